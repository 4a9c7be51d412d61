/- Proved: for every map, range and tick grapevinelaw08.SpanParts answers true and leaves its arguments as they were. No condition. -/
import Derived.Test.YthelgjpkgnffeacSpRange
namespace Go.Proofs.Ythelgjpkgnffeac
open Go.ChangeShapes Go.WideShapes Go.ChangeAt Go.RowKit
namespace spanParts

set_option maxRecDepth 100000 in
set_option maxHeartbeats 1000000 in
theorem walk (a : Option Addr) (n c : Nat) (l : List Sp) (f t u : Int) (w : World) (ha : SpsRd w a n l) (hc : n ≤ c) (hcm : c ≤ maxLen) :
    Calls Try.prog 3 #[.slice a n c, .agg #[.int .i64 f, .int .i64 t], .int .i64 u] w fun e w' => e = .returned (.bool true) ∧ Below w.heap.size w w' := by
  have HA : Hid (SpsRd w a n l) := ha
  have HC : Hid (n ≤ c ∧ c ≤ maxLen) := ⟨hc, hcm⟩
  clear ha hc hcm
  have HB0 : Hid (Below w.heap.size w (w.alloc (.cells #[.int .i64 f, .int .i64 t] 24))) := below_new _ _
  have HK0 : Hid (Bk (w.alloc (.cells #[.int .i64 f, .int .i64 t] 24)) w.heap.size #[.int .i64 f, .int .i64 t] 24) := Bk.new _ _ _
  go_enter Try.func3, Try.ntmps3
  go_wp2_with fail
  refine (span_Keep a n c l f t _ (HA.out.below HB0.out) HC.out.1 HC.out.2).mono ?_
  rintro e w1 ⟨hk, hb1⟩
  have HB1 : Hid (Below w.heap.size w w1) := HB0.out.trans (hb1.mono HB0.out.size)
  have HK1 : Hid (Bk w1 w.heap.size #[.int .i64 f, .int .i64 t] 24) := HK0.out.stay hb1
  clear hb1
  have k0 : w1.cell? ⟨w.heap.size, 0, none⟩ = some (.int .i64 f) := HK1.out.cell 0 rfl
  have k1 : w1.cell? ⟨w.heap.size, 1, none⟩ = some (.int .i64 t) := HK1.out.cell 1 rfl
  rcases hk.out with ⟨hok, rfl⟩ | ⟨hok, v1, rfl, hv1⟩
  · have HOK : Hid ((rightB Sp.zr l && mayB f t) = false) := hok
    clear hk hok
    go_wp2_with fail
    refine (span_Forget a n c l f t _ (HA.out.below HB1.out) HC.out.1 HC.out.2).mono ?_
    rintro e w2 ⟨hk, hb2⟩
    have HB2 : Hid (Below w.heap.size w w2) := HB1.out.trans (hb2.mono HB1.out.size)
    clear hb2
    rcases hk.out with ⟨_, rfl⟩ | ⟨h2, _⟩
    · clear hk k0 k1
      go_wp2_with fail
      refine (law_live _).mono ?_
      rintro e w3 ⟨rfl, hb3⟩
      have HB3 : Hid (Below w.heap.size w w3) := HB2.out.trans (hb3.mono HB2.out.size)
      clear hb3
      go_wp2
      go_ret
      exact ⟨rfl, HB3.out⟩
    · rw [HOK.out] at h2
      cases h2
  · have HOK : Hid ((rightB Sp.zr l && mayB f t) = true) := hok
    rw [Bool.and_eq_true] at hok
    have HRS : Hid (RightS Sp.zr l) := (rightB_iff _ _).1 hok.1
    have HMB : Hid (1 ≤ f ∧ f ≤ t ∧ t ≤ 1099511627776) := (mayB_iff _ _).1 hok.2
    obtain ⟨a1, n1, c1, rfl, hm1⟩ := hv1.ok (keep_right l Sp.zr Sp.zr f t HRS.out (Int.le_refl _) (fun _ => rfl))
    have HM1 : Hid (MapOk w1 a1 n1 c1 (keepS l f t)) := hm1
    clear hk hok hv1 hm1
    go_wp2_with fail
    refine (span_Forget a n c l f t _ (HA.out.below HB1.out) HC.out.1 HC.out.2).mono ?_
    rintro e w2 ⟨hk, hb2⟩
    have HB2 : Hid (Below w.heap.size w w2) := HB1.out.trans (hb2.mono HB1.out.size)
    have HM1' : Hid (MapOk w2 a1 n1 c1 (keepS l f t)) := HM1.out.below hb2
    clear hb2 HM1
    rcases hk.out with ⟨h2, _⟩ | ⟨_, v2, rfl, hv2⟩
    · rw [HOK.out] at h2
      cases h2
    obtain ⟨a2, n2, c2, rfl, hm2⟩ := hv2.ok (forget_right l Sp.zr Sp.zr f t HMB.out.2.1 HRS.out (Int.le_refl _) (fun _ => rfl))
    have HM2 : Hid (MapOk w2 a2 n2 c2 (forgetS l f t)) := hm2
    clear hk hv2 hm2 k0 k1
    go_wp2_with fail
    refine (span_Join_ok HM1'.out HM2.out).mono ?_
    rintro e w3 ⟨⟨a3, n3, c3, l3, rfl, HM3, HT3⟩, hb3⟩
    have HB3 : Hid (Below w.heap.size w w3) := HB2.out.trans (hb3.mono HB2.out.size)
    have HM13 : Hid (MapOk w3 a1 n1 c1 (keepS l f t)) := HM1'.out.below hb3
    have HM23 : Hid (MapOk w3 a2 n2 c2 (forgetS l f t)) := HM2.out.below hb3
    clear hb3 HM1' HM2
    have HCK : Hid (countR (keepS l f t) 1 = countS (keepS l f t) 1) := countR_ok ((rightB_iff _ _).2 HM13.out.right)
    have HCF : Hid (countR (forgetS l f t) 1 = countS (forgetS l f t) 1) := countR_ok ((rightB_iff _ _).2 HM23.out.right)
    have HCL : Hid (countR l 1 = countS l 1) := countR_ok ((rightB_iff _ _).2 HRS.out)
    have hcs := count_parts l Sp.zr f t 1 HMB.out.1 HMB.out.2.1 HMB.out.2.2 (by decide) HRS.out
    have hbk := count_bound (keepS l f t) Sp.zr 1 (by decide) HM13.out.right
    have hbf := count_bound (forgetS l f t) Sp.zr 1 (by decide) HM23.out.right
    simp only [Sp.zr] at hbk hbf
    obtain ⟨x1, hx1⟩ : ∃ x, x = countS (keepS l f t) 1 := ⟨_, rfl⟩
    obtain ⟨x2, hx2⟩ : ∃ x, x = countS (forgetS l f t) 1 := ⟨_, rfl⟩
    rw [← hx1] at HCK hcs hbk
    rw [← hx2] at HCF hcs hbf
    clear hx1 hx2
    go_wp2_with fail
    refine (span_Count a1 n1 c1 (keepS l f t) 1 w3 HM13.out.rd HM13.out.len).mono ?_
    rw [HCK.out]
    rintro e w4 ⟨rfl, hb4⟩
    have HB4 : Hid (Below w.heap.size w w4) := HB3.out.trans (hb4.mono HB3.out.size)
    have HM34 : Hid (MapOk w4 a3 n3 c3 l3) := HM3.out.below hb4
    have HM14 : Hid (MapOk w4 a1 n1 c1 (keepS l f t)) := HM13.out.below hb4
    have HM24 : Hid (MapOk w4 a2 n2 c2 (forgetS l f t)) := HM23.out.below hb4
    clear hb4 HM3 HM13 HM23
    go_wp2_with fail
    refine (span_Count a2 n2 c2 (forgetS l f t) 1 w4 HM24.out.rd HM24.out.len).mono ?_
    rw [HCF.out]
    rintro e w5 ⟨rfl, hb5⟩
    have HB5 : Hid (Below w.heap.size w w5) := HB4.out.trans (hb5.mono HB4.out.size)
    have HM35 : Hid (MapOk w5 a3 n3 c3 l3) := HM34.out.below hb5
    have HM15 : Hid (MapOk w5 a1 n1 c1 (keepS l f t)) := HM14.out.below hb5
    have HM25 : Hid (MapOk w5 a2 n2 c2 (forgetS l f t)) := HM24.out.below hb5
    clear hb5 HM34 HM14 HM24
    go_wp2_with fail
    refine (law_live _).mono ?_
    rintro e w6 ⟨rfl, hb6⟩
    have HB6 : Hid (Below w.heap.size w w6) := HB5.out.trans (hb6.mono HB5.out.size)
    have HM36 : Hid (MapOk w6 a3 n3 c3 l3) := HM35.out.below hb6
    have HM16 : Hid (MapOk w6 a1 n1 c1 (keepS l f t)) := HM15.out.below hb6
    have HM26 : Hid (MapOk w6 a2 n2 c2 (forgetS l f t)) := HM25.out.below hb6
    clear hb6 HM35 HM15 HM25
    go_wp2_with fail
    refine (ref_Same_ok HM36.out (⟨HA.out.below HB6.out, HC.out.1, HC.out.2, HRS.out⟩ : MapOk w6 a n c l) (fun z => by rw [HT3.out, keep_forget HMB.out.2.1 HRS.out])).mono ?_
    rintro e w7 ⟨rfl, hb7⟩
    have HB7 : Hid (Below w.heap.size w w7) := HB6.out.trans (hb7.mono HB6.out.size)
    have HM17 : Hid (MapOk w7 a1 n1 c1 (keepS l f t)) := HM16.out.below hb7
    have HM27 : Hid (MapOk w7 a2 n2 c2 (forgetS l f t)) := HM26.out.below hb7
    clear hb7 HM36 HM16 HM26
    go_wp2_with fail
    refine (span_At a1 n1 c1 (keepS l f t) u w7 HM17.out.rd HM17.out.len).mono ?_
    rintro e w8 ⟨rfl, hb8⟩
    have HB8 : Hid (Below w.heap.size w w8) := HB7.out.trans (hb8.mono HB7.out.size)
    have HM28 : Hid (MapOk w8 a2 n2 c2 (forgetS l f t)) := HM27.out.below hb8
    clear hb8 HM27 HM17
    have HOR : Hid (atS (keepS l f t) u = 0 ∨ atS (forgetS l f t) u = 0) := keep_or HMB.out.2.1 HRS.out u
    by_cases hz : atS (keepS l f t) u = 0
    · rw [hz]
      go_wp2_with fail
      refine (span_Count a n c l 1 w8 (HA.out.below HB8.out) (Nat.le_trans HC.out.1 HC.out.2)).mono ?_
      rw [HCL.out, ← hcs]
      rintro e w9 ⟨rfl, hb9⟩
      have HB9 : Hid (Below w.heap.size w w9) := HB8.out.trans (hb9.mono HB8.out.size)
      clear hb9
      go_wp2
      go_ret
      exact ⟨rfl, HB9.out⟩
    · have HZ2 : Hid (atS (forgetS l f t) u = 0) := by
        rcases HOR.out with h | h
        · exact absurd h hz
        · exact h
      have hz' : (atS (keepS l f t) u == 0) = false := by simpa using hz
      generalize atS (keepS l f t) u = y at *
      go_wp2_with fail
      refine (span_At a2 n2 c2 (forgetS l f t) u w8 HM28.out.rd HM28.out.len).mono ?_
      rw [HZ2.out]
      rintro e w9 ⟨rfl, hb9⟩
      have HB9 : Hid (Below w.heap.size w w9) := HB8.out.trans (hb9.mono HB8.out.size)
      clear hb9
      go_wp2_with fail
      refine (span_Count a n c l 1 w9 (HA.out.below HB9.out) (Nat.le_trans HC.out.1 HC.out.2)).mono ?_
      rw [HCL.out, ← hcs]
      rintro e w10 ⟨rfl, hb10⟩
      have HB10 : Hid (Below w.heap.size w w10) := HB9.out.trans (hb10.mono HB9.out.size)
      clear hb10
      go_wp2
      go_ret
      exact ⟨rfl, HB10.out⟩

theorem contract (H : Type) (enc : TypeId × Value → H) (W : World) (base : Nat) (args : Array Value) (ds gs : List (DataW H)) (before : List MemPlace)
    (hval : ∀ (j : Nat) t v, Try.f3.params[j]? = some t → args[j]? = some v → Value.okWide Try.prog W .any base t v)
    (hW : DataW.Whole enc Try.prog Try.f3.params.toList Rows.spanPartsSpec.vars false W args.toList ds gs before) :
    Calls Try.prog 3 args W fun e W' => ∃ v, e = .returned v ∧ Rows.spanPartsSpec.post enc Try.prog Try.f3 false true false false W args v W' := by
  have hW' := hW
  obtain ⟨p, q, hA0, hV, rfl, hfz, hnd⟩ := hW
  have hA : DataW.TrodAll enc Try.prog W 0 (fun _ => true) true Try.f3.params.toList args.toList ds p := hA0
  have hK := hA
  rw [Try.params3] at hA hval
  obtain ⟨v0, vs0, d0, ds0, p0, q0, hargs, rfl, rfl, h0, r0⟩ := trodAll_cons hA
  obtain ⟨v1, vs1, d1, ds1, p1, q1, rfl, rfl, rfl, h1, r1⟩ := trodAll_cons r0
  obtain ⟨v2, vs2, d2, ds2, p2, q2, rfl, rfl, rfl, h2, r2⟩ := trodAll_cons r1
  obtain ⟨rfl, rfl, rfl⟩ := trodAll_nil r2
  obtain rfl : args = #[v0, v1, v2] := by cases args; simp_all
  obtain ⟨rfl, rfl⟩ := trodVars_none hV
  obtain ⟨a0, len0, cap0, rfl⟩ := okWide_slice Try.underlying22 (hval 0 22 v0 rfl rfl)
  obtain ⟨l0, rd0, lc0, cm0, ft0⟩ := open_spans h0
  obtain ⟨x2, rfl, rfl, rfl, w2⟩ := open_int Try.underlying3 (hval 2 3 v2 rfl rfl) h2
  have b2 : (-9223372036854775808 : Int) ≤ x2 ∧ x2 ≤ 9223372036854775807 := by simpa [Lit.wf, IntKind.min, IntKind.max, IntKind.signed, IntKind.bits] using w2
  obtain ⟨f1, t1, rfl⟩ := open_range (hval 1 24 v1 rfl rfl) h1
  refine (walk a0 len0 cap0 l0 f1 t1 x2 W rd0 lc0 cm0).mono fun e W' ⟨he, bel⟩ => ?_
  subst he
  exact ⟨_, rfl, _, _, _, [], _, [], hW', trodAll_mk1 (shut_bool Try.underlying4 _), trodAll_below laidOut bel _ _ _ _ (by kernel_rfl) hK, rfl, bel.frame _, fun h => by cases h⟩

set_option maxRecDepth 100000 in
theorem lifted (os : Os) (started : os.Started) (H : Type) (enc : TypeId × Value → H) :
    ReturnsInHanded {} Try.checked os 3 .any (Rows.spanPartsSpec.pre6 enc Try.prog Try.f3 Rows.spanPartsRow.domain false) (Rows.spanPartsSpec.post enc Try.prog Try.f3 false true false false) := by
  refine returnsInHanded_of_change (C := Try.checked) own started (by kernel_rfl) Try.func3
    (ChangeSpec.witness6 (enc := enc) (C := Try.checked) false ⟨#[], #[.slice none 0 0, .agg #[.int .i64 0, .int .i64 0], .int .i64 0], []⟩ 8 (by kernel_rfl) (by kernel_rfl) (by kernel_rfl) (by kernel_rfl)) ?_
  intro W base args ds gs before hval hW _ _
  exact contract H enc W base args ds gs before hval hW

theorem said : Rows.SpanPartsSaid :=
  OpenClaim.holds_of_wide 3 Try.f3 rfl rfl rfl rfl rfl rfl rfl ⟨rfl, rfl, rfl, rfl, rfl⟩ rfl rfl rfl rfl rfl (by kernel_rfl) Try.func3 (by kernel_rfl)
    (of_decide_eq_true (by kernel_rfl)) (by unfold Func.isWrapper; first | (rw [if_pos (by decide +kernel)]; kernel_rfl) | (rw [if_neg (by decide +kernel)]; exact ⟨rfl, rfl⟩))
    (fun os started H enc _ => lifted os started H enc)
end spanParts

theorem spanParts_holds : Rows.SpanPartsSaid := spanParts.said
end Go.Proofs.Ythelgjpkgnffeac

