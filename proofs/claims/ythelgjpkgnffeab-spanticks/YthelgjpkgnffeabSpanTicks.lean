/- Proved: for every two maps and tick grapevinelaw08.SpanTicks answers true and leaves its arguments as they were. No condition. -/
import Derived.Test.YthelgjpkgnffeabSpFrame
namespace Go.Proofs.Ythelgjpkgnffeab
open Go.ChangeShapes Go.WideShapes Go.ChangeAt Go.RowKit
namespace spanTicks

theorem big {w : World} {B : Nat} {a : Option Addr} {n c : Nat} {l : List Sp} (h : Sps w B (.slice a n c) l) : n ≤ c ∧ c ≤ maxLen := by
  rcases h.row.2 with ⟨h1, _⟩ | ⟨g', c', cur, h1, _, _, h4, h5, _⟩
  · simp only [Value.slice.injEq] at h1
    obtain ⟨_, rfl, rfl⟩ := h1
    exact ⟨Nat.le_refl _, Nat.zero_le _⟩
  · simp only [Value.slice.injEq] at h1
    obtain ⟨_, rfl, rfl⟩ := h1
    exact ⟨h4, h5⟩

set_option maxRecDepth 100000 in
set_option maxHeartbeats 1000000 in
theorem walk (a b : Option Addr) (na ca nb cb : Nat) (la lb : List Sp) (t : Int) (w : World) (ha : SpsRd w a na la) (hb : SpsRd w b nb lb) (hca : na ≤ ca) (hcma : ca ≤ maxLen) (hcb : nb ≤ cb) (hcmb : cb ≤ maxLen) :
    Calls Try.prog 5 #[.slice a na ca, .slice b nb cb, .int .i64 t] w fun e w' => e = .returned (.bool true) ∧ Below w.heap.size w w' := by
  have HA : Hid (SpsRd w a na la) := ha
  have HBB : Hid (SpsRd w b nb lb) := hb
  have HCA : Hid (na ≤ ca ∧ ca ≤ maxLen) := ⟨hca, hcma⟩
  have HCB : Hid (nb ≤ cb ∧ cb ≤ maxLen) := ⟨hcb, hcmb⟩
  clear ha hb hca hcma hcb hcmb
  go_enter Try.func5, Try.ntmps5
  go_wp2_with fail
  refine (span_Join a b na ca nb cb la lb w HA.out HBB.out HCA.out.1 HCA.out.2 HCB.out.1 HCB.out.2).mono ?_
  rintro e w1 ⟨hj, hb1⟩
  have HB1 : Hid (Below w.heap.size w w1) := hb1
  clear hb1
  rcases hj.out with ⟨hbad, rfl⟩ | ⟨hra, hrb, v, l, rfl, hv, hr, ht⟩
  · have HBAD : Hid (rightB Sp.zr la = false ∨ rightB Sp.zr lb = false) := hbad
    clear hbad hj
    go_wp2_with fail
    refine (law_live _).mono ?_
    rintro e w2 ⟨rfl, hb2⟩
    have HB2 : Hid (Below w.heap.size w w2) := HB1.out.trans (hb2.mono HB1.out.size)
    clear hb2
    go_wp2_with fail
    refine (span_Right a na ca la w2 (HA.out.below HB2.out) (Nat.le_trans HCA.out.1 HCA.out.2)).mono ?_
    rintro e w3 ⟨rfl, hb3⟩
    have HB3 : Hid (Below w.heap.size w w3) := HB2.out.trans (hb3.mono HB2.out.size)
    clear hb3
    cases hra : rightB Sp.zr la with
    | false =>
      clear hra
      go_wp2
      go_ret
      exact ⟨rfl, HB3.out⟩
    | true =>
      have HX : Hid (rightB Sp.zr lb = false) := by
        rcases HBAD.out with h | h
        · rw [hra] at h; cases h
        · exact h
      clear hra
      go_wp2_with fail
      refine (span_Right b nb cb lb w3 (HBB.out.below HB3.out) (Nat.le_trans HCB.out.1 HCB.out.2)).mono ?_
      rw [HX.out]
      rintro e w4 ⟨rfl, hb4⟩
      have HB4 : Hid (Below w.heap.size w w4) := HB3.out.trans (hb4.mono HB3.out.size)
      clear hb4
      go_wp2
      go_ret
      exact ⟨rfl, HB4.out⟩
  · obtain ⟨av, cv, rfl, _⟩ := hv.form
    have HV : Hid (Sps w1 w.heap.size (.slice av l.length cv) l) := hv
    have HRL : Hid (rightB Sp.zr l = true) := (rightB_iff _ _).2 hr
    have HT : Hid (atS l t = max (atS la t) (atS lb t)) := ht t
    have HCV := big hv
    have HCV : Hid (l.length ≤ cv ∧ cv ≤ maxLen) := HCV
    clear hj hra hrb hv hr ht
    go_wp2_with fail
    refine (law_live _).mono ?_
    rintro e w2 ⟨rfl, hb2⟩
    have HB2 : Hid (Below w.heap.size w w2) := HB1.out.trans (hb2.mono HB1.out.size)
    have HV2 : Hid (SpsRd w2 av l.length l) := HV.out.rd.below hb2
    clear hb2
    go_wp2_with fail
    refine (span_Right av l.length cv l w2 HV2.out (Nat.le_trans HCV.out.1 HCV.out.2)).mono ?_
    rw [HRL.out]
    rintro e w3 ⟨rfl, hb3⟩
    have HB3 : Hid (Below w.heap.size w w3) := HB2.out.trans (hb3.mono HB2.out.size)
    have HV3 : Hid (SpsRd w3 av l.length l) := HV2.out.below hb3
    clear hb3
    go_wp2_with fail
    refine (span_At av l.length cv l t w3 HV3.out (Nat.le_trans HCV.out.1 HCV.out.2)).mono ?_
    rintro e w4 ⟨rfl, hb4⟩
    have HB4 : Hid (Below w.heap.size w w4) := HB3.out.trans (hb4.mono HB3.out.size)
    clear hb4
    go_wp2_with fail
    refine (span_At a na ca la t w4 (HA.out.below HB4.out) (Nat.le_trans HCA.out.1 HCA.out.2)).mono ?_
    rintro e w5 ⟨rfl, hb5⟩
    have HB5 : Hid (Below w.heap.size w w5) := HB4.out.trans (hb5.mono HB4.out.size)
    clear hb5
    go_wp2_with fail
    refine (span_At b nb cb lb t w5 (HBB.out.below HB5.out) (Nat.le_trans HCB.out.1 HCB.out.2)).mono ?_
    rintro e w6 ⟨rfl, hb6⟩
    have HB6 : Hid (Below w.heap.size w w6) := HB5.out.trans (hb6.mono HB5.out.size)
    clear hb6
    generalize atS l t = x at *
    generalize atS la t = y at *
    generalize atS lb t = z at *
    have r2 : ∀ w', (Builtin.max_ #[23, 23] 23 #[.int .i64 y, .int .i64 z]).run Try.prog w' = .ok (.int .i64 x) w' := fun w' => by rw [HT.out]; exact run_max_i _ _ _ _ _
    go_wp2
    go_ret
    exact ⟨rfl, HB6.out⟩

theorem contract (H : Type) (enc : TypeId × Value → H) (W : World) (base : Nat) (args : Array Value) (ds gs : List (DataW H)) (before : List MemPlace)
    (hval : ∀ (j : Nat) t v, Try.f5.params[j]? = some t → args[j]? = some v → Value.okWide Try.prog W .any base t v)
    (hW : DataW.Whole enc Try.prog Try.f5.params.toList Rows.spanTicksSpec.vars false W args.toList ds gs before) :
    Calls Try.prog 5 args W fun e W' => ∃ v, e = .returned v ∧ Rows.spanTicksSpec.post enc Try.prog Try.f5 false true false false W args v W' := by
  have hW' := hW
  obtain ⟨p, q, hA0, hV, rfl, hfz, hnd⟩ := hW
  have hA : DataW.TrodAll enc Try.prog W 0 (fun _ => true) true Try.f5.params.toList args.toList ds p := hA0
  have hK := hA
  rw [Try.params5] at hA hval
  obtain ⟨v0, vs0, d0, ds0, p0, q0, hargs, rfl, rfl, h0, r0⟩ := trodAll_cons hA
  obtain ⟨v1, vs1, d1, ds1, p1, q1, rfl, rfl, rfl, h1, r1⟩ := trodAll_cons r0
  obtain ⟨v2, vs2, d2, ds2, p2, q2, rfl, rfl, rfl, h2, r2⟩ := trodAll_cons r1
  obtain ⟨rfl, rfl, rfl⟩ := trodAll_nil r2
  obtain rfl : args = #[v0, v1, v2] := by cases args; simp_all
  obtain ⟨rfl, rfl⟩ := trodVars_none hV
  obtain ⟨a0, len0, cap0, rfl⟩ := okWide_slice Try.underlying22 (hval 0 22 v0 rfl rfl)
  obtain ⟨l0, rd0, lc0, cm0, ft0⟩ := open_spans h0
  obtain ⟨a1, len1, cap1, rfl⟩ := okWide_slice Try.underlying22 (hval 1 22 v1 rfl rfl)
  obtain ⟨l1, rd1, lc1, cm1, ft1⟩ := open_spans h1
  obtain ⟨x2, rfl, rfl, rfl, w2⟩ := open_int Try.underlying3 (hval 2 3 v2 rfl rfl) h2
  have b2 : (-9223372036854775808 : Int) ≤ x2 ∧ x2 ≤ 9223372036854775807 := by simpa [Lit.wf, IntKind.min, IntKind.max, IntKind.signed, IntKind.bits] using w2
  refine (walk a0 a1 len0 cap0 len1 cap1 l0 l1 x2 W rd0 rd1 lc0 cm0 lc1 cm1).mono fun e W' ⟨he, bel⟩ => ?_
  subst he
  exact ⟨_, rfl, _, _, _, [], _, [], hW', trodAll_mk1 (shut_bool Try.underlying4 _), trodAll_below laidOut bel _ _ _ _ (by kernel_rfl) hK, rfl, bel.frame _, fun h => by cases h⟩

set_option maxRecDepth 100000 in
theorem lifted (os : Os) (started : os.Started) (H : Type) (enc : TypeId × Value → H) :
    ReturnsInHanded {} Try.checked os 5 .any (Rows.spanTicksSpec.pre6 enc Try.prog Try.f5 Rows.spanTicksRow.domain false) (Rows.spanTicksSpec.post enc Try.prog Try.f5 false true false false) := by
  refine returnsInHanded_of_change (C := Try.checked) own started (by kernel_rfl) Try.func5
    (ChangeSpec.witness6 (enc := enc) (C := Try.checked) false ⟨#[], #[.slice none 0 0, .slice none 0 0, .int .i64 0], []⟩ 8 (by kernel_rfl) (by kernel_rfl) (by kernel_rfl) (by kernel_rfl)) ?_
  intro W base args ds gs before hval hW _ _
  exact contract H enc W base args ds gs before hval hW

theorem said : Rows.SpanTicksSaid :=
  OpenClaim.holds_of_wide 5 Try.f5 rfl rfl rfl rfl rfl rfl rfl ⟨rfl, rfl, rfl, rfl, rfl⟩ rfl rfl rfl rfl rfl (by kernel_rfl) Try.func5 (by kernel_rfl)
    (of_decide_eq_true (by kernel_rfl)) (by unfold Func.isWrapper; first | (rw [if_pos (by decide +kernel)]; kernel_rfl) | (rw [if_neg (by decide +kernel)]; exact ⟨rfl, rfl⟩))
    (fun os started H enc _ => lifted os started H enc)
end spanTicks

theorem spanTicks_holds : Rows.SpanTicksSaid := spanTicks.said
end Go.Proofs.Ythelgjpkgnffeab

