/- Proved: for every map and range grapevinelaw08.SpanKeeps answers true and leaves its arguments as they were. No condition. -/
import Derived.Test.YtcgjpkdpemlmbaaSpRefJ
import Derived.Test.YtcgjpkdpemlmbaaSpCopy
namespace Go.Proofs.Ytcgjpkdpemlmbaa
open Go.ChangeShapes Go.WideShapes Go.ChangeAt Go.RowKit
namespace spanKeeps

/-- What a call of a range tells, in one form. -/
theorem told_form {w : World} {B : Nat} {ok : Bool} {out : List Sp} {e : Ending} (h : RangeTold w B ok out e) : ∃ a n c, e = .returned (.tuple #[.slice a n c, .int .i64 (if ok = true then 0 else 2)]) ∧ Sps w B (.slice a n c) (if ok = true then out else []) := by
  rcases h with ⟨rfl, rfl⟩ | ⟨rfl, v, rfl, hv⟩
  · exact ⟨none, 0, 0, rfl, Sps.nil_ _ _⟩
  · obtain ⟨a, c, rfl, _⟩ := hv.form
    exact ⟨a, _, c, rfl, hv⟩

set_option maxRecDepth 100000 in
set_option maxHeartbeats 2000000 in
theorem walk (a : Option Addr) (n c : Nat) (l : List Sp) (f t : Int) (w : World) (ha : SpsRd w a n l) (hc : n ≤ c) (hcm : c ≤ maxLen) (nc : a = none → c = 0) :
    Calls Try.prog 4 #[.slice a n c, .agg #[.int .i64 f, .int .i64 t]] w fun e w' => e = .returned (.bool true) ∧ Below w.heap.size w w' := by
  have HA : Hid (SpsRd w a n l) := ha
  have HC : Hid (n ≤ c ∧ c ≤ maxLen) := ⟨hc, hcm⟩
  clear ha hc hcm
  obtain ⟨W0, HW0⟩ : ∃ W0, Hid (W0 = w.alloc (.cells #[.int .i64 f, .int .i64 t] 30)) := ⟨_, rfl⟩
  have HB0 : Hid (Below w.heap.size w W0) := by show Below _ _ _; rw [HW0.out]; exact below_new _ _
  have HK0 : Hid (Bk W0 w.heap.size #[.int .i64 f, .int .i64 t] 30) := by show Bk _ _ _ _; rw [HW0.out]; exact Bk.new _ _ _
  go_enter Try.func4, Try.ntmps4
  go_wp2_with fail
  rw [← HW0.out]
  refine (law_many a n c W0 (Nat.le_trans HC.out.1 HC.out.2)).mono ?_
  rintro e w1 ⟨he, hw⟩
  subst he
  rw [hw]
  clear hw w1
  by_cases ha4 : 400 < n
  · rw [decide_eq_true ha4]
    go_wp2_with fail
    refine (law_live _).mono ?_
    rintro e w2 ⟨rfl, hb2⟩
    have HB2 : Hid (Below w.heap.size w w2) := HB0.out.trans (hb2.mono HB0.out.size)
    clear hb2
    go_wp2
    go_ret
    exact ⟨rfl, HB2.out⟩
  rw [decide_eq_false ha4]
  have HX0 : Hid (Below W0.heap.size W0 (W0.alloc (.cells #[] 42))) := below_new _ _
  have HE0 : Hid (Sps (W0.alloc (.cells #[] 42)) W0.heap.size (.slice (some ⟨W0.heap.size, 0, none⟩) 0 0) []) := Sps.empty W0
  have HR0 : Hid (SpsRd (W0.alloc (.cells #[] 42)) a n l) := (HA.out.below HB0.out).below HX0.out
  go_wp2_with (at_builtin; refine wpList_append_sps rfl (.tmp 17) (.tmp 18) rfl W0.heap.size (.slice (some ⟨W0.heap.size, 0, none⟩) 0 0) [] rfl HE0.out a n c l rfl HR0.out nc (by simp; omega) HX0.out.size ?_)
  intro vx w1 hox hg
  have HB01 : Hid (Below W0.heap.size W0 w1) := HX0.out.trans (HE0.out.grown HX0.out.size hg)
  have HB1 : Hid (Below w.heap.size w w1) := HB0.out.trans (HB01.out.mono HB0.out.size)
  have HK1 : Hid (Bk w1 w.heap.size #[.int .i64 f, .int .i64 t] 30) := HK0.out.stay HB01.out
  obtain ⟨ax, cx, rfl, hlx⟩ := hox.form
  have HX : Hid (Sps w1 W0.heap.size (.slice ax n cx) l) := by
    have := hox
    rw [HA.out.size] at this
    exact this
  have hlax : l.length = n := HA.out.size
  rw [hlax] at hox hlx ⊢
  clear hox hg HE0 HR0 HX0 hlx hlax HB01 HK0
  have k0 : w1.cell? ⟨w.heap.size, 0, none⟩ = some (.int .i64 f) := HK1.out.cell 0 rfl
  have k1 : w1.cell? ⟨w.heap.size, 1, none⟩ = some (.int .i64 t) := HK1.out.cell 1 rfl
  go_wp2_with fail
  refine (span_Keep ax n cx l f t w1 HX.out.rd HX.out.big.1 HX.out.big.2).mono ?_
  rintro e w2 ⟨hk, hb2⟩
  obtain ⟨a2, n2, c2, rfl, hv2⟩ := told_form hk.out
  obtain ⟨ok, HOK⟩ : ∃ ok, Hid (ok = (rightB Sp.zr l && mayB f t)) := ⟨_, rfl⟩
  rw [← HOK.out] at hv2 ⊢
  obtain ⟨E, HE⟩ : ∃ E, Hid (E = if ok = true then (0 : Int) else 2) := ⟨_, rfl⟩
  rw [← HE.out]
  obtain ⟨K, HK⟩ : ∃ K, Hid (K = if ok = true then keepS l f t else []) := ⟨_, rfl⟩
  rw [← HK.out] at hv2
  have HV2 : Hid (Sps w2 w1.heap.size (.slice a2 n2 c2) K) := hv2
  have HB2 : Hid (Below w.heap.size w w2) := HB1.out.trans (hb2.mono HB1.out.size)
  have HX2 : Hid (Sps w2 W0.heap.size (.slice ax n cx) l) := HX.out.below hb2
  have HK2 : Hid (Bk w2 w.heap.size #[.int .i64 f, .int .i64 t] 30) := HK1.out.stay hb2
  clear hk hv2 hb2 HX HK1 k0 k1
  have k0 : w2.cell? ⟨w.heap.size, 0, none⟩ = some (.int .i64 f) := HK2.out.cell 0 rfl
  have k1 : w2.cell? ⟨w.heap.size, 1, none⟩ = some (.int .i64 t) := HK2.out.cell 1 rfl
  go_wp2_with fail
  refine (ref_Keep a n c l f t w2 (HA.out.below HB2.out) (by omega)).mono ?_
  rintro e w3 ⟨hk, hb3⟩
  obtain ⟨a3, n3, c3, rfl, hv3⟩ := told_form hk.out
  rw [← HOK.out, ← HK.out] at hv3
  rw [← HOK.out, ← HE.out]
  have HV3 : Hid (Sps w3 w2.heap.size (.slice a3 n3 c3) K) := hv3
  have HV23 : Hid (Sps w3 w1.heap.size (.slice a2 n2 c2) K) := HV2.out.below hb3
  have HB3 : Hid (Below w.heap.size w w3) := HB2.out.trans (hb3.mono HB2.out.size)
  have HX3 : Hid (Sps w3 W0.heap.size (.slice ax n cx) l) := HX2.out.below hb3
  have HK3 : Hid (Bk w3 w.heap.size #[.int .i64 f, .int .i64 t] 30) := HK2.out.stay hb3
  clear hk hv3 hb3 HX2 HK2 k0 k1 HV2
  have k0 : w3.cell? ⟨w.heap.size, 0, none⟩ = some (.int .i64 f) := HK3.out.cell 0 rfl
  have k1 : w3.cell? ⟨w.heap.size, 1, none⟩ = some (.int .i64 t) := HK3.out.cell 1 rfl
  go_wp2_with fail
  refine (span_Forget ax n cx l f t w3 HX3.out.rd HX3.out.big.1 HX3.out.big.2).mono ?_
  rintro e w4 ⟨hk, hb4⟩
  obtain ⟨a4, n4, c4, rfl, hv4⟩ := told_form hk.out
  obtain ⟨F, HF⟩ : ∃ F, Hid (F = if ok = true then forgetS l f t else []) := ⟨_, rfl⟩
  rw [← HOK.out, ← HF.out] at hv4
  rw [← HOK.out, ← HE.out]
  have HV4 : Hid (Sps w4 w3.heap.size (.slice a4 n4 c4) F) := hv4
  have HV34 : Hid (Sps w4 w2.heap.size (.slice a3 n3 c3) K) := HV3.out.below hb4
  have HV24 : Hid (Sps w4 w1.heap.size (.slice a2 n2 c2) K) := HV23.out.below hb4
  have HB4 : Hid (Below w.heap.size w w4) := HB3.out.trans (hb4.mono HB3.out.size)
  have HX4 : Hid (Sps w4 W0.heap.size (.slice ax n cx) l) := HX3.out.below hb4
  have HK4 : Hid (Bk w4 w.heap.size #[.int .i64 f, .int .i64 t] 30) := HK3.out.stay hb4
  clear hk hv4 hb4 HX3 HK3 k0 k1 HV3 HV23
  have k0 : w4.cell? ⟨w.heap.size, 0, none⟩ = some (.int .i64 f) := HK4.out.cell 0 rfl
  have k1 : w4.cell? ⟨w.heap.size, 1, none⟩ = some (.int .i64 t) := HK4.out.cell 1 rfl
  go_wp2_with fail
  refine (ref_Forget a n c l f t w4 (HA.out.below HB4.out) (by omega)).mono ?_
  rintro e w5 ⟨hk, hb5⟩
  obtain ⟨a5, n5, c5, rfl, hv5⟩ := told_form hk.out
  rw [← HOK.out, ← HF.out] at hv5
  rw [← HOK.out, ← HE.out]
  have HV5 : Hid (Sps w5 w4.heap.size (.slice a5 n5 c5) F) := hv5
  have HV45 : Hid (Sps w5 w3.heap.size (.slice a4 n4 c4) F) := HV4.out.below hb5
  have HV35 : Hid (Sps w5 w2.heap.size (.slice a3 n3 c3) K) := HV34.out.below hb5
  have HV25 : Hid (Sps w5 w1.heap.size (.slice a2 n2 c2) K) := HV24.out.below hb5
  have HB5 : Hid (Below w.heap.size w w5) := HB4.out.trans (hb5.mono HB4.out.size)
  have HX5 : Hid (Sps w5 W0.heap.size (.slice ax n cx) l) := HX4.out.below hb5
  clear hk hv5 hb5 HX4 HK4 k0 k1 HV4 HV34 HV24
  go_wp2_with fail
  refine (law_live _).mono ?_
  rintro e w6 ⟨rfl, hb6⟩
  have HB6 : Hid (Below w.heap.size w w6) := HB5.out.trans (hb6.mono HB5.out.size)
  have HX6 : Hid (Sps w6 W0.heap.size (.slice ax n cx) l) := HX5.out.below hb6
  have HV56 : Hid (Sps w6 w4.heap.size (.slice a5 n5 c5) F) := HV5.out.below hb6
  have HV46 : Hid (Sps w6 w3.heap.size (.slice a4 n4 c4) F) := HV45.out.below hb6
  have HV36 : Hid (Sps w6 w2.heap.size (.slice a3 n3 c3) K) := HV35.out.below hb6
  have HV26 : Hid (Sps w6 w1.heap.size (.slice a2 n2 c2) K) := HV25.out.below hb6
  clear hb6 HX5 HV5 HV45 HV35 HV25
  go_wp2_with fail
  refine (ref_Same a2 a3 n2 c2 n3 c3 K K w6 HV26.out.rd HV36.out.rd (Nat.le_trans HV26.out.big.1 HV26.out.big.2)).mono ?_
  rw [sameB_refl]
  rintro e w7 ⟨rfl, hb7⟩
  have HB7 : Hid (Below w.heap.size w w7) := HB6.out.trans (hb7.mono HB6.out.size)
  have HX7 : Hid (Sps w7 W0.heap.size (.slice ax n cx) l) := HX6.out.below hb7
  have HV57 : Hid (Sps w7 w4.heap.size (.slice a5 n5 c5) F) := HV56.out.below hb7
  have HV47 : Hid (Sps w7 w3.heap.size (.slice a4 n4 c4) F) := HV46.out.below hb7
  clear hb7 HX6 HV56 HV46 HV36 HV26
  go_wp2_with fail
  refine (ref_Same a4 a5 n4 c4 n5 c5 F F w7 HV47.out.rd HV57.out.rd (Nat.le_trans HV47.out.big.1 HV47.out.big.2)).mono ?_
  rw [sameB_refl]
  rintro e w8 ⟨rfl, hb8⟩
  have HB8 : Hid (Below w.heap.size w w8) := HB7.out.trans (hb8.mono HB7.out.size)
  have HX8 : Hid (Sps w8 W0.heap.size (.slice ax n cx) l) := HX7.out.below hb8
  clear hb8 HX7 HV57 HV47
  go_wp2_with fail
  refine (ref_Same ax a n cx n c l l w8 HX8.out.rd (HA.out.below HB8.out) (Nat.le_trans HX8.out.big.1 HX8.out.big.2)).mono ?_
  rw [sameB_refl]
  rintro e w9 ⟨rfl, hb9⟩
  have HB9 : Hid (Below w.heap.size w w9) := HB8.out.trans (hb9.mono HB8.out.size)
  clear hb9
  go_wp2
  go_ret
  exact ⟨rfl, HB9.out⟩

theorem contract (H : Type) (enc : TypeId × Value → H) (W : World) (base : Nat) (args : Array Value) (ds gs : List (DataW H)) (before : List MemPlace)
    (hval : ∀ (j : Nat) t v, Try.f4.params[j]? = some t → args[j]? = some v → Value.okWide Try.prog W .any base t v)
    (hW : DataW.Whole enc Try.prog Try.f4.params.toList Rows.spanKeepsSpec.vars false W args.toList ds gs before) :
    Calls Try.prog 4 args W fun e W' => ∃ v, e = .returned v ∧ Rows.spanKeepsSpec.post enc Try.prog Try.f4 false true false false W args v W' := by
  have hW' := hW
  obtain ⟨p, q, hA0, hV, rfl, hfz, hnd⟩ := hW
  have hA : DataW.TrodAll enc Try.prog W 0 (fun _ => true) true Try.f4.params.toList args.toList ds p := hA0
  have hK := hA
  rw [Try.params4] at hA hval
  obtain ⟨v0, vs0, d0, ds0, p0, q0, hargs, rfl, rfl, h0, r0⟩ := trodAll_cons hA
  obtain ⟨v1, vs1, d1, ds1, p1, q1, rfl, rfl, rfl, h1, r1⟩ := trodAll_cons r0
  obtain ⟨rfl, rfl, rfl⟩ := trodAll_nil r1
  obtain rfl : args = #[v0, v1] := by cases args; simp_all
  obtain ⟨rfl, rfl⟩ := trodVars_none hV
  obtain ⟨a0, len0, cap0, rfl⟩ := okWide_slice Try.underlying22 (hval 0 22 v0 rfl rfl)
  obtain ⟨l0, rd0, lc0, cm0, ft0⟩ := open_spans h0
  obtain ⟨f1, t1, rfl⟩ := open_range (hval 1 30 v1 rfl rfl) h1
  refine (walk a0 len0 cap0 l0 f1 t1 W rd0 lc0 cm0 (spans_nil h0)).mono fun e W' ⟨he, bel⟩ => ?_
  subst he
  exact ⟨_, rfl, _, _, _, [], _, [], hW', trodAll_mk1 (shut_bool Try.underlying4 _), trodAll_below laidOut bel _ _ _ _ (by kernel_rfl) hK, rfl, bel.frame _, fun h => by cases h⟩

set_option maxRecDepth 100000 in
theorem lifted (os : Os) (started : os.Started) (H : Type) (enc : TypeId × Value → H) :
    ReturnsInHanded {} Try.checked os 4 .any (Rows.spanKeepsSpec.pre6 enc Try.prog Try.f4 Rows.spanKeepsRow.domain false) (Rows.spanKeepsSpec.post enc Try.prog Try.f4 false true false false) := by
  refine returnsInHanded_of_change (C := Try.checked) own started (by kernel_rfl) Try.func4
    (ChangeSpec.witness6 (enc := enc) (C := Try.checked) false ⟨#[], #[.slice none 0 0, .agg #[.int .i64 0, .int .i64 0]], []⟩ 8 (by kernel_rfl) (by kernel_rfl) (by kernel_rfl) (by kernel_rfl)) ?_
  intro W base args ds gs before hval hW _ _
  exact contract H enc W base args ds gs before hval hW

theorem said : Rows.SpanKeepsSaid :=
  OpenClaim.holds_of_wide 4 Try.f4 rfl rfl rfl rfl rfl rfl rfl ⟨rfl, rfl, rfl, rfl, rfl⟩ rfl rfl rfl rfl rfl (by kernel_rfl) Try.func4 (by kernel_rfl)
    (of_decide_eq_true (by kernel_rfl)) (by unfold Func.isWrapper; first | (rw [if_pos (by decide +kernel)]; kernel_rfl) | (rw [if_neg (by decide +kernel)]; exact ⟨rfl, rfl⟩))
    (fun os started H enc _ => lifted os started H enc)
end spanKeeps

theorem spanKeeps_holds : Rows.SpanKeepsSaid := spanKeeps.said
end Go.Proofs.Ytcgjpkdpemlmbaa

