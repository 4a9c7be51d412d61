/- Proved: for every map and range grapevinelaw08.SpanGaps answers true and leaves its arguments as they were. No condition. -/
import Derived.Test.YtcgjpkdpemlmbaaSpRefJ
import Derived.Test.YtcgjpkdpemlmbaaSpCopy
import Derived.Test.YtcgjpkdpemlmbaaSpGap
namespace Go.Proofs.Ytcgjpkdpemlmbaa
open Go.ChangeShapes Go.WideShapes Go.ChangeAt Go.RowKit
namespace spanGaps

/-- What a call of a range tells, in one form. -/
theorem told_form {w : World} {B : Nat} {ok : Bool} {out : List Sp} {e : Ending} (h : RangeTold w B ok out e) : ∃ a n c, e = .returned (.tuple #[.slice a n c, .int .i64 (if ok = true then 0 else 2)]) ∧ Sps w B (.slice a n c) (if ok = true then out else []) := by
  rcases h with ⟨rfl, rfl⟩ | ⟨rfl, v, rfl, hv⟩
  · exact ⟨none, 0, 0, rfl, Sps.nil_ _ _⟩
  · obtain ⟨a, c, rfl, _⟩ := hv.form
    exact ⟨a, _, c, rfl, hv⟩

set_option maxRecDepth 100000 in
set_option maxHeartbeats 2000000 in
theorem walk (a : Option Addr) (n c : Nat) (l : List Sp) (f t : Int) (w : World) (ha : SpsRd w a n l) (hc : n ≤ c) (hcm : c ≤ maxLen) :
    Calls Try.prog 5 #[.slice a n c, .agg #[.int .i64 f, .int .i64 t]] w fun e w' => e = .returned (.bool true) ∧ Below w.heap.size w w' := by
  have HA : Hid (SpsRd w a n l) := ha
  have HC : Hid (n ≤ c ∧ c ≤ maxLen) := ⟨hc, hcm⟩
  clear ha hc hcm
  obtain ⟨W0, HW0⟩ : ∃ W0, Hid (W0 = w.alloc (.cells #[.int .i64 f, .int .i64 t] 30)) := ⟨_, rfl⟩
  have HB1 : Hid (Below w.heap.size w W0) := by show Below _ _ _; rw [HW0.out]; exact below_new _ _
  have HK1 : Hid (Bk W0 w.heap.size #[.int .i64 f, .int .i64 t] 30) := by show Bk _ _ _ _; rw [HW0.out]; exact Bk.new _ _ _
  have k0 : W0.cell? ⟨w.heap.size, 0, none⟩ = some (.int .i64 f) := HK1.out.cell 0 rfl
  have k1 : W0.cell? ⟨w.heap.size, 1, none⟩ = some (.int .i64 t) := HK1.out.cell 1 rfl
  go_enter Try.func5, Try.ntmps5
  go_wp2_with fail
  rw [← HW0.out]
  refine (law_many a n c W0 (Nat.le_trans HC.out.1 HC.out.2)).mono ?_
  rintro e w1 ⟨he, hw⟩
  subst he
  rw [hw]
  clear hw w1
  by_cases ha4 : 400 < n
  · rw [decide_eq_true ha4]
    go_wp2_with fail
    refine (law_live _).mono ?_
    rintro e w2 ⟨rfl, hb2⟩
    have HB2 : Hid (Below w.heap.size w w2) := HB1.out.trans (hb2.mono HB1.out.size)
    clear hb2
    go_wp2
    go_ret
    exact ⟨rfl, HB2.out⟩
  rw [decide_eq_false ha4]
  go_wp2_with fail
  refine (span_Gaps a n c l f t W0 (HA.out.below HB1.out) HC.out.1 HC.out.2).mono ?_
  rintro e w2 ⟨hk, hb2⟩
  obtain ⟨a2, n2, c2, rfl, hv2⟩ := told_form hk.out
  obtain ⟨ok, HOK⟩ : ∃ ok, Hid (ok = (rightB Sp.zr l && mayB f t)) := ⟨_, rfl⟩
  rw [← HOK.out] at hv2 ⊢
  obtain ⟨E, HE⟩ : ∃ E, Hid (E = if ok = true then (0 : Int) else 2) := ⟨_, rfl⟩
  rw [← HE.out]
  obtain ⟨K, HK⟩ : ∃ K, Hid (K = if ok = true then gapsS 1 l f t else []) := ⟨_, rfl⟩
  rw [← HK.out] at hv2
  have HV2 : Hid (Sps w2 W0.heap.size (.slice a2 n2 c2) K) := hv2
  have HB2 : Hid (Below w.heap.size w w2) := HB1.out.trans (hb2.mono HB1.out.size)
  have HK2 : Hid (Bk w2 w.heap.size #[.int .i64 f, .int .i64 t] 30) := HK1.out.stay hb2
  clear hk hv2 hb2 HK1 k0 k1
  have k0 : w2.cell? ⟨w.heap.size, 0, none⟩ = some (.int .i64 f) := HK2.out.cell 0 rfl
  have k1 : w2.cell? ⟨w.heap.size, 1, none⟩ = some (.int .i64 t) := HK2.out.cell 1 rfl
  go_wp2_with fail
  refine (ref_Gaps a n c l f t w2 (HA.out.below HB2.out) (by omega)).mono ?_
  rintro e w3 ⟨hk, hb3⟩
  obtain ⟨a3, n3, c3, rfl, hv3⟩ := told_form hk.out
  rw [← HOK.out, ← HK.out] at hv3
  rw [← HOK.out, ← HE.out]
  have HV3 : Hid (Sps w3 w2.heap.size (.slice a3 n3 c3) K) := hv3
  have HV23 : Hid (Sps w3 W0.heap.size (.slice a2 n2 c2) K) := HV2.out.below hb3
  have HB3 : Hid (Below w.heap.size w w3) := HB2.out.trans (hb3.mono HB2.out.size)
  clear hk hv3 hb3 HK2 k0 k1 HV2
  go_wp2_with fail
  refine (law_live _).mono ?_
  rintro e w6 ⟨rfl, hb6⟩
  have HB6 : Hid (Below w.heap.size w w6) := HB3.out.trans (hb6.mono HB3.out.size)
  have HV36 : Hid (Sps w6 w2.heap.size (.slice a3 n3 c3) K) := HV3.out.below hb6
  have HV26 : Hid (Sps w6 W0.heap.size (.slice a2 n2 c2) K) := HV23.out.below hb6
  clear hb6 HV3 HV23
  go_wp2_with fail
  refine (ref_Same a2 a3 n2 c2 n3 c3 K K w6 HV26.out.rd HV36.out.rd (Nat.le_trans HV26.out.big.1 HV26.out.big.2)).mono ?_
  rw [sameB_refl]
  rintro e w7 ⟨rfl, hb7⟩
  have HB7 : Hid (Below w.heap.size w w7) := HB6.out.trans (hb7.mono HB6.out.size)
  clear hb7
  go_wp2
  go_ret
  exact ⟨rfl, HB7.out⟩

theorem contract (H : Type) (enc : TypeId × Value → H) (W : World) (base : Nat) (args : Array Value) (ds gs : List (DataW H)) (before : List MemPlace)
    (hval : ∀ (j : Nat) t v, Try.f5.params[j]? = some t → args[j]? = some v → Value.okWide Try.prog W .any base t v)
    (hW : DataW.Whole enc Try.prog Try.f5.params.toList Rows.spanGapsSpec.vars false W args.toList ds gs before) :
    Calls Try.prog 5 args W fun e W' => ∃ v, e = .returned v ∧ Rows.spanGapsSpec.post enc Try.prog Try.f5 false true false false W args v W' := by
  have hW' := hW
  obtain ⟨p, q, hA0, hV, rfl, hfz, hnd⟩ := hW
  have hA : DataW.TrodAll enc Try.prog W 0 (fun _ => true) true Try.f5.params.toList args.toList ds p := hA0
  have hK := hA
  rw [Try.params5] at hA hval
  obtain ⟨v0, vs0, d0, ds0, p0, q0, hargs, rfl, rfl, h0, r0⟩ := trodAll_cons hA
  obtain ⟨v1, vs1, d1, ds1, p1, q1, rfl, rfl, rfl, h1, r1⟩ := trodAll_cons r0
  obtain ⟨rfl, rfl, rfl⟩ := trodAll_nil r1
  obtain rfl : args = #[v0, v1] := by cases args; simp_all
  obtain ⟨rfl, rfl⟩ := trodVars_none hV
  obtain ⟨a0, len0, cap0, rfl⟩ := okWide_slice Try.underlying22 (hval 0 22 v0 rfl rfl)
  obtain ⟨l0, rd0, lc0, cm0, ft0⟩ := open_spans h0
  obtain ⟨f1, t1, rfl⟩ := open_range (hval 1 30 v1 rfl rfl) h1
  refine (walk a0 len0 cap0 l0 f1 t1 W rd0 lc0 cm0).mono fun e W' ⟨he, bel⟩ => ?_
  subst he
  exact ⟨_, rfl, _, _, _, [], _, [], hW', trodAll_mk1 (shut_bool Try.underlying4 _), trodAll_below laidOut bel _ _ _ _ (by kernel_rfl) hK, rfl, bel.frame _, fun h => by cases h⟩

set_option maxRecDepth 100000 in
theorem lifted (os : Os) (started : os.Started) (H : Type) (enc : TypeId × Value → H) :
    ReturnsInHanded {} Try.checked os 5 .any (Rows.spanGapsSpec.pre6 enc Try.prog Try.f5 Rows.spanGapsRow.domain false) (Rows.spanGapsSpec.post enc Try.prog Try.f5 false true false false) := by
  refine returnsInHanded_of_change (C := Try.checked) own started (by kernel_rfl) Try.func5
    (ChangeSpec.witness6 (enc := enc) (C := Try.checked) false ⟨#[], #[.slice none 0 0, .agg #[.int .i64 0, .int .i64 0]], []⟩ 8 (by kernel_rfl) (by kernel_rfl) (by kernel_rfl) (by kernel_rfl)) ?_
  intro W base args ds gs before hval hW _ _
  exact contract H enc W base args ds gs before hval hW

theorem said : Rows.SpanGapsSaid :=
  OpenClaim.holds_of_wide 5 Try.f5 rfl rfl rfl rfl rfl rfl rfl ⟨rfl, rfl, rfl, rfl, rfl⟩ rfl rfl rfl rfl rfl (by kernel_rfl) Try.func5 (by kernel_rfl)
    (of_decide_eq_true (by kernel_rfl)) (by unfold Func.isWrapper; first | (rw [if_pos (by decide +kernel)]; kernel_rfl) | (rw [if_neg (by decide +kernel)]; exact ⟨rfl, rfl⟩))
    (fun os started H enc _ => lifted os started H enc)
end spanGaps

theorem spanGaps_holds : Rows.SpanGapsSaid := spanGaps.said
end Go.Proofs.Ytcgjpkdpemlmbaa

