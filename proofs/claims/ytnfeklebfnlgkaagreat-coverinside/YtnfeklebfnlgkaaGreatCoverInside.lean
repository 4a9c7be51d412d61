/- Proved: for every two boxes grapevinelaw06.CoverInside answers true and leaves its arguments as they were. No condition. -/
import Derived.Test.YtnfeklebfnlgkaaGreatCvR3
import Derived.Test.YtnfeklebfnlgkaaGreatCvA
namespace Go.Proofs.YtnfeklebfnlgkaaGreat
open Go.ChangeShapes Go.WideShapes Go.ChangeAt Go.RowKit
namespace coverInside

set_option maxRecDepth 100000 in
set_option maxHeartbeats 4000000 in
theorem walk (a : Option Addr) (n ca : Nat) (la : List Sq) (b : Option Addr) (m cb : Nat) (lb : List Sq) (w : World) (ha : SqsRd w a n la) (hia : ∀ s ∈ la, SqIn s) (hb : SqsRd w b m lb) (hib : ∀ s ∈ lb, SqIn s) : Calls Tryz.prog 4 #[.slice a n ca, .slice b m cb] w fun e w' => e = .returned (.bool true) ∧ Below w.heap.size w w' := by
  have HTA : Hid (∀ s ∈ la, 0 ≤ s.tr ∧ s.tr ≤ 255) := fun s hs => (hia s hs).tr
  have HTB : Hid (∀ s ∈ lb, 0 ≤ s.tr ∧ s.tr ≤ 255) := fun s hs => (hib s hs).tr
  have HNA : Hid (∀ s ∈ la, (s.ia = none → s.ic = 0) ∧ (s.oa = none → s.oc = 0)) := fun s hs => ⟨(hia s hs).inc, (hia s hs).ouc⟩
  have HNB : Hid (∀ s ∈ lb, (s.ia = none → s.ic = 0) ∧ (s.oa = none → s.oc = 0)) := fun s hs => ⟨(hib s hs).inc, (hib s hs).ouc⟩
  have HA : Hid (SqsRd w a n la) := ha
  have HBB : Hid (SqsRd w b m lb) := hb
  have H1 : Hid (∀ w', Below w.heap.size w w' → Calls Tryz.prog 9 #[.slice a n ca, .slice b m cb] w' fun e w'' => e = .returned (.tuple #[.bool (insE n la m lb).1, .int .i64 (insE n la m lb).2]) ∧ Below w'.heap.size w' w'') := fun w' h => cv_Inside a n ca la b m cb lb w' (HA.out.below h) (HBB.out.below h) HTA.out HTB.out
  have H2 : Hid (∀ w', Below w.heap.size w w' → Calls Tryz.prog 10 #[.slice a n ca, .slice b m cb] w' fun e w'' => e = .returned (.tuple #[.bool (insE n la m lb).1, .int .i64 (insE n la m lb).2]) ∧ Below w'.heap.size w' w'') := fun w' h => ref_Inside a n ca la b m cb lb w' (HA.out.below h) (HBB.out.below h) HTA.out HTB.out HNA.out HNB.out
  clear HTA HTB HNA HNB HA HBB ha hia hb hib
  generalize insE n la m lb = R1 at *
  obtain ⟨x1, e1⟩ := R1
  simp only at H1 H2
  go_enter Tryz.func4, Tryz.ntmps4
  go_wp2_with fail
  refine (H1.out w (Below.refl _ _)).mono ?_
  rintro e w1 ⟨rfl, hb1⟩
  have HX1 : Hid (Below w.heap.size w w1) := hb1
  clear hb1
  go_wp2_with fail
  refine (H2.out w1 HX1.out).mono ?_
  rintro e w2 ⟨rfl, hb2⟩
  have HX2 : Hid (Below w.heap.size w w2) := HX1.out.trans (hb2.mono HX1.out.size)
  clear hb2
  go_wp2_with fail
  refine (law_live06 _).mono ?_
  rintro e w4 ⟨rfl, hb4⟩
  have HX4 : Hid (Below w.heap.size w w4) := HX2.out.trans (hb4.mono HX2.out.size)
  clear hb4 H1 H2 HX1 HX2
  have e2 : (e1 == e1) = true := by simp
  cases x1 with
  | true =>
    go_wp2
    go_returns
    exact ⟨by simp, HX4.out⟩
  | false =>
    go_wp2
    go_returns
    exact ⟨by simp, HX4.out⟩

set_option maxRecDepth 100000 in
theorem contract (H : Type) (enc : TypeId × Value → H) (W : World) (base : Nat) (args : Array Value) (ds gs : List (DataW H)) (before : List MemPlace)
    (hval : ∀ (j : Nat) t v, Tryz.f4.params[j]? = some t → args[j]? = some v → Value.okWide Tryz.prog W .any base t v)
    (hW : DataW.Whole enc Tryz.prog Tryz.f4.params.toList Rows.coverInsideSpec.vars false W args.toList ds gs before) :
    Calls Tryz.prog 4 args W fun e W' => ∃ v, e = .returned v ∧ Rows.coverInsideSpec.post enc Tryz.prog Tryz.f4 false true false false W args v W' := by
  have hW' := hW
  obtain ⟨p, q, hA0, hV, rfl, hfz, hnd⟩ := hW
  have hA : DataW.TrodAll enc Tryz.prog W 0 (fun _ => true) true Tryz.f4.params.toList args.toList ds p := hA0
  have hK := hA
  rw [Tryz.params4] at hA hval
  obtain ⟨v0, vs0, d0, ds0, p0, q0, hargs, rfl, rfl, h0, r0⟩ := trodAll_cons hA
  obtain ⟨v1, vs1, d1, ds1, p1, q1, rfl, rfl, rfl, h1, r1⟩ := trodAll_cons r0
  obtain ⟨rfl, rfl, rfl⟩ := trodAll_nil r1
  obtain rfl : args = #[v0, v1] := by cases args; simp_all
  obtain ⟨rfl, rfl⟩ := trodVars_none hV
  obtain ⟨a0, len0, cap0, rfl⟩ := okWide_slice Tryz.underlying22 (hval 0 22 v0 rfl rfl)
  obtain ⟨l0, sr0, si0⟩ := open_sides h0
  obtain ⟨a1, len1, cap1, rfl⟩ := okWide_slice Tryz.underlying22 (hval 1 22 v1 rfl rfl)
  obtain ⟨l1, sr1, si1⟩ := open_sides h1
  refine (walk a0 len0 cap0 l0 a1 len1 cap1 l1 W sr0 si0 sr1 si1).mono fun e W' ⟨he, bel⟩ => ?_
  subst he
  exact ⟨_, rfl, _, _, _, [], _, [], hW', trodAll_mk1 (shut_bool Tryz.underlying4 _), trodAll_below laidOut bel _ _ _ _ (by kernel_rfl) hK, rfl, bel.frame _, fun h => by cases h⟩

set_option maxRecDepth 100000 in
theorem lifted (os : Os) (started : os.Started) (H : Type) (enc : TypeId × Value → H) :
    ReturnsInHanded {} Tryz.checked os 4 .any (Rows.coverInsideSpec.pre6 enc Tryz.prog Tryz.f4 Rows.coverInsideRow.domain false) (Rows.coverInsideSpec.post enc Tryz.prog Tryz.f4 false true false false) := by
  refine returnsInHanded_of_change (C := Tryz.checked) own started (by kernel_rfl) Tryz.func4
    (ChangeSpec.witness6 (enc := enc) (C := Tryz.checked) false ⟨#[], #[.slice none 0 0, .slice none 0 0], []⟩ 8 (by kernel_rfl) (by kernel_rfl) (by kernel_rfl) (by kernel_rfl)) ?_
  intro W base args ds gs before hval hW _ _
  exact contract H enc W base args ds gs before hval hW

theorem said : Rows.CoverInsideSaid :=
  OpenClaim.holds_of_wide 4 Tryz.f4 rfl rfl rfl rfl rfl rfl rfl ⟨rfl, rfl, rfl, rfl, rfl⟩ rfl rfl rfl rfl rfl (by kernel_rfl) Tryz.func4 (by kernel_rfl)
    (of_decide_eq_true (by kernel_rfl)) (by unfold Func.isWrapper; first | (rw [if_pos (by decide +kernel)]; kernel_rfl) | (rw [if_neg (by decide +kernel)]; exact ⟨rfl, rfl⟩))
    (fun os started H enc _ => lifted os started H enc)
end coverInside

theorem coverInside_holds : Rows.CoverInsideSaid := coverInside.said
end Go.Proofs.YtnfeklebfnlgkaaGreat

