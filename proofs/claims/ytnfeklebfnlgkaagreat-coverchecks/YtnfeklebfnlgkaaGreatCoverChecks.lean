/- Proved: for every box grapevinelaw06.CoverChecks answers true and leaves its argument as it was. No condition. -/
import Derived.Test.YtnfeklebfnlgkaaGreatCvC5
import Derived.Test.YtnfeklebfnlgkaaGreatCvA
namespace Go.Proofs.YtnfeklebfnlgkaaGreat
open Go.ChangeShapes Go.WideShapes Go.ChangeAt Go.RowKit
namespace coverChecks

set_option maxRecDepth 100000 in
theorem walk (a : Option Addr) (n cap : Nat) (l : List Sq) (w : World) (hr : SqsRd w a n l) (hi : ∀ s ∈ l, SqIn s) : Calls Tryz.prog 3 #[.slice a n cap] w fun e w' => e = .returned (.bool true) ∧ Below w.heap.size w w' := by
  have HR : Hid (SqsRd w a n l) := hr
  have HI : Hid (∀ s ∈ l, (s.ia = none → s.ic = 0) ∧ (s.oa = none → s.oc = 0)) := fun s hs => ⟨(hi s hs).inc, (hi s hs).ouc⟩
  clear hr hi
  obtain ⟨f, HC, HF⟩ : ∃ f : Int, Hid (∀ w', Below w.heap.size w w' → Calls Tryz.prog 7 #[.slice a n cap] w' fun e w'' => e = .returned (.int .i64 f) ∧ Below w'.heap.size w' w'') ∧ Hid (∀ w', Below w.heap.size w w' → Calls Tryz.prog 8 #[.slice a n cap] w' fun e w'' => e = .returned (.int .i64 f) ∧ Below w'.heap.size w' w'') := by
    by_cases h8 : 8 < n
    · refine ⟨6, fun w' _ => (cv_CheckBox_long a n cap w' h8).mono ?_, fun w' _ => (ref_CheckBox_long a n cap w' h8).mono ?_⟩
      · rintro e w2 ⟨rfl, rfl⟩
        exact ⟨rfl, Below.refl _ _⟩
      · rintro e w2 ⟨rfl, rfl⟩
        exact ⟨rfl, Below.refl _ _⟩
    · exact ⟨boxE l ⟨#[]⟩, fun w' hb => cv_CheckBox a n cap l w' (HR.out.below hb) (by omega), fun w' hb => ref_CheckBox a n cap l w' (HR.out.below hb) HI.out (by omega)⟩
  clear HR HI
  go_enter Tryz.func3, Tryz.ntmps3
  go_wp2_with fail
  refine (law_live06 _).mono ?_
  rintro e w1 ⟨rfl, hb1⟩
  have HB1 : Hid (Below w.heap.size w w1) := hb1
  clear hb1
  go_wp2_with fail
  refine (HC.out w1 HB1.out).mono ?_
  rintro e w2 ⟨rfl, hb2⟩
  have HB2 : Hid (Below w.heap.size w w2) := HB1.out.trans (hb2.mono HB1.out.size)
  clear hb2
  go_wp2_with fail
  refine (HF.out w2 HB2.out).mono ?_
  rintro e w3 ⟨rfl, hb3⟩
  have HB3 : Hid (Below w.heap.size w w3) := HB2.out.trans (hb3.mono HB2.out.size)
  clear hb3
  go_wp2
  go_returns
  exact ⟨by simp, HB3.out⟩

set_option maxRecDepth 100000 in
theorem contract (H : Type) (enc : TypeId × Value → H) (W : World) (base : Nat) (args : Array Value) (ds gs : List (DataW H)) (before : List MemPlace)
    (hval : ∀ (j : Nat) t v, Tryz.f3.params[j]? = some t → args[j]? = some v → Value.okWide Tryz.prog W .any base t v)
    (hW : DataW.Whole enc Tryz.prog Tryz.f3.params.toList Rows.coverChecksSpec.vars false W args.toList ds gs before) :
    Calls Tryz.prog 3 args W fun e W' => ∃ v, e = .returned v ∧ Rows.coverChecksSpec.post enc Tryz.prog Tryz.f3 false true false false W args v W' := by
  have hW' := hW
  obtain ⟨p, q, hA0, hV, rfl, hfz, hnd⟩ := hW
  have hA : DataW.TrodAll enc Tryz.prog W 0 (fun _ => true) true Tryz.f3.params.toList args.toList ds p := hA0
  have hK := hA
  rw [Tryz.params3] at hA hval
  obtain ⟨v0, vs0, d0, ds0, p0, q0, hargs, rfl, rfl, h0, r0⟩ := trodAll_cons hA
  obtain ⟨rfl, rfl, rfl⟩ := trodAll_nil r0
  obtain rfl : args = #[v0] := by cases args; simp_all
  obtain ⟨rfl, rfl⟩ := trodVars_none hV
  obtain ⟨a0, len0, cap0, rfl⟩ := okWide_slice Tryz.underlying22 (hval 0 22 v0 rfl rfl)
  obtain ⟨l0, sr0, si0⟩ := open_sides h0
  refine (walk a0 len0 cap0 l0 W sr0 si0).mono fun e W' ⟨he, bel⟩ => ?_
  subst he
  exact ⟨_, rfl, _, _, _, [], _, [], hW', trodAll_mk1 (shut_bool Tryz.underlying4 _), trodAll_below laidOut bel _ _ _ _ (by kernel_rfl) hK, rfl, bel.frame _, fun h => by cases h⟩

set_option maxRecDepth 100000 in
theorem lifted (os : Os) (started : os.Started) (H : Type) (enc : TypeId × Value → H) :
    ReturnsInHanded {} Tryz.checked os 3 .any (Rows.coverChecksSpec.pre6 enc Tryz.prog Tryz.f3 Rows.coverChecksRow.domain false) (Rows.coverChecksSpec.post enc Tryz.prog Tryz.f3 false true false false) := by
  refine returnsInHanded_of_change (C := Tryz.checked) own started (by kernel_rfl) Tryz.func3
    (ChangeSpec.witness6 (enc := enc) (C := Tryz.checked) false ⟨#[], #[.slice none 0 0], []⟩ 8 (by kernel_rfl) (by kernel_rfl) (by kernel_rfl) (by kernel_rfl)) ?_
  intro W base args ds gs before hval hW _ _
  exact contract H enc W base args ds gs before hval hW

theorem said : Rows.CoverChecksSaid :=
  OpenClaim.holds_of_wide 3 Tryz.f3 rfl rfl rfl rfl rfl rfl rfl ⟨rfl, rfl, rfl, rfl, rfl⟩ rfl rfl rfl rfl rfl (by kernel_rfl) Tryz.func3 (by kernel_rfl)
    (of_decide_eq_true (by kernel_rfl)) (by unfold Func.isWrapper; first | (rw [if_pos (by decide +kernel)]; kernel_rfl) | (rw [if_neg (by decide +kernel)]; exact ⟨rfl, rfl⟩))
    (fun os started H enc _ => lifted os started H enc)
end coverChecks

theorem coverChecks_holds : Rows.CoverChecksSaid := coverChecks.said
end Go.Proofs.YtnfeklebfnlgkaaGreat

