/- Proved: for every number grapevinelaw09.SectorNew answers true. No condition. -/
import Derived.Test.YtfkephohdfmnlaaSec5
import Derived.Test.YtfkephohdfmnlaaFrame
namespace Go.Proofs.Ytfkephohdfmnlaa
open Go.ChangeShapes Go.WideShapes Go.ChangeAt Go.RowKit
namespace sectorNew

set_option maxRecDepth 100000 in
set_option maxHeartbeats 1000000 in
theorem walk (n : Int) (w : World) : Calls Try.prog 3 #[.int .i64 n] w fun e w' => e = .returned (.bool true) ∧ Below w.heap.size w w' := by
  go_enter Try.func3, Try.ntmps3
  go_wp2_with fail
  refine (sector_New n w).mono ?_
  rintro e w1 ⟨ht, hb1⟩
  have HB1 : Hid (Below w.heap.size w w1) := hb1
  clear hb1
  rcases ht.out with ⟨h0, rfl⟩ | ⟨⟨h1, h2⟩, g, rfl, hd⟩
  · clear ht
    by_cases h1 : n < 1
    · go_wp2_with fail
      refine (law_live w1).mono ?_
      rintro e w2 ⟨rfl, hb2⟩
      have HB2 : Hid (Below w.heap.size w w2) := HB1.out.trans (hb2.mono HB1.out.size)
      clear hb2
      go_wp2
      go_ret
      exact ⟨rfl, HB2.out⟩
    · have h2 : 512 < n := by omega
      go_wp2_with fail
      refine (law_live w1).mono ?_
      rintro e w2 ⟨rfl, hb2⟩
      have HB2 : Hid (Below w.heap.size w w2) := HB1.out.trans (hb2.mono HB1.out.size)
      clear hb2
      go_wp2
      go_ret
      exact ⟨rfl, HB2.out⟩
  · have HD : Hid (Disk w1 w.heap.size g w.heap.size (.slice none 0 0) (newD n.toNat)) := hd
    have n1 : ¬ n < 1 := by omega
    have n2 : ¬ 512 < n := by omega
    clear ht hd
    go_wp2_with fail
    refine (law_live w1).mono ?_
    rintro e w2 ⟨rfl, hb2⟩
    have HB2 : Hid (Below w.heap.size w w2) := HB1.out.trans (hb2.mono HB1.out.size)
    have HD2 : Hid (Disk w2 w.heap.size g w.heap.size (.slice none 0 0) (newD n.toNat)) := HD.out.stay hb2
    clear hb2
    have hlen : ((newD n.toNat).sure.length : Int) = n := by rw [newD]; simp only [List.length_replicate]; omega
    go_wp2_with fail
    refine (disk_Size w2 _ g _ _ _ HD2.out).mono ?_
    rw [hlen]
    rintro e w0 ⟨rfl, hw⟩
    rw [hw]
    clear hw w0
    go_wp2_with fail
    refine (disk_Waits w2 _ g _ _ _ HD2.out).mono ?_
    rw [show (((newD n.toNat).waits.length : Nat) : Int) = 0 from rfl]
    rintro e w0 ⟨rfl, hw⟩
    rw [hw]
    clear hw w0
    go_wp2_with fail
    refine (disk_Down w2 _ g _ _ _ HD2.out).mono ?_
    rw [show (newD n.toNat).down = false from rfl]
    rintro e w0 ⟨rfl, hw⟩
    rw [hw]
    clear hw w0
    go_wp2
    go_ret
    exact ⟨rfl, HB2.out⟩

theorem contract (H : Type) (enc : TypeId × Value → H) (W : World) (base : Nat) (args : Array Value) (ds gs : List (DataW H)) (before : List MemPlace)
    (hval : ∀ (j : Nat) t v, Try.f3.params[j]? = some t → args[j]? = some v → Value.okWide Try.prog W .any base t v)
    (hW : DataW.Whole enc Try.prog Try.f3.params.toList Rows.sectorNewSpec.vars false W args.toList ds gs before) :
    Calls Try.prog 3 args W fun e W' => ∃ v, e = .returned v ∧ Rows.sectorNewSpec.post enc Try.prog Try.f3 false true false false W args v W' := by
  have hW' := hW
  obtain ⟨p, q, hA0, hV, rfl, hfz, hnd⟩ := hW
  have hA : DataW.TrodAll enc Try.prog W 0 (fun _ => true) true Try.f3.params.toList args.toList ds p := hA0
  have hK := hA
  rw [Try.params3] at hA hval
  obtain ⟨v0, vs0, d0, ds0, p0, q0, hargs, rfl, rfl, h0, r0⟩ := trodAll_cons hA
  obtain ⟨rfl, rfl, rfl⟩ := trodAll_nil r0
  obtain rfl : args = #[v0] := by cases args; simp_all
  obtain ⟨rfl, rfl⟩ := trodVars_none hV
  obtain ⟨x0, rfl, rfl, rfl, w0⟩ := open_int Try.underlying3 (hval 0 3 v0 rfl rfl) h0
  have b0 : (-9223372036854775808 : Int) ≤ x0 ∧ x0 ≤ 9223372036854775807 := by simpa [Lit.wf, IntKind.min, IntKind.max, IntKind.signed, IntKind.bits] using w0
  refine (walk x0 W).mono fun e W' ⟨he, bel⟩ => ?_
  subst he
  exact ⟨_, rfl, _, _, _, [], _, [], hW', trodAll_mk1 (shut_bool Try.underlying4 _), trodAll_below laidOut bel _ _ _ _ (by kernel_rfl) hK, rfl, bel.frame _, fun h => by cases h⟩

set_option maxRecDepth 100000 in
theorem lifted (os : Os) (started : os.Started) (H : Type) (enc : TypeId × Value → H) :
    ReturnsInHanded {} Try.checked os 3 .any (Rows.sectorNewSpec.pre6 enc Try.prog Try.f3 Rows.sectorNewRow.domain false) (Rows.sectorNewSpec.post enc Try.prog Try.f3 false true false false) := by
  refine returnsInHanded_of_change (C := Try.checked) own started (by kernel_rfl) Try.func3
    (ChangeSpec.witness6 (enc := enc) (C := Try.checked) false ⟨#[], #[.int .i64 0], []⟩ 8 (by kernel_rfl) (by kernel_rfl) (by kernel_rfl) (by kernel_rfl)) ?_
  intro W base args ds gs before hval hW _ _
  exact contract H enc W base args ds gs before hval hW

theorem said : Rows.SectorNewSaid :=
  OpenClaim.holds_of_wide 3 Try.f3 rfl rfl rfl rfl rfl rfl rfl ⟨rfl, rfl, rfl, rfl, rfl⟩ rfl rfl rfl rfl rfl (by kernel_rfl) Try.func3 (by kernel_rfl)
    (of_decide_eq_true (by kernel_rfl)) (by unfold Func.isWrapper; first | (rw [if_pos (by decide +kernel)]; kernel_rfl) | (rw [if_neg (by decide +kernel)]; exact ⟨rfl, rfl⟩))
    (fun os started H enc _ => lifted os started H enc)
end sectorNew

theorem sectorNew_holds : Rows.SectorNewSaid := sectorNew.said
end Go.Proofs.Ytfkephohdfmnlaa

