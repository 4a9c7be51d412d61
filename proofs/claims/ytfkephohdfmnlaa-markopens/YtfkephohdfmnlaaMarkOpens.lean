/- Proved: for every three numbers grapevinelaw10.MarkOpens answers true. No condition. -/
import Derived.Test.YtfkephohdfmnlaaMk7
import Derived.Test.YtfkephohdfmnlaaFrame
namespace Go.Proofs.Ytfkephohdfmnlaa
open Go.ChangeShapes Go.WideShapes Go.ChangeAt Go.RowKit
namespace markOpens

theorem look_new (N : Nat) (p : Int) : lookB (newD N) p = (0, 0) := by
  unfold lookB
  split
  · have e : nowB (newD N) p.toNat = (List.replicate N (List.replicate 64 0)).getD p.toNat [] := rfl
    rw [e, List.getD_eq_getElem?_getD, List.getElem?_replicate]
    split
    · decide
    · decide
  · rfl
theorem get_new (N b m : Nat) : getB (newD N) b m 0 = (0, false) := by
  unfold getB
  split
  · unfold standB
    rw [look_new, look_new]
    rfl
  · rfl
set_option maxRecDepth 100000 in
set_option maxHeartbeats 2000000 in
theorem walk (n b c : Int) (w : World) : Calls Try.prog 7 #[.int .i64 n, .int .i64 b, .int .i64 c] w fun e w' => e = .returned (.bool true) ∧ Below w.heap.size w w' := by
  obtain ⟨U, hU⟩ : ∃ U : Nat, IntKind.u64.wrap n = (U : Int) := ⟨(n % 18446744073709551616).toNat, by rw [IntKind.wrap_u64]; omega⟩
  have hU2 : U < 18446744073709551616 := by rw [IntKind.wrap_u64] at hU; omega
  go_enter Try.func7, Try.ntmps7
  go_wp2_with fail
  obtain ⟨N, hN⟩ : ∃ N : Nat, 1 + (U : Int) % 64 = (N : Int) := ⟨1 + U % 64, by omega⟩
  have hN1 : 1 ≤ N := by omega
  have hN2 : N ≤ 64 := by omega
  rw [hN]
  clear hN hU hU2
  refine (sector_New (N : Int) w).mono ?_
  rintro e w1 ⟨ht, hb1⟩
  rcases ht.out with ⟨h0, _⟩ | ⟨_, g, rfl, hd⟩
  · exact absurd ⟨by omega, by omega⟩ h0
  rw [Int.toNat_natCast] at hd
  have HL : Hid ((newD N).sure.length = N) := List.length_replicate
  have HG : Hid (∀ b m, getB (newD N) b m 0 = (0, false)) := get_new N
  have HW0 : Hid ((newD N).waits.length = 0) := rfl
  obtain ⟨D, HDe⟩ : ∃ D, Hid (D = newD N) := ⟨_, rfl⟩
  rw [← HDe.out] at hd HL HG HW0
  have HDk : Hid (Disk w1 w.heap.size g w.heap.size (.slice none 0 0) D) := hd
  have HB1 : Hid (Below w.heap.size w w1) := hb1
  clear ht hd hb1 HDe
  go_wp2_with fail
  refine (mark_Open w1 w.heap.size g w.heap.size (.slice none 0 0) D b c HDk.out).mono ?_
  rw [HL.out]
  rintro e w2 ⟨ht, hb2⟩
  have HDk2 : Hid (Disk w2 w.heap.size g w.heap.size (.slice none 0 0) D) := HDk.out.stay hb2
  have HB2 : Hid (Below w.heap.size w w2) := HB1.out.trans (hb2.mono HB1.out.size)
  clear hb2
  rcases ht.out with ⟨h0, rfl⟩ | ⟨h0, rfl, hc⟩
  · unfold mayC at h0
    clear ht
    by_cases h1 : 1 ≤ c
    · by_cases h2 : c ≤ 32
      · by_cases h3 : 0 ≤ b
        · obtain ⟨m, rfl⟩ := Int.eq_ofNat_of_zero_le (show 0 ≤ c by omega)
          obtain ⟨k, rfl⟩ := Int.eq_ofNat_of_zero_le h3
          have h5 : decide ((k : Int) ≤ (N : Int) - 2 * (m : Int)) = false := decide_eq_false (by omega)
          clear h0
          go_wp2_with fail
          refine (law_live10 w2).mono ?_
          rintro e w3 ⟨rfl, hb3⟩
          have HB3 : Hid (Below w.heap.size w w3) := HB2.out.trans (hb3.mono HB2.out.size)
          clear hb3
          go_wp2
          go_ret
          exact ⟨rfl, HB3.out⟩
        · clear h0
          go_wp2_with fail
          refine (law_live10 w2).mono ?_
          rintro e w3 ⟨rfl, hb3⟩
          have HB3 : Hid (Below w.heap.size w w3) := HB2.out.trans (hb3.mono HB2.out.size)
          clear hb3
          go_wp2
          go_ret
          exact ⟨rfl, HB3.out⟩
      · clear h0
        go_wp2_with fail
        refine (law_live10 w2).mono ?_
        rintro e w3 ⟨rfl, hb3⟩
        have HB3 : Hid (Below w.heap.size w w3) := HB2.out.trans (hb3.mono HB2.out.size)
        clear hb3
        go_wp2
        go_ret
        exact ⟨rfl, HB3.out⟩
    · clear h0
      go_wp2_with fail
      refine (law_live10 w2).mono ?_
      rintro e w3 ⟨rfl, hb3⟩
      have HB3 : Hid (Below w.heap.size w w3) := HB2.out.trans (hb3.mono HB2.out.size)
      clear hb3
      go_wp2
      go_ret
      exact ⟨rfl, HB3.out⟩
  · obtain ⟨⟨h1, h2⟩, h3, h4⟩ := h0
    obtain ⟨m, rfl⟩ := Int.eq_ofNat_of_zero_le (show 0 ≤ c by omega)
    obtain ⟨k, rfl⟩ := Int.eq_ofNat_of_zero_le h3
    have HC2 : Hid (Cs w2 w1.heap.size g k m) := by rw [Int.toNat_natCast, Int.toNat_natCast] at hc; exact hc
    clear ht hc
    go_wp2_with fail
    refine (cells_Get w2 w.heap.size g w.heap.size (.slice none 0 0) D w1.heap.size k m 0 HDk2.out HC2.out (by omega) (by omega)).mono ?_
    rw [HG.out]
    rintro e w3 ⟨rfl, hb3⟩
    have HDk3 : Hid (Disk w3 w.heap.size g w.heap.size (.slice none 0 0) D) := HDk2.out.stay hb3
    have HC3 : Hid (Cs w3 w1.heap.size g k m) := HC2.out.stay hb3
    have HB3 : Hid (Below w.heap.size w w3) := HB2.out.trans (hb3.mono HB2.out.size)
    clear hb3
    go_wp2_with fail
    refine (law_live10 w3).mono ?_
    rintro e w4 ⟨rfl, hb4⟩
    have HDk4 : Hid (Disk w4 w.heap.size g w.heap.size (.slice none 0 0) D) := HDk3.out.stay hb4
    have HC4 : Hid (Cs w4 w1.heap.size g k m) := HC3.out.stay hb4
    have HB4 : Hid (Below w.heap.size w w4) := HB3.out.trans (hb4.mono HB3.out.size)
    clear hb4
    go_wp2_with fail
    refine (cells_Count w4 w1.heap.size g k m HC4.out).mono ?_
    rintro e w' ⟨rfl, hw⟩
    subst w'
    go_wp2_with fail
    refine (disk_Waits w4 w.heap.size g w.heap.size (.slice none 0 0) D HDk4.out).mono ?_
    rw [HW0.out]
    rintro e w' ⟨rfl, hw⟩
    subst w'
    go_wp2
    go_ret
    exact ⟨rfl, HB4.out⟩

theorem contract (H : Type) (enc : TypeId × Value → H) (W : World) (base : Nat) (args : Array Value) (ds gs : List (DataW H)) (before : List MemPlace)
    (hval : ∀ (j : Nat) t v, Try.f7.params[j]? = some t → args[j]? = some v → Value.okWide Try.prog W .any base t v)
    (hW : DataW.Whole enc Try.prog Try.f7.params.toList Rows.markOpensSpec.vars false W args.toList ds gs before) :
    Calls Try.prog 7 args W fun e W' => ∃ v, e = .returned v ∧ Rows.markOpensSpec.post enc Try.prog Try.f7 false true false false W args v W' := by
  have hW' := hW
  obtain ⟨p, q, hA0, hV, rfl, hfz, hnd⟩ := hW
  have hA : DataW.TrodAll enc Try.prog W 0 (fun _ => true) true Try.f7.params.toList args.toList ds p := hA0
  have hK := hA
  rw [Try.params7] at hA hval
  obtain ⟨v0, vs0, d0, ds0, p0, q0, hargs, rfl, rfl, h0, r0⟩ := trodAll_cons hA
  obtain ⟨v1, vs1, d1, ds1, p1, q1, rfl, rfl, rfl, h1, r1⟩ := trodAll_cons r0
  obtain ⟨v2, vs2, d2, ds2, p2, q2, rfl, rfl, rfl, h2, r2⟩ := trodAll_cons r1
  obtain ⟨rfl, rfl, rfl⟩ := trodAll_nil r2
  obtain rfl : args = #[v0, v1, v2] := by cases args; simp_all
  obtain ⟨rfl, rfl⟩ := trodVars_none hV
  obtain ⟨x0, rfl, rfl, rfl, w0⟩ := open_int Try.underlying3 (hval 0 3 v0 rfl rfl) h0
  have b0 : (-9223372036854775808 : Int) ≤ x0 ∧ x0 ≤ 9223372036854775807 := by simpa [Lit.wf, IntKind.min, IntKind.max, IntKind.signed, IntKind.bits] using w0
  obtain ⟨x1, rfl, rfl, rfl, w1⟩ := open_int Try.underlying3 (hval 1 3 v1 rfl rfl) h1
  have b1 : (-9223372036854775808 : Int) ≤ x1 ∧ x1 ≤ 9223372036854775807 := by simpa [Lit.wf, IntKind.min, IntKind.max, IntKind.signed, IntKind.bits] using w1
  obtain ⟨x2, rfl, rfl, rfl, w2⟩ := open_int Try.underlying3 (hval 2 3 v2 rfl rfl) h2
  have b2 : (-9223372036854775808 : Int) ≤ x2 ∧ x2 ≤ 9223372036854775807 := by simpa [Lit.wf, IntKind.min, IntKind.max, IntKind.signed, IntKind.bits] using w2
  refine (walk x0 x1 x2 W).mono fun e W' ⟨he, bel⟩ => ?_
  subst he
  exact ⟨_, rfl, _, _, _, [], _, [], hW', trodAll_mk1 (shut_bool Try.underlying4 _), trodAll_below laidOut bel _ _ _ _ (by kernel_rfl) hK, rfl, bel.frame _, fun h => by cases h⟩

set_option maxRecDepth 100000 in
theorem lifted (os : Os) (started : os.Started) (H : Type) (enc : TypeId × Value → H) :
    ReturnsInHanded {} Try.checked os 7 .any (Rows.markOpensSpec.pre6 enc Try.prog Try.f7 Rows.markOpensRow.domain false) (Rows.markOpensSpec.post enc Try.prog Try.f7 false true false false) := by
  refine returnsInHanded_of_change (C := Try.checked) own started (by kernel_rfl) Try.func7
    (ChangeSpec.witness6 (enc := enc) (C := Try.checked) false ⟨#[], #[.int .i64 0, .int .i64 0, .int .i64 0], []⟩ 8 (by kernel_rfl) (by kernel_rfl) (by kernel_rfl) (by kernel_rfl)) ?_
  intro W base args ds gs before hval hW _ _
  exact contract H enc W base args ds gs before hval hW

theorem said : Rows.MarkOpensSaid :=
  OpenClaim.holds_of_wide 7 Try.f7 rfl rfl rfl rfl rfl rfl rfl ⟨rfl, rfl, rfl, rfl, rfl⟩ rfl rfl rfl rfl rfl (by kernel_rfl) Try.func7 (by kernel_rfl)
    (of_decide_eq_true (by kernel_rfl)) (by unfold Func.isWrapper; first | (rw [if_pos (by decide +kernel)]; kernel_rfl) | (rw [if_neg (by decide +kernel)]; exact ⟨rfl, rfl⟩))
    (fun os started H enc _ => lifted os started H enc)
end markOpens

theorem markOpens_holds : Rows.MarkOpensSaid := markOpens.said
end Go.Proofs.Ytfkephohdfmnlaa

