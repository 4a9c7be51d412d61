/- Proved: for every parcel and two numbers grapevinelaw15.StreamNone answers true and leaves its arguments as they were. No condition. -/
import Derived.Test.YtidihfhgnjkmaabSt13
import Derived.Test.YtidihfhgnjkmaabPcArg
namespace Go.Proofs.Ytidihfhgnjkmaab
open Go.ChangeShapes Go.WideShapes Go.ChangeAt Go.RowKit
set_option maxRecDepth 100000
namespace streamNone

set_option maxHeartbeats 4000000 in
theorem walk (p : Pc) (sa : Option Addr) (sn sc : Nat) (ia : Option Addr) (im ic : Nat) (t id : Int) (w : World) :
    Calls Try.prog 3 #[p.val sa sn sc ia im ic, .int .i64 t, .int .i64 id] w fun e w' => e = .returned (.bool true) ∧ Below w.heap.size w w' := by
  obtain ⟨pk, pp, ps, pn, pf, pt, pl, pi⟩ := p
  obtain ⟨W0, HW0⟩ : ∃ W0, Hid (W0 = w.alloc (.cells #[.int .i64 pk, .int .i64 pp, .int .i64 ps, .int .i64 pn, .int .i64 pf, .int .i64 pt, .slice sa sn sc, .slice ia im ic] 26)) := ⟨_, rfl⟩
  have HB0 : Hid (Below w.heap.size w W0) := by (show Below _ _ _); rw [HW0.out]; exact below_new _ _
  have hk0 : Bk W0 w.heap.size #[.int .i64 pk, .int .i64 pp, .int .i64 ps, .int .i64 pn, .int .i64 pf, .int .i64 pt, .slice sa sn sc, .slice ia im ic] 26 := by rw [HW0.out]; exact Bk.new _ _ _
  have d0 : W0.cell? ⟨w.heap.size, 0, none⟩ = some (.int .i64 pk) := hk0.cell 0 rfl
  have d1 : W0.cell? ⟨w.heap.size, 1, none⟩ = some (.int .i64 pp) := hk0.cell 1 rfl
  have d2 : W0.cell? ⟨w.heap.size, 2, none⟩ = some (.int .i64 ps) := hk0.cell 2 rfl
  have d3 : W0.cell? ⟨w.heap.size, 3, none⟩ = some (.int .i64 pn) := hk0.cell 3 rfl
  have d4 : W0.cell? ⟨w.heap.size, 4, none⟩ = some (.int .i64 pf) := hk0.cell 4 rfl
  have d5 : W0.cell? ⟨w.heap.size, 5, none⟩ = some (.int .i64 pt) := hk0.cell 5 rfl
  have d6 : W0.cell? ⟨w.heap.size, 6, none⟩ = some (.slice sa sn sc) := hk0.cell 6 rfl
  have d7 : W0.cell? ⟨w.heap.size, 7, none⟩ = some (.slice ia im ic) := hk0.cell 7 rfl
  clear hk0
  unfold Pc.val
  simp only
  go_enter Try.func3, Try.ntmps3
  go_upto_region 2 with fail
  rw [← HW0.out]
  go_wp2_with fail
  have hs := nil_Learn W0 ⟨pk, pp, ps, pn, pf, pt, pl, pi⟩ sa sn sc ia im ic
  refine hs.mono ?_
  rintro e w1 ⟨rfl, hb1⟩
  have HB1 : Hid (Below w.heap.size w w1) := HB0.out.trans (hb1.mono HB0.out.size)
  clear hb1 hs d0 d1 d2 d3 d4 d5 d6 d7 HW0 HB0
  go_wp2_with fail
  refine (nil_Item w1 t).mono ?_
  rintro e w2 ⟨rfl, hb2⟩
  obtain ⟨W2, HW2⟩ : ∃ W2, Hid (W2 = w2.alloc (.cells #[.int .i64 0, .int .u32 0, .slice none 0 0] 34)) := ⟨_, rfl⟩
  have hb2' := HB1.out.trans (hb2.mono HB1.out.size)
  have HB2 : Hid (Below w.heap.size w W2) := by (show Below _ _ _); rw [HW2.out]; exact hb2'.alloc hb2'.size _
  clear hb2 hb2' HB1
  go_upto_region 4 with fail
  rw [← HW2.out]
  go_wp2_with fail
  refine (nil_Tell W2 0 1 2 3).mono ?_
  rintro e w' ⟨rfl, hw'⟩
  rw [hw']
  clear hw' w'
  go_wp2_with fail
  refine (nil_Next W2 t id).mono ?_
  rintro e w3 ⟨rfl, hb3⟩
  obtain ⟨W3, HW3⟩ : ∃ W3, Hid (W3 = w3.alloc (.cells #[.int .i64 0, .int .i64 0, .int .i64 0, .int .i64 0, .int .u32 0, .slice none 0 0] 42)) := ⟨_, rfl⟩
  have hb3' := HB2.out.trans (hb3.mono HB2.out.size)
  have HB3 : Hid (Below w.heap.size w W3) := by (show Below _ _ _); rw [HW3.out]; exact hb3'.alloc hb3'.size _
  clear hb3 hb3' HB2
  go_upto_region 6 with fail
  rw [← HW3.out]
  go_wp2_with fail
  refine (law_live15 W3).mono ?_
  rintro e w4 ⟨rfl, hb4⟩
  have HB4 : Hid (Below w.heap.size w w4) := HB3.out.trans (hb4.mono HB3.out.size)
  clear hb4 HB3
  go_wp2_with fail
  refine (nil_Lose w4 t).mono ?_
  rintro e w' ⟨rfl, hw'⟩
  rw [hw']
  clear hw' w'
  go_wp2_with fail
  refine (nil_Map w4).mono ?_
  rintro e w' ⟨rfl, hw'⟩
  rw [hw']
  clear hw' w'
  go_wp2_with fail
  refine (nil_Fork w4).mono ?_
  rintro e w' ⟨rfl, hw'⟩
  rw [hw']
  clear hw' w'
  go_wp2
  go_ret
  exact ⟨rfl, HB4.out⟩

set_option maxRecDepth 100000 in
theorem contract (H : Type) (enc : TypeId × Value → H) (W : World) (base : Nat) (args : Array Value) (ds gs : List (DataW H)) (before : List MemPlace)
    (hval : ∀ (j : Nat) t v, Try.f3.params[j]? = some t → args[j]? = some v → Value.okWide Try.prog W .any base t v)
    (hW : DataW.Whole enc Try.prog Try.f3.params.toList Rows.streamNoneSpec.vars false W args.toList ds gs before) (hsz0 : (DataW.weightsEach Try.prog (Try.f3.params.toList ++ Rows.streamNoneSpec.plain.varTypes Try.prog) (ds ++ gs)).all (· ≤ reachBytes) = true) :
    Calls Try.prog 3 args W fun e W' => ∃ v, e = .returned v ∧ Rows.streamNoneSpec.post enc Try.prog Try.f3 false true false false W args v W' := by
  have hW' := hW
  obtain ⟨p, q, hA0, hV, rfl, hfz, hnd⟩ := hW
  have hA : DataW.TrodAll enc Try.prog W 0 (fun _ => true) true Try.f3.params.toList args.toList ds p := hA0
  have hK := hA
  have hsz := hsz0
  rw [Try.params3] at hA hval hsz
  obtain ⟨v0, vs0, d0, ds0, p0, q0, hargs, rfl, rfl, h0, r0⟩ := trodAll_cons hA
  obtain ⟨v1, vs1, d1, ds1, p1, q1, rfl, rfl, rfl, h1, r1⟩ := trodAll_cons r0
  obtain ⟨v2, vs2, d2, ds2, p2, q2, rfl, rfl, rfl, h2, r2⟩ := trodAll_cons r1
  obtain ⟨rfl, rfl, rfl⟩ := trodAll_nil r2
  obtain rfl : args = #[v0, v1, v2] := by cases args; simp_all
  obtain ⟨rfl, rfl⟩ := trodVars_none hV
  obtain ⟨x1, rfl, rfl, rfl, w1⟩ := open_int Try.underlying3 (hval 1 3 v1 rfl rfl) h1
  have b1 : (-9223372036854775808 : Int) ≤ x1 ∧ x1 ≤ 9223372036854775807 := by simpa [Lit.wf, IntKind.min, IntKind.max, IntKind.signed, IntKind.bits] using w1
  obtain ⟨x2, rfl, rfl, rfl, w2⟩ := open_int Try.underlying3 (hval 2 3 v2 rfl rfl) h2
  have b2 : (-9223372036854775808 : Int) ≤ x2 ∧ x2 ≤ 9223372036854775807 := by simpa [Lit.wf, IntKind.min, IntKind.max, IntKind.signed, IntKind.bits] using w2
  have hw0 : ∀ y ∈ DataW.weights Try.prog 26 d0, y ≤ reachBytes := fun y hy => by have := List.all_eq_true.1 hsz _ (DataW.weights_mem_each (j := 0) rfl rfl y hy); simpa using this
  obtain ⟨q0, sa0, sn0, sc0, ia0, im0, ic0, rfl, pr0, pb0⟩ := open_parcel (hval 0 26 v0 rfl rfl) h0 hw0
  refine (walk q0 sa0 sn0 sc0 ia0 im0 ic0 x1 x2 W).mono fun e W' ⟨he, bel⟩ => ?_
  subst he
  exact ⟨_, rfl, _, _, _, [], _, [], hW', trodAll_mk1 (shut_bool Try.underlying4 _), trodAll_below laidOut bel _ _ _ _ (by kernel_rfl) hK, rfl, bel.frame _, fun h => by cases h⟩

set_option maxRecDepth 100000 in
theorem lifted (os : Os) (started : os.Started) (H : Type) (enc : TypeId × Value → H) :
    ReturnsInHanded {} Try.checked os 3 .any (Rows.streamNoneSpec.pre6 enc Try.prog Try.f3 Rows.streamNoneRow.domain false) (Rows.streamNoneSpec.post enc Try.prog Try.f3 false true false false) := by
  refine returnsInHanded_of_change_sized (C := Try.checked) own started (by kernel_rfl) Try.func3
    (ChangeSpec.witness6 (enc := enc) (C := Try.checked) false ⟨#[], #[.agg #[.int .i64 0, .int .i64 0, .int .i64 0, .int .i64 0, .int .i64 0, .int .i64 0, .slice none 0 0, .slice none 0 0], .int .i64 0, .int .i64 0], []⟩ 8 (by kernel_rfl) (by kernel_rfl) (by kernel_rfl) (by kernel_rfl)) ?_
  intro W base args ds gs before hval hW _ hsz _
  exact contract H enc W base args ds gs before hval hW hsz

theorem said : Rows.StreamNoneSaid :=
  OpenClaim.holds_of_wide 3 Try.f3 rfl rfl rfl rfl rfl rfl rfl ⟨rfl, rfl, rfl, rfl, rfl⟩ rfl rfl rfl rfl rfl (by kernel_rfl) Try.func3 (by kernel_rfl)
    (of_decide_eq_true (by kernel_rfl)) (by unfold Func.isWrapper; first | (rw [if_pos (by decide +kernel)]; kernel_rfl) | (rw [if_neg (by decide +kernel)]; exact ⟨rfl, rfl⟩))
    (fun os started H enc _ => lifted os started H enc)
end streamNone

theorem streamNone_holds : Rows.StreamNoneSaid := streamNone.said
end Go.Proofs.Ytidihfhgnjkmaab

