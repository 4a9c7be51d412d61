/- Proved: for every parcel grapevinelaw13.ParcelPuts answers true and leaves its argument as it was. No condition. -/
import Derived.Test.YtmpljoljpgbamaaPcArg
import Derived.Test.YtmpljoljpgbamaaPcLive
import Derived.Test.YtmpljoljpgbamaaRpT
namespace Go.Proofs.Ytmpljoljpgbamaa
open Go.ChangeShapes Go.WideShapes Go.ChangeAt Go.RowKit
namespace parcelPuts

set_option maxRecDepth 100000 in
set_option maxHeartbeats 4000000 in
theorem walk (p : Pc) (sa : Option Addr) (sn sc : Nat) (ia : Option Addr) (im ic : Nat) (w : World) (hp : PcRd w p sa sn sc ia im ic) :
    Calls Try.prog 5 #[p.val sa sn sc ia im ic] w fun e w' => e = .returned (.bool true) ∧ Below w.heap.size w w' := by
  obtain ⟨p0, HP0⟩ : ∃ p0, Hid (p0 = p) := ⟨_, rfl⟩
  have HV : Hid (p0.val sa sn sc ia im ic = p.val sa sn sc ia im ic) := by show _ = _; rw [HP0.out]
  have HP : Hid (PcRd w p0 sa sn sc ia im ic) := by rw [HP0.out]; exact hp
  clear hp
  obtain ⟨pk, pp, ps, pn, pf, pt, pl, pi⟩ := p
  have HBW : Hid (Below w.heap.size w (w.alloc (.cells #[.int .i64 pk, .int .i64 pp, .int .i64 ps, .int .i64 pn, .int .i64 pf, .int .i64 pt, .slice sa sn sc, .slice ia im ic] 26))) := below_new _ _
  have HKW : Hid (Bk (w.alloc (.cells #[.int .i64 pk, .int .i64 pp, .int .i64 ps, .int .i64 pn, .int .i64 pf, .int .i64 pt, .slice sa sn sc, .slice ia im ic] 26)) w.heap.size #[.int .i64 pk, .int .i64 pp, .int .i64 ps, .int .i64 pn, .int .i64 pf, .int .i64 pt, .slice sa sn sc, .slice ia im ic] 26) := Bk.new _ _ _
  obtain ⟨b, HCE⟩ : ∃ b, Hid (b = chk p0) := ⟨_, rfl⟩
  obtain ⟨T, HTE⟩ : ∃ T, Hid (T = putD p0) := ⟨_, rfl⟩
  have HC : Hid (∀ w', Below w.heap.size w w' → Calls Try.prog 15 #[Pc.val ⟨pk, pp, ps, pn, pf, pt, pl, pi⟩ sa sn sc ia im ic] w' fun e w'' => PutTold w'' w'.heap.size p0 e ∧ Below w'.heap.size w' w'') := by
    intro w' hb
    have h := pc_Put p0 sa sn sc ia im ic w' (HP.out.below hb)
    rw [HV.out] at h
    exact h
  have HR : Hid (∀ w', Below w.heap.size w w' → Calls Try.prog 16 #[Pc.val ⟨pk, pp, ps, pn, pf, pt, pl, pi⟩ sa sn sc ia im ic] w' fun e w'' => PutTold w'' w'.heap.size p0 e ∧ Below w'.heap.size w' w'') := by
    intro w' hb
    have h := ref_Put13 p0 sa sn sc ia im ic w' (HP.out.below hb)
    rw [HV.out] at h
    exact h
  clear HV HP HP0
  unfold Pc.val
  simp only
  go_enter Try.func5, Try.ntmps5
  go_wp2_with fail
  refine (HC.out _ HBW.out).mono ?_
  rintro e w1 ⟨⟨b1, m1, c1, he1, ho1⟩, hb1⟩
  subst he1
  rw [← HCE.out]
  rw [← HTE.out] at ho1
  have HO1 : Hid (Rd w1 b1 m1 T) := ho1.rd
  have HB1 : Hid (Below w.heap.size w w1) := HBW.out.trans (hb1.mono HBW.out.size)
  have k := HKW.out.stay hb1
  have d0 : w1.cell? ⟨w.heap.size, 0, none⟩ = some (.int .i64 pk) := k.cell 0 rfl
  have d1 : w1.cell? ⟨w.heap.size, 1, none⟩ = some (.int .i64 pp) := k.cell 1 rfl
  have d2 : w1.cell? ⟨w.heap.size, 2, none⟩ = some (.int .i64 ps) := k.cell 2 rfl
  have d3 : w1.cell? ⟨w.heap.size, 3, none⟩ = some (.int .i64 pn) := k.cell 3 rfl
  have d4 : w1.cell? ⟨w.heap.size, 4, none⟩ = some (.int .i64 pf) := k.cell 4 rfl
  have d5 : w1.cell? ⟨w.heap.size, 5, none⟩ = some (.int .i64 pt) := k.cell 5 rfl
  have d6 : w1.cell? ⟨w.heap.size, 6, none⟩ = some (.slice sa sn sc) := k.cell 6 rfl
  have d7 : w1.cell? ⟨w.heap.size, 7, none⟩ = some (.slice ia im ic) := k.cell 7 rfl
  clear ho1 hb1 HKW HBW k
  go_wp2_with fail
  refine (HR.out _ HB1.out).mono ?_
  rintro e w2 ⟨⟨b2, m2, c2, he2, ho2⟩, hb2⟩
  subst he2
  rw [← HCE.out]
  rw [← HTE.out] at ho2
  have HO2 : Hid (Rd w2 b2 m2 T) := ho2.rd
  have HO12 : Hid (Rd w2 b1 m1 T) := HO1.out.below hb2
  have HB2 : Hid (Below w.heap.size w w2) := HB1.out.trans (hb2.mono HB1.out.size)
  clear ho2 hb2 HO1 d0 d1 d2 d3 d4 d5 d6 d7 HC HR
  go_wp2_with fail
  refine (law_live13 _).mono ?_
  rintro e w3 ⟨rfl, hb3⟩
  have hs1 := conv_rd (HO12.out.below hb3) c1
  have hs2 := conv_rd (HO2.out.below hb3) c2
  have HB3 : Hid (Below w.heap.size w w3) := HB2.out.trans (hb3.mono HB2.out.size)
  clear hb3 HO12 HO2 HCE HTE
  generalize str T = S at hs1 hs2
  go_wp2
  go_ret
  exact ⟨by simp, HB3.out⟩

set_option maxRecDepth 100000 in
theorem contract (H : Type) (enc : TypeId × Value → H) (W : World) (base : Nat) (args : Array Value) (ds gs : List (DataW H)) (before : List MemPlace)
    (hval : ∀ (j : Nat) t v, Try.f5.params[j]? = some t → args[j]? = some v → Value.okWide Try.prog W .any base t v)
    (hW : DataW.Whole enc Try.prog Try.f5.params.toList Rows.parcelPutsSpec.vars false W args.toList ds gs before) (hsz0 : (DataW.weightsEach Try.prog (Try.f5.params.toList ++ Rows.parcelPutsSpec.plain.varTypes Try.prog) (ds ++ gs)).all (· ≤ reachBytes) = true) :
    Calls Try.prog 5 args W fun e W' => ∃ v, e = .returned v ∧ Rows.parcelPutsSpec.post enc Try.prog Try.f5 false true false false W args v W' := by
  have hW' := hW
  obtain ⟨p, q, hA0, hV, rfl, hfz, hnd⟩ := hW
  have hA : DataW.TrodAll enc Try.prog W 0 (fun _ => true) true Try.f5.params.toList args.toList ds p := hA0
  have hK := hA
  have hsz := hsz0
  rw [Try.params5] at hA hval hsz
  obtain ⟨v0, vs0, d0, ds0, p0, q0, hargs, rfl, rfl, h0, r0⟩ := trodAll_cons hA
  obtain ⟨rfl, rfl, rfl⟩ := trodAll_nil r0
  obtain rfl : args = #[v0] := by cases args; simp_all
  obtain ⟨rfl, rfl⟩ := trodVars_none hV
  have hw0 : ∀ y ∈ DataW.weights Try.prog 26 d0, y ≤ reachBytes := fun y hy => by have := List.all_eq_true.1 hsz _ (DataW.weights_mem_each (j := 0) rfl rfl y hy); simpa using this
  obtain ⟨q0, sa0, sn0, sc0, ia0, im0, ic0, rfl, pr0, pb0⟩ := open_parcel (hval 0 26 v0 rfl rfl) h0 hw0
  refine (walk q0 sa0 sn0 sc0 ia0 im0 ic0 W pr0).mono fun e W' ⟨he, bel⟩ => ?_
  subst he
  exact ⟨_, rfl, _, _, _, [], _, [], hW', trodAll_mk1 (shut_bool Try.underlying4 _), trodAll_below laidOut bel _ _ _ _ (by kernel_rfl) hK, rfl, bel.frame _, fun h => by cases h⟩

set_option maxRecDepth 100000 in
theorem lifted (os : Os) (started : os.Started) (H : Type) (enc : TypeId × Value → H) :
    ReturnsInHanded {} Try.checked os 5 .any (Rows.parcelPutsSpec.pre6 enc Try.prog Try.f5 Rows.parcelPutsRow.domain false) (Rows.parcelPutsSpec.post enc Try.prog Try.f5 false true false false) := by
  refine returnsInHanded_of_change_sized (C := Try.checked) own started (by kernel_rfl) Try.func5
    (ChangeSpec.witness6 (enc := enc) (C := Try.checked) false ⟨#[], #[.agg #[.int .i64 0, .int .i64 0, .int .i64 0, .int .i64 0, .int .i64 0, .int .i64 0, .slice none 0 0, .slice none 0 0]], []⟩ 8 (by kernel_rfl) (by kernel_rfl) (by kernel_rfl) (by kernel_rfl)) ?_
  intro W base args ds gs before hval hW _ hsz _
  exact contract H enc W base args ds gs before hval hW hsz

theorem said : Rows.ParcelPutsSaid :=
  OpenClaim.holds_of_wide 5 Try.f5 rfl rfl rfl rfl rfl rfl rfl ⟨rfl, rfl, rfl, rfl, rfl⟩ rfl rfl rfl rfl rfl (by kernel_rfl) Try.func5 (by kernel_rfl)
    (of_decide_eq_true (by kernel_rfl)) (by unfold Func.isWrapper; first | (rw [if_pos (by decide +kernel)]; kernel_rfl) | (rw [if_neg (by decide +kernel)]; exact ⟨rfl, rfl⟩))
    (fun os started H enc _ => lifted os started H enc)
end parcelPuts

theorem parcelPuts_holds : Rows.ParcelPutsSaid := parcelPuts.said
end Go.Proofs.Ytmpljoljpgbamaa

