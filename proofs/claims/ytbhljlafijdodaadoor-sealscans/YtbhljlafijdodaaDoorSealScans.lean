/- Proved: for every row of bytes grapevinelaw01.SealScans answers true and leaves its argument as it was. Its condition: the package-level table seal.steps holds what its initialiser lays (the card ties that to the program's text). -/
import Derived.Test.YtbhljlafijdodaaDoorSealRefScan
import Derived.Test.YtbhljlafijdodaaDoorDoor
namespace Go.Proofs.YtbhljlafijdodaaDoor
open Go.ChangeShapes Go.WideShapes Go.ChangeAt Go.RowKit
namespace sealScans

theorem scan_length : ∀ (f : Nat) (bs : List Nat) (p : Nat), (SealM.scan f bs p).1.length ≤ f
  | 0, _, _ => by simp [SealM.scan]
  | f + 1, bs, p => by
    simp only [SealM.scan]
    split
    · simp
    · split
      · have := scan_length f bs (p + SealM.blen (bs.drop p) + 8)
        simp only [List.length_cons]
        omega
      · have := scan_length f bs (p + 1)
        simp only
        omega

set_option maxRecDepth 100000 in
set_option maxHeartbeats 1000000 in
theorem walk (a : Option Addr) (len cap : Nat) (bs : List Nat) (w : World) (hr : Rd w a len bs) (hlc : len ≤ cap) (hl : len ≤ 9223372036854775807) (ht : Tab w) (h0 : 0 < w.heap.size) :
    Calls Tryd.prog 8 #[.slice a len cap] w fun e w' => e = .returned (.bool true) ∧ Below w.heap.size w w' := by
  have HT : Hid (Tab w) := ht
  have HR : Hid (Rd w a len bs) := hr
  clear ht hr
  by_cases h1 : 16384 < len
  · have g1 : 3000 < (len : Int) := by omega
    have g2 : ¬ (len : Int) ≤ 16384 := by omega
    go_enter Tryd.func8, Tryd.ntmps8
    go_wp2_with fail
    refine (seal_Scan_long a len cap w h1 hl).mono ?_
    rintro e w1 ⟨rfl, hw1⟩
    subst hw1
    go_wp2_with fail
    refine (ref_Scan_long a len cap w1 h1 hl).mono ?_
    rintro e w2 ⟨rfl, hw2⟩
    subst hw2
    go_wp2_with fail
    refine (lives_any w2 HT.out h0).mono ?_
    rintro e w3 ⟨rfl, hb3⟩
    have HB3 : Hid (Below w2.heap.size w2 w3) := hb3
    clear hb3
    go_wp2_with fail
    refine (ref_SameAll (.slice none 0 0) (.slice none 0 0) [] [] w3 0 0 (Found.nil_ _ _) (Found.nil_ _ _) rfl (by simp)).mono ?_
    rintro e w4 ⟨rfl, hb4⟩
    have HB4 : Hid (Below w2.heap.size w2 w4) := HB3.out.trans (hb4.mono HB3.out.size)
    clear hb4
    go_wp2
    go_ret
    exact ⟨rfl, HB4.out⟩
  · by_cases h2 : 3000 < len
    · have g1 : 3000 < (len : Int) := by omega
      have g2 : (len : Int) ≤ 16384 := by omega
      go_enter Tryd.func8, Tryd.ntmps8
      go_wp2_with fail
      refine (lives_any w HT.out h0).mono ?_
      rintro e w3 ⟨rfl, hb3⟩
      have HB3 : Hid (Below w.heap.size w w3) := hb3
      clear hb3
      go_wp2
      go_ret
      exact ⟨rfl, HB3.out⟩
    · have g1 : ¬ 3000 < (len : Int) := by omega
      go_enter Tryd.func8, Tryd.ntmps8
      go_wp2_with fail
      refine (seal_Scan a len cap bs w HR.out hlc (by omega) HT.out h0).mono ?_
      rintro e w1 ⟨v1, xs, n1, rfl, hf1, hd1, hb1⟩
      have HB1 : Hid (Below w.heap.size w w1) := hb1
      have HF1 : Hid (Found w1 w.heap.size v1 xs) := hf1
      have HD1 : Hid ((xs.map It.dat, n1) = SealM.scan len bs 0) := hd1
      clear hb1 hf1 hd1
      go_wp2_with fail
      refine (ref_Scan a len cap bs w1 (HR.out.below HB1.out) hlc (by omega)).mono ?_
      rintro e w2 ⟨v2, ys, n2, rfl, hf2, hd2, hb2⟩
      have HB2 : Hid (Below w.heap.size w w2) := HB1.out.trans (hb2.mono HB1.out.size)
      have HF12 : Hid (Found w2 w.heap.size v1 xs) := HF1.out.below hb2
      have HF2 : Hid (Found w2 w1.heap.size v2 ys) := hf2
      have hdd : (xs.map It.dat, n1) = (ys.map It.dat, n2) := HD1.out.trans hd2.symm
      obtain ⟨hdx, hnn⟩ := Prod.mk.inj hdd
      subst hnn
      have HDX : Hid (xs.map It.dat = ys.map It.dat) := hdx
      have HXL : Hid (xs.length ≤ 16384) := by
        have h := congrArg (fun r => r.1.length) HD1.out
        simp only [List.length_map] at h
        show _ ≤ _
        rw [h]
        exact Nat.le_trans (scan_length len bs 0) (by omega)
      clear hb2 hf2 hd2 hdd hdx
      go_wp2_with fail
      refine (lives_any w2 (HT.out.below h0 HB2.out) (Nat.lt_of_lt_of_le h0 HB2.out.size)).mono ?_
      rintro e w3 ⟨rfl, hb3⟩
      have HB3 : Hid (Below w.heap.size w w3) := HB2.out.trans (hb3.mono HB2.out.size)
      have HF13 : Hid (Found w3 w.heap.size v1 xs) := HF12.out.below hb3
      have HF23 : Hid (Found w3 w1.heap.size v2 ys) := HF2.out.below hb3
      clear hb3
      go_wp2_with fail
      refine (ref_SameAll v1 v2 xs ys w3 _ _ HF13.out HF23.out HDX.out (Nat.le_trans HXL.out (by omega))).mono ?_
      rintro e w4 ⟨rfl, hb4⟩
      have HB4 : Hid (Below w.heap.size w w4) := HB3.out.trans (hb4.mono HB3.out.size)
      clear hb4
      go_wp2
      go_ret
      exact ⟨by simp, HB4.out⟩

theorem contract (H : Type) (enc : TypeId × Value → H) (W : World) (base : Nat) (args : Array Value) (ds gs : List (DataW H)) (before : List MemPlace)
    (hval : ∀ (j : Nat) t v, Tryd.f8.params[j]? = some t → args[j]? = some v → Value.okWide Tryd.prog W .any base t v)
    (hW : DataW.Whole enc Tryd.prog Tryd.f8.params.toList Rows.sealScansSpec.vars false W args.toList ds gs before) (hL : laidMetH Tryd.prog [("grapevine/seal.steps", Rows.laid_grapevine_seal_steps)] W) :
    Calls Tryd.prog 8 args W fun e W' => ∃ v, e = .returned v ∧ Rows.sealScansSpec.post enc Tryd.prog Tryd.f8 false true false false W args v W' := by
  have hW' := hW
  obtain ⟨p, q, hA0, hV, rfl, hfz, hnd⟩ := hW
  have hA : DataW.TrodAll enc Tryd.prog W 0 (fun _ => true) true Tryd.f8.params.toList args.toList ds p := hA0
  have hK := hA
  rw [Tryd.params8] at hA hval
  obtain ⟨v0, vs0, d0, ds0, p0, q0, hargs, rfl, rfl, h0, r0⟩ := trodAll_cons hA
  obtain ⟨rfl, rfl, rfl⟩ := trodAll_nil r0
  obtain rfl : args = #[v0] := by cases args; simp_all
  obtain ⟨rfl, rfl⟩ := trodVars_none hV
  obtain ⟨a0, len0, cap0, rfl⟩ := okWide_slice Tryd.underlying22 (hval 0 22 v0 rfl rfl)
  obtain ⟨bs0, rd0, lc0, cm0, bk0, nc0, fm0⟩ := rd_of h0
  have ht := table hL
  have hz : 0 < W.heap.size := World.block_lt_of_cell? W _ (ht 0 (by omega))
  refine (walk a0 len0 cap0 bs0 W rd0 lc0 (by omega) ht hz).mono fun e W' ⟨he, bel⟩ => ?_
  subst he
  exact ⟨_, rfl, _, _, _, [], _, [], hW', trodAll_mk1 (shut_bool Tryd.underlying4 _), trodAll_below laidOut bel _ _ _ _ (by kernel_rfl) hK, rfl, bel.frame _, fun h => by cases h⟩

theorem laid_met (os : Os) : laidMet Tryd.prog Rows.sealScansRow.laid ((layTab (World.holding Tryd.prog os ⟨#[], #[], []⟩)).forCall (fun _ _ => 0) ⟨#[], #[.slice none 0 0], []⟩).memory :=
  laidMet_of_run' 8 (by kernel_rfl) (by kernel_rfl)
theorem reads (os : Os) {H : Type} (enc : TypeId × Value → H) : ∃ places, DataW.whole enc Tryd.prog ((layTab (World.holding Tryd.prog os ⟨#[], #[], []⟩)).forCall (fun _ _ => 0) ⟨#[], #[.slice none 0 0], []⟩).memory Tryd.f8.params.toList Rows.sealScansSpec.vars false (#[.slice none 0 0] : Array Value).toList 8 = some ([.nil], [], places) :=
  ⟨[], by kernel_rfl⟩

set_option maxRecDepth 100000 in
theorem lifted (os : Os) (started : os.Started) (H : Type) (enc : TypeId × Value → H) (F : Stop.Interp) :
    ReturnsInHanded {} Tryd.checked os 8 .any ((OpenSpec.ofChange Rows.sealScansSpec).preRow enc Tryd.prog Tryd.f8 Rows.sealScansRow.domain false Rows.sealScansRow.laid) (((OpenSpec.ofChange Rows.sealScansSpec).at F).post enc Tryd.prog Tryd.f8 false true false false) := by
  obtain ⟨places, hx⟩ := reads os enc
  refine returnsInHanded_of_row (C := Tryd.checked) (s := OpenSpec.ofChange Rows.sealScansSpec) own started (by kernel_rfl) Tryd.func8
    (witness_row_at (enc := enc) (C := Tryd.checked) false (layTab (World.holding Tryd.prog os ⟨#[], #[], []⟩)) #[.slice none 0 0] rfl (by kernel_rfl) (by kernel_rfl) (by kernel_rfl)
      (OpenSpec.preRow_of_cond 8 hx (by kernel_rfl) (fun k hk => by cases hk) (by kernel_rfl) (laid_met os))) ?_
  intro W base args ds gs before hval hW _ _ _ hL _ _
  exact contract H enc W base args ds gs before hval hW hL

theorem said : Rows.SealScansSaid :=
  OpenClaim.holds_of_cond 8 Tryd.f8 rfl rfl rfl rfl rfl rfl rfl ⟨rfl, rfl, rfl, rfl, rfl⟩ rfl rfl rfl rfl rfl (by kernel_rfl) Tryd.func8 (by kernel_rfl)
    (of_decide_eq_true (by kernel_rfl)) (by unfold Func.isWrapper; first | (rw [if_pos (by decide +kernel)]; kernel_rfl) | (rw [if_neg (by decide +kernel)]; exact ⟨rfl, rfl⟩))
    (fun os started H enc _ F => by rw [OpenClaim.pre_eq_preRow]; exact lifted os started H enc F)

theorem plain (f : FuncId) (fn : Func) (hf : Tryd.pinned.checked.prog.funcNamed "grapevine/grapevinelaw01.SealScans" = some f) (hfn : Tryd.pinned.checked.prog.funcs[f]? = some fn) :
    false = Tryd.pinned.checked.prog.looks [] ∧ ∀ (j : Nat) t, fn.params[j]? = some t → Tryd.pinned.checked.prog.wantsStandIn t = false := by
  obtain rfl : f = 8 := Option.some.inj ((show Tryd.prog.funcNamed "grapevine/grapevinelaw01.SealScans" = some 8 by kernel_rfl).symm.trans hf) |>.symm
  obtain rfl : fn = Tryd.f8 := (Option.some.inj (Tryd.func8.symm.trans hfn)).symm
  refine ⟨by kernel_rfl, fun j t ht => ?_⟩
  rw [Tryd.params8] at ht
  have hall : ∀ t ∈ (#[22] : Array TypeId), Tryd.prog.wantsStandIn t = false := by
    intro t ht
    simp at ht
    subst ht
    exact (show Tryd.prog.wantsStandIn 22 = false by kernel_rfl)
  exact hall t (Array.mem_of_getElem? ht)

theorem card : Rows.SealScansCardSaid :=
  Claim7.holds_tied_plain_at .later [] _ _ _ _ said (fun _ h => by cases h) (by kernel_rfl) (fun _ h => by cases h) sealScans_row_tie rfl ⟨rfl, rfl⟩ (by kernel_rfl) rfl plain (by kernel_rfl)
end sealScans

theorem sealScans_holds : Rows.SealScansCardSaid := sealScans.card
end Go.Proofs.YtbhljlafijdodaaDoor

