/- Proved: for every kind, row of bytes and length grapevinelaw01.SealCuts answers true and leaves its arguments as they were. Its condition: the package-level table seal.steps holds what its initialiser lays (the card ties that to the program's text). -/
import Derived.Test.YtbhljlafijdodaaDoorSealLives
import Derived.Test.YtbhljlafijdodaaDoorDoor
namespace Go.Proofs.YtbhljlafijdodaaDoor
open Go.ChangeShapes Go.WideShapes Go.ChangeAt Go.RowKit
namespace sealCuts

set_option maxRecDepth 100000 in
set_option maxHeartbeats 1000000 in
theorem walk (k : Nat) (hk : k < 256) (a : Option Addr) (len cap : Nat) (bs : List Nat) (u : Nat) (hu : u ≤ 65535) (w : World) (hr : Rd w a len bs) (hl : len ≤ 9223372036854775807) (ht : Tab w) (h0 : 0 < w.heap.size) :
    Calls Tryd.prog 6 #[.int .u8 (k : Int), .slice a len cap, .int .u16 (u : Int)] w fun e w' => e = .returned (.bool true) ∧ Below w.heap.size w w' := by
  have HT : Hid (Tab w) := ht
  have HR : Hid (Rd w a len bs) := hr
  clear ht hr
  by_cases hlong : 4096 < len
  · go_enter Tryd.func6, Tryd.ntmps6
    go_wp2_with fail
    refine (seal_Seal_long k a len cap w hlong (by omega)).mono ?_
    rintro e w2 ⟨rfl, hw2⟩
    subst hw2
    go_wp2_with fail
    refine (lives_any w2 HT.out h0).mono ?_
    rintro e w4 ⟨rfl, hb4⟩
    have HB4 : Hid (Below w2.heap.size w2 w4) := hb4
    clear hb4
    go_wp2
    go_ret
    exact ⟨rfl, HB4.out⟩
  · have HBL : Hid (bs.length = len) := HR.out.size
    obtain ⟨j, HJ⟩ : ∃ j, Hid (j = u % (len + 8)) := ⟨_, rfl⟩
    have hj : j < len + 8 := by rw [HJ.out]; exact Nat.mod_lt _ (by omega)
    have ej : ((u : Int) % ((len : Int) + 8)) = (j : Int) := by rw [HJ.out]; rfl
    have gz : ((len : Int) + 8 == 0) = false := by rw [beq_eq_false_iff_ne]; omega
    have HCUT : Hid (openErr ((SealM.sealed k bs).take j) 0 = 3) := by
      have h := openErr_nat ((SealM.sealed k bs).take j) 0 (Nat.zero_le _)
      show openErr _ ((0 : Nat) : Int) = 3
      rw [h, List.drop_zero]
      exact SealM.opn_cut k bs (by rw [HBL.out]; omega) j (by rw [HBL.out]; exact hj)
    go_enter Tryd.func6, Tryd.ntmps6
    go_wp2_with fail
    refine (seal_Seal k hk a len cap bs w HR.out (by omega) HT.out h0).mono ?_
    rintro e w2 ⟨g, rfl, ho2, hb2⟩
    have HB2 : Hid (Below w.heap.size w w2) := hb2
    have HO2 : Hid (Rd w2 (some ⟨g, 0, none⟩) j ((SealM.sealed k bs).take j)) := by
      have := ho2.sub 0 j (by omega)
      rwa [List.drop_zero] at this
    clear ho2 hb2
    have g1 : (0 : Int) ≤ (j : Int) := by omega
    have g2 : (j : Int) ≤ (len : Int) + 8 := by omega
    go_wp2_with fail
    refine (seal_Open_bad (some ⟨g, 0, none⟩) j (len + 8) ((SealM.sealed k bs).take j) 0 w2 HO2.out (by omega) (by omega) (by omega) (HT.out.below h0 HB2.out) (Nat.lt_of_lt_of_le h0 HB2.out.size) 3 HCUT.out (by omega)).mono ?_
    rw [show toldBad 3 = .returned (.tuple #[.agg #[.int .u8 0, .int .i64 0, .slice none 0 0], .int .i64 0, .int .i64 3]) from rfl]
    rintro e w3 ⟨rfl, hb3⟩
    have HB3 : Hid (Below w.heap.size w w3) := HB2.out.trans (hb3.mono HB2.out.size)
    clear hb3
    go_wp2_with fail
    have HBA : Hid (Below w.heap.size w (w3.alloc (.cells #[.int .u8 0, .int .i64 0, .slice none 0 0] 29))) := HB3.out.trans ((below_alloc w3 _).mono HB3.out.size)
    refine (lives_any _ (HT.out.below h0 HBA.out) (Nat.lt_of_lt_of_le h0 HBA.out.size)).mono ?_
    rintro e w4 ⟨rfl, hb4⟩
    have HB4 : Hid (Below w.heap.size w w4) := HBA.out.trans (hb4.mono HBA.out.size)
    have k2 : w4.cell? ⟨w3.heap.size, 2, none⟩ = some (.slice none 0 0) := (hb4.cell (p := ⟨w3.heap.size, 2, none⟩) (by simp)).trans (by simp)
    clear hb4
    go_wp2
    go_ret
    exact ⟨rfl, HB4.out⟩

theorem contract (H : Type) (enc : TypeId × Value → H) (W : World) (base : Nat) (args : Array Value) (ds gs : List (DataW H)) (before : List MemPlace)
    (hval : ∀ (j : Nat) t v, Tryd.f6.params[j]? = some t → args[j]? = some v → Value.okWide Tryd.prog W .any base t v)
    (hW : DataW.Whole enc Tryd.prog Tryd.f6.params.toList Rows.sealCutsSpec.vars false W args.toList ds gs before) (hL : laidMetH Tryd.prog [("grapevine/seal.steps", Rows.laid_grapevine_seal_steps)] W) :
    Calls Tryd.prog 6 args W fun e W' => ∃ v, e = .returned v ∧ Rows.sealCutsSpec.post enc Tryd.prog Tryd.f6 false true false false W args v W' := by
  have hW' := hW
  obtain ⟨p, q, hA0, hV, rfl, hfz, hnd⟩ := hW
  have hA : DataW.TrodAll enc Tryd.prog W 0 (fun _ => true) true Tryd.f6.params.toList args.toList ds p := hA0
  have hK := hA
  rw [Tryd.params6] at hA hval
  obtain ⟨v0, vs0, d0, ds0, p0, q0, hargs, rfl, rfl, h0, r0⟩ := trodAll_cons hA
  obtain ⟨v1, vs1, d1, ds1, p1, q1, rfl, rfl, rfl, h1, r1⟩ := trodAll_cons r0
  obtain ⟨v2, vs2, d2, ds2, p2, q2, rfl, rfl, rfl, h2, r2⟩ := trodAll_cons r1
  obtain ⟨rfl, rfl, rfl⟩ := trodAll_nil r2
  obtain rfl : args = #[v0, v1, v2] := by cases args; simp_all
  obtain ⟨rfl, rfl⟩ := trodVars_none hV
  obtain ⟨x0, rfl, rfl, rfl, w0⟩ := open_int Tryd.underlying5 (hval 0 5 v0 rfl rfl) h0
  have b0 : (0 : Int) ≤ x0 ∧ x0 ≤ 255 := by simpa [Lit.wf, IntKind.min, IntKind.max, IntKind.signed, IntKind.bits] using w0
  obtain ⟨n0, rfl⟩ := Int.eq_ofNat_of_zero_le b0.1
  obtain ⟨a1, len1, cap1, rfl⟩ := okWide_slice Tryd.underlying22 (hval 1 22 v1 rfl rfl)
  obtain ⟨bs1, rd1, lc1, cm1, bk1, nc1, fm1⟩ := rd_of h1
  obtain ⟨x2, rfl, rfl, rfl, w2⟩ := open_int Tryd.underlying37 (hval 2 37 v2 rfl rfl) h2
  have b2 : (0 : Int) ≤ x2 ∧ x2 ≤ 65535 := by simpa [Lit.wf, IntKind.min, IntKind.max, IntKind.signed, IntKind.bits] using w2
  obtain ⟨n2, rfl⟩ := Int.eq_ofNat_of_zero_le b2.1
  have ht := table hL
  have hz : 0 < W.heap.size := World.block_lt_of_cell? W _ (ht 0 (by omega))
  refine (walk n0 (by omega) a1 len1 cap1 bs1 n2 (by omega) W rd1 (by omega) ht hz).mono fun e W' ⟨he, bel⟩ => ?_
  subst he
  exact ⟨_, rfl, _, _, _, [], _, [], hW', trodAll_mk1 (shut_bool Tryd.underlying4 _), trodAll_below laidOut bel _ _ _ _ (by kernel_rfl) hK, rfl, bel.frame _, fun h => by cases h⟩

theorem laid_met (os : Os) : laidMet Tryd.prog Rows.sealCutsRow.laid ((layTab (World.holding Tryd.prog os ⟨#[], #[], []⟩)).forCall (fun _ _ => 0) ⟨#[], #[.int .u8 0, .slice none 0 0, .int .u16 0], []⟩).memory :=
  laidMet_of_run' 8 (by kernel_rfl) (by kernel_rfl)
theorem reads (os : Os) {H : Type} (enc : TypeId × Value → H) : ∃ places, DataW.whole enc Tryd.prog ((layTab (World.holding Tryd.prog os ⟨#[], #[], []⟩)).forCall (fun _ _ => 0) ⟨#[], #[.int .u8 0, .slice none 0 0, .int .u16 0], []⟩).memory Tryd.f6.params.toList Rows.sealCutsSpec.vars false (#[.int .u8 0, .slice none 0 0, .int .u16 0] : Array Value).toList 8 = some ([.lit (.int .u8 0), .nil, .lit (.int .u16 0)], [], places) :=
  ⟨[], by kernel_rfl⟩

set_option maxRecDepth 100000 in
theorem lifted (os : Os) (started : os.Started) (H : Type) (enc : TypeId × Value → H) (F : Stop.Interp) :
    ReturnsInHanded {} Tryd.checked os 6 .any ((OpenSpec.ofChange Rows.sealCutsSpec).preRow enc Tryd.prog Tryd.f6 Rows.sealCutsRow.domain false Rows.sealCutsRow.laid) (((OpenSpec.ofChange Rows.sealCutsSpec).at F).post enc Tryd.prog Tryd.f6 false true false false) := by
  obtain ⟨places, hx⟩ := reads os enc
  refine returnsInHanded_of_row (C := Tryd.checked) (s := OpenSpec.ofChange Rows.sealCutsSpec) own started (by kernel_rfl) Tryd.func6
    (witness_row_at (enc := enc) (C := Tryd.checked) false (layTab (World.holding Tryd.prog os ⟨#[], #[], []⟩)) #[.int .u8 0, .slice none 0 0, .int .u16 0] rfl (by kernel_rfl) (by kernel_rfl) (by kernel_rfl)
      (OpenSpec.preRow_of_cond 8 hx (by kernel_rfl) (fun k hk => by cases hk) (by kernel_rfl) (laid_met os))) ?_
  intro W base args ds gs before hval hW _ _ _ hL _ _
  exact contract H enc W base args ds gs before hval hW hL

theorem said : Rows.SealCutsSaid :=
  OpenClaim.holds_of_cond 6 Tryd.f6 rfl rfl rfl rfl rfl rfl rfl ⟨rfl, rfl, rfl, rfl, rfl⟩ rfl rfl rfl rfl rfl (by kernel_rfl) Tryd.func6 (by kernel_rfl)
    (of_decide_eq_true (by kernel_rfl)) (by unfold Func.isWrapper; first | (rw [if_pos (by decide +kernel)]; kernel_rfl) | (rw [if_neg (by decide +kernel)]; exact ⟨rfl, rfl⟩))
    (fun os started H enc _ F => by rw [OpenClaim.pre_eq_preRow]; exact lifted os started H enc F)

theorem plain (f : FuncId) (fn : Func) (hf : Tryd.pinned.checked.prog.funcNamed "grapevine/grapevinelaw01.SealCuts" = some f) (hfn : Tryd.pinned.checked.prog.funcs[f]? = some fn) :
    false = Tryd.pinned.checked.prog.looks [] ∧ ∀ (j : Nat) t, fn.params[j]? = some t → Tryd.pinned.checked.prog.wantsStandIn t = false := by
  obtain rfl : f = 6 := Option.some.inj ((show Tryd.prog.funcNamed "grapevine/grapevinelaw01.SealCuts" = some 6 by kernel_rfl).symm.trans hf) |>.symm
  obtain rfl : fn = Tryd.f6 := (Option.some.inj (Tryd.func6.symm.trans hfn)).symm
  refine ⟨by kernel_rfl, fun j t ht => ?_⟩
  rw [Tryd.params6] at ht
  have hall : ∀ t ∈ (#[5, 22, 37] : Array TypeId), Tryd.prog.wantsStandIn t = false := by
    intro t ht
    simp at ht
    rcases ht with rfl | rfl | rfl
    · exact (show Tryd.prog.wantsStandIn 5 = false by kernel_rfl)
    · exact (show Tryd.prog.wantsStandIn 22 = false by kernel_rfl)
    · exact (show Tryd.prog.wantsStandIn 37 = false by kernel_rfl)
  exact hall t (Array.mem_of_getElem? ht)

theorem card : Rows.SealCutsCardSaid :=
  Claim7.holds_tied_plain_at .later [] _ _ _ _ said (fun _ h => by cases h) (by kernel_rfl) (fun _ h => by cases h) sealCuts_row_tie rfl ⟨rfl, rfl⟩ (by kernel_rfl) rfl plain (by kernel_rfl)
end sealCuts

theorem sealCuts_holds : Rows.SealCutsCardSaid := sealCuts.card
end Go.Proofs.YtbhljlafijdodaaDoor

