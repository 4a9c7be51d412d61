/- Proved: for every row of bytes grapevinelaw01.SealRests answers true and leaves its argument as it was. Its condition: the package-level table seal.steps holds what its initialiser lays (the card ties that to the program's text). -/
import Derived.Test.YtpkhkhoajaobkaaDoorLive
import Derived.Test.YtpkhkhoajaobkaaDoorFour
import Derived.Test.YtpkhkhoajaobkaaDoorDoor
namespace Go.Proofs.YtpkhkhoajaobkaaDoor
open Go.ChangeShapes Go.WideShapes Go.ChangeAt Go.RowKit
namespace sealRests

set_option maxHeartbeats 400000 in
theorem walk (a : Option Addr) (len cap : Nat) (bs : List Nat) (w : World) (hr : Rd w a len bs) (hn : a = none → cap = 0) (hl : len ≤ 140737488355324) (ht : Tab w) (h0 : 0 < w.heap.size) :
    Calls Tryd.prog 5 #[.slice a len cap] w fun e w' => e = .returned (.bool true) ∧ Below w.heap.size w w' := by
  have HT : Hid (Tab w) := ht
  have HR : Hid (Rd w a len bs) := hr
  clear ht hr
  go_enter Tryd.func5, Tryd.ntmps5
  go_wp2_with (at_builtin; refine wpList_append_rd (by rfl) (.tmp 4) (.tmp 5) (by rfl) w.heap.size (some ⟨w.heap.size, 0, none⟩) 0 0 [] (by rfl) (Own.empty w) a len cap bs (by rfl) (HR.out.below (below_alloc w _)) hn (by omega) (by simp) ?_; intro a1 c1 w1 hown1 hgrow1 hbel1)
  simp only [Nat.zero_add, List.nil_append] at hown1
  have HO1 : Hid (Own w1 w.heap.size a1 len c1 bs) := hown1
  have HB1 : Hid (Below w.heap.size w w1) := (below_alloc w _).trans hbel1
  clear hown1 hgrow1 hbel1
  refine (seal_Sum a len cap bs w1 (HR.out.below HB1.out) (by omega) (HT.out.below h0 HB1.out)).mono ?_
  rintro e w1' ⟨rfl, rfl⟩
  have hslt : Crc.more 0 bs < 4294967296 := Crc.more_lt (by omega) HR.out.byte
  have HRE : Hid (Crc.more 0 (bs ++ Crc.four (Crc.more 0 bs)) = 1214729159) := Crc.rests bs HR.out.byte
  obtain ⟨s, HS⟩ : ∃ s, Hid (s = Crc.more 0 bs) := ⟨_, rfl⟩
  rw [← HS.out] at hslt HRE
  rw [← HS.out]
  go_wp2_with fail
  refine (ref_Four s hslt w1' w.heap.size HB1.out.size).mono ?_
  rintro e w2 ⟨a2, c2, rfl, hne, hown2, hb2⟩
  have HB2 : Hid (Below w.heap.size w w2) := HB1.out.trans (hb2.mono HB1.out.size)
  have HO1' : Hid (Own w2 w.heap.size a1 len c1 bs) := HO1.out.below hb2
  have HO2 : Hid (Own w2 w.heap.size a2 4 c2 (Crc.four s)) := hown2
  clear HO1 hown2 hb2
  go_wp2_with (at_builtin; refine wpList_append_rd (by rfl) (.tmp 6) (.tmp 9) (by rfl) w.heap.size a1 len c1 bs (by rfl) HO1'.out a2 4 c2 (Crc.four s) (by rfl) HO2.out.rd (fun h => absurd h hne) (by omega) HB2.out.size ?_; intro a3 c3 w3 hown3 hgrow3 hbel3)
  have HO3 : Hid (Own w3 w.heap.size a3 (len + 4) c3 (bs ++ Crc.four s)) := hown3
  have HB3 : Hid (Below w.heap.size w w3) := HB2.out.trans hbel3
  clear hown3 hgrow3 hbel3 hne
  refine (live_any w3 (HT.out.below h0 HB3.out) (Nat.lt_of_lt_of_le h0 HB3.out.size)).mono ?_
  rintro e w4 ⟨rfl, hb4⟩
  have HO4 : Hid (Own w4 w.heap.size a3 (len + 4) c3 (bs ++ Crc.four s)) := HO3.out.below hb4
  have HB4 : Hid (Below w.heap.size w w4) := HB3.out.trans (hb4.mono HB3.out.size)
  clear hb4
  go_wp2_with fail
  refine (seal_Sum a3 (len + 4) c3 (bs ++ Crc.four s) w4 HO4.out.rd (by omega) (HT.out.below h0 HB4.out)).mono ?_
  rw [HRE.out]
  rintro e w5 ⟨rfl, rfl⟩
  go_wp2
  go_ret
  exact ⟨rfl, HB4.out⟩

theorem contract (H : Type) (enc : TypeId × Value → H) (W : World) (base : Nat) (args : Array Value) (ds gs : List (DataW H)) (before : List MemPlace)
    (hval : ∀ (j : Nat) t v, Tryd.f5.params[j]? = some t → args[j]? = some v → Value.okWide Tryd.prog W .any base t v)
    (hW : DataW.Whole enc Tryd.prog Tryd.f5.params.toList Rows.sealRestsSpec.vars false W args.toList ds gs before) (hL : laidMetH Tryd.prog [("grapevine/seal.steps", Rows.laid_grapevine_seal_steps)] W) (hsz0 : (DataW.weightsEach Tryd.prog (Tryd.f5.params.toList ++ Rows.sealRestsSpec.plain.varTypes Tryd.prog) (ds ++ gs)).all (· ≤ reachBytes) = true) :
    Calls Tryd.prog 5 args W fun e W' => ∃ v, e = .returned v ∧ Rows.sealRestsSpec.post enc Tryd.prog Tryd.f5 false true false false W args v W' := by
  have hW' := hW
  obtain ⟨p, q, hA0, hV, rfl, hfz, hnd⟩ := hW
  have hA : DataW.TrodAll enc Tryd.prog W 0 (fun _ => true) true Tryd.f5.params.toList args.toList ds p := hA0
  have hK := hA
  have hsz := hsz0
  rw [Tryd.params5] at hA hval hsz
  obtain ⟨v0, vs0, d0, ds0, p0, q0, hargs, rfl, rfl, h0, r0⟩ := trodAll_cons hA
  obtain ⟨rfl, rfl, rfl⟩ := trodAll_nil r0
  obtain rfl : args = #[v0] := by cases args; simp_all
  obtain ⟨rfl, rfl⟩ := trodVars_none hV
  obtain ⟨a0, len0, cap0, rfl⟩ := okWide_slice Tryd.underlying23 (hval 0 23 v0 rfl rfl)
  obtain ⟨bs0, rd0, lc0, cm0, bk0, nc0, fm0⟩ := rd_of h0
  have sz0 := reach_of hsz (j := 0) fm0 rfl rfl
  have ht := table hL
  have hz : 0 < W.heap.size := World.block_lt_of_cell? W _ (ht 0 (by omega))
  refine (walk a0 len0 cap0 bs0 W rd0 nc0 (by omega) ht hz).mono fun e W' ⟨he, bel⟩ => ?_
  subst he
  exact ⟨_, rfl, _, _, _, [], _, [], hW', trodAll_mk1 (shut_bool Tryd.underlying4 _), trodAll_below laidOut bel _ _ _ _ (by kernel_rfl) hK, rfl, bel.frame _, fun h => by cases h⟩

theorem laid_met (os : Os) : laidMet Tryd.prog Rows.sealRestsRow.laid ((layTab (World.holding Tryd.prog os ⟨#[], #[], []⟩)).forCall (fun _ _ => 0) ⟨#[], #[.slice none 0 0], []⟩).memory :=
  laidMet_of_run' 8 (by kernel_rfl) (by kernel_rfl)
theorem reads (os : Os) {H : Type} (enc : TypeId × Value → H) : ∃ places, DataW.whole enc Tryd.prog ((layTab (World.holding Tryd.prog os ⟨#[], #[], []⟩)).forCall (fun _ _ => 0) ⟨#[], #[.slice none 0 0], []⟩).memory Tryd.f5.params.toList Rows.sealRestsSpec.vars false (#[.slice none 0 0] : Array Value).toList 8 = some ([.nil], [], places) :=
  ⟨[], by kernel_rfl⟩

set_option maxRecDepth 100000 in
theorem lifted (os : Os) (started : os.Started) (H : Type) (enc : TypeId × Value → H) (F : Stop.Interp) :
    ReturnsInHanded {} Tryd.checked os 5 .any ((OpenSpec.ofChange Rows.sealRestsSpec).preRow enc Tryd.prog Tryd.f5 Rows.sealRestsRow.domain false Rows.sealRestsRow.laid) (((OpenSpec.ofChange Rows.sealRestsSpec).at F).post enc Tryd.prog Tryd.f5 false true false false) := by
  obtain ⟨places, hx⟩ := reads os enc
  refine returnsInHanded_of_row (C := Tryd.checked) (s := OpenSpec.ofChange Rows.sealRestsSpec) own started (by kernel_rfl) Tryd.func5
    (witness_row_at (enc := enc) (C := Tryd.checked) false (layTab (World.holding Tryd.prog os ⟨#[], #[], []⟩)) #[.slice none 0 0] rfl (by kernel_rfl) (by kernel_rfl) (by kernel_rfl)
      (OpenSpec.preRow_of_cond 8 hx (by kernel_rfl) (fun k hk => by cases hk) (by kernel_rfl) (laid_met os))) ?_
  intro W base args ds gs before hval hW _ _ hsz hL _ _
  exact contract H enc W base args ds gs before hval hW hL hsz

theorem said : Rows.SealRestsSaid :=
  OpenClaim.holds_of_cond 5 Tryd.f5 rfl rfl rfl rfl rfl rfl rfl ⟨rfl, rfl, rfl, rfl, rfl⟩ rfl rfl rfl rfl rfl (by kernel_rfl) Tryd.func5 (by kernel_rfl)
    (of_decide_eq_true (by kernel_rfl)) (by unfold Func.isWrapper; first | (rw [if_pos (by decide +kernel)]; kernel_rfl) | (rw [if_neg (by decide +kernel)]; exact ⟨rfl, rfl⟩))
    (fun os started H enc _ F => by rw [OpenClaim.pre_eq_preRow]; exact lifted os started H enc F)

theorem plain (f : FuncId) (fn : Func) (hf : Tryd.pinned.checked.prog.funcNamed "grapevine/grapevinelaw01.SealRests" = some f) (hfn : Tryd.pinned.checked.prog.funcs[f]? = some fn) :
    false = Tryd.pinned.checked.prog.looks [] ∧ ∀ (j : Nat) t, fn.params[j]? = some t → Tryd.pinned.checked.prog.wantsStandIn t = false := by
  obtain rfl : f = 5 := Option.some.inj ((show Tryd.prog.funcNamed "grapevine/grapevinelaw01.SealRests" = some 5 by kernel_rfl).symm.trans hf) |>.symm
  obtain rfl : fn = Tryd.f5 := (Option.some.inj (Tryd.func5.symm.trans hfn)).symm
  refine ⟨by kernel_rfl, fun j t ht => ?_⟩
  rw [Tryd.params5] at ht
  have hall : ∀ t ∈ (#[23] : Array TypeId), Tryd.prog.wantsStandIn t = false := by
    intro t ht
    simp at ht
    subst ht
    exact (show Tryd.prog.wantsStandIn 23 = false by kernel_rfl)
  exact hall t (Array.mem_of_getElem? ht)

theorem card : Rows.SealRestsCardSaid :=
  Claim7.holds_tied_plain_at .later [] _ _ _ _ said (fun _ h => by cases h) (by kernel_rfl) (fun _ h => by cases h) sealRests_row_tie rfl ⟨rfl, rfl⟩ (by kernel_rfl) rfl plain (by kernel_rfl)
end sealRests

theorem sealRests_holds : Rows.SealRestsCardSaid := sealRests.card
end Go.Proofs.YtpkhkhoajaobkaaDoor

