/- Proved: for every kind and three rows of bytes, of bulk at most 1048576 together, grapevinelaw01.SealBack answers true and leaves its arguments as they were. Its conditions: that bound, and that the package-level table seal.steps holds what its initialiser lays (the card ties that to the program's text). -/
import Derived.Test.YtbhljlafijdodaaDoorSealLives
import Derived.Test.YtbhljlafijdodaaDoorDoor
import Derived.Test.YtbhljlafijdodaaDoorSealRows
namespace Go.Proofs.YtbhljlafijdodaaDoor
open Go.ChangeShapes Go.WideShapes Go.ChangeAt Go.RowKit
namespace sealBack

set_option maxRecDepth 100000 in
set_option maxHeartbeats 2000000 in
theorem walk (k : Nat) (hk : k < 256) (a1 : Option Addr) (l1 c1 : Nat) (xs : List Nat) (a2 : Option Addr) (l2 c2 : Nat) (ys : List Nat) (a3 : Option Addr) (l3 c3 : Nat) (zs : List Nat) (w : World)
    (h1 : Rd w a1 l1 xs) (n1 : a1 = none → c1 = 0) (h2 : Rd w a2 l2 ys) (h3 : Rd w a3 l3 zs) (n3 : a3 = none → c3 = 0) (hl : l1 + l2 + l3 ≤ 1048576) (ht : Tab w) (h0 : 0 < w.heap.size) :
    Calls Tryd.prog 5 #[.int .u8 (k : Int), .agg #[.slice a1 l1 c1, .slice a2 l2 c2, .slice a3 l3 c3]] w fun e w' => e = .returned (.bool true) ∧ Below w.heap.size w w' := by
  have HT : Hid (Tab w) := ht
  have H1 : Hid (Rd w a1 l1 xs) := h1
  have H2 : Hid (Rd w a2 l2 ys) := h2
  have H3 : Hid (Rd w a3 l3 zs) := h3
  clear ht h1 h2 h3
  have HB0 : Hid (∀ nq, Below w.heap.size w ((w.alloc (.cells #[.slice a1 l1 c1, .slice a2 l2 c2, .slice a3 l3 c3] 35)).drewN nq)) := fun nq => (below_alloc w _).trans ((below_drewN _ nq).mono (by simp))
  by_cases hlong : 4096 < l2
  · go_enter Tryd.func5, Tryd.ntmps5
    go_wp2
    go_quiet (fail)
    go_wp2_with fail
    refine (seal_Seal_long k a2 l2 c2 _ hlong (by omega)).mono ?_
    rintro e w2 ⟨rfl, hw2⟩
    subst hw2
    go_wp2_with fail
    refine (lives_any _ (HT.out.below h0 (HB0.out _)) (Nat.lt_of_lt_of_le h0 (HB0.out _).size)).mono ?_
    rintro e w4 ⟨rfl, hb4⟩
    have HB4 : Hid (Below w.heap.size w w4) := (HB0.out _).trans (hb4.mono (HB0.out _).size)
    clear hb4
    go_wp2
    go_ret
    exact ⟨rfl, HB4.out⟩
  · have HXL : Hid (xs.length = l1) := H1.out.size
    have HYL : Hid (ys.length = l2) := H2.out.size
    have HOK : Hid (SealM.opn ((xs ++ SealM.sealed k ys ++ zs).drop l1) = 0 ∧ ((xs ++ SealM.sealed k ys ++ zs).drop l1).getD 1 0 = k ∧ SealM.blen ((xs ++ SealM.sealed k ys ++ zs).drop l1) = l2 ∧ (((xs ++ SealM.sealed k ys ++ zs).drop l1).drop 4).take l2 = ys) := by
      have e : (xs ++ SealM.sealed k ys ++ zs).drop l1 = SealM.sealed k ys ++ zs := by rw [← HXL.out, List.append_assoc, List.drop_left]
      show _ ∧ _ ∧ _ ∧ _
      rw [e]
      refine ⟨SealM.opn_sealed k ys zs hk H2.out.byte (by rw [HYL.out]; omega), SealM.kind_sealed k ys zs, by rw [SealM.blen_sealed, HYL.out], ?_⟩
      have := SealM.body_sealed k ys zs
      rwa [HYL.out] at this
    have ee : ((l1 : Int) + (l2 : Int) + 8 == (l1 : Int) + 8 + (l2 : Int)) = true := by rw [beq_iff_eq]; omega
    go_enter Tryd.func5, Tryd.ntmps5
    go_wp2
    go_quiet (fail)
    go_wp2_with fail
    refine (seal_Seal k hk a2 l2 c2 ys _ (H2.out.below (HB0.out _)) (by omega) (HT.out.below h0 (HB0.out _)) (Nat.lt_of_lt_of_le h0 (HB0.out _).size)).mono ?_
    rintro e w2 ⟨g, rfl, ho2, hb2⟩
    have HB2 : Hid (Below w.heap.size w w2) := (HB0.out _).trans (hb2.mono (HB0.out _).size)
    have HO2 : Hid (Rd w2 (some ⟨g, 0, none⟩) (l2 + 8) (SealM.sealed k ys)) := ho2.rd
    clear ho2 hb2
    have HS2 : Hid (w.heap.size ≤ w2.heap.size) := HB2.out.size
    have HBE : Hid (Below w2.heap.size w2 (w2.alloc (.cells #[] 5))) := below_alloc w2 _
    go_wp2_with (at_builtin; refine wpList_append_rd (by rfl) (.tmp 43) (.tmp 44) (by rfl) w2.heap.size (some ⟨w2.heap.size, 0, none⟩) 0 0 [] (by rfl) (Own.empty w2) a1 l1 c1 xs (by rfl) ((H1.out.below HB2.out).below HBE.out) n1 (by omega) HBE.out.size ?_)
    intro a4 c4 w4 hown4 hgrow4 hbel4
    have HO4 : Hid (Own w4 w2.heap.size a4 l1 c4 xs) := hown4
    have HB4 : Hid (Below w2.heap.size w2 w4) := HBE.out.trans hbel4
    clear hown4 hgrow4 hbel4
    go_wp2_with (at_builtin; refine wpList_append_rd (by rfl) (.tmp 45) (.tmp 46) (by rfl) w2.heap.size a4 l1 c4 xs (by rfl) HO4.out (some ⟨g, 0, none⟩) (l2 + 8) (l2 + 8) (SealM.sealed k ys) (by rfl) (HO2.out.below HB4.out) (fun h => by cases h) (by omega) HB4.out.size ?_)
    intro a5 c5 w5 hown5 hgrow5 hbel5
    have HO5 : Hid (Own w5 w2.heap.size a5 (l1 + (l2 + 8)) c5 (xs ++ SealM.sealed k ys)) := hown5
    have HB5 : Hid (Below w2.heap.size w2 w5) := HB4.out.trans hbel5
    clear hown5 hgrow5 hbel5
    go_wp2_with (at_builtin; refine wpList_append_rd (by rfl) (.tmp 47) (.tmp 48) (by rfl) w2.heap.size a5 (l1 + (l2 + 8)) c5 (xs ++ SealM.sealed k ys) (by rfl) HO5.out a3 l3 c3 zs (by rfl) ((H3.out.below HB2.out).below HB5.out) n3 (by omega) HB5.out.size ?_)
    intro a6 c6 w6 hown6 hgrow6 hbel6
    have HO6 : Hid (Own w6 w2.heap.size a6 (l1 + (l2 + 8) + l3) c6 (xs ++ SealM.sealed k ys ++ zs)) := by
      have h : Own w6 w2.heap.size a6 (l1 + (l2 + 8) + l3) c6 (xs ++ (SealM.sealed k ys ++ zs)) := by simpa using hown6
      rw [← List.append_assoc] at h
      exact h
    have HB6 : Hid (Below w.heap.size w w6) := HB2.out.trans ((HB5.out.trans hbel6).mono HB2.out.size)
    clear hown6 hgrow6 hbel6
    go_wp2_with fail
    refine (seal_Open_good a6 (l1 + (l2 + 8) + l3) c6 (xs ++ SealM.sealed k ys ++ zs) l1 w6 HO6.out.rd HO6.out.capOk (by omega) (by omega) (HT.out.below h0 HB6.out) (Nat.lt_of_lt_of_le h0 HB6.out.size) HOK.out.1 k l2 HOK.out.2.1 HOK.out.2.2.1 ys HOK.out.2.2.2).mono ?_
    rintro e w7 ⟨g7, rfl, ho7, hb7⟩
    have HB7 : Hid (Below w.heap.size w w7) := HB6.out.trans (hb7.mono HB6.out.size)
    have HO7 : Hid (Own w7 w6.heap.size (some ⟨g7, 0, none⟩) l2 l2 ys) := ho7
    clear ho7 hb7
    go_wp2_with fail
    have HBA : Hid (Below w.heap.size w (w7.alloc (.cells #[.int .u8 (k : Int), .int .i64 (l1 : Int), .slice (some ⟨g7, 0, none⟩) l2 l2] 29))) := HB7.out.trans ((below_alloc w7 _).mono HB7.out.size)
    refine (lives_any _ (HT.out.below h0 HBA.out) (Nat.lt_of_lt_of_le h0 HBA.out.size)).mono ?_
    rintro e w8 ⟨rfl, hb8⟩
    have HB8 : Hid (Below w.heap.size w w8) := HBA.out.trans (hb8.mono HBA.out.size)
    have q0 : w8.cell? ⟨w7.heap.size, 0, none⟩ = some (.int .u8 (k : Int)) := (hb8.cell (p := ⟨w7.heap.size, 0, none⟩) (by simp)).trans (by simp)
    have q1 : w8.cell? ⟨w7.heap.size, 1, none⟩ = some (.int .i64 (l1 : Int)) := (hb8.cell (p := ⟨w7.heap.size, 1, none⟩) (by simp)).trans (by simp)
    have q2 : w8.cell? ⟨w7.heap.size, 2, none⟩ = some (.slice (some ⟨g7, 0, none⟩) l2 l2) := (hb8.cell (p := ⟨w7.heap.size, 2, none⟩) (by simp)).trans (by simp)
    have m1 := conv_rd ((HO7.out.below (below_alloc w7 _)).rd.below hb8) l2
    have m2 := conv_rd (H2.out.below HB8.out) c2
    clear hb8
    go_wp2
    go_ret
    exact ⟨by simp, HB8.out⟩

theorem contract (H : Type) (enc : TypeId × Value → H) (W : World) (base : Nat) (args : Array Value) (ds gs : List (DataW H)) (before : List MemPlace)
    (hval : ∀ (j : Nat) t v, Tryd.f5.params[j]? = some t → args[j]? = some v → Value.okWide Tryd.prog W .any base t v)
    (hW : DataW.Whole enc Tryd.prog Tryd.f5.params.toList Rows.sealBackSpec.vars false W args.toList ds gs before) (hL : laidMetH Tryd.prog [("grapevine/seal.steps", Rows.laid_grapevine_seal_steps)] W) (hk : Rows.uptoSmall H (ds ++ gs) = true) :
    Calls Tryd.prog 5 args W fun e W' => ∃ v, e = .returned v ∧ Rows.sealBackSpec.post enc Tryd.prog Tryd.f5 false true false false W args v W' := by
  have hW' := hW
  obtain ⟨p, q, hA0, hV, rfl, hfz, hnd⟩ := hW
  have hA : DataW.TrodAll enc Tryd.prog W 0 (fun _ => true) true Tryd.f5.params.toList args.toList ds p := hA0
  have hK := hA
  rw [Tryd.params5] at hA hval
  obtain ⟨v0, vs0, d0, ds0, p0, q0, hargs, rfl, rfl, h0, r0⟩ := trodAll_cons hA
  obtain ⟨v1, vs1, d1, ds1, p1, q1, rfl, rfl, rfl, h1, r1⟩ := trodAll_cons r0
  obtain ⟨rfl, rfl, rfl⟩ := trodAll_nil r1
  obtain rfl : args = #[v0, v1] := by cases args; simp_all
  obtain ⟨rfl, rfl⟩ := trodVars_none hV
  have hbulk := bulk_bound hk
  simp only [List.cons_append, List.nil_append, Rows.uptoBulkAll] at hbulk
  obtain ⟨x0, rfl, rfl, rfl, w0⟩ := open_int Tryd.underlying5 (hval 0 5 v0 rfl rfl) h0
  have b0 : (0 : Int) ≤ x0 ∧ x0 ≤ 255 := by simpa [Lit.wf, IntKind.min, IntKind.max, IntKind.signed, IntKind.bits] using w0
  obtain ⟨n0, rfl⟩ := Int.eq_ofNat_of_zero_le b0.1
  obtain ⟨a1, l1, c1, xs, a2, l2, c2, ys, a3, l3, c3, zs, rfl, r1, nn1, r2, nn2, r3, nn3, bk⟩ := open_rows (hval 1 35 v1 rfl rfl) h1
  have ht := table hL
  have hz : 0 < W.heap.size := World.block_lt_of_cell? W _ (ht 0 (by omega))
  refine (walk n0 (by omega) a1 l1 c1 xs a2 l2 c2 ys a3 l3 c3 zs W r1 nn1 r2 r3 nn3 (by omega) ht hz).mono fun e W' ⟨he, bel⟩ => ?_
  subst he
  exact ⟨_, rfl, _, _, _, [], _, [], hW', trodAll_mk1 (shut_bool Tryd.underlying4 _), trodAll_below laidOut bel _ _ _ _ (by kernel_rfl) hK, rfl, bel.frame _, fun h => by cases h⟩

theorem laid_met (os : Os) : laidMet Tryd.prog Rows.sealBackUptoRow.laid ((layTab (World.holding Tryd.prog os ⟨#[], #[], []⟩)).forCall (fun _ _ => 0) ⟨#[], #[.int .u8 0, .agg #[.slice none 0 0, .slice none 0 0, .slice none 0 0]], []⟩).memory :=
  laidMet_of_run' 8 (by kernel_rfl) (by kernel_rfl)
theorem reads (os : Os) {H : Type} (enc : TypeId × Value → H) : ∃ places, DataW.whole enc Tryd.prog ((layTab (World.holding Tryd.prog os ⟨#[], #[], []⟩)).forCall (fun _ _ => 0) ⟨#[], #[.int .u8 0, .agg #[.slice none 0 0, .slice none 0 0, .slice none 0 0]], []⟩).memory Tryd.f5.params.toList Rows.sealBackSpec.vars false (#[.int .u8 0, .agg #[.slice none 0 0, .slice none 0 0, .slice none 0 0]] : Array Value).toList 8 = some ([.lit (.int .u8 0), .agg [.nil, .nil, .nil]], [], places) :=
  ⟨[], by kernel_rfl⟩

set_option maxRecDepth 100000 in
theorem lifted (os : Os) (started : os.Started) (H : Type) (enc : TypeId × Value → H) (F : Stop.Interp) :
    ReturnsInHanded {} Tryd.checked os 5 .any ((Rows.OpenSpec.upto Rows.sealBackSpec).preRow enc Tryd.prog Tryd.f5 Rows.sealBackUptoRow.domain false Rows.sealBackUptoRow.laid) (((Rows.OpenSpec.upto Rows.sealBackSpec).at F).post enc Tryd.prog Tryd.f5 false true false false) := by
  obtain ⟨places, hx⟩ := reads os enc
  refine returnsInHanded_of_row (C := Tryd.checked) (s := Rows.OpenSpec.upto Rows.sealBackSpec) own started (by kernel_rfl) Tryd.func5
    (witness_row_at (enc := enc) (C := Tryd.checked) false (layTab (World.holding Tryd.prog os ⟨#[], #[], []⟩)) #[.int .u8 0, .agg #[.slice none 0 0, .slice none 0 0, .slice none 0 0]] rfl (by kernel_rfl) (by kernel_rfl) (by kernel_rfl)
      (OpenSpec.preRow_of_cond 8 hx (by kernel_rfl) (fun k hk => by cases hk; kernel_rfl) (by kernel_rfl) (laid_met os))) ?_
  intro W base args ds gs before hval hW _ hcond _ hL _ _
  exact contract H enc W base args ds gs before hval hW hL (hcond _ rfl)

theorem said : Rows.SealBackUptoSaid :=
  OpenClaim.holds_of_cond 5 Tryd.f5 rfl rfl rfl rfl rfl rfl rfl ⟨rfl, rfl, rfl, rfl, rfl⟩ rfl rfl rfl rfl rfl (by kernel_rfl) Tryd.func5 (by kernel_rfl)
    (of_decide_eq_true (by kernel_rfl)) (by unfold Func.isWrapper; first | (rw [if_pos (by decide +kernel)]; kernel_rfl) | (rw [if_neg (by decide +kernel)]; exact ⟨rfl, rfl⟩))
    (fun os started H enc _ F => by rw [OpenClaim.pre_eq_preRow]; exact lifted os started H enc F)

theorem plain (f : FuncId) (fn : Func) (hf : Tryd.pinned.checked.prog.funcNamed "grapevine/grapevinelaw01.SealBack" = some f) (hfn : Tryd.pinned.checked.prog.funcs[f]? = some fn) :
    false = Tryd.pinned.checked.prog.looks [] ∧ ∀ (j : Nat) t, fn.params[j]? = some t → Tryd.pinned.checked.prog.wantsStandIn t = false := by
  obtain rfl : f = 5 := Option.some.inj ((show Tryd.prog.funcNamed "grapevine/grapevinelaw01.SealBack" = some 5 by kernel_rfl).symm.trans hf) |>.symm
  obtain rfl : fn = Tryd.f5 := (Option.some.inj (Tryd.func5.symm.trans hfn)).symm
  refine ⟨by kernel_rfl, fun j t ht => ?_⟩
  rw [Tryd.params5] at ht
  have hall : ∀ t ∈ (#[5, 35] : Array TypeId), Tryd.prog.wantsStandIn t = false := by
    intro t ht
    simp at ht
    rcases ht with rfl | rfl
    · exact (show Tryd.prog.wantsStandIn 5 = false by kernel_rfl)
    · exact (show Tryd.prog.wantsStandIn 35 = false by kernel_rfl)
  exact hall t (Array.mem_of_getElem? ht)

theorem card : Rows.SealBackUptoCardSaid :=
  Claim7.holds_tied_plain_at .later [] _ _ _ _ said (fun _ h => by cases h) (by kernel_rfl) (fun _ h => by cases h) sealBackUpto_row_tie rfl ⟨rfl, rfl⟩ (by kernel_rfl) rfl plain (by kernel_rfl)
end sealBack

theorem sealBackUpto_holds : Rows.SealBackUptoCardSaid := sealBack.card
end Go.Proofs.YtbhljlafijdodaaDoor

