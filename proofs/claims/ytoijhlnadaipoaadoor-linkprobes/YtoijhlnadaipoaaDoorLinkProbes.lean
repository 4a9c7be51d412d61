/- Proved: for every two lives and tick grapevinelaw14.LinkProbes answers true. Its condition: the package-level table seal.steps holds what its initialiser lays (the card ties that to the program's text). -/
import Derived.Test.YtoijhlnadaipoaaDoorLk10
import Derived.Test.YtoijhlnadaipoaaDoorDoor
namespace Go.Proofs.YtoijhlnadaipoaaDoor
open Go.ChangeShapes Go.WideShapes Go.ChangeAt Go.RowKit
namespace linkProbes

theorem len10 (x y z : Nat) : (lebs [x, y, z]).length ≤ 30 := by have := lebs_len [x, y, z]; simpa using this

set_option maxRecDepth 100000 in
set_option maxHeartbeats 4000000 in
theorem walk (a b now : Nat) (ha : a < 65536) (hb : b < 65536) (hn : now < 4294967296) (w : World) (ht : Tab w) (h0 : 0 < w.heap.size) :
    Calls Tryd.prog 5 #[.int .u16 (a : Int), .int .u16 (b : Int), .int .u32 (now : Int)] w fun e w' => e = .returned (.bool true) ∧ Below w.heap.size w w' := by
  have HT : Hid (Tab w) := ht
  have HCA : Hid (((1 + a : Nat) : Int) = 1 + (a : Int)) := by show _ = _; omega
  have HCB : Hid (((1 + b : Nat) : Int) = 1 + (b : Int)) := by show _ = _; omega
  clear ht
  go_enter Tryd.func5, Tryd.ntmps5
  go_wp2_with fail
  refine (lk_New (1 + (a : Int)) 2 w (by omega) (by omega) (by omega) (by omega)).mono ?_
  rintro e w1 ⟨rfl, HX1, hb1⟩
  have HB1 : Hid (Below w.heap.size w w1) := hb1
  clear hb1
  go_wp2_with fail
  refine (lk_New (1 + (b : Int)) 2 w1 (by omega) (by omega) (by omega) (by omega)).mono ?_
  rintro e w2 ⟨rfl, HY2, hb2⟩
  have HX2 : Hid (LkIn w2 w.heap.size w.heap.size (.slice none 0 0) [] ⟨1 + (a : Int), 0, 0, 2, 0, 0, -1⟩) := HX1.out.below hb2
  have HB2 : Hid (Below w.heap.size w w2) := HB1.out.trans (hb2.mono HB1.out.size)
  have HXY : Hid (w.heap.size ≠ w1.heap.size) := by have := HX1.out.blk.lt; show _ ≠ _; omega
  have HWL : Hid (w.heap.size ≤ w1.heap.size) := HB1.out.size
  clear hb2 HX1
  go_wp2_with fail
  refine (lk_Alive_never w2 w.heap.size w.heap.size (.slice none 0 0) [] _ HX2.out rfl (now : Int)).mono ?_
  rintro e w' ⟨rfl, hw'⟩
  rw [hw']
  clear hw' w'
  go_wp2_with fail
  refine (lk_Probe_ok w2 w.heap.size w.heap.size (.slice none 0 0) [] _ HX2.out (by show (0 : Int) < 2; omega) (by simp)).mono ?_
  rintro e w3 ⟨rfl, HX3e, hf3⟩
  have HY3 : Hid (LkIn w3 w1.heap.size w1.heap.size (.slice none 0 0) [] ⟨1 + (b : Int), 0, 0, 2, 0, 0, -1⟩) := HY2.out.beside HX2.out (Ne.symm HXY.out) (fun k hk => by cases hk) hf3
  have HB3 : Hid (Below w.heap.size w w3) := HB2.out.trans (hf3.below (Nat.le_refl _) (fun k hk => by cases hk) HB2.out.size)
  obtain ⟨v3, hX3⟩ := HX3e.out
  simp only [List.nil_append] at hX3
  obtain ⟨gv, c3, rfl, hgv⟩ := hX3.form (m := 0) rfl
  have HX3 : Hid (LkIn w3 w.heap.size w.heap.size (.slice (some ⟨gv, 0, none⟩) (0 + 1) c3) [((⟨2, []⟩ : Wt), ((none, 0, 0) : Bd))] ⟨1 + (a : Int), 0, 0, 2, 0, 0, -1⟩) := hX3
  have HGV : Hid (w.heap.size ≤ gv) := hgv
  have hpl := lk_Pull_ok w3 w.heap.size w.heap.size gv 0 c3 (⟨2, []⟩, (none, 0, 0)) [] _ HX3.out rfl (1 + a) 0 0 HCA.out.symm rfl rfl (by omega) (by omega) (by omega) (by have := len10 (1 + a) 0 (0 + 1); show _ + 0 ≤ 4096; omega) (HT.out.below h0 HB3.out) (Nat.lt_of_lt_of_le h0 HB3.out.size) h0 h0
  simp only [List.length_nil, List.append_nil, Nat.zero_add, Nat.add_zero] at hpl
  obtain ⟨N1, hN1⟩ : ∃ N, N = (lebs [1 + a, 0, 1]).length + 8 := ⟨_, rfl⟩
  have HN1 : Hid (N1 = (lebs [1 + a, 0, 1]).length + 8) := hN1
  rw [← hN1] at hpl
  have HPL : Hid (Calls Tryd.prog 11 #[.pointer (some ⟨w.heap.size, 0, none⟩)] w3 fun e w' => (∃ gf, e = .returned (.tuple #[.slice (some ⟨gf, 0, none⟩) N1 N1, .bool true]) ∧ Hid (Own w' w3.heap.size (some ⟨gf, 0, none⟩) N1 N1 (SealM.sealed 2 (lebs [1 + a, 0, 1])))) ∧ Hid (∃ v', LkIn w' w.heap.size w.heap.size v' [] ⟨1 + (a : Int), 0, (0 : Int) + 1, 2, 0, 0, -1⟩) ∧ Fr w3 w' w.heap.size (.slice (some ⟨gv, 0, none⟩) 1 c3)) := hpl
  clear hpl hX3 HX3e hf3 hgv hN1 HY2
  go_wp2_with fail
  refine HPL.out.mono ?_
  rintro e w4 ⟨⟨gf, he, HO4⟩, HX4e, hf4⟩
  subst he
  obtain ⟨v4, hX4⟩ := HX4e.out
  have HX4 : Hid (LkIn w4 w.heap.size w.heap.size v4 [] ⟨1 + (a : Int), 0, (0 : Int) + 1, 2, 0, 0, -1⟩) := hX4
  have HY4 : Hid (LkIn w4 w1.heap.size w1.heap.size (.slice none 0 0) [] ⟨1 + (b : Int), 0, 0, 2, 0, 0, -1⟩) := HY3.out.beside HX3.out (Ne.symm HXY.out) (fun k hk => by cases hk) hf4
  have HB4 : Hid (Below w.heap.size w w4) := HB3.out.trans (hf4.below (Nat.le_refl _) (fun k hk => by simp only [Value.ownBlock, Option.some.injEq] at hk; have := HGV.out; omega) HB3.out.size)
  have HV4 : Hid (∀ k, v4.ownBlock = some k → w.heap.size ≤ k ∧ k < w4.heap.size) := fun k hk => hX4.row.lt k hk
  clear hX4 HX4e hf4 HX2 HX3 HPL HY3
  go_wp2_with fail
  refine (lk_Take_2 w4 w4.heap.size w1.heap.size (.slice none 0 0) [] _ HY4.out.rebase (some ⟨gf, 0, none⟩) N1 N1 _ (1 + a) 0 now HO4.out.rd rfl (Nat.le_refl _) (by omega) (by omega) (by show (0 : Int) < _; omega) (.inl rfl) (by omega) rfl (by show (0 : Int) < 2; omega) (by simp) (HT.out.below h0 HB4.out) (Nat.lt_of_lt_of_le h0 HB4.out.size)).mono ?_
  rintro e w5 ⟨rfl, HY5e, hf5⟩
  obtain ⟨v5, hY5⟩ := HY5e.out
  simp only [List.nil_append] at hY5
  obtain ⟨gu, c5, rfl, hgu⟩ := hY5.form (m := 0) rfl
  have HX5 : Hid (LkIn w5 w.heap.size w.heap.size v4 [] ⟨1 + (a : Int), 0, (0 : Int) + 1, 2, 0, 0, -1⟩) := HX4.out.beside HY4.out HXY.out (fun k hk e => by cases e) hf5
  have HB5 : Hid (Below w.heap.size w w5) := HB4.out.trans (hf5.below HWL.out (fun k hk => by cases hk) HB4.out.size)
  have HGU : Hid (w4.heap.size ≤ gu) := hgu
  obtain ⟨w6, HW6⟩ : ∃ w6, Hid (w6 = w5.alloc (.cells #[.int .i64 0, .int .i64 0, .int .i64 0, .int .i64 0, .int .i64 0, .int .i64 0, .slice none 0 0, .slice none 0 0] 37)) := ⟨_, rfl⟩
  have hb6 : Below w5.heap.size w5 w6 := by rw [HW6.out]; exact below_new _ _
  have HX6 : Hid (LkIn w6 w.heap.size w.heap.size v4 [] ⟨1 + (a : Int), 0, (0 : Int) + 1, 2, 0, 0, -1⟩) := HX5.out.below hb6
  have HY6 : Hid (LkIn w6 w4.heap.size w1.heap.size (.slice (some ⟨gu, 0, none⟩) (0 + 1) c5) [((⟨3, []⟩ : Wt), ((none, 0, 0) : Bd))] ⟨1 + (b : Int), ((1 + a : Nat) : Int), 0, 2, 1, 1, (now : Int)⟩) := hY5.below hb6
  have HB6 : Hid (Below w.heap.size w w6) := HB5.out.trans (hb6.mono HB5.out.size)
  have hpy := lk_Pull_ok w6 w4.heap.size w1.heap.size gu 0 c5 (⟨3, []⟩, (none, 0, 0)) [] _ HY6.out rfl (1 + b) (1 + a) 0 HCB.out.symm rfl rfl (by omega) (by omega) (by omega) (by have := len10 (1 + b) (1 + a) (0 + 1); show _ + 0 ≤ 4096; omega) (HT.out.below h0 HB6.out) (Nat.lt_of_lt_of_le h0 HB6.out.size) (Nat.lt_of_lt_of_le h0 HB4.out.size) (Nat.lt_of_lt_of_le h0 HWL.out)
  simp only [List.length_nil, List.append_nil, Nat.zero_add, Nat.add_zero] at hpy
  obtain ⟨N2, hN2⟩ : ∃ N, N = (lebs [1 + b, 1 + a, 1]).length + 8 := ⟨_, rfl⟩
  rw [← hN2] at hpy
  have HPY : Hid (Calls Tryd.prog 11 #[.pointer (some ⟨w1.heap.size, 0, none⟩)] w6 fun e w' => (∃ gf, e = .returned (.tuple #[.slice (some ⟨gf, 0, none⟩) N2 N2, .bool true]) ∧ Hid (Own w' w6.heap.size (some ⟨gf, 0, none⟩) N2 N2 (SealM.sealed 3 (lebs [1 + b, 1 + a, 1])))) ∧ Hid (∃ v', LkIn w' w4.heap.size w1.heap.size v' [] ⟨1 + (b : Int), ((1 + a : Nat) : Int), (0 : Int) + 1, 2, 1, 1, (now : Int)⟩) ∧ Fr w6 w' w1.heap.size (.slice (some ⟨gu, 0, none⟩) 1 c5)) := hpy
  clear hpy hY5 HY5e hf5 hgu hN2 hb6 HX5 HX4 HY4 HO4
  go_wp2_with fail
  rw [← HW6.out]
  refine HPY.out.mono ?_
  rintro e w7 ⟨⟨gq, he, HO7⟩, HY7e, hf7⟩
  subst he
  obtain ⟨v7, hY7⟩ := HY7e.out
  have HX7 : Hid (LkIn w7 w.heap.size w.heap.size v4 [] ⟨1 + (a : Int), 0, (0 : Int) + 1, 2, 0, 0, -1⟩) := HX6.out.beside HY6.out HXY.out (fun k hk e => by simp only [Value.ownBlock, Option.some.injEq] at e; have h5 := (HV4.out k hk).2; have h6 := HGU.out; omega) hf7
  have HY7 : Hid (LkIn w7 w4.heap.size w1.heap.size v7 [] ⟨1 + (b : Int), ((1 + a : Nat) : Int), (0 : Int) + 1, 2, 1, 1, (now : Int)⟩) := hY7
  have HB7 : Hid (Below w.heap.size w w7) := HB6.out.trans (hf7.below HWL.out (fun k hk => by simp only [Value.ownBlock, Option.some.injEq] at hk; have h5 := HGU.out; have h6 := HB4.out.size; omega) HB6.out.size)
  have HV7 : Hid (∀ k, v7.ownBlock = some k → w4.heap.size ≤ k) := fun k hk => (hY7.row.lt k hk).1
  clear hY7 HY7e hf7 HX6 HY6 HPY HW6
  go_wp2_with fail
  refine (lk_Take_3 w7 w.heap.size w.heap.size v4 [] _ HX7.out (some ⟨gq, 0, none⟩) N2 N2 _ (1 + b) (1 + a) now HO7.out.rd rfl (Nat.le_refl _) (by omega) (by omega) (by show (0 : Int) < _; omega) (.inr HCA.out) (by omega) rfl (HT.out.below h0 HB7.out) (Nat.lt_of_lt_of_le h0 HB7.out.size)).mono ?_
  rintro e w8 ⟨rfl, HX8e, hf8⟩
  obtain ⟨v8, hX8⟩ := HX8e.out
  have HY8 : Hid (LkIn w8 w4.heap.size w1.heap.size v7 [] ⟨1 + (b : Int), ((1 + a : Nat) : Int), (0 : Int) + 1, 2, 1, 1, (now : Int)⟩) := HY7.out.beside HX7.out (Ne.symm HXY.out) (fun k hk e => by have h5 := (HV4.out k e).2; have h6 := HV7.out k hk; omega) hf8
  have HB8 : Hid (Below w.heap.size w w8) := HB7.out.trans (hf8.below (Nat.le_refl _) (fun k hk => (HV4.out k hk).1) HB7.out.size)
  obtain ⟨w9, HW9⟩ : ∃ w9, Hid (w9 = w8.alloc (.cells #[.int .i64 0, .int .i64 0, .int .i64 0, .int .i64 0, .int .i64 0, .int .i64 0, .slice none 0 0, .slice none 0 0] 37)) := ⟨_, rfl⟩
  have hb9 : Below w8.heap.size w8 w9 := by rw [HW9.out]; exact below_new _ _
  have HX9 : Hid (LkIn w9 w.heap.size w.heap.size v8 [] ⟨1 + (a : Int), ((1 + b : Nat) : Int), (0 : Int) + 1, 2, 1, 1, (now : Int)⟩) := hX8.below hb9
  have HY9 : Hid (LkIn w9 w4.heap.size w1.heap.size v7 [] ⟨1 + (b : Int), ((1 + a : Nat) : Int), (0 : Int) + 1, 2, 1, 1, (now : Int)⟩) := HY8.out.below hb9
  have HB9 : Hid (Below w.heap.size w w9) := HB8.out.trans (hb9.mono HB8.out.size)
  have hlv := lk_Lives w9 w.heap.size w.heap.size v8 [] _ HX9.out
  simp only [HCB.out] at hlv
  have HLV : Hid (Calls Tryd.prog 19 #[.pointer (some ⟨w.heap.size, 0, none⟩)] w9 fun e w' => e = .returned (.tuple #[.int .i64 (1 + (a : Int)), .int .i64 (1 + (b : Int))]) ∧ Below w9.heap.size w9 w') := hlv
  clear hX8 HX8e hf8 hb9 HX7 HY7 HY8 hlv HO7
  go_wp2_with fail
  rw [← HW9.out]
  refine HLV.out.mono ?_
  rintro e wa ⟨he, hba⟩
  subst he
  have HXa : Hid (LkIn wa w.heap.size w.heap.size v8 [] ⟨1 + (a : Int), ((1 + b : Nat) : Int), (0 : Int) + 1, 2, 1, 1, (now : Int)⟩) := HX9.out.below hba
  have HYa : Hid (LkIn wa w4.heap.size w1.heap.size v7 [] ⟨1 + (b : Int), ((1 + a : Nat) : Int), (0 : Int) + 1, 2, 1, 1, (now : Int)⟩) := HY9.out.below hba
  have HBa : Hid (Below w.heap.size w wa) := HB9.out.trans (hba.mono HB9.out.size)
  clear hba HX9 HY9 HLV HW9
  go_wp2_with fail
  refine (law_live14 wa (HT.out.below h0 HBa.out) (Nat.lt_of_lt_of_le h0 HBa.out.size)).mono ?_
  rintro e wb ⟨rfl, hbb⟩
  have HXb : Hid (LkIn wb w.heap.size w.heap.size v8 [] ⟨1 + (a : Int), ((1 + b : Nat) : Int), (0 : Int) + 1, 2, 1, 1, (now : Int)⟩) := HXa.out.below hbb
  have HYb : Hid (LkIn wb w4.heap.size w1.heap.size v7 [] ⟨1 + (b : Int), ((1 + a : Nat) : Int), (0 : Int) + 1, 2, 1, 1, (now : Int)⟩) := HYa.out.below hbb
  have HBb : Hid (Below w.heap.size w wb) := HBa.out.trans (hbb.mono HBa.out.size)
  clear hbb HXa HYa
  go_wp2_with fail
  refine (lk_Alive_heard wb w.heap.size w.heap.size v8 [] _ HXb.out now (by omega) rfl (now : Int) true (decide_eq_true (by omega))).mono ?_
  rintro e w' ⟨rfl, hw'⟩
  rw [hw']
  clear hw' w'
  go_wp2_with fail
  refine (lk_Alive_heard wb w4.heap.size w1.heap.size v7 [] _ HYb.out now (by omega) rfl ((now : Int) + 64) true (decide_eq_true (by omega))).mono ?_
  rintro e w' ⟨rfl, hw'⟩
  rw [hw']
  clear hw' w'
  go_wp2_with fail
  refine (lk_Alive_heard wb w4.heap.size w1.heap.size v7 [] _ HYb.out now (by omega) rfl ((now : Int) + 64 + 1) false (decide_eq_false (by omega))).mono ?_
  rintro e w' ⟨rfl, hw'⟩
  rw [hw']
  clear hw' w'
  go_wp2
  go_ret
  exact ⟨by simp, HBb.out⟩

set_option maxRecDepth 100000 in
theorem contract (H : Type) (enc : TypeId × Value → H) (W : World) (base : Nat) (args : Array Value) (ds gs : List (DataW H)) (before : List MemPlace)
    (hval : ∀ (j : Nat) t v, Tryd.f5.params[j]? = some t → args[j]? = some v → Value.okWide Tryd.prog W .any base t v)
    (hW : DataW.Whole enc Tryd.prog Tryd.f5.params.toList Rows.linkProbesSpec.vars false W args.toList ds gs before) (hL : laidMetH Tryd.prog [("grapevine/seal.steps", Rows.laid_grapevine_seal_steps)] W) :
    Calls Tryd.prog 5 args W fun e W' => ∃ v, e = .returned v ∧ Rows.linkProbesSpec.post enc Tryd.prog Tryd.f5 false true false false W args v W' := by
  have hW' := hW
  obtain ⟨p, q, hA0, hV, rfl, hfz, hnd⟩ := hW
  have hA : DataW.TrodAll enc Tryd.prog W 0 (fun _ => true) true Tryd.f5.params.toList args.toList ds p := hA0
  have hK := hA
  rw [Tryd.params5] at hA hval
  obtain ⟨v0, vs0, d0, ds0, p0, q0, hargs, rfl, rfl, h0, r0⟩ := trodAll_cons hA
  obtain ⟨v1, vs1, d1, ds1, p1, q1, rfl, rfl, rfl, h1, r1⟩ := trodAll_cons r0
  obtain ⟨v2, vs2, d2, ds2, p2, q2, rfl, rfl, rfl, h2, r2⟩ := trodAll_cons r1
  obtain ⟨rfl, rfl, rfl⟩ := trodAll_nil r2
  obtain rfl : args = #[v0, v1, v2] := by cases args; simp_all
  obtain ⟨rfl, rfl⟩ := trodVars_none hV
  obtain ⟨x0, rfl, rfl, rfl, w0⟩ := open_int Tryd.underlying61 (hval 0 61 v0 rfl rfl) h0
  have b0 : (0 : Int) ≤ x0 ∧ x0 ≤ 65535 := by simpa [Lit.wf, IntKind.min, IntKind.max, IntKind.signed, IntKind.bits] using w0
  obtain ⟨n0, rfl⟩ := Int.eq_ofNat_of_zero_le b0.1
  obtain ⟨x1, rfl, rfl, rfl, w1⟩ := open_int Tryd.underlying61 (hval 1 61 v1 rfl rfl) h1
  have b1 : (0 : Int) ≤ x1 ∧ x1 ≤ 65535 := by simpa [Lit.wf, IntKind.min, IntKind.max, IntKind.signed, IntKind.bits] using w1
  obtain ⟨n1, rfl⟩ := Int.eq_ofNat_of_zero_le b1.1
  obtain ⟨x2, rfl, rfl, rfl, w2⟩ := open_int Tryd.underlying62 (hval 2 62 v2 rfl rfl) h2
  have b2 : (0 : Int) ≤ x2 ∧ x2 ≤ 4294967295 := by simpa [Lit.wf, IntKind.min, IntKind.max, IntKind.signed, IntKind.bits] using w2
  obtain ⟨n2, rfl⟩ := Int.eq_ofNat_of_zero_le b2.1
  have ht := table hL
  have hz : 0 < W.heap.size := World.block_lt_of_cell? W _ (ht 0 (by omega))
  refine (walk n0 n1 n2 (by omega) (by omega) (by omega) W ht hz).mono fun e W' ⟨he, bel⟩ => ?_
  subst he
  exact ⟨_, rfl, _, _, _, [], _, [], hW', trodAll_mk1 (shut_bool Tryd.underlying4 _), trodAll_below laidOut bel _ _ _ _ (by kernel_rfl) hK, rfl, bel.frame _, fun h => by cases h⟩

theorem laid_met (os : Os) : laidMet Tryd.prog Rows.linkProbesRow.laid ((layTab (World.holding Tryd.prog os ⟨#[], #[], []⟩)).forCall (fun _ _ => 0) ⟨#[], #[.int .u16 0, .int .u16 0, .int .u32 0], []⟩).memory :=
  laidMet_of_run' 8 (by kernel_rfl) (by kernel_rfl)
theorem reads (os : Os) {H : Type} (enc : TypeId × Value → H) : ∃ places, DataW.whole enc Tryd.prog ((layTab (World.holding Tryd.prog os ⟨#[], #[], []⟩)).forCall (fun _ _ => 0) ⟨#[], #[.int .u16 0, .int .u16 0, .int .u32 0], []⟩).memory Tryd.f5.params.toList Rows.linkProbesSpec.vars false (#[.int .u16 0, .int .u16 0, .int .u32 0] : Array Value).toList 8 = some ([.lit (.int .u16 0), .lit (.int .u16 0), .lit (.int .u32 0)], [], places) :=
  ⟨[], by kernel_rfl⟩

set_option maxRecDepth 100000 in
theorem lifted (os : Os) (started : os.Started) (H : Type) (enc : TypeId × Value → H) (F : Stop.Interp) :
    ReturnsInHanded {} Tryd.checked os 5 .any ((OpenSpec.ofChange Rows.linkProbesSpec).preRow enc Tryd.prog Tryd.f5 Rows.linkProbesRow.domain false Rows.linkProbesRow.laid) (((OpenSpec.ofChange Rows.linkProbesSpec).at F).post enc Tryd.prog Tryd.f5 false true false false) := by
  obtain ⟨places, hx⟩ := reads os enc
  refine returnsInHanded_of_row (C := Tryd.checked) (s := OpenSpec.ofChange Rows.linkProbesSpec) own started (by kernel_rfl) Tryd.func5
    (witness_row_at (enc := enc) (C := Tryd.checked) false (layTab (World.holding Tryd.prog os ⟨#[], #[], []⟩)) #[.int .u16 0, .int .u16 0, .int .u32 0] rfl (by kernel_rfl) (by kernel_rfl) (by kernel_rfl)
      (OpenSpec.preRow_of_cond 8 hx (by kernel_rfl) (fun k hk => by cases hk) (by kernel_rfl) (laid_met os))) ?_
  intro W base args ds gs before hval hW _ _ _ hL _ _
  exact contract H enc W base args ds gs before hval hW hL

theorem said : Rows.LinkProbesSaid :=
  OpenClaim.holds_of_cond 5 Tryd.f5 rfl rfl rfl rfl rfl rfl rfl ⟨rfl, rfl, rfl, rfl, rfl⟩ rfl rfl rfl rfl rfl (by kernel_rfl) Tryd.func5 (by kernel_rfl)
    (of_decide_eq_true (by kernel_rfl)) (by unfold Func.isWrapper; first | (rw [if_pos (by decide +kernel)]; kernel_rfl) | (rw [if_neg (by decide +kernel)]; exact ⟨rfl, rfl⟩))
    (fun os started H enc _ F => by rw [OpenClaim.pre_eq_preRow]; exact lifted os started H enc F)

theorem plain (f : FuncId) (fn : Func) (hf : Tryd.pinned.checked.prog.funcNamed "grapevine/grapevinelaw14.LinkProbes" = some f) (hfn : Tryd.pinned.checked.prog.funcs[f]? = some fn) :
    false = Tryd.pinned.checked.prog.looks [] ∧ ∀ (j : Nat) t, fn.params[j]? = some t → Tryd.pinned.checked.prog.wantsStandIn t = false := by
  obtain rfl : f = 5 := Option.some.inj ((show Tryd.prog.funcNamed "grapevine/grapevinelaw14.LinkProbes" = some 5 by kernel_rfl).symm.trans hf) |>.symm
  obtain rfl : fn = Tryd.f5 := (Option.some.inj (Tryd.func5.symm.trans hfn)).symm
  refine ⟨by kernel_rfl, fun j t ht => ?_⟩
  rw [Tryd.params5] at ht
  have hall : ∀ t ∈ (#[61, 61, 62] : Array TypeId), Tryd.prog.wantsStandIn t = false := by
    intro t ht
    simp at ht
    rcases ht with rfl | rfl
    · exact (show Tryd.prog.wantsStandIn 61 = false by kernel_rfl)
    · exact (show Tryd.prog.wantsStandIn 62 = false by kernel_rfl)
  exact hall t (Array.mem_of_getElem? ht)

theorem card : Rows.LinkProbesCardSaid :=
  Claim7.holds_tied_plain_at .later [] _ _ _ _ said (fun _ h => by cases h) (by kernel_rfl) (fun _ h => by cases h) linkProbes_row_tie rfl ⟨rfl, rfl⟩ (by kernel_rfl) rfl plain (by kernel_rfl)
end linkProbes

theorem linkProbes_holds : Rows.LinkProbesCardSaid := linkProbes.card
end Go.Proofs.YtoijhlnadaipoaaDoor

