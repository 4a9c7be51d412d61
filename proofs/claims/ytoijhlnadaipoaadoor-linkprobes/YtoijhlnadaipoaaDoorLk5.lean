/- grapevinelaw14: live; a nil link. -/
import Derived.Test.YtoijhlnadaipoaaDoorLk4
namespace Go.Proofs.YtoijhlnadaipoaaDoor
open Go.RowKit

theorem Fr.below {w w' : World} {g B : Nat} {v : Value} (h : Fr w w' g v) (hg : B ≤ g) (hv : ∀ k, v.ownBlock = some k → B ≤ k) (hb : B ≤ w.heap.size) : Below B w w' :=
  ⟨h.all.os, h.all.tape, h.all.output, h.all.size, fun k hk => h.blk k (Nat.lt_of_lt_of_le hk hb) (by omega) (fun e => by have := hv k e.symm; omega)⟩
theorem LkIn.form {w : World} {base g m : Nat} {wv : Value} {L : List (Wt × Bd)} {l : Lk} (h : LkIn w base g wv L l) (hm : L.length = m + 1) : ∃ gv c, wv = .slice (some ⟨gv, 0, none⟩) (m + 1) c ∧ base ≤ gv := by
  rcases h.row.2 with ⟨_, h0⟩ | ⟨gv, c, cur, hv, hb, _⟩
  · omega
  · exact ⟨gv, c, by rw [hv, hm], hb⟩
theorem live_chk14 : chk ⟨2, 0, 0, 0, 1, 2, [], []⟩ = 0 := by decide
theorem live_put14 : putD ⟨2, 0, 0, 0, 1, 2, [], []⟩ = [2, 0, 1, 2] := by decide +kernel
theorem live_lebs : lebs [3, 0, 1] = [3, 0, 1] := by decide +kernel

set_option maxRecDepth 100000 in
set_option maxHeartbeats 2000000 in
theorem law_live14 (w : World) (ht : Tab w) (h0 : 0 < w.heap.size) : Calls Tryd.prog 14 #[] w fun e w' => e = .returned (.bool true) ∧ Below w.heap.size w w' := by
  have HT : Hid (Tab w) := ht
  have HLB : Hid (lebs [3, 0, 1] = [3, 0, 1]) := live_lebs
  have HCZ : Hid (chk ⟨2, 0, 0, 0, 1, 2, [], []⟩ = 0) := live_chk14
  clear ht
  go_enter Tryd.func14, Tryd.ntmps14
  go_wp2_with fail
  refine (lk_New 3 2 w (by omega) (by omega) (by omega) (by omega)).mono ?_
  rintro e w1 ⟨rfl, HL1, hb1⟩
  have HB1 : Hid (Below w.heap.size w w1) := hb1
  clear hb1
  go_wp2_with fail
  refine (lk_Send_ok w1 w.heap.size w.heap.size (.slice none 0 0) [] _ HL1.out ⟨2, 0, 0, 0, 1, 2, [], []⟩ none 0 0 none 0 0 ⟨⟨rfl, .inl rfl⟩, ⟨rfl, .inl rfl, fun q hq => (by cases hq)⟩, by omega, by omega, by omega, by omega⟩ HCZ.out (by show (0 : Int) < 2; omega) (by simp)).mono ?_
  rintro e w2 ⟨rfl, HL2, hf2⟩
  have HB2 : Hid (Below w.heap.size w w2) := HB1.out.trans (hf2.below (Nat.le_refl _) (fun k hk => by cases hk) HB1.out.size)
  obtain ⟨v2, b2, hL2⟩ := HL2.out
  rw [live_put14] at hL2
  simp only [List.nil_append] at hL2
  obtain ⟨gv, c2, rfl, hgv⟩ := hL2.form (m := 0) rfl
  have HLK : Hid (LkIn w2 w.heap.size w.heap.size (.slice (some ⟨gv, 0, none⟩) (0 + 1) c2) [(⟨1, [2, 0, 1, 2]⟩, b2)] ⟨3, 0, 0, 2, 0, 0, -1⟩) := hL2
  have HGV : Hid (w.heap.size ≤ gv) := hgv
  have hpl := lk_Pull_ok w2 w.heap.size w.heap.size gv 0 c2 (⟨1, [2, 0, 1, 2]⟩, b2) [] ⟨3, 0, 0, 2, 0, 0, -1⟩ hL2 rfl 3 0 0 rfl rfl rfl (by omega) (by omega) (by omega) (by rw [Nat.zero_add, HLB.out]; show 7 ≤ 4096; omega) (HT.out.below h0 HB2.out) (Nat.lt_of_lt_of_le h0 HB2.out.size) h0 h0
  rw [Nat.zero_add, HLB.out] at hpl
  simp only [List.length_cons, List.length_nil, Nat.reduceAdd, List.cons_append, List.nil_append] at hpl
  have HPL : Hid (Calls Tryd.prog 11 #[.pointer (some ⟨w.heap.size, 0, none⟩)] w2 fun e w' => (∃ gf, e = .returned (.tuple #[.slice (some ⟨gf, 0, none⟩) 15 15, .bool true]) ∧ Hid (Own w' w2.heap.size (some ⟨gf, 0, none⟩) 15 15 (SealM.sealed 1 [3, 0, 1, 2, 0, 1, 2]))) ∧ Fr w2 w' w.heap.size (.slice (some ⟨gv, 0, none⟩) 1 c2)) := by
    refine hpl.mono ?_
    rintro e w' ⟨h1, _, h2⟩
    exact ⟨h1, h2⟩
  clear hpl hL2 HL2 hf2 hgv HL1
  go_wp2_with fail
  refine HPL.out.mono ?_
  rintro e w3 ⟨⟨gf, he, HO3⟩, hf3⟩
  subst he
  have HBw3 : Hid (Below w.heap.size w w3) := HB2.out.trans (hf3.below (Nat.le_refl _) (fun k hk => by simp only [Value.ownBlock, Option.some.injEq] at hk; have := HGV.out; omega) HB2.out.size)
  obtain ⟨S, HSS⟩ : ∃ S, Hid (S = str (SealM.sealed 1 [3, 0, 1, 2, 0, 1, 2])) := ⟨_, rfl⟩
  have HCV : Hid (∀ w', Below w3.heap.size w3 w' → (convert 42 9 (.slice (some ⟨gf, 0, none⟩) 15 15)).run Tryd.prog w' = .ok (.string S) w') := fun w' hb => by rw [conv_rd (HO3.out.rd.below hb) 15, HSS.out]
  clear hf3 HPL
  go_wp2
  obtain ⟨wd, HWD⟩ : ∃ wd, Hid (wd = w3.drew) := ⟨_, rfl⟩
  have HBd : Hid (Below w3.heap.size w3 wd) := by rw [HWD.out]; exact below_drew (Below.refl _ _)
  refine wp_region_held_drew (S := fun w' => (convert 42 9 (.slice (some ⟨gf, 0, none⟩) 15 15)).run Tryd.prog w' = .ok (.string S) w') (by kernel_rfl) (by rw [← HWD.out]; exact HCV.out _ HBd.out) (fun hHeld => ?_)
  rw [← HWD.out] at hHeld ⊢
  refine take_putH (i := 0) (v := ?_) (some 26) rfl (by kernel_rfl) (by kernel_rfl) (by kernel_rfl) (by kernel_rfl) (fun _ _ _ h => h) (Or.inl ⟨by rfl, ?_⟩) hHeld ?_
  rotate_left
  · (intro w hSw; go_simp; try with_reducible rfl)
  try simp only [Act.put, List.setIfInBounds_toArray, List.set_cons_zero, List.set_cons_succ]
  refine take_putH (i := 1) (v := ?_) (some 27) rfl (by kernel_rfl) (by kernel_rfl) (by kernel_rfl) (by kernel_rfl) (fun _ _ _ h => h) (Or.inl ⟨by rfl, ?_⟩) hHeld ?_
  rotate_left
  · (intro w hSw; go_simp; try with_reducible rfl)
  try simp only [Act.put, List.setIfInBounds_toArray, List.set_cons_zero, List.set_cons_succ]
  refine take_putH (i := 2) (v := ?_) (some 28) rfl (by kernel_rfl) (by kernel_rfl) (by kernel_rfl) (by kernel_rfl) (fun _ _ _ h => h) (Or.inl ⟨by rfl, ?_⟩) hHeld ?_
  rotate_left
  · (intro w hSw; go_simp; try with_reducible rfl)
  try simp only [Act.put, List.setIfInBounds_toArray, List.set_cons_zero, List.set_cons_succ]
  refine take_putH (i := 3) (v := ?_) (some 29) rfl (by kernel_rfl) (by kernel_rfl) (by kernel_rfl) (by kernel_rfl) (fun _ _ _ h => h) (Or.inl ⟨by rfl, ?_⟩) hHeld ?_
  rotate_left
  · (intro w hSw; go_simp; try with_reducible rfl)
  try simp only [Act.put, List.setIfInBounds_toArray, List.set_cons_zero, List.set_cons_succ]
  refine wpAnyH_ready (rs := [4]) (by kernel_rfl) (by simp) ?_
  refine AllReadyH.cons rfl (fun K hK => ?_) AllReadyH.nil
  go_simp
  obtain ⟨w5, HW5⟩ : ∃ w5, Hid (w5 = wd.alloc (.cells #[.int .u8 2, .int .u8 0, .int .u8 1, .int .u8 2] 5)) := ⟨_, rfl⟩
  rw [← HW5.out]
  have hb5 : Below wd.heap.size wd w5 := by rw [HW5.out]; exact below_new _ _
  have HR5 : Hid (Rd w5 (some ⟨wd.heap.size, 0, none⟩) 4 [2, 0, 1, 2]) := by rw [HW5.out]; exact (Own.new wd 0 #[.int .u8 2, .int .u8 0, .int .u8 1, .int .u8 2] [2, 0, 1, 2] (by decide) rfl (Nat.zero_le _) (by show 4 ≤ maxLen; unfold maxLen; omega)).rd
  have HB5 : Hid (Below w3.heap.size w3 w5) := HBd.out.trans (hb5.mono HBd.out.size)
  clear hb5
  refine hK.out _ _ (HCV.out _ HB5.out) (fun _ => ?_)
  clear hK K
  try simp only [Act.put, List.getElem_toArray, List.getElem_cons_succ, List.getElem_cons_zero, List.setIfInBounds_toArray, List.set_cons_zero, List.set_cons_succ]
  refine wpAnyH_ready (rs := [5]) (by kernel_rfl) (by simp) ?_
  refine AllReadyH.cons rfl (fun K hK => ?_) AllReadyH.nil
  go_simp
  refine (ref_Frame 1 3 0 1 (by omega) (by omega) (by omega) (by omega) (some ⟨wd.heap.size, 0, none⟩) 4 4 [2, 0, 1, 2] w5 HR5.out (fun e => by cases e) (by rw [HLB.out]; decide)).mono ?_
  rintro e w6 ⟨⟨a6, c6, he, HO6⟩, hb6⟩
  rw [HLB.out] at he HO6
  simp only [List.length_cons, List.length_nil, Nat.reduceAdd, List.cons_append, List.nil_append] at he HO6
  subst he
  have HB6 : Hid (Below w3.heap.size w3 w6) := HB5.out.trans (hb6.mono HB5.out.size)
  clear hb6
  refine hK.out _ _ (HCV.out _ HB6.out) (fun _ => ?_)
  clear hK K
  try simp only [Act.put, List.getElem_toArray, List.getElem_cons_succ, List.getElem_cons_zero, List.setIfInBounds_toArray, List.set_cons_zero, List.set_cons_succ]
  refine wpAnyH_ready (rs := [6]) (by kernel_rfl) (by simp) ?_
  refine AllReadyH.cons rfl (fun K hK => ?_) AllReadyH.nil
  have x6 : (convert 42 9 (.slice a6 15 c6)).run Tryd.prog w6 = .ok (.string S) w6 := by rw [conv_rd HO6.out.rd c6, HSS.out]
  go_simp
  refine hK.out _ _ (HCV.out _ HB6.out) (fun _ => ?_)
  clear hK K
  try simp only [Act.put, List.getElem_toArray, List.getElem_cons_succ, List.getElem_cons_zero, List.setIfInBounds_toArray, List.set_cons_zero, List.set_cons_succ]
  refine take_putH (i := 7) (v := ?_) (some 33) rfl (by kernel_rfl) (by kernel_rfl) (by kernel_rfl) (by kernel_rfl) (fun _ _ _ h => h) (Or.inl ⟨by rfl, ?_⟩) (HCV.out _ HB6.out) ?_
  rotate_left
  · (intro w hSw; go_simp; try with_reducible rfl)
  try simp only [Act.put, List.setIfInBounds_toArray, List.set_cons_zero, List.set_cons_succ]
  refine take_putH (i := 8) (v := ?_) (some 34) rfl (by kernel_rfl) (by kernel_rfl) (by kernel_rfl) (by kernel_rfl) (fun _ _ _ h => h) (Or.inl ⟨by rfl, ?_⟩) (HCV.out _ HB6.out) ?_
  rotate_left
  · (intro w hSw; go_simp; try with_reducible rfl)
  try simp only [Act.put, List.setIfInBounds_toArray, List.set_cons_zero, List.set_cons_succ]
  refine take_putH (i := 9) (v := ?_) (some 0) rfl (by kernel_rfl) (by kernel_rfl) (by kernel_rfl) (by kernel_rfl) (fun _ _ _ h => h) (Or.inl ⟨by rfl, ?_⟩) (HCV.out _ HB6.out) ?_
  rotate_left
  · (intro w hSw; go_simp; try with_reducible rfl)
  try simp only [Act.put, List.setIfInBounds_toArray, List.set_cons_zero]
  refine wpAnyH_done (by kernel_rfl) ?_ _
  go_wp2
  go_ret
  exact ⟨by simp, HBw3.out.trans (HB6.out.mono HBw3.out.size)⟩

section
theorem nil_Pull (w : World) : Calls Tryd.prog 11 #[.pointer none] w fun e w' => e = .returned (.tuple #[.slice none 0 0, .bool false]) ∧ w' = w := by
  go_enter Tryd.func11, Tryd.ntmps11
  go_wp2
  go_ret2
  exact ⟨rfl, rfl⟩
theorem nil_Lives (w : World) : Calls Tryd.prog 19 #[.pointer none] w fun e w' => e = .returned (.tuple #[.int .i64 0, .int .i64 0]) ∧ w' = w := by
  go_enter Tryd.func19, Tryd.ntmps19
  go_wp2
  go_ret2
  exact ⟨rfl, rfl⟩
theorem nil_Probe (w : World) : Calls Tryd.prog 16 #[.pointer none] w fun e w' => e = .returned (.int .i64 1) ∧ w' = w := by
  go_enter Tryd.func16, Tryd.ntmps16
  go_wp2
  go_ret
  exact ⟨rfl, rfl⟩
theorem nil_Alive (w : World) (x : Int) : Calls Tryd.prog 18 #[.pointer none, .int .i64 x] w fun e w' => e = .returned (.bool false) ∧ w' = w := by
  go_enter Tryd.func18, Tryd.ntmps18
  go_wp2
  go_ret
  exact ⟨rfl, rfl⟩
theorem nil_Waits (w : World) : Calls Tryd.prog 15 #[.pointer none] w fun e w' => e = .returned (.int .i64 0) ∧ w' = w := by
  go_enter Tryd.func15, Tryd.ntmps15
  go_wp2
  go_ret
  exact ⟨rfl, rfl⟩
theorem nil_Fork (w : World) : Calls Tryd.prog 20 #[.pointer none] w fun e w' => e = .returned (.pointer none) ∧ w' = w := by
  go_enter Tryd.func20, Tryd.ntmps20
  go_wp2
  go_ret
  exact ⟨rfl, rfl⟩
theorem nil_Send (w : World) (p : Pc) (sa : Option Addr) (sn sc : Nat) (ia : Option Addr) (im ic : Nat) : Calls Tryd.prog 9 #[.pointer none, p.val sa sn sc ia im ic] w fun e w' => e = .returned (.int .i64 1) ∧ Below w.heap.size w w' := by
  have HB : ∀ o, Hid (Below w.heap.size w (w.alloc o)) := fun o => below_new _ _
  go_enter Tryd.func9, Tryd.ntmps9
  go_wp2
  go_ret
  exact ⟨rfl, (HB _).out⟩
theorem nil_Take (w : World) (a : Option Addr) (n c : Nat) (x : Int) : Calls Tryd.prog 12 #[.pointer none, .slice a n c, .int .i64 x] w fun e w' => e = .returned (.tuple #[.agg #[.int .i64 0, .int .i64 0, .int .i64 0, .int .i64 0, .int .i64 0, .int .i64 0, .slice none 0 0, .slice none 0 0], .bool false, .int .i64 1]) ∧ Below w.heap.size w w' := by
  have HB : ∀ o, Hid (Below w.heap.size w (w.alloc o)) := fun o => below_new _ _
  go_enter Tryd.func12, Tryd.ntmps12
  go_wp2
  go_returns
  exact ⟨rfl, (HB _).out⟩
end
end Go.Proofs.YtoijhlnadaipoaaDoor
