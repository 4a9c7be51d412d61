/- link.accept in all its ways. -/
import Derived.Test.YtbloomepdchjhaaDoorLkC
namespace Go.Proofs.YtbloomepdchjhaaDoor
open Go.RowKit

/-- A link that has met a life. -/
def accM (l : Lk) (ot gr x0 : Nat) : Lk × Nat := if ot < x0 then ({ l with other := (x0 : Int), great := 0, bits_ := 0 }, 0) else (l, gr)
theorem accM_new {l : Lk} {ot gr x0 : Nat} (h : ot < x0) : accM l ot gr x0 = ({ l with other := (x0 : Int), great := 0, bits_ := 0 }, 0) := if_pos h
theorem accM_old {l : Lk} {ot gr x0 : Nat} (h : ¬ ot < x0) : accM l ot gr x0 = (l, gr) := if_neg h
/-- What accept tells, and what becomes of the link. -/
def accR (l : Lk) (ot gr x0 x1 x2 : Nat) : Int × Lk :=
  if x0 < ot then (13, l) else
    if x1 ≠ 0 ∧ (x1 : Int) ≠ l.life then (13, (accM l ot gr x0).1) else
      if hasW (accM l ot gr x0).2 (accM l ot gr x0).1.bits_ x2 = true then (7, (accM l ot gr x0).1) else
        (0, { (accM l ot gr x0).1 with great := ((addG (accM l ot gr x0).2 x2 : Nat) : Int), bits_ := addB (accM l ot gr x0).2 (accM l ot gr x0).1.bits_ x2 })
theorem accR_other {l m : Lk} {ot gr gm x0 x1 x2 : Nat} (h : ¬ x0 < ot) (hm : accM l ot gr x0 = (m, gm)) (hx : x1 ≠ 0 ∧ (x1 : Int) ≠ l.life) : accR l ot gr x0 x1 x2 = (13, m) := by
  unfold accR
  rw [if_neg h, if_pos hx, hm]
theorem accR_known {l m : Lk} {ot gr gm x0 x1 x2 : Nat} (h : ¬ x0 < ot) (hm : accM l ot gr x0 = (m, gm)) (hx : ¬ (x1 ≠ 0 ∧ (x1 : Int) ≠ l.life)) (hh : hasW gm m.bits_ x2 = true) : accR l ot gr x0 x1 x2 = (7, m) := by
  unfold accR
  rw [if_neg h, if_neg hx, hm]
  exact if_pos hh
theorem accR_new {l m : Lk} {ot gr gm x0 x1 x2 : Nat} (h : ¬ x0 < ot) (hm : accM l ot gr x0 = (m, gm)) (hx : ¬ (x1 ≠ 0 ∧ (x1 : Int) ≠ l.life)) (hh : hasW gm m.bits_ x2 = false) : accR l ot gr x0 x1 x2 = (0, { m with great := ((addG gm x2 : Nat) : Int), bits_ := addB gm m.bits_ x2 }) := by
  unfold accR
  rw [if_neg h, if_neg hx, hm]
  exact if_neg (by show ¬ hasW gm m.bits_ x2 = true; rw [hh]; decide)

set_option maxRecDepth 100000 in
set_option maxHeartbeats 8000000 in
theorem lk_accept (w : World) (base g : Nat) (wv : Value) (L : List (Wt × Bd)) (l : Lk) (h : LkIn w base g wv L l) (k x0 x1 x2 : Nat) (v4 v5 v6 v7 v8 v9 v10 v11 : Value) (ot gr : Nat) (hot : l.other = (ot : Int)) (hgr : l.great = (gr : Int)) (hgb : gr ≤ 1099511627776) (hb : l.bits_ < 18446744073709551616) (hx2 : x2 ≤ 1099511627776) :
    Calls Tryd.prog 24 #[.pointer (some ⟨g, 0, none⟩), .agg #[.int .u8 (k : Int), .int .i64 (x0 : Int), .int .i64 (x1 : Int), .int .i64 (x2 : Int), v4, v5, v6, v7, v8, v9, v10, v11]] w fun e w' => e = .returned (.int .i64 (accR l ot gr x0 x1 x2).1) ∧ Hid (LkIn w' base g wv L (accR l ot gr x0 x1 x2).2) ∧ Fr w w' g wv := by
  obtain ⟨W0, HW0⟩ : ∃ W0, Hid (W0 = w.alloc (.cells #[.int .u8 (k : Int), .int .i64 (x0 : Int), .int .i64 (x1 : Int), .int .i64 (x2 : Int), v4, v5, v6, v7, v8, v9, v10, v11] 78)) := ⟨_, rfl⟩
  have HB0 : Hid (Below w.heap.size w W0) := by rw [HW0.out]; exact below_new _ _
  have HXW0 : Hid (Bk W0 w.heap.size #[.int .u8 (k : Int), .int .i64 (x0 : Int), .int .i64 (x1 : Int), .int .i64 (x2 : Int), v4, v5, v6, v7, v8, v9, v10, v11] 78) := by rw [HW0.out]; exact Bk.new _ _ _
  have HLW0 : Hid (LkIn W0 base g wv L l) := h.below HB0.out
  have HFW0 : Hid (Fr w W0 g wv) := Fr.of HB0.out
  have HGX : Hid (w.heap.size ≠ g) := by have := h.blk.lt; show _ ≠ _; omega
  have HRN : Hid (some w.heap.size ≠ wv.ownBlock) := by
    intro e
    have := (h.row.lt w.heap.size e.symm).2
    omega
  have HOT : Hid (l.other = (ot : Int)) := hot
  have HGR : Hid (l.great = (gr : Int)) := hgr
  clear h hot hgr
  go_enter Tryd.func24, Tryd.ntmps24
  go_wp2
  rw [← HW0.out]
  obtain ⟨wa, HWwa⟩ : ∃ x, Hid (x = W0.drew) := ⟨_, rfl⟩
  have HBwa : Hid (Below W0.heap.size W0 wa) := by rw [HWwa.out]; exact below_drew (Below.refl _ _)
  have HXwa : Hid (Bk wa w.heap.size #[.int .u8 (k : Int), .int .i64 (x0 : Int), .int .i64 (x1 : Int), .int .i64 (x2 : Int), v4, v5, v6, v7, v8, v9, v10, v11] 78) := HXW0.out.stay HBwa.out
  have HLwa : Hid (LkIn wa base g wv L l) := HLW0.out.below HBwa.out
  have HFwa : Hid (Fr w wa g wv) := HFW0.out.trans (Fr.of HBwa.out) trivial
  refine wp_region_held_drew (S := fun w' => w'.cell? ⟨w.heap.size, 1, none⟩ = some (.int .i64 (x0 : Int)) ∧ w'.cell? ⟨g, 1, none⟩ = some (.int .i64 (ot : Int))) (by kernel_rfl) (by rw [← HWwa.out]; exact ⟨HXwa.out.cell 1 rfl, (by rw [← HOT.out]; exact HLwa.out.blk.cell 1 rfl)⟩) (fun hHeld => ?_)
  rw [← HWwa.out] at hHeld ⊢
  refine take_putH (i := 0) (v := ?_) (some 5) rfl (by kernel_rfl) (by kernel_rfl) (by kernel_rfl) (by kernel_rfl) (fun _ _ _ h => h) (Or.inl ⟨by rfl, ?_⟩) hHeld ?_
  rotate_left
  · (intro w hSw; obtain ⟨z0, z1⟩ := hSw; go_simp; try with_reducible rfl)
  try simp only [Act.put, List.setIfInBounds_toArray, List.set_cons_zero, List.set_cons_succ]
  refine take_putH (i := 1) (v := ?_) (some 6) rfl (by kernel_rfl) (by kernel_rfl) (by kernel_rfl) (by kernel_rfl) (fun _ _ _ h => h) (Or.inl ⟨by rfl, ?_⟩) hHeld ?_
  rotate_left
  · (intro w hSw; obtain ⟨z0, z1⟩ := hSw; go_simp; try with_reducible rfl)
  try simp only [Act.put, List.setIfInBounds_toArray, List.set_cons_zero, List.set_cons_succ]
  refine take_putH (i := 2) (v := ?_) (some 7) rfl (by kernel_rfl) (by kernel_rfl) (by kernel_rfl) (by kernel_rfl) (fun _ _ _ h => h) (Or.inl ⟨by rfl, ?_⟩) hHeld ?_
  rotate_left
  · (intro w hSw; obtain ⟨z0, z1⟩ := hSw; go_simp; try with_reducible rfl)
  try simp only [Act.put, List.setIfInBounds_toArray, List.set_cons_zero, List.set_cons_succ]
  refine take_putH (i := 3) (v := ?_) (some 8) rfl (by kernel_rfl) (by kernel_rfl) (by kernel_rfl) (by kernel_rfl) (fun _ _ _ h => h) (Or.inl ⟨by rfl, ?_⟩) hHeld ?_
  rotate_left
  · (intro w hSw; obtain ⟨z0, z1⟩ := hSw; go_simp; try with_reducible rfl)
  try simp only [Act.put, List.setIfInBounds_toArray, List.set_cons_zero, List.set_cons_succ]
  refine take_putH (i := 4) (v := ?_) (some 9) rfl (by kernel_rfl) (by kernel_rfl) (by kernel_rfl) (by kernel_rfl) (fun _ _ _ h => h) (Or.inl ⟨by rfl, ?_⟩) hHeld ?_
  rotate_left
  · (intro w hSw; obtain ⟨z0, z1⟩ := hSw; go_simp; try with_reducible rfl)
  try simp only [Act.put, List.setIfInBounds_toArray, List.set_cons_zero, List.set_cons_succ]
  refine take_putH (i := 5) (v := ?_) (some 10) rfl (by kernel_rfl) (by kernel_rfl) (by kernel_rfl) (by kernel_rfl) (fun _ _ _ h => h) (Or.inl ⟨by rfl, ?_⟩) hHeld ?_
  rotate_left
  · (intro w hSw; obtain ⟨z0, z1⟩ := hSw; go_simp; try with_reducible rfl)
  try simp only [Act.put, List.setIfInBounds_toArray, List.set_cons_zero, List.set_cons_succ]
  refine take_putH (i := 6) (v := ?_) (some 11) rfl (by kernel_rfl) (by kernel_rfl) (by kernel_rfl) (by kernel_rfl) (fun _ _ _ h => h) (Or.inl ⟨by rfl, ?_⟩) hHeld ?_
  rotate_left
  · (intro w hSw; obtain ⟨z0, z1⟩ := hSw; go_simp; try with_reducible rfl)
  try simp only [Act.put, List.setIfInBounds_toArray, List.set_cons_zero, List.set_cons_succ]
  refine wpAnyH_done (by kernel_rfl) ?_ _
  clear hHeld
  by_cases hst : x0 < ot
  · have q1 : (x0 : Int) < (ot : Int) := by omega
    have q2 : decide ((x0 : Int) < (ot : Int)) = true := decide_eq_true q1
    have HRES : Hid (accR l ot gr x0 x1 x2 = (13, l)) := by show _ = _; rw [accR, if_pos hst]
    go_wp2
    go_ret
    rw [HRES.out]
    exact ⟨rfl, HLwa, HFwa.out⟩
  · have q1 : ¬ (x0 : Int) < (ot : Int) := by omega
    have q2 : decide ((x0 : Int) < (ot : Int)) = false := decide_eq_false q1
    go_wp2
    obtain ⟨wb, HWwb⟩ : ∃ x, Hid (x = wa.drew) := ⟨_, rfl⟩
    have HBwb : Hid (Below wa.heap.size wa wb) := by rw [HWwb.out]; exact below_drew (Below.refl _ _)
    have HXwb : Hid (Bk wb w.heap.size #[.int .u8 (k : Int), .int .i64 (x0 : Int), .int .i64 (x1 : Int), .int .i64 (x2 : Int), v4, v5, v6, v7, v8, v9, v10, v11] 78) := HXwa.out.stay HBwb.out
    have HLwb : Hid (LkIn wb base g wv L l) := HLwa.out.below HBwb.out
    have HFwb : Hid (Fr w wb g wv) := HFwa.out.trans (Fr.of HBwb.out) trivial
    refine wp_region_held_drew (S := fun w' => w'.cell? ⟨w.heap.size, 1, none⟩ = some (.int .i64 (x0 : Int)) ∧ w'.cell? ⟨g, 1, none⟩ = some (.int .i64 (ot : Int))) (by kernel_rfl) (by rw [← HWwb.out]; exact ⟨HXwb.out.cell 1 rfl, (by rw [← HOT.out]; exact HLwb.out.blk.cell 1 rfl)⟩) (fun hHeld => ?_)
    rw [← HWwb.out] at hHeld ⊢
    refine take_putH (i := 0) (v := ?_) (some 12) rfl (by kernel_rfl) (by kernel_rfl) (by kernel_rfl) (by kernel_rfl) (fun _ _ _ h => h) (Or.inl ⟨by rfl, ?_⟩) hHeld ?_
    rotate_left
    · (intro w hSw; obtain ⟨z0, z1⟩ := hSw; go_simp; try with_reducible rfl)
    try simp only [Act.put, List.setIfInBounds_toArray, List.set_cons_zero, List.set_cons_succ]
    refine take_putH (i := 1) (v := ?_) (some 13) rfl (by kernel_rfl) (by kernel_rfl) (by kernel_rfl) (by kernel_rfl) (fun _ _ _ h => h) (Or.inl ⟨by rfl, ?_⟩) hHeld ?_
    rotate_left
    · (intro w hSw; obtain ⟨z0, z1⟩ := hSw; go_simp; try with_reducible rfl)
    try simp only [Act.put, List.setIfInBounds_toArray, List.set_cons_zero, List.set_cons_succ]
    refine take_putH (i := 2) (v := ?_) (some 14) rfl (by kernel_rfl) (by kernel_rfl) (by kernel_rfl) (by kernel_rfl) (fun _ _ _ h => h) (Or.inl ⟨by rfl, ?_⟩) hHeld ?_
    rotate_left
    · (intro w hSw; obtain ⟨z0, z1⟩ := hSw; go_simp; try with_reducible rfl)
    try simp only [Act.put, List.setIfInBounds_toArray, List.set_cons_zero, List.set_cons_succ]
    refine take_putH (i := 3) (v := ?_) (some 15) rfl (by kernel_rfl) (by kernel_rfl) (by kernel_rfl) (by kernel_rfl) (fun _ _ _ h => h) (Or.inl ⟨by rfl, ?_⟩) hHeld ?_
    rotate_left
    · (intro w hSw; obtain ⟨z0, z1⟩ := hSw; go_simp; try with_reducible rfl)
    try simp only [Act.put, List.setIfInBounds_toArray, List.set_cons_zero, List.set_cons_succ]
    refine take_putH (i := 4) (v := ?_) (some 16) rfl (by kernel_rfl) (by kernel_rfl) (by kernel_rfl) (by kernel_rfl) (fun _ _ _ h => h) (Or.inl ⟨by rfl, ?_⟩) hHeld ?_
    rotate_left
    · (intro w hSw; obtain ⟨z0, z1⟩ := hSw; go_simp; try with_reducible rfl)
    try simp only [Act.put, List.setIfInBounds_toArray, List.set_cons_zero, List.set_cons_succ]
    refine take_putH (i := 5) (v := ?_) (some 17) rfl (by kernel_rfl) (by kernel_rfl) (by kernel_rfl) (by kernel_rfl) (fun _ _ _ h => h) (Or.inl ⟨by rfl, ?_⟩) hHeld ?_
    rotate_left
    · (intro w hSw; obtain ⟨z0, z1⟩ := hSw; go_simp; try with_reducible rfl)
    try simp only [Act.put, List.setIfInBounds_toArray, List.set_cons_zero, List.set_cons_succ]
    refine take_putH (i := 6) (v := ?_) (some 18) rfl (by kernel_rfl) (by kernel_rfl) (by kernel_rfl) (by kernel_rfl) (fun _ _ _ h => h) (Or.inl ⟨by rfl, ?_⟩) hHeld ?_
    rotate_left
    · (intro w hSw; obtain ⟨z0, z1⟩ := hSw; go_simp; try with_reducible rfl)
    try simp only [Act.put, List.setIfInBounds_toArray, List.set_cons_zero, List.set_cons_succ]
    refine wpAnyH_done (by kernel_rfl) ?_ _
    clear hHeld
    by_cases hnw : ot < x0
    · have q3 : (ot : Int) < (x0 : Int) := by omega
      have q4 : decide ((ot : Int) < (x0 : Int)) = true := decide_eq_true q3
      have b1 : wb.cell? ⟨g, 1, none⟩ = some (.int .i64 l.other) := HLwb.out.blk.cell 1 rfl
      have b5 : wb.cell? ⟨g, 5, none⟩ = some (.int .i64 l.great) := HLwb.out.blk.cell 5 rfl
      have b6 : wb.cell? ⟨g, 6, none⟩ = some (.int .u64 (l.bits_ : Int)) := HLwb.out.blk.cell 6 rfl
      have e1 : wb.cell? ⟨w.heap.size, 1, none⟩ = some (.int .i64 (x0 : Int)) := HXwb.out.cell 1 rfl
      have fg : ∀ i, wb.frozen? ⟨g, i, none⟩ = false := fun i => HLwb.out.blk.free i
      obtain ⟨wc, HWwc⟩ : ∃ x, Hid (x = (((wb.setCell ⟨g, 1, none⟩ (.int .i64 (x0 : Int))).setCell ⟨g, 5, none⟩ (.int .i64 0)).setCell ⟨g, 6, none⟩ (.int .u64 0))) := ⟨_, rfl⟩
      have HLwc : Hid (LkIn wc base g wv L { l with other := (x0 : Int), great := 0, bits_ := 0 }) := by rw [HWwc.out]; exact HLwb.out.three (x0 : Int)
      have HXwc : Hid (Bk wc w.heap.size #[.int .u8 (k : Int), .int .i64 (x0 : Int), .int .i64 (x1 : Int), .int .i64 (x2 : Int), v4, v5, v6, v7, v8, v9, v10, v11] 78) := by rw [HWwc.out]; exact ((HXwb.out.other _ _ HGX.out).other _ _ HGX.out).other _ _ HGX.out
      have HFwc : Hid (Fr w wc g wv) := by rw [HWwc.out]; exact ((HFwb.out.set).set).set
      go_wp2
      rw [← HWwc.out]
      clear b1 b5 b6 e1 fg
      obtain ⟨wd, HWwd⟩ : ∃ x, Hid (x = wc.drew) := ⟨_, rfl⟩
      have HBwd : Hid (Below wc.heap.size wc wd) := by rw [HWwd.out]; exact below_drew (Below.refl _ _)
      have HXwd : Hid (Bk wd w.heap.size #[.int .u8 (k : Int), .int .i64 (x0 : Int), .int .i64 (x1 : Int), .int .i64 (x2 : Int), v4, v5, v6, v7, v8, v9, v10, v11] 78) := HXwc.out.stay HBwd.out
      have HLwd : Hid (LkIn wd base g wv L { l with other := (x0 : Int), great := 0, bits_ := 0 }) := HLwc.out.below HBwd.out
      have HFwd : Hid (Fr w wd g wv) := HFwc.out.trans (Fr.of HBwd.out) trivial
      refine wp_region_held_drew (S := fun w' => w'.cell? ⟨w.heap.size, 2, none⟩ = some (.int .i64 (x1 : Int)) ∧ w'.cell? ⟨g, 0, none⟩ = some (.int .i64 l.life)) (by kernel_rfl) (by rw [← HWwd.out]; exact ⟨HXwd.out.cell 2 rfl, HLwd.out.blk.cell 0 rfl⟩) (fun hHeld => ?_)
      rw [← HWwd.out] at hHeld ⊢
      have hdone : wd.cell? ⟨w.heap.size, 2, none⟩ = some (.int .i64 (x1 : Int)) ∧ wd.cell? ⟨g, 0, none⟩ = some (.int .i64 l.life) := hHeld
      clear hHeld
      by_cases hx1z : x1 = 0
      · subst hx1z
        have HXz : Hid (Bk wd w.heap.size #[.int .u8 (k : Int), .int .i64 (x0 : Int), .int .i64 ((0 : Nat) : Int), .int .i64 (x2 : Int), v4, v5, v6, v7, v8, v9, v10, v11] 78) := HXwd.out
        refine take_putH (i := 0) (v := ?_) (some 28) rfl (by kernel_rfl) (by kernel_rfl) (by kernel_rfl) (by kernel_rfl) (fun _ _ _ h => h) (Or.inl ⟨by rfl, ?_⟩) hdone ?_
        rotate_left
        · (intro w hSw; obtain ⟨z0, z1⟩ := hSw; go_simp; try with_reducible rfl)
        try simp only [Act.put, List.setIfInBounds_toArray, List.set_cons_zero, List.set_cons_succ]
        refine take_putH (i := 1) (v := ?_) (some 29) rfl (by kernel_rfl) (by kernel_rfl) (by kernel_rfl) (by kernel_rfl) (fun _ _ _ h => h) (Or.inl ⟨by rfl, ?_⟩) hdone ?_
        rotate_left
        · (intro w hSw; obtain ⟨z0, z1⟩ := hSw; go_simp; try with_reducible rfl)
        try simp only [Act.put, List.setIfInBounds_toArray, List.set_cons_zero, List.set_cons_succ]
        refine take_putH (i := 2) (v := ?_) (some 30) rfl (by kernel_rfl) (by kernel_rfl) (by kernel_rfl) (by kernel_rfl) (fun _ _ _ h => h) (Or.inl ⟨by rfl, ?_⟩) hdone ?_
        rotate_left
        · (intro w hSw; obtain ⟨z0, z1⟩ := hSw; go_simp; try with_reducible rfl)
        try simp only [Act.put, List.setIfInBounds_toArray, List.set_cons_zero, List.set_cons_succ]
        refine take_putH (i := 3) (v := ?_) (some 31) rfl (by kernel_rfl) (by kernel_rfl) (by kernel_rfl) (by kernel_rfl) (fun _ _ _ h => h) (Or.inl ⟨by rfl, ?_⟩) hdone ?_
        rotate_left
        · (intro w hSw; obtain ⟨z0, z1⟩ := hSw; go_simp; try with_reducible rfl)
        try simp only [Act.put, List.setIfInBounds_toArray, List.set_cons_zero, List.set_cons_succ]
        refine take_putH (i := 4) (v := undef) (some 32) rfl (by kernel_rfl) (by kernel_rfl) (by kernel_rfl) (by kernel_rfl) (fun _ _ _ h => h) (Or.inr ⟨by rfl, rfl⟩) hdone ?_
        try simp only [Act.put, List.setIfInBounds_toArray, List.set_cons_zero, List.set_cons_succ]
        refine take_putH (i := 5) (v := undef) (some 33) rfl (by kernel_rfl) (by kernel_rfl) (by kernel_rfl) (by kernel_rfl) (fun _ _ _ h => h) (Or.inr ⟨by rfl, rfl⟩) hdone ?_
        try simp only [Act.put, List.setIfInBounds_toArray, List.set_cons_zero, List.set_cons_succ]
        refine take_putH (i := 6) (v := undef) (some 34) rfl (by kernel_rfl) (by kernel_rfl) (by kernel_rfl) (by kernel_rfl) (fun _ _ _ h => h) (Or.inr ⟨by rfl, rfl⟩) hdone ?_
        try simp only [Act.put, List.setIfInBounds_toArray, List.set_cons_zero, List.set_cons_succ]
        refine take_putH (i := 7) (v := undef) (some 35) rfl (by kernel_rfl) (by kernel_rfl) (by kernel_rfl) (by kernel_rfl) (fun _ _ _ h => h) (Or.inr ⟨by rfl, rfl⟩) hdone ?_
        try simp only [Act.put, List.setIfInBounds_toArray, List.set_cons_zero, List.set_cons_succ]
        refine take_putH (i := 8) (v := undef) (some 36) rfl (by kernel_rfl) (by kernel_rfl) (by kernel_rfl) (by kernel_rfl) (fun _ _ _ h => h) (Or.inr ⟨by rfl, rfl⟩) hdone ?_
        try simp only [Act.put, List.setIfInBounds_toArray, List.set_cons_zero, List.set_cons_succ]
        refine take_putH (i := 9) (v := undef) (some 37) rfl (by kernel_rfl) (by kernel_rfl) (by kernel_rfl) (by kernel_rfl) (fun _ _ _ h => h) (Or.inr ⟨by rfl, rfl⟩) hdone ?_
        try simp only [Act.put, List.setIfInBounds_toArray, List.set_cons_zero, List.set_cons_succ]
        refine take_putH (i := 10) (v := undef) (some 38) rfl (by kernel_rfl) (by kernel_rfl) (by kernel_rfl) (by kernel_rfl) (fun _ _ _ h => h) (Or.inr ⟨by rfl, rfl⟩) hdone ?_
        try simp only [Act.put, List.setIfInBounds_toArray, List.set_cons_zero, List.set_cons_succ]
        refine take_putH (i := 11) (v := ?_) (some 39) rfl (by kernel_rfl) (by kernel_rfl) (by kernel_rfl) (by kernel_rfl) (fun _ _ _ h => h) (Or.inl ⟨by rfl, ?_⟩) hdone ?_
        rotate_left
        · (intro w hSw; obtain ⟨z0, z1⟩ := hSw; go_simp; try with_reducible rfl)
        try simp only [Act.put, List.setIfInBounds_toArray, List.set_cons_zero, List.set_cons_succ]
        refine wpAnyH_done (by kernel_rfl) ?_ _
        clear hdone
        go_wp2
        obtain ⟨we, HWwe⟩ : ∃ x, Hid (x = wd.drew) := ⟨_, rfl⟩
        have HBwe : Hid (Below wd.heap.size wd we) := by rw [HWwe.out]; exact below_drew (Below.refl _ _)
        have HXwe : Hid (Bk we w.heap.size #[.int .u8 (k : Int), .int .i64 (x0 : Int), .int .i64 ((0 : Nat) : Int), .int .i64 (x2 : Int), v4, v5, v6, v7, v8, v9, v10, v11] 78) := HXwd.out.stay HBwe.out
        have HLwe : Hid (LkIn we base g wv L { l with other := (x0 : Int), great := 0, bits_ := 0 }) := HLwd.out.below HBwe.out
        have HFwe : Hid (Fr w we g wv) := HFwd.out.trans (Fr.of HBwe.out) trivial
        refine wp_region_held_drew (S := fun w' => w'.cell? ⟨w.heap.size, 3, none⟩ = some (.int .i64 (x2 : Int)) ∧ w'.cell? ⟨g, 5, none⟩ = some (.int .i64 (0 : Int)) ∧ w'.cell? ⟨g, 6, none⟩ = some (.int .u64 (0 : Int))) (by kernel_rfl) (by rw [← HWwe.out]; exact ⟨HXwe.out.cell 3 rfl, HLwe.out.blk.cell 5 rfl, HLwe.out.blk.cell 6 rfl⟩) (fun hHeld => ?_)
        rw [← HWwe.out] at hHeld ⊢
        refine take_putH (i := 0) (v := ?_) (some 40) rfl (by kernel_rfl) (by kernel_rfl) (by kernel_rfl) (by kernel_rfl) (fun _ _ _ h => h) (Or.inl ⟨by rfl, ?_⟩) hHeld ?_
        rotate_left
        · (intro w hSw; obtain ⟨z0, z1, z2⟩ := hSw; go_simp; try with_reducible rfl)
        try simp only [Act.put, List.setIfInBounds_toArray, List.set_cons_zero, List.set_cons_succ]
        refine take_putH (i := 1) (v := ?_) (some 41) rfl (by kernel_rfl) (by kernel_rfl) (by kernel_rfl) (by kernel_rfl) (fun _ _ _ h => h) (Or.inl ⟨by rfl, ?_⟩) hHeld ?_
        rotate_left
        · (intro w hSw; obtain ⟨z0, z1, z2⟩ := hSw; go_simp; try with_reducible rfl)
        try simp only [Act.put, List.setIfInBounds_toArray, List.set_cons_zero, List.set_cons_succ]
        refine take_putH (i := 2) (v := ?_) (some 42) rfl (by kernel_rfl) (by kernel_rfl) (by kernel_rfl) (by kernel_rfl) (fun _ _ _ h => h) (Or.inl ⟨by rfl, ?_⟩) hHeld ?_
        rotate_left
        · (intro w hSw; obtain ⟨z0, z1, z2⟩ := hSw; go_simp; try with_reducible rfl)
        try simp only [Act.put, List.setIfInBounds_toArray, List.set_cons_zero, List.set_cons_succ]
        refine take_putH (i := 3) (v := ?_) (some 43) rfl (by kernel_rfl) (by kernel_rfl) (by kernel_rfl) (by kernel_rfl) (fun _ _ _ h => h) (Or.inl ⟨by rfl, ?_⟩) hHeld ?_
        rotate_left
        · (intro w hSw; obtain ⟨z0, z1, z2⟩ := hSw; go_simp; try with_reducible rfl)
        try simp only [Act.put, List.setIfInBounds_toArray, List.set_cons_zero, List.set_cons_succ]
        refine take_putH (i := 4) (v := ?_) (some 44) rfl (by kernel_rfl) (by kernel_rfl) (by kernel_rfl) (by kernel_rfl) (fun _ _ _ h => h) (Or.inl ⟨by rfl, ?_⟩) hHeld ?_
        rotate_left
        · (intro w hSw; obtain ⟨z0, z1, z2⟩ := hSw; go_simp; try with_reducible rfl)
        try simp only [Act.put, List.setIfInBounds_toArray, List.set_cons_zero, List.set_cons_succ]
        refine take_putH (i := 5) (v := ?_) (some 45) rfl (by kernel_rfl) (by kernel_rfl) (by kernel_rfl) (by kernel_rfl) (fun _ _ _ h => h) (Or.inl ⟨by rfl, ?_⟩) hHeld ?_
        rotate_left
        · (intro w hSw; obtain ⟨z0, z1, z2⟩ := hSw; go_simp; try with_reducible rfl)
        try simp only [Act.put, List.setIfInBounds_toArray, List.set_cons_zero, List.set_cons_succ]
        clear hHeld
        obtain ⟨hv, HHV⟩ : ∃ hv, Hid (hv = hasW 0 0 x2) := ⟨_, rfl⟩
        refine wpAnyH_ready (rs := [6]) (by kernel_rfl) (by simp) ?_
        refine AllReadyH.cons rfl (fun K hK => ?_) AllReadyH.nil
        go_simp
        refine (lk_has 0 0 x2 (by omega) hx2 (by omega) we).mono ?_
        rintro e wf ⟨he, hbf⟩
        rw [← HHV.out] at he
        subst he
        have HBwf : Hid (Below we.heap.size we wf) := hbf
        clear hbf
        have HLwf : Hid (LkIn wf base g wv L { l with other := (x0 : Int), great := 0, bits_ := 0 }) := HLwe.out.below HBwf.out
        have HXwf : Hid (Bk wf w.heap.size #[.int .u8 (k : Int), .int .i64 (x0 : Int), .int .i64 ((0 : Nat) : Int), .int .i64 (x2 : Int), v4, v5, v6, v7, v8, v9, v10, v11] 78) := HXwe.out.stay HBwf.out
        have HFwf : Hid (Fr w wf g wv) := HFwe.out.trans (Fr.of HBwf.out) trivial
        refine hK.out _ _ ⟨HXwf.out.cell 3 rfl, HLwf.out.blk.cell 5 rfl, HLwf.out.blk.cell 6 rfl⟩ (fun _ => ?_)
        clear hK K
        try simp only [Act.put, List.getElem_toArray, List.getElem_cons_succ, List.getElem_cons_zero, List.setIfInBounds_toArray, List.set_cons_zero, List.set_cons_succ]
        refine wpAnyH_done (by kernel_rfl) ?_ _
        cases hv with
        | true =>
          have HRES : Hid (accR l ot gr x0 0 x2 = (7, { l with other := (x0 : Int), great := 0, bits_ := 0 })) := accR_known hst (accM_new hnw) (fun h => h.1 rfl) HHV.out.symm
          go_wp2
          go_ret
          rw [HRES.out]
          exact ⟨rfl, HLwf, HFwf.out⟩
        | false =>
          have HRES : Hid (accR l ot gr x0 0 x2 = (0, { ({ l with other := (x0 : Int), great := 0, bits_ := 0 } : Lk) with great := ((addG 0 x2 : Nat) : Int), bits_ := addB 0 0 x2 })) := accR_new hst (accM_new hnw) (fun h => h.1 rfl) HHV.out.symm
          go_wp2
          obtain ⟨wh, HWwh⟩ : ∃ x, Hid (x = wf.drew) := ⟨_, rfl⟩
          have HBwh : Hid (Below wf.heap.size wf wh) := by rw [HWwh.out]; exact below_drew (Below.refl _ _)
          have HXwh : Hid (Bk wh w.heap.size #[.int .u8 (k : Int), .int .i64 (x0 : Int), .int .i64 ((0 : Nat) : Int), .int .i64 (x2 : Int), v4, v5, v6, v7, v8, v9, v10, v11] 78) := HXwf.out.stay HBwh.out
          have HLwh : Hid (LkIn wh base g wv L { l with other := (x0 : Int), great := 0, bits_ := 0 }) := HLwf.out.below HBwh.out
          have HFwh : Hid (Fr w wh g wv) := HFwf.out.trans (Fr.of HBwh.out) trivial
          refine wp_region_held_drew (S := fun w' => w'.cell? ⟨w.heap.size, 3, none⟩ = some (.int .i64 (x2 : Int))) (by kernel_rfl) (by rw [← HWwh.out]; exact HXwh.out.cell 3 rfl) (fun hHeld => ?_)
          rw [← HWwh.out] at hHeld ⊢
          refine take_putH (i := 0) (v := ?_) (some 47) rfl (by kernel_rfl) (by kernel_rfl) (by kernel_rfl) (by kernel_rfl) (fun _ _ _ h => h) (Or.inl ⟨by rfl, ?_⟩) hHeld ?_
          rotate_left
          · (intro w hSw; obtain z0 := hSw; go_simp; try with_reducible rfl)
          try simp only [Act.put, List.setIfInBounds_toArray, List.set_cons_zero, List.set_cons_succ]
          refine take_putH (i := 1) (v := ?_) (some 48) rfl (by kernel_rfl) (by kernel_rfl) (by kernel_rfl) (by kernel_rfl) (fun _ _ _ h => h) (Or.inl ⟨by rfl, ?_⟩) hHeld ?_
          rotate_left
          · (intro w hSw; obtain z0 := hSw; go_simp; try with_reducible rfl)
          try simp only [Act.put, List.setIfInBounds_toArray, List.set_cons_zero, List.set_cons_succ]
          refine take_putH (i := 2) (v := ?_) (some 49) rfl (by kernel_rfl) (by kernel_rfl) (by kernel_rfl) (by kernel_rfl) (fun _ _ _ h => h) (Or.inl ⟨by rfl, ?_⟩) hHeld ?_
          rotate_left
          · (intro w hSw; obtain z0 := hSw; go_simp; try with_reducible rfl)
          try simp only [Act.put, List.setIfInBounds_toArray, List.set_cons_zero, List.set_cons_succ]
          refine take_putH (i := 3) (v := ?_) (some 50) rfl (by kernel_rfl) (by kernel_rfl) (by kernel_rfl) (by kernel_rfl) (fun _ _ _ h => h) (Or.inl ⟨by rfl, ?_⟩) hHeld ?_
          rotate_left
          · (intro w hSw; obtain z0 := hSw; go_simp; try with_reducible rfl)
          try simp only [Act.put, List.setIfInBounds_toArray, List.set_cons_zero, List.set_cons_succ]
          refine take_putH (i := 4) (v := ?_) (some 51) rfl (by kernel_rfl) (by kernel_rfl) (by kernel_rfl) (by kernel_rfl) (fun _ _ _ h => h) (Or.inl ⟨by rfl, ?_⟩) hHeld ?_
          rotate_left
          · (intro w hSw; obtain z0 := hSw; go_simp; try with_reducible rfl)
          try simp only [Act.put, List.setIfInBounds_toArray, List.set_cons_zero, List.set_cons_succ]
          clear hHeld
          refine wpAnyH_ready (rs := [5]) (by kernel_rfl) (by simp) ?_
          refine AllReadyH.cons rfl (fun K hK => ?_) AllReadyH.nil
          go_simp
          refine (lk_add wh base g wv L { l with other := (x0 : Int), great := 0, bits_ := 0 } HLwh.out 0 x2 (by omega) hx2 rfl (by show 0 < _; omega) HHV.out.symm).mono ?_
          rintro e wi ⟨rfl, HLwi, hfi⟩
          have HXwi : Hid (Bk wi w.heap.size #[.int .u8 (k : Int), .int .i64 (x0 : Int), .int .i64 ((0 : Nat) : Int), .int .i64 (x2 : Int), v4, v5, v6, v7, v8, v9, v10, v11] 78) := HXwh.out.fr hfi HGX.out HRN.out
          have HFwi : Hid (Fr w wi g wv) := HFwh.out.trans hfi trivial
          clear hfi
          refine hK.out _ _ (HXwi.out.cell 3 rfl) (fun _ => ?_)
          clear hK K
          try simp only [Act.put, List.getElem_toArray, List.getElem_cons_succ, List.getElem_cons_zero, List.setIfInBounds_toArray, List.set_cons_zero, List.set_cons_succ]
          refine wpAnyH_done (by kernel_rfl) ?_ _
          go_wp2
          go_ret
          rw [HRES.out]
          exact ⟨rfl, HLwi, HFwi.out⟩
      · by_cases hx1l : (x1 : Int) = l.life
        · have g1 : ¬ (x1 : Int) = 0 := by omega
          have g2 : ((x1 : Int) != 0) = true := by simpa using g1
          have g3 : ((x1 : Int) == 0) = false := by simpa using g1
          have g4 : ((x1 : Int) != l.life) = false := by simp [hx1l]
          have g5 : ((x1 : Int) == l.life) = true := by simp [hx1l]
          have HXL : Hid ((x1 : Int) = l.life) := hx1l
          clear hx1l
          refine take_putH (i := 0) (v := ?_) (some 28) rfl (by kernel_rfl) (by kernel_rfl) (by kernel_rfl) (by kernel_rfl) (fun _ _ _ h => h) (Or.inl ⟨by rfl, ?_⟩) hdone ?_
          rotate_left
          · (intro w hSw; obtain ⟨z0, z1⟩ := hSw; go_simp; try with_reducible rfl)
          try simp only [Act.put, List.setIfInBounds_toArray, List.set_cons_zero, List.set_cons_succ]
          refine take_putH (i := 1) (v := ?_) (some 29) rfl (by kernel_rfl) (by kernel_rfl) (by kernel_rfl) (by kernel_rfl) (fun _ _ _ h => h) (Or.inl ⟨by rfl, ?_⟩) hdone ?_
          rotate_left
          · (intro w hSw; obtain ⟨z0, z1⟩ := hSw; go_simp; try with_reducible rfl)
          try simp only [Act.put, List.setIfInBounds_toArray, List.set_cons_zero, List.set_cons_succ]
          refine take_putH (i := 2) (v := ?_) (some 30) rfl (by kernel_rfl) (by kernel_rfl) (by kernel_rfl) (by kernel_rfl) (fun _ _ _ h => h) (Or.inl ⟨by rfl, ?_⟩) hdone ?_
          rotate_left
          · (intro w hSw; obtain ⟨z0, z1⟩ := hSw; go_simp; try with_reducible rfl)
          try simp only [Act.put, List.setIfInBounds_toArray, List.set_cons_zero, List.set_cons_succ]
          refine take_putH (i := 3) (v := ?_) (some 31) rfl (by kernel_rfl) (by kernel_rfl) (by kernel_rfl) (by kernel_rfl) (fun _ _ _ h => h) (Or.inl ⟨by rfl, ?_⟩) hdone ?_
          rotate_left
          · (intro w hSw; obtain ⟨z0, z1⟩ := hSw; go_simp; try with_reducible rfl)
          try simp only [Act.put, List.setIfInBounds_toArray, List.set_cons_zero, List.set_cons_succ]
          refine take_putH (i := 4) (v := ?_) (some 32) rfl (by kernel_rfl) (by kernel_rfl) (by kernel_rfl) (by kernel_rfl) (fun _ _ _ h => h) (Or.inl ⟨by rfl, ?_⟩) hdone ?_
          rotate_left
          · (intro w hSw; obtain ⟨z0, z1⟩ := hSw; go_simp; try with_reducible rfl)
          try simp only [Act.put, List.setIfInBounds_toArray, List.set_cons_zero, List.set_cons_succ]
          refine take_putH (i := 5) (v := ?_) (some 33) rfl (by kernel_rfl) (by kernel_rfl) (by kernel_rfl) (by kernel_rfl) (fun _ _ _ h => h) (Or.inl ⟨by rfl, ?_⟩) hdone ?_
          rotate_left
          · (intro w hSw; obtain ⟨z0, z1⟩ := hSw; go_simp; try with_reducible rfl)
          try simp only [Act.put, List.setIfInBounds_toArray, List.set_cons_zero, List.set_cons_succ]
          refine take_putH (i := 6) (v := ?_) (some 34) rfl (by kernel_rfl) (by kernel_rfl) (by kernel_rfl) (by kernel_rfl) (fun _ _ _ h => h) (Or.inl ⟨by rfl, ?_⟩) hdone ?_
          rotate_left
          · (intro w hSw; obtain ⟨z0, z1⟩ := hSw; go_simp; try with_reducible rfl)
          try simp only [Act.put, List.setIfInBounds_toArray, List.set_cons_zero, List.set_cons_succ]
          refine take_putH (i := 7) (v := ?_) (some 35) rfl (by kernel_rfl) (by kernel_rfl) (by kernel_rfl) (by kernel_rfl) (fun _ _ _ h => h) (Or.inl ⟨by rfl, ?_⟩) hdone ?_
          rotate_left
          · (intro w hSw; obtain ⟨z0, z1⟩ := hSw; go_simp; try with_reducible rfl)
          try simp only [Act.put, List.setIfInBounds_toArray, List.set_cons_zero, List.set_cons_succ]
          refine take_putH (i := 8) (v := ?_) (some 36) rfl (by kernel_rfl) (by kernel_rfl) (by kernel_rfl) (by kernel_rfl) (fun _ _ _ h => h) (Or.inl ⟨by rfl, ?_⟩) hdone ?_
          rotate_left
          · (intro w hSw; obtain ⟨z0, z1⟩ := hSw; go_simp; try with_reducible rfl)
          try simp only [Act.put, List.setIfInBounds_toArray, List.set_cons_zero, List.set_cons_succ]
          refine take_putH (i := 9) (v := ?_) (some 37) rfl (by kernel_rfl) (by kernel_rfl) (by kernel_rfl) (by kernel_rfl) (fun _ _ _ h => h) (Or.inl ⟨by rfl, ?_⟩) hdone ?_
          rotate_left
          · (intro w hSw; obtain ⟨z0, z1⟩ := hSw; go_simp; try with_reducible rfl)
          try simp only [Act.put, List.setIfInBounds_toArray, List.set_cons_zero, List.set_cons_succ]
          refine take_putH (i := 10) (v := ?_) (some 38) rfl (by kernel_rfl) (by kernel_rfl) (by kernel_rfl) (by kernel_rfl) (fun _ _ _ h => h) (Or.inl ⟨by rfl, ?_⟩) hdone ?_
          rotate_left
          · (intro w hSw; obtain ⟨z0, z1⟩ := hSw; go_simp; try with_reducible rfl)
          try simp only [Act.put, List.setIfInBounds_toArray, List.set_cons_zero, List.set_cons_succ]
          refine take_putH (i := 11) (v := ?_) (some 39) rfl (by kernel_rfl) (by kernel_rfl) (by kernel_rfl) (by kernel_rfl) (fun _ _ _ h => h) (Or.inl ⟨by rfl, ?_⟩) hdone ?_
          rotate_left
          · (intro w hSw; obtain ⟨z0, z1⟩ := hSw; go_simp; try with_reducible rfl)
          try simp only [Act.put, List.setIfInBounds_toArray, List.set_cons_zero, List.set_cons_succ]
          refine wpAnyH_done (by kernel_rfl) ?_ _
          clear hdone
          go_wp2
          obtain ⟨we, HWwe⟩ : ∃ x, Hid (x = wd.drew) := ⟨_, rfl⟩
          have HBwe : Hid (Below wd.heap.size wd we) := by rw [HWwe.out]; exact below_drew (Below.refl _ _)
          have HXwe : Hid (Bk we w.heap.size #[.int .u8 (k : Int), .int .i64 (x0 : Int), .int .i64 (x1 : Int), .int .i64 (x2 : Int), v4, v5, v6, v7, v8, v9, v10, v11] 78) := HXwd.out.stay HBwe.out
          have HLwe : Hid (LkIn we base g wv L { l with other := (x0 : Int), great := 0, bits_ := 0 }) := HLwd.out.below HBwe.out
          have HFwe : Hid (Fr w we g wv) := HFwd.out.trans (Fr.of HBwe.out) trivial
          refine wp_region_held_drew (S := fun w' => w'.cell? ⟨w.heap.size, 3, none⟩ = some (.int .i64 (x2 : Int)) ∧ w'.cell? ⟨g, 5, none⟩ = some (.int .i64 (0 : Int)) ∧ w'.cell? ⟨g, 6, none⟩ = some (.int .u64 (0 : Int))) (by kernel_rfl) (by rw [← HWwe.out]; exact ⟨HXwe.out.cell 3 rfl, HLwe.out.blk.cell 5 rfl, HLwe.out.blk.cell 6 rfl⟩) (fun hHeld => ?_)
          rw [← HWwe.out] at hHeld ⊢
          refine take_putH (i := 0) (v := ?_) (some 40) rfl (by kernel_rfl) (by kernel_rfl) (by kernel_rfl) (by kernel_rfl) (fun _ _ _ h => h) (Or.inl ⟨by rfl, ?_⟩) hHeld ?_
          rotate_left
          · (intro w hSw; obtain ⟨z0, z1, z2⟩ := hSw; go_simp; try with_reducible rfl)
          try simp only [Act.put, List.setIfInBounds_toArray, List.set_cons_zero, List.set_cons_succ]
          refine take_putH (i := 1) (v := ?_) (some 41) rfl (by kernel_rfl) (by kernel_rfl) (by kernel_rfl) (by kernel_rfl) (fun _ _ _ h => h) (Or.inl ⟨by rfl, ?_⟩) hHeld ?_
          rotate_left
          · (intro w hSw; obtain ⟨z0, z1, z2⟩ := hSw; go_simp; try with_reducible rfl)
          try simp only [Act.put, List.setIfInBounds_toArray, List.set_cons_zero, List.set_cons_succ]
          refine take_putH (i := 2) (v := ?_) (some 42) rfl (by kernel_rfl) (by kernel_rfl) (by kernel_rfl) (by kernel_rfl) (fun _ _ _ h => h) (Or.inl ⟨by rfl, ?_⟩) hHeld ?_
          rotate_left
          · (intro w hSw; obtain ⟨z0, z1, z2⟩ := hSw; go_simp; try with_reducible rfl)
          try simp only [Act.put, List.setIfInBounds_toArray, List.set_cons_zero, List.set_cons_succ]
          refine take_putH (i := 3) (v := ?_) (some 43) rfl (by kernel_rfl) (by kernel_rfl) (by kernel_rfl) (by kernel_rfl) (fun _ _ _ h => h) (Or.inl ⟨by rfl, ?_⟩) hHeld ?_
          rotate_left
          · (intro w hSw; obtain ⟨z0, z1, z2⟩ := hSw; go_simp; try with_reducible rfl)
          try simp only [Act.put, List.setIfInBounds_toArray, List.set_cons_zero, List.set_cons_succ]
          refine take_putH (i := 4) (v := ?_) (some 44) rfl (by kernel_rfl) (by kernel_rfl) (by kernel_rfl) (by kernel_rfl) (fun _ _ _ h => h) (Or.inl ⟨by rfl, ?_⟩) hHeld ?_
          rotate_left
          · (intro w hSw; obtain ⟨z0, z1, z2⟩ := hSw; go_simp; try with_reducible rfl)
          try simp only [Act.put, List.setIfInBounds_toArray, List.set_cons_zero, List.set_cons_succ]
          refine take_putH (i := 5) (v := ?_) (some 45) rfl (by kernel_rfl) (by kernel_rfl) (by kernel_rfl) (by kernel_rfl) (fun _ _ _ h => h) (Or.inl ⟨by rfl, ?_⟩) hHeld ?_
          rotate_left
          · (intro w hSw; obtain ⟨z0, z1, z2⟩ := hSw; go_simp; try with_reducible rfl)
          try simp only [Act.put, List.setIfInBounds_toArray, List.set_cons_zero, List.set_cons_succ]
          clear hHeld
          obtain ⟨hv, HHV⟩ : ∃ hv, Hid (hv = hasW 0 0 x2) := ⟨_, rfl⟩
          refine wpAnyH_ready (rs := [6]) (by kernel_rfl) (by simp) ?_
          refine AllReadyH.cons rfl (fun K hK => ?_) AllReadyH.nil
          go_simp
          refine (lk_has 0 0 x2 (by omega) hx2 (by omega) we).mono ?_
          rintro e wf ⟨he, hbf⟩
          rw [← HHV.out] at he
          subst he
          have HBwf : Hid (Below we.heap.size we wf) := hbf
          clear hbf
          have HLwf : Hid (LkIn wf base g wv L { l with other := (x0 : Int), great := 0, bits_ := 0 }) := HLwe.out.below HBwf.out
          have HXwf : Hid (Bk wf w.heap.size #[.int .u8 (k : Int), .int .i64 (x0 : Int), .int .i64 (x1 : Int), .int .i64 (x2 : Int), v4, v5, v6, v7, v8, v9, v10, v11] 78) := HXwe.out.stay HBwf.out
          have HFwf : Hid (Fr w wf g wv) := HFwe.out.trans (Fr.of HBwf.out) trivial
          refine hK.out _ _ ⟨HXwf.out.cell 3 rfl, HLwf.out.blk.cell 5 rfl, HLwf.out.blk.cell 6 rfl⟩ (fun _ => ?_)
          clear hK K
          try simp only [Act.put, List.getElem_toArray, List.getElem_cons_succ, List.getElem_cons_zero, List.setIfInBounds_toArray, List.set_cons_zero, List.set_cons_succ]
          refine wpAnyH_done (by kernel_rfl) ?_ _
          cases hv with
          | true =>
            have HRES : Hid (accR l ot gr x0 x1 x2 = (7, { l with other := (x0 : Int), great := 0, bits_ := 0 })) := accR_known hst (accM_new hnw) (fun h => h.2 HXL.out) HHV.out.symm
            go_wp2
            go_ret
            rw [HRES.out]
            exact ⟨rfl, HLwf, HFwf.out⟩
          | false =>
            have HRES : Hid (accR l ot gr x0 x1 x2 = (0, { ({ l with other := (x0 : Int), great := 0, bits_ := 0 } : Lk) with great := ((addG 0 x2 : Nat) : Int), bits_ := addB 0 0 x2 })) := accR_new hst (accM_new hnw) (fun h => h.2 HXL.out) HHV.out.symm
            go_wp2
            obtain ⟨wh, HWwh⟩ : ∃ x, Hid (x = wf.drew) := ⟨_, rfl⟩
            have HBwh : Hid (Below wf.heap.size wf wh) := by rw [HWwh.out]; exact below_drew (Below.refl _ _)
            have HXwh : Hid (Bk wh w.heap.size #[.int .u8 (k : Int), .int .i64 (x0 : Int), .int .i64 (x1 : Int), .int .i64 (x2 : Int), v4, v5, v6, v7, v8, v9, v10, v11] 78) := HXwf.out.stay HBwh.out
            have HLwh : Hid (LkIn wh base g wv L { l with other := (x0 : Int), great := 0, bits_ := 0 }) := HLwf.out.below HBwh.out
            have HFwh : Hid (Fr w wh g wv) := HFwf.out.trans (Fr.of HBwh.out) trivial
            refine wp_region_held_drew (S := fun w' => w'.cell? ⟨w.heap.size, 3, none⟩ = some (.int .i64 (x2 : Int))) (by kernel_rfl) (by rw [← HWwh.out]; exact HXwh.out.cell 3 rfl) (fun hHeld => ?_)
            rw [← HWwh.out] at hHeld ⊢
            refine take_putH (i := 0) (v := ?_) (some 47) rfl (by kernel_rfl) (by kernel_rfl) (by kernel_rfl) (by kernel_rfl) (fun _ _ _ h => h) (Or.inl ⟨by rfl, ?_⟩) hHeld ?_
            rotate_left
            · (intro w hSw; obtain z0 := hSw; go_simp; try with_reducible rfl)
            try simp only [Act.put, List.setIfInBounds_toArray, List.set_cons_zero, List.set_cons_succ]
            refine take_putH (i := 1) (v := ?_) (some 48) rfl (by kernel_rfl) (by kernel_rfl) (by kernel_rfl) (by kernel_rfl) (fun _ _ _ h => h) (Or.inl ⟨by rfl, ?_⟩) hHeld ?_
            rotate_left
            · (intro w hSw; obtain z0 := hSw; go_simp; try with_reducible rfl)
            try simp only [Act.put, List.setIfInBounds_toArray, List.set_cons_zero, List.set_cons_succ]
            refine take_putH (i := 2) (v := ?_) (some 49) rfl (by kernel_rfl) (by kernel_rfl) (by kernel_rfl) (by kernel_rfl) (fun _ _ _ h => h) (Or.inl ⟨by rfl, ?_⟩) hHeld ?_
            rotate_left
            · (intro w hSw; obtain z0 := hSw; go_simp; try with_reducible rfl)
            try simp only [Act.put, List.setIfInBounds_toArray, List.set_cons_zero, List.set_cons_succ]
            refine take_putH (i := 3) (v := ?_) (some 50) rfl (by kernel_rfl) (by kernel_rfl) (by kernel_rfl) (by kernel_rfl) (fun _ _ _ h => h) (Or.inl ⟨by rfl, ?_⟩) hHeld ?_
            rotate_left
            · (intro w hSw; obtain z0 := hSw; go_simp; try with_reducible rfl)
            try simp only [Act.put, List.setIfInBounds_toArray, List.set_cons_zero, List.set_cons_succ]
            refine take_putH (i := 4) (v := ?_) (some 51) rfl (by kernel_rfl) (by kernel_rfl) (by kernel_rfl) (by kernel_rfl) (fun _ _ _ h => h) (Or.inl ⟨by rfl, ?_⟩) hHeld ?_
            rotate_left
            · (intro w hSw; obtain z0 := hSw; go_simp; try with_reducible rfl)
            try simp only [Act.put, List.setIfInBounds_toArray, List.set_cons_zero, List.set_cons_succ]
            clear hHeld
            refine wpAnyH_ready (rs := [5]) (by kernel_rfl) (by simp) ?_
            refine AllReadyH.cons rfl (fun K hK => ?_) AllReadyH.nil
            go_simp
            refine (lk_add wh base g wv L { l with other := (x0 : Int), great := 0, bits_ := 0 } HLwh.out 0 x2 (by omega) hx2 rfl (by show 0 < _; omega) HHV.out.symm).mono ?_
            rintro e wi ⟨rfl, HLwi, hfi⟩
            have HXwi : Hid (Bk wi w.heap.size #[.int .u8 (k : Int), .int .i64 (x0 : Int), .int .i64 (x1 : Int), .int .i64 (x2 : Int), v4, v5, v6, v7, v8, v9, v10, v11] 78) := HXwh.out.fr hfi HGX.out HRN.out
            have HFwi : Hid (Fr w wi g wv) := HFwh.out.trans hfi trivial
            clear hfi
            refine hK.out _ _ (HXwi.out.cell 3 rfl) (fun _ => ?_)
            clear hK K
            try simp only [Act.put, List.getElem_toArray, List.getElem_cons_succ, List.getElem_cons_zero, List.setIfInBounds_toArray, List.set_cons_zero, List.set_cons_succ]
            refine wpAnyH_done (by kernel_rfl) ?_ _
            go_wp2
            go_ret
            rw [HRES.out]
            exact ⟨rfl, HLwi, HFwi.out⟩
        · have g1 : ¬ (x1 : Int) = 0 := by omega
          have g2 : ((x1 : Int) != 0) = true := by simpa using g1
          have g3 : ((x1 : Int) == 0) = false := by simpa using g1
          have g4 : ((x1 : Int) != l.life) = true := by simpa using hx1l
          have g5 : ((x1 : Int) == l.life) = false := by simpa using hx1l
          have HRES : Hid (accR l ot gr x0 x1 x2 = (13, { l with other := (x0 : Int), great := 0, bits_ := 0 })) := accR_other hst (accM_new hnw) ⟨hx1z, hx1l⟩
          refine take_putH (i := 0) (v := ?_) (some 28) rfl (by kernel_rfl) (by kernel_rfl) (by kernel_rfl) (by kernel_rfl) (fun _ _ _ h => h) (Or.inl ⟨by rfl, ?_⟩) hdone ?_
          rotate_left
          · (intro w hSw; obtain ⟨z0, z1⟩ := hSw; go_simp; try with_reducible rfl)
          try simp only [Act.put, List.setIfInBounds_toArray, List.set_cons_zero, List.set_cons_succ]
          refine take_putH (i := 1) (v := ?_) (some 29) rfl (by kernel_rfl) (by kernel_rfl) (by kernel_rfl) (by kernel_rfl) (fun _ _ _ h => h) (Or.inl ⟨by rfl, ?_⟩) hdone ?_
          rotate_left
          · (intro w hSw; obtain ⟨z0, z1⟩ := hSw; go_simp; try with_reducible rfl)
          try simp only [Act.put, List.setIfInBounds_toArray, List.set_cons_zero, List.set_cons_succ]
          refine take_putH (i := 2) (v := ?_) (some 30) rfl (by kernel_rfl) (by kernel_rfl) (by kernel_rfl) (by kernel_rfl) (fun _ _ _ h => h) (Or.inl ⟨by rfl, ?_⟩) hdone ?_
          rotate_left
          · (intro w hSw; obtain ⟨z0, z1⟩ := hSw; go_simp; try with_reducible rfl)
          try simp only [Act.put, List.setIfInBounds_toArray, List.set_cons_zero, List.set_cons_succ]
          refine take_putH (i := 3) (v := ?_) (some 31) rfl (by kernel_rfl) (by kernel_rfl) (by kernel_rfl) (by kernel_rfl) (fun _ _ _ h => h) (Or.inl ⟨by rfl, ?_⟩) hdone ?_
          rotate_left
          · (intro w hSw; obtain ⟨z0, z1⟩ := hSw; go_simp; try with_reducible rfl)
          try simp only [Act.put, List.setIfInBounds_toArray, List.set_cons_zero, List.set_cons_succ]
          refine take_putH (i := 4) (v := ?_) (some 32) rfl (by kernel_rfl) (by kernel_rfl) (by kernel_rfl) (by kernel_rfl) (fun _ _ _ h => h) (Or.inl ⟨by rfl, ?_⟩) hdone ?_
          rotate_left
          · (intro w hSw; obtain ⟨z0, z1⟩ := hSw; go_simp; try with_reducible rfl)
          try simp only [Act.put, List.setIfInBounds_toArray, List.set_cons_zero, List.set_cons_succ]
          refine take_putH (i := 5) (v := ?_) (some 33) rfl (by kernel_rfl) (by kernel_rfl) (by kernel_rfl) (by kernel_rfl) (fun _ _ _ h => h) (Or.inl ⟨by rfl, ?_⟩) hdone ?_
          rotate_left
          · (intro w hSw; obtain ⟨z0, z1⟩ := hSw; go_simp; try with_reducible rfl)
          try simp only [Act.put, List.setIfInBounds_toArray, List.set_cons_zero, List.set_cons_succ]
          refine take_putH (i := 6) (v := ?_) (some 34) rfl (by kernel_rfl) (by kernel_rfl) (by kernel_rfl) (by kernel_rfl) (fun _ _ _ h => h) (Or.inl ⟨by rfl, ?_⟩) hdone ?_
          rotate_left
          · (intro w hSw; obtain ⟨z0, z1⟩ := hSw; go_simp; try with_reducible rfl)
          try simp only [Act.put, List.setIfInBounds_toArray, List.set_cons_zero, List.set_cons_succ]
          refine take_putH (i := 7) (v := ?_) (some 35) rfl (by kernel_rfl) (by kernel_rfl) (by kernel_rfl) (by kernel_rfl) (fun _ _ _ h => h) (Or.inl ⟨by rfl, ?_⟩) hdone ?_
          rotate_left
          · (intro w hSw; obtain ⟨z0, z1⟩ := hSw; go_simp; try with_reducible rfl)
          try simp only [Act.put, List.setIfInBounds_toArray, List.set_cons_zero, List.set_cons_succ]
          refine take_putH (i := 8) (v := ?_) (some 36) rfl (by kernel_rfl) (by kernel_rfl) (by kernel_rfl) (by kernel_rfl) (fun _ _ _ h => h) (Or.inl ⟨by rfl, ?_⟩) hdone ?_
          rotate_left
          · (intro w hSw; obtain ⟨z0, z1⟩ := hSw; go_simp; try with_reducible rfl)
          try simp only [Act.put, List.setIfInBounds_toArray, List.set_cons_zero, List.set_cons_succ]
          refine take_putH (i := 9) (v := ?_) (some 37) rfl (by kernel_rfl) (by kernel_rfl) (by kernel_rfl) (by kernel_rfl) (fun _ _ _ h => h) (Or.inl ⟨by rfl, ?_⟩) hdone ?_
          rotate_left
          · (intro w hSw; obtain ⟨z0, z1⟩ := hSw; go_simp; try with_reducible rfl)
          try simp only [Act.put, List.setIfInBounds_toArray, List.set_cons_zero, List.set_cons_succ]
          refine take_putH (i := 10) (v := ?_) (some 38) rfl (by kernel_rfl) (by kernel_rfl) (by kernel_rfl) (by kernel_rfl) (fun _ _ _ h => h) (Or.inl ⟨by rfl, ?_⟩) hdone ?_
          rotate_left
          · (intro w hSw; obtain ⟨z0, z1⟩ := hSw; go_simp; try with_reducible rfl)
          try simp only [Act.put, List.setIfInBounds_toArray, List.set_cons_zero, List.set_cons_succ]
          refine take_putH (i := 11) (v := ?_) (some 39) rfl (by kernel_rfl) (by kernel_rfl) (by kernel_rfl) (by kernel_rfl) (fun _ _ _ h => h) (Or.inl ⟨by rfl, ?_⟩) hdone ?_
          rotate_left
          · (intro w hSw; obtain ⟨z0, z1⟩ := hSw; go_simp; try with_reducible rfl)
          try simp only [Act.put, List.setIfInBounds_toArray, List.set_cons_zero, List.set_cons_succ]
          refine wpAnyH_done (by kernel_rfl) ?_ _
          clear hdone
          go_wp2
          go_ret
          rw [HRES.out]
          exact ⟨rfl, HLwd, HFwd.out⟩
    · have q3 : ¬ (ot : Int) < (x0 : Int) := by omega
      have q4 : decide ((ot : Int) < (x0 : Int)) = false := decide_eq_false q3
      go_wp2
      obtain ⟨wd, HWwd⟩ : ∃ x, Hid (x = wb.drew) := ⟨_, rfl⟩
      have HBwd : Hid (Below wb.heap.size wb wd) := by rw [HWwd.out]; exact below_drew (Below.refl _ _)
      have HXwd : Hid (Bk wd w.heap.size #[.int .u8 (k : Int), .int .i64 (x0 : Int), .int .i64 (x1 : Int), .int .i64 (x2 : Int), v4, v5, v6, v7, v8, v9, v10, v11] 78) := HXwb.out.stay HBwd.out
      have HLwd : Hid (LkIn wd base g wv L l) := HLwb.out.below HBwd.out
      have HFwd : Hid (Fr w wd g wv) := HFwb.out.trans (Fr.of HBwd.out) trivial
      refine wp_region_held_drew (S := fun w' => w'.cell? ⟨w.heap.size, 2, none⟩ = some (.int .i64 (x1 : Int)) ∧ w'.cell? ⟨g, 0, none⟩ = some (.int .i64 l.life)) (by kernel_rfl) (by rw [← HWwd.out]; exact ⟨HXwd.out.cell 2 rfl, HLwd.out.blk.cell 0 rfl⟩) (fun hHeld => ?_)
      rw [← HWwd.out] at hHeld ⊢
      have hdone : wd.cell? ⟨w.heap.size, 2, none⟩ = some (.int .i64 (x1 : Int)) ∧ wd.cell? ⟨g, 0, none⟩ = some (.int .i64 l.life) := hHeld
      clear hHeld
      by_cases hx1z : x1 = 0
      · subst hx1z
        have HXz : Hid (Bk wd w.heap.size #[.int .u8 (k : Int), .int .i64 (x0 : Int), .int .i64 ((0 : Nat) : Int), .int .i64 (x2 : Int), v4, v5, v6, v7, v8, v9, v10, v11] 78) := HXwd.out
        refine take_putH (i := 0) (v := ?_) (some 28) rfl (by kernel_rfl) (by kernel_rfl) (by kernel_rfl) (by kernel_rfl) (fun _ _ _ h => h) (Or.inl ⟨by rfl, ?_⟩) hdone ?_
        rotate_left
        · (intro w hSw; obtain ⟨z0, z1⟩ := hSw; go_simp; try with_reducible rfl)
        try simp only [Act.put, List.setIfInBounds_toArray, List.set_cons_zero, List.set_cons_succ]
        refine take_putH (i := 1) (v := ?_) (some 29) rfl (by kernel_rfl) (by kernel_rfl) (by kernel_rfl) (by kernel_rfl) (fun _ _ _ h => h) (Or.inl ⟨by rfl, ?_⟩) hdone ?_
        rotate_left
        · (intro w hSw; obtain ⟨z0, z1⟩ := hSw; go_simp; try with_reducible rfl)
        try simp only [Act.put, List.setIfInBounds_toArray, List.set_cons_zero, List.set_cons_succ]
        refine take_putH (i := 2) (v := ?_) (some 30) rfl (by kernel_rfl) (by kernel_rfl) (by kernel_rfl) (by kernel_rfl) (fun _ _ _ h => h) (Or.inl ⟨by rfl, ?_⟩) hdone ?_
        rotate_left
        · (intro w hSw; obtain ⟨z0, z1⟩ := hSw; go_simp; try with_reducible rfl)
        try simp only [Act.put, List.setIfInBounds_toArray, List.set_cons_zero, List.set_cons_succ]
        refine take_putH (i := 3) (v := ?_) (some 31) rfl (by kernel_rfl) (by kernel_rfl) (by kernel_rfl) (by kernel_rfl) (fun _ _ _ h => h) (Or.inl ⟨by rfl, ?_⟩) hdone ?_
        rotate_left
        · (intro w hSw; obtain ⟨z0, z1⟩ := hSw; go_simp; try with_reducible rfl)
        try simp only [Act.put, List.setIfInBounds_toArray, List.set_cons_zero, List.set_cons_succ]
        refine take_putH (i := 4) (v := undef) (some 32) rfl (by kernel_rfl) (by kernel_rfl) (by kernel_rfl) (by kernel_rfl) (fun _ _ _ h => h) (Or.inr ⟨by rfl, rfl⟩) hdone ?_
        try simp only [Act.put, List.setIfInBounds_toArray, List.set_cons_zero, List.set_cons_succ]
        refine take_putH (i := 5) (v := undef) (some 33) rfl (by kernel_rfl) (by kernel_rfl) (by kernel_rfl) (by kernel_rfl) (fun _ _ _ h => h) (Or.inr ⟨by rfl, rfl⟩) hdone ?_
        try simp only [Act.put, List.setIfInBounds_toArray, List.set_cons_zero, List.set_cons_succ]
        refine take_putH (i := 6) (v := undef) (some 34) rfl (by kernel_rfl) (by kernel_rfl) (by kernel_rfl) (by kernel_rfl) (fun _ _ _ h => h) (Or.inr ⟨by rfl, rfl⟩) hdone ?_
        try simp only [Act.put, List.setIfInBounds_toArray, List.set_cons_zero, List.set_cons_succ]
        refine take_putH (i := 7) (v := undef) (some 35) rfl (by kernel_rfl) (by kernel_rfl) (by kernel_rfl) (by kernel_rfl) (fun _ _ _ h => h) (Or.inr ⟨by rfl, rfl⟩) hdone ?_
        try simp only [Act.put, List.setIfInBounds_toArray, List.set_cons_zero, List.set_cons_succ]
        refine take_putH (i := 8) (v := undef) (some 36) rfl (by kernel_rfl) (by kernel_rfl) (by kernel_rfl) (by kernel_rfl) (fun _ _ _ h => h) (Or.inr ⟨by rfl, rfl⟩) hdone ?_
        try simp only [Act.put, List.setIfInBounds_toArray, List.set_cons_zero, List.set_cons_succ]
        refine take_putH (i := 9) (v := undef) (some 37) rfl (by kernel_rfl) (by kernel_rfl) (by kernel_rfl) (by kernel_rfl) (fun _ _ _ h => h) (Or.inr ⟨by rfl, rfl⟩) hdone ?_
        try simp only [Act.put, List.setIfInBounds_toArray, List.set_cons_zero, List.set_cons_succ]
        refine take_putH (i := 10) (v := undef) (some 38) rfl (by kernel_rfl) (by kernel_rfl) (by kernel_rfl) (by kernel_rfl) (fun _ _ _ h => h) (Or.inr ⟨by rfl, rfl⟩) hdone ?_
        try simp only [Act.put, List.setIfInBounds_toArray, List.set_cons_zero, List.set_cons_succ]
        refine take_putH (i := 11) (v := ?_) (some 39) rfl (by kernel_rfl) (by kernel_rfl) (by kernel_rfl) (by kernel_rfl) (fun _ _ _ h => h) (Or.inl ⟨by rfl, ?_⟩) hdone ?_
        rotate_left
        · (intro w hSw; obtain ⟨z0, z1⟩ := hSw; go_simp; try with_reducible rfl)
        try simp only [Act.put, List.setIfInBounds_toArray, List.set_cons_zero, List.set_cons_succ]
        refine wpAnyH_done (by kernel_rfl) ?_ _
        clear hdone
        go_wp2
        obtain ⟨we, HWwe⟩ : ∃ x, Hid (x = wd.drew) := ⟨_, rfl⟩
        have HBwe : Hid (Below wd.heap.size wd we) := by rw [HWwe.out]; exact below_drew (Below.refl _ _)
        have HXwe : Hid (Bk we w.heap.size #[.int .u8 (k : Int), .int .i64 (x0 : Int), .int .i64 ((0 : Nat) : Int), .int .i64 (x2 : Int), v4, v5, v6, v7, v8, v9, v10, v11] 78) := HXwd.out.stay HBwe.out
        have HLwe : Hid (LkIn we base g wv L l) := HLwd.out.below HBwe.out
        have HFwe : Hid (Fr w we g wv) := HFwd.out.trans (Fr.of HBwe.out) trivial
        refine wp_region_held_drew (S := fun w' => w'.cell? ⟨w.heap.size, 3, none⟩ = some (.int .i64 (x2 : Int)) ∧ w'.cell? ⟨g, 5, none⟩ = some (.int .i64 (gr : Int)) ∧ w'.cell? ⟨g, 6, none⟩ = some (.int .u64 (l.bits_ : Int))) (by kernel_rfl) (by rw [← HWwe.out]; exact ⟨HXwe.out.cell 3 rfl, (by rw [← HGR.out]; exact HLwe.out.blk.cell 5 rfl), HLwe.out.blk.cell 6 rfl⟩) (fun hHeld => ?_)
        rw [← HWwe.out] at hHeld ⊢
        refine take_putH (i := 0) (v := ?_) (some 40) rfl (by kernel_rfl) (by kernel_rfl) (by kernel_rfl) (by kernel_rfl) (fun _ _ _ h => h) (Or.inl ⟨by rfl, ?_⟩) hHeld ?_
        rotate_left
        · (intro w hSw; obtain ⟨z0, z1, z2⟩ := hSw; go_simp; try with_reducible rfl)
        try simp only [Act.put, List.setIfInBounds_toArray, List.set_cons_zero, List.set_cons_succ]
        refine take_putH (i := 1) (v := ?_) (some 41) rfl (by kernel_rfl) (by kernel_rfl) (by kernel_rfl) (by kernel_rfl) (fun _ _ _ h => h) (Or.inl ⟨by rfl, ?_⟩) hHeld ?_
        rotate_left
        · (intro w hSw; obtain ⟨z0, z1, z2⟩ := hSw; go_simp; try with_reducible rfl)
        try simp only [Act.put, List.setIfInBounds_toArray, List.set_cons_zero, List.set_cons_succ]
        refine take_putH (i := 2) (v := ?_) (some 42) rfl (by kernel_rfl) (by kernel_rfl) (by kernel_rfl) (by kernel_rfl) (fun _ _ _ h => h) (Or.inl ⟨by rfl, ?_⟩) hHeld ?_
        rotate_left
        · (intro w hSw; obtain ⟨z0, z1, z2⟩ := hSw; go_simp; try with_reducible rfl)
        try simp only [Act.put, List.setIfInBounds_toArray, List.set_cons_zero, List.set_cons_succ]
        refine take_putH (i := 3) (v := ?_) (some 43) rfl (by kernel_rfl) (by kernel_rfl) (by kernel_rfl) (by kernel_rfl) (fun _ _ _ h => h) (Or.inl ⟨by rfl, ?_⟩) hHeld ?_
        rotate_left
        · (intro w hSw; obtain ⟨z0, z1, z2⟩ := hSw; go_simp; try with_reducible rfl)
        try simp only [Act.put, List.setIfInBounds_toArray, List.set_cons_zero, List.set_cons_succ]
        refine take_putH (i := 4) (v := ?_) (some 44) rfl (by kernel_rfl) (by kernel_rfl) (by kernel_rfl) (by kernel_rfl) (fun _ _ _ h => h) (Or.inl ⟨by rfl, ?_⟩) hHeld ?_
        rotate_left
        · (intro w hSw; obtain ⟨z0, z1, z2⟩ := hSw; go_simp; try with_reducible rfl)
        try simp only [Act.put, List.setIfInBounds_toArray, List.set_cons_zero, List.set_cons_succ]
        refine take_putH (i := 5) (v := ?_) (some 45) rfl (by kernel_rfl) (by kernel_rfl) (by kernel_rfl) (by kernel_rfl) (fun _ _ _ h => h) (Or.inl ⟨by rfl, ?_⟩) hHeld ?_
        rotate_left
        · (intro w hSw; obtain ⟨z0, z1, z2⟩ := hSw; go_simp; try with_reducible rfl)
        try simp only [Act.put, List.setIfInBounds_toArray, List.set_cons_zero, List.set_cons_succ]
        clear hHeld
        obtain ⟨hv, HHV⟩ : ∃ hv, Hid (hv = hasW gr l.bits_ x2) := ⟨_, rfl⟩
        refine wpAnyH_ready (rs := [6]) (by kernel_rfl) (by simp) ?_
        refine AllReadyH.cons rfl (fun K hK => ?_) AllReadyH.nil
        go_simp
        refine (lk_has gr l.bits_ x2 hgb hx2 hb we).mono ?_
        rintro e wf ⟨he, hbf⟩
        rw [← HHV.out] at he
        subst he
        have HBwf : Hid (Below we.heap.size we wf) := hbf
        clear hbf
        have HLwf : Hid (LkIn wf base g wv L l) := HLwe.out.below HBwf.out
        have HXwf : Hid (Bk wf w.heap.size #[.int .u8 (k : Int), .int .i64 (x0 : Int), .int .i64 ((0 : Nat) : Int), .int .i64 (x2 : Int), v4, v5, v6, v7, v8, v9, v10, v11] 78) := HXwe.out.stay HBwf.out
        have HFwf : Hid (Fr w wf g wv) := HFwe.out.trans (Fr.of HBwf.out) trivial
        refine hK.out _ _ ⟨HXwf.out.cell 3 rfl, (by rw [← HGR.out]; exact HLwf.out.blk.cell 5 rfl), HLwf.out.blk.cell 6 rfl⟩ (fun _ => ?_)
        clear hK K
        try simp only [Act.put, List.getElem_toArray, List.getElem_cons_succ, List.getElem_cons_zero, List.setIfInBounds_toArray, List.set_cons_zero, List.set_cons_succ]
        refine wpAnyH_done (by kernel_rfl) ?_ _
        cases hv with
        | true =>
          have HRES : Hid (accR l ot gr x0 0 x2 = (7, l)) := accR_known hst (accM_old hnw) (fun h => h.1 rfl) HHV.out.symm
          go_wp2
          go_ret
          rw [HRES.out]
          exact ⟨rfl, HLwf, HFwf.out⟩
        | false =>
          have HRES : Hid (accR l ot gr x0 0 x2 = (0, { (l : Lk) with great := ((addG gr x2 : Nat) : Int), bits_ := addB gr l.bits_ x2 })) := accR_new hst (accM_old hnw) (fun h => h.1 rfl) HHV.out.symm
          go_wp2
          obtain ⟨wh, HWwh⟩ : ∃ x, Hid (x = wf.drew) := ⟨_, rfl⟩
          have HBwh : Hid (Below wf.heap.size wf wh) := by rw [HWwh.out]; exact below_drew (Below.refl _ _)
          have HXwh : Hid (Bk wh w.heap.size #[.int .u8 (k : Int), .int .i64 (x0 : Int), .int .i64 ((0 : Nat) : Int), .int .i64 (x2 : Int), v4, v5, v6, v7, v8, v9, v10, v11] 78) := HXwf.out.stay HBwh.out
          have HLwh : Hid (LkIn wh base g wv L l) := HLwf.out.below HBwh.out
          have HFwh : Hid (Fr w wh g wv) := HFwf.out.trans (Fr.of HBwh.out) trivial
          refine wp_region_held_drew (S := fun w' => w'.cell? ⟨w.heap.size, 3, none⟩ = some (.int .i64 (x2 : Int))) (by kernel_rfl) (by rw [← HWwh.out]; exact HXwh.out.cell 3 rfl) (fun hHeld => ?_)
          rw [← HWwh.out] at hHeld ⊢
          refine take_putH (i := 0) (v := ?_) (some 47) rfl (by kernel_rfl) (by kernel_rfl) (by kernel_rfl) (by kernel_rfl) (fun _ _ _ h => h) (Or.inl ⟨by rfl, ?_⟩) hHeld ?_
          rotate_left
          · (intro w hSw; obtain z0 := hSw; go_simp; try with_reducible rfl)
          try simp only [Act.put, List.setIfInBounds_toArray, List.set_cons_zero, List.set_cons_succ]
          refine take_putH (i := 1) (v := ?_) (some 48) rfl (by kernel_rfl) (by kernel_rfl) (by kernel_rfl) (by kernel_rfl) (fun _ _ _ h => h) (Or.inl ⟨by rfl, ?_⟩) hHeld ?_
          rotate_left
          · (intro w hSw; obtain z0 := hSw; go_simp; try with_reducible rfl)
          try simp only [Act.put, List.setIfInBounds_toArray, List.set_cons_zero, List.set_cons_succ]
          refine take_putH (i := 2) (v := ?_) (some 49) rfl (by kernel_rfl) (by kernel_rfl) (by kernel_rfl) (by kernel_rfl) (fun _ _ _ h => h) (Or.inl ⟨by rfl, ?_⟩) hHeld ?_
          rotate_left
          · (intro w hSw; obtain z0 := hSw; go_simp; try with_reducible rfl)
          try simp only [Act.put, List.setIfInBounds_toArray, List.set_cons_zero, List.set_cons_succ]
          refine take_putH (i := 3) (v := ?_) (some 50) rfl (by kernel_rfl) (by kernel_rfl) (by kernel_rfl) (by kernel_rfl) (fun _ _ _ h => h) (Or.inl ⟨by rfl, ?_⟩) hHeld ?_
          rotate_left
          · (intro w hSw; obtain z0 := hSw; go_simp; try with_reducible rfl)
          try simp only [Act.put, List.setIfInBounds_toArray, List.set_cons_zero, List.set_cons_succ]
          refine take_putH (i := 4) (v := ?_) (some 51) rfl (by kernel_rfl) (by kernel_rfl) (by kernel_rfl) (by kernel_rfl) (fun _ _ _ h => h) (Or.inl ⟨by rfl, ?_⟩) hHeld ?_
          rotate_left
          · (intro w hSw; obtain z0 := hSw; go_simp; try with_reducible rfl)
          try simp only [Act.put, List.setIfInBounds_toArray, List.set_cons_zero, List.set_cons_succ]
          clear hHeld
          refine wpAnyH_ready (rs := [5]) (by kernel_rfl) (by simp) ?_
          refine AllReadyH.cons rfl (fun K hK => ?_) AllReadyH.nil
          go_simp
          refine (lk_add wh base g wv L l HLwh.out gr x2 hgb hx2 HGR.out hb HHV.out.symm).mono ?_
          rintro e wi ⟨rfl, HLwi, hfi⟩
          have HXwi : Hid (Bk wi w.heap.size #[.int .u8 (k : Int), .int .i64 (x0 : Int), .int .i64 ((0 : Nat) : Int), .int .i64 (x2 : Int), v4, v5, v6, v7, v8, v9, v10, v11] 78) := HXwh.out.fr hfi HGX.out HRN.out
          have HFwi : Hid (Fr w wi g wv) := HFwh.out.trans hfi trivial
          clear hfi
          refine hK.out _ _ (HXwi.out.cell 3 rfl) (fun _ => ?_)
          clear hK K
          try simp only [Act.put, List.getElem_toArray, List.getElem_cons_succ, List.getElem_cons_zero, List.setIfInBounds_toArray, List.set_cons_zero, List.set_cons_succ]
          refine wpAnyH_done (by kernel_rfl) ?_ _
          go_wp2
          go_ret
          rw [HRES.out]
          exact ⟨rfl, HLwi, HFwi.out⟩
      · by_cases hx1l : (x1 : Int) = l.life
        · have g1 : ¬ (x1 : Int) = 0 := by omega
          have g2 : ((x1 : Int) != 0) = true := by simpa using g1
          have g3 : ((x1 : Int) == 0) = false := by simpa using g1
          have g4 : ((x1 : Int) != l.life) = false := by simp [hx1l]
          have g5 : ((x1 : Int) == l.life) = true := by simp [hx1l]
          have HXL : Hid ((x1 : Int) = l.life) := hx1l
          clear hx1l
          refine take_putH (i := 0) (v := ?_) (some 28) rfl (by kernel_rfl) (by kernel_rfl) (by kernel_rfl) (by kernel_rfl) (fun _ _ _ h => h) (Or.inl ⟨by rfl, ?_⟩) hdone ?_
          rotate_left
          · (intro w hSw; obtain ⟨z0, z1⟩ := hSw; go_simp; try with_reducible rfl)
          try simp only [Act.put, List.setIfInBounds_toArray, List.set_cons_zero, List.set_cons_succ]
          refine take_putH (i := 1) (v := ?_) (some 29) rfl (by kernel_rfl) (by kernel_rfl) (by kernel_rfl) (by kernel_rfl) (fun _ _ _ h => h) (Or.inl ⟨by rfl, ?_⟩) hdone ?_
          rotate_left
          · (intro w hSw; obtain ⟨z0, z1⟩ := hSw; go_simp; try with_reducible rfl)
          try simp only [Act.put, List.setIfInBounds_toArray, List.set_cons_zero, List.set_cons_succ]
          refine take_putH (i := 2) (v := ?_) (some 30) rfl (by kernel_rfl) (by kernel_rfl) (by kernel_rfl) (by kernel_rfl) (fun _ _ _ h => h) (Or.inl ⟨by rfl, ?_⟩) hdone ?_
          rotate_left
          · (intro w hSw; obtain ⟨z0, z1⟩ := hSw; go_simp; try with_reducible rfl)
          try simp only [Act.put, List.setIfInBounds_toArray, List.set_cons_zero, List.set_cons_succ]
          refine take_putH (i := 3) (v := ?_) (some 31) rfl (by kernel_rfl) (by kernel_rfl) (by kernel_rfl) (by kernel_rfl) (fun _ _ _ h => h) (Or.inl ⟨by rfl, ?_⟩) hdone ?_
          rotate_left
          · (intro w hSw; obtain ⟨z0, z1⟩ := hSw; go_simp; try with_reducible rfl)
          try simp only [Act.put, List.setIfInBounds_toArray, List.set_cons_zero, List.set_cons_succ]
          refine take_putH (i := 4) (v := ?_) (some 32) rfl (by kernel_rfl) (by kernel_rfl) (by kernel_rfl) (by kernel_rfl) (fun _ _ _ h => h) (Or.inl ⟨by rfl, ?_⟩) hdone ?_
          rotate_left
          · (intro w hSw; obtain ⟨z0, z1⟩ := hSw; go_simp; try with_reducible rfl)
          try simp only [Act.put, List.setIfInBounds_toArray, List.set_cons_zero, List.set_cons_succ]
          refine take_putH (i := 5) (v := ?_) (some 33) rfl (by kernel_rfl) (by kernel_rfl) (by kernel_rfl) (by kernel_rfl) (fun _ _ _ h => h) (Or.inl ⟨by rfl, ?_⟩) hdone ?_
          rotate_left
          · (intro w hSw; obtain ⟨z0, z1⟩ := hSw; go_simp; try with_reducible rfl)
          try simp only [Act.put, List.setIfInBounds_toArray, List.set_cons_zero, List.set_cons_succ]
          refine take_putH (i := 6) (v := ?_) (some 34) rfl (by kernel_rfl) (by kernel_rfl) (by kernel_rfl) (by kernel_rfl) (fun _ _ _ h => h) (Or.inl ⟨by rfl, ?_⟩) hdone ?_
          rotate_left
          · (intro w hSw; obtain ⟨z0, z1⟩ := hSw; go_simp; try with_reducible rfl)
          try simp only [Act.put, List.setIfInBounds_toArray, List.set_cons_zero, List.set_cons_succ]
          refine take_putH (i := 7) (v := ?_) (some 35) rfl (by kernel_rfl) (by kernel_rfl) (by kernel_rfl) (by kernel_rfl) (fun _ _ _ h => h) (Or.inl ⟨by rfl, ?_⟩) hdone ?_
          rotate_left
          · (intro w hSw; obtain ⟨z0, z1⟩ := hSw; go_simp; try with_reducible rfl)
          try simp only [Act.put, List.setIfInBounds_toArray, List.set_cons_zero, List.set_cons_succ]
          refine take_putH (i := 8) (v := ?_) (some 36) rfl (by kernel_rfl) (by kernel_rfl) (by kernel_rfl) (by kernel_rfl) (fun _ _ _ h => h) (Or.inl ⟨by rfl, ?_⟩) hdone ?_
          rotate_left
          · (intro w hSw; obtain ⟨z0, z1⟩ := hSw; go_simp; try with_reducible rfl)
          try simp only [Act.put, List.setIfInBounds_toArray, List.set_cons_zero, List.set_cons_succ]
          refine take_putH (i := 9) (v := ?_) (some 37) rfl (by kernel_rfl) (by kernel_rfl) (by kernel_rfl) (by kernel_rfl) (fun _ _ _ h => h) (Or.inl ⟨by rfl, ?_⟩) hdone ?_
          rotate_left
          · (intro w hSw; obtain ⟨z0, z1⟩ := hSw; go_simp; try with_reducible rfl)
          try simp only [Act.put, List.setIfInBounds_toArray, List.set_cons_zero, List.set_cons_succ]
          refine take_putH (i := 10) (v := ?_) (some 38) rfl (by kernel_rfl) (by kernel_rfl) (by kernel_rfl) (by kernel_rfl) (fun _ _ _ h => h) (Or.inl ⟨by rfl, ?_⟩) hdone ?_
          rotate_left
          · (intro w hSw; obtain ⟨z0, z1⟩ := hSw; go_simp; try with_reducible rfl)
          try simp only [Act.put, List.setIfInBounds_toArray, List.set_cons_zero, List.set_cons_succ]
          refine take_putH (i := 11) (v := ?_) (some 39) rfl (by kernel_rfl) (by kernel_rfl) (by kernel_rfl) (by kernel_rfl) (fun _ _ _ h => h) (Or.inl ⟨by rfl, ?_⟩) hdone ?_
          rotate_left
          · (intro w hSw; obtain ⟨z0, z1⟩ := hSw; go_simp; try with_reducible rfl)
          try simp only [Act.put, List.setIfInBounds_toArray, List.set_cons_zero, List.set_cons_succ]
          refine wpAnyH_done (by kernel_rfl) ?_ _
          clear hdone
          go_wp2
          obtain ⟨we, HWwe⟩ : ∃ x, Hid (x = wd.drew) := ⟨_, rfl⟩
          have HBwe : Hid (Below wd.heap.size wd we) := by rw [HWwe.out]; exact below_drew (Below.refl _ _)
          have HXwe : Hid (Bk we w.heap.size #[.int .u8 (k : Int), .int .i64 (x0 : Int), .int .i64 (x1 : Int), .int .i64 (x2 : Int), v4, v5, v6, v7, v8, v9, v10, v11] 78) := HXwd.out.stay HBwe.out
          have HLwe : Hid (LkIn we base g wv L l) := HLwd.out.below HBwe.out
          have HFwe : Hid (Fr w we g wv) := HFwd.out.trans (Fr.of HBwe.out) trivial
          refine wp_region_held_drew (S := fun w' => w'.cell? ⟨w.heap.size, 3, none⟩ = some (.int .i64 (x2 : Int)) ∧ w'.cell? ⟨g, 5, none⟩ = some (.int .i64 (gr : Int)) ∧ w'.cell? ⟨g, 6, none⟩ = some (.int .u64 (l.bits_ : Int))) (by kernel_rfl) (by rw [← HWwe.out]; exact ⟨HXwe.out.cell 3 rfl, (by rw [← HGR.out]; exact HLwe.out.blk.cell 5 rfl), HLwe.out.blk.cell 6 rfl⟩) (fun hHeld => ?_)
          rw [← HWwe.out] at hHeld ⊢
          refine take_putH (i := 0) (v := ?_) (some 40) rfl (by kernel_rfl) (by kernel_rfl) (by kernel_rfl) (by kernel_rfl) (fun _ _ _ h => h) (Or.inl ⟨by rfl, ?_⟩) hHeld ?_
          rotate_left
          · (intro w hSw; obtain ⟨z0, z1, z2⟩ := hSw; go_simp; try with_reducible rfl)
          try simp only [Act.put, List.setIfInBounds_toArray, List.set_cons_zero, List.set_cons_succ]
          refine take_putH (i := 1) (v := ?_) (some 41) rfl (by kernel_rfl) (by kernel_rfl) (by kernel_rfl) (by kernel_rfl) (fun _ _ _ h => h) (Or.inl ⟨by rfl, ?_⟩) hHeld ?_
          rotate_left
          · (intro w hSw; obtain ⟨z0, z1, z2⟩ := hSw; go_simp; try with_reducible rfl)
          try simp only [Act.put, List.setIfInBounds_toArray, List.set_cons_zero, List.set_cons_succ]
          refine take_putH (i := 2) (v := ?_) (some 42) rfl (by kernel_rfl) (by kernel_rfl) (by kernel_rfl) (by kernel_rfl) (fun _ _ _ h => h) (Or.inl ⟨by rfl, ?_⟩) hHeld ?_
          rotate_left
          · (intro w hSw; obtain ⟨z0, z1, z2⟩ := hSw; go_simp; try with_reducible rfl)
          try simp only [Act.put, List.setIfInBounds_toArray, List.set_cons_zero, List.set_cons_succ]
          refine take_putH (i := 3) (v := ?_) (some 43) rfl (by kernel_rfl) (by kernel_rfl) (by kernel_rfl) (by kernel_rfl) (fun _ _ _ h => h) (Or.inl ⟨by rfl, ?_⟩) hHeld ?_
          rotate_left
          · (intro w hSw; obtain ⟨z0, z1, z2⟩ := hSw; go_simp; try with_reducible rfl)
          try simp only [Act.put, List.setIfInBounds_toArray, List.set_cons_zero, List.set_cons_succ]
          refine take_putH (i := 4) (v := ?_) (some 44) rfl (by kernel_rfl) (by kernel_rfl) (by kernel_rfl) (by kernel_rfl) (fun _ _ _ h => h) (Or.inl ⟨by rfl, ?_⟩) hHeld ?_
          rotate_left
          · (intro w hSw; obtain ⟨z0, z1, z2⟩ := hSw; go_simp; try with_reducible rfl)
          try simp only [Act.put, List.setIfInBounds_toArray, List.set_cons_zero, List.set_cons_succ]
          refine take_putH (i := 5) (v := ?_) (some 45) rfl (by kernel_rfl) (by kernel_rfl) (by kernel_rfl) (by kernel_rfl) (fun _ _ _ h => h) (Or.inl ⟨by rfl, ?_⟩) hHeld ?_
          rotate_left
          · (intro w hSw; obtain ⟨z0, z1, z2⟩ := hSw; go_simp; try with_reducible rfl)
          try simp only [Act.put, List.setIfInBounds_toArray, List.set_cons_zero, List.set_cons_succ]
          clear hHeld
          obtain ⟨hv, HHV⟩ : ∃ hv, Hid (hv = hasW gr l.bits_ x2) := ⟨_, rfl⟩
          refine wpAnyH_ready (rs := [6]) (by kernel_rfl) (by simp) ?_
          refine AllReadyH.cons rfl (fun K hK => ?_) AllReadyH.nil
          go_simp
          refine (lk_has gr l.bits_ x2 hgb hx2 hb we).mono ?_
          rintro e wf ⟨he, hbf⟩
          rw [← HHV.out] at he
          subst he
          have HBwf : Hid (Below we.heap.size we wf) := hbf
          clear hbf
          have HLwf : Hid (LkIn wf base g wv L l) := HLwe.out.below HBwf.out
          have HXwf : Hid (Bk wf w.heap.size #[.int .u8 (k : Int), .int .i64 (x0 : Int), .int .i64 (x1 : Int), .int .i64 (x2 : Int), v4, v5, v6, v7, v8, v9, v10, v11] 78) := HXwe.out.stay HBwf.out
          have HFwf : Hid (Fr w wf g wv) := HFwe.out.trans (Fr.of HBwf.out) trivial
          refine hK.out _ _ ⟨HXwf.out.cell 3 rfl, (by rw [← HGR.out]; exact HLwf.out.blk.cell 5 rfl), HLwf.out.blk.cell 6 rfl⟩ (fun _ => ?_)
          clear hK K
          try simp only [Act.put, List.getElem_toArray, List.getElem_cons_succ, List.getElem_cons_zero, List.setIfInBounds_toArray, List.set_cons_zero, List.set_cons_succ]
          refine wpAnyH_done (by kernel_rfl) ?_ _
          cases hv with
          | true =>
            have HRES : Hid (accR l ot gr x0 x1 x2 = (7, l)) := accR_known hst (accM_old hnw) (fun h => h.2 HXL.out) HHV.out.symm
            go_wp2
            go_ret
            rw [HRES.out]
            exact ⟨rfl, HLwf, HFwf.out⟩
          | false =>
            have HRES : Hid (accR l ot gr x0 x1 x2 = (0, { (l : Lk) with great := ((addG gr x2 : Nat) : Int), bits_ := addB gr l.bits_ x2 })) := accR_new hst (accM_old hnw) (fun h => h.2 HXL.out) HHV.out.symm
            go_wp2
            obtain ⟨wh, HWwh⟩ : ∃ x, Hid (x = wf.drew) := ⟨_, rfl⟩
            have HBwh : Hid (Below wf.heap.size wf wh) := by rw [HWwh.out]; exact below_drew (Below.refl _ _)
            have HXwh : Hid (Bk wh w.heap.size #[.int .u8 (k : Int), .int .i64 (x0 : Int), .int .i64 (x1 : Int), .int .i64 (x2 : Int), v4, v5, v6, v7, v8, v9, v10, v11] 78) := HXwf.out.stay HBwh.out
            have HLwh : Hid (LkIn wh base g wv L l) := HLwf.out.below HBwh.out
            have HFwh : Hid (Fr w wh g wv) := HFwf.out.trans (Fr.of HBwh.out) trivial
            refine wp_region_held_drew (S := fun w' => w'.cell? ⟨w.heap.size, 3, none⟩ = some (.int .i64 (x2 : Int))) (by kernel_rfl) (by rw [← HWwh.out]; exact HXwh.out.cell 3 rfl) (fun hHeld => ?_)
            rw [← HWwh.out] at hHeld ⊢
            refine take_putH (i := 0) (v := ?_) (some 47) rfl (by kernel_rfl) (by kernel_rfl) (by kernel_rfl) (by kernel_rfl) (fun _ _ _ h => h) (Or.inl ⟨by rfl, ?_⟩) hHeld ?_
            rotate_left
            · (intro w hSw; obtain z0 := hSw; go_simp; try with_reducible rfl)
            try simp only [Act.put, List.setIfInBounds_toArray, List.set_cons_zero, List.set_cons_succ]
            refine take_putH (i := 1) (v := ?_) (some 48) rfl (by kernel_rfl) (by kernel_rfl) (by kernel_rfl) (by kernel_rfl) (fun _ _ _ h => h) (Or.inl ⟨by rfl, ?_⟩) hHeld ?_
            rotate_left
            · (intro w hSw; obtain z0 := hSw; go_simp; try with_reducible rfl)
            try simp only [Act.put, List.setIfInBounds_toArray, List.set_cons_zero, List.set_cons_succ]
            refine take_putH (i := 2) (v := ?_) (some 49) rfl (by kernel_rfl) (by kernel_rfl) (by kernel_rfl) (by kernel_rfl) (fun _ _ _ h => h) (Or.inl ⟨by rfl, ?_⟩) hHeld ?_
            rotate_left
            · (intro w hSw; obtain z0 := hSw; go_simp; try with_reducible rfl)
            try simp only [Act.put, List.setIfInBounds_toArray, List.set_cons_zero, List.set_cons_succ]
            refine take_putH (i := 3) (v := ?_) (some 50) rfl (by kernel_rfl) (by kernel_rfl) (by kernel_rfl) (by kernel_rfl) (fun _ _ _ h => h) (Or.inl ⟨by rfl, ?_⟩) hHeld ?_
            rotate_left
            · (intro w hSw; obtain z0 := hSw; go_simp; try with_reducible rfl)
            try simp only [Act.put, List.setIfInBounds_toArray, List.set_cons_zero, List.set_cons_succ]
            refine take_putH (i := 4) (v := ?_) (some 51) rfl (by kernel_rfl) (by kernel_rfl) (by kernel_rfl) (by kernel_rfl) (fun _ _ _ h => h) (Or.inl ⟨by rfl, ?_⟩) hHeld ?_
            rotate_left
            · (intro w hSw; obtain z0 := hSw; go_simp; try with_reducible rfl)
            try simp only [Act.put, List.setIfInBounds_toArray, List.set_cons_zero, List.set_cons_succ]
            clear hHeld
            refine wpAnyH_ready (rs := [5]) (by kernel_rfl) (by simp) ?_
            refine AllReadyH.cons rfl (fun K hK => ?_) AllReadyH.nil
            go_simp
            refine (lk_add wh base g wv L l HLwh.out gr x2 hgb hx2 HGR.out hb HHV.out.symm).mono ?_
            rintro e wi ⟨rfl, HLwi, hfi⟩
            have HXwi : Hid (Bk wi w.heap.size #[.int .u8 (k : Int), .int .i64 (x0 : Int), .int .i64 (x1 : Int), .int .i64 (x2 : Int), v4, v5, v6, v7, v8, v9, v10, v11] 78) := HXwh.out.fr hfi HGX.out HRN.out
            have HFwi : Hid (Fr w wi g wv) := HFwh.out.trans hfi trivial
            clear hfi
            refine hK.out _ _ (HXwi.out.cell 3 rfl) (fun _ => ?_)
            clear hK K
            try simp only [Act.put, List.getElem_toArray, List.getElem_cons_succ, List.getElem_cons_zero, List.setIfInBounds_toArray, List.set_cons_zero, List.set_cons_succ]
            refine wpAnyH_done (by kernel_rfl) ?_ _
            go_wp2
            go_ret
            rw [HRES.out]
            exact ⟨rfl, HLwi, HFwi.out⟩
        · have g1 : ¬ (x1 : Int) = 0 := by omega
          have g2 : ((x1 : Int) != 0) = true := by simpa using g1
          have g3 : ((x1 : Int) == 0) = false := by simpa using g1
          have g4 : ((x1 : Int) != l.life) = true := by simpa using hx1l
          have g5 : ((x1 : Int) == l.life) = false := by simpa using hx1l
          have HRES : Hid (accR l ot gr x0 x1 x2 = (13, l)) := accR_other hst (accM_old hnw) ⟨hx1z, hx1l⟩
          refine take_putH (i := 0) (v := ?_) (some 28) rfl (by kernel_rfl) (by kernel_rfl) (by kernel_rfl) (by kernel_rfl) (fun _ _ _ h => h) (Or.inl ⟨by rfl, ?_⟩) hdone ?_
          rotate_left
          · (intro w hSw; obtain ⟨z0, z1⟩ := hSw; go_simp; try with_reducible rfl)
          try simp only [Act.put, List.setIfInBounds_toArray, List.set_cons_zero, List.set_cons_succ]
          refine take_putH (i := 1) (v := ?_) (some 29) rfl (by kernel_rfl) (by kernel_rfl) (by kernel_rfl) (by kernel_rfl) (fun _ _ _ h => h) (Or.inl ⟨by rfl, ?_⟩) hdone ?_
          rotate_left
          · (intro w hSw; obtain ⟨z0, z1⟩ := hSw; go_simp; try with_reducible rfl)
          try simp only [Act.put, List.setIfInBounds_toArray, List.set_cons_zero, List.set_cons_succ]
          refine take_putH (i := 2) (v := ?_) (some 30) rfl (by kernel_rfl) (by kernel_rfl) (by kernel_rfl) (by kernel_rfl) (fun _ _ _ h => h) (Or.inl ⟨by rfl, ?_⟩) hdone ?_
          rotate_left
          · (intro w hSw; obtain ⟨z0, z1⟩ := hSw; go_simp; try with_reducible rfl)
          try simp only [Act.put, List.setIfInBounds_toArray, List.set_cons_zero, List.set_cons_succ]
          refine take_putH (i := 3) (v := ?_) (some 31) rfl (by kernel_rfl) (by kernel_rfl) (by kernel_rfl) (by kernel_rfl) (fun _ _ _ h => h) (Or.inl ⟨by rfl, ?_⟩) hdone ?_
          rotate_left
          · (intro w hSw; obtain ⟨z0, z1⟩ := hSw; go_simp; try with_reducible rfl)
          try simp only [Act.put, List.setIfInBounds_toArray, List.set_cons_zero, List.set_cons_succ]
          refine take_putH (i := 4) (v := ?_) (some 32) rfl (by kernel_rfl) (by kernel_rfl) (by kernel_rfl) (by kernel_rfl) (fun _ _ _ h => h) (Or.inl ⟨by rfl, ?_⟩) hdone ?_
          rotate_left
          · (intro w hSw; obtain ⟨z0, z1⟩ := hSw; go_simp; try with_reducible rfl)
          try simp only [Act.put, List.setIfInBounds_toArray, List.set_cons_zero, List.set_cons_succ]
          refine take_putH (i := 5) (v := ?_) (some 33) rfl (by kernel_rfl) (by kernel_rfl) (by kernel_rfl) (by kernel_rfl) (fun _ _ _ h => h) (Or.inl ⟨by rfl, ?_⟩) hdone ?_
          rotate_left
          · (intro w hSw; obtain ⟨z0, z1⟩ := hSw; go_simp; try with_reducible rfl)
          try simp only [Act.put, List.setIfInBounds_toArray, List.set_cons_zero, List.set_cons_succ]
          refine take_putH (i := 6) (v := ?_) (some 34) rfl (by kernel_rfl) (by kernel_rfl) (by kernel_rfl) (by kernel_rfl) (fun _ _ _ h => h) (Or.inl ⟨by rfl, ?_⟩) hdone ?_
          rotate_left
          · (intro w hSw; obtain ⟨z0, z1⟩ := hSw; go_simp; try with_reducible rfl)
          try simp only [Act.put, List.setIfInBounds_toArray, List.set_cons_zero, List.set_cons_succ]
          refine take_putH (i := 7) (v := ?_) (some 35) rfl (by kernel_rfl) (by kernel_rfl) (by kernel_rfl) (by kernel_rfl) (fun _ _ _ h => h) (Or.inl ⟨by rfl, ?_⟩) hdone ?_
          rotate_left
          · (intro w hSw; obtain ⟨z0, z1⟩ := hSw; go_simp; try with_reducible rfl)
          try simp only [Act.put, List.setIfInBounds_toArray, List.set_cons_zero, List.set_cons_succ]
          refine take_putH (i := 8) (v := ?_) (some 36) rfl (by kernel_rfl) (by kernel_rfl) (by kernel_rfl) (by kernel_rfl) (fun _ _ _ h => h) (Or.inl ⟨by rfl, ?_⟩) hdone ?_
          rotate_left
          · (intro w hSw; obtain ⟨z0, z1⟩ := hSw; go_simp; try with_reducible rfl)
          try simp only [Act.put, List.setIfInBounds_toArray, List.set_cons_zero, List.set_cons_succ]
          refine take_putH (i := 9) (v := ?_) (some 37) rfl (by kernel_rfl) (by kernel_rfl) (by kernel_rfl) (by kernel_rfl) (fun _ _ _ h => h) (Or.inl ⟨by rfl, ?_⟩) hdone ?_
          rotate_left
          · (intro w hSw; obtain ⟨z0, z1⟩ := hSw; go_simp; try with_reducible rfl)
          try simp only [Act.put, List.setIfInBounds_toArray, List.set_cons_zero, List.set_cons_succ]
          refine take_putH (i := 10) (v := ?_) (some 38) rfl (by kernel_rfl) (by kernel_rfl) (by kernel_rfl) (by kernel_rfl) (fun _ _ _ h => h) (Or.inl ⟨by rfl, ?_⟩) hdone ?_
          rotate_left
          · (intro w hSw; obtain ⟨z0, z1⟩ := hSw; go_simp; try with_reducible rfl)
          try simp only [Act.put, List.setIfInBounds_toArray, List.set_cons_zero, List.set_cons_succ]
          refine take_putH (i := 11) (v := ?_) (some 39) rfl (by kernel_rfl) (by kernel_rfl) (by kernel_rfl) (by kernel_rfl) (fun _ _ _ h => h) (Or.inl ⟨by rfl, ?_⟩) hdone ?_
          rotate_left
          · (intro w hSw; obtain ⟨z0, z1⟩ := hSw; go_simp; try with_reducible rfl)
          try simp only [Act.put, List.setIfInBounds_toArray, List.set_cons_zero, List.set_cons_succ]
          refine wpAnyH_done (by kernel_rfl) ?_ _
          clear hdone
          go_wp2
          go_ret
          rw [HRES.out]
          exact ⟨rfl, HLwd, HFwd.out⟩
end Go.Proofs.YtbloomepdchjhaaDoor
