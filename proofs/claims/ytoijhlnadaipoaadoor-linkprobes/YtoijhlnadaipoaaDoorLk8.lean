/- link.window's has and add, accept: of a link's first frame of a life. -/
import Derived.Test.YtoijhlnadaipoaaDoorLk7
namespace Go.Proofs.YtoijhlnadaipoaaDoor
open Go.RowKit

theorem Bk.fr {w w' : World} {g k : Nat} {v : Value} {cs : Array Value} {t : TypeId} (h : Bk w k cs t) (hf : Fr w w' g v) (hg : k ≠ g) (hv : some k ≠ v.ownBlock) : Bk w' k cs t := by
  unfold Bk
  rw [hf.blk k h.lt hg hv]
  exact h
theorem cells_three (l : Lk) (v : Value) (x y : Int) (b : Nat) : (((l.cells v).setIfInBounds 1 (.int .i64 x)).setIfInBounds 5 (.int .i64 y)).setIfInBounds 6 (.int .u64 (b : Int)) = Lk.cells { l with other := x, great := y, bits_ := b } v := rfl
theorem cells_add (l : Lk) (v : Value) (u : Value) (y : Int) (b : Nat) : (((l.cells v).setIfInBounds 6 u).setIfInBounds 5 (.int .i64 y)).setIfInBounds 6 (.int .u64 (b : Int)) = Lk.cells { l with great := y, bits_ := b } v := rfl
/-- A link whose block alone has turned. -/
theorem LkIn.turned {w w' : World} {base g : Nat} {wv : Value} {L : List (Wt × Bd)} {l l' : Lk} (h : LkIn w base g wv L l) (hb : Bk w' g (l'.cells wv) 73) (hs : w.heap.size ≤ w'.heap.size) (hf : ∀ (k : Nat), k < w.heap.size → k ≠ g → w'.heap[k]? = w.heap[k]?) : LkIn w' base g wv L l' := by
  have hne : ∀ (k : Nat) (cs : Array Value) (t : TypeId) (m : Nat × Nat), w.heap[k]? = some (.cells cs t m) → t ≠ 73 → w'.heap[k]? = some (.cells cs t m) := fun k cs t m hk ht => by
    rw [hf k (Array.getElem?_eq_some_iff.1 hk).1 (fun e => ?_)]
    · exact hk
    · subst e
      have h1 := h.blk
      unfold Bk at h1
      rw [h1] at hk
      simp only [Option.some.injEq, Obj.cells.injEq] at hk
      exact ht hk.2.1.symm
  refine ⟨hb, ⟨h.row.1, ?_⟩, fun x hx => ⟨(h.rest x hx).1, own_kept (h.rest x hx).2 fun k cs m hk => hne k cs _ m hk (by decide)⟩, Nat.le_trans h.bg hs⟩
  rcases h.row.2 with hn | ⟨g', c, cur, hv, hbg, hg, r⟩
  · exact .inl hn
  · exact .inr ⟨g', c, cur, hv, hbg, hne g' cur _ _ hg (by decide), r⟩
theorem LkIn.three {w : World} {base g : Nat} {wv : Value} {L : List (Wt × Bd)} {l : Lk} (h : LkIn w base g wv L l) (x : Int) : LkIn (((w.setCell ⟨g, 1, none⟩ (.int .i64 x)).setCell ⟨g, 5, none⟩ (.int .i64 0)).setCell ⟨g, 6, none⟩ (.int .u64 0)) base g wv L { l with other := x, great := 0, bits_ := 0 } := by
  refine h.turned ?_ (by simp) fun k hk hg => ?_
  · have h1 := ((h.blk.set 1 (.int .i64 x)).set 5 (.int .i64 0)).set 6 (.int .u64 ((0 : Nat) : Int))
    rw [cells_three] at h1
    exact h1
  · rw [heap_setCell_other _ ⟨g, 6, none⟩ k _ hg, heap_setCell_other _ ⟨g, 5, none⟩ k _ hg, heap_setCell_other _ ⟨g, 1, none⟩ k _ hg]

theorem lk_has_new (w : World) : Calls Tryd.prog 44 #[.agg #[.int .i64 0, .int .u64 0], .int .i64 1] w fun e w' => e = .returned (.bool false) ∧ Below w.heap.size w w' := by
  have HB : ∀ o, Hid (Below w.heap.size w (w.alloc o)) := fun o => below_new _ _
  go_enter Tryd.func44, Tryd.ntmps44
  go_wp2
  go_ret
  exact ⟨rfl, (HB _).out⟩

set_option maxRecDepth 100000 in
set_option maxHeartbeats 2000000 in
theorem lk_add_new (w : World) (base g : Nat) (wv : Value) (L : List (Wt × Bd)) (l : Lk) (h : LkIn w base g wv L l) (h1 : l.great = 0) (h2 : l.bits_ = 0) :
    Calls Tryd.prog 45 #[.pointer (some ⟨g, 5, none⟩), .int .i64 1] w fun e w' => e = .returned (.tuple #[]) ∧ Hid (LkIn w' base g wv L { l with great := 1, bits_ := 1 }) ∧ Fr w w' g wv := by
  have c5 : w.cell? ⟨g, 5, none⟩ = some (.int .i64 0) := by rw [← h1]; exact h.blk.cell 5 rfl
  have c6 : w.cell? ⟨g, 6, none⟩ = some (.int .u64 0) := by rw [show (0 : Int) = ((l.bits_ : Nat) : Int) from by rw [h2]; rfl]; exact h.blk.cell 6 rfl
  have fg : ∀ i, w.frozen? ⟨g, i, none⟩ = false := fun i => h.blk.free i
  have hor : bits BinOp.or IntKind.u64 0 1 = 1 := by decide
  have HL2 : Hid (LkIn (((w.setCell ⟨g, 6, none⟩ (.int .u64 0)).setCell ⟨g, 5, none⟩ (.int .i64 1)).setCell ⟨g, 6, none⟩ (.int .u64 1)).drew.drew base g wv L { l with great := 1, bits_ := 1 }) := by
    refine h.turned ?_ (by simp [World.drew]) fun k hk hg => ?_
    · have h1 := ((h.blk.set 6 (.int .u64 0)).set 5 (.int .i64 1)).set 6 (.int .u64 ((1 : Nat) : Int))
      rw [cells_add] at h1
      exact h1
    · show (((w.setCell ⟨g, 6, none⟩ (.int .u64 0)).setCell ⟨g, 5, none⟩ (.int .i64 1)).setCell ⟨g, 6, none⟩ (.int .u64 1)).heap[k]? = _
      rw [heap_setCell_other _ ⟨g, 6, none⟩ k _ hg, heap_setCell_other _ ⟨g, 5, none⟩ k _ hg, heap_setCell_other _ ⟨g, 6, none⟩ k _ hg]
  have HF2 : Hid (Fr w (((w.setCell ⟨g, 6, none⟩ (.int .u64 0)).setCell ⟨g, 5, none⟩ (.int .i64 1)).setCell ⟨g, 6, none⟩ (.int .u64 1)).drew.drew g wv) := by
    have hf : Fr w (((w.setCell ⟨g, 6, none⟩ (.int .u64 0)).setCell ⟨g, 5, none⟩ (.int .i64 1)).setCell ⟨g, 6, none⟩ (.int .u64 1)) g wv := (((Fr.of (Below.refl _ _)).set).set).set
    exact ⟨below_drew (below_drew hf.all), hf.blk⟩
  clear h
  go_enter Tryd.func45, Tryd.ntmps45
  go_wp2
  go_region
  go_wp2
  go_region
  go_wp2
  go_end0
  exact ⟨rfl, HL2.out, HF2.out⟩

set_option maxRecDepth 100000 in
set_option maxHeartbeats 4000000 in
theorem lk_accept_new (w : World) (base g : Nat) (wv : Value) (L : List (Wt × Bd)) (l : Lk) (h : LkIn w base g wv L l) (k x0 x1 : Nat) (hx0 : l.other < (x0 : Int)) (hx1 : x1 = 0 ∨ (x1 : Int) = l.life) :
    Calls Tryd.prog 29 #[.pointer (some ⟨g, 0, none⟩), .agg #[.int .u8 (k : Int), .int .i64 (x0 : Int), .int .i64 (x1 : Int), .int .i64 1, .int .i64 0, .int .i64 0, .int .i64 0, .int .i64 0, .int .i64 0, .int .i64 0, .slice none 0 0, .slice none 0 0]] w fun e w' => e = .returned (.int .i64 0) ∧ Hid (LkIn w' base g wv L { l with other := (x0 : Int), great := 1, bits_ := 1 }) ∧ Fr w w' g wv := by
  obtain ⟨W0, HW0⟩ : ∃ W0, Hid (W0 = w.alloc (.cells #[.int .u8 (k : Int), .int .i64 (x0 : Int), .int .i64 (x1 : Int), .int .i64 1, .int .i64 0, .int .i64 0, .int .i64 0, .int .i64 0, .int .i64 0, .int .i64 0, .slice none 0 0, .slice none 0 0] 85)) := ⟨_, rfl⟩
  have HB0 : Hid (Below w.heap.size w W0) := by rw [HW0.out]; exact below_new _ _
  have HXW0 : Hid (Bk W0 w.heap.size #[.int .u8 (k : Int), .int .i64 (x0 : Int), .int .i64 (x1 : Int), .int .i64 1, .int .i64 0, .int .i64 0, .int .i64 0, .int .i64 0, .int .i64 0, .int .i64 0, .slice none 0 0, .slice none 0 0] 85) := by rw [HW0.out]; exact Bk.new _ _ _
  have HLW0 : Hid (LkIn W0 base g wv L l) := h.below HB0.out
  have HGX : Hid (w.heap.size ≠ g) := by have := h.blk.lt; show _ ≠ _; omega
  have HRN : Hid (some w.heap.size ≠ wv.ownBlock) := by
    intro e
    have := (h.row.lt w.heap.size e.symm).2
    omega
  have q1 : ¬ (x0 : Int) < l.other := by omega
  have q2 : decide ((x0 : Int) < l.other) = false := by simpa using q1
  have q3 : decide (l.other < (x0 : Int)) = true := by simpa using hx0
  clear h
  go_enter Tryd.func29, Tryd.ntmps29
  go_wp2
  rw [← HW0.out]
  obtain ⟨wa, HWwa⟩ : ∃ x, Hid (x = W0.drew) := ⟨_, rfl⟩
  have HBwa : Hid (Below W0.heap.size W0 wa) := by rw [HWwa.out]; exact below_drew (Below.refl _ _)
  have HXwa : Hid (Bk wa w.heap.size #[.int .u8 (k : Int), .int .i64 (x0 : Int), .int .i64 (x1 : Int), .int .i64 1, .int .i64 0, .int .i64 0, .int .i64 0, .int .i64 0, .int .i64 0, .int .i64 0, .slice none 0 0, .slice none 0 0] 85) := HXW0.out.stay HBwa.out
  have HLwa : Hid (LkIn wa base g wv L l) := HLW0.out.below HBwa.out
  refine wp_region_held_drew (S := fun w' => w'.cell? ⟨w.heap.size, 1, none⟩ = some (.int .i64 (x0 : Int)) ∧ w'.cell? ⟨g, 1, none⟩ = some (.int .i64 l.other)) (by kernel_rfl) (by rw [← HWwa.out]; exact ⟨HXwa.out.cell 1 rfl, HLwa.out.blk.cell 1 rfl⟩) (fun hHeld => ?_)
  rw [← HWwa.out] at hHeld ⊢
  refine take_putH (i := 0) (v := ?_) (some 5) rfl (by kernel_rfl) (by kernel_rfl) (by kernel_rfl) (by kernel_rfl) (fun _ _ _ h => h) (Or.inl ⟨by rfl, ?_⟩) hHeld ?_
  rotate_left
  · (intro w hSw; obtain ⟨z0, z1⟩ := hSw; go_simp; try with_reducible rfl)
  try simp only [Act.put, List.setIfInBounds_toArray, List.set_cons_zero, List.set_cons_succ]
  refine take_putH (i := 1) (v := ?_) (some 6) rfl (by kernel_rfl) (by kernel_rfl) (by kernel_rfl) (by kernel_rfl) (fun _ _ _ h => h) (Or.inl ⟨by rfl, ?_⟩) hHeld ?_
  rotate_left
  · (intro w hSw; obtain ⟨z0, z1⟩ := hSw; go_simp; try with_reducible rfl)
  try simp only [Act.put, List.setIfInBounds_toArray, List.set_cons_zero, List.set_cons_succ]
  refine take_putH (i := 2) (v := ?_) (some 7) rfl (by kernel_rfl) (by kernel_rfl) (by kernel_rfl) (by kernel_rfl) (fun _ _ _ h => h) (Or.inl ⟨by rfl, ?_⟩) hHeld ?_
  rotate_left
  · (intro w hSw; obtain ⟨z0, z1⟩ := hSw; go_simp; try with_reducible rfl)
  try simp only [Act.put, List.setIfInBounds_toArray, List.set_cons_zero, List.set_cons_succ]
  refine take_putH (i := 3) (v := ?_) (some 8) rfl (by kernel_rfl) (by kernel_rfl) (by kernel_rfl) (by kernel_rfl) (fun _ _ _ h => h) (Or.inl ⟨by rfl, ?_⟩) hHeld ?_
  rotate_left
  · (intro w hSw; obtain ⟨z0, z1⟩ := hSw; go_simp; try with_reducible rfl)
  try simp only [Act.put, List.setIfInBounds_toArray, List.set_cons_zero, List.set_cons_succ]
  refine take_putH (i := 4) (v := ?_) (some 9) rfl (by kernel_rfl) (by kernel_rfl) (by kernel_rfl) (by kernel_rfl) (fun _ _ _ h => h) (Or.inl ⟨by rfl, ?_⟩) hHeld ?_
  rotate_left
  · (intro w hSw; obtain ⟨z0, z1⟩ := hSw; go_simp; try with_reducible rfl)
  try simp only [Act.put, List.setIfInBounds_toArray, List.set_cons_zero, List.set_cons_succ]
  refine take_putH (i := 5) (v := ?_) (some 10) rfl (by kernel_rfl) (by kernel_rfl) (by kernel_rfl) (by kernel_rfl) (fun _ _ _ h => h) (Or.inl ⟨by rfl, ?_⟩) hHeld ?_
  rotate_left
  · (intro w hSw; obtain ⟨z0, z1⟩ := hSw; go_simp; try with_reducible rfl)
  try simp only [Act.put, List.setIfInBounds_toArray, List.set_cons_zero, List.set_cons_succ]
  refine take_putH (i := 6) (v := ?_) (some 11) rfl (by kernel_rfl) (by kernel_rfl) (by kernel_rfl) (by kernel_rfl) (fun _ _ _ h => h) (Or.inl ⟨by rfl, ?_⟩) hHeld ?_
  rotate_left
  · (intro w hSw; obtain ⟨z0, z1⟩ := hSw; go_simp; try with_reducible rfl)
  try simp only [Act.put, List.setIfInBounds_toArray, List.set_cons_zero, List.set_cons_succ]
  refine wpAnyH_done (by kernel_rfl) ?_ _
  clear hHeld
  go_wp2
  obtain ⟨wb, HWwb⟩ : ∃ x, Hid (x = wa.drew) := ⟨_, rfl⟩
  have HBwb : Hid (Below wa.heap.size wa wb) := by rw [HWwb.out]; exact below_drew (Below.refl _ _)
  have HXwb : Hid (Bk wb w.heap.size #[.int .u8 (k : Int), .int .i64 (x0 : Int), .int .i64 (x1 : Int), .int .i64 1, .int .i64 0, .int .i64 0, .int .i64 0, .int .i64 0, .int .i64 0, .int .i64 0, .slice none 0 0, .slice none 0 0] 85) := HXwa.out.stay HBwb.out
  have HLwb : Hid (LkIn wb base g wv L l) := HLwa.out.below HBwb.out
  refine wp_region_held_drew (S := fun w' => w'.cell? ⟨w.heap.size, 1, none⟩ = some (.int .i64 (x0 : Int)) ∧ w'.cell? ⟨g, 1, none⟩ = some (.int .i64 l.other)) (by kernel_rfl) (by rw [← HWwb.out]; exact ⟨HXwb.out.cell 1 rfl, HLwb.out.blk.cell 1 rfl⟩) (fun hHeld => ?_)
  rw [← HWwb.out] at hHeld ⊢
  refine take_putH (i := 0) (v := ?_) (some 12) rfl (by kernel_rfl) (by kernel_rfl) (by kernel_rfl) (by kernel_rfl) (fun _ _ _ h => h) (Or.inl ⟨by rfl, ?_⟩) hHeld ?_
  rotate_left
  · (intro w hSw; obtain ⟨z0, z1⟩ := hSw; go_simp; try with_reducible rfl)
  try simp only [Act.put, List.setIfInBounds_toArray, List.set_cons_zero, List.set_cons_succ]
  refine take_putH (i := 1) (v := ?_) (some 13) rfl (by kernel_rfl) (by kernel_rfl) (by kernel_rfl) (by kernel_rfl) (fun _ _ _ h => h) (Or.inl ⟨by rfl, ?_⟩) hHeld ?_
  rotate_left
  · (intro w hSw; obtain ⟨z0, z1⟩ := hSw; go_simp; try with_reducible rfl)
  try simp only [Act.put, List.setIfInBounds_toArray, List.set_cons_zero, List.set_cons_succ]
  refine take_putH (i := 2) (v := ?_) (some 14) rfl (by kernel_rfl) (by kernel_rfl) (by kernel_rfl) (by kernel_rfl) (fun _ _ _ h => h) (Or.inl ⟨by rfl, ?_⟩) hHeld ?_
  rotate_left
  · (intro w hSw; obtain ⟨z0, z1⟩ := hSw; go_simp; try with_reducible rfl)
  try simp only [Act.put, List.setIfInBounds_toArray, List.set_cons_zero, List.set_cons_succ]
  refine take_putH (i := 3) (v := ?_) (some 15) rfl (by kernel_rfl) (by kernel_rfl) (by kernel_rfl) (by kernel_rfl) (fun _ _ _ h => h) (Or.inl ⟨by rfl, ?_⟩) hHeld ?_
  rotate_left
  · (intro w hSw; obtain ⟨z0, z1⟩ := hSw; go_simp; try with_reducible rfl)
  try simp only [Act.put, List.setIfInBounds_toArray, List.set_cons_zero, List.set_cons_succ]
  refine take_putH (i := 4) (v := ?_) (some 16) rfl (by kernel_rfl) (by kernel_rfl) (by kernel_rfl) (by kernel_rfl) (fun _ _ _ h => h) (Or.inl ⟨by rfl, ?_⟩) hHeld ?_
  rotate_left
  · (intro w hSw; obtain ⟨z0, z1⟩ := hSw; go_simp; try with_reducible rfl)
  try simp only [Act.put, List.setIfInBounds_toArray, List.set_cons_zero, List.set_cons_succ]
  refine take_putH (i := 5) (v := ?_) (some 17) rfl (by kernel_rfl) (by kernel_rfl) (by kernel_rfl) (by kernel_rfl) (fun _ _ _ h => h) (Or.inl ⟨by rfl, ?_⟩) hHeld ?_
  rotate_left
  · (intro w hSw; obtain ⟨z0, z1⟩ := hSw; go_simp; try with_reducible rfl)
  try simp only [Act.put, List.setIfInBounds_toArray, List.set_cons_zero, List.set_cons_succ]
  refine take_putH (i := 6) (v := ?_) (some 18) rfl (by kernel_rfl) (by kernel_rfl) (by kernel_rfl) (by kernel_rfl) (fun _ _ _ h => h) (Or.inl ⟨by rfl, ?_⟩) hHeld ?_
  rotate_left
  · (intro w hSw; obtain ⟨z0, z1⟩ := hSw; go_simp; try with_reducible rfl)
  try simp only [Act.put, List.setIfInBounds_toArray, List.set_cons_zero, List.set_cons_succ]
  refine wpAnyH_done (by kernel_rfl) ?_ _
  clear hHeld
  have b1 : wb.cell? ⟨g, 1, none⟩ = some (.int .i64 l.other) := HLwb.out.blk.cell 1 rfl
  have b5 : wb.cell? ⟨g, 5, none⟩ = some (.int .i64 l.great) := HLwb.out.blk.cell 5 rfl
  have b6 : wb.cell? ⟨g, 6, none⟩ = some (.int .u64 (l.bits_ : Int)) := HLwb.out.blk.cell 6 rfl
  have e1 : wb.cell? ⟨w.heap.size, 1, none⟩ = some (.int .i64 (x0 : Int)) := HXwb.out.cell 1 rfl
  have fg : ∀ i, wb.frozen? ⟨g, i, none⟩ = false := fun i => HLwb.out.blk.free i
  obtain ⟨wc, HWwc⟩ : ∃ x, Hid (x = (((wb.setCell ⟨g, 1, none⟩ (.int .i64 (x0 : Int))).setCell ⟨g, 5, none⟩ (.int .i64 0)).setCell ⟨g, 6, none⟩ (.int .u64 0))) := ⟨_, rfl⟩
  have HLwc : Hid (LkIn wc base g wv L { l with other := (x0 : Int), great := 0, bits_ := 0 }) := by rw [HWwc.out]; exact HLwb.out.three (x0 : Int)
  have HXwc : Hid (Bk wc w.heap.size #[.int .u8 (k : Int), .int .i64 (x0 : Int), .int .i64 (x1 : Int), .int .i64 1, .int .i64 0, .int .i64 0, .int .i64 0, .int .i64 0, .int .i64 0, .int .i64 0, .slice none 0 0, .slice none 0 0] 85) := by rw [HWwc.out]; exact ((HXwb.out.other _ _ HGX.out).other _ _ HGX.out).other _ _ HGX.out
  have HFwc : Hid (Fr w wc g wv) := by rw [HWwc.out]; exact (((((Fr.of HB0.out).trans (Fr.of HBwa.out) trivial).trans (Fr.of HBwb.out) trivial).set).set).set
  go_wp2
  rw [← HWwc.out]
  clear b1 b5 b6 e1 fg
  obtain ⟨wd, HWwd⟩ : ∃ x, Hid (x = wc.drew) := ⟨_, rfl⟩
  have HBwd : Hid (Below wc.heap.size wc wd) := by rw [HWwd.out]; exact below_drew (Below.refl _ _)
  have HXwd : Hid (Bk wd w.heap.size #[.int .u8 (k : Int), .int .i64 (x0 : Int), .int .i64 (x1 : Int), .int .i64 1, .int .i64 0, .int .i64 0, .int .i64 0, .int .i64 0, .int .i64 0, .int .i64 0, .slice none 0 0, .slice none 0 0] 85) := HXwc.out.stay HBwd.out
  have HLwd : Hid (LkIn wd base g wv L { l with other := (x0 : Int), great := 0, bits_ := 0 }) := HLwc.out.below HBwd.out
  refine wp_region_held_drew (S := fun w' => w'.cell? ⟨w.heap.size, 2, none⟩ = some (.int .i64 (x1 : Int)) ∧ w'.cell? ⟨g, 0, none⟩ = some (.int .i64 l.life)) (by kernel_rfl) (by rw [← HWwd.out]; exact ⟨HXwd.out.cell 2 rfl, HLwd.out.blk.cell 0 rfl⟩) (fun hHeld => ?_)
  rw [← HWwd.out] at hHeld ⊢
  have hdone : wd.cell? ⟨w.heap.size, 2, none⟩ = some (.int .i64 (x1 : Int)) ∧ wd.cell? ⟨g, 0, none⟩ = some (.int .i64 l.life) := hHeld
  clear hHeld
  by_cases hx1z : x1 = 0
  · subst hx1z
    refine take_putH (i := 0) (v := ?_) (some 28) rfl (by kernel_rfl) (by kernel_rfl) (by kernel_rfl) (by kernel_rfl) (fun _ _ _ h => h) (Or.inl ⟨by rfl, ?_⟩) hdone ?_
    rotate_left
    · (intro w hSw; obtain ⟨z0, z1⟩ := hSw; go_simp; try with_reducible rfl)
    try simp only [Act.put, List.setIfInBounds_toArray, List.set_cons_zero, List.set_cons_succ]
    refine take_putH (i := 1) (v := ?_) (some 29) rfl (by kernel_rfl) (by kernel_rfl) (by kernel_rfl) (by kernel_rfl) (fun _ _ _ h => h) (Or.inl ⟨by rfl, ?_⟩) hdone ?_
    rotate_left
    · (intro w hSw; obtain ⟨z0, z1⟩ := hSw; go_simp; try with_reducible rfl)
    try simp only [Act.put, List.setIfInBounds_toArray, List.set_cons_zero, List.set_cons_succ]
    refine take_putH (i := 2) (v := ?_) (some 30) rfl (by kernel_rfl) (by kernel_rfl) (by kernel_rfl) (by kernel_rfl) (fun _ _ _ h => h) (Or.inl ⟨by rfl, ?_⟩) hdone ?_
    rotate_left
    · (intro w hSw; obtain ⟨z0, z1⟩ := hSw; go_simp; try with_reducible rfl)
    try simp only [Act.put, List.setIfInBounds_toArray, List.set_cons_zero, List.set_cons_succ]
    refine take_putH (i := 3) (v := ?_) (some 31) rfl (by kernel_rfl) (by kernel_rfl) (by kernel_rfl) (by kernel_rfl) (fun _ _ _ h => h) (Or.inl ⟨by rfl, ?_⟩) hdone ?_
    rotate_left
    · (intro w hSw; obtain ⟨z0, z1⟩ := hSw; go_simp; try with_reducible rfl)
    try simp only [Act.put, List.setIfInBounds_toArray, List.set_cons_zero, List.set_cons_succ]
    refine take_putH (i := 4) (v := undef) (some 32) rfl (by kernel_rfl) (by kernel_rfl) (by kernel_rfl) (by kernel_rfl) (fun _ _ _ h => h) (Or.inr ⟨by rfl, rfl⟩) hdone ?_
    try simp only [Act.put, List.setIfInBounds_toArray, List.set_cons_zero, List.set_cons_succ]
    refine take_putH (i := 5) (v := undef) (some 33) rfl (by kernel_rfl) (by kernel_rfl) (by kernel_rfl) (by kernel_rfl) (fun _ _ _ h => h) (Or.inr ⟨by rfl, rfl⟩) hdone ?_
    try simp only [Act.put, List.setIfInBounds_toArray, List.set_cons_zero, List.set_cons_succ]
    refine take_putH (i := 6) (v := undef) (some 34) rfl (by kernel_rfl) (by kernel_rfl) (by kernel_rfl) (by kernel_rfl) (fun _ _ _ h => h) (Or.inr ⟨by rfl, rfl⟩) hdone ?_
    try simp only [Act.put, List.setIfInBounds_toArray, List.set_cons_zero, List.set_cons_succ]
    refine take_putH (i := 7) (v := undef) (some 35) rfl (by kernel_rfl) (by kernel_rfl) (by kernel_rfl) (by kernel_rfl) (fun _ _ _ h => h) (Or.inr ⟨by rfl, rfl⟩) hdone ?_
    try simp only [Act.put, List.setIfInBounds_toArray, List.set_cons_zero, List.set_cons_succ]
    refine take_putH (i := 8) (v := undef) (some 36) rfl (by kernel_rfl) (by kernel_rfl) (by kernel_rfl) (by kernel_rfl) (fun _ _ _ h => h) (Or.inr ⟨by rfl, rfl⟩) hdone ?_
    try simp only [Act.put, List.setIfInBounds_toArray, List.set_cons_zero, List.set_cons_succ]
    refine take_putH (i := 9) (v := undef) (some 37) rfl (by kernel_rfl) (by kernel_rfl) (by kernel_rfl) (by kernel_rfl) (fun _ _ _ h => h) (Or.inr ⟨by rfl, rfl⟩) hdone ?_
    try simp only [Act.put, List.setIfInBounds_toArray, List.set_cons_zero, List.set_cons_succ]
    refine take_putH (i := 10) (v := undef) (some 38) rfl (by kernel_rfl) (by kernel_rfl) (by kernel_rfl) (by kernel_rfl) (fun _ _ _ h => h) (Or.inr ⟨by rfl, rfl⟩) hdone ?_
    try simp only [Act.put, List.setIfInBounds_toArray, List.set_cons_zero, List.set_cons_succ]
    refine take_putH (i := 11) (v := ?_) (some 39) rfl (by kernel_rfl) (by kernel_rfl) (by kernel_rfl) (by kernel_rfl) (fun _ _ _ h => h) (Or.inl ⟨by rfl, ?_⟩) hdone ?_
    rotate_left
    · (intro w hSw; obtain ⟨z0, z1⟩ := hSw; go_simp; try with_reducible rfl)
    try simp only [Act.put, List.setIfInBounds_toArray, List.set_cons_zero, List.set_cons_succ]
    refine wpAnyH_done (by kernel_rfl) ?_ _
    clear hdone
    go_wp2
    obtain ⟨we, HWwe⟩ : ∃ x, Hid (x = wd.drew) := ⟨_, rfl⟩
    have HBwe : Hid (Below wd.heap.size wd we) := by rw [HWwe.out]; exact below_drew (Below.refl _ _)
    have HXwe : Hid (Bk we w.heap.size #[.int .u8 (k : Int), .int .i64 (x0 : Int), .int .i64 (0 : Int), .int .i64 1, .int .i64 0, .int .i64 0, .int .i64 0, .int .i64 0, .int .i64 0, .int .i64 0, .slice none 0 0, .slice none 0 0] 85) := HXwd.out.stay HBwe.out
    have HLwe : Hid (LkIn we base g wv L { l with other := (x0 : Int), great := 0, bits_ := 0 }) := HLwd.out.below HBwe.out
    refine wp_region_held_drew (S := fun w' => w'.cell? ⟨w.heap.size, 3, none⟩ = some (.int .i64 1) ∧ w'.cell? ⟨g, 5, none⟩ = some (.int .i64 0) ∧ w'.cell? ⟨g, 6, none⟩ = some (.int .u64 0)) (by kernel_rfl) (by rw [← HWwe.out]; exact ⟨HXwe.out.cell 3 rfl, HLwe.out.blk.cell 5 rfl, HLwe.out.blk.cell 6 rfl⟩) (fun hHeld => ?_)
    rw [← HWwe.out] at hHeld ⊢
    refine take_putH (i := 0) (v := ?_) (some 40) rfl (by kernel_rfl) (by kernel_rfl) (by kernel_rfl) (by kernel_rfl) (fun _ _ _ h => h) (Or.inl ⟨by rfl, ?_⟩) hHeld ?_
    rotate_left
    · (intro w hSw; obtain ⟨z0, z1, z2⟩ := hSw; go_simp; try with_reducible rfl)
    try simp only [Act.put, List.setIfInBounds_toArray, List.set_cons_zero, List.set_cons_succ]
    refine take_putH (i := 1) (v := ?_) (some 41) rfl (by kernel_rfl) (by kernel_rfl) (by kernel_rfl) (by kernel_rfl) (fun _ _ _ h => h) (Or.inl ⟨by rfl, ?_⟩) hHeld ?_
    rotate_left
    · (intro w hSw; obtain ⟨z0, z1, z2⟩ := hSw; go_simp; try with_reducible rfl)
    try simp only [Act.put, List.setIfInBounds_toArray, List.set_cons_zero, List.set_cons_succ]
    refine take_putH (i := 2) (v := ?_) (some 42) rfl (by kernel_rfl) (by kernel_rfl) (by kernel_rfl) (by kernel_rfl) (fun _ _ _ h => h) (Or.inl ⟨by rfl, ?_⟩) hHeld ?_
    rotate_left
    · (intro w hSw; obtain ⟨z0, z1, z2⟩ := hSw; go_simp; try with_reducible rfl)
    try simp only [Act.put, List.setIfInBounds_toArray, List.set_cons_zero, List.set_cons_succ]
    refine take_putH (i := 3) (v := ?_) (some 43) rfl (by kernel_rfl) (by kernel_rfl) (by kernel_rfl) (by kernel_rfl) (fun _ _ _ h => h) (Or.inl ⟨by rfl, ?_⟩) hHeld ?_
    rotate_left
    · (intro w hSw; obtain ⟨z0, z1, z2⟩ := hSw; go_simp; try with_reducible rfl)
    try simp only [Act.put, List.setIfInBounds_toArray, List.set_cons_zero, List.set_cons_succ]
    refine take_putH (i := 4) (v := ?_) (some 44) rfl (by kernel_rfl) (by kernel_rfl) (by kernel_rfl) (by kernel_rfl) (fun _ _ _ h => h) (Or.inl ⟨by rfl, ?_⟩) hHeld ?_
    rotate_left
    · (intro w hSw; obtain ⟨z0, z1, z2⟩ := hSw; go_simp; try with_reducible rfl)
    try simp only [Act.put, List.setIfInBounds_toArray, List.set_cons_zero, List.set_cons_succ]
    refine take_putH (i := 5) (v := ?_) (some 45) rfl (by kernel_rfl) (by kernel_rfl) (by kernel_rfl) (by kernel_rfl) (fun _ _ _ h => h) (Or.inl ⟨by rfl, ?_⟩) hHeld ?_
    rotate_left
    · (intro w hSw; obtain ⟨z0, z1, z2⟩ := hSw; go_simp; try with_reducible rfl)
    try simp only [Act.put, List.setIfInBounds_toArray, List.set_cons_zero, List.set_cons_succ]
    clear hHeld
    refine wpAnyH_ready (rs := [6]) (by kernel_rfl) (by simp) ?_
    refine AllReadyH.cons rfl (fun K hK => ?_) AllReadyH.nil
    go_simp
    refine (lk_has_new we).mono ?_
    rintro e wf ⟨rfl, hbf⟩
    have HBwf : Hid (Below we.heap.size we wf) := hbf
    clear hbf
    have HLwf : Hid (LkIn wf base g wv L { l with other := (x0 : Int), great := 0, bits_ := 0 }) := HLwe.out.below HBwf.out
    have HXwf : Hid (Bk wf w.heap.size #[.int .u8 (k : Int), .int .i64 (x0 : Int), .int .i64 (0 : Int), .int .i64 1, .int .i64 0, .int .i64 0, .int .i64 0, .int .i64 0, .int .i64 0, .int .i64 0, .slice none 0 0, .slice none 0 0] 85) := HXwe.out.stay HBwf.out
    refine hK.out _ _ ⟨HXwf.out.cell 3 rfl, HLwf.out.blk.cell 5 rfl, HLwf.out.blk.cell 6 rfl⟩ (fun _ => ?_)
    clear hK K
    try simp only [Act.put, List.getElem_toArray, List.getElem_cons_succ, List.getElem_cons_zero, List.setIfInBounds_toArray, List.set_cons_zero, List.set_cons_succ]
    refine wpAnyH_done (by kernel_rfl) ?_ _
    go_wp2
    obtain ⟨wh, HWwh⟩ : ∃ x, Hid (x = wf.drew) := ⟨_, rfl⟩
    have HBwh : Hid (Below wf.heap.size wf wh) := by rw [HWwh.out]; exact below_drew (Below.refl _ _)
    have HXwh : Hid (Bk wh w.heap.size #[.int .u8 (k : Int), .int .i64 (x0 : Int), .int .i64 (0 : Int), .int .i64 1, .int .i64 0, .int .i64 0, .int .i64 0, .int .i64 0, .int .i64 0, .int .i64 0, .slice none 0 0, .slice none 0 0] 85) := HXwf.out.stay HBwh.out
    have HLwh : Hid (LkIn wh base g wv L { l with other := (x0 : Int), great := 0, bits_ := 0 }) := HLwf.out.below HBwh.out
    refine wp_region_held_drew (S := fun w' => w'.cell? ⟨w.heap.size, 3, none⟩ = some (.int .i64 1)) (by kernel_rfl) (by rw [← HWwh.out]; exact HXwh.out.cell 3 rfl) (fun hHeld => ?_)
    rw [← HWwh.out] at hHeld ⊢
    refine take_putH (i := 0) (v := ?_) (some 47) rfl (by kernel_rfl) (by kernel_rfl) (by kernel_rfl) (by kernel_rfl) (fun _ _ _ h => h) (Or.inl ⟨by rfl, ?_⟩) hHeld ?_
    rotate_left
    · (intro w hSw; obtain z0 := hSw; go_simp; try with_reducible rfl)
    try simp only [Act.put, List.setIfInBounds_toArray, List.set_cons_zero, List.set_cons_succ]
    refine take_putH (i := 1) (v := ?_) (some 48) rfl (by kernel_rfl) (by kernel_rfl) (by kernel_rfl) (by kernel_rfl) (fun _ _ _ h => h) (Or.inl ⟨by rfl, ?_⟩) hHeld ?_
    rotate_left
    · (intro w hSw; obtain z0 := hSw; go_simp; try with_reducible rfl)
    try simp only [Act.put, List.setIfInBounds_toArray, List.set_cons_zero, List.set_cons_succ]
    refine take_putH (i := 2) (v := ?_) (some 49) rfl (by kernel_rfl) (by kernel_rfl) (by kernel_rfl) (by kernel_rfl) (fun _ _ _ h => h) (Or.inl ⟨by rfl, ?_⟩) hHeld ?_
    rotate_left
    · (intro w hSw; obtain z0 := hSw; go_simp; try with_reducible rfl)
    try simp only [Act.put, List.setIfInBounds_toArray, List.set_cons_zero, List.set_cons_succ]
    refine take_putH (i := 3) (v := ?_) (some 50) rfl (by kernel_rfl) (by kernel_rfl) (by kernel_rfl) (by kernel_rfl) (fun _ _ _ h => h) (Or.inl ⟨by rfl, ?_⟩) hHeld ?_
    rotate_left
    · (intro w hSw; obtain z0 := hSw; go_simp; try with_reducible rfl)
    try simp only [Act.put, List.setIfInBounds_toArray, List.set_cons_zero, List.set_cons_succ]
    refine take_putH (i := 4) (v := ?_) (some 51) rfl (by kernel_rfl) (by kernel_rfl) (by kernel_rfl) (by kernel_rfl) (fun _ _ _ h => h) (Or.inl ⟨by rfl, ?_⟩) hHeld ?_
    rotate_left
    · (intro w hSw; obtain z0 := hSw; go_simp; try with_reducible rfl)
    try simp only [Act.put, List.setIfInBounds_toArray, List.set_cons_zero, List.set_cons_succ]
    clear hHeld
    refine wpAnyH_ready (rs := [5]) (by kernel_rfl) (by simp) ?_
    refine AllReadyH.cons rfl (fun K hK => ?_) AllReadyH.nil
    go_simp
    refine (lk_add_new wh base g wv L { l with other := (x0 : Int), great := 0, bits_ := 0 } HLwh.out rfl rfl).mono ?_
    rintro e wi ⟨rfl, HLwi, hfi⟩
    have HXwi : Hid (Bk wi w.heap.size #[.int .u8 (k : Int), .int .i64 (x0 : Int), .int .i64 (0 : Int), .int .i64 1, .int .i64 0, .int .i64 0, .int .i64 0, .int .i64 0, .int .i64 0, .int .i64 0, .slice none 0 0, .slice none 0 0] 85) := HXwh.out.fr hfi HGX.out HRN.out
    have HFwi : Hid (Fr w wi g wv) := (((((HFwc.out.trans (Fr.of HBwd.out) trivial).trans (Fr.of HBwe.out) trivial).trans (Fr.of HBwf.out) trivial).trans (Fr.of HBwh.out) trivial).trans hfi trivial)
    clear hfi
    refine hK.out _ _ (HXwi.out.cell 3 rfl) (fun _ => ?_)
    clear hK K
    try simp only [Act.put, List.getElem_toArray, List.getElem_cons_succ, List.getElem_cons_zero, List.setIfInBounds_toArray, List.set_cons_zero, List.set_cons_succ]
    refine wpAnyH_done (by kernel_rfl) ?_ _
    go_wp2
    go_ret
    exact ⟨rfl, HLwi, HFwi.out⟩
  · have hl1 : (x1 : Int) = l.life := hx1.resolve_left hx1z
    have g1 : ¬ (x1 : Int) = 0 := by omega
    have g2 : ((x1 : Int) != 0) = true := by simpa using g1
    have g3 : ((x1 : Int) == 0) = false := by simpa using g1
    have g4 : ((x1 : Int) != l.life) = false := by simp [hl1]
    have g5 : ((x1 : Int) == l.life) = true := by simp [hl1]
    clear hl1
    refine take_putH (i := 0) (v := ?_) (some 28) rfl (by kernel_rfl) (by kernel_rfl) (by kernel_rfl) (by kernel_rfl) (fun _ _ _ h => h) (Or.inl ⟨by rfl, ?_⟩) hdone ?_
    rotate_left
    · (intro w hSw; obtain ⟨z0, z1⟩ := hSw; go_simp; try with_reducible rfl)
    try simp only [Act.put, List.setIfInBounds_toArray, List.set_cons_zero, List.set_cons_succ]
    refine take_putH (i := 1) (v := ?_) (some 29) rfl (by kernel_rfl) (by kernel_rfl) (by kernel_rfl) (by kernel_rfl) (fun _ _ _ h => h) (Or.inl ⟨by rfl, ?_⟩) hdone ?_
    rotate_left
    · (intro w hSw; obtain ⟨z0, z1⟩ := hSw; go_simp; try with_reducible rfl)
    try simp only [Act.put, List.setIfInBounds_toArray, List.set_cons_zero, List.set_cons_succ]
    refine take_putH (i := 2) (v := ?_) (some 30) rfl (by kernel_rfl) (by kernel_rfl) (by kernel_rfl) (by kernel_rfl) (fun _ _ _ h => h) (Or.inl ⟨by rfl, ?_⟩) hdone ?_
    rotate_left
    · (intro w hSw; obtain ⟨z0, z1⟩ := hSw; go_simp; try with_reducible rfl)
    try simp only [Act.put, List.setIfInBounds_toArray, List.set_cons_zero, List.set_cons_succ]
    refine take_putH (i := 3) (v := ?_) (some 31) rfl (by kernel_rfl) (by kernel_rfl) (by kernel_rfl) (by kernel_rfl) (fun _ _ _ h => h) (Or.inl ⟨by rfl, ?_⟩) hdone ?_
    rotate_left
    · (intro w hSw; obtain ⟨z0, z1⟩ := hSw; go_simp; try with_reducible rfl)
    try simp only [Act.put, List.setIfInBounds_toArray, List.set_cons_zero, List.set_cons_succ]
    refine take_putH (i := 4) (v := ?_) (some 32) rfl (by kernel_rfl) (by kernel_rfl) (by kernel_rfl) (by kernel_rfl) (fun _ _ _ h => h) (Or.inl ⟨by rfl, ?_⟩) hdone ?_
    rotate_left
    · (intro w hSw; obtain ⟨z0, z1⟩ := hSw; go_simp; try with_reducible rfl)
    try simp only [Act.put, List.setIfInBounds_toArray, List.set_cons_zero, List.set_cons_succ]
    refine take_putH (i := 5) (v := ?_) (some 33) rfl (by kernel_rfl) (by kernel_rfl) (by kernel_rfl) (by kernel_rfl) (fun _ _ _ h => h) (Or.inl ⟨by rfl, ?_⟩) hdone ?_
    rotate_left
    · (intro w hSw; obtain ⟨z0, z1⟩ := hSw; go_simp; try with_reducible rfl)
    try simp only [Act.put, List.setIfInBounds_toArray, List.set_cons_zero, List.set_cons_succ]
    refine take_putH (i := 6) (v := ?_) (some 34) rfl (by kernel_rfl) (by kernel_rfl) (by kernel_rfl) (by kernel_rfl) (fun _ _ _ h => h) (Or.inl ⟨by rfl, ?_⟩) hdone ?_
    rotate_left
    · (intro w hSw; obtain ⟨z0, z1⟩ := hSw; go_simp; try with_reducible rfl)
    try simp only [Act.put, List.setIfInBounds_toArray, List.set_cons_zero, List.set_cons_succ]
    refine take_putH (i := 7) (v := ?_) (some 35) rfl (by kernel_rfl) (by kernel_rfl) (by kernel_rfl) (by kernel_rfl) (fun _ _ _ h => h) (Or.inl ⟨by rfl, ?_⟩) hdone ?_
    rotate_left
    · (intro w hSw; obtain ⟨z0, z1⟩ := hSw; go_simp; try with_reducible rfl)
    try simp only [Act.put, List.setIfInBounds_toArray, List.set_cons_zero, List.set_cons_succ]
    refine take_putH (i := 8) (v := ?_) (some 36) rfl (by kernel_rfl) (by kernel_rfl) (by kernel_rfl) (by kernel_rfl) (fun _ _ _ h => h) (Or.inl ⟨by rfl, ?_⟩) hdone ?_
    rotate_left
    · (intro w hSw; obtain ⟨z0, z1⟩ := hSw; go_simp; try with_reducible rfl)
    try simp only [Act.put, List.setIfInBounds_toArray, List.set_cons_zero, List.set_cons_succ]
    refine take_putH (i := 9) (v := ?_) (some 37) rfl (by kernel_rfl) (by kernel_rfl) (by kernel_rfl) (by kernel_rfl) (fun _ _ _ h => h) (Or.inl ⟨by rfl, ?_⟩) hdone ?_
    rotate_left
    · (intro w hSw; obtain ⟨z0, z1⟩ := hSw; go_simp; try with_reducible rfl)
    try simp only [Act.put, List.setIfInBounds_toArray, List.set_cons_zero, List.set_cons_succ]
    refine take_putH (i := 10) (v := ?_) (some 38) rfl (by kernel_rfl) (by kernel_rfl) (by kernel_rfl) (by kernel_rfl) (fun _ _ _ h => h) (Or.inl ⟨by rfl, ?_⟩) hdone ?_
    rotate_left
    · (intro w hSw; obtain ⟨z0, z1⟩ := hSw; go_simp; try with_reducible rfl)
    try simp only [Act.put, List.setIfInBounds_toArray, List.set_cons_zero, List.set_cons_succ]
    refine take_putH (i := 11) (v := ?_) (some 39) rfl (by kernel_rfl) (by kernel_rfl) (by kernel_rfl) (by kernel_rfl) (fun _ _ _ h => h) (Or.inl ⟨by rfl, ?_⟩) hdone ?_
    rotate_left
    · (intro w hSw; obtain ⟨z0, z1⟩ := hSw; go_simp; try with_reducible rfl)
    try simp only [Act.put, List.setIfInBounds_toArray, List.set_cons_zero, List.set_cons_succ]
    refine wpAnyH_done (by kernel_rfl) ?_ _
    clear hdone
    go_wp2
    obtain ⟨we, HWwe⟩ : ∃ x, Hid (x = wd.drew) := ⟨_, rfl⟩
    have HBwe : Hid (Below wd.heap.size wd we) := by rw [HWwe.out]; exact below_drew (Below.refl _ _)
    have HXwe : Hid (Bk we w.heap.size #[.int .u8 (k : Int), .int .i64 (x0 : Int), .int .i64 (x1 : Int), .int .i64 1, .int .i64 0, .int .i64 0, .int .i64 0, .int .i64 0, .int .i64 0, .int .i64 0, .slice none 0 0, .slice none 0 0] 85) := HXwd.out.stay HBwe.out
    have HLwe : Hid (LkIn we base g wv L { l with other := (x0 : Int), great := 0, bits_ := 0 }) := HLwd.out.below HBwe.out
    refine wp_region_held_drew (S := fun w' => w'.cell? ⟨w.heap.size, 3, none⟩ = some (.int .i64 1) ∧ w'.cell? ⟨g, 5, none⟩ = some (.int .i64 0) ∧ w'.cell? ⟨g, 6, none⟩ = some (.int .u64 0)) (by kernel_rfl) (by rw [← HWwe.out]; exact ⟨HXwe.out.cell 3 rfl, HLwe.out.blk.cell 5 rfl, HLwe.out.blk.cell 6 rfl⟩) (fun hHeld => ?_)
    rw [← HWwe.out] at hHeld ⊢
    refine take_putH (i := 0) (v := ?_) (some 40) rfl (by kernel_rfl) (by kernel_rfl) (by kernel_rfl) (by kernel_rfl) (fun _ _ _ h => h) (Or.inl ⟨by rfl, ?_⟩) hHeld ?_
    rotate_left
    · (intro w hSw; obtain ⟨z0, z1, z2⟩ := hSw; go_simp; try with_reducible rfl)
    try simp only [Act.put, List.setIfInBounds_toArray, List.set_cons_zero, List.set_cons_succ]
    refine take_putH (i := 1) (v := ?_) (some 41) rfl (by kernel_rfl) (by kernel_rfl) (by kernel_rfl) (by kernel_rfl) (fun _ _ _ h => h) (Or.inl ⟨by rfl, ?_⟩) hHeld ?_
    rotate_left
    · (intro w hSw; obtain ⟨z0, z1, z2⟩ := hSw; go_simp; try with_reducible rfl)
    try simp only [Act.put, List.setIfInBounds_toArray, List.set_cons_zero, List.set_cons_succ]
    refine take_putH (i := 2) (v := ?_) (some 42) rfl (by kernel_rfl) (by kernel_rfl) (by kernel_rfl) (by kernel_rfl) (fun _ _ _ h => h) (Or.inl ⟨by rfl, ?_⟩) hHeld ?_
    rotate_left
    · (intro w hSw; obtain ⟨z0, z1, z2⟩ := hSw; go_simp; try with_reducible rfl)
    try simp only [Act.put, List.setIfInBounds_toArray, List.set_cons_zero, List.set_cons_succ]
    refine take_putH (i := 3) (v := ?_) (some 43) rfl (by kernel_rfl) (by kernel_rfl) (by kernel_rfl) (by kernel_rfl) (fun _ _ _ h => h) (Or.inl ⟨by rfl, ?_⟩) hHeld ?_
    rotate_left
    · (intro w hSw; obtain ⟨z0, z1, z2⟩ := hSw; go_simp; try with_reducible rfl)
    try simp only [Act.put, List.setIfInBounds_toArray, List.set_cons_zero, List.set_cons_succ]
    refine take_putH (i := 4) (v := ?_) (some 44) rfl (by kernel_rfl) (by kernel_rfl) (by kernel_rfl) (by kernel_rfl) (fun _ _ _ h => h) (Or.inl ⟨by rfl, ?_⟩) hHeld ?_
    rotate_left
    · (intro w hSw; obtain ⟨z0, z1, z2⟩ := hSw; go_simp; try with_reducible rfl)
    try simp only [Act.put, List.setIfInBounds_toArray, List.set_cons_zero, List.set_cons_succ]
    refine take_putH (i := 5) (v := ?_) (some 45) rfl (by kernel_rfl) (by kernel_rfl) (by kernel_rfl) (by kernel_rfl) (fun _ _ _ h => h) (Or.inl ⟨by rfl, ?_⟩) hHeld ?_
    rotate_left
    · (intro w hSw; obtain ⟨z0, z1, z2⟩ := hSw; go_simp; try with_reducible rfl)
    try simp only [Act.put, List.setIfInBounds_toArray, List.set_cons_zero, List.set_cons_succ]
    clear hHeld
    refine wpAnyH_ready (rs := [6]) (by kernel_rfl) (by simp) ?_
    refine AllReadyH.cons rfl (fun K hK => ?_) AllReadyH.nil
    go_simp
    refine (lk_has_new we).mono ?_
    rintro e wf ⟨rfl, hbf⟩
    have HBwf : Hid (Below we.heap.size we wf) := hbf
    clear hbf
    have HLwf : Hid (LkIn wf base g wv L { l with other := (x0 : Int), great := 0, bits_ := 0 }) := HLwe.out.below HBwf.out
    have HXwf : Hid (Bk wf w.heap.size #[.int .u8 (k : Int), .int .i64 (x0 : Int), .int .i64 (x1 : Int), .int .i64 1, .int .i64 0, .int .i64 0, .int .i64 0, .int .i64 0, .int .i64 0, .int .i64 0, .slice none 0 0, .slice none 0 0] 85) := HXwe.out.stay HBwf.out
    refine hK.out _ _ ⟨HXwf.out.cell 3 rfl, HLwf.out.blk.cell 5 rfl, HLwf.out.blk.cell 6 rfl⟩ (fun _ => ?_)
    clear hK K
    try simp only [Act.put, List.getElem_toArray, List.getElem_cons_succ, List.getElem_cons_zero, List.setIfInBounds_toArray, List.set_cons_zero, List.set_cons_succ]
    refine wpAnyH_done (by kernel_rfl) ?_ _
    go_wp2
    obtain ⟨wh, HWwh⟩ : ∃ x, Hid (x = wf.drew) := ⟨_, rfl⟩
    have HBwh : Hid (Below wf.heap.size wf wh) := by rw [HWwh.out]; exact below_drew (Below.refl _ _)
    have HXwh : Hid (Bk wh w.heap.size #[.int .u8 (k : Int), .int .i64 (x0 : Int), .int .i64 (x1 : Int), .int .i64 1, .int .i64 0, .int .i64 0, .int .i64 0, .int .i64 0, .int .i64 0, .int .i64 0, .slice none 0 0, .slice none 0 0] 85) := HXwf.out.stay HBwh.out
    have HLwh : Hid (LkIn wh base g wv L { l with other := (x0 : Int), great := 0, bits_ := 0 }) := HLwf.out.below HBwh.out
    refine wp_region_held_drew (S := fun w' => w'.cell? ⟨w.heap.size, 3, none⟩ = some (.int .i64 1)) (by kernel_rfl) (by rw [← HWwh.out]; exact HXwh.out.cell 3 rfl) (fun hHeld => ?_)
    rw [← HWwh.out] at hHeld ⊢
    refine take_putH (i := 0) (v := ?_) (some 47) rfl (by kernel_rfl) (by kernel_rfl) (by kernel_rfl) (by kernel_rfl) (fun _ _ _ h => h) (Or.inl ⟨by rfl, ?_⟩) hHeld ?_
    rotate_left
    · (intro w hSw; obtain z0 := hSw; go_simp; try with_reducible rfl)
    try simp only [Act.put, List.setIfInBounds_toArray, List.set_cons_zero, List.set_cons_succ]
    refine take_putH (i := 1) (v := ?_) (some 48) rfl (by kernel_rfl) (by kernel_rfl) (by kernel_rfl) (by kernel_rfl) (fun _ _ _ h => h) (Or.inl ⟨by rfl, ?_⟩) hHeld ?_
    rotate_left
    · (intro w hSw; obtain z0 := hSw; go_simp; try with_reducible rfl)
    try simp only [Act.put, List.setIfInBounds_toArray, List.set_cons_zero, List.set_cons_succ]
    refine take_putH (i := 2) (v := ?_) (some 49) rfl (by kernel_rfl) (by kernel_rfl) (by kernel_rfl) (by kernel_rfl) (fun _ _ _ h => h) (Or.inl ⟨by rfl, ?_⟩) hHeld ?_
    rotate_left
    · (intro w hSw; obtain z0 := hSw; go_simp; try with_reducible rfl)
    try simp only [Act.put, List.setIfInBounds_toArray, List.set_cons_zero, List.set_cons_succ]
    refine take_putH (i := 3) (v := ?_) (some 50) rfl (by kernel_rfl) (by kernel_rfl) (by kernel_rfl) (by kernel_rfl) (fun _ _ _ h => h) (Or.inl ⟨by rfl, ?_⟩) hHeld ?_
    rotate_left
    · (intro w hSw; obtain z0 := hSw; go_simp; try with_reducible rfl)
    try simp only [Act.put, List.setIfInBounds_toArray, List.set_cons_zero, List.set_cons_succ]
    refine take_putH (i := 4) (v := ?_) (some 51) rfl (by kernel_rfl) (by kernel_rfl) (by kernel_rfl) (by kernel_rfl) (fun _ _ _ h => h) (Or.inl ⟨by rfl, ?_⟩) hHeld ?_
    rotate_left
    · (intro w hSw; obtain z0 := hSw; go_simp; try with_reducible rfl)
    try simp only [Act.put, List.setIfInBounds_toArray, List.set_cons_zero, List.set_cons_succ]
    clear hHeld
    refine wpAnyH_ready (rs := [5]) (by kernel_rfl) (by simp) ?_
    refine AllReadyH.cons rfl (fun K hK => ?_) AllReadyH.nil
    go_simp
    refine (lk_add_new wh base g wv L { l with other := (x0 : Int), great := 0, bits_ := 0 } HLwh.out rfl rfl).mono ?_
    rintro e wi ⟨rfl, HLwi, hfi⟩
    have HXwi : Hid (Bk wi w.heap.size #[.int .u8 (k : Int), .int .i64 (x0 : Int), .int .i64 (x1 : Int), .int .i64 1, .int .i64 0, .int .i64 0, .int .i64 0, .int .i64 0, .int .i64 0, .int .i64 0, .slice none 0 0, .slice none 0 0] 85) := HXwh.out.fr hfi HGX.out HRN.out
    have HFwi : Hid (Fr w wi g wv) := (((((HFwc.out.trans (Fr.of HBwd.out) trivial).trans (Fr.of HBwe.out) trivial).trans (Fr.of HBwf.out) trivial).trans (Fr.of HBwh.out) trivial).trans hfi trivial)
    clear hfi
    refine hK.out _ _ (HXwi.out.cell 3 rfl) (fun _ => ?_)
    clear hK K
    try simp only [Act.put, List.getElem_toArray, List.getElem_cons_succ, List.getElem_cons_zero, List.setIfInBounds_toArray, List.set_cons_zero, List.set_cons_succ]
    refine wpAnyH_done (by kernel_rfl) ?_ _
    go_wp2
    go_ret
    exact ⟨rfl, HLwi, HFwi.out⟩
end Go.Proofs.YtoijhlnadaipoaaDoor
