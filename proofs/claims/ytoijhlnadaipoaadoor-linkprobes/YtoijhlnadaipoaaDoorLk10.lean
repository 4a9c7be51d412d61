/- Two links, one beside the other; Probe, Alive, Lives. -/
import Derived.Test.YtoijhlnadaipoaaDoorLk9
namespace Go.Proofs.YtoijhlnadaipoaaDoor
open Go.RowKit

/-- What another link's call does leaves a link as it was. -/
theorem LkIn.beside {w w' : World} {b1 g1 b2 g2 : Nat} {v1 v2 : Value} {L1 L2 : List (Wt × Bd)} {l1 l2 : Lk} (h : LkIn w b1 g1 v1 L1 l1) (h2 : LkIn w b2 g2 v2 L2 l2) (hg : g1 ≠ g2) (hv : ∀ k, v1.ownBlock = some k → v2.ownBlock ≠ some k) (hf : Fr w w' g2 v2) : LkIn w' b1 g1 v1 L1 l1 := by
  have hne : ∀ (k : Nat) (cs : Array Value) (t : TypeId) (m : Nat × Nat), w.heap[k]? = some (.cells cs t m) → t ≠ 73 → t ≠ 78 → w'.heap[k]? = some (.cells cs t m) := fun k cs t m hk ht ht2 => by
    rw [hf.blk k (Array.getElem?_eq_some_iff.1 hk).1 (fun e => ?_) (row_type h2.row hk ht2)]
    · exact hk
    · subst e
      have h3 := h2.blk
      unfold Bk at h3
      rw [h3] at hk
      simp only [Option.some.injEq, Obj.cells.injEq] at hk
      exact ht hk.2.1.symm
  refine ⟨h.blk.fr hf hg (row_type h2.row h.blk (by decide)), ⟨h.row.1, ?_⟩, fun x hx => ⟨(h.rest x hx).1, own_kept (h.rest x hx).2 fun k cs m hk => hne k cs _ m hk (by decide) (by decide)⟩, Nat.le_trans h.bg hf.all.size⟩
  rcases h.row.2 with hn | ⟨g', c, cur, hv1, hbg, hgg, r⟩
  · exact .inl hn
  · refine .inr ⟨g', c, cur, hv1, hbg, ?_, r⟩
    rw [hf.blk g' (Array.getElem?_eq_some_iff.1 hgg).1 (fun e => ?_) (fun e => hv g' (by rw [hv1]; rfl) e.symm)]
    · exact hgg
    · subst e
      have h3 := h2.blk
      unfold Bk at h3
      rw [h3] at hgg
      simp only [Option.some.injEq, Obj.cells.injEq] at hgg
      exact absurd hgg.2.1 (by decide)
theorem LkIn.rebase {w : World} {b g : Nat} {l : Lk} (h : LkIn w b g (.slice none 0 0) [] l) : LkIn w w.heap.size g (.slice none 0 0) [] l := ⟨h.blk, World.ownsRow_nil _ _ _ _, fun x hx => (by cases hx), Nat.le_refl _⟩

set_option maxRecDepth 100000 in
set_option maxHeartbeats 1000000 in
theorem lk_Probe_ok (w : World) (base g : Nat) (wv : Value) (L : List (Wt × Bd)) (l : Lk) (h : LkIn w base g wv L l) (hq : (L.length : Int) < l.queue) (hl : L.length ≤ 1000) :
    Calls Tryd.prog 16 #[.pointer (some ⟨g, 0, none⟩)] w fun e w' => e = .returned (.int .i64 0) ∧ Hid (∃ v', LkIn w' base g v' (L ++ [((⟨2, []⟩ : Wt), ((none, 0, 0) : Bd))]) l) ∧ Fr w w' g wv := by
  have HL : Hid (LkIn w base g wv L l) := h
  have HO : Hid (Own w base none 0 0 []) := Own.none_ _ _
  clear h
  go_enter Tryd.func16, Tryd.ntmps16
  go_wp2_with fail
  refine (lk_wait_ok w base g wv L l HL.out 2 (by omega) none 0 0 [] HO.out hq hl).mono ?_
  rintro e w2 ⟨rfl, HL2, hf2⟩
  have HF2 : Hid (Fr w w2 g wv) := hf2
  clear hf2
  go_wp2
  go_ret
  exact ⟨rfl, HL2, HF2.out⟩
set_option maxRecDepth 100000 in
theorem lk_Alive_never (w : World) (base g : Nat) (wv : Value) (L : List (Wt × Bd)) (l : Lk) (h : LkIn w base g wv L l) (hh : l.heard = -1) (x : Int) :
    Calls Tryd.prog 18 #[.pointer (some ⟨g, 0, none⟩), .int .i64 x] w fun e w' => e = .returned (.bool false) ∧ w' = w := by
  have c7 : w.cell? ⟨g, 7, none⟩ = some (.int .i64 (-1)) := by rw [← hh]; exact h.blk.cell 7 rfl
  clear h hh
  go_enter Tryd.func18, Tryd.ntmps18
  go_wp2
  go_ret
  exact ⟨rfl, rfl⟩
set_option maxRecDepth 100000 in
theorem lk_Alive_heard (w : World) (base g : Nat) (wv : Value) (L : List (Wt × Bd)) (l : Lk) (h : LkIn w base g wv L l) (n : Nat) (hn : n ≤ 1099511627776) (hh : l.heard = n) (x : Int) (b : Bool) (hb : decide (x ≤ (n : Int) + 64) = b) :
    Calls Tryd.prog 18 #[.pointer (some ⟨g, 0, none⟩), .int .i64 x] w fun e w' => e = .returned (.bool b) ∧ w' = w := by
  have c7 : w.cell? ⟨g, 7, none⟩ = some (.int .i64 (n : Int)) := by rw [← hh]; exact h.blk.cell 7 rfl
  have q1 : ¬ ((n : Int) = -1) := by omega
  have HBB : Hid (decide (x ≤ (n : Int) + 64) = b) := hb
  clear h hh hb
  go_enter Tryd.func18, Tryd.ntmps18
  go_wp2
  go_ret
  rw [← HBB.out]
  exact ⟨rfl, rfl⟩
set_option maxRecDepth 100000 in
set_option maxHeartbeats 1000000 in
theorem lk_Lives (w : World) (base g : Nat) (wv : Value) (L : List (Wt × Bd)) (l : Lk) (h : LkIn w base g wv L l) :
    Calls Tryd.prog 19 #[.pointer (some ⟨g, 0, none⟩)] w fun e w' => e = .returned (.tuple #[.int .i64 l.life, .int .i64 l.other]) ∧ Below w.heap.size w w' := by
  have HL : Hid (LkIn w base g wv L l) := h
  clear h
  go_enter Tryd.func19, Tryd.ntmps19
  go_wp2
  obtain ⟨wd, HWD⟩ : ∃ wd, Hid (wd = w.drew) := ⟨_, rfl⟩
  have HBd : Hid (Below w.heap.size w wd) := by rw [HWD.out]; exact below_drew (Below.refl _ _)
  have HLd : Hid (LkIn wd base g wv L l) := HL.out.below HBd.out
  refine wp_region_held_drew (S := fun w' => w'.cell? ⟨g, 0, none⟩ = some (.int .i64 l.life) ∧ w'.cell? ⟨g, 1, none⟩ = some (.int .i64 l.other)) (by kernel_rfl) (by rw [← HWD.out]; exact ⟨HLd.out.blk.cell 0 rfl, HLd.out.blk.cell 1 rfl⟩) (fun hHeld => ?_)
  rw [← HWD.out] at hHeld ⊢
  refine take_putH (i := 0) (v := ?_) (some 6) rfl (by kernel_rfl) (by kernel_rfl) (by kernel_rfl) (by kernel_rfl) (fun _ _ _ h => h) (Or.inl ⟨by rfl, ?_⟩) hHeld ?_
  rotate_left
  · (intro w hSw; obtain ⟨z0, z1⟩ := hSw; go_simp; try with_reducible rfl)
  try simp only [Act.put, List.setIfInBounds_toArray, List.set_cons_zero, List.set_cons_succ]
  refine take_putH (i := 1) (v := ?_) (some 7) rfl (by kernel_rfl) (by kernel_rfl) (by kernel_rfl) (by kernel_rfl) (fun _ _ _ h => h) (Or.inl ⟨by rfl, ?_⟩) hHeld ?_
  rotate_left
  · (intro w hSw; obtain ⟨z0, z1⟩ := hSw; go_simp; try with_reducible rfl)
  try simp only [Act.put, List.setIfInBounds_toArray, List.set_cons_zero, List.set_cons_succ]
  refine take_putH (i := 2) (v := ?_) (some 8) rfl (by kernel_rfl) (by kernel_rfl) (by kernel_rfl) (by kernel_rfl) (fun _ _ _ h => h) (Or.inl ⟨by rfl, ?_⟩) hHeld ?_
  rotate_left
  · (intro w hSw; obtain ⟨z0, z1⟩ := hSw; go_simp; try with_reducible rfl)
  try simp only [Act.put, List.setIfInBounds_toArray, List.set_cons_zero, List.set_cons_succ]
  refine take_putH (i := 3) (v := ?_) (some 9) rfl (by kernel_rfl) (by kernel_rfl) (by kernel_rfl) (by kernel_rfl) (fun _ _ _ h => h) (Or.inl ⟨by rfl, ?_⟩) hHeld ?_
  rotate_left
  · (intro w hSw; obtain ⟨z0, z1⟩ := hSw; go_simp; try with_reducible rfl)
  try simp only [Act.put, List.setIfInBounds_toArray, List.set_cons_zero, List.set_cons_succ]
  refine take_putH (i := 4) (v := ?_) (some 10) rfl (by kernel_rfl) (by kernel_rfl) (by kernel_rfl) (by kernel_rfl) (fun _ _ _ h => h) (Or.inl ⟨by rfl, ?_⟩) hHeld ?_
  rotate_left
  · (intro w hSw; obtain ⟨z0, z1⟩ := hSw; go_simp; try with_reducible rfl)
  try simp only [Act.put, List.setIfInBounds_toArray, List.set_cons_zero, List.set_cons_succ]
  refine take_putH (i := 5) (v := ?_) (some 11) rfl (by kernel_rfl) (by kernel_rfl) (by kernel_rfl) (by kernel_rfl) (fun _ _ _ h => h) (Or.inl ⟨by rfl, ?_⟩) hHeld ?_
  rotate_left
  · (intro w hSw; obtain ⟨z0, z1⟩ := hSw; go_simp; try with_reducible rfl)
  try simp only [Act.put, List.setIfInBounds_toArray, List.set_cons_zero, List.set_cons_succ]
  refine take_putH (i := 6) (v := ?_) (some 12) rfl (by kernel_rfl) (by kernel_rfl) (by kernel_rfl) (by kernel_rfl) (fun _ _ _ h => h) (Or.inl ⟨by rfl, ?_⟩) hHeld ?_
  rotate_left
  · (intro w hSw; obtain ⟨z0, z1⟩ := hSw; go_simp; try with_reducible rfl)
  try simp only [Act.put, List.setIfInBounds_toArray, List.set_cons_zero, List.set_cons_succ]
  refine take_putH (i := 7) (v := ?_) (some 13) rfl (by kernel_rfl) (by kernel_rfl) (by kernel_rfl) (by kernel_rfl) (fun _ _ _ h => h) (Or.inl ⟨by rfl, ?_⟩) hHeld ?_
  rotate_left
  · (intro w hSw; obtain ⟨z0, z1⟩ := hSw; go_simp; try with_reducible rfl)
  try simp only [Act.put, List.setIfInBounds_toArray, List.set_cons_zero, List.set_cons_succ]
  refine take_putH (i := 8) (v := ?_) (some 2) rfl (by kernel_rfl) (by kernel_rfl) (by kernel_rfl) (by kernel_rfl) (fun _ _ _ h => h) (Or.inl ⟨by rfl, ?_⟩) hHeld ?_
  rotate_left
  · (intro w hSw; obtain ⟨z0, z1⟩ := hSw; go_simp; try with_reducible rfl)
  try simp only [Act.put, List.setIfInBounds_toArray, List.set_cons_zero, List.set_cons_succ]
  refine take_putH (i := 9) (v := ?_) (some 3) rfl (by kernel_rfl) (by kernel_rfl) (by kernel_rfl) (by kernel_rfl) (fun _ _ _ h => h) (Or.inl ⟨by rfl, ?_⟩) hHeld ?_
  rotate_left
  · (intro w hSw; obtain ⟨z0, z1⟩ := hSw; go_simp; try with_reducible rfl)
  try simp only [Act.put, List.setIfInBounds_toArray, List.set_cons_zero, List.set_cons_succ]
  refine wpAnyH_done (by kernel_rfl) ?_ _
  go_wp2
  go_ret2
  exact ⟨rfl, HBd.out⟩
end Go.Proofs.YtoijhlnadaipoaaDoor
