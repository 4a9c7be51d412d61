/- A link in memory; wait; slices.Delete of its first content. -/
import Derived.Test.YtoijhlnadaipoaaDoorLk1
import Derived.Test.YtoijhlnadaipoaaDoorItM
import Derived.Deep.DeepAppendRoom
import Derived.Lib.SliceRun
namespace Go.Proofs.YtoijhlnadaipoaaDoor
open Go.RowKit

/-- What waits: a kind, and bytes. -/
structure Wt where
  kind : Nat
  rest : List Nat
def wcell (x : Wt × Bd) : List Value := [.int .u8 (x.1.kind : Int), .slice x.2.1 x.2.2.1 x.2.2.2]
def wrow (L : List (Wt × Bd)) : List Value := L.flatMap wcell
theorem wrow_len : ∀ L : List (Wt × Bd), (wrow L).length = L.length * 2
  | [] => rfl
  | x :: L => by rw [wrow, List.flatMap_cons, List.length_append, List.length_cons]; have := wrow_len L; rw [wrow] at this; rw [this]; simp [wcell]; omega
theorem wcell_one (x : Wt × Bd) : ∀ u ∈ wcell x, u.oneCell' = true := by
  intro u hu
  simp only [wcell, List.mem_cons, List.not_mem_nil, or_false] at hu
  rcases hu with rfl | rfl <;> rfl
theorem wrow_one (L : List (Wt × Bd)) : ∀ u ∈ wrow L, u.oneCell' = true := by
  intro u hu
  obtain ⟨x, _, hx⟩ := List.mem_flatMap.1 hu
  exact wcell_one x u hx
/-- A link: its numbers. -/
structure Lk where
  life : Int
  other : Int
  last : Int
  queue : Int
  great : Int
  bits_ : Nat
  heard : Int
def Lk.cells (l : Lk) (wv : Value) : Array Value := #[.int .i64 l.life, .int .i64 l.other, .int .i64 l.last, .int .i64 l.queue, wv, .int .i64 l.great, .int .u64 (l.bits_ : Int), .int .i64 l.heard]
/-- A link in memory. -/
structure LkIn (w : World) (base g : Nat) (wv : Value) (L : List (Wt × Bd)) (l : Lk) : Prop where
  blk : Bk w g (l.cells wv) 73
  row : w.ownsRow base 78 2 wv L.length (wrow L)
  rest : ∀ x ∈ L, x.1.kind < 256 ∧ Own w base x.2.1 x.2.2.1 x.2.2.2 x.1.rest
  bg : base ≤ w.heap.size
/-- All blocks stay but a link's own and its row. -/
structure Fr (w w' : World) (g : Nat) (v : Value) : Prop where
  all : Below 0 w w'
  blk : ∀ k, k < w.heap.size → k ≠ g → some k ≠ v.ownBlock → w'.heap[k]? = w.heap[k]?
theorem Fr.of {w w' : World} {g : Nat} {v : Value} (h : Below w.heap.size w w') : Fr w w' g v := ⟨h.mono (Nat.zero_le _), fun k hk _ _ => h.block k hk⟩
theorem Fr.grown {w w' : World} {g : Nat} {v : Value} (h : w.grownBy w' v.ownBlock) : Fr w w' g v := ⟨⟨h.os, h.tape, h.output, h.size, fun k hk => absurd hk (Nat.not_lt_zero k)⟩, fun k hk _ h4 => h.block k hk h4⟩
theorem Fr.trans {w w1 w2 : World} {g : Nat} {v : Value} (h : Fr w w1 g v) (h2 : Fr w1 w2 g v) (_ : True) : Fr w w2 g v := ⟨h.all.trans h2.all, fun k hk h3 h4 => (h2.blk k (Nat.lt_of_lt_of_le hk h.all.size) h3 h4).trans (h.blk k hk h3 h4)⟩
theorem Fr.set {w w' : World} {g i : Nat} {v u : Value} (h : Fr w w' g v) : Fr w (w'.setCell ⟨g, i, none⟩ u) g v := ⟨h.all.setCell (Nat.zero_le _) u, fun k hk h3 h4 => (heap_setCell_other w' ⟨g, i, none⟩ k u h3).trans (h.blk k hk h3 h4)⟩
theorem LkIn.below {w w' : World} {base g : Nat} {wv : Value} {L : List (Wt × Bd)} {l : Lk} (h : LkIn w base g wv L l) (hb : Below w.heap.size w w') : LkIn w' base g wv L l := by
  refine ⟨h.blk.stay hb, ⟨h.row.1, ?_⟩, fun x hx => ⟨(h.rest x hx).1, (h.rest x hx).2.below hb⟩, Nat.le_trans h.bg hb.size⟩
  rcases h.row.2 with hn | ⟨g', c, cur, hv, hbg, hg, r⟩
  · exact .inl hn
  · exact .inr ⟨g', c, cur, hv, hbg, by rw [hb.block g' (Array.getElem?_eq_some_iff.1 hg).1]; exact hg, r⟩
theorem row_slice {w : World} {base T s : Nat} {v : Value} {m : Nat} {xs : List Value} (h : w.ownsRow base T s v m xs) : ∃ a n c, v = .slice a n c := by
  rcases h.2 with ⟨hv, _⟩ | ⟨g, c, cur, hv, _⟩
  · exact ⟨_, _, _, hv⟩
  · exact ⟨_, _, _, hv⟩
theorem row_len {w : World} {base T s : Nat} {a : Option Addr} {n c : Nat} {m : Nat} {xs : List Value} (h : w.ownsRow base T s (.slice a n c) m xs) : n = m ∧ m ≤ c ∧ c ≤ maxLen := by
  rcases h.2 with ⟨hv, h0⟩ | ⟨g, c', cur, hv, _, _, h1, h2, _⟩
  · simp only [Value.slice.injEq] at hv; exact ⟨by omega, by omega, by omega⟩
  · simp only [Value.slice.injEq] at hv; exact ⟨by omega, by omega, by omega⟩
theorem row_type {w : World} {base T s : Nat} {v : Value} {m : Nat} {xs : List Value} (h : w.ownsRow base T s v m xs) {k : Nat} {cs : Array Value} {t : TypeId} {mk : Nat × Nat} (hk : w.heap[k]? = some (.cells cs t mk)) (ht : t ≠ T) : some k ≠ v.ownBlock := by
  rcases h.2 with ⟨hv, _⟩ | ⟨g, c, cur, hv, _, hg, _⟩
  · rw [hv]; intro e; cases e
  · rw [hv]
    intro e
    simp only [Value.ownBlock, Option.some.injEq] at e
    rw [e, hg] at hk
    simp only [Option.some.injEq, Obj.cells.injEq] at hk
    exact ht hk.2.1.symm
theorem LkIn.blk_grown {w w' : World} {base g : Nat} {wv : Value} {L : List (Wt × Bd)} {l : Lk} (h : LkIn w base g wv L l) (hg : w.grownBy w' wv.ownBlock) : Bk w' g (l.cells wv) 73 := h.blk.grown hg (row_type h.row h.blk (by decide))
theorem cells_set (l : Lk) (v v' : Value) : (l.cells v).setIfInBounds 4 v' = l.cells v' := rfl
theorem own_kept {w w' : World} {base : Nat} {a : Option Addr} {n c : Nat} {bs : List Nat} (h : Own w base a n c bs) (hf : ∀ (k : Nat) (cs : Array Value) (m : Nat × Nat), w.heap[k]? = some (.cells cs 5 m) → w'.heap[k]? = some (.cells cs 5 m)) : Own w' base a n c bs := own_frame h fun k cs m _ hk => hf k cs m hk
theorem LkIn.grown {w w' : World} {base g : Nat} {wv v' : Value} {L : List (Wt × Bd)} {l : Lk} (h : LkIn w base g wv L l) {x : Wt} {b : Bd} (hk : x.kind < 256) (ho : Own w base b.1 b.2.1 b.2.2 x.rest) (hr : w'.ownsRow base 78 2 v' (L.length + 1) (wrow L ++ wcell (x, b))) (hg : w.grownBy w' wv.ownBlock) : LkIn (w'.setCell ⟨g, 4, none⟩ v') base g v' (L ++ [(x, b)]) l := by
  have hb := h.blk_grown hg
  have hf : ∀ (k : Nat) (cs : Array Value) (m : Nat × Nat), w.heap[k]? = some (.cells cs 5 m) → (w'.setCell ⟨g, 4, none⟩ v').heap[k]? = some (.cells cs 5 m) := fun k cs m hkk => by
    have h1 : w'.heap[k]? = some (.cells cs 5 m) := by
      rw [hg.block k (Array.getElem?_eq_some_iff.1 hkk).1 (row_type h.row hkk (by decide))]
      exact hkk
    rw [heap_setCell_other w' ⟨g, 4, none⟩ k _ (fun e => ?_)]
    · exact h1
    · simp only at e
      subst e
      unfold Bk at hb
      rw [hb] at h1
      simp only [Option.some.injEq, Obj.cells.injEq] at h1
      exact absurd h1.2.1 (by decide)
  refine ⟨?_, ?_, fun y hy => ?_, by simpa using Nat.le_trans h.bg hg.size⟩
  · have := hb.set 4 v'
    rw [cells_set] at this
    exact this
  · have h2 : wrow (L ++ [(x, b)]) = wrow L ++ wcell (x, b) := by simp [wrow]
    rw [h2, List.length_append]
    refine ⟨hr.1, ?_⟩
    rcases hr.2 with hn | ⟨g', c, cur, hv, hbg, hgg, r⟩
    · exact .inl hn
    · refine .inr ⟨g', c, cur, hv, hbg, ?_, r⟩
      rw [heap_setCell_other w' ⟨g, 4, none⟩ g' _ (fun e => ?_)]
      · exact hgg
      · simp only at e
        subst e
        unfold Bk at hb
        rw [hb] at hgg
        simp only [Option.some.injEq, Obj.cells.injEq] at hgg
        exact absurd hgg.2.1 (by decide)
  · rcases List.mem_append.1 hy with hy | hy
    · exact ⟨(h.rest y hy).1, own_kept (h.rest y hy).2 hf⟩
    · obtain rfl := List.mem_singleton.1 hy
      exact ⟨hk, own_kept ho hf⟩
theorem infoContent : (Tryd.prog.info? 78).map (fun i => (i.zero, i.size, i.bytes)) = some (some (.agg #[.int .u8 0, .slice none 0 0]), 2, 32) := by kernel_rfl
theorem wt_told {w : World} {g : Nat} {x : Wt} {b : Bd} (h : Bk w g #[.int .u8 (x.kind : Int), .slice b.1 b.2.1 b.2.2] 78) : ∀ j u, (wcell (x, b))[j]? = some u → w.cell? ((⟨g, 0, none⟩ : Addr).add j) = some u := by
  intro j u hj
  have := h.cell j (v := u) (by simpa [wcell] using hj)
  by_cases h0 : j = 0
  · subst h0
    simpa [Addr.add] using this
  · simpa [Addr.add, h0] using this
theorem step_append_wt {w : World} {ops : Array Oper} {o : Oper} {act : Act} {K : Act → World → Prop} {Q : Exit → Act → World → Prop} {E : Prop} (hgd : o.guard = none) (s x : Operand)
    (ho : o.op = .call { callee := .builtin .append, args := #[s, x], argTypes := #[69, 69] })
    (base : Nat) (v : Value) (L : List (Wt × Bd)) (hs : act.eval s = v) (hown : w.ownsRow base 78 2 v L.length (wrow L)) (ad : Addr) (c : Nat) (q : Wt) (b : Bd) (hx : act.eval x = .slice (some ad) 1 c) (hnews : ∀ j u, (wcell (q, b))[j]? = some u → w.cell? (ad.add j) = some u)
    (hl : L.length ≤ 1000000) (hbase : base ≤ w.heap.size)
    (h : ∀ v' w', w'.ownsRow base 78 2 v' (L.length + 1) (wrow L ++ wcell (q, b)) → w.grownBy w' v.ownBlock → K (act.put o.dst v') w') : if Region.wanted o (yielded ops act.tmps) = true then Oper.wp Tryd.prog o act w K Q else E := by
  rw [if_pos (by simp [Region.wanted, hgd])]
  obtain ⟨i0, hi, hz0, hz1, hz2⟩ := info_parts infoContent
  exact wp_append_own w s x 69 ho base 78 i0 (.agg #[.int .u8 0, .slice none 0 0]) 2 32 Tryd.underlying69 hi hz0 hz1 hz2 (by rfl) (by decide) v L.length (wrow L) hs hown ad 1 c (wcell (q, b)) hx (by rfl) hnews (wcell_one (q, b)) (by unfold maxLen; omega) (by omega) hbase fun v' w' h1 h2 _ => h v' w' h1 h2
theorem cell_far7 (w : World) (g i : Nat) (v : Value) (k j : Nat) (h : k ≠ g) : (w.setCell ⟨g, i, none⟩ v).cell? ⟨k, j, none⟩ = w.cell? ⟨k, j, none⟩ := by
  simp only [World.cell?, heap_setCell_other w ⟨g, i, none⟩ k v h]

set_option maxRecDepth 100000 in
set_option maxHeartbeats 4000000 in
theorem lk_wait_ok (w : World) (base g : Nat) (wv : Value) (L : List (Wt × Bd)) (l : Lk) (h : LkIn w base g wv L l) (kd : Nat) (hkd : kd < 256) (a : Option Addr) (n c : Nat) (rest : List Nat) (ho : Own w base a n c rest) (hq : (L.length : Int) < l.queue) (hl : L.length ≤ 1000) :
    Calls Tryd.prog 22 #[.pointer (some ⟨g, 0, none⟩), .agg #[.int .u8 (kd : Int), .slice a n c]] w fun e w' => e = .returned (.int .i64 0) ∧ Hid (∃ v', LkIn w' base g v' (L ++ [(⟨kd, rest⟩, (a, n, c))]) l) ∧ Fr w w' g wv := by
  obtain ⟨va, vn, vc, rfl⟩ := row_slice h.row
  obtain ⟨hvn, hvc, hvm⟩ := row_len h.row
  unfold maxLen at hvm
  have HL : Hid (LkIn w base g (.slice va vn vc) L l) := h
  obtain ⟨W0, HW0⟩ : ∃ W0, Hid (W0 = w.alloc (.cells #[.int .u8 (kd : Int), .slice a n c] 78)) := ⟨_, rfl⟩
  have hb0 : Below w.heap.size w W0 := by rw [HW0.out]; exact below_new _ _
  have HX0 : Hid (Bk W0 w.heap.size #[.int .u8 (kd : Int), .slice a n c] 78) := by rw [HW0.out]; exact Bk.new _ _ _
  have HL0 : Hid (LkIn W0 base g (.slice va vn vc) L l) := h.below hb0
  have HO0 : Hid (Own W0 base a n c rest) := ho.below hb0
  have HF0 : Hid (Fr w W0 g (.slice va vn vc)) := Fr.of hb0
  have HGX : Hid (w.heap.size ≠ g) := by have := h.blk.lt; show _ ≠ _; omega
  have HRN : Hid (some w.heap.size ≠ Value.ownBlock (.slice va vn vc)) := by
    intro e
    have := (h.row.lt w.heap.size e.symm).2
    omega
  have HBS : Hid (base ≤ w.heap.size) := h.bg
  have hlq : ¬ l.queue ≤ (vn : Int) := by omega
  have hge : decide (l.queue ≤ (vn : Int)) = false := by simpa using hlq
  have hll : L.length ≤ 1000000 := by omega
  have HVN : Hid (vn = L.length) := hvn
  clear h ho hb0 hvn
  go_enter Tryd.func22, Tryd.ntmps22
  go_wp2
  rw [← HW0.out]
  refine wp_region_held_drew (S := fun w' => w'.cell? ⟨g, 4, none⟩ = some (.slice va vn vc) ∧ w'.cell? ⟨g, 3, none⟩ = some (.int .i64 l.queue)) (by kernel_rfl) ⟨HL0.out.blk.cell 4 rfl, HL0.out.blk.cell 3 rfl⟩ (fun hHeld => ?_)
  obtain ⟨wc, HWC⟩ : ∃ wc, Hid (wc = W0.drew) := ⟨_, rfl⟩
  rw [← HWC.out] at hHeld ⊢
  refine take_putH (i := 0) (v := ?_) (some 5) rfl (by kernel_rfl) (by kernel_rfl) (by kernel_rfl) (by kernel_rfl) (fun _ _ _ h => h) (Or.inl ⟨by rfl, ?_⟩) hHeld ?_
  rotate_left
  · (intro w hSw; obtain ⟨z0, z1⟩ := hSw; go_simp; try with_reducible rfl)
  try simp only [Act.put, List.setIfInBounds_toArray, List.set_cons_zero, List.set_cons_succ]
  refine take_putH (i := 1) (v := ?_) (some 6) rfl (by kernel_rfl) (by kernel_rfl) (by kernel_rfl) (by kernel_rfl) (fun _ _ _ h => h) (Or.inl ⟨by rfl, ?_⟩) hHeld ?_
  rotate_left
  · (intro w hSw; obtain ⟨z0, z1⟩ := hSw; go_simp; try with_reducible rfl)
  try simp only [Act.put, List.setIfInBounds_toArray, List.set_cons_zero, List.set_cons_succ]
  refine take_putH (i := 2) (v := ?_) (some 7) rfl (by kernel_rfl) (by kernel_rfl) (by kernel_rfl) (by kernel_rfl) (fun _ _ _ h => h) (Or.inl ⟨by rfl, ?_⟩) hHeld ?_
  rotate_left
  · (intro w hSw; obtain ⟨z0, z1⟩ := hSw; go_simp; try with_reducible rfl)
  try simp only [Act.put, List.setIfInBounds_toArray, List.set_cons_zero, List.set_cons_succ]
  refine take_putH (i := 3) (v := ?_) (some 8) rfl (by kernel_rfl) (by kernel_rfl) (by kernel_rfl) (by kernel_rfl) (fun _ _ _ h => h) (Or.inl ⟨by rfl, ?_⟩) hHeld ?_
  rotate_left
  · (intro w hSw; obtain ⟨z0, z1⟩ := hSw; go_simp; try with_reducible rfl)
  try simp only [Act.put, List.setIfInBounds_toArray, List.set_cons_zero, List.set_cons_succ]
  refine take_putH (i := 4) (v := ?_) (some 9) rfl (by kernel_rfl) (by kernel_rfl) (by kernel_rfl) (by kernel_rfl) (fun _ _ _ h => h) (Or.inl ⟨by rfl, ?_⟩) hHeld ?_
  rotate_left
  · (intro w hSw; obtain ⟨z0, z1⟩ := hSw; go_simp; try with_reducible rfl)
  try simp only [Act.put, List.setIfInBounds_toArray, List.set_cons_zero, List.set_cons_succ]
  refine take_putH (i := 5) (v := ?_) (some 10) rfl (by kernel_rfl) (by kernel_rfl) (by kernel_rfl) (by kernel_rfl) (fun _ _ _ h => h) (Or.inl ⟨by rfl, ?_⟩) hHeld ?_
  rotate_left
  · (intro w hSw; obtain ⟨z0, z1⟩ := hSw; go_simp; try with_reducible rfl)
  try simp only [Act.put, List.setIfInBounds_toArray, List.set_cons_zero, List.set_cons_succ]
  refine take_putH (i := 6) (v := ?_) (some 11) rfl (by kernel_rfl) (by kernel_rfl) (by kernel_rfl) (by kernel_rfl) (fun _ _ _ h => h) (Or.inl ⟨by rfl, ?_⟩) hHeld ?_
  rotate_left
  · (intro w hSw; obtain ⟨z0, z1⟩ := hSw; go_simp; try with_reducible rfl)
  try simp only [Act.put, List.setIfInBounds_toArray, List.set_cons_zero, List.set_cons_succ]
  refine take_putH (i := 7) (v := ?_) (some 12) rfl (by kernel_rfl) (by kernel_rfl) (by kernel_rfl) (by kernel_rfl) (fun _ _ _ h => h) (Or.inl ⟨by rfl, ?_⟩) hHeld ?_
  rotate_left
  · (intro w hSw; obtain ⟨z0, z1⟩ := hSw; go_simp; try with_reducible rfl)
  try simp only [Act.put, List.setIfInBounds_toArray, List.set_cons_zero, List.set_cons_succ]
  refine take_putH (i := 8) (v := ?_) (some 13) rfl (by kernel_rfl) (by kernel_rfl) (by kernel_rfl) (by kernel_rfl) (fun _ _ _ h => h) (Or.inl ⟨by rfl, ?_⟩) hHeld ?_
  rotate_left
  · (intro w hSw; obtain ⟨z0, z1⟩ := hSw; go_simp; try with_reducible rfl)
  try simp only [Act.put, List.setIfInBounds_toArray, List.set_cons_zero, List.set_cons_succ]
  refine take_putH (i := 9) (v := ?_) (some 14) rfl (by kernel_rfl) (by kernel_rfl) (by kernel_rfl) (by kernel_rfl) (fun _ _ _ h => h) (Or.inl ⟨by rfl, ?_⟩) hHeld ?_
  rotate_left
  · (intro w hSw; obtain ⟨z0, z1⟩ := hSw; go_simp; try with_reducible rfl)
  try simp only [Act.put, List.setIfInBounds_toArray, List.set_cons_zero, List.set_cons_succ]
  refine wpAnyH_done (by kernel_rfl) ?_ _
  clear hHeld
  go_wp2
  obtain ⟨wd, HWD⟩ : ∃ wd, Hid (wd = wc.drew) := ⟨_, rfl⟩
  have hbd : Below W0.heap.size W0 wd := by rw [HWD.out, HWC.out]; exact below_drew (below_drew (Below.refl _ _))
  have HXd : Hid (Bk wd w.heap.size #[.int .u8 (kd : Int), .slice a n c] 78) := HX0.out.stay hbd
  have HLd : Hid (LkIn wd base g (.slice va vn vc) L l) := HL0.out.below hbd
  have HOd : Hid (Own wd base a n c rest) := HO0.out.below hbd
  have HFd : Hid (Fr w wd g (.slice va vn vc)) := HF0.out.trans (Fr.of hbd) trivial
  have HSd : Hid True := trivial
  have HBS6 : Hid (∀ w', Below 0 wd w' → base ≤ w'.heap.size) := fun w' hb => Nat.le_trans HBS.out (Nat.le_trans HFd.out.all.size hb.size)
  refine wp_region_held_drew (S := fun w' => w'.cell? ⟨w.heap.size, 0, none⟩ = some (.int .u8 (kd : Int)) ∧ w'.cell? ⟨w.heap.size, 1, none⟩ = some (.slice a n c)) (by kernel_rfl) (by rw [← HWD.out]; exact ⟨HXd.out.cell 0 rfl, HXd.out.cell 1 rfl⟩) (fun hHeld => ?_)
  rw [← HWD.out] at hHeld ⊢
  clear hbd HWD HWC HW0
  refine take_putH (i := 0) (v := ?_) (some 15) rfl (by kernel_rfl) (by kernel_rfl) (by kernel_rfl) (by kernel_rfl) (fun _ _ _ h => h) (Or.inl ⟨by rfl, ?_⟩) hHeld ?_
  rotate_left
  · (intro w hSw; obtain ⟨z0, z1⟩ := hSw; go_simp; try with_reducible rfl)
  try simp only [Act.put, List.setIfInBounds_toArray, List.set_cons_zero, List.set_cons_succ]
  refine take_putH (i := 1) (v := ?_) (some 16) rfl (by kernel_rfl) (by kernel_rfl) (by kernel_rfl) (by kernel_rfl) (fun _ _ _ h => h) (Or.inl ⟨by rfl, ?_⟩) hHeld ?_
  rotate_left
  · (intro w hSw; obtain ⟨z0, z1⟩ := hSw; go_simp; try with_reducible rfl)
  try simp only [Act.put, List.setIfInBounds_toArray, List.set_cons_zero, List.set_cons_succ]
  refine take_putH (i := 2) (v := ?_) (some 17) rfl (by kernel_rfl) (by kernel_rfl) (by kernel_rfl) (by kernel_rfl) (fun _ _ _ h => h) (Or.inl ⟨by rfl, ?_⟩) hHeld ?_
  rotate_left
  · (intro w hSw; obtain ⟨z0, z1⟩ := hSw; go_simp; try with_reducible rfl)
  try simp only [Act.put, List.setIfInBounds_toArray, List.set_cons_zero, List.set_cons_succ]
  refine take_putH (i := 3) (v := ?_) (some 18) rfl (by kernel_rfl) (by kernel_rfl) (by kernel_rfl) (by kernel_rfl) (fun _ _ _ h => h) (Or.inl ⟨by rfl, ?_⟩) hHeld ?_
  rotate_left
  · (intro w hSw; obtain ⟨z0, z1⟩ := hSw; go_simp; try with_reducible rfl)
  try simp only [Act.put, List.setIfInBounds_toArray, List.set_cons_zero, List.set_cons_succ]
  refine take_putH (i := 5) (v := ?_) (some 20) rfl (by kernel_rfl) (by kernel_rfl) (by kernel_rfl) (by kernel_rfl) (fun _ _ _ h => h) (Or.inl ⟨by rfl, ?_⟩) hHeld ?_
  rotate_left
  · (intro w hSw; obtain ⟨z0, z1⟩ := hSw; go_simp; try with_reducible rfl)
  try simp only [Act.put, List.setIfInBounds_toArray, List.set_cons_zero, List.set_cons_succ]
  have hH0 : Hid (wd.cell? ⟨w.heap.size, 0, none⟩ = some (.int .u8 (kd : Int)) ∧ wd.cell? ⟨w.heap.size, 1, none⟩ = some (.slice a n c)) := hHeld
  clear hHeld
  refine wpAnyH_ready (rs := [4, 6]) (by kernel_rfl) (by simp) ?_
  refine AllReadyH.cons rfl (fun K hK => ?_) (AllReadyH.cons rfl (fun K hK => ?_) AllReadyH.nil)
  · have cl : wd.cell? ⟨g, 4, none⟩ = some (.slice va vn vc) := HLd.out.blk.cell 4 rfl
    go_simp
    clear cl
    refine hK.out _ _ hH0.out (fun _ => ?_)
    clear hK K
    try simp only [Act.put, List.getElem_toArray, List.getElem_cons_succ, List.getElem_cons_zero, List.setIfInBounds_toArray, List.set_cons_zero, List.set_cons_succ]
    refine wpAnyH_ready (rs := [6]) (by kernel_rfl) (by simp) ?_
    refine AllReadyH.cons rfl (fun K hK => ?_) AllReadyH.nil
    go_simp
    obtain ⟨w6, HW6⟩ : ∃ w6, Hid (w6 = wd.alloc (.cells #[.int .u8 (kd : Int), .slice a n c] 78)) := ⟨_, rfl⟩
    rw [← HW6.out]
    have hb6 : Below wd.heap.size wd w6 := by rw [HW6.out]; exact below_new _ _
    have HN6 : Hid (Bk w6 wd.heap.size #[.int .u8 (kd : Int), .slice a n c] 78) := by rw [HW6.out]; exact Bk.new _ _ _
    have HL6 : Hid (LkIn w6 base g (.slice va vn vc) L l) := HLd.out.below hb6
    have hH6 : Hid (w6.cell? ⟨w.heap.size, 0, none⟩ = some (.int .u8 (kd : Int)) ∧ w6.cell? ⟨w.heap.size, 1, none⟩ = some (.slice a n c)) := ⟨(HXd.out.stay hb6).cell 0 rfl, (HXd.out.stay hb6).cell 1 rfl⟩
    have HO6 : Hid (Own w6 base a n c rest) := HOd.out.below hb6
    have HX6 : Hid (Bk w6 w.heap.size #[.int .u8 (kd : Int), .slice a n c] 78) := HXd.out.stay hb6
    have HF6 : Hid (Fr w w6 g (.slice va vn vc)) := HFd.out.trans (Fr.of hb6) trivial
    clear hb6
    refine hK.out _ _ hH6.out (fun _ => ?_)
    clear hK K
    try simp only [Act.put, List.getElem_toArray, List.getElem_cons_succ, List.getElem_cons_zero, List.setIfInBounds_toArray, List.set_cons_zero, List.set_cons_succ]
    refine wpAnyH_ready (rs := [7]) (by kernel_rfl) (by simp) ?_
    refine AllReadyH.cons rfl (fun K hK => ?_) AllReadyH.nil
    refine step_append_wt rfl (.tmp 19) (.tmp 21) rfl base (.slice va vn vc) L rfl HL6.out.row ⟨wd.heap.size, 0, none⟩ 1 ⟨kd, rest⟩ (a, n, c) rfl (wt_told HN6.out) (by omega) (HBS6.out _ (by rw [HW6.out]; exact (below_new _ _).mono (Nat.zero_le _))) ?_
    intro v7 w7 hr7 hg7
    obtain ⟨va7, vn7, vc7, rfl⟩ := row_slice hr7
    have HL7 : Hid (LkIn (w7.setCell ⟨g, 4, none⟩ (.slice va7 vn7 vc7)) base g (.slice va7 vn7 vc7) (L ++ [(⟨kd, rest⟩, (a, n, c))]) l) := HL6.out.grown hkd HO6.out hr7 hg7
    have HK7 : Hid (Bk w7 g (l.cells (.slice va vn vc)) 73) := HL6.out.blk_grown hg7
    have HX7 : Hid (Bk w7 w.heap.size #[.int .u8 (kd : Int), .slice a n c] 78) := HX6.out.grown hg7 HRN.out
    have hH7 : Hid (w7.cell? ⟨w.heap.size, 0, none⟩ = some (.int .u8 (kd : Int)) ∧ w7.cell? ⟨w.heap.size, 1, none⟩ = some (.slice a n c)) := ⟨HX7.out.cell 0 rfl, HX7.out.cell 1 rfl⟩
    have HF7 : Hid (Fr w w7 g (.slice va vn vc)) := HF6.out.trans (Fr.grown hg7) trivial
    clear hr7 hg7
    refine hK.out _ _ hH7.out (fun _ => ?_)
    clear hK K
    try simp only [Act.put, List.getElem_toArray, List.getElem_cons_succ, List.getElem_cons_zero, List.setIfInBounds_toArray, List.set_cons_zero, List.set_cons_succ]
    refine take_putH (i := 8) (v := ?_) (some 23) rfl (by kernel_rfl) (by kernel_rfl) (by kernel_rfl) (by kernel_rfl) (fun _ _ _ h => h) (Or.inl ⟨by rfl, ?_⟩) hH7.out ?_
    rotate_left
    · (intro w hSw; obtain ⟨z0, z1⟩ := hSw; go_simp; try with_reducible rfl)
    try simp only [Act.put, List.setIfInBounds_toArray, List.set_cons_zero, List.set_cons_succ]
    refine take_putH (i := 9) (v := ?_) (some 24) rfl (by kernel_rfl) (by kernel_rfl) (by kernel_rfl) (by kernel_rfl) (fun _ _ _ h => h) (Or.inl ⟨by rfl, ?_⟩) hH7.out ?_
    rotate_left
    · (intro w hSw; obtain ⟨z0, z1⟩ := hSw; go_simp; try with_reducible rfl)
    try simp only [Act.put, List.setIfInBounds_toArray, List.set_cons_zero, List.set_cons_succ]
    have b4 : w7.cell? ⟨g, 4, none⟩ = some (.slice va vn vc) := HK7.out.cell 4 rfl
    have f4 : w7.frozen? ⟨g, 4, none⟩ = false := HK7.out.free 4
    have hH8 : Hid ((w7.setCell ⟨g, 4, none⟩ (.slice va7 vn7 vc7)).cell? ⟨w.heap.size, 0, none⟩ = some (.int .u8 (kd : Int)) ∧ (w7.setCell ⟨g, 4, none⟩ (.slice va7 vn7 vc7)).cell? ⟨w.heap.size, 1, none⟩ = some (.slice a n c)) := ⟨(cell_far7 w7 g 4 _ _ 0 HGX.out).trans hH7.out.1, (cell_far7 w7 g 4 _ _ 1 HGX.out).trans hH7.out.2⟩
    refine wpAnyH_ready (rs := [10]) (by kernel_rfl) (by simp) ?_
    refine AllReadyH.cons rfl (fun K hK => ?_) AllReadyH.nil
    go_simp
    refine hK.out _ _ hH8.out (fun _ => ?_)
    clear hK K
    try simp only [Act.put, List.getElem_toArray, List.getElem_cons_succ, List.getElem_cons_zero, List.setIfInBounds_toArray, List.set_cons_zero, List.set_cons_succ]
    refine wpAnyH_done (by kernel_rfl) ?_ _
    clear b4 f4 hH0 hH6 hH7 hH8
    go_wp2
    go_ret
    exact ⟨rfl, ⟨_, HL7.out⟩, HF7.out.set⟩
  · go_simp
    obtain ⟨w6, HW6⟩ : ∃ w6, Hid (w6 = wd.alloc (.cells #[.int .u8 (kd : Int), .slice a n c] 78)) := ⟨_, rfl⟩
    rw [← HW6.out]
    have hb6 : Below wd.heap.size wd w6 := by rw [HW6.out]; exact below_new _ _
    have HN6 : Hid (Bk w6 wd.heap.size #[.int .u8 (kd : Int), .slice a n c] 78) := by rw [HW6.out]; exact Bk.new _ _ _
    have HL6 : Hid (LkIn w6 base g (.slice va vn vc) L l) := HLd.out.below hb6
    have hH6 : Hid (w6.cell? ⟨w.heap.size, 0, none⟩ = some (.int .u8 (kd : Int)) ∧ w6.cell? ⟨w.heap.size, 1, none⟩ = some (.slice a n c)) := ⟨(HXd.out.stay hb6).cell 0 rfl, (HXd.out.stay hb6).cell 1 rfl⟩
    have HO6 : Hid (Own w6 base a n c rest) := HOd.out.below hb6
    have HX6 : Hid (Bk w6 w.heap.size #[.int .u8 (kd : Int), .slice a n c] 78) := HXd.out.stay hb6
    have HF6 : Hid (Fr w w6 g (.slice va vn vc)) := HFd.out.trans (Fr.of hb6) trivial
    clear hb6
    refine hK.out _ _ hH6.out (fun _ => ?_)
    clear hK K
    try simp only [Act.put, List.getElem_toArray, List.getElem_cons_succ, List.getElem_cons_zero, List.setIfInBounds_toArray, List.set_cons_zero, List.set_cons_succ]
    refine wpAnyH_ready (rs := [4]) (by kernel_rfl) (by simp) ?_
    refine AllReadyH.cons rfl (fun K hK => ?_) AllReadyH.nil
    have cl : w6.cell? ⟨g, 4, none⟩ = some (.slice va vn vc) := HL6.out.blk.cell 4 rfl
    go_simp
    clear cl
    refine hK.out _ _ hH6.out (fun _ => ?_)
    clear hK K
    try simp only [Act.put, List.getElem_toArray, List.getElem_cons_succ, List.getElem_cons_zero, List.setIfInBounds_toArray, List.set_cons_zero, List.set_cons_succ]
    refine wpAnyH_ready (rs := [7]) (by kernel_rfl) (by simp) ?_
    refine AllReadyH.cons rfl (fun K hK => ?_) AllReadyH.nil
    refine step_append_wt rfl (.tmp 19) (.tmp 21) rfl base (.slice va vn vc) L rfl HL6.out.row ⟨wd.heap.size, 0, none⟩ 1 ⟨kd, rest⟩ (a, n, c) rfl (wt_told HN6.out) (by omega) (HBS6.out _ (by rw [HW6.out]; exact (below_new _ _).mono (Nat.zero_le _))) ?_
    intro v7 w7 hr7 hg7
    obtain ⟨va7, vn7, vc7, rfl⟩ := row_slice hr7
    have HL7 : Hid (LkIn (w7.setCell ⟨g, 4, none⟩ (.slice va7 vn7 vc7)) base g (.slice va7 vn7 vc7) (L ++ [(⟨kd, rest⟩, (a, n, c))]) l) := HL6.out.grown hkd HO6.out hr7 hg7
    have HK7 : Hid (Bk w7 g (l.cells (.slice va vn vc)) 73) := HL6.out.blk_grown hg7
    have HX7 : Hid (Bk w7 w.heap.size #[.int .u8 (kd : Int), .slice a n c] 78) := HX6.out.grown hg7 HRN.out
    have hH7 : Hid (w7.cell? ⟨w.heap.size, 0, none⟩ = some (.int .u8 (kd : Int)) ∧ w7.cell? ⟨w.heap.size, 1, none⟩ = some (.slice a n c)) := ⟨HX7.out.cell 0 rfl, HX7.out.cell 1 rfl⟩
    have HF7 : Hid (Fr w w7 g (.slice va vn vc)) := HF6.out.trans (Fr.grown hg7) trivial
    clear hr7 hg7
    refine hK.out _ _ hH7.out (fun _ => ?_)
    clear hK K
    try simp only [Act.put, List.getElem_toArray, List.getElem_cons_succ, List.getElem_cons_zero, List.setIfInBounds_toArray, List.set_cons_zero, List.set_cons_succ]
    refine take_putH (i := 8) (v := ?_) (some 23) rfl (by kernel_rfl) (by kernel_rfl) (by kernel_rfl) (by kernel_rfl) (fun _ _ _ h => h) (Or.inl ⟨by rfl, ?_⟩) hH7.out ?_
    rotate_left
    · (intro w hSw; obtain ⟨z0, z1⟩ := hSw; go_simp; try with_reducible rfl)
    try simp only [Act.put, List.setIfInBounds_toArray, List.set_cons_zero, List.set_cons_succ]
    refine take_putH (i := 9) (v := ?_) (some 24) rfl (by kernel_rfl) (by kernel_rfl) (by kernel_rfl) (by kernel_rfl) (fun _ _ _ h => h) (Or.inl ⟨by rfl, ?_⟩) hH7.out ?_
    rotate_left
    · (intro w hSw; obtain ⟨z0, z1⟩ := hSw; go_simp; try with_reducible rfl)
    try simp only [Act.put, List.setIfInBounds_toArray, List.set_cons_zero, List.set_cons_succ]
    have b4 : w7.cell? ⟨g, 4, none⟩ = some (.slice va vn vc) := HK7.out.cell 4 rfl
    have f4 : w7.frozen? ⟨g, 4, none⟩ = false := HK7.out.free 4
    have hH8 : Hid ((w7.setCell ⟨g, 4, none⟩ (.slice va7 vn7 vc7)).cell? ⟨w.heap.size, 0, none⟩ = some (.int .u8 (kd : Int)) ∧ (w7.setCell ⟨g, 4, none⟩ (.slice va7 vn7 vc7)).cell? ⟨w.heap.size, 1, none⟩ = some (.slice a n c)) := ⟨(cell_far7 w7 g 4 _ _ 0 HGX.out).trans hH7.out.1, (cell_far7 w7 g 4 _ _ 1 HGX.out).trans hH7.out.2⟩
    refine wpAnyH_ready (rs := [10]) (by kernel_rfl) (by simp) ?_
    refine AllReadyH.cons rfl (fun K hK => ?_) AllReadyH.nil
    go_simp
    refine hK.out _ _ hH8.out (fun _ => ?_)
    clear hK K
    try simp only [Act.put, List.getElem_toArray, List.getElem_cons_succ, List.getElem_cons_zero, List.setIfInBounds_toArray, List.set_cons_zero, List.set_cons_succ]
    refine wpAnyH_done (by kernel_rfl) ?_ _
    clear b4 f4 hH0 hH6 hH7 hH8
    go_wp2
    go_ret
    exact ⟨rfl, ⟨_, HL7.out⟩, HF7.out.set⟩
end Go.Proofs.YtoijhlnadaipoaaDoor
