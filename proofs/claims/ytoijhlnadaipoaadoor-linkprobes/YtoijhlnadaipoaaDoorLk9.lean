/- link.Take of a probe and of an answer; Probe, Alive, Lives. -/
import Derived.Test.YtoijhlnadaipoaaDoorLk8
namespace Go.Proofs.YtoijhlnadaipoaaDoor
open Go.RowKit

theorem cells_heard (l : Lk) (v : Value) (n : Int) : (l.cells v).setIfInBounds 7 (.int .i64 n) = Lk.cells { l with heard := n } v := rfl
theorem LkIn.heard_ {w : World} {base g : Nat} {wv : Value} {L : List (Wt × Bd)} {l : Lk} (h : LkIn w base g wv L l) (n : Int) : LkIn (w.setCell ⟨g, 7, none⟩ (.int .i64 n)) base g wv L { l with heard := n } := by
  refine h.turned ?_ (by simp) fun k hk hg => heap_setCell_other _ ⟨g, 7, none⟩ k _ hg
  have h1 := h.blk.set 7 (.int .i64 n)
  rw [cells_heard] at h1
  exact h1
theorem LkIn.away {w w' : World} {base g R : Nat} {wv : Value} {L : List (Wt × Bd)} {l : Lk} (h : LkIn w base g wv L l) (hs : w.heap.size ≤ w'.heap.size) (hf : ∀ k, k ≠ R → w'.heap[k]? = w.heap[k]?) {cs : Array Value} {t : TypeId} (hR : Bk w R cs t) (h1 : t ≠ 73) (h2 : t ≠ 78) (h3 : t ≠ 5) : LkIn w' base g wv L l := by
  have hne : ∀ (k : Nat) (cs' : Array Value) (t' : TypeId) (m : Nat × Nat), w.heap[k]? = some (.cells cs' t' m) → t ≠ t' → w'.heap[k]? = some (.cells cs' t' m) := fun k cs' t' m hk ht => by
    rw [hf k (fun e => ?_)]
    · exact hk
    · subst e
      unfold Bk at hR
      rw [hR] at hk
      simp only [Option.some.injEq, Obj.cells.injEq] at hk
      exact ht hk.2.1
  refine ⟨hne g _ _ _ h.blk h1, ⟨h.row.1, ?_⟩, fun x hx => ⟨(h.rest x hx).1, own_kept (h.rest x hx).2 fun k cs' m hk => hne k cs' _ m hk h3⟩, Nat.le_trans h.bg hs⟩
  rcases h.row.2 with hn | ⟨g', c, cur, hv, hbg, hg, r⟩
  · exact .inl hn
  · exact .inr ⟨g', c, cur, hv, hbg, hne g' cur _ _ hg h2, r⟩
theorem set8_size (w : World) (g : Nat) (v0 v1 v2 v3 v4 v5 v6 v7 : Value) : (set8 w g v0 v1 v2 v3 v4 v5 v6 v7).heap.size = w.heap.size := by unfold set8; simp
theorem Fr.set8_new {w w' : World} {g R : Nat} {v v0 v1 v2 v3 v4 v5 v6 v7 : Value} (h : Fr w w' g v) (hR : w.heap.size ≤ R) : Fr w (set8 w' R v0 v1 v2 v3 v4 v5 v6 v7) g v :=
  ⟨set8_below h.all R (Nat.zero_le _) v0 v1 v2 v3 v4 v5 v6 v7, fun k hk h3 h4 => (set8_other w' R v0 v1 v2 v3 v4 v5 v6 v7 k (by omega)).trans (h.blk k hk h3 h4)⟩
theorem results_take {f : Func} {w : World} {tmps : Array Value} {g : Nat} {t : TypeId} {v0 v1 v2 v3 v4 v5 v6 v7 e d : Value} (hf : f.results = #[.cell 6 37, .tmp 7, .tmp 8]) (h4 : tmps[6]?.getD undef = .pointer (some ⟨g, 0, none⟩)) (h5 : tmps[7]?.getD undef = e) (h6 : tmps[8]?.getD undef = d)
    (k : Bk w g #[v0, v1, v2, v3, v4, v5, v6, v7] t) : (results f tmps).run Tryd.prog w = .ok (.tuple #[.agg #[v0, v1, v2, v3, v4, v5, v6, v7], e, d]) w := by
  have k0 := k.cell 0 rfl
  have k1 := k.cell 1 rfl
  have k2 := k.cell 2 rfl
  have k3 := k.cell 3 rfl
  have k4 := k.cell 4 rfl
  have k5 := k.cell 5 rfl
  have k6 := k.cell 6 rfl
  have k7 := k.cell 7 rfl
  simp [results, hf, go_sem, h4, h5, h6, k0, k1, k2, k3, k4, k5, k6, k7]

set_option maxRecDepth 100000 in
set_option maxHeartbeats 4000000 in
theorem lk_Take_3 (w : World) (base g : Nat) (wv : Value) (L : List (Wt × Bd)) (l : Lk) (h : LkIn w base g wv L l) (a : Option Addr) (n c : Nat) (bs : List Nat) (x0 x1 now : Nat) (hr : Rd w a n bs) (hbs : bs = SealM.sealed 3 (lebs [x0, x1, 1])) (hnc : n ≤ c) (h0 : 1 ≤ x0 ∧ x0 ≤ 1073741824) (h1 : x1 ≤ 1073741824) (hx0 : l.other < (x0 : Int)) (hx1 : x1 = 0 ∨ (x1 : Int) = l.life) (hnow : now ≤ 1099511627776) (hhd : l.heard = -1) (ht : Tab w) (hw0 : 0 < w.heap.size) :
    Calls Tryd.prog 12 #[.pointer (some ⟨g, 0, none⟩), .slice a n c, .int .i64 (now : Int)] w fun e w' => e = .returned (.tuple #[.agg #[.int .i64 0, .int .i64 0, .int .i64 0, .int .i64 0, .int .i64 0, .int .i64 0, .slice none 0 0, .slice none 0 0], .bool false, .int .i64 0]) ∧ Hid (∃ v', LkIn w' base g v' L { l with other := (x0 : Int), great := 1, bits_ := 1, heard := (now : Int) }) ∧ Fr w w' g wv := by
  obtain ⟨W0, HW0⟩ : ∃ W0, Hid (W0 = w.alloc (.cells #[.int .i64 0, .int .i64 0, .int .i64 0, .int .i64 0, .int .i64 0, .int .i64 0, .slice none 0 0, .slice none 0 0] 37)) := ⟨_, rfl⟩
  have HB0 : Hid (Below w.heap.size w W0) := by rw [HW0.out]; exact below_new _ _
  have HR0 : Hid (Bk W0 w.heap.size #[.int .i64 0, .int .i64 0, .int .i64 0, .int .i64 0, .int .i64 0, .int .i64 0, .slice none 0 0, .slice none 0 0] 37) := by rw [HW0.out]; exact Bk.new _ _ _
  have HRD : Hid (Calls Tryd.prog 28 #[.slice a n c] W0 fun e w' => e = .returned (.tuple #[.agg #[.int .u8 3, .int .i64 (x0 : Int), .int .i64 (x1 : Int), .int .i64 1, .int .i64 0, .int .i64 0, .int .i64 0, .int .i64 0, .int .i64 0, .int .i64 0, .slice none 0 0, .slice none 0 0], .int .i64 0]) ∧ Below W0.heap.size W0 w') := lk_read_3 a n c bs x0 x1 1 W0 (hr.below HB0.out) hbs hnc h0 h1 (by omega) (ht.below hw0 HB0.out) (Nat.lt_of_lt_of_le hw0 HB0.out.size)
  have HL : Hid (LkIn w base g wv L l) := h
  have HGX : Hid (w.heap.size ≠ g) := by have := h.blk.lt; show _ ≠ _; omega
  have HRX : Hid (some w.heap.size ≠ wv.ownBlock) := by
    intro e
    have := (h.row.lt w.heap.size e.symm).2
    omega
  have HGL : Hid (g < w.heap.size) := h.blk.lt
  have HVL : Hid (∀ j, wv.ownBlock = some j → j < w.heap.size) := fun j hj => (h.row.lt j hj).2
  have g1 : ¬ (now : Int) < 0 := by omega
  have g2 : ¬ (1099511627776 : Int) < (now : Int) := by omega
  have HX : Hid (l.other < (x0 : Int) ∧ (x1 = 0 ∨ (x1 : Int) = l.life)) := ⟨hx0, hx1⟩
  have HHD : Hid (l.heard = -1) := hhd
  clear h hr hbs h0 h1 hx0 hx1 ht hhd
  go_enter Tryd.func12, Tryd.ntmps12
  go_wp2_with fail
  rw [← HW0.out]
  refine HRD.out.mono ?_
  rintro e w1 ⟨he, hb1⟩
  subst he
  have HB1 : Hid (Below w.heap.size w w1) := HB0.out.trans (hb1.mono HB0.out.size)
  obtain ⟨w2, HW2⟩ : ∃ w2, Hid (w2 = w1.alloc (.cells #[.int .u8 3, .int .i64 (x0 : Int), .int .i64 (x1 : Int), .int .i64 1, .int .i64 0, .int .i64 0, .int .i64 0, .int .i64 0, .int .i64 0, .int .i64 0, .slice none 0 0, .slice none 0 0] 85)) := ⟨_, rfl⟩
  have hb2 : Below w1.heap.size w1 w2 := by rw [HW2.out]; exact below_new _ _
  have HFr2 : Hid (Bk w2 w1.heap.size #[.int .u8 3, .int .i64 (x0 : Int), .int .i64 (x1 : Int), .int .i64 1, .int .i64 0, .int .i64 0, .int .i64 0, .int .i64 0, .int .i64 0, .int .i64 0, .slice none 0 0, .slice none 0 0] 85) := by rw [HW2.out]; exact Bk.new _ _ _
  have HR2 : Hid (Bk w2 w.heap.size #[.int .i64 0, .int .i64 0, .int .i64 0, .int .i64 0, .int .i64 0, .int .i64 0, .slice none 0 0, .slice none 0 0] 37) := (HR0.out.stay hb1).stay hb2
  have HB2 : Hid (Below w.heap.size w w2) := HB1.out.trans (hb2.mono HB1.out.size)
  have HL2 : Hid (LkIn w2 base g wv L l) := HL.out.below HB2.out
  have HSZ : Hid (w.heap.size < w1.heap.size) := by have h5 := HR0.out.lt; have h6 := hb1.size; show _ < _; omega
  have HGF : Hid (w1.heap.size ≠ g) := by have h5 := HGL.out; have h6 := HSZ.out; show _ ≠ _; omega
  have HRF : Hid (some w1.heap.size ≠ wv.ownBlock) := fun e => by have h5 := HVL.out _ e.symm; have h6 := HSZ.out; omega
  clear hb1 hb2 HRD
  go_wp2_with fail
  rw [← HW2.out]
  refine (lk_accept_new w2 base g wv L l HL2.out 3 x0 x1 HX.out.1 HX.out.2).mono ?_
  rintro e w3 ⟨rfl, HL3, hf3⟩
  have HFr3 : Hid (Bk w3 w1.heap.size #[.int .u8 3, .int .i64 (x0 : Int), .int .i64 (x1 : Int), .int .i64 1, .int .i64 0, .int .i64 0, .int .i64 0, .int .i64 0, .int .i64 0, .int .i64 0, .slice none 0 0, .slice none 0 0] 85) := HFr2.out.fr hf3 HGF.out HRF.out
  have HR3 : Hid (Bk w3 w.heap.size #[.int .i64 0, .int .i64 0, .int .i64 0, .int .i64 0, .int .i64 0, .int .i64 0, .slice none 0 0, .slice none 0 0] 37) := HR2.out.fr hf3 HGX.out HRX.out
  have HF3 : Hid (Fr w w3 g wv) := (Fr.of HB2.out).trans hf3 trivial
  clear hf3
  have c7 : w3.cell? ⟨g, 7, none⟩ = some (.int .i64 (-1)) := by rw [← HHD.out]; exact HL3.out.blk.cell 7 rfl
  have fg : ∀ i, w3.frozen? ⟨g, i, none⟩ = false := fun i => HL3.out.blk.free i
  obtain ⟨w4, HW4⟩ : ∃ w4, Hid (w4 = w3.setCell ⟨g, 7, none⟩ (.int .i64 (now : Int))) := ⟨_, rfl⟩
  have HL4 : Hid (LkIn w4 base g wv L { l with other := (x0 : Int), great := 1, bits_ := 1, heard := (now : Int) }) := by rw [HW4.out]; exact HL3.out.heard_ (now : Int)
  have HF4 : Hid (Fr w w4 g wv) := by rw [HW4.out]; exact HF3.out.set
  have HFr4 : Hid (Bk w4 w1.heap.size #[.int .u8 3, .int .i64 (x0 : Int), .int .i64 (x1 : Int), .int .i64 1, .int .i64 0, .int .i64 0, .int .i64 0, .int .i64 0, .int .i64 0, .int .i64 0, .slice none 0 0, .slice none 0 0] 85) := by rw [HW4.out]; exact HFr3.out.other _ _ HGF.out
  have HR4 : Hid (Bk w4 w.heap.size #[.int .i64 0, .int .i64 0, .int .i64 0, .int .i64 0, .int .i64 0, .int .i64 0, .slice none 0 0, .slice none 0 0] 37) := by rw [HW4.out]; exact HR3.out.other _ _ HGX.out
  have k0 : (w3.setCell ⟨g, 7, none⟩ (.int .i64 (now : Int))).cell? ⟨w1.heap.size, 0, none⟩ = some (.int .u8 3) := by rw [← HW4.out]; exact HFr4.out.cell 0 rfl
  have hm1 : (-1 : Int) < (now : Int) := by omega
  have hm2 : ¬ (now : Int) < -1 := by omega
  have hm3 : ¬ (now : Int) ≤ -1 := by omega
  have hm4 : max (-1 : Int) (now : Int) = (now : Int) := by omega
  go_wp2
  rw [← HW4.out]
  obtain ⟨w5, HW5⟩ : ∃ w5, Hid (w5 = w4) := ⟨_, rfl⟩
  rw [← HW5.out]
  have HL5 : Hid (LkIn w5 base g wv L { l with other := (x0 : Int), great := 1, bits_ := 1, heard := (now : Int) }) := by rw [HW5.out]; exact HL4.out
  have HF5 : Hid (Fr w w5 g wv) := by rw [HW5.out]; exact HF4.out
  have HFr5 : Hid (Bk w5 w1.heap.size #[.int .u8 3, .int .i64 (x0 : Int), .int .i64 (x1 : Int), .int .i64 1, .int .i64 0, .int .i64 0, .int .i64 0, .int .i64 0, .int .i64 0, .int .i64 0, .slice none 0 0, .slice none 0 0] 85) := by rw [HW5.out]; exact HFr4.out
  have HR5 : Hid (Bk w5 w.heap.size #[.int .i64 0, .int .i64 0, .int .i64 0, .int .i64 0, .int .i64 0, .int .i64 0, .slice none 0 0, .slice none 0 0] 37) := by rw [HW5.out]; exact HR4.out
  obtain ⟨wd, HWD⟩ : ∃ wd, Hid (wd = w5.drew) := ⟨_, rfl⟩
  have hbd : Below w5.heap.size w5 wd := by rw [HWD.out]; exact below_drew (Below.refl _ _)
  have HFrd : Hid (Bk wd w1.heap.size #[.int .u8 3, .int .i64 (x0 : Int), .int .i64 (x1 : Int), .int .i64 1, .int .i64 0, .int .i64 0, .int .i64 0, .int .i64 0, .int .i64 0, .int .i64 0, .slice none 0 0, .slice none 0 0] 85) := HFr5.out.stay hbd
  have HRd : Hid (Bk wd w.heap.size #[.int .i64 0, .int .i64 0, .int .i64 0, .int .i64 0, .int .i64 0, .int .i64 0, .slice none 0 0, .slice none 0 0] 37) := HR5.out.stay hbd
  have HLd : Hid (LkIn wd base g wv L { l with other := (x0 : Int), great := 1, bits_ := 1, heard := (now : Int) }) := HL5.out.below hbd
  have HFd : Hid (Fr w wd g wv) := HF5.out.trans (Fr.of hbd) trivial
  have HRNd : Hid (some w.heap.size ≠ Value.ownBlock wv) := row_type HLd.out.row HRd.out (by decide)
  clear hbd c7 fg k0
  refine wp_region_held_drew (S := fun w' => w'.cell? ⟨w1.heap.size, 0, none⟩ = some (.int .u8 3) ∧ w'.cell? ⟨w1.heap.size, 4, none⟩ = some (.int .i64 0) ∧ w'.cell? ⟨w1.heap.size, 5, none⟩ = some (.int .i64 0) ∧ w'.cell? ⟨w1.heap.size, 6, none⟩ = some (.int .i64 0) ∧ w'.cell? ⟨w1.heap.size, 7, none⟩ = some (.int .i64 0) ∧ w'.cell? ⟨w1.heap.size, 8, none⟩ = some (.int .i64 0) ∧ w'.cell? ⟨w1.heap.size, 9, none⟩ = some (.int .i64 0) ∧ w'.cell? ⟨w1.heap.size, 10, none⟩ = some (.slice none 0 0) ∧ w'.cell? ⟨w1.heap.size, 11, none⟩ = some (.slice none 0 0)) (by kernel_rfl) (by rw [← HWD.out]; exact ⟨HFrd.out.cell 0 rfl, HFrd.out.cell 4 rfl, HFrd.out.cell 5 rfl, HFrd.out.cell 6 rfl, HFrd.out.cell 7 rfl, HFrd.out.cell 8 rfl, HFrd.out.cell 9 rfl, HFrd.out.cell 10 rfl, HFrd.out.cell 11 rfl⟩) (fun hHeld => ?_)
  rw [← HWD.out] at hHeld ⊢
  refine take_putH (i := 0) (v := ?_) (some 50) rfl (by kernel_rfl) (by kernel_rfl) (by kernel_rfl) (by kernel_rfl) (fun _ _ _ h => h) (Or.inl ⟨by rfl, ?_⟩) hHeld ?_
  rotate_left
  · (intro w hSw; obtain ⟨z0, z1, z2, z3, z4, z5, z6, z7, z8⟩ := hSw; go_simp; try with_reducible rfl)
  try simp only [Act.put, List.setIfInBounds_toArray, List.set_cons_zero, List.set_cons_succ]
  refine take_putH (i := 1) (v := ?_) (some 51) rfl (by kernel_rfl) (by kernel_rfl) (by kernel_rfl) (by kernel_rfl) (fun _ _ _ h => h) (Or.inl ⟨by rfl, ?_⟩) hHeld ?_
  rotate_left
  · (intro w hSw; obtain ⟨z0, z1, z2, z3, z4, z5, z6, z7, z8⟩ := hSw; go_simp; try with_reducible rfl)
  try simp only [Act.put, List.setIfInBounds_toArray, List.set_cons_zero, List.set_cons_succ]
  refine take_putH (i := 2) (v := ?_) (some 52) rfl (by kernel_rfl) (by kernel_rfl) (by kernel_rfl) (by kernel_rfl) (fun _ _ _ h => h) (Or.inl ⟨by rfl, ?_⟩) hHeld ?_
  rotate_left
  · (intro w hSw; obtain ⟨z0, z1, z2, z3, z4, z5, z6, z7, z8⟩ := hSw; go_simp; try with_reducible rfl)
  try simp only [Act.put, List.setIfInBounds_toArray, List.set_cons_zero, List.set_cons_succ]
  refine take_putH (i := 3) (v := ?_) (some 53) rfl (by kernel_rfl) (by kernel_rfl) (by kernel_rfl) (by kernel_rfl) (fun _ _ _ h => h) (Or.inl ⟨by rfl, ?_⟩) hHeld ?_
  rotate_left
  · (intro w hSw; obtain ⟨z0, z1, z2, z3, z4, z5, z6, z7, z8⟩ := hSw; go_simp; try with_reducible rfl)
  try simp only [Act.put, List.setIfInBounds_toArray, List.set_cons_zero, List.set_cons_succ]
  refine take_putH (i := 4) (v := ?_) (some 54) rfl (by kernel_rfl) (by kernel_rfl) (by kernel_rfl) (by kernel_rfl) (fun _ _ _ h => h) (Or.inl ⟨by rfl, ?_⟩) hHeld ?_
  rotate_left
  · (intro w hSw; obtain ⟨z0, z1, z2, z3, z4, z5, z6, z7, z8⟩ := hSw; go_simp; try with_reducible rfl)
  try simp only [Act.put, List.setIfInBounds_toArray, List.set_cons_zero, List.set_cons_succ]
  have hS0 : wd.cell? ⟨w1.heap.size, 0, none⟩ = some (.int .u8 3) ∧ wd.cell? ⟨w1.heap.size, 4, none⟩ = some (.int .i64 0) ∧ wd.cell? ⟨w1.heap.size, 5, none⟩ = some (.int .i64 0) ∧ wd.cell? ⟨w1.heap.size, 6, none⟩ = some (.int .i64 0) ∧ wd.cell? ⟨w1.heap.size, 7, none⟩ = some (.int .i64 0) ∧ wd.cell? ⟨w1.heap.size, 8, none⟩ = some (.int .i64 0) ∧ wd.cell? ⟨w1.heap.size, 9, none⟩ = some (.int .i64 0) ∧ wd.cell? ⟨w1.heap.size, 10, none⟩ = some (.slice none 0 0) ∧ wd.cell? ⟨w1.heap.size, 11, none⟩ = some (.slice none 0 0) := hHeld
  clear hHeld
  have fz : ∀ i, wd.frozen? ⟨w.heap.size, i, none⟩ = false := fun i => HRd.out.free i
  have r0 : wd.cell? ⟨w.heap.size, 0, none⟩ = some (.int .i64 0) := HRd.out.cell 0 rfl
  have r1 : wd.cell? ⟨w.heap.size, 1, none⟩ = some (.int .i64 0) := HRd.out.cell 1 rfl
  have r2 : wd.cell? ⟨w.heap.size, 2, none⟩ = some (.int .i64 0) := HRd.out.cell 2 rfl
  have r3 : wd.cell? ⟨w.heap.size, 3, none⟩ = some (.int .i64 0) := HRd.out.cell 3 rfl
  have r4 : wd.cell? ⟨w.heap.size, 4, none⟩ = some (.int .i64 0) := HRd.out.cell 4 rfl
  have r5 : wd.cell? ⟨w.heap.size, 5, none⟩ = some (.int .i64 0) := HRd.out.cell 5 rfl
  have r6 : wd.cell? ⟨w.heap.size, 6, none⟩ = some (.slice none 0 0) := HRd.out.cell 6 rfl
  have r7 : wd.cell? ⟨w.heap.size, 7, none⟩ = some (.slice none 0 0) := HRd.out.cell 7 rfl
  obtain ⟨w7, HW7⟩ : ∃ w7, Hid (w7 = set8 wd w.heap.size (.int .i64 0) (.int .i64 0) (.int .i64 0) (.int .i64 0) (.int .i64 0) (.int .i64 0) (.slice none 0 0) (.slice none 0 0)) := ⟨_, rfl⟩
  have HFr7 : Hid (Bk w7 w1.heap.size #[.int .u8 3, .int .i64 (x0 : Int), .int .i64 (x1 : Int), .int .i64 1, .int .i64 0, .int .i64 0, .int .i64 0, .int .i64 0, .int .i64 0, .int .i64 0, .slice none 0 0, .slice none 0 0] 85) := by unfold Bk; rw [HW7.out, set8_other _ _ _ _ _ _ _ _ _ _ _ (by have h5 := HSZ.out; omega)]; exact HFrd.out
  have HR7 : Hid (Bk w7 w.heap.size #[.int .i64 0, .int .i64 0, .int .i64 0, .int .i64 0, .int .i64 0, .int .i64 0, .slice none 0 0, .slice none 0 0] 37) := by rw [HW7.out]; exact HRd.out.set8 (.int .i64 0) (.int .i64 0) (.int .i64 0) (.int .i64 0) (.int .i64 0) (.int .i64 0) (.slice none 0 0) (.slice none 0 0)
  have HL7 : Hid (LkIn w7 base g wv L { l with other := (x0 : Int), great := 1, bits_ := 1, heard := (now : Int) }) := by rw [HW7.out]; exact HLd.out.away (R := w.heap.size) (by rw [set8_size]; exact Nat.le_refl _) (fun k hk => set8_other _ _ _ _ _ _ _ _ _ _ k hk) HRd.out (by decide) (by decide) (by decide)
  have HF7 : Hid (Fr w w7 g wv) := by rw [HW7.out]; exact HFd.out.set8_new (Nat.le_refl _)
  refine wpAnyH_ready (rs := [5]) (by kernel_rfl) (by simp) ?_
  refine AllReadyH.cons rfl (fun K hK => ?_) AllReadyH.nil
  go_simp
  skip
  have hS7 : w7.cell? ⟨w1.heap.size, 0, none⟩ = some (.int .u8 3) ∧ w7.cell? ⟨w1.heap.size, 4, none⟩ = some (.int .i64 0) ∧ w7.cell? ⟨w1.heap.size, 5, none⟩ = some (.int .i64 0) ∧ w7.cell? ⟨w1.heap.size, 6, none⟩ = some (.int .i64 0) ∧ w7.cell? ⟨w1.heap.size, 7, none⟩ = some (.int .i64 0) ∧ w7.cell? ⟨w1.heap.size, 8, none⟩ = some (.int .i64 0) ∧ w7.cell? ⟨w1.heap.size, 9, none⟩ = some (.int .i64 0) ∧ w7.cell? ⟨w1.heap.size, 10, none⟩ = some (.slice none 0 0) ∧ w7.cell? ⟨w1.heap.size, 11, none⟩ = some (.slice none 0 0) := ⟨HFr7.out.cell 0 rfl, HFr7.out.cell 4 rfl, HFr7.out.cell 5 rfl, HFr7.out.cell 6 rfl, HFr7.out.cell 7 rfl, HFr7.out.cell 8 rfl, HFr7.out.cell 9 rfl, HFr7.out.cell 10 rfl, HFr7.out.cell 11 rfl⟩
  refine (fun h => by have e := HW7.out; unfold set8 at e; rw [← e]; exact h) ?_
  refine hK.out _ _ hS7 (fun _ => ?_)
  clear hK K
  try simp only [Act.put, List.getElem_toArray, List.getElem_cons_succ, List.getElem_cons_zero, List.setIfInBounds_toArray, List.set_cons_zero, List.set_cons_succ]
  refine take_putH (i := 6) (v := ?_) (some 7) rfl (by kernel_rfl) (by kernel_rfl) (by kernel_rfl) (by kernel_rfl) (fun _ _ _ h => h) (Or.inl ⟨by rfl, ?_⟩) hS7 ?_
  rotate_left
  · (intro w hSw; obtain ⟨z0, z1, z2, z3, z4, z5, z6, z7, z8⟩ := hSw; go_simp; try with_reducible rfl)
  try simp only [Act.put, List.setIfInBounds_toArray, List.set_cons_zero, List.set_cons_succ]
  refine take_putH (i := 7) (v := ?_) (some 8) rfl (by kernel_rfl) (by kernel_rfl) (by kernel_rfl) (by kernel_rfl) (fun _ _ _ h => h) (Or.inl ⟨by rfl, ?_⟩) hS7 ?_
  rotate_left
  · (intro w hSw; obtain ⟨z0, z1, z2, z3, z4, z5, z6, z7, z8⟩ := hSw; go_simp; try with_reducible rfl)
  try simp only [Act.put, List.setIfInBounds_toArray, List.set_cons_zero, List.set_cons_succ]
  refine wpAnyH_done (by kernel_rfl) ?_ _
  go_wp2
  try simp only [Exit.inBlock, Exit.then]
  refine bodyPost_ret (results_take rfl (by rfl) (by rfl) (by rfl) HR7.out) rfl ?_
  exact ⟨rfl, ⟨_, HL7.out⟩, HF7.out⟩

set_option maxRecDepth 100000 in
set_option maxHeartbeats 4000000 in
theorem lk_Take_2 (w : World) (base g : Nat) (wv : Value) (L : List (Wt × Bd)) (l : Lk) (h : LkIn w base g wv L l) (a : Option Addr) (n c : Nat) (bs : List Nat) (x0 x1 now : Nat) (hr : Rd w a n bs) (hbs : bs = SealM.sealed 2 (lebs [x0, x1, 1])) (hnc : n ≤ c) (h0 : 1 ≤ x0 ∧ x0 ≤ 1073741824) (h1 : x1 ≤ 1073741824) (hx0 : l.other < (x0 : Int)) (hx1 : x1 = 0 ∨ (x1 : Int) = l.life) (hnow : now ≤ 1099511627776) (hhd : l.heard = -1) (hq : (L.length : Int) < l.queue) (hl : L.length ≤ 1000) (ht : Tab w) (hw0 : 0 < w.heap.size) :
    Calls Tryd.prog 12 #[.pointer (some ⟨g, 0, none⟩), .slice a n c, .int .i64 (now : Int)] w fun e w' => e = .returned (.tuple #[.agg #[.int .i64 0, .int .i64 0, .int .i64 0, .int .i64 0, .int .i64 0, .int .i64 0, .slice none 0 0, .slice none 0 0], .bool false, .int .i64 0]) ∧ Hid (∃ v', LkIn w' base g v' (L ++ [((⟨3, []⟩ : Wt), ((none, 0, 0) : Bd))]) { l with other := (x0 : Int), great := 1, bits_ := 1, heard := (now : Int) }) ∧ Fr w w' g wv := by
  obtain ⟨W0, HW0⟩ : ∃ W0, Hid (W0 = w.alloc (.cells #[.int .i64 0, .int .i64 0, .int .i64 0, .int .i64 0, .int .i64 0, .int .i64 0, .slice none 0 0, .slice none 0 0] 37)) := ⟨_, rfl⟩
  have HB0 : Hid (Below w.heap.size w W0) := by rw [HW0.out]; exact below_new _ _
  have HR0 : Hid (Bk W0 w.heap.size #[.int .i64 0, .int .i64 0, .int .i64 0, .int .i64 0, .int .i64 0, .int .i64 0, .slice none 0 0, .slice none 0 0] 37) := by rw [HW0.out]; exact Bk.new _ _ _
  have HRD : Hid (Calls Tryd.prog 28 #[.slice a n c] W0 fun e w' => e = .returned (.tuple #[.agg #[.int .u8 2, .int .i64 (x0 : Int), .int .i64 (x1 : Int), .int .i64 1, .int .i64 0, .int .i64 0, .int .i64 0, .int .i64 0, .int .i64 0, .int .i64 0, .slice none 0 0, .slice none 0 0], .int .i64 0]) ∧ Below W0.heap.size W0 w') := lk_read_2 a n c bs x0 x1 1 W0 (hr.below HB0.out) hbs hnc h0 h1 (by omega) (ht.below hw0 HB0.out) (Nat.lt_of_lt_of_le hw0 HB0.out.size)
  have HL : Hid (LkIn w base g wv L l) := h
  have HGX : Hid (w.heap.size ≠ g) := by have := h.blk.lt; show _ ≠ _; omega
  have HRX : Hid (some w.heap.size ≠ wv.ownBlock) := by
    intro e
    have := (h.row.lt w.heap.size e.symm).2
    omega
  have HGL : Hid (g < w.heap.size) := h.blk.lt
  have HVL : Hid (∀ j, wv.ownBlock = some j → j < w.heap.size) := fun j hj => (h.row.lt j hj).2
  have g1 : ¬ (now : Int) < 0 := by omega
  have g2 : ¬ (1099511627776 : Int) < (now : Int) := by omega
  have HX : Hid (l.other < (x0 : Int) ∧ (x1 = 0 ∨ (x1 : Int) = l.life)) := ⟨hx0, hx1⟩
  have HHD : Hid (l.heard = -1) := hhd
  clear h hr hbs h0 h1 hx0 hx1 ht hhd
  go_enter Tryd.func12, Tryd.ntmps12
  go_wp2_with fail
  rw [← HW0.out]
  refine HRD.out.mono ?_
  rintro e w1 ⟨he, hb1⟩
  subst he
  have HB1 : Hid (Below w.heap.size w w1) := HB0.out.trans (hb1.mono HB0.out.size)
  obtain ⟨w2, HW2⟩ : ∃ w2, Hid (w2 = w1.alloc (.cells #[.int .u8 2, .int .i64 (x0 : Int), .int .i64 (x1 : Int), .int .i64 1, .int .i64 0, .int .i64 0, .int .i64 0, .int .i64 0, .int .i64 0, .int .i64 0, .slice none 0 0, .slice none 0 0] 85)) := ⟨_, rfl⟩
  have hb2 : Below w1.heap.size w1 w2 := by rw [HW2.out]; exact below_new _ _
  have HFr2 : Hid (Bk w2 w1.heap.size #[.int .u8 2, .int .i64 (x0 : Int), .int .i64 (x1 : Int), .int .i64 1, .int .i64 0, .int .i64 0, .int .i64 0, .int .i64 0, .int .i64 0, .int .i64 0, .slice none 0 0, .slice none 0 0] 85) := by rw [HW2.out]; exact Bk.new _ _ _
  have HR2 : Hid (Bk w2 w.heap.size #[.int .i64 0, .int .i64 0, .int .i64 0, .int .i64 0, .int .i64 0, .int .i64 0, .slice none 0 0, .slice none 0 0] 37) := (HR0.out.stay hb1).stay hb2
  have HB2 : Hid (Below w.heap.size w w2) := HB1.out.trans (hb2.mono HB1.out.size)
  have HL2 : Hid (LkIn w2 base g wv L l) := HL.out.below HB2.out
  have HSZ : Hid (w.heap.size < w1.heap.size) := by have h5 := HR0.out.lt; have h6 := hb1.size; show _ < _; omega
  have HGF : Hid (w1.heap.size ≠ g) := by have h5 := HGL.out; have h6 := HSZ.out; show _ ≠ _; omega
  have HRF : Hid (some w1.heap.size ≠ wv.ownBlock) := fun e => by have h5 := HVL.out _ e.symm; have h6 := HSZ.out; omega
  clear hb1 hb2 HRD
  go_wp2_with fail
  rw [← HW2.out]
  refine (lk_accept_new w2 base g wv L l HL2.out 2 x0 x1 HX.out.1 HX.out.2).mono ?_
  rintro e w3 ⟨rfl, HL3, hf3⟩
  have HFr3 : Hid (Bk w3 w1.heap.size #[.int .u8 2, .int .i64 (x0 : Int), .int .i64 (x1 : Int), .int .i64 1, .int .i64 0, .int .i64 0, .int .i64 0, .int .i64 0, .int .i64 0, .int .i64 0, .slice none 0 0, .slice none 0 0] 85) := HFr2.out.fr hf3 HGF.out HRF.out
  have HR3 : Hid (Bk w3 w.heap.size #[.int .i64 0, .int .i64 0, .int .i64 0, .int .i64 0, .int .i64 0, .int .i64 0, .slice none 0 0, .slice none 0 0] 37) := HR2.out.fr hf3 HGX.out HRX.out
  have HF3 : Hid (Fr w w3 g wv) := (Fr.of HB2.out).trans hf3 trivial
  clear hf3
  have c7 : w3.cell? ⟨g, 7, none⟩ = some (.int .i64 (-1)) := by rw [← HHD.out]; exact HL3.out.blk.cell 7 rfl
  have fg : ∀ i, w3.frozen? ⟨g, i, none⟩ = false := fun i => HL3.out.blk.free i
  obtain ⟨w4, HW4⟩ : ∃ w4, Hid (w4 = w3.setCell ⟨g, 7, none⟩ (.int .i64 (now : Int))) := ⟨_, rfl⟩
  have HL4 : Hid (LkIn w4 base g wv L { l with other := (x0 : Int), great := 1, bits_ := 1, heard := (now : Int) }) := by rw [HW4.out]; exact HL3.out.heard_ (now : Int)
  have HF4 : Hid (Fr w w4 g wv) := by rw [HW4.out]; exact HF3.out.set
  have HFr4 : Hid (Bk w4 w1.heap.size #[.int .u8 2, .int .i64 (x0 : Int), .int .i64 (x1 : Int), .int .i64 1, .int .i64 0, .int .i64 0, .int .i64 0, .int .i64 0, .int .i64 0, .int .i64 0, .slice none 0 0, .slice none 0 0] 85) := by rw [HW4.out]; exact HFr3.out.other _ _ HGF.out
  have HR4 : Hid (Bk w4 w.heap.size #[.int .i64 0, .int .i64 0, .int .i64 0, .int .i64 0, .int .i64 0, .int .i64 0, .slice none 0 0, .slice none 0 0] 37) := by rw [HW4.out]; exact HR3.out.other _ _ HGX.out
  have k0 : (w3.setCell ⟨g, 7, none⟩ (.int .i64 (now : Int))).cell? ⟨w1.heap.size, 0, none⟩ = some (.int .u8 2) := by rw [← HW4.out]; exact HFr4.out.cell 0 rfl
  have hm1 : (-1 : Int) < (now : Int) := by omega
  have hm2 : ¬ (now : Int) < -1 := by omega
  have hm3 : ¬ (now : Int) ≤ -1 := by omega
  have hm4 : max (-1 : Int) (now : Int) = (now : Int) := by omega
  have HO4 : Hid (Own w4 base none 0 0 []) := Own.none_ _ _
  go_wp2_with fail
  rw [← HW4.out]
  refine (lk_wait_ok w4 base g wv L { l with other := (x0 : Int), great := 1, bits_ := 1, heard := (now : Int) } HL4.out 3 (by omega) none 0 0 [] HO4.out hq hl).mono ?_
  rintro e w5 ⟨rfl, HL5e, hf5⟩
  obtain ⟨v5, hL5⟩ := HL5e.out
  have HL5 : Hid (LkIn w5 base g v5 (L ++ [((⟨3, []⟩ : Wt), ((none, 0, 0) : Bd))]) { l with other := (x0 : Int), great := 1, bits_ := 1, heard := (now : Int) }) := hL5
  have HF5 : Hid (Fr w w5 g wv) := HF4.out.trans hf5 trivial
  have HFr5 : Hid (Bk w5 w1.heap.size #[.int .u8 2, .int .i64 (x0 : Int), .int .i64 (x1 : Int), .int .i64 1, .int .i64 0, .int .i64 0, .int .i64 0, .int .i64 0, .int .i64 0, .int .i64 0, .slice none 0 0, .slice none 0 0] 85) := HFr4.out.fr hf5 HGF.out HRF.out
  have HR5 : Hid (Bk w5 w.heap.size #[.int .i64 0, .int .i64 0, .int .i64 0, .int .i64 0, .int .i64 0, .int .i64 0, .slice none 0 0, .slice none 0 0] 37) := HR4.out.fr hf5 HGX.out HRX.out
  clear hf5 hL5 HL5e
  go_wp2
  obtain ⟨wd, HWD⟩ : ∃ wd, Hid (wd = w5.drew) := ⟨_, rfl⟩
  have hbd : Below w5.heap.size w5 wd := by rw [HWD.out]; exact below_drew (Below.refl _ _)
  have HFrd : Hid (Bk wd w1.heap.size #[.int .u8 2, .int .i64 (x0 : Int), .int .i64 (x1 : Int), .int .i64 1, .int .i64 0, .int .i64 0, .int .i64 0, .int .i64 0, .int .i64 0, .int .i64 0, .slice none 0 0, .slice none 0 0] 85) := HFr5.out.stay hbd
  have HRd : Hid (Bk wd w.heap.size #[.int .i64 0, .int .i64 0, .int .i64 0, .int .i64 0, .int .i64 0, .int .i64 0, .slice none 0 0, .slice none 0 0] 37) := HR5.out.stay hbd
  have HLd : Hid (LkIn wd base g v5 (L ++ [((⟨3, []⟩ : Wt), ((none, 0, 0) : Bd))]) { l with other := (x0 : Int), great := 1, bits_ := 1, heard := (now : Int) }) := HL5.out.below hbd
  have HFd : Hid (Fr w wd g wv) := HF5.out.trans (Fr.of hbd) trivial
  have HRNd : Hid (some w.heap.size ≠ Value.ownBlock v5) := row_type HLd.out.row HRd.out (by decide)
  clear hbd c7 fg k0
  refine wp_region_held_drew (S := fun w' => w'.cell? ⟨w1.heap.size, 0, none⟩ = some (.int .u8 2) ∧ w'.cell? ⟨w1.heap.size, 4, none⟩ = some (.int .i64 0) ∧ w'.cell? ⟨w1.heap.size, 5, none⟩ = some (.int .i64 0) ∧ w'.cell? ⟨w1.heap.size, 6, none⟩ = some (.int .i64 0) ∧ w'.cell? ⟨w1.heap.size, 7, none⟩ = some (.int .i64 0) ∧ w'.cell? ⟨w1.heap.size, 8, none⟩ = some (.int .i64 0) ∧ w'.cell? ⟨w1.heap.size, 9, none⟩ = some (.int .i64 0) ∧ w'.cell? ⟨w1.heap.size, 10, none⟩ = some (.slice none 0 0) ∧ w'.cell? ⟨w1.heap.size, 11, none⟩ = some (.slice none 0 0)) (by kernel_rfl) (by rw [← HWD.out]; exact ⟨HFrd.out.cell 0 rfl, HFrd.out.cell 4 rfl, HFrd.out.cell 5 rfl, HFrd.out.cell 6 rfl, HFrd.out.cell 7 rfl, HFrd.out.cell 8 rfl, HFrd.out.cell 9 rfl, HFrd.out.cell 10 rfl, HFrd.out.cell 11 rfl⟩) (fun hHeld => ?_)
  rw [← HWD.out] at hHeld ⊢
  refine take_putH (i := 0) (v := ?_) (some 50) rfl (by kernel_rfl) (by kernel_rfl) (by kernel_rfl) (by kernel_rfl) (fun _ _ _ h => h) (Or.inl ⟨by rfl, ?_⟩) hHeld ?_
  rotate_left
  · (intro w hSw; obtain ⟨z0, z1, z2, z3, z4, z5, z6, z7, z8⟩ := hSw; go_simp; try with_reducible rfl)
  try simp only [Act.put, List.setIfInBounds_toArray, List.set_cons_zero, List.set_cons_succ]
  refine take_putH (i := 1) (v := ?_) (some 51) rfl (by kernel_rfl) (by kernel_rfl) (by kernel_rfl) (by kernel_rfl) (fun _ _ _ h => h) (Or.inl ⟨by rfl, ?_⟩) hHeld ?_
  rotate_left
  · (intro w hSw; obtain ⟨z0, z1, z2, z3, z4, z5, z6, z7, z8⟩ := hSw; go_simp; try with_reducible rfl)
  try simp only [Act.put, List.setIfInBounds_toArray, List.set_cons_zero, List.set_cons_succ]
  refine take_putH (i := 2) (v := ?_) (some 52) rfl (by kernel_rfl) (by kernel_rfl) (by kernel_rfl) (by kernel_rfl) (fun _ _ _ h => h) (Or.inl ⟨by rfl, ?_⟩) hHeld ?_
  rotate_left
  · (intro w hSw; obtain ⟨z0, z1, z2, z3, z4, z5, z6, z7, z8⟩ := hSw; go_simp; try with_reducible rfl)
  try simp only [Act.put, List.setIfInBounds_toArray, List.set_cons_zero, List.set_cons_succ]
  refine take_putH (i := 3) (v := ?_) (some 53) rfl (by kernel_rfl) (by kernel_rfl) (by kernel_rfl) (by kernel_rfl) (fun _ _ _ h => h) (Or.inl ⟨by rfl, ?_⟩) hHeld ?_
  rotate_left
  · (intro w hSw; obtain ⟨z0, z1, z2, z3, z4, z5, z6, z7, z8⟩ := hSw; go_simp; try with_reducible rfl)
  try simp only [Act.put, List.setIfInBounds_toArray, List.set_cons_zero, List.set_cons_succ]
  refine take_putH (i := 4) (v := ?_) (some 54) rfl (by kernel_rfl) (by kernel_rfl) (by kernel_rfl) (by kernel_rfl) (fun _ _ _ h => h) (Or.inl ⟨by rfl, ?_⟩) hHeld ?_
  rotate_left
  · (intro w hSw; obtain ⟨z0, z1, z2, z3, z4, z5, z6, z7, z8⟩ := hSw; go_simp; try with_reducible rfl)
  try simp only [Act.put, List.setIfInBounds_toArray, List.set_cons_zero, List.set_cons_succ]
  have hS0 : wd.cell? ⟨w1.heap.size, 0, none⟩ = some (.int .u8 2) ∧ wd.cell? ⟨w1.heap.size, 4, none⟩ = some (.int .i64 0) ∧ wd.cell? ⟨w1.heap.size, 5, none⟩ = some (.int .i64 0) ∧ wd.cell? ⟨w1.heap.size, 6, none⟩ = some (.int .i64 0) ∧ wd.cell? ⟨w1.heap.size, 7, none⟩ = some (.int .i64 0) ∧ wd.cell? ⟨w1.heap.size, 8, none⟩ = some (.int .i64 0) ∧ wd.cell? ⟨w1.heap.size, 9, none⟩ = some (.int .i64 0) ∧ wd.cell? ⟨w1.heap.size, 10, none⟩ = some (.slice none 0 0) ∧ wd.cell? ⟨w1.heap.size, 11, none⟩ = some (.slice none 0 0) := hHeld
  clear hHeld
  have fz : ∀ i, wd.frozen? ⟨w.heap.size, i, none⟩ = false := fun i => HRd.out.free i
  have r0 : wd.cell? ⟨w.heap.size, 0, none⟩ = some (.int .i64 0) := HRd.out.cell 0 rfl
  have r1 : wd.cell? ⟨w.heap.size, 1, none⟩ = some (.int .i64 0) := HRd.out.cell 1 rfl
  have r2 : wd.cell? ⟨w.heap.size, 2, none⟩ = some (.int .i64 0) := HRd.out.cell 2 rfl
  have r3 : wd.cell? ⟨w.heap.size, 3, none⟩ = some (.int .i64 0) := HRd.out.cell 3 rfl
  have r4 : wd.cell? ⟨w.heap.size, 4, none⟩ = some (.int .i64 0) := HRd.out.cell 4 rfl
  have r5 : wd.cell? ⟨w.heap.size, 5, none⟩ = some (.int .i64 0) := HRd.out.cell 5 rfl
  have r6 : wd.cell? ⟨w.heap.size, 6, none⟩ = some (.slice none 0 0) := HRd.out.cell 6 rfl
  have r7 : wd.cell? ⟨w.heap.size, 7, none⟩ = some (.slice none 0 0) := HRd.out.cell 7 rfl
  obtain ⟨w7, HW7⟩ : ∃ w7, Hid (w7 = set8 wd w.heap.size (.int .i64 0) (.int .i64 0) (.int .i64 0) (.int .i64 0) (.int .i64 0) (.int .i64 0) (.slice none 0 0) (.slice none 0 0)) := ⟨_, rfl⟩
  have HFr7 : Hid (Bk w7 w1.heap.size #[.int .u8 2, .int .i64 (x0 : Int), .int .i64 (x1 : Int), .int .i64 1, .int .i64 0, .int .i64 0, .int .i64 0, .int .i64 0, .int .i64 0, .int .i64 0, .slice none 0 0, .slice none 0 0] 85) := by unfold Bk; rw [HW7.out, set8_other _ _ _ _ _ _ _ _ _ _ _ (by have h5 := HSZ.out; omega)]; exact HFrd.out
  have HR7 : Hid (Bk w7 w.heap.size #[.int .i64 0, .int .i64 0, .int .i64 0, .int .i64 0, .int .i64 0, .int .i64 0, .slice none 0 0, .slice none 0 0] 37) := by rw [HW7.out]; exact HRd.out.set8 (.int .i64 0) (.int .i64 0) (.int .i64 0) (.int .i64 0) (.int .i64 0) (.int .i64 0) (.slice none 0 0) (.slice none 0 0)
  have HL7 : Hid (LkIn w7 base g v5 (L ++ [((⟨3, []⟩ : Wt), ((none, 0, 0) : Bd))]) { l with other := (x0 : Int), great := 1, bits_ := 1, heard := (now : Int) }) := by rw [HW7.out]; exact HLd.out.away (R := w.heap.size) (by rw [set8_size]; exact Nat.le_refl _) (fun k hk => set8_other _ _ _ _ _ _ _ _ _ _ k hk) HRd.out (by decide) (by decide) (by decide)
  have HF7 : Hid (Fr w w7 g wv) := by rw [HW7.out]; exact HFd.out.set8_new (Nat.le_refl _)
  refine wpAnyH_ready (rs := [5]) (by kernel_rfl) (by simp) ?_
  refine AllReadyH.cons rfl (fun K hK => ?_) AllReadyH.nil
  go_simp
  skip
  have hS7 : w7.cell? ⟨w1.heap.size, 0, none⟩ = some (.int .u8 2) ∧ w7.cell? ⟨w1.heap.size, 4, none⟩ = some (.int .i64 0) ∧ w7.cell? ⟨w1.heap.size, 5, none⟩ = some (.int .i64 0) ∧ w7.cell? ⟨w1.heap.size, 6, none⟩ = some (.int .i64 0) ∧ w7.cell? ⟨w1.heap.size, 7, none⟩ = some (.int .i64 0) ∧ w7.cell? ⟨w1.heap.size, 8, none⟩ = some (.int .i64 0) ∧ w7.cell? ⟨w1.heap.size, 9, none⟩ = some (.int .i64 0) ∧ w7.cell? ⟨w1.heap.size, 10, none⟩ = some (.slice none 0 0) ∧ w7.cell? ⟨w1.heap.size, 11, none⟩ = some (.slice none 0 0) := ⟨HFr7.out.cell 0 rfl, HFr7.out.cell 4 rfl, HFr7.out.cell 5 rfl, HFr7.out.cell 6 rfl, HFr7.out.cell 7 rfl, HFr7.out.cell 8 rfl, HFr7.out.cell 9 rfl, HFr7.out.cell 10 rfl, HFr7.out.cell 11 rfl⟩
  refine (fun h => by have e := HW7.out; unfold set8 at e; rw [← e]; exact h) ?_
  refine hK.out _ _ hS7 (fun _ => ?_)
  clear hK K
  try simp only [Act.put, List.getElem_toArray, List.getElem_cons_succ, List.getElem_cons_zero, List.setIfInBounds_toArray, List.set_cons_zero, List.set_cons_succ]
  refine take_putH (i := 6) (v := ?_) (some 7) rfl (by kernel_rfl) (by kernel_rfl) (by kernel_rfl) (by kernel_rfl) (fun _ _ _ h => h) (Or.inl ⟨by rfl, ?_⟩) hS7 ?_
  rotate_left
  · (intro w hSw; obtain ⟨z0, z1, z2, z3, z4, z5, z6, z7, z8⟩ := hSw; go_simp; try with_reducible rfl)
  try simp only [Act.put, List.setIfInBounds_toArray, List.set_cons_zero, List.set_cons_succ]
  refine take_putH (i := 7) (v := ?_) (some 8) rfl (by kernel_rfl) (by kernel_rfl) (by kernel_rfl) (by kernel_rfl) (fun _ _ _ h => h) (Or.inl ⟨by rfl, ?_⟩) hS7 ?_
  rotate_left
  · (intro w hSw; obtain ⟨z0, z1, z2, z3, z4, z5, z6, z7, z8⟩ := hSw; go_simp; try with_reducible rfl)
  try simp only [Act.put, List.setIfInBounds_toArray, List.set_cons_zero, List.set_cons_succ]
  refine wpAnyH_done (by kernel_rfl) ?_ _
  go_wp2
  try simp only [Exit.inBlock, Exit.then]
  refine bodyPost_ret (results_take rfl (by rfl) (by rfl) (by rfl) HR7.out) rfl ?_
  exact ⟨rfl, ⟨_, HL7.out⟩, HF7.out⟩
end Go.Proofs.YtoijhlnadaipoaaDoor
