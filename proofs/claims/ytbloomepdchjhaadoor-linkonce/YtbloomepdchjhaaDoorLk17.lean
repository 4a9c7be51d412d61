/- link.Take of a frame that is accepted. -/
import Derived.Test.YtbloomepdchjhaaDoorLkD
namespace Go.Proofs.YtbloomepdchjhaaDoor
open Go.RowKit

set_option maxRecDepth 100000 in
set_option maxHeartbeats 4000000 in
theorem lk_Take_yes_1 (w : World) (base g : Nat) (wv : Value) (L : List (Wt × Bd)) (l : Lk) (h : LkIn w base g wv L l) (a : Option Addr) (n c : Nat) (x0 x1 x2 now : Nat) (ot gr : Nat) (hot : l.other = (ot : Int)) (hgr : l.great = (gr : Int)) (hgb : gr ≤ 1099511627776) (hb : l.bits_ < 18446744073709551616) (hx2 : x2 ≤ 1099511627776) (hnow : now ≤ 1099511627776) (P : World → Value → Prop)
    (hrd : ∀ W, Below w.heap.size w W → w.heap.size + 1 ≤ W.heap.size → Calls Tryd.prog 23 #[.slice a n c] W fun e w' => ReadTold 1 x0 x1 x2 W P e w')
    (hps : ∀ w1 w2 v, (∀ j, w.heap.size < j → j < w1.heap.size → w2.heap[j]? = w1.heap[j]?) → P w1 v → P w2 v) (hyes : (accR l ot gr x0 x1 x2).1 = 0) (m : Int) (hm : max (accR l ot gr x0 x1 x2).2.heard (now : Int) = m) :
    Calls Tryd.prog 10 #[.pointer (some ⟨g, 0, none⟩), .slice a n c, .int .i64 (now : Int)] w fun e w' => (∃ v, e = .returned (.tuple #[v, .bool true, .int .i64 0]) ∧ Hid (P w' v)) ∧ Hid (LkIn w' base g wv L { (accR l ot gr x0 x1 x2).2 with heard := m }) ∧ Fr w w' g wv := by
  obtain ⟨W0, HW0⟩ : ∃ W0, Hid (W0 = w.alloc (.cells #[.int .i64 0, .int .i64 0, .int .i64 0, .int .i64 0, .int .i64 0, .int .i64 0, .slice none 0 0, .slice none 0 0] 37)) := ⟨_, rfl⟩
  have HB0 : Hid (Below w.heap.size w W0) := by rw [HW0.out]; exact below_new _ _
  have HR0 : Hid (Bk W0 w.heap.size #[.int .i64 0, .int .i64 0, .int .i64 0, .int .i64 0, .int .i64 0, .int .i64 0, .slice none 0 0, .slice none 0 0] 37) := by rw [HW0.out]; exact Bk.new _ _ _
  have HRD : Hid (Calls Tryd.prog 23 #[.slice a n c] W0 fun e w' => ReadTold 1 x0 x1 x2 W0 P e w') := hrd W0 HB0.out (by rw [HW0.out]; simp)
  have HL : Hid (LkIn w base g wv L l) := h
  have HPS : Hid (∀ w1 w2 v, (∀ j, w.heap.size < j → j < w1.heap.size → w2.heap[j]? = w1.heap[j]?) → P w1 v → P w2 v) := hps
  have HGX : Hid (w.heap.size ≠ g) := by have := h.blk.lt; show _ ≠ _; omega
  have HRX : Hid (some w.heap.size ≠ wv.ownBlock) := by
    intro e
    have := (h.row.lt w.heap.size e.symm).2
    omega
  have HGL : Hid (g < w.heap.size) := h.blk.lt
  have HVL : Hid (∀ j, wv.ownBlock = some j → j < w.heap.size) := fun j hj => (h.row.lt j hj).2
  have HBB : Hid (l.other = (ot : Int) ∧ l.great = (gr : Int) ∧ gr ≤ 1099511627776 ∧ l.bits_ < 18446744073709551616 ∧ x2 ≤ 1099511627776) := ⟨hot, hgr, hgb, hb, hx2⟩
  obtain ⟨⟨d, l'⟩, HD⟩ : ∃ d, Hid (accR l ot gr x0 x1 x2 = d) := ⟨_, rfl⟩
  rw [HD.out] at hyes hm ⊢
  simp only at hyes hm ⊢
  subst hyes
  obtain ⟨hd, HHD⟩ : ∃ hd, Hid (l'.heard = hd) := ⟨_, rfl⟩
  rw [HHD.out] at hm
  have g1 : ¬ (now : Int) < 0 := by omega
  have g2 : ¬ (1099511627776 : Int) < (now : Int) := by omega
  clear h hrd hot hgr hgb hb hx2 hps
  go_enter Tryd.func10, Tryd.ntmps10
  go_wp2_with fail
  rw [← HW0.out]
  refine HRD.out.mono ?_
  rintro e w1 ⟨⟨pk, pp, ps, pn, pf, pt, sa, sn, sc, ia, im, ic, he, HP1⟩, hb1⟩
  subst he
  have HB1 : Hid (Below w.heap.size w w1) := HB0.out.trans (hb1.mono HB0.out.size)
  obtain ⟨w2, HW2⟩ : ∃ w2, Hid (w2 = w1.alloc (.cells #[.int .u8 1, .int .i64 (x0 : Int), .int .i64 (x1 : Int), .int .i64 (x2 : Int), .int .i64 pk, .int .i64 pp, .int .i64 ps, .int .i64 pn, .int .i64 pf, .int .i64 pt, .slice sa sn sc, .slice ia im ic] 78)) := ⟨_, rfl⟩
  have hb2 : Below w1.heap.size w1 w2 := by rw [HW2.out]; exact below_new _ _
  have HFr2 : Hid (Bk w2 w1.heap.size #[.int .u8 1, .int .i64 (x0 : Int), .int .i64 (x1 : Int), .int .i64 (x2 : Int), .int .i64 pk, .int .i64 pp, .int .i64 ps, .int .i64 pn, .int .i64 pf, .int .i64 pt, .slice sa sn sc, .slice ia im ic] 78) := by rw [HW2.out]; exact Bk.new _ _ _
  have HR2 : Hid (Bk w2 w.heap.size #[.int .i64 0, .int .i64 0, .int .i64 0, .int .i64 0, .int .i64 0, .int .i64 0, .slice none 0 0, .slice none 0 0] 37) := (HR0.out.stay hb1).stay hb2
  have HB2 : Hid (Below w.heap.size w w2) := HB1.out.trans (hb2.mono HB1.out.size)
  have HS2 : Hid (∀ j, w.heap.size < j → j < w1.heap.size → w2.heap[j]? = w1.heap[j]?) := fun j _ h6 => hb2.block j h6
  have HZ2 : Hid (w1.heap.size ≤ w2.heap.size) := hb2.size
  have HL2 : Hid (LkIn w2 base g wv L l) := HL.out.below HB2.out
  have HSZ : Hid (w.heap.size < w1.heap.size) := by have h5 := HR0.out.lt; have h6 := hb1.size; show _ < _; omega
  have HGF : Hid (w1.heap.size ≠ g) := by have h5 := HGL.out; have h6 := HSZ.out; show _ ≠ _; omega
  have HRF : Hid (some w1.heap.size ≠ wv.ownBlock) := fun e => by have h5 := HVL.out _ e.symm; have h6 := HSZ.out; omega
  clear hb1 hb2 HRD
  go_wp2_with fail
  rw [← HW2.out]
  refine (lk_accept w2 base g wv L l HL2.out 1 x0 x1 x2 _ _ _ _ _ _ _ _ ot gr HBB.out.1 HBB.out.2.1 HBB.out.2.2.1 HBB.out.2.2.2.1 HBB.out.2.2.2.2).mono ?_
  rw [HD.out]
  rintro e w3 ⟨rfl, HL3, hf3⟩
  have HFr3 : Hid (Bk w3 w1.heap.size #[.int .u8 1, .int .i64 (x0 : Int), .int .i64 (x1 : Int), .int .i64 (x2 : Int), .int .i64 pk, .int .i64 pp, .int .i64 ps, .int .i64 pn, .int .i64 pf, .int .i64 pt, .slice sa sn sc, .slice ia im ic] 78) := HFr2.out.fr hf3 HGF.out HRF.out
  have HR3 : Hid (Bk w3 w.heap.size #[.int .i64 0, .int .i64 0, .int .i64 0, .int .i64 0, .int .i64 0, .int .i64 0, .slice none 0 0, .slice none 0 0] 37) := HR2.out.fr hf3 HGX.out HRX.out
  have HF3 : Hid (Fr w w3 g wv) := (Fr.of HB2.out).trans hf3 trivial
  have HS3 : Hid (∀ j, w.heap.size < j → j < w1.heap.size → w3.heap[j]? = w1.heap[j]?) := fun j h5 h6 => (hf3.blk j (Nat.lt_of_lt_of_le h6 HZ2.out) (by have := HGL.out; omega) (fun e => by have := HVL.out j e.symm; omega)).trans (HS2.out j h5 h6)
  have HZ3 : Hid (w1.heap.size ≤ w3.heap.size) := Nat.le_trans HZ2.out hf3.all.size
  clear hf3
  have c7 : w3.cell? ⟨g, 7, none⟩ = some (.int .i64 hd) := by rw [← HHD.out]; exact HL3.out.blk.cell 7 rfl
  have fg : ∀ i, w3.frozen? ⟨g, i, none⟩ = false := fun i => HL3.out.blk.free i
  obtain ⟨w4, HW4⟩ : ∃ w4, Hid (w4 = w3.setCell ⟨g, 7, none⟩ (.int .i64 m)) := ⟨_, rfl⟩
  have HL4 : Hid (LkIn w4 base g wv L { l' with heard := m }) := by rw [HW4.out]; exact HL3.out.heard_ m
  have HF4 : Hid (Fr w w4 g wv) := by rw [HW4.out]; exact HF3.out.set
  have HFr4 : Hid (Bk w4 w1.heap.size #[.int .u8 1, .int .i64 (x0 : Int), .int .i64 (x1 : Int), .int .i64 (x2 : Int), .int .i64 pk, .int .i64 pp, .int .i64 ps, .int .i64 pn, .int .i64 pf, .int .i64 pt, .slice sa sn sc, .slice ia im ic] 78) := by rw [HW4.out]; exact HFr3.out.other _ _ HGF.out
  have HR4 : Hid (Bk w4 w.heap.size #[.int .i64 0, .int .i64 0, .int .i64 0, .int .i64 0, .int .i64 0, .int .i64 0, .slice none 0 0, .slice none 0 0] 37) := by rw [HW4.out]; exact HR3.out.other _ _ HGX.out
  have HS4 : Hid (∀ j, w.heap.size < j → j < w1.heap.size → w4.heap[j]? = w1.heap[j]?) := fun j h5 h6 => by rw [HW4.out, heap_setCell_other _ ⟨g, 7, none⟩ j _ (by have := HGL.out; show j ≠ g; omega)]; exact HS3.out j h5 h6
  have HZ4 : Hid (w1.heap.size ≤ w4.heap.size) := by show _ ≤ _; rw [HW4.out]; simpa using HZ3.out
  have k0 : (w3.setCell ⟨g, 7, none⟩ (.int .i64 m)).cell? ⟨w1.heap.size, 0, none⟩ = some (.int .u8 1) := by rw [← HW4.out]; exact HFr4.out.cell 0 rfl
  go_wp2
  rw [← HW4.out]
  obtain ⟨w5, HW5⟩ : ∃ w5, Hid (w5 = w4) := ⟨_, rfl⟩
  rw [← HW5.out]
  have HL5 : Hid (LkIn w5 base g wv L { l' with heard := m }) := by rw [HW5.out]; exact HL4.out
  have HF5 : Hid (Fr w w5 g wv) := by rw [HW5.out]; exact HF4.out
  have HFr5 : Hid (Bk w5 w1.heap.size #[.int .u8 1, .int .i64 (x0 : Int), .int .i64 (x1 : Int), .int .i64 (x2 : Int), .int .i64 pk, .int .i64 pp, .int .i64 ps, .int .i64 pn, .int .i64 pf, .int .i64 pt, .slice sa sn sc, .slice ia im ic] 78) := by rw [HW5.out]; exact HFr4.out
  have HR5 : Hid (Bk w5 w.heap.size #[.int .i64 0, .int .i64 0, .int .i64 0, .int .i64 0, .int .i64 0, .int .i64 0, .slice none 0 0, .slice none 0 0] 37) := by rw [HW5.out]; exact HR4.out
  have HS5 : Hid (∀ j, w.heap.size < j → j < w1.heap.size → w5.heap[j]? = w1.heap[j]?) := by rw [HW5.out]; exact HS4.out
  obtain ⟨wd, HWD⟩ : ∃ wd, Hid (wd = w5.drew) := ⟨_, rfl⟩
  have hbd : Below w5.heap.size w5 wd := by rw [HWD.out]; exact below_drew (Below.refl _ _)
  have HFrd : Hid (Bk wd w1.heap.size #[.int .u8 1, .int .i64 (x0 : Int), .int .i64 (x1 : Int), .int .i64 (x2 : Int), .int .i64 pk, .int .i64 pp, .int .i64 ps, .int .i64 pn, .int .i64 pf, .int .i64 pt, .slice sa sn sc, .slice ia im ic] 78) := HFr5.out.stay hbd
  have HRd : Hid (Bk wd w.heap.size #[.int .i64 0, .int .i64 0, .int .i64 0, .int .i64 0, .int .i64 0, .int .i64 0, .slice none 0 0, .slice none 0 0] 37) := HR5.out.stay hbd
  have HLd : Hid (LkIn wd base g wv L { l' with heard := m }) := HL5.out.below hbd
  have HFd : Hid (Fr w wd g wv) := HF5.out.trans (Fr.of hbd) trivial
  have HSd : Hid (∀ j, w.heap.size < j → j < w1.heap.size → wd.heap[j]? = w1.heap[j]?) := fun j h5 h6 => by
    have h7 := HFr5.out.lt
    rw [hbd.block j (by omega)]
    exact HS5.out j h5 h6
  clear hbd c7 fg k0
  refine wp_region_held_drew (S := fun w' => w'.cell? ⟨w1.heap.size, 0, none⟩ = some (.int .u8 1) ∧ w'.cell? ⟨w1.heap.size, 4, none⟩ = some (.int .i64 pk) ∧ w'.cell? ⟨w1.heap.size, 5, none⟩ = some (.int .i64 pp) ∧ w'.cell? ⟨w1.heap.size, 6, none⟩ = some (.int .i64 ps) ∧ w'.cell? ⟨w1.heap.size, 7, none⟩ = some (.int .i64 pn) ∧ w'.cell? ⟨w1.heap.size, 8, none⟩ = some (.int .i64 pf) ∧ w'.cell? ⟨w1.heap.size, 9, none⟩ = some (.int .i64 pt) ∧ w'.cell? ⟨w1.heap.size, 10, none⟩ = some (.slice sa sn sc) ∧ w'.cell? ⟨w1.heap.size, 11, none⟩ = some (.slice ia im ic)) (by kernel_rfl) (by rw [← HWD.out]; exact ⟨HFrd.out.cell 0 rfl, HFrd.out.cell 4 rfl, HFrd.out.cell 5 rfl, HFrd.out.cell 6 rfl, HFrd.out.cell 7 rfl, HFrd.out.cell 8 rfl, HFrd.out.cell 9 rfl, HFrd.out.cell 10 rfl, HFrd.out.cell 11 rfl⟩) (fun hHeld => ?_)
  rw [← HWD.out] at hHeld ⊢
  refine take_putH (i := 0) (v := ?_) (some 50) rfl (by kernel_rfl) (by kernel_rfl) (by kernel_rfl) (by kernel_rfl) (fun _ _ _ h => h) (Or.inl ⟨by rfl, ?_⟩) hHeld ?_
  rotate_left
  · (intro w hSw; obtain ⟨z0, z1, z2, z3, z4, z5, z6, z7, z8⟩ := hSw; go_simp; try with_reducible rfl)
  try simp only [Act.put, List.setIfInBounds_toArray, List.set_cons_zero, List.set_cons_succ]
  refine take_putH (i := 1) (v := ?_) (some 51) rfl (by kernel_rfl) (by kernel_rfl) (by kernel_rfl) (by kernel_rfl) (fun _ _ _ h => h) (Or.inl ⟨by rfl, ?_⟩) hHeld ?_
  rotate_left
  · (intro w hSw; obtain ⟨z0, z1, z2, z3, z4, z5, z6, z7, z8⟩ := hSw; go_simp; try with_reducible rfl)
  try simp only [Act.put, List.setIfInBounds_toArray, List.set_cons_zero, List.set_cons_succ]
  refine take_putH (i := 2) (v := ?_) (some 52) rfl (by kernel_rfl) (by kernel_rfl) (by kernel_rfl) (by kernel_rfl) (fun _ _ _ h => h) (Or.inl ⟨by rfl, ?_⟩) hHeld ?_
  rotate_left
  · (intro w hSw; obtain ⟨z0, z1, z2, z3, z4, z5, z6, z7, z8⟩ := hSw; go_simp; try with_reducible rfl)
  try simp only [Act.put, List.setIfInBounds_toArray, List.set_cons_zero, List.set_cons_succ]
  refine take_putH (i := 3) (v := ?_) (some 53) rfl (by kernel_rfl) (by kernel_rfl) (by kernel_rfl) (by kernel_rfl) (fun _ _ _ h => h) (Or.inl ⟨by rfl, ?_⟩) hHeld ?_
  rotate_left
  · (intro w hSw; obtain ⟨z0, z1, z2, z3, z4, z5, z6, z7, z8⟩ := hSw; go_simp; try with_reducible rfl)
  try simp only [Act.put, List.setIfInBounds_toArray, List.set_cons_zero, List.set_cons_succ]
  refine take_putH (i := 4) (v := ?_) (some 54) rfl (by kernel_rfl) (by kernel_rfl) (by kernel_rfl) (by kernel_rfl) (fun _ _ _ h => h) (Or.inl ⟨by rfl, ?_⟩) hHeld ?_
  rotate_left
  · (intro w hSw; obtain ⟨z0, z1, z2, z3, z4, z5, z6, z7, z8⟩ := hSw; go_simp; try with_reducible rfl)
  try simp only [Act.put, List.setIfInBounds_toArray, List.set_cons_zero, List.set_cons_succ]
  have hS0 : wd.cell? ⟨w1.heap.size, 0, none⟩ = some (.int .u8 1) ∧ wd.cell? ⟨w1.heap.size, 4, none⟩ = some (.int .i64 pk) ∧ wd.cell? ⟨w1.heap.size, 5, none⟩ = some (.int .i64 pp) ∧ wd.cell? ⟨w1.heap.size, 6, none⟩ = some (.int .i64 ps) ∧ wd.cell? ⟨w1.heap.size, 7, none⟩ = some (.int .i64 pn) ∧ wd.cell? ⟨w1.heap.size, 8, none⟩ = some (.int .i64 pf) ∧ wd.cell? ⟨w1.heap.size, 9, none⟩ = some (.int .i64 pt) ∧ wd.cell? ⟨w1.heap.size, 10, none⟩ = some (.slice sa sn sc) ∧ wd.cell? ⟨w1.heap.size, 11, none⟩ = some (.slice ia im ic) := hHeld
  clear hHeld
  have fz : ∀ i, wd.frozen? ⟨w.heap.size, i, none⟩ = false := fun i => HRd.out.free i
  have r0 : wd.cell? ⟨w.heap.size, 0, none⟩ = some (.int .i64 0) := HRd.out.cell 0 rfl
  have r1 : wd.cell? ⟨w.heap.size, 1, none⟩ = some (.int .i64 0) := HRd.out.cell 1 rfl
  have r2 : wd.cell? ⟨w.heap.size, 2, none⟩ = some (.int .i64 0) := HRd.out.cell 2 rfl
  have r3 : wd.cell? ⟨w.heap.size, 3, none⟩ = some (.int .i64 0) := HRd.out.cell 3 rfl
  have r4 : wd.cell? ⟨w.heap.size, 4, none⟩ = some (.int .i64 0) := HRd.out.cell 4 rfl
  have r5 : wd.cell? ⟨w.heap.size, 5, none⟩ = some (.int .i64 0) := HRd.out.cell 5 rfl
  have r6 : wd.cell? ⟨w.heap.size, 6, none⟩ = some (.slice none 0 0) := HRd.out.cell 6 rfl
  have r7 : wd.cell? ⟨w.heap.size, 7, none⟩ = some (.slice none 0 0) := HRd.out.cell 7 rfl
  obtain ⟨w7, HW7⟩ : ∃ w7, Hid (w7 = set8 wd w.heap.size (.int .i64 pk) (.int .i64 pp) (.int .i64 ps) (.int .i64 pn) (.int .i64 pf) (.int .i64 pt) (.slice sa sn sc) (.slice ia im ic)) := ⟨_, rfl⟩
  have HFr7 : Hid (Bk w7 w1.heap.size #[.int .u8 1, .int .i64 (x0 : Int), .int .i64 (x1 : Int), .int .i64 (x2 : Int), .int .i64 pk, .int .i64 pp, .int .i64 ps, .int .i64 pn, .int .i64 pf, .int .i64 pt, .slice sa sn sc, .slice ia im ic] 78) := by unfold Bk; rw [HW7.out, set8_other _ _ _ _ _ _ _ _ _ _ _ (by have h5 := HSZ.out; omega)]; exact HFrd.out
  have HR7 : Hid (Bk w7 w.heap.size #[.int .i64 pk, .int .i64 pp, .int .i64 ps, .int .i64 pn, .int .i64 pf, .int .i64 pt, .slice sa sn sc, .slice ia im ic] 37) := by rw [HW7.out]; exact HRd.out.set8 (.int .i64 pk) (.int .i64 pp) (.int .i64 ps) (.int .i64 pn) (.int .i64 pf) (.int .i64 pt) (.slice sa sn sc) (.slice ia im ic)
  have HL7 : Hid (LkIn w7 base g wv L { l' with heard := m }) := by rw [HW7.out]; exact HLd.out.away (R := w.heap.size) (by rw [set8_size]; exact Nat.le_refl _) (fun k hk => set8_other _ _ _ _ _ _ _ _ _ _ k hk) HRd.out (by decide) (by decide) (by decide)
  have HF7 : Hid (Fr w w7 g wv) := by rw [HW7.out]; exact HFd.out.set8_new (Nat.le_refl _)
  have HP7 : Hid (P w7 (.agg #[.int .i64 pk, .int .i64 pp, .int .i64 ps, .int .i64 pn, .int .i64 pf, .int .i64 pt, .slice sa sn sc, .slice ia im ic])) := HPS.out w1 w7 _ (fun j hj hj2 => by rw [HW7.out, set8_other _ _ _ _ _ _ _ _ _ _ j (by omega)]; exact HSd.out j hj hj2) HP1.out
  refine wpAnyH_ready (rs := [5]) (by kernel_rfl) (by simp) ?_
  refine AllReadyH.cons rfl (fun K hK => ?_) AllReadyH.nil
  go_simp
  have hS7 : w7.cell? ⟨w1.heap.size, 0, none⟩ = some (.int .u8 1) ∧ w7.cell? ⟨w1.heap.size, 4, none⟩ = some (.int .i64 pk) ∧ w7.cell? ⟨w1.heap.size, 5, none⟩ = some (.int .i64 pp) ∧ w7.cell? ⟨w1.heap.size, 6, none⟩ = some (.int .i64 ps) ∧ w7.cell? ⟨w1.heap.size, 7, none⟩ = some (.int .i64 pn) ∧ w7.cell? ⟨w1.heap.size, 8, none⟩ = some (.int .i64 pf) ∧ w7.cell? ⟨w1.heap.size, 9, none⟩ = some (.int .i64 pt) ∧ w7.cell? ⟨w1.heap.size, 10, none⟩ = some (.slice sa sn sc) ∧ w7.cell? ⟨w1.heap.size, 11, none⟩ = some (.slice ia im ic) := ⟨HFr7.out.cell 0 rfl, HFr7.out.cell 4 rfl, HFr7.out.cell 5 rfl, HFr7.out.cell 6 rfl, HFr7.out.cell 7 rfl, HFr7.out.cell 8 rfl, HFr7.out.cell 9 rfl, HFr7.out.cell 10 rfl, HFr7.out.cell 11 rfl⟩
  refine (fun h => by have e := HW7.out; unfold set8 at e; rw [← e]; exact h) ?_
  refine hK.out _ _ hS7 (fun _ => ?_)
  clear hK K
  try simp only [Act.put, List.getElem_toArray, List.getElem_cons_succ, List.getElem_cons_zero, List.setIfInBounds_toArray, List.set_cons_zero, List.set_cons_succ]
  refine take_putH (i := 6) (v := ?_) (some 7) rfl (by kernel_rfl) (by kernel_rfl) (by kernel_rfl) (by kernel_rfl) (fun _ _ _ h => h) (Or.inl ⟨by rfl, ?_⟩) hS7 ?_
  rotate_left
  · (intro w hSw; obtain ⟨z0, z1, z2, z3, z4, z5, z6, z7, z8⟩ := hSw; go_simp; try with_reducible rfl)
  try simp only [Act.put, List.setIfInBounds_toArray, List.set_cons_zero, List.set_cons_succ]
  refine take_putH (i := 7) (v := ?_) (some 8) rfl (by kernel_rfl) (by kernel_rfl) (by kernel_rfl) (by kernel_rfl) (fun _ _ _ h => h) (Or.inl ⟨by rfl, ?_⟩) hS7 ?_
  rotate_left
  · (intro w hSw; obtain ⟨z0, z1, z2, z3, z4, z5, z6, z7, z8⟩ := hSw; go_simp; try with_reducible rfl)
  try simp only [Act.put, List.setIfInBounds_toArray, List.set_cons_zero, List.set_cons_succ]
  refine wpAnyH_done (by kernel_rfl) ?_ _
  go_wp2
  try simp only [Exit.inBlock, Exit.then]
  refine bodyPost_ret (results_take rfl (by rfl) (by rfl) (by rfl) HR7.out) rfl ?_
  exact ⟨⟨_, rfl, HP7⟩, HL7, HF7.out⟩

set_option maxRecDepth 100000 in
set_option maxHeartbeats 4000000 in
theorem lk_Take_yes_2 (w : World) (base g : Nat) (wv : Value) (L : List (Wt × Bd)) (l : Lk) (h : LkIn w base g wv L l) (a : Option Addr) (n c : Nat) (x0 x1 x2 now : Nat) (ot gr : Nat) (hot : l.other = (ot : Int)) (hgr : l.great = (gr : Int)) (hgb : gr ≤ 1099511627776) (hb : l.bits_ < 18446744073709551616) (hx2 : x2 ≤ 1099511627776) (hnow : now ≤ 1099511627776) (P : World → Value → Prop)
    (hrd : ∀ W, Below w.heap.size w W → w.heap.size + 1 ≤ W.heap.size → Calls Tryd.prog 23 #[.slice a n c] W fun e w' => ReadTold 2 x0 x1 x2 W P e w')
    (hps : ∀ w1 w2 v, (∀ j, w.heap.size < j → j < w1.heap.size → w2.heap[j]? = w1.heap[j]?) → P w1 v → P w2 v) (hyes : (accR l ot gr x0 x1 x2).1 = 0) (m : Int) (hm : max (accR l ot gr x0 x1 x2).2.heard (now : Int) = m) (hq : (L.length : Int) < (accR l ot gr x0 x1 x2).2.queue) (hl : L.length ≤ 1000) :
    Calls Tryd.prog 10 #[.pointer (some ⟨g, 0, none⟩), .slice a n c, .int .i64 (now : Int)] w fun e w' => (∃ v, e = .returned (.tuple #[v, .bool false, .int .i64 0]) ∧ Hid (P w' v)) ∧ Hid (∃ v', LkIn w' base g v' (L ++ [((⟨3, []⟩ : Wt), ((none, 0, 0) : Bd))]) { (accR l ot gr x0 x1 x2).2 with heard := m }) ∧ Fr w w' g wv := by
  obtain ⟨W0, HW0⟩ : ∃ W0, Hid (W0 = w.alloc (.cells #[.int .i64 0, .int .i64 0, .int .i64 0, .int .i64 0, .int .i64 0, .int .i64 0, .slice none 0 0, .slice none 0 0] 37)) := ⟨_, rfl⟩
  have HB0 : Hid (Below w.heap.size w W0) := by rw [HW0.out]; exact below_new _ _
  have HR0 : Hid (Bk W0 w.heap.size #[.int .i64 0, .int .i64 0, .int .i64 0, .int .i64 0, .int .i64 0, .int .i64 0, .slice none 0 0, .slice none 0 0] 37) := by rw [HW0.out]; exact Bk.new _ _ _
  have HRD : Hid (Calls Tryd.prog 23 #[.slice a n c] W0 fun e w' => ReadTold 2 x0 x1 x2 W0 P e w') := hrd W0 HB0.out (by rw [HW0.out]; simp)
  have HL : Hid (LkIn w base g wv L l) := h
  have HPS : Hid (∀ w1 w2 v, (∀ j, w.heap.size < j → j < w1.heap.size → w2.heap[j]? = w1.heap[j]?) → P w1 v → P w2 v) := hps
  have HGX : Hid (w.heap.size ≠ g) := by have := h.blk.lt; show _ ≠ _; omega
  have HRX : Hid (some w.heap.size ≠ wv.ownBlock) := by
    intro e
    have := (h.row.lt w.heap.size e.symm).2
    omega
  have HGL : Hid (g < w.heap.size) := h.blk.lt
  have HVL : Hid (∀ j, wv.ownBlock = some j → j < w.heap.size) := fun j hj => (h.row.lt j hj).2
  have HBB : Hid (l.other = (ot : Int) ∧ l.great = (gr : Int) ∧ gr ≤ 1099511627776 ∧ l.bits_ < 18446744073709551616 ∧ x2 ≤ 1099511627776) := ⟨hot, hgr, hgb, hb, hx2⟩
  obtain ⟨⟨d, l'⟩, HD⟩ : ∃ d, Hid (accR l ot gr x0 x1 x2 = d) := ⟨_, rfl⟩
  rw [HD.out] at hyes hm hq ⊢
  simp only at hyes hm hq ⊢
  have HQ : Hid ((L.length : Int) < l'.queue) := hq
  clear hq
  subst hyes
  obtain ⟨hd, HHD⟩ : ∃ hd, Hid (l'.heard = hd) := ⟨_, rfl⟩
  rw [HHD.out] at hm
  have g1 : ¬ (now : Int) < 0 := by omega
  have g2 : ¬ (1099511627776 : Int) < (now : Int) := by omega
  clear h hrd hot hgr hgb hb hx2 hps
  go_enter Tryd.func10, Tryd.ntmps10
  go_wp2_with fail
  rw [← HW0.out]
  refine HRD.out.mono ?_
  rintro e w1 ⟨⟨pk, pp, ps, pn, pf, pt, sa, sn, sc, ia, im, ic, he, HP1⟩, hb1⟩
  subst he
  have HB1 : Hid (Below w.heap.size w w1) := HB0.out.trans (hb1.mono HB0.out.size)
  obtain ⟨w2, HW2⟩ : ∃ w2, Hid (w2 = w1.alloc (.cells #[.int .u8 2, .int .i64 (x0 : Int), .int .i64 (x1 : Int), .int .i64 (x2 : Int), .int .i64 pk, .int .i64 pp, .int .i64 ps, .int .i64 pn, .int .i64 pf, .int .i64 pt, .slice sa sn sc, .slice ia im ic] 78)) := ⟨_, rfl⟩
  have hb2 : Below w1.heap.size w1 w2 := by rw [HW2.out]; exact below_new _ _
  have HFr2 : Hid (Bk w2 w1.heap.size #[.int .u8 2, .int .i64 (x0 : Int), .int .i64 (x1 : Int), .int .i64 (x2 : Int), .int .i64 pk, .int .i64 pp, .int .i64 ps, .int .i64 pn, .int .i64 pf, .int .i64 pt, .slice sa sn sc, .slice ia im ic] 78) := by rw [HW2.out]; exact Bk.new _ _ _
  have HR2 : Hid (Bk w2 w.heap.size #[.int .i64 0, .int .i64 0, .int .i64 0, .int .i64 0, .int .i64 0, .int .i64 0, .slice none 0 0, .slice none 0 0] 37) := (HR0.out.stay hb1).stay hb2
  have HB2 : Hid (Below w.heap.size w w2) := HB1.out.trans (hb2.mono HB1.out.size)
  have HS2 : Hid (∀ j, w.heap.size < j → j < w1.heap.size → w2.heap[j]? = w1.heap[j]?) := fun j _ h6 => hb2.block j h6
  have HZ2 : Hid (w1.heap.size ≤ w2.heap.size) := hb2.size
  have HL2 : Hid (LkIn w2 base g wv L l) := HL.out.below HB2.out
  have HSZ : Hid (w.heap.size < w1.heap.size) := by have h5 := HR0.out.lt; have h6 := hb1.size; show _ < _; omega
  have HGF : Hid (w1.heap.size ≠ g) := by have h5 := HGL.out; have h6 := HSZ.out; show _ ≠ _; omega
  have HRF : Hid (some w1.heap.size ≠ wv.ownBlock) := fun e => by have h5 := HVL.out _ e.symm; have h6 := HSZ.out; omega
  clear hb1 hb2 HRD
  go_wp2_with fail
  rw [← HW2.out]
  refine (lk_accept w2 base g wv L l HL2.out 2 x0 x1 x2 _ _ _ _ _ _ _ _ ot gr HBB.out.1 HBB.out.2.1 HBB.out.2.2.1 HBB.out.2.2.2.1 HBB.out.2.2.2.2).mono ?_
  rw [HD.out]
  rintro e w3 ⟨rfl, HL3, hf3⟩
  have HFr3 : Hid (Bk w3 w1.heap.size #[.int .u8 2, .int .i64 (x0 : Int), .int .i64 (x1 : Int), .int .i64 (x2 : Int), .int .i64 pk, .int .i64 pp, .int .i64 ps, .int .i64 pn, .int .i64 pf, .int .i64 pt, .slice sa sn sc, .slice ia im ic] 78) := HFr2.out.fr hf3 HGF.out HRF.out
  have HR3 : Hid (Bk w3 w.heap.size #[.int .i64 0, .int .i64 0, .int .i64 0, .int .i64 0, .int .i64 0, .int .i64 0, .slice none 0 0, .slice none 0 0] 37) := HR2.out.fr hf3 HGX.out HRX.out
  have HF3 : Hid (Fr w w3 g wv) := (Fr.of HB2.out).trans hf3 trivial
  have HS3 : Hid (∀ j, w.heap.size < j → j < w1.heap.size → w3.heap[j]? = w1.heap[j]?) := fun j h5 h6 => (hf3.blk j (Nat.lt_of_lt_of_le h6 HZ2.out) (by have := HGL.out; omega) (fun e => by have := HVL.out j e.symm; omega)).trans (HS2.out j h5 h6)
  have HZ3 : Hid (w1.heap.size ≤ w3.heap.size) := Nat.le_trans HZ2.out hf3.all.size
  clear hf3
  have c7 : w3.cell? ⟨g, 7, none⟩ = some (.int .i64 hd) := by rw [← HHD.out]; exact HL3.out.blk.cell 7 rfl
  have fg : ∀ i, w3.frozen? ⟨g, i, none⟩ = false := fun i => HL3.out.blk.free i
  obtain ⟨w4, HW4⟩ : ∃ w4, Hid (w4 = w3.setCell ⟨g, 7, none⟩ (.int .i64 m)) := ⟨_, rfl⟩
  have HL4 : Hid (LkIn w4 base g wv L { l' with heard := m }) := by rw [HW4.out]; exact HL3.out.heard_ m
  have HF4 : Hid (Fr w w4 g wv) := by rw [HW4.out]; exact HF3.out.set
  have HFr4 : Hid (Bk w4 w1.heap.size #[.int .u8 2, .int .i64 (x0 : Int), .int .i64 (x1 : Int), .int .i64 (x2 : Int), .int .i64 pk, .int .i64 pp, .int .i64 ps, .int .i64 pn, .int .i64 pf, .int .i64 pt, .slice sa sn sc, .slice ia im ic] 78) := by rw [HW4.out]; exact HFr3.out.other _ _ HGF.out
  have HR4 : Hid (Bk w4 w.heap.size #[.int .i64 0, .int .i64 0, .int .i64 0, .int .i64 0, .int .i64 0, .int .i64 0, .slice none 0 0, .slice none 0 0] 37) := by rw [HW4.out]; exact HR3.out.other _ _ HGX.out
  have HS4 : Hid (∀ j, w.heap.size < j → j < w1.heap.size → w4.heap[j]? = w1.heap[j]?) := fun j h5 h6 => by rw [HW4.out, heap_setCell_other _ ⟨g, 7, none⟩ j _ (by have := HGL.out; show j ≠ g; omega)]; exact HS3.out j h5 h6
  have HZ4 : Hid (w1.heap.size ≤ w4.heap.size) := by show _ ≤ _; rw [HW4.out]; simpa using HZ3.out
  have k0 : (w3.setCell ⟨g, 7, none⟩ (.int .i64 m)).cell? ⟨w1.heap.size, 0, none⟩ = some (.int .u8 2) := by rw [← HW4.out]; exact HFr4.out.cell 0 rfl
  have HO4 : Hid (Own w4 base none 0 0 []) := Own.none_ _ _
  go_wp2_with fail
  rw [← HW4.out]
  refine (lk_wait_ok w4 base g wv L { l' with heard := m } HL4.out 3 (by omega) none 0 0 [] HO4.out HQ.out hl).mono ?_
  rintro e w5 ⟨rfl, HL5e, hf5⟩
  obtain ⟨v5, hL5⟩ := HL5e.out
  have HL5 : Hid (LkIn w5 base g v5 (L ++ [((⟨3, []⟩ : Wt), ((none, 0, 0) : Bd))]) { l' with heard := m }) := hL5
  have HF5 : Hid (Fr w w5 g wv) := HF4.out.trans hf5 trivial
  have HFr5 : Hid (Bk w5 w1.heap.size #[.int .u8 2, .int .i64 (x0 : Int), .int .i64 (x1 : Int), .int .i64 (x2 : Int), .int .i64 pk, .int .i64 pp, .int .i64 ps, .int .i64 pn, .int .i64 pf, .int .i64 pt, .slice sa sn sc, .slice ia im ic] 78) := HFr4.out.fr hf5 HGF.out HRF.out
  have HR5 : Hid (Bk w5 w.heap.size #[.int .i64 0, .int .i64 0, .int .i64 0, .int .i64 0, .int .i64 0, .int .i64 0, .slice none 0 0, .slice none 0 0] 37) := HR4.out.fr hf5 HGX.out HRX.out
  have HS5 : Hid (∀ j, w.heap.size < j → j < w1.heap.size → w5.heap[j]? = w1.heap[j]?) := fun j h5 h6 => (hf5.blk j (Nat.lt_of_lt_of_le h6 HZ4.out) (by have := HGL.out; omega) (fun e => by have := HVL.out j e.symm; omega)).trans (HS4.out j h5 h6)
  clear hf5 hL5 HL5e
  go_wp2
  obtain ⟨wd, HWD⟩ : ∃ wd, Hid (wd = w5.drew) := ⟨_, rfl⟩
  have hbd : Below w5.heap.size w5 wd := by rw [HWD.out]; exact below_drew (Below.refl _ _)
  have HFrd : Hid (Bk wd w1.heap.size #[.int .u8 2, .int .i64 (x0 : Int), .int .i64 (x1 : Int), .int .i64 (x2 : Int), .int .i64 pk, .int .i64 pp, .int .i64 ps, .int .i64 pn, .int .i64 pf, .int .i64 pt, .slice sa sn sc, .slice ia im ic] 78) := HFr5.out.stay hbd
  have HRd : Hid (Bk wd w.heap.size #[.int .i64 0, .int .i64 0, .int .i64 0, .int .i64 0, .int .i64 0, .int .i64 0, .slice none 0 0, .slice none 0 0] 37) := HR5.out.stay hbd
  have HLd : Hid (LkIn wd base g v5 (L ++ [((⟨3, []⟩ : Wt), ((none, 0, 0) : Bd))]) { l' with heard := m }) := HL5.out.below hbd
  have HFd : Hid (Fr w wd g wv) := HF5.out.trans (Fr.of hbd) trivial
  have HSd : Hid (∀ j, w.heap.size < j → j < w1.heap.size → wd.heap[j]? = w1.heap[j]?) := fun j h5 h6 => by
    have h7 := HFr5.out.lt
    rw [hbd.block j (by omega)]
    exact HS5.out j h5 h6
  clear hbd c7 fg k0
  refine wp_region_held_drew (S := fun w' => w'.cell? ⟨w1.heap.size, 0, none⟩ = some (.int .u8 2) ∧ w'.cell? ⟨w1.heap.size, 4, none⟩ = some (.int .i64 pk) ∧ w'.cell? ⟨w1.heap.size, 5, none⟩ = some (.int .i64 pp) ∧ w'.cell? ⟨w1.heap.size, 6, none⟩ = some (.int .i64 ps) ∧ w'.cell? ⟨w1.heap.size, 7, none⟩ = some (.int .i64 pn) ∧ w'.cell? ⟨w1.heap.size, 8, none⟩ = some (.int .i64 pf) ∧ w'.cell? ⟨w1.heap.size, 9, none⟩ = some (.int .i64 pt) ∧ w'.cell? ⟨w1.heap.size, 10, none⟩ = some (.slice sa sn sc) ∧ w'.cell? ⟨w1.heap.size, 11, none⟩ = some (.slice ia im ic)) (by kernel_rfl) (by rw [← HWD.out]; exact ⟨HFrd.out.cell 0 rfl, HFrd.out.cell 4 rfl, HFrd.out.cell 5 rfl, HFrd.out.cell 6 rfl, HFrd.out.cell 7 rfl, HFrd.out.cell 8 rfl, HFrd.out.cell 9 rfl, HFrd.out.cell 10 rfl, HFrd.out.cell 11 rfl⟩) (fun hHeld => ?_)
  rw [← HWD.out] at hHeld ⊢
  refine take_putH (i := 0) (v := ?_) (some 50) rfl (by kernel_rfl) (by kernel_rfl) (by kernel_rfl) (by kernel_rfl) (fun _ _ _ h => h) (Or.inl ⟨by rfl, ?_⟩) hHeld ?_
  rotate_left
  · (intro w hSw; obtain ⟨z0, z1, z2, z3, z4, z5, z6, z7, z8⟩ := hSw; go_simp; try with_reducible rfl)
  try simp only [Act.put, List.setIfInBounds_toArray, List.set_cons_zero, List.set_cons_succ]
  refine take_putH (i := 1) (v := ?_) (some 51) rfl (by kernel_rfl) (by kernel_rfl) (by kernel_rfl) (by kernel_rfl) (fun _ _ _ h => h) (Or.inl ⟨by rfl, ?_⟩) hHeld ?_
  rotate_left
  · (intro w hSw; obtain ⟨z0, z1, z2, z3, z4, z5, z6, z7, z8⟩ := hSw; go_simp; try with_reducible rfl)
  try simp only [Act.put, List.setIfInBounds_toArray, List.set_cons_zero, List.set_cons_succ]
  refine take_putH (i := 2) (v := ?_) (some 52) rfl (by kernel_rfl) (by kernel_rfl) (by kernel_rfl) (by kernel_rfl) (fun _ _ _ h => h) (Or.inl ⟨by rfl, ?_⟩) hHeld ?_
  rotate_left
  · (intro w hSw; obtain ⟨z0, z1, z2, z3, z4, z5, z6, z7, z8⟩ := hSw; go_simp; try with_reducible rfl)
  try simp only [Act.put, List.setIfInBounds_toArray, List.set_cons_zero, List.set_cons_succ]
  refine take_putH (i := 3) (v := ?_) (some 53) rfl (by kernel_rfl) (by kernel_rfl) (by kernel_rfl) (by kernel_rfl) (fun _ _ _ h => h) (Or.inl ⟨by rfl, ?_⟩) hHeld ?_
  rotate_left
  · (intro w hSw; obtain ⟨z0, z1, z2, z3, z4, z5, z6, z7, z8⟩ := hSw; go_simp; try with_reducible rfl)
  try simp only [Act.put, List.setIfInBounds_toArray, List.set_cons_zero, List.set_cons_succ]
  refine take_putH (i := 4) (v := ?_) (some 54) rfl (by kernel_rfl) (by kernel_rfl) (by kernel_rfl) (by kernel_rfl) (fun _ _ _ h => h) (Or.inl ⟨by rfl, ?_⟩) hHeld ?_
  rotate_left
  · (intro w hSw; obtain ⟨z0, z1, z2, z3, z4, z5, z6, z7, z8⟩ := hSw; go_simp; try with_reducible rfl)
  try simp only [Act.put, List.setIfInBounds_toArray, List.set_cons_zero, List.set_cons_succ]
  have hS0 : wd.cell? ⟨w1.heap.size, 0, none⟩ = some (.int .u8 2) ∧ wd.cell? ⟨w1.heap.size, 4, none⟩ = some (.int .i64 pk) ∧ wd.cell? ⟨w1.heap.size, 5, none⟩ = some (.int .i64 pp) ∧ wd.cell? ⟨w1.heap.size, 6, none⟩ = some (.int .i64 ps) ∧ wd.cell? ⟨w1.heap.size, 7, none⟩ = some (.int .i64 pn) ∧ wd.cell? ⟨w1.heap.size, 8, none⟩ = some (.int .i64 pf) ∧ wd.cell? ⟨w1.heap.size, 9, none⟩ = some (.int .i64 pt) ∧ wd.cell? ⟨w1.heap.size, 10, none⟩ = some (.slice sa sn sc) ∧ wd.cell? ⟨w1.heap.size, 11, none⟩ = some (.slice ia im ic) := hHeld
  clear hHeld
  have fz : ∀ i, wd.frozen? ⟨w.heap.size, i, none⟩ = false := fun i => HRd.out.free i
  have r0 : wd.cell? ⟨w.heap.size, 0, none⟩ = some (.int .i64 0) := HRd.out.cell 0 rfl
  have r1 : wd.cell? ⟨w.heap.size, 1, none⟩ = some (.int .i64 0) := HRd.out.cell 1 rfl
  have r2 : wd.cell? ⟨w.heap.size, 2, none⟩ = some (.int .i64 0) := HRd.out.cell 2 rfl
  have r3 : wd.cell? ⟨w.heap.size, 3, none⟩ = some (.int .i64 0) := HRd.out.cell 3 rfl
  have r4 : wd.cell? ⟨w.heap.size, 4, none⟩ = some (.int .i64 0) := HRd.out.cell 4 rfl
  have r5 : wd.cell? ⟨w.heap.size, 5, none⟩ = some (.int .i64 0) := HRd.out.cell 5 rfl
  have r6 : wd.cell? ⟨w.heap.size, 6, none⟩ = some (.slice none 0 0) := HRd.out.cell 6 rfl
  have r7 : wd.cell? ⟨w.heap.size, 7, none⟩ = some (.slice none 0 0) := HRd.out.cell 7 rfl
  obtain ⟨w7, HW7⟩ : ∃ w7, Hid (w7 = set8 wd w.heap.size (.int .i64 pk) (.int .i64 pp) (.int .i64 ps) (.int .i64 pn) (.int .i64 pf) (.int .i64 pt) (.slice sa sn sc) (.slice ia im ic)) := ⟨_, rfl⟩
  have HFr7 : Hid (Bk w7 w1.heap.size #[.int .u8 2, .int .i64 (x0 : Int), .int .i64 (x1 : Int), .int .i64 (x2 : Int), .int .i64 pk, .int .i64 pp, .int .i64 ps, .int .i64 pn, .int .i64 pf, .int .i64 pt, .slice sa sn sc, .slice ia im ic] 78) := by unfold Bk; rw [HW7.out, set8_other _ _ _ _ _ _ _ _ _ _ _ (by have h5 := HSZ.out; omega)]; exact HFrd.out
  have HR7 : Hid (Bk w7 w.heap.size #[.int .i64 pk, .int .i64 pp, .int .i64 ps, .int .i64 pn, .int .i64 pf, .int .i64 pt, .slice sa sn sc, .slice ia im ic] 37) := by rw [HW7.out]; exact HRd.out.set8 (.int .i64 pk) (.int .i64 pp) (.int .i64 ps) (.int .i64 pn) (.int .i64 pf) (.int .i64 pt) (.slice sa sn sc) (.slice ia im ic)
  have HL7 : Hid (LkIn w7 base g v5 (L ++ [((⟨3, []⟩ : Wt), ((none, 0, 0) : Bd))]) { l' with heard := m }) := by rw [HW7.out]; exact HLd.out.away (R := w.heap.size) (by rw [set8_size]; exact Nat.le_refl _) (fun k hk => set8_other _ _ _ _ _ _ _ _ _ _ k hk) HRd.out (by decide) (by decide) (by decide)
  have HF7 : Hid (Fr w w7 g wv) := by rw [HW7.out]; exact HFd.out.set8_new (Nat.le_refl _)
  have HP7 : Hid (P w7 (.agg #[.int .i64 pk, .int .i64 pp, .int .i64 ps, .int .i64 pn, .int .i64 pf, .int .i64 pt, .slice sa sn sc, .slice ia im ic])) := HPS.out w1 w7 _ (fun j hj hj2 => by rw [HW7.out, set8_other _ _ _ _ _ _ _ _ _ _ j (by omega)]; exact HSd.out j hj hj2) HP1.out
  refine wpAnyH_ready (rs := [5]) (by kernel_rfl) (by simp) ?_
  refine AllReadyH.cons rfl (fun K hK => ?_) AllReadyH.nil
  go_simp
  have hS7 : w7.cell? ⟨w1.heap.size, 0, none⟩ = some (.int .u8 2) ∧ w7.cell? ⟨w1.heap.size, 4, none⟩ = some (.int .i64 pk) ∧ w7.cell? ⟨w1.heap.size, 5, none⟩ = some (.int .i64 pp) ∧ w7.cell? ⟨w1.heap.size, 6, none⟩ = some (.int .i64 ps) ∧ w7.cell? ⟨w1.heap.size, 7, none⟩ = some (.int .i64 pn) ∧ w7.cell? ⟨w1.heap.size, 8, none⟩ = some (.int .i64 pf) ∧ w7.cell? ⟨w1.heap.size, 9, none⟩ = some (.int .i64 pt) ∧ w7.cell? ⟨w1.heap.size, 10, none⟩ = some (.slice sa sn sc) ∧ w7.cell? ⟨w1.heap.size, 11, none⟩ = some (.slice ia im ic) := ⟨HFr7.out.cell 0 rfl, HFr7.out.cell 4 rfl, HFr7.out.cell 5 rfl, HFr7.out.cell 6 rfl, HFr7.out.cell 7 rfl, HFr7.out.cell 8 rfl, HFr7.out.cell 9 rfl, HFr7.out.cell 10 rfl, HFr7.out.cell 11 rfl⟩
  refine (fun h => by have e := HW7.out; unfold set8 at e; rw [← e]; exact h) ?_
  refine hK.out _ _ hS7 (fun _ => ?_)
  clear hK K
  try simp only [Act.put, List.getElem_toArray, List.getElem_cons_succ, List.getElem_cons_zero, List.setIfInBounds_toArray, List.set_cons_zero, List.set_cons_succ]
  refine take_putH (i := 6) (v := ?_) (some 7) rfl (by kernel_rfl) (by kernel_rfl) (by kernel_rfl) (by kernel_rfl) (fun _ _ _ h => h) (Or.inl ⟨by rfl, ?_⟩) hS7 ?_
  rotate_left
  · (intro w hSw; obtain ⟨z0, z1, z2, z3, z4, z5, z6, z7, z8⟩ := hSw; go_simp; try with_reducible rfl)
  try simp only [Act.put, List.setIfInBounds_toArray, List.set_cons_zero, List.set_cons_succ]
  refine take_putH (i := 7) (v := ?_) (some 8) rfl (by kernel_rfl) (by kernel_rfl) (by kernel_rfl) (by kernel_rfl) (fun _ _ _ h => h) (Or.inl ⟨by rfl, ?_⟩) hS7 ?_
  rotate_left
  · (intro w hSw; obtain ⟨z0, z1, z2, z3, z4, z5, z6, z7, z8⟩ := hSw; go_simp; try with_reducible rfl)
  try simp only [Act.put, List.setIfInBounds_toArray, List.set_cons_zero, List.set_cons_succ]
  refine wpAnyH_done (by kernel_rfl) ?_ _
  go_wp2
  try simp only [Exit.inBlock, Exit.then]
  refine bodyPost_ret (results_take rfl (by rfl) (by rfl) (by rfl) HR7.out) rfl ?_
  exact ⟨⟨_, rfl, HP7⟩, ⟨_, HL7.out⟩, HF7.out⟩

set_option maxRecDepth 100000 in
set_option maxHeartbeats 4000000 in
theorem lk_Take_yes_2f (w : World) (base g : Nat) (wv : Value) (L : List (Wt × Bd)) (l : Lk) (h : LkIn w base g wv L l) (a : Option Addr) (n c : Nat) (x0 x1 x2 now : Nat) (ot gr : Nat) (hot : l.other = (ot : Int)) (hgr : l.great = (gr : Int)) (hgb : gr ≤ 1099511627776) (hb : l.bits_ < 18446744073709551616) (hx2 : x2 ≤ 1099511627776) (hnow : now ≤ 1099511627776) (P : World → Value → Prop)
    (hrd : ∀ W, Below w.heap.size w W → w.heap.size + 1 ≤ W.heap.size → Calls Tryd.prog 23 #[.slice a n c] W fun e w' => ReadTold 2 x0 x1 x2 W P e w')
    (hps : ∀ w1 w2 v, (∀ j, w.heap.size < j → j < w1.heap.size → w2.heap[j]? = w1.heap[j]?) → P w1 v → P w2 v) (hyes : (accR l ot gr x0 x1 x2).1 = 0) (m : Int) (hm : max (accR l ot gr x0 x1 x2).2.heard (now : Int) = m) (hq : (accR l ot gr x0 x1 x2).2.queue ≤ (L.length : Int)) :
    Calls Tryd.prog 10 #[.pointer (some ⟨g, 0, none⟩), .slice a n c, .int .i64 (now : Int)] w fun e w' => (∃ v, e = .returned (.tuple #[v, .bool false, .int .i64 0]) ∧ Hid (P w' v)) ∧ Hid (LkIn w' base g wv L { (accR l ot gr x0 x1 x2).2 with heard := m }) ∧ Fr w w' g wv := by
  obtain ⟨W0, HW0⟩ : ∃ W0, Hid (W0 = w.alloc (.cells #[.int .i64 0, .int .i64 0, .int .i64 0, .int .i64 0, .int .i64 0, .int .i64 0, .slice none 0 0, .slice none 0 0] 37)) := ⟨_, rfl⟩
  have HB0 : Hid (Below w.heap.size w W0) := by rw [HW0.out]; exact below_new _ _
  have HR0 : Hid (Bk W0 w.heap.size #[.int .i64 0, .int .i64 0, .int .i64 0, .int .i64 0, .int .i64 0, .int .i64 0, .slice none 0 0, .slice none 0 0] 37) := by rw [HW0.out]; exact Bk.new _ _ _
  have HRD : Hid (Calls Tryd.prog 23 #[.slice a n c] W0 fun e w' => ReadTold 2 x0 x1 x2 W0 P e w') := hrd W0 HB0.out (by rw [HW0.out]; simp)
  have HL : Hid (LkIn w base g wv L l) := h
  have HPS : Hid (∀ w1 w2 v, (∀ j, w.heap.size < j → j < w1.heap.size → w2.heap[j]? = w1.heap[j]?) → P w1 v → P w2 v) := hps
  have HGX : Hid (w.heap.size ≠ g) := by have := h.blk.lt; show _ ≠ _; omega
  have HRX : Hid (some w.heap.size ≠ wv.ownBlock) := by
    intro e
    have := (h.row.lt w.heap.size e.symm).2
    omega
  have HGL : Hid (g < w.heap.size) := h.blk.lt
  have HVL : Hid (∀ j, wv.ownBlock = some j → j < w.heap.size) := fun j hj => (h.row.lt j hj).2
  have HBB : Hid (l.other = (ot : Int) ∧ l.great = (gr : Int) ∧ gr ≤ 1099511627776 ∧ l.bits_ < 18446744073709551616 ∧ x2 ≤ 1099511627776) := ⟨hot, hgr, hgb, hb, hx2⟩
  obtain ⟨⟨d, l'⟩, HD⟩ : ∃ d, Hid (accR l ot gr x0 x1 x2 = d) := ⟨_, rfl⟩
  rw [HD.out] at hyes hm hq ⊢
  simp only at hyes hm hq ⊢
  have HQ : Hid (l'.queue ≤ (L.length : Int)) := hq
  clear hq
  subst hyes
  obtain ⟨hd, HHD⟩ : ∃ hd, Hid (l'.heard = hd) := ⟨_, rfl⟩
  rw [HHD.out] at hm
  have g1 : ¬ (now : Int) < 0 := by omega
  have g2 : ¬ (1099511627776 : Int) < (now : Int) := by omega
  clear h hrd hot hgr hgb hb hx2 hps
  go_enter Tryd.func10, Tryd.ntmps10
  go_wp2_with fail
  rw [← HW0.out]
  refine HRD.out.mono ?_
  rintro e w1 ⟨⟨pk, pp, ps, pn, pf, pt, sa, sn, sc, ia, im, ic, he, HP1⟩, hb1⟩
  subst he
  have HB1 : Hid (Below w.heap.size w w1) := HB0.out.trans (hb1.mono HB0.out.size)
  obtain ⟨w2, HW2⟩ : ∃ w2, Hid (w2 = w1.alloc (.cells #[.int .u8 2, .int .i64 (x0 : Int), .int .i64 (x1 : Int), .int .i64 (x2 : Int), .int .i64 pk, .int .i64 pp, .int .i64 ps, .int .i64 pn, .int .i64 pf, .int .i64 pt, .slice sa sn sc, .slice ia im ic] 78)) := ⟨_, rfl⟩
  have hb2 : Below w1.heap.size w1 w2 := by rw [HW2.out]; exact below_new _ _
  have HFr2 : Hid (Bk w2 w1.heap.size #[.int .u8 2, .int .i64 (x0 : Int), .int .i64 (x1 : Int), .int .i64 (x2 : Int), .int .i64 pk, .int .i64 pp, .int .i64 ps, .int .i64 pn, .int .i64 pf, .int .i64 pt, .slice sa sn sc, .slice ia im ic] 78) := by rw [HW2.out]; exact Bk.new _ _ _
  have HR2 : Hid (Bk w2 w.heap.size #[.int .i64 0, .int .i64 0, .int .i64 0, .int .i64 0, .int .i64 0, .int .i64 0, .slice none 0 0, .slice none 0 0] 37) := (HR0.out.stay hb1).stay hb2
  have HB2 : Hid (Below w.heap.size w w2) := HB1.out.trans (hb2.mono HB1.out.size)
  have HS2 : Hid (∀ j, w.heap.size < j → j < w1.heap.size → w2.heap[j]? = w1.heap[j]?) := fun j _ h6 => hb2.block j h6
  have HZ2 : Hid (w1.heap.size ≤ w2.heap.size) := hb2.size
  have HL2 : Hid (LkIn w2 base g wv L l) := HL.out.below HB2.out
  have HSZ : Hid (w.heap.size < w1.heap.size) := by have h5 := HR0.out.lt; have h6 := hb1.size; show _ < _; omega
  have HGF : Hid (w1.heap.size ≠ g) := by have h5 := HGL.out; have h6 := HSZ.out; show _ ≠ _; omega
  have HRF : Hid (some w1.heap.size ≠ wv.ownBlock) := fun e => by have h5 := HVL.out _ e.symm; have h6 := HSZ.out; omega
  clear hb1 hb2 HRD
  go_wp2_with fail
  rw [← HW2.out]
  refine (lk_accept w2 base g wv L l HL2.out 2 x0 x1 x2 _ _ _ _ _ _ _ _ ot gr HBB.out.1 HBB.out.2.1 HBB.out.2.2.1 HBB.out.2.2.2.1 HBB.out.2.2.2.2).mono ?_
  rw [HD.out]
  rintro e w3 ⟨rfl, HL3, hf3⟩
  have HFr3 : Hid (Bk w3 w1.heap.size #[.int .u8 2, .int .i64 (x0 : Int), .int .i64 (x1 : Int), .int .i64 (x2 : Int), .int .i64 pk, .int .i64 pp, .int .i64 ps, .int .i64 pn, .int .i64 pf, .int .i64 pt, .slice sa sn sc, .slice ia im ic] 78) := HFr2.out.fr hf3 HGF.out HRF.out
  have HR3 : Hid (Bk w3 w.heap.size #[.int .i64 0, .int .i64 0, .int .i64 0, .int .i64 0, .int .i64 0, .int .i64 0, .slice none 0 0, .slice none 0 0] 37) := HR2.out.fr hf3 HGX.out HRX.out
  have HF3 : Hid (Fr w w3 g wv) := (Fr.of HB2.out).trans hf3 trivial
  have HS3 : Hid (∀ j, w.heap.size < j → j < w1.heap.size → w3.heap[j]? = w1.heap[j]?) := fun j h5 h6 => (hf3.blk j (Nat.lt_of_lt_of_le h6 HZ2.out) (by have := HGL.out; omega) (fun e => by have := HVL.out j e.symm; omega)).trans (HS2.out j h5 h6)
  have HZ3 : Hid (w1.heap.size ≤ w3.heap.size) := Nat.le_trans HZ2.out hf3.all.size
  clear hf3
  have c7 : w3.cell? ⟨g, 7, none⟩ = some (.int .i64 hd) := by rw [← HHD.out]; exact HL3.out.blk.cell 7 rfl
  have fg : ∀ i, w3.frozen? ⟨g, i, none⟩ = false := fun i => HL3.out.blk.free i
  obtain ⟨w4, HW4⟩ : ∃ w4, Hid (w4 = w3.setCell ⟨g, 7, none⟩ (.int .i64 m)) := ⟨_, rfl⟩
  have HL4 : Hid (LkIn w4 base g wv L { l' with heard := m }) := by rw [HW4.out]; exact HL3.out.heard_ m
  have HF4 : Hid (Fr w w4 g wv) := by rw [HW4.out]; exact HF3.out.set
  have HFr4 : Hid (Bk w4 w1.heap.size #[.int .u8 2, .int .i64 (x0 : Int), .int .i64 (x1 : Int), .int .i64 (x2 : Int), .int .i64 pk, .int .i64 pp, .int .i64 ps, .int .i64 pn, .int .i64 pf, .int .i64 pt, .slice sa sn sc, .slice ia im ic] 78) := by rw [HW4.out]; exact HFr3.out.other _ _ HGF.out
  have HR4 : Hid (Bk w4 w.heap.size #[.int .i64 0, .int .i64 0, .int .i64 0, .int .i64 0, .int .i64 0, .int .i64 0, .slice none 0 0, .slice none 0 0] 37) := by rw [HW4.out]; exact HR3.out.other _ _ HGX.out
  have HS4 : Hid (∀ j, w.heap.size < j → j < w1.heap.size → w4.heap[j]? = w1.heap[j]?) := fun j h5 h6 => by rw [HW4.out, heap_setCell_other _ ⟨g, 7, none⟩ j _ (by have := HGL.out; show j ≠ g; omega)]; exact HS3.out j h5 h6
  have HZ4 : Hid (w1.heap.size ≤ w4.heap.size) := by show _ ≤ _; rw [HW4.out]; simpa using HZ3.out
  have k0 : (w3.setCell ⟨g, 7, none⟩ (.int .i64 m)).cell? ⟨w1.heap.size, 0, none⟩ = some (.int .u8 2) := by rw [← HW4.out]; exact HFr4.out.cell 0 rfl
  go_wp2_with fail
  rw [← HW4.out]
  refine (lk_wait_full w4 base g wv L { l' with heard := m } HL4.out 3 none 0 0 HQ.out).mono ?_
  rintro e w5 ⟨rfl, hb5⟩
  have HL5 : Hid (LkIn w5 base g wv L { l' with heard := m }) := HL4.out.below hb5
  have HF5 : Hid (Fr w w5 g wv) := HF4.out.trans (Fr.of hb5) trivial
  have HFr5 : Hid (Bk w5 w1.heap.size #[.int .u8 2, .int .i64 (x0 : Int), .int .i64 (x1 : Int), .int .i64 (x2 : Int), .int .i64 pk, .int .i64 pp, .int .i64 ps, .int .i64 pn, .int .i64 pf, .int .i64 pt, .slice sa sn sc, .slice ia im ic] 78) := HFr4.out.stay hb5
  have HR5 : Hid (Bk w5 w.heap.size #[.int .i64 0, .int .i64 0, .int .i64 0, .int .i64 0, .int .i64 0, .int .i64 0, .slice none 0 0, .slice none 0 0] 37) := HR4.out.stay hb5
  have HS5 : Hid (∀ j, w.heap.size < j → j < w1.heap.size → w5.heap[j]? = w1.heap[j]?) := fun j h5 h6 => (hb5.block j (Nat.lt_of_lt_of_le h6 HZ4.out)).trans (HS4.out j h5 h6)
  clear hb5
  go_wp2
  obtain ⟨wd, HWD⟩ : ∃ wd, Hid (wd = w5.drew) := ⟨_, rfl⟩
  have hbd : Below w5.heap.size w5 wd := by rw [HWD.out]; exact below_drew (Below.refl _ _)
  have HFrd : Hid (Bk wd w1.heap.size #[.int .u8 2, .int .i64 (x0 : Int), .int .i64 (x1 : Int), .int .i64 (x2 : Int), .int .i64 pk, .int .i64 pp, .int .i64 ps, .int .i64 pn, .int .i64 pf, .int .i64 pt, .slice sa sn sc, .slice ia im ic] 78) := HFr5.out.stay hbd
  have HRd : Hid (Bk wd w.heap.size #[.int .i64 0, .int .i64 0, .int .i64 0, .int .i64 0, .int .i64 0, .int .i64 0, .slice none 0 0, .slice none 0 0] 37) := HR5.out.stay hbd
  have HLd : Hid (LkIn wd base g wv L { l' with heard := m }) := HL5.out.below hbd
  have HFd : Hid (Fr w wd g wv) := HF5.out.trans (Fr.of hbd) trivial
  have HSd : Hid (∀ j, w.heap.size < j → j < w1.heap.size → wd.heap[j]? = w1.heap[j]?) := fun j h5 h6 => by
    have h7 := HFr5.out.lt
    rw [hbd.block j (by omega)]
    exact HS5.out j h5 h6
  clear hbd c7 fg k0
  refine wp_region_held_drew (S := fun w' => w'.cell? ⟨w1.heap.size, 0, none⟩ = some (.int .u8 2) ∧ w'.cell? ⟨w1.heap.size, 4, none⟩ = some (.int .i64 pk) ∧ w'.cell? ⟨w1.heap.size, 5, none⟩ = some (.int .i64 pp) ∧ w'.cell? ⟨w1.heap.size, 6, none⟩ = some (.int .i64 ps) ∧ w'.cell? ⟨w1.heap.size, 7, none⟩ = some (.int .i64 pn) ∧ w'.cell? ⟨w1.heap.size, 8, none⟩ = some (.int .i64 pf) ∧ w'.cell? ⟨w1.heap.size, 9, none⟩ = some (.int .i64 pt) ∧ w'.cell? ⟨w1.heap.size, 10, none⟩ = some (.slice sa sn sc) ∧ w'.cell? ⟨w1.heap.size, 11, none⟩ = some (.slice ia im ic)) (by kernel_rfl) (by rw [← HWD.out]; exact ⟨HFrd.out.cell 0 rfl, HFrd.out.cell 4 rfl, HFrd.out.cell 5 rfl, HFrd.out.cell 6 rfl, HFrd.out.cell 7 rfl, HFrd.out.cell 8 rfl, HFrd.out.cell 9 rfl, HFrd.out.cell 10 rfl, HFrd.out.cell 11 rfl⟩) (fun hHeld => ?_)
  rw [← HWD.out] at hHeld ⊢
  refine take_putH (i := 0) (v := ?_) (some 50) rfl (by kernel_rfl) (by kernel_rfl) (by kernel_rfl) (by kernel_rfl) (fun _ _ _ h => h) (Or.inl ⟨by rfl, ?_⟩) hHeld ?_
  rotate_left
  · (intro w hSw; obtain ⟨z0, z1, z2, z3, z4, z5, z6, z7, z8⟩ := hSw; go_simp; try with_reducible rfl)
  try simp only [Act.put, List.setIfInBounds_toArray, List.set_cons_zero, List.set_cons_succ]
  refine take_putH (i := 1) (v := ?_) (some 51) rfl (by kernel_rfl) (by kernel_rfl) (by kernel_rfl) (by kernel_rfl) (fun _ _ _ h => h) (Or.inl ⟨by rfl, ?_⟩) hHeld ?_
  rotate_left
  · (intro w hSw; obtain ⟨z0, z1, z2, z3, z4, z5, z6, z7, z8⟩ := hSw; go_simp; try with_reducible rfl)
  try simp only [Act.put, List.setIfInBounds_toArray, List.set_cons_zero, List.set_cons_succ]
  refine take_putH (i := 2) (v := ?_) (some 52) rfl (by kernel_rfl) (by kernel_rfl) (by kernel_rfl) (by kernel_rfl) (fun _ _ _ h => h) (Or.inl ⟨by rfl, ?_⟩) hHeld ?_
  rotate_left
  · (intro w hSw; obtain ⟨z0, z1, z2, z3, z4, z5, z6, z7, z8⟩ := hSw; go_simp; try with_reducible rfl)
  try simp only [Act.put, List.setIfInBounds_toArray, List.set_cons_zero, List.set_cons_succ]
  refine take_putH (i := 3) (v := ?_) (some 53) rfl (by kernel_rfl) (by kernel_rfl) (by kernel_rfl) (by kernel_rfl) (fun _ _ _ h => h) (Or.inl ⟨by rfl, ?_⟩) hHeld ?_
  rotate_left
  · (intro w hSw; obtain ⟨z0, z1, z2, z3, z4, z5, z6, z7, z8⟩ := hSw; go_simp; try with_reducible rfl)
  try simp only [Act.put, List.setIfInBounds_toArray, List.set_cons_zero, List.set_cons_succ]
  refine take_putH (i := 4) (v := ?_) (some 54) rfl (by kernel_rfl) (by kernel_rfl) (by kernel_rfl) (by kernel_rfl) (fun _ _ _ h => h) (Or.inl ⟨by rfl, ?_⟩) hHeld ?_
  rotate_left
  · (intro w hSw; obtain ⟨z0, z1, z2, z3, z4, z5, z6, z7, z8⟩ := hSw; go_simp; try with_reducible rfl)
  try simp only [Act.put, List.setIfInBounds_toArray, List.set_cons_zero, List.set_cons_succ]
  have hS0 : wd.cell? ⟨w1.heap.size, 0, none⟩ = some (.int .u8 2) ∧ wd.cell? ⟨w1.heap.size, 4, none⟩ = some (.int .i64 pk) ∧ wd.cell? ⟨w1.heap.size, 5, none⟩ = some (.int .i64 pp) ∧ wd.cell? ⟨w1.heap.size, 6, none⟩ = some (.int .i64 ps) ∧ wd.cell? ⟨w1.heap.size, 7, none⟩ = some (.int .i64 pn) ∧ wd.cell? ⟨w1.heap.size, 8, none⟩ = some (.int .i64 pf) ∧ wd.cell? ⟨w1.heap.size, 9, none⟩ = some (.int .i64 pt) ∧ wd.cell? ⟨w1.heap.size, 10, none⟩ = some (.slice sa sn sc) ∧ wd.cell? ⟨w1.heap.size, 11, none⟩ = some (.slice ia im ic) := hHeld
  clear hHeld
  have fz : ∀ i, wd.frozen? ⟨w.heap.size, i, none⟩ = false := fun i => HRd.out.free i
  have r0 : wd.cell? ⟨w.heap.size, 0, none⟩ = some (.int .i64 0) := HRd.out.cell 0 rfl
  have r1 : wd.cell? ⟨w.heap.size, 1, none⟩ = some (.int .i64 0) := HRd.out.cell 1 rfl
  have r2 : wd.cell? ⟨w.heap.size, 2, none⟩ = some (.int .i64 0) := HRd.out.cell 2 rfl
  have r3 : wd.cell? ⟨w.heap.size, 3, none⟩ = some (.int .i64 0) := HRd.out.cell 3 rfl
  have r4 : wd.cell? ⟨w.heap.size, 4, none⟩ = some (.int .i64 0) := HRd.out.cell 4 rfl
  have r5 : wd.cell? ⟨w.heap.size, 5, none⟩ = some (.int .i64 0) := HRd.out.cell 5 rfl
  have r6 : wd.cell? ⟨w.heap.size, 6, none⟩ = some (.slice none 0 0) := HRd.out.cell 6 rfl
  have r7 : wd.cell? ⟨w.heap.size, 7, none⟩ = some (.slice none 0 0) := HRd.out.cell 7 rfl
  obtain ⟨w7, HW7⟩ : ∃ w7, Hid (w7 = set8 wd w.heap.size (.int .i64 pk) (.int .i64 pp) (.int .i64 ps) (.int .i64 pn) (.int .i64 pf) (.int .i64 pt) (.slice sa sn sc) (.slice ia im ic)) := ⟨_, rfl⟩
  have HFr7 : Hid (Bk w7 w1.heap.size #[.int .u8 2, .int .i64 (x0 : Int), .int .i64 (x1 : Int), .int .i64 (x2 : Int), .int .i64 pk, .int .i64 pp, .int .i64 ps, .int .i64 pn, .int .i64 pf, .int .i64 pt, .slice sa sn sc, .slice ia im ic] 78) := by unfold Bk; rw [HW7.out, set8_other _ _ _ _ _ _ _ _ _ _ _ (by have h5 := HSZ.out; omega)]; exact HFrd.out
  have HR7 : Hid (Bk w7 w.heap.size #[.int .i64 pk, .int .i64 pp, .int .i64 ps, .int .i64 pn, .int .i64 pf, .int .i64 pt, .slice sa sn sc, .slice ia im ic] 37) := by rw [HW7.out]; exact HRd.out.set8 (.int .i64 pk) (.int .i64 pp) (.int .i64 ps) (.int .i64 pn) (.int .i64 pf) (.int .i64 pt) (.slice sa sn sc) (.slice ia im ic)
  have HL7 : Hid (LkIn w7 base g wv L { l' with heard := m }) := by rw [HW7.out]; exact HLd.out.away (R := w.heap.size) (by rw [set8_size]; exact Nat.le_refl _) (fun k hk => set8_other _ _ _ _ _ _ _ _ _ _ k hk) HRd.out (by decide) (by decide) (by decide)
  have HF7 : Hid (Fr w w7 g wv) := by rw [HW7.out]; exact HFd.out.set8_new (Nat.le_refl _)
  have HP7 : Hid (P w7 (.agg #[.int .i64 pk, .int .i64 pp, .int .i64 ps, .int .i64 pn, .int .i64 pf, .int .i64 pt, .slice sa sn sc, .slice ia im ic])) := HPS.out w1 w7 _ (fun j hj hj2 => by rw [HW7.out, set8_other _ _ _ _ _ _ _ _ _ _ j (by omega)]; exact HSd.out j hj hj2) HP1.out
  refine wpAnyH_ready (rs := [5]) (by kernel_rfl) (by simp) ?_
  refine AllReadyH.cons rfl (fun K hK => ?_) AllReadyH.nil
  go_simp
  have hS7 : w7.cell? ⟨w1.heap.size, 0, none⟩ = some (.int .u8 2) ∧ w7.cell? ⟨w1.heap.size, 4, none⟩ = some (.int .i64 pk) ∧ w7.cell? ⟨w1.heap.size, 5, none⟩ = some (.int .i64 pp) ∧ w7.cell? ⟨w1.heap.size, 6, none⟩ = some (.int .i64 ps) ∧ w7.cell? ⟨w1.heap.size, 7, none⟩ = some (.int .i64 pn) ∧ w7.cell? ⟨w1.heap.size, 8, none⟩ = some (.int .i64 pf) ∧ w7.cell? ⟨w1.heap.size, 9, none⟩ = some (.int .i64 pt) ∧ w7.cell? ⟨w1.heap.size, 10, none⟩ = some (.slice sa sn sc) ∧ w7.cell? ⟨w1.heap.size, 11, none⟩ = some (.slice ia im ic) := ⟨HFr7.out.cell 0 rfl, HFr7.out.cell 4 rfl, HFr7.out.cell 5 rfl, HFr7.out.cell 6 rfl, HFr7.out.cell 7 rfl, HFr7.out.cell 8 rfl, HFr7.out.cell 9 rfl, HFr7.out.cell 10 rfl, HFr7.out.cell 11 rfl⟩
  refine (fun h => by have e := HW7.out; unfold set8 at e; rw [← e]; exact h) ?_
  refine hK.out _ _ hS7 (fun _ => ?_)
  clear hK K
  try simp only [Act.put, List.getElem_toArray, List.getElem_cons_succ, List.getElem_cons_zero, List.setIfInBounds_toArray, List.set_cons_zero, List.set_cons_succ]
  refine take_putH (i := 6) (v := ?_) (some 7) rfl (by kernel_rfl) (by kernel_rfl) (by kernel_rfl) (by kernel_rfl) (fun _ _ _ h => h) (Or.inl ⟨by rfl, ?_⟩) hS7 ?_
  rotate_left
  · (intro w hSw; obtain ⟨z0, z1, z2, z3, z4, z5, z6, z7, z8⟩ := hSw; go_simp; try with_reducible rfl)
  try simp only [Act.put, List.setIfInBounds_toArray, List.set_cons_zero, List.set_cons_succ]
  refine take_putH (i := 7) (v := ?_) (some 8) rfl (by kernel_rfl) (by kernel_rfl) (by kernel_rfl) (by kernel_rfl) (fun _ _ _ h => h) (Or.inl ⟨by rfl, ?_⟩) hS7 ?_
  rotate_left
  · (intro w hSw; obtain ⟨z0, z1, z2, z3, z4, z5, z6, z7, z8⟩ := hSw; go_simp; try with_reducible rfl)
  try simp only [Act.put, List.setIfInBounds_toArray, List.set_cons_zero, List.set_cons_succ]
  refine wpAnyH_done (by kernel_rfl) ?_ _
  go_wp2
  try simp only [Exit.inBlock, Exit.then]
  refine bodyPost_ret (results_take rfl (by rfl) (by rfl) (by rfl) HR7.out) rfl ?_
  exact ⟨⟨_, rfl, HP7⟩, HL7, HF7.out⟩

set_option maxRecDepth 100000 in
set_option maxHeartbeats 4000000 in
theorem lk_Take_yes_3 (w : World) (base g : Nat) (wv : Value) (L : List (Wt × Bd)) (l : Lk) (h : LkIn w base g wv L l) (a : Option Addr) (n c : Nat) (x0 x1 x2 now : Nat) (ot gr : Nat) (hot : l.other = (ot : Int)) (hgr : l.great = (gr : Int)) (hgb : gr ≤ 1099511627776) (hb : l.bits_ < 18446744073709551616) (hx2 : x2 ≤ 1099511627776) (hnow : now ≤ 1099511627776) (P : World → Value → Prop)
    (hrd : ∀ W, Below w.heap.size w W → w.heap.size + 1 ≤ W.heap.size → Calls Tryd.prog 23 #[.slice a n c] W fun e w' => ReadTold 3 x0 x1 x2 W P e w')
    (hps : ∀ w1 w2 v, (∀ j, w.heap.size < j → j < w1.heap.size → w2.heap[j]? = w1.heap[j]?) → P w1 v → P w2 v) (hyes : (accR l ot gr x0 x1 x2).1 = 0) (m : Int) (hm : max (accR l ot gr x0 x1 x2).2.heard (now : Int) = m) :
    Calls Tryd.prog 10 #[.pointer (some ⟨g, 0, none⟩), .slice a n c, .int .i64 (now : Int)] w fun e w' => (∃ v, e = .returned (.tuple #[v, .bool false, .int .i64 0]) ∧ Hid (P w' v)) ∧ Hid (LkIn w' base g wv L { (accR l ot gr x0 x1 x2).2 with heard := m }) ∧ Fr w w' g wv := by
  obtain ⟨W0, HW0⟩ : ∃ W0, Hid (W0 = w.alloc (.cells #[.int .i64 0, .int .i64 0, .int .i64 0, .int .i64 0, .int .i64 0, .int .i64 0, .slice none 0 0, .slice none 0 0] 37)) := ⟨_, rfl⟩
  have HB0 : Hid (Below w.heap.size w W0) := by rw [HW0.out]; exact below_new _ _
  have HR0 : Hid (Bk W0 w.heap.size #[.int .i64 0, .int .i64 0, .int .i64 0, .int .i64 0, .int .i64 0, .int .i64 0, .slice none 0 0, .slice none 0 0] 37) := by rw [HW0.out]; exact Bk.new _ _ _
  have HRD : Hid (Calls Tryd.prog 23 #[.slice a n c] W0 fun e w' => ReadTold 3 x0 x1 x2 W0 P e w') := hrd W0 HB0.out (by rw [HW0.out]; simp)
  have HL : Hid (LkIn w base g wv L l) := h
  have HPS : Hid (∀ w1 w2 v, (∀ j, w.heap.size < j → j < w1.heap.size → w2.heap[j]? = w1.heap[j]?) → P w1 v → P w2 v) := hps
  have HGX : Hid (w.heap.size ≠ g) := by have := h.blk.lt; show _ ≠ _; omega
  have HRX : Hid (some w.heap.size ≠ wv.ownBlock) := by
    intro e
    have := (h.row.lt w.heap.size e.symm).2
    omega
  have HGL : Hid (g < w.heap.size) := h.blk.lt
  have HVL : Hid (∀ j, wv.ownBlock = some j → j < w.heap.size) := fun j hj => (h.row.lt j hj).2
  have HBB : Hid (l.other = (ot : Int) ∧ l.great = (gr : Int) ∧ gr ≤ 1099511627776 ∧ l.bits_ < 18446744073709551616 ∧ x2 ≤ 1099511627776) := ⟨hot, hgr, hgb, hb, hx2⟩
  obtain ⟨⟨d, l'⟩, HD⟩ : ∃ d, Hid (accR l ot gr x0 x1 x2 = d) := ⟨_, rfl⟩
  rw [HD.out] at hyes hm ⊢
  simp only at hyes hm ⊢
  subst hyes
  obtain ⟨hd, HHD⟩ : ∃ hd, Hid (l'.heard = hd) := ⟨_, rfl⟩
  rw [HHD.out] at hm
  have g1 : ¬ (now : Int) < 0 := by omega
  have g2 : ¬ (1099511627776 : Int) < (now : Int) := by omega
  clear h hrd hot hgr hgb hb hx2 hps
  go_enter Tryd.func10, Tryd.ntmps10
  go_wp2_with fail
  rw [← HW0.out]
  refine HRD.out.mono ?_
  rintro e w1 ⟨⟨pk, pp, ps, pn, pf, pt, sa, sn, sc, ia, im, ic, he, HP1⟩, hb1⟩
  subst he
  have HB1 : Hid (Below w.heap.size w w1) := HB0.out.trans (hb1.mono HB0.out.size)
  obtain ⟨w2, HW2⟩ : ∃ w2, Hid (w2 = w1.alloc (.cells #[.int .u8 3, .int .i64 (x0 : Int), .int .i64 (x1 : Int), .int .i64 (x2 : Int), .int .i64 pk, .int .i64 pp, .int .i64 ps, .int .i64 pn, .int .i64 pf, .int .i64 pt, .slice sa sn sc, .slice ia im ic] 78)) := ⟨_, rfl⟩
  have hb2 : Below w1.heap.size w1 w2 := by rw [HW2.out]; exact below_new _ _
  have HFr2 : Hid (Bk w2 w1.heap.size #[.int .u8 3, .int .i64 (x0 : Int), .int .i64 (x1 : Int), .int .i64 (x2 : Int), .int .i64 pk, .int .i64 pp, .int .i64 ps, .int .i64 pn, .int .i64 pf, .int .i64 pt, .slice sa sn sc, .slice ia im ic] 78) := by rw [HW2.out]; exact Bk.new _ _ _
  have HR2 : Hid (Bk w2 w.heap.size #[.int .i64 0, .int .i64 0, .int .i64 0, .int .i64 0, .int .i64 0, .int .i64 0, .slice none 0 0, .slice none 0 0] 37) := (HR0.out.stay hb1).stay hb2
  have HB2 : Hid (Below w.heap.size w w2) := HB1.out.trans (hb2.mono HB1.out.size)
  have HS2 : Hid (∀ j, w.heap.size < j → j < w1.heap.size → w2.heap[j]? = w1.heap[j]?) := fun j _ h6 => hb2.block j h6
  have HZ2 : Hid (w1.heap.size ≤ w2.heap.size) := hb2.size
  have HL2 : Hid (LkIn w2 base g wv L l) := HL.out.below HB2.out
  have HSZ : Hid (w.heap.size < w1.heap.size) := by have h5 := HR0.out.lt; have h6 := hb1.size; show _ < _; omega
  have HGF : Hid (w1.heap.size ≠ g) := by have h5 := HGL.out; have h6 := HSZ.out; show _ ≠ _; omega
  have HRF : Hid (some w1.heap.size ≠ wv.ownBlock) := fun e => by have h5 := HVL.out _ e.symm; have h6 := HSZ.out; omega
  clear hb1 hb2 HRD
  go_wp2_with fail
  rw [← HW2.out]
  refine (lk_accept w2 base g wv L l HL2.out 3 x0 x1 x2 _ _ _ _ _ _ _ _ ot gr HBB.out.1 HBB.out.2.1 HBB.out.2.2.1 HBB.out.2.2.2.1 HBB.out.2.2.2.2).mono ?_
  rw [HD.out]
  rintro e w3 ⟨rfl, HL3, hf3⟩
  have HFr3 : Hid (Bk w3 w1.heap.size #[.int .u8 3, .int .i64 (x0 : Int), .int .i64 (x1 : Int), .int .i64 (x2 : Int), .int .i64 pk, .int .i64 pp, .int .i64 ps, .int .i64 pn, .int .i64 pf, .int .i64 pt, .slice sa sn sc, .slice ia im ic] 78) := HFr2.out.fr hf3 HGF.out HRF.out
  have HR3 : Hid (Bk w3 w.heap.size #[.int .i64 0, .int .i64 0, .int .i64 0, .int .i64 0, .int .i64 0, .int .i64 0, .slice none 0 0, .slice none 0 0] 37) := HR2.out.fr hf3 HGX.out HRX.out
  have HF3 : Hid (Fr w w3 g wv) := (Fr.of HB2.out).trans hf3 trivial
  have HS3 : Hid (∀ j, w.heap.size < j → j < w1.heap.size → w3.heap[j]? = w1.heap[j]?) := fun j h5 h6 => (hf3.blk j (Nat.lt_of_lt_of_le h6 HZ2.out) (by have := HGL.out; omega) (fun e => by have := HVL.out j e.symm; omega)).trans (HS2.out j h5 h6)
  have HZ3 : Hid (w1.heap.size ≤ w3.heap.size) := Nat.le_trans HZ2.out hf3.all.size
  clear hf3
  have c7 : w3.cell? ⟨g, 7, none⟩ = some (.int .i64 hd) := by rw [← HHD.out]; exact HL3.out.blk.cell 7 rfl
  have fg : ∀ i, w3.frozen? ⟨g, i, none⟩ = false := fun i => HL3.out.blk.free i
  obtain ⟨w4, HW4⟩ : ∃ w4, Hid (w4 = w3.setCell ⟨g, 7, none⟩ (.int .i64 m)) := ⟨_, rfl⟩
  have HL4 : Hid (LkIn w4 base g wv L { l' with heard := m }) := by rw [HW4.out]; exact HL3.out.heard_ m
  have HF4 : Hid (Fr w w4 g wv) := by rw [HW4.out]; exact HF3.out.set
  have HFr4 : Hid (Bk w4 w1.heap.size #[.int .u8 3, .int .i64 (x0 : Int), .int .i64 (x1 : Int), .int .i64 (x2 : Int), .int .i64 pk, .int .i64 pp, .int .i64 ps, .int .i64 pn, .int .i64 pf, .int .i64 pt, .slice sa sn sc, .slice ia im ic] 78) := by rw [HW4.out]; exact HFr3.out.other _ _ HGF.out
  have HR4 : Hid (Bk w4 w.heap.size #[.int .i64 0, .int .i64 0, .int .i64 0, .int .i64 0, .int .i64 0, .int .i64 0, .slice none 0 0, .slice none 0 0] 37) := by rw [HW4.out]; exact HR3.out.other _ _ HGX.out
  have HS4 : Hid (∀ j, w.heap.size < j → j < w1.heap.size → w4.heap[j]? = w1.heap[j]?) := fun j h5 h6 => by rw [HW4.out, heap_setCell_other _ ⟨g, 7, none⟩ j _ (by have := HGL.out; show j ≠ g; omega)]; exact HS3.out j h5 h6
  have HZ4 : Hid (w1.heap.size ≤ w4.heap.size) := by show _ ≤ _; rw [HW4.out]; simpa using HZ3.out
  have k0 : (w3.setCell ⟨g, 7, none⟩ (.int .i64 m)).cell? ⟨w1.heap.size, 0, none⟩ = some (.int .u8 3) := by rw [← HW4.out]; exact HFr4.out.cell 0 rfl
  go_wp2
  rw [← HW4.out]
  obtain ⟨w5, HW5⟩ : ∃ w5, Hid (w5 = w4) := ⟨_, rfl⟩
  rw [← HW5.out]
  have HL5 : Hid (LkIn w5 base g wv L { l' with heard := m }) := by rw [HW5.out]; exact HL4.out
  have HF5 : Hid (Fr w w5 g wv) := by rw [HW5.out]; exact HF4.out
  have HFr5 : Hid (Bk w5 w1.heap.size #[.int .u8 3, .int .i64 (x0 : Int), .int .i64 (x1 : Int), .int .i64 (x2 : Int), .int .i64 pk, .int .i64 pp, .int .i64 ps, .int .i64 pn, .int .i64 pf, .int .i64 pt, .slice sa sn sc, .slice ia im ic] 78) := by rw [HW5.out]; exact HFr4.out
  have HR5 : Hid (Bk w5 w.heap.size #[.int .i64 0, .int .i64 0, .int .i64 0, .int .i64 0, .int .i64 0, .int .i64 0, .slice none 0 0, .slice none 0 0] 37) := by rw [HW5.out]; exact HR4.out
  have HS5 : Hid (∀ j, w.heap.size < j → j < w1.heap.size → w5.heap[j]? = w1.heap[j]?) := by rw [HW5.out]; exact HS4.out
  obtain ⟨wd, HWD⟩ : ∃ wd, Hid (wd = w5.drew) := ⟨_, rfl⟩
  have hbd : Below w5.heap.size w5 wd := by rw [HWD.out]; exact below_drew (Below.refl _ _)
  have HFrd : Hid (Bk wd w1.heap.size #[.int .u8 3, .int .i64 (x0 : Int), .int .i64 (x1 : Int), .int .i64 (x2 : Int), .int .i64 pk, .int .i64 pp, .int .i64 ps, .int .i64 pn, .int .i64 pf, .int .i64 pt, .slice sa sn sc, .slice ia im ic] 78) := HFr5.out.stay hbd
  have HRd : Hid (Bk wd w.heap.size #[.int .i64 0, .int .i64 0, .int .i64 0, .int .i64 0, .int .i64 0, .int .i64 0, .slice none 0 0, .slice none 0 0] 37) := HR5.out.stay hbd
  have HLd : Hid (LkIn wd base g wv L { l' with heard := m }) := HL5.out.below hbd
  have HFd : Hid (Fr w wd g wv) := HF5.out.trans (Fr.of hbd) trivial
  have HSd : Hid (∀ j, w.heap.size < j → j < w1.heap.size → wd.heap[j]? = w1.heap[j]?) := fun j h5 h6 => by
    have h7 := HFr5.out.lt
    rw [hbd.block j (by omega)]
    exact HS5.out j h5 h6
  clear hbd c7 fg k0
  refine wp_region_held_drew (S := fun w' => w'.cell? ⟨w1.heap.size, 0, none⟩ = some (.int .u8 3) ∧ w'.cell? ⟨w1.heap.size, 4, none⟩ = some (.int .i64 pk) ∧ w'.cell? ⟨w1.heap.size, 5, none⟩ = some (.int .i64 pp) ∧ w'.cell? ⟨w1.heap.size, 6, none⟩ = some (.int .i64 ps) ∧ w'.cell? ⟨w1.heap.size, 7, none⟩ = some (.int .i64 pn) ∧ w'.cell? ⟨w1.heap.size, 8, none⟩ = some (.int .i64 pf) ∧ w'.cell? ⟨w1.heap.size, 9, none⟩ = some (.int .i64 pt) ∧ w'.cell? ⟨w1.heap.size, 10, none⟩ = some (.slice sa sn sc) ∧ w'.cell? ⟨w1.heap.size, 11, none⟩ = some (.slice ia im ic)) (by kernel_rfl) (by rw [← HWD.out]; exact ⟨HFrd.out.cell 0 rfl, HFrd.out.cell 4 rfl, HFrd.out.cell 5 rfl, HFrd.out.cell 6 rfl, HFrd.out.cell 7 rfl, HFrd.out.cell 8 rfl, HFrd.out.cell 9 rfl, HFrd.out.cell 10 rfl, HFrd.out.cell 11 rfl⟩) (fun hHeld => ?_)
  rw [← HWD.out] at hHeld ⊢
  refine take_putH (i := 0) (v := ?_) (some 50) rfl (by kernel_rfl) (by kernel_rfl) (by kernel_rfl) (by kernel_rfl) (fun _ _ _ h => h) (Or.inl ⟨by rfl, ?_⟩) hHeld ?_
  rotate_left
  · (intro w hSw; obtain ⟨z0, z1, z2, z3, z4, z5, z6, z7, z8⟩ := hSw; go_simp; try with_reducible rfl)
  try simp only [Act.put, List.setIfInBounds_toArray, List.set_cons_zero, List.set_cons_succ]
  refine take_putH (i := 1) (v := ?_) (some 51) rfl (by kernel_rfl) (by kernel_rfl) (by kernel_rfl) (by kernel_rfl) (fun _ _ _ h => h) (Or.inl ⟨by rfl, ?_⟩) hHeld ?_
  rotate_left
  · (intro w hSw; obtain ⟨z0, z1, z2, z3, z4, z5, z6, z7, z8⟩ := hSw; go_simp; try with_reducible rfl)
  try simp only [Act.put, List.setIfInBounds_toArray, List.set_cons_zero, List.set_cons_succ]
  refine take_putH (i := 2) (v := ?_) (some 52) rfl (by kernel_rfl) (by kernel_rfl) (by kernel_rfl) (by kernel_rfl) (fun _ _ _ h => h) (Or.inl ⟨by rfl, ?_⟩) hHeld ?_
  rotate_left
  · (intro w hSw; obtain ⟨z0, z1, z2, z3, z4, z5, z6, z7, z8⟩ := hSw; go_simp; try with_reducible rfl)
  try simp only [Act.put, List.setIfInBounds_toArray, List.set_cons_zero, List.set_cons_succ]
  refine take_putH (i := 3) (v := ?_) (some 53) rfl (by kernel_rfl) (by kernel_rfl) (by kernel_rfl) (by kernel_rfl) (fun _ _ _ h => h) (Or.inl ⟨by rfl, ?_⟩) hHeld ?_
  rotate_left
  · (intro w hSw; obtain ⟨z0, z1, z2, z3, z4, z5, z6, z7, z8⟩ := hSw; go_simp; try with_reducible rfl)
  try simp only [Act.put, List.setIfInBounds_toArray, List.set_cons_zero, List.set_cons_succ]
  refine take_putH (i := 4) (v := ?_) (some 54) rfl (by kernel_rfl) (by kernel_rfl) (by kernel_rfl) (by kernel_rfl) (fun _ _ _ h => h) (Or.inl ⟨by rfl, ?_⟩) hHeld ?_
  rotate_left
  · (intro w hSw; obtain ⟨z0, z1, z2, z3, z4, z5, z6, z7, z8⟩ := hSw; go_simp; try with_reducible rfl)
  try simp only [Act.put, List.setIfInBounds_toArray, List.set_cons_zero, List.set_cons_succ]
  have hS0 : wd.cell? ⟨w1.heap.size, 0, none⟩ = some (.int .u8 3) ∧ wd.cell? ⟨w1.heap.size, 4, none⟩ = some (.int .i64 pk) ∧ wd.cell? ⟨w1.heap.size, 5, none⟩ = some (.int .i64 pp) ∧ wd.cell? ⟨w1.heap.size, 6, none⟩ = some (.int .i64 ps) ∧ wd.cell? ⟨w1.heap.size, 7, none⟩ = some (.int .i64 pn) ∧ wd.cell? ⟨w1.heap.size, 8, none⟩ = some (.int .i64 pf) ∧ wd.cell? ⟨w1.heap.size, 9, none⟩ = some (.int .i64 pt) ∧ wd.cell? ⟨w1.heap.size, 10, none⟩ = some (.slice sa sn sc) ∧ wd.cell? ⟨w1.heap.size, 11, none⟩ = some (.slice ia im ic) := hHeld
  clear hHeld
  have fz : ∀ i, wd.frozen? ⟨w.heap.size, i, none⟩ = false := fun i => HRd.out.free i
  have r0 : wd.cell? ⟨w.heap.size, 0, none⟩ = some (.int .i64 0) := HRd.out.cell 0 rfl
  have r1 : wd.cell? ⟨w.heap.size, 1, none⟩ = some (.int .i64 0) := HRd.out.cell 1 rfl
  have r2 : wd.cell? ⟨w.heap.size, 2, none⟩ = some (.int .i64 0) := HRd.out.cell 2 rfl
  have r3 : wd.cell? ⟨w.heap.size, 3, none⟩ = some (.int .i64 0) := HRd.out.cell 3 rfl
  have r4 : wd.cell? ⟨w.heap.size, 4, none⟩ = some (.int .i64 0) := HRd.out.cell 4 rfl
  have r5 : wd.cell? ⟨w.heap.size, 5, none⟩ = some (.int .i64 0) := HRd.out.cell 5 rfl
  have r6 : wd.cell? ⟨w.heap.size, 6, none⟩ = some (.slice none 0 0) := HRd.out.cell 6 rfl
  have r7 : wd.cell? ⟨w.heap.size, 7, none⟩ = some (.slice none 0 0) := HRd.out.cell 7 rfl
  obtain ⟨w7, HW7⟩ : ∃ w7, Hid (w7 = set8 wd w.heap.size (.int .i64 pk) (.int .i64 pp) (.int .i64 ps) (.int .i64 pn) (.int .i64 pf) (.int .i64 pt) (.slice sa sn sc) (.slice ia im ic)) := ⟨_, rfl⟩
  have HFr7 : Hid (Bk w7 w1.heap.size #[.int .u8 3, .int .i64 (x0 : Int), .int .i64 (x1 : Int), .int .i64 (x2 : Int), .int .i64 pk, .int .i64 pp, .int .i64 ps, .int .i64 pn, .int .i64 pf, .int .i64 pt, .slice sa sn sc, .slice ia im ic] 78) := by unfold Bk; rw [HW7.out, set8_other _ _ _ _ _ _ _ _ _ _ _ (by have h5 := HSZ.out; omega)]; exact HFrd.out
  have HR7 : Hid (Bk w7 w.heap.size #[.int .i64 pk, .int .i64 pp, .int .i64 ps, .int .i64 pn, .int .i64 pf, .int .i64 pt, .slice sa sn sc, .slice ia im ic] 37) := by rw [HW7.out]; exact HRd.out.set8 (.int .i64 pk) (.int .i64 pp) (.int .i64 ps) (.int .i64 pn) (.int .i64 pf) (.int .i64 pt) (.slice sa sn sc) (.slice ia im ic)
  have HL7 : Hid (LkIn w7 base g wv L { l' with heard := m }) := by rw [HW7.out]; exact HLd.out.away (R := w.heap.size) (by rw [set8_size]; exact Nat.le_refl _) (fun k hk => set8_other _ _ _ _ _ _ _ _ _ _ k hk) HRd.out (by decide) (by decide) (by decide)
  have HF7 : Hid (Fr w w7 g wv) := by rw [HW7.out]; exact HFd.out.set8_new (Nat.le_refl _)
  have HP7 : Hid (P w7 (.agg #[.int .i64 pk, .int .i64 pp, .int .i64 ps, .int .i64 pn, .int .i64 pf, .int .i64 pt, .slice sa sn sc, .slice ia im ic])) := HPS.out w1 w7 _ (fun j hj hj2 => by rw [HW7.out, set8_other _ _ _ _ _ _ _ _ _ _ j (by omega)]; exact HSd.out j hj hj2) HP1.out
  refine wpAnyH_ready (rs := [5]) (by kernel_rfl) (by simp) ?_
  refine AllReadyH.cons rfl (fun K hK => ?_) AllReadyH.nil
  go_simp
  have hS7 : w7.cell? ⟨w1.heap.size, 0, none⟩ = some (.int .u8 3) ∧ w7.cell? ⟨w1.heap.size, 4, none⟩ = some (.int .i64 pk) ∧ w7.cell? ⟨w1.heap.size, 5, none⟩ = some (.int .i64 pp) ∧ w7.cell? ⟨w1.heap.size, 6, none⟩ = some (.int .i64 ps) ∧ w7.cell? ⟨w1.heap.size, 7, none⟩ = some (.int .i64 pn) ∧ w7.cell? ⟨w1.heap.size, 8, none⟩ = some (.int .i64 pf) ∧ w7.cell? ⟨w1.heap.size, 9, none⟩ = some (.int .i64 pt) ∧ w7.cell? ⟨w1.heap.size, 10, none⟩ = some (.slice sa sn sc) ∧ w7.cell? ⟨w1.heap.size, 11, none⟩ = some (.slice ia im ic) := ⟨HFr7.out.cell 0 rfl, HFr7.out.cell 4 rfl, HFr7.out.cell 5 rfl, HFr7.out.cell 6 rfl, HFr7.out.cell 7 rfl, HFr7.out.cell 8 rfl, HFr7.out.cell 9 rfl, HFr7.out.cell 10 rfl, HFr7.out.cell 11 rfl⟩
  refine (fun h => by have e := HW7.out; unfold set8 at e; rw [← e]; exact h) ?_
  refine hK.out _ _ hS7 (fun _ => ?_)
  clear hK K
  try simp only [Act.put, List.getElem_toArray, List.getElem_cons_succ, List.getElem_cons_zero, List.setIfInBounds_toArray, List.set_cons_zero, List.set_cons_succ]
  refine take_putH (i := 6) (v := ?_) (some 7) rfl (by kernel_rfl) (by kernel_rfl) (by kernel_rfl) (by kernel_rfl) (fun _ _ _ h => h) (Or.inl ⟨by rfl, ?_⟩) hS7 ?_
  rotate_left
  · (intro w hSw; obtain ⟨z0, z1, z2, z3, z4, z5, z6, z7, z8⟩ := hSw; go_simp; try with_reducible rfl)
  try simp only [Act.put, List.setIfInBounds_toArray, List.set_cons_zero, List.set_cons_succ]
  refine take_putH (i := 7) (v := ?_) (some 8) rfl (by kernel_rfl) (by kernel_rfl) (by kernel_rfl) (by kernel_rfl) (fun _ _ _ h => h) (Or.inl ⟨by rfl, ?_⟩) hS7 ?_
  rotate_left
  · (intro w hSw; obtain ⟨z0, z1, z2, z3, z4, z5, z6, z7, z8⟩ := hSw; go_simp; try with_reducible rfl)
  try simp only [Act.put, List.setIfInBounds_toArray, List.set_cons_zero, List.set_cons_succ]
  refine wpAnyH_done (by kernel_rfl) ?_ _
  go_wp2
  try simp only [Exit.inBlock, Exit.then]
  refine bodyPost_ret (results_take rfl (by rfl) (by rfl) (by rfl) HR7.out) rfl ?_
  exact ⟨⟨_, rfl, HP7⟩, HL7, HF7.out⟩

end Go.Proofs.YtbloomepdchjhaaDoor
