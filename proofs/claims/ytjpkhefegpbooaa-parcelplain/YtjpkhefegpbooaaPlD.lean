/- parcel.Plain. -/
import Derived.Test.YtjpkhefegpbooaaPlC
import Derived.Test.YtjpkhefegpbooaaPc1
namespace Go.Proofs.Ytjpkhefegpbooaa
open Go.RowKit

theorem bk_drew {w : World} {g : Nat} {cs : Array Value} {t : TypeId} (h : Bk w g cs t) : Bk w.drew g cs t := h
set_option maxRecDepth 100000 in
set_option maxHeartbeats 4000000 in
theorem pc_Plain_1 (pp ps pn pf pt : Int) (pl : List Sp) (pi : List It) (sa : Option Addr) (sn sc : Nat) (ia : Option Addr) (im ic : Nat) (w : World) (hp : PcRd w ⟨1, pp, ps, pn, pf, pt, pl, pi⟩ sa sn sc ia im ic) (hbg : PcMid ⟨1, pp, ps, pn, pf, pt, pl, pi⟩ sa sn sc ia im ic) : Calls Try.prog 12 #[Pc.val ⟨1, pp, ps, pn, pf, pt, pl, pi⟩ sa sn sc ia im ic] w fun e w' => Hid (PlainTold w w' ⟨1, pp, 0, 0, pf, pt, pl, pi⟩ e) ∧ Below w.heap.size w w' := by
  have HPR : Hid (PcRd w ⟨1, pp, ps, pn, pf, pt, pl, pi⟩ sa sn sc ia im ic) := hp
  have HBG : Hid (PcMid ⟨1, pp, ps, pn, pf, pt, pl, pi⟩ sa sn sc ia im ic) := hbg
  clear hp hbg
  obtain ⟨W0, HW0⟩ : ∃ W0, Hid (W0 = (((w.alloc (.cells #[.int .i64 1, .int .i64 pp, .int .i64 ps, .int .i64 pn, .int .i64 pf, .int .i64 pt, .slice sa sn sc, .slice ia im ic] 26)).alloc (.cells #[.int .i64 0, .int .i64 0, .int .i64 0, .int .i64 0, .int .i64 0, .int .i64 0, .slice none 0 0, .slice none 0 0] 26)).alloc (.cells #[.int .i64 1, .int .i64 0, .int .i64 0, .int .i64 0, .int .i64 0, .int .i64 0, .slice none 0 0, .slice none 0 0] 26))) := ⟨_, rfl⟩
  have HB0 : Hid (Below w.heap.size w W0) := by rw [HW0.out]; exact ((below_new w _).alloc (by simp) _).alloc (by simp; omega) _
  have HP0 : Hid (Bk W0 w.heap.size #[.int .i64 1, .int .i64 pp, .int .i64 ps, .int .i64 pn, .int .i64 pf, .int .i64 pt, .slice sa sn sc, .slice ia im ic] 26) := by rw [HW0.out]; exact ((Bk.new w _ _).stay (below_new _ _)).stay (below_new _ _)
  have HR0 : Hid (Bk W0 (w.heap.size + 1) #[.int .i64 0, .int .i64 0, .int .i64 0, .int .i64 0, .int .i64 0, .int .i64 0, .slice none 0 0, .slice none 0 0] 26) := by
    rw [HW0.out]
    have h := Bk.new (w.alloc (.cells #[.int .i64 1, .int .i64 pp, .int .i64 ps, .int .i64 pn, .int .i64 pf, .int .i64 pt, .slice sa sn sc, .slice ia im ic] 26)) #[.int .i64 0, .int .i64 0, .int .i64 0, .int .i64 0, .int .i64 0, .int .i64 0, .slice none 0 0, .slice none 0 0] 26
    rw [show (w.alloc (.cells #[.int .i64 1, .int .i64 pp, .int .i64 ps, .int .i64 pn, .int .i64 pf, .int .i64 pt, .slice sa sn sc, .slice ia im ic] 26)).heap.size = w.heap.size + 1 from by simp] at h
    exact h.stay (below_new _ _)
  have HO0 : Hid (Bk W0 (w.heap.size + 2) #[.int .i64 1, .int .i64 0, .int .i64 0, .int .i64 0, .int .i64 0, .int .i64 0, .slice none 0 0, .slice none 0 0] 26) := by
    rw [HW0.out]
    have h := Bk.new ((w.alloc (.cells #[.int .i64 1, .int .i64 pp, .int .i64 ps, .int .i64 pn, .int .i64 pf, .int .i64 pt, .slice sa sn sc, .slice ia im ic] 26)).alloc (.cells #[.int .i64 0, .int .i64 0, .int .i64 0, .int .i64 0, .int .i64 0, .int .i64 0, .slice none 0 0, .slice none 0 0] 26)) #[.int .i64 1, .int .i64 0, .int .i64 0, .int .i64 0, .int .i64 0, .int .i64 0, .slice none 0 0, .slice none 0 0] 26
    rw [show ((w.alloc (.cells #[.int .i64 1, .int .i64 pp, .int .i64 ps, .int .i64 pn, .int .i64 pf, .int .i64 pt, .slice sa sn sc, .slice ia im ic] 26)).alloc (.cells #[.int .i64 0, .int .i64 0, .int .i64 0, .int .i64 0, .int .i64 0, .int .i64 0, .slice none 0 0, .slice none 0 0] 26)).heap.size = w.heap.size + 2 from by simp] at h
    exact h
  have HCU : Hid (Calls Try.prog 19 #[.int .i64 1] W0 fun e w' => e = .returned (.tuple #[.agg #[.bool false, .bool true, .bool true, .bool true], .bool true]) ∧ Below W0.heap.size W0 w') := by
    have h := pc_usedBy 1 W0
    rw [show subB 1 = false from rfl, show fromB 1 = true from rfl, show toB 1 = true from rfl, show newsB 1 = true from rfl, show isB 1 = true from rfl] at h
    exact h
  unfold Pc.val
  simp only
  go_enter Try.func12, Try.ntmps12
  go_wp2_with fail
  rw [← HW0.out]
  refine HCU.out.mono ?_
  rintro e w1 ⟨rfl, hb1⟩
  have hb2 : Below W0.heap.size W0 (w1.alloc (.cells #[.bool false, .bool true, .bool true, .bool true] 48)) := hb1.alloc hb1.size _
  have HU2 : Hid (Bk (w1.alloc (.cells #[.bool false, .bool true, .bool true, .bool true] 48)) w1.heap.size #[.bool false, .bool true, .bool true, .bool true] 48) := Bk.new _ _ _
  have HP2 : Hid (Bk (w1.alloc (.cells #[.bool false, .bool true, .bool true, .bool true] 48)) w.heap.size #[.int .i64 1, .int .i64 pp, .int .i64 ps, .int .i64 pn, .int .i64 pf, .int .i64 pt, .slice sa sn sc, .slice ia im ic] 26) := HP0.out.stay hb2
  have HR2 : Hid (Bk (w1.alloc (.cells #[.bool false, .bool true, .bool true, .bool true] 48)) (w.heap.size + 1) #[.int .i64 0, .int .i64 0, .int .i64 0, .int .i64 0, .int .i64 0, .int .i64 0, .slice none 0 0, .slice none 0 0] 26) := HR0.out.stay hb2
  have HO2 : Hid (Bk (w1.alloc (.cells #[.bool false, .bool true, .bool true, .bool true] 48)) (w.heap.size + 2) #[.int .i64 1, .int .i64 0, .int .i64 0, .int .i64 0, .int .i64 0, .int .i64 0, .slice none 0 0, .slice none 0 0] 26) := HO0.out.stay hb2
  have HB2 : Hid (Below w.heap.size w (w1.alloc (.cells #[.bool false, .bool true, .bool true, .bool true] 48))) := HB0.out.trans (hb2.mono HB0.out.size)
  have hwu : w1.heap.size ≠ w.heap.size + 2 := by have h1 := HO0.out.lt; have h2 := hb1.size; omega
  clear hb1 hb2 HP0 HR0 HO0 HCU HB0
  have e0 : (w1.alloc (.cells #[.bool false, .bool true, .bool true, .bool true] 48)).cell? ⟨w.heap.size, 0, none⟩ = some (.int .i64 1) := HP2.out.cell 0 rfl
  have e1 : (w1.alloc (.cells #[.bool false, .bool true, .bool true, .bool true] 48)).cell? ⟨w.heap.size, 1, none⟩ = some (.int .i64 pp) := HP2.out.cell 1 rfl
  have e2 : (w1.alloc (.cells #[.bool false, .bool true, .bool true, .bool true] 48)).cell? ⟨w.heap.size, 2, none⟩ = some (.int .i64 ps) := HP2.out.cell 2 rfl
  have e3 : (w1.alloc (.cells #[.bool false, .bool true, .bool true, .bool true] 48)).cell? ⟨w.heap.size, 3, none⟩ = some (.int .i64 pn) := HP2.out.cell 3 rfl
  have e4 : (w1.alloc (.cells #[.bool false, .bool true, .bool true, .bool true] 48)).cell? ⟨w.heap.size, 4, none⟩ = some (.int .i64 pf) := HP2.out.cell 4 rfl
  have e5 : (w1.alloc (.cells #[.bool false, .bool true, .bool true, .bool true] 48)).cell? ⟨w.heap.size, 5, none⟩ = some (.int .i64 pt) := HP2.out.cell 5 rfl
  have e6 : (w1.alloc (.cells #[.bool false, .bool true, .bool true, .bool true] 48)).cell? ⟨w.heap.size, 6, none⟩ = some (.slice sa sn sc) := HP2.out.cell 6 rfl
  have e7 : (w1.alloc (.cells #[.bool false, .bool true, .bool true, .bool true] 48)).cell? ⟨w.heap.size, 7, none⟩ = some (.slice ia im ic) := HP2.out.cell 7 rfl
  have y0 : (w1.alloc (.cells #[.bool false, .bool true, .bool true, .bool true] 48)).cell? ⟨w.heap.size + 2, 0, none⟩ = some (.int .i64 1) := HO2.out.cell 0 rfl
  have y1 : (w1.alloc (.cells #[.bool false, .bool true, .bool true, .bool true] 48)).cell? ⟨w.heap.size + 2, 1, none⟩ = some (.int .i64 0) := HO2.out.cell 1 rfl
  have y2 : (w1.alloc (.cells #[.bool false, .bool true, .bool true, .bool true] 48)).cell? ⟨w.heap.size + 2, 2, none⟩ = some (.int .i64 0) := HO2.out.cell 2 rfl
  have y3 : (w1.alloc (.cells #[.bool false, .bool true, .bool true, .bool true] 48)).cell? ⟨w.heap.size + 2, 3, none⟩ = some (.int .i64 0) := HO2.out.cell 3 rfl
  have y4 : (w1.alloc (.cells #[.bool false, .bool true, .bool true, .bool true] 48)).cell? ⟨w.heap.size + 2, 4, none⟩ = some (.int .i64 0) := HO2.out.cell 4 rfl
  have y5 : (w1.alloc (.cells #[.bool false, .bool true, .bool true, .bool true] 48)).cell? ⟨w.heap.size + 2, 5, none⟩ = some (.int .i64 0) := HO2.out.cell 5 rfl
  have y6 : (w1.alloc (.cells #[.bool false, .bool true, .bool true, .bool true] 48)).cell? ⟨w.heap.size + 2, 6, none⟩ = some (.slice none 0 0) := HO2.out.cell 6 rfl
  have y7 : (w1.alloc (.cells #[.bool false, .bool true, .bool true, .bool true] 48)).cell? ⟨w.heap.size + 2, 7, none⟩ = some (.slice none 0 0) := HO2.out.cell 7 rfl
  have z0 : (w1.alloc (.cells #[.bool false, .bool true, .bool true, .bool true] 48)).cell? ⟨w.heap.size + 1, 0, none⟩ = some (.int .i64 0) := HR2.out.cell 0 rfl
  have z1 : (w1.alloc (.cells #[.bool false, .bool true, .bool true, .bool true] 48)).cell? ⟨w.heap.size + 1, 1, none⟩ = some (.int .i64 0) := HR2.out.cell 1 rfl
  have z2 : (w1.alloc (.cells #[.bool false, .bool true, .bool true, .bool true] 48)).cell? ⟨w.heap.size + 1, 2, none⟩ = some (.int .i64 0) := HR2.out.cell 2 rfl
  have z3 : (w1.alloc (.cells #[.bool false, .bool true, .bool true, .bool true] 48)).cell? ⟨w.heap.size + 1, 3, none⟩ = some (.int .i64 0) := HR2.out.cell 3 rfl
  have z4 : (w1.alloc (.cells #[.bool false, .bool true, .bool true, .bool true] 48)).cell? ⟨w.heap.size + 1, 4, none⟩ = some (.int .i64 0) := HR2.out.cell 4 rfl
  have z5 : (w1.alloc (.cells #[.bool false, .bool true, .bool true, .bool true] 48)).cell? ⟨w.heap.size + 1, 5, none⟩ = some (.int .i64 0) := HR2.out.cell 5 rfl
  have z6 : (w1.alloc (.cells #[.bool false, .bool true, .bool true, .bool true] 48)).cell? ⟨w.heap.size + 1, 6, none⟩ = some (.slice none 0 0) := HR2.out.cell 6 rfl
  have z7 : (w1.alloc (.cells #[.bool false, .bool true, .bool true, .bool true] 48)).cell? ⟨w.heap.size + 1, 7, none⟩ = some (.slice none 0 0) := HR2.out.cell 7 rfl
  have u0 : (w1.alloc (.cells #[.bool false, .bool true, .bool true, .bool true] 48)).cell? ⟨w1.heap.size, 0, none⟩ = some (.bool false) := HU2.out.cell 0 rfl
  have u1 : (w1.alloc (.cells #[.bool false, .bool true, .bool true, .bool true] 48)).cell? ⟨w1.heap.size, 1, none⟩ = some (.bool true) := HU2.out.cell 1 rfl
  have u2 : (w1.alloc (.cells #[.bool false, .bool true, .bool true, .bool true] 48)).cell? ⟨w1.heap.size, 2, none⟩ = some (.bool true) := HU2.out.cell 2 rfl
  have u3 : (w1.alloc (.cells #[.bool false, .bool true, .bool true, .bool true] 48)).cell? ⟨w1.heap.size, 3, none⟩ = some (.bool true) := HU2.out.cell 3 rfl
  have fo : ∀ i, (w1.alloc (.cells #[.bool false, .bool true, .bool true, .bool true] 48)).frozen? ⟨w.heap.size + 2, i, none⟩ = false := fun i => HO2.out.free i
  have fr : ∀ i, (w1.alloc (.cells #[.bool false, .bool true, .bool true, .bool true] 48)).frozen? ⟨w.heap.size + 1, i, none⟩ = false := fun i => HR2.out.free i
  obtain ⟨w3, HW3⟩ : ∃ w3, Hid (w3 = ((((w1.alloc (.cells #[.bool false, .bool true, .bool true, .bool true] 48)).setCell ⟨w.heap.size + 2, 1, none⟩ (.int .i64 pp)).setCell ⟨w.heap.size + 2, 4, none⟩ (.int .i64 pf)).setCell ⟨w.heap.size + 2, 5, none⟩ (.int .i64 pt))) := ⟨_, rfl⟩
  have HO3 : Hid (Bk w3 (w.heap.size + 2) #[.int .i64 1, .int .i64 pp, .int .i64 0, .int .i64 0, .int .i64 pf, .int .i64 pt, .slice none 0 0, .slice none 0 0] 26) := by
    rw [HW3.out]
    have s0 : Bk ((w1.alloc (.cells #[.bool false, .bool true, .bool true, .bool true] 48)).setCell ⟨w.heap.size + 2, 1, none⟩ (.int .i64 pp)) (w.heap.size + 2) #[.int .i64 1, .int .i64 pp, .int .i64 0, .int .i64 0, .int .i64 0, .int .i64 0, .slice none 0 0, .slice none 0 0] 26 := bk_step HO2.out 1 _ rfl
    have s1 : Bk (((w1.alloc (.cells #[.bool false, .bool true, .bool true, .bool true] 48)).setCell ⟨w.heap.size + 2, 1, none⟩ (.int .i64 pp)).setCell ⟨w.heap.size + 2, 4, none⟩ (.int .i64 pf)) (w.heap.size + 2) #[.int .i64 1, .int .i64 pp, .int .i64 0, .int .i64 0, .int .i64 pf, .int .i64 0, .slice none 0 0, .slice none 0 0] 26 := bk_step s0 4 _ rfl
    have s2 : Bk ((((w1.alloc (.cells #[.bool false, .bool true, .bool true, .bool true] 48)).setCell ⟨w.heap.size + 2, 1, none⟩ (.int .i64 pp)).setCell ⟨w.heap.size + 2, 4, none⟩ (.int .i64 pf)).setCell ⟨w.heap.size + 2, 5, none⟩ (.int .i64 pt)) (w.heap.size + 2) #[.int .i64 1, .int .i64 pp, .int .i64 0, .int .i64 0, .int .i64 pf, .int .i64 pt, .slice none 0 0, .slice none 0 0] 26 := bk_step s1 5 _ rfl
    exact s2
  have HR3 : Hid (Bk w3 (w.heap.size + 1) #[.int .i64 0, .int .i64 0, .int .i64 0, .int .i64 0, .int .i64 0, .int .i64 0, .slice none 0 0, .slice none 0 0] 26) := by rw [HW3.out]; exact (((HR2.out.other _ _ (by show w.heap.size + 1 ≠ w.heap.size + 2; omega)).other _ _ (by show w.heap.size + 1 ≠ w.heap.size + 2; omega)).other _ _ (by show w.heap.size + 1 ≠ w.heap.size + 2; omega))
  have HP3 : Hid (Bk w3 w.heap.size #[.int .i64 1, .int .i64 pp, .int .i64 ps, .int .i64 pn, .int .i64 pf, .int .i64 pt, .slice sa sn sc, .slice ia im ic] 26) := by rw [HW3.out]; exact (((HP2.out.other _ _ (by show w.heap.size ≠ w.heap.size + 2; omega)).other _ _ (by show w.heap.size ≠ w.heap.size + 2; omega)).other _ _ (by show w.heap.size ≠ w.heap.size + 2; omega))
  have HB3 : Hid (Below w.heap.size w w3) := by rw [HW3.out]; exact (((HB2.out.setCell (by show w.heap.size ≤ w.heap.size + 2; omega) _).setCell (by show w.heap.size ≤ w.heap.size + 2; omega) _).setCell (by show w.heap.size ≤ w.heap.size + 2; omega) _)
  go_wp2
  obtain ⟨wd, HWD⟩ : ∃ wd, Hid (wd = w3.drew) := ⟨_, rfl⟩
  have hbd : Below w3.heap.size w3 wd := by rw [HWD.out]; exact below_drew (Below.refl _ _)
  have HPd : Hid (Bk wd w.heap.size #[.int .i64 1, .int .i64 pp, .int .i64 ps, .int .i64 pn, .int .i64 pf, .int .i64 pt, .slice sa sn sc, .slice ia im ic] 26) := HP3.out.stay hbd
  have HRd : Hid (Bk wd (w.heap.size + 1) #[.int .i64 0, .int .i64 0, .int .i64 0, .int .i64 0, .int .i64 0, .int .i64 0, .slice none 0 0, .slice none 0 0] 26) := HR3.out.stay hbd
  have HOd : Hid (Bk wd (w.heap.size + 2) #[.int .i64 1, .int .i64 pp, .int .i64 0, .int .i64 0, .int .i64 pf, .int .i64 pt, .slice none 0 0, .slice none 0 0] 26) := HO3.out.stay hbd
  have HBd : Hid (Below w.heap.size w wd) := HB3.out.trans (hbd.mono HB3.out.size)
  have HSZ : Hid (w.heap.size + 3 ≤ wd.heap.size) := HOd.out.lt
  clear hbd e0 y0 z0 e1 y1 z1 e2 y2 z2 e3 y3 z3 e4 y4 z4 e5 y5 z5 e6 y6 z6 e7 y7 z7 u0 u1 u2 u3 fo fr
  rw [← HW3.out]
  refine wp_region_held_drew (S := fun w' => w'.cell? ⟨w.heap.size, 6, none⟩ = some (.slice sa sn sc) ∧ w'.cell? ⟨w.heap.size, 7, none⟩ = some (.slice ia im ic)) (by kernel_rfl) (by rw [← HWD.out]; exact ⟨HPd.out.cell 6 rfl, HPd.out.cell 7 rfl⟩) (fun hHeld => ?_)
  rw [← HWD.out] at hHeld ⊢
  refine take_putH (i := 0) (v := ?_) (some 41) rfl (by kernel_rfl) (by kernel_rfl) (by kernel_rfl) (by kernel_rfl) (fun _ _ _ h => h) (Or.inl ⟨by rfl, ?_⟩) hHeld ?_
  rotate_left
  · (intro w hSw; obtain ⟨z0, z1⟩ := hSw; go_simp; try with_reducible rfl)
  try simp only [Act.put, List.setIfInBounds_toArray, List.set_cons_zero, List.set_cons_succ]
  refine take_putH (i := 1) (v := ?_) (some 42) rfl (by kernel_rfl) (by kernel_rfl) (by kernel_rfl) (by kernel_rfl) (fun _ _ _ h => h) (Or.inl ⟨by rfl, ?_⟩) hHeld ?_
  rotate_left
  · (intro w hSw; obtain ⟨z0, z1⟩ := hSw; go_simp; try with_reducible rfl)
  try simp only [Act.put, List.setIfInBounds_toArray, List.set_cons_zero, List.set_cons_succ]
  refine take_putH (i := 3) (v := ?_) (some 44) rfl (by kernel_rfl) (by kernel_rfl) (by kernel_rfl) (by kernel_rfl) (fun _ _ _ h => h) (Or.inl ⟨by rfl, ?_⟩) hHeld ?_
  rotate_left
  · (intro w hSw; obtain ⟨z0, z1⟩ := hSw; go_simp; try with_reducible rfl)
  try simp only [Act.put, List.setIfInBounds_toArray, List.set_cons_zero, List.set_cons_succ]
  refine take_putH (i := 4) (v := ?_) (some 45) rfl (by kernel_rfl) (by kernel_rfl) (by kernel_rfl) (by kernel_rfl) (fun _ _ _ h => h) (Or.inl ⟨by rfl, ?_⟩) hHeld ?_
  rotate_left
  · (intro w hSw; obtain ⟨z0, z1⟩ := hSw; go_simp; try with_reducible rfl)
  try simp only [Act.put, List.setIfInBounds_toArray, List.set_cons_zero, List.set_cons_succ]
  refine wpAnyH_ready (rs := [2]) (by kernel_rfl) (by simp) ?_
  refine AllReadyH.cons rfl (fun K hK => ?_) AllReadyH.nil
  go_simp
  refine (clone_spans wd sa sn sc pl (HPR.out.spans.below HBd.out) HBG.out.sz (by have h1 := HBG.out.sb; omega)).mono ?_
  rintro e w4 ⟨⟨asq, csq, he, HS4⟩, hb4⟩
  subst he
  have HB4 : Hid (Below wd.heap.size wd w4) := hb4
  clear hb4
  have h4 : w4.cell? ⟨w.heap.size, 6, none⟩ = some (.slice sa sn sc) ∧ w4.cell? ⟨w.heap.size, 7, none⟩ = some (.slice ia im ic) := ⟨(HPd.out.stay HB4.out).cell 6 rfl, (HPd.out.stay HB4.out).cell 7 rfl⟩
  have HBw4 : Hid (Below w.heap.size w w4) := HBd.out.trans (HB4.out.mono HBd.out.size)
  refine hK.out _ _ h4 (fun _ => ?_)
  clear hK K
  try simp only [Act.put, List.getElem_toArray, List.getElem_cons_succ, List.getElem_cons_zero, List.setIfInBounds_toArray, List.set_cons_zero, List.set_cons_succ]
  refine take_putH (i := 6) (v := ?_) (some 47) rfl (by kernel_rfl) (by kernel_rfl) (by kernel_rfl) (by kernel_rfl) (fun _ _ _ h => h) (Or.inl ⟨by rfl, ?_⟩) h4 ?_
  rotate_left
  · (intro w hSw; obtain ⟨z0, z1⟩ := hSw; go_simp; try with_reducible rfl)
  try simp only [Act.put, List.setIfInBounds_toArray, List.set_cons_zero, List.set_cons_succ]
  refine wpAnyH_ready (rs := [5]) (by kernel_rfl) (by simp) ?_
  refine AllReadyH.cons rfl (fun K hK => ?_) AllReadyH.nil
  go_simp
  refine (pc_cloned w4 ia im ic pi (HPR.out.items.below HBw4.out) HBG.out.iz (by have h1 := HBG.out.ib; omega) HBG.out.bb).mono ?_
  rintro e w5 ⟨⟨ai, ci, he, HI5⟩, hb5⟩
  subst he
  have HB5 : Hid (Below w4.heap.size w4 w5) := hb5
  clear hb5
  have hb45 : Below wd.heap.size wd w5 := HB4.out.trans (HB5.out.mono HB4.out.size)
  have HP5 : Hid (Bk w5 w.heap.size #[.int .i64 1, .int .i64 pp, .int .i64 ps, .int .i64 pn, .int .i64 pf, .int .i64 pt, .slice sa sn sc, .slice ia im ic] 26) := HPd.out.stay hb45
  have HR5 : Hid (Bk w5 (w.heap.size + 1) #[.int .i64 0, .int .i64 0, .int .i64 0, .int .i64 0, .int .i64 0, .int .i64 0, .slice none 0 0, .slice none 0 0] 26) := HRd.out.stay hb45
  have HO5 : Hid (Bk w5 (w.heap.size + 2) #[.int .i64 1, .int .i64 pp, .int .i64 0, .int .i64 0, .int .i64 pf, .int .i64 pt, .slice none 0 0, .slice none 0 0] 26) := HOd.out.stay hb45
  have HBw5 : Hid (Below w.heap.size w w5) := HBd.out.trans (hb45.mono HBd.out.size)
  have HS5 : Hid (Sps w5 (w.heap.size + 3) (.slice asq sn csq) pl) := (HS4.out.below HB5.out).lower HSZ.out
  have h5 : w5.cell? ⟨w.heap.size, 6, none⟩ = some (.slice sa sn sc) ∧ w5.cell? ⟨w.heap.size, 7, none⟩ = some (.slice ia im ic) := ⟨HP5.out.cell 6 rfl, HP5.out.cell 7 rfl⟩
  clear hb45
  refine hK.out _ _ h5 (fun _ => ?_)
  clear hK K
  try simp only [Act.put, List.getElem_toArray, List.getElem_cons_succ, List.getElem_cons_zero, List.setIfInBounds_toArray, List.set_cons_zero, List.set_cons_succ]
  have b6 : w5.cell? ⟨w.heap.size + 2, 6, none⟩ = some (.slice none 0 0) := HO5.out.cell 6 rfl
  have f6 : w5.frozen? ⟨w.heap.size + 2, 6, none⟩ = false := HO5.out.free 6
  obtain ⟨w6, HW6⟩ : ∃ w6, Hid (w6 = (w5.setCell ⟨w.heap.size + 2, 6, none⟩ (.slice asq sn csq))) := ⟨_, rfl⟩
  have HO6 : Hid (Bk w6 (w.heap.size + 2) #[.int .i64 1, .int .i64 pp, .int .i64 0, .int .i64 0, .int .i64 pf, .int .i64 pt, .slice asq sn csq, .slice none 0 0] 26) := by rw [HW6.out]; exact bk_step HO5.out 6 _ rfl
  have HP6 : Hid (Bk w6 w.heap.size #[.int .i64 1, .int .i64 pp, .int .i64 ps, .int .i64 pn, .int .i64 pf, .int .i64 pt, .slice sa sn sc, .slice ia im ic] 26) := by rw [HW6.out]; exact HP5.out.other _ _ (by show w.heap.size ≠ w.heap.size + 2; omega)
  have HR6 : Hid (Bk w6 (w.heap.size + 1) #[.int .i64 0, .int .i64 0, .int .i64 0, .int .i64 0, .int .i64 0, .int .i64 0, .slice none 0 0, .slice none 0 0] 26) := by rw [HW6.out]; exact HR5.out.other _ _ (by show w.heap.size + 1 ≠ w.heap.size + 2; omega)
  have h6 : w6.cell? ⟨w.heap.size, 6, none⟩ = some (.slice sa sn sc) ∧ w6.cell? ⟨w.heap.size, 7, none⟩ = some (.slice ia im ic) := ⟨HP6.out.cell 6 rfl, HP6.out.cell 7 rfl⟩
  refine wpAnyH_ready (rs := [7]) (by kernel_rfl) (by simp) ?_
  refine AllReadyH.cons rfl (fun K hK => ?_) AllReadyH.nil
  go_simp
  rw [← HW6.out]
  refine hK.out _ _ h6 (fun _ => ?_)
  clear hK K
  try simp only [Act.put, List.getElem_toArray, List.getElem_cons_succ, List.getElem_cons_zero, List.setIfInBounds_toArray, List.set_cons_zero, List.set_cons_succ]
  refine take_putH (i := 8) (v := ?_) (some 48) rfl (by kernel_rfl) (by kernel_rfl) (by kernel_rfl) (by kernel_rfl) (fun _ _ _ h => h) (Or.inl ⟨by rfl, ?_⟩) h6 ?_
  rotate_left
  · (intro w hSw; obtain ⟨z0, z1⟩ := hSw; go_simp; try with_reducible rfl)
  try simp only [Act.put, List.setIfInBounds_toArray, List.set_cons_zero, List.set_cons_succ]
  clear b6 f6
  have b7 : w6.cell? ⟨w.heap.size + 2, 7, none⟩ = some (.slice none 0 0) := HO6.out.cell 7 rfl
  have f7 : w6.frozen? ⟨w.heap.size + 2, 7, none⟩ = false := HO6.out.free 7
  obtain ⟨w7, HW7⟩ : ∃ w7, Hid (w7 = w6.setCell ⟨w.heap.size + 2, 7, none⟩ (.slice ai im ci)) := ⟨_, rfl⟩
  have HO7 : Hid (Bk w7 (w.heap.size + 2) #[.int .i64 1, .int .i64 pp, .int .i64 0, .int .i64 0, .int .i64 pf, .int .i64 pt, .slice asq sn csq, .slice ai im ci] 26) := by rw [HW7.out]; exact bk_step HO6.out 7 _ rfl
  have HP7 : Hid (Bk w7 w.heap.size #[.int .i64 1, .int .i64 pp, .int .i64 ps, .int .i64 pn, .int .i64 pf, .int .i64 pt, .slice sa sn sc, .slice ia im ic] 26) := by rw [HW7.out]; exact HP6.out.other _ _ (by show w.heap.size ≠ w.heap.size + 2; omega)
  have HR7 : Hid (Bk w7 (w.heap.size + 1) #[.int .i64 0, .int .i64 0, .int .i64 0, .int .i64 0, .int .i64 0, .int .i64 0, .slice none 0 0, .slice none 0 0] 26) := by rw [HW7.out]; exact HR6.out.other _ _ (by show w.heap.size + 1 ≠ w.heap.size + 2; omega)
  have HS7 : Hid (Sps w7 (w.heap.size + 3) (.slice asq sn csq) pl) := by rw [HW7.out, HW6.out]; exact (HS5.out.under _ _ (by show w.heap.size + 2 < _; omega)).under _ _ (by show w.heap.size + 2 < _; omega)
  have HI7 : Hid (∃ M, Its w7 (w.heap.size + 3) (.slice ai im ci) M ∧ M.map Prod.fst = pi) := by
    obtain ⟨M, h1, h2⟩ := HI5.out
    refine ⟨M, ?_, h2⟩
    rw [HW7.out, HW6.out]
    exact ((h1.lower (Nat.le_trans HSZ.out HB4.out.size)).under _ _ (by show w.heap.size + 2 < _; omega)).under _ _ (by show w.heap.size + 2 < _; omega)
  have HB7 : Hid (Below w.heap.size w w7) := by rw [HW7.out, HW6.out]; exact (HBw5.out.setCell (by show _ ≤ w.heap.size + 2; omega) _).setCell (by show _ ≤ w.heap.size + 2; omega) _
  have h7 : w7.cell? ⟨w.heap.size, 6, none⟩ = some (.slice sa sn sc) ∧ w7.cell? ⟨w.heap.size, 7, none⟩ = some (.slice ia im ic) := ⟨HP7.out.cell 6 rfl, HP7.out.cell 7 rfl⟩
  refine wpAnyH_ready (rs := [9]) (by kernel_rfl) (by simp) ?_
  refine AllReadyH.cons rfl (fun K hK => ?_) AllReadyH.nil
  go_simp
  rw [← HW7.out]
  refine hK.out _ _ h7 (fun _ => ?_)
  clear hK K
  try simp only [Act.put, List.getElem_toArray, List.getElem_cons_succ, List.getElem_cons_zero, List.setIfInBounds_toArray, List.set_cons_zero, List.set_cons_succ]
  refine wpAnyH_done (by kernel_rfl) ?_ _
  have y0 : w7.cell? ⟨w.heap.size + 2, 0, none⟩ = some (.int .i64 1) := HO7.out.cell 0 rfl
  have y1 : w7.cell? ⟨w.heap.size + 2, 1, none⟩ = some (.int .i64 pp) := HO7.out.cell 1 rfl
  have y2 : w7.cell? ⟨w.heap.size + 2, 2, none⟩ = some (.int .i64 0) := HO7.out.cell 2 rfl
  have y3 : w7.cell? ⟨w.heap.size + 2, 3, none⟩ = some (.int .i64 0) := HO7.out.cell 3 rfl
  have y4 : w7.cell? ⟨w.heap.size + 2, 4, none⟩ = some (.int .i64 pf) := HO7.out.cell 4 rfl
  have y5 : w7.cell? ⟨w.heap.size + 2, 5, none⟩ = some (.int .i64 pt) := HO7.out.cell 5 rfl
  have y6 : w7.cell? ⟨w.heap.size + 2, 6, none⟩ = some (.slice asq sn csq) := HO7.out.cell 6 rfl
  have y7 : w7.cell? ⟨w.heap.size + 2, 7, none⟩ = some (.slice ai im ci) := HO7.out.cell 7 rfl
  have z0 : w7.cell? ⟨w.heap.size + 1, 0, none⟩ = some (.int .i64 0) := HR7.out.cell 0 rfl
  have z1 : w7.cell? ⟨w.heap.size + 1, 1, none⟩ = some (.int .i64 0) := HR7.out.cell 1 rfl
  have z2 : w7.cell? ⟨w.heap.size + 1, 2, none⟩ = some (.int .i64 0) := HR7.out.cell 2 rfl
  have z3 : w7.cell? ⟨w.heap.size + 1, 3, none⟩ = some (.int .i64 0) := HR7.out.cell 3 rfl
  have z4 : w7.cell? ⟨w.heap.size + 1, 4, none⟩ = some (.int .i64 0) := HR7.out.cell 4 rfl
  have z5 : w7.cell? ⟨w.heap.size + 1, 5, none⟩ = some (.int .i64 0) := HR7.out.cell 5 rfl
  have z6 : w7.cell? ⟨w.heap.size + 1, 6, none⟩ = some (.slice none 0 0) := HR7.out.cell 6 rfl
  have z7 : w7.cell? ⟨w.heap.size + 1, 7, none⟩ = some (.slice none 0 0) := HR7.out.cell 7 rfl
  have fz : ∀ i, w7.frozen? ⟨w.heap.size + 1, i, none⟩ = false := fun i => HR7.out.free i
  clear b7 f7 h4 h5 h6 h7 hHeld
  go_wp2
  try simp only [Exit.inBlock, Exit.then]
  change bodyPost _ _ _ _ _ (set8 w7 (w.heap.size + 1) (.int .i64 1) (.int .i64 pp) (.int .i64 0) (.int .i64 0) (.int .i64 pf) (.int .i64 pt) (.slice asq sn csq) (.slice ai im ci))
  refine bodyPost_ret (results_parcel1 rfl (by rfl) (HR7.out.set8 (.int .i64 1) (.int .i64 pp) (.int .i64 0) (.int .i64 0) (.int .i64 pf) (.int .i64 pt) (.slice asq sn csq) (.slice ai im ci))) rfl ?_
  obtain ⟨M, hM1, hM2⟩ := HI7.out
  refine ⟨⟨asq, sn, csq, ai, im, ci, M, rfl, ?_, ?_, hM2⟩, set8_below HB7.out _ (by omega) (.int .i64 1) (.int .i64 pp) (.int .i64 0) (.int .i64 0) (.int .i64 pf) (.int .i64 pt) (.slice asq sn csq) (.slice ai im ci)⟩
  · exact (HS7.out.frame fun k hb hk => set8_other _ _ _ _ _ _ _ _ _ _ k (by omega)).lower (by omega)
  · exact (hM1.frame fun k hb hk => set8_other _ _ _ _ _ _ _ _ _ _ k (by omega)).lower (by omega)

set_option maxRecDepth 100000 in
set_option maxHeartbeats 4000000 in
theorem pc_Plain_2 (pp ps pn pf pt : Int) (pl : List Sp) (pi : List It) (sa : Option Addr) (sn sc : Nat) (ia : Option Addr) (im ic : Nat) (w : World) : Calls Try.prog 12 #[Pc.val ⟨2, pp, ps, pn, pf, pt, pl, pi⟩ sa sn sc ia im ic] w fun e w' => e = .returned (Pc.val ⟨2, pp, 0, 0, pf, pt, [], []⟩ none 0 0 none 0 0) ∧ Below w.heap.size w w' := by
  obtain ⟨W0, HW0⟩ : ∃ W0, Hid (W0 = (((w.alloc (.cells #[.int .i64 2, .int .i64 pp, .int .i64 ps, .int .i64 pn, .int .i64 pf, .int .i64 pt, .slice sa sn sc, .slice ia im ic] 26)).alloc (.cells #[.int .i64 0, .int .i64 0, .int .i64 0, .int .i64 0, .int .i64 0, .int .i64 0, .slice none 0 0, .slice none 0 0] 26)).alloc (.cells #[.int .i64 2, .int .i64 0, .int .i64 0, .int .i64 0, .int .i64 0, .int .i64 0, .slice none 0 0, .slice none 0 0] 26))) := ⟨_, rfl⟩
  have HB0 : Hid (Below w.heap.size w W0) := by rw [HW0.out]; exact ((below_new w _).alloc (by simp) _).alloc (by simp; omega) _
  have HP0 : Hid (Bk W0 w.heap.size #[.int .i64 2, .int .i64 pp, .int .i64 ps, .int .i64 pn, .int .i64 pf, .int .i64 pt, .slice sa sn sc, .slice ia im ic] 26) := by rw [HW0.out]; exact ((Bk.new w _ _).stay (below_new _ _)).stay (below_new _ _)
  have HR0 : Hid (Bk W0 (w.heap.size + 1) #[.int .i64 0, .int .i64 0, .int .i64 0, .int .i64 0, .int .i64 0, .int .i64 0, .slice none 0 0, .slice none 0 0] 26) := by
    rw [HW0.out]
    have h := Bk.new (w.alloc (.cells #[.int .i64 2, .int .i64 pp, .int .i64 ps, .int .i64 pn, .int .i64 pf, .int .i64 pt, .slice sa sn sc, .slice ia im ic] 26)) #[.int .i64 0, .int .i64 0, .int .i64 0, .int .i64 0, .int .i64 0, .int .i64 0, .slice none 0 0, .slice none 0 0] 26
    rw [show (w.alloc (.cells #[.int .i64 2, .int .i64 pp, .int .i64 ps, .int .i64 pn, .int .i64 pf, .int .i64 pt, .slice sa sn sc, .slice ia im ic] 26)).heap.size = w.heap.size + 1 from by simp] at h
    exact h.stay (below_new _ _)
  have HO0 : Hid (Bk W0 (w.heap.size + 2) #[.int .i64 2, .int .i64 0, .int .i64 0, .int .i64 0, .int .i64 0, .int .i64 0, .slice none 0 0, .slice none 0 0] 26) := by
    rw [HW0.out]
    have h := Bk.new ((w.alloc (.cells #[.int .i64 2, .int .i64 pp, .int .i64 ps, .int .i64 pn, .int .i64 pf, .int .i64 pt, .slice sa sn sc, .slice ia im ic] 26)).alloc (.cells #[.int .i64 0, .int .i64 0, .int .i64 0, .int .i64 0, .int .i64 0, .int .i64 0, .slice none 0 0, .slice none 0 0] 26)) #[.int .i64 2, .int .i64 0, .int .i64 0, .int .i64 0, .int .i64 0, .int .i64 0, .slice none 0 0, .slice none 0 0] 26
    rw [show ((w.alloc (.cells #[.int .i64 2, .int .i64 pp, .int .i64 ps, .int .i64 pn, .int .i64 pf, .int .i64 pt, .slice sa sn sc, .slice ia im ic] 26)).alloc (.cells #[.int .i64 0, .int .i64 0, .int .i64 0, .int .i64 0, .int .i64 0, .int .i64 0, .slice none 0 0, .slice none 0 0] 26)).heap.size = w.heap.size + 2 from by simp] at h
    exact h
  have HCU : Hid (Calls Try.prog 19 #[.int .i64 2] W0 fun e w' => e = .returned (.tuple #[.agg #[.bool false, .bool true, .bool true, .bool false], .bool true]) ∧ Below W0.heap.size W0 w') := by
    have h := pc_usedBy 2 W0
    rw [show subB 2 = false from rfl, show fromB 2 = true from rfl, show toB 2 = true from rfl, show newsB 2 = false from rfl, show isB 2 = true from rfl] at h
    exact h
  unfold Pc.val
  simp only
  go_enter Try.func12, Try.ntmps12
  go_wp2_with fail
  rw [← HW0.out]
  refine HCU.out.mono ?_
  rintro e w1 ⟨rfl, hb1⟩
  have hb2 : Below W0.heap.size W0 (w1.alloc (.cells #[.bool false, .bool true, .bool true, .bool false] 48)) := hb1.alloc hb1.size _
  have HU2 : Hid (Bk (w1.alloc (.cells #[.bool false, .bool true, .bool true, .bool false] 48)) w1.heap.size #[.bool false, .bool true, .bool true, .bool false] 48) := Bk.new _ _ _
  have HP2 : Hid (Bk (w1.alloc (.cells #[.bool false, .bool true, .bool true, .bool false] 48)) w.heap.size #[.int .i64 2, .int .i64 pp, .int .i64 ps, .int .i64 pn, .int .i64 pf, .int .i64 pt, .slice sa sn sc, .slice ia im ic] 26) := HP0.out.stay hb2
  have HR2 : Hid (Bk (w1.alloc (.cells #[.bool false, .bool true, .bool true, .bool false] 48)) (w.heap.size + 1) #[.int .i64 0, .int .i64 0, .int .i64 0, .int .i64 0, .int .i64 0, .int .i64 0, .slice none 0 0, .slice none 0 0] 26) := HR0.out.stay hb2
  have HO2 : Hid (Bk (w1.alloc (.cells #[.bool false, .bool true, .bool true, .bool false] 48)) (w.heap.size + 2) #[.int .i64 2, .int .i64 0, .int .i64 0, .int .i64 0, .int .i64 0, .int .i64 0, .slice none 0 0, .slice none 0 0] 26) := HO0.out.stay hb2
  have HB2 : Hid (Below w.heap.size w (w1.alloc (.cells #[.bool false, .bool true, .bool true, .bool false] 48))) := HB0.out.trans (hb2.mono HB0.out.size)
  have hwu : w1.heap.size ≠ w.heap.size + 2 := by have h1 := HO0.out.lt; have h2 := hb1.size; omega
  clear hb1 hb2 HP0 HR0 HO0 HCU HB0
  have e0 : (w1.alloc (.cells #[.bool false, .bool true, .bool true, .bool false] 48)).cell? ⟨w.heap.size, 0, none⟩ = some (.int .i64 2) := HP2.out.cell 0 rfl
  have e1 : (w1.alloc (.cells #[.bool false, .bool true, .bool true, .bool false] 48)).cell? ⟨w.heap.size, 1, none⟩ = some (.int .i64 pp) := HP2.out.cell 1 rfl
  have e2 : (w1.alloc (.cells #[.bool false, .bool true, .bool true, .bool false] 48)).cell? ⟨w.heap.size, 2, none⟩ = some (.int .i64 ps) := HP2.out.cell 2 rfl
  have e3 : (w1.alloc (.cells #[.bool false, .bool true, .bool true, .bool false] 48)).cell? ⟨w.heap.size, 3, none⟩ = some (.int .i64 pn) := HP2.out.cell 3 rfl
  have e4 : (w1.alloc (.cells #[.bool false, .bool true, .bool true, .bool false] 48)).cell? ⟨w.heap.size, 4, none⟩ = some (.int .i64 pf) := HP2.out.cell 4 rfl
  have e5 : (w1.alloc (.cells #[.bool false, .bool true, .bool true, .bool false] 48)).cell? ⟨w.heap.size, 5, none⟩ = some (.int .i64 pt) := HP2.out.cell 5 rfl
  have e6 : (w1.alloc (.cells #[.bool false, .bool true, .bool true, .bool false] 48)).cell? ⟨w.heap.size, 6, none⟩ = some (.slice sa sn sc) := HP2.out.cell 6 rfl
  have e7 : (w1.alloc (.cells #[.bool false, .bool true, .bool true, .bool false] 48)).cell? ⟨w.heap.size, 7, none⟩ = some (.slice ia im ic) := HP2.out.cell 7 rfl
  have y0 : (w1.alloc (.cells #[.bool false, .bool true, .bool true, .bool false] 48)).cell? ⟨w.heap.size + 2, 0, none⟩ = some (.int .i64 2) := HO2.out.cell 0 rfl
  have y1 : (w1.alloc (.cells #[.bool false, .bool true, .bool true, .bool false] 48)).cell? ⟨w.heap.size + 2, 1, none⟩ = some (.int .i64 0) := HO2.out.cell 1 rfl
  have y2 : (w1.alloc (.cells #[.bool false, .bool true, .bool true, .bool false] 48)).cell? ⟨w.heap.size + 2, 2, none⟩ = some (.int .i64 0) := HO2.out.cell 2 rfl
  have y3 : (w1.alloc (.cells #[.bool false, .bool true, .bool true, .bool false] 48)).cell? ⟨w.heap.size + 2, 3, none⟩ = some (.int .i64 0) := HO2.out.cell 3 rfl
  have y4 : (w1.alloc (.cells #[.bool false, .bool true, .bool true, .bool false] 48)).cell? ⟨w.heap.size + 2, 4, none⟩ = some (.int .i64 0) := HO2.out.cell 4 rfl
  have y5 : (w1.alloc (.cells #[.bool false, .bool true, .bool true, .bool false] 48)).cell? ⟨w.heap.size + 2, 5, none⟩ = some (.int .i64 0) := HO2.out.cell 5 rfl
  have y6 : (w1.alloc (.cells #[.bool false, .bool true, .bool true, .bool false] 48)).cell? ⟨w.heap.size + 2, 6, none⟩ = some (.slice none 0 0) := HO2.out.cell 6 rfl
  have y7 : (w1.alloc (.cells #[.bool false, .bool true, .bool true, .bool false] 48)).cell? ⟨w.heap.size + 2, 7, none⟩ = some (.slice none 0 0) := HO2.out.cell 7 rfl
  have z0 : (w1.alloc (.cells #[.bool false, .bool true, .bool true, .bool false] 48)).cell? ⟨w.heap.size + 1, 0, none⟩ = some (.int .i64 0) := HR2.out.cell 0 rfl
  have z1 : (w1.alloc (.cells #[.bool false, .bool true, .bool true, .bool false] 48)).cell? ⟨w.heap.size + 1, 1, none⟩ = some (.int .i64 0) := HR2.out.cell 1 rfl
  have z2 : (w1.alloc (.cells #[.bool false, .bool true, .bool true, .bool false] 48)).cell? ⟨w.heap.size + 1, 2, none⟩ = some (.int .i64 0) := HR2.out.cell 2 rfl
  have z3 : (w1.alloc (.cells #[.bool false, .bool true, .bool true, .bool false] 48)).cell? ⟨w.heap.size + 1, 3, none⟩ = some (.int .i64 0) := HR2.out.cell 3 rfl
  have z4 : (w1.alloc (.cells #[.bool false, .bool true, .bool true, .bool false] 48)).cell? ⟨w.heap.size + 1, 4, none⟩ = some (.int .i64 0) := HR2.out.cell 4 rfl
  have z5 : (w1.alloc (.cells #[.bool false, .bool true, .bool true, .bool false] 48)).cell? ⟨w.heap.size + 1, 5, none⟩ = some (.int .i64 0) := HR2.out.cell 5 rfl
  have z6 : (w1.alloc (.cells #[.bool false, .bool true, .bool true, .bool false] 48)).cell? ⟨w.heap.size + 1, 6, none⟩ = some (.slice none 0 0) := HR2.out.cell 6 rfl
  have z7 : (w1.alloc (.cells #[.bool false, .bool true, .bool true, .bool false] 48)).cell? ⟨w.heap.size + 1, 7, none⟩ = some (.slice none 0 0) := HR2.out.cell 7 rfl
  have u0 : (w1.alloc (.cells #[.bool false, .bool true, .bool true, .bool false] 48)).cell? ⟨w1.heap.size, 0, none⟩ = some (.bool false) := HU2.out.cell 0 rfl
  have u1 : (w1.alloc (.cells #[.bool false, .bool true, .bool true, .bool false] 48)).cell? ⟨w1.heap.size, 1, none⟩ = some (.bool true) := HU2.out.cell 1 rfl
  have u2 : (w1.alloc (.cells #[.bool false, .bool true, .bool true, .bool false] 48)).cell? ⟨w1.heap.size, 2, none⟩ = some (.bool true) := HU2.out.cell 2 rfl
  have u3 : (w1.alloc (.cells #[.bool false, .bool true, .bool true, .bool false] 48)).cell? ⟨w1.heap.size, 3, none⟩ = some (.bool false) := HU2.out.cell 3 rfl
  have fo : ∀ i, (w1.alloc (.cells #[.bool false, .bool true, .bool true, .bool false] 48)).frozen? ⟨w.heap.size + 2, i, none⟩ = false := fun i => HO2.out.free i
  have fr : ∀ i, (w1.alloc (.cells #[.bool false, .bool true, .bool true, .bool false] 48)).frozen? ⟨w.heap.size + 1, i, none⟩ = false := fun i => HR2.out.free i
  have HRF : Hid (Bk ((((w1.alloc (.cells #[.bool false, .bool true, .bool true, .bool false] 48)).setCell ⟨w.heap.size + 2, 1, none⟩ (.int .i64 pp)).setCell ⟨w.heap.size + 2, 4, none⟩ (.int .i64 pf)).setCell ⟨w.heap.size + 2, 5, none⟩ (.int .i64 pt)) (w.heap.size + 1) #[.int .i64 0, .int .i64 0, .int .i64 0, .int .i64 0, .int .i64 0, .int .i64 0, .slice none 0 0, .slice none 0 0] 26) := (((HR2.out.other _ _ (by show w.heap.size + 1 ≠ w.heap.size + 2; omega)).other _ _ (by show w.heap.size + 1 ≠ w.heap.size + 2; omega)).other _ _ (by show w.heap.size + 1 ≠ w.heap.size + 2; omega))
  have HBF : Hid (Below w.heap.size w ((((w1.alloc (.cells #[.bool false, .bool true, .bool true, .bool false] 48)).setCell ⟨w.heap.size + 2, 1, none⟩ (.int .i64 pp)).setCell ⟨w.heap.size + 2, 4, none⟩ (.int .i64 pf)).setCell ⟨w.heap.size + 2, 5, none⟩ (.int .i64 pt))) := (((HB2.out.setCell (by show w.heap.size ≤ w.heap.size + 2; omega) _).setCell (by show w.heap.size ≤ w.heap.size + 2; omega) _).setCell (by show w.heap.size ≤ w.heap.size + 2; omega) _)
  go_wp2
  try simp only [Exit.inBlock, Exit.then]
  change bodyPost _ _ _ _ _ (set8 ((((w1.alloc (.cells #[.bool false, .bool true, .bool true, .bool false] 48)).setCell ⟨w.heap.size + 2, 1, none⟩ (.int .i64 pp)).setCell ⟨w.heap.size + 2, 4, none⟩ (.int .i64 pf)).setCell ⟨w.heap.size + 2, 5, none⟩ (.int .i64 pt)) (w.heap.size + 1) (.int .i64 2) (.int .i64 pp) (.int .i64 0) (.int .i64 0) (.int .i64 pf) (.int .i64 pt) (.slice none 0 0) (.slice none 0 0))
  refine bodyPost_ret (results_parcel1 rfl (by rfl) (HRF.out.set8 (.int .i64 2) (.int .i64 pp) (.int .i64 0) (.int .i64 0) (.int .i64 pf) (.int .i64 pt) (.slice none 0 0) (.slice none 0 0))) rfl ?_
  exact ⟨rfl, set8_below HBF.out _ (by omega) (.int .i64 2) (.int .i64 pp) (.int .i64 0) (.int .i64 0) (.int .i64 pf) (.int .i64 pt) (.slice none 0 0) (.slice none 0 0)⟩

set_option maxRecDepth 100000 in
set_option maxHeartbeats 4000000 in
theorem pc_Plain_3 (pp ps pn pf pt : Int) (pl : List Sp) (pi : List It) (sa : Option Addr) (sn sc : Nat) (ia : Option Addr) (im ic : Nat) (w : World) : Calls Try.prog 12 #[Pc.val ⟨3, pp, ps, pn, pf, pt, pl, pi⟩ sa sn sc ia im ic] w fun e w' => e = .returned (Pc.val ⟨3, pp, ps, pn, pf, 0, [], []⟩ none 0 0 none 0 0) ∧ Below w.heap.size w w' := by
  obtain ⟨W0, HW0⟩ : ∃ W0, Hid (W0 = (((w.alloc (.cells #[.int .i64 3, .int .i64 pp, .int .i64 ps, .int .i64 pn, .int .i64 pf, .int .i64 pt, .slice sa sn sc, .slice ia im ic] 26)).alloc (.cells #[.int .i64 0, .int .i64 0, .int .i64 0, .int .i64 0, .int .i64 0, .int .i64 0, .slice none 0 0, .slice none 0 0] 26)).alloc (.cells #[.int .i64 3, .int .i64 0, .int .i64 0, .int .i64 0, .int .i64 0, .int .i64 0, .slice none 0 0, .slice none 0 0] 26))) := ⟨_, rfl⟩
  have HB0 : Hid (Below w.heap.size w W0) := by rw [HW0.out]; exact ((below_new w _).alloc (by simp) _).alloc (by simp; omega) _
  have HP0 : Hid (Bk W0 w.heap.size #[.int .i64 3, .int .i64 pp, .int .i64 ps, .int .i64 pn, .int .i64 pf, .int .i64 pt, .slice sa sn sc, .slice ia im ic] 26) := by rw [HW0.out]; exact ((Bk.new w _ _).stay (below_new _ _)).stay (below_new _ _)
  have HR0 : Hid (Bk W0 (w.heap.size + 1) #[.int .i64 0, .int .i64 0, .int .i64 0, .int .i64 0, .int .i64 0, .int .i64 0, .slice none 0 0, .slice none 0 0] 26) := by
    rw [HW0.out]
    have h := Bk.new (w.alloc (.cells #[.int .i64 3, .int .i64 pp, .int .i64 ps, .int .i64 pn, .int .i64 pf, .int .i64 pt, .slice sa sn sc, .slice ia im ic] 26)) #[.int .i64 0, .int .i64 0, .int .i64 0, .int .i64 0, .int .i64 0, .int .i64 0, .slice none 0 0, .slice none 0 0] 26
    rw [show (w.alloc (.cells #[.int .i64 3, .int .i64 pp, .int .i64 ps, .int .i64 pn, .int .i64 pf, .int .i64 pt, .slice sa sn sc, .slice ia im ic] 26)).heap.size = w.heap.size + 1 from by simp] at h
    exact h.stay (below_new _ _)
  have HO0 : Hid (Bk W0 (w.heap.size + 2) #[.int .i64 3, .int .i64 0, .int .i64 0, .int .i64 0, .int .i64 0, .int .i64 0, .slice none 0 0, .slice none 0 0] 26) := by
    rw [HW0.out]
    have h := Bk.new ((w.alloc (.cells #[.int .i64 3, .int .i64 pp, .int .i64 ps, .int .i64 pn, .int .i64 pf, .int .i64 pt, .slice sa sn sc, .slice ia im ic] 26)).alloc (.cells #[.int .i64 0, .int .i64 0, .int .i64 0, .int .i64 0, .int .i64 0, .int .i64 0, .slice none 0 0, .slice none 0 0] 26)) #[.int .i64 3, .int .i64 0, .int .i64 0, .int .i64 0, .int .i64 0, .int .i64 0, .slice none 0 0, .slice none 0 0] 26
    rw [show ((w.alloc (.cells #[.int .i64 3, .int .i64 pp, .int .i64 ps, .int .i64 pn, .int .i64 pf, .int .i64 pt, .slice sa sn sc, .slice ia im ic] 26)).alloc (.cells #[.int .i64 0, .int .i64 0, .int .i64 0, .int .i64 0, .int .i64 0, .int .i64 0, .slice none 0 0, .slice none 0 0] 26)).heap.size = w.heap.size + 2 from by simp] at h
    exact h
  have HCU : Hid (Calls Try.prog 19 #[.int .i64 3] W0 fun e w' => e = .returned (.tuple #[.agg #[.bool true, .bool true, .bool false, .bool false], .bool true]) ∧ Below W0.heap.size W0 w') := by
    have h := pc_usedBy 3 W0
    rw [show subB 3 = true from rfl, show fromB 3 = true from rfl, show toB 3 = false from rfl, show newsB 3 = false from rfl, show isB 3 = true from rfl] at h
    exact h
  unfold Pc.val
  simp only
  go_enter Try.func12, Try.ntmps12
  go_wp2_with fail
  rw [← HW0.out]
  refine HCU.out.mono ?_
  rintro e w1 ⟨rfl, hb1⟩
  have hb2 : Below W0.heap.size W0 (w1.alloc (.cells #[.bool true, .bool true, .bool false, .bool false] 48)) := hb1.alloc hb1.size _
  have HU2 : Hid (Bk (w1.alloc (.cells #[.bool true, .bool true, .bool false, .bool false] 48)) w1.heap.size #[.bool true, .bool true, .bool false, .bool false] 48) := Bk.new _ _ _
  have HP2 : Hid (Bk (w1.alloc (.cells #[.bool true, .bool true, .bool false, .bool false] 48)) w.heap.size #[.int .i64 3, .int .i64 pp, .int .i64 ps, .int .i64 pn, .int .i64 pf, .int .i64 pt, .slice sa sn sc, .slice ia im ic] 26) := HP0.out.stay hb2
  have HR2 : Hid (Bk (w1.alloc (.cells #[.bool true, .bool true, .bool false, .bool false] 48)) (w.heap.size + 1) #[.int .i64 0, .int .i64 0, .int .i64 0, .int .i64 0, .int .i64 0, .int .i64 0, .slice none 0 0, .slice none 0 0] 26) := HR0.out.stay hb2
  have HO2 : Hid (Bk (w1.alloc (.cells #[.bool true, .bool true, .bool false, .bool false] 48)) (w.heap.size + 2) #[.int .i64 3, .int .i64 0, .int .i64 0, .int .i64 0, .int .i64 0, .int .i64 0, .slice none 0 0, .slice none 0 0] 26) := HO0.out.stay hb2
  have HB2 : Hid (Below w.heap.size w (w1.alloc (.cells #[.bool true, .bool true, .bool false, .bool false] 48))) := HB0.out.trans (hb2.mono HB0.out.size)
  have hwu : w1.heap.size ≠ w.heap.size + 2 := by have h1 := HO0.out.lt; have h2 := hb1.size; omega
  clear hb1 hb2 HP0 HR0 HO0 HCU HB0
  have e0 : (w1.alloc (.cells #[.bool true, .bool true, .bool false, .bool false] 48)).cell? ⟨w.heap.size, 0, none⟩ = some (.int .i64 3) := HP2.out.cell 0 rfl
  have e1 : (w1.alloc (.cells #[.bool true, .bool true, .bool false, .bool false] 48)).cell? ⟨w.heap.size, 1, none⟩ = some (.int .i64 pp) := HP2.out.cell 1 rfl
  have e2 : (w1.alloc (.cells #[.bool true, .bool true, .bool false, .bool false] 48)).cell? ⟨w.heap.size, 2, none⟩ = some (.int .i64 ps) := HP2.out.cell 2 rfl
  have e3 : (w1.alloc (.cells #[.bool true, .bool true, .bool false, .bool false] 48)).cell? ⟨w.heap.size, 3, none⟩ = some (.int .i64 pn) := HP2.out.cell 3 rfl
  have e4 : (w1.alloc (.cells #[.bool true, .bool true, .bool false, .bool false] 48)).cell? ⟨w.heap.size, 4, none⟩ = some (.int .i64 pf) := HP2.out.cell 4 rfl
  have e5 : (w1.alloc (.cells #[.bool true, .bool true, .bool false, .bool false] 48)).cell? ⟨w.heap.size, 5, none⟩ = some (.int .i64 pt) := HP2.out.cell 5 rfl
  have e6 : (w1.alloc (.cells #[.bool true, .bool true, .bool false, .bool false] 48)).cell? ⟨w.heap.size, 6, none⟩ = some (.slice sa sn sc) := HP2.out.cell 6 rfl
  have e7 : (w1.alloc (.cells #[.bool true, .bool true, .bool false, .bool false] 48)).cell? ⟨w.heap.size, 7, none⟩ = some (.slice ia im ic) := HP2.out.cell 7 rfl
  have y0 : (w1.alloc (.cells #[.bool true, .bool true, .bool false, .bool false] 48)).cell? ⟨w.heap.size + 2, 0, none⟩ = some (.int .i64 3) := HO2.out.cell 0 rfl
  have y1 : (w1.alloc (.cells #[.bool true, .bool true, .bool false, .bool false] 48)).cell? ⟨w.heap.size + 2, 1, none⟩ = some (.int .i64 0) := HO2.out.cell 1 rfl
  have y2 : (w1.alloc (.cells #[.bool true, .bool true, .bool false, .bool false] 48)).cell? ⟨w.heap.size + 2, 2, none⟩ = some (.int .i64 0) := HO2.out.cell 2 rfl
  have y3 : (w1.alloc (.cells #[.bool true, .bool true, .bool false, .bool false] 48)).cell? ⟨w.heap.size + 2, 3, none⟩ = some (.int .i64 0) := HO2.out.cell 3 rfl
  have y4 : (w1.alloc (.cells #[.bool true, .bool true, .bool false, .bool false] 48)).cell? ⟨w.heap.size + 2, 4, none⟩ = some (.int .i64 0) := HO2.out.cell 4 rfl
  have y5 : (w1.alloc (.cells #[.bool true, .bool true, .bool false, .bool false] 48)).cell? ⟨w.heap.size + 2, 5, none⟩ = some (.int .i64 0) := HO2.out.cell 5 rfl
  have y6 : (w1.alloc (.cells #[.bool true, .bool true, .bool false, .bool false] 48)).cell? ⟨w.heap.size + 2, 6, none⟩ = some (.slice none 0 0) := HO2.out.cell 6 rfl
  have y7 : (w1.alloc (.cells #[.bool true, .bool true, .bool false, .bool false] 48)).cell? ⟨w.heap.size + 2, 7, none⟩ = some (.slice none 0 0) := HO2.out.cell 7 rfl
  have z0 : (w1.alloc (.cells #[.bool true, .bool true, .bool false, .bool false] 48)).cell? ⟨w.heap.size + 1, 0, none⟩ = some (.int .i64 0) := HR2.out.cell 0 rfl
  have z1 : (w1.alloc (.cells #[.bool true, .bool true, .bool false, .bool false] 48)).cell? ⟨w.heap.size + 1, 1, none⟩ = some (.int .i64 0) := HR2.out.cell 1 rfl
  have z2 : (w1.alloc (.cells #[.bool true, .bool true, .bool false, .bool false] 48)).cell? ⟨w.heap.size + 1, 2, none⟩ = some (.int .i64 0) := HR2.out.cell 2 rfl
  have z3 : (w1.alloc (.cells #[.bool true, .bool true, .bool false, .bool false] 48)).cell? ⟨w.heap.size + 1, 3, none⟩ = some (.int .i64 0) := HR2.out.cell 3 rfl
  have z4 : (w1.alloc (.cells #[.bool true, .bool true, .bool false, .bool false] 48)).cell? ⟨w.heap.size + 1, 4, none⟩ = some (.int .i64 0) := HR2.out.cell 4 rfl
  have z5 : (w1.alloc (.cells #[.bool true, .bool true, .bool false, .bool false] 48)).cell? ⟨w.heap.size + 1, 5, none⟩ = some (.int .i64 0) := HR2.out.cell 5 rfl
  have z6 : (w1.alloc (.cells #[.bool true, .bool true, .bool false, .bool false] 48)).cell? ⟨w.heap.size + 1, 6, none⟩ = some (.slice none 0 0) := HR2.out.cell 6 rfl
  have z7 : (w1.alloc (.cells #[.bool true, .bool true, .bool false, .bool false] 48)).cell? ⟨w.heap.size + 1, 7, none⟩ = some (.slice none 0 0) := HR2.out.cell 7 rfl
  have u0 : (w1.alloc (.cells #[.bool true, .bool true, .bool false, .bool false] 48)).cell? ⟨w1.heap.size, 0, none⟩ = some (.bool true) := HU2.out.cell 0 rfl
  have u1 : (w1.alloc (.cells #[.bool true, .bool true, .bool false, .bool false] 48)).cell? ⟨w1.heap.size, 1, none⟩ = some (.bool true) := HU2.out.cell 1 rfl
  have u2 : (w1.alloc (.cells #[.bool true, .bool true, .bool false, .bool false] 48)).cell? ⟨w1.heap.size, 2, none⟩ = some (.bool false) := HU2.out.cell 2 rfl
  have u3 : (w1.alloc (.cells #[.bool true, .bool true, .bool false, .bool false] 48)).cell? ⟨w1.heap.size, 3, none⟩ = some (.bool false) := HU2.out.cell 3 rfl
  have fo : ∀ i, (w1.alloc (.cells #[.bool true, .bool true, .bool false, .bool false] 48)).frozen? ⟨w.heap.size + 2, i, none⟩ = false := fun i => HO2.out.free i
  have fr : ∀ i, (w1.alloc (.cells #[.bool true, .bool true, .bool false, .bool false] 48)).frozen? ⟨w.heap.size + 1, i, none⟩ = false := fun i => HR2.out.free i
  have HRF : Hid (Bk (((((w1.alloc (.cells #[.bool true, .bool true, .bool false, .bool false] 48)).setCell ⟨w.heap.size + 2, 1, none⟩ (.int .i64 pp)).setCell ⟨w.heap.size + 2, 2, none⟩ (.int .i64 ps)).setCell ⟨w.heap.size + 2, 3, none⟩ (.int .i64 pn)).setCell ⟨w.heap.size + 2, 4, none⟩ (.int .i64 pf)) (w.heap.size + 1) #[.int .i64 0, .int .i64 0, .int .i64 0, .int .i64 0, .int .i64 0, .int .i64 0, .slice none 0 0, .slice none 0 0] 26) := ((((HR2.out.other _ _ (by show w.heap.size + 1 ≠ w.heap.size + 2; omega)).other _ _ (by show w.heap.size + 1 ≠ w.heap.size + 2; omega)).other _ _ (by show w.heap.size + 1 ≠ w.heap.size + 2; omega)).other _ _ (by show w.heap.size + 1 ≠ w.heap.size + 2; omega))
  have HBF : Hid (Below w.heap.size w (((((w1.alloc (.cells #[.bool true, .bool true, .bool false, .bool false] 48)).setCell ⟨w.heap.size + 2, 1, none⟩ (.int .i64 pp)).setCell ⟨w.heap.size + 2, 2, none⟩ (.int .i64 ps)).setCell ⟨w.heap.size + 2, 3, none⟩ (.int .i64 pn)).setCell ⟨w.heap.size + 2, 4, none⟩ (.int .i64 pf))) := ((((HB2.out.setCell (by show w.heap.size ≤ w.heap.size + 2; omega) _).setCell (by show w.heap.size ≤ w.heap.size + 2; omega) _).setCell (by show w.heap.size ≤ w.heap.size + 2; omega) _).setCell (by show w.heap.size ≤ w.heap.size + 2; omega) _)
  go_wp2
  go_region
  go_wp2
  try simp only [Exit.inBlock, Exit.then]
  change bodyPost _ _ _ _ _ (World.drew (set8 (((((w1.alloc (.cells #[.bool true, .bool true, .bool false, .bool false] 48)).setCell ⟨w.heap.size + 2, 1, none⟩ (.int .i64 pp)).setCell ⟨w.heap.size + 2, 2, none⟩ (.int .i64 ps)).setCell ⟨w.heap.size + 2, 3, none⟩ (.int .i64 pn)).setCell ⟨w.heap.size + 2, 4, none⟩ (.int .i64 pf)) (w.heap.size + 1) (.int .i64 3) (.int .i64 pp) (.int .i64 ps) (.int .i64 pn) (.int .i64 pf) (.int .i64 0) (.slice none 0 0) (.slice none 0 0)))
  refine bodyPost_ret (results_parcel1 rfl (by rfl) (bk_drew (HRF.out.set8 (.int .i64 3) (.int .i64 pp) (.int .i64 ps) (.int .i64 pn) (.int .i64 pf) (.int .i64 0) (.slice none 0 0) (.slice none 0 0)))) rfl ?_
  exact ⟨rfl, below_drew (set8_below HBF.out _ (by omega) (.int .i64 3) (.int .i64 pp) (.int .i64 ps) (.int .i64 pn) (.int .i64 pf) (.int .i64 0) (.slice none 0 0) (.slice none 0 0))⟩

set_option maxRecDepth 100000 in
set_option maxHeartbeats 4000000 in
theorem pc_Plain_4 (pp ps pn pf pt : Int) (pl : List Sp) (pi : List It) (sa : Option Addr) (sn sc : Nat) (ia : Option Addr) (im ic : Nat) (w : World) : Calls Try.prog 12 #[Pc.val ⟨4, pp, ps, pn, pf, pt, pl, pi⟩ sa sn sc ia im ic] w fun e w' => e = .returned (Pc.val ⟨4, pp, ps, pn, 0, 0, [], []⟩ none 0 0 none 0 0) ∧ Below w.heap.size w w' := by
  obtain ⟨W0, HW0⟩ : ∃ W0, Hid (W0 = (((w.alloc (.cells #[.int .i64 4, .int .i64 pp, .int .i64 ps, .int .i64 pn, .int .i64 pf, .int .i64 pt, .slice sa sn sc, .slice ia im ic] 26)).alloc (.cells #[.int .i64 0, .int .i64 0, .int .i64 0, .int .i64 0, .int .i64 0, .int .i64 0, .slice none 0 0, .slice none 0 0] 26)).alloc (.cells #[.int .i64 4, .int .i64 0, .int .i64 0, .int .i64 0, .int .i64 0, .int .i64 0, .slice none 0 0, .slice none 0 0] 26))) := ⟨_, rfl⟩
  have HB0 : Hid (Below w.heap.size w W0) := by rw [HW0.out]; exact ((below_new w _).alloc (by simp) _).alloc (by simp; omega) _
  have HP0 : Hid (Bk W0 w.heap.size #[.int .i64 4, .int .i64 pp, .int .i64 ps, .int .i64 pn, .int .i64 pf, .int .i64 pt, .slice sa sn sc, .slice ia im ic] 26) := by rw [HW0.out]; exact ((Bk.new w _ _).stay (below_new _ _)).stay (below_new _ _)
  have HR0 : Hid (Bk W0 (w.heap.size + 1) #[.int .i64 0, .int .i64 0, .int .i64 0, .int .i64 0, .int .i64 0, .int .i64 0, .slice none 0 0, .slice none 0 0] 26) := by
    rw [HW0.out]
    have h := Bk.new (w.alloc (.cells #[.int .i64 4, .int .i64 pp, .int .i64 ps, .int .i64 pn, .int .i64 pf, .int .i64 pt, .slice sa sn sc, .slice ia im ic] 26)) #[.int .i64 0, .int .i64 0, .int .i64 0, .int .i64 0, .int .i64 0, .int .i64 0, .slice none 0 0, .slice none 0 0] 26
    rw [show (w.alloc (.cells #[.int .i64 4, .int .i64 pp, .int .i64 ps, .int .i64 pn, .int .i64 pf, .int .i64 pt, .slice sa sn sc, .slice ia im ic] 26)).heap.size = w.heap.size + 1 from by simp] at h
    exact h.stay (below_new _ _)
  have HO0 : Hid (Bk W0 (w.heap.size + 2) #[.int .i64 4, .int .i64 0, .int .i64 0, .int .i64 0, .int .i64 0, .int .i64 0, .slice none 0 0, .slice none 0 0] 26) := by
    rw [HW0.out]
    have h := Bk.new ((w.alloc (.cells #[.int .i64 4, .int .i64 pp, .int .i64 ps, .int .i64 pn, .int .i64 pf, .int .i64 pt, .slice sa sn sc, .slice ia im ic] 26)).alloc (.cells #[.int .i64 0, .int .i64 0, .int .i64 0, .int .i64 0, .int .i64 0, .int .i64 0, .slice none 0 0, .slice none 0 0] 26)) #[.int .i64 4, .int .i64 0, .int .i64 0, .int .i64 0, .int .i64 0, .int .i64 0, .slice none 0 0, .slice none 0 0] 26
    rw [show ((w.alloc (.cells #[.int .i64 4, .int .i64 pp, .int .i64 ps, .int .i64 pn, .int .i64 pf, .int .i64 pt, .slice sa sn sc, .slice ia im ic] 26)).alloc (.cells #[.int .i64 0, .int .i64 0, .int .i64 0, .int .i64 0, .int .i64 0, .int .i64 0, .slice none 0 0, .slice none 0 0] 26)).heap.size = w.heap.size + 2 from by simp] at h
    exact h
  have HCU : Hid (Calls Try.prog 19 #[.int .i64 4] W0 fun e w' => e = .returned (.tuple #[.agg #[.bool true, .bool false, .bool false, .bool false], .bool true]) ∧ Below W0.heap.size W0 w') := by
    have h := pc_usedBy 4 W0
    rw [show subB 4 = true from rfl, show fromB 4 = false from rfl, show toB 4 = false from rfl, show newsB 4 = false from rfl, show isB 4 = true from rfl] at h
    exact h
  unfold Pc.val
  simp only
  go_enter Try.func12, Try.ntmps12
  go_wp2_with fail
  rw [← HW0.out]
  refine HCU.out.mono ?_
  rintro e w1 ⟨rfl, hb1⟩
  have hb2 : Below W0.heap.size W0 (w1.alloc (.cells #[.bool true, .bool false, .bool false, .bool false] 48)) := hb1.alloc hb1.size _
  have HU2 : Hid (Bk (w1.alloc (.cells #[.bool true, .bool false, .bool false, .bool false] 48)) w1.heap.size #[.bool true, .bool false, .bool false, .bool false] 48) := Bk.new _ _ _
  have HP2 : Hid (Bk (w1.alloc (.cells #[.bool true, .bool false, .bool false, .bool false] 48)) w.heap.size #[.int .i64 4, .int .i64 pp, .int .i64 ps, .int .i64 pn, .int .i64 pf, .int .i64 pt, .slice sa sn sc, .slice ia im ic] 26) := HP0.out.stay hb2
  have HR2 : Hid (Bk (w1.alloc (.cells #[.bool true, .bool false, .bool false, .bool false] 48)) (w.heap.size + 1) #[.int .i64 0, .int .i64 0, .int .i64 0, .int .i64 0, .int .i64 0, .int .i64 0, .slice none 0 0, .slice none 0 0] 26) := HR0.out.stay hb2
  have HO2 : Hid (Bk (w1.alloc (.cells #[.bool true, .bool false, .bool false, .bool false] 48)) (w.heap.size + 2) #[.int .i64 4, .int .i64 0, .int .i64 0, .int .i64 0, .int .i64 0, .int .i64 0, .slice none 0 0, .slice none 0 0] 26) := HO0.out.stay hb2
  have HB2 : Hid (Below w.heap.size w (w1.alloc (.cells #[.bool true, .bool false, .bool false, .bool false] 48))) := HB0.out.trans (hb2.mono HB0.out.size)
  have hwu : w1.heap.size ≠ w.heap.size + 2 := by have h1 := HO0.out.lt; have h2 := hb1.size; omega
  clear hb1 hb2 HP0 HR0 HO0 HCU HB0
  have e0 : (w1.alloc (.cells #[.bool true, .bool false, .bool false, .bool false] 48)).cell? ⟨w.heap.size, 0, none⟩ = some (.int .i64 4) := HP2.out.cell 0 rfl
  have e1 : (w1.alloc (.cells #[.bool true, .bool false, .bool false, .bool false] 48)).cell? ⟨w.heap.size, 1, none⟩ = some (.int .i64 pp) := HP2.out.cell 1 rfl
  have e2 : (w1.alloc (.cells #[.bool true, .bool false, .bool false, .bool false] 48)).cell? ⟨w.heap.size, 2, none⟩ = some (.int .i64 ps) := HP2.out.cell 2 rfl
  have e3 : (w1.alloc (.cells #[.bool true, .bool false, .bool false, .bool false] 48)).cell? ⟨w.heap.size, 3, none⟩ = some (.int .i64 pn) := HP2.out.cell 3 rfl
  have e4 : (w1.alloc (.cells #[.bool true, .bool false, .bool false, .bool false] 48)).cell? ⟨w.heap.size, 4, none⟩ = some (.int .i64 pf) := HP2.out.cell 4 rfl
  have e5 : (w1.alloc (.cells #[.bool true, .bool false, .bool false, .bool false] 48)).cell? ⟨w.heap.size, 5, none⟩ = some (.int .i64 pt) := HP2.out.cell 5 rfl
  have e6 : (w1.alloc (.cells #[.bool true, .bool false, .bool false, .bool false] 48)).cell? ⟨w.heap.size, 6, none⟩ = some (.slice sa sn sc) := HP2.out.cell 6 rfl
  have e7 : (w1.alloc (.cells #[.bool true, .bool false, .bool false, .bool false] 48)).cell? ⟨w.heap.size, 7, none⟩ = some (.slice ia im ic) := HP2.out.cell 7 rfl
  have y0 : (w1.alloc (.cells #[.bool true, .bool false, .bool false, .bool false] 48)).cell? ⟨w.heap.size + 2, 0, none⟩ = some (.int .i64 4) := HO2.out.cell 0 rfl
  have y1 : (w1.alloc (.cells #[.bool true, .bool false, .bool false, .bool false] 48)).cell? ⟨w.heap.size + 2, 1, none⟩ = some (.int .i64 0) := HO2.out.cell 1 rfl
  have y2 : (w1.alloc (.cells #[.bool true, .bool false, .bool false, .bool false] 48)).cell? ⟨w.heap.size + 2, 2, none⟩ = some (.int .i64 0) := HO2.out.cell 2 rfl
  have y3 : (w1.alloc (.cells #[.bool true, .bool false, .bool false, .bool false] 48)).cell? ⟨w.heap.size + 2, 3, none⟩ = some (.int .i64 0) := HO2.out.cell 3 rfl
  have y4 : (w1.alloc (.cells #[.bool true, .bool false, .bool false, .bool false] 48)).cell? ⟨w.heap.size + 2, 4, none⟩ = some (.int .i64 0) := HO2.out.cell 4 rfl
  have y5 : (w1.alloc (.cells #[.bool true, .bool false, .bool false, .bool false] 48)).cell? ⟨w.heap.size + 2, 5, none⟩ = some (.int .i64 0) := HO2.out.cell 5 rfl
  have y6 : (w1.alloc (.cells #[.bool true, .bool false, .bool false, .bool false] 48)).cell? ⟨w.heap.size + 2, 6, none⟩ = some (.slice none 0 0) := HO2.out.cell 6 rfl
  have y7 : (w1.alloc (.cells #[.bool true, .bool false, .bool false, .bool false] 48)).cell? ⟨w.heap.size + 2, 7, none⟩ = some (.slice none 0 0) := HO2.out.cell 7 rfl
  have z0 : (w1.alloc (.cells #[.bool true, .bool false, .bool false, .bool false] 48)).cell? ⟨w.heap.size + 1, 0, none⟩ = some (.int .i64 0) := HR2.out.cell 0 rfl
  have z1 : (w1.alloc (.cells #[.bool true, .bool false, .bool false, .bool false] 48)).cell? ⟨w.heap.size + 1, 1, none⟩ = some (.int .i64 0) := HR2.out.cell 1 rfl
  have z2 : (w1.alloc (.cells #[.bool true, .bool false, .bool false, .bool false] 48)).cell? ⟨w.heap.size + 1, 2, none⟩ = some (.int .i64 0) := HR2.out.cell 2 rfl
  have z3 : (w1.alloc (.cells #[.bool true, .bool false, .bool false, .bool false] 48)).cell? ⟨w.heap.size + 1, 3, none⟩ = some (.int .i64 0) := HR2.out.cell 3 rfl
  have z4 : (w1.alloc (.cells #[.bool true, .bool false, .bool false, .bool false] 48)).cell? ⟨w.heap.size + 1, 4, none⟩ = some (.int .i64 0) := HR2.out.cell 4 rfl
  have z5 : (w1.alloc (.cells #[.bool true, .bool false, .bool false, .bool false] 48)).cell? ⟨w.heap.size + 1, 5, none⟩ = some (.int .i64 0) := HR2.out.cell 5 rfl
  have z6 : (w1.alloc (.cells #[.bool true, .bool false, .bool false, .bool false] 48)).cell? ⟨w.heap.size + 1, 6, none⟩ = some (.slice none 0 0) := HR2.out.cell 6 rfl
  have z7 : (w1.alloc (.cells #[.bool true, .bool false, .bool false, .bool false] 48)).cell? ⟨w.heap.size + 1, 7, none⟩ = some (.slice none 0 0) := HR2.out.cell 7 rfl
  have u0 : (w1.alloc (.cells #[.bool true, .bool false, .bool false, .bool false] 48)).cell? ⟨w1.heap.size, 0, none⟩ = some (.bool true) := HU2.out.cell 0 rfl
  have u1 : (w1.alloc (.cells #[.bool true, .bool false, .bool false, .bool false] 48)).cell? ⟨w1.heap.size, 1, none⟩ = some (.bool false) := HU2.out.cell 1 rfl
  have u2 : (w1.alloc (.cells #[.bool true, .bool false, .bool false, .bool false] 48)).cell? ⟨w1.heap.size, 2, none⟩ = some (.bool false) := HU2.out.cell 2 rfl
  have u3 : (w1.alloc (.cells #[.bool true, .bool false, .bool false, .bool false] 48)).cell? ⟨w1.heap.size, 3, none⟩ = some (.bool false) := HU2.out.cell 3 rfl
  have fo : ∀ i, (w1.alloc (.cells #[.bool true, .bool false, .bool false, .bool false] 48)).frozen? ⟨w.heap.size + 2, i, none⟩ = false := fun i => HO2.out.free i
  have fr : ∀ i, (w1.alloc (.cells #[.bool true, .bool false, .bool false, .bool false] 48)).frozen? ⟨w.heap.size + 1, i, none⟩ = false := fun i => HR2.out.free i
  have HRF : Hid (Bk ((((w1.alloc (.cells #[.bool true, .bool false, .bool false, .bool false] 48)).setCell ⟨w.heap.size + 2, 1, none⟩ (.int .i64 pp)).setCell ⟨w.heap.size + 2, 2, none⟩ (.int .i64 ps)).setCell ⟨w.heap.size + 2, 3, none⟩ (.int .i64 pn)) (w.heap.size + 1) #[.int .i64 0, .int .i64 0, .int .i64 0, .int .i64 0, .int .i64 0, .int .i64 0, .slice none 0 0, .slice none 0 0] 26) := (((HR2.out.other _ _ (by show w.heap.size + 1 ≠ w.heap.size + 2; omega)).other _ _ (by show w.heap.size + 1 ≠ w.heap.size + 2; omega)).other _ _ (by show w.heap.size + 1 ≠ w.heap.size + 2; omega))
  have HBF : Hid (Below w.heap.size w ((((w1.alloc (.cells #[.bool true, .bool false, .bool false, .bool false] 48)).setCell ⟨w.heap.size + 2, 1, none⟩ (.int .i64 pp)).setCell ⟨w.heap.size + 2, 2, none⟩ (.int .i64 ps)).setCell ⟨w.heap.size + 2, 3, none⟩ (.int .i64 pn))) := (((HB2.out.setCell (by show w.heap.size ≤ w.heap.size + 2; omega) _).setCell (by show w.heap.size ≤ w.heap.size + 2; omega) _).setCell (by show w.heap.size ≤ w.heap.size + 2; omega) _)
  go_wp2
  go_region
  go_wp2
  try simp only [Exit.inBlock, Exit.then]
  change bodyPost _ _ _ _ _ (World.drew (set8 ((((w1.alloc (.cells #[.bool true, .bool false, .bool false, .bool false] 48)).setCell ⟨w.heap.size + 2, 1, none⟩ (.int .i64 pp)).setCell ⟨w.heap.size + 2, 2, none⟩ (.int .i64 ps)).setCell ⟨w.heap.size + 2, 3, none⟩ (.int .i64 pn)) (w.heap.size + 1) (.int .i64 4) (.int .i64 pp) (.int .i64 ps) (.int .i64 pn) (.int .i64 0) (.int .i64 0) (.slice none 0 0) (.slice none 0 0)))
  refine bodyPost_ret (results_parcel1 rfl (by rfl) (bk_drew (HRF.out.set8 (.int .i64 4) (.int .i64 pp) (.int .i64 ps) (.int .i64 pn) (.int .i64 0) (.int .i64 0) (.slice none 0 0) (.slice none 0 0)))) rfl ?_
  exact ⟨rfl, below_drew (set8_below HBF.out _ (by omega) (.int .i64 4) (.int .i64 pp) (.int .i64 ps) (.int .i64 pn) (.int .i64 0) (.int .i64 0) (.slice none 0 0) (.slice none 0 0))⟩

set_option maxRecDepth 100000 in
set_option maxHeartbeats 4000000 in
theorem pc_Plain_5 (pp ps pn pf pt : Int) (pl : List Sp) (pi : List It) (sa : Option Addr) (sn sc : Nat) (ia : Option Addr) (im ic : Nat) (w : World) : Calls Try.prog 12 #[Pc.val ⟨5, pp, ps, pn, pf, pt, pl, pi⟩ sa sn sc ia im ic] w fun e w' => e = .returned (Pc.val ⟨5, pp, ps, pn, pf, 0, [], []⟩ none 0 0 none 0 0) ∧ Below w.heap.size w w' := by
  obtain ⟨W0, HW0⟩ : ∃ W0, Hid (W0 = (((w.alloc (.cells #[.int .i64 5, .int .i64 pp, .int .i64 ps, .int .i64 pn, .int .i64 pf, .int .i64 pt, .slice sa sn sc, .slice ia im ic] 26)).alloc (.cells #[.int .i64 0, .int .i64 0, .int .i64 0, .int .i64 0, .int .i64 0, .int .i64 0, .slice none 0 0, .slice none 0 0] 26)).alloc (.cells #[.int .i64 5, .int .i64 0, .int .i64 0, .int .i64 0, .int .i64 0, .int .i64 0, .slice none 0 0, .slice none 0 0] 26))) := ⟨_, rfl⟩
  have HB0 : Hid (Below w.heap.size w W0) := by rw [HW0.out]; exact ((below_new w _).alloc (by simp) _).alloc (by simp; omega) _
  have HP0 : Hid (Bk W0 w.heap.size #[.int .i64 5, .int .i64 pp, .int .i64 ps, .int .i64 pn, .int .i64 pf, .int .i64 pt, .slice sa sn sc, .slice ia im ic] 26) := by rw [HW0.out]; exact ((Bk.new w _ _).stay (below_new _ _)).stay (below_new _ _)
  have HR0 : Hid (Bk W0 (w.heap.size + 1) #[.int .i64 0, .int .i64 0, .int .i64 0, .int .i64 0, .int .i64 0, .int .i64 0, .slice none 0 0, .slice none 0 0] 26) := by
    rw [HW0.out]
    have h := Bk.new (w.alloc (.cells #[.int .i64 5, .int .i64 pp, .int .i64 ps, .int .i64 pn, .int .i64 pf, .int .i64 pt, .slice sa sn sc, .slice ia im ic] 26)) #[.int .i64 0, .int .i64 0, .int .i64 0, .int .i64 0, .int .i64 0, .int .i64 0, .slice none 0 0, .slice none 0 0] 26
    rw [show (w.alloc (.cells #[.int .i64 5, .int .i64 pp, .int .i64 ps, .int .i64 pn, .int .i64 pf, .int .i64 pt, .slice sa sn sc, .slice ia im ic] 26)).heap.size = w.heap.size + 1 from by simp] at h
    exact h.stay (below_new _ _)
  have HO0 : Hid (Bk W0 (w.heap.size + 2) #[.int .i64 5, .int .i64 0, .int .i64 0, .int .i64 0, .int .i64 0, .int .i64 0, .slice none 0 0, .slice none 0 0] 26) := by
    rw [HW0.out]
    have h := Bk.new ((w.alloc (.cells #[.int .i64 5, .int .i64 pp, .int .i64 ps, .int .i64 pn, .int .i64 pf, .int .i64 pt, .slice sa sn sc, .slice ia im ic] 26)).alloc (.cells #[.int .i64 0, .int .i64 0, .int .i64 0, .int .i64 0, .int .i64 0, .int .i64 0, .slice none 0 0, .slice none 0 0] 26)) #[.int .i64 5, .int .i64 0, .int .i64 0, .int .i64 0, .int .i64 0, .int .i64 0, .slice none 0 0, .slice none 0 0] 26
    rw [show ((w.alloc (.cells #[.int .i64 5, .int .i64 pp, .int .i64 ps, .int .i64 pn, .int .i64 pf, .int .i64 pt, .slice sa sn sc, .slice ia im ic] 26)).alloc (.cells #[.int .i64 0, .int .i64 0, .int .i64 0, .int .i64 0, .int .i64 0, .int .i64 0, .slice none 0 0, .slice none 0 0] 26)).heap.size = w.heap.size + 2 from by simp] at h
    exact h
  have HCU : Hid (Calls Try.prog 19 #[.int .i64 5] W0 fun e w' => e = .returned (.tuple #[.agg #[.bool true, .bool true, .bool false, .bool false], .bool true]) ∧ Below W0.heap.size W0 w') := by
    have h := pc_usedBy 5 W0
    rw [show subB 5 = true from rfl, show fromB 5 = true from rfl, show toB 5 = false from rfl, show newsB 5 = false from rfl, show isB 5 = true from rfl] at h
    exact h
  unfold Pc.val
  simp only
  go_enter Try.func12, Try.ntmps12
  go_wp2_with fail
  rw [← HW0.out]
  refine HCU.out.mono ?_
  rintro e w1 ⟨rfl, hb1⟩
  have hb2 : Below W0.heap.size W0 (w1.alloc (.cells #[.bool true, .bool true, .bool false, .bool false] 48)) := hb1.alloc hb1.size _
  have HU2 : Hid (Bk (w1.alloc (.cells #[.bool true, .bool true, .bool false, .bool false] 48)) w1.heap.size #[.bool true, .bool true, .bool false, .bool false] 48) := Bk.new _ _ _
  have HP2 : Hid (Bk (w1.alloc (.cells #[.bool true, .bool true, .bool false, .bool false] 48)) w.heap.size #[.int .i64 5, .int .i64 pp, .int .i64 ps, .int .i64 pn, .int .i64 pf, .int .i64 pt, .slice sa sn sc, .slice ia im ic] 26) := HP0.out.stay hb2
  have HR2 : Hid (Bk (w1.alloc (.cells #[.bool true, .bool true, .bool false, .bool false] 48)) (w.heap.size + 1) #[.int .i64 0, .int .i64 0, .int .i64 0, .int .i64 0, .int .i64 0, .int .i64 0, .slice none 0 0, .slice none 0 0] 26) := HR0.out.stay hb2
  have HO2 : Hid (Bk (w1.alloc (.cells #[.bool true, .bool true, .bool false, .bool false] 48)) (w.heap.size + 2) #[.int .i64 5, .int .i64 0, .int .i64 0, .int .i64 0, .int .i64 0, .int .i64 0, .slice none 0 0, .slice none 0 0] 26) := HO0.out.stay hb2
  have HB2 : Hid (Below w.heap.size w (w1.alloc (.cells #[.bool true, .bool true, .bool false, .bool false] 48))) := HB0.out.trans (hb2.mono HB0.out.size)
  have hwu : w1.heap.size ≠ w.heap.size + 2 := by have h1 := HO0.out.lt; have h2 := hb1.size; omega
  clear hb1 hb2 HP0 HR0 HO0 HCU HB0
  have e0 : (w1.alloc (.cells #[.bool true, .bool true, .bool false, .bool false] 48)).cell? ⟨w.heap.size, 0, none⟩ = some (.int .i64 5) := HP2.out.cell 0 rfl
  have e1 : (w1.alloc (.cells #[.bool true, .bool true, .bool false, .bool false] 48)).cell? ⟨w.heap.size, 1, none⟩ = some (.int .i64 pp) := HP2.out.cell 1 rfl
  have e2 : (w1.alloc (.cells #[.bool true, .bool true, .bool false, .bool false] 48)).cell? ⟨w.heap.size, 2, none⟩ = some (.int .i64 ps) := HP2.out.cell 2 rfl
  have e3 : (w1.alloc (.cells #[.bool true, .bool true, .bool false, .bool false] 48)).cell? ⟨w.heap.size, 3, none⟩ = some (.int .i64 pn) := HP2.out.cell 3 rfl
  have e4 : (w1.alloc (.cells #[.bool true, .bool true, .bool false, .bool false] 48)).cell? ⟨w.heap.size, 4, none⟩ = some (.int .i64 pf) := HP2.out.cell 4 rfl
  have e5 : (w1.alloc (.cells #[.bool true, .bool true, .bool false, .bool false] 48)).cell? ⟨w.heap.size, 5, none⟩ = some (.int .i64 pt) := HP2.out.cell 5 rfl
  have e6 : (w1.alloc (.cells #[.bool true, .bool true, .bool false, .bool false] 48)).cell? ⟨w.heap.size, 6, none⟩ = some (.slice sa sn sc) := HP2.out.cell 6 rfl
  have e7 : (w1.alloc (.cells #[.bool true, .bool true, .bool false, .bool false] 48)).cell? ⟨w.heap.size, 7, none⟩ = some (.slice ia im ic) := HP2.out.cell 7 rfl
  have y0 : (w1.alloc (.cells #[.bool true, .bool true, .bool false, .bool false] 48)).cell? ⟨w.heap.size + 2, 0, none⟩ = some (.int .i64 5) := HO2.out.cell 0 rfl
  have y1 : (w1.alloc (.cells #[.bool true, .bool true, .bool false, .bool false] 48)).cell? ⟨w.heap.size + 2, 1, none⟩ = some (.int .i64 0) := HO2.out.cell 1 rfl
  have y2 : (w1.alloc (.cells #[.bool true, .bool true, .bool false, .bool false] 48)).cell? ⟨w.heap.size + 2, 2, none⟩ = some (.int .i64 0) := HO2.out.cell 2 rfl
  have y3 : (w1.alloc (.cells #[.bool true, .bool true, .bool false, .bool false] 48)).cell? ⟨w.heap.size + 2, 3, none⟩ = some (.int .i64 0) := HO2.out.cell 3 rfl
  have y4 : (w1.alloc (.cells #[.bool true, .bool true, .bool false, .bool false] 48)).cell? ⟨w.heap.size + 2, 4, none⟩ = some (.int .i64 0) := HO2.out.cell 4 rfl
  have y5 : (w1.alloc (.cells #[.bool true, .bool true, .bool false, .bool false] 48)).cell? ⟨w.heap.size + 2, 5, none⟩ = some (.int .i64 0) := HO2.out.cell 5 rfl
  have y6 : (w1.alloc (.cells #[.bool true, .bool true, .bool false, .bool false] 48)).cell? ⟨w.heap.size + 2, 6, none⟩ = some (.slice none 0 0) := HO2.out.cell 6 rfl
  have y7 : (w1.alloc (.cells #[.bool true, .bool true, .bool false, .bool false] 48)).cell? ⟨w.heap.size + 2, 7, none⟩ = some (.slice none 0 0) := HO2.out.cell 7 rfl
  have z0 : (w1.alloc (.cells #[.bool true, .bool true, .bool false, .bool false] 48)).cell? ⟨w.heap.size + 1, 0, none⟩ = some (.int .i64 0) := HR2.out.cell 0 rfl
  have z1 : (w1.alloc (.cells #[.bool true, .bool true, .bool false, .bool false] 48)).cell? ⟨w.heap.size + 1, 1, none⟩ = some (.int .i64 0) := HR2.out.cell 1 rfl
  have z2 : (w1.alloc (.cells #[.bool true, .bool true, .bool false, .bool false] 48)).cell? ⟨w.heap.size + 1, 2, none⟩ = some (.int .i64 0) := HR2.out.cell 2 rfl
  have z3 : (w1.alloc (.cells #[.bool true, .bool true, .bool false, .bool false] 48)).cell? ⟨w.heap.size + 1, 3, none⟩ = some (.int .i64 0) := HR2.out.cell 3 rfl
  have z4 : (w1.alloc (.cells #[.bool true, .bool true, .bool false, .bool false] 48)).cell? ⟨w.heap.size + 1, 4, none⟩ = some (.int .i64 0) := HR2.out.cell 4 rfl
  have z5 : (w1.alloc (.cells #[.bool true, .bool true, .bool false, .bool false] 48)).cell? ⟨w.heap.size + 1, 5, none⟩ = some (.int .i64 0) := HR2.out.cell 5 rfl
  have z6 : (w1.alloc (.cells #[.bool true, .bool true, .bool false, .bool false] 48)).cell? ⟨w.heap.size + 1, 6, none⟩ = some (.slice none 0 0) := HR2.out.cell 6 rfl
  have z7 : (w1.alloc (.cells #[.bool true, .bool true, .bool false, .bool false] 48)).cell? ⟨w.heap.size + 1, 7, none⟩ = some (.slice none 0 0) := HR2.out.cell 7 rfl
  have u0 : (w1.alloc (.cells #[.bool true, .bool true, .bool false, .bool false] 48)).cell? ⟨w1.heap.size, 0, none⟩ = some (.bool true) := HU2.out.cell 0 rfl
  have u1 : (w1.alloc (.cells #[.bool true, .bool true, .bool false, .bool false] 48)).cell? ⟨w1.heap.size, 1, none⟩ = some (.bool true) := HU2.out.cell 1 rfl
  have u2 : (w1.alloc (.cells #[.bool true, .bool true, .bool false, .bool false] 48)).cell? ⟨w1.heap.size, 2, none⟩ = some (.bool false) := HU2.out.cell 2 rfl
  have u3 : (w1.alloc (.cells #[.bool true, .bool true, .bool false, .bool false] 48)).cell? ⟨w1.heap.size, 3, none⟩ = some (.bool false) := HU2.out.cell 3 rfl
  have fo : ∀ i, (w1.alloc (.cells #[.bool true, .bool true, .bool false, .bool false] 48)).frozen? ⟨w.heap.size + 2, i, none⟩ = false := fun i => HO2.out.free i
  have fr : ∀ i, (w1.alloc (.cells #[.bool true, .bool true, .bool false, .bool false] 48)).frozen? ⟨w.heap.size + 1, i, none⟩ = false := fun i => HR2.out.free i
  have HRF : Hid (Bk (((((w1.alloc (.cells #[.bool true, .bool true, .bool false, .bool false] 48)).setCell ⟨w.heap.size + 2, 1, none⟩ (.int .i64 pp)).setCell ⟨w.heap.size + 2, 2, none⟩ (.int .i64 ps)).setCell ⟨w.heap.size + 2, 3, none⟩ (.int .i64 pn)).setCell ⟨w.heap.size + 2, 4, none⟩ (.int .i64 pf)) (w.heap.size + 1) #[.int .i64 0, .int .i64 0, .int .i64 0, .int .i64 0, .int .i64 0, .int .i64 0, .slice none 0 0, .slice none 0 0] 26) := ((((HR2.out.other _ _ (by show w.heap.size + 1 ≠ w.heap.size + 2; omega)).other _ _ (by show w.heap.size + 1 ≠ w.heap.size + 2; omega)).other _ _ (by show w.heap.size + 1 ≠ w.heap.size + 2; omega)).other _ _ (by show w.heap.size + 1 ≠ w.heap.size + 2; omega))
  have HBF : Hid (Below w.heap.size w (((((w1.alloc (.cells #[.bool true, .bool true, .bool false, .bool false] 48)).setCell ⟨w.heap.size + 2, 1, none⟩ (.int .i64 pp)).setCell ⟨w.heap.size + 2, 2, none⟩ (.int .i64 ps)).setCell ⟨w.heap.size + 2, 3, none⟩ (.int .i64 pn)).setCell ⟨w.heap.size + 2, 4, none⟩ (.int .i64 pf))) := ((((HB2.out.setCell (by show w.heap.size ≤ w.heap.size + 2; omega) _).setCell (by show w.heap.size ≤ w.heap.size + 2; omega) _).setCell (by show w.heap.size ≤ w.heap.size + 2; omega) _).setCell (by show w.heap.size ≤ w.heap.size + 2; omega) _)
  go_wp2
  go_region
  go_wp2
  try simp only [Exit.inBlock, Exit.then]
  change bodyPost _ _ _ _ _ (World.drew (set8 (((((w1.alloc (.cells #[.bool true, .bool true, .bool false, .bool false] 48)).setCell ⟨w.heap.size + 2, 1, none⟩ (.int .i64 pp)).setCell ⟨w.heap.size + 2, 2, none⟩ (.int .i64 ps)).setCell ⟨w.heap.size + 2, 3, none⟩ (.int .i64 pn)).setCell ⟨w.heap.size + 2, 4, none⟩ (.int .i64 pf)) (w.heap.size + 1) (.int .i64 5) (.int .i64 pp) (.int .i64 ps) (.int .i64 pn) (.int .i64 pf) (.int .i64 0) (.slice none 0 0) (.slice none 0 0)))
  refine bodyPost_ret (results_parcel1 rfl (by rfl) (bk_drew (HRF.out.set8 (.int .i64 5) (.int .i64 pp) (.int .i64 ps) (.int .i64 pn) (.int .i64 pf) (.int .i64 0) (.slice none 0 0) (.slice none 0 0)))) rfl ?_
  exact ⟨rfl, below_drew (set8_below HBF.out _ (by omega) (.int .i64 5) (.int .i64 pp) (.int .i64 ps) (.int .i64 pn) (.int .i64 pf) (.int .i64 0) (.slice none 0 0) (.slice none 0 0))⟩

set_option maxRecDepth 100000 in
set_option maxHeartbeats 4000000 in
theorem pc_Plain_6 (pp ps pn pf pt : Int) (pl : List Sp) (pi : List It) (sa : Option Addr) (sn sc : Nat) (ia : Option Addr) (im ic : Nat) (w : World) : Calls Try.prog 12 #[Pc.val ⟨6, pp, ps, pn, pf, pt, pl, pi⟩ sa sn sc ia im ic] w fun e w' => e = .returned (Pc.val ⟨6, pp, ps, pn, 0, 0, [], []⟩ none 0 0 none 0 0) ∧ Below w.heap.size w w' := by
  obtain ⟨W0, HW0⟩ : ∃ W0, Hid (W0 = (((w.alloc (.cells #[.int .i64 6, .int .i64 pp, .int .i64 ps, .int .i64 pn, .int .i64 pf, .int .i64 pt, .slice sa sn sc, .slice ia im ic] 26)).alloc (.cells #[.int .i64 0, .int .i64 0, .int .i64 0, .int .i64 0, .int .i64 0, .int .i64 0, .slice none 0 0, .slice none 0 0] 26)).alloc (.cells #[.int .i64 6, .int .i64 0, .int .i64 0, .int .i64 0, .int .i64 0, .int .i64 0, .slice none 0 0, .slice none 0 0] 26))) := ⟨_, rfl⟩
  have HB0 : Hid (Below w.heap.size w W0) := by rw [HW0.out]; exact ((below_new w _).alloc (by simp) _).alloc (by simp; omega) _
  have HP0 : Hid (Bk W0 w.heap.size #[.int .i64 6, .int .i64 pp, .int .i64 ps, .int .i64 pn, .int .i64 pf, .int .i64 pt, .slice sa sn sc, .slice ia im ic] 26) := by rw [HW0.out]; exact ((Bk.new w _ _).stay (below_new _ _)).stay (below_new _ _)
  have HR0 : Hid (Bk W0 (w.heap.size + 1) #[.int .i64 0, .int .i64 0, .int .i64 0, .int .i64 0, .int .i64 0, .int .i64 0, .slice none 0 0, .slice none 0 0] 26) := by
    rw [HW0.out]
    have h := Bk.new (w.alloc (.cells #[.int .i64 6, .int .i64 pp, .int .i64 ps, .int .i64 pn, .int .i64 pf, .int .i64 pt, .slice sa sn sc, .slice ia im ic] 26)) #[.int .i64 0, .int .i64 0, .int .i64 0, .int .i64 0, .int .i64 0, .int .i64 0, .slice none 0 0, .slice none 0 0] 26
    rw [show (w.alloc (.cells #[.int .i64 6, .int .i64 pp, .int .i64 ps, .int .i64 pn, .int .i64 pf, .int .i64 pt, .slice sa sn sc, .slice ia im ic] 26)).heap.size = w.heap.size + 1 from by simp] at h
    exact h.stay (below_new _ _)
  have HO0 : Hid (Bk W0 (w.heap.size + 2) #[.int .i64 6, .int .i64 0, .int .i64 0, .int .i64 0, .int .i64 0, .int .i64 0, .slice none 0 0, .slice none 0 0] 26) := by
    rw [HW0.out]
    have h := Bk.new ((w.alloc (.cells #[.int .i64 6, .int .i64 pp, .int .i64 ps, .int .i64 pn, .int .i64 pf, .int .i64 pt, .slice sa sn sc, .slice ia im ic] 26)).alloc (.cells #[.int .i64 0, .int .i64 0, .int .i64 0, .int .i64 0, .int .i64 0, .int .i64 0, .slice none 0 0, .slice none 0 0] 26)) #[.int .i64 6, .int .i64 0, .int .i64 0, .int .i64 0, .int .i64 0, .int .i64 0, .slice none 0 0, .slice none 0 0] 26
    rw [show ((w.alloc (.cells #[.int .i64 6, .int .i64 pp, .int .i64 ps, .int .i64 pn, .int .i64 pf, .int .i64 pt, .slice sa sn sc, .slice ia im ic] 26)).alloc (.cells #[.int .i64 0, .int .i64 0, .int .i64 0, .int .i64 0, .int .i64 0, .int .i64 0, .slice none 0 0, .slice none 0 0] 26)).heap.size = w.heap.size + 2 from by simp] at h
    exact h
  have HCU : Hid (Calls Try.prog 19 #[.int .i64 6] W0 fun e w' => e = .returned (.tuple #[.agg #[.bool true, .bool false, .bool false, .bool false], .bool true]) ∧ Below W0.heap.size W0 w') := by
    have h := pc_usedBy 6 W0
    rw [show subB 6 = true from rfl, show fromB 6 = false from rfl, show toB 6 = false from rfl, show newsB 6 = false from rfl, show isB 6 = true from rfl] at h
    exact h
  unfold Pc.val
  simp only
  go_enter Try.func12, Try.ntmps12
  go_wp2_with fail
  rw [← HW0.out]
  refine HCU.out.mono ?_
  rintro e w1 ⟨rfl, hb1⟩
  have hb2 : Below W0.heap.size W0 (w1.alloc (.cells #[.bool true, .bool false, .bool false, .bool false] 48)) := hb1.alloc hb1.size _
  have HU2 : Hid (Bk (w1.alloc (.cells #[.bool true, .bool false, .bool false, .bool false] 48)) w1.heap.size #[.bool true, .bool false, .bool false, .bool false] 48) := Bk.new _ _ _
  have HP2 : Hid (Bk (w1.alloc (.cells #[.bool true, .bool false, .bool false, .bool false] 48)) w.heap.size #[.int .i64 6, .int .i64 pp, .int .i64 ps, .int .i64 pn, .int .i64 pf, .int .i64 pt, .slice sa sn sc, .slice ia im ic] 26) := HP0.out.stay hb2
  have HR2 : Hid (Bk (w1.alloc (.cells #[.bool true, .bool false, .bool false, .bool false] 48)) (w.heap.size + 1) #[.int .i64 0, .int .i64 0, .int .i64 0, .int .i64 0, .int .i64 0, .int .i64 0, .slice none 0 0, .slice none 0 0] 26) := HR0.out.stay hb2
  have HO2 : Hid (Bk (w1.alloc (.cells #[.bool true, .bool false, .bool false, .bool false] 48)) (w.heap.size + 2) #[.int .i64 6, .int .i64 0, .int .i64 0, .int .i64 0, .int .i64 0, .int .i64 0, .slice none 0 0, .slice none 0 0] 26) := HO0.out.stay hb2
  have HB2 : Hid (Below w.heap.size w (w1.alloc (.cells #[.bool true, .bool false, .bool false, .bool false] 48))) := HB0.out.trans (hb2.mono HB0.out.size)
  have hwu : w1.heap.size ≠ w.heap.size + 2 := by have h1 := HO0.out.lt; have h2 := hb1.size; omega
  clear hb1 hb2 HP0 HR0 HO0 HCU HB0
  have e0 : (w1.alloc (.cells #[.bool true, .bool false, .bool false, .bool false] 48)).cell? ⟨w.heap.size, 0, none⟩ = some (.int .i64 6) := HP2.out.cell 0 rfl
  have e1 : (w1.alloc (.cells #[.bool true, .bool false, .bool false, .bool false] 48)).cell? ⟨w.heap.size, 1, none⟩ = some (.int .i64 pp) := HP2.out.cell 1 rfl
  have e2 : (w1.alloc (.cells #[.bool true, .bool false, .bool false, .bool false] 48)).cell? ⟨w.heap.size, 2, none⟩ = some (.int .i64 ps) := HP2.out.cell 2 rfl
  have e3 : (w1.alloc (.cells #[.bool true, .bool false, .bool false, .bool false] 48)).cell? ⟨w.heap.size, 3, none⟩ = some (.int .i64 pn) := HP2.out.cell 3 rfl
  have e4 : (w1.alloc (.cells #[.bool true, .bool false, .bool false, .bool false] 48)).cell? ⟨w.heap.size, 4, none⟩ = some (.int .i64 pf) := HP2.out.cell 4 rfl
  have e5 : (w1.alloc (.cells #[.bool true, .bool false, .bool false, .bool false] 48)).cell? ⟨w.heap.size, 5, none⟩ = some (.int .i64 pt) := HP2.out.cell 5 rfl
  have e6 : (w1.alloc (.cells #[.bool true, .bool false, .bool false, .bool false] 48)).cell? ⟨w.heap.size, 6, none⟩ = some (.slice sa sn sc) := HP2.out.cell 6 rfl
  have e7 : (w1.alloc (.cells #[.bool true, .bool false, .bool false, .bool false] 48)).cell? ⟨w.heap.size, 7, none⟩ = some (.slice ia im ic) := HP2.out.cell 7 rfl
  have y0 : (w1.alloc (.cells #[.bool true, .bool false, .bool false, .bool false] 48)).cell? ⟨w.heap.size + 2, 0, none⟩ = some (.int .i64 6) := HO2.out.cell 0 rfl
  have y1 : (w1.alloc (.cells #[.bool true, .bool false, .bool false, .bool false] 48)).cell? ⟨w.heap.size + 2, 1, none⟩ = some (.int .i64 0) := HO2.out.cell 1 rfl
  have y2 : (w1.alloc (.cells #[.bool true, .bool false, .bool false, .bool false] 48)).cell? ⟨w.heap.size + 2, 2, none⟩ = some (.int .i64 0) := HO2.out.cell 2 rfl
  have y3 : (w1.alloc (.cells #[.bool true, .bool false, .bool false, .bool false] 48)).cell? ⟨w.heap.size + 2, 3, none⟩ = some (.int .i64 0) := HO2.out.cell 3 rfl
  have y4 : (w1.alloc (.cells #[.bool true, .bool false, .bool false, .bool false] 48)).cell? ⟨w.heap.size + 2, 4, none⟩ = some (.int .i64 0) := HO2.out.cell 4 rfl
  have y5 : (w1.alloc (.cells #[.bool true, .bool false, .bool false, .bool false] 48)).cell? ⟨w.heap.size + 2, 5, none⟩ = some (.int .i64 0) := HO2.out.cell 5 rfl
  have y6 : (w1.alloc (.cells #[.bool true, .bool false, .bool false, .bool false] 48)).cell? ⟨w.heap.size + 2, 6, none⟩ = some (.slice none 0 0) := HO2.out.cell 6 rfl
  have y7 : (w1.alloc (.cells #[.bool true, .bool false, .bool false, .bool false] 48)).cell? ⟨w.heap.size + 2, 7, none⟩ = some (.slice none 0 0) := HO2.out.cell 7 rfl
  have z0 : (w1.alloc (.cells #[.bool true, .bool false, .bool false, .bool false] 48)).cell? ⟨w.heap.size + 1, 0, none⟩ = some (.int .i64 0) := HR2.out.cell 0 rfl
  have z1 : (w1.alloc (.cells #[.bool true, .bool false, .bool false, .bool false] 48)).cell? ⟨w.heap.size + 1, 1, none⟩ = some (.int .i64 0) := HR2.out.cell 1 rfl
  have z2 : (w1.alloc (.cells #[.bool true, .bool false, .bool false, .bool false] 48)).cell? ⟨w.heap.size + 1, 2, none⟩ = some (.int .i64 0) := HR2.out.cell 2 rfl
  have z3 : (w1.alloc (.cells #[.bool true, .bool false, .bool false, .bool false] 48)).cell? ⟨w.heap.size + 1, 3, none⟩ = some (.int .i64 0) := HR2.out.cell 3 rfl
  have z4 : (w1.alloc (.cells #[.bool true, .bool false, .bool false, .bool false] 48)).cell? ⟨w.heap.size + 1, 4, none⟩ = some (.int .i64 0) := HR2.out.cell 4 rfl
  have z5 : (w1.alloc (.cells #[.bool true, .bool false, .bool false, .bool false] 48)).cell? ⟨w.heap.size + 1, 5, none⟩ = some (.int .i64 0) := HR2.out.cell 5 rfl
  have z6 : (w1.alloc (.cells #[.bool true, .bool false, .bool false, .bool false] 48)).cell? ⟨w.heap.size + 1, 6, none⟩ = some (.slice none 0 0) := HR2.out.cell 6 rfl
  have z7 : (w1.alloc (.cells #[.bool true, .bool false, .bool false, .bool false] 48)).cell? ⟨w.heap.size + 1, 7, none⟩ = some (.slice none 0 0) := HR2.out.cell 7 rfl
  have u0 : (w1.alloc (.cells #[.bool true, .bool false, .bool false, .bool false] 48)).cell? ⟨w1.heap.size, 0, none⟩ = some (.bool true) := HU2.out.cell 0 rfl
  have u1 : (w1.alloc (.cells #[.bool true, .bool false, .bool false, .bool false] 48)).cell? ⟨w1.heap.size, 1, none⟩ = some (.bool false) := HU2.out.cell 1 rfl
  have u2 : (w1.alloc (.cells #[.bool true, .bool false, .bool false, .bool false] 48)).cell? ⟨w1.heap.size, 2, none⟩ = some (.bool false) := HU2.out.cell 2 rfl
  have u3 : (w1.alloc (.cells #[.bool true, .bool false, .bool false, .bool false] 48)).cell? ⟨w1.heap.size, 3, none⟩ = some (.bool false) := HU2.out.cell 3 rfl
  have fo : ∀ i, (w1.alloc (.cells #[.bool true, .bool false, .bool false, .bool false] 48)).frozen? ⟨w.heap.size + 2, i, none⟩ = false := fun i => HO2.out.free i
  have fr : ∀ i, (w1.alloc (.cells #[.bool true, .bool false, .bool false, .bool false] 48)).frozen? ⟨w.heap.size + 1, i, none⟩ = false := fun i => HR2.out.free i
  have HRF : Hid (Bk ((((w1.alloc (.cells #[.bool true, .bool false, .bool false, .bool false] 48)).setCell ⟨w.heap.size + 2, 1, none⟩ (.int .i64 pp)).setCell ⟨w.heap.size + 2, 2, none⟩ (.int .i64 ps)).setCell ⟨w.heap.size + 2, 3, none⟩ (.int .i64 pn)) (w.heap.size + 1) #[.int .i64 0, .int .i64 0, .int .i64 0, .int .i64 0, .int .i64 0, .int .i64 0, .slice none 0 0, .slice none 0 0] 26) := (((HR2.out.other _ _ (by show w.heap.size + 1 ≠ w.heap.size + 2; omega)).other _ _ (by show w.heap.size + 1 ≠ w.heap.size + 2; omega)).other _ _ (by show w.heap.size + 1 ≠ w.heap.size + 2; omega))
  have HBF : Hid (Below w.heap.size w ((((w1.alloc (.cells #[.bool true, .bool false, .bool false, .bool false] 48)).setCell ⟨w.heap.size + 2, 1, none⟩ (.int .i64 pp)).setCell ⟨w.heap.size + 2, 2, none⟩ (.int .i64 ps)).setCell ⟨w.heap.size + 2, 3, none⟩ (.int .i64 pn))) := (((HB2.out.setCell (by show w.heap.size ≤ w.heap.size + 2; omega) _).setCell (by show w.heap.size ≤ w.heap.size + 2; omega) _).setCell (by show w.heap.size ≤ w.heap.size + 2; omega) _)
  go_wp2
  go_region
  go_wp2
  try simp only [Exit.inBlock, Exit.then]
  change bodyPost _ _ _ _ _ (World.drew (set8 ((((w1.alloc (.cells #[.bool true, .bool false, .bool false, .bool false] 48)).setCell ⟨w.heap.size + 2, 1, none⟩ (.int .i64 pp)).setCell ⟨w.heap.size + 2, 2, none⟩ (.int .i64 ps)).setCell ⟨w.heap.size + 2, 3, none⟩ (.int .i64 pn)) (w.heap.size + 1) (.int .i64 6) (.int .i64 pp) (.int .i64 ps) (.int .i64 pn) (.int .i64 0) (.int .i64 0) (.slice none 0 0) (.slice none 0 0)))
  refine bodyPost_ret (results_parcel1 rfl (by rfl) (bk_drew (HRF.out.set8 (.int .i64 6) (.int .i64 pp) (.int .i64 ps) (.int .i64 pn) (.int .i64 0) (.int .i64 0) (.slice none 0 0) (.slice none 0 0)))) rfl ?_
  exact ⟨rfl, below_drew (set8_below HBF.out _ (by omega) (.int .i64 6) (.int .i64 pp) (.int .i64 ps) (.int .i64 pn) (.int .i64 0) (.int .i64 0) (.slice none 0 0) (.slice none 0 0))⟩

set_option maxRecDepth 100000 in
set_option maxHeartbeats 4000000 in
theorem pc_Plain_b (pk pp ps pn pf pt : Int) (pl : List Sp) (pi : List It) (sa : Option Addr) (sn sc : Nat) (ia : Option Addr) (im ic : Nat) (w : World) (hk : isB pk = false) : Calls Try.prog 12 #[Pc.val ⟨pk, pp, ps, pn, pf, pt, pl, pi⟩ sa sn sc ia im ic] w fun e w' => e = .returned (Pc.val ⟨pk, 0, 0, 0, 0, 0, [], []⟩ none 0 0 none 0 0) ∧ Below w.heap.size w w' := by
  obtain ⟨W0, HW0⟩ : ∃ W0, Hid (W0 = (((w.alloc (.cells #[.int .i64 pk, .int .i64 pp, .int .i64 ps, .int .i64 pn, .int .i64 pf, .int .i64 pt, .slice sa sn sc, .slice ia im ic] 26)).alloc (.cells #[.int .i64 0, .int .i64 0, .int .i64 0, .int .i64 0, .int .i64 0, .int .i64 0, .slice none 0 0, .slice none 0 0] 26)).alloc (.cells #[.int .i64 pk, .int .i64 0, .int .i64 0, .int .i64 0, .int .i64 0, .int .i64 0, .slice none 0 0, .slice none 0 0] 26))) := ⟨_, rfl⟩
  have HB0 : Hid (Below w.heap.size w W0) := by rw [HW0.out]; exact ((below_new w _).alloc (by simp) _).alloc (by simp; omega) _
  have HP0 : Hid (Bk W0 w.heap.size #[.int .i64 pk, .int .i64 pp, .int .i64 ps, .int .i64 pn, .int .i64 pf, .int .i64 pt, .slice sa sn sc, .slice ia im ic] 26) := by rw [HW0.out]; exact ((Bk.new w _ _).stay (below_new _ _)).stay (below_new _ _)
  have HR0 : Hid (Bk W0 (w.heap.size + 1) #[.int .i64 0, .int .i64 0, .int .i64 0, .int .i64 0, .int .i64 0, .int .i64 0, .slice none 0 0, .slice none 0 0] 26) := by
    rw [HW0.out]
    have h := Bk.new (w.alloc (.cells #[.int .i64 pk, .int .i64 pp, .int .i64 ps, .int .i64 pn, .int .i64 pf, .int .i64 pt, .slice sa sn sc, .slice ia im ic] 26)) #[.int .i64 0, .int .i64 0, .int .i64 0, .int .i64 0, .int .i64 0, .int .i64 0, .slice none 0 0, .slice none 0 0] 26
    rw [show (w.alloc (.cells #[.int .i64 pk, .int .i64 pp, .int .i64 ps, .int .i64 pn, .int .i64 pf, .int .i64 pt, .slice sa sn sc, .slice ia im ic] 26)).heap.size = w.heap.size + 1 from by simp] at h
    exact h.stay (below_new _ _)
  have HO0 : Hid (Bk W0 (w.heap.size + 2) #[.int .i64 pk, .int .i64 0, .int .i64 0, .int .i64 0, .int .i64 0, .int .i64 0, .slice none 0 0, .slice none 0 0] 26) := by
    rw [HW0.out]
    have h := Bk.new ((w.alloc (.cells #[.int .i64 pk, .int .i64 pp, .int .i64 ps, .int .i64 pn, .int .i64 pf, .int .i64 pt, .slice sa sn sc, .slice ia im ic] 26)).alloc (.cells #[.int .i64 0, .int .i64 0, .int .i64 0, .int .i64 0, .int .i64 0, .int .i64 0, .slice none 0 0, .slice none 0 0] 26)) #[.int .i64 pk, .int .i64 0, .int .i64 0, .int .i64 0, .int .i64 0, .int .i64 0, .slice none 0 0, .slice none 0 0] 26
    rw [show ((w.alloc (.cells #[.int .i64 pk, .int .i64 pp, .int .i64 ps, .int .i64 pn, .int .i64 pf, .int .i64 pt, .slice sa sn sc, .slice ia im ic] 26)).alloc (.cells #[.int .i64 0, .int .i64 0, .int .i64 0, .int .i64 0, .int .i64 0, .int .i64 0, .slice none 0 0, .slice none 0 0] 26)).heap.size = w.heap.size + 2 from by simp] at h
    exact h
  have HCU : Hid (Calls Try.prog 19 #[.int .i64 pk] W0 fun e w' => e = .returned (.tuple #[.agg #[.bool false, .bool false, .bool false, .bool false], .bool false]) ∧ Below W0.heap.size W0 w') := by
    have h := pc_usedBy pk W0
    rw [(bad_kind hk).1, (bad_kind hk).2.1, (bad_kind hk).2.2.1, (bad_kind hk).2.2.2, hk] at h
    exact h
  clear hk
  unfold Pc.val
  simp only
  go_enter Try.func12, Try.ntmps12
  go_wp2_with fail
  rw [← HW0.out]
  refine HCU.out.mono ?_
  rintro e w1 ⟨rfl, hb1⟩
  have hb2 : Below W0.heap.size W0 (w1.alloc (.cells #[.bool false, .bool false, .bool false, .bool false] 48)) := hb1.alloc hb1.size _
  have HU2 : Hid (Bk (w1.alloc (.cells #[.bool false, .bool false, .bool false, .bool false] 48)) w1.heap.size #[.bool false, .bool false, .bool false, .bool false] 48) := Bk.new _ _ _
  have HP2 : Hid (Bk (w1.alloc (.cells #[.bool false, .bool false, .bool false, .bool false] 48)) w.heap.size #[.int .i64 pk, .int .i64 pp, .int .i64 ps, .int .i64 pn, .int .i64 pf, .int .i64 pt, .slice sa sn sc, .slice ia im ic] 26) := HP0.out.stay hb2
  have HR2 : Hid (Bk (w1.alloc (.cells #[.bool false, .bool false, .bool false, .bool false] 48)) (w.heap.size + 1) #[.int .i64 0, .int .i64 0, .int .i64 0, .int .i64 0, .int .i64 0, .int .i64 0, .slice none 0 0, .slice none 0 0] 26) := HR0.out.stay hb2
  have HO2 : Hid (Bk (w1.alloc (.cells #[.bool false, .bool false, .bool false, .bool false] 48)) (w.heap.size + 2) #[.int .i64 pk, .int .i64 0, .int .i64 0, .int .i64 0, .int .i64 0, .int .i64 0, .slice none 0 0, .slice none 0 0] 26) := HO0.out.stay hb2
  have HB2 : Hid (Below w.heap.size w (w1.alloc (.cells #[.bool false, .bool false, .bool false, .bool false] 48))) := HB0.out.trans (hb2.mono HB0.out.size)
  have hwu : w1.heap.size ≠ w.heap.size + 2 := by have h1 := HO0.out.lt; have h2 := hb1.size; omega
  clear hb1 hb2 HP0 HR0 HO0 HCU HB0
  have e0 : (w1.alloc (.cells #[.bool false, .bool false, .bool false, .bool false] 48)).cell? ⟨w.heap.size, 0, none⟩ = some (.int .i64 pk) := HP2.out.cell 0 rfl
  have e1 : (w1.alloc (.cells #[.bool false, .bool false, .bool false, .bool false] 48)).cell? ⟨w.heap.size, 1, none⟩ = some (.int .i64 pp) := HP2.out.cell 1 rfl
  have e2 : (w1.alloc (.cells #[.bool false, .bool false, .bool false, .bool false] 48)).cell? ⟨w.heap.size, 2, none⟩ = some (.int .i64 ps) := HP2.out.cell 2 rfl
  have e3 : (w1.alloc (.cells #[.bool false, .bool false, .bool false, .bool false] 48)).cell? ⟨w.heap.size, 3, none⟩ = some (.int .i64 pn) := HP2.out.cell 3 rfl
  have e4 : (w1.alloc (.cells #[.bool false, .bool false, .bool false, .bool false] 48)).cell? ⟨w.heap.size, 4, none⟩ = some (.int .i64 pf) := HP2.out.cell 4 rfl
  have e5 : (w1.alloc (.cells #[.bool false, .bool false, .bool false, .bool false] 48)).cell? ⟨w.heap.size, 5, none⟩ = some (.int .i64 pt) := HP2.out.cell 5 rfl
  have e6 : (w1.alloc (.cells #[.bool false, .bool false, .bool false, .bool false] 48)).cell? ⟨w.heap.size, 6, none⟩ = some (.slice sa sn sc) := HP2.out.cell 6 rfl
  have e7 : (w1.alloc (.cells #[.bool false, .bool false, .bool false, .bool false] 48)).cell? ⟨w.heap.size, 7, none⟩ = some (.slice ia im ic) := HP2.out.cell 7 rfl
  have y0 : (w1.alloc (.cells #[.bool false, .bool false, .bool false, .bool false] 48)).cell? ⟨w.heap.size + 2, 0, none⟩ = some (.int .i64 pk) := HO2.out.cell 0 rfl
  have y1 : (w1.alloc (.cells #[.bool false, .bool false, .bool false, .bool false] 48)).cell? ⟨w.heap.size + 2, 1, none⟩ = some (.int .i64 0) := HO2.out.cell 1 rfl
  have y2 : (w1.alloc (.cells #[.bool false, .bool false, .bool false, .bool false] 48)).cell? ⟨w.heap.size + 2, 2, none⟩ = some (.int .i64 0) := HO2.out.cell 2 rfl
  have y3 : (w1.alloc (.cells #[.bool false, .bool false, .bool false, .bool false] 48)).cell? ⟨w.heap.size + 2, 3, none⟩ = some (.int .i64 0) := HO2.out.cell 3 rfl
  have y4 : (w1.alloc (.cells #[.bool false, .bool false, .bool false, .bool false] 48)).cell? ⟨w.heap.size + 2, 4, none⟩ = some (.int .i64 0) := HO2.out.cell 4 rfl
  have y5 : (w1.alloc (.cells #[.bool false, .bool false, .bool false, .bool false] 48)).cell? ⟨w.heap.size + 2, 5, none⟩ = some (.int .i64 0) := HO2.out.cell 5 rfl
  have y6 : (w1.alloc (.cells #[.bool false, .bool false, .bool false, .bool false] 48)).cell? ⟨w.heap.size + 2, 6, none⟩ = some (.slice none 0 0) := HO2.out.cell 6 rfl
  have y7 : (w1.alloc (.cells #[.bool false, .bool false, .bool false, .bool false] 48)).cell? ⟨w.heap.size + 2, 7, none⟩ = some (.slice none 0 0) := HO2.out.cell 7 rfl
  have z0 : (w1.alloc (.cells #[.bool false, .bool false, .bool false, .bool false] 48)).cell? ⟨w.heap.size + 1, 0, none⟩ = some (.int .i64 0) := HR2.out.cell 0 rfl
  have z1 : (w1.alloc (.cells #[.bool false, .bool false, .bool false, .bool false] 48)).cell? ⟨w.heap.size + 1, 1, none⟩ = some (.int .i64 0) := HR2.out.cell 1 rfl
  have z2 : (w1.alloc (.cells #[.bool false, .bool false, .bool false, .bool false] 48)).cell? ⟨w.heap.size + 1, 2, none⟩ = some (.int .i64 0) := HR2.out.cell 2 rfl
  have z3 : (w1.alloc (.cells #[.bool false, .bool false, .bool false, .bool false] 48)).cell? ⟨w.heap.size + 1, 3, none⟩ = some (.int .i64 0) := HR2.out.cell 3 rfl
  have z4 : (w1.alloc (.cells #[.bool false, .bool false, .bool false, .bool false] 48)).cell? ⟨w.heap.size + 1, 4, none⟩ = some (.int .i64 0) := HR2.out.cell 4 rfl
  have z5 : (w1.alloc (.cells #[.bool false, .bool false, .bool false, .bool false] 48)).cell? ⟨w.heap.size + 1, 5, none⟩ = some (.int .i64 0) := HR2.out.cell 5 rfl
  have z6 : (w1.alloc (.cells #[.bool false, .bool false, .bool false, .bool false] 48)).cell? ⟨w.heap.size + 1, 6, none⟩ = some (.slice none 0 0) := HR2.out.cell 6 rfl
  have z7 : (w1.alloc (.cells #[.bool false, .bool false, .bool false, .bool false] 48)).cell? ⟨w.heap.size + 1, 7, none⟩ = some (.slice none 0 0) := HR2.out.cell 7 rfl
  have u0 : (w1.alloc (.cells #[.bool false, .bool false, .bool false, .bool false] 48)).cell? ⟨w1.heap.size, 0, none⟩ = some (.bool false) := HU2.out.cell 0 rfl
  have u1 : (w1.alloc (.cells #[.bool false, .bool false, .bool false, .bool false] 48)).cell? ⟨w1.heap.size, 1, none⟩ = some (.bool false) := HU2.out.cell 1 rfl
  have u2 : (w1.alloc (.cells #[.bool false, .bool false, .bool false, .bool false] 48)).cell? ⟨w1.heap.size, 2, none⟩ = some (.bool false) := HU2.out.cell 2 rfl
  have u3 : (w1.alloc (.cells #[.bool false, .bool false, .bool false, .bool false] 48)).cell? ⟨w1.heap.size, 3, none⟩ = some (.bool false) := HU2.out.cell 3 rfl
  have fo : ∀ i, (w1.alloc (.cells #[.bool false, .bool false, .bool false, .bool false] 48)).frozen? ⟨w.heap.size + 2, i, none⟩ = false := fun i => HO2.out.free i
  have fr : ∀ i, (w1.alloc (.cells #[.bool false, .bool false, .bool false, .bool false] 48)).frozen? ⟨w.heap.size + 1, i, none⟩ = false := fun i => HR2.out.free i
  have HRF : Hid (Bk (w1.alloc (.cells #[.bool false, .bool false, .bool false, .bool false] 48)) (w.heap.size + 1) #[.int .i64 0, .int .i64 0, .int .i64 0, .int .i64 0, .int .i64 0, .int .i64 0, .slice none 0 0, .slice none 0 0] 26) := HR2.out
  have HBF : Hid (Below w.heap.size w (w1.alloc (.cells #[.bool false, .bool false, .bool false, .bool false] 48))) := HB2.out
  go_wp2
  try simp only [Exit.inBlock, Exit.then]
  change bodyPost _ _ _ _ _ (set8 (w1.alloc (.cells #[.bool false, .bool false, .bool false, .bool false] 48)) (w.heap.size + 1) (.int .i64 pk) (.int .i64 0) (.int .i64 0) (.int .i64 0) (.int .i64 0) (.int .i64 0) (.slice none 0 0) (.slice none 0 0))
  refine bodyPost_ret (results_parcel1 rfl (by rfl) (HRF.out.set8 (.int .i64 pk) (.int .i64 0) (.int .i64 0) (.int .i64 0) (.int .i64 0) (.int .i64 0) (.slice none 0 0) (.slice none 0 0))) rfl ?_
  exact ⟨rfl, set8_below HBF.out _ (by omega) (.int .i64 pk) (.int .i64 0) (.int .i64 0) (.int .i64 0) (.int .i64 0) (.int .i64 0) (.slice none 0 0) (.slice none 0 0)⟩

theorem pc_Plain13 (p : Pc) (sa : Option Addr) (sn sc : Nat) (ia : Option Addr) (im ic : Nat) (w : World) (hp : PcRd w p sa sn sc ia im ic) (hbg : PcMid p sa sn sc ia im ic) : Calls Try.prog 12 #[p.val sa sn sc ia im ic] w fun e w' => Hid (PlainTold w w' (plainQ p) e) ∧ Below w.heap.size w w' := by
  obtain ⟨pk, pp, ps, pn, pf, pt, pl, pi⟩ := p
  cases hk : isB pk with
  | false =>
    refine (pc_Plain_b pk pp ps pn pf pt pl pi sa sn sc ia im ic w hk).mono ?_
    rintro e w' ⟨rfl, hb⟩
    refine ⟨?_, hb⟩
    rw [plainQ_bad (p := ⟨pk, pp, ps, pn, pf, pt, pl, pi⟩) hk]
    exact PlainTold.none_ rfl rfl
  | true =>
    rw [plainQ_is (p := ⟨pk, pp, ps, pn, pf, pt, pl, pi⟩) hk]
    rcases kinds hk with rfl | rfl | rfl | rfl | rfl | rfl
    · exact pc_Plain_1 pp ps pn pf pt pl pi sa sn sc ia im ic w hp hbg
    · exact (pc_Plain_2 pp ps pn pf pt pl pi sa sn sc ia im ic w).mono fun e w' h => ⟨h.1 ▸ PlainTold.none_ rfl rfl, h.2⟩
    · exact (pc_Plain_3 pp ps pn pf pt pl pi sa sn sc ia im ic w).mono fun e w' h => ⟨h.1 ▸ PlainTold.none_ rfl rfl, h.2⟩
    · exact (pc_Plain_4 pp ps pn pf pt pl pi sa sn sc ia im ic w).mono fun e w' h => ⟨h.1 ▸ PlainTold.none_ rfl rfl, h.2⟩
    · exact (pc_Plain_5 pp ps pn pf pt pl pi sa sn sc ia im ic w).mono fun e w' h => ⟨h.1 ▸ PlainTold.none_ rfl rfl, h.2⟩
    · exact (pc_Plain_6 pp ps pn pf pt pl pi sa sn sc ia im ic w).mono fun e w' h => ⟨h.1 ▸ PlainTold.none_ rfl rfl, h.2⟩
end Go.Proofs.Ytjpkhefegpbooaa
