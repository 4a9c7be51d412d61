/- wait and Send when it is full, Send of what may not be, Pull of none, Waits. -/
import Derived.Test.YtbloomepdchjhaaDoorLk13
namespace Go.Proofs.YtbloomepdchjhaaDoor
open Go.RowKit

set_option maxRecDepth 100000 in
set_option maxHeartbeats 4000000 in
theorem lk_wait_full (w : World) (base g : Nat) (wv : Value) (L : List (Wt × Bd)) (l : Lk) (h : LkIn w base g wv L l) (kd : Nat) (a : Option Addr) (n c : Nat) (hq : l.queue ≤ (L.length : Int)) :
    Calls Tryd.prog 17 #[.pointer (some ⟨g, 0, none⟩), .agg #[.int .u8 (kd : Int), .slice a n c]] w fun e w' => e = .returned (.int .i64 9) ∧ Below w.heap.size w w' := by
  obtain ⟨va, vn, vc, rfl⟩ := row_slice h.row
  obtain ⟨hvn, hvc, hvm⟩ := row_len h.row
  unfold maxLen at hvm
  obtain ⟨W0, HW0⟩ : ∃ W0, Hid (W0 = w.alloc (.cells #[.int .u8 (kd : Int), .slice a n c] 70)) := ⟨_, rfl⟩
  have HB0 : Hid (Below w.heap.size w W0) := by rw [HW0.out]; exact below_new _ _
  have HL0 : Hid (LkIn W0 base g (.slice va vn vc) L l) := h.below HB0.out
  have hlq : l.queue ≤ (vn : Int) := by omega
  have hge : decide (l.queue ≤ (vn : Int)) = true := by simpa using hlq
  clear h hvn
  go_enter Tryd.func17, Tryd.ntmps17
  go_wp2
  rw [← HW0.out]
  refine wp_region_held_drew (S := fun w' => w'.cell? ⟨g, 4, none⟩ = some (.slice va vn vc) ∧ w'.cell? ⟨g, 3, none⟩ = some (.int .i64 l.queue)) (by kernel_rfl) ⟨HL0.out.blk.cell 4 rfl, HL0.out.blk.cell 3 rfl⟩ (fun hHeld => ?_)
  obtain ⟨wc, HWC⟩ : ∃ wc, Hid (wc = W0.drew) := ⟨_, rfl⟩
  have HBC : Hid (Below w.heap.size w wc) := by rw [HWC.out]; exact below_drew HB0.out
  rw [← HWC.out] at hHeld ⊢
  refine take_putH (i := 0) (v := ?_) (some 5) rfl (by kernel_rfl) (by kernel_rfl) (by kernel_rfl) (by kernel_rfl) (fun _ _ _ h => h) (Or.inl ⟨by rfl, ?_⟩) hHeld ?_
  rotate_left
  · (intro w hSw; obtain ⟨z0, z1⟩ := hSw; go_simp; try with_reducible rfl)
  try simp only [Act.put, List.setIfInBounds_toArray, List.set_cons_zero, List.set_cons_succ]
  refine take_putH (i := 1) (v := ?_) (some 6) rfl (by kernel_rfl) (by kernel_rfl) (by kernel_rfl) (by kernel_rfl) (fun _ _ _ h => h) (Or.inl ⟨by rfl, ?_⟩) hHeld ?_
  rotate_left
  · (intro w hSw; obtain ⟨z0, z1⟩ := hSw; go_simp; try with_reducible rfl)
  try simp only [Act.put, List.setIfInBounds_toArray, List.set_cons_zero, List.set_cons_succ]
  refine take_putH (i := 2) (v := ?_) (some 7) rfl (by kernel_rfl) (by kernel_rfl) (by kernel_rfl) (by kernel_rfl) (fun _ _ _ h => h) (Or.inl ⟨by rfl, ?_⟩) hHeld ?_
  rotate_left
  · (intro w hSw; obtain ⟨z0, z1⟩ := hSw; go_simp; try with_reducible rfl)
  try simp only [Act.put, List.setIfInBounds_toArray, List.set_cons_zero, List.set_cons_succ]
  refine take_putH (i := 3) (v := ?_) (some 8) rfl (by kernel_rfl) (by kernel_rfl) (by kernel_rfl) (by kernel_rfl) (fun _ _ _ h => h) (Or.inl ⟨by rfl, ?_⟩) hHeld ?_
  rotate_left
  · (intro w hSw; obtain ⟨z0, z1⟩ := hSw; go_simp; try with_reducible rfl)
  try simp only [Act.put, List.setIfInBounds_toArray, List.set_cons_zero, List.set_cons_succ]
  refine take_putH (i := 4) (v := ?_) (some 9) rfl (by kernel_rfl) (by kernel_rfl) (by kernel_rfl) (by kernel_rfl) (fun _ _ _ h => h) (Or.inl ⟨by rfl, ?_⟩) hHeld ?_
  rotate_left
  · (intro w hSw; obtain ⟨z0, z1⟩ := hSw; go_simp; try with_reducible rfl)
  try simp only [Act.put, List.setIfInBounds_toArray, List.set_cons_zero, List.set_cons_succ]
  refine take_putH (i := 5) (v := ?_) (some 10) rfl (by kernel_rfl) (by kernel_rfl) (by kernel_rfl) (by kernel_rfl) (fun _ _ _ h => h) (Or.inl ⟨by rfl, ?_⟩) hHeld ?_
  rotate_left
  · (intro w hSw; obtain ⟨z0, z1⟩ := hSw; go_simp; try with_reducible rfl)
  try simp only [Act.put, List.setIfInBounds_toArray, List.set_cons_zero, List.set_cons_succ]
  refine take_putH (i := 6) (v := ?_) (some 11) rfl (by kernel_rfl) (by kernel_rfl) (by kernel_rfl) (by kernel_rfl) (fun _ _ _ h => h) (Or.inl ⟨by rfl, ?_⟩) hHeld ?_
  rotate_left
  · (intro w hSw; obtain ⟨z0, z1⟩ := hSw; go_simp; try with_reducible rfl)
  try simp only [Act.put, List.setIfInBounds_toArray, List.set_cons_zero, List.set_cons_succ]
  refine take_putH (i := 7) (v := ?_) (some 12) rfl (by kernel_rfl) (by kernel_rfl) (by kernel_rfl) (by kernel_rfl) (fun _ _ _ h => h) (Or.inl ⟨by rfl, ?_⟩) hHeld ?_
  rotate_left
  · (intro w hSw; obtain ⟨z0, z1⟩ := hSw; go_simp; try with_reducible rfl)
  try simp only [Act.put, List.setIfInBounds_toArray, List.set_cons_zero, List.set_cons_succ]
  refine take_putH (i := 8) (v := ?_) (some 13) rfl (by kernel_rfl) (by kernel_rfl) (by kernel_rfl) (by kernel_rfl) (fun _ _ _ h => h) (Or.inl ⟨by rfl, ?_⟩) hHeld ?_
  rotate_left
  · (intro w hSw; obtain ⟨z0, z1⟩ := hSw; go_simp; try with_reducible rfl)
  try simp only [Act.put, List.setIfInBounds_toArray, List.set_cons_zero, List.set_cons_succ]
  refine take_putH (i := 9) (v := ?_) (some 14) rfl (by kernel_rfl) (by kernel_rfl) (by kernel_rfl) (by kernel_rfl) (fun _ _ _ h => h) (Or.inl ⟨by rfl, ?_⟩) hHeld ?_
  rotate_left
  · (intro w hSw; obtain ⟨z0, z1⟩ := hSw; go_simp; try with_reducible rfl)
  try simp only [Act.put, List.setIfInBounds_toArray, List.set_cons_zero, List.set_cons_succ]
  refine wpAnyH_done (by kernel_rfl) ?_ _
  clear hHeld
  go_wp2
  go_ret
  exact ⟨rfl, HBC.out⟩

set_option maxRecDepth 100000 in
set_option maxHeartbeats 2000000 in
theorem lk_Send_full (w : World) (base g : Nat) (wv : Value) (L : List (Wt × Bd)) (l : Lk) (h : LkIn w base g wv L l) (p : Pc) (sa : Option Addr) (sn sc : Nat) (ia : Option Addr) (im ic : Nat) (hp : PcRd w p sa sn sc ia im ic) (hc : chk p = 0) (hq : l.queue ≤ (L.length : Int)) :
    Calls Tryd.prog 7 #[.pointer (some ⟨g, 0, none⟩), p.val sa sn sc ia im ic] w fun e w' => e = .returned (.int .i64 9) ∧ Below w.heap.size w w' := by
  obtain ⟨p0, HP0⟩ : ∃ p0, Hid (p0 = p) := ⟨_, rfl⟩
  have HV : Hid (p0.val sa sn sc ia im ic = p.val sa sn sc ia im ic) := by show _ = _; rw [HP0.out]
  have HP : Hid (PcRd w p0 sa sn sc ia im ic) := by rw [HP0.out]; exact hp
  have HC : Hid (chk p0 = 0) := by rw [HP0.out]; exact hc
  rw [← HP0.out]
  rw [HV.out]
  have HL : Hid (LkIn w base g wv L l) := h
  clear hp hc h
  clear HP0
  obtain ⟨pk, pp, ps, pn, pf, pt, pl, pi⟩ := p
  obtain ⟨W0, HW0⟩ : ∃ W0, Hid (W0 = w.alloc (.cells #[.int .i64 pk, .int .i64 pp, .int .i64 ps, .int .i64 pn, .int .i64 pf, .int .i64 pt, .slice sa sn sc, .slice ia im ic] 37)) := ⟨_, rfl⟩
  have HB0 : Hid (Below w.heap.size w W0) := by rw [HW0.out]; exact below_new _ _
  have hcp := pc_Put p0 sa sn sc ia im ic W0 (HP.out.below HB0.out)
  unfold PutTold at hcp
  rw [HV.out, HC.out] at hcp
  have HCP : Hid (Calls Tryd.prog 16 #[Pc.val ⟨pk, pp, ps, pn, pf, pt, pl, pi⟩ sa sn sc ia im ic] W0 fun e w' => (∃ b1 m c, e = .returned (.tuple #[.slice b1 m c, .int .i64 0]) ∧ Own w' W0.heap.size b1 m c (putD p0)) ∧ Below W0.heap.size W0 w') := hcp
  clear hcp
  unfold Pc.val
  simp only
  go_enter Tryd.func7, Tryd.ntmps7
  go_wp2_with fail
  rw [← HW0.out]
  refine HCP.out.mono ?_
  rintro e w1 ⟨⟨b1, m1, c1, he, ho1⟩, hb1⟩
  subst he
  have HB1 : Hid (Below w.heap.size w w1) := HB0.out.trans (hb1.mono HB0.out.size)
  have HL1 : Hid (LkIn w1 base g wv L l) := HL.out.below HB1.out
  clear ho1 hb1 HCP
  go_wp2_with fail
  refine (lk_wait_full w1 base g wv L l HL1.out 1 b1 m1 c1 hq).mono ?_
  rintro e w2 ⟨rfl, hb2⟩
  have HB2 : Hid (Below w.heap.size w w2) := HB1.out.trans (hb2.mono HB1.out.size)
  clear hb2
  go_wp2
  go_ret
  exact ⟨rfl, HB2.out⟩

set_option maxRecDepth 100000 in
set_option maxHeartbeats 2000000 in
theorem lk_Send_bad (w : World) (base g : Nat) (wv : Value) (L : List (Wt × Bd)) (l : Lk) (h : LkIn w base g wv L l) (p : Pc) (sa : Option Addr) (sn sc : Nat) (ia : Option Addr) (im ic : Nat) (hp : PcRd w p sa sn sc ia im ic) (hc : chk p ≠ 0) :
    Calls Tryd.prog 7 #[.pointer (some ⟨g, 0, none⟩), p.val sa sn sc ia im ic] w fun e w' => e = .returned (.int .i64 (chk p)) ∧ Below w.heap.size w w' := by
  obtain ⟨p0, HP0⟩ : ∃ p0, Hid (p0 = p) := ⟨_, rfl⟩
  have HV : Hid (p0.val sa sn sc ia im ic = p.val sa sn sc ia im ic) := by show _ = _; rw [HP0.out]
  have HP : Hid (PcRd w p0 sa sn sc ia im ic) := by rw [HP0.out]; exact hp
  obtain ⟨b, HBE⟩ : ∃ b, Hid (b = chk p0) := ⟨_, rfl⟩
  have hn : b ≠ 0 := by rw [HBE.out, HP0.out]; exact hc
  have hn2 : (b == 0) = false := by simpa using hn
  have hn3 : (b != 0) = true := by simpa using hn
  rw [← HP0.out, ← HBE.out]
  rw [HV.out]
  have HL : Hid (LkIn w base g wv L l) := h
  clear hp hc h
  clear HP0
  obtain ⟨pk, pp, ps, pn, pf, pt, pl, pi⟩ := p
  obtain ⟨W0, HW0⟩ : ∃ W0, Hid (W0 = w.alloc (.cells #[.int .i64 pk, .int .i64 pp, .int .i64 ps, .int .i64 pn, .int .i64 pf, .int .i64 pt, .slice sa sn sc, .slice ia im ic] 37)) := ⟨_, rfl⟩
  have HB0 : Hid (Below w.heap.size w W0) := by rw [HW0.out]; exact below_new _ _
  have hcp := pc_Put p0 sa sn sc ia im ic W0 (HP.out.below HB0.out)
  unfold PutTold at hcp
  rw [HV.out, ← HBE.out] at hcp
  have HCP : Hid (Calls Tryd.prog 16 #[Pc.val ⟨pk, pp, ps, pn, pf, pt, pl, pi⟩ sa sn sc ia im ic] W0 fun e w' => (∃ b1 m c, e = .returned (.tuple #[.slice b1 m c, .int .i64 b]) ∧ Own w' W0.heap.size b1 m c (putD p0)) ∧ Below W0.heap.size W0 w') := hcp
  clear hcp
  unfold Pc.val
  simp only
  go_enter Tryd.func7, Tryd.ntmps7
  go_wp2_with fail
  rw [← HW0.out]
  refine HCP.out.mono ?_
  rintro e w1 ⟨⟨b1, m1, c1, he, ho1⟩, hb1⟩
  subst he
  have HB1 : Hid (Below w.heap.size w w1) := HB0.out.trans (hb1.mono HB0.out.size)
  have HL1 : Hid (LkIn w1 base g wv L l) := HL.out.below HB1.out
  clear ho1 hb1 HCP
  go_wp2
  go_ret
  exact ⟨rfl, HB1.out⟩

set_option maxRecDepth 100000 in
set_option maxHeartbeats 2000000 in
theorem lk_Pull_none (w : World) (base g : Nat) (wv : Value) (l : Lk) (h : LkIn w base g wv [] l) :
    Calls Tryd.prog 9 #[.pointer (some ⟨g, 0, none⟩)] w fun e w' => e = .returned (.tuple #[.slice none 0 0, .bool false]) ∧ w' = w := by
  obtain ⟨va, vn, vc, rfl⟩ := row_slice h.row
  obtain ⟨hvn, hvc, hvm⟩ := row_len h.row
  simp only [List.length_nil] at hvn
  subst hvn
  have c4 : w.cell? ⟨g, 4, none⟩ = some (.slice va 0 vc) := h.blk.cell 4 rfl
  clear h
  go_enter Tryd.func9, Tryd.ntmps9
  go_wp2
  go_ret2
  exact ⟨rfl, rfl⟩

set_option maxRecDepth 100000 in
set_option maxHeartbeats 2000000 in
theorem lk_Waits (w : World) (base g : Nat) (wv : Value) (L : List (Wt × Bd)) (l : Lk) (h : LkIn w base g wv L l) :
    Calls Tryd.prog 13 #[.pointer (some ⟨g, 0, none⟩)] w fun e w' => e = .returned (.int .i64 (L.length : Int)) ∧ w' = w := by
  obtain ⟨va, vn, vc, rfl⟩ := row_slice h.row
  obtain ⟨hvn, hvc, hvm⟩ := row_len h.row
  have c4 : w.cell? ⟨g, 4, none⟩ = some (.slice va vn vc) := h.blk.cell 4 rfl
  rw [← hvn]
  clear h hvn
  go_enter Tryd.func13, Tryd.ntmps13
  go_wp2
  go_ret
  exact ⟨rfl, rfl⟩
end Go.Proofs.YtbloomepdchjhaaDoor
