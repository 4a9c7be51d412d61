/- wheel: take, Set. -/
import Derived.Test.YteiadaonihgbfaaDoorWh1
import Derived.Test.YteiadaonihgbfaaDoorDraw
import Derived.Laws.BitsAllLaws
import Derived.Deep.RegionHeld3
import Derived.Deep.QuietTactic
import Derived.BigQuiet
namespace Go.Proofs.YteiadaonihgbfaaDoor
open Go.RowKit

theorem blen_le : ∀ (f n x : Nat), x < 2 ^ n → Lib.bitLenAux f x ≤ n
  | 0, n, x, _ => Nat.zero_le _
  | f + 1, n, x, h => by
    rw [Lib.bitLenAux]
    split
    · exact Nat.zero_le _
    · rename_i h0
      cases n with
      | zero => simp at h; omega
      | succ n =>
        have := blen_le f n (x / 2) (by rw [Nat.pow_succ] at h; omega)
        omega
theorem slot_lt {now at_ : Nat} (hn : now ≤ 1099511627776) (ha : at_ ≤ 1099511627776) : slotN now at_ < 42 := by
  unfold slotN
  split
  · omega
  · have h : at_ ^^^ now < 2 ^ 41 := Nat.xor_lt_two_pow (by omega) (by omega)
    have := blen_le 64 41 _ h
    unfold Lib.bitLen
    omega
/-- A wheel without a timer. -/
def takeS (s : St) (i : Nat) : St :=
  { s with due := s.due.set i 0, slots := s.slots.set (slotN s.now (s.due.getD i 0)) (s.slots.getD (slotN s.now (s.due.getD i 0)) 0 &&& (18446744073709551615 - 2 ^ i)) }
theorem Wh.due_le {w : World} {g : Nat} {s : St} (h : Wh w g s) (i : Nat) : s.due.getD i 0 ≤ 1099511627776 := by
  rw [List.getD_eq_getElem?_getD]
  by_cases hi : i < s.due.length
  · rw [List.getElem?_eq_getElem hi]; exact h.dw _ (List.getElem_mem hi)
  · rw [List.getElem?_eq_none (by omega)]; exact Nat.zero_le _
theorem Wh.slot_le {w : World} {g : Nat} {s : St} (h : Wh w g s) (i : Nat) : s.slots.getD i 0 < 18446744073709551616 := by
  rw [List.getD_eq_getElem?_getD]
  by_cases hi : i < s.slots.length
  · rw [List.getElem?_eq_getElem hi]; exact h.sw _ (List.getElem_mem hi)
  · rw [List.getElem?_eq_none (by omega)]; decide
theorem grown_cell (w : World) (g i : Nat) (v : Value) : w.grownBy (w.setCell ⟨g, i, none⟩ v) (some g) := by
  have h0 : Below 0 w (w.setCell ⟨g, i, none⟩ v) := (Below.refl 0 w).setCell (Nat.zero_le _) v
  exact ⟨h0.os, h0.tape, h0.output, h0.size, fun k _ hk => heap_setCell_other w _ k v (fun e => hk (by rw [e]))⟩

theorem grown_trans {w w1 w2 : World} {k : Nat} (h : w.grownBy w1 (some k)) (h2 : w1.grownBy w2 (some k)) : w.grownBy w2 (some k) :=
  ⟨h2.os.trans h.os, h2.tape.trans h.tape, h2.output.trans h.output, Nat.le_trans h.size h2.size, fun j hj hn => (h2.block j (Nat.lt_of_lt_of_le hj h.size) hn).trans (h.block j hj hn)⟩

set_option maxRecDepth 100000 in
set_option maxHeartbeats 4000000 in
theorem wh_take (w : World) (g : Nat) (s : St) (i : Nat) (h : Wh w g s) (hi : i < 64) :
    Calls Tryd.prog 29 #[.pointer (some ⟨g, 0, none⟩), .int .i64 ((i : Int) + 1)] w fun e w' => e = .returned (.tuple #[]) ∧ Hid (Wh w' g (takeS s i)) ∧ w.grownBy w' (some g) := by
  have HW : Hid (Wh w.drew g s) := h.stay ((Below.refl _ _).trans ⟨rfl, rfl, rfl, Nat.le_refl _, fun _ _ => rfl⟩)
  obtain ⟨t, ht⟩ : ∃ t, t = s.due.getD i 0 := ⟨_, rfl⟩
  have HT : Hid (t = s.due.getD i 0) := ht
  have htl : t ≤ 1099511627776 := by rw [ht]; exact h.due_le i
  have d1 : w.drew.cell? ⟨g, 1 + i, none⟩ = some (.int .i64 (t : Int)) := by rw [ht]; exact HW.out.due_cell hi
  obtain ⟨k, hk⟩ : ∃ k, k = slotN s.now t := ⟨_, rfl⟩
  have hk42 : k < 42 := by rw [hk]; exact slot_lt h.nw htl
  have HK : Hid (k = slotN s.now t) := hk
  obtain ⟨z, hz⟩ : ∃ z, z = s.slots.getD k 0 := ⟨_, rfl⟩
  have HZ : Hid (z = s.slots.getD k 0) := hz
  have HGD : Hid (w.grownBy w.drew (some g)) := ⟨rfl, rfl, rfl, Nat.le_refl _, fun _ _ _ => rfl⟩
  have hzl : z < 18446744073709551616 := by rw [hz]; exact h.slot_le k
  have d2 : w.drew.cell? ⟨g, 65 + k, none⟩ = some (.int .u64 (z : Int)) := by rw [hz]; exact HW.out.slot_cell hk42
  have HPW : Hid (2 ^ i < 18446744073709551616) := pow_lt i hi
  obtain ⟨b, hb⟩ : ∃ b, b = 2 ^ i := ⟨_, rfl⟩
  have HB : Hid (b = 2 ^ i) := hb
  have q1 : bits .andNot .u64 (z : Int) (b : Int) = ((z &&& (18446744073709551615 - b) : Nat) : Int) := u64_andNot_nat z b hzl (by rw [hb]; exact HPW.out)
  have hi' : (i : Int) < 64 := by omega
  have hk' : (k : Int) < 42 := by omega
  have hi0 : (0 : Int) ≤ (i : Int) := by omega
  have hk0 : (0 : Int) ≤ (k : Int) := by omega
  have HSL : Hid (∀ w', Wh w' g s → Calls Tryd.prog 30 #[.pointer (some ⟨g, 0, none⟩), .int .i64 (t : Int)] w' fun e w'' => e = .returned (.int .i64 (k : Int)) ∧ w'' = w') := fun w' h' => by rw [HK.out]; exact wh_slot w' g s t h' htl
  have HAL : Hid (∀ w', Calls Tryd.prog 31 #[.int .i64 ((i : Int) + 1)] w' fun e w'' => e = .returned (.int .u64 (b : Int)) ∧ w'' = w') := fun w' => by rw [HB.out]; exact wh_alone w' i hi
  have q3 : IntKind.i64.wrap ((i : Int) + 1 - 1) = (i : Int) := by rw [IntKind.wrap_i64]; omega
  have q4 : IntKind.i64.wrap (i : Int) = (i : Int) := by rw [IntKind.wrap_i64]; omega
  have f2 : w.drew.frozen? ⟨g, 65 + k, none⟩ = false := HW.out.free _
  clear h ht hk hz hb
  go_enter Tryd.func29, Tryd.ntmps29
  go_wp2
  refine wp_region_any (by kernel_rfl) ?_
  change wpAny _ _ _ _ _ _ _ (World.drew _)
  generalize w.drew = wd at *
  refine take_put (i := 0) (v := ?_) (some 4) rfl (by kernel_rfl) (by kernel_rfl) (by kernel_rfl) (by kernel_rfl) (fun _ _ _ h => h) (Or.inl ⟨by rfl, ?_⟩) ?_
  rotate_left
  · (intro w; go_simp; try with_reducible rfl)
  try simp only [Act.put, List.setIfInBounds_toArray, List.set_cons_zero, List.set_cons_succ]
  refine take_put (i := 1) (v := ?_) (some 5) rfl (by kernel_rfl) (by kernel_rfl) (by kernel_rfl) (by kernel_rfl) (fun _ _ _ h => h) (Or.inl ⟨by rfl, ?_⟩) ?_
  rotate_left
  · (intro w; go_simp; try with_reducible rfl)
  try simp only [Act.put, List.setIfInBounds_toArray, List.set_cons_zero, List.set_cons_succ]
  refine take_put (i := 2) (v := ?_) (some 6) rfl (by kernel_rfl) (by kernel_rfl) (by kernel_rfl) (by kernel_rfl) (fun _ _ _ h => h) (Or.inl ⟨by rfl, ?_⟩) ?_
  rotate_left
  · (intro w; go_simp; try with_reducible rfl)
  try simp only [Act.put, List.setIfInBounds_toArray, List.set_cons_zero, List.set_cons_succ]
  refine take_put (i := 3) (v := ?_) (some 7) rfl (by kernel_rfl) (by kernel_rfl) (by kernel_rfl) (by kernel_rfl) (fun _ _ _ h => h) (Or.inl ⟨by rfl, ?_⟩) ?_
  rotate_left
  · (intro w; go_simp; try with_reducible rfl)
  try simp only [Act.put, List.setIfInBounds_toArray, List.set_cons_zero, List.set_cons_succ]
  refine take_put (i := 4) (v := ?_) (some 8) rfl (by kernel_rfl) (by kernel_rfl) (by kernel_rfl) (by kernel_rfl) (fun _ _ _ h => h) (Or.inl ⟨by rfl, ?_⟩) ?_
  rotate_left
  · (intro w; go_simp; try with_reducible rfl)
  try simp only [Act.put, List.setIfInBounds_toArray, List.set_cons_zero, List.set_cons_succ]
  refine take_put (i := 5) (v := ?_) (some 9) rfl (by kernel_rfl) (by kernel_rfl) (by kernel_rfl) (by kernel_rfl) (fun _ _ _ h => h) (Or.inl ⟨by rfl, ?_⟩) ?_
  rotate_left
  · (intro w; go_simp; try with_reducible rfl)
  try simp only [Act.put, List.setIfInBounds_toArray, List.set_cons_zero, List.set_cons_succ]
  refine take_put (i := 6) (v := ?_) (some 10) rfl (by kernel_rfl) (by kernel_rfl) (by kernel_rfl) (by kernel_rfl) (fun _ _ _ h => h) (Or.inl ⟨by rfl, ?_⟩) ?_
  rotate_left
  · (intro w; go_simp; try with_reducible rfl)
  try simp only [Act.put, List.setIfInBounds_toArray, List.set_cons_zero, List.set_cons_succ]
  refine take_put (i := 7) (v := ?_) (some 11) rfl (by kernel_rfl) (by kernel_rfl) (by kernel_rfl) (by kernel_rfl) (fun _ _ _ h => h) (Or.inl ⟨by rfl, ?_⟩) ?_
  rotate_left
  · (intro w; go_simp; try with_reducible rfl)
  try simp only [Act.put, List.setIfInBounds_toArray, List.set_cons_zero, List.set_cons_succ]
  refine take_put (i := 10) (v := ?_) (some 14) rfl (by kernel_rfl) (by kernel_rfl) (by kernel_rfl) (by kernel_rfl) (fun _ _ _ h => h) (Or.inl ⟨by rfl, ?_⟩) ?_
  rotate_left
  · (intro w; go_simp; try with_reducible rfl)
  try simp only [Act.put, List.setIfInBounds_toArray, List.set_cons_zero, List.set_cons_succ]
  refine take_put (i := 11) (v := ?_) (some 15) rfl (by kernel_rfl) (by kernel_rfl) (by kernel_rfl) (by kernel_rfl) (fun _ _ _ h => h) (Or.inl ⟨by rfl, ?_⟩) ?_
  rotate_left
  · (intro w; go_simp; try with_reducible rfl)
  try simp only [Act.put, List.setIfInBounds_toArray, List.set_cons_zero, List.set_cons_succ]
  refine take_put (i := 14) (v := ?_) (some 18) rfl (by kernel_rfl) (by kernel_rfl) (by kernel_rfl) (by kernel_rfl) (fun _ _ _ h => h) (Or.inl ⟨by rfl, ?_⟩) ?_
  rotate_left
  · (intro w; go_simp; try with_reducible rfl)
  try simp only [Act.put, List.setIfInBounds_toArray, List.set_cons_zero, List.set_cons_succ]
  refine take_put (i := 17) (v := ?_) (some 21) rfl (by kernel_rfl) (by kernel_rfl) (by kernel_rfl) (by kernel_rfl) (fun _ _ _ h => h) (Or.inl ⟨by rfl, ?_⟩) ?_
  rotate_left
  · (intro w; go_simp; try with_reducible rfl)
  try simp only [Act.put, List.setIfInBounds_toArray, List.set_cons_zero, List.set_cons_succ]
  refine take_put (i := 18) (v := ?_) (some 22) rfl (by kernel_rfl) (by kernel_rfl) (by kernel_rfl) (by kernel_rfl) (fun _ _ _ h => h) (Or.inl ⟨by rfl, ?_⟩) ?_
  rotate_left
  · (intro w; go_simp; try with_reducible rfl)
  try simp only [Act.put, List.setIfInBounds_toArray, List.set_cons_zero, List.set_cons_succ]
  refine wpAny_ready (rs := [8]) (by kernel_rfl) (by simp) ?_
  refine AllReady.cons rfl (fun K hK => ?_) AllReady.nil
  have cl := d1
  go_simp
  clear cl
  refine hK _ _ ?_
  clear hK K
  try simp only [Act.put, List.getElem_toArray, List.getElem_cons_succ, List.getElem_cons_zero, List.setIfInBounds_toArray, List.set_cons_zero, List.set_cons_succ]
  refine wpAny_ready (rs := [9]) (by kernel_rfl) (by simp) ?_
  refine AllReady.cons rfl (fun K hK => ?_) AllReady.nil
  go_simp
  refine (HSL.out _ HW.out).mono ?_
  rintro e w2 ⟨he, hw2⟩
  subst he
  rw [hw2]
  clear hw2 w2
  refine hK _ _ ?_
  clear hK K
  try simp only [Act.put, List.getElem_toArray, List.getElem_cons_succ, List.getElem_cons_zero, List.setIfInBounds_toArray, List.set_cons_zero, List.set_cons_succ]
  refine take_put (i := 12) (v := ?_) (some 16) rfl (by kernel_rfl) (by kernel_rfl) (by kernel_rfl) (by kernel_rfl) (fun _ _ _ h => h) (Or.inl ⟨by rfl, ?_⟩) ?_
  rotate_left
  · (intro w; go_simp; try with_reducible rfl)
  try simp only [Act.put, List.setIfInBounds_toArray, List.set_cons_zero, List.set_cons_succ]
  refine wpAny_ready (rs := [13, 15]) (by kernel_rfl) (by simp) ?_
  refine AllReady.cons rfl (fun K hK => ?_) (AllReady.cons rfl (fun K hK => ?_) AllReady.nil)
  · have cl := d2
    go_simp
    clear cl
    refine hK _ _ ?_
    clear hK K
    try simp only [Act.put, List.getElem_toArray, List.getElem_cons_succ, List.getElem_cons_zero, List.setIfInBounds_toArray, List.set_cons_zero, List.set_cons_succ]
    refine wpAny_ready (rs := [15]) (by kernel_rfl) (by simp) ?_
    refine AllReady.cons rfl (fun K hK => ?_) AllReady.nil
    go_simp
    refine (HAL.out _).mono ?_
    rintro e w2 ⟨he, hw2⟩
    subst he
    rw [hw2]
    clear hw2 w2
    refine hK _ _ ?_
    clear hK K
    try simp only [Act.put, List.getElem_toArray, List.getElem_cons_succ, List.getElem_cons_zero, List.setIfInBounds_toArray, List.set_cons_zero, List.set_cons_succ]
    refine take_put (i := 16) (v := ?_) (some 20) rfl (by kernel_rfl) (by kernel_rfl) (by kernel_rfl) (by kernel_rfl) (fun _ _ _ h => h) (Or.inl ⟨by rfl, ?_⟩) ?_
    rotate_left
    · (intro w; go_simp; try with_reducible rfl)
    try simp only [Act.put, List.setIfInBounds_toArray, List.set_cons_zero, List.set_cons_succ]
    refine take_put (i := 19) (v := ?_) (some 23) rfl (by kernel_rfl) (by kernel_rfl) (by kernel_rfl) (by kernel_rfl) (fun _ _ _ h => h) (Or.inl ⟨by rfl, ?_⟩) ?_
    rotate_left
    · (intro w; go_simp; try with_reducible rfl)
    try simp only [Act.put, List.setIfInBounds_toArray, List.set_cons_zero, List.set_cons_succ]
    refine wpAny_ready (rs := [20]) (by kernel_rfl) (by simp) ?_
    refine AllReady.cons rfl (fun K hK => ?_) AllReady.nil
    have cl := d2
    have fl := f2
    go_simp
    clear cl fl
    refine hK _ _ ?_
    clear hK K
    try simp only [Act.put, List.getElem_toArray, List.getElem_cons_succ, List.getElem_cons_zero, List.setIfInBounds_toArray, List.set_cons_zero, List.set_cons_succ]
    refine wpAny_done (by kernel_rfl) ?_ _
    have HW1 : Hid (Wh (wd.setCell ⟨g, 65 + k, none⟩ (.int .u64 ((z &&& (18446744073709551615 - b) : Nat) : Int))) g { s with slots := s.slots.set k (z &&& (18446744073709551615 - b)) }) := HW.out.set_slot (Nat.lt_of_le_of_lt Nat.and_le_left hzl)
    have HG1 := grown_cell wd g (65 + k) (.int .u64 ((z &&& (18446744073709551615 - b) : Nat) : Int))
    generalize wd.setCell ⟨g, 65 + k, none⟩ (.int .u64 ((z &&& (18446744073709551615 - b) : Nat) : Int)) = w4 at *
    have d3 : w4.cell? ⟨g, 1 + i, none⟩ = some (.int .i64 (t : Int)) := by rw [HT.out]; exact HW1.out.due_cell hi
    have f3 : w4.frozen? ⟨g, 1 + i, none⟩ = false := HW1.out.free _
    have HW2 : Hid (Wh (w4.setCell ⟨g, 1 + i, none⟩ (.int .i64 0)) g (takeS s i)) := by
      have h2 := HW1.out.set_due (i := i) (x := 0) hi (Nat.zero_le _)
      show Wh _ _ _
      unfold takeS
      rw [← HT.out, ← HK.out, ← HZ.out, ← HB.out]
      exact h2
    have HG2 : Hid (w.grownBy (w4.setCell ⟨g, 1 + i, none⟩ (.int .i64 0)) (some g)) := grown_trans (grown_trans HGD.out HG1) (grown_cell _ _ _ _)
    clear HG1
    go_wp2
    go_returns
    exact ⟨rfl, HW2, HG2.out⟩
  · go_simp
    refine (HAL.out _).mono ?_
    rintro e w2 ⟨he, hw2⟩
    subst he
    rw [hw2]
    clear hw2 w2
    refine hK _ _ ?_
    clear hK K
    try simp only [Act.put, List.getElem_toArray, List.getElem_cons_succ, List.getElem_cons_zero, List.setIfInBounds_toArray, List.set_cons_zero, List.set_cons_succ]
    refine wpAny_ready (rs := [13]) (by kernel_rfl) (by simp) ?_
    refine AllReady.cons rfl (fun K hK => ?_) AllReady.nil
    have cl := d2
    go_simp
    clear cl
    refine hK _ _ ?_
    clear hK K
    try simp only [Act.put, List.getElem_toArray, List.getElem_cons_succ, List.getElem_cons_zero, List.setIfInBounds_toArray, List.set_cons_zero, List.set_cons_succ]
    refine take_put (i := 16) (v := ?_) (some 20) rfl (by kernel_rfl) (by kernel_rfl) (by kernel_rfl) (by kernel_rfl) (fun _ _ _ h => h) (Or.inl ⟨by rfl, ?_⟩) ?_
    rotate_left
    · (intro w; go_simp; try with_reducible rfl)
    try simp only [Act.put, List.setIfInBounds_toArray, List.set_cons_zero, List.set_cons_succ]
    refine take_put (i := 19) (v := ?_) (some 23) rfl (by kernel_rfl) (by kernel_rfl) (by kernel_rfl) (by kernel_rfl) (fun _ _ _ h => h) (Or.inl ⟨by rfl, ?_⟩) ?_
    rotate_left
    · (intro w; go_simp; try with_reducible rfl)
    try simp only [Act.put, List.setIfInBounds_toArray, List.set_cons_zero, List.set_cons_succ]
    refine wpAny_ready (rs := [20]) (by kernel_rfl) (by simp) ?_
    refine AllReady.cons rfl (fun K hK => ?_) AllReady.nil
    have cl := d2
    have fl := f2
    go_simp
    clear cl fl
    refine hK _ _ ?_
    clear hK K
    try simp only [Act.put, List.getElem_toArray, List.getElem_cons_succ, List.getElem_cons_zero, List.setIfInBounds_toArray, List.set_cons_zero, List.set_cons_succ]
    refine wpAny_done (by kernel_rfl) ?_ _
    have HW1 : Hid (Wh (wd.setCell ⟨g, 65 + k, none⟩ (.int .u64 ((z &&& (18446744073709551615 - b) : Nat) : Int))) g { s with slots := s.slots.set k (z &&& (18446744073709551615 - b)) }) := HW.out.set_slot (Nat.lt_of_le_of_lt Nat.and_le_left hzl)
    have HG1 := grown_cell wd g (65 + k) (.int .u64 ((z &&& (18446744073709551615 - b) : Nat) : Int))
    generalize wd.setCell ⟨g, 65 + k, none⟩ (.int .u64 ((z &&& (18446744073709551615 - b) : Nat) : Int)) = w4 at *
    have d3 : w4.cell? ⟨g, 1 + i, none⟩ = some (.int .i64 (t : Int)) := by rw [HT.out]; exact HW1.out.due_cell hi
    have f3 : w4.frozen? ⟨g, 1 + i, none⟩ = false := HW1.out.free _
    have HW2 : Hid (Wh (w4.setCell ⟨g, 1 + i, none⟩ (.int .i64 0)) g (takeS s i)) := by
      have h2 := HW1.out.set_due (i := i) (x := 0) hi (Nat.zero_le _)
      show Wh _ _ _
      unfold takeS
      rw [← HT.out, ← HK.out, ← HZ.out, ← HB.out]
      exact h2
    have HG2 : Hid (w.grownBy (w4.setCell ⟨g, 1 + i, none⟩ (.int .i64 0)) (some g)) := grown_trans (grown_trans HGD.out HG1) (grown_cell _ _ _ _)
    clear HG1
    go_wp2
    go_returns
    exact ⟨rfl, HW2, HG2.out⟩

/-- A wheel with a timer more. -/
def setS (s : St) (i at_ : Nat) : St :=
  { takeS s i with due := (takeS s i).due.set i at_, slots := (takeS s i).slots.set (slotN s.now at_) ((takeS s i).slots.getD (slotN s.now at_) 0 ||| 2 ^ i) }
def setE (id at_ : Int) : Int := if namedB id = true ∧ 0 ≤ at_ ∧ at_ ≤ 1099511627776 then 0 else 2
def setD (s : St) (id at_ : Int) : St := if namedB id = true ∧ 0 ≤ at_ ∧ at_ ≤ 1099511627776 then setS s (id - 1).toNat at_.toNat else s

set_option maxRecDepth 100000 in
set_option maxHeartbeats 4000000 in
theorem wh_Set (w : World) (g : Nat) (s : St) (id at_ : Int) (h : Wh w g s) :
    Calls Tryd.prog 13 #[.pointer (some ⟨g, 0, none⟩), .int .i64 id, .int .i64 at_] w fun e w' => e = .returned (.int .i64 (setE id at_)) ∧ Hid (Wh w' g (setD s id at_)) ∧ w.grownBy w' (some g) := by
  have HW0 : Hid (Wh w g s) := h
  obtain ⟨E, HE⟩ : ∃ E, Hid (E = setE id at_) := ⟨_, rfl⟩
  obtain ⟨D, HD⟩ : ∃ D, Hid (D = setD s id at_) := ⟨_, rfl⟩
  rw [← HE.out, ← HD.out]
  have HG0 : Hid (w.grownBy w (some g)) := ⟨rfl, rfl, rfl, Nat.le_refl _, fun _ _ _ => rfl⟩
  by_cases hbad : ¬ (namedB id = true ∧ 0 ≤ at_ ∧ at_ ≤ 1099511627776)
  · have HX : Hid (E = 2 ∧ D = s) := ⟨by rw [HE.out, setE, if_neg hbad], by rw [HD.out, setD, if_neg hbad]⟩
    clear h
    rcases (show namedB id = false ∨ (namedB id = true ∧ at_ < 0) ∨ (namedB id = true ∧ ¬ at_ < 0 ∧ 1099511627776 < at_) from by
      cases hn : namedB id with
      | false => exact .inl rfl
      | true => (by_cases h1 : at_ < 0; exact .inr (.inl ⟨rfl, h1⟩); exact .inr (.inr ⟨rfl, h1, by rw [hn] at hbad; simp at hbad; omega⟩))) with hc | ⟨hc, h1⟩ | ⟨hc, h1, h2⟩ <;>
    ( clear hbad
      go_enter Tryd.func13, Tryd.ntmps13
      go_wp2_with fail
      refine (wh_named w id).mono ?_
      rw [hc]
      rintro e w1 ⟨rfl, rfl⟩
      go_wp2
      go_ret
      exact ⟨by rw [HX.out.1]; rfl, by rw [HX.out.2]; exact HW0, HG0.out⟩ )
  · have hc := Classical.not_not.1 hbad
    clear hbad
    obtain ⟨hn, h0, h1⟩ := hc
    have hid : 1 ≤ id ∧ id ≤ 64 := by simpa [namedB] using hn
    obtain ⟨i, rfl⟩ : ∃ i : Nat, id = (i : Int) + 1 := ⟨(id - 1).toNat, by omega⟩
    obtain ⟨t, rfl⟩ := Int.eq_ofNat_of_zero_le h0
    have hi : i < 64 := by omega
    have htl : t ≤ 1099511627776 := by omega
    have HX : Hid (E = 0 ∧ D = setS s i t) := by
      show _ ∧ _
      rw [HE.out, HD.out, setE, setD, if_pos ⟨hn, h0, h1⟩, if_pos ⟨hn, h0, h1⟩, show ((i : Int) + 1 - 1).toNat = i from by omega, Int.toNat_natCast]
      exact ⟨rfl, rfl⟩
    have hn' : ¬ (t : Int) < 0 := by omega
    have hn2 : ¬ (1099511627776 : Int) < (t : Int) := by omega
    have HN : Hid (namedB ((i : Int) + 1) = true) := hn
    have HNW : Hid (s.now ≤ 1099511627776) := h.nw
    clear h hn hid
    go_enter Tryd.func13, Tryd.ntmps13
    go_wp2_with fail
    refine (wh_named w ((i : Int) + 1)).mono ?_
    rw [HN.out]
    rintro e w0 ⟨rfl, hw0⟩
    rw [hw0]
    clear hw0 w0
    go_wp2_with fail
    refine (wh_take w g s i HW0.out hi).mono ?_
    rintro e w1 ⟨rfl, hw1, hg1⟩
    have HW1 : Hid (Wh w1 g (takeS s i)) := hw1.out
    have HG1 : Hid (w.grownBy w1 (some g)) := hg1
    clear hw1 hg1
    have d0 : w1.cell? ⟨g, 1 + i, none⟩ = some (.int .i64 (((takeS s i).due.getD i 0 : Nat) : Int)) := HW1.out.due_cell hi
    have f0 : w1.frozen? ⟨g, 1 + i, none⟩ = false := HW1.out.free _
    obtain ⟨w2, HW2E⟩ : ∃ w2, Hid (w2 = w1.setCell ⟨g, 1 + i, none⟩ (.int .i64 (t : Int))) := ⟨_, rfl⟩
    obtain ⟨s2, HS2⟩ : ∃ s2 : St, Hid (s2 = { takeS s i with due := (takeS s i).due.set i t }) := ⟨_, rfl⟩
    have HW2 : Hid (Wh w2 g s2) := by show Wh _ _ _; rw [HW2E.out, HS2.out]; exact HW1.out.set_due hi htl
    have HW : Hid (Wh w2.drew g s2) := HW2.out.stay ((Below.refl _ _).trans ⟨rfl, rfl, rfl, Nat.le_refl _, fun _ _ => rfl⟩)
    have HG2 : Hid (w.grownBy w2.drew (some g)) := by
      have : w.grownBy w2 (some g) := by rw [HW2E.out]; exact grown_trans HG1.out (grown_cell _ _ _ _)
      exact ⟨this.os, this.tape, this.output, this.size, this.block⟩
    obtain ⟨k, hk⟩ : ∃ k, k = slotN s2.now t := ⟨_, rfl⟩
    have HK : Hid (k = slotN s2.now t) := hk
    have hk42 : k < 42 := by rw [hk]; exact slot_lt HW.out.nw htl
    obtain ⟨z, hz⟩ : ∃ z, z = s2.slots.getD k 0 := ⟨_, rfl⟩
    have HZ : Hid (z = s2.slots.getD k 0) := hz
    have hzl : z < 18446744073709551616 := by rw [hz]; exact HW.out.slot_le k
    have d2 : w2.drew.cell? ⟨g, 65 + k, none⟩ = some (.int .u64 (z : Int)) := by rw [hz]; exact HW.out.slot_cell hk42
    have f2 : w2.drew.frozen? ⟨g, 65 + k, none⟩ = false := HW.out.free _
    have HPW : Hid (2 ^ i < 18446744073709551616) := pow_lt i hi
    obtain ⟨b, hb⟩ : ∃ b, b = 2 ^ i := ⟨_, rfl⟩
    have HB : Hid (b = 2 ^ i) := hb
    have hbl : b < 18446744073709551616 := by rw [hb]; exact HPW.out
    have q1 : bits .or .u64 (z : Int) (b : Int) = ((z ||| b : Nat) : Int) := u64_or_nat z b hzl hbl
    have hk' : (k : Int) < 42 := by omega
    have hk0 : (0 : Int) ≤ (k : Int) := by omega
    have hi' : (i : Int) < 64 := by omega
    have hi0 : (0 : Int) ≤ (i : Int) := by omega
    have q3 : IntKind.i64.wrap ((i : Int) + 1 - 1) = (i : Int) := by rw [IntKind.wrap_i64]; omega
    have HSL : Hid (∀ w', Wh w' g s2 → Calls Tryd.prog 30 #[.pointer (some ⟨g, 0, none⟩), .int .i64 (t : Int)] w' fun e w'' => e = .returned (.int .i64 (k : Int)) ∧ w'' = w') := fun w' h' => by rw [HK.out]; exact wh_slot w' g s2 t h' htl
    have HAL : Hid (∀ w', Calls Tryd.prog 31 #[.int .i64 ((i : Int) + 1)] w' fun e w'' => e = .returned (.int .u64 (b : Int)) ∧ w'' = w') := fun w' => by rw [HB.out]; exact wh_alone w' i hi
    clear hk hz hb
    go_wp2
    rw [← HW2E.out]
    clear d0 f0
    refine wp_region_any (by kernel_rfl) ?_
    change wpAny _ _ _ _ _ _ _ (World.drew _)
    generalize w2.drew = wd at *
    refine take_put (i := 0) (v := ?_) (some 30) rfl (by kernel_rfl) (by kernel_rfl) (by kernel_rfl) (by kernel_rfl) (fun _ _ _ h => h) (Or.inl ⟨by rfl, ?_⟩) ?_
    rotate_left
    · (intro w; go_simp; try with_reducible rfl)
    try simp only [Act.put, List.setIfInBounds_toArray, List.set_cons_zero, List.set_cons_succ]
    refine take_put (i := 1) (v := ?_) (some 31) rfl (by kernel_rfl) (by kernel_rfl) (by kernel_rfl) (by kernel_rfl) (fun _ _ _ h => h) (Or.inl ⟨by rfl, ?_⟩) ?_
    rotate_left
    · (intro w; go_simp; try with_reducible rfl)
    try simp only [Act.put, List.setIfInBounds_toArray, List.set_cons_zero, List.set_cons_succ]
    refine take_put (i := 2) (v := ?_) (some 32) rfl (by kernel_rfl) (by kernel_rfl) (by kernel_rfl) (by kernel_rfl) (fun _ _ _ h => h) (Or.inl ⟨by rfl, ?_⟩) ?_
    rotate_left
    · (intro w; go_simp; try with_reducible rfl)
    try simp only [Act.put, List.setIfInBounds_toArray, List.set_cons_zero, List.set_cons_succ]
    refine take_put (i := 8) (v := ?_) (some 38) rfl (by kernel_rfl) (by kernel_rfl) (by kernel_rfl) (by kernel_rfl) (fun _ _ _ h => h) (Or.inl ⟨by rfl, ?_⟩) ?_
    rotate_left
    · (intro w; go_simp; try with_reducible rfl)
    try simp only [Act.put, List.setIfInBounds_toArray, List.set_cons_zero, List.set_cons_succ]
    refine take_put (i := 4) (v := ?_) (some 34) rfl (by kernel_rfl) (by kernel_rfl) (by kernel_rfl) (by kernel_rfl) (fun _ _ _ h => h) (Or.inl ⟨by rfl, ?_⟩) ?_
    rotate_left
    · (intro w; go_simp; try with_reducible rfl)
    try simp only [Act.put, List.setIfInBounds_toArray, List.set_cons_zero, List.set_cons_succ]
    refine take_put (i := 5) (v := ?_) (some 35) rfl (by kernel_rfl) (by kernel_rfl) (by kernel_rfl) (by kernel_rfl) (fun _ _ _ h => h) (Or.inl ⟨by rfl, ?_⟩) ?_
    rotate_left
    · (intro w; go_simp; try with_reducible rfl)
    try simp only [Act.put, List.setIfInBounds_toArray, List.set_cons_zero, List.set_cons_succ]
    refine take_put (i := 11) (v := ?_) (some 41) rfl (by kernel_rfl) (by kernel_rfl) (by kernel_rfl) (by kernel_rfl) (fun _ _ _ h => h) (Or.inl ⟨by rfl, ?_⟩) ?_
    rotate_left
    · (intro w; go_simp; try with_reducible rfl)
    try simp only [Act.put, List.setIfInBounds_toArray, List.set_cons_zero, List.set_cons_succ]
    refine take_put (i := 12) (v := ?_) (some 42) rfl (by kernel_rfl) (by kernel_rfl) (by kernel_rfl) (by kernel_rfl) (fun _ _ _ h => h) (Or.inl ⟨by rfl, ?_⟩) ?_
    rotate_left
    · (intro w; go_simp; try with_reducible rfl)
    try simp only [Act.put, List.setIfInBounds_toArray, List.set_cons_zero, List.set_cons_succ]
    refine wpAny_ready (rs := [3]) (by kernel_rfl) (by simp) ?_
    refine AllReady.cons rfl (fun K hK => ?_) AllReady.nil
    go_simp
    refine (HSL.out _ HW.out).mono ?_
    rintro e w2 ⟨he, hw2⟩
    subst he
    rw [hw2]
    clear hw2 w2
    refine hK _ _ ?_
    clear hK K
    try simp only [Act.put, List.getElem_toArray, List.getElem_cons_succ, List.getElem_cons_zero, List.setIfInBounds_toArray, List.set_cons_zero, List.set_cons_succ]
    refine take_put (i := 6) (v := ?_) (some 36) rfl (by kernel_rfl) (by kernel_rfl) (by kernel_rfl) (by kernel_rfl) (fun _ _ _ h => h) (Or.inl ⟨by rfl, ?_⟩) ?_
    rotate_left
    · (intro w; go_simp; try with_reducible rfl)
    try simp only [Act.put, List.setIfInBounds_toArray, List.set_cons_zero, List.set_cons_succ]
    refine wpAny_ready (rs := [7, 9]) (by kernel_rfl) (by simp) ?_
    refine AllReady.cons rfl (fun K hK => ?_) (AllReady.cons rfl (fun K hK => ?_) AllReady.nil)
    · have cl := d2
      go_simp
      clear cl
      refine hK _ _ ?_
      clear hK K
      try simp only [Act.put, List.getElem_toArray, List.getElem_cons_succ, List.getElem_cons_zero, List.setIfInBounds_toArray, List.set_cons_zero, List.set_cons_succ]
      refine wpAny_ready (rs := [9]) (by kernel_rfl) (by simp) ?_
      refine AllReady.cons rfl (fun K hK => ?_) AllReady.nil
      go_simp
      refine (HAL.out _).mono ?_
      rintro e w2 ⟨he, hw2⟩
      subst he
      rw [hw2]
      clear hw2 w2
      refine hK _ _ ?_
      clear hK K
      try simp only [Act.put, List.getElem_toArray, List.getElem_cons_succ, List.getElem_cons_zero, List.setIfInBounds_toArray, List.set_cons_zero, List.set_cons_succ]
      refine take_put (i := 10) (v := ?_) (some 40) rfl (by kernel_rfl) (by kernel_rfl) (by kernel_rfl) (by kernel_rfl) (fun _ _ _ h => h) (Or.inl ⟨by rfl, ?_⟩) ?_
      rotate_left
      · (intro w; go_simp; try with_reducible rfl)
      try simp only [Act.put, List.setIfInBounds_toArray, List.set_cons_zero, List.set_cons_succ]
      refine take_put (i := 13) (v := ?_) (some 43) rfl (by kernel_rfl) (by kernel_rfl) (by kernel_rfl) (by kernel_rfl) (fun _ _ _ h => h) (Or.inl ⟨by rfl, ?_⟩) ?_
      rotate_left
      · (intro w; go_simp; try with_reducible rfl)
      try simp only [Act.put, List.setIfInBounds_toArray, List.set_cons_zero, List.set_cons_succ]
      refine wpAny_ready (rs := [14]) (by kernel_rfl) (by simp) ?_
      refine AllReady.cons rfl (fun K hK => ?_) AllReady.nil
      have cl := d2
      have fl := f2
      go_simp
      clear cl fl
      refine hK _ _ ?_
      clear hK K
      try simp only [Act.put, List.getElem_toArray, List.getElem_cons_succ, List.getElem_cons_zero, List.setIfInBounds_toArray, List.set_cons_zero, List.set_cons_succ]
      refine wpAny_done (by kernel_rfl) ?_ _
      have HF : Hid (Wh (wd.setCell ⟨g, 65 + k, none⟩ (.int .u64 ((z ||| b : Nat) : Int))) g D) := by
        have h2 := HW.out.set_slot (k := k) (x := z ||| b) (by have : z ||| b < 2 ^ 64 := Nat.or_lt_two_pow (by omega) (by omega)
                                                               omega)
        show Wh _ _ _
        rw [HX.out.2, setS]
        rw [HZ.out, HK.out, HB.out, HS2.out] at h2
        rw [HZ.out, HK.out, HB.out, HS2.out]
        exact h2
      have HGF : Hid (w.grownBy (wd.setCell ⟨g, 65 + k, none⟩ (.int .u64 ((z ||| b : Nat) : Int))) (some g)) := grown_trans HG2.out (grown_cell _ _ _ _)
      go_wp2
      go_ret
      exact ⟨by rw [HX.out.1]; rfl, HF, HGF.out⟩
    · go_simp
      refine (HAL.out _).mono ?_
      rintro e w2 ⟨he, hw2⟩
      subst he
      rw [hw2]
      clear hw2 w2
      refine hK _ _ ?_
      clear hK K
      try simp only [Act.put, List.getElem_toArray, List.getElem_cons_succ, List.getElem_cons_zero, List.setIfInBounds_toArray, List.set_cons_zero, List.set_cons_succ]
      refine wpAny_ready (rs := [7]) (by kernel_rfl) (by simp) ?_
      refine AllReady.cons rfl (fun K hK => ?_) AllReady.nil
      have cl := d2
      go_simp
      clear cl
      refine hK _ _ ?_
      clear hK K
      try simp only [Act.put, List.getElem_toArray, List.getElem_cons_succ, List.getElem_cons_zero, List.setIfInBounds_toArray, List.set_cons_zero, List.set_cons_succ]
      refine take_put (i := 10) (v := ?_) (some 40) rfl (by kernel_rfl) (by kernel_rfl) (by kernel_rfl) (by kernel_rfl) (fun _ _ _ h => h) (Or.inl ⟨by rfl, ?_⟩) ?_
      rotate_left
      · (intro w; go_simp; try with_reducible rfl)
      try simp only [Act.put, List.setIfInBounds_toArray, List.set_cons_zero, List.set_cons_succ]
      refine take_put (i := 13) (v := ?_) (some 43) rfl (by kernel_rfl) (by kernel_rfl) (by kernel_rfl) (by kernel_rfl) (fun _ _ _ h => h) (Or.inl ⟨by rfl, ?_⟩) ?_
      rotate_left
      · (intro w; go_simp; try with_reducible rfl)
      try simp only [Act.put, List.setIfInBounds_toArray, List.set_cons_zero, List.set_cons_succ]
      refine wpAny_ready (rs := [14]) (by kernel_rfl) (by simp) ?_
      refine AllReady.cons rfl (fun K hK => ?_) AllReady.nil
      have cl := d2
      have fl := f2
      go_simp
      clear cl fl
      refine hK _ _ ?_
      clear hK K
      try simp only [Act.put, List.getElem_toArray, List.getElem_cons_succ, List.getElem_cons_zero, List.setIfInBounds_toArray, List.set_cons_zero, List.set_cons_succ]
      refine wpAny_done (by kernel_rfl) ?_ _
      have HF : Hid (Wh (wd.setCell ⟨g, 65 + k, none⟩ (.int .u64 ((z ||| b : Nat) : Int))) g D) := by
        have h2 := HW.out.set_slot (k := k) (x := z ||| b) (by have : z ||| b < 2 ^ 64 := Nat.or_lt_two_pow (by omega) (by omega)
                                                               omega)
        show Wh _ _ _
        rw [HX.out.2, setS]
        rw [HZ.out, HK.out, HB.out, HS2.out] at h2
        rw [HZ.out, HK.out, HB.out, HS2.out]
        exact h2
      have HGF : Hid (w.grownBy (wd.setCell ⟨g, 65 + k, none⟩ (.int .u64 ((z ||| b : Nat) : Int))) (some g)) := grown_trans HG2.out (grown_cell _ _ _ _)
      go_wp2
      go_ret
      exact ⟨by rw [HX.out.1]; rfl, HF, HGF.out⟩
end Go.Proofs.YteiadaonihgbfaaDoor
