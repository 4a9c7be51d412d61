/- grapevinelaw12: live. -/
import Derived.Test.YteiadaonihgbfaaDoorWh16
namespace Go.Proofs.YteiadaonihgbfaaDoor
open Go.RowKit

def l1 : St := setD (setD (setD (newS 0) 1 9) 2 5) 3 9
theorem l1_told : toldS l1 5 = [2] ∧ (idsS ((fellS l1 5).slots.getD 0 0)).length < 20 := by decide +kernel
def l2 : St := takenS (fellS l1 5) [2]
theorem l2_told : toldS l2 9 = [1, 3] ∧ (idsS ((fellS l2 9).slots.getD 0 0)).length < 20 ∧ l2.now = 5 ∧ l1.now = 0 := by decide +kernel
theorem set_ok : setE 1 9 = 0 ∧ setE 2 5 = 0 ∧ setE 3 9 = 0 := by decide
theorem Below.of_grown {B g : Nat} {w w1 w2 : World} (h : Below B w w1) (hg : w1.grownBy w2 (some g)) (hB : B ≤ g) (hs : B ≤ w1.heap.size) : Below B w w2 := h.trans ((Below.refl _ _).grown hg hs (fun k hk => by simp only [Option.some.injEq] at hk; omega))

set_option maxRecDepth 100000 in
set_option maxHeartbeats 4000000 in
theorem law_live12 (w : World) (hT : Tab w) (hw : 0 < w.heap.size) : Calls Tryd.prog 10 #[] w fun e w' => e = .returned (.bool true) ∧ Below w.heap.size w w' := by
  have HT : Hid (Tab w) := hT
  have HP : Hid (0 < w.heap.size) := hw
  obtain ⟨g, hg⟩ : ∃ g, g = w.heap.size := ⟨_, rfl⟩
  have HGE : Hid (g = w.heap.size) := hg
  have HG0 : Hid (g ≠ 0) := by show _ ≠ _; omega
  clear hT hw hg
  go_enter Tryd.func10, Tryd.ntmps10
  go_wp2_with fail
  refine (wh_New w 0).mono ?_
  rintro e w1 ⟨ht, hb1⟩
  rcases ht.out with ⟨h0, _⟩ | ⟨_, rfl, hw1⟩
  · exact absurd (by omega) h0
  rw [← HGE.out] at hw1
  have HW1 : Hid (Wh w1 g (newS 0)) := hw1
  have HB1 : Hid (Below w.heap.size w w1) := hb1
  rw [← HGE.out]
  clear ht hw1 hb1
  go_wp2_with fail
  refine (wh_Set w1 g (newS 0) 1 9 HW1.out).mono ?_
  rw [set_ok.1]
  rintro e w2 ⟨rfl, hw2, hg2⟩
  have HW2 : Hid (Wh w2 g (setD (newS 0) 1 9)) := hw2.out
  have HB2 : Hid (Below w.heap.size w w2) := Below.of_grown HB1.out hg2 (by rw [HGE.out]; exact Nat.le_refl _) HB1.out.size
  clear hw2 hg2
  go_wp2_with fail
  refine (wh_Set w2 g _ 2 5 HW2.out).mono ?_
  rw [set_ok.2.1]
  rintro e w3 ⟨rfl, hw3, hg3⟩
  have HW3 : Hid (Wh w3 g (setD (setD (newS 0) 1 9) 2 5)) := hw3.out
  have HB3 : Hid (Below w.heap.size w w3) := Below.of_grown HB2.out hg3 (by rw [HGE.out]; exact Nat.le_refl _) HB2.out.size
  clear hw3 hg3
  go_wp2_with fail
  refine (wh_Set w3 g _ 3 9 HW3.out).mono ?_
  rw [set_ok.2.2]
  rintro e w4 ⟨rfl, hw4, hg4⟩
  have HW4 : Hid (Wh w4 g l1) := hw4.out
  have HB4 : Hid (Below w.heap.size w w4) := Below.of_grown HB3.out hg4 (by rw [HGE.out]; exact Nat.le_refl _) HB3.out.size
  clear hw4 hg4
  have HA5 := wh_Advance w4 g l1 5 HW4.out (HT.out.below HP.out HB4.out) HG0.out (by rw [l2_told.2.2.2]; omega) (by omega) l1_told.2
  rw [l1_told.1, show (((5 : Nat)) : Int) = 5 from rfl] at HA5
  go_wp2_with fail
  refine HA5.mono ?_
  rintro e w5 ⟨v, rfl, hw5, ho5, hg5⟩
  clear HA5
  obtain ⟨a5, n5, c5, rfl⟩ := own_slice ho5.out
  have HW5 : Hid (Wh w5 g l2) := hw5.out
  have HO5 : Hid (w5.ownsRow w4.heap.size 3 1 (.slice a5 n5 c5) [2].length (vi [2])) := ho5.out
  have HB5 : Hid (Below w.heap.size w w5) := Below.of_grown HB4.out hg5 (by rw [HGE.out]; exact Nat.le_refl _) HB4.out.size
  have HGL : Hid (g < w4.heap.size) := HW4.out.blk.lt
  clear hw5 ho5 hg5
  have HA9 := wh_Advance w5 g l2 9 HW5.out (HT.out.below HP.out HB5.out) HG0.out (by rw [l2_told.2.2.1]; omega) (by omega) l2_told.2.1
  rw [l2_told.1, show (((9 : Nat)) : Int) = 9 from rfl] at HA9
  go_wp2_with fail
  refine HA9.mono ?_
  rintro e w6 ⟨v, rfl, _, ho6, hg6⟩
  clear HA9
  obtain ⟨a6, n6, c6, rfl⟩ := own_slice ho6.out
  have HR6 : Hid (IsRd w6 a6 n6 [1, 3]) := IsRd.of_own ho6.out
  have HR5 : Hid (IsRd w6 a5 n5 [2]) := IsRd.of_own (own_stay HO5.out (fun q hq => hg6.block q (HO5.out.lt q hq).2 (fun e => by have := (HO5.out.lt q hq).1; have := HGL.out; simp only [Option.some.injEq] at e; omega)))
  have HB6 : Hid (Below w.heap.size w w6) := Below.of_grown HB5.out hg6 (by rw [HGE.out]; exact Nat.le_refl _) HB5.out.size
  obtain rfl : n5 = 1 := HR5.out.size.symm
  obtain rfl : n6 = 2 := HR6.out.size.symm
  clear ho6 hg6
  obtain ⟨w7, HW7⟩ : ∃ w7, Hid (w7 = w6.alloc (.cells #[.int .i64 2] 3)) := ⟨_, rfl⟩
  have HB7 : Hid (Below w6.heap.size w6 w7) := by show Below _ _ _; rw [HW7.out]; exact below_alloc _ _
  have HK7 : Hid (Blk w7 w6.heap.size #[.int .i64 2] 3) := by show Blk _ _ _ _; rw [HW7.out]; exact Blk.new _ _ _
  have HR7 : Hid (IsRd w7 (some ⟨w6.heap.size, 0, none⟩) 1 [2]) := ⟨rfl, .inr ⟨_, rfl, HK7.out.lt, fun i hi => by
    obtain rfl : i = 0 := by omega
    exact HK7.out.cell 0 rfl⟩⟩
  go_wp2_with fail
  rw [← HW7.out]
  refine (ref_Same_alike w7 a5 (some ⟨w6.heap.size, 0, none⟩) 1 c5 1 [2] (HR5.out.below HB7.out) HR7.out (by omega)).mono ?_
  rintro e w8 ⟨rfl, m, hm⟩
  have HB8 : Hid (Below w6.heap.size w6 w8) := by show Below _ _ _; rw [hm]; exact below_drews HB7.out m
  clear hm
  obtain ⟨w9, HW9⟩ : ∃ w9, Hid (w9 = w8.alloc (.cells #[.int .i64 1, .int .i64 3] 3)) := ⟨_, rfl⟩
  have HB9 : Hid (Below w6.heap.size w6 w9) := by show Below _ _ _; rw [HW9.out]; exact HB8.out.trans ((below_alloc _ _).mono HB8.out.size)
  have HK9 : Hid (Blk w9 w8.heap.size #[.int .i64 1, .int .i64 3] 3) := by show Blk _ _ _ _; rw [HW9.out]; exact Blk.new _ _ _
  have HR9 : Hid (IsRd w9 (some ⟨w8.heap.size, 0, none⟩) 2 [1, 3]) := ⟨rfl, .inr ⟨_, rfl, HK9.out.lt, fun i hi => by
    rcases (show i = 0 ∨ i = 1 from by omega) with rfl | rfl
    · exact HK9.out.cell 0 rfl
    · exact HK9.out.cell 1 rfl⟩⟩
  go_wp2_with fail
  rw [← HW9.out]
  refine (ref_Same_alike w9 a6 (some ⟨w8.heap.size, 0, none⟩) 2 c6 2 [1, 3] (HR6.out.below HB9.out) HR9.out (by omega)).mono ?_
  rintro e w10 ⟨rfl, m, hm⟩
  have HF : Hid (Below w.heap.size w w10) := by show Below _ _ _; rw [hm]; exact HB6.out.trans ((below_drews HB9.out m).mono HB6.out.size)
  clear hm
  go_wp2
  go_ret
  exact ⟨rfl, HF.out⟩
end Go.Proofs.YteiadaonihgbfaaDoor
