/- Floats of whole numbers: their sum, their difference and their squares are floats of whole numbers. -/
import Derived.Test.YtnfeklebfnlgkaaGreatFlt2
namespace Go.Proofs.YtnfeklebfnlgkaaGreat.Flt
open Ieee

theorem cut_even (neg : Bool) (m i : Nat) : Toward.even.cut neg (m * 2 ^ i) i = m := by
  unfold Toward.cut
  by_cases h : m = 0
  · subst h
    simp
  · have h2 : m * 2 ^ i ≠ 0 := Nat.mul_ne_zero h (by have := Nat.pow_pos (n := i) (show 0 < 2 by decide); omega)
    have hl : i ≤ (m * 2 ^ i).log2 := by
      rw [Nat.le_log2 h2]
      exact Nat.le_mul_of_pos_left _ (by omega)
    have e : min i ((m * 2 ^ i).log2 + 2) = i := by omega
    have hp : 0 < 2 ^ i := Nat.pow_pos (by decide)
    simp only [e, Nat.shiftLeft_eq, Nat.one_mul]
    rw [Nat.mul_div_cancel _ hp, Nat.mul_mod_left]
    simp

theorem log2_scale (m i : Nat) (h0 : m ≠ 0) : (m * 2 ^ i).log2 = m.log2 + i := by
  have h2 : m * 2 ^ i ≠ 0 := Nat.mul_ne_zero h0 (by have := Nat.pow_pos (n := i) (show 0 < 2 by decide); omega)
  have h3 : m.log2 + i ≤ (m * 2 ^ i).log2 := by
    rw [Nat.le_log2 h2, Nat.pow_add]
    exact Nat.mul_le_mul_right _ (Nat.log2_self_le h0)
  have h4 : (m * 2 ^ i).log2 < m.log2 + i + 1 := by
    rw [Nat.log2_lt h2, show m.log2 + i + 1 = m.log2 + 1 + i from by omega, Nat.pow_add]
    exact Nat.mul_lt_mul_of_pos_right Nat.lt_log2_self (Nat.pow_pos (by decide))
  omega

/-- A whole number told by a finer place is written as the same word. -/
theorem nearest_scale (neg : Bool) (m i : Nat) (hm : m < 2 ^ 53) : double.nearest neg (m * 2 ^ i) (-(i : Int)) = double.nearest neg m 0 := by
  by_cases h0 : m = 0
  · subst h0
    rw [Nat.zero_mul]
    unfold Format.nearest
    rw [if_pos rfl, if_pos rfl]
  · have h2 : m * 2 ^ i ≠ 0 := Nat.mul_ne_zero h0 (by have := Nat.pow_pos (n := i) (show 0 < 2 by decide); omega)
    have hl : m.log2 ≤ 52 := by
      have : m.log2 < 53 := (Nat.log2_lt h0).2 hm
      omega
    unfold Format.nearest
    rw [if_neg h0, if_neg h2, log2_scale m i h0]
    have e1 : max (-(i : Int) + ((m.log2 + i : Nat) : Int) - (double.fractionBits : Int)) double.leastPlace = (m.log2 : Int) - 52 := by
      rw [double_least]
      show max (-(i : Int) + ((m.log2 + i : Nat) : Int) - 52) (-1074) = _
      omega
    have e1' : max ((0 : Int) + (m.log2 : Int) - (double.fractionBits : Int)) double.leastPlace = (m.log2 : Int) - 52 := by
      rw [double_least]
      show max ((0 : Int) + (m.log2 : Int) - 52) (-1074) = _
      omega
    simp only [e1, e1']
    have e2 : ((0 : Int) - ((m.log2 : Int) - 52)).toNat = 52 - m.log2 := by omega
    have e3 : ((m.log2 : Int) - 52 - 0).toNat = 0 := by omega
    rw [e2, e3, cut_zero]
    have key : Toward.even.cut neg ((m * 2 ^ i) <<< (-(i : Int) - ((m.log2 : Int) - 52)).toNat) ((m.log2 : Int) - 52 - -(i : Int)).toNat = m <<< (52 - m.log2) := by
      rw [Nat.shiftLeft_eq, Nat.shiftLeft_eq]
      by_cases hi : i ≤ 52 - m.log2
      · have e4 : ((m.log2 : Int) - 52 - -(i : Int)).toNat = 0 := by omega
        have e5 : (-(i : Int) - ((m.log2 : Int) - 52)).toNat = 52 - m.log2 - i := by omega
        rw [e4, e5, cut_zero, Nat.mul_assoc, ← Nat.pow_add]
        congr 2
        omega
      · have e4 : ((m.log2 : Int) - 52 - -(i : Int)).toNat = i - (52 - m.log2) := by omega
        have e5 : (-(i : Int) - ((m.log2 : Int) - 52)).toNat = 0 := by omega
        rw [e4, e5, Nat.pow_zero, Nat.mul_one]
        have e6 : m * 2 ^ i = m * 2 ^ (52 - m.log2) * 2 ^ (i - (52 - m.log2)) := by
          rw [Nat.mul_assoc, ← Nat.pow_add]
          congr 2
          omega
        rw [e6, cut_even]
    rw [key]

theorem scale_abs (n : Int) (k : Nat) : (n * 2 ^ k).natAbs = n.natAbs * 2 ^ k := by
  rw [Int.natAbs_mul, Int.natAbs_pow]
  rfl

theorem add_whole (a b : Int) (ha : a.natAbs < 2 ^ 53) (hb : b.natAbs < 2 ^ 53) (hc : (a + b).natAbs < 2 ^ 53) : floatBits .add .f64 (floatOfInt .f64 a) (floatOfInt .f64 b) = some (floatOfInt .f64 (a + b)) := by
  obtain ⟨i, hi⟩ := read_whole a ha
  obtain ⟨j, hj⟩ := read_whole b hb
  show double.add _ _ = _
  unfold Format.add
  rw [hi, hj]
  show some (double.nearest _ _ _) = some (double.nearest (decide (a + b < 0)) (a + b).natAbs 0)
  rw [signed_abs, signed_abs]
  obtain ⟨k, e1, e2, e3⟩ : ∃ k : Nat, i + (-(i : Int) - min (-(i : Int)) (-(j : Int))).toNat = k ∧ j + (-(j : Int) - min (-(i : Int)) (-(j : Int))).toNat = k ∧ min (-(i : Int)) (-(j : Int)) = -(k : Int) := ⟨max i j, by omega, by omega, by omega⟩
  rw [e1, e2, e3, ← Int.add_mul, scale_abs, nearest_scale _ _ _ hc]
  have hp : (0 : Int) < 2 ^ k := Int.pow_pos (by decide)
  congr 2
  by_cases h0 : a + b = 0
  · rw [h0, Int.zero_mul, if_pos rfl]
    by_cases h1 : a < 0
    · have : ¬ b < 0 := by omega
      simp [this]
    · simp [h1]
  · rw [if_neg (Int.mul_ne_zero h0 (by omega))]
    by_cases h1 : a + b < 0
    · have := Int.mul_neg_of_neg_of_pos h1 hp
      simp [h1, this]
    · have := Int.mul_pos (show 0 < a + b by omega) hp
      rw [decide_eq_false h1, decide_eq_false (by omega)]

theorem sub_whole (a b : Int) (ha : a.natAbs < 2 ^ 53) (hb : b.natAbs < 2 ^ 53) (hc : (a - b).natAbs < 2 ^ 53) : floatBits .sub .f64 (floatOfInt .f64 a) (floatOfInt .f64 b) = some (floatOfInt .f64 (a - b)) := by
  obtain ⟨i, hi⟩ := read_whole a ha
  obtain ⟨j, hj⟩ := read_whole b hb
  show double.sub _ _ = _
  unfold Format.sub
  rw [hi, hj]
  show some (double.nearest _ _ _) = some (double.nearest (decide (a - b < 0)) (a - b).natAbs 0)
  have hs : ∀ u, signed (!decide (b < 0)) (b.natAbs * 2 ^ j) u = -(b * 2 ^ (j + u)) := by
    intro u
    rw [← signed_abs]
    unfold signed
    by_cases h : b < 0 <;> simp [h]
  rw [signed_abs, hs]
  obtain ⟨k, e1, e2, e3⟩ : ∃ k : Nat, i + (-(i : Int) - min (-(i : Int)) (-(j : Int))).toNat = k ∧ j + (-(j : Int) - min (-(i : Int)) (-(j : Int))).toNat = k ∧ min (-(i : Int)) (-(j : Int)) = -(k : Int) := ⟨max i j, by omega, by omega, by omega⟩
  rw [e1, e2, e3, ← Int.sub_eq_add_neg, ← Int.sub_mul, scale_abs, nearest_scale _ _ _ hc]
  have hp : (0 : Int) < 2 ^ k := Int.pow_pos (by decide)
  congr 2
  by_cases h0 : a - b = 0
  · rw [h0, Int.zero_mul, if_pos rfl]
    have : a = b := by omega
    subst this
    by_cases h1 : a < 0 <;> simp [h1]
  · rw [if_neg (Int.mul_ne_zero h0 (by omega))]
    by_cases h1 : a - b < 0
    · have := Int.mul_neg_of_neg_of_pos h1 hp
      simp [h1, this]
    · have := Int.mul_pos (show 0 < a - b by omega) hp
      rw [decide_eq_false h1, decide_eq_false (by omega)]

theorem sq_nonneg (a : Int) : 0 ≤ a * a := by
  rcases Int.le_total 0 a with h | h
  · exact Int.mul_nonneg h h
  · exact Int.mul_nonneg_of_nonpos_of_nonpos h h

theorem sq_whole (a : Int) (ha : a.natAbs < 2 ^ 53) (hc : (a * a).natAbs < 2 ^ 53) : floatBits .mul .f64 (floatOfInt .f64 a) (floatOfInt .f64 a) = some (floatOfInt .f64 (a * a)) := by
  obtain ⟨i, hi⟩ := read_whole a ha
  show double.mul _ _ = _
  unfold Format.mul
  rw [hi]
  show some (double.nearest (decide (a < 0) ^^ decide (a < 0)) (a.natAbs * 2 ^ i * (a.natAbs * 2 ^ i)) (-(i : Int) + -(i : Int))) = some (double.nearest (decide (a * a < 0)) (a * a).natAbs 0)
  have e1 : a.natAbs * 2 ^ i * (a.natAbs * 2 ^ i) = (a * a).natAbs * 2 ^ (i + i) := by
    rw [Int.natAbs_mul, Nat.pow_add, Nat.mul_mul_mul_comm]
  have e2 : -(i : Int) + -(i : Int) = -((i + i : Nat) : Int) := by omega
  have e3 : decide (a * a < 0) = false := decide_eq_false (by have := sq_nonneg a; omega)
  rw [e1, e2, nearest_scale _ _ _ hc, e3, Bool.xor_self]
end Go.Proofs.YtnfeklebfnlgkaaGreat.Flt
