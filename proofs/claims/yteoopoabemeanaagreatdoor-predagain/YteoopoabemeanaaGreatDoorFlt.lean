/- Whole numbers as floats of 64 bits: what their words read as, how they stand to each other, what whole numbers they are again. -/
import Derived.Laws.Cover2
import Derived.Laws.FloatArith
namespace Go.Proofs.YteoopoabemeanaaGreatDoor.Flt
open Ieee

theorem double_binade : double.binade = 2 ^ 52 := rfl
theorem double_inf : double.infRung = 2047 * 2 ^ 52 := rfl
theorem double_sign : double.signWeight = 2 ^ 63 := rfl
theorem double_least : double.leastPlace = -1074 := rfl

theorem cut_zero (neg : Bool) (n : Nat) : Toward.even.cut neg n 0 = n := by
  simp [Toward.cut, Nat.mod_one]

/-- The rung of a whole number that isn't 0. -/
def rung (m : Nat) : Nat := (1022 + m.log2) * 2 ^ 52 + m * 2 ^ (52 - m.log2)

theorem rung_lt (m : Nat) (hl : m.log2 ≤ 52) (b2 : m * 2 ^ (52 - m.log2) < 2 ^ 53) : rung m < 2047 * 2 ^ 52 := by
  unfold rung
  have : (1022 + m.log2) * 2 ^ 52 ≤ 1074 * 2 ^ 52 := Nat.mul_le_mul_right _ (by omega)
  omega

theorem nearest_word (neg : Bool) (m : Nat) (h0 : m ≠ 0) (hm : m < 2 ^ 53) : double.nearest neg m 0 = double.word neg (rung m) ∧ 2 ^ 52 ≤ m * 2 ^ (52 - m.log2) ∧ m * 2 ^ (52 - m.log2) < 2 ^ 53 := by
  have hlo : 2 ^ m.log2 ≤ m := Nat.log2_self_le h0
  have hhi : m < 2 ^ (m.log2 + 1) := Nat.lt_log2_self
  have hl : m.log2 ≤ 52 := by
    have : m.log2 < 53 := (Nat.log2_lt h0).2 hm
    omega
  have hp : 2 ^ m.log2 * 2 ^ (52 - m.log2) = 2 ^ 52 := by rw [← Nat.pow_add]; congr 1; omega
  have hp1 : 2 ^ (m.log2 + 1) * 2 ^ (52 - m.log2) = 2 ^ 53 := by rw [← Nat.pow_add]; congr 1; omega
  have hpos : 0 < 2 ^ (52 - m.log2) := Nat.pow_pos (by decide)
  have b1 : 2 ^ 52 ≤ m * 2 ^ (52 - m.log2) := by rw [← hp]; exact Nat.mul_le_mul_right _ hlo
  have b2 : m * 2 ^ (52 - m.log2) < 2 ^ 53 := by rw [← hp1]; exact Nat.mul_lt_mul_of_pos_right hhi hpos
  refine ⟨?_, b1, b2⟩
  unfold Format.nearest
  rw [if_neg h0]
  have e1 : max ((0 : Int) + (m.log2 : Int) - (double.fractionBits : Int)) double.leastPlace = (m.log2 : Int) - 52 := by
    rw [double_least]
    show max ((0 : Int) + (m.log2 : Int) - 52) (-1074) = _
    omega
  simp only [e1]
  have e2 : ((0 : Int) - ((m.log2 : Int) - 52)).toNat = 52 - m.log2 := by omega
  have e3 : ((m.log2 : Int) - 52 - 0).toNat = 0 := by omega
  rw [e2, e3, cut_zero, double_least, double_binade, double_inf, Nat.shiftLeft_eq]
  have e4 : ((m.log2 : Int) - 52 - (-1074)).toNat = 1022 + m.log2 := by omega
  rw [e4]
  have hmin := Nat.min_eq_left (Nat.le_of_lt (rung_lt m hl b2))
  unfold rung at hmin ⊢
  rw [hmin]

theorem read_word (neg : Bool) (r : Nat) (h1 : 2 ^ 52 ≤ r) (h2 : r < 2047 * 2 ^ 52) : double.read (double.word neg r) = .number neg (2 ^ 52 + r % 2 ^ 52) (-1074 + ((r / 2 ^ 52 - 1 : Nat) : Int)) := by
  have e1 : double.word neg r % double.signWeight = r := by
    unfold Format.word
    rw [double_sign]
    cases neg
    · simp; omega
    · simp; omega
  have e2 : (double.word neg r / double.signWeight % 2 == 1) = neg := by
    unfold Format.word
    rw [double_sign]
    cases neg
    · simp; omega
    · simp; omega
  unfold Format.read
  simp only [e1, e2]
  rw [if_neg (by rw [double_binade]; omega), if_pos (by rw [double_inf]; omega)]
  rfl

/-- What the word of a whole number reads as. -/
theorem read_whole (n : Int) (hn : n.natAbs < 2 ^ 53) : ∃ i : Nat, double.read (floatOfInt .f64 n) = .number (decide (n < 0)) (n.natAbs * 2 ^ i) (-(i : Int)) := by
  have hf : floatOfInt .f64 n = double.nearest (decide (n < 0)) n.natAbs 0 := rfl
  rw [hf]
  by_cases h0 : n.natAbs = 0
  · have hn0 : n = 0 := Int.natAbs_eq_zero.1 h0
    subst hn0
    obtain ⟨i, hi⟩ : ∃ i : Nat, i = 1074 := ⟨_, rfl⟩
    refine ⟨i, ?_⟩
    rw [show (0 : Int).natAbs = 0 from rfl, Nat.zero_mul, hi]
    rfl
  · obtain ⟨e, b1, b2⟩ := nearest_word (decide (n < 0)) n.natAbs h0 hn
    rw [e]
    clear e hf
    generalize n.natAbs = m at *
    have hl : m.log2 ≤ 52 := by
      have : m.log2 < 53 := (Nat.log2_lt h0).2 hn
      omega
    refine ⟨52 - m.log2, ?_⟩
    have hr : rung m < 2047 * 2 ^ 52 := by
      unfold rung
      have : (1022 + m.log2) * 2 ^ 52 ≤ 1074 * 2 ^ 52 := Nat.mul_le_mul_right _ (by omega)
      omega
    have hr2 : 2 ^ 52 ≤ rung m := by unfold rung; omega
    have hq : rung m / 2 ^ 52 = 1023 + m.log2 ∧ 2 ^ 52 + rung m % 2 ^ 52 = m * 2 ^ (52 - m.log2) := by
      unfold rung
      omega
    rw [read_word _ _ hr2 hr, hq.1, hq.2]
    congr 1
    omega

theorem shl (a i j : Nat) : (a * 2 ^ i) <<< j = a * 2 ^ (i + j) := by rw [Nat.shiftLeft_eq, Nat.mul_assoc, Nat.pow_add]

theorem signed_abs (n : Int) (i j : Nat) : signed (decide (n < 0)) (n.natAbs * 2 ^ i) j = n * 2 ^ (i + j) := by
  unfold signed
  rw [shl]
  by_cases h : n < 0
  · simp only [h, decide_true, if_true]
    have : ((n.natAbs * 2 ^ (i + j) : Nat) : Int) = -n * 2 ^ (i + j) := by
      rw [Int.natCast_mul, Int.natCast_pow]
      congr 1
      omega
    rw [this, Int.neg_mul, Int.neg_neg]
  · simp only [h, decide_false]
    have : ((n.natAbs * 2 ^ (i + j) : Nat) : Int) = n * 2 ^ (i + j) := by
      rw [Int.natCast_mul, Int.natCast_pow]
      congr 1
      omega
    simpa using this

/-- Floats of whole numbers stand as these do. -/
theorem order_whole (a b : Int) (ha : a.natAbs < 2 ^ 53) (hb : b.natAbs < 2 ^ 53) : double.order (floatOfInt .f64 a) (floatOfInt .f64 b) = some (compare a b) := by
  obtain ⟨i, hi⟩ := read_whole a ha
  obtain ⟨j, hj⟩ := read_whole b hb
  unfold Format.order
  rw [hi, hj]
  show some _ = some _
  congr 1
  rw [signed_abs, signed_abs]
  have e : ∃ k : Nat, i + (-(i : Int) - min (-(i : Int)) (-(j : Int))).toNat = k ∧ j + (-(j : Int) - min (-(i : Int)) (-(j : Int))).toNat = k := ⟨max i j, by omega, by omega⟩
  obtain ⟨k, e1, e2⟩ := e
  rw [e1, e2]
  have hp : (0 : Int) < 2 ^ k := Int.pow_pos (by decide)
  rcases Int.lt_trichotomy a b with h | h | h
  · rw [Int.compare_eq_lt.2 h, Int.compare_eq_lt.2 (Int.mul_lt_mul_of_pos_right h hp)]
  · subst h; simp
  · rw [Int.compare_eq_gt.2 h, Int.compare_eq_gt.2 (Int.mul_lt_mul_of_pos_right h hp)]

theorem order_self (a : Int) (ha : a.natAbs < 2 ^ 53) : double.order (floatOfInt .f64 a) (floatOfInt .f64 a) = some .eq := by
  rw [order_whole a a ha ha]; simp

end Go.Proofs.YteoopoabemeanaaGreatDoor.Flt
