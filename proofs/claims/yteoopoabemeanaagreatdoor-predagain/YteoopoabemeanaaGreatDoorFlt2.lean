/- Floats of whole numbers: made whole they are what they were; as integers they are the whole number again; math.Trunc of one. -/
import Derived.Test.YteoopoabemeanaaGreatDoorFlt
import Derived.Laws.Externs
import GoSem.Extern.MathFloor
namespace Go.Proofs.YteoopoabemeanaaGreatDoor.Flt
open Ieee

theorem cut_whole (neg : Bool) (m i : Nat) : Toward.zero.cut neg (m * 2 ^ i) i = m := by
  unfold Toward.cut
  by_cases h : m = 0
  · subst h
    simp
  · have h2 : m * 2 ^ i ≠ 0 := Nat.mul_ne_zero h (by have := Nat.pow_pos (n := i) (show 0 < 2 by decide); omega)
    have hl : i ≤ (m * 2 ^ i).log2 := by
      rw [Nat.le_log2 h2]
      exact Nat.le_mul_of_pos_left _ (by omega)
    have e : min i ((m * 2 ^ i).log2 + 2) = i := by omega
    simp only [e, Nat.shiftLeft_eq, Nat.one_mul]
    rw [Nat.mul_div_cancel _ (Nat.pow_pos (by decide))]
    rfl

theorem integral_whole (n : Int) (hn : n.natAbs < 2 ^ 53) : (double.read (floatOfInt .f64 n)).integral .zero = .number (decide (n < 0)) n.natAbs 0 := by
  obtain ⟨i, hi⟩ := read_whole n hn
  rw [hi]
  show Datum.number _ (Toward.zero.cut _ ((n.natAbs * 2 ^ i) <<< (-(i : Int)).toNat) (-(-(i : Int))).toNat) 0 = _
  have e1 : (-(i : Int)).toNat = 0 := by omega
  have e2 : (-(-(i : Int))).toNat = i := by omega
  rw [e1, e2, Nat.shiftLeft_zero, cut_whole]

theorem toInt_whole (n : Int) (hn : n.natAbs < 2 ^ 53) : floatToIntVal .f64 (floatOfInt .f64 n) .i64 = some n := by
  have e : (FloatKind.f64.decode (floatOfInt .f64 n)).toInt .zero = some n := by
    unfold Datum.toInt
    rw [show (FloatKind.f64.decode (floatOfInt .f64 n)).integral .zero = .number (decide (n < 0)) n.natAbs 0 from integral_whole n hn]
    have := signed_abs n 0 0
    simp only [Nat.pow_zero, Nat.mul_one, Nat.add_zero, Int.pow_zero, Int.mul_one] at this
    simp only [this]
  unfold floatToIntVal
  rw [e]
  have h1 : IntKind.i64.min = -9223372036854775808 := rfl
  have h2 : IntKind.i64.max = 9223372036854775807 := rfl
  simp only [h1, h2]
  rw [if_pos (by omega)]

theorem trunc_number {P : Program} (x : Nat) (s : Bool) (m : Nat) (i : Int) (hd : FloatKind.f64.decode x = .number s m i) (w : World) :
    (Extern.MathFloor.toIntegral "math.archTrunc" .zero #[.float .f64 x]).run P w = .ok (.float .f64 (FloatKind.f64.encode ((Datum.number s m i).integral .zero))) w := by
  delta Extern.MathFloor.toIntegral
  delta Extern.MathFloor.toIntegral.match_2
  delta Extern.MathFloor.toIntegral._sparseCasesOn_2 Extern.MathFloor.toIntegral._sparseCasesOn_3
  dsimp [Array.getLit]
  rw [hd]
  rfl

theorem trunc_whole {P : Program} (n : Int) (hn : n.natAbs < 2 ^ 53) (w : World) : (Extern.MathFloor.toIntegral "math.archTrunc" .zero #[.float .f64 (floatOfInt .f64 n)]).run P w = .ok (.float .f64 (floatOfInt .f64 n)) w := by
  obtain ⟨i, hi⟩ := read_whole n hn
  have hd : FloatKind.f64.decode (floatOfInt .f64 n) = .number (decide (n < 0)) (n.natAbs * 2 ^ i) (-(i : Int)) := hi
  have hw := integral_whole n hn
  rw [hi] at hw
  rw [trunc_number _ _ _ _ hd, hw]
  rfl
end Go.Proofs.YteoopoabemeanaaGreatDoor.Flt
