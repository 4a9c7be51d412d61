/- The plain mathematics of numbers as bytes, seven bits a byte: what is put, what is taken. It speaks of no program. -/
import Derived.WalkKit
namespace Go.Proofs.YtoijhlnadaipoaaDoor.Leb

/-- A number's bytes, at most so many behind the first one. -/
def put : Nat → Nat → List Nat
  | 0, n => [n]
  | j + 1, n => if n < 128 then [n] else (128 + n % 128) :: put j (n / 128)
/-- A number's bytes. -/
def leb (n : Nat) : List Nat := put 9 n

theorem put_small (j n : Nat) (h : n < 128) : put j n = [n] := by cases j <;> simp [put, h]
theorem put_big (j n : Nat) (h : 128 ≤ n) : put (j + 1) n = (128 + n % 128) :: put j (n / 128) := by simp [put, Nat.not_lt.2 h]

theorem put_length : ∀ (j n : Nat), 1 ≤ (put j n).length ∧ (put j n).length ≤ j + 1
  | 0, n => by simp [put]
  | j + 1, n => by
    by_cases h : n < 128
    · rw [put_small _ _ h]; simp
    · rw [put_big j n (by omega)]
      have := put_length j (n / 128)
      simp only [List.length_cons]
      omega

theorem put_byte : ∀ (j n : Nat), n < 2 * 128 ^ j → ∀ x ∈ put j n, x < 256
  | 0, n, hn, x, hx => by simp [put] at hx; omega
  | j + 1, n, hn, x, hx => by
    by_cases h : n < 128
    · rw [put_small _ _ h] at hx; simp at hx; omega
    · rw [put_big j n (by omega)] at hx
      rcases List.mem_cons.1 hx with rfl | hx
      · omega
      · refine put_byte j (n / 128) ?_ x hx
        rw [Nat.pow_succ] at hn
        omega

theorem leb_length (n : Nat) : 1 ≤ (leb n).length ∧ (leb n).length ≤ 10 := put_length 9 n
theorem leb_byte (n : Nat) (h : n < 18446744073709551616) : ∀ x ∈ leb n, x < 256 := put_byte 9 n (by simpa using h)

/-- What is taken at a place: the number, how many bytes it has, and the error (0: none). -/
def tk : Nat → Nat → List Nat → Nat × Nat × Nat
  | _, _, [] => (0, 0, 3)
  | i, n, c :: r =>
    if i = 9 ∧ 1 < c then (0, 0, 6)
    else if c < 128 then (if c = 0 ∧ 0 < i then (0, 0, 4) else (n + c * 128 ^ i, i + 1, 0))
    else tk (i + 1) (n + c % 128 * 128 ^ i) r

theorem tk_limit (i n c : Nat) (r : List Nat) (hi : i = 9) (hc : 1 < c) : tk i n (c :: r) = (0, 0, 6) := by simp [tk, hi, hc]
theorem tk_form (i n c : Nat) (r : List Nat) (h : ¬ (i = 9 ∧ 1 < c)) (h0 : c = 0) (hi : 0 < i) : tk i n (c :: r) = (0, 0, 4) := by subst h0; simp [tk, hi]
theorem tk_end (i n c : Nat) (r : List Nat) (h : ¬ (i = 9 ∧ 1 < c)) (hc : c < 128) (h0 : ¬ (c = 0 ∧ 0 < i)) : tk i n (c :: r) = (n + c * 128 ^ i, i + 1, 0) := by
  unfold tk; rw [if_neg h, if_pos hc, if_neg h0]
theorem tk_more (i n c : Nat) (r : List Nat) (h : ¬ (i = 9 ∧ 1 < c)) (hc : 128 ≤ c) : tk i n (c :: r) = tk (i + 1) (n + c % 128 * 128 ^ i) r := by
  conv => lhs; unfold tk
  rw [if_neg h, if_neg (by omega)]

/-- What was taken, with the place behind it. -/
def fin (p : Nat) (r : Nat × Nat × Nat) : Nat × Nat × Nat := (r.1, if r.2.2 = 0 then p + r.2.1 else 0, r.2.2)
/-- The number at a place, the place behind it, and the error. -/
def take (bs : List Nat) (x : Int) : Nat × Nat × Nat := if x < 0 ∨ (bs.length : Int) < x then (0, 0, 2) else fin x.toNat (tk 0 0 (bs.drop x.toNat))

end Go.Proofs.YtoijhlnadaipoaaDoor.Leb
