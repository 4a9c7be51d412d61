/- Numbers as eight bytes that stand in the numbers' order: plain mathematics. -/
import Derived.WalkKit
namespace Go.Proofs.Ytghajmcohdedlaa.KeyM

theorem split_xor (k r : Nat) : r = (r / 2 ^ k * 2 ^ k) ^^^ (r % 2 ^ k) := by
  apply Nat.eq_of_testBit_eq
  intro i
  rw [Nat.testBit_xor, Nat.testBit_mul_two_pow, Nat.testBit_mod_two_pow, Nat.testBit_div_two_pow]
  by_cases h : k ≤ i
  · have h2 : ¬ i < k := by omega
    simp [h, h2, show i - k + k = i from by omega]
  · have h2 : i < k := by omega
    simp [h, h2]

/-- The highest bit is turned. -/
theorem turn (y : Nat) (h : y < 18446744073709551616) : y ^^^ 9223372036854775808 = (y + 9223372036854775808) % 18446744073709551616 := by
  have add : ∀ z, z < 9223372036854775808 → z + 9223372036854775808 = 9223372036854775808 ^^^ z := by
    intro z hz
    have := split_xor 63 (z + 9223372036854775808)
    rw [show (z + 9223372036854775808) / 2 ^ 63 = 1 from by omega, show (z + 9223372036854775808) % 2 ^ 63 = z from by omega] at this
    simpa using this
  by_cases hs : y < 9223372036854775808
  · rw [Nat.xor_comm, ← add y hs]; omega
  · obtain ⟨z, rfl⟩ : ∃ z, y = z + 9223372036854775808 := ⟨y - 9223372036854775808, by omega⟩
    rw [add z (by omega), Nat.xor_comm 9223372036854775808 z, Nat.xor_assoc, Nat.xor_self, Nat.xor_zero, Nat.xor_comm, ← add z (by omega)]
    omega

/-- A number's eight bytes, the highest first. -/
def key (u : Nat) : List Nat := [u / 72057594037927936 % 256, u / 281474976710656 % 256, u / 1099511627776 % 256, u / 4294967296 % 256, u / 16777216 % 256, u / 65536 % 256, u / 256 % 256, u % 256]
/-- The number that is turned into a key. -/
def up (n : Int) : Nat := (n + 9223372036854775808).toNat
/-- The number that bytes make, the highest first. -/
def be (l : List Nat) : Nat := l.foldl (fun u c => 256 * u + c) 0

theorem key_byte (u : Nat) : ∀ x ∈ key u, x < 256 := by
  intro x hx
  simp only [key, List.mem_cons, List.not_mem_nil, or_false] at hx
  rcases hx with rfl | rfl | rfl | rfl | rfl | rfl | rfl | rfl <;> omega

theorem be_snoc (l : List Nat) (c : Nat) : be (l ++ [c]) = 256 * be l + c := by simp [be]

theorem be_lt (l : List Nat) (h : ∀ x ∈ l, x < 256) : be l < 256 ^ l.length := by
  unfold be
  have gen : ∀ (l : List Nat) (u k : Nat), (∀ x ∈ l, x < 256) → u < 256 ^ k → l.foldl (fun u c => 256 * u + c) u < 256 ^ (k + l.length) := by
    intro l
    induction l with
    | nil => intro u k _ hu; simpa using hu
    | cons c r ih =>
      intro u k hl hu
      have hc := hl c (by simp)
      have := ih (256 * u + c) (k + 1) (fun x hx => hl x (by simp [hx])) (by rw [Nat.pow_succ]; omega)
      rw [List.foldl_cons, List.length_cons, show k + (r.length + 1) = k + 1 + r.length from by omega]
      exact this
  have := gen l 0 0 h (by simp)
  simpa using this

theorem be_key (u : Nat) (h : u < 18446744073709551616) : be (key u) = u := by
  simp only [be, key, List.foldl_cons, List.foldl_nil]
  omega

/-- The number whose key stands at a place, the place behind it, and the error. -/
def take (bs : List Nat) (x : Int) : Int × Nat × Nat :=
  if x < 0 ∨ (bs.length : Int) < x then (0, 0, 2)
  else if (bs.length : Int) - x < 8 then (0, 0, 3)
  else ((be ((bs.drop x.toNat).take 8) : Int) - 9223372036854775808, x.toNat + 8, 0)

theorem take_key (n : Int) (hn : (-9223372036854775808 : Int) ≤ n ∧ n ≤ 9223372036854775807) (xs zs : List Nat) : take (xs ++ key (up n) ++ zs) (xs.length : Int) = (n, xs.length + 8, 0) := by
  have hl : (key (up n)).length = 8 := rfl
  have hu : up n < 18446744073709551616 := by unfold up; omega
  unfold take
  rw [if_neg (by simp only [List.length_append, hl]; omega), if_neg (by simp only [List.length_append, hl]; omega)]
  have hd : ((xs ++ key (up n) ++ zs).drop ((xs.length : Int)).toNat).take 8 = key (up n) := by
    rw [Int.toNat_natCast, List.append_assoc, List.drop_left, ← hl, List.take_left]
  rw [hd, be_key _ hu, Int.toNat_natCast]
  refine Prod.ext ?_ rfl
  show (up n : Int) - 9223372036854775808 = n
  unfold up
  omega

end Go.Proofs.Ytghajmcohdedlaa.KeyM
