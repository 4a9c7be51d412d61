/- What is cut short is told: plain mathematics of numbers and of bytes behind their length. -/
import Derived.Test.YtfmpfjpcigdeoabGreatDoorTexts
import Derived.Test.YtfmpfjpcigdeoabGreatDoorLebBack
namespace Go.Proofs.YtfmpfjpcigdeoabGreatDoor

namespace Leb
theorem tk_cut : ∀ (j i acc m k : Nat), i + j = 9 → m < 2 * 128 ^ j → k < (put j m).length → tk i acc ((put j m).take k) = (0, 0, 3)
  | j, i, acc, m, 0, _, _, _ => rfl
  | j, i, acc, m, k + 1, hij, hm, hk => by
    by_cases hs : m < 128
    · rw [put_small j m hs] at hk
      simp at hk
    · cases j with
      | zero => simp at hm; omega
      | succ j =>
        rw [put_big j m (by omega)] at hk ⊢
        rw [List.take_succ_cons, tk_more i acc (128 + m % 128) _ (by omega) (by omega)]
        exact tk_cut j (i + 1) _ (m / 128) k (by omega) (by rw [Nat.pow_succ] at hm; omega) (by simpa using hk)
theorem take_cut (n : Nat) (hn : n < 18446744073709551616) (xs : List Nat) (k : Nat) (hk : k < (leb n).length) : take (xs ++ (leb n).take k) (xs.length : Int) = (0, 0, 3) := by
  unfold take
  rw [if_neg (by simp; omega)]
  have hd : (xs ++ (leb n).take k).drop ((xs.length : Int)).toNat = (leb n).take k := by simp
  rw [hd]
  unfold leb at hk ⊢
  rw [tk_cut 9 0 0 n k rfl (by simpa using hn) hk]
  rfl
end Leb

/-- A length and its bytes, cut short. -/
theorem range_cut (b xs : List Nat) (limit k : Nat) (hb : b.length ≤ limit) (hl : limit ≤ 100000) (hk : k < (Leb.leb b.length ++ b).length) : range (xs ++ (Leb.leb b.length ++ b).take k) (xs.length : Int) limit = (0, 0, 3) := by
  rw [range_def]
  by_cases h : k < (Leb.leb b.length).length
  · rw [List.take_append_of_le_length (by omega), Leb.take_cut b.length (by omega) xs k h]
    rfl
  · have e : (Leb.leb b.length ++ b).take k = Leb.leb b.length ++ b.take (k - (Leb.leb b.length).length) := by
      rw [List.take_append, List.take_of_length_le (by omega)]
    rw [e, ← List.append_assoc, Leb.take_put b.length (by omega) xs _]
    simp only [rng]
    rw [if_neg (by omega), if_pos ?_]
    simp only [List.length_append, List.length_take] at hk ⊢
    omega

end Go.Proofs.YtfmpfjpcigdeoabGreatDoor
