/- A set's numbers, rising. Plain mathematics. -/
import Derived.Test.YteiadaonihgbfaaDoorWhM
namespace Go.Proofs.YteiadaonihgbfaaDoor

def idsS (s : Nat) : List Nat := ((List.range 64).filter fun i => s.testBit i).map fun i => 1 + i
theorem ids_len (s : Nat) : (idsS s).length ≤ 64 := by
  rw [idsS, List.length_map]
  have := List.length_filter_le (fun i => s.testBit i) (List.range 64)
  rw [List.length_range] at this
  exact this
theorem ids_mem {s x : Nat} (h : x ∈ idsS s) : 1 ≤ x ∧ x ≤ 64 ∧ s.testBit (x - 1) = true := by
  rw [idsS, List.mem_map] at h
  obtain ⟨i, hi, rfl⟩ := h
  rw [List.mem_filter, List.mem_range] at hi
  exact ⟨by omega, by omega, by rw [show 1 + i - 1 = i from by omega]; exact hi.2⟩
theorem low_spec (s : Nat) (h0 : s ≠ 0) (h : s < 18446744073709551616) : ∃ m, s = 2 ^ Lib.ctz 64 s * (2 * m + 1) ∧ Lib.ctz 64 s < 64 := by
  have e : Lib.ctz 64 s = Lib.ctzFrom 64 s := by unfold Lib.ctz; rw [if_neg h0]
  rw [e]
  exact Lib.ctzFrom_spec 64 s (by omega) h
theorem and_pred (s k m : Nat) (h : s = 2 ^ k * (2 * m + 1)) : s &&& (s - 1) = 2 ^ (k + 1) * m := by
  have hp : 0 < 2 ^ k := Nat.two_pow_pos k
  have e1 : s - 1 = 2 ^ k * (2 * m) + (2 ^ k - 1) := by
    rw [h, Nat.mul_add, Nat.mul_one]; omega
  apply Nat.eq_of_testBit_eq
  intro i
  rw [Nat.testBit_and, e1, h, Nat.testBit_two_pow_mul, Nat.testBit_two_pow_mul_add _ (by omega), Nat.testBit_two_pow_mul]
  by_cases h1 : i < k
  · have a1 : ¬ i ≥ k := by omega
    have a2 : ¬ i ≥ k + 1 := by omega
    rw [decide_eq_false a1, decide_eq_false a2, Bool.false_and, Bool.false_and, Bool.false_and]
  · by_cases h2 : i = k
    · subst h2
      have a2 : ¬ i ≥ i + 1 := by omega
      rw [if_neg h1, decide_eq_false a2, Bool.false_and, Nat.sub_self]
      have a3 : (2 * m).testBit 0 = false := by rw [Nat.testBit_zero]; simp
      rw [a3, Bool.and_false]
    · obtain ⟨j, rfl⟩ : ∃ j, i = k + 1 + j := ⟨i - k - 1, by omega⟩
      have e3 : k + 1 + j - k = j + 1 := by omega
      have e4 : k + 1 + j - (k + 1) = j := by omega
      have e5 : (2 * m + 1) / 2 = m := by omega
      have e6 : 2 * m / 2 = m := by omega
      have a1 : k + 1 + j ≥ k := by omega
      have a2 : k + 1 + j ≥ k + 1 := by omega
      rw [if_neg h1, e3, e4, Nat.testBit_succ, Nat.testBit_succ, e5, e6, decide_eq_true a1, decide_eq_true a2, Bool.true_and, Bool.and_self]
theorem range_at (k : Nat) (hk : k < 64) : List.range 64 = List.range k ++ k :: (List.range (63 - k)).map fun j => k + (j + 1) := by
  have e : 64 = k + ((63 - k) + 1) := by omega
  rw [e, List.range_add, List.range_succ_eq_map, List.map_cons, List.map_map]
  have e2 : k + ((63 - k) + 1) - 1 - k = 63 - k := by omega
  simp only [Nat.add_zero]
  rfl
/-- A set that is not empty: the lowest one, and the others. -/
theorem ids_step (s : Nat) (h0 : s ≠ 0) (h : s < 18446744073709551616) : idsS s = (1 + Lib.ctz 64 s) :: idsS (s &&& (s - 1)) := by
  obtain ⟨m, hs, hk⟩ := low_spec s h0 h
  generalize Lib.ctz 64 s = k at hs hk
  have hb : ∀ i, s.testBit i = (decide (i ≥ k) && (2 * m + 1).testBit (i - k)) := fun i => by rw [hs, Nat.testBit_two_pow_mul]
  have hb' : ∀ i, (s &&& (s - 1)).testBit i = (decide (i ≥ k + 1) && m.testBit (i - (k + 1))) := fun i => by rw [and_pred s k m hs, Nat.testBit_two_pow_mul]
  have n1 : (List.range k).filter (fun i => s.testBit i) = [] := List.filter_eq_nil_iff.2 fun i hi => by
    have : i < k := List.mem_range.1 hi
    rw [hb i, decide_eq_false (by omega)]
    simp
  have n2 : (List.range k).filter (fun i => (s &&& (s - 1)).testBit i) = [] := List.filter_eq_nil_iff.2 fun i hi => by
    have : i < k := List.mem_range.1 hi
    rw [hb' i, decide_eq_false (by omega)]
    simp
  have k1 : s.testBit k = true := by rw [hb k, decide_eq_true (Nat.le_refl k), Nat.sub_self, Nat.testBit_zero]; simp
  have k2 : (s &&& (s - 1)).testBit k = false := by rw [hb' k, decide_eq_false (by omega)]; rfl
  have c : ((List.range (63 - k)).map fun j => k + (j + 1)).filter (fun i => s.testBit i) = ((List.range (63 - k)).map fun j => k + (j + 1)).filter (fun i => (s &&& (s - 1)).testBit i) := List.filter_congr fun i hi => by
    obtain ⟨j, _, rfl⟩ := List.mem_map.1 hi
    rw [hb, hb', show k + (j + 1) - k = j + 1 from by omega, show k + (j + 1) - (k + 1) = j from by omega, Nat.testBit_succ, show (2 * m + 1) / 2 = m from by omega, decide_eq_true (by omega), decide_eq_true (by omega)]
  rw [idsS, idsS, range_at k hk, List.filter_append, List.filter_append, n1, n2, List.nil_append, List.nil_append, List.filter_cons, List.filter_cons, if_pos k1, if_neg (by rw [k2]; decide), c, List.map_cons]
theorem ids_zero : idsS 0 = [] := by
  rw [idsS, List.filter_eq_nil_iff.2 (fun i _ => by simp)]
  rfl
theorem and_pred_lt (s : Nat) (h0 : s ≠ 0) : s &&& (s - 1) < s := Nat.lt_of_le_of_lt Nat.and_le_right (by omega)
end Go.Proofs.YteiadaonihgbfaaDoor
