/- Cells: what a torn sector tells. Plain mathematics. -/
import Derived.Test.YthpjaidgacenoabMkBackM
namespace Go.Proofs.Ythpjaidgacenoab

theorem lay_ends (x : Nat) (n v : Int) : (layB x n v).getD 0 0 = x ∧ (layB x n v).getD 63 0 = x := by
  refine ⟨rfl, ?_⟩
  have e : layB x n v = (x :: (KeyM.key (KeyM.up n) ++ (KeyM.key (KeyM.up v) ++ List.replicate 46 0))) ++ [x] := by unfold layB; simp
  rw [e, List.getD_eq_getElem?_getD, List.getElem?_append_right (by simp [key_len])]
  simp [key_len]
/-- A sector that tells anything begins and ends with the same byte. -/
theorem read_ends (t : List Nat) (h : readB t ≠ (0, 0)) : t.getD 0 0 = t.getD 63 0 := by
  unfold readB at h
  split at h
  · rename_i hc
    have e := hc.2.2
    have h1 := (lay_ends (t.getD 0 0) (KeyM.take t 1).1 (KeyM.take t 9).1).2
    rw [← e] at h1
    exact h1.symm
  · exact absurd rfl h
/-- A sector whose write is torn tells what it told, nothing, or what was laid. -/
theorem torn_read (s : List Nat) (hs : Sec s) (n v : Int) (k : Nat) : readB ((layB (nextB s) n v).take k ++ s.drop k) = readB s ∨ readB ((layB (nextB s) n v).take k ++ s.drop k) = (0, 0) ∨ readB ((layB (nextB s) n v).take k ++ s.drop k) = readB (layB (nextB s) n v) := by
  have hL : (layB (nextB s) n v).length = 64 := by simp [layB, key_len]
  by_cases h0 : k = 0
  · subst h0
    left
    rw [List.take_zero, List.drop_zero, List.nil_append]
  by_cases h64 : 64 ≤ k
  · right; right
    rw [List.take_of_length_le (by rw [hL]; exact h64), List.drop_of_length_le (by rw [hs.len]; exact h64), List.append_nil]
  right; left
  by_cases hr : readB ((layB (nextB s) n v).take k ++ s.drop k) = (0, 0)
  · exact hr
  have he := read_ends _ hr
  have e1 : ((layB (nextB s) n v).take k ++ s.drop k).getD 0 0 = nextB s := by
    rw [List.getD_eq_getElem?_getD, List.getElem?_append_left (by rw [List.length_take, hL]; omega), List.getElem?_take_of_lt (by omega)]
    rfl
  have e2 : ((layB (nextB s) n v).take k ++ s.drop k).getD 63 0 = s.getD 63 0 := by
    rw [List.getD_eq_getElem?_getD, List.getElem?_append_right (by rw [List.length_take, hL]; omega), List.length_take, hL, List.getElem?_drop, List.getD_eq_getElem?_getD]
    congr 2
    omega
  rw [e1, e2] at he
  unfold nextB at he
  omega
/-- Where the other sector of a cell tells nothing, or what it told, the cell tells what it told. -/
theorem stand_torn (f s f' s' : Int × Int) (h0 : 0 ≤ f.1 ∧ 0 ≤ s.1) (h : if f.1 = 0 ∨ f.1 < s.1 then (s' = s ∧ (f' = f ∨ f' = (0, 0))) else (f' = f ∧ (s' = s ∨ s' = (0, 0)))) :
    (if f'.1 = 0 ∨ f'.1 < s'.1 then s' else f') = if f.1 = 0 ∨ f.1 < s.1 then s else f := by
  by_cases hc : f.1 = 0 ∨ f.1 < s.1
  · rw [if_pos hc] at h ⊢
    obtain ⟨rfl, rfl | rfl⟩ := h
    · rw [if_pos hc]
    · rw [if_pos (.inl rfl)]
  · rw [if_neg hc] at h ⊢
    obtain ⟨rfl, rfl | rfl⟩ := h
    · rw [if_neg hc]
    · rw [if_neg (by show ¬ (f'.1 = 0 ∨ f'.1 < 0); omega)]
end Go.Proofs.Ythpjaidgacenoab
