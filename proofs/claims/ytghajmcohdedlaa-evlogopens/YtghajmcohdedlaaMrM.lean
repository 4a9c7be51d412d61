/- Which sectors are whole. Plain mathematics. -/
import Derived.Test.YtghajmcohdedlaaMk2
namespace Go.Proofs.Ytghajmcohdedlaa

theorem key_be (l : List Nat) (h8 : l.length = 8) (hb : ∀ x ∈ l, x < 256) : KeyM.key (KeyM.be l) = l := by
  match l, h8 with
  | [a0, a1, a2, a3, a4, a5, a6, a7], _ =>
    have b0 := hb a0 (by simp)
    have b1 := hb a1 (by simp)
    have b2 := hb a2 (by simp)
    have b3 := hb a3 (by simp)
    have b4 := hb a4 (by simp)
    have b5 := hb a5 (by simp)
    have b6 := hb a6 (by simp)
    have b7 := hb a7 (by simp)
    simp only [KeyM.be, KeyM.key, List.foldl_cons, List.foldl_nil, List.cons.injEq, and_true]
    refine ⟨?_, ?_, ?_, ?_, ?_, ?_, ?_, ?_⟩ <;> omega
/-- The bytes of a number that is taken are just its key. -/
theorem key_taken (s : List Nat) (hb : ∀ x ∈ s, x < 256) (p : Nat) (hp : p + 8 ≤ s.length) : KeyM.key (KeyM.up (KeyM.take s (p : Int)).1) = (s.drop p).take 8 := by
  have hl : ((s.drop p).take 8).length = 8 := by rw [List.length_take, List.length_drop]; omega
  have hb8 : ∀ x ∈ (s.drop p).take 8, x < 256 := fun x hx => hb x (List.mem_of_mem_drop (List.mem_of_mem_take hx))
  have e : (KeyM.take s (p : Int)).1 = (KeyM.be ((s.drop p).take 8) : Int) - 9223372036854775808 := by
    unfold KeyM.take
    rw [if_neg (by omega), if_neg (by omega), Int.toNat_natCast]
  have u : KeyM.up (KeyM.take s (p : Int)).1 = KeyM.be ((s.drop p).take 8) := by rw [e]; unfold KeyM.up; omega
  rw [u]
  exact key_be _ hl hb8
theorem lay_parts (s : List Nat) (hs : Sec s) : s = s.getD 0 0 :: (KeyM.key (KeyM.up (KeyM.take s 1).1) ++ (KeyM.key (KeyM.up (KeyM.take s 9).1) ++ ((s.drop 17).take 46 ++ [s.getD 63 0]))) := by
  have hl := hs.len
  have k1 := key_taken s hs.byte 1 (by omega)
  have k9 := key_taken s hs.byte 9 (by omega)
  have e1 : KeyM.key (KeyM.up (KeyM.take s 1).1) = (s.drop 1).take 8 := k1
  have e9 : KeyM.key (KeyM.up (KeyM.take s 9).1) = (s.drop 9).take 8 := k9
  rw [e1, e9]
  have d0 : s = s.getD 0 0 :: s.drop 1 := by
    match s, hl with
    | a :: r, _ => rfl
  have d1 : s.drop 1 = (s.drop 1).take 8 ++ s.drop 9 := by
    have := (List.take_append_drop 8 (s.drop 1)).symm
    rwa [List.drop_drop] at this
  have d9 : s.drop 9 = (s.drop 9).take 8 ++ s.drop 17 := by
    have := (List.take_append_drop 8 (s.drop 9)).symm
    rwa [List.drop_drop] at this
  have d17 : s.drop 17 = (s.drop 17).take 46 ++ s.drop 63 := by
    have := (List.take_append_drop 46 (s.drop 17)).symm
    rwa [List.drop_drop] at this
  have d63 : s.drop 63 = [s.getD 63 0] := by
    rw [List.drop_eq_getElem_cons (by omega), List.drop_of_length_le (by omega), List.getD_eq_getElem?_getD, List.getElem?_eq_getElem (by omega)]
    rfl
  rw [← d63, ← d17, ← d9, ← d1]
  exact d0
/-- Which sectors are laid whole. -/
theorem whole_iff (s : List Nat) (hs : Sec s) : s = layB (s.getD 0 0) (KeyM.take s 1).1 (KeyM.take s 9).1 ↔ s.getD 0 0 = s.getD 63 0 ∧ ∀ j, 17 ≤ j → j < 63 → s.getD j 0 = 0 := by
  have hl := hs.len
  have hp := lay_parts s hs
  generalize hn : (KeyM.take s 1).1 = n at *
  generalize hv : (KeyM.take s 9).1 = v at *
  have hz : (s.drop 17).take 46 = List.replicate 46 0 ↔ ∀ j, 17 ≤ j → j < 63 → s.getD j 0 = 0 := by
    constructor
    · intro h j h1 h2
      have e : ((s.drop 17).take 46)[j - 17]? = s[j]? := by
        rw [List.getElem?_take_of_lt (by omega), List.getElem?_drop]
        congr 1
        omega
      rw [List.getD_eq_getElem?_getD, ← e, h, List.getElem?_replicate, if_pos (by omega)]
      rfl
    · intro h
      apply List.ext_getElem?
      intro j
      by_cases hj : j < 46
      · rw [List.getElem?_take_of_lt hj, List.getElem?_drop, List.getElem?_replicate, if_pos hj]
        have := h (17 + j) (by omega) (by omega)
        rw [List.getD_eq_getElem?_getD, List.getElem?_eq_getElem (by omega)] at this
        rw [List.getElem?_eq_getElem (by omega)]
        exact congrArg some this
      · rw [List.getElem?_eq_none (by rw [List.length_take, List.length_drop]; omega), List.getElem?_eq_none (by rw [List.length_replicate]; omega)]
  generalize h0 : s.getD 0 0 = x at *
  generalize h63 : s.getD 63 0 = y at *
  unfold layB
  constructor
  · intro h
    rw [h] at hp
    have h1 := (List.cons.inj hp).2
    have h2 := List.append_cancel_left h1
    have h3 := List.append_cancel_left h2
    have h4 := List.append_inj h3 (by rw [List.length_replicate, ← h, List.length_take, List.length_drop]; omega)
    refine ⟨by have := h4.2; simpa using this, ?_⟩
    rw [← hz]
    rw [← h] at h4
    exact h4.1.symm
  · rintro ⟨rfl, h2⟩
    rw [← hz] at h2
    rw [h2] at hp
    exact hp
/-- What bytes of a sector tell, whatever they are. -/
def wholeB (X : List Nat) : Int × Int := if X.length = 64 then readB X else (0, 0)
theorem whole_tell (er : Int) (s : List Nat) (h : er = 0 → Sec s) : wholeB (if er = 0 then s else []) = if er = 0 then readB s else (0, 0) := by
  by_cases h0 : er = 0
  · rw [if_pos h0, if_pos h0, wholeB, if_pos (h h0).len]
  · rw [if_neg h0, if_neg h0]
    rfl
end Go.Proofs.Ytghajmcohdedlaa
