/- How many ticks are Data: at most as many as there are items; what is lost. -/
import Derived.Test.YtidihfhgnjkmaaaGreatRmQ
namespace Go.Proofs.YtidihfhgnjkmaaaGreat

/-- How many ticks are Data. -/
def dataN : List Sp → Int
  | [] => 0
  | s :: l => (if s.is = 1 then s.to - s.fr + 1 else 0) + dataN l
theorem part_len (f : It → Bool) : ∀ X : List It, (X.filter f).length + (X.filter fun q => !f q).length = X.length
  | [] => rfl
  | q :: X => by
    have := part_len f X
    rw [List.filter_cons, List.filter_cons]
    cases f q <;> simp <;> omega
theorem many_in : ∀ (n : Nat) (a : Int) (X : List It), (∀ u, a ≤ u → u < a + n → ∃ q ∈ X, q.tick = u) → n ≤ X.length
  | 0, _, _, _ => Nat.zero_le _
  | n + 1, a, X, h => by
    obtain ⟨q, hq, hqa⟩ := h a (by omega) (by omega)
    have ih := many_in n (a + 1) (X.filter fun q => !decide (q.tick = a)) fun u h1 h2 => by
      obtain ⟨r, hr, e⟩ := h u (by omega) (by omega)
      exact ⟨r, List.mem_filter.2 ⟨hr, by simp; omega⟩, e⟩
    have hp := part_len (fun q => decide (q.tick = a)) X
    have h1 : 0 < (X.filter fun q => decide (q.tick = a)).length := List.length_pos_of_mem (List.mem_filter.2 ⟨hq, by simp [hqa]⟩)
    omega
theorem data_few : ∀ (l : List Sp) (p : Sp), RightS p l → ∀ X : List It, (∀ u, atS l u = 1 → ∃ q ∈ X, q.tick = u) → dataN l ≤ X.length
  | [], _, _, X, _ => by simp [dataN]
  | s :: r, p, h, X, hX => by
    have hr : RightS s r := h.2.2.2.2.2.2
    obtain ⟨b1, b2, b3, b4, b5⟩ := right_each h (List.mem_cons_self ..)
    have hlow : ∀ u, u ≤ s.to → atS r u = 0 := fun u hu => atS_low hr hu
    have hat : ∀ u, atS (s :: r) u = if s.fr ≤ u ∧ u ≤ s.to then s.is else atS r u := fun u => rfl
    have i2 := data_few r s hr (X.filter fun q => !decide (q.tick ≤ s.to)) fun u hu => by
      have hgt : s.to < u := by
        by_cases h : s.to < u
        · exact h
        · have := hlow u (by omega)
          omega
      obtain ⟨q, hq, e⟩ := hX u (by rw [hat, if_neg (by omega)]; exact hu)
      exact ⟨q, List.mem_filter.2 ⟨hq, by simp; omega⟩, e⟩
    have hp := part_len (fun q => decide (q.tick ≤ s.to)) X
    rw [dataN]
    by_cases c : s.is = 1
    · rw [if_pos c]
      have i1 := many_in (s.to - s.fr + 1).toNat s.fr (X.filter fun q => decide (q.tick ≤ s.to)) fun u h1 h2 => by
        obtain ⟨q, hq, e⟩ := hX u (by rw [hat, if_pos (by omega)]; exact c)
        exact ⟨q, List.mem_filter.2 ⟨hq, by simp; omega⟩, e⟩
      omega
    · rw [if_neg c]
      omega
theorem dataN_pos : ∀ {l : List Sp} {p : Sp}, RightS p l → 0 ≤ dataN l
  | [], _, _ => Int.le_refl _
  | s :: r, p, h => by
    have := dataN_pos (l := r) (p := s) h.2.2.2.2.2.2
    obtain ⟨b1, b2, _⟩ := right_each h (List.mem_cons_self ..)
    rw [dataN]
    split <;> omega
theorem dataN_app : ∀ (l m : List Sp), dataN (l ++ m) = dataN l + dataN m
  | [], m => by simp [dataN]
  | s :: l, m => by rw [List.cons_append, dataN, dataN, dataN_app l m]; omega
/-- How far they are counted. -/
theorem dataN_step {l : List Sp} {i : Nat} {q : Sp} (h : RightS Sp.zr l) (hq : l[i]? = some q) : dataN (l.take (i + 1)) = dataN (l.take i) + (if q.is = 1 then q.to - q.fr + 1 else 0) ∧ 0 ≤ dataN (l.take i) ∧ dataN (l.take (i + 1)) ≤ dataN l := by
  have hi := (List.getElem?_eq_some_iff.1 hq)
  obtain ⟨hi1, hi2⟩ := hi
  have e1 : l.take (i + 1) = l.take i ++ [q] := by rw [List.take_add_one, hq]; rfl
  have e2 : l = l.take (i + 1) ++ l.drop (i + 1) := (List.take_append_drop _ _).symm
  have h2 : RightS Sp.zr (l.take (i + 1) ++ l.drop (i + 1)) := by rw [← e2]; exact h
  obtain ⟨r1, r2⟩ := RightS_split _ _ _ h2
  have r3 := (RightS_split (l.take i) [q] _ (by rw [← e1]; exact r1)).1
  have d1 := dataN_pos r2
  have d2 := dataN_pos r3
  have d3 : dataN l = dataN (l.take (i + 1)) + dataN (l.drop (i + 1)) := by rw [← dataN_app, ← e2]
  have d4 : dataN (l.take (i + 1)) = dataN (l.take i) + dataN [q] := by rw [e1, dataN_app]
  have d5 : dataN [q] = (if q.is = 1 then q.to - q.fr + 1 else 0) := by simp [dataN]
  exact ⟨by omega, d2, by omega⟩
/-- What is Data lies above what was lost. -/
theorem lose_data {L L1 : List Sp} {X : List It} {t : Int} (hK : Kn L1 (quietX L1 X)) (hl : Lost L t L1) {u : Int} (h : kk L1 (quietX L1 X) u = 1) : t < u := by
  unfold kk at h
  split at h
  · next hs =>
    obtain ⟨q, hq⟩ := Option.isSome_iff_exists.1 hs
    obtain ⟨e, hm⟩ := getI_tick hq
    have h0 := hK.off q hm
    have h1 := hK.each q hm
    rw [e, hl.at_ u] at h0
    rw [e] at h1
    unfold loseK at h0
    split at h0 <;> omega
  · exact absurd h (hK.quiet u)
theorem kk_data {L : List Sp} {X : List It} (hK : Kn L X) {u : Int} (h : kk L X u = 1) : ∃ q ∈ X, q.tick = u := by
  unfold kk at h
  split at h
  · next hs =>
    obtain ⟨q, hq⟩ := Option.isSome_iff_exists.1 hs
    obtain ⟨e, hm⟩ := getI_tick hq
    exact ⟨q, hm, e⟩
  · exact absurd h (hK.quiet u)
theorem lose_stays {L L1 : List Sp} {X : List It} {t : Int} (hK : Kn L X) (hl : Lost L t L1) {u : Int} (h : kk L X u = 2 ∨ kk L X u = 3) : kk L1 (quietX L1 X) u = kk L X u := by
  have hn : getI X u = none := by
    cases hg : getI X u with
    | none => rfl
    | some q =>
      unfold kk at h
      rw [hg] at h
      simp at h
  have hn1 : getI (quietX L1 X) u = none := by
    cases hg : getI (quietX L1 X) u with
    | none => rfl
    | some q =>
      obtain ⟨e, hm⟩ := getI_tick hg
      have hm2 := (List.mem_filter.1 hm).1
      have := getI_mem hK.rise hm2
      rw [e, hn] at this
      cases this
  have e1 : kk L X u = atS L u := by unfold kk; rw [hn]; rfl
  have e2 : kk L1 (quietX L1 X) u = atS L1 u := by unfold kk; rw [hn1]; rfl
  rw [e2, e1, hl.at_ u]
  rw [e1] at h
  unfold loseK
  split <;> omega
theorem lose_top {L L1 : List Sp} {X : List It} {t : Int} (hK : Kn L1 (quietX L1 X)) (hl : Lost L t L1) (ht : 1 ≤ t) : kk L1 (quietX L1 X) t = 3 ∨ kk L1 (quietX L1 X) t = 2 := by
  have hn : ¬ (getI (quietX L1 X) t).isSome = true := by
    intro hs
    obtain ⟨q, hq⟩ := Option.isSome_iff_exists.1 hs
    obtain ⟨e, hm⟩ := getI_tick hq
    have h0 := hK.off q hm
    rw [e, hl.at_ t] at h0
    unfold loseK at h0
    split at h0 <;> omega
  unfold kk
  rw [if_neg hn, hl.at_ t]
  unfold loseK
  split <;> omega
end Go.Proofs.YtidihfhgnjkmaaaGreat
