/- What lies in a range, what lies outside it, what is not known: as lists. -/
import Derived.Test.YtcgjpkdpemlmbaaSpHor
namespace Go.Proofs.Ytcgjpkdpemlmbaa

def partS (s : Sp) (f t : Int) : List Sp := if min s.to t < max s.fr f then [] else [⟨max s.fr f, min s.to t, s.is⟩]
theorem partS_none {s : Sp} {f t : Int} (h : min s.to t < max s.fr f) : partS s f t = [] := if_pos h
theorem partS_some {s : Sp} {f t : Int} (h : ¬ min s.to t < max s.fr f) : partS s f t = [⟨max s.fr f, min s.to t, s.is⟩] := if_neg h
def keepS : List Sp → Int → Int → List Sp
  | [], _, _ => []
  | s :: l, f, t => partS s f t ++ keepS l f t
def forgetS : List Sp → Int → Int → List Sp
  | [], _, _ => []
  | s :: l, f, t => partS s 1 (f - 1) ++ (partS s (t + 1) 1099511627776 ++ forgetS l f t)
def gapsS : Int → List Sp → Int → Int → List Sp
  | z, [], f, t => partS ⟨z, 1099511627776, 0⟩ f t
  | z, s :: l, f, t => partS ⟨z, s.fr - 1, 0⟩ f t ++ gapsS (s.to + 1) l f t

theorem keep_right : ∀ (l : List Sp) (p p' : Sp) (f t : Int), RightS p l → p'.to ≤ p.to → (p'.to = p.to → p'.is = p.is) → RightS p' (keepS l f t)
  | [], _, _, _, _, _, _, _ => trivial
  | s :: l, p, p', f, t, ⟨h1, h2, h3, h4, h5, h6, h7⟩, a, b => by
    rw [keepS]
    by_cases h : min s.to t < max s.fr f
    · rw [partS_none h]
      exact keep_right l s p' f t h7 (by omega) (fun e => by omega)
    · rw [partS_some h]
      refine ⟨by simp only; omega, by simp only; omega, by simp only; omega, h4, h5, ?_, keep_right l s _ f t h7 (by simp only; omega) (fun _ => rfl)⟩
      rintro ⟨e1, e2⟩
      simp only at e1 e2
      have : p'.to = p.to := by omega
      exact h6 ⟨by omega, by rw [e2, b this]⟩
theorem keep_at : ∀ (l : List Sp) (f t u : Int), atS (keepS l f t) u = if f ≤ u ∧ u ≤ t then atS l u else 0
  | [], f, t, u => by simp [keepS, atS]
  | s :: l, f, t, u => by
    rw [keepS]
    by_cases h : min s.to t < max s.fr f
    · rw [partS_none h, List.nil_append, keep_at l f t u, atS]
      split <;> rename_i h1
      · rw [if_neg (by omega)]
      · rfl
    · rw [partS_some h, List.cons_append, List.nil_append, atS, keep_at l f t u, atS]
      simp only
      by_cases h1 : f ≤ u ∧ u ≤ t
      · rw [if_pos h1, if_pos h1]
        by_cases h2 : s.fr ≤ u ∧ u ≤ s.to
        · rw [if_pos h2, if_pos (by omega)]
        · rw [if_neg h2, if_neg (by omega)]
      · rw [if_neg h1, if_neg h1, if_neg (by omega)]
theorem forget_right : ∀ (l : List Sp) (p p' : Sp) (f t : Int), f ≤ t → RightS p l → p'.to ≤ p.to → (p'.to = p.to → p'.is = p.is) → RightS p' (forgetS l f t)
  | [], _, _, _, _, _, _, _, _ => trivial
  | s :: l, p, p', f, t, hft, ⟨h1, h2, h3, h4, h5, h6, h7⟩, a, b => by
    rw [forgetS]
    by_cases h : min s.to (f - 1) < max s.fr 1
    · rw [partS_none h, List.nil_append]
      by_cases h' : min s.to 1099511627776 < max s.fr (t + 1)
      · rw [partS_none h', List.nil_append]
        exact forget_right l s p' f t hft h7 (by omega) (fun e => by omega)
      · rw [partS_some h', List.cons_append, List.nil_append]
        refine ⟨by simp only; omega, by simp only; omega, by simp only; omega, h4, h5, ?_, forget_right l s _ f t hft h7 (by simp only; omega) (fun _ => rfl)⟩
        rintro ⟨e1, e2⟩
        simp only at e1 e2
        have : p'.to = p.to := by omega
        exact h6 ⟨by omega, by rw [e2, b this]⟩
    · rw [partS_some h, List.cons_append, List.nil_append]
      refine ⟨by simp only; omega, by simp only; omega, by simp only; omega, h4, h5, ?_, ?_⟩
      · rintro ⟨e1, e2⟩
        simp only at e1 e2
        have : p'.to = p.to := by omega
        exact h6 ⟨by omega, by rw [e2, b this]⟩
      · by_cases h' : min s.to 1099511627776 < max s.fr (t + 1)
        · rw [partS_none h', List.nil_append]
          exact forget_right l s _ f t hft h7 (by simp only; omega) (fun _ => rfl)
        · rw [partS_some h', List.cons_append, List.nil_append]
          refine ⟨by simp only; omega, by simp only; omega, by simp only; omega, h4, h5, ?_, forget_right l s _ f t hft h7 (by simp only; omega) (fun _ => rfl)⟩
          rintro ⟨e1, e2⟩
          simp only at e1
          omega
theorem forget_at : ∀ (l : List Sp) (p : Sp) (f t u : Int), f ≤ t → 0 ≤ p.to → RightS p l → atS (forgetS l f t) u = if f ≤ u ∧ u ≤ t then 0 else atS l u
  | [], _, f, t, u, _, _, _ => by simp [forgetS, atS]
  | s :: l, p, f, t, u, hft, hp, ⟨h1, h2, h3, h4, h5, h6, h7⟩ => by
    have ih := forget_at l s f t u hft (by omega) h7
    rw [forgetS]
    by_cases hin : s.fr ≤ u ∧ u ≤ s.to
    · have hlow : atS l u = 0 := atS_low h7 (by omega)
      rw [hlow] at ih
      have ih0 : atS (forgetS l f t) u = 0 := by rw [ih]; split <;> rfl
      have e : atS (s :: l) u = s.is := by rw [atS, if_pos hin]
      rw [e]
      by_cases h : min s.to (f - 1) < max s.fr 1
      · rw [partS_none h, List.nil_append]
        by_cases h' : min s.to 1099511627776 < max s.fr (t + 1)
        · rw [partS_none h', List.nil_append, ih0, if_pos (by omega)]
        · rw [partS_some h', List.cons_append, List.nil_append, atS, ih0]
          simp only
          by_cases h9 : f ≤ u ∧ u ≤ t
          · rw [if_pos h9, if_neg (by omega)]
          · rw [if_neg h9, if_pos (by omega)]
      · rw [partS_some h, List.cons_append, List.nil_append, atS]
        simp only
        by_cases h8 : max s.fr 1 ≤ u ∧ u ≤ min s.to (f - 1)
        · rw [if_pos h8, if_neg (by omega)]
        · rw [if_neg h8]
          by_cases h' : min s.to 1099511627776 < max s.fr (t + 1)
          · rw [partS_none h', List.nil_append, ih0, if_pos (by omega)]
          · rw [partS_some h', List.cons_append, List.nil_append, atS, ih0]
            simp only
            by_cases h9 : f ≤ u ∧ u ≤ t
            · rw [if_pos h9, if_neg (by omega)]
            · rw [if_neg h9, if_pos (by omega)]
    · have e : atS (s :: l) u = atS l u := by rw [atS, if_neg hin]
      rw [e, ← ih]
      by_cases h : min s.to (f - 1) < max s.fr 1
      · rw [partS_none h, List.nil_append]
        by_cases h' : min s.to 1099511627776 < max s.fr (t + 1)
        · rw [partS_none h', List.nil_append]
        · rw [partS_some h', List.cons_append, List.nil_append, atS, if_neg (by simp only; omega)]
      · rw [partS_some h, List.cons_append, List.nil_append, atS, if_neg (by simp only; omega)]
        by_cases h' : min s.to 1099511627776 < max s.fr (t + 1)
        · rw [partS_none h', List.nil_append]
        · rw [partS_some h', List.cons_append, List.nil_append, atS, if_neg (by simp only; omega)]
theorem count_append : ∀ (l m : List Sp) (x : Int), countS (l ++ m) x = countS l x + countS m x
  | [], m, x => by simp [countS]
  | s :: l, m, x => by rw [List.cons_append, countS, countS, count_append l m x]; omega
theorem count_part (s : Sp) (f t x : Int) : countS (partS s f t) x = if s.is = x ∧ ¬ min s.to t < max s.fr f then min s.to t - max s.fr f + 1 else 0 := by
  by_cases h : min s.to t < max s.fr f
  · rw [partS_none h, if_neg (fun hh => hh.2 h)]; rfl
  · rw [partS_some h, countS, countS]
    simp only
    by_cases hx : s.is = x
    · rw [if_pos hx, if_pos ⟨hx, h⟩]; omega
    · rw [if_neg hx, if_neg (fun hh => hx hh.1)]; omega
theorem count_parts : ∀ (l : List Sp) (p : Sp) (f t x : Int), 1 ≤ f → f ≤ t → t ≤ 1099511627776 → 0 ≤ p.to → RightS p l → countS (keepS l f t) x + countS (forgetS l f t) x = countS l x
  | [], _, _, _, _, _, _, _, _, _ => by simp [keepS, forgetS, countS]
  | s :: l, p, f, t, x, hf, hft, ht, hp, ⟨h1, h2, h3, h4, h5, h6, h7⟩ => by
    have ih := count_parts l s f t x hf hft ht (by omega) h7
    rw [keepS, forgetS, count_append, count_append, count_append, count_part, count_part, count_part, countS]
    by_cases hx : s.is = x
    · rw [if_pos hx]
      simp only [hx, true_and]
      split <;> split <;> split <;> omega
    · rw [if_neg hx]
      simp only [hx, false_and, if_false]
      omega
theorem count_bound : ∀ (l : List Sp) (p : Sp) (x : Int), p.to ≤ 1099511627776 → RightS p l → 0 ≤ countS l x ∧ countS l x ≤ 1099511627776 - p.to
  | [], _, _, h, _ => by simp only [countS]; omega
  | s :: l, p, x, _, ⟨h1, h2, h3, h4, h5, h6, h7⟩ => by
    have ih := count_bound l s x h3 h7
    rw [countS]
    split <;> omega

/-- What gaps are: not known at both ends, and known just ahead of all but the first. -/
def GapsT (l0 : List Sp) : List Sp → Prop
  | [] => True
  | g :: r => (atS l0 g.fr = 0 ∧ atS l0 g.to = 0 ∧ 1 ≤ g.fr ∧ g.fr ≤ 1099511627776) ∧ atS l0 (g.fr - 1) ≠ 0 ∧ GapsT l0 r
def GapsF (l0 : List Sp) : List Sp → Prop
  | [] => True
  | g :: r => (atS l0 g.fr = 0 ∧ atS l0 g.to = 0 ∧ 1 ≤ g.fr ∧ g.fr ≤ 1099511627776) ∧ GapsT l0 r
theorem gaps_T (l0 : List Sp) (f : Int) : ∀ (l : List Sp) (p : Sp), RightS p l → 1 ≤ f → f ≤ p.to → atS l0 p.to ≠ 0 → (∀ u, p.to < u → atS l0 u = atS l u) → GapsT l0 (gapsS (p.to + 1) l f 1099511627776)
  | [], p, _, h1f, hf, hk, hu => by
    rw [gapsS]
    by_cases h : min (1099511627776 : Int) 1099511627776 < max (p.to + 1) f
    · rw [partS_none (by simpa using h)]; trivial
    · rw [partS_some (by simpa using h)]
      simp only
      refine ⟨⟨?_, ?_, by simp only; omega, by simp only; omega⟩, ?_, trivial⟩
      · simp only; rw [hu _ (by omega)]; rfl
      · simp only; rw [hu _ (by omega)]; rfl
      · simp only; rw [show max (p.to + 1) f - 1 = p.to from by omega]; exact hk
  | s :: l, p, ⟨h1, h2, h3, h4, h5, h6, h7⟩, h1f, hf, hk, hu => by
    have ht : GapsT l0 (gapsS (s.to + 1) l f 1099511627776) := gaps_T l0 f l s h7 h1f (by omega) (by rw [hu _ (by omega), atS, if_pos (by omega)]; omega) (fun u hh => by rw [hu u (by omega), atS, if_neg (by omega)])
    rw [gapsS]
    by_cases h : min (s.fr - 1) 1099511627776 < max (p.to + 1) f
    · rw [partS_none (by simpa using h)]; exact ht
    · rw [partS_some (by simpa using h)]
      simp only
      refine ⟨⟨?_, ?_, by simp only; omega, by simp only; omega⟩, ?_, ht⟩
      · simp only; rw [hu _ (by omega), atS, if_neg (by omega), atS_low h7 (by omega)]
      · simp only; rw [hu _ (by omega), atS, if_neg (by omega), atS_low h7 (by omega)]
      · simp only; rw [show max (p.to + 1) f - 1 = p.to from by omega]; exact hk
theorem gaps_F (l0 : List Sp) (f : Int) (hf1 : 1 ≤ f) (hf2 : f ≤ 1099511627776) : ∀ (l : List Sp) (p : Sp), RightS p l → 0 ≤ p.to → (∀ u, p.to < u → atS l0 u = atS l u) → GapsF l0 (gapsS (p.to + 1) l f 1099511627776)
  | [], p, _, hp, hu => by
    rw [gapsS]
    by_cases h : min (1099511627776 : Int) 1099511627776 < max (p.to + 1) f
    · rw [partS_none (by simpa using h)]; trivial
    · rw [partS_some (by simpa using h)]
      simp only
      refine ⟨⟨?_, ?_, by simp only; omega, by simp only; omega⟩, trivial⟩
      · simp only; rw [hu _ (by omega)]; rfl
      · simp only; rw [hu _ (by omega)]; rfl
  | s :: l, p, ⟨h1, h2, h3, h4, h5, h6, h7⟩, hp, hu => by
    have hs : ∀ u, s.to < u → atS l0 u = atS l u := fun u hh => by rw [hu u (by omega), atS, if_neg (by omega)]
    rw [gapsS]
    by_cases h : min (s.fr - 1) 1099511627776 < max (p.to + 1) f
    · rw [partS_none (by simpa using h)]
      exact gaps_F l0 f hf1 hf2 l s h7 (by omega) hs
    · rw [partS_some (by simpa using h)]
      simp only
      refine ⟨⟨?_, ?_, by simp only; omega, by simp only; omega⟩, gaps_T l0 f l s h7 hf1 (by omega) (by rw [hu _ (by omega), atS, if_pos (by omega)]; omega) hs⟩
      · simp only; rw [hu _ (by omega), atS, if_neg (by omega), atS_low h7 (by omega)]
      · simp only; rw [hu _ (by omega), atS, if_neg (by omega), atS_low h7 (by omega)]
/-- The tick of the first gap, or the one behind all. -/
def firstS : List Sp → Int
  | [] => 1099511627777
  | g :: _ => g.fr
theorem first_A (f : Int) : ∀ (l : List Sp) (p : Sp), RightS p l → f ≤ p.to + 1 → p.to ≤ 1099511627776 → horS l (p.to + 1) = firstS (gapsS (p.to + 1) l f 1099511627776)
  | [], p, _, hf, hm => by
    rw [gapsS, horS]
    by_cases h : min (1099511627776 : Int) 1099511627776 < max (p.to + 1) f
    · rw [partS_none (by simpa using h), firstS]; omega
    · rw [partS_some (by simpa using h), firstS]; simp only; omega
  | s :: l, p, ⟨h1, h2, h3, h4, h5, h6, h7⟩, hf, hm => by
    rw [gapsS, horS]
    by_cases h : min (s.fr - 1) 1099511627776 < max (p.to + 1) f
    · rw [partS_none (by simpa using h), List.nil_append, if_neg (by omega), first_A f l s h7 (by omega) h3]
    · rw [partS_some (by simpa using h), List.cons_append, firstS, if_pos (by omega)]; simp only; omega
theorem first_B (f : Int) (hf2 : f ≤ 1099511627776) : ∀ (l : List Sp) (p : Sp), RightS p l → p.to < f → horS (behindS l f) f = firstS (gapsS (p.to + 1) l f 1099511627776)
  | [], p, _, hf => by
    rw [gapsS, behindS, horS, partS_some (by simp only; omega), firstS]
    simp only; omega
  | s :: l, p, ⟨h1, h2, h3, h4, h5, h6, h7⟩, hf => by
    rw [gapsS, behindS]
    by_cases hs : s.to < f
    · rw [if_pos hs, partS_none (by simp only; omega), List.nil_append]
      exact first_B f hf2 l s h7 hs
    · rw [if_neg hs, horS]
      by_cases hh : f < s.fr
      · rw [if_pos hh, partS_some (by simp only; omega), List.cons_append, firstS]; simp only; omega
      · rw [if_neg hh, partS_none (by simp only; omega), List.nil_append]
        exact first_A f l s h7 (by omega) h3
end Go.Proofs.Ytcgjpkdpemlmbaa
