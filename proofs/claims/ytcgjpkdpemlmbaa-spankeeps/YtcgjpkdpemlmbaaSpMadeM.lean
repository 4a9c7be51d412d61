/- The reference's map of two, tick by tick: numbers that rise, at which something may begin; between two of them all is known alike. -/
import Derived.Test.YtcgjpkdpemlmbaaSpPartM
namespace Go.Proofs.Ytcgjpkdpemlmbaa

/-- A list of numbers that rises above another one, up to the last tick. -/
def RiseI (p : Int) : List Int → Prop
  | [] => True
  | x :: l => p < x ∧ x ≤ 1099511627776 ∧ RiseI x l
/-- The first number of a list, or the one behind all ticks. -/
def nextI : List Int → Int
  | [] => 1099511627777
  | x :: _ => x
/-- A number more in a list that rises, once. -/
def insI : List Int → Int → List Int
  | [], n => [n]
  | x :: l, n => if n ≤ x then (if n < x then n :: x :: l else x :: l) else x :: insI l n
def putI (l : List Int) (n : Int) : List Int := if 1099511627776 < n then l else insI l n
theorem insI_mem : ∀ (l : List Int) (n x : Int), x ∈ insI l n ↔ x = n ∨ x ∈ l
  | [], n, x => by simp [insI]
  | y :: l, n, x => by
    rw [insI]
    split
    · split
      · simp
      · have : n = y := by omega
        subst this
        simp
    · simp only [List.mem_cons, insI_mem l n x]
      constructor
      · rintro (h | h | h)
        · exact .inr (.inl h)
        · exact .inl h
        · exact .inr (.inr h)
      · rintro (h | h | h)
        · exact .inr (.inl h)
        · exact .inl h
        · exact .inr (.inr h)
theorem insI_len : ∀ (l : List Int) (n : Int), (insI l n).length ≤ l.length + 1
  | [], n => by simp [insI]
  | y :: l, n => by
    rw [insI]
    split
    · split <;> simp
    · simp only [List.length_cons]
      have := insI_len l n
      omega
theorem insI_rise : ∀ (l : List Int) (p n : Int), RiseI p l → p < n → n ≤ 1099511627776 → RiseI p (insI l n)
  | [], p, n, _, h1, h2 => ⟨h1, h2, trivial⟩
  | y :: l, p, n, ⟨a1, a2, a3⟩, h1, h2 => by
    rw [insI]
    split
    · split
      · exact ⟨h1, h2, by omega, a2, a3⟩
      · exact ⟨a1, a2, a3⟩
    · exact ⟨a1, a2, insI_rise l y n a3 (by omega) h2⟩
theorem riseI_low : ∀ (l : List Int) (p x : Int), RiseI p l → x ∈ l → p < x ∧ x ≤ 1099511627776
  | y :: l, p, x, ⟨a1, a2, a3⟩, h => by
    rcases List.mem_cons.1 h with rfl | h
    · exact ⟨a1, a2⟩
    · have := riseI_low l y x a3 h
      omega
/-- The ticks at which something may begin. -/
structure EdgeI (E : List Int) : Prop where
  one : ∃ r, E = 1 :: r ∧ RiseI 1 r
theorem EdgeI.put {E : List Int} (h : EdgeI E) {n : Int} (hn : 1 ≤ n) : EdgeI (putI E n) := by
  obtain ⟨r, rfl, hr⟩ := h.one
  unfold putI
  split
  · exact ⟨r, rfl, hr⟩
  · rw [insI]
    split
    · rw [if_neg (by omega)]
      exact ⟨r, rfl, hr⟩
    · exact ⟨_, rfl, insI_rise r 1 n hr (by omega) (by omega)⟩
theorem EdgeI.rise {E : List Int} (h : EdgeI E) : RiseI 0 E := by
  obtain ⟨r, rfl, hr⟩ := h.one
  exact ⟨by omega, by omega, hr⟩
theorem putI_mem {l : List Int} {n x : Int} (h : x ∈ l) : x ∈ putI l n := by
  unfold putI
  split
  · exact h
  · exact (insI_mem l n x).2 (.inr h)
theorem putI_new (l : List Int) (n : Int) : n ∈ putI l n ∨ 1099511627776 < n := by
  unfold putI
  split
  · rename_i h; exact .inr h
  · exact .inl ((insI_mem l n n).2 (.inl rfl))
theorem putI_len (l : List Int) (n : Int) : (putI l n).length ≤ l.length + 1 := by
  unfold putI
  split
  · omega
  · exact insI_len l n
/-- Each span begins at one of them, and what is behind it does. -/
def CovS (E : List Int) (l : List Sp) : Prop := ∀ s ∈ l, s.fr ∈ E ∧ (s.to + 1 ∈ E ∨ 1099511627776 < s.to + 1)
theorem CovS.put {E : List Int} {l : List Sp} (h : CovS E l) (n : Int) : CovS (putI E n) l := fun s hs => ⟨putI_mem (h s hs).1, (h s hs).2.imp putI_mem id⟩
theorem CovS.snoc {E : List Int} {l : List Sp} (h : CovS E l) (s : Sp) (hs : s.fr ≤ 1099511627776) : CovS (putI (putI E s.fr) (s.to + 1)) (l ++ [s]) := by
  intro q hq
  rcases List.mem_append.1 hq with hq | hq
  · exact (h.put _).put _ q hq
  · obtain rfl : q = s := by simpa using hq
    refine ⟨putI_mem ((putI_new E q.fr).resolve_right (by omega)), putI_new _ _⟩
theorem riseI_gap : ∀ (E : List Int) (p : Int) (i : Nat) (t : Int) (r : List Int), RiseI p E → E.drop i = t :: r → p < t ∧ t ≤ 1099511627776 ∧ RiseI t r ∧ ∀ x ∈ E, x ≤ t ∨ nextI r ≤ x
  | [], p, i, t, r, _, h => by simp at h
  | y :: l, p, 0, t, r, ⟨a1, a2, a3⟩, h => by
    simp only [List.drop_zero, List.cons.injEq] at h
    obtain ⟨rfl, rfl⟩ := h
    refine ⟨a1, a2, a3, fun x hx => ?_⟩
    rcases List.mem_cons.1 hx with rfl | hx
    · exact .inl (Int.le_refl _)
    · right
      cases l with
      | nil => cases hx
      | cons z l =>
        rcases List.mem_cons.1 hx with rfl | hx
        · exact Int.le_refl _
        · have := riseI_low l z x a3.2.2 hx
          show z ≤ x
          omega
  | y :: l, p, i + 1, t, r, ⟨a1, a2, a3⟩, h => by
    rw [List.drop_succ_cons] at h
    obtain ⟨b1, b2, b3, b4⟩ := riseI_gap l y i t r a3 h
    refine ⟨by omega, b2, b3, fun x hx => ?_⟩
    rcases List.mem_cons.1 hx with rfl | hx
    · left; omega
    · exact b4 x hx
theorem nextI_le {r : List Int} {t : Int} (h : RiseI t r) (ht : t ≤ 1099511627776) : t < nextI r ∧ nextI r ≤ 1099511627777 := by
  cases r with
  | nil => exact ⟨by show t < 1099511627777; omega, Int.le_refl _⟩
  | cons x r => exact ⟨h.1, by show x ≤ 1099511627777; have := h.2.1; omega⟩
/-- Between two of them a map knows the same. -/
theorem flatS {E : List Int} {t : Int} {r : List Int} (hg : ∀ x ∈ E, x ≤ t ∨ nextI r ≤ x) (hn : nextI r ≤ 1099511627777) : ∀ (l : List Sp), CovS E l → ∀ u, t ≤ u → u < nextI r → atS l u = atS l t
  | [], _, _, _, _ => rfl
  | s :: l, hc, u, h1, h2 => by
    obtain ⟨c1, c2⟩ := hc s (by simp)
    have d1 := hg _ c1
    have d2 : s.to + 1 ≤ t ∨ nextI r ≤ s.to + 1 := by
      rcases c2 with c2 | c2
      · exact hg _ c2
      · right; omega
    rw [atS, atS]
    by_cases h : s.fr ≤ t ∧ t ≤ s.to
    · rw [if_pos h, if_pos (by omega)]
    · rw [if_neg h, if_neg (by omega)]
      exact flatS hg hn l (fun q hq => hc q (by simp [hq])) u h1 h2
/-- What a tick has of two maps. -/
def tellF (how : Int) (x y : Int) : Int :=
  if how = 0 then max x y else if how = 1 then (if y = 0 then 0 else x) else if how = 2 then (if y = 0 then x else 0) else (if y = 0 ∨ x ≠ 0 then 0 else 1)
theorem tellF_zero (how : Int) : tellF how 0 0 = 0 := by
  unfold tellF
  split
  · rfl
  · split
    · rfl
    · split
      · rfl
      · rfl
theorem tellF_range {how x y : Int} (hx : 0 ≤ x ∧ x ≤ 3) (hy : 0 ≤ y ∧ y ≤ 3) : 0 ≤ tellF how x y ∧ tellF how x y ≤ 3 := by
  unfold tellF
  split
  · omega
  · split
    · split <;> omega
    · split
      · split <;> omega
      · split <;> omega
/-- How far the map of two is made: up to a tick. -/
structure MadeS (F : Int → Int) (t : Int) (out : List Sp) : Prop where
  ro : RightS Sp.zr out
  lt : (lastS Sp.zr out).to < t
  eo : ∀ u, u < t → atS out u = F u
theorem MadeS.step {a b : List Sp} {how : Int} {E : List Int} {i : Nat} {t : Int} {r : List Int} {out out' : List Sp} (ha : RightS Sp.zr a) (hb : RightS Sp.zr b) (hE : EdgeI E) (ca : CovS E a) (cb : CovS E b)
    (h : MadeS (fun u => tellF how (atS a u) (atS b u)) t out) (hd : E.drop i = t :: r) (hl : layS out ⟨t, nextI r - 1, tellF how (atS a t) (atS b t)⟩ out') :
    MadeS (fun u => tellF how (atS a u) (atS b u)) (nextI r) out' := by
  obtain ⟨g1, g2, g3, g4⟩ := riseI_gap E 0 i t r hE.rise hd
  obtain ⟨n1, n2⟩ := nextI_le g3 g2
  obtain ⟨z1, z2, z3⟩ := layS_ok h.ro (by simpa using h.lt) (by simp only; omega) (by simp only; omega) (by simpa using tellF_range (atS_range ha t) (atS_range hb t)) hl
  simp only at z2 z3
  refine ⟨z1, by omega, fun u hu => ?_⟩
  rw [z3 u]
  split
  · rename_i hh
    show _ = tellF how (atS a u) (atS b u)
    rw [flatS g4 n2 a ca u hh.1 (by omega), flatS g4 n2 b cb u hh.1 (by omega)]
  · exact h.eo u (by omega)
theorem MadeS.start {a b : List Sp} {how : Int} (ha : RightS Sp.zr a) (hb : RightS Sp.zr b) : MadeS (fun u => tellF how (atS a u) (atS b u)) 1 [] :=
  ⟨trivial, by simp [lastS, Sp.zr], fun u hu => by
    have : u ≤ Sp.zr.to := by simp [Sp.zr]; omega
    show _ = tellF how (atS a u) (atS b u)
    rw [atS_low ha this, atS_low hb this, tellF_zero]; rfl⟩
theorem MadeS.done {a b : List Sp} {how : Int} {out : List Sp} (ha : RightS Sp.zr a) (hb : RightS Sp.zr b) (h : MadeS (fun u => tellF how (atS a u) (atS b u)) 1099511627777 out) : RightS Sp.zr out ∧ ∀ u, atS out u = tellF how (atS a u) (atS b u) := by
  refine ⟨h.ro, fun u => ?_⟩
  by_cases hu : u < 1099511627777
  · exact h.eo u hu
  · rw [(atS_last _ _ h.ro u (by have := h.lt; omega)).2, atS_high ha (by omega), atS_high hb (by omega), tellF_zero]
/-- The map of a range. -/
def rangeS (f t : Int) : List Sp := [⟨f, t, 1⟩]
theorem rangeS_right {f t : Int} (h1 : 1 ≤ f) (h2 : f ≤ t) (h3 : t ≤ 1099511627776) : RightS Sp.zr (rangeS f t) := ⟨by simp [Sp.zr]; omega, h2, h3, by simp, by simp, by simp [Sp.zr], trivial⟩
theorem rangeS_at (f t u : Int) : atS (rangeS f t) u = if f ≤ u ∧ u ≤ t then 1 else 0 := rfl
/-- A span of the same ticks, with something else known. -/
def Sp.as (k : Int) (s : Sp) : Sp := ⟨s.fr, s.to, k⟩
theorem gaps_right : ∀ (l : List Sp) (p q : Sp) (f t : Int), RightS p l → 0 ≤ p.to → p.to ≤ 1099511627776 → (q.to < p.to ∨ (q.to = p.to ∧ q.is = 0)) → RightS q ((gapsS (p.to + 1) l f t).map (Sp.as 1))
  | [], p, q, f, t, _, hp, hp2, hq => by
    rw [gapsS]
    by_cases h : min (1099511627776 : Int) t < max (p.to + 1) f
    · rw [partS_none (by simpa using h)]; trivial
    · rw [partS_some (by simpa using h)]
      refine ⟨?_, ?_, ?_, by simp [Sp.as], by simp [Sp.as], ?_, trivial⟩
      · simp only [Sp.as]; omega
      · simp only [Sp.as]; omega
      · simp only [Sp.as]; omega
      · simp only [Sp.as]; omega
  | s :: l, p, q, f, t, ⟨h1, h2, h3, h4, h5, h6, h7⟩, hp, hp2, hq => by
    rw [gapsS]
    by_cases h : min (s.fr - 1) t < max (p.to + 1) f
    · rw [partS_none (by simpa using h), List.nil_append]
      exact gaps_right l s q f t h7 (by omega) h3 (by omega)
    · rw [partS_some (by simpa using h), List.singleton_append, List.map_cons]
      refine ⟨?_, ?_, ?_, by simp [Sp.as], by simp [Sp.as], ?_, gaps_right l s _ f t h7 (by omega) h3 (.inl (by simp only [Sp.as]; omega))⟩
      · simp only [Sp.as]; omega
      · simp only [Sp.as]; omega
      · simp only [Sp.as]; omega
      · simp only [Sp.as]; omega
theorem atS_cons (f t k : Int) (l : List Sp) (u : Int) : atS (⟨f, t, k⟩ :: l) u = if f ≤ u ∧ u ≤ t then k else atS l u := rfl
theorem gaps_at : ∀ (l : List Sp) (p : Sp) (f t u : Int), RightS p l → atS ((gapsS (p.to + 1) l f t).map (Sp.as 1)) u = if (f ≤ u ∧ u ≤ t) ∧ p.to < u ∧ u ≤ 1099511627776 ∧ atS l u = 0 then 1 else 0
  | [], p, f, t, u, _ => by
    rw [gapsS]
    by_cases h : min (1099511627776 : Int) t < max (p.to + 1) f
    · rw [partS_none (by simpa using h), List.map_nil, atS, if_neg (by omega)]
    · rw [partS_some (by simpa using h), List.map_cons, List.map_nil]
      show atS [⟨max (p.to + 1) f, min 1099511627776 t, 1⟩] u = _
      have hz : atS [] u = 0 := rfl
      rw [atS_cons]
      by_cases hh : max (p.to + 1) f ≤ u ∧ u ≤ min 1099511627776 t
      · rw [if_pos hh, if_pos ⟨by omega, by omega, by omega, hz⟩]
      · rw [if_neg hh, if_neg (by omega), hz]
  | s :: l, p, f, t, u, ⟨h1, h2, h3, h4, h5, h6, h7⟩ => by
    have ih := gaps_at l s f t u h7
    have hat : atS (s :: l) u = if s.fr ≤ u ∧ u ≤ s.to then s.is else atS l u := rfl
    have hz : u ≤ s.to → atS l u = 0 := fun h => atS_low h7 h
    rw [gapsS]
    by_cases h : min (s.fr - 1) t < max (p.to + 1) f
    · rw [partS_none (by simpa using h), List.nil_append, ih, hat]
      by_cases hu : s.to < u
      · rw [if_neg (by omega : ¬ (s.fr ≤ u ∧ u ≤ s.to))]
        by_cases hh : (f ≤ u ∧ u ≤ t) ∧ s.to < u ∧ u ≤ 1099511627776 ∧ atS l u = 0
        · rw [if_pos hh, if_pos ⟨hh.1, by omega, hh.2.2⟩]
        · rw [if_neg hh, if_neg (fun g => hh ⟨g.1, hu, g.2.2⟩)]
      · rw [if_neg (fun g => hu g.2.1)]
        by_cases hv : s.fr ≤ u
        · rw [if_pos (⟨hv, by omega⟩ : s.fr ≤ u ∧ u ≤ s.to), if_neg (by omega)]
        · rw [if_neg (by omega : ¬ (s.fr ≤ u ∧ u ≤ s.to)), if_neg (by omega)]
    · rw [partS_some (by simpa using h), List.singleton_append, List.map_cons]
      show atS (⟨max (p.to + 1) f, min (s.fr - 1) t, 1⟩ :: _) u = _
      rw [atS_cons, ih, hat]
      by_cases hin : max (p.to + 1) f ≤ u ∧ u ≤ min (s.fr - 1) t
      · rw [if_pos hin, if_neg (by omega : ¬ (s.fr ≤ u ∧ u ≤ s.to)), hz (by omega), if_pos (by omega)]
      · rw [if_neg hin]
        by_cases hu : s.to < u
        · rw [if_neg (by omega : ¬ (s.fr ≤ u ∧ u ≤ s.to))]
          by_cases hh : (f ≤ u ∧ u ≤ t) ∧ s.to < u ∧ u ≤ 1099511627776 ∧ atS l u = 0
          · rw [if_pos hh, if_pos ⟨hh.1, by omega, hh.2.2⟩]
          · rw [if_neg hh, if_neg (fun g => hh ⟨g.1, hu, g.2.2⟩)]
        · rw [if_neg (fun g => hu g.2.1)]
          by_cases hv : s.fr ≤ u
          · rw [if_pos (⟨hv, by omega⟩ : s.fr ≤ u ∧ u ≤ s.to), if_neg (by omega)]
          · rw [if_neg (by omega : ¬ (s.fr ≤ u ∧ u ≤ s.to)), if_neg (by omega)]
theorem part_as (s : Sp) (f t : Int) (h : s.is = 0) : (partS s f t).map (Sp.as 0) = partS s f t := by
  unfold partS
  split
  · rfl
  · simp [Sp.as, h]
theorem gaps_as : ∀ (l : List Sp) (z f t : Int), (gapsS z l f t).map (Sp.as 0) = gapsS z l f t
  | [], z, f, t => part_as _ _ _ rfl
  | s :: l, z, f, t => by rw [gapsS, List.map_append, part_as _ _ _ rfl, gaps_as l]
theorem as_as (k : Int) (l : List Sp) : (l.map (Sp.as 1)).map (Sp.as k) = l.map (Sp.as k) := by
  rw [List.map_map]; rfl
/-- What is not known of a range, by the map of two. -/
theorem gaps_made {l m : List Sp} {f t : Int} (hl : RightS Sp.zr l) (h1 : 1 ≤ f) (h2 : f ≤ t) (h3 : t ≤ 1099511627776) (hm : RightS Sp.zr m) (ht : ∀ u, atS m u = tellF 3 (atS l u) (atS (rangeS f t) u)) : m.map (Sp.as 0) = gapsS 1 l f t := by
  have e : m = (gapsS 1 l f t).map (Sp.as 1) := by
    refine canonS _ _ _ Sp.zr hm (gaps_right l Sp.zr Sp.zr f t hl (by decide) (by decide) (.inr ⟨rfl, rfl⟩)) fun u => ?_
    have hg := gaps_at l Sp.zr f t u hl
    rw [show Sp.zr.to + 1 = (1 : Int) from rfl] at hg
    rw [ht u, rangeS_at, hg]
    unfold tellF
    rw [if_neg (by decide), if_neg (by decide), if_neg (by decide)]
    have hzt : Sp.zr.to = 0 := rfl
    by_cases hh : f ≤ u ∧ u ≤ t
    · rw [if_pos hh]
      by_cases hz : atS l u = 0
      · rw [if_neg (by simp [hz]), if_pos ⟨hh, by omega, by omega, hz⟩]
      · rw [if_pos (.inr hz), if_neg (fun g => hz g.2.2.2)]
    · rw [if_neg hh, if_pos (.inl rfl), if_neg (fun g => hh g.1)]
  rw [e, as_as, gaps_as]
end Go.Proofs.Ytcgjpkdpemlmbaa
