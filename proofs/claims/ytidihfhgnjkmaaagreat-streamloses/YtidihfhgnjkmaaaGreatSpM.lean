/- Maps of ticks as lists of spans: what is known of a tick, which lists are right; two right lists that know the same are the same. -/
import Derived.KernelRfl
namespace Go.Proofs.YtidihfhgnjkmaaaGreat

structure Sp where
  fr : Int
  to : Int
  is : Int

/-- What a list knows of a tick. -/
def atS : List Sp → Int → Int
  | [], _ => 0
  | s :: l, t => if s.fr ≤ t ∧ t ≤ s.to then s.is else atS l t

/-- A list is right behind a span. -/
def RightS (p : Sp) : List Sp → Prop
  | [] => True
  | s :: l => p.to < s.fr ∧ s.fr ≤ s.to ∧ s.to ≤ 1099511627776 ∧ 1 ≤ s.is ∧ s.is ≤ 3 ∧ ¬ (s.fr = p.to + 1 ∧ s.is = p.is) ∧ RightS s l
def Sp.zr : Sp := ⟨0, 0, 0⟩
/-- The last span of a list, or the one ahead of it. -/
def lastS (p : Sp) : List Sp → Sp
  | [] => p
  | s :: l => lastS s l

theorem atS_low {l : List Sp} : ∀ {p : Sp}, RightS p l → ∀ {t : Int}, t ≤ p.to → atS l t = 0 := by
  induction l with
  | nil => intros; rfl
  | cons s l ih =>
    intro p h t ht
    obtain ⟨h1, h2, h3, h4, h5, h6, h7⟩ := h
    rw [atS, if_neg (by omega)]
    exact ih h7 (by omega)
theorem atS_high {l : List Sp} : ∀ {p : Sp}, RightS p l → ∀ {t : Int}, 1099511627776 < t → atS l t = 0 := by
  induction l with
  | nil => intros; rfl
  | cons s l ih =>
    intro p h t ht
    obtain ⟨h1, h2, h3, h4, h5, h6, h7⟩ := h
    rw [atS, if_neg (by omega)]
    exact ih h7 ht
theorem atS_range {l : List Sp} : ∀ {p : Sp}, RightS p l → ∀ (t : Int), 0 ≤ atS l t ∧ atS l t ≤ 3 := by
  induction l with
  | nil => intros; simp [atS]
  | cons s l ih =>
    intro p h t
    obtain ⟨h1, h2, h3, h4, h5, h6, h7⟩ := h
    rw [atS]
    split
    · omega
    · exact ih h7 t
theorem atS_next {l : List Sp} {p : Sp} (h : RightS p l) (hp : p.is ≠ 0) : atS l (p.to + 1) ≠ p.is := by
  cases l with
  | nil => exact fun e => hp e.symm
  | cons s l =>
    obtain ⟨h1, h2, h3, h4, h5, h6, h7⟩ := h
    rw [atS]
    split
    · rename_i hh
      intro e
      exact h6 ⟨by omega, e⟩
    · rw [atS_low h7 (by omega)]
      exact fun e => hp e.symm
theorem RightS.cast {l : List Sp} {p p' : Sp} (h : RightS p l) (h1 : p'.to ≤ p.to) (h2 : p'.to = p.to → p'.is = p.is) : RightS p' l := by
  cases l with
  | nil => trivial
  | cons s l =>
    obtain ⟨a1, a2, a3, a4, a5, a6, a7⟩ := h
    refine ⟨by omega, a2, a3, a4, a5, ?_, a7⟩
    rintro ⟨e1, e2⟩
    have : p'.to = p.to := by omega
    exact a6 ⟨by omega, by rw [e2, h2 this]⟩
/-- Two right lists that know the same of each tick are the same. -/
theorem canonS : ∀ (l m : List Sp) (p q : Sp), RightS p l → RightS q m → (∀ t, atS l t = atS m t) → l = m
  | [], [], _, _, _, _, _ => rfl
  | [], s :: m, _, _, _, hm, h => by
    obtain ⟨h1, h2, h3, h4, h5, h6, h7⟩ := hm
    have := h s.fr
    rw [atS, atS, if_pos (by omega)] at this
    omega
  | s :: l, [], _, _, hl, _, h => by
    obtain ⟨h1, h2, h3, h4, h5, h6, h7⟩ := hl
    have := h s.fr
    rw [atS, atS, if_pos (by omega)] at this
    omega
  | s :: l, r :: m, p, q, hl, hm, h => by
    obtain ⟨a1, a2, a3, a4, a5, a6, a7⟩ := hl
    obtain ⟨b1, b2, b3, b4, b5, b6, b7⟩ := hm
    have ef : s.fr = r.fr := by
      rcases Int.lt_trichotomy s.fr r.fr with hh | hh | hh
      · have := h s.fr
        rw [atS, atS, if_pos (by omega), if_neg (by omega), atS_low b7 (by omega)] at this
        omega
      · exact hh
      · have := h r.fr
        rw [atS, atS, if_neg (by omega), if_pos (by omega), atS_low a7 (by omega)] at this
        omega
    have ei : s.is = r.is := by
      have := h s.fr
      rw [atS, atS, if_pos (by omega), if_pos (by omega)] at this
      exact this
    have et : s.to = r.to := by
      rcases Int.lt_trichotomy s.to r.to with hh | hh | hh
      · have := h (s.to + 1)
        rw [atS, atS, if_neg (by omega), if_pos (by omega)] at this
        exact absurd (this.trans ei.symm) (atS_next a7 (by omega))
      · exact hh
      · have := h (r.to + 1)
        rw [atS, atS, if_pos (by omega), if_neg (by omega)] at this
        exact absurd (this.symm.trans ei) (atS_next b7 (by omega))
    have es : s = r := by
      cases s; cases r
      simp_all
    subst es
    rw [canonS l m s s a7 b7 fun t => ?_]
    by_cases ht : t ≤ s.to
    · rw [atS_low a7 ht, atS_low b7 ht]
    · have := h t
      rw [atS, atS, if_neg (by omega), if_neg (by omega)] at this
      exact this

theorem atS_append : ∀ (l m : List Sp) (p : Sp), RightS p l → ∀ t, atS (l ++ m) t = if atS l t = 0 then atS m t else atS l t
  | [], m, _, _, t => by simp [atS]
  | s :: l, m, p, h, t => by
    obtain ⟨h1, h2, h3, h4, h5, h6, h7⟩ := h
    rw [List.cons_append, atS, atS]
    split
    · rw [if_neg (by omega)]
    · exact atS_append l m s h7 t
theorem lastS_append : ∀ (l : List Sp) (s p : Sp), lastS p (l ++ [s]) = s
  | [], _, _ => rfl
  | _ :: l, s, _ => lastS_append l s _
theorem RightS_snoc : ∀ (l : List Sp) (s p : Sp), RightS p l → RightS (lastS p l) [s] → RightS p (l ++ [s])
  | [], _, _, _, h => h
  | _ :: l, s, _, ⟨h1, h2, h3, h4, h5, h6, h7⟩, h => ⟨h1, h2, h3, h4, h5, h6, RightS_snoc l s _ h7 h⟩
theorem RightS_init : ∀ (l : List Sp) (s p : Sp), RightS p (l ++ [s]) → RightS p l ∧ RightS (lastS p l) [s]
  | [], _, _, h => ⟨trivial, h⟩
  | _ :: l, s, _, ⟨h1, h2, h3, h4, h5, h6, h7⟩ => ⟨⟨h1, h2, h3, h4, h5, h6, (RightS_init l s _ h7).1⟩, (RightS_init l s _ h7).2⟩
theorem RightS_split : ∀ (l m : List Sp) (p : Sp), RightS p (l ++ m) → RightS p l ∧ RightS (lastS p l) m
  | [], _, _, h => ⟨trivial, h⟩
  | _ :: l, m, _, ⟨h1, h2, h3, h4, h5, h6, h7⟩ => ⟨⟨h1, h2, h3, h4, h5, h6, (RightS_split l m _ h7).1⟩, (RightS_split l m _ h7).2⟩
theorem atS_last : ∀ (l : List Sp) (p : Sp), RightS p l → ∀ t, (lastS p l).to < t → p.to < t ∧ atS l t = 0
  | [], _, _, t, h => ⟨h, rfl⟩
  | s :: l, p, ⟨h1, h2, h3, h4, h5, h6, h7⟩, t, h => by
    obtain ⟨a, b⟩ := atS_last l s h7 t h
    refine ⟨by omega, ?_⟩
    rw [atS, if_neg (by omega), b]
/-- How many spans a right list can have. -/
theorem RightS_len : ∀ (l : List Sp) (p : Sp), RightS p l → p.to + l.length ≤ (lastS p l).to ∧ (l ≠ [] → (lastS p l).to ≤ 1099511627776)
  | [], p, _ => ⟨by simp [lastS], fun h => absurd rfl h⟩
  | s :: l, p, ⟨h1, h2, h3, h4, h5, h6, h7⟩ => by
    obtain ⟨a, b⟩ := RightS_len l s h7
    refine ⟨by rw [lastS, List.length_cons]; omega, fun _ => ?_⟩
    rw [lastS]
    by_cases h0 : l = []
    · subst h0; exact h3
    · exact b h0

/-- A span behind a list's end, as a right one has it. -/
def layS (l : List Sp) (s : Sp) (l' : List Sp) : Prop :=
  (s.is = 0 ∧ l' = l) ∨ (s.is ≠ 0 ∧ ∃ i q, l = i ++ [q] ∧ s.fr = q.to + 1 ∧ s.is = q.is ∧ l' = i ++ [⟨q.fr, s.to, q.is⟩]) ∨
  (s.is ≠ 0 ∧ (∀ i q, l = i ++ [q] → ¬ (s.fr = q.to + 1 ∧ s.is = q.is)) ∧ l' = l ++ [s])
theorem snocS (l : List Sp) : l = [] ∨ ∃ i q, l = i ++ [q] := by
  rcases List.eq_nil_or_concat l with h | ⟨i, q, h⟩
  · exact .inl h
  · exact .inr ⟨i, q, by simpa using h⟩
theorem layS_ok {l l' : List Sp} {s : Sp} (hl : RightS Sp.zr l) (h0 : (lastS Sp.zr l).to < s.fr) (h1 : s.fr ≤ s.to) (h2 : s.to ≤ 1099511627776) (h3 : 0 ≤ s.is ∧ s.is ≤ 3) (h : layS l s l') :
    RightS Sp.zr l' ∧ (lastS Sp.zr l').to ≤ s.to ∧ ∀ t, atS l' t = if s.fr ≤ t ∧ t ≤ s.to then s.is else atS l t := by
  rcases h with ⟨e, rfl⟩ | ⟨e, i, q, rfl, e1, e2, rfl⟩ | ⟨e, hn, rfl⟩
  · refine ⟨hl, by omega, fun t => ?_⟩
    split
    · rw [(atS_last _ _ hl t (by omega)).2, e]
    · rfl
  · obtain ⟨g1, g2⟩ := RightS_init _ _ _ hl
    obtain ⟨a1, a2, a3, a4, a5, a6, a7⟩ := g2
    refine ⟨RightS_snoc _ _ _ g1 ⟨a1, by show q.fr ≤ s.to; omega, h2, a4, a5, a6, trivial⟩, by rw [lastS_append]; exact Int.le_refl _, fun t => ?_⟩
    rw [atS_append _ _ _ g1, atS_append _ _ _ g1]
    simp only [atS]
    by_cases hlt : (lastS Sp.zr i).to < t
    · rw [if_pos (atS_last _ _ g1 t hlt).2, if_pos (atS_last _ _ g1 t hlt).2]
      split <;> split <;> (try split) <;> omega
    · rw [if_neg (by omega : ¬ (q.fr ≤ t ∧ t ≤ s.to)), if_neg (by omega : ¬ (q.fr ≤ t ∧ t ≤ q.to)), if_neg (by omega : ¬ (s.fr ≤ t ∧ t ≤ s.to))]
  · refine ⟨RightS_snoc _ _ _ hl ⟨h0, h1, h2, by omega, by omega, ?_, trivial⟩, by rw [lastS_append]; exact Int.le_refl _, fun t => ?_⟩
    · rcases snocS l with rfl | ⟨i, q, rfl⟩
      · rintro ⟨_, e2⟩
        exact e e2
      · rw [lastS_append]
        exact hn i q rfl
    · rw [atS_append _ _ _ hl]
      simp only [atS]
      by_cases hlt : (lastS Sp.zr l).to < t
      · rw [if_pos (atS_last _ _ hl t hlt).2, (atS_last _ _ hl t hlt).2]
      · have hx : ¬ (s.fr ≤ t ∧ t ≤ s.to) := by omega
        simp only [hx, if_false]
        split
        · rename_i h9; exact h9.symm
        · rfl

/-- The ticks from one on of which a map knows the same. -/
def runS (l : List Sp) (at_ : Int) : Sp :=
  match l with
  | [] => ⟨at_, 1099511627776, 0⟩
  | s :: _ => if at_ < s.fr then ⟨at_, s.fr - 1, 0⟩ else ⟨at_, s.to, s.is⟩
/-- A map without the spans that end ahead of a tick. -/
def behindS : List Sp → Int → List Sp
  | [], _ => []
  | s :: l, t => if s.to < t then behindS l t else s :: l
theorem behindS_right : ∀ (l : List Sp) (p : Sp) (t : Int), RightS p l → ∃ q, RightS q (behindS l t)
  | [], p, _, h => ⟨p, h⟩
  | s :: l, p, t, h => by
    rw [behindS]
    split
    · exact behindS_right l s t h.2.2.2.2.2.2
    · exact ⟨p, h⟩
theorem behindS_at : ∀ (l : List Sp) (t u : Int), t ≤ u → atS (behindS l t) u = atS l u
  | [], _, _, _ => rfl
  | s :: l, t, u, h => by
    rw [behindS]
    split
    · rw [atS, if_neg (by omega), behindS_at l t u h]
    · rfl
theorem behindS_head : ∀ (l : List Sp) (t : Int), behindS l t = [] ∨ ∃ s r, behindS l t = s :: r ∧ t ≤ s.to
  | [], _ => .inl rfl
  | s :: l, t => by
    rw [behindS]
    split
    · exact behindS_head l t
    · exact .inr ⟨s, l, rfl, by omega⟩
theorem runS_ok {l : List Sp} {p : Sp} {t : Int} (h : RightS p l) (hh : l = [] ∨ ∃ s r, l = s :: r ∧ t ≤ s.to) (ht : t ≤ 1099511627776) :
    t ≤ (runS l t).to ∧ (runS l t).to ≤ 1099511627776 ∧ 0 ≤ (runS l t).is ∧ (runS l t).is ≤ 3 ∧ (runS l t).fr = t ∧ ∀ u, t ≤ u → u ≤ (runS l t).to → atS l u = (runS l t).is := by
  rcases hh with rfl | ⟨s, r, rfl, hs⟩
  · exact ⟨ht, Int.le_refl _, by simp [runS], by simp [runS], rfl, fun _ _ _ => rfl⟩
  · obtain ⟨a1, a2, a3, a4, a5, a6, a7⟩ := h
    unfold runS
    simp only
    split
    · refine ⟨by simp only; omega, by simp only; omega, by simp, by simp, rfl, fun u h1 h2 => ?_⟩
      simp only at h2
      rw [atS, if_neg (by omega), atS_low a7 (by omega)]
    · refine ⟨by simp only; omega, by simp only; omega, by simp only; omega, by simp only; omega, rfl, fun u h1 h2 => ?_⟩
      simp only at h2
      rw [atS, if_pos (by omega)]

/-- How far a join is done: up to a tick, behind which the rests of both maps know what they do. -/
structure JoinS (a b : List Sp) (t : Int) (a' b' out : List Sp) : Prop where
  lo : 1 ≤ t
  hi : t ≤ 1099511627777
  ra : ∃ p, RightS p a'
  rb : ∃ p, RightS p b'
  ea : ∀ u, t ≤ u → atS a' u = atS a u
  eb : ∀ u, t ≤ u → atS b' u = atS b u
  ro : RightS Sp.zr out
  lt : (lastS Sp.zr out).to < t
  eo : ∀ u, u < t → atS out u = max (atS a u) (atS b u)
theorem JoinS.start {a b : List Sp} (ha : RightS Sp.zr a) (hb : RightS Sp.zr b) : JoinS a b 1 a b [] :=
  ⟨by omega, by omega, ⟨_, ha⟩, ⟨_, hb⟩, fun _ _ => rfl, fun _ _ => rfl, trivial, by simp [lastS, Sp.zr], fun u hu => by
    have : u ≤ Sp.zr.to := by simp [Sp.zr]; omega
    rw [atS_low ha this, atS_low hb this]; rfl⟩
/-- The span that a step of a join lays. -/
def bothS (a b : List Sp) (t : Int) : Sp := ⟨t, min (runS a t).to (runS b t).to, max (runS a t).is (runS b t).is⟩
theorem JoinS.step {a b a' b' out out' : List Sp} {t : Int} (h : JoinS a b t a' b' out) (ht : t ≤ 1099511627776) (hl : layS out (bothS (behindS a' t) (behindS b' t) t) out') :
    JoinS a b ((bothS (behindS a' t) (behindS b' t) t).to + 1) (behindS a' t) (behindS b' t) out' ∧ t ≤ (bothS (behindS a' t) (behindS b' t) t).to ∧ (bothS (behindS a' t) (behindS b' t) t).to ≤ 1099511627776 := by
  obtain ⟨p, hp⟩ := h.ra
  obtain ⟨q, hq⟩ := h.rb
  obtain ⟨p', hp'⟩ := behindS_right _ _ t hp
  obtain ⟨q', hq'⟩ := behindS_right _ _ t hq
  have ea := behindS_at a' t
  have eb := behindS_at b' t
  obtain ⟨x1, x2, x3, x4, x5, x6⟩ := runS_ok hp' (behindS_head a' t) ht
  obtain ⟨y1, y2, y3, y4, y5, y6⟩ := runS_ok hq' (behindS_head b' t) ht
  generalize behindS a' t = a2 at *
  generalize behindS b' t = b2 at *
  have k0 : t ≤ (bothS a2 b2 t).to := by unfold bothS; simp only; omega
  have k1 : (bothS a2 b2 t).to ≤ 1099511627776 := by unfold bothS; simp only; omega
  have k2 : (bothS a2 b2 t).to ≤ (runS a2 t).to := by unfold bothS; simp only; omega
  have k3 : (bothS a2 b2 t).to ≤ (runS b2 t).to := by unfold bothS; simp only; omega
  have k4 : (bothS a2 b2 t).is = max (runS a2 t).is (runS b2 t).is := rfl
  have k5 : (bothS a2 b2 t).fr = t := rfl
  obtain ⟨z1, z2, z3⟩ := layS_ok h.ro (by rw [k5]; exact h.lt) (by rw [k5]; exact k0) k1 (by rw [k4]; omega) hl
  rw [k5] at z3
  refine ⟨⟨by have := h.lo; omega, by omega, ⟨_, hp'⟩, ⟨_, hq'⟩, fun u hu => by rw [ea u (by omega), h.ea u (by omega)], fun u hu => by rw [eb u (by omega), h.eb u (by omega)], z1, by omega, fun u hu => ?_⟩, k0, k1⟩
  rw [z3 u]
  split
  · rename_i hh
    rw [k4, ← h.ea u (by omega), ← h.eb u (by omega), ← ea u (by omega), ← eb u (by omega), x6 u (by omega) (by omega), y6 u (by omega) (by omega)]
  · exact h.eo u (by omega)
theorem JoinS.done {a b a' b' out : List Sp} {t : Int} (h : JoinS a b t a' b' out) (ht : ¬ t ≤ 1099511627776) (ha : RightS Sp.zr a) (hb : RightS Sp.zr b) : RightS Sp.zr out ∧ ∀ u, atS out u = max (atS a u) (atS b u) := by
  refine ⟨h.ro, fun u => ?_⟩
  by_cases hu : u < t
  · exact h.eo u hu
  · rw [(atS_last _ _ h.ro u (by have := h.lt; omega)).2, atS_high ha (by omega), atS_high hb (by omega)]
    rfl
end Go.Proofs.YtidihfhgnjkmaaaGreat
