/- A pack of texts: SpM Sp SpRight SpAt. -/
import Derived.KernelRfl
import Derived.Test.YtidihfhgnjkmaaaRows
import Derived.WalkKit
import Derived.WalkLawsBesides
import Derived.WalkSpells
import Derived.Laws.BytesArg
import Derived.Laws.OwnMore
import Derived.Deep.AppendLies
import Derived.Deep.SlicePairs
import Derived.Below
import Derived.LoopN
import Derived.Handy
import Derived.Laws.Cover3
import Derived.Deep.QuietTactic
import Derived.BigQuiet
import Derived.Lib.MinMaxS
/- Maps of ticks as lists of spans: what is known of a tick, which lists are right; two right lists that know the same are the same. -/
namespace Go.Proofs.Ytidihfhgnjkmaaa

structure Sp where
  fr : Int
  to : Int
  is : Int

/-- What a list knows of a tick. -/
def atS : List Sp → Int → Int
  | [], _ => 0
  | s :: l, t => if s.fr ≤ t ∧ t ≤ s.to then s.is else atS l t

/-- A list is right behind a span. -/
def RightS (p : Sp) : List Sp → Prop
  | [] => True
  | s :: l => p.to < s.fr ∧ s.fr ≤ s.to ∧ s.to ≤ 1099511627776 ∧ 1 ≤ s.is ∧ s.is ≤ 3 ∧ ¬ (s.fr = p.to + 1 ∧ s.is = p.is) ∧ RightS s l
def Sp.zr : Sp := ⟨0, 0, 0⟩
/-- The last span of a list, or the one ahead of it. -/
def lastS (p : Sp) : List Sp → Sp
  | [] => p
  | s :: l => lastS s l

theorem atS_low {l : List Sp} : ∀ {p : Sp}, RightS p l → ∀ {t : Int}, t ≤ p.to → atS l t = 0 := by
  induction l with
  | nil => intros; rfl
  | cons s l ih =>
    intro p h t ht
    obtain ⟨h1, h2, h3, h4, h5, h6, h7⟩ := h
    rw [atS, if_neg (by omega)]
    exact ih h7 (by omega)
theorem atS_high {l : List Sp} : ∀ {p : Sp}, RightS p l → ∀ {t : Int}, 1099511627776 < t → atS l t = 0 := by
  induction l with
  | nil => intros; rfl
  | cons s l ih =>
    intro p h t ht
    obtain ⟨h1, h2, h3, h4, h5, h6, h7⟩ := h
    rw [atS, if_neg (by omega)]
    exact ih h7 ht
theorem atS_range {l : List Sp} : ∀ {p : Sp}, RightS p l → ∀ (t : Int), 0 ≤ atS l t ∧ atS l t ≤ 3 := by
  induction l with
  | nil => intros; simp [atS]
  | cons s l ih =>
    intro p h t
    obtain ⟨h1, h2, h3, h4, h5, h6, h7⟩ := h
    rw [atS]
    split
    · omega
    · exact ih h7 t
theorem atS_next {l : List Sp} {p : Sp} (h : RightS p l) (hp : p.is ≠ 0) : atS l (p.to + 1) ≠ p.is := by
  cases l with
  | nil => exact fun e => hp e.symm
  | cons s l =>
    obtain ⟨h1, h2, h3, h4, h5, h6, h7⟩ := h
    rw [atS]
    split
    · rename_i hh
      intro e
      exact h6 ⟨by omega, e⟩
    · rw [atS_low h7 (by omega)]
      exact fun e => hp e.symm
theorem RightS.cast {l : List Sp} {p p' : Sp} (h : RightS p l) (h1 : p'.to ≤ p.to) (h2 : p'.to = p.to → p'.is = p.is) : RightS p' l := by
  cases l with
  | nil => trivial
  | cons s l =>
    obtain ⟨a1, a2, a3, a4, a5, a6, a7⟩ := h
    refine ⟨by omega, a2, a3, a4, a5, ?_, a7⟩
    rintro ⟨e1, e2⟩
    have : p'.to = p.to := by omega
    exact a6 ⟨by omega, by rw [e2, h2 this]⟩
/-- Two right lists that know the same of each tick are the same. -/
theorem canonS : ∀ (l m : List Sp) (p q : Sp), RightS p l → RightS q m → (∀ t, atS l t = atS m t) → l = m
  | [], [], _, _, _, _, _ => rfl
  | [], s :: m, _, _, _, hm, h => by
    obtain ⟨h1, h2, h3, h4, h5, h6, h7⟩ := hm
    have := h s.fr
    rw [atS, atS, if_pos (by omega)] at this
    omega
  | s :: l, [], _, _, hl, _, h => by
    obtain ⟨h1, h2, h3, h4, h5, h6, h7⟩ := hl
    have := h s.fr
    rw [atS, atS, if_pos (by omega)] at this
    omega
  | s :: l, r :: m, p, q, hl, hm, h => by
    obtain ⟨a1, a2, a3, a4, a5, a6, a7⟩ := hl
    obtain ⟨b1, b2, b3, b4, b5, b6, b7⟩ := hm
    have ef : s.fr = r.fr := by
      rcases Int.lt_trichotomy s.fr r.fr with hh | hh | hh
      · have := h s.fr
        rw [atS, atS, if_pos (by omega), if_neg (by omega), atS_low b7 (by omega)] at this
        omega
      · exact hh
      · have := h r.fr
        rw [atS, atS, if_neg (by omega), if_pos (by omega), atS_low a7 (by omega)] at this
        omega
    have ei : s.is = r.is := by
      have := h s.fr
      rw [atS, atS, if_pos (by omega), if_pos (by omega)] at this
      exact this
    have et : s.to = r.to := by
      rcases Int.lt_trichotomy s.to r.to with hh | hh | hh
      · have := h (s.to + 1)
        rw [atS, atS, if_neg (by omega), if_pos (by omega)] at this
        exact absurd (this.trans ei.symm) (atS_next a7 (by omega))
      · exact hh
      · have := h (r.to + 1)
        rw [atS, atS, if_pos (by omega), if_neg (by omega)] at this
        exact absurd (this.symm.trans ei) (atS_next b7 (by omega))
    have es : s = r := by
      cases s; cases r
      simp_all
    subst es
    rw [canonS l m s s a7 b7 fun t => ?_]
    by_cases ht : t ≤ s.to
    · rw [atS_low a7 ht, atS_low b7 ht]
    · have := h t
      rw [atS, atS, if_neg (by omega), if_neg (by omega)] at this
      exact this

theorem atS_append : ∀ (l m : List Sp) (p : Sp), RightS p l → ∀ t, atS (l ++ m) t = if atS l t = 0 then atS m t else atS l t
  | [], m, _, _, t => by simp [atS]
  | s :: l, m, p, h, t => by
    obtain ⟨h1, h2, h3, h4, h5, h6, h7⟩ := h
    rw [List.cons_append, atS, atS]
    split
    · rw [if_neg (by omega)]
    · exact atS_append l m s h7 t
theorem lastS_append : ∀ (l : List Sp) (s p : Sp), lastS p (l ++ [s]) = s
  | [], _, _ => rfl
  | _ :: l, s, _ => lastS_append l s _
theorem RightS_snoc : ∀ (l : List Sp) (s p : Sp), RightS p l → RightS (lastS p l) [s] → RightS p (l ++ [s])
  | [], _, _, _, h => h
  | _ :: l, s, _, ⟨h1, h2, h3, h4, h5, h6, h7⟩, h => ⟨h1, h2, h3, h4, h5, h6, RightS_snoc l s _ h7 h⟩
theorem RightS_init : ∀ (l : List Sp) (s p : Sp), RightS p (l ++ [s]) → RightS p l ∧ RightS (lastS p l) [s]
  | [], _, _, h => ⟨trivial, h⟩
  | _ :: l, s, _, ⟨h1, h2, h3, h4, h5, h6, h7⟩ => ⟨⟨h1, h2, h3, h4, h5, h6, (RightS_init l s _ h7).1⟩, (RightS_init l s _ h7).2⟩
theorem RightS_split : ∀ (l m : List Sp) (p : Sp), RightS p (l ++ m) → RightS p l ∧ RightS (lastS p l) m
  | [], _, _, h => ⟨trivial, h⟩
  | _ :: l, m, _, ⟨h1, h2, h3, h4, h5, h6, h7⟩ => ⟨⟨h1, h2, h3, h4, h5, h6, (RightS_split l m _ h7).1⟩, (RightS_split l m _ h7).2⟩
theorem atS_last : ∀ (l : List Sp) (p : Sp), RightS p l → ∀ t, (lastS p l).to < t → p.to < t ∧ atS l t = 0
  | [], _, _, t, h => ⟨h, rfl⟩
  | s :: l, p, ⟨h1, h2, h3, h4, h5, h6, h7⟩, t, h => by
    obtain ⟨a, b⟩ := atS_last l s h7 t h
    refine ⟨by omega, ?_⟩
    rw [atS, if_neg (by omega), b]
/-- How many spans a right list can have. -/
theorem RightS_len : ∀ (l : List Sp) (p : Sp), RightS p l → p.to + l.length ≤ (lastS p l).to ∧ (l ≠ [] → (lastS p l).to ≤ 1099511627776)
  | [], p, _ => ⟨by simp [lastS], fun h => absurd rfl h⟩
  | s :: l, p, ⟨h1, h2, h3, h4, h5, h6, h7⟩ => by
    obtain ⟨a, b⟩ := RightS_len l s h7
    refine ⟨by rw [lastS, List.length_cons]; omega, fun _ => ?_⟩
    rw [lastS]
    by_cases h0 : l = []
    · subst h0; exact h3
    · exact b h0

/-- A span behind a list's end, as a right one has it. -/
def layS (l : List Sp) (s : Sp) (l' : List Sp) : Prop :=
  (s.is = 0 ∧ l' = l) ∨ (s.is ≠ 0 ∧ ∃ i q, l = i ++ [q] ∧ s.fr = q.to + 1 ∧ s.is = q.is ∧ l' = i ++ [⟨q.fr, s.to, q.is⟩]) ∨
  (s.is ≠ 0 ∧ (∀ i q, l = i ++ [q] → ¬ (s.fr = q.to + 1 ∧ s.is = q.is)) ∧ l' = l ++ [s])
theorem snocS (l : List Sp) : l = [] ∨ ∃ i q, l = i ++ [q] := by
  rcases List.eq_nil_or_concat l with h | ⟨i, q, h⟩
  · exact .inl h
  · exact .inr ⟨i, q, by simpa using h⟩
theorem layS_ok {l l' : List Sp} {s : Sp} (hl : RightS Sp.zr l) (h0 : (lastS Sp.zr l).to < s.fr) (h1 : s.fr ≤ s.to) (h2 : s.to ≤ 1099511627776) (h3 : 0 ≤ s.is ∧ s.is ≤ 3) (h : layS l s l') :
    RightS Sp.zr l' ∧ (lastS Sp.zr l').to ≤ s.to ∧ ∀ t, atS l' t = if s.fr ≤ t ∧ t ≤ s.to then s.is else atS l t := by
  rcases h with ⟨e, rfl⟩ | ⟨e, i, q, rfl, e1, e2, rfl⟩ | ⟨e, hn, rfl⟩
  · refine ⟨hl, by omega, fun t => ?_⟩
    split
    · rw [(atS_last _ _ hl t (by omega)).2, e]
    · rfl
  · obtain ⟨g1, g2⟩ := RightS_init _ _ _ hl
    obtain ⟨a1, a2, a3, a4, a5, a6, a7⟩ := g2
    refine ⟨RightS_snoc _ _ _ g1 ⟨a1, by show q.fr ≤ s.to; omega, h2, a4, a5, a6, trivial⟩, by rw [lastS_append]; exact Int.le_refl _, fun t => ?_⟩
    rw [atS_append _ _ _ g1, atS_append _ _ _ g1]
    simp only [atS]
    by_cases hlt : (lastS Sp.zr i).to < t
    · rw [if_pos (atS_last _ _ g1 t hlt).2, if_pos (atS_last _ _ g1 t hlt).2]
      split <;> split <;> (try split) <;> omega
    · rw [if_neg (by omega : ¬ (q.fr ≤ t ∧ t ≤ s.to)), if_neg (by omega : ¬ (q.fr ≤ t ∧ t ≤ q.to)), if_neg (by omega : ¬ (s.fr ≤ t ∧ t ≤ s.to))]
  · refine ⟨RightS_snoc _ _ _ hl ⟨h0, h1, h2, by omega, by omega, ?_, trivial⟩, by rw [lastS_append]; exact Int.le_refl _, fun t => ?_⟩
    · rcases snocS l with rfl | ⟨i, q, rfl⟩
      · rintro ⟨_, e2⟩
        exact e e2
      · rw [lastS_append]
        exact hn i q rfl
    · rw [atS_append _ _ _ hl]
      simp only [atS]
      by_cases hlt : (lastS Sp.zr l).to < t
      · rw [if_pos (atS_last _ _ hl t hlt).2, (atS_last _ _ hl t hlt).2]
      · have hx : ¬ (s.fr ≤ t ∧ t ≤ s.to) := by omega
        simp only [hx, if_false]
        split
        · rename_i h9; exact h9.symm
        · rfl

/-- The ticks from one on of which a map knows the same. -/
def runS (l : List Sp) (at_ : Int) : Sp :=
  match l with
  | [] => ⟨at_, 1099511627776, 0⟩
  | s :: _ => if at_ < s.fr then ⟨at_, s.fr - 1, 0⟩ else ⟨at_, s.to, s.is⟩
/-- A map without the spans that end ahead of a tick. -/
def behindS : List Sp → Int → List Sp
  | [], _ => []
  | s :: l, t => if s.to < t then behindS l t else s :: l
theorem behindS_right : ∀ (l : List Sp) (p : Sp) (t : Int), RightS p l → ∃ q, RightS q (behindS l t)
  | [], p, _, h => ⟨p, h⟩
  | s :: l, p, t, h => by
    rw [behindS]
    split
    · exact behindS_right l s t h.2.2.2.2.2.2
    · exact ⟨p, h⟩
theorem behindS_at : ∀ (l : List Sp) (t u : Int), t ≤ u → atS (behindS l t) u = atS l u
  | [], _, _, _ => rfl
  | s :: l, t, u, h => by
    rw [behindS]
    split
    · rw [atS, if_neg (by omega), behindS_at l t u h]
    · rfl
theorem behindS_head : ∀ (l : List Sp) (t : Int), behindS l t = [] ∨ ∃ s r, behindS l t = s :: r ∧ t ≤ s.to
  | [], _ => .inl rfl
  | s :: l, t => by
    rw [behindS]
    split
    · exact behindS_head l t
    · exact .inr ⟨s, l, rfl, by omega⟩
theorem runS_ok {l : List Sp} {p : Sp} {t : Int} (h : RightS p l) (hh : l = [] ∨ ∃ s r, l = s :: r ∧ t ≤ s.to) (ht : t ≤ 1099511627776) :
    t ≤ (runS l t).to ∧ (runS l t).to ≤ 1099511627776 ∧ 0 ≤ (runS l t).is ∧ (runS l t).is ≤ 3 ∧ (runS l t).fr = t ∧ ∀ u, t ≤ u → u ≤ (runS l t).to → atS l u = (runS l t).is := by
  rcases hh with rfl | ⟨s, r, rfl, hs⟩
  · exact ⟨ht, Int.le_refl _, by simp [runS], by simp [runS], rfl, fun _ _ _ => rfl⟩
  · obtain ⟨a1, a2, a3, a4, a5, a6, a7⟩ := h
    unfold runS
    simp only
    split
    · refine ⟨by simp only; omega, by simp only; omega, by simp, by simp, rfl, fun u h1 h2 => ?_⟩
      simp only at h2
      rw [atS, if_neg (by omega), atS_low a7 (by omega)]
    · refine ⟨by simp only; omega, by simp only; omega, by simp only; omega, by simp only; omega, rfl, fun u h1 h2 => ?_⟩
      simp only at h2
      rw [atS, if_pos (by omega)]

/-- How far a join is done: up to a tick, behind which the rests of both maps know what they do. -/
structure JoinS (a b : List Sp) (t : Int) (a' b' out : List Sp) : Prop where
  lo : 1 ≤ t
  hi : t ≤ 1099511627777
  ra : ∃ p, RightS p a'
  rb : ∃ p, RightS p b'
  ea : ∀ u, t ≤ u → atS a' u = atS a u
  eb : ∀ u, t ≤ u → atS b' u = atS b u
  ro : RightS Sp.zr out
  lt : (lastS Sp.zr out).to < t
  eo : ∀ u, u < t → atS out u = max (atS a u) (atS b u)
theorem JoinS.start {a b : List Sp} (ha : RightS Sp.zr a) (hb : RightS Sp.zr b) : JoinS a b 1 a b [] :=
  ⟨by omega, by omega, ⟨_, ha⟩, ⟨_, hb⟩, fun _ _ => rfl, fun _ _ => rfl, trivial, by simp [lastS, Sp.zr], fun u hu => by
    have : u ≤ Sp.zr.to := by simp [Sp.zr]; omega
    rw [atS_low ha this, atS_low hb this]; rfl⟩
/-- The span that a step of a join lays. -/
def bothS (a b : List Sp) (t : Int) : Sp := ⟨t, min (runS a t).to (runS b t).to, max (runS a t).is (runS b t).is⟩
theorem JoinS.step {a b a' b' out out' : List Sp} {t : Int} (h : JoinS a b t a' b' out) (ht : t ≤ 1099511627776) (hl : layS out (bothS (behindS a' t) (behindS b' t) t) out') :
    JoinS a b ((bothS (behindS a' t) (behindS b' t) t).to + 1) (behindS a' t) (behindS b' t) out' ∧ t ≤ (bothS (behindS a' t) (behindS b' t) t).to ∧ (bothS (behindS a' t) (behindS b' t) t).to ≤ 1099511627776 := by
  obtain ⟨p, hp⟩ := h.ra
  obtain ⟨q, hq⟩ := h.rb
  obtain ⟨p', hp'⟩ := behindS_right _ _ t hp
  obtain ⟨q', hq'⟩ := behindS_right _ _ t hq
  have ea := behindS_at a' t
  have eb := behindS_at b' t
  obtain ⟨x1, x2, x3, x4, x5, x6⟩ := runS_ok hp' (behindS_head a' t) ht
  obtain ⟨y1, y2, y3, y4, y5, y6⟩ := runS_ok hq' (behindS_head b' t) ht
  generalize behindS a' t = a2 at *
  generalize behindS b' t = b2 at *
  have k0 : t ≤ (bothS a2 b2 t).to := by unfold bothS; simp only; omega
  have k1 : (bothS a2 b2 t).to ≤ 1099511627776 := by unfold bothS; simp only; omega
  have k2 : (bothS a2 b2 t).to ≤ (runS a2 t).to := by unfold bothS; simp only; omega
  have k3 : (bothS a2 b2 t).to ≤ (runS b2 t).to := by unfold bothS; simp only; omega
  have k4 : (bothS a2 b2 t).is = max (runS a2 t).is (runS b2 t).is := rfl
  have k5 : (bothS a2 b2 t).fr = t := rfl
  obtain ⟨z1, z2, z3⟩ := layS_ok h.ro (by rw [k5]; exact h.lt) (by rw [k5]; exact k0) k1 (by rw [k4]; omega) hl
  rw [k5] at z3
  refine ⟨⟨by have := h.lo; omega, by omega, ⟨_, hp'⟩, ⟨_, hq'⟩, fun u hu => by rw [ea u (by omega), h.ea u (by omega)], fun u hu => by rw [eb u (by omega), h.eb u (by omega)], z1, by omega, fun u hu => ?_⟩, k0, k1⟩
  rw [z3 u]
  split
  · rename_i hh
    rw [k4, ← h.ea u (by omega), ← h.eb u (by omega), ← ea u (by omega), ← eb u (by omega), x6 u (by omega) (by omega), y6 u (by omega) (by omega)]
  · exact h.eo u (by omega)
theorem JoinS.done {a b a' b' out : List Sp} {t : Int} (h : JoinS a b t a' b' out) (ht : ¬ t ≤ 1099511627776) (ha : RightS Sp.zr a) (hb : RightS Sp.zr b) : RightS Sp.zr out ∧ ∀ u, atS out u = max (atS a u) (atS b u) := by
  refine ⟨h.ro, fun u => ?_⟩
  by_cases hu : u < t
  · exact h.eo u hu
  · rw [(atS_last _ _ h.ro u (by have := h.lt; omega)).2, atS_high ha (by omega), atS_high hb (by omega)]
    rfl
end Go.Proofs.Ytidihfhgnjkmaaa
/- Spans in memory: a list of spans as it is read, one of one's own, and a span behind it. -/
namespace Go.Proofs.Ytidihfhgnjkmaaa
open Go.RowKit

theorem below_new (w : World) (o : Obj) : Below w.heap.size w (w.alloc o) := (Below.refl _ _).alloc (Nat.le_refl _) _

theorem below_drew {B : Nat} {w w' : World} (h : Below B w w') : Below B w w'.drew := h.trans ⟨rfl, rfl, rfl, Nat.le_refl _, fun _ _ => rfl⟩
theorem below_drews {B : Nat} {w w' : World} (h : Below B w w') (n : Nat) : Below B w (w'.drewN n) := h.trans ⟨rfl, rfl, rfl, Nat.le_refl _, fun _ _ => rfl⟩

/-- A block whose cells are known. -/
def Bk (w : World) (g : Nat) (cs : Array Value) (t : TypeId) : Prop := w.heap[g]? = some (.cells cs t (0, 0))
theorem Bk.new (w : World) (cs : Array Value) (t : TypeId) : Bk (w.alloc (.cells cs t)) w.heap.size cs t := heap_alloc_new w _
theorem Bk.lt {w : World} {g : Nat} {cs : Array Value} {t : TypeId} (h : Bk w g cs t) : g < w.heap.size := (Array.getElem?_eq_some_iff.1 h).1
theorem Bk.below {w w' : World} {B g : Nat} {cs : Array Value} {t : TypeId} (h : Bk w g cs t) (hb : Below B w w') (hg : g < B) : Bk w' g cs t := by
  unfold Bk
  rw [hb.block g hg]
  exact h
theorem Bk.stay {w w' : World} {g : Nat} {cs : Array Value} {t : TypeId} (h : Bk w g cs t) (hb : Below w.heap.size w w') : Bk w' g cs t := h.below hb h.lt
theorem Bk.cell {w : World} {g : Nat} {cs : Array Value} {t : TypeId} (h : Bk w g cs t) (i : Nat) {v : Value} (hv : cs[i]? = some v) : w.cell? ⟨g, i, none⟩ = some v := by
  rw [cell_of_row w g i cs _ _ h, hv]
theorem Bk.free {w : World} {g : Nat} {cs : Array Value} {t : TypeId} (h : Bk w g cs t) (i : Nat) : w.frozen? ⟨g, i, none⟩ = false := frozen_of_row w g i cs t h
theorem Bk.set {w : World} {g : Nat} {cs : Array Value} {t : TypeId} (h : Bk w g cs t) (i : Nat) (v : Value) : Bk (w.setCell ⟨g, i, none⟩ v) g (cs.setIfInBounds i v) t := heap_setCell_same w g i cs t v h
theorem Bk.other {w : World} {g : Nat} {cs : Array Value} {t : TypeId} (h : Bk w g cs t) (a : Addr) (v : Value) (ha : g ≠ a.block) : Bk (w.setCell a v) g cs t := by
  unfold Bk
  rw [heap_setCell_other w a g v ha]
  exact h
theorem Bk.grown {w w' : World} {g : Nat} {cs : Array Value} {t : TypeId} {row : Option Nat} (h : Bk w g cs t) (hg : w.grownBy w' row) (hn : some g ≠ row) : Bk w' g cs t := by
  unfold Bk
  rw [hg.block g h.lt hn]
  exact h

def Sp.cells (q : Sp) : Array Value := #[.int .i64 q.fr, .int .i64 q.to, .int .i64 q.is]

/-- A slice reads as those spans. -/
structure SpsRd (w : World) (a : Option Addr) (n : Nat) (l : List Sp) : Prop where
  size : l.length = n
  cells : l = [] ∨ ∃ g o, a = some ⟨g, o, none⟩ ∧ g < w.heap.size ∧ ∀ i q, l[i]? = some q → w.cell? ⟨g, o + i * 3, none⟩ = some (.int .i64 q.fr) ∧ w.cell? ⟨g, o + i * 3 + 1, none⟩ = some (.int .i64 q.to) ∧ w.cell? ⟨g, o + i * 3 + 2, none⟩ = some (.int .i64 q.is)
theorem SpsRd.below {w w' : World} {a : Option Addr} {n : Nat} {l : List Sp} (h : SpsRd w a n l) (hb : Below w.heap.size w w') : SpsRd w' a n l := by
  refine ⟨h.size, ?_⟩
  rcases h.cells with h0 | ⟨g, o, ha, hg, hc⟩
  · exact .inl h0
  · refine .inr ⟨g, o, ha, Nat.lt_of_lt_of_le hg hb.size, fun i q hi => ?_⟩
    rw [hb.cell (p := ⟨g, o + i * 3, none⟩) hg, hb.cell (p := ⟨g, o + i * 3 + 1, none⟩) hg, hb.cell (p := ⟨g, o + i * 3 + 2, none⟩) hg]
    exact hc i q hi
/-- One of the spans, cell by cell. -/
theorem SpsRd.at_ {w : World} {a : Option Addr} {n : Nat} {l : List Sp} (h : SpsRd w a n l) (i : Nat) (hi : i < n) : ∃ g o, a = some ⟨g, o, none⟩ ∧ g < w.heap.size ∧ ∃ q, l[i]? = some q ∧ w.cell? ⟨g, o + i * 3, none⟩ = some (.int .i64 q.fr) ∧ w.cell? ⟨g, o + i * 3 + 1, none⟩ = some (.int .i64 q.to) ∧ w.cell? ⟨g, o + i * 3 + 2, none⟩ = some (.int .i64 q.is) := by
  have hl : i < l.length := by rw [h.size]; exact hi
  rcases h.cells with rfl | ⟨g, o, ha, hg, hc⟩
  · simp at hl
  · exact ⟨g, o, ha, hg, l[i], List.getElem?_eq_getElem hl, hc i l[i] (List.getElem?_eq_getElem hl)⟩
theorem SpsRd.tail {w : World} {g o n : Nat} {s : Sp} {l : List Sp} (h : SpsRd w (some ⟨g, o, none⟩) n (s :: l)) : SpsRd w (some ⟨g, o + 3, none⟩) (n - 1) l := by
  refine ⟨by have := h.size; simp at this; omega, ?_⟩
  rcases h.cells with h0 | ⟨g', o', ha, hg, hc⟩
  · cases h0
  · simp only [Option.some.injEq, Addr.mk.injEq] at ha
    obtain ⟨rfl, rfl, _⟩ := ha
    refine .inr ⟨g, o + 3, rfl, hg, fun i q hi => ?_⟩
    have := hc (i + 1) q (by simpa using hi)
    rw [show o + (i + 1) * 3 = o + 3 + i * 3 from by omega] at this
    exact this

/-- A list of spans of one's own. -/
structure Sps (w : World) (base : Nat) (v : Value) (l : List Sp) : Prop where
  row : w.ownsRow base 38 3 v l.length (l.flatMap fun q => q.cells.toList)
theorem Sps.nil_ (w : World) (base : Nat) : Sps w base (.slice none 0 0) [] := ⟨⟨rfl, .inl ⟨rfl, rfl⟩⟩⟩
theorem Sps.below {w w' : World} {base : Nat} {v : Value} {l : List Sp} (h : Sps w base v l) (hb : Below w.heap.size w w') : Sps w' base v l := by
  refine ⟨⟨h.row.1, ?_⟩⟩
  rcases h.row.2 with hn | ⟨g, c, cur, hv, hbg, hg, r⟩
  · exact .inl hn
  · exact .inr ⟨g, c, cur, hv, hbg, by rw [hb.block g (Array.getElem?_eq_some_iff.1 hg).1]; exact hg, r⟩
theorem Sps.lower {w : World} {base base' : Nat} {v : Value} {l : List Sp} (h : Sps w base v l) (hb : base' ≤ base) : Sps w base' v l := by
  refine ⟨⟨h.row.1, ?_⟩⟩
  rcases h.row.2 with hn | ⟨g, c, cur, hv, hbg, r⟩
  · exact .inl hn
  · exact .inr ⟨g, c, cur, hv, Nat.le_trans hb hbg, r⟩
theorem Sps.snoc {w' : World} {base : Nat} {v' : Value} {l : List Sp} (q : Sp) (hrow : w'.ownsRow base 38 3 v' (l.length + 1) ((l.flatMap fun q => q.cells.toList) ++ q.cells.toList)) : Sps w' base v' (l ++ [q]) := by
  refine ⟨?_⟩
  rw [List.length_append, List.flatMap_append]
  simpa using hrow
theorem Sp.one (q : Sp) : ∀ u ∈ q.cells.toList, u.oneCell' = true := by
  intro u hu
  simp only [Sp.cells, List.mem_cons, List.not_mem_nil, or_false] at hu
  rcases hu with rfl | rfl | rfl <;> rfl
theorem Sps.at_ {w : World} {base : Nat} {v : Value} {l : List Sp} (h : Sps w base v l) {k : Nat} (hk : v.ownBlock = some k) : base ≤ k := (h.row.lt k hk).1
theorem Sps.form {w : World} {base : Nat} {v : Value} {l : List Sp} (h : Sps w base v l) : ∃ a c, v = .slice a l.length c ∧ l.length ≤ c := by
  rcases h.row.2 with ⟨hv, hn⟩ | ⟨g, c, cur, hv, _, _, hc, _⟩
  · exact ⟨none, 0, by rw [hv, hn], by omega⟩
  · exact ⟨_, c, hv, hc⟩
theorem Sps.under {w : World} {base : Nat} {v : Value} {l : List Sp} (h : Sps w base v l) (p : Addr) (u : Value) (hp : p.block < base) : Sps (w.setCell p u) base v l := ⟨ownsRow_setCell_below h.row hp u⟩
theorem flat3 : ∀ (l : List Sp) (i : Nat) (q : Sp), l[i]? = some q → ∀ j, j < 3 → (l.flatMap fun q => q.cells.toList)[i * 3 + j]? = q.cells.toList[j]?
  | [], i, q, h, j, hj => by simp at h
  | p :: l, 0, q, h, j, hj => by
    simp only [List.getElem?_cons_zero, Option.some.injEq] at h
    subst h
    rw [List.flatMap_cons, Nat.zero_mul, Nat.zero_add, List.getElem?_append_left (by simp [Sp.cells]; omega)]
  | p :: l, i + 1, q, h, j, hj => by
    rw [List.getElem?_cons_succ] at h
    have e : p.cells.toList.length = 3 := rfl
    rw [List.flatMap_cons, List.getElem?_append_right (by omega), e, show (i + 1) * 3 + j - 3 = i * 3 + j from by omega]
    exact flat3 l i q h j hj
theorem Sps.rd {w : World} {base : Nat} {a : Option Addr} {n c : Nat} {l : List Sp} (h : Sps w base (.slice a n c) l) : SpsRd w a n l := by
  rcases h.row.2 with ⟨hv, hn⟩ | ⟨g, c', cur, hv, hb, hg, hlc, hm, hs, ht⟩
  · simp only [Value.slice.injEq] at hv
    exact ⟨by omega, .inl (List.length_eq_zero_iff.1 hn)⟩
  · simp only [Value.slice.injEq] at hv
    obtain ⟨rfl, rfl, rfl⟩ := hv
    refine ⟨rfl, .inr ⟨g, 0, rfl, (Array.getElem?_eq_some_iff.1 hg).1, fun i q hi => ?_⟩⟩
    have hil : i < l.length := (List.getElem?_eq_some_iff.1 hi).1
    have key : ∀ j, j < 3 → w.cell? ⟨g, 0 + i * 3 + j, none⟩ = q.cells.toList[j]? := by
      intro j hj
      have h1 := flat3 l i q hi j hj
      rw [← ht, List.getElem?_take_of_lt (by omega), Array.getElem?_toList] at h1
      rw [cell_of_row w g _ cur _ _ hg, Nat.zero_add, h1]
    exact ⟨key 0 (by omega), key 1 (by omega), key 2 (by omega)⟩
/-- A block of spans that was just made. -/
theorem Sps.one {w : World} {base g : Nat} {q : Sp} (h : Bk w g q.cells 38) (hb : base ≤ g) : Sps w base (.slice (some ⟨g, 0, none⟩) 1 1) [q] :=
  ⟨⟨rfl, .inr ⟨g, 1, q.cells, rfl, hb, h, Nat.le_refl _, by unfold maxLen; omega, rfl, by simp [Sp.cells]⟩⟩⟩
theorem infoSpan : (Try.prog.info? 38).map (fun i => (i.zero, i.size, i.bytes)) = some (some (.agg #[.int .i64 0, .int .i64 0, .int .i64 0]), 3, 24) := by kernel_rfl

/-- A span behind a list of one's own. -/
theorem wp_append_sp {w : World} {o : Oper} {act : Act} {K : Act → World → Prop} {Q : Exit → Act → World → Prop} (s x : Operand)
    (ho : o.op = .call { callee := .builtin .append, args := #[s, x], argTypes := #[30, 30] })
    (base : Nat) (v : Value) (l : List Sp) (hs : act.eval s = v) (hown : Sps w base v l) (ad : Addr) (c : Nat) (q : Sp) (hx : act.eval x = .slice (some ad) 1 c) (hnews : ∀ j u, q.cells.toList[j]? = some u → w.cell? (ad.add j) = some u)
    (hl : l.length ≤ 3000000000000) (hbase : base ≤ w.heap.size)
    (h : ∀ v' w', Sps w' base v' (l ++ [q]) → w.grownBy w' v.ownBlock → K (act.put o.dst v') w') : o.wp Try.prog act w K Q := by
  obtain ⟨i0, hi, hz0, hz1, hz2⟩ := info_parts infoSpan
  exact wp_append_own w s x 30 ho base 38 i0 (.agg #[.int .i64 0, .int .i64 0, .int .i64 0]) 3 24 Try.underlying30 hi hz0 hz1 hz2 (by rfl) (by decide) v l.length (l.flatMap fun q => q.cells.toList) hs hown.row ad 1 c q.cells.toList hx (by rfl) hnews (Sp.one q) (by unfold maxLen; omega) (by omega) hbase fun v' w' h1 h2 _ => h v' w' (Sps.snoc q h1) h2
theorem wpList_append_sp {w : World} {ops : Array Oper} {rest : List Oper} {o : Oper} {act : Act} {Q : Exit → Act → World → Prop} (hgd : o.guard = none) (s x : Operand)
    (ho : o.op = .call { callee := .builtin .append, args := #[s, x], argTypes := #[30, 30] })
    (base : Nat) (v : Value) (l : List Sp) (hs : act.eval s = v) (hown : Sps w base v l) (ad : Addr) (c : Nat) (q : Sp) (hx : act.eval x = .slice (some ad) 1 c) (hnews : ∀ j u, q.cells.toList[j]? = some u → w.cell? (ad.add j) = some u)
    (hl : l.length ≤ 3000000000000) (hbase : base ≤ w.heap.size)
    (h : ∀ v' w', Sps w' base v' (l ++ [q]) → w.grownBy w' v.ownBlock → wpList Try.prog ops Q rest (act.put o.dst v') w') : wpList Try.prog ops Q (o :: rest) act w :=
  wpList_plain hgd fun _ hK => wp_append_sp s x ho base v l hs hown ad c q hx hnews hl hbase fun v' w' h1 h2 => hK _ _ (h v' w' h1 h2)
/-- The three cells of a span at a place. -/
theorem Sp.told {w : World} {g : Nat} {q : Sp} {t : TypeId} (h : Bk w g q.cells t) : ∀ j u, q.cells.toList[j]? = some u → w.cell? ((⟨g, 0, none⟩ : Addr).add j) = some u := by
  intro j u hj
  rw [Array.getElem?_toList] at hj
  have := h.cell j hj
  by_cases h0 : j = 0
  · subst h0
    simpa [Addr.add] using this
  · simpa [Addr.add, h0] using this
/-- The last span's end is set. -/
theorem Sps.setTo {w : World} {base g n c : Nat} {i : List Sp} {q : Sp} (h : Sps w base (.slice (some ⟨g, 0, none⟩) n c) (i ++ [q])) (x : Int) : Sps (w.setCell ⟨g, i.length * 3 + 1, none⟩ (.int .i64 x)) base (.slice (some ⟨g, 0, none⟩) n c) (i ++ [⟨q.fr, x, q.is⟩]) := by
  have hr := h.row
  have hn : n = (i ++ [q]).length := by
    rcases hr.2 with ⟨hv, _⟩ | ⟨g', c', cur, hv, _⟩
    · cases hv
    · simp only [Value.slice.injEq] at hv
      exact hv.2.1
  subst hn
  have h2 := hr.stored (i.length * 3 + 1) (.int .i64 x)
  refine ⟨?_⟩
  have e : ∀ m : List Sp, (m.flatMap fun q => q.cells.toList).length = m.length * 3 := by
    intro m
    induction m with
    | nil => rfl
    | cons s m ih => rw [List.flatMap_cons, List.length_append, ih, List.length_cons]; simp [Sp.cells]; omega
  have e2 : ((i ++ [q]).flatMap fun q => q.cells.toList).set (i.length * 3 + 1) (.int .i64 x) = (i ++ [(⟨q.fr, x, q.is⟩ : Sp)]).flatMap fun q => q.cells.toList := by
    rw [List.flatMap_append, List.flatMap_append, List.set_append_right _ _ (by rw [e]; omega), e]
    simp [Sp.cells]
  rw [← e2, show (i ++ [(⟨q.fr, x, q.is⟩ : Sp)]).length = (i ++ [q]).length from by simp]
  exact h2.1

section
open Go.ChangeShapes Go.WideShapes
set_option maxRecDepth 100000 in
/-- A list of spans that came in. -/
theorem open_spans {H : Type} {enc : TypeId × Value → H} {W : World} {a : Option Addr} {n cap : Nat} {d : DataW H} {p : List MemPlace}
    (h : DataW.Trod enc Try.prog W 0 (fun _ => true) true 30 (.slice a n cap) d p) : ∃ l, SpsRd W a n l ∧ n ≤ cap ∧ cap ≤ maxLen ∧ ∀ q ∈ l, ((-9223372036854775808 : Int) ≤ q.fr ∧ q.fr ≤ 9223372036854775807) ∧ ((-9223372036854775808 : Int) ≤ q.to ∧ q.to ≤ 9223372036854775807) ∧ ((-9223372036854775808 : Int) ≤ q.is ∧ q.is ≤ 9223372036854775807) := by
  obtain ⟨fuel, hf⟩ := h
  rcases Go.Deep.open_slice Try.underlying30 hf with ⟨hcs, hx⟩ | ⟨x, l, c, m, n', D, Pl, hcs, hb, hl, hm, hmm, hx, hr⟩
  · simp [Value.cells] at hcs
    obtain ⟨rfl, rfl, rfl⟩ := hcs
    exact ⟨[], ⟨rfl, .inl rfl⟩, Nat.le_refl _, by omega, fun q hq => by cases hq⟩
  · simp [Value.cells] at hcs
    obtain ⟨rfl, rfl, rfl⟩ := hcs
    simp only [if_true] at hmm
    subst hmm
    have each : ∀ r, r < m → ∃ q : Sp, W.cell? (x.add (r * 3)) = some (.int .i64 q.fr) ∧ W.cell? (x.add (r * 3 + 1)) = some (.int .i64 q.to) ∧ W.cell? (x.add (r * 3 + 2)) = some (.int .i64 q.is) ∧ ((-9223372036854775808 : Int) ≤ q.fr ∧ q.fr ≤ 9223372036854775807) ∧ ((-9223372036854775808 : Int) ≤ q.to ∧ q.to ≤ 9223372036854775807) ∧ ((-9223372036854775808 : Int) ≤ q.is ∧ q.is ≤ 9223372036854775807) := by
      intro r hrc
      obtain ⟨cs', h1, h2⟩ := hr r hrc
      rw [show Try.prog.cellsOf 38 = 3 from by kernel_rfl] at h1
      obtain ⟨_, hlen, hcell⟩ := World.cells?_some h1
      obtain ⟨xs, k, hk, hxy, _, hxl, hf⟩ := DataW.trod_struct Try.underlying38 h2
      match xs, hxl, cs', hlen with
      | [y0, y1, y2], _, [v0, v1, v2], _ =>
        have g0 := hf 0 _ rfl
        have g1 := hf 1 _ rfl
        have g2 := hf 2 _ rfl
        rw [show Try.prog.cellsOf _ = 1 from by kernel_rfl] at g0 g1 g2
        simp only [List.getElem?_cons_zero, List.getElem?_cons_succ] at g0 g1 g2
        have e0 := hcell 0 (by omega)
        have e1 := hcell 1 (by omega)
        have e2 := hcell 2 (by omega)
        rw [Go.Deep.add_add] at e0 e1 e2
        obtain ⟨q0, r0, _, s0⟩ := DataW.trod_int Try.underlying3 g0
        obtain ⟨q1, r1, _, s1⟩ := DataW.trod_int Try.underlying3 g1
        obtain ⟨q2, r2, _, s2⟩ := DataW.trod_int Try.underlying36 g2
        refine ⟨⟨q0, q1, q2⟩, ?_, ?_, ?_, ?_, ?_, ?_⟩
        · simp_all
        · simp_all
        · simp_all
        · simpa [Lit.wf, IntKind.min, IntKind.max, IntKind.signed, IntKind.bits] using s0
        · simpa [Lit.wf, IntKind.min, IntKind.max, IntKind.signed, IntKind.bits] using s1
        · simpa [Lit.wf, IntKind.min, IntKind.max, IntKind.signed, IntKind.bits] using s2
    haveI : Inhabited Sp := ⟨Sp.zr⟩
    obtain ⟨y, hy⟩ := Go.Deep.choose_lt each
    refine ⟨(List.range n).map y, ⟨by simp, ?_⟩, hl, hm, ?_⟩
    · by_cases hn0 : n = 0
      · left; simp [hn0]
      · right
        obtain ⟨b, off, spot⟩ := x
        have hc := (hy 0 (by omega)).1
        have hspot : spot = none := by simpa [Addr.add] using World.cell?_spot hc
        subst hspot
        refine ⟨b, off, rfl, World.block_lt_of_cell? W _ hc, fun i q hi => ?_⟩
        have hin : i < n := by
          have := (List.getElem?_eq_some_iff.1 hi).1
          simpa using this
        have hq : q = y i := by
          rw [List.getElem?_map, List.getElem?_range hin] at hi
          simpa using hi.symm
        subst hq
        have e : ∀ j, (⟨b, off, none⟩ : Addr).add j = ⟨b, off + j, none⟩ := fun j => by unfold Addr.add; split <;> simp_all
        obtain ⟨h2, h3, h4, _⟩ := hy i (by omega)
        rw [e] at h2 h3 h4
        exact ⟨h2, h3, h4⟩
    · intro q hq
      obtain ⟨i, hi, rfl⟩ := List.mem_map.1 hq
      have hin := List.mem_range.1 hi
      exact (hy i (by omega)).2.2.2
end
end Go.Proofs.Ytidihfhgnjkmaaa
/- span.isKnown, span.goesOn, span.Right. -/
namespace Go.Proofs.Ytidihfhgnjkmaaa
open Go.RowKit

def knownB (k : Int) : Bool := decide (1 ≤ k ∧ k ≤ 3)
def goesB (p s : Sp) : Bool := decide (s.fr = p.to + 1 ∧ s.is = p.is)
theorem knownB_iff (k : Int) : knownB k = true ↔ 1 ≤ k ∧ k ≤ 3 := by simp [knownB]
theorem knownB_not (k : Int) : knownB k = false ↔ ¬ (1 ≤ k ∧ k ≤ 3) := by simp [knownB]
theorem goesB_iff (p s : Sp) : goesB p s = true ↔ s.fr = p.to + 1 ∧ s.is = p.is := by simp [goesB]
theorem goesB_not (p s : Sp) : goesB p s = false ↔ ¬ (s.fr = p.to + 1 ∧ s.is = p.is) := by simp [goesB]
def rightB (p : Sp) : List Sp → Bool
  | [] => true
  | s :: l => decide (p.to < s.fr ∧ s.fr ≤ s.to ∧ s.to ≤ 1099511627776 ∧ 1 ≤ s.is ∧ s.is ≤ 3 ∧ ¬ (s.fr = p.to + 1 ∧ s.is = p.is)) && rightB s l
theorem rightB_iff : ∀ (l : List Sp) (p : Sp), rightB p l = true ↔ RightS p l
  | [], _ => by simp [rightB, RightS]
  | s :: l, p => by
    rw [rightB, RightS, Bool.and_eq_true, decide_eq_true_eq, rightB_iff l s]
    constructor
    · rintro ⟨⟨h1, h2, h3, h4, h5, h6⟩, h7⟩
      exact ⟨h1, h2, h3, h4, h5, h6, h7⟩
    · rintro ⟨h1, h2, h3, h4, h5, h6, h7⟩
      exact ⟨⟨h1, h2, h3, h4, h5, h6⟩, h7⟩
theorem rightB_bad {p s : Sp} {l : List Sp} (h : ¬ (p.to < s.fr ∧ s.fr ≤ s.to ∧ s.to ≤ 1099511627776 ∧ 1 ≤ s.is ∧ s.is ≤ 3 ∧ ¬ (s.fr = p.to + 1 ∧ s.is = p.is))) : rightB p (s :: l) = false := by
  rw [rightB, decide_eq_false h, Bool.false_and]
theorem rightB_good {p s : Sp} {l : List Sp} (h : p.to < s.fr ∧ s.fr ≤ s.to ∧ s.to ≤ 1099511627776 ∧ 1 ≤ s.is ∧ s.is ≤ 3 ∧ ¬ (s.fr = p.to + 1 ∧ s.is = p.is)) : rightB p (s :: l) = rightB s l := by
  rw [rightB, decide_eq_true h, Bool.true_and]

theorem span_isKnown (k : Int) (w : World) : Calls Try.prog 52 #[.int .i64 k] w fun e w' => e = .returned (.bool (knownB k)) ∧ w' = w := by
  go_enter Try.func52, Try.ntmps52
  by_cases h1 : 1 ≤ k
  · by_cases h3 : k ≤ 3
    · have HK : Hid (knownB k = true) := (knownB_iff k).2 ⟨h1, h3⟩
      go_wp2
      go_ret
      exact ⟨by rw [HK.out]; rfl, rfl⟩
    · have HK : Hid (knownB k = false) := (knownB_not k).2 (by omega)
      go_wp2
      go_ret
      exact ⟨by rw [HK.out]; rfl, rfl⟩
  · have HK : Hid (knownB k = false) := (knownB_not k).2 (by omega)
    go_wp2
    go_ret
    exact ⟨by rw [HK.out]; rfl, rfl⟩

theorem span_goesOn (pf pt pi sf st si : Int) (h1 : -9223372036854775808 ≤ pt) (h2 : pt < 9223372036854775807) (w : World) : Calls Try.prog 53 #[.agg #[.int .i64 pf, .int .i64 pt, .int .i64 pi], .agg #[.int .i64 sf, .int .i64 st, .int .i64 si]] w fun e w' => e = .returned (.bool (goesB ⟨pf, pt, pi⟩ ⟨sf, st, si⟩)) ∧ Below w.heap.size w w' := by
  have HB : ∀ c c', Hid (Below w.heap.size w ((w.alloc (.cells c 38)).alloc (.cells c' 38))) := fun c c' => (below_new w _).alloc (by simp) _
  obtain ⟨b, hb⟩ : ∃ b, b = goesB ⟨pf, pt, pi⟩ ⟨sf, st, si⟩ := ⟨_, rfl⟩
  have HG : Hid (b = goesB ⟨pf, pt, pi⟩ ⟨sf, st, si⟩) := hb
  rw [← hb]
  clear hb
  go_enter Try.func53, Try.ntmps53
  go_wp2
  · rename_i e1 e2
    go_ret
    refine ⟨?_, (HB _ _).out⟩
    rw [HG.out, (goesB_iff _ _).2 ⟨e1, e2⟩]
    rfl
  · rename_i e1 e2
    go_ret
    refine ⟨?_, (HB _ _).out⟩
    rw [HG.out, (goesB_not _ _).2 (fun h => e2 h.2)]
    rfl
  · rename_i e1
    go_ret
    refine ⟨?_, (HB _ _).out⟩
    rw [HG.out, (goesB_not _ _).2 (fun h => e1 h.1)]
    rfl

set_option maxRecDepth 100000 in
set_option maxHeartbeats 1000000 in
theorem span_Right (a : Option Addr) (n cap : Nat) (l : List Sp) (w : World) (hr : SpsRd w a n l) (hn : n ≤ maxLen) : Calls Try.prog 43 #[.slice a n cap] w fun e w' => e = .returned (.bool (rightB Sp.zr l)) ∧ Below w.heap.size w w' := by
  have HR : Hid (SpsRd w a n l) := hr
  obtain ⟨b, HF⟩ : ∃ b, Hid (b = rightB Sp.zr l) := ⟨_, rfl⟩
  rw [← HF.out]
  unfold maxLen at hn
  clear hr
  go_enter Try.func43, Try.ntmps43
  go_wp2
  go_loopw [8] (fun t8 wr => ∃ (k : Nat) (p : Sp), k ≤ n ∧ t8 = .int .i64 (k : Int) ∧ Hid (rightB p (l.drop k) = b) ∧ Hid (0 ≤ p.to ∧ p.to ≤ 1099511627776) ∧ Hid (Bk wr w.heap.size p.cells 38) ∧ Hid (Below w.heap.size w wr)) (fun t8 _ => n - (intOf t8).toNat)
  case atStart => exact ⟨0, Sp.zr, by omega, rfl, HF.out.symm, ⟨by decide, by decide⟩, Bk.new _ _ _, below_new _ _⟩
  case round =>
    obtain ⟨k, p, hk, rfl, HE, HP, HK, HB⟩ := hrel
    by_cases hlt : k < n
    · have hlt' : (k : Int) < (n : Int) := by omega
      obtain ⟨g, o, rfl, hg, q, hq, c0, c1, c2⟩ := (HR.out.below HB.out).at_ k hlt
      have HD : Hid (l.drop k = q :: l.drop (k + 1)) := by
        show _ = _
        obtain ⟨h1, h2⟩ := List.getElem?_eq_some_iff.1 hq
        rw [List.drop_eq_getElem_cons h1, h2]
      clear hq hg
      obtain ⟨qf, qt, qi⟩ := q
      obtain ⟨pf, pt, pi⟩ := p
      simp only at c0 c1 c2
      have HK1 : Hid (Bk (wr.alloc (.cells #[.int .i64 qf, .int .i64 qt, .int .i64 qi] 38)) w.heap.size #[.int .i64 pf, .int .i64 pt, .int .i64 pi] 38) := HK.out.stay (below_new _ _)
      have HB1 : Hid (Below w.heap.size w (wr.alloc (.cells #[.int .i64 qf, .int .i64 qt, .int .i64 qi] 38))) := HB.out.alloc HB.out.size _
      have a0 : (wr.alloc (.cells #[.int .i64 qf, .int .i64 qt, .int .i64 qi] 38)).cell? ⟨w.heap.size, 0, none⟩ = some (.int .i64 pf) := HK1.out.cell 0 rfl
      have a1 : (wr.alloc (.cells #[.int .i64 qf, .int .i64 qt, .int .i64 qi] 38)).cell? ⟨w.heap.size, 1, none⟩ = some (.int .i64 pt) := HK1.out.cell 1 rfl
      have a2 : (wr.alloc (.cells #[.int .i64 qf, .int .i64 qt, .int .i64 qi] 38)).cell? ⟨w.heap.size, 2, none⟩ = some (.int .i64 pi) := HK1.out.cell 2 rfl
      have HP' : Hid (0 ≤ pt ∧ pt ≤ 1099511627776) := HP.out
      have HLT : Hid (w.heap.size < wr.heap.size) := HK.out.lt
      clear HP HK
      by_cases h1 : qf ≤ pt
      · have HBAD : Hid (b = false) := by show _ = _; rw [← HE.out, HD.out, rightB_bad (by simp only; omega)]
        clear HE
        go_wp2
        go_ret
        exact ⟨by rw [HBAD.out]; rfl, HB1.out⟩
      · by_cases h2 : qt < qf
        · have HBAD : Hid (b = false) := by show _ = _; rw [← HE.out, HD.out, rightB_bad (by simp only; omega)]
          clear HE
          go_wp2
          go_ret
          exact ⟨by rw [HBAD.out]; rfl, HB1.out⟩
        · by_cases h3 : 1099511627776 < qt
          · have HBAD : Hid (b = false) := by show _ = _; rw [← HE.out, HD.out, rightB_bad (by simp only; omega)]
            clear HE
            go_wp2
            go_ret
            exact ⟨by rw [HBAD.out]; rfl, HB1.out⟩
          · go_wp2_with fail
            refine (span_isKnown qi _).mono ?_
            rintro e w1 ⟨rfl, rfl⟩
            cases hk3 : knownB qi with
            | false =>
              have HBAD : Hid (b = false) := by
                show _ = _
                have := (knownB_not qi).1 hk3
                rw [← HE.out, HD.out, rightB_bad (by simp only; omega)]
              clear HE hk3
              go_wp2
              go_ret
              exact ⟨by rw [HBAD.out]; rfl, HB1.out⟩
            | true =>
              have HKN : Hid (1 ≤ qi ∧ qi ≤ 3) := (knownB_iff qi).1 hk3
              clear hk3
              go_wp2_with fail
              refine (span_goesOn pf pt pi qf qt qi (by have := HP'.out; omega) (by have := HP'.out; omega) _).mono ?_
              rintro e w2 ⟨rfl, hb2⟩
              have HB2 : Hid (Below w.heap.size w w2) := HB1.out.trans (hb2.mono HB1.out.size)
              have HK2 : Hid (Bk w2 w.heap.size #[.int .i64 pf, .int .i64 pt, .int .i64 pi] 38) := HK1.out.stay hb2
              have HN2 : Hid (Bk w2 wr.heap.size #[.int .i64 qf, .int .i64 qt, .int .i64 qi] 38) := (Bk.new wr _ _).stay hb2
              clear hb2 a0 a1 a2 c0 c1 c2
              cases hk4 : goesB ⟨pf, pt, pi⟩ ⟨qf, qt, qi⟩ with
              | true =>
                have HBAD : Hid (b = false) := by
                  show _ = _
                  have := (goesB_iff _ _).1 hk4
                  rw [← HE.out, HD.out, rightB_bad (fun h => h.2.2.2.2.2 this)]
                clear HE hk4
                go_wp2
                go_ret
                exact ⟨by rw [HBAD.out]; rfl, HB2.out⟩
              | false =>
                have HNX : Hid (rightB ⟨qf, qt, qi⟩ (l.drop (k + 1)) = b) := by
                  show _ = _
                  have h4 := (goesB_not _ _).1 hk4
                  have h5 := HKN.out
                  rw [← HE.out, HD.out, rightB_good ⟨by simp only; omega, by simp only; omega, by simp only; omega, h5.1, h5.2, h4⟩]
                have HPX : Hid (0 ≤ qt ∧ qt ≤ 1099511627776) := by have := HP'.out; exact ⟨by omega, by omega⟩
                clear HE hk4 h1 h2 h3
                have d0 : w2.cell? ⟨wr.heap.size, 0, none⟩ = some (.int .i64 qf) := HN2.out.cell 0 rfl
                have d1 : w2.cell? ⟨wr.heap.size, 1, none⟩ = some (.int .i64 qt) := HN2.out.cell 1 rfl
                have d2 : w2.cell? ⟨wr.heap.size, 2, none⟩ = some (.int .i64 qi) := HN2.out.cell 2 rfl
                have f0 := HK2.out.free 0
                have f1 := HK2.out.free 1
                have f2 := HK2.out.free 2
                have e0 : w2.cell? ⟨w.heap.size, 0, none⟩ = some (.int .i64 pf) := HK2.out.cell 0 rfl
                have e1 : w2.cell? ⟨w.heap.size, 1, none⟩ = some (.int .i64 pt) := HK2.out.cell 1 rfl
                have e2 : w2.cell? ⟨w.heap.size, 2, none⟩ = some (.int .i64 pi) := HK2.out.cell 2 rfl
                have HNXT : Hid (Bk (((w2.setCell ⟨w.heap.size, 0, none⟩ (.int .i64 qf)).setCell ⟨w.heap.size, 1, none⟩ (.int .i64 qt)).setCell ⟨w.heap.size, 2, none⟩ (.int .i64 qi)) w.heap.size #[.int .i64 qf, .int .i64 qt, .int .i64 qi] 38) := ((HK2.out.set 0 _).set 1 _).set 2 _
                have HBX : Hid (Below w.heap.size w (((w2.setCell ⟨w.heap.size, 0, none⟩ (.int .i64 qf)).setCell ⟨w.heap.size, 1, none⟩ (.int .i64 qt)).setCell ⟨w.heap.size, 2, none⟩ (.int .i64 qi))) := ((HB2.out.setCell (by simp) _).setCell (by simp) _).setCell (by simp) _
                go_wp2
                go_roundw
                case rel => exact ⟨k + 1, ⟨qf, qt, qi⟩, by omega, by go_num, HNX, HPX, HNXT, HBX⟩
                case measure => simp [intOf]; omega
    · have hnl : ¬ (k : Int) < (n : Int) := by omega
      have HOK : Hid (b = true) := by
        show _ = _
        rw [← HE.out, List.drop_of_length_le (by rw [HR.out.size]; omega)]
        rfl
      clear HE HP HK
      go_wp2
      go_ret
      exact ⟨by rw [HOK.out]; rfl, HB.out⟩
end Go.Proofs.Ytidihfhgnjkmaaa
/- span.At, span.Count. -/
namespace Go.Proofs.Ytidihfhgnjkmaaa
open Go.RowKit

theorem atS_in {s : Sp} {l : List Sp} {t : Int} (h1 : s.fr ≤ t) (h2 : t ≤ s.to) : atS (s :: l) t = s.is := by rw [atS, if_pos ⟨h1, h2⟩]
theorem atS_out {s : Sp} {l : List Sp} {t : Int} (h : ¬ (s.fr ≤ t ∧ t ≤ s.to)) : atS (s :: l) t = atS l t := by rw [atS, if_neg h]
theorem drop_at {l : List Sp} {k : Nat} {q : Sp} (hq : l[k]? = some q) : l.drop k = q :: l.drop (k + 1) := by
  obtain ⟨h1, h2⟩ := List.getElem?_eq_some_iff.1 hq
  rw [List.drop_eq_getElem_cons h1, h2]

set_option maxRecDepth 100000 in
theorem span_At (a : Option Addr) (n cap : Nat) (l : List Sp) (t : Int) (w : World) (hr : SpsRd w a n l) (hn : n ≤ maxLen) : Calls Try.prog 36 #[.slice a n cap, .int .i64 t] w fun e w' => e = .returned (.int .i64 (atS l t)) ∧ Below w.heap.size w w' := by
  have HR : Hid (SpsRd w a n l) := hr
  obtain ⟨b, HF⟩ : ∃ b, Hid (b = atS l t) := ⟨_, rfl⟩
  rw [← HF.out]
  unfold maxLen at hn
  clear hr
  go_enter Try.func36, Try.ntmps36
  go_wp2
  go_loopw [9] (fun t9 wr => ∃ (k : Nat), k ≤ n ∧ t9 = .int .i64 (k : Int) ∧ Hid (atS (l.drop k) t = b) ∧ Hid (Below w.heap.size w wr)) (fun t9 _ => n - (intOf t9).toNat)
  case atStart => exact ⟨0, by omega, rfl, HF.out.symm, Below.refl _ _⟩
  case round =>
    obtain ⟨k, hk, rfl, HE, HB⟩ := hrel
    by_cases hlt : k < n
    · have hlt' : (k : Int) < (n : Int) := by omega
      obtain ⟨g, o, rfl, hg, q, hq, c0, c1, c2⟩ := (HR.out.below HB.out).at_ k hlt
      have HD : Hid (l.drop k = q :: l.drop (k + 1)) := drop_at hq
      clear hq hg
      obtain ⟨qf, qt, qi⟩ := q
      simp only at c0 c1 c2
      have HB1 : Hid (Below w.heap.size w (wr.alloc (.cells #[.int .i64 qf, .int .i64 qt, .int .i64 qi] 38))) := HB.out.alloc HB.out.size _
      by_cases h1 : qf ≤ t
      · by_cases h2 : t ≤ qt
        · have HX : Hid (b = qi) := by show _ = _; rw [← HE.out, HD.out, atS_in h1 h2]
          clear HE
          go_wp2
          go_ret
          exact ⟨by rw [HX.out]; rfl, HB1.out⟩
        · have HX : Hid (atS (l.drop (k + 1)) t = b) := by show _ = _; rw [← HE.out, HD.out, atS_out (by simp only; omega)]
          clear HE
          go_wp2
          go_roundw
          case rel => exact ⟨k + 1, by omega, by go_num, HX, HB1⟩
          case measure => simp [intOf]; omega
      · have HX : Hid (atS (l.drop (k + 1)) t = b) := by show _ = _; rw [← HE.out, HD.out, atS_out (by simp only; omega)]
        clear HE
        go_wp2
        go_roundw
        case rel => exact ⟨k + 1, by omega, by go_num, HX, HB1⟩
        case measure => simp [intOf]; omega
    · have hnl : ¬ (k : Int) < (n : Int) := by omega
      have HX : Hid (b = 0) := by
        show _ = _
        rw [← HE.out, List.drop_of_length_le (by rw [HR.out.size]; omega)]
        rfl
      clear HE
      go_wp2
      go_ret
      exact ⟨by rw [HX.out]; rfl, HB.out⟩

def countS : List Sp → Int → Int
  | [], _ => 0
  | s :: l, k => (if s.is = k then s.to - s.fr + 1 else 0) + countS l k
def countR (l : List Sp) (k : Int) : Int := if rightB Sp.zr l = true then countS l k else 0
theorem countR_ok {l : List Sp} {k : Int} (h : rightB Sp.zr l = true) : countR l k = countS l k := if_pos h
theorem countR_bad {l : List Sp} {k : Int} (h : rightB Sp.zr l = false) : countR l k = 0 := if_neg (by rw [h]; simp)

end Go.Proofs.Ytidihfhgnjkmaaa
