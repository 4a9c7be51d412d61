/- Right maps in memory, and their join. -/
import Derived.Test.YtidihfhgnjkmaaaSpJoin
namespace Go.Proofs.Ytidihfhgnjkmaaa
open Go.RowKit

/-- A right map. -/
structure MapOk (w : World) (a : Option Addr) (n c : Nat) (l : List Sp) : Prop where
  rd : SpsRd w a n l
  lc : n ≤ c
  cm : c ≤ maxLen
  right : RightS Sp.zr l
theorem MapOk.below {w w' : World} {a : Option Addr} {n c : Nat} {l : List Sp} (h : MapOk w a n c l) (hb : Below w.heap.size w w') : MapOk w' a n c l := ⟨h.rd.below hb, h.lc, h.cm, h.right⟩
theorem MapOk.len {w : World} {a : Option Addr} {n c : Nat} {l : List Sp} (h : MapOk w a n c l) : n ≤ maxLen := Nat.le_trans h.lc h.cm
theorem Sps.big {w : World} {B : Nat} {a : Option Addr} {n c : Nat} {l : List Sp} (h : Sps w B (.slice a n c) l) : n ≤ c ∧ c ≤ maxLen := by
  rcases h.row.2 with ⟨h1, _⟩ | ⟨g', c', cur, h1, _, _, h4, h5, _⟩
  · simp only [Value.slice.injEq] at h1
    obtain ⟨_, rfl, rfl⟩ := h1
    exact ⟨Nat.le_refl _, Nat.zero_le _⟩
  · simp only [Value.slice.injEq] at h1
    obtain ⟨_, rfl, rfl⟩ := h1
    exact ⟨h4, h5⟩
theorem Sps.ok {w : World} {B : Nat} {v : Value} {l : List Sp} (h : Sps w B v l) (hr : RightS Sp.zr l) : ∃ a n c, v = .slice a n c ∧ MapOk w a n c l := by
  obtain ⟨a, c, rfl, _⟩ := h.form
  exact ⟨a, l.length, c, rfl, h.rd, h.big.1, h.big.2, hr⟩
theorem span_Join_ok {a b : Option Addr} {na ca nb cb : Nat} {la lb : List Sp} {w : World} (ha : MapOk w a na ca la) (hb : MapOk w b nb cb lb) :
    Calls Try.prog 34 #[.slice a na ca, .slice b nb cb] w fun e w' => (∃ av nv cv l, e = .returned (.tuple #[.slice av nv cv, .int .i64 0]) ∧ Hid (MapOk w' av nv cv l) ∧ Hid (∀ t, atS l t = max (atS la t) (atS lb t))) ∧ Below w.heap.size w w' := by
  refine (span_Join a b na ca nb cb la lb w ha.rd hb.rd ha.lc ha.cm hb.lc hb.cm).mono ?_
  rintro e w1 ⟨hj, hb1⟩
  refine ⟨?_, hb1⟩
  rcases hj.out with ⟨hbad, _⟩ | ⟨_, _, v, l, rfl, hv, hr, ht⟩
  · exfalso
    have h1 := (rightB_iff _ _).2 ha.right
    have h2 := (rightB_iff _ _).2 hb.right
    rcases hbad with h | h
    · rw [h1] at h; cases h
    · rw [h2] at h; cases h
  · obtain ⟨av, nv, cv, rfl, hm⟩ := hv.ok hr
    exact ⟨av, nv, cv, l, rfl, hm, ht⟩
/-- The join, in a row of its own. -/
theorem span_Join_new {a b : Option Addr} {na ca nb cb : Nat} {la lb : List Sp} {w : World} (ha : MapOk w a na ca la) (hb : MapOk w b nb cb lb) :
    Calls Try.prog 34 #[.slice a na ca, .slice b nb cb] w fun e w' => (∃ av nv cv l, e = .returned (.tuple #[.slice av nv cv, .int .i64 0]) ∧ Hid (MapOk w' av nv cv l) ∧ Hid (∀ ad, av = some ad → w.heap.size ≤ ad.block ∧ ad.block < w'.heap.size) ∧ Hid (∀ t, atS l t = max (atS la t) (atS lb t))) ∧ Below w.heap.size w w' := by
  refine (span_Join a b na ca nb cb la lb w ha.rd hb.rd ha.lc ha.cm hb.lc hb.cm).mono ?_
  rintro e w1 ⟨hj, hb1⟩
  refine ⟨?_, hb1⟩
  rcases hj.out with ⟨hbad, _⟩ | ⟨_, _, v, l, rfl, hv, hr, ht⟩
  · exfalso
    have h1 := (rightB_iff _ _).2 ha.right
    have h2 := (rightB_iff _ _).2 hb.right
    rcases hbad with h | h
    · rw [h1] at h; cases h
    · rw [h2] at h; cases h
  · obtain ⟨av, nv, cv, rfl, hm⟩ := hv.ok hr
    refine ⟨av, nv, cv, l, rfl, hm, fun ad had => ?_, ht⟩
    subst had
    rcases hv.row.2 with ⟨h1, _⟩ | ⟨g', c', cur, h1, h2, h3, _⟩
    · simp at h1
    · simp only [Value.slice.injEq, Option.some.injEq] at h1
      rw [h1.1]
      exact ⟨h2, (Array.getElem?_eq_some_iff.1 h3).1⟩
end Go.Proofs.Ytidihfhgnjkmaaa
