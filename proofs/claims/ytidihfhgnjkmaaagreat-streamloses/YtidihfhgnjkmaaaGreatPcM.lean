/- Parcels: what they are, what is wrong with them; items as they are read. -/
import Derived.Test.YtidihfhgnjkmaaaGreatSpY
import Derived.Test.YtidihfhgnjkmaaaGreatFrame
namespace Go.Proofs.YtidihfhgnjkmaaaGreat
open Go.ChangeShapes Go.WideShapes Go.ChangeAt Go.RowKit

/-- An item. -/
structure It where
  tick : Int
  for_ : Int
  body : List Nat
/-- A parcel. -/
structure Pc where
  kind : Int
  pub : Int
  sub : Int
  n_ : Int
  fr : Int
  to_ : Int
  spans : List Sp
  items : List It

/-- A slice reads as those items. -/
structure ItsRd (w : World) (a : Option Addr) (n : Nat) (l : List It) : Prop where
  size : l.length = n
  cells : l = [] ∨ ∃ g o, a = some ⟨g, o, none⟩ ∧ g < w.heap.size ∧ ∀ (i : Nat) (q : It), l[i]? = some q → w.cell? ⟨g, o + i * 3, none⟩ = some (.int .i64 q.tick) ∧ w.cell? ⟨g, o + i * 3 + 1, none⟩ = some (.int .u32 q.for_) ∧ ∃ ba bl bc, w.cell? ⟨g, o + i * 3 + 2, none⟩ = some (.slice ba bl bc) ∧ Rd w ba bl q.body ∧ (ba = none → bc = 0) ∧ bl ≤ bc ∧ bc ≤ 9223372036854775807
  each : ∀ q ∈ l, ((-9223372036854775808 : Int) ≤ q.tick ∧ q.tick ≤ 9223372036854775807) ∧ (0 ≤ q.for_ ∧ q.for_ ≤ 4294967295)
theorem ItsRd.below {w w' : World} {a : Option Addr} {n : Nat} {l : List It} (h : ItsRd w a n l) (hb : Below w.heap.size w w') : ItsRd w' a n l := by
  refine ⟨h.size, ?_, h.each⟩
  rcases h.cells with h0 | ⟨g, o, ha, hg, hc⟩
  · exact .inl h0
  · refine .inr ⟨g, o, ha, Nat.lt_of_lt_of_le hg hb.size, fun i q hi => ?_⟩
    rw [hb.cell (p := ⟨g, o + i * 3, none⟩) hg, hb.cell (p := ⟨g, o + i * 3 + 1, none⟩) hg, hb.cell (p := ⟨g, o + i * 3 + 2, none⟩) hg]
    obtain ⟨h1, h2, ba, bl, bc, h3, h4, h5⟩ := hc i q hi
    exact ⟨h1, h2, ba, bl, bc, h3, h4.below hb, h5⟩
theorem ItsRd.at_ {w : World} {a : Option Addr} {n : Nat} {l : List It} (h : ItsRd w a n l) (i : Nat) (hi : i < n) : ∃ g o, a = some ⟨g, o, none⟩ ∧ g < w.heap.size ∧ ∃ q, l[i]? = some q ∧ w.cell? ⟨g, o + i * 3, none⟩ = some (.int .i64 q.tick) ∧ w.cell? ⟨g, o + i * 3 + 1, none⟩ = some (.int .u32 q.for_) ∧ ∃ ba bl bc, w.cell? ⟨g, o + i * 3 + 2, none⟩ = some (.slice ba bl bc) ∧ Rd w ba bl q.body ∧ (ba = none → bc = 0) ∧ bl ≤ bc ∧ bc ≤ 9223372036854775807 := by
  have hl : i < l.length := by rw [h.size]; exact hi
  rcases h.cells with rfl | ⟨g, o, ha, hg, hc⟩
  · simp at hl
  · exact ⟨g, o, ha, hg, l[i], List.getElem?_eq_getElem hl, hc i l[i] (List.getElem?_eq_getElem hl)⟩
theorem it_at {l : List It} {k : Nat} {q : It} (hq : l[k]? = some q) : l.drop k = q :: l.drop (k + 1) := by
  obtain ⟨h1, h2⟩ := List.getElem?_eq_some_iff.1 hq
  rw [List.drop_eq_getElem_cons h1, h2]

/-- A parcel's slices in memory: where they lie, and what they read as. -/
structure PcRd (w : World) (p : Pc) (sa : Option Addr) (sn sc : Nat) (ia : Option Addr) (im ic : Nat) : Prop where
  spans : SpsRd w sa sn p.spans
  items : ItsRd w ia im p.items
  sl : sn ≤ sc
  sm : sc ≤ maxLen
  il : im ≤ ic
  im_ : ic ≤ maxLen
theorem PcRd.below {w w' : World} {p : Pc} {sa : Option Addr} {sn sc : Nat} {ia : Option Addr} {im ic : Nat} (h : PcRd w p sa sn sc ia im ic) (hb : Below w.heap.size w w') : PcRd w' p sa sn sc ia im ic := ⟨h.spans.below hb, h.items.below hb, h.sl, h.sm, h.il, h.im_⟩
/-- A parcel as a value. -/
abbrev Pc.val (p : Pc) (sa : Option Addr) (sn sc : Nat) (ia : Option Addr) (im ic : Nat) : Value := .agg #[.int .i64 p.kind, .int .i64 p.pub, .int .i64 p.sub, .int .i64 p.n_, .int .i64 p.fr, .int .i64 p.to_, .slice sa sn sc, .slice ia im ic]

/-- What a kind uses. -/
def newsB (k : Int) : Bool := decide (k = 1)
def toB (k : Int) : Bool := decide (k = 1 ∨ k = 2)
def fromB (k : Int) : Bool := decide (k = 1 ∨ k = 2 ∨ k = 3 ∨ k = 5)
def subB (k : Int) : Bool := decide (k = 3 ∨ k = 4 ∨ k = 5 ∨ k = 6)
def isB (k : Int) : Bool := decide (1 ≤ k ∧ k ≤ 6)
/-- May the numbers be? -/
def pubB (p : Pc) : Bool := decide (0 ≤ p.pub ∧ p.pub < 3)
def namB (p : Pc) : Bool := decide (1 ≤ p.sub ∧ p.sub ≤ 32 ∧ 1 ≤ p.n_ ∧ p.n_ ≤ 1073741824)
def rngB (p : Pc) : Bool := decide (1 ≤ p.fr ∧ p.fr ≤ p.to_ ∧ p.to_ ≤ 1099511627776)
def froB (p : Pc) : Bool := decide (0 ≤ p.fr ∧ p.fr ≤ 1099511627776)
def numB (p : Pc) (su fr to_ : Bool) : Bool := pubB p && (!su || namB p) && (if to_ then rngB p else (!fr || froB p))
def inB (p : Pc) (s : Sp) : Bool := decide ((s.is = 2 ∨ s.is = 3) ∧ p.fr ≤ s.fr ∧ s.to ≤ p.to_)
def spB (p : Pc) : Bool := p.spans.all (inB p) && rightB Sp.zr p.spans
/-- What is wrong with the items. -/
def itE (p : Pc) : Int → List It → Int
  | _, [] => 0
  | least, q :: l => if q.tick < least ∨ p.to_ < q.tick ∨ atS p.spans q.tick ≠ 0 then 14 else if 400 < q.body.length then 6 else itE p (q.tick + 1) l
theorem itE_tick {p : Pc} {least : Int} {q : It} {l : List It} (h : q.tick < least ∨ p.to_ < q.tick ∨ atS p.spans q.tick ≠ 0) : itE p least (q :: l) = 14 := by rw [itE, if_pos h]
theorem itE_long {p : Pc} {least : Int} {q : It} {l : List It} (h : ¬ (q.tick < least ∨ p.to_ < q.tick ∨ atS p.spans q.tick ≠ 0)) (h2 : 400 < q.body.length) : itE p least (q :: l) = 6 := by rw [itE, if_neg h, if_pos h2]
theorem itE_next {p : Pc} {least : Int} {q : It} {l : List It} (h : ¬ (q.tick < least ∨ p.to_ < q.tick ∨ atS p.spans q.tick ≠ 0)) (h2 : ¬ 400 < q.body.length) : itE p least (q :: l) = itE p (q.tick + 1) l := by rw [itE, if_neg h, if_neg h2]
def chk (p : Pc) : Int :=
  if isB p.kind = true then
    (if numB p (subB p.kind) (fromB p.kind) (toB p.kind) = true then
      (if newsB p.kind = true then (if 32 < p.spans.length ∨ 8 < p.items.length then 6 else if spB p = true then itE p p.fr p.items else 4) else 0) else 2) else 12
theorem chk_type {p : Pc} (h : isB p.kind = false) : chk p = 12 := by rw [chk, h]; rfl
theorem chk_arg {p : Pc} (h : isB p.kind = true) (h2 : numB p (subB p.kind) (fromB p.kind) (toB p.kind) = false) : chk p = 2 := by rw [chk, if_pos h, h2]; rfl
theorem chk_plain {p : Pc} (h : isB p.kind = true) (h2 : numB p (subB p.kind) (fromB p.kind) (toB p.kind) = true) (h3 : newsB p.kind = false) : chk p = 0 := by rw [chk, if_pos h, if_pos h2, h3]; rfl
theorem chk_many {p : Pc} (h : isB p.kind = true) (h2 : numB p (subB p.kind) (fromB p.kind) (toB p.kind) = true) (h3 : newsB p.kind = true) (h4 : 32 < p.spans.length ∨ 8 < p.items.length) : chk p = 6 := by rw [chk, if_pos h, if_pos h2, if_pos h3, if_pos h4]
theorem chk_form {p : Pc} (h : isB p.kind = true) (h2 : numB p (subB p.kind) (fromB p.kind) (toB p.kind) = true) (h3 : newsB p.kind = true) (h4 : ¬ (32 < p.spans.length ∨ 8 < p.items.length)) (h5 : spB p = false) : chk p = 4 := by rw [chk, if_pos h, if_pos h2, if_pos h3, if_neg h4, h5]; rfl
theorem chk_items {p : Pc} (h : isB p.kind = true) (h2 : numB p (subB p.kind) (fromB p.kind) (toB p.kind) = true) (h3 : newsB p.kind = true) (h4 : ¬ (32 < p.spans.length ∨ 8 < p.items.length)) (h5 : spB p = true) : chk p = itE p p.fr p.items := by rw [chk, if_pos h, if_pos h2, if_pos h3, if_neg h4, if_pos h5]
theorem num_to {p : Pc} {su fr : Bool} (h : numB p su fr true = true) : rngB p = true := by
  simp only [numB, if_true, Bool.and_eq_true] at h
  exact h.2
theorem kinds {k : Int} (h : isB k = true) : k = 1 ∨ k = 2 ∨ k = 3 ∨ k = 4 ∨ k = 5 ∨ k = 6 := by
  simp only [isB, decide_eq_true_eq] at h
  omega
end Go.Proofs.YtidihfhgnjkmaaaGreat
