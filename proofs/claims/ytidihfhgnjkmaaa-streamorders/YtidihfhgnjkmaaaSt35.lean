/- A stream that has learnt some of the parcels. -/
import Derived.Test.YtidihfhgnjkmaaaSt34
namespace Go.Proofs.Ytidihfhgnjkmaaa
set_option maxRecDepth 100000
open Go.RowKit Go.Maps Go.Sort Go.Shelf

theorem Stm.apart2 {w : World} {s m s2 m2 : Nat} {a a2 : Option Addr} {n c n2 c2 : Nat} {l l2 : List Sp} {X X2 : List (Int × Value)} (h : Stm w s m a n c l X) (h2 : Stm w s2 m2 a2 n2 c2 l2 X2) : s ≠ m2 := by
  rintro rfl
  obtain ⟨es, clock, hb, _⟩ := h2.items
  have := h.blk.symm.trans hb
  cases this
/-- A stream stays where another one's two blocks turn. -/
theorem Stm.two2 {w w' : World} {s m s2 m2 : Nat} {a a2 : Option Addr} {n c n2 c2 : Nat} {l l2 : List Sp} {X X2 : List (Int × Value)} (h : Stm w s m a n c l X) (h2 : Stm w s2 m2 a2 n2 c2 l2 X2) (hb : Two s2 m2 w w') (hs : s ≠ s2) (hm : m ≠ m2) : Stm w' s m a n c l X := by
  have hl := h.items.lt
  refine ⟨Two.bk h.blk hb hs (h.apart2 h2), ⟨⟨h.ok.rd.size, ?_⟩, h.ok.lc, h.ok.cm, h.ok.right⟩, ?_, h.rise, fun ad e => ⟨Nat.lt_of_lt_of_le (h.apart ad e).1 hb.size, (h.apart ad e).2⟩⟩
  · rcases h.ok.rd.cells with h0 | ⟨g, o, ha, hg, hc⟩
    · exact .inl h0
    · cases l with
      | nil => exact .inl rfl
      | cons q l =>
        have h1 := (hc 0 q rfl).1
        have e1 : g ≠ s2 := by
          rintro rfl
          have : w.cell? ⟨g, o + 0 * 3, none⟩ = (#[Value.slice a2 n2 c2, .map (some m2)] : Array Value)[o + 0 * 3]? := cell_of_row w g _ _ _ _ h2.blk
          rw [h1] at this
          match o, this with
          | 0, this => cases this
          | 1, this => cases this
          | o + 2, this => cases this
        have e2 : g ≠ m2 := by
          rintro rfl
          obtain ⟨es, clock, hb, _⟩ := h2.items
          unfold World.cell? at h1
          simp only [hb] at h1
          cases h1
        refine .inr ⟨g, o, ha, Nat.lt_of_lt_of_le hg hb.size, fun i q hi => ?_⟩
        have e := hb.block g hg e1 e2
        rw [cell_same e, cell_same e, cell_same e]
        exact hc i q hi
  · obtain ⟨es, clock, hbk, F, r⟩ := h.items
    exact ⟨es, clock, (hb.block m hl (Ne.symm (h2.apart2 h)) hm).trans hbk, F, r⟩
theorem Strm.two2 {w w' : World} {s m s2 m2 : Nat} {a a2 : Option Addr} {n c n2 c2 : Nat} {l l2 : List Sp} {X X2 : List (Int × Value)} {I : Int → Option It} (h : Strm w s m l I a n c X) (h2 : Stm w s2 m2 a2 n2 c2 l2 X2) (hb : Two s2 m2 w w') (hs : s ≠ s2) (hm : m ≠ m2) : Strm w' s m l I a n c X := by
  refine ⟨h.stm.two2 h2 hb hs hm, fun t => ?_, h.data⟩
  have hi := h.its t
  cases ho : I t with
  | none => rw [ho] at hi; exact hi
  | some q =>
    rw [ho] at hi
    obtain ⟨h1, h2', h3, ba, bc, h4, h5⟩ := hi
    exact ⟨h1, h2', h3, ba, bc, h4, Rd.two h2 h5 hb⟩
/-- The ticks of all items. -/
def tks (L : List Pa) : List Int := (L.flatMap fun q => q.p.items).map fun x => x.tick
theorem tks_len (L : List Pa) : (tks L).length = tot L := by unfold tks tot; rw [List.length_map]
theorem tks_mem {L : List Pa} {q : Pa} (hq : q ∈ L) : ∀ x ∈ q.p.items, x.tick ∈ tks L := fun x hx => List.mem_map.2 ⟨x, List.mem_flatMap.2 ⟨q, hq, hx⟩, rfl⟩
/-- A stream that has learnt of the parcels L those that S names. -/
def LStr (w : World) (s m : Nat) (L : List Pa) (S : Pc → Prop) : Prop := ∃ l I P, Str w s m l I ∧ Learnt bod P (atS l) I ∧ (∀ p, p ∈ P ↔ S p) ∧ ∀ t, (I t).isSome = true → t ∈ tks L
theorem LStr.new {w : World} {s m : Nat} (L : List Pa) (h : Stm w s m none 0 0 [] []) : LStr w s m L fun _ => False := by
  refine ⟨[], fun _ => none, [], ⟨none, 0, 0, [], h, fun t => rfl, fun t => ?_⟩, ?_, fun p => by simp, fun t ht => by cases ht⟩
  · show (0 : Int) = 1 ↔ _
    simp
  · exact Learnt.none_ bod
theorem LStr.stay {w w' : World} {s m : Nat} {L : List Pa} {S : Pc → Prop} (h : LStr w s m L S) (hb : Below w.heap.size w w') : LStr w' s m L S := by
  obtain ⟨l, I, P, h1, h2⟩ := h
  exact ⟨l, I, P, h1.stay hb, h2⟩
theorem LStr.iff {w : World} {s m : Nat} {L : List Pa} {S S' : Pc → Prop} (h : LStr w s m L S) (hs : ∀ p, S p ↔ S' p) : LStr w s m L S' := by
  obtain ⟨l, I, P, h1, h2, h3, h4⟩ := h
  exact ⟨l, I, P, h1, h2, fun p => (h3 p).trans (hs p), h4⟩
theorem LStr.two {w w' : World} {s m s2 m2 : Nat} {L L2 : List Pa} {S S2 : Pc → Prop} (h : LStr w s m L S) (h2 : LStr w s2 m2 L2 S2) (hb : Two s2 m2 w w') (hs : s ≠ s2) (hm : m ≠ m2) : LStr w' s m L S := by
  obtain ⟨l, I, P, ⟨a, n, c, X, h1⟩, hr⟩ := h
  obtain ⟨l2, I2, P2, ⟨a2, n2, c2, X2, h3⟩, _⟩ := h2
  exact ⟨l, I, P, ⟨a, n, c, X, h1.two2 h3.stm hb hs hm⟩, hr⟩
/-- A parcel is learnt. -/
theorem lstr_Learn {w : World} {s m B : Nat} {L : List Pa} {S : Pc → Prop} {v : Value} (h : LStr w s m L S) (hB : Bodies w B v L) {q : Pa} (hq : q ∈ L) :
    Calls Try.prog 6 #[.pointer (some ⟨s, 0, none⟩), q.p.val q.sa q.sn q.sc q.ia q.im q.ic] w fun e w' => (∃ r : Bool, e = .returned (.tuple #[.bool r, .int .i64 0]) ∧ (S q.p → r = false)) ∧ LStr w' s m L (fun p => p = q.p ∨ S p) ∧ Two s m w w' := by
  obtain ⟨l, I, P, h1, h2, h3, h4⟩ := h
  obtain ⟨hok, hbd⟩ := hB.ok q hq
  have hr : PcRd w q.p q.sa q.sn q.sc q.ia q.im q.ic := (hB.row.each q hq).rd fun x hx => by
    have := hok.each x hx
    exact ⟨by omega, this.2.1⟩
  refine (st_Learn h1 h4 (by rw [tks_len]; exact hB.few) hok (tks_mem hq) hr).mono ?_
  rintro e w' ⟨⟨r, he, hf⟩, ⟨l', hs', hk'⟩, ht⟩
  refine ⟨⟨r, he, fun hS => ?_⟩, ⟨l', learnI (atS l) I q.p, q.p :: P, hs', ?_, fun p => ?_, ?_⟩, ht⟩
  · obtain ⟨a1, a2⟩ := h2.again hok hbd ((h3 _).2 hS)
    exact hf a1 fun t => by unfold forI; rw [a2 t]
  · rw [show atS l' = learnK (atS l) I q.p from funext hk']
    exact h2.more hok hbd
  · rw [List.mem_cons, h3 p]
  · exact steps_in _ _ _ (onlyI_in h4) (tks_mem hq)
/-- Two that have learnt the same. -/
theorem LStr.both {w : World} {s m s2 m2 : Nat} {L : List Pa} {S S2 : Pc → Prop} (h : LStr w s m L S) (h2 : LStr w s2 m2 L S2) (hs : ∀ p, S p ↔ S2 p) : ∃ l I, Str w s m l I ∧ Str w s2 m2 l I := by
  obtain ⟨l, I, P, h1, a2, a3, a4⟩ := h
  obtain ⟨l2, I2, P2, b1, b2, b3, b4⟩ := h2
  obtain ⟨hk, hi⟩ := a2.same b2 fun p => (a3 p).trans ((hs p).trans (b3 p).symm)
  obtain rfl : I = I2 := funext hi
  obtain ⟨a, n, c, X, h1'⟩ := h1
  obtain ⟨a', n', c', X', b1'⟩ := b1
  obtain rfl := canonS l l2 _ _ h1'.stm.ok.right b1'.stm.ok.right hk
  exact ⟨l, I, ⟨a, n, c, X, h1'⟩, a', n', c', X', b1'⟩
theorem parow_at : ∀ (L : List Pa) (i : Nat) (q : Pa), L[i]? = some q → ∀ j, j < 8 → (L.flatMap pacells)[i * 8 + j]? = (pacells q)[j]?
  | [], _, _, h, _, _ => by simp at h
  | x :: L, 0, q, h, j, hj => by
    obtain rfl : x = q := by simpa using h
    rw [List.flatMap_cons, List.getElem?_append_left (by show 0 * 8 + j < 8; omega)]
    simp
  | x :: L, i + 1, q, h, j, hj => by
    rw [List.flatMap_cons, List.getElem?_append_right (by show 8 ≤ _; omega), show (i + 1) * 8 + j - (pacells x).length = i * 8 + j from by show _ - 8 = _; omega]
    exact parow_at L i q (by simpa using h) j hj
/-- One parcel of a row. -/
theorem Prow.spot {w : World} {base : Nat} {a : Option Addr} {n c : Nat} {L : List Pa} (h : Prow w base (.slice a n c) L) (i : Nat) (hi : i < L.length) : ∃ g q, a = some ⟨g, 0, none⟩ ∧ L[i]? = some q ∧ PaAt w g (i * 8) q := by
  rcases h.row.2 with ⟨hv, hn⟩ | ⟨g', c', cur, hv, hb, hg, hlc, hmx, hs, ht⟩
  · omega
  · simp only [Value.slice.injEq] at hv
    obtain ⟨rfl, rfl, rfl⟩ := hv
    refine ⟨g', L[i], rfl, List.getElem?_eq_getElem hi, ?_⟩
    have key : ∀ j, j < 8 → w.cell? ⟨g', i * 8 + j, none⟩ = (pacells L[i])[j]? := by
      intro j hj
      have h1 := parow_at L i L[i] (List.getElem?_eq_getElem hi) j hj
      rw [← ht, List.getElem?_take_of_lt (by omega), Array.getElem?_toList] at h1
      rw [cell_of_row w g' _ cur _ _ hg, h1]
    exact ⟨key 0 (by omega), key 1 (by omega), key 2 (by omega), key 3 (by omega), key 4 (by omega), key 5 (by omega), key 6 (by omega), key 7 (by omega)⟩
end Go.Proofs.Ytidihfhgnjkmaaa
