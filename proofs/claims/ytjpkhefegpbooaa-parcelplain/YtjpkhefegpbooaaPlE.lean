/- Items of one's own whose bytes and ticks nobody asks for any more. -/
import Derived.Test.YtjpkhefegpbooaaPlD
import Derived.Test.YtjpkhefegpbooaaPlU
import Derived.Test.YtjpkhefegpbooaaStore
import Derived.Test.YtjpkhefegpbooaaPtB2
namespace Go.Proofs.Ytjpkhefegpbooaa
open Go.RowKit

/-- A row of items of one's own, whatever their bodies have. -/
structure Loose (w : World) (base : Nat) (v : Value) (L : List (It × Bd)) : Prop where
  row : w.ownsRow base 36 3 v L.length (irow L)
  bod : ∀ x ∈ L, ∃ bs, Own w base x.2.1 x.2.2.1 x.2.2.2 bs
theorem Its.loose {w : World} {base : Nat} {v : Value} {L : List (It × Bd)} (h : Its w base v L) : Loose w base v L := ⟨h.row, fun x hx => ⟨_, h.bod x hx⟩⟩
theorem own_same {w : World} {base g i v : Nat} (hv : v < 256) {a : Option Addr} {n c : Nat} {bs : List Nat} (h : Own w base a n c bs) : ∃ bs', Own (w.setCell ⟨g, i, none⟩ (.int .u8 (v : Int))) base a n c bs' := by
  rcases h.row.2 with ⟨h1, h0⟩ | ⟨g', c', cur', h1, h2, h3, r⟩
  · exact ⟨bs, ⟨⟨h.row.1, .inl ⟨h1, h0⟩⟩, h.byte⟩⟩
  · by_cases hgg : g' = g
    · subst hgg
      have h1' := h1
      simp only [Value.slice.injEq, true_and] at h1'
      obtain ⟨rfl, rfl⟩ := h1'
      exact ⟨_, h.set i v hv⟩
    · exact ⟨bs, ⟨⟨h.row.1, .inr ⟨g', c', cur', h1, h2, by rw [heap_setCell_other w ⟨g, i, none⟩ g' _ hgg]; exact h3, r⟩⟩, h.byte⟩⟩
theorem type_ne {w : World} {g g' : Nat} {cs cs' : Array Value} {t t' : TypeId} {m m' : Nat × Nat} (h : w.heap[g]? = some (.cells cs t m)) (h' : w.heap[g']? = some (.cells cs' t' m')) (ht : t ≠ t') : g ≠ g' := fun e => by
  subst e
  rw [h] at h'
  simp only [Option.some.injEq, Obj.cells.injEq] at h'
  exact ht h'.2.1
theorem row_away {w : World} {base T n : Nat} {v : Value} {m : Nat} {xs : List Value} (h : w.ownsRow base T n v m xs) {g i : Nat} {u : Value} {cs : Array Value} {t : TypeId} {mk : Nat × Nat} (hg : w.heap[g]? = some (.cells cs t mk)) (ht : T ≠ t) : (w.setCell ⟨g, i, none⟩ u).ownsRow base T n v m xs := by
  refine ⟨h.1, ?_⟩
  rcases h.2 with hn | ⟨g', c, cur, hv, hb, hg', r⟩
  · exact .inl hn
  · exact .inr ⟨g', c, cur, hv, hb, by rw [heap_setCell_other w ⟨g, i, none⟩ g' _ (type_ne hg' hg ht)]; exact hg', r⟩
theorem Loose.poke {w : World} {base : Nat} {v : Value} {L : List (It × Bd)} (h : Loose w base v L) {g i z : Nat} (hz : z < 256) {cs : Array Value} {m : Nat × Nat} (hg : w.heap[g]? = some (.cells cs 5 m)) : Loose (w.setCell ⟨g, i, none⟩ (.int .u8 (z : Int))) base v L :=
  ⟨row_away h.row hg (by decide), fun x hx => by obtain ⟨bs, hb⟩ := h.bod x hx; exact own_same hz hb⟩
theorem irow_set0 : ∀ (L : List (It × Bd)) (i : Nat) (x : It × Bd), L[i]? = some x → (irow L).set (i * 3) (.int .i64 0) = irow (L.set i (⟨0, x.1.for_, x.1.body⟩, x.2))
  | [], i, x, h => by simp at h
  | y :: L, 0, x, h => by
    simp only [List.getElem?_cons_zero, Option.some.injEq] at h
    subst h
    simp [irow, icells]
  | y :: L, i + 1, x, h => by
    rw [List.getElem?_cons_succ] at h
    have e : (icells y.1 y.2).length = 3 := rfl
    rw [irow, List.set_cons_succ, irow, List.set_append_right _ _ (by omega), e, show (i + 1) * 3 - 3 = i * 3 from by omega, irow_set0 L i x h]
theorem Loose.tick {w : World} {base g n c : Nat} {L : List (It × Bd)} (h : Loose w base (.slice (some ⟨g, 0, none⟩) n c) L) {i : Nat} {x : It × Bd} (hx : L[i]? = some x) : ∃ L', Loose (w.setCell ⟨g, i * 3, none⟩ (.int .i64 0)) base (.slice (some ⟨g, 0, none⟩) n c) L' ∧ L'.map Prod.snd = L.map Prod.snd := by
  have hn : n = L.length := by
    rcases h.row.2 with ⟨hv, _⟩ | ⟨g', c', cur, hv, _⟩
    · cases hv
    · simp only [Value.slice.injEq] at hv
      exact hv.2.1
  subst hn
  refine ⟨L.set i (⟨0, x.1.for_, x.1.body⟩, x.2), ⟨?_, fun y hy => ?_⟩, ?_⟩
  · have h2 := (h.row.stored (i * 3) (.int .i64 0)).1
    rw [irow_set0 L i x hx] at h2
    rw [List.length_set]
    exact h2
  · have hf : ∀ k cs m, base ≤ k → w.heap[k]? = some (.cells cs 5 m) → (w.setCell ⟨g, i * 3, none⟩ (.int .i64 0)).heap[k]? = some (.cells cs 5 m) := fun k cs m _ hk => by
      rcases h.row.2 with ⟨h3, _⟩ | ⟨g', c', cur, h3, _, h4, _⟩
      · cases h3
      · simp only [Value.slice.injEq, Option.some.injEq, Addr.mk.injEq] at h3
        obtain ⟨⟨rfl, _⟩, _⟩ := h3
        rw [heap_setCell_other w ⟨g, i * 3, none⟩ k _ (type_ne hk h4 (by decide))]
        exact hk
    rcases List.mem_or_eq_of_mem_set hy with hy | rfl
    · obtain ⟨bs, hb⟩ := h.bod y hy
      exact ⟨bs, own_frame hb hf⟩
    · obtain ⟨bs, hb⟩ := h.bod x (List.mem_of_getElem? hx)
      exact ⟨bs, own_frame hb hf⟩
  · rw [List.map_set]
    apply List.ext_getElem?
    intro j
    by_cases hij : i = j
    · subst hij
      rw [List.getElem?_set_self (by rw [List.length_map]; exact (List.getElem?_eq_some_iff.1 hx).1), List.getElem?_map, hx]
      rfl
    · rw [List.getElem?_set_ne hij]
theorem Loose.at_ {w : World} {base g n c : Nat} {L L' : List (It × Bd)} (h : Loose w base (.slice (some ⟨g, 0, none⟩) n c) L') (hL : L'.map Prod.snd = L.map Prod.snd) {i : Nat} {x : It × Bd} (hi : L[i]? = some x) : w.cell? ⟨g, i * 3 + 2, none⟩ = some (.slice x.2.1 x.2.2.1 x.2.2.2) ∧ w.frozen? ⟨g, i * 3, none⟩ = false ∧ (∃ t : Int, w.cell? ⟨g, i * 3, none⟩ = some (.int .i64 t)) ∧ (∃ bs, Own w base x.2.1 x.2.2.1 x.2.2.2 bs) ∧ ∃ y, L'[i]? = some y := by
  have hn : n = L'.length := by
    rcases h.row.2 with ⟨hv, _⟩ | ⟨g', c', cur, hv, _⟩
    · cases hv
    · simp only [Value.slice.injEq] at hv
      exact hv.2.1
  subst hn
  have hil : i < L'.length := by
    have h1 := congrArg List.length hL
    rw [List.length_map, List.length_map] at h1
    rw [h1]
    exact (List.getElem?_eq_some_iff.1 hi).1
  have hy : L'[i]? = some L'[i] := List.getElem?_eq_getElem hil
  have hs : L'[i].2 = x.2 := by
    have h1 := congrArg (fun l => l[i]?) hL
    simp only [List.getElem?_map, hi, hy, Option.map_some, Option.some.injEq] at h1
    exact h1
  have c2 : w.cell? ⟨g, i * 3 + 2, none⟩ = some (.slice x.2.1 x.2.2.1 x.2.2.2) := by
    rw [h.row.cellAt (i * 3 + 2) (by omega), irow_at L' i _ hy 2 (by omega), ← hs]
    rfl
  have c0 : w.cell? ⟨g, i * 3, none⟩ = some (.int .i64 L'[i].1.tick) := by
    have h3 := irow_at L' i _ hy 0 (by omega)
    rw [Nat.add_zero] at h3
    rw [h.row.cellAt (i * 3) (by omega), h3]
    rfl
  refine ⟨c2, h.row.frozenAt _, ⟨_, c0⟩, ?_, ⟨_, hy⟩⟩
  obtain ⟨bs, hb⟩ := h.bod _ (List.getElem_mem hil)
  rw [hs] at hb
  exact ⟨bs, hb⟩
theorem flat3_set : ∀ (l : List Sp) (i : Nat) (q : Sp), l[i]? = some q → (l.flatMap fun q => q.cells.toList).set (i * 3 + 1) (.int .i64 0) = (l.set i ⟨q.fr, 0, q.is⟩).flatMap fun q => q.cells.toList
  | [], i, q, h => by simp at h
  | y :: l, 0, q, h => by
    simp only [List.getElem?_cons_zero, Option.some.injEq] at h
    subst h
    simp [Sp.cells]
  | y :: l, i + 1, q, h => by
    rw [List.getElem?_cons_succ] at h
    have e : y.cells.toList.length = 3 := rfl
    rw [List.flatMap_cons, List.set_cons_succ, List.flatMap_cons, List.set_append_right _ _ (by omega), e, show (i + 1) * 3 + 1 - 3 = i * 3 + 1 from by omega, flat3_set l i q h]
theorem Sps.poke {w : World} {base g n c : Nat} {l : List Sp} (h : Sps w base (.slice (some ⟨g, 0, none⟩) n c) l) {i : Nat} (hi : i < l.length) : ∃ l', Sps (w.setCell ⟨g, i * 3 + 1, none⟩ (.int .i64 0)) base (.slice (some ⟨g, 0, none⟩) n c) l' ∧ l'.length = l.length := by
  have hn : n = l.length := by
    rcases h.row.2 with ⟨hv, _⟩ | ⟨g', c', cur, hv, _⟩
    · cases hv
    · simp only [Value.slice.injEq] at hv
      exact hv.2.1
  subst hn
  refine ⟨l.set i ⟨l[i].fr, 0, l[i].is⟩, ⟨?_⟩, List.length_set⟩
  have h2 := (h.row.stored (i * 3 + 1) (.int .i64 0)).1
  rw [flat3_set l i l[i] (List.getElem?_eq_getElem hi)] at h2
  rw [List.length_set]
  exact h2
theorem Sps.away {w : World} {base : Nat} {v : Value} {l : List Sp} (h : Sps w base v l) {g i : Nat} {u : Value} {cs : Array Value} {t : TypeId} {m : Nat × Nat} (hg : w.heap[g]? = some (.cells cs t m)) (ht : 39 ≠ t) : Sps (w.setCell ⟨g, i, none⟩ u) base v l := ⟨row_away h.row hg ht⟩
theorem own_block {w : World} {base g n c : Nat} {bs : List Nat} (h : Own w base (some ⟨g, 0, none⟩) n c bs) : ∃ cur, w.heap[g]? = some (.cells cur 5 (0, 0)) := by
  rcases h.row.2 with ⟨hv, _⟩ | ⟨g', c', cur, hv, _, hg, _⟩
  · cases hv
  · simp only [Value.slice.injEq, Option.some.injEq, Addr.mk.injEq] at hv
    obtain ⟨⟨rfl, _⟩, _⟩ := hv
    exact ⟨cur, hg⟩
theorem loose_block {w : World} {base g n c : Nat} {L : List (It × Bd)} (h : Loose w base (.slice (some ⟨g, 0, none⟩) n c) L) : ∃ cur, w.heap[g]? = some (.cells cur 36 (0, 0)) := by
  rcases h.row.2 with ⟨hv, _⟩ | ⟨g', c', cur, hv, _, hg, _⟩
  · cases hv
  · simp only [Value.slice.injEq, Option.some.injEq, Addr.mk.injEq] at hv
    obtain ⟨⟨rfl, _⟩, _⟩ := hv
    exact ⟨cur, hg⟩
theorem plainQ_mid {w : World} {p : Pc} {sa : Option Addr} {sn sc : Nat} {ia : Option Addr} {im ic : Nat} (h : PcMid p sa sn sc ia im ic) (hp : PcRd w p sa sn sc ia im ic) {w' : World} {ua : Option Addr} {un uc : Nat} {va : Option Addr} {vm vc : Nat} (hx : PcRd w' (plainQ p) ua un uc va vm vc) (hu : ua = none → uc = 0) (hv : va = none → vc = 0) : PcMid (plainQ p) ua un uc va vm vc := by
  have e1 : (plainQ p).spans = p.spans ∨ (plainQ p).spans = [] := by
    unfold plainQ
    split
    · simp only [plainP]; split
      · exact .inl rfl
      · exact .inr rfl
    · exact .inr rfl
  have e2 : (plainQ p).items = p.items ∨ (plainQ p).items = [] := by
    unfold plainQ
    split
    · simp only [plainP]; split
      · exact .inl rfl
      · exact .inr rfl
    · exact .inr rfl
  refine ⟨?_, hu, ?_, hv, fun q hq => h.bb q (plainQ_items hq)⟩
  · rw [← hx.spans.size]
    rcases e1 with e | e
    · rw [e, hp.spans.size]; exact h.sb
    · rw [e]; simp
  · rw [← hx.items.size]
    rcases e2 with e | e
    · rw [e, hp.items.size]; exact h.ib
    · rw [e]; simp
theorem chk_plainQ {p : Pc} (h : chk p = 0) : chk (plainQ p) = 0 := by
  rw [plainQ_is (chk_zero h).1]
  exact chk_plainP h
end Go.Proofs.Ytjpkhefegpbooaa
