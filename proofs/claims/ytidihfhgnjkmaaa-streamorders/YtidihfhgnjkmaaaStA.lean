/- A list of parcels, as it came in. -/
import Derived.Test.YtidihfhgnjkmaaaPcCells
namespace Go.Proofs.Ytidihfhgnjkmaaa
open Go.ChangeShapes Go.WideShapes Go.ChangeAt Go.RowKit

/-- A parcel, and where its parts lie. -/
structure Pa where
  p : Pc
  sa : Option Addr
  sn : Nat
  sc : Nat
  ia : Option Addr
  im : Nat
  ic : Nat
structure PaOk (w : World) (q : Pa) : Prop where
  rd : PcRd w q.p q.sa q.sn q.sc q.ia q.im q.ic
  big : PcBig q.p q.sa q.sc q.ia q.ic
theorem PaOk.below {w w' : World} {q : Pa} (h : PaOk w q) (hb : Below w.heap.size w w') : PaOk w' q := ⟨h.rd.below hb, h.big⟩
/-- Its cells. -/
def PaAt (w : World) (g o : Nat) (q : Pa) : Prop := w.cell? ⟨g, o, none⟩ = some (.int .i64 q.p.kind) ∧ w.cell? ⟨g, o + 1, none⟩ = some (.int .i64 q.p.pub) ∧ w.cell? ⟨g, o + 2, none⟩ = some (.int .i64 q.p.sub) ∧ w.cell? ⟨g, o + 3, none⟩ = some (.int .i64 q.p.n_) ∧ w.cell? ⟨g, o + 4, none⟩ = some (.int .i64 q.p.fr) ∧ w.cell? ⟨g, o + 5, none⟩ = some (.int .i64 q.p.to_) ∧ w.cell? ⟨g, o + 6, none⟩ = some (.slice q.sa q.sn q.sc) ∧ w.cell? ⟨g, o + 7, none⟩ = some (.slice q.ia q.im q.ic)
theorem PaAt.below {w w' : World} {g o B : Nat} {q : Pa} (h : PaAt w g o q) (hb : Below B w w') (hg : g < B) : PaAt w' g o q := by
  unfold PaAt at h ⊢
  rw [hb.cell (p := ⟨g, o, none⟩) hg, hb.cell (p := ⟨g, o + 1, none⟩) hg, hb.cell (p := ⟨g, o + 2, none⟩) hg, hb.cell (p := ⟨g, o + 3, none⟩) hg, hb.cell (p := ⟨g, o + 4, none⟩) hg, hb.cell (p := ⟨g, o + 5, none⟩) hg, hb.cell (p := ⟨g, o + 6, none⟩) hg, hb.cell (p := ⟨g, o + 7, none⟩) hg]
  exact h
structure PasRd (w : World) (a : Option Addr) (n : Nat) (l : List Pa) : Prop where
  size : l.length = n
  cells : l = [] ∨ ∃ g o, a = some ⟨g, o, none⟩ ∧ g < w.heap.size ∧ ∀ (i : Nat) (q : Pa), l[i]? = some q → PaAt w g (o + i * 8) q
  each : ∀ q ∈ l, PaOk w q
theorem PasRd.below {w w' : World} {a : Option Addr} {n : Nat} {l : List Pa} (h : PasRd w a n l) (hb : Below w.heap.size w w') : PasRd w' a n l := by
  refine ⟨h.size, ?_, fun q hq => (h.each q hq).below hb⟩
  rcases h.cells with h0 | ⟨g, o, ha, hg, hc⟩
  · exact .inl h0
  · exact .inr ⟨g, o, ha, Nat.lt_of_lt_of_le hg hb.size, fun i q hi => (hc i q hi).below hb hg⟩
theorem PasRd.spot {w : World} {a : Option Addr} {n : Nat} {l : List Pa} (h : PasRd w a n l) (i : Nat) (hi : i < n) : ∃ g o, a = some ⟨g, o, none⟩ ∧ g < w.heap.size ∧ ∃ q, l[i]? = some q ∧ PaOk w q ∧ PaAt w g (o + i * 8) q := by
  have hl : i < l.length := by rw [h.size]; exact hi
  rcases h.cells with rfl | ⟨g, o, ha, hg, hc⟩
  · simp at hl
  · exact ⟨g, o, ha, hg, l[i], List.getElem?_eq_getElem hl, h.each _ (List.getElem_mem hl), hc i l[i] (List.getElem?_eq_getElem hl)⟩
set_option maxRecDepth 10000 in
theorem open_parcels {H : Type} {enc : TypeId × Value → H} {W : World} {a : Option Addr} {n cap : Nat} {d : DataW H} {fuel : Nat} {p : List MemPlace}
    (hf : DataW.trod enc Try.prog W 0 (fun _ => true) true fuel 22 [.slice a n cap] = some (d, p)) (hw : ∀ y ∈ DataW.weights Try.prog 22 d, y ≤ reachBytes) : ∃ l, PasRd W a n l ∧ n ≤ cap ∧ cap ≤ maxLen := by
  rcases Go.Deep.open_slice Try.underlying22 hf with ⟨hcs, hx⟩ | ⟨x, l, c, m, n', D, Pl, hcs, hb, hl, hm, hmm, hx, hr⟩
  · simp at hcs
    obtain ⟨rfl, rfl, rfl⟩ := hcs
    exact ⟨[], ⟨rfl, .inl rfl, fun q hq => by cases hq⟩, Nat.le_refl _, by omega⟩
  · simp at hcs
    obtain ⟨rfl, rfl, rfl⟩ := hcs
    simp only [if_true] at hmm
    subst hmm
    simp only [Prod.mk.injEq] at hx
    obtain ⟨rfl, _⟩ := hx
    have hw2 : ∀ r, r < n → ∀ y ∈ DataW.weights Try.prog 33 (D r), y ≤ reachBytes := by
      intro r hr y hy
      refine hw y ?_
      simp only [DataW.weights, Try.underlying22]
      exact List.mem_cons_of_mem _ (List.mem_append_left _ (weights_in' _ _ _ (D r) _ (List.mem_map.2 ⟨r, List.mem_range.2 hr, rfl⟩) hy))
    have each : ∀ r, r < n → ∃ q : Pa, (∀ j u, [Value.int .i64 q.p.kind, .int .i64 q.p.pub, .int .i64 q.p.sub, .int .i64 q.p.n_, .int .i64 q.p.fr, .int .i64 q.p.to_, .slice q.sa q.sn q.sc, .slice q.ia q.im q.ic][j]? = some u → W.cell? (x.add (r * 8 + j)) = some u) ∧ PaOk W q := by
      intro r hrn
      obtain ⟨cs', h1, h2⟩ := hr r (by omega)
      rw [show Try.prog.cellsOf 33 = 8 from by kernel_rfl] at h1
      obtain ⟨_, hlen, hcell⟩ := World.cells?_some h1
      obtain ⟨v0, v1, v2, v3, v4, v5, v6, v7, rfl⟩ := list8 hlen
      obtain ⟨q, sa, sn, sc, ia, im, ic, ⟨e0, e1, e2, e3, e4, e5, e6, e7⟩, hrd, hbig⟩ := parcel_cells h2 (hw2 r hrn)
      refine ⟨⟨q, sa, sn, sc, ia, im, ic⟩, fun j u hj => ?_, hrd, hbig⟩
      have hjl := (List.getElem?_eq_some_iff.1 hj).1
      have e := hcell j (by simpa using hjl)
      rw [Go.Deep.add_add] at e
      rw [e]
      subst e0 e1 e2 e3 e4 e5 e6 e7
      exact hj
    haveI : Inhabited Pa := ⟨⟨⟨0, 0, 0, 0, 0, 0, [], []⟩, none, 0, 0, none, 0, 0⟩⟩
    obtain ⟨y, hy⟩ := Go.Deep.choose_lt each
    refine ⟨(List.range n).map y, ⟨by simp, ?_, ?_⟩, hl, hm⟩
    · by_cases hn0 : n = 0
      · left; simp [hn0]
      · right
        obtain ⟨b, off, spot⟩ := x
        have hc := (hy 0 (by omega)).1 0 _ rfl
        have hspot : spot = none := by simpa [Addr.add] using World.cell?_spot hc
        subst hspot
        refine ⟨b, off, rfl, World.block_lt_of_cell? W _ hc, fun i q hi => ?_⟩
        have hin : i < n := by
          have := (List.getElem?_eq_some_iff.1 hi).1
          simpa using this
        have hq : q = y i := by
          rw [List.getElem?_map, List.getElem?_range hin] at hi
          simpa using hi.symm
        subst hq
        have e : ∀ j, (⟨b, off, none⟩ : Addr).add j = ⟨b, off + j, none⟩ := fun j => by unfold Addr.add; split <;> simp_all
        have h2 := (hy i hin).1
        have h3 : ∀ j u, [Value.int .i64 (y i).p.kind, .int .i64 (y i).p.pub, .int .i64 (y i).p.sub, .int .i64 (y i).p.n_, .int .i64 (y i).p.fr, .int .i64 (y i).p.to_, .slice (y i).sa (y i).sn (y i).sc, .slice (y i).ia (y i).im (y i).ic][j]? = some u → W.cell? ⟨b, off + i * 8 + j, none⟩ = some u := fun j u hj => by
          rw [Nat.add_assoc, ← e]
          exact h2 j u hj
        exact ⟨h3 0 _ rfl, h3 1 _ rfl, h3 2 _ rfl, h3 3 _ rfl, h3 4 _ rfl, h3 5 _ rfl, h3 6 _ rfl, h3 7 _ rfl⟩
    · intro q hq
      obtain ⟨i, hi, rfl⟩ := List.mem_map.1 hq
      have hin := List.mem_range.1 hi
      exact (hy i (by omega)).2
end Go.Proofs.Ytidihfhgnjkmaaa
