/- A script of deeds that came in. -/
import Derived.Test.YtfkephohdfmnlaaSec6
import Derived.Test.YtfkephohdfmnlaaFrame
import Derived.Deep.SlicePairs
namespace Go.Proofs.Ytfkephohdfmnlaa
open Go.ChangeShapes Go.WideShapes Go.ChangeAt Go.RowKit

/-- A deed, as it is read: its kind, its place, its bytes. -/
structure Dd where
  kind : Int
  at_ : Int
  ba : Option Addr
  bl : Nat
  bc : Nat
  bs : List Nat
  v3 : Value
structure DdsRd (w : World) (a : Option Addr) (n : Nat) (l : List Dd) : Prop where
  size : l.length = n
  cells : l = [] ∨ ∃ g o, a = some ⟨g, o, none⟩ ∧ g < w.heap.size ∧ ∀ (i : Nat) (q : Dd), l[i]? = some q → w.cell? ⟨g, o + i * 4, none⟩ = some (.int .i64 q.kind) ∧ w.cell? ⟨g, o + i * 4 + 1, none⟩ = some (.int .i64 q.at_) ∧ w.cell? ⟨g, o + i * 4 + 2, none⟩ = some (.slice q.ba q.bl q.bc)
  each : ∀ q ∈ l, Rd w q.ba q.bl q.bs ∧ q.bl ≤ 9223372036854775807
theorem DdsRd.below {w w' : World} {a : Option Addr} {n : Nat} {l : List Dd} (h : DdsRd w a n l) (hb : Below w.heap.size w w') : DdsRd w' a n l := by
  refine ⟨h.size, ?_, fun q hq => ⟨(h.each q hq).1.below hb, (h.each q hq).2⟩⟩
  rcases h.cells with h0 | ⟨g, o, ha, hg, hc⟩
  · exact .inl h0
  · refine .inr ⟨g, o, ha, Nat.lt_of_lt_of_le hg hb.size, fun i q hi => ?_⟩
    rw [hb.cell (p := ⟨g, o + i * 4, none⟩) hg, hb.cell (p := ⟨g, o + i * 4 + 1, none⟩) hg, hb.cell (p := ⟨g, o + i * 4 + 2, none⟩) hg]
    exact hc i q hi
theorem DdsRd.spot {w : World} {a : Option Addr} {n : Nat} {l : List Dd} (h : DdsRd w a n l) (i : Nat) (hi : i < n) : ∃ g o, a = some ⟨g, o, none⟩ ∧ g < w.heap.size ∧ ∃ q, l[i]? = some q ∧ w.cell? ⟨g, o + i * 4, none⟩ = some (.int .i64 q.kind) ∧ w.cell? ⟨g, o + i * 4 + 1, none⟩ = some (.int .i64 q.at_) ∧ w.cell? ⟨g, o + i * 4 + 2, none⟩ = some (.slice q.ba q.bl q.bc) := by
  have hl : i < l.length := by rw [h.size]; exact hi
  rcases h.cells with rfl | ⟨g, o, ha, hg, hc⟩
  · simp at hl
  · exact ⟨g, o, ha, hg, l[i], List.getElem?_eq_getElem hl, hc i l[i] (List.getElem?_eq_getElem hl)⟩
/-- A slice of bytes in a cell that came in. -/
theorem rd_cell {H : Type} {enc : TypeId × Value → H} {W : World} {fuel : Nat} {v : Value} {x : DataW H × List MemPlace}
    (h : DataW.trod enc Try.prog W 0 (fun _ => true) true fuel 29 [v] = some x) : ∃ a len cap bs, v = .slice a len cap ∧ Rd W a len bs ∧ len ≤ cap ∧ cap ≤ 9223372036854775807 := by
  rcases open_ints Try.underlying29 Try.underlying5 (by kernel_rfl) h with ⟨hcs, hx⟩ | ⟨y, l, c, zs, hcs, hrest⟩
  · have hv : v = .slice none 0 0 := by simpa using hcs
    subst hv
    obtain ⟨bs, hb⟩ := rd_of (W := W) (enc := enc) (a := none) (len := 0) (cap := 0) (d := x.1) (p := x.2) ⟨fuel, h⟩
    exact ⟨none, 0, 0, bs, rfl, hb.1, hb.2.1, hb.2.2.1⟩
  · have hv : v = .slice (some y) l c := by simpa using hcs
    subst hv
    obtain ⟨bs, hb⟩ := rd_of (W := W) (enc := enc) (a := some y) (len := l) (cap := c) (d := x.1) (p := x.2) ⟨fuel, h⟩
    exact ⟨some y, l, c, bs, rfl, hb.1, hb.2.1, hb.2.2.1⟩

theorem open_deeds {H : Type} {enc : TypeId × Value → H} {W : World} {a : Option Addr} {n cap : Nat} {d : DataW H} {p : List MemPlace}
    (h : DataW.Trod enc Try.prog W 0 (fun _ => true) true 37 (.slice a n cap) d p) : ∃ l, DdsRd W a n l ∧ n ≤ cap ∧ cap ≤ maxLen := by
  obtain ⟨fuel, hf⟩ := h
  rcases Go.Deep.open_slice Try.underlying37 hf with ⟨hcs, hx⟩ | ⟨x, l, c, m, n', D, Pl, hcs, hb, hl, hm, hmm, hx, hr⟩
  · simp [Value.cells] at hcs
    obtain ⟨rfl, rfl, rfl⟩ := hcs
    exact ⟨[], ⟨rfl, .inl rfl, fun q hq => by cases hq⟩, Nat.le_refl _, by omega⟩
  · simp [Value.cells] at hcs
    obtain ⟨rfl, rfl, rfl⟩ := hcs
    simp only [if_true] at hmm
    subst hmm
    have each : ∀ r, r < m → ∃ q : Dd, W.cell? (x.add (r * 4)) = some (.int .i64 q.kind) ∧ W.cell? (x.add (r * 4 + 1)) = some (.int .i64 q.at_) ∧ W.cell? (x.add (r * 4 + 2)) = some (.slice q.ba q.bl q.bc) ∧ Rd W q.ba q.bl q.bs ∧ q.bl ≤ 9223372036854775807 := by
      intro r hrc
      obtain ⟨cs', h1, h2⟩ := hr r hrc
      rw [show Try.prog.cellsOf 40 = 4 from by kernel_rfl] at h1
      obtain ⟨_, hlen, hcell⟩ := World.cells?_some h1
      obtain ⟨xs, k, hk, hxy, _, hxl, hf⟩ := DataW.trod_struct Try.underlying40 h2
      match xs, hxl, cs', hlen with
      | [y0, y1, y2, y3], _, [v0, v1, v2, v3], _ =>
        have g0 := hf 0 _ rfl
        have g1 := hf 1 _ rfl
        have g2 := hf 2 _ rfl
        rw [show Try.prog.cellsOf _ = 1 from by kernel_rfl] at g0 g1 g2
        simp only [List.getElem?_cons_zero, List.getElem?_cons_succ] at g0 g1 g2
        have e0 := hcell 0 (by omega)
        have e1 := hcell 1 (by omega)
        have e2 := hcell 2 (by omega)
        rw [Go.Deep.add_add] at e0 e1 e2
        obtain ⟨q0, r0, _, s0⟩ := DataW.trod_int Try.underlying3 g0
        obtain ⟨q1, r1, _, s1⟩ := DataW.trod_int Try.underlying3 g1
        obtain ⟨ba, bl, bc, bs, r2, hrd, hlc, hcm⟩ := rd_cell g2
        refine ⟨⟨q0, q1, ba, bl, bc, bs, v3⟩, ?_, ?_, ?_, hrd, Nat.le_trans hlc hcm⟩
        · simp_all
        · simp_all
        · simp_all
    haveI : Inhabited Dd := ⟨⟨0, 0, none, 0, 0, [], .bool false⟩⟩
    obtain ⟨y, hy⟩ := Go.Deep.choose_lt each
    refine ⟨(List.range n).map y, ⟨by simp, ?_, ?_⟩, hl, hm⟩
    · by_cases hn0 : n = 0
      · left; simp [hn0]
      · right
        obtain ⟨b, off, spot⟩ := x
        have hc := (hy 0 (by omega)).1
        have hspot : spot = none := by simpa [Addr.add] using World.cell?_spot hc
        subst hspot
        refine ⟨b, off, rfl, World.block_lt_of_cell? W _ hc, fun i q hi => ?_⟩
        have hin : i < n := by
          have := (List.getElem?_eq_some_iff.1 hi).1
          simpa using this
        have hq : q = y i := by
          rw [List.getElem?_map, List.getElem?_range hin] at hi
          simpa using hi.symm
        subst hq
        have e : ∀ j, (⟨b, off, none⟩ : Addr).add j = ⟨b, off + j, none⟩ := fun j => by unfold Addr.add; split <;> simp_all
        obtain ⟨h2, h3, h4, _⟩ := hy i (by omega)
        rw [e] at h2 h3 h4
        exact ⟨h2, h3, h4⟩
    · intro q hq
      obtain ⟨i, hi, rfl⟩ := List.mem_map.1 hq
      have hin := List.mem_range.1 hi
      exact (hy i (by omega)).2.2.2
end Go.Proofs.Ytfkephohdfmnlaa
