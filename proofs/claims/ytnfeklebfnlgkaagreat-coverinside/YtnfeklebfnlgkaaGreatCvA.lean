/- cover: a box that came in. -/
import Derived.Test.YtnfeklebfnlgkaaGreatCvC3
import Derived.Test.YtnfeklebfnlgkaaGreatFrame
import Derived.Deep.Slices
namespace Go.Proofs.YtnfeklebfnlgkaaGreat
open Go.ChangeShapes Go.WideShapes Go.ChangeAt Go.RowKit

/-- What is known of a side that came in. -/
structure SqIn (s : Sq) : Prop where
  inc : s.ia = none → s.ic = 0
  ouc : s.oa = none → s.oc = 0
  tr : 0 ≤ s.tr ∧ s.tr ≤ 255

set_option maxRecDepth 10000 in
/-- Discs in a cell that came in. -/
theorem discs_cell {H : Type} {enc : TypeId × Value → H} {W : World} {fuel : Nat} {v : Value} {x : DataW H × List MemPlace}
    (hf : DataW.trod enc Tryz.prog W 0 (fun _ => true) true fuel 38 [v] = some x) : ∃ a n cap l, v = .slice a n cap ∧ DcsRd W a n l ∧ (a = none → cap = 0) := by
  rcases Go.Deep.open_slice Tryz.underlying38 hf with ⟨hcs, hx⟩ | ⟨x, n, c, m, n', D, Pl, hcs, hb, hl, hm, hmm, hx, hr⟩
  · have hv : v = .slice none 0 0 := by simpa using hcs
    exact ⟨none, 0, 0, [], hv, ⟨rfl, .inl rfl⟩, fun _ => rfl⟩
  · have hv : v = .slice (some x) n c := by simpa using hcs
    simp only [if_true] at hmm
    subst hmm
    have each : ∀ r, r < m → ∃ q : Int × Int × Int, W.cell? (x.add (r * 3)) = some (.int .i64 q.1) ∧ W.cell? (x.add (r * 3 + 1)) = some (.int .i64 q.2.1) ∧ W.cell? (x.add (r * 3 + 2)) = some (.int .i64 q.2.2) := by
      intro r hrc
      obtain ⟨cs', h1, h2⟩ := hr r hrc
      rw [show Tryz.prog.cellsOf 45 = 3 from by kernel_rfl] at h1
      obtain ⟨_, hlen, hcell⟩ := World.cells?_some h1
      obtain ⟨xs, k, hk, hxy, _, hxl, hf⟩ := DataW.trod_struct Tryz.underlying45 h2
      match xs, hxl, cs', hlen with
      | [y0, y1, y2], _, [v0, v1, v2], _ =>
        have g0 := hf 0 _ rfl
        have g1 := hf 1 _ rfl
        have g2 := hf 2 _ rfl
        rw [show Tryz.prog.cellsOf _ = 1 from by kernel_rfl] at g0 g1 g2
        simp only [List.getElem?_cons_zero, List.getElem?_cons_succ] at g0 g1 g2
        have e0 := hcell 0 (by omega)
        have e1 := hcell 1 (by omega)
        have e2 := hcell 2 (by omega)
        rw [Go.Deep.add_add] at e0 e1 e2
        obtain ⟨q0, r0, _, s0⟩ := DataW.trod_int Tryz.underlying3 g0
        obtain ⟨q1, r1, _, s1⟩ := DataW.trod_int Tryz.underlying3 g1
        obtain ⟨q2, r2, _, s2⟩ := DataW.trod_int Tryz.underlying3 g2
        refine ⟨(q0, q1, q2), ?_, ?_, ?_⟩
        · simp_all
        · simp_all
        · simp_all
    obtain ⟨y, hy⟩ := Go.Deep.choose_lt each
    refine ⟨some x, n, m, (List.range n).map y, hv, ⟨by simp, ?_⟩, (fun h => by cases h)⟩
    by_cases hn0 : n = 0
    · exact .inl hn0
    · right
      obtain ⟨b, off, spot⟩ := x
      have hc := (hy 0 (by omega)).1
      have hspot : spot = none := by simpa [Addr.add] using World.cell?_spot hc
      subst hspot
      refine ⟨b, off, rfl, World.block_lt_of_cell? W _ hc, fun i q hi => ?_⟩
      have hin : i < n := by
        have := (List.getElem?_eq_some_iff.1 hi).1
        simpa using this
      have hq : q = y i := by
        rw [List.getElem?_map, List.getElem?_range hin] at hi
        simpa using hi.symm
      subst hq
      have e : ∀ j, (⟨b, off, none⟩ : Addr).add j = ⟨b, off + j, none⟩ := fun j => by unfold Addr.add; split <;> simp_all
      obtain ⟨h2, h3, h4⟩ := hy i (by omega)
      rw [e] at h2 h3 h4
      exact ⟨h2, h3, h4⟩
theorem list12 {α : Type} {l : List α} (h : l.length = 12) : ∃ c0 c1 c2 c3 c4 c5 c6 c7 c8 c9 c10 c11, l = [c0, c1, c2, c3, c4, c5, c6, c7, c8, c9, c10, c11] := by
  match l, h with
  | [c0, c1, c2, c3, c4, c5, c6, c7, c8, c9, c10, c11], _ => exact ⟨c0, c1, c2, c3, c4, c5, c6, c7, c8, c9, c10, c11, rfl⟩
set_option maxRecDepth 10000 in
set_option maxHeartbeats 2000000 in
/-- A side's twelve cells. -/
theorem side_cell {H : Type} {enc : TypeId × Value → H} {W : World} {fuel : Nat} {cs : List Value} {x : DataW H × List MemPlace} (hl : cs.length = 12)
    (h2 : DataW.trod enc Tryz.prog W 0 (fun _ => true) true fuel 40 cs = some x) : ∃ s : Sq, cs = sqc s ∧ DcsRd W s.ia s.il s.ins ∧ DcsRd W s.oa s.ol s.outs ∧ s.nm.size ≤ maxLen ∧ SqIn s := by
  obtain ⟨xs, k, hk, hxy, _, hxl, hf⟩ := DataW.trod_struct Tryz.underlying40 h2
  obtain ⟨y0, y1, y2, y3, y4, y5, y6, y7, y8, y9, y10, y11, rfl⟩ := list12 hxl
  obtain ⟨v0, v1, v2, v3, v4, v5, v6, v7, v8, v9, v10, v11, rfl⟩ := list12 hl
  have g0 := hf 0 _ rfl
  have g1 := hf 1 _ rfl
  have g2 := hf 2 _ rfl
  have g3 := hf 3 _ rfl
  have g4 := hf 4 _ rfl
  have g5 := hf 5 _ rfl
  have g6 := hf 6 _ rfl
  have g7 := hf 7 _ rfl
  have g8 := hf 8 _ rfl
  have g9 := hf 9 _ rfl
  have g10 := hf 10 _ rfl
  have g11 := hf 11 _ rfl
  rw [show Tryz.prog.cellsOf _ = 1 from by kernel_rfl] at g0 g1 g2 g3 g4 g5 g6 g7 g8 g9 g10 g11
  simp only [List.getElem?_cons_zero, List.getElem?_cons_succ] at g0 g1 g2 g3 g4 g5 g6 g7 g8 g9 g10 g11
  obtain ⟨q0, r0, _, s0⟩ := DataW.trod_string Tryz.underlying9 g0
  obtain ⟨q1, r1, _, s1⟩ := DataW.trod_int Tryz.underlying31 g1
  obtain ⟨q2, r2, _⟩ := DataW.trod_bool Tryz.underlying4 g2
  obtain ⟨q3, r3, _, s3⟩ := DataW.trod_int Tryz.underlying2 g3
  obtain ⟨q4, r4, _, s4⟩ := DataW.trod_int Tryz.underlying2 g4
  obtain ⟨q5, r5, _, s5⟩ := DataW.trod_string Tryz.underlying9 g5
  obtain ⟨q6, r6, _, s6⟩ := DataW.trod_string Tryz.underlying9 g6
  obtain ⟨q7, r7, _⟩ := DataW.trod_bool Tryz.underlying4 g7
  obtain ⟨q8, r8, _, s8⟩ := DataW.trod_int Tryz.underlying5 g8
  obtain ⟨q9, r9, _⟩ := DataW.trod_bool Tryz.underlying4 g9
  obtain ⟨ia, il, ic, li, r10, hi1, hi2⟩ := discs_cell g10
  obtain ⟨oa, ol, oc, lo, r11, ho1, ho2⟩ := discs_cell g11
  have e0 : v0 = .string q0 := by simpa using r0
  have e1 : v1 = .int .i64 q1 := by simpa using r1
  have e2 : v2 = .bool q2 := by simpa using r2
  have e3 : v3 = .int .i64 q3 := by simpa using r3
  have e4 : v4 = .int .i64 q4 := by simpa using r4
  have e5 : v5 = .string q5 := by simpa using r5
  have e6 : v6 = .string q6 := by simpa using r6
  have e7 : v7 = .bool q7 := by simpa using r7
  have e8 : v8 = .int .u8 q8 := by simpa using r8
  have e9 : v9 = .bool q9 := by simpa using r9
  refine ⟨⟨q0, q1, q2, q3, q4, q5, q6, q7, q8, q9, ia, il, ic, oa, ol, oc, li, lo⟩, ?_, hi1, ho1, s0, hi2, ho2, ?_⟩
  · rw [e0, e1, e2, e3, e4, e5, e6, e7, e8, e9, r10, r11]; rfl
  · simpa [Lit.wf, IntKind.min, IntKind.max, IntKind.signed, IntKind.bits] using s8
set_option maxRecDepth 10000 in
/-- A box that came in. -/
theorem open_sides {H : Type} {enc : TypeId × Value → H} {W : World} {a : Option Addr} {n cap : Nat} {d : DataW H} {p : List MemPlace}
    (h : DataW.Trod enc Tryz.prog W 0 (fun _ => true) true 22 (.slice a n cap) d p) : ∃ l, SqsRd W a n l ∧ ∀ s ∈ l, SqIn s := by
  obtain ⟨fuel, hf⟩ := h
  rcases Go.Deep.open_slice Tryz.underlying22 hf with ⟨hcs, hx⟩ | ⟨x, l, c, m, n', D, Pl, hcs, hb, hl, hm, hmm, hx, hr⟩
  · simp [Value.cells] at hcs
    obtain ⟨rfl, rfl, rfl⟩ := hcs
    exact ⟨[], ⟨rfl, .inl rfl, fun s hs => (by cases hs), fun s hs => (by cases hs)⟩, fun s hs => (by cases hs)⟩
  · simp [Value.cells] at hcs
    obtain ⟨rfl, rfl, rfl⟩ := hcs
    simp only [if_true] at hmm
    subst hmm
    have each : ∀ r, r < m → ∃ s : Sq, (∀ j v, (sqc s)[j]? = some v → W.cell? (x.add (r * 12 + j)) = some v) ∧ DcsRd W s.ia s.il s.ins ∧ DcsRd W s.oa s.ol s.outs ∧ s.nm.size ≤ maxLen ∧ SqIn s := by
      intro r hrc
      obtain ⟨cs', h1, h2⟩ := hr r hrc
      rw [show Tryz.prog.cellsOf 40 = 12 from by kernel_rfl] at h1
      obtain ⟨_, hlen, hcell⟩ := World.cells?_some h1
      obtain ⟨s, hs, h3⟩ := side_cell hlen h2
      refine ⟨s, fun j v hj => ?_, h3⟩
      have hj12 : j < 12 := by
        have := (List.getElem?_eq_some_iff.1 hj).1
        simpa [sqc] using this
      have e0 := hcell j (by omega)
      rw [Go.Deep.add_add] at e0
      rw [e0, hs]
      exact hj
    haveI : Inhabited Sq := ⟨⟨⟨#[]⟩, 0, false, 0, 0, ⟨#[]⟩, ⟨#[]⟩, false, 0, false, none, 0, 0, none, 0, 0, [], []⟩⟩
    obtain ⟨y, hy⟩ := Go.Deep.choose_lt each
    have hmem : ∀ s ∈ (List.range n).map y, ∃ i, i < m ∧ s = y i := by
      intro s hs
      obtain ⟨i, hi, rfl⟩ := List.mem_map.1 hs
      have := List.mem_range.1 hi
      exact ⟨i, by omega, rfl⟩
    refine ⟨(List.range n).map y, ⟨by simp, ?_, ?_, ?_⟩, ?_⟩
    · by_cases hn0 : n = 0
      · exact .inl hn0
      · right
        obtain ⟨b, off, spot⟩ := x
        have hc := (hy 0 (by omega)).1 0 _ rfl
        have hspot : spot = none := by simpa [Addr.add] using World.cell?_spot hc
        subst hspot
        refine ⟨b, off, rfl, World.block_lt_of_cell? W _ hc, fun i q hi => ?_⟩
        have hin : i < n := by
          have := (List.getElem?_eq_some_iff.1 hi).1
          simpa using this
        have hq : q = y i := by
          rw [List.getElem?_map, List.getElem?_range hin] at hi
          simpa using hi.symm
        subst hq
        have e : ∀ j, (⟨b, off, none⟩ : Addr).add j = ⟨b, off + j, none⟩ := fun j => by unfold Addr.add; split <;> simp_all
        intro j v hj
        have h2 := (hy i (by omega)).1 j v hj
        rw [e] at h2
        rw [Nat.add_assoc]
        exact h2
    · intro s hs
      obtain ⟨i, hi, rfl⟩ := hmem s hs
      exact ⟨(hy i hi).2.1, (hy i hi).2.2.1⟩
    · intro s hs
      obtain ⟨i, hi, rfl⟩ := hmem s hs
      exact (hy i hi).2.2.2.1
    · intro s hs
      obtain ⟨i, hi, rfl⟩ := hmem s hs
      exact (hy i hi).2.2.2.2
end Go.Proofs.YtnfeklebfnlgkaaGreat
