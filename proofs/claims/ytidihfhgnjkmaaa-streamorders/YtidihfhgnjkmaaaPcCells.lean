/- The eight cells of a parcel that came in. -/
import Derived.Test.YtidihfhgnjkmaaaPcArg
namespace Go.Proofs.Ytidihfhgnjkmaaa
open Go.ChangeShapes Go.WideShapes Go.ChangeAt Go.RowKit

set_option maxRecDepth 10000 in
theorem parcel_cells {H : Type} {enc : TypeId × Value → H} {W : World} {fuel : Nat} {v0 v1 v2 v3 v4 v5 v6 v7 : Value} {x : DataW H × List MemPlace}
    (hf0 : DataW.trod enc Try.prog W 0 (fun _ => true) true fuel 33 [v0, v1, v2, v3, v4, v5, v6, v7] = some x) (hw : ∀ y ∈ DataW.weights Try.prog 33 x.1, y ≤ reachBytes) :
    ∃ (q : Pc) (sa : Option Addr) (sn sc : Nat) (ia : Option Addr) (im ic : Nat), (v0 = .int .i64 q.kind ∧ v1 = .int .i64 q.pub ∧ v2 = .int .i64 q.sub ∧ v3 = .int .i64 q.n_ ∧ v4 = .int .i64 q.fr ∧ v5 = .int .i64 q.to_ ∧ v6 = .slice sa sn sc ∧ v7 = .slice ia im ic) ∧ PcRd W q sa sn sc ia im ic ∧ PcBig q sa sc ia ic := by
  obtain ⟨xs, k, hk, hxy, _, hxl, hf⟩ := DataW.trod_struct Try.underlying33 hf0
  obtain ⟨y0, y1, y2, y3, y4, y5, y6, y7, rfl⟩ := list8 hxl
  have g0 := hf 0 _ rfl
  have g1 := hf 1 _ rfl
  have g2 := hf 2 _ rfl
  have g3 := hf 3 _ rfl
  have g4 := hf 4 _ rfl
  have g5 := hf 5 _ rfl
  have g6 := hf 6 _ rfl
  have g7 := hf 7 _ rfl
  rw [show Try.prog.cellsOf _ = 1 from by kernel_rfl] at g0 g1 g2 g3 g4 g5 g6 g7
  simp only [List.getElem?_cons_zero, List.getElem?_cons_succ] at g0 g1 g2 g3 g4 g5 g6 g7
  obtain ⟨q0, r0, _, s0⟩ := DataW.trod_int Try.underlying29 g0
  obtain ⟨q1, r1, _, s1⟩ := DataW.trod_int Try.underlying3 g1
  obtain ⟨q2, r2, _, s2⟩ := DataW.trod_int Try.underlying3 g2
  obtain ⟨q3, r3, _, s3⟩ := DataW.trod_int Try.underlying3 g3
  obtain ⟨q4, r4, _, s4⟩ := DataW.trod_int Try.underlying3 g4
  obtain ⟨q5, r5, _, s5⟩ := DataW.trod_int Try.underlying3 g5
  have hD : x.1 = .agg [y0.1, y1.1, y2.1, y3.1, y4.1, y5.1, y6.1, y7.1] := by simpa using congrArg Prod.fst hxy
  have hw6 : ∀ y ∈ DataW.weights Try.prog 30 y6.1, y ≤ reachBytes := fun y hy => hw y (by
    rw [hD]
    simp only [DataW.weights, Try.underlying33]
    simp only [List.map_cons, List.map_nil, DataW.weightsEach, List.mem_append]
    exact .inr (.inr (.inr (.inr (.inr (.inr (.inl hy)))))))
  have hw7 : ∀ y ∈ DataW.weights Try.prog 31 y7.1, y ≤ reachBytes := fun y hy => hw y (by
    rw [hD]
    simp only [DataW.weights, Try.underlying33]
    simp only [List.map_cons, List.map_nil, DataW.weightsEach, List.mem_append]
    exact .inr (.inr (.inr (.inr (.inr (.inr (.inr (.inl hy))))))))
  obtain ⟨sa, sn, sc, ls, r6, hs1, hs2, hs3, hs4, hs5⟩ := spans_cell g6 hw6
  obtain ⟨ia, im, ic, li, r7, hi1, hi2, hi3, hi4, hi5, hi6⟩ := items_cell g7 hw7
  exact ⟨⟨q0, q1, q2, q3, q4, q5, ls, li⟩, sa, sn, sc, ia, im, ic, ⟨by simpa using r0, by simpa using r1, by simpa using r2, by simpa using r3, by simpa using r4, by simpa using r5, r6, r7⟩, ⟨hs1, hi1, hs2, hs3, hi2, hi3⟩, ⟨hs4, hs5, hi4, hi5, hi6⟩⟩

end Go.Proofs.Ytidihfhgnjkmaaa
