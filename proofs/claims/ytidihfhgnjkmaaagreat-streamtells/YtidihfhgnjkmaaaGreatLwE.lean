/- One deed on a stream, as it came in. -/
import Derived.Test.YtidihfhgnjkmaaaGreatPcA
import Derived.Lib.SmallJoins
namespace Go.Proofs.YtidihfhgnjkmaaaGreat
open Go.ChangeShapes Go.WideShapes Go.ChangeAt Go.RowKit Go.Joins

theorem array12 {α : Type} {cs : Array α} (h : cs.size = 12) : ∃ c0 c1 c2 c3 c4 c5 c6 c7 c8 c9 c10 c11, cs = #[c0, c1, c2, c3, c4, c5, c6, c7, c8, c9, c10, c11] := by
  obtain ⟨l⟩ := cs
  obtain ⟨c0, c1, c2, c3, c4, c5, c6, c7, c8, c9, c10, c11, rfl⟩ := list12 (show l.length = 12 from h)
  exact ⟨c0, c1, c2, c3, c4, c5, c6, c7, c8, c9, c10, c11, rfl⟩
set_option maxRecDepth 10000 in
theorem open_de {H : Type} {enc : TypeId × Value → H} {W : World} {base : Nat} {v : Value} {d : DataW H} {p : List MemPlace} (hv : Value.okWide Tryz.prog W .any base 36 v)
    (h : DataW.Trod enc Tryz.prog W 0 (fun _ => true) true 36 v d p) (hw : ∀ y ∈ DataW.weights Tryz.prog 36 d, y ≤ reachBytes) :
    ∃ q : De, v = .agg #[.int .i64 q.do_, .int .i64 q.p.kind, .int .i64 q.p.pub, .int .i64 q.p.sub, .int .i64 q.p.n_, .int .i64 q.p.fr, .int .i64 q.p.to_, .slice q.sa q.sn q.sc, .slice q.ia q.im q.ic, .int .i64 q.t_, .int .i64 q.id, .int .u32 q.lk] ∧ DeOk W q := by
  obtain ⟨cs, rfl, hsz⟩ := okWide_struct Tryz.underlying36 hv
  obtain ⟨v0, v1, v2, v3, v4, v5, v6, v7, v8, v9, v10, v11, rfl⟩ := array12 (hsz.trans (show Tryz.prog.cellsOf 36 = 12 by kernel_rfl))
  obtain ⟨fuel, hf0⟩ := h
  obtain ⟨xs, k, hk, hxy, _, hxl, hf⟩ := DataW.trod_struct Tryz.underlying36 hf0
  obtain ⟨y0, y1, y2, y3, y4, rfl⟩ := list5 hxl
  have g0 := hf 0 _ rfl
  have g1 := hf 1 _ rfl
  have g2 := hf 2 _ rfl
  have g3 := hf 3 _ rfl
  have g4 := hf 4 _ rfl
  rw [show Tryz.prog.cellsOf _ = 1 from by kernel_rfl] at g0 g2 g3 g4
  rw [show Tryz.prog.cellsOf _ = 8 from by kernel_rfl] at g1
  simp only [Value.cells, List.getElem?_cons_zero, List.getElem?_cons_succ] at g0 g1 g2 g3 g4
  obtain ⟨q0, r0, _, s0⟩ := DataW.trod_int Tryz.underlying3 g0
  obtain ⟨q2, r2, _, s2⟩ := DataW.trod_int Tryz.underlying3 g2
  obtain ⟨q3, r3, _, s3⟩ := DataW.trod_int Tryz.underlying3 g3
  obtain ⟨q4, r4, _, s4⟩ := DataW.trod_int Tryz.underlying34 g4
  have hD : d = .agg [y0.1, y1.1, y2.1, y3.1, y4.1] := by simpa using congrArg Prod.fst hxy
  have hw3 : ∀ y ∈ DataW.weights Tryz.prog 33 y1.1, y ≤ reachBytes := fun y hy => hw y (by
    rw [hD]
    simp only [DataW.weights, Tryz.underlying36]
    simp only [List.map_cons, List.map_nil, DataW.weightsEach, List.mem_append]
    exact .inr (.inl hy))
  obtain ⟨q, sa, sn, sc, ia, im, ic, ⟨e1, e2, e3, e4, e5, e6, e7, e8⟩, hrd, hbig⟩ := parcel_cells g1 hw3
  have b2 : (-9223372036854775808 : Int) ≤ q2 ∧ q2 ≤ 9223372036854775807 := by simpa [Lit.wf, IntKind.min, IntKind.max, IntKind.signed, IntKind.bits] using s2
  have b3 : (-9223372036854775808 : Int) ≤ q3 ∧ q3 ≤ 9223372036854775807 := by simpa [Lit.wf, IntKind.min, IntKind.max, IntKind.signed, IntKind.bits] using s3
  have b4 : (0 : Int) ≤ q4 ∧ q4 ≤ 4294967295 := by simpa [Lit.wf, IntKind.min, IntKind.max, IntKind.signed, IntKind.bits] using s4
  have e0 : v0 = .int .i64 q0 := by simpa using r0
  have e9 : v9 = .int .i64 q2 := by simpa using r2
  have e10 : v10 = .int .i64 q3 := by simpa using r3
  have e11 : v11 = .int .u32 q4 := by simpa using r4
  subst e0 e1 e2 e3 e4 e5 e6 e7 e8 e9 e10 e11
  exact ⟨⟨q0, q, sa, sn, sc, ia, im, ic, q2, q3, q4⟩, rfl, hrd, hbig, b2, b4, b3⟩
end Go.Proofs.YtidihfhgnjkmaaaGreat
