/- One deed of layer 10 that came in. -/
import Derived.Test.YthpjaidgacenoabMkDeed
import Derived.Lib.SmallJoins
namespace Go.Proofs.Ythpjaidgacenoab
open Go.ChangeShapes Go.WideShapes Go.ChangeAt Go.RowKit Go.Joins

theorem array5 {α : Type} {cs : Array α} (h : cs.size = 5) : ∃ c0 c1 c2 c3 c4, cs = #[c0, c1, c2, c3, c4] := by
  obtain ⟨l⟩ := cs
  match l, h with
  | [c0, c1, c2, c3, c4], _ => exact ⟨c0, c1, c2, c3, c4, rfl⟩
theorem list5 {α : Type} {l : List α} (h : l.length = 5) : ∃ c0 c1 c2 c3 c4, l = [c0, c1, c2, c3, c4] := by
  match l, h with
  | [c0, c1, c2, c3, c4], _ => exact ⟨c0, c1, c2, c3, c4, rfl⟩

set_option maxRecDepth 10000 in
theorem open_deed10 {H : Type} {enc : TypeId × Value → H} {W : World} {base : Nat} {v : Value} {d : DataW H} {p : List MemPlace} (hv : Value.okWide Try.prog W .any base 26 v)
    (h : DataW.Trod enc Try.prog W 0 (fun _ => true) true 26 v d p) (hw : ∀ y ∈ DataW.weights Try.prog 26 d, y ≤ reachBytes) :
    ∃ q : Dm, v = .agg #[.int .i64 q.kind, .int .i64 q.i_, .int .i64 q.v_, .slice q.ba q.bl q.bc, .slice q.fa q.fl q.fc] ∧ DmOk W q := by
  obtain ⟨cs, rfl, hsz⟩ := okWide_struct Try.underlying26 hv
  obtain ⟨v0, v1, v2, v3, v4, rfl⟩ := array5 (hsz.trans (show Try.prog.cellsOf 26 = 5 by kernel_rfl))
  obtain ⟨fuel, hf0⟩ := h
  obtain ⟨xs, k, hk, hxy, _, hxl, hf⟩ := DataW.trod_struct Try.underlying26 hf0
  obtain ⟨y0, y1, y2, y3, y4, rfl⟩ := list5 hxl
  have g0 := hf 0 _ rfl
  have g1 := hf 1 _ rfl
  have g2 := hf 2 _ rfl
  have g3 := hf 3 _ rfl
  have g4 := hf 4 _ rfl
  rw [show Try.prog.cellsOf _ = 1 from by kernel_rfl] at g0 g1 g2 g3 g4
  simp only [Value.cells, List.getElem?_cons_zero, List.getElem?_cons_succ] at g0 g1 g2 g3 g4
  obtain ⟨q0, r0, _, s0⟩ := DataW.trod_int Try.underlying3 g0
  obtain ⟨q1, r1, _, s1⟩ := DataW.trod_int Try.underlying3 g1
  obtain ⟨q2, r2, _, s2⟩ := DataW.trod_int Try.underlying3 g2
  obtain ⟨ba, bl, bc, bs, r3, hrd, hlc, hnc, hfm⟩ := bytes_cell g3
  obtain ⟨fa, fl, fc, F, r4, hft, hfg⟩ := fates_cell g4
  have hD : d = .agg [y0.1, y1.1, y2.1, y3.1, y4.1] := by simpa using congrArg Prod.fst hxy
  have e0 : v0 = .int .i64 q0 := by simpa using r0
  have e1 : v1 = .int .i64 q1 := by simpa using r1
  have e2 : v2 = .int .i64 q2 := by simpa using r2
  refine ⟨⟨q0, q1, q2, ba, bl, bc, bs, fa, fl, fc, F⟩, by rw [e0, e1, e2, r3, r4], ⟨hrd, hnc, ?_, hft, ?_, ?_, ?_⟩⟩
  · show bl ≤ _
    rcases hfm with ⟨_, h3, _⟩ | ⟨els, sp, h3, h4, h5⟩
    · omega
    · have h6 := hw ((els.length + sp.length) * 1) (by
        rw [hD]
        simp only [DataW.weights, Try.underlying26]
        simp only [List.map_cons, List.map_nil, DataW.weightsEach, h3, List.mem_append]
        refine .inr (.inr (.inr (.inl ?_)))
        simp [DataW.weights, Try.underlying23, bytesByte])
      simp only [reachBytes] at h6
      omega
  · show fl ≤ _
    rcases hfg with ⟨_, h3, _⟩ | ⟨els, sp, h3, h4, h5⟩
    · omega
    · have h6 := hw ((els.length + sp.length) * 8) (by
        rw [hD]
        simp only [DataW.weights, Try.underlying26]
        simp only [List.map_cons, List.map_nil, DataW.weightsEach, h3, List.mem_append]
        refine .inr (.inr (.inr (.inr (.inl ?_))))
        simp [DataW.weights, Try.underlying24, bytesInt])
      simp only [reachBytes] at h6
      omega
  · show q1 ≤ _
    have : (-9223372036854775808 : Int) ≤ q1 ∧ q1 ≤ 9223372036854775807 := by simpa [Lit.wf, IntKind.min, IntKind.max, IntKind.signed, IntKind.bits] using s1
    exact this.2
  · show q2 ≤ _
    have : (-9223372036854775808 : Int) ≤ q2 ∧ q2 ≤ 9223372036854775807 := by simpa [Lit.wf, IntKind.min, IntKind.max, IntKind.signed, IntKind.bits] using s2
    exact this.2
end Go.Proofs.Ythpjaidgacenoab
