/- A script of deeds that came in, with bytes and fates, and how great they can be. -/
import Derived.Test.YthpjaidgacenoaaQSecArg
namespace Go.Proofs.Ythpjaidgacenoaa
open Go.ChangeShapes Go.WideShapes Go.ChangeAt Go.RowKit

/-- A deed, as it is read. -/
structure Dq where
  kind : Int
  at_ : Int
  ba : Option Addr
  bl : Nat
  bc : Nat
  bs : List Nat
  fa : Option Addr
  fl : Nat
  fc : Nat
  F : List Int
/-- Its bytes and fates. -/
structure DqOk (w : World) (q : Dq) : Prop where
  rd : Rd w q.ba q.bl q.bs
  nc : q.ba = none → q.bc = 0
  bb : q.bl ≤ 140737488351232
  ft : FtRd w q.fa q.fl q.F
  fb : q.fl ≤ 9223372036854775000
  at1 : q.at_ ≤ 9223372036854775807
theorem DqOk.below {w w' : World} {q : Dq} (h : DqOk w q) (hb : Below w.heap.size w w') : DqOk w' q := ⟨h.rd.below hb, h.nc, h.bb, h.ft.below hb, h.fb, h.at1⟩
structure DqsRd (w : World) (a : Option Addr) (n : Nat) (l : List Dq) : Prop where
  size : l.length = n
  cells : l = [] ∨ ∃ g o, a = some ⟨g, o, none⟩ ∧ g < w.heap.size ∧ ∀ (i : Nat) (q : Dq), l[i]? = some q → w.cell? ⟨g, o + i * 4, none⟩ = some (.int .i64 q.kind) ∧ w.cell? ⟨g, o + i * 4 + 1, none⟩ = some (.int .i64 q.at_) ∧ w.cell? ⟨g, o + i * 4 + 2, none⟩ = some (.slice q.ba q.bl q.bc) ∧ w.cell? ⟨g, o + i * 4 + 3, none⟩ = some (.slice q.fa q.fl q.fc)
  each : ∀ q ∈ l, DqOk w q
theorem DqsRd.below {w w' : World} {a : Option Addr} {n : Nat} {l : List Dq} (h : DqsRd w a n l) (hb : Below w.heap.size w w') : DqsRd w' a n l := by
  refine ⟨h.size, ?_, fun q hq => (h.each q hq).below hb⟩
  rcases h.cells with h0 | ⟨g, o, ha, hg, hc⟩
  · exact .inl h0
  · refine .inr ⟨g, o, ha, Nat.lt_of_lt_of_le hg hb.size, fun i q hi => ?_⟩
    rw [hb.cell (p := ⟨g, o + i * 4, none⟩) hg, hb.cell (p := ⟨g, o + i * 4 + 1, none⟩) hg, hb.cell (p := ⟨g, o + i * 4 + 2, none⟩) hg, hb.cell (p := ⟨g, o + i * 4 + 3, none⟩) hg]
    exact hc i q hi
theorem DqsRd.spot {w : World} {a : Option Addr} {n : Nat} {l : List Dq} (h : DqsRd w a n l) (i : Nat) (hi : i < n) : ∃ g o, a = some ⟨g, o, none⟩ ∧ g < w.heap.size ∧ ∃ q, l[i]? = some q ∧ DqOk w q ∧ w.cell? ⟨g, o + i * 4, none⟩ = some (.int .i64 q.kind) ∧ w.cell? ⟨g, o + i * 4 + 1, none⟩ = some (.int .i64 q.at_) ∧ w.cell? ⟨g, o + i * 4 + 2, none⟩ = some (.slice q.ba q.bl q.bc) ∧ w.cell? ⟨g, o + i * 4 + 3, none⟩ = some (.slice q.fa q.fl q.fc) := by
  have hl : i < l.length := by rw [h.size]; exact hi
  rcases h.cells with rfl | ⟨g, o, ha, hg, hc⟩
  · simp at hl
  · exact ⟨g, o, ha, hg, l[i], List.getElem?_eq_getElem hl, h.each _ (List.getElem_mem hl), hc i l[i] (List.getElem?_eq_getElem hl)⟩

set_option maxRecDepth 10000 in
theorem open_deeds2 {H : Type} {enc : TypeId × Value → H} {W : World} {a : Option Addr} {n cap : Nat} {d : DataW H} {fuel : Nat} {p : List MemPlace}
    (hf : DataW.trod enc Try.prog W 0 (fun _ => true) true fuel 22 [.slice a n cap] = some (d, p)) (hw : ∀ y ∈ DataW.weights Try.prog 22 d, y ≤ reachBytes) : ∃ l, DqsRd W a n l ∧ n ≤ cap ∧ cap ≤ maxLen := by
  rcases Go.Deep.open_slice Try.underlying22 hf with ⟨hcs, hx⟩ | ⟨x, l, c, m, n', D, Pl, hcs, hb, hl, hm, hmm, hx, hr⟩
  · simp at hcs
    obtain ⟨rfl, rfl, rfl⟩ := hcs
    exact ⟨[], ⟨rfl, .inl rfl, fun q hq => by cases hq⟩, Nat.le_refl _, by omega⟩
  · simp at hcs
    obtain ⟨rfl, rfl, rfl⟩ := hcs
    simp only [if_true] at hmm
    subst hmm
    simp only [Prod.mk.injEq] at hx
    obtain ⟨rfl, _⟩ := hx
    have hw2 : ∀ r, r < n → ∀ y ∈ DataW.weights Try.prog 40 (D r), y ≤ reachBytes := by
      intro r hr y hy
      refine hw y ?_
      simp only [DataW.weights, Try.underlying22]
      exact List.mem_cons_of_mem _ (List.mem_append_left _ (weights_in' _ _ _ (D r) _ (List.mem_map.2 ⟨r, List.mem_range.2 hr, rfl⟩) hy))
    have each : ∀ r, r < m → ∃ q : Dq, W.cell? (x.add (r * 4)) = some (.int .i64 q.kind) ∧ W.cell? (x.add (r * 4 + 1)) = some (.int .i64 q.at_) ∧ W.cell? (x.add (r * 4 + 2)) = some (.slice q.ba q.bl q.bc) ∧ W.cell? (x.add (r * 4 + 3)) = some (.slice q.fa q.fl q.fc) ∧ (r < n → DqOk W q) := by
      intro r hrc
      obtain ⟨cs', h1, h2⟩ := hr r hrc
      rw [show Try.prog.cellsOf 40 = 4 from by kernel_rfl] at h1
      obtain ⟨_, hlen, hcell⟩ := World.cells?_some h1
      obtain ⟨xs, k, hk, hxy, _, hxl, hf⟩ := DataW.trod_struct Try.underlying40 h2
      match xs, hxl, cs', hlen with
      | [y0, y1, y2, y3], _, [v0, v1, v2, v3], _ =>
        have g0 := hf 0 _ rfl
        have g1 := hf 1 _ rfl
        have g2 := hf 2 _ rfl
        have g3 := hf 3 _ rfl
        rw [show Try.prog.cellsOf _ = 1 from by kernel_rfl] at g0 g1 g2 g3
        simp only [List.getElem?_cons_zero, List.getElem?_cons_succ] at g0 g1 g2 g3
        have e0 := hcell 0 (by omega)
        have e1 := hcell 1 (by omega)
        have e2 := hcell 2 (by omega)
        have e3 := hcell 3 (by omega)
        rw [Go.Deep.add_add] at e0 e1 e2 e3
        obtain ⟨q0, r0, _, s0⟩ := DataW.trod_int Try.underlying3 g0
        obtain ⟨q1, r1, _, s1⟩ := DataW.trod_int Try.underlying3 g1
        obtain ⟨ba, bl, bc, bs, r2, hrd, hlc, hnc, hfm⟩ := bytes_cell g2
        obtain ⟨fa, fl, fc, F, r3, hft, hfg⟩ := fates_cell g3
        refine ⟨⟨q0, q1, ba, bl, bc, bs, fa, fl, fc, F⟩, ?_, ?_, ?_, ?_, fun hrn => ⟨hrd, hnc, ?_, hft, ?_, ?_⟩⟩
        · simp_all
        · simp_all
        · simp_all
        · simp_all
        · show bl ≤ _
          rcases hfm with ⟨_, h3, _⟩ | ⟨els, sp, h3, h4, h5⟩
          · omega
          · have h6 := hw2 r hrn ((els.length + sp.length) * 1) (by
              rw [show D r = .agg [y0.1, y1.1, y2.1, y3.1] from by simpa using congrArg Prod.fst hxy]
              simp only [DataW.weights, Try.underlying40]
              simp only [List.map_cons, List.map_nil, DataW.weightsEach, h3, List.mem_append]
              refine .inr (.inr (.inl ?_))
              simp [DataW.weights, Try.underlying30, bytesByte])
            simp only [reachBytes] at h6
            omega
        · show fl ≤ _
          rcases hfg with ⟨_, h3, _⟩ | ⟨els, sp, h3, h4, h5⟩
          · omega
          · have h6 := hw2 r hrn ((els.length + sp.length) * 8) (by
              rw [show D r = .agg [y0.1, y1.1, y2.1, y3.1] from by simpa using congrArg Prod.fst hxy]
              simp only [DataW.weights, Try.underlying40]
              simp only [List.map_cons, List.map_nil, DataW.weightsEach, h3, List.mem_append]
              refine .inr (.inr (.inr (.inl ?_)))
              simp [DataW.weights, Try.underlying31, bytesInt])
            simp only [reachBytes] at h6
            omega
        · show q1 ≤ _
          have : (-9223372036854775808 : Int) ≤ q1 ∧ q1 ≤ 9223372036854775807 := by simpa [Lit.wf, IntKind.min, IntKind.max, IntKind.signed, IntKind.bits] using s1
          exact this.2
    haveI : Inhabited Dq := ⟨⟨0, 0, none, 0, 0, [], none, 0, 0, []⟩⟩
    obtain ⟨y, hy⟩ := Go.Deep.choose_lt each
    refine ⟨(List.range n).map y, ⟨by simp, ?_, ?_⟩, hl, hm⟩
    · by_cases hn0 : n = 0
      · left; simp [hn0]
      · right
        obtain ⟨b, off, spot⟩ := x
        have hc := (hy 0 (by omega)).1
        have hspot : spot = none := by simpa [Addr.add] using World.cell?_spot hc
        subst hspot
        refine ⟨b, off, rfl, World.block_lt_of_cell? W _ hc, fun i q hi => ?_⟩
        have hin : i < n := by
          have := (List.getElem?_eq_some_iff.1 hi).1
          simpa using this
        have hq : q = y i := by
          rw [List.getElem?_map, List.getElem?_range hin] at hi
          simpa using hi.symm
        subst hq
        have e : ∀ j, (⟨b, off, none⟩ : Addr).add j = ⟨b, off + j, none⟩ := fun j => by unfold Addr.add; split <;> simp_all
        obtain ⟨h2, h3, h4, h5, _⟩ := hy i (by omega)
        rw [e] at h2 h3 h4 h5
        exact ⟨h2, h3, h4, h5⟩
    · intro q hq
      obtain ⟨i, hi, rfl⟩ := List.mem_map.1 hq
      have hin := List.mem_range.1 hi
      exact (hy i (by omega)).2.2.2.2 hin
end Go.Proofs.Ythpjaidgacenoaa
