/- A pack of texts: PcArg PcCells StA LwD. -/
import Derived.Test.YtidihfhgnjkmaaaGreatPcM
import Derived.Lib.SmallJoins
/- A parcel that came in. -/
namespace Go.Proofs.YtidihfhgnjkmaaaGreat
open Go.ChangeShapes Go.WideShapes Go.ChangeAt Go.RowKit Go.Joins

/-- A slice of bytes in a cell that came in. -/
theorem bytes_cell {H : Type} {enc : TypeId × Value → H} {W : World} {fuel : Nat} {v : Value} {x : DataW H × List MemPlace}
    (h : DataW.trod enc Tryz.prog W 0 (fun _ => true) true fuel 52 [v] = some x) : ∃ a len cap bs, v = .slice a len cap ∧ Rd W a len bs ∧ len ≤ cap ∧ (a = none → cap = 0) ∧ Form x.1 len cap := by
  rcases open_ints Tryz.underlying52 Tryz.underlying5 (by kernel_rfl) h with ⟨hcs, hx⟩ | ⟨y, l, c, zs, hcs, hrest⟩
  · have hv : v = .slice none 0 0 := by simpa using hcs
    subst hv
    obtain ⟨bs, hb⟩ := rd_of (W := W) (enc := enc) (a := none) (len := 0) (cap := 0) (d := x.1) (p := x.2) ⟨fuel, h⟩
    exact ⟨none, 0, 0, bs, rfl, hb.1, hb.2.1, hb.2.2.2.2.1, hb.2.2.2.2.2⟩
  · have hv : v = .slice (some y) l c := by simpa using hcs
    subst hv
    obtain ⟨bs, hb⟩ := rd_of (W := W) (enc := enc) (a := some y) (len := l) (cap := c) (d := x.1) (p := x.2) ⟨fuel, h⟩
    exact ⟨some y, l, c, bs, rfl, hb.1, hb.2.1, hb.2.2.2.2.1, hb.2.2.2.2.2⟩
theorem weights_in' {H : Type} (P : Program) (e : TypeId) : ∀ (l : List (DataW H)) (d : DataW H) (y : Nat), d ∈ l → y ∈ DataW.weights P e d → y ∈ DataW.weightsAll P e l
  | x :: l, d, y, hd, hy => by
    simp only [DataW.weightsAll, List.mem_append]
    rcases List.mem_cons.1 hd with rfl | hd
    · exact .inl hy
    · exact .inr (weights_in' P e l d y hd hy)

theorem bytesItem : Tryz.prog.bytesOf 54 = 40 := by kernel_rfl
theorem bytesSpan : Tryz.prog.bytesOf 62 = 24 := by kernel_rfl

set_option maxRecDepth 10000 in
/-- Items in a cell that came in. -/
theorem items_cell {H : Type} {enc : TypeId × Value → H} {W : World} {fuel : Nat} {v : Value} {x : DataW H × List MemPlace}
    (hf : DataW.trod enc Tryz.prog W 0 (fun _ => true) true fuel 31 [v] = some x) (hw : ∀ y ∈ DataW.weights Tryz.prog 31 x.1, y ≤ reachBytes) : ∃ a n cap l, v = .slice a n cap ∧ ItsRd W a n l ∧ n ≤ cap ∧ cap ≤ maxLen ∧ cap * 40 ≤ 140737488351232 ∧ (a = none → cap = 0) ∧ ∀ q ∈ l, q.body.length ≤ 140737488351232 := by
  obtain ⟨d, p⟩ := x
  rcases Go.Deep.open_slice Tryz.underlying31 hf with ⟨hcs, hx⟩ | ⟨x, l, c, m, n', D, Pl, hcs, hb, hl, hm, hmm, hx, hr⟩
  · have hv : v = .slice none 0 0 := by simpa using hcs
    exact ⟨none, 0, 0, [], hv, ⟨rfl, .inl rfl, fun q hq => by cases hq⟩, Nat.le_refl _, by omega, by omega, fun _ => rfl, fun q hq => by cases hq⟩
  · have hv : v = .slice (some x) l c := by simpa using hcs
    simp only [if_true] at hmm
    subst hmm
    simp only [Prod.mk.injEq] at hx
    obtain ⟨rfl, _⟩ := hx
    have hw1 : m * 40 ≤ reachBytes := by
      refine hw _ ?_
      simp only [DataW.weights, Tryz.underlying31, bytesItem]
      refine List.mem_cons.2 (.inl ?_)
      simp
      omega
    have hw2 : ∀ r, r < l → ∀ y ∈ DataW.weights Tryz.prog 54 (D r), y ≤ reachBytes := by
      intro r hr y hy
      refine hw y ?_
      simp only [DataW.weights, Tryz.underlying31]
      exact List.mem_cons_of_mem _ (List.mem_append_left _ (weights_in' _ _ _ (D r) _ (List.mem_map.2 ⟨r, List.mem_range.2 hr, rfl⟩) hy))
    have each : ∀ r, r < m → ∃ q : It, W.cell? (x.add (r * 3)) = some (.int .i64 q.tick) ∧ W.cell? (x.add (r * 3 + 1)) = some (.int .u32 q.for_) ∧ (∃ ba bl bc, W.cell? (x.add (r * 3 + 2)) = some (.slice ba bl bc) ∧ Rd W ba bl q.body ∧ (ba = none → bc = 0) ∧ bl ≤ bc ∧ (r < l → bc ≤ 140737488351232)) ∧ ((-9223372036854775808 : Int) ≤ q.tick ∧ q.tick ≤ 9223372036854775807) ∧ (0 ≤ q.for_ ∧ q.for_ ≤ 4294967295) ∧ (r < l → q.body.length ≤ 140737488351232) := by
      intro r hrc
      obtain ⟨cs', h1, h2⟩ := hr r hrc
      rw [show Tryz.prog.cellsOf 54 = 3 from by kernel_rfl] at h1
      obtain ⟨_, hlen, hcell⟩ := World.cells?_some h1
      obtain ⟨xs, k, hk, hxy, _, hxl, hf⟩ := DataW.trod_struct Tryz.underlying54 h2
      match xs, hxl, cs', hlen with
      | [y0, y1, y2], _, [v0, v1, v2], _ =>
        have g0 := hf 0 _ rfl
        have g1 := hf 1 _ rfl
        have g2 := hf 2 _ rfl
        rw [show Tryz.prog.cellsOf _ = 1 from by kernel_rfl] at g0 g1 g2
        simp only [List.getElem?_cons_zero, List.getElem?_cons_succ] at g0 g1 g2
        have e0 := hcell 0 (by omega)
        have e1 := hcell 1 (by omega)
        have e2 := hcell 2 (by omega)
        rw [Go.Deep.add_add] at e0 e1 e2
        obtain ⟨q0, r0, _, s0⟩ := DataW.trod_int Tryz.underlying3 g0
        obtain ⟨q1, r1, _, s1⟩ := DataW.trod_int Tryz.underlying34 g1
        obtain ⟨ba, bl, bc, bs, r3, hrd, hlc, hnc, hfm⟩ := bytes_cell g2
        have hbc : r < l → bc ≤ 140737488351232 := by
          intro hrn
          rcases hfm with ⟨_, h3, _⟩ | ⟨els, sp, h3, h4, h5⟩
          · omega
          · have h6 := hw2 r hrn ((els.length + sp.length) * 1) (by
              rw [show D r = .agg [y0.1, y1.1, y2.1] from by simpa using congrArg Prod.fst hxy]
              simp only [DataW.weights, Tryz.underlying54]
              simp only [List.map_cons, List.map_nil, DataW.weightsEach, h3, List.mem_append]
              refine .inr (.inr (.inl ?_))
              simp [DataW.weights, Tryz.underlying52, bytesByte])
            simp only [reachBytes] at h6
            omega
        refine ⟨⟨q0, q1, bs⟩, ?_, ?_, ⟨ba, bl, bc, ?_, hrd, hnc, hlc, hbc⟩, ?_, ?_, fun hrn => ?_⟩
        · simp_all
        · simp_all
        · simp_all
        · simpa [Lit.wf, IntKind.min, IntKind.max, IntKind.signed, IntKind.bits] using s0
        · simpa [Lit.wf, IntKind.min, IntKind.max, IntKind.signed, IntKind.bits] using s1
        · have := hrd.size
          have := hbc hrn
          simp only
          omega
    haveI : Inhabited It := ⟨⟨0, 0, []⟩⟩
    obtain ⟨y, hy⟩ := Go.Deep.choose_lt each
    refine ⟨some x, l, m, (List.range l).map y, hv, ⟨by simp, ?_, ?_⟩, hl, hm, by simp only [reachBytes] at hw1; omega, (fun h => by cases h), ?_⟩
    · by_cases hn0 : l = 0
      · left; simp [hn0]
      · right
        obtain ⟨b, off, spot⟩ := x
        have hc := (hy 0 (by omega)).1
        have hspot : spot = none := by simpa [Addr.add] using World.cell?_spot hc
        subst hspot
        refine ⟨b, off, rfl, World.block_lt_of_cell? W _ hc, fun i q hi => ?_⟩
        have hin : i < l := by
          have := (List.getElem?_eq_some_iff.1 hi).1
          simpa using this
        have hq : q = y i := by
          rw [List.getElem?_map, List.getElem?_range hin] at hi
          simpa using hi.symm
        subst hq
        have e : ∀ j, (⟨b, off, none⟩ : Addr).add j = ⟨b, off + j, none⟩ := fun j => by unfold Addr.add; split <;> simp_all
        obtain ⟨h2, h3, ⟨ba, bl, bc, h4, h5, h6, h7, h8⟩, _⟩ := hy i (by omega)
        rw [e] at h2 h3 h4
        have := h8 hin
        exact ⟨h2, h3, ba, bl, bc, h4, h5, h6, h7, by omega⟩
    · intro q hq
      obtain ⟨i, hi, rfl⟩ := List.mem_map.1 hq
      have hin := List.mem_range.1 hi
      exact ⟨(hy i (by omega)).2.2.2.1, (hy i (by omega)).2.2.2.2.1⟩
    · intro q hq
      obtain ⟨i, hi, rfl⟩ := List.mem_map.1 hq
      have hin := List.mem_range.1 hi
      exact (hy i (by omega)).2.2.2.2.2 hin
/-- Spans in a cell that came in. -/
theorem spans_cell {H : Type} {enc : TypeId × Value → H} {W : World} {fuel : Nat} {v : Value} {x : DataW H × List MemPlace}
    (hf : DataW.trod enc Tryz.prog W 0 (fun _ => true) true fuel 30 [v] = some x) (hw : ∀ y ∈ DataW.weights Tryz.prog 30 x.1, y ≤ reachBytes) : ∃ a n cap l, v = .slice a n cap ∧ SpsRd W a n l ∧ n ≤ cap ∧ cap ≤ maxLen ∧ cap * 24 ≤ 140737488351232 ∧ (a = none → cap = 0) := by
  obtain ⟨d, p⟩ := x
  rcases Go.Deep.open_slice Tryz.underlying30 hf with ⟨hcs, hx⟩ | ⟨x, l, c, m, n', D, Pl, hcs, hb, hl, hm, hmm, hx, hr⟩
  · have hv : v = .slice none 0 0 := by simpa using hcs
    exact ⟨none, 0, 0, [], hv, ⟨rfl, .inl rfl⟩, Nat.le_refl _, by omega, by omega, fun _ => rfl⟩
  · have hv : v = .slice (some x) l c := by simpa using hcs
    subst hv
    obtain ⟨q, h1, h2, h3, _⟩ := open_spans (W := W) (enc := enc) (a := some x) (n := l) (cap := c) (d := d) (p := p) ⟨fuel, hf⟩
    simp only [if_true] at hmm
    subst hmm
    simp only [Prod.mk.injEq] at hx
    obtain ⟨rfl, _⟩ := hx
    have hw1 : m * 24 ≤ reachBytes := by
      refine hw _ ?_
      simp only [DataW.weights, Tryz.underlying30, bytesSpan]
      refine List.mem_cons.2 (.inl ?_)
      simp
      omega
    exact ⟨some x, l, m, q, rfl, h1, h2, h3, by simp only [reachBytes] at hw1; omega, fun h => by cases h⟩

theorem array8 {α : Type} {cs : Array α} (h : cs.size = 8) : ∃ c0 c1 c2 c3 c4 c5 c6 c7, cs = #[c0, c1, c2, c3, c4, c5, c6, c7] := by
  obtain ⟨l⟩ := cs
  match l, h with
  | [c0, c1, c2, c3, c4, c5, c6, c7], _ => exact ⟨c0, c1, c2, c3, c4, c5, c6, c7, rfl⟩
theorem list8 {α : Type} {l : List α} (h : l.length = 8) : ∃ c0 c1 c2 c3 c4 c5 c6 c7, l = [c0, c1, c2, c3, c4, c5, c6, c7] := by
  match l, h with
  | [c0, c1, c2, c3, c4, c5, c6, c7], _ => exact ⟨c0, c1, c2, c3, c4, c5, c6, c7, rfl⟩

/-- How great a parcel that came in can be. -/
structure PcBig (p : Pc) (sa : Option Addr) (sc : Nat) (ia : Option Addr) (ic : Nat) : Prop where
  sb : sc * 24 ≤ 140737488351232
  sz : sa = none → sc = 0
  ib : ic * 40 ≤ 140737488351232
  iz : ia = none → ic = 0
  bb : ∀ q ∈ p.items, q.body.length ≤ 140737488351232

set_option maxRecDepth 10000 in
theorem open_parcel {H : Type} {enc : TypeId × Value → H} {W : World} {base : Nat} {v : Value} {d : DataW H} {p : List MemPlace} (hv : Value.okWide Tryz.prog W .any base 33 v)
    (h : DataW.Trod enc Tryz.prog W 0 (fun _ => true) true 33 v d p) (hw : ∀ y ∈ DataW.weights Tryz.prog 33 d, y ≤ reachBytes) :
    ∃ (q : Pc) (sa : Option Addr) (sn sc : Nat) (ia : Option Addr) (im ic : Nat), v = q.val sa sn sc ia im ic ∧ PcRd W q sa sn sc ia im ic ∧ PcBig q sa sc ia ic := by
  obtain ⟨cs, rfl, hsz⟩ := okWide_struct Tryz.underlying33 hv
  obtain ⟨v0, v1, v2, v3, v4, v5, v6, v7, rfl⟩ := array8 (hsz.trans (show Tryz.prog.cellsOf 33 = 8 by kernel_rfl))
  obtain ⟨fuel, hf0⟩ := h
  obtain ⟨xs, k, hk, hxy, _, hxl, hf⟩ := DataW.trod_struct Tryz.underlying33 hf0
  obtain ⟨y0, y1, y2, y3, y4, y5, y6, y7, rfl⟩ := list8 hxl
  have g0 := hf 0 _ rfl
  have g1 := hf 1 _ rfl
  have g2 := hf 2 _ rfl
  have g3 := hf 3 _ rfl
  have g4 := hf 4 _ rfl
  have g5 := hf 5 _ rfl
  have g6 := hf 6 _ rfl
  have g7 := hf 7 _ rfl
  rw [show Tryz.prog.cellsOf _ = 1 from by kernel_rfl] at g0 g1 g2 g3 g4 g5 g6 g7
  simp only [Value.cells, List.getElem?_cons_zero, List.getElem?_cons_succ] at g0 g1 g2 g3 g4 g5 g6 g7
  obtain ⟨q0, r0, _, s0⟩ := DataW.trod_int Tryz.underlying29 g0
  obtain ⟨q1, r1, _, s1⟩ := DataW.trod_int Tryz.underlying3 g1
  obtain ⟨q2, r2, _, s2⟩ := DataW.trod_int Tryz.underlying3 g2
  obtain ⟨q3, r3, _, s3⟩ := DataW.trod_int Tryz.underlying3 g3
  obtain ⟨q4, r4, _, s4⟩ := DataW.trod_int Tryz.underlying3 g4
  obtain ⟨q5, r5, _, s5⟩ := DataW.trod_int Tryz.underlying3 g5
  have hD : d = .agg [y0.1, y1.1, y2.1, y3.1, y4.1, y5.1, y6.1, y7.1] := by simpa using congrArg Prod.fst hxy
  have hw6 : ∀ y ∈ DataW.weights Tryz.prog 30 y6.1, y ≤ reachBytes := fun y hy => hw y (by
    rw [hD]
    simp only [DataW.weights, Tryz.underlying33]
    simp only [List.map_cons, List.map_nil, DataW.weightsEach, List.mem_append]
    exact .inr (.inr (.inr (.inr (.inr (.inr (.inl hy)))))))
  have hw7 : ∀ y ∈ DataW.weights Tryz.prog 31 y7.1, y ≤ reachBytes := fun y hy => hw y (by
    rw [hD]
    simp only [DataW.weights, Tryz.underlying33]
    simp only [List.map_cons, List.map_nil, DataW.weightsEach, List.mem_append]
    exact .inr (.inr (.inr (.inr (.inr (.inr (.inr (.inl hy))))))))
  obtain ⟨sa, sn, sc, ls, r6, hs1, hs2, hs3, hs4, hs5⟩ := spans_cell g6 hw6
  obtain ⟨ia, im, ic, li, r7, hi1, hi2, hi3, hi4, hi5, hi6⟩ := items_cell g7 hw7
  have e0 : v0 = .int .i64 q0 := by simpa using r0
  have e1 : v1 = .int .i64 q1 := by simpa using r1
  have e2 : v2 = .int .i64 q2 := by simpa using r2
  have e3 : v3 = .int .i64 q3 := by simpa using r3
  have e4 : v4 = .int .i64 q4 := by simpa using r4
  have e5 : v5 = .int .i64 q5 := by simpa using r5
  exact ⟨⟨q0, q1, q2, q3, q4, q5, ls, li⟩, sa, sn, sc, ia, im, ic, by rw [e0, e1, e2, e3, e4, e5, r6, r7], ⟨hs1, hi1, hs2, hs3, hi2, hi3⟩, ⟨hs4, hs5, hi4, hi5, hi6⟩⟩
end Go.Proofs.YtidihfhgnjkmaaaGreat
/- The eight cells of a parcel that came in. -/
namespace Go.Proofs.YtidihfhgnjkmaaaGreat
open Go.ChangeShapes Go.WideShapes Go.ChangeAt Go.RowKit

set_option maxRecDepth 10000 in
theorem parcel_cells {H : Type} {enc : TypeId × Value → H} {W : World} {fuel : Nat} {v0 v1 v2 v3 v4 v5 v6 v7 : Value} {x : DataW H × List MemPlace}
    (hf0 : DataW.trod enc Tryz.prog W 0 (fun _ => true) true fuel 33 [v0, v1, v2, v3, v4, v5, v6, v7] = some x) (hw : ∀ y ∈ DataW.weights Tryz.prog 33 x.1, y ≤ reachBytes) :
    ∃ (q : Pc) (sa : Option Addr) (sn sc : Nat) (ia : Option Addr) (im ic : Nat), (v0 = .int .i64 q.kind ∧ v1 = .int .i64 q.pub ∧ v2 = .int .i64 q.sub ∧ v3 = .int .i64 q.n_ ∧ v4 = .int .i64 q.fr ∧ v5 = .int .i64 q.to_ ∧ v6 = .slice sa sn sc ∧ v7 = .slice ia im ic) ∧ PcRd W q sa sn sc ia im ic ∧ PcBig q sa sc ia ic := by
  obtain ⟨xs, k, hk, hxy, _, hxl, hf⟩ := DataW.trod_struct Tryz.underlying33 hf0
  obtain ⟨y0, y1, y2, y3, y4, y5, y6, y7, rfl⟩ := list8 hxl
  have g0 := hf 0 _ rfl
  have g1 := hf 1 _ rfl
  have g2 := hf 2 _ rfl
  have g3 := hf 3 _ rfl
  have g4 := hf 4 _ rfl
  have g5 := hf 5 _ rfl
  have g6 := hf 6 _ rfl
  have g7 := hf 7 _ rfl
  rw [show Tryz.prog.cellsOf _ = 1 from by kernel_rfl] at g0 g1 g2 g3 g4 g5 g6 g7
  simp only [List.getElem?_cons_zero, List.getElem?_cons_succ] at g0 g1 g2 g3 g4 g5 g6 g7
  obtain ⟨q0, r0, _, s0⟩ := DataW.trod_int Tryz.underlying29 g0
  obtain ⟨q1, r1, _, s1⟩ := DataW.trod_int Tryz.underlying3 g1
  obtain ⟨q2, r2, _, s2⟩ := DataW.trod_int Tryz.underlying3 g2
  obtain ⟨q3, r3, _, s3⟩ := DataW.trod_int Tryz.underlying3 g3
  obtain ⟨q4, r4, _, s4⟩ := DataW.trod_int Tryz.underlying3 g4
  obtain ⟨q5, r5, _, s5⟩ := DataW.trod_int Tryz.underlying3 g5
  have hD : x.1 = .agg [y0.1, y1.1, y2.1, y3.1, y4.1, y5.1, y6.1, y7.1] := by simpa using congrArg Prod.fst hxy
  have hw6 : ∀ y ∈ DataW.weights Tryz.prog 30 y6.1, y ≤ reachBytes := fun y hy => hw y (by
    rw [hD]
    simp only [DataW.weights, Tryz.underlying33]
    simp only [List.map_cons, List.map_nil, DataW.weightsEach, List.mem_append]
    exact .inr (.inr (.inr (.inr (.inr (.inr (.inl hy)))))))
  have hw7 : ∀ y ∈ DataW.weights Tryz.prog 31 y7.1, y ≤ reachBytes := fun y hy => hw y (by
    rw [hD]
    simp only [DataW.weights, Tryz.underlying33]
    simp only [List.map_cons, List.map_nil, DataW.weightsEach, List.mem_append]
    exact .inr (.inr (.inr (.inr (.inr (.inr (.inr (.inl hy))))))))
  obtain ⟨sa, sn, sc, ls, r6, hs1, hs2, hs3, hs4, hs5⟩ := spans_cell g6 hw6
  obtain ⟨ia, im, ic, li, r7, hi1, hi2, hi3, hi4, hi5, hi6⟩ := items_cell g7 hw7
  exact ⟨⟨q0, q1, q2, q3, q4, q5, ls, li⟩, sa, sn, sc, ia, im, ic, ⟨by simpa using r0, by simpa using r1, by simpa using r2, by simpa using r3, by simpa using r4, by simpa using r5, r6, r7⟩, ⟨hs1, hi1, hs2, hs3, hi2, hi3⟩, ⟨hs4, hs5, hi4, hi5, hi6⟩⟩

end Go.Proofs.YtidihfhgnjkmaaaGreat
/- A list of parcels, as it came in. -/
namespace Go.Proofs.YtidihfhgnjkmaaaGreat
open Go.ChangeShapes Go.WideShapes Go.ChangeAt Go.RowKit

/-- A parcel, and where its parts lie. -/
structure Pa where
  p : Pc
  sa : Option Addr
  sn : Nat
  sc : Nat
  ia : Option Addr
  im : Nat
  ic : Nat
structure PaOk (w : World) (q : Pa) : Prop where
  rd : PcRd w q.p q.sa q.sn q.sc q.ia q.im q.ic
  big : PcBig q.p q.sa q.sc q.ia q.ic
theorem PaOk.below {w w' : World} {q : Pa} (h : PaOk w q) (hb : Below w.heap.size w w') : PaOk w' q := ⟨h.rd.below hb, h.big⟩
/-- Its cells. -/
def PaAt (w : World) (g o : Nat) (q : Pa) : Prop := w.cell? ⟨g, o, none⟩ = some (.int .i64 q.p.kind) ∧ w.cell? ⟨g, o + 1, none⟩ = some (.int .i64 q.p.pub) ∧ w.cell? ⟨g, o + 2, none⟩ = some (.int .i64 q.p.sub) ∧ w.cell? ⟨g, o + 3, none⟩ = some (.int .i64 q.p.n_) ∧ w.cell? ⟨g, o + 4, none⟩ = some (.int .i64 q.p.fr) ∧ w.cell? ⟨g, o + 5, none⟩ = some (.int .i64 q.p.to_) ∧ w.cell? ⟨g, o + 6, none⟩ = some (.slice q.sa q.sn q.sc) ∧ w.cell? ⟨g, o + 7, none⟩ = some (.slice q.ia q.im q.ic)
theorem PaAt.below {w w' : World} {g o B : Nat} {q : Pa} (h : PaAt w g o q) (hb : Below B w w') (hg : g < B) : PaAt w' g o q := by
  unfold PaAt at h ⊢
  rw [hb.cell (p := ⟨g, o, none⟩) hg, hb.cell (p := ⟨g, o + 1, none⟩) hg, hb.cell (p := ⟨g, o + 2, none⟩) hg, hb.cell (p := ⟨g, o + 3, none⟩) hg, hb.cell (p := ⟨g, o + 4, none⟩) hg, hb.cell (p := ⟨g, o + 5, none⟩) hg, hb.cell (p := ⟨g, o + 6, none⟩) hg, hb.cell (p := ⟨g, o + 7, none⟩) hg]
  exact h
structure PasRd (w : World) (a : Option Addr) (n : Nat) (l : List Pa) : Prop where
  size : l.length = n
  cells : l = [] ∨ ∃ g o, a = some ⟨g, o, none⟩ ∧ g < w.heap.size ∧ ∀ (i : Nat) (q : Pa), l[i]? = some q → PaAt w g (o + i * 8) q
  each : ∀ q ∈ l, PaOk w q
theorem PasRd.below {w w' : World} {a : Option Addr} {n : Nat} {l : List Pa} (h : PasRd w a n l) (hb : Below w.heap.size w w') : PasRd w' a n l := by
  refine ⟨h.size, ?_, fun q hq => (h.each q hq).below hb⟩
  rcases h.cells with h0 | ⟨g, o, ha, hg, hc⟩
  · exact .inl h0
  · exact .inr ⟨g, o, ha, Nat.lt_of_lt_of_le hg hb.size, fun i q hi => (hc i q hi).below hb hg⟩
theorem PasRd.spot {w : World} {a : Option Addr} {n : Nat} {l : List Pa} (h : PasRd w a n l) (i : Nat) (hi : i < n) : ∃ g o, a = some ⟨g, o, none⟩ ∧ g < w.heap.size ∧ ∃ q, l[i]? = some q ∧ PaOk w q ∧ PaAt w g (o + i * 8) q := by
  have hl : i < l.length := by rw [h.size]; exact hi
  rcases h.cells with rfl | ⟨g, o, ha, hg, hc⟩
  · simp at hl
  · exact ⟨g, o, ha, hg, l[i], List.getElem?_eq_getElem hl, h.each _ (List.getElem_mem hl), hc i l[i] (List.getElem?_eq_getElem hl)⟩
set_option maxRecDepth 10000 in
theorem open_parcels {H : Type} {enc : TypeId × Value → H} {W : World} {a : Option Addr} {n cap : Nat} {d : DataW H} {fuel : Nat} {p : List MemPlace}
    (hf : DataW.trod enc Tryz.prog W 0 (fun _ => true) true fuel 37 [.slice a n cap] = some (d, p)) (hw : ∀ y ∈ DataW.weights Tryz.prog 37 d, y ≤ reachBytes) : ∃ l, PasRd W a n l ∧ n ≤ cap ∧ cap ≤ maxLen := by
  rcases Go.Deep.open_slice Tryz.underlying37 hf with ⟨hcs, hx⟩ | ⟨x, l, c, m, n', D, Pl, hcs, hb, hl, hm, hmm, hx, hr⟩
  · simp at hcs
    obtain ⟨rfl, rfl, rfl⟩ := hcs
    exact ⟨[], ⟨rfl, .inl rfl, fun q hq => by cases hq⟩, Nat.le_refl _, by omega⟩
  · simp at hcs
    obtain ⟨rfl, rfl, rfl⟩ := hcs
    simp only [if_true] at hmm
    subst hmm
    simp only [Prod.mk.injEq] at hx
    obtain ⟨rfl, _⟩ := hx
    have hw2 : ∀ r, r < n → ∀ y ∈ DataW.weights Tryz.prog 33 (D r), y ≤ reachBytes := by
      intro r hr y hy
      refine hw y ?_
      simp only [DataW.weights, Tryz.underlying37]
      exact List.mem_cons_of_mem _ (List.mem_append_left _ (weights_in' _ _ _ (D r) _ (List.mem_map.2 ⟨r, List.mem_range.2 hr, rfl⟩) hy))
    have each : ∀ r, r < n → ∃ q : Pa, (∀ j u, [Value.int .i64 q.p.kind, .int .i64 q.p.pub, .int .i64 q.p.sub, .int .i64 q.p.n_, .int .i64 q.p.fr, .int .i64 q.p.to_, .slice q.sa q.sn q.sc, .slice q.ia q.im q.ic][j]? = some u → W.cell? (x.add (r * 8 + j)) = some u) ∧ PaOk W q := by
      intro r hrn
      obtain ⟨cs', h1, h2⟩ := hr r (by omega)
      rw [show Tryz.prog.cellsOf 33 = 8 from by kernel_rfl] at h1
      obtain ⟨_, hlen, hcell⟩ := World.cells?_some h1
      obtain ⟨v0, v1, v2, v3, v4, v5, v6, v7, rfl⟩ := list8 hlen
      obtain ⟨q, sa, sn, sc, ia, im, ic, ⟨e0, e1, e2, e3, e4, e5, e6, e7⟩, hrd, hbig⟩ := parcel_cells h2 (hw2 r hrn)
      refine ⟨⟨q, sa, sn, sc, ia, im, ic⟩, fun j u hj => ?_, hrd, hbig⟩
      have hjl := (List.getElem?_eq_some_iff.1 hj).1
      have e := hcell j (by simpa using hjl)
      rw [Go.Deep.add_add] at e
      rw [e]
      subst e0 e1 e2 e3 e4 e5 e6 e7
      exact hj
    haveI : Inhabited Pa := ⟨⟨⟨0, 0, 0, 0, 0, 0, [], []⟩, none, 0, 0, none, 0, 0⟩⟩
    obtain ⟨y, hy⟩ := Go.Deep.choose_lt each
    refine ⟨(List.range n).map y, ⟨by simp, ?_, ?_⟩, hl, hm⟩
    · by_cases hn0 : n = 0
      · left; simp [hn0]
      · right
        obtain ⟨b, off, spot⟩ := x
        have hc := (hy 0 (by omega)).1 0 _ rfl
        have hspot : spot = none := by simpa [Addr.add] using World.cell?_spot hc
        subst hspot
        refine ⟨b, off, rfl, World.block_lt_of_cell? W _ hc, fun i q hi => ?_⟩
        have hin : i < n := by
          have := (List.getElem?_eq_some_iff.1 hi).1
          simpa using this
        have hq : q = y i := by
          rw [List.getElem?_map, List.getElem?_range hin] at hi
          simpa using hi.symm
        subst hq
        have e : ∀ j, (⟨b, off, none⟩ : Addr).add j = ⟨b, off + j, none⟩ := fun j => by unfold Addr.add; split <;> simp_all
        have h2 := (hy i hin).1
        have h3 : ∀ j u, [Value.int .i64 (y i).p.kind, .int .i64 (y i).p.pub, .int .i64 (y i).p.sub, .int .i64 (y i).p.n_, .int .i64 (y i).p.fr, .int .i64 (y i).p.to_, .slice (y i).sa (y i).sn (y i).sc, .slice (y i).ia (y i).im (y i).ic][j]? = some u → W.cell? ⟨b, off + i * 8 + j, none⟩ = some u := fun j u hj => by
          rw [Nat.add_assoc, ← e]
          exact h2 j u hj
        exact ⟨h3 0 _ rfl, h3 1 _ rfl, h3 2 _ rfl, h3 3 _ rfl, h3 4 _ rfl, h3 5 _ rfl, h3 6 _ rfl, h3 7 _ rfl⟩
    · intro q hq
      obtain ⟨i, hi, rfl⟩ := List.mem_map.1 hq
      have hin := List.mem_range.1 hi
      exact (hy i (by omega)).2
end Go.Proofs.YtidihfhgnjkmaaaGreat
/- A script of deeds on a stream, as it came in. -/
namespace Go.Proofs.YtidihfhgnjkmaaaGreat
open Go.ChangeShapes Go.WideShapes Go.ChangeAt Go.RowKit

/-- A deed, as it is read. -/
structure De where
  do_ : Int
  p : Pc
  sa : Option Addr
  sn : Nat
  sc : Nat
  ia : Option Addr
  im : Nat
  ic : Nat
  t_ : Int
  id : Int
  lk : Int
def De.cells (q : De) : List Value := [.int .i64 q.do_, .int .i64 q.p.kind, .int .i64 q.p.pub, .int .i64 q.p.sub, .int .i64 q.p.n_, .int .i64 q.p.fr, .int .i64 q.p.to_, .slice q.sa q.sn q.sc, .slice q.ia q.im q.ic, .int .i64 q.t_, .int .i64 q.id, .int .u32 q.lk]
structure DeOk (w : World) (q : De) : Prop where
  rd : PcRd w q.p q.sa q.sn q.sc q.ia q.im q.ic
  big : PcBig q.p q.sa q.sc q.ia q.ic
  tb : -9223372036854775808 ≤ q.t_ ∧ q.t_ ≤ 9223372036854775807
  lb : 0 ≤ q.lk ∧ q.lk ≤ 4294967295
  ib : -9223372036854775808 ≤ q.id ∧ q.id ≤ 9223372036854775807
theorem DeOk.below {w w' : World} {q : De} (h : DeOk w q) (hb : Below w.heap.size w w') : DeOk w' q := ⟨h.rd.below hb, h.big, h.tb, h.lb, h.ib⟩
structure DesRd (w : World) (a : Option Addr) (n : Nat) (l : List De) : Prop where
  size : l.length = n
  cells : l = [] ∨ ∃ g o, a = some ⟨g, o, none⟩ ∧ g < w.heap.size ∧ ∀ (i : Nat) (q : De), l[i]? = some q → ∀ j u, q.cells[j]? = some u → w.cell? ⟨g, o + i * 12 + j, none⟩ = some u
  each : ∀ q ∈ l, DeOk w q
theorem DesRd.below {w w' : World} {a : Option Addr} {n : Nat} {l : List De} (h : DesRd w a n l) (hb : Below w.heap.size w w') : DesRd w' a n l := by
  refine ⟨h.size, ?_, fun q hq => (h.each q hq).below hb⟩
  rcases h.cells with h0 | ⟨g, o, ha, hg, hc⟩
  · exact .inl h0
  · refine .inr ⟨g, o, ha, Nat.lt_of_lt_of_le hg hb.size, fun i q hi j u hu => ?_⟩
    rw [hb.cell (p := ⟨g, o + i * 12 + j, none⟩) hg]
    exact hc i q hi j u hu
theorem DesRd.spot {w : World} {a : Option Addr} {n : Nat} {l : List De} (h : DesRd w a n l) (i : Nat) (hi : i < n) : ∃ g o, a = some ⟨g, o, none⟩ ∧ g < w.heap.size ∧ ∃ q, l[i]? = some q ∧ DeOk w q ∧ ∀ j u, q.cells[j]? = some u → w.cell? ⟨g, o + i * 12 + j, none⟩ = some u := by
  have hl : i < l.length := by rw [h.size]; exact hi
  rcases h.cells with rfl | ⟨g, o, ha, hg, hc⟩
  · simp at hl
  · exact ⟨g, o, ha, hg, l[i], List.getElem?_eq_getElem hl, h.each _ (List.getElem_mem hl), hc i l[i] (List.getElem?_eq_getElem hl)⟩
theorem list12 {α : Type} {l : List α} (h : l.length = 12) : ∃ c0 c1 c2 c3 c4 c5 c6 c7 c8 c9 c10 c11, l = [c0, c1, c2, c3, c4, c5, c6, c7, c8, c9, c10, c11] := by
  match l, h with
  | [c0, c1, c2, c3, c4, c5, c6, c7, c8, c9, c10, c11], _ => exact ⟨c0, c1, c2, c3, c4, c5, c6, c7, c8, c9, c10, c11, rfl⟩
theorem list5 {α : Type} {l : List α} (h : l.length = 5) : ∃ c0 c1 c2 c3 c4, l = [c0, c1, c2, c3, c4] := by
  match l, h with
  | [c0, c1, c2, c3, c4], _ => exact ⟨c0, c1, c2, c3, c4, rfl⟩

set_option maxRecDepth 10000 in
theorem open_des {H : Type} {enc : TypeId × Value → H} {W : World} {a : Option Addr} {n cap : Nat} {d : DataW H} {fuel : Nat} {p : List MemPlace}
    (hf : DataW.trod enc Tryz.prog W 0 (fun _ => true) true fuel 22 [.slice a n cap] = some (d, p)) (hw : ∀ y ∈ DataW.weights Tryz.prog 22 d, y ≤ reachBytes) : ∃ l, DesRd W a n l ∧ n ≤ cap ∧ cap ≤ maxLen := by
  rcases Go.Deep.open_slice Tryz.underlying22 hf with ⟨hcs, hx⟩ | ⟨x, l, c, m, n', D, Pl, hcs, hb, hl, hm, hmm, hx, hr⟩
  · simp at hcs
    obtain ⟨rfl, rfl, rfl⟩ := hcs
    exact ⟨[], ⟨rfl, .inl rfl, fun q hq => by cases hq⟩, Nat.le_refl _, by omega⟩
  · simp at hcs
    obtain ⟨rfl, rfl, rfl⟩ := hcs
    simp only [if_true] at hmm
    subst hmm
    simp only [Prod.mk.injEq] at hx
    obtain ⟨rfl, _⟩ := hx
    have hw2 : ∀ r, r < n → ∀ y ∈ DataW.weights Tryz.prog 36 (D r), y ≤ reachBytes := by
      intro r hr y hy
      refine hw y ?_
      simp only [DataW.weights, Tryz.underlying22]
      exact List.mem_cons_of_mem _ (List.mem_append_left _ (weights_in' _ _ _ (D r) _ (List.mem_map.2 ⟨r, List.mem_range.2 hr, rfl⟩) hy))
    have each : ∀ r, r < n → ∃ q : De, (∀ j u, q.cells[j]? = some u → W.cell? (x.add (r * 12 + j)) = some u) ∧ DeOk W q := by
      intro r hrn
      obtain ⟨cs', h1, h2⟩ := hr r (by omega)
      rw [show Tryz.prog.cellsOf 36 = 12 from by kernel_rfl] at h1
      obtain ⟨_, hlen, hcell⟩ := World.cells?_some h1
      obtain ⟨xs, k, hk, hxy, _, hxl, hf⟩ := DataW.trod_struct Tryz.underlying36 h2
      obtain ⟨y0, y1, y2, y3, y4, rfl⟩ := list5 hxl
      obtain ⟨v0, v1, v2, v3, v4, v5, v6, v7, v8, v9, v10, v11, rfl⟩ := list12 hlen
      have g0 := hf 0 _ rfl
      have g1 := hf 1 _ rfl
      have g2 := hf 2 _ rfl
      have g3 := hf 3 _ rfl
      have g4 := hf 4 _ rfl
      rw [show Tryz.prog.cellsOf _ = 1 from by kernel_rfl] at g0 g2 g3 g4
      rw [show Tryz.prog.cellsOf _ = 8 from by kernel_rfl] at g1
      simp only [List.getElem?_cons_zero, List.getElem?_cons_succ] at g0 g1 g2 g3 g4
      obtain ⟨q0, r0, _, s0⟩ := DataW.trod_int Tryz.underlying3 g0
      obtain ⟨q2, r2, _, s2⟩ := DataW.trod_int Tryz.underlying3 g2
      obtain ⟨q3, r3, _, s3⟩ := DataW.trod_int Tryz.underlying3 g3
      obtain ⟨q4, r4, _, s4⟩ := DataW.trod_int Tryz.underlying34 g4
      have hD : D r = .agg [y0.1, y1.1, y2.1, y3.1, y4.1] := by simpa using congrArg Prod.fst hxy
      have hw3 : ∀ y ∈ DataW.weights Tryz.prog 33 y1.1, y ≤ reachBytes := fun y hy => hw2 r hrn y (by
        rw [hD]
        simp only [DataW.weights, Tryz.underlying36]
        simp only [List.map_cons, List.map_nil, DataW.weightsEach, List.mem_append]
        exact .inr (.inl hy))
      obtain ⟨q, sa, sn, sc, ia, im, ic, ⟨e1, e2, e3, e4, e5, e6, e7, e8⟩, hrd, hbig⟩ := parcel_cells g1 hw3
      have b2 : (-9223372036854775808 : Int) ≤ q2 ∧ q2 ≤ 9223372036854775807 := by simpa [Lit.wf, IntKind.min, IntKind.max, IntKind.signed, IntKind.bits] using s2
      have b3 : (-9223372036854775808 : Int) ≤ q3 ∧ q3 ≤ 9223372036854775807 := by simpa [Lit.wf, IntKind.min, IntKind.max, IntKind.signed, IntKind.bits] using s3
      have b4 : (0 : Int) ≤ q4 ∧ q4 ≤ 4294967295 := by simpa [Lit.wf, IntKind.min, IntKind.max, IntKind.signed, IntKind.bits] using s4
      have e0 : v0 = .int .i64 q0 := by simpa using r0
      have e9 : v9 = .int .i64 q2 := by simpa using r2
      have e10 : v10 = .int .i64 q3 := by simpa using r3
      have e11 : v11 = .int .u32 q4 := by simpa using r4
      refine ⟨⟨q0, q, sa, sn, sc, ia, im, ic, q2, q3, q4⟩, fun j u hj => ?_, hrd, hbig, b2, b4, b3⟩
      have hjl := (List.getElem?_eq_some_iff.1 hj).1
      have e := hcell j (by simpa [De.cells] using hjl)
      rw [Go.Deep.add_add] at e
      rw [e]
      subst e0 e1 e2 e3 e4 e5 e6 e7 e8 e9 e10 e11
      exact hj
    haveI : Inhabited De := ⟨⟨0, ⟨0, 0, 0, 0, 0, 0, [], []⟩, none, 0, 0, none, 0, 0, 0, 0, 0⟩⟩
    obtain ⟨y, hy⟩ := Go.Deep.choose_lt each
    refine ⟨(List.range n).map y, ⟨by simp, ?_, ?_⟩, hl, hm⟩
    · by_cases hn0 : n = 0
      · left; simp [hn0]
      · right
        obtain ⟨b, off, spot⟩ := x
        have hc := (hy 0 (by omega)).1 0 _ rfl
        have hspot : spot = none := by simpa [Addr.add] using World.cell?_spot hc
        subst hspot
        refine ⟨b, off, rfl, World.block_lt_of_cell? W _ hc, fun i q hi j u hj => ?_⟩
        have hin : i < n := by
          have := (List.getElem?_eq_some_iff.1 hi).1
          simpa using this
        have hq : q = y i := by
          rw [List.getElem?_map, List.getElem?_range hin] at hi
          simpa using hi.symm
        subst hq
        have e : ∀ j, (⟨b, off, none⟩ : Addr).add j = ⟨b, off + j, none⟩ := fun j => by unfold Addr.add; split <;> simp_all
        rw [Nat.add_assoc, ← e]
        exact (hy i hin).1 j u hj
    · intro q hq
      obtain ⟨i, hi, rfl⟩ := List.mem_map.1 hq
      have hin := List.mem_range.1 hi
      exact (hy i (by omega)).2
end Go.Proofs.YtidihfhgnjkmaaaGreat
