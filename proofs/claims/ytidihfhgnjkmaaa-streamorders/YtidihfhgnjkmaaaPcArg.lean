/- A parcel that came in. -/
import Derived.Test.YtidihfhgnjkmaaaPcM
import Derived.Lib.SmallJoins
namespace Go.Proofs.Ytidihfhgnjkmaaa
open Go.ChangeShapes Go.WideShapes Go.ChangeAt Go.RowKit Go.Joins

/-- A slice of bytes in a cell that came in. -/
theorem bytes_cell {H : Type} {enc : TypeId × Value → H} {W : World} {fuel : Nat} {v : Value} {x : DataW H × List MemPlace}
    (h : DataW.trod enc Try.prog W 0 (fun _ => true) true fuel 40 [v] = some x) : ∃ a len cap bs, v = .slice a len cap ∧ Rd W a len bs ∧ len ≤ cap ∧ (a = none → cap = 0) ∧ Form x.1 len cap := by
  rcases open_ints Try.underlying40 Try.underlying5 (by kernel_rfl) h with ⟨hcs, hx⟩ | ⟨y, l, c, zs, hcs, hrest⟩
  · have hv : v = .slice none 0 0 := by simpa using hcs
    subst hv
    obtain ⟨bs, hb⟩ := rd_of (W := W) (enc := enc) (a := none) (len := 0) (cap := 0) (d := x.1) (p := x.2) ⟨fuel, h⟩
    exact ⟨none, 0, 0, bs, rfl, hb.1, hb.2.1, hb.2.2.2.2.1, hb.2.2.2.2.2⟩
  · have hv : v = .slice (some y) l c := by simpa using hcs
    subst hv
    obtain ⟨bs, hb⟩ := rd_of (W := W) (enc := enc) (a := some y) (len := l) (cap := c) (d := x.1) (p := x.2) ⟨fuel, h⟩
    exact ⟨some y, l, c, bs, rfl, hb.1, hb.2.1, hb.2.2.2.2.1, hb.2.2.2.2.2⟩
theorem weights_in' {H : Type} (P : Program) (e : TypeId) : ∀ (l : List (DataW H)) (d : DataW H) (y : Nat), d ∈ l → y ∈ DataW.weights P e d → y ∈ DataW.weightsAll P e l
  | x :: l, d, y, hd, hy => by
    simp only [DataW.weightsAll, List.mem_append]
    rcases List.mem_cons.1 hd with rfl | hd
    · exact .inl hy
    · exact .inr (weights_in' P e l d y hd hy)

theorem bytesItem : Try.prog.bytesOf 42 = 40 := by kernel_rfl
theorem bytesSpan : Try.prog.bytesOf 38 = 24 := by kernel_rfl

set_option maxRecDepth 10000 in
/-- Items in a cell that came in. -/
theorem items_cell {H : Type} {enc : TypeId × Value → H} {W : World} {fuel : Nat} {v : Value} {x : DataW H × List MemPlace}
    (hf : DataW.trod enc Try.prog W 0 (fun _ => true) true fuel 31 [v] = some x) (hw : ∀ y ∈ DataW.weights Try.prog 31 x.1, y ≤ reachBytes) : ∃ a n cap l, v = .slice a n cap ∧ ItsRd W a n l ∧ n ≤ cap ∧ cap ≤ maxLen ∧ cap * 40 ≤ 140737488351232 ∧ (a = none → cap = 0) ∧ ∀ q ∈ l, q.body.length ≤ 140737488351232 := by
  obtain ⟨d, p⟩ := x
  rcases Go.Deep.open_slice Try.underlying31 hf with ⟨hcs, hx⟩ | ⟨x, l, c, m, n', D, Pl, hcs, hb, hl, hm, hmm, hx, hr⟩
  · have hv : v = .slice none 0 0 := by simpa using hcs
    exact ⟨none, 0, 0, [], hv, ⟨rfl, .inl rfl, fun q hq => by cases hq⟩, Nat.le_refl _, by omega, by omega, fun _ => rfl, fun q hq => by cases hq⟩
  · have hv : v = .slice (some x) l c := by simpa using hcs
    simp only [if_true] at hmm
    subst hmm
    simp only [Prod.mk.injEq] at hx
    obtain ⟨rfl, _⟩ := hx
    have hw1 : m * 40 ≤ reachBytes := by
      refine hw _ ?_
      simp only [DataW.weights, Try.underlying31, bytesItem]
      refine List.mem_cons.2 (.inl ?_)
      simp
      omega
    have hw2 : ∀ r, r < l → ∀ y ∈ DataW.weights Try.prog 42 (D r), y ≤ reachBytes := by
      intro r hr y hy
      refine hw y ?_
      simp only [DataW.weights, Try.underlying31]
      exact List.mem_cons_of_mem _ (List.mem_append_left _ (weights_in' _ _ _ (D r) _ (List.mem_map.2 ⟨r, List.mem_range.2 hr, rfl⟩) hy))
    have each : ∀ r, r < m → ∃ q : It, W.cell? (x.add (r * 3)) = some (.int .i64 q.tick) ∧ W.cell? (x.add (r * 3 + 1)) = some (.int .u32 q.for_) ∧ (∃ ba bl bc, W.cell? (x.add (r * 3 + 2)) = some (.slice ba bl bc) ∧ Rd W ba bl q.body ∧ (ba = none → bc = 0) ∧ bl ≤ bc ∧ (r < l → bc ≤ 140737488351232)) ∧ ((-9223372036854775808 : Int) ≤ q.tick ∧ q.tick ≤ 9223372036854775807) ∧ (0 ≤ q.for_ ∧ q.for_ ≤ 4294967295) ∧ (r < l → q.body.length ≤ 140737488351232) := by
      intro r hrc
      obtain ⟨cs', h1, h2⟩ := hr r hrc
      rw [show Try.prog.cellsOf 42 = 3 from by kernel_rfl] at h1
      obtain ⟨_, hlen, hcell⟩ := World.cells?_some h1
      obtain ⟨xs, k, hk, hxy, _, hxl, hf⟩ := DataW.trod_struct Try.underlying42 h2
      match xs, hxl, cs', hlen with
      | [y0, y1, y2], _, [v0, v1, v2], _ =>
        have g0 := hf 0 _ rfl
        have g1 := hf 1 _ rfl
        have g2 := hf 2 _ rfl
        rw [show Try.prog.cellsOf _ = 1 from by kernel_rfl] at g0 g1 g2
        simp only [List.getElem?_cons_zero, List.getElem?_cons_succ] at g0 g1 g2
        have e0 := hcell 0 (by omega)
        have e1 := hcell 1 (by omega)
        have e2 := hcell 2 (by omega)
        rw [Go.Deep.add_add] at e0 e1 e2
        obtain ⟨q0, r0, _, s0⟩ := DataW.trod_int Try.underlying3 g0
        obtain ⟨q1, r1, _, s1⟩ := DataW.trod_int Try.underlying39 g1
        obtain ⟨ba, bl, bc, bs, r3, hrd, hlc, hnc, hfm⟩ := bytes_cell g2
        have hbc : r < l → bc ≤ 140737488351232 := by
          intro hrn
          rcases hfm with ⟨_, h3, _⟩ | ⟨els, sp, h3, h4, h5⟩
          · omega
          · have h6 := hw2 r hrn ((els.length + sp.length) * 1) (by
              rw [show D r = .agg [y0.1, y1.1, y2.1] from by simpa using congrArg Prod.fst hxy]
              simp only [DataW.weights, Try.underlying42]
              simp only [List.map_cons, List.map_nil, DataW.weightsEach, h3, List.mem_append]
              refine .inr (.inr (.inl ?_))
              simp [DataW.weights, Try.underlying40, bytesByte])
            simp only [reachBytes] at h6
            omega
        refine ⟨⟨q0, q1, bs⟩, ?_, ?_, ⟨ba, bl, bc, ?_, hrd, hnc, hlc, hbc⟩, ?_, ?_, fun hrn => ?_⟩
        · simp_all
        · simp_all
        · simp_all
        · simpa [Lit.wf, IntKind.min, IntKind.max, IntKind.signed, IntKind.bits] using s0
        · simpa [Lit.wf, IntKind.min, IntKind.max, IntKind.signed, IntKind.bits] using s1
        · have := hrd.size
          have := hbc hrn
          simp only
          omega
    haveI : Inhabited It := ⟨⟨0, 0, []⟩⟩
    obtain ⟨y, hy⟩ := Go.Deep.choose_lt each
    refine ⟨some x, l, m, (List.range l).map y, hv, ⟨by simp, ?_, ?_⟩, hl, hm, by simp only [reachBytes] at hw1; omega, (fun h => by cases h), ?_⟩
    · by_cases hn0 : l = 0
      · left; simp [hn0]
      · right
        obtain ⟨b, off, spot⟩ := x
        have hc := (hy 0 (by omega)).1
        have hspot : spot = none := by simpa [Addr.add] using World.cell?_spot hc
        subst hspot
        refine ⟨b, off, rfl, World.block_lt_of_cell? W _ hc, fun i q hi => ?_⟩
        have hin : i < l := by
          have := (List.getElem?_eq_some_iff.1 hi).1
          simpa using this
        have hq : q = y i := by
          rw [List.getElem?_map, List.getElem?_range hin] at hi
          simpa using hi.symm
        subst hq
        have e : ∀ j, (⟨b, off, none⟩ : Addr).add j = ⟨b, off + j, none⟩ := fun j => by unfold Addr.add; split <;> simp_all
        obtain ⟨h2, h3, ⟨ba, bl, bc, h4, h5, h6, h7, h8⟩, _⟩ := hy i (by omega)
        rw [e] at h2 h3 h4
        have := h8 hin
        exact ⟨h2, h3, ba, bl, bc, h4, h5, h6, h7, by omega⟩
    · intro q hq
      obtain ⟨i, hi, rfl⟩ := List.mem_map.1 hq
      have hin := List.mem_range.1 hi
      exact ⟨(hy i (by omega)).2.2.2.1, (hy i (by omega)).2.2.2.2.1⟩
    · intro q hq
      obtain ⟨i, hi, rfl⟩ := List.mem_map.1 hq
      have hin := List.mem_range.1 hi
      exact (hy i (by omega)).2.2.2.2.2 hin
/-- Spans in a cell that came in. -/
theorem spans_cell {H : Type} {enc : TypeId × Value → H} {W : World} {fuel : Nat} {v : Value} {x : DataW H × List MemPlace}
    (hf : DataW.trod enc Try.prog W 0 (fun _ => true) true fuel 30 [v] = some x) (hw : ∀ y ∈ DataW.weights Try.prog 30 x.1, y ≤ reachBytes) : ∃ a n cap l, v = .slice a n cap ∧ SpsRd W a n l ∧ n ≤ cap ∧ cap ≤ maxLen ∧ cap * 24 ≤ 140737488351232 ∧ (a = none → cap = 0) := by
  obtain ⟨d, p⟩ := x
  rcases Go.Deep.open_slice Try.underlying30 hf with ⟨hcs, hx⟩ | ⟨x, l, c, m, n', D, Pl, hcs, hb, hl, hm, hmm, hx, hr⟩
  · have hv : v = .slice none 0 0 := by simpa using hcs
    exact ⟨none, 0, 0, [], hv, ⟨rfl, .inl rfl⟩, Nat.le_refl _, by omega, by omega, fun _ => rfl⟩
  · have hv : v = .slice (some x) l c := by simpa using hcs
    subst hv
    obtain ⟨q, h1, h2, h3, _⟩ := open_spans (W := W) (enc := enc) (a := some x) (n := l) (cap := c) (d := d) (p := p) ⟨fuel, hf⟩
    simp only [if_true] at hmm
    subst hmm
    simp only [Prod.mk.injEq] at hx
    obtain ⟨rfl, _⟩ := hx
    have hw1 : m * 24 ≤ reachBytes := by
      refine hw _ ?_
      simp only [DataW.weights, Try.underlying30, bytesSpan]
      refine List.mem_cons.2 (.inl ?_)
      simp
      omega
    exact ⟨some x, l, m, q, rfl, h1, h2, h3, by simp only [reachBytes] at hw1; omega, fun h => by cases h⟩

theorem array8 {α : Type} {cs : Array α} (h : cs.size = 8) : ∃ c0 c1 c2 c3 c4 c5 c6 c7, cs = #[c0, c1, c2, c3, c4, c5, c6, c7] := by
  obtain ⟨l⟩ := cs
  match l, h with
  | [c0, c1, c2, c3, c4, c5, c6, c7], _ => exact ⟨c0, c1, c2, c3, c4, c5, c6, c7, rfl⟩
theorem list8 {α : Type} {l : List α} (h : l.length = 8) : ∃ c0 c1 c2 c3 c4 c5 c6 c7, l = [c0, c1, c2, c3, c4, c5, c6, c7] := by
  match l, h with
  | [c0, c1, c2, c3, c4, c5, c6, c7], _ => exact ⟨c0, c1, c2, c3, c4, c5, c6, c7, rfl⟩

/-- How great a parcel that came in can be. -/
structure PcBig (p : Pc) (sa : Option Addr) (sc : Nat) (ia : Option Addr) (ic : Nat) : Prop where
  sb : sc * 24 ≤ 140737488351232
  sz : sa = none → sc = 0
  ib : ic * 40 ≤ 140737488351232
  iz : ia = none → ic = 0
  bb : ∀ q ∈ p.items, q.body.length ≤ 140737488351232

set_option maxRecDepth 10000 in
theorem open_parcel {H : Type} {enc : TypeId × Value → H} {W : World} {base : Nat} {v : Value} {d : DataW H} {p : List MemPlace} (hv : Value.okWide Try.prog W .any base 33 v)
    (h : DataW.Trod enc Try.prog W 0 (fun _ => true) true 33 v d p) (hw : ∀ y ∈ DataW.weights Try.prog 33 d, y ≤ reachBytes) :
    ∃ (q : Pc) (sa : Option Addr) (sn sc : Nat) (ia : Option Addr) (im ic : Nat), v = q.val sa sn sc ia im ic ∧ PcRd W q sa sn sc ia im ic ∧ PcBig q sa sc ia ic := by
  obtain ⟨cs, rfl, hsz⟩ := okWide_struct Try.underlying33 hv
  obtain ⟨v0, v1, v2, v3, v4, v5, v6, v7, rfl⟩ := array8 (hsz.trans (show Try.prog.cellsOf 33 = 8 by kernel_rfl))
  obtain ⟨fuel, hf0⟩ := h
  obtain ⟨xs, k, hk, hxy, _, hxl, hf⟩ := DataW.trod_struct Try.underlying33 hf0
  obtain ⟨y0, y1, y2, y3, y4, y5, y6, y7, rfl⟩ := list8 hxl
  have g0 := hf 0 _ rfl
  have g1 := hf 1 _ rfl
  have g2 := hf 2 _ rfl
  have g3 := hf 3 _ rfl
  have g4 := hf 4 _ rfl
  have g5 := hf 5 _ rfl
  have g6 := hf 6 _ rfl
  have g7 := hf 7 _ rfl
  rw [show Try.prog.cellsOf _ = 1 from by kernel_rfl] at g0 g1 g2 g3 g4 g5 g6 g7
  simp only [Value.cells, List.getElem?_cons_zero, List.getElem?_cons_succ] at g0 g1 g2 g3 g4 g5 g6 g7
  obtain ⟨q0, r0, _, s0⟩ := DataW.trod_int Try.underlying29 g0
  obtain ⟨q1, r1, _, s1⟩ := DataW.trod_int Try.underlying3 g1
  obtain ⟨q2, r2, _, s2⟩ := DataW.trod_int Try.underlying3 g2
  obtain ⟨q3, r3, _, s3⟩ := DataW.trod_int Try.underlying3 g3
  obtain ⟨q4, r4, _, s4⟩ := DataW.trod_int Try.underlying3 g4
  obtain ⟨q5, r5, _, s5⟩ := DataW.trod_int Try.underlying3 g5
  have hD : d = .agg [y0.1, y1.1, y2.1, y3.1, y4.1, y5.1, y6.1, y7.1] := by simpa using congrArg Prod.fst hxy
  have hw6 : ∀ y ∈ DataW.weights Try.prog 30 y6.1, y ≤ reachBytes := fun y hy => hw y (by
    rw [hD]
    simp only [DataW.weights, Try.underlying33]
    simp only [List.map_cons, List.map_nil, DataW.weightsEach, List.mem_append]
    exact .inr (.inr (.inr (.inr (.inr (.inr (.inl hy)))))))
  have hw7 : ∀ y ∈ DataW.weights Try.prog 31 y7.1, y ≤ reachBytes := fun y hy => hw y (by
    rw [hD]
    simp only [DataW.weights, Try.underlying33]
    simp only [List.map_cons, List.map_nil, DataW.weightsEach, List.mem_append]
    exact .inr (.inr (.inr (.inr (.inr (.inr (.inr (.inl hy))))))))
  obtain ⟨sa, sn, sc, ls, r6, hs1, hs2, hs3, hs4, hs5⟩ := spans_cell g6 hw6
  obtain ⟨ia, im, ic, li, r7, hi1, hi2, hi3, hi4, hi5, hi6⟩ := items_cell g7 hw7
  have e0 : v0 = .int .i64 q0 := by simpa using r0
  have e1 : v1 = .int .i64 q1 := by simpa using r1
  have e2 : v2 = .int .i64 q2 := by simpa using r2
  have e3 : v3 = .int .i64 q3 := by simpa using r3
  have e4 : v4 = .int .i64 q4 := by simpa using r4
  have e5 : v5 = .int .i64 q5 := by simpa using r5
  exact ⟨⟨q0, q1, q2, q3, q4, q5, ls, li⟩, sa, sn, sc, ia, im, ic, by rw [e0, e1, e2, e3, e4, e5, r6, r7], ⟨hs1, hi1, hs2, hs3, hi2, hi3⟩, ⟨hs4, hs5, hi4, hi5, hi6⟩⟩
end Go.Proofs.Ytidihfhgnjkmaaa
