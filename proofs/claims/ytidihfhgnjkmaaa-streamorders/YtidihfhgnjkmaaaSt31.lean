/- An item's body turned in its row; rows of parcels of one's own. -/
import Derived.Test.YtidihfhgnjkmaaaSt28
import Derived.Test.YtidihfhgnjkmaaaLearnP
import Derived.Test.YtidihfhgnjkmaaaStA
namespace Go.Proofs.Ytidihfhgnjkmaaa
set_option maxRecDepth 100000
open Go.RowKit Go.Maps Go.Sort Go.Shelf

theorem irow_len : ∀ L : List (It × Bd), (irow L).length = L.length * 3
  | [] => rfl
  | x :: L => by rw [irow, List.length_append, irow_len L, List.length_cons]; show 3 + _ = _; omega
theorem irow_app : ∀ (L M : List (It × Bd)), irow (L ++ M) = irow L ++ irow M
  | [], _ => rfl
  | x :: L, M => by rw [List.cons_append, irow, irow, irow_app L M, List.append_assoc]
/-- A body is turned. -/
theorem Its.setBody {w : World} {base g n c : Nat} {L M : List (It × Bd)} {q : It} {b : Bd} (h : Its w base (.slice (some ⟨g, 0, none⟩) n c) (L ++ (q, b) :: M)) {ya : Option Addr} {yl yc : Nat} {bs : List Nat} (ho : Own w base ya yl yc bs) : Its (w.setCell ⟨g, L.length * 3 + 2, none⟩ (.slice ya yl yc)) base (.slice (some ⟨g, 0, none⟩) n c) (L ++ (⟨q.tick, q.for_, bs⟩, (ya, yl, yc)) :: M) := by
  have hr := h.row
  have hgt : ∃ cur mo, w.heap[g]? = some (.cells cur 42 mo) := by
    rcases hr.2 with ⟨hv, _⟩ | ⟨g', c', cur, hv, _, hg, _⟩
    · cases hv
    · simp only [Value.slice.injEq, Option.some.injEq, Addr.mk.injEq, and_true] at hv
      obtain ⟨rfl, _⟩ := hv
      exact ⟨cur, _, hg⟩
  have hn : n = (L ++ (q, b) :: M).length := by
    rcases hr.2 with ⟨hv, _⟩ | ⟨g', c', cur, hv, _⟩
    · cases hv
    · simp only [Value.slice.injEq] at hv
      exact hv.2.1
  subst hn
  have hst := hr.stored (L.length * 3 + 2) (.slice ya yl yc)
  have hf : ∀ k cs m, base ≤ k → w.heap[k]? = some (.cells cs 5 m) → (w.setCell ⟨g, L.length * 3 + 2, none⟩ (.slice ya yl yc)).heap[k]? = some (.cells cs 5 m) := fun k cs m _ hk => by
    rw [heap_setCell_other _ _ k _ (fun e => ?_)]
    · exact hk
    · obtain ⟨cur, mo, hg⟩ := hgt
      have e : k = g := e
      rw [e, hg] at hk
      simp only [Option.some.injEq, Obj.cells.injEq] at hk
      exact absurd hk.2.1 (by decide)
  refine ⟨?_, fun x hx => ?_⟩
  · have e2 : (irow (L ++ (q, b) :: M)).set (L.length * 3 + 2) (.slice ya yl yc) = irow (L ++ (⟨q.tick, q.for_, bs⟩, (ya, yl, yc)) :: M) := by
      rw [irow_app, irow_app, List.set_append_right _ _ (by rw [irow_len]; omega), irow_len]
      simp [irow, icells]
    rw [← e2, show (L ++ ((⟨q.tick, q.for_, bs⟩ : It), ((ya, yl, yc) : Bd)) :: M).length = (L ++ (q, b) :: M).length from by simp]
    exact hst.1
  · rcases List.mem_append.1 hx with hx | hx
    · exact own_frame (h.bod x (List.mem_append_left _ hx)) hf
    · rcases List.mem_cons.1 hx with rfl | hx
      · exact own_frame ho hf
      · exact own_frame (h.bod x (List.mem_append_right _ (List.mem_cons_of_mem _ hx))) hf
theorem Its.rowFree {w : World} {base g n c : Nat} {L : List (It × Bd)} (h : Its w base (.slice (some ⟨g, 0, none⟩) n c) L) (j : Nat) : w.frozen? ⟨g, j, none⟩ = false ∧ base ≤ g ∧ g < w.heap.size := by
  rcases h.row.2 with ⟨hv, _⟩ | ⟨g', c', cur, hv, hb, hg, _⟩
  · cases hv
  · simp only [Value.slice.injEq, Option.some.injEq, Addr.mk.injEq, and_true] at hv
    obtain ⟨rfl, _⟩ := hv
    exact ⟨frozen_of_row w g j cur _ hg, hb, (Array.getElem?_eq_some_iff.1 hg).1⟩
/-- The cells of one item in its row. -/
theorem Its.cell {w : World} {base : Nat} {a : Option Addr} {n c : Nat} {L M : List (It × Bd)} {q : It} {b : Bd} (h : Its w base (.slice a n c) (L ++ (q, b) :: M)) : ∃ g, a = some ⟨g, 0, none⟩ ∧ w.cell? ⟨g, L.length * 3, none⟩ = some (.int .i64 q.tick) ∧ w.cell? ⟨g, L.length * 3 + 1, none⟩ = some (.int .u32 q.for_) ∧ w.cell? ⟨g, L.length * 3 + 2, none⟩ = some (.slice b.1 b.2.1 b.2.2) := by
  rcases h.row.2 with ⟨hv, hn⟩ | ⟨g', c', cur, hv, hb, hg, hlc, hmx, hs, ht⟩
  · simp at hn
  · simp only [Value.slice.injEq] at hv
    obtain ⟨rfl, rfl, rfl⟩ := hv
    have key : ∀ j, j < 3 → w.cell? ⟨g', L.length * 3 + j, none⟩ = (icells q b)[j]? := by
      intro j hj
      have h1 := irow_at (L ++ (q, b) :: M) L.length (q, b) (by simp) j hj
      rw [← ht, List.getElem?_take_of_lt (by rw [List.length_append, List.length_cons]; omega), Array.getElem?_toList] at h1
      rw [cell_of_row w g' _ cur _ _ hg, h1]
    exact ⟨g', rfl, key 0 (by omega), key 1 (by omega), key 2 (by omega)⟩
def pacells (q : Pa) : List Value := [.int .i64 q.p.kind, .int .i64 q.p.pub, .int .i64 q.p.sub, .int .i64 q.p.n_, .int .i64 q.p.fr, .int .i64 q.p.to_, .slice q.sa q.sn q.sc, .slice q.ia q.im q.ic]
/-- A row of parcels of one's own. -/
structure Prow (w : World) (base : Nat) (v : Value) (L : List Pa) : Prop where
  row : w.ownsRow base 33 8 v L.length (L.flatMap pacells)
  each : ∀ q ∈ L, OwnPc w base q.p q.sa q.sn q.sc q.ia q.im q.ic
theorem Prow.nil_ (w : World) (base : Nat) : Prow w base (.slice none 0 0) [] := ⟨⟨rfl, .inl ⟨rfl, rfl⟩⟩, fun _ h => by cases h⟩
theorem OwnPc.frame {w w' : World} {base : Nat} {p : Pc} {ta : Option Addr} {tn tc : Nat} {ja : Option Addr} {jm jc : Nat} (h : OwnPc w base p ta tn tc ja jm jc) (hf : ∀ k cs t m, base ≤ k → w.heap[k]? = some (.cells cs t m) → t ≠ 33 → w'.heap[k]? = some (.cells cs t m)) : OwnPc w' base p ta tn tc ja jm jc := by
  obtain ⟨L, hL, e⟩ := h.items
  refine ⟨⟨⟨h.spans.row.1, ?_⟩⟩, L, ⟨⟨hL.row.1, ?_⟩, fun x hx => own_frame (hL.bod x hx) fun k cs m hb hk => hf k cs _ m hb hk (by decide)⟩, e⟩
  · rcases h.spans.row.2 with hn | ⟨g, c, cur, hv, hbg, hg, r⟩
    · exact .inl hn
    · exact .inr ⟨g, c, cur, hv, hbg, hf g _ _ _ hbg hg (by decide), r⟩
  · rcases hL.row.2 with hn | ⟨g, c, cur, hv, hbg, hg, r⟩
    · exact .inl hn
    · exact .inr ⟨g, c, cur, hv, hbg, hf g _ _ _ hbg hg (by decide), r⟩
theorem OwnPc.below {w w' : World} {base : Nat} {p : Pc} {ta : Option Addr} {tn tc : Nat} {ja : Option Addr} {jm jc : Nat} (h : OwnPc w base p ta tn tc ja jm jc) (hb : Below w.heap.size w w') : OwnPc w' base p ta tn tc ja jm jc :=
  h.frame fun k cs t m _ hk _ => by rw [hb.block k (Array.getElem?_eq_some_iff.1 hk).1]; exact hk
theorem OwnPc.lower {w : World} {base base' : Nat} {p : Pc} {ta : Option Addr} {tn tc : Nat} {ja : Option Addr} {jm jc : Nat} (h : OwnPc w base p ta tn tc ja jm jc) (hb : base' ≤ base) : OwnPc w base' p ta tn tc ja jm jc := by
  obtain ⟨L, hL, e⟩ := h.items
  exact ⟨h.spans.lower hb, L, hL.lower hb, e⟩
theorem Prow.below {w w' : World} {base : Nat} {v : Value} {L : List Pa} (h : Prow w base v L) (hb : Below w.heap.size w w') : Prow w' base v L := by
  refine ⟨⟨h.row.1, ?_⟩, fun q hq => (h.each q hq).below hb⟩
  rcases h.row.2 with hn | ⟨g, c, cur, hv, hbg, hg, r⟩
  · exact .inl hn
  · exact .inr ⟨g, c, cur, hv, hbg, by rw [hb.block g (Array.getElem?_eq_some_iff.1 hg).1]; exact hg, r⟩
theorem Prow.form {w : World} {base : Nat} {v : Value} {L : List Pa} (h : Prow w base v L) : ∃ a c, v = .slice a L.length c := by
  rcases h.row.2 with ⟨hv, hn⟩ | ⟨g, c, cur, hv, _⟩
  · exact ⟨none, 0, by rw [hv, hn]⟩
  · exact ⟨_, c, hv⟩
theorem infoParcel : (Try.prog.info? 33).map (fun i => (i.zero, i.size, i.bytes)) = some (some (.agg #[.int .i64 0, .int .i64 0, .int .i64 0, .int .i64 0, .int .i64 0, .int .i64 0, .slice none 0 0, .slice none 0 0]), 8, 96) := by kernel_rfl
theorem pacells_one (q : Pa) : ∀ u ∈ pacells q, u.oneCell' = true := by
  intro u hu
  simp only [pacells, List.mem_cons, List.not_mem_nil, or_false] at hu
  rcases hu with rfl | rfl | rfl | rfl | rfl | rfl | rfl | rfl <;> rfl
/-- A parcel behind a row of one's own. -/
theorem wpList_append_pa {w : World} {ops : Array Oper} {rest : List Oper} {o : Oper} {act : Act} {Q : Exit → Act → World → Prop} (hgd : o.guard = none) (s x : Operand)
    (ho : o.op = .call { callee := .builtin .append, args := #[s, x], argTypes := #[22, 22] })
    (base : Nat) (v : Value) (L : List Pa) (hs : act.eval s = v) (hown : Prow w base v L) (ad : Addr) (c : Nat) (q : Pa) (hx : act.eval x = .slice (some ad) 1 c) (hnews : ∀ j u, (pacells q)[j]? = some u → w.cell? (ad.add j) = some u) (hq : OwnPc w base q.p q.sa q.sn q.sc q.ia q.im q.ic)
    (hl : L.length ≤ 1000000) (hbase : base ≤ w.heap.size)
    (h : ∀ v' w', Prow w' base v' (L ++ [q]) → w.grownBy w' v.ownBlock → Below base w w' → wpList Try.prog ops Q rest (act.put o.dst v') w') : wpList Try.prog ops Q (o :: rest) act w := by
  obtain ⟨i0, hi, hz0, hz1, hz2⟩ := info_parts infoParcel
  refine wpList_plain hgd fun K hK => ?_
  refine wp_append_own w s x 22 ho base 33 i0 (.agg #[.int .i64 0, .int .i64 0, .int .i64 0, .int .i64 0, .int .i64 0, .int .i64 0, .slice none 0 0, .slice none 0 0]) 8 96 Try.underlying22 hi hz0 hz1 hz2 (by rfl) (by decide) v L.length (L.flatMap pacells) hs hown.row ad 1 c (pacells q) hx (by rfl) hnews (pacells_one q) (by unfold maxLen; omega) (by omega) hbase fun v' w' h1 h2 _ => ?_
  have hbel : Below base w w' := (Below.refl _ _).grown h2 hbase (fun k hk => (hown.row.lt k hk).1)
  have hf : ∀ k cs t m, base ≤ k → w.heap[k]? = some (.cells cs t m) → t ≠ 33 → w'.heap[k]? = some (.cells cs t m) := fun k cs t m _ hk ht => by
    rw [h2.block k (Array.getElem?_eq_some_iff.1 hk).1 (fun e => ?_)]
    · exact hk
    · rcases hown.row.2 with ⟨h3, _⟩ | ⟨g, c', cur, h3, _, h4, _⟩
      · rw [h3] at e; cases e
      · rw [h3] at e
        simp only [Value.ownBlock, Option.some.injEq] at e
        rw [e, h4] at hk
        simp only [Option.some.injEq, Obj.cells.injEq] at hk
        exact absurd hk.2.1.symm ht
  refine hK _ _ (h v' w' ⟨?_, fun x hx => ?_⟩ h2 hbel)
  · rw [List.length_append, List.flatMap_append]
    simpa using h1
  · rcases List.mem_append.1 hx with hx | hx
    · exact (hown.each x hx).frame hf
    · obtain rfl := List.mem_singleton.1 hx
      exact hq.frame hf
end Go.Proofs.Ytidihfhgnjkmaaa
