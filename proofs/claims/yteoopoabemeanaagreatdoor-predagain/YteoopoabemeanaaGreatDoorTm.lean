/- Terms in memory: a term's nine cells, a list of terms of one's own. -/
import Derived.Test.YteoopoabemeanaaGreatDoorValP
import Derived.Test.YteoopoabemeanaaGreatDoorBlk
import Derived.Test.YteoopoabemeanaaGreatDoorStep
namespace Go.Proofs.YteoopoabemeanaaGreatDoor
open Go.RowKit

structure Tm where
  op : Nat
  name : ByteArray
  cmp : Nat
  val : Val
  radius : Nat
def Tm.cells (q : Tm) : Array Value := #[.int .i64 (q.op : Int), .string q.name, .int .i64 (q.cmp : Int), .int .i64 q.val.kind, .int .i64 q.val.whole, .string q.val.words, .bool q.val.truth, .complex .f64 q.val.re q.val.im, .int .i64 (q.radius : Int)]
def Tm.zero : Tm := ⟨0, ⟨#[]⟩, 0, Val.zero, 0⟩
def Tm.plain (op : Nat) : Tm := ⟨op, ⟨#[]⟩, 0, Val.zero, 0⟩

/-- A list of terms of one's own. -/
structure Tms (w : World) (base : Nat) (v : Value) (l : List Tm) : Prop where
  row : w.ownsRow base 52 9 v l.length (l.flatMap fun q => q.cells.toList)
theorem Tms.nil_ (w : World) (base : Nat) : Tms w base (.slice none 0 0) [] := ⟨⟨rfl, .inl ⟨rfl, rfl⟩⟩⟩
theorem Tms.below {w w' : World} {base : Nat} {v : Value} {l : List Tm} (h : Tms w base v l) (hb : Below w.heap.size w w') : Tms w' base v l := by
  refine ⟨⟨h.row.1, ?_⟩⟩
  rcases h.row.2 with hn | ⟨g, c, cur, hv, hbg, hg, r⟩
  · exact .inl hn
  · exact .inr ⟨g, c, cur, hv, hbg, by rw [hb.block g (Array.getElem?_eq_some_iff.1 hg).1]; exact hg, r⟩
theorem Tms.lower {w : World} {base base' : Nat} {v : Value} {l : List Tm} (h : Tms w base v l) (hb : base' ≤ base) : Tms w base' v l := by
  refine ⟨⟨h.row.1, ?_⟩⟩
  rcases h.row.2 with hn | ⟨g, c, cur, hv, hbg, r⟩
  · exact .inl hn
  · exact .inr ⟨g, c, cur, hv, Nat.le_trans hb hbg, r⟩
theorem Tms.snoc {w' : World} {base : Nat} {v' : Value} {l : List Tm} (q : Tm) (hrow : w'.ownsRow base 52 9 v' (l.length + 1) ((l.flatMap fun q => q.cells.toList) ++ q.cells.toList)) : Tms w' base v' (l ++ [q]) := by
  refine ⟨?_⟩
  rw [List.length_append, List.flatMap_append]
  simpa using hrow
theorem Tm.one (q : Tm) : ∀ u ∈ q.cells.toList, u.oneCell' = true := by
  intro u hu
  simp only [Tm.cells, List.mem_cons, List.not_mem_nil, or_false] at hu
  rcases hu with rfl | rfl | rfl | rfl | rfl | rfl | rfl | rfl | rfl <;> rfl
theorem Tms.at_ {w : World} {base : Nat} {v : Value} {l : List Tm} (h : Tms w base v l) {k : Nat} (hk : v.ownBlock = some k) : base ≤ k := (h.row.lt k hk).1
theorem Tms.form {w : World} {base : Nat} {v : Value} {l : List Tm} (h : Tms w base v l) : ∃ a c, v = .slice a l.length c := by
  rcases h.row.2 with ⟨hv, hn⟩ | ⟨g, c, cur, hv, _⟩
  · exact ⟨none, 0, by rw [hv, hn]⟩
  · exact ⟨_, c, hv⟩
theorem Tms.under {w : World} {base : Nat} {v : Value} {l : List Tm} (h : Tms w base v l) (p : Addr) (u : Value) (hp : p.block < base) : Tms (w.setCell p u) base v l := ⟨ownsRow_setCell_below h.row hp u⟩

/-- As it is read. -/
structure TmsRd (w : World) (a : Option Addr) (l : List Tm) : Prop where
  cells : l = [] ∨ ∃ g, a = some ⟨g, 0, none⟩ ∧ g < w.heap.size ∧ ∀ i q, l[i]? = some q → ∀ j v, (Tm.cells q)[j]? = some v → w.cell? ⟨g, i * 9 + j, none⟩ = some v
theorem TmsRd.below {w w' : World} {a : Option Addr} {l : List Tm} (h : TmsRd w a l) (hb : Below w.heap.size w w') : TmsRd w' a l := by
  refine ⟨?_⟩
  rcases h.cells with h0 | ⟨g, ha, hg, hc⟩
  · exact .inl h0
  · exact .inr ⟨g, ha, Nat.lt_of_lt_of_le hg hb.size, fun i q hi j v hv => (hb.cell (p := ⟨g, i * 9 + j, none⟩) hg).trans (hc i q hi j v hv)⟩
theorem flat9 : ∀ (l : List Tm) (i : Nat) (q : Tm), l[i]? = some q → ∀ j, j < 9 → (l.flatMap fun q => q.cells.toList)[i * 9 + j]? = q.cells.toList[j]?
  | [], i, q, h, j, hj => by simp at h
  | p :: l, 0, q, h, j, hj => by
    simp only [List.getElem?_cons_zero, Option.some.injEq] at h
    subst h
    rw [List.flatMap_cons, Nat.zero_mul, Nat.zero_add, List.getElem?_append_left (by simp [Tm.cells]; omega)]
  | p :: l, i + 1, q, h, j, hj => by
    rw [List.getElem?_cons_succ] at h
    have e : p.cells.toList.length = 9 := rfl
    rw [List.flatMap_cons, List.getElem?_append_right (by omega), e, show (i + 1) * 9 + j - 9 = i * 9 + j from by omega]
    exact flat9 l i q h j hj
theorem Tms.rd {w : World} {base : Nat} {a : Option Addr} {n c : Nat} {l : List Tm} (h : Tms w base (.slice a n c) l) : l.length = n ∧ TmsRd w a l := by
  rcases h.row.2 with ⟨hv, hn⟩ | ⟨g, c', cur, hv, hb, hg, hlc, hm, hs, ht⟩
  · simp only [Value.slice.injEq] at hv
    exact ⟨by omega, ⟨.inl (List.length_eq_zero_iff.1 hn)⟩⟩
  · simp only [Value.slice.injEq] at hv
    obtain ⟨rfl, rfl, rfl⟩ := hv
    refine ⟨rfl, ⟨.inr ⟨g, rfl, (Array.getElem?_eq_some_iff.1 hg).1, fun i q hi j v hv => ?_⟩⟩⟩
    have hj : j < 9 := by
      have := (Array.getElem?_eq_some_iff.1 hv).1
      exact this
    have hil : i < l.length := (List.getElem?_eq_some_iff.1 hi).1
    rw [cell_of_row w g _ cur _ _ hg]
    have h1 := flat9 l i q hi j hj
    rw [← ht, List.getElem?_take_of_lt (by omega), Array.getElem?_toList, Array.getElem?_toList] at h1
    rw [h1]
    exact hv
/-- One of the terms, cell by cell. -/
theorem TmsRd.at_ {w : World} {a : Option Addr} {l : List Tm} (h : TmsRd w a l) (i : Nat) (hi : i < l.length) : ∃ g, a = some ⟨g, 0, none⟩ ∧ g < w.heap.size ∧ ∀ j v, (Tm.cells l[i])[j]? = some v → w.cell? ⟨g, i * 9 + j, none⟩ = some v := by
  rcases h.cells with rfl | ⟨g, ha, hg, hc⟩
  · simp at hi
  · exact ⟨g, ha, hg, hc i l[i] (List.getElem?_eq_getElem hi)⟩
theorem infoTerm : (Tryz.prog.info? 52).map (fun i => (i.zero, i.size, i.bytes)) = some (some (.agg #[.int .i64 0, .string ⟨#[]⟩, .int .i64 0, .int .i64 0, .int .i64 0, .string ⟨#[]⟩, .bool false, .complex .f64 0 0, .int .i64 0]), 9, 96) := by kernel_rfl

/-- A term behind a list of one's own: in a region that draws its order, and in one that does not. -/
theorem wp_append_tm {w : World} {o : Oper} {act : Act} {K : Act → World → Prop} {Q : Exit → Act → World → Prop} (s x : Operand)
    (ho : o.op = .call { callee := .builtin .append, args := #[s, x], argTypes := #[22, 22] })
    (base : Nat) (v : Value) (l : List Tm) (hs : act.eval s = v) (hown : Tms w base v l) (ad : Addr) (c : Nat) (q : Tm) (hx : act.eval x = .slice (some ad) 1 c) (hnews : ∀ j u, q.cells.toList[j]? = some u → w.cell? (ad.add j) = some u)
    (hl : l.length ≤ 100000) (hbase : base ≤ w.heap.size)
    (h : ∀ v' w', Tms w' base v' (l ++ [q]) → w.grownBy w' v.ownBlock → K (act.put o.dst v') w') : o.wp Tryz.prog act w K Q := by
  obtain ⟨i0, hi, hz0, hz1, hz2⟩ := info_parts infoTerm
  exact wp_append_own w s x 22 ho base 52 i0 (.agg #[.int .i64 0, .string ⟨#[]⟩, .int .i64 0, .int .i64 0, .int .i64 0, .string ⟨#[]⟩, .bool false, .complex .f64 0 0, .int .i64 0]) 9 96 Tryz.underlying22 hi hz0 hz1 hz2 (by rfl) (by decide) v l.length (l.flatMap fun q => q.cells.toList) hs hown.row ad 1 c q.cells.toList hx (by rfl) hnews (Tm.one q) (by unfold maxLen; omega) (by omega) hbase fun v' w' h1 h2 _ => h v' w' (Tms.snoc q h1) h2
theorem step_append_tm {w : World} {ops : Array Oper} {o : Oper} {act : Act} {K : Act → World → Prop} {Q : Exit → Act → World → Prop} {E : Prop} (hgd : o.guard = none) (s x : Operand)
    (ho : o.op = .call { callee := .builtin .append, args := #[s, x], argTypes := #[22, 22] })
    (base : Nat) (v : Value) (l : List Tm) (hs : act.eval s = v) (hown : Tms w base v l) (ad : Addr) (c : Nat) (q : Tm) (hx : act.eval x = .slice (some ad) 1 c) (hnews : ∀ j u, q.cells.toList[j]? = some u → w.cell? (ad.add j) = some u)
    (hl : l.length ≤ 100000) (hbase : base ≤ w.heap.size)
    (h : ∀ v' w', Tms w' base v' (l ++ [q]) → w.grownBy w' v.ownBlock → K (act.put o.dst v') w') : if Region.wanted o (yielded ops act.tmps) = true then Oper.wp Tryz.prog o act w K Q else E := by
  rw [if_pos (by simp [Region.wanted, hgd])]
  exact wp_append_tm s x ho base v l hs hown ad c q hx hnews hl hbase h
theorem wpList_append_tm {w : World} {ops : Array Oper} {rest : List Oper} {o : Oper} {act : Act} {Q : Exit → Act → World → Prop} (hgd : o.guard = none) (s x : Operand)
    (ho : o.op = .call { callee := .builtin .append, args := #[s, x], argTypes := #[22, 22] })
    (base : Nat) (v : Value) (l : List Tm) (hs : act.eval s = v) (hown : Tms w base v l) (ad : Addr) (c : Nat) (q : Tm) (hx : act.eval x = .slice (some ad) 1 c) (hnews : ∀ j u, q.cells.toList[j]? = some u → w.cell? (ad.add j) = some u)
    (hl : l.length ≤ 100000) (hbase : base ≤ w.heap.size)
    (h : ∀ v' w', Tms w' base v' (l ++ [q]) → w.grownBy w' v.ownBlock → wpList Tryz.prog ops Q rest (act.put o.dst v') w') : wpList Tryz.prog ops Q (o :: rest) act w :=
  wpList_plain hgd fun _ hK => wp_append_tm s x ho base v l hs hown ad c q hx hnews hl hbase fun v' w' h1 h2 => hK _ _ (h v' w' h1 h2)
/-- The nine cells of a term at a place. -/
theorem Tm.told {w : World} {g : Nat} {q : Tm} {t : TypeId} (h : Blk w g q.cells t) : ∀ j u, q.cells.toList[j]? = some u → w.cell? ((⟨g, 0, none⟩ : Addr).add j) = some u := by
  intro j u hj
  rw [Array.getElem?_toList] at hj
  have := h.cell j hj
  by_cases h0 : j = 0
  · subst h0
    simpa [Addr.add] using this
  · simpa [Addr.add, h0] using this
end Go.Proofs.YteoopoabemeanaaGreatDoor
