/- Items of one's own; parcel's reader: items. -/
import Derived.Test.YtmpljoljpgbamaaPt3
import Derived.Test.YtmpljoljpgbamaaPp1
namespace Go.Proofs.Ytmpljoljpgbamaa
open Go.RowKit

abbrev Bd := Option Addr × Nat × Nat
def icells (q : It) (b : Bd) : List Value := [.int .i64 q.tick, .int .u32 q.for_, .slice b.1 b.2.1 b.2.2]
def irow : List (It × Bd) → List Value
  | [] => []
  | x :: l => icells x.1 x.2 ++ irow l
theorem irow_snoc : ∀ (l : List (It × Bd)) (x : It × Bd), irow (l ++ [x]) = irow l ++ icells x.1 x.2
  | [], x => by simp [irow]
  | y :: l, x => by rw [List.cons_append, irow, irow, irow_snoc l x, List.append_assoc]
/-- A list of items of one's own, each with a body of one's own. -/
structure Its (w : World) (base : Nat) (v : Value) (l : List (It × Bd)) : Prop where
  row : w.ownsRow base 36 3 v l.length (irow l)
  bod : ∀ x ∈ l, Own w base x.2.1 x.2.2.1 x.2.2.2 x.1.body
theorem Its.nil_ (w : World) (base : Nat) : Its w base (.slice none 0 0) [] := ⟨⟨rfl, .inl ⟨rfl, rfl⟩⟩, fun _ h => by cases h⟩
theorem own_frame {w w' : World} {base : Nat} {a : Option Addr} {n c : Nat} {bs : List Nat} (h : Own w base a n c bs) (hf : ∀ k cs m, base ≤ k → w.heap[k]? = some (.cells cs 5 m) → w'.heap[k]? = some (.cells cs 5 m)) : Own w' base a n c bs := by
  refine ⟨⟨h.row.1, ?_⟩, h.byte⟩
  rcases h.row.2 with hn | ⟨g, c, cur, hv, hbg, hg, r⟩
  · exact .inl hn
  · exact .inr ⟨g, c, cur, hv, hbg, hf g _ _ hbg hg, r⟩
theorem Its.frame {w w' : World} {base : Nat} {v : Value} {l : List (It × Bd)} (h : Its w base v l) (hf : ∀ k, base ≤ k → k < w.heap.size → w'.heap[k]? = w.heap[k]?) : Its w' base v l := by
  refine ⟨⟨h.row.1, ?_⟩, fun x hx => own_frame (h.bod x hx) fun k cs m hb hk => by rw [hf k hb (Array.getElem?_eq_some_iff.1 hk).1]; exact hk⟩
  rcases h.row.2 with hn | ⟨g, c, cur, hv, hbg, hg, r⟩
  · exact .inl hn
  · exact .inr ⟨g, c, cur, hv, hbg, by rw [hf g hbg (Array.getElem?_eq_some_iff.1 hg).1]; exact hg, r⟩
theorem Its.grown {w w' : World} {base R : Nat} {v : Value} {l : List (It × Bd)} (h : Its w base v l) (hR : R < base) (hg : w.grownBy w' (some R)) : Its w' base v l :=
  h.frame fun k hb hk => hg.block k hk (fun e => by simp only [Option.some.injEq] at e; omega)
theorem Its.below {w w' : World} {base : Nat} {v : Value} {l : List (It × Bd)} (h : Its w base v l) (hb : Below w.heap.size w w') : Its w' base v l := h.frame fun k _ hk => hb.block k hk
theorem Its.under {w : World} {base : Nat} {v : Value} {l : List (It × Bd)} (h : Its w base v l) (p : Addr) (u : Value) (hp : p.block < base) : Its (w.setCell p u) base v l :=
  h.frame fun k hb _ => heap_setCell_other w p k u (fun e => by omega)
theorem Its.form {w : World} {base : Nat} {v : Value} {l : List (It × Bd)} (h : Its w base v l) : ∃ a c, v = .slice a l.length c ∧ l.length ≤ c ∧ c ≤ maxLen := by
  rcases h.row.2 with ⟨hv, hn⟩ | ⟨g, c, cur, hv, _, _, hc, hm, _⟩
  · exact ⟨none, 0, by rw [hv, hn], by omega, by omega⟩
  · exact ⟨_, c, hv, hc, hm⟩
theorem infoItem : (Try.prog.info? 36).map (fun i => (i.zero, i.size, i.bytes)) = some (some (.agg #[.int .i64 0, .int .u32 0, .slice none 0 0]), 3, 40) := by kernel_rfl
theorem icells_one (q : It) (b : Bd) : ∀ u ∈ icells q b, u.oneCell' = true := by
  intro u hu
  simp only [icells, List.mem_cons, List.not_mem_nil, or_false] at hu
  rcases hu with rfl | rfl | rfl <;> rfl
theorem item_told {w : World} {g : Nat} {q : It} {b : Bd} {t : TypeId} (h : Bk w g (icells q b).toArray t) : ∀ j u, (icells q b)[j]? = some u → w.cell? ((⟨g, 0, none⟩ : Addr).add j) = some u := by
  intro j u hj
  have := h.cell j (v := u) (by simpa using hj)
  by_cases h0 : j = 0
  · subst h0
    simpa [Addr.add] using this
  · simpa [Addr.add, h0] using this
/-- An item behind a list of one's own. -/
theorem wpList_append_it {w : World} {ops : Array Oper} {rest : List Oper} {o : Oper} {act : Act} {Q : Exit → Act → World → Prop} (hgd : o.guard = none) (s x : Operand)
    (ho : o.op = .call { callee := .builtin .append, args := #[s, x], argTypes := #[24, 24] })
    (base : Nat) (v : Value) (l : List (It × Bd)) (hs : act.eval s = v) (hown : Its w base v l) (ad : Addr) (c : Nat) (q : It) (b : Bd) (hx : act.eval x = .slice (some ad) 1 c) (hnews : ∀ j u, (icells q b)[j]? = some u → w.cell? (ad.add j) = some u) (hb : Own w base b.1 b.2.1 b.2.2 q.body)
    (hl : l.length ≤ 1000000) (hbase : base ≤ w.heap.size)
    (h : ∀ v' w', Its w' base v' (l ++ [(q, b)]) → w.grownBy w' v.ownBlock → Below base w w' → wpList Try.prog ops Q rest (act.put o.dst v') w') : wpList Try.prog ops Q (o :: rest) act w := by
  obtain ⟨i0, hi, hz0, hz1, hz2⟩ := info_parts infoItem
  refine wpList_plain hgd fun K hK => ?_
  refine wp_append_own w s x 24 ho base 36 i0 (.agg #[.int .i64 0, .int .u32 0, .slice none 0 0]) 3 40 Try.underlying24 hi hz0 hz1 hz2 (by rfl) (by decide) v l.length (irow l) hs hown.row ad 1 c (icells q b) hx (by rfl) hnews (icells_one q b) (by unfold maxLen; omega) (by omega) hbase fun v' w' h1 h2 _ => ?_
  have hbel : Below base w w' := (Below.refl _ _).grown h2 hbase (fun k hk => (hown.row.lt k hk).1)
  have hf : ∀ k cs m, base ≤ k → w.heap[k]? = some (.cells cs 5 m) → w'.heap[k]? = some (.cells cs 5 m) := fun k cs m _ hk => by
    rw [h2.block k (Array.getElem?_eq_some_iff.1 hk).1 (fun e => ?_)]
    · exact hk
    · rcases hown.row.2 with ⟨h3, _⟩ | ⟨g, c', cur, h3, _, h4, _⟩
      · rw [h3] at e; cases e
      · rw [h3] at e
        simp only [Value.ownBlock, Option.some.injEq] at e
        rw [e, h4] at hk
        simp only [Option.some.injEq, Obj.cells.injEq] at hk
        exact absurd hk.2.1 (by decide)
  refine hK _ _ (h v' w' ⟨?_, ?_⟩ h2 hbel)
  · rw [List.length_append, irow_snoc]
    simpa using h1
  · intro x hx
    rcases List.mem_append.1 hx with hx | hx
    · exact own_frame (hown.bod x hx) hf
    · obtain rfl := List.mem_singleton.1 hx
      exact own_frame hb hf
end Go.Proofs.Ytmpljoljpgbamaa
