/- A pack of texts: ItM PcSame. -/
import Derived.Test.YtidihfhgnjkmaaaGreatPcM
import Derived.Test.YtidihfhgnjkmaaaGreatSpY
import Derived.BigQuiet
/- Items of one's own, and an item behind them; as they are read. -/
namespace Go.Proofs.YtidihfhgnjkmaaaGreat
open Go.RowKit

theorem Own.nil_cap' {w : World} {base : Nat} {a : Option Addr} {len cap : Nat} {bs : List Nat} (h : Own w base a len cap bs) : a = none → cap = 0 := by
  rcases h.row.2 with ⟨hn, _⟩ | ⟨g, c, cur, hv, _⟩
  · intro _; simp only [Value.slice.injEq] at hn; exact hn.2.2
  · intro he; rw [he] at hv; simp at hv
theorem Own.under {w : World} {base base' : Nat} {a : Option Addr} {len cap : Nat} {bs : List Nat} (h : Own w base a len cap bs) (hb : base' ≤ base) : Own w base' a len cap bs := by
  refine ⟨⟨h.row.1, ?_⟩, h.byte⟩
  rcases h.row.2 with hn | ⟨g, c, cur, hv, hbg, r⟩
  · exact .inl hn
  · exact .inr ⟨g, c, cur, hv, Nat.le_trans hb hbg, r⟩
abbrev Bd := Option Addr × Nat × Nat
def icells (q : It) (b : Bd) : List Value := [.int .i64 q.tick, .int .u32 q.for_, .slice b.1 b.2.1 b.2.2]
def irow : List (It × Bd) → List Value
  | [] => []
  | x :: l => icells x.1 x.2 ++ irow l
theorem irow_snoc : ∀ (l : List (It × Bd)) (x : It × Bd), irow (l ++ [x]) = irow l ++ icells x.1 x.2
  | [], x => by simp [irow]
  | y :: l, x => by rw [List.cons_append, irow, irow, irow_snoc l x, List.append_assoc]
/-- A list of items of one's own, each with a body of one's own. -/
structure Its (w : World) (base : Nat) (v : Value) (l : List (It × Bd)) : Prop where
  row : w.ownsRow base 54 3 v l.length (irow l)
  bod : ∀ x ∈ l, Own w base x.2.1 x.2.2.1 x.2.2.2 x.1.body
theorem Its.nil_ (w : World) (base : Nat) : Its w base (.slice none 0 0) [] := ⟨⟨rfl, .inl ⟨rfl, rfl⟩⟩, fun _ h => by cases h⟩
theorem own_frame {w w' : World} {base : Nat} {a : Option Addr} {n c : Nat} {bs : List Nat} (h : Own w base a n c bs) (hf : ∀ k cs m, base ≤ k → w.heap[k]? = some (.cells cs 5 m) → w'.heap[k]? = some (.cells cs 5 m)) : Own w' base a n c bs := by
  refine ⟨⟨h.row.1, ?_⟩, h.byte⟩
  rcases h.row.2 with hn | ⟨g, c, cur, hv, hbg, hg, r⟩
  · exact .inl hn
  · exact .inr ⟨g, c, cur, hv, hbg, hf g _ _ hbg hg, r⟩
theorem Its.frame {w w' : World} {base : Nat} {v : Value} {l : List (It × Bd)} (h : Its w base v l) (hf : ∀ k, base ≤ k → k < w.heap.size → w'.heap[k]? = w.heap[k]?) : Its w' base v l := by
  refine ⟨⟨h.row.1, ?_⟩, fun x hx => own_frame (h.bod x hx) fun k cs m hb hk => by rw [hf k hb (Array.getElem?_eq_some_iff.1 hk).1]; exact hk⟩
  rcases h.row.2 with hn | ⟨g, c, cur, hv, hbg, hg, r⟩
  · exact .inl hn
  · exact .inr ⟨g, c, cur, hv, hbg, by rw [hf g hbg (Array.getElem?_eq_some_iff.1 hg).1]; exact hg, r⟩
theorem Its.grown {w w' : World} {base R : Nat} {v : Value} {l : List (It × Bd)} (h : Its w base v l) (hR : R < base) (hg : w.grownBy w' (some R)) : Its w' base v l :=
  h.frame fun k hb hk => hg.block k hk (fun e => by simp only [Option.some.injEq] at e; omega)
theorem Its.below {w w' : World} {base : Nat} {v : Value} {l : List (It × Bd)} (h : Its w base v l) (hb : Below w.heap.size w w') : Its w' base v l := h.frame fun k _ hk => hb.block k hk
theorem Its.under {w : World} {base : Nat} {v : Value} {l : List (It × Bd)} (h : Its w base v l) (p : Addr) (u : Value) (hp : p.block < base) : Its (w.setCell p u) base v l :=
  h.frame fun k hb _ => heap_setCell_other w p k u (fun e => by omega)
theorem Its.form {w : World} {base : Nat} {v : Value} {l : List (It × Bd)} (h : Its w base v l) : ∃ a c, v = .slice a l.length c ∧ l.length ≤ c ∧ c ≤ maxLen := by
  rcases h.row.2 with ⟨hv, hn⟩ | ⟨g, c, cur, hv, _, _, hc, hm, _⟩
  · exact ⟨none, 0, by rw [hv, hn], by omega, by omega⟩
  · exact ⟨_, c, hv, hc, hm⟩
theorem infoItem : (Tryz.prog.info? 54).map (fun i => (i.zero, i.size, i.bytes)) = some (some (.agg #[.int .i64 0, .int .u32 0, .slice none 0 0]), 3, 40) := by kernel_rfl
theorem icells_one (q : It) (b : Bd) : ∀ u ∈ icells q b, u.oneCell' = true := by
  intro u hu
  simp only [icells, List.mem_cons, List.not_mem_nil, or_false] at hu
  rcases hu with rfl | rfl | rfl <;> rfl
theorem item_told {w : World} {g : Nat} {q : It} {b : Bd} {t : TypeId} (h : Bk w g (icells q b).toArray t) : ∀ j u, (icells q b)[j]? = some u → w.cell? ((⟨g, 0, none⟩ : Addr).add j) = some u := by
  intro j u hj
  have := h.cell j (v := u) (by simpa using hj)
  by_cases h0 : j = 0
  · subst h0
    simpa [Addr.add] using this
  · simpa [Addr.add, h0] using this
/-- An item behind a list of one's own. -/
theorem wpList_append_it {w : World} {ops : Array Oper} {rest : List Oper} {o : Oper} {act : Act} {Q : Exit → Act → World → Prop} (hgd : o.guard = none) (s x : Operand)
    (ho : o.op = .call { callee := .builtin .append, args := #[s, x], argTypes := #[31, 31] })
    (base : Nat) (v : Value) (l : List (It × Bd)) (hs : act.eval s = v) (hown : Its w base v l) (ad : Addr) (c : Nat) (q : It) (b : Bd) (hx : act.eval x = .slice (some ad) 1 c) (hnews : ∀ j u, (icells q b)[j]? = some u → w.cell? (ad.add j) = some u) (hb : Own w base b.1 b.2.1 b.2.2 q.body)
    (hl : l.length ≤ 1000000) (hbase : base ≤ w.heap.size)
    (h : ∀ v' w', Its w' base v' (l ++ [(q, b)]) → w.grownBy w' v.ownBlock → Below base w w' → wpList Tryz.prog ops Q rest (act.put o.dst v') w') : wpList Tryz.prog ops Q (o :: rest) act w := by
  obtain ⟨i0, hi, hz0, hz1, hz2⟩ := info_parts infoItem
  refine wpList_plain hgd fun K hK => ?_
  refine wp_append_own w s x 31 ho base 54 i0 (.agg #[.int .i64 0, .int .u32 0, .slice none 0 0]) 3 40 Tryz.underlying31 hi hz0 hz1 hz2 (by rfl) (by decide) v l.length (irow l) hs hown.row ad 1 c (icells q b) hx (by rfl) hnews (icells_one q b) (by unfold maxLen; omega) (by omega) hbase fun v' w' h1 h2 _ => ?_
  have hbel : Below base w w' := (Below.refl _ _).grown h2 hbase (fun k hk => (hown.row.lt k hk).1)
  have hf : ∀ k cs m, base ≤ k → w.heap[k]? = some (.cells cs 5 m) → w'.heap[k]? = some (.cells cs 5 m) := fun k cs m _ hk => by
    rw [h2.block k (Array.getElem?_eq_some_iff.1 hk).1 (fun e => ?_)]
    · exact hk
    · rcases hown.row.2 with ⟨h3, _⟩ | ⟨g, c', cur, h3, _, h4, _⟩
      · rw [h3] at e; cases e
      · rw [h3] at e
        simp only [Value.ownBlock, Option.some.injEq] at e
        rw [e, h4] at hk
        simp only [Option.some.injEq, Obj.cells.injEq] at hk
        exact absurd hk.2.1 (by decide)
  refine hK _ _ (h v' w' ⟨?_, ?_⟩ h2 hbel)
  · rw [List.length_append, irow_snoc]
    simpa using h1
  · intro x hx
    rcases List.mem_append.1 hx with hx | hx
    · exact own_frame (hown.bod x hx) hf
    · obtain rfl := List.mem_singleton.1 hx
      exact own_frame hb hf
/-- Items of one's own, as they are read. -/
theorem irow_at : ∀ (l : List (It × Bd)) (i : Nat) (x : It × Bd), l[i]? = some x → ∀ j, j < 3 → (irow l)[i * 3 + j]? = (icells x.1 x.2)[j]?
  | [], i, x, h, j, hj => by simp at h
  | y :: l, 0, x, h, j, hj => by
    simp only [List.getElem?_cons_zero, Option.some.injEq] at h
    subst h
    rw [irow, Nat.zero_mul, Nat.zero_add, List.getElem?_append_left (by simp [icells]; omega)]
  | y :: l, i + 1, x, h, j, hj => by
    rw [List.getElem?_cons_succ] at h
    have e : (icells y.1 y.2).length = 3 := rfl
    rw [irow, List.getElem?_append_right (by omega), e, show (i + 1) * 3 + j - 3 = i * 3 + j from by omega]
    exact irow_at l i x h j hj
theorem Own.cap_le {w : World} {base : Nat} {a : Option Addr} {n c : Nat} {bs : List Nat} (h : Own w base a n c bs) : n ≤ c ∧ c ≤ maxLen := by
  rcases h.row.2 with ⟨hv, h0⟩ | ⟨g, c', cur, hv, _, _, hc, hm, _⟩
  · simp only [Value.slice.injEq] at hv
    omega
  · simp only [Value.slice.injEq] at hv
    obtain ⟨_, _, rfl⟩ := hv
    exact ⟨hc, hm⟩
theorem Its.rd {w : World} {base : Nat} {a : Option Addr} {n c : Nat} {L : List (It × Bd)} (h : Its w base (.slice a n c) L) (hb : ∀ q ∈ L.map Prod.fst, ((-9223372036854775808 : Int) ≤ q.tick ∧ q.tick ≤ 9223372036854775807) ∧ (0 ≤ q.for_ ∧ q.for_ ≤ 4294967295)) : ItsRd w a n (L.map Prod.fst) := by
  rcases h.row.2 with ⟨hv, hn⟩ | ⟨g, c', cur, hv, hbb, hg, hlc, hm, hs, ht⟩
  · simp only [Value.slice.injEq] at hv
    have : L = [] := List.length_eq_zero_iff.1 hn
    subst this
    exact ⟨by simp; omega, .inl rfl, hb⟩
  · simp only [Value.slice.injEq] at hv
    obtain ⟨rfl, rfl, rfl⟩ := hv
    refine ⟨by simp, .inr ⟨g, 0, rfl, (Array.getElem?_eq_some_iff.1 hg).1, fun i q hi => ?_⟩, hb⟩
    rw [List.getElem?_map] at hi
    obtain ⟨x, hx, rfl⟩ := Option.map_eq_some_iff.1 hi
    have hil : i < L.length := (List.getElem?_eq_some_iff.1 hx).1
    have key : ∀ j, j < 3 → w.cell? ⟨g, 0 + i * 3 + j, none⟩ = (icells x.1 x.2)[j]? := by
      intro j hj
      have h1 := irow_at L i x hx j hj
      rw [← ht, List.getElem?_take_of_lt (by omega), Array.getElem?_toList] at h1
      rw [cell_of_row w g _ cur _ _ hg, Nat.zero_add, h1]
    have ho := h.bod x (List.mem_of_getElem? hx)
    have hcl := ho.cap_le
    unfold maxLen at hcl
    exact ⟨key 0 (by omega), key 1 (by omega), x.2.1, x.2.2.1, x.2.2.2, key 2 (by omega), ho.rd, ho.nil_cap', hcl.1, by omega⟩
theorem Sps.grown_it {w w' : World} {base : Nat} {sv v : Value} {l : List Sp} {L : List (It × Bd)} (h : Sps w base sv l) (hi : Its w base v L) (hg : w.grownBy w' v.ownBlock) : Sps w' base sv l := by
  refine ⟨⟨h.row.1, ?_⟩⟩
  rcases h.row.2 with hn | ⟨g, c, cur, hv, hbg, hgb, r⟩
  · exact .inl hn
  · refine .inr ⟨g, c, cur, hv, hbg, ?_, r⟩
    rw [hg.block g (Array.getElem?_eq_some_iff.1 hgb).1 (fun e => ?_)]
    · exact hgb
    · rcases hi.row.2 with ⟨h3, _⟩ | ⟨g', c', cur', h3, _, h4, _⟩
      · rw [h3] at e; cases e
      · rw [h3] at e
        simp only [Value.ownBlock, Option.some.injEq] at e
        rw [e, h4] at hgb
        simp only [Option.some.injEq, Obj.cells.injEq] at hgb
        exact absurd hgb.2.1 (by decide)

theorem Sps.frame {w w' : World} {base : Nat} {v : Value} {l : List Sp} (h : Sps w base v l) (hf : ∀ k, base ≤ k → k < w.heap.size → w'.heap[k]? = w.heap[k]?) : Sps w' base v l := by
  refine ⟨⟨h.row.1, ?_⟩⟩
  rcases h.row.2 with hn | ⟨g, c, cur, hv, hbg, hg, r⟩
  · exact .inl hn
  · exact .inr ⟨g, c, cur, hv, hbg, by rw [hf g hbg (Array.getElem?_eq_some_iff.1 hg).1]; exact hg, r⟩
theorem Its.lower {w : World} {base base' : Nat} {v : Value} {l : List (It × Bd)} (h : Its w base v l) (hb : base' ≤ base) : Its w base' v l := by
  refine ⟨⟨h.row.1, ?_⟩, fun x hx => (h.bod x hx).under hb⟩
  rcases h.row.2 with hn | ⟨g, c, cur, hv, hbg, r⟩
  · exact .inl hn
  · exact .inr ⟨g, c, cur, hv, Nat.le_trans hb hbg, r⟩
theorem bk_step {w : World} {g : Nat} {t : TypeId} {cs cs' : Array Value} (h : Bk w g cs t) (i : Nat) (v : Value) (hc : cs.setIfInBounds i v = cs') : Bk (w.setCell ⟨g, i, none⟩ v) g cs' t := hc ▸ h.set i v
def set8 (w : World) (g : Nat) (v0 v1 v2 v3 v4 v5 v6 v7 : Value) : World := ((((((((w.setCell ⟨g, 0, none⟩ v0).setCell ⟨g, 1, none⟩ v1).setCell ⟨g, 2, none⟩ v2).setCell ⟨g, 3, none⟩ v3).setCell ⟨g, 4, none⟩ v4).setCell ⟨g, 5, none⟩ v5).setCell ⟨g, 6, none⟩ v6).setCell ⟨g, 7, none⟩ v7)
theorem Bk.set8 {w : World} {g : Nat} {t : TypeId} {u0 u1 u2 u3 u4 u5 u6 u7 : Value} (h : Bk w g #[u0, u1, u2, u3, u4, u5, u6, u7] t) (v0 v1 v2 v3 v4 v5 v6 v7 : Value) : Bk (Go.Proofs.YtidihfhgnjkmaaaGreat.set8 w g v0 v1 v2 v3 v4 v5 v6 v7) g #[v0, v1, v2, v3, v4, v5, v6, v7] t := by
  unfold Go.Proofs.YtidihfhgnjkmaaaGreat.set8
  have h1 : Bk (w.setCell ⟨g, 0, none⟩ v0) g #[v0, u1, u2, u3, u4, u5, u6, u7] t := bk_step h 0 v0 rfl
  generalize w.setCell ⟨g, 0, none⟩ v0 = w1 at h1 ⊢
  have h2 : Bk (w1.setCell ⟨g, 1, none⟩ v1) g #[v0, v1, u2, u3, u4, u5, u6, u7] t := bk_step h1 1 v1 rfl
  generalize w1.setCell ⟨g, 1, none⟩ v1 = w2 at h2 ⊢
  have h3 : Bk (w2.setCell ⟨g, 2, none⟩ v2) g #[v0, v1, v2, u3, u4, u5, u6, u7] t := bk_step h2 2 v2 rfl
  generalize w2.setCell ⟨g, 2, none⟩ v2 = w3 at h3 ⊢
  have h4 : Bk (w3.setCell ⟨g, 3, none⟩ v3) g #[v0, v1, v2, v3, u4, u5, u6, u7] t := bk_step h3 3 v3 rfl
  generalize w3.setCell ⟨g, 3, none⟩ v3 = w4 at h4 ⊢
  have h5 : Bk (w4.setCell ⟨g, 4, none⟩ v4) g #[v0, v1, v2, v3, v4, u5, u6, u7] t := bk_step h4 4 v4 rfl
  generalize w4.setCell ⟨g, 4, none⟩ v4 = w5 at h5 ⊢
  have h6 : Bk (w5.setCell ⟨g, 5, none⟩ v5) g #[v0, v1, v2, v3, v4, v5, u6, u7] t := bk_step h5 5 v5 rfl
  generalize w5.setCell ⟨g, 5, none⟩ v5 = w6 at h6 ⊢
  have h7 : Bk (w6.setCell ⟨g, 6, none⟩ v6) g #[v0, v1, v2, v3, v4, v5, v6, u7] t := bk_step h6 6 v6 rfl
  generalize w6.setCell ⟨g, 6, none⟩ v6 = w7 at h7 ⊢
  have h8 : Bk (w7.setCell ⟨g, 7, none⟩ v7) g #[v0, v1, v2, v3, v4, v5, v6, v7] t := bk_step h7 7 v7 rfl
  exact h8
theorem set8_other (w : World) (g : Nat) (v0 v1 v2 v3 v4 v5 v6 v7 : Value) (k : Nat) (hk : k ≠ g) : (set8 w g v0 v1 v2 v3 v4 v5 v6 v7).heap[k]? = w.heap[k]? := by
  unfold set8
  rw [heap_setCell_other _ _ _ _ hk, heap_setCell_other _ _ _ _ hk, heap_setCell_other _ _ _ _ hk, heap_setCell_other _ _ _ _ hk, heap_setCell_other _ _ _ _ hk, heap_setCell_other _ _ _ _ hk, heap_setCell_other _ _ _ _ hk, heap_setCell_other _ _ _ _ hk]
theorem set8_below {B : Nat} {w w' : World} (h : Below B w w') (g : Nat) (hg : B ≤ g) (v0 v1 v2 v3 v4 v5 v6 v7 : Value) : Below B w (set8 w' g v0 v1 v2 v3 v4 v5 v6 v7) := by
  unfold set8
  exact (((((((h.setCell hg _).setCell hg _).setCell hg _).setCell hg _).setCell hg _).setCell hg _).setCell hg _).setCell hg _
/-- An item behind a list of one's own, at a step of a region that draws its order. -/
theorem wp_append_it {w : World} {o : Oper} {act : Act} {K : Act → World → Prop} {Q : Exit → Act → World → Prop} (s x : Operand)
    (ho : o.op = .call { callee := .builtin .append, args := #[s, x], argTypes := #[31, 31] })
    (base : Nat) (v : Value) (l : List (It × Bd)) (hs : act.eval s = v) (hown : Its w base v l) (ad : Addr) (c : Nat) (q : It) (b : Bd) (hx : act.eval x = .slice (some ad) 1 c) (hnews : ∀ j u, (icells q b)[j]? = some u → w.cell? (ad.add j) = some u) (hb : Own w base b.1 b.2.1 b.2.2 q.body)
    (hl : (l.length + 1) * 40 ≤ 140737488355328) (hbase : base ≤ w.heap.size)
    (h : ∀ v' w', Its w' base v' (l ++ [(q, b)]) → w.grownBy w' v.ownBlock → Below base w w' → K (act.put o.dst v') w') : o.wp Tryz.prog act w K Q := by
  obtain ⟨i0, hi, hz0, hz1, hz2⟩ := info_parts infoItem
  refine wp_append_own w s x 31 ho base 54 i0 (.agg #[.int .i64 0, .int .u32 0, .slice none 0 0]) 3 40 Tryz.underlying31 hi hz0 hz1 hz2 (by rfl) (by decide) v l.length (irow l) hs hown.row ad 1 c (icells q b) hx (by rfl) hnews (icells_one q b) (by unfold maxLen; omega) (by omega) hbase fun v' w' h1 h2 _ => ?_
  have hbel : Below base w w' := (Below.refl _ _).grown h2 hbase (fun k hk => (hown.row.lt k hk).1)
  have hf : ∀ k cs m, base ≤ k → w.heap[k]? = some (.cells cs 5 m) → w'.heap[k]? = some (.cells cs 5 m) := fun k cs m _ hk => by
    rw [h2.block k (Array.getElem?_eq_some_iff.1 hk).1 (fun e => ?_)]
    · exact hk
    · rcases hown.row.2 with ⟨h3, _⟩ | ⟨g, c', cur, h3, _, h4, _⟩
      · rw [h3] at e; cases e
      · rw [h3] at e
        simp only [Value.ownBlock, Option.some.injEq] at e
        rw [e, h4] at hk
        simp only [Option.some.injEq, Obj.cells.injEq] at hk
        exact absurd hk.2.1 (by decide)
  refine h v' w' ⟨?_, ?_⟩ h2 hbel
  · rw [List.length_append, irow_snoc]
    simpa using h1
  · intro x hx
    rcases List.mem_append.1 hx with hx | hx
    · exact own_frame (hown.bod x hx) hf
    · obtain rfl := List.mem_singleton.1 hx
      exact own_frame hb hf
theorem step_append_it {w : World} {ops : Array Oper} {o : Oper} {act : Act} {K : Act → World → Prop} {Q : Exit → Act → World → Prop} {E : Prop} (hgd : o.guard = none) (s x : Operand)
    (ho : o.op = .call { callee := .builtin .append, args := #[s, x], argTypes := #[31, 31] })
    (base : Nat) (v : Value) (l : List (It × Bd)) (hs : act.eval s = v) (hown : Its w base v l) (ad : Addr) (c : Nat) (q : It) (b : Bd) (hx : act.eval x = .slice (some ad) 1 c) (hnews : ∀ j u, (icells q b)[j]? = some u → w.cell? (ad.add j) = some u) (hb : Own w base b.1 b.2.1 b.2.2 q.body)
    (hl : (l.length + 1) * 40 ≤ 140737488355328) (hbase : base ≤ w.heap.size)
    (h : ∀ v' w', Its w' base v' (l ++ [(q, b)]) → w.grownBy w' v.ownBlock → Below base w w' → K (act.put o.dst v') w') : if Region.wanted o (yielded ops act.tmps) = true then Oper.wp Tryz.prog o act w K Q else E := by
  rw [if_pos (by simp [Region.wanted, hgd])]
  exact wp_append_it s x ho base v l hs hown ad c q b hx hnews hb hl hbase h
/-- Spans of one's own, copied from spans that are read. -/
theorem flat3_len : ∀ l : List Sp, (l.flatMap fun q => q.cells.toList).length = l.length * 3
  | [] => rfl
  | s :: m => by rw [List.flatMap_cons, List.length_append, flat3_len m, List.length_cons]; simp [Sp.cells]; omega
theorem SpsRd.flat {w : World} {ad : Addr} {n : Nat} {l : List Sp} (h : SpsRd w (some ad) n l) : ∀ j u, (l.flatMap fun q => q.cells.toList)[j]? = some u → w.cell? (ad.add j) = some u := by
  intro j u hj
  rcases h.cells with rfl | ⟨g, o, ha, hg, hc⟩
  · simp at hj
  · simp only [Option.some.injEq] at ha
    subst ha
    have hlen : j < l.length * 3 := by rw [← flat3_len]; exact (List.getElem?_eq_some_iff.1 hj).1
    have hi : j / 3 < l.length := by omega
    have hq : l[j / 3]? = some l[j / 3] := List.getElem?_eq_getElem hi
    have hr : j % 3 < 3 := Nat.mod_lt _ (by decide)
    have e := flat3 l (j / 3) _ hq (j % 3) hr
    rw [show j / 3 * 3 + j % 3 = j from by omega, hj] at e
    obtain ⟨c0, c1, c2⟩ := hc (j / 3) _ hq
    have ea : (⟨g, o, none⟩ : Addr).add j = ⟨g, o + j, none⟩ := by unfold Addr.add; split <;> simp_all
    rw [ea, show o + j = o + j / 3 * 3 + j % 3 from by omega, e]
    rcases (by omega : j % 3 = 0 ∨ j % 3 = 1 ∨ j % 3 = 2) with h0 | h0 | h0 <;> rw [h0]
    · exact c0
    · exact c1
    · exact c2
theorem Sp.ones (l : List Sp) : ∀ u ∈ (l.flatMap fun q => q.cells.toList), u.oneCell' = true := by
  intro u hu
  obtain ⟨q, _, hq⟩ := List.mem_flatMap.1 hu
  exact Sp.one q u hq
theorem wpList_append_spans {w : World} {ops : Array Oper} {rest : List Oper} {o : Oper} {act : Act} {Q : Exit → Act → World → Prop} (hgd : o.guard = none) (s x : Operand)
    (ho : o.op = .call { callee := .builtin .append, args := #[s, x], argTypes := #[30, 30] })
    (base : Nat) (hs : act.eval s = .slice none 0 0) (sa : Option Addr) (sn sc : Nat) (l : List Sp) (hx : act.eval x = .slice sa sn sc) (hr : SpsRd w sa sn l) (hz : sa = none → sc = 0) (hb : sn * 24 ≤ 140737488355328) (hbase : base ≤ w.heap.size)
    (h : ∀ a' c' w', Sps w' base (.slice a' sn c') l → w.grownBy w' none → wpList Tryz.prog ops Q rest (act.put o.dst (.slice a' sn c')) w') : wpList Tryz.prog ops Q (o :: rest) act w := by
  obtain ⟨i0, hi, hz0, hz1, hz2⟩ := info_parts infoSpan
  refine wpList_plain hgd fun K hK => ?_
  cases sa with
  | none =>
    have hn : sn = 0 := by
      rw [← hr.size]
      rcases hr.cells with h0 | ⟨_, _, h0, _⟩
      · rw [h0]; rfl
      · cases h0
    have hc := hz rfl
    subst hn hc
    have hl : l = [] := List.eq_nil_of_length_eq_zero hr.size
    subst hl
    have hrun := run_append_owned_none (P := Tryz.prog) (w := w) base 30 o.type 62 i0 3 Tryz.underlying30 hi (.slice none 0 0) 0 [] (Sps.nil_ w base).row
    unfold Oper.wp execOp
    simp only [ho, resolve, invoke, builtin, Sem.run_bind, Sem.run_pure, Result.andThen_ok, List.map_toArray, List.map_cons, List.map_nil, hs, hx, hrun]
    exact hK _ _ (h none 0 w (Sps.nil_ w base) ⟨rfl, rfl, rfl, Nat.le_refl _, fun _ _ _ => rfl⟩)
  | some ad =>
    refine wp_append_own w s x 30 ho base 62 i0 (.agg #[.int .i64 0, .int .i64 0, .int .i64 0]) 3 24 Tryz.underlying30 hi hz0 hz1 hz2 (by rfl) (by decide) (.slice none 0 0) 0 [] hs (Sps.nil_ w base).row ad sn sc (l.flatMap fun q => q.cells.toList) hx (by rw [flat3_len, hr.size]) hr.flat (Sp.ones l) (by unfold maxLen; omega) (by omega) hbase fun v' w' h1 h2 _ => ?_
    rw [Nat.zero_add, List.nil_append, ← hr.size] at h1
    have hS : Sps w' base v' l := ⟨h1⟩
    obtain ⟨a', c', rfl, _⟩ := hS.form
    rw [hr.size] at hS ⊢
    exact hK _ _ (h a' c' w' hS h2)
end Go.Proofs.YtidihfhgnjkmaaaGreat
/- grapevineref13: SameItems, Same of two parcels that read alike. -/
namespace Go.Proofs.YtidihfhgnjkmaaaGreat
open Go.RowKit

set_option maxRecDepth 100000 in
set_option maxHeartbeats 2000000 in
theorem ref_SameItems (a b : Option Addr) (n c d : Nat) (l : List It) (w : World) (ha : ItsRd w a n l) (hb : ItsRd w b n l) (hn : n ≤ maxLen) : Calls Tryz.prog 20 #[.slice a n c, .slice b n d] w fun e w' => e = .returned (.bool true) ∧ Below w.heap.size w w' := by
  have HA : Hid (ItsRd w a n l) := ha
  have HBB : Hid (ItsRd w b n l) := hb
  unfold maxLen at hn
  clear ha hb
  go_enter Tryz.func20, Tryz.ntmps20
  go_wp2
  go_loopw [5] (fun t5 wr => ∃ k : Nat, k ≤ n ∧ t5 = .int .i64 (k : Int) ∧ Hid (Below w.heap.size w wr)) (fun t5 _ => n - (intOf t5).toNat)
  case atStart => exact ⟨0, by omega, rfl, Below.refl _ _⟩
  case round =>
    obtain ⟨k, hk, rfl, HB⟩ := hrel
    by_cases hlt : k < n
    · have hlt' : (k : Int) < (n : Int) := by omega
      have h0k : (0 : Int) ≤ (k : Int) := by omega
      obtain ⟨g, o, rfl, hg, q, hq, c0, c1, ba, bl, bc, c2, hrd, hnc, hbl, hbc⟩ := (HA.out.below HB.out).at_ k hlt
      obtain ⟨g', o', rfl, hg', q', hq', d0, d1, ba', bl', bc', d2, hrd', hnc', hbl', hbc'⟩ := (HBB.out.below HB.out).at_ k hlt
      rw [hq] at hq'
      simp only [Option.some.injEq] at hq'
      subst hq'
      obtain ⟨S, HSS⟩ : ∃ S, Hid (S = str q.body) := ⟨_, rfl⟩
      have x1 : ∀ m, (convert 52 9 (.slice ba bl bc)).run Tryz.prog (wr.drewN m) = .ok (.string S) (wr.drewN m) := fun m => by rw [conv_rd (hrd.below (below_drews (Below.refl _ _) m)) bc, HSS.out]
      have x2 : ∀ m, (convert 52 9 (.slice ba' bl' bc')).run Tryz.prog (wr.drewN m) = .ok (.string S) (wr.drewN m) := fun m => by rw [conv_rd (hrd'.below (below_drews (Below.refl _ _) m)) bc', HSS.out]
      obtain ⟨qt, qf, qb⟩ := q
      simp only at c0 c1 d0 d1
      have e1 : (qt == qt) = true := by simp
      have e2 : (qt != qt) = false := by simp
      have e3 : (qf == qf) = true := by simp
      have e4 : (qf != qf) = false := by simp
      clear hrd hrd' hq hnc hnc' hbl hbl' hbc hbc' hg hg'
      go_wp2
      go_quiet (fail)
      generalize hnq : wr.drewN _ = w2
      have HB2 : Hid (Below w.heap.size w w2) := by show Below _ _ _; rw [← hnq]; exact below_drews HB.out _
      clear hnq x1 x2 c0 c1 c2 d0 d1 d2
      go_wp2
      go_roundw
      case rel => exact ⟨k + 1, by omega, by go_num, HB2⟩
      case measure => simp [intOf]; omega
    · have hnl : ¬ (k : Int) < (n : Int) := by omega
      go_wp2
      go_ret
      exact ⟨rfl, HB.out⟩
set_option maxRecDepth 100000 in
set_option maxHeartbeats 2000000 in
theorem ref_Same13 (p : Pc) (sa : Option Addr) (sn sc : Nat) (ia : Option Addr) (im ic : Nat) (ta : Option Addr) (tn tc : Nat) (ja : Option Addr) (jm jc : Nat) (w : World) (h1 : PcRd w p sa sn sc ia im ic) (h2 : PcRd w p ta tn tc ja jm jc) : Calls Tryz.prog 77 #[p.val sa sn sc ia im ic, p.val ta tn tc ja jm jc] w fun e w' => e = .returned (.bool true) ∧ Below w.heap.size w w' := by
  have H1 : Hid (PcRd w p sa sn sc ia im ic) := h1
  have H2 : Hid (PcRd w p ta tn tc ja jm jc) := h2
  have e1 : im = jm := by rw [← h1.items.size, ← h2.items.size]
  subst e1
  clear h1 h2
  obtain ⟨pk, pp, ps, pn, pf, pt, pl, pi⟩ := p
  unfold Pc.val
  simp only
  have HB : Hid (Below w.heap.size w ((w.alloc (.cells #[.int .i64 pk, .int .i64 pp, .int .i64 ps, .int .i64 pn, .int .i64 pf, .int .i64 pt, .slice sa sn sc, .slice ia im ic] 33)).alloc (.cells #[.int .i64 pk, .int .i64 pp, .int .i64 ps, .int .i64 pn, .int .i64 pf, .int .i64 pt, .slice ta tn tc, .slice ja im jc] 33))) := (below_new w _).alloc (by simp) _
  have k0 : (pk == pk) = true := by simp
  have k1 : (pp == pp) = true := by simp
  have k2 : (ps == ps) = true := by simp
  have k3 : (pn == pn) = true := by simp
  have k4 : (pf == pf) = true := by simp
  have k5 : (pt == pt) = true := by simp
  go_enter Tryz.func77, Tryz.ntmps77
  go_wp2_with fail
  refine (ref_Same sa ta sn sc tn tc pl pl _ (H1.out.spans.below HB.out) (H2.out.spans.below HB.out) (Nat.le_trans H1.out.sl H1.out.sm)).mono ?_
  rw [sameB_refl]
  rintro e w1 ⟨rfl, hb1⟩
  have hk1 : Bk ((w.alloc (.cells #[.int .i64 pk, .int .i64 pp, .int .i64 ps, .int .i64 pn, .int .i64 pf, .int .i64 pt, .slice sa sn sc, .slice ia im ic] 33)).alloc (.cells #[.int .i64 pk, .int .i64 pp, .int .i64 ps, .int .i64 pn, .int .i64 pf, .int .i64 pt, .slice ta tn tc, .slice ja im jc] 33)) w.heap.size #[.int .i64 pk, .int .i64 pp, .int .i64 ps, .int .i64 pn, .int .i64 pf, .int .i64 pt, .slice sa sn sc, .slice ia im ic] 33 := (Bk.new w _ _).stay (below_new _ _)
  have hk2 : Bk ((w.alloc (.cells #[.int .i64 pk, .int .i64 pp, .int .i64 ps, .int .i64 pn, .int .i64 pf, .int .i64 pt, .slice sa sn sc, .slice ia im ic] 33)).alloc (.cells #[.int .i64 pk, .int .i64 pp, .int .i64 ps, .int .i64 pn, .int .i64 pf, .int .i64 pt, .slice ta tn tc, .slice ja im jc] 33)) (w.heap.size + 1) #[.int .i64 pk, .int .i64 pp, .int .i64 ps, .int .i64 pn, .int .i64 pf, .int .i64 pt, .slice ta tn tc, .slice ja im jc] 33 := by
    have h := Bk.new (w.alloc (.cells #[.int .i64 pk, .int .i64 pp, .int .i64 ps, .int .i64 pn, .int .i64 pf, .int .i64 pt, .slice sa sn sc, .slice ia im ic] 33)) #[.int .i64 pk, .int .i64 pp, .int .i64 ps, .int .i64 pn, .int .i64 pf, .int .i64 pt, .slice ta tn tc, .slice ja im jc] 33
    rwa [show (w.alloc (.cells #[.int .i64 pk, .int .i64 pp, .int .i64 ps, .int .i64 pn, .int .i64 pf, .int .i64 pt, .slice sa sn sc, .slice ia im ic] 33)).heap.size = w.heap.size + 1 from by simp] at h
  have c7 : w1.cell? ⟨w.heap.size, 7, none⟩ = some (.slice ia im ic) := (hk1.stay hb1).cell 7 rfl
  have d7 : w1.cell? ⟨w.heap.size + 1, 7, none⟩ = some (.slice ja im jc) := (hk2.stay hb1).cell 7 rfl
  have HB1 : Hid (Below w.heap.size w w1) := HB.out.trans (hb1.mono HB.out.size)
  clear hb1 hk1 hk2
  go_wp2_with fail
  refine (ref_SameItems ia ja im ic jc pi w1 (H1.out.items.below HB1.out) (H2.out.items.below HB1.out) (Nat.le_trans H1.out.il H1.out.im_)).mono ?_
  rintro e w2 ⟨rfl, hb2⟩
  have HB2 : Hid (Below w.heap.size w w2) := HB1.out.trans (hb2.mono HB1.out.size)
  clear hb2
  go_wp2
  go_ret
  exact ⟨rfl, HB2.out⟩
end Go.Proofs.YtidihfhgnjkmaaaGreat
