/- cover: discs of one's own; append of discs that are read. -/
import Derived.Test.YtnfeklebfnlgkaaGreatCvC3
import Derived.Test.YtnfeklebfnlgkaaGreatStep
namespace Go.Proofs.YtnfeklebfnlgkaaGreat
open Go.RowKit

def dcells (t : Int × Int × Int) : List Value := [.int .i64 t.1, .int .i64 t.2.1, .int .i64 t.2.2]
def drow (l : List (Int × Int × Int)) : List Value := l.flatMap dcells
theorem drow_cons (t : Int × Int × Int) (l : List (Int × Int × Int)) : drow (t :: l) = dcells t ++ drow l := rfl
theorem drow_append (l m : List (Int × Int × Int)) : drow (l ++ m) = drow l ++ drow m := by simp [drow]
theorem drow_len : ∀ l : List (Int × Int × Int), (drow l).length = l.length * 3
  | [] => rfl
  | t :: l => by rw [drow_cons, List.length_append, drow_len l, List.length_cons]; simp [dcells]; omega
theorem drow_at : ∀ (l : List (Int × Int × Int)) (i : Nat) (t : Int × Int × Int), l[i]? = some t → ∀ j, j < 3 → (drow l)[i * 3 + j]? = (dcells t)[j]?
  | [], i, t, h, j, hj => by simp at h
  | y :: l, 0, t, h, j, hj => by
    simp only [List.getElem?_cons_zero, Option.some.injEq] at h
    subst h
    rw [drow_cons, Nat.zero_mul, Nat.zero_add, List.getElem?_append_left (by simp [dcells]; omega)]
  | y :: l, i + 1, t, h, j, hj => by
    rw [List.getElem?_cons_succ] at h
    have e : (dcells y).length = 3 := rfl
    rw [drow_cons, List.getElem?_append_right (by omega), e, show (i + 1) * 3 + j - 3 = i * 3 + j from by omega]
    exact drow_at l i t h j hj
theorem drow_one (l : List (Int × Int × Int)) : ∀ u ∈ drow l, u.oneCell' = true := by
  intro u hu
  obtain ⟨t, _, ht⟩ := List.mem_flatMap.1 hu
  simp only [dcells, List.mem_cons, List.not_mem_nil, or_false] at ht
  rcases ht with rfl | rfl | rfl <;> rfl
/-- Discs of one's own. -/
structure OwnD (w : World) (base : Nat) (v : Value) (l : List (Int × Int × Int)) : Prop where
  row : w.ownsRow base 45 3 v l.length (drow l)
theorem addr_add (g off j : Nat) : (⟨g, off, none⟩ : Addr).add j = ⟨g, off + j, none⟩ := by unfold Addr.add; split <;> simp_all
theorem DcsRd.flat {w : World} {ad : Addr} {n : Nat} {l : List (Int × Int × Int)} (h : DcsRd w (some ad) n l) : ∀ j u, (drow l)[j]? = some u → w.cell? (ad.add j) = some u := by
  intro j u hj
  have hjl : j < l.length * 3 := by rw [← drow_len]; exact (List.getElem?_eq_some_iff.1 hj).1
  rcases h.cells with h0 | ⟨g, off, ha, hg, hc⟩
  · have := h.size
    omega
  · simp only [Option.some.injEq] at ha
    subst ha
    rw [addr_add]
    have hi : j / 3 < l.length := by omega
    obtain ⟨h0, h1, h2⟩ := hc (j / 3) l[j / 3] (List.getElem?_eq_getElem hi)
    have hk := drow_at l (j / 3) l[j / 3] (List.getElem?_eq_getElem hi) (j % 3) (Nat.mod_lt _ (by omega))
    rw [show j / 3 * 3 + j % 3 = j from by omega, hj] at hk
    have h3 : j % 3 = 0 ∨ j % 3 = 1 ∨ j % 3 = 2 := by omega
    rcases h3 with h3 | h3 | h3
    · rw [h3] at hk
      rw [show off + j = off + j / 3 * 3 from by omega, h0, hk]; rfl
    · rw [h3] at hk
      rw [show off + j = off + j / 3 * 3 + 1 from by omega, h1, hk]; rfl
    · rw [h3] at hk
      rw [show off + j = off + j / 3 * 3 + 2 from by omega, h2, hk]; rfl
theorem OwnD.rd {w : World} {base : Nat} {a : Option Addr} {n c : Nat} {l : List (Int × Int × Int)} (h : OwnD w base (.slice a n c) l) : DcsRd w a n l := by
  rcases h.row.2 with ⟨hv, hn⟩ | ⟨g, c', cur, hv, hbb, hg, hlc, hm, hs, ht⟩
  · simp only [Value.slice.injEq] at hv
    exact ⟨by omega, .inl hv.2.1⟩
  · simp only [Value.slice.injEq] at hv
    obtain ⟨rfl, rfl, rfl⟩ := hv
    refine ⟨rfl, .inr ⟨g, 0, rfl, (Array.getElem?_eq_some_iff.1 hg).1, fun i t hi => ?_⟩⟩
    have hil : i < l.length := (List.getElem?_eq_some_iff.1 hi).1
    have key : ∀ j, j < 3 → w.cell? ⟨g, 0 + i * 3 + j, none⟩ = (dcells t)[j]? := by
      intro j hj
      have h1 := drow_at l i t hi j hj
      rw [← ht, List.getElem?_take_of_lt (by omega), Array.getElem?_toList] at h1
      rw [cell_of_row w g _ cur _ _ hg, Nat.zero_add, h1]
    exact ⟨key 0 (by omega), key 1 (by omega), key 2 (by omega)⟩
theorem OwnD.len {w : World} {base : Nat} {a : Option Addr} {n c : Nat} {l : List (Int × Int × Int)} (h : OwnD w base (.slice a n c) l) : l.length = n := h.rd.size
theorem infoDisc : (Tryz.prog.info? 45).map (fun i => (i.zero, i.size, i.bytes)) = some (some (.agg #[.int .i64 0, .int .i64 0, .int .i64 0]), 3, 24) := by kernel_rfl
theorem OwnD.empty (w : World) : OwnD (w.alloc (.cells #[] 45)) w.heap.size (.slice (some ⟨w.heap.size, 0, none⟩) 0 0) [] :=
  ⟨⟨rfl, .inr ⟨w.heap.size, 0, #[], rfl, Nat.le_refl _, heap_alloc_new w _, Nat.le_refl _, Nat.zero_le _, rfl, rfl⟩⟩⟩
theorem run_append_dc (w : World) (ty : TypeId) (base : Nat) (v : Value) (xs : List (Int × Int × Int)) (hown : OwnD w base v xs) (b : Option Addr) (m c : Nat) (ys : List (Int × Int × Int)) (hr : DcsRd w b m ys) (hmc : b = none → c = 0)
    (hbytes : xs.length + m ≤ 1000000) (hbase : base ≤ w.heap.size) :
    ∃ v' w', (Builtin.append_ #[38, 38] ty #[v, .slice b m c]).run Tryz.prog w = .ok v' w' ∧ OwnD w' base v' (xs ++ ys) ∧ w.grownBy w' v.ownBlock ∧ Below base w w' := by
  obtain ⟨i0, hi, hz0, hz1, hz2⟩ := info_parts infoDisc
  cases b with
  | none =>
    have hm : m = 0 := by
      rcases hr.cells with h0 | ⟨_, _, h, _⟩
      · exact h0
      · cases h
    have hc := hmc rfl
    subst hm hc
    have hy : ys = [] := List.eq_nil_of_length_eq_zero hr.size
    subst hy
    have hrun := run_append_owned_none (P := Tryz.prog) (w := w) base 38 ty 45 i0 3 Tryz.underlying38 hi v xs.length (drow xs) hown.row
    exact ⟨v, w, hrun, by rw [List.append_nil]; exact hown, ⟨rfl, rfl, rfl, Nat.le_refl _, fun _ _ _ => rfl⟩, Below.refl _ _⟩
  | some ad =>
    obtain ⟨v', w', hrun, h2, h3, _⟩ := run_append_own (P := Tryz.prog) w base 38 ty 45 i0 (.agg #[.int .i64 0, .int .i64 0, .int .i64 0]) 3 24 Tryz.underlying38 hi hz0 hz1 hz2 rfl (by decide) v xs.length (drow xs) hown.row ad m c (drow ys) (by rw [drow_len, hr.size]) hr.flat (drow_one ys) (by unfold maxLen; omega) (by omega) hbase
    have hbel : Below base w w' := (Below.refl _ _).grown h3 hbase (fun k hk => (hown.row.lt k hk).1)
    refine ⟨v', w', hrun, ⟨?_⟩, h3, hbel⟩
    rw [drow_append, List.length_append, hr.size]
    exact h2
theorem step_append_dc {w : World} {ops : Array Oper} {o : Oper} {act : Act} {K : Act → World → Prop} {Q : Exit → Act → World → Prop} {E : Prop} (hgd : o.guard = none) (s x : Operand)
    (ho : o.op = .call { callee := .builtin .append, args := #[s, x], argTypes := #[38, 38] })
    (base : Nat) (v : Value) (xs : List (Int × Int × Int)) (hs : act.eval s = v) (hown : OwnD w base v xs) (b : Option Addr) (m c : Nat) (ys : List (Int × Int × Int)) (hx : act.eval x = .slice b m c) (hr : DcsRd w b m ys) (hmc : b = none → c = 0)
    (hbytes : xs.length + m ≤ 1000000) (hbase : base ≤ w.heap.size)
    (h : ∀ v' w', OwnD w' base v' (xs ++ ys) → w.grownBy w' v.ownBlock → Below base w w' → K (act.put o.dst v') w') : if Region.wanted o (yielded ops act.tmps) = true then Oper.wp Tryz.prog o act w K Q else E := by
  rw [if_pos (by simp [Region.wanted, hgd])]
  obtain ⟨v', w', hrun, h2, h3, h4⟩ := run_append_dc w o.type base v xs hown b m c ys hr hmc hbytes hbase
  unfold Oper.wp execOp
  simp only [ho, resolve, invoke, builtin, Sem.run_bind, Sem.run_pure, Result.andThen_ok, List.map_toArray, List.map_cons, List.map_nil, hs, hx, hrun]
  exact h v' w' h2 h3 h4
theorem DcsRd.drew {w : World} {a : Option Addr} {n : Nat} {l : List (Int × Int × Int)} (h : DcsRd w a n l) : DcsRd w.drew a n l := ⟨h.size, h.cells⟩
theorem OwnD.drew {w : World} {base : Nat} {v : Value} {l : List (Int × Int × Int)} (h : OwnD w base v l) : OwnD w.drew base v l := ⟨h.row⟩
theorem OwnD.form {w : World} {base : Nat} {v : Value} {l : List (Int × Int × Int)} (h : OwnD w base v l) : ∃ a c, v = .slice a l.length c := by
  rcases h.row.2 with ⟨hv, hn⟩ | ⟨g, c, cur, hv, _⟩
  · exact ⟨none, 0, by rw [hv, hn]⟩
  · exact ⟨_, c, hv⟩
end Go.Proofs.YtnfeklebfnlgkaaGreat
