/- Spans behind a row of one's own. -/
import Derived.Test.YtidihfhgnjkmaaaGreatSp
namespace Go.Proofs.YtidihfhgnjkmaaaGreat
open Go.RowKit

theorem SpsRd.news {w : World} {ad : Addr} {m : Nat} {l : List Sp} (h : SpsRd w (some ad) m l) : ∀ j u, (l.flatMap fun q => q.cells.toList)[j]? = some u → w.cell? (ad.add j) = some u := by
  intro j u hj
  have hlen : ∀ l : List Sp, (l.flatMap fun q => q.cells.toList).length = l.length * 3 := by
    intro l
    induction l with
    | nil => rfl
    | cons s l ih => rw [List.flatMap_cons, List.length_append, ih, List.length_cons]; simp [Sp.cells]; omega
  have hjl : j < l.length * 3 := by rw [← hlen]; exact (List.getElem?_eq_some_iff.1 hj).1
  have hi : j / 3 < l.length := by omega
  rcases h.cells with h0 | ⟨g, o, ha, hg, hc⟩
  · subst h0; simp at hi
  · simp only [Option.some.injEq] at ha
    subst ha
    obtain ⟨c0, c1, c2⟩ := hc (j / 3) l[j / 3] (List.getElem?_eq_getElem hi)
    have hf := flat3 l (j / 3) l[j / 3] (List.getElem?_eq_getElem hi) (j % 3) (by omega)
    rw [show j / 3 * 3 + j % 3 = j from by omega, hj] at hf
    have e : ∀ k, (⟨g, o, none⟩ : Addr).add k = ⟨g, o + k, none⟩ := fun k => by unfold Addr.add; split <;> simp_all
    rw [e]
    have hm : j % 3 = 0 ∨ j % 3 = 1 ∨ j % 3 = 2 := by omega
    rcases hm with hm | hm | hm
    · rw [hm] at hf
      rw [show o + j = o + j / 3 * 3 from by omega, c0]
      simpa [Sp.cells] using hf.symm
    · rw [hm] at hf
      rw [show o + j = o + j / 3 * 3 + 1 from by omega, c1]
      simpa [Sp.cells] using hf.symm
    · rw [hm] at hf
      rw [show o + j = o + j / 3 * 3 + 2 from by omega, c2]
      simpa [Sp.cells] using hf.symm
theorem flat_len (l : List Sp) : (l.flatMap fun q => q.cells.toList).length = l.length * 3 := by
  induction l with
  | nil => rfl
  | cons s l ih => rw [List.flatMap_cons, List.length_append, ih, List.length_cons]; simp [Sp.cells]; omega
/-- Spans behind a list of one's own. -/
theorem run_append_sps (w : World) (ty : TypeId) (base : Nat) (v : Value) (l : List Sp) (hown : Sps w base v l) (b : Option Addr) (m c : Nat) (l2 : List Sp) (hr : SpsRd w b m l2) (hmc : b = none → c = 0) (hl : l.length + m ≤ 3000000000000) (hbase : base ≤ w.heap.size) :
    ∃ v' w', (Builtin.append_ #[30, 30] ty #[v, .slice b m c]).run Tryz.prog w = .ok v' w' ∧ Sps w' base v' (l ++ l2) ∧ w.grownBy w' v.ownBlock := by
  obtain ⟨i0, hi, hz0, hz1, hz2⟩ := info_parts infoSpan
  cases b with
  | none =>
    have h0 : l2 = [] := by
      rcases hr.cells with h0 | ⟨g, o, ha, _⟩
      · exact h0
      · cases ha
    have hm : m = 0 := by rw [← hr.size, h0]; rfl
    have hc := hmc rfl
    subst hm hc h0
    exact ⟨v, w, run_append_owned_none (P := Tryz.prog) (w := w) base 30 ty 62 i0 3 Tryz.underlying30 hi v l.length _ hown.row, by simpa using hown, ⟨rfl, rfl, rfl, Nat.le_refl _, fun _ _ _ => rfl⟩⟩
  | some ad =>
    obtain ⟨v', w', hrun, h2, h3, _⟩ := run_append_own (P := Tryz.prog) w base 30 ty 62 i0 (.agg #[.int .i64 0, .int .i64 0, .int .i64 0]) 3 24 Tryz.underlying30 hi hz0 hz1 hz2 (by rfl) (by decide) v l.length (l.flatMap fun q => q.cells.toList) hown.row ad m c (l2.flatMap fun q => q.cells.toList) (by rw [flat_len, hr.size]) hr.news (by
      intro u hu
      obtain ⟨q, hq, hu⟩ := List.mem_flatMap.1 hu
      exact Sp.one q u hu) (by unfold maxLen; omega) (by omega) hbase
    refine ⟨v', w', hrun, ⟨?_⟩, h3⟩
    rw [List.length_append, List.flatMap_append, hr.size]
    exact h2
theorem wpList_append_sps {w : World} {ops : Array Oper} {rest : List Oper} {o : Oper} {act : Act} {Q : Exit → Act → World → Prop} (hgd : o.guard = none) (s x : Operand)
    (ho : o.op = .call { callee := .builtin .append, args := #[s, x], argTypes := #[30, 30] })
    (base : Nat) (v : Value) (l : List Sp) (hs : act.eval s = v) (hown : Sps w base v l) (b : Option Addr) (m c : Nat) (l2 : List Sp) (hx : act.eval x = .slice b m c) (hr : SpsRd w b m l2) (hmc : b = none → c = 0)
    (hl : l.length + m ≤ 3000000000000) (hbase : base ≤ w.heap.size)
    (h : ∀ v' w', Sps w' base v' (l ++ l2) → w.grownBy w' v.ownBlock → wpList Tryz.prog ops Q rest (act.put o.dst v') w') : wpList Tryz.prog ops Q (o :: rest) act w := by
  refine wpList_plain hgd fun K hK => ?_
  obtain ⟨v', w', hrun, h2, h3⟩ := run_append_sps w o.type base v l hown b m c l2 hr hmc hl hbase
  unfold Oper.wp
  simp only [execOp, ho, resolve, invoke, builtin, Sem.run_bind, Sem.run_pure, Result.andThen_ok, List.map_toArray, List.map_cons, List.map_nil, hs, hx, hrun]
  exact hK _ _ (h v' w' h2 h3)
theorem run_append_spsL (w : World) (ty : TypeId) (base : Nat) (v : Value) (l : List Sp) (hown : Sps w base v l) (b : Option Addr) (m c : Nat) (l2 : List Sp) (hr : SpsRd w b m l2) (hmc : b = none → c = 0) (hl : (l.length + m) * 24 ≤ 140737488355328) (hbase : base ≤ w.heap.size) :
    ∃ v' w', (Builtin.append_ #[30, 30] ty #[v, .slice b m c]).run Tryz.prog w = .ok v' w' ∧ Sps w' base v' (l ++ l2) ∧ w.grownBy w' v.ownBlock := by
  obtain ⟨i0, hi, hz0, hz1, hz2⟩ := info_parts infoSpan
  cases b with
  | none =>
    have h0 : l2 = [] := by
      rcases hr.cells with h0 | ⟨g, o, ha, _⟩
      · exact h0
      · cases ha
    have hm : m = 0 := by rw [← hr.size, h0]; rfl
    have hc := hmc rfl
    subst hm hc h0
    exact ⟨v, w, run_append_owned_none (P := Tryz.prog) (w := w) base 30 ty 62 i0 3 Tryz.underlying30 hi v l.length _ hown.row, by simpa using hown, ⟨rfl, rfl, rfl, Nat.le_refl _, fun _ _ _ => rfl⟩⟩
  | some ad =>
    obtain ⟨v', w', hrun, h2, h3, _⟩ := run_append_own (P := Tryz.prog) w base 30 ty 62 i0 (.agg #[.int .i64 0, .int .i64 0, .int .i64 0]) 3 24 Tryz.underlying30 hi hz0 hz1 hz2 (by rfl) (by decide) v l.length (l.flatMap fun q => q.cells.toList) hown.row ad m c (l2.flatMap fun q => q.cells.toList) (by rw [flat_len, hr.size]) hr.news (by
      intro u hu
      obtain ⟨q, hq, hu⟩ := List.mem_flatMap.1 hu
      exact Sp.one q u hu) (by unfold maxLen; omega) (by omega) hbase
    refine ⟨v', w', hrun, ⟨?_⟩, h3⟩
    rw [List.length_append, List.flatMap_append, hr.size]
    exact h2
theorem wpList_append_spsL {w : World} {ops : Array Oper} {rest : List Oper} {o : Oper} {act : Act} {Q : Exit → Act → World → Prop} (hgd : o.guard = none) (s x : Operand)
    (ho : o.op = .call { callee := .builtin .append, args := #[s, x], argTypes := #[30, 30] })
    (base : Nat) (v : Value) (l : List Sp) (hs : act.eval s = v) (hown : Sps w base v l) (b : Option Addr) (m c : Nat) (l2 : List Sp) (hx : act.eval x = .slice b m c) (hr : SpsRd w b m l2) (hmc : b = none → c = 0)
    (hl : (l.length + m) * 24 ≤ 140737488355328) (hbase : base ≤ w.heap.size)
    (h : ∀ v' w', Sps w' base v' (l ++ l2) → w.grownBy w' v.ownBlock → wpList Tryz.prog ops Q rest (act.put o.dst v') w') : wpList Tryz.prog ops Q (o :: rest) act w := by
  refine wpList_plain hgd fun K hK => ?_
  obtain ⟨v', w', hrun, h2, h3⟩ := run_append_spsL w o.type base v l hown b m c l2 hr hmc hl hbase
  unfold Oper.wp
  simp only [execOp, ho, resolve, invoke, builtin, Sem.run_bind, Sem.run_pure, Result.andThen_ok, List.map_toArray, List.map_cons, List.map_nil, hs, hx, hrun]
  exact hK _ _ (h v' w' h2 h3)
theorem Sps.empty (w : World) : Sps (w.alloc (.cells #[] 62)) w.heap.size (.slice (some ⟨w.heap.size, 0, none⟩) 0 0) [] :=
  ⟨World.ownsRow_lit (base := w.heap.size) (e := 62) (size := 3) w #[] 0 (Nat.le_refl _) (Nat.zero_le _) rfl⟩

end Go.Proofs.YtidihfhgnjkmaaaGreat
