/- append at a step of a region that draws its order; what a draw leaves as it was. -/
import Derived.Test.YteoopoabemeanaaGreatDoorBase
namespace Go.Proofs.YteoopoabemeanaaGreatDoor
open Go.RowKit

theorem wp_append_rd {w : World} {o : Oper} {act : Act} {K : Act → World → Prop} {Q : Exit → Act → World → Prop} (s x : Operand)
    (ho : o.op = .call { callee := .builtin .append, args := #[s, x], argTypes := #[44, 44] })
    (base : Nat) (a : Option Addr) (n cap : Nat) (xs : List Nat) (hs : act.eval s = .slice a n cap) (hown : Own w base a n cap xs) (b : Option Addr) (m c : Nat) (ys : List Nat) (hx : act.eval x = .slice b m c) (hr : Rd w b m ys) (hmc : b = none → c = 0)
    (hbytes : n + m ≤ 140737488355328) (hbase : base ≤ w.heap.size)
    (h : ∀ a' cap' w', Own w' base a' (n + m) cap' (xs ++ ys) → w.grownBy w' (Value.ownBlock (.slice a n cap)) → Below base w w' → K (act.put o.dst (.slice a' (n + m) cap')) w') : o.wp Tryz.prog act w K Q := by
  obtain ⟨a', cap', w', hrun, h2, h3, h4⟩ := run_append_rd w o.type base a n cap xs hown b m c ys hr hmc hbytes hbase
  unfold Oper.wp execOp
  simp only [ho, resolve, invoke, builtin, Sem.run_bind, Sem.run_pure, Result.andThen_ok, List.map_toArray, List.map_cons, List.map_nil, hs, hx, hrun]
  exact h a' cap' w' h2 h3 h4

/-- At a step of a region that draws its order. -/
theorem step_append_rd {w : World} {ops : Array Oper} {o : Oper} {act : Act} {K : Act → World → Prop} {Q : Exit → Act → World → Prop} {E : Prop} (hgd : o.guard = none) (s x : Operand)
    (ho : o.op = .call { callee := .builtin .append, args := #[s, x], argTypes := #[44, 44] })
    (base : Nat) (a : Option Addr) (n cap : Nat) (xs : List Nat) (hs : act.eval s = .slice a n cap) (hown : Own w base a n cap xs) (b : Option Addr) (m c : Nat) (ys : List Nat) (hx : act.eval x = .slice b m c) (hr : Rd w b m ys) (hmc : b = none → c = 0)
    (hbytes : n + m ≤ 140737488355328) (hbase : base ≤ w.heap.size)
    (k : Nat) (hk : n + m = k) (zs : List Nat) (hz : xs ++ ys = zs)
    (h : ∀ a' cap' w', Own w' base a' k cap' zs → w.grownBy w' (Value.ownBlock (.slice a n cap)) → Below base w w' → K (act.put o.dst (.slice a' k cap')) w') : if Region.wanted o (yielded ops act.tmps) = true then Oper.wp Tryz.prog o act w K Q else E := by
  rw [if_pos (by simp [Region.wanted, hgd])]
  subst hk hz
  exact wp_append_rd s x ho base a n cap xs hs hown b m c ys hx hr hmc hbytes hbase h

theorem Rd.drew {w : World} {a : Option Addr} {len : Nat} {bs : List Nat} (h : Rd w a len bs) : Rd w.drew a len bs := ⟨h.size, h.byte, h.cells⟩
theorem Own.drew {w : World} {base : Nat} {a : Option Addr} {len cap : Nat} {bs : List Nat} (h : Own w base a len cap bs) : Own w.drew base a len cap bs := ⟨h.row, h.byte⟩

theorem Own.empty2 (w : World) (o : Obj) : Own ((w.alloc o).alloc (.cells #[] 5)) (w.heap.size + 1) (some ⟨w.heap.size + 1, 0, none⟩) 0 0 [] := by
  have h := Own.new (w.alloc o) (w.heap.size + 1) #[] [] (by simp) rfl (by simp) (Nat.zero_le _)
  simpa using h

theorem Own.lower {w : World} {base base' : Nat} {a : Option Addr} {len cap : Nat} {bs : List Nat} (h : Own w base a len cap bs) (hb : base' ≤ base) : Own w base' a len cap bs := by
  refine ⟨⟨h.row.1, ?_⟩, h.byte⟩
  rcases h.row.2 with hn | ⟨g, c, cur, hv, hbg, r⟩
  · exact .inl hn
  · exact .inr ⟨g, c, cur, hv, Nat.le_trans hb hbg, r⟩

end Go.Proofs.YteoopoabemeanaaGreatDoor
