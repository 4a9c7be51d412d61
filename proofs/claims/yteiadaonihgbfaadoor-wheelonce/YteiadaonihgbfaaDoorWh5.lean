/- wheel: New, Ids, Fork. -/
import Derived.Test.YteiadaonihgbfaaDoorWh4
import Derived.Deep.MidRow
namespace Go.Proofs.YteiadaonihgbfaaDoor
open Go.RowKit

def newS (n : Nat) : St := ⟨n, List.replicate 64 0, List.replicate 42 0⟩
theorem new_cells (n : Nat) : (newS n).cells = .int .i64 (n : Int) :: (List.replicate 64 (Value.int .i64 0) ++ List.replicate 42 (Value.int .u64 0)) := by
  unfold newS St.cells
  rw [List.map_replicate, List.map_replicate]
  rfl
theorem run_build_wheel (w : World) (i : Int) : (Instr.build 67 #[(0, .int .i64 i)]).run Tryd.prog w = .ok (.agg (Value.int .i64 i :: (List.replicate 64 (Value.int .i64 0) ++ List.replicate 42 (Value.int .u64 0))).toArray) w := by
  kernel_rfl
theorem wpList_build {w : World} {ops : Array Oper} {rest : List Oper} {o : Oper} {a : Act} {Q : Exit → Act → World → Prop} (hgd : o.guard = none) (ty : TypeId) (k : Nat) (x : Operand) (ho : o.op = .build ty #[(k, x)]) (u : Value) (hx : a.eval x = u) (v : Value)
    (hrun : (Instr.build ty #[(k, u)]).run Tryd.prog w = .ok v w) (h : wpList Tryd.prog ops Q rest (a.put o.dst v) w) : wpList Tryd.prog ops Q (o :: rest) a w := by
  refine wpList_plain hgd fun K hK => ?_
  unfold Oper.wp
  simp only [execOp, ho, Sem.run_bind, Sem.run_pure, Result.andThen_ok, List.map_toArray, List.map_cons, List.map_nil, hx, hrun]
  exact hK _ _ h
/-- What New tells. -/
def NewTold (w w' : World) (n : Int) (e : Ending) : Prop :=
  (¬ (0 ≤ n ∧ n ≤ 1099511627776) ∧ e = .returned (.tuple #[.pointer none, .int .i64 2])) ∨
  ((0 ≤ n ∧ n ≤ 1099511627776) ∧ e = .returned (.tuple #[.pointer (some ⟨w.heap.size, 0, none⟩), .int .i64 0]) ∧ Wh w' w.heap.size (newS n.toNat))
theorem Wh.fresh (w : World) (n : Nat) (hn : n ≤ 1099511627776) : Wh (w.alloc (.cells (newS n).cells.toArray 67)) w.heap.size (newS n) :=
  ⟨Blk.new _ _ _, by simp [newS], by simp [newS], hn, fun x hx => by rw [List.eq_of_mem_replicate hx]; omega, fun x hx => by rw [List.eq_of_mem_replicate hx]; omega⟩

set_option maxRecDepth 100000 in
set_option maxHeartbeats 2000000 in
theorem wh_New (w : World) (n : Int) : Calls Tryd.prog 12 #[.int .i64 n] w fun e w' => Hid (NewTold w w' n e) ∧ Below w.heap.size w w' := by
  by_cases h1 : n < 0
  · go_enter Tryd.func12, Tryd.ntmps12
    go_wp2
    go_returns
    exact ⟨.inl ⟨by omega, rfl⟩, Below.refl _ _⟩
  · by_cases h2 : 1099511627776 < n
    · go_enter Tryd.func12, Tryd.ntmps12
      go_wp2
      go_returns
      exact ⟨.inl ⟨by omega, rfl⟩, Below.refl _ _⟩
    · obtain ⟨m, rfl⟩ := Int.eq_ofNat_of_zero_le (show 0 ≤ n by omega)
      obtain ⟨C, HC⟩ : ∃ C, Hid (C = (newS m).cells) := ⟨_, rfl⟩
      have HR : Hid ((Instr.build 67 #[(0, .int .i64 (m : Int))]).run Tryd.prog w = .ok (.agg C.toArray) w) := by show _ = _; rw [HC.out, new_cells]; exact run_build_wheel w m
      go_enter Tryd.func12, Tryd.ntmps12
      go_wp2_with (guard_target =~ wpList _ _ _ (Oper.mk (some 11) _ _ _ _ _ :: _) _ _; refine wpList_build rfl 67 0 (.tmp 10) rfl (.int .i64 (m : Int)) rfl (.agg C.toArray) HR.out ?_)
      go_returns
      refine ⟨.inr ⟨⟨by omega, by omega⟩, rfl, ?_⟩, below_alloc _ _⟩
      rw [HC.out, Int.toNat_natCast]
      exact Wh.fresh w m (by omega)
end Go.Proofs.YteiadaonihgbfaaDoor
