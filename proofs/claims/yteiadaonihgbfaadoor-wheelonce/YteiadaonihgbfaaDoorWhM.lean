/- A wheel in memory: its tick, 64 ticks of timers, 42 sets. -/
import Derived.Test.YteiadaonihgbfaaDoorWhB
import Derived.Laws.Bits64b
import Derived.Lib.TrailingZeros
import Derived.Lib.BitFns
import Derived.Handy
namespace Go.Proofs.YteiadaonihgbfaaDoor
open Go.RowKit

structure St where
  now : Nat
  due : List Nat
  slots : List Nat
def St.cells (s : St) : List Value := .int .i64 (s.now : Int) :: ((s.due.map fun (x : Nat) => Value.int .i64 (x : Int)) ++ (s.slots.map fun (x : Nat) => Value.int .u64 (x : Int)))
structure Wh (w : World) (g : Nat) (s : St) : Prop where
  blk : Blk w g s.cells.toArray 67
  dl : s.due.length = 64
  sl : s.slots.length = 42
  nw : s.now ≤ 1099511627776
  dw : ∀ x ∈ s.due, x ≤ 1099511627776
  sw : ∀ x ∈ s.slots, x < 18446744073709551616
theorem Wh.stay {w w' : World} {g : Nat} {s : St} (h : Wh w g s) (hb : Below w.heap.size w w') : Wh w' g s := ⟨h.blk.stay hb, h.dl, h.sl, h.nw, h.dw, h.sw⟩
theorem Wh.now_cell {w : World} {g : Nat} {s : St} (h : Wh w g s) : w.cell? ⟨g, 0, none⟩ = some (.int .i64 (s.now : Int)) := h.blk.cell 0 rfl
theorem Wh.due_cell {w : World} {g : Nat} {s : St} (h : Wh w g s) {i : Nat} (hi : i < 64) : w.cell? ⟨g, 1 + i, none⟩ = some (.int .i64 ((s.due.getD i 0 : Nat) : Int)) := by
  have hl : i < s.due.length := by rw [h.dl]; exact hi
  refine h.blk.cell (1 + i) ?_
  rw [List.getElem?_toArray, St.cells, Nat.add_comm, List.getElem?_cons_succ, List.getElem?_append_left (by simpa using hl), List.getElem?_map, List.getD_eq_getElem?_getD, List.getElem?_eq_getElem hl]
  rfl
theorem Wh.slot_cell {w : World} {g : Nat} {s : St} (h : Wh w g s) {k : Nat} (hk : k < 42) : w.cell? ⟨g, 65 + k, none⟩ = some (.int .u64 ((s.slots.getD k 0 : Nat) : Int)) := by
  have hl : k < s.slots.length := by rw [h.sl]; exact hk
  refine h.blk.cell (65 + k) ?_
  rw [List.getElem?_toArray, St.cells, show 65 + k = (64 + k) + 1 from by omega, List.getElem?_cons_succ, List.getElem?_append_right (by rw [List.length_map, h.dl]; omega), List.length_map, h.dl, show 64 + k - 64 = k from by omega, List.getElem?_map, List.getD_eq_getElem?_getD, List.getElem?_eq_getElem hl]
  rfl
theorem Wh.set_now {w : World} {g : Nat} {s : St} (h : Wh w g s) {x : Nat} (hx : x ≤ 1099511627776) : Wh (w.setCell ⟨g, 0, none⟩ (.int .i64 (x : Int))) g { s with now := x } :=
  ⟨by have := h.blk.set 0 (.int .i64 (x : Int)); simpa [St.cells] using this, h.dl, h.sl, hx, h.dw, h.sw⟩
theorem Wh.set_due {w : World} {g : Nat} {s : St} (h : Wh w g s) {i x : Nat} (hi : i < 64) (hx : x ≤ 1099511627776) : Wh (w.setCell ⟨g, 1 + i, none⟩ (.int .i64 (x : Int))) g { s with due := s.due.set i x } := by
  refine ⟨?_, by simp only [List.length_set]; exact h.dl, h.sl, h.nw, fun y hy => ?_, h.sw⟩
  · have := h.blk.set (1 + i) (.int .i64 (x : Int))
    have e : (s.cells.toArray.setIfInBounds (1 + i) (.int .i64 (x : Int))) = ({ s with due := s.due.set i x } : St).cells.toArray := by
      rw [List.setIfInBounds_toArray, St.cells, St.cells, Nat.add_comm, List.set_cons_succ, List.set_append_left _ _ (by rw [List.length_map, h.dl]; exact hi), List.map_set]
    rw [e] at this
    exact this
  · rcases List.mem_or_eq_of_mem_set hy with hy | rfl
    · exact h.dw y hy
    · exact hx
theorem Wh.set_slot {w : World} {g : Nat} {s : St} (h : Wh w g s) {k x : Nat} (hx : x < 18446744073709551616) : Wh (w.setCell ⟨g, 65 + k, none⟩ (.int .u64 (x : Int))) g { s with slots := s.slots.set k x } := by
  refine ⟨?_, h.dl, by simp only [List.length_set]; exact h.sl, h.nw, h.dw, fun y hy => ?_⟩
  · have := h.blk.set (65 + k) (.int .u64 (x : Int))
    have e : (s.cells.toArray.setIfInBounds (65 + k) (.int .u64 (x : Int))) = ({ s with slots := s.slots.set k x } : St).cells.toArray := by
      rw [List.setIfInBounds_toArray, St.cells, St.cells, show 65 + k = (64 + k) + 1 from by omega, List.set_cons_succ, List.set_append_right _ _ (by rw [List.length_map, h.dl]; omega), List.length_map, h.dl, show 64 + k - 64 = k from by omega, List.map_set]
    rw [e] at this
    exact this
  · rcases List.mem_or_eq_of_mem_set hy with hy | rfl
    · exact h.sw y hy
    · exact hx
theorem Wh.free {w : World} {g : Nat} {s : St} (h : Wh w g s) (i : Nat) : w.frozen? ⟨g, i, none⟩ = false := h.blk.free i
/-- How many bits part two ticks. -/
def slotN (now at_ : Nat) : Nat := if at_ ≤ now then 0 else Lib.bitLen (at_ ^^^ now)
end Go.Proofs.YteiadaonihgbfaaDoor
