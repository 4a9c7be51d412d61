/- A byte is stored into a row of one's own. -/
import Derived.Test.YteoopoabemeanaaGreatDoorBase
namespace Go.Proofs.YteoopoabemeanaaGreatDoor
open Go.RowKit

theorem Own.form {w : World} {base : Nat} {a : Option Addr} {len cap : Nat} {bs : List Nat} (h : Own w base a len cap bs) (hl : 0 < len) : ∃ g, a = some ⟨g, 0, none⟩ ∧ base ≤ g ∧ g < w.heap.size := by
  rcases h.row.2 with ⟨_, h0⟩ | ⟨g, c, cur, hv, hb, hg, _⟩
  · omega
  · simp only [Value.slice.injEq] at hv
    exact ⟨g, hv.1, hb, (Array.getElem?_eq_some_iff.1 hg).1⟩

theorem vb_set (bs : List Nat) (j v : Nat) : (vb bs).set j (.int .u8 (v : Int)) = vb (bs.set j v) := by
  unfold vb
  rw [List.map_set]

theorem Own.set {w : World} {base g len cap : Nat} {bs : List Nat} (h : Own w base (some ⟨g, 0, none⟩) len cap bs) (j v : Nat) (hv : v < 256) : Own (w.setCell ⟨g, j, none⟩ (.int .u8 (v : Int))) base (some ⟨g, 0, none⟩) len cap (bs.set j v) := by
  refine ⟨?_, ?_⟩
  · have := (h.row.stored j (.int .u8 (v : Int))).1
    rw [vb_set] at this
    exact this
  · intro x hx
    rcases List.mem_or_eq_of_mem_set hx with hx | rfl
    · exact h.byte x hx
    · exact hv

theorem Own.cell {w : World} {base g len cap : Nat} {bs : List Nat} (h : Own w base (some ⟨g, 0, none⟩) len cap bs) (j : Nat) (hj : j < len) : w.cell? ⟨g, j, none⟩ = some (.int .u8 ((bs.getD j 0 : Nat) : Int)) := by
  rw [h.row.cellAt j (by omega)]
  exact vb_at (by rw [h.size]; exact hj)

theorem Own.free {w : World} {base g len cap : Nat} {bs : List Nat} (h : Own w base (some ⟨g, 0, none⟩) len cap bs) (j : Nat) : w.frozen? ⟨g, j, none⟩ = false := h.row.frozenAt j

end Go.Proofs.YteoopoabemeanaaGreatDoor
