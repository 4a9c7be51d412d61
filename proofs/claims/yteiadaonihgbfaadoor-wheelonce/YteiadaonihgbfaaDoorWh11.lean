/- slices.insertionSortCmpFunc, with the closure that ordered sorts by. -/
import Derived.Test.YteiadaonihgbfaaDoorWh10
namespace Go.Proofs.YteiadaonihgbfaaDoor
open Go.RowKit

def swapL (l : List Nat) (j : Nat) : List Nat := (l.set (j + 1) (l.getD j 0)).set j (l.getD (j + 1) 0)
def insIn (cf : Nat → Nat → Int) (a : Nat) : Nat → List Nat → List Nat
  | 0, l => l
  | j + 1, l => if a < j + 1 ∧ cf (l.getD (j + 1) 0) (l.getD j 0) < 0 then insIn cf a j (swapL l j) else l
def insOut (cf : Nat → Nat → Int) (a : Nat) : List Nat → List Nat → List Nat
  | [], l => l
  | i :: is, l => insOut cf a is (insIn cf a i l)
def insS (cf : Nat → Nat → Int) (a b : Nat) (l : List Nat) : List Nat := insOut cf a (List.range' (a + 1) (b - (a + 1))) l
/-- How a wheel compares two timers. -/
def cfW (s : St) (x y : Nat) : Int := cmpI (s.due.getD (x - 1) 0 : Nat) (s.due.getD (y - 1) 0 : Nat)
theorem swap_mem {l : List Nat} {j : Nat} (h : ∀ x ∈ l, 1 ≤ x ∧ x ≤ 64) (hj : j + 1 < l.length) : ∀ x ∈ swapL l j, 1 ≤ x ∧ x ≤ 64 := by
  intro x hx
  have g1 : l.getD j 0 ∈ l := by rw [List.getD_eq_getElem?_getD, List.getElem?_eq_getElem (by omega : j < l.length)]; exact List.getElem_mem _
  have g2 : l.getD (j + 1) 0 ∈ l := by rw [List.getD_eq_getElem?_getD, List.getElem?_eq_getElem hj]; exact List.getElem_mem _
  rcases List.mem_or_eq_of_mem_set hx with hx | rfl
  · rcases List.mem_or_eq_of_mem_set hx with hx | rfl
    · exact h x hx
    · exact h _ g1
  · exact h _ g2
theorem swap_len (l : List Nat) (j : Nat) : (swapL l j).length = l.length := by unfold swapL; rw [List.length_set, List.length_set]
theorem Wh.grown {w w' : World} {g k : Nat} {s : St} (h : Wh w g s) (hg : w.grownBy w' (some k)) (hne : g ≠ k) : Wh w' g s := ⟨h.blk.grown hg (by simpa using hne), h.dl, h.sl, h.nw, h.dw, h.sw⟩
/-- A row of numbers of one's own in block kb. -/
structure Row (w : World) (base kb n c : Nat) (l : List Nat) : Prop where
  own : w.ownsRow base 3 1 (.slice (some ⟨kb, 0, none⟩) n c) n (vi l)
  nums : ∀ x ∈ l, 1 ≤ x ∧ x ≤ 64
  len : l.length = n
theorem Row.cell {w : World} {base kb n c : Nat} {l : List Nat} (h : Row w base kb n c l) {j : Nat} (hj : j < n) : w.cell? ⟨kb, j, none⟩ = some (.int .i64 ((l.getD j 0 : Nat) : Int)) := by
  have hl : j < l.length := by rw [h.len]; exact hj
  rw [h.own.cellAt j (by omega), vi, List.getElem?_map, List.getD_eq_getElem?_getD, List.getElem?_eq_getElem hl]
  rfl
theorem Row.num {w : World} {base kb n c : Nat} {l : List Nat} (h : Row w base kb n c l) {j : Nat} (hj : j < n) : 1 ≤ l.getD j 0 ∧ l.getD j 0 ≤ 64 := by
  have hl : j < l.length := by rw [h.len]; exact hj
  refine h.nums _ ?_
  rw [List.getD_eq_getElem?_getD, List.getElem?_eq_getElem hl]
  exact List.getElem_mem _
theorem Row.base {w : World} {base kb n c : Nat} {l : List Nat} (h : Row w base kb n c l) : base ≤ kb ∧ kb < w.heap.size := h.own.lt kb rfl
theorem Row.drews {w : World} {base kb n c : Nat} {l : List Nat} (h : Row w base kb n c l) (q : Nat) : Row (w.drewN q) base kb n c l := ⟨own_stay h.own (fun _ _ => rfl), h.nums, h.len⟩
theorem Row.free {w : World} {base kb n c : Nat} {l : List Nat} (h : Row w base kb n c l) (i : Nat) : w.frozen? ⟨kb, i, none⟩ = false := by
  rcases h.own.2 with ⟨h1, _⟩ | ⟨k, c', cur, h1, _, h3, _⟩
  · cases h1
  · simp only [Value.slice.injEq, Option.some.injEq, Addr.mk.injEq, and_true] at h1
    rw [h1.1]
    exact frozen_of_row w k i cur _ h3
theorem Row.swap {w : World} {base kb n c : Nat} {l : List Nat} (h : Row w base kb n c l) {j : Nat} (hj : j + 1 < n) :
    Row ((w.setCell ⟨kb, j + 1, none⟩ (.int .i64 ((l.getD j 0 : Nat) : Int))).setCell ⟨kb, j, none⟩ (.int .i64 ((l.getD (j + 1) 0 : Nat) : Int))) base kb n c (swapL l j) := by
  refine ⟨?_, swap_mem h.nums (by rw [h.len]; exact hj), by rw [swap_len, h.len]⟩
  have h1 := (h.own.stored (j + 1) (.int .i64 ((l.getD j 0 : Nat) : Int))).1
  have h2 := (h1.stored j (.int .i64 ((l.getD (j + 1) 0 : Nat) : Int))).1
  have e : vi (swapL l j) = ((vi l).set (j + 1) (.int .i64 ((l.getD j 0 : Nat) : Int))).set j (.int .i64 ((l.getD (j + 1) 0 : Nat) : Int)) := by simp [vi, swapL, List.map_set]
  rw [e]
  exact h2
end Go.Proofs.YteiadaonihgbfaaDoor
