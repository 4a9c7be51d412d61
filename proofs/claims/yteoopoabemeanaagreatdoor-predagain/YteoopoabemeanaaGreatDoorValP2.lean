/- Five cells of one block; what stays. -/
import Derived.Test.YteoopoabemeanaaGreatDoorValPut
namespace Go.Proofs.YteoopoabemeanaaGreatDoor
set_option maxRecDepth 100000
open Go.RowKit

/-- Five cells of one block, written one behind the other. -/
theorem cells5 {w : World} {g : Nat} {u0 u1 u2 u3 u4 : Value} (v0 v1 v2 v3 v4 : Value) (k0 : w.cell? ⟨g, 0, none⟩ = some u0) (k1 : w.cell? ⟨g, 1, none⟩ = some u1) (k2 : w.cell? ⟨g, 2, none⟩ = some u2) (k3 : w.cell? ⟨g, 3, none⟩ = some u3) (k4 : w.cell? ⟨g, 4, none⟩ = some u4) :
    (((((w.setCell ⟨g, 0, none⟩ v0).setCell ⟨g, 1, none⟩ v1).setCell ⟨g, 2, none⟩ v2).setCell ⟨g, 3, none⟩ v3).setCell ⟨g, 4, none⟩ v4).cell? ⟨g, 0, none⟩ = some v0 ∧ (((((w.setCell ⟨g, 0, none⟩ v0).setCell ⟨g, 1, none⟩ v1).setCell ⟨g, 2, none⟩ v2).setCell ⟨g, 3, none⟩ v3).setCell ⟨g, 4, none⟩ v4).cell? ⟨g, 1, none⟩ = some v1 ∧ (((((w.setCell ⟨g, 0, none⟩ v0).setCell ⟨g, 1, none⟩ v1).setCell ⟨g, 2, none⟩ v2).setCell ⟨g, 3, none⟩ v3).setCell ⟨g, 4, none⟩ v4).cell? ⟨g, 2, none⟩ = some v2 ∧ (((((w.setCell ⟨g, 0, none⟩ v0).setCell ⟨g, 1, none⟩ v1).setCell ⟨g, 2, none⟩ v2).setCell ⟨g, 3, none⟩ v3).setCell ⟨g, 4, none⟩ v4).cell? ⟨g, 3, none⟩ = some v3 ∧ (((((w.setCell ⟨g, 0, none⟩ v0).setCell ⟨g, 1, none⟩ v1).setCell ⟨g, 2, none⟩ v2).setCell ⟨g, 3, none⟩ v3).setCell ⟨g, 4, none⟩ v4).cell? ⟨g, 4, none⟩ = some v4 := by
  refine ⟨?_, ?_, ?_, ?_, ?_⟩
  · rw [World.cell?_setCell_other _ _ _ _ (by simp), World.cell?_setCell_other _ _ _ _ (by simp), World.cell?_setCell_other _ _ _ _ (by simp), World.cell?_setCell_other _ _ _ _ (by simp)]
    refine World.cell?_setCell_same _ _ _ (u := u0) ?_
    exact k0
  · rw [World.cell?_setCell_other _ _ _ _ (by simp), World.cell?_setCell_other _ _ _ _ (by simp), World.cell?_setCell_other _ _ _ _ (by simp)]
    refine World.cell?_setCell_same _ _ _ (u := u1) ?_
    rw [World.cell?_setCell_other _ _ _ _ (by simp)]
    exact k1
  · rw [World.cell?_setCell_other _ _ _ _ (by simp), World.cell?_setCell_other _ _ _ _ (by simp)]
    refine World.cell?_setCell_same _ _ _ (u := u2) ?_
    rw [World.cell?_setCell_other _ _ _ _ (by simp), World.cell?_setCell_other _ _ _ _ (by simp)]
    exact k2
  · rw [World.cell?_setCell_other _ _ _ _ (by simp)]
    refine World.cell?_setCell_same _ _ _ (u := u3) ?_
    rw [World.cell?_setCell_other _ _ _ _ (by simp), World.cell?_setCell_other _ _ _ _ (by simp), World.cell?_setCell_other _ _ _ _ (by simp)]
    exact k3
  · refine World.cell?_setCell_same _ _ _ (u := u4) ?_
    rw [World.cell?_setCell_other _ _ _ _ (by simp), World.cell?_setCell_other _ _ _ _ (by simp), World.cell?_setCell_other _ _ _ _ (by simp), World.cell?_setCell_other _ _ _ _ (by simp)]
    exact k4

/-- A new box of five cells, seen from later worlds. -/
theorem box5 {w w' : World} {t : TypeId} (v : Val) (hb : Below (w.alloc (.cells v.cells t)).heap.size (w.alloc (.cells v.cells t)) w') :
    (w'.cell? ⟨w.heap.size, 0, none⟩ = some (.int .i64 v.kind) ∧ w'.cell? ⟨w.heap.size, 1, none⟩ = some (.int .i64 v.whole) ∧ w'.cell? ⟨w.heap.size, 2, none⟩ = some (.string v.words) ∧ w'.cell? ⟨w.heap.size, 3, none⟩ = some (.bool v.truth) ∧ w'.cell? ⟨w.heap.size, 4, none⟩ = some (.complex .f64 v.re v.im)) ∧
    (w'.frozen? ⟨w.heap.size, 0, none⟩ = false ∧ w'.frozen? ⟨w.heap.size, 1, none⟩ = false ∧ w'.frozen? ⟨w.heap.size, 2, none⟩ = false ∧ w'.frozen? ⟨w.heap.size, 3, none⟩ = false ∧ w'.frozen? ⟨w.heap.size, 4, none⟩ = false) := by
  have hlt : w.heap.size < (w.alloc (.cells v.cells t)).heap.size := by simp
  refine ⟨⟨?_, ?_, ?_, ?_, ?_⟩, ⟨?_, ?_, ?_, ?_, ?_⟩⟩
  · exact (hb.cell (p := ⟨w.heap.size, 0, none⟩) hlt).trans (by simp [Val.cells])
  · exact (hb.cell (p := ⟨w.heap.size, 1, none⟩) hlt).trans (by simp [Val.cells])
  · exact (hb.cell (p := ⟨w.heap.size, 2, none⟩) hlt).trans (by simp [Val.cells])
  · exact (hb.cell (p := ⟨w.heap.size, 3, none⟩) hlt).trans (by simp [Val.cells])
  · exact (hb.cell (p := ⟨w.heap.size, 4, none⟩) hlt).trans (by simp [Val.cells])
  · exact (hb.frozen (p := ⟨w.heap.size, 0, none⟩) hlt).trans (by simp)
  · exact (hb.frozen (p := ⟨w.heap.size, 1, none⟩) hlt).trans (by simp)
  · exact (hb.frozen (p := ⟨w.heap.size, 2, none⟩) hlt).trans (by simp)
  · exact (hb.frozen (p := ⟨w.heap.size, 3, none⟩) hlt).trans (by simp)
  · exact (hb.frozen (p := ⟨w.heap.size, 4, none⟩) hlt).trans (by simp)

/-- The cells of a new block stay. -/
theorem kept5 {w w1 : World} {c0 c1 c2 c3 c4 : Value} (h : Below (w.alloc (.cells #[c0, c1, c2, c3, c4] 40)).heap.size (w.alloc (.cells #[c0, c1, c2, c3, c4] 40)) w1) :
    (w1.cell? ⟨w.heap.size, 0, none⟩ = some c0 ∧ w1.cell? ⟨w.heap.size, 1, none⟩ = some c1 ∧ w1.cell? ⟨w.heap.size, 2, none⟩ = some c2 ∧ w1.cell? ⟨w.heap.size, 3, none⟩ = some c3 ∧ w1.cell? ⟨w.heap.size, 4, none⟩ = some c4) ∧ w.heap.size < w1.heap.size := by
  have hs : w.heap.size < (w.alloc (.cells #[c0, c1, c2, c3, c4] 40)).heap.size := by simp
  refine ⟨⟨?_, ?_, ?_, ?_, ?_⟩, Nat.lt_of_lt_of_le hs h.size⟩
  · exact (h.cell (p := ⟨w.heap.size, 0, none⟩) hs).trans (by simp)
  · exact (h.cell (p := ⟨w.heap.size, 1, none⟩) hs).trans (by simp)
  · exact (h.cell (p := ⟨w.heap.size, 2, none⟩) hs).trans (by simp)
  · exact (h.cell (p := ⟨w.heap.size, 3, none⟩) hs).trans (by simp)
  · exact (h.cell (p := ⟨w.heap.size, 4, none⟩) hs).trans (by simp)
theorem keptAt {w w1 : World} {b i : Nat} {c : Value} (hb : Below w.heap.size w w1) (h : w.cell? ⟨b, i, none⟩ = some c) : w1.cell? ⟨b, i, none⟩ = some c :=
  (hb.cell (p := ⟨b, i, none⟩) (World.block_lt_of_cell? w _ h)).trans h

end Go.Proofs.YteoopoabemeanaaGreatDoor
