/- The package-level table seal.steps: what the row's list gives of it, and a world that holds it. -/
import Derived.Test.YtbloomepdchjhaaDoorSealP
import Derived.Test.YtbloomepdchjhaaDoorSpanP
import Derived.Test.YtbloomepdchjhaaDoorCards
import Derived.Test.YtbloomepdchjhaaDoorTie
import Derived.Deep.DeepHandedRow
import Derived.Lib.LaidTab
namespace Go.Proofs.YtbloomepdchjhaaDoor
open Go.ChangeShapes Go.WideShapes Go.ChangeAt Go.RowKit

theorem gTab : Tryd.prog.globalNamed "grapevine/seal.steps" = some 0 := by kernel_rfl
theorem gTabType : (Tryd.prog.globals[0]?).map (·.type) = some 135 := by kernel_rfl
theorem cellsTab : Tryd.prog.cellsOf 135 = 16 := by kernel_rfl
theorem cellsU32 : Tryd.prog.cellsOf 72 = 1 := by kernel_rfl

/-- What the row's list gives: the table's cells hold its sixteen numbers. -/
theorem table {W : World} (h : laidMetH Tryd.prog [("grapevine/seal.steps", Rows.laid_grapevine_seal_steps)] W) : Tab W := by
  have ht : Lib.TabIs Tryd.prog W "grapevine/seal.steps" .u32 (Crc.tab.map fun (n : Nat) => (n : Int)) :=
    Lib.tabIs_of_head (rest := []) gTab gTabType Tryd.underlying135 Tryd.underlying72 cellsU32 cellsTab h
  intro i hi
  have := ht.cell gTab i (by simpa [Crc.tab] using hi)
  rw [this]
  simp only [List.getD_eq_getElem?_getD, List.getElem?_map]
  cases Crc.tab[i]? <;> rfl

/-- The table (block 0) holds what its initialiser lays. -/
def layTab (w : World) : World :=
  { w with heap := w.heap.modify 0 fun
      | .cells _ t frozen => .cells #[.int .u32 0, .int .u32 274646895, .int .u32 549293790, .int .u32 820201905, .int .u32 1098587580, .int .u32 1361435347, .int .u32 1640403810, .int .u32 1905808397, .int .u32 2197175160, .int .u32 2460548119, .int .u32 2722870694, .int .u32 2987750089, .int .u32 3280807620, .int .u32 3553878443, .int .u32 3811616794, .int .u32 4084100981] t frozen
      | o => o }
end Go.Proofs.YtbloomepdchjhaaDoor
