/- A text as bytes. -/
import Derived.Test.YteoopoabemeanaaGreatDoorBase
import Derived.Lib.AppendStr
namespace Go.Proofs.YteoopoabemeanaaGreatDoor
set_option maxRecDepth 100000
open Go.RowKit

/-- A text's bytes. -/
def bytesOf (s : ByteArray) : List Nat := s.data.toList.map fun u => u.toNat

theorem bytesOf_byte (s : ByteArray) : ∀ x ∈ bytesOf s, x < 256 := by
  intro x hx
  obtain ⟨u, _, rfl⟩ := List.mem_map.1 hx
  exact u.toNat_lt
theorem bytesOf_length (s : ByteArray) : (bytesOf s).length = s.size := by
  rw [bytesOf, List.length_map, Array.length_toList]; rfl
theorem str_bytesOf (s : ByteArray) : str (bytesOf s) = s := by
  apply ByteArray.ext
  apply Array.toList_inj.1
  simp only [str, bytesOf, List.map_map]
  conv => rhs; rw [← List.map_id s.data.toList]
  apply List.map_congr_left
  intro u _
  simp
theorem vb_bytesOf (s : ByteArray) : Lib.strCells s = vb (bytesOf s) := by
  simp only [Lib.strCells, vb, bytesOf, List.map_map]
  rfl
end Go.Proofs.YteoopoabemeanaaGreatDoor
