/- The reference's Four: a number in four bytes, the lowest first, in a row of its own. -/
import Derived.Test.YtoijhlnadaipoaaDoorSums
namespace Go.Proofs.YtoijhlnadaipoaaDoor
open Go.RowKit

theorem ref_Four (n : Nat) (hn : n < 4294967296) (w : World) (base : Nat) (hB : base ≤ w.heap.size) :
    Calls Tryd.prog 64 #[.int .u32 (n : Int)] w fun e w' => ∃ a cap, e = .returned (.slice a 4 cap) ∧ a ≠ none ∧ Own w' base a 4 cap (Crc.four n) ∧ Below w.heap.size w w' := by
  go_enter Tryd.func64, Tryd.ntmps64
  go_wp2
  go_ret
  refine ⟨some ⟨w.heap.size, 0, none⟩, 4, rfl, by simp, ?_, (Below.refl _ _).alloc (Nat.le_refl _) _⟩
  refine Own.new w base _ (Crc.four n) (Crc.four_byte n) ?_ hB (by show 4 ≤ maxLen; unfold maxLen; omega)
  have e : n / 16777216 % 256 = n / 16777216 := Nat.mod_eq_of_lt (by omega)
  simp only [Crc.four, vb, List.map_cons, List.map_nil, e]
  rfl
end Go.Proofs.YtoijhlnadaipoaaDoor
