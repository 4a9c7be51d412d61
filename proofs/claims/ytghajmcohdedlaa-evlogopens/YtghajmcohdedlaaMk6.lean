/- mark: Put, Open, Count. -/
import Derived.Test.YtghajmcohdedlaaMk5
namespace Go.Proofs.Ytghajmcohdedlaa
open Go.RowKit

theorem read_range (s : List Nat) : 0 ≤ (readB s).1 ∧ (readB s).1 ≤ 4611686018427387904 := by
  unfold readB
  split
  · rename_i h
    show 0 ≤ (KeyM.take s 1).1 ∧ _
    exact ⟨by omega, h.1.2⟩
  · exact ⟨Int.le_refl _, by decide⟩
theorem look_range (D : Dk) (p : Int) : 0 ≤ (lookB D p).1 ∧ (lookB D p).1 ≤ 4611686018427387904 := by
  unfold lookB
  split
  · exact read_range _
  · exact ⟨Int.le_refl _, by decide⟩
theorem stand_range (D : Dk) (b i : Nat) : (0 ≤ (standB D b i).1 ∧ (standB D b i).1 ≤ 1) ∧ 0 ≤ (standB D b i).2.1 ∧ (standB D b i).2.1 ≤ 4611686018427387904 := by
  unfold standB
  split
  · exact ⟨⟨(by decide : (0 : Int) ≤ 1), (by decide : (1 : Int) ≤ 1)⟩, look_range _ _⟩
  · exact ⟨⟨(by decide : (0 : Int) ≤ 0), (by decide : (0 : Int) ≤ 1)⟩, look_range _ _⟩
/-- A cell's value is changed: the error, the disk. -/
def putCE (D : Dk) (b m : Nat) (i v : Int) : Int :=
  if D.down = true then 10 else if (0 ≤ i ∧ i < (m : Int)) ∧ 0 ≤ v ∧ v ≤ 1099511627776 then (if (standB D b i.toNat).2.1 = 4611686018427387904 then 6 else replE D ((b : Int) + 2 * (i.toNat : Int) + (1 - (standB D b i.toNat).1)) ((standB D b i.toNat).2.1 + 1) v) else 2
def putCD (D : Dk) (b m : Nat) (i v : Int) : Dk :=
  if D.down = true then D else if (0 ≤ i ∧ i < (m : Int)) ∧ 0 ≤ v ∧ v ≤ 1099511627776 then (if (standB D b i.toNat).2.1 = 4611686018427387904 then D else replD D ((b : Int) + 2 * (i.toNat : Int) + (1 - (standB D b i.toNat).1)) ((standB D b i.toNat).2.1 + 1) v) else D

end Go.Proofs.Ytghajmcohdedlaa
