/- evlog: what live's disks tell. -/
import Derived.Test.YtghajmcohdedlaaEvP2
namespace Go.Proofs.Ytghajmcohdedlaa
open Go.RowKit

def live0 : Dk := newD 52
def live2 : Dk := writeD (syncD live0) 3 (headL 1 0)
def live3 : Dk := writeD live2 4 (layE 2 true (KeyM.key (KeyM.up (5 : Int)) ++ [97, 98]))
def live5 : Dk := crashD (syncD live3) []
theorem live11_a : (getB live0 1 1 0).1 = ((0 : Nat) : Int) := by decide +kernel
theorem live11_b : headsF live0 1 3 = [] := by kernel_rfl
theorem live11_c : wipeL live0 16 3 false = (live0, false, 0) := by kernel_rfl
theorem live11_d : syncE live0 = 0 ∧ writeE (syncD live0) 3 (headL 1 0) = 0 ∧ (syncD live0).waits.length < 1000000000 ∧ live2.waits.length < 1000000000 ∧ writeE live2 4 (layE 2 true (KeyM.key (KeyM.up (5 : Int)) ++ [97, 98])) = 0 ∧ shutE live0 0 = 0 ∧ live0.age = 0 ∧ live3.age = 0 ∧ syncE live3 = 0 ∧ (syncD live3).age < 1000000000 ∧ live5.down = false ∧ live5.sure.length = 52 ∧ live5.waits.length = 0 ∧ live5.age = 1 := by decide +kernel
theorem live11_e : (getB live5 1 1 0).1 = ((0 : Nat) : Int) := by decide +kernel
theorem live11_f : headsF live5 1 3 = [⟨3, 1, 0, 1⟩] := by kernel_rfl
theorem live11_g : readAllF live5 [⟨3, 1, 0, 1⟩] 0 [] = ([⟨3, 1, 5, 2⟩], 5, [(5, [97, 98])]) := by kernel_rfl
theorem live11_h : wipeL live5 14 5 false = (live5, false, 0) := by kernel_rfl
end Go.Proofs.Ytghajmcohdedlaa
