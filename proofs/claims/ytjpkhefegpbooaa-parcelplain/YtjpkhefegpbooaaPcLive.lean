/- grapevinelaw13: live. -/
import Derived.Test.YtjpkhefegpbooaaPp2
namespace Go.Proofs.Ytjpkhefegpbooaa
open Go.RowKit

theorem live_chk : chk ⟨2, 1, 0, 7, 5, 300, [], []⟩ = 0 := by decide
theorem live_put : putD ⟨2, 1, 0, 7, 5, 300, [], []⟩ = [2, 1, 5, 172, 2] := by decide +kernel
set_option maxRecDepth 100000 in
theorem law_live13 (w : World) : Calls Try.prog 9 #[] w fun e w' => e = .returned (.bool true) ∧ Below w.heap.size w w' := by
  have HC : Hid (chk ⟨2, 1, 0, 7, 5, 300, [], []⟩ = 0) := live_chk
  go_enter Try.func9, Try.ntmps9
  go_wp2_with fail
  refine (pc_Put_2 1 0 7 5 300 [] [] none 0 0 none 0 0 w ⟨⟨rfl, .inl rfl⟩, ⟨rfl, .inl rfl, fun q hq => by cases hq⟩, by omega, by omega, by omega, by omega⟩ HC.out).mono ?_
  rintro e w1 ⟨⟨b, m, c, rfl, ho⟩, hb1⟩
  have ho' := ho
  rw [live_put] at ho'
  rw [HC.out]
  have HB1 : Hid (Below w.heap.size w w1) := hb1
  have hm : m = 5 := ho'.size.symm
  subst hm
  have hs := conv_rd ho'.rd c
  rw [show str [2, 1, 5, 172, 2] = ⟨#[2, 1, 5, 172, 2]⟩ from rfl] at hs
  clear ho ho' hb1
  go_wp2
  go_ret
  exact ⟨rfl, HB1.out⟩
end Go.Proofs.Ytjpkhefegpbooaa
