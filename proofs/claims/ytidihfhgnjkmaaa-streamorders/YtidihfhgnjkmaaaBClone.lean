/- bytes.Clone. -/
import Derived.Test.YtidihfhgnjkmaaaBase
namespace Go.Proofs.Ytidihfhgnjkmaaa
open Go.RowKit

set_option maxRecDepth 100000 in
theorem bytes_Clone (a : Option Addr) (n c : Nat) (bs : List Nat) (w : World) (hr : Rd w a n bs) (hl : n ≤ 140737488351232) :
    Calls Try.prog 41 #[.slice a n c] w fun e w' => ∃ a' c', e = .returned (.slice a' n c') ∧ Own w' w.heap.size a' n c' bs ∧ Below w.heap.size w w' := by
  have HR : Hid (Rd w a n bs) := hr
  cases a with
  | none =>
    have hz : n = 0 := by
      rcases hr.cells with h0 | ⟨_, _, h, _⟩
      · exact h0
      · cases h
    have HB : Hid (bs = []) := List.eq_nil_of_length_eq_zero (by rw [hr.size]; exact hz)
    subst hz
    have hq : ∀ W : World, (binOp .eql 40 (.slice none 0 c) (.slice none 0 0)).run Try.prog W = .ok (.bool true) W := fun W => by
      simp only [binOp]
      rw [Sem.run_bind, run_equal_slice_nil W _ _ _ _ _ Try.underlying40]
      rfl
    clear hr
    go_enter Try.func41, Try.ntmps41
    go_wp2
    go_ret
    rw [HB.out]
    exact ⟨none, 0, rfl, ⟨World.ownsRow_nil _ _ _ _, fun x hx => (by cases hx)⟩, Below.refl _ _⟩
  | some ad =>
    have hq : ∀ W : World, (binOp .eql 40 (.slice (some ad) n c) (.slice none 0 0)).run Try.prog W = .ok (.bool false) W := fun W => by
      simp only [binOp]
      rw [Sem.run_bind, run_equal_slice_nil W _ _ _ _ _ Try.underlying40]
      rfl
    clear hr
    go_enter Try.func41, Try.ntmps41
    go_wp2_with (at_builtin; refine wpList_append_rd rfl (.tmp 5) (.tmp 6) rfl w.heap.size (some ⟨w.heap.size, 0, none⟩) 0 0 [] rfl (Own.empty w) (some ad) n c bs rfl (HR.out.below (below_alloc _ _)) (by simp) (by omega) (by simp) ?_)
    intro a5 c5 w5 ho5 hg5 hb5
    have HO5 : Hid (Own w5 w.heap.size a5 n c5 bs) := by
      show Own _ _ _ _ _ _
      simpa using ho5
    have HB5 : Hid (Below w.heap.size w w5) := (below_alloc w (.cells #[] 5)).trans hb5
    clear ho5 hg5 hb5
    go_wp2
    go_ret
    refine ⟨a5, c5, ?_, HO5.out, HB5.out⟩
    simp
end Go.Proofs.Ytidihfhgnjkmaaa
