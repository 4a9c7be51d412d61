/- mark: Open, Count, cells that are nil; what is played ahead of the statements. -/
import Derived.Test.YtghajmcohdedlaaMk6
namespace Go.Proofs.Ytghajmcohdedlaa
open Go.RowKit

/-- May there be such cells? -/
def mayC (n : Nat) (b c : Int) : Prop := (1 ≤ c ∧ c ≤ 32) ∧ 0 ≤ b ∧ b ≤ (n : Int) - 2 * c
/-- What Open tells. -/
def OpenTold (w w' : World) (g n : Nat) (b c : Int) (e : Ending) : Prop :=
  (¬ mayC n b c ∧ e = .returned (.tuple #[.pointer none, .int .i64 2])) ∨ (mayC n b c ∧ e = .returned (.tuple #[.pointer (some ⟨w.heap.size, 0, none⟩), .int .i64 0]) ∧ Cs w' w.heap.size g b.toNat c.toNat)

set_option maxRecDepth 100000 in
set_option maxHeartbeats 1000000 in
theorem mark_Open (w : World) (base g gs : Nat) (wv : Value) (D : Dk) (b c : Int) (h : Disk w base g gs wv D) :
    Calls Try.prog 18 #[.pointer (some ⟨g, 0, none⟩), .int .i64 b, .int .i64 c] w fun e w' => Hid (OpenTold w w' g D.sure.length b c e) ∧ Below w.heap.size w w' := by
  have HD : Hid (Disk w base g gs wv D) := h
  have hsz := h.sz
  clear h
  obtain ⟨n, HN⟩ : ∃ n, Hid (n = D.sure.length) := ⟨_, rfl⟩
  rw [← HN.out] at hsz ⊢
  by_cases h1 : c < 1
  · go_enter Try.func18, Try.ntmps18
    go_wp2
    go_returns
    exact ⟨.inl ⟨by unfold mayC; omega, rfl⟩, Below.refl _ _⟩
  by_cases h2 : 32 < c
  · go_enter Try.func18, Try.ntmps18
    go_wp2
    go_returns
    exact ⟨.inl ⟨by unfold mayC; omega, rfl⟩, Below.refl _ _⟩
  by_cases h3 : b < 0
  · go_enter Try.func18, Try.ntmps18
    go_wp2
    go_returns
    exact ⟨.inl ⟨by unfold mayC; omega, rfl⟩, Below.refl _ _⟩
  obtain ⟨cn, rfl⟩ := Int.eq_ofNat_of_zero_le (show 0 ≤ c by omega)
  obtain ⟨bn, rfl⟩ := Int.eq_ofNat_of_zero_le (show 0 ≤ b by omega)
  go_enter Try.func18, Try.ntmps18
  go_wp2_with fail
  refine (disk_Size w base g gs wv D HD.out).mono ?_
  rw [← HN.out]
  rintro e w' ⟨rfl, hw⟩
  subst w'
  by_cases h4 : (n : Int) - 2 * (cn : Int) < (bn : Int)
  · go_wp2
    go_returns
    exact ⟨.inl ⟨by unfold mayC; omega, rfl⟩, Below.refl _ _⟩
  · go_wp2
    go_returns
    exact ⟨.inr ⟨by unfold mayC; omega, rfl, Blk.new _ _ _⟩, below_alloc _ _⟩
theorem nilC_Get (i : Int) (w : World) : Calls Try.prog 35 #[.pointer none, .int .i64 i] w fun e w' => e = .returned (.tuple #[.int .i64 0, .bool false]) ∧ w' = w := by
  go_enter Try.func35, Try.ntmps35
  go_wp2
  go_returns
  exact ⟨rfl, rfl⟩
theorem nilC_Open (i v : Int) (w : World) : Calls Try.prog 18 #[.pointer none, .int .i64 i, .int .i64 v] w fun e w' => e = .returned (.tuple #[.pointer none, .int .i64 1]) ∧ w' = w := by
  go_enter Try.func18, Try.ntmps18
  go_wp2
  go_returns
  exact ⟨rfl, rfl⟩

end Go.Proofs.Ytghajmcohdedlaa
