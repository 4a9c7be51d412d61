/- cmp.Compare; wheel: how ordered compares. -/
import Derived.Test.YteiadaonihgbfaaDoorWh8
namespace Go.Proofs.YteiadaonihgbfaaDoor
open Go.RowKit

theorem cmp_nan (w : World) (x : Int) : Calls Tryd.prog 47 #[.int .i64 x] w fun e w' => e = .returned (.bool false) ∧ w' = w := by
  have q : (x != x) = false := by simp
  go_enter Tryd.func47, Tryd.ntmps47
  go_wp2
  go_ret
  exact ⟨by simp, rfl⟩
def cmpI (x y : Int) : Int := if x < y then -1 else if y < x then 1 else 0
set_option maxHeartbeats 2000000 in
theorem cmp_Compare (w : World) (x y : Int) : Calls Tryd.prog 42 #[.int .i64 x, .int .i64 y] w fun e w' => e = .returned (.int .i64 (cmpI x y)) ∧ w' = w := by
  obtain ⟨R, HR⟩ : ∃ R, Hid (R = cmpI x y) := ⟨_, rfl⟩
  rw [← HR.out]
  go_enter Tryd.func42, Tryd.ntmps42
  go_wp2_with fail
  refine (cmp_nan w x).mono ?_
  rintro e w1 ⟨he, hw1⟩
  subst he
  rw [hw1]
  clear hw1 w1
  go_wp2_with fail
  refine (cmp_nan w y).mono ?_
  rintro e w1 ⟨he, hw1⟩
  subst he
  rw [hw1]
  clear hw1 w1
  by_cases h1 : x < y
  · have HX : Hid (R = -1) := by show _ = _; rw [HR.out, cmpI, if_pos h1]
    go_wp2
    go_ret
    exact ⟨by rw [HX.out]; rfl, rfl⟩
  · by_cases h2 : y < x
    · have HX : Hid (R = 1) := by show _ = _; rw [HR.out, cmpI, if_neg h1, if_pos h2]
      go_wp2
      go_ret
      exact ⟨by rw [HX.out]; rfl, rfl⟩
    · have HX : Hid (R = 0) := by show _ = _; rw [HR.out, cmpI, if_neg h1, if_neg h2]
      go_wp2
      go_ret
      exact ⟨by rw [HX.out]; rfl, rfl⟩

set_option maxRecDepth 100000 in
set_option maxHeartbeats 2000000 in
/-- The closure that ordered sorts by: bound to a box of the wheel's pointer. -/
theorem wh_cmp (w : World) (g bx : Nat) (s : St) (i j : Nat) (hi : i < 64) (hj : j < 64) (h : Wh w g s) (hb : w.cell? ⟨bx, 0, none⟩ = some (.pointer (some ⟨g, 0, none⟩))) :
    Calls Tryd.prog 41 #[.int .i64 ((i : Int) + 1), .int .i64 ((j : Int) + 1), .pointer (some ⟨bx, 0, none⟩)] w fun e w' => e = .returned (.int .i64 (cmpI (s.due.getD i 0 : Nat) (s.due.getD j 0 : Nat))) ∧ ∃ n, w' = w.drewN n := by
  obtain ⟨t, ht⟩ : ∃ t, t = s.due.getD i 0 := ⟨_, rfl⟩
  obtain ⟨u, hu⟩ : ∃ u, u = s.due.getD j 0 := ⟨_, rfl⟩
  rw [← ht, ← hu]
  have d1 : w.cell? ⟨g, 1 + i, none⟩ = some (.int .i64 (t : Int)) := by rw [ht]; exact h.due_cell hi
  have d2 : w.cell? ⟨g, 1 + j, none⟩ = some (.int .i64 (u : Int)) := by rw [hu]; exact h.due_cell hj
  have q3 : IntKind.i64.wrap ((i : Int) + 1 - 1) = (i : Int) := by rw [IntKind.wrap_i64]; omega
  have q4 : IntKind.i64.wrap ((j : Int) + 1 - 1) = (j : Int) := by rw [IntKind.wrap_i64]; omega
  have hi' : (i : Int) < 64 := by omega
  have hi0 : (0 : Int) ≤ (i : Int) := by omega
  have hj' : (j : Int) < 64 := by omega
  have hj0 : (0 : Int) ≤ (j : Int) := by omega
  obtain ⟨R, HR⟩ : ∃ R, Hid (R = cmpI (t : Int) (u : Int)) := ⟨_, rfl⟩
  have HC : Hid (∀ w', Calls Tryd.prog 42 #[.int .i64 (t : Int), .int .i64 (u : Int)] w' fun e w'' => e = .returned (.int .i64 R) ∧ w'' = w') := fun w' => by rw [HR.out]; exact cmp_Compare w' t u
  rw [← HR.out]
  clear h ht hu
  go_enter Tryd.func41, Tryd.ntmps41
  go_wp2
  go_quiet ((go_at_call 42; exact Calls.quiet_of_same (HC.out _)))
  go_wp2
  go_ret
  exact ⟨rfl, _, rfl⟩
end Go.Proofs.YteiadaonihgbfaaDoor
