/- slices.stableCmpFunc and SortStableFunc of fewer than 20. -/
import Derived.Test.YteiadaonihgbfaaDoorWh12
namespace Go.Proofs.YteiadaonihgbfaaDoor
open Go.RowKit

set_option maxHeartbeats 2000000 in
theorem ins_nil (w : World) (f : Value) : Calls Tryd.prog 48 #[.slice none 0 0, .int .i64 0, .int .i64 0, f] w fun e w' => e = .returned (.tuple #[]) ∧ w' = w := by
  go_enter Tryd.func48, Tryd.ntmps48
  go_wp2
  go_loopw [8] (fun t8 wr => t8 = .int .i64 1 ∧ wr = w) (fun _ _ => 0)
  case atStart => exact ⟨rfl, rfl⟩
  case round =>
    obtain ⟨rfl, rfl⟩ := hrel
    go_wp2
    go_returns
    exact ⟨rfl, rfl⟩

set_option maxRecDepth 100000 in
set_option maxHeartbeats 4000000 in
/-- A sort of fewer than 20: whatever the insertion sort does of it. -/
theorem stable_small (w : World) (v f : Value) (n : Nat) (hn : n < 20) (Q : World → Prop) (h : Calls Tryd.prog 48 #[v, .int .i64 0, .int .i64 (n : Int), f] w fun e w' => e = .returned (.tuple #[]) ∧ Q w') :
    Calls Tryd.prog 46 #[v, .int .i64 (n : Int), f] w fun e w' => e = .returned (.tuple #[]) ∧ Q w' := by
  have h20 : ¬ (20 : Int) ≤ (n : Int) := by omega
  have h20b : ¬ (20 : Int) < (n : Int) := by omega
  have HQ : Hid (Calls Tryd.prog 48 #[v, .int .i64 0, .int .i64 (n : Int), f] w fun e w' => e = .returned (.tuple #[]) ∧ Q w') := h
  clear h
  go_enter Tryd.func46, Tryd.ntmps46
  go_wp2
  go_loopw [7, 8] (fun t7 t8 wr => t7 = .int .i64 0 ∧ t8 = .int .i64 20 ∧ wr = w) (fun _ _ _ => 0)
  case atStart => exact ⟨rfl, rfl, rfl⟩
  case round =>
    obtain ⟨rfl, rfl, rfl⟩ := hrel
    go_wp2_with fail
    refine HQ.out.mono ?_
    rintro e w1 ⟨rfl, hq⟩
    have HQ1 : Hid (Q w1) := hq
    clear hq
    go_wp2
    go_loopw [6] (fun t6 wr => t6 = .int .i64 20 ∧ wr = w1) (fun _ _ => 0)
    case atStart => exact ⟨rfl, rfl⟩
    case round =>
      obtain ⟨rfl, rfl⟩ := hrel
      go_wp2
      go_returns
      exact ⟨rfl, HQ1.out⟩
end Go.Proofs.YteiadaonihgbfaaDoor
