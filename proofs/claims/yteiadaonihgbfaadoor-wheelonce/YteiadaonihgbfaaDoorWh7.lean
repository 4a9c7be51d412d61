/- wheel: At; a nil wheel. -/
import Derived.Test.YteiadaonihgbfaaDoorWh6
namespace Go.Proofs.YteiadaonihgbfaaDoor
open Go.RowKit

def atV (s : St) (id : Int) : Nat := if hasW s id = true then s.due.getD (id - 1).toNat 0 else 0
set_option maxRecDepth 100000 in
set_option maxHeartbeats 2000000 in
theorem wh_At (w : World) (g : Nat) (s : St) (id : Int) (h : Wh w g s) :
    Calls Tryd.prog 23 #[.pointer (some ⟨g, 0, none⟩), .int .i64 id] w fun e w' => e = .returned (.tuple #[.int .i64 (atV s id : Int), .bool (hasW s id)]) ∧ ∃ n, w' = w.drewN n := by
  have HW0 : Hid (Wh w g s) := h
  obtain ⟨R, HR⟩ : ∃ R, Hid (R = atV s id) := ⟨_, rfl⟩
  rw [← HR.out]
  clear h
  cases hh : hasW s id with
  | false =>
    have HX : Hid (R = 0) := by show _ = _; rw [HR.out, atV, hh]; rfl
    go_enter Tryd.func23, Tryd.ntmps23
    go_wp2_with fail
    refine (wh_has w g s id HW0.out).mono ?_
    rw [hh]
    rintro e w1 ⟨rfl, n, hw1⟩
    have HN : Hid (∃ n, w1 = w.drewN n) := ⟨n, hw1⟩
    clear hw1 hh
    go_wp2
    go_returns
    exact ⟨by rw [HX.out]; rfl, HN.out⟩
  | true =>
    have hn : namedB id = true := by rw [hasW, Bool.and_eq_true] at hh; exact hh.1
    have hid : 1 ≤ id ∧ id ≤ 64 := by simpa [namedB] using hn
    have HX : Hid (R = s.due.getD (id - 1).toNat 0) := by show _ = _; rw [HR.out, atV, if_pos hh]
    have HH : Hid (hasW s id = true) := hh
    obtain ⟨i, rfl⟩ : ∃ i : Nat, id = (i : Int) + 1 := ⟨(id - 1).toNat, by omega⟩
    have hi : i < 64 := by omega
    rw [show ((i : Int) + 1 - 1).toNat = i from by omega] at HX
    have q3 : IntKind.i64.wrap ((i : Int) + 1 - 1) = (i : Int) := by rw [IntKind.wrap_i64]; omega
    have hi' : (i : Int) < 64 := by omega
    have hi0 : (0 : Int) ≤ (i : Int) := by omega
    clear hh hn hid
    go_enter Tryd.func23, Tryd.ntmps23
    go_wp2_with fail
    refine (wh_has w g s ((i : Int) + 1) HW0.out).mono ?_
    rw [HH.out]
    rintro e w1 ⟨rfl, n, hw1⟩
    have HN : Hid (∃ n, w1 = w.drewN n) := ⟨n, hw1⟩
    have HW1 : Hid (Wh w1 g s) := by show Wh _ _ _; rw [hw1]; exact HW0.out.stay (below_drews (Below.refl _ _) n)
    have d1 : w1.cell? ⟨g, 1 + i, none⟩ = some (.int .i64 (R : Int)) := by rw [HX.out]; exact HW1.out.due_cell hi
    clear hw1
    go_wp2
    go_returns
    exact ⟨rfl, HN.out⟩

theorem nil_Set (w : World) (id at_ : Int) : Calls Tryd.prog 13 #[.pointer none, .int .i64 id, .int .i64 at_] w fun e w' => e = .returned (.int .i64 1) ∧ w' = w := by
  go_enter Tryd.func13, Tryd.ntmps13
  go_wp2
  go_ret
  exact ⟨rfl, rfl⟩
theorem nil_Drop (w : World) (id : Int) : Calls Tryd.prog 14 #[.pointer none, .int .i64 id] w fun e w' => e = .returned (.int .i64 1) ∧ w' = w := by
  go_enter Tryd.func14, Tryd.ntmps14
  go_wp2
  go_ret
  exact ⟨rfl, rfl⟩
theorem nil_At (w : World) (id : Int) : Calls Tryd.prog 23 #[.pointer none, .int .i64 id] w fun e w' => e = .returned (.tuple #[.int .i64 0, .bool false]) ∧ w' = w := by
  go_enter Tryd.func23, Tryd.ntmps23
  go_wp2
  go_returns
  exact ⟨rfl, rfl⟩
theorem nil_Next (w : World) : Calls Tryd.prog 20 #[.pointer none] w fun e w' => e = .returned (.tuple #[.int .i64 0, .bool false]) ∧ w' = w := by
  go_enter Tryd.func20, Tryd.ntmps20
  go_wp2
  go_returns
  exact ⟨rfl, rfl⟩
theorem nil_Advance (w : World) (to : Int) : Calls Tryd.prog 15 #[.pointer none, .int .i64 to] w fun e w' => e = .returned (.tuple #[.slice none 0 0, .int .i64 1]) ∧ w' = w := by
  go_enter Tryd.func15, Tryd.ntmps15
  go_wp2
  go_returns
  exact ⟨rfl, rfl⟩
theorem nil_Ids (w : World) : Calls Tryd.prog 16 #[.pointer none] w fun e w' => e = .returned (.slice none 0 0) ∧ w' = w := by
  go_enter Tryd.func16, Tryd.ntmps16
  go_wp2
  go_ret
  exact ⟨rfl, rfl⟩
theorem nil_Fork (w : World) : Calls Tryd.prog 18 #[.pointer none] w fun e w' => e = .returned (.pointer none) ∧ w' = w := by
  go_enter Tryd.func18, Tryd.ntmps18
  go_wp2
  go_ret
  exact ⟨rfl, rfl⟩
end Go.Proofs.YteiadaonihgbfaaDoor
