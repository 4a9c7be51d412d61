/- wheel: has, Drop, At, Now. -/
import Derived.Test.YteiadaonihgbfaaDoorWh3
namespace Go.Proofs.YteiadaonihgbfaaDoor
open Go.RowKit

def hasS (s : St) (i : Nat) : Bool := decide (s.slots.getD (slotN s.now (s.due.getD i 0)) 0 &&& 2 ^ i ≠ 0)
def hasW (s : St) (id : Int) : Bool := namedB id && hasS s (id - 1).toNat

set_option maxRecDepth 100000 in
set_option maxHeartbeats 4000000 in
theorem wh_has (w : World) (g : Nat) (s : St) (id : Int) (h : Wh w g s) :
    Calls Tryd.prog 32 #[.pointer (some ⟨g, 0, none⟩), .int .i64 id] w fun e w' => e = .returned (.bool (hasW s id)) ∧ ∃ n, w' = w.drewN n := by
  obtain ⟨R, HR⟩ : ∃ R, Hid (R = hasW s id) := ⟨_, rfl⟩
  rw [← HR.out]
  have HW : Hid (∀ n, Wh (w.drewN n) g s) := fun n => h.stay (below_drews (Below.refl _ _) n)
  cases hn : namedB id with
  | false =>
    have HX : Hid (R = false) := by show _ = _; rw [HR.out, hasW, hn]; rfl
    have HN : Hid (∀ w', Calls Tryd.prog 28 #[.int .i64 id] w' fun e w'' => e = .returned (.bool false) ∧ w'' = w') := fun w' => by have := wh_named w' id; rw [hn] at this; exact this
    clear hn h
    go_enter Tryd.func32, Tryd.ntmps32
    go_wp2
    go_quiet ((go_at_call 28; exact Calls.quiet_of_same (HN.out _)))
    go_wp2
    go_ret
    exact ⟨by rw [HX.out]; rfl, _, rfl⟩
  | true =>
    have hid : 1 ≤ id ∧ id ≤ 64 := by simpa [namedB] using hn
    obtain ⟨i, rfl⟩ : ∃ i : Nat, id = (i : Int) + 1 := ⟨(id - 1).toNat, by omega⟩
    have hi : i < 64 := by omega
    have HN : Hid (∀ w', Calls Tryd.prog 28 #[.int .i64 ((i : Int) + 1)] w' fun e w'' => e = .returned (.bool true) ∧ w'' = w') := fun w' => by have := wh_named w' ((i : Int) + 1); rw [hn] at this; exact this
    obtain ⟨t, ht⟩ : ∃ t, t = s.due.getD i 0 := ⟨_, rfl⟩
    have htl : t ≤ 1099511627776 := by rw [ht]; exact h.due_le i
    obtain ⟨k, hk⟩ : ∃ k, k = slotN s.now t := ⟨_, rfl⟩
    have HK : Hid (k = slotN s.now t) := hk
    have hk42 : k < 42 := by rw [hk]; exact slot_lt h.nw htl
    obtain ⟨z, hz⟩ : ∃ z, z = s.slots.getD k 0 := ⟨_, rfl⟩
    have hzl : z < 18446744073709551616 := by rw [hz]; exact h.slot_le k
    have HPW : Hid (2 ^ i < 18446744073709551616) := pow_lt i hi
    obtain ⟨b, hb⟩ : ∃ b, b = 2 ^ i := ⟨_, rfl⟩
    have HB : Hid (b = 2 ^ i) := hb
    have q1 : bits .and .u64 (z : Int) (b : Int) = ((z &&& b : Nat) : Int) := u64_and_nat z b hzl (by rw [hb]; exact HPW.out)
    obtain ⟨y, hy⟩ : ∃ y, y = z &&& b := ⟨_, rfl⟩
    rw [← hy] at q1
    have HX : Hid (R = decide (y ≠ 0)) := by
      show _ = _
      rw [HR.out, hasW, hn, Bool.true_and, hasS, show ((i : Int) + 1 - 1).toNat = i from by omega, ← ht, ← hk, ← hz, ← hb, ← hy]
    have d1 : w.cell? ⟨g, 1 + i, none⟩ = some (.int .i64 (t : Int)) := by rw [ht]; exact h.due_cell hi
    have d2 : w.cell? ⟨g, 65 + k, none⟩ = some (.int .u64 (z : Int)) := by rw [hz]; exact h.slot_cell hk42
    have q3 : IntKind.i64.wrap ((i : Int) + 1 - 1) = (i : Int) := by rw [IntKind.wrap_i64]; omega
    have hi' : (i : Int) < 64 := by omega
    have hi0 : (0 : Int) ≤ (i : Int) := by omega
    have hk' : (k : Int) < 42 := by omega
    have hk0 : (0 : Int) ≤ (k : Int) := by omega
    have HSL : Hid (∀ n, Calls Tryd.prog 30 #[.pointer (some ⟨g, 0, none⟩), .int .i64 (t : Int)] (w.drewN n) fun e w'' => e = .returned (.int .i64 (k : Int)) ∧ w'' = w.drewN n) := fun n => by rw [HK.out]; exact wh_slot _ g s t (HW.out n) htl
    have HAL : Hid (∀ w', Calls Tryd.prog 31 #[.int .i64 ((i : Int) + 1)] w' fun e w'' => e = .returned (.int .u64 (b : Int)) ∧ w'' = w') := fun w' => by rw [HB.out]; exact wh_alone w' i hi
    rcases (show y = 0 ∨ y ≠ 0 from by omega) with hy0 | hy0
    · subst hy0
      have HX2 : Hid (R = false) := by show _ = _; rw [HX.out]; rfl
      clear hn h ht hk hz hb hid hy HX
      go_enter Tryd.func32, Tryd.ntmps32
      go_wp2
      go_quiet (first | (go_at_call 28; exact Calls.quiet_of_same (HN.out _)) | (go_at_call 30; exact Calls.quiet_of_same (HSL.out _)) | (go_at_call 31; exact Calls.quiet_of_same (HAL.out _)))
      go_wp2
      go_ret
      exact ⟨by rw [HX2.out]; rfl, _, rfl⟩
    · have HX2 : Hid (R = true) := by show _ = _; rw [HX.out, decide_eq_true hy0]
      have hy1 : ((y : Int) != 0) = true := by rw [bne_iff_ne]; omega
      have HY1 : Hid (((y : Int) != 0) = true) := hy1
      clear hn h ht hk hz hb hid hy HX
      go_enter Tryd.func32, Tryd.ntmps32
      go_wp2
      go_quiet (first | (go_at_call 28; exact Calls.quiet_of_same (HN.out _)) | (go_at_call 30; exact Calls.quiet_of_same (HSL.out _)) | (go_at_call 31; exact Calls.quiet_of_same (HAL.out _)))
      go_wp2
      go_ret
      exact ⟨by rw [HX2.out, ← HY1.out]; rfl, _, rfl⟩

theorem wh_Now (w : World) (g : Nat) (s : St) (h : Wh w g s) : Calls Tryd.prog 17 #[.pointer (some ⟨g, 0, none⟩)] w fun e w' => e = .returned (.int .i64 (s.now : Int)) ∧ w' = w := by
  have c0 := h.now_cell
  clear h
  go_enter Tryd.func17, Tryd.ntmps17
  go_wp2
  go_ret
  exact ⟨rfl, rfl⟩
theorem wh_Now_nil (w : World) : Calls Tryd.prog 17 #[.pointer none] w fun e w' => e = .returned (.int .i64 0) ∧ w' = w := by
  go_enter Tryd.func17, Tryd.ntmps17
  go_wp2
  go_ret
  exact ⟨rfl, rfl⟩

def dropE (s : St) (id : Int) : Int := if hasW s id = true then 0 else 8
def dropD (s : St) (id : Int) : St := if hasW s id = true then takeS s (id - 1).toNat else s
set_option maxRecDepth 100000 in
set_option maxHeartbeats 2000000 in
theorem wh_Drop (w : World) (g : Nat) (s : St) (id : Int) (h : Wh w g s) :
    Calls Tryd.prog 14 #[.pointer (some ⟨g, 0, none⟩), .int .i64 id] w fun e w' => e = .returned (.int .i64 (dropE s id)) ∧ Hid (Wh w' g (dropD s id)) ∧ w.grownBy w' (some g) := by
  have HW0 : Hid (Wh w g s) := h
  obtain ⟨E, HE⟩ : ∃ E, Hid (E = dropE s id) := ⟨_, rfl⟩
  obtain ⟨D, HD⟩ : ∃ D, Hid (D = dropD s id) := ⟨_, rfl⟩
  rw [← HE.out, ← HD.out]
  clear h
  go_enter Tryd.func14, Tryd.ntmps14
  go_wp2_with fail
  refine (wh_has w g s id HW0.out).mono ?_
  rintro e w1 ⟨rfl, n, hw1⟩
  have HW1 : Hid (Wh w1 g s) := by show Wh _ _ _; rw [hw1]; exact HW0.out.stay (below_drews (Below.refl _ _) n)
  have HG1 : Hid (w.grownBy w1 (some g)) := by rw [hw1]; exact ⟨rfl, rfl, rfl, Nat.le_refl _, fun _ _ _ => rfl⟩
  clear hw1
  cases hh : hasW s id with
  | false =>
    have HX : Hid (E = 8 ∧ D = s) := ⟨by rw [HE.out, dropE, hh]; rfl, by rw [HD.out, dropD, hh]; rfl⟩
    go_wp2
    go_ret
    exact ⟨by rw [HX.out.1]; rfl, by rw [HX.out.2]; exact HW1, HG1.out⟩
  | true =>
    have hn : namedB id = true := by rw [hasW, Bool.and_eq_true] at hh; exact hh.1
    have hid : 1 ≤ id ∧ id ≤ 64 := by simpa [namedB] using hn
    have HX : Hid (E = 0 ∧ D = takeS s (id - 1).toNat) := ⟨by rw [HE.out, dropE, hh]; rfl, by rw [HD.out, dropD, hh]; rfl⟩
    obtain ⟨i, rfl⟩ : ∃ i : Nat, id = (i : Int) + 1 := ⟨(id - 1).toNat, by omega⟩
    have hi : i < 64 := by omega
    rw [show ((i : Int) + 1 - 1).toNat = i from by omega] at HX
    clear hh hn hid
    go_wp2_with fail
    refine (wh_take w1 g s i HW1.out hi).mono ?_
    rintro e w2 ⟨rfl, hw2, hg2⟩
    have HW2 : Hid (Wh w2 g (takeS s i)) := hw2.out
    have HG2 : Hid (w.grownBy w2 (some g)) := grown_trans HG1.out hg2
    clear hw2 hg2
    go_wp2
    go_ret
    exact ⟨by rw [HX.out.1]; rfl, by rw [HX.out.2]; exact HW2, HG2.out⟩
end Go.Proofs.YteiadaonihgbfaaDoor
