/- slices.rotateCmpFunc, walked over a row of one's own. -/
import Derived.Test.YteiadaonihgbfaaDoorWhS2
namespace Go.Proofs.YteiadaonihgbfaaDoor
open Go.RowKit

theorem rot_gt (m i j k : Nat) (h1 : i ≤ m) (h2 : j < i) (h3 : 1 ≤ j) : swpF (m - i) m j (rotF (m - (i - j)) m (m + j) k) = rotF (m - i) m (m + j) k := by
  unfold swpF rotF
  repeat' split
  all_goals omega
theorem rot_lt (m i j k : Nat) (h1 : i ≤ m) (h2 : i < j) (h3 : 1 ≤ i) : swpF (m - i) (m + j - i) i (rotF (m - i) m (m + (j - i)) k) = rotF (m - i) m (m + j) k := by
  unfold swpF rotF
  repeat' split
  all_goals omega
theorem rot_eq (m i k : Nat) (h1 : i ≤ m) : swpF (m - i) m i k = rotF (m - i) m (m + i) k := by
  unfold swpF rotF
  repeat' split
  all_goals omega

set_option maxRecDepth 100000 in
set_option maxHeartbeats 4000000 in
theorem wh_rot (w : World) (base kb n c : Nat) (l : List Nat) (f : Value) (a m b : Nat) (hr : Row w base kb n c l) (ham : a < m) (hmb : m < b) (hbn : b ≤ n) (hn : n ≤ 64) :
    Calls Tryd.prog 50 #[.slice (some ⟨kb, 0, none⟩) n c, .int .i64 (a : Int), .int .i64 (m : Int), .int .i64 (b : Int), f] w fun e w' => e = .returned (.tuple #[]) ∧ Hid (∃ l', Row w' base kb n c l' ∧ By l l' (rotF a m b)) ∧ w.grownBy w' (some kb) := by
  have HR0 : Hid (Row w base kb n c l) := hr
  clear hr
  go_enter Tryd.func50, Tryd.ntmps50
  go_wp2
  go_loopw [10, 11] (fun t10 t11 wr => ∃ (i j : Nat) (l1 : List Nat), 1 ≤ i ∧ 1 ≤ j ∧ i ≤ m ∧ a + i ≤ m ∧ m + j ≤ b ∧ t10 = .int .i64 (i : Int) ∧ t11 = .int .i64 (j : Int) ∧ Hid (∀ l', By l1 l' (rotF (m - i) m (m + j)) → By l l' (rotF a m b)) ∧ Hid (Row wr base kb n c l1) ∧ Hid (w.grownBy wr (some kb))) (fun t10 t11 _ => (intOf t10).toNat + (intOf t11).toNat)
  case atStart => exact ⟨m - a, b - m, l, by omega, by omega, by omega, by omega, by omega, by go_num, by go_num, fun l' h => by rwa [show m - (m - a) = a from by omega, show m + (b - m) = b from by omega] at h, HR0, grown_refl _ _⟩
  case round =>
    obtain ⟨i, j, l1, hi1, hj1, him, hai, hmj, rfl, rfl, HBY, HRW, HG⟩ := hrel
    obtain ⟨X, hX⟩ : ∃ X, X = m - i := ⟨_, rfl⟩
    have HX : Hid (X = m - i) := hX
    have q1 : (m : Int) - (i : Int) = (X : Int) := by omega
    have q2 : IntKind.i64.wrap (X : Int) = (X : Int) := by rw [IntKind.wrap_i64]; omega
    by_cases hij : i = j
    · subst hij
      have hne : ((i : Int) != (i : Int)) = false := by simp
      have HC := wh_swr wr base kb n c l1 f X m i HRW.out (by omega) (by omega) hn
      clear hX
      go_wp2_with fail
      refine HC.mono ?_
      rintro e w2 ⟨rfl, hl, hg⟩
      clear HC
      obtain ⟨l2, hr2, hb2⟩ := hl.out
      have HF : Hid (∃ l', Row w2 base kb n c l' ∧ By l l' (rotF a m b)) := ⟨l2, hr2, HBY.out l2 (hb2.congr (fun k => by rw [HX.out]; exact rot_eq m i k him))⟩
      have HG2 : Hid (w.grownBy w2 (some kb)) := grown_trans HG.out hg
      clear hl hg hr2 hb2
      go_wp2
      go_returns
      exact ⟨rfl, HF, HG2.out⟩
    · have hne : ((i : Int) != (j : Int)) = true := by rw [bne_iff_ne]; omega
      have hne2 : ((i : Int) == (j : Int)) = false := by rw [beq_eq_false_iff_ne]; omega
      by_cases hgt : j < i
      · have hgt' : (j : Int) < (i : Int) := by omega
        have HC := wh_swr wr base kb n c l1 f X m j HRW.out (by omega) (by omega) hn
        clear hX
        go_wp2_with fail
        refine HC.mono ?_
        rintro e w2 ⟨rfl, hl, hg⟩
        clear HC
        obtain ⟨l2, hr2, hb2⟩ := hl.out
        have HR2 : Hid (Row w2 base kb n c l2) := hr2
        have HB2 : Hid (∀ l', By l2 l' (rotF (m - (i - j)) m (m + j)) → By l l' (rotF a m b)) := fun l' h => HBY.out l' ((hb2.trans h).congr (fun k => by rw [HX.out]; exact rot_gt m i j k him hgt hj1))
        have HG2 : Hid (w.grownBy w2 (some kb)) := grown_trans HG.out hg
        clear hl hg hr2 hb2
        go_wp2
        go_roundw
        case rel => exact ⟨i - j, j, l2, by omega, by omega, by omega, by omega, by omega, by go_num, by go_num, HB2, HR2, HG2⟩
        case measure => simp [intOf]; omega
      · have hgt' : ¬ (j : Int) < (i : Int) := by omega
        obtain ⟨S, hS⟩ : ∃ S, S = m + j := ⟨_, rfl⟩
        have q3 : (m : Int) + (j : Int) = (S : Int) := by omega
        have q4 : IntKind.i64.wrap (S : Int) = (S : Int) := by rw [IntKind.wrap_i64]; omega
        obtain ⟨Y, hY⟩ : ∃ Y, Y = m + j - i := ⟨_, rfl⟩
        have HY : Hid (Y = m + j - i) := hY
        have q5 : (S : Int) - (i : Int) = (Y : Int) := by omega
        have q6 : IntKind.i64.wrap (Y : Int) = (Y : Int) := by rw [IntKind.wrap_i64]; omega
        have HC := wh_swr wr base kb n c l1 f X Y i HRW.out (by omega) (by omega) hn
        clear hX hS hY
        go_wp2_with fail
        refine HC.mono ?_
        rintro e w2 ⟨rfl, hl, hg⟩
        clear HC
        obtain ⟨l2, hr2, hb2⟩ := hl.out
        have HR2 : Hid (Row w2 base kb n c l2) := hr2
        have HB2 : Hid (∀ l', By l2 l' (rotF (m - i) m (m + (j - i))) → By l l' (rotF a m b)) := fun l' h => HBY.out l' ((hb2.trans h).congr (fun k => by rw [HX.out, HY.out]; exact rot_lt m i j k him (by omega) hi1))
        have HG2 : Hid (w.grownBy w2 (some kb)) := grown_trans HG.out hg
        clear hl hg hr2 hb2
        go_wp2
        go_roundw
        case rel => exact ⟨i, j - i, l2, by omega, by omega, by omega, by omega, by omega, by go_num, by go_num, HB2, HR2, HG2⟩
        case measure => simp [intOf]; omega
end Go.Proofs.YteiadaonihgbfaaDoor
