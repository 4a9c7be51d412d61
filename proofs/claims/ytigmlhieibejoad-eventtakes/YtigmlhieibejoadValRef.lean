/- The reference's Take of a value. -/
import Derived.Test.YtigmlhieibejoadValWhole
import Derived.Test.YtigmlhieibejoadRefTexts
namespace Go.Proofs.Ytigmlhieibejoad
open Go.RowKit

def toldSide (r : Int × Nat × Nat) : Ending := .returned (.tuple #[.int .i64 r.1, .int .i64 (r.2.1 : Int), .int .i64 (r.2.2 : Int)])

theorem ref_side (a : Option Addr) (len cap : Nat) (bs : List Nat) (x : Int) (w : World) (hr : Rd w a len bs) (hl : len ≤ 9223372036854775000) (hx : (-9223372036854775808 : Int) ≤ x ∧ x ≤ 9223372036854775807) :
    Calls Try.prog 29 #[.slice a len cap, .int .i64 x] w fun e w' => e = toldSide (partAt bs x) ∧ w' = w := by
  have HR : Hid (Rd w a len bs) := hr
  have HX : Hid ((-9223372036854775808 : Int) ≤ x ∧ x ≤ 9223372036854775807) := hx
  have hsm := take_small bs x hr.byte
  obtain ⟨n, k, f, hT⟩ : ∃ n k f, Leb.take bs x = (n, k, f) := ⟨_, _, _, rfl⟩
  rw [hT] at hsm
  have HT : Hid (Leb.take bs x = (n, k, f)) := hT
  clear hr hx hT
  go_enter Try.func29, Try.ntmps29
  go_wp2_with fail
  refine (ref_TakeInt a len cap bs x w HR.out hl HX.out).mono ?_
  rw [HT.out]
  by_cases hf : f = 0
  · subst hf
    rw [toldI_ok]
    rintro e w1 ⟨rfl, rfl⟩
    by_cases h1 : unfold n < -1048576
    · have HP : Hid (partAt bs x = (0, 0, 6)) := partAt_limit HT.out (.inl h1)
      go_wp2
      go_ret3
      exact ⟨by rw [HP.out]; rfl, rfl⟩
    · by_cases h2 : 1048576 < unfold n
      · have HP : Hid (partAt bs x = (0, 0, 6)) := partAt_limit HT.out (.inr h2)
        go_wp2
        go_ret3
        exact ⟨by rw [HP.out]; rfl, rfl⟩
      · have HP : Hid (partAt bs x = (unfold n, k, 0)) := partAt_ok HT.out (by omega)
        go_wp2
        go_ret3
        exact ⟨by rw [HP.out]; rfl, rfl⟩
  · rw [toldI_err n k f hf]
    rintro e w1 ⟨rfl, rfl⟩
    have hf' : (f : Int) ≠ 0 := by omega
    have HP : Hid (partAt bs x = (0, 0, f)) := partAt_err HT.out hf
    go_wp2
    go_ret3
    exact ⟨by rw [HP.out]; rfl, rfl⟩

/-- At no place of the bytes, or at their end. -/
theorem ref_Take_out (a : Option Addr) (len cap : Nat) (bs : List Nat) (x : Int) (w : World) (hr : Rd w a len bs) (hl : len ≤ 9223372036854775000) (h : x < 0 ∨ (len : Int) ≤ x) :
    Calls Try.prog 15 #[.slice a len cap, .int .i64 x] w fun e w' => e = toldV (valAt bs x) ∧ Below w.heap.size w w' := by
  have hcx : ∀ (a : Addr) (m : Mode) (W : World) (x y : Nat), (store a (.complex .f64 x y) m).run Try.prog W = stored Try.prog W a (.complex .f64 x y) m := fun a m W x y => run_store _ _ _ _ _ rfl
  have hs := hr.size
  clear hr
  by_cases h1 : x < 0
  · have HV : Hid (valAt bs x = (Val.zero, 0, 2)) := by show _ = _; unfold valAt; rw [hs, if_pos (.inl h1)]
    go_enter Try.func15, Try.ntmps15
    go_wp2
    go_returns
    exact ⟨by rw [HV.out]; rfl, below_alloc w _⟩
  · by_cases h2 : (len : Int) < x
    · have HV : Hid (valAt bs x = (Val.zero, 0, 2)) := by show _ = _; unfold valAt; rw [hs, if_pos (.inr h2)]
      go_enter Try.func15, Try.ntmps15
      go_wp2
      go_returns
      exact ⟨by rw [HV.out]; rfl, below_alloc w _⟩
    · obtain rfl : x = (len : Int) := by omega
      have HV : Hid (valAt bs (len : Int) = (Val.zero, 0, 3)) := by show _ = _; unfold valAt; rw [hs, if_neg (by omega), if_pos rfl]
      go_enter Try.func15, Try.ntmps15
      go_wp2
      go_returns
      exact ⟨by rw [HV.out]; rfl, below_alloc w _⟩

theorem rd_cell_at {w : World} {b off len : Nat} {bs : List Nat} (h : Rd w (some ⟨b, off, none⟩) len bs) (i : Nat) (hi : i < len) : w.cell? ⟨b, off + i, none⟩ = some (.int .u8 ((bs.getD i 0 : Nat) : Int)) := by
  obtain ⟨b', off', h1, h2⟩ := rd_at h i hi
  cases h1
  exact h2

set_option maxRecDepth 100000 in
set_option maxHeartbeats 1000000 in
theorem ref_Take0 (b off : Nat) (len cap : Nat) (bs : List Nat) (p : Nat) (w : World) (hr : Rd w (some ⟨b, off, none⟩) len bs) (hp : p < len) (c : Nat) (hb : bs.getD p 0 = c) (hk : c < 1 ∨ 4 < c) :
    Calls Try.prog 15 #[.slice (some ⟨b, off, none⟩) len cap, .int .i64 (p : Int)] w fun e w' => e = toldV (bodyAt c bs (p + 1)) ∧ Below w.heap.size w w' := by
  have hcx : ∀ (a : Addr) (m : Mode) (W : World) (x y : Nat), (store a (.complex .f64 x y) m).run Try.prog W = stored Try.prog W a (.complex .f64 x y) m := fun a m W x y => run_store _ _ _ _ _ rfl
  have hlt : (p : Int) < (len : Int) := by omega
  have e4 : ((p : Int) == (len : Int)) = false := by rw [beq_eq_false_iff_ne]; omega
  have g1 : ¬ (p : Int) < 0 := by omega
  have g2 : ¬ (len : Int) < (p : Int) := by omega
  have hc := rd_cell_at hr p hp
  rw [hb] at hc
  have HR : Hid (Rd w (some ⟨b, off, none⟩) len bs) := hr
  have hc' : (w.alloc (.cells Val.zero.cells 49)).cell? ⟨b, off + p, none⟩ = some (.int .u8 (c : Int)) := ((below_alloc w _).cell (p := ⟨b, off + p, none⟩) (World.block_lt_of_cell? w _ hc)).trans hc
  simp only [Val.cells, Val.zero] at hc'
  clear hr hc
  have HV : Hid (bodyAt c bs (p + 1) = (Val.zero, 0, 12)) := by show _ = _; unfold bodyAt; rw [if_neg (by omega), if_neg (by omega), if_neg (by omega), if_neg (by omega)]
  have e1 : ((c : Int) == 1) = false := by rw [beq_eq_false_iff_ne]; omega
  have e2 : ((c : Int) == 2) = false := by rw [beq_eq_false_iff_ne]; omega
  have e3 : ((c : Int) == 3) = false := by rw [beq_eq_false_iff_ne]; omega
  have e5 : ((c : Int) == 4) = false := by rw [beq_eq_false_iff_ne]; omega
  have hc256 : c < 256 := by rw [← hb]; exact getD_lt HR.out.byte p
  go_enter Try.func15, Try.ntmps15
  go_wp2
  go_returns
  exact ⟨by rw [HV.out]; rfl, below_alloc w _⟩

set_option maxRecDepth 100000 in
set_option maxHeartbeats 1000000 in
theorem ref_Take1 (b off : Nat) (len cap : Nat) (bs : List Nat) (p : Nat) (w : World) (hr : Rd w (some ⟨b, off, none⟩) len bs) (hl : len ≤ 9223372036854775000) (hp : p < len) (hb : bs.getD p 0 = 1) :
    Calls Try.prog 15 #[.slice (some ⟨b, off, none⟩) len cap, .int .i64 (p : Int)] w fun e w' => e = toldV (bodyAt 1 bs (p + 1)) ∧ Below w.heap.size w w' := by
  have hcx : ∀ (a : Addr) (m : Mode) (W : World) (x y : Nat), (store a (.complex .f64 x y) m).run Try.prog W = stored Try.prog W a (.complex .f64 x y) m := fun a m W x y => run_store _ _ _ _ _ rfl
  have hlt : (p : Int) < (len : Int) := by omega
  have e4 : ((p : Int) == (len : Int)) = false := by rw [beq_eq_false_iff_ne]; omega
  have g1 : ¬ (p : Int) < 0 := by omega
  have g2 : ¬ (len : Int) < (p : Int) := by omega
  have hc := rd_cell_at hr p hp
  rw [hb] at hc
  have HR : Hid (Rd w (some ⟨b, off, none⟩) len bs) := hr
  have hc' : (w.alloc (.cells Val.zero.cells 49)).cell? ⟨b, off + p, none⟩ = some (.int .u8 (1 : Int)) := ((below_alloc w _).cell (p := ⟨b, off + p, none⟩) (World.block_lt_of_cell? w _ hc)).trans hc
  simp only [Val.cells, Val.zero] at hc'
  clear hr hc
  obtain ⟨n, k, f, hT⟩ : ∃ n k f, Leb.take bs ((p + 1 : Nat) : Int) = (n, k, f) := ⟨_, _, _, rfl⟩
  have HC := ref_TakeInt (some ⟨b, off, none⟩) len cap bs ((p + 1 : Nat) : Int) (w.alloc (.cells Val.zero.cells 49)) (HR.out.below (below_alloc w _)) hl (by omega)
  rw [hT, Int.natCast_add] at HC
  have HCC : Hid (Calls Try.prog 28 #[.slice (some ⟨b, off, none⟩) len cap, .int .i64 ((p : Int) + 1)] (w.alloc (.cells Val.zero.cells 49)) fun e w' => e = toldI (n, k, f) ∧ w' = w.alloc (.cells Val.zero.cells 49)) := HC
  have HT : Hid (Leb.take bs ((p + 1 : Nat) : Int) = (n, k, f)) := hT
  clear HC hT
  go_enter Try.func15, Try.ntmps15
  go_wp2_with fail
  refine HCC.out.mono ?_
  by_cases hf : f = 0
  · subst hf
    have HV : Hid (bodyAt 1 bs (p + 1) = (⟨1, unfold n, ⟨#[]⟩, false, 0, 0⟩, k, 0)) := by show _ = _; unfold bodyAt; rw [HT.out]; rfl
    rw [toldI_ok]
    rintro e w1 ⟨rfl, rfl⟩
    simp only [Val.cells, Val.zero]
    go_wp2
    go_returns
    exact ⟨by rw [HV.out]; rfl, below_alloc w _⟩
  · have HV : Hid (bodyAt 1 bs (p + 1) = (Val.zero, 0, f)) := by show _ = _; unfold bodyAt; rw [HT.out]; cases f with | zero => exact absurd rfl hf | succ f => rfl
    rw [toldI_err n k f hf]
    rintro e w1 ⟨rfl, rfl⟩
    simp only [Val.cells, Val.zero]
    have hf' : (f : Int) ≠ 0 := by omega
    go_wp2
    go_returns
    exact ⟨by rw [HV.out]; rfl, below_alloc w _⟩
end Go.Proofs.Ytigmlhieibejoad
