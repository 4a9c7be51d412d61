/- The reference's Take of a value, whole. -/
import Derived.Test.YtigmlhieibejoadValRef2
namespace Go.Proofs.Ytigmlhieibejoad
open Go.RowKit

set_option maxRecDepth 100000 in
set_option maxHeartbeats 1000000 in
theorem ref_Take3 (b off : Nat) (len cap : Nat) (bs : List Nat) (p : Nat) (w : World) (hr : Rd w (some ⟨b, off, none⟩) len bs) (hl : len ≤ 9223372036854775000) (hp : p < len) (hb : bs.getD p 0 = 3) :
    Calls Try.prog 15 #[.slice (some ⟨b, off, none⟩) len cap, .int .i64 (p : Int)] w fun e w' => e = toldV (bodyAt 3 bs (p + 1)) ∧ Below w.heap.size w w' := by
  have hcx : ∀ (a : Addr) (m : Mode) (W : World) (x y : Nat), (store a (.complex .f64 x y) m).run Try.prog W = stored Try.prog W a (.complex .f64 x y) m := fun a m W x y => run_store _ _ _ _ _ rfl
  have hlt : (p : Int) < (len : Int) := by omega
  have e4 : ((p : Int) == (len : Int)) = false := by rw [beq_eq_false_iff_ne]; omega
  have g1 : ¬ (p : Int) < 0 := by omega
  have g2 : ¬ (len : Int) < (p : Int) := by omega
  have hc := rd_cell_at hr p hp
  rw [hb] at hc
  have HR : Hid (Rd w (some ⟨b, off, none⟩) len bs) := hr
  have hc' : (w.alloc (.cells Val.zero.cells 49)).cell? ⟨b, off + p, none⟩ = some (.int .u8 (3 : Int)) := ((below_alloc w _).cell (p := ⟨b, off + p, none⟩) (World.block_lt_of_cell? w _ hc)).trans hc
  simp only [Val.cells, Val.zero] at hc'
  clear hr hc
  have hs := HR.out.size
  by_cases h1 : p + 1 = len
  · have HV : Hid (bodyAt 3 bs (p + 1) = (Val.zero, 0, 3)) := by
      show _ = _
      unfold bodyAt truthAt
      rw [hs, if_neg (by decide), if_neg (by decide), if_pos rfl, if_pos h1]
      rfl
    have h1' : (len : Int) ≤ (p : Int) + 1 := by omega
    clear h1 hs
    go_enter Try.func15, Try.ntmps15
    go_wp2
    go_returns
    exact ⟨by rw [HV.out]; rfl, below_alloc w _⟩
  · have h1' : ¬ (len : Int) ≤ (p : Int) + 1 := by omega
    have h1'' : (p : Int) + 1 < (len : Int) := by omega
    have hd := rd_cell_at HR.out (p + 1) (by omega)
    have hd256 := getD_lt HR.out.byte (p + 1)
    have HV : Hid (bodyAt 3 bs (p + 1) = if 1 < bs.getD (p + 1) 0 then (Val.zero, 0, 4) else (⟨3, 0, ⟨#[]⟩, decide (bs.getD (p + 1) 0 = 1), 0, 0⟩, p + 2, 0)) := by
      show _ = _
      unfold bodyAt truthAt
      rw [hs, if_neg (by decide), if_neg (by decide), if_pos rfl, if_neg h1]
      by_cases h2 : 1 < bs.getD (p + 1) 0
      · rw [if_pos h2, if_pos h2]
        rfl
      · rw [if_neg h2, if_neg h2]
        rfl
    have hd' : (w.alloc (.cells Val.zero.cells 49)).cell? ⟨b, off + (p + 1), none⟩ = some (.int .u8 ((bs.getD (p + 1) 0 : Nat) : Int)) := ((below_alloc w _).cell (p := ⟨b, off + (p + 1), none⟩) (World.block_lt_of_cell? w _ hd)).trans hd
    simp only [Val.cells, Val.zero] at hd'
    clear hd hs
    generalize bs.getD (p + 1) 0 = c at *
    by_cases h2 : 1 < c
    · have h2' : (1 : Int) < (c : Int) := by omega
      rw [if_pos h2] at HV
      go_enter Try.func15, Try.ntmps15
      go_wp2
      go_returns
      exact ⟨by rw [HV.out]; rfl, below_alloc w _⟩
    · have h2' : ¬ (1 : Int) < (c : Int) := by omega
      rw [if_neg h2] at HV
      by_cases h3 : c = 1
      · subst h3
        go_enter Try.func15, Try.ntmps15
        go_wp2
        go_returns
        exact ⟨by rw [HV.out]; rfl, below_alloc w _⟩
      · obtain rfl : c = 0 := by omega
        go_enter Try.func15, Try.ntmps15
        go_wp2
        go_returns
        exact ⟨by rw [HV.out]; rfl, below_alloc w _⟩

theorem ref_Take (a : Option Addr) (len cap : Nat) (bs : List Nat) (x : Int) (w : World) (hr : Rd w a len bs) (hlc : len ≤ cap) (hl : len ≤ 9223372036854775000) :
    Calls Try.prog 15 #[.slice a len cap, .int .i64 x] w fun e w' => e = toldV (valAt bs x) ∧ Below w.heap.size w w' := by
  by_cases h : x < 0 ∨ (len : Int) ≤ x
  · exact ref_Take_out a len cap bs x w hr hl h
  · obtain ⟨p, rfl⟩ := Int.eq_ofNat_of_zero_le (a := x) (by omega)
    have hp : p < len := by omega
    have hs := hr.size
    have HV : valAt bs (p : Int) = bodyAt (bs.getD p 0) bs (p + 1) := by
      unfold valAt
      rw [hs, if_neg (by omega), if_neg (by omega)]
      rfl
    obtain ⟨b, off, rfl, _⟩ := rd_at hr p hp
    rw [HV]
    by_cases h1 : bs.getD p 0 = 1
    · rw [h1]; exact ref_Take1 b off len cap bs p w hr hl hp h1
    by_cases h2 : bs.getD p 0 = 2
    · rw [h2]; exact ref_Take2 b off len cap bs p w hr hlc hl hp h2
    by_cases h3 : bs.getD p 0 = 3
    · rw [h3]; exact ref_Take3 b off len cap bs p w hr hl hp h3
    by_cases h4 : bs.getD p 0 = 4
    · rw [h4]; exact ref_Take4 b off len cap bs p w hr hl hp h4
    · exact ref_Take0 b off len cap bs p w hr hp _ rfl (by omega)
end Go.Proofs.Ytigmlhieibejoad
