/- math/bits.Len64, Len; wheel: named, alone, slot. -/
import Derived.Test.YteiadaonihgbfaaDoorWhLen
namespace Go.Proofs.YteiadaonihgbfaaDoor
open Go.RowKit

def namedB (id : Int) : Bool := decide (1 ≤ id ∧ id ≤ 64)
theorem wh_named (w : World) (id : Int) : Calls Tryd.prog 28 #[.int .i64 id] w fun e w' => e = .returned (.bool (namedB id)) ∧ w' = w := by
  obtain ⟨R, HR⟩ : ∃ R, Hid (R = namedB id) := ⟨_, rfl⟩
  rw [← HR.out]
  by_cases h1 : 1 ≤ id
  · by_cases h2 : id ≤ 64
    · have HX : Hid (R = true) := by show _ = _; rw [HR.out, namedB, decide_eq_true ⟨h1, h2⟩]
      go_enter Tryd.func28, Tryd.ntmps28
      go_wp2
      go_ret
      exact ⟨by rw [HX.out]; rfl, rfl⟩
    · have HX : Hid (R = false) := by show _ = _; rw [HR.out, namedB, decide_eq_false (fun h => h2 h.2)]
      go_enter Tryd.func28, Tryd.ntmps28
      go_wp2
      go_ret
      exact ⟨by rw [HX.out]; rfl, rfl⟩
  · have HX : Hid (R = false) := by show _ = _; rw [HR.out, namedB, decide_eq_false (fun h => h1 h.1)]
    go_enter Tryd.func28, Tryd.ntmps28
    go_wp2
    go_ret
    exact ⟨by rw [HX.out]; rfl, rfl⟩

theorem pow_lt (i : Nat) (hi : i < 64) : 2 ^ i < 18446744073709551616 := Nat.pow_lt_pow_right (a := 2) (by omega) hi
set_option maxHeartbeats 1000000 in
theorem wh_alone (w : World) (i : Nat) (hi : i < 64) : Calls Tryd.prog 31 #[.int .i64 ((i : Int) + 1)] w fun e w' => e = .returned (.int .u64 ((2 ^ i : Nat) : Int)) ∧ w' = w := by
  have HX : Hid (IntKind.u64.wrap (2 ^ i) = ((2 ^ i : Nat) : Int)) := by
    show _ = _
    have h := pow_lt i hi
    have e : (2 : Int) ^ i = ((2 ^ i : Nat) : Int) := by simp
    rw [e]
    generalize 2 ^ i = y at h
    rw [IntKind.wrap_u64]
    omega
  go_enter Tryd.func31, Tryd.ntmps31
  go_wp2
  go_ret
  exact ⟨by rw [← HX.out]; rfl, rfl⟩

theorem bits_xor_i64_nat (a b : Nat) (ha : a < 9223372036854775808) (hb : b < 9223372036854775808) : bits .xor .i64 (a : Int) (b : Int) = ((a ^^^ b : Nat) : Int) := by
  have hx : a ^^^ b < 2 ^ 63 := Nat.xor_lt_two_pow (by omega) (by omega)
  have h1 : (BitVec.ofInt 64 (a : Int)).toNat = a := by
    rw [BitVec.ofInt_natCast, BitVec.toNat_ofNat]; exact Nat.mod_eq_of_lt (by omega)
  have h2 : (BitVec.ofInt 64 (b : Int)).toNat = b := by
    rw [BitVec.ofInt_natCast, BitVec.toNat_ofNat]; exact Nat.mod_eq_of_lt (by omega)
  show IntKind.i64.wrap ((BitVec.ofInt 64 (a : Int) ^^^ BitVec.ofInt 64 (b : Int)).toNat : Int) = _
  rw [BitVec.toNat_xor, h1, h2, IntKind.wrap_i64]
  omega

set_option maxHeartbeats 8000000 in
set_option maxRecDepth 1000000 in
theorem len_64 (x : Int) (w : World) (h0 : 0 ≤ x) (h1 : x ≤ 18446744073709551615) : Calls Tryd.prog 45 #[.int .u64 x] w fun e w' => e = .returned (.int .i64 (Lib.bitLen x.toNat : Int)) ∧ w' = w := by
  have hs : Lib.len8tab.size = 256 := by decide
  have HS : Hid (Lib.len8tab.size = 256) := hs
  clear hs
  go_enter Tryd.func45, Tryd.ntmps45
  go_wp2
  all_goals first
    | (go_ret
       refine ⟨congrArg Ending.returned (congrArg (Value.int IntKind.i64) ?_), rfl⟩
       first
         | exact len56 x h0 h1 (by omega) (by omega) _
         | exact len48 x h0 h1 (by omega) (by omega) _
         | exact len40 x h0 h1 (by omega) (by omega) _
         | exact len32 x h0 h1 (by omega) (by omega) _
         | exact len24 x h0 h1 (by omega) (by omega) _
         | exact len16 x h0 h1 (by omega) (by omega) _
         | exact len8 x h0 h1 (by omega) (by omega) _
         | exact len0 x h0 (by omega) _)
    | (have hs := HS.out; exfalso; omega)

set_option maxHeartbeats 2000000 in
theorem len_ (x : Int) (w : World) (h0 : 0 ≤ x) (h1 : x ≤ 18446744073709551615) : Calls Tryd.prog 39 #[.int .u64 x] w fun e w' => e = .returned (.int .i64 (Lib.bitLen x.toNat : Int)) ∧ w' = w := by
  go_enter Tryd.func39, Tryd.ntmps39
  go_wp2_with fail
  refine (len_64 x w h0 h1).mono ?_
  rintro e w1 ⟨rfl, rfl⟩
  go_wp2
  go_ret
  exact ⟨rfl, rfl⟩

set_option maxHeartbeats 2000000 in
theorem wh_slot (w : World) (g : Nat) (s : St) (at_ : Nat) (h : Wh w g s) (ha : at_ ≤ 1099511627776) : Calls Tryd.prog 30 #[.pointer (some ⟨g, 0, none⟩), .int .i64 (at_ : Int)] w fun e w' => e = .returned (.int .i64 (slotN s.now at_ : Int)) ∧ w' = w := by
  have c0 := h.now_cell
  have hn := h.nw
  obtain ⟨R, HR⟩ : ∃ R, Hid (R = slotN s.now at_) := ⟨_, rfl⟩
  obtain ⟨n, hnn⟩ : ∃ n, n = s.now := ⟨_, rfl⟩
  rw [← HR.out]
  rw [← hnn] at c0 hn HR
  clear h hnn
  by_cases hle : at_ ≤ n
  · have hle' : (at_ : Int) ≤ (n : Int) := by omega
    have HX : Hid (R = 0) := by show _ = _; rw [HR.out, slotN, if_pos hle]
    go_enter Tryd.func30, Tryd.ntmps30
    go_wp2
    go_ret
    exact ⟨by rw [HX.out]; rfl, rfl⟩
  · have hle' : ¬ (at_ : Int) ≤ (n : Int) := by omega
    have HX : Hid (R = Lib.bitLen (at_ ^^^ n)) := by show _ = _; rw [HR.out, slotN, if_neg hle]
    have hx : at_ ^^^ n < 2 ^ 63 := Nat.xor_lt_two_pow (by omega) (by omega)
    have q1 : bits .xor .i64 (at_ : Int) (n : Int) = ((at_ ^^^ n : Nat) : Int) := bits_xor_i64_nat _ _ (by omega) (by omega)
    obtain ⟨y, hy⟩ : ∃ y, y = at_ ^^^ n := ⟨_, rfl⟩
    rw [← hy] at HX q1 hx
    have q2 : IntKind.u64.wrap (y : Int) = (y : Int) := by rw [IntKind.wrap_u64]; omega
    clear hy
    go_enter Tryd.func30, Tryd.ntmps30
    go_wp2_with fail
    refine (len_ (y : Int) w (by omega) (by omega)).mono ?_
    rintro e w1 ⟨rfl, rfl⟩
    go_wp2
    go_ret
    exact ⟨by rw [HX.out]; rfl, rfl⟩
end Go.Proofs.YteiadaonihgbfaaDoor
