/- Numbers that may be below 0: octet.fold, unfold, Int, TakeInt and the reference's. -/
import Derived.Test.YtfmpfjpcigdeoabGreatDoorPut
import Derived.Test.YtfmpfjpcigdeoabGreatDoorTake
import Derived.Test.YtfmpfjpcigdeoabGreatDoorLebBack
namespace Go.Proofs.YtfmpfjpcigdeoabGreatDoor
set_option maxRecDepth 100000
open Go.RowKit

/-- The folded number. -/
def fold (n : Int) : Nat := if 0 ≤ n then (2 * n).toNat else (-2 * n - 1).toNat
/-- The number that was folded. -/
def unfold (u : Nat) : Int := if u % 2 = 0 then ((u / 2 : Nat) : Int) else -((u / 2 : Nat) : Int) - 1

theorem fold_lt {n : Int} (h : (-9223372036854775808 : Int) ≤ n ∧ n ≤ 9223372036854775807) : fold n < 18446744073709551616 := by
  unfold fold; split <;> omega
theorem unfold_fold (n : Int) : unfold (fold n) = n := by
  unfold fold unfold
  split
  · rw [if_pos (by omega)]; omega
  · rw [if_neg (by omega)]; omega
theorem fold_unfold (u : Nat) : fold (unfold u) = u := by
  unfold fold unfold
  split
  · rw [if_pos (by omega)]; omega
  · rw [if_neg (by omega)]; omega

theorem not_u64 (y : Nat) (h : y < 18446744073709551616) : bits BinOp.xor IntKind.u64 IntKind.u64.max (y : Int) = ((18446744073709551615 - y : Nat) : Int) := by
  show IntKind.u64.wrap ((BitVec.ofInt 64 IntKind.u64.max ^^^ BitVec.ofInt 64 (y : Int)).toNat : Int) = _
  have h1 : BitVec.ofInt 64 IntKind.u64.max = BitVec.allOnes 64 := by decide
  rw [h1, BitVec.allOnes_xor, BitVec.toNat_not, ofInt_u64 y h, IntKind.wrap_u64]
  omega
theorem not_i64 (y : Nat) (h : y < 9223372036854775808) : bits BinOp.xor IntKind.i64 (-1) (y : Int) = -(y : Int) - 1 := by
  show IntKind.i64.wrap ((BitVec.ofInt 64 (-1) ^^^ BitVec.ofInt 64 (y : Int)).toNat : Int) = _
  have h1 : BitVec.ofInt 64 (-1) = BitVec.allOnes 64 := by decide
  rw [h1, BitVec.allOnes_xor, BitVec.toNat_not, ofInt_u64 y (by omega), IntKind.wrap_i64]
  omega

theorem octet_fold (n : Int) (h : (-9223372036854775808 : Int) ≤ n ∧ n ≤ 9223372036854775807) (w : World) :
    Calls Tryz.prog 90 #[.int .i64 n] w fun e w' => e = .returned (.int .u64 (fold n : Int)) ∧ w' = w := by
  by_cases h0 : n < 0
  · have e : bits BinOp.xor IntKind.u64 IntKind.u64.max (IntKind.u64.wrap (IntKind.u64.wrap n * 2)) = (fold n : Int) := by
      have e1 : IntKind.u64.wrap (IntKind.u64.wrap n * 2) = (((2 * n + 18446744073709551616).toNat : Nat) : Int) := by
        rw [IntKind.wrap_u64, IntKind.wrap_u64]; omega
      rw [e1, not_u64 _ (by omega)]
      unfold fold
      rw [if_neg (by omega)]
      omega
    have HE : Hid (bits BinOp.xor IntKind.u64 IntKind.u64.max (IntKind.u64.wrap (IntKind.u64.wrap n * 2)) = (fold n : Int)) := e
    clear e
    go_enter Tryz.func90, Tryz.ntmps90
    go_wp2
    go_ret
    exact ⟨ret_int HE.out, rfl⟩
  · go_enter Tryz.func90, Tryz.ntmps90
    go_wp2
    go_ret
    exact ⟨ret_int (by show n * 2 = (fold n : Int); unfold fold; rw [if_pos (by omega)]; omega), rfl⟩

theorem octet_unfold (u : Nat) (h : u < 18446744073709551616) (w : World) :
    Calls Tryz.prog 149 #[.int .u64 (u : Int)] w fun e w' => e = .returned (.int .i64 (unfold u)) ∧ w' = w := by
  have e1 : bits BinOp.and IntKind.u64 (u : Int) 1 = ((u % 2 : Nat) : Int) := by
    rw [show (1 : Int) = ((1 : Nat) : Int) from rfl, u64_and_nat u 1 h (by omega), nat_mask1]
  by_cases h0 : u % 2 = 0
  · have e2 : (bits BinOp.and IntKind.u64 (u : Int) 1 != 0) = false := by rw [e1, h0]; rfl
    clear e1
    go_enter Tryz.func149, Tryz.ntmps149
    go_wp2
    go_ret
    exact ⟨ret_int (by unfold unfold; rw [if_pos h0]; rfl), rfl⟩
  · have e2 : (bits BinOp.and IntKind.u64 (u : Int) 1 != 0) = true := by rw [e1, show u % 2 = 1 from by omega]; rfl
    have HE : Hid (bits BinOp.xor IntKind.i64 (-1) ((u : Int) / 2) = unfold u) := by
      show _ = _
      rw [show ((u : Int) / 2) = ((u / 2 : Nat) : Int) from rfl, not_i64 (u / 2) (by omega)]
      unfold unfold
      rw [if_neg h0]
    clear e1
    go_enter Tryz.func149, Tryz.ntmps149
    go_wp2
    go_ret
    exact ⟨ret_int HE.out, rfl⟩

theorem octet_Int (n : Int) (h : (-9223372036854775808 : Int) ≤ n ∧ n ≤ 9223372036854775807) (w : World) :
    Calls Tryz.prog 70 #[.int .i64 n] w fun e w' => ∃ a cap, e = .returned (.slice a (Leb.leb (fold n)).length cap) ∧ a ≠ none ∧ Own w' w.heap.size a (Leb.leb (fold n)).length cap (Leb.leb (fold n)) ∧ Below w.heap.size w w' := by
  have HH : Hid ((-9223372036854775808 : Int) ≤ n ∧ n ≤ 9223372036854775807) := h
  clear h
  go_enter Tryz.func70, Tryz.ntmps70
  go_wp2_with fail
  refine (octet_fold n HH.out w).mono ?_
  rintro e w1 ⟨rfl, rfl⟩
  go_wp2_with fail
  refine (octet_Uint (fold n) (fold_lt HH.out) w1).mono ?_
  rintro e w2 ⟨a, cap, rfl, h1, h2, h3⟩
  have H1 : Hid (a ≠ none) := h1
  have H2 : Hid (Own w2 w1.heap.size a (Leb.leb (fold n)).length cap (Leb.leb (fold n))) := h2
  have H3 : Hid (Below w1.heap.size w1 w2) := h3
  clear h1 h2 h3
  go_wp2
  go_ret
  exact ⟨a, cap, rfl, H1.out, H2.out, H3.out⟩

/-- Three numbers as a Go function tells them, the first one unfolded. -/
def toldI (r : Nat × Nat × Nat) : Ending := .returned (.tuple #[.int .i64 (if r.2.2 = 0 then unfold r.1 else 0), .int .i64 (r.2.1 : Int), .int .i64 (r.2.2 : Int)])

theorem take_small (bs : List Nat) (x : Int) (hb : ∀ y ∈ bs, y < 256) : (Leb.take bs x).1 < 18446744073709551616 ∧ ((Leb.take bs x).2.2 ≠ 0 → (Leb.take bs x).1 = 0 ∧ (Leb.take bs x).2.1 = 0) := by
  rcases h : Leb.take bs x with ⟨n, k, e⟩
  by_cases he : e = 0
  · subst he
    obtain ⟨p, _, _, _, hn, _⟩ := Leb.take_once bs x hb n k h
    exact ⟨hn, fun h => absurd rfl h⟩
  · have hz : n = 0 ∧ k = 0 := by
      unfold Leb.take at h
      split at h
      · simp only [Prod.mk.injEq] at h; omega
      · have ht := Leb.tk_zero (bs.drop x.toNat) 0 0
        rcases htk : Leb.tk 0 0 (bs.drop x.toNat) with ⟨a, u, f⟩
        rw [htk] at h ht
        simp only [Leb.fin, Prod.mk.injEq] at h
        obtain ⟨rfl, hk, rfl⟩ := h
        have := ht he
        rw [if_neg he] at hk
        exact ⟨this, hk.symm⟩
    exact ⟨by omega, fun _ => hz⟩

set_option maxHeartbeats 400000 in
theorem octet_TakeInt (a : Option Addr) (len cap : Nat) (bs : List Nat) (x : Int) (w : World) (hr : Rd w a len bs) (hl : len ≤ 9223372036854775000) (hx : (-9223372036854775808 : Int) ≤ x ∧ x ≤ 9223372036854775807) :
    Calls Tryz.prog 130 #[.slice a len cap, .int .i64 x] w fun e w' => e = toldI (Leb.take bs x) ∧ w' = w := by
  have HR : Hid (Rd w a len bs) := hr
  have HX : Hid ((-9223372036854775808 : Int) ≤ x ∧ x ≤ 9223372036854775807) := hx
  have hsm := take_small bs x hr.byte
  obtain ⟨n, k, f, hT⟩ : ∃ n k f, Leb.take bs x = (n, k, f) := ⟨_, _, _, rfl⟩
  rw [hT] at hsm ⊢
  have HT : Hid (Leb.take bs x = (n, k, f)) := hT
  have hn : n < 18446744073709551616 := hsm.1
  clear hr hx hT
  go_enter Tryz.func130, Tryz.ntmps130
  go_wp2_with fail
  refine (octet_TakeUint a len cap bs x w HR.out hl HX.out).mono ?_
  rw [HT.out]
  rintro e w1 ⟨rfl, rfl⟩
  unfold told
  by_cases hf : f = 0
  · have hf' : ((f : Int) != 0) = false := by simp [hf]
    clear hsm
    have HF : Hid (f = 0) := hf
    clear hf
    go_wp2_with fail
    refine (octet_unfold n hn w1).mono ?_
    rintro e w2 ⟨rfl, rfl⟩
    go_wp2
    go_ret3
    refine ⟨?_, rfl⟩
    unfold toldI
    have hf := HF.out
    subst hf
    rfl
  · have hf' : ((f : Int) != 0) = true := by simp [hf]
    have HS : Hid (n = 0 ∧ k = 0) := hsm.2 hf
    have HF : Hid (¬ f = 0) := hf
    clear hsm hf
    go_wp2
    go_ret3
    refine ⟨?_, rfl⟩
    obtain ⟨rfl, rfl⟩ := HS.out
    unfold toldI
    rw [if_neg HF.out]
    rfl

set_option maxHeartbeats 400000 in
theorem ref_TakeInt (a : Option Addr) (len cap : Nat) (bs : List Nat) (x : Int) (w : World) (hr : Rd w a len bs) (hl : len ≤ 9223372036854775000) (hx : (-9223372036854775808 : Int) ≤ x ∧ x ≤ 9223372036854775807) :
    Calls Tryz.prog 67 #[.slice a len cap, .int .i64 x] w fun e w' => e = toldI (Leb.take bs x) ∧ w' = w := by
  have HR : Hid (Rd w a len bs) := hr
  have HX : Hid ((-9223372036854775808 : Int) ≤ x ∧ x ≤ 9223372036854775807) := hx
  have hsm := take_small bs x hr.byte
  obtain ⟨n, k, f, hT⟩ : ∃ n k f, Leb.take bs x = (n, k, f) := ⟨_, _, _, rfl⟩
  rw [hT] at hsm ⊢
  have HT : Hid (Leb.take bs x = (n, k, f)) := hT
  have hn : n < 18446744073709551616 := hsm.1
  clear hr hx hT
  go_enter Tryz.func67, Tryz.ntmps67
  go_wp2_with fail
  refine (ref_TakeUint a len cap bs x w HR.out hl HX.out).mono ?_
  rw [HT.out]
  rintro e w1 ⟨rfl, rfl⟩
  unfold told
  by_cases hf : f = 0
  · have hf' : ((f : Int) != 0) = false := by simp [hf]
    clear hsm
    have HF : Hid (f = 0) := hf
    clear hf
    by_cases h0 : n % 2 = 0
    · have h0' : ((n : Int) % 2 == 0) = true := by rw [beq_iff_eq]; omega
      have H0 : Hid (n % 2 = 0) := h0
      clear h0
      go_wp2
      go_ret3
      refine ⟨?_, rfl⟩
      unfold toldI unfold
      have hf := HF.out
      subst hf
      rw [if_pos rfl, if_pos H0.out]
      rfl
    · have h0' : ((n : Int) % 2 == 0) = false := by rw [beq_eq_false_iff_ne]; omega
      have H0 : Hid (¬ n % 2 = 0) := h0
      clear h0
      go_wp2
      go_ret3
      refine ⟨?_, rfl⟩
      unfold toldI unfold
      have hf := HF.out
      subst hf
      rw [if_pos rfl, if_neg H0.out]
      rfl
  · have hf' : ((f : Int) != 0) = true := by simp [hf]
    have HS : Hid (n = 0 ∧ k = 0) := hsm.2 hf
    have HF : Hid (¬ f = 0) := hf
    clear hsm hf
    go_wp2
    go_ret3
    refine ⟨?_, rfl⟩
    obtain ⟨rfl, rfl⟩ := HS.out
    unfold toldI
    rw [if_neg HF.out]
    rfl
end Go.Proofs.YtfmpfjpcigdeoabGreatDoor
