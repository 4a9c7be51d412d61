/- The reference's Open at any place of any bytes, and its Same. -/
import Derived.Test.YtbhljlafijdodaaDoorSealRefFine
namespace Go.Proofs.YtbhljlafijdodaaDoor
open Go.RowKit

theorem ref_Open_bad (a : Option Addr) (len cap : Nat) (bs : List Nat) (x : Int) (w : World) (hr : Rd w a len bs) (hlc : len ≤ cap) (hl : len ≤ 9223372036854775000) (hx : (-9223372036854775808 : Int) ≤ x ∧ x ≤ 9223372036854775807) (f : Nat) (hf : openErr bs x = f) (hf0 : f ≠ 0) :
    Calls Tryd.prog 13 #[.slice a len cap, .int .i64 x] w fun e w' => e = toldBad f ∧ Below w.heap.size w w' := by
  have hs := hr.size
  by_cases h1 : x < 0 ∨ (len : Int) < x
  · unfold openErr at hf
    rw [hs, if_pos h1] at hf
    subst hf
    exact ref_Open_arg a len cap x w hx h1
  · obtain ⟨p, rfl⟩ := Int.eq_ofNat_of_zero_le (a := x) (by omega)
    have hp : p ≤ len := by omega
    rw [openErr_nat bs p (by omega)] at hf
    by_cases h2 : p = len
    · subst h2
      have e : bs.drop p = [] := List.drop_of_length_le (by omega)
      rw [e] at hf
      have hf' : f = 3 := hf.symm
      subst hf'
      exact ref_Open_end a p cap w hl
    · obtain ⟨m, rfl⟩ : ∃ m, len = p + m := ⟨len - p, by omega⟩
      obtain ⟨c, rfl⟩ : ∃ c, cap = p + c := ⟨cap - p, by omega⟩
      obtain ⟨b, off, rfl, _, _⟩ : ∃ b off, a = some ⟨b, off, none⟩ ∧ b < w.heap.size ∧ ∀ i, i < p + m → w.cell? ⟨b, off + i, none⟩ = some (.int .u8 ((bs.getD i 0 : Nat) : Int)) := by
        rcases hr.cells with h3 | h3
        · omega
        · exact h3
      rcases hB : SealM.bend (bs.drop p) with ⟨n, f'⟩
      by_cases hf' : f' = 0
      · subst hf'
        have hn := (SealM.bend_ok hB).1
        have hB' : SealM.bend (bs.drop p) = (4 + SealM.blen (bs.drop p), 0) := by rw [hB, hn]
        rw [SealM.opn_of hB] at hf
        have h5 : f = 5 := by
          split at hf
          · omega
          · exact hf.symm
        subst h5
        exact ref_Open_sum b off p m c bs w hr (by omega) (by omega) hl _ rfl hB' (by rw [SealM.opn_of hB]; exact hf)
      · rw [SealM.opn_err hB hf'] at hf
        subst hf
        exact ref_Open_head b off p m c bs w hr (by omega) hl f' (by rw [hB]) hf'

theorem ref_Open_good (a : Option Addr) (len cap : Nat) (bs : List Nat) (p : Nat) (w : World) (hr : Rd w a len bs) (hlc : len ≤ cap) (hl : len ≤ 9223372036854775000) (hok : SealM.opn (bs.drop p) = 0) (k q : Nat) (hk : (bs.drop p).getD 1 0 = k) (hq : SealM.blen (bs.drop p) = q) (B : List Nat) (hB : ((bs.drop p).drop 4).take q = B) :
    Calls Tryd.prog 13 #[.slice a len cap, .int .i64 (p : Int)] w fun e w' => ∃ a' cap', e = .returned (.tuple #[.agg #[.int .u8 (k : Int), .int .i64 (p : Int), .slice a' q cap'], .int .i64 ((p + q + 8 : Nat) : Int), .int .i64 0]) ∧ Own w' w.heap.size a' q cap' B ∧ Below w.heap.size w w' := by
  have hs := hr.size
  subst hB
  rcases hb : SealM.bend (bs.drop p) with ⟨n, f'⟩
  by_cases hf' : f' = 0
  · subst hf'
    obtain ⟨hn, hl0, _, _, _⟩ := SealM.bend_ok hb
    rw [List.length_drop] at hl0
    obtain ⟨m, rfl⟩ : ∃ m, len = p + m := ⟨len - p, by omega⟩
    obtain ⟨c, rfl⟩ : ∃ c, cap = p + c := ⟨cap - p, by omega⟩
    obtain ⟨b, off, rfl, _, _⟩ : ∃ b off, a = some ⟨b, off, none⟩ ∧ b < w.heap.size ∧ ∀ i, i < p + m → w.cell? ⟨b, off + i, none⟩ = some (.int .u8 ((bs.getD i 0 : Nat) : Int)) := by
      rcases hr.cells with h3 | h3
      · omega
      · exact h3
    exact ref_Open_ok b off p m c bs w hr (by omega) (by omega) hl q hq.symm (by rw [hb, hn]) hok k hk
  · rw [SealM.opn_err hb hf'] at hok
    exact absurd hok hf'

set_option maxHeartbeats 1000000 in
theorem ref_Same (k : Nat) (x : Int) (a1 : Option Addr) (l1 c1 : Nat) (a2 : Option Addr) (l2 c2 : Nat) (bs : List Nat) (w : World) (h1 : Rd w a1 l1 bs) (h2 : Rd w a2 l2 bs) :
    Calls Tryd.prog 14 #[.agg #[.int .u8 (k : Int), .int .i64 x, .slice a1 l1 c1], .agg #[.int .u8 (k : Int), .int .i64 x, .slice a2 l2 c2]] w fun e w' => e = .returned (.bool true) ∧ Below w.heap.size w w' := by
  have hb : ∀ o o', Below w.heap.size w ((w.alloc o).alloc o') := fun o o' => ((Below.refl _ _).alloc (Nat.le_refl _) o).alloc (by simp) o'
  have HB : Hid (∀ o o', Below w.heap.size w ((w.alloc o).alloc o')) := hb
  have m1 := fun o o' => conv_rd (h1.below (hb o o')) c1
  have m2 := fun o o' => conv_rd (h2.below (hb o o')) c2
  clear h1 h2 hb
  go_enter Tryd.func14, Tryd.ntmps14
  go_wp2
  go_ret
  exact ⟨by simp, HB.out _ _⟩

end Go.Proofs.YtbhljlafijdodaaDoor
