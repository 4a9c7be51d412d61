/- seal.Open at any place of any bytes; 'lives' of the law's package. -/
import Derived.Test.YtoijhlnadaipoaaDoorSealOpen
namespace Go.Proofs.YtoijhlnadaipoaaDoor
open Go.RowKit

/-- The error that is told of a place. -/
def openErr (bs : List Nat) (x : Int) : Nat := if x < 0 ∨ (bs.length : Int) < x then 2 else SealM.opn (bs.drop x.toNat)
theorem openErr_nat (bs : List Nat) (p : Nat) (hp : p ≤ bs.length) : openErr bs (p : Int) = SealM.opn (bs.drop p) := by
  unfold openErr
  rw [if_neg (by omega)]
  rfl

theorem seal_Open_bad (a : Option Addr) (len cap : Nat) (bs : List Nat) (x : Int) (w : World) (hr : Rd w a len bs) (hlc : len ≤ cap) (hl : len ≤ 9223372036854775000) (hx : (-9223372036854775808 : Int) ≤ x ∧ x ≤ 9223372036854775807) (ht : Tab w) (h0 : 0 < w.heap.size) (f : Nat) (hf : openErr bs x = f) (hf0 : f ≠ 0) :
    Calls Tryd.prog 41 #[.slice a len cap, .int .i64 x] w fun e w' => e = toldBad f ∧ Below w.heap.size w w' := by
  have hs := hr.size
  by_cases h1 : x < 0 ∨ (len : Int) < x
  · unfold openErr at hf
    rw [hs, if_pos h1] at hf
    subst hf
    exact seal_Open_arg a len cap x w hx h1
  · obtain ⟨p, rfl⟩ := Int.eq_ofNat_of_zero_le (a := x) (by omega)
    have hp : p ≤ len := by omega
    rw [openErr_nat bs p (by omega)] at hf
    by_cases h2 : p = len
    · subst h2
      have e : bs.drop p = [] := List.drop_of_length_le (by omega)
      rw [e] at hf
      have hf' : f = 3 := hf.symm
      subst hf'
      exact seal_Open_end a p cap w hl hlc
    · obtain ⟨m, rfl⟩ : ∃ m, len = p + m := ⟨len - p, by omega⟩
      obtain ⟨c, rfl⟩ : ∃ c, cap = p + c := ⟨cap - p, by omega⟩
      obtain ⟨b, off, rfl, _, _⟩ : ∃ b off, a = some ⟨b, off, none⟩ ∧ b < w.heap.size ∧ ∀ i, i < p + m → w.cell? ⟨b, off + i, none⟩ = some (.int .u8 ((bs.getD i 0 : Nat) : Int)) := by
        rcases hr.cells with h3 | h3
        · omega
        · exact h3
      rcases hB : SealM.bend (bs.drop p) with ⟨n, f'⟩
      by_cases hf' : f' = 0
      · subst hf'
        have hn := (SealM.bend_ok hB).1
        have hB' : SealM.bend (bs.drop p) = (4 + SealM.blen (bs.drop p), 0) := by rw [hB, hn]
        rw [SealM.opn_of hB] at hf
        have h5 : f = 5 := by
          split at hf
          · omega
          · exact hf.symm
        subst h5
        exact seal_Open_sum b off p m c bs w hr (by omega) hl ht h0 hB' (by rw [SealM.opn_of hB]; exact hf)
      · rw [SealM.opn_err hB hf'] at hf
        subst hf
        exact seal_Open_head b off p m c bs w hr (by omega) (by omega) hl f' (by rw [hB]) hf'

theorem seal_Open_good (a : Option Addr) (len cap : Nat) (bs : List Nat) (p : Nat) (w : World) (hr : Rd w a len bs) (hlc : len ≤ cap) (hl : len ≤ 9223372036854775000) (hp : p ≤ len) (ht : Tab w) (h0 : 0 < w.heap.size) (hok : SealM.opn (bs.drop p) = 0) (k q : Nat) (hk : (bs.drop p).getD 1 0 = k) (hq : SealM.blen (bs.drop p) = q) (B : List Nat) (hB : ((bs.drop p).drop 4).take q = B) :
    Calls Tryd.prog 41 #[.slice a len cap, .int .i64 (p : Int)] w fun e w' => ∃ g, e = .returned (.tuple #[.agg #[.int .u8 (k : Int), .int .i64 (p : Int), .slice (some ⟨g, 0, none⟩) q q], .int .i64 ((p + q + 8 : Nat) : Int), .int .i64 0]) ∧ Own w' w.heap.size (some ⟨g, 0, none⟩) q q B ∧ Below w.heap.size w w' := by
  have hs := hr.size
  subst hB
  rcases hb : SealM.bend (bs.drop p) with ⟨n, f'⟩
  by_cases hf' : f' = 0
  · subst hf'
    obtain ⟨hn, hl0, _, _, _⟩ := SealM.bend_ok hb
    rw [List.length_drop] at hl0
    obtain ⟨m, rfl⟩ : ∃ m, len = p + m := ⟨len - p, by omega⟩
    obtain ⟨c, rfl⟩ : ∃ c, cap = p + c := ⟨cap - p, by omega⟩
    obtain ⟨b, off, rfl, _, _⟩ : ∃ b off, a = some ⟨b, off, none⟩ ∧ b < w.heap.size ∧ ∀ i, i < p + m → w.cell? ⟨b, off + i, none⟩ = some (.int .u8 ((bs.getD i 0 : Nat) : Int)) := by
      rcases hr.cells with h3 | h3
      · omega
      · exact h3
    exact seal_Open_ok b off p m c bs w hr (by omega) hl ht h0 (by rw [hb, hn]) hok k q hk hq
  · rw [SealM.opn_err hb hf'] at hok
    exact absurd hok hf'

end Go.Proofs.YtoijhlnadaipoaaDoor
