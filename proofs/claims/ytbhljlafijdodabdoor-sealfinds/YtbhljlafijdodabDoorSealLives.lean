/- seal.Open at any place of any bytes; 'lives' of the law's package. -/
import Derived.Test.YtbhljlafijdodabDoorSealOpen
namespace Go.Proofs.YtbhljlafijdodabDoor
open Go.RowKit

/-- The error that is told of a place. -/
def openErr (bs : List Nat) (x : Int) : Nat := if x < 0 ∨ (bs.length : Int) < x then 2 else SealM.opn (bs.drop x.toNat)
theorem openErr_nat (bs : List Nat) (p : Nat) (hp : p ≤ bs.length) : openErr bs (p : Int) = SealM.opn (bs.drop p) := by
  unfold openErr
  rw [if_neg (by omega)]
  rfl

theorem seal_Open_bad (a : Option Addr) (len cap : Nat) (bs : List Nat) (x : Int) (w : World) (hr : Rd w a len bs) (hlc : len ≤ cap) (hl : len ≤ 9223372036854775000) (hx : (-9223372036854775808 : Int) ≤ x ∧ x ≤ 9223372036854775807) (ht : Tab w) (h0 : 0 < w.heap.size) (f : Nat) (hf : openErr bs x = f) (hf0 : f ≠ 0) :
    Calls Tryd.prog 9 #[.slice a len cap, .int .i64 x] w fun e w' => e = toldBad f ∧ Below w.heap.size w w' := by
  have hs := hr.size
  by_cases h1 : x < 0 ∨ (len : Int) < x
  · unfold openErr at hf
    rw [hs, if_pos h1] at hf
    subst hf
    exact seal_Open_arg a len cap x w hx h1
  · obtain ⟨p, rfl⟩ := Int.eq_ofNat_of_zero_le (a := x) (by omega)
    have hp : p ≤ len := by omega
    rw [openErr_nat bs p (by omega)] at hf
    by_cases h2 : p = len
    · subst h2
      have e : bs.drop p = [] := List.drop_of_length_le (by omega)
      rw [e] at hf
      have hf' : f = 3 := hf.symm
      subst hf'
      exact seal_Open_end a p cap w hl hlc
    · obtain ⟨m, rfl⟩ : ∃ m, len = p + m := ⟨len - p, by omega⟩
      obtain ⟨c, rfl⟩ : ∃ c, cap = p + c := ⟨cap - p, by omega⟩
      obtain ⟨b, off, rfl, _, _⟩ : ∃ b off, a = some ⟨b, off, none⟩ ∧ b < w.heap.size ∧ ∀ i, i < p + m → w.cell? ⟨b, off + i, none⟩ = some (.int .u8 ((bs.getD i 0 : Nat) : Int)) := by
        rcases hr.cells with h3 | h3
        · omega
        · exact h3
      rcases hB : SealM.bend (bs.drop p) with ⟨n, f'⟩
      by_cases hf' : f' = 0
      · subst hf'
        have hn := (SealM.bend_ok hB).1
        have hB' : SealM.bend (bs.drop p) = (4 + SealM.blen (bs.drop p), 0) := by rw [hB, hn]
        rw [SealM.opn_of hB] at hf
        have h5 : f = 5 := by
          split at hf
          · omega
          · exact hf.symm
        subst h5
        exact seal_Open_sum b off p m c bs w hr (by omega) hl ht h0 hB' (by rw [SealM.opn_of hB]; exact hf)
      · rw [SealM.opn_err hB hf'] at hf
        subst hf
        exact seal_Open_head b off p m c bs w hr (by omega) (by omega) hl f' (by rw [hB]) hf'

theorem seal_Open_good (a : Option Addr) (len cap : Nat) (bs : List Nat) (p : Nat) (w : World) (hr : Rd w a len bs) (hlc : len ≤ cap) (hl : len ≤ 9223372036854775000) (hp : p ≤ len) (ht : Tab w) (h0 : 0 < w.heap.size) (hok : SealM.opn (bs.drop p) = 0) (k q : Nat) (hk : (bs.drop p).getD 1 0 = k) (hq : SealM.blen (bs.drop p) = q) (B : List Nat) (hB : ((bs.drop p).drop 4).take q = B) :
    Calls Tryd.prog 9 #[.slice a len cap, .int .i64 (p : Int)] w fun e w' => ∃ g, e = .returned (.tuple #[.agg #[.int .u8 (k : Int), .int .i64 (p : Int), .slice (some ⟨g, 0, none⟩) q q], .int .i64 ((p + q + 8 : Nat) : Int), .int .i64 0]) ∧ Own w' w.heap.size (some ⟨g, 0, none⟩) q q B ∧ Below w.heap.size w w' := by
  have hs := hr.size
  subst hB
  rcases hb : SealM.bend (bs.drop p) with ⟨n, f'⟩
  by_cases hf' : f' = 0
  · subst hf'
    obtain ⟨hn, hl0, _, _, _⟩ := SealM.bend_ok hb
    rw [List.length_drop] at hl0
    obtain ⟨m, rfl⟩ : ∃ m, len = p + m := ⟨len - p, by omega⟩
    obtain ⟨c, rfl⟩ : ∃ c, cap = p + c := ⟨cap - p, by omega⟩
    obtain ⟨b, off, rfl, _, _⟩ : ∃ b off, a = some ⟨b, off, none⟩ ∧ b < w.heap.size ∧ ∀ i, i < p + m → w.cell? ⟨b, off + i, none⟩ = some (.int .u8 ((bs.getD i 0 : Nat) : Int)) := by
      rcases hr.cells with h3 | h3
      · omega
      · exact h3
    exact seal_Open_ok b off p m c bs w hr (by omega) hl ht h0 (by rw [hb, hn]) hok k q hk hq
  · rw [SealM.opn_err hb hf'] at hok
    exact absurd hok hf'

set_option maxRecDepth 100000 in
set_option maxHeartbeats 1000000 in
theorem lives_any (w : World) (ht : Tab w) (h0 : 0 < w.heap.size) :
    Calls Tryd.prog 7 #[] w fun e w' => e = .returned (.bool true) ∧ Below w.heap.size w w' := by
  have HT : Hid (Tab w) := ht
  clear ht
  have kc := fun (w : World) (C : Array Value) (n c : Nat) => Lib.run_convert_bytes_const (P := Tryd.prog) w 22 5 C n c Tryd.underlying22 Tryd.underlying5
  go_enter Tryd.func7, Tryd.ntmps7
  go_wp2_with fail
  have HB0 : Hid (Below w.heap.size w (w.alloc (.cells #[.int .u8 97, .int .u8 98] 5 (2, 3)))) := below_alloc w _
  refine (seal_Seal 5 (by omega) (some ⟨w.heap.size, 0, none⟩) 2 2 [97, 98] _ (Rd.new w _ _ _ [97, 98] (by decide) ?_) (by omega) (HT.out.below h0 HB0.out) (by simp)).mono ?_
  · intro i hi
    match i, hi with
    | 0, _ => rfl
    | 1, _ => rfl
  rintro e w1 ⟨g, rfl, ho, hb⟩
  have HB1 : Hid (Below w.heap.size w w1) := HB0.out.trans (hb.mono (by simp))
  have hok : SealM.opn (SealM.sealed 5 [97, 98]) = 0 := by
    have := SealM.opn_sealed 5 [97, 98] [] (by omega) (by decide) (by simp)
    rwa [List.append_nil] at this
  have HO1 : Hid (Own w1 _ (some ⟨g, 0, none⟩) (2 + 8) (2 + 8) (SealM.sealed 5 [97, 98])) := ho
  have HOK : Hid (SealM.opn (SealM.sealed 5 [97, 98]) = 0) := hok
  clear ho hb hok
  go_wp2_with fail
  refine (seal_Open_good (some ⟨g, 0, none⟩) (2 + 8) (2 + 8) (SealM.sealed 5 [97, 98]) 0 w1 HO1.out.rd (by omega) (by omega) (by omega) (HT.out.below h0 HB1.out) (Nat.lt_of_lt_of_le h0 HB1.out.size) (by rw [List.drop_zero]; exact HOK.out) 5 2 rfl (by decide) [97, 98] rfl).mono ?_
  rintro e w2 ⟨g2, rfl, ho2, hb2⟩
  have HB2 : Hid (Below w.heap.size w w2) := HB1.out.trans (hb2.mono HB1.out.size)
  have HO2 : Hid (Own w2 w1.heap.size (some ⟨g2, 0, none⟩) 2 2 [97, 98]) := ho2
  have k1 := conv_rd (ho2.below (below_alloc w2 (.cells #[.int .u8 5, .int .i64 0, .slice (some ⟨g2, 0, none⟩) 2 2] 32))).rd 2
  clear ho2 hb2
  go_wp2
  go_ret
  have e : ((str [97, 98]).toList == [97, 98]) = true := by decide +kernel
  refine ⟨?_, HB2.out.trans ((below_alloc w2 _).mono HB2.out.size)⟩
  show Ending.returned (Value.bool ((str [97, 98]).toList == [97, 98])) = _
  rw [e]
end Go.Proofs.YtbhljlafijdodabDoor
