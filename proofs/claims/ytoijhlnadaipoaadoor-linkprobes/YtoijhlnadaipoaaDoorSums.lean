/- The sums: what seal.More, seal.Sum and the reference's More, Sum compute, for every row of bytes. -/
import Derived.Test.YtoijhlnadaipoaaDoorBase
import Derived.Test.YtoijhlnadaipoaaDoorCrc
namespace Go.Proofs.YtoijhlnadaipoaaDoor
open Go.RowKit

/-- The table's cells hold the table. -/
def Tab (w : World) : Prop := ∀ i, i < 16 → w.cell? ⟨0, i, none⟩ = some (.int .u32 ((Crc.tab.getD i 0 : Nat) : Int))

theorem Tab.below {w w' : World} {B : Nat} (h : Tab w) (hB : 0 < B) (hb : Below B w w') : Tab w' := fun i hi => by
  rw [hb.cell (p := ⟨0, i, none⟩) hB]; exact h i hi

theorem tab_lt (i : Nat) (h : i < 16) : Crc.tab.getD i 0 < 4294967296 := by
  have : ∀ i, i < 16 → Crc.tab.getD i 0 < 4294967296 := by decide +kernel
  exact this i h

theorem not_u32 (s : Nat) (hs : s < 4294967296) : bits BinOp.xor IntKind.u32 IntKind.u32.max (s : Int) = ((s ^^^ 4294967295 : Nat) : Int) := by
  have e : IntKind.u32.max = ((4294967295 : Nat) : Int) := by decide
  rw [e, u32_xor_nat _ _ (by omega) hs, Nat.xor_comm]

set_option maxHeartbeats 400000 in
theorem seal_More (s : Nat) (hs : s < 4294967296) (a : Option Addr) (len cap : Nat) (bs : List Nat) (w : World) (hr : Rd w a len bs) (hl : len ≤ 9223372036854775807) (ht : Tab w) :
    Calls Tryd.prog 69 #[.int .u32 (s : Int), .slice a len cap] w fun e w' => e = .returned (.int .u32 ((Crc.more s bs : Nat) : Int)) ∧ w' = w := by
  have hn := not_u32 s hs
  have hlen := hr.size
  have hbyte := hr.byte
  have hs' : s ^^^ 4294967295 < 4294967296 := Crc.xor_lt hs (by omega)
  obtain ⟨s', HS⟩ : ∃ s', Hid (s' = s ^^^ 4294967295) := ⟨_, rfl⟩
  rw [← HS.out] at hn hs'
  rcases hr.cells with h0 | ⟨b, off, rfl, hlt, hc⟩
  · subst h0
    have hnil : bs = [] := List.eq_nil_of_length_eq_zero hlen
    subst hnil
    clear hr hbyte hlen
    have hn2 := not_u32 s' hs'
    go_enter Tryd.func69, Tryd.ntmps69
    go_wp2
    refine wp_loop_rounds 1 ?_
    rw [rounds_succ]
    go_wp2
    go_ret
    exact ⟨ret_int (by rw [HS.out]; rfl), rfl⟩
  · clear hr
    have hbl : ∀ k, bs.getD k 0 < 256 := getD_lt hbyte
    have HB : Hid (∀ x ∈ bs, x < 256) := hbyte
    have HL : Hid (bs.length = len) := hlen
    have HT : Hid (Tab w) := ht
    have HC : Hid (∀ i, i < len → w.cell? ⟨b, off + i, none⟩ = some (.int .u8 ((bs.getD i 0 : Nat) : Int))) := hc
    have HBL : Hid (∀ k, bs.getD k 0 < 256) := hbl
    clear hbyte hlen ht hc hbl
    go_enter Tryd.func69, Tryd.ntmps69
    go_wp2
    go_loop [5, 12] (fun r i => ∃ (k q : Nat), k ≤ len ∧ i = .int .i64 k ∧ r = .int .u32 (q : Int) ∧ q < 4294967296 ∧ Hid (q = Crc.reg s' (bs.take k))) (fun _ i => len - (intOf i).toNat)
    case atStart => exact ⟨0, s', Nat.zero_le _, rfl, rfl, hs', by simp [Hid, Crc.reg]⟩
    case round =>
      obtain ⟨k, q, hk, rfl, rfl, hq, HQ⟩ := hrel
      by_cases hlt : k < len
      · have hcx := HC.out k hlt
        obtain ⟨c, HCE⟩ : ∃ c, Hid (c = bs.getD k 0) := ⟨_, rfl⟩
        have hc := HBL.out k
        rw [← HCE.out] at hcx hc
        obtain ⟨x, HX⟩ : ∃ x, Hid (x = q ^^^ c) := ⟨_, rfl⟩
        have hx : x < 4294967296 := by rw [HX.out]; exact Crc.xor_lt hq (by omega)
        have e1 : bits BinOp.xor IntKind.u32 (q : Int) (c : Int) = (x : Int) := by rw [HX.out]; exact u32_xor_nat q c hq (by omega)
        obtain ⟨i, HI⟩ : ∃ i, Hid (i = x % 16) := ⟨_, rfl⟩
        have hi : i < 16 := by rw [HI.out]; omega
        have e2 : bits BinOp.and IntKind.u32 (x : Int) 15 = (i : Int) := by rw [HI.out, show (15 : Int) = ((15 : Nat) : Int) from rfl, u32_and_nat x 15 hx (by omega), nat_mask4]
        obtain ⟨t, HTE⟩ : ∃ t, Hid (t = Crc.tab.getD i 0) := ⟨_, rfl⟩
        have ht : t < 4294967296 := by rw [HTE.out]; exact tab_lt i hi
        have htc := HT.out i hi
        rw [← HTE.out] at htc
        obtain ⟨y, HY⟩ : ∃ y, Hid (y = x / 16 ^^^ t) := ⟨_, rfl⟩
        have hy : y < 4294967296 := by rw [HY.out]; exact Crc.xor_lt (by omega) ht
        have e3 : bits BinOp.xor IntKind.u32 ((x : Int) / 16) (t : Int) = (y : Int) := by
          rw [HY.out, show ((x : Int) / 16) = ((x / 16 : Nat) : Int) from rfl]; exact u32_xor_nat _ t (by omega) ht
        obtain ⟨j, HJ⟩ : ∃ j, Hid (j = y % 16) := ⟨_, rfl⟩
        have hj : j < 16 := by rw [HJ.out]; omega
        have e4 : bits BinOp.and IntKind.u32 (y : Int) 15 = (j : Int) := by rw [HJ.out, show (15 : Int) = ((15 : Nat) : Int) from rfl, u32_and_nat y 15 hy (by omega), nat_mask4]
        obtain ⟨u, HU⟩ : ∃ u, Hid (u = Crc.tab.getD j 0) := ⟨_, rfl⟩
        have hu : u < 4294967296 := by rw [HU.out]; exact tab_lt j hj
        have huc := HT.out j hj
        rw [← HU.out] at huc
        obtain ⟨z, HZ⟩ : ∃ z, Hid (z = y / 16 ^^^ u) := ⟨_, rfl⟩
        have hz : z < 4294967296 := by rw [HZ.out]; exact Crc.xor_lt (by omega) hu
        have e5 : bits BinOp.xor IntKind.u32 ((y : Int) / 16) (u : Int) = (z : Int) := by
          rw [HZ.out, show ((y : Int) / 16) = ((y / 16 : Nat) : Int) from rfl]; exact u32_xor_nat _ u (by omega) hu
        have HR : Hid (z = Crc.reg s' (bs.take (k + 1))) := by
          show z = _
          rw [take_succ_getD bs k (by rw [HL.out]; exact hlt), Crc.reg_snoc, ← HQ.out, ← HCE.out, ← Crc.nstep2_eq, ← HX.out]
          unfold Crc.nstep
          rw [HZ.out, HU.out, HJ.out, HY.out, HTE.out, HI.out]
        go_wp2
        go_round
        case rel => exact ⟨k + 1, z, by omega, by go_num, rfl, hz, HR⟩
        case measure => simp [intOf]; omega
      · have hn2 := not_u32 q hq
        go_wp2
        go_ret
        refine ⟨ret_int ?_, rfl⟩
        rw [HQ.out, HS.out, List.take_of_length_le (by rw [HL.out]; omega)]
        rfl

set_option maxHeartbeats 400000 in
theorem ref_More (s : Nat) (hs : s < 4294967296) (a : Option Addr) (len cap : Nat) (bs : List Nat) (w : World) (hr : Rd w a len bs) (hl : len ≤ 9223372036854775807) :
    Calls Tryd.prog 73 #[.int .u32 (s : Int), .slice a len cap] w fun e w' => e = .returned (.int .u32 ((Crc.more s bs : Nat) : Int)) ∧ w' = w := by
  have hn : bits BinOp.xor IntKind.u32 (s : Int) 4294967295 = ((s ^^^ 4294967295 : Nat) : Int) := u32_xor_nat s 4294967295 hs (by omega)
  have hlen := hr.size
  have hbyte := hr.byte
  have hs' : s ^^^ 4294967295 < 4294967296 := Crc.xor_lt hs (by omega)
  obtain ⟨s', HS⟩ : ∃ s', Hid (s' = s ^^^ 4294967295) := ⟨_, rfl⟩
  rw [← HS.out] at hn hs'
  rcases hr.cells with h0 | ⟨b, off, rfl, hlt, hc⟩
  · subst h0
    have hnil : bs = [] := List.eq_nil_of_length_eq_zero hlen
    subst hnil
    clear hr hbyte hlen
    have hn2 : bits BinOp.xor IntKind.u32 (s' : Int) 4294967295 = ((s' ^^^ 4294967295 : Nat) : Int) := u32_xor_nat s' 4294967295 hs' (by omega)
    go_enter Tryd.func73, Tryd.ntmps73
    go_wp2
    refine wp_loop_rounds 1 ?_
    rw [rounds_succ]
    go_wp2
    go_ret
    exact ⟨ret_int (by rw [HS.out]; rfl), rfl⟩
  · clear hr
    have HBL : Hid (∀ k, bs.getD k 0 < 256) := getD_lt hbyte
    have HL : Hid (bs.length = len) := hlen
    have HC : Hid (∀ i, i < len → w.cell? ⟨b, off + i, none⟩ = some (.int .u8 ((bs.getD i 0 : Nat) : Int))) := hc
    clear hbyte hlen hc
    go_enter Tryd.func73, Tryd.ntmps73
    go_wp2
    go_loop [5, 6] (fun r i => ∃ (k q : Nat), k ≤ len ∧ i = .int .i64 k ∧ r = .int .u32 (q : Int) ∧ q < 4294967296 ∧ Hid (q = Crc.reg s' (bs.take k))) (fun _ i => len - (intOf i).toNat)
    case atStart => exact ⟨0, s', Nat.zero_le _, rfl, rfl, hs', by simp [Hid, Crc.reg]⟩
    case round =>
      obtain ⟨k, q, hk, rfl, rfl, hq, HQ⟩ := hrel
      by_cases hlt : k < len
      · have hcx := HC.out k hlt
        obtain ⟨c, HCE⟩ : ∃ c, Hid (c = bs.getD k 0) := ⟨_, rfl⟩
        have hc := HBL.out k
        rw [← HCE.out] at hcx hc
        obtain ⟨x, HX⟩ : ∃ x, Hid (x = q ^^^ c) := ⟨_, rfl⟩
        have hx : x < 4294967296 := by rw [HX.out]; exact Crc.xor_lt hq (by omega)
        have e1 : bits BinOp.xor IntKind.u32 (q : Int) (c : Int) = (x : Int) := by rw [HX.out]; exact u32_xor_nat q c hq (by omega)
        have HR : Hid (Crc.bsteps 8 x = Crc.reg s' (bs.take (k + 1))) := by
          show _ = _
          rw [take_succ_getD bs k (by rw [HL.out]; exact hlt), Crc.reg_snoc, ← HQ.out, ← HCE.out, HX.out]
          rfl
        go_wp2
        go_loop [5, 7] (fun r i => ∃ (j y : Nat), j ≤ 8 ∧ i = .int .i64 j ∧ r = .int .u32 (y : Int) ∧ y < 4294967296 ∧ Hid (Crc.bsteps (8 - j) y = Crc.bsteps 8 x)) (fun _ i => 8 - (intOf i).toNat)
        case atStart => exact ⟨0, x, by omega, rfl, rfl, hx, rfl⟩
        case round =>
          obtain ⟨j, y, hj, rfl, rfl, hy, HY⟩ := hrel
          by_cases hlt8 : j < 8
          · have HN : Hid (Crc.bsteps (8 - (j + 1)) (Crc.bstep y) = Crc.bsteps 8 x) := by
              show _ = _
              rw [← HY.out, show 8 - j = (8 - (j + 1)) + 1 from by omega]
              rfl
            have hyl := Crc.bstep_lt hy
            by_cases hp : y % 2 = 1
            · have hp' : ((y : Int) % 2 == 1) = true := by rw [beq_iff_eq]; omega
              have HB : Hid (Crc.bstep y = y / 2 ^^^ 2197175160) := by show _ = _; unfold Crc.bstep; rw [if_pos hp]
              obtain ⟨z, HZ⟩ : ∃ z, Hid (z = y / 2 ^^^ 2197175160) := ⟨_, rfl⟩
              have e3 : bits BinOp.xor IntKind.u32 ((y : Int) / 2) 2197175160 = (z : Int) := by
                rw [HZ.out, show ((y : Int) / 2) = ((y / 2 : Nat) : Int) from rfl]; exact u32_xor_nat _ 2197175160 (by omega) (by omega)
              rw [HB.out, ← HZ.out] at HN hyl
              go_wp2
              go_round
              case rel => exact ⟨j + 1, z, by omega, by go_num, rfl, hyl, HN⟩
              case measure => simp [intOf]; omega
            · have hp' : ((y : Int) % 2 == 1) = false := by rw [beq_eq_false_iff_ne]; omega
              have HB : Hid (Crc.bstep y = y / 2) := by show _ = _; unfold Crc.bstep; rw [if_neg hp]
              rw [HB.out] at HN hyl
              go_wp2
              go_round
              case rel => exact ⟨j + 1, y / 2, by omega, by go_num, rfl, hyl, HN⟩
              case measure => simp [intOf]; omega
          · have h8 : 8 - j = 0 := by omega
            rw [h8] at HY
            go_wp2
            go_round
            case rel => exact ⟨k + 1, y, by omega, by go_num, rfl, hy, by show _ = _; rw [← HR.out, ← HY.out]; rfl⟩
            case measure => simp [intOf]; omega
      · have hn2 : bits BinOp.xor IntKind.u32 (q : Int) 4294967295 = ((q ^^^ 4294967295 : Nat) : Int) := u32_xor_nat q 4294967295 hq (by omega)
        go_wp2
        go_ret
        refine ⟨ret_int ?_, rfl⟩
        rw [HQ.out, HS.out, List.take_of_length_le (by rw [HL.out]; omega)]
        rfl

theorem seal_More0 (a : Option Addr) (len cap : Nat) (bs : List Nat) (w : World) (hr : Rd w a len bs) (hl : len ≤ 9223372036854775807) (ht : Tab w) :
    Calls Tryd.prog 69 #[.int .u32 0, .slice a len cap] w fun e w' => e = .returned (.int .u32 ((Crc.more 0 bs : Nat) : Int)) ∧ w' = w :=
  seal_More 0 (by omega) a len cap bs w hr hl ht
theorem ref_More0 (a : Option Addr) (len cap : Nat) (bs : List Nat) (w : World) (hr : Rd w a len bs) (hl : len ≤ 9223372036854775807) :
    Calls Tryd.prog 73 #[.int .u32 0, .slice a len cap] w fun e w' => e = .returned (.int .u32 ((Crc.more 0 bs : Nat) : Int)) ∧ w' = w :=
  ref_More 0 (by omega) a len cap bs w hr hl

theorem seal_Sum (a : Option Addr) (len cap : Nat) (bs : List Nat) (w : World) (hr : Rd w a len bs) (hl : len ≤ 9223372036854775807) (ht : Tab w) :
    Calls Tryd.prog 57 #[.slice a len cap] w fun e w' => e = .returned (.int .u32 ((Crc.more 0 bs : Nat) : Int)) ∧ w' = w := by
  have HT : Hid (Tab w) := ht
  clear ht
  go_enter Tryd.func57, Tryd.ntmps57
  go_wp2_with fail
  refine (seal_More0 a len cap bs w hr hl HT.out).mono ?_
  rintro e w' ⟨rfl, rfl⟩
  go_wp2
  go_ret
  exact ⟨rfl, rfl⟩

theorem ref_Sum (a : Option Addr) (len cap : Nat) (bs : List Nat) (w : World) (hr : Rd w a len bs) (hl : len ≤ 9223372036854775807) :
    Calls Tryd.prog 63 #[.slice a len cap] w fun e w' => e = .returned (.int .u32 ((Crc.more 0 bs : Nat) : Int)) ∧ w' = w := by
  go_enter Tryd.func63, Tryd.ntmps63
  go_wp2_with fail
  refine (ref_More0 a len cap bs w hr hl).mono ?_
  rintro e w' ⟨rfl, rfl⟩
  go_wp2
  go_ret
  exact ⟨rfl, rfl⟩

/-- The sum of the nine digits, as the document gives it. -/
theorem digits : Crc.more 0 [49, 50, 51, 52, 53, 54, 55, 56, 57] = 3808858755 := by decide +kernel

end Go.Proofs.YtoijhlnadaipoaaDoor
