/- A pack of texts: Sums SealM Store Step SealPut SealTake SealOpen SealLives Four SealRef. -/
import Derived.Test.YtbloomepdchjhaaDoorBase
import Derived.Test.YtbloomepdchjhaaDoorCrc
import Derived.Test.YtbloomepdchjhaaDoorCrcApart
import Derived.Laws.CopyOwn
import Derived.Deep.QuietTactic
import Derived.BigQuiet
import Derived.Handy
import Derived.Deep.RegionHeld3
/- The sums: what seal.More, seal.Sum and the reference's More, Sum compute, for every row of bytes. -/
namespace Go.Proofs.YtbloomepdchjhaaDoor
open Go.RowKit

/-- The table's cells hold the table. -/
def Tab (w : World) : Prop := ∀ i, i < 16 → w.cell? ⟨0, i, none⟩ = some (.int .u32 ((Crc.tab.getD i 0 : Nat) : Int))

theorem Tab.below {w w' : World} {B : Nat} (h : Tab w) (hB : 0 < B) (hb : Below B w w') : Tab w' := fun i hi => by
  rw [hb.cell (p := ⟨0, i, none⟩) hB]; exact h i hi

theorem tab_lt (i : Nat) (h : i < 16) : Crc.tab.getD i 0 < 4294967296 := by
  have : ∀ i, i < 16 → Crc.tab.getD i 0 < 4294967296 := by decide +kernel
  exact this i h

theorem not_u32 (s : Nat) (hs : s < 4294967296) : bits BinOp.xor IntKind.u32 IntKind.u32.max (s : Int) = ((s ^^^ 4294967295 : Nat) : Int) := by
  have e : IntKind.u32.max = ((4294967295 : Nat) : Int) := by decide
  rw [e, u32_xor_nat _ _ (by omega) hs, Nat.xor_comm]

set_option maxHeartbeats 400000 in
theorem seal_More (s : Nat) (hs : s < 4294967296) (a : Option Addr) (len cap : Nat) (bs : List Nat) (w : World) (hr : Rd w a len bs) (hl : len ≤ 9223372036854775807) (ht : Tab w) :
    Calls Tryd.prog 63 #[.int .u32 (s : Int), .slice a len cap] w fun e w' => e = .returned (.int .u32 ((Crc.more s bs : Nat) : Int)) ∧ w' = w := by
  have hn := not_u32 s hs
  have hlen := hr.size
  have hbyte := hr.byte
  have hs' : s ^^^ 4294967295 < 4294967296 := Crc.xor_lt hs (by omega)
  obtain ⟨s', HS⟩ : ∃ s', Hid (s' = s ^^^ 4294967295) := ⟨_, rfl⟩
  rw [← HS.out] at hn hs'
  rcases hr.cells with h0 | ⟨b, off, rfl, hlt, hc⟩
  · subst h0
    have hnil : bs = [] := List.eq_nil_of_length_eq_zero hlen
    subst hnil
    clear hr hbyte hlen
    have hn2 := not_u32 s' hs'
    go_enter Tryd.func63, Tryd.ntmps63
    go_wp2
    refine wp_loop_rounds 1 ?_
    rw [rounds_succ]
    go_wp2
    go_ret
    exact ⟨ret_int (by rw [HS.out]; rfl), rfl⟩
  · clear hr
    have hbl : ∀ k, bs.getD k 0 < 256 := getD_lt hbyte
    have HB : Hid (∀ x ∈ bs, x < 256) := hbyte
    have HL : Hid (bs.length = len) := hlen
    have HT : Hid (Tab w) := ht
    have HC : Hid (∀ i, i < len → w.cell? ⟨b, off + i, none⟩ = some (.int .u8 ((bs.getD i 0 : Nat) : Int))) := hc
    have HBL : Hid (∀ k, bs.getD k 0 < 256) := hbl
    clear hbyte hlen ht hc hbl
    go_enter Tryd.func63, Tryd.ntmps63
    go_wp2
    go_loop [5, 12] (fun r i => ∃ (k q : Nat), k ≤ len ∧ i = .int .i64 k ∧ r = .int .u32 (q : Int) ∧ q < 4294967296 ∧ Hid (q = Crc.reg s' (bs.take k))) (fun _ i => len - (intOf i).toNat)
    case atStart => exact ⟨0, s', Nat.zero_le _, rfl, rfl, hs', by simp [Hid, Crc.reg]⟩
    case round =>
      obtain ⟨k, q, hk, rfl, rfl, hq, HQ⟩ := hrel
      by_cases hlt : k < len
      · have hcx := HC.out k hlt
        obtain ⟨c, HCE⟩ : ∃ c, Hid (c = bs.getD k 0) := ⟨_, rfl⟩
        have hc := HBL.out k
        rw [← HCE.out] at hcx hc
        obtain ⟨x, HX⟩ : ∃ x, Hid (x = q ^^^ c) := ⟨_, rfl⟩
        have hx : x < 4294967296 := by rw [HX.out]; exact Crc.xor_lt hq (by omega)
        have e1 : bits BinOp.xor IntKind.u32 (q : Int) (c : Int) = (x : Int) := by rw [HX.out]; exact u32_xor_nat q c hq (by omega)
        obtain ⟨i, HI⟩ : ∃ i, Hid (i = x % 16) := ⟨_, rfl⟩
        have hi : i < 16 := by rw [HI.out]; omega
        have e2 : bits BinOp.and IntKind.u32 (x : Int) 15 = (i : Int) := by rw [HI.out, show (15 : Int) = ((15 : Nat) : Int) from rfl, u32_and_nat x 15 hx (by omega), nat_mask4]
        obtain ⟨t, HTE⟩ : ∃ t, Hid (t = Crc.tab.getD i 0) := ⟨_, rfl⟩
        have ht : t < 4294967296 := by rw [HTE.out]; exact tab_lt i hi
        have htc := HT.out i hi
        rw [← HTE.out] at htc
        obtain ⟨y, HY⟩ : ∃ y, Hid (y = x / 16 ^^^ t) := ⟨_, rfl⟩
        have hy : y < 4294967296 := by rw [HY.out]; exact Crc.xor_lt (by omega) ht
        have e3 : bits BinOp.xor IntKind.u32 ((x : Int) / 16) (t : Int) = (y : Int) := by
          rw [HY.out, show ((x : Int) / 16) = ((x / 16 : Nat) : Int) from rfl]; exact u32_xor_nat _ t (by omega) ht
        obtain ⟨j, HJ⟩ : ∃ j, Hid (j = y % 16) := ⟨_, rfl⟩
        have hj : j < 16 := by rw [HJ.out]; omega
        have e4 : bits BinOp.and IntKind.u32 (y : Int) 15 = (j : Int) := by rw [HJ.out, show (15 : Int) = ((15 : Nat) : Int) from rfl, u32_and_nat y 15 hy (by omega), nat_mask4]
        obtain ⟨u, HU⟩ : ∃ u, Hid (u = Crc.tab.getD j 0) := ⟨_, rfl⟩
        have hu : u < 4294967296 := by rw [HU.out]; exact tab_lt j hj
        have huc := HT.out j hj
        rw [← HU.out] at huc
        obtain ⟨z, HZ⟩ : ∃ z, Hid (z = y / 16 ^^^ u) := ⟨_, rfl⟩
        have hz : z < 4294967296 := by rw [HZ.out]; exact Crc.xor_lt (by omega) hu
        have e5 : bits BinOp.xor IntKind.u32 ((y : Int) / 16) (u : Int) = (z : Int) := by
          rw [HZ.out, show ((y : Int) / 16) = ((y / 16 : Nat) : Int) from rfl]; exact u32_xor_nat _ u (by omega) hu
        have HR : Hid (z = Crc.reg s' (bs.take (k + 1))) := by
          show z = _
          rw [take_succ_getD bs k (by rw [HL.out]; exact hlt), Crc.reg_snoc, ← HQ.out, ← HCE.out, ← Crc.nstep2_eq, ← HX.out]
          unfold Crc.nstep
          rw [HZ.out, HU.out, HJ.out, HY.out, HTE.out, HI.out]
        go_wp2
        go_round
        case rel => exact ⟨k + 1, z, by omega, by go_num, rfl, hz, HR⟩
        case measure => simp [intOf]; omega
      · have hn2 := not_u32 q hq
        go_wp2
        go_ret
        refine ⟨ret_int ?_, rfl⟩
        rw [HQ.out, HS.out, List.take_of_length_le (by rw [HL.out]; omega)]
        rfl

set_option maxHeartbeats 400000 in
theorem ref_More (s : Nat) (hs : s < 4294967296) (a : Option Addr) (len cap : Nat) (bs : List Nat) (w : World) (hr : Rd w a len bs) (hl : len ≤ 9223372036854775807) :
    Calls Tryd.prog 67 #[.int .u32 (s : Int), .slice a len cap] w fun e w' => e = .returned (.int .u32 ((Crc.more s bs : Nat) : Int)) ∧ w' = w := by
  have hn : bits BinOp.xor IntKind.u32 (s : Int) 4294967295 = ((s ^^^ 4294967295 : Nat) : Int) := u32_xor_nat s 4294967295 hs (by omega)
  have hlen := hr.size
  have hbyte := hr.byte
  have hs' : s ^^^ 4294967295 < 4294967296 := Crc.xor_lt hs (by omega)
  obtain ⟨s', HS⟩ : ∃ s', Hid (s' = s ^^^ 4294967295) := ⟨_, rfl⟩
  rw [← HS.out] at hn hs'
  rcases hr.cells with h0 | ⟨b, off, rfl, hlt, hc⟩
  · subst h0
    have hnil : bs = [] := List.eq_nil_of_length_eq_zero hlen
    subst hnil
    clear hr hbyte hlen
    have hn2 : bits BinOp.xor IntKind.u32 (s' : Int) 4294967295 = ((s' ^^^ 4294967295 : Nat) : Int) := u32_xor_nat s' 4294967295 hs' (by omega)
    go_enter Tryd.func67, Tryd.ntmps67
    go_wp2
    refine wp_loop_rounds 1 ?_
    rw [rounds_succ]
    go_wp2
    go_ret
    exact ⟨ret_int (by rw [HS.out]; rfl), rfl⟩
  · clear hr
    have HBL : Hid (∀ k, bs.getD k 0 < 256) := getD_lt hbyte
    have HL : Hid (bs.length = len) := hlen
    have HC : Hid (∀ i, i < len → w.cell? ⟨b, off + i, none⟩ = some (.int .u8 ((bs.getD i 0 : Nat) : Int))) := hc
    clear hbyte hlen hc
    go_enter Tryd.func67, Tryd.ntmps67
    go_wp2
    go_loop [5, 6] (fun r i => ∃ (k q : Nat), k ≤ len ∧ i = .int .i64 k ∧ r = .int .u32 (q : Int) ∧ q < 4294967296 ∧ Hid (q = Crc.reg s' (bs.take k))) (fun _ i => len - (intOf i).toNat)
    case atStart => exact ⟨0, s', Nat.zero_le _, rfl, rfl, hs', by simp [Hid, Crc.reg]⟩
    case round =>
      obtain ⟨k, q, hk, rfl, rfl, hq, HQ⟩ := hrel
      by_cases hlt : k < len
      · have hcx := HC.out k hlt
        obtain ⟨c, HCE⟩ : ∃ c, Hid (c = bs.getD k 0) := ⟨_, rfl⟩
        have hc := HBL.out k
        rw [← HCE.out] at hcx hc
        obtain ⟨x, HX⟩ : ∃ x, Hid (x = q ^^^ c) := ⟨_, rfl⟩
        have hx : x < 4294967296 := by rw [HX.out]; exact Crc.xor_lt hq (by omega)
        have e1 : bits BinOp.xor IntKind.u32 (q : Int) (c : Int) = (x : Int) := by rw [HX.out]; exact u32_xor_nat q c hq (by omega)
        have HR : Hid (Crc.bsteps 8 x = Crc.reg s' (bs.take (k + 1))) := by
          show _ = _
          rw [take_succ_getD bs k (by rw [HL.out]; exact hlt), Crc.reg_snoc, ← HQ.out, ← HCE.out, HX.out]
          rfl
        go_wp2
        go_loop [5, 7] (fun r i => ∃ (j y : Nat), j ≤ 8 ∧ i = .int .i64 j ∧ r = .int .u32 (y : Int) ∧ y < 4294967296 ∧ Hid (Crc.bsteps (8 - j) y = Crc.bsteps 8 x)) (fun _ i => 8 - (intOf i).toNat)
        case atStart => exact ⟨0, x, by omega, rfl, rfl, hx, rfl⟩
        case round =>
          obtain ⟨j, y, hj, rfl, rfl, hy, HY⟩ := hrel
          by_cases hlt8 : j < 8
          · have HN : Hid (Crc.bsteps (8 - (j + 1)) (Crc.bstep y) = Crc.bsteps 8 x) := by
              show _ = _
              rw [← HY.out, show 8 - j = (8 - (j + 1)) + 1 from by omega]
              rfl
            have hyl := Crc.bstep_lt hy
            by_cases hp : y % 2 = 1
            · have hp' : ((y : Int) % 2 == 1) = true := by rw [beq_iff_eq]; omega
              have HB : Hid (Crc.bstep y = y / 2 ^^^ 2197175160) := by show _ = _; unfold Crc.bstep; rw [if_pos hp]
              obtain ⟨z, HZ⟩ : ∃ z, Hid (z = y / 2 ^^^ 2197175160) := ⟨_, rfl⟩
              have e3 : bits BinOp.xor IntKind.u32 ((y : Int) / 2) 2197175160 = (z : Int) := by
                rw [HZ.out, show ((y : Int) / 2) = ((y / 2 : Nat) : Int) from rfl]; exact u32_xor_nat _ 2197175160 (by omega) (by omega)
              rw [HB.out, ← HZ.out] at HN hyl
              go_wp2
              go_round
              case rel => exact ⟨j + 1, z, by omega, by go_num, rfl, hyl, HN⟩
              case measure => simp [intOf]; omega
            · have hp' : ((y : Int) % 2 == 1) = false := by rw [beq_eq_false_iff_ne]; omega
              have HB : Hid (Crc.bstep y = y / 2) := by show _ = _; unfold Crc.bstep; rw [if_neg hp]
              rw [HB.out] at HN hyl
              go_wp2
              go_round
              case rel => exact ⟨j + 1, y / 2, by omega, by go_num, rfl, hyl, HN⟩
              case measure => simp [intOf]; omega
          · have h8 : 8 - j = 0 := by omega
            rw [h8] at HY
            go_wp2
            go_round
            case rel => exact ⟨k + 1, y, by omega, by go_num, rfl, hy, by show _ = _; rw [← HR.out, ← HY.out]; rfl⟩
            case measure => simp [intOf]; omega
      · have hn2 : bits BinOp.xor IntKind.u32 (q : Int) 4294967295 = ((q ^^^ 4294967295 : Nat) : Int) := u32_xor_nat q 4294967295 hq (by omega)
        go_wp2
        go_ret
        refine ⟨ret_int ?_, rfl⟩
        rw [HQ.out, HS.out, List.take_of_length_le (by rw [HL.out]; omega)]
        rfl

theorem seal_More0 (a : Option Addr) (len cap : Nat) (bs : List Nat) (w : World) (hr : Rd w a len bs) (hl : len ≤ 9223372036854775807) (ht : Tab w) :
    Calls Tryd.prog 63 #[.int .u32 0, .slice a len cap] w fun e w' => e = .returned (.int .u32 ((Crc.more 0 bs : Nat) : Int)) ∧ w' = w :=
  seal_More 0 (by omega) a len cap bs w hr hl ht
theorem ref_More0 (a : Option Addr) (len cap : Nat) (bs : List Nat) (w : World) (hr : Rd w a len bs) (hl : len ≤ 9223372036854775807) :
    Calls Tryd.prog 67 #[.int .u32 0, .slice a len cap] w fun e w' => e = .returned (.int .u32 ((Crc.more 0 bs : Nat) : Int)) ∧ w' = w :=
  ref_More 0 (by omega) a len cap bs w hr hl

theorem seal_Sum (a : Option Addr) (len cap : Nat) (bs : List Nat) (w : World) (hr : Rd w a len bs) (hl : len ≤ 9223372036854775807) (ht : Tab w) :
    Calls Tryd.prog 51 #[.slice a len cap] w fun e w' => e = .returned (.int .u32 ((Crc.more 0 bs : Nat) : Int)) ∧ w' = w := by
  have HT : Hid (Tab w) := ht
  clear ht
  go_enter Tryd.func51, Tryd.ntmps51
  go_wp2_with fail
  refine (seal_More0 a len cap bs w hr hl HT.out).mono ?_
  rintro e w' ⟨rfl, rfl⟩
  go_wp2
  go_ret
  exact ⟨rfl, rfl⟩

theorem ref_Sum (a : Option Addr) (len cap : Nat) (bs : List Nat) (w : World) (hr : Rd w a len bs) (hl : len ≤ 9223372036854775807) :
    Calls Tryd.prog 57 #[.slice a len cap] w fun e w' => e = .returned (.int .u32 ((Crc.more 0 bs : Nat) : Int)) ∧ w' = w := by
  go_enter Tryd.func57, Tryd.ntmps57
  go_wp2_with fail
  refine (ref_More0 a len cap bs w hr hl).mono ?_
  rintro e w' ⟨rfl, rfl⟩
  go_wp2
  go_ret
  exact ⟨rfl, rfl⟩

/-- The sum of the nine digits, as the document gives it. -/
theorem digits : Crc.more 0 [49, 50, 51, 52, 53, 54, 55, 56, 57] = 3808858755 := by decide +kernel

end Go.Proofs.YtbloomepdchjhaaDoor
/- What a seal's bytes are, and what stands at the head of a row of bytes: plain mathematics, of no program. -/
namespace Go.Proofs.YtbloomepdchjhaaDoor.SealM

/-- What a seal's sum is of: kind, length, body. -/
def inner (k : Nat) (bs : List Nat) : List Nat := k :: bs.length % 256 :: bs.length / 256 :: bs
/-- A seal. -/
def sealed (k : Nat) (bs : List Nat) : List Nat := 167 :: (inner k bs ++ Crc.four (Crc.more 0 (inner k bs)))
/-- The number of four bytes, the lowest first. -/
def le32 (l : List Nat) : Nat := l.getD 0 0 + 256 * l.getD 1 0 + 65536 * l.getD 2 0 + 16777216 * l.getD 3 0
/-- The length that a head tells. -/
def blen (l : List Nat) : Nat := l.getD 2 0 + 256 * l.getD 3 0
/-- Where the body ends, and the error. -/
def bend (l : List Nat) : Nat × Nat :=
  if l.length = 0 then (0, 3) else if l.getD 0 0 ≠ 167 then (0, 4) else if l.length < 4 then (0, 3) else if 4096 < blen l then (0, 6) else if l.length < blen l + 8 then (0, 3) else (4 + blen l, 0)
/-- The error that the seal at the head is told with, 0 of a right one. -/
def opn (l : List Nat) : Nat :=
  match bend l with
  | (n, 0) => if le32 (l.drop n) = Crc.more 0 ((l.drop 1).take (n - 1)) then 0 else 5
  | (_, f) => f

theorem inner_length (k : Nat) (bs : List Nat) : (inner k bs).length = bs.length + 3 := by simp [inner]
theorem sealed_length (k : Nat) (bs : List Nat) : (sealed k bs).length = bs.length + 8 := by simp [sealed, inner, Crc.four]
theorem inner_byte {k : Nat} {bs : List Nat} (hk : k < 256) (hb : ∀ x ∈ bs, x < 256) (hl : bs.length ≤ 4096) : ∀ x ∈ inner k bs, x < 256 := by
  intro x hx
  simp only [inner, List.mem_cons] at hx
  rcases hx with rfl | rfl | rfl | hx
  · exact hk
  · omega
  · omega
  · exact hb x hx
theorem sealed_byte {k : Nat} {bs : List Nat} (hk : k < 256) (hb : ∀ x ∈ bs, x < 256) (hl : bs.length ≤ 4096) : ∀ x ∈ sealed k bs, x < 256 := by
  intro x hx
  simp only [sealed, List.mem_cons, List.mem_append] at hx
  rcases hx with rfl | hx | hx
  · omega
  · exact inner_byte hk hb hl x hx
  · exact Crc.four_byte _ x hx

theorem bend_ok {l : List Nat} {n : Nat} (h : bend l = (n, 0)) : n = 4 + blen l ∧ 0 < l.length ∧ l.getD 0 0 = 167 ∧ blen l ≤ 4096 ∧ blen l + 8 ≤ l.length := by
  unfold bend at h
  split at h
  · simp at h
  split at h
  · simp at h
  split at h
  · simp at h
  split at h
  · simp at h
  split at h
  · simp at h
  · simp only [Prod.mk.injEq, and_true] at h
    refine ⟨h.symm, ?_, ?_, ?_, ?_⟩ <;> first | omega | (rename_i h1 _ _ _; exact Classical.not_not.1 h1)
theorem bend_err {l : List Nat} {n f : Nat} (h : bend l = (n, f)) (hf : f ≠ 0) : n = 0 := by
  unfold bend at h
  split at h
  · simp at h; omega
  split at h
  · simp at h; omega
  split at h
  · simp at h; omega
  split at h
  · simp at h; omega
  split at h
  · simp at h; omega
  · simp at h; omega
theorem opn_err {l : List Nat} {n f : Nat} (h : bend l = (n, f)) (hf : f ≠ 0) : opn l = f := by
  unfold opn
  rw [h]
  cases f with
  | zero => exact absurd rfl hf
  | succ f => rfl
theorem opn_of {l : List Nat} {n : Nat} (h : bend l = (n, 0)) : opn l = if le32 (l.drop n) = Crc.more 0 ((l.drop 1).take (n - 1)) then 0 else 5 := by
  unfold opn
  rw [h]
  rfl

theorem le32_four (n : Nat) (h : n < 4294967296) (zs : List Nat) : le32 (Crc.four n ++ zs) = n := by
  simp only [le32, Crc.four, List.cons_append, List.nil_append, List.getD_cons_zero, List.getD_cons_succ]
  omega
theorem four_le32 (l : List Nat) (hl : 4 ≤ l.length) (hb : ∀ x ∈ l, x < 256) : Crc.four (le32 l) = l.take 4 := by
  match l, hl with
  | a :: b :: c :: d :: r, _ =>
    have ha := hb a (by simp)
    have hb' := hb b (by simp)
    have hc := hb c (by simp)
    have hd := hb d (by simp)
    simp only [Crc.four, le32, List.getD_cons_zero, List.getD_cons_succ, List.take_succ_cons, List.take_zero, List.cons.injEq, and_true]
    omega
theorem le32_lt (l : List Nat) (hb : ∀ x ∈ l, x < 256) : le32 l < 4294967296 := by
  have g : ∀ i, l.getD i 0 < 256 := by
    intro i
    rw [List.getD_eq_getElem?_getD]
    by_cases hi : i < l.length
    · rw [List.getElem?_eq_getElem hi]; exact hb _ (List.getElem_mem hi)
    · rw [List.getElem?_eq_none (by omega)]; simp
  have := g 0
  have := g 1
  have := g 2
  have := g 3
  unfold le32
  omega

/-- A head's first four bytes tell all of 'bend' but the row's length. -/
theorem blen_sealed (k : Nat) (bs zs : List Nat) : blen (sealed k bs ++ zs) = bs.length := by
  simp only [blen, sealed, inner, List.cons_append, List.getD_cons_zero, List.getD_cons_succ]
  omega

theorem bend_sealed (k : Nat) (bs zs : List Nat) (hl : bs.length ≤ 4096) : bend (sealed k bs ++ zs) = (4 + bs.length, 0) := by
  have h1 := blen_sealed k bs zs
  have h2 := sealed_length k bs
  have h0 : (sealed k bs ++ zs).getD 0 0 = 167 := rfl
  unfold bend
  rw [h1, List.length_append, h2, h0, if_neg (by omega), if_neg (by simp), if_neg (by omega), if_neg (by omega), if_neg (by omega)]

theorem opn_sealed (k : Nat) (bs zs : List Nat) (hk : k < 256) (hb : ∀ x ∈ bs, x < 256) (hl : bs.length ≤ 4096) : opn (sealed k bs ++ zs) = 0 := by
  rw [opn_of (bend_sealed k bs zs hl)]
  have hd : (sealed k bs ++ zs).drop (4 + bs.length) = Crc.four (Crc.more 0 (inner k bs)) ++ zs := by
    have e : sealed k bs ++ zs = (167 :: inner k bs) ++ (Crc.four (Crc.more 0 (inner k bs)) ++ zs) := by simp [sealed]
    rw [e, show 4 + bs.length = (167 :: inner k bs).length from by simp [inner]; omega, List.drop_left]
  have ht : ((sealed k bs ++ zs).drop 1).take (4 + bs.length - 1) = inner k bs := by
    have e : (sealed k bs ++ zs).drop 1 = inner k bs ++ (Crc.four (Crc.more 0 (inner k bs)) ++ zs) := by simp [sealed]
    rw [e, show 4 + bs.length - 1 = (inner k bs).length from by rw [inner_length]; omega, List.take_left]
  rw [hd, ht, le32_four _ (Crc.more_lt (by omega) (inner_byte hk hb hl)), if_pos rfl]

theorem body_sealed (k : Nat) (bs zs : List Nat) : ((sealed k bs ++ zs).drop 4).take bs.length = bs := by
  have e : (sealed k bs ++ zs).drop 4 = bs ++ (Crc.four (Crc.more 0 (inner k bs)) ++ zs) := by simp [sealed, inner]
  rw [e, List.take_left]
theorem kind_sealed (k : Nat) (bs zs : List Nat) : (sealed k bs ++ zs).getD 1 0 = k := rfl

/-- A seal that is cut short. -/
theorem opn_cut (k : Nat) (bs : List Nat) (hl : bs.length ≤ 4096) (j : Nat) (hj : j < bs.length + 8) : opn ((sealed k bs).take j) = 3 := by
  have hs := sealed_length k bs
  have hlen : ((sealed k bs).take j).length = j := by rw [List.length_take]; omega
  have hget : ∀ i, i < j → ((sealed k bs).take j).getD i 0 = (sealed k bs).getD i 0 := by
    intro i hi
    simp only [List.getD_eq_getElem?_getD, List.getElem?_take_of_lt hi]
  have hbend : bend ((sealed k bs).take j) = (0, 3) := by
    unfold bend
    rw [hlen]
    by_cases h0 : j = 0
    · rw [if_pos h0]
    · rw [if_neg h0, hget 0 (by omega), if_neg (by simp [sealed])]
      by_cases h4 : j < 4
      · rw [if_pos h4]
      · have hb : blen ((sealed k bs).take j) = bs.length := by
          have := blen_sealed k bs []
          rw [List.append_nil] at this
          unfold blen at *
          rw [hget 2 (by omega), hget 3 (by omega), this]
        rw [if_neg h4, hb, if_neg (by omega), if_pos hj]
  exact opn_err hbend (by omega)

/-- Just the right sum makes a row and its sum rest. -/
theorem rest_iff (p : List Nat) (hp : ∀ x ∈ p, x < 256) (s : Nat) (hs : s < 4294967296) : Crc.more 0 (p ++ Crc.four s) = 1214729159 ↔ s = Crc.more 0 p := by
  constructor
  · intro h
    have h1 := Crc.rests p hp
    rw [← h] at h1
    have hm := Crc.more_lt (s := 0) (bs := p) (by omega) hp
    have key : ∀ t, t < 4294967296 → Crc.more 0 (p ++ Crc.four t) = Crc.bsteps 32 (Crc.reg (0 ^^^ 4294967295) p ^^^ t) ^^^ 4294967295 := by
      intro t ht
      unfold Crc.more
      rw [Crc.reg_append, Crc.reg_pack, Crc.pack_four t ht]
      rfl
    rw [key s hs, key _ hm] at h1
    have h2 := congrArg (fun x => x ^^^ 4294967295) h1
    simp only [Crc.xor_back] at h2
    rw [Crc.bsteps_xor, Crc.bsteps_xor 32 _ s] at h2
    have h3 : Crc.bsteps 32 (Crc.more 0 p) = Crc.bsteps 32 s := by
      have := congrArg (fun x => Crc.bsteps 32 (Crc.reg (0 ^^^ 4294967295) p) ^^^ x) h2
      simpa [← Nat.xor_assoc] using this
    have h4 : Crc.bsteps 32 (Crc.more 0 p ^^^ s) = 0 := by rw [Crc.bsteps_xor, h3, Nat.xor_self]
    exact (Crc.xor_eq_zero.1 (Crc.bsteps_inj0 32 (Crc.xor_lt hm hs) h4)).symm
  · rintro rfl
    exact Crc.rests p hp

/-- A seal of which up to four bytes behind the length are changed. -/
theorem opn_turned (k : Nat) (bs : List Nat) (hk : k < 256) (hb : ∀ x ∈ bs, x < 256) (hl : bs.length ≤ 4096) (p : Nat) (es : List Nat) (he : ∀ x ∈ es, x < 256) (h4 : es.length ≤ 4) (hp4 : 4 ≤ p) (hp : p + es.length ≤ bs.length + 8) :
    (opn (Crc.mixed (sealed k bs) p es) = 0 ↔ ∀ x ∈ es, x = 0) ∧ (opn (Crc.mixed (sealed k bs) p es) = 0 ∨ opn (Crc.mixed (sealed k bs) p es) = 5) := by
  have hs := sealed_length k bs
  have hml : (Crc.mixed (sealed k bs) p es).length = bs.length + 8 := by rw [Crc.mixed_length (by omega), hs]
  have hlow : ∀ i, i < 4 → (Crc.mixed (sealed k bs) p es).getD i 0 = (sealed k bs).getD i 0 := by
    intro i hi
    rw [Crc.mixed_get (by omega) i (by omega), if_neg (by omega), Nat.xor_zero]
  have hbl : blen (Crc.mixed (sealed k bs) p es) = bs.length := by
    have := blen_sealed k bs []
    rw [List.append_nil] at this
    unfold blen at *
    rw [hlow 2 (by omega), hlow 3 (by omega), this]
  have hbend : bend (Crc.mixed (sealed k bs) p es) = (4 + bs.length, 0) := by
    unfold bend
    rw [hbl, hml, hlow 0 (by omega), if_neg (by omega), if_neg (by simp [sealed]), if_neg (by omega), if_neg (by omega), if_neg (by omega)]
  rw [opn_of hbend]
  obtain ⟨M, hM⟩ : ∃ M, M = Crc.mixed (sealed k bs) p es := ⟨_, rfl⟩
  have hMb : ∀ x ∈ M, x < 256 := by
    intro x hx
    rw [hM] at hx
    obtain ⟨i, hi, rfl⟩ := List.getElem_of_mem hx
    have e1 := Crc.mixed_get (bs := sealed k bs) (p := p) (es := es) (by omega) i (by omega)
    rw [List.getD_eq_getElem?_getD, List.getElem?_eq_getElem hi, Option.getD_some] at e1
    rw [e1]
    have g : ∀ (l : List Nat), (∀ x ∈ l, x < 256) → ∀ i, l.getD i 0 < 256 := by
      intro l hl i
      rw [List.getD_eq_getElem?_getD]
      by_cases hi : i < l.length
      · rw [List.getElem?_eq_getElem hi]; exact hl _ (List.getElem_mem hi)
      · rw [List.getElem?_eq_none (by omega)]; simp
    refine Nat.xor_lt_two_pow (n := 8) (g _ (sealed_byte hk hb hl) i) ?_
    split
    · exact g _ he _
    · omega
  have hMl : M.length = bs.length + 8 := by rw [hM, hml]
  rw [← hM]
  have hd4 : (M.drop (4 + bs.length)).length = 4 := by rw [List.length_drop]; omega
  have hfour := four_le32 (M.drop (4 + bs.length)) (by omega) (fun x hx => hMb x (List.mem_of_mem_drop hx))
  rw [List.take_of_length_le (by omega)] at hfour
  have hsplit : M.drop 1 = (M.drop 1).take (4 + bs.length - 1) ++ Crc.four (le32 (M.drop (4 + bs.length))) := by
    rw [hfour]
    conv => lhs; rw [← List.take_append_drop (4 + bs.length - 1) (M.drop 1)]
    rw [List.drop_drop, show 1 + (4 + bs.length - 1) = 4 + bs.length from by omega]
  have hri := rest_iff ((M.drop 1).take (4 + bs.length - 1)) (fun x hx => hMb x (List.mem_of_mem_drop (List.mem_of_mem_take hx))) (le32 (M.drop (4 + bs.length))) (le32_lt _ (fun x hx => hMb x (List.mem_of_mem_drop hx)))
  rw [← hsplit] at hri
  have hM1 : M.drop 1 = Crc.mixed ((sealed k bs).drop 1) (p - 1) es := by
    have hl1 : ((sealed k bs).drop 1).length = bs.length + 7 := by rw [List.length_drop]; omega
    refine Crc.ext_getD (by rw [Crc.mixed_length (by omega), List.length_drop]; omega) fun j hj => ?_
    rw [List.length_drop] at hj
    rw [Crc.mixed_get (by omega) j (by omega)]
    have e1 : (M.drop 1).getD j 0 = M.getD (1 + j) 0 := by simp only [List.getD_eq_getElem?_getD, List.getElem?_drop]
    have e2 : ((sealed k bs).drop 1).getD j 0 = (sealed k bs).getD (1 + j) 0 := by simp only [List.getD_eq_getElem?_getD, List.getElem?_drop]
    rw [e1, e2, hM, Crc.mixed_get (by omega) (1 + j) (by omega)]
    by_cases hc : p ≤ 1 + j ∧ 1 + j < p + es.length
    · rw [if_pos hc, if_pos (by omega), show j - (p - 1) = 1 + j - p from by omega]
    · rw [if_neg hc, if_neg (by omega)]
  have hS1 : (sealed k bs).drop 1 = inner k bs ++ Crc.four (Crc.more 0 (inner k bs)) := rfl
  have hrests := Crc.rests (inner k bs) (inner_byte hk hb hl)
  rw [← hS1] at hrests
  have hap := Crc.apart ((sealed k bs).drop 1) (p - 1) es he h4 (by rw [List.length_drop]; omega) 0
  rw [← hM1, hrests] at hap
  constructor
  · rw [← hap, hri]
    by_cases hc : le32 (M.drop (4 + bs.length)) = Crc.more 0 ((M.drop 1).take (4 + bs.length - 1))
    · rw [if_pos hc]; exact ⟨fun _ => hc, fun _ => rfl⟩
    · rw [if_neg hc]; exact ⟨fun h => by omega, fun h => absurd h hc⟩
  · by_cases hc : le32 (M.drop (4 + bs.length)) = Crc.more 0 ((M.drop 1).take (4 + bs.length - 1))
    · rw [if_pos hc]; exact .inl rfl
    · rw [if_neg hc]; exact .inr rfl

end Go.Proofs.YtbloomepdchjhaaDoor.SealM
/- A byte is stored into a row of one's own. -/
namespace Go.Proofs.YtbloomepdchjhaaDoor
open Go.RowKit

theorem Own.form {w : World} {base : Nat} {a : Option Addr} {len cap : Nat} {bs : List Nat} (h : Own w base a len cap bs) (hl : 0 < len) : ∃ g, a = some ⟨g, 0, none⟩ ∧ base ≤ g ∧ g < w.heap.size := by
  rcases h.row.2 with ⟨_, h0⟩ | ⟨g, c, cur, hv, hb, hg, _⟩
  · omega
  · simp only [Value.slice.injEq] at hv
    exact ⟨g, hv.1, hb, (Array.getElem?_eq_some_iff.1 hg).1⟩

theorem vb_set (bs : List Nat) (j v : Nat) : (vb bs).set j (.int .u8 (v : Int)) = vb (bs.set j v) := by
  unfold vb
  rw [List.map_set]

theorem Own.set {w : World} {base g len cap : Nat} {bs : List Nat} (h : Own w base (some ⟨g, 0, none⟩) len cap bs) (j v : Nat) (hv : v < 256) : Own (w.setCell ⟨g, j, none⟩ (.int .u8 (v : Int))) base (some ⟨g, 0, none⟩) len cap (bs.set j v) := by
  refine ⟨?_, ?_⟩
  · have := (h.row.stored j (.int .u8 (v : Int))).1
    rw [vb_set] at this
    exact this
  · intro x hx
    rcases List.mem_or_eq_of_mem_set hx with hx | rfl
    · exact h.byte x hx
    · exact hv

theorem Own.cell {w : World} {base g len cap : Nat} {bs : List Nat} (h : Own w base (some ⟨g, 0, none⟩) len cap bs) (j : Nat) (hj : j < len) : w.cell? ⟨g, j, none⟩ = some (.int .u8 ((bs.getD j 0 : Nat) : Int)) := by
  rw [h.row.cellAt j (by omega)]
  exact vb_at (by rw [h.size]; exact hj)

theorem Own.free {w : World} {base g len cap : Nat} {bs : List Nat} (h : Own w base (some ⟨g, 0, none⟩) len cap bs) (j : Nat) : w.frozen? ⟨g, j, none⟩ = false := h.row.frozenAt j

end Go.Proofs.YtbloomepdchjhaaDoor
/- append at a step of a region that draws its order; what a draw leaves as it was. -/
namespace Go.Proofs.YtbloomepdchjhaaDoor
open Go.RowKit

theorem wp_append_rd {w : World} {o : Oper} {act : Act} {K : Act → World → Prop} {Q : Exit → Act → World → Prop} (s x : Operand)
    (ho : o.op = .call { callee := .builtin .append, args := #[s, x], argTypes := #[42, 42] })
    (base : Nat) (a : Option Addr) (n cap : Nat) (xs : List Nat) (hs : act.eval s = .slice a n cap) (hown : Own w base a n cap xs) (b : Option Addr) (m c : Nat) (ys : List Nat) (hx : act.eval x = .slice b m c) (hr : Rd w b m ys) (hmc : b = none → c = 0)
    (hbytes : n + m ≤ 140737488355328) (hbase : base ≤ w.heap.size)
    (h : ∀ a' cap' w', Own w' base a' (n + m) cap' (xs ++ ys) → w.grownBy w' (Value.ownBlock (.slice a n cap)) → Below base w w' → K (act.put o.dst (.slice a' (n + m) cap')) w') : o.wp Tryd.prog act w K Q := by
  obtain ⟨a', cap', w', hrun, h2, h3, h4⟩ := run_append_rd w o.type base a n cap xs hown b m c ys hr hmc hbytes hbase
  unfold Oper.wp execOp
  simp only [ho, resolve, invoke, builtin, Sem.run_bind, Sem.run_pure, Result.andThen_ok, List.map_toArray, List.map_cons, List.map_nil, hs, hx, hrun]
  exact h a' cap' w' h2 h3 h4

/-- At a step of a region that draws its order. -/
theorem step_append_rd {w : World} {ops : Array Oper} {o : Oper} {act : Act} {K : Act → World → Prop} {Q : Exit → Act → World → Prop} {E : Prop} (hgd : o.guard = none) (s x : Operand)
    (ho : o.op = .call { callee := .builtin .append, args := #[s, x], argTypes := #[42, 42] })
    (base : Nat) (a : Option Addr) (n cap : Nat) (xs : List Nat) (hs : act.eval s = .slice a n cap) (hown : Own w base a n cap xs) (b : Option Addr) (m c : Nat) (ys : List Nat) (hx : act.eval x = .slice b m c) (hr : Rd w b m ys) (hmc : b = none → c = 0)
    (hbytes : n + m ≤ 140737488355328) (hbase : base ≤ w.heap.size)
    (k : Nat) (hk : n + m = k) (zs : List Nat) (hz : xs ++ ys = zs)
    (h : ∀ a' cap' w', Own w' base a' k cap' zs → w.grownBy w' (Value.ownBlock (.slice a n cap)) → Below base w w' → K (act.put o.dst (.slice a' k cap')) w') : if Region.wanted o (yielded ops act.tmps) = true then Oper.wp Tryd.prog o act w K Q else E := by
  rw [if_pos (by simp [Region.wanted, hgd])]
  subst hk hz
  exact wp_append_rd s x ho base a n cap xs hs hown b m c ys hx hr hmc hbytes hbase h

theorem Rd.drew {w : World} {a : Option Addr} {len : Nat} {bs : List Nat} (h : Rd w a len bs) : Rd w.drew a len bs := ⟨h.size, h.byte, h.cells⟩
theorem Own.drew {w : World} {base : Nat} {a : Option Addr} {len cap : Nat} {bs : List Nat} (h : Own w base a len cap bs) : Own w.drew base a len cap bs := ⟨h.row, h.byte⟩

theorem Own.empty2 (w : World) (o : Obj) : Own ((w.alloc o).alloc (.cells #[] 5)) (w.heap.size + 1) (some ⟨w.heap.size + 1, 0, none⟩) 0 0 [] := by
  have h := Own.new (w.alloc o) (w.heap.size + 1) #[] [] (by simp) rfl (by simp) (Nat.zero_le _)
  simpa using h

theorem Own.lower {w : World} {base base' : Nat} {a : Option Addr} {len cap : Nat} {bs : List Nat} (h : Own w base a len cap bs) (hb : base' ≤ base) : Own w base' a len cap bs := by
  refine ⟨⟨h.row.1, ?_⟩, h.byte⟩
  rcases h.row.2 with hn | ⟨g, c, cur, hv, hbg, r⟩
  · exact .inl hn
  · exact .inr ⟨g, c, cur, hv, Nat.le_trans hb hbg, r⟩

end Go.Proofs.YtbloomepdchjhaaDoor
/- seal.putSum and seal.Seal: what they lay, for every kind and row of bytes. -/
namespace Go.Proofs.YtbloomepdchjhaaDoor
open Go.RowKit

/-- The first k bytes of a number are laid from a place on. -/
def put4 (s off : Nat) : Nat → List Nat → List Nat
  | 0, l => l
  | k + 1, l => (put4 s off k l).set (off + k) (s / 256 ^ k % 256)

theorem put4_all (s : Nat) (pre : List Nat) (x0 x1 x2 x3 : Nat) : put4 s pre.length 4 (pre ++ [x0, x1, x2, x3]) = pre ++ Crc.four s := by
  simp only [put4, Nat.add_zero, Nat.pow_zero, Nat.div_one]
  rw [List.set_append_right _ _ (Nat.le_refl _), List.set_append_right _ _ (by omega), List.set_append_right _ _ (by omega), List.set_append_right _ _ (by omega)]
  simp [Crc.four]

set_option maxHeartbeats 400000 in
theorem seal_putSum (w : World) (base g off len cap m c : Nat) (bs : List Nat) (s : Nat) (hs : s < 4294967296) (ho : Own w base (some ⟨g, 0, none⟩) len cap bs) (hoff : off + 4 ≤ len) (hm : 4 ≤ m) (hbg : base ≤ g) :
    Calls Tryd.prog 50 #[.slice (some ⟨g, off, none⟩) m c, .int .u32 (s : Int)] w fun e w' => e = .returned (.tuple #[]) ∧ Own w' base (some ⟨g, 0, none⟩) len cap (put4 s off 4 bs) ∧ Below base w w' := by
  have HO : Hid (Own w base (some ⟨g, 0, none⟩) len cap bs) := ho
  clear ho
  go_enter Tryd.func50, Tryd.ntmps50
  go_wp2
  go_loopw [5] (fun t5 wr => ∃ (k : Nat), k ≤ 4 ∧ t5 = .int .i64 (k : Int) ∧ Hid (Own wr base (some ⟨g, 0, none⟩) len cap (put4 s off k bs)) ∧ Hid (Below base w wr)) (fun t5 _ => 4 - (intOf t5).toNat)
  case atStart => exact ⟨0, by omega, rfl, HO, Below.refl _ _⟩
  case round =>
    obtain ⟨k, hk, rfl, HO', HB⟩ := hrel
    by_cases hlt : k < 4
    · have hcx : wr.cell? ⟨g, off + k, none⟩ = some (.int .u8 (((put4 s off k bs).getD (off + k) 0 : Nat) : Int)) := HO'.out.cell (off + k) (by omega)
      have hfr : wr.frozen? ⟨g, off + k, none⟩ = false := HO'.out.free _
      have HN : ∀ v : Nat, v < 256 → Hid (Own (wr.setCell ⟨g, off + k, none⟩ (.int .u8 (v : Int))) base (some ⟨g, 0, none⟩) len cap ((put4 s off k bs).set (off + k) v)) := fun v hv => HO'.out.set (off + k) v hv
      have HBN : ∀ v, Hid (Below base w (wr.setCell ⟨g, off + k, none⟩ v)) := fun v => HB.out.setCell hbg _
      have HNN : Hid (∀ v : Nat, v < 256 → Hid (Own (wr.setCell ⟨g, off + k, none⟩ (.int .u8 (v : Int))) base (some ⟨g, 0, none⟩) len cap ((put4 s off k bs).set (off + k) v))) := HN
      have HBB : Hid (∀ v, Hid (Below base w (wr.setCell ⟨g, off + k, none⟩ v))) := HBN
      clear HN HBN
      rcases (show k = 0 ∨ k = 1 ∨ k = 2 ∨ k = 3 by omega) with rfl | rfl | rfl | rfl
      · simp only [Nat.add_zero] at hcx hfr
        go_wp2
        go_roundw
        case rel =>
          have h := HNN.out (s / 256 ^ 0 % 256) (by omega)
          have e : ((s / 256 ^ 0 % 256 : Nat) : Int) = (s : Int) % 256 := by rw [Nat.pow_zero, Nat.div_one]; rfl
          rw [e] at h
          exact ⟨1, by omega, rfl, h, HBB.out _⟩
        case measure => simp [intOf]
      · go_wp2
        go_roundw
        case rel => exact ⟨2, by omega, rfl, HNN.out (s / 256 ^ 1 % 256) (by omega), HBB.out _⟩
        case measure => simp [intOf]
      · go_wp2
        go_roundw
        case rel => exact ⟨3, by omega, rfl, HNN.out (s / 256 ^ 2 % 256) (by omega), HBB.out _⟩
        case measure => simp [intOf]
      · go_wp2
        go_roundw
        case rel =>
          have h := HNN.out (s / 256 ^ 3 % 256) (by omega)
          have e : ((s / 256 ^ 3 % 256 : Nat) : Int) = (s : Int) / 16777216 := by rw [show (256 : Nat) ^ 3 = 16777216 from rfl]; omega
          rw [e] at h
          exact ⟨4, by omega, rfl, h, HBB.out _⟩
        case measure => simp [intOf]
    · obtain rfl : k = 4 := by omega
      go_wp2
      go_returns
      exact ⟨rfl, HO'.out, HB.out⟩

theorem made_byte (n : Nat) : (madeCells #[.int .u8 0] n).toList = vb (List.replicate n 0) := by
  simp only [madeCells, vb]
  apply List.ext_getElem
  · simp
  · intro i h1 h2
    simp [Nat.mod_one]

theorem Own.sub {w : World} {base g len cap : Nat} {bs : List Nat} (h : Own w base (some ⟨g, 0, none⟩) len cap bs) (p n : Nat) (hp : p + n ≤ len) : Rd w (some ⟨g, p, none⟩) n ((bs.drop p).take n) := by
  have hs := h.size
  refine ⟨by rw [List.length_take, List.length_drop]; omega, fun y hy => h.byte y (List.mem_of_mem_drop (List.mem_of_mem_take hy)), ?_⟩
  by_cases h0 : n = 0
  · exact .inl h0
  · obtain ⟨g', hg, _, hlt⟩ := h.form (by omega)
    simp only [Option.some.injEq, Addr.mk.injEq] at hg
    obtain ⟨rfl, _, _⟩ := hg
    refine .inr ⟨g, p, rfl, hlt, fun i hi => ?_⟩
    rw [h.cell (p + i) (by omega)]
    simp only [List.getD_eq_getElem?_getD, List.getElem?_take_of_lt hi, List.getElem?_drop]

theorem Own.full {w : World} {base g len : Nat} {bs : List Nat} (h : Own w base (some ⟨g, 0, none⟩) len len bs) : w.heap[g]? = some (.cells (vb bs).toArray 5 (0, 0)) := by
  rcases h.row.2 with ⟨hv, _⟩ | ⟨g', c, cur, hv, hb, hg, hlc, hm, hs, ht⟩
  · simp at hv
  · simp only [Value.slice.injEq, Option.some.injEq, Addr.mk.injEq] at hv
    obtain ⟨⟨rfl, _, _⟩, _, rfl⟩ := hv
    have e : cur.toList = vb bs := by
      rw [← ht, List.take_of_length_le]
      rw [Array.length_toList]; omega
    rw [hg, ← e]
theorem Own.of_full {w : World} {base g : Nat} {bs : List Nat} (h : w.heap[g]? = some (.cells (vb bs).toArray 5 (0, 0))) (hb : ∀ x ∈ bs, x < 256) (hg : base ≤ g) (hm : bs.length ≤ maxLen) (len : Nat) (hl : bs.length = len) : Own w base (some ⟨g, 0, none⟩) len len bs := by
  subst hl
  refine ⟨⟨by simp [vb_length], .inr ⟨g, bs.length, _, rfl, hg, h, Nat.le_refl _, hm, by simp [vb_length], ?_⟩⟩, hb⟩
  rw [Nat.mul_one]
  show List.take bs.length (vb bs) = vb bs
  rw [← vb_length bs, List.take_length]
theorem vb_splice (xs : List Nat) (off : Nat) (ys : List Nat) : splice (vb xs) off (vb ys) = vb (xs.take off ++ (ys ++ xs.drop (off + ys.length))) := by
  simp only [splice, vb_append, vb_length]
  simp [vb, List.map_take, List.map_drop]
theorem infoByteSize : (Tryd.prog.info? 5).map (·.size) = some 1 := by kernel_rfl

/-- What 'copy' asks of its source. -/
theorem Rd.copies {w : World} {a : Option Addr} {len : Nat} {bs : List Nat} (h : Rd w a len bs) (hp : 0 < (vb bs).length) : ∃ ad, a = some ad ∧ ∀ j v, (vb bs)[j]? = some v → w.cell? (ad.add j) = some v := by
  rw [vb_length, h.size] at hp
  rcases h.cells with h0 | ⟨b, off, rfl, _, hc⟩
  · omega
  · refine ⟨_, rfl, fun j v hj => ?_⟩
    obtain ⟨hlt, rfl⟩ := vb_get hj
    have e : (⟨b, off, none⟩ : Addr).add j = ⟨b, off + j, none⟩ := by unfold Addr.add; split <;> simp_all
    rw [e]
    exact hc j (by rw [← h.size]; exact hlt)

theorem seal_Seal_long (k : Nat) (a : Option Addr) (len cap : Nat) (w : World) (hl : 4096 < len) (hm : len ≤ 9223372036854775807) :
    Calls Tryd.prog 34 #[.int .u8 (k : Int), .slice a len cap] w fun e w' => e = .returned (.tuple #[.slice none 0 0, .int .i64 6]) ∧ w' = w := by
  go_enter Tryd.func34, Tryd.ntmps34
  go_wp2
  go_ret2
  exact ⟨rfl, rfl⟩

set_option maxRecDepth 100000 in
set_option maxHeartbeats 1000000 in
theorem seal_Seal (k : Nat) (hk : k < 256) (a : Option Addr) (len cap : Nat) (bs : List Nat) (w : World) (hr : Rd w a len bs) (hl : len ≤ 4096) (ht : Tab w) (h0 : 0 < w.heap.size) :
    Calls Tryd.prog 34 #[.int .u8 (k : Int), .slice a len cap] w fun e w' => ∃ g, e = .returned (.tuple #[.slice (some ⟨g, 0, none⟩) (len + 8) (len + 8), .int .i64 0]) ∧ Own w' w.heap.size (some ⟨g, 0, none⟩) (len + 8) (len + 8) (SealM.sealed k bs) ∧ Below w.heap.size w w' := by
  have HT : Hid (Tab w) := ht
  have HR : Hid (Rd w a len bs) := hr
  obtain ⟨i0, hi, hz0, hz1, hz2⟩ := info_parts infoByte
  clear ht hr
  go_enter Tryd.func34, Tryd.ntmps34
  go_wp2_with (at_make; refine wpList_make_full w (by rfl) (.tmp 15) (.tmp 15) 42 (by rfl) w.heap.size 5 i0 (.int .u8 0) 1 Tryd.underlying42 hi hz0 hz1 .i64 .i64 (4 + (len : Int) + 4) (4 + (len : Int) + 4) (len + 8) (by rfl) (by rfl) (by omega) (by omega) (by rw [hz2]; omega) (by unfold maxLen; omega) (Nat.le_refl _) ?_)
  intro w1 hown1 hgrow1
  rw [made_byte] at hown1
  have HO1 : Hid (Own w1 w.heap.size (some ⟨w.heap.size, 0, none⟩) (len + 8) (len + 8) (List.replicate (len + 8) 0)) := ⟨hown1, fun x hx => by rw [List.eq_of_mem_replicate hx]; omega⟩
  have HB1 : Hid (Below w.heap.size w w1) := (Below.refl _ _).grown hgrow1 (Nat.le_refl _) (fun k hk => by cases hk)
  clear hown1 hgrow1
  have hc : ∀ j, j < len + 8 → w1.cell? ⟨w.heap.size, j, none⟩ = some (.int .u8 (((List.replicate (len + 8) 0).getD j 0 : Nat) : Int)) := fun j hj => HO1.out.cell j hj
  have hc0 := hc 0 (by omega)
  have hc1 := hc 1 (by omega)
  have hc2 := hc 2 (by omega)
  have hc3 := hc 3 (by omega)
  have hf0 := HO1.out.free 0
  have hf1 := HO1.out.free 1
  have hf2 := HO1.out.free 2
  have hf3 := HO1.out.free 3
  clear hc
  have HO2 : Hid (Own ((((w1.setCell ⟨w.heap.size, 0, none⟩ (.int .u8 167)).setCell ⟨w.heap.size, 1, none⟩ (.int .u8 (k : Int))).setCell ⟨w.heap.size, 2, none⟩ (.int .u8 ((len : Int) % 256))).setCell ⟨w.heap.size, 3, none⟩ (.int .u8 ((len : Int) / 256))) w.heap.size (some ⟨w.heap.size, 0, none⟩) (len + 8) (len + 8) (((((List.replicate (len + 8) 0).set 0 167).set 1 k).set 2 (len % 256)).set 3 (len / 256))) :=
    (((HO1.out.set 0 167 (by omega)).set 1 k hk).set 2 (len % 256) (by omega)).set 3 (len / 256) (by omega)
  have HB2 : Hid (Below w.heap.size w ((((w1.setCell ⟨w.heap.size, 0, none⟩ (.int .u8 167)).setCell ⟨w.heap.size, 1, none⟩ (.int .u8 (k : Int))).setCell ⟨w.heap.size, 2, none⟩ (.int .u8 ((len : Int) % 256))).setCell ⟨w.heap.size, 3, none⟩ (.int .u8 ((len : Int) / 256)))) :=
    (((HB1.out.setCell (Nat.le_refl _) _).setCell (Nat.le_refl _) _).setCell (Nat.le_refl _) _).setCell (Nat.le_refl _) _
  obtain ⟨L, HL⟩ : ∃ L, Hid (L = ((((List.replicate (len + 8) 0).set 0 167).set 1 k).set 2 (len % 256)).set 3 (len / 256)) := ⟨_, rfl⟩
  rw [← HL.out] at HO2
  have HLL : Hid (L.length = len + 8) := HO2.out.size
  have HBL : Hid (bs.length = len) := HR.out.size
  go_wp2_with (guard_target =~ wpList _ _ _ (Oper.mk (some 36) _ _ _ _ _ :: _) _ _; (refine wpList_copy_splice (by rfl) (.tmp 34) (.tmp 35) 42 42 (by rfl) 5 Tryd.underlying42 infoByteSize (some ⟨w.heap.size, 4, none⟩) a (len + 4) (len + 4) len cap (by rfl) (by rfl) w.heap.size 4 (vb L) 5 HO2.out.full (vb bs) (by rw [vb_length, HBL.out]; exact (Nat.min_eq_left (by omega)).symm) (fun hp => ⟨rfl, (HR.out.below HB2.out).copies hp⟩) (by rw [vb_length, vb_length, HLL.out, HBL.out]; omega) (vb_one bs) w.heap.size w HB2.out (Nat.le_refl _) ?_))
  intro w2 hg2 hb2
  have hspl : L.take 4 ++ (bs ++ L.drop (4 + bs.length)) = (167 :: SealM.inner k bs) ++ [0, 0, 0, 0] := by
    rw [HL.out, HBL.out]
    simp only [SealM.inner, HBL.out]
    have e1 : List.replicate (len + 8) 0 = 0 :: 0 :: 0 :: 0 :: (List.replicate len 0 ++ [0, 0, 0, 0]) := by
      rw [show len + 8 = 4 + (len + 4) from by omega, ← List.replicate_append_replicate, ← List.replicate_append_replicate]
      rfl
    rw [e1]
    simp only [List.set_cons_zero, List.set_cons_succ, List.take_succ_cons, List.take_zero, List.cons_append, List.nil_append]
    rw [show 4 + len = len + 1 + 1 + 1 + 1 from by omega]
    simp only [List.drop_succ_cons]
    rw [List.drop_append_of_le_length (by simp), List.drop_of_length_le (by simp)]
    simp
  have HO3 : Hid (Own w2 w.heap.size (some ⟨w.heap.size, 0, none⟩) (len + 8) (len + 8) ((167 :: SealM.inner k bs) ++ [0, 0, 0, 0])) := by
    have h := hg2.out
    rw [vb_splice, hspl] at h
    have hin := SealM.inner_byte (k := k) (bs := bs) hk HR.out.byte (by rw [HBL.out]; exact hl)
    refine Own.of_full h ?_ (Nat.le_refl _) ?_ (len + 8) ?_
    · intro x hx
      simp only [List.mem_append, List.mem_cons, List.not_mem_nil, or_false] at hx
      rcases hx with (rfl | hx) | hx
      · omega
      · exact hin x hx
      · omega
    · simp [SealM.inner_length, HBL.out]; unfold maxLen; omega
    · simp [SealM.inner_length, HBL.out]
  have HB3 : Hid (Below w.heap.size w w2) := hb2
  clear hg2 hb2 hspl HO2 HB2 HO1 HB1 hc0 hc1 hc2 hc3 hf0 hf1 hf2 hf3
  have HSUB : Hid (∀ w', Own w' w.heap.size (some ⟨w.heap.size, 0, none⟩) (len + 8) (len + 8) ((167 :: SealM.inner k bs) ++ [0, 0, 0, 0]) → Rd w' (some ⟨w.heap.size, 1, none⟩) (3 + len) (SealM.inner k bs)) := by
    intro w' ho
    have h := ho.sub 1 (3 + len) (by omega)
    have e : (((167 :: SealM.inner k bs) ++ [0, 0, 0, 0]).drop 1).take (3 + len) = SealM.inner k bs := by
      show ((SealM.inner k bs) ++ [0, 0, 0, 0]).take (3 + len) = _
      rw [show 3 + len = (SealM.inner k bs).length from by rw [SealM.inner_length, HBL.out]; omega, List.take_left]
    rw [e] at h
    exact h
  have HSL : Hid (Crc.more 0 (SealM.inner k bs) < 4294967296) := Crc.more_lt (by omega) (SealM.inner_byte hk HR.out.byte (by rw [HBL.out]; exact hl))
  have HFIN : Hid (put4 (Crc.more 0 (SealM.inner k bs)) (4 + len) 4 ((167 :: SealM.inner k bs) ++ [0, 0, 0, 0]) = SealM.sealed k bs) := by
    show _ = _
    rw [show 4 + len = (167 :: SealM.inner k bs).length from by rw [List.length_cons, SealM.inner_length, HBL.out]; omega, put4_all]
    rfl
  obtain ⟨s, HS⟩ : ∃ s, Hid (s = Crc.more 0 (SealM.inner k bs)) := ⟨_, rfl⟩
  rw [← HS.out] at HSL HFIN
  have g1 : (0 : Int) ≤ 4 + (len : Int) := by omega
  have g2 : 4 + (len : Int) ≤ (len : Int) + 8 := by omega
  have g3 : (1 : Int) ≤ 4 + (len : Int) := by omega
  have g4 : (1 : Int) ≤ max (4 + (len : Int)) 0 := by omega
  have g5 : (4 + (len : Int)).toNat = 4 + len := by omega
  go_wp2
  go_region_held3 (fun _ => True) (trivial)
    (first
      | (go_at_call 51; refine (seal_Sum (some ⟨w.heap.size, 1, none⟩) (3 + len) (len + 7) (SealM.inner k bs) _ (HSUB.out _ HO3.out.drew) (by omega) (HT.out.below h0 HB3.out.drew)).mono ?_; rw [← HS.out]; rintro e w3 ⟨rfl, hw3⟩; subst hw3)
      | (go_at_call 50; refine (seal_putSum _ w.heap.size w.heap.size (4 + len) (len + 8) (len + 8) (len + 8 - (4 + len)) (len + 8 - (4 + len)) _ s HSL.out HO3.out.drew (by omega) (by omega) (Nat.le_refl _)).mono ?_; rw [HFIN.out]; rintro e w4 ⟨rfl, ho4, hb4⟩; have HO4 : Hid (Own w4 w.heap.size (some ⟨w.heap.size, 0, none⟩) (len + 8) (len + 8) (SealM.sealed k bs)) := ho4; have HB4 : Hid (Below w.heap.size w w4) := HB3.out.drew.trans hb4; clear ho4 hb4))
  all_goals go_wp2
  all_goals go_ret2
  all_goals exact ⟨w.heap.size, rfl, HO4.out, HB4.out⟩
end Go.Proofs.YtbloomepdchjhaaDoor
/- seal.takeSum, seal.bodyEnd and seal.Open: what they tell, for every row of bytes and place. -/
namespace Go.Proofs.YtbloomepdchjhaaDoor
open Go.RowKit

theorem below_drewN (w : World) (n : Nat) : Below w.heap.size w (w.drewN n) := ⟨rfl, rfl, rfl, Nat.le_refl _, fun _ _ => rfl⟩

theorem or_add (x c k : Nat) (h : x < 2 ^ k) : x ||| c * 2 ^ k = x + c * 2 ^ k := by
  rw [Nat.or_comm, ← Nat.shiftLeft_eq, ← Nat.shiftLeft_add_eq_or_of_lt h, Nat.add_comm]

set_option maxHeartbeats 400000 in
theorem seal_takeSum (a : Option Addr) (len cap : Nat) (bs : List Nat) (w : World) (hr : Rd w a len bs) (hl : 4 ≤ len) :
    Calls Tryd.prog 53 #[.slice a len cap] w fun e w' => e = .returned (.int .u32 ((SealM.le32 bs : Nat) : Int)) ∧ w' = w := by
  have hbl : ∀ k, bs.getD k 0 < 256 := getD_lt hr.byte
  obtain ⟨b, off, rfl, hblt, hc⟩ : ∃ b off, a = some ⟨b, off, none⟩ ∧ b < w.heap.size ∧ ∀ i, i < len → w.cell? ⟨b, off + i, none⟩ = some (.int .u8 ((bs.getD i 0 : Nat) : Int)) := by
    rcases hr.cells with h0 | h
    · omega
    · exact h
  have h0 := hc 0 (by omega)
  have h1 := hc 1 (by omega)
  have h2 := hc 2 (by omega)
  have h3 := hc 3 (by omega)
  obtain ⟨c0, H0⟩ : ∃ c, Hid (c = bs.getD 0 0) := ⟨_, rfl⟩
  obtain ⟨c1, H1⟩ : ∃ c, Hid (c = bs.getD 1 0) := ⟨_, rfl⟩
  obtain ⟨c2, H2⟩ : ∃ c, Hid (c = bs.getD 2 0) := ⟨_, rfl⟩
  obtain ⟨c3, H3⟩ : ∃ c, Hid (c = bs.getD 3 0) := ⟨_, rfl⟩
  have b0 := hbl 0
  have b1 := hbl 1
  have b2 := hbl 2
  have b3 := hbl 3
  rw [← H0.out] at h0 b0
  rw [← H1.out] at h1 b1
  rw [← H2.out] at h2 b2
  rw [← H3.out] at h3 b3
  have HF : Hid (SealM.le32 bs = c0 + 256 * c1 + 65536 * c2 + 16777216 * c3) := by show _ = _; rw [H0.out, H1.out, H2.out, H3.out]; rfl
  rw [Nat.add_zero] at h0
  rw [HF.out]
  clear hc hbl hr
  go_enter Tryd.func53, Tryd.ntmps53
  go_wp2
  refine wp_loop_rounds 5 ?_
  rw [rounds_succ]
  go_wp2
  rw [rounds_succ]
  go_wp2
  rw [rounds_succ]
  go_wp2
  rw [rounds_succ]
  go_wp2
  rw [rounds_succ]
  go_wp2
  go_ret
  refine ⟨ret_int ?_, rfl⟩
  have e0 : bits BinOp.or IntKind.u32 0 (c0 : Int) = (c0 : Int) := by
    have := u32_or_nat 0 c0 (by omega) (by omega)
    rw [Nat.zero_or] at this
    exact this
  have e1 : bits BinOp.or IntKind.u32 (c0 : Int) ((c1 : Int) * 256) = ((c0 + c1 * 256 : Nat) : Int) := by
    have := u32_or_nat c0 (c1 * 256) (by omega) (by omega)
    rw [or_add c0 c1 8 (by omega)] at this
    exact this
  have e2 : bits BinOp.or IntKind.u32 ((c0 + c1 * 256 : Nat) : Int) ((c2 : Int) * 65536) = ((c0 + c1 * 256 + c2 * 65536 : Nat) : Int) := by
    have := u32_or_nat (c0 + c1 * 256) (c2 * 65536) (by omega) (by omega)
    rw [or_add (c0 + c1 * 256) c2 16 (by omega)] at this
    exact this
  have e3 : bits BinOp.or IntKind.u32 ((c0 + c1 * 256 + c2 * 65536 : Nat) : Int) ((c3 : Int) * 16777216) = ((c0 + c1 * 256 + c2 * 65536 + c3 * 16777216 : Nat) : Int) := by
    have := u32_or_nat (c0 + c1 * 256 + c2 * 65536) (c3 * 16777216) (by omega) (by omega)
    rw [or_add (c0 + c1 * 256 + c2 * 65536) c3 24 (by omega)] at this
    exact this
  rw [e0, e1, e2, e3]
  omega

theorem i64_or_nat (a b : Nat) (ha : a < 65536) (hb : b < 65536) : bits .or .i64 (a : Int) (b : Int) = ((a ||| b : Nat) : Int) := by
  have hx : a ||| b < 2 ^ 16 := Nat.or_lt_two_pow (by omega) (by omega)
  have o : ∀ x : Nat, x < 65536 → (BitVec.ofInt 64 (x : Int)).toNat = x := fun x h => by
    rw [BitVec.ofInt_natCast, BitVec.toNat_ofNat]; exact Nat.mod_eq_of_lt (by omega)
  show IntKind.i64.wrap ((BitVec.ofInt 64 (a : Int) ||| BitVec.ofInt 64 (b : Int)).toNat : Int) = _
  rw [BitVec.toNat_or, o a ha, o b hb]
  simp [IntKind.wrap, IntKind.bits, IntKind.signed]
  omega

def toldE (r : Nat × Nat) : Ending := .returned (.tuple #[.int .i64 (r.1 : Int), .int .i64 (r.2 : Int)])

set_option maxHeartbeats 1000000 in
theorem seal_bodyEnd (a : Option Addr) (len cap : Nat) (bs : List Nat) (w : World) (hr : Rd w a len bs) (hl : len ≤ 9223372036854775000) :
    Calls Tryd.prog 52 #[.slice a len cap] w fun e w' => e = toldE (SealM.bend bs) ∧ Below w.heap.size w w' := by
  have hlen := hr.size
  by_cases hz : len = 0
  · have HF : Hid (SealM.bend bs = (0, 3)) := by show _ = _; unfold SealM.bend; rw [if_pos (by omega)]
    have g1 : ((len : Int) == 0) = true := by rw [beq_iff_eq]; omega
    rw [HF.out]
    clear hr hlen
    go_enter Tryd.func52, Tryd.ntmps52
    go_wp2
    go_ret2
    exact ⟨rfl, Below.refl _ _⟩
  have g1 : ((len : Int) == 0) = false := by rw [beq_eq_false_iff_ne]; omega
  have hbl : ∀ k, bs.getD k 0 < 256 := getD_lt hr.byte
  obtain ⟨b, off, rfl, hblt, hc⟩ : ∃ b off, a = some ⟨b, off, none⟩ ∧ b < w.heap.size ∧ ∀ i, i < len → w.cell? ⟨b, off + i, none⟩ = some (.int .u8 ((bs.getD i 0 : Nat) : Int)) := by
    rcases hr.cells with h0 | h
    · omega
    · exact h
  obtain ⟨c0, H0⟩ : ∃ c, Hid (c = bs.getD 0 0) := ⟨_, rfl⟩
  have h0 := hc 0 (by omega)
  have b0 := hbl 0
  rw [← H0.out] at h0 b0
  rw [Nat.add_zero] at h0
  by_cases h1 : c0 = 167
  · have g2 : ((c0 : Int) != 167) = false := by rw [h1]; rfl
    by_cases h4 : len < 4
    · have HF : Hid (SealM.bend bs = (0, 3)) := by
        show _ = _; unfold SealM.bend; rw [if_neg (by omega), ← H0.out, if_neg (by omega), if_pos (by omega)]
      rw [HF.out]
      clear hr hlen hbl hc h1
      go_enter Tryd.func52, Tryd.ntmps52
      go_wp2
      go_ret2
      exact ⟨rfl, Below.refl _ _⟩
    · have h2 := hc 2 (by omega)
      have h3 := hc 3 (by omega)
      obtain ⟨c2, H2⟩ : ∃ c, Hid (c = bs.getD 2 0) := ⟨_, rfl⟩
      obtain ⟨c3, H3⟩ : ∃ c, Hid (c = bs.getD 3 0) := ⟨_, rfl⟩
      have b2 := hbl 2
      have b3 := hbl 3
      rw [← H2.out] at h2 b2
      rw [← H3.out] at h3 b3
      have HB : Hid (SealM.blen bs = c2 + 256 * c3) := by show _ = _; unfold SealM.blen; rw [H2.out, H3.out]
      have eor : bits BinOp.or IntKind.i64 (c2 : Int) ((c3 : Int) * 256) = ((c2 + 256 * c3 : Nat) : Int) := by
        have := i64_or_nat c2 (c3 * 256) (by omega) (by omega)
        rw [or_add c2 c3 8 (by omega)] at this
        refine this.trans ?_
        omega
      obtain ⟨n, HN⟩ : ∃ n, Hid (n = c2 + 256 * c3) := ⟨_, rfl⟩
      have hn : n < 65536 := by rw [HN.out]; omega
      rw [← HN.out] at eor HB
      have hneg : ¬ (c0 ≠ 167) := by omega
      have hm : 4 ≤ len := by omega
      by_cases h5 : 4096 < n
      · have HF : Hid (SealM.bend bs = (0, 6)) := by
          show _ = _; unfold SealM.bend; rw [if_neg (by omega), ← H0.out, if_neg hneg, if_neg (by omega), HB.out, if_pos h5]
        rw [HF.out]
        clear hr hlen hbl hc h1 hneg
        go_enter Tryd.func52, Tryd.ntmps52
        go_wp2
        go_quiet (fail)
        go_wp2
        go_ret2
        exact ⟨rfl, below_drewN w _⟩
      · by_cases h6 : len < n + 8
        · have HF : Hid (SealM.bend bs = (0, 3)) := by
            show _ = _; unfold SealM.bend; rw [if_neg (by omega), ← H0.out, if_neg hneg, if_neg (by omega), HB.out, if_neg h5, if_pos (by omega)]
          rw [HF.out]
          clear hr hlen hbl hc h1 hneg
          go_enter Tryd.func52, Tryd.ntmps52
          go_wp2
          go_quiet (fail)
          go_wp2
          go_ret2
          exact ⟨rfl, below_drewN w _⟩
        · have HF : Hid (SealM.bend bs = (4 + n, 0)) := by
            show _ = _; unfold SealM.bend; rw [if_neg (by omega), ← H0.out, if_neg hneg, if_neg (by omega), HB.out, if_neg h5, if_neg (by omega)]
          rw [HF.out]
          clear hr hlen hbl hc h1 hneg
          go_enter Tryd.func52, Tryd.ntmps52
          go_wp2
          go_quiet (fail)
          go_wp2
          go_ret2
          exact ⟨rfl, below_drewN w _⟩
  · have g2 : ((c0 : Int) != 167) = true := by rw [bne_iff_ne]; omega
    have HF : Hid (SealM.bend bs = (0, 4)) := by
      show _ = _; unfold SealM.bend; rw [if_neg (by omega), ← H0.out, if_pos h1]
    rw [HF.out]
    clear hr hlen hbl hc
    go_enter Tryd.func52, Tryd.ntmps52
    go_wp2
    go_ret2
    exact ⟨rfl, Below.refl _ _⟩

/-- What Open answers beside an error. -/
def toldBad (f : Nat) : Ending := .returned (.tuple #[.agg #[.int .u8 0, .int .i64 0, .slice none 0 0], .int .i64 0, .int .i64 (f : Int)])

set_option maxHeartbeats 1000000 in
theorem seal_Open_arg (a : Option Addr) (len cap : Nat) (x : Int) (w : World) (hx : (-9223372036854775808 : Int) ≤ x ∧ x ≤ 9223372036854775807) (h : x < 0 ∨ (len : Int) < x) :
    Calls Tryd.prog 35 #[.slice a len cap, .int .i64 x] w fun e w' => e = toldBad 2 ∧ Below w.heap.size w w' := by
  by_cases h1 : x < 0
  · go_enter Tryd.func35, Tryd.ntmps35
    go_wp2
    go_returns
    exact ⟨rfl, below_alloc w _⟩
  · have h2 : (len : Int) < x := by omega
    go_enter Tryd.func35, Tryd.ntmps35
    go_wp2
    go_returns
    exact ⟨rfl, below_alloc w _⟩

theorem cells3 {w : World} {g : Nat} {u0 u1 u2 : Value} (v0 v1 v2 : Value) (k0 : w.cell? ⟨g, 0, none⟩ = some u0) (k1 : w.cell? ⟨g, 1, none⟩ = some u1) (k2 : w.cell? ⟨g, 2, none⟩ = some u2) :
    (((w.setCell ⟨g, 0, none⟩ v0).setCell ⟨g, 1, none⟩ v1).setCell ⟨g, 2, none⟩ v2).cell? ⟨g, 0, none⟩ = some v0 ∧ (((w.setCell ⟨g, 0, none⟩ v0).setCell ⟨g, 1, none⟩ v1).setCell ⟨g, 2, none⟩ v2).cell? ⟨g, 1, none⟩ = some v1 ∧ (((w.setCell ⟨g, 0, none⟩ v0).setCell ⟨g, 1, none⟩ v1).setCell ⟨g, 2, none⟩ v2).cell? ⟨g, 2, none⟩ = some v2 := by
  refine ⟨?_, ?_, ?_⟩
  · rw [World.cell?_setCell_other _ _ _ _ (by simp), World.cell?_setCell_other _ _ _ _ (by simp)]
    exact World.cell?_setCell_same _ _ _ k0
  · rw [World.cell?_setCell_other _ _ _ _ (by simp)]
    refine World.cell?_setCell_same _ _ _ (u := u1) ?_
    rw [World.cell?_setCell_other _ _ _ _ (by simp)]
    exact k1
  · refine World.cell?_setCell_same _ _ _ (u := u2) ?_
    rw [World.cell?_setCell_other _ _ _ _ (by simp), World.cell?_setCell_other _ _ _ _ (by simp)]
    exact k2

/-- A seal that is told, out of the result's own cells. -/
theorem results_open {w : World} {tmps : Array Value} {g : Nat} {v0 v1 v2 n f : Value} (h4 : tmps[4]?.getD undef = .pointer (some ⟨g, 0, none⟩)) (h5 : tmps[5]?.getD undef = n) (h6 : tmps[6]?.getD undef = f)
    (k : w.cell? ⟨g, 0, none⟩ = some v0 ∧ w.cell? ⟨g, 1, none⟩ = some v1 ∧ w.cell? ⟨g, 2, none⟩ = some v2) : (results Tryd.f35 tmps).run Tryd.prog w = .ok (.tuple #[.agg #[v0, v1, v2], n, f]) w := by
  obtain ⟨k0, k1, k2⟩ := k
  simp [results, Tryd.results35, go_sem, h4, h5, h6, k0, k1, k2]

/-- At the end of the bytes. -/
theorem seal_Open_end (a : Option Addr) (len cap : Nat) (w : World) (hl : len ≤ 9223372036854775000) (hlc : len ≤ cap) :
    Calls Tryd.prog 35 #[.slice a len cap, .int .i64 (len : Int)] w fun e w' => e = toldBad 3 ∧ Below w.heap.size w w' := by
  have g1 : (0 : Int) ≤ (len : Int) := by omega
  have g3 : (len : Int) ≤ (cap : Int) := by omega
  by_cases hcp : cap = len
  · subst hcp
    go_enter Tryd.func35, Tryd.ntmps35
    go_wp2_with fail
    refine (seal_bodyEnd _ 0 _ [] _ ⟨rfl, by simp, .inl rfl⟩ (by omega)).mono ?_
    rw [show toldE (SealM.bend []) = .returned (.tuple #[.int .i64 0, .int .i64 3]) from rfl]
    rintro e w1 ⟨rfl, hb1⟩
    have k0 : w1.cell? ⟨w.heap.size, 0, none⟩ = some (.int .u8 0) := (hb1.cell (p := ⟨w.heap.size, 0, none⟩) (by simp)).trans (by simp)
    have k1 : w1.cell? ⟨w.heap.size, 1, none⟩ = some (.int .i64 0) := (hb1.cell (p := ⟨w.heap.size, 1, none⟩) (by simp)).trans (by simp)
    have k2 : w1.cell? ⟨w.heap.size, 2, none⟩ = some (.slice none 0 0) := (hb1.cell (p := ⟨w.heap.size, 2, none⟩) (by simp)).trans (by simp)
    have f0 : w1.frozen? ⟨w.heap.size, 0, none⟩ = false := (hb1.frozen (p := ⟨w.heap.size, 0, none⟩) (by simp)).trans (by simp)
    have f1 : w1.frozen? ⟨w.heap.size, 1, none⟩ = false := (hb1.frozen (p := ⟨w.heap.size, 1, none⟩) (by simp)).trans (by simp)
    have f2 : w1.frozen? ⟨w.heap.size, 2, none⟩ = false := (hb1.frozen (p := ⟨w.heap.size, 2, none⟩) (by simp)).trans (by simp)
    have HB : Hid (Below w.heap.size w w1) := (below_alloc w _).trans (hb1.mono (by simp))
    have HK := cells3 (.int .u8 0) (.int .i64 0) (.slice none 0 0) k0 k1 k2
    clear hb1
    go_wp2
    try simp only [Exit.inBlock, Exit.then]
    refine bodyPost_ret (results_open (by rfl) (by rfl) (by rfl) HK) rfl ?_
    exact ⟨rfl, ((HB.out.setCell (Nat.le_refl _) _).setCell (Nat.le_refl _) _).setCell (Nat.le_refl _) _⟩
  · go_enter Tryd.func35, Tryd.ntmps35
    go_wp2_with fail
    refine (seal_bodyEnd _ 0 _ [] _ ⟨rfl, by simp, .inl rfl⟩ (by omega)).mono ?_
    rw [show toldE (SealM.bend []) = .returned (.tuple #[.int .i64 0, .int .i64 3]) from rfl]
    rintro e w1 ⟨rfl, hb1⟩
    have k0 : w1.cell? ⟨w.heap.size, 0, none⟩ = some (.int .u8 0) := (hb1.cell (p := ⟨w.heap.size, 0, none⟩) (by simp)).trans (by simp)
    have k1 : w1.cell? ⟨w.heap.size, 1, none⟩ = some (.int .i64 0) := (hb1.cell (p := ⟨w.heap.size, 1, none⟩) (by simp)).trans (by simp)
    have k2 : w1.cell? ⟨w.heap.size, 2, none⟩ = some (.slice none 0 0) := (hb1.cell (p := ⟨w.heap.size, 2, none⟩) (by simp)).trans (by simp)
    have f0 : w1.frozen? ⟨w.heap.size, 0, none⟩ = false := (hb1.frozen (p := ⟨w.heap.size, 0, none⟩) (by simp)).trans (by simp)
    have f1 : w1.frozen? ⟨w.heap.size, 1, none⟩ = false := (hb1.frozen (p := ⟨w.heap.size, 1, none⟩) (by simp)).trans (by simp)
    have f2 : w1.frozen? ⟨w.heap.size, 2, none⟩ = false := (hb1.frozen (p := ⟨w.heap.size, 2, none⟩) (by simp)).trans (by simp)
    have HB : Hid (Below w.heap.size w w1) := (below_alloc w _).trans (hb1.mono (by simp))
    have HK := cells3 (.int .u8 0) (.int .i64 0) (.slice none 0 0) k0 k1 k2
    clear hb1
    go_wp2
    try simp only [Exit.inBlock, Exit.then]
    refine bodyPost_ret (results_open (by rfl) (by rfl) (by rfl) HK) rfl ?_
    exact ⟨rfl, ((HB.out.setCell (Nat.le_refl _) _).setCell (Nat.le_refl _) _).setCell (Nat.le_refl _) _⟩

theorem Rd.tail {w : World} {b off p m : Nat} {bs : List Nat} (h : Rd w (some ⟨b, off, none⟩) (p + m) bs) (q n : Nat) (hq : q + n ≤ p + m) : Rd w (some ⟨b, off + q, none⟩) n ((bs.drop q).take n) := by
  have hs := h.size
  refine ⟨by rw [List.length_take, List.length_drop]; omega, fun y hy => h.byte y (List.mem_of_mem_drop (List.mem_of_mem_take hy)), ?_⟩
  by_cases h0 : n = 0
  · exact .inl h0
  · rcases h.cells with h1 | ⟨b', off', hb, hlt, hc⟩
    · omega
    · simp only [Option.some.injEq, Addr.mk.injEq] at hb
      obtain ⟨rfl, rfl, _⟩ := hb
      refine .inr ⟨b, off + q, rfl, hlt, fun i hi => ?_⟩
      rw [Nat.add_assoc, hc (q + i) (by omega)]
      simp only [List.getD_eq_getElem?_getD, List.getElem?_take_of_lt hi, List.getElem?_drop]

set_option maxHeartbeats 1000000 in
/-- A head that is none. -/
theorem seal_Open_head (b off p m c : Nat) (bs : List Nat) (w : World) (hr : Rd w (some ⟨b, off, none⟩) (p + m) bs) (hm : 0 < m) (hmc : m ≤ c) (hl : p + m ≤ 9223372036854775000) (f : Nat) (hf : (SealM.bend (bs.drop p)).2 = f) (hf0 : f ≠ 0) :
    Calls Tryd.prog 35 #[.slice (some ⟨b, off, none⟩) (p + m) (p + c), .int .i64 (p : Int)] w fun e w' => e = toldBad f ∧ Below w.heap.size w w' := by
  have hs := hr.size
  have HF : Hid (SealM.bend (bs.drop p) = (0, f)) := by
    rcases hb : SealM.bend (bs.drop p) with ⟨n, f'⟩
    rw [hb] at hf
    have hff : f' = f := hf
    subst hff
    show (n, f') = (0, f')
    rw [SealM.bend_err hb hf0]
  have HR : Hid (Rd w (some ⟨b, off + p, none⟩) m (bs.drop p)) := by
    have := hr.tail p m (Nat.le_refl _)
    rw [List.take_of_length_le (by rw [List.length_drop]; omega)] at this
    exact this
  have g1 : (0 : Int) ≤ (p : Int) := by omega
  have g3 : (p : Int) ≤ (p : Int) + (c : Int) := by omega
  have g4 : (p : Int) ≤ (p : Int) + (m : Int) := by omega
  have g5 : ¬ p + c = p := by omega
  have hf' : ((f : Int) != 0) = true := by rw [bne_iff_ne]; omega
  clear hr hs hf hf0
  go_enter Tryd.func35, Tryd.ntmps35
  go_wp2_with fail
  refine (seal_bodyEnd (some ⟨b, off + p, none⟩) m c (bs.drop p) _ (HR.out.below (below_alloc w _)) (by omega)).mono ?_
  rw [HF.out, show toldE (0, f) = .returned (.tuple #[.int .i64 0, .int .i64 (f : Int)]) from rfl]
  rintro e w1 ⟨rfl, hb1⟩
  have k0 : w1.cell? ⟨w.heap.size, 0, none⟩ = some (.int .u8 0) := (hb1.cell (p := ⟨w.heap.size, 0, none⟩) (by simp)).trans (by simp)
  have k1 : w1.cell? ⟨w.heap.size, 1, none⟩ = some (.int .i64 0) := (hb1.cell (p := ⟨w.heap.size, 1, none⟩) (by simp)).trans (by simp)
  have k2 : w1.cell? ⟨w.heap.size, 2, none⟩ = some (.slice none 0 0) := (hb1.cell (p := ⟨w.heap.size, 2, none⟩) (by simp)).trans (by simp)
  have f0 : w1.frozen? ⟨w.heap.size, 0, none⟩ = false := (hb1.frozen (p := ⟨w.heap.size, 0, none⟩) (by simp)).trans (by simp)
  have f1 : w1.frozen? ⟨w.heap.size, 1, none⟩ = false := (hb1.frozen (p := ⟨w.heap.size, 1, none⟩) (by simp)).trans (by simp)
  have f2 : w1.frozen? ⟨w.heap.size, 2, none⟩ = false := (hb1.frozen (p := ⟨w.heap.size, 2, none⟩) (by simp)).trans (by simp)
  have HB : Hid (Below w.heap.size w w1) := (below_alloc w _).trans (hb1.mono (by simp))
  have HK := cells3 (.int .u8 0) (.int .i64 0) (.slice none 0 0) k0 k1 k2
  clear hb1
  go_wp2
  try simp only [Exit.inBlock, Exit.then]
  refine bodyPost_ret (results_open (by rfl) (by rfl) (by rfl) HK) rfl ?_
  exact ⟨rfl, ((HB.out.setCell (Nat.le_refl _) _).setCell (Nat.le_refl _) _).setCell (Nat.le_refl _) _⟩
end Go.Proofs.YtbloomepdchjhaaDoor
/- seal.Open, behind a head that is one: the sum is another one, or the seal is right. -/
namespace Go.Proofs.YtbloomepdchjhaaDoor
open Go.RowKit

theorem Own.far {w : World} {base g len cap : Nat} {bs : List Nat} (h : Own w base (some ⟨g, 0, none⟩) len cap bs) (p : Addr) (v : Value) (hp : p.block ≠ g) : Own (w.setCell p v) base (some ⟨g, 0, none⟩) len cap bs := by
  refine ⟨⟨h.row.1, ?_⟩, h.byte⟩
  rcases h.row.2 with hn | ⟨g', c, cur, hv, hbg, hg, r⟩
  · exact .inl hn
  · have e : g' = g := by
      simp only [Value.slice.injEq, Option.some.injEq, Addr.mk.injEq] at hv
      exact hv.1.1.symm
    subst e
    exact .inr ⟨g', c, cur, hv, hbg, by rw [Below.heap_setCell _ _ _ _ (Ne.symm hp)]; exact hg, r⟩

theorem told_ok {x y : Int} {s : Value} (h : x = y) : Ending.returned (.tuple #[s, .int .i64 x, .int .i64 0]) = .returned (.tuple #[s, .int .i64 y, .int .i64 0]) := by rw [h]

set_option maxRecDepth 100000 in
set_option maxHeartbeats 1000000 in
/-- Another sum stands there. -/
theorem seal_Open_sum (b off p m c : Nat) (bs : List Nat) (w : World) (hr : Rd w (some ⟨b, off, none⟩) (p + m) bs) (hmc : m ≤ c) (hl : p + m ≤ 9223372036854775000) (ht : Tab w) (h0 : 0 < w.heap.size)
    (hB : SealM.bend (bs.drop p) = (4 + SealM.blen (bs.drop p), 0)) (hne : SealM.opn (bs.drop p) = 5) :
    Calls Tryd.prog 35 #[.slice (some ⟨b, off, none⟩) (p + m) (p + c), .int .i64 (p : Int)] w fun e w' => e = toldBad 5 ∧ Below w.heap.size w w' := by
  have HT : Hid (Tab w) := ht
  clear ht
  have hs := hr.size
  obtain ⟨q, hq⟩ : ∃ q, q = SealM.blen (bs.drop p) := ⟨_, rfl⟩
  rw [← hq] at hB
  obtain ⟨e1, e2, e3, hq2, hq3⟩ := SealM.bend_ok hB
  clear e1 e2 e3
  rw [← hq, List.length_drop, hs] at hq3
  rw [← hq] at hq2
  have HF : Hid (SealM.bend (bs.drop p) = (4 + q, 0)) := hB
  have HR : Hid (Rd w (some ⟨b, off, none⟩) (p + m) bs) := hr
  have HRT : Hid (Rd w (some ⟨b, off + p, none⟩) m (bs.drop p)) := by
    have := hr.tail p m (Nat.le_refl _)
    rw [List.take_of_length_le (by rw [List.length_drop]; omega)] at this
    exact this
  have HR1 : Hid (Rd w (some ⟨b, off + p + 1, none⟩) (3 + q) (((bs.drop p).drop 1).take (3 + q))) := by
    have := hr.tail (p + 1) (3 + q) (by omega)
    rw [← List.drop_drop, ← Nat.add_assoc] at this
    exact this
  have HR2 : Hid (Rd w (some ⟨b, off + p + (4 + q), none⟩) (m - (4 + q)) ((bs.drop p).drop (4 + q))) := by
    have := hr.tail (p + (4 + q)) (m - (4 + q)) (by omega)
    rw [← List.drop_drop, ← Nat.add_assoc off, List.take_of_length_le (by rw [List.length_drop, List.length_drop]; omega)] at this
    exact this
  have hm8 : q + 8 ≤ m := by omega
  clear hq3
  have g1 : (0 : Int) ≤ (p : Int) := by omega
  have g3 : (p : Int) ≤ (p : Int) + (c : Int) := by omega
  have g4 : (p : Int) ≤ (p : Int) + (m : Int) := by omega
  have g5 : ¬ p + c = p := by omega
  have g6 : (0 : Int) ≤ 4 + (q : Int) := by omega
  have g7 : 4 + (q : Int) ≤ (m : Int) := by omega
  have g8 : 4 + (q : Int) ≤ (c : Int) := by omega
  have g9 : (1 : Int) ≤ 4 + (q : Int) := by omega
  have g10 : (1 : Int) ≤ max (4 + (q : Int)) 0 := by omega
  have g11 : (4 + (q : Int)).toNat = 4 + q := by omega
  have g12 : ¬ c = 4 + q := by omega
  have g13 : ¬ c = 1 := by omega
  obtain ⟨s, HS⟩ : ∃ s, Hid (s = SealM.le32 ((bs.drop p).drop (4 + q))) := ⟨_, rfl⟩
  obtain ⟨u, HU⟩ : ∃ u, Hid (u = Crc.more 0 (((bs.drop p).drop 1).take (3 + q))) := ⟨_, rfl⟩
  have hsu : ((s : Int) != (u : Int)) = true := by
    rw [SealM.opn_of hB, show 4 + q - 1 = 3 + q from by omega, ← HS.out, ← HU.out] at hne
    rw [bne_iff_ne]
    intro h
    have : s = u := by omega
    rw [if_pos this] at hne
    omega
  clear hne
  clear hr hs hB hq
  go_enter Tryd.func35, Tryd.ntmps35
  go_wp2_with fail
  refine (seal_bodyEnd (some ⟨b, off + p, none⟩) m c (bs.drop p) _ (HRT.out.below (below_alloc w _)) (by omega)).mono ?_
  rw [HF.out, show toldE (4 + q, 0) = .returned (.tuple #[.int .i64 (4 + (q : Int)), .int .i64 0]) from rfl]
  rintro e w1 ⟨rfl, hb1⟩
  have k0 : w1.cell? ⟨w.heap.size, 0, none⟩ = some (.int .u8 0) := (hb1.cell (p := ⟨w.heap.size, 0, none⟩) (by simp)).trans (by simp)
  have k1 : w1.cell? ⟨w.heap.size, 1, none⟩ = some (.int .i64 0) := (hb1.cell (p := ⟨w.heap.size, 1, none⟩) (by simp)).trans (by simp)
  have k2 : w1.cell? ⟨w.heap.size, 2, none⟩ = some (.slice none 0 0) := (hb1.cell (p := ⟨w.heap.size, 2, none⟩) (by simp)).trans (by simp)
  have f0 : w1.frozen? ⟨w.heap.size, 0, none⟩ = false := (hb1.frozen (p := ⟨w.heap.size, 0, none⟩) (by simp)).trans (by simp)
  have f1 : w1.frozen? ⟨w.heap.size, 1, none⟩ = false := (hb1.frozen (p := ⟨w.heap.size, 1, none⟩) (by simp)).trans (by simp)
  have f2 : w1.frozen? ⟨w.heap.size, 2, none⟩ = false := (hb1.frozen (p := ⟨w.heap.size, 2, none⟩) (by simp)).trans (by simp)
  have HB : Hid (Below w.heap.size w w1) := (below_alloc w _).trans (hb1.mono (by simp))
  have HBA : Hid (Below (w.heap.size + 1) (w.alloc (.cells #[.int .u8 0, .int .i64 0, .slice none 0 0] 95)) w1) := by simpa [Hid] using hb1
  clear hb1
  go_wp2
  go_region_held3 (fun _ => True) (trivial)
    (first
      | (go_at_call 53; refine (seal_takeSum (some ⟨b, off + p + (4 + q), none⟩) (m - (4 + q)) (c - (4 + q)) _ _ (HR2.out.below HB.out.drew) (by omega)).mono ?_; rw [← HS.out]; rintro e w2 ⟨rfl, hw2⟩; subst hw2)
      | (go_at_call 51; refine (seal_Sum (some ⟨b, off + p + 1, none⟩) (3 + q) (c - 1) _ _ (HR1.out.below HB.out.drew) (by omega) (HT.out.below h0 HB.out.drew)).mono ?_; rw [← HU.out]; rintro e w3 ⟨rfl, hw3⟩; subst hw3))
  all_goals have HK := cells3 (.int .u8 0) (.int .i64 0) (.slice none 0 0) k0 k1 k2
  all_goals go_wp2
  all_goals (try simp only [Exit.inBlock, Exit.then])
  all_goals refine bodyPost_ret (results_open (by rfl) (by rfl) (by rfl) HK) rfl ?_
  all_goals exact ⟨rfl, (((HB.out.setCell (Nat.le_refl _) _).setCell (Nat.le_refl _) _).setCell (Nat.le_refl _) _).drew⟩

set_option maxRecDepth 100000 in
set_option maxHeartbeats 2000000 in
/-- A right seal. -/
theorem seal_Open_ok (b off p m c : Nat) (bs : List Nat) (w : World) (hr : Rd w (some ⟨b, off, none⟩) (p + m) bs) (hmc : m ≤ c) (hl : p + m ≤ 9223372036854775000) (ht : Tab w) (h0 : 0 < w.heap.size)
    (hB : SealM.bend (bs.drop p) = (4 + SealM.blen (bs.drop p), 0)) (hok : SealM.opn (bs.drop p) = 0) (k q : Nat) (hk : (bs.drop p).getD 1 0 = k) (hq0 : SealM.blen (bs.drop p) = q) :
    Calls Tryd.prog 35 #[.slice (some ⟨b, off, none⟩) (p + m) (p + c), .int .i64 (p : Int)] w fun e w' => ∃ g, e = .returned (.tuple #[.agg #[.int .u8 (k : Int), .int .i64 (p : Int), .slice (some ⟨g, 0, none⟩) q q], .int .i64 ((p + q + 8 : Nat) : Int), .int .i64 0]) ∧ Own w' w.heap.size (some ⟨g, 0, none⟩) q q (((bs.drop p).drop 4).take q) ∧ Below w.heap.size w w' := by
  have HT : Hid (Tab w) := ht
  clear ht
  have hs := hr.size
  have hq : q = SealM.blen (bs.drop p) := hq0.symm
  rw [← hq] at hB
  obtain ⟨e1, e2, e3, hq2, hq3⟩ := SealM.bend_ok hB
  clear e1 e2 e3
  rw [← hq, List.length_drop, hs] at hq3
  rw [← hq] at hq2
  have HF : Hid (SealM.bend (bs.drop p) = (4 + q, 0)) := hB
  have HR : Hid (Rd w (some ⟨b, off, none⟩) (p + m) bs) := hr
  have HRT : Hid (Rd w (some ⟨b, off + p, none⟩) m (bs.drop p)) := by
    have := hr.tail p m (Nat.le_refl _)
    rw [List.take_of_length_le (by rw [List.length_drop]; omega)] at this
    exact this
  have HR1 : Hid (Rd w (some ⟨b, off + p + 1, none⟩) (3 + q) (((bs.drop p).drop 1).take (3 + q))) := by
    have := hr.tail (p + 1) (3 + q) (by omega)
    rw [← List.drop_drop, ← Nat.add_assoc] at this
    exact this
  have HR2 : Hid (Rd w (some ⟨b, off + p + (4 + q), none⟩) (m - (4 + q)) ((bs.drop p).drop (4 + q))) := by
    have := hr.tail (p + (4 + q)) (m - (4 + q)) (by omega)
    rw [← List.drop_drop, ← Nat.add_assoc off, List.take_of_length_le (by rw [List.length_drop, List.length_drop]; omega)] at this
    exact this
  have hm8 : q + 8 ≤ m := by omega
  clear hq3
  have g1 : (0 : Int) ≤ (p : Int) := by omega
  have g3 : (p : Int) ≤ (p : Int) + (c : Int) := by omega
  have g4 : (p : Int) ≤ (p : Int) + (m : Int) := by omega
  have g5 : ¬ p + c = p := by omega
  have g6 : (0 : Int) ≤ 4 + (q : Int) := by omega
  have g7 : 4 + (q : Int) ≤ (m : Int) := by omega
  have g8 : 4 + (q : Int) ≤ (c : Int) := by omega
  have g9 : (1 : Int) ≤ 4 + (q : Int) := by omega
  have g10 : (1 : Int) ≤ max (4 + (q : Int)) 0 := by omega
  have g11 : (4 + (q : Int)).toNat = 4 + q := by omega
  have g12 : ¬ c = 4 + q := by omega
  have g13 : ¬ c = 1 := by omega
  obtain ⟨s, HS⟩ : ∃ s, Hid (s = SealM.le32 ((bs.drop p).drop (4 + q))) := ⟨_, rfl⟩
  obtain ⟨u, HU⟩ : ∃ u, Hid (u = Crc.more 0 (((bs.drop p).drop 1).take (3 + q))) := ⟨_, rfl⟩
  have hsu : ((s : Int) != (u : Int)) = false := by
    rw [SealM.opn_of hB, show 4 + q - 1 = 3 + q from by omega, ← HS.out, ← HU.out] at hok
    have : s = u := by
      by_cases h : s = u
      · exact h
      · rw [if_neg h] at hok; omega
    rw [this]
    simp
  have HR4 : Hid (Rd w (some ⟨b, off + p + 4, none⟩) q (((bs.drop p).drop 4).take q)) := by
    have := hr.tail (p + 4) q (by omega)
    rw [← List.drop_drop, ← Nat.add_assoc] at this
    exact this
  have kc : w.cell? ⟨b, off + p + 1, none⟩ = some (.int .u8 (k : Int)) := by
    rcases HRT.out.cells with h1 | ⟨b', off', hb, _, hc⟩
    · omega
    · simp only [Option.some.injEq, Addr.mk.injEq] at hb
      obtain ⟨rfl, rfl, _⟩ := hb
      rw [hc 1 (by omega), hk]
  have hbw : b < w.heap.size := World.block_lt_of_cell? w _ kc
  obtain ⟨i0, hi, hz0, hz1, hz2⟩ := info_parts infoByte
  clear hok hk hq0
  clear hr hs hB hq
  go_enter Tryd.func35, Tryd.ntmps35
  go_wp2_with fail
  refine (seal_bodyEnd (some ⟨b, off + p, none⟩) m c (bs.drop p) _ (HRT.out.below (below_alloc w _)) (by omega)).mono ?_
  rw [HF.out, show toldE (4 + q, 0) = .returned (.tuple #[.int .i64 (4 + (q : Int)), .int .i64 0]) from rfl]
  rintro e w1 ⟨rfl, hb1⟩
  have k0 : w1.cell? ⟨w.heap.size, 0, none⟩ = some (.int .u8 0) := (hb1.cell (p := ⟨w.heap.size, 0, none⟩) (by simp)).trans (by simp)
  have k1 : w1.cell? ⟨w.heap.size, 1, none⟩ = some (.int .i64 0) := (hb1.cell (p := ⟨w.heap.size, 1, none⟩) (by simp)).trans (by simp)
  have k2 : w1.cell? ⟨w.heap.size, 2, none⟩ = some (.slice none 0 0) := (hb1.cell (p := ⟨w.heap.size, 2, none⟩) (by simp)).trans (by simp)
  have f0 : w1.frozen? ⟨w.heap.size, 0, none⟩ = false := (hb1.frozen (p := ⟨w.heap.size, 0, none⟩) (by simp)).trans (by simp)
  have f1 : w1.frozen? ⟨w.heap.size, 1, none⟩ = false := (hb1.frozen (p := ⟨w.heap.size, 1, none⟩) (by simp)).trans (by simp)
  have f2 : w1.frozen? ⟨w.heap.size, 2, none⟩ = false := (hb1.frozen (p := ⟨w.heap.size, 2, none⟩) (by simp)).trans (by simp)
  have HB : Hid (Below w.heap.size w w1) := (below_alloc w _).trans (hb1.mono (by simp))
  have HBA : Hid (Below (w.heap.size + 1) (w.alloc (.cells #[.int .u8 0, .int .i64 0, .slice none 0 0] 95)) w1) := by simpa [Hid] using hb1
  clear hb1
  go_wp2
  go_region_held3 (fun _ => True) (trivial)
    (first
      | (go_at_call 53; refine (seal_takeSum (some ⟨b, off + p + (4 + q), none⟩) (m - (4 + q)) (c - (4 + q)) _ _ (HR2.out.below HB.out.drew) (by omega)).mono ?_; rw [← HS.out]; rintro e w2 ⟨rfl, hw2⟩; subst hw2)
      | (go_at_call 51; refine (seal_Sum (some ⟨b, off + p + 1, none⟩) (3 + q) (c - 1) _ _ (HR1.out.below HB.out.drew) (by omega) (HT.out.below h0 HB.out.drew)).mono ?_; rw [← HU.out]; rintro e w3 ⟨rfl, hw3⟩; subst hw3))
  have hsz1 : w.heap.size + 1 ≤ w1.heap.size := by have := HBA.out.size; simpa using this
  obtain ⟨g, hg⟩ : ∃ g, g = w1.heap.size := ⟨_, rfl⟩
  have HG : Hid (g = w1.heap.size) := hg
  have HGD : Hid (w1.drew.heap.size = g) := hg.symm
  have hbg : w.heap.size + 1 ≤ g := by omega
  clear hg
  have eq4 : 4 + (q : Int) - 4 = (q : Int) := by omega
  go_wp2_with (at_make; refine wpList_make_full _ (by rfl) (.tmp 43) (.tmp 43) 42 (by rfl) (w.heap.size + 1) 5 i0 (.int .u8 0) 1 Tryd.underlying42 hi hz0 hz1 .i64 .i64 (q : Int) (q : Int) q (by rfl) (by rfl) rfl rfl (by rw [hz2]; omega) (by unfold maxLen; omega) (by rw [HGD.out]; exact hbg) ?_)
  rw [← HG.out]
  intro w2 hown2 hgrow2
  rw [made_byte] at hown2
  have HO2 : Hid (Own w2 (w.heap.size + 1) (some ⟨g, 0, none⟩) q q (List.replicate q 0)) := ⟨hown2, fun x hx => by rw [List.eq_of_mem_replicate hx]; omega⟩
  have HB2 : Hid (Below (w.heap.size + 1) w1 w2) := (Below.refl _ _).drew.grown hgrow2 (by rw [HGD.out]; exact hbg) (fun k hk => by cases hk)
  clear hown2 hgrow2
  obtain ⟨B, HBD⟩ : ∃ B, Hid (B = ((bs.drop p).drop 4).take q) := ⟨_, rfl⟩
  rw [← HBD.out] at HR4
  have HBL : Hid (B.length = q) := HR4.out.size
  have HB02 : Hid (Below w.heap.size w w2) := HB.out.trans (HB2.out.mono (by omega))
  have g20 : (4 : Int) ≤ 4 + (q : Int) := by omega
  have g21 : ¬ c = 4 := by omega
  have g22 : (4 : Int) ≤ max (4 + (q : Int)) 0 := by omega
  go_wp2_with (guard_target =~ wpList _ _ _ (Oper.mk (some 49) _ _ _ _ _ :: _) _ _; (refine wpList_copy_splice (by rfl) (.tmp 45) (.tmp 48) 42 42 (by rfl) 5 Tryd.underlying42 infoByteSize (some ⟨g, 0, none⟩) (some ⟨b, off + p + 4, none⟩) q q q (c - 4) (by rfl) (by rfl) g 0 (vb (List.replicate q 0)) 5 HO2.out.full (vb B) (by rw [vb_length, HBL.out]; exact (Nat.min_self q).symm) (fun hp => ⟨rfl, (HR4.out.below HB02.out).copies hp⟩) (by rw [vb_length, vb_length, HBL.out, List.length_replicate]; omega) (vb_one B) (w.heap.size + 1) w1 HB2.out hbg ?_))
  intro w3 hg3 hb3
  have HO3 : Hid (Own w3 w.heap.size (some ⟨g, 0, none⟩) q q B) := by
    have h := hg3.out
    rw [vb_splice, List.take_zero, List.nil_append, HBL.out, Nat.zero_add, List.drop_of_length_le (by simp), List.append_nil] at h
    exact Own.of_full h HR4.out.byte (by omega) (by rw [HBL.out]; unfold maxLen; omega) q HBL.out
  have HB3 : Hid (Below w.heap.size w w3) := HB.out.trans (hb3.mono (by omega))
  have l0 : w3.cell? ⟨w.heap.size, 0, none⟩ = some (.int .u8 0) := (hb3.cell (p := ⟨w.heap.size, 0, none⟩) (by simp)).trans k0
  have l1 : w3.cell? ⟨w.heap.size, 1, none⟩ = some (.int .i64 0) := (hb3.cell (p := ⟨w.heap.size, 1, none⟩) (by simp)).trans k1
  have l2 : w3.cell? ⟨w.heap.size, 2, none⟩ = some (.slice none 0 0) := (hb3.cell (p := ⟨w.heap.size, 2, none⟩) (by simp)).trans k2
  have m0 : w3.frozen? ⟨w.heap.size, 0, none⟩ = false := (hb3.frozen (p := ⟨w.heap.size, 0, none⟩) (by simp)).trans f0
  have m1 : w3.frozen? ⟨w.heap.size, 1, none⟩ = false := (hb3.frozen (p := ⟨w.heap.size, 1, none⟩) (by simp)).trans f1
  have m2 : w3.frozen? ⟨w.heap.size, 2, none⟩ = false := (hb3.frozen (p := ⟨w.heap.size, 2, none⟩) (by simp)).trans f2
  have kw3 : w3.cell? ⟨b, off + p + 1, none⟩ = some (.int .u8 (k : Int)) := (HB3.out.cell (p := ⟨b, off + p + 1, none⟩) hbw).trans kc
  have HK := cells3 (.int .u8 (k : Int)) (.int .i64 (p : Int)) (.slice (some ⟨g, 0, none⟩) q q) l0 l1 l2
  have HKK : Hid _ := HK
  clear hg3 hb3 k0 k1 k2 f0 f1 f2 HO2 HB2 HB02 HK
  go_wp2
  try simp only [Exit.inBlock, Exit.then]
  refine bodyPost_ret (results_open (by rfl) (by rfl) (by rfl) HKK.out) rfl ?_
  refine ⟨g, told_ok (by omega), ?_, ((HB3.out.setCell (Nat.le_refl _) _).setCell (Nat.le_refl _) _).setCell (Nat.le_refl _) _⟩
  have h := HO3.out
  rw [HBD.out] at h
  have hne : w.heap.size ≠ g := by omega
  exact ((h.far ⟨w.heap.size, 0, none⟩ _ hne).far ⟨w.heap.size, 1, none⟩ _ hne).far ⟨w.heap.size, 2, none⟩ _ hne
end Go.Proofs.YtbloomepdchjhaaDoor
/- seal.Open at any place of any bytes; 'lives' of the law's package. -/
namespace Go.Proofs.YtbloomepdchjhaaDoor
open Go.RowKit

/-- The error that is told of a place. -/
def openErr (bs : List Nat) (x : Int) : Nat := if x < 0 ∨ (bs.length : Int) < x then 2 else SealM.opn (bs.drop x.toNat)
theorem openErr_nat (bs : List Nat) (p : Nat) (hp : p ≤ bs.length) : openErr bs (p : Int) = SealM.opn (bs.drop p) := by
  unfold openErr
  rw [if_neg (by omega)]
  rfl

theorem seal_Open_bad (a : Option Addr) (len cap : Nat) (bs : List Nat) (x : Int) (w : World) (hr : Rd w a len bs) (hlc : len ≤ cap) (hl : len ≤ 9223372036854775000) (hx : (-9223372036854775808 : Int) ≤ x ∧ x ≤ 9223372036854775807) (ht : Tab w) (h0 : 0 < w.heap.size) (f : Nat) (hf : openErr bs x = f) (hf0 : f ≠ 0) :
    Calls Tryd.prog 35 #[.slice a len cap, .int .i64 x] w fun e w' => e = toldBad f ∧ Below w.heap.size w w' := by
  have hs := hr.size
  by_cases h1 : x < 0 ∨ (len : Int) < x
  · unfold openErr at hf
    rw [hs, if_pos h1] at hf
    subst hf
    exact seal_Open_arg a len cap x w hx h1
  · obtain ⟨p, rfl⟩ := Int.eq_ofNat_of_zero_le (a := x) (by omega)
    have hp : p ≤ len := by omega
    rw [openErr_nat bs p (by omega)] at hf
    by_cases h2 : p = len
    · subst h2
      have e : bs.drop p = [] := List.drop_of_length_le (by omega)
      rw [e] at hf
      have hf' : f = 3 := hf.symm
      subst hf'
      exact seal_Open_end a p cap w hl hlc
    · obtain ⟨m, rfl⟩ : ∃ m, len = p + m := ⟨len - p, by omega⟩
      obtain ⟨c, rfl⟩ : ∃ c, cap = p + c := ⟨cap - p, by omega⟩
      obtain ⟨b, off, rfl, _, _⟩ : ∃ b off, a = some ⟨b, off, none⟩ ∧ b < w.heap.size ∧ ∀ i, i < p + m → w.cell? ⟨b, off + i, none⟩ = some (.int .u8 ((bs.getD i 0 : Nat) : Int)) := by
        rcases hr.cells with h3 | h3
        · omega
        · exact h3
      rcases hB : SealM.bend (bs.drop p) with ⟨n, f'⟩
      by_cases hf' : f' = 0
      · subst hf'
        have hn := (SealM.bend_ok hB).1
        have hB' : SealM.bend (bs.drop p) = (4 + SealM.blen (bs.drop p), 0) := by rw [hB, hn]
        rw [SealM.opn_of hB] at hf
        have h5 : f = 5 := by
          split at hf
          · omega
          · exact hf.symm
        subst h5
        exact seal_Open_sum b off p m c bs w hr (by omega) hl ht h0 hB' (by rw [SealM.opn_of hB]; exact hf)
      · rw [SealM.opn_err hB hf'] at hf
        subst hf
        exact seal_Open_head b off p m c bs w hr (by omega) (by omega) hl f' (by rw [hB]) hf'

theorem seal_Open_good (a : Option Addr) (len cap : Nat) (bs : List Nat) (p : Nat) (w : World) (hr : Rd w a len bs) (hlc : len ≤ cap) (hl : len ≤ 9223372036854775000) (hp : p ≤ len) (ht : Tab w) (h0 : 0 < w.heap.size) (hok : SealM.opn (bs.drop p) = 0) (k q : Nat) (hk : (bs.drop p).getD 1 0 = k) (hq : SealM.blen (bs.drop p) = q) (B : List Nat) (hB : ((bs.drop p).drop 4).take q = B) :
    Calls Tryd.prog 35 #[.slice a len cap, .int .i64 (p : Int)] w fun e w' => ∃ g, e = .returned (.tuple #[.agg #[.int .u8 (k : Int), .int .i64 (p : Int), .slice (some ⟨g, 0, none⟩) q q], .int .i64 ((p + q + 8 : Nat) : Int), .int .i64 0]) ∧ Own w' w.heap.size (some ⟨g, 0, none⟩) q q B ∧ Below w.heap.size w w' := by
  have hs := hr.size
  subst hB
  rcases hb : SealM.bend (bs.drop p) with ⟨n, f'⟩
  by_cases hf' : f' = 0
  · subst hf'
    obtain ⟨hn, hl0, _, _, _⟩ := SealM.bend_ok hb
    rw [List.length_drop] at hl0
    obtain ⟨m, rfl⟩ : ∃ m, len = p + m := ⟨len - p, by omega⟩
    obtain ⟨c, rfl⟩ : ∃ c, cap = p + c := ⟨cap - p, by omega⟩
    obtain ⟨b, off, rfl, _, _⟩ : ∃ b off, a = some ⟨b, off, none⟩ ∧ b < w.heap.size ∧ ∀ i, i < p + m → w.cell? ⟨b, off + i, none⟩ = some (.int .u8 ((bs.getD i 0 : Nat) : Int)) := by
      rcases hr.cells with h3 | h3
      · omega
      · exact h3
    exact seal_Open_ok b off p m c bs w hr (by omega) hl ht h0 (by rw [hb, hn]) hok k q hk hq
  · rw [SealM.opn_err hb hf'] at hok
    exact absurd hok hf'

end Go.Proofs.YtbloomepdchjhaaDoor
/- The reference's Four: a number in four bytes, the lowest first, in a row of its own. -/
namespace Go.Proofs.YtbloomepdchjhaaDoor
open Go.RowKit

theorem ref_Four (n : Nat) (hn : n < 4294967296) (w : World) (base : Nat) (hB : base ≤ w.heap.size) :
    Calls Tryd.prog 58 #[.int .u32 (n : Int)] w fun e w' => ∃ a cap, e = .returned (.slice a 4 cap) ∧ a ≠ none ∧ Own w' base a 4 cap (Crc.four n) ∧ Below w.heap.size w w' := by
  go_enter Tryd.func58, Tryd.ntmps58
  go_wp2
  go_ret
  refine ⟨some ⟨w.heap.size, 0, none⟩, 4, rfl, by simp, ?_, (Below.refl _ _).alloc (Nat.le_refl _) _⟩
  refine Own.new w base _ (Crc.four n) (Crc.four_byte n) ?_ hB (by show 4 ≤ maxLen; unfold maxLen; omega)
  have e : n / 16777216 % 256 = n / 16777216 := Nat.mod_eq_of_lt (by omega)
  simp only [Crc.four, vb, List.map_cons, List.map_nil, e]
  rfl
end Go.Proofs.YtbloomepdchjhaaDoor
/- The reference's Seal, for every kind and row of bytes. -/
namespace Go.Proofs.YtbloomepdchjhaaDoor
open Go.RowKit

theorem ref_Seal_long (k : Nat) (a : Option Addr) (len cap : Nat) (w : World) (hl : 4096 < len) (hm : len ≤ 9223372036854775807) :
    Calls Tryd.prog 41 #[.int .u8 (k : Int), .slice a len cap] w fun e w' => e = .returned (.tuple #[.slice none 0 0, .int .i64 6]) ∧ w' = w := by
  go_enter Tryd.func41, Tryd.ntmps41
  go_wp2
  go_ret2
  exact ⟨rfl, rfl⟩

set_option maxRecDepth 100000 in
set_option maxHeartbeats 1000000 in
theorem ref_Seal (k : Nat) (hk : k < 256) (a : Option Addr) (len cap : Nat) (bs : List Nat) (w : World) (hr : Rd w a len bs) (hn : a = none → cap = 0) (hl : len ≤ 4096) :
    Calls Tryd.prog 41 #[.int .u8 (k : Int), .slice a len cap] w fun e w' => ∃ a' cap', e = .returned (.tuple #[.slice a' (len + 8) cap', .int .i64 0]) ∧ Own w' w.heap.size a' (len + 8) cap' (SealM.sealed k bs) ∧ Below w.heap.size w w' := by
  have HR : Hid (Rd w a len bs) := hr
  have HBL : Hid (bs.length = len) := hr.size
  have HIN : Hid (k :: len % 256 :: len / 256 :: bs = SealM.inner k bs) := by show _ = _; rw [← HBL.out]; rfl
  have HIL : Hid (Crc.more 0 (SealM.inner k bs) < 4294967296) := Crc.more_lt (by omega) (SealM.inner_byte hk hr.byte (by rw [HBL.out]; exact hl))
  have HNEW : Hid (Own (w.alloc (.cells #[.int .u8 (k : Int), .int .u8 ((len : Int) % 256), .int .u8 ((len : Int) / 256)] 5)) w.heap.size (some ⟨w.heap.size, 0, none⟩) 3 3 [k, len % 256, len / 256]) :=
    Own.new w w.heap.size _ [k, len % 256, len / 256] (by intro x hx; simp only [List.mem_cons, List.not_mem_nil, or_false] at hx; omega) rfl (Nat.le_refl _) (by show 3 ≤ maxLen; unfold maxLen; omega)
  clear hr
  go_enter Tryd.func41, Tryd.ntmps41
  go_wp2_with (at_builtin; refine wpList_append_rd (by rfl) (.tmp 20) (.tmp 21) (by rfl) w.heap.size (some ⟨w.heap.size, 0, none⟩) 3 3 [k, len % 256, len / 256] (by rfl) HNEW.out a len cap bs (by rfl) (HR.out.below (below_alloc w _)) hn (by omega) (by simp) ?_)
  intro a1 c1 w1 hown1 hgrow1 hbel1
  rw [HIN.out] at hown1
  have HO1 : Hid (Own w1 w.heap.size a1 (3 + len) c1 (SealM.inner k bs)) := hown1
  have HB1 : Hid (Below w.heap.size w w1) := (below_alloc w _).trans hbel1
  clear hown1 hgrow1 hbel1
  obtain ⟨s, HS⟩ : ∃ s, Hid (s = Crc.more 0 (SealM.inner k bs)) := ⟨_, rfl⟩
  rw [← HS.out] at HIL
  go_wp2_with fail
  refine (ref_Sum a1 (3 + len) c1 (SealM.inner k bs) w1 HO1.out.rd (by omega)).mono ?_
  rw [← HS.out]
  rintro e w1' ⟨rfl, hw1⟩
  subst hw1
  have HNEW2 : Hid (Own (w1'.alloc (.cells #[.int .u8 167] 5)) w.heap.size (some ⟨w1'.heap.size, 0, none⟩) 1 1 [167]) :=
    Own.new w1' w.heap.size _ [167] (by decide) rfl HB1.out.size (by show 1 ≤ maxLen; unfold maxLen; omega)
  obtain ⟨g, HG⟩ : ∃ g, Hid (g = w1'.heap.size) := ⟨_, rfl⟩
  have HO1' : Hid (Rd (w1'.alloc (.cells #[.int .u8 167] 5)) a1 (3 + len) (SealM.inner k bs)) := HO1.out.rd.below (below_alloc w1' _)
  have hn1 : a1 = none → c1 = 0 := by
    intro h
    obtain ⟨g', hg', _⟩ := HO1.out.form (by omega)
    rw [hg'] at h
    cases h
  have HSZ : Hid (w.heap.size ≤ (w1'.alloc (.cells #[.int .u8 167] 5)).heap.size) := by show _ ≤ _; have := HB1.out.size; simp; omega
  go_wp2_with (at_builtin; refine wpList_append_rd (by rfl) (.tmp 25) (.tmp 26) (by rfl) w.heap.size (some ⟨w1'.heap.size, 0, none⟩) 1 1 [167] (by rfl) HNEW2.out a1 (3 + len) c1 (SealM.inner k bs) (by rfl) HO1'.out hn1 (by omega) HSZ.out ?_)
  intro a2 c2 w2 hown2 hgrow2 hbel2
  have HO2 : Hid (Own w2 w.heap.size a2 (1 + (3 + len)) c2 (167 :: SealM.inner k bs)) := hown2
  have HB2 : Hid (Below w.heap.size w w2) := (HB1.out.trans ((below_alloc w1' _).mono HB1.out.size)).trans hbel2
  clear hown2 hgrow2 hbel2
  go_wp2_with fail
  refine (ref_Four s HIL.out w2 w.heap.size HB2.out.size).mono ?_
  rintro e w3 ⟨a3, c3, rfl, hne, hown3, hb3⟩
  have HB3 : Hid (Below w.heap.size w w3) := HB2.out.trans (hb3.mono HB2.out.size)
  have HO2' : Hid (Own w3 w.heap.size a2 (1 + (3 + len)) c2 (167 :: SealM.inner k bs)) := HO2.out.below hb3
  have HO3 : Hid (Own w3 w.heap.size a3 4 c3 (Crc.four s)) := hown3
  clear hown3 hb3
  go_wp2_with (at_builtin; refine wpList_append_rd (by rfl) (.tmp 27) (.tmp 29) (by rfl) w.heap.size a2 (1 + (3 + len)) c2 (167 :: SealM.inner k bs) (by rfl) HO2'.out a3 4 c3 (Crc.four s) (by rfl) HO3.out.rd (fun h => absurd h hne) (by omega) HB3.out.size ?_)
  intro a4 c4 w4 hown4 hgrow4 hbel4
  have HO4 : Hid (Own w4 w.heap.size a4 (1 + (3 + len) + 4) c4 (SealM.sealed k bs)) := by
    have h : Own w4 w.heap.size a4 (1 + (3 + len) + 4) c4 (167 :: (SealM.inner k bs ++ Crc.four s)) := hown4
    rw [HS.out] at h
    exact h
  have HB4 : Hid (Below w.heap.size w w4) := HB3.out.trans hbel4
  clear hown4 hgrow4 hbel4
  go_wp2
  go_ret2
  have e8 : 1 + (3 + len) + 4 = len + 8 := by omega
  rw [e8] at HO4
  refine ⟨a4, c4, ?_, HO4.out, HB4.out⟩
  show Ending.returned (.tuple #[.slice a4 (1 + (3 + len) + 4) c4, .int .i64 0]) = _
  rw [e8]
end Go.Proofs.YtbloomepdchjhaaDoor
