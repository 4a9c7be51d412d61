/- seal.takeSum, seal.bodyEnd and seal.Open: what they tell, for every row of bytes and place. -/
import Derived.Test.YtoijhlnadaipoaaDoorSealPut
namespace Go.Proofs.YtoijhlnadaipoaaDoor
open Go.RowKit

theorem below_drewN (w : World) (n : Nat) : Below w.heap.size w (w.drewN n) := ⟨rfl, rfl, rfl, Nat.le_refl _, fun _ _ => rfl⟩

theorem or_add (x c k : Nat) (h : x < 2 ^ k) : x ||| c * 2 ^ k = x + c * 2 ^ k := by
  rw [Nat.or_comm, ← Nat.shiftLeft_eq, ← Nat.shiftLeft_add_eq_or_of_lt h, Nat.add_comm]

set_option maxHeartbeats 400000 in
theorem seal_takeSum (a : Option Addr) (len cap : Nat) (bs : List Nat) (w : World) (hr : Rd w a len bs) (hl : 4 ≤ len) :
    Calls Tryd.prog 59 #[.slice a len cap] w fun e w' => e = .returned (.int .u32 ((SealM.le32 bs : Nat) : Int)) ∧ w' = w := by
  have hbl : ∀ k, bs.getD k 0 < 256 := getD_lt hr.byte
  obtain ⟨b, off, rfl, hblt, hc⟩ : ∃ b off, a = some ⟨b, off, none⟩ ∧ b < w.heap.size ∧ ∀ i, i < len → w.cell? ⟨b, off + i, none⟩ = some (.int .u8 ((bs.getD i 0 : Nat) : Int)) := by
    rcases hr.cells with h0 | h
    · omega
    · exact h
  have h0 := hc 0 (by omega)
  have h1 := hc 1 (by omega)
  have h2 := hc 2 (by omega)
  have h3 := hc 3 (by omega)
  obtain ⟨c0, H0⟩ : ∃ c, Hid (c = bs.getD 0 0) := ⟨_, rfl⟩
  obtain ⟨c1, H1⟩ : ∃ c, Hid (c = bs.getD 1 0) := ⟨_, rfl⟩
  obtain ⟨c2, H2⟩ : ∃ c, Hid (c = bs.getD 2 0) := ⟨_, rfl⟩
  obtain ⟨c3, H3⟩ : ∃ c, Hid (c = bs.getD 3 0) := ⟨_, rfl⟩
  have b0 := hbl 0
  have b1 := hbl 1
  have b2 := hbl 2
  have b3 := hbl 3
  rw [← H0.out] at h0 b0
  rw [← H1.out] at h1 b1
  rw [← H2.out] at h2 b2
  rw [← H3.out] at h3 b3
  have HF : Hid (SealM.le32 bs = c0 + 256 * c1 + 65536 * c2 + 16777216 * c3) := by show _ = _; rw [H0.out, H1.out, H2.out, H3.out]; rfl
  rw [Nat.add_zero] at h0
  rw [HF.out]
  clear hc hbl hr
  go_enter Tryd.func59, Tryd.ntmps59
  go_wp2
  refine wp_loop_rounds 5 ?_
  rw [rounds_succ]
  go_wp2
  rw [rounds_succ]
  go_wp2
  rw [rounds_succ]
  go_wp2
  rw [rounds_succ]
  go_wp2
  rw [rounds_succ]
  go_wp2
  go_ret
  refine ⟨ret_int ?_, rfl⟩
  have e0 : bits BinOp.or IntKind.u32 0 (c0 : Int) = (c0 : Int) := by
    have := u32_or_nat 0 c0 (by omega) (by omega)
    rw [Nat.zero_or] at this
    exact this
  have e1 : bits BinOp.or IntKind.u32 (c0 : Int) ((c1 : Int) * 256) = ((c0 + c1 * 256 : Nat) : Int) := by
    have := u32_or_nat c0 (c1 * 256) (by omega) (by omega)
    rw [or_add c0 c1 8 (by omega)] at this
    exact this
  have e2 : bits BinOp.or IntKind.u32 ((c0 + c1 * 256 : Nat) : Int) ((c2 : Int) * 65536) = ((c0 + c1 * 256 + c2 * 65536 : Nat) : Int) := by
    have := u32_or_nat (c0 + c1 * 256) (c2 * 65536) (by omega) (by omega)
    rw [or_add (c0 + c1 * 256) c2 16 (by omega)] at this
    exact this
  have e3 : bits BinOp.or IntKind.u32 ((c0 + c1 * 256 + c2 * 65536 : Nat) : Int) ((c3 : Int) * 16777216) = ((c0 + c1 * 256 + c2 * 65536 + c3 * 16777216 : Nat) : Int) := by
    have := u32_or_nat (c0 + c1 * 256 + c2 * 65536) (c3 * 16777216) (by omega) (by omega)
    rw [or_add (c0 + c1 * 256 + c2 * 65536) c3 24 (by omega)] at this
    exact this
  rw [e0, e1, e2, e3]
  omega

theorem i64_or_nat (a b : Nat) (ha : a < 65536) (hb : b < 65536) : bits .or .i64 (a : Int) (b : Int) = ((a ||| b : Nat) : Int) := by
  have hx : a ||| b < 2 ^ 16 := Nat.or_lt_two_pow (by omega) (by omega)
  have o : ∀ x : Nat, x < 65536 → (BitVec.ofInt 64 (x : Int)).toNat = x := fun x h => by
    rw [BitVec.ofInt_natCast, BitVec.toNat_ofNat]; exact Nat.mod_eq_of_lt (by omega)
  show IntKind.i64.wrap ((BitVec.ofInt 64 (a : Int) ||| BitVec.ofInt 64 (b : Int)).toNat : Int) = _
  rw [BitVec.toNat_or, o a ha, o b hb]
  simp [IntKind.wrap, IntKind.bits, IntKind.signed]
  omega

def toldE (r : Nat × Nat) : Ending := .returned (.tuple #[.int .i64 (r.1 : Int), .int .i64 (r.2 : Int)])

set_option maxHeartbeats 1000000 in
theorem seal_bodyEnd (a : Option Addr) (len cap : Nat) (bs : List Nat) (w : World) (hr : Rd w a len bs) (hl : len ≤ 9223372036854775000) :
    Calls Tryd.prog 58 #[.slice a len cap] w fun e w' => e = toldE (SealM.bend bs) ∧ Below w.heap.size w w' := by
  have hlen := hr.size
  by_cases hz : len = 0
  · have HF : Hid (SealM.bend bs = (0, 3)) := by show _ = _; unfold SealM.bend; rw [if_pos (by omega)]
    have g1 : ((len : Int) == 0) = true := by rw [beq_iff_eq]; omega
    rw [HF.out]
    clear hr hlen
    go_enter Tryd.func58, Tryd.ntmps58
    go_wp2
    go_ret2
    exact ⟨rfl, Below.refl _ _⟩
  have g1 : ((len : Int) == 0) = false := by rw [beq_eq_false_iff_ne]; omega
  have hbl : ∀ k, bs.getD k 0 < 256 := getD_lt hr.byte
  obtain ⟨b, off, rfl, hblt, hc⟩ : ∃ b off, a = some ⟨b, off, none⟩ ∧ b < w.heap.size ∧ ∀ i, i < len → w.cell? ⟨b, off + i, none⟩ = some (.int .u8 ((bs.getD i 0 : Nat) : Int)) := by
    rcases hr.cells with h0 | h
    · omega
    · exact h
  obtain ⟨c0, H0⟩ : ∃ c, Hid (c = bs.getD 0 0) := ⟨_, rfl⟩
  have h0 := hc 0 (by omega)
  have b0 := hbl 0
  rw [← H0.out] at h0 b0
  rw [Nat.add_zero] at h0
  by_cases h1 : c0 = 167
  · have g2 : ((c0 : Int) != 167) = false := by rw [h1]; rfl
    by_cases h4 : len < 4
    · have HF : Hid (SealM.bend bs = (0, 3)) := by
        show _ = _; unfold SealM.bend; rw [if_neg (by omega), ← H0.out, if_neg (by omega), if_pos (by omega)]
      rw [HF.out]
      clear hr hlen hbl hc h1
      go_enter Tryd.func58, Tryd.ntmps58
      go_wp2
      go_ret2
      exact ⟨rfl, Below.refl _ _⟩
    · have h2 := hc 2 (by omega)
      have h3 := hc 3 (by omega)
      obtain ⟨c2, H2⟩ : ∃ c, Hid (c = bs.getD 2 0) := ⟨_, rfl⟩
      obtain ⟨c3, H3⟩ : ∃ c, Hid (c = bs.getD 3 0) := ⟨_, rfl⟩
      have b2 := hbl 2
      have b3 := hbl 3
      rw [← H2.out] at h2 b2
      rw [← H3.out] at h3 b3
      have HB : Hid (SealM.blen bs = c2 + 256 * c3) := by show _ = _; unfold SealM.blen; rw [H2.out, H3.out]
      have eor : bits BinOp.or IntKind.i64 (c2 : Int) ((c3 : Int) * 256) = ((c2 + 256 * c3 : Nat) : Int) := by
        have := i64_or_nat c2 (c3 * 256) (by omega) (by omega)
        rw [or_add c2 c3 8 (by omega)] at this
        refine this.trans ?_
        omega
      obtain ⟨n, HN⟩ : ∃ n, Hid (n = c2 + 256 * c3) := ⟨_, rfl⟩
      have hn : n < 65536 := by rw [HN.out]; omega
      rw [← HN.out] at eor HB
      have hneg : ¬ (c0 ≠ 167) := by omega
      have hm : 4 ≤ len := by omega
      by_cases h5 : 4096 < n
      · have HF : Hid (SealM.bend bs = (0, 6)) := by
          show _ = _; unfold SealM.bend; rw [if_neg (by omega), ← H0.out, if_neg hneg, if_neg (by omega), HB.out, if_pos h5]
        rw [HF.out]
        clear hr hlen hbl hc h1 hneg
        go_enter Tryd.func58, Tryd.ntmps58
        go_wp2
        go_quiet (fail)
        go_wp2
        go_ret2
        exact ⟨rfl, below_drewN w _⟩
      · by_cases h6 : len < n + 8
        · have HF : Hid (SealM.bend bs = (0, 3)) := by
            show _ = _; unfold SealM.bend; rw [if_neg (by omega), ← H0.out, if_neg hneg, if_neg (by omega), HB.out, if_neg h5, if_pos (by omega)]
          rw [HF.out]
          clear hr hlen hbl hc h1 hneg
          go_enter Tryd.func58, Tryd.ntmps58
          go_wp2
          go_quiet (fail)
          go_wp2
          go_ret2
          exact ⟨rfl, below_drewN w _⟩
        · have HF : Hid (SealM.bend bs = (4 + n, 0)) := by
            show _ = _; unfold SealM.bend; rw [if_neg (by omega), ← H0.out, if_neg hneg, if_neg (by omega), HB.out, if_neg h5, if_neg (by omega)]
          rw [HF.out]
          clear hr hlen hbl hc h1 hneg
          go_enter Tryd.func58, Tryd.ntmps58
          go_wp2
          go_quiet (fail)
          go_wp2
          go_ret2
          exact ⟨rfl, below_drewN w _⟩
  · have g2 : ((c0 : Int) != 167) = true := by rw [bne_iff_ne]; omega
    have HF : Hid (SealM.bend bs = (0, 4)) := by
      show _ = _; unfold SealM.bend; rw [if_neg (by omega), ← H0.out, if_pos h1]
    rw [HF.out]
    clear hr hlen hbl hc
    go_enter Tryd.func58, Tryd.ntmps58
    go_wp2
    go_ret2
    exact ⟨rfl, Below.refl _ _⟩

/-- What Open answers beside an error. -/
def toldBad (f : Nat) : Ending := .returned (.tuple #[.agg #[.int .u8 0, .int .i64 0, .slice none 0 0], .int .i64 0, .int .i64 (f : Int)])

set_option maxHeartbeats 1000000 in
theorem seal_Open_arg (a : Option Addr) (len cap : Nat) (x : Int) (w : World) (hx : (-9223372036854775808 : Int) ≤ x ∧ x ≤ 9223372036854775807) (h : x < 0 ∨ (len : Int) < x) :
    Calls Tryd.prog 41 #[.slice a len cap, .int .i64 x] w fun e w' => e = toldBad 2 ∧ Below w.heap.size w w' := by
  by_cases h1 : x < 0
  · go_enter Tryd.func41, Tryd.ntmps41
    go_wp2
    go_returns
    exact ⟨rfl, below_alloc w _⟩
  · have h2 : (len : Int) < x := by omega
    go_enter Tryd.func41, Tryd.ntmps41
    go_wp2
    go_returns
    exact ⟨rfl, below_alloc w _⟩

theorem cells3 {w : World} {g : Nat} {u0 u1 u2 : Value} (v0 v1 v2 : Value) (k0 : w.cell? ⟨g, 0, none⟩ = some u0) (k1 : w.cell? ⟨g, 1, none⟩ = some u1) (k2 : w.cell? ⟨g, 2, none⟩ = some u2) :
    (((w.setCell ⟨g, 0, none⟩ v0).setCell ⟨g, 1, none⟩ v1).setCell ⟨g, 2, none⟩ v2).cell? ⟨g, 0, none⟩ = some v0 ∧ (((w.setCell ⟨g, 0, none⟩ v0).setCell ⟨g, 1, none⟩ v1).setCell ⟨g, 2, none⟩ v2).cell? ⟨g, 1, none⟩ = some v1 ∧ (((w.setCell ⟨g, 0, none⟩ v0).setCell ⟨g, 1, none⟩ v1).setCell ⟨g, 2, none⟩ v2).cell? ⟨g, 2, none⟩ = some v2 := by
  refine ⟨?_, ?_, ?_⟩
  · rw [World.cell?_setCell_other _ _ _ _ (by simp), World.cell?_setCell_other _ _ _ _ (by simp)]
    exact World.cell?_setCell_same _ _ _ k0
  · rw [World.cell?_setCell_other _ _ _ _ (by simp)]
    refine World.cell?_setCell_same _ _ _ (u := u1) ?_
    rw [World.cell?_setCell_other _ _ _ _ (by simp)]
    exact k1
  · refine World.cell?_setCell_same _ _ _ (u := u2) ?_
    rw [World.cell?_setCell_other _ _ _ _ (by simp), World.cell?_setCell_other _ _ _ _ (by simp)]
    exact k2

/-- A seal that is told, out of the result's own cells. -/
theorem results_open {w : World} {tmps : Array Value} {g : Nat} {v0 v1 v2 n f : Value} (h4 : tmps[4]?.getD undef = .pointer (some ⟨g, 0, none⟩)) (h5 : tmps[5]?.getD undef = n) (h6 : tmps[6]?.getD undef = f)
    (k : w.cell? ⟨g, 0, none⟩ = some v0 ∧ w.cell? ⟨g, 1, none⟩ = some v1 ∧ w.cell? ⟨g, 2, none⟩ = some v2) : (results Tryd.f41 tmps).run Tryd.prog w = .ok (.tuple #[.agg #[v0, v1, v2], n, f]) w := by
  obtain ⟨k0, k1, k2⟩ := k
  simp [results, Tryd.results41, go_sem, h4, h5, h6, k0, k1, k2]

/-- At the end of the bytes. -/
theorem seal_Open_end (a : Option Addr) (len cap : Nat) (w : World) (hl : len ≤ 9223372036854775000) (hlc : len ≤ cap) :
    Calls Tryd.prog 41 #[.slice a len cap, .int .i64 (len : Int)] w fun e w' => e = toldBad 3 ∧ Below w.heap.size w w' := by
  have g1 : (0 : Int) ≤ (len : Int) := by omega
  have g3 : (len : Int) ≤ (cap : Int) := by omega
  by_cases hcp : cap = len
  · subst hcp
    go_enter Tryd.func41, Tryd.ntmps41
    go_wp2_with fail
    refine (seal_bodyEnd _ 0 _ [] _ ⟨rfl, by simp, .inl rfl⟩ (by omega)).mono ?_
    rw [show toldE (SealM.bend []) = .returned (.tuple #[.int .i64 0, .int .i64 3]) from rfl]
    rintro e w1 ⟨rfl, hb1⟩
    have k0 : w1.cell? ⟨w.heap.size, 0, none⟩ = some (.int .u8 0) := (hb1.cell (p := ⟨w.heap.size, 0, none⟩) (by simp)).trans (by simp)
    have k1 : w1.cell? ⟨w.heap.size, 1, none⟩ = some (.int .i64 0) := (hb1.cell (p := ⟨w.heap.size, 1, none⟩) (by simp)).trans (by simp)
    have k2 : w1.cell? ⟨w.heap.size, 2, none⟩ = some (.slice none 0 0) := (hb1.cell (p := ⟨w.heap.size, 2, none⟩) (by simp)).trans (by simp)
    have f0 : w1.frozen? ⟨w.heap.size, 0, none⟩ = false := (hb1.frozen (p := ⟨w.heap.size, 0, none⟩) (by simp)).trans (by simp)
    have f1 : w1.frozen? ⟨w.heap.size, 1, none⟩ = false := (hb1.frozen (p := ⟨w.heap.size, 1, none⟩) (by simp)).trans (by simp)
    have f2 : w1.frozen? ⟨w.heap.size, 2, none⟩ = false := (hb1.frozen (p := ⟨w.heap.size, 2, none⟩) (by simp)).trans (by simp)
    have HB : Hid (Below w.heap.size w w1) := (below_alloc w _).trans (hb1.mono (by simp))
    have HK := cells3 (.int .u8 0) (.int .i64 0) (.slice none 0 0) k0 k1 k2
    clear hb1
    go_wp2
    try simp only [Exit.inBlock, Exit.then]
    refine bodyPost_ret (results_open (by rfl) (by rfl) (by rfl) HK) rfl ?_
    exact ⟨rfl, ((HB.out.setCell (Nat.le_refl _) _).setCell (Nat.le_refl _) _).setCell (Nat.le_refl _) _⟩
  · go_enter Tryd.func41, Tryd.ntmps41
    go_wp2_with fail
    refine (seal_bodyEnd _ 0 _ [] _ ⟨rfl, by simp, .inl rfl⟩ (by omega)).mono ?_
    rw [show toldE (SealM.bend []) = .returned (.tuple #[.int .i64 0, .int .i64 3]) from rfl]
    rintro e w1 ⟨rfl, hb1⟩
    have k0 : w1.cell? ⟨w.heap.size, 0, none⟩ = some (.int .u8 0) := (hb1.cell (p := ⟨w.heap.size, 0, none⟩) (by simp)).trans (by simp)
    have k1 : w1.cell? ⟨w.heap.size, 1, none⟩ = some (.int .i64 0) := (hb1.cell (p := ⟨w.heap.size, 1, none⟩) (by simp)).trans (by simp)
    have k2 : w1.cell? ⟨w.heap.size, 2, none⟩ = some (.slice none 0 0) := (hb1.cell (p := ⟨w.heap.size, 2, none⟩) (by simp)).trans (by simp)
    have f0 : w1.frozen? ⟨w.heap.size, 0, none⟩ = false := (hb1.frozen (p := ⟨w.heap.size, 0, none⟩) (by simp)).trans (by simp)
    have f1 : w1.frozen? ⟨w.heap.size, 1, none⟩ = false := (hb1.frozen (p := ⟨w.heap.size, 1, none⟩) (by simp)).trans (by simp)
    have f2 : w1.frozen? ⟨w.heap.size, 2, none⟩ = false := (hb1.frozen (p := ⟨w.heap.size, 2, none⟩) (by simp)).trans (by simp)
    have HB : Hid (Below w.heap.size w w1) := (below_alloc w _).trans (hb1.mono (by simp))
    have HK := cells3 (.int .u8 0) (.int .i64 0) (.slice none 0 0) k0 k1 k2
    clear hb1
    go_wp2
    try simp only [Exit.inBlock, Exit.then]
    refine bodyPost_ret (results_open (by rfl) (by rfl) (by rfl) HK) rfl ?_
    exact ⟨rfl, ((HB.out.setCell (Nat.le_refl _) _).setCell (Nat.le_refl _) _).setCell (Nat.le_refl _) _⟩

theorem Rd.tail {w : World} {b off p m : Nat} {bs : List Nat} (h : Rd w (some ⟨b, off, none⟩) (p + m) bs) (q n : Nat) (hq : q + n ≤ p + m) : Rd w (some ⟨b, off + q, none⟩) n ((bs.drop q).take n) := by
  have hs := h.size
  refine ⟨by rw [List.length_take, List.length_drop]; omega, fun y hy => h.byte y (List.mem_of_mem_drop (List.mem_of_mem_take hy)), ?_⟩
  by_cases h0 : n = 0
  · exact .inl h0
  · rcases h.cells with h1 | ⟨b', off', hb, hlt, hc⟩
    · omega
    · simp only [Option.some.injEq, Addr.mk.injEq] at hb
      obtain ⟨rfl, rfl, _⟩ := hb
      refine .inr ⟨b, off + q, rfl, hlt, fun i hi => ?_⟩
      rw [Nat.add_assoc, hc (q + i) (by omega)]
      simp only [List.getD_eq_getElem?_getD, List.getElem?_take_of_lt hi, List.getElem?_drop]

set_option maxHeartbeats 1000000 in
/-- A head that is none. -/
theorem seal_Open_head (b off p m c : Nat) (bs : List Nat) (w : World) (hr : Rd w (some ⟨b, off, none⟩) (p + m) bs) (hm : 0 < m) (hmc : m ≤ c) (hl : p + m ≤ 9223372036854775000) (f : Nat) (hf : (SealM.bend (bs.drop p)).2 = f) (hf0 : f ≠ 0) :
    Calls Tryd.prog 41 #[.slice (some ⟨b, off, none⟩) (p + m) (p + c), .int .i64 (p : Int)] w fun e w' => e = toldBad f ∧ Below w.heap.size w w' := by
  have hs := hr.size
  have HF : Hid (SealM.bend (bs.drop p) = (0, f)) := by
    rcases hb : SealM.bend (bs.drop p) with ⟨n, f'⟩
    rw [hb] at hf
    have hff : f' = f := hf
    subst hff
    show (n, f') = (0, f')
    rw [SealM.bend_err hb hf0]
  have HR : Hid (Rd w (some ⟨b, off + p, none⟩) m (bs.drop p)) := by
    have := hr.tail p m (Nat.le_refl _)
    rw [List.take_of_length_le (by rw [List.length_drop]; omega)] at this
    exact this
  have g1 : (0 : Int) ≤ (p : Int) := by omega
  have g3 : (p : Int) ≤ (p : Int) + (c : Int) := by omega
  have g4 : (p : Int) ≤ (p : Int) + (m : Int) := by omega
  have g5 : ¬ p + c = p := by omega
  have hf' : ((f : Int) != 0) = true := by rw [bne_iff_ne]; omega
  clear hr hs hf hf0
  go_enter Tryd.func41, Tryd.ntmps41
  go_wp2_with fail
  refine (seal_bodyEnd (some ⟨b, off + p, none⟩) m c (bs.drop p) _ (HR.out.below (below_alloc w _)) (by omega)).mono ?_
  rw [HF.out, show toldE (0, f) = .returned (.tuple #[.int .i64 0, .int .i64 (f : Int)]) from rfl]
  rintro e w1 ⟨rfl, hb1⟩
  have k0 : w1.cell? ⟨w.heap.size, 0, none⟩ = some (.int .u8 0) := (hb1.cell (p := ⟨w.heap.size, 0, none⟩) (by simp)).trans (by simp)
  have k1 : w1.cell? ⟨w.heap.size, 1, none⟩ = some (.int .i64 0) := (hb1.cell (p := ⟨w.heap.size, 1, none⟩) (by simp)).trans (by simp)
  have k2 : w1.cell? ⟨w.heap.size, 2, none⟩ = some (.slice none 0 0) := (hb1.cell (p := ⟨w.heap.size, 2, none⟩) (by simp)).trans (by simp)
  have f0 : w1.frozen? ⟨w.heap.size, 0, none⟩ = false := (hb1.frozen (p := ⟨w.heap.size, 0, none⟩) (by simp)).trans (by simp)
  have f1 : w1.frozen? ⟨w.heap.size, 1, none⟩ = false := (hb1.frozen (p := ⟨w.heap.size, 1, none⟩) (by simp)).trans (by simp)
  have f2 : w1.frozen? ⟨w.heap.size, 2, none⟩ = false := (hb1.frozen (p := ⟨w.heap.size, 2, none⟩) (by simp)).trans (by simp)
  have HB : Hid (Below w.heap.size w w1) := (below_alloc w _).trans (hb1.mono (by simp))
  have HK := cells3 (.int .u8 0) (.int .i64 0) (.slice none 0 0) k0 k1 k2
  clear hb1
  go_wp2
  try simp only [Exit.inBlock, Exit.then]
  refine bodyPost_ret (results_open (by rfl) (by rfl) (by rfl) HK) rfl ?_
  exact ⟨rfl, ((HB.out.setCell (Nat.le_refl _) _).setCell (Nat.le_refl _) _).setCell (Nat.le_refl _) _⟩
end Go.Proofs.YtoijhlnadaipoaaDoor
