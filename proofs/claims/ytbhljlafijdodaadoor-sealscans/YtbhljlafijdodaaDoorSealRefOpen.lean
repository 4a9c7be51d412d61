/- The reference's Open, for every row of bytes and place. -/
import Derived.Test.YtbhljlafijdodaaDoorSealRef
namespace Go.Proofs.YtbhljlafijdodaaDoor
open Go.RowKit

theorem below_alloc_drewN (w : World) (o : Obj) (n : Nat) : Below w.heap.size w ((w.alloc o).drewN n) := (below_alloc w o).trans ((below_drewN (w.alloc o) n).mono (by simp))

/-- A seal that is told, out of the result's own cells. -/
theorem results_refOpen {w : World} {tmps : Array Value} {g : Nat} {v0 v1 v2 n f : Value} (h4 : tmps[4]?.getD undef = .pointer (some ⟨g, 0, none⟩)) (h5 : tmps[5]?.getD undef = n) (h6 : tmps[6]?.getD undef = f)
    (k : w.cell? ⟨g, 0, none⟩ = some v0 ∧ w.cell? ⟨g, 1, none⟩ = some v1 ∧ w.cell? ⟨g, 2, none⟩ = some v2) : (results Tryd.f13 tmps).run Tryd.prog w = .ok (.tuple #[.agg #[v0, v1, v2], n, f]) w := by
  obtain ⟨k0, k1, k2⟩ := k
  simp [results, Tryd.results13, go_sem, h4, h5, h6, k0, k1, k2]

set_option maxHeartbeats 1000000 in
theorem ref_Open_arg (a : Option Addr) (len cap : Nat) (x : Int) (w : World) (hx : (-9223372036854775808 : Int) ≤ x ∧ x ≤ 9223372036854775807) (h : x < 0 ∨ (len : Int) < x) :
    Calls Tryd.prog 13 #[.slice a len cap, .int .i64 x] w fun e w' => e = toldBad 2 ∧ Below w.heap.size w w' := by
  by_cases h1 : x < 0
  · go_enter Tryd.func13, Tryd.ntmps13
    go_wp2
    go_returns
    exact ⟨rfl, below_alloc w _⟩
  · have h2 : (len : Int) < x := by omega
    go_enter Tryd.func13, Tryd.ntmps13
    go_wp2
    go_returns
    exact ⟨rfl, below_alloc w _⟩

theorem ref_Open_end (a : Option Addr) (len cap : Nat) (w : World) (hl : len ≤ 9223372036854775000) :
    Calls Tryd.prog 13 #[.slice a len cap, .int .i64 (len : Int)] w fun e w' => e = toldBad 3 ∧ Below w.heap.size w w' := by
  have g1 : ¬ (len : Int) < 0 := by omega
  go_enter Tryd.func13, Tryd.ntmps13
  go_wp2
  go_returns
  exact ⟨rfl, below_alloc w _⟩

set_option maxHeartbeats 1000000 in
theorem ref_Open_head (b off p m c : Nat) (bs : List Nat) (w : World) (hr : Rd w (some ⟨b, off, none⟩) (p + m) bs) (hm : 0 < m) (hl : p + m ≤ 9223372036854775000) (f : Nat) (hf : (SealM.bend (bs.drop p)).2 = f) (hf0 : f ≠ 0) :
    Calls Tryd.prog 13 #[.slice (some ⟨b, off, none⟩) (p + m) (p + c), .int .i64 (p : Int)] w fun e w' => e = toldBad f ∧ Below w.heap.size w w' := by
  have HR : Hid (Rd w (some ⟨b, off, none⟩) (p + m) bs) := hr
  have hs := hr.size
  obtain ⟨hlt, hc⟩ : b < w.heap.size ∧ ∀ i, i < m → w.cell? ⟨b, off + (p + i), none⟩ = some (.int .u8 (((bs.drop p).getD i 0 : Nat) : Int)) := by
    rcases hr.cells with h1 | ⟨b', off', hb, hlt, hc⟩
    · omega
    · simp only [Option.some.injEq, Addr.mk.injEq] at hb
      obtain ⟨rfl, rfl, _⟩ := hb
      refine ⟨hlt, fun i hi => ?_⟩
      rw [hc (p + i) (by omega)]
      simp only [List.getD_eq_getElem?_getD, List.getElem?_drop]
  have hbl : ∀ i, (bs.drop p).getD i 0 < 256 := getD_lt (fun x hx => hr.byte x (List.mem_of_mem_drop hx))
  have g1 : ¬ (p : Int) < 0 := by omega
  have g2 : ¬ (p : Int) + (m : Int) < (p : Int) := by omega
  have g3 : ((p : Int) == (p : Int) + (m : Int)) = false := by rw [beq_eq_false_iff_ne]; omega
  have g4 : (p : Int) < (p : Int) + (m : Int) := by omega
  have hdl : (bs.drop p).length = m := by rw [List.length_drop]; omega
  obtain ⟨c0, H0⟩ : ∃ c, Hid (c = (bs.drop p).getD 0 0) := ⟨_, rfl⟩
  have k0 := hc 0 (by omega)
  have b0 := hbl 0
  rw [← H0.out] at k0 b0
  rw [Nat.add_zero] at k0
  unfold SealM.bend at hf
  rw [hdl, if_neg (by omega), ← H0.out] at hf
  by_cases h1 : c0 = 167
  · have e2 : ((c0 : Int) != 167) = false := by rw [h1]; rfl
    rw [if_neg (by omega)] at hf
    by_cases h4 : m < 4
    · rw [if_pos h4] at hf
      have hf3 : f = 3 := hf.symm
      subst hf3
      have g5 : (p : Int) + (m : Int) - (p : Int) < 4 := by omega
      clear hf hc hbl hr hs hdl h1
      go_enter Tryd.func13, Tryd.ntmps13
      go_wp2
      go_returns
      exact ⟨rfl, below_alloc w _⟩
    · rw [if_neg h4] at hf
      have k2 := hc 2 (by omega)
      have k3 := hc 3 (by omega)
      obtain ⟨c2, H2⟩ : ∃ c, Hid (c = (bs.drop p).getD 2 0) := ⟨_, rfl⟩
      obtain ⟨c3, H3⟩ : ∃ c, Hid (c = (bs.drop p).getD 3 0) := ⟨_, rfl⟩
      have b2 := hbl 2
      have b3 := hbl 3
      rw [← H2.out] at k2 b2
      rw [← H3.out] at k3 b3
      obtain ⟨n, HN⟩ : ∃ n, Hid (n = c2 + 256 * c3) := ⟨_, rfl⟩
      have hn : n < 65536 := by rw [HN.out]; omega
      have en : (c2 : Int) + 256 * (c3 : Int) = (n : Int) := by rw [HN.out]; omega
      have hB : SealM.blen (bs.drop p) = n := by unfold SealM.blen; rw [HN.out, H2.out, H3.out]
      rw [hB] at hf
      have g5 : ¬ (p : Int) + (m : Int) - (p : Int) < 4 := by omega
      have g6 : (p : Int) + 2 < (p : Int) + (m : Int) := by omega
      have g7 : (p : Int) + 3 < (p : Int) + (m : Int) := by omega
      have g8 : (0 : Int) ≤ (p : Int) + 2 := by omega
      have g9 : (0 : Int) ≤ (p : Int) + 3 := by omega
      by_cases h5 : 4096 < n
      · rw [if_pos h5] at hf
        have hf6 : f = 6 := hf.symm
        subst hf6
        clear hf hc hbl hr hs hdl h1 hB
        go_enter Tryd.func13, Tryd.ntmps13
        go_wp2
        go_quiet (fail)
        go_wp2
        go_returns
        exact ⟨rfl, (((below_alloc_drewN w _ _).setCell (Nat.le_refl _) _).setCell (Nat.le_refl _) _).setCell (Nat.le_refl _) _⟩
      · rw [if_neg h5] at hf
        by_cases h6 : m < n + 8
        · rw [if_pos h6] at hf
          have hf3 : f = 3 := hf.symm
          subst hf3
          have g10 : (p : Int) + (m : Int) - (p : Int) < (n : Int) + 8 := by omega
          clear hf hc hbl hr hs hdl h1 hB
          go_enter Tryd.func13, Tryd.ntmps13
          go_wp2
          go_quiet (fail)
          go_wp2
          go_returns
          exact ⟨rfl, (((below_alloc_drewN w _ _).setCell (Nat.le_refl _) _).setCell (Nat.le_refl _) _).setCell (Nat.le_refl _) _⟩
        · rw [if_neg h6] at hf
          exact absurd hf.symm hf0
  · have e2 : ((c0 : Int) != 167) = true := by rw [bne_iff_ne]; omega
    rw [if_pos (by omega)] at hf
    have hf4 : f = 4 := hf.symm
    subst hf4
    clear hf hc hbl hr hs hdl h1
    go_enter Tryd.func13, Tryd.ntmps13
    go_wp2
    go_returns
    exact ⟨rfl, below_alloc w _⟩
end Go.Proofs.YtbhljlafijdodaaDoor
