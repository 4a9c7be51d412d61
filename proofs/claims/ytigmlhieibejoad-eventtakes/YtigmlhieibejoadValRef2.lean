/- The reference's Take of a value: words, truths, points. -/
import Derived.Test.YtigmlhieibejoadValRef
namespace Go.Proofs.Ytigmlhieibejoad
open Go.RowKit

theorem results_rtake {w : World} {tmps : Array Value} {g : Nat} {v0 v1 v2 v3 v4 n f : Value} (h4 : tmps[4]?.getD undef = .pointer (some ⟨g, 0, none⟩)) (h5 : tmps[5]?.getD undef = n) (h6 : tmps[6]?.getD undef = f)
    (k : w.cell? ⟨g, 0, none⟩ = some v0 ∧ w.cell? ⟨g, 1, none⟩ = some v1 ∧ w.cell? ⟨g, 2, none⟩ = some v2 ∧ w.cell? ⟨g, 3, none⟩ = some v3 ∧ w.cell? ⟨g, 4, none⟩ = some v4) : (results Try.f15 tmps).run Try.prog w = .ok (.tuple #[.agg #[v0, v1, v2, v3, v4], n, f]) w := by
  obtain ⟨k0, k1, k2, k3, k4⟩ := k
  simp [results, Try.results15, go_sem, h4, h5, h6, k0, k1, k2, k3, k4]

set_option maxRecDepth 100000 in
set_option maxHeartbeats 1000000 in
theorem ref_Take2 (b off : Nat) (len cap : Nat) (bs : List Nat) (p : Nat) (w : World) (hr : Rd w (some ⟨b, off, none⟩) len bs) (hlc : len ≤ cap) (hl : len ≤ 9223372036854775000) (hp : p < len) (hb : bs.getD p 0 = 2) :
    Calls Try.prog 15 #[.slice (some ⟨b, off, none⟩) len cap, .int .i64 (p : Int)] w fun e w' => e = toldV (bodyAt 2 bs (p + 1)) ∧ Below w.heap.size w w' := by
  have hcx : ∀ (a : Addr) (m : Mode) (W : World) (x y : Nat), (store a (.complex .f64 x y) m).run Try.prog W = stored Try.prog W a (.complex .f64 x y) m := fun a m W x y => run_store _ _ _ _ _ rfl
  have hlt : (p : Int) < (len : Int) := by omega
  have e4 : ((p : Int) == (len : Int)) = false := by rw [beq_eq_false_iff_ne]; omega
  have g1 : ¬ (p : Int) < 0 := by omega
  have g2 : ¬ (len : Int) < (p : Int) := by omega
  have hc := rd_cell_at hr p hp
  rw [hb] at hc
  have HR : Hid (Rd w (some ⟨b, off, none⟩) len bs) := hr
  have hc' : (w.alloc (.cells Val.zero.cells 49)).cell? ⟨b, off + p, none⟩ = some (.int .u8 (2 : Int)) := ((below_alloc w _).cell (p := ⟨b, off + p, none⟩) (World.block_lt_of_cell? w _ hc)).trans hc
  simp only [Val.cells, Val.zero] at hc'
  clear hr hc
  obtain ⟨l, k, f, hT⟩ : ∃ l k f, textAt bs ((p + 1 : Nat) : Int) = (l, k, f) := ⟨_, _, _, rfl⟩
  obtain ⟨S, HSS⟩ : ∃ S, Hid (str l = S) := ⟨_, rfl⟩
  have HC := ref_TakeText (some ⟨b, off, none⟩) len cap bs ((p + 1 : Nat) : Int) (w.alloc (.cells Val.zero.cells 49)) (HR.out.below (below_alloc w _)) hlc hl (by omega)
  rw [hT, Int.natCast_add, toldT, HSS.out] at HC
  have HCC : Hid (Calls Try.prog 13 #[.slice (some ⟨b, off, none⟩) len cap, .int .i64 ((p : Int) + 1)] (w.alloc (.cells Val.zero.cells 49)) fun e w' => e = .returned (.tuple #[.string S, .int .i64 (k : Int), .int .i64 (f : Int)]) ∧ Below (w.alloc (.cells Val.zero.cells 49)).heap.size (w.alloc (.cells Val.zero.cells 49)) w') := HC
  have HT : Hid (textAt bs ((p + 1 : Nat) : Int) = (l, k, f)) := hT
  clear HC hT
  go_enter Try.func15, Try.ntmps15
  go_wp2_with fail
  refine HCC.out.mono ?_
  rintro e w1 ⟨rfl, hb1⟩
  have HB1 : Hid (Below w.heap.size w w1) := (below_alloc w _).trans (hb1.mono (by simp))
  obtain ⟨⟨k0, k1, k2, k3, k4⟩, ⟨f0, f1, f2, f3, f4⟩⟩ := box5 Val.zero hb1
  clear hb1 hc'
  by_cases hf : f = 0
  · subst hf
    have HV : Hid (bodyAt 2 bs (p + 1) = (⟨2, 0, S, false, 0, 0⟩, k, 0)) := by show _ = _; unfold bodyAt; rw [HT.out, ← HSS.out]; rfl
    have HK := cells5 (.int .i64 2) (.int .i64 0) (.string S) (.bool false) (.complex .f64 0 0) k0 k1 k2 k3 k4
    simp only [Val.zero] at k0 k1 k2 k3 k4
    go_wp2
    try simp only [Exit.inBlock, Exit.then]
    refine bodyPost_ret (results_rtake (by rfl) (by rfl) (by rfl) HK) rfl ?_
    exact ⟨by rw [HV.out]; rfl, (((((HB1.out).setCell (Nat.le_refl _) _).setCell (Nat.le_refl _) _).setCell (Nat.le_refl _) _).setCell (Nat.le_refl _) _).setCell (Nat.le_refl _) _⟩
  · have HV : Hid (bodyAt 2 bs (p + 1) = (Val.zero, 0, f)) := by show _ = _; unfold bodyAt; rw [HT.out]; cases f with | zero => exact absurd rfl hf | succ f => rfl
    have hf' : (f : Int) ≠ 0 := by omega
    have HK := cells5 (.int .i64 0) (.int .i64 0) (.string ⟨#[]⟩) (.bool false) (.complex .f64 0 0) k0 k1 k2 k3 k4
    simp only [Val.zero] at k0 k1 k2 k3 k4
    go_wp2
    try simp only [Exit.inBlock, Exit.then]
    refine bodyPost_ret (results_rtake (by rfl) (by rfl) (by rfl) HK) rfl ?_
    exact ⟨by rw [HV.out]; rfl, (((((HB1.out).setCell (Nat.le_refl _) _).setCell (Nat.le_refl _) _).setCell (Nat.le_refl _) _).setCell (Nat.le_refl _) _).setCell (Nat.le_refl _) _⟩

set_option maxRecDepth 100000 in
set_option maxHeartbeats 1000000 in
theorem ref_Take4 (b off : Nat) (len cap : Nat) (bs : List Nat) (p : Nat) (w : World) (hr : Rd w (some ⟨b, off, none⟩) len bs) (hl : len ≤ 9223372036854775000) (hp : p < len) (hb : bs.getD p 0 = 4) :
    Calls Try.prog 15 #[.slice (some ⟨b, off, none⟩) len cap, .int .i64 (p : Int)] w fun e w' => e = toldV (bodyAt 4 bs (p + 1)) ∧ Below w.heap.size w w' := by
  have hcx : ∀ (a : Addr) (m : Mode) (W : World) (x y : Nat), (store a (.complex .f64 x y) m).run Try.prog W = stored Try.prog W a (.complex .f64 x y) m := fun a m W x y => run_store _ _ _ _ _ rfl
  have hlt : (p : Int) < (len : Int) := by omega
  have e4 : ((p : Int) == (len : Int)) = false := by rw [beq_eq_false_iff_ne]; omega
  have g1 : ¬ (p : Int) < 0 := by omega
  have g2 : ¬ (len : Int) < (p : Int) := by omega
  have hc := rd_cell_at hr p hp
  rw [hb] at hc
  have HR : Hid (Rd w (some ⟨b, off, none⟩) len bs) := hr
  have hc' : (w.alloc (.cells Val.zero.cells 49)).cell? ⟨b, off + p, none⟩ = some (.int .u8 (4 : Int)) := ((below_alloc w _).cell (p := ⟨b, off + p, none⟩) (World.block_lt_of_cell? w _ hc)).trans hc
  simp only [Val.cells, Val.zero] at hc'
  clear hr hc
  obtain ⟨n, k, f, hT⟩ : ∃ n k f, partAt bs ((p + 1 : Nat) : Int) = (n, k, f) := ⟨_, _, _, rfl⟩
  have HC := ref_side (some ⟨b, off, none⟩) len cap bs ((p + 1 : Nat) : Int) (w.alloc (.cells Val.zero.cells 49)) (HR.out.below (below_alloc w _)) hl (by omega)
  rw [hT, Int.natCast_add, toldSide] at HC
  have HCC : Hid (Calls Try.prog 29 #[.slice (some ⟨b, off, none⟩) len cap, .int .i64 ((p : Int) + 1)] (w.alloc (.cells Val.zero.cells 49)) fun e w' => e = .returned (.tuple #[.int .i64 n, .int .i64 (k : Int), .int .i64 (f : Int)]) ∧ w' = w.alloc (.cells Val.zero.cells 49)) := HC
  have HT : Hid (partAt bs ((p + 1 : Nat) : Int) = (n, k, f)) := hT
  clear HC hT
  by_cases hf : f = 0
  · subst hf
    obtain ⟨hk, _, _⟩ := partAt_place HR.out.byte HT.out
    rw [HR.out.size] at hk
    obtain ⟨m, j, g, hS⟩ : ∃ m j g, partAt bs (k : Int) = (m, j, g) := ⟨_, _, _, rfl⟩
    have HS : Hid (partAt bs (k : Int) = (m, j, g)) := hS
    clear hS
    obtain ⟨N, HN⟩ : ∃ N, Hid (floatOfInt .f64 n = N) := ⟨_, rfl⟩
    obtain ⟨M, HM⟩ : ∃ M, Hid (floatOfInt .f64 m = M) := ⟨_, rfl⟩
    go_enter Try.func15, Try.ntmps15
    go_wp2_with fail
    refine HCC.out.mono ?_
    rintro e w1 ⟨rfl, rfl⟩
    simp only [Val.cells, Val.zero]
    go_wp2_with fail
    refine (ref_side (some ⟨b, off, none⟩) len cap bs (k : Int) _ (HR.out.below (below_alloc w _)) hl (by omega)).mono ?_
    rw [HS.out, toldSide]
    rintro e w2 ⟨rfl, rfl⟩
    by_cases hg : g = 0
    · subst hg
      have HV : Hid (bodyAt 4 bs (p + 1) = (⟨4, 0, ⟨#[]⟩, false, N, M⟩, j, 0)) := by
        show _ = _
        unfold bodyAt
        rw [pointAt_ok HT.out HS.out, ← HN.out, ← HM.out]
        rfl
      go_wp2
      try simp only [HN.out, HM.out]
      go_returns
      exact ⟨by rw [HV.out]; rfl, below_alloc w _⟩
    · have hg' : (g : Int) ≠ 0 := by omega
      have HV : Hid (bodyAt 4 bs (p + 1) = (Val.zero, 0, g)) := by
        show _ = _
        unfold bodyAt
        rw [pointAt_err2 HT.out HS.out hg]
        cases g with | zero => exact absurd rfl hg | succ g => rfl
      go_wp2
      go_returns
      exact ⟨by rw [HV.out]; rfl, below_alloc w _⟩
  · have hf' : (f : Int) ≠ 0 := by omega
    have HV : Hid (bodyAt 4 bs (p + 1) = (Val.zero, 0, f)) := by
      show _ = _
      unfold bodyAt
      rw [pointAt_err1 HT.out hf]
      cases f with | zero => exact absurd rfl hf | succ f => rfl
    go_enter Try.func15, Try.ntmps15
    go_wp2_with fail
    refine HCC.out.mono ?_
    rintro e w1 ⟨rfl, rfl⟩
    simp only [Val.cells, Val.zero]
    go_wp2
    go_returns
    exact ⟨by rw [HV.out]; rfl, below_alloc w _⟩
end Go.Proofs.Ytigmlhieibejoad
