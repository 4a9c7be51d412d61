/- value.Take: the value at a place, and the place behind it. -/
import Derived.Test.YtfmpfjpcigdeoabGreatDoorValBody
namespace Go.Proofs.YtfmpfjpcigdeoabGreatDoor
set_option maxRecDepth 100000
open Go.RowKit

/-- Five cells of one block, written one behind the other. -/
theorem cells5 {w : World} {g : Nat} {u0 u1 u2 u3 u4 : Value} (v0 v1 v2 v3 v4 : Value) (k0 : w.cell? ⟨g, 0, none⟩ = some u0) (k1 : w.cell? ⟨g, 1, none⟩ = some u1) (k2 : w.cell? ⟨g, 2, none⟩ = some u2) (k3 : w.cell? ⟨g, 3, none⟩ = some u3) (k4 : w.cell? ⟨g, 4, none⟩ = some u4) :
    (((((w.setCell ⟨g, 0, none⟩ v0).setCell ⟨g, 1, none⟩ v1).setCell ⟨g, 2, none⟩ v2).setCell ⟨g, 3, none⟩ v3).setCell ⟨g, 4, none⟩ v4).cell? ⟨g, 0, none⟩ = some v0 ∧ (((((w.setCell ⟨g, 0, none⟩ v0).setCell ⟨g, 1, none⟩ v1).setCell ⟨g, 2, none⟩ v2).setCell ⟨g, 3, none⟩ v3).setCell ⟨g, 4, none⟩ v4).cell? ⟨g, 1, none⟩ = some v1 ∧ (((((w.setCell ⟨g, 0, none⟩ v0).setCell ⟨g, 1, none⟩ v1).setCell ⟨g, 2, none⟩ v2).setCell ⟨g, 3, none⟩ v3).setCell ⟨g, 4, none⟩ v4).cell? ⟨g, 2, none⟩ = some v2 ∧ (((((w.setCell ⟨g, 0, none⟩ v0).setCell ⟨g, 1, none⟩ v1).setCell ⟨g, 2, none⟩ v2).setCell ⟨g, 3, none⟩ v3).setCell ⟨g, 4, none⟩ v4).cell? ⟨g, 3, none⟩ = some v3 ∧ (((((w.setCell ⟨g, 0, none⟩ v0).setCell ⟨g, 1, none⟩ v1).setCell ⟨g, 2, none⟩ v2).setCell ⟨g, 3, none⟩ v3).setCell ⟨g, 4, none⟩ v4).cell? ⟨g, 4, none⟩ = some v4 := by
  refine ⟨?_, ?_, ?_, ?_, ?_⟩
  · rw [World.cell?_setCell_other _ _ _ _ (by simp), World.cell?_setCell_other _ _ _ _ (by simp), World.cell?_setCell_other _ _ _ _ (by simp), World.cell?_setCell_other _ _ _ _ (by simp)]
    refine World.cell?_setCell_same _ _ _ (u := u0) ?_
    exact k0
  · rw [World.cell?_setCell_other _ _ _ _ (by simp), World.cell?_setCell_other _ _ _ _ (by simp), World.cell?_setCell_other _ _ _ _ (by simp)]
    refine World.cell?_setCell_same _ _ _ (u := u1) ?_
    rw [World.cell?_setCell_other _ _ _ _ (by simp)]
    exact k1
  · rw [World.cell?_setCell_other _ _ _ _ (by simp), World.cell?_setCell_other _ _ _ _ (by simp)]
    refine World.cell?_setCell_same _ _ _ (u := u2) ?_
    rw [World.cell?_setCell_other _ _ _ _ (by simp), World.cell?_setCell_other _ _ _ _ (by simp)]
    exact k2
  · rw [World.cell?_setCell_other _ _ _ _ (by simp)]
    refine World.cell?_setCell_same _ _ _ (u := u3) ?_
    rw [World.cell?_setCell_other _ _ _ _ (by simp), World.cell?_setCell_other _ _ _ _ (by simp), World.cell?_setCell_other _ _ _ _ (by simp)]
    exact k3
  · refine World.cell?_setCell_same _ _ _ (u := u4) ?_
    rw [World.cell?_setCell_other _ _ _ _ (by simp), World.cell?_setCell_other _ _ _ _ (by simp), World.cell?_setCell_other _ _ _ _ (by simp), World.cell?_setCell_other _ _ _ _ (by simp)]
    exact k4

/-- A new box of five cells, seen from later worlds. -/
theorem box5 {w w' : World} {t : TypeId} (v : Val) (hb : Below (w.alloc (.cells v.cells t)).heap.size (w.alloc (.cells v.cells t)) w') :
    (w'.cell? ⟨w.heap.size, 0, none⟩ = some (.int .i64 v.kind) ∧ w'.cell? ⟨w.heap.size, 1, none⟩ = some (.int .i64 v.whole) ∧ w'.cell? ⟨w.heap.size, 2, none⟩ = some (.string v.words) ∧ w'.cell? ⟨w.heap.size, 3, none⟩ = some (.bool v.truth) ∧ w'.cell? ⟨w.heap.size, 4, none⟩ = some (.complex .f64 v.re v.im)) ∧
    (w'.frozen? ⟨w.heap.size, 0, none⟩ = false ∧ w'.frozen? ⟨w.heap.size, 1, none⟩ = false ∧ w'.frozen? ⟨w.heap.size, 2, none⟩ = false ∧ w'.frozen? ⟨w.heap.size, 3, none⟩ = false ∧ w'.frozen? ⟨w.heap.size, 4, none⟩ = false) := by
  have hlt : w.heap.size < (w.alloc (.cells v.cells t)).heap.size := by simp
  refine ⟨⟨?_, ?_, ?_, ?_, ?_⟩, ⟨?_, ?_, ?_, ?_, ?_⟩⟩
  · exact (hb.cell (p := ⟨w.heap.size, 0, none⟩) hlt).trans (by simp [Val.cells])
  · exact (hb.cell (p := ⟨w.heap.size, 1, none⟩) hlt).trans (by simp [Val.cells])
  · exact (hb.cell (p := ⟨w.heap.size, 2, none⟩) hlt).trans (by simp [Val.cells])
  · exact (hb.cell (p := ⟨w.heap.size, 3, none⟩) hlt).trans (by simp [Val.cells])
  · exact (hb.cell (p := ⟨w.heap.size, 4, none⟩) hlt).trans (by simp [Val.cells])
  · exact (hb.frozen (p := ⟨w.heap.size, 0, none⟩) hlt).trans (by simp)
  · exact (hb.frozen (p := ⟨w.heap.size, 1, none⟩) hlt).trans (by simp)
  · exact (hb.frozen (p := ⟨w.heap.size, 2, none⟩) hlt).trans (by simp)
  · exact (hb.frozen (p := ⟨w.heap.size, 3, none⟩) hlt).trans (by simp)
  · exact (hb.frozen (p := ⟨w.heap.size, 4, none⟩) hlt).trans (by simp)

/-- A value that value.Take tells, out of the result's own cells. -/
theorem results_take {w : World} {tmps : Array Value} {g : Nat} {v0 v1 v2 v3 v4 n f : Value} (h4 : tmps[4]?.getD undef = .pointer (some ⟨g, 0, none⟩)) (h5 : tmps[5]?.getD undef = n) (h6 : tmps[6]?.getD undef = f)
    (k : w.cell? ⟨g, 0, none⟩ = some v0 ∧ w.cell? ⟨g, 1, none⟩ = some v1 ∧ w.cell? ⟨g, 2, none⟩ = some v2 ∧ w.cell? ⟨g, 3, none⟩ = some v3 ∧ w.cell? ⟨g, 4, none⟩ = some v4) : (results Tryz.f88 tmps).run Tryz.prog w = .ok (.tuple #[.agg #[v0, v1, v2, v3, v4], n, f]) w := by
  obtain ⟨k0, k1, k2, k3, k4⟩ := k
  simp [results, Tryz.results88, go_sem, h4, h5, h6, k0, k1, k2, k3, k4]

set_option maxRecDepth 100000 in
set_option maxHeartbeats 1000000 in
theorem value_Take (a : Option Addr) (len cap : Nat) (bs : List Nat) (x : Int) (w : World) (hr : Rd w a len bs) (hlc : len ≤ cap) (hl : len ≤ 9223372036854775000) (hx : (-9223372036854775808 : Int) ≤ x ∧ x ≤ 9223372036854775807) :
    Calls Tryz.prog 88 #[.slice a len cap, .int .i64 x] w fun e w' => e = toldV (valAt bs x) ∧ Below w.heap.size w w' := by
  have hcx : ∀ (a : Addr) (m : Mode) (W : World) (x y : Nat), (store a (.complex .f64 x y) m).run Tryz.prog W = stored Tryz.prog W a (.complex .f64 x y) m := fun a m W x y => run_store _ _ _ _ _ rfl
  have hs := hr.size
  by_cases h1 : x < 0 ∨ (len : Int) < x
  · have HV : Hid (valAt bs x = (Val.zero, 0, 2)) := by show _ = _; unfold valAt; rw [hs, if_pos h1]
    clear hr
    rcases h1 with h1 | h1
    · go_enter Tryz.func88, Tryz.ntmps88
      go_wp2
      go_returns
      exact ⟨by rw [HV.out]; rfl, below_alloc w _⟩
    · have h0 : ¬ x < 0 := by omega
      go_enter Tryz.func88, Tryz.ntmps88
      go_wp2
      go_returns
      exact ⟨by rw [HV.out]; rfl, below_alloc w _⟩
  · obtain ⟨p, rfl⟩ := Int.eq_ofNat_of_zero_le (a := x) (by omega)
    have h2 : ¬ (len : Int) < (p : Int) := by omega
    have h3 : ¬ (p : Int) < 0 := by omega
    by_cases h4 : p = len
    · have HV : Hid (valAt bs (p : Int) = (Val.zero, 0, 3)) := by show _ = _; unfold valAt; rw [hs, if_neg h1, if_pos (by omega)]
      subst h4
      clear hr h1
      go_enter Tryz.func88, Tryz.ntmps88
      go_wp2
      go_returns
      exact ⟨by rw [HV.out]; rfl, below_alloc w _⟩
    · have e4 : ((p : Int) == (len : Int)) = false := by rw [beq_eq_false_iff_ne]; omega
      have hlt : (p : Int) < (len : Int) := by omega
      have hlt2 : p < len := by omega
      obtain ⟨b, off, rfl, hc⟩ := rd_at hr p (by omega)
      have hb := getD_lt hr.byte p
      have HV : Hid (valAt bs (p : Int) = bodyAt (bs.getD p 0) bs (p + 1)) := by
        show _ = _
        unfold valAt
        rw [hs, if_neg h1, if_neg (by omega)]
        rfl
      generalize bs.getD p 0 = c at *
      have HR : Hid (Rd w (some ⟨b, off, none⟩) len bs) := hr
      have hbl : b < w.heap.size := World.block_lt_of_cell? w _ hc
      have hc' : (w.alloc (.cells Val.zero.cells 47)).cell? ⟨b, off + p, none⟩ = some (.int .u8 (c : Int)) := ((below_alloc w _).cell (p := ⟨b, off + p, none⟩) hbl).trans hc
      simp only [Val.cells, Val.zero] at hc'
      clear hr h1 hc hs
      obtain ⟨r, HRR⟩ : ∃ r, Hid (bodyAt c bs (p + 1) = r) := ⟨_, rfl⟩
      rw [HRR.out] at HV
      have HC := value_takeBody c (some ⟨b, off, none⟩) len cap bs (p + 1) (w.alloc (.cells Val.zero.cells 47)) (HR.out.below (below_alloc w _)) hlc hl (by omega)
      rw [HRR.out, Int.natCast_add] at HC
      have HCC : Hid (Calls Tryz.prog 109 #[.int .i64 (c : Int), .slice (some ⟨b, off, none⟩) len cap, .int .i64 ((p : Int) + 1)] (w.alloc (.cells Val.zero.cells 47)) fun e w' => BodyTold r e ∧ Below (w.alloc (.cells Val.zero.cells 47)).heap.size (w.alloc (.cells Val.zero.cells 47)) w') := HC
      clear HC
      go_enter Tryz.func88, Tryz.ntmps88
      go_wp2_with fail
      refine HCC.out.mono ?_
      rintro e w1 ⟨⟨v, k, f, rfl, hf⟩, hb1⟩
      have HB1 : Hid (Below w.heap.size w w1) := (below_alloc w _).trans (hb1.mono (by simp))
      obtain ⟨vk, vw, vs, vt, vx, vy⟩ := v
      simp only [Val.cells]
      clear hc'
      rcases hf with ⟨rfl, j, rfl, hrr⟩ | ⟨hf, hrr⟩
      · have HJ : Hid (r = (⟨vk, vw, vs, vt, vx, vy⟩, j, 0)) := hrr
        clear hrr
        obtain ⟨⟨k0, k1, k2, k3, k4⟩, ⟨f0, f1, f2, f3, f4⟩⟩ := box5 Val.zero (hb1.trans ((below_alloc w1 (.cells #[.int .i64 vk, .int .i64 vw, .string vs, .bool vt, .complex .f64 vx vy] 47)).mono hb1.size))
        have HK := cells5 (.int .i64 vk) (.int .i64 vw) (.string vs) (.bool vt) (.complex .f64 vx vy) k0 k1 k2 k3 k4
        simp only [Val.zero] at k0 k1 k2 k3 k4
        clear hb1
        go_wp2
        try simp only [Exit.inBlock, Exit.then]
        refine bodyPost_ret (results_take (by rfl) (by rfl) (by rfl) HK) rfl ?_
        refine ⟨by rw [HV.out, HJ.out]; rfl, ?_⟩
        exact (((((HB1.out.alloc HB1.out.size _).setCell (Nat.le_refl _) _).setCell (Nat.le_refl _) _).setCell (Nat.le_refl _) _).setCell (Nat.le_refl _) _).setCell (Nat.le_refl _) _
      · have hf' : (f : Int) ≠ 0 := by omega
        have HJ : Hid (r = (Val.zero, 0, f)) := hrr
        clear hrr
        obtain ⟨⟨k0, k1, k2, k3, k4⟩, ⟨f0, f1, f2, f3, f4⟩⟩ := box5 Val.zero (hb1.trans ((below_alloc w1 (.cells #[.int .i64 vk, .int .i64 vw, .string vs, .bool vt, .complex .f64 vx vy] 47)).mono hb1.size))
        have HK := cells5 (.int .i64 0) (.int .i64 0) (.string ⟨#[]⟩) (.bool false) (.complex .f64 0 0) k0 k1 k2 k3 k4
        simp only [Val.zero] at k0 k1 k2 k3 k4
        clear hb1
        go_wp2
        try simp only [Exit.inBlock, Exit.then]
        refine bodyPost_ret (results_take (by rfl) (by rfl) (by rfl) HK) rfl ?_
        refine ⟨by rw [HV.out, HJ.out]; rfl, ?_⟩
        exact (((((HB1.out.alloc HB1.out.size _).setCell (Nat.le_refl _) _).setCell (Nat.le_refl _) _).setCell (Nat.le_refl _) _).setCell (Nat.le_refl _) _).setCell (Nat.le_refl _) _
end Go.Proofs.YtfmpfjpcigdeoabGreatDoor
