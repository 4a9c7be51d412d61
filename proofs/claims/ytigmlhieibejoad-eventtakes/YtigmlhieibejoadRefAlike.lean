/- The reference's Alike of two events that are the same. -/
import Derived.Test.YtigmlhieibejoadRefSame
import Derived.Test.YtigmlhieibejoadEvRead
namespace Go.Proofs.Ytigmlhieibejoad
open Go.RowKit

set_option maxRecDepth 100000 in
set_option maxHeartbeats 2000000 in
theorem ref_Alike (a1 a2 ca1 ca2 : Option Addr) (n c1 c2 cn cc1 cc2 : Nat) (l : List At) (C : List Nat) (w : World) (h1 : AtsRd w a1 l) (h2 : AtsRd w a2 l) (hn : l.length = n) (hn8 : n ≤ 8) (hc1 : Rd w ca1 cn C) (hc2 : Rd w ca2 cn C) (hv : ∀ q ∈ l, ∃ L, Val.Bytes q.2 L) :
    Calls Try.prog 8 #[.agg #[.slice a1 n c1, .slice ca1 cn cc1], .agg #[.slice a2 n c2, .slice ca2 cn cc2]] w fun e w' => e = .returned (.bool true) ∧ Below w.heap.size w w' := by
  have H1 : Hid (AtsRd w a1 l) := h1
  have H2 : Hid (AtsRd w a2 l) := h2
  have HN : Hid (l.length = n) := hn
  have HV : Hid (∀ q ∈ l, ∃ L, Val.Bytes q.2 L) := hv
  obtain ⟨S, HSS⟩ : ∃ S, Hid (str C = S) := ⟨_, rfl⟩
  obtain ⟨W0, HW0⟩ : ∃ W0, Hid (W0 = (w.alloc (.cells #[.slice a1 n c1, .slice ca1 cn cc1] 25)).alloc (.cells #[.slice a2 n c2, .slice ca2 cn cc2] 25)) := ⟨_, rfl⟩
  have HBW : Hid (Below w.heap.size w W0) := by show Below _ _ _; rw [HW0.out]; exact (below_alloc w _).alloc (by simp) _
  have x1 : (convert 22 9 (.slice ca1 cn cc1)).run Try.prog W0 = .ok (.string S) W0 := by rw [conv_rd (hc1.below HBW.out) cc1, HSS.out]
  have x2 : (convert 22 9 (.slice ca2 cn cc2)).run Try.prog W0 = .ok (.string S) W0 := by rw [conv_rd (hc2.below HBW.out) cc2, HSS.out]
  rw [HW0.out] at x1 x2
  have HK : Hid (Blk W0 w.heap.size #[.slice a1 n c1, .slice ca1 cn cc1] 25 ∧ Blk W0 (w.heap.size + 1) #[.slice a2 n c2, .slice ca2 cn cc2] 25) := by
    show _ ∧ _
    rw [HW0.out]
    refine ⟨(Blk.new w _ _).stay (below_alloc _ _), ?_⟩
    have := Blk.new (w.alloc (.cells #[.slice a1 n c1, .slice ca1 cn cc1] 25)) #[.slice a2 n c2, .slice ca2 cn cc2] 25
    simpa using this
  clear h1 h2 hn hv hc1 hc2
  go_enter Try.func8, Try.ntmps8
  go_wp2
  rw [← HW0.out]
  clear x1 x2
  go_loopw [5] (fun t5 wr => ∃ i : Nat, i ≤ n ∧ t5 = .int .i64 (i : Int) ∧ Hid (Below W0.heap.size W0 wr)) (fun t5 _ => n - (intOf t5).toNat)
  case atStart => exact ⟨0, by omega, rfl, Below.refl _ _⟩
  case round =>
    obtain ⟨i, hi, rfl, HB⟩ := hrel
    have kA : wr.cell? ⟨w.heap.size, 0, none⟩ = some (.slice a1 n c1) := (HK.out.1.stay HB.out).cell 0 rfl
    by_cases hlt : i < n
    · have hlt' : (i : Int) < (n : Int) := by omega
      have h0' : (0 : Int) ≤ (i : Int) := by omega
      have hil : i < l.length := by rw [HN.out]; exact hlt
      have HBR : Hid (Below w.heap.size w wr) := HBW.out.trans (HB.out.mono HBW.out.size)
      obtain ⟨g1, rfl, hg1, hq1⟩ := (H1.out.below HBR.out).at_ i hil
      obtain ⟨g2, rfl, hg2, hq2⟩ := (H2.out.below HBR.out).at_ i hil
      obtain ⟨L, hL⟩ := HV.out l[i] (List.getElem_mem hil)
      generalize l[i] = q at *
      have HSame : Hid (∀ w, Calls Try.prog 19 #[.agg q.2.cells, .agg q.2.cells] w fun e w' => e = .returned (.bool true) ∧ Below w.heap.size w w') := ref_Same q.2 L hL
      clear hL
      obtain ⟨qn, vk, vw, vs, vt, vx, vy⟩ := q
      have HSK : Hid (∀ w', Below wr.heap.size wr w' → (w'.cell? ⟨w.heap.size, 0, none⟩ = some (.slice (some ⟨g1, 0, none⟩) n c1) ∧ w'.cell? ⟨w.heap.size + 1, 0, none⟩ = some (.slice (some ⟨g2, 0, none⟩) n c2) ∧
          w'.cell? ⟨g1, i * 6, none⟩ = some (.string qn) ∧ w'.cell? ⟨g1, i * 6 + 1, none⟩ = some (.int .i64 vk) ∧ w'.cell? ⟨g1, i * 6 + 2, none⟩ = some (.int .i64 vw) ∧ w'.cell? ⟨g1, i * 6 + 3, none⟩ = some (.string vs) ∧ w'.cell? ⟨g1, i * 6 + 4, none⟩ = some (.bool vt) ∧ w'.cell? ⟨g1, i * 6 + 5, none⟩ = some (.complex .f64 vx vy) ∧
          w'.cell? ⟨g2, i * 6, none⟩ = some (.string qn) ∧ w'.cell? ⟨g2, i * 6 + 1, none⟩ = some (.int .i64 vk) ∧ w'.cell? ⟨g2, i * 6 + 2, none⟩ = some (.int .i64 vw) ∧ w'.cell? ⟨g2, i * 6 + 3, none⟩ = some (.string vs) ∧ w'.cell? ⟨g2, i * 6 + 4, none⟩ = some (.bool vt) ∧ w'.cell? ⟨g2, i * 6 + 5, none⟩ = some (.complex .f64 vx vy))) := by
        intro w' hb
        have r1 : ∀ j v, (At.cells (qn, ⟨vk, vw, vs, vt, vx, vy⟩))[j]? = some v → w'.cell? ⟨g1, i * 6 + j, none⟩ = some v := fun j v h => (hb.cell (p := ⟨g1, i * 6 + j, none⟩) hg1).trans (hq1 j v h)
        have r2 : ∀ j v, (At.cells (qn, ⟨vk, vw, vs, vt, vx, vy⟩))[j]? = some v → w'.cell? ⟨g2, i * 6 + j, none⟩ = some v := fun j v h => (hb.cell (p := ⟨g2, i * 6 + j, none⟩) hg2).trans (hq2 j v h)
        exact ⟨((HK.out.1.stay HB.out).stay hb).cell 0 rfl, ((HK.out.2.stay HB.out).stay hb).cell 0 rfl, r1 0 _ rfl, r1 1 _ rfl, r1 2 _ rfl, r1 3 _ rfl, r1 4 _ rfl, r1 5 _ rfl, r2 0 _ rfl, r2 1 _ rfl, r2 2 _ rfl, r2 3 _ rfl, r2 4 _ rfl, r2 5 _ rfl⟩
      simp only [Val.cells] at HSame
      clear hq1 hq2
      have dq : (qn.toList != qn.toList) = false := by simp
      go_wp2
      go_region_held3 (fun w' => w'.cell? ⟨w.heap.size, 0, none⟩ = some (.slice (some ⟨g1, 0, none⟩) n c1) ∧ w'.cell? ⟨w.heap.size + 1, 0, none⟩ = some (.slice (some ⟨g2, 0, none⟩) n c2) ∧
          w'.cell? ⟨g1, i * 6, none⟩ = some (.string qn) ∧ w'.cell? ⟨g1, i * 6 + 1, none⟩ = some (.int .i64 vk) ∧ w'.cell? ⟨g1, i * 6 + 2, none⟩ = some (.int .i64 vw) ∧ w'.cell? ⟨g1, i * 6 + 3, none⟩ = some (.string vs) ∧ w'.cell? ⟨g1, i * 6 + 4, none⟩ = some (.bool vt) ∧ w'.cell? ⟨g1, i * 6 + 5, none⟩ = some (.complex .f64 vx vy) ∧
          w'.cell? ⟨g2, i * 6, none⟩ = some (.string qn) ∧ w'.cell? ⟨g2, i * 6 + 1, none⟩ = some (.int .i64 vk) ∧ w'.cell? ⟨g2, i * 6 + 2, none⟩ = some (.int .i64 vw) ∧ w'.cell? ⟨g2, i * 6 + 3, none⟩ = some (.string vs) ∧ w'.cell? ⟨g2, i * 6 + 4, none⟩ = some (.bool vt) ∧ w'.cell? ⟨g2, i * 6 + 5, none⟩ = some (.complex .f64 vx vy)) (first | exact HSK.out _ HB3.out | exact HSK.out _ (Below.refl _ _).drew | exact HSK.out _ (Below.refl _ _) | fail)
        (first
          | (go_at_call 19; refine (HSame.out _).mono ?_; rintro e w3 ⟨rfl, hb3⟩; have HB3 : Hid (Below wr.heap.size wr w3) := (Below.refl _ _).drew.trans hb3; clear hb3))
      have HB4 : Hid (Below W0.heap.size W0 w3) := HB.out.trans (HB3.out.mono HB.out.size)
      go_wp2
      go_roundw
      case rel => exact ⟨i + 1, by omega, by go_num, HB4⟩
      case measure => simp [intOf]; omega
    · have hnl : ¬ (i : Int) < (n : Int) := by omega
      have HBR : Hid (Below w.heap.size w wr) := HBW.out.trans (HB.out.mono HBW.out.size)
      go_wp2
      go_ret
      exact ⟨rfl, HBR.out⟩
end Go.Proofs.Ytigmlhieibejoad
