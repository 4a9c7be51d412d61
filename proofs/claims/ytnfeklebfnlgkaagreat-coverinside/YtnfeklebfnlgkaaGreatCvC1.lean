/- cover: discs as they are read; mayNotBe, checkDiscs. -/
import Derived.Test.YtnfeklebfnlgkaaGreatCvL9
namespace Go.Proofs.YtnfeklebfnlgkaaGreat
open Go.RowKit

def partB (n : Int) : Bool := decide (-1048576 ≤ n) && decide (n ≤ 1048576)
/-- A disc that may not be. -/
def badD (t : Int × Int × Int) : Bool := !partB t.1 || !partB t.2.1 || decide (t.2.2 < 0) || decide (1048576 < t.2.2)
/-- Discs as they are read. -/
structure DcsRd (w : World) (a : Option Addr) (n : Nat) (l : List (Int × Int × Int)) : Prop where
  size : l.length = n
  cells : n = 0 ∨ ∃ g off, a = some ⟨g, off, none⟩ ∧ g < w.heap.size ∧ ∀ i t, l[i]? = some t → w.cell? ⟨g, off + i * 3, none⟩ = some (.int .i64 t.1) ∧ w.cell? ⟨g, off + i * 3 + 1, none⟩ = some (.int .i64 t.2.1) ∧ w.cell? ⟨g, off + i * 3 + 2, none⟩ = some (.int .i64 t.2.2)
theorem DcsRd.below {w w' : World} {a : Option Addr} {n : Nat} {l : List (Int × Int × Int)} (h : DcsRd w a n l) (hb : Below w.heap.size w w') : DcsRd w' a n l := by
  refine ⟨h.size, ?_⟩
  rcases h.cells with h0 | ⟨g, off, ha, hg, hc⟩
  · exact .inl h0
  · refine .inr ⟨g, off, ha, Nat.lt_of_lt_of_le hg hb.size, fun i t hi => ?_⟩
    obtain ⟨h1, h2, h3⟩ := hc i t hi
    exact ⟨by rw [hb.cell hg]; exact h1, by rw [hb.cell hg]; exact h2, by rw [hb.cell hg]; exact h3⟩
set_option maxRecDepth 100000 in
theorem cv_isPart (n : Int) (w : World) : Calls Tryz.prog 35 #[.int .i64 n] w fun e w' => e = .returned (.bool (partB n)) ∧ w' = w := by
  by_cases h1 : -1048576 ≤ n
  · by_cases h2 : n ≤ 1048576
    · go_enter Tryz.func35, Tryz.ntmps35
      go_wp2
      go_returns
      exact ⟨by simp [partB, h1, h2], rfl⟩
    · go_enter Tryz.func35, Tryz.ntmps35
      go_wp2
      go_returns
      exact ⟨by simp [partB, h1, h2], rfl⟩
  · go_enter Tryz.func35, Tryz.ntmps35
    go_wp2
    go_returns
    exact ⟨by simp [partB]; intro h; omega, rfl⟩
set_option maxRecDepth 100000 in
set_option maxHeartbeats 2000000 in
theorem cv_mayNotBe (X Y R : Int) (w : World) : Calls Tryz.prog 23 #[.agg #[.int .i64 X, .int .i64 Y, .int .i64 R]] w fun e w' => e = .returned (.bool (badD (X, Y, R))) ∧ Below w.heap.size w w' := by
  obtain ⟨W1, HW1⟩ : ∃ W1, Hid (W1 = w.alloc (.cells #[.int .i64 X, .int .i64 Y, .int .i64 R] 45)) := ⟨_, rfl⟩
  have HX1 : Hid (Below w.heap.size w W1) := by (show Below _ _ _); rw [HW1.out]; exact below_alloc _ _
  have HK : Hid (Blk W1 w.heap.size #[.int .i64 X, .int .i64 Y, .int .i64 R] 45) := by (show Blk _ _ _ _); rw [HW1.out]; exact Blk.new _ _ _
  have c0 : W1.cell? ⟨w.heap.size, 0, none⟩ = some (.int .i64 X) := HK.out.cell 0 rfl
  have c1 : W1.cell? ⟨w.heap.size, 1, none⟩ = some (.int .i64 Y) := HK.out.cell 1 rfl
  have c2 : W1.cell? ⟨w.heap.size, 2, none⟩ = some (.int .i64 R) := HK.out.cell 2 rfl
  have HPX := cv_isPart X W1
  have HPY := cv_isPart Y W1
  obtain ⟨B, HBB⟩ : ∃ B, Hid (B = badD (X, Y, R)) := ⟨_, rfl⟩
  rw [← HBB.out]
  obtain ⟨px, hpx⟩ : ∃ p, p = partB X := ⟨_, rfl⟩
  obtain ⟨py, hpy⟩ : ∃ p, p = partB Y := ⟨_, rfl⟩
  have HBV : Hid (B = (!px || !py || decide (R < 0) || decide (1048576 < R))) := by (show _ = _); rw [HBB.out, hpx, hpy]; rfl
  rw [← hpx] at HPX
  rw [← hpy] at HPY
  clear hpx hpy HBB
  cases px with
  | false =>
    have HB : Hid (B = true) := by (show _ = _); rw [HBV.out]; rfl
    go_enter Tryz.func23, Tryz.ntmps23
    go_upto_region 1 with fail
    rw [← HW1.out]
    go_wp2_with fail
    refine HPX.mono ?_
    rintro e w0 ⟨rfl, hw⟩
    rw [hw]
    clear hw w0 HPX HPY
    go_wp2
    go_returns
    exact ⟨by rw [HB.out]; rfl, HX1.out⟩
  | true =>
    cases py with
    | false =>
      have HB : Hid (B = true) := by (show _ = _); rw [HBV.out]; rfl
      go_enter Tryz.func23, Tryz.ntmps23
      go_upto_region 1 with fail
      rw [← HW1.out]
      go_wp2_with fail
      refine HPX.mono ?_
      rintro e w0 ⟨rfl, hw⟩
      rw [hw]
      clear hw w0 HPX
      go_wp2_with fail
      refine HPY.mono ?_
      rintro e w0 ⟨rfl, hw⟩
      rw [hw]
      clear hw w0 HPY
      go_wp2
      go_returns
      exact ⟨by rw [HB.out]; rfl, HX1.out⟩
    | true =>
      by_cases h1 : R < 0
      · have HB : Hid (B = true) := by (show _ = _); rw [HBV.out]; simp [h1]
        go_enter Tryz.func23, Tryz.ntmps23
        go_upto_region 1 with fail
        rw [← HW1.out]
        go_wp2_with fail
        refine HPX.mono ?_
        rintro e w0 ⟨rfl, hw⟩
        rw [hw]
        clear hw w0 HPX
        go_wp2_with fail
        refine HPY.mono ?_
        rintro e w0 ⟨rfl, hw⟩
        rw [hw]
        clear hw w0 HPY
        go_wp2
        go_returns
        exact ⟨by rw [HB.out]; rfl, HX1.out⟩
      · have HB : Hid (B = (decide (R < 0) || decide (1048576 < R))) := by (show _ = _); rw [HBV.out]; rfl
        go_enter Tryz.func23, Tryz.ntmps23
        go_upto_region 1 with fail
        rw [← HW1.out]
        go_wp2_with fail
        refine HPX.mono ?_
        rintro e w0 ⟨rfl, hw⟩
        rw [hw]
        clear hw w0 HPX
        go_wp2_with fail
        refine HPY.mono ?_
        rintro e w0 ⟨rfl, hw⟩
        rw [hw]
        clear hw w0 HPY
        go_wp2
        go_returns
        exact ⟨by rw [HB.out]; rfl, HX1.out⟩
set_option maxRecDepth 100000 in
set_option maxHeartbeats 4000000 in
theorem cv_idxBad (a : Option Addr) (n c : Nat) (l : List (Int × Int × Int)) (w : World) (h : DcsRd w a n l) (hn : n ≤ 1000000) : Calls Tryz.prog 34 #[.slice a n c, .func (.func 23) #[] #[]] w fun e w' => Hid (∃ r : Int, e = .returned (.int .i64 r) ∧ decide (0 ≤ r) = l.any badD) ∧ Below w.heap.size w w' := by
  have HR : Hid (DcsRd w a n l) := h
  clear h
  go_enter Tryz.func34, Tryz.ntmps34
  go_wp2
  go_loopw [8] (fun t8 wr => ∃ (i : Nat), i ≤ n ∧ t8 = .int .i64 (i : Int) ∧ Hid ((l.take i).any badD = false) ∧ Hid (Below w.heap.size w wr)) (fun t8 _ => n - (intOf t8).toNat)
  case atStart => exact ⟨0, Nat.zero_le _, rfl, rfl, Below.refl _ _⟩
  case round =>
    obtain ⟨i, hi, rfl, HT, HBr⟩ := hrel
    by_cases hlt : i < n
    · have hlt' : (i : Int) < (n : Int) := by omega
      have hge : (0 : Int) ≤ (i : Int) := by omega
      have hrd := HR.out.below HBr.out
      obtain ⟨t, ht⟩ : ∃ t, l[i]? = some t := ⟨_, List.getElem?_eq_getElem (by rw [HR.out.size]; exact hlt)⟩
      obtain ⟨g, off, rfl, hc0, hc1, hc2⟩ : ∃ g off, a = some ⟨g, off, none⟩ ∧ wr.cell? ⟨g, off + i * 3, none⟩ = some (.int .i64 t.1) ∧ wr.cell? ⟨g, off + i * 3 + 1, none⟩ = some (.int .i64 t.2.1) ∧ wr.cell? ⟨g, off + i * 3 + 2, none⟩ = some (.int .i64 t.2.2) := by
        rcases hrd.cells with h0 | ⟨g, off, ha, _, hc⟩
        · omega
        · exact ⟨g, off, ha, (hc i t ht).1, (hc i t ht).2.1, (hc i t ht).2.2⟩
      have HLI : Hid (l[i]? = some t) := ht
      obtain ⟨X, Y, R⟩ := t
      simp only at hc0 hc1 hc2
      have HM := cv_mayNotBe X Y R wr
      obtain ⟨B, HBB⟩ : ∃ B, Hid (B = badD (X, Y, R)) := ⟨_, rfl⟩
      rw [← HBB.out] at HM
      have HTK : Hid ((l.take (i + 1)).any badD = B) := by
        (show _ = _)
        rw [List.take_add_one, HLI.out, List.any_append, HT.out, HBB.out]
        simp
      clear hrd ht
      cases B with
      | true =>
        have HAN : Hid (l.any badD = true) := by
          (show _ = _)
          rw [List.any_eq_true]
          exact ⟨(X, Y, R), List.mem_of_getElem? HLI.out, HBB.out.symm⟩
        go_wp2_with fail
        refine HM.mono ?_
        rintro e w2 ⟨rfl, hb2⟩
        have HB2 : Hid (Below w.heap.size w w2) := HBr.out.trans (hb2.mono HBr.out.size)
        clear hb2 HM hc0 hc1 hc2
        go_wp2
        go_returns
        exact ⟨⟨_, rfl, by rw [HAN.out]; simp⟩, HB2.out⟩
      | false =>
        go_wp2_with fail
        refine HM.mono ?_
        rintro e w2 ⟨rfl, hb2⟩
        have HB2 : Hid (Below w.heap.size w w2) := HBr.out.trans (hb2.mono HBr.out.size)
        clear hb2 HM hc0 hc1 hc2
        go_wp2
        go_roundw
        case rel => exact ⟨i + 1, by omega, by go_num, HTK, HB2⟩
        case measure => (simp [intOf]; omega)
    · have hnl : ¬ (i : Int) < (n : Int) := by omega
      have HAN : Hid (l.any badD = false) := by
        (show _ = _)
        have h1 := HT.out
        rw [List.take_of_length_le (by rw [HR.out.size]; omega)] at h1
        exact h1
      go_wp2
      go_returns
      exact ⟨⟨_, rfl, by rw [HAN.out]; rfl⟩, HBr.out⟩
set_option maxRecDepth 100000 in
theorem cv_conBad (a : Option Addr) (n c : Nat) (l : List (Int × Int × Int)) (w : World) (h : DcsRd w a n l) (hn : n ≤ 1000000) : Calls Tryz.prog 22 #[.slice a n c, .func (.func 23) #[] #[]] w fun e w' => e = .returned (.bool (l.any badD)) ∧ Below w.heap.size w w' := by
  have HI := cv_idxBad a n c l w h hn
  clear h hn
  go_enter Tryz.func22, Tryz.ntmps22
  go_wp2_with fail
  refine HI.mono ?_
  rintro e w1 ⟨ht1, hb1⟩
  obtain ⟨r, rfl, hr⟩ := ht1.out
  have HB1 : Hid (Below w.heap.size w w1) := hb1
  have HRR : Hid (decide (0 ≤ r) = l.any badD) := hr
  clear hb1 ht1 HI hr
  go_wp2
  go_returns
  exact ⟨by rw [← HRR.out]; rfl, HB1.out⟩
end Go.Proofs.YtnfeklebfnlgkaaGreat
