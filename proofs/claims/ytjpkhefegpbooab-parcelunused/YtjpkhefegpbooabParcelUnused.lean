/- Proved: for every two parcels grapevinelaw13.ParcelUnused answers true and leaves its arguments as they were. No condition. -/
import Derived.Test.YtjpkhefegpbooabPlU
import Derived.Test.YtjpkhefegpbooabPcArg
import Derived.Test.YtjpkhefegpbooabPcLive
import Derived.Deep.RegionHeld3
namespace Go.Proofs.Ytjpkhefegpbooab
open Go.ChangeShapes Go.WideShapes Go.ChangeAt Go.RowKit
namespace parcelUnused

theorem chk1_sub (pp pf pt qs qn : Int) (pl : List Sp) (pi : List It) : chk ⟨1, pp, qs, qn, pf, pt, pl, pi⟩ = chk ⟨1, pp, 0, 0, pf, pt, pl, pi⟩ := by
  have hi : ∀ (l : List It) (least : Int), itE ⟨1, pp, qs, qn, pf, pt, pl, pi⟩ least l = itE ⟨1, pp, 0, 0, pf, pt, pl, pi⟩ least l := by
    intro l
    induction l with
    | nil => intro least; rfl
    | cons q l ih => intro least; rw [itE, itE, ih]
  have hs : spB ⟨1, pp, qs, qn, pf, pt, pl, pi⟩ = spB ⟨1, pp, 0, 0, pf, pt, pl, pi⟩ := rfl
  have hn : numB ⟨1, pp, qs, qn, pf, pt, pl, pi⟩ (subB 1) (fromB 1) (toB 1) = numB ⟨1, pp, 0, 0, pf, pt, pl, pi⟩ (subB 1) (fromB 1) (toB 1) := rfl
  unfold chk
  simp only [hn, hs, hi]

set_option maxRecDepth 100000 in
set_option maxHeartbeats 4000000 in
theorem walk_1 (pp ps pn pf pt : Int) (pl : List Sp) (pi : List It) (sa : Option Addr) (sn sc : Nat) (ia : Option Addr) (im ic : Nat) (qk qp qs qn qf qt : Int) (ql : List Sp) (qi : List It) (ta : Option Addr) (tn tc : Nat) (ja : Option Addr) (jm jc : Nat) (w : World) (hp : PcRd w ⟨1, pp, ps, pn, pf, pt, pl, pi⟩ sa sn sc ia im ic) (hbg : PcBig ⟨1, pp, ps, pn, pf, pt, pl, pi⟩ sa sc ia ic) (hq : PcRd w ⟨qk, qp, qs, qn, qf, qt, ql, qi⟩ ta tn tc ja jm jc) :
    Calls Try.prog 3 #[Pc.val ⟨1, pp, ps, pn, pf, pt, pl, pi⟩ sa sn sc ia im ic, Pc.val ⟨qk, qp, qs, qn, qf, qt, ql, qi⟩ ta tn tc ja jm jc] w fun e w' => e = .returned (.bool true) ∧ Below w.heap.size w w' := by
  have HQW : Hid (PcRd w ⟨qk, qp, qs, qn, qf, qt, ql, qi⟩ ta tn tc ja jm jc) := hq
  obtain ⟨W0, HW0⟩ : ∃ W0, Hid (W0 = ((w.alloc (.cells #[.int .i64 1, .int .i64 pp, .int .i64 ps, .int .i64 pn, .int .i64 pf, .int .i64 pt, .slice sa sn sc, .slice ia im ic] 26)).alloc (.cells #[.int .i64 qk, .int .i64 qp, .int .i64 qs, .int .i64 qn, .int .i64 qf, .int .i64 qt, .slice ta tn tc, .slice ja jm jc] 26))) := ⟨_, rfl⟩
  have HB0 : Hid (Below w.heap.size w W0) := by rw [HW0.out]; exact (below_new w _).alloc (by simp) _
  have HQ0 : Hid (Bk W0 (w.heap.size + 1) #[.int .i64 qk, .int .i64 qp, .int .i64 qs, .int .i64 qn, .int .i64 qf, .int .i64 qt, .slice ta tn tc, .slice ja jm jc] 26) := by
    rw [HW0.out]
    have h := Bk.new (w.alloc (.cells #[.int .i64 1, .int .i64 pp, .int .i64 ps, .int .i64 pn, .int .i64 pf, .int .i64 pt, .slice sa sn sc, .slice ia im ic] 26)) #[.int .i64 qk, .int .i64 qp, .int .i64 qs, .int .i64 qn, .int .i64 qf, .int .i64 qt, .slice ta tn tc, .slice ja jm jc] 26
    rw [show (w.alloc (.cells #[.int .i64 1, .int .i64 pp, .int .i64 ps, .int .i64 pn, .int .i64 pf, .int .i64 pt, .slice sa sn sc, .slice ia im ic] 26)).heap.size = w.heap.size + 1 from by simp] at h
    exact h
  have hcl := ref_Plain13 ⟨1, pp, ps, pn, pf, pt, pl, pi⟩ sa sn sc ia im ic W0 (hp.below HB0.out) hbg
  rw [plainQ_is (p := ⟨1, pp, ps, pn, pf, pt, pl, pi⟩) rfl] at hcl
  have HCL : Hid (Calls Try.prog 4 #[Pc.val ⟨1, pp, ps, pn, pf, pt, pl, pi⟩ sa sn sc ia im ic] W0 fun e w' => Hid (PlainTold W0 w' ⟨1, pp, 0, 0, pf, pt, pl, pi⟩ e) ∧ Below W0.heap.size W0 w') := hcl
  have HEA : Hid (∀ x ∈ (⟨1, pp, 0, 0, pf, pt, pl, pi⟩ : Pc).items, ((-9223372036854775808 : Int) ≤ x.tick ∧ x.tick ≤ 9223372036854775807) ∧ (0 ≤ x.for_ ∧ x.for_ ≤ 4294967295)) := hp.items.each
  clear hcl hp hbg hq
  obtain ⟨C, HCX⟩ : ∃ C, Hid (C = chk ⟨1, pp, 0, 0, pf, pt, pl, pi⟩) := ⟨_, rfl⟩
  have HCY : Hid (chk ⟨1, pp, qs, qn, pf, pt, pl, pi⟩ = C) := by show _ = _; rw [HCX.out]; exact chk1_sub _ _ _ _ _ _ _
  obtain ⟨D, HDX⟩ : ∃ D, Hid (D = putD ⟨1, pp, 0, 0, pf, pt, pl, pi⟩) := ⟨_, rfl⟩
  have HDY : Hid (putD ⟨1, pp, qs, qn, pf, pt, pl, pi⟩ = D) := by show _ = _; rw [HDX.out, putD, putD, HCY.out, ← HCX.out]; rfl
  go_enter Try.func3, Try.ntmps3
  go_wp2_with fail
  rw [← HW0.out]
  refine HCL.out.mono ?_
  rintro e w1 ⟨ht, hb1⟩
  obtain ⟨xa, xn, xc, ya, ym, yc, he, hx⟩ := ht.out.rd HEA.out
  unfold Pc.val at he
  simp only at he
  subst he
  have HB1 : Hid (Below w.heap.size w w1) := HB0.out.trans (hb1.mono HB0.out.size)
  have hq1 : Bk w1 (w.heap.size + 1) #[.int .i64 qk, .int .i64 qp, .int .i64 qs, .int .i64 qn, .int .i64 qf, .int .i64 qt, .slice ta tn tc, .slice ja jm jc] 26 := HQ0.out.stay hb1
  obtain ⟨w2, HW2⟩ : ∃ w2, Hid (w2 = (w1.alloc (.cells #[.int .i64 1, .int .i64 pp, .int .i64 0, .int .i64 0, .int .i64 pf, .int .i64 pt, .slice xa xn xc, .slice ya ym yc] 26)).alloc (.cells #[.int .i64 1, .int .i64 pp, .int .i64 0, .int .i64 0, .int .i64 pf, .int .i64 pt, .slice xa xn xc, .slice ya ym yc] 26)) := ⟨_, rfl⟩
  have HB12 : Hid (Below w1.heap.size w1 w2) := by rw [HW2.out]; exact (below_new w1 _).alloc (by simp) _
  have HQ2 : Hid (Bk w2 (w.heap.size + 1) #[.int .i64 qk, .int .i64 qp, .int .i64 qs, .int .i64 qn, .int .i64 qf, .int .i64 qt, .slice ta tn tc, .slice ja jm jc] 26) := hq1.stay HB12.out
  have HX2 : Hid (Bk w2 w1.heap.size #[.int .i64 1, .int .i64 pp, .int .i64 0, .int .i64 0, .int .i64 pf, .int .i64 pt, .slice xa xn xc, .slice ya ym yc] 26) := by rw [HW2.out]; exact (Bk.new w1 _ _).stay (below_new _ _)
  have HY2 : Hid (Bk w2 (w1.heap.size + 1) #[.int .i64 1, .int .i64 pp, .int .i64 0, .int .i64 0, .int .i64 pf, .int .i64 pt, .slice xa xn xc, .slice ya ym yc] 26) := by
    rw [HW2.out]
    have h := Bk.new (w1.alloc (.cells #[.int .i64 1, .int .i64 pp, .int .i64 0, .int .i64 0, .int .i64 pf, .int .i64 pt, .slice xa xn xc, .slice ya ym yc] 26)) #[.int .i64 1, .int .i64 pp, .int .i64 0, .int .i64 0, .int .i64 pf, .int .i64 pt, .slice xa xn xc, .slice ya ym yc] 26
    rw [show (w1.alloc (.cells #[.int .i64 1, .int .i64 pp, .int .i64 0, .int .i64 0, .int .i64 pf, .int .i64 pt, .slice xa xn xc, .slice ya ym yc] 26)).heap.size = w1.heap.size + 1 from by simp] at h
    exact h
  have HXR : Hid (PcRd w1 ⟨1, pp, 0, 0, pf, pt, pl, pi⟩ xa xn xc ya ym yc) := hx
  have HB2 : Hid (Below w.heap.size w w2) := HB1.out.trans (HB12.out.mono HB1.out.size)
  have hqy : w.heap.size + 1 ≠ w1.heap.size + 1 := by have h1 := hq1.lt; have h2 := HB0.out.size; omega
  have hxy : w1.heap.size ≠ w1.heap.size + 1 := by omega
  clear ht hb1 hx hq1 HQ0 HCL HB0
  have e0 : w2.cell? ⟨w.heap.size + 1, 0, none⟩ = some (.int .i64 qk) := HQ2.out.cell 0 rfl
  have e1 : w2.cell? ⟨w.heap.size + 1, 1, none⟩ = some (.int .i64 qp) := HQ2.out.cell 1 rfl
  have e2 : w2.cell? ⟨w.heap.size + 1, 2, none⟩ = some (.int .i64 qs) := HQ2.out.cell 2 rfl
  have e3 : w2.cell? ⟨w.heap.size + 1, 3, none⟩ = some (.int .i64 qn) := HQ2.out.cell 3 rfl
  have e4 : w2.cell? ⟨w.heap.size + 1, 4, none⟩ = some (.int .i64 qf) := HQ2.out.cell 4 rfl
  have e5 : w2.cell? ⟨w.heap.size + 1, 5, none⟩ = some (.int .i64 qt) := HQ2.out.cell 5 rfl
  have e6 : w2.cell? ⟨w.heap.size + 1, 6, none⟩ = some (.slice ta tn tc) := HQ2.out.cell 6 rfl
  have e7 : w2.cell? ⟨w.heap.size + 1, 7, none⟩ = some (.slice ja jm jc) := HQ2.out.cell 7 rfl
  have x0 : w2.cell? ⟨w1.heap.size, 0, none⟩ = some (.int .i64 1) := HX2.out.cell 0 rfl
  have x1 : w2.cell? ⟨w1.heap.size, 1, none⟩ = some (.int .i64 pp) := HX2.out.cell 1 rfl
  have x2 : w2.cell? ⟨w1.heap.size, 2, none⟩ = some (.int .i64 0) := HX2.out.cell 2 rfl
  have x3 : w2.cell? ⟨w1.heap.size, 3, none⟩ = some (.int .i64 0) := HX2.out.cell 3 rfl
  have x4 : w2.cell? ⟨w1.heap.size, 4, none⟩ = some (.int .i64 pf) := HX2.out.cell 4 rfl
  have x5 : w2.cell? ⟨w1.heap.size, 5, none⟩ = some (.int .i64 pt) := HX2.out.cell 5 rfl
  have x6 : w2.cell? ⟨w1.heap.size, 6, none⟩ = some (.slice xa xn xc) := HX2.out.cell 6 rfl
  have x7 : w2.cell? ⟨w1.heap.size, 7, none⟩ = some (.slice ya ym yc) := HX2.out.cell 7 rfl
  have y0 : w2.cell? ⟨w1.heap.size + 1, 0, none⟩ = some (.int .i64 1) := HY2.out.cell 0 rfl
  have y1 : w2.cell? ⟨w1.heap.size + 1, 1, none⟩ = some (.int .i64 pp) := HY2.out.cell 1 rfl
  have y2 : w2.cell? ⟨w1.heap.size + 1, 2, none⟩ = some (.int .i64 0) := HY2.out.cell 2 rfl
  have y3 : w2.cell? ⟨w1.heap.size + 1, 3, none⟩ = some (.int .i64 0) := HY2.out.cell 3 rfl
  have y4 : w2.cell? ⟨w1.heap.size + 1, 4, none⟩ = some (.int .i64 pf) := HY2.out.cell 4 rfl
  have y5 : w2.cell? ⟨w1.heap.size + 1, 5, none⟩ = some (.int .i64 pt) := HY2.out.cell 5 rfl
  have y6 : w2.cell? ⟨w1.heap.size + 1, 6, none⟩ = some (.slice xa xn xc) := HY2.out.cell 6 rfl
  have y7 : w2.cell? ⟨w1.heap.size + 1, 7, none⟩ = some (.slice ya ym yc) := HY2.out.cell 7 rfl
  have fy : ∀ i, w2.frozen? ⟨w1.heap.size + 1, i, none⟩ = false := fun i => HY2.out.free i
  obtain ⟨w3, HW3⟩ : ∃ w3, Hid (w3 = ((w2.setCell ⟨w1.heap.size + 1, 2, none⟩ (.int .i64 qs)).setCell ⟨w1.heap.size + 1, 3, none⟩ (.int .i64 qn)).drew) := ⟨_, rfl⟩
  have HY3 : Hid (Bk w3 (w1.heap.size + 1) #[.int .i64 1, .int .i64 pp, .int .i64 qs, .int .i64 qn, .int .i64 pf, .int .i64 pt, .slice xa xn xc, .slice ya ym yc] 26) := by
    rw [HW3.out]
    have s0 : Bk (w2.setCell ⟨w1.heap.size + 1, 2, none⟩ (.int .i64 qs)) (w1.heap.size + 1) #[.int .i64 1, .int .i64 pp, .int .i64 qs, .int .i64 0, .int .i64 pf, .int .i64 pt, .slice xa xn xc, .slice ya ym yc] 26 := bk_step HY2.out 2 _ rfl
    have s1 : Bk ((w2.setCell ⟨w1.heap.size + 1, 2, none⟩ (.int .i64 qs)).setCell ⟨w1.heap.size + 1, 3, none⟩ (.int .i64 qn)) (w1.heap.size + 1) #[.int .i64 1, .int .i64 pp, .int .i64 qs, .int .i64 qn, .int .i64 pf, .int .i64 pt, .slice xa xn xc, .slice ya ym yc] 26 := bk_step s0 3 _ rfl
    exact s1
  have HX3 : Hid (Bk w3 w1.heap.size #[.int .i64 1, .int .i64 pp, .int .i64 0, .int .i64 0, .int .i64 pf, .int .i64 pt, .slice xa xn xc, .slice ya ym yc] 26) := by rw [HW3.out]; exact ((HX2.out.other _ _ (by show w1.heap.size ≠ w1.heap.size + 1; omega)).other _ _ (by show w1.heap.size ≠ w1.heap.size + 1; omega))
  have HB13 : Hid (Below w1.heap.size w1 w3) := by rw [HW3.out]; exact (below_drew ((HB12.out.setCell (by show w1.heap.size ≤ w1.heap.size + 1; omega) _).setCell (by show w1.heap.size ≤ w1.heap.size + 1; omega) _))
  have HB3 : Hid (Below w.heap.size w w3) := HB1.out.trans (HB13.out.mono HB1.out.size)
  have HXR3 : Hid (PcRd w3 ⟨1, pp, 0, 0, pf, pt, pl, pi⟩ xa xn xc ya ym yc) := HXR.out.below HB13.out
  have HYR3 : Hid (PcRd w3 ⟨1, pp, qs, qn, pf, pt, pl, pi⟩ xa xn xc ya ym yc) := ⟨HXR3.out.spans, HXR3.out.items, HXR3.out.sl, HXR3.out.sm, HXR3.out.il, HXR3.out.im_⟩
  have HCXP : Hid (∀ w', Below w3.heap.size w3 w' → Calls Try.prog 5 #[.agg #[.int .i64 1, .int .i64 pp, .int .i64 0, .int .i64 0, .int .i64 pf, .int .i64 pt, .slice xa xn xc, .slice ya ym yc]] w' fun e w'' => (∃ b m c, e = .returned (.tuple #[.slice b m c, .int .i64 C]) ∧ Own w'' w'.heap.size b m c D) ∧ Below w'.heap.size w' w'') := by
    intro w' hb
    have h := pc_Put ⟨1, pp, 0, 0, pf, pt, pl, pi⟩ xa xn xc ya ym yc w' (HXR3.out.below hb)
    unfold PutTold at h
    rw [← HCX.out, ← HDX.out] at h
    exact h
  have HCYP : Hid (∀ w', Below w3.heap.size w3 w' → Calls Try.prog 5 #[.agg #[.int .i64 1, .int .i64 pp, .int .i64 qs, .int .i64 qn, .int .i64 pf, .int .i64 pt, .slice xa xn xc, .slice ya ym yc]] w' fun e w'' => (∃ b m c, e = .returned (.tuple #[.slice b m c, .int .i64 C]) ∧ Own w'' w'.heap.size b m c D) ∧ Below w'.heap.size w' w'') := by
    intro w' hb
    have h := pc_Put ⟨1, pp, qs, qn, pf, pt, pl, pi⟩ xa xn xc ya ym yc w' (HYR3.out.below hb)
    unfold PutTold at h
    rw [HCY.out, HDY.out] at h
    exact h
  have HCXC : Hid (∀ w', Below w3.heap.size w3 w' → Calls Try.prog 7 #[.agg #[.int .i64 1, .int .i64 pp, .int .i64 0, .int .i64 0, .int .i64 pf, .int .i64 pt, .slice xa xn xc, .slice ya ym yc]] w' fun e w'' => e = .returned (.int .i64 C) ∧ Below w'.heap.size w' w'') := by
    intro w' hb
    have h := pc_Check ⟨1, pp, 0, 0, pf, pt, pl, pi⟩ xa xn xc ya ym yc w' (HXR3.out.below hb)
    rw [← HCX.out] at h
    exact h
  have HCYC : Hid (∀ w', Below w3.heap.size w3 w' → Calls Try.prog 7 #[.agg #[.int .i64 1, .int .i64 pp, .int .i64 qs, .int .i64 qn, .int .i64 pf, .int .i64 pt, .slice xa xn xc, .slice ya ym yc]] w' fun e w'' => e = .returned (.int .i64 C) ∧ Below w'.heap.size w' w'') := by
    intro w' hb
    have h := pc_Check ⟨1, pp, qs, qn, pf, pt, pl, pi⟩ xa xn xc ya ym yc w' (HYR3.out.below hb)
    rw [HCY.out] at h
    exact h
  have HCC : Hid (∀ w', Below w3.heap.size w3 w' → ∀ v, v = Value.agg #[.int .i64 1, .int .i64 pp, .int .i64 0, .int .i64 0, .int .i64 pf, .int .i64 pt, .slice xa xn xc, .slice ya ym yc] ∨ v = Value.agg #[.int .i64 1, .int .i64 pp, .int .i64 qs, .int .i64 qn, .int .i64 pf, .int .i64 pt, .slice xa xn xc, .slice ya ym yc] → Calls Try.prog 7 #[v] w' fun e w'' => e = .returned (.int .i64 C) ∧ Below w'.heap.size w' w'') := by
    intro w' hb v hv
    rcases hv with rfl | rfl
    · exact HCXC.out w' hb
    · exact HCYC.out w' hb
  clear HCXC HCYC
  have HSK : Hid (∀ w', Below w3.heap.size w3 w' → w'.cell? ⟨w1.heap.size, 0, none⟩ = some (.int .i64 1) ∧ w'.cell? ⟨w1.heap.size, 1, none⟩ = some (.int .i64 pp) ∧ w'.cell? ⟨w1.heap.size, 2, none⟩ = some (.int .i64 0) ∧ w'.cell? ⟨w1.heap.size, 3, none⟩ = some (.int .i64 0) ∧ w'.cell? ⟨w1.heap.size, 4, none⟩ = some (.int .i64 pf) ∧ w'.cell? ⟨w1.heap.size, 5, none⟩ = some (.int .i64 pt) ∧ w'.cell? ⟨w1.heap.size, 6, none⟩ = some (.slice xa xn xc) ∧ w'.cell? ⟨w1.heap.size, 7, none⟩ = some (.slice ya ym yc) ∧ w'.cell? ⟨w1.heap.size + 1, 0, none⟩ = some (.int .i64 1) ∧ w'.cell? ⟨w1.heap.size + 1, 1, none⟩ = some (.int .i64 pp) ∧ w'.cell? ⟨w1.heap.size + 1, 2, none⟩ = some (.int .i64 qs) ∧ w'.cell? ⟨w1.heap.size + 1, 3, none⟩ = some (.int .i64 qn) ∧ w'.cell? ⟨w1.heap.size + 1, 4, none⟩ = some (.int .i64 pf) ∧ w'.cell? ⟨w1.heap.size + 1, 5, none⟩ = some (.int .i64 pt) ∧ w'.cell? ⟨w1.heap.size + 1, 6, none⟩ = some (.slice xa xn xc) ∧ w'.cell? ⟨w1.heap.size + 1, 7, none⟩ = some (.slice ya ym yc)) := by
    intro w' hb
    have k := HX3.out.stay hb
    have l := HY3.out.stay hb
    exact ⟨k.cell 0 rfl, k.cell 1 rfl, k.cell 2 rfl, k.cell 3 rfl, k.cell 4 rfl, k.cell 5 rfl, k.cell 6 rfl, k.cell 7 rfl, l.cell 0 rfl, l.cell 1 rfl, l.cell 2 rfl, l.cell 3 rfl, l.cell 4 rfl, l.cell 5 rfl, l.cell 6 rfl, l.cell 7 rfl⟩
  clear HQW HXR HXR3 HYR3 HCX HCY HDX HDY HQ2 HX2 HY2 HX3 HY3 HB12 HB2 HEA
  go_wp2
  rw [← HW2.out]
  go_region
  go_wp2_with fail
  rw [← HW3.out]
  refine (HCXP.out _ (Below.refl _ _)).mono ?_
  rintro e w4 ⟨⟨b4, m4, c4, he, ho4⟩, hb4⟩
  subst he
  have HO4 : Hid (Rd w4 b4 m4 D) := ho4.rd
  have HB34 : Hid (Below w3.heap.size w3 w4) := hb4
  clear ho4 hb4 x0 y0 e0 x1 y1 e1 x2 y2 e2 x3 y3 e3 x4 y4 e4 x5 y5 e5 x6 y6 e6 x7 y7 e7
  obtain ⟨g0, g1, g2, g3, g4, g5, g6, g7, g8, g9, g10, g11, g12, g13, g14, g15⟩ := HSK.out _ HB34.out
  go_wp2_with fail
  refine (HCYP.out _ HB34.out).mono ?_
  rintro e w5 ⟨⟨b5, m5, c5, he, ho5⟩, hb5⟩
  subst he
  have HO5 : Hid (Rd w5 b5 m5 D) := ho5.rd
  have HO45 : Hid (Rd w5 b4 m4 D) := HO4.out.below hb5
  have HB : Hid (Below w3.heap.size w3 w5.drew) := below_drew (HB34.out.trans (hb5.mono HB34.out.size))
  have HB5 : Hid (Below w3.heap.size w3 w5) := HB34.out.trans (hb5.mono HB34.out.size)
  clear ho5 hb5 HO4 g0 g1 g2 g3 g4 g5 g6 g7 g8 g9 g10 g11 g12 g13 g14 g15
  obtain ⟨S, HSS⟩ : ∃ S, Hid (S = str D) := ⟨_, rfl⟩
  have x4 : ∀ w', Below w5.heap.size w5 w' → (convert 28 9 (.slice b4 m4 c4)).run Try.prog w' = .ok (.string S) w' := fun w' h => by rw [conv_rd (HO45.out.below h) c4, HSS.out]
  have x5 : ∀ w', Below w5.heap.size w5 w' → (convert 28 9 (.slice b5 m5 c5)).run Try.prog w' = .ok (.string S) w' := fun w' h => by rw [conv_rd (HO5.out.below h) c5, HSS.out]
  have HX45 : Hid (∀ w', Below w5.heap.size w5 w' → (convert 28 9 (.slice b4 m4 c4)).run Try.prog w' = .ok (.string S) w') := x4
  have HX5 : Hid (∀ w', Below w5.heap.size w5 w' → (convert 28 9 (.slice b5 m5 c5)).run Try.prog w' = .ok (.string S) w') := x5
  have HBZ : Hid (Below w5.heap.size w5 w5.drew) := below_drew (Below.refl _ _)
  clear x4 x5
  go_wp2
  have HSL : Hid (∀ w', Below w3.heap.size w3 w' → Below w5.heap.size w5 w' → w'.cell? ⟨w1.heap.size, 0, none⟩ = some (.int .i64 1) ∧ w'.cell? ⟨w1.heap.size, 1, none⟩ = some (.int .i64 pp) ∧ w'.cell? ⟨w1.heap.size, 2, none⟩ = some (.int .i64 0) ∧ w'.cell? ⟨w1.heap.size, 3, none⟩ = some (.int .i64 0) ∧ w'.cell? ⟨w1.heap.size, 4, none⟩ = some (.int .i64 pf) ∧ w'.cell? ⟨w1.heap.size, 5, none⟩ = some (.int .i64 pt) ∧ w'.cell? ⟨w1.heap.size, 6, none⟩ = some (.slice xa xn xc) ∧ w'.cell? ⟨w1.heap.size, 7, none⟩ = some (.slice ya ym yc) ∧ w'.cell? ⟨w1.heap.size + 1, 0, none⟩ = some (.int .i64 1) ∧ w'.cell? ⟨w1.heap.size + 1, 1, none⟩ = some (.int .i64 pp) ∧ w'.cell? ⟨w1.heap.size + 1, 2, none⟩ = some (.int .i64 qs) ∧ w'.cell? ⟨w1.heap.size + 1, 3, none⟩ = some (.int .i64 qn) ∧ w'.cell? ⟨w1.heap.size + 1, 4, none⟩ = some (.int .i64 pf) ∧ w'.cell? ⟨w1.heap.size + 1, 5, none⟩ = some (.int .i64 pt) ∧ w'.cell? ⟨w1.heap.size + 1, 6, none⟩ = some (.slice xa xn xc) ∧ w'.cell? ⟨w1.heap.size + 1, 7, none⟩ = some (.slice ya ym yc) ∧ (convert 28 9 (.slice b4 m4 c4)).run Try.prog w' = .ok (.string S) w' ∧ (convert 28 9 (.slice b5 m5 c5)).run Try.prog w' = .ok (.string S) w') := fun w' h h' => by obtain ⟨g0, g1, g2, g3, g4, g5, g6, g7, g8, g9, g10, g11, g12, g13, g14, g15⟩ := HSK.out w' h; exact ⟨g0, g1, g2, g3, g4, g5, g6, g7, g8, g9, g10, g11, g12, g13, g14, g15, HX45.out w' h', HX5.out w' h'⟩
  clear HSK HX45 HX5 HO45 HO5 HSS HB34 HCXP HCYP HW2 HW3 HW0 hqy hxy fy
  go_region_held3 (fun w' => w'.cell? ⟨w1.heap.size, 0, none⟩ = some (.int .i64 1) ∧ w'.cell? ⟨w1.heap.size, 1, none⟩ = some (.int .i64 pp) ∧ w'.cell? ⟨w1.heap.size, 2, none⟩ = some (.int .i64 0) ∧ w'.cell? ⟨w1.heap.size, 3, none⟩ = some (.int .i64 0) ∧ w'.cell? ⟨w1.heap.size, 4, none⟩ = some (.int .i64 pf) ∧ w'.cell? ⟨w1.heap.size, 5, none⟩ = some (.int .i64 pt) ∧ w'.cell? ⟨w1.heap.size, 6, none⟩ = some (.slice xa xn xc) ∧ w'.cell? ⟨w1.heap.size, 7, none⟩ = some (.slice ya ym yc) ∧ w'.cell? ⟨w1.heap.size + 1, 0, none⟩ = some (.int .i64 1) ∧ w'.cell? ⟨w1.heap.size + 1, 1, none⟩ = some (.int .i64 pp) ∧ w'.cell? ⟨w1.heap.size + 1, 2, none⟩ = some (.int .i64 qs) ∧ w'.cell? ⟨w1.heap.size + 1, 3, none⟩ = some (.int .i64 qn) ∧ w'.cell? ⟨w1.heap.size + 1, 4, none⟩ = some (.int .i64 pf) ∧ w'.cell? ⟨w1.heap.size + 1, 5, none⟩ = some (.int .i64 pt) ∧ w'.cell? ⟨w1.heap.size + 1, 6, none⟩ = some (.slice xa xn xc) ∧ w'.cell? ⟨w1.heap.size + 1, 7, none⟩ = some (.slice ya ym yc) ∧ (convert 28 9 (.slice b4 m4 c4)).run Try.prog w' = .ok (.string S) w' ∧ (convert 28 9 (.slice b5 m5 c5)).run Try.prog w' = .ok (.string S) w') (first | with_reducible exact HSL.out _ HB.out HBZ.out | with_reducible exact HSL.out _ HB5.out (Below.refl _ _) | fail)
    (first
      | (go_at_call 6; refine (law_live13 _).mono ?_; rintro e w6 ⟨rfl, hb6⟩; have HB' : Hid (Below w3.heap.size w3 w6) := HB.out.trans (hb6.mono HB.out.size); have HZ' : Hid (Below w5.heap.size w5 w6) := HBZ.out.trans (hb6.mono HBZ.out.size); clear hb6 HB HBZ; have HB := HB'; have HBZ := HZ'; clear HB' HZ')
      | (go_at_call 7; refine (HCC.out _ HB.out _ (by first | exact Or.inl rfl | exact Or.inr rfl)).mono ?_; rintro e w7 ⟨rfl, hb7⟩; have HB' : Hid (Below w3.heap.size w3 w7) := HB.out.trans (hb7.mono HB.out.size); have HZ' : Hid (Below w5.heap.size w5 w7) := HBZ.out.trans (hb7.mono HBZ.out.size); clear hb7 HB HBZ; have HB := HB'; have HBZ := HZ'; clear HB' HZ'))
  all_goals (
    go_wp2
    go_ret
    exact ⟨by simp, HB3.out.trans (HB.out.mono HB3.out.size)⟩ )

set_option maxRecDepth 100000 in
set_option maxHeartbeats 4000000 in
theorem walk_2 (pp ps pn pf pt : Int) (pl : List Sp) (pi : List It) (sa : Option Addr) (sn sc : Nat) (ia : Option Addr) (im ic : Nat) (qk qp qs qn qf qt : Int) (ql : List Sp) (qi : List It) (ta : Option Addr) (tn tc : Nat) (ja : Option Addr) (jm jc : Nat) (w : World) (hp : PcRd w ⟨2, pp, ps, pn, pf, pt, pl, pi⟩ sa sn sc ia im ic) (hbg : PcBig ⟨2, pp, ps, pn, pf, pt, pl, pi⟩ sa sc ia ic) (hq : PcRd w ⟨qk, qp, qs, qn, qf, qt, ql, qi⟩ ta tn tc ja jm jc) :
    Calls Try.prog 3 #[Pc.val ⟨2, pp, ps, pn, pf, pt, pl, pi⟩ sa sn sc ia im ic, Pc.val ⟨qk, qp, qs, qn, qf, qt, ql, qi⟩ ta tn tc ja jm jc] w fun e w' => e = .returned (.bool true) ∧ Below w.heap.size w w' := by
  have HQW : Hid (PcRd w ⟨qk, qp, qs, qn, qf, qt, ql, qi⟩ ta tn tc ja jm jc) := hq
  obtain ⟨W0, HW0⟩ : ∃ W0, Hid (W0 = ((w.alloc (.cells #[.int .i64 2, .int .i64 pp, .int .i64 ps, .int .i64 pn, .int .i64 pf, .int .i64 pt, .slice sa sn sc, .slice ia im ic] 26)).alloc (.cells #[.int .i64 qk, .int .i64 qp, .int .i64 qs, .int .i64 qn, .int .i64 qf, .int .i64 qt, .slice ta tn tc, .slice ja jm jc] 26))) := ⟨_, rfl⟩
  have HB0 : Hid (Below w.heap.size w W0) := by rw [HW0.out]; exact (below_new w _).alloc (by simp) _
  have HQ0 : Hid (Bk W0 (w.heap.size + 1) #[.int .i64 qk, .int .i64 qp, .int .i64 qs, .int .i64 qn, .int .i64 qf, .int .i64 qt, .slice ta tn tc, .slice ja jm jc] 26) := by
    rw [HW0.out]
    have h := Bk.new (w.alloc (.cells #[.int .i64 2, .int .i64 pp, .int .i64 ps, .int .i64 pn, .int .i64 pf, .int .i64 pt, .slice sa sn sc, .slice ia im ic] 26)) #[.int .i64 qk, .int .i64 qp, .int .i64 qs, .int .i64 qn, .int .i64 qf, .int .i64 qt, .slice ta tn tc, .slice ja jm jc] 26
    rw [show (w.alloc (.cells #[.int .i64 2, .int .i64 pp, .int .i64 ps, .int .i64 pn, .int .i64 pf, .int .i64 pt, .slice sa sn sc, .slice ia im ic] 26)).heap.size = w.heap.size + 1 from by simp] at h
    exact h
  have hcl := ref_Plain13 ⟨2, pp, ps, pn, pf, pt, pl, pi⟩ sa sn sc ia im ic W0 (hp.below HB0.out) hbg
  rw [plainQ_is (p := ⟨2, pp, ps, pn, pf, pt, pl, pi⟩) rfl] at hcl
  have HCL : Hid (Calls Try.prog 4 #[Pc.val ⟨2, pp, ps, pn, pf, pt, pl, pi⟩ sa sn sc ia im ic] W0 fun e w' => Hid (PlainTold W0 w' ⟨2, pp, 0, 0, pf, pt, [], []⟩ e) ∧ Below W0.heap.size W0 w') := hcl
  have HEA : Hid (∀ x ∈ (⟨2, pp, 0, 0, pf, pt, [], []⟩ : Pc).items, ((-9223372036854775808 : Int) ≤ x.tick ∧ x.tick ≤ 9223372036854775807) ∧ (0 ≤ x.for_ ∧ x.for_ ≤ 4294967295)) := fun x hx => by cases hx
  clear hcl hp hbg hq
  obtain ⟨C, HCX⟩ : ∃ C, Hid (C = chk ⟨2, pp, 0, 0, pf, pt, [], []⟩) := ⟨_, rfl⟩
  have HCY : Hid (chk ⟨2, pp, qs, qn, pf, pt, ql, qi⟩ = C) := by show _ = _; rw [HCX.out]; rfl
  obtain ⟨D, HDX⟩ : ∃ D, Hid (D = putD ⟨2, pp, 0, 0, pf, pt, [], []⟩) := ⟨_, rfl⟩
  have HDY : Hid (putD ⟨2, pp, qs, qn, pf, pt, ql, qi⟩ = D) := by show _ = _; rw [HDX.out, putD, putD, HCY.out, ← HCX.out]; rfl
  go_enter Try.func3, Try.ntmps3
  go_wp2_with fail
  rw [← HW0.out]
  refine HCL.out.mono ?_
  rintro e w1 ⟨ht, hb1⟩
  obtain ⟨xa, xn, xc, ya, ym, yc, he, hx⟩ := ht.out.rd HEA.out
  unfold Pc.val at he
  simp only at he
  subst he
  have HB1 : Hid (Below w.heap.size w w1) := HB0.out.trans (hb1.mono HB0.out.size)
  have hq1 : Bk w1 (w.heap.size + 1) #[.int .i64 qk, .int .i64 qp, .int .i64 qs, .int .i64 qn, .int .i64 qf, .int .i64 qt, .slice ta tn tc, .slice ja jm jc] 26 := HQ0.out.stay hb1
  obtain ⟨w2, HW2⟩ : ∃ w2, Hid (w2 = (w1.alloc (.cells #[.int .i64 2, .int .i64 pp, .int .i64 0, .int .i64 0, .int .i64 pf, .int .i64 pt, .slice xa xn xc, .slice ya ym yc] 26)).alloc (.cells #[.int .i64 2, .int .i64 pp, .int .i64 0, .int .i64 0, .int .i64 pf, .int .i64 pt, .slice xa xn xc, .slice ya ym yc] 26)) := ⟨_, rfl⟩
  have HB12 : Hid (Below w1.heap.size w1 w2) := by rw [HW2.out]; exact (below_new w1 _).alloc (by simp) _
  have HQ2 : Hid (Bk w2 (w.heap.size + 1) #[.int .i64 qk, .int .i64 qp, .int .i64 qs, .int .i64 qn, .int .i64 qf, .int .i64 qt, .slice ta tn tc, .slice ja jm jc] 26) := hq1.stay HB12.out
  have HX2 : Hid (Bk w2 w1.heap.size #[.int .i64 2, .int .i64 pp, .int .i64 0, .int .i64 0, .int .i64 pf, .int .i64 pt, .slice xa xn xc, .slice ya ym yc] 26) := by rw [HW2.out]; exact (Bk.new w1 _ _).stay (below_new _ _)
  have HY2 : Hid (Bk w2 (w1.heap.size + 1) #[.int .i64 2, .int .i64 pp, .int .i64 0, .int .i64 0, .int .i64 pf, .int .i64 pt, .slice xa xn xc, .slice ya ym yc] 26) := by
    rw [HW2.out]
    have h := Bk.new (w1.alloc (.cells #[.int .i64 2, .int .i64 pp, .int .i64 0, .int .i64 0, .int .i64 pf, .int .i64 pt, .slice xa xn xc, .slice ya ym yc] 26)) #[.int .i64 2, .int .i64 pp, .int .i64 0, .int .i64 0, .int .i64 pf, .int .i64 pt, .slice xa xn xc, .slice ya ym yc] 26
    rw [show (w1.alloc (.cells #[.int .i64 2, .int .i64 pp, .int .i64 0, .int .i64 0, .int .i64 pf, .int .i64 pt, .slice xa xn xc, .slice ya ym yc] 26)).heap.size = w1.heap.size + 1 from by simp] at h
    exact h
  have HXR : Hid (PcRd w1 ⟨2, pp, 0, 0, pf, pt, [], []⟩ xa xn xc ya ym yc) := hx
  have HB2 : Hid (Below w.heap.size w w2) := HB1.out.trans (HB12.out.mono HB1.out.size)
  have hqy : w.heap.size + 1 ≠ w1.heap.size + 1 := by have h1 := hq1.lt; have h2 := HB0.out.size; omega
  have hxy : w1.heap.size ≠ w1.heap.size + 1 := by omega
  clear ht hb1 hx hq1 HQ0 HCL HB0
  have e0 : w2.cell? ⟨w.heap.size + 1, 0, none⟩ = some (.int .i64 qk) := HQ2.out.cell 0 rfl
  have e1 : w2.cell? ⟨w.heap.size + 1, 1, none⟩ = some (.int .i64 qp) := HQ2.out.cell 1 rfl
  have e2 : w2.cell? ⟨w.heap.size + 1, 2, none⟩ = some (.int .i64 qs) := HQ2.out.cell 2 rfl
  have e3 : w2.cell? ⟨w.heap.size + 1, 3, none⟩ = some (.int .i64 qn) := HQ2.out.cell 3 rfl
  have e4 : w2.cell? ⟨w.heap.size + 1, 4, none⟩ = some (.int .i64 qf) := HQ2.out.cell 4 rfl
  have e5 : w2.cell? ⟨w.heap.size + 1, 5, none⟩ = some (.int .i64 qt) := HQ2.out.cell 5 rfl
  have e6 : w2.cell? ⟨w.heap.size + 1, 6, none⟩ = some (.slice ta tn tc) := HQ2.out.cell 6 rfl
  have e7 : w2.cell? ⟨w.heap.size + 1, 7, none⟩ = some (.slice ja jm jc) := HQ2.out.cell 7 rfl
  have x0 : w2.cell? ⟨w1.heap.size, 0, none⟩ = some (.int .i64 2) := HX2.out.cell 0 rfl
  have x1 : w2.cell? ⟨w1.heap.size, 1, none⟩ = some (.int .i64 pp) := HX2.out.cell 1 rfl
  have x2 : w2.cell? ⟨w1.heap.size, 2, none⟩ = some (.int .i64 0) := HX2.out.cell 2 rfl
  have x3 : w2.cell? ⟨w1.heap.size, 3, none⟩ = some (.int .i64 0) := HX2.out.cell 3 rfl
  have x4 : w2.cell? ⟨w1.heap.size, 4, none⟩ = some (.int .i64 pf) := HX2.out.cell 4 rfl
  have x5 : w2.cell? ⟨w1.heap.size, 5, none⟩ = some (.int .i64 pt) := HX2.out.cell 5 rfl
  have x6 : w2.cell? ⟨w1.heap.size, 6, none⟩ = some (.slice xa xn xc) := HX2.out.cell 6 rfl
  have x7 : w2.cell? ⟨w1.heap.size, 7, none⟩ = some (.slice ya ym yc) := HX2.out.cell 7 rfl
  have y0 : w2.cell? ⟨w1.heap.size + 1, 0, none⟩ = some (.int .i64 2) := HY2.out.cell 0 rfl
  have y1 : w2.cell? ⟨w1.heap.size + 1, 1, none⟩ = some (.int .i64 pp) := HY2.out.cell 1 rfl
  have y2 : w2.cell? ⟨w1.heap.size + 1, 2, none⟩ = some (.int .i64 0) := HY2.out.cell 2 rfl
  have y3 : w2.cell? ⟨w1.heap.size + 1, 3, none⟩ = some (.int .i64 0) := HY2.out.cell 3 rfl
  have y4 : w2.cell? ⟨w1.heap.size + 1, 4, none⟩ = some (.int .i64 pf) := HY2.out.cell 4 rfl
  have y5 : w2.cell? ⟨w1.heap.size + 1, 5, none⟩ = some (.int .i64 pt) := HY2.out.cell 5 rfl
  have y6 : w2.cell? ⟨w1.heap.size + 1, 6, none⟩ = some (.slice xa xn xc) := HY2.out.cell 6 rfl
  have y7 : w2.cell? ⟨w1.heap.size + 1, 7, none⟩ = some (.slice ya ym yc) := HY2.out.cell 7 rfl
  have fy : ∀ i, w2.frozen? ⟨w1.heap.size + 1, i, none⟩ = false := fun i => HY2.out.free i
  obtain ⟨w3, HW3⟩ : ∃ w3, Hid (w3 = ((((w2.setCell ⟨w1.heap.size + 1, 6, none⟩ (.slice ta tn tc)).setCell ⟨w1.heap.size + 1, 7, none⟩ (.slice ja jm jc)).setCell ⟨w1.heap.size + 1, 2, none⟩ (.int .i64 qs)).setCell ⟨w1.heap.size + 1, 3, none⟩ (.int .i64 qn)).drew.drew) := ⟨_, rfl⟩
  have HY3 : Hid (Bk w3 (w1.heap.size + 1) #[.int .i64 2, .int .i64 pp, .int .i64 qs, .int .i64 qn, .int .i64 pf, .int .i64 pt, .slice ta tn tc, .slice ja jm jc] 26) := by
    rw [HW3.out]
    have s0 : Bk (w2.setCell ⟨w1.heap.size + 1, 6, none⟩ (.slice ta tn tc)) (w1.heap.size + 1) #[.int .i64 2, .int .i64 pp, .int .i64 0, .int .i64 0, .int .i64 pf, .int .i64 pt, .slice ta tn tc, .slice ya ym yc] 26 := bk_step HY2.out 6 _ rfl
    have s1 : Bk ((w2.setCell ⟨w1.heap.size + 1, 6, none⟩ (.slice ta tn tc)).setCell ⟨w1.heap.size + 1, 7, none⟩ (.slice ja jm jc)) (w1.heap.size + 1) #[.int .i64 2, .int .i64 pp, .int .i64 0, .int .i64 0, .int .i64 pf, .int .i64 pt, .slice ta tn tc, .slice ja jm jc] 26 := bk_step s0 7 _ rfl
    have s2 : Bk (((w2.setCell ⟨w1.heap.size + 1, 6, none⟩ (.slice ta tn tc)).setCell ⟨w1.heap.size + 1, 7, none⟩ (.slice ja jm jc)).setCell ⟨w1.heap.size + 1, 2, none⟩ (.int .i64 qs)) (w1.heap.size + 1) #[.int .i64 2, .int .i64 pp, .int .i64 qs, .int .i64 0, .int .i64 pf, .int .i64 pt, .slice ta tn tc, .slice ja jm jc] 26 := bk_step s1 2 _ rfl
    have s3 : Bk ((((w2.setCell ⟨w1.heap.size + 1, 6, none⟩ (.slice ta tn tc)).setCell ⟨w1.heap.size + 1, 7, none⟩ (.slice ja jm jc)).setCell ⟨w1.heap.size + 1, 2, none⟩ (.int .i64 qs)).setCell ⟨w1.heap.size + 1, 3, none⟩ (.int .i64 qn)) (w1.heap.size + 1) #[.int .i64 2, .int .i64 pp, .int .i64 qs, .int .i64 qn, .int .i64 pf, .int .i64 pt, .slice ta tn tc, .slice ja jm jc] 26 := bk_step s2 3 _ rfl
    exact s3
  have HX3 : Hid (Bk w3 w1.heap.size #[.int .i64 2, .int .i64 pp, .int .i64 0, .int .i64 0, .int .i64 pf, .int .i64 pt, .slice xa xn xc, .slice ya ym yc] 26) := by rw [HW3.out]; exact ((((HX2.out.other _ _ (by show w1.heap.size ≠ w1.heap.size + 1; omega)).other _ _ (by show w1.heap.size ≠ w1.heap.size + 1; omega)).other _ _ (by show w1.heap.size ≠ w1.heap.size + 1; omega)).other _ _ (by show w1.heap.size ≠ w1.heap.size + 1; omega))
  have HB13 : Hid (Below w1.heap.size w1 w3) := by rw [HW3.out]; exact (below_drew (below_drew ((((HB12.out.setCell (by show w1.heap.size ≤ w1.heap.size + 1; omega) _).setCell (by show w1.heap.size ≤ w1.heap.size + 1; omega) _).setCell (by show w1.heap.size ≤ w1.heap.size + 1; omega) _).setCell (by show w1.heap.size ≤ w1.heap.size + 1; omega) _)))
  have HB3 : Hid (Below w.heap.size w w3) := HB1.out.trans (HB13.out.mono HB1.out.size)
  have HXR3 : Hid (PcRd w3 ⟨2, pp, 0, 0, pf, pt, [], []⟩ xa xn xc ya ym yc) := HXR.out.below HB13.out
  have HYR3 : Hid (PcRd w3 ⟨2, pp, qs, qn, pf, pt, ql, qi⟩ ta tn tc ja jm jc) := by
    have h := HQW.out.below HB3.out
    exact ⟨h.spans, h.items, h.sl, h.sm, h.il, h.im_⟩
  have HCXP : Hid (∀ w', Below w3.heap.size w3 w' → Calls Try.prog 5 #[.agg #[.int .i64 2, .int .i64 pp, .int .i64 0, .int .i64 0, .int .i64 pf, .int .i64 pt, .slice xa xn xc, .slice ya ym yc]] w' fun e w'' => (∃ b m c, e = .returned (.tuple #[.slice b m c, .int .i64 C]) ∧ Own w'' w'.heap.size b m c D) ∧ Below w'.heap.size w' w'') := by
    intro w' hb
    have h := pc_Put ⟨2, pp, 0, 0, pf, pt, [], []⟩ xa xn xc ya ym yc w' (HXR3.out.below hb)
    unfold PutTold at h
    rw [← HCX.out, ← HDX.out] at h
    exact h
  have HCYP : Hid (∀ w', Below w3.heap.size w3 w' → Calls Try.prog 5 #[.agg #[.int .i64 2, .int .i64 pp, .int .i64 qs, .int .i64 qn, .int .i64 pf, .int .i64 pt, .slice ta tn tc, .slice ja jm jc]] w' fun e w'' => (∃ b m c, e = .returned (.tuple #[.slice b m c, .int .i64 C]) ∧ Own w'' w'.heap.size b m c D) ∧ Below w'.heap.size w' w'') := by
    intro w' hb
    have h := pc_Put ⟨2, pp, qs, qn, pf, pt, ql, qi⟩ ta tn tc ja jm jc w' (HYR3.out.below hb)
    unfold PutTold at h
    rw [HCY.out, HDY.out] at h
    exact h
  have HCXC : Hid (∀ w', Below w3.heap.size w3 w' → Calls Try.prog 7 #[.agg #[.int .i64 2, .int .i64 pp, .int .i64 0, .int .i64 0, .int .i64 pf, .int .i64 pt, .slice xa xn xc, .slice ya ym yc]] w' fun e w'' => e = .returned (.int .i64 C) ∧ Below w'.heap.size w' w'') := by
    intro w' hb
    have h := pc_Check ⟨2, pp, 0, 0, pf, pt, [], []⟩ xa xn xc ya ym yc w' (HXR3.out.below hb)
    rw [← HCX.out] at h
    exact h
  have HCYC : Hid (∀ w', Below w3.heap.size w3 w' → Calls Try.prog 7 #[.agg #[.int .i64 2, .int .i64 pp, .int .i64 qs, .int .i64 qn, .int .i64 pf, .int .i64 pt, .slice ta tn tc, .slice ja jm jc]] w' fun e w'' => e = .returned (.int .i64 C) ∧ Below w'.heap.size w' w'') := by
    intro w' hb
    have h := pc_Check ⟨2, pp, qs, qn, pf, pt, ql, qi⟩ ta tn tc ja jm jc w' (HYR3.out.below hb)
    rw [HCY.out] at h
    exact h
  have HCC : Hid (∀ w', Below w3.heap.size w3 w' → ∀ v, v = Value.agg #[.int .i64 2, .int .i64 pp, .int .i64 0, .int .i64 0, .int .i64 pf, .int .i64 pt, .slice xa xn xc, .slice ya ym yc] ∨ v = Value.agg #[.int .i64 2, .int .i64 pp, .int .i64 qs, .int .i64 qn, .int .i64 pf, .int .i64 pt, .slice ta tn tc, .slice ja jm jc] → Calls Try.prog 7 #[v] w' fun e w'' => e = .returned (.int .i64 C) ∧ Below w'.heap.size w' w'') := by
    intro w' hb v hv
    rcases hv with rfl | rfl
    · exact HCXC.out w' hb
    · exact HCYC.out w' hb
  clear HCXC HCYC
  have HSK : Hid (∀ w', Below w3.heap.size w3 w' → w'.cell? ⟨w1.heap.size, 0, none⟩ = some (.int .i64 2) ∧ w'.cell? ⟨w1.heap.size, 1, none⟩ = some (.int .i64 pp) ∧ w'.cell? ⟨w1.heap.size, 2, none⟩ = some (.int .i64 0) ∧ w'.cell? ⟨w1.heap.size, 3, none⟩ = some (.int .i64 0) ∧ w'.cell? ⟨w1.heap.size, 4, none⟩ = some (.int .i64 pf) ∧ w'.cell? ⟨w1.heap.size, 5, none⟩ = some (.int .i64 pt) ∧ w'.cell? ⟨w1.heap.size, 6, none⟩ = some (.slice xa xn xc) ∧ w'.cell? ⟨w1.heap.size, 7, none⟩ = some (.slice ya ym yc) ∧ w'.cell? ⟨w1.heap.size + 1, 0, none⟩ = some (.int .i64 2) ∧ w'.cell? ⟨w1.heap.size + 1, 1, none⟩ = some (.int .i64 pp) ∧ w'.cell? ⟨w1.heap.size + 1, 2, none⟩ = some (.int .i64 qs) ∧ w'.cell? ⟨w1.heap.size + 1, 3, none⟩ = some (.int .i64 qn) ∧ w'.cell? ⟨w1.heap.size + 1, 4, none⟩ = some (.int .i64 pf) ∧ w'.cell? ⟨w1.heap.size + 1, 5, none⟩ = some (.int .i64 pt) ∧ w'.cell? ⟨w1.heap.size + 1, 6, none⟩ = some (.slice ta tn tc) ∧ w'.cell? ⟨w1.heap.size + 1, 7, none⟩ = some (.slice ja jm jc)) := by
    intro w' hb
    have k := HX3.out.stay hb
    have l := HY3.out.stay hb
    exact ⟨k.cell 0 rfl, k.cell 1 rfl, k.cell 2 rfl, k.cell 3 rfl, k.cell 4 rfl, k.cell 5 rfl, k.cell 6 rfl, k.cell 7 rfl, l.cell 0 rfl, l.cell 1 rfl, l.cell 2 rfl, l.cell 3 rfl, l.cell 4 rfl, l.cell 5 rfl, l.cell 6 rfl, l.cell 7 rfl⟩
  clear HQW HXR HXR3 HYR3 HCX HCY HDX HDY HQ2 HX2 HY2 HX3 HY3 HB12 HB2 HEA
  go_wp2
  rw [← HW2.out]
  go_region
  go_wp2
  go_region
  go_wp2_with fail
  rw [← HW3.out]
  refine (HCXP.out _ (Below.refl _ _)).mono ?_
  rintro e w4 ⟨⟨b4, m4, c4, he, ho4⟩, hb4⟩
  subst he
  have HO4 : Hid (Rd w4 b4 m4 D) := ho4.rd
  have HB34 : Hid (Below w3.heap.size w3 w4) := hb4
  clear ho4 hb4 x0 y0 e0 x1 y1 e1 x2 y2 e2 x3 y3 e3 x4 y4 e4 x5 y5 e5 x6 y6 e6 x7 y7 e7
  obtain ⟨g0, g1, g2, g3, g4, g5, g6, g7, g8, g9, g10, g11, g12, g13, g14, g15⟩ := HSK.out _ HB34.out
  go_wp2_with fail
  refine (HCYP.out _ HB34.out).mono ?_
  rintro e w5 ⟨⟨b5, m5, c5, he, ho5⟩, hb5⟩
  subst he
  have HO5 : Hid (Rd w5 b5 m5 D) := ho5.rd
  have HO45 : Hid (Rd w5 b4 m4 D) := HO4.out.below hb5
  have HB : Hid (Below w3.heap.size w3 w5.drew) := below_drew (HB34.out.trans (hb5.mono HB34.out.size))
  have HB5 : Hid (Below w3.heap.size w3 w5) := HB34.out.trans (hb5.mono HB34.out.size)
  clear ho5 hb5 HO4 g0 g1 g2 g3 g4 g5 g6 g7 g8 g9 g10 g11 g12 g13 g14 g15
  obtain ⟨S, HSS⟩ : ∃ S, Hid (S = str D) := ⟨_, rfl⟩
  have x4 : ∀ w', Below w5.heap.size w5 w' → (convert 28 9 (.slice b4 m4 c4)).run Try.prog w' = .ok (.string S) w' := fun w' h => by rw [conv_rd (HO45.out.below h) c4, HSS.out]
  have x5 : ∀ w', Below w5.heap.size w5 w' → (convert 28 9 (.slice b5 m5 c5)).run Try.prog w' = .ok (.string S) w' := fun w' h => by rw [conv_rd (HO5.out.below h) c5, HSS.out]
  have HX45 : Hid (∀ w', Below w5.heap.size w5 w' → (convert 28 9 (.slice b4 m4 c4)).run Try.prog w' = .ok (.string S) w') := x4
  have HX5 : Hid (∀ w', Below w5.heap.size w5 w' → (convert 28 9 (.slice b5 m5 c5)).run Try.prog w' = .ok (.string S) w') := x5
  have HBZ : Hid (Below w5.heap.size w5 w5.drew) := below_drew (Below.refl _ _)
  clear x4 x5
  go_wp2
  have HSL : Hid (∀ w', Below w3.heap.size w3 w' → Below w5.heap.size w5 w' → w'.cell? ⟨w1.heap.size, 0, none⟩ = some (.int .i64 2) ∧ w'.cell? ⟨w1.heap.size, 1, none⟩ = some (.int .i64 pp) ∧ w'.cell? ⟨w1.heap.size, 2, none⟩ = some (.int .i64 0) ∧ w'.cell? ⟨w1.heap.size, 3, none⟩ = some (.int .i64 0) ∧ w'.cell? ⟨w1.heap.size, 4, none⟩ = some (.int .i64 pf) ∧ w'.cell? ⟨w1.heap.size, 5, none⟩ = some (.int .i64 pt) ∧ w'.cell? ⟨w1.heap.size, 6, none⟩ = some (.slice xa xn xc) ∧ w'.cell? ⟨w1.heap.size, 7, none⟩ = some (.slice ya ym yc) ∧ w'.cell? ⟨w1.heap.size + 1, 0, none⟩ = some (.int .i64 2) ∧ w'.cell? ⟨w1.heap.size + 1, 1, none⟩ = some (.int .i64 pp) ∧ w'.cell? ⟨w1.heap.size + 1, 2, none⟩ = some (.int .i64 qs) ∧ w'.cell? ⟨w1.heap.size + 1, 3, none⟩ = some (.int .i64 qn) ∧ w'.cell? ⟨w1.heap.size + 1, 4, none⟩ = some (.int .i64 pf) ∧ w'.cell? ⟨w1.heap.size + 1, 5, none⟩ = some (.int .i64 pt) ∧ w'.cell? ⟨w1.heap.size + 1, 6, none⟩ = some (.slice ta tn tc) ∧ w'.cell? ⟨w1.heap.size + 1, 7, none⟩ = some (.slice ja jm jc) ∧ (convert 28 9 (.slice b4 m4 c4)).run Try.prog w' = .ok (.string S) w' ∧ (convert 28 9 (.slice b5 m5 c5)).run Try.prog w' = .ok (.string S) w') := fun w' h h' => by obtain ⟨g0, g1, g2, g3, g4, g5, g6, g7, g8, g9, g10, g11, g12, g13, g14, g15⟩ := HSK.out w' h; exact ⟨g0, g1, g2, g3, g4, g5, g6, g7, g8, g9, g10, g11, g12, g13, g14, g15, HX45.out w' h', HX5.out w' h'⟩
  clear HSK HX45 HX5 HO45 HO5 HSS HB34 HCXP HCYP HW2 HW3 HW0 hqy hxy fy
  go_region_held3 (fun w' => w'.cell? ⟨w1.heap.size, 0, none⟩ = some (.int .i64 2) ∧ w'.cell? ⟨w1.heap.size, 1, none⟩ = some (.int .i64 pp) ∧ w'.cell? ⟨w1.heap.size, 2, none⟩ = some (.int .i64 0) ∧ w'.cell? ⟨w1.heap.size, 3, none⟩ = some (.int .i64 0) ∧ w'.cell? ⟨w1.heap.size, 4, none⟩ = some (.int .i64 pf) ∧ w'.cell? ⟨w1.heap.size, 5, none⟩ = some (.int .i64 pt) ∧ w'.cell? ⟨w1.heap.size, 6, none⟩ = some (.slice xa xn xc) ∧ w'.cell? ⟨w1.heap.size, 7, none⟩ = some (.slice ya ym yc) ∧ w'.cell? ⟨w1.heap.size + 1, 0, none⟩ = some (.int .i64 2) ∧ w'.cell? ⟨w1.heap.size + 1, 1, none⟩ = some (.int .i64 pp) ∧ w'.cell? ⟨w1.heap.size + 1, 2, none⟩ = some (.int .i64 qs) ∧ w'.cell? ⟨w1.heap.size + 1, 3, none⟩ = some (.int .i64 qn) ∧ w'.cell? ⟨w1.heap.size + 1, 4, none⟩ = some (.int .i64 pf) ∧ w'.cell? ⟨w1.heap.size + 1, 5, none⟩ = some (.int .i64 pt) ∧ w'.cell? ⟨w1.heap.size + 1, 6, none⟩ = some (.slice ta tn tc) ∧ w'.cell? ⟨w1.heap.size + 1, 7, none⟩ = some (.slice ja jm jc) ∧ (convert 28 9 (.slice b4 m4 c4)).run Try.prog w' = .ok (.string S) w' ∧ (convert 28 9 (.slice b5 m5 c5)).run Try.prog w' = .ok (.string S) w') (first | with_reducible exact HSL.out _ HB.out HBZ.out | with_reducible exact HSL.out _ HB5.out (Below.refl _ _) | fail)
    (first
      | (go_at_call 6; refine (law_live13 _).mono ?_; rintro e w6 ⟨rfl, hb6⟩; have HB' : Hid (Below w3.heap.size w3 w6) := HB.out.trans (hb6.mono HB.out.size); have HZ' : Hid (Below w5.heap.size w5 w6) := HBZ.out.trans (hb6.mono HBZ.out.size); clear hb6 HB HBZ; have HB := HB'; have HBZ := HZ'; clear HB' HZ')
      | (go_at_call 7; refine (HCC.out _ HB.out _ (by first | exact Or.inl rfl | exact Or.inr rfl)).mono ?_; rintro e w7 ⟨rfl, hb7⟩; have HB' : Hid (Below w3.heap.size w3 w7) := HB.out.trans (hb7.mono HB.out.size); have HZ' : Hid (Below w5.heap.size w5 w7) := HBZ.out.trans (hb7.mono HBZ.out.size); clear hb7 HB HBZ; have HB := HB'; have HBZ := HZ'; clear HB' HZ'))
  all_goals (
    go_wp2
    go_ret
    exact ⟨by simp, HB3.out.trans (HB.out.mono HB3.out.size)⟩ )

set_option maxRecDepth 100000 in
set_option maxHeartbeats 4000000 in
theorem walk_3 (pp ps pn pf pt : Int) (pl : List Sp) (pi : List It) (sa : Option Addr) (sn sc : Nat) (ia : Option Addr) (im ic : Nat) (qk qp qs qn qf qt : Int) (ql : List Sp) (qi : List It) (ta : Option Addr) (tn tc : Nat) (ja : Option Addr) (jm jc : Nat) (w : World) (hp : PcRd w ⟨3, pp, ps, pn, pf, pt, pl, pi⟩ sa sn sc ia im ic) (hbg : PcBig ⟨3, pp, ps, pn, pf, pt, pl, pi⟩ sa sc ia ic) (hq : PcRd w ⟨qk, qp, qs, qn, qf, qt, ql, qi⟩ ta tn tc ja jm jc) :
    Calls Try.prog 3 #[Pc.val ⟨3, pp, ps, pn, pf, pt, pl, pi⟩ sa sn sc ia im ic, Pc.val ⟨qk, qp, qs, qn, qf, qt, ql, qi⟩ ta tn tc ja jm jc] w fun e w' => e = .returned (.bool true) ∧ Below w.heap.size w w' := by
  have HQW : Hid (PcRd w ⟨qk, qp, qs, qn, qf, qt, ql, qi⟩ ta tn tc ja jm jc) := hq
  obtain ⟨W0, HW0⟩ : ∃ W0, Hid (W0 = ((w.alloc (.cells #[.int .i64 3, .int .i64 pp, .int .i64 ps, .int .i64 pn, .int .i64 pf, .int .i64 pt, .slice sa sn sc, .slice ia im ic] 26)).alloc (.cells #[.int .i64 qk, .int .i64 qp, .int .i64 qs, .int .i64 qn, .int .i64 qf, .int .i64 qt, .slice ta tn tc, .slice ja jm jc] 26))) := ⟨_, rfl⟩
  have HB0 : Hid (Below w.heap.size w W0) := by rw [HW0.out]; exact (below_new w _).alloc (by simp) _
  have HQ0 : Hid (Bk W0 (w.heap.size + 1) #[.int .i64 qk, .int .i64 qp, .int .i64 qs, .int .i64 qn, .int .i64 qf, .int .i64 qt, .slice ta tn tc, .slice ja jm jc] 26) := by
    rw [HW0.out]
    have h := Bk.new (w.alloc (.cells #[.int .i64 3, .int .i64 pp, .int .i64 ps, .int .i64 pn, .int .i64 pf, .int .i64 pt, .slice sa sn sc, .slice ia im ic] 26)) #[.int .i64 qk, .int .i64 qp, .int .i64 qs, .int .i64 qn, .int .i64 qf, .int .i64 qt, .slice ta tn tc, .slice ja jm jc] 26
    rw [show (w.alloc (.cells #[.int .i64 3, .int .i64 pp, .int .i64 ps, .int .i64 pn, .int .i64 pf, .int .i64 pt, .slice sa sn sc, .slice ia im ic] 26)).heap.size = w.heap.size + 1 from by simp] at h
    exact h
  have hcl := ref_Plain13 ⟨3, pp, ps, pn, pf, pt, pl, pi⟩ sa sn sc ia im ic W0 (hp.below HB0.out) hbg
  rw [plainQ_is (p := ⟨3, pp, ps, pn, pf, pt, pl, pi⟩) rfl] at hcl
  have HCL : Hid (Calls Try.prog 4 #[Pc.val ⟨3, pp, ps, pn, pf, pt, pl, pi⟩ sa sn sc ia im ic] W0 fun e w' => Hid (PlainTold W0 w' ⟨3, pp, ps, pn, pf, 0, [], []⟩ e) ∧ Below W0.heap.size W0 w') := hcl
  have HEA : Hid (∀ x ∈ (⟨3, pp, ps, pn, pf, 0, [], []⟩ : Pc).items, ((-9223372036854775808 : Int) ≤ x.tick ∧ x.tick ≤ 9223372036854775807) ∧ (0 ≤ x.for_ ∧ x.for_ ≤ 4294967295)) := fun x hx => by cases hx
  clear hcl hp hbg hq
  obtain ⟨C, HCX⟩ : ∃ C, Hid (C = chk ⟨3, pp, ps, pn, pf, 0, [], []⟩) := ⟨_, rfl⟩
  have HCY : Hid (chk ⟨3, pp, ps, pn, pf, qt, ql, qi⟩ = C) := by show _ = _; rw [HCX.out]; rfl
  obtain ⟨D, HDX⟩ : ∃ D, Hid (D = putD ⟨3, pp, ps, pn, pf, 0, [], []⟩) := ⟨_, rfl⟩
  have HDY : Hid (putD ⟨3, pp, ps, pn, pf, qt, ql, qi⟩ = D) := by show _ = _; rw [HDX.out, putD, putD, HCY.out, ← HCX.out]; rfl
  go_enter Try.func3, Try.ntmps3
  go_wp2_with fail
  rw [← HW0.out]
  refine HCL.out.mono ?_
  rintro e w1 ⟨ht, hb1⟩
  obtain ⟨xa, xn, xc, ya, ym, yc, he, hx⟩ := ht.out.rd HEA.out
  unfold Pc.val at he
  simp only at he
  subst he
  have HB1 : Hid (Below w.heap.size w w1) := HB0.out.trans (hb1.mono HB0.out.size)
  have hq1 : Bk w1 (w.heap.size + 1) #[.int .i64 qk, .int .i64 qp, .int .i64 qs, .int .i64 qn, .int .i64 qf, .int .i64 qt, .slice ta tn tc, .slice ja jm jc] 26 := HQ0.out.stay hb1
  obtain ⟨w2, HW2⟩ : ∃ w2, Hid (w2 = (w1.alloc (.cells #[.int .i64 3, .int .i64 pp, .int .i64 ps, .int .i64 pn, .int .i64 pf, .int .i64 0, .slice xa xn xc, .slice ya ym yc] 26)).alloc (.cells #[.int .i64 3, .int .i64 pp, .int .i64 ps, .int .i64 pn, .int .i64 pf, .int .i64 0, .slice xa xn xc, .slice ya ym yc] 26)) := ⟨_, rfl⟩
  have HB12 : Hid (Below w1.heap.size w1 w2) := by rw [HW2.out]; exact (below_new w1 _).alloc (by simp) _
  have HQ2 : Hid (Bk w2 (w.heap.size + 1) #[.int .i64 qk, .int .i64 qp, .int .i64 qs, .int .i64 qn, .int .i64 qf, .int .i64 qt, .slice ta tn tc, .slice ja jm jc] 26) := hq1.stay HB12.out
  have HX2 : Hid (Bk w2 w1.heap.size #[.int .i64 3, .int .i64 pp, .int .i64 ps, .int .i64 pn, .int .i64 pf, .int .i64 0, .slice xa xn xc, .slice ya ym yc] 26) := by rw [HW2.out]; exact (Bk.new w1 _ _).stay (below_new _ _)
  have HY2 : Hid (Bk w2 (w1.heap.size + 1) #[.int .i64 3, .int .i64 pp, .int .i64 ps, .int .i64 pn, .int .i64 pf, .int .i64 0, .slice xa xn xc, .slice ya ym yc] 26) := by
    rw [HW2.out]
    have h := Bk.new (w1.alloc (.cells #[.int .i64 3, .int .i64 pp, .int .i64 ps, .int .i64 pn, .int .i64 pf, .int .i64 0, .slice xa xn xc, .slice ya ym yc] 26)) #[.int .i64 3, .int .i64 pp, .int .i64 ps, .int .i64 pn, .int .i64 pf, .int .i64 0, .slice xa xn xc, .slice ya ym yc] 26
    rw [show (w1.alloc (.cells #[.int .i64 3, .int .i64 pp, .int .i64 ps, .int .i64 pn, .int .i64 pf, .int .i64 0, .slice xa xn xc, .slice ya ym yc] 26)).heap.size = w1.heap.size + 1 from by simp] at h
    exact h
  have HXR : Hid (PcRd w1 ⟨3, pp, ps, pn, pf, 0, [], []⟩ xa xn xc ya ym yc) := hx
  have HB2 : Hid (Below w.heap.size w w2) := HB1.out.trans (HB12.out.mono HB1.out.size)
  have hqy : w.heap.size + 1 ≠ w1.heap.size + 1 := by have h1 := hq1.lt; have h2 := HB0.out.size; omega
  have hxy : w1.heap.size ≠ w1.heap.size + 1 := by omega
  clear ht hb1 hx hq1 HQ0 HCL HB0
  have e0 : w2.cell? ⟨w.heap.size + 1, 0, none⟩ = some (.int .i64 qk) := HQ2.out.cell 0 rfl
  have e1 : w2.cell? ⟨w.heap.size + 1, 1, none⟩ = some (.int .i64 qp) := HQ2.out.cell 1 rfl
  have e2 : w2.cell? ⟨w.heap.size + 1, 2, none⟩ = some (.int .i64 qs) := HQ2.out.cell 2 rfl
  have e3 : w2.cell? ⟨w.heap.size + 1, 3, none⟩ = some (.int .i64 qn) := HQ2.out.cell 3 rfl
  have e4 : w2.cell? ⟨w.heap.size + 1, 4, none⟩ = some (.int .i64 qf) := HQ2.out.cell 4 rfl
  have e5 : w2.cell? ⟨w.heap.size + 1, 5, none⟩ = some (.int .i64 qt) := HQ2.out.cell 5 rfl
  have e6 : w2.cell? ⟨w.heap.size + 1, 6, none⟩ = some (.slice ta tn tc) := HQ2.out.cell 6 rfl
  have e7 : w2.cell? ⟨w.heap.size + 1, 7, none⟩ = some (.slice ja jm jc) := HQ2.out.cell 7 rfl
  have x0 : w2.cell? ⟨w1.heap.size, 0, none⟩ = some (.int .i64 3) := HX2.out.cell 0 rfl
  have x1 : w2.cell? ⟨w1.heap.size, 1, none⟩ = some (.int .i64 pp) := HX2.out.cell 1 rfl
  have x2 : w2.cell? ⟨w1.heap.size, 2, none⟩ = some (.int .i64 ps) := HX2.out.cell 2 rfl
  have x3 : w2.cell? ⟨w1.heap.size, 3, none⟩ = some (.int .i64 pn) := HX2.out.cell 3 rfl
  have x4 : w2.cell? ⟨w1.heap.size, 4, none⟩ = some (.int .i64 pf) := HX2.out.cell 4 rfl
  have x5 : w2.cell? ⟨w1.heap.size, 5, none⟩ = some (.int .i64 0) := HX2.out.cell 5 rfl
  have x6 : w2.cell? ⟨w1.heap.size, 6, none⟩ = some (.slice xa xn xc) := HX2.out.cell 6 rfl
  have x7 : w2.cell? ⟨w1.heap.size, 7, none⟩ = some (.slice ya ym yc) := HX2.out.cell 7 rfl
  have y0 : w2.cell? ⟨w1.heap.size + 1, 0, none⟩ = some (.int .i64 3) := HY2.out.cell 0 rfl
  have y1 : w2.cell? ⟨w1.heap.size + 1, 1, none⟩ = some (.int .i64 pp) := HY2.out.cell 1 rfl
  have y2 : w2.cell? ⟨w1.heap.size + 1, 2, none⟩ = some (.int .i64 ps) := HY2.out.cell 2 rfl
  have y3 : w2.cell? ⟨w1.heap.size + 1, 3, none⟩ = some (.int .i64 pn) := HY2.out.cell 3 rfl
  have y4 : w2.cell? ⟨w1.heap.size + 1, 4, none⟩ = some (.int .i64 pf) := HY2.out.cell 4 rfl
  have y5 : w2.cell? ⟨w1.heap.size + 1, 5, none⟩ = some (.int .i64 0) := HY2.out.cell 5 rfl
  have y6 : w2.cell? ⟨w1.heap.size + 1, 6, none⟩ = some (.slice xa xn xc) := HY2.out.cell 6 rfl
  have y7 : w2.cell? ⟨w1.heap.size + 1, 7, none⟩ = some (.slice ya ym yc) := HY2.out.cell 7 rfl
  have fy : ∀ i, w2.frozen? ⟨w1.heap.size + 1, i, none⟩ = false := fun i => HY2.out.free i
  obtain ⟨w3, HW3⟩ : ∃ w3, Hid (w3 = (((w2.setCell ⟨w1.heap.size + 1, 6, none⟩ (.slice ta tn tc)).setCell ⟨w1.heap.size + 1, 7, none⟩ (.slice ja jm jc)).setCell ⟨w1.heap.size + 1, 5, none⟩ (.int .i64 qt)).drew) := ⟨_, rfl⟩
  have HY3 : Hid (Bk w3 (w1.heap.size + 1) #[.int .i64 3, .int .i64 pp, .int .i64 ps, .int .i64 pn, .int .i64 pf, .int .i64 qt, .slice ta tn tc, .slice ja jm jc] 26) := by
    rw [HW3.out]
    have s0 : Bk (w2.setCell ⟨w1.heap.size + 1, 6, none⟩ (.slice ta tn tc)) (w1.heap.size + 1) #[.int .i64 3, .int .i64 pp, .int .i64 ps, .int .i64 pn, .int .i64 pf, .int .i64 0, .slice ta tn tc, .slice ya ym yc] 26 := bk_step HY2.out 6 _ rfl
    have s1 : Bk ((w2.setCell ⟨w1.heap.size + 1, 6, none⟩ (.slice ta tn tc)).setCell ⟨w1.heap.size + 1, 7, none⟩ (.slice ja jm jc)) (w1.heap.size + 1) #[.int .i64 3, .int .i64 pp, .int .i64 ps, .int .i64 pn, .int .i64 pf, .int .i64 0, .slice ta tn tc, .slice ja jm jc] 26 := bk_step s0 7 _ rfl
    have s2 : Bk (((w2.setCell ⟨w1.heap.size + 1, 6, none⟩ (.slice ta tn tc)).setCell ⟨w1.heap.size + 1, 7, none⟩ (.slice ja jm jc)).setCell ⟨w1.heap.size + 1, 5, none⟩ (.int .i64 qt)) (w1.heap.size + 1) #[.int .i64 3, .int .i64 pp, .int .i64 ps, .int .i64 pn, .int .i64 pf, .int .i64 qt, .slice ta tn tc, .slice ja jm jc] 26 := bk_step s1 5 _ rfl
    exact s2
  have HX3 : Hid (Bk w3 w1.heap.size #[.int .i64 3, .int .i64 pp, .int .i64 ps, .int .i64 pn, .int .i64 pf, .int .i64 0, .slice xa xn xc, .slice ya ym yc] 26) := by rw [HW3.out]; exact (((HX2.out.other _ _ (by show w1.heap.size ≠ w1.heap.size + 1; omega)).other _ _ (by show w1.heap.size ≠ w1.heap.size + 1; omega)).other _ _ (by show w1.heap.size ≠ w1.heap.size + 1; omega))
  have HB13 : Hid (Below w1.heap.size w1 w3) := by rw [HW3.out]; exact (below_drew (((HB12.out.setCell (by show w1.heap.size ≤ w1.heap.size + 1; omega) _).setCell (by show w1.heap.size ≤ w1.heap.size + 1; omega) _).setCell (by show w1.heap.size ≤ w1.heap.size + 1; omega) _))
  have HB3 : Hid (Below w.heap.size w w3) := HB1.out.trans (HB13.out.mono HB1.out.size)
  have HXR3 : Hid (PcRd w3 ⟨3, pp, ps, pn, pf, 0, [], []⟩ xa xn xc ya ym yc) := HXR.out.below HB13.out
  have HYR3 : Hid (PcRd w3 ⟨3, pp, ps, pn, pf, qt, ql, qi⟩ ta tn tc ja jm jc) := by
    have h := HQW.out.below HB3.out
    exact ⟨h.spans, h.items, h.sl, h.sm, h.il, h.im_⟩
  have HCXP : Hid (∀ w', Below w3.heap.size w3 w' → Calls Try.prog 5 #[.agg #[.int .i64 3, .int .i64 pp, .int .i64 ps, .int .i64 pn, .int .i64 pf, .int .i64 0, .slice xa xn xc, .slice ya ym yc]] w' fun e w'' => (∃ b m c, e = .returned (.tuple #[.slice b m c, .int .i64 C]) ∧ Own w'' w'.heap.size b m c D) ∧ Below w'.heap.size w' w'') := by
    intro w' hb
    have h := pc_Put ⟨3, pp, ps, pn, pf, 0, [], []⟩ xa xn xc ya ym yc w' (HXR3.out.below hb)
    unfold PutTold at h
    rw [← HCX.out, ← HDX.out] at h
    exact h
  have HCYP : Hid (∀ w', Below w3.heap.size w3 w' → Calls Try.prog 5 #[.agg #[.int .i64 3, .int .i64 pp, .int .i64 ps, .int .i64 pn, .int .i64 pf, .int .i64 qt, .slice ta tn tc, .slice ja jm jc]] w' fun e w'' => (∃ b m c, e = .returned (.tuple #[.slice b m c, .int .i64 C]) ∧ Own w'' w'.heap.size b m c D) ∧ Below w'.heap.size w' w'') := by
    intro w' hb
    have h := pc_Put ⟨3, pp, ps, pn, pf, qt, ql, qi⟩ ta tn tc ja jm jc w' (HYR3.out.below hb)
    unfold PutTold at h
    rw [HCY.out, HDY.out] at h
    exact h
  have HCXC : Hid (∀ w', Below w3.heap.size w3 w' → Calls Try.prog 7 #[.agg #[.int .i64 3, .int .i64 pp, .int .i64 ps, .int .i64 pn, .int .i64 pf, .int .i64 0, .slice xa xn xc, .slice ya ym yc]] w' fun e w'' => e = .returned (.int .i64 C) ∧ Below w'.heap.size w' w'') := by
    intro w' hb
    have h := pc_Check ⟨3, pp, ps, pn, pf, 0, [], []⟩ xa xn xc ya ym yc w' (HXR3.out.below hb)
    rw [← HCX.out] at h
    exact h
  have HCYC : Hid (∀ w', Below w3.heap.size w3 w' → Calls Try.prog 7 #[.agg #[.int .i64 3, .int .i64 pp, .int .i64 ps, .int .i64 pn, .int .i64 pf, .int .i64 qt, .slice ta tn tc, .slice ja jm jc]] w' fun e w'' => e = .returned (.int .i64 C) ∧ Below w'.heap.size w' w'') := by
    intro w' hb
    have h := pc_Check ⟨3, pp, ps, pn, pf, qt, ql, qi⟩ ta tn tc ja jm jc w' (HYR3.out.below hb)
    rw [HCY.out] at h
    exact h
  have HCC : Hid (∀ w', Below w3.heap.size w3 w' → ∀ v, v = Value.agg #[.int .i64 3, .int .i64 pp, .int .i64 ps, .int .i64 pn, .int .i64 pf, .int .i64 0, .slice xa xn xc, .slice ya ym yc] ∨ v = Value.agg #[.int .i64 3, .int .i64 pp, .int .i64 ps, .int .i64 pn, .int .i64 pf, .int .i64 qt, .slice ta tn tc, .slice ja jm jc] → Calls Try.prog 7 #[v] w' fun e w'' => e = .returned (.int .i64 C) ∧ Below w'.heap.size w' w'') := by
    intro w' hb v hv
    rcases hv with rfl | rfl
    · exact HCXC.out w' hb
    · exact HCYC.out w' hb
  clear HCXC HCYC
  have HSK : Hid (∀ w', Below w3.heap.size w3 w' → w'.cell? ⟨w1.heap.size, 0, none⟩ = some (.int .i64 3) ∧ w'.cell? ⟨w1.heap.size, 1, none⟩ = some (.int .i64 pp) ∧ w'.cell? ⟨w1.heap.size, 2, none⟩ = some (.int .i64 ps) ∧ w'.cell? ⟨w1.heap.size, 3, none⟩ = some (.int .i64 pn) ∧ w'.cell? ⟨w1.heap.size, 4, none⟩ = some (.int .i64 pf) ∧ w'.cell? ⟨w1.heap.size, 5, none⟩ = some (.int .i64 0) ∧ w'.cell? ⟨w1.heap.size, 6, none⟩ = some (.slice xa xn xc) ∧ w'.cell? ⟨w1.heap.size, 7, none⟩ = some (.slice ya ym yc) ∧ w'.cell? ⟨w1.heap.size + 1, 0, none⟩ = some (.int .i64 3) ∧ w'.cell? ⟨w1.heap.size + 1, 1, none⟩ = some (.int .i64 pp) ∧ w'.cell? ⟨w1.heap.size + 1, 2, none⟩ = some (.int .i64 ps) ∧ w'.cell? ⟨w1.heap.size + 1, 3, none⟩ = some (.int .i64 pn) ∧ w'.cell? ⟨w1.heap.size + 1, 4, none⟩ = some (.int .i64 pf) ∧ w'.cell? ⟨w1.heap.size + 1, 5, none⟩ = some (.int .i64 qt) ∧ w'.cell? ⟨w1.heap.size + 1, 6, none⟩ = some (.slice ta tn tc) ∧ w'.cell? ⟨w1.heap.size + 1, 7, none⟩ = some (.slice ja jm jc)) := by
    intro w' hb
    have k := HX3.out.stay hb
    have l := HY3.out.stay hb
    exact ⟨k.cell 0 rfl, k.cell 1 rfl, k.cell 2 rfl, k.cell 3 rfl, k.cell 4 rfl, k.cell 5 rfl, k.cell 6 rfl, k.cell 7 rfl, l.cell 0 rfl, l.cell 1 rfl, l.cell 2 rfl, l.cell 3 rfl, l.cell 4 rfl, l.cell 5 rfl, l.cell 6 rfl, l.cell 7 rfl⟩
  clear HQW HXR HXR3 HYR3 HCX HCY HDX HDY HQ2 HX2 HY2 HX3 HY3 HB12 HB2 HEA
  go_wp2
  rw [← HW2.out]
  go_region
  go_wp2_with fail
  rw [← HW3.out]
  refine (HCXP.out _ (Below.refl _ _)).mono ?_
  rintro e w4 ⟨⟨b4, m4, c4, he, ho4⟩, hb4⟩
  subst he
  have HO4 : Hid (Rd w4 b4 m4 D) := ho4.rd
  have HB34 : Hid (Below w3.heap.size w3 w4) := hb4
  clear ho4 hb4 x0 y0 e0 x1 y1 e1 x2 y2 e2 x3 y3 e3 x4 y4 e4 x5 y5 e5 x6 y6 e6 x7 y7 e7
  obtain ⟨g0, g1, g2, g3, g4, g5, g6, g7, g8, g9, g10, g11, g12, g13, g14, g15⟩ := HSK.out _ HB34.out
  go_wp2_with fail
  refine (HCYP.out _ HB34.out).mono ?_
  rintro e w5 ⟨⟨b5, m5, c5, he, ho5⟩, hb5⟩
  subst he
  have HO5 : Hid (Rd w5 b5 m5 D) := ho5.rd
  have HO45 : Hid (Rd w5 b4 m4 D) := HO4.out.below hb5
  have HB : Hid (Below w3.heap.size w3 w5.drew) := below_drew (HB34.out.trans (hb5.mono HB34.out.size))
  have HB5 : Hid (Below w3.heap.size w3 w5) := HB34.out.trans (hb5.mono HB34.out.size)
  clear ho5 hb5 HO4 g0 g1 g2 g3 g4 g5 g6 g7 g8 g9 g10 g11 g12 g13 g14 g15
  obtain ⟨S, HSS⟩ : ∃ S, Hid (S = str D) := ⟨_, rfl⟩
  have x4 : ∀ w', Below w5.heap.size w5 w' → (convert 28 9 (.slice b4 m4 c4)).run Try.prog w' = .ok (.string S) w' := fun w' h => by rw [conv_rd (HO45.out.below h) c4, HSS.out]
  have x5 : ∀ w', Below w5.heap.size w5 w' → (convert 28 9 (.slice b5 m5 c5)).run Try.prog w' = .ok (.string S) w' := fun w' h => by rw [conv_rd (HO5.out.below h) c5, HSS.out]
  have HX45 : Hid (∀ w', Below w5.heap.size w5 w' → (convert 28 9 (.slice b4 m4 c4)).run Try.prog w' = .ok (.string S) w') := x4
  have HX5 : Hid (∀ w', Below w5.heap.size w5 w' → (convert 28 9 (.slice b5 m5 c5)).run Try.prog w' = .ok (.string S) w') := x5
  have HBZ : Hid (Below w5.heap.size w5 w5.drew) := below_drew (Below.refl _ _)
  clear x4 x5
  go_wp2
  have HSL : Hid (∀ w', Below w3.heap.size w3 w' → Below w5.heap.size w5 w' → w'.cell? ⟨w1.heap.size, 0, none⟩ = some (.int .i64 3) ∧ w'.cell? ⟨w1.heap.size, 1, none⟩ = some (.int .i64 pp) ∧ w'.cell? ⟨w1.heap.size, 2, none⟩ = some (.int .i64 ps) ∧ w'.cell? ⟨w1.heap.size, 3, none⟩ = some (.int .i64 pn) ∧ w'.cell? ⟨w1.heap.size, 4, none⟩ = some (.int .i64 pf) ∧ w'.cell? ⟨w1.heap.size, 5, none⟩ = some (.int .i64 0) ∧ w'.cell? ⟨w1.heap.size, 6, none⟩ = some (.slice xa xn xc) ∧ w'.cell? ⟨w1.heap.size, 7, none⟩ = some (.slice ya ym yc) ∧ w'.cell? ⟨w1.heap.size + 1, 0, none⟩ = some (.int .i64 3) ∧ w'.cell? ⟨w1.heap.size + 1, 1, none⟩ = some (.int .i64 pp) ∧ w'.cell? ⟨w1.heap.size + 1, 2, none⟩ = some (.int .i64 ps) ∧ w'.cell? ⟨w1.heap.size + 1, 3, none⟩ = some (.int .i64 pn) ∧ w'.cell? ⟨w1.heap.size + 1, 4, none⟩ = some (.int .i64 pf) ∧ w'.cell? ⟨w1.heap.size + 1, 5, none⟩ = some (.int .i64 qt) ∧ w'.cell? ⟨w1.heap.size + 1, 6, none⟩ = some (.slice ta tn tc) ∧ w'.cell? ⟨w1.heap.size + 1, 7, none⟩ = some (.slice ja jm jc) ∧ (convert 28 9 (.slice b4 m4 c4)).run Try.prog w' = .ok (.string S) w' ∧ (convert 28 9 (.slice b5 m5 c5)).run Try.prog w' = .ok (.string S) w') := fun w' h h' => by obtain ⟨g0, g1, g2, g3, g4, g5, g6, g7, g8, g9, g10, g11, g12, g13, g14, g15⟩ := HSK.out w' h; exact ⟨g0, g1, g2, g3, g4, g5, g6, g7, g8, g9, g10, g11, g12, g13, g14, g15, HX45.out w' h', HX5.out w' h'⟩
  clear HSK HX45 HX5 HO45 HO5 HSS HB34 HCXP HCYP HW2 HW3 HW0 hqy hxy fy
  go_region_held3 (fun w' => w'.cell? ⟨w1.heap.size, 0, none⟩ = some (.int .i64 3) ∧ w'.cell? ⟨w1.heap.size, 1, none⟩ = some (.int .i64 pp) ∧ w'.cell? ⟨w1.heap.size, 2, none⟩ = some (.int .i64 ps) ∧ w'.cell? ⟨w1.heap.size, 3, none⟩ = some (.int .i64 pn) ∧ w'.cell? ⟨w1.heap.size, 4, none⟩ = some (.int .i64 pf) ∧ w'.cell? ⟨w1.heap.size, 5, none⟩ = some (.int .i64 0) ∧ w'.cell? ⟨w1.heap.size, 6, none⟩ = some (.slice xa xn xc) ∧ w'.cell? ⟨w1.heap.size, 7, none⟩ = some (.slice ya ym yc) ∧ w'.cell? ⟨w1.heap.size + 1, 0, none⟩ = some (.int .i64 3) ∧ w'.cell? ⟨w1.heap.size + 1, 1, none⟩ = some (.int .i64 pp) ∧ w'.cell? ⟨w1.heap.size + 1, 2, none⟩ = some (.int .i64 ps) ∧ w'.cell? ⟨w1.heap.size + 1, 3, none⟩ = some (.int .i64 pn) ∧ w'.cell? ⟨w1.heap.size + 1, 4, none⟩ = some (.int .i64 pf) ∧ w'.cell? ⟨w1.heap.size + 1, 5, none⟩ = some (.int .i64 qt) ∧ w'.cell? ⟨w1.heap.size + 1, 6, none⟩ = some (.slice ta tn tc) ∧ w'.cell? ⟨w1.heap.size + 1, 7, none⟩ = some (.slice ja jm jc) ∧ (convert 28 9 (.slice b4 m4 c4)).run Try.prog w' = .ok (.string S) w' ∧ (convert 28 9 (.slice b5 m5 c5)).run Try.prog w' = .ok (.string S) w') (first | with_reducible exact HSL.out _ HB.out HBZ.out | with_reducible exact HSL.out _ HB5.out (Below.refl _ _) | fail)
    (first
      | (go_at_call 6; refine (law_live13 _).mono ?_; rintro e w6 ⟨rfl, hb6⟩; have HB' : Hid (Below w3.heap.size w3 w6) := HB.out.trans (hb6.mono HB.out.size); have HZ' : Hid (Below w5.heap.size w5 w6) := HBZ.out.trans (hb6.mono HBZ.out.size); clear hb6 HB HBZ; have HB := HB'; have HBZ := HZ'; clear HB' HZ')
      | (go_at_call 7; refine (HCC.out _ HB.out _ (by first | exact Or.inl rfl | exact Or.inr rfl)).mono ?_; rintro e w7 ⟨rfl, hb7⟩; have HB' : Hid (Below w3.heap.size w3 w7) := HB.out.trans (hb7.mono HB.out.size); have HZ' : Hid (Below w5.heap.size w5 w7) := HBZ.out.trans (hb7.mono HBZ.out.size); clear hb7 HB HBZ; have HB := HB'; have HBZ := HZ'; clear HB' HZ'))
  all_goals (
    go_wp2
    go_ret
    exact ⟨by simp, HB3.out.trans (HB.out.mono HB3.out.size)⟩ )

set_option maxRecDepth 100000 in
set_option maxHeartbeats 4000000 in
theorem walk_4 (pp ps pn pf pt : Int) (pl : List Sp) (pi : List It) (sa : Option Addr) (sn sc : Nat) (ia : Option Addr) (im ic : Nat) (qk qp qs qn qf qt : Int) (ql : List Sp) (qi : List It) (ta : Option Addr) (tn tc : Nat) (ja : Option Addr) (jm jc : Nat) (w : World) (hp : PcRd w ⟨4, pp, ps, pn, pf, pt, pl, pi⟩ sa sn sc ia im ic) (hbg : PcBig ⟨4, pp, ps, pn, pf, pt, pl, pi⟩ sa sc ia ic) (hq : PcRd w ⟨qk, qp, qs, qn, qf, qt, ql, qi⟩ ta tn tc ja jm jc) :
    Calls Try.prog 3 #[Pc.val ⟨4, pp, ps, pn, pf, pt, pl, pi⟩ sa sn sc ia im ic, Pc.val ⟨qk, qp, qs, qn, qf, qt, ql, qi⟩ ta tn tc ja jm jc] w fun e w' => e = .returned (.bool true) ∧ Below w.heap.size w w' := by
  have HQW : Hid (PcRd w ⟨qk, qp, qs, qn, qf, qt, ql, qi⟩ ta tn tc ja jm jc) := hq
  obtain ⟨W0, HW0⟩ : ∃ W0, Hid (W0 = ((w.alloc (.cells #[.int .i64 4, .int .i64 pp, .int .i64 ps, .int .i64 pn, .int .i64 pf, .int .i64 pt, .slice sa sn sc, .slice ia im ic] 26)).alloc (.cells #[.int .i64 qk, .int .i64 qp, .int .i64 qs, .int .i64 qn, .int .i64 qf, .int .i64 qt, .slice ta tn tc, .slice ja jm jc] 26))) := ⟨_, rfl⟩
  have HB0 : Hid (Below w.heap.size w W0) := by rw [HW0.out]; exact (below_new w _).alloc (by simp) _
  have HQ0 : Hid (Bk W0 (w.heap.size + 1) #[.int .i64 qk, .int .i64 qp, .int .i64 qs, .int .i64 qn, .int .i64 qf, .int .i64 qt, .slice ta tn tc, .slice ja jm jc] 26) := by
    rw [HW0.out]
    have h := Bk.new (w.alloc (.cells #[.int .i64 4, .int .i64 pp, .int .i64 ps, .int .i64 pn, .int .i64 pf, .int .i64 pt, .slice sa sn sc, .slice ia im ic] 26)) #[.int .i64 qk, .int .i64 qp, .int .i64 qs, .int .i64 qn, .int .i64 qf, .int .i64 qt, .slice ta tn tc, .slice ja jm jc] 26
    rw [show (w.alloc (.cells #[.int .i64 4, .int .i64 pp, .int .i64 ps, .int .i64 pn, .int .i64 pf, .int .i64 pt, .slice sa sn sc, .slice ia im ic] 26)).heap.size = w.heap.size + 1 from by simp] at h
    exact h
  have hcl := ref_Plain13 ⟨4, pp, ps, pn, pf, pt, pl, pi⟩ sa sn sc ia im ic W0 (hp.below HB0.out) hbg
  rw [plainQ_is (p := ⟨4, pp, ps, pn, pf, pt, pl, pi⟩) rfl] at hcl
  have HCL : Hid (Calls Try.prog 4 #[Pc.val ⟨4, pp, ps, pn, pf, pt, pl, pi⟩ sa sn sc ia im ic] W0 fun e w' => Hid (PlainTold W0 w' ⟨4, pp, ps, pn, 0, 0, [], []⟩ e) ∧ Below W0.heap.size W0 w') := hcl
  have HEA : Hid (∀ x ∈ (⟨4, pp, ps, pn, 0, 0, [], []⟩ : Pc).items, ((-9223372036854775808 : Int) ≤ x.tick ∧ x.tick ≤ 9223372036854775807) ∧ (0 ≤ x.for_ ∧ x.for_ ≤ 4294967295)) := fun x hx => by cases hx
  clear hcl hp hbg hq
  obtain ⟨C, HCX⟩ : ∃ C, Hid (C = chk ⟨4, pp, ps, pn, 0, 0, [], []⟩) := ⟨_, rfl⟩
  have HCY : Hid (chk ⟨4, pp, ps, pn, qf, qt, ql, qi⟩ = C) := by show _ = _; rw [HCX.out]; rfl
  obtain ⟨D, HDX⟩ : ∃ D, Hid (D = putD ⟨4, pp, ps, pn, 0, 0, [], []⟩) := ⟨_, rfl⟩
  have HDY : Hid (putD ⟨4, pp, ps, pn, qf, qt, ql, qi⟩ = D) := by show _ = _; rw [HDX.out, putD, putD, HCY.out, ← HCX.out]; rfl
  go_enter Try.func3, Try.ntmps3
  go_wp2_with fail
  rw [← HW0.out]
  refine HCL.out.mono ?_
  rintro e w1 ⟨ht, hb1⟩
  obtain ⟨xa, xn, xc, ya, ym, yc, he, hx⟩ := ht.out.rd HEA.out
  unfold Pc.val at he
  simp only at he
  subst he
  have HB1 : Hid (Below w.heap.size w w1) := HB0.out.trans (hb1.mono HB0.out.size)
  have hq1 : Bk w1 (w.heap.size + 1) #[.int .i64 qk, .int .i64 qp, .int .i64 qs, .int .i64 qn, .int .i64 qf, .int .i64 qt, .slice ta tn tc, .slice ja jm jc] 26 := HQ0.out.stay hb1
  obtain ⟨w2, HW2⟩ : ∃ w2, Hid (w2 = (w1.alloc (.cells #[.int .i64 4, .int .i64 pp, .int .i64 ps, .int .i64 pn, .int .i64 0, .int .i64 0, .slice xa xn xc, .slice ya ym yc] 26)).alloc (.cells #[.int .i64 4, .int .i64 pp, .int .i64 ps, .int .i64 pn, .int .i64 0, .int .i64 0, .slice xa xn xc, .slice ya ym yc] 26)) := ⟨_, rfl⟩
  have HB12 : Hid (Below w1.heap.size w1 w2) := by rw [HW2.out]; exact (below_new w1 _).alloc (by simp) _
  have HQ2 : Hid (Bk w2 (w.heap.size + 1) #[.int .i64 qk, .int .i64 qp, .int .i64 qs, .int .i64 qn, .int .i64 qf, .int .i64 qt, .slice ta tn tc, .slice ja jm jc] 26) := hq1.stay HB12.out
  have HX2 : Hid (Bk w2 w1.heap.size #[.int .i64 4, .int .i64 pp, .int .i64 ps, .int .i64 pn, .int .i64 0, .int .i64 0, .slice xa xn xc, .slice ya ym yc] 26) := by rw [HW2.out]; exact (Bk.new w1 _ _).stay (below_new _ _)
  have HY2 : Hid (Bk w2 (w1.heap.size + 1) #[.int .i64 4, .int .i64 pp, .int .i64 ps, .int .i64 pn, .int .i64 0, .int .i64 0, .slice xa xn xc, .slice ya ym yc] 26) := by
    rw [HW2.out]
    have h := Bk.new (w1.alloc (.cells #[.int .i64 4, .int .i64 pp, .int .i64 ps, .int .i64 pn, .int .i64 0, .int .i64 0, .slice xa xn xc, .slice ya ym yc] 26)) #[.int .i64 4, .int .i64 pp, .int .i64 ps, .int .i64 pn, .int .i64 0, .int .i64 0, .slice xa xn xc, .slice ya ym yc] 26
    rw [show (w1.alloc (.cells #[.int .i64 4, .int .i64 pp, .int .i64 ps, .int .i64 pn, .int .i64 0, .int .i64 0, .slice xa xn xc, .slice ya ym yc] 26)).heap.size = w1.heap.size + 1 from by simp] at h
    exact h
  have HXR : Hid (PcRd w1 ⟨4, pp, ps, pn, 0, 0, [], []⟩ xa xn xc ya ym yc) := hx
  have HB2 : Hid (Below w.heap.size w w2) := HB1.out.trans (HB12.out.mono HB1.out.size)
  have hqy : w.heap.size + 1 ≠ w1.heap.size + 1 := by have h1 := hq1.lt; have h2 := HB0.out.size; omega
  have hxy : w1.heap.size ≠ w1.heap.size + 1 := by omega
  clear ht hb1 hx hq1 HQ0 HCL HB0
  have e0 : w2.cell? ⟨w.heap.size + 1, 0, none⟩ = some (.int .i64 qk) := HQ2.out.cell 0 rfl
  have e1 : w2.cell? ⟨w.heap.size + 1, 1, none⟩ = some (.int .i64 qp) := HQ2.out.cell 1 rfl
  have e2 : w2.cell? ⟨w.heap.size + 1, 2, none⟩ = some (.int .i64 qs) := HQ2.out.cell 2 rfl
  have e3 : w2.cell? ⟨w.heap.size + 1, 3, none⟩ = some (.int .i64 qn) := HQ2.out.cell 3 rfl
  have e4 : w2.cell? ⟨w.heap.size + 1, 4, none⟩ = some (.int .i64 qf) := HQ2.out.cell 4 rfl
  have e5 : w2.cell? ⟨w.heap.size + 1, 5, none⟩ = some (.int .i64 qt) := HQ2.out.cell 5 rfl
  have e6 : w2.cell? ⟨w.heap.size + 1, 6, none⟩ = some (.slice ta tn tc) := HQ2.out.cell 6 rfl
  have e7 : w2.cell? ⟨w.heap.size + 1, 7, none⟩ = some (.slice ja jm jc) := HQ2.out.cell 7 rfl
  have x0 : w2.cell? ⟨w1.heap.size, 0, none⟩ = some (.int .i64 4) := HX2.out.cell 0 rfl
  have x1 : w2.cell? ⟨w1.heap.size, 1, none⟩ = some (.int .i64 pp) := HX2.out.cell 1 rfl
  have x2 : w2.cell? ⟨w1.heap.size, 2, none⟩ = some (.int .i64 ps) := HX2.out.cell 2 rfl
  have x3 : w2.cell? ⟨w1.heap.size, 3, none⟩ = some (.int .i64 pn) := HX2.out.cell 3 rfl
  have x4 : w2.cell? ⟨w1.heap.size, 4, none⟩ = some (.int .i64 0) := HX2.out.cell 4 rfl
  have x5 : w2.cell? ⟨w1.heap.size, 5, none⟩ = some (.int .i64 0) := HX2.out.cell 5 rfl
  have x6 : w2.cell? ⟨w1.heap.size, 6, none⟩ = some (.slice xa xn xc) := HX2.out.cell 6 rfl
  have x7 : w2.cell? ⟨w1.heap.size, 7, none⟩ = some (.slice ya ym yc) := HX2.out.cell 7 rfl
  have y0 : w2.cell? ⟨w1.heap.size + 1, 0, none⟩ = some (.int .i64 4) := HY2.out.cell 0 rfl
  have y1 : w2.cell? ⟨w1.heap.size + 1, 1, none⟩ = some (.int .i64 pp) := HY2.out.cell 1 rfl
  have y2 : w2.cell? ⟨w1.heap.size + 1, 2, none⟩ = some (.int .i64 ps) := HY2.out.cell 2 rfl
  have y3 : w2.cell? ⟨w1.heap.size + 1, 3, none⟩ = some (.int .i64 pn) := HY2.out.cell 3 rfl
  have y4 : w2.cell? ⟨w1.heap.size + 1, 4, none⟩ = some (.int .i64 0) := HY2.out.cell 4 rfl
  have y5 : w2.cell? ⟨w1.heap.size + 1, 5, none⟩ = some (.int .i64 0) := HY2.out.cell 5 rfl
  have y6 : w2.cell? ⟨w1.heap.size + 1, 6, none⟩ = some (.slice xa xn xc) := HY2.out.cell 6 rfl
  have y7 : w2.cell? ⟨w1.heap.size + 1, 7, none⟩ = some (.slice ya ym yc) := HY2.out.cell 7 rfl
  have fy : ∀ i, w2.frozen? ⟨w1.heap.size + 1, i, none⟩ = false := fun i => HY2.out.free i
  obtain ⟨w3, HW3⟩ : ∃ w3, Hid (w3 = ((((w2.setCell ⟨w1.heap.size + 1, 6, none⟩ (.slice ta tn tc)).setCell ⟨w1.heap.size + 1, 7, none⟩ (.slice ja jm jc)).setCell ⟨w1.heap.size + 1, 5, none⟩ (.int .i64 qt)).setCell ⟨w1.heap.size + 1, 4, none⟩ (.int .i64 qf)).drew) := ⟨_, rfl⟩
  have HY3 : Hid (Bk w3 (w1.heap.size + 1) #[.int .i64 4, .int .i64 pp, .int .i64 ps, .int .i64 pn, .int .i64 qf, .int .i64 qt, .slice ta tn tc, .slice ja jm jc] 26) := by
    rw [HW3.out]
    have s0 : Bk (w2.setCell ⟨w1.heap.size + 1, 6, none⟩ (.slice ta tn tc)) (w1.heap.size + 1) #[.int .i64 4, .int .i64 pp, .int .i64 ps, .int .i64 pn, .int .i64 0, .int .i64 0, .slice ta tn tc, .slice ya ym yc] 26 := bk_step HY2.out 6 _ rfl
    have s1 : Bk ((w2.setCell ⟨w1.heap.size + 1, 6, none⟩ (.slice ta tn tc)).setCell ⟨w1.heap.size + 1, 7, none⟩ (.slice ja jm jc)) (w1.heap.size + 1) #[.int .i64 4, .int .i64 pp, .int .i64 ps, .int .i64 pn, .int .i64 0, .int .i64 0, .slice ta tn tc, .slice ja jm jc] 26 := bk_step s0 7 _ rfl
    have s2 : Bk (((w2.setCell ⟨w1.heap.size + 1, 6, none⟩ (.slice ta tn tc)).setCell ⟨w1.heap.size + 1, 7, none⟩ (.slice ja jm jc)).setCell ⟨w1.heap.size + 1, 5, none⟩ (.int .i64 qt)) (w1.heap.size + 1) #[.int .i64 4, .int .i64 pp, .int .i64 ps, .int .i64 pn, .int .i64 0, .int .i64 qt, .slice ta tn tc, .slice ja jm jc] 26 := bk_step s1 5 _ rfl
    have s3 : Bk ((((w2.setCell ⟨w1.heap.size + 1, 6, none⟩ (.slice ta tn tc)).setCell ⟨w1.heap.size + 1, 7, none⟩ (.slice ja jm jc)).setCell ⟨w1.heap.size + 1, 5, none⟩ (.int .i64 qt)).setCell ⟨w1.heap.size + 1, 4, none⟩ (.int .i64 qf)) (w1.heap.size + 1) #[.int .i64 4, .int .i64 pp, .int .i64 ps, .int .i64 pn, .int .i64 qf, .int .i64 qt, .slice ta tn tc, .slice ja jm jc] 26 := bk_step s2 4 _ rfl
    exact s3
  have HX3 : Hid (Bk w3 w1.heap.size #[.int .i64 4, .int .i64 pp, .int .i64 ps, .int .i64 pn, .int .i64 0, .int .i64 0, .slice xa xn xc, .slice ya ym yc] 26) := by rw [HW3.out]; exact ((((HX2.out.other _ _ (by show w1.heap.size ≠ w1.heap.size + 1; omega)).other _ _ (by show w1.heap.size ≠ w1.heap.size + 1; omega)).other _ _ (by show w1.heap.size ≠ w1.heap.size + 1; omega)).other _ _ (by show w1.heap.size ≠ w1.heap.size + 1; omega))
  have HB13 : Hid (Below w1.heap.size w1 w3) := by rw [HW3.out]; exact (below_drew ((((HB12.out.setCell (by show w1.heap.size ≤ w1.heap.size + 1; omega) _).setCell (by show w1.heap.size ≤ w1.heap.size + 1; omega) _).setCell (by show w1.heap.size ≤ w1.heap.size + 1; omega) _).setCell (by show w1.heap.size ≤ w1.heap.size + 1; omega) _))
  have HB3 : Hid (Below w.heap.size w w3) := HB1.out.trans (HB13.out.mono HB1.out.size)
  have HXR3 : Hid (PcRd w3 ⟨4, pp, ps, pn, 0, 0, [], []⟩ xa xn xc ya ym yc) := HXR.out.below HB13.out
  have HYR3 : Hid (PcRd w3 ⟨4, pp, ps, pn, qf, qt, ql, qi⟩ ta tn tc ja jm jc) := by
    have h := HQW.out.below HB3.out
    exact ⟨h.spans, h.items, h.sl, h.sm, h.il, h.im_⟩
  have HCXP : Hid (∀ w', Below w3.heap.size w3 w' → Calls Try.prog 5 #[.agg #[.int .i64 4, .int .i64 pp, .int .i64 ps, .int .i64 pn, .int .i64 0, .int .i64 0, .slice xa xn xc, .slice ya ym yc]] w' fun e w'' => (∃ b m c, e = .returned (.tuple #[.slice b m c, .int .i64 C]) ∧ Own w'' w'.heap.size b m c D) ∧ Below w'.heap.size w' w'') := by
    intro w' hb
    have h := pc_Put ⟨4, pp, ps, pn, 0, 0, [], []⟩ xa xn xc ya ym yc w' (HXR3.out.below hb)
    unfold PutTold at h
    rw [← HCX.out, ← HDX.out] at h
    exact h
  have HCYP : Hid (∀ w', Below w3.heap.size w3 w' → Calls Try.prog 5 #[.agg #[.int .i64 4, .int .i64 pp, .int .i64 ps, .int .i64 pn, .int .i64 qf, .int .i64 qt, .slice ta tn tc, .slice ja jm jc]] w' fun e w'' => (∃ b m c, e = .returned (.tuple #[.slice b m c, .int .i64 C]) ∧ Own w'' w'.heap.size b m c D) ∧ Below w'.heap.size w' w'') := by
    intro w' hb
    have h := pc_Put ⟨4, pp, ps, pn, qf, qt, ql, qi⟩ ta tn tc ja jm jc w' (HYR3.out.below hb)
    unfold PutTold at h
    rw [HCY.out, HDY.out] at h
    exact h
  have HCXC : Hid (∀ w', Below w3.heap.size w3 w' → Calls Try.prog 7 #[.agg #[.int .i64 4, .int .i64 pp, .int .i64 ps, .int .i64 pn, .int .i64 0, .int .i64 0, .slice xa xn xc, .slice ya ym yc]] w' fun e w'' => e = .returned (.int .i64 C) ∧ Below w'.heap.size w' w'') := by
    intro w' hb
    have h := pc_Check ⟨4, pp, ps, pn, 0, 0, [], []⟩ xa xn xc ya ym yc w' (HXR3.out.below hb)
    rw [← HCX.out] at h
    exact h
  have HCYC : Hid (∀ w', Below w3.heap.size w3 w' → Calls Try.prog 7 #[.agg #[.int .i64 4, .int .i64 pp, .int .i64 ps, .int .i64 pn, .int .i64 qf, .int .i64 qt, .slice ta tn tc, .slice ja jm jc]] w' fun e w'' => e = .returned (.int .i64 C) ∧ Below w'.heap.size w' w'') := by
    intro w' hb
    have h := pc_Check ⟨4, pp, ps, pn, qf, qt, ql, qi⟩ ta tn tc ja jm jc w' (HYR3.out.below hb)
    rw [HCY.out] at h
    exact h
  have HCC : Hid (∀ w', Below w3.heap.size w3 w' → ∀ v, v = Value.agg #[.int .i64 4, .int .i64 pp, .int .i64 ps, .int .i64 pn, .int .i64 0, .int .i64 0, .slice xa xn xc, .slice ya ym yc] ∨ v = Value.agg #[.int .i64 4, .int .i64 pp, .int .i64 ps, .int .i64 pn, .int .i64 qf, .int .i64 qt, .slice ta tn tc, .slice ja jm jc] → Calls Try.prog 7 #[v] w' fun e w'' => e = .returned (.int .i64 C) ∧ Below w'.heap.size w' w'') := by
    intro w' hb v hv
    rcases hv with rfl | rfl
    · exact HCXC.out w' hb
    · exact HCYC.out w' hb
  clear HCXC HCYC
  have HSK : Hid (∀ w', Below w3.heap.size w3 w' → w'.cell? ⟨w1.heap.size, 0, none⟩ = some (.int .i64 4) ∧ w'.cell? ⟨w1.heap.size, 1, none⟩ = some (.int .i64 pp) ∧ w'.cell? ⟨w1.heap.size, 2, none⟩ = some (.int .i64 ps) ∧ w'.cell? ⟨w1.heap.size, 3, none⟩ = some (.int .i64 pn) ∧ w'.cell? ⟨w1.heap.size, 4, none⟩ = some (.int .i64 0) ∧ w'.cell? ⟨w1.heap.size, 5, none⟩ = some (.int .i64 0) ∧ w'.cell? ⟨w1.heap.size, 6, none⟩ = some (.slice xa xn xc) ∧ w'.cell? ⟨w1.heap.size, 7, none⟩ = some (.slice ya ym yc) ∧ w'.cell? ⟨w1.heap.size + 1, 0, none⟩ = some (.int .i64 4) ∧ w'.cell? ⟨w1.heap.size + 1, 1, none⟩ = some (.int .i64 pp) ∧ w'.cell? ⟨w1.heap.size + 1, 2, none⟩ = some (.int .i64 ps) ∧ w'.cell? ⟨w1.heap.size + 1, 3, none⟩ = some (.int .i64 pn) ∧ w'.cell? ⟨w1.heap.size + 1, 4, none⟩ = some (.int .i64 qf) ∧ w'.cell? ⟨w1.heap.size + 1, 5, none⟩ = some (.int .i64 qt) ∧ w'.cell? ⟨w1.heap.size + 1, 6, none⟩ = some (.slice ta tn tc) ∧ w'.cell? ⟨w1.heap.size + 1, 7, none⟩ = some (.slice ja jm jc)) := by
    intro w' hb
    have k := HX3.out.stay hb
    have l := HY3.out.stay hb
    exact ⟨k.cell 0 rfl, k.cell 1 rfl, k.cell 2 rfl, k.cell 3 rfl, k.cell 4 rfl, k.cell 5 rfl, k.cell 6 rfl, k.cell 7 rfl, l.cell 0 rfl, l.cell 1 rfl, l.cell 2 rfl, l.cell 3 rfl, l.cell 4 rfl, l.cell 5 rfl, l.cell 6 rfl, l.cell 7 rfl⟩
  clear HQW HXR HXR3 HYR3 HCX HCY HDX HDY HQ2 HX2 HY2 HX3 HY3 HB12 HB2 HEA
  go_wp2
  rw [← HW2.out]
  go_region
  go_wp2_with fail
  rw [← HW3.out]
  refine (HCXP.out _ (Below.refl _ _)).mono ?_
  rintro e w4 ⟨⟨b4, m4, c4, he, ho4⟩, hb4⟩
  subst he
  have HO4 : Hid (Rd w4 b4 m4 D) := ho4.rd
  have HB34 : Hid (Below w3.heap.size w3 w4) := hb4
  clear ho4 hb4 x0 y0 e0 x1 y1 e1 x2 y2 e2 x3 y3 e3 x4 y4 e4 x5 y5 e5 x6 y6 e6 x7 y7 e7
  obtain ⟨g0, g1, g2, g3, g4, g5, g6, g7, g8, g9, g10, g11, g12, g13, g14, g15⟩ := HSK.out _ HB34.out
  go_wp2_with fail
  refine (HCYP.out _ HB34.out).mono ?_
  rintro e w5 ⟨⟨b5, m5, c5, he, ho5⟩, hb5⟩
  subst he
  have HO5 : Hid (Rd w5 b5 m5 D) := ho5.rd
  have HO45 : Hid (Rd w5 b4 m4 D) := HO4.out.below hb5
  have HB : Hid (Below w3.heap.size w3 w5.drew) := below_drew (HB34.out.trans (hb5.mono HB34.out.size))
  have HB5 : Hid (Below w3.heap.size w3 w5) := HB34.out.trans (hb5.mono HB34.out.size)
  clear ho5 hb5 HO4 g0 g1 g2 g3 g4 g5 g6 g7 g8 g9 g10 g11 g12 g13 g14 g15
  obtain ⟨S, HSS⟩ : ∃ S, Hid (S = str D) := ⟨_, rfl⟩
  have x4 : ∀ w', Below w5.heap.size w5 w' → (convert 28 9 (.slice b4 m4 c4)).run Try.prog w' = .ok (.string S) w' := fun w' h => by rw [conv_rd (HO45.out.below h) c4, HSS.out]
  have x5 : ∀ w', Below w5.heap.size w5 w' → (convert 28 9 (.slice b5 m5 c5)).run Try.prog w' = .ok (.string S) w' := fun w' h => by rw [conv_rd (HO5.out.below h) c5, HSS.out]
  have HX45 : Hid (∀ w', Below w5.heap.size w5 w' → (convert 28 9 (.slice b4 m4 c4)).run Try.prog w' = .ok (.string S) w') := x4
  have HX5 : Hid (∀ w', Below w5.heap.size w5 w' → (convert 28 9 (.slice b5 m5 c5)).run Try.prog w' = .ok (.string S) w') := x5
  have HBZ : Hid (Below w5.heap.size w5 w5.drew) := below_drew (Below.refl _ _)
  clear x4 x5
  go_wp2
  have HSL : Hid (∀ w', Below w3.heap.size w3 w' → Below w5.heap.size w5 w' → w'.cell? ⟨w1.heap.size, 0, none⟩ = some (.int .i64 4) ∧ w'.cell? ⟨w1.heap.size, 1, none⟩ = some (.int .i64 pp) ∧ w'.cell? ⟨w1.heap.size, 2, none⟩ = some (.int .i64 ps) ∧ w'.cell? ⟨w1.heap.size, 3, none⟩ = some (.int .i64 pn) ∧ w'.cell? ⟨w1.heap.size, 4, none⟩ = some (.int .i64 0) ∧ w'.cell? ⟨w1.heap.size, 5, none⟩ = some (.int .i64 0) ∧ w'.cell? ⟨w1.heap.size, 6, none⟩ = some (.slice xa xn xc) ∧ w'.cell? ⟨w1.heap.size, 7, none⟩ = some (.slice ya ym yc) ∧ w'.cell? ⟨w1.heap.size + 1, 0, none⟩ = some (.int .i64 4) ∧ w'.cell? ⟨w1.heap.size + 1, 1, none⟩ = some (.int .i64 pp) ∧ w'.cell? ⟨w1.heap.size + 1, 2, none⟩ = some (.int .i64 ps) ∧ w'.cell? ⟨w1.heap.size + 1, 3, none⟩ = some (.int .i64 pn) ∧ w'.cell? ⟨w1.heap.size + 1, 4, none⟩ = some (.int .i64 qf) ∧ w'.cell? ⟨w1.heap.size + 1, 5, none⟩ = some (.int .i64 qt) ∧ w'.cell? ⟨w1.heap.size + 1, 6, none⟩ = some (.slice ta tn tc) ∧ w'.cell? ⟨w1.heap.size + 1, 7, none⟩ = some (.slice ja jm jc) ∧ (convert 28 9 (.slice b4 m4 c4)).run Try.prog w' = .ok (.string S) w' ∧ (convert 28 9 (.slice b5 m5 c5)).run Try.prog w' = .ok (.string S) w') := fun w' h h' => by obtain ⟨g0, g1, g2, g3, g4, g5, g6, g7, g8, g9, g10, g11, g12, g13, g14, g15⟩ := HSK.out w' h; exact ⟨g0, g1, g2, g3, g4, g5, g6, g7, g8, g9, g10, g11, g12, g13, g14, g15, HX45.out w' h', HX5.out w' h'⟩
  clear HSK HX45 HX5 HO45 HO5 HSS HB34 HCXP HCYP HW2 HW3 HW0 hqy hxy fy
  go_region_held3 (fun w' => w'.cell? ⟨w1.heap.size, 0, none⟩ = some (.int .i64 4) ∧ w'.cell? ⟨w1.heap.size, 1, none⟩ = some (.int .i64 pp) ∧ w'.cell? ⟨w1.heap.size, 2, none⟩ = some (.int .i64 ps) ∧ w'.cell? ⟨w1.heap.size, 3, none⟩ = some (.int .i64 pn) ∧ w'.cell? ⟨w1.heap.size, 4, none⟩ = some (.int .i64 0) ∧ w'.cell? ⟨w1.heap.size, 5, none⟩ = some (.int .i64 0) ∧ w'.cell? ⟨w1.heap.size, 6, none⟩ = some (.slice xa xn xc) ∧ w'.cell? ⟨w1.heap.size, 7, none⟩ = some (.slice ya ym yc) ∧ w'.cell? ⟨w1.heap.size + 1, 0, none⟩ = some (.int .i64 4) ∧ w'.cell? ⟨w1.heap.size + 1, 1, none⟩ = some (.int .i64 pp) ∧ w'.cell? ⟨w1.heap.size + 1, 2, none⟩ = some (.int .i64 ps) ∧ w'.cell? ⟨w1.heap.size + 1, 3, none⟩ = some (.int .i64 pn) ∧ w'.cell? ⟨w1.heap.size + 1, 4, none⟩ = some (.int .i64 qf) ∧ w'.cell? ⟨w1.heap.size + 1, 5, none⟩ = some (.int .i64 qt) ∧ w'.cell? ⟨w1.heap.size + 1, 6, none⟩ = some (.slice ta tn tc) ∧ w'.cell? ⟨w1.heap.size + 1, 7, none⟩ = some (.slice ja jm jc) ∧ (convert 28 9 (.slice b4 m4 c4)).run Try.prog w' = .ok (.string S) w' ∧ (convert 28 9 (.slice b5 m5 c5)).run Try.prog w' = .ok (.string S) w') (first | with_reducible exact HSL.out _ HB.out HBZ.out | with_reducible exact HSL.out _ HB5.out (Below.refl _ _) | fail)
    (first
      | (go_at_call 6; refine (law_live13 _).mono ?_; rintro e w6 ⟨rfl, hb6⟩; have HB' : Hid (Below w3.heap.size w3 w6) := HB.out.trans (hb6.mono HB.out.size); have HZ' : Hid (Below w5.heap.size w5 w6) := HBZ.out.trans (hb6.mono HBZ.out.size); clear hb6 HB HBZ; have HB := HB'; have HBZ := HZ'; clear HB' HZ')
      | (go_at_call 7; refine (HCC.out _ HB.out _ (by first | exact Or.inl rfl | exact Or.inr rfl)).mono ?_; rintro e w7 ⟨rfl, hb7⟩; have HB' : Hid (Below w3.heap.size w3 w7) := HB.out.trans (hb7.mono HB.out.size); have HZ' : Hid (Below w5.heap.size w5 w7) := HBZ.out.trans (hb7.mono HBZ.out.size); clear hb7 HB HBZ; have HB := HB'; have HBZ := HZ'; clear HB' HZ'))
  all_goals (
    go_wp2
    go_ret
    exact ⟨by simp, HB3.out.trans (HB.out.mono HB3.out.size)⟩ )

set_option maxRecDepth 100000 in
set_option maxHeartbeats 4000000 in
theorem walk_5 (pp ps pn pf pt : Int) (pl : List Sp) (pi : List It) (sa : Option Addr) (sn sc : Nat) (ia : Option Addr) (im ic : Nat) (qk qp qs qn qf qt : Int) (ql : List Sp) (qi : List It) (ta : Option Addr) (tn tc : Nat) (ja : Option Addr) (jm jc : Nat) (w : World) (hp : PcRd w ⟨5, pp, ps, pn, pf, pt, pl, pi⟩ sa sn sc ia im ic) (hbg : PcBig ⟨5, pp, ps, pn, pf, pt, pl, pi⟩ sa sc ia ic) (hq : PcRd w ⟨qk, qp, qs, qn, qf, qt, ql, qi⟩ ta tn tc ja jm jc) :
    Calls Try.prog 3 #[Pc.val ⟨5, pp, ps, pn, pf, pt, pl, pi⟩ sa sn sc ia im ic, Pc.val ⟨qk, qp, qs, qn, qf, qt, ql, qi⟩ ta tn tc ja jm jc] w fun e w' => e = .returned (.bool true) ∧ Below w.heap.size w w' := by
  have HQW : Hid (PcRd w ⟨qk, qp, qs, qn, qf, qt, ql, qi⟩ ta tn tc ja jm jc) := hq
  obtain ⟨W0, HW0⟩ : ∃ W0, Hid (W0 = ((w.alloc (.cells #[.int .i64 5, .int .i64 pp, .int .i64 ps, .int .i64 pn, .int .i64 pf, .int .i64 pt, .slice sa sn sc, .slice ia im ic] 26)).alloc (.cells #[.int .i64 qk, .int .i64 qp, .int .i64 qs, .int .i64 qn, .int .i64 qf, .int .i64 qt, .slice ta tn tc, .slice ja jm jc] 26))) := ⟨_, rfl⟩
  have HB0 : Hid (Below w.heap.size w W0) := by rw [HW0.out]; exact (below_new w _).alloc (by simp) _
  have HQ0 : Hid (Bk W0 (w.heap.size + 1) #[.int .i64 qk, .int .i64 qp, .int .i64 qs, .int .i64 qn, .int .i64 qf, .int .i64 qt, .slice ta tn tc, .slice ja jm jc] 26) := by
    rw [HW0.out]
    have h := Bk.new (w.alloc (.cells #[.int .i64 5, .int .i64 pp, .int .i64 ps, .int .i64 pn, .int .i64 pf, .int .i64 pt, .slice sa sn sc, .slice ia im ic] 26)) #[.int .i64 qk, .int .i64 qp, .int .i64 qs, .int .i64 qn, .int .i64 qf, .int .i64 qt, .slice ta tn tc, .slice ja jm jc] 26
    rw [show (w.alloc (.cells #[.int .i64 5, .int .i64 pp, .int .i64 ps, .int .i64 pn, .int .i64 pf, .int .i64 pt, .slice sa sn sc, .slice ia im ic] 26)).heap.size = w.heap.size + 1 from by simp] at h
    exact h
  have hcl := ref_Plain13 ⟨5, pp, ps, pn, pf, pt, pl, pi⟩ sa sn sc ia im ic W0 (hp.below HB0.out) hbg
  rw [plainQ_is (p := ⟨5, pp, ps, pn, pf, pt, pl, pi⟩) rfl] at hcl
  have HCL : Hid (Calls Try.prog 4 #[Pc.val ⟨5, pp, ps, pn, pf, pt, pl, pi⟩ sa sn sc ia im ic] W0 fun e w' => Hid (PlainTold W0 w' ⟨5, pp, ps, pn, pf, 0, [], []⟩ e) ∧ Below W0.heap.size W0 w') := hcl
  have HEA : Hid (∀ x ∈ (⟨5, pp, ps, pn, pf, 0, [], []⟩ : Pc).items, ((-9223372036854775808 : Int) ≤ x.tick ∧ x.tick ≤ 9223372036854775807) ∧ (0 ≤ x.for_ ∧ x.for_ ≤ 4294967295)) := fun x hx => by cases hx
  clear hcl hp hbg hq
  obtain ⟨C, HCX⟩ : ∃ C, Hid (C = chk ⟨5, pp, ps, pn, pf, 0, [], []⟩) := ⟨_, rfl⟩
  have HCY : Hid (chk ⟨5, pp, ps, pn, pf, qt, ql, qi⟩ = C) := by show _ = _; rw [HCX.out]; rfl
  obtain ⟨D, HDX⟩ : ∃ D, Hid (D = putD ⟨5, pp, ps, pn, pf, 0, [], []⟩) := ⟨_, rfl⟩
  have HDY : Hid (putD ⟨5, pp, ps, pn, pf, qt, ql, qi⟩ = D) := by show _ = _; rw [HDX.out, putD, putD, HCY.out, ← HCX.out]; rfl
  go_enter Try.func3, Try.ntmps3
  go_wp2_with fail
  rw [← HW0.out]
  refine HCL.out.mono ?_
  rintro e w1 ⟨ht, hb1⟩
  obtain ⟨xa, xn, xc, ya, ym, yc, he, hx⟩ := ht.out.rd HEA.out
  unfold Pc.val at he
  simp only at he
  subst he
  have HB1 : Hid (Below w.heap.size w w1) := HB0.out.trans (hb1.mono HB0.out.size)
  have hq1 : Bk w1 (w.heap.size + 1) #[.int .i64 qk, .int .i64 qp, .int .i64 qs, .int .i64 qn, .int .i64 qf, .int .i64 qt, .slice ta tn tc, .slice ja jm jc] 26 := HQ0.out.stay hb1
  obtain ⟨w2, HW2⟩ : ∃ w2, Hid (w2 = (w1.alloc (.cells #[.int .i64 5, .int .i64 pp, .int .i64 ps, .int .i64 pn, .int .i64 pf, .int .i64 0, .slice xa xn xc, .slice ya ym yc] 26)).alloc (.cells #[.int .i64 5, .int .i64 pp, .int .i64 ps, .int .i64 pn, .int .i64 pf, .int .i64 0, .slice xa xn xc, .slice ya ym yc] 26)) := ⟨_, rfl⟩
  have HB12 : Hid (Below w1.heap.size w1 w2) := by rw [HW2.out]; exact (below_new w1 _).alloc (by simp) _
  have HQ2 : Hid (Bk w2 (w.heap.size + 1) #[.int .i64 qk, .int .i64 qp, .int .i64 qs, .int .i64 qn, .int .i64 qf, .int .i64 qt, .slice ta tn tc, .slice ja jm jc] 26) := hq1.stay HB12.out
  have HX2 : Hid (Bk w2 w1.heap.size #[.int .i64 5, .int .i64 pp, .int .i64 ps, .int .i64 pn, .int .i64 pf, .int .i64 0, .slice xa xn xc, .slice ya ym yc] 26) := by rw [HW2.out]; exact (Bk.new w1 _ _).stay (below_new _ _)
  have HY2 : Hid (Bk w2 (w1.heap.size + 1) #[.int .i64 5, .int .i64 pp, .int .i64 ps, .int .i64 pn, .int .i64 pf, .int .i64 0, .slice xa xn xc, .slice ya ym yc] 26) := by
    rw [HW2.out]
    have h := Bk.new (w1.alloc (.cells #[.int .i64 5, .int .i64 pp, .int .i64 ps, .int .i64 pn, .int .i64 pf, .int .i64 0, .slice xa xn xc, .slice ya ym yc] 26)) #[.int .i64 5, .int .i64 pp, .int .i64 ps, .int .i64 pn, .int .i64 pf, .int .i64 0, .slice xa xn xc, .slice ya ym yc] 26
    rw [show (w1.alloc (.cells #[.int .i64 5, .int .i64 pp, .int .i64 ps, .int .i64 pn, .int .i64 pf, .int .i64 0, .slice xa xn xc, .slice ya ym yc] 26)).heap.size = w1.heap.size + 1 from by simp] at h
    exact h
  have HXR : Hid (PcRd w1 ⟨5, pp, ps, pn, pf, 0, [], []⟩ xa xn xc ya ym yc) := hx
  have HB2 : Hid (Below w.heap.size w w2) := HB1.out.trans (HB12.out.mono HB1.out.size)
  have hqy : w.heap.size + 1 ≠ w1.heap.size + 1 := by have h1 := hq1.lt; have h2 := HB0.out.size; omega
  have hxy : w1.heap.size ≠ w1.heap.size + 1 := by omega
  clear ht hb1 hx hq1 HQ0 HCL HB0
  have e0 : w2.cell? ⟨w.heap.size + 1, 0, none⟩ = some (.int .i64 qk) := HQ2.out.cell 0 rfl
  have e1 : w2.cell? ⟨w.heap.size + 1, 1, none⟩ = some (.int .i64 qp) := HQ2.out.cell 1 rfl
  have e2 : w2.cell? ⟨w.heap.size + 1, 2, none⟩ = some (.int .i64 qs) := HQ2.out.cell 2 rfl
  have e3 : w2.cell? ⟨w.heap.size + 1, 3, none⟩ = some (.int .i64 qn) := HQ2.out.cell 3 rfl
  have e4 : w2.cell? ⟨w.heap.size + 1, 4, none⟩ = some (.int .i64 qf) := HQ2.out.cell 4 rfl
  have e5 : w2.cell? ⟨w.heap.size + 1, 5, none⟩ = some (.int .i64 qt) := HQ2.out.cell 5 rfl
  have e6 : w2.cell? ⟨w.heap.size + 1, 6, none⟩ = some (.slice ta tn tc) := HQ2.out.cell 6 rfl
  have e7 : w2.cell? ⟨w.heap.size + 1, 7, none⟩ = some (.slice ja jm jc) := HQ2.out.cell 7 rfl
  have x0 : w2.cell? ⟨w1.heap.size, 0, none⟩ = some (.int .i64 5) := HX2.out.cell 0 rfl
  have x1 : w2.cell? ⟨w1.heap.size, 1, none⟩ = some (.int .i64 pp) := HX2.out.cell 1 rfl
  have x2 : w2.cell? ⟨w1.heap.size, 2, none⟩ = some (.int .i64 ps) := HX2.out.cell 2 rfl
  have x3 : w2.cell? ⟨w1.heap.size, 3, none⟩ = some (.int .i64 pn) := HX2.out.cell 3 rfl
  have x4 : w2.cell? ⟨w1.heap.size, 4, none⟩ = some (.int .i64 pf) := HX2.out.cell 4 rfl
  have x5 : w2.cell? ⟨w1.heap.size, 5, none⟩ = some (.int .i64 0) := HX2.out.cell 5 rfl
  have x6 : w2.cell? ⟨w1.heap.size, 6, none⟩ = some (.slice xa xn xc) := HX2.out.cell 6 rfl
  have x7 : w2.cell? ⟨w1.heap.size, 7, none⟩ = some (.slice ya ym yc) := HX2.out.cell 7 rfl
  have y0 : w2.cell? ⟨w1.heap.size + 1, 0, none⟩ = some (.int .i64 5) := HY2.out.cell 0 rfl
  have y1 : w2.cell? ⟨w1.heap.size + 1, 1, none⟩ = some (.int .i64 pp) := HY2.out.cell 1 rfl
  have y2 : w2.cell? ⟨w1.heap.size + 1, 2, none⟩ = some (.int .i64 ps) := HY2.out.cell 2 rfl
  have y3 : w2.cell? ⟨w1.heap.size + 1, 3, none⟩ = some (.int .i64 pn) := HY2.out.cell 3 rfl
  have y4 : w2.cell? ⟨w1.heap.size + 1, 4, none⟩ = some (.int .i64 pf) := HY2.out.cell 4 rfl
  have y5 : w2.cell? ⟨w1.heap.size + 1, 5, none⟩ = some (.int .i64 0) := HY2.out.cell 5 rfl
  have y6 : w2.cell? ⟨w1.heap.size + 1, 6, none⟩ = some (.slice xa xn xc) := HY2.out.cell 6 rfl
  have y7 : w2.cell? ⟨w1.heap.size + 1, 7, none⟩ = some (.slice ya ym yc) := HY2.out.cell 7 rfl
  have fy : ∀ i, w2.frozen? ⟨w1.heap.size + 1, i, none⟩ = false := fun i => HY2.out.free i
  obtain ⟨w3, HW3⟩ : ∃ w3, Hid (w3 = (((w2.setCell ⟨w1.heap.size + 1, 6, none⟩ (.slice ta tn tc)).setCell ⟨w1.heap.size + 1, 7, none⟩ (.slice ja jm jc)).setCell ⟨w1.heap.size + 1, 5, none⟩ (.int .i64 qt)).drew) := ⟨_, rfl⟩
  have HY3 : Hid (Bk w3 (w1.heap.size + 1) #[.int .i64 5, .int .i64 pp, .int .i64 ps, .int .i64 pn, .int .i64 pf, .int .i64 qt, .slice ta tn tc, .slice ja jm jc] 26) := by
    rw [HW3.out]
    have s0 : Bk (w2.setCell ⟨w1.heap.size + 1, 6, none⟩ (.slice ta tn tc)) (w1.heap.size + 1) #[.int .i64 5, .int .i64 pp, .int .i64 ps, .int .i64 pn, .int .i64 pf, .int .i64 0, .slice ta tn tc, .slice ya ym yc] 26 := bk_step HY2.out 6 _ rfl
    have s1 : Bk ((w2.setCell ⟨w1.heap.size + 1, 6, none⟩ (.slice ta tn tc)).setCell ⟨w1.heap.size + 1, 7, none⟩ (.slice ja jm jc)) (w1.heap.size + 1) #[.int .i64 5, .int .i64 pp, .int .i64 ps, .int .i64 pn, .int .i64 pf, .int .i64 0, .slice ta tn tc, .slice ja jm jc] 26 := bk_step s0 7 _ rfl
    have s2 : Bk (((w2.setCell ⟨w1.heap.size + 1, 6, none⟩ (.slice ta tn tc)).setCell ⟨w1.heap.size + 1, 7, none⟩ (.slice ja jm jc)).setCell ⟨w1.heap.size + 1, 5, none⟩ (.int .i64 qt)) (w1.heap.size + 1) #[.int .i64 5, .int .i64 pp, .int .i64 ps, .int .i64 pn, .int .i64 pf, .int .i64 qt, .slice ta tn tc, .slice ja jm jc] 26 := bk_step s1 5 _ rfl
    exact s2
  have HX3 : Hid (Bk w3 w1.heap.size #[.int .i64 5, .int .i64 pp, .int .i64 ps, .int .i64 pn, .int .i64 pf, .int .i64 0, .slice xa xn xc, .slice ya ym yc] 26) := by rw [HW3.out]; exact (((HX2.out.other _ _ (by show w1.heap.size ≠ w1.heap.size + 1; omega)).other _ _ (by show w1.heap.size ≠ w1.heap.size + 1; omega)).other _ _ (by show w1.heap.size ≠ w1.heap.size + 1; omega))
  have HB13 : Hid (Below w1.heap.size w1 w3) := by rw [HW3.out]; exact (below_drew (((HB12.out.setCell (by show w1.heap.size ≤ w1.heap.size + 1; omega) _).setCell (by show w1.heap.size ≤ w1.heap.size + 1; omega) _).setCell (by show w1.heap.size ≤ w1.heap.size + 1; omega) _))
  have HB3 : Hid (Below w.heap.size w w3) := HB1.out.trans (HB13.out.mono HB1.out.size)
  have HXR3 : Hid (PcRd w3 ⟨5, pp, ps, pn, pf, 0, [], []⟩ xa xn xc ya ym yc) := HXR.out.below HB13.out
  have HYR3 : Hid (PcRd w3 ⟨5, pp, ps, pn, pf, qt, ql, qi⟩ ta tn tc ja jm jc) := by
    have h := HQW.out.below HB3.out
    exact ⟨h.spans, h.items, h.sl, h.sm, h.il, h.im_⟩
  have HCXP : Hid (∀ w', Below w3.heap.size w3 w' → Calls Try.prog 5 #[.agg #[.int .i64 5, .int .i64 pp, .int .i64 ps, .int .i64 pn, .int .i64 pf, .int .i64 0, .slice xa xn xc, .slice ya ym yc]] w' fun e w'' => (∃ b m c, e = .returned (.tuple #[.slice b m c, .int .i64 C]) ∧ Own w'' w'.heap.size b m c D) ∧ Below w'.heap.size w' w'') := by
    intro w' hb
    have h := pc_Put ⟨5, pp, ps, pn, pf, 0, [], []⟩ xa xn xc ya ym yc w' (HXR3.out.below hb)
    unfold PutTold at h
    rw [← HCX.out, ← HDX.out] at h
    exact h
  have HCYP : Hid (∀ w', Below w3.heap.size w3 w' → Calls Try.prog 5 #[.agg #[.int .i64 5, .int .i64 pp, .int .i64 ps, .int .i64 pn, .int .i64 pf, .int .i64 qt, .slice ta tn tc, .slice ja jm jc]] w' fun e w'' => (∃ b m c, e = .returned (.tuple #[.slice b m c, .int .i64 C]) ∧ Own w'' w'.heap.size b m c D) ∧ Below w'.heap.size w' w'') := by
    intro w' hb
    have h := pc_Put ⟨5, pp, ps, pn, pf, qt, ql, qi⟩ ta tn tc ja jm jc w' (HYR3.out.below hb)
    unfold PutTold at h
    rw [HCY.out, HDY.out] at h
    exact h
  have HCXC : Hid (∀ w', Below w3.heap.size w3 w' → Calls Try.prog 7 #[.agg #[.int .i64 5, .int .i64 pp, .int .i64 ps, .int .i64 pn, .int .i64 pf, .int .i64 0, .slice xa xn xc, .slice ya ym yc]] w' fun e w'' => e = .returned (.int .i64 C) ∧ Below w'.heap.size w' w'') := by
    intro w' hb
    have h := pc_Check ⟨5, pp, ps, pn, pf, 0, [], []⟩ xa xn xc ya ym yc w' (HXR3.out.below hb)
    rw [← HCX.out] at h
    exact h
  have HCYC : Hid (∀ w', Below w3.heap.size w3 w' → Calls Try.prog 7 #[.agg #[.int .i64 5, .int .i64 pp, .int .i64 ps, .int .i64 pn, .int .i64 pf, .int .i64 qt, .slice ta tn tc, .slice ja jm jc]] w' fun e w'' => e = .returned (.int .i64 C) ∧ Below w'.heap.size w' w'') := by
    intro w' hb
    have h := pc_Check ⟨5, pp, ps, pn, pf, qt, ql, qi⟩ ta tn tc ja jm jc w' (HYR3.out.below hb)
    rw [HCY.out] at h
    exact h
  have HCC : Hid (∀ w', Below w3.heap.size w3 w' → ∀ v, v = Value.agg #[.int .i64 5, .int .i64 pp, .int .i64 ps, .int .i64 pn, .int .i64 pf, .int .i64 0, .slice xa xn xc, .slice ya ym yc] ∨ v = Value.agg #[.int .i64 5, .int .i64 pp, .int .i64 ps, .int .i64 pn, .int .i64 pf, .int .i64 qt, .slice ta tn tc, .slice ja jm jc] → Calls Try.prog 7 #[v] w' fun e w'' => e = .returned (.int .i64 C) ∧ Below w'.heap.size w' w'') := by
    intro w' hb v hv
    rcases hv with rfl | rfl
    · exact HCXC.out w' hb
    · exact HCYC.out w' hb
  clear HCXC HCYC
  have HSK : Hid (∀ w', Below w3.heap.size w3 w' → w'.cell? ⟨w1.heap.size, 0, none⟩ = some (.int .i64 5) ∧ w'.cell? ⟨w1.heap.size, 1, none⟩ = some (.int .i64 pp) ∧ w'.cell? ⟨w1.heap.size, 2, none⟩ = some (.int .i64 ps) ∧ w'.cell? ⟨w1.heap.size, 3, none⟩ = some (.int .i64 pn) ∧ w'.cell? ⟨w1.heap.size, 4, none⟩ = some (.int .i64 pf) ∧ w'.cell? ⟨w1.heap.size, 5, none⟩ = some (.int .i64 0) ∧ w'.cell? ⟨w1.heap.size, 6, none⟩ = some (.slice xa xn xc) ∧ w'.cell? ⟨w1.heap.size, 7, none⟩ = some (.slice ya ym yc) ∧ w'.cell? ⟨w1.heap.size + 1, 0, none⟩ = some (.int .i64 5) ∧ w'.cell? ⟨w1.heap.size + 1, 1, none⟩ = some (.int .i64 pp) ∧ w'.cell? ⟨w1.heap.size + 1, 2, none⟩ = some (.int .i64 ps) ∧ w'.cell? ⟨w1.heap.size + 1, 3, none⟩ = some (.int .i64 pn) ∧ w'.cell? ⟨w1.heap.size + 1, 4, none⟩ = some (.int .i64 pf) ∧ w'.cell? ⟨w1.heap.size + 1, 5, none⟩ = some (.int .i64 qt) ∧ w'.cell? ⟨w1.heap.size + 1, 6, none⟩ = some (.slice ta tn tc) ∧ w'.cell? ⟨w1.heap.size + 1, 7, none⟩ = some (.slice ja jm jc)) := by
    intro w' hb
    have k := HX3.out.stay hb
    have l := HY3.out.stay hb
    exact ⟨k.cell 0 rfl, k.cell 1 rfl, k.cell 2 rfl, k.cell 3 rfl, k.cell 4 rfl, k.cell 5 rfl, k.cell 6 rfl, k.cell 7 rfl, l.cell 0 rfl, l.cell 1 rfl, l.cell 2 rfl, l.cell 3 rfl, l.cell 4 rfl, l.cell 5 rfl, l.cell 6 rfl, l.cell 7 rfl⟩
  clear HQW HXR HXR3 HYR3 HCX HCY HDX HDY HQ2 HX2 HY2 HX3 HY3 HB12 HB2 HEA
  go_wp2
  rw [← HW2.out]
  go_region
  go_wp2_with fail
  rw [← HW3.out]
  refine (HCXP.out _ (Below.refl _ _)).mono ?_
  rintro e w4 ⟨⟨b4, m4, c4, he, ho4⟩, hb4⟩
  subst he
  have HO4 : Hid (Rd w4 b4 m4 D) := ho4.rd
  have HB34 : Hid (Below w3.heap.size w3 w4) := hb4
  clear ho4 hb4 x0 y0 e0 x1 y1 e1 x2 y2 e2 x3 y3 e3 x4 y4 e4 x5 y5 e5 x6 y6 e6 x7 y7 e7
  obtain ⟨g0, g1, g2, g3, g4, g5, g6, g7, g8, g9, g10, g11, g12, g13, g14, g15⟩ := HSK.out _ HB34.out
  go_wp2_with fail
  refine (HCYP.out _ HB34.out).mono ?_
  rintro e w5 ⟨⟨b5, m5, c5, he, ho5⟩, hb5⟩
  subst he
  have HO5 : Hid (Rd w5 b5 m5 D) := ho5.rd
  have HO45 : Hid (Rd w5 b4 m4 D) := HO4.out.below hb5
  have HB : Hid (Below w3.heap.size w3 w5.drew) := below_drew (HB34.out.trans (hb5.mono HB34.out.size))
  have HB5 : Hid (Below w3.heap.size w3 w5) := HB34.out.trans (hb5.mono HB34.out.size)
  clear ho5 hb5 HO4 g0 g1 g2 g3 g4 g5 g6 g7 g8 g9 g10 g11 g12 g13 g14 g15
  obtain ⟨S, HSS⟩ : ∃ S, Hid (S = str D) := ⟨_, rfl⟩
  have x4 : ∀ w', Below w5.heap.size w5 w' → (convert 28 9 (.slice b4 m4 c4)).run Try.prog w' = .ok (.string S) w' := fun w' h => by rw [conv_rd (HO45.out.below h) c4, HSS.out]
  have x5 : ∀ w', Below w5.heap.size w5 w' → (convert 28 9 (.slice b5 m5 c5)).run Try.prog w' = .ok (.string S) w' := fun w' h => by rw [conv_rd (HO5.out.below h) c5, HSS.out]
  have HX45 : Hid (∀ w', Below w5.heap.size w5 w' → (convert 28 9 (.slice b4 m4 c4)).run Try.prog w' = .ok (.string S) w') := x4
  have HX5 : Hid (∀ w', Below w5.heap.size w5 w' → (convert 28 9 (.slice b5 m5 c5)).run Try.prog w' = .ok (.string S) w') := x5
  have HBZ : Hid (Below w5.heap.size w5 w5.drew) := below_drew (Below.refl _ _)
  clear x4 x5
  go_wp2
  have HSL : Hid (∀ w', Below w3.heap.size w3 w' → Below w5.heap.size w5 w' → w'.cell? ⟨w1.heap.size, 0, none⟩ = some (.int .i64 5) ∧ w'.cell? ⟨w1.heap.size, 1, none⟩ = some (.int .i64 pp) ∧ w'.cell? ⟨w1.heap.size, 2, none⟩ = some (.int .i64 ps) ∧ w'.cell? ⟨w1.heap.size, 3, none⟩ = some (.int .i64 pn) ∧ w'.cell? ⟨w1.heap.size, 4, none⟩ = some (.int .i64 pf) ∧ w'.cell? ⟨w1.heap.size, 5, none⟩ = some (.int .i64 0) ∧ w'.cell? ⟨w1.heap.size, 6, none⟩ = some (.slice xa xn xc) ∧ w'.cell? ⟨w1.heap.size, 7, none⟩ = some (.slice ya ym yc) ∧ w'.cell? ⟨w1.heap.size + 1, 0, none⟩ = some (.int .i64 5) ∧ w'.cell? ⟨w1.heap.size + 1, 1, none⟩ = some (.int .i64 pp) ∧ w'.cell? ⟨w1.heap.size + 1, 2, none⟩ = some (.int .i64 ps) ∧ w'.cell? ⟨w1.heap.size + 1, 3, none⟩ = some (.int .i64 pn) ∧ w'.cell? ⟨w1.heap.size + 1, 4, none⟩ = some (.int .i64 pf) ∧ w'.cell? ⟨w1.heap.size + 1, 5, none⟩ = some (.int .i64 qt) ∧ w'.cell? ⟨w1.heap.size + 1, 6, none⟩ = some (.slice ta tn tc) ∧ w'.cell? ⟨w1.heap.size + 1, 7, none⟩ = some (.slice ja jm jc) ∧ (convert 28 9 (.slice b4 m4 c4)).run Try.prog w' = .ok (.string S) w' ∧ (convert 28 9 (.slice b5 m5 c5)).run Try.prog w' = .ok (.string S) w') := fun w' h h' => by obtain ⟨g0, g1, g2, g3, g4, g5, g6, g7, g8, g9, g10, g11, g12, g13, g14, g15⟩ := HSK.out w' h; exact ⟨g0, g1, g2, g3, g4, g5, g6, g7, g8, g9, g10, g11, g12, g13, g14, g15, HX45.out w' h', HX5.out w' h'⟩
  clear HSK HX45 HX5 HO45 HO5 HSS HB34 HCXP HCYP HW2 HW3 HW0 hqy hxy fy
  go_region_held3 (fun w' => w'.cell? ⟨w1.heap.size, 0, none⟩ = some (.int .i64 5) ∧ w'.cell? ⟨w1.heap.size, 1, none⟩ = some (.int .i64 pp) ∧ w'.cell? ⟨w1.heap.size, 2, none⟩ = some (.int .i64 ps) ∧ w'.cell? ⟨w1.heap.size, 3, none⟩ = some (.int .i64 pn) ∧ w'.cell? ⟨w1.heap.size, 4, none⟩ = some (.int .i64 pf) ∧ w'.cell? ⟨w1.heap.size, 5, none⟩ = some (.int .i64 0) ∧ w'.cell? ⟨w1.heap.size, 6, none⟩ = some (.slice xa xn xc) ∧ w'.cell? ⟨w1.heap.size, 7, none⟩ = some (.slice ya ym yc) ∧ w'.cell? ⟨w1.heap.size + 1, 0, none⟩ = some (.int .i64 5) ∧ w'.cell? ⟨w1.heap.size + 1, 1, none⟩ = some (.int .i64 pp) ∧ w'.cell? ⟨w1.heap.size + 1, 2, none⟩ = some (.int .i64 ps) ∧ w'.cell? ⟨w1.heap.size + 1, 3, none⟩ = some (.int .i64 pn) ∧ w'.cell? ⟨w1.heap.size + 1, 4, none⟩ = some (.int .i64 pf) ∧ w'.cell? ⟨w1.heap.size + 1, 5, none⟩ = some (.int .i64 qt) ∧ w'.cell? ⟨w1.heap.size + 1, 6, none⟩ = some (.slice ta tn tc) ∧ w'.cell? ⟨w1.heap.size + 1, 7, none⟩ = some (.slice ja jm jc) ∧ (convert 28 9 (.slice b4 m4 c4)).run Try.prog w' = .ok (.string S) w' ∧ (convert 28 9 (.slice b5 m5 c5)).run Try.prog w' = .ok (.string S) w') (first | with_reducible exact HSL.out _ HB.out HBZ.out | with_reducible exact HSL.out _ HB5.out (Below.refl _ _) | fail)
    (first
      | (go_at_call 6; refine (law_live13 _).mono ?_; rintro e w6 ⟨rfl, hb6⟩; have HB' : Hid (Below w3.heap.size w3 w6) := HB.out.trans (hb6.mono HB.out.size); have HZ' : Hid (Below w5.heap.size w5 w6) := HBZ.out.trans (hb6.mono HBZ.out.size); clear hb6 HB HBZ; have HB := HB'; have HBZ := HZ'; clear HB' HZ')
      | (go_at_call 7; refine (HCC.out _ HB.out _ (by first | exact Or.inl rfl | exact Or.inr rfl)).mono ?_; rintro e w7 ⟨rfl, hb7⟩; have HB' : Hid (Below w3.heap.size w3 w7) := HB.out.trans (hb7.mono HB.out.size); have HZ' : Hid (Below w5.heap.size w5 w7) := HBZ.out.trans (hb7.mono HBZ.out.size); clear hb7 HB HBZ; have HB := HB'; have HBZ := HZ'; clear HB' HZ'))
  all_goals (
    go_wp2
    go_ret
    exact ⟨by simp, HB3.out.trans (HB.out.mono HB3.out.size)⟩ )

set_option maxRecDepth 100000 in
set_option maxHeartbeats 4000000 in
theorem walk_6 (pp ps pn pf pt : Int) (pl : List Sp) (pi : List It) (sa : Option Addr) (sn sc : Nat) (ia : Option Addr) (im ic : Nat) (qk qp qs qn qf qt : Int) (ql : List Sp) (qi : List It) (ta : Option Addr) (tn tc : Nat) (ja : Option Addr) (jm jc : Nat) (w : World) (hp : PcRd w ⟨6, pp, ps, pn, pf, pt, pl, pi⟩ sa sn sc ia im ic) (hbg : PcBig ⟨6, pp, ps, pn, pf, pt, pl, pi⟩ sa sc ia ic) (hq : PcRd w ⟨qk, qp, qs, qn, qf, qt, ql, qi⟩ ta tn tc ja jm jc) :
    Calls Try.prog 3 #[Pc.val ⟨6, pp, ps, pn, pf, pt, pl, pi⟩ sa sn sc ia im ic, Pc.val ⟨qk, qp, qs, qn, qf, qt, ql, qi⟩ ta tn tc ja jm jc] w fun e w' => e = .returned (.bool true) ∧ Below w.heap.size w w' := by
  have HQW : Hid (PcRd w ⟨qk, qp, qs, qn, qf, qt, ql, qi⟩ ta tn tc ja jm jc) := hq
  obtain ⟨W0, HW0⟩ : ∃ W0, Hid (W0 = ((w.alloc (.cells #[.int .i64 6, .int .i64 pp, .int .i64 ps, .int .i64 pn, .int .i64 pf, .int .i64 pt, .slice sa sn sc, .slice ia im ic] 26)).alloc (.cells #[.int .i64 qk, .int .i64 qp, .int .i64 qs, .int .i64 qn, .int .i64 qf, .int .i64 qt, .slice ta tn tc, .slice ja jm jc] 26))) := ⟨_, rfl⟩
  have HB0 : Hid (Below w.heap.size w W0) := by rw [HW0.out]; exact (below_new w _).alloc (by simp) _
  have HQ0 : Hid (Bk W0 (w.heap.size + 1) #[.int .i64 qk, .int .i64 qp, .int .i64 qs, .int .i64 qn, .int .i64 qf, .int .i64 qt, .slice ta tn tc, .slice ja jm jc] 26) := by
    rw [HW0.out]
    have h := Bk.new (w.alloc (.cells #[.int .i64 6, .int .i64 pp, .int .i64 ps, .int .i64 pn, .int .i64 pf, .int .i64 pt, .slice sa sn sc, .slice ia im ic] 26)) #[.int .i64 qk, .int .i64 qp, .int .i64 qs, .int .i64 qn, .int .i64 qf, .int .i64 qt, .slice ta tn tc, .slice ja jm jc] 26
    rw [show (w.alloc (.cells #[.int .i64 6, .int .i64 pp, .int .i64 ps, .int .i64 pn, .int .i64 pf, .int .i64 pt, .slice sa sn sc, .slice ia im ic] 26)).heap.size = w.heap.size + 1 from by simp] at h
    exact h
  have hcl := ref_Plain13 ⟨6, pp, ps, pn, pf, pt, pl, pi⟩ sa sn sc ia im ic W0 (hp.below HB0.out) hbg
  rw [plainQ_is (p := ⟨6, pp, ps, pn, pf, pt, pl, pi⟩) rfl] at hcl
  have HCL : Hid (Calls Try.prog 4 #[Pc.val ⟨6, pp, ps, pn, pf, pt, pl, pi⟩ sa sn sc ia im ic] W0 fun e w' => Hid (PlainTold W0 w' ⟨6, pp, ps, pn, 0, 0, [], []⟩ e) ∧ Below W0.heap.size W0 w') := hcl
  have HEA : Hid (∀ x ∈ (⟨6, pp, ps, pn, 0, 0, [], []⟩ : Pc).items, ((-9223372036854775808 : Int) ≤ x.tick ∧ x.tick ≤ 9223372036854775807) ∧ (0 ≤ x.for_ ∧ x.for_ ≤ 4294967295)) := fun x hx => by cases hx
  clear hcl hp hbg hq
  obtain ⟨C, HCX⟩ : ∃ C, Hid (C = chk ⟨6, pp, ps, pn, 0, 0, [], []⟩) := ⟨_, rfl⟩
  have HCY : Hid (chk ⟨6, pp, ps, pn, qf, qt, ql, qi⟩ = C) := by show _ = _; rw [HCX.out]; rfl
  obtain ⟨D, HDX⟩ : ∃ D, Hid (D = putD ⟨6, pp, ps, pn, 0, 0, [], []⟩) := ⟨_, rfl⟩
  have HDY : Hid (putD ⟨6, pp, ps, pn, qf, qt, ql, qi⟩ = D) := by show _ = _; rw [HDX.out, putD, putD, HCY.out, ← HCX.out]; rfl
  go_enter Try.func3, Try.ntmps3
  go_wp2_with fail
  rw [← HW0.out]
  refine HCL.out.mono ?_
  rintro e w1 ⟨ht, hb1⟩
  obtain ⟨xa, xn, xc, ya, ym, yc, he, hx⟩ := ht.out.rd HEA.out
  unfold Pc.val at he
  simp only at he
  subst he
  have HB1 : Hid (Below w.heap.size w w1) := HB0.out.trans (hb1.mono HB0.out.size)
  have hq1 : Bk w1 (w.heap.size + 1) #[.int .i64 qk, .int .i64 qp, .int .i64 qs, .int .i64 qn, .int .i64 qf, .int .i64 qt, .slice ta tn tc, .slice ja jm jc] 26 := HQ0.out.stay hb1
  obtain ⟨w2, HW2⟩ : ∃ w2, Hid (w2 = (w1.alloc (.cells #[.int .i64 6, .int .i64 pp, .int .i64 ps, .int .i64 pn, .int .i64 0, .int .i64 0, .slice xa xn xc, .slice ya ym yc] 26)).alloc (.cells #[.int .i64 6, .int .i64 pp, .int .i64 ps, .int .i64 pn, .int .i64 0, .int .i64 0, .slice xa xn xc, .slice ya ym yc] 26)) := ⟨_, rfl⟩
  have HB12 : Hid (Below w1.heap.size w1 w2) := by rw [HW2.out]; exact (below_new w1 _).alloc (by simp) _
  have HQ2 : Hid (Bk w2 (w.heap.size + 1) #[.int .i64 qk, .int .i64 qp, .int .i64 qs, .int .i64 qn, .int .i64 qf, .int .i64 qt, .slice ta tn tc, .slice ja jm jc] 26) := hq1.stay HB12.out
  have HX2 : Hid (Bk w2 w1.heap.size #[.int .i64 6, .int .i64 pp, .int .i64 ps, .int .i64 pn, .int .i64 0, .int .i64 0, .slice xa xn xc, .slice ya ym yc] 26) := by rw [HW2.out]; exact (Bk.new w1 _ _).stay (below_new _ _)
  have HY2 : Hid (Bk w2 (w1.heap.size + 1) #[.int .i64 6, .int .i64 pp, .int .i64 ps, .int .i64 pn, .int .i64 0, .int .i64 0, .slice xa xn xc, .slice ya ym yc] 26) := by
    rw [HW2.out]
    have h := Bk.new (w1.alloc (.cells #[.int .i64 6, .int .i64 pp, .int .i64 ps, .int .i64 pn, .int .i64 0, .int .i64 0, .slice xa xn xc, .slice ya ym yc] 26)) #[.int .i64 6, .int .i64 pp, .int .i64 ps, .int .i64 pn, .int .i64 0, .int .i64 0, .slice xa xn xc, .slice ya ym yc] 26
    rw [show (w1.alloc (.cells #[.int .i64 6, .int .i64 pp, .int .i64 ps, .int .i64 pn, .int .i64 0, .int .i64 0, .slice xa xn xc, .slice ya ym yc] 26)).heap.size = w1.heap.size + 1 from by simp] at h
    exact h
  have HXR : Hid (PcRd w1 ⟨6, pp, ps, pn, 0, 0, [], []⟩ xa xn xc ya ym yc) := hx
  have HB2 : Hid (Below w.heap.size w w2) := HB1.out.trans (HB12.out.mono HB1.out.size)
  have hqy : w.heap.size + 1 ≠ w1.heap.size + 1 := by have h1 := hq1.lt; have h2 := HB0.out.size; omega
  have hxy : w1.heap.size ≠ w1.heap.size + 1 := by omega
  clear ht hb1 hx hq1 HQ0 HCL HB0
  have e0 : w2.cell? ⟨w.heap.size + 1, 0, none⟩ = some (.int .i64 qk) := HQ2.out.cell 0 rfl
  have e1 : w2.cell? ⟨w.heap.size + 1, 1, none⟩ = some (.int .i64 qp) := HQ2.out.cell 1 rfl
  have e2 : w2.cell? ⟨w.heap.size + 1, 2, none⟩ = some (.int .i64 qs) := HQ2.out.cell 2 rfl
  have e3 : w2.cell? ⟨w.heap.size + 1, 3, none⟩ = some (.int .i64 qn) := HQ2.out.cell 3 rfl
  have e4 : w2.cell? ⟨w.heap.size + 1, 4, none⟩ = some (.int .i64 qf) := HQ2.out.cell 4 rfl
  have e5 : w2.cell? ⟨w.heap.size + 1, 5, none⟩ = some (.int .i64 qt) := HQ2.out.cell 5 rfl
  have e6 : w2.cell? ⟨w.heap.size + 1, 6, none⟩ = some (.slice ta tn tc) := HQ2.out.cell 6 rfl
  have e7 : w2.cell? ⟨w.heap.size + 1, 7, none⟩ = some (.slice ja jm jc) := HQ2.out.cell 7 rfl
  have x0 : w2.cell? ⟨w1.heap.size, 0, none⟩ = some (.int .i64 6) := HX2.out.cell 0 rfl
  have x1 : w2.cell? ⟨w1.heap.size, 1, none⟩ = some (.int .i64 pp) := HX2.out.cell 1 rfl
  have x2 : w2.cell? ⟨w1.heap.size, 2, none⟩ = some (.int .i64 ps) := HX2.out.cell 2 rfl
  have x3 : w2.cell? ⟨w1.heap.size, 3, none⟩ = some (.int .i64 pn) := HX2.out.cell 3 rfl
  have x4 : w2.cell? ⟨w1.heap.size, 4, none⟩ = some (.int .i64 0) := HX2.out.cell 4 rfl
  have x5 : w2.cell? ⟨w1.heap.size, 5, none⟩ = some (.int .i64 0) := HX2.out.cell 5 rfl
  have x6 : w2.cell? ⟨w1.heap.size, 6, none⟩ = some (.slice xa xn xc) := HX2.out.cell 6 rfl
  have x7 : w2.cell? ⟨w1.heap.size, 7, none⟩ = some (.slice ya ym yc) := HX2.out.cell 7 rfl
  have y0 : w2.cell? ⟨w1.heap.size + 1, 0, none⟩ = some (.int .i64 6) := HY2.out.cell 0 rfl
  have y1 : w2.cell? ⟨w1.heap.size + 1, 1, none⟩ = some (.int .i64 pp) := HY2.out.cell 1 rfl
  have y2 : w2.cell? ⟨w1.heap.size + 1, 2, none⟩ = some (.int .i64 ps) := HY2.out.cell 2 rfl
  have y3 : w2.cell? ⟨w1.heap.size + 1, 3, none⟩ = some (.int .i64 pn) := HY2.out.cell 3 rfl
  have y4 : w2.cell? ⟨w1.heap.size + 1, 4, none⟩ = some (.int .i64 0) := HY2.out.cell 4 rfl
  have y5 : w2.cell? ⟨w1.heap.size + 1, 5, none⟩ = some (.int .i64 0) := HY2.out.cell 5 rfl
  have y6 : w2.cell? ⟨w1.heap.size + 1, 6, none⟩ = some (.slice xa xn xc) := HY2.out.cell 6 rfl
  have y7 : w2.cell? ⟨w1.heap.size + 1, 7, none⟩ = some (.slice ya ym yc) := HY2.out.cell 7 rfl
  have fy : ∀ i, w2.frozen? ⟨w1.heap.size + 1, i, none⟩ = false := fun i => HY2.out.free i
  obtain ⟨w3, HW3⟩ : ∃ w3, Hid (w3 = ((((w2.setCell ⟨w1.heap.size + 1, 6, none⟩ (.slice ta tn tc)).setCell ⟨w1.heap.size + 1, 7, none⟩ (.slice ja jm jc)).setCell ⟨w1.heap.size + 1, 5, none⟩ (.int .i64 qt)).setCell ⟨w1.heap.size + 1, 4, none⟩ (.int .i64 qf)).drew) := ⟨_, rfl⟩
  have HY3 : Hid (Bk w3 (w1.heap.size + 1) #[.int .i64 6, .int .i64 pp, .int .i64 ps, .int .i64 pn, .int .i64 qf, .int .i64 qt, .slice ta tn tc, .slice ja jm jc] 26) := by
    rw [HW3.out]
    have s0 : Bk (w2.setCell ⟨w1.heap.size + 1, 6, none⟩ (.slice ta tn tc)) (w1.heap.size + 1) #[.int .i64 6, .int .i64 pp, .int .i64 ps, .int .i64 pn, .int .i64 0, .int .i64 0, .slice ta tn tc, .slice ya ym yc] 26 := bk_step HY2.out 6 _ rfl
    have s1 : Bk ((w2.setCell ⟨w1.heap.size + 1, 6, none⟩ (.slice ta tn tc)).setCell ⟨w1.heap.size + 1, 7, none⟩ (.slice ja jm jc)) (w1.heap.size + 1) #[.int .i64 6, .int .i64 pp, .int .i64 ps, .int .i64 pn, .int .i64 0, .int .i64 0, .slice ta tn tc, .slice ja jm jc] 26 := bk_step s0 7 _ rfl
    have s2 : Bk (((w2.setCell ⟨w1.heap.size + 1, 6, none⟩ (.slice ta tn tc)).setCell ⟨w1.heap.size + 1, 7, none⟩ (.slice ja jm jc)).setCell ⟨w1.heap.size + 1, 5, none⟩ (.int .i64 qt)) (w1.heap.size + 1) #[.int .i64 6, .int .i64 pp, .int .i64 ps, .int .i64 pn, .int .i64 0, .int .i64 qt, .slice ta tn tc, .slice ja jm jc] 26 := bk_step s1 5 _ rfl
    have s3 : Bk ((((w2.setCell ⟨w1.heap.size + 1, 6, none⟩ (.slice ta tn tc)).setCell ⟨w1.heap.size + 1, 7, none⟩ (.slice ja jm jc)).setCell ⟨w1.heap.size + 1, 5, none⟩ (.int .i64 qt)).setCell ⟨w1.heap.size + 1, 4, none⟩ (.int .i64 qf)) (w1.heap.size + 1) #[.int .i64 6, .int .i64 pp, .int .i64 ps, .int .i64 pn, .int .i64 qf, .int .i64 qt, .slice ta tn tc, .slice ja jm jc] 26 := bk_step s2 4 _ rfl
    exact s3
  have HX3 : Hid (Bk w3 w1.heap.size #[.int .i64 6, .int .i64 pp, .int .i64 ps, .int .i64 pn, .int .i64 0, .int .i64 0, .slice xa xn xc, .slice ya ym yc] 26) := by rw [HW3.out]; exact ((((HX2.out.other _ _ (by show w1.heap.size ≠ w1.heap.size + 1; omega)).other _ _ (by show w1.heap.size ≠ w1.heap.size + 1; omega)).other _ _ (by show w1.heap.size ≠ w1.heap.size + 1; omega)).other _ _ (by show w1.heap.size ≠ w1.heap.size + 1; omega))
  have HB13 : Hid (Below w1.heap.size w1 w3) := by rw [HW3.out]; exact (below_drew ((((HB12.out.setCell (by show w1.heap.size ≤ w1.heap.size + 1; omega) _).setCell (by show w1.heap.size ≤ w1.heap.size + 1; omega) _).setCell (by show w1.heap.size ≤ w1.heap.size + 1; omega) _).setCell (by show w1.heap.size ≤ w1.heap.size + 1; omega) _))
  have HB3 : Hid (Below w.heap.size w w3) := HB1.out.trans (HB13.out.mono HB1.out.size)
  have HXR3 : Hid (PcRd w3 ⟨6, pp, ps, pn, 0, 0, [], []⟩ xa xn xc ya ym yc) := HXR.out.below HB13.out
  have HYR3 : Hid (PcRd w3 ⟨6, pp, ps, pn, qf, qt, ql, qi⟩ ta tn tc ja jm jc) := by
    have h := HQW.out.below HB3.out
    exact ⟨h.spans, h.items, h.sl, h.sm, h.il, h.im_⟩
  have HCXP : Hid (∀ w', Below w3.heap.size w3 w' → Calls Try.prog 5 #[.agg #[.int .i64 6, .int .i64 pp, .int .i64 ps, .int .i64 pn, .int .i64 0, .int .i64 0, .slice xa xn xc, .slice ya ym yc]] w' fun e w'' => (∃ b m c, e = .returned (.tuple #[.slice b m c, .int .i64 C]) ∧ Own w'' w'.heap.size b m c D) ∧ Below w'.heap.size w' w'') := by
    intro w' hb
    have h := pc_Put ⟨6, pp, ps, pn, 0, 0, [], []⟩ xa xn xc ya ym yc w' (HXR3.out.below hb)
    unfold PutTold at h
    rw [← HCX.out, ← HDX.out] at h
    exact h
  have HCYP : Hid (∀ w', Below w3.heap.size w3 w' → Calls Try.prog 5 #[.agg #[.int .i64 6, .int .i64 pp, .int .i64 ps, .int .i64 pn, .int .i64 qf, .int .i64 qt, .slice ta tn tc, .slice ja jm jc]] w' fun e w'' => (∃ b m c, e = .returned (.tuple #[.slice b m c, .int .i64 C]) ∧ Own w'' w'.heap.size b m c D) ∧ Below w'.heap.size w' w'') := by
    intro w' hb
    have h := pc_Put ⟨6, pp, ps, pn, qf, qt, ql, qi⟩ ta tn tc ja jm jc w' (HYR3.out.below hb)
    unfold PutTold at h
    rw [HCY.out, HDY.out] at h
    exact h
  have HCXC : Hid (∀ w', Below w3.heap.size w3 w' → Calls Try.prog 7 #[.agg #[.int .i64 6, .int .i64 pp, .int .i64 ps, .int .i64 pn, .int .i64 0, .int .i64 0, .slice xa xn xc, .slice ya ym yc]] w' fun e w'' => e = .returned (.int .i64 C) ∧ Below w'.heap.size w' w'') := by
    intro w' hb
    have h := pc_Check ⟨6, pp, ps, pn, 0, 0, [], []⟩ xa xn xc ya ym yc w' (HXR3.out.below hb)
    rw [← HCX.out] at h
    exact h
  have HCYC : Hid (∀ w', Below w3.heap.size w3 w' → Calls Try.prog 7 #[.agg #[.int .i64 6, .int .i64 pp, .int .i64 ps, .int .i64 pn, .int .i64 qf, .int .i64 qt, .slice ta tn tc, .slice ja jm jc]] w' fun e w'' => e = .returned (.int .i64 C) ∧ Below w'.heap.size w' w'') := by
    intro w' hb
    have h := pc_Check ⟨6, pp, ps, pn, qf, qt, ql, qi⟩ ta tn tc ja jm jc w' (HYR3.out.below hb)
    rw [HCY.out] at h
    exact h
  have HCC : Hid (∀ w', Below w3.heap.size w3 w' → ∀ v, v = Value.agg #[.int .i64 6, .int .i64 pp, .int .i64 ps, .int .i64 pn, .int .i64 0, .int .i64 0, .slice xa xn xc, .slice ya ym yc] ∨ v = Value.agg #[.int .i64 6, .int .i64 pp, .int .i64 ps, .int .i64 pn, .int .i64 qf, .int .i64 qt, .slice ta tn tc, .slice ja jm jc] → Calls Try.prog 7 #[v] w' fun e w'' => e = .returned (.int .i64 C) ∧ Below w'.heap.size w' w'') := by
    intro w' hb v hv
    rcases hv with rfl | rfl
    · exact HCXC.out w' hb
    · exact HCYC.out w' hb
  clear HCXC HCYC
  have HSK : Hid (∀ w', Below w3.heap.size w3 w' → w'.cell? ⟨w1.heap.size, 0, none⟩ = some (.int .i64 6) ∧ w'.cell? ⟨w1.heap.size, 1, none⟩ = some (.int .i64 pp) ∧ w'.cell? ⟨w1.heap.size, 2, none⟩ = some (.int .i64 ps) ∧ w'.cell? ⟨w1.heap.size, 3, none⟩ = some (.int .i64 pn) ∧ w'.cell? ⟨w1.heap.size, 4, none⟩ = some (.int .i64 0) ∧ w'.cell? ⟨w1.heap.size, 5, none⟩ = some (.int .i64 0) ∧ w'.cell? ⟨w1.heap.size, 6, none⟩ = some (.slice xa xn xc) ∧ w'.cell? ⟨w1.heap.size, 7, none⟩ = some (.slice ya ym yc) ∧ w'.cell? ⟨w1.heap.size + 1, 0, none⟩ = some (.int .i64 6) ∧ w'.cell? ⟨w1.heap.size + 1, 1, none⟩ = some (.int .i64 pp) ∧ w'.cell? ⟨w1.heap.size + 1, 2, none⟩ = some (.int .i64 ps) ∧ w'.cell? ⟨w1.heap.size + 1, 3, none⟩ = some (.int .i64 pn) ∧ w'.cell? ⟨w1.heap.size + 1, 4, none⟩ = some (.int .i64 qf) ∧ w'.cell? ⟨w1.heap.size + 1, 5, none⟩ = some (.int .i64 qt) ∧ w'.cell? ⟨w1.heap.size + 1, 6, none⟩ = some (.slice ta tn tc) ∧ w'.cell? ⟨w1.heap.size + 1, 7, none⟩ = some (.slice ja jm jc)) := by
    intro w' hb
    have k := HX3.out.stay hb
    have l := HY3.out.stay hb
    exact ⟨k.cell 0 rfl, k.cell 1 rfl, k.cell 2 rfl, k.cell 3 rfl, k.cell 4 rfl, k.cell 5 rfl, k.cell 6 rfl, k.cell 7 rfl, l.cell 0 rfl, l.cell 1 rfl, l.cell 2 rfl, l.cell 3 rfl, l.cell 4 rfl, l.cell 5 rfl, l.cell 6 rfl, l.cell 7 rfl⟩
  clear HQW HXR HXR3 HYR3 HCX HCY HDX HDY HQ2 HX2 HY2 HX3 HY3 HB12 HB2 HEA
  go_wp2
  rw [← HW2.out]
  go_region
  go_wp2_with fail
  rw [← HW3.out]
  refine (HCXP.out _ (Below.refl _ _)).mono ?_
  rintro e w4 ⟨⟨b4, m4, c4, he, ho4⟩, hb4⟩
  subst he
  have HO4 : Hid (Rd w4 b4 m4 D) := ho4.rd
  have HB34 : Hid (Below w3.heap.size w3 w4) := hb4
  clear ho4 hb4 x0 y0 e0 x1 y1 e1 x2 y2 e2 x3 y3 e3 x4 y4 e4 x5 y5 e5 x6 y6 e6 x7 y7 e7
  obtain ⟨g0, g1, g2, g3, g4, g5, g6, g7, g8, g9, g10, g11, g12, g13, g14, g15⟩ := HSK.out _ HB34.out
  go_wp2_with fail
  refine (HCYP.out _ HB34.out).mono ?_
  rintro e w5 ⟨⟨b5, m5, c5, he, ho5⟩, hb5⟩
  subst he
  have HO5 : Hid (Rd w5 b5 m5 D) := ho5.rd
  have HO45 : Hid (Rd w5 b4 m4 D) := HO4.out.below hb5
  have HB : Hid (Below w3.heap.size w3 w5.drew) := below_drew (HB34.out.trans (hb5.mono HB34.out.size))
  have HB5 : Hid (Below w3.heap.size w3 w5) := HB34.out.trans (hb5.mono HB34.out.size)
  clear ho5 hb5 HO4 g0 g1 g2 g3 g4 g5 g6 g7 g8 g9 g10 g11 g12 g13 g14 g15
  obtain ⟨S, HSS⟩ : ∃ S, Hid (S = str D) := ⟨_, rfl⟩
  have x4 : ∀ w', Below w5.heap.size w5 w' → (convert 28 9 (.slice b4 m4 c4)).run Try.prog w' = .ok (.string S) w' := fun w' h => by rw [conv_rd (HO45.out.below h) c4, HSS.out]
  have x5 : ∀ w', Below w5.heap.size w5 w' → (convert 28 9 (.slice b5 m5 c5)).run Try.prog w' = .ok (.string S) w' := fun w' h => by rw [conv_rd (HO5.out.below h) c5, HSS.out]
  have HX45 : Hid (∀ w', Below w5.heap.size w5 w' → (convert 28 9 (.slice b4 m4 c4)).run Try.prog w' = .ok (.string S) w') := x4
  have HX5 : Hid (∀ w', Below w5.heap.size w5 w' → (convert 28 9 (.slice b5 m5 c5)).run Try.prog w' = .ok (.string S) w') := x5
  have HBZ : Hid (Below w5.heap.size w5 w5.drew) := below_drew (Below.refl _ _)
  clear x4 x5
  go_wp2
  have HSL : Hid (∀ w', Below w3.heap.size w3 w' → Below w5.heap.size w5 w' → w'.cell? ⟨w1.heap.size, 0, none⟩ = some (.int .i64 6) ∧ w'.cell? ⟨w1.heap.size, 1, none⟩ = some (.int .i64 pp) ∧ w'.cell? ⟨w1.heap.size, 2, none⟩ = some (.int .i64 ps) ∧ w'.cell? ⟨w1.heap.size, 3, none⟩ = some (.int .i64 pn) ∧ w'.cell? ⟨w1.heap.size, 4, none⟩ = some (.int .i64 0) ∧ w'.cell? ⟨w1.heap.size, 5, none⟩ = some (.int .i64 0) ∧ w'.cell? ⟨w1.heap.size, 6, none⟩ = some (.slice xa xn xc) ∧ w'.cell? ⟨w1.heap.size, 7, none⟩ = some (.slice ya ym yc) ∧ w'.cell? ⟨w1.heap.size + 1, 0, none⟩ = some (.int .i64 6) ∧ w'.cell? ⟨w1.heap.size + 1, 1, none⟩ = some (.int .i64 pp) ∧ w'.cell? ⟨w1.heap.size + 1, 2, none⟩ = some (.int .i64 ps) ∧ w'.cell? ⟨w1.heap.size + 1, 3, none⟩ = some (.int .i64 pn) ∧ w'.cell? ⟨w1.heap.size + 1, 4, none⟩ = some (.int .i64 qf) ∧ w'.cell? ⟨w1.heap.size + 1, 5, none⟩ = some (.int .i64 qt) ∧ w'.cell? ⟨w1.heap.size + 1, 6, none⟩ = some (.slice ta tn tc) ∧ w'.cell? ⟨w1.heap.size + 1, 7, none⟩ = some (.slice ja jm jc) ∧ (convert 28 9 (.slice b4 m4 c4)).run Try.prog w' = .ok (.string S) w' ∧ (convert 28 9 (.slice b5 m5 c5)).run Try.prog w' = .ok (.string S) w') := fun w' h h' => by obtain ⟨g0, g1, g2, g3, g4, g5, g6, g7, g8, g9, g10, g11, g12, g13, g14, g15⟩ := HSK.out w' h; exact ⟨g0, g1, g2, g3, g4, g5, g6, g7, g8, g9, g10, g11, g12, g13, g14, g15, HX45.out w' h', HX5.out w' h'⟩
  clear HSK HX45 HX5 HO45 HO5 HSS HB34 HCXP HCYP HW2 HW3 HW0 hqy hxy fy
  go_region_held3 (fun w' => w'.cell? ⟨w1.heap.size, 0, none⟩ = some (.int .i64 6) ∧ w'.cell? ⟨w1.heap.size, 1, none⟩ = some (.int .i64 pp) ∧ w'.cell? ⟨w1.heap.size, 2, none⟩ = some (.int .i64 ps) ∧ w'.cell? ⟨w1.heap.size, 3, none⟩ = some (.int .i64 pn) ∧ w'.cell? ⟨w1.heap.size, 4, none⟩ = some (.int .i64 0) ∧ w'.cell? ⟨w1.heap.size, 5, none⟩ = some (.int .i64 0) ∧ w'.cell? ⟨w1.heap.size, 6, none⟩ = some (.slice xa xn xc) ∧ w'.cell? ⟨w1.heap.size, 7, none⟩ = some (.slice ya ym yc) ∧ w'.cell? ⟨w1.heap.size + 1, 0, none⟩ = some (.int .i64 6) ∧ w'.cell? ⟨w1.heap.size + 1, 1, none⟩ = some (.int .i64 pp) ∧ w'.cell? ⟨w1.heap.size + 1, 2, none⟩ = some (.int .i64 ps) ∧ w'.cell? ⟨w1.heap.size + 1, 3, none⟩ = some (.int .i64 pn) ∧ w'.cell? ⟨w1.heap.size + 1, 4, none⟩ = some (.int .i64 qf) ∧ w'.cell? ⟨w1.heap.size + 1, 5, none⟩ = some (.int .i64 qt) ∧ w'.cell? ⟨w1.heap.size + 1, 6, none⟩ = some (.slice ta tn tc) ∧ w'.cell? ⟨w1.heap.size + 1, 7, none⟩ = some (.slice ja jm jc) ∧ (convert 28 9 (.slice b4 m4 c4)).run Try.prog w' = .ok (.string S) w' ∧ (convert 28 9 (.slice b5 m5 c5)).run Try.prog w' = .ok (.string S) w') (first | with_reducible exact HSL.out _ HB.out HBZ.out | with_reducible exact HSL.out _ HB5.out (Below.refl _ _) | fail)
    (first
      | (go_at_call 6; refine (law_live13 _).mono ?_; rintro e w6 ⟨rfl, hb6⟩; have HB' : Hid (Below w3.heap.size w3 w6) := HB.out.trans (hb6.mono HB.out.size); have HZ' : Hid (Below w5.heap.size w5 w6) := HBZ.out.trans (hb6.mono HBZ.out.size); clear hb6 HB HBZ; have HB := HB'; have HBZ := HZ'; clear HB' HZ')
      | (go_at_call 7; refine (HCC.out _ HB.out _ (by first | exact Or.inl rfl | exact Or.inr rfl)).mono ?_; rintro e w7 ⟨rfl, hb7⟩; have HB' : Hid (Below w3.heap.size w3 w7) := HB.out.trans (hb7.mono HB.out.size); have HZ' : Hid (Below w5.heap.size w5 w7) := HBZ.out.trans (hb7.mono HBZ.out.size); clear hb7 HB HBZ; have HB := HB'; have HBZ := HZ'; clear HB' HZ'))
  all_goals (
    go_wp2
    go_ret
    exact ⟨by simp, HB3.out.trans (HB.out.mono HB3.out.size)⟩ )

set_option maxRecDepth 100000 in
set_option maxHeartbeats 4000000 in
theorem walk_b (pk pp ps pn pf pt : Int) (pl : List Sp) (pi : List It) (sa : Option Addr) (sn sc : Nat) (ia : Option Addr) (im ic : Nat) (qk qp qs qn qf qt : Int) (ql : List Sp) (qi : List It) (ta : Option Addr) (tn tc : Nat) (ja : Option Addr) (jm jc : Nat) (w : World) (hk : isB pk = false) (hp : PcRd w ⟨pk, pp, ps, pn, pf, pt, pl, pi⟩ sa sn sc ia im ic) (hbg : PcBig ⟨pk, pp, ps, pn, pf, pt, pl, pi⟩ sa sc ia ic) (hq : PcRd w ⟨qk, qp, qs, qn, qf, qt, ql, qi⟩ ta tn tc ja jm jc) :
    Calls Try.prog 3 #[Pc.val ⟨pk, pp, ps, pn, pf, pt, pl, pi⟩ sa sn sc ia im ic, Pc.val ⟨qk, qp, qs, qn, qf, qt, ql, qi⟩ ta tn tc ja jm jc] w fun e w' => e = .returned (.bool true) ∧ Below w.heap.size w w' := by
  have HQW : Hid (PcRd w ⟨qk, qp, qs, qn, qf, qt, ql, qi⟩ ta tn tc ja jm jc) := hq
  have hks : ¬ pk = 1 ∧ ¬ pk = 2 ∧ ¬ pk = 4 ∧ ¬ pk = 6 := by have := hk; simp only [isB, decide_eq_false_iff_not] at this; omega
  obtain ⟨hk1, hk2, hk4, hk6⟩ := hks
  have hkb1 : (pk == 1) = false := by simpa using hk1
  have hkb2 : (pk == 2) = false := by simpa using hk2
  have hkb4 : (pk == 4) = false := by simpa using hk4
  have hkb6 : (pk == 6) = false := by simpa using hk6
  have hkn1 : (pk != 1) = true := by simpa using hk1
  obtain ⟨W0, HW0⟩ : ∃ W0, Hid (W0 = ((w.alloc (.cells #[.int .i64 pk, .int .i64 pp, .int .i64 ps, .int .i64 pn, .int .i64 pf, .int .i64 pt, .slice sa sn sc, .slice ia im ic] 26)).alloc (.cells #[.int .i64 qk, .int .i64 qp, .int .i64 qs, .int .i64 qn, .int .i64 qf, .int .i64 qt, .slice ta tn tc, .slice ja jm jc] 26))) := ⟨_, rfl⟩
  have HB0 : Hid (Below w.heap.size w W0) := by rw [HW0.out]; exact (below_new w _).alloc (by simp) _
  have HQ0 : Hid (Bk W0 (w.heap.size + 1) #[.int .i64 qk, .int .i64 qp, .int .i64 qs, .int .i64 qn, .int .i64 qf, .int .i64 qt, .slice ta tn tc, .slice ja jm jc] 26) := by
    rw [HW0.out]
    have h := Bk.new (w.alloc (.cells #[.int .i64 pk, .int .i64 pp, .int .i64 ps, .int .i64 pn, .int .i64 pf, .int .i64 pt, .slice sa sn sc, .slice ia im ic] 26)) #[.int .i64 qk, .int .i64 qp, .int .i64 qs, .int .i64 qn, .int .i64 qf, .int .i64 qt, .slice ta tn tc, .slice ja jm jc] 26
    rw [show (w.alloc (.cells #[.int .i64 pk, .int .i64 pp, .int .i64 ps, .int .i64 pn, .int .i64 pf, .int .i64 pt, .slice sa sn sc, .slice ia im ic] 26)).heap.size = w.heap.size + 1 from by simp] at h
    exact h
  have hcl := ref_Plain13 ⟨pk, pp, ps, pn, pf, pt, pl, pi⟩ sa sn sc ia im ic W0 (hp.below HB0.out) hbg
  rw [plainQ_bad (p := ⟨pk, pp, ps, pn, pf, pt, pl, pi⟩) hk] at hcl
  have HCL : Hid (Calls Try.prog 4 #[Pc.val ⟨pk, pp, ps, pn, pf, pt, pl, pi⟩ sa sn sc ia im ic] W0 fun e w' => Hid (PlainTold W0 w' ⟨pk, 0, 0, 0, 0, 0, [], []⟩ e) ∧ Below W0.heap.size W0 w') := hcl
  have HEA : Hid (∀ x ∈ (⟨pk, 0, 0, 0, 0, 0, [], []⟩ : Pc).items, ((-9223372036854775808 : Int) ≤ x.tick ∧ x.tick ≤ 9223372036854775807) ∧ (0 ≤ x.for_ ∧ x.for_ ≤ 4294967295)) := fun x hx => by cases hx
  clear hcl hp hbg hq 
  obtain ⟨C, HCX⟩ : ∃ C, Hid (C = chk ⟨pk, 0, 0, 0, 0, 0, [], []⟩) := ⟨_, rfl⟩
  have HCY : Hid (chk ⟨pk, 0, 0, 0, 0, qt, ql, qi⟩ = C) := by show _ = _; rw [HCX.out]; rw [chk_type (p := ⟨pk, 0, 0, 0, 0, qt, ql, qi⟩) hk, chk_type (p := ⟨pk, 0, 0, 0, 0, 0, [], []⟩) hk]
  obtain ⟨D, HDX⟩ : ∃ D, Hid (D = putD ⟨pk, 0, 0, 0, 0, 0, [], []⟩) := ⟨_, rfl⟩
  have HDY : Hid (putD ⟨pk, 0, 0, 0, 0, qt, ql, qi⟩ = D) := by show _ = _; rw [HDX.out, putD, putD, HCY.out, ← HCX.out]; rw [if_neg (by rw [HCX.out, chk_type (p := ⟨pk, 0, 0, 0, 0, 0, [], []⟩) hk]; decide), if_neg (by rw [HCX.out, chk_type (p := ⟨pk, 0, 0, 0, 0, 0, [], []⟩) hk]; decide)]
  clear hk
  go_enter Try.func3, Try.ntmps3
  go_wp2_with fail
  rw [← HW0.out]
  refine HCL.out.mono ?_
  rintro e w1 ⟨ht, hb1⟩
  obtain ⟨xa, xn, xc, ya, ym, yc, he, hx⟩ := ht.out.rd HEA.out
  unfold Pc.val at he
  simp only at he
  subst he
  have HB1 : Hid (Below w.heap.size w w1) := HB0.out.trans (hb1.mono HB0.out.size)
  have hq1 : Bk w1 (w.heap.size + 1) #[.int .i64 qk, .int .i64 qp, .int .i64 qs, .int .i64 qn, .int .i64 qf, .int .i64 qt, .slice ta tn tc, .slice ja jm jc] 26 := HQ0.out.stay hb1
  obtain ⟨w2, HW2⟩ : ∃ w2, Hid (w2 = (w1.alloc (.cells #[.int .i64 pk, .int .i64 0, .int .i64 0, .int .i64 0, .int .i64 0, .int .i64 0, .slice xa xn xc, .slice ya ym yc] 26)).alloc (.cells #[.int .i64 pk, .int .i64 0, .int .i64 0, .int .i64 0, .int .i64 0, .int .i64 0, .slice xa xn xc, .slice ya ym yc] 26)) := ⟨_, rfl⟩
  have HB12 : Hid (Below w1.heap.size w1 w2) := by rw [HW2.out]; exact (below_new w1 _).alloc (by simp) _
  have HQ2 : Hid (Bk w2 (w.heap.size + 1) #[.int .i64 qk, .int .i64 qp, .int .i64 qs, .int .i64 qn, .int .i64 qf, .int .i64 qt, .slice ta tn tc, .slice ja jm jc] 26) := hq1.stay HB12.out
  have HX2 : Hid (Bk w2 w1.heap.size #[.int .i64 pk, .int .i64 0, .int .i64 0, .int .i64 0, .int .i64 0, .int .i64 0, .slice xa xn xc, .slice ya ym yc] 26) := by rw [HW2.out]; exact (Bk.new w1 _ _).stay (below_new _ _)
  have HY2 : Hid (Bk w2 (w1.heap.size + 1) #[.int .i64 pk, .int .i64 0, .int .i64 0, .int .i64 0, .int .i64 0, .int .i64 0, .slice xa xn xc, .slice ya ym yc] 26) := by
    rw [HW2.out]
    have h := Bk.new (w1.alloc (.cells #[.int .i64 pk, .int .i64 0, .int .i64 0, .int .i64 0, .int .i64 0, .int .i64 0, .slice xa xn xc, .slice ya ym yc] 26)) #[.int .i64 pk, .int .i64 0, .int .i64 0, .int .i64 0, .int .i64 0, .int .i64 0, .slice xa xn xc, .slice ya ym yc] 26
    rw [show (w1.alloc (.cells #[.int .i64 pk, .int .i64 0, .int .i64 0, .int .i64 0, .int .i64 0, .int .i64 0, .slice xa xn xc, .slice ya ym yc] 26)).heap.size = w1.heap.size + 1 from by simp] at h
    exact h
  have HXR : Hid (PcRd w1 ⟨pk, 0, 0, 0, 0, 0, [], []⟩ xa xn xc ya ym yc) := hx
  have HB2 : Hid (Below w.heap.size w w2) := HB1.out.trans (HB12.out.mono HB1.out.size)
  have hqy : w.heap.size + 1 ≠ w1.heap.size + 1 := by have h1 := hq1.lt; have h2 := HB0.out.size; omega
  have hxy : w1.heap.size ≠ w1.heap.size + 1 := by omega
  clear ht hb1 hx hq1 HQ0 HCL HB0
  have e0 : w2.cell? ⟨w.heap.size + 1, 0, none⟩ = some (.int .i64 qk) := HQ2.out.cell 0 rfl
  have e1 : w2.cell? ⟨w.heap.size + 1, 1, none⟩ = some (.int .i64 qp) := HQ2.out.cell 1 rfl
  have e2 : w2.cell? ⟨w.heap.size + 1, 2, none⟩ = some (.int .i64 qs) := HQ2.out.cell 2 rfl
  have e3 : w2.cell? ⟨w.heap.size + 1, 3, none⟩ = some (.int .i64 qn) := HQ2.out.cell 3 rfl
  have e4 : w2.cell? ⟨w.heap.size + 1, 4, none⟩ = some (.int .i64 qf) := HQ2.out.cell 4 rfl
  have e5 : w2.cell? ⟨w.heap.size + 1, 5, none⟩ = some (.int .i64 qt) := HQ2.out.cell 5 rfl
  have e6 : w2.cell? ⟨w.heap.size + 1, 6, none⟩ = some (.slice ta tn tc) := HQ2.out.cell 6 rfl
  have e7 : w2.cell? ⟨w.heap.size + 1, 7, none⟩ = some (.slice ja jm jc) := HQ2.out.cell 7 rfl
  have x0 : w2.cell? ⟨w1.heap.size, 0, none⟩ = some (.int .i64 pk) := HX2.out.cell 0 rfl
  have x1 : w2.cell? ⟨w1.heap.size, 1, none⟩ = some (.int .i64 0) := HX2.out.cell 1 rfl
  have x2 : w2.cell? ⟨w1.heap.size, 2, none⟩ = some (.int .i64 0) := HX2.out.cell 2 rfl
  have x3 : w2.cell? ⟨w1.heap.size, 3, none⟩ = some (.int .i64 0) := HX2.out.cell 3 rfl
  have x4 : w2.cell? ⟨w1.heap.size, 4, none⟩ = some (.int .i64 0) := HX2.out.cell 4 rfl
  have x5 : w2.cell? ⟨w1.heap.size, 5, none⟩ = some (.int .i64 0) := HX2.out.cell 5 rfl
  have x6 : w2.cell? ⟨w1.heap.size, 6, none⟩ = some (.slice xa xn xc) := HX2.out.cell 6 rfl
  have x7 : w2.cell? ⟨w1.heap.size, 7, none⟩ = some (.slice ya ym yc) := HX2.out.cell 7 rfl
  have y0 : w2.cell? ⟨w1.heap.size + 1, 0, none⟩ = some (.int .i64 pk) := HY2.out.cell 0 rfl
  have y1 : w2.cell? ⟨w1.heap.size + 1, 1, none⟩ = some (.int .i64 0) := HY2.out.cell 1 rfl
  have y2 : w2.cell? ⟨w1.heap.size + 1, 2, none⟩ = some (.int .i64 0) := HY2.out.cell 2 rfl
  have y3 : w2.cell? ⟨w1.heap.size + 1, 3, none⟩ = some (.int .i64 0) := HY2.out.cell 3 rfl
  have y4 : w2.cell? ⟨w1.heap.size + 1, 4, none⟩ = some (.int .i64 0) := HY2.out.cell 4 rfl
  have y5 : w2.cell? ⟨w1.heap.size + 1, 5, none⟩ = some (.int .i64 0) := HY2.out.cell 5 rfl
  have y6 : w2.cell? ⟨w1.heap.size + 1, 6, none⟩ = some (.slice xa xn xc) := HY2.out.cell 6 rfl
  have y7 : w2.cell? ⟨w1.heap.size + 1, 7, none⟩ = some (.slice ya ym yc) := HY2.out.cell 7 rfl
  have fy : ∀ i, w2.frozen? ⟨w1.heap.size + 1, i, none⟩ = false := fun i => HY2.out.free i
  obtain ⟨w3, HW3⟩ : ∃ w3, Hid (w3 = (((w2.setCell ⟨w1.heap.size + 1, 6, none⟩ (.slice ta tn tc)).setCell ⟨w1.heap.size + 1, 7, none⟩ (.slice ja jm jc)).setCell ⟨w1.heap.size + 1, 5, none⟩ (.int .i64 qt)).drew) := ⟨_, rfl⟩
  have HY3 : Hid (Bk w3 (w1.heap.size + 1) #[.int .i64 pk, .int .i64 0, .int .i64 0, .int .i64 0, .int .i64 0, .int .i64 qt, .slice ta tn tc, .slice ja jm jc] 26) := by
    rw [HW3.out]
    have s0 : Bk (w2.setCell ⟨w1.heap.size + 1, 6, none⟩ (.slice ta tn tc)) (w1.heap.size + 1) #[.int .i64 pk, .int .i64 0, .int .i64 0, .int .i64 0, .int .i64 0, .int .i64 0, .slice ta tn tc, .slice ya ym yc] 26 := bk_step HY2.out 6 _ rfl
    have s1 : Bk ((w2.setCell ⟨w1.heap.size + 1, 6, none⟩ (.slice ta tn tc)).setCell ⟨w1.heap.size + 1, 7, none⟩ (.slice ja jm jc)) (w1.heap.size + 1) #[.int .i64 pk, .int .i64 0, .int .i64 0, .int .i64 0, .int .i64 0, .int .i64 0, .slice ta tn tc, .slice ja jm jc] 26 := bk_step s0 7 _ rfl
    have s2 : Bk (((w2.setCell ⟨w1.heap.size + 1, 6, none⟩ (.slice ta tn tc)).setCell ⟨w1.heap.size + 1, 7, none⟩ (.slice ja jm jc)).setCell ⟨w1.heap.size + 1, 5, none⟩ (.int .i64 qt)) (w1.heap.size + 1) #[.int .i64 pk, .int .i64 0, .int .i64 0, .int .i64 0, .int .i64 0, .int .i64 qt, .slice ta tn tc, .slice ja jm jc] 26 := bk_step s1 5 _ rfl
    exact s2
  have HX3 : Hid (Bk w3 w1.heap.size #[.int .i64 pk, .int .i64 0, .int .i64 0, .int .i64 0, .int .i64 0, .int .i64 0, .slice xa xn xc, .slice ya ym yc] 26) := by rw [HW3.out]; exact (((HX2.out.other _ _ (by show w1.heap.size ≠ w1.heap.size + 1; omega)).other _ _ (by show w1.heap.size ≠ w1.heap.size + 1; omega)).other _ _ (by show w1.heap.size ≠ w1.heap.size + 1; omega))
  have HB13 : Hid (Below w1.heap.size w1 w3) := by rw [HW3.out]; exact (below_drew (((HB12.out.setCell (by show w1.heap.size ≤ w1.heap.size + 1; omega) _).setCell (by show w1.heap.size ≤ w1.heap.size + 1; omega) _).setCell (by show w1.heap.size ≤ w1.heap.size + 1; omega) _))
  have HB3 : Hid (Below w.heap.size w w3) := HB1.out.trans (HB13.out.mono HB1.out.size)
  have HXR3 : Hid (PcRd w3 ⟨pk, 0, 0, 0, 0, 0, [], []⟩ xa xn xc ya ym yc) := HXR.out.below HB13.out
  have HYR3 : Hid (PcRd w3 ⟨pk, 0, 0, 0, 0, qt, ql, qi⟩ ta tn tc ja jm jc) := by
    have h := HQW.out.below HB3.out
    exact ⟨h.spans, h.items, h.sl, h.sm, h.il, h.im_⟩
  have HCXP : Hid (∀ w', Below w3.heap.size w3 w' → Calls Try.prog 5 #[.agg #[.int .i64 pk, .int .i64 0, .int .i64 0, .int .i64 0, .int .i64 0, .int .i64 0, .slice xa xn xc, .slice ya ym yc]] w' fun e w'' => (∃ b m c, e = .returned (.tuple #[.slice b m c, .int .i64 C]) ∧ Own w'' w'.heap.size b m c D) ∧ Below w'.heap.size w' w'') := by
    intro w' hb
    have h := pc_Put ⟨pk, 0, 0, 0, 0, 0, [], []⟩ xa xn xc ya ym yc w' (HXR3.out.below hb)
    unfold PutTold at h
    rw [← HCX.out, ← HDX.out] at h
    exact h
  have HCYP : Hid (∀ w', Below w3.heap.size w3 w' → Calls Try.prog 5 #[.agg #[.int .i64 pk, .int .i64 0, .int .i64 0, .int .i64 0, .int .i64 0, .int .i64 qt, .slice ta tn tc, .slice ja jm jc]] w' fun e w'' => (∃ b m c, e = .returned (.tuple #[.slice b m c, .int .i64 C]) ∧ Own w'' w'.heap.size b m c D) ∧ Below w'.heap.size w' w'') := by
    intro w' hb
    have h := pc_Put ⟨pk, 0, 0, 0, 0, qt, ql, qi⟩ ta tn tc ja jm jc w' (HYR3.out.below hb)
    unfold PutTold at h
    rw [HCY.out, HDY.out] at h
    exact h
  have HCXC : Hid (∀ w', Below w3.heap.size w3 w' → Calls Try.prog 7 #[.agg #[.int .i64 pk, .int .i64 0, .int .i64 0, .int .i64 0, .int .i64 0, .int .i64 0, .slice xa xn xc, .slice ya ym yc]] w' fun e w'' => e = .returned (.int .i64 C) ∧ Below w'.heap.size w' w'') := by
    intro w' hb
    have h := pc_Check ⟨pk, 0, 0, 0, 0, 0, [], []⟩ xa xn xc ya ym yc w' (HXR3.out.below hb)
    rw [← HCX.out] at h
    exact h
  have HCYC : Hid (∀ w', Below w3.heap.size w3 w' → Calls Try.prog 7 #[.agg #[.int .i64 pk, .int .i64 0, .int .i64 0, .int .i64 0, .int .i64 0, .int .i64 qt, .slice ta tn tc, .slice ja jm jc]] w' fun e w'' => e = .returned (.int .i64 C) ∧ Below w'.heap.size w' w'') := by
    intro w' hb
    have h := pc_Check ⟨pk, 0, 0, 0, 0, qt, ql, qi⟩ ta tn tc ja jm jc w' (HYR3.out.below hb)
    rw [HCY.out] at h
    exact h
  have HCC : Hid (∀ w', Below w3.heap.size w3 w' → ∀ v, v = Value.agg #[.int .i64 pk, .int .i64 0, .int .i64 0, .int .i64 0, .int .i64 0, .int .i64 0, .slice xa xn xc, .slice ya ym yc] ∨ v = Value.agg #[.int .i64 pk, .int .i64 0, .int .i64 0, .int .i64 0, .int .i64 0, .int .i64 qt, .slice ta tn tc, .slice ja jm jc] → Calls Try.prog 7 #[v] w' fun e w'' => e = .returned (.int .i64 C) ∧ Below w'.heap.size w' w'') := by
    intro w' hb v hv
    rcases hv with rfl | rfl
    · exact HCXC.out w' hb
    · exact HCYC.out w' hb
  clear HCXC HCYC
  have HSK : Hid (∀ w', Below w3.heap.size w3 w' → w'.cell? ⟨w1.heap.size, 0, none⟩ = some (.int .i64 pk) ∧ w'.cell? ⟨w1.heap.size, 1, none⟩ = some (.int .i64 0) ∧ w'.cell? ⟨w1.heap.size, 2, none⟩ = some (.int .i64 0) ∧ w'.cell? ⟨w1.heap.size, 3, none⟩ = some (.int .i64 0) ∧ w'.cell? ⟨w1.heap.size, 4, none⟩ = some (.int .i64 0) ∧ w'.cell? ⟨w1.heap.size, 5, none⟩ = some (.int .i64 0) ∧ w'.cell? ⟨w1.heap.size, 6, none⟩ = some (.slice xa xn xc) ∧ w'.cell? ⟨w1.heap.size, 7, none⟩ = some (.slice ya ym yc) ∧ w'.cell? ⟨w1.heap.size + 1, 0, none⟩ = some (.int .i64 pk) ∧ w'.cell? ⟨w1.heap.size + 1, 1, none⟩ = some (.int .i64 0) ∧ w'.cell? ⟨w1.heap.size + 1, 2, none⟩ = some (.int .i64 0) ∧ w'.cell? ⟨w1.heap.size + 1, 3, none⟩ = some (.int .i64 0) ∧ w'.cell? ⟨w1.heap.size + 1, 4, none⟩ = some (.int .i64 0) ∧ w'.cell? ⟨w1.heap.size + 1, 5, none⟩ = some (.int .i64 qt) ∧ w'.cell? ⟨w1.heap.size + 1, 6, none⟩ = some (.slice ta tn tc) ∧ w'.cell? ⟨w1.heap.size + 1, 7, none⟩ = some (.slice ja jm jc)) := by
    intro w' hb
    have k := HX3.out.stay hb
    have l := HY3.out.stay hb
    exact ⟨k.cell 0 rfl, k.cell 1 rfl, k.cell 2 rfl, k.cell 3 rfl, k.cell 4 rfl, k.cell 5 rfl, k.cell 6 rfl, k.cell 7 rfl, l.cell 0 rfl, l.cell 1 rfl, l.cell 2 rfl, l.cell 3 rfl, l.cell 4 rfl, l.cell 5 rfl, l.cell 6 rfl, l.cell 7 rfl⟩
  clear HQW HXR HXR3 HYR3 HCX HCY HDX HDY HQ2 HX2 HY2 HX3 HY3 HB12 HB2 HEA
  go_wp2
  rw [← HW2.out]
  go_region
  go_wp2_with fail
  rw [← HW3.out]
  refine (HCXP.out _ (Below.refl _ _)).mono ?_
  rintro e w4 ⟨⟨b4, m4, c4, he, ho4⟩, hb4⟩
  subst he
  have HO4 : Hid (Rd w4 b4 m4 D) := ho4.rd
  have HB34 : Hid (Below w3.heap.size w3 w4) := hb4
  clear ho4 hb4 x0 y0 e0 x1 y1 e1 x2 y2 e2 x3 y3 e3 x4 y4 e4 x5 y5 e5 x6 y6 e6 x7 y7 e7
  obtain ⟨g0, g1, g2, g3, g4, g5, g6, g7, g8, g9, g10, g11, g12, g13, g14, g15⟩ := HSK.out _ HB34.out
  go_wp2_with fail
  refine (HCYP.out _ HB34.out).mono ?_
  rintro e w5 ⟨⟨b5, m5, c5, he, ho5⟩, hb5⟩
  subst he
  have HO5 : Hid (Rd w5 b5 m5 D) := ho5.rd
  have HO45 : Hid (Rd w5 b4 m4 D) := HO4.out.below hb5
  have HB : Hid (Below w3.heap.size w3 w5.drew) := below_drew (HB34.out.trans (hb5.mono HB34.out.size))
  have HB5 : Hid (Below w3.heap.size w3 w5) := HB34.out.trans (hb5.mono HB34.out.size)
  clear ho5 hb5 HO4 g0 g1 g2 g3 g4 g5 g6 g7 g8 g9 g10 g11 g12 g13 g14 g15
  obtain ⟨S, HSS⟩ : ∃ S, Hid (S = str D) := ⟨_, rfl⟩
  have x4 : ∀ w', Below w5.heap.size w5 w' → (convert 28 9 (.slice b4 m4 c4)).run Try.prog w' = .ok (.string S) w' := fun w' h => by rw [conv_rd (HO45.out.below h) c4, HSS.out]
  have x5 : ∀ w', Below w5.heap.size w5 w' → (convert 28 9 (.slice b5 m5 c5)).run Try.prog w' = .ok (.string S) w' := fun w' h => by rw [conv_rd (HO5.out.below h) c5, HSS.out]
  have HX45 : Hid (∀ w', Below w5.heap.size w5 w' → (convert 28 9 (.slice b4 m4 c4)).run Try.prog w' = .ok (.string S) w') := x4
  have HX5 : Hid (∀ w', Below w5.heap.size w5 w' → (convert 28 9 (.slice b5 m5 c5)).run Try.prog w' = .ok (.string S) w') := x5
  have HBZ : Hid (Below w5.heap.size w5 w5.drew) := below_drew (Below.refl _ _)
  clear x4 x5
  go_wp2
  have HSL : Hid (∀ w', Below w3.heap.size w3 w' → Below w5.heap.size w5 w' → w'.cell? ⟨w1.heap.size, 0, none⟩ = some (.int .i64 pk) ∧ w'.cell? ⟨w1.heap.size, 1, none⟩ = some (.int .i64 0) ∧ w'.cell? ⟨w1.heap.size, 2, none⟩ = some (.int .i64 0) ∧ w'.cell? ⟨w1.heap.size, 3, none⟩ = some (.int .i64 0) ∧ w'.cell? ⟨w1.heap.size, 4, none⟩ = some (.int .i64 0) ∧ w'.cell? ⟨w1.heap.size, 5, none⟩ = some (.int .i64 0) ∧ w'.cell? ⟨w1.heap.size, 6, none⟩ = some (.slice xa xn xc) ∧ w'.cell? ⟨w1.heap.size, 7, none⟩ = some (.slice ya ym yc) ∧ w'.cell? ⟨w1.heap.size + 1, 0, none⟩ = some (.int .i64 pk) ∧ w'.cell? ⟨w1.heap.size + 1, 1, none⟩ = some (.int .i64 0) ∧ w'.cell? ⟨w1.heap.size + 1, 2, none⟩ = some (.int .i64 0) ∧ w'.cell? ⟨w1.heap.size + 1, 3, none⟩ = some (.int .i64 0) ∧ w'.cell? ⟨w1.heap.size + 1, 4, none⟩ = some (.int .i64 0) ∧ w'.cell? ⟨w1.heap.size + 1, 5, none⟩ = some (.int .i64 qt) ∧ w'.cell? ⟨w1.heap.size + 1, 6, none⟩ = some (.slice ta tn tc) ∧ w'.cell? ⟨w1.heap.size + 1, 7, none⟩ = some (.slice ja jm jc) ∧ (convert 28 9 (.slice b4 m4 c4)).run Try.prog w' = .ok (.string S) w' ∧ (convert 28 9 (.slice b5 m5 c5)).run Try.prog w' = .ok (.string S) w') := fun w' h h' => by obtain ⟨g0, g1, g2, g3, g4, g5, g6, g7, g8, g9, g10, g11, g12, g13, g14, g15⟩ := HSK.out w' h; exact ⟨g0, g1, g2, g3, g4, g5, g6, g7, g8, g9, g10, g11, g12, g13, g14, g15, HX45.out w' h', HX5.out w' h'⟩
  clear HSK HX45 HX5 HO45 HO5 HSS HB34 HCXP HCYP HW2 HW3 HW0 hqy hxy fy
  go_region_held3 (fun w' => w'.cell? ⟨w1.heap.size, 0, none⟩ = some (.int .i64 pk) ∧ w'.cell? ⟨w1.heap.size, 1, none⟩ = some (.int .i64 0) ∧ w'.cell? ⟨w1.heap.size, 2, none⟩ = some (.int .i64 0) ∧ w'.cell? ⟨w1.heap.size, 3, none⟩ = some (.int .i64 0) ∧ w'.cell? ⟨w1.heap.size, 4, none⟩ = some (.int .i64 0) ∧ w'.cell? ⟨w1.heap.size, 5, none⟩ = some (.int .i64 0) ∧ w'.cell? ⟨w1.heap.size, 6, none⟩ = some (.slice xa xn xc) ∧ w'.cell? ⟨w1.heap.size, 7, none⟩ = some (.slice ya ym yc) ∧ w'.cell? ⟨w1.heap.size + 1, 0, none⟩ = some (.int .i64 pk) ∧ w'.cell? ⟨w1.heap.size + 1, 1, none⟩ = some (.int .i64 0) ∧ w'.cell? ⟨w1.heap.size + 1, 2, none⟩ = some (.int .i64 0) ∧ w'.cell? ⟨w1.heap.size + 1, 3, none⟩ = some (.int .i64 0) ∧ w'.cell? ⟨w1.heap.size + 1, 4, none⟩ = some (.int .i64 0) ∧ w'.cell? ⟨w1.heap.size + 1, 5, none⟩ = some (.int .i64 qt) ∧ w'.cell? ⟨w1.heap.size + 1, 6, none⟩ = some (.slice ta tn tc) ∧ w'.cell? ⟨w1.heap.size + 1, 7, none⟩ = some (.slice ja jm jc) ∧ (convert 28 9 (.slice b4 m4 c4)).run Try.prog w' = .ok (.string S) w' ∧ (convert 28 9 (.slice b5 m5 c5)).run Try.prog w' = .ok (.string S) w') (first | with_reducible exact HSL.out _ HB.out HBZ.out | with_reducible exact HSL.out _ HB5.out (Below.refl _ _) | fail)
    (first
      | (go_at_call 6; refine (law_live13 _).mono ?_; rintro e w6 ⟨rfl, hb6⟩; have HB' : Hid (Below w3.heap.size w3 w6) := HB.out.trans (hb6.mono HB.out.size); have HZ' : Hid (Below w5.heap.size w5 w6) := HBZ.out.trans (hb6.mono HBZ.out.size); clear hb6 HB HBZ; have HB := HB'; have HBZ := HZ'; clear HB' HZ')
      | (go_at_call 7; refine (HCC.out _ HB.out _ (by first | exact Or.inl rfl | exact Or.inr rfl)).mono ?_; rintro e w7 ⟨rfl, hb7⟩; have HB' : Hid (Below w3.heap.size w3 w7) := HB.out.trans (hb7.mono HB.out.size); have HZ' : Hid (Below w5.heap.size w5 w7) := HBZ.out.trans (hb7.mono HBZ.out.size); clear hb7 HB HBZ; have HB := HB'; have HBZ := HZ'; clear HB' HZ'))
  all_goals (
    go_wp2
    go_ret
    exact ⟨by simp, HB3.out.trans (HB.out.mono HB3.out.size)⟩ )

theorem walk (p : Pc) (sa : Option Addr) (sn sc : Nat) (ia : Option Addr) (im ic : Nat) (q : Pc) (ta : Option Addr) (tn tc : Nat) (ja : Option Addr) (jm jc : Nat) (w : World) (hp : PcRd w p sa sn sc ia im ic) (hbg : PcBig p sa sc ia ic) (hq : PcRd w q ta tn tc ja jm jc) :
    Calls Try.prog 3 #[p.val sa sn sc ia im ic, q.val ta tn tc ja jm jc] w fun e w' => e = .returned (.bool true) ∧ Below w.heap.size w w' := by
  obtain ⟨pk, pp, ps, pn, pf, pt, pl, pi⟩ := p
  obtain ⟨qk, qp, qs, qn, qf, qt, ql, qi⟩ := q
  cases hk : isB pk with
  | false => exact walk_b pk pp ps pn pf pt pl pi sa sn sc ia im ic qk qp qs qn qf qt ql qi ta tn tc ja jm jc w hk hp hbg hq
  | true =>
    rcases kinds hk with rfl | rfl | rfl | rfl | rfl | rfl
    · exact walk_1 pp ps pn pf pt pl pi sa sn sc ia im ic qk qp qs qn qf qt ql qi ta tn tc ja jm jc w hp hbg hq
    · exact walk_2 pp ps pn pf pt pl pi sa sn sc ia im ic qk qp qs qn qf qt ql qi ta tn tc ja jm jc w hp hbg hq
    · exact walk_3 pp ps pn pf pt pl pi sa sn sc ia im ic qk qp qs qn qf qt ql qi ta tn tc ja jm jc w hp hbg hq
    · exact walk_4 pp ps pn pf pt pl pi sa sn sc ia im ic qk qp qs qn qf qt ql qi ta tn tc ja jm jc w hp hbg hq
    · exact walk_5 pp ps pn pf pt pl pi sa sn sc ia im ic qk qp qs qn qf qt ql qi ta tn tc ja jm jc w hp hbg hq
    · exact walk_6 pp ps pn pf pt pl pi sa sn sc ia im ic qk qp qs qn qf qt ql qi ta tn tc ja jm jc w hp hbg hq

set_option maxRecDepth 100000 in
theorem contract (H : Type) (enc : TypeId × Value → H) (W : World) (base : Nat) (args : Array Value) (ds gs : List (DataW H)) (before : List MemPlace)
    (hval : ∀ (j : Nat) t v, Try.f3.params[j]? = some t → args[j]? = some v → Value.okWide Try.prog W .any base t v)
    (hW : DataW.Whole enc Try.prog Try.f3.params.toList Rows.parcelUnusedSpec.vars false W args.toList ds gs before) (hsz0 : (DataW.weightsEach Try.prog (Try.f3.params.toList ++ Rows.parcelUnusedSpec.plain.varTypes Try.prog) (ds ++ gs)).all (· ≤ reachBytes) = true) :
    Calls Try.prog 3 args W fun e W' => ∃ v, e = .returned v ∧ Rows.parcelUnusedSpec.post enc Try.prog Try.f3 false true false false W args v W' := by
  have hW' := hW
  obtain ⟨p, q, hA0, hV, rfl, hfz, hnd⟩ := hW
  have hA : DataW.TrodAll enc Try.prog W 0 (fun _ => true) true Try.f3.params.toList args.toList ds p := hA0
  have hK := hA
  have hsz := hsz0
  rw [Try.params3] at hA hval hsz
  obtain ⟨v0, vs0, d0, ds0, p0, q0, hargs, rfl, rfl, h0, r0⟩ := trodAll_cons hA
  obtain ⟨v1, vs1, d1, ds1, p1, q1, rfl, rfl, rfl, h1, r1⟩ := trodAll_cons r0
  obtain ⟨rfl, rfl, rfl⟩ := trodAll_nil r1
  obtain rfl : args = #[v0, v1] := by cases args; simp_all
  obtain ⟨rfl, rfl⟩ := trodVars_none hV
  have hw0 : ∀ y ∈ DataW.weights Try.prog 26 d0, y ≤ reachBytes := fun y hy => by have := List.all_eq_true.1 hsz _ (DataW.weights_mem_each (j := 0) rfl rfl y hy); simpa using this
  obtain ⟨q0, sa0, sn0, sc0, ia0, im0, ic0, rfl, pr0, pb0⟩ := open_parcel (hval 0 26 v0 rfl rfl) h0 hw0
  have hw1 : ∀ y ∈ DataW.weights Try.prog 26 d1, y ≤ reachBytes := fun y hy => by have := List.all_eq_true.1 hsz _ (DataW.weights_mem_each (j := 1) rfl rfl y hy); simpa using this
  obtain ⟨q1, sa1, sn1, sc1, ia1, im1, ic1, rfl, pr1, pb1⟩ := open_parcel (hval 1 26 v1 rfl rfl) h1 hw1
  refine (walk q0 sa0 sn0 sc0 ia0 im0 ic0 q1 sa1 sn1 sc1 ia1 im1 ic1 W pr0 pb0 pr1).mono fun e W' ⟨he, bel⟩ => ?_
  subst he
  exact ⟨_, rfl, _, _, _, [], _, [], hW', trodAll_mk1 (shut_bool Try.underlying4 _), trodAll_below laidOut bel _ _ _ _ (by kernel_rfl) hK, rfl, bel.frame _, fun h => by cases h⟩

set_option maxRecDepth 100000 in
theorem lifted (os : Os) (started : os.Started) (H : Type) (enc : TypeId × Value → H) :
    ReturnsInHanded {} Try.checked os 3 .any (Rows.parcelUnusedSpec.pre6 enc Try.prog Try.f3 Rows.parcelUnusedRow.domain false) (Rows.parcelUnusedSpec.post enc Try.prog Try.f3 false true false false) := by
  refine returnsInHanded_of_change_sized (C := Try.checked) own started (by kernel_rfl) Try.func3
    (ChangeSpec.witness6 (enc := enc) (C := Try.checked) false ⟨#[], #[.agg #[.int .i64 0, .int .i64 0, .int .i64 0, .int .i64 0, .int .i64 0, .int .i64 0, .slice none 0 0, .slice none 0 0], .agg #[.int .i64 0, .int .i64 0, .int .i64 0, .int .i64 0, .int .i64 0, .int .i64 0, .slice none 0 0, .slice none 0 0]], []⟩ 8 (by kernel_rfl) (by kernel_rfl) (by kernel_rfl) (by kernel_rfl)) ?_
  intro W base args ds gs before hval hW _ hsz _
  exact contract H enc W base args ds gs before hval hW hsz

theorem said : Rows.ParcelUnusedSaid :=
  OpenClaim.holds_of_wide 3 Try.f3 rfl rfl rfl rfl rfl rfl rfl ⟨rfl, rfl, rfl, rfl, rfl⟩ rfl rfl rfl rfl rfl (by kernel_rfl) Try.func3 (by kernel_rfl)
    (of_decide_eq_true (by kernel_rfl)) (by unfold Func.isWrapper; first | (rw [if_pos (by decide +kernel)]; kernel_rfl) | (rw [if_neg (by decide +kernel)]; exact ⟨rfl, rfl⟩))
    (fun os started H enc _ => lifted os started H enc)
end parcelUnused

theorem parcelUnused_holds : Rows.ParcelUnusedSaid := parcelUnused.said
end Go.Proofs.Ytjpkhefegpbooab

