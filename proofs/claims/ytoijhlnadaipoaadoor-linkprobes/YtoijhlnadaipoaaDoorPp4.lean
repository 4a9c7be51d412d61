/- parcel.Put of a Tell; of any parcel. -/
import Derived.Test.YtoijhlnadaipoaaDoorPp3
namespace Go.Proofs.YtoijhlnadaipoaaDoor
open Go.RowKit

theorem itE_zero {p : Pc} : ∀ (l : List It) (least : Int), itE p least l = 0 → ∀ q ∈ l, least ≤ q.tick ∧ q.tick ≤ p.to_ ∧ q.body.length ≤ 400
  | [], _, _, _, hq => by cases hq
  | q :: l, least, h, x, hx => by
    by_cases h1 : q.tick < least ∨ p.to_ < q.tick ∨ atS p.spans q.tick ≠ 0
    · rw [itE_tick h1] at h; cases h
    · by_cases h2 : 400 < q.body.length
      · rw [itE_long h1 h2] at h; cases h
      · rw [itE_next h1 h2] at h
        rcases List.mem_cons.1 hx with rfl | hx
        · exact ⟨by omega, by omega, by omega⟩
        · have := itE_zero l _ h x hx
          exact ⟨by omega, this.2.1, this.2.2⟩

set_option maxRecDepth 100000 in
set_option maxHeartbeats 4000000 in
theorem pc_Put_1 (pp ps pn pf pt : Int) (pl : List Sp) (pi : List It) (sa : Option Addr) (sn sc : Nat) (ia : Option Addr) (im ic : Nat) (w : World) (hp : PcRd w ⟨1, pp, ps, pn, pf, pt, pl, pi⟩ sa sn sc ia im ic) (hc : chk ⟨1, pp, ps, pn, pf, pt, pl, pi⟩ = 0) : Calls Tryd.prog 21 #[Pc.val ⟨1, pp, ps, pn, pf, pt, pl, pi⟩ sa sn sc ia im ic] w fun e w' => PutTold w' w.heap.size ⟨1, pp, ps, pn, pf, pt, pl, pi⟩ e ∧ Below w.heap.size w w' := by
  have HC0 : Hid (chk ⟨1, pp, ps, pn, pf, pt, pl, pi⟩ = 0) := hc
  obtain ⟨_, hnum, hnews⟩ := chk_zero hc
  have HNW : Hid (newsB 1 = true → ¬ (32 < pl.length ∨ 8 < pi.length) ∧ spB ⟨1, pp, ps, pn, pf, pt, pl, pi⟩ = true ∧ itE ⟨1, pp, ps, pn, pf, pt, pl, pi⟩ pf pi = 0) := hnews
  have hx_pub : 0 ≤ pp ∧ pp < 3 := by
    simp only [numB, pubB, namB, rngB, froB, subB, fromB, toB] at hnum
    simp at hnum
    omega
  obtain ⟨npp, hn_pub⟩ := Int.eq_ofNat_of_zero_le hx_pub.1
  have hl_pub : npp < 3 := by omega
  have hx_fr : 0 ≤ pf ∧ pf < 1099511627777 := by
    simp only [numB, pubB, namB, rngB, froB, subB, fromB, toB] at hnum
    simp at hnum
    omega
  obtain ⟨npf, hn_fr⟩ := Int.eq_ofNat_of_zero_le hx_fr.1
  have hl_fr : npf < 1099511627777 := by omega
  have hx_to_ : 0 ≤ pt ∧ pt < 1099511627777 := by
    simp only [numB, pubB, namB, rngB, froB, subB, fromB, toB] at hnum
    simp at hnum
    omega
  obtain ⟨npt, hn_to_⟩ := Int.eq_ofNat_of_zero_le hx_to_.1
  have hl_to_ : npt < 1099511627777 := by omega
  clear hx_pub hx_fr hx_to_ hnum hnews hc
  subst hn_pub hn_fr hn_to_
  have HPD : Hid (putD ⟨1, (npp : Int), ps, pn, (npf : Int), (npt : Int), pl, pi⟩ = [1] ++ (lebs [npp] ++ lebs [npf] ++ lebs [npt] ++ (putT pl ++ (lebs [pi.length] ++ putIs pi)))) := by
    show _ = _
    rw [putD, if_pos HC0.out]
    simp [putP, subB, fromB, toB, newsB]
  have HP : Hid (PcRd w ⟨1, (npp : Int), ps, pn, (npf : Int), (npt : Int), pl, pi⟩ sa sn sc ia im ic) := hp
  clear hp
  unfold Pc.val
  simp only
  have HBx : Hid (Below w.heap.size w (w.alloc (.cells #[.int .i64 1, .int .i64 (npp : Int), .int .i64 ps, .int .i64 pn, .int .i64 (npf : Int), .int .i64 (npt : Int), .slice sa sn sc, .slice ia im ic] 37))) := below_new _ _
  have HKx : Hid (Bk (w.alloc (.cells #[.int .i64 1, .int .i64 (npp : Int), .int .i64 ps, .int .i64 pn, .int .i64 (npf : Int), .int .i64 (npt : Int), .slice sa sn sc, .slice ia im ic] 37)) w.heap.size #[.int .i64 1, .int .i64 (npp : Int), .int .i64 ps, .int .i64 pn, .int .i64 (npf : Int), .int .i64 (npt : Int), .slice sa sn sc, .slice ia im ic] 37) := Bk.new _ _ _
  have hcs := pc_Check ⟨1, (npp : Int), ps, pn, (npf : Int), (npt : Int), pl, pi⟩ sa sn sc ia im ic _ (HP.out.below HBx.out)
  rw [HC0.out] at hcs
  have HCS : Hid (Calls Tryd.prog 35 #[Pc.val ⟨1, (npp : Int), ps, pn, (npf : Int), (npt : Int), pl, pi⟩ sa sn sc ia im ic] (w.alloc (.cells #[.int .i64 1, .int .i64 (npp : Int), .int .i64 ps, .int .i64 pn, .int .i64 (npf : Int), .int .i64 (npt : Int), .slice sa sn sc, .slice ia im ic] 37)) fun e w' => e = .returned (.int .i64 0) ∧ Below (w.alloc (.cells #[.int .i64 1, .int .i64 (npp : Int), .int .i64 ps, .int .i64 pn, .int .i64 (npf : Int), .int .i64 (npt : Int), .slice sa sn sc, .slice ia im ic] 37)).heap.size (w.alloc (.cells #[.int .i64 1, .int .i64 (npp : Int), .int .i64 ps, .int .i64 pn, .int .i64 (npf : Int), .int .i64 (npt : Int), .slice sa sn sc, .slice ia im ic] 37)) w') := hcs
  clear hcs
  go_enter Tryd.func21, Tryd.ntmps21
  go_wp2_with fail
  refine HCS.out.mono ?_
  rintro e w1 ⟨rfl, hb1⟩
  have HB1 : Hid (Below w.heap.size w w1) := HBx.out.trans (hb1.mono HBx.out.size)
  have HK1 : Hid (Bk w1 w.heap.size #[.int .i64 1, .int .i64 (npp : Int), .int .i64 ps, .int .i64 pn, .int .i64 (npf : Int), .int .i64 (npt : Int), .slice sa sn sc, .slice ia im ic] 37) := HKx.out.stay hb1
  clear hb1 HKx HBx HCS
  have a0 : w1.cell? ⟨w.heap.size, 0, none⟩ = some (.int .i64 1) := HK1.out.cell 0 rfl
  go_wp2_with fail
  refine (pc_usedBy 1 _).mono ?_
  rw [show subB 1 = false from rfl, show fromB 1 = true from rfl, show toB 1 = true from rfl, show newsB 1 = true from rfl, show isB 1 = true from rfl]
  rintro e w2 ⟨rfl, hb2⟩
  have HB2 : Hid (Below w.heap.size w w2) := HB1.out.trans (hb2.mono HB1.out.size)
  have HK2 : Hid (Bk w2 w.heap.size #[.int .i64 1, .int .i64 (npp : Int), .int .i64 ps, .int .i64 pn, .int .i64 (npf : Int), .int .i64 (npt : Int), .slice sa sn sc, .slice ia im ic] 37) := HK1.out.stay hb2
  clear hb2 a0 HK1
  have HBX : Below w2.heap.size w2 (w2.alloc (.cells #[.bool false, .bool true, .bool true, .bool true] 94)) := below_new _ _
  have HBX1 : Below w2.heap.size w2 ((w2.alloc (.cells #[.bool false, .bool true, .bool true, .bool true] 94)).alloc (.cells #[.int .u8 1] 5)) := HBX.alloc (by simp) _
  have HBX2 : Below w2.heap.size w2 (((w2.alloc (.cells #[.bool false, .bool true, .bool true, .bool true] 94)).alloc (.cells #[.int .u8 1] 5)).alloc (.cells #[.int .i64 (npp : Int)] 3)) := HBX1.alloc (by simp; omega) _
  have d0 : (w2.alloc (.cells #[.bool false, .bool true, .bool true, .bool true] 94)).cell? ⟨w.heap.size, 0, none⟩ = some (.int .i64 1) := (HK2.out.stay HBX).cell 0 rfl
  have d1 : ((w2.alloc (.cells #[.bool false, .bool true, .bool true, .bool true] 94)).alloc (.cells #[.int .u8 1] 5)).cell? ⟨w.heap.size, 1, none⟩ = some (.int .i64 (npp : Int)) := (HK2.out.stay HBX1).cell 1 rfl
  have HLT : Hid (w.heap.size < w2.heap.size) := HK2.out.lt
  have HK3 : Hid (Bk (((w2.alloc (.cells #[.bool false, .bool true, .bool true, .bool true] 94)).alloc (.cells #[.int .u8 1] 5)).alloc (.cells #[.int .i64 (npp : Int)] 3)) w.heap.size #[.int .i64 1, .int .i64 (npp : Int), .int .i64 ps, .int .i64 pn, .int .i64 (npf : Int), .int .i64 (npt : Int), .slice sa sn sc, .slice ia im ic] 37) := HK2.out.stay HBX2
  have HU3 : Hid (Bk (((w2.alloc (.cells #[.bool false, .bool true, .bool true, .bool true] 94)).alloc (.cells #[.int .u8 1] 5)).alloc (.cells #[.int .i64 (npp : Int)] 3)) w2.heap.size #[.bool false, .bool true, .bool true, .bool true] 94) := (Bk.new w2 #[.bool false, .bool true, .bool true, .bool true] 94).stay ((below_new (w2.alloc (.cells #[.bool false, .bool true, .bool true, .bool true] 94)) _).trans ((below_new ((w2.alloc (.cells #[.bool false, .bool true, .bool true, .bool true] 94)).alloc (.cells #[.int .u8 1] 5)) _).mono (by simp)))
  have HO3 : Hid (Own (((w2.alloc (.cells #[.bool false, .bool true, .bool true, .bool true] 94)).alloc (.cells #[.int .u8 1] 5)).alloc (.cells #[.int .i64 (npp : Int)] 3)) (w2.heap.size + 1) (some ⟨w2.heap.size + 1, 0, none⟩) 1 1 [1]) := by
    have h := Own.new (w2.alloc (.cells #[.bool false, .bool true, .bool true, .bool true] 94)) (w2.heap.size + 1) #[.int .u8 1] [1] (by simp) rfl (by simp) (by unfold maxLen; simp)
    have h2 := h.below (below_new ((w2.alloc (.cells #[.bool false, .bool true, .bool true, .bool true] 94)).alloc (.cells #[.int .u8 1] 5)) (.cells #[.int .i64 (npp : Int)] 3))
    show Own _ _ _ _ _ _
    simpa using h2
  have HG3 : Hid (Bk (((w2.alloc (.cells #[.bool false, .bool true, .bool true, .bool true] 94)).alloc (.cells #[.int .u8 1] 5)).alloc (.cells #[.int .i64 (npp : Int)] 3)) (w2.heap.size + 2) (nvs [npp]) 3) := by
    have h := Bk.new ((w2.alloc (.cells #[.bool false, .bool true, .bool true, .bool true] 94)).alloc (.cells #[.int .u8 1] 5)) (nvs [npp]) 3
    rw [show ((w2.alloc (.cells #[.bool false, .bool true, .bool true, .bool true] 94)).alloc (.cells #[.int .u8 1] 5)).heap.size = w2.heap.size + 2 from by simp] at h
    exact h
  have HB3 : Hid (Below w.heap.size w (((w2.alloc (.cells #[.bool false, .bool true, .bool true, .bool true] 94)).alloc (.cells #[.int .u8 1] 5)).alloc (.cells #[.int .i64 (npp : Int)] 3))) := HB2.out.trans (HBX2.mono HB2.out.size)
  clear HBX HBX1 HBX2 HK2
  go_wp2_with fail
  refine (pc_putNumbers (w2.heap.size + 1) (some ⟨w2.heap.size + 1, 0, none⟩) 1 1 [1] (w2.heap.size + 2) [npp] _ HO3.out (by simp) (by omega) HG3.out (by simp; omega) (by simp)).mono ?_
  rintro e w4 ⟨⟨a4, c4, rfl, ho4⟩, hk4⟩
  obtain ⟨l4, hl4⟩ : ∃ l, l = 1 + (lebs [npp]).length := ⟨_, rfl⟩
  have h4l : l4 ≤ 1 + 10 := by have := lebs_len [npp]; simp at this; omega
  have ho4' := ho4.out
  rw [← hl4] at ho4' ⊢
  have HO4 : Hid (Own w4 (w2.heap.size + 1) a4 l4 c4 ([1] ++ lebs [npp])) := ho4'
  have HK4 : Hid (Bk w4 w.heap.size #[.int .i64 1, .int .i64 (npp : Int), .int .i64 ps, .int .i64 pn, .int .i64 (npf : Int), .int .i64 (npt : Int), .slice sa sn sc, .slice ia im ic] 37) := HK3.out.kept hk4 (by decide)
  have HU4 : Hid (Bk w4 w2.heap.size #[.bool false, .bool true, .bool true, .bool true] 94) := HU3.out.kept hk4 (by decide)
  have HB4 : Hid (Below w.heap.size w w4) := HB3.out.trans (hk4.below.mono (by have := HLT.out; omega))
  have HS4 : Hid (w2.heap.size + 1 ≤ w4.heap.size) := Nat.le_trans (by simp) hk4.below.size
  clear hl4 ho4 ho4' hk4 d0 d1 HK3 HU3 HO3 HG3 HB3
  have u4_0 : w4.cell? ⟨w2.heap.size, 0, none⟩ = some (.bool false) := HU4.out.cell 0 rfl
  have u4_1 : w4.cell? ⟨w2.heap.size, 1, none⟩ = some (.bool true) := HU4.out.cell 1 rfl
  have d4 : w4.cell? ⟨w.heap.size, 4, none⟩ = some (.int .i64 (npf : Int)) := HK4.out.cell 4 rfl
  have HO5x : Hid (Own (w4.alloc (.cells #[.int .i64 (npf : Int)] 3)) (w2.heap.size + 1) a4 l4 c4 ([1] ++ lebs [npp])) := HO4.out.below (below_new _ _)
  have HG5x : Hid (Bk (w4.alloc (.cells #[.int .i64 (npf : Int)] 3)) w4.heap.size (nvs [npf]) 3) := Bk.new _ _ _
  go_wp2_with fail
  refine (pc_putNumbers (w2.heap.size + 1) a4 l4 c4 ([1] ++ lebs [npp]) w4.heap.size [npf] _ HO5x.out (by have := HS4.out; simp; omega) (by omega) HG5x.out (by simp; omega) (by simp)).mono ?_
  rintro e w5 ⟨⟨a5, c5, rfl, ho5⟩, hk5⟩
  obtain ⟨l5, hl5⟩ : ∃ l, l = l4 + (lebs [npf]).length := ⟨_, rfl⟩
  have h5l : l5 ≤ 21 := by have := lebs_len [npf]; simp at this; omega
  have ho5' := ho5.out
  rw [← hl5] at ho5' ⊢
  have HO5 : Hid (Own w5 (w2.heap.size + 1) a5 l5 c5 ([1] ++ lebs [npp] ++ lebs [npf])) := ho5'
  have HKb5 : Kb (w2.heap.size + 1) w4 w5 := (Kb.of (below_new _ _) HS4.out).trans hk5
  have HK5 : Hid (Bk w5 w.heap.size #[.int .i64 1, .int .i64 (npp : Int), .int .i64 ps, .int .i64 pn, .int .i64 (npf : Int), .int .i64 (npt : Int), .slice sa sn sc, .slice ia im ic] 37) := HK4.out.kept HKb5 (by decide)
  have HU5 : Hid (Bk w5 w2.heap.size #[.bool false, .bool true, .bool true, .bool true] 94) := HU4.out.kept HKb5 (by decide)
  have HB5 : Hid (Below w.heap.size w w5) := HB4.out.trans (HKb5.below.mono (by have := HLT.out; omega))
  have HS5 : Hid (w2.heap.size + 1 ≤ w5.heap.size) := Nat.le_trans HS4.out HKb5.below.size
  clear hl5 ho5 ho5' hk5 HKb5 HO5x HG5x HK4 HU4 HO4 u4_0 u4_1 d4
  have u5_2 : w5.cell? ⟨w2.heap.size, 2, none⟩ = some (.bool true) := HU5.out.cell 2 rfl
  have d5 : w5.cell? ⟨w.heap.size, 5, none⟩ = some (.int .i64 (npt : Int)) := HK5.out.cell 5 rfl
  have HO6x : Hid (Own (w5.alloc (.cells #[.int .i64 (npt : Int)] 3)) (w2.heap.size + 1) a5 l5 c5 ([1] ++ lebs [npp] ++ lebs [npf])) := HO5.out.below (below_new _ _)
  have HG6x : Hid (Bk (w5.alloc (.cells #[.int .i64 (npt : Int)] 3)) w5.heap.size (nvs [npt]) 3) := Bk.new _ _ _
  go_wp2_with fail
  refine (pc_putNumbers (w2.heap.size + 1) a5 l5 c5 ([1] ++ lebs [npp] ++ lebs [npf]) w5.heap.size [npt] _ HO6x.out (by have := HS5.out; simp; omega) (by omega) HG6x.out (by simp; omega) (by simp)).mono ?_
  rintro e w6 ⟨⟨a6, c6, rfl, ho6⟩, hk6⟩
  obtain ⟨l6, hl6⟩ : ∃ l, l = l5 + (lebs [npt]).length := ⟨_, rfl⟩
  have h6l : l6 ≤ 31 := by have := lebs_len [npt]; simp at this; omega
  have ho6' := ho6.out
  rw [← hl6] at ho6' ⊢
  have HO6 : Hid (Own w6 (w2.heap.size + 1) a6 l6 c6 ([1] ++ lebs [npp] ++ lebs [npf] ++ lebs [npt])) := ho6'
  have HKb6 : Kb (w2.heap.size + 1) w5 w6 := (Kb.of (below_new _ _) HS5.out).trans hk6
  have HK6 : Hid (Bk w6 w.heap.size #[.int .i64 1, .int .i64 (npp : Int), .int .i64 ps, .int .i64 pn, .int .i64 (npf : Int), .int .i64 (npt : Int), .slice sa sn sc, .slice ia im ic] 37) := HK5.out.kept HKb6 (by decide)
  have HU6 : Hid (Bk w6 w2.heap.size #[.bool false, .bool true, .bool true, .bool true] 94) := HU5.out.kept HKb6 (by decide)
  have HB6 : Hid (Below w.heap.size w w6) := HB5.out.trans (HKb6.below.mono (by have := HLT.out; omega))
  have HS6 : Hid (w2.heap.size + 1 ≤ w6.heap.size) := Nat.le_trans HS5.out HKb6.below.size
  clear hl6 ho6 ho6' hk6 HKb6 HO6x HG6x HK5 HU5 HO5 u5_2 d5
  have u6_3 : w6.cell? ⟨w2.heap.size, 3, none⟩ = some (.bool true) := HU6.out.cell 3 rfl
  have k0 : w6.cell? ⟨w.heap.size, 0, none⟩ = some (.int .i64 1) := HK6.out.cell 0 rfl
  have k1 : w6.cell? ⟨w.heap.size, 1, none⟩ = some (.int .i64 (npp : Int)) := HK6.out.cell 1 rfl
  have k2 : w6.cell? ⟨w.heap.size, 2, none⟩ = some (.int .i64 ps) := HK6.out.cell 2 rfl
  have k3 : w6.cell? ⟨w.heap.size, 3, none⟩ = some (.int .i64 pn) := HK6.out.cell 3 rfl
  have k4 : w6.cell? ⟨w.heap.size, 4, none⟩ = some (.int .i64 (npf : Int)) := HK6.out.cell 4 rfl
  have k5 : w6.cell? ⟨w.heap.size, 5, none⟩ = some (.int .i64 (npt : Int)) := HK6.out.cell 5 rfl
  have k6 : w6.cell? ⟨w.heap.size, 6, none⟩ = some (.slice sa sn sc) := HK6.out.cell 6 rfl
  have k7 : w6.cell? ⟨w.heap.size, 7, none⟩ = some (.slice ia im ic) := HK6.out.cell 7 rfl
  have HNF : Hid (sn ≤ 32 ∧ im ≤ 8 ∧ ∀ q ∈ pi, 0 ≤ q.tick ∧ q.tick ≤ 1099511627776 ∧ q.body.length ≤ 400) := by
    obtain ⟨h1, h2, h3⟩ := HNW.out rfl
    have e1 : pl.length = sn := HP.out.spans.size
    have e2 : pi.length = im := HP.out.items.size
    refine ⟨by omega, by omega, fun q hq => ?_⟩
    have h4 := itE_zero pi _ h3 q hq
    simp only at h4
    exact ⟨by omega, by omega, h4.2.2⟩
  have hc := pc_putNews (w2.heap.size + 1) a6 l6 c6 ([1] ++ lebs [npp] ++ lebs [npf] ++ lebs [npt]) ⟨1, (npp : Int), ps, pn, (npf : Int), (npt : Int), pl, pi⟩ sa sn sc ia im ic w6 HO6.out HS6.out (by omega) w HB6.out (by have := HLT.out; omega) HP.out HNF.out.1 HNF.out.2.1 HNF.out.2.2
  have HCN : Hid (Calls Tryd.prog 38 #[.slice a6 l6 c6, Pc.val ⟨1, (npp : Int), ps, pn, (npf : Int), (npt : Int), pl, pi⟩ sa sn sc ia im ic] w6 fun e w' => (∃ a' m' c', e = .returned (.slice a' m' c') ∧ Hid (Own w' (w2.heap.size + 1) a' m' c' (([1] ++ lebs [npp] ++ lebs [npf] ++ lebs [npt]) ++ (putT pl ++ (lebs [pi.length] ++ putIs pi))))) ∧ Below (w2.heap.size + 1) w6 w') := hc
  clear hc
  go_wp2_with fail
  refine HCN.out.mono ?_
  rintro e w9 ⟨⟨a9, m9, c9, rfl, ho9⟩, hb9⟩
  have HO9 : Hid (Own w9 (w2.heap.size + 1) a9 m9 c9 (([1] ++ lebs [npp] ++ lebs [npf] ++ lebs [npt]) ++ (putT pl ++ (lebs [pi.length] ++ putIs pi)))) := ho9
  have HB9 : Hid (Below w.heap.size w w9) := HB6.out.trans (hb9.mono (by have := HLT.out; omega))
  clear ho9 hb9 HCN k0 k1 k2 k3 k4 k5 k6 k7
  go_wp2
  go_returns
  refine ⟨⟨a9, m9, c9, by rw [HC0.out]; rfl, ?_⟩, HB9.out⟩
  rw [HPD.out]
  have h := HO9.out.under (show w.heap.size ≤ w2.heap.size + 1 by have := HLT.out; omega)
  simpa [List.append_assoc] using h

theorem pc_Put (p : Pc) (sa : Option Addr) (sn sc : Nat) (ia : Option Addr) (im ic : Nat) (w : World) (hp : PcRd w p sa sn sc ia im ic) : Calls Tryd.prog 21 #[p.val sa sn sc ia im ic] w fun e w' => PutTold w' w.heap.size p e ∧ Below w.heap.size w w' := by
  by_cases hc : chk p = 0
  · obtain ⟨pk, pp, ps, pn, pf, pt, pl, pi⟩ := p
    rcases kinds (chk_zero hc).1 with h | h | h | h | h | h <;> (simp only at h; subst h)
    · exact pc_Put_1 pp ps pn pf pt pl pi sa sn sc ia im ic w hp hc
    · exact pc_Put_2 pp ps pn pf pt pl pi sa sn sc ia im ic w hp hc
    · exact pc_Put_3 pp ps pn pf pt pl pi sa sn sc ia im ic w hp hc
    · exact pc_Put_4 pp ps pn pf pt pl pi sa sn sc ia im ic w hp hc
    · exact pc_Put_5 pp ps pn pf pt pl pi sa sn sc ia im ic w hp hc
    · exact pc_Put_6 pp ps pn pf pt pl pi sa sn sc ia im ic w hp hc
  · exact pc_Put_err p sa sn sc ia im ic w hp hc
end Go.Proofs.YtoijhlnadaipoaaDoor
