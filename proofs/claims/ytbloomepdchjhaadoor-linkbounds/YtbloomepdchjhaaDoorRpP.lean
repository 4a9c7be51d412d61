/- grapevineref13: num; Put of every kind but Tell, and with an error. -/
import Derived.Test.YtbloomepdchjhaaDoorPpP
import Derived.Test.YtbloomepdchjhaaDoorPcR3
namespace Go.Proofs.YtbloomepdchjhaaDoor
open Go.RowKit

def NumP (n : Nat) (w : World) (e : Ending) (w' : World) : Prop := ∃ a m c, e = .returned (.slice a m c) ∧ m ≤ 10 ∧ Own w' w.heap.size a m c (lebs [n]) ∧ Below w.heap.size w w'
theorem lebs_one13 (n : Nat) : lebs [n] = Leb.leb n := by simp [lebs]
theorem ref_num (n : Nat) (hn : n < 9223372036854775808) (w : World) : Calls Tryd.prog 43 #[.int .i64 (n : Int)] w (NumP n w) := by
  go_enter Tryd.func43, Tryd.ntmps43
  go_wp2_with fail
  refine (ref_Uint n (by omega) _).mono ?_
  rintro e w1 ⟨a1, c1, rfl, _, ho1, hb1⟩
  have hl := Leb.leb_length n
  obtain ⟨m, hm⟩ : ∃ m, m = (Leb.leb n).length := ⟨_, rfl⟩
  rw [← hm] at ho1 hl ⊢
  have HO : Hid (Own w1 w.heap.size a1 m c1 (lebs [n])) := by show Own _ _ _ _ _ _; rw [lebs_one13]; exact ho1
  have HB : Hid (Below w.heap.size w w1) := hb1
  have HL : Hid (m ≤ 10) := by show _ ≤ _; omega
  clear ho1 hb1 hm hl
  go_wp2
  go_ret
  exact ⟨a1, m, c1, rfl, HL.out, HO.out, HB.out⟩

set_option maxRecDepth 100000 in
set_option maxHeartbeats 4000000 in
theorem ref_Put_err (p : Pc) (sa : Option Addr) (sn sc : Nat) (ia : Option Addr) (im ic : Nat) (w : World) (hp : PcRd w p sa sn sc ia im ic) (hc : chk p ≠ 0) : Calls Tryd.prog 28 #[p.val sa sn sc ia im ic] w fun e w' => PutTold w' w.heap.size p e ∧ Below w.heap.size w w' := by
  have HP : Hid (PcRd w p sa sn sc ia im ic) := hp
  have HD : Hid (putD p = []) := if_neg hc
  obtain ⟨b, hb⟩ : ∃ b, b = chk p := ⟨_, rfl⟩
  have HB0 : Hid (b = chk p) := hb
  rw [← hb] at hc
  have hc' : (b == 0) = false := by simpa using hc
  obtain ⟨p0, HP0⟩ : ∃ p0, Hid (p0 = p) := ⟨_, rfl⟩
  have HV : Hid (p0.val sa sn sc ia im ic = p.val sa sn sc ia im ic) := by show _ = _; rw [HP0.out]
  rw [← HP0.out] at HP HD HB0 ⊢
  clear hp hb
  rw [HV.out]
  obtain ⟨pk, pp, ps, pn, pf, pt, pl, pi⟩ := p
  unfold Pc.val
  simp only
  have HBx : Hid (Below w.heap.size w (w.alloc (.cells #[.int .i64 pk, .int .i64 pp, .int .i64 ps, .int .i64 pn, .int .i64 pf, .int .i64 pt, .slice sa sn sc, .slice ia im ic] 37))) := below_new _ _
  have hcs := ref_Check p0 sa sn sc ia im ic _ (HP.out.below HBx.out)
  rw [HV.out, ← HB0.out] at hcs
  have HCS : Hid (Calls Tryd.prog 42 #[Pc.val ⟨pk, pp, ps, pn, pf, pt, pl, pi⟩ sa sn sc ia im ic] (w.alloc (.cells #[.int .i64 pk, .int .i64 pp, .int .i64 ps, .int .i64 pn, .int .i64 pf, .int .i64 pt, .slice sa sn sc, .slice ia im ic] 37)) fun e w' => e = .returned (.int .i64 b) ∧ Below (w.alloc (.cells #[.int .i64 pk, .int .i64 pp, .int .i64 ps, .int .i64 pn, .int .i64 pf, .int .i64 pt, .slice sa sn sc, .slice ia im ic] 37)).heap.size (w.alloc (.cells #[.int .i64 pk, .int .i64 pp, .int .i64 ps, .int .i64 pn, .int .i64 pf, .int .i64 pt, .slice sa sn sc, .slice ia im ic] 37)) w') := hcs
  clear hcs
  go_enter Tryd.func28, Tryd.ntmps28
  go_wp2_with fail
  refine HCS.out.mono ?_
  rintro e w1 ⟨rfl, hb1⟩
  have HB1 : Hid (Below w.heap.size w w1) := HBx.out.trans (hb1.mono HBx.out.size)
  clear HCS hb1
  go_wp2
  go_returns
  refine ⟨⟨none, 0, 0, by rw [← HB0.out]; rfl, ?_⟩, HB1.out⟩
  rw [HD.out]
  exact Own.none_ _ _


set_option maxRecDepth 100000 in
set_option maxHeartbeats 4000000 in
theorem ref_Put_2 (pp ps pn pf pt : Int) (pl : List Sp) (pi : List It) (sa : Option Addr) (sn sc : Nat) (ia : Option Addr) (im ic : Nat) (w : World) (hp : PcRd w ⟨2, pp, ps, pn, pf, pt, pl, pi⟩ sa sn sc ia im ic) (hc : chk ⟨2, pp, ps, pn, pf, pt, pl, pi⟩ = 0) : Calls Tryd.prog 28 #[Pc.val ⟨2, pp, ps, pn, pf, pt, pl, pi⟩ sa sn sc ia im ic] w fun e w' => PutTold w' w.heap.size ⟨2, pp, ps, pn, pf, pt, pl, pi⟩ e ∧ Below w.heap.size w w' := by
  have HC0 : Hid (chk ⟨2, pp, ps, pn, pf, pt, pl, pi⟩ = 0) := hc
  obtain ⟨_, hnum, hnews⟩ := chk_zero hc
  have HNW : Hid (newsB 2 = true → ¬ (32 < pl.length ∨ 8 < pi.length) ∧ spB ⟨2, pp, ps, pn, pf, pt, pl, pi⟩ = true ∧ itE ⟨2, pp, ps, pn, pf, pt, pl, pi⟩ pf pi = 0) := hnews
  have hx_pub : 0 ≤ pp ∧ pp < 3 := by
    simp only [numB, pubB, namB, rngB, froB, subB, fromB, toB] at hnum
    simp at hnum
    omega
  obtain ⟨npp, hn_pub⟩ := Int.eq_ofNat_of_zero_le hx_pub.1
  have hl_pub : npp < 3 := by omega
  have hx_fr : 0 ≤ pf ∧ pf < 1099511627777 := by
    simp only [numB, pubB, namB, rngB, froB, subB, fromB, toB] at hnum
    simp at hnum
    omega
  obtain ⟨npf, hn_fr⟩ := Int.eq_ofNat_of_zero_le hx_fr.1
  have hl_fr : npf < 1099511627777 := by omega
  have hx_to_ : 0 ≤ pt ∧ pt < 1099511627777 := by
    simp only [numB, pubB, namB, rngB, froB, subB, fromB, toB] at hnum
    simp at hnum
    omega
  obtain ⟨npt, hn_to_⟩ := Int.eq_ofNat_of_zero_le hx_to_.1
  have hl_to_ : npt < 1099511627777 := by omega
  clear hx_pub hx_fr hx_to_ hnum hnews hc
  subst hn_pub hn_fr hn_to_
  have HPD : Hid (putD ⟨2, (npp : Int), ps, pn, (npf : Int), (npt : Int), pl, pi⟩ = [2] ++ (lebs [npp] ++ lebs [npf] ++ lebs [npt])) := by
    show _ = _
    rw [putD, if_pos HC0.out]
    simp [putP, subB, fromB, toB, newsB, lebs]
  have HP : Hid (PcRd w ⟨2, (npp : Int), ps, pn, (npf : Int), (npt : Int), pl, pi⟩ sa sn sc ia im ic) := hp
  clear hp
  unfold Pc.val
  simp only
  have HBx : Hid (Below w.heap.size w (w.alloc (.cells #[.int .i64 2, .int .i64 (npp : Int), .int .i64 ps, .int .i64 pn, .int .i64 (npf : Int), .int .i64 (npt : Int), .slice sa sn sc, .slice ia im ic] 37))) := below_new _ _
  have HKx : Hid (Bk (w.alloc (.cells #[.int .i64 2, .int .i64 (npp : Int), .int .i64 ps, .int .i64 pn, .int .i64 (npf : Int), .int .i64 (npt : Int), .slice sa sn sc, .slice ia im ic] 37)) w.heap.size #[.int .i64 2, .int .i64 (npp : Int), .int .i64 ps, .int .i64 pn, .int .i64 (npf : Int), .int .i64 (npt : Int), .slice sa sn sc, .slice ia im ic] 37) := Bk.new _ _ _
  have hcs := ref_Check ⟨2, (npp : Int), ps, pn, (npf : Int), (npt : Int), pl, pi⟩ sa sn sc ia im ic _ (HP.out.below HBx.out)
  rw [HC0.out] at hcs
  have HCS : Hid (Calls Tryd.prog 42 #[Pc.val ⟨2, (npp : Int), ps, pn, (npf : Int), (npt : Int), pl, pi⟩ sa sn sc ia im ic] (w.alloc (.cells #[.int .i64 2, .int .i64 (npp : Int), .int .i64 ps, .int .i64 pn, .int .i64 (npf : Int), .int .i64 (npt : Int), .slice sa sn sc, .slice ia im ic] 37)) fun e w' => e = .returned (.int .i64 0) ∧ Below (w.alloc (.cells #[.int .i64 2, .int .i64 (npp : Int), .int .i64 ps, .int .i64 pn, .int .i64 (npf : Int), .int .i64 (npt : Int), .slice sa sn sc, .slice ia im ic] 37)).heap.size (w.alloc (.cells #[.int .i64 2, .int .i64 (npp : Int), .int .i64 ps, .int .i64 pn, .int .i64 (npf : Int), .int .i64 (npt : Int), .slice sa sn sc, .slice ia im ic] 37)) w') := hcs
  clear hcs
  go_enter Tryd.func28, Tryd.ntmps28
  go_wp2_with fail
  refine HCS.out.mono ?_
  rintro e w1 ⟨rfl, hb1⟩
  have HB1 : Hid (Below w.heap.size w w1) := HBx.out.trans (hb1.mono HBx.out.size)
  have HK1 : Hid (Bk w1 w.heap.size #[.int .i64 2, .int .i64 (npp : Int), .int .i64 ps, .int .i64 pn, .int .i64 (npf : Int), .int .i64 (npt : Int), .slice sa sn sc, .slice ia im ic] 37) := HKx.out.stay hb1
  clear hb1 HKx HBx HCS
  have HLT : Hid (w.heap.size < w1.heap.size) := HK1.out.lt
  have HSK : Hid (∀ w', Below w1.heap.size w1 w' → w'.cell? ⟨w.heap.size, 0, none⟩ = some (.int .i64 2) ∧ w'.cell? ⟨w.heap.size, 1, none⟩ = some (.int .i64 (npp : Int))) := fun w' hb => ⟨(HK1.out.stay hb).cell 0 rfl, (HK1.out.stay hb).cell 1 rfl⟩
  have hwk : IntKind.u8.wrap 2 = 2 := by decide
  go_wp2
  have HBN : Hid (Below w1.heap.size w1 w1.drew) := (Below.refl _ _).drew
  go_region_held3 (fun w' => w'.cell? ⟨w.heap.size, 0, none⟩ = some (.int .i64 2) ∧ w'.cell? ⟨w.heap.size, 1, none⟩ = some (.int .i64 (npp : Int))) (first | with_reducible exact HSK.out _ HBN.out | with_reducible exact HSK.out _ (Below.refl _ _) | with_reducible exact HSK.out _ (below_new _ _) | with_reducible exact HSK.out _ (below_new _ _).drew | with_reducible exact HSK.out _ (HBN.out.alloc HBN.out.size _) | with_reducible exact HSK.out _ (HBN.out.alloc HBN.out.size _).drew | exact HSK.out _ HBN.out | exact HSK.out _ (Below.refl _ _) | fail)
    (first
      | (go_at_call 43; refine (ref_num npp (by omega) _).mono ?_; rintro e w3 ⟨a3, m3, c3, he3, hm3, ho3, hb3⟩; subst he3; first
        | (have ht : Below w1.drew.heap.size w1.drew w3 := (by with_reducible exact hb3); clear ht; have HO3 : Hid (Own w3 w1.heap.size a3 m3 c3 (lebs [npp])) := ho3; have HBM : Hid (Below w1.heap.size w1 w3) := HBN.out.trans hb3; clear HBN; have HBN := HBM; clear hb3 ho3)
        | (have hb3' : Below (w1.alloc (.cells #[.int .u8 2] 5)).drew.heap.size (w1.alloc (.cells #[.int .u8 2] 5)).drew w3 := (by with_reducible exact hb3); have hX : Own (w1.alloc (.cells #[.int .u8 2] 5)).drew w1.heap.size (some ⟨w1.heap.size, 0, none⟩) 1 1 [2] := (Own.new w1 w1.heap.size #[.int .u8 2] [2] (by simp) rfl (Nat.le_refl _) (by unfold maxLen; simp)).drew; have HOK : Hid (Own w3 w1.heap.size (some ⟨w1.heap.size, 0, none⟩) 1 1 [2]) := hX.below hb3'; have HO3 : Hid (Own w3 w1.heap.size a3 m3 c3 (lebs [npp])) := ho3.under (by show _ ≤ (w1.alloc (.cells #[.int .u8 2] 5)).heap.size; simp); have HBM : Hid (Below w1.heap.size w1 w3) := ((below_new w1 _).drew).trans (hb3'.mono (by show _ ≤ (w1.alloc (.cells #[.int .u8 2] 5)).heap.size; simp)); clear HBN; have HBN := HBM; clear hb3 hb3' ho3 hX))
      | (have hz := HOK; clear hz; refine step_append_rd (by rfl) (.tmp 17) (.tmp 20) (by rfl) w1.heap.size (some ⟨w1.heap.size, 0, none⟩) 1 1 [2] (by rfl) (by first | with_reducible exact HOK.out | with_reducible exact HOK.out.drew) a3 m3 c3 (lebs [npp]) (by rfl) (by first | with_reducible exact HO3.out.rd | with_reducible exact HO3.out.rd.drew) HO3.out.nil_cap' (by omega) HBM.out.size (1 + m3) rfl ([2] ++ lebs [npp]) rfl ?_; intro a4 c4 w4 ho4 hg4 hb4; have HO4 : Hid (Own w4 w1.heap.size a4 (1 + m3) c4 ([2] ++ lebs [npp])) := ho4; have HBL : Hid (Below w1.heap.size w1 w4) := HBM.out.trans hb4; clear HBN; have HBN := HBL; clear ho4 hg4 hb4)
      | (have hz := HO3; clear hz; refine step_append_rd (by rfl) (.tmp 17) (.tmp 20) (by rfl) w1.heap.size (some ⟨w3.heap.size, 0, none⟩) 1 1 [2] (by rfl) (by first | with_reducible exact Own.new w3 w1.heap.size #[.int .u8 2] [2] (by simp) rfl HBM.out.size (by unfold maxLen; simp) | exact Own.new w3 w1.heap.size #[.int .u8 2] [2] (by simp) rfl HBM.out.size (by unfold maxLen; simp)) a3 m3 c3 (lebs [npp]) (by rfl) (by first | with_reducible exact HO3.out.rd.below (below_new _ _) | exact (HO3.out.rd.below (below_new _ _)).drew) HO3.out.nil_cap' (by omega) (Nat.le_trans HBM.out.size (by simp)) (1 + m3) rfl ([2] ++ lebs [npp]) rfl ?_; intro a4 c4 w4 ho4 hg4 hb4; have HO4 : Hid (Own w4 w1.heap.size a4 (1 + m3) c4 ([2] ++ lebs [npp])) := ho4; have HBL : Hid (Below w1.heap.size w1 w4) := (HBM.out.trans ((below_new w3 _).mono HBM.out.size)).trans hb4; clear HBN; have HBN := HBL; clear ho4 hg4 hb4))
  all_goals (
    obtain ⟨l4, hl4⟩ : ∃ l, l = 1 + m3 := ⟨_, rfl⟩
    have h4l : l4 ≤ 11 := by omega
    rw [← hl4] at HO4 ⊢
    have HB4 : Hid (Below w.heap.size w w4) := HB1.out.trans (HBL.out.mono HB1.out.size)
    have HK4 : Hid (Bk w4 w.heap.size #[.int .i64 2, .int .i64 (npp : Int), .int .i64 ps, .int .i64 pn, .int .i64 (npf : Int), .int .i64 (npt : Int), .slice sa sn sc, .slice ia im ic] 37) := HK1.out.stay HBL.out
    have HS4 : Hid (w1.heap.size ≤ w4.heap.size) := HBL.out.size
    clear hl4 HBN HBM HBL HO3
    have HNM : Hid (subB 2 = false) := rfl
    have HFM : Hid (fromB 2 = true) := rfl
    have HRM : Hid (toB 2 = true) := rfl
    have e4 : w4.cell? ⟨w.heap.size, 0, none⟩ = some (.int .i64 2) := HK4.out.cell 0 rfl
    go_wp2_with fail
    refine (ref_named 2 _).mono ?_
    rw [HNM.out]
    rintro e w' ⟨rfl, hw'⟩
    rw [hw']
    clear hw' w'
    clear e4
    have e4 : w4.cell? ⟨w.heap.size, 0, none⟩ = some (.int .i64 2) := HK4.out.cell 0 rfl
    go_wp2_with fail
    refine (ref_from 2 _).mono ?_
    rw [HFM.out]
    rintro e w' ⟨rfl, hw'⟩
    rw [hw']
    clear hw' w'
    clear e4
    have d4 : w4.cell? ⟨w.heap.size, 4, none⟩ = some (.int .i64 (npf : Int)) := HK4.out.cell 4 rfl
    go_wp2_with fail
    refine (ref_num npf (by omega) _).mono ?_
    rintro e v4 ⟨ax, mx, cx, he, hmx, hox, hbx⟩
    subst he
    have HOX : Hid (Own v4 w4.heap.size ax mx cx (lebs [npf])) := hox
    have HKX : Hid (Bk v4 w.heap.size #[.int .i64 2, .int .i64 (npp : Int), .int .i64 ps, .int .i64 pn, .int .i64 (npf : Int), .int .i64 (npt : Int), .slice sa sn sc, .slice ia im ic] 37) := HK4.out.stay hbx
    have HOY : Hid (Own v4 w1.heap.size a4 l4 c4 ([2] ++ lebs [npp])) := HO4.out.below hbx
    have HBX : Hid (Below w.heap.size w v4) := HB4.out.trans (hbx.mono HB4.out.size)
    have HSX : Hid (w1.heap.size ≤ v4.heap.size) := Nat.le_trans HS4.out hbx.size
    clear hox hbx d4
    go_wp2_with (at_builtin; refine wpList_append_rd rfl (.tmp 38) (.tmp 41) rfl w1.heap.size a4 l4 c4 ([2] ++ lebs [npp]) rfl HOY.out ax mx cx (lebs [npf]) rfl HOX.out.rd HOX.out.nil_cap' (by omega) HSX.out ?_)
    intro a5 c5 w5 ho hg hb
    obtain ⟨l5, hl5⟩ : ∃ l, l = l4 + mx := ⟨_, rfl⟩
    have h5l : l5 ≤ 21 := by omega
    rw [← hl5] at ho ⊢
    have HO5 : Hid (Own w5 w1.heap.size a5 l5 c5 ([2] ++ lebs [npp] ++ lebs [npf])) := by show Own _ _ _ _ _ _; simpa only [List.append_assoc, List.cons_append, List.nil_append] using ho
    have HK5 : Hid (Bk w5 w.heap.size #[.int .i64 2, .int .i64 (npp : Int), .int .i64 ps, .int .i64 pn, .int .i64 (npf : Int), .int .i64 (npt : Int), .slice sa sn sc, .slice ia im ic] 37) := HKX.out.kept (Kb.grown HOY.out hb hg) (by decide)
    have HB5 : Hid (Below w.heap.size w w5) := HBX.out.trans (hb.mono (Nat.le_of_lt HLT.out))
    have HS5 : Hid (w1.heap.size ≤ w5.heap.size) := Nat.le_trans HSX.out hb.size
    clear ho hg hb hl5 hmx HOX HOY HKX HBX HSX HO4 HK4 HB4 HS4
    have e5 : w5.cell? ⟨w.heap.size, 0, none⟩ = some (.int .i64 2) := HK5.out.cell 0 rfl
    go_wp2_with fail
    refine (ref_ranged 2 _).mono ?_
    rw [HRM.out]
    rintro e w' ⟨rfl, hw'⟩
    rw [hw']
    clear hw' w'
    clear e5
    have d5 : w5.cell? ⟨w.heap.size, 5, none⟩ = some (.int .i64 (npt : Int)) := HK5.out.cell 5 rfl
    go_wp2_with fail
    refine (ref_num npt (by omega) _).mono ?_
    rintro e v5 ⟨ax, mx, cx, he, hmx, hox, hbx⟩
    subst he
    have HOX : Hid (Own v5 w5.heap.size ax mx cx (lebs [npt])) := hox
    have HKX : Hid (Bk v5 w.heap.size #[.int .i64 2, .int .i64 (npp : Int), .int .i64 ps, .int .i64 pn, .int .i64 (npf : Int), .int .i64 (npt : Int), .slice sa sn sc, .slice ia im ic] 37) := HK5.out.stay hbx
    have HOY : Hid (Own v5 w1.heap.size a5 l5 c5 ([2] ++ lebs [npp] ++ lebs [npf])) := HO5.out.below hbx
    have HBX : Hid (Below w.heap.size w v5) := HB5.out.trans (hbx.mono HB5.out.size)
    have HSX : Hid (w1.heap.size ≤ v5.heap.size) := Nat.le_trans HS5.out hbx.size
    clear hox hbx d5
    go_wp2_with (at_builtin; refine wpList_append_rd rfl (.tmp 46) (.tmp 49) rfl w1.heap.size a5 l5 c5 ([2] ++ lebs [npp] ++ lebs [npf]) rfl HOY.out ax mx cx (lebs [npt]) rfl HOX.out.rd HOX.out.nil_cap' (by omega) HSX.out ?_)
    intro a6 c6 w6 ho hg hb
    obtain ⟨l6, hl6⟩ : ∃ l, l = l5 + mx := ⟨_, rfl⟩
    have h6l : l6 ≤ 31 := by omega
    rw [← hl6] at ho ⊢
    have HO6 : Hid (Own w6 w1.heap.size a6 l6 c6 ([2] ++ lebs [npp] ++ lebs [npf] ++ lebs [npt])) := by show Own _ _ _ _ _ _; simpa only [List.append_assoc, List.cons_append, List.nil_append] using ho
    have HK6 : Hid (Bk w6 w.heap.size #[.int .i64 2, .int .i64 (npp : Int), .int .i64 ps, .int .i64 pn, .int .i64 (npf : Int), .int .i64 (npt : Int), .slice sa sn sc, .slice ia im ic] 37) := HKX.out.kept (Kb.grown HOY.out hb hg) (by decide)
    have HB6 : Hid (Below w.heap.size w w6) := HBX.out.trans (hb.mono (Nat.le_of_lt HLT.out))
    have HS6 : Hid (w1.heap.size ≤ w6.heap.size) := Nat.le_trans HSX.out hb.size
    clear ho hg hb hl6 hmx HOX HOY HKX HBX HSX HO5 HK5 HB5 HS5
    have e6 : w6.cell? ⟨w.heap.size, 0, none⟩ = some (.int .i64 2) := HK6.out.cell 0 rfl
    go_wp2
    go_returns
    refine ⟨⟨a6, l6, c6, by rw [HC0.out]; rfl, ?_⟩, HB6.out⟩
    rw [HPD.out]
    have h := HO6.out.under (show w.heap.size ≤ w1.heap.size by have := HLT.out; omega)
    simpa [List.append_assoc] using h)

set_option maxRecDepth 100000 in
set_option maxHeartbeats 4000000 in
theorem ref_Put_3 (pp ps pn pf pt : Int) (pl : List Sp) (pi : List It) (sa : Option Addr) (sn sc : Nat) (ia : Option Addr) (im ic : Nat) (w : World) (hp : PcRd w ⟨3, pp, ps, pn, pf, pt, pl, pi⟩ sa sn sc ia im ic) (hc : chk ⟨3, pp, ps, pn, pf, pt, pl, pi⟩ = 0) : Calls Tryd.prog 28 #[Pc.val ⟨3, pp, ps, pn, pf, pt, pl, pi⟩ sa sn sc ia im ic] w fun e w' => PutTold w' w.heap.size ⟨3, pp, ps, pn, pf, pt, pl, pi⟩ e ∧ Below w.heap.size w w' := by
  have HC0 : Hid (chk ⟨3, pp, ps, pn, pf, pt, pl, pi⟩ = 0) := hc
  obtain ⟨_, hnum, hnews⟩ := chk_zero hc
  have HNW : Hid (newsB 3 = true → ¬ (32 < pl.length ∨ 8 < pi.length) ∧ spB ⟨3, pp, ps, pn, pf, pt, pl, pi⟩ = true ∧ itE ⟨3, pp, ps, pn, pf, pt, pl, pi⟩ pf pi = 0) := hnews
  have hx_pub : 0 ≤ pp ∧ pp < 3 := by
    simp only [numB, pubB, namB, rngB, froB, subB, fromB, toB] at hnum
    simp at hnum
    omega
  obtain ⟨npp, hn_pub⟩ := Int.eq_ofNat_of_zero_le hx_pub.1
  have hl_pub : npp < 3 := by omega
  have hx_sub : 0 ≤ ps ∧ ps < 33 := by
    simp only [numB, pubB, namB, rngB, froB, subB, fromB, toB] at hnum
    simp at hnum
    omega
  obtain ⟨nps, hn_sub⟩ := Int.eq_ofNat_of_zero_le hx_sub.1
  have hl_sub : nps < 33 := by omega
  have hx_n_ : 0 ≤ pn ∧ pn < 1073741825 := by
    simp only [numB, pubB, namB, rngB, froB, subB, fromB, toB] at hnum
    simp at hnum
    omega
  obtain ⟨npn, hn_n_⟩ := Int.eq_ofNat_of_zero_le hx_n_.1
  have hl_n_ : npn < 1073741825 := by omega
  have hx_fr : 0 ≤ pf ∧ pf < 1099511627777 := by
    simp only [numB, pubB, namB, rngB, froB, subB, fromB, toB] at hnum
    simp at hnum
    omega
  obtain ⟨npf, hn_fr⟩ := Int.eq_ofNat_of_zero_le hx_fr.1
  have hl_fr : npf < 1099511627777 := by omega
  clear hx_pub hx_sub hx_n_ hx_fr hnum hnews hc
  subst hn_pub hn_sub hn_n_ hn_fr
  have HPD : Hid (putD ⟨3, (npp : Int), (nps : Int), (npn : Int), (npf : Int), pt, pl, pi⟩ = [3] ++ (lebs [npp] ++ lebs [nps] ++ lebs [npn] ++ lebs [npf])) := by
    show _ = _
    rw [putD, if_pos HC0.out]
    simp [putP, subB, fromB, toB, newsB, lebs]
  have HP : Hid (PcRd w ⟨3, (npp : Int), (nps : Int), (npn : Int), (npf : Int), pt, pl, pi⟩ sa sn sc ia im ic) := hp
  clear hp
  unfold Pc.val
  simp only
  have HBx : Hid (Below w.heap.size w (w.alloc (.cells #[.int .i64 3, .int .i64 (npp : Int), .int .i64 (nps : Int), .int .i64 (npn : Int), .int .i64 (npf : Int), .int .i64 pt, .slice sa sn sc, .slice ia im ic] 37))) := below_new _ _
  have HKx : Hid (Bk (w.alloc (.cells #[.int .i64 3, .int .i64 (npp : Int), .int .i64 (nps : Int), .int .i64 (npn : Int), .int .i64 (npf : Int), .int .i64 pt, .slice sa sn sc, .slice ia im ic] 37)) w.heap.size #[.int .i64 3, .int .i64 (npp : Int), .int .i64 (nps : Int), .int .i64 (npn : Int), .int .i64 (npf : Int), .int .i64 pt, .slice sa sn sc, .slice ia im ic] 37) := Bk.new _ _ _
  have hcs := ref_Check ⟨3, (npp : Int), (nps : Int), (npn : Int), (npf : Int), pt, pl, pi⟩ sa sn sc ia im ic _ (HP.out.below HBx.out)
  rw [HC0.out] at hcs
  have HCS : Hid (Calls Tryd.prog 42 #[Pc.val ⟨3, (npp : Int), (nps : Int), (npn : Int), (npf : Int), pt, pl, pi⟩ sa sn sc ia im ic] (w.alloc (.cells #[.int .i64 3, .int .i64 (npp : Int), .int .i64 (nps : Int), .int .i64 (npn : Int), .int .i64 (npf : Int), .int .i64 pt, .slice sa sn sc, .slice ia im ic] 37)) fun e w' => e = .returned (.int .i64 0) ∧ Below (w.alloc (.cells #[.int .i64 3, .int .i64 (npp : Int), .int .i64 (nps : Int), .int .i64 (npn : Int), .int .i64 (npf : Int), .int .i64 pt, .slice sa sn sc, .slice ia im ic] 37)).heap.size (w.alloc (.cells #[.int .i64 3, .int .i64 (npp : Int), .int .i64 (nps : Int), .int .i64 (npn : Int), .int .i64 (npf : Int), .int .i64 pt, .slice sa sn sc, .slice ia im ic] 37)) w') := hcs
  clear hcs
  go_enter Tryd.func28, Tryd.ntmps28
  go_wp2_with fail
  refine HCS.out.mono ?_
  rintro e w1 ⟨rfl, hb1⟩
  have HB1 : Hid (Below w.heap.size w w1) := HBx.out.trans (hb1.mono HBx.out.size)
  have HK1 : Hid (Bk w1 w.heap.size #[.int .i64 3, .int .i64 (npp : Int), .int .i64 (nps : Int), .int .i64 (npn : Int), .int .i64 (npf : Int), .int .i64 pt, .slice sa sn sc, .slice ia im ic] 37) := HKx.out.stay hb1
  clear hb1 HKx HBx HCS
  have HLT : Hid (w.heap.size < w1.heap.size) := HK1.out.lt
  have HSK : Hid (∀ w', Below w1.heap.size w1 w' → w'.cell? ⟨w.heap.size, 0, none⟩ = some (.int .i64 3) ∧ w'.cell? ⟨w.heap.size, 1, none⟩ = some (.int .i64 (npp : Int))) := fun w' hb => ⟨(HK1.out.stay hb).cell 0 rfl, (HK1.out.stay hb).cell 1 rfl⟩
  have hwk : IntKind.u8.wrap 3 = 3 := by decide
  go_wp2
  have HBN : Hid (Below w1.heap.size w1 w1.drew) := (Below.refl _ _).drew
  go_region_held3 (fun w' => w'.cell? ⟨w.heap.size, 0, none⟩ = some (.int .i64 3) ∧ w'.cell? ⟨w.heap.size, 1, none⟩ = some (.int .i64 (npp : Int))) (first | with_reducible exact HSK.out _ HBN.out | with_reducible exact HSK.out _ (Below.refl _ _) | with_reducible exact HSK.out _ (below_new _ _) | with_reducible exact HSK.out _ (below_new _ _).drew | with_reducible exact HSK.out _ (HBN.out.alloc HBN.out.size _) | with_reducible exact HSK.out _ (HBN.out.alloc HBN.out.size _).drew | exact HSK.out _ HBN.out | exact HSK.out _ (Below.refl _ _) | fail)
    (first
      | (go_at_call 43; refine (ref_num npp (by omega) _).mono ?_; rintro e w3 ⟨a3, m3, c3, he3, hm3, ho3, hb3⟩; subst he3; first
        | (have ht : Below w1.drew.heap.size w1.drew w3 := (by with_reducible exact hb3); clear ht; have HO3 : Hid (Own w3 w1.heap.size a3 m3 c3 (lebs [npp])) := ho3; have HBM : Hid (Below w1.heap.size w1 w3) := HBN.out.trans hb3; clear HBN; have HBN := HBM; clear hb3 ho3)
        | (have hb3' : Below (w1.alloc (.cells #[.int .u8 3] 5)).drew.heap.size (w1.alloc (.cells #[.int .u8 3] 5)).drew w3 := (by with_reducible exact hb3); have hX : Own (w1.alloc (.cells #[.int .u8 3] 5)).drew w1.heap.size (some ⟨w1.heap.size, 0, none⟩) 1 1 [3] := (Own.new w1 w1.heap.size #[.int .u8 3] [3] (by simp) rfl (Nat.le_refl _) (by unfold maxLen; simp)).drew; have HOK : Hid (Own w3 w1.heap.size (some ⟨w1.heap.size, 0, none⟩) 1 1 [3]) := hX.below hb3'; have HO3 : Hid (Own w3 w1.heap.size a3 m3 c3 (lebs [npp])) := ho3.under (by show _ ≤ (w1.alloc (.cells #[.int .u8 3] 5)).heap.size; simp); have HBM : Hid (Below w1.heap.size w1 w3) := ((below_new w1 _).drew).trans (hb3'.mono (by show _ ≤ (w1.alloc (.cells #[.int .u8 3] 5)).heap.size; simp)); clear HBN; have HBN := HBM; clear hb3 hb3' ho3 hX))
      | (have hz := HOK; clear hz; refine step_append_rd (by rfl) (.tmp 17) (.tmp 20) (by rfl) w1.heap.size (some ⟨w1.heap.size, 0, none⟩) 1 1 [3] (by rfl) (by first | with_reducible exact HOK.out | with_reducible exact HOK.out.drew) a3 m3 c3 (lebs [npp]) (by rfl) (by first | with_reducible exact HO3.out.rd | with_reducible exact HO3.out.rd.drew) HO3.out.nil_cap' (by omega) HBM.out.size (1 + m3) rfl ([3] ++ lebs [npp]) rfl ?_; intro a4 c4 w4 ho4 hg4 hb4; have HO4 : Hid (Own w4 w1.heap.size a4 (1 + m3) c4 ([3] ++ lebs [npp])) := ho4; have HBL : Hid (Below w1.heap.size w1 w4) := HBM.out.trans hb4; clear HBN; have HBN := HBL; clear ho4 hg4 hb4)
      | (have hz := HO3; clear hz; refine step_append_rd (by rfl) (.tmp 17) (.tmp 20) (by rfl) w1.heap.size (some ⟨w3.heap.size, 0, none⟩) 1 1 [3] (by rfl) (by first | with_reducible exact Own.new w3 w1.heap.size #[.int .u8 3] [3] (by simp) rfl HBM.out.size (by unfold maxLen; simp) | exact Own.new w3 w1.heap.size #[.int .u8 3] [3] (by simp) rfl HBM.out.size (by unfold maxLen; simp)) a3 m3 c3 (lebs [npp]) (by rfl) (by first | with_reducible exact HO3.out.rd.below (below_new _ _) | exact (HO3.out.rd.below (below_new _ _)).drew) HO3.out.nil_cap' (by omega) (Nat.le_trans HBM.out.size (by simp)) (1 + m3) rfl ([3] ++ lebs [npp]) rfl ?_; intro a4 c4 w4 ho4 hg4 hb4; have HO4 : Hid (Own w4 w1.heap.size a4 (1 + m3) c4 ([3] ++ lebs [npp])) := ho4; have HBL : Hid (Below w1.heap.size w1 w4) := (HBM.out.trans ((below_new w3 _).mono HBM.out.size)).trans hb4; clear HBN; have HBN := HBL; clear ho4 hg4 hb4))
  all_goals (
    obtain ⟨l4, hl4⟩ : ∃ l, l = 1 + m3 := ⟨_, rfl⟩
    have h4l : l4 ≤ 11 := by omega
    rw [← hl4] at HO4 ⊢
    have HB4 : Hid (Below w.heap.size w w4) := HB1.out.trans (HBL.out.mono HB1.out.size)
    have HK4 : Hid (Bk w4 w.heap.size #[.int .i64 3, .int .i64 (npp : Int), .int .i64 (nps : Int), .int .i64 (npn : Int), .int .i64 (npf : Int), .int .i64 pt, .slice sa sn sc, .slice ia im ic] 37) := HK1.out.stay HBL.out
    have HS4 : Hid (w1.heap.size ≤ w4.heap.size) := HBL.out.size
    clear hl4 HBN HBM HBL HO3
    have HNM : Hid (subB 3 = true) := rfl
    have HFM : Hid (fromB 3 = true) := rfl
    have HRM : Hid (toB 3 = false) := rfl
    have e4 : w4.cell? ⟨w.heap.size, 0, none⟩ = some (.int .i64 3) := HK4.out.cell 0 rfl
    go_wp2_with fail
    refine (ref_named 3 _).mono ?_
    rw [HNM.out]
    rintro e w' ⟨rfl, hw'⟩
    rw [hw']
    clear hw' w'
    clear e4
    have d2 : w4.cell? ⟨w.heap.size, 2, none⟩ = some (.int .i64 (nps : Int)) := HK4.out.cell 2 rfl
    go_wp2_with fail
    refine (ref_num nps (by omega) _).mono ?_
    rintro e v4 ⟨ax, mx, cx, he, hmx, hox, hbx⟩
    subst he
    have HOX : Hid (Own v4 w4.heap.size ax mx cx (lebs [nps])) := hox
    have HKX : Hid (Bk v4 w.heap.size #[.int .i64 3, .int .i64 (npp : Int), .int .i64 (nps : Int), .int .i64 (npn : Int), .int .i64 (npf : Int), .int .i64 pt, .slice sa sn sc, .slice ia im ic] 37) := HK4.out.stay hbx
    have HOY : Hid (Own v4 w1.heap.size a4 l4 c4 ([3] ++ lebs [npp])) := HO4.out.below hbx
    have HBX : Hid (Below w.heap.size w v4) := HB4.out.trans (hbx.mono HB4.out.size)
    have HSX : Hid (w1.heap.size ≤ v4.heap.size) := Nat.le_trans HS4.out hbx.size
    clear hox hbx d2
    go_wp2_with (at_builtin; refine wpList_append_rd rfl (.tmp 25) (.tmp 28) rfl w1.heap.size a4 l4 c4 ([3] ++ lebs [npp]) rfl HOY.out ax mx cx (lebs [nps]) rfl HOX.out.rd HOX.out.nil_cap' (by omega) HSX.out ?_)
    intro a5 c5 w5 ho hg hb
    obtain ⟨l5, hl5⟩ : ∃ l, l = l4 + mx := ⟨_, rfl⟩
    have h5l : l5 ≤ 21 := by omega
    rw [← hl5] at ho ⊢
    have HO5 : Hid (Own w5 w1.heap.size a5 l5 c5 ([3] ++ lebs [npp] ++ lebs [nps])) := by show Own _ _ _ _ _ _; simpa only [List.append_assoc, List.cons_append, List.nil_append] using ho
    have HK5 : Hid (Bk w5 w.heap.size #[.int .i64 3, .int .i64 (npp : Int), .int .i64 (nps : Int), .int .i64 (npn : Int), .int .i64 (npf : Int), .int .i64 pt, .slice sa sn sc, .slice ia im ic] 37) := HKX.out.kept (Kb.grown HOY.out hb hg) (by decide)
    have HB5 : Hid (Below w.heap.size w w5) := HBX.out.trans (hb.mono (Nat.le_of_lt HLT.out))
    have HS5 : Hid (w1.heap.size ≤ w5.heap.size) := Nat.le_trans HSX.out hb.size
    clear ho hg hb hl5 hmx HOX HOY HKX HBX HSX HO4 HK4 HB4 HS4
    have d3 : w5.cell? ⟨w.heap.size, 3, none⟩ = some (.int .i64 (npn : Int)) := HK5.out.cell 3 rfl
    go_wp2_with fail
    refine (ref_num npn (by omega) _).mono ?_
    rintro e v5 ⟨ax, mx, cx, he, hmx, hox, hbx⟩
    subst he
    have HOX : Hid (Own v5 w5.heap.size ax mx cx (lebs [npn])) := hox
    have HKX : Hid (Bk v5 w.heap.size #[.int .i64 3, .int .i64 (npp : Int), .int .i64 (nps : Int), .int .i64 (npn : Int), .int .i64 (npf : Int), .int .i64 pt, .slice sa sn sc, .slice ia im ic] 37) := HK5.out.stay hbx
    have HOY : Hid (Own v5 w1.heap.size a5 l5 c5 ([3] ++ lebs [npp] ++ lebs [nps])) := HO5.out.below hbx
    have HBX : Hid (Below w.heap.size w v5) := HB5.out.trans (hbx.mono HB5.out.size)
    have HSX : Hid (w1.heap.size ≤ v5.heap.size) := Nat.le_trans HS5.out hbx.size
    clear hox hbx d3
    go_wp2_with (at_builtin; refine wpList_append_rd rfl (.tmp 30) (.tmp 33) rfl w1.heap.size a5 l5 c5 ([3] ++ lebs [npp] ++ lebs [nps]) rfl HOY.out ax mx cx (lebs [npn]) rfl HOX.out.rd HOX.out.nil_cap' (by omega) HSX.out ?_)
    intro a6 c6 w6 ho hg hb
    obtain ⟨l6, hl6⟩ : ∃ l, l = l5 + mx := ⟨_, rfl⟩
    have h6l : l6 ≤ 31 := by omega
    rw [← hl6] at ho ⊢
    have HO6 : Hid (Own w6 w1.heap.size a6 l6 c6 ([3] ++ lebs [npp] ++ lebs [nps] ++ lebs [npn])) := by show Own _ _ _ _ _ _; simpa only [List.append_assoc, List.cons_append, List.nil_append] using ho
    have HK6 : Hid (Bk w6 w.heap.size #[.int .i64 3, .int .i64 (npp : Int), .int .i64 (nps : Int), .int .i64 (npn : Int), .int .i64 (npf : Int), .int .i64 pt, .slice sa sn sc, .slice ia im ic] 37) := HKX.out.kept (Kb.grown HOY.out hb hg) (by decide)
    have HB6 : Hid (Below w.heap.size w w6) := HBX.out.trans (hb.mono (Nat.le_of_lt HLT.out))
    have HS6 : Hid (w1.heap.size ≤ w6.heap.size) := Nat.le_trans HSX.out hb.size
    clear ho hg hb hl6 hmx HOX HOY HKX HBX HSX HO5 HK5 HB5 HS5
    have e6 : w6.cell? ⟨w.heap.size, 0, none⟩ = some (.int .i64 3) := HK6.out.cell 0 rfl
    go_wp2_with fail
    refine (ref_from 3 _).mono ?_
    rw [HFM.out]
    rintro e w' ⟨rfl, hw'⟩
    rw [hw']
    clear hw' w'
    clear e6
    have d4 : w6.cell? ⟨w.heap.size, 4, none⟩ = some (.int .i64 (npf : Int)) := HK6.out.cell 4 rfl
    go_wp2_with fail
    refine (ref_num npf (by omega) _).mono ?_
    rintro e v6 ⟨ax, mx, cx, he, hmx, hox, hbx⟩
    subst he
    have HOX : Hid (Own v6 w6.heap.size ax mx cx (lebs [npf])) := hox
    have HKX : Hid (Bk v6 w.heap.size #[.int .i64 3, .int .i64 (npp : Int), .int .i64 (nps : Int), .int .i64 (npn : Int), .int .i64 (npf : Int), .int .i64 pt, .slice sa sn sc, .slice ia im ic] 37) := HK6.out.stay hbx
    have HOY : Hid (Own v6 w1.heap.size a6 l6 c6 ([3] ++ lebs [npp] ++ lebs [nps] ++ lebs [npn])) := HO6.out.below hbx
    have HBX : Hid (Below w.heap.size w v6) := HB6.out.trans (hbx.mono HB6.out.size)
    have HSX : Hid (w1.heap.size ≤ v6.heap.size) := Nat.le_trans HS6.out hbx.size
    clear hox hbx d4
    go_wp2_with (at_builtin; refine wpList_append_rd rfl (.tmp 38) (.tmp 41) rfl w1.heap.size a6 l6 c6 ([3] ++ lebs [npp] ++ lebs [nps] ++ lebs [npn]) rfl HOY.out ax mx cx (lebs [npf]) rfl HOX.out.rd HOX.out.nil_cap' (by omega) HSX.out ?_)
    intro a7 c7 w7 ho hg hb
    obtain ⟨l7, hl7⟩ : ∃ l, l = l6 + mx := ⟨_, rfl⟩
    have h7l : l7 ≤ 41 := by omega
    rw [← hl7] at ho ⊢
    have HO7 : Hid (Own w7 w1.heap.size a7 l7 c7 ([3] ++ lebs [npp] ++ lebs [nps] ++ lebs [npn] ++ lebs [npf])) := by show Own _ _ _ _ _ _; simpa only [List.append_assoc, List.cons_append, List.nil_append] using ho
    have HK7 : Hid (Bk w7 w.heap.size #[.int .i64 3, .int .i64 (npp : Int), .int .i64 (nps : Int), .int .i64 (npn : Int), .int .i64 (npf : Int), .int .i64 pt, .slice sa sn sc, .slice ia im ic] 37) := HKX.out.kept (Kb.grown HOY.out hb hg) (by decide)
    have HB7 : Hid (Below w.heap.size w w7) := HBX.out.trans (hb.mono (Nat.le_of_lt HLT.out))
    have HS7 : Hid (w1.heap.size ≤ w7.heap.size) := Nat.le_trans HSX.out hb.size
    clear ho hg hb hl7 hmx HOX HOY HKX HBX HSX HO6 HK6 HB6 HS6
    have e7 : w7.cell? ⟨w.heap.size, 0, none⟩ = some (.int .i64 3) := HK7.out.cell 0 rfl
    go_wp2_with fail
    refine (ref_ranged 3 _).mono ?_
    rw [HRM.out]
    rintro e w' ⟨rfl, hw'⟩
    rw [hw']
    clear hw' w'
    clear e7
    have e7 : w7.cell? ⟨w.heap.size, 0, none⟩ = some (.int .i64 3) := HK7.out.cell 0 rfl
    go_wp2
    go_returns
    refine ⟨⟨a7, l7, c7, by rw [HC0.out]; rfl, ?_⟩, HB7.out⟩
    rw [HPD.out]
    have h := HO7.out.under (show w.heap.size ≤ w1.heap.size by have := HLT.out; omega)
    simpa [List.append_assoc] using h)

set_option maxRecDepth 100000 in
set_option maxHeartbeats 4000000 in
theorem ref_Put_4 (pp ps pn pf pt : Int) (pl : List Sp) (pi : List It) (sa : Option Addr) (sn sc : Nat) (ia : Option Addr) (im ic : Nat) (w : World) (hp : PcRd w ⟨4, pp, ps, pn, pf, pt, pl, pi⟩ sa sn sc ia im ic) (hc : chk ⟨4, pp, ps, pn, pf, pt, pl, pi⟩ = 0) : Calls Tryd.prog 28 #[Pc.val ⟨4, pp, ps, pn, pf, pt, pl, pi⟩ sa sn sc ia im ic] w fun e w' => PutTold w' w.heap.size ⟨4, pp, ps, pn, pf, pt, pl, pi⟩ e ∧ Below w.heap.size w w' := by
  have HC0 : Hid (chk ⟨4, pp, ps, pn, pf, pt, pl, pi⟩ = 0) := hc
  obtain ⟨_, hnum, hnews⟩ := chk_zero hc
  have HNW : Hid (newsB 4 = true → ¬ (32 < pl.length ∨ 8 < pi.length) ∧ spB ⟨4, pp, ps, pn, pf, pt, pl, pi⟩ = true ∧ itE ⟨4, pp, ps, pn, pf, pt, pl, pi⟩ pf pi = 0) := hnews
  have hx_pub : 0 ≤ pp ∧ pp < 3 := by
    simp only [numB, pubB, namB, rngB, froB, subB, fromB, toB] at hnum
    simp at hnum
    omega
  obtain ⟨npp, hn_pub⟩ := Int.eq_ofNat_of_zero_le hx_pub.1
  have hl_pub : npp < 3 := by omega
  have hx_sub : 0 ≤ ps ∧ ps < 33 := by
    simp only [numB, pubB, namB, rngB, froB, subB, fromB, toB] at hnum
    simp at hnum
    omega
  obtain ⟨nps, hn_sub⟩ := Int.eq_ofNat_of_zero_le hx_sub.1
  have hl_sub : nps < 33 := by omega
  have hx_n_ : 0 ≤ pn ∧ pn < 1073741825 := by
    simp only [numB, pubB, namB, rngB, froB, subB, fromB, toB] at hnum
    simp at hnum
    omega
  obtain ⟨npn, hn_n_⟩ := Int.eq_ofNat_of_zero_le hx_n_.1
  have hl_n_ : npn < 1073741825 := by omega
  clear hx_pub hx_sub hx_n_ hnum hnews hc
  subst hn_pub hn_sub hn_n_
  have HPD : Hid (putD ⟨4, (npp : Int), (nps : Int), (npn : Int), pf, pt, pl, pi⟩ = [4] ++ (lebs [npp] ++ lebs [nps] ++ lebs [npn])) := by
    show _ = _
    rw [putD, if_pos HC0.out]
    simp [putP, subB, fromB, toB, newsB, lebs]
  have HP : Hid (PcRd w ⟨4, (npp : Int), (nps : Int), (npn : Int), pf, pt, pl, pi⟩ sa sn sc ia im ic) := hp
  clear hp
  unfold Pc.val
  simp only
  have HBx : Hid (Below w.heap.size w (w.alloc (.cells #[.int .i64 4, .int .i64 (npp : Int), .int .i64 (nps : Int), .int .i64 (npn : Int), .int .i64 pf, .int .i64 pt, .slice sa sn sc, .slice ia im ic] 37))) := below_new _ _
  have HKx : Hid (Bk (w.alloc (.cells #[.int .i64 4, .int .i64 (npp : Int), .int .i64 (nps : Int), .int .i64 (npn : Int), .int .i64 pf, .int .i64 pt, .slice sa sn sc, .slice ia im ic] 37)) w.heap.size #[.int .i64 4, .int .i64 (npp : Int), .int .i64 (nps : Int), .int .i64 (npn : Int), .int .i64 pf, .int .i64 pt, .slice sa sn sc, .slice ia im ic] 37) := Bk.new _ _ _
  have hcs := ref_Check ⟨4, (npp : Int), (nps : Int), (npn : Int), pf, pt, pl, pi⟩ sa sn sc ia im ic _ (HP.out.below HBx.out)
  rw [HC0.out] at hcs
  have HCS : Hid (Calls Tryd.prog 42 #[Pc.val ⟨4, (npp : Int), (nps : Int), (npn : Int), pf, pt, pl, pi⟩ sa sn sc ia im ic] (w.alloc (.cells #[.int .i64 4, .int .i64 (npp : Int), .int .i64 (nps : Int), .int .i64 (npn : Int), .int .i64 pf, .int .i64 pt, .slice sa sn sc, .slice ia im ic] 37)) fun e w' => e = .returned (.int .i64 0) ∧ Below (w.alloc (.cells #[.int .i64 4, .int .i64 (npp : Int), .int .i64 (nps : Int), .int .i64 (npn : Int), .int .i64 pf, .int .i64 pt, .slice sa sn sc, .slice ia im ic] 37)).heap.size (w.alloc (.cells #[.int .i64 4, .int .i64 (npp : Int), .int .i64 (nps : Int), .int .i64 (npn : Int), .int .i64 pf, .int .i64 pt, .slice sa sn sc, .slice ia im ic] 37)) w') := hcs
  clear hcs
  go_enter Tryd.func28, Tryd.ntmps28
  go_wp2_with fail
  refine HCS.out.mono ?_
  rintro e w1 ⟨rfl, hb1⟩
  have HB1 : Hid (Below w.heap.size w w1) := HBx.out.trans (hb1.mono HBx.out.size)
  have HK1 : Hid (Bk w1 w.heap.size #[.int .i64 4, .int .i64 (npp : Int), .int .i64 (nps : Int), .int .i64 (npn : Int), .int .i64 pf, .int .i64 pt, .slice sa sn sc, .slice ia im ic] 37) := HKx.out.stay hb1
  clear hb1 HKx HBx HCS
  have HLT : Hid (w.heap.size < w1.heap.size) := HK1.out.lt
  have HSK : Hid (∀ w', Below w1.heap.size w1 w' → w'.cell? ⟨w.heap.size, 0, none⟩ = some (.int .i64 4) ∧ w'.cell? ⟨w.heap.size, 1, none⟩ = some (.int .i64 (npp : Int))) := fun w' hb => ⟨(HK1.out.stay hb).cell 0 rfl, (HK1.out.stay hb).cell 1 rfl⟩
  have hwk : IntKind.u8.wrap 4 = 4 := by decide
  go_wp2
  have HBN : Hid (Below w1.heap.size w1 w1.drew) := (Below.refl _ _).drew
  go_region_held3 (fun w' => w'.cell? ⟨w.heap.size, 0, none⟩ = some (.int .i64 4) ∧ w'.cell? ⟨w.heap.size, 1, none⟩ = some (.int .i64 (npp : Int))) (first | with_reducible exact HSK.out _ HBN.out | with_reducible exact HSK.out _ (Below.refl _ _) | with_reducible exact HSK.out _ (below_new _ _) | with_reducible exact HSK.out _ (below_new _ _).drew | with_reducible exact HSK.out _ (HBN.out.alloc HBN.out.size _) | with_reducible exact HSK.out _ (HBN.out.alloc HBN.out.size _).drew | exact HSK.out _ HBN.out | exact HSK.out _ (Below.refl _ _) | fail)
    (first
      | (go_at_call 43; refine (ref_num npp (by omega) _).mono ?_; rintro e w3 ⟨a3, m3, c3, he3, hm3, ho3, hb3⟩; subst he3; first
        | (have ht : Below w1.drew.heap.size w1.drew w3 := (by with_reducible exact hb3); clear ht; have HO3 : Hid (Own w3 w1.heap.size a3 m3 c3 (lebs [npp])) := ho3; have HBM : Hid (Below w1.heap.size w1 w3) := HBN.out.trans hb3; clear HBN; have HBN := HBM; clear hb3 ho3)
        | (have hb3' : Below (w1.alloc (.cells #[.int .u8 4] 5)).drew.heap.size (w1.alloc (.cells #[.int .u8 4] 5)).drew w3 := (by with_reducible exact hb3); have hX : Own (w1.alloc (.cells #[.int .u8 4] 5)).drew w1.heap.size (some ⟨w1.heap.size, 0, none⟩) 1 1 [4] := (Own.new w1 w1.heap.size #[.int .u8 4] [4] (by simp) rfl (Nat.le_refl _) (by unfold maxLen; simp)).drew; have HOK : Hid (Own w3 w1.heap.size (some ⟨w1.heap.size, 0, none⟩) 1 1 [4]) := hX.below hb3'; have HO3 : Hid (Own w3 w1.heap.size a3 m3 c3 (lebs [npp])) := ho3.under (by show _ ≤ (w1.alloc (.cells #[.int .u8 4] 5)).heap.size; simp); have HBM : Hid (Below w1.heap.size w1 w3) := ((below_new w1 _).drew).trans (hb3'.mono (by show _ ≤ (w1.alloc (.cells #[.int .u8 4] 5)).heap.size; simp)); clear HBN; have HBN := HBM; clear hb3 hb3' ho3 hX))
      | (have hz := HOK; clear hz; refine step_append_rd (by rfl) (.tmp 17) (.tmp 20) (by rfl) w1.heap.size (some ⟨w1.heap.size, 0, none⟩) 1 1 [4] (by rfl) (by first | with_reducible exact HOK.out | with_reducible exact HOK.out.drew) a3 m3 c3 (lebs [npp]) (by rfl) (by first | with_reducible exact HO3.out.rd | with_reducible exact HO3.out.rd.drew) HO3.out.nil_cap' (by omega) HBM.out.size (1 + m3) rfl ([4] ++ lebs [npp]) rfl ?_; intro a4 c4 w4 ho4 hg4 hb4; have HO4 : Hid (Own w4 w1.heap.size a4 (1 + m3) c4 ([4] ++ lebs [npp])) := ho4; have HBL : Hid (Below w1.heap.size w1 w4) := HBM.out.trans hb4; clear HBN; have HBN := HBL; clear ho4 hg4 hb4)
      | (have hz := HO3; clear hz; refine step_append_rd (by rfl) (.tmp 17) (.tmp 20) (by rfl) w1.heap.size (some ⟨w3.heap.size, 0, none⟩) 1 1 [4] (by rfl) (by first | with_reducible exact Own.new w3 w1.heap.size #[.int .u8 4] [4] (by simp) rfl HBM.out.size (by unfold maxLen; simp) | exact Own.new w3 w1.heap.size #[.int .u8 4] [4] (by simp) rfl HBM.out.size (by unfold maxLen; simp)) a3 m3 c3 (lebs [npp]) (by rfl) (by first | with_reducible exact HO3.out.rd.below (below_new _ _) | exact (HO3.out.rd.below (below_new _ _)).drew) HO3.out.nil_cap' (by omega) (Nat.le_trans HBM.out.size (by simp)) (1 + m3) rfl ([4] ++ lebs [npp]) rfl ?_; intro a4 c4 w4 ho4 hg4 hb4; have HO4 : Hid (Own w4 w1.heap.size a4 (1 + m3) c4 ([4] ++ lebs [npp])) := ho4; have HBL : Hid (Below w1.heap.size w1 w4) := (HBM.out.trans ((below_new w3 _).mono HBM.out.size)).trans hb4; clear HBN; have HBN := HBL; clear ho4 hg4 hb4))
  all_goals (
    obtain ⟨l4, hl4⟩ : ∃ l, l = 1 + m3 := ⟨_, rfl⟩
    have h4l : l4 ≤ 11 := by omega
    rw [← hl4] at HO4 ⊢
    have HB4 : Hid (Below w.heap.size w w4) := HB1.out.trans (HBL.out.mono HB1.out.size)
    have HK4 : Hid (Bk w4 w.heap.size #[.int .i64 4, .int .i64 (npp : Int), .int .i64 (nps : Int), .int .i64 (npn : Int), .int .i64 pf, .int .i64 pt, .slice sa sn sc, .slice ia im ic] 37) := HK1.out.stay HBL.out
    have HS4 : Hid (w1.heap.size ≤ w4.heap.size) := HBL.out.size
    clear hl4 HBN HBM HBL HO3
    have HNM : Hid (subB 4 = true) := rfl
    have HFM : Hid (fromB 4 = false) := rfl
    have HRM : Hid (toB 4 = false) := rfl
    have e4 : w4.cell? ⟨w.heap.size, 0, none⟩ = some (.int .i64 4) := HK4.out.cell 0 rfl
    go_wp2_with fail
    refine (ref_named 4 _).mono ?_
    rw [HNM.out]
    rintro e w' ⟨rfl, hw'⟩
    rw [hw']
    clear hw' w'
    clear e4
    have d2 : w4.cell? ⟨w.heap.size, 2, none⟩ = some (.int .i64 (nps : Int)) := HK4.out.cell 2 rfl
    go_wp2_with fail
    refine (ref_num nps (by omega) _).mono ?_
    rintro e v4 ⟨ax, mx, cx, he, hmx, hox, hbx⟩
    subst he
    have HOX : Hid (Own v4 w4.heap.size ax mx cx (lebs [nps])) := hox
    have HKX : Hid (Bk v4 w.heap.size #[.int .i64 4, .int .i64 (npp : Int), .int .i64 (nps : Int), .int .i64 (npn : Int), .int .i64 pf, .int .i64 pt, .slice sa sn sc, .slice ia im ic] 37) := HK4.out.stay hbx
    have HOY : Hid (Own v4 w1.heap.size a4 l4 c4 ([4] ++ lebs [npp])) := HO4.out.below hbx
    have HBX : Hid (Below w.heap.size w v4) := HB4.out.trans (hbx.mono HB4.out.size)
    have HSX : Hid (w1.heap.size ≤ v4.heap.size) := Nat.le_trans HS4.out hbx.size
    clear hox hbx d2
    go_wp2_with (at_builtin; refine wpList_append_rd rfl (.tmp 25) (.tmp 28) rfl w1.heap.size a4 l4 c4 ([4] ++ lebs [npp]) rfl HOY.out ax mx cx (lebs [nps]) rfl HOX.out.rd HOX.out.nil_cap' (by omega) HSX.out ?_)
    intro a5 c5 w5 ho hg hb
    obtain ⟨l5, hl5⟩ : ∃ l, l = l4 + mx := ⟨_, rfl⟩
    have h5l : l5 ≤ 21 := by omega
    rw [← hl5] at ho ⊢
    have HO5 : Hid (Own w5 w1.heap.size a5 l5 c5 ([4] ++ lebs [npp] ++ lebs [nps])) := by show Own _ _ _ _ _ _; simpa only [List.append_assoc, List.cons_append, List.nil_append] using ho
    have HK5 : Hid (Bk w5 w.heap.size #[.int .i64 4, .int .i64 (npp : Int), .int .i64 (nps : Int), .int .i64 (npn : Int), .int .i64 pf, .int .i64 pt, .slice sa sn sc, .slice ia im ic] 37) := HKX.out.kept (Kb.grown HOY.out hb hg) (by decide)
    have HB5 : Hid (Below w.heap.size w w5) := HBX.out.trans (hb.mono (Nat.le_of_lt HLT.out))
    have HS5 : Hid (w1.heap.size ≤ w5.heap.size) := Nat.le_trans HSX.out hb.size
    clear ho hg hb hl5 hmx HOX HOY HKX HBX HSX HO4 HK4 HB4 HS4
    have d3 : w5.cell? ⟨w.heap.size, 3, none⟩ = some (.int .i64 (npn : Int)) := HK5.out.cell 3 rfl
    go_wp2_with fail
    refine (ref_num npn (by omega) _).mono ?_
    rintro e v5 ⟨ax, mx, cx, he, hmx, hox, hbx⟩
    subst he
    have HOX : Hid (Own v5 w5.heap.size ax mx cx (lebs [npn])) := hox
    have HKX : Hid (Bk v5 w.heap.size #[.int .i64 4, .int .i64 (npp : Int), .int .i64 (nps : Int), .int .i64 (npn : Int), .int .i64 pf, .int .i64 pt, .slice sa sn sc, .slice ia im ic] 37) := HK5.out.stay hbx
    have HOY : Hid (Own v5 w1.heap.size a5 l5 c5 ([4] ++ lebs [npp] ++ lebs [nps])) := HO5.out.below hbx
    have HBX : Hid (Below w.heap.size w v5) := HB5.out.trans (hbx.mono HB5.out.size)
    have HSX : Hid (w1.heap.size ≤ v5.heap.size) := Nat.le_trans HS5.out hbx.size
    clear hox hbx d3
    go_wp2_with (at_builtin; refine wpList_append_rd rfl (.tmp 30) (.tmp 33) rfl w1.heap.size a5 l5 c5 ([4] ++ lebs [npp] ++ lebs [nps]) rfl HOY.out ax mx cx (lebs [npn]) rfl HOX.out.rd HOX.out.nil_cap' (by omega) HSX.out ?_)
    intro a6 c6 w6 ho hg hb
    obtain ⟨l6, hl6⟩ : ∃ l, l = l5 + mx := ⟨_, rfl⟩
    have h6l : l6 ≤ 31 := by omega
    rw [← hl6] at ho ⊢
    have HO6 : Hid (Own w6 w1.heap.size a6 l6 c6 ([4] ++ lebs [npp] ++ lebs [nps] ++ lebs [npn])) := by show Own _ _ _ _ _ _; simpa only [List.append_assoc, List.cons_append, List.nil_append] using ho
    have HK6 : Hid (Bk w6 w.heap.size #[.int .i64 4, .int .i64 (npp : Int), .int .i64 (nps : Int), .int .i64 (npn : Int), .int .i64 pf, .int .i64 pt, .slice sa sn sc, .slice ia im ic] 37) := HKX.out.kept (Kb.grown HOY.out hb hg) (by decide)
    have HB6 : Hid (Below w.heap.size w w6) := HBX.out.trans (hb.mono (Nat.le_of_lt HLT.out))
    have HS6 : Hid (w1.heap.size ≤ w6.heap.size) := Nat.le_trans HSX.out hb.size
    clear ho hg hb hl6 hmx HOX HOY HKX HBX HSX HO5 HK5 HB5 HS5
    have e6 : w6.cell? ⟨w.heap.size, 0, none⟩ = some (.int .i64 4) := HK6.out.cell 0 rfl
    go_wp2_with fail
    refine (ref_from 4 _).mono ?_
    rw [HFM.out]
    rintro e w' ⟨rfl, hw'⟩
    rw [hw']
    clear hw' w'
    clear e6
    have e6 : w6.cell? ⟨w.heap.size, 0, none⟩ = some (.int .i64 4) := HK6.out.cell 0 rfl
    go_wp2_with fail
    refine (ref_ranged 4 _).mono ?_
    rw [HRM.out]
    rintro e w' ⟨rfl, hw'⟩
    rw [hw']
    clear hw' w'
    clear e6
    have e6 : w6.cell? ⟨w.heap.size, 0, none⟩ = some (.int .i64 4) := HK6.out.cell 0 rfl
    go_wp2
    go_returns
    refine ⟨⟨a6, l6, c6, by rw [HC0.out]; rfl, ?_⟩, HB6.out⟩
    rw [HPD.out]
    have h := HO6.out.under (show w.heap.size ≤ w1.heap.size by have := HLT.out; omega)
    simpa [List.append_assoc] using h)

set_option maxRecDepth 100000 in
set_option maxHeartbeats 4000000 in
theorem ref_Put_5 (pp ps pn pf pt : Int) (pl : List Sp) (pi : List It) (sa : Option Addr) (sn sc : Nat) (ia : Option Addr) (im ic : Nat) (w : World) (hp : PcRd w ⟨5, pp, ps, pn, pf, pt, pl, pi⟩ sa sn sc ia im ic) (hc : chk ⟨5, pp, ps, pn, pf, pt, pl, pi⟩ = 0) : Calls Tryd.prog 28 #[Pc.val ⟨5, pp, ps, pn, pf, pt, pl, pi⟩ sa sn sc ia im ic] w fun e w' => PutTold w' w.heap.size ⟨5, pp, ps, pn, pf, pt, pl, pi⟩ e ∧ Below w.heap.size w w' := by
  have HC0 : Hid (chk ⟨5, pp, ps, pn, pf, pt, pl, pi⟩ = 0) := hc
  obtain ⟨_, hnum, hnews⟩ := chk_zero hc
  have HNW : Hid (newsB 5 = true → ¬ (32 < pl.length ∨ 8 < pi.length) ∧ spB ⟨5, pp, ps, pn, pf, pt, pl, pi⟩ = true ∧ itE ⟨5, pp, ps, pn, pf, pt, pl, pi⟩ pf pi = 0) := hnews
  have hx_pub : 0 ≤ pp ∧ pp < 3 := by
    simp only [numB, pubB, namB, rngB, froB, subB, fromB, toB] at hnum
    simp at hnum
    omega
  obtain ⟨npp, hn_pub⟩ := Int.eq_ofNat_of_zero_le hx_pub.1
  have hl_pub : npp < 3 := by omega
  have hx_sub : 0 ≤ ps ∧ ps < 33 := by
    simp only [numB, pubB, namB, rngB, froB, subB, fromB, toB] at hnum
    simp at hnum
    omega
  obtain ⟨nps, hn_sub⟩ := Int.eq_ofNat_of_zero_le hx_sub.1
  have hl_sub : nps < 33 := by omega
  have hx_n_ : 0 ≤ pn ∧ pn < 1073741825 := by
    simp only [numB, pubB, namB, rngB, froB, subB, fromB, toB] at hnum
    simp at hnum
    omega
  obtain ⟨npn, hn_n_⟩ := Int.eq_ofNat_of_zero_le hx_n_.1
  have hl_n_ : npn < 1073741825 := by omega
  have hx_fr : 0 ≤ pf ∧ pf < 1099511627777 := by
    simp only [numB, pubB, namB, rngB, froB, subB, fromB, toB] at hnum
    simp at hnum
    omega
  obtain ⟨npf, hn_fr⟩ := Int.eq_ofNat_of_zero_le hx_fr.1
  have hl_fr : npf < 1099511627777 := by omega
  clear hx_pub hx_sub hx_n_ hx_fr hnum hnews hc
  subst hn_pub hn_sub hn_n_ hn_fr
  have HPD : Hid (putD ⟨5, (npp : Int), (nps : Int), (npn : Int), (npf : Int), pt, pl, pi⟩ = [5] ++ (lebs [npp] ++ lebs [nps] ++ lebs [npn] ++ lebs [npf])) := by
    show _ = _
    rw [putD, if_pos HC0.out]
    simp [putP, subB, fromB, toB, newsB, lebs]
  have HP : Hid (PcRd w ⟨5, (npp : Int), (nps : Int), (npn : Int), (npf : Int), pt, pl, pi⟩ sa sn sc ia im ic) := hp
  clear hp
  unfold Pc.val
  simp only
  have HBx : Hid (Below w.heap.size w (w.alloc (.cells #[.int .i64 5, .int .i64 (npp : Int), .int .i64 (nps : Int), .int .i64 (npn : Int), .int .i64 (npf : Int), .int .i64 pt, .slice sa sn sc, .slice ia im ic] 37))) := below_new _ _
  have HKx : Hid (Bk (w.alloc (.cells #[.int .i64 5, .int .i64 (npp : Int), .int .i64 (nps : Int), .int .i64 (npn : Int), .int .i64 (npf : Int), .int .i64 pt, .slice sa sn sc, .slice ia im ic] 37)) w.heap.size #[.int .i64 5, .int .i64 (npp : Int), .int .i64 (nps : Int), .int .i64 (npn : Int), .int .i64 (npf : Int), .int .i64 pt, .slice sa sn sc, .slice ia im ic] 37) := Bk.new _ _ _
  have hcs := ref_Check ⟨5, (npp : Int), (nps : Int), (npn : Int), (npf : Int), pt, pl, pi⟩ sa sn sc ia im ic _ (HP.out.below HBx.out)
  rw [HC0.out] at hcs
  have HCS : Hid (Calls Tryd.prog 42 #[Pc.val ⟨5, (npp : Int), (nps : Int), (npn : Int), (npf : Int), pt, pl, pi⟩ sa sn sc ia im ic] (w.alloc (.cells #[.int .i64 5, .int .i64 (npp : Int), .int .i64 (nps : Int), .int .i64 (npn : Int), .int .i64 (npf : Int), .int .i64 pt, .slice sa sn sc, .slice ia im ic] 37)) fun e w' => e = .returned (.int .i64 0) ∧ Below (w.alloc (.cells #[.int .i64 5, .int .i64 (npp : Int), .int .i64 (nps : Int), .int .i64 (npn : Int), .int .i64 (npf : Int), .int .i64 pt, .slice sa sn sc, .slice ia im ic] 37)).heap.size (w.alloc (.cells #[.int .i64 5, .int .i64 (npp : Int), .int .i64 (nps : Int), .int .i64 (npn : Int), .int .i64 (npf : Int), .int .i64 pt, .slice sa sn sc, .slice ia im ic] 37)) w') := hcs
  clear hcs
  go_enter Tryd.func28, Tryd.ntmps28
  go_wp2_with fail
  refine HCS.out.mono ?_
  rintro e w1 ⟨rfl, hb1⟩
  have HB1 : Hid (Below w.heap.size w w1) := HBx.out.trans (hb1.mono HBx.out.size)
  have HK1 : Hid (Bk w1 w.heap.size #[.int .i64 5, .int .i64 (npp : Int), .int .i64 (nps : Int), .int .i64 (npn : Int), .int .i64 (npf : Int), .int .i64 pt, .slice sa sn sc, .slice ia im ic] 37) := HKx.out.stay hb1
  clear hb1 HKx HBx HCS
  have HLT : Hid (w.heap.size < w1.heap.size) := HK1.out.lt
  have HSK : Hid (∀ w', Below w1.heap.size w1 w' → w'.cell? ⟨w.heap.size, 0, none⟩ = some (.int .i64 5) ∧ w'.cell? ⟨w.heap.size, 1, none⟩ = some (.int .i64 (npp : Int))) := fun w' hb => ⟨(HK1.out.stay hb).cell 0 rfl, (HK1.out.stay hb).cell 1 rfl⟩
  have hwk : IntKind.u8.wrap 5 = 5 := by decide
  go_wp2
  have HBN : Hid (Below w1.heap.size w1 w1.drew) := (Below.refl _ _).drew
  go_region_held3 (fun w' => w'.cell? ⟨w.heap.size, 0, none⟩ = some (.int .i64 5) ∧ w'.cell? ⟨w.heap.size, 1, none⟩ = some (.int .i64 (npp : Int))) (first | with_reducible exact HSK.out _ HBN.out | with_reducible exact HSK.out _ (Below.refl _ _) | with_reducible exact HSK.out _ (below_new _ _) | with_reducible exact HSK.out _ (below_new _ _).drew | with_reducible exact HSK.out _ (HBN.out.alloc HBN.out.size _) | with_reducible exact HSK.out _ (HBN.out.alloc HBN.out.size _).drew | exact HSK.out _ HBN.out | exact HSK.out _ (Below.refl _ _) | fail)
    (first
      | (go_at_call 43; refine (ref_num npp (by omega) _).mono ?_; rintro e w3 ⟨a3, m3, c3, he3, hm3, ho3, hb3⟩; subst he3; first
        | (have ht : Below w1.drew.heap.size w1.drew w3 := (by with_reducible exact hb3); clear ht; have HO3 : Hid (Own w3 w1.heap.size a3 m3 c3 (lebs [npp])) := ho3; have HBM : Hid (Below w1.heap.size w1 w3) := HBN.out.trans hb3; clear HBN; have HBN := HBM; clear hb3 ho3)
        | (have hb3' : Below (w1.alloc (.cells #[.int .u8 5] 5)).drew.heap.size (w1.alloc (.cells #[.int .u8 5] 5)).drew w3 := (by with_reducible exact hb3); have hX : Own (w1.alloc (.cells #[.int .u8 5] 5)).drew w1.heap.size (some ⟨w1.heap.size, 0, none⟩) 1 1 [5] := (Own.new w1 w1.heap.size #[.int .u8 5] [5] (by simp) rfl (Nat.le_refl _) (by unfold maxLen; simp)).drew; have HOK : Hid (Own w3 w1.heap.size (some ⟨w1.heap.size, 0, none⟩) 1 1 [5]) := hX.below hb3'; have HO3 : Hid (Own w3 w1.heap.size a3 m3 c3 (lebs [npp])) := ho3.under (by show _ ≤ (w1.alloc (.cells #[.int .u8 5] 5)).heap.size; simp); have HBM : Hid (Below w1.heap.size w1 w3) := ((below_new w1 _).drew).trans (hb3'.mono (by show _ ≤ (w1.alloc (.cells #[.int .u8 5] 5)).heap.size; simp)); clear HBN; have HBN := HBM; clear hb3 hb3' ho3 hX))
      | (have hz := HOK; clear hz; refine step_append_rd (by rfl) (.tmp 17) (.tmp 20) (by rfl) w1.heap.size (some ⟨w1.heap.size, 0, none⟩) 1 1 [5] (by rfl) (by first | with_reducible exact HOK.out | with_reducible exact HOK.out.drew) a3 m3 c3 (lebs [npp]) (by rfl) (by first | with_reducible exact HO3.out.rd | with_reducible exact HO3.out.rd.drew) HO3.out.nil_cap' (by omega) HBM.out.size (1 + m3) rfl ([5] ++ lebs [npp]) rfl ?_; intro a4 c4 w4 ho4 hg4 hb4; have HO4 : Hid (Own w4 w1.heap.size a4 (1 + m3) c4 ([5] ++ lebs [npp])) := ho4; have HBL : Hid (Below w1.heap.size w1 w4) := HBM.out.trans hb4; clear HBN; have HBN := HBL; clear ho4 hg4 hb4)
      | (have hz := HO3; clear hz; refine step_append_rd (by rfl) (.tmp 17) (.tmp 20) (by rfl) w1.heap.size (some ⟨w3.heap.size, 0, none⟩) 1 1 [5] (by rfl) (by first | with_reducible exact Own.new w3 w1.heap.size #[.int .u8 5] [5] (by simp) rfl HBM.out.size (by unfold maxLen; simp) | exact Own.new w3 w1.heap.size #[.int .u8 5] [5] (by simp) rfl HBM.out.size (by unfold maxLen; simp)) a3 m3 c3 (lebs [npp]) (by rfl) (by first | with_reducible exact HO3.out.rd.below (below_new _ _) | exact (HO3.out.rd.below (below_new _ _)).drew) HO3.out.nil_cap' (by omega) (Nat.le_trans HBM.out.size (by simp)) (1 + m3) rfl ([5] ++ lebs [npp]) rfl ?_; intro a4 c4 w4 ho4 hg4 hb4; have HO4 : Hid (Own w4 w1.heap.size a4 (1 + m3) c4 ([5] ++ lebs [npp])) := ho4; have HBL : Hid (Below w1.heap.size w1 w4) := (HBM.out.trans ((below_new w3 _).mono HBM.out.size)).trans hb4; clear HBN; have HBN := HBL; clear ho4 hg4 hb4))
  all_goals (
    obtain ⟨l4, hl4⟩ : ∃ l, l = 1 + m3 := ⟨_, rfl⟩
    have h4l : l4 ≤ 11 := by omega
    rw [← hl4] at HO4 ⊢
    have HB4 : Hid (Below w.heap.size w w4) := HB1.out.trans (HBL.out.mono HB1.out.size)
    have HK4 : Hid (Bk w4 w.heap.size #[.int .i64 5, .int .i64 (npp : Int), .int .i64 (nps : Int), .int .i64 (npn : Int), .int .i64 (npf : Int), .int .i64 pt, .slice sa sn sc, .slice ia im ic] 37) := HK1.out.stay HBL.out
    have HS4 : Hid (w1.heap.size ≤ w4.heap.size) := HBL.out.size
    clear hl4 HBN HBM HBL HO3
    have HNM : Hid (subB 5 = true) := rfl
    have HFM : Hid (fromB 5 = true) := rfl
    have HRM : Hid (toB 5 = false) := rfl
    have e4 : w4.cell? ⟨w.heap.size, 0, none⟩ = some (.int .i64 5) := HK4.out.cell 0 rfl
    go_wp2_with fail
    refine (ref_named 5 _).mono ?_
    rw [HNM.out]
    rintro e w' ⟨rfl, hw'⟩
    rw [hw']
    clear hw' w'
    clear e4
    have d2 : w4.cell? ⟨w.heap.size, 2, none⟩ = some (.int .i64 (nps : Int)) := HK4.out.cell 2 rfl
    go_wp2_with fail
    refine (ref_num nps (by omega) _).mono ?_
    rintro e v4 ⟨ax, mx, cx, he, hmx, hox, hbx⟩
    subst he
    have HOX : Hid (Own v4 w4.heap.size ax mx cx (lebs [nps])) := hox
    have HKX : Hid (Bk v4 w.heap.size #[.int .i64 5, .int .i64 (npp : Int), .int .i64 (nps : Int), .int .i64 (npn : Int), .int .i64 (npf : Int), .int .i64 pt, .slice sa sn sc, .slice ia im ic] 37) := HK4.out.stay hbx
    have HOY : Hid (Own v4 w1.heap.size a4 l4 c4 ([5] ++ lebs [npp])) := HO4.out.below hbx
    have HBX : Hid (Below w.heap.size w v4) := HB4.out.trans (hbx.mono HB4.out.size)
    have HSX : Hid (w1.heap.size ≤ v4.heap.size) := Nat.le_trans HS4.out hbx.size
    clear hox hbx d2
    go_wp2_with (at_builtin; refine wpList_append_rd rfl (.tmp 25) (.tmp 28) rfl w1.heap.size a4 l4 c4 ([5] ++ lebs [npp]) rfl HOY.out ax mx cx (lebs [nps]) rfl HOX.out.rd HOX.out.nil_cap' (by omega) HSX.out ?_)
    intro a5 c5 w5 ho hg hb
    obtain ⟨l5, hl5⟩ : ∃ l, l = l4 + mx := ⟨_, rfl⟩
    have h5l : l5 ≤ 21 := by omega
    rw [← hl5] at ho ⊢
    have HO5 : Hid (Own w5 w1.heap.size a5 l5 c5 ([5] ++ lebs [npp] ++ lebs [nps])) := by show Own _ _ _ _ _ _; simpa only [List.append_assoc, List.cons_append, List.nil_append] using ho
    have HK5 : Hid (Bk w5 w.heap.size #[.int .i64 5, .int .i64 (npp : Int), .int .i64 (nps : Int), .int .i64 (npn : Int), .int .i64 (npf : Int), .int .i64 pt, .slice sa sn sc, .slice ia im ic] 37) := HKX.out.kept (Kb.grown HOY.out hb hg) (by decide)
    have HB5 : Hid (Below w.heap.size w w5) := HBX.out.trans (hb.mono (Nat.le_of_lt HLT.out))
    have HS5 : Hid (w1.heap.size ≤ w5.heap.size) := Nat.le_trans HSX.out hb.size
    clear ho hg hb hl5 hmx HOX HOY HKX HBX HSX HO4 HK4 HB4 HS4
    have d3 : w5.cell? ⟨w.heap.size, 3, none⟩ = some (.int .i64 (npn : Int)) := HK5.out.cell 3 rfl
    go_wp2_with fail
    refine (ref_num npn (by omega) _).mono ?_
    rintro e v5 ⟨ax, mx, cx, he, hmx, hox, hbx⟩
    subst he
    have HOX : Hid (Own v5 w5.heap.size ax mx cx (lebs [npn])) := hox
    have HKX : Hid (Bk v5 w.heap.size #[.int .i64 5, .int .i64 (npp : Int), .int .i64 (nps : Int), .int .i64 (npn : Int), .int .i64 (npf : Int), .int .i64 pt, .slice sa sn sc, .slice ia im ic] 37) := HK5.out.stay hbx
    have HOY : Hid (Own v5 w1.heap.size a5 l5 c5 ([5] ++ lebs [npp] ++ lebs [nps])) := HO5.out.below hbx
    have HBX : Hid (Below w.heap.size w v5) := HB5.out.trans (hbx.mono HB5.out.size)
    have HSX : Hid (w1.heap.size ≤ v5.heap.size) := Nat.le_trans HS5.out hbx.size
    clear hox hbx d3
    go_wp2_with (at_builtin; refine wpList_append_rd rfl (.tmp 30) (.tmp 33) rfl w1.heap.size a5 l5 c5 ([5] ++ lebs [npp] ++ lebs [nps]) rfl HOY.out ax mx cx (lebs [npn]) rfl HOX.out.rd HOX.out.nil_cap' (by omega) HSX.out ?_)
    intro a6 c6 w6 ho hg hb
    obtain ⟨l6, hl6⟩ : ∃ l, l = l5 + mx := ⟨_, rfl⟩
    have h6l : l6 ≤ 31 := by omega
    rw [← hl6] at ho ⊢
    have HO6 : Hid (Own w6 w1.heap.size a6 l6 c6 ([5] ++ lebs [npp] ++ lebs [nps] ++ lebs [npn])) := by show Own _ _ _ _ _ _; simpa only [List.append_assoc, List.cons_append, List.nil_append] using ho
    have HK6 : Hid (Bk w6 w.heap.size #[.int .i64 5, .int .i64 (npp : Int), .int .i64 (nps : Int), .int .i64 (npn : Int), .int .i64 (npf : Int), .int .i64 pt, .slice sa sn sc, .slice ia im ic] 37) := HKX.out.kept (Kb.grown HOY.out hb hg) (by decide)
    have HB6 : Hid (Below w.heap.size w w6) := HBX.out.trans (hb.mono (Nat.le_of_lt HLT.out))
    have HS6 : Hid (w1.heap.size ≤ w6.heap.size) := Nat.le_trans HSX.out hb.size
    clear ho hg hb hl6 hmx HOX HOY HKX HBX HSX HO5 HK5 HB5 HS5
    have e6 : w6.cell? ⟨w.heap.size, 0, none⟩ = some (.int .i64 5) := HK6.out.cell 0 rfl
    go_wp2_with fail
    refine (ref_from 5 _).mono ?_
    rw [HFM.out]
    rintro e w' ⟨rfl, hw'⟩
    rw [hw']
    clear hw' w'
    clear e6
    have d4 : w6.cell? ⟨w.heap.size, 4, none⟩ = some (.int .i64 (npf : Int)) := HK6.out.cell 4 rfl
    go_wp2_with fail
    refine (ref_num npf (by omega) _).mono ?_
    rintro e v6 ⟨ax, mx, cx, he, hmx, hox, hbx⟩
    subst he
    have HOX : Hid (Own v6 w6.heap.size ax mx cx (lebs [npf])) := hox
    have HKX : Hid (Bk v6 w.heap.size #[.int .i64 5, .int .i64 (npp : Int), .int .i64 (nps : Int), .int .i64 (npn : Int), .int .i64 (npf : Int), .int .i64 pt, .slice sa sn sc, .slice ia im ic] 37) := HK6.out.stay hbx
    have HOY : Hid (Own v6 w1.heap.size a6 l6 c6 ([5] ++ lebs [npp] ++ lebs [nps] ++ lebs [npn])) := HO6.out.below hbx
    have HBX : Hid (Below w.heap.size w v6) := HB6.out.trans (hbx.mono HB6.out.size)
    have HSX : Hid (w1.heap.size ≤ v6.heap.size) := Nat.le_trans HS6.out hbx.size
    clear hox hbx d4
    go_wp2_with (at_builtin; refine wpList_append_rd rfl (.tmp 38) (.tmp 41) rfl w1.heap.size a6 l6 c6 ([5] ++ lebs [npp] ++ lebs [nps] ++ lebs [npn]) rfl HOY.out ax mx cx (lebs [npf]) rfl HOX.out.rd HOX.out.nil_cap' (by omega) HSX.out ?_)
    intro a7 c7 w7 ho hg hb
    obtain ⟨l7, hl7⟩ : ∃ l, l = l6 + mx := ⟨_, rfl⟩
    have h7l : l7 ≤ 41 := by omega
    rw [← hl7] at ho ⊢
    have HO7 : Hid (Own w7 w1.heap.size a7 l7 c7 ([5] ++ lebs [npp] ++ lebs [nps] ++ lebs [npn] ++ lebs [npf])) := by show Own _ _ _ _ _ _; simpa only [List.append_assoc, List.cons_append, List.nil_append] using ho
    have HK7 : Hid (Bk w7 w.heap.size #[.int .i64 5, .int .i64 (npp : Int), .int .i64 (nps : Int), .int .i64 (npn : Int), .int .i64 (npf : Int), .int .i64 pt, .slice sa sn sc, .slice ia im ic] 37) := HKX.out.kept (Kb.grown HOY.out hb hg) (by decide)
    have HB7 : Hid (Below w.heap.size w w7) := HBX.out.trans (hb.mono (Nat.le_of_lt HLT.out))
    have HS7 : Hid (w1.heap.size ≤ w7.heap.size) := Nat.le_trans HSX.out hb.size
    clear ho hg hb hl7 hmx HOX HOY HKX HBX HSX HO6 HK6 HB6 HS6
    have e7 : w7.cell? ⟨w.heap.size, 0, none⟩ = some (.int .i64 5) := HK7.out.cell 0 rfl
    go_wp2_with fail
    refine (ref_ranged 5 _).mono ?_
    rw [HRM.out]
    rintro e w' ⟨rfl, hw'⟩
    rw [hw']
    clear hw' w'
    clear e7
    have e7 : w7.cell? ⟨w.heap.size, 0, none⟩ = some (.int .i64 5) := HK7.out.cell 0 rfl
    go_wp2
    go_returns
    refine ⟨⟨a7, l7, c7, by rw [HC0.out]; rfl, ?_⟩, HB7.out⟩
    rw [HPD.out]
    have h := HO7.out.under (show w.heap.size ≤ w1.heap.size by have := HLT.out; omega)
    simpa [List.append_assoc] using h)

set_option maxRecDepth 100000 in
set_option maxHeartbeats 4000000 in
theorem ref_Put_6 (pp ps pn pf pt : Int) (pl : List Sp) (pi : List It) (sa : Option Addr) (sn sc : Nat) (ia : Option Addr) (im ic : Nat) (w : World) (hp : PcRd w ⟨6, pp, ps, pn, pf, pt, pl, pi⟩ sa sn sc ia im ic) (hc : chk ⟨6, pp, ps, pn, pf, pt, pl, pi⟩ = 0) : Calls Tryd.prog 28 #[Pc.val ⟨6, pp, ps, pn, pf, pt, pl, pi⟩ sa sn sc ia im ic] w fun e w' => PutTold w' w.heap.size ⟨6, pp, ps, pn, pf, pt, pl, pi⟩ e ∧ Below w.heap.size w w' := by
  have HC0 : Hid (chk ⟨6, pp, ps, pn, pf, pt, pl, pi⟩ = 0) := hc
  obtain ⟨_, hnum, hnews⟩ := chk_zero hc
  have HNW : Hid (newsB 6 = true → ¬ (32 < pl.length ∨ 8 < pi.length) ∧ spB ⟨6, pp, ps, pn, pf, pt, pl, pi⟩ = true ∧ itE ⟨6, pp, ps, pn, pf, pt, pl, pi⟩ pf pi = 0) := hnews
  have hx_pub : 0 ≤ pp ∧ pp < 3 := by
    simp only [numB, pubB, namB, rngB, froB, subB, fromB, toB] at hnum
    simp at hnum
    omega
  obtain ⟨npp, hn_pub⟩ := Int.eq_ofNat_of_zero_le hx_pub.1
  have hl_pub : npp < 3 := by omega
  have hx_sub : 0 ≤ ps ∧ ps < 33 := by
    simp only [numB, pubB, namB, rngB, froB, subB, fromB, toB] at hnum
    simp at hnum
    omega
  obtain ⟨nps, hn_sub⟩ := Int.eq_ofNat_of_zero_le hx_sub.1
  have hl_sub : nps < 33 := by omega
  have hx_n_ : 0 ≤ pn ∧ pn < 1073741825 := by
    simp only [numB, pubB, namB, rngB, froB, subB, fromB, toB] at hnum
    simp at hnum
    omega
  obtain ⟨npn, hn_n_⟩ := Int.eq_ofNat_of_zero_le hx_n_.1
  have hl_n_ : npn < 1073741825 := by omega
  clear hx_pub hx_sub hx_n_ hnum hnews hc
  subst hn_pub hn_sub hn_n_
  have HPD : Hid (putD ⟨6, (npp : Int), (nps : Int), (npn : Int), pf, pt, pl, pi⟩ = [6] ++ (lebs [npp] ++ lebs [nps] ++ lebs [npn])) := by
    show _ = _
    rw [putD, if_pos HC0.out]
    simp [putP, subB, fromB, toB, newsB, lebs]
  have HP : Hid (PcRd w ⟨6, (npp : Int), (nps : Int), (npn : Int), pf, pt, pl, pi⟩ sa sn sc ia im ic) := hp
  clear hp
  unfold Pc.val
  simp only
  have HBx : Hid (Below w.heap.size w (w.alloc (.cells #[.int .i64 6, .int .i64 (npp : Int), .int .i64 (nps : Int), .int .i64 (npn : Int), .int .i64 pf, .int .i64 pt, .slice sa sn sc, .slice ia im ic] 37))) := below_new _ _
  have HKx : Hid (Bk (w.alloc (.cells #[.int .i64 6, .int .i64 (npp : Int), .int .i64 (nps : Int), .int .i64 (npn : Int), .int .i64 pf, .int .i64 pt, .slice sa sn sc, .slice ia im ic] 37)) w.heap.size #[.int .i64 6, .int .i64 (npp : Int), .int .i64 (nps : Int), .int .i64 (npn : Int), .int .i64 pf, .int .i64 pt, .slice sa sn sc, .slice ia im ic] 37) := Bk.new _ _ _
  have hcs := ref_Check ⟨6, (npp : Int), (nps : Int), (npn : Int), pf, pt, pl, pi⟩ sa sn sc ia im ic _ (HP.out.below HBx.out)
  rw [HC0.out] at hcs
  have HCS : Hid (Calls Tryd.prog 42 #[Pc.val ⟨6, (npp : Int), (nps : Int), (npn : Int), pf, pt, pl, pi⟩ sa sn sc ia im ic] (w.alloc (.cells #[.int .i64 6, .int .i64 (npp : Int), .int .i64 (nps : Int), .int .i64 (npn : Int), .int .i64 pf, .int .i64 pt, .slice sa sn sc, .slice ia im ic] 37)) fun e w' => e = .returned (.int .i64 0) ∧ Below (w.alloc (.cells #[.int .i64 6, .int .i64 (npp : Int), .int .i64 (nps : Int), .int .i64 (npn : Int), .int .i64 pf, .int .i64 pt, .slice sa sn sc, .slice ia im ic] 37)).heap.size (w.alloc (.cells #[.int .i64 6, .int .i64 (npp : Int), .int .i64 (nps : Int), .int .i64 (npn : Int), .int .i64 pf, .int .i64 pt, .slice sa sn sc, .slice ia im ic] 37)) w') := hcs
  clear hcs
  go_enter Tryd.func28, Tryd.ntmps28
  go_wp2_with fail
  refine HCS.out.mono ?_
  rintro e w1 ⟨rfl, hb1⟩
  have HB1 : Hid (Below w.heap.size w w1) := HBx.out.trans (hb1.mono HBx.out.size)
  have HK1 : Hid (Bk w1 w.heap.size #[.int .i64 6, .int .i64 (npp : Int), .int .i64 (nps : Int), .int .i64 (npn : Int), .int .i64 pf, .int .i64 pt, .slice sa sn sc, .slice ia im ic] 37) := HKx.out.stay hb1
  clear hb1 HKx HBx HCS
  have HLT : Hid (w.heap.size < w1.heap.size) := HK1.out.lt
  have HSK : Hid (∀ w', Below w1.heap.size w1 w' → w'.cell? ⟨w.heap.size, 0, none⟩ = some (.int .i64 6) ∧ w'.cell? ⟨w.heap.size, 1, none⟩ = some (.int .i64 (npp : Int))) := fun w' hb => ⟨(HK1.out.stay hb).cell 0 rfl, (HK1.out.stay hb).cell 1 rfl⟩
  have hwk : IntKind.u8.wrap 6 = 6 := by decide
  go_wp2
  have HBN : Hid (Below w1.heap.size w1 w1.drew) := (Below.refl _ _).drew
  go_region_held3 (fun w' => w'.cell? ⟨w.heap.size, 0, none⟩ = some (.int .i64 6) ∧ w'.cell? ⟨w.heap.size, 1, none⟩ = some (.int .i64 (npp : Int))) (first | with_reducible exact HSK.out _ HBN.out | with_reducible exact HSK.out _ (Below.refl _ _) | with_reducible exact HSK.out _ (below_new _ _) | with_reducible exact HSK.out _ (below_new _ _).drew | with_reducible exact HSK.out _ (HBN.out.alloc HBN.out.size _) | with_reducible exact HSK.out _ (HBN.out.alloc HBN.out.size _).drew | exact HSK.out _ HBN.out | exact HSK.out _ (Below.refl _ _) | fail)
    (first
      | (go_at_call 43; refine (ref_num npp (by omega) _).mono ?_; rintro e w3 ⟨a3, m3, c3, he3, hm3, ho3, hb3⟩; subst he3; first
        | (have ht : Below w1.drew.heap.size w1.drew w3 := (by with_reducible exact hb3); clear ht; have HO3 : Hid (Own w3 w1.heap.size a3 m3 c3 (lebs [npp])) := ho3; have HBM : Hid (Below w1.heap.size w1 w3) := HBN.out.trans hb3; clear HBN; have HBN := HBM; clear hb3 ho3)
        | (have hb3' : Below (w1.alloc (.cells #[.int .u8 6] 5)).drew.heap.size (w1.alloc (.cells #[.int .u8 6] 5)).drew w3 := (by with_reducible exact hb3); have hX : Own (w1.alloc (.cells #[.int .u8 6] 5)).drew w1.heap.size (some ⟨w1.heap.size, 0, none⟩) 1 1 [6] := (Own.new w1 w1.heap.size #[.int .u8 6] [6] (by simp) rfl (Nat.le_refl _) (by unfold maxLen; simp)).drew; have HOK : Hid (Own w3 w1.heap.size (some ⟨w1.heap.size, 0, none⟩) 1 1 [6]) := hX.below hb3'; have HO3 : Hid (Own w3 w1.heap.size a3 m3 c3 (lebs [npp])) := ho3.under (by show _ ≤ (w1.alloc (.cells #[.int .u8 6] 5)).heap.size; simp); have HBM : Hid (Below w1.heap.size w1 w3) := ((below_new w1 _).drew).trans (hb3'.mono (by show _ ≤ (w1.alloc (.cells #[.int .u8 6] 5)).heap.size; simp)); clear HBN; have HBN := HBM; clear hb3 hb3' ho3 hX))
      | (have hz := HOK; clear hz; refine step_append_rd (by rfl) (.tmp 17) (.tmp 20) (by rfl) w1.heap.size (some ⟨w1.heap.size, 0, none⟩) 1 1 [6] (by rfl) (by first | with_reducible exact HOK.out | with_reducible exact HOK.out.drew) a3 m3 c3 (lebs [npp]) (by rfl) (by first | with_reducible exact HO3.out.rd | with_reducible exact HO3.out.rd.drew) HO3.out.nil_cap' (by omega) HBM.out.size (1 + m3) rfl ([6] ++ lebs [npp]) rfl ?_; intro a4 c4 w4 ho4 hg4 hb4; have HO4 : Hid (Own w4 w1.heap.size a4 (1 + m3) c4 ([6] ++ lebs [npp])) := ho4; have HBL : Hid (Below w1.heap.size w1 w4) := HBM.out.trans hb4; clear HBN; have HBN := HBL; clear ho4 hg4 hb4)
      | (have hz := HO3; clear hz; refine step_append_rd (by rfl) (.tmp 17) (.tmp 20) (by rfl) w1.heap.size (some ⟨w3.heap.size, 0, none⟩) 1 1 [6] (by rfl) (by first | with_reducible exact Own.new w3 w1.heap.size #[.int .u8 6] [6] (by simp) rfl HBM.out.size (by unfold maxLen; simp) | exact Own.new w3 w1.heap.size #[.int .u8 6] [6] (by simp) rfl HBM.out.size (by unfold maxLen; simp)) a3 m3 c3 (lebs [npp]) (by rfl) (by first | with_reducible exact HO3.out.rd.below (below_new _ _) | exact (HO3.out.rd.below (below_new _ _)).drew) HO3.out.nil_cap' (by omega) (Nat.le_trans HBM.out.size (by simp)) (1 + m3) rfl ([6] ++ lebs [npp]) rfl ?_; intro a4 c4 w4 ho4 hg4 hb4; have HO4 : Hid (Own w4 w1.heap.size a4 (1 + m3) c4 ([6] ++ lebs [npp])) := ho4; have HBL : Hid (Below w1.heap.size w1 w4) := (HBM.out.trans ((below_new w3 _).mono HBM.out.size)).trans hb4; clear HBN; have HBN := HBL; clear ho4 hg4 hb4))
  all_goals (
    obtain ⟨l4, hl4⟩ : ∃ l, l = 1 + m3 := ⟨_, rfl⟩
    have h4l : l4 ≤ 11 := by omega
    rw [← hl4] at HO4 ⊢
    have HB4 : Hid (Below w.heap.size w w4) := HB1.out.trans (HBL.out.mono HB1.out.size)
    have HK4 : Hid (Bk w4 w.heap.size #[.int .i64 6, .int .i64 (npp : Int), .int .i64 (nps : Int), .int .i64 (npn : Int), .int .i64 pf, .int .i64 pt, .slice sa sn sc, .slice ia im ic] 37) := HK1.out.stay HBL.out
    have HS4 : Hid (w1.heap.size ≤ w4.heap.size) := HBL.out.size
    clear hl4 HBN HBM HBL HO3
    have HNM : Hid (subB 6 = true) := rfl
    have HFM : Hid (fromB 6 = false) := rfl
    have HRM : Hid (toB 6 = false) := rfl
    have e4 : w4.cell? ⟨w.heap.size, 0, none⟩ = some (.int .i64 6) := HK4.out.cell 0 rfl
    go_wp2_with fail
    refine (ref_named 6 _).mono ?_
    rw [HNM.out]
    rintro e w' ⟨rfl, hw'⟩
    rw [hw']
    clear hw' w'
    clear e4
    have d2 : w4.cell? ⟨w.heap.size, 2, none⟩ = some (.int .i64 (nps : Int)) := HK4.out.cell 2 rfl
    go_wp2_with fail
    refine (ref_num nps (by omega) _).mono ?_
    rintro e v4 ⟨ax, mx, cx, he, hmx, hox, hbx⟩
    subst he
    have HOX : Hid (Own v4 w4.heap.size ax mx cx (lebs [nps])) := hox
    have HKX : Hid (Bk v4 w.heap.size #[.int .i64 6, .int .i64 (npp : Int), .int .i64 (nps : Int), .int .i64 (npn : Int), .int .i64 pf, .int .i64 pt, .slice sa sn sc, .slice ia im ic] 37) := HK4.out.stay hbx
    have HOY : Hid (Own v4 w1.heap.size a4 l4 c4 ([6] ++ lebs [npp])) := HO4.out.below hbx
    have HBX : Hid (Below w.heap.size w v4) := HB4.out.trans (hbx.mono HB4.out.size)
    have HSX : Hid (w1.heap.size ≤ v4.heap.size) := Nat.le_trans HS4.out hbx.size
    clear hox hbx d2
    go_wp2_with (at_builtin; refine wpList_append_rd rfl (.tmp 25) (.tmp 28) rfl w1.heap.size a4 l4 c4 ([6] ++ lebs [npp]) rfl HOY.out ax mx cx (lebs [nps]) rfl HOX.out.rd HOX.out.nil_cap' (by omega) HSX.out ?_)
    intro a5 c5 w5 ho hg hb
    obtain ⟨l5, hl5⟩ : ∃ l, l = l4 + mx := ⟨_, rfl⟩
    have h5l : l5 ≤ 21 := by omega
    rw [← hl5] at ho ⊢
    have HO5 : Hid (Own w5 w1.heap.size a5 l5 c5 ([6] ++ lebs [npp] ++ lebs [nps])) := by show Own _ _ _ _ _ _; simpa only [List.append_assoc, List.cons_append, List.nil_append] using ho
    have HK5 : Hid (Bk w5 w.heap.size #[.int .i64 6, .int .i64 (npp : Int), .int .i64 (nps : Int), .int .i64 (npn : Int), .int .i64 pf, .int .i64 pt, .slice sa sn sc, .slice ia im ic] 37) := HKX.out.kept (Kb.grown HOY.out hb hg) (by decide)
    have HB5 : Hid (Below w.heap.size w w5) := HBX.out.trans (hb.mono (Nat.le_of_lt HLT.out))
    have HS5 : Hid (w1.heap.size ≤ w5.heap.size) := Nat.le_trans HSX.out hb.size
    clear ho hg hb hl5 hmx HOX HOY HKX HBX HSX HO4 HK4 HB4 HS4
    have d3 : w5.cell? ⟨w.heap.size, 3, none⟩ = some (.int .i64 (npn : Int)) := HK5.out.cell 3 rfl
    go_wp2_with fail
    refine (ref_num npn (by omega) _).mono ?_
    rintro e v5 ⟨ax, mx, cx, he, hmx, hox, hbx⟩
    subst he
    have HOX : Hid (Own v5 w5.heap.size ax mx cx (lebs [npn])) := hox
    have HKX : Hid (Bk v5 w.heap.size #[.int .i64 6, .int .i64 (npp : Int), .int .i64 (nps : Int), .int .i64 (npn : Int), .int .i64 pf, .int .i64 pt, .slice sa sn sc, .slice ia im ic] 37) := HK5.out.stay hbx
    have HOY : Hid (Own v5 w1.heap.size a5 l5 c5 ([6] ++ lebs [npp] ++ lebs [nps])) := HO5.out.below hbx
    have HBX : Hid (Below w.heap.size w v5) := HB5.out.trans (hbx.mono HB5.out.size)
    have HSX : Hid (w1.heap.size ≤ v5.heap.size) := Nat.le_trans HS5.out hbx.size
    clear hox hbx d3
    go_wp2_with (at_builtin; refine wpList_append_rd rfl (.tmp 30) (.tmp 33) rfl w1.heap.size a5 l5 c5 ([6] ++ lebs [npp] ++ lebs [nps]) rfl HOY.out ax mx cx (lebs [npn]) rfl HOX.out.rd HOX.out.nil_cap' (by omega) HSX.out ?_)
    intro a6 c6 w6 ho hg hb
    obtain ⟨l6, hl6⟩ : ∃ l, l = l5 + mx := ⟨_, rfl⟩
    have h6l : l6 ≤ 31 := by omega
    rw [← hl6] at ho ⊢
    have HO6 : Hid (Own w6 w1.heap.size a6 l6 c6 ([6] ++ lebs [npp] ++ lebs [nps] ++ lebs [npn])) := by show Own _ _ _ _ _ _; simpa only [List.append_assoc, List.cons_append, List.nil_append] using ho
    have HK6 : Hid (Bk w6 w.heap.size #[.int .i64 6, .int .i64 (npp : Int), .int .i64 (nps : Int), .int .i64 (npn : Int), .int .i64 pf, .int .i64 pt, .slice sa sn sc, .slice ia im ic] 37) := HKX.out.kept (Kb.grown HOY.out hb hg) (by decide)
    have HB6 : Hid (Below w.heap.size w w6) := HBX.out.trans (hb.mono (Nat.le_of_lt HLT.out))
    have HS6 : Hid (w1.heap.size ≤ w6.heap.size) := Nat.le_trans HSX.out hb.size
    clear ho hg hb hl6 hmx HOX HOY HKX HBX HSX HO5 HK5 HB5 HS5
    have e6 : w6.cell? ⟨w.heap.size, 0, none⟩ = some (.int .i64 6) := HK6.out.cell 0 rfl
    go_wp2_with fail
    refine (ref_from 6 _).mono ?_
    rw [HFM.out]
    rintro e w' ⟨rfl, hw'⟩
    rw [hw']
    clear hw' w'
    clear e6
    have e6 : w6.cell? ⟨w.heap.size, 0, none⟩ = some (.int .i64 6) := HK6.out.cell 0 rfl
    go_wp2_with fail
    refine (ref_ranged 6 _).mono ?_
    rw [HRM.out]
    rintro e w' ⟨rfl, hw'⟩
    rw [hw']
    clear hw' w'
    clear e6
    have e6 : w6.cell? ⟨w.heap.size, 0, none⟩ = some (.int .i64 6) := HK6.out.cell 0 rfl
    go_wp2
    go_returns
    refine ⟨⟨a6, l6, c6, by rw [HC0.out]; rfl, ?_⟩, HB6.out⟩
    rw [HPD.out]
    have h := HO6.out.under (show w.heap.size ≤ w1.heap.size by have := HLT.out; omega)
    simpa [List.append_assoc] using h)

end Go.Proofs.YtbloomepdchjhaaDoor
