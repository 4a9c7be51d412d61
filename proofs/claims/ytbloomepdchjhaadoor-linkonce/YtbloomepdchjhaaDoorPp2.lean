/- parcel.Put: with an error; of every kind but Tell. -/
import Derived.Test.YtbloomepdchjhaaDoorPcP
import Derived.Test.YtbloomepdchjhaaDoorLebP
namespace Go.Proofs.YtbloomepdchjhaaDoor
open Go.RowKit

/-- An item's bytes. -/
def putI (q : It) : List Nat := lebs [q.tick.toNat, q.for_.toNat, q.body.length] ++ q.body
def putIs (l : List It) : List Nat := l.flatMap putI
/-- A parcel's bytes. -/
def putP (p : Pc) : List Nat :=
  [p.kind.toNat] ++ (lebs [p.pub.toNat] ++ ((if subB p.kind = true then lebs [p.sub.toNat, p.n_.toNat] else []) ++ ((if fromB p.kind = true then lebs [p.fr.toNat] else []) ++ ((if toB p.kind = true then lebs [p.to_.toNat] else []) ++
    (if newsB p.kind = true then putT p.spans ++ (lebs [p.items.length] ++ putIs p.items) else [])))))
def putD (p : Pc) : List Nat := if chk p = 0 then putP p else []
theorem chk_zero {p : Pc} (h : chk p = 0) : isB p.kind = true ∧ numB p (subB p.kind) (fromB p.kind) (toB p.kind) = true ∧ (newsB p.kind = true → ¬ (32 < p.spans.length ∨ 8 < p.items.length) ∧ spB p = true ∧ itE p p.fr p.items = 0) := by
  cases h1 : isB p.kind with
  | false => rw [chk_type h1] at h; cases h
  | true =>
    cases h2 : numB p (subB p.kind) (fromB p.kind) (toB p.kind) with
    | false => rw [chk_arg h1 h2] at h; cases h
    | true =>
      refine ⟨rfl, rfl, fun h3 => ?_⟩
      by_cases h4 : 32 < p.spans.length ∨ 8 < p.items.length
      · rw [chk_many h1 h2 h3 h4] at h; cases h
      · cases h5 : spB p with
        | false => rw [chk_form h1 h2 h3 h4 h5] at h; cases h
        | true =>
          rw [chk_items h1 h2 h3 h4 h5] at h
          exact ⟨h4, rfl, h⟩
/-- What Put tells. -/
def PutTold (w : World) (B : Nat) (p : Pc) (e : Ending) : Prop := ∃ b m c, e = .returned (.tuple #[.slice b m c, .int .i64 (chk p)]) ∧ Own w B b m c (putD p)

set_option maxRecDepth 100000 in
set_option maxHeartbeats 4000000 in
theorem pc_Put_err (p : Pc) (sa : Option Addr) (sn sc : Nat) (ia : Option Addr) (im ic : Nat) (w : World) (hp : PcRd w p sa sn sc ia im ic) (hc : chk p ≠ 0) : Calls Tryd.prog 16 #[p.val sa sn sc ia im ic] w fun e w' => PutTold w' w.heap.size p e ∧ Below w.heap.size w w' := by
  have HP : Hid (PcRd w p sa sn sc ia im ic) := hp
  have HD : Hid (putD p = []) := if_neg hc
  obtain ⟨b, hb⟩ : ∃ b, b = chk p := ⟨_, rfl⟩
  have HB0 : Hid (b = chk p) := hb
  rw [← hb] at hc
  have hc' : (b == 0) = false := by simpa using hc
  obtain ⟨p0, HP0⟩ : ∃ p0, Hid (p0 = p) := ⟨_, rfl⟩
  have HV : Hid (p0.val sa sn sc ia im ic = p.val sa sn sc ia im ic) := by show _ = _; rw [HP0.out]
  rw [← HP0.out] at HP HD HB0 ⊢
  clear hp hb
  rw [HV.out]
  obtain ⟨pk, pp, ps, pn, pf, pt, pl, pi⟩ := p
  unfold Pc.val
  simp only
  have HBx : Hid (Below w.heap.size w (w.alloc (.cells #[.int .i64 pk, .int .i64 pp, .int .i64 ps, .int .i64 pn, .int .i64 pf, .int .i64 pt, .slice sa sn sc, .slice ia im ic] 37))) := below_new _ _
  have hcs := pc_Check p0 sa sn sc ia im ic _ (HP.out.below HBx.out)
  rw [HV.out, ← HB0.out] at hcs
  have HCS : Hid (Calls Tryd.prog 29 #[Pc.val ⟨pk, pp, ps, pn, pf, pt, pl, pi⟩ sa sn sc ia im ic] (w.alloc (.cells #[.int .i64 pk, .int .i64 pp, .int .i64 ps, .int .i64 pn, .int .i64 pf, .int .i64 pt, .slice sa sn sc, .slice ia im ic] 37)) fun e w' => e = .returned (.int .i64 b) ∧ Below (w.alloc (.cells #[.int .i64 pk, .int .i64 pp, .int .i64 ps, .int .i64 pn, .int .i64 pf, .int .i64 pt, .slice sa sn sc, .slice ia im ic] 37)).heap.size (w.alloc (.cells #[.int .i64 pk, .int .i64 pp, .int .i64 ps, .int .i64 pn, .int .i64 pf, .int .i64 pt, .slice sa sn sc, .slice ia im ic] 37)) w') := hcs
  clear hcs
  go_enter Tryd.func16, Tryd.ntmps16
  go_wp2_with fail
  refine HCS.out.mono ?_
  rintro e w1 ⟨rfl, hb1⟩
  have HB1 : Hid (Below w.heap.size w w1) := HBx.out.trans (hb1.mono HBx.out.size)
  clear HCS hb1
  go_wp2
  go_returns
  refine ⟨⟨none, 0, 0, by rw [← HB0.out]; rfl, ?_⟩, HB1.out⟩
  rw [HD.out]
  exact Own.none_ _ _

set_option maxRecDepth 100000 in
set_option maxHeartbeats 4000000 in
theorem pc_Put_2 (pp ps pn pf pt : Int) (pl : List Sp) (pi : List It) (sa : Option Addr) (sn sc : Nat) (ia : Option Addr) (im ic : Nat) (w : World) (hp : PcRd w ⟨2, pp, ps, pn, pf, pt, pl, pi⟩ sa sn sc ia im ic) (hc : chk ⟨2, pp, ps, pn, pf, pt, pl, pi⟩ = 0) : Calls Tryd.prog 16 #[Pc.val ⟨2, pp, ps, pn, pf, pt, pl, pi⟩ sa sn sc ia im ic] w fun e w' => PutTold w' w.heap.size ⟨2, pp, ps, pn, pf, pt, pl, pi⟩ e ∧ Below w.heap.size w w' := by
  have HC0 : Hid (chk ⟨2, pp, ps, pn, pf, pt, pl, pi⟩ = 0) := hc
  obtain ⟨_, hnum, hnews⟩ := chk_zero hc
  have HNW : Hid (newsB 2 = true → ¬ (32 < pl.length ∨ 8 < pi.length) ∧ spB ⟨2, pp, ps, pn, pf, pt, pl, pi⟩ = true ∧ itE ⟨2, pp, ps, pn, pf, pt, pl, pi⟩ pf pi = 0) := hnews
  have hx_pub : 0 ≤ pp ∧ pp < 3 := by
    simp only [numB, pubB, namB, rngB, froB, subB, fromB, toB] at hnum
    simp at hnum
    omega
  obtain ⟨npp, hn_pub⟩ := Int.eq_ofNat_of_zero_le hx_pub.1
  have hl_pub : npp < 3 := by omega
  have hx_fr : 0 ≤ pf ∧ pf < 1099511627777 := by
    simp only [numB, pubB, namB, rngB, froB, subB, fromB, toB] at hnum
    simp at hnum
    omega
  obtain ⟨npf, hn_fr⟩ := Int.eq_ofNat_of_zero_le hx_fr.1
  have hl_fr : npf < 1099511627777 := by omega
  have hx_to_ : 0 ≤ pt ∧ pt < 1099511627777 := by
    simp only [numB, pubB, namB, rngB, froB, subB, fromB, toB] at hnum
    simp at hnum
    omega
  obtain ⟨npt, hn_to_⟩ := Int.eq_ofNat_of_zero_le hx_to_.1
  have hl_to_ : npt < 1099511627777 := by omega
  clear hx_pub hx_fr hx_to_ hnum hnews hc
  subst hn_pub hn_fr hn_to_
  have HPD : Hid (putD ⟨2, (npp : Int), ps, pn, (npf : Int), (npt : Int), pl, pi⟩ = [2] ++ (lebs [npp] ++ lebs [npf] ++ lebs [npt])) := by
    show _ = _
    rw [putD, if_pos HC0.out]
    simp [putP, subB, fromB, toB, newsB]
  have HP : Hid (PcRd w ⟨2, (npp : Int), ps, pn, (npf : Int), (npt : Int), pl, pi⟩ sa sn sc ia im ic) := hp
  clear hp
  unfold Pc.val
  simp only
  have HBx : Hid (Below w.heap.size w (w.alloc (.cells #[.int .i64 2, .int .i64 (npp : Int), .int .i64 ps, .int .i64 pn, .int .i64 (npf : Int), .int .i64 (npt : Int), .slice sa sn sc, .slice ia im ic] 37))) := below_new _ _
  have HKx : Hid (Bk (w.alloc (.cells #[.int .i64 2, .int .i64 (npp : Int), .int .i64 ps, .int .i64 pn, .int .i64 (npf : Int), .int .i64 (npt : Int), .slice sa sn sc, .slice ia im ic] 37)) w.heap.size #[.int .i64 2, .int .i64 (npp : Int), .int .i64 ps, .int .i64 pn, .int .i64 (npf : Int), .int .i64 (npt : Int), .slice sa sn sc, .slice ia im ic] 37) := Bk.new _ _ _
  have hcs := pc_Check ⟨2, (npp : Int), ps, pn, (npf : Int), (npt : Int), pl, pi⟩ sa sn sc ia im ic _ (HP.out.below HBx.out)
  rw [HC0.out] at hcs
  have HCS : Hid (Calls Tryd.prog 29 #[Pc.val ⟨2, (npp : Int), ps, pn, (npf : Int), (npt : Int), pl, pi⟩ sa sn sc ia im ic] (w.alloc (.cells #[.int .i64 2, .int .i64 (npp : Int), .int .i64 ps, .int .i64 pn, .int .i64 (npf : Int), .int .i64 (npt : Int), .slice sa sn sc, .slice ia im ic] 37)) fun e w' => e = .returned (.int .i64 0) ∧ Below (w.alloc (.cells #[.int .i64 2, .int .i64 (npp : Int), .int .i64 ps, .int .i64 pn, .int .i64 (npf : Int), .int .i64 (npt : Int), .slice sa sn sc, .slice ia im ic] 37)).heap.size (w.alloc (.cells #[.int .i64 2, .int .i64 (npp : Int), .int .i64 ps, .int .i64 pn, .int .i64 (npf : Int), .int .i64 (npt : Int), .slice sa sn sc, .slice ia im ic] 37)) w') := hcs
  clear hcs
  go_enter Tryd.func16, Tryd.ntmps16
  go_wp2_with fail
  refine HCS.out.mono ?_
  rintro e w1 ⟨rfl, hb1⟩
  have HB1 : Hid (Below w.heap.size w w1) := HBx.out.trans (hb1.mono HBx.out.size)
  have HK1 : Hid (Bk w1 w.heap.size #[.int .i64 2, .int .i64 (npp : Int), .int .i64 ps, .int .i64 pn, .int .i64 (npf : Int), .int .i64 (npt : Int), .slice sa sn sc, .slice ia im ic] 37) := HKx.out.stay hb1
  clear hb1 HKx HBx HCS
  have a0 : w1.cell? ⟨w.heap.size, 0, none⟩ = some (.int .i64 2) := HK1.out.cell 0 rfl
  go_wp2_with fail
  refine (pc_usedBy 2 _).mono ?_
  rw [show subB 2 = false from rfl, show fromB 2 = true from rfl, show toB 2 = true from rfl, show newsB 2 = false from rfl, show isB 2 = true from rfl]
  rintro e w2 ⟨rfl, hb2⟩
  have HB2 : Hid (Below w.heap.size w w2) := HB1.out.trans (hb2.mono HB1.out.size)
  have HK2 : Hid (Bk w2 w.heap.size #[.int .i64 2, .int .i64 (npp : Int), .int .i64 ps, .int .i64 pn, .int .i64 (npf : Int), .int .i64 (npt : Int), .slice sa sn sc, .slice ia im ic] 37) := HK1.out.stay hb2
  clear hb2 a0 HK1
  have HBX : Below w2.heap.size w2 (w2.alloc (.cells #[.bool false, .bool true, .bool true, .bool false] 86)) := below_new _ _
  have HBX1 : Below w2.heap.size w2 ((w2.alloc (.cells #[.bool false, .bool true, .bool true, .bool false] 86)).alloc (.cells #[.int .u8 2] 5)) := HBX.alloc (by simp) _
  have HBX2 : Below w2.heap.size w2 (((w2.alloc (.cells #[.bool false, .bool true, .bool true, .bool false] 86)).alloc (.cells #[.int .u8 2] 5)).alloc (.cells #[.int .i64 (npp : Int)] 3)) := HBX1.alloc (by simp; omega) _
  have d0 : (w2.alloc (.cells #[.bool false, .bool true, .bool true, .bool false] 86)).cell? ⟨w.heap.size, 0, none⟩ = some (.int .i64 2) := (HK2.out.stay HBX).cell 0 rfl
  have d1 : ((w2.alloc (.cells #[.bool false, .bool true, .bool true, .bool false] 86)).alloc (.cells #[.int .u8 2] 5)).cell? ⟨w.heap.size, 1, none⟩ = some (.int .i64 (npp : Int)) := (HK2.out.stay HBX1).cell 1 rfl
  have HLT : Hid (w.heap.size < w2.heap.size) := HK2.out.lt
  have HK3 : Hid (Bk (((w2.alloc (.cells #[.bool false, .bool true, .bool true, .bool false] 86)).alloc (.cells #[.int .u8 2] 5)).alloc (.cells #[.int .i64 (npp : Int)] 3)) w.heap.size #[.int .i64 2, .int .i64 (npp : Int), .int .i64 ps, .int .i64 pn, .int .i64 (npf : Int), .int .i64 (npt : Int), .slice sa sn sc, .slice ia im ic] 37) := HK2.out.stay HBX2
  have HU3 : Hid (Bk (((w2.alloc (.cells #[.bool false, .bool true, .bool true, .bool false] 86)).alloc (.cells #[.int .u8 2] 5)).alloc (.cells #[.int .i64 (npp : Int)] 3)) w2.heap.size #[.bool false, .bool true, .bool true, .bool false] 86) := (Bk.new w2 #[.bool false, .bool true, .bool true, .bool false] 86).stay ((below_new (w2.alloc (.cells #[.bool false, .bool true, .bool true, .bool false] 86)) _).trans ((below_new ((w2.alloc (.cells #[.bool false, .bool true, .bool true, .bool false] 86)).alloc (.cells #[.int .u8 2] 5)) _).mono (by simp)))
  have HO3 : Hid (Own (((w2.alloc (.cells #[.bool false, .bool true, .bool true, .bool false] 86)).alloc (.cells #[.int .u8 2] 5)).alloc (.cells #[.int .i64 (npp : Int)] 3)) (w2.heap.size + 1) (some ⟨w2.heap.size + 1, 0, none⟩) 1 1 [2]) := by
    have h := Own.new (w2.alloc (.cells #[.bool false, .bool true, .bool true, .bool false] 86)) (w2.heap.size + 1) #[.int .u8 2] [2] (by simp) rfl (by simp) (by unfold maxLen; simp)
    have h2 := h.below (below_new ((w2.alloc (.cells #[.bool false, .bool true, .bool true, .bool false] 86)).alloc (.cells #[.int .u8 2] 5)) (.cells #[.int .i64 (npp : Int)] 3))
    show Own _ _ _ _ _ _
    simpa using h2
  have HG3 : Hid (Bk (((w2.alloc (.cells #[.bool false, .bool true, .bool true, .bool false] 86)).alloc (.cells #[.int .u8 2] 5)).alloc (.cells #[.int .i64 (npp : Int)] 3)) (w2.heap.size + 2) (nvs [npp]) 3) := by
    have h := Bk.new ((w2.alloc (.cells #[.bool false, .bool true, .bool true, .bool false] 86)).alloc (.cells #[.int .u8 2] 5)) (nvs [npp]) 3
    rw [show ((w2.alloc (.cells #[.bool false, .bool true, .bool true, .bool false] 86)).alloc (.cells #[.int .u8 2] 5)).heap.size = w2.heap.size + 2 from by simp] at h
    exact h
  have HB3 : Hid (Below w.heap.size w (((w2.alloc (.cells #[.bool false, .bool true, .bool true, .bool false] 86)).alloc (.cells #[.int .u8 2] 5)).alloc (.cells #[.int .i64 (npp : Int)] 3))) := HB2.out.trans (HBX2.mono HB2.out.size)
  clear HBX HBX1 HBX2 HK2
  go_wp2_with fail
  refine (pc_putNumbers (w2.heap.size + 1) (some ⟨w2.heap.size + 1, 0, none⟩) 1 1 [2] (w2.heap.size + 2) [npp] _ HO3.out (by simp) (by omega) HG3.out (by simp; omega) (by simp)).mono ?_
  rintro e w4 ⟨⟨a4, c4, rfl, ho4⟩, hk4⟩
  obtain ⟨l4, hl4⟩ : ∃ l, l = 1 + (lebs [npp]).length := ⟨_, rfl⟩
  have h4l : l4 ≤ 1 + 10 := by have := lebs_len [npp]; simp at this; omega
  have ho4' := ho4.out
  rw [← hl4] at ho4' ⊢
  have HO4 : Hid (Own w4 (w2.heap.size + 1) a4 l4 c4 ([2] ++ lebs [npp])) := ho4'
  have HK4 : Hid (Bk w4 w.heap.size #[.int .i64 2, .int .i64 (npp : Int), .int .i64 ps, .int .i64 pn, .int .i64 (npf : Int), .int .i64 (npt : Int), .slice sa sn sc, .slice ia im ic] 37) := HK3.out.kept hk4 (by decide)
  have HU4 : Hid (Bk w4 w2.heap.size #[.bool false, .bool true, .bool true, .bool false] 86) := HU3.out.kept hk4 (by decide)
  have HB4 : Hid (Below w.heap.size w w4) := HB3.out.trans (hk4.below.mono (by have := HLT.out; omega))
  have HS4 : Hid (w2.heap.size + 1 ≤ w4.heap.size) := Nat.le_trans (by simp) hk4.below.size
  clear hl4 ho4 ho4' hk4 d0 d1 HK3 HU3 HO3 HG3 HB3
  have u4_0 : w4.cell? ⟨w2.heap.size, 0, none⟩ = some (.bool false) := HU4.out.cell 0 rfl
  have u4_1 : w4.cell? ⟨w2.heap.size, 1, none⟩ = some (.bool true) := HU4.out.cell 1 rfl
  have d4 : w4.cell? ⟨w.heap.size, 4, none⟩ = some (.int .i64 (npf : Int)) := HK4.out.cell 4 rfl
  have HO5x : Hid (Own (w4.alloc (.cells #[.int .i64 (npf : Int)] 3)) (w2.heap.size + 1) a4 l4 c4 ([2] ++ lebs [npp])) := HO4.out.below (below_new _ _)
  have HG5x : Hid (Bk (w4.alloc (.cells #[.int .i64 (npf : Int)] 3)) w4.heap.size (nvs [npf]) 3) := Bk.new _ _ _
  go_wp2_with fail
  refine (pc_putNumbers (w2.heap.size + 1) a4 l4 c4 ([2] ++ lebs [npp]) w4.heap.size [npf] _ HO5x.out (by have := HS4.out; simp; omega) (by omega) HG5x.out (by simp; omega) (by simp)).mono ?_
  rintro e w5 ⟨⟨a5, c5, rfl, ho5⟩, hk5⟩
  obtain ⟨l5, hl5⟩ : ∃ l, l = l4 + (lebs [npf]).length := ⟨_, rfl⟩
  have h5l : l5 ≤ 21 := by have := lebs_len [npf]; simp at this; omega
  have ho5' := ho5.out
  rw [← hl5] at ho5' ⊢
  have HO5 : Hid (Own w5 (w2.heap.size + 1) a5 l5 c5 ([2] ++ lebs [npp] ++ lebs [npf])) := ho5'
  have HKb5 : Kb (w2.heap.size + 1) w4 w5 := (Kb.of (below_new _ _) HS4.out).trans hk5
  have HK5 : Hid (Bk w5 w.heap.size #[.int .i64 2, .int .i64 (npp : Int), .int .i64 ps, .int .i64 pn, .int .i64 (npf : Int), .int .i64 (npt : Int), .slice sa sn sc, .slice ia im ic] 37) := HK4.out.kept HKb5 (by decide)
  have HU5 : Hid (Bk w5 w2.heap.size #[.bool false, .bool true, .bool true, .bool false] 86) := HU4.out.kept HKb5 (by decide)
  have HB5 : Hid (Below w.heap.size w w5) := HB4.out.trans (HKb5.below.mono (by have := HLT.out; omega))
  have HS5 : Hid (w2.heap.size + 1 ≤ w5.heap.size) := Nat.le_trans HS4.out HKb5.below.size
  clear hl5 ho5 ho5' hk5 HKb5 HO5x HG5x HK4 HU4 HO4 u4_0 u4_1 d4
  have u5_2 : w5.cell? ⟨w2.heap.size, 2, none⟩ = some (.bool true) := HU5.out.cell 2 rfl
  have d5 : w5.cell? ⟨w.heap.size, 5, none⟩ = some (.int .i64 (npt : Int)) := HK5.out.cell 5 rfl
  have HO6x : Hid (Own (w5.alloc (.cells #[.int .i64 (npt : Int)] 3)) (w2.heap.size + 1) a5 l5 c5 ([2] ++ lebs [npp] ++ lebs [npf])) := HO5.out.below (below_new _ _)
  have HG6x : Hid (Bk (w5.alloc (.cells #[.int .i64 (npt : Int)] 3)) w5.heap.size (nvs [npt]) 3) := Bk.new _ _ _
  go_wp2_with fail
  refine (pc_putNumbers (w2.heap.size + 1) a5 l5 c5 ([2] ++ lebs [npp] ++ lebs [npf]) w5.heap.size [npt] _ HO6x.out (by have := HS5.out; simp; omega) (by omega) HG6x.out (by simp; omega) (by simp)).mono ?_
  rintro e w6 ⟨⟨a6, c6, rfl, ho6⟩, hk6⟩
  obtain ⟨l6, hl6⟩ : ∃ l, l = l5 + (lebs [npt]).length := ⟨_, rfl⟩
  have h6l : l6 ≤ 31 := by have := lebs_len [npt]; simp at this; omega
  have ho6' := ho6.out
  rw [← hl6] at ho6' ⊢
  have HO6 : Hid (Own w6 (w2.heap.size + 1) a6 l6 c6 ([2] ++ lebs [npp] ++ lebs [npf] ++ lebs [npt])) := ho6'
  have HKb6 : Kb (w2.heap.size + 1) w5 w6 := (Kb.of (below_new _ _) HS5.out).trans hk6
  have HK6 : Hid (Bk w6 w.heap.size #[.int .i64 2, .int .i64 (npp : Int), .int .i64 ps, .int .i64 pn, .int .i64 (npf : Int), .int .i64 (npt : Int), .slice sa sn sc, .slice ia im ic] 37) := HK5.out.kept HKb6 (by decide)
  have HU6 : Hid (Bk w6 w2.heap.size #[.bool false, .bool true, .bool true, .bool false] 86) := HU5.out.kept HKb6 (by decide)
  have HB6 : Hid (Below w.heap.size w w6) := HB5.out.trans (HKb6.below.mono (by have := HLT.out; omega))
  have HS6 : Hid (w2.heap.size + 1 ≤ w6.heap.size) := Nat.le_trans HS5.out HKb6.below.size
  clear hl6 ho6 ho6' hk6 HKb6 HO6x HG6x HK5 HU5 HO5 u5_2 d5
  have u6_3 : w6.cell? ⟨w2.heap.size, 3, none⟩ = some (.bool false) := HU6.out.cell 3 rfl
  go_wp2
  go_returns
  refine ⟨⟨a6, l6, c6, by rw [HC0.out]; rfl, ?_⟩, HB6.out⟩
  rw [HPD.out]
  have h := HO6.out.under (show w.heap.size ≤ w2.heap.size + 1 by have := HLT.out; omega)
  simpa [List.append_assoc] using h

set_option maxRecDepth 100000 in
set_option maxHeartbeats 4000000 in
theorem pc_Put_3 (pp ps pn pf pt : Int) (pl : List Sp) (pi : List It) (sa : Option Addr) (sn sc : Nat) (ia : Option Addr) (im ic : Nat) (w : World) (hp : PcRd w ⟨3, pp, ps, pn, pf, pt, pl, pi⟩ sa sn sc ia im ic) (hc : chk ⟨3, pp, ps, pn, pf, pt, pl, pi⟩ = 0) : Calls Tryd.prog 16 #[Pc.val ⟨3, pp, ps, pn, pf, pt, pl, pi⟩ sa sn sc ia im ic] w fun e w' => PutTold w' w.heap.size ⟨3, pp, ps, pn, pf, pt, pl, pi⟩ e ∧ Below w.heap.size w w' := by
  have HC0 : Hid (chk ⟨3, pp, ps, pn, pf, pt, pl, pi⟩ = 0) := hc
  obtain ⟨_, hnum, hnews⟩ := chk_zero hc
  have HNW : Hid (newsB 3 = true → ¬ (32 < pl.length ∨ 8 < pi.length) ∧ spB ⟨3, pp, ps, pn, pf, pt, pl, pi⟩ = true ∧ itE ⟨3, pp, ps, pn, pf, pt, pl, pi⟩ pf pi = 0) := hnews
  have hx_pub : 0 ≤ pp ∧ pp < 3 := by
    simp only [numB, pubB, namB, rngB, froB, subB, fromB, toB] at hnum
    simp at hnum
    omega
  obtain ⟨npp, hn_pub⟩ := Int.eq_ofNat_of_zero_le hx_pub.1
  have hl_pub : npp < 3 := by omega
  have hx_sub : 0 ≤ ps ∧ ps < 33 := by
    simp only [numB, pubB, namB, rngB, froB, subB, fromB, toB] at hnum
    simp at hnum
    omega
  obtain ⟨nps, hn_sub⟩ := Int.eq_ofNat_of_zero_le hx_sub.1
  have hl_sub : nps < 33 := by omega
  have hx_n_ : 0 ≤ pn ∧ pn < 1073741825 := by
    simp only [numB, pubB, namB, rngB, froB, subB, fromB, toB] at hnum
    simp at hnum
    omega
  obtain ⟨npn, hn_n_⟩ := Int.eq_ofNat_of_zero_le hx_n_.1
  have hl_n_ : npn < 1073741825 := by omega
  have hx_fr : 0 ≤ pf ∧ pf < 1099511627777 := by
    simp only [numB, pubB, namB, rngB, froB, subB, fromB, toB] at hnum
    simp at hnum
    omega
  obtain ⟨npf, hn_fr⟩ := Int.eq_ofNat_of_zero_le hx_fr.1
  have hl_fr : npf < 1099511627777 := by omega
  clear hx_pub hx_sub hx_n_ hx_fr hnum hnews hc
  subst hn_pub hn_sub hn_n_ hn_fr
  have HPD : Hid (putD ⟨3, (npp : Int), (nps : Int), (npn : Int), (npf : Int), pt, pl, pi⟩ = [3] ++ (lebs [npp] ++ lebs [nps, npn] ++ lebs [npf])) := by
    show _ = _
    rw [putD, if_pos HC0.out]
    simp [putP, subB, fromB, toB, newsB]
  have HP : Hid (PcRd w ⟨3, (npp : Int), (nps : Int), (npn : Int), (npf : Int), pt, pl, pi⟩ sa sn sc ia im ic) := hp
  clear hp
  unfold Pc.val
  simp only
  have HBx : Hid (Below w.heap.size w (w.alloc (.cells #[.int .i64 3, .int .i64 (npp : Int), .int .i64 (nps : Int), .int .i64 (npn : Int), .int .i64 (npf : Int), .int .i64 pt, .slice sa sn sc, .slice ia im ic] 37))) := below_new _ _
  have HKx : Hid (Bk (w.alloc (.cells #[.int .i64 3, .int .i64 (npp : Int), .int .i64 (nps : Int), .int .i64 (npn : Int), .int .i64 (npf : Int), .int .i64 pt, .slice sa sn sc, .slice ia im ic] 37)) w.heap.size #[.int .i64 3, .int .i64 (npp : Int), .int .i64 (nps : Int), .int .i64 (npn : Int), .int .i64 (npf : Int), .int .i64 pt, .slice sa sn sc, .slice ia im ic] 37) := Bk.new _ _ _
  have hcs := pc_Check ⟨3, (npp : Int), (nps : Int), (npn : Int), (npf : Int), pt, pl, pi⟩ sa sn sc ia im ic _ (HP.out.below HBx.out)
  rw [HC0.out] at hcs
  have HCS : Hid (Calls Tryd.prog 29 #[Pc.val ⟨3, (npp : Int), (nps : Int), (npn : Int), (npf : Int), pt, pl, pi⟩ sa sn sc ia im ic] (w.alloc (.cells #[.int .i64 3, .int .i64 (npp : Int), .int .i64 (nps : Int), .int .i64 (npn : Int), .int .i64 (npf : Int), .int .i64 pt, .slice sa sn sc, .slice ia im ic] 37)) fun e w' => e = .returned (.int .i64 0) ∧ Below (w.alloc (.cells #[.int .i64 3, .int .i64 (npp : Int), .int .i64 (nps : Int), .int .i64 (npn : Int), .int .i64 (npf : Int), .int .i64 pt, .slice sa sn sc, .slice ia im ic] 37)).heap.size (w.alloc (.cells #[.int .i64 3, .int .i64 (npp : Int), .int .i64 (nps : Int), .int .i64 (npn : Int), .int .i64 (npf : Int), .int .i64 pt, .slice sa sn sc, .slice ia im ic] 37)) w') := hcs
  clear hcs
  go_enter Tryd.func16, Tryd.ntmps16
  go_wp2_with fail
  refine HCS.out.mono ?_
  rintro e w1 ⟨rfl, hb1⟩
  have HB1 : Hid (Below w.heap.size w w1) := HBx.out.trans (hb1.mono HBx.out.size)
  have HK1 : Hid (Bk w1 w.heap.size #[.int .i64 3, .int .i64 (npp : Int), .int .i64 (nps : Int), .int .i64 (npn : Int), .int .i64 (npf : Int), .int .i64 pt, .slice sa sn sc, .slice ia im ic] 37) := HKx.out.stay hb1
  clear hb1 HKx HBx HCS
  have a0 : w1.cell? ⟨w.heap.size, 0, none⟩ = some (.int .i64 3) := HK1.out.cell 0 rfl
  go_wp2_with fail
  refine (pc_usedBy 3 _).mono ?_
  rw [show subB 3 = true from rfl, show fromB 3 = true from rfl, show toB 3 = false from rfl, show newsB 3 = false from rfl, show isB 3 = true from rfl]
  rintro e w2 ⟨rfl, hb2⟩
  have HB2 : Hid (Below w.heap.size w w2) := HB1.out.trans (hb2.mono HB1.out.size)
  have HK2 : Hid (Bk w2 w.heap.size #[.int .i64 3, .int .i64 (npp : Int), .int .i64 (nps : Int), .int .i64 (npn : Int), .int .i64 (npf : Int), .int .i64 pt, .slice sa sn sc, .slice ia im ic] 37) := HK1.out.stay hb2
  clear hb2 a0 HK1
  have HBX : Below w2.heap.size w2 (w2.alloc (.cells #[.bool true, .bool true, .bool false, .bool false] 86)) := below_new _ _
  have HBX1 : Below w2.heap.size w2 ((w2.alloc (.cells #[.bool true, .bool true, .bool false, .bool false] 86)).alloc (.cells #[.int .u8 3] 5)) := HBX.alloc (by simp) _
  have HBX2 : Below w2.heap.size w2 (((w2.alloc (.cells #[.bool true, .bool true, .bool false, .bool false] 86)).alloc (.cells #[.int .u8 3] 5)).alloc (.cells #[.int .i64 (npp : Int)] 3)) := HBX1.alloc (by simp; omega) _
  have d0 : (w2.alloc (.cells #[.bool true, .bool true, .bool false, .bool false] 86)).cell? ⟨w.heap.size, 0, none⟩ = some (.int .i64 3) := (HK2.out.stay HBX).cell 0 rfl
  have d1 : ((w2.alloc (.cells #[.bool true, .bool true, .bool false, .bool false] 86)).alloc (.cells #[.int .u8 3] 5)).cell? ⟨w.heap.size, 1, none⟩ = some (.int .i64 (npp : Int)) := (HK2.out.stay HBX1).cell 1 rfl
  have HLT : Hid (w.heap.size < w2.heap.size) := HK2.out.lt
  have HK3 : Hid (Bk (((w2.alloc (.cells #[.bool true, .bool true, .bool false, .bool false] 86)).alloc (.cells #[.int .u8 3] 5)).alloc (.cells #[.int .i64 (npp : Int)] 3)) w.heap.size #[.int .i64 3, .int .i64 (npp : Int), .int .i64 (nps : Int), .int .i64 (npn : Int), .int .i64 (npf : Int), .int .i64 pt, .slice sa sn sc, .slice ia im ic] 37) := HK2.out.stay HBX2
  have HU3 : Hid (Bk (((w2.alloc (.cells #[.bool true, .bool true, .bool false, .bool false] 86)).alloc (.cells #[.int .u8 3] 5)).alloc (.cells #[.int .i64 (npp : Int)] 3)) w2.heap.size #[.bool true, .bool true, .bool false, .bool false] 86) := (Bk.new w2 #[.bool true, .bool true, .bool false, .bool false] 86).stay ((below_new (w2.alloc (.cells #[.bool true, .bool true, .bool false, .bool false] 86)) _).trans ((below_new ((w2.alloc (.cells #[.bool true, .bool true, .bool false, .bool false] 86)).alloc (.cells #[.int .u8 3] 5)) _).mono (by simp)))
  have HO3 : Hid (Own (((w2.alloc (.cells #[.bool true, .bool true, .bool false, .bool false] 86)).alloc (.cells #[.int .u8 3] 5)).alloc (.cells #[.int .i64 (npp : Int)] 3)) (w2.heap.size + 1) (some ⟨w2.heap.size + 1, 0, none⟩) 1 1 [3]) := by
    have h := Own.new (w2.alloc (.cells #[.bool true, .bool true, .bool false, .bool false] 86)) (w2.heap.size + 1) #[.int .u8 3] [3] (by simp) rfl (by simp) (by unfold maxLen; simp)
    have h2 := h.below (below_new ((w2.alloc (.cells #[.bool true, .bool true, .bool false, .bool false] 86)).alloc (.cells #[.int .u8 3] 5)) (.cells #[.int .i64 (npp : Int)] 3))
    show Own _ _ _ _ _ _
    simpa using h2
  have HG3 : Hid (Bk (((w2.alloc (.cells #[.bool true, .bool true, .bool false, .bool false] 86)).alloc (.cells #[.int .u8 3] 5)).alloc (.cells #[.int .i64 (npp : Int)] 3)) (w2.heap.size + 2) (nvs [npp]) 3) := by
    have h := Bk.new ((w2.alloc (.cells #[.bool true, .bool true, .bool false, .bool false] 86)).alloc (.cells #[.int .u8 3] 5)) (nvs [npp]) 3
    rw [show ((w2.alloc (.cells #[.bool true, .bool true, .bool false, .bool false] 86)).alloc (.cells #[.int .u8 3] 5)).heap.size = w2.heap.size + 2 from by simp] at h
    exact h
  have HB3 : Hid (Below w.heap.size w (((w2.alloc (.cells #[.bool true, .bool true, .bool false, .bool false] 86)).alloc (.cells #[.int .u8 3] 5)).alloc (.cells #[.int .i64 (npp : Int)] 3))) := HB2.out.trans (HBX2.mono HB2.out.size)
  clear HBX HBX1 HBX2 HK2
  go_wp2_with fail
  refine (pc_putNumbers (w2.heap.size + 1) (some ⟨w2.heap.size + 1, 0, none⟩) 1 1 [3] (w2.heap.size + 2) [npp] _ HO3.out (by simp) (by omega) HG3.out (by simp; omega) (by simp)).mono ?_
  rintro e w4 ⟨⟨a4, c4, rfl, ho4⟩, hk4⟩
  obtain ⟨l4, hl4⟩ : ∃ l, l = 1 + (lebs [npp]).length := ⟨_, rfl⟩
  have h4l : l4 ≤ 1 + 10 := by have := lebs_len [npp]; simp at this; omega
  have ho4' := ho4.out
  rw [← hl4] at ho4' ⊢
  have HO4 : Hid (Own w4 (w2.heap.size + 1) a4 l4 c4 ([3] ++ lebs [npp])) := ho4'
  have HK4 : Hid (Bk w4 w.heap.size #[.int .i64 3, .int .i64 (npp : Int), .int .i64 (nps : Int), .int .i64 (npn : Int), .int .i64 (npf : Int), .int .i64 pt, .slice sa sn sc, .slice ia im ic] 37) := HK3.out.kept hk4 (by decide)
  have HU4 : Hid (Bk w4 w2.heap.size #[.bool true, .bool true, .bool false, .bool false] 86) := HU3.out.kept hk4 (by decide)
  have HB4 : Hid (Below w.heap.size w w4) := HB3.out.trans (hk4.below.mono (by have := HLT.out; omega))
  have HS4 : Hid (w2.heap.size + 1 ≤ w4.heap.size) := Nat.le_trans (by simp) hk4.below.size
  clear hl4 ho4 ho4' hk4 d0 d1 HK3 HU3 HO3 HG3 HB3
  have u4_0 : w4.cell? ⟨w2.heap.size, 0, none⟩ = some (.bool true) := HU4.out.cell 0 rfl
  have d2 : w4.cell? ⟨w.heap.size, 2, none⟩ = some (.int .i64 (nps : Int)) := HK4.out.cell 2 rfl
  have d3 : w4.cell? ⟨w.heap.size, 3, none⟩ = some (.int .i64 (npn : Int)) := HK4.out.cell 3 rfl
  have HO5x : Hid (Own (w4.alloc (.cells #[.int .i64 (nps : Int), .int .i64 (npn : Int)] 3)) (w2.heap.size + 1) a4 l4 c4 ([3] ++ lebs [npp])) := HO4.out.below (below_new _ _)
  have HG5x : Hid (Bk (w4.alloc (.cells #[.int .i64 (nps : Int), .int .i64 (npn : Int)] 3)) w4.heap.size (nvs [nps, npn]) 3) := Bk.new _ _ _
  go_wp2_with fail
  refine (pc_putNumbers (w2.heap.size + 1) a4 l4 c4 ([3] ++ lebs [npp]) w4.heap.size [nps, npn] _ HO5x.out (by have := HS4.out; simp; omega) (by omega) HG5x.out (by simp; omega) (by simp)).mono ?_
  rintro e w5 ⟨⟨a5, c5, rfl, ho5⟩, hk5⟩
  obtain ⟨l5, hl5⟩ : ∃ l, l = l4 + (lebs [nps, npn]).length := ⟨_, rfl⟩
  have h5l : l5 ≤ 31 := by have := lebs_len [nps, npn]; simp at this; omega
  have ho5' := ho5.out
  rw [← hl5] at ho5' ⊢
  have HO5 : Hid (Own w5 (w2.heap.size + 1) a5 l5 c5 ([3] ++ lebs [npp] ++ lebs [nps, npn])) := ho5'
  have HKb5 : Kb (w2.heap.size + 1) w4 w5 := (Kb.of (below_new _ _) HS4.out).trans hk5
  have HK5 : Hid (Bk w5 w.heap.size #[.int .i64 3, .int .i64 (npp : Int), .int .i64 (nps : Int), .int .i64 (npn : Int), .int .i64 (npf : Int), .int .i64 pt, .slice sa sn sc, .slice ia im ic] 37) := HK4.out.kept HKb5 (by decide)
  have HU5 : Hid (Bk w5 w2.heap.size #[.bool true, .bool true, .bool false, .bool false] 86) := HU4.out.kept HKb5 (by decide)
  have HB5 : Hid (Below w.heap.size w w5) := HB4.out.trans (HKb5.below.mono (by have := HLT.out; omega))
  have HS5 : Hid (w2.heap.size + 1 ≤ w5.heap.size) := Nat.le_trans HS4.out HKb5.below.size
  clear hl5 ho5 ho5' hk5 HKb5 HO5x HG5x HK4 HU4 HO4 u4_0 d2 d3
  have u5_1 : w5.cell? ⟨w2.heap.size, 1, none⟩ = some (.bool true) := HU5.out.cell 1 rfl
  have d4 : w5.cell? ⟨w.heap.size, 4, none⟩ = some (.int .i64 (npf : Int)) := HK5.out.cell 4 rfl
  have HO6x : Hid (Own (w5.alloc (.cells #[.int .i64 (npf : Int)] 3)) (w2.heap.size + 1) a5 l5 c5 ([3] ++ lebs [npp] ++ lebs [nps, npn])) := HO5.out.below (below_new _ _)
  have HG6x : Hid (Bk (w5.alloc (.cells #[.int .i64 (npf : Int)] 3)) w5.heap.size (nvs [npf]) 3) := Bk.new _ _ _
  go_wp2_with fail
  refine (pc_putNumbers (w2.heap.size + 1) a5 l5 c5 ([3] ++ lebs [npp] ++ lebs [nps, npn]) w5.heap.size [npf] _ HO6x.out (by have := HS5.out; simp; omega) (by omega) HG6x.out (by simp; omega) (by simp)).mono ?_
  rintro e w6 ⟨⟨a6, c6, rfl, ho6⟩, hk6⟩
  obtain ⟨l6, hl6⟩ : ∃ l, l = l5 + (lebs [npf]).length := ⟨_, rfl⟩
  have h6l : l6 ≤ 41 := by have := lebs_len [npf]; simp at this; omega
  have ho6' := ho6.out
  rw [← hl6] at ho6' ⊢
  have HO6 : Hid (Own w6 (w2.heap.size + 1) a6 l6 c6 ([3] ++ lebs [npp] ++ lebs [nps, npn] ++ lebs [npf])) := ho6'
  have HKb6 : Kb (w2.heap.size + 1) w5 w6 := (Kb.of (below_new _ _) HS5.out).trans hk6
  have HK6 : Hid (Bk w6 w.heap.size #[.int .i64 3, .int .i64 (npp : Int), .int .i64 (nps : Int), .int .i64 (npn : Int), .int .i64 (npf : Int), .int .i64 pt, .slice sa sn sc, .slice ia im ic] 37) := HK5.out.kept HKb6 (by decide)
  have HU6 : Hid (Bk w6 w2.heap.size #[.bool true, .bool true, .bool false, .bool false] 86) := HU5.out.kept HKb6 (by decide)
  have HB6 : Hid (Below w.heap.size w w6) := HB5.out.trans (HKb6.below.mono (by have := HLT.out; omega))
  have HS6 : Hid (w2.heap.size + 1 ≤ w6.heap.size) := Nat.le_trans HS5.out HKb6.below.size
  clear hl6 ho6 ho6' hk6 HKb6 HO6x HG6x HK5 HU5 HO5 u5_1 d4
  have u6_2 : w6.cell? ⟨w2.heap.size, 2, none⟩ = some (.bool false) := HU6.out.cell 2 rfl
  have u6_3 : w6.cell? ⟨w2.heap.size, 3, none⟩ = some (.bool false) := HU6.out.cell 3 rfl
  go_wp2
  go_returns
  refine ⟨⟨a6, l6, c6, by rw [HC0.out]; rfl, ?_⟩, HB6.out⟩
  rw [HPD.out]
  have h := HO6.out.under (show w.heap.size ≤ w2.heap.size + 1 by have := HLT.out; omega)
  simpa [List.append_assoc] using h

set_option maxRecDepth 100000 in
set_option maxHeartbeats 4000000 in
theorem pc_Put_4 (pp ps pn pf pt : Int) (pl : List Sp) (pi : List It) (sa : Option Addr) (sn sc : Nat) (ia : Option Addr) (im ic : Nat) (w : World) (hp : PcRd w ⟨4, pp, ps, pn, pf, pt, pl, pi⟩ sa sn sc ia im ic) (hc : chk ⟨4, pp, ps, pn, pf, pt, pl, pi⟩ = 0) : Calls Tryd.prog 16 #[Pc.val ⟨4, pp, ps, pn, pf, pt, pl, pi⟩ sa sn sc ia im ic] w fun e w' => PutTold w' w.heap.size ⟨4, pp, ps, pn, pf, pt, pl, pi⟩ e ∧ Below w.heap.size w w' := by
  have HC0 : Hid (chk ⟨4, pp, ps, pn, pf, pt, pl, pi⟩ = 0) := hc
  obtain ⟨_, hnum, hnews⟩ := chk_zero hc
  have HNW : Hid (newsB 4 = true → ¬ (32 < pl.length ∨ 8 < pi.length) ∧ spB ⟨4, pp, ps, pn, pf, pt, pl, pi⟩ = true ∧ itE ⟨4, pp, ps, pn, pf, pt, pl, pi⟩ pf pi = 0) := hnews
  have hx_pub : 0 ≤ pp ∧ pp < 3 := by
    simp only [numB, pubB, namB, rngB, froB, subB, fromB, toB] at hnum
    simp at hnum
    omega
  obtain ⟨npp, hn_pub⟩ := Int.eq_ofNat_of_zero_le hx_pub.1
  have hl_pub : npp < 3 := by omega
  have hx_sub : 0 ≤ ps ∧ ps < 33 := by
    simp only [numB, pubB, namB, rngB, froB, subB, fromB, toB] at hnum
    simp at hnum
    omega
  obtain ⟨nps, hn_sub⟩ := Int.eq_ofNat_of_zero_le hx_sub.1
  have hl_sub : nps < 33 := by omega
  have hx_n_ : 0 ≤ pn ∧ pn < 1073741825 := by
    simp only [numB, pubB, namB, rngB, froB, subB, fromB, toB] at hnum
    simp at hnum
    omega
  obtain ⟨npn, hn_n_⟩ := Int.eq_ofNat_of_zero_le hx_n_.1
  have hl_n_ : npn < 1073741825 := by omega
  clear hx_pub hx_sub hx_n_ hnum hnews hc
  subst hn_pub hn_sub hn_n_
  have HPD : Hid (putD ⟨4, (npp : Int), (nps : Int), (npn : Int), pf, pt, pl, pi⟩ = [4] ++ (lebs [npp] ++ lebs [nps, npn])) := by
    show _ = _
    rw [putD, if_pos HC0.out]
    simp [putP, subB, fromB, toB, newsB]
  have HP : Hid (PcRd w ⟨4, (npp : Int), (nps : Int), (npn : Int), pf, pt, pl, pi⟩ sa sn sc ia im ic) := hp
  clear hp
  unfold Pc.val
  simp only
  have HBx : Hid (Below w.heap.size w (w.alloc (.cells #[.int .i64 4, .int .i64 (npp : Int), .int .i64 (nps : Int), .int .i64 (npn : Int), .int .i64 pf, .int .i64 pt, .slice sa sn sc, .slice ia im ic] 37))) := below_new _ _
  have HKx : Hid (Bk (w.alloc (.cells #[.int .i64 4, .int .i64 (npp : Int), .int .i64 (nps : Int), .int .i64 (npn : Int), .int .i64 pf, .int .i64 pt, .slice sa sn sc, .slice ia im ic] 37)) w.heap.size #[.int .i64 4, .int .i64 (npp : Int), .int .i64 (nps : Int), .int .i64 (npn : Int), .int .i64 pf, .int .i64 pt, .slice sa sn sc, .slice ia im ic] 37) := Bk.new _ _ _
  have hcs := pc_Check ⟨4, (npp : Int), (nps : Int), (npn : Int), pf, pt, pl, pi⟩ sa sn sc ia im ic _ (HP.out.below HBx.out)
  rw [HC0.out] at hcs
  have HCS : Hid (Calls Tryd.prog 29 #[Pc.val ⟨4, (npp : Int), (nps : Int), (npn : Int), pf, pt, pl, pi⟩ sa sn sc ia im ic] (w.alloc (.cells #[.int .i64 4, .int .i64 (npp : Int), .int .i64 (nps : Int), .int .i64 (npn : Int), .int .i64 pf, .int .i64 pt, .slice sa sn sc, .slice ia im ic] 37)) fun e w' => e = .returned (.int .i64 0) ∧ Below (w.alloc (.cells #[.int .i64 4, .int .i64 (npp : Int), .int .i64 (nps : Int), .int .i64 (npn : Int), .int .i64 pf, .int .i64 pt, .slice sa sn sc, .slice ia im ic] 37)).heap.size (w.alloc (.cells #[.int .i64 4, .int .i64 (npp : Int), .int .i64 (nps : Int), .int .i64 (npn : Int), .int .i64 pf, .int .i64 pt, .slice sa sn sc, .slice ia im ic] 37)) w') := hcs
  clear hcs
  go_enter Tryd.func16, Tryd.ntmps16
  go_wp2_with fail
  refine HCS.out.mono ?_
  rintro e w1 ⟨rfl, hb1⟩
  have HB1 : Hid (Below w.heap.size w w1) := HBx.out.trans (hb1.mono HBx.out.size)
  have HK1 : Hid (Bk w1 w.heap.size #[.int .i64 4, .int .i64 (npp : Int), .int .i64 (nps : Int), .int .i64 (npn : Int), .int .i64 pf, .int .i64 pt, .slice sa sn sc, .slice ia im ic] 37) := HKx.out.stay hb1
  clear hb1 HKx HBx HCS
  have a0 : w1.cell? ⟨w.heap.size, 0, none⟩ = some (.int .i64 4) := HK1.out.cell 0 rfl
  go_wp2_with fail
  refine (pc_usedBy 4 _).mono ?_
  rw [show subB 4 = true from rfl, show fromB 4 = false from rfl, show toB 4 = false from rfl, show newsB 4 = false from rfl, show isB 4 = true from rfl]
  rintro e w2 ⟨rfl, hb2⟩
  have HB2 : Hid (Below w.heap.size w w2) := HB1.out.trans (hb2.mono HB1.out.size)
  have HK2 : Hid (Bk w2 w.heap.size #[.int .i64 4, .int .i64 (npp : Int), .int .i64 (nps : Int), .int .i64 (npn : Int), .int .i64 pf, .int .i64 pt, .slice sa sn sc, .slice ia im ic] 37) := HK1.out.stay hb2
  clear hb2 a0 HK1
  have HBX : Below w2.heap.size w2 (w2.alloc (.cells #[.bool true, .bool false, .bool false, .bool false] 86)) := below_new _ _
  have HBX1 : Below w2.heap.size w2 ((w2.alloc (.cells #[.bool true, .bool false, .bool false, .bool false] 86)).alloc (.cells #[.int .u8 4] 5)) := HBX.alloc (by simp) _
  have HBX2 : Below w2.heap.size w2 (((w2.alloc (.cells #[.bool true, .bool false, .bool false, .bool false] 86)).alloc (.cells #[.int .u8 4] 5)).alloc (.cells #[.int .i64 (npp : Int)] 3)) := HBX1.alloc (by simp; omega) _
  have d0 : (w2.alloc (.cells #[.bool true, .bool false, .bool false, .bool false] 86)).cell? ⟨w.heap.size, 0, none⟩ = some (.int .i64 4) := (HK2.out.stay HBX).cell 0 rfl
  have d1 : ((w2.alloc (.cells #[.bool true, .bool false, .bool false, .bool false] 86)).alloc (.cells #[.int .u8 4] 5)).cell? ⟨w.heap.size, 1, none⟩ = some (.int .i64 (npp : Int)) := (HK2.out.stay HBX1).cell 1 rfl
  have HLT : Hid (w.heap.size < w2.heap.size) := HK2.out.lt
  have HK3 : Hid (Bk (((w2.alloc (.cells #[.bool true, .bool false, .bool false, .bool false] 86)).alloc (.cells #[.int .u8 4] 5)).alloc (.cells #[.int .i64 (npp : Int)] 3)) w.heap.size #[.int .i64 4, .int .i64 (npp : Int), .int .i64 (nps : Int), .int .i64 (npn : Int), .int .i64 pf, .int .i64 pt, .slice sa sn sc, .slice ia im ic] 37) := HK2.out.stay HBX2
  have HU3 : Hid (Bk (((w2.alloc (.cells #[.bool true, .bool false, .bool false, .bool false] 86)).alloc (.cells #[.int .u8 4] 5)).alloc (.cells #[.int .i64 (npp : Int)] 3)) w2.heap.size #[.bool true, .bool false, .bool false, .bool false] 86) := (Bk.new w2 #[.bool true, .bool false, .bool false, .bool false] 86).stay ((below_new (w2.alloc (.cells #[.bool true, .bool false, .bool false, .bool false] 86)) _).trans ((below_new ((w2.alloc (.cells #[.bool true, .bool false, .bool false, .bool false] 86)).alloc (.cells #[.int .u8 4] 5)) _).mono (by simp)))
  have HO3 : Hid (Own (((w2.alloc (.cells #[.bool true, .bool false, .bool false, .bool false] 86)).alloc (.cells #[.int .u8 4] 5)).alloc (.cells #[.int .i64 (npp : Int)] 3)) (w2.heap.size + 1) (some ⟨w2.heap.size + 1, 0, none⟩) 1 1 [4]) := by
    have h := Own.new (w2.alloc (.cells #[.bool true, .bool false, .bool false, .bool false] 86)) (w2.heap.size + 1) #[.int .u8 4] [4] (by simp) rfl (by simp) (by unfold maxLen; simp)
    have h2 := h.below (below_new ((w2.alloc (.cells #[.bool true, .bool false, .bool false, .bool false] 86)).alloc (.cells #[.int .u8 4] 5)) (.cells #[.int .i64 (npp : Int)] 3))
    show Own _ _ _ _ _ _
    simpa using h2
  have HG3 : Hid (Bk (((w2.alloc (.cells #[.bool true, .bool false, .bool false, .bool false] 86)).alloc (.cells #[.int .u8 4] 5)).alloc (.cells #[.int .i64 (npp : Int)] 3)) (w2.heap.size + 2) (nvs [npp]) 3) := by
    have h := Bk.new ((w2.alloc (.cells #[.bool true, .bool false, .bool false, .bool false] 86)).alloc (.cells #[.int .u8 4] 5)) (nvs [npp]) 3
    rw [show ((w2.alloc (.cells #[.bool true, .bool false, .bool false, .bool false] 86)).alloc (.cells #[.int .u8 4] 5)).heap.size = w2.heap.size + 2 from by simp] at h
    exact h
  have HB3 : Hid (Below w.heap.size w (((w2.alloc (.cells #[.bool true, .bool false, .bool false, .bool false] 86)).alloc (.cells #[.int .u8 4] 5)).alloc (.cells #[.int .i64 (npp : Int)] 3))) := HB2.out.trans (HBX2.mono HB2.out.size)
  clear HBX HBX1 HBX2 HK2
  go_wp2_with fail
  refine (pc_putNumbers (w2.heap.size + 1) (some ⟨w2.heap.size + 1, 0, none⟩) 1 1 [4] (w2.heap.size + 2) [npp] _ HO3.out (by simp) (by omega) HG3.out (by simp; omega) (by simp)).mono ?_
  rintro e w4 ⟨⟨a4, c4, rfl, ho4⟩, hk4⟩
  obtain ⟨l4, hl4⟩ : ∃ l, l = 1 + (lebs [npp]).length := ⟨_, rfl⟩
  have h4l : l4 ≤ 1 + 10 := by have := lebs_len [npp]; simp at this; omega
  have ho4' := ho4.out
  rw [← hl4] at ho4' ⊢
  have HO4 : Hid (Own w4 (w2.heap.size + 1) a4 l4 c4 ([4] ++ lebs [npp])) := ho4'
  have HK4 : Hid (Bk w4 w.heap.size #[.int .i64 4, .int .i64 (npp : Int), .int .i64 (nps : Int), .int .i64 (npn : Int), .int .i64 pf, .int .i64 pt, .slice sa sn sc, .slice ia im ic] 37) := HK3.out.kept hk4 (by decide)
  have HU4 : Hid (Bk w4 w2.heap.size #[.bool true, .bool false, .bool false, .bool false] 86) := HU3.out.kept hk4 (by decide)
  have HB4 : Hid (Below w.heap.size w w4) := HB3.out.trans (hk4.below.mono (by have := HLT.out; omega))
  have HS4 : Hid (w2.heap.size + 1 ≤ w4.heap.size) := Nat.le_trans (by simp) hk4.below.size
  clear hl4 ho4 ho4' hk4 d0 d1 HK3 HU3 HO3 HG3 HB3
  have u4_0 : w4.cell? ⟨w2.heap.size, 0, none⟩ = some (.bool true) := HU4.out.cell 0 rfl
  have d2 : w4.cell? ⟨w.heap.size, 2, none⟩ = some (.int .i64 (nps : Int)) := HK4.out.cell 2 rfl
  have d3 : w4.cell? ⟨w.heap.size, 3, none⟩ = some (.int .i64 (npn : Int)) := HK4.out.cell 3 rfl
  have HO5x : Hid (Own (w4.alloc (.cells #[.int .i64 (nps : Int), .int .i64 (npn : Int)] 3)) (w2.heap.size + 1) a4 l4 c4 ([4] ++ lebs [npp])) := HO4.out.below (below_new _ _)
  have HG5x : Hid (Bk (w4.alloc (.cells #[.int .i64 (nps : Int), .int .i64 (npn : Int)] 3)) w4.heap.size (nvs [nps, npn]) 3) := Bk.new _ _ _
  go_wp2_with fail
  refine (pc_putNumbers (w2.heap.size + 1) a4 l4 c4 ([4] ++ lebs [npp]) w4.heap.size [nps, npn] _ HO5x.out (by have := HS4.out; simp; omega) (by omega) HG5x.out (by simp; omega) (by simp)).mono ?_
  rintro e w5 ⟨⟨a5, c5, rfl, ho5⟩, hk5⟩
  obtain ⟨l5, hl5⟩ : ∃ l, l = l4 + (lebs [nps, npn]).length := ⟨_, rfl⟩
  have h5l : l5 ≤ 31 := by have := lebs_len [nps, npn]; simp at this; omega
  have ho5' := ho5.out
  rw [← hl5] at ho5' ⊢
  have HO5 : Hid (Own w5 (w2.heap.size + 1) a5 l5 c5 ([4] ++ lebs [npp] ++ lebs [nps, npn])) := ho5'
  have HKb5 : Kb (w2.heap.size + 1) w4 w5 := (Kb.of (below_new _ _) HS4.out).trans hk5
  have HK5 : Hid (Bk w5 w.heap.size #[.int .i64 4, .int .i64 (npp : Int), .int .i64 (nps : Int), .int .i64 (npn : Int), .int .i64 pf, .int .i64 pt, .slice sa sn sc, .slice ia im ic] 37) := HK4.out.kept HKb5 (by decide)
  have HU5 : Hid (Bk w5 w2.heap.size #[.bool true, .bool false, .bool false, .bool false] 86) := HU4.out.kept HKb5 (by decide)
  have HB5 : Hid (Below w.heap.size w w5) := HB4.out.trans (HKb5.below.mono (by have := HLT.out; omega))
  have HS5 : Hid (w2.heap.size + 1 ≤ w5.heap.size) := Nat.le_trans HS4.out HKb5.below.size
  clear hl5 ho5 ho5' hk5 HKb5 HO5x HG5x HK4 HU4 HO4 u4_0 d2 d3
  have u5_1 : w5.cell? ⟨w2.heap.size, 1, none⟩ = some (.bool false) := HU5.out.cell 1 rfl
  have u5_2 : w5.cell? ⟨w2.heap.size, 2, none⟩ = some (.bool false) := HU5.out.cell 2 rfl
  have u5_3 : w5.cell? ⟨w2.heap.size, 3, none⟩ = some (.bool false) := HU5.out.cell 3 rfl
  go_wp2
  go_returns
  refine ⟨⟨a5, l5, c5, by rw [HC0.out]; rfl, ?_⟩, HB5.out⟩
  rw [HPD.out]
  have h := HO5.out.under (show w.heap.size ≤ w2.heap.size + 1 by have := HLT.out; omega)
  simpa [List.append_assoc] using h

set_option maxRecDepth 100000 in
set_option maxHeartbeats 4000000 in
theorem pc_Put_5 (pp ps pn pf pt : Int) (pl : List Sp) (pi : List It) (sa : Option Addr) (sn sc : Nat) (ia : Option Addr) (im ic : Nat) (w : World) (hp : PcRd w ⟨5, pp, ps, pn, pf, pt, pl, pi⟩ sa sn sc ia im ic) (hc : chk ⟨5, pp, ps, pn, pf, pt, pl, pi⟩ = 0) : Calls Tryd.prog 16 #[Pc.val ⟨5, pp, ps, pn, pf, pt, pl, pi⟩ sa sn sc ia im ic] w fun e w' => PutTold w' w.heap.size ⟨5, pp, ps, pn, pf, pt, pl, pi⟩ e ∧ Below w.heap.size w w' := by
  have HC0 : Hid (chk ⟨5, pp, ps, pn, pf, pt, pl, pi⟩ = 0) := hc
  obtain ⟨_, hnum, hnews⟩ := chk_zero hc
  have HNW : Hid (newsB 5 = true → ¬ (32 < pl.length ∨ 8 < pi.length) ∧ spB ⟨5, pp, ps, pn, pf, pt, pl, pi⟩ = true ∧ itE ⟨5, pp, ps, pn, pf, pt, pl, pi⟩ pf pi = 0) := hnews
  have hx_pub : 0 ≤ pp ∧ pp < 3 := by
    simp only [numB, pubB, namB, rngB, froB, subB, fromB, toB] at hnum
    simp at hnum
    omega
  obtain ⟨npp, hn_pub⟩ := Int.eq_ofNat_of_zero_le hx_pub.1
  have hl_pub : npp < 3 := by omega
  have hx_sub : 0 ≤ ps ∧ ps < 33 := by
    simp only [numB, pubB, namB, rngB, froB, subB, fromB, toB] at hnum
    simp at hnum
    omega
  obtain ⟨nps, hn_sub⟩ := Int.eq_ofNat_of_zero_le hx_sub.1
  have hl_sub : nps < 33 := by omega
  have hx_n_ : 0 ≤ pn ∧ pn < 1073741825 := by
    simp only [numB, pubB, namB, rngB, froB, subB, fromB, toB] at hnum
    simp at hnum
    omega
  obtain ⟨npn, hn_n_⟩ := Int.eq_ofNat_of_zero_le hx_n_.1
  have hl_n_ : npn < 1073741825 := by omega
  have hx_fr : 0 ≤ pf ∧ pf < 1099511627777 := by
    simp only [numB, pubB, namB, rngB, froB, subB, fromB, toB] at hnum
    simp at hnum
    omega
  obtain ⟨npf, hn_fr⟩ := Int.eq_ofNat_of_zero_le hx_fr.1
  have hl_fr : npf < 1099511627777 := by omega
  clear hx_pub hx_sub hx_n_ hx_fr hnum hnews hc
  subst hn_pub hn_sub hn_n_ hn_fr
  have HPD : Hid (putD ⟨5, (npp : Int), (nps : Int), (npn : Int), (npf : Int), pt, pl, pi⟩ = [5] ++ (lebs [npp] ++ lebs [nps, npn] ++ lebs [npf])) := by
    show _ = _
    rw [putD, if_pos HC0.out]
    simp [putP, subB, fromB, toB, newsB]
  have HP : Hid (PcRd w ⟨5, (npp : Int), (nps : Int), (npn : Int), (npf : Int), pt, pl, pi⟩ sa sn sc ia im ic) := hp
  clear hp
  unfold Pc.val
  simp only
  have HBx : Hid (Below w.heap.size w (w.alloc (.cells #[.int .i64 5, .int .i64 (npp : Int), .int .i64 (nps : Int), .int .i64 (npn : Int), .int .i64 (npf : Int), .int .i64 pt, .slice sa sn sc, .slice ia im ic] 37))) := below_new _ _
  have HKx : Hid (Bk (w.alloc (.cells #[.int .i64 5, .int .i64 (npp : Int), .int .i64 (nps : Int), .int .i64 (npn : Int), .int .i64 (npf : Int), .int .i64 pt, .slice sa sn sc, .slice ia im ic] 37)) w.heap.size #[.int .i64 5, .int .i64 (npp : Int), .int .i64 (nps : Int), .int .i64 (npn : Int), .int .i64 (npf : Int), .int .i64 pt, .slice sa sn sc, .slice ia im ic] 37) := Bk.new _ _ _
  have hcs := pc_Check ⟨5, (npp : Int), (nps : Int), (npn : Int), (npf : Int), pt, pl, pi⟩ sa sn sc ia im ic _ (HP.out.below HBx.out)
  rw [HC0.out] at hcs
  have HCS : Hid (Calls Tryd.prog 29 #[Pc.val ⟨5, (npp : Int), (nps : Int), (npn : Int), (npf : Int), pt, pl, pi⟩ sa sn sc ia im ic] (w.alloc (.cells #[.int .i64 5, .int .i64 (npp : Int), .int .i64 (nps : Int), .int .i64 (npn : Int), .int .i64 (npf : Int), .int .i64 pt, .slice sa sn sc, .slice ia im ic] 37)) fun e w' => e = .returned (.int .i64 0) ∧ Below (w.alloc (.cells #[.int .i64 5, .int .i64 (npp : Int), .int .i64 (nps : Int), .int .i64 (npn : Int), .int .i64 (npf : Int), .int .i64 pt, .slice sa sn sc, .slice ia im ic] 37)).heap.size (w.alloc (.cells #[.int .i64 5, .int .i64 (npp : Int), .int .i64 (nps : Int), .int .i64 (npn : Int), .int .i64 (npf : Int), .int .i64 pt, .slice sa sn sc, .slice ia im ic] 37)) w') := hcs
  clear hcs
  go_enter Tryd.func16, Tryd.ntmps16
  go_wp2_with fail
  refine HCS.out.mono ?_
  rintro e w1 ⟨rfl, hb1⟩
  have HB1 : Hid (Below w.heap.size w w1) := HBx.out.trans (hb1.mono HBx.out.size)
  have HK1 : Hid (Bk w1 w.heap.size #[.int .i64 5, .int .i64 (npp : Int), .int .i64 (nps : Int), .int .i64 (npn : Int), .int .i64 (npf : Int), .int .i64 pt, .slice sa sn sc, .slice ia im ic] 37) := HKx.out.stay hb1
  clear hb1 HKx HBx HCS
  have a0 : w1.cell? ⟨w.heap.size, 0, none⟩ = some (.int .i64 5) := HK1.out.cell 0 rfl
  go_wp2_with fail
  refine (pc_usedBy 5 _).mono ?_
  rw [show subB 5 = true from rfl, show fromB 5 = true from rfl, show toB 5 = false from rfl, show newsB 5 = false from rfl, show isB 5 = true from rfl]
  rintro e w2 ⟨rfl, hb2⟩
  have HB2 : Hid (Below w.heap.size w w2) := HB1.out.trans (hb2.mono HB1.out.size)
  have HK2 : Hid (Bk w2 w.heap.size #[.int .i64 5, .int .i64 (npp : Int), .int .i64 (nps : Int), .int .i64 (npn : Int), .int .i64 (npf : Int), .int .i64 pt, .slice sa sn sc, .slice ia im ic] 37) := HK1.out.stay hb2
  clear hb2 a0 HK1
  have HBX : Below w2.heap.size w2 (w2.alloc (.cells #[.bool true, .bool true, .bool false, .bool false] 86)) := below_new _ _
  have HBX1 : Below w2.heap.size w2 ((w2.alloc (.cells #[.bool true, .bool true, .bool false, .bool false] 86)).alloc (.cells #[.int .u8 5] 5)) := HBX.alloc (by simp) _
  have HBX2 : Below w2.heap.size w2 (((w2.alloc (.cells #[.bool true, .bool true, .bool false, .bool false] 86)).alloc (.cells #[.int .u8 5] 5)).alloc (.cells #[.int .i64 (npp : Int)] 3)) := HBX1.alloc (by simp; omega) _
  have d0 : (w2.alloc (.cells #[.bool true, .bool true, .bool false, .bool false] 86)).cell? ⟨w.heap.size, 0, none⟩ = some (.int .i64 5) := (HK2.out.stay HBX).cell 0 rfl
  have d1 : ((w2.alloc (.cells #[.bool true, .bool true, .bool false, .bool false] 86)).alloc (.cells #[.int .u8 5] 5)).cell? ⟨w.heap.size, 1, none⟩ = some (.int .i64 (npp : Int)) := (HK2.out.stay HBX1).cell 1 rfl
  have HLT : Hid (w.heap.size < w2.heap.size) := HK2.out.lt
  have HK3 : Hid (Bk (((w2.alloc (.cells #[.bool true, .bool true, .bool false, .bool false] 86)).alloc (.cells #[.int .u8 5] 5)).alloc (.cells #[.int .i64 (npp : Int)] 3)) w.heap.size #[.int .i64 5, .int .i64 (npp : Int), .int .i64 (nps : Int), .int .i64 (npn : Int), .int .i64 (npf : Int), .int .i64 pt, .slice sa sn sc, .slice ia im ic] 37) := HK2.out.stay HBX2
  have HU3 : Hid (Bk (((w2.alloc (.cells #[.bool true, .bool true, .bool false, .bool false] 86)).alloc (.cells #[.int .u8 5] 5)).alloc (.cells #[.int .i64 (npp : Int)] 3)) w2.heap.size #[.bool true, .bool true, .bool false, .bool false] 86) := (Bk.new w2 #[.bool true, .bool true, .bool false, .bool false] 86).stay ((below_new (w2.alloc (.cells #[.bool true, .bool true, .bool false, .bool false] 86)) _).trans ((below_new ((w2.alloc (.cells #[.bool true, .bool true, .bool false, .bool false] 86)).alloc (.cells #[.int .u8 5] 5)) _).mono (by simp)))
  have HO3 : Hid (Own (((w2.alloc (.cells #[.bool true, .bool true, .bool false, .bool false] 86)).alloc (.cells #[.int .u8 5] 5)).alloc (.cells #[.int .i64 (npp : Int)] 3)) (w2.heap.size + 1) (some ⟨w2.heap.size + 1, 0, none⟩) 1 1 [5]) := by
    have h := Own.new (w2.alloc (.cells #[.bool true, .bool true, .bool false, .bool false] 86)) (w2.heap.size + 1) #[.int .u8 5] [5] (by simp) rfl (by simp) (by unfold maxLen; simp)
    have h2 := h.below (below_new ((w2.alloc (.cells #[.bool true, .bool true, .bool false, .bool false] 86)).alloc (.cells #[.int .u8 5] 5)) (.cells #[.int .i64 (npp : Int)] 3))
    show Own _ _ _ _ _ _
    simpa using h2
  have HG3 : Hid (Bk (((w2.alloc (.cells #[.bool true, .bool true, .bool false, .bool false] 86)).alloc (.cells #[.int .u8 5] 5)).alloc (.cells #[.int .i64 (npp : Int)] 3)) (w2.heap.size + 2) (nvs [npp]) 3) := by
    have h := Bk.new ((w2.alloc (.cells #[.bool true, .bool true, .bool false, .bool false] 86)).alloc (.cells #[.int .u8 5] 5)) (nvs [npp]) 3
    rw [show ((w2.alloc (.cells #[.bool true, .bool true, .bool false, .bool false] 86)).alloc (.cells #[.int .u8 5] 5)).heap.size = w2.heap.size + 2 from by simp] at h
    exact h
  have HB3 : Hid (Below w.heap.size w (((w2.alloc (.cells #[.bool true, .bool true, .bool false, .bool false] 86)).alloc (.cells #[.int .u8 5] 5)).alloc (.cells #[.int .i64 (npp : Int)] 3))) := HB2.out.trans (HBX2.mono HB2.out.size)
  clear HBX HBX1 HBX2 HK2
  go_wp2_with fail
  refine (pc_putNumbers (w2.heap.size + 1) (some ⟨w2.heap.size + 1, 0, none⟩) 1 1 [5] (w2.heap.size + 2) [npp] _ HO3.out (by simp) (by omega) HG3.out (by simp; omega) (by simp)).mono ?_
  rintro e w4 ⟨⟨a4, c4, rfl, ho4⟩, hk4⟩
  obtain ⟨l4, hl4⟩ : ∃ l, l = 1 + (lebs [npp]).length := ⟨_, rfl⟩
  have h4l : l4 ≤ 1 + 10 := by have := lebs_len [npp]; simp at this; omega
  have ho4' := ho4.out
  rw [← hl4] at ho4' ⊢
  have HO4 : Hid (Own w4 (w2.heap.size + 1) a4 l4 c4 ([5] ++ lebs [npp])) := ho4'
  have HK4 : Hid (Bk w4 w.heap.size #[.int .i64 5, .int .i64 (npp : Int), .int .i64 (nps : Int), .int .i64 (npn : Int), .int .i64 (npf : Int), .int .i64 pt, .slice sa sn sc, .slice ia im ic] 37) := HK3.out.kept hk4 (by decide)
  have HU4 : Hid (Bk w4 w2.heap.size #[.bool true, .bool true, .bool false, .bool false] 86) := HU3.out.kept hk4 (by decide)
  have HB4 : Hid (Below w.heap.size w w4) := HB3.out.trans (hk4.below.mono (by have := HLT.out; omega))
  have HS4 : Hid (w2.heap.size + 1 ≤ w4.heap.size) := Nat.le_trans (by simp) hk4.below.size
  clear hl4 ho4 ho4' hk4 d0 d1 HK3 HU3 HO3 HG3 HB3
  have u4_0 : w4.cell? ⟨w2.heap.size, 0, none⟩ = some (.bool true) := HU4.out.cell 0 rfl
  have d2 : w4.cell? ⟨w.heap.size, 2, none⟩ = some (.int .i64 (nps : Int)) := HK4.out.cell 2 rfl
  have d3 : w4.cell? ⟨w.heap.size, 3, none⟩ = some (.int .i64 (npn : Int)) := HK4.out.cell 3 rfl
  have HO5x : Hid (Own (w4.alloc (.cells #[.int .i64 (nps : Int), .int .i64 (npn : Int)] 3)) (w2.heap.size + 1) a4 l4 c4 ([5] ++ lebs [npp])) := HO4.out.below (below_new _ _)
  have HG5x : Hid (Bk (w4.alloc (.cells #[.int .i64 (nps : Int), .int .i64 (npn : Int)] 3)) w4.heap.size (nvs [nps, npn]) 3) := Bk.new _ _ _
  go_wp2_with fail
  refine (pc_putNumbers (w2.heap.size + 1) a4 l4 c4 ([5] ++ lebs [npp]) w4.heap.size [nps, npn] _ HO5x.out (by have := HS4.out; simp; omega) (by omega) HG5x.out (by simp; omega) (by simp)).mono ?_
  rintro e w5 ⟨⟨a5, c5, rfl, ho5⟩, hk5⟩
  obtain ⟨l5, hl5⟩ : ∃ l, l = l4 + (lebs [nps, npn]).length := ⟨_, rfl⟩
  have h5l : l5 ≤ 31 := by have := lebs_len [nps, npn]; simp at this; omega
  have ho5' := ho5.out
  rw [← hl5] at ho5' ⊢
  have HO5 : Hid (Own w5 (w2.heap.size + 1) a5 l5 c5 ([5] ++ lebs [npp] ++ lebs [nps, npn])) := ho5'
  have HKb5 : Kb (w2.heap.size + 1) w4 w5 := (Kb.of (below_new _ _) HS4.out).trans hk5
  have HK5 : Hid (Bk w5 w.heap.size #[.int .i64 5, .int .i64 (npp : Int), .int .i64 (nps : Int), .int .i64 (npn : Int), .int .i64 (npf : Int), .int .i64 pt, .slice sa sn sc, .slice ia im ic] 37) := HK4.out.kept HKb5 (by decide)
  have HU5 : Hid (Bk w5 w2.heap.size #[.bool true, .bool true, .bool false, .bool false] 86) := HU4.out.kept HKb5 (by decide)
  have HB5 : Hid (Below w.heap.size w w5) := HB4.out.trans (HKb5.below.mono (by have := HLT.out; omega))
  have HS5 : Hid (w2.heap.size + 1 ≤ w5.heap.size) := Nat.le_trans HS4.out HKb5.below.size
  clear hl5 ho5 ho5' hk5 HKb5 HO5x HG5x HK4 HU4 HO4 u4_0 d2 d3
  have u5_1 : w5.cell? ⟨w2.heap.size, 1, none⟩ = some (.bool true) := HU5.out.cell 1 rfl
  have d4 : w5.cell? ⟨w.heap.size, 4, none⟩ = some (.int .i64 (npf : Int)) := HK5.out.cell 4 rfl
  have HO6x : Hid (Own (w5.alloc (.cells #[.int .i64 (npf : Int)] 3)) (w2.heap.size + 1) a5 l5 c5 ([5] ++ lebs [npp] ++ lebs [nps, npn])) := HO5.out.below (below_new _ _)
  have HG6x : Hid (Bk (w5.alloc (.cells #[.int .i64 (npf : Int)] 3)) w5.heap.size (nvs [npf]) 3) := Bk.new _ _ _
  go_wp2_with fail
  refine (pc_putNumbers (w2.heap.size + 1) a5 l5 c5 ([5] ++ lebs [npp] ++ lebs [nps, npn]) w5.heap.size [npf] _ HO6x.out (by have := HS5.out; simp; omega) (by omega) HG6x.out (by simp; omega) (by simp)).mono ?_
  rintro e w6 ⟨⟨a6, c6, rfl, ho6⟩, hk6⟩
  obtain ⟨l6, hl6⟩ : ∃ l, l = l5 + (lebs [npf]).length := ⟨_, rfl⟩
  have h6l : l6 ≤ 41 := by have := lebs_len [npf]; simp at this; omega
  have ho6' := ho6.out
  rw [← hl6] at ho6' ⊢
  have HO6 : Hid (Own w6 (w2.heap.size + 1) a6 l6 c6 ([5] ++ lebs [npp] ++ lebs [nps, npn] ++ lebs [npf])) := ho6'
  have HKb6 : Kb (w2.heap.size + 1) w5 w6 := (Kb.of (below_new _ _) HS5.out).trans hk6
  have HK6 : Hid (Bk w6 w.heap.size #[.int .i64 5, .int .i64 (npp : Int), .int .i64 (nps : Int), .int .i64 (npn : Int), .int .i64 (npf : Int), .int .i64 pt, .slice sa sn sc, .slice ia im ic] 37) := HK5.out.kept HKb6 (by decide)
  have HU6 : Hid (Bk w6 w2.heap.size #[.bool true, .bool true, .bool false, .bool false] 86) := HU5.out.kept HKb6 (by decide)
  have HB6 : Hid (Below w.heap.size w w6) := HB5.out.trans (HKb6.below.mono (by have := HLT.out; omega))
  have HS6 : Hid (w2.heap.size + 1 ≤ w6.heap.size) := Nat.le_trans HS5.out HKb6.below.size
  clear hl6 ho6 ho6' hk6 HKb6 HO6x HG6x HK5 HU5 HO5 u5_1 d4
  have u6_2 : w6.cell? ⟨w2.heap.size, 2, none⟩ = some (.bool false) := HU6.out.cell 2 rfl
  have u6_3 : w6.cell? ⟨w2.heap.size, 3, none⟩ = some (.bool false) := HU6.out.cell 3 rfl
  go_wp2
  go_returns
  refine ⟨⟨a6, l6, c6, by rw [HC0.out]; rfl, ?_⟩, HB6.out⟩
  rw [HPD.out]
  have h := HO6.out.under (show w.heap.size ≤ w2.heap.size + 1 by have := HLT.out; omega)
  simpa [List.append_assoc] using h

set_option maxRecDepth 100000 in
set_option maxHeartbeats 4000000 in
theorem pc_Put_6 (pp ps pn pf pt : Int) (pl : List Sp) (pi : List It) (sa : Option Addr) (sn sc : Nat) (ia : Option Addr) (im ic : Nat) (w : World) (hp : PcRd w ⟨6, pp, ps, pn, pf, pt, pl, pi⟩ sa sn sc ia im ic) (hc : chk ⟨6, pp, ps, pn, pf, pt, pl, pi⟩ = 0) : Calls Tryd.prog 16 #[Pc.val ⟨6, pp, ps, pn, pf, pt, pl, pi⟩ sa sn sc ia im ic] w fun e w' => PutTold w' w.heap.size ⟨6, pp, ps, pn, pf, pt, pl, pi⟩ e ∧ Below w.heap.size w w' := by
  have HC0 : Hid (chk ⟨6, pp, ps, pn, pf, pt, pl, pi⟩ = 0) := hc
  obtain ⟨_, hnum, hnews⟩ := chk_zero hc
  have HNW : Hid (newsB 6 = true → ¬ (32 < pl.length ∨ 8 < pi.length) ∧ spB ⟨6, pp, ps, pn, pf, pt, pl, pi⟩ = true ∧ itE ⟨6, pp, ps, pn, pf, pt, pl, pi⟩ pf pi = 0) := hnews
  have hx_pub : 0 ≤ pp ∧ pp < 3 := by
    simp only [numB, pubB, namB, rngB, froB, subB, fromB, toB] at hnum
    simp at hnum
    omega
  obtain ⟨npp, hn_pub⟩ := Int.eq_ofNat_of_zero_le hx_pub.1
  have hl_pub : npp < 3 := by omega
  have hx_sub : 0 ≤ ps ∧ ps < 33 := by
    simp only [numB, pubB, namB, rngB, froB, subB, fromB, toB] at hnum
    simp at hnum
    omega
  obtain ⟨nps, hn_sub⟩ := Int.eq_ofNat_of_zero_le hx_sub.1
  have hl_sub : nps < 33 := by omega
  have hx_n_ : 0 ≤ pn ∧ pn < 1073741825 := by
    simp only [numB, pubB, namB, rngB, froB, subB, fromB, toB] at hnum
    simp at hnum
    omega
  obtain ⟨npn, hn_n_⟩ := Int.eq_ofNat_of_zero_le hx_n_.1
  have hl_n_ : npn < 1073741825 := by omega
  clear hx_pub hx_sub hx_n_ hnum hnews hc
  subst hn_pub hn_sub hn_n_
  have HPD : Hid (putD ⟨6, (npp : Int), (nps : Int), (npn : Int), pf, pt, pl, pi⟩ = [6] ++ (lebs [npp] ++ lebs [nps, npn])) := by
    show _ = _
    rw [putD, if_pos HC0.out]
    simp [putP, subB, fromB, toB, newsB]
  have HP : Hid (PcRd w ⟨6, (npp : Int), (nps : Int), (npn : Int), pf, pt, pl, pi⟩ sa sn sc ia im ic) := hp
  clear hp
  unfold Pc.val
  simp only
  have HBx : Hid (Below w.heap.size w (w.alloc (.cells #[.int .i64 6, .int .i64 (npp : Int), .int .i64 (nps : Int), .int .i64 (npn : Int), .int .i64 pf, .int .i64 pt, .slice sa sn sc, .slice ia im ic] 37))) := below_new _ _
  have HKx : Hid (Bk (w.alloc (.cells #[.int .i64 6, .int .i64 (npp : Int), .int .i64 (nps : Int), .int .i64 (npn : Int), .int .i64 pf, .int .i64 pt, .slice sa sn sc, .slice ia im ic] 37)) w.heap.size #[.int .i64 6, .int .i64 (npp : Int), .int .i64 (nps : Int), .int .i64 (npn : Int), .int .i64 pf, .int .i64 pt, .slice sa sn sc, .slice ia im ic] 37) := Bk.new _ _ _
  have hcs := pc_Check ⟨6, (npp : Int), (nps : Int), (npn : Int), pf, pt, pl, pi⟩ sa sn sc ia im ic _ (HP.out.below HBx.out)
  rw [HC0.out] at hcs
  have HCS : Hid (Calls Tryd.prog 29 #[Pc.val ⟨6, (npp : Int), (nps : Int), (npn : Int), pf, pt, pl, pi⟩ sa sn sc ia im ic] (w.alloc (.cells #[.int .i64 6, .int .i64 (npp : Int), .int .i64 (nps : Int), .int .i64 (npn : Int), .int .i64 pf, .int .i64 pt, .slice sa sn sc, .slice ia im ic] 37)) fun e w' => e = .returned (.int .i64 0) ∧ Below (w.alloc (.cells #[.int .i64 6, .int .i64 (npp : Int), .int .i64 (nps : Int), .int .i64 (npn : Int), .int .i64 pf, .int .i64 pt, .slice sa sn sc, .slice ia im ic] 37)).heap.size (w.alloc (.cells #[.int .i64 6, .int .i64 (npp : Int), .int .i64 (nps : Int), .int .i64 (npn : Int), .int .i64 pf, .int .i64 pt, .slice sa sn sc, .slice ia im ic] 37)) w') := hcs
  clear hcs
  go_enter Tryd.func16, Tryd.ntmps16
  go_wp2_with fail
  refine HCS.out.mono ?_
  rintro e w1 ⟨rfl, hb1⟩
  have HB1 : Hid (Below w.heap.size w w1) := HBx.out.trans (hb1.mono HBx.out.size)
  have HK1 : Hid (Bk w1 w.heap.size #[.int .i64 6, .int .i64 (npp : Int), .int .i64 (nps : Int), .int .i64 (npn : Int), .int .i64 pf, .int .i64 pt, .slice sa sn sc, .slice ia im ic] 37) := HKx.out.stay hb1
  clear hb1 HKx HBx HCS
  have a0 : w1.cell? ⟨w.heap.size, 0, none⟩ = some (.int .i64 6) := HK1.out.cell 0 rfl
  go_wp2_with fail
  refine (pc_usedBy 6 _).mono ?_
  rw [show subB 6 = true from rfl, show fromB 6 = false from rfl, show toB 6 = false from rfl, show newsB 6 = false from rfl, show isB 6 = true from rfl]
  rintro e w2 ⟨rfl, hb2⟩
  have HB2 : Hid (Below w.heap.size w w2) := HB1.out.trans (hb2.mono HB1.out.size)
  have HK2 : Hid (Bk w2 w.heap.size #[.int .i64 6, .int .i64 (npp : Int), .int .i64 (nps : Int), .int .i64 (npn : Int), .int .i64 pf, .int .i64 pt, .slice sa sn sc, .slice ia im ic] 37) := HK1.out.stay hb2
  clear hb2 a0 HK1
  have HBX : Below w2.heap.size w2 (w2.alloc (.cells #[.bool true, .bool false, .bool false, .bool false] 86)) := below_new _ _
  have HBX1 : Below w2.heap.size w2 ((w2.alloc (.cells #[.bool true, .bool false, .bool false, .bool false] 86)).alloc (.cells #[.int .u8 6] 5)) := HBX.alloc (by simp) _
  have HBX2 : Below w2.heap.size w2 (((w2.alloc (.cells #[.bool true, .bool false, .bool false, .bool false] 86)).alloc (.cells #[.int .u8 6] 5)).alloc (.cells #[.int .i64 (npp : Int)] 3)) := HBX1.alloc (by simp; omega) _
  have d0 : (w2.alloc (.cells #[.bool true, .bool false, .bool false, .bool false] 86)).cell? ⟨w.heap.size, 0, none⟩ = some (.int .i64 6) := (HK2.out.stay HBX).cell 0 rfl
  have d1 : ((w2.alloc (.cells #[.bool true, .bool false, .bool false, .bool false] 86)).alloc (.cells #[.int .u8 6] 5)).cell? ⟨w.heap.size, 1, none⟩ = some (.int .i64 (npp : Int)) := (HK2.out.stay HBX1).cell 1 rfl
  have HLT : Hid (w.heap.size < w2.heap.size) := HK2.out.lt
  have HK3 : Hid (Bk (((w2.alloc (.cells #[.bool true, .bool false, .bool false, .bool false] 86)).alloc (.cells #[.int .u8 6] 5)).alloc (.cells #[.int .i64 (npp : Int)] 3)) w.heap.size #[.int .i64 6, .int .i64 (npp : Int), .int .i64 (nps : Int), .int .i64 (npn : Int), .int .i64 pf, .int .i64 pt, .slice sa sn sc, .slice ia im ic] 37) := HK2.out.stay HBX2
  have HU3 : Hid (Bk (((w2.alloc (.cells #[.bool true, .bool false, .bool false, .bool false] 86)).alloc (.cells #[.int .u8 6] 5)).alloc (.cells #[.int .i64 (npp : Int)] 3)) w2.heap.size #[.bool true, .bool false, .bool false, .bool false] 86) := (Bk.new w2 #[.bool true, .bool false, .bool false, .bool false] 86).stay ((below_new (w2.alloc (.cells #[.bool true, .bool false, .bool false, .bool false] 86)) _).trans ((below_new ((w2.alloc (.cells #[.bool true, .bool false, .bool false, .bool false] 86)).alloc (.cells #[.int .u8 6] 5)) _).mono (by simp)))
  have HO3 : Hid (Own (((w2.alloc (.cells #[.bool true, .bool false, .bool false, .bool false] 86)).alloc (.cells #[.int .u8 6] 5)).alloc (.cells #[.int .i64 (npp : Int)] 3)) (w2.heap.size + 1) (some ⟨w2.heap.size + 1, 0, none⟩) 1 1 [6]) := by
    have h := Own.new (w2.alloc (.cells #[.bool true, .bool false, .bool false, .bool false] 86)) (w2.heap.size + 1) #[.int .u8 6] [6] (by simp) rfl (by simp) (by unfold maxLen; simp)
    have h2 := h.below (below_new ((w2.alloc (.cells #[.bool true, .bool false, .bool false, .bool false] 86)).alloc (.cells #[.int .u8 6] 5)) (.cells #[.int .i64 (npp : Int)] 3))
    show Own _ _ _ _ _ _
    simpa using h2
  have HG3 : Hid (Bk (((w2.alloc (.cells #[.bool true, .bool false, .bool false, .bool false] 86)).alloc (.cells #[.int .u8 6] 5)).alloc (.cells #[.int .i64 (npp : Int)] 3)) (w2.heap.size + 2) (nvs [npp]) 3) := by
    have h := Bk.new ((w2.alloc (.cells #[.bool true, .bool false, .bool false, .bool false] 86)).alloc (.cells #[.int .u8 6] 5)) (nvs [npp]) 3
    rw [show ((w2.alloc (.cells #[.bool true, .bool false, .bool false, .bool false] 86)).alloc (.cells #[.int .u8 6] 5)).heap.size = w2.heap.size + 2 from by simp] at h
    exact h
  have HB3 : Hid (Below w.heap.size w (((w2.alloc (.cells #[.bool true, .bool false, .bool false, .bool false] 86)).alloc (.cells #[.int .u8 6] 5)).alloc (.cells #[.int .i64 (npp : Int)] 3))) := HB2.out.trans (HBX2.mono HB2.out.size)
  clear HBX HBX1 HBX2 HK2
  go_wp2_with fail
  refine (pc_putNumbers (w2.heap.size + 1) (some ⟨w2.heap.size + 1, 0, none⟩) 1 1 [6] (w2.heap.size + 2) [npp] _ HO3.out (by simp) (by omega) HG3.out (by simp; omega) (by simp)).mono ?_
  rintro e w4 ⟨⟨a4, c4, rfl, ho4⟩, hk4⟩
  obtain ⟨l4, hl4⟩ : ∃ l, l = 1 + (lebs [npp]).length := ⟨_, rfl⟩
  have h4l : l4 ≤ 1 + 10 := by have := lebs_len [npp]; simp at this; omega
  have ho4' := ho4.out
  rw [← hl4] at ho4' ⊢
  have HO4 : Hid (Own w4 (w2.heap.size + 1) a4 l4 c4 ([6] ++ lebs [npp])) := ho4'
  have HK4 : Hid (Bk w4 w.heap.size #[.int .i64 6, .int .i64 (npp : Int), .int .i64 (nps : Int), .int .i64 (npn : Int), .int .i64 pf, .int .i64 pt, .slice sa sn sc, .slice ia im ic] 37) := HK3.out.kept hk4 (by decide)
  have HU4 : Hid (Bk w4 w2.heap.size #[.bool true, .bool false, .bool false, .bool false] 86) := HU3.out.kept hk4 (by decide)
  have HB4 : Hid (Below w.heap.size w w4) := HB3.out.trans (hk4.below.mono (by have := HLT.out; omega))
  have HS4 : Hid (w2.heap.size + 1 ≤ w4.heap.size) := Nat.le_trans (by simp) hk4.below.size
  clear hl4 ho4 ho4' hk4 d0 d1 HK3 HU3 HO3 HG3 HB3
  have u4_0 : w4.cell? ⟨w2.heap.size, 0, none⟩ = some (.bool true) := HU4.out.cell 0 rfl
  have d2 : w4.cell? ⟨w.heap.size, 2, none⟩ = some (.int .i64 (nps : Int)) := HK4.out.cell 2 rfl
  have d3 : w4.cell? ⟨w.heap.size, 3, none⟩ = some (.int .i64 (npn : Int)) := HK4.out.cell 3 rfl
  have HO5x : Hid (Own (w4.alloc (.cells #[.int .i64 (nps : Int), .int .i64 (npn : Int)] 3)) (w2.heap.size + 1) a4 l4 c4 ([6] ++ lebs [npp])) := HO4.out.below (below_new _ _)
  have HG5x : Hid (Bk (w4.alloc (.cells #[.int .i64 (nps : Int), .int .i64 (npn : Int)] 3)) w4.heap.size (nvs [nps, npn]) 3) := Bk.new _ _ _
  go_wp2_with fail
  refine (pc_putNumbers (w2.heap.size + 1) a4 l4 c4 ([6] ++ lebs [npp]) w4.heap.size [nps, npn] _ HO5x.out (by have := HS4.out; simp; omega) (by omega) HG5x.out (by simp; omega) (by simp)).mono ?_
  rintro e w5 ⟨⟨a5, c5, rfl, ho5⟩, hk5⟩
  obtain ⟨l5, hl5⟩ : ∃ l, l = l4 + (lebs [nps, npn]).length := ⟨_, rfl⟩
  have h5l : l5 ≤ 31 := by have := lebs_len [nps, npn]; simp at this; omega
  have ho5' := ho5.out
  rw [← hl5] at ho5' ⊢
  have HO5 : Hid (Own w5 (w2.heap.size + 1) a5 l5 c5 ([6] ++ lebs [npp] ++ lebs [nps, npn])) := ho5'
  have HKb5 : Kb (w2.heap.size + 1) w4 w5 := (Kb.of (below_new _ _) HS4.out).trans hk5
  have HK5 : Hid (Bk w5 w.heap.size #[.int .i64 6, .int .i64 (npp : Int), .int .i64 (nps : Int), .int .i64 (npn : Int), .int .i64 pf, .int .i64 pt, .slice sa sn sc, .slice ia im ic] 37) := HK4.out.kept HKb5 (by decide)
  have HU5 : Hid (Bk w5 w2.heap.size #[.bool true, .bool false, .bool false, .bool false] 86) := HU4.out.kept HKb5 (by decide)
  have HB5 : Hid (Below w.heap.size w w5) := HB4.out.trans (HKb5.below.mono (by have := HLT.out; omega))
  have HS5 : Hid (w2.heap.size + 1 ≤ w5.heap.size) := Nat.le_trans HS4.out HKb5.below.size
  clear hl5 ho5 ho5' hk5 HKb5 HO5x HG5x HK4 HU4 HO4 u4_0 d2 d3
  have u5_1 : w5.cell? ⟨w2.heap.size, 1, none⟩ = some (.bool false) := HU5.out.cell 1 rfl
  have u5_2 : w5.cell? ⟨w2.heap.size, 2, none⟩ = some (.bool false) := HU5.out.cell 2 rfl
  have u5_3 : w5.cell? ⟨w2.heap.size, 3, none⟩ = some (.bool false) := HU5.out.cell 3 rfl
  go_wp2
  go_returns
  refine ⟨⟨a5, l5, c5, by rw [HC0.out]; rfl, ?_⟩, HB5.out⟩
  rw [HPD.out]
  have h := HO5.out.under (show w.heap.size ≤ w2.heap.size + 1 by have := HLT.out; omega)
  simpa [List.append_assoc] using h

end Go.Proofs.YtbloomepdchjhaaDoor
