/- cover: tooMany, checkDiscs. -/
import Derived.Test.YtnfeklebfnlgkaaGreatCvC1
namespace Go.Proofs.YtnfeklebfnlgkaaGreat
open Go.RowKit

set_option maxRecDepth 100000 in
theorem cv_tooMany2 (nm : ByteArray) (kd : Int) (ab : Bool) (lo hi : Int) (fr to : ByteArray) (op : Bool) (tr : Int) (no : Bool) (ia : Option Addr) (il ic : Nat) (oa : Option Addr) (ol oc : Nat) (w : World) : Calls Tryz.prog 21 #[.agg #[.string nm, .int .i64 kd, .bool ab, .int .i64 lo, .int .i64 hi, .string fr, .string to, .bool op, .int .u8 tr, .bool no, .slice ia il ic, .slice oa ol oc]] w fun e w' => e = .returned (.bool (decide (4 < il) || decide (4 < ol))) ∧ Below w.heap.size w w' := by
  have hb := below_alloc w (.cells #[.string nm, .int .i64 kd, .bool ab, .int .i64 lo, .int .i64 hi, .string fr, .string to, .bool op, .int .u8 tr, .bool no, .slice ia il ic, .slice oa ol oc] 40)
  by_cases h1 : 4 < il
  · have h1' : (4 : Int) < (il : Int) := by omega
    go_enter Tryz.func21, Tryz.ntmps21
    go_wp2
    go_returns
    exact ⟨by simp [h1], hb⟩
  · have h1' : ¬ (4 : Int) < (il : Int) := by omega
    by_cases h2 : 4 < ol
    · have h2' : (4 : Int) < (ol : Int) := by omega
      go_enter Tryz.func21, Tryz.ntmps21
      go_wp2
      go_returns
      exact ⟨by simp, hb⟩
    · have h2' : ¬ (4 : Int) < (ol : Int) := by omega
      go_enter Tryz.func21, Tryz.ntmps21
      go_wp2
      go_returns
      exact ⟨by simp, hb⟩
/-- What is wrong with a side's discs. -/
def discE (kd : Int) (il ol : Nat) (ins outs : List (Int × Int × Int)) : Int := if kd ≠ 4 then 0 else if 4 < il ∨ 4 < ol then 6 else if ins.any badD = true ∨ outs.any badD = true then 2 else 0
set_option maxRecDepth 100000 in
set_option maxHeartbeats 4000000 in
theorem cv_checkDiscs (nm : ByteArray) (kd : Int) (ab : Bool) (lo hi : Int) (fr to : ByteArray) (op : Bool) (tr : Int) (no : Bool) (ia : Option Addr) (il ic : Nat) (oa : Option Addr) (ol oc : Nat) (ins outs : List (Int × Int × Int)) (w : World) (hi1 : DcsRd w ia il ins) (ho1 : DcsRd w oa ol outs) : Calls Tryz.prog 14 #[.agg #[.string nm, .int .i64 kd, .bool ab, .int .i64 lo, .int .i64 hi, .string fr, .string to, .bool op, .int .u8 tr, .bool no, .slice ia il ic, .slice oa ol oc]] w fun e w' => e = .returned (.int .i64 (discE kd il ol ins outs)) ∧ Below w.heap.size w w' := by
  have HI : Hid (DcsRd w ia il ins) := hi1
  have HO : Hid (DcsRd w oa ol outs) := ho1
  obtain ⟨E, HE⟩ : ∃ E, Hid (E = discE kd il ol ins outs) := ⟨_, rfl⟩
  rw [← HE.out]
  obtain ⟨W1, HW1⟩ : ∃ W1, Hid (W1 = w.alloc (.cells #[.string nm, .int .i64 kd, .bool ab, .int .i64 lo, .int .i64 hi, .string fr, .string to, .bool op, .int .u8 tr, .bool no, .slice ia il ic, .slice oa ol oc] 40)) := ⟨_, rfl⟩
  have HX1 : Hid (Below w.heap.size w W1) := by (show Below _ _ _); rw [HW1.out]; exact below_alloc _ _
  have HK1 : Hid (Blk W1 w.heap.size [.string nm, .int .i64 kd, .bool ab, .int .i64 lo, .int .i64 hi, .string fr, .string to, .bool op, .int .u8 tr, .bool no, .slice ia il ic, .slice oa ol oc].toArray 40) := by (show Blk _ _ _ _); rw [HW1.out]; exact Blk.new _ _ _
  have c1 : W1.cell? ⟨w.heap.size, 1, none⟩ = some (.int .i64 kd) := HK1.out.cell 1 rfl
  clear hi1 ho1
  by_cases h4 : kd = 4
  · subst h4
    have HTM := cv_tooMany2 nm 4 ab lo hi fr to op tr no ia il ic oa ol oc W1
    by_cases hm : 4 < il ∨ 4 < ol
    · have HEE : Hid (E = 6) := by (show _ = _); rw [HE.out, discE, if_neg (by simp), if_pos hm]
      rw [show (decide (4 < il) || decide (4 < ol)) = true from by simpa using hm] at HTM
      go_enter Tryz.func14, Tryz.ntmps14
      go_upto_region 1 with fail
      rw [← HW1.out]
      go_wp2_with (guard_target =~ wpList _ _ _ (Oper.mk (some 6) _ _ _ _ _ :: _) _ _; refine wpList_load_mid rfl 40 (.tmp 1) rfl w.heap.size 0 rfl [.string nm, .int .i64 4, .bool ab, .int .i64 lo, .int .i64 hi, .string fr, .string to, .bool op, .int .u8 tr, .bool no, .slice ia il ic, .slice oa ol oc] _ HK1.out.all Tryz.underlying40 rfl (by rfl) ?_)
      refine HTM.mono ?_
      rintro e w2 ⟨rfl, hb2⟩
      have HX2 : Hid (Below w.heap.size w w2) := HX1.out.trans (hb2.mono HX1.out.size)
      clear hb2 HTM c1
      go_wp2
      go_returns
      exact ⟨by rw [HEE.out]; rfl, HX2.out⟩
    · rw [show (decide (4 < il) || decide (4 < ol)) = false from by simp; omega] at HTM
      obtain ⟨p, hp⟩ : ∃ p, p = ins.any badD := ⟨_, rfl⟩
      obtain ⟨q, hq⟩ : ∃ q, q = outs.any badD := ⟨_, rfl⟩
      have HEV : Hid (E = if p = true ∨ q = true then 2 else 0) := by (show _ = _); rw [HE.out, discE, if_neg (by simp), if_neg hm, hp, hq]
      have HPQ : Hid (p = ins.any badD ∧ q = outs.any badD) := ⟨hp, hq⟩
      have HIL : Hid (il ≤ 1000000 ∧ ol ≤ 1000000) := by (show _ ∧ _); omega
      clear hp hq hm HE
      go_enter Tryz.func14, Tryz.ntmps14
      go_upto_region 1 with fail
      rw [← HW1.out]
      go_wp2_with (guard_target =~ wpList _ _ _ (Oper.mk (some 6) _ _ _ _ _ :: _) _ _; refine wpList_load_mid rfl 40 (.tmp 1) rfl w.heap.size 0 rfl [.string nm, .int .i64 4, .bool ab, .int .i64 lo, .int .i64 hi, .string fr, .string to, .bool op, .int .u8 tr, .bool no, .slice ia il ic, .slice oa ol oc] _ HK1.out.all Tryz.underlying40 rfl (by rfl) ?_)
      refine HTM.mono ?_
      rintro e w2 ⟨rfl, hb2⟩
      have HX2 : Hid (Below w.heap.size w w2) := HX1.out.trans (hb2.mono HX1.out.size)
      have d10 : w2.cell? ⟨w.heap.size, 10, none⟩ = some (.slice ia il ic) := (HK1.out.stay hb2).cell 10 rfl
      have HK2 : Hid (Blk w2 w.heap.size [.string nm, .int .i64 4, .bool ab, .int .i64 lo, .int .i64 hi, .string fr, .string to, .bool op, .int .u8 tr, .bool no, .slice ia il ic, .slice oa ol oc].toArray 40) := HK1.out.stay hb2
      have HCI := cv_conBad ia il ic ins w2 (HI.out.below HX2.out) HIL.out.1
      rw [← HPQ.out.1] at HCI
      clear hb2 HTM c1
      cases p with
      | true =>
        go_wp2_with fail
        refine HCI.mono ?_
        rintro e w3 ⟨rfl, hb3⟩
        have HX3 : Hid (Below w.heap.size w w3) := HX2.out.trans (hb3.mono HX2.out.size)
        clear hb3 HCI d10
        go_wp2
        go_returns
        exact ⟨by rw [HEV.out]; simp, HX3.out⟩
      | false =>
        go_wp2_with fail
        refine HCI.mono ?_
        rintro e w3 ⟨rfl, hb3⟩
        have HX3 : Hid (Below w.heap.size w w3) := HX2.out.trans (hb3.mono HX2.out.size)
        have d11 : w3.cell? ⟨w.heap.size, 11, none⟩ = some (.slice oa ol oc) := (HK2.out.stay hb3).cell 11 rfl
        have HCO := cv_conBad oa ol oc outs w3 (HO.out.below HX3.out) HIL.out.2
        rw [← HPQ.out.2] at HCO
        clear hb3 HCI d10
        cases q with
        | true =>
          go_wp2_with fail
          refine HCO.mono ?_
          rintro e w4 ⟨rfl, hb4⟩
          have HX4 : Hid (Below w.heap.size w w4) := HX3.out.trans (hb4.mono HX3.out.size)
          clear hb4 HCO d11
          go_wp2
          go_returns
          exact ⟨by rw [HEV.out]; simp, HX4.out⟩
        | false =>
          go_wp2_with fail
          refine HCO.mono ?_
          rintro e w4 ⟨rfl, hb4⟩
          have HX4 : Hid (Below w.heap.size w w4) := HX3.out.trans (hb4.mono HX3.out.size)
          clear hb4 HCO d11
          go_wp2
          go_returns
          exact ⟨by rw [HEV.out]; simp, HX4.out⟩
  · have HEE : Hid (E = 0) := by (show _ = _); rw [HE.out, discE, if_pos h4]
    have h4' : (kd != 4) = true := by rw [bne_iff_ne]; exact h4
    have h4'' : (kd == 4) = false := by rw [beq_eq_false_iff_ne]; exact h4
    go_enter Tryz.func14, Tryz.ntmps14
    go_upto_region 1 with fail
    rw [← HW1.out]
    go_wp2
    go_returns
    exact ⟨by rw [HEE.out]; rfl, HX1.out⟩
end Go.Proofs.YtnfeklebfnlgkaaGreat
