/- cover: insideOne, Covers; grapevinelaw06: live. -/
import Derived.Test.YtnfeklebfnlgkaaGreatCvL8
namespace Go.Proofs.YtnfeklebfnlgkaaGreat
open Go.RowKit

set_option maxRecDepth 100000 in
theorem cv_inOne (x y : Int) (hy : -900 ≤ y ∧ y ≤ 900) (b : Bool) (hb : decide (y - 1 ≤ x - 1) = b) (g c bx gx : Nat) (w : World) (hg : Blk w g [.string ⟨#[97]⟩, .int .i64 1, .bool false, .int .i64 (-9223372036854775808), .int .i64 (y - 1), .string ⟨#[]⟩, .string ⟨#[]⟩, .bool false, .int .u8 0, .bool false, .slice none 0 0, .slice none 0 0].toArray 40) (hf : Blk w bx #[.slice (some ⟨g, 0, none⟩) 1 c] 22) (hk : Blk w gx [.string ⟨#[97]⟩, .int .i64 1, .bool false, .int .i64 (-9223372036854775808), .int .i64 (x - 1), .string ⟨#[]⟩, .string ⟨#[]⟩, .bool false, .int .u8 0, .bool false, .slice none 0 0, .slice none 0 0].toArray 40) : Calls Tryz.prog 33 #[.slice (some ⟨gx, 0, none⟩) 1 1, .pointer (some ⟨bx, 0, none⟩)] w fun e w' => e = .returned (.bool b) ∧ Below w.heap.size w w' := by
  have HI := cv_inside x y hy b hb g c gx 1 w hg hk
  have f0 : w.cell? ⟨bx, 0, none⟩ = some (.slice (some ⟨g, 0, none⟩) 1 c) := hf.cell 0 rfl
  clear hg hk hf
  go_enter Tryz.func33, Tryz.ntmps33
  go_wp2_with fail
  refine HI.mono ?_
  rintro e w1 ⟨rfl, hb1⟩
  have HB1 : Hid (Below w.heap.size w w1) := hb1
  clear hb1 HI f0
  go_wp2
  go_returns
  exact ⟨rfl, HB1.out⟩
theorem Box1.cell0 {w : World} {B : Nat} {v : Value} {cs : List Value} (h : Box1 w B v cs) : ∃ gb cb gx, v = .slice (some ⟨gb, 0, none⟩) 1 cb ∧ w.cell? ⟨gb, 0, none⟩ = some (.slice (some ⟨gx, 0, none⟩) 1 1) ∧ Blk w gx cs.toArray 40 := by
  obtain ⟨gb, cb, gx, cur, rfl, _, _, h4, h5, h6⟩ := h
  refine ⟨gb, cb, gx, rfl, h4.cell 0 ?_, h6⟩
  have h : (cur.toList.take 1)[0]? = some (.slice (some ⟨gx, 0, none⟩) 1 1) := by rw [h5]; rfl
  rw [List.getElem?_take_of_lt (by omega)] at h
  simpa using h
set_option maxRecDepth 100000 in
set_option maxHeartbeats 4000000 in
theorem cv_idxOne (x y : Int) (hy : -900 ≤ y ∧ y ≤ 900) (b : Bool) (hb : decide (y - 1 ≤ x - 1) = b) (g c bx gb cb gx : Nat) (w : World) (hg : Blk w g [.string ⟨#[97]⟩, .int .i64 1, .bool false, .int .i64 (-9223372036854775808), .int .i64 (y - 1), .string ⟨#[]⟩, .string ⟨#[]⟩, .bool false, .int .u8 0, .bool false, .slice none 0 0, .slice none 0 0].toArray 40) (hf : Blk w bx #[.slice (some ⟨g, 0, none⟩) 1 c] 22) (hc : w.cell? ⟨gb, 0, none⟩ = some (.slice (some ⟨gx, 0, none⟩) 1 1)) (hk : Blk w gx [.string ⟨#[97]⟩, .int .i64 1, .bool false, .int .i64 (-9223372036854775808), .int .i64 (x - 1), .string ⟨#[]⟩, .string ⟨#[]⟩, .bool false, .int .u8 0, .bool false, .slice none 0 0, .slice none 0 0].toArray 40) : Calls Tryz.prog 53 #[.slice (some ⟨gb, 0, none⟩) 1 cb, .func (.func 33) #[] #[.pointer (some ⟨bx, 0, none⟩)]] w fun e w' => e = .returned (.int .i64 (if b then 0 else -1)) ∧ Below w.heap.size w w' := by
  have HI := cv_inOne x y hy b hb g c bx gx w hg hf hk
  clear hg hk hb hf
  cases b with
  | true =>
    go_enter Tryz.func53, Tryz.ntmps53
    go_wp2_with fail
    refine wp_loop_rounds 1 ?_
    rw [rounds_succ]
    go_wp2_with fail
    refine HI.mono ?_
    rintro e w1 ⟨rfl, hb1⟩
    have HB1 : Hid (Below w.heap.size w w1) := hb1
    clear hb1 HI
    go_wp2
    go_returns
    exact ⟨rfl, HB1.out⟩
  | false =>
    go_enter Tryz.func53, Tryz.ntmps53
    go_wp2_with fail
    refine wp_loop_rounds 2 ?_
    rw [rounds_succ]
    go_wp2_with fail
    refine HI.mono ?_
    rintro e w1 ⟨rfl, hb1⟩
    have HB1 : Hid (Below w.heap.size w w1) := hb1
    clear hb1 HI
    go_wp2_with fail
    rw [rounds_succ]
    go_wp2
    go_returns
    exact ⟨rfl, HB1.out⟩
set_option maxRecDepth 100000 in
theorem cv_conOne (x y : Int) (hy : -900 ≤ y ∧ y ≤ 900) (b : Bool) (hb : decide (y - 1 ≤ x - 1) = b) (g c bx gb cb gx : Nat) (w : World) (hg : Blk w g [.string ⟨#[97]⟩, .int .i64 1, .bool false, .int .i64 (-9223372036854775808), .int .i64 (y - 1), .string ⟨#[]⟩, .string ⟨#[]⟩, .bool false, .int .u8 0, .bool false, .slice none 0 0, .slice none 0 0].toArray 40) (hf : Blk w bx #[.slice (some ⟨g, 0, none⟩) 1 c] 22) (hc : w.cell? ⟨gb, 0, none⟩ = some (.slice (some ⟨gx, 0, none⟩) 1 1)) (hk : Blk w gx [.string ⟨#[97]⟩, .int .i64 1, .bool false, .int .i64 (-9223372036854775808), .int .i64 (x - 1), .string ⟨#[]⟩, .string ⟨#[]⟩, .bool false, .int .u8 0, .bool false, .slice none 0 0, .slice none 0 0].toArray 40) : Calls Tryz.prog 32 #[.slice (some ⟨gb, 0, none⟩) 1 cb, .func (.func 33) #[] #[.pointer (some ⟨bx, 0, none⟩)]] w fun e w' => e = .returned (.bool b) ∧ Below w.heap.size w w' := by
  have HI := cv_idxOne x y hy b hb g c bx gb cb gx w hg hf hc hk
  clear hg hk hb hf hc
  cases b with
  | true =>
    go_enter Tryz.func32, Tryz.ntmps32
    go_wp2_with fail
    refine HI.mono ?_
    rintro e w1 ⟨rfl, hb1⟩
    have HB1 : Hid (Below w.heap.size w w1) := hb1
    clear hb1 HI
    go_wp2
    go_returns
    exact ⟨rfl, HB1.out⟩
  | false =>
    go_enter Tryz.func32, Tryz.ntmps32
    go_wp2_with fail
    refine HI.mono ?_
    rintro e w1 ⟨rfl, hb1⟩
    have HB1 : Hid (Below w.heap.size w w1) := hb1
    clear hb1 HI
    go_wp2
    go_returns
    exact ⟨rfl, HB1.out⟩
set_option maxRecDepth 100000 in
set_option maxHeartbeats 2000000 in
theorem cv_insideOne (x y : Int) (hy : -900 ≤ y ∧ y ≤ 900) (b : Bool) (hb : decide (y - 1 ≤ x - 1) = b) (g c B : Nat) (v : Value) (w : World) (hg : Blk w g [.string ⟨#[97]⟩, .int .i64 1, .bool false, .int .i64 (-9223372036854775808), .int .i64 (y - 1), .string ⟨#[]⟩, .string ⟨#[]⟩, .bool false, .int .u8 0, .bool false, .slice none 0 0, .slice none 0 0].toArray 40) (hv : Box1 w B v [.string ⟨#[97]⟩, .int .i64 1, .bool false, .int .i64 (-9223372036854775808), .int .i64 (x - 1), .string ⟨#[]⟩, .string ⟨#[]⟩, .bool false, .int .u8 0, .bool false, .slice none 0 0, .slice none 0 0]) : Calls Tryz.prog 20 #[.slice (some ⟨g, 0, none⟩) 1 c, v] w fun e w' => e = .returned (.bool b) ∧ Below w.heap.size w w' := by
  obtain ⟨W1, HW1⟩ : ∃ W1, Hid (W1 = w.alloc (.cells #[.slice (some ⟨g, 0, none⟩) 1 c] 22)) := ⟨_, rfl⟩
  have HX1 : Hid (Below w.heap.size w W1) := by (show Below _ _ _); rw [HW1.out]; exact below_alloc _ _
  have HK1 : Hid (Blk W1 w.heap.size #[.slice (some ⟨g, 0, none⟩) 1 c] 22) := by (show Blk _ _ _ _); rw [HW1.out]; exact Blk.new _ _ _
  obtain ⟨gb, cb, gx, rfl, hc, hk⟩ := (hv.below HX1.out).cell0
  have HC := cv_conOne x y hy b hb g c w.heap.size gb cb gx W1 (hg.stay HX1.out) HK1.out hc hk
  clear hg hv hc hk
  go_enter Tryz.func20, Tryz.ntmps20
  go_upto_region 1 with fail
  rw [← HW1.out]
  go_wp2_with fail
  refine HC.mono ?_
  rintro e w2 ⟨rfl, hb2⟩
  have HX2 : Hid (Below w.heap.size w w2) := HX1.out.trans (hb2.mono HX1.out.size)
  clear hb2 HC
  go_wp2
  go_returns
  exact ⟨rfl, HX2.out⟩
set_option maxRecDepth 100000 in
set_option maxHeartbeats 4000000 in
theorem cv_Covers (x y : Int) (hx : -900 ≤ x ∧ x ≤ 900) (hy : -900 ≤ y ∧ y ≤ 900) (b : Bool) (hb : decide (y - 1 ≤ x - 1) = b) (gf cf gp cp gq cq : Nat) (w : World) (hf : Blk w gf [.string ⟨#[97]⟩, .int .i64 1].toArray 33) (hp : Blk w gp [.int .i64 3, .string ⟨#[97]⟩, .int .i64 5, .int .i64 1, .int .i64 x, .string ⟨#[]⟩, .bool false, .complex .f64 0 0, .int .i64 0].toArray 56) (hq : Blk w gq [.int .i64 3, .string ⟨#[97]⟩, .int .i64 5, .int .i64 1, .int .i64 y, .string ⟨#[]⟩, .bool false, .complex .f64 0 0, .int .i64 0].toArray 56) : Calls Tryz.prog 11 #[.slice (some ⟨gf, 0, none⟩) 1 cf, .slice (some ⟨gp, 0, none⟩) 1 cp, .slice (some ⟨gq, 0, none⟩) 1 cq] w fun e w' => e = .returned (.tuple #[.bool b, .int .i64 0]) ∧ Below w.heap.size w w' := by
  have HF : Hid (Blk w gf [.string ⟨#[97]⟩, .int .i64 1].toArray 33) := hf
  have HQ : Hid (Blk w gq [.int .i64 3, .string ⟨#[97]⟩, .int .i64 5, .int .i64 1, .int .i64 y, .string ⟨#[]⟩, .bool false, .complex .f64 0 0, .int .i64 0].toArray 56) := hq
  have HP := cv_Boxes x hx gf cf gp cp w hf hp
  have HBD : Hid (decide (y - 1 ≤ x - 1) = b) := hb
  clear hf hp hq hb
  go_enter Tryz.func11, Tryz.ntmps11
  go_wp2_with fail
  refine HP.mono ?_
  rintro e w1 ⟨ht1, hb1⟩
  obtain ⟨v1, rfl, hv1⟩ := ht1.out
  have HX1 : Hid (Below w.heap.size w w1) := hb1
  have HV1 : Hid (Box1 w1 w.heap.size v1 [.string ⟨#[97]⟩, .int .i64 1, .bool false, .int .i64 (-9223372036854775808), .int .i64 (x - 1), .string ⟨#[]⟩, .string ⟨#[]⟩, .bool false, .int .u8 0, .bool false, .slice none 0 0, .slice none 0 0]) := hv1
  have HR := cv_Boxes y hy gf cf gq cq w1 (HF.out.stay hb1) (HQ.out.stay hb1)
  clear ht1 hb1 hv1 HP
  go_wp2_with fail
  refine HR.mono ?_
  rintro e w2 ⟨ht2, hb2⟩
  obtain ⟨v2, rfl, hv2⟩ := ht2.out
  have HX2 : Hid (Below w.heap.size w w2) := HX1.out.trans (hb2.mono HX1.out.size)
  obtain ⟨gb, cb, gx, rfl, hc, hk⟩ := hv2.cell0
  have HC := cv_insideOne x y hy b HBD.out gx 1 w.heap.size v1 w2 hk (HV1.out.below hb2)
  obtain ⟨g1, k1, hv⟩ := HV1.out.form
  subst hv
  clear ht2 hb2 hv2 hk HR
  cases b with
  | true =>
    go_wp2_with fail
    refine wp_loop_rounds 2 ?_
    rw [rounds_succ]
    go_wp2_with fail
    refine HC.mono ?_
    rintro e w3 ⟨rfl, hb3⟩
    have HX3 : Hid (Below w.heap.size w w3) := HX2.out.trans (hb3.mono HX2.out.size)
    clear hb3 HC hc
    go_wp2_with fail
    rw [rounds_succ]
    go_wp2
    go_returns
    exact ⟨rfl, HX3.out⟩
  | false =>
    go_wp2_with fail
    refine wp_loop_rounds 1 ?_
    rw [rounds_succ]
    go_wp2_with fail
    refine HC.mono ?_
    rintro e w3 ⟨rfl, hb3⟩
    have HX3 : Hid (Below w.heap.size w w3) := HX2.out.trans (hb3.mono HX2.out.size)
    clear hb3 HC hc
    go_wp2
    go_returns
    exact ⟨rfl, HX3.out⟩
set_option maxRecDepth 100000 in
theorem cv_less (x : Int) (w : World) : Calls Tryz.prog 12 #[.int .i64 x] w fun e w' => e = .returned (.slice (some ⟨w.heap.size, 0, none⟩) 1 1) ∧ Hid (Blk w' w.heap.size [.int .i64 3, .string ⟨#[97]⟩, .int .i64 5, .int .i64 1, .int .i64 x, .string ⟨#[]⟩, .bool false, .complex .f64 0 0, .int .i64 0].toArray 56) ∧ Below w.heap.size w w' := by
  have HB : Hid (Below w.heap.size w (w.alloc (.cells #[.int .i64 3, .string ⟨#[97]⟩, .int .i64 5, .int .i64 1, .int .i64 x, .string ⟨#[]⟩, .bool false, .complex .f64 0 0, .int .i64 0] 56))) := below_alloc _ _
  have HK : Hid (Blk (w.alloc (.cells #[.int .i64 3, .string ⟨#[97]⟩, .int .i64 5, .int .i64 1, .int .i64 x, .string ⟨#[]⟩, .bool false, .complex .f64 0 0, .int .i64 0] 56)) w.heap.size [.int .i64 3, .string ⟨#[97]⟩, .int .i64 5, .int .i64 1, .int .i64 x, .string ⟨#[]⟩, .bool false, .complex .f64 0 0, .int .i64 0].toArray 56) := Blk.new _ _ _
  go_enter Tryz.func12, Tryz.ntmps12
  go_wp2
  go_returns
  exact ⟨rfl, HK, HB.out⟩
set_option maxRecDepth 100000 in
set_option maxHeartbeats 4000000 in
theorem law_live06 (w : World) : Calls Tryz.prog 6 #[] w fun e w' => e = .returned (.bool true) ∧ Below w.heap.size w w' := by
  obtain ⟨W1, HW1⟩ : ∃ W1, Hid (W1 = w.alloc (.cells #[.string ⟨#[97]⟩, .int .i64 1] 33)) := ⟨_, rfl⟩
  have HX1 : Hid (Below w.heap.size w W1) := by (show Below _ _ _); rw [HW1.out]; exact below_alloc _ _
  have HF1 : Hid (Blk W1 w.heap.size [.string ⟨#[97]⟩, .int .i64 1].toArray 33) := by (show Blk _ _ _ _); rw [HW1.out]; exact Blk.new _ _ _
  go_enter Tryz.func6, Tryz.ntmps6
  go_upto_region 2 with fail
  rw [← HW1.out]
  go_wp2_with fail
  refine (cv_less 5 W1).mono ?_
  rintro e wa1 ⟨rfl, hka1, hba1⟩
  have HXa1 : Hid (Below w.heap.size w wa1) := HX1.out.trans (hba1.mono HX1.out.size)
  have HW1a : Hid (Below W1.heap.size W1 wa1) := hba1
  clear hba1
  go_wp2_with fail
  refine (cv_less 4 wa1).mono ?_
  rintro e wb1 ⟨rfl, hkb1, hbb1⟩
  have HXb1 : Hid (Below w.heap.size w wb1) := HXa1.out.trans (hbb1.mono HXa1.out.size)
  have HW1b : Hid (Below W1.heap.size W1 wb1) := HW1a.out.trans (hbb1.mono HW1a.out.size)
  have HC1 := cv_Covers 5 4 (by omega) (by omega) true (by decide) w.heap.size 1 W1.heap.size 1 wa1.heap.size 1 wb1 (HF1.out.stay HW1b.out) (hka1.out.stay hbb1) hkb1.out
  clear hbb1 hka1 hkb1
  go_wp2_with fail
  refine HC1.mono ?_
  rintro e wc1 ⟨rfl, hbc1⟩
  have HXc1 : Hid (Below w.heap.size w wc1) := HXb1.out.trans (hbc1.mono HXb1.out.size)
  have HW1e : Hid (Below W1.heap.size W1 wc1) := HW1b.out.trans (hbc1.mono HW1b.out.size)
  clear hbc1 HC1
  go_wp2_with fail
  refine (cv_less 4 wc1).mono ?_
  rintro e wa2 ⟨rfl, hka2, hba2⟩
  have HXa2 : Hid (Below w.heap.size w wa2) := HXc1.out.trans (hba2.mono HXc1.out.size)
  have HW1f : Hid (Below W1.heap.size W1 wa2) := HW1e.out.trans (hba2.mono HW1e.out.size)
  clear hba2
  go_wp2_with fail
  refine (cv_less 5 wa2).mono ?_
  rintro e wb2 ⟨rfl, hkb2, hbb2⟩
  have HXb2 : Hid (Below w.heap.size w wb2) := HXa2.out.trans (hbb2.mono HXa2.out.size)
  have HW1d : Hid (Below W1.heap.size W1 wb2) := HW1f.out.trans (hbb2.mono HW1f.out.size)
  have HC2 := cv_Covers 4 5 (by omega) (by omega) false (by decide) w.heap.size 1 wc1.heap.size 1 wa2.heap.size 1 wb2 (HF1.out.stay HW1d.out) (hka2.out.stay hbb2) hkb2.out
  clear hbb2 hka2 hkb2
  go_wp2_with fail
  refine HC2.mono ?_
  rintro e wc2 ⟨rfl, hbc2⟩
  have HXc2 : Hid (Below w.heap.size w wc2) := HXb2.out.trans (hbc2.mono HXb2.out.size)
  clear hbc2 HC2
  go_wp2
  go_ret
  exact ⟨rfl, HXc2.out⟩
end Go.Proofs.YtnfeklebfnlgkaaGreat
