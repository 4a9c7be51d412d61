/- cover: inside, insideOne of sides of whole numbers. -/
import Derived.Test.YtnfeklebfnlgkaaGreatCvL7
namespace Go.Proofs.YtnfeklebfnlgkaaGreat
open Go.RowKit

set_option maxRecDepth 100000 in
set_option maxHeartbeats 4000000 in
theorem cv_sideInside (x y : Int) (hy : -900 ≤ y ∧ y ≤ 900) (b : Bool) (hb : decide (y - 1 ≤ x - 1) = b) (w : World) : Calls Tryz.prog 25 #[.agg #[.string ⟨#[97]⟩, .int .i64 1, .bool false, .int .i64 (-9223372036854775808), .int .i64 (y - 1), .string ⟨#[]⟩, .string ⟨#[]⟩, .bool false, .int .u8 0, .bool false, .slice none 0 0, .slice none 0 0], .agg #[.string ⟨#[97]⟩, .int .i64 1, .bool false, .int .i64 (-9223372036854775808), .int .i64 (x - 1), .string ⟨#[]⟩, .string ⟨#[]⟩, .bool false, .int .u8 0, .bool false, .slice none 0 0, .slice none 0 0]] w fun e w' => e = .returned (.bool b) ∧ Below w.heap.size w w' := by
  obtain ⟨W1, HW1⟩ : ∃ W1, Hid (W1 = (w.alloc (.cells #[.string ⟨#[97]⟩, .int .i64 1, .bool false, .int .i64 (-9223372036854775808), .int .i64 (y - 1), .string ⟨#[]⟩, .string ⟨#[]⟩, .bool false, .int .u8 0, .bool false, .slice none 0 0, .slice none 0 0] 40)).alloc (.cells #[.string ⟨#[97]⟩, .int .i64 1, .bool false, .int .i64 (-9223372036854775808), .int .i64 (x - 1), .string ⟨#[]⟩, .string ⟨#[]⟩, .bool false, .int .u8 0, .bool false, .slice none 0 0, .slice none 0 0] 40)) := ⟨_, rfl⟩
  have hb1 := below_alloc w (.cells #[.string ⟨#[97]⟩, .int .i64 1, .bool false, .int .i64 (-9223372036854775808), .int .i64 (y - 1), .string ⟨#[]⟩, .string ⟨#[]⟩, .bool false, .int .u8 0, .bool false, .slice none 0 0, .slice none 0 0] 40)
  have hb2 := below_alloc (w.alloc (.cells #[.string ⟨#[97]⟩, .int .i64 1, .bool false, .int .i64 (-9223372036854775808), .int .i64 (y - 1), .string ⟨#[]⟩, .string ⟨#[]⟩, .bool false, .int .u8 0, .bool false, .slice none 0 0, .slice none 0 0] 40)) (.cells #[.string ⟨#[97]⟩, .int .i64 1, .bool false, .int .i64 (-9223372036854775808), .int .i64 (x - 1), .string ⟨#[]⟩, .string ⟨#[]⟩, .bool false, .int .u8 0, .bool false, .slice none 0 0, .slice none 0 0] 40)
  have HX1 : Hid (Below w.heap.size w W1) := by (show Below _ _ _); rw [HW1.out]; exact hb1.trans (hb2.mono hb1.size)
  have HK0 : Hid (Blk W1 w.heap.size [.string ⟨#[97]⟩, .int .i64 1, .bool false, .int .i64 (-9223372036854775808), .int .i64 (y - 1), .string ⟨#[]⟩, .string ⟨#[]⟩, .bool false, .int .u8 0, .bool false, .slice none 0 0, .slice none 0 0].toArray 40) := by (show Blk _ _ _ _); rw [HW1.out]; exact (Blk.new w _ _).stay hb2
  have HK1 : Hid (Blk W1 (w.heap.size + 1) [.string ⟨#[97]⟩, .int .i64 1, .bool false, .int .i64 (-9223372036854775808), .int .i64 (x - 1), .string ⟨#[]⟩, .string ⟨#[]⟩, .bool false, .int .u8 0, .bool false, .slice none 0 0, .slice none 0 0].toArray 40) := by
    (show Blk _ _ _ _); rw [HW1.out]
    have := Blk.new (w.alloc (.cells #[.string ⟨#[97]⟩, .int .i64 1, .bool false, .int .i64 (-9223372036854775808), .int .i64 (y - 1), .string ⟨#[]⟩, .string ⟨#[]⟩, .bool false, .int .u8 0, .bool false, .slice none 0 0, .slice none 0 0] 40)) #[.string ⟨#[97]⟩, .int .i64 1, .bool false, .int .i64 (-9223372036854775808), .int .i64 (x - 1), .string ⟨#[]⟩, .string ⟨#[]⟩, .bool false, .int .u8 0, .bool false, .slice none 0 0, .slice none 0 0] 40
    simpa using this
  clear hb1 hb2
  have HN := cv_nothingW ⟨#[97]⟩ false (-9223372036854775808) (y - 1) ⟨#[]⟩ ⟨#[]⟩ false 0 false none 0 0 none 0 0 W1
  rw [show decide (y - 1 < -9223372036854775808) = false from by simp; omega] at HN
  have c2 : W1.cell? ⟨w.heap.size, 2, none⟩ = some (.bool false) := HK0.out.cell 2 rfl
  go_enter Tryz.func25, Tryz.ntmps25
  go_upto_region 1 with fail
  rw [← HW1.out]
  go_wp2_with (guard_target =~ wpList _ _ _ (Oper.mk (some 12) _ _ _ _ _ :: _) _ _; refine wpList_load_mid rfl 40 (.tmp 2) rfl w.heap.size 0 rfl [.string ⟨#[97]⟩, .int .i64 1, .bool false, .int .i64 (-9223372036854775808), .int .i64 (y - 1), .string ⟨#[]⟩, .string ⟨#[]⟩, .bool false, .int .u8 0, .bool false, .slice none 0 0, .slice none 0 0] _ HK0.out.all Tryz.underlying40 rfl (by rfl) ?_)
  refine HN.mono ?_
  rintro e w2 ⟨rfl, hb2⟩
  have HX2 : Hid (Below w.heap.size w w2) := HX1.out.trans (hb2.mono HX1.out.size)
  obtain ⟨-, i1, -, i3, i4, -⟩ := side_cells (HK0.out.stay hb2)
  obtain ⟨-, -, -, o3, o4, -⟩ := side_cells (HK1.out.stay hb2)
  clear hb2 HN c2
  go_wp2
  go_returns
  exact ⟨by simpa using hb, HX2.out⟩
set_option maxRecDepth 100000 in
set_option maxHeartbeats 4000000 in
theorem cv_holds (x y : Int) (hy : -900 ≤ y ∧ y ≤ 900) (b : Bool) (hb : decide (y - 1 ≤ x - 1) = b) (bx : Nat) (w : World) (hk : Blk w bx [.string ⟨#[97]⟩, .int .i64 1, .bool false, .int .i64 (-9223372036854775808), .int .i64 (x - 1), .string ⟨#[]⟩, .string ⟨#[]⟩, .bool false, .int .u8 0, .bool false, .slice none 0 0, .slice none 0 0].toArray 40) : Calls Tryz.prog 24 #[.agg #[.string ⟨#[97]⟩, .int .i64 1, .bool false, .int .i64 (-9223372036854775808), .int .i64 (y - 1), .string ⟨#[]⟩, .string ⟨#[]⟩, .bool false, .int .u8 0, .bool false, .slice none 0 0, .slice none 0 0], .pointer (some ⟨bx, 0, none⟩)] w fun e w' => e = .returned (.bool b) ∧ Below w.heap.size w w' := by
  obtain ⟨W1, HW1⟩ : ∃ W1, Hid (W1 = w.alloc (.cells #[.string ⟨#[97]⟩, .int .i64 1, .bool false, .int .i64 (-9223372036854775808), .int .i64 (y - 1), .string ⟨#[]⟩, .string ⟨#[]⟩, .bool false, .int .u8 0, .bool false, .slice none 0 0, .slice none 0 0] 40)) := ⟨_, rfl⟩
  have HX1 : Hid (Below w.heap.size w W1) := by (show Below _ _ _); rw [HW1.out]; exact below_alloc _ _
  have HK0 : Hid (Blk W1 w.heap.size [.string ⟨#[97]⟩, .int .i64 1, .bool false, .int .i64 (-9223372036854775808), .int .i64 (y - 1), .string ⟨#[]⟩, .string ⟨#[]⟩, .bool false, .int .u8 0, .bool false, .slice none 0 0, .slice none 0 0].toArray 40) := by (show Blk _ _ _ _); rw [HW1.out]; exact Blk.new _ _ _
  obtain ⟨i0, i1, i2, i3, i4, i5, i6, i7, i8, i9, i10, i11⟩ := side_cells HK0.out
  obtain ⟨o0, o1, o2, o3, o4, o5, o6, o7, o8, o9, o10, o11⟩ := side_cells (hk.stay HX1.out)
  have HS := cv_sideInside x y hy b hb W1
  clear hk
  go_enter Tryz.func24, Tryz.ntmps24
  go_upto_region 1 with fail
  rw [← HW1.out]
  go_wp2_with fail
  refine HS.mono ?_
  rintro e w2 ⟨rfl, hb2⟩
  have HX2 : Hid (Below w.heap.size w w2) := HX1.out.trans (hb2.mono HX1.out.size)
  clear hb2 HS i0 i1 i2 i3 i4 i5 i6 i7 i8 i9 i10 i11 o0 o1 o2 o3 o4 o5 o6 o7 o8 o9 o10 o11
  go_wp2
  go_returns
  exact ⟨rfl, HX2.out⟩
set_option maxRecDepth 100000 in
set_option maxHeartbeats 4000000 in
theorem cv_idxIn (x y : Int) (hy : -900 ≤ y ∧ y ≤ 900) (b : Bool) (hb : decide (y - 1 ≤ x - 1) = b) (g c bx : Nat) (w : World) (hg : Blk w g [.string ⟨#[97]⟩, .int .i64 1, .bool false, .int .i64 (-9223372036854775808), .int .i64 (y - 1), .string ⟨#[]⟩, .string ⟨#[]⟩, .bool false, .int .u8 0, .bool false, .slice none 0 0, .slice none 0 0].toArray 40) (hk : Blk w bx [.string ⟨#[97]⟩, .int .i64 1, .bool false, .int .i64 (-9223372036854775808), .int .i64 (x - 1), .string ⟨#[]⟩, .string ⟨#[]⟩, .bool false, .int .u8 0, .bool false, .slice none 0 0, .slice none 0 0].toArray 40) : Calls Tryz.prog 39 #[.slice (some ⟨g, 0, none⟩) 1 c, .func (.func 24) #[] #[.pointer (some ⟨bx, 0, none⟩)]] w fun e w' => e = .returned (.int .i64 (if b then 0 else -1)) ∧ Below w.heap.size w w' := by
  have HG : Hid (Blk w g [.string ⟨#[97]⟩, .int .i64 1, .bool false, .int .i64 (-9223372036854775808), .int .i64 (y - 1), .string ⟨#[]⟩, .string ⟨#[]⟩, .bool false, .int .u8 0, .bool false, .slice none 0 0, .slice none 0 0].toArray 40) := hg
  have HI := cv_holds x y hy b hb bx w hk
  clear hg hk hb
  cases b with
  | true =>
    go_enter Tryz.func39, Tryz.ntmps39
    go_wp2_with fail
    refine wp_loop_rounds 1 ?_
    rw [rounds_succ]
    go_wp2_with (guard_target =~ wpList _ _ _ (Oper.mk (some 15) _ _ _ _ _ :: _) _ _; refine wpList_load_mid rfl 40 (.tmp 14) rfl g 0 rfl [.string ⟨#[97]⟩, .int .i64 1, .bool false, .int .i64 (-9223372036854775808), .int .i64 (y - 1), .string ⟨#[]⟩, .string ⟨#[]⟩, .bool false, .int .u8 0, .bool false, .slice none 0 0, .slice none 0 0] _ HG.out.all Tryz.underlying40 rfl (by rfl) ?_)
    refine HI.mono ?_
    rintro e w1 ⟨rfl, hb1⟩
    have HB1 : Hid (Below w.heap.size w w1) := hb1
    clear hb1 HI
    go_wp2
    go_returns
    exact ⟨rfl, HB1.out⟩
  | false =>
    go_enter Tryz.func39, Tryz.ntmps39
    go_wp2_with fail
    refine wp_loop_rounds 2 ?_
    rw [rounds_succ]
    go_wp2_with (guard_target =~ wpList _ _ _ (Oper.mk (some 15) _ _ _ _ _ :: _) _ _; refine wpList_load_mid rfl 40 (.tmp 14) rfl g 0 rfl [.string ⟨#[97]⟩, .int .i64 1, .bool false, .int .i64 (-9223372036854775808), .int .i64 (y - 1), .string ⟨#[]⟩, .string ⟨#[]⟩, .bool false, .int .u8 0, .bool false, .slice none 0 0, .slice none 0 0] _ HG.out.all Tryz.underlying40 rfl (by rfl) ?_)
    refine HI.mono ?_
    rintro e w1 ⟨rfl, hb1⟩
    have HB1 : Hid (Below w.heap.size w w1) := hb1
    clear hb1 HI
    go_wp2_with fail
    rw [rounds_succ]
    go_wp2
    go_returns
    exact ⟨rfl, HB1.out⟩
set_option maxRecDepth 100000 in
theorem cv_conIn (x y : Int) (hy : -900 ≤ y ∧ y ≤ 900) (b : Bool) (hb : decide (y - 1 ≤ x - 1) = b) (g c bx : Nat) (w : World) (hg : Blk w g [.string ⟨#[97]⟩, .int .i64 1, .bool false, .int .i64 (-9223372036854775808), .int .i64 (y - 1), .string ⟨#[]⟩, .string ⟨#[]⟩, .bool false, .int .u8 0, .bool false, .slice none 0 0, .slice none 0 0].toArray 40) (hk : Blk w bx [.string ⟨#[97]⟩, .int .i64 1, .bool false, .int .i64 (-9223372036854775808), .int .i64 (x - 1), .string ⟨#[]⟩, .string ⟨#[]⟩, .bool false, .int .u8 0, .bool false, .slice none 0 0, .slice none 0 0].toArray 40) : Calls Tryz.prog 26 #[.slice (some ⟨g, 0, none⟩) 1 c, .func (.func 24) #[] #[.pointer (some ⟨bx, 0, none⟩)]] w fun e w' => e = .returned (.bool b) ∧ Below w.heap.size w w' := by
  have HI := cv_idxIn x y hy b hb g c bx w hg hk
  clear hg hk hb
  cases b with
  | true =>
    go_enter Tryz.func26, Tryz.ntmps26
    go_wp2_with fail
    refine HI.mono ?_
    rintro e w1 ⟨rfl, hb1⟩
    have HB1 : Hid (Below w.heap.size w w1) := hb1
    clear hb1 HI
    go_wp2
    go_returns
    exact ⟨rfl, HB1.out⟩
  | false =>
    go_enter Tryz.func26, Tryz.ntmps26
    go_wp2_with fail
    refine HI.mono ?_
    rintro e w1 ⟨rfl, hb1⟩
    have HB1 : Hid (Below w.heap.size w w1) := hb1
    clear hb1 HI
    go_wp2
    go_returns
    exact ⟨rfl, HB1.out⟩
set_option maxRecDepth 100000 in
set_option maxHeartbeats 4000000 in
theorem cv_inside (x y : Int) (hy : -900 ≤ y ∧ y ≤ 900) (b : Bool) (hb : decide (y - 1 ≤ x - 1) = b) (g c g2 c2 : Nat) (w : World) (hg : Blk w g [.string ⟨#[97]⟩, .int .i64 1, .bool false, .int .i64 (-9223372036854775808), .int .i64 (y - 1), .string ⟨#[]⟩, .string ⟨#[]⟩, .bool false, .int .u8 0, .bool false, .slice none 0 0, .slice none 0 0].toArray 40) (hk : Blk w g2 [.string ⟨#[97]⟩, .int .i64 1, .bool false, .int .i64 (-9223372036854775808), .int .i64 (x - 1), .string ⟨#[]⟩, .string ⟨#[]⟩, .bool false, .int .u8 0, .bool false, .slice none 0 0, .slice none 0 0].toArray 40) : Calls Tryz.prog 17 #[.slice (some ⟨g, 0, none⟩) 1 c, .slice (some ⟨g2, 0, none⟩) 1 c2] w fun e w' => e = .returned (.bool b) ∧ Below w.heap.size w w' := by
  have HK : Hid (Blk w g2 [.string ⟨#[97]⟩, .int .i64 1, .bool false, .int .i64 (-9223372036854775808), .int .i64 (x - 1), .string ⟨#[]⟩, .string ⟨#[]⟩, .bool false, .int .u8 0, .bool false, .slice none 0 0, .slice none 0 0].toArray 40) := hk
  obtain ⟨W1, HW1⟩ : ∃ W1, Hid (W1 = w.alloc (.cells #[.string ⟨#[97]⟩, .int .i64 1, .bool false, .int .i64 (-9223372036854775808), .int .i64 (x - 1), .string ⟨#[]⟩, .string ⟨#[]⟩, .bool false, .int .u8 0, .bool false, .slice none 0 0, .slice none 0 0] 40)) := ⟨_, rfl⟩
  have HX1 : Hid (Below w.heap.size w W1) := by (show Below _ _ _); rw [HW1.out]; exact below_alloc _ _
  have HK1 : Hid (Blk W1 w.heap.size [.string ⟨#[97]⟩, .int .i64 1, .bool false, .int .i64 (-9223372036854775808), .int .i64 (x - 1), .string ⟨#[]⟩, .string ⟨#[]⟩, .bool false, .int .u8 0, .bool false, .slice none 0 0, .slice none 0 0].toArray 40) := by (show Blk _ _ _ _); rw [HW1.out]; exact Blk.new _ _ _
  have HC := cv_conIn x y hy b hb g c w.heap.size W1 (hg.stay HX1.out) HK1.out
  clear hg hk hb
  cases b with
  | true =>
    go_enter Tryz.func17, Tryz.ntmps17
    go_wp2_with fail
    refine wp_loop_rounds 2 ?_
    rw [rounds_succ]
    go_upto_region 4 with (guard_target =~ wpList _ _ _ (Oper.mk (some 13) _ _ _ _ _ :: _) _ _; refine wpList_load_mid rfl 40 (.tmp 12) rfl g2 0 rfl [.string ⟨#[97]⟩, .int .i64 1, .bool false, .int .i64 (-9223372036854775808), .int .i64 (x - 1), .string ⟨#[]⟩, .string ⟨#[]⟩, .bool false, .int .u8 0, .bool false, .slice none 0 0, .slice none 0 0] _ HK.out.all Tryz.underlying40 rfl (by rfl) ?_)
    rw [← HW1.out]
    go_wp2_with fail
    refine HC.mono ?_
    rintro e w2 ⟨rfl, hb2⟩
    have HX2 : Hid (Below w.heap.size w w2) := HX1.out.trans (hb2.mono HX1.out.size)
    clear hb2 HC
    go_wp2_with fail
    rw [rounds_succ]
    go_wp2
    go_returns
    exact ⟨rfl, HX2.out⟩
  | false =>
    go_enter Tryz.func17, Tryz.ntmps17
    go_wp2_with fail
    refine wp_loop_rounds 1 ?_
    rw [rounds_succ]
    go_upto_region 4 with (guard_target =~ wpList _ _ _ (Oper.mk (some 13) _ _ _ _ _ :: _) _ _; refine wpList_load_mid rfl 40 (.tmp 12) rfl g2 0 rfl [.string ⟨#[97]⟩, .int .i64 1, .bool false, .int .i64 (-9223372036854775808), .int .i64 (x - 1), .string ⟨#[]⟩, .string ⟨#[]⟩, .bool false, .int .u8 0, .bool false, .slice none 0 0, .slice none 0 0] _ HK.out.all Tryz.underlying40 rfl (by rfl) ?_)
    rw [← HW1.out]
    go_wp2_with fail
    refine HC.mono ?_
    rintro e w2 ⟨rfl, hb2⟩
    have HX2 : Hid (Below w.heap.size w w2) := HX1.out.trans (hb2.mono HX1.out.size)
    clear hb2 HC
    go_wp2
    go_returns
    exact ⟨rfl, HX2.out⟩
end Go.Proofs.YtnfeklebfnlgkaaGreat
