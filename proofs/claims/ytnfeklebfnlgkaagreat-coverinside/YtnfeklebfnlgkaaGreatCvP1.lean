/- pred: what Fits asks of the term 'a Less x'. -/
import Derived.Test.YtnfeklebfnlgkaaGreatCvM
namespace Go.Proofs.YtnfeklebfnlgkaaGreat
open Go.RowKit

theorem name_a : nameOk ⟨#[97]⟩ := by
  refine ⟨by decide, by decide, ?_⟩
  intro i hi
  have : i = 0 := by
    have : i < 1 := hi
    omega
  subst this
  exact .inl (by decide)
theorem cv_name (w : World) : Calls Tryz.prog 13 #[.string ⟨#[97]⟩] w fun e w' => e = .returned (.bool true) ∧ w' = w := by
  refine (event_Name ⟨#[97]⟩ (by decide) w).mono ?_
  rintro e w' ⟨⟨b, rfl, hb⟩, rfl⟩
  obtain rfl := hb.2 name_a
  exact ⟨rfl, rfl⟩
theorem cv_isCmp (w : World) : Calls Tryz.prog 93 #[.int .i64 5] w fun e w' => e = .returned (.bool true) ∧ w' = w := by
  go_enter Tryz.func93, Tryz.ntmps93
  go_wp2
  go_returns
  exact ⟨rfl, rfl⟩
theorem cv_hasValue (w : World) : Calls Tryz.prog 94 #[.int .i64 5] w fun e w' => e = .returned (.bool true) ∧ w' = w := by
  go_enter Tryz.func94, Tryz.ntmps94
  go_wp2
  go_returns
  exact ⟨rfl, rfl⟩
theorem cv_mayBe (w : World) : Calls Tryz.prog 96 #[.int .i64 5, .int .i64 1] w fun e w' => e = .returned (.bool true) ∧ w' = w := by
  go_enter Tryz.func96, Tryz.ntmps96
  go_wp2
  go_returns
  exact ⟨rfl, rfl⟩
theorem cv_growth (w : World) : Calls Tryz.prog 62 #[.int .i64 3] w fun e w' => e = .returned (.int .i64 1) ∧ w' = w := by
  go_enter Tryz.func62, Tryz.ntmps62
  go_wp2
  go_returns
  exact ⟨rfl, rfl⟩
theorem cv_valueCheck (x : Int) (w : World) : Calls Tryz.prog 95 #[.agg #[.int .i64 1, .int .i64 x, .string ⟨#[]⟩, .bool false, .complex .f64 0 0]] w fun e w' => e = .returned (.int .i64 0) ∧ Below w.heap.size w w' := by
  have hb := below_alloc w (.cells #[.int .i64 1, .int .i64 x, .string ⟨#[]⟩, .bool false, .complex .f64 0 0] 54)
  go_enter Tryz.func95, Tryz.ntmps95
  go_wp2
  go_returns
  exact ⟨rfl, hb⟩
theorem cv_wanted (x : Int) (w : World) : Calls Tryz.prog 63 #[.agg #[.int .i64 3, .string ⟨#[97]⟩, .int .i64 5, .int .i64 1, .int .i64 x, .string ⟨#[]⟩, .bool false, .complex .f64 0 0, .int .i64 0]] w fun e w' => e = .returned (.int .i64 1) ∧ Below w.heap.size w w' := by
  have hb := below_alloc w (.cells #[.int .i64 3, .string ⟨#[97]⟩, .int .i64 5, .int .i64 1, .int .i64 x, .string ⟨#[]⟩, .bool false, .complex .f64 0 0, .int .i64 0] 56)
  go_enter Tryz.func63, Tryz.ntmps63
  go_wp2
  go_returns
  exact ⟨rfl, hb⟩
theorem term_cells {w : World} {g : Nat} {x : Int} (h : Blk w g [.int .i64 3, .string ⟨#[97]⟩, .int .i64 5, .int .i64 1, .int .i64 x, .string ⟨#[]⟩, .bool false, .complex .f64 0 0, .int .i64 0].toArray 56) : w.cell? ⟨g, 0, none⟩ = some (.int .i64 3) ∧ w.cell? ⟨g, 1, none⟩ = some (.string ⟨#[97]⟩) ∧ w.cell? ⟨g, 2, none⟩ = some (.int .i64 5) ∧ w.cell? ⟨g, 3, none⟩ = some (.int .i64 1) := ⟨h.cell 0 rfl, h.cell 1 rfl, h.cell 2 rfl, h.cell 3 rfl⟩
theorem term_val {w : World} {g : Nat} {x : Int} (h : Blk w g [.int .i64 3, .string ⟨#[97]⟩, .int .i64 5, .int .i64 1, .int .i64 x, .string ⟨#[]⟩, .bool false, .complex .f64 0 0, .int .i64 0].toArray 56) : w.rangeAt g 3 [.int .i64 1, .int .i64 x, .string ⟨#[]⟩, .bool false, .complex .f64 0 0] := h.range 3 _ (fun j v hj => by
    match j, hj with
    | 0, hj => exact hj
    | 1, hj => exact hj
    | 2, hj => exact hj
    | 3, hj => exact hj
    | 4, hj => exact hj)
set_option maxRecDepth 100000 in
set_option maxHeartbeats 2000000 in
theorem cv_checkAtom (x : Int) (w : World) : Calls Tryz.prog 78 #[.agg #[.int .i64 3, .string ⟨#[97]⟩, .int .i64 5, .int .i64 1, .int .i64 x, .string ⟨#[]⟩, .bool false, .complex .f64 0 0, .int .i64 0]] w fun e w' => e = .returned (.int .i64 0) ∧ Below w.heap.size w w' := by
  obtain ⟨W1, HW1⟩ : ∃ W1, Hid (W1 = w.alloc (.cells #[.int .i64 3, .string ⟨#[97]⟩, .int .i64 5, .int .i64 1, .int .i64 x, .string ⟨#[]⟩, .bool false, .complex .f64 0 0, .int .i64 0] 56)) := ⟨_, rfl⟩
  have HB : Hid (Below w.heap.size w W1) := by (show Below _ _ _); rw [HW1.out]; exact below_alloc _ _
  have HK : Hid (Blk W1 w.heap.size [.int .i64 3, .string ⟨#[97]⟩, .int .i64 5, .int .i64 1, .int .i64 x, .string ⟨#[]⟩, .bool false, .complex .f64 0 0, .int .i64 0].toArray 56) := by (show Blk _ _ _ _); rw [HW1.out]; exact Blk.new _ _ _
  obtain ⟨c0, c1, c2, c3⟩ := term_cells HK.out
  have HV : Hid (W1.rangeAt w.heap.size 3 [.int .i64 1, .int .i64 x, .string ⟨#[]⟩, .bool false, .complex .f64 0 0]) := term_val HK.out
  have HN := cv_name W1
  have HI := cv_isCmp W1
  have HH := cv_hasValue W1
  have HC := cv_valueCheck x W1
  go_enter Tryz.func78, Tryz.ntmps78
  go_upto_region 1 with fail
  rw [← HW1.out]
  go_wp2_with fail
  refine HN.mono ?_
  rintro e w0 ⟨rfl, hw⟩
  rw [hw]
  clear hw w0 HN
  go_wp2_with fail
  refine HI.mono ?_
  rintro e w0 ⟨rfl, hw⟩
  rw [hw]
  clear hw w0 HI
  go_wp2_with fail
  refine HH.mono ?_
  rintro e w0 ⟨rfl, hw⟩
  rw [hw]
  clear hw w0 HH
  go_wp2_with (guard_target =~ wpList _ _ _ (Oper.mk (some 17) _ _ _ _ _ :: _) _ _; refine wpList_load_mid rfl 54 (.tmp 16) rfl w.heap.size 3 rfl [.int .i64 1, .int .i64 x, .string ⟨#[]⟩, .bool false, .complex .f64 0 0] _ HV.out Tryz.underlying54 rfl (by rfl) ?_)
  refine HC.mono ?_
  rintro e w2 ⟨rfl, hb2⟩
  have HB2 : Hid (Below w.heap.size w w2) := HB.out.trans (hb2.mono HB.out.size)
  obtain ⟨d0, d1, d2, d3⟩ := term_cells (HK.out.stay hb2)
  have HM := cv_mayBe w2
  clear hb2 HC c0 c1 c2 c3
  go_wp2_with fail
  refine HM.mono ?_
  rintro e w0 ⟨rfl, hw⟩
  rw [hw]
  clear hw w0 HM
  go_wp2
  go_returns
  exact ⟨rfl, HB2.out⟩
set_option maxRecDepth 100000 in
set_option maxHeartbeats 2000000 in
theorem cv_checkTerm (x : Int) (w : World) : Calls Tryz.prog 61 #[.agg #[.int .i64 3, .string ⟨#[97]⟩, .int .i64 5, .int .i64 1, .int .i64 x, .string ⟨#[]⟩, .bool false, .complex .f64 0 0, .int .i64 0], .int .i64 0] w fun e w' => e = .returned (.int .i64 0) ∧ Below w.heap.size w w' := by
  obtain ⟨W1, HW1⟩ : ∃ W1, Hid (W1 = w.alloc (.cells #[.int .i64 3, .string ⟨#[97]⟩, .int .i64 5, .int .i64 1, .int .i64 x, .string ⟨#[]⟩, .bool false, .complex .f64 0 0, .int .i64 0] 56)) := ⟨_, rfl⟩
  have HB : Hid (Below w.heap.size w W1) := by (show Below _ _ _); rw [HW1.out]; exact below_alloc _ _
  have HK : Hid (Blk W1 w.heap.size [.int .i64 3, .string ⟨#[97]⟩, .int .i64 5, .int .i64 1, .int .i64 x, .string ⟨#[]⟩, .bool false, .complex .f64 0 0, .int .i64 0].toArray 56) := by (show Blk _ _ _ _); rw [HW1.out]; exact Blk.new _ _ _
  obtain ⟨c0, c1, c2, c3⟩ := term_cells HK.out
  have HC := cv_checkAtom x W1
  go_enter Tryz.func61, Tryz.ntmps61
  go_upto_region 1 with fail
  rw [← HW1.out]
  go_wp2_with (guard_target =~ wpList _ _ _ (Oper.mk (some 12) _ _ _ _ _ :: _) _ _; refine wpList_load_mid rfl 56 (.tmp 2) rfl w.heap.size 0 rfl [.int .i64 3, .string ⟨#[97]⟩, .int .i64 5, .int .i64 1, .int .i64 x, .string ⟨#[]⟩, .bool false, .complex .f64 0 0, .int .i64 0] _ HK.out.all Tryz.underlying56 rfl (by rfl) ?_)
  refine HC.mono ?_
  rintro e w2 ⟨rfl, hb2⟩
  have HB2 : Hid (Below w.heap.size w w2) := HB.out.trans (hb2.mono HB.out.size)
  clear hb2 HC c0 c1 c2 c3
  go_wp2
  go_returns
  exact ⟨rfl, HB2.out⟩
set_option maxRecDepth 100000 in
set_option maxHeartbeats 2000000 in
theorem cv_predCheck (x : Int) (gt ct : Nat) (w : World) (hg : Blk w gt [.int .i64 3, .string ⟨#[97]⟩, .int .i64 5, .int .i64 1, .int .i64 x, .string ⟨#[]⟩, .bool false, .complex .f64 0 0, .int .i64 0].toArray 56) : Calls Tryz.prog 44 #[.slice (some ⟨gt, 0, none⟩) 1 ct] w fun e w' => e = .returned (.int .i64 0) ∧ Below w.heap.size w w' := by
  have HG : Hid (Blk w gt [.int .i64 3, .string ⟨#[97]⟩, .int .i64 5, .int .i64 1, .int .i64 x, .string ⟨#[]⟩, .bool false, .complex .f64 0 0, .int .i64 0].toArray 56) := hg
  have hcx : ∀ (a : Addr) (m : Mode) (W : World) (x y : Nat), (store a (.complex .f64 x y) m).run Tryz.prog W = stored Tryz.prog W a (.complex .f64 x y) m := fun a m W x y => run_store _ _ _ _ _ rfl
  clear hg
  obtain ⟨W1, HW1⟩ : ∃ W1, Hid (W1 = w.alloc (.cells #[.int .i64 3, .string ⟨#[97]⟩, .int .i64 5, .int .i64 1, .int .i64 x, .string ⟨#[]⟩, .bool false, .complex .f64 0 0, .int .i64 0] 56)) := ⟨_, rfl⟩
  have HB : Hid (Below w.heap.size w W1) := by (show Below _ _ _); rw [HW1.out]; exact below_alloc _ _
  have HK : Hid (Blk W1 w.heap.size [.int .i64 3, .string ⟨#[97]⟩, .int .i64 5, .int .i64 1, .int .i64 x, .string ⟨#[]⟩, .bool false, .complex .f64 0 0, .int .i64 0].toArray 56) := by (show Blk _ _ _ _); rw [HW1.out]; exact Blk.new _ _ _
  have HC := cv_checkTerm x W1
  go_enter Tryz.func44, Tryz.ntmps44
  go_wp2_with fail
  refine wp_loop_rounds 2 ?_
  rw [rounds_succ]
  go_upto_region 7 with (guard_target =~ wpList _ _ _ (Oper.mk (some 15) _ _ _ _ _ :: _) _ _; refine wpList_load_mid rfl 56 (.tmp 14) rfl gt 0 rfl [.int .i64 3, .string ⟨#[97]⟩, .int .i64 5, .int .i64 1, .int .i64 x, .string ⟨#[]⟩, .bool false, .complex .f64 0 0, .int .i64 0] _ HG.out.all Tryz.underlying56 rfl (by rfl) ?_)
  rw [← HW1.out]
  clear hcx
  go_wp2_with (guard_target =~ wpList _ _ _ (Oper.mk (some 16) _ _ _ _ _ :: _) _ _; refine wpList_load_mid rfl 56 (.tmp 5) rfl w.heap.size 0 rfl [.int .i64 3, .string ⟨#[97]⟩, .int .i64 5, .int .i64 1, .int .i64 x, .string ⟨#[]⟩, .bool false, .complex .f64 0 0, .int .i64 0] _ HK.out.all Tryz.underlying56 rfl (by rfl) ?_)
  refine HC.mono ?_
  rintro e w2 ⟨rfl, hb2⟩
  have HB2 : Hid (Below w.heap.size w w2) := HB.out.trans (hb2.mono HB.out.size)
  obtain ⟨d0, d1, d2, d3⟩ := term_cells (HK.out.stay hb2)
  clear hb2 HC
  have HG2 := cv_growth w2
  go_wp2_with fail
  refine HG2.mono ?_
  rintro e w0 ⟨rfl, hw⟩
  rw [hw]
  clear hw w0 HG2 d0 d1 d2 d3
  go_wp2_with fail
  rw [rounds_succ]
  go_wp2
  go_returns
  exact ⟨rfl, HB2.out⟩
end Go.Proofs.YtnfeklebfnlgkaaGreat
