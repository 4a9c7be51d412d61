/- event, pred: CheckSchema, Fits of a schema with one field and the term 'a Less x'. -/
import Derived.Test.YtnfeklebfnlgkaaGreatCvP1
namespace Go.Proofs.YtnfeklebfnlgkaaGreat
open Go.RowKit

set_option maxRecDepth 100000 in
theorem cv_checkName (w : World) : Calls Tryz.prog 60 #[.string ⟨#[97]⟩, .string ⟨#[]⟩] w fun e w' => e = .returned (.int .i64 0) ∧ w' = w := by
  have HN := cv_name w
  go_enter Tryz.func60, Tryz.ntmps60
  go_wp2_with fail
  refine HN.mono ?_
  rintro e w0 ⟨rfl, hw⟩
  rw [hw]
  clear hw w0 HN
  go_wp2
  go_returns
  exact ⟨rfl, rfl⟩
set_option maxRecDepth 100000 in
set_option maxHeartbeats 2000000 in
theorem cv_schema (gf cf : Nat) (w : World) (hg : Blk w gf [.string ⟨#[97]⟩, .int .i64 1].toArray 33) : Calls Tryz.prog 43 #[.slice (some ⟨gf, 0, none⟩) 1 cf] w fun e w' => e = .returned (.int .i64 0) ∧ Below w.heap.size w w' := by
  have c0 : w.cell? ⟨gf, 0, none⟩ = some (.string ⟨#[97]⟩) := hg.cell 0 rfl
  have c1 : w.cell? ⟨gf, 1, none⟩ = some (.int .i64 1) := hg.cell 1 rfl
  obtain ⟨W1, HW1⟩ : ∃ W1, Hid (W1 = w.alloc (.cells #[.string ⟨#[97]⟩, .int .i64 1] 33)) := ⟨_, rfl⟩
  have HB : Hid (Below w.heap.size w W1) := by (show Below _ _ _); rw [HW1.out]; exact below_alloc _ _
  have HK : Hid (Blk W1 w.heap.size [.string ⟨#[97]⟩, .int .i64 1].toArray 33) := by (show Blk _ _ _ _); rw [HW1.out]; exact Blk.new _ _ _
  have d0 : W1.cell? ⟨w.heap.size, 0, none⟩ = some (.string ⟨#[97]⟩) := HK.out.cell 0 rfl
  have d1 : W1.cell? ⟨w.heap.size, 1, none⟩ = some (.int .i64 1) := HK.out.cell 1 rfl
  have HN := cv_checkName W1
  clear hg
  go_enter Tryz.func43, Tryz.ntmps43
  go_wp2_with fail
  refine wp_loop_rounds 2 ?_
  rw [rounds_succ]
  go_upto_region 7 with fail
  rw [← HW1.out]
  clear c0 c1
  go_wp2_with fail
  refine HN.mono ?_
  rintro e w0 ⟨rfl, hw⟩
  rw [hw]
  clear hw w0 HN
  go_wp2_with fail
  rw [rounds_succ]
  go_wp2
  go_returns
  exact ⟨rfl, HB.out⟩
set_option maxRecDepth 100000 in
set_option maxHeartbeats 4000000 in
theorem cv_fitsAtom (x : Int) (gf cf : Nat) (w : World) (hg : Blk w gf [.string ⟨#[97]⟩, .int .i64 1].toArray 33) : Calls Tryz.prog 45 #[.slice (some ⟨gf, 0, none⟩) 1 cf, .agg #[.int .i64 3, .string ⟨#[97]⟩, .int .i64 5, .int .i64 1, .int .i64 x, .string ⟨#[]⟩, .bool false, .complex .f64 0 0, .int .i64 0]] w fun e w' => e = .returned (.int .i64 0) ∧ Below w.heap.size w w' := by
  obtain ⟨W1, HW1⟩ : ∃ W1, Hid (W1 = w.alloc (.cells #[.int .i64 3, .string ⟨#[97]⟩, .int .i64 5, .int .i64 1, .int .i64 x, .string ⟨#[]⟩, .bool false, .complex .f64 0 0, .int .i64 0] 56)) := ⟨_, rfl⟩
  have HB : Hid (Below w.heap.size w W1) := by (show Below _ _ _); rw [HW1.out]; exact below_alloc _ _
  have HK : Hid (Blk W1 w.heap.size [.int .i64 3, .string ⟨#[97]⟩, .int .i64 5, .int .i64 1, .int .i64 x, .string ⟨#[]⟩, .bool false, .complex .f64 0 0, .int .i64 0].toArray 56) := by (show Blk _ _ _ _); rw [HW1.out]; exact Blk.new _ _ _
  have hg1 := hg.stay HB.out
  have c0 : W1.cell? ⟨gf, 0, none⟩ = some (.string ⟨#[97]⟩) := hg1.cell 0 rfl
  have c1 : W1.cell? ⟨gf, 1, none⟩ = some (.int .i64 1) := hg1.cell 1 rfl
  obtain ⟨W2, HW2⟩ : ∃ W2, Hid (W2 = W1.alloc (.cells #[.string ⟨#[97]⟩, .int .i64 1] 33)) := ⟨_, rfl⟩
  have HX2 : Hid (Below W1.heap.size W1 W2) := by (show Below _ _ _); rw [HW2.out]; exact below_alloc _ _
  have HB2 : Hid (Below w.heap.size w W2) := HB.out.trans (HX2.out.mono HB.out.size)
  have HT : Hid (Blk W2 w.heap.size [.int .i64 3, .string ⟨#[97]⟩, .int .i64 5, .int .i64 1, .int .i64 x, .string ⟨#[]⟩, .bool false, .complex .f64 0 0, .int .i64 0].toArray 56) := HK.out.stay HX2.out
  have HF : Hid (Blk W2 W1.heap.size [.string ⟨#[97]⟩, .int .i64 1].toArray 33) := by (show Blk _ _ _ _); rw [HW2.out]; exact Blk.new _ _ _
  have HSL : Hid (∀ W' : World, Below W2.heap.size W2 W' → W'.cell? ⟨w.heap.size, 0, none⟩ = some (.int .i64 3) ∧ W'.cell? ⟨w.heap.size, 1, none⟩ = some (.string ⟨#[97]⟩) ∧ W'.cell? ⟨w.heap.size, 2, none⟩ = some (.int .i64 5) ∧ W'.cell? ⟨w.heap.size, 3, none⟩ = some (.int .i64 1) ∧ W'.cell? ⟨w.heap.size, 4, none⟩ = some (.int .i64 x) ∧ W'.cell? ⟨w.heap.size, 5, none⟩ = some (.string ⟨#[]⟩) ∧ W'.cell? ⟨w.heap.size, 6, none⟩ = some (.bool false) ∧ W'.cell? ⟨w.heap.size, 7, none⟩ = some (.complex .f64 0 0) ∧ W'.cell? ⟨w.heap.size, 8, none⟩ = some (.int .i64 0) ∧ W'.cell? ⟨W1.heap.size, 0, none⟩ = some (.string ⟨#[97]⟩) ∧ W'.cell? ⟨W1.heap.size, 1, none⟩ = some (.int .i64 1)) := fun W' hb => by
    have h0 := HT.out.stay hb
    have h3 := HF.out.stay hb
    exact ⟨h0.cell 0 rfl, h0.cell 1 rfl, h0.cell 2 rfl, h0.cell 3 rfl, h0.cell 4 rfl, h0.cell 5 rfl, h0.cell 6 rfl, h0.cell 7 rfl, h0.cell 8 rfl, h3.cell 0 rfl, h3.cell 1 rfl⟩
  have d0 : W2.cell? ⟨W1.heap.size, 0, none⟩ = some (.string ⟨#[97]⟩) := HF.out.cell 0 rfl
  have t1 : W2.cell? ⟨w.heap.size, 1, none⟩ = some (.string ⟨#[97]⟩) := HT.out.cell 1 rfl
  clear hg hg1
  go_enter Tryz.func45, Tryz.ntmps45
  go_upto_region 1 with fail
  rw [← HW1.out]
  go_wp2_with fail
  refine wp_loop_rounds 2 ?_
  rw [rounds_succ]
  go_upto_region 4 with fail
  rw [← HW2.out]
  clear c0 c1
  go_wp2_with fail
  clear d0 t1
  have s0 := HSL.out W2.drew (Below.refl _ _).drew
  have HWK := cv_wanted x W2.drew
  go_region_held3 (fun w' => w'.cell? ⟨w.heap.size, 0, none⟩ = some (.int .i64 3) ∧ w'.cell? ⟨w.heap.size, 1, none⟩ = some (.string ⟨#[97]⟩) ∧ w'.cell? ⟨w.heap.size, 2, none⟩ = some (.int .i64 5) ∧ w'.cell? ⟨w.heap.size, 3, none⟩ = some (.int .i64 1) ∧ w'.cell? ⟨w.heap.size, 4, none⟩ = some (.int .i64 x) ∧ w'.cell? ⟨w.heap.size, 5, none⟩ = some (.string ⟨#[]⟩) ∧ w'.cell? ⟨w.heap.size, 6, none⟩ = some (.bool false) ∧ w'.cell? ⟨w.heap.size, 7, none⟩ = some (.complex .f64 0 0) ∧ w'.cell? ⟨w.heap.size, 8, none⟩ = some (.int .i64 0) ∧ w'.cell? ⟨W1.heap.size, 0, none⟩ = some (.string ⟨#[97]⟩) ∧ w'.cell? ⟨W1.heap.size, 1, none⟩ = some (.int .i64 1)) (first | with_reducible exact s0 | with_reducible exact s1)
    (first
      | (go_at_call 63; refine HWK.mono ?_; rintro e w3 ⟨rfl, hb3⟩; have hd : Below W2.heap.size W2 W2.drew := (Below.refl _ _).drew; have HX3 : Hid (Below W2.heap.size W2 w3) := hd.trans (hb3.mono hd.size); have s1 := HSL.out w3 HX3.out; clear hb3 hd))
  clear s0 s1 HWK
  rename_i hHeld
  clear hHeld
  have HB3 : Hid (Below w.heap.size w w3) := HB2.out.trans (HX3.out.mono HB2.out.size)
  go_wp2
  go_returns
  exact ⟨rfl, HB3.out⟩
set_option maxRecDepth 100000 in
set_option maxHeartbeats 4000000 in
theorem cv_fits (x : Int) (gf cf gt ct : Nat) (w : World) (hg : Blk w gf [.string ⟨#[97]⟩, .int .i64 1].toArray 33) (ht : Blk w gt [.int .i64 3, .string ⟨#[97]⟩, .int .i64 5, .int .i64 1, .int .i64 x, .string ⟨#[]⟩, .bool false, .complex .f64 0 0, .int .i64 0].toArray 56) : Calls Tryz.prog 29 #[.slice (some ⟨gf, 0, none⟩) 1 cf, .slice (some ⟨gt, 0, none⟩) 1 ct] w fun e w' => e = .returned (.int .i64 0) ∧ Below w.heap.size w w' := by
  have HG : Hid (Blk w gf [.string ⟨#[97]⟩, .int .i64 1].toArray 33) := hg
  have HT : Hid (Blk w gt [.int .i64 3, .string ⟨#[97]⟩, .int .i64 5, .int .i64 1, .int .i64 x, .string ⟨#[]⟩, .bool false, .complex .f64 0 0, .int .i64 0].toArray 56) := ht
  have hcx : ∀ (a : Addr) (m : Mode) (W : World) (x y : Nat), (store a (.complex .f64 x y) m).run Tryz.prog W = stored Tryz.prog W a (.complex .f64 x y) m := fun a m W x y => run_store _ _ _ _ _ rfl
  have HS := cv_schema gf cf w hg
  clear hg ht
  go_enter Tryz.func29, Tryz.ntmps29
  go_wp2_with fail
  refine HS.mono ?_
  rintro e w1 ⟨rfl, hb1⟩
  have HX1 : Hid (Below w.heap.size w w1) := hb1
  have HC := cv_predCheck x gt ct w1 (HT.out.stay hb1)
  clear hb1 HS
  go_wp2_with fail
  refine HC.mono ?_
  rintro e w2 ⟨rfl, hb2⟩
  have HX2 : Hid (Below w.heap.size w w2) := HX1.out.trans (hb2.mono HX1.out.size)
  clear hb2 HC
  have HT2 : Hid (Blk w2 gt [.int .i64 3, .string ⟨#[97]⟩, .int .i64 5, .int .i64 1, .int .i64 x, .string ⟨#[]⟩, .bool false, .complex .f64 0 0, .int .i64 0].toArray 56) := HT.out.stay HX2.out
  have HG2 : Hid (Blk w2 gf [.string ⟨#[97]⟩, .int .i64 1].toArray 33) := HG.out.stay HX2.out
  obtain ⟨W3, HW3⟩ : ∃ W3, Hid (W3 = w2.alloc (.cells #[.int .i64 3, .string ⟨#[97]⟩, .int .i64 5, .int .i64 1, .int .i64 x, .string ⟨#[]⟩, .bool false, .complex .f64 0 0, .int .i64 0] 56)) := ⟨_, rfl⟩
  have HY3 : Hid (Below w2.heap.size w2 W3) := by (show Below _ _ _); rw [HW3.out]; exact below_alloc _ _
  have HX3 : Hid (Below w.heap.size w W3) := HX2.out.trans (HY3.out.mono HX2.out.size)
  have HK3 : Hid (Blk W3 w2.heap.size [.int .i64 3, .string ⟨#[97]⟩, .int .i64 5, .int .i64 1, .int .i64 x, .string ⟨#[]⟩, .bool false, .complex .f64 0 0, .int .i64 0].toArray 56) := by (show Blk _ _ _ _); rw [HW3.out]; exact Blk.new _ _ _
  have HA := cv_fitsAtom x gf cf W3 (HG2.out.stay HY3.out)
  have k0 : W3.cell? ⟨w2.heap.size, 0, none⟩ = some (.int .i64 3) := HK3.out.cell 0 rfl
  go_wp2_with fail
  refine wp_loop_rounds 2 ?_
  rw [rounds_succ]
  go_upto_region 10 with (guard_target =~ wpList _ _ _ (Oper.mk (some 25) _ _ _ _ _ :: _) _ _; refine wpList_load_mid rfl 56 (.tmp 24) rfl gt 0 rfl [.int .i64 3, .string ⟨#[97]⟩, .int .i64 5, .int .i64 1, .int .i64 x, .string ⟨#[]⟩, .bool false, .complex .f64 0 0, .int .i64 0] _ HT2.out.all Tryz.underlying56 rfl (by rfl) ?_)
  rw [← HW3.out]
  clear hcx
  go_wp2_with (guard_target =~ wpList _ _ _ (Oper.mk (some 30) _ _ _ _ _ :: _) _ _; refine wpList_load_mid rfl 56 (.tmp 8) rfl w2.heap.size 0 rfl [.int .i64 3, .string ⟨#[97]⟩, .int .i64 5, .int .i64 1, .int .i64 x, .string ⟨#[]⟩, .bool false, .complex .f64 0 0, .int .i64 0] _ HK3.out.all Tryz.underlying56 rfl (by rfl) ?_)
  refine HA.mono ?_
  rintro e w4 ⟨rfl, hb4⟩
  have HX4 : Hid (Below w.heap.size w w4) := HX3.out.trans (hb4.mono HX3.out.size)
  clear hb4 HA k0
  go_wp2_with fail
  rw [rounds_succ]
  go_wp2
  go_returns
  exact ⟨rfl, HX4.out⟩
end Go.Proofs.YtnfeklebfnlgkaaGreat
