/- cover: kindOf, atomTruth of 'a Less x'. -/
import Derived.Test.YtnfeklebfnlgkaaGreatCvL4
import Derived.Test.YtnfeklebfnlgkaaGreatCvP2
namespace Go.Proofs.YtnfeklebfnlgkaaGreat
open Go.RowKit

theorem Box1.grown {w w' : World} {B k : Nat} {v : Value} {cs : List Value} {ds : Array Value} (h : Box1 w B v cs) (hg : w.grownBy w' (some k)) (hk : Blk w k ds 68) : Box1 w' B v cs := by
  obtain ⟨gb, cb, gx, cur, h1, h2, h3, h4, h5, h6⟩ := h
  exact ⟨gb, cb, gx, cur, h1, h2, h3, h4.grown hg (fun e => blk_ne2 h4 hk (by decide) (by simpa using e)), h5, h6.grown hg (fun e => blk_ne2 h6 hk (by decide) (by simpa using e))⟩
set_option maxRecDepth 100000 in
theorem cv_kind1 (bx : Nat) (w : World) (hb : Blk w bx #[.string ⟨#[97]⟩] 9) : Calls Tryz.prog 72 #[.agg #[.string ⟨#[97]⟩, .int .i64 1], .pointer (some ⟨bx, 0, none⟩)] w fun e w' => e = .returned (.bool true) ∧ Below w.heap.size w w' := by
  have HB : Hid (Below w.heap.size w (w.alloc (.cells #[.string ⟨#[97]⟩, .int .i64 1] 33))) := below_alloc _ _
  have b0 : (w.alloc (.cells #[.string ⟨#[97]⟩, .int .i64 1] 33)).cell? ⟨bx, 0, none⟩ = some (.string ⟨#[97]⟩) := (hb.stay (below_alloc _ _)).cell 0 rfl
  clear hb
  go_enter Tryz.func72, Tryz.ntmps72
  go_wp2
  go_returns
  exact ⟨rfl, HB.out⟩
set_option maxRecDepth 100000 in
set_option maxHeartbeats 2000000 in
theorem cv_indexF (gf cf bx : Nat) (w : World) (hg : Blk w gf [.string ⟨#[97]⟩, .int .i64 1].toArray 33) (hb : Blk w bx #[.string ⟨#[97]⟩] 9) : Calls Tryz.prog 71 #[.slice (some ⟨gf, 0, none⟩) 1 cf, .func (.func 72) #[] #[.pointer (some ⟨bx, 0, none⟩)]] w fun e w' => e = .returned (.int .i64 0) ∧ Below w.heap.size w w' := by
  have c0 : w.cell? ⟨gf, 0, none⟩ = some (.string ⟨#[97]⟩) := hg.cell 0 rfl
  have c1 : w.cell? ⟨gf, 1, none⟩ = some (.int .i64 1) := hg.cell 1 rfl
  have HK := cv_kind1 bx w hb
  clear hg hb
  go_enter Tryz.func71, Tryz.ntmps71
  go_wp2_with fail
  refine wp_loop_rounds 1 ?_
  rw [rounds_succ]
  go_wp2_with fail
  refine HK.mono ?_
  rintro e w1 ⟨rfl, hb1⟩
  have HB1 : Hid (Below w.heap.size w w1) := hb1
  clear hb1 HK c0 c1
  go_wp2
  go_returns
  exact ⟨rfl, HB1.out⟩
set_option maxRecDepth 100000 in
set_option maxHeartbeats 2000000 in
theorem cv_kindOf (gf cf : Nat) (w : World) (hg : Blk w gf [.string ⟨#[97]⟩, .int .i64 1].toArray 33) : Calls Tryz.prog 47 #[.slice (some ⟨gf, 0, none⟩) 1 cf, .string ⟨#[97]⟩] w fun e w' => e = .returned (.int .i64 1) ∧ Below w.heap.size w w' := by
  have HG : Hid (Blk w gf [.string ⟨#[97]⟩, .int .i64 1].toArray 33) := hg
  obtain ⟨W1, HW1⟩ : ∃ W1, Hid (W1 = w.alloc (.cells #[.string ⟨#[97]⟩] 9)) := ⟨_, rfl⟩
  have HX1 : Hid (Below w.heap.size w W1) := by (show Below _ _ _); rw [HW1.out]; exact below_alloc _ _
  have HK1 : Hid (Blk W1 w.heap.size #[.string ⟨#[97]⟩] 9) := by (show Blk _ _ _ _); rw [HW1.out]; exact Blk.new _ _ _
  have HI := cv_indexF gf cf w.heap.size W1 (hg.stay HX1.out) HK1.out
  clear hg
  go_enter Tryz.func47, Tryz.ntmps47
  go_upto_region 1 with fail
  rw [← HW1.out]
  go_wp2_with fail
  refine HI.mono ?_
  rintro e w2 ⟨rfl, hb2⟩
  have HX2 : Hid (Below w.heap.size w w2) := HX1.out.trans (hb2.mono HX1.out.size)
  have c1 : w2.cell? ⟨gf, 1, none⟩ = some (.int .i64 1) := (HG.out.stay HX2.out).cell 1 rfl
  clear hb2 HI
  go_wp2
  go_returns
  exact ⟨rfl, HX2.out⟩
set_option maxRecDepth 100000 in
set_option maxHeartbeats 4000000 in
theorem cv_atomTruth (x : Int) (hx : -900 ≤ x ∧ x ≤ 900) (w : World) : Calls Tryz.prog 46 #[.int .i64 1, .agg #[.int .i64 3, .string ⟨#[97]⟩, .int .i64 5, .int .i64 1, .int .i64 x, .string ⟨#[]⟩, .bool false, .complex .f64 0 0, .int .i64 0]] w fun e w' => Hid (∃ v u, e = .returned (.agg #[v, u]) ∧ Box1 w' w.heap.size v [.string ⟨#[97]⟩, .int .i64 1, .bool false, .int .i64 (-9223372036854775808), .int .i64 (x - 1), .string ⟨#[]⟩, .string ⟨#[]⟩, .bool false, .int .u8 0, .bool false, .slice none 0 0, .slice none 0 0] ∧ Box1 w' w.heap.size u [.string ⟨#[97]⟩, .int .i64 1, .bool true, .int .i64 x, .int .i64 9223372036854775807, .string ⟨#[]⟩, .string ⟨#[]⟩, .bool false, .int .u8 0, .bool false, .slice none 0 0, .slice none 0 0]) ∧ Below w.heap.size w w' := by
  obtain ⟨W1, HW1⟩ : ∃ W1, Hid (W1 = (w.alloc (.cells #[.int .i64 3, .string ⟨#[97]⟩, .int .i64 5, .int .i64 1, .int .i64 x, .string ⟨#[]⟩, .bool false, .complex .f64 0 0, .int .i64 0] 56)).alloc (.cells #[.slice none 0 0, .slice none 0 0] 68)) := ⟨_, rfl⟩
  have hb1 := below_alloc w (.cells #[.int .i64 3, .string ⟨#[97]⟩, .int .i64 5, .int .i64 1, .int .i64 x, .string ⟨#[]⟩, .bool false, .complex .f64 0 0, .int .i64 0] 56)
  have hb2 := below_alloc (w.alloc (.cells #[.int .i64 3, .string ⟨#[97]⟩, .int .i64 5, .int .i64 1, .int .i64 x, .string ⟨#[]⟩, .bool false, .complex .f64 0 0, .int .i64 0] 56)) (.cells #[.slice none 0 0, .slice none 0 0] 68)
  have HX1 : Hid (Below w.heap.size w W1) := by (show Below _ _ _); rw [HW1.out]; exact hb1.trans (hb2.mono hb1.size)
  have HK0 : Hid (Blk W1 w.heap.size [.int .i64 3, .string ⟨#[97]⟩, .int .i64 5, .int .i64 1, .int .i64 x, .string ⟨#[]⟩, .bool false, .complex .f64 0 0, .int .i64 0].toArray 56) := by (show Blk _ _ _ _); rw [HW1.out]; exact (Blk.new w _ _).stay hb2
  have HK1 : Hid (Blk W1 (w.heap.size + 1) [.slice none 0 0, .slice none 0 0].toArray 68) := by
    (show Blk _ _ _ _); rw [HW1.out]
    have := Blk.new (w.alloc (.cells #[.int .i64 3, .string ⟨#[97]⟩, .int .i64 5, .int .i64 1, .int .i64 x, .string ⟨#[]⟩, .bool false, .complex .f64 0 0, .int .i64 0] 56)) #[.slice none 0 0, .slice none 0 0] 68
    simpa using this
  clear hb1 hb2
  have c1 : W1.cell? ⟨w.heap.size, 1, none⟩ = some (.string ⟨#[97]⟩) := HK0.out.cell 1 rfl
  obtain ⟨W2, HW2⟩ : ∃ W2, Hid (W2 = W1.alloc (.cells #[.string ⟨#[97]⟩, .int .i64 1, .bool false, .int .i64 0, .int .i64 0, .string ⟨#[]⟩, .string ⟨#[]⟩, .bool false, .int .u8 0, .bool false, .slice none 0 0, .slice none 0 0] 40)) := ⟨_, rfl⟩
  have HY2 : Hid (Below W1.heap.size W1 W2) := by (show Below _ _ _); rw [HW2.out]; exact below_alloc _ _
  have HX2 : Hid (Below w.heap.size w W2) := HX1.out.trans (HY2.out.mono HX1.out.size)
  have HJ0 : Hid (Blk W2 w.heap.size [.int .i64 3, .string ⟨#[97]⟩, .int .i64 5, .int .i64 1, .int .i64 x, .string ⟨#[]⟩, .bool false, .complex .f64 0 0, .int .i64 0].toArray 56) := HK0.out.stay HY2.out
  have HJ1 : Hid (Blk W2 (w.heap.size + 1) [.slice none 0 0, .slice none 0 0].toArray 68) := HK1.out.stay HY2.out
  have HJ2 : Hid (Blk W2 W1.heap.size [.string ⟨#[97]⟩, .int .i64 1, .bool false, .int .i64 0, .int .i64 0, .string ⟨#[]⟩, .string ⟨#[]⟩, .bool false, .int .u8 0, .bool false, .slice none 0 0, .slice none 0 0].toArray 40) := by (show Blk _ _ _ _); rw [HW2.out]; exact Blk.new _ _ _
  have c2 : W2.cell? ⟨w.heap.size, 2, none⟩ = some (.int .i64 5) := HJ0.out.cell 2 rfl
  have HO := cv_orderTruth x hx W2
  go_enter Tryz.func46, Tryz.ntmps46
  go_upto_region 1 with fail
  rw [← HW1.out]
  go_upto_region 2 with fail
  rw [← HW2.out]
  clear c1
  go_wp2_with (first
    | (guard_target =~ wpList _ _ _ (Oper.mk (some 36) _ _ _ _ _ :: _) _ _; refine wpList_load_mid rfl 40 (.tmp 5) rfl W1.heap.size 0 rfl [.string ⟨#[97]⟩, .int .i64 1, .bool false, .int .i64 0, .int .i64 0, .string ⟨#[]⟩, .string ⟨#[]⟩, .bool false, .int .u8 0, .bool false, .slice none 0 0, .slice none 0 0] _ HJ2.out.all Tryz.underlying40 rfl (by rfl) ?_)
    | (guard_target =~ wpList _ _ _ (Oper.mk (some 37) _ _ _ _ _ :: _) _ _; refine wpList_load_mid rfl 56 (.tmp 3) rfl w.heap.size 0 rfl [.int .i64 3, .string ⟨#[97]⟩, .int .i64 5, .int .i64 1, .int .i64 x, .string ⟨#[]⟩, .bool false, .complex .f64 0 0, .int .i64 0] _ HJ0.out.all Tryz.underlying56 rfl (by rfl) ?_))
  refine HO.mono ?_
  rintro e w3 ⟨ht3, hb3⟩
  obtain ⟨v, u, rfl, hv, hu⟩ := ht3.out
  obtain ⟨ga, ka, hva⟩ := hv.form
  obtain ⟨gc, kc, hvc⟩ := hu.form
  subst hva hvc
  have HX3 : Hid (Below w.heap.size w w3) := HX2.out.trans (hb3.mono HX2.out.size)
  have HL1 : Hid (Blk w3 (w.heap.size + 1) [.slice none 0 0, .slice none 0 0].toArray 68) := HJ1.out.stay hb3
  have HV : Hid (Box1 w3 w.heap.size (.slice (some ⟨ga, 0, none⟩) 1 ka) [.string ⟨#[97]⟩, .int .i64 1, .bool false, .int .i64 (-9223372036854775808), .int .i64 (x - 1), .string ⟨#[]⟩, .string ⟨#[]⟩, .bool false, .int .u8 0, .bool false, .slice none 0 0, .slice none 0 0]) := hv.lower HX2.out.size
  have HU : Hid (Box1 w3 w.heap.size (.slice (some ⟨gc, 0, none⟩) 1 kc) [.string ⟨#[97]⟩, .int .i64 1, .bool true, .int .i64 x, .int .i64 9223372036854775807, .string ⟨#[]⟩, .string ⟨#[]⟩, .bool false, .int .u8 0, .bool false, .slice none 0 0, .slice none 0 0]) := hu.lower HX2.out.size
  clear ht3 hb3 hv hu HO c2
  go_wp2_with (guard_target =~ wpList _ _ _ (Oper.mk none (Op.store _ _ _) _ _ _ _ :: _) _ _; refine wpList_store_all rfl 68 (.tmp 4) (.tmp 38) rfl (w.heap.size + 1) [.slice (some ⟨ga, 0, none⟩) 1 ka, .slice (some ⟨gc, 0, none⟩) 1 kc] rfl rfl [.slice none 0 0, .slice none 0 0] 68 HL1.out rfl info_truth (by intro u hu; simp only [List.mem_cons, List.not_mem_nil, or_false] at hu; rcases hu with rfl | rfl <;> rfl) ?_; intro w4 hk4 hg4; have HK4 : Hid (Blk w4 (w.heap.size + 1) [.slice (some ⟨ga, 0, none⟩) 1 ka, .slice (some ⟨gc, 0, none⟩) 1 kc].toArray 68) := hk4; have HX4 : Hid (Below w.heap.size w w4) := below_set HX3.out hg4 (Nat.le_succ _) HX3.out.size; have HV4 : Hid (Box1 w4 w.heap.size (.slice (some ⟨ga, 0, none⟩) 1 ka) [.string ⟨#[97]⟩, .int .i64 1, .bool false, .int .i64 (-9223372036854775808), .int .i64 (x - 1), .string ⟨#[]⟩, .string ⟨#[]⟩, .bool false, .int .u8 0, .bool false, .slice none 0 0, .slice none 0 0]) := HV.out.grown hg4 HL1.out; have HU4 : Hid (Box1 w4 w.heap.size (.slice (some ⟨gc, 0, none⟩) 1 kc) [.string ⟨#[97]⟩, .int .i64 1, .bool true, .int .i64 x, .int .i64 9223372036854775807, .string ⟨#[]⟩, .string ⟨#[]⟩, .bool false, .int .u8 0, .bool false, .slice none 0 0, .slice none 0 0]) := HU.out.grown hg4 HL1.out; clear hk4 hg4)
  refine bodyPost_ret (results_atomTruth (cs := [.slice (some ⟨ga, 0, none⟩) 1 ka, .slice (some ⟨gc, 0, none⟩) 1 kc]) (by rfl) HK4.out rfl) rfl ?_
  exact ⟨⟨_, _, rfl, HV4.out, HU4.out⟩, HX4.out⟩
end Go.Proofs.YtnfeklebfnlgkaaGreat
