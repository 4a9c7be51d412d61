/- cover: pastLimits of a truth of one box of one side each. -/
import Derived.Test.YtnfeklebfnlgkaaGreatCvL5
namespace Go.Proofs.YtnfeklebfnlgkaaGreat
open Go.RowKit

set_option maxRecDepth 100000 in
theorem cv_tooMany (ab : Bool) (lo hi : Int) (w : World) : Calls Tryz.prog 21 #[.agg #[.string ⟨#[97]⟩, .int .i64 1, .bool ab, .int .i64 lo, .int .i64 hi, .string ⟨#[]⟩, .string ⟨#[]⟩, .bool false, .int .u8 0, .bool false, .slice none 0 0, .slice none 0 0]] w fun e w' => e = .returned (.bool false) ∧ Below w.heap.size w w' := by
  have hb := below_alloc w (.cells #[.string ⟨#[97]⟩, .int .i64 1, .bool ab, .int .i64 lo, .int .i64 hi, .string ⟨#[]⟩, .string ⟨#[]⟩, .bool false, .int .u8 0, .bool false, .slice none 0 0, .slice none 0 0] 40)
  go_enter Tryz.func21, Tryz.ntmps21
  go_wp2
  go_returns
  exact ⟨rfl, hb⟩
set_option maxRecDepth 100000 in
set_option maxHeartbeats 2000000 in
theorem cv_idxMany (ab : Bool) (lo hi : Int) (g c : Nat) (w : World) (hb : Blk w g [.string ⟨#[97]⟩, .int .i64 1, .bool ab, .int .i64 lo, .int .i64 hi, .string ⟨#[]⟩, .string ⟨#[]⟩, .bool false, .int .u8 0, .bool false, .slice none 0 0, .slice none 0 0].toArray 40) : Calls Tryz.prog 39 #[.slice (some ⟨g, 0, none⟩) 1 c, .func (.func 21) #[] #[]] w fun e w' => e = .returned (.int .i64 (-1)) ∧ Below w.heap.size w w' := by
  have HG : Hid (Blk w g [.string ⟨#[97]⟩, .int .i64 1, .bool ab, .int .i64 lo, .int .i64 hi, .string ⟨#[]⟩, .string ⟨#[]⟩, .bool false, .int .u8 0, .bool false, .slice none 0 0, .slice none 0 0].toArray 40) := hb
  have HT := cv_tooMany ab lo hi w
  clear hb
  go_enter Tryz.func39, Tryz.ntmps39
  go_wp2_with fail
  refine wp_loop_rounds 2 ?_
  rw [rounds_succ]
  go_wp2_with (guard_target =~ wpList _ _ _ (Oper.mk (some 15) _ _ _ _ _ :: _) _ _; refine wpList_load_mid rfl 40 (.tmp 14) rfl g 0 rfl [.string ⟨#[97]⟩, .int .i64 1, .bool ab, .int .i64 lo, .int .i64 hi, .string ⟨#[]⟩, .string ⟨#[]⟩, .bool false, .int .u8 0, .bool false, .slice none 0 0, .slice none 0 0] _ HG.out.all Tryz.underlying40 rfl (by rfl) ?_)
  refine HT.mono ?_
  rintro e w1 ⟨rfl, hb1⟩
  have HB1 : Hid (Below w.heap.size w w1) := hb1
  clear hb1 HT
  go_wp2_with fail
  rw [rounds_succ]
  go_wp2
  go_returns
  exact ⟨rfl, HB1.out⟩
set_option maxRecDepth 100000 in
theorem cv_conMany (ab : Bool) (lo hi : Int) (g c : Nat) (w : World) (hb : Blk w g [.string ⟨#[97]⟩, .int .i64 1, .bool ab, .int .i64 lo, .int .i64 hi, .string ⟨#[]⟩, .string ⟨#[]⟩, .bool false, .int .u8 0, .bool false, .slice none 0 0, .slice none 0 0].toArray 40) : Calls Tryz.prog 26 #[.slice (some ⟨g, 0, none⟩) 1 c, .func (.func 21) #[] #[]] w fun e w' => e = .returned (.bool false) ∧ Below w.heap.size w w' := by
  have HI := cv_idxMany ab lo hi g c w hb
  clear hb
  go_enter Tryz.func26, Tryz.ntmps26
  go_wp2_with fail
  refine HI.mono ?_
  rintro e w1 ⟨rfl, hb1⟩
  have HB1 : Hid (Below w.heap.size w w1) := hb1
  clear hb1 HI
  go_wp2
  go_returns
  exact ⟨rfl, HB1.out⟩
set_option maxRecDepth 100000 in
theorem cv_crowded (ab : Bool) (lo hi : Int) (g c : Nat) (w : World) (hb : Blk w g [.string ⟨#[97]⟩, .int .i64 1, .bool ab, .int .i64 lo, .int .i64 hi, .string ⟨#[]⟩, .string ⟨#[]⟩, .bool false, .int .u8 0, .bool false, .slice none 0 0, .slice none 0 0].toArray 40) : Calls Tryz.prog 51 #[.slice (some ⟨g, 0, none⟩) 1 c] w fun e w' => e = .returned (.bool false) ∧ Below w.heap.size w w' := by
  have HI := cv_conMany ab lo hi g c w hb
  clear hb
  go_enter Tryz.func51, Tryz.ntmps51
  go_wp2_with fail
  refine HI.mono ?_
  rintro e w1 ⟨rfl, hb1⟩
  have HB1 : Hid (Below w.heap.size w w1) := hb1
  clear hb1 HI
  go_wp2
  go_returns
  exact ⟨rfl, HB1.out⟩
set_option maxRecDepth 100000 in
set_option maxHeartbeats 2000000 in
theorem cv_idxCrowd (ab : Bool) (lo hi : Int) (B : Nat) (v : Value) (w : World) (hb : Box1 w B v [.string ⟨#[97]⟩, .int .i64 1, .bool ab, .int .i64 lo, .int .i64 hi, .string ⟨#[]⟩, .string ⟨#[]⟩, .bool false, .int .u8 0, .bool false, .slice none 0 0, .slice none 0 0]) : Calls Tryz.prog 53 #[v, .func (.func 51) #[] #[]] w fun e w' => e = .returned (.int .i64 (-1)) ∧ Below w.heap.size w w' := by
  obtain ⟨gb, cb, gx, cur, rfl, _, _, h4, h5, h6⟩ := hb
  have c0 : w.cell? ⟨gb, 0, none⟩ = some (.slice (some ⟨gx, 0, none⟩) 1 1) := h4.cell 0 (by
    have h : (cur.toList.take 1)[0]? = some (.slice (some ⟨gx, 0, none⟩) 1 1) := by rw [h5]; rfl
    rw [List.getElem?_take_of_lt (by omega)] at h
    simpa using h)
  have HT := cv_crowded ab lo hi gx 1 w h6
  clear h4 h5 h6
  go_enter Tryz.func53, Tryz.ntmps53
  go_wp2_with fail
  refine wp_loop_rounds 2 ?_
  rw [rounds_succ]
  go_wp2_with fail
  refine HT.mono ?_
  rintro e w1 ⟨rfl, hb1⟩
  have HB1 : Hid (Below w.heap.size w w1) := hb1
  clear hb1 HT c0
  go_wp2_with fail
  rw [rounds_succ]
  go_wp2
  go_returns
  exact ⟨rfl, HB1.out⟩
set_option maxRecDepth 100000 in
theorem cv_conCrowd (ab : Bool) (lo hi : Int) (B : Nat) (v : Value) (w : World) (hb : Box1 w B v [.string ⟨#[97]⟩, .int .i64 1, .bool ab, .int .i64 lo, .int .i64 hi, .string ⟨#[]⟩, .string ⟨#[]⟩, .bool false, .int .u8 0, .bool false, .slice none 0 0, .slice none 0 0]) : Calls Tryz.prog 32 #[v, .func (.func 51) #[] #[]] w fun e w' => e = .returned (.bool false) ∧ Below w.heap.size w w' := by
  have HI := cv_idxCrowd ab lo hi B v w hb
  clear hb
  go_enter Tryz.func32, Tryz.ntmps32
  go_wp2_with fail
  refine HI.mono ?_
  rintro e w1 ⟨rfl, hb1⟩
  have HB1 : Hid (Below w.heap.size w w1) := hb1
  clear hb1 HI
  go_wp2
  go_returns
  exact ⟨rfl, HB1.out⟩
set_option maxRecDepth 100000 in
set_option maxHeartbeats 2000000 in
theorem cv_over (ab : Bool) (lo hi : Int) (B : Nat) (v : Value) (bx : Nat) (w : World) (hb : Box1 w B v [.string ⟨#[97]⟩, .int .i64 1, .bool ab, .int .i64 lo, .int .i64 hi, .string ⟨#[]⟩, .string ⟨#[]⟩, .bool false, .int .u8 0, .bool false, .slice none 0 0, .slice none 0 0]) (hf : Blk w bx #[.func (.func 51) #[] #[]] 26) : Calls Tryz.prog 52 #[v, .pointer (some ⟨bx, 0, none⟩)] w fun e w' => e = .returned (.bool false) ∧ Below w.heap.size w w' := by
  have HC := cv_conCrowd ab lo hi B v w hb
  obtain ⟨gb, cb, hv⟩ := hb.form
  subst hv
  have f0 : w.cell? ⟨bx, 0, none⟩ = some (.func (.func 51) #[] #[]) := hf.cell 0 rfl
  clear hb hf
  go_enter Tryz.func52, Tryz.ntmps52
  go_wp2_with fail
  refine HC.mono ?_
  rintro e w1 ⟨rfl, hb1⟩
  have HB1 : Hid (Below w.heap.size w w1) := hb1
  clear hb1 HC f0
  go_wp2
  go_returns
  exact ⟨rfl, HB1.out⟩
set_option maxRecDepth 100000 in
set_option maxHeartbeats 4000000 in
theorem cv_pastLimits (ab : Bool) (lo hi : Int) (ab2 : Bool) (lo2 hi2 : Int) (B : Nat) (v u : Value) (w : World) (hv : Box1 w B v [.string ⟨#[97]⟩, .int .i64 1, .bool ab, .int .i64 lo, .int .i64 hi, .string ⟨#[]⟩, .string ⟨#[]⟩, .bool false, .int .u8 0, .bool false, .slice none 0 0, .slice none 0 0]) (hu : Box1 w B u [.string ⟨#[97]⟩, .int .i64 1, .bool ab2, .int .i64 lo2, .int .i64 hi2, .string ⟨#[]⟩, .string ⟨#[]⟩, .bool false, .int .u8 0, .bool false, .slice none 0 0, .slice none 0 0]) : Calls Tryz.prog 31 #[.agg #[v, u]] w fun e w' => e = .returned (.bool false) ∧ Below w.heap.size w w' := by
  obtain ⟨ga, ka, hva⟩ := hv.form
  obtain ⟨gc, kc, hvc⟩ := hu.form
  subst hva hvc
  have HV : Hid (Box1 w B (.slice (some ⟨ga, 0, none⟩) 1 ka) [.string ⟨#[97]⟩, .int .i64 1, .bool ab, .int .i64 lo, .int .i64 hi, .string ⟨#[]⟩, .string ⟨#[]⟩, .bool false, .int .u8 0, .bool false, .slice none 0 0, .slice none 0 0]) := hv
  have HU : Hid (Box1 w B (.slice (some ⟨gc, 0, none⟩) 1 kc) [.string ⟨#[97]⟩, .int .i64 1, .bool ab2, .int .i64 lo2, .int .i64 hi2, .string ⟨#[]⟩, .string ⟨#[]⟩, .bool false, .int .u8 0, .bool false, .slice none 0 0, .slice none 0 0]) := hu
  obtain ⟨W1, HW1⟩ : ∃ W1, Hid (W1 = (w.alloc (.cells #[.slice (some ⟨ga, 0, none⟩) 1 ka, .slice (some ⟨gc, 0, none⟩) 1 kc] 68)).alloc (.cells #[.func (.func 51) #[] #[]] 26)) := ⟨_, rfl⟩
  have hb1 := below_alloc w (.cells #[.slice (some ⟨ga, 0, none⟩) 1 ka, .slice (some ⟨gc, 0, none⟩) 1 kc] 68)
  have hb2 := below_alloc (w.alloc (.cells #[.slice (some ⟨ga, 0, none⟩) 1 ka, .slice (some ⟨gc, 0, none⟩) 1 kc] 68)) (.cells #[.func (.func 51) #[] #[]] 26)
  have HX1 : Hid (Below w.heap.size w W1) := by (show Below _ _ _); rw [HW1.out]; exact hb1.trans (hb2.mono hb1.size)
  have HK0 : Hid (Blk W1 w.heap.size #[.slice (some ⟨ga, 0, none⟩) 1 ka, .slice (some ⟨gc, 0, none⟩) 1 kc] 68) := by (show Blk _ _ _ _); rw [HW1.out]; exact (Blk.new w _ _).stay hb2
  have HK1 : Hid (Blk W1 (w.heap.size + 1) #[.func (.func 51) #[] #[]] 26) := by
    (show Blk _ _ _ _); rw [HW1.out]
    have := Blk.new (w.alloc (.cells #[.slice (some ⟨ga, 0, none⟩) 1 ka, .slice (some ⟨gc, 0, none⟩) 1 kc] 68)) #[.func (.func 51) #[] #[]] 26
    simpa using this
  clear hb1 hb2 hv hu
  have c0 : W1.cell? ⟨w.heap.size, 0, none⟩ = some (.slice (some ⟨ga, 0, none⟩) 1 ka) := HK0.out.cell 0 rfl
  have HA := cv_over ab lo hi B _ (w.heap.size + 1) W1 (HV.out.below HX1.out) HK1.out
  have hfx : ∀ (a : Addr) (m : Mode) (W : World), (store a (.func (.func 51) #[] #[]) m).run Tryz.prog W = stored Tryz.prog W a (.func (.func 51) #[] #[]) m := fun a m W => run_store _ _ _ _ _ rfl
  go_enter Tryz.func31, Tryz.ntmps31
  go_upto_region 2 with fail
  rw [← HW1.out]
  clear hfx
  go_wp2_with fail
  refine HA.mono ?_
  rintro e w2 ⟨rfl, hb2⟩
  have HX2 : Hid (Below w.heap.size w w2) := HX1.out.trans (hb2.mono HX1.out.size)
  have c1 : w2.cell? ⟨w.heap.size, 1, none⟩ = some (.slice (some ⟨gc, 0, none⟩) 1 kc) := (HK0.out.stay hb2).cell 1 rfl
  have HC := cv_over ab2 lo2 hi2 B _ (w.heap.size + 1) w2 (HU.out.below HX2.out) (HK1.out.stay hb2)
  clear hb2 HA c0
  go_wp2_with fail
  refine HC.mono ?_
  rintro e w3 ⟨rfl, hb3⟩
  have HX3 : Hid (Below w.heap.size w w3) := HX2.out.trans (hb3.mono HX2.out.size)
  clear hb3 HC c1
  go_wp2
  go_returns
  exact ⟨rfl, HX3.out⟩
end Go.Proofs.YtnfeklebfnlgkaaGreat
