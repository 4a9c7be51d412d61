/- cover: told, orNone, between, of sides of whole numbers. -/
import Derived.Test.YtnfeklebfnlgkaaGreatCvL1
namespace Go.Proofs.YtnfeklebfnlgkaaGreat
open Go.RowKit

set_option maxRecDepth 100000 in
set_option maxHeartbeats 2000000 in
theorem cv_toldW (nm : ByteArray) (ab : Bool) (lo hi : Int) (fr to : ByteArray) (op : Bool) (tr : Int) (no : Bool) (ia : Option Addr) (il ic : Nat) (oa : Option Addr) (ol oc : Nat) (hlh : lo ≤ hi) (w : World) : Calls Tryz.prog 81 #[.agg #[.string nm, .int .i64 1, .bool ab, .int .i64 lo, .int .i64 hi, .string fr, .string to, .bool op, .int .u8 tr, .bool no, .slice ia il ic, .slice oa ol oc]] w fun e w' => e = .returned (.agg #[.string nm, .int .i64 1, .bool ab, .int .i64 lo, .int .i64 hi, .string fr, .string to, .bool op, .int .u8 tr, .bool no, .slice ia il ic, .slice oa ol oc]) ∧ Below w.heap.size w w' := by
  obtain ⟨W1, HW1⟩ : ∃ W1, Hid (W1 = (w.alloc (.cells #[.string nm, .int .i64 1, .bool ab, .int .i64 lo, .int .i64 hi, .string fr, .string to, .bool op, .int .u8 tr, .bool no, .slice ia il ic, .slice oa ol oc] 40)).alloc (.cells #[.string ⟨#[]⟩, .int .i64 0, .bool false, .int .i64 0, .int .i64 0, .string ⟨#[]⟩, .string ⟨#[]⟩, .bool false, .int .u8 0, .bool false, .slice none 0 0, .slice none 0 0] 40)) := ⟨_, rfl⟩
  have HB : Hid (Below w.heap.size w W1) := by (show Below _ _ _); rw [HW1.out]; exact (below_alloc _ _).trans ((below_alloc _ _).mono (below_alloc _ _).size)
  have HK0 : Hid (Blk W1 w.heap.size [.string nm, .int .i64 1, .bool ab, .int .i64 lo, .int .i64 hi, .string fr, .string to, .bool op, .int .u8 tr, .bool no, .slice ia il ic, .slice oa ol oc].toArray 40) := by (show Blk _ _ _ _); rw [HW1.out]; exact (Blk.new w _ _).stay (below_alloc _ _)
  have HK1 : Hid (Blk W1 (w.heap.size + 1) [.string ⟨#[]⟩, .int .i64 0, .bool false, .int .i64 0, .int .i64 0, .string ⟨#[]⟩, .string ⟨#[]⟩, .bool false, .int .u8 0, .bool false, .slice none 0 0, .slice none 0 0].toArray 40) := by
    (show Blk _ _ _ _); rw [HW1.out]
    have := Blk.new (w.alloc (.cells #[.string nm, .int .i64 1, .bool ab, .int .i64 lo, .int .i64 hi, .string fr, .string to, .bool op, .int .u8 tr, .bool no, .slice ia il ic, .slice oa ol oc] 40)) #[.string ⟨#[]⟩, .int .i64 0, .bool false, .int .i64 0, .int .i64 0, .string ⟨#[]⟩, .string ⟨#[]⟩, .bool false, .int .u8 0, .bool false, .slice none 0 0, .slice none 0 0] 40
    simpa using this
  have HN := cv_nothingW nm ab lo hi fr to op tr no ia il ic oa ol oc W1
  rw [show decide (hi < lo) = false from by simp; omega] at HN
  go_enter Tryz.func81, Tryz.ntmps81
  go_upto_region 1 with fail
  rw [← HW1.out]
  go_wp2_with (guard_target =~ wpList _ _ _ (Oper.mk (some 3) _ _ _ _ _ :: _) _ _; refine wpList_load_mid rfl 40 (.tmp 1) rfl w.heap.size 0 rfl [.string nm, .int .i64 1, .bool ab, .int .i64 lo, .int .i64 hi, .string fr, .string to, .bool op, .int .u8 tr, .bool no, .slice ia il ic, .slice oa ol oc] _ HK0.out.all Tryz.underlying40 rfl (by rfl) ?_)
  refine HN.mono ?_
  rintro e w2 ⟨rfl, hb2⟩
  have HB2 : Hid (Below w.heap.size w w2) := HB.out.trans (hb2.mono HB.out.size)
  have HK2 : Hid (Blk w2 w.heap.size [.string nm, .int .i64 1, .bool ab, .int .i64 lo, .int .i64 hi, .string fr, .string to, .bool op, .int .u8 tr, .bool no, .slice ia il ic, .slice oa ol oc].toArray 40) := HK0.out.stay hb2
  have HK3 : Hid (Blk w2 (w.heap.size + 1) [.string ⟨#[]⟩, .int .i64 0, .bool false, .int .i64 0, .int .i64 0, .string ⟨#[]⟩, .string ⟨#[]⟩, .bool false, .int .u8 0, .bool false, .slice none 0 0, .slice none 0 0].toArray 40) := HK1.out.stay hb2
  clear hb2 HN
  go_wp2_with (first
    | (guard_target =~ wpList _ _ _ (Oper.mk (some 6) _ _ _ _ _ :: _) _ _; refine wpList_load_mid rfl 40 (.tmp 1) rfl w.heap.size 0 rfl [.string nm, .int .i64 1, .bool ab, .int .i64 lo, .int .i64 hi, .string fr, .string to, .bool op, .int .u8 tr, .bool no, .slice ia il ic, .slice oa ol oc] _ HK2.out.all Tryz.underlying40 rfl (by rfl) ?_)
    | (guard_target =~ wpList _ _ _ (Oper.mk none (Op.store 40 _ _) _ _ _ _ :: _) _ _; refine wpList_store_all rfl 40 (.tmp 2) (.tmp 6) rfl (w.heap.size + 1) [.string nm, .int .i64 1, .bool ab, .int .i64 lo, .int .i64 hi, .string fr, .string to, .bool op, .int .u8 tr, .bool no, .slice ia il ic, .slice oa ol oc] rfl rfl [.string ⟨#[]⟩, .int .i64 0, .bool false, .int .i64 0, .int .i64 0, .string ⟨#[]⟩, .string ⟨#[]⟩, .bool false, .int .u8 0, .bool false, .slice none 0 0, .slice none 0 0] 40 HK3.out rfl info_Side (by intro u hu; simp only [List.mem_cons, List.not_mem_nil, or_false] at hu; rcases hu with rfl | rfl | rfl | rfl | rfl | rfl | rfl | rfl | rfl | rfl | rfl | rfl <;> rfl) ?_; intro w3 hkS hgS; have HKS : Hid (Blk w3 (w.heap.size + 1) [.string nm, .int .i64 1, .bool ab, .int .i64 lo, .int .i64 hi, .string fr, .string to, .bool op, .int .u8 tr, .bool no, .slice ia il ic, .slice oa ol oc].toArray 40) := hkS; have HBS : Hid (Below w.heap.size w w3) := below_set HB2.out hgS (Nat.le_succ _) HB2.out.size; clear hkS hgS))
  refine bodyPost_ret (results_told (by rfl) HKS.out rfl) rfl ?_
  exact ⟨rfl, HBS.out⟩
set_option maxRecDepth 100000 in
set_option maxHeartbeats 2000000 in
theorem cv_orNone (nm : ByteArray) (kd : Int) (ab : Bool) (lo hi : Int) (fr to : ByteArray) (op : Bool) (tr : Int) (no : Bool) (ia : Option Addr) (il ic : Nat) (oa : Option Addr) (ol oc : Nat) (w : World) : Calls Tryz.prog 66 #[.agg #[.string nm, .int .i64 kd, .bool ab, .int .i64 lo, .int .i64 hi, .string fr, .string to, .bool op, .int .u8 tr, .bool no, .slice ia il ic, .slice oa ol oc]] w fun e w' => e = .returned (.agg #[.string nm, .int .i64 kd, .bool true, .int .i64 lo, .int .i64 hi, .string fr, .string to, .bool op, .int .u8 tr, .bool no, .slice ia il ic, .slice oa ol oc]) ∧ Below w.heap.size w w' := by
  obtain ⟨W1, HW1⟩ : ∃ W1, Hid (W1 = (w.alloc (.cells #[.string nm, .int .i64 kd, .bool ab, .int .i64 lo, .int .i64 hi, .string fr, .string to, .bool op, .int .u8 tr, .bool no, .slice ia il ic, .slice oa ol oc] 40)).alloc (.cells #[.string ⟨#[]⟩, .int .i64 0, .bool false, .int .i64 0, .int .i64 0, .string ⟨#[]⟩, .string ⟨#[]⟩, .bool false, .int .u8 0, .bool false, .slice none 0 0, .slice none 0 0] 40)) := ⟨_, rfl⟩
  have HB : Hid (Below w.heap.size w W1) := by (show Below _ _ _); rw [HW1.out]; exact (below_alloc _ _).trans ((below_alloc _ _).mono (below_alloc _ _).size)
  have HK0 : Hid (Blk W1 w.heap.size [.string nm, .int .i64 kd, .bool ab, .int .i64 lo, .int .i64 hi, .string fr, .string to, .bool op, .int .u8 tr, .bool no, .slice ia il ic, .slice oa ol oc].toArray 40) := by (show Blk _ _ _ _); rw [HW1.out]; exact (Blk.new w _ _).stay (below_alloc _ _)
  have HK1 : Hid (Blk W1 (w.heap.size + 1) [.string ⟨#[]⟩, .int .i64 0, .bool false, .int .i64 0, .int .i64 0, .string ⟨#[]⟩, .string ⟨#[]⟩, .bool false, .int .u8 0, .bool false, .slice none 0 0, .slice none 0 0].toArray 40) := by
    (show Blk _ _ _ _); rw [HW1.out]
    have := Blk.new (w.alloc (.cells #[.string nm, .int .i64 kd, .bool ab, .int .i64 lo, .int .i64 hi, .string fr, .string to, .bool op, .int .u8 tr, .bool no, .slice ia il ic, .slice oa ol oc] 40)) #[.string ⟨#[]⟩, .int .i64 0, .bool false, .int .i64 0, .int .i64 0, .string ⟨#[]⟩, .string ⟨#[]⟩, .bool false, .int .u8 0, .bool false, .slice none 0 0, .slice none 0 0] 40
    simpa using this
  have c2 : W1.cell? ⟨w.heap.size, 2, none⟩ = some (.bool ab) := HK0.out.cell 2 rfl
  have f2 : W1.frozen? ⟨w.heap.size, 2, none⟩ = false := HK0.out.free 2
  obtain ⟨W2, HW2⟩ : ∃ W2, Hid (W2 = W1.setCell ⟨w.heap.size, 2, none⟩ (.bool true)) := ⟨_, rfl⟩
  have HB2 : Hid (Below w.heap.size w W2) := by (show Below _ _ _); rw [HW2.out]; exact HB.out.setCell (Nat.le_refl _) _
  have HK2 : Hid (Blk W2 w.heap.size [.string nm, .int .i64 kd, .bool true, .int .i64 lo, .int .i64 hi, .string fr, .string to, .bool op, .int .u8 tr, .bool no, .slice ia il ic, .slice oa ol oc].toArray 40) := by (show Blk _ _ _ _); rw [HW2.out]; exact HK0.out.set 2 _
  have HK3 : Hid (Blk W2 (w.heap.size + 1) [.string ⟨#[]⟩, .int .i64 0, .bool false, .int .i64 0, .int .i64 0, .string ⟨#[]⟩, .string ⟨#[]⟩, .bool false, .int .u8 0, .bool false, .slice none 0 0, .slice none 0 0].toArray 40) := by (show Blk _ _ _ _); rw [HW2.out]; exact HK1.out.other _ _ (fun e => by have e' : w.heap.size + 1 = w.heap.size := e; omega)
  go_enter Tryz.func66, Tryz.ntmps66
  go_upto_region 1 with fail
  rw [← HW1.out]
  go_upto_region 2 with fail
  rw [← HW2.out]
  clear c2 f2
  go_wp2_with (first
    | (guard_target =~ wpList _ _ _ (Oper.mk (some 4) _ _ _ _ _ :: _) _ _; refine wpList_load_mid rfl 40 (.tmp 1) rfl w.heap.size 0 rfl [.string nm, .int .i64 kd, .bool true, .int .i64 lo, .int .i64 hi, .string fr, .string to, .bool op, .int .u8 tr, .bool no, .slice ia il ic, .slice oa ol oc] _ HK2.out.all Tryz.underlying40 rfl (by rfl) ?_)
    | (guard_target =~ wpList _ _ _ (Oper.mk none (Op.store 40 _ _) _ _ _ _ :: _) _ _; refine wpList_store_all rfl 40 (.tmp 2) (.tmp 4) rfl (w.heap.size + 1) [.string nm, .int .i64 kd, .bool true, .int .i64 lo, .int .i64 hi, .string fr, .string to, .bool op, .int .u8 tr, .bool no, .slice ia il ic, .slice oa ol oc] rfl rfl [.string ⟨#[]⟩, .int .i64 0, .bool false, .int .i64 0, .int .i64 0, .string ⟨#[]⟩, .string ⟨#[]⟩, .bool false, .int .u8 0, .bool false, .slice none 0 0, .slice none 0 0] 40 HK3.out rfl info_Side (by intro u hu; simp only [List.mem_cons, List.not_mem_nil, or_false] at hu; rcases hu with rfl | rfl | rfl | rfl | rfl | rfl | rfl | rfl | rfl | rfl | rfl | rfl <;> rfl) ?_; intro w3 hkS hgS; have HKS : Hid (Blk w3 (w.heap.size + 1) [.string nm, .int .i64 kd, .bool true, .int .i64 lo, .int .i64 hi, .string fr, .string to, .bool op, .int .u8 tr, .bool no, .slice ia il ic, .slice oa ol oc].toArray 40) := hkS; have HBS : Hid (Below w.heap.size w w3) := below_set HB2.out hgS (Nat.le_succ _) HB2.out.size; clear hkS hgS))
  refine bodyPost_ret (results_orNone (by rfl) HKS.out rfl) rfl ?_
  exact ⟨rfl, HBS.out⟩
set_option maxRecDepth 100000 in
set_option maxHeartbeats 4000000 in
theorem cv_wholeBetween (nm : ByteArray) (kd : Int) (ab : Bool) (lo hi : Int) (fr to : ByteArray) (op : Bool) (tr : Int) (no : Bool) (ia : Option Addr) (il ic : Nat) (oa : Option Addr) (ol oc : Nat) (k x : Int) (p q : Bool) (l y : Int) (r t : Bool) (hx : -1000 ≤ x ∧ x ≤ 1000) (hy : -1000 ≤ y ∧ y ≤ 1000) (w : World) : Calls Tryz.prog 97 #[.agg #[.string nm, .int .i64 kd, .bool ab, .int .i64 lo, .int .i64 hi, .string fr, .string to, .bool op, .int .u8 tr, .bool no, .slice ia il ic, .slice oa ol oc], .agg #[.int .i64 k, .int .i64 x, .string ⟨#[]⟩, .bool false, .complex .f64 0 0, .bool p, .bool q], .agg #[.int .i64 l, .int .i64 y, .string ⟨#[]⟩, .bool false, .complex .f64 0 0, .bool r, .bool t]] w fun e w' => e = .returned (.agg #[.string nm, .int .i64 kd, .bool ab, .int .i64 (fstW p q x), .int .i64 (lstW r t y), .string fr, .string to, .bool op, .int .u8 tr, .bool no, .slice ia il ic, .slice oa ol oc]) ∧ Below w.heap.size w w' := by
  obtain ⟨W1, HW1⟩ : ∃ W1, Hid (W1 = (((w.alloc (.cells #[.string nm, .int .i64 kd, .bool ab, .int .i64 lo, .int .i64 hi, .string fr, .string to, .bool op, .int .u8 tr, .bool no, .slice ia il ic, .slice oa ol oc] 40)).alloc (.cells #[.int .i64 k, .int .i64 x, .string ⟨#[]⟩, .bool false, .complex .f64 0 0, .bool p, .bool q] 102)).alloc (.cells #[.int .i64 l, .int .i64 y, .string ⟨#[]⟩, .bool false, .complex .f64 0 0, .bool r, .bool t] 102)).alloc (.cells #[.string ⟨#[]⟩, .int .i64 0, .bool false, .int .i64 0, .int .i64 0, .string ⟨#[]⟩, .string ⟨#[]⟩, .bool false, .int .u8 0, .bool false, .slice none 0 0, .slice none 0 0] 40)) := ⟨_, rfl⟩
  have hb1 := below_alloc w (.cells #[.string nm, .int .i64 kd, .bool ab, .int .i64 lo, .int .i64 hi, .string fr, .string to, .bool op, .int .u8 tr, .bool no, .slice ia il ic, .slice oa ol oc] 40)
  have hb2 := below_alloc (w.alloc (.cells #[.string nm, .int .i64 kd, .bool ab, .int .i64 lo, .int .i64 hi, .string fr, .string to, .bool op, .int .u8 tr, .bool no, .slice ia il ic, .slice oa ol oc] 40)) (.cells #[.int .i64 k, .int .i64 x, .string ⟨#[]⟩, .bool false, .complex .f64 0 0, .bool p, .bool q] 102)
  have hb3 := below_alloc ((w.alloc (.cells #[.string nm, .int .i64 kd, .bool ab, .int .i64 lo, .int .i64 hi, .string fr, .string to, .bool op, .int .u8 tr, .bool no, .slice ia il ic, .slice oa ol oc] 40)).alloc (.cells #[.int .i64 k, .int .i64 x, .string ⟨#[]⟩, .bool false, .complex .f64 0 0, .bool p, .bool q] 102)) (.cells #[.int .i64 l, .int .i64 y, .string ⟨#[]⟩, .bool false, .complex .f64 0 0, .bool r, .bool t] 102)
  have hb4 := below_alloc (((w.alloc (.cells #[.string nm, .int .i64 kd, .bool ab, .int .i64 lo, .int .i64 hi, .string fr, .string to, .bool op, .int .u8 tr, .bool no, .slice ia il ic, .slice oa ol oc] 40)).alloc (.cells #[.int .i64 k, .int .i64 x, .string ⟨#[]⟩, .bool false, .complex .f64 0 0, .bool p, .bool q] 102)).alloc (.cells #[.int .i64 l, .int .i64 y, .string ⟨#[]⟩, .bool false, .complex .f64 0 0, .bool r, .bool t] 102)) (.cells #[.string ⟨#[]⟩, .int .i64 0, .bool false, .int .i64 0, .int .i64 0, .string ⟨#[]⟩, .string ⟨#[]⟩, .bool false, .int .u8 0, .bool false, .slice none 0 0, .slice none 0 0] 40)
  have HB : Hid (Below w.heap.size w W1) := by (show Below _ _ _); rw [HW1.out]; exact ((hb1.trans (hb2.mono hb1.size)).trans (hb3.mono (Nat.le_trans hb1.size hb2.size))).trans (hb4.mono (Nat.le_trans hb1.size (Nat.le_trans hb2.size hb3.size)))
  have HK0 : Hid (Blk W1 w.heap.size [.string nm, .int .i64 kd, .bool ab, .int .i64 lo, .int .i64 hi, .string fr, .string to, .bool op, .int .u8 tr, .bool no, .slice ia il ic, .slice oa ol oc].toArray 40) := by (show Blk _ _ _ _); rw [HW1.out]; exact (((Blk.new w _ _).stay hb2).stay hb3).stay hb4
  have HK1 : Hid (Blk W1 (w.heap.size + 1) [.int .i64 k, .int .i64 x, .string ⟨#[]⟩, .bool false, .complex .f64 0 0, .bool p, .bool q].toArray 102) := by
    (show Blk _ _ _ _); rw [HW1.out]
    have := ((Blk.new (w.alloc (.cells #[.string nm, .int .i64 kd, .bool ab, .int .i64 lo, .int .i64 hi, .string fr, .string to, .bool op, .int .u8 tr, .bool no, .slice ia il ic, .slice oa ol oc] 40)) #[.int .i64 k, .int .i64 x, .string ⟨#[]⟩, .bool false, .complex .f64 0 0, .bool p, .bool q] 102).stay hb3).stay hb4
    simpa using this
  have HK2 : Hid (Blk W1 (w.heap.size + 2) [.int .i64 l, .int .i64 y, .string ⟨#[]⟩, .bool false, .complex .f64 0 0, .bool r, .bool t].toArray 102) := by
    (show Blk _ _ _ _); rw [HW1.out]
    have := (Blk.new ((w.alloc (.cells #[.string nm, .int .i64 kd, .bool ab, .int .i64 lo, .int .i64 hi, .string fr, .string to, .bool op, .int .u8 tr, .bool no, .slice ia il ic, .slice oa ol oc] 40)).alloc (.cells #[.int .i64 k, .int .i64 x, .string ⟨#[]⟩, .bool false, .complex .f64 0 0, .bool p, .bool q] 102)) #[.int .i64 l, .int .i64 y, .string ⟨#[]⟩, .bool false, .complex .f64 0 0, .bool r, .bool t] 102).stay hb4
    simpa using this
  have HK3 : Hid (Blk W1 (w.heap.size + 3) [.string ⟨#[]⟩, .int .i64 0, .bool false, .int .i64 0, .int .i64 0, .string ⟨#[]⟩, .string ⟨#[]⟩, .bool false, .int .u8 0, .bool false, .slice none 0 0, .slice none 0 0].toArray 40) := by
    (show Blk _ _ _ _); rw [HW1.out]
    have := Blk.new (((w.alloc (.cells #[.string nm, .int .i64 kd, .bool ab, .int .i64 lo, .int .i64 hi, .string fr, .string to, .bool op, .int .u8 tr, .bool no, .slice ia il ic, .slice oa ol oc] 40)).alloc (.cells #[.int .i64 k, .int .i64 x, .string ⟨#[]⟩, .bool false, .complex .f64 0 0, .bool p, .bool q] 102)).alloc (.cells #[.int .i64 l, .int .i64 y, .string ⟨#[]⟩, .bool false, .complex .f64 0 0, .bool r, .bool t] 102)) #[.string ⟨#[]⟩, .int .i64 0, .bool false, .int .i64 0, .int .i64 0, .string ⟨#[]⟩, .string ⟨#[]⟩, .bool false, .int .u8 0, .bool false, .slice none 0 0, .slice none 0 0] 40
    simpa using this
  clear hb1 hb2 hb3 hb4
  go_enter Tryz.func97, Tryz.ntmps97
  go_upto_region 1 with fail
  rw [← HW1.out]
  go_wp2_with (guard_target =~ wpList _ _ _ (Oper.mk (some 12) _ _ _ _ _ :: _) _ _; refine wpList_load_mid rfl 102 (.tmp 4) rfl (w.heap.size + 1) 0 rfl [.int .i64 k, .int .i64 x, .string ⟨#[]⟩, .bool false, .complex .f64 0 0, .bool p, .bool q] _ HK1.out.all Tryz.underlying102 rfl (by rfl) ?_)
  refine (cv_first k p q x hx W1).mono ?_
  rintro e w2 ⟨rfl, hb2⟩
  have HX2 : Hid (Below W1.heap.size W1 w2) := hb2
  have HJ2 : Hid (Blk w2 (w.heap.size + 2) [.int .i64 l, .int .i64 y, .string ⟨#[]⟩, .bool false, .complex .f64 0 0, .bool r, .bool t].toArray 102) := HK2.out.stay hb2
  clear hb2
  go_wp2_with (guard_target =~ wpList _ _ _ (Oper.mk (some 17) _ _ _ _ _ :: _) _ _; refine wpList_load_mid rfl 102 (.tmp 5) rfl (w.heap.size + 2) 0 rfl [.int .i64 l, .int .i64 y, .string ⟨#[]⟩, .bool false, .complex .f64 0 0, .bool r, .bool t] _ HJ2.out.all Tryz.underlying102 rfl (by rfl) ?_)
  refine (cv_last l r t y hy w2).mono ?_
  rintro e w3 ⟨rfl, hb3⟩
  have HX3 : Hid (Below W1.heap.size W1 w3) := HX2.out.trans (hb3.mono HX2.out.size)
  have HB3 : Hid (Below w.heap.size w w3) := HB.out.trans (HX3.out.mono HB.out.size)
  have HJ0 : Hid (Blk w3 w.heap.size [.string nm, .int .i64 kd, .bool ab, .int .i64 lo, .int .i64 hi, .string fr, .string to, .bool op, .int .u8 tr, .bool no, .slice ia il ic, .slice oa ol oc].toArray 40) := HK0.out.stay HX3.out
  have HJ3 : Hid (Blk w3 (w.heap.size + 3) [.string ⟨#[]⟩, .int .i64 0, .bool false, .int .i64 0, .int .i64 0, .string ⟨#[]⟩, .string ⟨#[]⟩, .bool false, .int .u8 0, .bool false, .slice none 0 0, .slice none 0 0].toArray 40) := HK3.out.stay HX3.out
  clear hb3
  have c3 : w3.cell? ⟨w.heap.size, 3, none⟩ = some (.int .i64 lo) := HJ0.out.cell 3 rfl
  have c4 : w3.cell? ⟨w.heap.size, 4, none⟩ = some (.int .i64 hi) := HJ0.out.cell 4 rfl
  have f3 : w3.frozen? ⟨w.heap.size, 3, none⟩ = false := HJ0.out.free 3
  have f4 : w3.frozen? ⟨w.heap.size, 4, none⟩ = false := HJ0.out.free 4
  obtain ⟨lo', HLO⟩ : ∃ lo', Hid (lo' = fstW p q x) := ⟨_, rfl⟩
  obtain ⟨hi', HHI⟩ : ∃ hi', Hid (hi' = lstW r t y) := ⟨_, rfl⟩
  rw [← HLO.out, ← HHI.out]
  obtain ⟨W4, HW4⟩ : ∃ W4, Hid (W4 = (w3.setCell ⟨w.heap.size, 3, none⟩ (.int .i64 lo')).setCell ⟨w.heap.size, 4, none⟩ (.int .i64 hi')) := ⟨_, rfl⟩
  have HB4 : Hid (Below w.heap.size w W4) := by (show Below _ _ _); rw [HW4.out]; exact (HB3.out.setCell (Nat.le_refl _) _).setCell (Nat.le_refl _) _
  have HI0 : Hid (Blk W4 w.heap.size [.string nm, .int .i64 kd, .bool ab, .int .i64 lo', .int .i64 hi', .string fr, .string to, .bool op, .int .u8 tr, .bool no, .slice ia il ic, .slice oa ol oc].toArray 40) := by (show Blk _ _ _ _); rw [HW4.out]; exact (HJ0.out.set 3 _).set 4 _
  have HI3 : Hid (Blk W4 (w.heap.size + 3) [.string ⟨#[]⟩, .int .i64 0, .bool false, .int .i64 0, .int .i64 0, .string ⟨#[]⟩, .string ⟨#[]⟩, .bool false, .int .u8 0, .bool false, .slice none 0 0, .slice none 0 0].toArray 40) := by
    have hne : w.heap.size + 3 ≠ w.heap.size := by omega
    (show Blk _ _ _ _); rw [HW4.out]; exact (HJ3.out.other _ _ hne).other _ _ hne
  go_upto_region 6 with fail
  rw [← HW4.out]
  clear c3 c4 f3 f4
  go_wp2_with (first
    | (guard_target =~ wpList _ _ _ (Oper.mk (some 33) _ _ _ _ _ :: _) _ _; refine wpList_load_mid rfl 40 (.tmp 3) rfl w.heap.size 0 rfl [.string nm, .int .i64 kd, .bool ab, .int .i64 lo', .int .i64 hi', .string fr, .string to, .bool op, .int .u8 tr, .bool no, .slice ia il ic, .slice oa ol oc] _ HI0.out.all Tryz.underlying40 rfl (by rfl) ?_)
    | (guard_target =~ wpList _ _ _ (Oper.mk none (Op.store 40 _ _) _ _ _ _ :: _) _ _; refine wpList_store_all rfl 40 (.tmp 6) (.tmp 33) rfl (w.heap.size + 3) [.string nm, .int .i64 kd, .bool ab, .int .i64 lo', .int .i64 hi', .string fr, .string to, .bool op, .int .u8 tr, .bool no, .slice ia il ic, .slice oa ol oc] rfl rfl [.string ⟨#[]⟩, .int .i64 0, .bool false, .int .i64 0, .int .i64 0, .string ⟨#[]⟩, .string ⟨#[]⟩, .bool false, .int .u8 0, .bool false, .slice none 0 0, .slice none 0 0] 40 HI3.out rfl info_Side (by intro u hu; simp only [List.mem_cons, List.not_mem_nil, or_false] at hu; rcases hu with rfl | rfl | rfl | rfl | rfl | rfl | rfl | rfl | rfl | rfl | rfl | rfl <;> rfl) ?_; intro w5 hkS hgS; have HKS : Hid (Blk w5 (w.heap.size + 3) [.string nm, .int .i64 kd, .bool ab, .int .i64 lo', .int .i64 hi', .string fr, .string to, .bool op, .int .u8 tr, .bool no, .slice ia il ic, .slice oa ol oc].toArray 40) := hkS; have HBS : Hid (Below w.heap.size w w5) := below_set HB4.out hgS (Nat.le_add_right _ _) HB4.out.size; clear hkS hgS))
  refine bodyPost_ret (results_wholeBetween (by rfl) HKS.out rfl) rfl ?_
  exact ⟨by rw [HLO.out, HHI.out], HBS.out⟩
set_option maxRecDepth 100000 in
set_option maxHeartbeats 4000000 in
theorem cv_between (nm : ByteArray) (ab : Bool) (lo hi : Int) (fr to : ByteArray) (op : Bool) (tr : Int) (no : Bool) (ia : Option Addr) (il ic : Nat) (oa : Option Addr) (ol oc : Nat) (k x : Int) (p q : Bool) (l y : Int) (r t : Bool) (hx : -1000 ≤ x ∧ x ≤ 1000) (hy : -1000 ≤ y ∧ y ≤ 1000) (w : World) : Calls Tryz.prog 82 #[.agg #[.string nm, .int .i64 1, .bool ab, .int .i64 lo, .int .i64 hi, .string fr, .string to, .bool op, .int .u8 tr, .bool no, .slice ia il ic, .slice oa ol oc], .agg #[.int .i64 k, .int .i64 x, .string ⟨#[]⟩, .bool false, .complex .f64 0 0, .bool p, .bool q], .agg #[.int .i64 l, .int .i64 y, .string ⟨#[]⟩, .bool false, .complex .f64 0 0, .bool r, .bool t]] w fun e w' => e = .returned (.agg #[.string nm, .int .i64 1, .bool ab, .int .i64 (fstW p q x), .int .i64 (lstW r t y), .string fr, .string to, .bool op, .int .u8 tr, .bool no, .slice ia il ic, .slice oa ol oc]) ∧ Below w.heap.size w w' := by
  obtain ⟨W1, HW1⟩ : ∃ W1, Hid (W1 = (((w.alloc (.cells #[.string nm, .int .i64 1, .bool ab, .int .i64 lo, .int .i64 hi, .string fr, .string to, .bool op, .int .u8 tr, .bool no, .slice ia il ic, .slice oa ol oc] 40)).alloc (.cells #[.int .i64 k, .int .i64 x, .string ⟨#[]⟩, .bool false, .complex .f64 0 0, .bool p, .bool q] 102)).alloc (.cells #[.int .i64 l, .int .i64 y, .string ⟨#[]⟩, .bool false, .complex .f64 0 0, .bool r, .bool t] 102)).alloc (.cells #[.string ⟨#[]⟩, .int .i64 0, .bool false, .int .i64 0, .int .i64 0, .string ⟨#[]⟩, .string ⟨#[]⟩, .bool false, .int .u8 0, .bool false, .slice none 0 0, .slice none 0 0] 40)) := ⟨_, rfl⟩
  have hb1 := below_alloc w (.cells #[.string nm, .int .i64 1, .bool ab, .int .i64 lo, .int .i64 hi, .string fr, .string to, .bool op, .int .u8 tr, .bool no, .slice ia il ic, .slice oa ol oc] 40)
  have hb2 := below_alloc (w.alloc (.cells #[.string nm, .int .i64 1, .bool ab, .int .i64 lo, .int .i64 hi, .string fr, .string to, .bool op, .int .u8 tr, .bool no, .slice ia il ic, .slice oa ol oc] 40)) (.cells #[.int .i64 k, .int .i64 x, .string ⟨#[]⟩, .bool false, .complex .f64 0 0, .bool p, .bool q] 102)
  have hb3 := below_alloc ((w.alloc (.cells #[.string nm, .int .i64 1, .bool ab, .int .i64 lo, .int .i64 hi, .string fr, .string to, .bool op, .int .u8 tr, .bool no, .slice ia il ic, .slice oa ol oc] 40)).alloc (.cells #[.int .i64 k, .int .i64 x, .string ⟨#[]⟩, .bool false, .complex .f64 0 0, .bool p, .bool q] 102)) (.cells #[.int .i64 l, .int .i64 y, .string ⟨#[]⟩, .bool false, .complex .f64 0 0, .bool r, .bool t] 102)
  have hb4 := below_alloc (((w.alloc (.cells #[.string nm, .int .i64 1, .bool ab, .int .i64 lo, .int .i64 hi, .string fr, .string to, .bool op, .int .u8 tr, .bool no, .slice ia il ic, .slice oa ol oc] 40)).alloc (.cells #[.int .i64 k, .int .i64 x, .string ⟨#[]⟩, .bool false, .complex .f64 0 0, .bool p, .bool q] 102)).alloc (.cells #[.int .i64 l, .int .i64 y, .string ⟨#[]⟩, .bool false, .complex .f64 0 0, .bool r, .bool t] 102)) (.cells #[.string ⟨#[]⟩, .int .i64 0, .bool false, .int .i64 0, .int .i64 0, .string ⟨#[]⟩, .string ⟨#[]⟩, .bool false, .int .u8 0, .bool false, .slice none 0 0, .slice none 0 0] 40)
  have HB : Hid (Below w.heap.size w W1) := by (show Below _ _ _); rw [HW1.out]; exact ((hb1.trans (hb2.mono hb1.size)).trans (hb3.mono (Nat.le_trans hb1.size hb2.size))).trans (hb4.mono (Nat.le_trans hb1.size (Nat.le_trans hb2.size hb3.size)))
  have HK0 : Hid (Blk W1 w.heap.size [.string nm, .int .i64 1, .bool ab, .int .i64 lo, .int .i64 hi, .string fr, .string to, .bool op, .int .u8 tr, .bool no, .slice ia il ic, .slice oa ol oc].toArray 40) := by (show Blk _ _ _ _); rw [HW1.out]; exact (((Blk.new w _ _).stay hb2).stay hb3).stay hb4
  have HK1 : Hid (Blk W1 (w.heap.size + 1) [.int .i64 k, .int .i64 x, .string ⟨#[]⟩, .bool false, .complex .f64 0 0, .bool p, .bool q].toArray 102) := by
    (show Blk _ _ _ _); rw [HW1.out]
    have := ((Blk.new (w.alloc (.cells #[.string nm, .int .i64 1, .bool ab, .int .i64 lo, .int .i64 hi, .string fr, .string to, .bool op, .int .u8 tr, .bool no, .slice ia il ic, .slice oa ol oc] 40)) #[.int .i64 k, .int .i64 x, .string ⟨#[]⟩, .bool false, .complex .f64 0 0, .bool p, .bool q] 102).stay hb3).stay hb4
    simpa using this
  have HK2 : Hid (Blk W1 (w.heap.size + 2) [.int .i64 l, .int .i64 y, .string ⟨#[]⟩, .bool false, .complex .f64 0 0, .bool r, .bool t].toArray 102) := by
    (show Blk _ _ _ _); rw [HW1.out]
    have := (Blk.new ((w.alloc (.cells #[.string nm, .int .i64 1, .bool ab, .int .i64 lo, .int .i64 hi, .string fr, .string to, .bool op, .int .u8 tr, .bool no, .slice ia il ic, .slice oa ol oc] 40)).alloc (.cells #[.int .i64 k, .int .i64 x, .string ⟨#[]⟩, .bool false, .complex .f64 0 0, .bool p, .bool q] 102)) #[.int .i64 l, .int .i64 y, .string ⟨#[]⟩, .bool false, .complex .f64 0 0, .bool r, .bool t] 102).stay hb4
    simpa using this
  have HK3 : Hid (Blk W1 (w.heap.size + 3) [.string ⟨#[]⟩, .int .i64 0, .bool false, .int .i64 0, .int .i64 0, .string ⟨#[]⟩, .string ⟨#[]⟩, .bool false, .int .u8 0, .bool false, .slice none 0 0, .slice none 0 0].toArray 40) := by
    (show Blk _ _ _ _); rw [HW1.out]
    have := Blk.new (((w.alloc (.cells #[.string nm, .int .i64 1, .bool ab, .int .i64 lo, .int .i64 hi, .string fr, .string to, .bool op, .int .u8 tr, .bool no, .slice ia il ic, .slice oa ol oc] 40)).alloc (.cells #[.int .i64 k, .int .i64 x, .string ⟨#[]⟩, .bool false, .complex .f64 0 0, .bool p, .bool q] 102)).alloc (.cells #[.int .i64 l, .int .i64 y, .string ⟨#[]⟩, .bool false, .complex .f64 0 0, .bool r, .bool t] 102)) #[.string ⟨#[]⟩, .int .i64 0, .bool false, .int .i64 0, .int .i64 0, .string ⟨#[]⟩, .string ⟨#[]⟩, .bool false, .int .u8 0, .bool false, .slice none 0 0, .slice none 0 0] 40
    simpa using this
  clear hb1 hb2 hb3 hb4
  have c1 : W1.cell? ⟨w.heap.size, 1, none⟩ = some (.int .i64 1) := HK0.out.cell 1 rfl
  have HWB := cv_wholeBetween nm 1 ab lo hi fr to op tr no ia il ic oa ol oc k x p q l y r t hx hy W1
  obtain ⟨lo', HLO⟩ : ∃ lo', Hid (lo' = fstW p q x) := ⟨_, rfl⟩
  obtain ⟨hi', HHI⟩ : ∃ hi', Hid (hi' = lstW r t y) := ⟨_, rfl⟩
  rw [← HLO.out, ← HHI.out] at HWB ⊢
  go_enter Tryz.func82, Tryz.ntmps82
  go_upto_region 1 with fail
  rw [← HW1.out]
  go_wp2_with (first
    | (guard_target =~ wpList _ _ _ (Oper.mk (some 10) _ _ _ _ _ :: _) _ _; refine wpList_load_mid rfl 40 (.tmp 3) rfl w.heap.size 0 rfl [.string nm, .int .i64 1, .bool ab, .int .i64 lo, .int .i64 hi, .string fr, .string to, .bool op, .int .u8 tr, .bool no, .slice ia il ic, .slice oa ol oc] _ HK0.out.all Tryz.underlying40 rfl (by rfl) ?_)
    | (guard_target =~ wpList _ _ _ (Oper.mk (some 11) _ _ _ _ _ :: _) _ _; refine wpList_load_mid rfl 102 (.tmp 4) rfl (w.heap.size + 1) 0 rfl [.int .i64 k, .int .i64 x, .string ⟨#[]⟩, .bool false, .complex .f64 0 0, .bool p, .bool q] _ HK1.out.all Tryz.underlying102 rfl (by rfl) ?_)
    | (guard_target =~ wpList _ _ _ (Oper.mk (some 12) _ _ _ _ _ :: _) _ _; refine wpList_load_mid rfl 102 (.tmp 5) rfl (w.heap.size + 2) 0 rfl [.int .i64 l, .int .i64 y, .string ⟨#[]⟩, .bool false, .complex .f64 0 0, .bool r, .bool t] _ HK2.out.all Tryz.underlying102 rfl (by rfl) ?_))
  refine HWB.mono ?_
  rintro e w2 ⟨rfl, hb2⟩
  have HB2 : Hid (Below w.heap.size w w2) := HB.out.trans (hb2.mono HB.out.size)
  have HJ3 : Hid (Blk w2 (w.heap.size + 3) [.string ⟨#[]⟩, .int .i64 0, .bool false, .int .i64 0, .int .i64 0, .string ⟨#[]⟩, .string ⟨#[]⟩, .bool false, .int .u8 0, .bool false, .slice none 0 0, .slice none 0 0].toArray 40) := HK3.out.stay hb2
  clear hb2 HWB c1
  go_wp2_with (guard_target =~ wpList _ _ _ (Oper.mk none (Op.store 40 _ _) _ _ _ _ :: _) _ _; refine wpList_store_all rfl 40 (.tmp 6) (.tmp 13) rfl (w.heap.size + 3) [.string nm, .int .i64 1, .bool ab, .int .i64 lo', .int .i64 hi', .string fr, .string to, .bool op, .int .u8 tr, .bool no, .slice ia il ic, .slice oa ol oc] rfl rfl [.string ⟨#[]⟩, .int .i64 0, .bool false, .int .i64 0, .int .i64 0, .string ⟨#[]⟩, .string ⟨#[]⟩, .bool false, .int .u8 0, .bool false, .slice none 0 0, .slice none 0 0] 40 HJ3.out rfl info_Side (by intro u hu; simp only [List.mem_cons, List.not_mem_nil, or_false] at hu; rcases hu with rfl | rfl | rfl | rfl | rfl | rfl | rfl | rfl | rfl | rfl | rfl | rfl <;> rfl) ?_; intro w5 hkS hgS; have HKS : Hid (Blk w5 (w.heap.size + 3) [.string nm, .int .i64 1, .bool ab, .int .i64 lo', .int .i64 hi', .string fr, .string to, .bool op, .int .u8 tr, .bool no, .slice ia il ic, .slice oa ol oc].toArray 40) := hkS; have HBS : Hid (Below w.heap.size w w5) := below_set HB2.out hgS (Nat.le_add_right _ _) HB2.out.size; clear hkS hgS)
  refine bodyPost_ret (results_between (by rfl) HKS.out rfl) rfl ?_
  exact ⟨rfl, HBS.out⟩
end Go.Proofs.YtnfeklebfnlgkaaGreat
