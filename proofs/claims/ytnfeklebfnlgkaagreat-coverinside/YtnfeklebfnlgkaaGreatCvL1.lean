/- cover: borders; sides of whole numbers. -/
import Derived.Test.YtnfeklebfnlgkaaGreatCvM
namespace Go.Proofs.YtnfeklebfnlgkaaGreat
open Go.RowKit

def fstW (p q : Bool) (x : Int) : Int := if q then -9223372036854775808 else if p then x + 1 else x
def lstW (p q : Bool) (x : Int) : Int := if q then 9223372036854775807 else if p then x else x - 1
/-- A border ahead of a whole number, or past it, or nowhere. -/
def bdc (p q : Bool) (x : Int) : List Value := [.int .i64 (if q then 0 else 1), .int .i64 (if q then 0 else x), .string ⟨#[]⟩, .bool false, .complex .f64 0 0, .bool p, .bool q]
set_option maxRecDepth 100000 in
theorem cv_first (k : Int) (p q : Bool) (x : Int) (hx : -1000 ≤ x ∧ x ≤ 1000) (w : World) : Calls Tryz.prog 105 #[.agg #[.int .i64 k, .int .i64 x, .string ⟨#[]⟩, .bool false, .complex .f64 0 0, .bool p, .bool q]] w fun e w' => e = .returned (.tuple #[.int .i64 (fstW p q x), .bool true]) ∧ Below w.heap.size w w' := by
  have hb := below_alloc w (.cells #[.int .i64 k, .int .i64 x, .string ⟨#[]⟩, .bool false, .complex .f64 0 0, .bool p, .bool q] 102)
  have e1 : (x == 9223372036854775807) = false := by rw [beq_eq_false_iff_ne]; omega
  cases q with
  | true =>
    go_enter Tryz.func105, Tryz.ntmps105
    go_wp2
    go_returns
    exact ⟨rfl, hb⟩
  | false =>
    cases p with
    | false =>
      go_enter Tryz.func105, Tryz.ntmps105
      go_wp2
      go_returns
      exact ⟨rfl, hb⟩
    | true =>
      go_enter Tryz.func105, Tryz.ntmps105
      go_wp2
      go_returns
      exact ⟨by simp [fstW], hb⟩
set_option maxRecDepth 100000 in
theorem cv_last (k : Int) (p q : Bool) (x : Int) (hx : -1000 ≤ x ∧ x ≤ 1000) (w : World) : Calls Tryz.prog 106 #[.agg #[.int .i64 k, .int .i64 x, .string ⟨#[]⟩, .bool false, .complex .f64 0 0, .bool p, .bool q]] w fun e w' => e = .returned (.tuple #[.int .i64 (lstW p q x), .bool true]) ∧ Below w.heap.size w w' := by
  have hb := below_alloc w (.cells #[.int .i64 k, .int .i64 x, .string ⟨#[]⟩, .bool false, .complex .f64 0 0, .bool p, .bool q] 102)
  have e1 : (x == -9223372036854775808) = false := by rw [beq_eq_false_iff_ne]; omega
  cases q with
  | true =>
    go_enter Tryz.func106, Tryz.ntmps106
    go_wp2
    go_returns
    exact ⟨rfl, hb⟩
  | false =>
    cases p with
    | false =>
      go_enter Tryz.func106, Tryz.ntmps106
      go_wp2
      go_returns
      exact ⟨by simp [lstW], hb⟩
    | true =>
      go_enter Tryz.func106, Tryz.ntmps106
      go_wp2
      go_returns
      exact ⟨rfl, hb⟩
set_option maxRecDepth 100000 in
theorem cv_nowhere (w : World) : Calls Tryz.prog 83 #[] w fun e w' => e = .returned (.agg #[.int .i64 0, .int .i64 0, .string ⟨#[]⟩, .bool false, .complex .f64 0 0, .bool false, .bool true]) ∧ Below w.heap.size w w' := by
  have hb := below_alloc w (.cells #[.int .i64 0, .int .i64 0, .string ⟨#[]⟩, .bool false, .complex .f64 0 0, .bool false, .bool false] 102)
  have hk := Blk.new w #[.int .i64 0, .int .i64 0, .string ⟨#[]⟩, .bool false, .complex .f64 0 0, .bool false, .bool false] 102
  go_enter Tryz.func83, Tryz.ntmps83
  go_wp2_with (guard_target =~ wpList _ _ _ (Oper.mk none (Op.store _ _ _) _ _ _ _ :: _) _ _; refine wpList_store_all rfl 102 (.tmp 0) (.tmp 1) rfl w.heap.size [.int .i64 0, .int .i64 0, .string ⟨#[]⟩, .bool false, .complex .f64 0 0, .bool false, .bool true] rfl rfl [.int .i64 0, .int .i64 0, .string ⟨#[]⟩, .bool false, .complex .f64 0 0, .bool false, .bool false] 102 hk rfl info_border (by decide) ?_)
  intro w2 hk2 hg2
  have HK : Hid (Blk w2 w.heap.size [.int .i64 0, .int .i64 0, .string ⟨#[]⟩, .bool false, .complex .f64 0 0, .bool false, .bool true].toArray 102) := hk2
  have HB : Hid (Below w.heap.size w w2) := below_set hb hg2 (Nat.le_refl _) hb.size
  clear hk2 hg2 hb hk
  go_wp2
  refine bodyPost_ret (results_nowhere (by rfl) HK.out rfl) rfl ?_
  exact ⟨rfl, HB.out⟩
-- ahead, past.
set_option maxRecDepth 100000 in
theorem cv_ahead (k x : Int) (w : World) : Calls Tryz.prog 85 #[.agg #[.int .i64 k, .int .i64 x, .string ⟨#[]⟩, .bool false, .complex .f64 0 0]] w fun e w' => e = .returned (.agg #[.int .i64 k, .int .i64 x, .string ⟨#[]⟩, .bool false, .complex .f64 0 0, .bool false, .bool false]) ∧ Below w.heap.size w w' := by
  obtain ⟨W1, HW1⟩ : ∃ W1, Hid (W1 = (w.alloc (.cells #[.int .i64 k, .int .i64 x, .string ⟨#[]⟩, .bool false, .complex .f64 0 0] 54)).alloc (.cells #[.int .i64 0, .int .i64 0, .string ⟨#[]⟩, .bool false, .complex .f64 0 0, .bool false, .bool false] 102)) := ⟨_, rfl⟩
  have hb : Below w.heap.size w W1 := by rw [HW1.out]; exact (below_alloc _ _).trans ((below_alloc _ _).mono (below_alloc _ _).size)
  have hk : Blk W1 (w.heap.size + 1) #[.int .i64 0, .int .i64 0, .string ⟨#[]⟩, .bool false, .complex .f64 0 0, .bool false, .bool false] 102 := by
    rw [HW1.out]
    have := Blk.new (w.alloc (.cells #[.int .i64 k, .int .i64 x, .string ⟨#[]⟩, .bool false, .complex .f64 0 0] 54)) #[.int .i64 0, .int .i64 0, .string ⟨#[]⟩, .bool false, .complex .f64 0 0, .bool false, .bool false] 102
    simpa using this
  have HB : Hid (Below w.heap.size w W1) := hb
  have HK : Hid (Blk W1 (w.heap.size + 1) #[.int .i64 0, .int .i64 0, .string ⟨#[]⟩, .bool false, .complex .f64 0 0, .bool false, .bool false] 102) := hk
  have HR : Hid (W1.rangeAt w.heap.size 0 [.int .i64 k, .int .i64 x, .string ⟨#[]⟩, .bool false, .complex .f64 0 0]) := by
    have h1 : Blk W1 w.heap.size [.int .i64 k, .int .i64 x, .string ⟨#[]⟩, .bool false, .complex .f64 0 0].toArray 54 := by rw [HW1.out]; exact (Blk.new w _ _).stay (below_alloc _ _)
    exact h1.all
  clear hb hk
  go_enter Tryz.func85, Tryz.ntmps85
  go_upto_region 1 with fail
  rw [← HW1.out]
  go_wp2_with (first
    | (guard_target =~ wpList _ _ _ (Oper.mk (some 3) _ _ _ _ _ :: _) _ _; refine wpList_load_mid rfl 54 (.tmp 1) rfl w.heap.size 0 rfl [.int .i64 k, .int .i64 x, .string ⟨#[]⟩, .bool false, .complex .f64 0 0] _ HR.out Tryz.underlying54 rfl (by rfl) ?_)
    | (guard_target =~ wpList _ _ _ (Oper.mk none (Op.store _ _ _) _ _ _ _ :: _) _ _; refine wpList_store_all rfl 102 (.tmp 2) (.tmp 4) rfl (w.heap.size + 1) [.int .i64 k, .int .i64 x, .string ⟨#[]⟩, .bool false, .complex .f64 0 0, .bool false, .bool false] rfl rfl [.int .i64 0, .int .i64 0, .string ⟨#[]⟩, .bool false, .complex .f64 0 0, .bool false, .bool false] 102 HK.out rfl info_border (by intro u hu; simp only [List.mem_cons, List.not_mem_nil, or_false] at hu; rcases hu with rfl | rfl | rfl | rfl | rfl | rfl | rfl <;> rfl) ?_; intro w2 hk2 hg2; have HK2 : Hid (Blk w2 (w.heap.size + 1) [.int .i64 k, .int .i64 x, .string ⟨#[]⟩, .bool false, .complex .f64 0 0, .bool false, .bool false].toArray 102) := hk2; have HB2 : Hid (Below w.heap.size w w2) := below_set HB.out hg2 (Nat.le_succ _) HB.out.size; clear hk2 hg2))
  refine bodyPost_ret (results_ahead (by rfl) HK2.out rfl) rfl ?_
  exact ⟨rfl, HB2.out⟩
set_option maxRecDepth 100000 in
theorem cv_past (k x : Int) (w : World) : Calls Tryz.prog 86 #[.agg #[.int .i64 k, .int .i64 x, .string ⟨#[]⟩, .bool false, .complex .f64 0 0]] w fun e w' => e = .returned (.agg #[.int .i64 k, .int .i64 x, .string ⟨#[]⟩, .bool false, .complex .f64 0 0, .bool true, .bool false]) ∧ Below w.heap.size w w' := by
  obtain ⟨W1, HW1⟩ : ∃ W1, Hid (W1 = (w.alloc (.cells #[.int .i64 k, .int .i64 x, .string ⟨#[]⟩, .bool false, .complex .f64 0 0] 54)).alloc (.cells #[.int .i64 0, .int .i64 0, .string ⟨#[]⟩, .bool false, .complex .f64 0 0, .bool false, .bool false] 102)) := ⟨_, rfl⟩
  have hb : Below w.heap.size w W1 := by rw [HW1.out]; exact (below_alloc _ _).trans ((below_alloc _ _).mono (below_alloc _ _).size)
  have hk : Blk W1 (w.heap.size + 1) #[.int .i64 0, .int .i64 0, .string ⟨#[]⟩, .bool false, .complex .f64 0 0, .bool false, .bool false] 102 := by
    rw [HW1.out]
    have := Blk.new (w.alloc (.cells #[.int .i64 k, .int .i64 x, .string ⟨#[]⟩, .bool false, .complex .f64 0 0] 54)) #[.int .i64 0, .int .i64 0, .string ⟨#[]⟩, .bool false, .complex .f64 0 0, .bool false, .bool false] 102
    simpa using this
  have HB : Hid (Below w.heap.size w W1) := hb
  have HK : Hid (Blk W1 (w.heap.size + 1) #[.int .i64 0, .int .i64 0, .string ⟨#[]⟩, .bool false, .complex .f64 0 0, .bool false, .bool false] 102) := hk
  have HR : Hid (W1.rangeAt w.heap.size 0 [.int .i64 k, .int .i64 x, .string ⟨#[]⟩, .bool false, .complex .f64 0 0]) := by
    have h1 : Blk W1 w.heap.size [.int .i64 k, .int .i64 x, .string ⟨#[]⟩, .bool false, .complex .f64 0 0].toArray 54 := by rw [HW1.out]; exact (Blk.new w _ _).stay (below_alloc _ _)
    exact h1.all
  clear hb hk
  go_enter Tryz.func86, Tryz.ntmps86
  go_upto_region 1 with fail
  rw [← HW1.out]
  go_wp2_with (first
    | (guard_target =~ wpList _ _ _ (Oper.mk (some 3) _ _ _ _ _ :: _) _ _; refine wpList_load_mid rfl 54 (.tmp 1) rfl w.heap.size 0 rfl [.int .i64 k, .int .i64 x, .string ⟨#[]⟩, .bool false, .complex .f64 0 0] _ HR.out Tryz.underlying54 rfl (by rfl) ?_)
    | (guard_target =~ wpList _ _ _ (Oper.mk none (Op.store _ _ _) _ _ _ _ :: _) _ _; refine wpList_store_all rfl 102 (.tmp 2) (.tmp 4) rfl (w.heap.size + 1) [.int .i64 k, .int .i64 x, .string ⟨#[]⟩, .bool false, .complex .f64 0 0, .bool true, .bool false] rfl rfl [.int .i64 0, .int .i64 0, .string ⟨#[]⟩, .bool false, .complex .f64 0 0, .bool false, .bool false] 102 HK.out rfl info_border (by intro u hu; simp only [List.mem_cons, List.not_mem_nil, or_false] at hu; rcases hu with rfl | rfl | rfl | rfl | rfl | rfl | rfl <;> rfl) ?_; intro w2 hk2 hg2; have HK2 : Hid (Blk w2 (w.heap.size + 1) [.int .i64 k, .int .i64 x, .string ⟨#[]⟩, .bool false, .complex .f64 0 0, .bool true, .bool false].toArray 102) := hk2; have HB2 : Hid (Below w.heap.size w w2) := below_set HB.out hg2 (Nat.le_succ _) HB.out.size; clear hk2 hg2))
  refine bodyPost_ret (results_past (by rfl) HK2.out rfl) rfl ?_
  exact ⟨rfl, HB2.out⟩
theorem side_cells {w : World} {g : Nat} {kd : Int} {nm : ByteArray} {ab : Bool} {lo hi : Int} {fr to : ByteArray} {op : Bool} {tr : Int} {no : Bool} {iv ov : Value} (h : Blk w g [.string nm, .int .i64 kd, .bool ab, .int .i64 lo, .int .i64 hi, .string fr, .string to, .bool op, .int .u8 tr, .bool no, iv, ov].toArray 40) : w.cell? ⟨g, 0, none⟩ = some (.string nm) ∧ w.cell? ⟨g, 1, none⟩ = some (.int .i64 kd) ∧ w.cell? ⟨g, 2, none⟩ = some (.bool ab) ∧ w.cell? ⟨g, 3, none⟩ = some (.int .i64 lo) ∧ w.cell? ⟨g, 4, none⟩ = some (.int .i64 hi) ∧ w.cell? ⟨g, 5, none⟩ = some (.string fr) ∧ w.cell? ⟨g, 6, none⟩ = some (.string to) ∧ w.cell? ⟨g, 7, none⟩ = some (.bool op) ∧ w.cell? ⟨g, 8, none⟩ = some (.int .u8 tr) ∧ w.cell? ⟨g, 9, none⟩ = some (.bool no) ∧ w.cell? ⟨g, 10, none⟩ = some iv ∧ w.cell? ⟨g, 11, none⟩ = some ov :=
  ⟨h.cell 0 rfl, h.cell 1 rfl, h.cell 2 rfl, h.cell 3 rfl, h.cell 4 rfl, h.cell 5 rfl, h.cell 6 rfl, h.cell 7 rfl, h.cell 8 rfl, h.cell 9 rfl, h.cell 10 rfl, h.cell 11 rfl⟩
/-- A side of whole numbers. -/
theorem cv_nothingW (nm : ByteArray) (ab : Bool) (lo hi : Int) (fr to : ByteArray) (op : Bool) (tr : Int) (no : Bool) (ia : Option Addr) (il ic : Nat) (oa : Option Addr) (ol oc : Nat) (w : World) : Calls Tryz.prog 36 #[.agg #[.string nm, .int .i64 1, .bool ab, .int .i64 lo, .int .i64 hi, .string fr, .string to, .bool op, .int .u8 tr, .bool no, .slice ia il ic, .slice oa ol oc]] w fun e w' => e = .returned (.bool (decide (hi < lo))) ∧ Below w.heap.size w w' := by
  have hb := below_alloc w (.cells #[.string nm, .int .i64 1, .bool ab, .int .i64 lo, .int .i64 hi, .string fr, .string to, .bool op, .int .u8 tr, .bool no, .slice ia il ic, .slice oa ol oc] 40)
  go_enter Tryz.func36, Tryz.ntmps36
  go_wp2
  go_returns
  exact ⟨rfl, hb⟩
set_option maxRecDepth 100000 in
theorem cv_letsW (nm : ByteArray) (ab : Bool) (lo hi : Int) (fr to : ByteArray) (op : Bool) (tr : Int) (no : Bool) (ia : Option Addr) (il ic : Nat) (oa : Option Addr) (ol oc : Nat) (hlh : lo ≤ hi) (w : World) : Calls Tryz.prog 80 #[.agg #[.string nm, .int .i64 1, .bool ab, .int .i64 lo, .int .i64 hi, .string fr, .string to, .bool op, .int .u8 tr, .bool no, .slice ia il ic, .slice oa ol oc]] w fun e w' => e = .returned (.bool false) ∧ Below w.heap.size w w' := by
  obtain ⟨W1, HW1⟩ : ∃ W1, Hid (W1 = w.alloc (.cells #[.string nm, .int .i64 1, .bool ab, .int .i64 lo, .int .i64 hi, .string fr, .string to, .bool op, .int .u8 tr, .bool no, .slice ia il ic, .slice oa ol oc] 40)) := ⟨_, rfl⟩
  have HB : Hid (Below w.heap.size w W1) := by (show Below _ _ _); rw [HW1.out]; exact below_alloc _ _
  have HK : Hid (Blk W1 w.heap.size [.string nm, .int .i64 1, .bool ab, .int .i64 lo, .int .i64 hi, .string fr, .string to, .bool op, .int .u8 tr, .bool no, .slice ia il ic, .slice oa ol oc].toArray 40) := by (show Blk _ _ _ _); rw [HW1.out]; exact Blk.new _ _ _
  have HR : Hid (W1.rangeAt w.heap.size 0 [.string nm, .int .i64 1, .bool ab, .int .i64 lo, .int .i64 hi, .string fr, .string to, .bool op, .int .u8 tr, .bool no, .slice ia il ic, .slice oa ol oc]) := HK.out.all
  have HN := cv_nothingW nm ab lo hi fr to op tr no ia il ic oa ol oc W1
  rw [show decide (hi < lo) = false from by simp; omega] at HN
  obtain ⟨c0, c1, c2, c3, c4, c5, c6, c7, c8, c9, c10, c11⟩ := side_cells HK.out
  cases ab with
  | true =>
    go_enter Tryz.func80, Tryz.ntmps80
    go_upto_region 1 with fail
    rw [← HW1.out]
    go_wp2
    go_returns
    exact ⟨rfl, HB.out⟩
  | false =>
    go_enter Tryz.func80, Tryz.ntmps80
    go_upto_region 1 with fail
    rw [← HW1.out]
    go_wp2_with fail
    refine HN.mono ?_
    rintro e w2 ⟨rfl, hb2⟩
    have HB2 : Hid (Below w.heap.size w w2) := HB.out.trans (hb2.mono HB.out.size)
    clear hb2 c0 c1 c2 c3 c4 c5 c6 c7 c8 c9 c10 c11 HN
    go_wp2
    go_returns
    exact ⟨rfl, HB2.out⟩
end Go.Proofs.YtnfeklebfnlgkaaGreat
