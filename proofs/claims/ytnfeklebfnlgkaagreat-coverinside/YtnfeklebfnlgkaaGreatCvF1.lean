/- value: Check, Apart of two points whose parts are whole numbers that may be. -/
import Derived.Test.YtnfeklebfnlgkaaGreatCvC3
import Derived.Test.YtnfeklebfnlgkaaGreatFlt3
import Derived.Laws.ComplexArith
namespace Go.Proofs.YtnfeklebfnlgkaaGreat
set_option maxRecDepth 100000
open Go.RowKit

/-- A whole number that may be a point's part. -/
def near (n : Int) : Prop := -1048576 ≤ n ∧ n ≤ 1048576
theorem near_abs {n : Int} (h : near n) : n.natAbs < 2 ^ 53 := by unfold near at h; omega
theorem extern_trunc (n : Int) (hn : near n) (w : World) : (callFunc 114 #[.float .f64 (floatOfInt .f64 n)]).run Tryz.prog w = .ok (.value (.float .f64 (floatOfInt .f64 n))) w := by
  rw [run_callFunc_extern Tryz.func114 (by kernel_rfl) (by kernel_rfl) (by kernel_rfl) (e := Extern.MathFloor.toIntegral "math.archTrunc" .zero) (by kernel_rfl), Flt.trunc_whole n (near_abs hn)]
  rfl
theorem math_Trunc (n : Int) (hn : near n) (w : World) : Calls Tryz.prog 112 #[.float .f64 (floatOfInt .f64 n)] w fun e w' => e = .returned (.float .f64 (floatOfInt .f64 n)) ∧ w' = w := by
  have hx := extern_trunc n hn
  generalize floatOfInt .f64 n = x at *
  go_enter Tryz.func112, Tryz.ntmps112
  go_wp2
  go_ret
  exact ⟨rfl, rfl⟩
theorem low_bits : floatOfInt .f64 (-1048576) = 13920626448202203136 := by kernel_rfl
theorem high_bits : floatOfInt .f64 1048576 = 4697254411347427328 := by kernel_rfl
theorem value_isNear (n : Int) (hn : near n) (w : World) : Calls Tryz.prog 111 #[.float .f64 (floatOfInt .f64 n)] w fun e w' => e = .returned (.bool true) ∧ w' = w := by
  have h1 : ((FloatKind.f64.format.order (floatOfInt .f64 n) 13920626448202203136 == some Ordering.gt) || (FloatKind.f64.format.order (floatOfInt .f64 n) 13920626448202203136 == some Ordering.eq)) = true := by
    rw [← low_bits, show FloatKind.f64.format.order (floatOfInt .f64 n) (floatOfInt .f64 (-1048576)) = some (compare n (-1048576)) from Flt.order_whole n _ (near_abs hn) (by decide)]
    rcases Int.lt_or_eq_of_le hn.1 with h | h
    · rw [Int.compare_eq_gt.2 h]; rfl
    · rw [← h]; rfl
  have h2 : ((FloatKind.f64.format.order (floatOfInt .f64 n) 4697254411347427328 == some Ordering.lt) || (FloatKind.f64.format.order (floatOfInt .f64 n) 4697254411347427328 == some Ordering.eq)) = true := by
    rw [← high_bits, show FloatKind.f64.format.order (floatOfInt .f64 n) (floatOfInt .f64 1048576) = some (compare n 1048576) from Flt.order_whole n _ (near_abs hn) (by decide)]
    rcases Int.lt_or_eq_of_le hn.2 with h | h
    · rw [Int.compare_eq_lt.2 h]; rfl
    · rw [h]; rfl
  generalize floatOfInt .f64 n = x at *
  go_enter Tryz.func111, Tryz.ntmps111
  go_wp2
  go_ret
  exact ⟨rfl, rfl⟩
theorem value_isPart (n : Int) (hn : near n) (w : World) : Calls Tryz.prog 104 #[.float .f64 (floatOfInt .f64 n)] w fun e w' => e = .returned (.bool true) ∧ w' = w := by
  have h1 := value_isNear n hn
  have h2 := math_Trunc n hn
  have h3 : FloatKind.f64.format.order (floatOfInt .f64 n) (floatOfInt .f64 n) = some .eq := Flt.order_self n (near_abs hn)
  generalize floatOfInt .f64 n = x at *
  have H1 : Hid (∀ w, Calls Tryz.prog 111 #[.float .f64 x] w fun e w' => e = .returned (.bool true) ∧ w' = w) := h1
  have H2 : Hid (∀ w, Calls Tryz.prog 112 #[.float .f64 x] w fun e w' => e = .returned (.float .f64 x) ∧ w' = w) := h2
  clear h1 h2
  go_enter Tryz.func104, Tryz.ntmps104
  go_wp2_with fail
  refine (H1.out _).mono ?_
  rintro e w1 ⟨rfl, rfl⟩
  go_wp2_with fail
  refine (H2.out _).mono ?_
  rintro e w2 ⟨rfl, rfl⟩
  go_wp2
  go_ret
  exact ⟨rfl, rfl⟩
theorem value_Check_4 (x y : Int) (w : World) (hx : near x) (hy : near y) : Calls Tryz.prog 95 #[.agg #[.int .i64 4, .int .i64 0, .string ⟨#[]⟩, .bool false, .complex .f64 (floatOfInt .f64 x) (floatOfInt .f64 y)]] w fun e w' => e = .returned (.int .i64 0) ∧ Below w.heap.size w w' := by
  have H1 : Hid (∀ w, Calls Tryz.prog 104 #[.float .f64 (floatOfInt .f64 x)] w fun e w' => e = .returned (.bool true) ∧ w' = w) := value_isPart x hx
  have H2 : Hid (∀ w, Calls Tryz.prog 104 #[.float .f64 (floatOfInt .f64 y)] w fun e w' => e = .returned (.bool true) ∧ w' = w) := value_isPart y hy
  generalize floatOfInt .f64 x = X at *
  generalize floatOfInt .f64 y = Y at *
  go_enter Tryz.func95, Tryz.ntmps95
  go_wp2_with fail
  refine (H1.out _).mono ?_
  rintro e w1 ⟨rfl, rfl⟩
  go_wp2_with fail
  refine (H2.out _).mono ?_
  rintro e w2 ⟨rfl, rfl⟩
  go_wp2
  go_ret
  exact ⟨rfl, below_alloc w _⟩
/-- Two blocks, one for each of two values. -/
theorem below_two (w : World) (o p : Obj) : Below w.heap.size w ((w.alloc o).alloc p) := (below_alloc w o).trans ((below_alloc (w.alloc o) p).mono (below_alloc w o).size)
theorem blk_two0 (w : World) (cs : Array Value) (t : TypeId) (p : Obj) : Blk ((w.alloc (.cells cs t)).alloc p) w.heap.size cs t := (Blk.new w cs t).stay (below_alloc _ _)
theorem blk_two1 (w : World) (o : Obj) (cs : Array Value) (t : TypeId) : Blk ((w.alloc o).alloc (.cells cs t)) (w.heap.size + 1) cs t := by
  have h := Blk.new (w.alloc o) cs t
  simpa using h
set_option maxHeartbeats 2000000 in
theorem value_checkBoth (X Y U V : Nat) (w : World) (h1 : ∀ w, Calls Tryz.prog 95 #[.agg #[.int .i64 4, .int .i64 0, .string ⟨#[]⟩, .bool false, .complex .f64 X Y]] w fun e w' => e = .returned (.int .i64 0) ∧ Below w.heap.size w w') (h2 : ∀ w, Calls Tryz.prog 95 #[.agg #[.int .i64 4, .int .i64 0, .string ⟨#[]⟩, .bool false, .complex .f64 U V]] w fun e w' => e = .returned (.int .i64 0) ∧ Below w.heap.size w w') : Calls Tryz.prog 110 #[.agg #[.int .i64 4, .int .i64 0, .string ⟨#[]⟩, .bool false, .complex .f64 X Y], .agg #[.int .i64 4, .int .i64 0, .string ⟨#[]⟩, .bool false, .complex .f64 U V]] w fun e w' => e = .returned (.int .i64 0) ∧ Below w.heap.size w w' := by
  have H1 : Hid (∀ w, Calls Tryz.prog 95 #[.agg #[.int .i64 4, .int .i64 0, .string ⟨#[]⟩, .bool false, .complex .f64 X Y]] w fun e w' => e = .returned (.int .i64 0) ∧ Below w.heap.size w w') := h1
  have H2 : Hid (∀ w, Calls Tryz.prog 95 #[.agg #[.int .i64 4, .int .i64 0, .string ⟨#[]⟩, .bool false, .complex .f64 U V]] w fun e w' => e = .returned (.int .i64 0) ∧ Below w.heap.size w w') := h2
  clear h1 h2
  obtain ⟨W1, HW1⟩ : ∃ W1, Hid (W1 = (w.alloc (.cells #[.int .i64 4, .int .i64 0, .string ⟨#[]⟩, .bool false, .complex .f64 X Y] 54)).alloc (.cells #[.int .i64 4, .int .i64 0, .string ⟨#[]⟩, .bool false, .complex .f64 U V] 54)) := ⟨_, rfl⟩
  have HX1 : Hid (Below w.heap.size w W1) := by (show Below _ _ _); rw [HW1.out]; exact below_two _ _ _
  have HK0 : Hid (Blk W1 w.heap.size [.int .i64 4, .int .i64 0, .string ⟨#[]⟩, .bool false, .complex .f64 X Y].toArray 54) := by (show Blk _ _ _ _); rw [HW1.out]; exact blk_two0 _ _ _ _
  have HK1 : Hid (Blk W1 (w.heap.size + 1) [.int .i64 4, .int .i64 0, .string ⟨#[]⟩, .bool false, .complex .f64 U V].toArray 54) := by (show Blk _ _ _ _); rw [HW1.out]; exact blk_two1 _ _ _ _
  go_enter Tryz.func110, Tryz.ntmps110
  go_upto_region 1 with fail
  rw [← HW1.out]
  go_wp2_with (guard_target =~ wpList _ _ _ (Oper.mk (some 6) _ _ _ _ _ :: _) _ _; refine wpList_load_mid rfl 54 (.tmp 2) rfl w.heap.size 0 rfl [.int .i64 4, .int .i64 0, .string ⟨#[]⟩, .bool false, .complex .f64 X Y] _ HK0.out.all Tryz.underlying54 rfl (by rfl) ?_)
  refine (H1.out _).mono ?_
  rintro e w2 ⟨rfl, hb2⟩
  have HX2 : Hid (Below w.heap.size w w2) := HX1.out.trans (hb2.mono HX1.out.size)
  have HK2 : Hid (Blk w2 (w.heap.size + 1) [.int .i64 4, .int .i64 0, .string ⟨#[]⟩, .bool false, .complex .f64 U V].toArray 54) := HK1.out.stay hb2
  clear hb2
  go_wp2_with (guard_target =~ wpList _ _ _ (Oper.mk (some 11) _ _ _ _ _ :: _) _ _; refine wpList_load_mid rfl 54 (.tmp 3) rfl (w.heap.size + 1) 0 rfl [.int .i64 4, .int .i64 0, .string ⟨#[]⟩, .bool false, .complex .f64 U V] _ HK2.out.all Tryz.underlying54 rfl (by rfl) ?_)
  refine (H2.out _).mono ?_
  rintro e w3 ⟨rfl, hb3⟩
  have HX3 : Hid (Below w.heap.size w w3) := HX2.out.trans (hb3.mono HX2.out.size)
  clear hb3
  go_wp2
  go_returns
  exact ⟨rfl, HX3.out⟩
set_option maxHeartbeats 2000000 in
theorem value_checkPoints (X Y U V : Nat) (w : World) (h1 : ∀ w, Calls Tryz.prog 95 #[.agg #[.int .i64 4, .int .i64 0, .string ⟨#[]⟩, .bool false, .complex .f64 X Y]] w fun e w' => e = .returned (.int .i64 0) ∧ Below w.heap.size w w') (h2 : ∀ w, Calls Tryz.prog 95 #[.agg #[.int .i64 4, .int .i64 0, .string ⟨#[]⟩, .bool false, .complex .f64 U V]] w fun e w' => e = .returned (.int .i64 0) ∧ Below w.heap.size w w') : Calls Tryz.prog 103 #[.agg #[.int .i64 4, .int .i64 0, .string ⟨#[]⟩, .bool false, .complex .f64 X Y], .agg #[.int .i64 4, .int .i64 0, .string ⟨#[]⟩, .bool false, .complex .f64 U V]] w fun e w' => e = .returned (.int .i64 0) ∧ Below w.heap.size w w' := by
  obtain ⟨W1, HW1⟩ : ∃ W1, Hid (W1 = (w.alloc (.cells #[.int .i64 4, .int .i64 0, .string ⟨#[]⟩, .bool false, .complex .f64 X Y] 54)).alloc (.cells #[.int .i64 4, .int .i64 0, .string ⟨#[]⟩, .bool false, .complex .f64 U V] 54)) := ⟨_, rfl⟩
  have HX1 : Hid (Below w.heap.size w W1) := by (show Below _ _ _); rw [HW1.out]; exact below_two _ _ _
  have HK0 : Hid (Blk W1 w.heap.size [.int .i64 4, .int .i64 0, .string ⟨#[]⟩, .bool false, .complex .f64 X Y].toArray 54) := by (show Blk _ _ _ _); rw [HW1.out]; exact blk_two0 _ _ _ _
  have HK1 : Hid (Blk W1 (w.heap.size + 1) [.int .i64 4, .int .i64 0, .string ⟨#[]⟩, .bool false, .complex .f64 U V].toArray 54) := by (show Blk _ _ _ _); rw [HW1.out]; exact blk_two1 _ _ _ _
  have HC := value_checkBoth X Y U V W1 h1 h2
  clear h1 h2
  go_enter Tryz.func103, Tryz.ntmps103
  go_upto_region 1 with fail
  rw [← HW1.out]
  go_wp2_with (first | (guard_target =~ wpList _ _ _ (Oper.mk (some 6) _ _ _ _ _ :: _) _ _; refine wpList_load_mid rfl 54 (.tmp 2) rfl w.heap.size 0 rfl [.int .i64 4, .int .i64 0, .string ⟨#[]⟩, .bool false, .complex .f64 X Y] _ HK0.out.all Tryz.underlying54 rfl (by rfl) ?_) | (guard_target =~ wpList _ _ _ (Oper.mk (some 7) _ _ _ _ _ :: _) _ _; refine wpList_load_mid rfl 54 (.tmp 3) rfl (w.heap.size + 1) 0 rfl [.int .i64 4, .int .i64 0, .string ⟨#[]⟩, .bool false, .complex .f64 U V] _ HK1.out.all Tryz.underlying54 rfl (by rfl) ?_))
  refine HC.mono ?_
  rintro e w2 ⟨rfl, hb2⟩
  have HX2 : Hid (Below w.heap.size w w2) := HX1.out.trans (hb2.mono HX1.out.size)
  have k0 : w2.cell? ⟨w.heap.size, 0, none⟩ = some (.int .i64 4) := (HK0.out.stay hb2).cell 0 rfl
  have k1 : w2.cell? ⟨w.heap.size + 1, 0, none⟩ = some (.int .i64 4) := (HK1.out.stay hb2).cell 0 rfl
  clear hb2 HC
  go_wp2
  go_returns
  exact ⟨rfl, HX2.out⟩
set_option maxHeartbeats 2000000 in
theorem value_Apart (x y u v : Int) (w : World) (hx : near x) (hy : near y) (hu : near u) (hv : near v) : Calls Tryz.prog 91 #[.agg #[.int .i64 4, .int .i64 0, .string ⟨#[]⟩, .bool false, .complex .f64 (floatOfInt .f64 x) (floatOfInt .f64 y)], .agg #[.int .i64 4, .int .i64 0, .string ⟨#[]⟩, .bool false, .complex .f64 (floatOfInt .f64 u) (floatOfInt .f64 v)]] w fun e w' => e = .returned (.tuple #[.int .i64 ((x - u) * (x - u) + (y - v) * (y - v)), .int .i64 0]) ∧ Below w.heap.size w w' := by
  have b1 : (x - u).natAbs ≤ 2097152 := by unfold near at *; omega
  have b2 : (y - v).natAbs ≤ 2097152 := by unfold near at *; omega
  have q1 : ((x - u) * (x - u)).natAbs ≤ 4398046511104 := by rw [Int.natAbs_mul]; exact Nat.mul_le_mul b1 b1
  have q2 : ((y - v) * (y - v)).natAbs ≤ 4398046511104 := by rw [Int.natAbs_mul]; exact Nat.mul_le_mul b2 b2
  have f1 : cSumBits .sub .f64 (floatOfInt .f64 x) (floatOfInt .f64 y) (floatOfInt .f64 u) (floatOfInt .f64 v) = some (floatOfInt .f64 (x - u), floatOfInt .f64 (y - v)) := by
    unfold cSumBits
    rw [Flt.sub_whole x u (near_abs hx) (near_abs hu) (by omega), Flt.sub_whole y v (near_abs hy) (near_abs hv) (by omega)]
    rfl
  have f2 := Flt.sq_whole (x - u) (by omega) (by omega)
  have f3 := Flt.sq_whole (y - v) (by omega) (by omega)
  have f4 := Flt.add_whole ((x - u) * (x - u)) ((y - v) * (y - v)) (by omega) (by omega) (by omega)
  have f5 := Flt.toInt_whole ((x - u) * (x - u) + (y - v) * (y - v)) (by omega)
  have HC := fun W => value_checkPoints (floatOfInt .f64 x) (floatOfInt .f64 y) (floatOfInt .f64 u) (floatOfInt .f64 v) W (fun w => value_Check_4 x y w hx hy) (fun w => value_Check_4 u v w hu hv)
  obtain ⟨R, HRR⟩ : ∃ R, Hid (R = (x - u) * (x - u) + (y - v) * (y - v)) := ⟨_, rfl⟩
  rw [← HRR.out] at f4 f5 ⊢
  generalize floatOfInt .f64 R = FR at *
  generalize floatOfInt .f64 ((x - u) * (x - u)) = F1 at *
  generalize floatOfInt .f64 ((y - v) * (y - v)) = F2 at *
  generalize floatOfInt .f64 (x - u) = DX at *
  generalize floatOfInt .f64 (y - v) = DY at *
  generalize floatOfInt .f64 x = X at *
  generalize floatOfInt .f64 y = Y at *
  generalize floatOfInt .f64 u = U at *
  generalize floatOfInt .f64 v = V at *
  have r1 : ∀ (t : TypeId) (W : World), (binOp .sub t (.complex .f64 X Y) (.complex .f64 U V)).run Tryz.prog W = .ok (.complex .f64 DX DY) W := fun t W => run_complex_sum W .sub (.inr rfl) t .f64 X Y U V DX DY f1
  have r2 : ∀ (t : TypeId) (W : World), (binOp .mul t (.float .f64 DX) (.float .f64 DX)).run Tryz.prog W = .ok (.float .f64 F1) W := fun t W => run_float_arith W .mul t .f64 DX DX F1 f2
  have r3 : ∀ (t : TypeId) (W : World), (binOp .mul t (.float .f64 DY) (.float .f64 DY)).run Tryz.prog W = .ok (.float .f64 F2) W := fun t W => run_float_arith W .mul t .f64 DY DY F2 f3
  have r4 : ∀ (t : TypeId) (W : World), (binOp .add t (.float .f64 F1) (.float .f64 F2)).run Tryz.prog W = .ok (.float .f64 FR) W := fun t W => run_float_arith W .add t .f64 F1 F2 FR f4
  have r5 : ∀ (W : World), (convert 105 3 (.float .f64 FR)).run Tryz.prog W = .ok (.int .i64 R) W := fun W => run_convert_float_int W 105 3 .f64 .i64 FR R (by rfl) Tryz.underlying3 f5
  obtain ⟨W1, HW1⟩ : ∃ W1, Hid (W1 = (w.alloc (.cells #[.int .i64 4, .int .i64 0, .string ⟨#[]⟩, .bool false, .complex .f64 X Y] 54)).alloc (.cells #[.int .i64 4, .int .i64 0, .string ⟨#[]⟩, .bool false, .complex .f64 U V] 54)) := ⟨_, rfl⟩
  have HX1 : Hid (Below w.heap.size w W1) := by (show Below _ _ _); rw [HW1.out]; exact below_two _ _ _
  have HK0 : Hid (Blk W1 w.heap.size [.int .i64 4, .int .i64 0, .string ⟨#[]⟩, .bool false, .complex .f64 X Y].toArray 54) := by (show Blk _ _ _ _); rw [HW1.out]; exact blk_two0 _ _ _ _
  have HK1 : Hid (Blk W1 (w.heap.size + 1) [.int .i64 4, .int .i64 0, .string ⟨#[]⟩, .bool false, .complex .f64 U V].toArray 54) := by (show Blk _ _ _ _); rw [HW1.out]; exact blk_two1 _ _ _ _
  have HD := HC W1
  have HR : Hid ((∀ (t : TypeId) (W : World), (binOp .sub t (.complex .f64 X Y) (.complex .f64 U V)).run Tryz.prog W = .ok (.complex .f64 DX DY) W)) := r1
  clear HC f1 f2 f3 f4 f5 hx hy hu hv b1 b2 q1 q2 HRR r1
  go_enter Tryz.func91, Tryz.ntmps91
  go_upto_region 1 with fail
  rw [← HW1.out]
  go_wp2_with (first | (guard_target =~ wpList _ _ _ (Oper.mk (some 8) _ _ _ _ _ :: _) _ _; refine wpList_load_mid rfl 54 (.tmp 2) rfl w.heap.size 0 rfl [.int .i64 4, .int .i64 0, .string ⟨#[]⟩, .bool false, .complex .f64 X Y] _ HK0.out.all Tryz.underlying54 rfl (by rfl) ?_) | (guard_target =~ wpList _ _ _ (Oper.mk (some 9) _ _ _ _ _ :: _) _ _; refine wpList_load_mid rfl 54 (.tmp 3) rfl (w.heap.size + 1) 0 rfl [.int .i64 4, .int .i64 0, .string ⟨#[]⟩, .bool false, .complex .f64 U V] _ HK1.out.all Tryz.underlying54 rfl (by rfl) ?_))
  refine HD.mono ?_
  rintro e w2 ⟨rfl, hb2⟩
  have HX2 : Hid (Below w.heap.size w w2) := HX1.out.trans (hb2.mono HX1.out.size)
  have k0 : w2.cell? ⟨w.heap.size, 4, none⟩ = some (.complex .f64 X Y) := (HK0.out.stay hb2).cell 4 rfl
  have k1 : w2.cell? ⟨w.heap.size + 1, 4, none⟩ = some (.complex .f64 U V) := (HK1.out.stay hb2).cell 4 rfl
  have r1 := HR.out
  clear hb2 HD
  go_wp2
  go_returns
  exact ⟨rfl, HX2.out⟩
end Go.Proofs.YtnfeklebfnlgkaaGreat
