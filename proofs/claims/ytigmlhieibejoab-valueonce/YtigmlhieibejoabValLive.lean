/- 'same' and 'live' of the law's package. -/
import Derived.Test.YtigmlhieibejoabValPut2
import Derived.Laws.StructEq
import Derived.Laws.ComplexArith
namespace Go.Proofs.Ytigmlhieibejoab
open Go.RowKit

theorem run_equalIn_complex {P : Program} (w : World) (d : Nat) (t : TypeId) (k k' : FloatKind) (a b : Nat) (h : P.underlying t = some (.complex k')) (h1 : k.format.order a a = some .eq) (h2 : k.format.order b b = some .eq) : (Op.equalIn (d + 1) t (.complex k a b) (.complex k a b)).run P w = .ok true w := by
  simp [Op.equalIn, run_underlying h, Op.floatEq, h1, h2]

theorem law_same (v : Val) (w : World) (h1 : Ieee.double.order v.re v.re = some .eq) (h2 : Ieee.double.order v.im v.im = some .eq) : Calls Try.prog 6 #[.agg v.cells, .agg v.cells] w fun e w' => e = .returned (.bool true) ∧ Below w.heap.size w w' := by
  obtain ⟨vk, vw, vs, vt, vx, vy⟩ := v
  simp only [Val.cells] at *
  have hq : ∀ W : World, (Op.equalIn 9999 25 (.complex .f64 vx vy) (.complex .f64 vx vy)).run Try.prog W = .ok true W := fun W => run_equalIn_complex W 9998 25 .f64 .f64 vx vy Try.underlying25 h1 h2
  clear h1 h2
  go_enter Try.func6, Try.ntmps6
  go_wp2
  go_ret
  exact ⟨rfl, (below_alloc w _).alloc (by simp) _⟩

theorem bits0 : floatOfInt .f64 0 = 0 := by kernel_rfl
theorem bits3 : floatOfInt .f64 3 = 4613937818241073152 := by kernel_rfl
theorem bits4 : floatOfInt .f64 4 = 4616189618054758400 := by kernel_rfl
def origin : Array Value := #[.int .i64 4, .int .i64 0, .string ⟨#[]⟩, .bool false, .complex .f64 0 0]
def there : Array Value := #[.int .i64 4, .int .i64 0, .string ⟨#[]⟩, .bool false, .complex .f64 4613937818241073152 4616189618054758400]

theorem check_origin (w : World) : Calls Try.prog 10 #[.agg origin] w fun e w' => e = .returned (.int .i64 0) ∧ Below w.heap.size w w' := by
  have h := value_Check_4 0 ⟨#[]⟩ false 0 0 w (by unfold near; omega) (by unfold near; omega)
  rw [bits0] at h
  exact h
theorem check_there (w : World) : Calls Try.prog 10 #[.agg there] w fun e w' => e = .returned (.int .i64 0) ∧ Below w.heap.size w w' := by
  have h := value_Check_4 0 ⟨#[]⟩ false 3 4 w (by unfold near; omega) (by unfold near; omega)
  rw [bits3, bits4] at h
  exact h

/-- The cells of two new blocks stay. -/
theorem kept10 {w w1 : World} {c0 c1 c2 c3 c4 d0 d1 d2 d3 d4 : Value}
    (h : Below ((w.alloc (.cells #[c0, c1, c2, c3, c4] 27)).alloc (.cells #[d0, d1, d2, d3, d4] 27)).heap.size ((w.alloc (.cells #[c0, c1, c2, c3, c4] 27)).alloc (.cells #[d0, d1, d2, d3, d4] 27)) w1) :
    (w1.cell? ⟨w.heap.size, 0, none⟩ = some c0 ∧ w1.cell? ⟨w.heap.size, 1, none⟩ = some c1 ∧ w1.cell? ⟨w.heap.size, 2, none⟩ = some c2 ∧ w1.cell? ⟨w.heap.size, 3, none⟩ = some c3 ∧ w1.cell? ⟨w.heap.size, 4, none⟩ = some c4) ∧
    (w1.cell? ⟨w.heap.size + 1, 0, none⟩ = some d0 ∧ w1.cell? ⟨w.heap.size + 1, 1, none⟩ = some d1 ∧ w1.cell? ⟨w.heap.size + 1, 2, none⟩ = some d2 ∧ w1.cell? ⟨w.heap.size + 1, 3, none⟩ = some d3 ∧ w1.cell? ⟨w.heap.size + 1, 4, none⟩ = some d4) ∧ Below w.heap.size w w1 := by
  have he : (w.alloc (.cells #[c0, c1, c2, c3, c4] 27)).heap.size = w.heap.size + 1 := by simp
  have h2 := kept5 h
  rw [he] at h2
  exact ⟨(kept5 ((below_alloc _ _).trans (h.mono (by simp)))).1, h2.1, ((below_alloc w _).alloc (by simp) _).trans (h.mono (by simp; omega))⟩

set_option maxRecDepth 100000 in
theorem value_checkBoth_live (w : World) : Calls Try.prog 26 #[.agg origin, .agg there] w fun e w' => e = .returned (.int .i64 0) ∧ Below w.heap.size w w' := by
  have hcx : ∀ (a : Addr) (m : Mode) (W : World) (x y : Nat), (store a (.complex .f64 x y) m).run Try.prog W = stored Try.prog W a (.complex .f64 x y) m := fun a m W x y => run_store _ _ _ _ _ rfl
  have H1 : Hid (∀ w, Calls Try.prog 10 #[.agg origin] w fun e w' => e = .returned (.int .i64 0) ∧ Below w.heap.size w w') := check_origin
  have H2 : Hid (∀ w, Calls Try.prog 10 #[.agg there] w fun e w' => e = .returned (.int .i64 0) ∧ Below w.heap.size w w') := check_there
  simp only [origin, there] at *
  go_enter Try.func26, Try.ntmps26
  go_wp2_with fail
  refine (H1.out _).mono ?_
  rintro e w1 ⟨rfl, hb1⟩
  obtain ⟨_, ⟨m0, m1, m2, m3, m4⟩, hb⟩ := kept10 hb1
  have HB1 : Hid (Below w.heap.size w w1) := hb
  clear hb hb1
  go_wp2_with fail
  refine (H2.out _).mono ?_
  rintro e w2 ⟨rfl, hb2⟩
  have HB2 : Hid (Below w.heap.size w w2) := HB1.out.trans (hb2.mono HB1.out.size)
  clear hb2
  go_wp2
  go_ret
  exact ⟨rfl, HB2.out⟩

set_option maxRecDepth 100000 in
theorem value_checkPoints_live (w : World) : Calls Try.prog 18 #[.agg origin, .agg there] w fun e w' => e = .returned (.int .i64 0) ∧ Below w.heap.size w w' := by
  have hcx : ∀ (a : Addr) (m : Mode) (W : World) (x y : Nat), (store a (.complex .f64 x y) m).run Try.prog W = stored Try.prog W a (.complex .f64 x y) m := fun a m W x y => run_store _ _ _ _ _ rfl
  have H1 : Hid (∀ w, Calls Try.prog 26 #[.agg origin, .agg there] w fun e w' => e = .returned (.int .i64 0) ∧ Below w.heap.size w w') := value_checkBoth_live
  simp only [origin, there] at *
  go_enter Try.func18, Try.ntmps18
  go_wp2_with fail
  refine (H1.out _).mono ?_
  rintro e w1 ⟨rfl, hb1⟩
  obtain ⟨⟨k0, _, _, _, _⟩, ⟨m0, _, _, _, _⟩, hb⟩ := kept10 hb1
  have HB1 : Hid (Below w.heap.size w w1) := hb
  clear hb hb1
  go_wp2
  go_ret
  exact ⟨rfl, HB1.out⟩

theorem sub_live : cSumBits .sub .f64 0 0 4613937818241073152 4616189618054758400 = some (13837309855095848960, 13839561654909534208) := by kernel_rfl
theorem mul3_live : floatBits .mul .f64 13837309855095848960 13837309855095848960 = some 4621256167635550208 := by kernel_rfl
theorem mul4_live : floatBits .mul .f64 13839561654909534208 13839561654909534208 = some 4625196817309499392 := by kernel_rfl
theorem add_live : floatBits .add .f64 4621256167635550208 4625196817309499392 = some 4627730092099895296 := by kernel_rfl
theorem int_live : floatToIntVal .f64 4627730092099895296 .i64 = some 25 := by kernel_rfl

set_option maxRecDepth 100000 in
theorem value_Apart_live (w : World) : Calls Try.prog 9 #[.agg origin, .agg there] w fun e w' => e = .returned (.tuple #[.int .i64 25, .int .i64 0]) ∧ Below w.heap.size w w' := by
  have hcx : ∀ (a : Addr) (m : Mode) (W : World) (x y : Nat), (store a (.complex .f64 x y) m).run Try.prog W = stored Try.prog W a (.complex .f64 x y) m := fun a m W x y => run_store _ _ _ _ _ rfl
  have H1 : Hid (∀ w, Calls Try.prog 18 #[.agg origin, .agg there] w fun e w' => e = .returned (.int .i64 0) ∧ Below w.heap.size w w') := value_checkPoints_live
  have x1 : ∀ W : World, (binOp .sub 25 (.complex .f64 0 0) (.complex .f64 4613937818241073152 4616189618054758400)).run Try.prog W = .ok (.complex .f64 13837309855095848960 13839561654909534208) W := fun W => run_complex_sum W .sub (.inr rfl) _ _ _ _ _ _ _ _ sub_live
  have x2 : ∀ W : World, (binOp .mul 43 (.float .f64 13837309855095848960) (.float .f64 13837309855095848960)).run Try.prog W = .ok (.float .f64 4621256167635550208) W := fun W => run_float_arith W .mul _ _ _ _ _ mul3_live
  have x3 : ∀ W : World, (binOp .mul 43 (.float .f64 13839561654909534208) (.float .f64 13839561654909534208)).run Try.prog W = .ok (.float .f64 4625196817309499392) W := fun W => run_float_arith W .mul _ _ _ _ _ mul4_live
  have x4 : ∀ W : World, (binOp .add 43 (.float .f64 4621256167635550208) (.float .f64 4625196817309499392)).run Try.prog W = .ok (.float .f64 4627730092099895296) W := fun W => run_float_arith W .add _ _ _ _ _ add_live
  have x5 : ∀ W : World, (convert 43 3 (.float .f64 4627730092099895296)).run Try.prog W = .ok (.int .i64 25) W := fun W => run_convert_float_int W _ _ _ _ _ _ (by kernel_rfl) Try.underlying3 int_live
  simp only [origin, there] at *
  go_enter Try.func9, Try.ntmps9
  go_wp2_with fail
  refine (H1.out _).mono ?_
  rintro e w1 ⟨rfl, hb1⟩
  obtain ⟨⟨_, _, _, _, k4⟩, ⟨_, _, _, _, m4⟩, hb⟩ := kept10 hb1
  have HB1 : Hid (Below w.heap.size w w1) := hb
  clear hb hb1
  go_wp2
  go_ret2
  exact ⟨rfl, HB1.out⟩

theorem fold_m1 : Leb.leb (fold (-1)) = [1] := by decide

set_option maxRecDepth 100000 in
theorem law_live (w : World) : Calls Try.prog 5 #[] w fun e w' => e = .returned (.bool true) ∧ Below w.heap.size w w' := by
  have H1 : Hid (∀ w, Calls Try.prog 7 #[.agg #[.int .i64 1, .int .i64 (-1), .string ⟨#[]⟩, .bool false, .complex .f64 0 0]] w fun e w' => ∃ a c, e = .returned (.tuple #[.slice a 2 c, .int .i64 0]) ∧ a ≠ none ∧ Own w' w.heap.size a 2 c [1, 1] ∧ Below w.heap.size w w') := fun w => value_Put_1 (-1) ⟨#[]⟩ false 0 0 (by omega) [1] 1 fold_m1 rfl (by omega) w
  have H2 : Hid (∀ w, Calls Try.prog 9 #[.agg origin, .agg there] w fun e w' => e = .returned (.tuple #[.int .i64 25, .int .i64 0]) ∧ Below w.heap.size w w') := value_Apart_live
  simp only [origin, there] at *
  go_enter Try.func5, Try.ntmps5
  go_wp2_with fail
  refine (H1.out _).mono ?_
  rintro e w1 ⟨a1, c1, rfl, _, ho1, hb1⟩
  have HR1 : Hid (Rd w1 a1 2 [1, 1]) := ho1.rd
  have HB1 : Hid (Below w.heap.size w w1) := hb1
  clear ho1 hb1
  go_wp2_with fail
  refine (H2.out _).mono ?_
  rintro e w2 ⟨rfl, hb2⟩
  have HB2 : Hid (Below w.heap.size w w2) := HB1.out.trans (hb2.mono HB1.out.size)
  have hcv : (convert 22 9 (.slice a1 2 c1)).run Try.prog w2 = .ok (.string ⟨#[1, 1]⟩) w2 := by
    rw [conv_rd (HR1.out.below hb2) c1]
    rfl
  clear hb2 HR1 HB1
  go_wp2
  go_ret
  exact ⟨rfl, HB2.out⟩
end Go.Proofs.Ytigmlhieibejoab
