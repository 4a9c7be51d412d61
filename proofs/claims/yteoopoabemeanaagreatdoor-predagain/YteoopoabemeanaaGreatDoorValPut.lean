/- value.Check and value.Put of right values. -/
import Derived.Test.YteoopoabemeanaaGreatDoorValP
import Derived.Test.YteoopoabemeanaaGreatDoorPutTextP
import Derived.Test.YteoopoabemeanaaGreatDoorFlt2
namespace Go.Proofs.YteoopoabemeanaaGreatDoor
set_option maxRecDepth 100000
open Go.RowKit

/-- A whole number that may be a point's part. -/
def near (n : Int) : Prop := -1048576 ≤ n ∧ n ≤ 1048576
theorem near_abs {n : Int} (h : near n) : n.natAbs < 2 ^ 53 := by unfold near at h; omega

theorem extern_trunc (n : Int) (hn : near n) (w : World) : (callFunc 83 #[.float .f64 (floatOfInt .f64 n)]).run Tryz.prog w = .ok (.value (.float .f64 (floatOfInt .f64 n))) w := by
  rw [run_callFunc_extern Tryz.func83 (by kernel_rfl) (by kernel_rfl) (by kernel_rfl) (e := Extern.MathFloor.toIntegral "math.archTrunc" .zero) (by kernel_rfl), Flt.trunc_whole n (near_abs hn)]
  rfl

theorem math_Trunc (n : Int) (hn : near n) (w : World) : Calls Tryz.prog 65 #[.float .f64 (floatOfInt .f64 n)] w fun e w' => e = .returned (.float .f64 (floatOfInt .f64 n)) ∧ w' = w := by
  have hx := extern_trunc n hn
  generalize floatOfInt .f64 n = x at *
  go_enter Tryz.func65, Tryz.ntmps65
  go_wp2
  go_ret
  exact ⟨rfl, rfl⟩

theorem low_bits : floatOfInt .f64 (-1048576) = 13920626448202203136 := by kernel_rfl
theorem high_bits : floatOfInt .f64 1048576 = 4697254411347427328 := by kernel_rfl

theorem value_isNear (n : Int) (hn : near n) (w : World) : Calls Tryz.prog 64 #[.float .f64 (floatOfInt .f64 n)] w fun e w' => e = .returned (.bool true) ∧ w' = w := by
  have h1 : ((FloatKind.f64.format.order (floatOfInt .f64 n) 13920626448202203136 == some Ordering.gt) || (FloatKind.f64.format.order (floatOfInt .f64 n) 13920626448202203136 == some Ordering.eq)) = true := by
    rw [← low_bits, show FloatKind.f64.format.order (floatOfInt .f64 n) (floatOfInt .f64 (-1048576)) = some (compare n (-1048576)) from Flt.order_whole n _ (near_abs hn) (by decide)]
    rcases Int.lt_or_eq_of_le hn.1 with h | h
    · rw [Int.compare_eq_gt.2 h]; rfl
    · rw [← h]; rfl
  have h2 : ((FloatKind.f64.format.order (floatOfInt .f64 n) 4697254411347427328 == some Ordering.lt) || (FloatKind.f64.format.order (floatOfInt .f64 n) 4697254411347427328 == some Ordering.eq)) = true := by
    rw [← high_bits, show FloatKind.f64.format.order (floatOfInt .f64 n) (floatOfInt .f64 1048576) = some (compare n 1048576) from Flt.order_whole n _ (near_abs hn) (by decide)]
    rcases Int.lt_or_eq_of_le hn.2 with h | h
    · rw [Int.compare_eq_lt.2 h]; rfl
    · rw [h]; rfl
  generalize floatOfInt .f64 n = x at *
  go_enter Tryz.func64, Tryz.ntmps64
  go_wp2
  go_ret
  exact ⟨rfl, rfl⟩

theorem value_isPart (n : Int) (hn : near n) (w : World) : Calls Tryz.prog 49 #[.float .f64 (floatOfInt .f64 n)] w fun e w' => e = .returned (.bool true) ∧ w' = w := by
  have h1 := value_isNear n hn
  have h2 := math_Trunc n hn
  have h3 : FloatKind.f64.format.order (floatOfInt .f64 n) (floatOfInt .f64 n) = some .eq := Flt.order_self n (near_abs hn)
  generalize floatOfInt .f64 n = x at *
  have H1 : Hid (∀ w, Calls Tryz.prog 64 #[.float .f64 x] w fun e w' => e = .returned (.bool true) ∧ w' = w) := h1
  have H2 : Hid (∀ w, Calls Tryz.prog 65 #[.float .f64 x] w fun e w' => e = .returned (.float .f64 x) ∧ w' = w) := h2
  clear h1 h2
  go_enter Tryz.func49, Tryz.ntmps49
  go_wp2_with fail
  refine (H1.out _).mono ?_
  rintro e w1 ⟨rfl, rfl⟩
  go_wp2_with fail
  refine (H2.out _).mono ?_
  rintro e w2 ⟨rfl, rfl⟩
  go_wp2
  go_ret
  exact ⟨rfl, rfl⟩

/-- A right value. -/
def Val.Right (v : Val) : Prop :=
  (∃ (n : Int) (s : ByteArray) (t : Bool) (x y : Nat), ((-9223372036854775808 : Int) ≤ n ∧ n ≤ 9223372036854775807) ∧ v = ⟨1, n, s, t, x, y⟩) ∨
  (∃ (n : Int) (s : ByteArray) (t : Bool) (x y : Nat), s.size ≤ 200 ∧ v = ⟨2, n, s, t, x, y⟩) ∨
  (∃ (n : Int) (s : ByteArray) (t : Bool) (x y : Nat), v = ⟨3, n, s, t, x, y⟩) ∨
  (∃ (n : Int) (s : ByteArray) (t : Bool) (x y : Int), near x ∧ near y ∧ v = ⟨4, n, s, t, floatOfInt .f64 x, floatOfInt .f64 y⟩)
theorem Val.Right.whole (n : Int) (s : ByteArray) (t : Bool) (x y : Nat) (h : (-9223372036854775808 : Int) ≤ n ∧ n ≤ 9223372036854775807) : Val.Right ⟨1, n, s, t, x, y⟩ := .inl ⟨n, s, t, x, y, h, rfl⟩
theorem Val.Right.words (n : Int) (s : ByteArray) (t : Bool) (x y : Nat) (h : s.size ≤ 200) : Val.Right ⟨2, n, s, t, x, y⟩ := .inr (.inl ⟨n, s, t, x, y, h, rfl⟩)
theorem Val.Right.truth (n : Int) (s : ByteArray) (t : Bool) (x y : Nat) : Val.Right ⟨3, n, s, t, x, y⟩ := .inr (.inr (.inl ⟨n, s, t, x, y, rfl⟩))
theorem Val.Right.point (n : Int) (s : ByteArray) (t : Bool) (x y : Int) (hx : near x) (hy : near y) : Val.Right ⟨4, n, s, t, floatOfInt .f64 x, floatOfInt .f64 y⟩ := .inr (.inr (.inr ⟨n, s, t, x, y, hx, hy, rfl⟩))
theorem Val.Right.elim {motive : (v : Val) → Val.Right v → Prop}
    (whole : ∀ n s t x y h, motive ⟨1, n, s, t, x, y⟩ (Val.Right.whole n s t x y h))
    (words : ∀ n s t x y h, motive ⟨2, n, s, t, x, y⟩ (Val.Right.words n s t x y h))
    (truth : ∀ n s t x y, motive ⟨3, n, s, t, x, y⟩ (Val.Right.truth n s t x y))
    (point : ∀ n s t x y hx hy, motive ⟨4, n, s, t, floatOfInt .f64 x, floatOfInt .f64 y⟩ (Val.Right.point n s t x y hx hy)) {v : Val} (h : Val.Right v) : motive v h := by
  rcases h with ⟨n, s, t, x, y, h, rfl⟩ | ⟨n, s, t, x, y, h, rfl⟩ | ⟨n, s, t, x, y, rfl⟩ | ⟨n, s, t, x, y, hx, hy, rfl⟩
  · exact whole n s t x y h
  · exact words n s t x y h
  · exact truth n s t x y
  · exact point n s t x y hx hy

theorem value_Check_1 (n : Int) (s : ByteArray) (t : Bool) (x y : Nat) (w : World) : Calls Tryz.prog 33 #[.agg #[.int .i64 1, .int .i64 n, .string s, .bool t, .complex .f64 x y]] w fun e w' => e = .returned (.int .i64 0) ∧ Below w.heap.size w w' := by
  go_enter Tryz.func33, Tryz.ntmps33
  go_wp2
  go_ret
  exact ⟨rfl, below_alloc w _⟩
theorem value_Check_2 (n : Int) (s : ByteArray) (t : Bool) (x y : Nat) (w : World) (h : s.size ≤ 200) : Calls Tryz.prog 33 #[.agg #[.int .i64 2, .int .i64 n, .string s, .bool t, .complex .f64 x y]] w fun e w' => e = .returned (.int .i64 0) ∧ Below w.heap.size w w' := by
  go_enter Tryz.func33, Tryz.ntmps33
  go_wp2
  go_ret
  exact ⟨rfl, below_alloc w _⟩
theorem value_Check_3 (n : Int) (s : ByteArray) (t : Bool) (x y : Nat) (w : World) : Calls Tryz.prog 33 #[.agg #[.int .i64 3, .int .i64 n, .string s, .bool t, .complex .f64 x y]] w fun e w' => e = .returned (.int .i64 0) ∧ Below w.heap.size w w' := by
  go_enter Tryz.func33, Tryz.ntmps33
  go_wp2
  go_ret
  exact ⟨rfl, below_alloc w _⟩
theorem value_Check_4 (n : Int) (s : ByteArray) (t : Bool) (x y : Int) (w : World) (hx : near x) (hy : near y) : Calls Tryz.prog 33 #[.agg #[.int .i64 4, .int .i64 n, .string s, .bool t, .complex .f64 (floatOfInt .f64 x) (floatOfInt .f64 y)]] w fun e w' => e = .returned (.int .i64 0) ∧ Below w.heap.size w w' := by
  have H1 : Hid (∀ w, Calls Tryz.prog 49 #[.float .f64 (floatOfInt .f64 x)] w fun e w' => e = .returned (.bool true) ∧ w' = w) := value_isPart x hx
  have H2 : Hid (∀ w, Calls Tryz.prog 49 #[.float .f64 (floatOfInt .f64 y)] w fun e w' => e = .returned (.bool true) ∧ w' = w) := value_isPart y hy
  generalize floatOfInt .f64 x = X at *
  generalize floatOfInt .f64 y = Y at *
  go_enter Tryz.func33, Tryz.ntmps33
  go_wp2_with fail
  refine (H1.out _).mono ?_
  rintro e w1 ⟨rfl, rfl⟩
  go_wp2_with fail
  refine (H2.out _).mono ?_
  rintro e w2 ⟨rfl, rfl⟩
  go_wp2
  go_ret
  exact ⟨rfl, below_alloc w _⟩

theorem value_Check (v : Val) (hv : v.Right) (w : World) : Calls Tryz.prog 33 #[.agg v.cells] w fun e w' => e = .returned (.int .i64 0) ∧ Below w.heap.size w w' := by
  cases hv using Val.Right.elim with
  | whole n s t x y h => exact value_Check_1 n s t x y w
  | words n s t x y h => exact value_Check_2 n s t x y w h
  | truth n s t x y => exact value_Check_3 n s t x y w
  | point n s t x y hx hy => exact value_Check_4 n s t x y w hx hy
end Go.Proofs.YteoopoabemeanaaGreatDoor
