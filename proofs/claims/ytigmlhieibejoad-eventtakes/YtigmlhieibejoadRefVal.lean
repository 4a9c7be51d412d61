/- The reference's Check, Plain and Same of values that Take tells. -/
import Derived.Test.YtigmlhieibejoadValOnceM
import Derived.Test.YtigmlhieibejoadValPut2
import Derived.Test.YtigmlhieibejoadBlk
import Derived.Laws.StructEq
import Derived.Deep.RegionHeld3
namespace Go.Proofs.Ytigmlhieibejoad
open Go.RowKit

theorem near_ge {n : Int} (hn : near n) : ((FloatKind.f64.format.order (floatOfInt .f64 n) 13920626448202203136 == some Ordering.gt) || (FloatKind.f64.format.order (floatOfInt .f64 n) 13920626448202203136 == some Ordering.eq)) = true := by
  rw [← low_bits, show FloatKind.f64.format.order (floatOfInt .f64 n) (floatOfInt .f64 (-1048576)) = some (compare n (-1048576)) from Flt.order_whole n _ (near_abs hn) (by decide)]
  rcases Int.lt_or_eq_of_le hn.1 with h | h
  · rw [Int.compare_eq_gt.2 h]; rfl
  · rw [← h]; rfl
theorem near_le {n : Int} (hn : near n) : ((FloatKind.f64.format.order (floatOfInt .f64 n) 4697254411347427328 == some Ordering.lt) || (FloatKind.f64.format.order (floatOfInt .f64 n) 4697254411347427328 == some Ordering.eq)) = true := by
  rw [← high_bits, show FloatKind.f64.format.order (floatOfInt .f64 n) (floatOfInt .f64 1048576) = some (compare n 1048576) from Flt.order_whole n _ (near_abs hn) (by decide)]
  rcases Int.lt_or_eq_of_le hn.2 with h | h
  · rw [Int.compare_eq_lt.2 h]; rfl
  · rw [h]; rfl

theorem ref_whole (n : Int) (hn : near n) (w : World) : Calls Try.prog 44 #[.float .f64 (floatOfInt .f64 n)] w fun e w' => e = .returned (.tuple #[.int .i64 n, .bool true]) ∧ w' = w := by
  have h1 := near_ge hn
  have h2 := near_le hn
  have h3 : FloatKind.f64.format.order (floatOfInt .f64 n) (floatOfInt .f64 n) = some .eq := Flt.order_self n (near_abs hn)
  have cx : ∀ W, (convert 68 3 (.float .f64 (floatOfInt .f64 n))).run Try.prog W = .ok (.int .i64 n) W := fun W => run_convert_float_int W _ _ _ _ _ _ (by kernel_rfl) Try.underlying3 (Flt.toInt_whole n (near_abs hn))
  clear hn
  obtain ⟨X, hX⟩ : ∃ X, floatOfInt .f64 n = X := ⟨_, rfl⟩
  rw [hX] at h1 h2 h3 ⊢
  simp only [hX] at cx
  go_enter Try.func44, Try.ntmps44
  go_wp2
  go_ret2
  exact ⟨rfl, rfl⟩

theorem ref_Parts (c0 c1 c2 c3 : Value) (x y : Int) (hx : near x) (hy : near y) (w : World) :
    Calls Try.prog 39 #[.agg #[c0, c1, c2, c3, .complex .f64 (floatOfInt .f64 x) (floatOfInt .f64 y)]] w fun e w' => e = .returned (.tuple #[.int .i64 x, .int .i64 y, .bool true]) ∧ Below w.heap.size w w' := by
  have H1 : Hid (∀ w, Calls Try.prog 44 #[.float .f64 (floatOfInt .f64 x)] w fun e w' => e = .returned (.tuple #[.int .i64 x, .bool true]) ∧ w' = w) := ref_whole x hx
  have H2 : Hid (∀ w, Calls Try.prog 44 #[.float .f64 (floatOfInt .f64 y)] w fun e w' => e = .returned (.tuple #[.int .i64 y, .bool true]) ∧ w' = w) := ref_whole y hy
  generalize floatOfInt .f64 x = X at *
  generalize floatOfInt .f64 y = Y at *
  go_enter Try.func39, Try.ntmps39
  go_wp2_with fail
  refine (H1.out _).mono ?_
  rintro e w1 ⟨rfl, rfl⟩
  go_wp2_with fail
  refine (H2.out _).mono ?_
  rintro e w2 ⟨rfl, rfl⟩
  go_wp2
  go_ret3
  exact ⟨rfl, below_alloc w _⟩

set_option maxRecDepth 100000 in
theorem ref_Check_1 (n : Int) (s : ByteArray) (t : Bool) (x y : Nat) (w : World) : Calls Try.prog 30 #[.agg #[.int .i64 1, .int .i64 n, .string s, .bool t, .complex .f64 x y]] w fun e w' => e = .returned (.int .i64 0) ∧ Below w.heap.size w w' := by
  go_enter Try.func30, Try.ntmps30
  go_wp2
  go_ret
  exact ⟨rfl, below_alloc w _⟩
set_option maxRecDepth 100000 in
theorem ref_Check_2 (n : Int) (s : ByteArray) (t : Bool) (x y : Nat) (w : World) (h : s.size ≤ 200) : Calls Try.prog 30 #[.agg #[.int .i64 2, .int .i64 n, .string s, .bool t, .complex .f64 x y]] w fun e w' => e = .returned (.int .i64 0) ∧ Below w.heap.size w w' := by
  have h' : ¬ (200 : Int) < (s.size : Int) := by omega
  go_enter Try.func30, Try.ntmps30
  go_wp2
  go_ret
  exact ⟨rfl, below_alloc w _⟩
set_option maxRecDepth 100000 in
theorem ref_Check_3 (n : Int) (s : ByteArray) (t : Bool) (x y : Nat) (w : World) : Calls Try.prog 30 #[.agg #[.int .i64 3, .int .i64 n, .string s, .bool t, .complex .f64 x y]] w fun e w' => e = .returned (.int .i64 0) ∧ Below w.heap.size w w' := by
  go_enter Try.func30, Try.ntmps30
  go_wp2
  go_ret
  exact ⟨rfl, below_alloc w _⟩
set_option maxRecDepth 100000 in
theorem ref_Check_4 (n : Int) (s : ByteArray) (t : Bool) (x y : Int) (w : World) (hx : near x) (hy : near y) : Calls Try.prog 30 #[.agg #[.int .i64 4, .int .i64 n, .string s, .bool t, .complex .f64 (floatOfInt .f64 x) (floatOfInt .f64 y)]] w fun e w' => e = .returned (.int .i64 0) ∧ Below w.heap.size w w' := by
  have H1 : Hid (∀ w, Calls Try.prog 39 #[.agg #[.int .i64 4, .int .i64 n, .string s, .bool t, .complex .f64 (floatOfInt .f64 x) (floatOfInt .f64 y)]] w fun e w' => e = .returned (.tuple #[.int .i64 x, .int .i64 y, .bool true]) ∧ Below w.heap.size w w') := ref_Parts _ _ _ _ x y hx hy
  generalize floatOfInt .f64 x = X at *
  generalize floatOfInt .f64 y = Y at *
  clear hx hy
  go_enter Try.func30, Try.ntmps30
  go_wp2_with fail
  refine (H1.out _).mono ?_
  rintro e w1 ⟨rfl, hb1⟩
  have HB1 : Hid (Below w.heap.size w w1) := (below_alloc w _).trans (hb1.mono (by simp))
  clear hb1
  go_wp2
  go_ret
  exact ⟨rfl, HB1.out⟩
theorem ref_Check (v : Val) (hv : v.Right) (w : World) : Calls Try.prog 30 #[.agg v.cells] w fun e w' => e = .returned (.int .i64 0) ∧ Below w.heap.size w w' := by
  cases hv using Val.Right.elim with
  | whole n s t x y h => exact ref_Check_1 n s t x y w
  | words n s t x y h => exact ref_Check_2 n s t x y w h
  | truth n s t x y => exact ref_Check_3 n s t x y w
  | point n s t x y hx hy => exact ref_Check_4 n s t x y w hx hy

theorem results_plain {w : World} {tmps : Array Value} {g : Nat} {t : TypeId} {v0 v1 v2 v3 v4 : Value} (h4 : tmps[2]?.getD undef = .pointer (some ⟨g, 0, none⟩)) (k : Blk w g #[v0, v1, v2, v3, v4] t) : (results Try.f31 tmps).run Try.prog w = .ok (.agg #[v0, v1, v2, v3, v4]) w := by
  have k0 := k.cell 0 rfl
  have k1 := k.cell 1 rfl
  have k2 := k.cell 2 rfl
  have k3 := k.cell 3 rfl
  have k4 := k.cell 4 rfl
  simp [results, Try.results31, go_sem, h4, k0, k1, k2, k3, k4]
theorem Blk.set5 {w : World} {g : Nat} {t : TypeId} {u0 u1 u2 u3 u4 : Value} (h : Blk w g #[u0, u1, u2, u3, u4] t) (v0 v1 v2 v3 v4 : Value) : Blk (((((w.setCell ⟨g, 0, none⟩ v0).setCell ⟨g, 1, none⟩ v1).setCell ⟨g, 2, none⟩ v2).setCell ⟨g, 3, none⟩ v3).setCell ⟨g, 4, none⟩ v4) g #[v0, v1, v2, v3, v4] t :=
  ((((h.set 0 v0).set 1 v1).set 2 v2).set 3 v3).set 4 v4

set_option maxRecDepth 100000 in
theorem ref_Plain_1 (n : Int) (w : World) : Calls Try.prog 31 #[.agg #[.int .i64 1, .int .i64 n, .string ⟨#[]⟩, .bool false, .complex .f64 0 0]] w fun e w' => e = .returned (.agg #[.int .i64 1, .int .i64 n, .string ⟨#[]⟩, .bool false, .complex .f64 0 0]) ∧ Below w.heap.size w w' := by
  have hcx : ∀ (a : Addr) (m : Mode) (W : World) (x y : Nat), (store a (.complex .f64 x y) m).run Try.prog W = stored Try.prog W a (.complex .f64 x y) m := fun a m W x y => run_store _ _ _ _ _ rfl
  go_enter Try.func31, Try.ntmps31
  go_wp2
  go_returns
  exact ⟨rfl, ((below_alloc w _).alloc (by simp) _).alloc (by simp; omega) _⟩
set_option maxRecDepth 100000 in
theorem ref_Plain_2 (s : ByteArray) (w : World) : Calls Try.prog 31 #[.agg #[.int .i64 2, .int .i64 0, .string s, .bool false, .complex .f64 0 0]] w fun e w' => e = .returned (.agg #[.int .i64 2, .int .i64 0, .string s, .bool false, .complex .f64 0 0]) ∧ Below w.heap.size w w' := by
  have hcx : ∀ (a : Addr) (m : Mode) (W : World) (x y : Nat), (store a (.complex .f64 x y) m).run Try.prog W = stored Try.prog W a (.complex .f64 x y) m := fun a m W x y => run_store _ _ _ _ _ rfl
  go_enter Try.func31, Try.ntmps31
  go_wp2
  go_returns
  exact ⟨rfl, ((below_alloc w _).alloc (by simp) _).alloc (by simp; omega) _⟩
set_option maxRecDepth 100000 in
theorem ref_Plain_3 (t : Bool) (w : World) : Calls Try.prog 31 #[.agg #[.int .i64 3, .int .i64 0, .string ⟨#[]⟩, .bool t, .complex .f64 0 0]] w fun e w' => e = .returned (.agg #[.int .i64 3, .int .i64 0, .string ⟨#[]⟩, .bool t, .complex .f64 0 0]) ∧ Below w.heap.size w w' := by
  have hcx : ∀ (a : Addr) (m : Mode) (W : World) (x y : Nat), (store a (.complex .f64 x y) m).run Try.prog W = stored Try.prog W a (.complex .f64 x y) m := fun a m W x y => run_store _ _ _ _ _ rfl
  go_enter Try.func31, Try.ntmps31
  go_wp2
  go_returns
  exact ⟨rfl, ((below_alloc w _).alloc (by simp) _).alloc (by simp; omega) _⟩
end Go.Proofs.Ytigmlhieibejoad
