/- The reference's Plain of a point; its Same of a value with itself. -/
import Derived.Test.YtigmlhieibejoadRefVal
namespace Go.Proofs.Ytigmlhieibejoad
open Go.RowKit

set_option maxRecDepth 100000 in
set_option maxHeartbeats 1000000 in
theorem ref_Plain_4 (x y : Int) (hx : near x) (hy : near y) (w : World) : Calls Try.prog 31 #[.agg #[.int .i64 4, .int .i64 0, .string ⟨#[]⟩, .bool false, .complex .f64 (floatOfInt .f64 x) (floatOfInt .f64 y)]] w fun e w' => e = .returned (.agg #[.int .i64 4, .int .i64 0, .string ⟨#[]⟩, .bool false, .complex .f64 (floatOfInt .f64 x) (floatOfInt .f64 y)]) ∧ Below w.heap.size w w' := by
  have hcx : ∀ (a : Addr) (m : Mode) (W : World) (x y : Nat), (store a (.complex .f64 x y) m).run Try.prog W = stored Try.prog W a (.complex .f64 x y) m := fun a m W x y => run_store _ _ _ _ _ rfl
  have H1 : Hid (∀ w, Calls Try.prog 39 #[.agg #[.int .i64 4, .int .i64 0, .string ⟨#[]⟩, .bool false, .complex .f64 (floatOfInt .f64 x) (floatOfInt .f64 y)]] w fun e w' => e = .returned (.tuple #[.int .i64 x, .int .i64 y, .bool true]) ∧ Below w.heap.size w w') := ref_Parts _ _ _ _ x y hx hy
  obtain ⟨X, hX⟩ : ∃ X, floatOfInt .f64 x = X := ⟨_, rfl⟩
  obtain ⟨Y, hY⟩ : ∃ Y, floatOfInt .f64 y = Y := ⟨_, rfl⟩
  rw [hX, hY] at H1 ⊢
  clear hx hy
  go_enter Try.func31, Try.ntmps31
  go_wp2_with fail
  refine (H1.out _).mono ?_
  rintro e w1 ⟨rfl, hb1⟩
  have e1 : (w.alloc (.cells #[.int .i64 4, .int .i64 0, .string ⟨#[]⟩, .bool false, .complex .f64 X Y] 49)).heap.size = w.heap.size + 1 := by simp
  have e2 : ((w.alloc (.cells #[.int .i64 4, .int .i64 0, .string ⟨#[]⟩, .bool false, .complex .f64 X Y] 49)).alloc (.cells #[.int .i64 0, .int .i64 0, .string ⟨#[]⟩, .bool false, .complex .f64 0 0] 49)).heap.size = w.heap.size + 2 := by simp
  have hk1 := (Blk.new (w.alloc (.cells #[.int .i64 4, .int .i64 0, .string ⟨#[]⟩, .bool false, .complex .f64 X Y] 49)) #[.int .i64 0, .int .i64 0, .string ⟨#[]⟩, .bool false, .complex .f64 0 0] 49).stay ((below_alloc _ (.cells #[.int .i64 4, .int .i64 0, .string ⟨#[]⟩, .bool false, .complex .f64 0 0] 49)).trans (hb1.mono (by simp)))
  have hk2 := (Blk.new ((w.alloc (.cells #[.int .i64 4, .int .i64 0, .string ⟨#[]⟩, .bool false, .complex .f64 X Y] 49)).alloc (.cells #[.int .i64 0, .int .i64 0, .string ⟨#[]⟩, .bool false, .complex .f64 0 0] 49)) #[.int .i64 4, .int .i64 0, .string ⟨#[]⟩, .bool false, .complex .f64 0 0] 49).stay hb1
  rw [e1] at hk1
  rw [e2] at hk2
  have HK1 : Hid (Blk w1 (w.heap.size + 1) #[.int .i64 0, .int .i64 0, .string ⟨#[]⟩, .bool false, .complex .f64 0 0] 49) := hk1
  have HK2 : Hid (Blk w1 (w.heap.size + 2) #[.int .i64 4, .int .i64 0, .string ⟨#[]⟩, .bool false, .complex .f64 0 0] 49) := hk2
  have HB1 : Hid (Below w.heap.size w w1) := (((below_alloc w _).alloc (by simp) _).alloc (by simp; omega) _).trans (hb1.mono (by simp; omega))
  clear e1 e2 hk1 hk2 hb1
  have c0 := HK2.out.cell 0 rfl
  have c1 := HK2.out.cell 1 rfl
  have c2 := HK2.out.cell 2 rfl
  have c3 := HK2.out.cell 3 rfl
  have c4 := HK2.out.cell 4 rfl
  have f4 := HK2.out.free 4
  have d0 := HK1.out.cell 0 rfl
  have d1 := HK1.out.cell 1 rfl
  have d2 := HK1.out.cell 2 rfl
  have d3 := HK1.out.cell 3 rfl
  have d4 := HK1.out.cell 4 rfl
  have g0 := HK1.out.free 0
  have g1 := HK1.out.free 1
  have g2 := HK1.out.free 2
  have g3 := HK1.out.free 3
  have g4 := HK1.out.free 4
  go_wp2
  try simp only [Exit.inBlock, Exit.then]
  refine bodyPost_ret (results_plain (by rfl) ((HK1.out.other ⟨w.heap.size + 2, 4, none⟩ _ (by simp)).set5 _ _ _ _ _)) rfl ?_
  refine ⟨rfl, ?_⟩
  exact (((((HB1.out.setCell (Nat.le_add_right _ 2) _).setCell (by simp) _).setCell (by simp) _).setCell (by simp) _).setCell (by simp) _).setCell (by simp) _

theorem ref_Plain (v : Val) (L : List Nat) (hv : Val.Bytes v L) (w : World) : Calls Try.prog 31 #[.agg v.cells] w fun e w' => e = .returned (.agg v.cells) ∧ Below w.heap.size w w' := by
  cases hv using Val.Bytes.elim with
  | whole n h => exact ref_Plain_1 n w
  | words l h hb => exact ref_Plain_2 (str l) w
  | truth t => exact ref_Plain_3 t w
  | point x y hx hy => exact ref_Plain_4 x y hx hy w

theorem Val.Bytes.order {v : Val} {L : List Nat} (hv : Val.Bytes v L) : Ieee.double.order v.re v.re = some .eq ∧ Ieee.double.order v.im v.im = some .eq := by
  have h0 : Ieee.double.order 0 0 = some .eq := by kernel_rfl
  cases hv using Val.Bytes.elim with
  | whole n h => exact ⟨h0, h0⟩
  | words l h hb => exact ⟨h0, h0⟩
  | truth t => exact ⟨h0, h0⟩
  | point x y hx hy => exact ⟨Flt.order_self x (near_abs hx), Flt.order_self y (near_abs hy)⟩

theorem run_equalIn_complex2 {P : Program} (w : World) (d : Nat) (t : TypeId) (k k' : FloatKind) (a b : Nat) (h : P.underlying t = some (.complex k')) (h1 : k.format.order a a = some .eq) (h2 : k.format.order b b = some .eq) : (Op.equalIn (d + 1) t (.complex k a b) (.complex k a b)).run P w = .ok true w := by
  simp [Op.equalIn, run_underlying h, Op.floatEq, h1, h2]

set_option maxRecDepth 100000 in
set_option maxHeartbeats 2000000 in
theorem ref_Same (v : Val) (L : List Nat) (hv : Val.Bytes v L) (w : World) : Calls Try.prog 19 #[.agg v.cells, .agg v.cells] w fun e w' => e = .returned (.bool true) ∧ Below w.heap.size w w' := by
  have hcx : ∀ (a : Addr) (m : Mode) (W : World) (x y : Nat), (store a (.complex .f64 x y) m).run Try.prog W = stored Try.prog W a (.complex .f64 x y) m := fun a m W x y => run_store _ _ _ _ _ rfl
  have HC : Hid (∀ w, Calls Try.prog 30 #[.agg v.cells] w fun e w' => e = .returned (.int .i64 0) ∧ Below w.heap.size w w') := ref_Check v hv.right
  have HP : Hid (∀ w, Calls Try.prog 31 #[.agg v.cells] w fun e w' => e = .returned (.agg v.cells) ∧ Below w.heap.size w w') := ref_Plain v L hv
  have ho := hv.order
  clear hv
  obtain ⟨vk, vw, vs, vt, vx, vy⟩ := v
  simp only [Val.cells] at *
  have hq : ∀ W : World, (Op.equalIn 9999 47 (.complex .f64 vx vy) (.complex .f64 vx vy)).run Try.prog W = .ok true W := fun W => run_equalIn_complex2 W 9998 47 .f64 .f64 vx vy Try.underlying47 ho.1 ho.2
  clear ho
  obtain ⟨W0, HW0⟩ : ∃ W0, Hid (W0 = (w.alloc (.cells #[.int .i64 vk, .int .i64 vw, .string vs, .bool vt, .complex .f64 vx vy] 49)).alloc (.cells #[.int .i64 vk, .int .i64 vw, .string vs, .bool vt, .complex .f64 vx vy] 49)) := ⟨_, rfl⟩
  have HBW : Hid (Below w.heap.size w W0) := by show Below _ _ _; rw [HW0.out]; exact (below_alloc w _).alloc (by simp) _
  have HSK : Hid (∀ w', Below W0.heap.size W0 w' → (w'.cell? ⟨w.heap.size, 0, none⟩ = some (.int .i64 vk) ∧ w'.cell? ⟨w.heap.size, 1, none⟩ = some (.int .i64 vw) ∧ w'.cell? ⟨w.heap.size, 2, none⟩ = some (.string vs) ∧ w'.cell? ⟨w.heap.size, 3, none⟩ = some (.bool vt) ∧ w'.cell? ⟨w.heap.size, 4, none⟩ = some (.complex .f64 vx vy) ∧
      w'.cell? ⟨w.heap.size + 1, 0, none⟩ = some (.int .i64 vk) ∧ w'.cell? ⟨w.heap.size + 1, 1, none⟩ = some (.int .i64 vw) ∧ w'.cell? ⟨w.heap.size + 1, 2, none⟩ = some (.string vs) ∧ w'.cell? ⟨w.heap.size + 1, 3, none⟩ = some (.bool vt) ∧ w'.cell? ⟨w.heap.size + 1, 4, none⟩ = some (.complex .f64 vx vy))) := by
    intro w' hb
    have e1 : (w.alloc (.cells #[.int .i64 vk, .int .i64 vw, .string vs, .bool vt, .complex .f64 vx vy] 49)).heap.size = w.heap.size + 1 := by simp
    have k1 : Blk w' w.heap.size #[.int .i64 vk, .int .i64 vw, .string vs, .bool vt, .complex .f64 vx vy] 49 := by
      rw [HW0.out] at hb
      exact (Blk.new w _ _).stay ((below_alloc _ _).trans (hb.mono (by simp)))
    have k2 : Blk w' (w.heap.size + 1) #[.int .i64 vk, .int .i64 vw, .string vs, .bool vt, .complex .f64 vx vy] 49 := by
      rw [HW0.out] at hb
      have := (Blk.new (w.alloc (.cells #[.int .i64 vk, .int .i64 vw, .string vs, .bool vt, .complex .f64 vx vy] 49)) #[.int .i64 vk, .int .i64 vw, .string vs, .bool vt, .complex .f64 vx vy] 49).stay hb
      rw [e1] at this
      exact this
    exact ⟨k1.cell 0 rfl, k1.cell 1 rfl, k1.cell 2 rfl, k1.cell 3 rfl, k1.cell 4 rfl, k2.cell 0 rfl, k2.cell 1 rfl, k2.cell 2 rfl, k2.cell 3 rfl, k2.cell 4 rfl⟩
  go_enter Try.func19, Try.ntmps19
  go_wp2
  rw [← HW0.out]
  have HB : Hid (Below W0.heap.size W0 W0.drew) := (Below.refl _ _).drew
  go_region_held3 (fun w' => w'.cell? ⟨w.heap.size, 0, none⟩ = some (.int .i64 vk) ∧ w'.cell? ⟨w.heap.size, 1, none⟩ = some (.int .i64 vw) ∧ w'.cell? ⟨w.heap.size, 2, none⟩ = some (.string vs) ∧ w'.cell? ⟨w.heap.size, 3, none⟩ = some (.bool vt) ∧ w'.cell? ⟨w.heap.size, 4, none⟩ = some (.complex .f64 vx vy) ∧
      w'.cell? ⟨w.heap.size + 1, 0, none⟩ = some (.int .i64 vk) ∧ w'.cell? ⟨w.heap.size + 1, 1, none⟩ = some (.int .i64 vw) ∧ w'.cell? ⟨w.heap.size + 1, 2, none⟩ = some (.string vs) ∧ w'.cell? ⟨w.heap.size + 1, 3, none⟩ = some (.bool vt) ∧ w'.cell? ⟨w.heap.size + 1, 4, none⟩ = some (.complex .f64 vx vy)) (first | exact HSK.out _ HB.out | exact HSK.out _ (Below.refl _ _).drew | exact HSK.out _ (Below.refl _ _) | fail)
    (first
      | (go_at_call 30; refine (HC.out _).mono ?_; rintro e w3 ⟨rfl, hb3⟩; have HB' : Hid (Below W0.heap.size W0 w3) := HB.out.trans (hb3.mono HB.out.size); clear hb3 HB; have HB := HB'; clear HB')
      | (go_at_call 31; refine (HP.out _).mono ?_; rintro e w5 ⟨rfl, hb5⟩; have HB' : Hid (Below W0.heap.size W0 w5) := HB.out.trans (hb5.mono HB.out.size); clear hb5 HB; have HB := HB'; clear HB'))
  go_wp2
  go_ret
  exact ⟨rfl, HBW.out.trans (HB.out.mono HBW.out.size)⟩
end Go.Proofs.Ytigmlhieibejoad
