/- grapevinelaw15.live; the answers of a nil stream. -/
import Derived.Test.YtidihfhgnjkmaabSt11
namespace Go.Proofs.Ytidihfhgnjkmaab
set_option maxRecDepth 100000
open Go.RowKit Go.Maps Go.Sort Go.Shelf

set_option maxHeartbeats 4000000 in
theorem law_live15 (w : World) : Calls Try.prog 8 #[] w fun e w' => e = .returned (.bool true) ∧ Below w.heap.size w w' := by
  go_enter Try.func8, Try.ntmps8
  go_wp2_with fail
  refine (st_New w).mono ?_
  rintro e w1 ⟨s, m, rfl, hs1, ⟨z1, z2⟩, hb1⟩
  have HS1 : Hid (Stm w1 s m none 0 0 [] []) := hs1
  have HB1 : Hid (Below w.heap.size w w1) := hb1
  clear hs1 hb1
  go_wp2_with fail
  refine (law_news w1).mono ?_
  rintro e w2 ⟨sa, sc, ia, ic, rfl, hp2, hb2⟩
  have HP2 : Hid (PcRd w2 newsP sa 1 sc ia 1 ic) := hp2
  have HS2 : Hid (Stm w2 s m none 0 0 [] []) := HS1.out.stay hb2
  have HB2 : Hid (Below w.heap.size w w2) := HB1.out.trans (hb2.mono HB1.out.size)
  clear hp2 hb2 HS1 HB1
  go_wp2_with fail
  refine (st_Learn_news HS2.out HP2.out).mono ?_
  rintro e w3 ⟨rfl, a, n, c, ba, bc, hs3, ho3, ht3⟩
  have HS3 : Hid (Stm w3 s m a n c news5 [(5, .agg #[.int .i64 5, .int .u32 1, .slice ba 1 bc])]) := hs3
  have HR3 : Hid (Rd w3 ba 1 [97]) := ho3.rd
  have HB3 : Hid (Below w.heap.size w w3) := Two.below HB2.out ht3 z1 z2 HB2.out.size
  clear hs3 ho3 ht3 HS2 HP2 HB2
  go_wp2_with fail
  refine (st_Next_1 HS3.out HR3.out).mono ?_
  rintro e w4 ⟨ba4, bc4, rfl, ho4, hb4⟩
  obtain ⟨W4, HW4⟩ : ∃ W4, Hid (W4 = w4.alloc (.cells #[.int .i64 1, .int .i64 5, .int .i64 5, .int .i64 5, .int .u32 1, .slice ba4 1 bc4] 42)) := ⟨_, rfl⟩
  have HX4 : Hid (Below w4.heap.size w4 W4) := by (show Below _ _ _); rw [HW4.out]; exact below_alloc w4 _
  have HK4 : Hid (Bk W4 w4.heap.size #[.int .i64 1, .int .i64 5, .int .i64 5, .int .i64 5, .int .u32 1, .slice ba4 1 bc4] 42) := by (show Bk _ _ _ _); rw [HW4.out]; exact Bk.new w4 _ _
  have HS4 : Hid (Stm W4 s m a n c news5 [(5, .agg #[.int .i64 5, .int .u32 1, .slice ba 1 bc])]) := (HS3.out.stay hb4).stay HX4.out
  have HR4 : Hid (Rd W4 ba 1 [97]) := (HR3.out.below hb4).below HX4.out
  have HQ4 : Hid (Rd W4 ba4 1 [97]) := ho4.rd.below HX4.out
  have HB4 : Hid (Below w.heap.size w W4) := (HB3.out.trans (hb4.mono HB3.out.size)).trans (HX4.out.mono (Nat.le_trans HB3.out.size hb4.size))
  clear ho4 hb4 HS3 HR3 HB3
  go_wp2_with fail
  rw [← HW4.out]
  refine (st_Next_2 HS4.out HR4.out).mono ?_
  rintro e w5 ⟨rfl, hb5⟩
  obtain ⟨W5, HW5⟩ : ∃ W5, Hid (W5 = w5.alloc (.cells #[.int .i64 0, .int .i64 0, .int .i64 5, .int .i64 0, .int .u32 0, .slice none 0 0] 42)) := ⟨_, rfl⟩
  have HX5 : Hid (Below w5.heap.size w5 W5) := by (show Below _ _ _); rw [HW5.out]; exact below_alloc w5 _
  have hb45 : Below W4.heap.size W4 W5 := hb5.trans (HX5.out.mono hb5.size)
  have HB5 : Hid (Below w.heap.size w W5) := HB4.out.trans (hb45.mono HB4.out.size)
  have hk5 := HK4.out.stay hb45
  have hy5 : Bk W5 w5.heap.size #[.int .i64 0, .int .i64 0, .int .i64 5, .int .i64 0, .int .u32 0, .slice none 0 0] 42 := by rw [HW5.out]; exact Bk.new w5 _ _
  have c0 : W5.cell? ⟨w4.heap.size, 0, none⟩ = some (.int .i64 1) := hk5.cell 0 rfl
  have c1 : W5.cell? ⟨w4.heap.size, 1, none⟩ = some (.int .i64 5) := hk5.cell 1 rfl
  have c5 : W5.cell? ⟨w4.heap.size, 5, none⟩ = some (.slice ba4 1 bc4) := hk5.cell 5 rfl
  have y0 : W5.cell? ⟨w5.heap.size, 0, none⟩ = some (.int .i64 0) := hy5.cell 0 rfl
  have y2 : W5.cell? ⟨w5.heap.size, 2, none⟩ = some (.int .i64 5) := hy5.cell 2 rfl
  have hcv : (convert 32 9 (.slice ba4 1 bc4)).run Try.prog W5 = .ok (.string ⟨#[97]⟩) W5 := by
    have := conv_rd (HQ4.out.below hb45) bc4
    exact this
  clear hb5 hb45 hk5 hy5 HS4 HR4 HQ4 HK4 HX4
  go_upto_region 5 with fail
  rw [← HW5.out]
  go_wp2
  go_ret
  exact ⟨rfl, HB5.out⟩
/-! A nil stream. -/
theorem nil_Learn (w : World) (p : Pc) (sa : Option Addr) (sn sc : Nat) (ia : Option Addr) (im ic : Nat) : Calls Try.prog 4 #[.pointer none, p.val sa sn sc ia im ic] w fun e w' => e = .returned (.tuple #[.bool false, .int .i64 1]) ∧ Below w.heap.size w w' := by
  obtain ⟨pk, pp, ps, pn, pf, pt, pl, pi⟩ := p
  unfold Pc.val
  simp only
  go_enter Try.func4, Try.ntmps4
  go_wp2
  go_ret2
  exact ⟨rfl, below_alloc w _⟩
theorem nil_Lose (w : World) (t : Int) : Calls Try.prog 9 #[.pointer none, .int .i64 t] w fun e w' => e = .returned (.int .i64 1) ∧ w' = w := by
  go_enter Try.func9, Try.ntmps9
  go_wp2
  go_ret
  exact ⟨rfl, rfl⟩
theorem nil_Map (w : World) : Calls Try.prog 10 #[.pointer none] w fun e w' => e = .returned (.slice none 0 0) ∧ w' = w := by
  go_enter Try.func10, Try.ntmps10
  go_wp2
  go_ret
  exact ⟨rfl, rfl⟩
theorem nil_Fork (w : World) : Calls Try.prog 11 #[.pointer none] w fun e w' => e = .returned (.pointer none) ∧ w' = w := by
  go_enter Try.func11, Try.ntmps11
  go_wp2
  go_ret
  exact ⟨rfl, rfl⟩
theorem nil_Tell (w : World) (a b c l : Int) : Calls Try.prog 6 #[.pointer none, .int .i64 a, .int .i64 b, .int .i64 c, .int .u32 l] w fun e w' => e = .returned (.tuple #[.slice none 0 0, .int .i64 1]) ∧ w' = w := by
  go_enter Try.func6, Try.ntmps6
  go_wp2
  go_ret2
  exact ⟨rfl, rfl⟩
end Go.Proofs.Ytidihfhgnjkmaab
