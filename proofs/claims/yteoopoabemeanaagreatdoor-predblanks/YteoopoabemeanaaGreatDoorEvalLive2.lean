/- pred.tells of live's atoms. -/
import Derived.Test.YteoopoabemeanaaGreatDoorEvalLive
import Derived.Deep.RegionHeld3
namespace Go.Proofs.YteoopoabemeanaaGreatDoor
set_option maxRecDepth 100000
open Go.RowKit

theorem event_Get_b (g : Nat) (w : World) (hg : Blk w g four 42) : Calls Tryz.prog 50 #[ev g, .string ⟨#[98]⟩] w fun e w' => e = .returned (.tuple #[.agg #[.int .i64 0, .int .i64 0, .string ⟨#[]⟩, .bool false, .complex .f64 0 0], .bool false]) ∧ Below w.heap.size w w' := by
  have hcx : ∀ (a : Addr) (m : Mode) (W : World) (x y : Nat), (store a (.complex .f64 x y) m).run Tryz.prog W = stored Tryz.prog W a (.complex .f64 x y) m := fun a m W x y => run_store _ _ _ _ _ rfl
  have HG : Hid (Blk w g four 42) := hg
  simp only [ev] at *
  clear hg
  go_enter Tryz.func50, Tryz.ntmps50
  go_wp2
  obtain ⟨W, HW⟩ : ∃ W, Hid (W = (w.alloc (.cells #[.slice (some ⟨g, 0, none⟩) 1 1, .slice none 0 0] 46)).alloc (.cells #[.int .i64 0, .int .i64 0, .string ⟨#[]⟩, .bool false, .complex .f64 0 0] 40)) := ⟨_, rfl⟩
  have HBW : Hid (Below w.heap.size w W) := by show Below _ _ _; rw [HW.out]; exact (below_alloc w _).alloc (by simp) _
  have HL : Hid (Blk W (w.heap.size + 1) #[.int .i64 0, .int .i64 0, .string ⟨#[]⟩, .bool false, .complex .f64 0 0] 40) := by
    show Blk _ _ _ _
    rw [HW.out]
    have := Blk.new (w.alloc (.cells #[.slice (some ⟨g, 0, none⟩) 1 1, .slice none 0 0] 46)) #[.int .i64 0, .int .i64 0, .string ⟨#[]⟩, .bool false, .complex .f64 0 0] 40
    simpa using this
  rw [← HW.out]
  go_loopw [11] (fun t11 wr => (t11 = .int .i64 0 ∨ t11 = .int .i64 1) ∧ Hid (Below W.heap.size W wr)) (fun t11 _ => 1 - (intOf t11).toNat)
  case atStart => exact ⟨.inl rfl, Below.refl _ _⟩
  case round =>
    obtain ⟨rfl | rfl, HB⟩ := hrel
    · have HG1 : Hid (Blk wr g four 42) := (HG.out.stay HBW.out).stay HB.out
      have c0 : wr.cell? ⟨g, 0, none⟩ = some (.string ⟨#[97]⟩) := HG1.out.cell 0 rfl
      have c1 : wr.cell? ⟨g, 1, none⟩ = some (.int .i64 1) := HG1.out.cell 1 rfl
      have c2 : wr.cell? ⟨g, 2, none⟩ = some (.int .i64 4) := HG1.out.cell 2 rfl
      have c3 : wr.cell? ⟨g, 3, none⟩ = some (.string ⟨#[]⟩) := HG1.out.cell 3 rfl
      have c4 : wr.cell? ⟨g, 4, none⟩ = some (.bool false) := HG1.out.cell 4 rfl
      have c5 : wr.cell? ⟨g, 5, none⟩ = some (.complex .f64 0 0) := HG1.out.cell 5 rfl
      go_wp2
      go_roundw
      case rel => exact ⟨.inr rfl, HB.out.alloc HB.out.size _⟩
      case measure => simp [intOf]
    · have HL1 : Hid (Blk wr (w.heap.size + 1) #[.int .i64 0, .int .i64 0, .string ⟨#[]⟩, .bool false, .complex .f64 0 0] 40) := HL.out.stay HB.out
      have HBA : Hid (Below w.heap.size w wr) := HBW.out.trans (HB.out.mono HBW.out.size)
      have d0 := HL1.out.cell 0 rfl
      have d1 := HL1.out.cell 1 rfl
      have d2 := HL1.out.cell 2 rfl
      have d3 := HL1.out.cell 3 rfl
      have d4 := HL1.out.cell 4 rfl
      have f0 := HL1.out.free 0
      have f1 := HL1.out.free 1
      have f2 := HL1.out.free 2
      have f3 := HL1.out.free 3
      have f4 := HL1.out.free 4
      go_wp2
      try simp only [Exit.inBlock, Exit.then]
      refine bodyPost_ret (results_get (by rfl) (by rfl) (HL1.out.setW _ _ _ _ _)) rfl ?_
      exact ⟨rfl, ((((HBA.out.setCell (by simp) _).setCell (by simp) _).setCell (by simp) _).setCell (by simp) _).setCell (by simp) _⟩

theorem check_both (w : World) : Calls Tryz.prog 85 #[.agg four4, .agg five5] w fun e w' => e = .returned (.int .i64 0) ∧ Below w.heap.size w w' := by
  have hcx : ∀ (a : Addr) (m : Mode) (W : World) (x y : Nat), (store a (.complex .f64 x y) m).run Tryz.prog W = stored Tryz.prog W a (.complex .f64 x y) m := fun a m W x y => run_store _ _ _ _ _ rfl
  have H4 : Hid (∀ w : World, Calls Tryz.prog 33 #[.agg four4] w fun e w' => e = .returned (.int .i64 0) ∧ Below w.heap.size w w') := check_four
  have H5 : Hid (∀ w : World, Calls Tryz.prog 33 #[.agg five5] w fun e w' => e = .returned (.int .i64 0) ∧ Below w.heap.size w w') := check_five
  simp only [four4, five5] at *
  go_enter Tryz.func85, Tryz.ntmps85
  go_wp2_with fail
  refine (H4.out _).mono ?_
  rintro e w1 ⟨rfl, hb1⟩
  have HK : Hid (Blk w1 (w.heap.size + 1) #[.int .i64 1, .int .i64 5, .string ⟨#[]⟩, .bool false, .complex .f64 0 0] 40) := by
    show Blk _ _ _ _
    have := (Blk.new (w.alloc (.cells #[.int .i64 1, .int .i64 4, .string ⟨#[]⟩, .bool false, .complex .f64 0 0] 40)) #[.int .i64 1, .int .i64 5, .string ⟨#[]⟩, .bool false, .complex .f64 0 0] 40).stay hb1
    simpa using this
  have HB1 : Hid (Below w.heap.size w w1) := ((below_alloc w _).alloc (by simp) _).trans (hb1.mono (by simp; omega))
  clear hb1
  have d0 := HK.out.cell 0 rfl
  have d1 := HK.out.cell 1 rfl
  have d2 := HK.out.cell 2 rfl
  have d3 := HK.out.cell 3 rfl
  have d4 := HK.out.cell 4 rfl
  go_wp2_with fail
  refine (H5.out _).mono ?_
  rintro e w2 ⟨rfl, hb2⟩
  have HB2 : Hid (Below w.heap.size w w2) := HB1.out.trans (hb2.mono HB1.out.size)
  clear hb2
  go_wp2
  go_ret
  exact ⟨rfl, HB2.out⟩

theorem two_blocks {w w1 : World} {cs ds : Array Value} (hb1 : Below ((w.alloc (.cells cs 40)).alloc (.cells ds 40)).heap.size ((w.alloc (.cells cs 40)).alloc (.cells ds 40)) w1) : Blk w1 w.heap.size cs 40 ∧ Blk w1 (w.heap.size + 1) ds 40 ∧ Below w.heap.size w w1 := by
  refine ⟨((Blk.new w _ _).stay (below_alloc _ _)).stay hb1, ?_, ((below_alloc w _).alloc (by simp) _).trans (hb1.mono (by simp; omega))⟩
  have := (Blk.new (w.alloc (.cells cs 40)) ds 40).stay hb1
  simpa using this

theorem value_Less_live (w : World) : Calls Tryz.prog 86 #[.agg four4, .agg five5] w fun e w' => e = .returned (.tuple #[.bool true, .int .i64 0]) ∧ Below w.heap.size w w' := by
  have hcx : ∀ (a : Addr) (m : Mode) (W : World) (x y : Nat), (store a (.complex .f64 x y) m).run Tryz.prog W = stored Tryz.prog W a (.complex .f64 x y) m := fun a m W x y => run_store _ _ _ _ _ rfl
  have HC : Hid (∀ w : World, Calls Tryz.prog 85 #[.agg four4, .agg five5] w fun e w' => e = .returned (.int .i64 0) ∧ Below w.heap.size w w') := check_both
  simp only [four4, five5] at *
  go_enter Tryz.func86, Tryz.ntmps86
  go_wp2_with fail
  refine (HC.out _).mono ?_
  rintro e w1 ⟨rfl, hb1⟩
  obtain ⟨k1, k2, hb⟩ := two_blocks hb1
  have HB1 : Hid (Below w.heap.size w w1) := hb
  have d0 := k1.cell 0 rfl
  have d1 := k1.cell 1 rfl
  have e0 := k2.cell 0 rfl
  have e1 := k2.cell 1 rfl
  clear hb1 hb k1 k2
  go_wp2
  go_ret2
  exact ⟨rfl, HB1.out⟩
theorem pred_less_live (w : World) : Calls Tryz.prog 67 #[.agg four4, .agg five5] w fun e w' => e = .returned (.bool true) ∧ Below w.heap.size w w' := by
  have hcx : ∀ (a : Addr) (m : Mode) (W : World) (x y : Nat), (store a (.complex .f64 x y) m).run Tryz.prog W = stored Tryz.prog W a (.complex .f64 x y) m := fun a m W x y => run_store _ _ _ _ _ rfl
  have HC : Hid (∀ w : World, Calls Tryz.prog 86 #[.agg four4, .agg five5] w fun e w' => e = .returned (.tuple #[.bool true, .int .i64 0]) ∧ Below w.heap.size w w') := value_Less_live
  simp only [four4, five5] at *
  go_enter Tryz.func67, Tryz.ntmps67
  go_wp2_with fail
  refine (HC.out _).mono ?_
  rintro e w1 ⟨rfl, hb1⟩
  obtain ⟨_, _, hb⟩ := two_blocks hb1
  have HB1 : Hid (Below w.heap.size w w1) := hb
  clear hb1 hb
  go_wp2
  go_ret
  exact ⟨rfl, HB1.out⟩
theorem wanted_live (w : World) : Calls Tryz.prog 51 #[.agg q0.cells] w fun e w' => e = .returned (.int .i64 1) ∧ Below w.heap.size w w' := by
  have hcx : ∀ (a : Addr) (m : Mode) (W : World) (x y : Nat), (store a (.complex .f64 x y) m).run Tryz.prog W = stored Tryz.prog W a (.complex .f64 x y) m := fun a m W x y => run_store _ _ _ _ _ rfl
  simp only [q0, Tm.cells]
  go_enter Tryz.func51, Tryz.ntmps51
  go_wp2
  go_ret
  exact ⟨rfl, below_alloc w _⟩
theorem compares_live (w : World) : Calls Tryz.prog 52 #[.agg q0.cells, .agg four4] w fun e w' => e = .returned (.bool true) ∧ Below w.heap.size w w' := by
  have hcx : ∀ (a : Addr) (m : Mode) (W : World) (x y : Nat), (store a (.complex .f64 x y) m).run Tryz.prog W = stored Tryz.prog W a (.complex .f64 x y) m := fun a m W x y => run_store _ _ _ _ _ rfl
  have HC : Hid (∀ w : World, Calls Tryz.prog 67 #[.agg four4, .agg five5] w fun e w' => e = .returned (.bool true) ∧ Below w.heap.size w w') := pred_less_live
  simp only [q0, Tm.cells, four4, five5] at *
  go_enter Tryz.func52, Tryz.ntmps52
  go_wp2_with fail
  refine (HC.out _).mono ?_
  rintro e w1 ⟨rfl, hb1⟩
  have HB1 : Hid (Below w.heap.size w w1) := ((below_alloc w _).alloc (by simp) _).trans (hb1.mono (by simp; omega))
  clear hb1
  go_wp2
  go_ret
  exact ⟨rfl, HB1.out⟩

theorem tells_b (g : Nat) (w : World) (hg : Blk w g four 42) : Calls Tryz.prog 34 #[.agg q1.cells, ev g] w fun e w' => e = .returned (.bool false) ∧ Below w.heap.size w w' := by
  have hcx : ∀ (a : Addr) (m : Mode) (W : World) (x y : Nat), (store a (.complex .f64 x y) m).run Tryz.prog W = stored Tryz.prog W a (.complex .f64 x y) m := fun a m W x y => run_store _ _ _ _ _ rfl
  have HG : Hid (Blk w g four 42) := hg
  have HE : Hid (∀ w : World, Blk w g four 42 → Calls Tryz.prog 50 #[ev g, .string ⟨#[98]⟩] w fun e w' => e = .returned (.tuple #[.agg #[.int .i64 0, .int .i64 0, .string ⟨#[]⟩, .bool false, .complex .f64 0 0], .bool false]) ∧ Below w.heap.size w w') := event_Get_b g
  simp only [q1, Tm.cells, ev, Val.zero] at *
  clear hg
  go_enter Tryz.func34, Tryz.ntmps34
  go_wp2_with fail
  refine (HE.out _ (HG.out.stay ((below_alloc w _).alloc (by simp) _))).mono ?_
  rintro e w1 ⟨rfl, hb1⟩
  have HB1 : Hid (Below w.heap.size w w1) := ((below_alloc w _).alloc (by simp) _).trans (hb1.mono (by simp; omega))
  clear hb1
  go_wp2
  go_ret
  exact ⟨rfl, HB1.out.alloc HB1.out.size _⟩

theorem tells_a (g : Nat) (w : World) (hg : Blk w g four 42) : Calls Tryz.prog 34 #[.agg q0.cells, ev g] w fun e w' => e = .returned (.bool true) ∧ Below w.heap.size w w' := by
  have hcx : ∀ (a : Addr) (m : Mode) (W : World) (x y : Nat), (store a (.complex .f64 x y) m).run Tryz.prog W = stored Tryz.prog W a (.complex .f64 x y) m := fun a m W x y => run_store _ _ _ _ _ rfl
  have HG : Hid (Blk w g four 42) := hg
  have HE : Hid (∀ w : World, Blk w g four 42 → Calls Tryz.prog 50 #[ev g, .string ⟨#[97]⟩] w fun e w' => e = .returned (.tuple #[.agg four4, .bool true]) ∧ Below w.heap.size w w') := event_Get_a g
  have HWK : Hid (∀ w : World, Calls Tryz.prog 51 #[.agg q0.cells] w fun e w' => e = .returned (.int .i64 1) ∧ Below w.heap.size w w') := wanted_live
  have HCO : Hid (∀ w : World, Calls Tryz.prog 52 #[.agg q0.cells, .agg four4] w fun e w' => e = .returned (.bool true) ∧ Below w.heap.size w w') := compares_live
  simp only [q0, Tm.cells, ev, four4] at *
  clear hg
  go_enter Tryz.func34, Tryz.ntmps34
  go_wp2_with fail
  refine (HE.out _ (HG.out.stay ((below_alloc w _).alloc (by simp) _))).mono ?_
  rintro e w1 ⟨rfl, hb1⟩
  have HB1 : Hid (Below w.heap.size w w1) := ((below_alloc w _).alloc (by simp) _).trans (hb1.mono (by simp; omega))
  have HK1 : Hid (Blk w1 w.heap.size #[.int .i64 ((3 : Nat) : Int), .string ⟨#[97]⟩, .int .i64 ((5 : Nat) : Int), .int .i64 1, .int .i64 5, .string ⟨#[]⟩, .bool false, .complex .f64 0 0, .int .i64 ((0 : Nat) : Int)] 52) := ((Blk.new w _ _).stay (below_alloc _ _)).stay hb1
  clear hb1
  obtain ⟨W0, HW0⟩ : ∃ W0, Hid (W0 = w1.alloc (.cells #[.int .i64 1, .int .i64 4, .string ⟨#[]⟩, .bool false, .complex .f64 0 0] 40)) := ⟨_, rfl⟩
  have HBW : Hid (Below w.heap.size w W0) := by show Below _ _ _; rw [HW0.out]; exact HB1.out.alloc HB1.out.size _
  have HSK : Hid (∀ w', Below W0.heap.size W0 w' → (w'.cell? ⟨w.heap.size, 0, none⟩ = some (.int .i64 3) ∧ w'.cell? ⟨w.heap.size, 1, none⟩ = some (.string ⟨#[97]⟩) ∧ w'.cell? ⟨w.heap.size, 2, none⟩ = some (.int .i64 5) ∧ w'.cell? ⟨w.heap.size, 3, none⟩ = some (.int .i64 1) ∧ w'.cell? ⟨w.heap.size, 4, none⟩ = some (.int .i64 5) ∧ w'.cell? ⟨w.heap.size, 5, none⟩ = some (.string ⟨#[]⟩) ∧ w'.cell? ⟨w.heap.size, 6, none⟩ = some (.bool false) ∧ w'.cell? ⟨w.heap.size, 7, none⟩ = some (.complex .f64 0 0) ∧ w'.cell? ⟨w.heap.size, 8, none⟩ = some (.int .i64 0) ∧
      w'.cell? ⟨w1.heap.size, 0, none⟩ = some (.int .i64 1) ∧ w'.cell? ⟨w1.heap.size, 1, none⟩ = some (.int .i64 4) ∧ w'.cell? ⟨w1.heap.size, 2, none⟩ = some (.string ⟨#[]⟩) ∧ w'.cell? ⟨w1.heap.size, 3, none⟩ = some (.bool false) ∧ w'.cell? ⟨w1.heap.size, 4, none⟩ = some (.complex .f64 0 0))) := by
    intro w' hb
    rw [HW0.out] at hb
    have k1 := (HK1.out.stay (below_alloc w1 _)).stay hb
    have k2 := (Blk.new w1 #[.int .i64 1, .int .i64 4, .string ⟨#[]⟩, .bool false, .complex .f64 0 0] 40).stay hb
    exact ⟨k1.cell 0 rfl, k1.cell 1 rfl, k1.cell 2 rfl, k1.cell 3 rfl, k1.cell 4 rfl, k1.cell 5 rfl, k1.cell 6 rfl, k1.cell 7 rfl, k1.cell 8 rfl, k2.cell 0 rfl, k2.cell 1 rfl, k2.cell 2 rfl, k2.cell 3 rfl, k2.cell 4 rfl⟩
  obtain ⟨s0, s1, s2, s3, s4, s5, s6, s7, s8, _⟩ := HSK.out W0 (Below.refl _ _)
  rw [HW0.out] at s0 s1 s2 s3 s4 s5 s6 s7 s8
  go_wp2
  rw [← HW0.out]
  have HB : Hid (Below W0.heap.size W0 W0.drew) := (Below.refl _ _).drew
  clear s0 s1 s2 s3 s4 s5 s6 s7 s8
  go_region_held3 (fun w' => w'.cell? ⟨w.heap.size, 0, none⟩ = some (.int .i64 3) ∧ w'.cell? ⟨w.heap.size, 1, none⟩ = some (.string ⟨#[97]⟩) ∧ w'.cell? ⟨w.heap.size, 2, none⟩ = some (.int .i64 5) ∧ w'.cell? ⟨w.heap.size, 3, none⟩ = some (.int .i64 1) ∧ w'.cell? ⟨w.heap.size, 4, none⟩ = some (.int .i64 5) ∧ w'.cell? ⟨w.heap.size, 5, none⟩ = some (.string ⟨#[]⟩) ∧ w'.cell? ⟨w.heap.size, 6, none⟩ = some (.bool false) ∧ w'.cell? ⟨w.heap.size, 7, none⟩ = some (.complex .f64 0 0) ∧ w'.cell? ⟨w.heap.size, 8, none⟩ = some (.int .i64 0) ∧
      w'.cell? ⟨w1.heap.size, 0, none⟩ = some (.int .i64 1) ∧ w'.cell? ⟨w1.heap.size, 1, none⟩ = some (.int .i64 4) ∧ w'.cell? ⟨w1.heap.size, 2, none⟩ = some (.string ⟨#[]⟩) ∧ w'.cell? ⟨w1.heap.size, 3, none⟩ = some (.bool false) ∧ w'.cell? ⟨w1.heap.size, 4, none⟩ = some (.complex .f64 0 0)) (first | exact HSK.out _ HB.out | exact HSK.out _ (Below.refl _ _).drew | exact HSK.out _ (Below.refl _ _) | fail)
    (first
      | (go_at_call 51; refine (HWK.out _).mono ?_; rintro e w3 ⟨rfl, hb3⟩; have HB' : Hid (Below W0.heap.size W0 w3) := HB.out.trans (hb3.mono HB.out.size); clear hb3 HB; have HB := HB'; clear HB')
      | (go_at_call 52; refine (HCO.out _).mono ?_; rintro e w5 ⟨rfl, hb5⟩; have HB' : Hid (Below W0.heap.size W0 w5) := HB.out.trans (hb5.mono HB.out.size); clear hb5 HB; have HB := HB'; clear HB'))
  go_wp2
  go_ret
  exact ⟨rfl, HBW.out.trans (HB.out.mono HBW.out.size)⟩
end Go.Proofs.YteoopoabemeanaaGreatDoor
