/- A pack of texts: EvalLive EvalLive2 EvalLive3. -/
import Derived.Test.YteoopoabemeanaaGreatDoorPaLive
import Derived.LoopN
import Derived.Lib.MinMaxS
import Derived.Deep.RegionHeld3
/- pred.Eval of live's terms and event; 'live' tells true. -/
namespace Go.Proofs.YteoopoabemeanaaGreatDoor
set_option maxRecDepth 100000
open Go.RowKit

/-- The event's one attribute: a is 4. -/
def four : Array Value := #[.string ⟨#[97]⟩, .int .i64 1, .int .i64 4, .string ⟨#[]⟩, .bool false, .complex .f64 0 0]
def four4 : Array Value := #[.int .i64 1, .int .i64 4, .string ⟨#[]⟩, .bool false, .complex .f64 0 0]
def five5 : Array Value := #[.int .i64 1, .int .i64 5, .string ⟨#[]⟩, .bool false, .complex .f64 0 0]
def ev (g : Nat) : Value := .agg #[.slice (some ⟨g, 0, none⟩) 1 1, .slice none 0 0]

theorem check_name_a (w : World) : Calls Tryz.prog 32 #[.string ⟨#[97]⟩, .string ⟨#[]⟩] w fun e w' => e = .returned (.int .i64 0) ∧ w' = w := by
  go_enter Tryz.func32, Tryz.ntmps32
  go_wp2_with fail
  refine (event_Name ⟨#[97]⟩ (by decide) w).mono ?_
  rintro e w1 ⟨⟨b, rfl, hb⟩, rfl⟩
  obtain rfl := hb.2 name_a
  clear hb
  go_wp2
  go_ret
  exact ⟨rfl, rfl⟩
theorem check_four (w : World) : Calls Tryz.prog 33 #[.agg four4] w fun e w' => e = .returned (.int .i64 0) ∧ Below w.heap.size w w' := value_Check ⟨1, 4, ⟨#[]⟩, false, 0, 0⟩ (.whole _ _ _ _ _ (by omega)) w
theorem check_five (w : World) : Calls Tryz.prog 33 #[.agg five5] w fun e w' => e = .returned (.int .i64 0) ∧ Below w.heap.size w w' := value_Check ⟨1, 5, ⟨#[]⟩, false, 0, 0⟩ (.whole _ _ _ _ _ (by omega)) w

theorem event_Check_live (g : Nat) (w : World) (hg : Blk w g four 42) : Calls Tryz.prog 19 #[ev g] w fun e w' => e = .returned (.int .i64 0) ∧ Below w.heap.size w w' := by
  have hcx : ∀ (a : Addr) (m : Mode) (W : World) (x y : Nat), (store a (.complex .f64 x y) m).run Tryz.prog W = stored Tryz.prog W a (.complex .f64 x y) m := fun a m W x y => run_store _ _ _ _ _ rfl
  have HG : Hid (Blk w g four 42) := hg
  have H4 : Hid (∀ w : World, Calls Tryz.prog 33 #[.agg four4] w fun e w' => e = .returned (.int .i64 0) ∧ Below w.heap.size w w') := check_four
  simp only [four4, ev] at *
  clear hg
  go_enter Tryz.func19, Tryz.ntmps19
  go_wp2
  go_loopw [3, 21] (fun t3 t21 wr => ((t3 = .string ⟨#[]⟩ ∧ t21 = .int .i64 0) ∨ (t3 = .string ⟨#[97]⟩ ∧ t21 = .int .i64 1)) ∧ Hid (Below w.heap.size w wr)) (fun _ t21 _ => 1 - (intOf t21).toNat)
  case atStart => exact ⟨.inl ⟨rfl, rfl⟩, below_alloc w _⟩
  case round =>
    obtain ⟨⟨rfl, rfl⟩ | ⟨rfl, rfl⟩, HB⟩ := hrel
    · have HG1 : Hid (Blk wr g four 42) := HG.out.stay HB.out
      have c0 : wr.cell? ⟨g, 0, none⟩ = some (.string ⟨#[97]⟩) := HG1.out.cell 0 rfl
      have c1 : wr.cell? ⟨g, 1, none⟩ = some (.int .i64 1) := HG1.out.cell 1 rfl
      have c2 : wr.cell? ⟨g, 2, none⟩ = some (.int .i64 4) := HG1.out.cell 2 rfl
      have c3 : wr.cell? ⟨g, 3, none⟩ = some (.string ⟨#[]⟩) := HG1.out.cell 3 rfl
      have c4 : wr.cell? ⟨g, 4, none⟩ = some (.bool false) := HG1.out.cell 4 rfl
      have c5 : wr.cell? ⟨g, 5, none⟩ = some (.complex .f64 0 0) := HG1.out.cell 5 rfl
      go_wp2_with fail
      refine (check_name_a _).mono ?_
      rintro e w1 ⟨rfl, rfl⟩
      go_wp2_with fail
      refine (H4.out _).mono ?_
      rintro e w2 ⟨rfl, hb2⟩
      have HB2 : Hid (Below w.heap.size w w2) := (HB.out.alloc HB.out.size _).trans (hb2.mono (HB.out.alloc HB.out.size _).size)
      have d0 : w2.cell? ⟨wr.heap.size, 0, none⟩ = some (.string ⟨#[97]⟩) := ((Blk.new wr _ _).stay hb2).cell 0 rfl
      clear hb2
      go_wp2
      go_roundw
      case rel => exact ⟨.inr ⟨rfl, rfl⟩, HB2⟩
      case measure => simp [intOf]
    · go_wp2
      go_ret
      exact ⟨rfl, HB.out⟩

theorem results_get {w : World} {tmps : Array Value} {g : Nat} {t : TypeId} {b v0 v1 v2 v3 v4 : Value} (h4 : tmps[4]?.getD undef = .pointer (some ⟨g, 0, none⟩)) (h5 : tmps[5]?.getD undef = b) (k : Blk w g #[v0, v1, v2, v3, v4] t) : (results Tryz.f50 tmps).run Tryz.prog w = .ok (.tuple #[.agg #[v0, v1, v2, v3, v4], b]) w := by
  have k0 := k.cell 0 rfl
  have k1 := k.cell 1 rfl
  have k2 := k.cell 2 rfl
  have k3 := k.cell 3 rfl
  have k4 := k.cell 4 rfl
  simp [results, Tryz.results50, go_sem, h4, h5, k0, k1, k2, k3, k4]

theorem event_Get_a (g : Nat) (w : World) (hg : Blk w g four 42) : Calls Tryz.prog 50 #[ev g, .string ⟨#[97]⟩] w fun e w' => e = .returned (.tuple #[.agg four4, .bool true]) ∧ Below w.heap.size w w' := by
  have hcx : ∀ (a : Addr) (m : Mode) (W : World) (x y : Nat), (store a (.complex .f64 x y) m).run Tryz.prog W = stored Tryz.prog W a (.complex .f64 x y) m := fun a m W x y => run_store _ _ _ _ _ rfl
  have HG : Hid (Blk w g four 42) := hg
  simp only [four4, ev] at *
  clear hg
  go_enter Tryz.func50, Tryz.ntmps50
  go_wp2
  obtain ⟨W, HW⟩ : ∃ W, Hid (W = (w.alloc (.cells #[.slice (some ⟨g, 0, none⟩) 1 1, .slice none 0 0] 46)).alloc (.cells #[.int .i64 0, .int .i64 0, .string ⟨#[]⟩, .bool false, .complex .f64 0 0] 40)) := ⟨_, rfl⟩
  have HBW : Hid (Below w.heap.size w W) := by show Below _ _ _; rw [HW.out]; exact (below_alloc w _).alloc (by simp) _
  have HL : Hid (Blk W (w.heap.size + 1) #[.int .i64 0, .int .i64 0, .string ⟨#[]⟩, .bool false, .complex .f64 0 0] 40) := by
    show Blk _ _ _ _
    rw [HW.out]
    have := Blk.new (w.alloc (.cells #[.slice (some ⟨g, 0, none⟩) 1 1, .slice none 0 0] 46)) #[.int .i64 0, .int .i64 0, .string ⟨#[]⟩, .bool false, .complex .f64 0 0] 40
    simpa using this
  rw [← HW.out]
  go_loopw [11] (fun t11 wr => t11 = .int .i64 0 ∧ wr = W) (fun t11 _ => 1 - (intOf t11).toNat)
  case atStart => exact ⟨rfl, rfl⟩
  case round =>
    obtain ⟨rfl, rfl⟩ := hrel
    have HG1 : Hid (Blk wr g four 42) := HG.out.stay HBW.out
    have c0 : wr.cell? ⟨g, 0, none⟩ = some (.string ⟨#[97]⟩) := HG1.out.cell 0 rfl
    have c1 : wr.cell? ⟨g, 1, none⟩ = some (.int .i64 1) := HG1.out.cell 1 rfl
    have c2 : wr.cell? ⟨g, 2, none⟩ = some (.int .i64 4) := HG1.out.cell 2 rfl
    have c3 : wr.cell? ⟨g, 3, none⟩ = some (.string ⟨#[]⟩) := HG1.out.cell 3 rfl
    have c4 : wr.cell? ⟨g, 4, none⟩ = some (.bool false) := HG1.out.cell 4 rfl
    have c5 : wr.cell? ⟨g, 5, none⟩ = some (.complex .f64 0 0) := HG1.out.cell 5 rfl
    have HLA : Hid (Blk (wr.alloc (.cells four 42)) (w.heap.size + 1) #[.int .i64 0, .int .i64 0, .string ⟨#[]⟩, .bool false, .complex .f64 0 0] 40) := HL.out.stay (below_alloc wr _)
    have HBA : Hid (Below w.heap.size w (wr.alloc (.cells four 42))) := HBW.out.alloc HBW.out.size _
    simp only [four] at HLA HBA
    have d0 := HLA.out.cell 0 rfl
    have d1 := HLA.out.cell 1 rfl
    have d2 := HLA.out.cell 2 rfl
    have d3 := HLA.out.cell 3 rfl
    have d4 := HLA.out.cell 4 rfl
    have f0 := HLA.out.free 0
    have f1 := HLA.out.free 1
    have f2 := HLA.out.free 2
    have f3 := HLA.out.free 3
    have f4 := HLA.out.free 4
    go_wp2
    try simp only [Exit.inBlock, Exit.then]
    refine bodyPost_ret (results_get (by rfl) (by rfl) (HLA.out.setW _ _ _ _ _)) rfl ?_
    exact ⟨rfl, ((((HBA.out.setCell (by simp) _).setCell (by simp) _).setCell (by simp) _).setCell (by simp) _).setCell (by simp) _⟩
end Go.Proofs.YteoopoabemeanaaGreatDoor
/- pred.tells of live's atoms. -/
namespace Go.Proofs.YteoopoabemeanaaGreatDoor
set_option maxRecDepth 100000
open Go.RowKit

theorem event_Get_b (g : Nat) (w : World) (hg : Blk w g four 42) : Calls Tryz.prog 50 #[ev g, .string ⟨#[98]⟩] w fun e w' => e = .returned (.tuple #[.agg #[.int .i64 0, .int .i64 0, .string ⟨#[]⟩, .bool false, .complex .f64 0 0], .bool false]) ∧ Below w.heap.size w w' := by
  have hcx : ∀ (a : Addr) (m : Mode) (W : World) (x y : Nat), (store a (.complex .f64 x y) m).run Tryz.prog W = stored Tryz.prog W a (.complex .f64 x y) m := fun a m W x y => run_store _ _ _ _ _ rfl
  have HG : Hid (Blk w g four 42) := hg
  simp only [ev] at *
  clear hg
  go_enter Tryz.func50, Tryz.ntmps50
  go_wp2
  obtain ⟨W, HW⟩ : ∃ W, Hid (W = (w.alloc (.cells #[.slice (some ⟨g, 0, none⟩) 1 1, .slice none 0 0] 46)).alloc (.cells #[.int .i64 0, .int .i64 0, .string ⟨#[]⟩, .bool false, .complex .f64 0 0] 40)) := ⟨_, rfl⟩
  have HBW : Hid (Below w.heap.size w W) := by show Below _ _ _; rw [HW.out]; exact (below_alloc w _).alloc (by simp) _
  have HL : Hid (Blk W (w.heap.size + 1) #[.int .i64 0, .int .i64 0, .string ⟨#[]⟩, .bool false, .complex .f64 0 0] 40) := by
    show Blk _ _ _ _
    rw [HW.out]
    have := Blk.new (w.alloc (.cells #[.slice (some ⟨g, 0, none⟩) 1 1, .slice none 0 0] 46)) #[.int .i64 0, .int .i64 0, .string ⟨#[]⟩, .bool false, .complex .f64 0 0] 40
    simpa using this
  rw [← HW.out]
  go_loopw [11] (fun t11 wr => (t11 = .int .i64 0 ∨ t11 = .int .i64 1) ∧ Hid (Below W.heap.size W wr)) (fun t11 _ => 1 - (intOf t11).toNat)
  case atStart => exact ⟨.inl rfl, Below.refl _ _⟩
  case round =>
    obtain ⟨rfl | rfl, HB⟩ := hrel
    · have HG1 : Hid (Blk wr g four 42) := (HG.out.stay HBW.out).stay HB.out
      have c0 : wr.cell? ⟨g, 0, none⟩ = some (.string ⟨#[97]⟩) := HG1.out.cell 0 rfl
      have c1 : wr.cell? ⟨g, 1, none⟩ = some (.int .i64 1) := HG1.out.cell 1 rfl
      have c2 : wr.cell? ⟨g, 2, none⟩ = some (.int .i64 4) := HG1.out.cell 2 rfl
      have c3 : wr.cell? ⟨g, 3, none⟩ = some (.string ⟨#[]⟩) := HG1.out.cell 3 rfl
      have c4 : wr.cell? ⟨g, 4, none⟩ = some (.bool false) := HG1.out.cell 4 rfl
      have c5 : wr.cell? ⟨g, 5, none⟩ = some (.complex .f64 0 0) := HG1.out.cell 5 rfl
      go_wp2
      go_roundw
      case rel => exact ⟨.inr rfl, HB.out.alloc HB.out.size _⟩
      case measure => simp [intOf]
    · have HL1 : Hid (Blk wr (w.heap.size + 1) #[.int .i64 0, .int .i64 0, .string ⟨#[]⟩, .bool false, .complex .f64 0 0] 40) := HL.out.stay HB.out
      have HBA : Hid (Below w.heap.size w wr) := HBW.out.trans (HB.out.mono HBW.out.size)
      have d0 := HL1.out.cell 0 rfl
      have d1 := HL1.out.cell 1 rfl
      have d2 := HL1.out.cell 2 rfl
      have d3 := HL1.out.cell 3 rfl
      have d4 := HL1.out.cell 4 rfl
      have f0 := HL1.out.free 0
      have f1 := HL1.out.free 1
      have f2 := HL1.out.free 2
      have f3 := HL1.out.free 3
      have f4 := HL1.out.free 4
      go_wp2
      try simp only [Exit.inBlock, Exit.then]
      refine bodyPost_ret (results_get (by rfl) (by rfl) (HL1.out.setW _ _ _ _ _)) rfl ?_
      exact ⟨rfl, ((((HBA.out.setCell (by simp) _).setCell (by simp) _).setCell (by simp) _).setCell (by simp) _).setCell (by simp) _⟩

theorem check_both (w : World) : Calls Tryz.prog 85 #[.agg four4, .agg five5] w fun e w' => e = .returned (.int .i64 0) ∧ Below w.heap.size w w' := by
  have hcx : ∀ (a : Addr) (m : Mode) (W : World) (x y : Nat), (store a (.complex .f64 x y) m).run Tryz.prog W = stored Tryz.prog W a (.complex .f64 x y) m := fun a m W x y => run_store _ _ _ _ _ rfl
  have H4 : Hid (∀ w : World, Calls Tryz.prog 33 #[.agg four4] w fun e w' => e = .returned (.int .i64 0) ∧ Below w.heap.size w w') := check_four
  have H5 : Hid (∀ w : World, Calls Tryz.prog 33 #[.agg five5] w fun e w' => e = .returned (.int .i64 0) ∧ Below w.heap.size w w') := check_five
  simp only [four4, five5] at *
  go_enter Tryz.func85, Tryz.ntmps85
  go_wp2_with fail
  refine (H4.out _).mono ?_
  rintro e w1 ⟨rfl, hb1⟩
  have HK : Hid (Blk w1 (w.heap.size + 1) #[.int .i64 1, .int .i64 5, .string ⟨#[]⟩, .bool false, .complex .f64 0 0] 40) := by
    show Blk _ _ _ _
    have := (Blk.new (w.alloc (.cells #[.int .i64 1, .int .i64 4, .string ⟨#[]⟩, .bool false, .complex .f64 0 0] 40)) #[.int .i64 1, .int .i64 5, .string ⟨#[]⟩, .bool false, .complex .f64 0 0] 40).stay hb1
    simpa using this
  have HB1 : Hid (Below w.heap.size w w1) := ((below_alloc w _).alloc (by simp) _).trans (hb1.mono (by simp; omega))
  clear hb1
  have d0 := HK.out.cell 0 rfl
  have d1 := HK.out.cell 1 rfl
  have d2 := HK.out.cell 2 rfl
  have d3 := HK.out.cell 3 rfl
  have d4 := HK.out.cell 4 rfl
  go_wp2_with fail
  refine (H5.out _).mono ?_
  rintro e w2 ⟨rfl, hb2⟩
  have HB2 : Hid (Below w.heap.size w w2) := HB1.out.trans (hb2.mono HB1.out.size)
  clear hb2
  go_wp2
  go_ret
  exact ⟨rfl, HB2.out⟩

theorem two_blocks {w w1 : World} {cs ds : Array Value} (hb1 : Below ((w.alloc (.cells cs 40)).alloc (.cells ds 40)).heap.size ((w.alloc (.cells cs 40)).alloc (.cells ds 40)) w1) : Blk w1 w.heap.size cs 40 ∧ Blk w1 (w.heap.size + 1) ds 40 ∧ Below w.heap.size w w1 := by
  refine ⟨((Blk.new w _ _).stay (below_alloc _ _)).stay hb1, ?_, ((below_alloc w _).alloc (by simp) _).trans (hb1.mono (by simp; omega))⟩
  have := (Blk.new (w.alloc (.cells cs 40)) ds 40).stay hb1
  simpa using this

theorem value_Less_live (w : World) : Calls Tryz.prog 86 #[.agg four4, .agg five5] w fun e w' => e = .returned (.tuple #[.bool true, .int .i64 0]) ∧ Below w.heap.size w w' := by
  have hcx : ∀ (a : Addr) (m : Mode) (W : World) (x y : Nat), (store a (.complex .f64 x y) m).run Tryz.prog W = stored Tryz.prog W a (.complex .f64 x y) m := fun a m W x y => run_store _ _ _ _ _ rfl
  have HC : Hid (∀ w : World, Calls Tryz.prog 85 #[.agg four4, .agg five5] w fun e w' => e = .returned (.int .i64 0) ∧ Below w.heap.size w w') := check_both
  simp only [four4, five5] at *
  go_enter Tryz.func86, Tryz.ntmps86
  go_wp2_with fail
  refine (HC.out _).mono ?_
  rintro e w1 ⟨rfl, hb1⟩
  obtain ⟨k1, k2, hb⟩ := two_blocks hb1
  have HB1 : Hid (Below w.heap.size w w1) := hb
  have d0 := k1.cell 0 rfl
  have d1 := k1.cell 1 rfl
  have e0 := k2.cell 0 rfl
  have e1 := k2.cell 1 rfl
  clear hb1 hb k1 k2
  go_wp2
  go_ret2
  exact ⟨rfl, HB1.out⟩
theorem pred_less_live (w : World) : Calls Tryz.prog 67 #[.agg four4, .agg five5] w fun e w' => e = .returned (.bool true) ∧ Below w.heap.size w w' := by
  have hcx : ∀ (a : Addr) (m : Mode) (W : World) (x y : Nat), (store a (.complex .f64 x y) m).run Tryz.prog W = stored Tryz.prog W a (.complex .f64 x y) m := fun a m W x y => run_store _ _ _ _ _ rfl
  have HC : Hid (∀ w : World, Calls Tryz.prog 86 #[.agg four4, .agg five5] w fun e w' => e = .returned (.tuple #[.bool true, .int .i64 0]) ∧ Below w.heap.size w w') := value_Less_live
  simp only [four4, five5] at *
  go_enter Tryz.func67, Tryz.ntmps67
  go_wp2_with fail
  refine (HC.out _).mono ?_
  rintro e w1 ⟨rfl, hb1⟩
  obtain ⟨_, _, hb⟩ := two_blocks hb1
  have HB1 : Hid (Below w.heap.size w w1) := hb
  clear hb1 hb
  go_wp2
  go_ret
  exact ⟨rfl, HB1.out⟩
theorem wanted_live (w : World) : Calls Tryz.prog 51 #[.agg q0.cells] w fun e w' => e = .returned (.int .i64 1) ∧ Below w.heap.size w w' := by
  have hcx : ∀ (a : Addr) (m : Mode) (W : World) (x y : Nat), (store a (.complex .f64 x y) m).run Tryz.prog W = stored Tryz.prog W a (.complex .f64 x y) m := fun a m W x y => run_store _ _ _ _ _ rfl
  simp only [q0, Tm.cells]
  go_enter Tryz.func51, Tryz.ntmps51
  go_wp2
  go_ret
  exact ⟨rfl, below_alloc w _⟩
theorem compares_live (w : World) : Calls Tryz.prog 52 #[.agg q0.cells, .agg four4] w fun e w' => e = .returned (.bool true) ∧ Below w.heap.size w w' := by
  have hcx : ∀ (a : Addr) (m : Mode) (W : World) (x y : Nat), (store a (.complex .f64 x y) m).run Tryz.prog W = stored Tryz.prog W a (.complex .f64 x y) m := fun a m W x y => run_store _ _ _ _ _ rfl
  have HC : Hid (∀ w : World, Calls Tryz.prog 67 #[.agg four4, .agg five5] w fun e w' => e = .returned (.bool true) ∧ Below w.heap.size w w') := pred_less_live
  simp only [q0, Tm.cells, four4, five5] at *
  go_enter Tryz.func52, Tryz.ntmps52
  go_wp2_with fail
  refine (HC.out _).mono ?_
  rintro e w1 ⟨rfl, hb1⟩
  have HB1 : Hid (Below w.heap.size w w1) := ((below_alloc w _).alloc (by simp) _).trans (hb1.mono (by simp; omega))
  clear hb1
  go_wp2
  go_ret
  exact ⟨rfl, HB1.out⟩

theorem tells_b (g : Nat) (w : World) (hg : Blk w g four 42) : Calls Tryz.prog 34 #[.agg q1.cells, ev g] w fun e w' => e = .returned (.bool false) ∧ Below w.heap.size w w' := by
  have hcx : ∀ (a : Addr) (m : Mode) (W : World) (x y : Nat), (store a (.complex .f64 x y) m).run Tryz.prog W = stored Tryz.prog W a (.complex .f64 x y) m := fun a m W x y => run_store _ _ _ _ _ rfl
  have HG : Hid (Blk w g four 42) := hg
  have HE : Hid (∀ w : World, Blk w g four 42 → Calls Tryz.prog 50 #[ev g, .string ⟨#[98]⟩] w fun e w' => e = .returned (.tuple #[.agg #[.int .i64 0, .int .i64 0, .string ⟨#[]⟩, .bool false, .complex .f64 0 0], .bool false]) ∧ Below w.heap.size w w') := event_Get_b g
  simp only [q1, Tm.cells, ev, Val.zero] at *
  clear hg
  go_enter Tryz.func34, Tryz.ntmps34
  go_wp2_with fail
  refine (HE.out _ (HG.out.stay ((below_alloc w _).alloc (by simp) _))).mono ?_
  rintro e w1 ⟨rfl, hb1⟩
  have HB1 : Hid (Below w.heap.size w w1) := ((below_alloc w _).alloc (by simp) _).trans (hb1.mono (by simp; omega))
  clear hb1
  go_wp2
  go_ret
  exact ⟨rfl, HB1.out.alloc HB1.out.size _⟩

theorem tells_a (g : Nat) (w : World) (hg : Blk w g four 42) : Calls Tryz.prog 34 #[.agg q0.cells, ev g] w fun e w' => e = .returned (.bool true) ∧ Below w.heap.size w w' := by
  have hcx : ∀ (a : Addr) (m : Mode) (W : World) (x y : Nat), (store a (.complex .f64 x y) m).run Tryz.prog W = stored Tryz.prog W a (.complex .f64 x y) m := fun a m W x y => run_store _ _ _ _ _ rfl
  have HG : Hid (Blk w g four 42) := hg
  have HE : Hid (∀ w : World, Blk w g four 42 → Calls Tryz.prog 50 #[ev g, .string ⟨#[97]⟩] w fun e w' => e = .returned (.tuple #[.agg four4, .bool true]) ∧ Below w.heap.size w w') := event_Get_a g
  have HWK : Hid (∀ w : World, Calls Tryz.prog 51 #[.agg q0.cells] w fun e w' => e = .returned (.int .i64 1) ∧ Below w.heap.size w w') := wanted_live
  have HCO : Hid (∀ w : World, Calls Tryz.prog 52 #[.agg q0.cells, .agg four4] w fun e w' => e = .returned (.bool true) ∧ Below w.heap.size w w') := compares_live
  simp only [q0, Tm.cells, ev, four4] at *
  clear hg
  go_enter Tryz.func34, Tryz.ntmps34
  go_wp2_with fail
  refine (HE.out _ (HG.out.stay ((below_alloc w _).alloc (by simp) _))).mono ?_
  rintro e w1 ⟨rfl, hb1⟩
  have HB1 : Hid (Below w.heap.size w w1) := ((below_alloc w _).alloc (by simp) _).trans (hb1.mono (by simp; omega))
  have HK1 : Hid (Blk w1 w.heap.size #[.int .i64 ((3 : Nat) : Int), .string ⟨#[97]⟩, .int .i64 ((5 : Nat) : Int), .int .i64 1, .int .i64 5, .string ⟨#[]⟩, .bool false, .complex .f64 0 0, .int .i64 ((0 : Nat) : Int)] 52) := ((Blk.new w _ _).stay (below_alloc _ _)).stay hb1
  clear hb1
  obtain ⟨W0, HW0⟩ : ∃ W0, Hid (W0 = w1.alloc (.cells #[.int .i64 1, .int .i64 4, .string ⟨#[]⟩, .bool false, .complex .f64 0 0] 40)) := ⟨_, rfl⟩
  have HBW : Hid (Below w.heap.size w W0) := by show Below _ _ _; rw [HW0.out]; exact HB1.out.alloc HB1.out.size _
  have HSK : Hid (∀ w', Below W0.heap.size W0 w' → (w'.cell? ⟨w.heap.size, 0, none⟩ = some (.int .i64 3) ∧ w'.cell? ⟨w.heap.size, 1, none⟩ = some (.string ⟨#[97]⟩) ∧ w'.cell? ⟨w.heap.size, 2, none⟩ = some (.int .i64 5) ∧ w'.cell? ⟨w.heap.size, 3, none⟩ = some (.int .i64 1) ∧ w'.cell? ⟨w.heap.size, 4, none⟩ = some (.int .i64 5) ∧ w'.cell? ⟨w.heap.size, 5, none⟩ = some (.string ⟨#[]⟩) ∧ w'.cell? ⟨w.heap.size, 6, none⟩ = some (.bool false) ∧ w'.cell? ⟨w.heap.size, 7, none⟩ = some (.complex .f64 0 0) ∧ w'.cell? ⟨w.heap.size, 8, none⟩ = some (.int .i64 0) ∧
      w'.cell? ⟨w1.heap.size, 0, none⟩ = some (.int .i64 1) ∧ w'.cell? ⟨w1.heap.size, 1, none⟩ = some (.int .i64 4) ∧ w'.cell? ⟨w1.heap.size, 2, none⟩ = some (.string ⟨#[]⟩) ∧ w'.cell? ⟨w1.heap.size, 3, none⟩ = some (.bool false) ∧ w'.cell? ⟨w1.heap.size, 4, none⟩ = some (.complex .f64 0 0))) := by
    intro w' hb
    rw [HW0.out] at hb
    have k1 := (HK1.out.stay (below_alloc w1 _)).stay hb
    have k2 := (Blk.new w1 #[.int .i64 1, .int .i64 4, .string ⟨#[]⟩, .bool false, .complex .f64 0 0] 40).stay hb
    exact ⟨k1.cell 0 rfl, k1.cell 1 rfl, k1.cell 2 rfl, k1.cell 3 rfl, k1.cell 4 rfl, k1.cell 5 rfl, k1.cell 6 rfl, k1.cell 7 rfl, k1.cell 8 rfl, k2.cell 0 rfl, k2.cell 1 rfl, k2.cell 2 rfl, k2.cell 3 rfl, k2.cell 4 rfl⟩
  obtain ⟨s0, s1, s2, s3, s4, s5, s6, s7, s8, _⟩ := HSK.out W0 (Below.refl _ _)
  rw [HW0.out] at s0 s1 s2 s3 s4 s5 s6 s7 s8
  go_wp2
  rw [← HW0.out]
  have HB : Hid (Below W0.heap.size W0 W0.drew) := (Below.refl _ _).drew
  clear s0 s1 s2 s3 s4 s5 s6 s7 s8
  go_region_held3 (fun w' => w'.cell? ⟨w.heap.size, 0, none⟩ = some (.int .i64 3) ∧ w'.cell? ⟨w.heap.size, 1, none⟩ = some (.string ⟨#[97]⟩) ∧ w'.cell? ⟨w.heap.size, 2, none⟩ = some (.int .i64 5) ∧ w'.cell? ⟨w.heap.size, 3, none⟩ = some (.int .i64 1) ∧ w'.cell? ⟨w.heap.size, 4, none⟩ = some (.int .i64 5) ∧ w'.cell? ⟨w.heap.size, 5, none⟩ = some (.string ⟨#[]⟩) ∧ w'.cell? ⟨w.heap.size, 6, none⟩ = some (.bool false) ∧ w'.cell? ⟨w.heap.size, 7, none⟩ = some (.complex .f64 0 0) ∧ w'.cell? ⟨w.heap.size, 8, none⟩ = some (.int .i64 0) ∧
      w'.cell? ⟨w1.heap.size, 0, none⟩ = some (.int .i64 1) ∧ w'.cell? ⟨w1.heap.size, 1, none⟩ = some (.int .i64 4) ∧ w'.cell? ⟨w1.heap.size, 2, none⟩ = some (.string ⟨#[]⟩) ∧ w'.cell? ⟨w1.heap.size, 3, none⟩ = some (.bool false) ∧ w'.cell? ⟨w1.heap.size, 4, none⟩ = some (.complex .f64 0 0)) (first | exact HSK.out _ HB.out | exact HSK.out _ (Below.refl _ _).drew | exact HSK.out _ (Below.refl _ _) | fail)
    (first
      | (go_at_call 51; refine (HWK.out _).mono ?_; rintro e w3 ⟨rfl, hb3⟩; have HB' : Hid (Below W0.heap.size W0 w3) := HB.out.trans (hb3.mono HB.out.size); clear hb3 HB; have HB := HB'; clear HB')
      | (go_at_call 52; refine (HCO.out _).mono ?_; rintro e w5 ⟨rfl, hb5⟩; have HB' : Hid (Below W0.heap.size W0 w5) := HB.out.trans (hb5.mono HB.out.size); clear hb5 HB; have HB := HB'; clear HB'))
  go_wp2
  go_ret
  exact ⟨rfl, HBW.out.trans (HB.out.mono HBW.out.size)⟩
end Go.Proofs.YteoopoabemeanaaGreatDoor
/- pred.done, pred.Eval of live's terms; 'live' tells true. -/
namespace Go.Proofs.YteoopoabemeanaaGreatDoor
set_option maxRecDepth 100000
open Go.RowKit

/-- A row of truths of one's own. -/
def Bs (w : World) (base : Nat) (v : Value) (l : List Bool) : Prop := w.ownsRow base 4 1 v l.length (l.map fun b => .bool b)
theorem Bs.below {w w' : World} {base : Nat} {v : Value} {l : List Bool} (h : Bs w base v l) (hb : Below w.heap.size w w') : Bs w' base v l := by
  refine ⟨h.1, ?_⟩
  rcases h.2 with hn | ⟨g, c, cur, hv, hbg, hg, r⟩
  · exact .inl hn
  · exact .inr ⟨g, c, cur, hv, hbg, by rw [hb.block g (Array.getElem?_eq_some_iff.1 hg).1]; exact hg, r⟩
theorem Bs.form {w : World} {base : Nat} {v : Value} {l : List Bool} (h : Bs w base v l) : ∃ a c, v = .slice a l.length c := by
  rcases h.2 with ⟨hv, hn⟩ | ⟨g, c, cur, hv, _⟩
  · exact ⟨none, 0, by rw [hv, hn]⟩
  · exact ⟨_, c, hv⟩
/-- A row of two, cell by cell. -/
theorem Bs.two {w : World} {base : Nat} {v : Value} {x y : Bool} (h : Bs w base v [x, y]) : ∃ g c, v = .slice (some ⟨g, 0, none⟩) 2 c ∧ base ≤ g ∧ g < w.heap.size ∧ 2 ≤ c ∧ w.cell? ⟨g, 0, none⟩ = some (.bool x) ∧ w.cell? ⟨g, 1, none⟩ = some (.bool y) ∧ w.frozen? ⟨g, 0, none⟩ = false ∧ w.frozen? ⟨g, 1, none⟩ = false := by
  rcases h.2 with ⟨hv, hn⟩ | ⟨g, c, cur, hv, hbg, hg, hlc, hm, hs, ht⟩
  · simp at hn
  · have hlt := (Array.getElem?_eq_some_iff.1 hg).1
    have k0 : cur[0]? = some (.bool x) := by
      have := congrArg (fun l => l[0]?) ht
      simpa using this
    have k1 : cur[1]? = some (.bool y) := by
      have := congrArg (fun l => l[1]?) ht
      simpa using this
    exact ⟨g, c, hv, hbg, hlt, hlc, by rw [cell_of_row w g 0 cur _ _ hg, k0], by rw [cell_of_row w g 1 cur _ _ hg, k1], frozen_of_row w g 0 cur _ hg, frozen_of_row w g 1 cur _ hg⟩
theorem infoBool : (Tryz.prog.info? 4).map (fun i => (i.zero, i.size, i.bytes)) = some (some (.bool false), 1, 1) := by kernel_rfl
theorem wpList_append_b {w : World} {ops : Array Oper} {rest : List Oper} {o : Oper} {act : Act} {Q : Exit → Act → World → Prop} (hgd : o.guard = none) (s x : Operand)
    (ho : o.op = .call { callee := .builtin .append, args := #[s, x], argTypes := #[68, 68] })
    (base : Nat) (v : Value) (l : List Bool) (hs : act.eval s = v) (hown : Bs w base v l) (ad : Addr) (c : Nat) (b : Bool) (hx : act.eval x = .slice (some ad) 1 c) (hnews : w.cell? ad = some (.bool b))
    (hl : l.length ≤ 1000) (hbase : base ≤ w.heap.size)
    (h : ∀ v' w', Bs w' base v' (l ++ [b]) → w.grownBy w' v.ownBlock → wpList Tryz.prog ops Q rest (act.put o.dst v') w') : wpList Tryz.prog ops Q (o :: rest) act w := by
  obtain ⟨i0, hi, hz0, hz1, hz2⟩ := info_parts infoBool
  refine wpList_append_own w hgd s x 68 ho base 4 i0 (.bool false) 1 1 Tryz.underlying68 hi hz0 hz1 hz2 (by rfl) (by decide) v l.length (l.map fun b => .bool b) hs hown ad 1 c [.bool b] hx (by rfl) ?_ ?_ (by unfold maxLen; omega) (by omega) hbase fun v' w' h1 h2 _ => h v' w' ?_ h2
  · intro j u hj
    match j with
    | 0 => simp at hj; subst hj; simpa [Addr.add] using hnews
    | j + 1 => simp at hj
  · intro u hu
    simp at hu
    subst hu
    rfl
  · show World.ownsRow _ _ _ _ _ _ _
    rw [List.length_append, List.map_append]
    exact h1

theorem done_atom (q : Tm) (hq : q.op = 3) (b : Bool) (g : Nat) (hT : ∀ w, Blk w g four 42 → Calls Tryz.prog 34 #[.agg q.cells, ev g] w fun e w' => e = .returned (.bool b) ∧ Below w.heap.size w w')
    (base : Nat) (v : Value) (l : List Bool) (w : World) (hg : Blk w g four 42) (hv : Bs w base v l) (hl : l.length ≤ 1000) (hB : base ≤ w.heap.size) :
    Calls Tryz.prog 20 #[v, .agg q.cells, ev g] w fun e w' => ∃ v', e = .returned v' ∧ Bs w' base v' (l ++ [b]) ∧ Below base w w' := by
  have hcx : ∀ (a : Addr) (m : Mode) (W : World) (x y : Nat), (store a (.complex .f64 x y) m).run Tryz.prog W = stored Tryz.prog W a (.complex .f64 x y) m := fun a m W x y => run_store _ _ _ _ _ rfl
  have HG : Hid (Blk w g four 42) := hg
  have HT : Hid (∀ w, Blk w g four 42 → Calls Tryz.prog 34 #[.agg q.cells, ev g] w fun e w' => e = .returned (.bool b) ∧ Below w.heap.size w w') := hT
  have HV : Hid (Bs w base v l) := hv
  obtain ⟨a, c, rfl⟩ := hv.form
  obtain ⟨op, nm, cm, ⟨vk, vw, vs, vt, vx, vy⟩, r⟩ := q
  simp only at hq
  subst hq
  simp only [Tm.cells, ev] at *
  clear hg hT hv
  go_enter Tryz.func20, Tryz.ntmps20
  go_wp2_with fail
  refine (HT.out _ (HG.out.stay ((below_alloc w _).alloc (by simp) _))).mono ?_
  rintro e w1 ⟨rfl, hb1⟩
  have HB1 : Hid (Below w.heap.size w w1) := ((below_alloc w _).alloc (by simp) _).trans (hb1.mono (by simp; omega))
  clear hb1
  have HB2 : Hid (Below w.heap.size w (w1.alloc (.cells #[.bool b] 4))) := HB1.out.alloc HB1.out.size _
  go_wp2_with (at_builtin; refine wpList_append_b rfl (.tmp 71) (.tmp 75) rfl base _ l rfl (HV.out.below HB2.out) ⟨w1.heap.size, 0, none⟩ 1 b rfl ((Blk.new w1 _ _).cell 0 rfl) hl (Nat.le_trans hB HB2.out.size) ?_)
  intro v' w2 hb hgr
  have HBS : Hid (Bs w2 base v' (l ++ [b])) := hb
  have HBB : Hid (Below base w w2) := ((HB2.out.mono hB).grown hgr (Nat.le_trans hB HB2.out.size) (fun k hk => ((HV.out.below HB2.out).lt k hk).1))
  obtain ⟨a', c', rfl⟩ := hb.form
  clear hb hgr
  go_wp2
  go_ret
  exact ⟨_, rfl, HBS.out, HBB.out⟩

theorem done_not (g gt c : Nat) (x y : Bool) (w : World) (_hg : Blk w g four 42) (base : Nat) (hB : base ≤ gt) (hlt : gt < w.heap.size) (_hc : 2 ≤ c) (c0 : w.cell? ⟨gt, 0, none⟩ = some (.bool x)) (c1 : w.cell? ⟨gt, 1, none⟩ = some (.bool y)) (f0 : w.frozen? ⟨gt, 0, none⟩ = false) (f1 : w.frozen? ⟨gt, 1, none⟩ = false) :
    Calls Tryz.prog 20 #[.slice (some ⟨gt, 0, none⟩) 2 c, .agg (Tm.plain 4).cells, ev g] w fun e w' => e = .returned (.slice (some ⟨gt, 0, none⟩) 2 c) ∧ w'.cell? ⟨gt, 0, none⟩ = some (.bool x) ∧ w'.cell? ⟨gt, 1, none⟩ = some (.bool (!y)) ∧ w'.frozen? ⟨gt, 0, none⟩ = false ∧ w'.frozen? ⟨gt, 1, none⟩ = false ∧ Below base w w' := by
  have hcx : ∀ (a : Addr) (m : Mode) (W : World) (x y : Nat), (store a (.complex .f64 x y) m).run Tryz.prog W = stored Tryz.prog W a (.complex .f64 x y) m := fun a m W x y => run_store _ _ _ _ _ rfl
  simp only [Tm.cells, Tm.plain, Val.zero, ev] at *
  clear _hg
  have e1 : (w.setCell ⟨gt, 1, none⟩ (.bool (!y))).cell? ⟨gt, 0, none⟩ = some (.bool x) := by rw [World.cell?_setCell_other _ _ _ _ (by simp)]; exact c0
  have e2 : (w.setCell ⟨gt, 1, none⟩ (.bool (!y))).cell? ⟨gt, 1, none⟩ = some (.bool (!y)) := World.cell?_setCell_same _ _ _ c1
  have hsz : (w.setCell ⟨gt, 1, none⟩ (.bool (!y))).heap.size = w.heap.size := by simp
  go_enter Tryz.func20, Tryz.ntmps20
  go_wp2
  go_ret
  have hb : Below w.heap.size (w.setCell ⟨gt, 1, none⟩ (.bool (!y))) (((w.setCell ⟨gt, 1, none⟩ (.bool (!y))).alloc (.cells #[.int .i64 4, .string ⟨#[]⟩, .int .i64 0, .int .i64 0, .int .i64 0, .string ⟨#[]⟩, .bool false, .complex .f64 0 0, .int .i64 0] 52)).alloc (.cells #[.slice (some ⟨g, 0, none⟩) 1 1, .slice none 0 0] 46)) := ((Below.refl _ _).alloc (by omega) _).alloc (by simp) _
  refine ⟨rfl, ?_, ?_, ?_, ?_, ?_⟩
  · rw [hb.cell (p := ⟨gt, 0, none⟩) hlt]; exact e1
  · rw [hb.cell (p := ⟨gt, 1, none⟩) hlt]; exact e2
  · rw [hb.frozen (p := ⟨gt, 0, none⟩) hlt]; simpa using f0
  · rw [hb.frozen (p := ⟨gt, 1, none⟩) hlt]; simpa using f1
  · exact ((Below.refl _ _).setCell hB _).trans (hb.mono (by omega))

theorem done_and (g gt c : Nat) (w : World) (base : Nat) (hB : base ≤ gt) (hlt : gt < w.heap.size) (hc : 2 ≤ c) (c0 : w.cell? ⟨gt, 0, none⟩ = some (.bool true)) (c1 : w.cell? ⟨gt, 1, none⟩ = some (.bool true)) (f0 : w.frozen? ⟨gt, 0, none⟩ = false) :
    Calls Tryz.prog 20 #[.slice (some ⟨gt, 0, none⟩) 2 c, .agg (Tm.plain 5).cells, ev g] w fun e w' => e = .returned (.slice (some ⟨gt, 0, none⟩) 1 c) ∧ w'.cell? ⟨gt, 0, none⟩ = some (.bool true) ∧ Below base w w' := by
  have hcx : ∀ (a : Addr) (m : Mode) (W : World) (x y : Nat), (store a (.complex .f64 x y) m).run Tryz.prog W = stored Tryz.prog W a (.complex .f64 x y) m := fun a m W x y => run_store _ _ _ _ _ rfl
  have g1 : (1 : Int) ≤ (c : Int) := by omega
  simp only [Tm.cells, Tm.plain, Val.zero, ev] at *
  go_enter Tryz.func20, Tryz.ntmps20
  go_wp2
  have e1 : (w.setCell ⟨gt, 0, none⟩ (.bool true)).cell? ⟨gt, 0, none⟩ = some (.bool true) := World.cell?_setCell_same _ _ _ c0
  have hsz : (w.setCell ⟨gt, 0, none⟩ (.bool true)).heap.size = w.heap.size := by simp
  go_ret
  have hb : Below w.heap.size (w.setCell ⟨gt, 0, none⟩ (.bool true)) (((w.setCell ⟨gt, 0, none⟩ (.bool true)).alloc (.cells #[.int .i64 5, .string ⟨#[]⟩, .int .i64 0, .int .i64 0, .int .i64 0, .string ⟨#[]⟩, .bool false, .complex .f64 0 0, .int .i64 0] 52)).alloc (.cells #[.slice (some ⟨g, 0, none⟩) 1 1, .slice none 0 0] 46)) := ((Below.refl _ _).alloc (by omega) _).alloc (by simp) _
  refine ⟨rfl, ?_, ?_⟩
  · rw [hb.cell (p := ⟨gt, 0, none⟩) hlt]; exact e1
  · exact ((Below.refl _ _).setCell hB _).trans (hb.mono (by omega))

set_option maxHeartbeats 1000000 in
theorem Eval_live (a : Option Addr) (c g : Nat) (w : World) (ht : TmsRd w a liveL) (hg : Blk w g four 42) :
    Calls Tryz.prog 11 #[.slice a 4 c, ev g] w fun e w' => e = .returned (.tuple #[.bool true, .int .i64 0]) ∧ Below w.heap.size w w' := by
  have hcx : ∀ (a : Addr) (m : Mode) (W : World) (x y : Nat), (store a (.complex .f64 x y) m).run Tryz.prog W = stored Tryz.prog W a (.complex .f64 x y) m := fun a m W x y => run_store _ _ _ _ _ rfl
  have HT : Hid (TmsRd w a liveL) := ht
  have HG : Hid (Blk w g four 42) := hg
  have HCK : Hid (∀ w : World, TmsRd w a liveL → Calls Tryz.prog 8 #[.slice a 4 c] w fun e w' => e = .returned (.int .i64 0) ∧ Below w.heap.size w w') := fun w h => by
    have := pred_Check a 4 c liveL w h rfl (by omega) live_right
    rw [live_check] at this
    exact this
  have HEC : Hid (∀ w : World, Blk w g four 42 → Calls Tryz.prog 19 #[ev g] w fun e w' => e = .returned (.int .i64 0) ∧ Below w.heap.size w w') := event_Check_live g
  have HD0 : Hid (∀ (base : Nat) (v : Value) (l : List Bool) (w : World), Blk w g four 42 → Bs w base v l → l.length ≤ 1000 → base ≤ w.heap.size → Calls Tryz.prog 20 #[v, .agg q0.cells, ev g] w fun e w' => ∃ v', e = .returned v' ∧ Bs w' base v' (l ++ [true]) ∧ Below base w w') := done_atom q0 rfl true g (tells_a g)
  have HD1 : Hid (∀ (base : Nat) (v : Value) (l : List Bool) (w : World), Blk w g four 42 → Bs w base v l → l.length ≤ 1000 → base ≤ w.heap.size → Calls Tryz.prog 20 #[v, .agg q1.cells, ev g] w fun e w' => ∃ v', e = .returned v' ∧ Bs w' base v' (l ++ [false]) ∧ Below base w w') := done_atom q1 rfl false g (tells_b g)
  have HD2 : Hid (∀ (gt c : Nat) (x y : Bool) (w : World), Blk w g four 42 → ∀ (base : Nat), base ≤ gt → gt < w.heap.size → 2 ≤ c → w.cell? ⟨gt, 0, none⟩ = some (.bool x) → w.cell? ⟨gt, 1, none⟩ = some (.bool y) → w.frozen? ⟨gt, 0, none⟩ = false → w.frozen? ⟨gt, 1, none⟩ = false →
    Calls Tryz.prog 20 #[.slice (some ⟨gt, 0, none⟩) 2 c, .agg (Tm.plain 4).cells, ev g] w fun e w' => e = .returned (.slice (some ⟨gt, 0, none⟩) 2 c) ∧ w'.cell? ⟨gt, 0, none⟩ = some (.bool x) ∧ w'.cell? ⟨gt, 1, none⟩ = some (.bool (!y)) ∧ w'.frozen? ⟨gt, 0, none⟩ = false ∧ w'.frozen? ⟨gt, 1, none⟩ = false ∧ Below base w w') := done_not g
  have HD3 : Hid (∀ (gt c : Nat) (w : World) (base : Nat), base ≤ gt → gt < w.heap.size → 2 ≤ c → w.cell? ⟨gt, 0, none⟩ = some (.bool true) → w.cell? ⟨gt, 1, none⟩ = some (.bool true) → w.frozen? ⟨gt, 0, none⟩ = false →
    Calls Tryz.prog 20 #[.slice (some ⟨gt, 0, none⟩) 2 c, .agg (Tm.plain 5).cells, ev g] w fun e w' => e = .returned (.slice (some ⟨gt, 0, none⟩) 1 c) ∧ w'.cell? ⟨gt, 0, none⟩ = some (.bool true) ∧ Below base w w') := done_and g
  simp only [ev, q0, q1, Tm.plain, Tm.cells, Val.zero] at *
  clear ht hg
  go_enter Tryz.func11, Tryz.ntmps11
  go_wp2_with fail
  refine (HCK.out _ (HT.out.below (below_alloc w _))).mono ?_
  rintro e w1 ⟨rfl, hb1⟩
  have HB1 : Hid (Below w.heap.size w w1) := (below_alloc w _).trans (hb1.mono (by simp))
  have HK1 : Hid (Blk w1 w.heap.size #[.slice (some ⟨g, 0, none⟩) 1 1, .slice none 0 0] 46) := (Blk.new w _ _).stay hb1
  clear hb1
  have k0 : w1.cell? ⟨w.heap.size, 0, none⟩ = some (.slice (some ⟨g, 0, none⟩) 1 1) := HK1.out.cell 0 rfl
  have k1 : w1.cell? ⟨w.heap.size, 1, none⟩ = some (.slice none 0 0) := HK1.out.cell 1 rfl
  go_wp2_with fail
  refine (HEC.out _ (HG.out.stay HB1.out)).mono ?_
  rintro e w2 ⟨rfl, hb2⟩
  have HB2 : Hid (Below w.heap.size w w2) := HB1.out.trans (hb2.mono HB1.out.size)
  have HK2 : Hid (Blk w2 w.heap.size #[.slice (some ⟨g, 0, none⟩) 1 1, .slice none 0 0] 46) := HK1.out.stay hb2
  clear hb2 k0 k1
  go_wp2
  go_loopw [8, 23] (fun t8 t23 wr => Hid (Below w2.heap.size w2 wr) ∧ ((t23 = .int .i64 0 ∧ t8 = .slice none 0 0) ∨ (t23 = .int .i64 1 ∧ (∃ a c, t8 = .slice a 1 c) ∧ Hid (Bs wr w2.heap.size t8 [true])) ∨ (∃ gt c, t23 = .int .i64 2 ∧ t8 = .slice (some ⟨gt, 0, none⟩) 2 c ∧ Hid (w2.heap.size ≤ gt ∧ gt < wr.heap.size ∧ 2 ≤ c ∧ wr.cell? ⟨gt, 0, none⟩ = some (.bool true) ∧ wr.cell? ⟨gt, 1, none⟩ = some (.bool false) ∧ wr.frozen? ⟨gt, 0, none⟩ = false ∧ wr.frozen? ⟨gt, 1, none⟩ = false)) ∨ (∃ gt c, t23 = .int .i64 3 ∧ t8 = .slice (some ⟨gt, 0, none⟩) 2 c ∧ Hid (w2.heap.size ≤ gt ∧ gt < wr.heap.size ∧ 2 ≤ c ∧ wr.cell? ⟨gt, 0, none⟩ = some (.bool true) ∧ wr.cell? ⟨gt, 1, none⟩ = some (.bool true) ∧ wr.frozen? ⟨gt, 0, none⟩ = false)) ∨ (∃ gt c, t23 = .int .i64 4 ∧ t8 = .slice (some ⟨gt, 0, none⟩) 1 c ∧ wr.cell? ⟨gt, 0, none⟩ = some (.bool true)))) (fun _ t23 _ => 4 - (intOf t23).toNat)
  case atStart => exact ⟨Below.refl _ _, .inl ⟨rfl, rfl⟩⟩
  case round =>
    obtain ⟨HB, hcase⟩ := hrel
    have HBW : Hid (Below w.heap.size w wr) := HB2.out.trans (HB.out.mono HB2.out.size)
    have HKW : Hid (Blk wr w.heap.size #[.slice (some ⟨g, 0, none⟩) 1 1, .slice none 0 0] 46) := HK2.out.stay HB.out
    have HGW : Hid (Blk wr g four 42) := HG.out.stay HBW.out
    have k0 : wr.cell? ⟨w.heap.size, 0, none⟩ = some (.slice (some ⟨g, 0, none⟩) 1 1) := HKW.out.cell 0 rfl
    have k1 : wr.cell? ⟨w.heap.size, 1, none⟩ = some (.slice none 0 0) := HKW.out.cell 1 rfl
    have hwlt := HKW.out.lt
    have HTW : Hid (TmsRd wr a liveL) := HT.out.below HBW.out
    rcases HTW.out.cells with h0 | ⟨ga, rfl, hga, hcell⟩
    · cases h0
    rcases hcase with ⟨rfl, rfl⟩ | ⟨rfl, ⟨va, vc, rfl⟩, HBS⟩ | ⟨gt, vc, rfl, rfl, HX⟩ | ⟨gt, vc, rfl, rfl, HX⟩ | ⟨gt, vc, rfl, rfl, hx⟩
    · skip
      have t0 : wr.cell? ⟨ga, 0, none⟩ = some (.int .i64 3) := hcell 0 q0 rfl 0 _ rfl
      have t1 : wr.cell? ⟨ga, 1, none⟩ = some (.string ⟨#[97]⟩) := hcell 0 q0 rfl 1 _ rfl
      have t2 : wr.cell? ⟨ga, 2, none⟩ = some (.int .i64 5) := hcell 0 q0 rfl 2 _ rfl
      have t3 : wr.cell? ⟨ga, 3, none⟩ = some (.int .i64 1) := hcell 0 q0 rfl 3 _ rfl
      have t4 : wr.cell? ⟨ga, 4, none⟩ = some (.int .i64 5) := hcell 0 q0 rfl 4 _ rfl
      have t5 : wr.cell? ⟨ga, 5, none⟩ = some (.string ⟨#[]⟩) := hcell 0 q0 rfl 5 _ rfl
      have t6 : wr.cell? ⟨ga, 6, none⟩ = some (.bool false) := hcell 0 q0 rfl 6 _ rfl
      have t7 : wr.cell? ⟨ga, 7, none⟩ = some (.complex .f64 0 0) := hcell 0 q0 rfl 7 _ rfl
      have t8 : wr.cell? ⟨ga, 8, none⟩ = some (.int .i64 0) := hcell 0 q0 rfl 8 _ rfl
      clear hcell
      go_wp2_with fail
      refine (HD0.out w2.heap.size _ [] _ (HGW.out.stay (below_alloc wr _)) ⟨rfl, .inl ⟨rfl, rfl⟩⟩ (by simp) (Nat.le_trans HB.out.size (below_alloc wr _).size)).mono ?_
      rintro e w3 ⟨v3, rfl, hbs, hb3⟩
      have HBS3 : Hid (Bs w3 w2.heap.size v3 [true]) := hbs
      have HB3 : Hid (Below w2.heap.size w2 w3) := (HB.out.alloc HB.out.size _).trans hb3
      obtain ⟨a3, c3, rfl⟩ := hbs.form
      clear hbs hb3
      go_wp2
      go_roundw
      case rel => exact ⟨HB3, .inr (.inl ⟨rfl, ⟨_, _, rfl⟩, HBS3⟩)⟩
      case measure => simp [intOf]
    · skip
      have t0 : wr.cell? ⟨ga, 9, none⟩ = some (.int .i64 3) := hcell 1 q1 rfl 0 _ rfl
      have t1 : wr.cell? ⟨ga, 10, none⟩ = some (.string ⟨#[98]⟩) := hcell 1 q1 rfl 1 _ rfl
      have t2 : wr.cell? ⟨ga, 11, none⟩ = some (.int .i64 1) := hcell 1 q1 rfl 2 _ rfl
      have t3 : wr.cell? ⟨ga, 12, none⟩ = some (.int .i64 0) := hcell 1 q1 rfl 3 _ rfl
      have t4 : wr.cell? ⟨ga, 13, none⟩ = some (.int .i64 0) := hcell 1 q1 rfl 4 _ rfl
      have t5 : wr.cell? ⟨ga, 14, none⟩ = some (.string ⟨#[]⟩) := hcell 1 q1 rfl 5 _ rfl
      have t6 : wr.cell? ⟨ga, 15, none⟩ = some (.bool false) := hcell 1 q1 rfl 6 _ rfl
      have t7 : wr.cell? ⟨ga, 16, none⟩ = some (.complex .f64 0 0) := hcell 1 q1 rfl 7 _ rfl
      have t8 : wr.cell? ⟨ga, 17, none⟩ = some (.int .i64 0) := hcell 1 q1 rfl 8 _ rfl
      clear hcell
      go_wp2_with fail
      refine (HD1.out w2.heap.size _ [true] _ (HGW.out.stay (below_alloc wr _)) (HBS.out.below (below_alloc wr _)) (by simp) (Nat.le_trans HB.out.size (below_alloc wr _).size)).mono ?_
      rintro e w3 ⟨v3, rfl, hbs, hb3⟩
      obtain ⟨gt, c3, rfl, x1, x2, x3, x4, x5, x6, x7⟩ := hbs.two
      have HX3 : Hid (w2.heap.size ≤ gt ∧ gt < w3.heap.size ∧ 2 ≤ c3 ∧ w3.cell? ⟨gt, 0, none⟩ = some (.bool true) ∧ w3.cell? ⟨gt, 1, none⟩ = some (.bool false) ∧ w3.frozen? ⟨gt, 0, none⟩ = false ∧ w3.frozen? ⟨gt, 1, none⟩ = false) := ⟨x1, x2, x3, x4, x5, x6, x7⟩
      have HB3 : Hid (Below w2.heap.size w2 w3) := (HB.out.alloc HB.out.size _).trans hb3
      clear hbs hb3 x1 x2 x3 x4 x5 x6 x7
      go_wp2
      go_roundw
      case rel => exact ⟨HB3, .inr (.inr (.inl ⟨gt, c3, rfl, rfl, HX3⟩))⟩
      case measure => simp [intOf]
    · skip
      have t0 : wr.cell? ⟨ga, 18, none⟩ = some (.int .i64 4) := hcell 2 (Tm.plain 4) rfl 0 _ rfl
      have t1 : wr.cell? ⟨ga, 19, none⟩ = some (.string ⟨#[]⟩) := hcell 2 (Tm.plain 4) rfl 1 _ rfl
      have t2 : wr.cell? ⟨ga, 20, none⟩ = some (.int .i64 0) := hcell 2 (Tm.plain 4) rfl 2 _ rfl
      have t3 : wr.cell? ⟨ga, 21, none⟩ = some (.int .i64 0) := hcell 2 (Tm.plain 4) rfl 3 _ rfl
      have t4 : wr.cell? ⟨ga, 22, none⟩ = some (.int .i64 0) := hcell 2 (Tm.plain 4) rfl 4 _ rfl
      have t5 : wr.cell? ⟨ga, 23, none⟩ = some (.string ⟨#[]⟩) := hcell 2 (Tm.plain 4) rfl 5 _ rfl
      have t6 : wr.cell? ⟨ga, 24, none⟩ = some (.bool false) := hcell 2 (Tm.plain 4) rfl 6 _ rfl
      have t7 : wr.cell? ⟨ga, 25, none⟩ = some (.complex .f64 0 0) := hcell 2 (Tm.plain 4) rfl 7 _ rfl
      have t8 : wr.cell? ⟨ga, 26, none⟩ = some (.int .i64 0) := hcell 2 (Tm.plain 4) rfl 8 _ rfl
      clear hcell
      obtain ⟨x1, x2, x3, x4, x5, x6, x7⟩ := HX.out
      have HBA : Hid (Below wr.heap.size wr (wr.alloc (.cells #[.int .i64 4, .string ⟨#[]⟩, .int .i64 0, .int .i64 0, .int .i64 0, .string ⟨#[]⟩, .bool false, .complex .f64 0 0, .int .i64 0] 52))) := below_alloc wr _
      have HCC : Hid (Calls Tryz.prog 20 #[.slice (some ⟨gt, 0, none⟩) 2 vc, .agg #[.int .i64 ((4 : Nat) : Int), .string ⟨#[]⟩, .int .i64 ((0 : Nat) : Int), .int .i64 0, .int .i64 0, .string ⟨#[]⟩, .bool false, .complex .f64 0 0, .int .i64 ((0 : Nat) : Int)], .agg #[.slice (some ⟨g, 0, none⟩) 1 1, .slice none 0 0]] (wr.alloc (.cells #[.int .i64 4, .string ⟨#[]⟩, .int .i64 0, .int .i64 0, .int .i64 0, .string ⟨#[]⟩, .bool false, .complex .f64 0 0, .int .i64 0] 52)) fun e w' => e = .returned (.slice (some ⟨gt, 0, none⟩) 2 vc) ∧ w'.cell? ⟨gt, 0, none⟩ = some (.bool true) ∧ w'.cell? ⟨gt, 1, none⟩ = some (.bool (!false)) ∧ w'.frozen? ⟨gt, 0, none⟩ = false ∧ w'.frozen? ⟨gt, 1, none⟩ = false ∧ Below w2.heap.size (wr.alloc (.cells #[.int .i64 4, .string ⟨#[]⟩, .int .i64 0, .int .i64 0, .int .i64 0, .string ⟨#[]⟩, .bool false, .complex .f64 0 0, .int .i64 0] 52)) w') :=
        HD2.out gt vc true false _ (HGW.out.stay HBA.out) w2.heap.size x1 (Nat.lt_of_lt_of_le x2 HBA.out.size) x3 (by rw [HBA.out.cell (p := ⟨gt, 0, none⟩) x2]; exact x4) (by rw [HBA.out.cell (p := ⟨gt, 1, none⟩) x2]; exact x5) (by rw [HBA.out.frozen (p := ⟨gt, 0, none⟩) x2]; exact x6) (by rw [HBA.out.frozen (p := ⟨gt, 1, none⟩) x2]; exact x7)
      have HXX : Hid (w2.heap.size ≤ gt ∧ gt < wr.heap.size ∧ 2 ≤ vc) := ⟨x1, x2, x3⟩
      clear x1 x2 x3 x4 x5 x6 x7 HX
      go_wp2_with fail
      refine HCC.out.mono ?_
      rintro e w3 ⟨rfl, y1, y2, y3, y4, hb3⟩
      have HB3 : Hid (Below w2.heap.size w2 w3) := (HB.out.alloc HB.out.size _).trans hb3
      have HX3 : Hid (w2.heap.size ≤ gt ∧ gt < w3.heap.size ∧ 2 ≤ vc ∧ w3.cell? ⟨gt, 0, none⟩ = some (.bool true) ∧ w3.cell? ⟨gt, 1, none⟩ = some (.bool true) ∧ w3.frozen? ⟨gt, 0, none⟩ = false) := ⟨HXX.out.1, Nat.lt_of_lt_of_le HXX.out.2.1 (Nat.le_trans HBA.out.size hb3.size), HXX.out.2.2, y1, y2, y3⟩
      clear y1 y2 y3 y4 hb3 HCC
      go_wp2
      go_roundw
      case rel => exact ⟨HB3, .inr (.inr (.inr (.inl ⟨gt, vc, rfl, rfl, HX3⟩)))⟩
      case measure => simp [intOf]
    · skip
      have t0 : wr.cell? ⟨ga, 27, none⟩ = some (.int .i64 5) := hcell 3 (Tm.plain 5) rfl 0 _ rfl
      have t1 : wr.cell? ⟨ga, 28, none⟩ = some (.string ⟨#[]⟩) := hcell 3 (Tm.plain 5) rfl 1 _ rfl
      have t2 : wr.cell? ⟨ga, 29, none⟩ = some (.int .i64 0) := hcell 3 (Tm.plain 5) rfl 2 _ rfl
      have t3 : wr.cell? ⟨ga, 30, none⟩ = some (.int .i64 0) := hcell 3 (Tm.plain 5) rfl 3 _ rfl
      have t4 : wr.cell? ⟨ga, 31, none⟩ = some (.int .i64 0) := hcell 3 (Tm.plain 5) rfl 4 _ rfl
      have t5 : wr.cell? ⟨ga, 32, none⟩ = some (.string ⟨#[]⟩) := hcell 3 (Tm.plain 5) rfl 5 _ rfl
      have t6 : wr.cell? ⟨ga, 33, none⟩ = some (.bool false) := hcell 3 (Tm.plain 5) rfl 6 _ rfl
      have t7 : wr.cell? ⟨ga, 34, none⟩ = some (.complex .f64 0 0) := hcell 3 (Tm.plain 5) rfl 7 _ rfl
      have t8 : wr.cell? ⟨ga, 35, none⟩ = some (.int .i64 0) := hcell 3 (Tm.plain 5) rfl 8 _ rfl
      clear hcell
      obtain ⟨x1, x2, x3, x4, x5, x6⟩ := HX.out
      have HBA : Hid (Below wr.heap.size wr (wr.alloc (.cells #[.int .i64 5, .string ⟨#[]⟩, .int .i64 0, .int .i64 0, .int .i64 0, .string ⟨#[]⟩, .bool false, .complex .f64 0 0, .int .i64 0] 52))) := below_alloc wr _
      have HCC : Hid (Calls Tryz.prog 20 #[.slice (some ⟨gt, 0, none⟩) 2 vc, .agg #[.int .i64 ((5 : Nat) : Int), .string ⟨#[]⟩, .int .i64 ((0 : Nat) : Int), .int .i64 0, .int .i64 0, .string ⟨#[]⟩, .bool false, .complex .f64 0 0, .int .i64 ((0 : Nat) : Int)], .agg #[.slice (some ⟨g, 0, none⟩) 1 1, .slice none 0 0]] (wr.alloc (.cells #[.int .i64 5, .string ⟨#[]⟩, .int .i64 0, .int .i64 0, .int .i64 0, .string ⟨#[]⟩, .bool false, .complex .f64 0 0, .int .i64 0] 52)) fun e w' => e = .returned (.slice (some ⟨gt, 0, none⟩) 1 vc) ∧ w'.cell? ⟨gt, 0, none⟩ = some (.bool true) ∧ Below w2.heap.size (wr.alloc (.cells #[.int .i64 5, .string ⟨#[]⟩, .int .i64 0, .int .i64 0, .int .i64 0, .string ⟨#[]⟩, .bool false, .complex .f64 0 0, .int .i64 0] 52)) w') :=
        HD3.out gt vc _ w2.heap.size x1 (Nat.lt_of_lt_of_le x2 HBA.out.size) x3 (by rw [HBA.out.cell (p := ⟨gt, 0, none⟩) x2]; exact x4) (by rw [HBA.out.cell (p := ⟨gt, 1, none⟩) x2]; exact x5) (by rw [HBA.out.frozen (p := ⟨gt, 0, none⟩) x2]; exact x6)
      clear x1 x2 x3 x4 x5 x6 HX
      go_wp2_with fail
      refine HCC.out.mono ?_
      rintro e w3 ⟨rfl, y1, hb3⟩
      have HB3 : Hid (Below w2.heap.size w2 w3) := (HB.out.alloc HB.out.size _).trans hb3
      have HY1 : Hid (w3.cell? ⟨gt, 0, none⟩ = some (.bool true)) := y1
      clear y1 hb3 HCC
      go_wp2
      go_roundw
      case rel => exact ⟨HB3, .inr (.inr (.inr (.inr ⟨gt, vc, rfl, rfl, HY1.out⟩)))⟩
      case measure => simp [intOf]
    · go_wp2
      go_ret2
      exact ⟨rfl, HBW.out⟩

theorem law_live (w : World) (hv : Vars w) : Calls Tryz.prog 6 #[] w fun e w' => e = .returned (.bool true) ∧ Below w.heap.size w w' := by
  have hcx : ∀ (a : Addr) (m : Mode) (W : World) (x y : Nat), (store a (.complex .f64 x y) m).run Tryz.prog W = stored Tryz.prog W a (.complex .f64 x y) m := fun a m W x y => run_store _ _ _ _ _ rfl
  have HV : Hid (Vars w) := hv
  clear hv
  have HP : Hid (∀ w : World, Vars w → Calls Tryz.prog 5 #[.string liveT] w fun e w' => ∃ a c, e = .returned (.tuple #[.slice a 4 c, .int .i64 0, .int .i64 0]) ∧ Tms w' w.heap.size (.slice a 4 c) liveL ∧ Below w.heap.size w w') := Parse_live
  unfold liveT at HP
  go_enter Tryz.func6, Tryz.ntmps6
  go_wp2_with fail
  refine (HP.out _ HV.out).mono ?_
  rintro e w1 ⟨a, c, rfl, ht, hb1⟩
  have HT : Hid (TmsRd w1 a liveL) := ht.rd.2
  have HB1 : Hid (Below w.heap.size w w1) := hb1
  clear ht hb1
  have HBA : Hid (Below w1.heap.size w1 ((w1.alloc (.cells four 42)).alloc (.cells #[.slice (some ⟨w1.heap.size, 0, none⟩) 1 1, .slice none 0 0] 46))) := (below_alloc w1 _).alloc (by simp) _
  have HEV : Hid (Calls Tryz.prog 11 #[.slice a 4 c, ev w1.heap.size] ((w1.alloc (.cells four 42)).alloc (.cells #[.slice (some ⟨w1.heap.size, 0, none⟩) 1 1, .slice none 0 0] 46)) fun e w' => e = .returned (.tuple #[.bool true, .int .i64 0]) ∧ Below ((w1.alloc (.cells four 42)).alloc (.cells #[.slice (some ⟨w1.heap.size, 0, none⟩) 1 1, .slice none 0 0] 46)).heap.size ((w1.alloc (.cells four 42)).alloc (.cells #[.slice (some ⟨w1.heap.size, 0, none⟩) 1 1, .slice none 0 0] 46)) w') := Eval_live a c w1.heap.size _ (HT.out.below HBA.out) ((Blk.new w1 _ _).stay (below_alloc _ _))
  simp only [four, ev] at HBA HEV
  go_wp2_with fail
  refine HEV.out.mono ?_
  rintro e w2 ⟨rfl, hb2⟩
  have HB2 : Hid (Below w1.heap.size w1 w2) := HBA.out.trans (hb2.mono HBA.out.size)
  clear hb2 HEV
  have HT2 : Hid (TmsRd w2 a liveL) := HT.out.below HB2.out
  rcases HT2.out.cells with h0 | ⟨ga, rfl, hga, hcell⟩
  · cases h0
  have t2 : w2.cell? ⟨ga, 2, none⟩ = some (.int .i64 5) := hcell 0 q0 rfl 2 _ rfl
  have t18 : w2.cell? ⟨ga, 18, none⟩ = some (.int .i64 4) := hcell 2 (Tm.plain 4) rfl 0 _ rfl
  clear hcell
  go_wp2
  go_ret
  exact ⟨rfl, HB1.out.trans (HB2.out.mono HB1.out.size)⟩
end Go.Proofs.YteoopoabemeanaaGreatDoor
