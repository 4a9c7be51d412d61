/- pred.Eval of live's terms and event; 'live' tells true. -/
import Derived.Test.YteoopoabemeanaaGreatDoorPaLive
import Derived.LoopN
import Derived.Lib.MinMaxS
namespace Go.Proofs.YteoopoabemeanaaGreatDoor
set_option maxRecDepth 100000
open Go.RowKit

/-- The event's one attribute: a is 4. -/
def four : Array Value := #[.string ⟨#[97]⟩, .int .i64 1, .int .i64 4, .string ⟨#[]⟩, .bool false, .complex .f64 0 0]
def four4 : Array Value := #[.int .i64 1, .int .i64 4, .string ⟨#[]⟩, .bool false, .complex .f64 0 0]
def five5 : Array Value := #[.int .i64 1, .int .i64 5, .string ⟨#[]⟩, .bool false, .complex .f64 0 0]
def ev (g : Nat) : Value := .agg #[.slice (some ⟨g, 0, none⟩) 1 1, .slice none 0 0]

theorem check_name_a (w : World) : Calls Tryz.prog 32 #[.string ⟨#[97]⟩, .string ⟨#[]⟩] w fun e w' => e = .returned (.int .i64 0) ∧ w' = w := by
  go_enter Tryz.func32, Tryz.ntmps32
  go_wp2_with fail
  refine (event_Name ⟨#[97]⟩ (by decide) w).mono ?_
  rintro e w1 ⟨⟨b, rfl, hb⟩, rfl⟩
  obtain rfl := hb.2 name_a
  clear hb
  go_wp2
  go_ret
  exact ⟨rfl, rfl⟩
theorem check_four (w : World) : Calls Tryz.prog 33 #[.agg four4] w fun e w' => e = .returned (.int .i64 0) ∧ Below w.heap.size w w' := value_Check ⟨1, 4, ⟨#[]⟩, false, 0, 0⟩ (.whole _ _ _ _ _ (by omega)) w
theorem check_five (w : World) : Calls Tryz.prog 33 #[.agg five5] w fun e w' => e = .returned (.int .i64 0) ∧ Below w.heap.size w w' := value_Check ⟨1, 5, ⟨#[]⟩, false, 0, 0⟩ (.whole _ _ _ _ _ (by omega)) w

theorem event_Check_live (g : Nat) (w : World) (hg : Blk w g four 42) : Calls Tryz.prog 19 #[ev g] w fun e w' => e = .returned (.int .i64 0) ∧ Below w.heap.size w w' := by
  have hcx : ∀ (a : Addr) (m : Mode) (W : World) (x y : Nat), (store a (.complex .f64 x y) m).run Tryz.prog W = stored Tryz.prog W a (.complex .f64 x y) m := fun a m W x y => run_store _ _ _ _ _ rfl
  have HG : Hid (Blk w g four 42) := hg
  have H4 : Hid (∀ w : World, Calls Tryz.prog 33 #[.agg four4] w fun e w' => e = .returned (.int .i64 0) ∧ Below w.heap.size w w') := check_four
  simp only [four4, ev] at *
  clear hg
  go_enter Tryz.func19, Tryz.ntmps19
  go_wp2
  go_loopw [3, 21] (fun t3 t21 wr => ((t3 = .string ⟨#[]⟩ ∧ t21 = .int .i64 0) ∨ (t3 = .string ⟨#[97]⟩ ∧ t21 = .int .i64 1)) ∧ Hid (Below w.heap.size w wr)) (fun _ t21 _ => 1 - (intOf t21).toNat)
  case atStart => exact ⟨.inl ⟨rfl, rfl⟩, below_alloc w _⟩
  case round =>
    obtain ⟨⟨rfl, rfl⟩ | ⟨rfl, rfl⟩, HB⟩ := hrel
    · have HG1 : Hid (Blk wr g four 42) := HG.out.stay HB.out
      have c0 : wr.cell? ⟨g, 0, none⟩ = some (.string ⟨#[97]⟩) := HG1.out.cell 0 rfl
      have c1 : wr.cell? ⟨g, 1, none⟩ = some (.int .i64 1) := HG1.out.cell 1 rfl
      have c2 : wr.cell? ⟨g, 2, none⟩ = some (.int .i64 4) := HG1.out.cell 2 rfl
      have c3 : wr.cell? ⟨g, 3, none⟩ = some (.string ⟨#[]⟩) := HG1.out.cell 3 rfl
      have c4 : wr.cell? ⟨g, 4, none⟩ = some (.bool false) := HG1.out.cell 4 rfl
      have c5 : wr.cell? ⟨g, 5, none⟩ = some (.complex .f64 0 0) := HG1.out.cell 5 rfl
      go_wp2_with fail
      refine (check_name_a _).mono ?_
      rintro e w1 ⟨rfl, rfl⟩
      go_wp2_with fail
      refine (H4.out _).mono ?_
      rintro e w2 ⟨rfl, hb2⟩
      have HB2 : Hid (Below w.heap.size w w2) := (HB.out.alloc HB.out.size _).trans (hb2.mono (HB.out.alloc HB.out.size _).size)
      have d0 : w2.cell? ⟨wr.heap.size, 0, none⟩ = some (.string ⟨#[97]⟩) := ((Blk.new wr _ _).stay hb2).cell 0 rfl
      clear hb2
      go_wp2
      go_roundw
      case rel => exact ⟨.inr ⟨rfl, rfl⟩, HB2⟩
      case measure => simp [intOf]
    · go_wp2
      go_ret
      exact ⟨rfl, HB.out⟩

theorem results_get {w : World} {tmps : Array Value} {g : Nat} {t : TypeId} {b v0 v1 v2 v3 v4 : Value} (h4 : tmps[4]?.getD undef = .pointer (some ⟨g, 0, none⟩)) (h5 : tmps[5]?.getD undef = b) (k : Blk w g #[v0, v1, v2, v3, v4] t) : (results Tryz.f50 tmps).run Tryz.prog w = .ok (.tuple #[.agg #[v0, v1, v2, v3, v4], b]) w := by
  have k0 := k.cell 0 rfl
  have k1 := k.cell 1 rfl
  have k2 := k.cell 2 rfl
  have k3 := k.cell 3 rfl
  have k4 := k.cell 4 rfl
  simp [results, Tryz.results50, go_sem, h4, h5, k0, k1, k2, k3, k4]

theorem event_Get_a (g : Nat) (w : World) (hg : Blk w g four 42) : Calls Tryz.prog 50 #[ev g, .string ⟨#[97]⟩] w fun e w' => e = .returned (.tuple #[.agg four4, .bool true]) ∧ Below w.heap.size w w' := by
  have hcx : ∀ (a : Addr) (m : Mode) (W : World) (x y : Nat), (store a (.complex .f64 x y) m).run Tryz.prog W = stored Tryz.prog W a (.complex .f64 x y) m := fun a m W x y => run_store _ _ _ _ _ rfl
  have HG : Hid (Blk w g four 42) := hg
  simp only [four4, ev] at *
  clear hg
  go_enter Tryz.func50, Tryz.ntmps50
  go_wp2
  obtain ⟨W, HW⟩ : ∃ W, Hid (W = (w.alloc (.cells #[.slice (some ⟨g, 0, none⟩) 1 1, .slice none 0 0] 46)).alloc (.cells #[.int .i64 0, .int .i64 0, .string ⟨#[]⟩, .bool false, .complex .f64 0 0] 40)) := ⟨_, rfl⟩
  have HBW : Hid (Below w.heap.size w W) := by show Below _ _ _; rw [HW.out]; exact (below_alloc w _).alloc (by simp) _
  have HL : Hid (Blk W (w.heap.size + 1) #[.int .i64 0, .int .i64 0, .string ⟨#[]⟩, .bool false, .complex .f64 0 0] 40) := by
    show Blk _ _ _ _
    rw [HW.out]
    have := Blk.new (w.alloc (.cells #[.slice (some ⟨g, 0, none⟩) 1 1, .slice none 0 0] 46)) #[.int .i64 0, .int .i64 0, .string ⟨#[]⟩, .bool false, .complex .f64 0 0] 40
    simpa using this
  rw [← HW.out]
  go_loopw [11] (fun t11 wr => t11 = .int .i64 0 ∧ wr = W) (fun t11 _ => 1 - (intOf t11).toNat)
  case atStart => exact ⟨rfl, rfl⟩
  case round =>
    obtain ⟨rfl, rfl⟩ := hrel
    have HG1 : Hid (Blk wr g four 42) := HG.out.stay HBW.out
    have c0 : wr.cell? ⟨g, 0, none⟩ = some (.string ⟨#[97]⟩) := HG1.out.cell 0 rfl
    have c1 : wr.cell? ⟨g, 1, none⟩ = some (.int .i64 1) := HG1.out.cell 1 rfl
    have c2 : wr.cell? ⟨g, 2, none⟩ = some (.int .i64 4) := HG1.out.cell 2 rfl
    have c3 : wr.cell? ⟨g, 3, none⟩ = some (.string ⟨#[]⟩) := HG1.out.cell 3 rfl
    have c4 : wr.cell? ⟨g, 4, none⟩ = some (.bool false) := HG1.out.cell 4 rfl
    have c5 : wr.cell? ⟨g, 5, none⟩ = some (.complex .f64 0 0) := HG1.out.cell 5 rfl
    have HLA : Hid (Blk (wr.alloc (.cells four 42)) (w.heap.size + 1) #[.int .i64 0, .int .i64 0, .string ⟨#[]⟩, .bool false, .complex .f64 0 0] 40) := HL.out.stay (below_alloc wr _)
    have HBA : Hid (Below w.heap.size w (wr.alloc (.cells four 42))) := HBW.out.alloc HBW.out.size _
    simp only [four] at HLA HBA
    have d0 := HLA.out.cell 0 rfl
    have d1 := HLA.out.cell 1 rfl
    have d2 := HLA.out.cell 2 rfl
    have d3 := HLA.out.cell 3 rfl
    have d4 := HLA.out.cell 4 rfl
    have f0 := HLA.out.free 0
    have f1 := HLA.out.free 1
    have f2 := HLA.out.free 2
    have f3 := HLA.out.free 3
    have f4 := HLA.out.free 4
    go_wp2
    try simp only [Exit.inBlock, Exit.then]
    refine bodyPost_ret (results_get (by rfl) (by rfl) (HLA.out.setW _ _ _ _ _)) rfl ?_
    exact ⟨rfl, ((((HBA.out.setCell (by simp) _).setCell (by simp) _).setCell (by simp) _).setCell (by simp) _).setCell (by simp) _⟩
end Go.Proofs.YteoopoabemeanaaGreatDoor
