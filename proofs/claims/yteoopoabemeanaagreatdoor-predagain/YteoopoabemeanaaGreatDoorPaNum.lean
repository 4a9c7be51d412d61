/- The number 5, by the program itself. -/
import Derived.Test.YteoopoabemeanaaGreatDoorWrd3
import Derived.Lib.ConvBytes
namespace Go.Proofs.YteoopoabemeanaaGreatDoor
set_option maxRecDepth 100000
open Go.RowKit

set_option maxHeartbeats 4000000 in
theorem uint_5 (w : World) : Calls Tryz.prog 94 #[.string ⟨#[53]⟩, .int .i64 10, .int .i64 64] w fun e w' => e = .returned (.tuple #[.int .u64 5, .nilIface]) ∧ Below w.heap.size w w' := by
  have hcv := Lib.run_convert_string_bytes (P := Tryz.prog) w 9 44 5 ⟨#[53]⟩ (u := .string) Tryz.underlying9 Tryz.underlying44 Tryz.underlying5
  have hc0 : (Lib.bytesWorld w 5 ⟨#[53]⟩).cell? ⟨w.heap.size, 0, none⟩ = some (.int .u8 53) := Lib.bytesWorld_cell w 5 ⟨#[53]⟩ 0 (by decide)
  have HB : Hid (Below w.heap.size w (Lib.bytesWorld w 5 ⟨#[53]⟩)) := ⟨rfl, rfl, rfl, by rw [Lib.bytesWorld_size]; omega, fun k hk => Lib.bytesWorld_at_old w _ _ k hk⟩
  generalize Lib.bytesWorld w 5 ⟨#[53]⟩ = W at *
  go_enter Tryz.func94, Tryz.ntmps94
  go_wp2
  go_loopw [12, 13, 101] (fun t12 t13 t101 wr => wr = W ∧ t12 = .bool false ∧ ((t13 = .int .u64 0 ∧ t101 = .int .i64 0) ∨ (t13 = .int .u64 5 ∧ t101 = .int .i64 1))) (fun _ _ t101 _ => 1 - (intOf t101).toNat)
  case atStart => exact ⟨rfl, rfl, .inl ⟨rfl, rfl⟩⟩
  case round =>
    obtain ⟨rfl, rfl, ⟨rfl, rfl⟩ | ⟨rfl, rfl⟩⟩ := hrel
    · go_wp2
      go_roundw
      case rel => exact ⟨by trivial, by trivial, .inr ⟨rfl, rfl⟩⟩
      case measure => simp [intOf]
    · go_wp2
      go_ret2
      exact ⟨rfl, HB.out⟩

set_option maxHeartbeats 2000000 in
theorem int_5 (w : World) : Calls Tryz.prog 75 #[.string ⟨#[53]⟩, .int .i64 10, .int .i64 64] w fun e w' => e = .returned (.tuple #[.int .i64 5, .nilIface]) ∧ Below w.heap.size w w' := by
  go_enter Tryz.func75, Tryz.ntmps75
  go_wp2_with fail
  refine (uint_5 _).mono ?_
  rintro e w1 ⟨rfl, hb1⟩
  have HB1 : Hid (Below w.heap.size w w1) := hb1
  clear hb1
  go_wp2
  go_ret2
  exact ⟨rfl, HB1.out⟩
theorem parse_5 (w : World) : Calls Tryz.prog 60 #[.string ⟨#[53]⟩, .int .i64 10, .int .i64 64] w fun e w' => e = .returned (.tuple #[.int .i64 5, .nilIface]) ∧ Below w.heap.size w w' := by
  go_enter Tryz.func60, Tryz.ntmps60
  go_wp2_with fail
  refine (int_5 _).mono ?_
  rintro e w1 ⟨rfl, hb1⟩
  have HB1 : Hid (Below w.heap.size w w1) := hb1
  clear hb1
  go_wp2
  go_ret2
  exact ⟨rfl, HB1.out⟩

theorem one_way (w : World) : Calls Tryz.prog 59 #[.string ⟨#[53]⟩, .bool false] w fun e w' => e = .returned (.bool true) ∧ w' = w := by
  have h0 : ((⟨#[53]⟩ : ByteArray)[0]'(by decide)).toNat = 53 := by decide
  go_enter Tryz.func59, Tryz.ntmps59
  go_wp2
  go_ret
  exact ⟨rfl, rfl⟩

/-- The digit 5, alone. -/
theorem read_number_5 (T : ByteArray) (p : Nat) (hp : p < T.size) (hT : T.size ≤ 300) (h5 : byteAt T p = 53) (hr : runTo T digB p = p + 1) (hs : subT T p (p + 1) = ⟨#[53]⟩) (w : World) :
    Calls Tryz.prog 45 #[.string T, .int .i64 (p : Int)] w fun e w' => e = toldW (⟨3, p, ⟨#[]⟩, 5, 0⟩, p + 1) ∧ Below w.heap.size w w' := by
  have hb : T[p].toNat = 53 := by rw [← byteAt_eq T p hp]; exact h5
  have HB : Hid (∀ w, Calls Tryz.prog 57 #[.string T, .int .i64 (p : Int), .func (.func 44) #[] #[]] w fun e w' => e = .returned (.int .i64 ((p : Int) + 1)) ∧ w' = w) := by
    intro w
    have := behind_digits T p (Nat.le_of_lt hp) hT w
    rw [hr] at this
    exact this
  have g1 : (0 : Int) ≤ (p : Int) := by omega
  have g2 : (p : Int) ≤ (p : Int) + 1 := by omega
  have g3 : (p : Int) + 1 ≤ (T.size : Int) := by omega
  have g4 : (p : Int) < (T.size : Int) := by omega
  have hs' : T.extract p (p + 1) = ⟨#[53]⟩ := hs
  clear h5 hr hs
  go_enter Tryz.func45, Tryz.ntmps45
  go_wp2_with fail
  refine (HB.out _).mono ?_
  rintro e w1 ⟨rfl, rfl⟩
  go_wp2_with fail
  refine (one_way _).mono ?_
  rintro e w1 ⟨rfl, rfl⟩
  go_wp2_with fail
  refine (parse_5 _).mono ?_
  rintro e w2 ⟨rfl, hb2⟩
  have e1 : (w.alloc (.cells #[.int .i64 0, .int .i64 0, .string ⟨#[]⟩, .int .i64 0, .int .i64 0] 63)).heap.size = w.heap.size + 1 := by simp
  have HL0 : Hid (Blk w2 w.heap.size #[.int .i64 0, .int .i64 0, .string ⟨#[]⟩, .int .i64 0, .int .i64 0] 63) := ((Blk.new w _ _).stay (below_alloc _ _)).stay hb2
  have HL1 : Hid (Blk w2 (w.heap.size + 1) #[.int .i64 3, .int .i64 (p : Int), .string ⟨#[]⟩, .int .i64 0, .int .i64 0] 63) := by
    have := (Blk.new (w.alloc (.cells #[.int .i64 0, .int .i64 0, .string ⟨#[]⟩, .int .i64 0, .int .i64 0] 63)) #[.int .i64 3, .int .i64 (p : Int), .string ⟨#[]⟩, .int .i64 0, .int .i64 0] 63).stay hb2
    rw [e1] at this
    exact this
  have HB2 : Hid (Below w.heap.size w w2) := ((below_alloc w _).alloc (by simp) _).trans (hb2.mono (by simp; omega))
  clear hb2 e1
  have d0 : w2.cell? ⟨w.heap.size, 0, none⟩ = some (.int .i64 0) := HL0.out.cell 0 rfl
  have d1 : w2.cell? ⟨w.heap.size, 1, none⟩ = some (.int .i64 0) := HL0.out.cell 1 rfl
  have d2 : w2.cell? ⟨w.heap.size, 2, none⟩ = some (.string ⟨#[]⟩) := HL0.out.cell 2 rfl
  have d3 : w2.cell? ⟨w.heap.size, 3, none⟩ = some (.int .i64 0) := HL0.out.cell 3 rfl
  have d4 : w2.cell? ⟨w.heap.size, 4, none⟩ = some (.int .i64 0) := HL0.out.cell 4 rfl
  have f0 := HL0.out.free 0
  have f1 := HL0.out.free 1
  have f2 := HL0.out.free 2
  have f3 := HL0.out.free 3
  have f4 := HL0.out.free 4
  have x0 : w2.cell? ⟨w.heap.size + 1, 0, none⟩ = some (.int .i64 3) := HL1.out.cell 0 rfl
  have x1 : w2.cell? ⟨w.heap.size + 1, 1, none⟩ = some (.int .i64 (p : Int)) := HL1.out.cell 1 rfl
  have x2 : w2.cell? ⟨w.heap.size + 1, 2, none⟩ = some (.string ⟨#[]⟩) := HL1.out.cell 2 rfl
  have x3 : w2.cell? ⟨w.heap.size + 1, 3, none⟩ = some (.int .i64 0) := HL1.out.cell 3 rfl
  have x4 : w2.cell? ⟨w.heap.size + 1, 4, none⟩ = some (.int .i64 0) := HL1.out.cell 4 rfl
  have y3 := HL1.out.free 3
  go_wp2
  try simp only [Exit.inBlock, Exit.then]
  refine bodyPost_ret (results_word2 (wd := ⟨3, p, ⟨#[]⟩, 5, 0⟩) rfl (by rfl) (by rfl) ((HL0.out.other _ _ (by simp)).setW _ _ _ _ _)) rfl ?_
  exact ⟨rfl, (((((HB2.out.setCell (by simp) _).setCell (Nat.le_refl _) _).setCell (Nat.le_refl _) _).setCell (Nat.le_refl _) _).setCell (Nat.le_refl _) _).setCell (Nat.le_refl _) _⟩
end Go.Proofs.YteoopoabemeanaaGreatDoor
