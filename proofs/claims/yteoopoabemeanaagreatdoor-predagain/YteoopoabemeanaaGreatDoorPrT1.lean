/- Print's small parts: cmpSign, held, joined, partText. -/
import Derived.Test.YteoopoabemeanaaGreatDoorPaM
import Derived.Test.YteoopoabemeanaaGreatDoorBlk
import Derived.Test.YteoopoabemeanaaGreatDoorShelfB
import Derived.Test.YteoopoabemeanaaGreatDoorFlt2
import Derived.Deep.RegionHeld3
import Derived.Deep.QuietTactic
import Derived.Deep.Cut
import Derived.BigQuiet
namespace Go.Proofs.YteoopoabemeanaaGreatDoor
set_option maxRecDepth 100000
open Go.RowKit

theorem cmp_sign (c : Nat) (hc : 3 ≤ c ∧ c ≤ 10) (w : World) : Calls Tryz.prog 35 #[.int .i64 (c : Int)] w fun e w' => e = .returned (.string (cmpText c)) ∧ w' = w := by
  rcases (show c = 3 ∨ c = 4 ∨ c = 5 ∨ c = 6 ∨ c = 7 ∨ c = 8 ∨ c = 9 ∨ c = 10 by omega) with rfl | rfl | rfl | rfl | rfl | rfl | rfl | rfl
  all_goals
    go_enter Tryz.func35, Tryz.ntmps35
    go_wp2
    go_ret
    exact ⟨rfl, rfl⟩
/-- A text, in brackets where it binds less than it must. -/
def heldB (t : ByteArray) (b k : Int) : ByteArray := if b < k then ⟨#[40]⟩ ++ t ++ ⟨#[41]⟩ else t
theorem held_w (t : ByteArray) (ht : t.size ≤ 1000000) (b k : Int) (w : World) : Calls Tryz.prog 22 #[.agg #[.string t, .int .i64 b], .int .i64 k] w fun e w' => e = .returned (.string (heldB t b k)) ∧ Below w.heap.size w w' := by
  unfold heldB
  by_cases h : b < k
  · rw [if_pos h]
    go_enter Tryz.func22, Tryz.ntmps22
    go_wp2
    go_ret
    exact ⟨rfl, below_alloc w _⟩
  · rw [if_neg h]
    go_enter Tryz.func22, Tryz.ntmps22
    go_wp2
    go_ret
    exact ⟨rfl, below_alloc w _⟩
theorem held_size {t : ByteArray} {b k : Int} : (heldB t b k).size ≤ t.size + 2 := by
  unfold heldB
  split
  · rw [ByteArray.size_append, ByteArray.size_append]
    have h1 : (⟨#[40]⟩ : ByteArray).size = 1 := rfl
    have h2 : (⟨#[41]⟩ : ByteArray).size = 1 := rfl
    omega
  · omega
theorem results_piece {w : World} {tmps : Array Value} {g : Nat} {t : ByteArray} {b : Int} (h8 : tmps[8]?.getD undef = .pointer (some ⟨g, 0, none⟩)) (k : Blk w g #[.string t, .int .i64 b] 57) : (results Tryz.f23 tmps).run Tryz.prog w = .ok (.agg #[.string t, .int .i64 b]) w := by
  have k0 : w.cell? ⟨g, 0, none⟩ = some (.string t) := k.cell 0 rfl
  have k1 : w.cell? ⟨g, 1, none⟩ = some (.int .i64 b) := k.cell 1 rfl
  simp [results, Tryz.results23, go_sem, h8, k0, k1]
set_option maxHeartbeats 2000000 in
theorem joined_w (t1 t2 bt : ByteArray) (h1 : t1.size ≤ 1000000) (h2 : t2.size ≤ 1000000) (h3 : bt.size ≤ 10) (b1 b2 k : Int) (hk : 0 ≤ k ∧ k ≤ 2) (w : World) :
    Calls Tryz.prog 23 #[.agg #[.string t1, .int .i64 b1], .agg #[.string t2, .int .i64 b2], .string bt, .int .i64 k] w fun e w' => e = .returned (.agg #[.string (heldB t1 b1 k ++ bt ++ heldB t2 b2 (k + 1)), .int .i64 k]) ∧ Below w.heap.size w w' := by
  have hs1 := held_size (t := t1) (b := b1) (k := k)
  have hs2 := held_size (t := t2) (b := b2) (k := k + 1)
  have c4 : ¬ (9223372036854775807 < (heldB t1 b1 k).size + bt.size) := by omega
  have c5 : ¬ (9223372036854775807 < (heldB t1 b1 k).size + bt.size + (heldB t2 b2 (k + 1)).size) := by omega
  have c6 : ¬ (9223372036854775807 < (heldB t1 b1 k ++ bt).size + (heldB t2 b2 (k + 1)).size) := by rw [ByteArray.size_append]; omega
  have x1 : IntKind.i64.wrap (k + 1) = k + 1 := by simp [IntKind.wrap, IntKind.bits, IntKind.signed]; omega
  have x2 : wrap64 (k + 1) = k + 1 := by unfold wrap64; omega
  clear hs1 hs2
  obtain ⟨W1, HW1⟩ : ∃ W1, Hid (W1 = ((w.alloc (.cells #[.string t1, .int .i64 b1] 57)).alloc (.cells #[.string t2, .int .i64 b2] 57)).alloc (.cells #[.string ⟨#[]⟩, .int .i64 0] 57)) := ⟨_, rfl⟩
  have e1 : (w.alloc (.cells #[.string t1, .int .i64 b1] 57)).heap.size = w.heap.size + 1 := by simp
  have e2 : ((w.alloc (.cells #[.string t1, .int .i64 b1] 57)).alloc (.cells #[.string t2, .int .i64 b2] 57)).heap.size = w.heap.size + 1 + 1 := by simp
  have HX1 : Hid (Below w.heap.size w W1) := by (show Below _ _ _); rw [HW1.out]; exact ((below_alloc w _).alloc (by omega) _).alloc (by omega) _
  have HK0 : Hid (Blk W1 w.heap.size #[.string t1, .int .i64 b1] 57) := by (show Blk _ _ _ _); rw [HW1.out]; exact ((Blk.new w _ _).stay (below_alloc _ _)).stay (below_alloc _ _)
  have HK1 : Hid (Blk W1 (w.heap.size + 1) #[.string t2, .int .i64 b2] 57) := by (show Blk _ _ _ _); rw [HW1.out, ← e1]; exact (Blk.new _ _ _).stay (below_alloc _ _)
  have HK2 : Hid (Blk W1 (w.heap.size + 2) #[.string ⟨#[]⟩, .int .i64 0] 57) := by (show Blk _ _ _ _); rw [HW1.out, show w.heap.size + 2 = w.heap.size + 1 + 1 from rfl, ← e2]; exact Blk.new _ _ _
  have HSZ : Hid (W1.heap.size = w.heap.size + 3) := by (show _ = _); rw [HW1.out]; simp
  have HLE : Hid (w.heap.size + 2 ≤ W1.heap.size) := by (show _ ≤ _); rw [HSZ.out]; omega
  have HSK : Hid (∀ w', Below (w.heap.size + 2) W1 w' → w'.cell? ⟨w.heap.size, 0, none⟩ = some (.string t1) ∧ w'.cell? ⟨w.heap.size, 1, none⟩ = some (.int .i64 b1) ∧ w'.cell? ⟨w.heap.size + 1, 0, none⟩ = some (.string t2) ∧ w'.cell? ⟨w.heap.size + 1, 1, none⟩ = some (.int .i64 b2)) := by
    intro w' hb
    have k := HK0.out.below hb (by omega)
    have m := HK1.out.below hb (by omega)
    exact ⟨k.cell 0 rfl, k.cell 1 rfl, m.cell 0 rfl, m.cell 1 rfl⟩
  clear HK0 HK1
  go_enter Tryz.func23, Tryz.ntmps23
  go_upto_region 1 with fail
  rw [← HW1.out]
  have HB0 : Hid (Below W1.heap.size W1 W1.drew) := (Below.refl _ _).drew
  clear e1 e2
  go_region_held3 (fun w' => w'.cell? ⟨w.heap.size, 0, none⟩ = some (.string t1) ∧ w'.cell? ⟨w.heap.size, 1, none⟩ = some (.int .i64 b1) ∧ w'.cell? ⟨w.heap.size + 1, 0, none⟩ = some (.string t2) ∧ w'.cell? ⟨w.heap.size + 1, 1, none⟩ = some (.int .i64 b2)) (first | with_reducible exact HSK.out _ (HB0.out.mono HLE.out) | with_reducible exact HSK.out _ (Below.refl _ _).drew | with_reducible exact HSK.out _ (Below.refl _ _) | exact HSK.out _ (((HB0.out.mono HLE.out).setCell (Nat.le_refl _) _).setCell (Nat.le_refl _) _) | fail)
    (first
      | (go_at_call 22; refine (held_w _ (by assumption) _ _ _).mono ?_; rintro e w3 ⟨rfl, hb3⟩; have HB' : Hid (Below W1.heap.size W1 w3) := HB0.out.trans (hb3.mono HB0.out.size); clear hb3 HB0; have HB0 := HB'; clear HB'; have HK3 : Hid (Blk w3 (w.heap.size + 2) #[.string ⟨#[]⟩, .int .i64 0] 57) := HK2.out.stay HB0.out; have e0 : w3.cell? ⟨w.heap.size + 2, 0, none⟩ = some (.string ⟨#[]⟩) := HK3.out.cell 0 rfl; have e1 : w3.cell? ⟨w.heap.size + 2, 1, none⟩ = some (.int .i64 0) := HK3.out.cell 1 rfl; have f0 := HK3.out.free 0; have f1 := HK3.out.free 1))
  all_goals (
    have HK4 := (HK3.out.set 0 (.string (heldB t1 b1 k ++ bt ++ heldB t2 b2 (k + 1)))).set 1 (.int .i64 k)
    have HX4 : Hid (Below w.heap.size w ((w3.setCell ⟨w.heap.size + 2, 0, none⟩ (.string (heldB t1 b1 k ++ bt ++ heldB t2 b2 (k + 1)))).setCell ⟨w.heap.size + 2, 1, none⟩ (.int .i64 k))) := ((HX1.out.trans (HB0.out.mono HX1.out.size)).setCell (by show w.heap.size ≤ w.heap.size + 2; omega) _).setCell (by show w.heap.size ≤ w.heap.size + 2; omega) _
    go_wp2
    refine bodyPost_ret (results_piece (by rfl) HK4) rfl ?_
    exact ⟨rfl, HX4.out⟩)
end Go.Proofs.YteoopoabemeanaaGreatDoor
