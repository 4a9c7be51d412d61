/- 'live' of the law's package: an event is put, asked and named as the document says. -/
import Derived.Test.YtigmlhieibejoadEvName
import Derived.Test.YtigmlhieibejoadPutText
import Derived.Handy
namespace Go.Proofs.Ytigmlhieibejoad
open Go.RowKit

theorem law_some (w : World) : Calls Try.prog 16 #[] w fun e w' => ∃ g, e = .returned (.agg #[.slice (some ⟨g, 0, none⟩) 1 1, .slice none 0 0]) ∧ w'.heap[g]? = some (.cells #[.string ⟨#[97]⟩, .int .i64 3, .int .i64 0, .string ⟨#[]⟩, .bool true, .complex .f64 0 0] 51 (0, 0)) ∧ Below w.heap.size w w' := by
  go_enter Try.func16, Try.ntmps16
  go_wp2
  go_returns
  refine ⟨w.heap.size + 1, rfl, ?_, ?_⟩
  · have h := heap_alloc_new (w.alloc (.cells #[.slice (some ⟨w.heap.size + 1, 0, none⟩) 1 1, .slice none 0 0] 25)) (.cells #[.string ⟨#[97]⟩, .int .i64 3, .int .i64 0, .string ⟨#[]⟩, .bool true, .complex .f64 0 0] 51)
    simpa using h
  · exact (below_alloc w _).alloc (by simp) _

theorem value_Check3 (w : World) : Calls Try.prog 33 #[.agg #[.int .i64 3, .int .i64 0, .string ⟨#[]⟩, .bool true, .complex .f64 0 0]] w fun e w' => e = .returned (.int .i64 0) ∧ Below w.heap.size w w' := by
  go_enter Try.func33, Try.ntmps33
  go_wp2
  go_ret
  exact ⟨rfl, below_alloc w _⟩

theorem value_truthByte (w : World) : Calls Try.prog 36 #[.bool true] w fun e w' => e = .returned (.int .u8 1) ∧ w' = w := by
  go_enter Try.func36, Try.ntmps36
  go_wp2
  go_ret
  exact ⟨rfl, rfl⟩

set_option maxRecDepth 100000 in
set_option maxHeartbeats 1000000 in
theorem value_Put3 (w : World) : Calls Try.prog 23 #[.agg #[.int .i64 3, .int .i64 0, .string ⟨#[]⟩, .bool true, .complex .f64 0 0]] w fun e w' => ∃ a c, e = .returned (.tuple #[.slice a 2 c, .int .i64 0]) ∧ a ≠ none ∧ Own w' w.heap.size a 2 c [3, 1] ∧ Below w.heap.size w w' := by
  go_enter Try.func23, Try.ntmps23
  go_wp2_with fail
  refine (value_Check3 _).mono ?_
  rintro e w1 ⟨rfl, hb1⟩
  have k0 : w1.cell? ⟨w.heap.size, 0, none⟩ = some (.int .i64 3) := (hb1.cell (p := ⟨w.heap.size, 0, none⟩) (by simp)).trans (by simp)
  have k3 : w1.cell? ⟨w.heap.size, 3, none⟩ = some (.bool true) := (hb1.cell (p := ⟨w.heap.size, 3, none⟩) (by simp)).trans (by simp)
  have HB1 : Hid (Below w.heap.size w w1) := (below_alloc w _).trans (hb1.mono (by simp))
  clear hb1
  have hs1 : w.heap.size < w1.heap.size := by have := World.block_lt_of_cell? w1 _ k0; exact this
  have j0 : (w1.alloc (.cells #[.int .u8 3] 5)).cell? ⟨w.heap.size, 0, none⟩ = some (.int .i64 3) := ((below_alloc w1 _).cell (p := ⟨w.heap.size, 0, none⟩) hs1).trans k0
  have j3 : (w1.alloc (.cells #[.int .u8 3] 5)).cell? ⟨w.heap.size, 3, none⟩ = some (.bool true) := ((below_alloc w1 _).cell (p := ⟨w.heap.size, 3, none⟩) hs1).trans k3
  have HO : Hid (Own (w1.alloc (.cells #[.int .u8 3] 5)) w.heap.size (some ⟨w1.heap.size, 0, none⟩) 1 1 [3]) := Own.new w1 w.heap.size #[.int .u8 3] [3] (by simp) rfl (by omega) (by decide)
  clear hs1
  go_wp2_with fail
  refine (value_truthByte _).mono ?_
  rintro e w2 ⟨rfl, hw2⟩
  have HB2 : Hid (Below w.heap.size w w2) := by rw [hw2]; exact HB1.out.alloc HB1.out.size _
  have HO2 : Hid (Own w2 w.heap.size (some ⟨w1.heap.size, 0, none⟩) 1 1 [3]) := by rw [hw2]; exact HO.out
  clear hw2 HO HB1 j0 j3 k0 k3
  have HO3 : Hid (Own (w2.alloc (.cells #[.int .u8 1] 5)) w.heap.size (some ⟨w1.heap.size, 0, none⟩) 1 1 [3]) := HO2.out.below (below_alloc w2 _)
  have HR3 : Hid (Rd (w2.alloc (.cells #[.int .u8 1] 5)) (some ⟨w2.heap.size, 0, none⟩) 1 [1]) := (Own.new w2 w.heap.size #[.int .u8 1] [1] (by simp) rfl HB2.out.size (by decide)).rd
  have HB3 : Hid (Below w.heap.size w (w2.alloc (.cells #[.int .u8 1] 5))) := HB2.out.alloc HB2.out.size _
  go_wp2_with (at_builtin; refine wpList_append_rd rfl (.tmp 39) (.tmp 43) rfl w.heap.size (some ⟨w1.heap.size, 0, none⟩) 1 1 [3] rfl HO3.out (some ⟨w2.heap.size, 0, none⟩) 1 1 [1] rfl HR3.out (by simp) (by decide) HB3.out.size ?_)
  intro a' c' w4 ho hg hb4
  have HO4 : Hid (Own w4 w.heap.size a' 2 c' [3, 1]) := ho
  have HB4 : Hid (Below w.heap.size w w4) := HB3.out.trans hb4
  clear ho hg hb4 HO3 HR3 HB3 HO2 HB2
  go_wp2
  go_ret2
  refine ⟨a', c', rfl, ?_, HO4.out, HB4.out⟩
  rcases HO4.out.row.form (by omega) with ⟨g, cap, hv, _⟩
  simp only [Value.slice.injEq] at hv
  rw [hv.1]; simp
end Go.Proofs.Ytigmlhieibejoad
