/- grapevineref13.Same of two parcels that are zero. -/
import Derived.Test.YtmpljoljpgbamaaPcM
import Derived.Test.YtmpljoljpgbamaaSpRef
namespace Go.Proofs.Ytmpljoljpgbamaa
open Go.RowKit

set_option maxRecDepth 100000 in
set_option maxHeartbeats 1000000 in
theorem ref_SameItems0 (a b : Option Addr) (c d : Nat) (w : World) : Calls Try.prog 31 #[.slice a 0 c, .slice b 0 d] w fun e w' => e = .returned (.bool true) ∧ w' = w := by
  go_enter Try.func31, Try.ntmps31
  go_wp2
  go_loopw [5] (fun t5 wr => t5 = .int .i64 0 ∧ Hid (wr = w)) (fun _ _ => 0)
  case atStart => exact ⟨rfl, rfl⟩
  case round =>
    obtain ⟨rfl, HW⟩ := hrel
    go_wp2
    go_ret
    exact ⟨rfl, HW.out⟩
set_option maxRecDepth 100000 in
set_option maxHeartbeats 1000000 in
theorem ref_Same13_zero (sa ia : Option Addr) (sc ic : Nat) (w : World) : Calls Try.prog 13 #[Pc.val ⟨0, 0, 0, 0, 0, 0, [], []⟩ sa 0 sc ia 0 ic, Pc.val ⟨0, 0, 0, 0, 0, 0, [], []⟩ none 0 0 none 0 0] w fun e w' => e = .returned (.bool true) ∧ Below w.heap.size w w' := by
  have HB : ∀ o o', Hid (Below w.heap.size w ((w.alloc o).alloc o')) := fun o o' => ((below_new w _).alloc (by simp) _)
  unfold Pc.val
  simp only
  go_enter Try.func13, Try.ntmps13
  go_wp2_with fail
  refine (ref_Same sa none 0 sc 0 0 [] [] _ ⟨rfl, .inl rfl⟩ ⟨rfl, .inl rfl⟩ (by unfold maxLen; omega)).mono ?_
  rw [show sameB [] [] = true from rfl]
  rintro e w1 ⟨rfl, hb1⟩
  have hk1 : Bk ((w.alloc (.cells #[.int .i64 0, .int .i64 0, .int .i64 0, .int .i64 0, .int .i64 0, .int .i64 0, .slice sa 0 sc, .slice ia 0 ic] 26)).alloc (.cells #[.int .i64 0, .int .i64 0, .int .i64 0, .int .i64 0, .int .i64 0, .int .i64 0, .slice none 0 0, .slice none 0 0] 26)) w.heap.size #[.int .i64 0, .int .i64 0, .int .i64 0, .int .i64 0, .int .i64 0, .int .i64 0, .slice sa 0 sc, .slice ia 0 ic] 26 := (Bk.new w _ _).stay (below_new _ _)
  have hk2 : Bk ((w.alloc (.cells #[.int .i64 0, .int .i64 0, .int .i64 0, .int .i64 0, .int .i64 0, .int .i64 0, .slice sa 0 sc, .slice ia 0 ic] 26)).alloc (.cells #[.int .i64 0, .int .i64 0, .int .i64 0, .int .i64 0, .int .i64 0, .int .i64 0, .slice none 0 0, .slice none 0 0] 26)) (w.heap.size + 1) #[.int .i64 0, .int .i64 0, .int .i64 0, .int .i64 0, .int .i64 0, .int .i64 0, .slice none 0 0, .slice none 0 0] 26 := by
    have h := Bk.new (w.alloc (.cells #[.int .i64 0, .int .i64 0, .int .i64 0, .int .i64 0, .int .i64 0, .int .i64 0, .slice sa 0 sc, .slice ia 0 ic] 26)) #[.int .i64 0, .int .i64 0, .int .i64 0, .int .i64 0, .int .i64 0, .int .i64 0, .slice none 0 0, .slice none 0 0] 26
    rwa [show (w.alloc (.cells #[.int .i64 0, .int .i64 0, .int .i64 0, .int .i64 0, .int .i64 0, .int .i64 0, .slice sa 0 sc, .slice ia 0 ic] 26)).heap.size = w.heap.size + 1 from by simp] at h
  have c7 : w1.cell? ⟨w.heap.size, 7, none⟩ = some (.slice ia 0 ic) := (hk1.stay hb1).cell 7 rfl
  have d7 : w1.cell? ⟨w.heap.size + 1, 7, none⟩ = some (.slice none 0 0) := (hk2.stay hb1).cell 7 rfl
  have HB1 : Hid (Below w.heap.size w w1) := (HB _ _).out.trans (hb1.mono (HB _ _).out.size)
  clear hb1 hk1 hk2
  go_wp2_with fail
  refine (ref_SameItems0 ia none ic 0 w1).mono ?_
  rintro e w2 ⟨rfl, hw2⟩
  rw [hw2]
  clear hw2 w2
  go_wp2
  go_ret
  exact ⟨rfl, HB1.out⟩
end Go.Proofs.Ytmpljoljpgbamaa
