/- 'live' of the law's package: the sum of the nine digits is what the document gives. -/
import Derived.Test.YtpkhkhoajaobkaaDoorSums
namespace Go.Proofs.YtpkhkhoajaobkaaDoor
open Go.RowKit

theorem live_any (w : World) (ht : Tab w) (h0 : 0 < w.heap.size) :
    Calls Tryd.prog 9 #[] w fun e w' => e = .returned (.bool true) ∧ Below w.heap.size w w' := by
  have HT : Hid (Tab w) := ht
  clear ht
  have kc := fun (w : World) (C : Array Value) (n c : Nat) => Lib.run_convert_bytes_const (P := Tryd.prog) w 23 5 C n c Tryd.underlying23 Tryd.underlying5
  go_enter Tryd.func9, Tryd.ntmps9
  go_wp2_with fail
  have hb : Below w.heap.size w (w.alloc (.cells #[.int .u8 49, .int .u8 50, .int .u8 51, .int .u8 52, .int .u8 53, .int .u8 54, .int .u8 55, .int .u8 56, .int .u8 57] 5 (9, 10))) := (Below.refl _ _).alloc (Nat.le_refl _) _
  have HB : Hid _ := hb
  refine (seal_Sum _ 9 9 [49, 50, 51, 52, 53, 54, 55, 56, 57] _ (Rd.new w _ _ _ [49, 50, 51, 52, 53, 54, 55, 56, 57] (by decide) ?_) (by omega) (Tab.below HT.out h0 hb)).mono ?_
  · intro i hi
    match i, hi with
    | 0, _ => rfl
    | 1, _ => rfl
    | 2, _ => rfl
    | 3, _ => rfl
    | 4, _ => rfl
    | 5, _ => rfl
    | 6, _ => rfl
    | 7, _ => rfl
    | 8, _ => rfl
  rw [digits]
  clear hb
  rintro e w' ⟨rfl, rfl⟩
  go_wp2
  go_ret
  exact ⟨rfl, HB.out⟩
end Go.Proofs.YtpkhkhoajaobkaaDoor
