/- value.Put of a value that Take tells: its bytes. -/
import Derived.Test.YtfmpfjpcigdeoabGreatDoorValPut2
import Derived.Test.YtfmpfjpcigdeoabGreatDoorValOnceM
namespace Go.Proofs.YtfmpfjpcigdeoabGreatDoor
set_option maxRecDepth 100000
open Go.RowKit

theorem value_Put (v : Val) (L : List Nat) (h : Val.Bytes v L) (m : Nat) (hm : L.length = m) (w : World) :
    Calls Tryz.prog 47 #[.agg v.cells] w fun e w' => ∃ a c, e = .returned (.tuple #[.slice a m c, .int .i64 0]) ∧ a ≠ none ∧ Own w' w.heap.size a m c L ∧ Below w.heap.size w w' := by
  subst hm
  cases h using Val.Bytes.elim with
  | whole n h =>
    have := Leb.leb_length (fold n)
    rw [List.length_append, List.length_singleton]
    exact value_Put_1 n _ _ _ _ h _ _ rfl rfl (by omega) w
  | words l h hb =>
    have := Leb.leb_length l.length
    have e : ([2] ++ (Leb.leb l.length ++ l)).length = 1 + (Leb.leb l.length ++ l).length := by rw [List.length_append, List.length_singleton]
    rw [e]
    exact value_Put_2 0 (str l) _ _ _ (by rw [str_size]; exact h) (Leb.leb l.length ++ l) _ (by rw [str_size, bytesOf_str hb]) rfl (by rw [List.length_append]; omega) w
  | truth t => exact value_Put_3 0 _ t _ _ w
  | point x y hx hy =>
    have := Leb.leb_length (fold x)
    have := Leb.leb_length (fold y)
    have h := value_Put_4 0 ⟨#[]⟩ false x y hx hy _ _ _ _ rfl rfl (by omega) rfl rfl (by omega) w
    rw [List.append_assoc] at h
    have e : ([4] ++ (Leb.leb (fold x) ++ Leb.leb (fold y))).length = 1 + (Leb.leb (fold x)).length + (Leb.leb (fold y)).length := by simp; omega
    rw [e]
    exact h
end Go.Proofs.YtfmpfjpcigdeoabGreatDoor
