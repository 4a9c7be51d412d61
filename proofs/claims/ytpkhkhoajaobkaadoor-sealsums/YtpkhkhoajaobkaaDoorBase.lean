/- What walks of this seat share: how a slice of bytes reads ('Rd'), and what keeps it so. -/
import Derived.Test.YtpkhkhoajaobkaaDoorRows
import Derived.WalkKit
import Derived.WalkLawsBesides
import Derived.WalkSpells
import Derived.Laws.BytesArg
import Derived.Deep.AppendLies
import Derived.Lib.SlBytesConst
namespace Go.Proofs.YtpkhkhoajaobkaaDoor
open Go.RowKit

/-- A slice of bytes, by its address and length, reads as the numbers 'bs'. -/
structure Rd (w : World) (a : Option Addr) (len : Nat) (bs : List Nat) : Prop where
  size : bs.length = len
  byte : ∀ x ∈ bs, x < 256
  cells : len = 0 ∨ ∃ b off, a = some ⟨b, off, none⟩ ∧ b < w.heap.size ∧ ∀ i, i < len → w.cell? ⟨b, off + i, none⟩ = some (.int .u8 ((bs.getD i 0 : Nat) : Int))

/-- It reads so in every world that is as this one below what was there. -/
theorem Rd.below {w w' : World} {a : Option Addr} {len : Nat} {bs : List Nat} (h : Rd w a len bs) (hb : Below w.heap.size w w') : Rd w' a len bs := by
  refine ⟨h.size, h.byte, ?_⟩
  rcases h.cells with h0 | ⟨b, off, ha, hlt, hc⟩
  · exact .inl h0
  · refine .inr ⟨b, off, ha, Nat.lt_of_lt_of_le hlt hb.size, fun i hi => ?_⟩
    rw [hb.cell (p := ⟨b, off + i, none⟩) hlt]
    exact hc i hi

theorem getD_lt {bs : List Nat} (h : ∀ x ∈ bs, x < 256) (i : Nat) : bs.getD i 0 < 256 := by
  rw [List.getD_eq_getElem?_getD]
  by_cases hi : i < bs.length
  · rw [List.getElem?_eq_getElem hi]; exact h _ (List.getElem_mem hi)
  · rw [List.getElem?_eq_none (by omega)]; simp

theorem take_succ_getD (bs : List Nat) (k : Nat) (h : k < bs.length) : bs.take (k + 1) = bs.take k ++ [bs.getD k 0] := by
  rw [List.take_succ_eq_append_getElem h, List.getD_eq_getElem?_getD, List.getElem?_eq_getElem h]; rfl

theorem ret_int {k : IntKind} {a b : Int} (h : a = b) : Ending.returned (.int k a) = .returned (.int k b) := by rw [h]

/-- A row that was just laid reads as what was laid. -/
theorem Rd.new (w : World) (C : Array Value) (e : TypeId) (m : Nat × Nat) (bs : List Nat) (hb : ∀ x ∈ bs, x < 256) (hC : ∀ i, i < bs.length → C[i]? = some (.int .u8 ((bs.getD i 0 : Nat) : Int))) :
    Rd (w.alloc (.cells C e m)) (some ⟨w.heap.size, 0, none⟩) bs.length bs := by
  refine ⟨rfl, hb, .inr ⟨w.heap.size, 0, rfl, by simp, fun i hi => ?_⟩⟩
  have hh : (w.alloc (.cells C e m)).heap[w.heap.size]? = some (.cells C e m) := by
    show (w.heap.push _)[w.heap.size]? = _
    simp
  rw [cell_of_row (w.alloc (.cells C e m)) w.heap.size (0 + i) C e m hh, Nat.zero_add]
  exact hC i hi

end Go.Proofs.YtpkhkhoajaobkaaDoor
