/- What a script's cells hold: bytes, fates. -/
import Derived.Test.YthpjaidgacenoaaQRk6
import Derived.Test.YthpjaidgacenoaaFrame
import Derived.Deep.SlicePairs
namespace Go.Proofs.Ythpjaidgacenoaa
open Go.ChangeShapes Go.WideShapes Go.ChangeAt Go.RowKit

/-- A slice of bytes in a cell that came in. -/
theorem bytes_cell {H : Type} {enc : TypeId × Value → H} {W : World} {fuel : Nat} {v : Value} {x : DataW H × List MemPlace}
    (h : DataW.trod enc Try.prog W 0 (fun _ => true) true fuel 30 [v] = some x) : ∃ a len cap bs, v = .slice a len cap ∧ Rd W a len bs ∧ len ≤ cap ∧ (a = none → cap = 0) ∧ Form x.1 len cap := by
  rcases open_ints Try.underlying30 Try.underlying5 (by kernel_rfl) h with ⟨hcs, hx⟩ | ⟨y, l, c, zs, hcs, hrest⟩
  · have hv : v = .slice none 0 0 := by simpa using hcs
    subst hv
    obtain ⟨bs, hb⟩ := rd_of (W := W) (enc := enc) (a := none) (len := 0) (cap := 0) (d := x.1) (p := x.2) ⟨fuel, h⟩
    exact ⟨none, 0, 0, bs, rfl, hb.1, hb.2.1, hb.2.2.2.2.1, hb.2.2.2.2.2⟩
  · have hv : v = .slice (some y) l c := by simpa using hcs
    subst hv
    obtain ⟨bs, hb⟩ := rd_of (W := W) (enc := enc) (a := some y) (len := l) (cap := c) (d := x.1) (p := x.2) ⟨fuel, h⟩
    exact ⟨some y, l, c, bs, rfl, hb.1, hb.2.1, hb.2.2.2.2.1, hb.2.2.2.2.2⟩
/-- Fates in a cell that came in. -/
theorem fates_cell {H : Type} {enc : TypeId × Value → H} {W : World} {fuel : Nat} {v : Value} {x : DataW H × List MemPlace}
    (h : DataW.trod enc Try.prog W 0 (fun _ => true) true fuel 31 [v] = some x) : ∃ a len cap F, v = .slice a len cap ∧ FtRd W a len F ∧ Form x.1 len cap := by
  rcases open_ints Try.underlying31 Try.underlying3 (by kernel_rfl) h with ⟨hcs, hx⟩ | ⟨y, l, c, zs, hcs, _, hl, hm, hz, hx, hcell, hwz⟩
  · have hv : v = .slice none 0 0 := by simpa using hcs
    subst hv
    exact ⟨none, 0, 0, [], rfl, ⟨rfl, .inl rfl⟩, .inl ⟨by rw [hx], rfl, rfl⟩⟩
  · have hv : v = .slice (some y) l c := by simpa using hcs
    subst hv
    simp only [if_true] at hz
    unfold maxLen at hm
    refine ⟨some y, l, c, zs.take l, rfl, ⟨by rw [List.length_take]; omega, ?_⟩, .inr ⟨_, _, by rw [hx], by simp only [lits, List.length_map, List.length_take]; omega, by simp only [lits, List.length_map, List.length_take, List.length_drop]; omega⟩⟩
    by_cases h0 : l = 0
    · exact .inl h0
    · right
      obtain ⟨b, off, spot⟩ := y
      have hc := hcell 0 (by omega)
      have hspot : spot = none := by simpa [Addr.add] using World.cell?_spot hc
      subst hspot
      refine ⟨b, off, rfl, fun i hi => ?_⟩
      have hci := hcell i (by omega)
      have e : (⟨b, off, none⟩ : Addr).add i = ⟨b, off + i, none⟩ := by unfold Addr.add; split <;> simp_all
      rw [e] at hci
      rw [hci]
      have hzi : i < zs.length := by omega
      simp only [List.getD_eq_getElem?_getD, List.getElem?_take_of_lt hi, List.getElem?_eq_getElem hzi, Option.getD_some]
theorem FtRd.below {w w' : World} {a : Option Addr} {n : Nat} {F : List Int} (h : FtRd w a n F) (hb : Below w.heap.size w w') : FtRd w' a n F := by
  refine ⟨h.size, ?_⟩
  rcases h.cells with h0 | ⟨b, off, ha, hc⟩
  · exact .inl h0
  · refine .inr ⟨b, off, ha, fun i hi => ?_⟩
    rw [hb.cell (p := ⟨b, off + i, none⟩) (World.block_lt_of_cell? w _ (hc i hi))]
    exact hc i hi
theorem FtRd.far {w : World} {a : Option Addr} {n : Nat} {F : List Int} (h : FtRd w a n F) : n = 0 ∨ ∃ b off, a = some ⟨b, off, none⟩ ∧ b < w.heap.size := by
  rcases h.cells with h0 | ⟨b, off, ha, hc⟩
  · exact .inl h0
  · by_cases hn : n = 0
    · exact .inl hn
    · exact .inr ⟨b, off, ha, World.block_lt_of_cell? w _ (hc 0 (by omega))⟩
theorem bytesInt : Try.prog.bytesOf 3 = 8 := by kernel_rfl
theorem weights_in' {H : Type} (P : Program) (e : TypeId) : ∀ (l : List (DataW H)) (d : DataW H) (y : Nat), d ∈ l → y ∈ DataW.weights P e d → y ∈ DataW.weightsAll P e l
  | x :: l, d, y, hd, hy => by
    simp only [DataW.weightsAll, List.mem_append]
    rcases List.mem_cons.1 hd with rfl | hd
    · exact .inl hy
    · exact .inr (weights_in' P e l d y hd hy)

end Go.Proofs.Ythpjaidgacenoaa
