/- A parameter of the law's type Around: two slices of bytes that came in. -/
import Derived.Test.YtbhljlafijdodabFrame
import Derived.Lib.SmallJoins
namespace Go.Proofs.Ytbhljlafijdodab
open Go.ChangeShapes Go.WideShapes Go.ChangeAt Go.RowKit Go.Joins

theorem ret_bool {b : Bool} (h : b = true) : Ending.returned (.bool b) = .returned (.bool true) := by rw [h]

theorem cellsAround : Try.prog.cellsOf 35 = 2 := by kernel_rfl

/-- A slice of bytes in a cell that came in. -/
theorem rd_cell {H : Type} {enc : TypeId × Value → H} {W : World} {fuel : Nat} {v : Value} {x : DataW H × List MemPlace}
    (h : DataW.trod enc Try.prog W 0 (fun _ => true) true fuel 23 [v] = some x) : ∃ a len cap bs, v = .slice a len cap ∧ Rd W a len bs ∧ len ≤ cap ∧ cap ≤ 9223372036854775807 ∧ len + 1 ≤ Rows.uptoBulk x.1 ∧ (a = none → cap = 0) ∧ Form x.1 len cap := by
  rcases open_ints Try.underlying23 Try.underlying5 (by kernel_rfl) h with ⟨hcs, hx⟩ | ⟨y, l, c, zs, hcs, hrest⟩
  · have hv : v = .slice none 0 0 := by simpa using hcs
    subst hv
    obtain ⟨bs, hb⟩ := rd_of (W := W) (enc := enc) (a := none) (len := 0) (cap := 0) (d := x.1) (p := x.2) ⟨fuel, h⟩
    exact ⟨none, 0, 0, bs, rfl, hb⟩
  · have hv : v = .slice (some y) l c := by simpa using hcs
    subst hv
    obtain ⟨bs, hb⟩ := rd_of (W := W) (enc := enc) (a := some y) (len := l) (cap := c) (d := x.1) (p := x.2) ⟨fuel, h⟩
    exact ⟨some y, l, c, bs, rfl, hb⟩

/-- What stands around bytes, opened. -/
theorem open_around {H : Type} {enc : TypeId × Value → H} {W : World} {base : Nat} {v : Value} {d : DataW H} {p : List MemPlace} (hv : Value.okWide Try.prog W .any base 35 v)
    (h : DataW.Trod enc Try.prog W 0 (fun _ => true) true 35 v d p) :
    ∃ a1 l1 c1 xs a2 l2 c2 zs, v = .agg #[.slice a1 l1 c1, .slice a2 l2 c2] ∧ Rd W a1 l1 xs ∧ (a1 = none → c1 = 0) ∧ Rd W a2 l2 zs ∧ (a2 = none → c2 = 0) ∧ l1 + l2 + 3 ≤ Rows.uptoBulk d := by
  obtain ⟨u0, u1, y0, y1, n, rfl, rfl, rfl, h0, h1⟩ := open_agg2 Try.underlying35 (by kernel_rfl) cellsAround hv h
  obtain ⟨a1, l1, c1, xs, rfl, r1, _, _, b1, n1, _⟩ := rd_cell h0
  obtain ⟨a2, l2, c2, zs, rfl, r2, _, _, b2, n2, _⟩ := rd_cell h1
  refine ⟨a1, l1, c1, xs, a2, l2, c2, zs, rfl, r1, n1, r2, n2, ?_⟩
  simp only [Rows.uptoBulk, Rows.uptoBulkAll]
  omega

end Go.Proofs.Ytbhljlafijdodab
