/- A parameter of the law's type Rows: three slices of bytes that came in. -/
import Derived.Test.YtbhljlafijdodaaDoorFrame
import Derived.Lib.SmallJoins
namespace Go.Proofs.YtbhljlafijdodaaDoor
open Go.ChangeShapes Go.WideShapes Go.ChangeAt Go.RowKit Go.Joins

theorem cellsRows : Tryd.prog.cellsOf 35 = 3 := by kernel_rfl

theorem Own.capOk {w : World} {base : Nat} {a : Option Addr} {len cap : Nat} {bs : List Nat} (h : Own w base a len cap bs) : len ≤ cap := by
  rcases h.row.2 with ⟨hv, h0⟩ | ⟨g, c, cur, hv, _, _, hlc, _⟩
  · omega
  · simp only [Value.slice.injEq] at hv
    omega

/-- A slice of bytes in a cell that came in. -/
theorem rd_cell {H : Type} {enc : TypeId × Value → H} {W : World} {fuel : Nat} {v : Value} {x : DataW H × List MemPlace}
    (h : DataW.trod enc Tryd.prog W 0 (fun _ => true) true fuel 22 [v] = some x) : ∃ a len cap bs, v = .slice a len cap ∧ Rd W a len bs ∧ len ≤ cap ∧ cap ≤ 9223372036854775807 ∧ len + 1 ≤ Rows.uptoBulk x.1 ∧ (a = none → cap = 0) ∧ Form x.1 len cap := by
  rcases open_ints Tryd.underlying22 Tryd.underlying5 (by kernel_rfl) h with ⟨hcs, hx⟩ | ⟨y, l, c, zs, hcs, hrest⟩
  · have hv : v = .slice none 0 0 := by simpa using hcs
    subst hv
    obtain ⟨bs, hb⟩ := rd_of (W := W) (enc := enc) (a := none) (len := 0) (cap := 0) (d := x.1) (p := x.2) ⟨fuel, h⟩
    exact ⟨none, 0, 0, bs, rfl, hb⟩
  · have hv : v = .slice (some y) l c := by simpa using hcs
    subst hv
    obtain ⟨bs, hb⟩ := rd_of (W := W) (enc := enc) (a := some y) (len := l) (cap := c) (d := x.1) (p := x.2) ⟨fuel, h⟩
    exact ⟨some y, l, c, bs, rfl, hb⟩

/-- Three rows, opened. -/
theorem open_rows {H : Type} {enc : TypeId × Value → H} {W : World} {base : Nat} {v : Value} {d : DataW H} {p : List MemPlace} (hv : Value.okWide Tryd.prog W .any base 35 v)
    (h : DataW.Trod enc Tryd.prog W 0 (fun _ => true) true 35 v d p) :
    ∃ a1 l1 c1 xs a2 l2 c2 ys a3 l3 c3 zs, v = .agg #[.slice a1 l1 c1, .slice a2 l2 c2, .slice a3 l3 c3] ∧ Rd W a1 l1 xs ∧ (a1 = none → c1 = 0) ∧ Rd W a2 l2 ys ∧ (a2 = none → c2 = 0) ∧ Rd W a3 l3 zs ∧ (a3 = none → c3 = 0) ∧ l1 + l2 + l3 + 3 ≤ Rows.uptoBulk d := by
  obtain ⟨u0, u1, u2, y0, y1, y2, n, rfl, rfl, rfl, h0, h1, h2⟩ := open_agg3 Tryd.underlying35 (by kernel_rfl) cellsRows hv h
  obtain ⟨a1, l1, c1, xs, rfl, r1, _, _, b1, n1, _⟩ := rd_cell h0
  obtain ⟨a2, l2, c2, ys, rfl, r2, _, _, b2, n2, _⟩ := rd_cell h1
  obtain ⟨a3, l3, c3, zs, rfl, r3, _, _, b3, n3, _⟩ := rd_cell h2
  refine ⟨a1, l1, c1, xs, a2, l2, c2, ys, a3, l3, c3, zs, rfl, r1, n1, r2, n2, r3, n3, ?_⟩
  simp only [Rows.uptoBulk, Rows.uptoBulkAll]
  omega

end Go.Proofs.YtbhljlafijdodaaDoor
