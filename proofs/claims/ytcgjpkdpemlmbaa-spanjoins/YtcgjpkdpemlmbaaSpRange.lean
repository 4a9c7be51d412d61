/- A range that came in. -/
import Derived.Test.YtcgjpkdpemlmbaaSpOk
import Derived.Test.YtcgjpkdpemlmbaaSpPart
import Derived.Lib.SmallJoins
namespace Go.Proofs.Ytcgjpkdpemlmbaa
open Go.ChangeShapes Go.WideShapes Go.ChangeAt Go.RowKit Go.Joins

theorem open_range {H : Type} {enc : TypeId × Value → H} {W : World} {base : Nat} {v : Value} {d : DataW H} {p : List MemPlace} (hv : Value.okWide Try.prog W .any base 30 v)
    (h : DataW.Trod enc Try.prog W 0 (fun _ => true) true 30 v d p) :
    ∃ f t : Int, v = .agg #[.int .i64 f, .int .i64 t] := by
  obtain ⟨u0, u1, y0, y1, m, rfl, rfl, rfl, h0, h1⟩ := open_agg2 Try.underlying30 (by kernel_rfl) (by kernel_rfl) hv h
  obtain ⟨x, hx, _, _⟩ := DataW.trod_int Try.underlying3 h0
  obtain ⟨y, hy, _, _⟩ := DataW.trod_int Try.underlying3 h1
  have e0 : u0 = .int .i64 x := by simpa using hx
  have e1 : u1 = .int .i64 y := by simpa using hy
  exact ⟨x, y, by rw [e0, e1]⟩
theorem keep_forget {l : List Sp} {f t : Int} (hft : f ≤ t) (h : RightS Sp.zr l) (u : Int) : max (atS (keepS l f t) u) (atS (forgetS l f t) u) = atS l u := by
  have hr := atS_range h u
  rw [keep_at, forget_at l Sp.zr f t u hft (by decide) h]
  split <;> omega
theorem keep_or {l : List Sp} {f t : Int} (hft : f ≤ t) (h : RightS Sp.zr l) (u : Int) : atS (keepS l f t) u = 0 ∨ atS (forgetS l f t) u = 0 := by
  rw [keep_at, forget_at l Sp.zr f t u hft (by decide) h]
  by_cases hh : f ≤ u ∧ u ≤ t
  · right; rw [if_pos hh]
  · left; rw [if_neg hh]
end Go.Proofs.Ytcgjpkdpemlmbaa
