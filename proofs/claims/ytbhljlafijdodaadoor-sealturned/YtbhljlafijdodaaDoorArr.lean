/- An array of integers that came in, by value. -/
import Derived.Test.YtbhljlafijdodaaDoorFrame
namespace Go.Proofs.YtbhljlafijdodaaDoor
open Go.ChangeShapes Go.WideShapes Go.ChangeAt Go.RowKit

theorem okWide_arr {P : Program} {w : World} {r : Reach} {base : Nat} {t : TypeId} {v : Value} {n : Nat} {e : TypeId} (ht : P.underlying t = some (.array n e)) (h : Value.okWide P w r base t v) : ∃ cs, v = .agg cs ∧ cs.size = P.cellsOf t := by
  simp only [Value.okWide, ht] at h
  obtain ⟨cs, h1, h2, _⟩ := h
  exact ⟨cs, h1, h2⟩

theorem open_arr {H : Type} {enc : TypeId × Value → H} {P : Program} {W : World} {r : Reach} {base n : Nat} {t e : TypeId} {k : IntKind} {v : Value} {d : DataW H} {p : List MemPlace} (ht : P.underlying t = some (.array n e)) (he : P.underlying e = some (.int k)) (hc : P.cellsOf e = 1) (hC : P.cellsOf t = n)
    (hv : Value.okWide P W r base t v) (h : DataW.Trod enc P W 0 (fun _ => true) true t v d p) : ∃ xs : List Int, v = .agg (xs.map (Value.int k)).toArray ∧ xs.length = n ∧ ∀ x ∈ xs, (Lit.int k x).wf = true := by
  obtain ⟨cs, rfl, hsz⟩ := okWide_arr ht hv
  obtain ⟨fuel, hf⟩ := h
  obtain ⟨ys, m, _, _, _, hys, hel⟩ := DataW.trod_array ht hf
  have each : ∀ i (hi : i < cs.toList.length), ∃ x, cs.toList[i] = Value.int k x ∧ (Lit.int k x).wf = true := by
    intro i hi
    have hin : i < n := by rw [← hC, ← hsz, ← Array.length_toList]; exact hi
    have h1 := hel i hin
    rw [hc, Nat.mul_one] at h1
    have h2 : ((Value.agg cs).cells.toList.drop i).take 1 = [cs.toList[i]] := by
      show (cs.toList.drop i).take 1 = _
      rw [List.drop_eq_getElem_cons hi]
      rfl
    rw [h2, List.getElem?_eq_getElem (by omega)] at h1
    obtain ⟨x, e0, _, wx⟩ := DataW.trod_int he h1
    exact ⟨x, by simpa using e0, wx⟩
  have all : ∀ l : List Value, (∀ i (hi : i < l.length), ∃ x, l[i] = Value.int k x ∧ (Lit.int k x).wf = true) → ∃ xs : List Int, l = xs.map (Value.int k) ∧ ∀ x ∈ xs, (Lit.int k x).wf = true := by
    intro l
    induction l with
    | nil => intro _; exact ⟨[], rfl, by simp⟩
    | cons c l ih =>
      intro hl
      obtain ⟨x, hx, wx⟩ := hl 0 (by simp)
      obtain ⟨xs, hxs, wxs⟩ := ih (fun i hi => hl (i + 1) (Nat.succ_lt_succ hi))
      refine ⟨x :: xs, ?_, ?_⟩
      · rw [List.map_cons, ← hxs]
        simp only [List.getElem_cons_zero] at hx
        rw [hx]
      · intro y hy
        rcases List.mem_cons.1 hy with rfl | hy
        · exact wx
        · exact wxs y hy
  obtain ⟨xs, hxs, wxs⟩ := all cs.toList each
  refine ⟨xs, ?_, ?_, wxs⟩
  · rw [← hxs]
  · have := congrArg List.length hxs
    rw [List.length_map, Array.length_toList] at this
    omega

theorem list2 {α : Type} {l : List α} (h : l.length = 2) : ∃ a b, l = [a, b] := by
  match l, h with
  | [a, b], _ => exact ⟨a, b, rfl⟩
theorem list4 {α : Type} {l : List α} (h : l.length = 4) : ∃ a b c d, l = [a, b, c, d] := by
  match l, h with
  | [a, b, c, d], _ => exact ⟨a, b, c, d, rfl⟩

end Go.Proofs.YtbhljlafijdodaaDoor
