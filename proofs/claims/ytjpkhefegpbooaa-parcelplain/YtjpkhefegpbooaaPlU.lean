/- Plain, as it is read; what a kind does not use. -/
import Derived.Test.YtjpkhefegpbooaaPlT
import Derived.Test.YtjpkhefegpbooaaPp4
namespace Go.Proofs.Ytjpkhefegpbooaa
open Go.RowKit

theorem PlainTold.rd {w w' : World} {q : Pc} {e : Ending} (h : PlainTold w w' q e) (hq : ∀ x ∈ q.items, ((-9223372036854775808 : Int) ≤ x.tick ∧ x.tick ≤ 9223372036854775807) ∧ (0 ≤ x.for_ ∧ x.for_ ≤ 4294967295)) : ∃ sa sn sc ia im ic, e = .returned (q.val sa sn sc ia im ic) ∧ PcRd w' q sa sn sc ia im ic := by
  obtain ⟨sa, sn, sc, ia, im, ic, L, he, hs, hi, hm⟩ := h
  refine ⟨sa, sn, sc, ia, im, ic, he, hs.rd, ?_, ?_, ?_, ?_, ?_⟩
  · have hir := hi.rd (fun x hx => hq x (by rw [← hm]; exact hx))
    rw [hm] at hir
    exact hir
  · rcases hs.row.2 with ⟨g1, g2⟩ | ⟨g', c', cur, g1, _, _, g4, g5, _⟩
    · simp only [Value.slice.injEq] at g1; omega
    · simp only [Value.slice.injEq] at g1; omega
  · rcases hs.row.2 with ⟨g1, g2⟩ | ⟨g', c', cur, g1, _, _, g4, g5, _⟩
    · simp only [Value.slice.injEq] at g1; omega
    · simp only [Value.slice.injEq] at g1; omega
  · obtain ⟨ia', ic', e2, e3, e4⟩ := hi.form
    simp only [Value.slice.injEq] at e2
    omega
  · obtain ⟨ia', ic', e2, e3, e4⟩ := hi.form
    simp only [Value.slice.injEq] at e2
    omega
theorem plainQ_items {p : Pc} {x : It} (h : x ∈ (plainQ p).items) : x ∈ p.items := by
  unfold plainQ at h
  split at h
  · simp only [plainP] at h
    split at h
    · exact h
    · cases h
  · cases h
theorem setCell_comm (w : World) (g i j : Nat) (u v : Value) (h : i ≠ j) : (w.setCell ⟨g, i, none⟩ u).setCell ⟨g, j, none⟩ v = (w.setCell ⟨g, j, none⟩ v).setCell ⟨g, i, none⟩ u := by
  unfold World.setCell
  congr 1
  simp only
  apply Array.ext
  · simp
  · intro k h1 h2
    simp only [Array.getElem_modify]
    by_cases hk : g = k
    · simp only [hk, if_true]
      cases w.heap[k]'(by simpa using h1) <;> simp
      exact Array.setIfInBounds_comm _ _ h
    · simp [hk]
end Go.Proofs.Ytjpkhefegpbooaa
