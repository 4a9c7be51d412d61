/- span.At, span.Count. -/
import Derived.Test.YtcgjpkdpemlmbaaSpRight
namespace Go.Proofs.Ytcgjpkdpemlmbaa
open Go.RowKit

theorem atS_in {s : Sp} {l : List Sp} {t : Int} (h1 : s.fr ≤ t) (h2 : t ≤ s.to) : atS (s :: l) t = s.is := by rw [atS, if_pos ⟨h1, h2⟩]
theorem atS_out {s : Sp} {l : List Sp} {t : Int} (h : ¬ (s.fr ≤ t ∧ t ≤ s.to)) : atS (s :: l) t = atS l t := by rw [atS, if_neg h]
theorem drop_at {l : List Sp} {k : Nat} {q : Sp} (hq : l[k]? = some q) : l.drop k = q :: l.drop (k + 1) := by
  obtain ⟨h1, h2⟩ := List.getElem?_eq_some_iff.1 hq
  rw [List.drop_eq_getElem_cons h1, h2]


def countS : List Sp → Int → Int
  | [], _ => 0
  | s :: l, k => (if s.is = k then s.to - s.fr + 1 else 0) + countS l k
def countR (l : List Sp) (k : Int) : Int := if rightB Sp.zr l = true then countS l k else 0
theorem countR_ok {l : List Sp} {k : Int} (h : rightB Sp.zr l = true) : countR l k = countS l k := if_pos h
theorem countR_bad {l : List Sp} {k : Int} (h : rightB Sp.zr l = false) : countR l k = 0 := if_neg (by rw [h]; simp)

end Go.Proofs.Ytcgjpkdpemlmbaa
