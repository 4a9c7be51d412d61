/- span.At, span.Count. -/
import Derived.Test.YtidihfhgnjkmaabSpRight
namespace Go.Proofs.Ytidihfhgnjkmaab
open Go.RowKit

theorem atS_in {s : Sp} {l : List Sp} {t : Int} (h1 : s.fr ≤ t) (h2 : t ≤ s.to) : atS (s :: l) t = s.is := by rw [atS, if_pos ⟨h1, h2⟩]
theorem atS_out {s : Sp} {l : List Sp} {t : Int} (h : ¬ (s.fr ≤ t ∧ t ≤ s.to)) : atS (s :: l) t = atS l t := by rw [atS, if_neg h]
theorem drop_at {l : List Sp} {k : Nat} {q : Sp} (hq : l[k]? = some q) : l.drop k = q :: l.drop (k + 1) := by
  obtain ⟨h1, h2⟩ := List.getElem?_eq_some_iff.1 hq
  rw [List.drop_eq_getElem_cons h1, h2]

set_option maxRecDepth 100000 in
theorem span_At (a : Option Addr) (n cap : Nat) (l : List Sp) (t : Int) (w : World) (hr : SpsRd w a n l) (hn : n ≤ maxLen) : Calls Try.prog 32 #[.slice a n cap, .int .i64 t] w fun e w' => e = .returned (.int .i64 (atS l t)) ∧ Below w.heap.size w w' := by
  have HR : Hid (SpsRd w a n l) := hr
  obtain ⟨b, HF⟩ : ∃ b, Hid (b = atS l t) := ⟨_, rfl⟩
  rw [← HF.out]
  unfold maxLen at hn
  clear hr
  go_enter Try.func32, Try.ntmps32
  go_wp2
  go_loopw [9] (fun t9 wr => ∃ (k : Nat), k ≤ n ∧ t9 = .int .i64 (k : Int) ∧ Hid (atS (l.drop k) t = b) ∧ Hid (Below w.heap.size w wr)) (fun t9 _ => n - (intOf t9).toNat)
  case atStart => exact ⟨0, by omega, rfl, HF.out.symm, Below.refl _ _⟩
  case round =>
    obtain ⟨k, hk, rfl, HE, HB⟩ := hrel
    by_cases hlt : k < n
    · have hlt' : (k : Int) < (n : Int) := by omega
      obtain ⟨g, o, rfl, hg, q, hq, c0, c1, c2⟩ := (HR.out.below HB.out).at_ k hlt
      have HD : Hid (l.drop k = q :: l.drop (k + 1)) := drop_at hq
      clear hq hg
      obtain ⟨qf, qt, qi⟩ := q
      simp only at c0 c1 c2
      have HB1 : Hid (Below w.heap.size w (wr.alloc (.cells #[.int .i64 qf, .int .i64 qt, .int .i64 qi] 62))) := HB.out.alloc HB.out.size _
      by_cases h1 : qf ≤ t
      · by_cases h2 : t ≤ qt
        · have HX : Hid (b = qi) := by show _ = _; rw [← HE.out, HD.out, atS_in h1 h2]
          clear HE
          go_wp2
          go_ret
          exact ⟨by rw [HX.out]; rfl, HB1.out⟩
        · have HX : Hid (atS (l.drop (k + 1)) t = b) := by show _ = _; rw [← HE.out, HD.out, atS_out (by simp only; omega)]
          clear HE
          go_wp2
          go_roundw
          case rel => exact ⟨k + 1, by omega, by go_num, HX, HB1⟩
          case measure => simp [intOf]; omega
      · have HX : Hid (atS (l.drop (k + 1)) t = b) := by show _ = _; rw [← HE.out, HD.out, atS_out (by simp only; omega)]
        clear HE
        go_wp2
        go_roundw
        case rel => exact ⟨k + 1, by omega, by go_num, HX, HB1⟩
        case measure => simp [intOf]; omega
    · have hnl : ¬ (k : Int) < (n : Int) := by omega
      have HX : Hid (b = 0) := by
        show _ = _
        rw [← HE.out, List.drop_of_length_le (by rw [HR.out.size]; omega)]
        rfl
      clear HE
      go_wp2
      go_ret
      exact ⟨by rw [HX.out]; rfl, HB.out⟩

def countS : List Sp → Int → Int
  | [], _ => 0
  | s :: l, k => (if s.is = k then s.to - s.fr + 1 else 0) + countS l k
def countR (l : List Sp) (k : Int) : Int := if rightB Sp.zr l = true then countS l k else 0
theorem countR_ok {l : List Sp} {k : Int} (h : rightB Sp.zr l = true) : countR l k = countS l k := if_pos h
theorem countR_bad {l : List Sp} {k : Int} (h : rightB Sp.zr l = false) : countR l k = 0 := if_neg (by rw [h]; simp)

end Go.Proofs.Ytidihfhgnjkmaab
