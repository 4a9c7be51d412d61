/- span.isKnown, span.goesOn, span.Right. -/
import Derived.Test.YtidihfhgnjkmaabSp
import Derived.LoopN
import Derived.Handy
import Derived.Laws.Cover3
import Derived.Deep.QuietTactic
import Derived.BigQuiet
import Derived.Lib.MinMaxS
namespace Go.Proofs.Ytidihfhgnjkmaab
open Go.RowKit

def knownB (k : Int) : Bool := decide (1 ≤ k ∧ k ≤ 3)
def goesB (p s : Sp) : Bool := decide (s.fr = p.to + 1 ∧ s.is = p.is)
theorem knownB_iff (k : Int) : knownB k = true ↔ 1 ≤ k ∧ k ≤ 3 := by simp [knownB]
theorem knownB_not (k : Int) : knownB k = false ↔ ¬ (1 ≤ k ∧ k ≤ 3) := by simp [knownB]
theorem goesB_iff (p s : Sp) : goesB p s = true ↔ s.fr = p.to + 1 ∧ s.is = p.is := by simp [goesB]
theorem goesB_not (p s : Sp) : goesB p s = false ↔ ¬ (s.fr = p.to + 1 ∧ s.is = p.is) := by simp [goesB]
def rightB (p : Sp) : List Sp → Bool
  | [] => true
  | s :: l => decide (p.to < s.fr ∧ s.fr ≤ s.to ∧ s.to ≤ 1099511627776 ∧ 1 ≤ s.is ∧ s.is ≤ 3 ∧ ¬ (s.fr = p.to + 1 ∧ s.is = p.is)) && rightB s l
theorem rightB_iff : ∀ (l : List Sp) (p : Sp), rightB p l = true ↔ RightS p l
  | [], _ => by simp [rightB, RightS]
  | s :: l, p => by
    rw [rightB, RightS, Bool.and_eq_true, decide_eq_true_eq, rightB_iff l s]
    constructor
    · rintro ⟨⟨h1, h2, h3, h4, h5, h6⟩, h7⟩
      exact ⟨h1, h2, h3, h4, h5, h6, h7⟩
    · rintro ⟨h1, h2, h3, h4, h5, h6, h7⟩
      exact ⟨⟨h1, h2, h3, h4, h5, h6⟩, h7⟩
theorem rightB_bad {p s : Sp} {l : List Sp} (h : ¬ (p.to < s.fr ∧ s.fr ≤ s.to ∧ s.to ≤ 1099511627776 ∧ 1 ≤ s.is ∧ s.is ≤ 3 ∧ ¬ (s.fr = p.to + 1 ∧ s.is = p.is))) : rightB p (s :: l) = false := by
  rw [rightB, decide_eq_false h, Bool.false_and]
theorem rightB_good {p s : Sp} {l : List Sp} (h : p.to < s.fr ∧ s.fr ≤ s.to ∧ s.to ≤ 1099511627776 ∧ 1 ≤ s.is ∧ s.is ≤ 3 ∧ ¬ (s.fr = p.to + 1 ∧ s.is = p.is)) : rightB p (s :: l) = rightB s l := by
  rw [rightB, decide_eq_true h, Bool.true_and]

theorem span_isKnown (k : Int) (w : World) : Calls Try.prog 51 #[.int .i64 k] w fun e w' => e = .returned (.bool (knownB k)) ∧ w' = w := by
  go_enter Try.func51, Try.ntmps51
  by_cases h1 : 1 ≤ k
  · by_cases h3 : k ≤ 3
    · have HK : Hid (knownB k = true) := (knownB_iff k).2 ⟨h1, h3⟩
      go_wp2
      go_ret
      exact ⟨by rw [HK.out]; rfl, rfl⟩
    · have HK : Hid (knownB k = false) := (knownB_not k).2 (by omega)
      go_wp2
      go_ret
      exact ⟨by rw [HK.out]; rfl, rfl⟩
  · have HK : Hid (knownB k = false) := (knownB_not k).2 (by omega)
    go_wp2
    go_ret
    exact ⟨by rw [HK.out]; rfl, rfl⟩

theorem span_goesOn (pf pt pi sf st si : Int) (h1 : -9223372036854775808 ≤ pt) (h2 : pt < 9223372036854775807) (w : World) : Calls Try.prog 52 #[.agg #[.int .i64 pf, .int .i64 pt, .int .i64 pi], .agg #[.int .i64 sf, .int .i64 st, .int .i64 si]] w fun e w' => e = .returned (.bool (goesB ⟨pf, pt, pi⟩ ⟨sf, st, si⟩)) ∧ Below w.heap.size w w' := by
  have HB : ∀ c c', Hid (Below w.heap.size w ((w.alloc (.cells c 62)).alloc (.cells c' 62))) := fun c c' => (below_new w _).alloc (by simp) _
  obtain ⟨b, hb⟩ : ∃ b, b = goesB ⟨pf, pt, pi⟩ ⟨sf, st, si⟩ := ⟨_, rfl⟩
  have HG : Hid (b = goesB ⟨pf, pt, pi⟩ ⟨sf, st, si⟩) := hb
  rw [← hb]
  clear hb
  go_enter Try.func52, Try.ntmps52
  go_wp2
  · rename_i e1 e2
    go_ret
    refine ⟨?_, (HB _ _).out⟩
    rw [HG.out, (goesB_iff _ _).2 ⟨e1, e2⟩]
    rfl
  · rename_i e1 e2
    go_ret
    refine ⟨?_, (HB _ _).out⟩
    rw [HG.out, (goesB_not _ _).2 (fun h => e2 h.2)]
    rfl
  · rename_i e1
    go_ret
    refine ⟨?_, (HB _ _).out⟩
    rw [HG.out, (goesB_not _ _).2 (fun h => e1 h.1)]
    rfl

set_option maxRecDepth 100000 in
set_option maxHeartbeats 1000000 in
theorem span_Right (a : Option Addr) (n cap : Nat) (l : List Sp) (w : World) (hr : SpsRd w a n l) (hn : n ≤ maxLen) : Calls Try.prog 43 #[.slice a n cap] w fun e w' => e = .returned (.bool (rightB Sp.zr l)) ∧ Below w.heap.size w w' := by
  have HR : Hid (SpsRd w a n l) := hr
  obtain ⟨b, HF⟩ : ∃ b, Hid (b = rightB Sp.zr l) := ⟨_, rfl⟩
  rw [← HF.out]
  unfold maxLen at hn
  clear hr
  go_enter Try.func43, Try.ntmps43
  go_wp2
  go_loopw [8] (fun t8 wr => ∃ (k : Nat) (p : Sp), k ≤ n ∧ t8 = .int .i64 (k : Int) ∧ Hid (rightB p (l.drop k) = b) ∧ Hid (0 ≤ p.to ∧ p.to ≤ 1099511627776) ∧ Hid (Bk wr w.heap.size p.cells 62) ∧ Hid (Below w.heap.size w wr)) (fun t8 _ => n - (intOf t8).toNat)
  case atStart => exact ⟨0, Sp.zr, by omega, rfl, HF.out.symm, ⟨by decide, by decide⟩, Bk.new _ _ _, below_new _ _⟩
  case round =>
    obtain ⟨k, p, hk, rfl, HE, HP, HK, HB⟩ := hrel
    by_cases hlt : k < n
    · have hlt' : (k : Int) < (n : Int) := by omega
      obtain ⟨g, o, rfl, hg, q, hq, c0, c1, c2⟩ := (HR.out.below HB.out).at_ k hlt
      have HD : Hid (l.drop k = q :: l.drop (k + 1)) := by
        show _ = _
        obtain ⟨h1, h2⟩ := List.getElem?_eq_some_iff.1 hq
        rw [List.drop_eq_getElem_cons h1, h2]
      clear hq hg
      obtain ⟨qf, qt, qi⟩ := q
      obtain ⟨pf, pt, pi⟩ := p
      simp only at c0 c1 c2
      have HK1 : Hid (Bk (wr.alloc (.cells #[.int .i64 qf, .int .i64 qt, .int .i64 qi] 62)) w.heap.size #[.int .i64 pf, .int .i64 pt, .int .i64 pi] 62) := HK.out.stay (below_new _ _)
      have HB1 : Hid (Below w.heap.size w (wr.alloc (.cells #[.int .i64 qf, .int .i64 qt, .int .i64 qi] 62))) := HB.out.alloc HB.out.size _
      have a0 : (wr.alloc (.cells #[.int .i64 qf, .int .i64 qt, .int .i64 qi] 62)).cell? ⟨w.heap.size, 0, none⟩ = some (.int .i64 pf) := HK1.out.cell 0 rfl
      have a1 : (wr.alloc (.cells #[.int .i64 qf, .int .i64 qt, .int .i64 qi] 62)).cell? ⟨w.heap.size, 1, none⟩ = some (.int .i64 pt) := HK1.out.cell 1 rfl
      have a2 : (wr.alloc (.cells #[.int .i64 qf, .int .i64 qt, .int .i64 qi] 62)).cell? ⟨w.heap.size, 2, none⟩ = some (.int .i64 pi) := HK1.out.cell 2 rfl
      have HP' : Hid (0 ≤ pt ∧ pt ≤ 1099511627776) := HP.out
      have HLT : Hid (w.heap.size < wr.heap.size) := HK.out.lt
      clear HP HK
      by_cases h1 : qf ≤ pt
      · have HBAD : Hid (b = false) := by show _ = _; rw [← HE.out, HD.out, rightB_bad (by simp only; omega)]
        clear HE
        go_wp2
        go_ret
        exact ⟨by rw [HBAD.out]; rfl, HB1.out⟩
      · by_cases h2 : qt < qf
        · have HBAD : Hid (b = false) := by show _ = _; rw [← HE.out, HD.out, rightB_bad (by simp only; omega)]
          clear HE
          go_wp2
          go_ret
          exact ⟨by rw [HBAD.out]; rfl, HB1.out⟩
        · by_cases h3 : 1099511627776 < qt
          · have HBAD : Hid (b = false) := by show _ = _; rw [← HE.out, HD.out, rightB_bad (by simp only; omega)]
            clear HE
            go_wp2
            go_ret
            exact ⟨by rw [HBAD.out]; rfl, HB1.out⟩
          · go_wp2_with fail
            refine (span_isKnown qi _).mono ?_
            rintro e w1 ⟨rfl, rfl⟩
            cases hk3 : knownB qi with
            | false =>
              have HBAD : Hid (b = false) := by
                show _ = _
                have := (knownB_not qi).1 hk3
                rw [← HE.out, HD.out, rightB_bad (by simp only; omega)]
              clear HE hk3
              go_wp2
              go_ret
              exact ⟨by rw [HBAD.out]; rfl, HB1.out⟩
            | true =>
              have HKN : Hid (1 ≤ qi ∧ qi ≤ 3) := (knownB_iff qi).1 hk3
              clear hk3
              go_wp2_with fail
              refine (span_goesOn pf pt pi qf qt qi (by have := HP'.out; omega) (by have := HP'.out; omega) _).mono ?_
              rintro e w2 ⟨rfl, hb2⟩
              have HB2 : Hid (Below w.heap.size w w2) := HB1.out.trans (hb2.mono HB1.out.size)
              have HK2 : Hid (Bk w2 w.heap.size #[.int .i64 pf, .int .i64 pt, .int .i64 pi] 62) := HK1.out.stay hb2
              have HN2 : Hid (Bk w2 wr.heap.size #[.int .i64 qf, .int .i64 qt, .int .i64 qi] 62) := (Bk.new wr _ _).stay hb2
              clear hb2 a0 a1 a2 c0 c1 c2
              cases hk4 : goesB ⟨pf, pt, pi⟩ ⟨qf, qt, qi⟩ with
              | true =>
                have HBAD : Hid (b = false) := by
                  show _ = _
                  have := (goesB_iff _ _).1 hk4
                  rw [← HE.out, HD.out, rightB_bad (fun h => h.2.2.2.2.2 this)]
                clear HE hk4
                go_wp2
                go_ret
                exact ⟨by rw [HBAD.out]; rfl, HB2.out⟩
              | false =>
                have HNX : Hid (rightB ⟨qf, qt, qi⟩ (l.drop (k + 1)) = b) := by
                  show _ = _
                  have h4 := (goesB_not _ _).1 hk4
                  have h5 := HKN.out
                  rw [← HE.out, HD.out, rightB_good ⟨by simp only; omega, by simp only; omega, by simp only; omega, h5.1, h5.2, h4⟩]
                have HPX : Hid (0 ≤ qt ∧ qt ≤ 1099511627776) := by have := HP'.out; exact ⟨by omega, by omega⟩
                clear HE hk4 h1 h2 h3
                have d0 : w2.cell? ⟨wr.heap.size, 0, none⟩ = some (.int .i64 qf) := HN2.out.cell 0 rfl
                have d1 : w2.cell? ⟨wr.heap.size, 1, none⟩ = some (.int .i64 qt) := HN2.out.cell 1 rfl
                have d2 : w2.cell? ⟨wr.heap.size, 2, none⟩ = some (.int .i64 qi) := HN2.out.cell 2 rfl
                have f0 := HK2.out.free 0
                have f1 := HK2.out.free 1
                have f2 := HK2.out.free 2
                have e0 : w2.cell? ⟨w.heap.size, 0, none⟩ = some (.int .i64 pf) := HK2.out.cell 0 rfl
                have e1 : w2.cell? ⟨w.heap.size, 1, none⟩ = some (.int .i64 pt) := HK2.out.cell 1 rfl
                have e2 : w2.cell? ⟨w.heap.size, 2, none⟩ = some (.int .i64 pi) := HK2.out.cell 2 rfl
                have HNXT : Hid (Bk (((w2.setCell ⟨w.heap.size, 0, none⟩ (.int .i64 qf)).setCell ⟨w.heap.size, 1, none⟩ (.int .i64 qt)).setCell ⟨w.heap.size, 2, none⟩ (.int .i64 qi)) w.heap.size #[.int .i64 qf, .int .i64 qt, .int .i64 qi] 62) := ((HK2.out.set 0 _).set 1 _).set 2 _
                have HBX : Hid (Below w.heap.size w (((w2.setCell ⟨w.heap.size, 0, none⟩ (.int .i64 qf)).setCell ⟨w.heap.size, 1, none⟩ (.int .i64 qt)).setCell ⟨w.heap.size, 2, none⟩ (.int .i64 qi))) := ((HB2.out.setCell (by simp) _).setCell (by simp) _).setCell (by simp) _
                go_wp2
                go_roundw
                case rel => exact ⟨k + 1, ⟨qf, qt, qi⟩, by omega, by go_num, HNX, HPX, HNXT, HBX⟩
                case measure => simp [intOf]; omega
    · have hnl : ¬ (k : Int) < (n : Int) := by omega
      have HOK : Hid (b = true) := by
        show _ = _
        rw [← HE.out, List.drop_of_length_le (by rw [HR.out.size]; omega)]
        rfl
      clear HE HP HK
      go_wp2
      go_ret
      exact ⟨by rw [HOK.out]; rfl, HB.out⟩
end Go.Proofs.Ytidihfhgnjkmaab
