/- A pack of texts: SpRight SpAt SpBeh SpRef SpRefR. -/
import Derived.Test.YtidihfhgnjkmaaaGreatSp
import Derived.LoopN
import Derived.Handy
import Derived.Laws.Cover3
import Derived.Deep.QuietTactic
import Derived.BigQuiet
import Derived.Lib.MinMaxS
/- span.isKnown, span.goesOn, span.Right. -/
namespace Go.Proofs.YtidihfhgnjkmaaaGreat
open Go.RowKit

def knownB (k : Int) : Bool := decide (1 ≤ k ∧ k ≤ 3)
def goesB (p s : Sp) : Bool := decide (s.fr = p.to + 1 ∧ s.is = p.is)
theorem knownB_iff (k : Int) : knownB k = true ↔ 1 ≤ k ∧ k ≤ 3 := by simp [knownB]
theorem knownB_not (k : Int) : knownB k = false ↔ ¬ (1 ≤ k ∧ k ≤ 3) := by simp [knownB]
theorem goesB_iff (p s : Sp) : goesB p s = true ↔ s.fr = p.to + 1 ∧ s.is = p.is := by simp [goesB]
theorem goesB_not (p s : Sp) : goesB p s = false ↔ ¬ (s.fr = p.to + 1 ∧ s.is = p.is) := by simp [goesB]
def rightB (p : Sp) : List Sp → Bool
  | [] => true
  | s :: l => decide (p.to < s.fr ∧ s.fr ≤ s.to ∧ s.to ≤ 1099511627776 ∧ 1 ≤ s.is ∧ s.is ≤ 3 ∧ ¬ (s.fr = p.to + 1 ∧ s.is = p.is)) && rightB s l
theorem rightB_iff : ∀ (l : List Sp) (p : Sp), rightB p l = true ↔ RightS p l
  | [], _ => by simp [rightB, RightS]
  | s :: l, p => by
    rw [rightB, RightS, Bool.and_eq_true, decide_eq_true_eq, rightB_iff l s]
    constructor
    · rintro ⟨⟨h1, h2, h3, h4, h5, h6⟩, h7⟩
      exact ⟨h1, h2, h3, h4, h5, h6, h7⟩
    · rintro ⟨h1, h2, h3, h4, h5, h6, h7⟩
      exact ⟨⟨h1, h2, h3, h4, h5, h6⟩, h7⟩
theorem rightB_bad {p s : Sp} {l : List Sp} (h : ¬ (p.to < s.fr ∧ s.fr ≤ s.to ∧ s.to ≤ 1099511627776 ∧ 1 ≤ s.is ∧ s.is ≤ 3 ∧ ¬ (s.fr = p.to + 1 ∧ s.is = p.is))) : rightB p (s :: l) = false := by
  rw [rightB, decide_eq_false h, Bool.false_and]
theorem rightB_good {p s : Sp} {l : List Sp} (h : p.to < s.fr ∧ s.fr ≤ s.to ∧ s.to ≤ 1099511627776 ∧ 1 ≤ s.is ∧ s.is ≤ 3 ∧ ¬ (s.fr = p.to + 1 ∧ s.is = p.is)) : rightB p (s :: l) = rightB s l := by
  rw [rightB, decide_eq_true h, Bool.true_and]

theorem span_isKnown (k : Int) (w : World) : Calls Tryz.prog 85 #[.int .i64 k] w fun e w' => e = .returned (.bool (knownB k)) ∧ w' = w := by
  go_enter Tryz.func85, Tryz.ntmps85
  by_cases h1 : 1 ≤ k
  · by_cases h3 : k ≤ 3
    · have HK : Hid (knownB k = true) := (knownB_iff k).2 ⟨h1, h3⟩
      go_wp2
      go_ret
      exact ⟨by rw [HK.out]; rfl, rfl⟩
    · have HK : Hid (knownB k = false) := (knownB_not k).2 (by omega)
      go_wp2
      go_ret
      exact ⟨by rw [HK.out]; rfl, rfl⟩
  · have HK : Hid (knownB k = false) := (knownB_not k).2 (by omega)
    go_wp2
    go_ret
    exact ⟨by rw [HK.out]; rfl, rfl⟩

theorem span_goesOn (pf pt pi sf st si : Int) (h1 : -9223372036854775808 ≤ pt) (h2 : pt < 9223372036854775807) (w : World) : Calls Tryz.prog 86 #[.agg #[.int .i64 pf, .int .i64 pt, .int .i64 pi], .agg #[.int .i64 sf, .int .i64 st, .int .i64 si]] w fun e w' => e = .returned (.bool (goesB ⟨pf, pt, pi⟩ ⟨sf, st, si⟩)) ∧ Below w.heap.size w w' := by
  have HB : ∀ c c', Hid (Below w.heap.size w ((w.alloc (.cells c 62)).alloc (.cells c' 62))) := fun c c' => (below_new w _).alloc (by simp) _
  obtain ⟨b, hb⟩ : ∃ b, b = goesB ⟨pf, pt, pi⟩ ⟨sf, st, si⟩ := ⟨_, rfl⟩
  have HG : Hid (b = goesB ⟨pf, pt, pi⟩ ⟨sf, st, si⟩) := hb
  rw [← hb]
  clear hb
  go_enter Tryz.func86, Tryz.ntmps86
  go_wp2
  · rename_i e1 e2
    go_ret
    refine ⟨?_, (HB _ _).out⟩
    rw [HG.out, (goesB_iff _ _).2 ⟨e1, e2⟩]
    rfl
  · rename_i e1 e2
    go_ret
    refine ⟨?_, (HB _ _).out⟩
    rw [HG.out, (goesB_not _ _).2 (fun h => e2 h.2)]
    rfl
  · rename_i e1
    go_ret
    refine ⟨?_, (HB _ _).out⟩
    rw [HG.out, (goesB_not _ _).2 (fun h => e1 h.1)]
    rfl

set_option maxRecDepth 100000 in
set_option maxHeartbeats 1000000 in
theorem span_Right (a : Option Addr) (n cap : Nat) (l : List Sp) (w : World) (hr : SpsRd w a n l) (hn : n ≤ maxLen) : Calls Tryz.prog 69 #[.slice a n cap] w fun e w' => e = .returned (.bool (rightB Sp.zr l)) ∧ Below w.heap.size w w' := by
  have HR : Hid (SpsRd w a n l) := hr
  obtain ⟨b, HF⟩ : ∃ b, Hid (b = rightB Sp.zr l) := ⟨_, rfl⟩
  rw [← HF.out]
  unfold maxLen at hn
  clear hr
  go_enter Tryz.func69, Tryz.ntmps69
  go_wp2
  go_loopw [8] (fun t8 wr => ∃ (k : Nat) (p : Sp), k ≤ n ∧ t8 = .int .i64 (k : Int) ∧ Hid (rightB p (l.drop k) = b) ∧ Hid (0 ≤ p.to ∧ p.to ≤ 1099511627776) ∧ Hid (Bk wr w.heap.size p.cells 62) ∧ Hid (Below w.heap.size w wr)) (fun t8 _ => n - (intOf t8).toNat)
  case atStart => exact ⟨0, Sp.zr, by omega, rfl, HF.out.symm, ⟨by decide, by decide⟩, Bk.new _ _ _, below_new _ _⟩
  case round =>
    obtain ⟨k, p, hk, rfl, HE, HP, HK, HB⟩ := hrel
    by_cases hlt : k < n
    · have hlt' : (k : Int) < (n : Int) := by omega
      obtain ⟨g, o, rfl, hg, q, hq, c0, c1, c2⟩ := (HR.out.below HB.out).at_ k hlt
      have HD : Hid (l.drop k = q :: l.drop (k + 1)) := by
        show _ = _
        obtain ⟨h1, h2⟩ := List.getElem?_eq_some_iff.1 hq
        rw [List.drop_eq_getElem_cons h1, h2]
      clear hq hg
      obtain ⟨qf, qt, qi⟩ := q
      obtain ⟨pf, pt, pi⟩ := p
      simp only at c0 c1 c2
      have HK1 : Hid (Bk (wr.alloc (.cells #[.int .i64 qf, .int .i64 qt, .int .i64 qi] 62)) w.heap.size #[.int .i64 pf, .int .i64 pt, .int .i64 pi] 62) := HK.out.stay (below_new _ _)
      have HB1 : Hid (Below w.heap.size w (wr.alloc (.cells #[.int .i64 qf, .int .i64 qt, .int .i64 qi] 62))) := HB.out.alloc HB.out.size _
      have a0 : (wr.alloc (.cells #[.int .i64 qf, .int .i64 qt, .int .i64 qi] 62)).cell? ⟨w.heap.size, 0, none⟩ = some (.int .i64 pf) := HK1.out.cell 0 rfl
      have a1 : (wr.alloc (.cells #[.int .i64 qf, .int .i64 qt, .int .i64 qi] 62)).cell? ⟨w.heap.size, 1, none⟩ = some (.int .i64 pt) := HK1.out.cell 1 rfl
      have a2 : (wr.alloc (.cells #[.int .i64 qf, .int .i64 qt, .int .i64 qi] 62)).cell? ⟨w.heap.size, 2, none⟩ = some (.int .i64 pi) := HK1.out.cell 2 rfl
      have HP' : Hid (0 ≤ pt ∧ pt ≤ 1099511627776) := HP.out
      have HLT : Hid (w.heap.size < wr.heap.size) := HK.out.lt
      clear HP HK
      by_cases h1 : qf ≤ pt
      · have HBAD : Hid (b = false) := by show _ = _; rw [← HE.out, HD.out, rightB_bad (by simp only; omega)]
        clear HE
        go_wp2
        go_ret
        exact ⟨by rw [HBAD.out]; rfl, HB1.out⟩
      · by_cases h2 : qt < qf
        · have HBAD : Hid (b = false) := by show _ = _; rw [← HE.out, HD.out, rightB_bad (by simp only; omega)]
          clear HE
          go_wp2
          go_ret
          exact ⟨by rw [HBAD.out]; rfl, HB1.out⟩
        · by_cases h3 : 1099511627776 < qt
          · have HBAD : Hid (b = false) := by show _ = _; rw [← HE.out, HD.out, rightB_bad (by simp only; omega)]
            clear HE
            go_wp2
            go_ret
            exact ⟨by rw [HBAD.out]; rfl, HB1.out⟩
          · go_wp2_with fail
            refine (span_isKnown qi _).mono ?_
            rintro e w1 ⟨rfl, rfl⟩
            cases hk3 : knownB qi with
            | false =>
              have HBAD : Hid (b = false) := by
                show _ = _
                have := (knownB_not qi).1 hk3
                rw [← HE.out, HD.out, rightB_bad (by simp only; omega)]
              clear HE hk3
              go_wp2
              go_ret
              exact ⟨by rw [HBAD.out]; rfl, HB1.out⟩
            | true =>
              have HKN : Hid (1 ≤ qi ∧ qi ≤ 3) := (knownB_iff qi).1 hk3
              clear hk3
              go_wp2_with fail
              refine (span_goesOn pf pt pi qf qt qi (by have := HP'.out; omega) (by have := HP'.out; omega) _).mono ?_
              rintro e w2 ⟨rfl, hb2⟩
              have HB2 : Hid (Below w.heap.size w w2) := HB1.out.trans (hb2.mono HB1.out.size)
              have HK2 : Hid (Bk w2 w.heap.size #[.int .i64 pf, .int .i64 pt, .int .i64 pi] 62) := HK1.out.stay hb2
              have HN2 : Hid (Bk w2 wr.heap.size #[.int .i64 qf, .int .i64 qt, .int .i64 qi] 62) := (Bk.new wr _ _).stay hb2
              clear hb2 a0 a1 a2 c0 c1 c2
              cases hk4 : goesB ⟨pf, pt, pi⟩ ⟨qf, qt, qi⟩ with
              | true =>
                have HBAD : Hid (b = false) := by
                  show _ = _
                  have := (goesB_iff _ _).1 hk4
                  rw [← HE.out, HD.out, rightB_bad (fun h => h.2.2.2.2.2 this)]
                clear HE hk4
                go_wp2
                go_ret
                exact ⟨by rw [HBAD.out]; rfl, HB2.out⟩
              | false =>
                have HNX : Hid (rightB ⟨qf, qt, qi⟩ (l.drop (k + 1)) = b) := by
                  show _ = _
                  have h4 := (goesB_not _ _).1 hk4
                  have h5 := HKN.out
                  rw [← HE.out, HD.out, rightB_good ⟨by simp only; omega, by simp only; omega, by simp only; omega, h5.1, h5.2, h4⟩]
                have HPX : Hid (0 ≤ qt ∧ qt ≤ 1099511627776) := by have := HP'.out; exact ⟨by omega, by omega⟩
                clear HE hk4 h1 h2 h3
                have d0 : w2.cell? ⟨wr.heap.size, 0, none⟩ = some (.int .i64 qf) := HN2.out.cell 0 rfl
                have d1 : w2.cell? ⟨wr.heap.size, 1, none⟩ = some (.int .i64 qt) := HN2.out.cell 1 rfl
                have d2 : w2.cell? ⟨wr.heap.size, 2, none⟩ = some (.int .i64 qi) := HN2.out.cell 2 rfl
                have f0 := HK2.out.free 0
                have f1 := HK2.out.free 1
                have f2 := HK2.out.free 2
                have e0 : w2.cell? ⟨w.heap.size, 0, none⟩ = some (.int .i64 pf) := HK2.out.cell 0 rfl
                have e1 : w2.cell? ⟨w.heap.size, 1, none⟩ = some (.int .i64 pt) := HK2.out.cell 1 rfl
                have e2 : w2.cell? ⟨w.heap.size, 2, none⟩ = some (.int .i64 pi) := HK2.out.cell 2 rfl
                have HNXT : Hid (Bk (((w2.setCell ⟨w.heap.size, 0, none⟩ (.int .i64 qf)).setCell ⟨w.heap.size, 1, none⟩ (.int .i64 qt)).setCell ⟨w.heap.size, 2, none⟩ (.int .i64 qi)) w.heap.size #[.int .i64 qf, .int .i64 qt, .int .i64 qi] 62) := ((HK2.out.set 0 _).set 1 _).set 2 _
                have HBX : Hid (Below w.heap.size w (((w2.setCell ⟨w.heap.size, 0, none⟩ (.int .i64 qf)).setCell ⟨w.heap.size, 1, none⟩ (.int .i64 qt)).setCell ⟨w.heap.size, 2, none⟩ (.int .i64 qi))) := ((HB2.out.setCell (by simp) _).setCell (by simp) _).setCell (by simp) _
                go_wp2
                go_roundw
                case rel => exact ⟨k + 1, ⟨qf, qt, qi⟩, by omega, by go_num, HNX, HPX, HNXT, HBX⟩
                case measure => simp [intOf]; omega
    · have hnl : ¬ (k : Int) < (n : Int) := by omega
      have HOK : Hid (b = true) := by
        show _ = _
        rw [← HE.out, List.drop_of_length_le (by rw [HR.out.size]; omega)]
        rfl
      clear HE HP HK
      go_wp2
      go_ret
      exact ⟨by rw [HOK.out]; rfl, HB.out⟩
end Go.Proofs.YtidihfhgnjkmaaaGreat
/- span.At, span.Count. -/
namespace Go.Proofs.YtidihfhgnjkmaaaGreat
open Go.RowKit

theorem atS_in {s : Sp} {l : List Sp} {t : Int} (h1 : s.fr ≤ t) (h2 : t ≤ s.to) : atS (s :: l) t = s.is := by rw [atS, if_pos ⟨h1, h2⟩]
theorem atS_out {s : Sp} {l : List Sp} {t : Int} (h : ¬ (s.fr ≤ t ∧ t ≤ s.to)) : atS (s :: l) t = atS l t := by rw [atS, if_neg h]
theorem drop_at {l : List Sp} {k : Nat} {q : Sp} (hq : l[k]? = some q) : l.drop k = q :: l.drop (k + 1) := by
  obtain ⟨h1, h2⟩ := List.getElem?_eq_some_iff.1 hq
  rw [List.drop_eq_getElem_cons h1, h2]

set_option maxRecDepth 100000 in
theorem span_At (a : Option Addr) (n cap : Nat) (l : List Sp) (t : Int) (w : World) (hr : SpsRd w a n l) (hn : n ≤ maxLen) : Calls Tryz.prog 64 #[.slice a n cap, .int .i64 t] w fun e w' => e = .returned (.int .i64 (atS l t)) ∧ Below w.heap.size w w' := by
  have HR : Hid (SpsRd w a n l) := hr
  obtain ⟨b, HF⟩ : ∃ b, Hid (b = atS l t) := ⟨_, rfl⟩
  rw [← HF.out]
  unfold maxLen at hn
  clear hr
  go_enter Tryz.func64, Tryz.ntmps64
  go_wp2
  go_loopw [9] (fun t9 wr => ∃ (k : Nat), k ≤ n ∧ t9 = .int .i64 (k : Int) ∧ Hid (atS (l.drop k) t = b) ∧ Hid (Below w.heap.size w wr)) (fun t9 _ => n - (intOf t9).toNat)
  case atStart => exact ⟨0, by omega, rfl, HF.out.symm, Below.refl _ _⟩
  case round =>
    obtain ⟨k, hk, rfl, HE, HB⟩ := hrel
    by_cases hlt : k < n
    · have hlt' : (k : Int) < (n : Int) := by omega
      obtain ⟨g, o, rfl, hg, q, hq, c0, c1, c2⟩ := (HR.out.below HB.out).at_ k hlt
      have HD : Hid (l.drop k = q :: l.drop (k + 1)) := drop_at hq
      clear hq hg
      obtain ⟨qf, qt, qi⟩ := q
      simp only at c0 c1 c2
      have HB1 : Hid (Below w.heap.size w (wr.alloc (.cells #[.int .i64 qf, .int .i64 qt, .int .i64 qi] 62))) := HB.out.alloc HB.out.size _
      by_cases h1 : qf ≤ t
      · by_cases h2 : t ≤ qt
        · have HX : Hid (b = qi) := by show _ = _; rw [← HE.out, HD.out, atS_in h1 h2]
          clear HE
          go_wp2
          go_ret
          exact ⟨by rw [HX.out]; rfl, HB1.out⟩
        · have HX : Hid (atS (l.drop (k + 1)) t = b) := by show _ = _; rw [← HE.out, HD.out, atS_out (by simp only; omega)]
          clear HE
          go_wp2
          go_roundw
          case rel => exact ⟨k + 1, by omega, by go_num, HX, HB1⟩
          case measure => simp [intOf]; omega
      · have HX : Hid (atS (l.drop (k + 1)) t = b) := by show _ = _; rw [← HE.out, HD.out, atS_out (by simp only; omega)]
        clear HE
        go_wp2
        go_roundw
        case rel => exact ⟨k + 1, by omega, by go_num, HX, HB1⟩
        case measure => simp [intOf]; omega
    · have hnl : ¬ (k : Int) < (n : Int) := by omega
      have HX : Hid (b = 0) := by
        show _ = _
        rw [← HE.out, List.drop_of_length_le (by rw [HR.out.size]; omega)]
        rfl
      clear HE
      go_wp2
      go_ret
      exact ⟨by rw [HX.out]; rfl, HB.out⟩

def countS : List Sp → Int → Int
  | [], _ => 0
  | s :: l, k => (if s.is = k then s.to - s.fr + 1 else 0) + countS l k
def countR (l : List Sp) (k : Int) : Int := if rightB Sp.zr l = true then countS l k else 0
theorem countR_ok {l : List Sp} {k : Int} (h : rightB Sp.zr l = true) : countR l k = countS l k := if_pos h
theorem countR_bad {l : List Sp} {k : Int} (h : rightB Sp.zr l = false) : countR l k = 0 := if_neg (by rw [h]; simp)

end Go.Proofs.YtidihfhgnjkmaaaGreat
/- span.behind, span.run. -/
namespace Go.Proofs.YtidihfhgnjkmaaaGreat
open Go.RowKit

set_option maxRecDepth 100000 in
theorem span_behind (a : Option Addr) (n cap : Nat) (l : List Sp) (t : Int) (w W : World) (hr : SpsRd w a n l) (hW : SpsRd W a n l) (hc : n ≤ cap) (hcm : cap ≤ maxLen) : Calls Tryz.prog 80 #[.slice a n cap, .int .i64 t] w fun e w' => (∃ a' n' c', e = .returned (.slice a' n' c') ∧ Hid (SpsRd w a' n' (behindS l t)) ∧ Hid (SpsRd W a' n' (behindS l t)) ∧ Hid (n' ≤ c' ∧ c' ≤ maxLen)) ∧ w' = w := by
  have HR : Hid (SpsRd w a n l) := hr
  have HW : Hid (SpsRd W a n l) := hW
  have HC : Hid (n ≤ cap ∧ cap ≤ maxLen) := ⟨hc, hcm⟩
  clear hr hW hc hcm
  obtain ⟨m, HM⟩ : ∃ m, Hid (behindS l t = m) := ⟨_, rfl⟩
  rw [HM.out]
  go_enter Tryz.func80, Tryz.ntmps80
  go_wp2
  go_loopw [0] (fun t0 wr => ∃ (a' : Option Addr) (n' c' : Nat) (l' : List Sp), t0 = .slice a' n' c' ∧ Hid (SpsRd w a' n' l') ∧ Hid (SpsRd W a' n' l') ∧ Hid (behindS l' t = m) ∧ Hid (n' ≤ c' ∧ c' ≤ maxLen) ∧ wr = w) (fun t0 _ => match t0 with | .slice _ n _ => n | _ => 0)
  case atStart => exact ⟨a, n, cap, l, rfl, HR, HW, HM, HC, rfl⟩
  case round =>
    obtain ⟨a', n', c', l', rfl, HR', HW', HM', HC', rfl⟩ := hrel
    cases l' with
    | nil =>
      have hs := HR'.out.size
      simp only [List.length_nil] at hs
      subst hs
      have HX : Hid (m = []) := HM'.out.symm
      clear HM'
      go_wp2
      go_ret
      exact ⟨⟨a', 0, c', rfl, by show SpsRd _ _ _ _; rw [HX.out]; exact HR'.out, by show SpsRd _ _ _ _; rw [HX.out]; exact HW'.out, HC'⟩, rfl⟩
    | cons q l' =>
      have hs := HR'.out.size
      simp only [List.length_cons] at hs
      have hpos : (0 : Int) < (n' : Int) := by omega
      obtain ⟨g, o, rfl, hg, q', hq, c0, c1, c2⟩ := HR'.out.at_ 0 (by omega)
      simp only [List.getElem?_cons_zero, Option.some.injEq] at hq
      subst hq
      simp only [Nat.zero_mul, Nat.add_zero] at c0 c1 c2
      have hcc := HC'.out
      unfold maxLen at hcc
      obtain ⟨hc1, hc2⟩ := hcc
      by_cases h1 : q.to < t
      · have HX : Hid (behindS l' t = m) := by show _ = _; rw [← HM'.out, behindS, if_pos h1]
        have HT : Hid (SpsRd wr (if c' = 1 then some ⟨g, o, none⟩ else some ⟨g, o + 3, none⟩) (n' - 1) l') := by
          show SpsRd _ _ _ _
          split
          · have : l' = [] := List.length_eq_zero_iff.1 (by omega)
            exact ⟨by omega, .inl this⟩
          · exact HR'.out.tail
        have HT2 : Hid (SpsRd W (if c' = 1 then some ⟨g, o, none⟩ else some ⟨g, o + 3, none⟩) (n' - 1) l') := by
          show SpsRd _ _ _ _
          split
          · have : l' = [] := List.length_eq_zero_iff.1 (by omega)
            exact ⟨by omega, .inl this⟩
          · exact HW'.out.tail
        have HC2 : Hid (n' - 1 ≤ c' - 1 ∧ c' - 1 ≤ maxLen) := ⟨by omega, by unfold maxLen; omega⟩
        clear HM' c0 c2
        go_wp2
        go_roundw
        case rel => exact ⟨_, n' - 1, c' - 1, l', rfl, HT, HT2, HX, HC2, trivial⟩
        case measure => simp only; omega
      · have HX : Hid (m = q :: l') := by show _ = _; rw [← HM'.out, behindS, if_neg h1]
        clear HM' c0 c2
        go_wp2
        go_ret
        exact ⟨⟨_, n', c', rfl, by show SpsRd _ _ _ _; rw [HX.out]; exact HR'.out, by show SpsRd _ _ _ _; rw [HX.out]; exact HW'.out, HC'⟩, rfl⟩

set_option maxRecDepth 100000 in
theorem span_run (a : Option Addr) (n cap : Nat) (l : List Sp) (t : Int) (w : World) (hr : SpsRd w a n l) (hn : n ≤ maxLen) (hs : ∀ q ∈ l, 1 ≤ q.fr ∧ q.fr ≤ 1099511627776) : Calls Tryz.prog 81 #[.slice a n cap, .int .i64 t] w fun e w' => (∃ r, e = .returned (.agg #[.int .i64 t, .int .i64 r.to, .int .i64 r.is]) ∧ Hid (r = runS l t)) ∧ Below w.heap.size w w' := by
  unfold maxLen at hn
  cases l with
  | nil =>
    have h0 := hr.size
    simp only [List.length_nil] at h0
    subst h0
    have HBX : Hid (Below w.heap.size w (w.alloc (.cells #[.int .i64 t, .int .i64 1099511627776, .int .i64 0] 62))) := below_new _ _
    clear hr hn hs
    go_enter Tryz.func81, Tryz.ntmps81
    go_wp2
    go_returns
    exact ⟨⟨⟨t, 1099511627776, 0⟩, rfl, rfl⟩, HBX.out⟩
  | cons q l =>
    have h0 := hr.size
    simp only [List.length_cons] at h0
    obtain ⟨g, o, rfl, hg, q', hq, c0, c1, c2⟩ := hr.at_ 0 (by omega)
    simp only [List.getElem?_cons_zero, Option.some.injEq] at hq
    subst hq
    obtain ⟨s1, s2⟩ := hs q (List.mem_cons_self ..)
    obtain ⟨qf, qt, qi⟩ := q
    simp only [Nat.zero_mul, Nat.add_zero] at c0 c1 c2 s1 s2
    have hz : ¬ ((n : Int) = 0) := by omega
    by_cases h1 : t < qf
    · have HBX : Hid (Below w.heap.size w (w.alloc (.cells #[.int .i64 t, .int .i64 (qf - 1), .int .i64 0] 62))) := below_new _ _
      have HX : Hid ((⟨t, qf - 1, 0⟩ : Sp) = runS (⟨qf, qt, qi⟩ :: l) t) := by
        show _ = _
        rw [runS, if_pos h1]
      clear hr hs
      go_enter Tryz.func81, Tryz.ntmps81
      go_wp2
      go_returns
      exact ⟨⟨⟨t, qf - 1, 0⟩, rfl, HX⟩, HBX.out⟩
    · have HBX : Hid (Below w.heap.size w (w.alloc (.cells #[.int .i64 t, .int .i64 qt, .int .i64 qi] 62))) := below_new _ _
      have HX : Hid ((⟨t, qt, qi⟩ : Sp) = runS (⟨qf, qt, qi⟩ :: l) t) := by
        show _ = _
        rw [runS, if_neg h1]
      clear hr hs
      go_enter Tryz.func81, Tryz.ntmps81
      go_wp2
      go_region
      all_goals go_wp2
      all_goals go_returns
      all_goals exact ⟨⟨⟨t, qt, qi⟩, rfl, HX⟩, below_drew HBX.out⟩
end Go.Proofs.YtidihfhgnjkmaaaGreat
/- grapevineref08: Right, At, Count, Same, Horizon. -/
namespace Go.Proofs.YtidihfhgnjkmaaaGreat
open Go.RowKit

set_option maxRecDepth 100000 in
theorem ref_At (a : Option Addr) (n cap : Nat) (l : List Sp) (t : Int) (w : World) (hr : SpsRd w a n l) (hn : n ≤ maxLen) : Calls Tryz.prog 24 #[.slice a n cap, .int .i64 t] w fun e w' => e = .returned (.int .i64 (atS l t)) ∧ w' = w := by
  have HR : Hid (SpsRd w a n l) := hr
  obtain ⟨b, HF⟩ : ∃ b, Hid (b = atS l t) := ⟨_, rfl⟩
  rw [← HF.out]
  unfold maxLen at hn
  clear hr
  go_enter Tryz.func24, Tryz.ntmps24
  go_wp2
  go_loopw [5] (fun t5 wr => ∃ (k : Nat), k ≤ n ∧ t5 = .int .i64 (k : Int) ∧ Hid (atS (l.drop k) t = b) ∧ wr = w) (fun t5 _ => n - (intOf t5).toNat)
  case atStart => exact ⟨0, by omega, rfl, HF.out.symm, rfl⟩
  case round =>
    obtain ⟨k, hk, rfl, HE, rfl⟩ := hrel
    by_cases hlt : k < n
    · have hlt' : (k : Int) < (n : Int) := by omega
      obtain ⟨g, o, rfl, hg, q, hq, c0, c1, c2⟩ := HR.out.at_ k hlt
      have HD : Hid (l.drop k = q :: l.drop (k + 1)) := drop_at hq
      clear hq hg
      obtain ⟨qf, qt, qi⟩ := q
      simp only at c0 c1 c2
      by_cases h1 : qf ≤ t
      · by_cases h2 : t ≤ qt
        · have HX : Hid (b = qi) := by show _ = _; rw [← HE.out, HD.out, atS_in h1 h2]
          clear HE
          go_wp2
          go_ret
          exact ⟨by rw [HX.out]; rfl, rfl⟩
        · have HX : Hid (atS (l.drop (k + 1)) t = b) := by show _ = _; rw [← HE.out, HD.out, atS_out (by simp only; omega)]
          clear HE
          go_wp2
          go_roundw
          case rel => exact ⟨k + 1, by omega, by go_num, HX, by trivial⟩
          case measure => simp [intOf]; omega
      · have HX : Hid (atS (l.drop (k + 1)) t = b) := by show _ = _; rw [← HE.out, HD.out, atS_out (by simp only; omega)]
        clear HE
        go_wp2
        go_roundw
        case rel => exact ⟨k + 1, by omega, by go_num, HX, by trivial⟩
        case measure => simp [intOf]; omega
    · have hnl : ¬ (k : Int) < (n : Int) := by omega
      have HX : Hid (b = 0) := by
        show _ = _
        rw [← HE.out, List.drop_of_length_le (by rw [HR.out.size]; omega)]
        rfl
      clear HE
      go_wp2
      go_ret
      exact ⟨by rw [HX.out]; rfl, rfl⟩

/-- Lists of spans are the same. -/
def sameB : List Sp → List Sp → Bool
  | [], [] => true
  | s :: l, r :: m => decide (s.fr = r.fr ∧ s.to = r.to ∧ s.is = r.is) && sameB l m
  | _, _ => false
theorem sameB_iff : ∀ (l m : List Sp), sameB l m = true ↔ l = m
  | [], [] => by simp [sameB]
  | [], _ :: _ => by simp [sameB]
  | _ :: _, [] => by simp [sameB]
  | ⟨sf, st, si⟩ :: l, ⟨rf, rt, ri⟩ :: m => by
    rw [sameB, Bool.and_eq_true, decide_eq_true_eq, sameB_iff l m, List.cons.injEq, Sp.mk.injEq]
theorem sameB_refl (l : List Sp) : sameB l l = true := (sameB_iff l l).2 rfl
theorem sameB_bad {s r : Sp} {l m : List Sp} (h : ¬ (s.fr = r.fr ∧ s.to = r.to ∧ s.is = r.is)) : sameB (s :: l) (r :: m) = false := by rw [sameB, decide_eq_false h, Bool.false_and]
theorem sameB_good {s r : Sp} {l m : List Sp} (h : s.fr = r.fr ∧ s.to = r.to ∧ s.is = r.is) : sameB (s :: l) (r :: m) = sameB l m := by rw [sameB, decide_eq_true h, Bool.true_and]
theorem sameB_len : ∀ (l m : List Sp), l.length ≠ m.length → sameB l m = false
  | [], [], h => absurd rfl h
  | [], _ :: _, _ => rfl
  | _ :: _, [], _ => rfl
  | s :: l, r :: m, h => by rw [sameB, sameB_len l m (by simpa using h), Bool.and_false]

set_option maxRecDepth 100000 in
set_option maxHeartbeats 1000000 in
theorem ref_Same (a b : Option Addr) (na ca nb cb : Nat) (la lb : List Sp) (w : World) (ha : SpsRd w a na la) (hb : SpsRd w b nb lb) (hn : na ≤ maxLen) :
    Calls Tryz.prog 17 #[.slice a na ca, .slice b nb cb] w fun e w' => e = .returned (.bool (sameB la lb)) ∧ Below w.heap.size w w' := by
  have HA : Hid (SpsRd w a na la) := ha
  have HBB : Hid (SpsRd w b nb lb) := hb
  obtain ⟨x, HF⟩ : ∃ b, Hid (b = sameB la lb) := ⟨_, rfl⟩
  rw [← HF.out]
  unfold maxLen at hn
  clear ha hb
  by_cases hne : na = nb
  · subst hne
    go_enter Tryz.func17, Tryz.ntmps17
    go_wp2
    go_loopw [5] (fun t5 wr => ∃ (k : Nat), k ≤ na ∧ t5 = .int .i64 (k : Int) ∧ Hid (sameB (la.drop k) (lb.drop k) = x) ∧ Hid (Below w.heap.size w wr)) (fun t5 _ => na - (intOf t5).toNat)
    case atStart => exact ⟨0, by omega, rfl, HF.out.symm, Below.refl _ _⟩
    case round =>
      obtain ⟨k, hk, rfl, HE, HB⟩ := hrel
      by_cases hlt : k < na
      · have hlt' : (k : Int) < (na : Int) := by omega
        have h0k : (0 : Int) ≤ (k : Int) := by omega
        obtain ⟨g, o, rfl, hg, q, hq, c0, c1, c2⟩ := (HA.out.below HB.out).at_ k hlt
        obtain ⟨g2, o2, rfl, hg2, r, hr, e0, e1, e2⟩ := (HBB.out.below HB.out).at_ k hlt
        have HD : Hid (la.drop k = q :: la.drop (k + 1) ∧ lb.drop k = r :: lb.drop (k + 1)) := ⟨drop_at hq, drop_at hr⟩
        clear hq hg hr hg2
        obtain ⟨qf, qt, qi⟩ := q
        obtain ⟨rf, rt, ri⟩ := r
        simp only at c0 c1 c2 e0 e1 e2
        by_cases hs : qf = rf ∧ qt = rt ∧ qi = ri
        · obtain ⟨rfl, rfl, rfl⟩ := hs
          have HX : Hid (sameB (la.drop (k + 1)) (lb.drop (k + 1)) = x) := by
            show _ = _
            rw [← HE.out, HD.out.1, HD.out.2, sameB_good ⟨rfl, rfl, rfl⟩]
          clear HE
          go_wp2
          go_quiet (fail)
          go_wp2
          go_roundw
          case rel => exact ⟨k + 1, by omega, by go_num, HX, below_drews HB.out _⟩
          case measure => simp [intOf]; omega
        · have HX : Hid (x = false) := by
            show _ = _
            rw [← HE.out, HD.out.1, HD.out.2, sameB_bad hs]
          clear HE
          by_cases h1 : qf = rf
          · subst h1
            by_cases h2 : qt = rt
            · subst h2
              have h3 : ¬ qi = ri := fun e => hs ⟨rfl, rfl, e⟩
              have h3' : (qi == ri) = false := by simpa using h3
              clear hs
              go_wp2
              go_quiet (fail)
              go_wp2
              go_ret
              exact ⟨by rw [HX.out]; rfl, below_drews HB.out _⟩
            · have h2' : (qt == rt) = false := by simpa using h2
              clear hs
              go_wp2
              go_quiet (fail)
              go_wp2
              go_ret
              exact ⟨by rw [HX.out]; rfl, below_drews HB.out _⟩
          · have h1' : (qf == rf) = false := by simpa using h1
            clear hs
            go_wp2
            go_quiet (fail)
            go_wp2
            go_ret
            exact ⟨by rw [HX.out]; rfl, below_drews HB.out _⟩
      · have hnl : ¬ (k : Int) < (na : Int) := by omega
        have HX : Hid (x = true) := by
          show _ = _
          rw [← HE.out, List.drop_of_length_le (by rw [HA.out.size]; omega), List.drop_of_length_le (by rw [HBB.out.size]; omega)]
          rfl
        clear HE
        go_wp2
        go_ret
        exact ⟨by rw [HX.out]; rfl, HB.out⟩
  · have HX : Hid (x = false) := by
      show _ = _
      rw [HF.out, sameB_len _ _ (by rw [HA.out.size, HBB.out.size]; exact hne)]
    have hne' : ¬ ((na : Int) = (nb : Int)) := by omega
    go_enter Tryz.func17, Tryz.ntmps17
    go_wp2
    go_ret
    exact ⟨by rw [HX.out]; rfl, Below.refl _ _⟩
end Go.Proofs.YtidihfhgnjkmaaaGreat
/- grapevineref08: Right, Count. -/
namespace Go.Proofs.YtidihfhgnjkmaaaGreat
open Go.RowKit

set_option maxRecDepth 100000 in
set_option maxHeartbeats 4000000 in
theorem ref_Right (a : Option Addr) (n cap : Nat) (l : List Sp) (w : World) (hr : SpsRd w a n l) (hn : n ≤ maxLen) : Calls Tryz.prog 25 #[.slice a n cap] w fun e w' => e = .returned (.bool (rightB Sp.zr l)) ∧ Below w.heap.size w w' := by
  have HR : Hid (SpsRd w a n l) := hr
  obtain ⟨b, HF⟩ : ∃ b, Hid (b = rightB Sp.zr l) := ⟨_, rfl⟩
  rw [← HF.out]
  unfold maxLen at hn
  clear hr
  go_enter Tryz.func25, Tryz.ntmps25
  go_wp2
  go_loopw [3] (fun t3 wr => ∃ (k : Nat) (p : Sp), k ≤ n ∧ t3 = .int .i64 (k : Int) ∧ Hid (rightB p (l.drop k) = b) ∧ Hid ((k = 0 ∧ p = Sp.zr) ∨ (0 < k ∧ l[k - 1]? = some p ∧ 1 ≤ p.to ∧ p.to ≤ 1099511627776)) ∧ Hid (Below w.heap.size w wr)) (fun t3 _ => n - (intOf t3).toNat)
  case atStart => exact ⟨0, Sp.zr, by omega, rfl, HF.out.symm, .inl ⟨rfl, rfl⟩, Below.refl _ _⟩
  case round =>
    obtain ⟨k, p, hk, rfl, HE, HP, HB⟩ := hrel
    by_cases hlt : k < n
    · have hlt' : (k : Int) < (n : Int) := by omega
      have h0k : (0 : Int) ≤ (k : Int) := by omega
      obtain ⟨g, o, rfl, hg, q, hq, c0, c1, c2⟩ := (HR.out.below HB.out).at_ k hlt
      have HD : Hid (l.drop k = q :: l.drop (k + 1)) := drop_at hq
      have HQ : Hid (l[k]? = some q) := hq
      have HPRE : Hid (∀ w', Below wr.heap.size wr w' → ∀ j, k = j + 1 → w'.cell? ⟨g, o + j * 3 + 1, none⟩ = some (.int .i64 p.to) ∧ w'.cell? ⟨g, o + j * 3 + 2, none⟩ = some (.int .i64 p.is)) := by
        intro w' hb' j hj
        rcases HP.out with ⟨h, _⟩ | ⟨_, h, _, _⟩
        · omega
        · obtain ⟨g', o', ha, hg', q', hq', _, d1, d2⟩ := ((HR.out.below HB.out).below hb').at_ j (by omega)
          simp only [Option.some.injEq, Addr.mk.injEq] at ha
          obtain ⟨rfl, rfl, _⟩ := ha
          rw [show k - 1 = j from by omega] at h
          rw [h] at hq'
          simp only [Option.some.injEq] at hq'
          subst hq'
          exact ⟨d1, d2⟩
      clear hq
      obtain ⟨qf, qt, qi⟩ := q
      obtain ⟨pf, pt, pi⟩ := p
      simp only at c0 c1 c2
      by_cases h1 : qi < 1
      · have d1 : decide (qi < 1) = true := decide_eq_true h1
        have HBAD : Hid (b = false) := by show _ = _; rw [← HE.out, HD.out, rightB_bad (by simp only; omega)]
        clear HE
        go_wp2
        go_quiet (fail)
        go_wp2
        go_ret
        exact ⟨by rw [HBAD.out]; rfl, below_drews HB.out _⟩
      · have d1 : decide (qi < 1) = false := decide_eq_false h1
        by_cases h2 : 3 < qi
        · have d2 : decide (3 < qi) = true := decide_eq_true h2
          have HBAD : Hid (b = false) := by show _ = _; rw [← HE.out, HD.out, rightB_bad (by simp only; omega)]
          clear HE
          go_wp2
          go_quiet (fail)
          go_wp2
          go_ret
          exact ⟨by rw [HBAD.out]; rfl, below_drews HB.out _⟩
        · have d2 : decide (3 < qi) = false := decide_eq_false h2
          by_cases h3 : qf < 1
          · have d3 : decide (qf < 1) = true := decide_eq_true h3
            have HBAD : Hid (b = false) := by show _ = _; rw [← HE.out, HD.out, rightB_bad (by
              simp only
              rcases HP.out with ⟨_, h⟩ | ⟨_, _, h, _⟩
              · simp only [Sp.zr, Sp.mk.injEq] at h; omega
              · simp only at h; omega)]
            clear HE
            go_wp2
            go_quiet (fail)
            go_wp2
            go_ret
            exact ⟨by rw [HBAD.out]; rfl, below_drews HB.out _⟩
          · have d3 : decide (qf < 1) = false := decide_eq_false h3
            by_cases h4 : qt < qf
            · have d4 : decide (qt < qf) = true := decide_eq_true h4
              have HBAD : Hid (b = false) := by show _ = _; rw [← HE.out, HD.out, rightB_bad (by simp only; omega)]
              clear HE
              go_wp2
              go_quiet (fail)
              go_wp2
              go_ret
              exact ⟨by rw [HBAD.out]; rfl, below_drews HB.out _⟩
            · have d4 : decide (qt < qf) = false := decide_eq_false h4
              by_cases h5 : 1099511627776 < qt
              · have d5 : decide (1099511627776 < qt) = true := decide_eq_true h5
                have HBAD : Hid (b = false) := by show _ = _; rw [← HE.out, HD.out, rightB_bad (by simp only; omega)]
                clear HE
                go_wp2
                go_quiet (fail)
                go_wp2
                go_ret
                exact ⟨by rw [HBAD.out]; rfl, below_drews HB.out _⟩
              · have d5 : decide (1099511627776 < qt) = false := decide_eq_false h5
                go_wp2
                go_quiet (fail)
                generalize hnq : wr.drewN _ = w2
                have hbw : Below wr.heap.size wr w2 := by rw [← hnq]; exact below_drews (Below.refl _ _) _
                have HB2 : Hid (Below w.heap.size w w2) := HB.out.trans (hbw.mono HB.out.size)
                have d0 : w2.cell? ⟨g, o + k * 3, none⟩ = some (.int .i64 qf) := (hbw.cell (p := ⟨g, o + k * 3, none⟩) hg).trans c0
                have d2 : w2.cell? ⟨g, o + k * 3 + 2, none⟩ = some (.int .i64 qi) := (hbw.cell (p := ⟨g, o + k * 3 + 2, none⟩) hg).trans c2
                have HPR2 : Hid (∀ j, k = j + 1 → w2.cell? ⟨g, o + j * 3 + 1, none⟩ = some (.int .i64 pt) ∧ w2.cell? ⟨g, o + j * 3 + 2, none⟩ = some (.int .i64 pi)) := HPRE.out w2 hbw
                clear hnq hbw c0 c1 c2 HPRE HB
                by_cases hk0 : k = 0
                · subst hk0
                  have HX : Hid (rightB ⟨qf, qt, qi⟩ (l.drop (0 + 1)) = b) := by
                    show _ = _
                    rcases HP.out with ⟨_, h⟩ | ⟨h, _⟩
                    · simp only [Sp.zr, Sp.mk.injEq] at h
                      obtain ⟨rfl, rfl, rfl⟩ := h
                      rw [← HE.out, HD.out, rightB_good ⟨by simp only; omega, by simp only; omega, by simp only; omega, by simp only; omega, by simp only; omega, by simp only; omega⟩]
                    · omega
                  simp only [Nat.zero_mul, Nat.add_zero, Int.cast_ofNat_Int] at d0 d2 ⊢
                  clear HE HP
                  go_wp2
                  go_quiet (fail)
                  go_wp2
                  go_roundw
                  case rel => exact ⟨0 + 1, ⟨qf, qt, qi⟩, by omega, rfl, HX, .inr ⟨by omega, HQ.out, by simp only; omega, by simp only; omega⟩, below_drews HB2.out _⟩
                  case measure => simp [intOf]; omega
                · obtain ⟨j, rfl⟩ : ∃ j, k = j + 1 := ⟨k - 1, by omega⟩
                  have dz : decide ((0 : Int) < ((j + 1 : Nat) : Int)) = true := decide_eq_true (by omega)
                  have hz : (0 : Int) < ((j + 1 : Nat) : Int) := by omega
                  have hjn : (j : Int) < (n : Int) := by omega
                  have hj0 : (0 : Int) ≤ (j : Int) := by omega
                  obtain ⟨e1, e2⟩ := HPR2.out j rfl
                  have HPP : Hid (1 ≤ pt ∧ pt ≤ 1099511627776) := by
                    rcases HP.out with ⟨h, _⟩ | ⟨_, _, h, h'⟩
                    · omega
                    · exact ⟨h, h'⟩
                  obtain ⟨hp1, hp2⟩ := HPP.out
                  by_cases h6 : qf ≤ pt
                  · have d6 : decide (qf ≤ pt) = true := decide_eq_true h6
                    have HBAD : Hid (b = false) := by show _ = _; rw [← HE.out, HD.out, rightB_bad (by simp only; omega)]
                    clear HE HP
                    go_wp2
                    go_quiet (fail)
                    go_wp2
                    go_ret
                    exact ⟨by rw [HBAD.out]; rfl, below_drews HB2.out _⟩
                  · have d6 : decide (qf ≤ pt) = false := decide_eq_false h6
                    by_cases h7 : qf - 1 = pt
                    · have h7' : (qf - 1 == pt) = true := by simpa using h7
                      by_cases h8 : qi = pi
                      · have h8' : (qi == pi) = true := by simpa using h8
                        have HBAD : Hid (b = false) := by show _ = _; rw [← HE.out, HD.out, rightB_bad (by simp only; omega)]
                        clear HE HP
                        go_wp2
                        go_quiet (fail)
                        go_wp2
                        go_ret
                        exact ⟨by rw [HBAD.out]; rfl, below_drews HB2.out _⟩
                      · have h8' : (qi == pi) = false := by simpa using h8
                        have HX : Hid (rightB ⟨qf, qt, qi⟩ (l.drop (j + 1 + 1)) = b) := by
                          show _ = _
                          rw [← HE.out, HD.out, rightB_good ⟨by simp only; omega, by simp only; omega, by simp only; omega, by simp only; omega, by simp only; omega, by simp only; omega⟩]
                        clear HE HP
                        go_wp2
                        go_quiet (fail)
                        go_wp2
                        go_roundw
                        case rel => exact ⟨j + 1 + 1, ⟨qf, qt, qi⟩, by omega, by go_num, HX, .inr ⟨by omega, HQ.out, by simp only; omega, by simp only; omega⟩, below_drews HB2.out _⟩
                        case measure => simp [intOf]; omega
                    · have h7' : (qf - 1 == pt) = false := by simpa using h7
                      have HX : Hid (rightB ⟨qf, qt, qi⟩ (l.drop (j + 1 + 1)) = b) := by
                        show _ = _
                        rw [← HE.out, HD.out, rightB_good ⟨by simp only; omega, by simp only; omega, by simp only; omega, by simp only; omega, by simp only; omega, by simp only; omega⟩]
                      clear HE HP
                      go_wp2
                      go_quiet (fail)
                      go_wp2
                      go_roundw
                      case rel => exact ⟨j + 1 + 1, ⟨qf, qt, qi⟩, by omega, by go_num, HX, .inr ⟨by omega, HQ.out, by simp only; omega, by simp only; omega⟩, below_drews HB2.out _⟩
                      case measure => simp [intOf]; omega
    · have hnl : ¬ (k : Int) < (n : Int) := by omega
      have HOK : Hid (b = true) := by
        show _ = _
        rw [← HE.out, List.drop_of_length_le (by rw [HR.out.size]; omega)]
        rfl
      clear HE HP
      go_wp2
      go_ret
      exact ⟨by rw [HOK.out]; rfl, HB.out⟩
end Go.Proofs.YtidihfhgnjkmaaaGreat
