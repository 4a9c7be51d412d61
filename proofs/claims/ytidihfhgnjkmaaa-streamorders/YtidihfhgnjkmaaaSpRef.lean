/- grapevineref08: Right, At, Count, Same, Horizon. -/
import Derived.Test.YtidihfhgnjkmaaaSpanP
namespace Go.Proofs.Ytidihfhgnjkmaaa
open Go.RowKit

set_option maxRecDepth 100000 in
theorem ref_At (a : Option Addr) (n cap : Nat) (l : List Sp) (t : Int) (w : World) (hr : SpsRd w a n l) (hn : n ≤ maxLen) : Calls Try.prog 28 #[.slice a n cap, .int .i64 t] w fun e w' => e = .returned (.int .i64 (atS l t)) ∧ w' = w := by
  have HR : Hid (SpsRd w a n l) := hr
  obtain ⟨b, HF⟩ : ∃ b, Hid (b = atS l t) := ⟨_, rfl⟩
  rw [← HF.out]
  unfold maxLen at hn
  clear hr
  go_enter Try.func28, Try.ntmps28
  go_wp2
  go_loopw [5] (fun t5 wr => ∃ (k : Nat), k ≤ n ∧ t5 = .int .i64 (k : Int) ∧ Hid (atS (l.drop k) t = b) ∧ wr = w) (fun t5 _ => n - (intOf t5).toNat)
  case atStart => exact ⟨0, by omega, rfl, HF.out.symm, rfl⟩
  case round =>
    obtain ⟨k, hk, rfl, HE, rfl⟩ := hrel
    by_cases hlt : k < n
    · have hlt' : (k : Int) < (n : Int) := by omega
      obtain ⟨g, o, rfl, hg, q, hq, c0, c1, c2⟩ := HR.out.at_ k hlt
      have HD : Hid (l.drop k = q :: l.drop (k + 1)) := drop_at hq
      clear hq hg
      obtain ⟨qf, qt, qi⟩ := q
      simp only at c0 c1 c2
      by_cases h1 : qf ≤ t
      · by_cases h2 : t ≤ qt
        · have HX : Hid (b = qi) := by show _ = _; rw [← HE.out, HD.out, atS_in h1 h2]
          clear HE
          go_wp2
          go_ret
          exact ⟨by rw [HX.out]; rfl, rfl⟩
        · have HX : Hid (atS (l.drop (k + 1)) t = b) := by show _ = _; rw [← HE.out, HD.out, atS_out (by simp only; omega)]
          clear HE
          go_wp2
          go_roundw
          case rel => exact ⟨k + 1, by omega, by go_num, HX, by trivial⟩
          case measure => simp [intOf]; omega
      · have HX : Hid (atS (l.drop (k + 1)) t = b) := by show _ = _; rw [← HE.out, HD.out, atS_out (by simp only; omega)]
        clear HE
        go_wp2
        go_roundw
        case rel => exact ⟨k + 1, by omega, by go_num, HX, by trivial⟩
        case measure => simp [intOf]; omega
    · have hnl : ¬ (k : Int) < (n : Int) := by omega
      have HX : Hid (b = 0) := by
        show _ = _
        rw [← HE.out, List.drop_of_length_le (by rw [HR.out.size]; omega)]
        rfl
      clear HE
      go_wp2
      go_ret
      exact ⟨by rw [HX.out]; rfl, rfl⟩

/-- Lists of spans are the same. -/
def sameB : List Sp → List Sp → Bool
  | [], [] => true
  | s :: l, r :: m => decide (s.fr = r.fr ∧ s.to = r.to ∧ s.is = r.is) && sameB l m
  | _, _ => false
theorem sameB_iff : ∀ (l m : List Sp), sameB l m = true ↔ l = m
  | [], [] => by simp [sameB]
  | [], _ :: _ => by simp [sameB]
  | _ :: _, [] => by simp [sameB]
  | ⟨sf, st, si⟩ :: l, ⟨rf, rt, ri⟩ :: m => by
    rw [sameB, Bool.and_eq_true, decide_eq_true_eq, sameB_iff l m, List.cons.injEq, Sp.mk.injEq]
theorem sameB_refl (l : List Sp) : sameB l l = true := (sameB_iff l l).2 rfl
theorem sameB_bad {s r : Sp} {l m : List Sp} (h : ¬ (s.fr = r.fr ∧ s.to = r.to ∧ s.is = r.is)) : sameB (s :: l) (r :: m) = false := by rw [sameB, decide_eq_false h, Bool.false_and]
theorem sameB_good {s r : Sp} {l m : List Sp} (h : s.fr = r.fr ∧ s.to = r.to ∧ s.is = r.is) : sameB (s :: l) (r :: m) = sameB l m := by rw [sameB, decide_eq_true h, Bool.true_and]
theorem sameB_len : ∀ (l m : List Sp), l.length ≠ m.length → sameB l m = false
  | [], [], h => absurd rfl h
  | [], _ :: _, _ => rfl
  | _ :: _, [], _ => rfl
  | s :: l, r :: m, h => by rw [sameB, sameB_len l m (by simpa using h), Bool.and_false]

set_option maxRecDepth 100000 in
set_option maxHeartbeats 1000000 in
theorem ref_Same (a b : Option Addr) (na ca nb cb : Nat) (la lb : List Sp) (w : World) (ha : SpsRd w a na la) (hb : SpsRd w b nb lb) (hn : na ≤ maxLen) :
    Calls Try.prog 7 #[.slice a na ca, .slice b nb cb] w fun e w' => e = .returned (.bool (sameB la lb)) ∧ Below w.heap.size w w' := by
  have HA : Hid (SpsRd w a na la) := ha
  have HBB : Hid (SpsRd w b nb lb) := hb
  obtain ⟨x, HF⟩ : ∃ b, Hid (b = sameB la lb) := ⟨_, rfl⟩
  rw [← HF.out]
  unfold maxLen at hn
  clear ha hb
  by_cases hne : na = nb
  · subst hne
    go_enter Try.func7, Try.ntmps7
    go_wp2
    go_loopw [5] (fun t5 wr => ∃ (k : Nat), k ≤ na ∧ t5 = .int .i64 (k : Int) ∧ Hid (sameB (la.drop k) (lb.drop k) = x) ∧ Hid (Below w.heap.size w wr)) (fun t5 _ => na - (intOf t5).toNat)
    case atStart => exact ⟨0, by omega, rfl, HF.out.symm, Below.refl _ _⟩
    case round =>
      obtain ⟨k, hk, rfl, HE, HB⟩ := hrel
      by_cases hlt : k < na
      · have hlt' : (k : Int) < (na : Int) := by omega
        have h0k : (0 : Int) ≤ (k : Int) := by omega
        obtain ⟨g, o, rfl, hg, q, hq, c0, c1, c2⟩ := (HA.out.below HB.out).at_ k hlt
        obtain ⟨g2, o2, rfl, hg2, r, hr, e0, e1, e2⟩ := (HBB.out.below HB.out).at_ k hlt
        have HD : Hid (la.drop k = q :: la.drop (k + 1) ∧ lb.drop k = r :: lb.drop (k + 1)) := ⟨drop_at hq, drop_at hr⟩
        clear hq hg hr hg2
        obtain ⟨qf, qt, qi⟩ := q
        obtain ⟨rf, rt, ri⟩ := r
        simp only at c0 c1 c2 e0 e1 e2
        by_cases hs : qf = rf ∧ qt = rt ∧ qi = ri
        · obtain ⟨rfl, rfl, rfl⟩ := hs
          have HX : Hid (sameB (la.drop (k + 1)) (lb.drop (k + 1)) = x) := by
            show _ = _
            rw [← HE.out, HD.out.1, HD.out.2, sameB_good ⟨rfl, rfl, rfl⟩]
          clear HE
          go_wp2
          go_quiet (fail)
          go_wp2
          go_roundw
          case rel => exact ⟨k + 1, by omega, by go_num, HX, below_drews HB.out _⟩
          case measure => simp [intOf]; omega
        · have HX : Hid (x = false) := by
            show _ = _
            rw [← HE.out, HD.out.1, HD.out.2, sameB_bad hs]
          clear HE
          by_cases h1 : qf = rf
          · subst h1
            by_cases h2 : qt = rt
            · subst h2
              have h3 : ¬ qi = ri := fun e => hs ⟨rfl, rfl, e⟩
              have h3' : (qi == ri) = false := by simpa using h3
              clear hs
              go_wp2
              go_quiet (fail)
              go_wp2
              go_ret
              exact ⟨by rw [HX.out]; rfl, below_drews HB.out _⟩
            · have h2' : (qt == rt) = false := by simpa using h2
              clear hs
              go_wp2
              go_quiet (fail)
              go_wp2
              go_ret
              exact ⟨by rw [HX.out]; rfl, below_drews HB.out _⟩
          · have h1' : (qf == rf) = false := by simpa using h1
            clear hs
            go_wp2
            go_quiet (fail)
            go_wp2
            go_ret
            exact ⟨by rw [HX.out]; rfl, below_drews HB.out _⟩
      · have hnl : ¬ (k : Int) < (na : Int) := by omega
        have HX : Hid (x = true) := by
          show _ = _
          rw [← HE.out, List.drop_of_length_le (by rw [HA.out.size]; omega), List.drop_of_length_le (by rw [HBB.out.size]; omega)]
          rfl
        clear HE
        go_wp2
        go_ret
        exact ⟨by rw [HX.out]; rfl, HB.out⟩
  · have HX : Hid (x = false) := by
      show _ = _
      rw [HF.out, sameB_len _ _ (by rw [HA.out.size, HBB.out.size]; exact hne)]
    have hne' : ¬ ((na : Int) = (nb : Int)) := by omega
    go_enter Try.func7, Try.ntmps7
    go_wp2
    go_ret
    exact ⟨by rw [HX.out]; rfl, Below.refl _ _⟩
end Go.Proofs.Ytidihfhgnjkmaaa
