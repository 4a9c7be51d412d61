/- A pack of texts: SpRef SpRefR. -/
import Derived.Test.YtbloomepdchjhaaDoorSpanP
/- grapevineref08: Right, At, Count, Same, Horizon. -/
namespace Go.Proofs.YtbloomepdchjhaaDoor
open Go.RowKit

set_option maxRecDepth 100000 in
theorem ref_At (a : Option Addr) (n cap : Nat) (l : List Sp) (t : Int) (w : World) (hr : SpsRd w a n l) (hn : n ≤ maxLen) : Calls Tryd.prog 60 #[.slice a n cap, .int .i64 t] w fun e w' => e = .returned (.int .i64 (atS l t)) ∧ w' = w := by
  have HR : Hid (SpsRd w a n l) := hr
  obtain ⟨b, HF⟩ : ∃ b, Hid (b = atS l t) := ⟨_, rfl⟩
  rw [← HF.out]
  unfold maxLen at hn
  clear hr
  go_enter Tryd.func60, Tryd.ntmps60
  go_wp2
  go_loopw [5] (fun t5 wr => ∃ (k : Nat), k ≤ n ∧ t5 = .int .i64 (k : Int) ∧ Hid (atS (l.drop k) t = b) ∧ wr = w) (fun t5 _ => n - (intOf t5).toNat)
  case atStart => exact ⟨0, by omega, rfl, HF.out.symm, rfl⟩
  case round =>
    obtain ⟨k, hk, rfl, HE, rfl⟩ := hrel
    by_cases hlt : k < n
    · have hlt' : (k : Int) < (n : Int) := by omega
      obtain ⟨g, o, rfl, hg, q, hq, c0, c1, c2⟩ := HR.out.at_ k hlt
      have HD : Hid (l.drop k = q :: l.drop (k + 1)) := drop_at hq
      clear hq hg
      obtain ⟨qf, qt, qi⟩ := q
      simp only at c0 c1 c2
      by_cases h1 : qf ≤ t
      · by_cases h2 : t ≤ qt
        · have HX : Hid (b = qi) := by show _ = _; rw [← HE.out, HD.out, atS_in h1 h2]
          clear HE
          go_wp2
          go_ret
          exact ⟨by rw [HX.out]; rfl, rfl⟩
        · have HX : Hid (atS (l.drop (k + 1)) t = b) := by show _ = _; rw [← HE.out, HD.out, atS_out (by simp only; omega)]
          clear HE
          go_wp2
          go_roundw
          case rel => exact ⟨k + 1, by omega, by go_num, HX, by trivial⟩
          case measure => simp [intOf]; omega
      · have HX : Hid (atS (l.drop (k + 1)) t = b) := by show _ = _; rw [← HE.out, HD.out, atS_out (by simp only; omega)]
        clear HE
        go_wp2
        go_roundw
        case rel => exact ⟨k + 1, by omega, by go_num, HX, by trivial⟩
        case measure => simp [intOf]; omega
    · have hnl : ¬ (k : Int) < (n : Int) := by omega
      have HX : Hid (b = 0) := by
        show _ = _
        rw [← HE.out, List.drop_of_length_le (by rw [HR.out.size]; omega)]
        rfl
      clear HE
      go_wp2
      go_ret
      exact ⟨by rw [HX.out]; rfl, rfl⟩

/-- Lists of spans are the same. -/
def sameB : List Sp → List Sp → Bool
  | [], [] => true
  | s :: l, r :: m => decide (s.fr = r.fr ∧ s.to = r.to ∧ s.is = r.is) && sameB l m
  | _, _ => false
theorem sameB_iff : ∀ (l m : List Sp), sameB l m = true ↔ l = m
  | [], [] => by simp [sameB]
  | [], _ :: _ => by simp [sameB]
  | _ :: _, [] => by simp [sameB]
  | ⟨sf, st, si⟩ :: l, ⟨rf, rt, ri⟩ :: m => by
    rw [sameB, Bool.and_eq_true, decide_eq_true_eq, sameB_iff l m, List.cons.injEq, Sp.mk.injEq]
theorem sameB_refl (l : List Sp) : sameB l l = true := (sameB_iff l l).2 rfl
theorem sameB_bad {s r : Sp} {l m : List Sp} (h : ¬ (s.fr = r.fr ∧ s.to = r.to ∧ s.is = r.is)) : sameB (s :: l) (r :: m) = false := by rw [sameB, decide_eq_false h, Bool.false_and]
theorem sameB_good {s r : Sp} {l m : List Sp} (h : s.fr = r.fr ∧ s.to = r.to ∧ s.is = r.is) : sameB (s :: l) (r :: m) = sameB l m := by rw [sameB, decide_eq_true h, Bool.true_and]
theorem sameB_len : ∀ (l m : List Sp), l.length ≠ m.length → sameB l m = false
  | [], [], h => absurd rfl h
  | [], _ :: _, _ => rfl
  | _ :: _, [], _ => rfl
  | s :: l, r :: m, h => by rw [sameB, sameB_len l m (by simpa using h), Bool.and_false]

set_option maxRecDepth 100000 in
set_option maxHeartbeats 1000000 in
theorem ref_Same (a b : Option Addr) (na ca nb cb : Nat) (la lb : List Sp) (w : World) (ha : SpsRd w a na la) (hb : SpsRd w b nb lb) (hn : na ≤ maxLen) :
    Calls Tryd.prog 25 #[.slice a na ca, .slice b nb cb] w fun e w' => e = .returned (.bool (sameB la lb)) ∧ Below w.heap.size w w' := by
  have HA : Hid (SpsRd w a na la) := ha
  have HBB : Hid (SpsRd w b nb lb) := hb
  obtain ⟨x, HF⟩ : ∃ b, Hid (b = sameB la lb) := ⟨_, rfl⟩
  rw [← HF.out]
  unfold maxLen at hn
  clear ha hb
  by_cases hne : na = nb
  · subst hne
    go_enter Tryd.func25, Tryd.ntmps25
    go_wp2
    go_loopw [5] (fun t5 wr => ∃ (k : Nat), k ≤ na ∧ t5 = .int .i64 (k : Int) ∧ Hid (sameB (la.drop k) (lb.drop k) = x) ∧ Hid (Below w.heap.size w wr)) (fun t5 _ => na - (intOf t5).toNat)
    case atStart => exact ⟨0, by omega, rfl, HF.out.symm, Below.refl _ _⟩
    case round =>
      obtain ⟨k, hk, rfl, HE, HB⟩ := hrel
      by_cases hlt : k < na
      · have hlt' : (k : Int) < (na : Int) := by omega
        have h0k : (0 : Int) ≤ (k : Int) := by omega
        obtain ⟨g, o, rfl, hg, q, hq, c0, c1, c2⟩ := (HA.out.below HB.out).at_ k hlt
        obtain ⟨g2, o2, rfl, hg2, r, hr, e0, e1, e2⟩ := (HBB.out.below HB.out).at_ k hlt
        have HD : Hid (la.drop k = q :: la.drop (k + 1) ∧ lb.drop k = r :: lb.drop (k + 1)) := ⟨drop_at hq, drop_at hr⟩
        clear hq hg hr hg2
        obtain ⟨qf, qt, qi⟩ := q
        obtain ⟨rf, rt, ri⟩ := r
        simp only at c0 c1 c2 e0 e1 e2
        by_cases hs : qf = rf ∧ qt = rt ∧ qi = ri
        · obtain ⟨rfl, rfl, rfl⟩ := hs
          have HX : Hid (sameB (la.drop (k + 1)) (lb.drop (k + 1)) = x) := by
            show _ = _
            rw [← HE.out, HD.out.1, HD.out.2, sameB_good ⟨rfl, rfl, rfl⟩]
          clear HE
          go_wp2
          go_quiet (fail)
          go_wp2
          go_roundw
          case rel => exact ⟨k + 1, by omega, by go_num, HX, below_drews HB.out _⟩
          case measure => simp [intOf]; omega
        · have HX : Hid (x = false) := by
            show _ = _
            rw [← HE.out, HD.out.1, HD.out.2, sameB_bad hs]
          clear HE
          by_cases h1 : qf = rf
          · subst h1
            by_cases h2 : qt = rt
            · subst h2
              have h3 : ¬ qi = ri := fun e => hs ⟨rfl, rfl, e⟩
              have h3' : (qi == ri) = false := by simpa using h3
              clear hs
              go_wp2
              go_quiet (fail)
              go_wp2
              go_ret
              exact ⟨by rw [HX.out]; rfl, below_drews HB.out _⟩
            · have h2' : (qt == rt) = false := by simpa using h2
              clear hs
              go_wp2
              go_quiet (fail)
              go_wp2
              go_ret
              exact ⟨by rw [HX.out]; rfl, below_drews HB.out _⟩
          · have h1' : (qf == rf) = false := by simpa using h1
            clear hs
            go_wp2
            go_quiet (fail)
            go_wp2
            go_ret
            exact ⟨by rw [HX.out]; rfl, below_drews HB.out _⟩
      · have hnl : ¬ (k : Int) < (na : Int) := by omega
        have HX : Hid (x = true) := by
          show _ = _
          rw [← HE.out, List.drop_of_length_le (by rw [HA.out.size]; omega), List.drop_of_length_le (by rw [HBB.out.size]; omega)]
          rfl
        clear HE
        go_wp2
        go_ret
        exact ⟨by rw [HX.out]; rfl, HB.out⟩
  · have HX : Hid (x = false) := by
      show _ = _
      rw [HF.out, sameB_len _ _ (by rw [HA.out.size, HBB.out.size]; exact hne)]
    have hne' : ¬ ((na : Int) = (nb : Int)) := by omega
    go_enter Tryd.func25, Tryd.ntmps25
    go_wp2
    go_ret
    exact ⟨by rw [HX.out]; rfl, Below.refl _ _⟩
end Go.Proofs.YtbloomepdchjhaaDoor
/- grapevineref08: Right, Count. -/
namespace Go.Proofs.YtbloomepdchjhaaDoor
open Go.RowKit

set_option maxRecDepth 100000 in
set_option maxHeartbeats 4000000 in
theorem ref_Right (a : Option Addr) (n cap : Nat) (l : List Sp) (w : World) (hr : SpsRd w a n l) (hn : n ≤ maxLen) : Calls Tryd.prog 59 #[.slice a n cap] w fun e w' => e = .returned (.bool (rightB Sp.zr l)) ∧ Below w.heap.size w w' := by
  have HR : Hid (SpsRd w a n l) := hr
  obtain ⟨b, HF⟩ : ∃ b, Hid (b = rightB Sp.zr l) := ⟨_, rfl⟩
  rw [← HF.out]
  unfold maxLen at hn
  clear hr
  go_enter Tryd.func59, Tryd.ntmps59
  go_wp2
  go_loopw [3] (fun t3 wr => ∃ (k : Nat) (p : Sp), k ≤ n ∧ t3 = .int .i64 (k : Int) ∧ Hid (rightB p (l.drop k) = b) ∧ Hid ((k = 0 ∧ p = Sp.zr) ∨ (0 < k ∧ l[k - 1]? = some p ∧ 1 ≤ p.to ∧ p.to ≤ 1099511627776)) ∧ Hid (Below w.heap.size w wr)) (fun t3 _ => n - (intOf t3).toNat)
  case atStart => exact ⟨0, Sp.zr, by omega, rfl, HF.out.symm, .inl ⟨rfl, rfl⟩, Below.refl _ _⟩
  case round =>
    obtain ⟨k, p, hk, rfl, HE, HP, HB⟩ := hrel
    by_cases hlt : k < n
    · have hlt' : (k : Int) < (n : Int) := by omega
      have h0k : (0 : Int) ≤ (k : Int) := by omega
      obtain ⟨g, o, rfl, hg, q, hq, c0, c1, c2⟩ := (HR.out.below HB.out).at_ k hlt
      have HD : Hid (l.drop k = q :: l.drop (k + 1)) := drop_at hq
      have HQ : Hid (l[k]? = some q) := hq
      have HPRE : Hid (∀ w', Below wr.heap.size wr w' → ∀ j, k = j + 1 → w'.cell? ⟨g, o + j * 3 + 1, none⟩ = some (.int .i64 p.to) ∧ w'.cell? ⟨g, o + j * 3 + 2, none⟩ = some (.int .i64 p.is)) := by
        intro w' hb' j hj
        rcases HP.out with ⟨h, _⟩ | ⟨_, h, _, _⟩
        · omega
        · obtain ⟨g', o', ha, hg', q', hq', _, d1, d2⟩ := ((HR.out.below HB.out).below hb').at_ j (by omega)
          simp only [Option.some.injEq, Addr.mk.injEq] at ha
          obtain ⟨rfl, rfl, _⟩ := ha
          rw [show k - 1 = j from by omega] at h
          rw [h] at hq'
          simp only [Option.some.injEq] at hq'
          subst hq'
          exact ⟨d1, d2⟩
      clear hq
      obtain ⟨qf, qt, qi⟩ := q
      obtain ⟨pf, pt, pi⟩ := p
      simp only at c0 c1 c2
      by_cases h1 : qi < 1
      · have d1 : decide (qi < 1) = true := decide_eq_true h1
        have HBAD : Hid (b = false) := by show _ = _; rw [← HE.out, HD.out, rightB_bad (by simp only; omega)]
        clear HE
        go_wp2
        go_quiet (fail)
        go_wp2
        go_ret
        exact ⟨by rw [HBAD.out]; rfl, below_drews HB.out _⟩
      · have d1 : decide (qi < 1) = false := decide_eq_false h1
        by_cases h2 : 3 < qi
        · have d2 : decide (3 < qi) = true := decide_eq_true h2
          have HBAD : Hid (b = false) := by show _ = _; rw [← HE.out, HD.out, rightB_bad (by simp only; omega)]
          clear HE
          go_wp2
          go_quiet (fail)
          go_wp2
          go_ret
          exact ⟨by rw [HBAD.out]; rfl, below_drews HB.out _⟩
        · have d2 : decide (3 < qi) = false := decide_eq_false h2
          by_cases h3 : qf < 1
          · have d3 : decide (qf < 1) = true := decide_eq_true h3
            have HBAD : Hid (b = false) := by show _ = _; rw [← HE.out, HD.out, rightB_bad (by
              simp only
              rcases HP.out with ⟨_, h⟩ | ⟨_, _, h, _⟩
              · simp only [Sp.zr, Sp.mk.injEq] at h; omega
              · simp only at h; omega)]
            clear HE
            go_wp2
            go_quiet (fail)
            go_wp2
            go_ret
            exact ⟨by rw [HBAD.out]; rfl, below_drews HB.out _⟩
          · have d3 : decide (qf < 1) = false := decide_eq_false h3
            by_cases h4 : qt < qf
            · have d4 : decide (qt < qf) = true := decide_eq_true h4
              have HBAD : Hid (b = false) := by show _ = _; rw [← HE.out, HD.out, rightB_bad (by simp only; omega)]
              clear HE
              go_wp2
              go_quiet (fail)
              go_wp2
              go_ret
              exact ⟨by rw [HBAD.out]; rfl, below_drews HB.out _⟩
            · have d4 : decide (qt < qf) = false := decide_eq_false h4
              by_cases h5 : 1099511627776 < qt
              · have d5 : decide (1099511627776 < qt) = true := decide_eq_true h5
                have HBAD : Hid (b = false) := by show _ = _; rw [← HE.out, HD.out, rightB_bad (by simp only; omega)]
                clear HE
                go_wp2
                go_quiet (fail)
                go_wp2
                go_ret
                exact ⟨by rw [HBAD.out]; rfl, below_drews HB.out _⟩
              · have d5 : decide (1099511627776 < qt) = false := decide_eq_false h5
                go_wp2
                go_quiet (fail)
                generalize hnq : wr.drewN _ = w2
                have hbw : Below wr.heap.size wr w2 := by rw [← hnq]; exact below_drews (Below.refl _ _) _
                have HB2 : Hid (Below w.heap.size w w2) := HB.out.trans (hbw.mono HB.out.size)
                have d0 : w2.cell? ⟨g, o + k * 3, none⟩ = some (.int .i64 qf) := (hbw.cell (p := ⟨g, o + k * 3, none⟩) hg).trans c0
                have d2 : w2.cell? ⟨g, o + k * 3 + 2, none⟩ = some (.int .i64 qi) := (hbw.cell (p := ⟨g, o + k * 3 + 2, none⟩) hg).trans c2
                have HPR2 : Hid (∀ j, k = j + 1 → w2.cell? ⟨g, o + j * 3 + 1, none⟩ = some (.int .i64 pt) ∧ w2.cell? ⟨g, o + j * 3 + 2, none⟩ = some (.int .i64 pi)) := HPRE.out w2 hbw
                clear hnq hbw c0 c1 c2 HPRE HB
                by_cases hk0 : k = 0
                · subst hk0
                  have HX : Hid (rightB ⟨qf, qt, qi⟩ (l.drop (0 + 1)) = b) := by
                    show _ = _
                    rcases HP.out with ⟨_, h⟩ | ⟨h, _⟩
                    · simp only [Sp.zr, Sp.mk.injEq] at h
                      obtain ⟨rfl, rfl, rfl⟩ := h
                      rw [← HE.out, HD.out, rightB_good ⟨by simp only; omega, by simp only; omega, by simp only; omega, by simp only; omega, by simp only; omega, by simp only; omega⟩]
                    · omega
                  simp only [Nat.zero_mul, Nat.add_zero, Int.cast_ofNat_Int] at d0 d2 ⊢
                  clear HE HP
                  go_wp2
                  go_quiet (fail)
                  go_wp2
                  go_roundw
                  case rel => exact ⟨0 + 1, ⟨qf, qt, qi⟩, by omega, rfl, HX, .inr ⟨by omega, HQ.out, by simp only; omega, by simp only; omega⟩, below_drews HB2.out _⟩
                  case measure => simp [intOf]; omega
                · obtain ⟨j, rfl⟩ : ∃ j, k = j + 1 := ⟨k - 1, by omega⟩
                  have dz : decide ((0 : Int) < ((j + 1 : Nat) : Int)) = true := decide_eq_true (by omega)
                  have hz : (0 : Int) < ((j + 1 : Nat) : Int) := by omega
                  have hjn : (j : Int) < (n : Int) := by omega
                  have hj0 : (0 : Int) ≤ (j : Int) := by omega
                  obtain ⟨e1, e2⟩ := HPR2.out j rfl
                  have HPP : Hid (1 ≤ pt ∧ pt ≤ 1099511627776) := by
                    rcases HP.out with ⟨h, _⟩ | ⟨_, _, h, h'⟩
                    · omega
                    · exact ⟨h, h'⟩
                  obtain ⟨hp1, hp2⟩ := HPP.out
                  by_cases h6 : qf ≤ pt
                  · have d6 : decide (qf ≤ pt) = true := decide_eq_true h6
                    have HBAD : Hid (b = false) := by show _ = _; rw [← HE.out, HD.out, rightB_bad (by simp only; omega)]
                    clear HE HP
                    go_wp2
                    go_quiet (fail)
                    go_wp2
                    go_ret
                    exact ⟨by rw [HBAD.out]; rfl, below_drews HB2.out _⟩
                  · have d6 : decide (qf ≤ pt) = false := decide_eq_false h6
                    by_cases h7 : qf - 1 = pt
                    · have h7' : (qf - 1 == pt) = true := by simpa using h7
                      by_cases h8 : qi = pi
                      · have h8' : (qi == pi) = true := by simpa using h8
                        have HBAD : Hid (b = false) := by show _ = _; rw [← HE.out, HD.out, rightB_bad (by simp only; omega)]
                        clear HE HP
                        go_wp2
                        go_quiet (fail)
                        go_wp2
                        go_ret
                        exact ⟨by rw [HBAD.out]; rfl, below_drews HB2.out _⟩
                      · have h8' : (qi == pi) = false := by simpa using h8
                        have HX : Hid (rightB ⟨qf, qt, qi⟩ (l.drop (j + 1 + 1)) = b) := by
                          show _ = _
                          rw [← HE.out, HD.out, rightB_good ⟨by simp only; omega, by simp only; omega, by simp only; omega, by simp only; omega, by simp only; omega, by simp only; omega⟩]
                        clear HE HP
                        go_wp2
                        go_quiet (fail)
                        go_wp2
                        go_roundw
                        case rel => exact ⟨j + 1 + 1, ⟨qf, qt, qi⟩, by omega, by go_num, HX, .inr ⟨by omega, HQ.out, by simp only; omega, by simp only; omega⟩, below_drews HB2.out _⟩
                        case measure => simp [intOf]; omega
                    · have h7' : (qf - 1 == pt) = false := by simpa using h7
                      have HX : Hid (rightB ⟨qf, qt, qi⟩ (l.drop (j + 1 + 1)) = b) := by
                        show _ = _
                        rw [← HE.out, HD.out, rightB_good ⟨by simp only; omega, by simp only; omega, by simp only; omega, by simp only; omega, by simp only; omega, by simp only; omega⟩]
                      clear HE HP
                      go_wp2
                      go_quiet (fail)
                      go_wp2
                      go_roundw
                      case rel => exact ⟨j + 1 + 1, ⟨qf, qt, qi⟩, by omega, by go_num, HX, .inr ⟨by omega, HQ.out, by simp only; omega, by simp only; omega⟩, below_drews HB2.out _⟩
                      case measure => simp [intOf]; omega
    · have hnl : ¬ (k : Int) < (n : Int) := by omega
      have HOK : Hid (b = true) := by
        show _ = _
        rw [← HE.out, List.drop_of_length_le (by rw [HR.out.size]; omega)]
        rfl
      clear HE HP
      go_wp2
      go_ret
      exact ⟨by rw [HOK.out]; rfl, HB.out⟩
end Go.Proofs.YtbloomepdchjhaaDoor
