/- grapevineref08: Right, Count. -/
import Derived.Test.YtidihfhgnjkmaaaSpRef
namespace Go.Proofs.Ytidihfhgnjkmaaa
open Go.RowKit

set_option maxRecDepth 100000 in
set_option maxHeartbeats 4000000 in
theorem ref_Right (a : Option Addr) (n cap : Nat) (l : List Sp) (w : World) (hr : SpsRd w a n l) (hn : n ≤ maxLen) : Calls Try.prog 27 #[.slice a n cap] w fun e w' => e = .returned (.bool (rightB Sp.zr l)) ∧ Below w.heap.size w w' := by
  have HR : Hid (SpsRd w a n l) := hr
  obtain ⟨b, HF⟩ : ∃ b, Hid (b = rightB Sp.zr l) := ⟨_, rfl⟩
  rw [← HF.out]
  unfold maxLen at hn
  clear hr
  go_enter Try.func27, Try.ntmps27
  go_wp2
  go_loopw [3] (fun t3 wr => ∃ (k : Nat) (p : Sp), k ≤ n ∧ t3 = .int .i64 (k : Int) ∧ Hid (rightB p (l.drop k) = b) ∧ Hid ((k = 0 ∧ p = Sp.zr) ∨ (0 < k ∧ l[k - 1]? = some p ∧ 1 ≤ p.to ∧ p.to ≤ 1099511627776)) ∧ Hid (Below w.heap.size w wr)) (fun t3 _ => n - (intOf t3).toNat)
  case atStart => exact ⟨0, Sp.zr, by omega, rfl, HF.out.symm, .inl ⟨rfl, rfl⟩, Below.refl _ _⟩
  case round =>
    obtain ⟨k, p, hk, rfl, HE, HP, HB⟩ := hrel
    by_cases hlt : k < n
    · have hlt' : (k : Int) < (n : Int) := by omega
      have h0k : (0 : Int) ≤ (k : Int) := by omega
      obtain ⟨g, o, rfl, hg, q, hq, c0, c1, c2⟩ := (HR.out.below HB.out).at_ k hlt
      have HD : Hid (l.drop k = q :: l.drop (k + 1)) := drop_at hq
      have HQ : Hid (l[k]? = some q) := hq
      have HPRE : Hid (∀ w', Below wr.heap.size wr w' → ∀ j, k = j + 1 → w'.cell? ⟨g, o + j * 3 + 1, none⟩ = some (.int .i64 p.to) ∧ w'.cell? ⟨g, o + j * 3 + 2, none⟩ = some (.int .i64 p.is)) := by
        intro w' hb' j hj
        rcases HP.out with ⟨h, _⟩ | ⟨_, h, _, _⟩
        · omega
        · obtain ⟨g', o', ha, hg', q', hq', _, d1, d2⟩ := ((HR.out.below HB.out).below hb').at_ j (by omega)
          simp only [Option.some.injEq, Addr.mk.injEq] at ha
          obtain ⟨rfl, rfl, _⟩ := ha
          rw [show k - 1 = j from by omega] at h
          rw [h] at hq'
          simp only [Option.some.injEq] at hq'
          subst hq'
          exact ⟨d1, d2⟩
      clear hq
      obtain ⟨qf, qt, qi⟩ := q
      obtain ⟨pf, pt, pi⟩ := p
      simp only at c0 c1 c2
      by_cases h1 : qi < 1
      · have d1 : decide (qi < 1) = true := decide_eq_true h1
        have HBAD : Hid (b = false) := by show _ = _; rw [← HE.out, HD.out, rightB_bad (by simp only; omega)]
        clear HE
        go_wp2
        go_quiet (fail)
        go_wp2
        go_ret
        exact ⟨by rw [HBAD.out]; rfl, below_drews HB.out _⟩
      · have d1 : decide (qi < 1) = false := decide_eq_false h1
        by_cases h2 : 3 < qi
        · have d2 : decide (3 < qi) = true := decide_eq_true h2
          have HBAD : Hid (b = false) := by show _ = _; rw [← HE.out, HD.out, rightB_bad (by simp only; omega)]
          clear HE
          go_wp2
          go_quiet (fail)
          go_wp2
          go_ret
          exact ⟨by rw [HBAD.out]; rfl, below_drews HB.out _⟩
        · have d2 : decide (3 < qi) = false := decide_eq_false h2
          by_cases h3 : qf < 1
          · have d3 : decide (qf < 1) = true := decide_eq_true h3
            have HBAD : Hid (b = false) := by show _ = _; rw [← HE.out, HD.out, rightB_bad (by
              simp only
              rcases HP.out with ⟨_, h⟩ | ⟨_, _, h, _⟩
              · simp only [Sp.zr, Sp.mk.injEq] at h; omega
              · simp only at h; omega)]
            clear HE
            go_wp2
            go_quiet (fail)
            go_wp2
            go_ret
            exact ⟨by rw [HBAD.out]; rfl, below_drews HB.out _⟩
          · have d3 : decide (qf < 1) = false := decide_eq_false h3
            by_cases h4 : qt < qf
            · have d4 : decide (qt < qf) = true := decide_eq_true h4
              have HBAD : Hid (b = false) := by show _ = _; rw [← HE.out, HD.out, rightB_bad (by simp only; omega)]
              clear HE
              go_wp2
              go_quiet (fail)
              go_wp2
              go_ret
              exact ⟨by rw [HBAD.out]; rfl, below_drews HB.out _⟩
            · have d4 : decide (qt < qf) = false := decide_eq_false h4
              by_cases h5 : 1099511627776 < qt
              · have d5 : decide (1099511627776 < qt) = true := decide_eq_true h5
                have HBAD : Hid (b = false) := by show _ = _; rw [← HE.out, HD.out, rightB_bad (by simp only; omega)]
                clear HE
                go_wp2
                go_quiet (fail)
                go_wp2
                go_ret
                exact ⟨by rw [HBAD.out]; rfl, below_drews HB.out _⟩
              · have d5 : decide (1099511627776 < qt) = false := decide_eq_false h5
                go_wp2
                go_quiet (fail)
                generalize hnq : wr.drewN _ = w2
                have hbw : Below wr.heap.size wr w2 := by rw [← hnq]; exact below_drews (Below.refl _ _) _
                have HB2 : Hid (Below w.heap.size w w2) := HB.out.trans (hbw.mono HB.out.size)
                have d0 : w2.cell? ⟨g, o + k * 3, none⟩ = some (.int .i64 qf) := (hbw.cell (p := ⟨g, o + k * 3, none⟩) hg).trans c0
                have d2 : w2.cell? ⟨g, o + k * 3 + 2, none⟩ = some (.int .i64 qi) := (hbw.cell (p := ⟨g, o + k * 3 + 2, none⟩) hg).trans c2
                have HPR2 : Hid (∀ j, k = j + 1 → w2.cell? ⟨g, o + j * 3 + 1, none⟩ = some (.int .i64 pt) ∧ w2.cell? ⟨g, o + j * 3 + 2, none⟩ = some (.int .i64 pi)) := HPRE.out w2 hbw
                clear hnq hbw c0 c1 c2 HPRE HB
                by_cases hk0 : k = 0
                · subst hk0
                  have HX : Hid (rightB ⟨qf, qt, qi⟩ (l.drop (0 + 1)) = b) := by
                    show _ = _
                    rcases HP.out with ⟨_, h⟩ | ⟨h, _⟩
                    · simp only [Sp.zr, Sp.mk.injEq] at h
                      obtain ⟨rfl, rfl, rfl⟩ := h
                      rw [← HE.out, HD.out, rightB_good ⟨by simp only; omega, by simp only; omega, by simp only; omega, by simp only; omega, by simp only; omega, by simp only; omega⟩]
                    · omega
                  simp only [Nat.zero_mul, Nat.add_zero, Int.cast_ofNat_Int] at d0 d2 ⊢
                  clear HE HP
                  go_wp2
                  go_quiet (fail)
                  go_wp2
                  go_roundw
                  case rel => exact ⟨0 + 1, ⟨qf, qt, qi⟩, by omega, rfl, HX, .inr ⟨by omega, HQ.out, by simp only; omega, by simp only; omega⟩, below_drews HB2.out _⟩
                  case measure => simp [intOf]; omega
                · obtain ⟨j, rfl⟩ : ∃ j, k = j + 1 := ⟨k - 1, by omega⟩
                  have dz : decide ((0 : Int) < ((j + 1 : Nat) : Int)) = true := decide_eq_true (by omega)
                  have hz : (0 : Int) < ((j + 1 : Nat) : Int) := by omega
                  have hjn : (j : Int) < (n : Int) := by omega
                  have hj0 : (0 : Int) ≤ (j : Int) := by omega
                  obtain ⟨e1, e2⟩ := HPR2.out j rfl
                  have HPP : Hid (1 ≤ pt ∧ pt ≤ 1099511627776) := by
                    rcases HP.out with ⟨h, _⟩ | ⟨_, _, h, h'⟩
                    · omega
                    · exact ⟨h, h'⟩
                  obtain ⟨hp1, hp2⟩ := HPP.out
                  by_cases h6 : qf ≤ pt
                  · have d6 : decide (qf ≤ pt) = true := decide_eq_true h6
                    have HBAD : Hid (b = false) := by show _ = _; rw [← HE.out, HD.out, rightB_bad (by simp only; omega)]
                    clear HE HP
                    go_wp2
                    go_quiet (fail)
                    go_wp2
                    go_ret
                    exact ⟨by rw [HBAD.out]; rfl, below_drews HB2.out _⟩
                  · have d6 : decide (qf ≤ pt) = false := decide_eq_false h6
                    by_cases h7 : qf - 1 = pt
                    · have h7' : (qf - 1 == pt) = true := by simpa using h7
                      by_cases h8 : qi = pi
                      · have h8' : (qi == pi) = true := by simpa using h8
                        have HBAD : Hid (b = false) := by show _ = _; rw [← HE.out, HD.out, rightB_bad (by simp only; omega)]
                        clear HE HP
                        go_wp2
                        go_quiet (fail)
                        go_wp2
                        go_ret
                        exact ⟨by rw [HBAD.out]; rfl, below_drews HB2.out _⟩
                      · have h8' : (qi == pi) = false := by simpa using h8
                        have HX : Hid (rightB ⟨qf, qt, qi⟩ (l.drop (j + 1 + 1)) = b) := by
                          show _ = _
                          rw [← HE.out, HD.out, rightB_good ⟨by simp only; omega, by simp only; omega, by simp only; omega, by simp only; omega, by simp only; omega, by simp only; omega⟩]
                        clear HE HP
                        go_wp2
                        go_quiet (fail)
                        go_wp2
                        go_roundw
                        case rel => exact ⟨j + 1 + 1, ⟨qf, qt, qi⟩, by omega, by go_num, HX, .inr ⟨by omega, HQ.out, by simp only; omega, by simp only; omega⟩, below_drews HB2.out _⟩
                        case measure => simp [intOf]; omega
                    · have h7' : (qf - 1 == pt) = false := by simpa using h7
                      have HX : Hid (rightB ⟨qf, qt, qi⟩ (l.drop (j + 1 + 1)) = b) := by
                        show _ = _
                        rw [← HE.out, HD.out, rightB_good ⟨by simp only; omega, by simp only; omega, by simp only; omega, by simp only; omega, by simp only; omega, by simp only; omega⟩]
                      clear HE HP
                      go_wp2
                      go_quiet (fail)
                      go_wp2
                      go_roundw
                      case rel => exact ⟨j + 1 + 1, ⟨qf, qt, qi⟩, by omega, by go_num, HX, .inr ⟨by omega, HQ.out, by simp only; omega, by simp only; omega⟩, below_drews HB2.out _⟩
                      case measure => simp [intOf]; omega
    · have hnl : ¬ (k : Int) < (n : Int) := by omega
      have HOK : Hid (b = true) := by
        show _ = _
        rw [← HE.out, List.drop_of_length_le (by rw [HR.out.size]; omega)]
        rfl
      clear HE HP
      go_wp2
      go_ret
      exact ⟨by rw [HOK.out]; rfl, HB.out⟩
end Go.Proofs.Ytidihfhgnjkmaaa
