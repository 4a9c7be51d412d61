/- grapevineref08.Count. -/
import Derived.Test.YthelgjpkgnffeabSpRefR
namespace Go.Proofs.Ythelgjpkgnffeab
open Go.RowKit

set_option maxRecDepth 100000 in
set_option maxHeartbeats 1000000 in
theorem ref_Count (a : Option Addr) (n cap : Nat) (l : List Sp) (x : Int) (w : World) (hr : SpsRd w a n l) (hn : n ≤ maxLen) : Calls Try.prog 14 #[.slice a n cap, .int .i64 x] w fun e w' => e = .returned (.int .i64 (countR l x)) ∧ Below w.heap.size w w' := by
  have HR : Hid (SpsRd w a n l) := hr
  have HN : Hid (n ≤ maxLen) := hn
  obtain ⟨b, HF⟩ : ∃ b, Hid (b = countR l x) := ⟨_, rfl⟩
  rw [← HF.out]
  unfold maxLen at hn
  clear hr
  go_enter Try.func14, Try.ntmps14
  go_wp2
  cases hrb : rightB Sp.zr l with
  | false =>
    have HX : Hid (b = 0) := by show _ = _; rw [HF.out, countR_bad hrb]
    have HRB : Hid (rightB Sp.zr l = false) := hrb
    clear hrb
    go_loopw [5, 6] (fun t5 t6 wr => t5 = .int .i64 0 ∧ t6 = .int .i64 0 ∧ Hid (Below w.heap.size w wr)) (fun _ _ _ => 0)
    case atStart => exact ⟨rfl, rfl, Below.refl _ _⟩
    case round =>
      obtain ⟨rfl, rfl, HB⟩ := hrel
      go_wp2_with fail
      refine (ref_Right a n cap l wr (HR.out.below HB.out) HN.out).mono ?_
      rw [HRB.out]
      rintro e w1 ⟨rfl, hb1⟩
      have HB1 : Hid (Below w.heap.size w w1) := HB.out.trans (hb1.mono HB.out.size)
      clear hb1
      go_wp2
      go_ret
      exact ⟨by rw [HX.out]; rfl, HB1.out⟩
  | true =>
    have HX : Hid (countS l x = b) := by show _ = _; rw [HF.out, countR_ok hrb]
    have HRS : Hid (RightS Sp.zr l) := (rightB_iff _ _).1 hrb
    have HRB : Hid (rightB Sp.zr l = true) := hrb
    clear hrb
    go_loopw [5, 6] (fun t5 t6 wr => ∃ (k : Nat) (p : Sp) (c : Int), k ≤ n ∧ t6 = .int .i64 (k : Int) ∧ t5 = .int .i64 c ∧ Hid (c + countS (l.drop k) x = b) ∧ Hid (0 ≤ c ∧ c ≤ p.to ∧ p.to ≤ 1099511627776) ∧ Hid (RightS p (l.drop k)) ∧ Hid (Below w.heap.size w wr)) (fun _ t6 _ => n - (intOf t6).toNat)
    case atStart => exact ⟨0, Sp.zr, 0, by omega, rfl, rfl, by show _ = _; rw [← HX.out]; simp, ⟨by omega, by decide, by decide⟩, HRS, Below.refl _ _⟩
    case round =>
      obtain ⟨k, p, c, hk, rfl, rfl, HE, HP, HQ, HB⟩ := hrel
      go_wp2_with fail
      refine (ref_Right a n cap l wr (HR.out.below HB.out) HN.out).mono ?_
      rw [HRB.out]
      rintro e w1 ⟨rfl, hb1⟩
      have HB1 : Hid (Below w.heap.size w w1) := HB.out.trans (hb1.mono HB.out.size)
      clear hb1
      by_cases hlt : k < n
      · have hlt' : (k : Int) < (n : Int) := by omega
        have h0k : (0 : Int) ≤ (k : Int) := by omega
        obtain ⟨g, o, rfl, hg, q, hq, c0, c1, c2⟩ := (HR.out.below HB1.out).at_ k hlt
        have HD : l.drop k = q :: l.drop (k + 1) := drop_at hq
        have HQ' := HQ.out
        rw [HD] at HQ'
        obtain ⟨q1, q2, q3, q4, q5, q6, q7⟩ := HQ'
        have HQ7 : Hid (RightS q (l.drop (k + 1))) := q7
        have HDD : Hid (l.drop k = q :: l.drop (k + 1)) := HD
        clear hq hg q6 q7 HQ HD
        obtain ⟨qf, qt, qi⟩ := q
        simp only at c0 c1 c2 q1 q2 q3 q4 q5
        obtain ⟨p1, p2, p3⟩ := HP.out
        by_cases h1 : qi = x
        · subst h1
          have HN2 : Hid (c + qt - qf + 1 + countS (l.drop (k + 1)) qi = b) := by
            show _ = _
            rw [← HE.out, HDD.out, countS, if_pos rfl]
            simp only
            omega
          have HP2 : Hid (0 ≤ c + qt - qf + 1 ∧ c + qt - qf + 1 ≤ qt ∧ qt ≤ 1099511627776) := ⟨by omega, by omega, by omega⟩
          clear HE HP
          go_wp2
          go_quiet (fail)
          go_wp2
          go_roundw
          case rel => exact ⟨k + 1, ⟨qf, qt, qi⟩, c + qt - qf + 1, by omega, by go_num, by go_num, HN2, HP2, HQ7, below_drews HB1.out _⟩
          case measure => simp [intOf]; omega
        · have h1' : (qi == x) = false := by simpa using h1
          have HN2 : Hid (c + countS (l.drop (k + 1)) x = b) := by
            show _ = _
            rw [← HE.out, HDD.out, countS, if_neg h1]
            omega
          have HP2 : Hid (0 ≤ c ∧ c ≤ qt ∧ qt ≤ 1099511627776) := ⟨by omega, by omega, by omega⟩
          clear HE HP
          go_wp2
          go_roundw
          case rel => exact ⟨k + 1, ⟨qf, qt, qi⟩, c, by omega, by go_num, rfl, HN2, HP2, HQ7, HB1⟩
          case measure => simp [intOf]; omega
      · have hnl : ¬ (k : Int) < (n : Int) := by omega
        have HX2 : Hid (b = c) := by
          show _ = _
          rw [← HE.out, List.drop_of_length_le (by rw [HR.out.size]; omega), countS]
          omega
        clear HE HP
        go_wp2
        go_ret
        exact ⟨by rw [HX2.out]; rfl, HB1.out⟩
end Go.Proofs.Ythelgjpkgnffeab
