/- grapevineref08.Horizon. -/
import Derived.Test.YthelgjpkgnffeacSpRefR
namespace Go.Proofs.Ythelgjpkgnffeac
open Go.RowKit

def refH : List Sp → Int → Int
  | [], t => t
  | s :: l, t => refH l (if s.fr ≤ t + 1 ∧ t < s.to then s.to else t)
theorem refH_yes {s : Sp} {l : List Sp} {t : Int} (h : s.fr ≤ t + 1 ∧ t < s.to) : refH (s :: l) t = refH l s.to := by rw [refH, if_pos h]
theorem refH_no {s : Sp} {l : List Sp} {t : Int} (h : ¬ (s.fr ≤ t + 1 ∧ t < s.to)) : refH (s :: l) t = refH l t := by rw [refH, if_neg h]
theorem refH_C : ∀ (l : List Sp) (p : Sp) (t : Int), RightS p l → t + 1 ≤ p.to → refH l t = t
  | [], _, _, _, _ => rfl
  | s :: l, p, t, ⟨h1, h2, h3, h4, h5, h6, h7⟩, h => by
    rw [refH_no (by omega)]
    exact refH_C l s t h7 (by omega)
theorem refH_A : ∀ (l : List Sp) (p : Sp), RightS p l → refH l p.to = horS l (p.to + 1) - 1
  | [], p, _ => by rw [refH, horS]; omega
  | s :: l, p, ⟨h1, h2, h3, h4, h5, h6, h7⟩ => by
    rw [horS]
    by_cases h : p.to + 1 < s.fr
    · rw [if_pos h, refH_no (by omega), refH_C l s _ h7 (by omega)]; omega
    · rw [if_neg h, refH_yes (by omega)]
      exact refH_A l s h7
theorem refH_B (f : Int) : ∀ (l : List Sp) (p : Sp), RightS p l → p.to < f → refH l (f - 1) = horS (behindS l f) f - 1
  | [], _, _, _ => rfl
  | s :: l, p, ⟨h1, h2, h3, h4, h5, h6, h7⟩, hf => by
    rw [behindS]
    by_cases hs : s.to < f
    · rw [if_pos hs, refH_no (by omega)]
      exact refH_B f l s h7 hs
    · rw [if_neg hs, horS]
      by_cases h : f < s.fr
      · rw [if_pos h, refH_no (by omega), refH_C l s _ h7 (by omega)]
      · rw [if_neg h, refH_yes (by omega)]
        exact refH_A l s h7

set_option maxRecDepth 100000 in
set_option maxHeartbeats 1000000 in
theorem ref_Horizon (a : Option Addr) (n cap : Nat) (l : List Sp) (f : Int) (w : World) (hr : SpsRd w a n l) (hn : n ≤ maxLen) :
    Calls Try.prog 17 #[.slice a n cap, .int .i64 f] w fun e w' => e = .returned (.tuple #[.int .i64 (horN l f), .int .i64 (horE l f)]) ∧ Below w.heap.size w w' := by
  have HR : Hid (SpsRd w a n l) := hr
  have HN : Hid (n ≤ maxLen) := hn
  obtain ⟨x, HXN⟩ : ∃ x, Hid (x = horN l f) := ⟨_, rfl⟩
  obtain ⟨y, HXE⟩ : ∃ x, Hid (x = horE l f) := ⟨_, rfl⟩
  rw [← HXN.out, ← HXE.out]
  unfold maxLen at hn
  clear hr
  have HBAD : Hid (horB l f = false → x = 0 ∧ y = 2) := fun hz => ⟨HXN.out.trans (hor_bad hz).1, HXE.out.trans (hor_bad hz).2⟩
  go_enter Try.func17, Try.ntmps17
  go_wp2_with fail
  refine (ref_Right a n cap l w HR.out HN.out).mono ?_
  rintro e w1 ⟨rfl, hb1⟩
  have HB1 : Hid (Below w.heap.size w w1) := hb1
  clear hb1
  cases hrl : rightB Sp.zr l with
  | false =>
    have HX : Hid (x = 0 ∧ y = 2) := HBAD.out (by unfold horB; rw [hrl]; rfl)
    clear hrl
    go_wp2
    go_returns
    exact ⟨by rw [HX.out.1, HX.out.2]; rfl, HB1.out⟩
  | true =>
    by_cases hf1 : f < 1
    · have HX : Hid (x = 0 ∧ y = 2) := HBAD.out (by unfold horB; rw [(mayB_not _ _).2 (by omega), Bool.and_false])
      clear hrl
      go_wp2
      go_returns
      exact ⟨by rw [HX.out.1, HX.out.2]; rfl, HB1.out⟩
    · by_cases hf2 : 1099511627776 < f
      · have HX : Hid (x = 0 ∧ y = 2) := HBAD.out (by unfold horB; rw [(mayB_not _ _).2 (by omega), Bool.and_false])
        clear hrl
        go_wp2
        go_returns
        exact ⟨by rw [HX.out.1, HX.out.2]; rfl, HB1.out⟩
      · have HRS : Hid (RightS Sp.zr l) := (rightB_iff _ _).1 hrl
        have HX : Hid (x = refH l (f - 1) ∧ y = 0) := by
          have hz : horB l f = true := by unfold horB; rw [hrl, (mayB_iff _ _).2 ⟨by omega, by omega, by omega⟩]; rfl
          have hb := refH_B f l Sp.zr HRS.out (by simp only [Sp.zr]; omega)
          exact ⟨by rw [HXN.out, (hor_ok hz).1, hb], by rw [HXE.out, (hor_ok hz).2]⟩
        have HFIT : Hid (∀ q ∈ l, 1 ≤ q.fr ∧ q.fr ≤ 1099511627776 ∧ q.fr ≤ q.to ∧ q.to ≤ 1099511627776 ∧ 1 ≤ q.is ∧ q.is ≤ 3) := RightS_fits l Sp.zr (by decide) HRS.out
        clear hrl
        go_wp2
        go_loopw [6, 7] (fun t6 t7 wr => ∃ (k : Nat) (z : Int), k ≤ n ∧ t7 = .int .i64 (k : Int) ∧ t6 = .int .i64 z ∧ Hid (x = refH (l.drop k) z ∧ y = 0) ∧ Hid (0 ≤ z ∧ z ≤ 1099511627776) ∧ Hid (Below w.heap.size w wr)) (fun _ t7 _ => n - (intOf t7).toNat)
        case atStart => exact ⟨0, f - 1, by omega, rfl, by go_num, HX, ⟨by omega, by omega⟩, HB1⟩
        case round =>
          obtain ⟨k, z, hk, rfl, rfl, HE, HZ, HB⟩ := hrel
          obtain ⟨z1, z2⟩ := HZ.out
          by_cases hlt : k < n
          · have hlt' : (k : Int) < (n : Int) := by omega
            have h0k : (0 : Int) ≤ (k : Int) := by omega
            obtain ⟨g, o, rfl, hg, q, hq, c0, c1, c2⟩ := (HR.out.below HB.out).at_ k hlt
            have HD : Hid (l.drop k = q :: l.drop (k + 1)) := drop_at hq
            have hfit := HFIT.out q (List.mem_of_getElem? hq)
            clear hq hg
            obtain ⟨qf, qt, qi⟩ := q
            simp only at c0 c1 c2 hfit
            obtain ⟨f1, f2, f3, f4, _, _⟩ := hfit
            by_cases h1 : qf ≤ z + 1
            · by_cases h2 : z < qt
              · have HY : Hid (x = refH (l.drop (k + 1)) qt ∧ y = 0) := by
                  have := HE.out
                  rw [HD.out, refH_yes ⟨h1, h2⟩] at this
                  exact this
                clear HE
                go_wp2
                go_roundw
                case rel => exact ⟨k + 1, qt, by omega, by go_num, rfl, HY, ⟨by omega, by omega⟩, HB⟩
                case measure => simp [intOf]; omega
              · have HY : Hid (x = refH (l.drop (k + 1)) z ∧ y = 0) := by
                  have := HE.out
                  rw [HD.out, refH_no (by simp only; omega)] at this
                  exact this
                clear HE
                go_wp2
                go_roundw
                case rel => exact ⟨k + 1, z, by omega, by go_num, rfl, HY, ⟨by omega, by omega⟩, HB⟩
                case measure => simp [intOf]; omega
            · have HY : Hid (x = refH (l.drop (k + 1)) z ∧ y = 0) := by
                have := HE.out
                rw [HD.out, refH_no (by simp only; omega)] at this
                exact this
              clear HE
              go_wp2
              go_roundw
              case rel => exact ⟨k + 1, z, by omega, by go_num, rfl, HY, ⟨by omega, by omega⟩, HB⟩
              case measure => simp [intOf]; omega
          · have hnl : ¬ (k : Int) < (n : Int) := by omega
            have HY : Hid (x = z ∧ y = 0) := by
              have := HE.out
              rw [List.drop_of_length_le (by rw [HR.out.size]; omega), refH] at this
              exact this
            clear HE
            go_wp2
            go_returns
            exact ⟨by rw [HY.out.1, HY.out.2]; rfl, HB.out⟩
end Go.Proofs.Ythelgjpkgnffeac
