/- span.mayBe, span.Horizon, and what the laws ask first. -/
import Derived.Test.YtcgjpkdpemlmbaaSpJoin
namespace Go.Proofs.Ytcgjpkdpemlmbaa
open Go.RowKit

def mayB (f t : Int) : Bool := decide (1 ≤ f ∧ f ≤ t ∧ t ≤ 1099511627776)
theorem mayB_iff (f t : Int) : mayB f t = true ↔ 1 ≤ f ∧ f ≤ t ∧ t ≤ 1099511627776 := by simp [mayB]
theorem mayB_not (f t : Int) : mayB f t = false ↔ ¬ (1 ≤ f ∧ f ≤ t ∧ t ≤ 1099511627776) := by simp [mayB]
theorem span_mayBe (f t : Int) (w : World) : Calls Try.prog 31 #[.int .i64 f, .int .i64 t] w fun e w' => e = .returned (.bool (mayB f t)) ∧ w' = w := by
  go_enter Try.func31, Try.ntmps31
  by_cases h1 : 1 ≤ f
  · by_cases h2 : f ≤ t
    · by_cases h3 : t ≤ 1099511627776
      · have HK : Hid (mayB f t = true) := (mayB_iff _ _).2 ⟨h1, h2, h3⟩
        go_wp2
        go_ret
        exact ⟨by rw [HK.out]; rfl, rfl⟩
      · have HK : Hid (mayB f t = false) := (mayB_not _ _).2 (by omega)
        go_wp2
        go_ret
        exact ⟨by rw [HK.out]; rfl, rfl⟩
    · have HK : Hid (mayB f t = false) := (mayB_not _ _).2 (by omega)
      go_wp2
      go_ret
      exact ⟨by rw [HK.out]; rfl, rfl⟩
  · have HK : Hid (mayB f t = false) := (mayB_not _ _).2 (by omega)
    go_wp2
    go_ret
    exact ⟨by rw [HK.out]; rfl, rfl⟩

/-- The tick behind those that are known, from one on. -/
def horS : List Sp → Int → Int
  | [], n => n
  | s :: l, n => if n < s.fr then n else horS l (s.to + 1)
def horB (l : List Sp) (f : Int) : Bool := rightB Sp.zr l && mayB f 1099511627776
def horN (l : List Sp) (f : Int) : Int := if horB l f = true then horS (behindS l f) f - 1 else 0
def horE (l : List Sp) (f : Int) : Int := if horB l f = true then 0 else 2
theorem hor_bad {l : List Sp} {f : Int} (h : horB l f = false) : horN l f = 0 ∧ horE l f = 2 := by
  unfold horN horE
  rw [h]
  exact ⟨rfl, rfl⟩
theorem hor_ok {l : List Sp} {f : Int} (h : horB l f = true) : horN l f = horS (behindS l f) f - 1 ∧ horE l f = 0 := by
  unfold horN horE
  rw [h]
  exact ⟨rfl, rfl⟩

set_option maxRecDepth 100000 in
set_option maxHeartbeats 1000000 in
theorem span_Horizon (a : Option Addr) (n cap : Nat) (l : List Sp) (f : Int) (w : World) (hr : SpsRd w a n l) (hc : n ≤ cap) (hcm : cap ≤ maxLen) :
    Calls Try.prog 25 #[.slice a n cap, .int .i64 f] w fun e w' => e = .returned (.tuple #[.int .i64 (horN l f), .int .i64 (horE l f)]) ∧ Below w.heap.size w w' := by
  have HR : Hid (SpsRd w a n l) := hr
  have HC : Hid (n ≤ cap ∧ cap ≤ maxLen) := ⟨hc, hcm⟩
  obtain ⟨x, HXN⟩ : ∃ x, Hid (x = horN l f) := ⟨_, rfl⟩
  obtain ⟨y, HXE⟩ : ∃ x, Hid (x = horE l f) := ⟨_, rfl⟩
  rw [← HXN.out, ← HXE.out]
  clear hr hc hcm
  go_enter Try.func25, Try.ntmps25
  go_wp2_with fail
  refine (span_Right a n cap l w HR.out (Nat.le_trans HC.out.1 HC.out.2)).mono ?_
  rintro e w1 ⟨rfl, hb1⟩
  have HB1 : Hid (Below w.heap.size w w1) := hb1
  clear hb1
  cases hrl : rightB Sp.zr l with
  | false =>
    have HX : Hid (x = 0 ∧ y = 2) := by
      have hz : horB l f = false := by unfold horB; rw [hrl]; rfl
      exact ⟨HXN.out.trans (hor_bad hz).1, HXE.out.trans (hor_bad hz).2⟩
    clear hrl
    go_wp2
    go_returns
    exact ⟨by rw [HX.out.1, HX.out.2]; rfl, HB1.out⟩
  | true =>
    go_wp2_with fail
    refine (span_mayBe f 1099511627776 w1).mono ?_
    rintro e w2 ⟨rfl, rfl⟩
    cases hmb : mayB f 1099511627776 with
    | false =>
      have HX : Hid (x = 0 ∧ y = 2) := by
        have hz : horB l f = false := by unfold horB; rw [hmb, Bool.and_false]
        exact ⟨HXN.out.trans (hor_bad hz).1, HXE.out.trans (hor_bad hz).2⟩
      clear hrl hmb
      go_wp2
      go_returns
      exact ⟨by rw [HX.out.1, HX.out.2]; rfl, HB1.out⟩
    | true =>
      have HX : Hid (x = horS (behindS l f) f - 1 ∧ y = 0) := by
        have hz : horB l f = true := by unfold horB; rw [hrl, hmb]; rfl
        exact ⟨HXN.out.trans (hor_ok hz).1, HXE.out.trans (hor_ok hz).2⟩
      have HRS : Hid (RightS Sp.zr l) := (rightB_iff _ _).1 hrl
      obtain ⟨hf1, _, _⟩ := (mayB_iff _ _).1 hmb
      have hf2 : f ≤ 1099511627776 := ((mayB_iff _ _).1 hmb).2.1
      clear hrl hmb
      go_wp2_with fail
      refine (span_behind a n cap l f w2 w (HR.out.below HB1.out) HR.out HC.out.1 HC.out.2).mono ?_
      rintro e w3 ⟨⟨a2, n2, c2, rfl, HR2, HR3, HC2⟩, rfl⟩
      have HFIT : Hid (∀ q ∈ behindS l f, 1 ≤ q.fr ∧ q.fr ≤ 1099511627776 ∧ q.fr ≤ q.to ∧ q.to ≤ 1099511627776 ∧ 1 ≤ q.is ∧ q.is ≤ 3) := fun q hq => RightS_fits l Sp.zr (by decide) HRS.out q (behindS_sub _ _ q hq)
      generalize behindS l f = m at *
      have hn2 : n2 ≤ 2 ^ 63 - 1 := Nat.le_trans HC2.out.1 HC2.out.2
      go_wp2
      go_loopw [6, 22] (fun t6 t22 wr => ∃ (k : Nat) (z : Int), k ≤ n2 ∧ t22 = .int .i64 (k : Int) ∧ t6 = .int .i64 z ∧ Hid (x = horS (m.drop k) z - 1 ∧ y = 0) ∧ Hid (1 ≤ z ∧ z ≤ 1099511627777) ∧ Hid (Below w.heap.size w wr)) (fun _ t22 _ => n2 - (intOf t22).toNat)
      case atStart => exact ⟨0, f, by omega, rfl, rfl, HX, ⟨by omega, by omega⟩, HB1⟩
      case round =>
        obtain ⟨k, z, hk, rfl, rfl, HE, HZ, HB⟩ := hrel
        obtain ⟨z1, z2⟩ := HZ.out
        by_cases hlt : k < n2
        · have hlt' : (k : Int) < (n2 : Int) := by omega
          obtain ⟨g, o, rfl, hg, q, hq, c0, c1, c2⟩ := (HR3.out.below HB.out).at_ k hlt
          have HD : Hid (m.drop k = q :: m.drop (k + 1)) := drop_at hq
          have hfit := HFIT.out q (List.mem_of_getElem? hq)
          clear hq hg
          obtain ⟨qf, qt, qi⟩ := q
          simp only at c0 c1 c2 hfit
          obtain ⟨f1, f2, f3, f4, _, _⟩ := hfit
          have HB4 : Hid (Below w.heap.size w (wr.alloc (.cells #[.int .i64 qf, .int .i64 qt, .int .i64 qi] 42))) := HB.out.alloc HB.out.size _
          by_cases h1 : z < qf
          · have HY : Hid (x = z - 1 ∧ y = 0) := by
              have := HE.out
              rw [HD.out, horS, if_pos h1] at this
              exact this
            clear HE
            go_wp2
            go_returns
            exact ⟨by rw [HY.out.1, HY.out.2]; rfl, HB4.out⟩
          · have HY : Hid (x = horS (m.drop (k + 1)) (qt + 1) - 1 ∧ y = 0) := by
              have := HE.out
              rw [HD.out, horS, if_neg h1] at this
              exact this
            clear HE
            go_wp2
            go_roundw
            case rel => exact ⟨k + 1, qt + 1, by omega, by go_num, by go_num, HY, ⟨by omega, by omega⟩, HB4⟩
            case measure => simp [intOf]; omega
        · have hnl : ¬ (k : Int) < (n2 : Int) := by omega
          have HY : Hid (x = z - 1 ∧ y = 0) := by
            have := HE.out
            rw [List.drop_of_length_le (by rw [HR3.out.size]; omega), horS] at this
            exact this
          clear HE
          go_wp2
          go_returns
          exact ⟨by rw [HY.out.1, HY.out.2]; rfl, HB.out⟩

theorem live_math {l : List Sp} (h : RightS Sp.zr l) (ha : ∀ t, atS l t = max (atS [⟨1, 5, 1⟩] t) (atS [⟨3, 9, 2⟩] t)) : l = [⟨1, 2, 1⟩, ⟨3, 9, 2⟩] := by
  refine canonS _ _ Sp.zr Sp.zr h (by simp [RightS, Sp.zr]) fun t => ?_
  rw [ha t]
  simp only [atS]
  (repeat' split) <;> omega
theorem live_hor : horN [⟨1, 2, 1⟩, ⟨3, 9, 2⟩] 1 = 9 ∧ horE [⟨1, 2, 1⟩, ⟨3, 9, 2⟩] 1 = 0 := by decide

theorem Bk.second (w : World) (o : Obj) (c : Array Value) (t : TypeId) : Bk ((w.alloc o).alloc (.cells c t)) (w.heap.size + 1) c t := by
  have h := Bk.new (w.alloc o) c t
  rwa [show (w.alloc o).heap.size = w.heap.size + 1 from by simp] at h

set_option maxRecDepth 100000 in
theorem law_live (w : World) : Calls Try.prog 10 #[] w fun e w' => e = .returned (.bool true) ∧ Below w.heap.size w w' := by
  go_enter Try.func10, Try.ntmps10
  go_wp2_with fail
  have b1 : Bk ((w.alloc (.cells (Sp.cells ⟨1, 5, 1⟩) 42)).alloc (.cells (Sp.cells ⟨3, 9, 2⟩) 42)) w.heap.size (Sp.cells ⟨1, 5, 1⟩) 42 := (Bk.new w _ _).stay (below_new _ _)
  have b2 : Bk ((w.alloc (.cells (Sp.cells ⟨1, 5, 1⟩) 42)).alloc (.cells (Sp.cells ⟨3, 9, 2⟩) 42)) (w.heap.size + 1) (Sp.cells ⟨3, 9, 2⟩) 42 := Bk.second w _ _ _
  refine (span_Join (some ⟨w.heap.size, 0, none⟩) (some ⟨w.heap.size + 1, 0, none⟩) 1 1 1 1 [⟨1, 5, 1⟩] [⟨3, 9, 2⟩] ((w.alloc (.cells (Sp.cells ⟨1, 5, 1⟩) 42)).alloc (.cells (Sp.cells ⟨3, 9, 2⟩) 42)) (Sps.one b1 (Nat.zero_le _)).rd (Sps.one b2 (Nat.zero_le _)).rd (Nat.le_refl _) (by decide) (Nat.le_refl _) (by decide)).mono ?_
  rintro e w1 ⟨hj, hb1⟩
  have HB0 : Hid (Below w.heap.size w w1) := ((below_new w _).alloc (by simp) _).trans (hb1.mono (by simp; omega))
  clear b1 b2 hb1
  rcases hj.out with ⟨hbad, _⟩ | ⟨_, _, v, l, rfl, hv, hr, ht⟩
  · exfalso
    rcases hbad with h | h <;> exact absurd h (by decide)
  · have hl := live_math hr ht
    subst hl
    obtain ⟨a, c, rfl, hc⟩ := hv.form
    obtain ⟨g, o, rfl, hg, q, hq, c0, c1, c2⟩ := hv.rd.at_ 0 (by decide)
    simp only [List.getElem?_cons_zero, Option.some.injEq] at hq
    subst hq
    have HV : Hid (Sps w1 _ (.slice (some ⟨g, o, none⟩) 2 c) [⟨1, 2, 1⟩, ⟨3, 9, 2⟩]) := hv
    have hcm : c ≤ maxLen := by
      rcases hv.row.2 with ⟨h1, _⟩ | ⟨g', c', cur, h1, _, _, _, h5, _⟩
      · cases h1
      · simp only [Value.slice.injEq] at h1
        rw [h1.2.2]
        exact h5
    have HC : Hid (2 ≤ c ∧ c ≤ maxLen) := ⟨hc, hcm⟩
    clear hj hr ht hv hc hcm
    go_wp2_with fail
    refine (span_Horizon (some ⟨g, o, none⟩) 2 c [⟨1, 2, 1⟩, ⟨3, 9, 2⟩] 1 w1 HV.out.rd HC.out.1 HC.out.2).mono ?_
    rw [live_hor.1, live_hor.2]
    rintro e w2 ⟨rfl, hb2⟩
    have HB2 : Hid (Below w.heap.size w w2) := HB0.out.trans (hb2.mono HB0.out.size)
    simp only [Nat.zero_mul, Nat.add_zero] at c0 c1 c2
    have d0 : w2.cell? ⟨g, o, none⟩ = some (.int .i64 1) := (hb2.cell (p := ⟨g, o, none⟩) hg).trans c0
    have d1 : w2.cell? ⟨g, o + 1, none⟩ = some (.int .i64 2) := (hb2.cell (p := ⟨g, o + 1, none⟩) hg).trans c1
    have d2 : w2.cell? ⟨g, o + 2, none⟩ = some (.int .i64 1) := (hb2.cell (p := ⟨g, o + 2, none⟩) hg).trans c2
    clear hb2 c0 c1 c2
    go_wp2
    go_ret
    exact ⟨rfl, HB2.out⟩
end Go.Proofs.Ytcgjpkdpemlmbaa
