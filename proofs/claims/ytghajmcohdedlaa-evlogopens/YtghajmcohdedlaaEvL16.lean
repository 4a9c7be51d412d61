/- evlog: Open, where at most one segment is used and nothing is to be wiped. -/
import Derived.Test.YtghajmcohdedlaaEvL15
namespace Go.Proofs.Ytghajmcohdedlaa
open Go.RowKit

/-- At most one segment, with nothing behind its end. -/
def TidyOk (D : Dk) (U : List Sg) : Prop := U = [] ∨ ∃ s, U = [s] ∧ s.at_ ≤ 50000 ∧ s.en ≤ 16 ∧ wipeL D (16 - s.en) (s.at_ + s.en) false = (D, false, 0)
theorem evl_tidy (w : World) (base g gs : Nat) (wv : Value) (D : Dk) (gl gc b m ag : Nat) (U : List Sg) (uv : Value) (hi rel : Nat) (L : List Rc) (rv : Value) (h : Lg w base g gs wv D gl gc b m ag U uv hi rel L rv) (hw : D.waits.length ≤ 900000000) (ht : TidyOk D U) :
    Calls Try.prog 21 #[.pointer (some ⟨gl, 0, none⟩)] w fun e w' => e = .returned (.int .i64 0) ∧ Hid (∃ wv' uv', Lg w' base g gs wv' D gl gc b m ag U uv' hi rel L rv) ∧ Below base w w' := by
  rcases ht with rfl | ⟨s, rfl, h1, h2, h3⟩
  · refine (evl_tidy0 w base g gs wv D gl gc b m ag uv hi rel L rv h).mono ?_
    rintro e w' ⟨rfl, rfl⟩
    exact ⟨rfl, ⟨wv, uv, h⟩, Below.refl _ _⟩
  · exact evl_tidy1 w base g gs wv D gl gc b m ag s uv hi rel L rv h h1 h2 hw h3

set_option maxRecDepth 100000 in
set_option maxHeartbeats 8000000 in
theorem evl_Open (w : World) (base g gs : Nat) (wv : Value) (D : Dk) (b m r : Nat) (h : Disk w base g gs wv D) (hdn : D.down = false) (hm2 : 2 ≤ m) (hm : m ≤ 16) (hb : b + 2 + m * 16 ≤ D.sure.length) (hw : D.waits.length ≤ 900000000) (hr : (getB D b 1 0).1 = (r : Int)) (hone : (headsF D b m).length ≤ 1) (ht : ∀ p ∈ (readAllF D (headsF D b m) 0 []).2.2, r < p.1) (htd : TidyOk D (readAllF D (headsF D b m) 0 []).1) :
    Calls Try.prog 6 #[.pointer (some ⟨g, 0, none⟩), .int .i64 (b : Int), .int .i64 (m : Int)] w fun e w' => Hid (∃ gl gc wv' uv' rv' L', e = .returned (.tuple #[.pointer (some ⟨gl, 0, none⟩), .int .i64 0]) ∧ w.heap.size ≤ gl ∧ L'.map plR = (readAllF D (headsF D b m) 0 []).2.2 ∧ Lg w' base g gs wv' D gl gc b m D.age (readAllF D (headsF D b m) 0 []).1 uv' (max (readAllF D (headsF D b m) 0 []).2.1 r) r L' rv') ∧ Below base w w' := by
  have HD : Hid (Disk w base g gs wv D) := h
  have hsz := h.sz
  have HBS : Hid (base ≤ w.heap.size) := Nat.le_trans h.bg (Nat.le_of_lt h.blk.lt)
  obtain ⟨⟨RU, RH, RA⟩, HR⟩ : ∃ R, Hid (R = readAllF D (headsF D b m) 0 []) := ⟨_, rfl⟩
  rw [← HR.out] at ht htd ⊢
  simp only at ht htd ⊢
  have HDW : Hid (Calls Try.prog 16 #[.pointer (some ⟨g, 0, none⟩)] w fun e w' => e = .returned (.bool false) ∧ w' = w) := by
    have := disk_Down w base g gs wv D h
    rw [hdn] at this
    exact this
  obtain ⟨n, hn⟩ : ∃ n, n = D.sure.length := ⟨_, rfl⟩
  have HSI : Hid (Calls Try.prog 17 #[.pointer (some ⟨g, 0, none⟩)] w fun e w' => e = .returned (.int .i64 (n : Int)) ∧ w' = w) := by
    have := disk_Size w base g gs wv D h
    rw [← hn] at this
    exact this
  rw [← hn] at hb hsz
  obtain ⟨P, hP⟩ : ∃ P, P = n - 2 := ⟨_, rfl⟩
  obtain ⟨Q, hQ⟩ : ∃ Q, Q = m * 16 := ⟨_, rfl⟩
  obtain ⟨R, hR⟩ : ∃ R, R = P - Q := ⟨_, rfl⟩
  have a1 : ¬ (m : Int) < 2 := by omega
  have a2 : ¬ (16 : Int) < (m : Int) := by omega
  have a3 : ¬ (b : Int) < 0 := by omega
  have q1 : (n : Int) - 2 = (P : Int) := by omega
  have q2 : IntKind.i64.wrap (P : Int) = (P : Int) := by rw [IntKind.wrap_i64]; omega
  have q3 : (m : Int) * 16 = (Q : Int) := by omega
  have q4 : IntKind.i64.wrap (Q : Int) = (Q : Int) := by rw [IntKind.wrap_i64]; omega
  have q5 : (P : Int) - (Q : Int) = (R : Int) := by omega
  have q6 : IntKind.i64.wrap (R : Int) = (R : Int) := by rw [IntKind.wrap_i64]; omega
  have a4 : ¬ (R : Int) < (b : Int) := by omega
  have HMO := mark_Open w base g gs wv D (b : Int) 1 h
  have HN : Hid (n = D.sure.length ∧ b + 2 + m * 16 ≤ n) := ⟨hn, hb⟩
  clear h hdn hn hP hQ hR hb hsz
  go_enter Try.func6, Try.ntmps6
  go_upto_region 7 with (first
    | (go_at_call 16; refine HDW.out.mono ?_; rintro e w2 ⟨rfl, hw2⟩; rw [hw2]; clear hw2 w2)
    | (go_at_call 17; refine HSI.out.mono ?_; rintro e w2 ⟨rfl, hw2⟩; rw [hw2]; clear hw2 w2))
  clear a1 a2 a3 a4 q1 q2 q3 q4 q5 q6 HDW HSI
  go_wp2_with fail
  refine HMO.mono ?_
  rintro e w1 ⟨ht1, hb1⟩
  rcases ht1.out with ⟨hno, _⟩ | ⟨_, rfl, hc1⟩
  · exact absurd (show mayC D.sure.length (b : Int) 1 from ⟨by omega, by omega, by have := HN.out; omega⟩) hno
  · rw [Int.toNat_natCast] at hc1
    have HC1 : Hid (Cs w1 w.heap.size g b 1) := hc1
    have HD1 : Hid (Disk w1 base g gs wv D) := HD.out.stay hb1
    have HB1 : Hid (Below base w w1) := hb1.mono HBS.out
    have HSZ : Hid (w.heap.size ≤ w1.heap.size) := hb1.size
    have HAG := disk_Age w1 base g gs wv D HD1.out
    obtain ⟨W2, HW2⟩ : ∃ W2, Hid (W2 = w1.alloc (.cells #[.pointer (some ⟨g, 0, none⟩), .pointer (some ⟨w.heap.size, 0, none⟩), .int .i64 (b : Int), .int .i64 (m : Int), .int .i64 (D.age : Int), .slice none 0 0, .int .i64 0, .int .i64 0, .slice none 0 0] 56)) := ⟨_, rfl⟩
    have HBW : Hid (Below w1.heap.size w1 W2) := by (show Below _ _ _); rw [HW2.out]; exact below_alloc _ _
    have HG2 : Hid (Lg W2 base g gs wv D w1.heap.size w.heap.size b m D.age [] (.slice none 0 0) 0 0 [] (.slice none 0 0)) := by
      (show Lg _ _ _ _ _ _ _ _ _ _ _ _ _ _ _ _ _)
      refine ⟨HD1.out.stay HBW.out, ?_, HC1.out.stay HBW.out, Sgs.nil _ _, ⟨World.ownsRow_nil _ _ _ _, fun r hr => by cases hr⟩, Nat.le_trans HBS.out HSZ.out⟩
      rw [HW2.out]
      exact Blk.new _ _ _
    have HB2 : Hid (Below base w W2) := HB1.out.trans (HBW.out.mono (Nat.le_trans HBS.out HSZ.out))
    have HRD := evl_read W2 base g gs wv D w1.heap.size w.heap.size b m D.age [] (.slice none 0 0) 0 0 (.slice none 0 0) r HG2.out (by have := HN.out; have := HD.out.sz; omega) (by omega) (by omega) hr hone (by rw [← HR.out]; exact ht)
    rw [← HR.out] at HRD
    simp only at HRD
    clear HMO ht1 hb1 hc1 ht
    go_upto_region 11 with (go_at_call 19; refine HAG.mono ?_; rintro e w2 ⟨rfl, hw2⟩; rw [hw2]; clear hw2 w2)
    rw [← HW2.out]
    clear HAG
    go_wp2_with fail
    refine HRD.mono ?_
    rintro e w3 ⟨rfl, hh3, hk3, hb3⟩
    obtain ⟨uv3, rv3, L3, he3, hg3⟩ := hh3.out
    have HE3 : Hid (L3.map plR = RA) := he3
    have HB3 : Hid (Below base w w3) := HB2.out.trans hb3
    have HTD := evl_tidy w3 base g gs wv D w1.heap.size w.heap.size b m D.age RU uv3 (max RH r) r L3 rv3 hg3 hw htd
    clear hh3 hk3 hb3 he3 hg3 HRD
    go_wp2_with fail
    refine HTD.mono ?_
    rintro e w4 ⟨rfl, hh4, hb4⟩
    obtain ⟨wv4, uv4, hg4⟩ := hh4.out
    have HG4 : Hid (Lg w4 base g gs wv4 D w1.heap.size w.heap.size b m D.age RU uv4 (max RH r) r L3 rv3) := hg4
    have HB4 : Hid (Below base w w4) := HB3.out.trans hb4
    clear hh4 hg4 hb4 HTD
    go_wp2
    go_returns
    exact ⟨⟨w1.heap.size, w.heap.size, wv4, uv4, rv3, L3, rfl, HSZ.out, HE3.out, HG4.out⟩, HB4.out⟩
end Go.Proofs.Ytghajmcohdedlaa
