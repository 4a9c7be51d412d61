/- A pack of texts: EvO1 EvO2. -/
import Derived.Test.YtghajmcohdedlaaEvL28
/- evlog: a disk that is new; Open of it, or of one that is down, or with arguments that may not be; Used. -/
namespace Go.Proofs.Ytghajmcohdedlaa
open Go.RowKit

theorem newD_now (n i : Nat) (hi : i < n) : nowB (newD n) i = List.replicate 64 0 := by
  unfold nowB
  show nowS (newD n) i 0 = _
  rw [nowS]
  unfold newD
  rw [List.getD_eq_getElem?_getD, List.getElem?_replicate, if_pos hi]
  rfl
theorem newD_has (n : Nat) (p : Int) (h : readE (newD n) p = 0) : 0 ≤ p ∧ p < (n : Int) := by
  unfold readE at h
  rw [if_neg (show ¬ ((newD n).down = true) from fun e => by cases e)] at h
  split at h
  · rename_i h1
    simp only [hasB, newD, List.length_replicate] at h1
    simpa using h1
  · cases h
theorem newD_tell (n i : Nat) : tellE (newD n) i = List.replicate 64 0 ∨ tellE (newD n) i = [] := by
  unfold tellE
  split
  · rename_i h
    have := newD_has n i h
    exact .inl (newD_now n i (by omega))
  · exact .inr rfl
theorem newD_heads (n b : Nat) : ∀ m, headsF (newD n) b m = []
  | 0 => rfl
  | m + 1 => by
    rw [headsF, newD_heads n b m, List.nil_append, headAt, if_neg]
    rcases newD_tell n (b + 2 + m * 16) with h | h
    · rw [h]; decide
    · rw [h]; decide
theorem newD_look (n : Nat) (p : Int) : lookB (newD n) p = (0, 0) := by
  unfold lookB
  split
  · rename_i h
    have := newD_has n p h
    rw [newD_now n p.toNat (by omega)]
    decide
  · rfl
theorem newD_get (n b : Nat) : getB (newD n) b 1 0 = (0, false) := by
  unfold getB standB
  simp [newD_look]

set_option maxRecDepth 100000 in
theorem evl_Open_down (w : World) (base g gs : Nat) (wv : Value) (D : Dk) (b m : Int) (h : Disk w base g gs wv D) (hdn : D.down = true) :
    Calls Try.prog 6 #[.pointer (some ⟨g, 0, none⟩), .int .i64 b, .int .i64 m] w fun e w' => e = .returned (.tuple #[.pointer none, .int .i64 10]) ∧ w' = w := by
  have HDW := disk_Down w base g gs wv D h
  rw [hdn] at HDW
  clear h hdn
  go_enter Try.func6, Try.ntmps6
  go_wp2_with fail
  refine HDW.mono ?_
  rintro e w0 ⟨rfl, hw⟩
  subst w0
  clear HDW
  go_wp2
  go_returns
  exact ⟨rfl, rfl⟩
/-- May there be such a log? -/
def mayE (n : Nat) (b m : Int) : Prop := (2 ≤ m ∧ m ≤ 16) ∧ 0 ≤ b ∧ b ≤ (n : Int) - 2 - m * 16
set_option maxRecDepth 100000 in
set_option maxHeartbeats 2000000 in
theorem evl_Open_arg (w : World) (base g gs : Nat) (wv : Value) (D : Dk) (b m : Int) (h : Disk w base g gs wv D) (hdn : D.down = false) (hno : ¬ mayE D.sure.length b m) :
    Calls Try.prog 6 #[.pointer (some ⟨g, 0, none⟩), .int .i64 b, .int .i64 m] w fun e w' => e = .returned (.tuple #[.pointer none, .int .i64 2]) ∧ w' = w := by
  have hsz := h.sz
  obtain ⟨n, hn⟩ : ∃ n, n = D.sure.length := ⟨_, rfl⟩
  have HDW : Hid (Calls Try.prog 16 #[.pointer (some ⟨g, 0, none⟩)] w fun e w' => e = .returned (.bool false) ∧ w' = w) := by
    have := disk_Down w base g gs wv D h
    rw [hdn] at this
    exact this
  have HSI : Hid (Calls Try.prog 17 #[.pointer (some ⟨g, 0, none⟩)] w fun e w' => e = .returned (.int .i64 (n : Int)) ∧ w' = w) := by
    have := disk_Size w base g gs wv D h
    rw [← hn] at this
    exact this
  rw [← hn] at hno hsz
  have HNO : Hid (¬ mayE n b m) := hno
  clear h hdn hn hno
  by_cases a1 : m < 2
  · go_enter Try.func6, Try.ntmps6
    go_wp2_with (first
      | (go_at_call 16; refine HDW.out.mono ?_; rintro e w2 ⟨rfl, hw2⟩; rw [hw2]; clear hw2 w2)
      | (go_at_call 17; refine HSI.out.mono ?_; rintro e w2 ⟨rfl, hw2⟩; rw [hw2]; clear hw2 w2))
    go_returns
    exact ⟨rfl, rfl⟩
  by_cases a2 : 16 < m
  · go_enter Try.func6, Try.ntmps6
    go_wp2_with (first
      | (go_at_call 16; refine HDW.out.mono ?_; rintro e w2 ⟨rfl, hw2⟩; rw [hw2]; clear hw2 w2)
      | (go_at_call 17; refine HSI.out.mono ?_; rintro e w2 ⟨rfl, hw2⟩; rw [hw2]; clear hw2 w2))
    go_returns
    exact ⟨rfl, rfl⟩
  by_cases a3 : b < 0
  · go_enter Try.func6, Try.ntmps6
    go_wp2_with (first
      | (go_at_call 16; refine HDW.out.mono ?_; rintro e w2 ⟨rfl, hw2⟩; rw [hw2]; clear hw2 w2)
      | (go_at_call 17; refine HSI.out.mono ?_; rintro e w2 ⟨rfl, hw2⟩; rw [hw2]; clear hw2 w2))
    go_returns
    exact ⟨rfl, rfl⟩
  obtain ⟨P, hP⟩ : ∃ P : Int, P = (n : Int) - 2 := ⟨_, rfl⟩
  obtain ⟨Q, hQ⟩ : ∃ Q : Int, Q = m * 16 := ⟨_, rfl⟩
  obtain ⟨R, hR⟩ : ∃ R : Int, R = P - Q := ⟨_, rfl⟩
  have q1 : (n : Int) - 2 = P := hP.symm
  have q2 : IntKind.i64.wrap P = P := by rw [IntKind.wrap_i64]; omega
  have q3 : m * 16 = Q := hQ.symm
  have q4 : IntKind.i64.wrap Q = Q := by rw [IntKind.wrap_i64]; omega
  have q5 : P - Q = R := hR.symm
  have q6 : IntKind.i64.wrap R = R := by rw [IntKind.wrap_i64]; omega
  have a4 : R < b := by
    rcases Int.lt_or_le R b with h | h
    · exact h
    · exact absurd (show mayE n b m from ⟨⟨by omega, by omega⟩, by omega, by omega⟩) HNO.out
  clear hP hQ hR hsz
  go_enter Try.func6, Try.ntmps6
  go_wp2_with (first
    | (go_at_call 16; refine HDW.out.mono ?_; rintro e w2 ⟨rfl, hw2⟩; rw [hw2]; clear hw2 w2)
    | (go_at_call 17; refine HSI.out.mono ?_; rintro e w2 ⟨rfl, hw2⟩; rw [hw2]; clear hw2 w2))
  go_returns
  exact ⟨rfl, rfl⟩
theorem evl_Used (w : World) (gl g gc b m ag hi rel : Nat) (a : Option Addr) (n c : Nat) (rv : Value) (h : Lc w gl g gc b m ag (.slice a n c) hi rel rv) : Calls Try.prog 14 #[.pointer (some ⟨gl, 0, none⟩)] w fun e w' => e = .returned (.int .i64 (n : Int)) ∧ w' = w := by
  have c5 : w.cell? ⟨gl, 5, none⟩ = some (.slice a n c) := Blk.cell h 5 rfl
  clear h
  go_enter Try.func14, Try.ntmps14
  go_wp2
  go_returns
  exact ⟨rfl, rfl⟩
end Go.Proofs.Ytghajmcohdedlaa
/- evlog: Open of a log without segments: all blocks stay but those of its own types. -/
namespace Go.Proofs.Ytghajmcohdedlaa
open Go.RowKit

set_option maxRecDepth 100000 in
set_option maxHeartbeats 8000000 in
theorem evl_Open_new (w : World) (base g gs : Nat) (wv : Value) (D : Dk) (b m r : Nat) (h : Disk w base g gs wv D) (hdn : D.down = false) (hm2 : 2 ≤ m) (hm : m ≤ 16) (hb : b + 2 + m * 16 ≤ D.sure.length) (hr : (getB D b 1 0).1 = (r : Int)) (hone : (headsF D b m).length ≤ 1) (ht : ∀ p ∈ (readAllF D (headsF D b m) 0 []).2.2, r < p.1) (hU : (readAllF D (headsF D b m) 0 []).1 = []) :
    Calls Try.prog 6 #[.pointer (some ⟨g, 0, none⟩), .int .i64 (b : Int), .int .i64 (m : Int)] w fun e w' => Hid (∃ gl gc wv' uv' rv' L', e = .returned (.tuple #[.pointer (some ⟨gl, 0, none⟩), .int .i64 0]) ∧ w.heap.size ≤ gl ∧ L'.map plR = (readAllF D (headsF D b m) 0 []).2.2 ∧ Lg w' base g gs wv' D gl gc b m D.age (readAllF D (headsF D b m) 0 []).1 uv' (max (readAllF D (headsF D b m) 0 []).2.1 r) r L' rv') ∧ Hid (Kt w w') ∧ Below base w w' := by
  have HD : Hid (Disk w base g gs wv D) := h
  have hsz := h.sz
  have HBS : Hid (base ≤ w.heap.size) := Nat.le_trans h.bg (Nat.le_of_lt h.blk.lt)
  obtain ⟨⟨RU, RH, RA⟩, HR⟩ : ∃ R, Hid (R = readAllF D (headsF D b m) 0 []) := ⟨_, rfl⟩
  rw [← HR.out] at ht hU ⊢
  simp only at ht hU ⊢
  subst hU
  have HDW : Hid (Calls Try.prog 16 #[.pointer (some ⟨g, 0, none⟩)] w fun e w' => e = .returned (.bool false) ∧ w' = w) := by
    have := disk_Down w base g gs wv D h
    rw [hdn] at this
    exact this
  obtain ⟨n, hn⟩ : ∃ n, n = D.sure.length := ⟨_, rfl⟩
  have HSI : Hid (Calls Try.prog 17 #[.pointer (some ⟨g, 0, none⟩)] w fun e w' => e = .returned (.int .i64 (n : Int)) ∧ w' = w) := by
    have := disk_Size w base g gs wv D h
    rw [← hn] at this
    exact this
  rw [← hn] at hb hsz
  obtain ⟨P, hP⟩ : ∃ P, P = n - 2 := ⟨_, rfl⟩
  obtain ⟨Q, hQ⟩ : ∃ Q, Q = m * 16 := ⟨_, rfl⟩
  obtain ⟨R, hR⟩ : ∃ R, R = P - Q := ⟨_, rfl⟩
  have a1 : ¬ (m : Int) < 2 := by omega
  have a2 : ¬ (16 : Int) < (m : Int) := by omega
  have a3 : ¬ (b : Int) < 0 := by omega
  have q1 : (n : Int) - 2 = (P : Int) := by omega
  have q2 : IntKind.i64.wrap (P : Int) = (P : Int) := by rw [IntKind.wrap_i64]; omega
  have q3 : (m : Int) * 16 = (Q : Int) := by omega
  have q4 : IntKind.i64.wrap (Q : Int) = (Q : Int) := by rw [IntKind.wrap_i64]; omega
  have q5 : (P : Int) - (Q : Int) = (R : Int) := by omega
  have q6 : IntKind.i64.wrap (R : Int) = (R : Int) := by rw [IntKind.wrap_i64]; omega
  have a4 : ¬ (R : Int) < (b : Int) := by omega
  have HMO := mark_Open w base g gs wv D (b : Int) 1 h
  have HN : Hid (n = D.sure.length ∧ b + 2 + m * 16 ≤ n) := ⟨hn, hb⟩
  clear h hdn hn hP hQ hR hb hsz
  go_enter Try.func6, Try.ntmps6
  go_upto_region 7 with (first
    | (go_at_call 16; refine HDW.out.mono ?_; rintro e w2 ⟨rfl, hw2⟩; rw [hw2]; clear hw2 w2)
    | (go_at_call 17; refine HSI.out.mono ?_; rintro e w2 ⟨rfl, hw2⟩; rw [hw2]; clear hw2 w2))
  clear a1 a2 a3 a4 q1 q2 q3 q4 q5 q6 HDW HSI
  go_wp2_with fail
  refine HMO.mono ?_
  rintro e w1 ⟨ht1, hb1⟩
  rcases ht1.out with ⟨hno, _⟩ | ⟨_, rfl, hc1⟩
  · exact absurd (show mayC D.sure.length (b : Int) 1 from ⟨by omega, by omega, by have := HN.out; omega⟩) hno
  · rw [Int.toNat_natCast] at hc1
    have HC1 : Hid (Cs w1 w.heap.size g b 1) := hc1
    have HD1 : Hid (Disk w1 base g gs wv D) := HD.out.stay hb1
    have HB1 : Hid (Below base w w1) := hb1.mono HBS.out
    have HSZ : Hid (w.heap.size ≤ w1.heap.size) := hb1.size
    have HAG := disk_Age w1 base g gs wv D HD1.out
    obtain ⟨W2, HW2⟩ : ∃ W2, Hid (W2 = w1.alloc (.cells #[.pointer (some ⟨g, 0, none⟩), .pointer (some ⟨w.heap.size, 0, none⟩), .int .i64 (b : Int), .int .i64 (m : Int), .int .i64 (D.age : Int), .slice none 0 0, .int .i64 0, .int .i64 0, .slice none 0 0] 56)) := ⟨_, rfl⟩
    have HBW : Hid (Below w1.heap.size w1 W2) := by (show Below _ _ _); rw [HW2.out]; exact below_alloc _ _
    have HKK : Hid (Kt w W2) := (Kt.of_below hb1).trans (Kt.of_below HBW.out)
    have HG2 : Hid (Lg W2 base g gs wv D w1.heap.size w.heap.size b m D.age [] (.slice none 0 0) 0 0 [] (.slice none 0 0)) := by
      (show Lg _ _ _ _ _ _ _ _ _ _ _ _ _ _ _ _ _)
      refine ⟨HD1.out.stay HBW.out, ?_, HC1.out.stay HBW.out, Sgs.nil _ _, ⟨World.ownsRow_nil _ _ _ _, fun r hr => by cases hr⟩, Nat.le_trans HBS.out HSZ.out⟩
      rw [HW2.out]
      exact Blk.new _ _ _
    have HB2 : Hid (Below base w W2) := HB1.out.trans (HBW.out.mono (Nat.le_trans HBS.out HSZ.out))
    have HRD := evl_read W2 base g gs wv D w1.heap.size w.heap.size b m D.age [] (.slice none 0 0) 0 0 (.slice none 0 0) r HG2.out (by have := HN.out; have := HD.out.sz; omega) (by omega) (by omega) hr hone (by rw [← HR.out]; exact ht)
    rw [← HR.out] at HRD
    simp only at HRD
    clear HMO ht1 hb1 hc1 ht
    go_upto_region 11 with (go_at_call 19; refine HAG.mono ?_; rintro e w2 ⟨rfl, hw2⟩; rw [hw2]; clear hw2 w2)
    rw [← HW2.out]
    clear HAG
    go_wp2_with fail
    refine HRD.mono ?_
    rintro e w3 ⟨rfl, hh3, hk3, hb3⟩
    obtain ⟨uv3, rv3, L3, he3, hg3⟩ := hh3.out
    have HE3 : Hid (L3.map plR = RA) := he3
    have HB3 : Hid (Below base w w3) := HB2.out.trans hb3
    have HK3 : Hid (Kt w w3) := HKK.out.trans hk3.out
    have HG3 : Hid (Lg w3 base g gs wv D w1.heap.size w.heap.size b m D.age [] uv3 (max RH r) r L3 rv3) := hg3
    have HTD := evl_tidy0 w3 base g gs wv D w1.heap.size w.heap.size b m D.age uv3 (max RH r) r L3 rv3 hg3
    clear hh3 hk3 hb3 he3 hg3 HRD
    go_wp2_with fail
    refine HTD.mono ?_
    rintro e w4 ⟨rfl, hw4⟩
    rw [hw4]
    clear hw4 w4 HTD
    go_wp2
    go_returns
    exact ⟨⟨w1.heap.size, w.heap.size, wv, uv3, rv3, L3, rfl, HSZ.out, HE3.out, HG3.out⟩, HK3, HB3.out⟩
end Go.Proofs.Ytghajmcohdedlaa
