/- The reference's Text, some and TakeText, for every text, row of bytes and place. -/
import Derived.Test.YtigmlhieibejoadTexts
import Derived.Laws.IdiomStrings
namespace Go.Proofs.Ytigmlhieibejoad
open Go.RowKit

theorem Own.nil_cap {w : World} {base : Nat} {a : Option Addr} {len cap : Nat} {bs : List Nat} (h : Own w base a len cap bs) : a = none → cap = 0 := by
  rintro rfl
  rcases h.row.2 with ⟨hv, _⟩ | ⟨g, c, cur, hv, _⟩
  · simp only [Value.slice.injEq, true_and] at hv; exact hv.2
  · simp at hv
theorem Own.cap_ok {w : World} {base : Nat} {a : Option Addr} {len cap : Nat} {bs : List Nat} (h : Own w base a len cap bs) : len ≤ cap := by
  rcases h.row.2 with ⟨hv, h0⟩ | ⟨g, c, cur, hv, _, _, hlc, _⟩
  · omega
  · simp only [Value.slice.injEq] at hv
    omega

/-- Bytes that a range leaves, where it ends, and the error. -/
def sub (bs : List Nat) : Nat × Nat × Nat → List Nat × Nat × Nat
  | (p, q, 0) => ((bs.drop p).take (q - p), q, 0)
  | (_, _, f) => ([], 0, f)
theorem textAt_sub (bs : List Nat) (x : Int) : textAt bs x = sub bs (range bs x 200) := rfl
theorem sub_err (bs : List Nat) (p q f : Nat) (h : ¬ f = 0) : sub bs (p, q, f) = ([], 0, f) := by
  cases f with
  | zero => exact absurd rfl h
  | succ f => rfl

set_option maxHeartbeats 1000000 in
/-- The reference's 'some': as many bytes as the number at a place says, in memory of their own. -/
theorem ref_some (a : Option Addr) (len cap : Nat) (bs : List Nat) (x : Int) (limit : Nat) (hlim : limit ≤ 100000) (w : World) (hr : Rd w a len bs) (hlc : len ≤ cap) (hl : len ≤ 9223372036854775000) (hx : (-9223372036854775808 : Int) ≤ x ∧ x ≤ 9223372036854775807) (l : List Nat) (q f : Nat) (hT : sub bs (range bs x limit) = (l, q, f)) :
    Calls Try.prog 27 #[.slice a len cap, .int .i64 x, .int .i64 (limit : Int)] w fun e w' => ∃ a' m' c', e = .returned (.tuple #[.slice a' m' c', .int .i64 (q : Int), .int .i64 (f : Int)]) ∧ Rd w' a' m' l ∧ m' ≤ c' ∧ (a' = none → c' = 0) ∧ Below w.heap.size w w' := by
  have HR : Hid (Rd w a len bs) := hr
  have HX : Hid ((-9223372036854775808 : Int) ≤ x ∧ x ≤ 9223372036854775807) := hx
  obtain ⟨n, k, g, hK⟩ : ∃ n k g, Leb.take bs x = (n, k, g) := ⟨_, _, _, rfl⟩
  have HK : Hid (Leb.take bs x = (n, k, g)) := hK
  rw [range_def, hK, hr.size] at hT
  have HN : Hid (∀ W, Rd W (none : Option Addr) 0 []) := fun W => ⟨rfl, by simp, .inl rfl⟩
  by_cases hg : g = 0
  · subst hg
    obtain ⟨hkl, hn, hk0⟩ : k ≤ bs.length ∧ n < 18446744073709551616 ∧ 0 < k := by
      obtain ⟨p, _, hpk, hkl, hn, _⟩ := Leb.take_once bs x hr.byte n k hK
      exact ⟨hkl, hn, by omega⟩
    rw [hr.size] at hkl
    simp only [rng] at hT
    by_cases h1 : limit < n
    · rw [if_pos h1] at hT
      simp only [sub, Prod.mk.injEq] at hT
      obtain ⟨rfl, rfl, rfl⟩ := hT
      clear hr hx hK
      go_enter Try.func27, Try.ntmps27
      go_wp2_with fail
      refine (ref_TakeUint a len cap bs x w HR.out hl HX.out).mono ?_
      rw [HK.out]
      rintro e w1 ⟨rfl, rfl⟩
      unfold told
      go_wp2
      go_ret3
      exact ⟨none, 0, 0, rfl, HN.out _, Nat.le_refl _, (fun _ => rfl), Below.refl _ _⟩
    · rw [if_neg h1] at hT
      by_cases h2 : len - k < n
      · rw [if_pos h2] at hT
        simp only [sub, Prod.mk.injEq] at hT
        obtain ⟨rfl, rfl, rfl⟩ := hT
        have h2' : (len : Int) - (k : Int) < (n : Int) := by omega
        clear hr hx hK
        go_enter Try.func27, Try.ntmps27
        go_wp2_with fail
        refine (ref_TakeUint a len cap bs x w HR.out hl HX.out).mono ?_
        rw [HK.out]
        rintro e w1 ⟨rfl, rfl⟩
        unfold told
        go_wp2
        go_ret3
        exact ⟨none, 0, 0, rfl, HN.out _, Nat.le_refl _, (fun _ => rfl), Below.refl _ _⟩
      · rw [if_neg h2] at hT
        simp only [sub, Prod.mk.injEq] at hT
        obtain ⟨hle, rfl, rfl⟩ := hT
        have HLE : Hid ((bs.drop k).take (k + n - k) = l) := hle
        have h2' : ¬ (len : Int) - (k : Int) < (n : Int) := by omega
        obtain ⟨b, off, rfl, hblt, hc⟩ : ∃ b off, a = some ⟨b, off, none⟩ ∧ b < w.heap.size ∧ ∀ i, i < len → w.cell? ⟨b, off + i, none⟩ = some (.int .u8 ((bs.getD i 0 : Nat) : Int)) := by
          rcases hr.cells with h0 | h
          · omega
          · exact h
        have hsub : ∀ off', (k + n - k = 0 ∨ off' = off + k) → Rd w (some ⟨b, off', none⟩) (k + n - k) l := by
          intro off' ho
          rw [← hle]
          refine ⟨by rw [List.length_take, List.length_drop, hr.size]; omega, fun y hy => hr.byte y (List.mem_of_mem_drop (List.mem_of_mem_take hy)), ?_⟩
          rcases ho with h0 | rfl
          · exact .inl h0
          · refine .inr ⟨b, off + k, rfl, hblt, fun i hi => ?_⟩
            rw [Nat.add_assoc, hc (k + i) (by omega)]
            simp only [List.getD_eq_getElem?_getD, List.getElem?_take_of_lt hi, List.getElem?_drop]
        have g1 : (0 : Int) ≤ (k : Int) := by omega
        have g2 : (k : Int) ≤ (k : Int) + (n : Int) := by omega
        have g3 : (k : Int) + (n : Int) ≤ (cap : Int) := by omega
        by_cases hcp : cap = k
        · subst hcp
          have hn0 : n = 0 := by omega
          subst hn0
          have HL0 : Hid (l = []) := by show _ = _; rw [← hle]; simp
          clear hr hx hK hc hsub hle
          go_enter Try.func27, Try.ntmps27
          go_wp2_with fail
          refine (ref_TakeUint (some ⟨b, off, none⟩) len cap bs x w HR.out hl HX.out).mono ?_
          rw [HK.out]
          rintro e w1 ⟨rfl, hw1⟩
          subst hw1
          unfold told
          go_wp2
          go_ret3
          exact ⟨some ⟨w1.heap.size, 0, none⟩, 0, 0, rfl, (by rw [HL0.out]; exact ⟨rfl, by simp, .inl rfl⟩), Nat.le_refl _, (fun h => by cases h), below_alloc w1 _⟩
        · have HS : Hid (Rd w (some ⟨b, off + k, none⟩) (k + n - k) l) := hsub (off + k) (.inr rfl)
          have hn1 : n ≤ 100000 := by omega
          clear hr hx hK hc hsub hle
          go_enter Try.func27, Try.ntmps27
          go_wp2_with fail
          refine (ref_TakeUint (some ⟨b, off, none⟩) len cap bs x w HR.out hl HX.out).mono ?_
          rw [HK.out]
          rintro e w1 ⟨rfl, hw1⟩
          subst hw1
          unfold told
          go_wp2_with (at_builtin; refine wpList_append_rd (by rfl) (.tmp 33) (.tmp 40) (by rfl) w1.heap.size (some ⟨w1.heap.size, 0, none⟩) 0 0 [] (by rfl) (Own.empty w1) (some ⟨b, off + k, none⟩) (k + n - k) (cap - k) l (by rfl) (HS.out.below (below_alloc w1 _)) (fun h => by cases h) (by omega) (by simp) ?_; intro a3 c3 w3 hown3 hgrow3 hbel3; have HO3 : Hid (Own w3 w1.heap.size a3 (0 + (k + n - k)) c3 ([] ++ l)) := hown3; have HB3 : Hid (Below w1.heap.size w1 w3) := (below_alloc w1 _).trans hbel3; clear hown3 hgrow3 hbel3)
          go_ret3
          have ho := HO3.out
          rw [Nat.zero_add, List.nil_append, show k + n - k = n from by omega] at ho
          exact ⟨a3, _, c3, rfl, ho.rd, ho.cap_ok, ho.nil_cap, HB3.out⟩
  · have hg' : ((g : Int) != 0) = true := by simp [hg]
    rw [rng_err _ _ _ _ _ hg, sub_err _ _ _ _ hg] at hT
    simp only [Prod.mk.injEq] at hT
    obtain ⟨rfl, rfl, rfl⟩ := hT
    clear hr hx hK hg
    go_enter Try.func27, Try.ntmps27
    go_wp2_with fail
    refine (ref_TakeUint a len cap bs x w HR.out hl HX.out).mono ?_
    rw [HK.out]
    rintro e w1 ⟨rfl, rfl⟩
    unfold told
    go_wp2
    go_ret3
    exact ⟨none, 0, 0, rfl, HN.out _, Nat.le_refl _, (fun _ => rfl), Below.refl _ _⟩

set_option maxHeartbeats 400000 in
theorem ref_TakeText (a : Option Addr) (len cap : Nat) (bs : List Nat) (x : Int) (w : World) (hr : Rd w a len bs) (hlc : len ≤ cap) (hl : len ≤ 9223372036854775000) (hx : (-9223372036854775808 : Int) ≤ x ∧ x ≤ 9223372036854775807) :
    Calls Try.prog 13 #[.slice a len cap, .int .i64 x] w fun e w' => e = toldT (textAt bs x) ∧ Below w.heap.size w w' := by
  obtain ⟨l, q, f, hT⟩ : ∃ l q f, sub bs (range bs x 200) = (l, q, f) := ⟨_, _, _, rfl⟩
  have HC : Hid (Calls Try.prog 27 #[.slice a len cap, .int .i64 x, .int .i64 200] w fun e w' => ∃ a' m' c', e = .returned (.tuple #[.slice a' m' c', .int .i64 (q : Int), .int .i64 (f : Int)]) ∧ Rd w' a' m' l ∧ m' ≤ c' ∧ (a' = none → c' = 0) ∧ Below w.heap.size w w') := ref_some a len cap bs x 200 (by omega) w hr hlc hl hx l q f hT
  have HF : Hid (textAt bs x = (l, q, f)) := by show _ = _; rw [textAt_sub, hT]
  rw [HF.out]
  clear hr hx hT
  go_enter Try.func13, Try.ntmps13
  go_wp2_with fail
  refine HC.out.mono ?_
  rintro e w1 ⟨a', m', c', rfl, hrd, _, _, hb1⟩
  have k1 := conv_rd hrd c'
  have HB1 : Hid (Below w.heap.size w w1) := hb1
  clear hrd hb1
  go_wp2
  go_ret3
  exact ⟨rfl, HB1.out⟩

end Go.Proofs.Ytigmlhieibejoad
