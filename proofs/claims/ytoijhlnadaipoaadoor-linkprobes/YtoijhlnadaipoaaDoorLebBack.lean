/- What is put is taken, and what is taken is what is put: plain mathematics. -/
import Derived.Test.YtoijhlnadaipoaaDoorLeb
namespace Go.Proofs.YtoijhlnadaipoaaDoor.Leb

theorem tk_put : ∀ (j i acc m : Nat) (r : List Nat), i + j = 9 → m < 2 * 128 ^ j → (i = 0 ∨ 0 < m) → tk i acc (put j m ++ r) = (acc + m * 128 ^ i, i + (put j m).length, 0)
  | j, i, acc, m, r, hij, hm, h0 => by
    by_cases hs : m < 128
    · rw [put_small j m hs, List.singleton_append, tk_end i acc m r ?_ hs ?_]
      · rfl
      · rintro ⟨hi, h1⟩
        have : j = 0 := by omega
        subst this
        simp at hm
        omega
      · rintro ⟨hz, hi⟩
        omega
    · cases j with
      | zero => simp at hm; omega
      | succ j =>
        have hmod : (128 + m % 128) % 128 = m % 128 := by omega
        rw [put_big j m (by omega), List.cons_append, tk_more i acc (128 + m % 128) _ (by omega) (by omega), hmod,
          tk_put j (i + 1) (acc + m % 128 * 128 ^ i) (m / 128) r (by omega) (by rw [Nat.pow_succ] at hm; omega) (.inr (by omega))]
        have e : m * 128 ^ i = m % 128 * 128 ^ i + m / 128 * 128 ^ (i + 1) := by
          rw [Nat.pow_succ]
          conv => lhs; rw [show m = m % 128 + 128 * (m / 128) from by omega, Nat.add_mul]
          rw [Nat.mul_comm 128 (m / 128), Nat.mul_assoc, Nat.mul_comm 128 (128 ^ i)]
        simp only [List.length_cons]
        refine Prod.ext ?_ (Prod.ext ?_ rfl)
        · show _ = acc + m * 128 ^ i
          rw [e]
          omega
        · show i + 1 + _ = i + (_ + 1)
          omega

/-- What was put at a place is taken there as it was. -/
theorem take_put (n : Nat) (hn : n < 18446744073709551616) (xs zs : List Nat) : take (xs ++ leb n ++ zs) (xs.length : Int) = (n, xs.length + (leb n).length, 0) := by
  unfold take
  rw [if_neg (by simp; omega)]
  have hd : (xs ++ leb n ++ zs).drop ((xs.length : Int)).toNat = leb n ++ zs := by simp
  rw [hd]
  unfold leb
  rw [tk_put 9 0 0 n zs rfl (by simpa using hn) (.inl rfl)]
  simp [fin]

theorem tk_once : ∀ (l : List Nat) (i acc n k : Nat), i ≤ 9 → (∀ x ∈ l, x < 256) → tk i acc l = (n, k, 0) →
    ∃ m, n = acc + m * 128 ^ i ∧ m < 2 * 128 ^ (9 - i) ∧ i + (put (9 - i) m).length = k ∧ l.take (k - i) = put (9 - i) m ∧ k - i ≤ l.length ∧ (i = 0 ∨ 0 < m)
  | [], i, acc, n, k, _, _, h => by simp [tk] at h
  | c :: r, i, acc, n, k, hi, hb, h => by
    have hc : c < 256 := hb c (by simp)
    by_cases hlim : i = 9 ∧ 1 < c
    · rw [tk_limit i acc c r hlim.1 hlim.2] at h; simp at h
    · by_cases hs : c < 128
      · by_cases hz : c = 0 ∧ 0 < i
        · rw [tk_form i acc c r hlim hz.1 hz.2] at h; simp at h
        · rw [tk_end i acc c r hlim hs hz] at h
          simp only [Prod.mk.injEq] at h
          obtain ⟨rfl, rfl, _⟩ := h
          have hp := put_small (9 - i) c hs
          refine ⟨c, rfl, ?_, by rw [hp]; rfl, ?_, ?_, by omega⟩
          · by_cases h9 : i = 9
            · subst h9; show c < 2 * 128 ^ 0; omega
            · have : 128 ^ 1 ≤ 128 ^ (9 - i) := Nat.pow_le_pow_right (by omega) (by omega)
              omega
          · rw [hp, show i + 1 - i = 1 from by omega]; rfl
          · simp only [List.length_cons]; omega
      · rw [tk_more i acc c r hlim (by omega)] at h
        obtain ⟨m, h1, h2, h3, h4, h5, h6⟩ := tk_once r (i + 1) _ n k (by omega) (fun x hx => hb x (by simp [hx])) h
        have h9 : 9 - i = (9 - (i + 1)) + 1 := by omega
        have hpos : 0 < m := by omega
        refine ⟨c % 128 + 128 * m, ?_, ?_, ?_, ?_, ?_, .inr (by omega)⟩
        · rw [h1, Nat.pow_succ, Nat.add_mul, Nat.mul_comm 128 m, Nat.mul_assoc, Nat.mul_comm 128 (128 ^ i)]
          omega
        · rw [h9, Nat.pow_succ]; omega
        · rw [h9, put_big _ _ (by omega), show (c % 128 + 128 * m) / 128 = m from by omega]
          simp only [List.length_cons]
          omega
        · rw [h9, put_big _ _ (by omega), show (c % 128 + 128 * m) / 128 = m from by omega, show (c % 128 + 128 * m) % 128 = c % 128 from by omega, ← h4]
          have hk : k - i = (k - (i + 1)) + 1 := by omega
          rw [hk, List.take_succ_cons, show 128 + c % 128 = c from by omega]
        · simp only [List.length_cons]; omega

/-- Bytes that are taken for a number are just its bytes. -/
theorem take_once (bs : List Nat) (x : Int) (hb : ∀ y ∈ bs, y < 256) (n k : Nat) (h : take bs x = (n, k, 0)) :
    ∃ p : Nat, x = (p : Int) ∧ p < k ∧ k ≤ bs.length ∧ n < 18446744073709551616 ∧ (bs.drop p).take (k - p) = leb n ∧ k = p + (leb n).length := by
  unfold take at h
  by_cases hx : x < 0 ∨ (bs.length : Int) < x
  · rw [if_pos hx] at h; simp at h
  · rw [if_neg hx] at h
    obtain ⟨p, rfl⟩ := Int.eq_ofNat_of_zero_le (show 0 ≤ x by omega)
    simp only [Int.toNat_natCast] at h
    obtain ⟨a, u, e⟩ : ∃ a u, tk 0 0 (bs.drop p) = (a, u, 0) := by
      rcases htk : tk 0 0 (bs.drop p) with ⟨a, u, e⟩
      rw [htk] at h
      simp only [fin, Prod.mk.injEq] at h
      exact ⟨a, u, by rw [h.2.2]⟩
    rw [e] at h
    simp only [fin, Prod.mk.injEq, if_true, and_true] at h
    obtain ⟨rfl, rfl⟩ := h
    obtain ⟨m, h1, h2, h3, h4, h5, _⟩ := tk_once (bs.drop p) 0 0 a u (by omega) (fun y hy => hb y (List.mem_of_mem_drop hy)) e
    have em : a = m := by simpa using h1
    subst em
    have hl := leb_length a
    simp only [Nat.zero_add, Nat.sub_zero] at h3 h4 h5 h2
    refine ⟨p, rfl, ?_, ?_, by simpa using h2, ?_, ?_⟩
    · have : (leb a).length = u := h3
      omega
    · simp only [List.length_drop] at h5
      have : (leb a).length = u := h3
      omega
    · rw [show p + u - p = u from by omega]; exact h4
    · show p + u = p + (leb a).length
      have : (leb a).length = u := h3
      omega

/-- With an error nothing is told. -/
theorem tk_zero : ∀ (l : List Nat) (i acc : Nat), (tk i acc l).2.2 ≠ 0 → (tk i acc l).1 = 0
  | [], _, _, _ => rfl
  | c :: r, i, acc, h => by
    by_cases hlim : i = 9 ∧ 1 < c
    · rw [tk_limit i acc c r hlim.1 hlim.2]
    · by_cases hs : c < 128
      · by_cases hz : c = 0 ∧ 0 < i
        · rw [tk_form i acc c r hlim hz.1 hz.2]
        · rw [tk_end i acc c r hlim hs hz] at h; exact absurd rfl h
      · rw [tk_more i acc c r hlim (by omega)] at h ⊢
        exact tk_zero r _ _ h

end Go.Proofs.YtoijhlnadaipoaaDoor.Leb
