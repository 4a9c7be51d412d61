/- A parcel's bytes cut short. -/
import Derived.Test.YtmpljoljpgbamaaPtO
import Derived.Test.YtmpljoljpgbamaaLebBack
namespace Go.Proofs.Ytmpljoljpgbamaa

namespace Leb
theorem tk_cut : ∀ (j i acc m k : Nat), i + j = 9 → m < 2 * 128 ^ j → k < (put j m).length → tk i acc ((put j m).take k) = (0, 0, 3)
  | j, i, acc, m, 0, _, _, _ => rfl
  | j, i, acc, m, k + 1, hij, hm, hk => by
    by_cases hs : m < 128
    · rw [put_small j m hs] at hk
      simp at hk
    · cases j with
      | zero => simp at hm; omega
      | succ j =>
        rw [put_big j m (by omega)] at hk ⊢
        rw [List.take_succ_cons, tk_more i acc (128 + m % 128) _ (by omega) (by omega)]
        exact tk_cut j (i + 1) _ (m / 128) k (by omega) (by rw [Nat.pow_succ] at hm; omega) (by simpa using hk)
theorem take_cut (n : Nat) (hn : n < 18446744073709551616) (xs : List Nat) (k : Nat) (hk : k < (leb n).length) : take (xs ++ (leb n).take k) (xs.length : Int) = (0, 0, 3) := by
  unfold take
  rw [if_neg (by simp; omega)]
  have hd : (xs ++ (leb n).take k).drop ((xs.length : Int)).toNat = (leb n).take k := by simp
  rw [hd]
  unfold leb at hk ⊢
  rw [tk_cut 9 0 0 n k rfl (by simpa using hn) hk]
  rfl
end Leb
theorem take_keep {bs : List Nat} (hb : ∀ z ∈ bs, z < 256) {p n e k : Nat} (h : Leb.take bs (p : Int) = (n, e, 0)) (hk : e ≤ k) : Leb.take (bs.take k) (p : Int) = (n, e, 0) := by
  obtain ⟨q, h1, h2, h3, h4, h5, h6⟩ := Leb.take_once bs _ hb n e h
  have hq : q = p := by omega
  subst hq
  have e1 : (((bs.take k).drop q).take (e - q)) = Leb.leb n := by
    rw [← h5, List.drop_take, List.take_take]
    congr 1
    omega
  have e2 : bs.take k = (bs.take k).take q ++ Leb.leb n ++ (bs.take k).drop e := by
    rw [← e1]
    have := List.take_append_drop q (bs.take k)
    have h7 := List.take_append_drop (e - q) ((bs.take k).drop q)
    rw [List.drop_drop, show q + (e - q) = e from by omega] at h7
    rw [List.append_assoc, h7, this]
  have hl : ((bs.take k).take q).length = q := by rw [List.length_take, List.length_take]; omega
  have h8 := Leb.take_put n h4 ((bs.take k).take q) ((bs.take k).drop e)
  rw [← e2, hl] at h8
  rw [h8, ← h6]
theorem take_short {bs : List Nat} (hb : ∀ z ∈ bs, z < 256) {p n e k : Nat} (h : Leb.take bs (p : Int) = (n, e, 0)) (hpk : p ≤ k) (hk : k < e) : Leb.take (bs.take k) (p : Int) = (0, 0, 3) := by
  obtain ⟨q, h1, h2, h3, h4, h5, h6⟩ := Leb.take_once bs _ hb n e h
  have hq : q = p := by omega
  subst hq
  have e2 : bs.take k = bs.take q ++ (Leb.leb n).take (k - q) := by
    rw [← h5, List.take_take, show min (k - q) (e - q) = k - q from by omega]
    have := List.take_append_drop q (bs.take k)
    rw [List.take_take, List.drop_take, show min q k = q from by omega] at this
    exact this.symm
  have hl : (bs.take q).length = q := by rw [List.length_take]; omega
  have h8 := Leb.take_cut n h4 (bs.take q) (k - q) (by omega)
  rw [← e2, hl] at h8
  exact h8

def CutS {α : Type} (k e : Nat) (r r' : α × Rs) : Prop := (e ≤ k → r' = r) ∧ (k < e → r'.2.ft = 3)
theorem CutS.seq {α β : Type} {k e1 e2 : Nat} {r1 r1' : α × Rs} {r2 r2' : β × Rs} (h1 : CutS k e1 r1 r1') (he : e1 ≤ e2) (h2 : r1' = r1 → e1 ≤ k → CutS k e2 r2 r2') (hs : r1'.2.ft = 3 → r2'.2.ft = 3) : CutS k e2 r2 r2' := by
  by_cases h : e1 ≤ k
  · exact h2 (h1.1 h) h
  · exact ⟨fun h3 => by omega, fun _ => hs (h1.2 (by omega))⟩
/-- A stage whose end is known, and what becomes of it where the bytes are cut. -/
def Stg {α : Type} (bs : List Nat) (k : Nat) (s : Rs) (r r' : α × Rs) : Prop := r.2.ft = 0 → ∃ p e : Nat, s = ⟨(p : Int), 0⟩ ∧ r.2 = ⟨(e : Int), 0⟩ ∧ p ≤ e ∧ e ≤ bs.length ∧ (p ≤ k → CutS k e r r')
theorem Stg.then {α β : Type} {bs : List Nat} {k : Nat} {s : Rs} {r1 r1' : α × Rs} {r2 r2' : β × Rs} (h1 : Stg bs k s r1 r1') (h2 : ∀ x, r1' = x → r1 = x → Stg bs k r1.2 r2 r2') (h2' : ∃ y, Stg bs k r1.2 r2 y) (hs : r1'.2.ft = 3 → r2'.2.ft = 3) : Stg bs k s r2 r2' := fun hf => by
  obtain ⟨y, hy⟩ := h2'
  obtain ⟨p1, e2, h3, h4, h5, h6, _⟩ := hy hf
  obtain ⟨p, e1, h7, h8, h9, h10, h11⟩ := h1 (by rw [h3])
  rw [h3] at h8
  simp only [Rs.mk.injEq, and_true] at h8
  have : p1 = e1 := by omega
  subst this
  refine ⟨p, e2, h7, h4, by omega, h6, fun hpk => (h11 hpk).seq h5 (fun he hk => ?_) hs⟩
  obtain ⟨p2, e3, h12, h13, _, _, h15⟩ := h2 r1 he rfl hf
  rw [h3] at h12
  rw [h4] at h13
  simp only [Rs.mk.injEq, and_true] at h12 h13
  have a1 : p2 = p1 := by omega
  have a2 : e3 = e2 := by omega
  subst a1 a2
  exact h15 hk

theorem numF_three (bs : List Nat) (lim : Nat) {s : Rs} (h : s.ft = 3) : (numF bs lim s).2.ft = 3 := by rw [numF_no (by rw [h]; decide)]; exact h
theorem optF_three (bs : List Nat) (b : Bool) {s : Rs} (h : s.ft = 3) : (optF b bs s).2.ft = 3 := by
  cases b with
  | true => exact numF_three bs _ h
  | false => exact h
theorem byF_three (bs : List Nat) (c : Nat) {s : Rs} (h : s.ft = 3) : (byF bs c s).2.ft = 3 := by rw [byF_no (by rw [h]; decide)]; exact h
theorem spF_three (bs : List Nat) {s : Rs} (h : s.ft = 3) : (spF bs s).2.ft = 3 := by rw [spF_no (by rw [h]; decide)]; exact h
theorem itF_three (bs : List Nat) {s : Rs} (h : s.ft = 3) : (itF bs s).2.ft = 3 := byF_three _ _ (numF_three _ _ (numF_three _ _ (numF_three _ _ h)))
theorem itsF_three (bs : List Nat) : ∀ (k : Nat) (acc : List It) {s : Rs}, s.ft = 3 → (itsF bs k acc s).2.ft = 3
  | 0, _, _, h => h
  | k + 1, acc, s, h => by rw [itsF]; exact itsF_three bs k _ (itF_three bs h)
theorem itemsF_three (bs : List Nat) {s : Rs} (h : s.ft = 3) : (itemsF bs s).2.ft = 3 := itsF_three bs _ _ (numF_three _ _ h)

theorem numF_stg {bs : List Nat} (hb : ∀ z ∈ bs, z < 256) (k lim : Nat) (s : Rs) : Stg bs k s (numF bs lim s) (numF (bs.take k) lim s) := fun hf => by
  obtain ⟨p, e, h1, h2, h3, h4, _⟩ := numF_once hb hf
  refine ⟨p, e, h1, h2, by omega, h4, fun hpk => ?_⟩
  subst h1
  obtain ⟨n, e', f, ht⟩ : ∃ n e' f, Leb.take bs (p : Int) = (n, e', f) := ⟨_, _, _, rfl⟩
  by_cases hf0 : f = 0
  · subst hf0
    by_cases hn : lim < n
    · rw [numF_lim rfl ht hn] at h2; simp at h2
    · have hk := numF_ok (lim := lim) (s := ⟨(p : Int), 0⟩) rfl ht hn
      rw [hk] at h2 ⊢
      simp only [Rs.mk.injEq, and_true] at h2
      have he : e' = e := by omega
      subst he
      refine ⟨fun h => ?_, fun h => ?_⟩
      · rw [numF_ok rfl (take_keep hb ht h) hn]
      · rw [numF_bad rfl (take_short hb ht hpk h) (by decide)]
        rfl
  · rw [numF_bad rfl ht hf0] at h2
    simp only [Rs.mk.injEq] at h2
    omega
theorem optF_stg {bs : List Nat} (hb : ∀ z ∈ bs, z < 256) (k : Nat) (b : Bool) (s : Rs) (hx : s.fine bs) : Stg bs k s (optF b bs s) (optF b (bs.take k) s) := by
  cases b with
  | true => exact numF_stg hb k _ s
  | false =>
    intro hf
    obtain ⟨p, e, h1, h2, h3, h4, _⟩ := OnceR.refl hx hf
    exact ⟨p, e, h1, h2, h3, h4, fun hpk => ⟨fun _ => rfl, fun h => by
      rw [h1] at h2
      simp only [Rs.mk.injEq, and_true] at h2
      omega⟩⟩
theorem byF_stg {bs : List Nat} (k c : Nat) (s : Rs) (hx : s.fine bs) : Stg bs k s (byF bs c s) (byF (bs.take k) c s) := fun hf => by
  obtain ⟨p, h1, h2, h3, h4, _⟩ := byF_once hx hf
  refine ⟨p, p + c, h1, h2, by omega, h3, fun hpk => ?_⟩
  subst h1
  refine ⟨fun h => ?_, fun h => ?_⟩
  · rw [byF_ok rfl (by simp only [List.length_take]; omega), byF_ok rfl (by simp only; omega)]
    simp only [Int.toNat_natCast, List.drop_take, List.take_take]
    congr 2
    omega
  · rw [byF_short rfl (by simp only [List.length_take]; omega)]
theorem one_keep {bs : List Nat} (hb : ∀ z ∈ bs, z < 256) {p y k : Nat} {a s : Sp} (h : takeOne bs (p : Int) a = (s, (y : Int), 0)) : (y ≤ k → takeOne (bs.take k) (p : Int) a = (s, (y : Int), 0)) ∧ (p ≤ k → k < y → (takeOne (bs.take k) (p : Int) a).2.2 = 3) ∧ p ≤ y ∧ y ≤ bs.length := by
  obtain ⟨q, n, k1, n2, k2, h1, h2, h3, h4, h5, h6, h7, h8, h9⟩ := takeOne_fit hb h
  obtain ⟨q1, a1, a2, a3, _⟩ := Leb.take_once bs _ hb _ _ h2
  obtain ⟨q2, b1, b2, b3, _⟩ := Leb.take_once bs _ hb _ _ h3
  have hy : y = k2 + 1 := by omega
  subst hy
  refine ⟨fun hk => ?_, fun hpk hk => ?_, by omega, by omega⟩
  · have g : (bs.take k).getD k2 0 = bs.getD k2 0 := by simp only [List.getD_eq_getElem?_getD, List.getElem?_take_of_lt (show k2 < k from by omega)]
    rw [one_ok (take_keep hb h2 (by omega)) (take_keep hb h3 (by omega)) (by rw [List.length_take]; omega) (by rw [g]; exact ⟨h7, h8, h9⟩), g, h6]
    simp
  · by_cases c1 : k < k1
    · rw [one_1 (take_short hb h2 hpk c1) (by decide)]
      rfl
    · by_cases c2 : k < k2
      · rw [one_2 (take_keep hb h2 (by omega)) (take_short hb h3 (by omega) c2) (by decide)]
        rfl
      · rw [one_3 (take_keep hb h2 (by omega)) (take_keep hb h3 (by omega)) (by rw [List.length_take]; omega)]
theorem takeL_keep {bs : List Nat} (hb : ∀ z ∈ bs, z < 256) : ∀ (n y : Nat) (p : Sp) (acc l : List Sp) (z k : Nat), takeL bs n (y : Int) p acc = (l, (z : Int), 0) → y ≤ bs.length → (z ≤ k → takeL (bs.take k) n (y : Int) p acc = (l, (z : Int), 0)) ∧ (y ≤ k → k < z → (takeL (bs.take k) n (y : Int) p acc).2.2 = 3) ∧ y ≤ z
  | 0, y, p, acc, l, z, k, h, _ => by
    rw [takeL] at h
    simp only [Prod.mk.injEq, and_true] at h
    obtain ⟨rfl, h⟩ := h
    refine ⟨fun _ => by rw [takeL, h], fun h1 h2 => by omega, by omega⟩
  | n + 1, y, p, acc, l, z, k, h, hy => by
    obtain ⟨s, x, f, ho⟩ : ∃ s x f, takeOne bs (y : Int) p = (s, x, f) := ⟨_, _, _, rfl⟩
    by_cases hf : f = 0
    · subst hf
      obtain ⟨q, n1, k1, n2, k2, _, _, _, h4, h5, _⟩ := takeOne_fit hb ho
      obtain ⟨x', hx'⟩ : ∃ x' : Nat, x = (x' : Int) := ⟨k2 + 1, by omega⟩
      subst hx'
      rw [takeL_ok ho] at h
      obtain ⟨o1, o2, o3, o4⟩ := one_keep (k := k) hb ho
      obtain ⟨r1, r2, r3⟩ := takeL_keep hb n x' s (acc ++ [s]) l z k h o4
      refine ⟨fun hk => ?_, fun hyk hk => ?_, by omega⟩
      · rw [takeL_ok (o1 (by omega))]
        exact r1 hk
      · by_cases c1 : k < x'
        · have h3 := o2 hyk c1
          rcases ht : takeOne (bs.take k) (y : Int) p with ⟨s', x'', f'⟩
          rw [ht] at h3
          simp only at h3
          subst h3
          rw [takeL_bad ht (by decide)]
        · rw [takeL_ok (o1 (by omega))]
          exact r2 (by omega) hk
    · rw [takeL_bad ho hf] at h
      simp only [Prod.mk.injEq] at h
      exact absurd h.2.2 hf
theorem spF_stg {bs : List Nat} (hb : ∀ z ∈ bs, z < 256) (k : Nat) (s : Rs) (hx : s.fine bs) : Stg bs k s (spF bs s) (spF (bs.take k) s) := fun hf => by
  obtain ⟨p, e, h1, h2, h3, h4, _⟩ := spF_once hb hx hf
  refine ⟨p, e, h1, h2, h3, h4, fun hpk => ?_⟩
  subst h1
  rw [spF_ok rfl] at h2
  rw [spF_ok rfl, spF_ok rfl]
  simp only at h2 ⊢
  obtain ⟨l, z, f, hT⟩ : ∃ l z f, takeM bs (p : Int) = (l, z, f) := ⟨_, _, _, rfl⟩
  rw [hT] at h2 ⊢
  simp only [Rs.mk.injEq] at h2 ⊢
  obtain ⟨rfl, rfl⟩ := h2
  obtain ⟨n, k1, f, h5⟩ : ∃ n k f, Leb.take bs (p : Int) = (n, k, f) := ⟨_, _, _, rfl⟩
  by_cases hf0 : f = 0
  · subst hf0
    by_cases hn : 256 < n
    · rw [takeM_2 h5 hn] at hT; simp at hT
    · rw [takeM_3 h5 hn] at hT
      obtain ⟨q, _, a2, a3, _⟩ := Leb.take_once bs _ hb _ _ h5
      obtain ⟨r1, r2, r3⟩ := takeL_keep hb n k1 Sp.zr [] l e k hT a3
      refine ⟨fun h => ?_, fun h => ?_⟩
      · rw [takeM_3 (take_keep hb h5 (by omega)) hn, r1 h]
      · by_cases c1 : k < k1
        · rw [takeM_1 (take_short hb h5 hpk c1) (by decide)]
          rfl
        · rw [takeM_3 (take_keep hb h5 (by omega)) hn]
          exact r2 (by omega) h
  · rw [takeM_1 h5 hf0] at hT
    simp only [Prod.mk.injEq] at hT
    omega
end Go.Proofs.Ytmpljoljpgbamaa
