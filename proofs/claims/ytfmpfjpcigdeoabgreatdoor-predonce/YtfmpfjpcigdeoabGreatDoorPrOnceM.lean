/- Predicates and their bytes: what is taken for terms is just their bytes; cut short they are told so. Plain mathematics. -/
import Derived.Test.YtfmpfjpcigdeoabGreatDoorPrTake3
namespace Go.Proofs.YtfmpfjpcigdeoabGreatDoor
set_option maxRecDepth 100000

theorem textAt_put (b pre zs : List Nat) (h : b.length ≤ 200) : textAt (pre ++ (Leb.leb b.length ++ b) ++ zs) (pre.length : Int) = (b, pre.length + (Leb.leb b.length ++ b).length, 0) := by
  have hT := Leb.take_put b.length (by omega) pre (b ++ zs)
  have e : pre ++ (Leb.leb b.length ++ b) ++ zs = pre ++ Leb.leb b.length ++ (b ++ zs) := by simp only [List.append_assoc]
  rw [e]
  unfold textAt
  rw [range_def, hT, rng, if_neg (by omega), if_neg (by simp only [List.length_append]; omega)]
  show (((pre ++ Leb.leb b.length ++ (b ++ zs)).drop (pre.length + (Leb.leb b.length).length)).take (pre.length + (Leb.leb b.length).length + b.length - (pre.length + (Leb.leb b.length).length)), _, 0) = _
  rw [Nat.add_sub_cancel_left, ← List.length_append, List.drop_left, List.take_left]
  simp only [List.length_append]
  congr 2
  omega
theorem valAt_put {v : Val} {L : List Nat} (h : Val.Bytes v L) (pre zs : List Nat) : valAt (pre ++ L ++ zs) (pre.length : Int) = (v, pre.length + L.length, 0) := by
  cases h using Val.Bytes.elim with
  | whole n h =>
    rw [List.append_assoc, List.append_assoc, valAt_body]
    unfold bodyAt
    rw [if_pos rfl, ← List.append_assoc, Leb.take_put (fold n) (fold_lt h) (pre ++ [1]) zs]
    show ((⟨1, unfold (fold n), ⟨#[]⟩, false, 0, 0⟩ : Val), _, 0) = _
    rw [unfold_fold]
    simp only [List.length_append, Nat.add_assoc]
  | words l h hb =>
    rw [List.append_assoc, List.append_assoc, valAt_body]
    unfold bodyAt
    rw [if_neg (by decide), if_pos rfl, ← List.append_assoc, textAt_put l (pre ++ [2]) zs h]
    simp only [List.length_append]
    rw [Nat.add_assoc pre.length]
  | truth t =>
    rw [List.append_assoc, List.append_assoc, valAt_body]
    unfold bodyAt truthAt
    rw [if_neg (by decide), if_neg (by decide), if_pos rfl, if_neg (by simp)]
    have e : ((pre ++ [3]) ++ ([t.toNat] ++ zs)).getD (pre ++ [3]).length 0 = t.toNat := by simp [List.getD]
    rw [e]
    simp only [List.length_append, List.length_singleton]
    cases t <;> rfl
  | point x y hx hy =>
    rw [List.append_assoc, List.append_assoc, valAt_body]
    unfold bodyAt
    rw [if_neg (by decide), if_neg (by decide), if_neg (by decide), if_pos rfl]
    have h1 := partAt_put hx (pre ++ [4]) (Leb.leb (fold y) ++ zs)
    have h2 := partAt_put hy (pre ++ [4] ++ Leb.leb (fold x)) zs
    have e : (pre ++ [4]) ++ (Leb.leb (fold x) ++ Leb.leb (fold y) ++ zs) = pre ++ [4] ++ Leb.leb (fold x) ++ (Leb.leb (fold y) ++ zs) := by simp only [List.append_assoc]
    have e2 : (pre ++ [4]) ++ (Leb.leb (fold x) ++ Leb.leb (fold y) ++ zs) = pre ++ [4] ++ Leb.leb (fold x) ++ Leb.leb (fold y) ++ zs := by simp only [List.append_assoc]
    rw [← e] at h1
    rw [← e2, List.length_append (bs := Leb.leb (fold x))] at h2
    rw [pointAt_ok h1 h2]
    simp only [List.length_append, Nat.add_assoc]

theorem textAt_cut (b pre : List Nat) (h : b.length ≤ 200) (k : Nat) (hk : k < (Leb.leb b.length ++ b).length) : textAt (pre ++ (Leb.leb b.length ++ b).take k) (pre.length : Int) = ([], 0, 3) := by
  unfold textAt
  rw [range_cut b pre 200 k h (by decide) hk]
  rfl


theorem getD_mid (pre zs : List Nat) (c : Nat) : (pre ++ (c :: zs)).getD pre.length 0 = c := by simp [List.getD]

/-- An atom behind its Op, and its bytes. -/
def AtomB (q : Tm) (R : List Nat) : Prop := ∃ l0 : List Nat, l0.length ≤ 200 ∧ (∀ y ∈ l0, y < 256) ∧ nameOk (str l0) ∧ q.op = 3 ∧ q.name = str l0 ∧
  (((q.cmp = 1 ∨ q.cmp = 2) ∧ q.val = Val.zero ∧ q.radius = 0 ∧ R = (Leb.leb l0.length ++ l0) ++ [q.cmp]) ∨
  ((3 ≤ q.cmp ∧ q.cmp ≤ 10) ∧ mayB q.cmp q.val.kind = true ∧ ∃ L, Val.Bytes q.val L ∧ ((q.cmp ≠ 10 ∧ q.radius = 0 ∧ R = (Leb.leb l0.length ++ l0) ++ (q.cmp :: L)) ∨ (q.cmp = 10 ∧ q.radius ≤ 1048576 ∧ R = (Leb.leb l0.length ++ l0) ++ (q.cmp :: (L ++ Leb.leb q.radius))))))
def TermB (q : Tm) (R : List Nat) : Prop := ((1 ≤ q.op ∧ q.op ≤ 6 ∧ q.op ≠ 3) ∧ q = Tm.plain q.op ∧ R = [q.op]) ∨ ∃ A, AtomB q A ∧ R = 3 :: A
def TermsB : List Tm → List Nat → Prop
  | [], R => R = []
  | q :: r, R => ∃ A B, TermB q A ∧ TermsB r B ∧ R = A ++ B
def PredB (l : List Tm) (M : List Nat) : Prop := ∃ R, l.length ≤ 48 ∧ checkT l = 0 ∧ TermsB l R ∧ M = Leb.leb l.length ++ R

theorem take_mid {bs A B : List Nat} {p : Nat} (hA : (bs.drop p).take A.length = A) (hB : (bs.drop (p + A.length)).take B.length = B) : (bs.drop p).take (A ++ B).length = A ++ B := drop_take_append hA hB
theorem take_byte {bs B : List Nat} {p : Nat} (hp : p < bs.length) (hB : (bs.drop (p + 1)).take B.length = B) : (bs.drop p).take (bs.getD p 0 :: B).length = bs.getD p 0 :: B := drop_take_append (A := [bs.getD p 0]) (drop_take_one hp) hB

theorem radAt_once {bs : List Nat} {p r k : Nat} (hb : ∀ y ∈ bs, y < 256) (h : radAt bs p = (r, k, 0)) : r ≤ 1048576 ∧ k ≤ bs.length ∧ k = p + (Leb.leb r).length ∧ (bs.drop p).take (Leb.leb r).length = Leb.leb r := by
  unfold radAt at h
  rcases hL : Leb.take bs (p : Int) with ⟨n, k2, f⟩
  rw [hL] at h
  cases f with
  | succ f => simp at h
  | zero =>
    by_cases hbig : 1048576 < n
    · simp [hbig] at h
    · simp only [if_neg hbig, Prod.mk.injEq, and_true] at h
      obtain ⟨rfl, rfl⟩ := h
      obtain ⟨p', hp', i2, i3, i4, i5, i6⟩ := Leb.take_once bs _ hb n k2 hL
      obtain rfl : p = p' := by omega
      exact ⟨by omega, i3, i6, by rw [← i5]; congr 1; rw [i5]; omega⟩

theorem atomAt_once {bs : List Nat} {p : Nat} {q : Tm} {k : Nat} (hb : ∀ y ∈ bs, y < 256) (h : atomAt bs p = (q, k, 0)) : ∃ R, AtomB q R ∧ k = p + R.length ∧ (bs.drop p).take R.length = R := by
  rcases hT : textAt bs (p : Int) with ⟨l, j, f⟩
  by_cases hf : f = 0
  · subst hf
    by_cases hn : nameOk (str l)
    · rw [atomAt_on hT hn] at h
      obtain ⟨t1, t2, hj, t4, t5⟩ := textAt_once hb hT
      by_cases h1 : j = bs.length
      · rw [if_pos h1] at h; simp at h
      · rw [if_neg h1] at h
        have hjl : j < bs.length := by omega
        have hby := take_byte (B := []) hjl (by simp)
        have hcv : bs.getD j 0 = bs.getD j 0 := rfl
        by_cases h2 : bs.getD j 0 < 1 ∨ 10 < bs.getD j 0
        · rw [if_pos h2] at h; simp at h
        · rw [if_neg h2] at h
          by_cases h3 : bs.getD j 0 ≤ 2
          · rw [if_pos h3] at h
            simp only [Prod.mk.injEq, and_true] at h
            obtain ⟨rfl, rfl⟩ := h
            refine ⟨(Leb.leb l.length ++ l) ++ [bs.getD j 0], ⟨l, t1, t2, hn, rfl, rfl, .inl ⟨by dsimp only; omega, rfl, rfl, rfl⟩⟩, ?_, take_mid t5 (by rw [← t4]; exact hby)⟩
            rw [List.length_append, List.length_singleton, t4]; omega
          · rw [if_neg h3] at h
            rcases hV : valFor bs (j + 1) (bs.getD j 0) with ⟨v, i, f⟩
            by_cases hf : f = 0
            · subst hf
              obtain ⟨hi, hv, hm⟩ := valFor_place hb hV
              obtain ⟨L, hLb, v1, v2, v3⟩ := valAt_once hb hv
              by_cases h10 : bs.getD j 0 = 10
              · rcases hR : radAt bs i with ⟨r, i2, f2⟩
                rw [restAt_near hV h10 hR] at h
                by_cases hf2 : f2 = 0
                · subst hf2
                  rw [if_pos rfl] at h
                  simp only [Prod.mk.injEq, and_true] at h
                  obtain ⟨rfl, rfl⟩ := h
                  obtain ⟨r1, r2, r3, r4⟩ := radAt_once hb hR
                  refine ⟨(Leb.leb l.length ++ l) ++ (bs.getD j 0 :: (L ++ Leb.leb r)), ⟨l, t1, t2, hn, rfl, rfl, .inr ⟨by dsimp only; omega, hm, L, hLb, .inr ⟨h10, r1, rfl⟩⟩⟩, ?_, take_mid t5 (by rw [← t4]; exact take_byte hjl (take_mid v3 (by rw [← v2]; exact r4)))⟩
                  simp only [List.length_append, List.length_cons] at t4 ⊢
                  omega
                · rw [if_neg hf2] at h
                  simp only [Prod.mk.injEq] at h
                  exact absurd h.2.2 hf2
              · rw [restAt_plain hV h10] at h
                simp only [Prod.mk.injEq, and_true] at h
                obtain ⟨rfl, rfl⟩ := h
                refine ⟨(Leb.leb l.length ++ l) ++ (bs.getD j 0 :: L), ⟨l, t1, t2, hn, rfl, rfl, .inr ⟨by dsimp only; omega, hm, L, hLb, .inl ⟨h10, rfl, rfl⟩⟩⟩, ?_, take_mid t5 (by rw [← t4]; exact take_byte hjl v3)⟩
                simp only [List.length_append, List.length_cons] at t4 ⊢
                omega
            · rw [restAt_err hV hf] at h
              simp only [Prod.mk.injEq] at h
              exact absurd h.2.2 hf
    · rw [atomAt_name hT hn] at h
      simp at h
  · rw [atomAt_text hT hf] at h
    simp only [Prod.mk.injEq] at h
    exact absurd h.2.2 hf
theorem termAt_once {bs : List Nat} {p : Nat} {q : Tm} {k : Nat} (hb : ∀ y ∈ bs, y < 256) (hp : p ≤ bs.length) (h : termAt bs p = (q, k, 0)) : ∃ R, TermB q R ∧ k = p + R.length ∧ (bs.drop p).take R.length = R := by
  unfold termAt at h
  by_cases h1 : p = bs.length
  · rw [if_pos h1] at h; simp at h
  · rw [if_neg h1] at h
    have hpl : p < bs.length := by omega
    by_cases h2 : bs.getD p 0 < 1 ∨ 6 < bs.getD p 0
    · rw [if_pos h2] at h; simp at h
    · rw [if_neg h2] at h
      by_cases h3 : bs.getD p 0 = 3
      · rw [if_pos h3] at h
        obtain ⟨A, hA, e1, e2⟩ := atomAt_once hb h
        have := take_byte hpl e2
        rw [h3] at this
        exact ⟨3 :: A, .inr ⟨A, hA, rfl⟩, by rw [List.length_cons]; omega, this⟩
      · rw [if_neg h3] at h
        simp only [Prod.mk.injEq, and_true] at h
        obtain ⟨rfl, rfl⟩ := h
        exact ⟨[bs.getD p 0], .inl ⟨by dsimp only [Tm.plain]; omega, rfl, rfl⟩, rfl, take_byte (B := []) hpl (by simp)⟩
theorem goT_once {bs : List Nat} (hb : ∀ y ∈ bs, y < 256) : ∀ (n p : Nat) (acc l : List Tm) (k : Nat), p ≤ bs.length → goT bs n p acc = (l, k, 0) → ∃ l' R, l = acc ++ l' ∧ l'.length = n ∧ TermsB l' R ∧ k = p + R.length ∧ k ≤ bs.length ∧ (bs.drop p).take R.length = R := by
  intro n
  induction n with
  | zero =>
    intro p acc l k hp h
    rw [goT] at h
    simp only [Prod.mk.injEq, and_true] at h
    obtain ⟨rfl, rfl⟩ := h
    exact ⟨[], [], by simp, rfl, rfl, by simp, hp, by simp⟩
  | succ n ih =>
    intro p acc l k hp h
    rcases hq : termAt bs p with ⟨q, k1, f⟩
    by_cases hf : f = 0
    · subst hf
      rw [goT_ok hq] at h
      obtain ⟨A, hA, e1, e2⟩ := termAt_once hb hp hq
      obtain ⟨l', R, i1, i2, i3, i4, i5, i6⟩ := ih k1 (acc ++ [q]) l k (termAt_fine hb hp hq).1 h
      exact ⟨q :: l', A ++ R, by rw [i1]; simp, by simp [i2], ⟨A, R, hA, i3, rfl⟩, by rw [List.length_append]; omega, i5, take_mid e2 (by rw [← e1]; exact i6)⟩
    · rw [goT_err hq hf] at h
      simp only [Prod.mk.injEq] at h
      exact absurd h.2.2 hf
end Go.Proofs.YtfmpfjpcigdeoabGreatDoor
