/- A pack of texts: PrOnceM PrCutM. -/
import Derived.Test.YtfmpfjpcigdeoabGreatDoorTakeP
/- Predicates and their bytes: what is taken for terms is just their bytes; cut short they are told so. Plain mathematics. -/
namespace Go.Proofs.YtfmpfjpcigdeoabGreatDoor
set_option maxRecDepth 100000

theorem textAt_put (b pre zs : List Nat) (h : b.length ≤ 200) : textAt (pre ++ (Leb.leb b.length ++ b) ++ zs) (pre.length : Int) = (b, pre.length + (Leb.leb b.length ++ b).length, 0) := by
  have hT := Leb.take_put b.length (by omega) pre (b ++ zs)
  have e : pre ++ (Leb.leb b.length ++ b) ++ zs = pre ++ Leb.leb b.length ++ (b ++ zs) := by simp only [List.append_assoc]
  rw [e]
  unfold textAt
  rw [range_def, hT, rng, if_neg (by omega), if_neg (by simp only [List.length_append]; omega)]
  show (((pre ++ Leb.leb b.length ++ (b ++ zs)).drop (pre.length + (Leb.leb b.length).length)).take (pre.length + (Leb.leb b.length).length + b.length - (pre.length + (Leb.leb b.length).length)), _, 0) = _
  rw [Nat.add_sub_cancel_left, ← List.length_append, List.drop_left, List.take_left]
  simp only [List.length_append]
  congr 2
  omega
theorem valAt_put {v : Val} {L : List Nat} (h : Val.Bytes v L) (pre zs : List Nat) : valAt (pre ++ L ++ zs) (pre.length : Int) = (v, pre.length + L.length, 0) := by
  cases h using Val.Bytes.elim with
  | whole n h =>
    rw [List.append_assoc, List.append_assoc, valAt_body]
    unfold bodyAt
    rw [if_pos rfl, ← List.append_assoc, Leb.take_put (fold n) (fold_lt h) (pre ++ [1]) zs]
    show ((⟨1, unfold (fold n), ⟨#[]⟩, false, 0, 0⟩ : Val), _, 0) = _
    rw [unfold_fold]
    simp only [List.length_append, Nat.add_assoc]
  | words l h hb =>
    rw [List.append_assoc, List.append_assoc, valAt_body]
    unfold bodyAt
    rw [if_neg (by decide), if_pos rfl, ← List.append_assoc, textAt_put l (pre ++ [2]) zs h]
    simp only [List.length_append]
    rw [Nat.add_assoc pre.length]
  | truth t =>
    rw [List.append_assoc, List.append_assoc, valAt_body]
    unfold bodyAt truthAt
    rw [if_neg (by decide), if_neg (by decide), if_pos rfl, if_neg (by simp)]
    have e : ((pre ++ [3]) ++ ([t.toNat] ++ zs)).getD (pre ++ [3]).length 0 = t.toNat := by simp [List.getD]
    rw [e]
    simp only [List.length_append, List.length_singleton]
    cases t <;> rfl
  | point x y hx hy =>
    rw [List.append_assoc, List.append_assoc, valAt_body]
    unfold bodyAt
    rw [if_neg (by decide), if_neg (by decide), if_neg (by decide), if_pos rfl]
    have h1 := partAt_put hx (pre ++ [4]) (Leb.leb (fold y) ++ zs)
    have h2 := partAt_put hy (pre ++ [4] ++ Leb.leb (fold x)) zs
    have e : (pre ++ [4]) ++ (Leb.leb (fold x) ++ Leb.leb (fold y) ++ zs) = pre ++ [4] ++ Leb.leb (fold x) ++ (Leb.leb (fold y) ++ zs) := by simp only [List.append_assoc]
    have e2 : (pre ++ [4]) ++ (Leb.leb (fold x) ++ Leb.leb (fold y) ++ zs) = pre ++ [4] ++ Leb.leb (fold x) ++ Leb.leb (fold y) ++ zs := by simp only [List.append_assoc]
    rw [← e] at h1
    rw [← e2, List.length_append (bs := Leb.leb (fold x))] at h2
    rw [pointAt_ok h1 h2]
    simp only [List.length_append, Nat.add_assoc]

theorem textAt_cut (b pre : List Nat) (h : b.length ≤ 200) (k : Nat) (hk : k < (Leb.leb b.length ++ b).length) : textAt (pre ++ (Leb.leb b.length ++ b).take k) (pre.length : Int) = ([], 0, 3) := by
  unfold textAt
  rw [range_cut b pre 200 k h (by decide) hk]
  rfl


theorem getD_mid (pre zs : List Nat) (c : Nat) : (pre ++ (c :: zs)).getD pre.length 0 = c := by simp [List.getD]

/-- An atom behind its Op, and its bytes. -/
def AtomB (q : Tm) (R : List Nat) : Prop := ∃ l0 : List Nat, l0.length ≤ 200 ∧ (∀ y ∈ l0, y < 256) ∧ nameOk (str l0) ∧ q.op = 3 ∧ q.name = str l0 ∧
  (((q.cmp = 1 ∨ q.cmp = 2) ∧ q.val = Val.zero ∧ q.radius = 0 ∧ R = (Leb.leb l0.length ++ l0) ++ [q.cmp]) ∨
  ((3 ≤ q.cmp ∧ q.cmp ≤ 10) ∧ mayB q.cmp q.val.kind = true ∧ ∃ L, Val.Bytes q.val L ∧ ((q.cmp ≠ 10 ∧ q.radius = 0 ∧ R = (Leb.leb l0.length ++ l0) ++ (q.cmp :: L)) ∨ (q.cmp = 10 ∧ q.radius ≤ 1048576 ∧ R = (Leb.leb l0.length ++ l0) ++ (q.cmp :: (L ++ Leb.leb q.radius))))))
def TermB (q : Tm) (R : List Nat) : Prop := ((1 ≤ q.op ∧ q.op ≤ 6 ∧ q.op ≠ 3) ∧ q = Tm.plain q.op ∧ R = [q.op]) ∨ ∃ A, AtomB q A ∧ R = 3 :: A
def TermsB : List Tm → List Nat → Prop
  | [], R => R = []
  | q :: r, R => ∃ A B, TermB q A ∧ TermsB r B ∧ R = A ++ B
def PredB (l : List Tm) (M : List Nat) : Prop := ∃ R, l.length ≤ 48 ∧ checkT l = 0 ∧ TermsB l R ∧ M = Leb.leb l.length ++ R

theorem take_mid {bs A B : List Nat} {p : Nat} (hA : (bs.drop p).take A.length = A) (hB : (bs.drop (p + A.length)).take B.length = B) : (bs.drop p).take (A ++ B).length = A ++ B := drop_take_append hA hB
theorem take_byte {bs B : List Nat} {p : Nat} (hp : p < bs.length) (hB : (bs.drop (p + 1)).take B.length = B) : (bs.drop p).take (bs.getD p 0 :: B).length = bs.getD p 0 :: B := drop_take_append (A := [bs.getD p 0]) (drop_take_one hp) hB

theorem radAt_once {bs : List Nat} {p r k : Nat} (hb : ∀ y ∈ bs, y < 256) (h : radAt bs p = (r, k, 0)) : r ≤ 1048576 ∧ k ≤ bs.length ∧ k = p + (Leb.leb r).length ∧ (bs.drop p).take (Leb.leb r).length = Leb.leb r := by
  unfold radAt at h
  rcases hL : Leb.take bs (p : Int) with ⟨n, k2, f⟩
  rw [hL] at h
  cases f with
  | succ f => simp at h
  | zero =>
    by_cases hbig : 1048576 < n
    · simp [hbig] at h
    · simp only [if_neg hbig, Prod.mk.injEq, and_true] at h
      obtain ⟨rfl, rfl⟩ := h
      obtain ⟨p', hp', i2, i3, i4, i5, i6⟩ := Leb.take_once bs _ hb n k2 hL
      obtain rfl : p = p' := by omega
      exact ⟨by omega, i3, i6, by rw [← i5]; congr 1; rw [i5]; omega⟩

theorem atomAt_once {bs : List Nat} {p : Nat} {q : Tm} {k : Nat} (hb : ∀ y ∈ bs, y < 256) (h : atomAt bs p = (q, k, 0)) : ∃ R, AtomB q R ∧ k = p + R.length ∧ (bs.drop p).take R.length = R := by
  rcases hT : textAt bs (p : Int) with ⟨l, j, f⟩
  by_cases hf : f = 0
  · subst hf
    by_cases hn : nameOk (str l)
    · rw [atomAt_on hT hn] at h
      obtain ⟨t1, t2, hj, t4, t5⟩ := textAt_once hb hT
      by_cases h1 : j = bs.length
      · rw [if_pos h1] at h; simp at h
      · rw [if_neg h1] at h
        have hjl : j < bs.length := by omega
        have hby := take_byte (B := []) hjl (by simp)
        have hcv : bs.getD j 0 = bs.getD j 0 := rfl
        by_cases h2 : bs.getD j 0 < 1 ∨ 10 < bs.getD j 0
        · rw [if_pos h2] at h; simp at h
        · rw [if_neg h2] at h
          by_cases h3 : bs.getD j 0 ≤ 2
          · rw [if_pos h3] at h
            simp only [Prod.mk.injEq, and_true] at h
            obtain ⟨rfl, rfl⟩ := h
            refine ⟨(Leb.leb l.length ++ l) ++ [bs.getD j 0], ⟨l, t1, t2, hn, rfl, rfl, .inl ⟨by dsimp only; omega, rfl, rfl, rfl⟩⟩, ?_, take_mid t5 (by rw [← t4]; exact hby)⟩
            rw [List.length_append, List.length_singleton, t4]; omega
          · rw [if_neg h3] at h
            rcases hV : valFor bs (j + 1) (bs.getD j 0) with ⟨v, i, f⟩
            by_cases hf : f = 0
            · subst hf
              obtain ⟨hi, hv, hm⟩ := valFor_place hb hV
              obtain ⟨L, hLb, v1, v2, v3⟩ := valAt_once hb hv
              by_cases h10 : bs.getD j 0 = 10
              · rcases hR : radAt bs i with ⟨r, i2, f2⟩
                rw [restAt_near hV h10 hR] at h
                by_cases hf2 : f2 = 0
                · subst hf2
                  rw [if_pos rfl] at h
                  simp only [Prod.mk.injEq, and_true] at h
                  obtain ⟨rfl, rfl⟩ := h
                  obtain ⟨r1, r2, r3, r4⟩ := radAt_once hb hR
                  refine ⟨(Leb.leb l.length ++ l) ++ (bs.getD j 0 :: (L ++ Leb.leb r)), ⟨l, t1, t2, hn, rfl, rfl, .inr ⟨by dsimp only; omega, hm, L, hLb, .inr ⟨h10, r1, rfl⟩⟩⟩, ?_, take_mid t5 (by rw [← t4]; exact take_byte hjl (take_mid v3 (by rw [← v2]; exact r4)))⟩
                  simp only [List.length_append, List.length_cons] at t4 ⊢
                  omega
                · rw [if_neg hf2] at h
                  simp only [Prod.mk.injEq] at h
                  exact absurd h.2.2 hf2
              · rw [restAt_plain hV h10] at h
                simp only [Prod.mk.injEq, and_true] at h
                obtain ⟨rfl, rfl⟩ := h
                refine ⟨(Leb.leb l.length ++ l) ++ (bs.getD j 0 :: L), ⟨l, t1, t2, hn, rfl, rfl, .inr ⟨by dsimp only; omega, hm, L, hLb, .inl ⟨h10, rfl, rfl⟩⟩⟩, ?_, take_mid t5 (by rw [← t4]; exact take_byte hjl v3)⟩
                simp only [List.length_append, List.length_cons] at t4 ⊢
                omega
            · rw [restAt_err hV hf] at h
              simp only [Prod.mk.injEq] at h
              exact absurd h.2.2 hf
    · rw [atomAt_name hT hn] at h
      simp at h
  · rw [atomAt_text hT hf] at h
    simp only [Prod.mk.injEq] at h
    exact absurd h.2.2 hf
theorem termAt_once {bs : List Nat} {p : Nat} {q : Tm} {k : Nat} (hb : ∀ y ∈ bs, y < 256) (hp : p ≤ bs.length) (h : termAt bs p = (q, k, 0)) : ∃ R, TermB q R ∧ k = p + R.length ∧ (bs.drop p).take R.length = R := by
  unfold termAt at h
  by_cases h1 : p = bs.length
  · rw [if_pos h1] at h; simp at h
  · rw [if_neg h1] at h
    have hpl : p < bs.length := by omega
    by_cases h2 : bs.getD p 0 < 1 ∨ 6 < bs.getD p 0
    · rw [if_pos h2] at h; simp at h
    · rw [if_neg h2] at h
      by_cases h3 : bs.getD p 0 = 3
      · rw [if_pos h3] at h
        obtain ⟨A, hA, e1, e2⟩ := atomAt_once hb h
        have := take_byte hpl e2
        rw [h3] at this
        exact ⟨3 :: A, .inr ⟨A, hA, rfl⟩, by rw [List.length_cons]; omega, this⟩
      · rw [if_neg h3] at h
        simp only [Prod.mk.injEq, and_true] at h
        obtain ⟨rfl, rfl⟩ := h
        exact ⟨[bs.getD p 0], .inl ⟨by dsimp only [Tm.plain]; omega, rfl, rfl⟩, rfl, take_byte (B := []) hpl (by simp)⟩
theorem goT_once {bs : List Nat} (hb : ∀ y ∈ bs, y < 256) : ∀ (n p : Nat) (acc l : List Tm) (k : Nat), p ≤ bs.length → goT bs n p acc = (l, k, 0) → ∃ l' R, l = acc ++ l' ∧ l'.length = n ∧ TermsB l' R ∧ k = p + R.length ∧ k ≤ bs.length ∧ (bs.drop p).take R.length = R := by
  intro n
  induction n with
  | zero =>
    intro p acc l k hp h
    rw [goT] at h
    simp only [Prod.mk.injEq, and_true] at h
    obtain ⟨rfl, rfl⟩ := h
    exact ⟨[], [], by simp, rfl, rfl, by simp, hp, by simp⟩
  | succ n ih =>
    intro p acc l k hp h
    rcases hq : termAt bs p with ⟨q, k1, f⟩
    by_cases hf : f = 0
    · subst hf
      rw [goT_ok hq] at h
      obtain ⟨A, hA, e1, e2⟩ := termAt_once hb hp hq
      obtain ⟨l', R, i1, i2, i3, i4, i5, i6⟩ := ih k1 (acc ++ [q]) l k (termAt_fine hb hp hq).1 h
      exact ⟨q :: l', A ++ R, by rw [i1]; simp, by simp [i2], ⟨A, R, hA, i3, rfl⟩, by rw [List.length_append]; omega, i5, take_mid e2 (by rw [← e1]; exact i6)⟩
    · rw [goT_err hq hf] at h
      simp only [Prod.mk.injEq] at h
      exact absurd h.2.2 hf
end Go.Proofs.YtfmpfjpcigdeoabGreatDoor
/- Bytes of a predicate: once, and cut short. Plain mathematics. -/
namespace Go.Proofs.YtfmpfjpcigdeoabGreatDoor
set_option maxRecDepth 100000

theorem AtomB.fine {q : Tm} {R : List Nat} (h : AtomB q R) : AtomRight q ∧ q.op = 3 ∧ R.length ≤ 525 := by
  obtain ⟨l0, h1, h2, hn, h3, h4, hc⟩ := h
  have hl := (Leb.leb_length l0.length).2
  rcases hc with ⟨hc, hv, hr, rfl⟩ | ⟨hc, hm, L, hL, hR⟩
  · refine ⟨⟨by rw [h4]; exact hn, by omega, fun h => by omega⟩, h3, ?_⟩
    simp only [List.length_append, List.length_singleton]
    omega
  · have hLl := hL.length
    rcases hR with ⟨h10, hr, rfl⟩ | ⟨h10, hr, rfl⟩
    · refine ⟨⟨by rw [h4]; exact hn, by omega, fun _ => ⟨hL.right, hm, fun h => absurd h h10⟩⟩, h3, ?_⟩
      simp only [List.length_append, List.length_cons]
      omega
    · have hrl := (Leb.leb_length q.radius).2
      refine ⟨⟨by rw [h4]; exact hn, by omega, fun _ => ⟨hL.right, hm, fun _ => hr⟩⟩, h3, ?_⟩
      simp only [List.length_append, List.length_cons]
      omega
theorem TermB.fine {q : Tm} {R : List Nat} (h : TermB q R) : TmRight q ∧ R.length ≤ 526 := by
  rcases h with ⟨ho, hq, rfl⟩ | ⟨A, hA, rfl⟩
  · exact ⟨⟨⟨ho.1, ho.2.1⟩, fun h => absurd h ho.2.2⟩, by simp⟩
  · obtain ⟨h1, h2, h3⟩ := hA.fine
    exact ⟨⟨by rw [h2]; omega, fun _ => h1⟩, by rw [List.length_cons]; omega⟩
theorem TermsB.fine : ∀ {l : List Tm} {R : List Nat}, TermsB l R → (∀ q ∈ l, TmRight q) ∧ R.length ≤ l.length * 526
  | [], R, h => by
    have h : R = [] := h
    subst h
    exact ⟨fun q h => (by cases h), by simp⟩
  | q :: r, R, h => by
    obtain ⟨A, B, hA, hB, rfl⟩ := h
    obtain ⟨i1, i2⟩ := TermsB.fine hB
    obtain ⟨j1, j2⟩ := hA.fine
    refine ⟨fun q' h => ?_, by rw [List.length_append, List.length_cons]; omega⟩
    rcases List.mem_cons.1 h with rfl | h
    · exact j1
    · exact i1 q' h

theorem predAt_once {bs : List Nat} {p : Nat} {l : List Tm} {k : Nat} (hb : ∀ y ∈ bs, y < 256) (h : predAt bs (p : Int) = (l, k, 0)) : ∃ M, PredB l M ∧ k = p + M.length ∧ k ≤ bs.length ∧ (bs.drop p).take M.length = M := by
  rcases hT : Leb.take bs (p : Int) with ⟨n, k0, f⟩
  by_cases hf : f = 0
  · subst hf
    by_cases h48 : 48 < n
    · rw [predAt_limit hT h48] at h; simp at h
    · rw [predAt_go hT h48] at h
      obtain ⟨p', hp', i2, i3, i4, i5, i6⟩ := Leb.take_once bs _ hb n k0 hT
      obtain rfl : p = p' := by omega
      rcases hg : goT bs n k0 [] with ⟨l1, j, f⟩
      rw [hg] at h
      unfold endT at h
      by_cases hf : f = 0
      · subst hf
        rw [if_pos rfl] at h
        by_cases hc : checkT l1 = 0
        · rw [if_pos hc] at h
          simp only [Prod.mk.injEq, and_true] at h
          obtain ⟨rfl, rfl⟩ := h
          obtain ⟨l', R, e1, e2, e3, e4, e5, e6⟩ := goT_once hb n k0 [] _ _ i3 hg
          rw [List.nil_append] at e1
          subst e1
          refine ⟨_, ⟨R, by omega, hc, e3, rfl⟩, ?_, e5, ?_⟩
          · rw [e2, List.length_append]; omega
          · rw [e2]
            refine take_mid ?_ ?_
            · rw [← i5]; congr 1; rw [i5]; omega
            · rw [← i6]; exact e6
        · rw [if_neg hc] at h
          simp only [Prod.mk.injEq] at h
          exact absurd h.2.2 hc
      · rw [if_neg hf] at h
        simp only [Prod.mk.injEq] at h
        exact absurd h.2.2 hf
  · rw [predAt_err hT hf] at h
    simp only [Prod.mk.injEq] at h
    exact absurd h.2.2 hf
theorem predAt_bad {bs : List Nat} {x : Int} {l : List Tm} {k f : Nat} (h : predAt bs x = (l, k, f)) (hf : f ≠ 0) : l = [] ∧ k = 0 := by
  unfold predAt at h
  repeat' split at h
  all_goals (simp only [Prod.mk.injEq] at h; first | exact ⟨h.1.symm, h.2.1.symm⟩ | exact absurd h.2.2.symm hf)

/-! Put, whatever stands behind; and cut short. -/
theorem radAt_put (r : Nat) (hr : r ≤ 1048576) (pre zs : List Nat) : radAt (pre ++ Leb.leb r ++ zs) pre.length = (r, pre.length + (Leb.leb r).length, 0) := by
  unfold radAt
  rw [Leb.take_put r (by omega) pre zs]
  exact if_neg (by omega)
theorem radAt_cut (r : Nat) (hr : r ≤ 1048576) (pre : List Nat) (j : Nat) (hj : j < (Leb.leb r).length) : radAt (pre ++ (Leb.leb r).take j) pre.length = (0, 0, 3) := by
  unfold radAt
  rw [Leb.take_cut r (by omega) pre j hj]
  rfl
theorem valFor_put {v : Val} {L : List Nat} (h : Val.Bytes v L) {c : Nat} (hm : mayB c v.kind = true) (pre zs : List Nat) : valFor (pre ++ L ++ zs) pre.length c = (v, pre.length + L.length, 0) := by
  unfold valFor
  rw [valAt_put h pre zs]
  exact if_pos hm
theorem valFor_cut {v : Val} {L : List Nat} (h : Val.Bytes v L) (c : Nat) (pre : List Nat) (j : Nat) (hj : j < L.length) : valFor (pre ++ L.take j) pre.length c = (Val.zero, 0, 3) := by
  unfold valFor
  rw [valAt_cut h pre j hj]
  rfl

theorem atomAt_put {q : Tm} {R : List Nat} (h : AtomB q R) (pre zs : List Nat) : atomAt (pre ++ R ++ zs) pre.length = (q, pre.length + R.length, 0) := by
  obtain ⟨op, nm, c, v, r⟩ := q
  obtain ⟨l0, h1, h2, hn, h3, h4, hc⟩ := h
  simp only at h3 h4 hc
  subst h3
  subst h4
  rcases hc with ⟨hc, hv, hr, rfl⟩ | ⟨hc, hm, L, hL, hR⟩
  · subst hv
    subst hr
    have e : pre ++ ((Leb.leb l0.length ++ l0) ++ [c]) ++ zs = pre ++ (Leb.leb l0.length ++ l0) ++ (c :: zs) := by simp only [List.append_assoc, List.cons_append, List.nil_append]
    rw [e]
    have hT := textAt_put l0 pre (c :: zs) h1
    rw [atomAt_on hT hn, ← List.length_append, getD_mid, if_neg (by simp), if_neg (by omega), if_pos (by omega)]
    simp only [List.length_append, List.length_singleton, Nat.add_assoc]
  · rcases hR with ⟨h10, hr, rfl⟩ | ⟨h10, hr, rfl⟩
    · subst hr
      have e : pre ++ ((Leb.leb l0.length ++ l0) ++ (c :: L)) ++ zs = pre ++ (Leb.leb l0.length ++ l0) ++ (c :: (L ++ zs)) := by simp only [List.append_assoc, List.cons_append]
      rw [e]
      have hT := textAt_put l0 pre (c :: (L ++ zs)) h1
      have hV := valFor_put hL hm (pre ++ (Leb.leb l0.length ++ l0) ++ [c]) zs
      have e2 : pre ++ (Leb.leb l0.length ++ l0) ++ [c] ++ L ++ zs = pre ++ (Leb.leb l0.length ++ l0) ++ (c :: (L ++ zs)) := by simp only [List.append_assoc, List.cons_append, List.nil_append]
      rw [e2, List.length_append (bs := [c]), List.length_singleton] at hV
      rw [atomAt_on hT hn, ← List.length_append, getD_mid, if_neg (by simp), if_neg (by omega), if_neg (by omega), restAt_plain hV h10]
      simp only [List.length_append, List.length_cons, Nat.add_assoc, Nat.add_comm 1]
    · have e : pre ++ ((Leb.leb l0.length ++ l0) ++ (c :: (L ++ Leb.leb r))) ++ zs = pre ++ (Leb.leb l0.length ++ l0) ++ (c :: (L ++ (Leb.leb r ++ zs))) := by simp only [List.append_assoc, List.cons_append]
      rw [e]
      have hT := textAt_put l0 pre (c :: (L ++ (Leb.leb r ++ zs))) h1
      have hV := valFor_put hL hm (pre ++ (Leb.leb l0.length ++ l0) ++ [c]) (Leb.leb r ++ zs)
      have e2 : pre ++ (Leb.leb l0.length ++ l0) ++ [c] ++ L ++ (Leb.leb r ++ zs) = pre ++ (Leb.leb l0.length ++ l0) ++ (c :: (L ++ (Leb.leb r ++ zs))) := by simp only [List.append_assoc, List.cons_append, List.nil_append]
      have hRd := radAt_put r hr (pre ++ (Leb.leb l0.length ++ l0) ++ [c] ++ L) zs
      have e3 : pre ++ (Leb.leb l0.length ++ l0) ++ [c] ++ L ++ Leb.leb r ++ zs = pre ++ (Leb.leb l0.length ++ l0) ++ (c :: (L ++ (Leb.leb r ++ zs))) := by simp only [List.append_assoc, List.cons_append, List.nil_append]
      rw [e2, List.length_append (bs := [c]), List.length_singleton] at hV
      rw [e3, List.length_append (bs := L), List.length_append (bs := [c]), List.length_singleton] at hRd
      rw [atomAt_on hT hn, ← List.length_append, getD_mid, if_neg (by simp), if_neg (by omega), if_neg (by omega), restAt_near hV h10 hRd, if_pos rfl]
      simp only [List.length_append, List.length_cons, Nat.add_assoc, Nat.add_comm 1]
theorem atomAt_cut {q : Tm} {R : List Nat} (h : AtomB q R) (pre : List Nat) (j : Nat) (hj : j < R.length) : atomAt (pre ++ R.take j) pre.length = (Tm.zero, 0, 3) := by
  obtain ⟨op, nm, c, v, r⟩ := q
  obtain ⟨l0, h1, h2, hn, h3, h4, hc⟩ := h
  simp only at h3 h4 hc
  subst h3
  subst h4
  have key : ∀ Y : List Nat, ∀ i, i < (c :: Y).length → (0 < i → restAt (pre ++ (Leb.leb l0.length ++ l0) ++ (c :: Y.take (i - 1))) (str l0) c ((pre ++ (Leb.leb l0.length ++ l0)).length + 1) = (Tm.zero, 0, 3) ∧ 3 ≤ c ∧ c ≤ 10) → atomAt (pre ++ (Leb.leb l0.length ++ l0) ++ (c :: Y).take i) pre.length = (Tm.zero, 0, 3) := by
    intro Y i hi hk
    have hT := textAt_put l0 pre ((c :: Y).take i) h1
    rw [atomAt_on hT hn, ← List.length_append]
    cases i with
    | zero => rw [if_pos (by simp)]
    | succ i =>
      obtain ⟨k1, k2, k3⟩ := hk (by omega)
      rw [List.take_succ_cons, getD_mid, if_neg (by simp), if_neg (by omega), if_neg (by omega)]
      exact k1
  have go : ∀ Y : List Nat, R = (Leb.leb l0.length ++ l0) ++ (c :: Y) → (∀ i, i < Y.length → restAt (pre ++ (Leb.leb l0.length ++ l0) ++ (c :: Y.take i)) (str l0) c ((pre ++ (Leb.leb l0.length ++ l0)).length + 1) = (Tm.zero, 0, 3) ∧ 3 ≤ c ∧ c ≤ 10) → atomAt (pre ++ R.take j) pre.length = (Tm.zero, 0, 3) := by
    intro Y hR hk
    subst hR
    by_cases hjl : j < (Leb.leb l0.length ++ l0).length
    · rw [List.take_append_of_le_length (by omega)]
      exact atomAt_text (textAt_cut l0 pre h1 j hjl) (by decide)
    · rw [List.take_append, List.take_of_length_le (by omega), ← List.append_assoc]
      rw [List.length_append, List.length_cons] at hj
      exact key Y _ (by rw [List.length_cons]; omega) fun h0 => hk _ (by omega)
  rcases hc with ⟨hc, hv, hr, hR⟩ | ⟨hc, hm, L, hL, hR⟩
  · exact go [] hR fun i hi => by simp at hi
  · rcases hR with ⟨h10, hr, hR⟩ | ⟨h10, hr, hR⟩
    · refine go L hR fun i hi => ⟨?_, hc.1, hc.2⟩
      have hV := valFor_cut hL c (pre ++ (Leb.leb l0.length ++ l0) ++ [c]) i hi
      have e2 : pre ++ (Leb.leb l0.length ++ l0) ++ [c] ++ L.take i = pre ++ (Leb.leb l0.length ++ l0) ++ (c :: L.take i) := by simp only [List.append_assoc, List.cons_append, List.nil_append]
      rw [e2, List.length_append (bs := [c]), List.length_singleton] at hV
      exact restAt_err hV (by decide)
    · refine go (L ++ Leb.leb r) hR fun i hi => ⟨?_, hc.1, hc.2⟩
      by_cases hil : i < L.length
      · rw [List.take_append_of_le_length (by omega)]
        have hV := valFor_cut hL c (pre ++ (Leb.leb l0.length ++ l0) ++ [c]) i hil
        have e2 : pre ++ (Leb.leb l0.length ++ l0) ++ [c] ++ L.take i = pre ++ (Leb.leb l0.length ++ l0) ++ (c :: L.take i) := by simp only [List.append_assoc, List.cons_append, List.nil_append]
        rw [e2, List.length_append (bs := [c]), List.length_singleton] at hV
        exact restAt_err hV (by decide)
      · rw [List.take_append, List.take_of_length_le (by omega)]
        rw [List.length_append] at hi
        have hV := valFor_put hL hm (pre ++ (Leb.leb l0.length ++ l0) ++ [c]) ((Leb.leb r).take (i - L.length))
        have hRd := radAt_cut r hr (pre ++ (Leb.leb l0.length ++ l0) ++ [c] ++ L) (i - L.length) (by omega)
        have e2 : pre ++ (Leb.leb l0.length ++ l0) ++ [c] ++ L ++ (Leb.leb r).take (i - L.length) = pre ++ (Leb.leb l0.length ++ l0) ++ (c :: (L ++ (Leb.leb r).take (i - L.length))) := by simp only [List.append_assoc, List.cons_append, List.nil_append]
        rw [e2, List.length_append (bs := [c]), List.length_singleton] at hV
        rw [e2, List.length_append (bs := L), List.length_append (bs := [c]), List.length_singleton] at hRd
        rw [restAt_near hV h10 hRd]
        rfl
theorem termAt_put {q : Tm} {R : List Nat} (h : TermB q R) (pre zs : List Nat) : termAt (pre ++ R ++ zs) pre.length = (q, pre.length + R.length, 0) := by
  rcases h with ⟨ho, hq, rfl⟩ | ⟨A, hA, rfl⟩
  · have e : pre ++ [q.op] ++ zs = pre ++ (q.op :: zs) := by simp only [List.append_assoc, List.cons_append, List.nil_append]
    rw [e]
    unfold termAt
    rw [getD_mid, if_neg (by simp), if_neg (by omega), if_neg ho.2.2, ← hq]
    rfl
  · have e : pre ++ (3 :: A) ++ zs = pre ++ (3 :: (A ++ zs)) := by simp only [List.append_assoc, List.cons_append]
    have e2 : pre ++ (3 :: (A ++ zs)) = (pre ++ [3]) ++ A ++ zs := by simp only [List.append_assoc, List.cons_append, List.nil_append]
    rw [e]
    unfold termAt
    rw [getD_mid, if_neg (by simp), if_neg (by omega), if_pos rfl]
    have := atomAt_put hA (pre ++ [3]) zs
    rw [← e2, List.length_append (bs := [3])] at this
    rw [show pre.length + 1 = pre.length + [3].length from rfl, this]
    simp only [List.length_cons, List.length_nil, Nat.add_assoc, Nat.add_comm 1]
theorem termAt_cut {q : Tm} {R : List Nat} (h : TermB q R) (pre : List Nat) (j : Nat) (hj : j < R.length) : termAt (pre ++ R.take j) pre.length = (Tm.zero, 0, 3) := by
  cases j with
  | zero =>
    unfold termAt
    rw [List.take_zero, List.append_nil, if_pos rfl]
  | succ j =>
    rcases h with ⟨ho, hq, rfl⟩ | ⟨A, hA, rfl⟩
    · simp at hj
    · rw [List.take_succ_cons]
      unfold termAt
      rw [getD_mid, if_neg (by simp), if_neg (by omega), if_pos rfl]
      have := atomAt_cut hA (pre ++ [3]) j (by rw [List.length_cons] at hj; omega)
      have e2 : pre ++ [3] ++ A.take j = pre ++ (3 :: A.take j) := by simp only [List.append_assoc, List.cons_append, List.nil_append]
      rw [e2, List.length_append (bs := [3])] at this
      exact this
theorem goT_cut : ∀ {l : List Tm} {R : List Nat}, TermsB l R → ∀ (pre : List Nat) (acc : List Tm) (j : Nat), j < R.length → goT (pre ++ R.take j) l.length pre.length acc = ([], 0, 3)
  | [], R, h, pre, acc, j, hj => by
    have h : R = [] := h
    subst h
    simp at hj
  | q :: r, R, h, pre, acc, j, hj => by
    obtain ⟨A, B, hA, hB, rfl⟩ := h
    rw [List.length_cons]
    by_cases hc : j < A.length
    · rw [List.take_append_of_le_length (by omega)]
      exact goT_err (termAt_cut hA pre j hc) (by decide)
    · have e : pre ++ (A ++ B).take j = pre ++ A ++ B.take (j - A.length) := by
        rw [List.take_append, List.take_of_length_le (by omega)]
        simp only [List.append_assoc]
      rw [e, goT_ok (termAt_put hA pre _), ← List.length_append]
      exact goT_cut hB (pre ++ A) _ _ (by rw [List.length_append] at hj; omega)
theorem predAt_cut {l : List Tm} {M : List Nat} (h : PredB l M) (j : Nat) (hj : j < M.length) : predAt (M.take j) 0 = ([], 0, 3) := by
  obtain ⟨R, h48, hck, hT, rfl⟩ := h
  by_cases h1 : j < (Leb.leb l.length).length
  · rw [List.take_append_of_le_length (by omega)]
    have hT := Leb.take_cut l.length (by omega) [] j h1
    exact predAt_err hT (by decide)
  · have e1 : (Leb.leb l.length ++ R).take j = Leb.leb l.length ++ R.take (j - (Leb.leb l.length).length) := by
      rw [List.take_append, List.take_of_length_le (by omega)]
    rw [e1]
    rw [List.length_append] at hj
    have hL := Leb.take_put l.length (by omega) [] (R.take (j - (Leb.leb l.length).length))
    rw [List.nil_append, List.length_nil, Nat.zero_add] at hL
    have hG := predAt_go hL (by omega)
    rw [goT_cut hT (Leb.leb l.length) [] _ (by omega)] at hG
    exact hG
end Go.Proofs.YtfmpfjpcigdeoabGreatDoor
