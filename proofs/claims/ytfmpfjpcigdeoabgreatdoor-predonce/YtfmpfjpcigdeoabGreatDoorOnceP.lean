/- A pack of texts: PrOnceM PrCutM PrPut PrPut2. -/
import Derived.Test.YtfmpfjpcigdeoabGreatDoorTakeP
import Derived.Test.YtfmpfjpcigdeoabGreatDoorValPutB
/- Predicates and their bytes: what is taken for terms is just their bytes; cut short they are told so. Plain mathematics. -/
namespace Go.Proofs.YtfmpfjpcigdeoabGreatDoor
set_option maxRecDepth 100000

theorem textAt_put (b pre zs : List Nat) (h : b.length ≤ 200) : textAt (pre ++ (Leb.leb b.length ++ b) ++ zs) (pre.length : Int) = (b, pre.length + (Leb.leb b.length ++ b).length, 0) := by
  have hT := Leb.take_put b.length (by omega) pre (b ++ zs)
  have e : pre ++ (Leb.leb b.length ++ b) ++ zs = pre ++ Leb.leb b.length ++ (b ++ zs) := by simp only [List.append_assoc]
  rw [e]
  unfold textAt
  rw [range_def, hT, rng, if_neg (by omega), if_neg (by simp only [List.length_append]; omega)]
  show (((pre ++ Leb.leb b.length ++ (b ++ zs)).drop (pre.length + (Leb.leb b.length).length)).take (pre.length + (Leb.leb b.length).length + b.length - (pre.length + (Leb.leb b.length).length)), _, 0) = _
  rw [Nat.add_sub_cancel_left, ← List.length_append, List.drop_left, List.take_left]
  simp only [List.length_append]
  congr 2
  omega
theorem valAt_put {v : Val} {L : List Nat} (h : Val.Bytes v L) (pre zs : List Nat) : valAt (pre ++ L ++ zs) (pre.length : Int) = (v, pre.length + L.length, 0) := by
  cases h using Val.Bytes.elim with
  | whole n h =>
    rw [List.append_assoc, List.append_assoc, valAt_body]
    unfold bodyAt
    rw [if_pos rfl, ← List.append_assoc, Leb.take_put (fold n) (fold_lt h) (pre ++ [1]) zs]
    show ((⟨1, unfold (fold n), ⟨#[]⟩, false, 0, 0⟩ : Val), _, 0) = _
    rw [unfold_fold]
    simp only [List.length_append, Nat.add_assoc]
  | words l h hb =>
    rw [List.append_assoc, List.append_assoc, valAt_body]
    unfold bodyAt
    rw [if_neg (by decide), if_pos rfl, ← List.append_assoc, textAt_put l (pre ++ [2]) zs h]
    simp only [List.length_append]
    rw [Nat.add_assoc pre.length]
  | truth t =>
    rw [List.append_assoc, List.append_assoc, valAt_body]
    unfold bodyAt truthAt
    rw [if_neg (by decide), if_neg (by decide), if_pos rfl, if_neg (by simp)]
    have e : ((pre ++ [3]) ++ ([t.toNat] ++ zs)).getD (pre ++ [3]).length 0 = t.toNat := by simp [List.getD]
    rw [e]
    simp only [List.length_append, List.length_singleton]
    cases t <;> rfl
  | point x y hx hy =>
    rw [List.append_assoc, List.append_assoc, valAt_body]
    unfold bodyAt
    rw [if_neg (by decide), if_neg (by decide), if_neg (by decide), if_pos rfl]
    have h1 := partAt_put hx (pre ++ [4]) (Leb.leb (fold y) ++ zs)
    have h2 := partAt_put hy (pre ++ [4] ++ Leb.leb (fold x)) zs
    have e : (pre ++ [4]) ++ (Leb.leb (fold x) ++ Leb.leb (fold y) ++ zs) = pre ++ [4] ++ Leb.leb (fold x) ++ (Leb.leb (fold y) ++ zs) := by simp only [List.append_assoc]
    have e2 : (pre ++ [4]) ++ (Leb.leb (fold x) ++ Leb.leb (fold y) ++ zs) = pre ++ [4] ++ Leb.leb (fold x) ++ Leb.leb (fold y) ++ zs := by simp only [List.append_assoc]
    rw [← e] at h1
    rw [← e2, List.length_append (bs := Leb.leb (fold x))] at h2
    rw [pointAt_ok h1 h2]
    simp only [List.length_append, Nat.add_assoc]

theorem textAt_cut (b pre : List Nat) (h : b.length ≤ 200) (k : Nat) (hk : k < (Leb.leb b.length ++ b).length) : textAt (pre ++ (Leb.leb b.length ++ b).take k) (pre.length : Int) = ([], 0, 3) := by
  unfold textAt
  rw [range_cut b pre 200 k h (by decide) hk]
  rfl


theorem getD_mid (pre zs : List Nat) (c : Nat) : (pre ++ (c :: zs)).getD pre.length 0 = c := by simp [List.getD]

/-- An atom behind its Op, and its bytes. -/
def AtomB (q : Tm) (R : List Nat) : Prop := ∃ l0 : List Nat, l0.length ≤ 200 ∧ (∀ y ∈ l0, y < 256) ∧ nameOk (str l0) ∧ q.op = 3 ∧ q.name = str l0 ∧
  (((q.cmp = 1 ∨ q.cmp = 2) ∧ q.val = Val.zero ∧ q.radius = 0 ∧ R = (Leb.leb l0.length ++ l0) ++ [q.cmp]) ∨
  ((3 ≤ q.cmp ∧ q.cmp ≤ 10) ∧ mayB q.cmp q.val.kind = true ∧ ∃ L, Val.Bytes q.val L ∧ ((q.cmp ≠ 10 ∧ q.radius = 0 ∧ R = (Leb.leb l0.length ++ l0) ++ (q.cmp :: L)) ∨ (q.cmp = 10 ∧ q.radius ≤ 1048576 ∧ R = (Leb.leb l0.length ++ l0) ++ (q.cmp :: (L ++ Leb.leb q.radius))))))
def TermB (q : Tm) (R : List Nat) : Prop := ((1 ≤ q.op ∧ q.op ≤ 6 ∧ q.op ≠ 3) ∧ q = Tm.plain q.op ∧ R = [q.op]) ∨ ∃ A, AtomB q A ∧ R = 3 :: A
def TermsB : List Tm → List Nat → Prop
  | [], R => R = []
  | q :: r, R => ∃ A B, TermB q A ∧ TermsB r B ∧ R = A ++ B
def PredB (l : List Tm) (M : List Nat) : Prop := ∃ R, l.length ≤ 48 ∧ checkT l = 0 ∧ TermsB l R ∧ M = Leb.leb l.length ++ R

theorem take_mid {bs A B : List Nat} {p : Nat} (hA : (bs.drop p).take A.length = A) (hB : (bs.drop (p + A.length)).take B.length = B) : (bs.drop p).take (A ++ B).length = A ++ B := drop_take_append hA hB
theorem take_byte {bs B : List Nat} {p : Nat} (hp : p < bs.length) (hB : (bs.drop (p + 1)).take B.length = B) : (bs.drop p).take (bs.getD p 0 :: B).length = bs.getD p 0 :: B := drop_take_append (A := [bs.getD p 0]) (drop_take_one hp) hB

theorem radAt_once {bs : List Nat} {p r k : Nat} (hb : ∀ y ∈ bs, y < 256) (h : radAt bs p = (r, k, 0)) : r ≤ 1048576 ∧ k ≤ bs.length ∧ k = p + (Leb.leb r).length ∧ (bs.drop p).take (Leb.leb r).length = Leb.leb r := by
  unfold radAt at h
  rcases hL : Leb.take bs (p : Int) with ⟨n, k2, f⟩
  rw [hL] at h
  cases f with
  | succ f => simp at h
  | zero =>
    by_cases hbig : 1048576 < n
    · simp [hbig] at h
    · simp only [if_neg hbig, Prod.mk.injEq, and_true] at h
      obtain ⟨rfl, rfl⟩ := h
      obtain ⟨p', hp', i2, i3, i4, i5, i6⟩ := Leb.take_once bs _ hb n k2 hL
      obtain rfl : p = p' := by omega
      exact ⟨by omega, i3, i6, by rw [← i5]; congr 1; rw [i5]; omega⟩

theorem atomAt_once {bs : List Nat} {p : Nat} {q : Tm} {k : Nat} (hb : ∀ y ∈ bs, y < 256) (h : atomAt bs p = (q, k, 0)) : ∃ R, AtomB q R ∧ k = p + R.length ∧ (bs.drop p).take R.length = R := by
  rcases hT : textAt bs (p : Int) with ⟨l, j, f⟩
  by_cases hf : f = 0
  · subst hf
    by_cases hn : nameOk (str l)
    · rw [atomAt_on hT hn] at h
      obtain ⟨t1, t2, hj, t4, t5⟩ := textAt_once hb hT
      by_cases h1 : j = bs.length
      · rw [if_pos h1] at h; simp at h
      · rw [if_neg h1] at h
        have hjl : j < bs.length := by omega
        have hby := take_byte (B := []) hjl (by simp)
        have hcv : bs.getD j 0 = bs.getD j 0 := rfl
        by_cases h2 : bs.getD j 0 < 1 ∨ 10 < bs.getD j 0
        · rw [if_pos h2] at h; simp at h
        · rw [if_neg h2] at h
          by_cases h3 : bs.getD j 0 ≤ 2
          · rw [if_pos h3] at h
            simp only [Prod.mk.injEq, and_true] at h
            obtain ⟨rfl, rfl⟩ := h
            refine ⟨(Leb.leb l.length ++ l) ++ [bs.getD j 0], ⟨l, t1, t2, hn, rfl, rfl, .inl ⟨by dsimp only; omega, rfl, rfl, rfl⟩⟩, ?_, take_mid t5 (by rw [← t4]; exact hby)⟩
            rw [List.length_append, List.length_singleton, t4]; omega
          · rw [if_neg h3] at h
            rcases hV : valFor bs (j + 1) (bs.getD j 0) with ⟨v, i, f⟩
            by_cases hf : f = 0
            · subst hf
              obtain ⟨hi, hv, hm⟩ := valFor_place hb hV
              obtain ⟨L, hLb, v1, v2, v3⟩ := valAt_once hb hv
              by_cases h10 : bs.getD j 0 = 10
              · rcases hR : radAt bs i with ⟨r, i2, f2⟩
                rw [restAt_near hV h10 hR] at h
                by_cases hf2 : f2 = 0
                · subst hf2
                  rw [if_pos rfl] at h
                  simp only [Prod.mk.injEq, and_true] at h
                  obtain ⟨rfl, rfl⟩ := h
                  obtain ⟨r1, r2, r3, r4⟩ := radAt_once hb hR
                  refine ⟨(Leb.leb l.length ++ l) ++ (bs.getD j 0 :: (L ++ Leb.leb r)), ⟨l, t1, t2, hn, rfl, rfl, .inr ⟨by dsimp only; omega, hm, L, hLb, .inr ⟨h10, r1, rfl⟩⟩⟩, ?_, take_mid t5 (by rw [← t4]; exact take_byte hjl (take_mid v3 (by rw [← v2]; exact r4)))⟩
                  simp only [List.length_append, List.length_cons] at t4 ⊢
                  omega
                · rw [if_neg hf2] at h
                  simp only [Prod.mk.injEq] at h
                  exact absurd h.2.2 hf2
              · rw [restAt_plain hV h10] at h
                simp only [Prod.mk.injEq, and_true] at h
                obtain ⟨rfl, rfl⟩ := h
                refine ⟨(Leb.leb l.length ++ l) ++ (bs.getD j 0 :: L), ⟨l, t1, t2, hn, rfl, rfl, .inr ⟨by dsimp only; omega, hm, L, hLb, .inl ⟨h10, rfl, rfl⟩⟩⟩, ?_, take_mid t5 (by rw [← t4]; exact take_byte hjl v3)⟩
                simp only [List.length_append, List.length_cons] at t4 ⊢
                omega
            · rw [restAt_err hV hf] at h
              simp only [Prod.mk.injEq] at h
              exact absurd h.2.2 hf
    · rw [atomAt_name hT hn] at h
      simp at h
  · rw [atomAt_text hT hf] at h
    simp only [Prod.mk.injEq] at h
    exact absurd h.2.2 hf
theorem termAt_once {bs : List Nat} {p : Nat} {q : Tm} {k : Nat} (hb : ∀ y ∈ bs, y < 256) (hp : p ≤ bs.length) (h : termAt bs p = (q, k, 0)) : ∃ R, TermB q R ∧ k = p + R.length ∧ (bs.drop p).take R.length = R := by
  unfold termAt at h
  by_cases h1 : p = bs.length
  · rw [if_pos h1] at h; simp at h
  · rw [if_neg h1] at h
    have hpl : p < bs.length := by omega
    by_cases h2 : bs.getD p 0 < 1 ∨ 6 < bs.getD p 0
    · rw [if_pos h2] at h; simp at h
    · rw [if_neg h2] at h
      by_cases h3 : bs.getD p 0 = 3
      · rw [if_pos h3] at h
        obtain ⟨A, hA, e1, e2⟩ := atomAt_once hb h
        have := take_byte hpl e2
        rw [h3] at this
        exact ⟨3 :: A, .inr ⟨A, hA, rfl⟩, by rw [List.length_cons]; omega, this⟩
      · rw [if_neg h3] at h
        simp only [Prod.mk.injEq, and_true] at h
        obtain ⟨rfl, rfl⟩ := h
        exact ⟨[bs.getD p 0], .inl ⟨by dsimp only [Tm.plain]; omega, rfl, rfl⟩, rfl, take_byte (B := []) hpl (by simp)⟩
theorem goT_once {bs : List Nat} (hb : ∀ y ∈ bs, y < 256) : ∀ (n p : Nat) (acc l : List Tm) (k : Nat), p ≤ bs.length → goT bs n p acc = (l, k, 0) → ∃ l' R, l = acc ++ l' ∧ l'.length = n ∧ TermsB l' R ∧ k = p + R.length ∧ k ≤ bs.length ∧ (bs.drop p).take R.length = R := by
  intro n
  induction n with
  | zero =>
    intro p acc l k hp h
    rw [goT] at h
    simp only [Prod.mk.injEq, and_true] at h
    obtain ⟨rfl, rfl⟩ := h
    exact ⟨[], [], by simp, rfl, rfl, by simp, hp, by simp⟩
  | succ n ih =>
    intro p acc l k hp h
    rcases hq : termAt bs p with ⟨q, k1, f⟩
    by_cases hf : f = 0
    · subst hf
      rw [goT_ok hq] at h
      obtain ⟨A, hA, e1, e2⟩ := termAt_once hb hp hq
      obtain ⟨l', R, i1, i2, i3, i4, i5, i6⟩ := ih k1 (acc ++ [q]) l k (termAt_fine hb hp hq).1 h
      exact ⟨q :: l', A ++ R, by rw [i1]; simp, by simp [i2], ⟨A, R, hA, i3, rfl⟩, by rw [List.length_append]; omega, i5, take_mid e2 (by rw [← e1]; exact i6)⟩
    · rw [goT_err hq hf] at h
      simp only [Prod.mk.injEq] at h
      exact absurd h.2.2 hf
end Go.Proofs.YtfmpfjpcigdeoabGreatDoor
/- Bytes of a predicate: once, and cut short. Plain mathematics. -/
namespace Go.Proofs.YtfmpfjpcigdeoabGreatDoor
set_option maxRecDepth 100000

theorem AtomB.fine {q : Tm} {R : List Nat} (h : AtomB q R) : AtomRight q ∧ q.op = 3 ∧ R.length ≤ 525 := by
  obtain ⟨l0, h1, h2, hn, h3, h4, hc⟩ := h
  have hl := (Leb.leb_length l0.length).2
  rcases hc with ⟨hc, hv, hr, rfl⟩ | ⟨hc, hm, L, hL, hR⟩
  · refine ⟨⟨by rw [h4]; exact hn, by omega, fun h => by omega⟩, h3, ?_⟩
    simp only [List.length_append, List.length_singleton]
    omega
  · have hLl := hL.length
    rcases hR with ⟨h10, hr, rfl⟩ | ⟨h10, hr, rfl⟩
    · refine ⟨⟨by rw [h4]; exact hn, by omega, fun _ => ⟨hL.right, hm, fun h => absurd h h10⟩⟩, h3, ?_⟩
      simp only [List.length_append, List.length_cons]
      omega
    · have hrl := (Leb.leb_length q.radius).2
      refine ⟨⟨by rw [h4]; exact hn, by omega, fun _ => ⟨hL.right, hm, fun _ => hr⟩⟩, h3, ?_⟩
      simp only [List.length_append, List.length_cons]
      omega
theorem TermB.fine {q : Tm} {R : List Nat} (h : TermB q R) : TmRight q ∧ R.length ≤ 526 := by
  rcases h with ⟨ho, hq, rfl⟩ | ⟨A, hA, rfl⟩
  · exact ⟨⟨⟨ho.1, ho.2.1⟩, fun h => absurd h ho.2.2⟩, by simp⟩
  · obtain ⟨h1, h2, h3⟩ := hA.fine
    exact ⟨⟨by rw [h2]; omega, fun _ => h1⟩, by rw [List.length_cons]; omega⟩
theorem TermsB.fine : ∀ {l : List Tm} {R : List Nat}, TermsB l R → (∀ q ∈ l, TmRight q) ∧ R.length ≤ l.length * 526
  | [], R, h => by
    have h : R = [] := h
    subst h
    exact ⟨fun q h => (by cases h), by simp⟩
  | q :: r, R, h => by
    obtain ⟨A, B, hA, hB, rfl⟩ := h
    obtain ⟨i1, i2⟩ := TermsB.fine hB
    obtain ⟨j1, j2⟩ := hA.fine
    refine ⟨fun q' h => ?_, by rw [List.length_append, List.length_cons]; omega⟩
    rcases List.mem_cons.1 h with rfl | h
    · exact j1
    · exact i1 q' h

theorem predAt_once {bs : List Nat} {p : Nat} {l : List Tm} {k : Nat} (hb : ∀ y ∈ bs, y < 256) (h : predAt bs (p : Int) = (l, k, 0)) : ∃ M, PredB l M ∧ k = p + M.length ∧ k ≤ bs.length ∧ (bs.drop p).take M.length = M := by
  rcases hT : Leb.take bs (p : Int) with ⟨n, k0, f⟩
  by_cases hf : f = 0
  · subst hf
    by_cases h48 : 48 < n
    · rw [predAt_limit hT h48] at h; simp at h
    · rw [predAt_go hT h48] at h
      obtain ⟨p', hp', i2, i3, i4, i5, i6⟩ := Leb.take_once bs _ hb n k0 hT
      obtain rfl : p = p' := by omega
      rcases hg : goT bs n k0 [] with ⟨l1, j, f⟩
      rw [hg] at h
      unfold endT at h
      by_cases hf : f = 0
      · subst hf
        rw [if_pos rfl] at h
        by_cases hc : checkT l1 = 0
        · rw [if_pos hc] at h
          simp only [Prod.mk.injEq, and_true] at h
          obtain ⟨rfl, rfl⟩ := h
          obtain ⟨l', R, e1, e2, e3, e4, e5, e6⟩ := goT_once hb n k0 [] _ _ i3 hg
          rw [List.nil_append] at e1
          subst e1
          refine ⟨_, ⟨R, by omega, hc, e3, rfl⟩, ?_, e5, ?_⟩
          · rw [e2, List.length_append]; omega
          · rw [e2]
            refine take_mid ?_ ?_
            · rw [← i5]; congr 1; rw [i5]; omega
            · rw [← i6]; exact e6
        · rw [if_neg hc] at h
          simp only [Prod.mk.injEq] at h
          exact absurd h.2.2 hc
      · rw [if_neg hf] at h
        simp only [Prod.mk.injEq] at h
        exact absurd h.2.2 hf
  · rw [predAt_err hT hf] at h
    simp only [Prod.mk.injEq] at h
    exact absurd h.2.2 hf
theorem predAt_bad {bs : List Nat} {x : Int} {l : List Tm} {k f : Nat} (h : predAt bs x = (l, k, f)) (hf : f ≠ 0) : l = [] ∧ k = 0 := by
  unfold predAt at h
  repeat' split at h
  all_goals (simp only [Prod.mk.injEq] at h; first | exact ⟨h.1.symm, h.2.1.symm⟩ | exact absurd h.2.2.symm hf)

/-! Put, whatever stands behind; and cut short. -/
theorem radAt_put (r : Nat) (hr : r ≤ 1048576) (pre zs : List Nat) : radAt (pre ++ Leb.leb r ++ zs) pre.length = (r, pre.length + (Leb.leb r).length, 0) := by
  unfold radAt
  rw [Leb.take_put r (by omega) pre zs]
  exact if_neg (by omega)
theorem radAt_cut (r : Nat) (hr : r ≤ 1048576) (pre : List Nat) (j : Nat) (hj : j < (Leb.leb r).length) : radAt (pre ++ (Leb.leb r).take j) pre.length = (0, 0, 3) := by
  unfold radAt
  rw [Leb.take_cut r (by omega) pre j hj]
  rfl
theorem valFor_put {v : Val} {L : List Nat} (h : Val.Bytes v L) {c : Nat} (hm : mayB c v.kind = true) (pre zs : List Nat) : valFor (pre ++ L ++ zs) pre.length c = (v, pre.length + L.length, 0) := by
  unfold valFor
  rw [valAt_put h pre zs]
  exact if_pos hm
theorem valFor_cut {v : Val} {L : List Nat} (h : Val.Bytes v L) (c : Nat) (pre : List Nat) (j : Nat) (hj : j < L.length) : valFor (pre ++ L.take j) pre.length c = (Val.zero, 0, 3) := by
  unfold valFor
  rw [valAt_cut h pre j hj]
  rfl

theorem atomAt_put {q : Tm} {R : List Nat} (h : AtomB q R) (pre zs : List Nat) : atomAt (pre ++ R ++ zs) pre.length = (q, pre.length + R.length, 0) := by
  obtain ⟨op, nm, c, v, r⟩ := q
  obtain ⟨l0, h1, h2, hn, h3, h4, hc⟩ := h
  simp only at h3 h4 hc
  subst h3
  subst h4
  rcases hc with ⟨hc, hv, hr, rfl⟩ | ⟨hc, hm, L, hL, hR⟩
  · subst hv
    subst hr
    have e : pre ++ ((Leb.leb l0.length ++ l0) ++ [c]) ++ zs = pre ++ (Leb.leb l0.length ++ l0) ++ (c :: zs) := by simp only [List.append_assoc, List.cons_append, List.nil_append]
    rw [e]
    have hT := textAt_put l0 pre (c :: zs) h1
    rw [atomAt_on hT hn, ← List.length_append, getD_mid, if_neg (by simp), if_neg (by omega), if_pos (by omega)]
    simp only [List.length_append, List.length_singleton, Nat.add_assoc]
  · rcases hR with ⟨h10, hr, rfl⟩ | ⟨h10, hr, rfl⟩
    · subst hr
      have e : pre ++ ((Leb.leb l0.length ++ l0) ++ (c :: L)) ++ zs = pre ++ (Leb.leb l0.length ++ l0) ++ (c :: (L ++ zs)) := by simp only [List.append_assoc, List.cons_append]
      rw [e]
      have hT := textAt_put l0 pre (c :: (L ++ zs)) h1
      have hV := valFor_put hL hm (pre ++ (Leb.leb l0.length ++ l0) ++ [c]) zs
      have e2 : pre ++ (Leb.leb l0.length ++ l0) ++ [c] ++ L ++ zs = pre ++ (Leb.leb l0.length ++ l0) ++ (c :: (L ++ zs)) := by simp only [List.append_assoc, List.cons_append, List.nil_append]
      rw [e2, List.length_append (bs := [c]), List.length_singleton] at hV
      rw [atomAt_on hT hn, ← List.length_append, getD_mid, if_neg (by simp), if_neg (by omega), if_neg (by omega), restAt_plain hV h10]
      simp only [List.length_append, List.length_cons, Nat.add_assoc, Nat.add_comm 1]
    · have e : pre ++ ((Leb.leb l0.length ++ l0) ++ (c :: (L ++ Leb.leb r))) ++ zs = pre ++ (Leb.leb l0.length ++ l0) ++ (c :: (L ++ (Leb.leb r ++ zs))) := by simp only [List.append_assoc, List.cons_append]
      rw [e]
      have hT := textAt_put l0 pre (c :: (L ++ (Leb.leb r ++ zs))) h1
      have hV := valFor_put hL hm (pre ++ (Leb.leb l0.length ++ l0) ++ [c]) (Leb.leb r ++ zs)
      have e2 : pre ++ (Leb.leb l0.length ++ l0) ++ [c] ++ L ++ (Leb.leb r ++ zs) = pre ++ (Leb.leb l0.length ++ l0) ++ (c :: (L ++ (Leb.leb r ++ zs))) := by simp only [List.append_assoc, List.cons_append, List.nil_append]
      have hRd := radAt_put r hr (pre ++ (Leb.leb l0.length ++ l0) ++ [c] ++ L) zs
      have e3 : pre ++ (Leb.leb l0.length ++ l0) ++ [c] ++ L ++ Leb.leb r ++ zs = pre ++ (Leb.leb l0.length ++ l0) ++ (c :: (L ++ (Leb.leb r ++ zs))) := by simp only [List.append_assoc, List.cons_append, List.nil_append]
      rw [e2, List.length_append (bs := [c]), List.length_singleton] at hV
      rw [e3, List.length_append (bs := L), List.length_append (bs := [c]), List.length_singleton] at hRd
      rw [atomAt_on hT hn, ← List.length_append, getD_mid, if_neg (by simp), if_neg (by omega), if_neg (by omega), restAt_near hV h10 hRd, if_pos rfl]
      simp only [List.length_append, List.length_cons, Nat.add_assoc, Nat.add_comm 1]
theorem atomAt_cut {q : Tm} {R : List Nat} (h : AtomB q R) (pre : List Nat) (j : Nat) (hj : j < R.length) : atomAt (pre ++ R.take j) pre.length = (Tm.zero, 0, 3) := by
  obtain ⟨op, nm, c, v, r⟩ := q
  obtain ⟨l0, h1, h2, hn, h3, h4, hc⟩ := h
  simp only at h3 h4 hc
  subst h3
  subst h4
  have key : ∀ Y : List Nat, ∀ i, i < (c :: Y).length → (0 < i → restAt (pre ++ (Leb.leb l0.length ++ l0) ++ (c :: Y.take (i - 1))) (str l0) c ((pre ++ (Leb.leb l0.length ++ l0)).length + 1) = (Tm.zero, 0, 3) ∧ 3 ≤ c ∧ c ≤ 10) → atomAt (pre ++ (Leb.leb l0.length ++ l0) ++ (c :: Y).take i) pre.length = (Tm.zero, 0, 3) := by
    intro Y i hi hk
    have hT := textAt_put l0 pre ((c :: Y).take i) h1
    rw [atomAt_on hT hn, ← List.length_append]
    cases i with
    | zero => rw [if_pos (by simp)]
    | succ i =>
      obtain ⟨k1, k2, k3⟩ := hk (by omega)
      rw [List.take_succ_cons, getD_mid, if_neg (by simp), if_neg (by omega), if_neg (by omega)]
      exact k1
  have go : ∀ Y : List Nat, R = (Leb.leb l0.length ++ l0) ++ (c :: Y) → (∀ i, i < Y.length → restAt (pre ++ (Leb.leb l0.length ++ l0) ++ (c :: Y.take i)) (str l0) c ((pre ++ (Leb.leb l0.length ++ l0)).length + 1) = (Tm.zero, 0, 3) ∧ 3 ≤ c ∧ c ≤ 10) → atomAt (pre ++ R.take j) pre.length = (Tm.zero, 0, 3) := by
    intro Y hR hk
    subst hR
    by_cases hjl : j < (Leb.leb l0.length ++ l0).length
    · rw [List.take_append_of_le_length (by omega)]
      exact atomAt_text (textAt_cut l0 pre h1 j hjl) (by decide)
    · rw [List.take_append, List.take_of_length_le (by omega), ← List.append_assoc]
      rw [List.length_append, List.length_cons] at hj
      exact key Y _ (by rw [List.length_cons]; omega) fun h0 => hk _ (by omega)
  rcases hc with ⟨hc, hv, hr, hR⟩ | ⟨hc, hm, L, hL, hR⟩
  · exact go [] hR fun i hi => by simp at hi
  · rcases hR with ⟨h10, hr, hR⟩ | ⟨h10, hr, hR⟩
    · refine go L hR fun i hi => ⟨?_, hc.1, hc.2⟩
      have hV := valFor_cut hL c (pre ++ (Leb.leb l0.length ++ l0) ++ [c]) i hi
      have e2 : pre ++ (Leb.leb l0.length ++ l0) ++ [c] ++ L.take i = pre ++ (Leb.leb l0.length ++ l0) ++ (c :: L.take i) := by simp only [List.append_assoc, List.cons_append, List.nil_append]
      rw [e2, List.length_append (bs := [c]), List.length_singleton] at hV
      exact restAt_err hV (by decide)
    · refine go (L ++ Leb.leb r) hR fun i hi => ⟨?_, hc.1, hc.2⟩
      by_cases hil : i < L.length
      · rw [List.take_append_of_le_length (by omega)]
        have hV := valFor_cut hL c (pre ++ (Leb.leb l0.length ++ l0) ++ [c]) i hil
        have e2 : pre ++ (Leb.leb l0.length ++ l0) ++ [c] ++ L.take i = pre ++ (Leb.leb l0.length ++ l0) ++ (c :: L.take i) := by simp only [List.append_assoc, List.cons_append, List.nil_append]
        rw [e2, List.length_append (bs := [c]), List.length_singleton] at hV
        exact restAt_err hV (by decide)
      · rw [List.take_append, List.take_of_length_le (by omega)]
        rw [List.length_append] at hi
        have hV := valFor_put hL hm (pre ++ (Leb.leb l0.length ++ l0) ++ [c]) ((Leb.leb r).take (i - L.length))
        have hRd := radAt_cut r hr (pre ++ (Leb.leb l0.length ++ l0) ++ [c] ++ L) (i - L.length) (by omega)
        have e2 : pre ++ (Leb.leb l0.length ++ l0) ++ [c] ++ L ++ (Leb.leb r).take (i - L.length) = pre ++ (Leb.leb l0.length ++ l0) ++ (c :: (L ++ (Leb.leb r).take (i - L.length))) := by simp only [List.append_assoc, List.cons_append, List.nil_append]
        rw [e2, List.length_append (bs := [c]), List.length_singleton] at hV
        rw [e2, List.length_append (bs := L), List.length_append (bs := [c]), List.length_singleton] at hRd
        rw [restAt_near hV h10 hRd]
        rfl
theorem termAt_put {q : Tm} {R : List Nat} (h : TermB q R) (pre zs : List Nat) : termAt (pre ++ R ++ zs) pre.length = (q, pre.length + R.length, 0) := by
  rcases h with ⟨ho, hq, rfl⟩ | ⟨A, hA, rfl⟩
  · have e : pre ++ [q.op] ++ zs = pre ++ (q.op :: zs) := by simp only [List.append_assoc, List.cons_append, List.nil_append]
    rw [e]
    unfold termAt
    rw [getD_mid, if_neg (by simp), if_neg (by omega), if_neg ho.2.2, ← hq]
    rfl
  · have e : pre ++ (3 :: A) ++ zs = pre ++ (3 :: (A ++ zs)) := by simp only [List.append_assoc, List.cons_append]
    have e2 : pre ++ (3 :: (A ++ zs)) = (pre ++ [3]) ++ A ++ zs := by simp only [List.append_assoc, List.cons_append, List.nil_append]
    rw [e]
    unfold termAt
    rw [getD_mid, if_neg (by simp), if_neg (by omega), if_pos rfl]
    have := atomAt_put hA (pre ++ [3]) zs
    rw [← e2, List.length_append (bs := [3])] at this
    rw [show pre.length + 1 = pre.length + [3].length from rfl, this]
    simp only [List.length_cons, List.length_nil, Nat.add_assoc, Nat.add_comm 1]
theorem termAt_cut {q : Tm} {R : List Nat} (h : TermB q R) (pre : List Nat) (j : Nat) (hj : j < R.length) : termAt (pre ++ R.take j) pre.length = (Tm.zero, 0, 3) := by
  cases j with
  | zero =>
    unfold termAt
    rw [List.take_zero, List.append_nil, if_pos rfl]
  | succ j =>
    rcases h with ⟨ho, hq, rfl⟩ | ⟨A, hA, rfl⟩
    · simp at hj
    · rw [List.take_succ_cons]
      unfold termAt
      rw [getD_mid, if_neg (by simp), if_neg (by omega), if_pos rfl]
      have := atomAt_cut hA (pre ++ [3]) j (by rw [List.length_cons] at hj; omega)
      have e2 : pre ++ [3] ++ A.take j = pre ++ (3 :: A.take j) := by simp only [List.append_assoc, List.cons_append, List.nil_append]
      rw [e2, List.length_append (bs := [3])] at this
      exact this
theorem goT_cut : ∀ {l : List Tm} {R : List Nat}, TermsB l R → ∀ (pre : List Nat) (acc : List Tm) (j : Nat), j < R.length → goT (pre ++ R.take j) l.length pre.length acc = ([], 0, 3)
  | [], R, h, pre, acc, j, hj => by
    have h : R = [] := h
    subst h
    simp at hj
  | q :: r, R, h, pre, acc, j, hj => by
    obtain ⟨A, B, hA, hB, rfl⟩ := h
    rw [List.length_cons]
    by_cases hc : j < A.length
    · rw [List.take_append_of_le_length (by omega)]
      exact goT_err (termAt_cut hA pre j hc) (by decide)
    · have e : pre ++ (A ++ B).take j = pre ++ A ++ B.take (j - A.length) := by
        rw [List.take_append, List.take_of_length_le (by omega)]
        simp only [List.append_assoc]
      rw [e, goT_ok (termAt_put hA pre _), ← List.length_append]
      exact goT_cut hB (pre ++ A) _ _ (by rw [List.length_append] at hj; omega)
theorem predAt_cut {l : List Tm} {M : List Nat} (h : PredB l M) (j : Nat) (hj : j < M.length) : predAt (M.take j) 0 = ([], 0, 3) := by
  obtain ⟨R, h48, hck, hT, rfl⟩ := h
  by_cases h1 : j < (Leb.leb l.length).length
  · rw [List.take_append_of_le_length (by omega)]
    have hT := Leb.take_cut l.length (by omega) [] j h1
    exact predAt_err hT (by decide)
  · have e1 : (Leb.leb l.length ++ R).take j = Leb.leb l.length ++ R.take (j - (Leb.leb l.length).length) := by
      rw [List.take_append, List.take_of_length_le (by omega)]
    rw [e1]
    rw [List.length_append] at hj
    have hL := Leb.take_put l.length (by omega) [] (R.take (j - (Leb.leb l.length).length))
    rw [List.nil_append, List.length_nil, Nat.zero_add] at hL
    have hG := predAt_go hL (by omega)
    rw [goT_cut hT (Leb.leb l.length) [] _ (by omega)] at hG
    exact hG
end Go.Proofs.YtfmpfjpcigdeoabGreatDoor
/- pred.appendAtom, pred.Put of right terms. -/
namespace Go.Proofs.YtfmpfjpcigdeoabGreatDoor
set_option maxRecDepth 100000
open Go.RowKit

theorem own_nil_cap {w : World} {base : Nat} {a : Option Addr} {len cap : Nat} {bs : List Nat} (h : Own w base a len cap bs) : a = none → cap = 0 := by
  rintro rfl
  rcases h.row.2 with ⟨hv, _⟩ | ⟨g, c, cur, hv, _⟩
  · simp only [Value.slice.injEq, true_and] at hv; exact hv.2
  · simp at hv

theorem octet_Uint' (n : Nat) (h : n < 18446744073709551616) (L : List Nat) (m : Nat) (hL : Leb.leb n = L) (hm : L.length = m) (w : World) :
    Calls Tryz.prog 25 #[.int .u64 (n : Int)] w fun e w' => ∃ a cap, e = .returned (.slice a m cap) ∧ a ≠ none ∧ Own w' w.heap.size a m cap L ∧ Below w.heap.size w w' := by
  subst hm
  subst hL
  exact octet_Uint n h w
theorem Own.notBlk {w : World} {base : Nat} {a : Option Addr} {len cap : Nat} {bs : List Nat} (h : Own w base a len cap bs) {g : Nat} {cs : Array Value} {t : TypeId} (k : Blk w g cs t) (ht : t ≠ 5) : Option.some g ≠ Value.ownBlock (.slice a len cap) := by
  intro e
  rcases h.row.2 with ⟨hv, _⟩ | ⟨g', c, cur, hv, _, hg, _⟩
  · rw [hv] at e; simp [Value.ownBlock] at e
  · rw [hv] at e
    simp [Value.ownBlock] at e
    subst e
    unfold Blk at k
    rw [hg] at k
    simp at k
    exact ht k.2.symm

set_option maxHeartbeats 4000000 in
theorem append_atom (q : Tm) (R : List Nat) (hA : AtomB q R) (base : Nat) (ax : Option Addr) (x cx : Nat) (X : List Nat) (w : World) (ho : Own w base ax x cx X) (hB : base ≤ w.heap.size) (hx : x ≤ 100000) (rn : Nat) (hrn : R.length = rn) :
    Calls Tryz.prog 26 #[.slice ax x cx, .agg q.cells] w fun e w' => ∃ a' c', e = .returned (.slice a' (x + rn) c') ∧ Own w' base a' (x + rn) c' (X ++ R) ∧ Below base w w' := by
  have hcx : ∀ (a : Addr) (m : Mode) (W : World) (x y : Nat), (store a (.complex .f64 x y) m).run Tryz.prog W = stored Tryz.prog W a (.complex .f64 x y) m := fun a m W x y => run_store _ _ _ _ _ rfl
  obtain ⟨l0, h1, h2, hn, h3, h4, hc⟩ := hA
  obtain ⟨op, nm, c, v, r⟩ := q
  simp only at h3 h4 hc
  subst h3
  subst h4
  obtain ⟨P, hP⟩ : ∃ P, Leb.leb (str l0).size ++ bytesOf (str l0) = P := ⟨_, rfl⟩
  have hPl : P = Leb.leb l0.length ++ l0 := by rw [← hP, bytesOf_str h2, str_size]
  obtain ⟨pn, hpn⟩ : ∃ pn, P.length = pn := ⟨_, rfl⟩
  have hpn2 : pn ≤ 210 := by rw [← hpn, hPl, List.length_append]; have := Leb.leb_length l0.length; omega
  have HTx : Hid (∀ w, Calls Tryz.prog 45 #[.string (str l0)] w fun e w' => ∃ a cap, e = .returned (.tuple #[.slice a pn cap, .int .i64 0]) ∧ a ≠ none ∧ Own w' w.heap.size a pn cap P ∧ Below w.heap.size w w') := octet_Text' (str l0) (by rw [str_size]; exact h1) P pn hP hpn
  rw [← hPl] at hc
  have HO : Hid (Own w base ax x cx X) := ho
  have HPN : Hid (P.length = pn) := hpn
  have HRN : Hid (R.length = rn) := hrn
  clear ho hP hPl hpn h1 h2 hn hrn
  generalize str l0 = S at *
  rcases hc with ⟨hc1, hv, hr0, hR⟩ | ⟨hc1, hm, L, hL, hR⟩
  · have HD : Hid (decide (c ≠ 1 ∧ c ≠ 2) = false) := decide_eq_false (by omega)
    have h10 : ((c : Int) == 10) = false := by rw [beq_eq_false_iff_ne]; omega
    have HE : Hid (rn = pn + 1 ∧ R = P ++ [c]) := ⟨by rw [← HRN.out, hR, List.length_append, HPN.out]; rfl, hR⟩
    obtain ⟨vk, vw, vs, vt, vx, vy⟩ := v
    simp only [Tm.cells]
    clear hv hR hr0
    go_enter Tryz.func26, Tryz.ntmps26
    go_wp2_with fail
    refine (HTx.out _).mono ?_
    rintro e w1 ⟨a1, c1, rfl, _, ho1, hb1⟩
    have HK1 : Hid (Blk w1 w.heap.size #[.int .i64 ((3 : Nat) : Int), .string S, .int .i64 (c : Int), .int .i64 vk, .int .i64 vw, .string vs, .bool vt, .complex .f64 vx vy, .int .i64 (r : Int)] 58) := (Blk.new w _ _).stay hb1
    have HO1 : Hid (Own w1 w.heap.size a1 pn c1 P) := ho1.lower (by simp)
    have HB1 : Hid (Below w.heap.size w w1) := (below_alloc w _).trans (hb1.mono (by simp))
    have HX1 : Hid (Own w1 base ax x cx X) := HO.out.below HB1.out
    have HS1 : Hid (base ≤ w1.heap.size) := Nat.le_trans hB HB1.out.size
    clear ho1 hb1
    go_wp2_with (at_builtin; refine wpList_append_rd rfl (.tmp 15) (.tmp 16) rfl base ax x cx X rfl HX1.out a1 pn c1 P rfl HO1.out.rd (own_nil_cap HO1.out) (by omega) HS1.out ?_)
    intro a2 c2 w2 ho2 hg2 hb2
    have HX2 : Hid (Own w2 base a2 (x + pn) c2 (X ++ P)) := ho2
    have HK2 : Hid (Blk w2 w.heap.size #[.int .i64 ((3 : Nat) : Int), .string S, .int .i64 (c : Int), .int .i64 vk, .int .i64 vw, .string vs, .bool vt, .complex .f64 vx vy, .int .i64 (r : Int)] 58) := HK1.out.grown hg2 (HX1.out.notBlk HK1.out (by decide))
    have HB2 : Hid (Below base w w2) := (HB1.out.mono hB).trans hb2
    have HS2 : Hid (base ≤ w2.heap.size) := Nat.le_trans hB HB2.out.size
    have k2 : w2.cell? ⟨w.heap.size, 2, none⟩ = some (.int .i64 (c : Int)) := HK2.out.cell 2 rfl
    clear ho2 hg2 hb2 HX1 HO1 HK1
    have HBA : Hid (Below w2.heap.size w2 (w2.alloc (.cells #[.int .u8 (c : Int)] 5))) := below_alloc w2 _
    go_wp2_with (at_builtin; refine wpList_append_rd rfl (.tmp 18) (.tmp 22) rfl base a2 (x + pn) c2 (X ++ P) rfl (HX2.out.below HBA.out) (some ⟨w2.heap.size, 0, none⟩) 1 1 [c] rfl (rd_one w2 _ c rfl (by omega) _) (fun h => by cases h) (by omega) (Nat.le_trans HS2.out HBA.out.size) ?_)
    intro a3 c3 w3 ho3 hg3 hb3
    have HX3 : Hid (Own w3 base a3 (x + pn + 1) c3 (X ++ P ++ [c])) := by show Own _ _ _ _ _ _; simpa only [List.append_assoc, List.cons_append, List.nil_append] using ho3
    have HK3 : Hid (Blk w3 w.heap.size #[.int .i64 ((3 : Nat) : Int), .string S, .int .i64 (c : Int), .int .i64 vk, .int .i64 vw, .string vs, .bool vt, .complex .f64 vx vy, .int .i64 (r : Int)] 58) := (HK2.out.stay HBA.out).grown hg3 ((HX2.out.below HBA.out).notBlk (HK2.out.stay HBA.out) (by decide))
    have HB3 : Hid (Below base w w3) := (HB2.out.trans (HBA.out.mono HS2.out)).trans hb3
    have HS3 : Hid (base ≤ w3.heap.size) := Nat.le_trans hB HB3.out.size
    have m2 : w3.cell? ⟨w.heap.size, 2, none⟩ = some (.int .i64 (c : Int)) := HK3.out.cell 2 rfl
    clear ho3 hg3 hb3 HX2 HK2 HBA k2
    go_wp2_with fail
    refine (has_value c _).mono ?_
    rw [HD.out]
    rintro e w4 ⟨rfl, rfl⟩
    go_wp2
    go_ret
    obtain ⟨rfl, rfl⟩ := HE.out
    exact ⟨a3, c3, by rw [Nat.add_assoc]; rfl, by rw [← List.append_assoc, ← Nat.add_assoc]; exact HX3.out, HB3.out⟩
  · have HD : Hid (decide (c ≠ 1 ∧ c ≠ 2) = true) := decide_eq_true (by omega)
    obtain ⟨ln, hln⟩ : ∃ ln, L.length = ln := ⟨_, rfl⟩
    have hln2 : ln ≤ 300 := by rw [← hln]; have := hL.length; omega
    have HPut : Hid (∀ w, Calls Tryz.prog 47 #[.agg v.cells] w fun e w' => ∃ a c, e = .returned (.tuple #[.slice a ln c, .int .i64 0]) ∧ a ≠ none ∧ Own w' w.heap.size a ln c L ∧ Below w.heap.size w w') := value_Put v L hL ln hln
    obtain ⟨vk, vw, vs, vt, vx, vy⟩ := v
    simp only [Tm.cells, Val.cells] at *
    rcases hR with ⟨h10, hr0, hR⟩ | ⟨h10, hr0, hR⟩
    · have h10' : ((c : Int) == 10) = false := by rw [beq_eq_false_iff_ne]; omega
      have HE : Hid (rn = pn + 1 + ln ∧ R = P ++ ([c] ++ L)) := ⟨by rw [← HRN.out, hR, List.length_append, HPN.out, List.length_cons, hln]; omega, hR⟩
      clear hR h10 hL hm hln hr0
      go_enter Tryz.func26, Tryz.ntmps26
      go_wp2_with fail
      refine (HTx.out _).mono ?_
      rintro e w1 ⟨a1, c1, rfl, _, ho1, hb1⟩
      have HK1 : Hid (Blk w1 w.heap.size #[.int .i64 ((3 : Nat) : Int), .string S, .int .i64 (c : Int), .int .i64 vk, .int .i64 vw, .string vs, .bool vt, .complex .f64 vx vy, .int .i64 (r : Int)] 58) := (Blk.new w _ _).stay hb1
      have HO1 : Hid (Own w1 w.heap.size a1 pn c1 P) := ho1.lower (by simp)
      have HB1 : Hid (Below w.heap.size w w1) := (below_alloc w _).trans (hb1.mono (by simp))
      have HX1 : Hid (Own w1 base ax x cx X) := HO.out.below HB1.out
      have HS1 : Hid (base ≤ w1.heap.size) := Nat.le_trans hB HB1.out.size
      clear ho1 hb1
      go_wp2_with (at_builtin; refine wpList_append_rd rfl (.tmp 15) (.tmp 16) rfl base ax x cx X rfl HX1.out a1 pn c1 P rfl HO1.out.rd (own_nil_cap HO1.out) (by omega) HS1.out ?_)
      intro a2 c2 w2 ho2 hg2 hb2
      have HX2 : Hid (Own w2 base a2 (x + pn) c2 (X ++ P)) := ho2
      have HK2 : Hid (Blk w2 w.heap.size #[.int .i64 ((3 : Nat) : Int), .string S, .int .i64 (c : Int), .int .i64 vk, .int .i64 vw, .string vs, .bool vt, .complex .f64 vx vy, .int .i64 (r : Int)] 58) := HK1.out.grown hg2 (HX1.out.notBlk HK1.out (by decide))
      have HB2 : Hid (Below base w w2) := (HB1.out.mono hB).trans hb2
      have HS2 : Hid (base ≤ w2.heap.size) := Nat.le_trans hB HB2.out.size
      have k2 : w2.cell? ⟨w.heap.size, 2, none⟩ = some (.int .i64 (c : Int)) := HK2.out.cell 2 rfl
      clear ho2 hg2 hb2 HX1 HO1 HK1
      have HBA : Hid (Below w2.heap.size w2 (w2.alloc (.cells #[.int .u8 (c : Int)] 5))) := below_alloc w2 _
      go_wp2_with (at_builtin; refine wpList_append_rd rfl (.tmp 18) (.tmp 22) rfl base a2 (x + pn) c2 (X ++ P) rfl (HX2.out.below HBA.out) (some ⟨w2.heap.size, 0, none⟩) 1 1 [c] rfl (rd_one w2 _ c rfl (by omega) _) (fun h => by cases h) (by omega) (Nat.le_trans HS2.out HBA.out.size) ?_)
      intro a3 c3 w3 ho3 hg3 hb3
      have HX3 : Hid (Own w3 base a3 (x + pn + 1) c3 (X ++ P ++ [c])) := by show Own _ _ _ _ _ _; simpa only [List.append_assoc, List.cons_append, List.nil_append] using ho3
      have HK3 : Hid (Blk w3 w.heap.size #[.int .i64 ((3 : Nat) : Int), .string S, .int .i64 (c : Int), .int .i64 vk, .int .i64 vw, .string vs, .bool vt, .complex .f64 vx vy, .int .i64 (r : Int)] 58) := (HK2.out.stay HBA.out).grown hg3 ((HX2.out.below HBA.out).notBlk (HK2.out.stay HBA.out) (by decide))
      have HB3 : Hid (Below base w w3) := (HB2.out.trans (HBA.out.mono HS2.out)).trans hb3
      have HS3 : Hid (base ≤ w3.heap.size) := Nat.le_trans hB HB3.out.size
      have m2 : w3.cell? ⟨w.heap.size, 2, none⟩ = some (.int .i64 (c : Int)) := HK3.out.cell 2 rfl
      clear ho3 hg3 hb3 HX2 HK2 HBA k2
      go_wp2_with fail
      refine (has_value c _).mono ?_
      rw [HD.out]
      rintro e w4 ⟨rfl, rfl⟩
      have n3 : w4.cell? ⟨w.heap.size, 3, none⟩ = some (.int .i64 vk) := HK3.out.cell 3 rfl
      have n4 : w4.cell? ⟨w.heap.size, 4, none⟩ = some (.int .i64 vw) := HK3.out.cell 4 rfl
      have n5 : w4.cell? ⟨w.heap.size, 5, none⟩ = some (.string vs) := HK3.out.cell 5 rfl
      have n6 : w4.cell? ⟨w.heap.size, 6, none⟩ = some (.bool vt) := HK3.out.cell 6 rfl
      have n7 : w4.cell? ⟨w.heap.size, 7, none⟩ = some (.complex .f64 vx vy) := HK3.out.cell 7 rfl
      go_wp2_with fail
      refine (HPut.out _).mono ?_
      rintro e w5 ⟨a5, c5, rfl, _, ho5, hb5⟩
      have HO5 : Hid (Own w5 w4.heap.size a5 ln c5 L) := ho5
      have HX5 : Hid (Own w5 base a3 (x + pn + 1) c3 (X ++ P ++ [c])) := HX3.out.below hb5
      have HK5 : Hid (Blk w5 w.heap.size #[.int .i64 ((3 : Nat) : Int), .string S, .int .i64 (c : Int), .int .i64 vk, .int .i64 vw, .string vs, .bool vt, .complex .f64 vx vy, .int .i64 (r : Int)] 58) := HK3.out.stay hb5
      have HB5 : Hid (Below base w w5) := HB3.out.trans (hb5.mono HS3.out)
      have HS5 : Hid (base ≤ w5.heap.size) := Nat.le_trans hB HB5.out.size
      clear ho5 hb5 HX3 HK3 n3 n4 n5 n6 n7 m2
      go_wp2_with (at_builtin; refine wpList_append_rd rfl (.tmp 33) (.tmp 34) rfl base a3 (x + pn + 1) c3 (X ++ P ++ [c]) rfl HX5.out a5 ln c5 L rfl HO5.out.rd (own_nil_cap HO5.out) (by omega) HS5.out ?_)
      intro a6 c6 w6 ho6 hg6 hb6
      have HX6 : Hid (Own w6 base a6 (x + pn + 1 + ln) c6 (X ++ P ++ [c] ++ L)) := by show Own _ _ _ _ _ _; simpa only [List.append_assoc, List.cons_append, List.nil_append] using ho6
      have HK6 : Hid (Blk w6 w.heap.size #[.int .i64 ((3 : Nat) : Int), .string S, .int .i64 (c : Int), .int .i64 vk, .int .i64 vw, .string vs, .bool vt, .complex .f64 vx vy, .int .i64 (r : Int)] 58) := HK5.out.grown hg6 (HX5.out.notBlk HK5.out (by decide))
      have HB6 : Hid (Below base w w6) := HB5.out.trans hb6
      have HS6 : Hid (base ≤ w6.heap.size) := Nat.le_trans hB HB6.out.size
      have m2 : w6.cell? ⟨w.heap.size, 2, none⟩ = some (.int .i64 (c : Int)) := HK6.out.cell 2 rfl
      clear ho6 hg6 hb6 HX5 HK5 HO5
      go_wp2
      go_ret
      obtain ⟨rfl, rfl⟩ := HE.out
      exact ⟨a6, c6, by rw [show x + (pn + 1 + ln) = x + pn + 1 + ln by omega]; rfl, by rw [show x + (pn + 1 + ln) = x + pn + 1 + ln by omega, show X ++ (P ++ ([c] ++ L)) = X ++ P ++ [c] ++ L by simp only [List.append_assoc]]; exact HX6.out, HB6.out⟩
    · have h10' : ((c : Int) == 10) = true := by rw [h10]; rfl
      obtain ⟨V, hV⟩ : ∃ V, Leb.leb r = V := ⟨_, rfl⟩
      obtain ⟨vn, hvn⟩ : ∃ vn, V.length = vn := ⟨_, rfl⟩
      have hvn2 : vn ≤ 10 := by rw [← hvn, ← hV]; exact (Leb.leb_length r).2
      have HU : Hid (∀ w, Calls Tryz.prog 25 #[.int .u64 (r : Int)] w fun e w' => ∃ a cap, e = .returned (.slice a vn cap) ∧ a ≠ none ∧ Own w' w.heap.size a vn cap V ∧ Below w.heap.size w w') := octet_Uint' r (by omega) V vn hV hvn
      rw [hV] at hR
      have HE : Hid (rn = pn + 1 + ln + vn ∧ R = P ++ ([c] ++ (L ++ V))) := ⟨by rw [← HRN.out, hR, List.length_append, HPN.out, List.length_cons, List.length_append, hln, hvn]; omega, hR⟩
      clear hR h10 hL hm hln hV hvn
      go_enter Tryz.func26, Tryz.ntmps26
      go_wp2_with fail
      refine (HTx.out _).mono ?_
      rintro e w1 ⟨a1, c1, rfl, _, ho1, hb1⟩
      have HK1 : Hid (Blk w1 w.heap.size #[.int .i64 ((3 : Nat) : Int), .string S, .int .i64 (c : Int), .int .i64 vk, .int .i64 vw, .string vs, .bool vt, .complex .f64 vx vy, .int .i64 (r : Int)] 58) := (Blk.new w _ _).stay hb1
      have HO1 : Hid (Own w1 w.heap.size a1 pn c1 P) := ho1.lower (by simp)
      have HB1 : Hid (Below w.heap.size w w1) := (below_alloc w _).trans (hb1.mono (by simp))
      have HX1 : Hid (Own w1 base ax x cx X) := HO.out.below HB1.out
      have HS1 : Hid (base ≤ w1.heap.size) := Nat.le_trans hB HB1.out.size
      clear ho1 hb1
      go_wp2_with (at_builtin; refine wpList_append_rd rfl (.tmp 15) (.tmp 16) rfl base ax x cx X rfl HX1.out a1 pn c1 P rfl HO1.out.rd (own_nil_cap HO1.out) (by omega) HS1.out ?_)
      intro a2 c2 w2 ho2 hg2 hb2
      have HX2 : Hid (Own w2 base a2 (x + pn) c2 (X ++ P)) := ho2
      have HK2 : Hid (Blk w2 w.heap.size #[.int .i64 ((3 : Nat) : Int), .string S, .int .i64 (c : Int), .int .i64 vk, .int .i64 vw, .string vs, .bool vt, .complex .f64 vx vy, .int .i64 (r : Int)] 58) := HK1.out.grown hg2 (HX1.out.notBlk HK1.out (by decide))
      have HB2 : Hid (Below base w w2) := (HB1.out.mono hB).trans hb2
      have HS2 : Hid (base ≤ w2.heap.size) := Nat.le_trans hB HB2.out.size
      have k2 : w2.cell? ⟨w.heap.size, 2, none⟩ = some (.int .i64 (c : Int)) := HK2.out.cell 2 rfl
      clear ho2 hg2 hb2 HX1 HO1 HK1
      have HBA : Hid (Below w2.heap.size w2 (w2.alloc (.cells #[.int .u8 (c : Int)] 5))) := below_alloc w2 _
      go_wp2_with (at_builtin; refine wpList_append_rd rfl (.tmp 18) (.tmp 22) rfl base a2 (x + pn) c2 (X ++ P) rfl (HX2.out.below HBA.out) (some ⟨w2.heap.size, 0, none⟩) 1 1 [c] rfl (rd_one w2 _ c rfl (by omega) _) (fun h => by cases h) (by omega) (Nat.le_trans HS2.out HBA.out.size) ?_)
      intro a3 c3 w3 ho3 hg3 hb3
      have HX3 : Hid (Own w3 base a3 (x + pn + 1) c3 (X ++ P ++ [c])) := by show Own _ _ _ _ _ _; simpa only [List.append_assoc, List.cons_append, List.nil_append] using ho3
      have HK3 : Hid (Blk w3 w.heap.size #[.int .i64 ((3 : Nat) : Int), .string S, .int .i64 (c : Int), .int .i64 vk, .int .i64 vw, .string vs, .bool vt, .complex .f64 vx vy, .int .i64 (r : Int)] 58) := (HK2.out.stay HBA.out).grown hg3 ((HX2.out.below HBA.out).notBlk (HK2.out.stay HBA.out) (by decide))
      have HB3 : Hid (Below base w w3) := (HB2.out.trans (HBA.out.mono HS2.out)).trans hb3
      have HS3 : Hid (base ≤ w3.heap.size) := Nat.le_trans hB HB3.out.size
      have m2 : w3.cell? ⟨w.heap.size, 2, none⟩ = some (.int .i64 (c : Int)) := HK3.out.cell 2 rfl
      clear ho3 hg3 hb3 HX2 HK2 HBA k2
      go_wp2_with fail
      refine (has_value c _).mono ?_
      rw [HD.out]
      rintro e w4 ⟨rfl, rfl⟩
      have n3 : w4.cell? ⟨w.heap.size, 3, none⟩ = some (.int .i64 vk) := HK3.out.cell 3 rfl
      have n4 : w4.cell? ⟨w.heap.size, 4, none⟩ = some (.int .i64 vw) := HK3.out.cell 4 rfl
      have n5 : w4.cell? ⟨w.heap.size, 5, none⟩ = some (.string vs) := HK3.out.cell 5 rfl
      have n6 : w4.cell? ⟨w.heap.size, 6, none⟩ = some (.bool vt) := HK3.out.cell 6 rfl
      have n7 : w4.cell? ⟨w.heap.size, 7, none⟩ = some (.complex .f64 vx vy) := HK3.out.cell 7 rfl
      go_wp2_with fail
      refine (HPut.out _).mono ?_
      rintro e w5 ⟨a5, c5, rfl, _, ho5, hb5⟩
      have HO5 : Hid (Own w5 w4.heap.size a5 ln c5 L) := ho5
      have HX5 : Hid (Own w5 base a3 (x + pn + 1) c3 (X ++ P ++ [c])) := HX3.out.below hb5
      have HK5 : Hid (Blk w5 w.heap.size #[.int .i64 ((3 : Nat) : Int), .string S, .int .i64 (c : Int), .int .i64 vk, .int .i64 vw, .string vs, .bool vt, .complex .f64 vx vy, .int .i64 (r : Int)] 58) := HK3.out.stay hb5
      have HB5 : Hid (Below base w w5) := HB3.out.trans (hb5.mono HS3.out)
      have HS5 : Hid (base ≤ w5.heap.size) := Nat.le_trans hB HB5.out.size
      clear ho5 hb5 HX3 HK3 n3 n4 n5 n6 n7 m2
      go_wp2_with (at_builtin; refine wpList_append_rd rfl (.tmp 33) (.tmp 34) rfl base a3 (x + pn + 1) c3 (X ++ P ++ [c]) rfl HX5.out a5 ln c5 L rfl HO5.out.rd (own_nil_cap HO5.out) (by omega) HS5.out ?_)
      intro a6 c6 w6 ho6 hg6 hb6
      have HX6 : Hid (Own w6 base a6 (x + pn + 1 + ln) c6 (X ++ P ++ [c] ++ L)) := by show Own _ _ _ _ _ _; simpa only [List.append_assoc, List.cons_append, List.nil_append] using ho6
      have HK6 : Hid (Blk w6 w.heap.size #[.int .i64 ((3 : Nat) : Int), .string S, .int .i64 (c : Int), .int .i64 vk, .int .i64 vw, .string vs, .bool vt, .complex .f64 vx vy, .int .i64 (r : Int)] 58) := HK5.out.grown hg6 (HX5.out.notBlk HK5.out (by decide))
      have HB6 : Hid (Below base w w6) := HB5.out.trans hb6
      have HS6 : Hid (base ≤ w6.heap.size) := Nat.le_trans hB HB6.out.size
      have m2 : w6.cell? ⟨w.heap.size, 2, none⟩ = some (.int .i64 (c : Int)) := HK6.out.cell 2 rfl
      clear ho6 hg6 hb6 HX5 HK5 HO5
      have m8 : w6.cell? ⟨w.heap.size, 8, none⟩ = some (.int .i64 (r : Int)) := HK6.out.cell 8 rfl
      go_wp2_with fail
      refine (HU.out _).mono ?_
      rintro e w7 ⟨a7, c7, rfl, _, ho7, hb7⟩
      have HO7 : Hid (Own w7 w6.heap.size a7 vn c7 V) := ho7
      have HX7 : Hid (Own w7 base a6 (x + pn + 1 + ln) c6 (X ++ P ++ [c] ++ L)) := HX6.out.below hb7
      have HB7 : Hid (Below base w w7) := HB6.out.trans (hb7.mono HS6.out)
      have HS7 : Hid (base ≤ w7.heap.size) := Nat.le_trans hB HB7.out.size
      clear ho7 hb7 HX6 HK6 m2 m8
      go_wp2_with (at_builtin; refine wpList_append_rd rfl (.tmp 39) (.tmp 43) rfl base a6 (x + pn + 1 + ln) c6 (X ++ P ++ [c] ++ L) rfl HX7.out a7 vn c7 V rfl HO7.out.rd (own_nil_cap HO7.out) (by omega) HS7.out ?_)
      intro a8 c8 w8 ho8 hg8 hb8
      have HX8 : Hid (Own w8 base a8 (x + pn + 1 + ln + vn) c8 (X ++ P ++ [c] ++ L ++ V)) := by show Own _ _ _ _ _ _; simpa only [List.append_assoc, List.cons_append, List.nil_append] using ho8
      have HB8 : Hid (Below base w w8) := HB7.out.trans hb8
      clear ho8 hg8 hb8 HX7 HO7
      go_wp2
      go_ret
      obtain ⟨rfl, rfl⟩ := HE.out
      exact ⟨a8, c8, by rw [show x + (pn + 1 + ln + vn) = x + pn + 1 + ln + vn by omega]; rfl, by rw [show x + (pn + 1 + ln + vn) = x + pn + 1 + ln + vn by omega, show X ++ (P ++ ([c] ++ (L ++ V))) = X ++ P ++ [c] ++ L ++ V by simp only [List.append_assoc]]; exact HX8.out, HB8.out⟩
end Go.Proofs.YtfmpfjpcigdeoabGreatDoor
/- pred.Put of terms that have bytes. -/
namespace Go.Proofs.YtfmpfjpcigdeoabGreatDoor
set_option maxRecDepth 100000
open Go.RowKit

set_option maxHeartbeats 4000000 in
theorem pred_Put (a : Option Addr) (n cap : Nat) (l : List Tm) (M : List Nat) (w : World) (hr : TmsRd w a l) (hn : l.length = n) (hB : PredB l M) (m : Nat) (hm : M.length = m) :
    Calls Tryz.prog 14 #[.slice a n cap] w fun e w' => ∃ a' c', e = .returned (.tuple #[.slice a' m c', .int .i64 0]) ∧ Own w' w.heap.size a' m c' M ∧ Below w.heap.size w w' := by
  have hcx : ∀ (a : Addr) (m : Mode) (W : World) (x y : Nat), (store a (.complex .f64 x y) m).run Tryz.prog W = stored Tryz.prog W a (.complex .f64 x y) m := fun a m W x y => run_store _ _ _ _ _ rfl
  obtain ⟨R, h48, hck, hT, hM⟩ := hB
  rw [hn] at h48 hM
  obtain ⟨hright, hRl⟩ := hT.fine
  rw [hn] at hRl
  have hnl := Leb.leb_length n
  obtain ⟨U, hU⟩ : ∃ U, Leb.leb n = U := ⟨_, rfl⟩
  rw [hU] at hnl hM
  obtain ⟨un, hun⟩ : ∃ un, U.length = un := ⟨_, rfl⟩
  obtain ⟨rn, hrn⟩ : ∃ rn, R.length = rn := ⟨_, rfl⟩
  have HU : Hid (∀ w, Calls Tryz.prog 25 #[.int .u64 (n : Int)] w fun e w' => ∃ a cap, e = .returned (.slice a un cap) ∧ a ≠ none ∧ Own w' w.heap.size a un cap U ∧ Below w.heap.size w w') := octet_Uint' n (by omega) U un hU hun
  have HCK : Hid (∀ w, TmsRd w a l → Calls Tryz.prog 10 #[.slice a n cap] w fun e w' => e = .returned (.int .i64 0) ∧ Below w.heap.size w w') := fun w h => by
    have := pred_Check a n cap l w h hn (by omega) hright
    rw [hck] at this
    exact this
  have hml : m = un + rn := by rw [← hm, hM, List.length_append, hun, hrn]
  rw [hun] at hnl
  rw [hrn] at hRl
  have hrb : rn ≤ 25248 := by omega
  have HRN : Hid (R.length = rn ∧ U.length = un) := ⟨hrn, hun⟩
  have HML : Hid (m = un + rn ∧ M = U ++ R) := ⟨hml, hM⟩
  have HL : Hid (TmsRd w a l) := hr
  have HN : Hid (l.length = n) := hn
  have HT : Hid (TermsB l R) := hT
  clear hr hn hT hM hm hml hU hun hrn hRl hck hright
  go_enter Tryz.func14, Tryz.ntmps14
  go_wp2_with fail
  refine (HCK.out _ HL.out).mono ?_
  rintro e w1 ⟨rfl, hb1⟩
  have HB1 : Hid (Below w.heap.size w w1) := hb1
  clear hb1
  go_wp2_with fail
  refine (HU.out _).mono ?_
  rintro e w2 ⟨a2, c2, rfl, _, ho2, hb2⟩
  have HO2 : Hid (Own w2 w1.heap.size a2 un c2 U) := ho2
  have HB2 : Hid (Below w1.heap.size w1 w2) := hb2
  clear ho2 hb2
  go_wp2
  go_loopw [5, 19] (fun t5 t19 wr => ∃ (k x : Nat) (X : List Nat) (ax : Option Addr) (cx : Nat), k ≤ n ∧ x ≤ 30000 ∧ t5 = .slice ax x cx ∧ t19 = .int .i64 (k : Int) ∧ Hid (Own wr w1.heap.size ax x cx X) ∧ Hid (∃ R', TermsB (l.drop k) R' ∧ X ++ R' = U ++ R) ∧ Hid (Below w1.heap.size w1 wr)) (fun _ t19 _ => n - (intOf t19).toNat)
  case atStart => exact ⟨0, un, U, a2, c2, by omega, by omega, rfl, rfl, HO2, ⟨R, HT.out, rfl⟩, HB2⟩
  case round =>
    obtain ⟨k, x, X, ax, cx, hk, hx5, rfl, rfl, HO, HE, HB⟩ := hrel
    have HBW : Hid (Below w.heap.size w wr) := HB1.out.trans (HB.out.mono HB1.out.size)
    by_cases hlt : k < n
    · have hlt' : (k : Int) < (n : Int) := by omega
      have hkl : k < l.length := by rw [HN.out]; exact hlt
      obtain ⟨g, rfl, hg, hc⟩ := (HL.out.below HBW.out).at_ k hkl
      obtain ⟨R', hR, hXR⟩ := HE.out
      have HD : l.drop k = l[k] :: l.drop (k + 1) := List.drop_eq_getElem_cons hkl
      rw [HD] at hR
      generalize l[k] = q at *
      obtain ⟨A, B, hA, hBr, rfl⟩ := hR
      have hXl := congrArg List.length hXR
      simp only [List.length_append, HRN.out.1, HRN.out.2, HO.out.size] at hXl
      have hop : 1 ≤ q.op ∧ q.op ≤ 6 := hA.fine.1.1
      clear HD HE
      rcases hA with ⟨ho, hq, rfl⟩ | ⟨A0, hA0, rfl⟩
      · have h3 : ((q.op : Int) == 3) = false := by rw [beq_eq_false_iff_ne]; omega
        have HNX : Hid (∃ R', TermsB (l.drop (k + 1)) R' ∧ X ++ [q.op] ++ R' = U ++ R) := ⟨B, hBr, by rw [← hXR]; simp only [List.append_assoc]⟩
        have hxb : x + 1 ≤ 30000 := by simp only [List.length_singleton] at hXl; omega
        clear hBr hXR hXl ho hq
        obtain ⟨op, nm, c, ⟨vk, vw, vs, vt, vx, vy⟩, r⟩ := q
        have c0 : wr.cell? ⟨g, k * 9, none⟩ = some (.int .i64 (op : Int)) := hc 0 _ rfl
        have c1 : wr.cell? ⟨g, k * 9 + 1, none⟩ = some (.string nm) := hc 1 _ rfl
        have c2' : wr.cell? ⟨g, k * 9 + 2, none⟩ = some (.int .i64 (c : Int)) := hc 2 _ rfl
        have c3 : wr.cell? ⟨g, k * 9 + 3, none⟩ = some (.int .i64 vk) := hc 3 _ rfl
        have c4 : wr.cell? ⟨g, k * 9 + 4, none⟩ = some (.int .i64 vw) := hc 4 _ rfl
        have c5 : wr.cell? ⟨g, k * 9 + 5, none⟩ = some (.string vs) := hc 5 _ rfl
        have c6 : wr.cell? ⟨g, k * 9 + 6, none⟩ = some (.bool vt) := hc 6 _ rfl
        have c7 : wr.cell? ⟨g, k * 9 + 7, none⟩ = some (.complex .f64 vx vy) := hc 7 _ rfl
        have c8 : wr.cell? ⟨g, k * 9 + 8, none⟩ = some (.int .i64 (r : Int)) := hc 8 _ rfl
        clear hc
        simp only at hop h3 HNX
        have HBA : Hid (Below wr.heap.size wr (wr.alloc (.cells #[.int .i64 (op : Int), .string nm, .int .i64 (c : Int), .int .i64 vk, .int .i64 vw, .string vs, .bool vt, .complex .f64 vx vy, .int .i64 (r : Int)] 58))) := below_alloc wr _
        obtain ⟨W, HW⟩ : ∃ W, Hid (W = wr.alloc (.cells #[.int .i64 (op : Int), .string nm, .int .i64 (c : Int), .int .i64 vk, .int .i64 vw, .string vs, .bool vt, .complex .f64 vx vy, .int .i64 (r : Int)] 58)) := ⟨_, rfl⟩
        rw [← HW.out] at HBA
        have HXA : Hid (Own W w1.heap.size ax x cx X) := HO.out.below HBA.out
        have HKA : Hid (Blk W wr.heap.size #[.int .i64 (op : Int), .string nm, .int .i64 (c : Int), .int .i64 vk, .int .i64 vw, .string vs, .bool vt, .complex .f64 vx vy, .int .i64 (r : Int)] 58) := by show Blk _ _ _ _; rw [HW.out]; exact Blk.new wr _ _
        have HBB : Hid (Below W.heap.size W (W.alloc (.cells #[.int .u8 (op : Int)] 5))) := below_alloc W _
        have HSA : Hid (w1.heap.size ≤ (W.alloc (.cells #[.int .u8 (op : Int)] 5)).heap.size) := Nat.le_trans HB.out.size (Nat.le_trans HBA.out.size HBB.out.size)
        have HR1 : Hid (Rd (W.alloc (.cells #[.int .u8 (op : Int)] 5)) (some ⟨W.heap.size, 0, none⟩) 1 [op]) := rd_one W _ op rfl (by omega) _
        have HXB : Hid (Own (W.alloc (.cells #[.int .u8 (op : Int)] 5)) w1.heap.size ax x cx X) := HXA.out.below HBB.out
        have HKB : Hid (Blk (W.alloc (.cells #[.int .u8 (op : Int)] 5)) wr.heap.size #[.int .i64 (op : Int), .string nm, .int .i64 (c : Int), .int .i64 vk, .int .i64 vw, .string vs, .bool vt, .complex .f64 vx vy, .int .i64 (r : Int)] 58) := HKA.out.stay HBB.out
        rw [HW.out] at HSA HR1 HXB HKB HBB
        have hWs : W.heap.size = wr.heap.size + 1 := by rw [HW.out]; simp
        have HWB : Hid (Below w1.heap.size w1 ((wr.alloc (.cells #[.int .i64 (op : Int), .string nm, .int .i64 (c : Int), .int .i64 vk, .int .i64 vw, .string vs, .bool vt, .complex .f64 vx vy, .int .i64 (r : Int)] 58)).alloc (.cells #[.int .u8 (op : Int)] 5))) := (HB.out.alloc HB.out.size _).alloc (Nat.le_trans HB.out.size (by simp)) _
        have hws : (wr.alloc (.cells #[.int .i64 (op : Int), .string nm, .int .i64 (c : Int), .int .i64 vk, .int .i64 vw, .string vs, .bool vt, .complex .f64 vx vy, .int .i64 (r : Int)] 58)).heap.size = wr.heap.size + 1 := by simp
        rw [hws] at HR1
        clear HW HXA HKA HBA hWs hws
        go_wp2_with (at_builtin; refine wpList_append_rd rfl (.tmp 23) (.tmp 27) rfl w1.heap.size ax x cx X rfl HXB.out (some ⟨wr.heap.size + 1, 0, none⟩) 1 1 [op] rfl HR1.out (fun h => by cases h) (by omega) HSA.out ?_)
        intro a4 c4' w4 ho4 hg4 hb4
        have HX4 : Hid (Own w4 w1.heap.size a4 (x + 1) c4' (X ++ [op])) := ho4
        have HK4 : Hid (Blk w4 wr.heap.size #[.int .i64 (op : Int), .string nm, .int .i64 (c : Int), .int .i64 vk, .int .i64 vw, .string vs, .bool vt, .complex .f64 vx vy, .int .i64 (r : Int)] 58) := HKB.out.grown hg4 (HXB.out.notBlk HKB.out (by decide))
        have HB4 : Hid (Below w1.heap.size w1 w4) := HWB.out.trans hb4
        have d0 : w4.cell? ⟨wr.heap.size, 0, none⟩ = some (.int .i64 (op : Int)) := HK4.out.cell 0 rfl
        clear ho4 hg4 hb4 HXB HKB HR1 HSA HBB
        go_wp2
        go_roundw
        case rel => exact ⟨k + 1, x + 1, X ++ [op], a4, c4', by omega, hxb, rfl, by go_num, HX4, HNX, HB4⟩
        case measure => simp [intOf]; omega
      · have hq3 : q.op = 3 := hA0.fine.2.1
        obtain ⟨an, han⟩ : ∃ an, A0.length = an := ⟨_, rfl⟩
        have hab : an ≤ 525 := by rw [← han]; exact hA0.fine.2.2
        have HAC : Hid (∀ (base : Nat) (ax : Option Addr) (x cx : Nat) (X : List Nat) (w : World), Own w base ax x cx X → base ≤ w.heap.size → x ≤ 100000 → Calls Tryz.prog 26 #[.slice ax x cx, .agg q.cells] w fun e w' => ∃ a' c', e = .returned (.slice a' (x + an) c') ∧ Own w' base a' (x + an) c' (X ++ A0) ∧ Below base w w') := fun base ax x cx X w h1 h2 h3 => append_atom q A0 hA0 base ax x cx X w h1 h2 h3 an han
        have HNX : Hid (∃ R', TermsB (l.drop (k + 1)) R' ∧ X ++ [3] ++ A0 ++ R' = U ++ R) := ⟨B, hBr, by rw [← hXR]; simp only [List.append_assoc, List.cons_append, List.nil_append]⟩
        have hxb : x + 1 + an ≤ 30000 := by simp only [List.length_cons, han] at hXl; omega
        clear hBr hXR hXl hA0 han
        obtain ⟨op, nm, c, ⟨vk, vw, vs, vt, vx, vy⟩, r⟩ := q
        simp only at hq3
        subst hq3
        have c0 : wr.cell? ⟨g, k * 9, none⟩ = some (.int .i64 3) := hc 0 _ rfl
        have c1 : wr.cell? ⟨g, k * 9 + 1, none⟩ = some (.string nm) := hc 1 _ rfl
        have c2' : wr.cell? ⟨g, k * 9 + 2, none⟩ = some (.int .i64 (c : Int)) := hc 2 _ rfl
        have c3 : wr.cell? ⟨g, k * 9 + 3, none⟩ = some (.int .i64 vk) := hc 3 _ rfl
        have c4 : wr.cell? ⟨g, k * 9 + 4, none⟩ = some (.int .i64 vw) := hc 4 _ rfl
        have c5 : wr.cell? ⟨g, k * 9 + 5, none⟩ = some (.string vs) := hc 5 _ rfl
        have c6 : wr.cell? ⟨g, k * 9 + 6, none⟩ = some (.bool vt) := hc 6 _ rfl
        have c7 : wr.cell? ⟨g, k * 9 + 7, none⟩ = some (.complex .f64 vx vy) := hc 7 _ rfl
        have c8 : wr.cell? ⟨g, k * 9 + 8, none⟩ = some (.int .i64 (r : Int)) := hc 8 _ rfl
        clear hc
        simp only [Tm.cells] at HAC
        have hws : (wr.alloc (.cells #[.int .i64 3, .string nm, .int .i64 (c : Int), .int .i64 vk, .int .i64 vw, .string vs, .bool vt, .complex .f64 vx vy, .int .i64 (r : Int)] 58)).heap.size = wr.heap.size + 1 := by simp
        have HWB : Hid (Below w1.heap.size w1 ((wr.alloc (.cells #[.int .i64 3, .string nm, .int .i64 (c : Int), .int .i64 vk, .int .i64 vw, .string vs, .bool vt, .complex .f64 vx vy, .int .i64 (r : Int)] 58)).alloc (.cells #[.int .u8 3] 5))) := (HB.out.alloc HB.out.size _).alloc (Nat.le_trans HB.out.size (by simp)) _
        have HXB : Hid (Own ((wr.alloc (.cells #[.int .i64 3, .string nm, .int .i64 (c : Int), .int .i64 vk, .int .i64 vw, .string vs, .bool vt, .complex .f64 vx vy, .int .i64 (r : Int)] 58)).alloc (.cells #[.int .u8 3] 5)) w1.heap.size ax x cx X) := (HO.out.below (below_alloc wr _)).below (below_alloc _ _)
        have HKB : Hid (Blk ((wr.alloc (.cells #[.int .i64 3, .string nm, .int .i64 (c : Int), .int .i64 vk, .int .i64 vw, .string vs, .bool vt, .complex .f64 vx vy, .int .i64 (r : Int)] 58)).alloc (.cells #[.int .u8 3] 5)) wr.heap.size #[.int .i64 3, .string nm, .int .i64 (c : Int), .int .i64 vk, .int .i64 vw, .string vs, .bool vt, .complex .f64 vx vy, .int .i64 (r : Int)] 58) := (Blk.new wr _ _).stay (below_alloc _ _)
        have HR1 : Hid (Rd ((wr.alloc (.cells #[.int .i64 3, .string nm, .int .i64 (c : Int), .int .i64 vk, .int .i64 vw, .string vs, .bool vt, .complex .f64 vx vy, .int .i64 (r : Int)] 58)).alloc (.cells #[.int .u8 3] 5)) (some ⟨wr.heap.size + 1, 0, none⟩) 1 [3]) := by
          have := rd_one (wr.alloc (.cells #[.int .i64 3, .string nm, .int .i64 (c : Int), .int .i64 vk, .int .i64 vw, .string vs, .bool vt, .complex .f64 vx vy, .int .i64 (r : Int)] 58)) 3 3 rfl (by omega) (0, 0)
          rw [hws] at this
          exact this
        clear hws
        go_wp2_with (at_builtin; refine wpList_append_rd rfl (.tmp 23) (.tmp 27) rfl w1.heap.size ax x cx X rfl HXB.out (some ⟨wr.heap.size + 1, 0, none⟩) 1 1 [3] rfl HR1.out (fun h => by cases h) (by omega) HWB.out.size ?_)
        intro a4 c4' w4 ho4 hg4 hb4
        have HX4 : Hid (Own w4 w1.heap.size a4 (x + 1) c4' (X ++ [3])) := ho4
        have HK4 : Hid (Blk w4 wr.heap.size #[.int .i64 3, .string nm, .int .i64 (c : Int), .int .i64 vk, .int .i64 vw, .string vs, .bool vt, .complex .f64 vx vy, .int .i64 (r : Int)] 58) := HKB.out.grown hg4 (HXB.out.notBlk HKB.out (by decide))
        have HB4 : Hid (Below w1.heap.size w1 w4) := HWB.out.trans hb4
        clear ho4 hg4 hb4 HXB HKB HR1 c0 c1 c2' c3 c4 c5 c6 c7 c8
        have d0 : w4.cell? ⟨wr.heap.size, 0, none⟩ = some (.int .i64 3) := HK4.out.cell 0 rfl
        have d1 : w4.cell? ⟨wr.heap.size, 1, none⟩ = some (.string nm) := HK4.out.cell 1 rfl
        have d2 : w4.cell? ⟨wr.heap.size, 2, none⟩ = some (.int .i64 (c : Int)) := HK4.out.cell 2 rfl
        have d3 : w4.cell? ⟨wr.heap.size, 3, none⟩ = some (.int .i64 vk) := HK4.out.cell 3 rfl
        have d4 : w4.cell? ⟨wr.heap.size, 4, none⟩ = some (.int .i64 vw) := HK4.out.cell 4 rfl
        have d5 : w4.cell? ⟨wr.heap.size, 5, none⟩ = some (.string vs) := HK4.out.cell 5 rfl
        have d6 : w4.cell? ⟨wr.heap.size, 6, none⟩ = some (.bool vt) := HK4.out.cell 6 rfl
        have d7 : w4.cell? ⟨wr.heap.size, 7, none⟩ = some (.complex .f64 vx vy) := HK4.out.cell 7 rfl
        have d8 : w4.cell? ⟨wr.heap.size, 8, none⟩ = some (.int .i64 (r : Int)) := HK4.out.cell 8 rfl
        go_wp2_with fail
        refine (HAC.out w1.heap.size a4 (x + 1) c4' (X ++ [3]) _ HX4.out HB4.out.size (by omega)).mono ?_
        rintro e w5 ⟨a5, c5', rfl, ho5, hb5⟩
        have HX5 : Hid (Own w5 w1.heap.size a5 (x + 1 + an) c5' (X ++ [3] ++ A0)) := ho5
        have HB5 : Hid (Below w1.heap.size w1 w5) := HB4.out.trans hb5
        clear ho5 hb5
        go_wp2
        go_roundw
        case rel => exact ⟨k + 1, x + 1 + an, X ++ [3] ++ A0, a5, c5', by omega, hxb, rfl, by go_num, HX5, HNX, HB5⟩
        case measure => simp [intOf]; omega
    · have hnl2 : ¬ (k : Int) < (n : Int) := by omega
      have HX : Hid (X = U ++ R) := by
        obtain ⟨R', hR, hXR⟩ := HE.out
        rw [List.drop_of_length_le (by rw [HN.out]; omega)] at hR
        have hR0 : R' = [] := hR
        subst hR0
        show _ = _
        rw [← hXR, List.append_nil]
      have HXL : Hid (x = un + rn) := by
        have := congrArg List.length HX.out
        rw [List.length_append, HRN.out.1, HRN.out.2, HO.out.size] at this
        exact this
      clear HE
      go_wp2
      go_ret2
      rw [HML.out.1, HML.out.2, ← HXL.out, ← HX.out]
      exact ⟨ax, cx, rfl, HO.out.lower HB1.out.size, HBW.out⟩
end Go.Proofs.YtfmpfjpcigdeoabGreatDoor
