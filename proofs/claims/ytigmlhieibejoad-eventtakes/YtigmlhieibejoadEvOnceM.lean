/- Events and their bytes: what is taken for an event is just its bytes; cut short they are told so. Plain mathematics. -/
import Derived.Test.YtigmlhieibejoadEvM
import Derived.Test.YtigmlhieibejoadValOnceM
namespace Go.Proofs.Ytigmlhieibejoad

/-- Attributes behind a name, and their bytes. -/
def AtsBytes : List At → ByteArray → List Nat → Prop
  | [], _, R => R = []
  | q :: r, t, R => ∃ (l0 L R2 : List Nat), l0.length ≤ 200 ∧ (∀ y ∈ l0, y < 256) ∧ nameOk (str l0) ∧ leB (str l0) t = false ∧ q.1 = str l0 ∧ Val.Bytes q.2 L ∧ AtsBytes r (str l0) R2 ∧ R = (Leb.leb l0.length ++ l0) ++ (L ++ R2)
theorem AtsBytes.nil (t : ByteArray) : AtsBytes [] t [] := rfl
theorem AtsBytes.cons (l0 : List Nat) (v : Val) (L : List Nat) (r : List At) (t : ByteArray) (R : List Nat) (h1 : l0.length ≤ 200) (h2 : ∀ y ∈ l0, y < 256) (hn : nameOk (str l0)) (hle : leB (str l0) t = false) (hv : Val.Bytes v L) (hr : AtsBytes r (str l0) R) :
    AtsBytes ((str l0, v) :: r) t ((Leb.leb l0.length ++ l0) ++ (L ++ R)) := ⟨l0, L, R, h1, h2, hn, hle, rfl, hv, hr, rfl⟩
theorem AtsBytes.ind {motive : (l : List At) → (t : ByteArray) → (R : List Nat) → AtsBytes l t R → Prop} (nil : ∀ t, motive [] t [] (AtsBytes.nil t))
    (cons : ∀ l0 v L r t R h1 h2 hn hle hv hr, motive r (str l0) R hr → motive ((str l0, v) :: r) t ((Leb.leb l0.length ++ l0) ++ (L ++ R)) (AtsBytes.cons l0 v L r t R h1 h2 hn hle hv hr)) :
    ∀ {l : List At} {t : ByteArray} {R : List Nat} (h : AtsBytes l t R), motive l t R h
  | [], t, R, h => by
    have e : R = [] := h
    subst e
    exact nil t
  | (qn, v) :: r, t, R, h => by
    obtain ⟨l0, L, R2, h1, h2, hn, hle, hq, hv, hr, rfl⟩ := h
    have hq' : qn = str l0 := hq
    subst hq'
    exact cons l0 v L r t R2 h1 h2 hn hle hv hr (AtsBytes.ind nil cons hr)

theorem AtsBytes.length {l : List At} {t : ByteArray} {R : List Nat} (h : AtsBytes l t R) : R.length ≤ l.length * 510 := by
  induction h using AtsBytes.ind with
  | nil t => simp
  | cons l0 v L r t R h1 h2 hn hle hv hr ih =>
    have := hv.length
    have := Leb.leb_length l0.length
    simp only [List.length_append, List.length_cons]
    omega

/-- An event and its bytes. -/
def EvBytes (l : List At) (c : List Nat) (M : List Nat) : Prop :=
  ∃ R, l.length ≤ 8 ∧ AtsBytes l ⟨#[]⟩ R ∧ c.length ≤ 200 ∧ (∀ y ∈ c, y < 256) ∧ M = Leb.leb l.length ++ (R ++ (Leb.leb c.length ++ c))

theorem goAt_once {bs : List Nat} (hb : ∀ y ∈ bs, y < 256) : ∀ (n p : Nat) (t : ByteArray) (acc l : List At) (k : Nat), p ≤ bs.length → goAt bs n p t acc = (l, k, 0) →
    ∃ l' R, l = acc ++ l' ∧ l'.length = n ∧ AtsBytes l' t R ∧ k ≤ bs.length ∧ k = p + R.length ∧ (bs.drop p).take R.length = R := by
  intro n
  induction n with
  | zero =>
    intro p t acc l k hp h
    rw [goAt] at h
    simp only [Prod.mk.injEq, and_true] at h
    obtain ⟨rfl, rfl⟩ := h
    exact ⟨[], [], by simp, rfl, .nil t, hp, by simp, by simp⟩
  | succ n ih =>
    intro p t acc l k hp h
    rcases attrAt_cases bs p t with ⟨g, h1, h2⟩ | ⟨l0, k1, v, j, h1, h2, h3, h4, h5⟩
    · rw [goAt_err h1 h2] at h
      simp only [Prod.mk.injEq] at h
      exact absurd h.2.2 h2
    · rw [goAt_ok h5] at h
      obtain ⟨i1, i2, i3, i4, i5⟩ := textAt_once hb h1
      obtain ⟨L, hv, j1, j2, j3⟩ := valAt_once hb h4
      obtain ⟨l', R, e1, e2, e3, e4, e5, e6⟩ := ih j (str l0) (acc ++ [(str l0, v)]) l k j1 h
      refine ⟨(str l0, v) :: l', _, by rw [e1]; simp, by simp [e2], .cons l0 v L l' t R i1 i2 h2 h3 hv e3, e4, ?_, ?_⟩
      · rw [e5, j2, i4]; simp only [List.length_append]; omega
      · refine drop_take_append i5 ?_
        rw [← i4]
        refine drop_take_append j3 ?_
        rw [← j2]
        exact e6

theorem evAt_once {bs : List Nat} {p : Nat} {l : List At} {c : List Nat} {k : Nat} (hb : ∀ y ∈ bs, y < 256) (h : evAt bs (p : Int) = ((l, c), k, 0)) :
    ∃ M, EvBytes l c M ∧ k ≤ bs.length ∧ k = p + M.length ∧ (bs.drop p).take M.length = M := by
  rcases hA : attrsAt bs (p : Int) with ⟨l1, k1, f1⟩
  by_cases hf : f1 = 0
  · subst hf
    rcases hC : textAt bs (k1 : Int) with ⟨c1, j1, g1⟩
    by_cases hg : g1 = 0
    · subst hg
      rw [evAt_ok hA hC] at h
      simp only [Prod.mk.injEq, and_true] at h
      obtain ⟨⟨rfl, rfl⟩, rfl⟩ := h
      rcases hT : Leb.take bs (p : Int) with ⟨n, k0, f⟩
      by_cases hf : f = 0
      · subst hf
        by_cases h8 : 8 < n
        · rw [attrsAt_limit hT h8] at hA
          simp at hA
        · rw [attrsAt_go hT h8] at hA
          obtain ⟨p', hp', i2, i3, i4, i5, i6⟩ := Leb.take_once bs _ hb n k0 hT
          obtain rfl : p = p' := by omega
          obtain ⟨l', R, e1, e2, e3, e4, e5, e6⟩ := goAt_once hb n k0 _ _ _ _ i3 hA
          rw [List.nil_append] at e1
          subst e1
          obtain ⟨c1, c2, c3, c4, c5⟩ := textAt_once hb hC
          refine ⟨_, ⟨R, by omega, e3, c1, c2, rfl⟩, c3, ?_, ?_⟩
          · rw [e2, c4, e5, i6]; simp only [List.length_append]; omega
          · rw [e2]
            refine drop_take_append ?_ (drop_take_append ?_ ?_)
            · rw [← i5]; congr 1; rw [i5]; omega
            · rw [← i6]; exact e6
            · rw [← i6, ← e5]; exact c5
      · rw [attrsAt_err hT hf] at hA
        simp only [Prod.mk.injEq] at hA
        exact absurd hA.2.2 hf
    · rw [evAt_err2 hA hC hg] at h
      simp only [Prod.mk.injEq] at h
      exact absurd h.2.2 hg
  · rw [evAt_err1 hA hf] at h
    simp only [Prod.mk.injEq] at h
    exact absurd h.2.2 hf

/-- With an error nothing else is told. -/
theorem evAt_bad {bs : List Nat} {x : Int} {l : List At} {c : List Nat} {k f : Nat} (h : evAt bs x = ((l, c), k, f)) (hf : f ≠ 0) : l = [] ∧ c = [] ∧ k = 0 := by
  unfold evAt at h
  repeat' split at h
  all_goals (simp only [Prod.mk.injEq] at h; first | exact ⟨h.1.1.symm, h.1.2.symm, h.2.1.symm⟩ | exact absurd h.2.2.symm hf)

/-! What is put is taken, whatever stands around. -/
theorem textAt_put (b pre zs : List Nat) (h : b.length ≤ 200) : textAt (pre ++ (Leb.leb b.length ++ b) ++ zs) (pre.length : Int) = (b, pre.length + (Leb.leb b.length ++ b).length, 0) := by
  have hT := Leb.take_put b.length (by omega) pre (b ++ zs)
  have e : pre ++ (Leb.leb b.length ++ b) ++ zs = pre ++ Leb.leb b.length ++ (b ++ zs) := by simp only [List.append_assoc]
  rw [e]
  unfold textAt
  rw [range_def, hT, rng, if_neg (by omega), if_neg (by simp only [List.length_append]; omega)]
  show (((pre ++ Leb.leb b.length ++ (b ++ zs)).drop (pre.length + (Leb.leb b.length).length)).take (pre.length + (Leb.leb b.length).length + b.length - (pre.length + (Leb.leb b.length).length)), _, 0) = _
  rw [Nat.add_sub_cancel_left, ← List.length_append, List.drop_left, List.take_left]
  simp only [List.length_append]
  congr 2
  omega
theorem valAt_put {v : Val} {L : List Nat} (h : Val.Bytes v L) (pre zs : List Nat) : valAt (pre ++ L ++ zs) (pre.length : Int) = (v, pre.length + L.length, 0) := by
  cases h using Val.Bytes.elim with
  | whole n h =>
    rw [List.append_assoc, List.append_assoc, valAt_body]
    unfold bodyAt
    rw [if_pos rfl, ← List.append_assoc, Leb.take_put (fold n) (fold_lt h) (pre ++ [1]) zs]
    show ((⟨1, unfold (fold n), ⟨#[]⟩, false, 0, 0⟩ : Val), _, 0) = _
    rw [unfold_fold]
    simp only [List.length_append, Nat.add_assoc]
  | words l h hb =>
    rw [List.append_assoc, List.append_assoc, valAt_body]
    unfold bodyAt
    rw [if_neg (by decide), if_pos rfl, ← List.append_assoc, textAt_put l (pre ++ [2]) zs h]
    simp only [List.length_append]
    rw [Nat.add_assoc pre.length]
  | truth t =>
    rw [List.append_assoc, List.append_assoc, valAt_body]
    unfold bodyAt truthAt
    rw [if_neg (by decide), if_neg (by decide), if_pos rfl, if_neg (by simp)]
    have e : ((pre ++ [3]) ++ ([t.toNat] ++ zs)).getD (pre ++ [3]).length 0 = t.toNat := by simp [List.getD]
    rw [e]
    simp only [List.length_append, List.length_singleton]
    cases t <;> rfl
  | point x y hx hy =>
    rw [List.append_assoc, List.append_assoc, valAt_body]
    unfold bodyAt
    rw [if_neg (by decide), if_neg (by decide), if_neg (by decide), if_pos rfl]
    have h1 := partAt_put hx (pre ++ [4]) (Leb.leb (fold y) ++ zs)
    have h2 := partAt_put hy (pre ++ [4] ++ Leb.leb (fold x)) zs
    have e : (pre ++ [4]) ++ (Leb.leb (fold x) ++ Leb.leb (fold y) ++ zs) = pre ++ [4] ++ Leb.leb (fold x) ++ (Leb.leb (fold y) ++ zs) := by simp only [List.append_assoc]
    have e2 : (pre ++ [4]) ++ (Leb.leb (fold x) ++ Leb.leb (fold y) ++ zs) = pre ++ [4] ++ Leb.leb (fold x) ++ Leb.leb (fold y) ++ zs := by simp only [List.append_assoc]
    rw [← e] at h1
    rw [← e2, List.length_append (bs := Leb.leb (fold x))] at h2
    rw [pointAt_ok h1 h2]
    simp only [List.length_append, Nat.add_assoc]

/-! Cut short. -/
theorem textAt_cut (b pre : List Nat) (h : b.length ≤ 200) (k : Nat) (hk : k < (Leb.leb b.length ++ b).length) : textAt (pre ++ (Leb.leb b.length ++ b).take k) (pre.length : Int) = ([], 0, 3) := by
  unfold textAt
  rw [range_cut b pre 200 k h (by decide) hk]
  rfl

theorem attrAt_put {l0 : List Nat} {v : Val} {L : List Nat} (t : ByteArray) (pre zs : List Nat) (h1 : l0.length ≤ 200) (hn : nameOk (str l0)) (hle : leB (str l0) t = false) (hv : Val.Bytes v L) :
    attrAt (pre ++ (Leb.leb l0.length ++ l0) ++ L ++ zs) pre.length t = ((str l0, v), (pre ++ (Leb.leb l0.length ++ l0) ++ L).length, 0) := by
  have hT := textAt_put l0 pre (L ++ zs) h1
  have hV := valAt_put hv (pre ++ (Leb.leb l0.length ++ l0)) zs
  rw [← List.append_assoc] at hT
  rw [← List.length_append] at hT
  rw [← List.length_append] at hV
  exact attrAt_ok hT hn hle hV
theorem attrAt_cut {l0 : List Nat} {v : Val} {L : List Nat} (t : ByteArray) (pre : List Nat) (h1 : l0.length ≤ 200) (hn : nameOk (str l0)) (hle : leB (str l0) t = false) (hv : Val.Bytes v L) (j : Nat) (hj : j < ((Leb.leb l0.length ++ l0) ++ L).length) :
    attrAt (pre ++ ((Leb.leb l0.length ++ l0) ++ L).take j) pre.length t = (At.zero, 0, 3) := by
  by_cases hc : j < (Leb.leb l0.length ++ l0).length
  · rw [List.take_append_of_le_length (by omega)]
    exact attrAt_text (textAt_cut l0 pre h1 j hc) (by decide)
  · rw [List.take_append, List.take_of_length_le (by omega), ← List.append_assoc]
    have hT := textAt_put l0 pre (L.take (j - (Leb.leb l0.length ++ l0).length)) h1
    rw [← List.length_append] at hT
    exact attrAt_value hT hn hle (valAt_cut hv (pre ++ (Leb.leb l0.length ++ l0)) _ (by rw [List.length_append] at hj; omega)) (by decide)

theorem goAt_put {l : List At} {t : ByteArray} {R : List Nat} (h : AtsBytes l t R) : ∀ (pre zs : List Nat) (acc : List At), goAt (pre ++ R ++ zs) l.length pre.length t acc = (acc ++ l, (pre ++ R).length, 0) := by
  induction h using AtsBytes.ind with
  | nil t =>
    intro pre zs acc
    simp [goAt]
  | cons l0 v L r t R h1 h2 hn hle hv hr ih =>
    intro pre zs acc
    have e : pre ++ ((Leb.leb l0.length ++ l0) ++ (L ++ R)) ++ zs = pre ++ (Leb.leb l0.length ++ l0) ++ L ++ (R ++ zs) := by simp only [List.append_assoc]
    have e2 : pre ++ (Leb.leb l0.length ++ l0) ++ L ++ (R ++ zs) = (pre ++ (Leb.leb l0.length ++ l0) ++ L) ++ R ++ zs := by simp only [List.append_assoc]
    rw [List.length_cons, e, goAt_ok (attrAt_put t pre (R ++ zs) h1 hn hle hv), e2, ih]
    simp only [List.append_assoc, List.cons_append, List.nil_append]
theorem goAt_cut {l : List At} {t : ByteArray} {R : List Nat} (h : AtsBytes l t R) : ∀ (pre : List Nat) (acc : List At) (j : Nat), j < R.length → goAt (pre ++ R.take j) l.length pre.length t acc = ([], 0, 3) := by
  induction h using AtsBytes.ind with
  | nil t =>
    intro pre acc j hj
    simp at hj
  | cons l0 v L r t R h1 h2 hn hle hv hr ih =>
    intro pre acc j hj
    rw [← List.append_assoc] at hj ⊢
    rw [List.length_cons]
    by_cases hc : j < ((Leb.leb l0.length ++ l0) ++ L).length
    · rw [List.take_append_of_le_length (by omega)]
      exact goAt_err (attrAt_cut t pre h1 hn hle hv j hc) (by decide)
    · have e : pre ++ ((Leb.leb l0.length ++ l0) ++ L ++ R).take j = pre ++ (Leb.leb l0.length ++ l0) ++ L ++ R.take (j - ((Leb.leb l0.length ++ l0) ++ L).length) := by
        rw [List.take_append, List.take_of_length_le (by omega)]
        simp only [List.append_assoc]
      rw [e, goAt_ok (attrAt_put t pre _ h1 hn hle hv)]
      exact ih (pre ++ (Leb.leb l0.length ++ l0) ++ L) _ _ (by rw [List.length_append] at hj; omega)

/-- An event's bytes, cut short. -/
theorem evAt_cut {l : List At} {c M : List Nat} (h : EvBytes l c M) (j : Nat) (hj : j < M.length) : evAt (M.take j) 0 = (([], []), 0, 3) := by
  obtain ⟨R, h8, hA, hc, hcb, rfl⟩ := h
  by_cases h1 : j < (Leb.leb l.length).length
  · rw [List.take_append_of_le_length (by omega)]
    have hT := Leb.take_cut l.length (by omega) [] j h1
    exact evAt_err1 (attrsAt_err hT (by decide)) (by decide)
  · have e1 : (Leb.leb l.length ++ (R ++ (Leb.leb c.length ++ c))).take j = Leb.leb l.length ++ (R ++ (Leb.leb c.length ++ c)).take (j - (Leb.leb l.length).length) := by
      rw [List.take_append, List.take_of_length_le (by omega)]
    rw [e1]
    rw [List.length_append] at hj
    generalize hk : j - (Leb.leb l.length).length = k
    have hkl : k < (R ++ (Leb.leb c.length ++ c)).length := by omega
    have hT := Leb.take_put l.length (by omega) [] ((R ++ (Leb.leb c.length ++ c)).take k)
    rw [List.nil_append, List.length_nil, Nat.zero_add] at hT
    have hG := attrsAt_go hT (by omega)
    by_cases h2 : k < R.length
    · rw [List.take_append_of_le_length (by omega)] at hG ⊢
      rw [goAt_cut hA (Leb.leb l.length) [] k h2] at hG
      exact evAt_err1 hG (by decide)
    · have e2 : (R ++ (Leb.leb c.length ++ c)).take k = R ++ (Leb.leb c.length ++ c).take (k - R.length) := by
        rw [List.take_append, List.take_of_length_le (by omega)]
      rw [e2, ← List.append_assoc] at hG ⊢
      rw [goAt_put hA (Leb.leb l.length) _ []] at hG
      exact evAt_err2 hG (textAt_cut c (Leb.leb l.length ++ R) hc _ (by rw [List.length_append] at hkl; omega)) (by decide)
end Go.Proofs.Ytigmlhieibejoad
