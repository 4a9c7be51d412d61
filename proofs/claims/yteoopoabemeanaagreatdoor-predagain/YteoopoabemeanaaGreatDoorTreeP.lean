/- A pack of texts: PaTree PaTok PaTok2. -/
import Derived.Test.YteoopoabemeanaaGreatDoorPaGood
import Derived.Lib.ItoaNum
/- What is parsed is a tree, written out behind itself: plain mathematics. -/
namespace Go.Proofs.YteoopoabemeanaaGreatDoor

/-- How many parts stand below a sign: 0 Yes, 1 No, 2 an atom, 3 Not, 4 And, 5 Or. -/
def arE : Nat → Nat
  | 3 => 1
  | 4 => 2
  | 5 => 2
  | _ => 0
/-- A tree. -/
structure Ex where
  tag : Nat
  q : Tm
  kid : Fin (arE tag) → Ex
def noKid {k : Nat} (h : arE k = 0) (i : Fin (arE k)) : Ex := (Nat.not_lt_zero _ (Nat.lt_of_lt_of_eq i.2 h)).elim
def Ex.yes : Ex := ⟨0, Tm.plain 0, noKid rfl⟩
def Ex.no : Ex := ⟨1, Tm.plain 0, noKid rfl⟩
def Ex.atom (q : Tm) : Ex := ⟨2, q, noKid rfl⟩
def Ex.not (e : Ex) : Ex := ⟨3, Tm.plain 0, fun _ => e⟩
def Ex.and (a b : Ex) : Ex := ⟨4, Tm.plain 0, fun i => if i.1 = 0 then a else b⟩
def Ex.or (a b : Ex) : Ex := ⟨5, Tm.plain 0, fun i => if i.1 = 0 then a else b⟩
def Ex.post : Ex → List Tm
  | ⟨1, _, _⟩ => [Tm.plain 2]
  | ⟨2, q, _⟩ => [q]
  | ⟨3, _, k⟩ => (k ⟨0, by decide⟩).post ++ [Tm.plain 4]
  | ⟨4, _, k⟩ => (k ⟨0, by decide⟩).post ++ (k ⟨1, by decide⟩).post ++ [Tm.plain 5]
  | ⟨5, _, k⟩ => (k ⟨0, by decide⟩).post ++ (k ⟨1, by decide⟩).post ++ [Tm.plain 6]
  | _ => [Tm.plain 1]
def WholeStd (v : Val) : Prop := ∃ n : Int, v = wholeV n ∧ -9223372036854775808 ≤ n ∧ n ≤ 9223372036854775807
def WordStd (v : Val) : Prop := ∃ t : ByteArray, v = wordsV t ∧ t.size ≤ 200
def TruthStd (v : Val) : Prop := ∃ b, v = truthV b
def PointStd (v : Val) : Prop := ∃ x y : Int, v = pointV x y ∧ (-1048576 ≤ x ∧ x ≤ 1048576) ∧ -1048576 ≤ y ∧ y ≤ 1048576
def OrdStd (v : Val) : Prop := WholeStd v ∨ WordStd v
def ValStd (v : Val) : Prop := OrdStd v ∨ TruthStd v ∨ PointStd v
/-- An atom as the reader makes it. -/
def AtomStd (q : Tm) : Prop := q.op = 3 ∧ nameOk q.name ∧
  (((q.cmp = 1 ∨ q.cmp = 2) ∧ q.val = Val.zero ∧ q.radius = 0) ∨ ((q.cmp = 3 ∨ q.cmp = 4) ∧ ValStd q.val ∧ q.radius = 0) ∨ ((5 ≤ q.cmp ∧ q.cmp ≤ 8) ∧ OrdStd q.val ∧ q.radius = 0) ∨
    (q.cmp = 9 ∧ WordStd q.val ∧ q.radius = 0) ∨ (q.cmp = 10 ∧ PointStd q.val ∧ q.radius ≤ 1048576))
def Ex.std : Ex → Prop
  | ⟨0, q, _⟩ => q = Tm.plain 0
  | ⟨1, q, _⟩ => q = Tm.plain 0
  | ⟨2, q, _⟩ => AtomStd q
  | ⟨3, q, k⟩ => q = Tm.plain 0 ∧ (k ⟨0, by decide⟩).std
  | ⟨4, q, k⟩ => q = Tm.plain 0 ∧ (k ⟨0, by decide⟩).std ∧ (k ⟨1, by decide⟩).std
  | ⟨5, q, k⟩ => q = Tm.plain 0 ∧ (k ⟨0, by decide⟩).std ∧ (k ⟨1, by decide⟩).std
  | _ => False
theorem Ex.std_yes : Ex.yes.std := rfl
theorem Ex.std_no : Ex.no.std := rfl
theorem Ex.std_atom {q : Tm} (h : AtomStd q) : (Ex.atom q).std := h
theorem Ex.std_not {e : Ex} (h : e.std) : (Ex.not e).std := ⟨rfl, h⟩
theorem Ex.std_and {a b : Ex} (h : a.std) (h2 : b.std) : (Ex.and a b).std := ⟨rfl, h, h2⟩
theorem Ex.std_or {a b : Ex} (h : a.std) (h2 : b.std) : (Ex.or a b).std := ⟨rfl, h, h2⟩
theorem Ex.ind {P : Ex → Prop} (hy : P .yes) (hn : P .no) (ha : ∀ q, AtomStd q → P (.atom q)) (ht : ∀ e : Ex, e.std → P e → P (.not e)) (hand : ∀ a b : Ex, a.std → b.std → P a → P b → P (.and a b)) (hor : ∀ a b : Ex, a.std → b.std → P a → P b → P (.or a b)) : ∀ e : Ex, e.std → P e
  | ⟨0, q, k⟩, h => by
    obtain rfl : q = Tm.plain 0 := h
    have e : k = noKid rfl := funext fun i => absurd i.2 (Nat.not_lt_zero _)
    rw [e]; exact hy
  | ⟨1, q, k⟩, h => by
    obtain rfl : q = Tm.plain 0 := h
    have e : k = noKid rfl := funext fun i => absurd i.2 (Nat.not_lt_zero _)
    rw [e]; exact hn
  | ⟨2, q, k⟩, h => by
    have e : k = noKid rfl := funext fun i => absurd i.2 (Nat.not_lt_zero _)
    rw [e]; exact ha q h
  | ⟨3, q, k⟩, h => by
    obtain ⟨rfl, h1⟩ : q = Tm.plain 0 ∧ (k ⟨0, by decide⟩).std := h
    have e : k = fun _ => k ⟨0, by decide⟩ := funext fun i => by
      match i with
      | ⟨0, _⟩ => rfl
    have := ht _ h1 (Ex.ind hy hn ha ht hand hor (k ⟨0, by decide⟩) h1)
    rw [e]; exact this
  | ⟨4, q, k⟩, h => by
    obtain ⟨rfl, h1, h2⟩ : q = Tm.plain 0 ∧ (k ⟨0, by decide⟩).std ∧ (k ⟨1, by decide⟩).std := h
    have e : k = fun i => if i.1 = 0 then k ⟨0, by decide⟩ else k ⟨1, by decide⟩ := funext fun i => by
      match i with
      | ⟨0, _⟩ => rfl
      | ⟨1, _⟩ => rfl
    have := hand _ _ h1 h2 (Ex.ind hy hn ha ht hand hor (k ⟨0, by decide⟩) h1) (Ex.ind hy hn ha ht hand hor (k ⟨1, by decide⟩) h2)
    rw [e]; exact this
  | ⟨5, q, k⟩, h => by
    obtain ⟨rfl, h1, h2⟩ : q = Tm.plain 0 ∧ (k ⟨0, by decide⟩).std ∧ (k ⟨1, by decide⟩).std := h
    have e : k = fun i => if i.1 = 0 then k ⟨0, by decide⟩ else k ⟨1, by decide⟩ := funext fun i => by
      match i with
      | ⟨0, _⟩ => rfl
      | ⟨1, _⟩ => rfl
    have := hor _ _ h1 h2 (Ex.ind hy hn ha ht hand hor (k ⟨0, by decide⟩) h1) (Ex.ind hy hn ha ht hand hor (k ⟨1, by decide⟩) h2)
    rw [e]; exact this
  | ⟨_ + 6, _, _⟩, h => h.elim
namespace Tree
open _root_.Go.Proofs.YteoopoabemeanaaGreatDoor.Good (TokOk)

structure Kept (s s' : St) : Prop where
  tok : TokOk s'.next
  terms : s'.terms = s.terms
theorem Kept.trans {s s' s'' : St} (h : Kept s s') (h2 : Kept s' s'') : Kept s s'' := ⟨h2.tok, h2.terms.trans h.terms⟩
theorem andThen_ok {r : Res} {f : St → Res} {s' : St} (h : andThen r f = .ok s') : ∃ s1, r = .ok s1 ∧ f s1 = .ok s' := by
  cases r with
  | ok s => exact ⟨s, rfl, h⟩
  | error m => cases h
theorem thenS_ok {α : Type} {r : Res} {f : St → ResV α} {x : α × St} (h : thenS r f = .ok x) : ∃ s1, r = .ok s1 ∧ f s1 = .ok x := by
  cases r with
  | ok s => exact ⟨s, rfl, h⟩
  | error m => cases h
theorem withV_ok {α : Type} {v : α} {r : Res} {x : α × St} (h : withV v r = .ok x) : x.1 = v ∧ r = .ok x.2 := by
  cases r with
  | ok s => cases h; exact ⟨rfl, rfl⟩
  | error m => cases h
variable {F : Lex}

theorem pass_t (hF : ∀ p w k, F p = .ok (w, k) → TokOk w) {s s' : St} (h : passM F s = .ok s') : s.next.late = 0 ∧ Kept s s' := by
  unfold passM adv at h
  by_cases h0 : s.next.late = 0
  · rw [if_pos h0] at h
    cases hx : F s.here with
    | ok x => obtain ⟨w, k⟩ := x; rw [hx] at h; cases h; exact ⟨h0, hF _ _ _ hx, rfl⟩
    | error m => rw [hx] at h; cases h
  · rw [if_neg h0] at h; cases h
theorem need_t (hF : ∀ p w k, F p = .ok (w, k) → TokOk w) {k : Nat} {s s' : St} (h : needM F k s = .ok s') : s.next.kind = k ∧ s.next.late = 0 ∧ Kept s s' := by
  unfold needM at h
  by_cases h0 : s.next.kind = k
  · rw [if_pos h0] at h; exact ⟨h0, pass_t hF h⟩
  · rw [if_neg h0] at h; cases h
theorem needS_t (hF : ∀ p w k, F p = .ok (w, k) → TokOk w) {t : ByteArray} {s s' : St} (h : needS F t s = .ok s') : Kept s s' := by
  unfold needS at h
  by_cases h0 : isS t s = true
  · rw [if_pos h0] at h; exact (pass_t hF h).2
  · rw [if_neg h0] at h; cases h
theorem num_t (hF : ∀ p w k, F p = .ok (w, k) → TokOk w) {lo hi : Int} {s s' : St} (h : numM F lo hi s = .ok s') : (s.next.kind = 3 ∧ lo ≤ s.next.n ∧ s.next.n ≤ hi) ∧ Kept s s' := by
  unfold numM at h
  by_cases h0 : s.next.kind = 3 ∧ (s.next.n < lo ∨ hi < s.next.n)
  · rw [if_pos h0] at h; cases h
  · rw [if_neg h0] at h
    have := need_t hF h
    exact ⟨⟨this.1, by omega, by omega⟩, this.2.2⟩
theorem cmpFrom_t (hF : ∀ p w k, F p = .ok (w, k) → TokOk w) {s : St} (hs : TokOk s.next) : ∀ {k : Nat} {x : Nat × St}, k ≤ 8 → cmpFrom F s k = .ok x → (2 ≤ x.1 ∧ x.1 ≤ 10) ∧ Kept s x.2
  | 0, x, _, h => by cases h; exact ⟨⟨Nat.le_refl _, by omega⟩, hs, rfl⟩
  | k + 1, x, hk, h => by
    unfold cmpFrom at h
    by_cases h0 : isS (cmpText (10 - k)) s = true
    · rw [if_pos h0] at h
      obtain ⟨e1, e2⟩ := withV_ok h
      rw [e1]
      exact ⟨⟨by omega, by omega⟩, (pass_t hF e2).2⟩
    · rw [if_neg h0] at h
      exact cmpFrom_t hF hs (by omega) h
theorem ordered_t (hF : ∀ p w k, F p = .ok (w, k) → TokOk w) {s : St} (hs : TokOk s.next) {x : Val × St} (h : orderedM F s = .ok x) : OrdStd x.1 ∧ Kept s x.2 := by
  unfold orderedM at h
  by_cases h0 : s.next.kind = 4
  · rw [if_pos h0] at h
    obtain ⟨e1, e2⟩ := withV_ok h
    have := pass_t hF e2
    rw [e1]
    exact ⟨.inr ⟨_, rfl, hs.str h0 this.1⟩, this.2⟩
  · rw [if_neg h0] at h
    obtain ⟨e1, e2⟩ := withV_ok h
    have := num_t hF e2
    rw [e1]
    exact ⟨.inl ⟨_, rfl, this.1.2⟩, this.2⟩
theorem point_t (hF : ∀ p w k, F p = .ok (w, k) → TokOk w) {s : St} {x : Val × St} (h : pointM F s = .ok x) : PointStd x.1 ∧ Kept s x.2 := by
  unfold pointM partM at h
  obtain ⟨s1, e1, h⟩ := thenS_ok h
  obtain ⟨s2, e2, h⟩ := thenS_ok h
  obtain ⟨s3, e3, h⟩ := thenS_ok h
  obtain ⟨s4, e4, h⟩ := thenS_ok h
  obtain ⟨s5, e5, h⟩ := thenS_ok h
  cases h
  have k2 := num_t hF e2
  have k4 := num_t hF e4
  exact ⟨⟨_, _, rfl, k2.1.2, k4.1.2⟩, ((((needS_t hF e1).trans k2.2).trans (needS_t hF e3)).trans k4.2).trans (needS_t hF e5)⟩
theorem value_t (hF : ∀ p w k, F p = .ok (w, k) → TokOk w) {s : St} (hs : TokOk s.next) {x : Val × St} (h : valueM F s = .ok x) : ValStd x.1 ∧ Kept s x.2 := by
  unfold valueM at h
  by_cases h0 : isS ⟨#[40]⟩ s = true
  · rw [if_pos h0] at h
    have := point_t hF h
    exact ⟨.inr (.inr this.1), this.2⟩
  · rw [if_neg h0] at h
    by_cases h1 : s.next.kind = 2 ∧ (s.next.text = yesT ∨ s.next.text = noT)
    · rw [if_pos h1] at h
      obtain ⟨e1, e2⟩ := withV_ok h
      rw [e1]
      exact ⟨.inr (.inl ⟨_, rfl⟩), (pass_t hF e2).2⟩
    · rw [if_neg h1] at h
      have := ordered_t hF hs h
      exact ⟨.inl this.1, this.2⟩
theorem begins_t (hF : ∀ p w k, F p = .ok (w, k) → TokOk w) {s : St} (hs : TokOk s.next) {x : Val × St} (h : beginsM F s = .ok x) : WordStd x.1 ∧ Kept s x.2 := by
  unfold beginsM at h
  obtain ⟨e1, e2⟩ := withV_ok h
  have := need_t hF e2
  rw [e1]
  exact ⟨⟨_, rfl, hs.str this.1 this.2.1⟩, this.2.2⟩
/-- One more tree stands behind. -/
def Grown (s s' : St) : Prop := TokOk s'.next ∧ ∃ e : Ex, e.std ∧ s'.terms = s.terms ++ e.post
theorem atom_grown {s s1 : St} {q : Tm} (h : Kept s s1) (hq : AtomStd q) : Grown s (addM q s1) := ⟨h.tok, .atom q, hq, by show s1.terms ++ [q] = _; rw [h.terms]; rfl⟩
theorem rest_t (hF : ∀ p w k, F p = .ok (w, k) → TokOk w) {nm : ByteArray} (hn : nameOk nm) {c : Nat} (hc : 2 ≤ c ∧ c ≤ 10) {s s' : St} (hs : TokOk s.next) (h : restM F nm c s = .ok s') : Grown s s' := by
  unfold restM at h
  by_cases h2 : c = 2
  · rw [if_pos h2] at h
    cases h
    exact atom_grown ⟨hs, rfl⟩ ⟨rfl, hn, .inl ⟨.inr rfl, rfl, rfl⟩⟩
  · rw [if_neg h2] at h
    by_cases h3 : c = 3 ∨ c = 4
    · rw [if_pos h3] at h
      cases hx : valueM F s with
      | error m => rw [hx] at h; cases h
      | ok x =>
        rw [hx] at h
        have := value_t hF hs hx
        cases h
        exact atom_grown this.2 ⟨rfl, hn, .inr (.inl ⟨h3, this.1, rfl⟩)⟩
    · rw [if_neg h3] at h
      by_cases h9 : c = 9
      · rw [if_pos h9] at h
        cases hx : beginsM F s with
        | error m => rw [hx] at h; cases h
        | ok x =>
          rw [hx] at h
          have := begins_t hF hs hx
          cases h
          exact atom_grown this.2 ⟨rfl, hn, .inr (.inr (.inr (.inl ⟨h9, this.1, rfl⟩)))⟩
      · rw [if_neg h9] at h
        by_cases h10 : c = 10
        · rw [if_pos h10] at h
          cases hx : pointM F s with
          | error m => rw [hx] at h; cases h
          | ok x =>
            rw [hx] at h
            have := point_t hF hx
            obtain ⟨s2, e2, h⟩ := andThen_ok h
            obtain ⟨s3, e3, h⟩ := andThen_ok h
            have k3 := num_t hF e3
            cases h
            refine atom_grown ((this.2.trans (needS_t hF e2)).trans k3.2) ⟨rfl, hn, .inr (.inr (.inr (.inr ⟨h10, this.1, ?_⟩)))⟩
            show s2.next.n.toNat ≤ _
            omega
        · rw [if_neg h10] at h
          cases hx : orderedM F s with
          | error m => rw [hx] at h; cases h
          | ok x =>
            rw [hx] at h
            have := ordered_t hF hs hx
            cases h
            exact atom_grown this.2 ⟨rfl, hn, .inr (.inr (.inl ⟨by show 5 ≤ c ∧ c ≤ 8; omega, this.1, rfl⟩))⟩
theorem atom_t (hF : ∀ p w k, F p = .ok (w, k) → TokOk w) {s s' : St} (hs : TokOk s.next) (h : atomM F s = .ok s') : Grown s s' := by
  unfold atomM at h
  obtain ⟨s1, e1, h⟩ := andThen_ok h
  have k1 := need_t hF e1
  cases hx : cmpM F s1 with
  | error m => rw [hx] at h; cases h
  | ok x =>
    rw [hx] at h
    have k2 := cmpFrom_t hF k1.2.2.tok (Nat.le_refl 8) hx
    obtain ⟨g1, e, g2, g3⟩ := rest_t hF (hs.name k1.1 k1.2.1) k2.1 k2.2.tok h
    exact ⟨g1, e, g2, by rw [g3, k2.2.terms, k1.2.2.terms]⟩
/-- The tree that stands last has grown. -/
def Goes (s s' : St) : Prop := TokOk s'.next ∧ ∀ (B : List Tm) (e : Ex), e.std → s.terms = B ++ e.post → ∃ e2 : Ex, e2.std ∧ s'.terms = B ++ e2.post
def RunT (c : Nat) (s s' : St) : Prop := match c with
  | 1 => Goes s s'
  | 3 => Goes s s'
  | _ => Grown s s'
theorem Kept.grown {s s1 s' : St} (h : Kept s s1) (h2 : Grown s1 s') : Grown s s' := by
  obtain ⟨g1, e, g2, g3⟩ := h2
  exact ⟨g1, e, g2, by rw [g3, h.terms]⟩
theorem Grown.plain {s s1 : St} (h : Grown s s1) {op : Nat} {f : Ex → Ex} (hf : ∀ e : Ex, e.std → (f e).std) (hp : ∀ e : Ex, (f e).post = e.post ++ [Tm.plain op]) : Grown s (addM (Tm.plain op) s1) := by
  obtain ⟨g1, e, g2, g3⟩ := h
  exact ⟨g1, f e, hf e g2, by show s1.terms ++ [_] = _; rw [g3, hp, List.append_assoc]⟩
/-- One more tree, joined to the last one. -/
theorem Grown.goes {s s1 s' : St} {op : Nat} {f : Ex → Ex → Ex} (hf : ∀ a b : Ex, a.std → b.std → (f a b).std) (hp : ∀ a b : Ex, (f a b).post = a.post ++ b.post ++ [Tm.plain op]) (h : Grown s s1) (h2 : Goes (addM (Tm.plain op) s1) s') : Goes s s' := by
  obtain ⟨g1, b, g2, g3⟩ := h
  refine ⟨h2.1, fun B a ha hB => ?_⟩
  refine h2.2 B (f a b) (hf a b ha g2) ?_
  show s1.terms ++ [_] = _
  rw [g3, hB, hp, List.append_assoc, List.append_assoc, List.append_assoc]
theorem Kept.goes {s s1 s' : St} (h : Kept s s1) (h2 : Goes s1 s') : Goes s s' := ⟨h2.1, fun B e he hB => h2.2 B e he (by rw [h.terms]; exact hB)⟩
theorem run_t (hF : ∀ p w k, F p = .ok (w, k) → TokOk w) : ∀ (n c : Nat) {s s' : St}, TokOk s.next → runM F n c s = .ok s' → RunT c s s'
  | 0, c, s, s', hs, h => by simp [runM] at h
  | n + 1, 0, s, s', hs, h => by
    rw [runM] at h
    obtain ⟨s1, e1, h⟩ := andThen_ok h
    obtain ⟨g1, e, g2, g3⟩ : Grown s s1 := run_t hF n 2 hs e1
    obtain ⟨k1, k2⟩ : Goes s1 s' := run_t hF n 1 g1 h
    obtain ⟨e2, k3, k4⟩ := k2 s.terms e g2 g3
    exact ⟨k1, e2, k3, k4⟩
  | n + 1, 1, s, s', hs, h => by
    rw [runM] at h
    by_cases h0 : isS ⟨#[124]⟩ s = true
    · rw [if_pos h0] at h
      obtain ⟨s1, e1, h⟩ := andThen_ok h
      obtain ⟨s2, e2, h⟩ := andThen_ok h
      have p1 := (pass_t hF e1).2
      have g : Grown s1 s2 := run_t hF n 2 p1.tok e2
      have k : Goes (addM (Tm.plain 6) s2) s' := run_t hF n 1 g.1 h
      exact p1.goes (g.goes (f := Ex.or) (fun _ _ ha hb => Ex.std_or ha hb) (fun _ _ => rfl) k)
    · rw [if_neg h0] at h
      cases h
      exact ⟨hs, fun B e he hB => ⟨e, he, hB⟩⟩
  | n + 1, 2, s, s', hs, h => by
    rw [runM] at h
    obtain ⟨s1, e1, h⟩ := andThen_ok h
    obtain ⟨g1, e, g2, g3⟩ : Grown s s1 := run_t hF n 4 hs e1
    obtain ⟨k1, k2⟩ : Goes s1 s' := run_t hF n 3 g1 h
    obtain ⟨e2, k3, k4⟩ := k2 s.terms e g2 g3
    exact ⟨k1, e2, k3, k4⟩
  | n + 1, 3, s, s', hs, h => by
    rw [runM] at h
    by_cases h0 : isS ⟨#[38]⟩ s = true
    · rw [if_pos h0] at h
      obtain ⟨s1, e1, h⟩ := andThen_ok h
      obtain ⟨s2, e2, h⟩ := andThen_ok h
      have p1 := (pass_t hF e1).2
      have g : Grown s1 s2 := run_t hF n 4 p1.tok e2
      have k : Goes (addM (Tm.plain 5) s2) s' := run_t hF n 3 g.1 h
      exact p1.goes (g.goes (f := Ex.and) (fun _ _ ha hb => Ex.std_and ha hb) (fun _ _ => rfl) k)
    · rw [if_neg h0] at h
      cases h
      exact ⟨hs, fun B e he hB => ⟨e, he, hB⟩⟩
  | n + 1, k + 4, s, s', hs, h => by
    show Grown s s'
    rw [runM] at h
    by_cases h1 : isS ⟨#[33]⟩ s = true
    · rw [if_pos h1] at h
      obtain ⟨s1, e1, h⟩ := andThen_ok h
      obtain ⟨s2, e2, h⟩ := andThen_ok h
      have p1 := (pass_t hF e1).2
      have g : Grown s1 s2 := run_t hF n 4 p1.tok e2
      cases h
      exact p1.grown (g.plain (f := Ex.not) (fun _ h => Ex.std_not h) (fun _ => rfl))
    · rw [if_neg h1] at h
      by_cases h2 : isS ⟨#[40]⟩ s = true
      · rw [if_pos h2] at h
        obtain ⟨s1, e1, h⟩ := andThen_ok h
        obtain ⟨s2, e2, h⟩ := andThen_ok h
        have p1 := (pass_t hF e1).2
        obtain ⟨g1, e, g2, g3⟩ : Grown s1 s2 := run_t hF n 0 p1.tok e2
        have p3 := needS_t hF h
        exact ⟨p3.tok, e, g2, by rw [p3.terms, g3, p1.terms]⟩
      · rw [if_neg h2] at h
        by_cases h3 : isS ⟨#[42]⟩ s = true
        · rw [if_pos h3] at h
          obtain ⟨s1, e1, h⟩ := andThen_ok h
          have p1 := (pass_t hF e1).2
          cases h
          exact ⟨p1.tok, .yes, Ex.std_yes, by show s1.terms ++ _ = _; rw [p1.terms]; rfl⟩
        · rw [if_neg h3] at h
          by_cases h4 : isS ⟨#[35]⟩ s = true
          · rw [if_pos h4] at h
            obtain ⟨s1, e1, h⟩ := andThen_ok h
            have p1 := (pass_t hF e1).2
            cases h
            exact ⟨p1.tok, .no, Ex.std_no, by show s1.terms ++ _ = _; rw [p1.terms]; rfl⟩
          · rw [if_neg h4] at h
            by_cases h5 : isS ⟨#[63]⟩ s = true
            · rw [if_pos h5] at h
              obtain ⟨s1, e1, h⟩ := andThen_ok h
              obtain ⟨s2, e2, h⟩ := andThen_ok h
              have p1 := (pass_t hF e1).2
              have p2 := need_t hF e2
              cases h
              exact atom_grown (p1.trans p2.2.2) ⟨rfl, p1.tok.name p2.1 p2.2.1, .inl ⟨.inl rfl, rfl, rfl⟩⟩
            · rw [if_neg h5] at h
              exact atom_t hF hs h
theorem parse_t (hF : ∀ p w k, F p = .ok (w, k) → TokOk w) {n : Nat} {s : St} (h : parseM F n = .ok s) : ∃ e : Ex, e.std ∧ s.terms = e.post := by
  unfold parseM at h
  obtain ⟨s1, e1, h⟩ := andThen_ok h
  obtain ⟨s2, e2, h⟩ := andThen_ok h
  have p1 : Kept start s1 := by
    unfold adv at e1
    cases hx : F start.here with
    | ok x => rw [hx] at e1; cases e1; exact ⟨hF _ _ _ hx, rfl⟩
    | error m => rw [hx] at e1; cases e1
  obtain ⟨_, e, g2, g3⟩ : Grown s1 s2 := run_t hF n 0 p1.tok e2
  have p3 := (need_t hF h).2.2
  exact ⟨e, g2, by rw [p3.terms, g3, p1.terms]; rfl⟩
end Tree
/-! Check of a tree. -/
theorem check_go (e : Ex) (he : e.std) : ∀ (st : Nat) (r : List Tm), checkGo st (e.post ++ r) = 6 ∨ checkGo st (e.post ++ r) = checkGo (st + 1) r := by
  refine Ex.ind (P := fun e => ∀ (st : Nat) (r : List Tm), checkGo st (e.post ++ r) = 6 ∨ checkGo st (e.post ++ r) = checkGo (st + 1) r) ?_ ?_ ?_ ?_ ?_ ?_ e he
  · intro st r
    show checkGo st (Tm.plain 1 :: r) = 6 ∨ checkGo st (Tm.plain 1 :: r) = _
    rw [checkGo, if_neg (by decide), if_neg (by decide)]
    by_cases h : 16 < st + 1
    · rw [if_pos h]; exact .inl rfl
    · rw [if_neg h]; exact .inr rfl
  · intro st r
    show checkGo st (Tm.plain 2 :: r) = 6 ∨ checkGo st (Tm.plain 2 :: r) = _
    rw [checkGo, if_neg (by decide), if_neg (by decide)]
    by_cases h : 16 < st + 1
    · rw [if_pos h]; exact .inl rfl
    · rw [if_neg h]; exact .inr rfl
  · intro q hs st r
    show checkGo st (q :: r) = 6 ∨ checkGo st (q :: r) = _
    have h3 : q.op = 3 := hs.1
    rw [checkGo, h3, if_neg (by decide), if_neg (by decide)]
    by_cases h : 16 < st + 1
    · rw [if_pos h]; exact .inl rfl
    · rw [if_neg h]; exact .inr rfl
  · intro e _ ih st r
    show checkGo st (e.post ++ [Tm.plain 4] ++ r) = 6 ∨ checkGo st (e.post ++ [Tm.plain 4] ++ r) = _
    rw [List.append_assoc]
    rcases ih st ([Tm.plain 4] ++ r) with h | h
    · exact .inl h
    · rw [h]
      show checkGo (st + 1) (Tm.plain 4 :: r) = 6 ∨ checkGo (st + 1) (Tm.plain 4 :: r) = _
      rw [checkGo, if_pos (by decide), if_neg (by omega)]
      exact .inr rfl
  · intro a b _ _ iha ihb st r
    show checkGo st (a.post ++ b.post ++ [Tm.plain 5] ++ r) = 6 ∨ checkGo st (a.post ++ b.post ++ [Tm.plain 5] ++ r) = _
    rw [List.append_assoc, List.append_assoc]
    rcases iha st (b.post ++ ([Tm.plain 5] ++ r)) with h | h
    · exact .inl h
    · rw [h]
      rcases ihb (st + 1) ([Tm.plain 5] ++ r) with h | h
      · exact .inl h
      · rw [h]
        show checkGo (st + 1 + 1) (Tm.plain 5 :: r) = 6 ∨ checkGo (st + 1 + 1) (Tm.plain 5 :: r) = _
        rw [checkGo, if_neg (by decide), if_pos (by decide), if_neg (by omega)]
        exact .inr rfl
  · intro a b _ _ iha ihb st r
    show checkGo st (a.post ++ b.post ++ [Tm.plain 6] ++ r) = 6 ∨ checkGo st (a.post ++ b.post ++ [Tm.plain 6] ++ r) = _
    rw [List.append_assoc, List.append_assoc]
    rcases iha st (b.post ++ ([Tm.plain 6] ++ r)) with h | h
    · exact .inl h
    · rw [h]
      rcases ihb (st + 1) ([Tm.plain 6] ++ r) with h | h
      · exact .inl h
      · rw [h]
        show checkGo (st + 1 + 1) (Tm.plain 6 :: r) = 6 ∨ checkGo (st + 1 + 1) (Tm.plain 6 :: r) = _
        rw [checkGo, if_neg (by decide), if_pos (by decide), if_neg (by omega)]
        exact .inr rfl
theorem check_tree {e : Ex} (hs : e.std) (h : checkT e.post ≠ 6) : checkT e.post = 0 := by
  unfold checkT at h ⊢
  by_cases h1 : 48 < e.post.length
  · rw [if_pos h1] at h; exact absurd rfl h
  · rw [if_neg h1] at h ⊢
    rcases check_go e hs 0 [] with h2 | h2
    · rw [List.append_nil] at h2; exact absurd h2 h
    · rw [List.append_nil] at h2
      rw [h2]
      rfl
end Go.Proofs.YteoopoabemeanaaGreatDoor
/- The words of a tree, and that they are parsed as the tree: plain mathematics. -/
namespace Go.Proofs.YteoopoabemeanaaGreatDoor

def endW : Wd := ⟨0, 0, ⟨#[]⟩, 0, 0⟩
def sgW (t : ByteArray) : Wd := ⟨1, 0, t, 0, 0⟩
def nmW (t : ByteArray) : Wd := ⟨2, 0, t, 0, 0⟩
def nuW (n : Int) : Wd := ⟨3, 0, ⟨#[]⟩, n, 0⟩
def stW (t : ByteArray) : Wd := ⟨4, 0, t, 0, 0⟩
/-- A decimal number's bytes. -/
def decT (n : Int) : List Nat := (Lib.itoa n).map fun c => c.toNat
/-- A byte within a quoted string. -/
def quoB (c : Nat) : List Nat := if c = 34 ∨ c = 92 then [92, c] else if 32 ≤ c ∧ c ≤ 126 then [c] else [92, 120, (if c / 16 < 10 then 48 + c / 16 else 87 + c / 16), (if c % 16 < 10 then 48 + c % 16 else 87 + c % 16)]
def quoT (l : List Nat) : List Nat := 34 :: (l.flatMap quoB ++ [34])
/-- A value's text, and its words. -/
def ValTxt (v : Val) (x : List Nat) (u : List Wd) : Prop :=
  (∃ n : Int, v = wholeV n ∧ (-9223372036854775808 ≤ n ∧ n ≤ 9223372036854775807) ∧ x = decT n ∧ u = [nuW n]) ∨
  (∃ t : ByteArray, v = wordsV t ∧ t.size ≤ 200 ∧ x = quoT (t.data.toList.map fun c => c.toNat) ∧ u = [stW t]) ∨
  (v = truthV true ∧ x = [121, 101, 115] ∧ u = [nmW yesT]) ∨ (v = truthV false ∧ x = [110, 111] ∧ u = [nmW noT]) ∨
  (∃ a b : Int, v = pointV a b ∧ (-1048576 ≤ a ∧ a ≤ 1048576) ∧ (-1048576 ≤ b ∧ b ≤ 1048576) ∧ x = 40 :: (decT a ++ 44 :: (decT b ++ [41])) ∧ u = [sgW ⟨#[40]⟩, nuW a, sgW ⟨#[44]⟩, nuW b, sgW ⟨#[41]⟩])
def nameL (t : ByteArray) : List Nat := t.data.toList.map fun c => c.toNat
def AtomTxt (q : Tm) (x : List Nat) (u : List Wd) : Prop :=
  (q.cmp = 1 ∧ x = 63 :: nameL q.name ∧ u = [sgW ⟨#[63]⟩, nmW q.name]) ∨ (q.cmp = 2 ∧ x = nameL q.name ∧ u = [nmW q.name]) ∨
  ((3 ≤ q.cmp ∧ q.cmp ≤ 9) ∧ ∃ y v, ValTxt q.val y v ∧ x = nameL q.name ++ (nameL (cmpText q.cmp) ++ y) ∧ u = nmW q.name :: sgW (cmpText q.cmp) :: v) ∨
  (q.cmp = 10 ∧ ∃ y v, ValTxt q.val y v ∧ x = nameL q.name ++ (126 :: (y ++ 47 :: decT q.radius)) ∧ u = nmW q.name :: sgW ⟨#[126]⟩ :: (v ++ [sgW ⟨#[47]⟩, nuW q.radius]))
def bindOf : Ex → Nat
  | ⟨5, _, _⟩ => 0
  | ⟨4, _, _⟩ => 1
  | _ => 2
/-- What is said, in brackets where it binds less than it must. -/
def HeldP (P : List Nat → List Wd → Prop) (b k : Nat) (x : List Nat) (u : List Wd) : Prop := (k ≤ b ∧ P x u) ∨ (b < k ∧ ∃ x' u', P x' u' ∧ x = 40 :: (x' ++ [41]) ∧ u = sgW ⟨#[40]⟩ :: (u' ++ [sgW ⟨#[41]⟩]))
def Txt : Ex → List Nat → List Wd → Prop
  | ⟨0, _, _⟩, x, u => x = [42] ∧ u = [sgW ⟨#[42]⟩]
  | ⟨1, _, _⟩, x, u => x = [35] ∧ u = [sgW ⟨#[35]⟩]
  | ⟨2, q, _⟩, x, u => AtomTxt q x u
  | ⟨3, _, k⟩, x, u => ∃ y v, HeldP (Txt (k ⟨0, by decide⟩)) (bindOf (k ⟨0, by decide⟩)) 2 y v ∧ x = 33 :: y ∧ u = sgW ⟨#[33]⟩ :: v
  | ⟨4, _, k⟩, x, u => ∃ y v z s, HeldP (Txt (k ⟨0, by decide⟩)) (bindOf (k ⟨0, by decide⟩)) 1 y v ∧ HeldP (Txt (k ⟨1, by decide⟩)) (bindOf (k ⟨1, by decide⟩)) 2 z s ∧ x = y ++ (32 :: 38 :: 32 :: z) ∧ u = v ++ sgW ⟨#[38]⟩ :: s
  | ⟨5, _, k⟩, x, u => ∃ y v z s, HeldP (Txt (k ⟨0, by decide⟩)) (bindOf (k ⟨0, by decide⟩)) 0 y v ∧ HeldP (Txt (k ⟨1, by decide⟩)) (bindOf (k ⟨1, by decide⟩)) 1 z s ∧ x = y ++ (32 :: 124 :: 32 :: z) ∧ u = v ++ sgW ⟨#[124]⟩ :: s
  | _, _, _ => False

/-! A reader over a list of words. -/
def listF (W : List Wd) : Lex := fun p => match W.drop p with
  | [] => .ok (endW, p)
  | w :: _ => .ok (w, p + 1)
def stR (W r : List Wd) (ts : List Tm) : St := match r with
  | [] => ⟨W.length, endW, ts⟩
  | w :: r => ⟨W.length - r.length, w, ts⟩
namespace Tok
variable {W : List Wd}

theorem adv_l {r : List Wd} (h : r <:+ W) (w : Wd) (ts : List Tm) : adv (listF W) ⟨W.length - r.length, w, ts⟩ = .ok (stR W r ts) := by
  have hd : W.drop (W.length - r.length) = r := (List.suffix_iff_eq_drop.1 h).symm
  have hl := h.length_le
  unfold adv listF
  simp only [hd]
  cases r with
  | nil => rfl
  | cons w2 r2 =>
    simp only [List.length_cons] at hl ⊢
    simp only [stR, Except.ok.injEq, St.mk.injEq, and_self, and_true]
    omega
theorem pass_l {w : Wd} {r : List Wd} (h : (w :: r) <:+ W) (hw : w.late = 0) (ts : List Tm) : passM (listF W) (stR W (w :: r) ts) = .ok (stR W r ts) := by
  unfold passM
  rw [if_pos (show (stR W (w :: r) ts).next.late = 0 from hw)]
  exact adv_l ((List.suffix_cons w r).trans h) w ts
theorem need_l {k : Nat} {w : Wd} {r : List Wd} (h : (w :: r) <:+ W) (hk : w.kind = k) (hw : w.late = 0) (ts : List Tm) : needM (listF W) k (stR W (w :: r) ts) = .ok (stR W r ts) := by
  unfold needM
  rw [if_pos (show (stR W (w :: r) ts).next.kind = k from hk)]
  exact pass_l h hw ts
theorem isS_l (t t' : ByteArray) (r : List Wd) (ts : List Tm) : isS t (stR W (sgW t' :: r) ts) = decide (t' = t) := by
  unfold isS
  simp only [stR, sgW, decide_true, Bool.true_and]
  exact decide_eq_decide.2 Iff.rfl
theorem isS_n (t : ByteArray) {w : Wd} (hw : w.kind ≠ 1) (r : List Wd) (ts : List Tm) : isS t (stR W (w :: r) ts) = false := by
  unfold isS
  rw [show decide ((stR W (w :: r) ts).next.kind = 1) = false from decide_eq_false hw]
  rfl
theorem isS_e (t : ByteArray) (ts : List Tm) : isS t (stR W [] ts) = false := rfl
theorem needS_l {t : ByteArray} {r : List Wd} (h : (sgW t :: r) <:+ W) (ts : List Tm) : needS (listF W) t (stR W (sgW t :: r) ts) = .ok (stR W r ts) := by
  unfold needS
  rw [isS_l, if_pos (decide_eq_true rfl)]
  exact pass_l h rfl ts
theorem num_l {lo hi n : Int} {r : List Wd} (h : (nuW n :: r) <:+ W) (hn : lo ≤ n ∧ n ≤ hi) (ts : List Tm) : numM (listF W) lo hi (stR W (nuW n :: r) ts) = .ok (stR W r ts) := by
  unfold numM
  rw [if_neg (by intro hx; have : n < lo ∨ hi < n := hx.2; omega)]
  exact need_l h rfl rfl ts
theorem thenS_k {α : Type} (s : St) (f : St → ResV α) : thenS (.ok s) f = f s := rfl
theorem andThen_k (s : St) (f : St → Res) : andThen (.ok s) f = f s := rfl
theorem add_l (r : List Wd) (ts : List Tm) (q : Tm) : addM q (stR W r ts) = stR W r (ts ++ [q]) := by cases r <;> rfl
theorem terms_l (r : List Wd) (ts : List Tm) : (stR W r ts).terms = ts := by cases r <;> rfl
theorem tail_l {w : Wd} {r : List Wd} (h : (w :: r) <:+ W) : r <:+ W := (List.suffix_cons w r).trans h
theorem drop_l {u r : List Wd} (h : (u ++ r) <:+ W) : r <:+ W := (List.suffix_append u r).trans h
/-- What may stand behind a unit. -/
def Fw (r : List Wd) : Prop := r = [] ∨ ∃ t r', r = sgW t :: r' ∧ (t = ⟨#[38]⟩ ∨ t = ⟨#[124]⟩ ∨ t = ⟨#[41]⟩)
def Fo (r : List Wd) : Prop := r = [] ∨ ∃ t r', r = sgW t :: r' ∧ (t = ⟨#[124]⟩ ∨ t = ⟨#[41]⟩)
theorem Fo.fw {r : List Wd} (h : Fo r) : Fw r := by
  rcases h with h | ⟨t, r', h, h2⟩
  · exact .inl h
  · exact .inr ⟨t, r', h, .inr h2⟩
theorem Fw.isS {r : List Wd} (h : Fw r) {t : ByteArray} (h1 : t ≠ ⟨#[38]⟩) (h2 : t ≠ ⟨#[124]⟩) (h3 : t ≠ ⟨#[41]⟩) (ts : List Tm) : Go.Proofs.YteoopoabemeanaaGreatDoor.isS t (stR W r ts) = false := by
  rcases h with rfl | ⟨t', r', rfl, h⟩
  · rfl
  · rw [isS_l]
    rcases h with rfl | rfl | rfl
    · exact decide_eq_false (Ne.symm h1)
    · exact decide_eq_false (Ne.symm h2)
    · exact decide_eq_false (Ne.symm h3)
theorem Fo.isS {r : List Wd} (h : Fo r) (ts : List Tm) : Go.Proofs.YteoopoabemeanaaGreatDoor.isS ⟨#[38]⟩ (stR W r ts) = false := by
  rcases h with rfl | ⟨t', r', rfl, h⟩
  · rfl
  · rw [isS_l]
    rcases h with rfl | rfl <;> rfl
theorem cmp_none {r : List Wd} (h : Fw r) (ts : List Tm) : cmpM (listF W) (stR W r ts) = .ok (2, stR W r ts) := by
  have hk : ∀ k, k ≤ 8 → cmpFrom (listF W) (stR W r ts) k = .ok (2, stR W r ts) := by
    intro k
    induction k with
    | zero => intro _; rfl
    | succ k ih =>
      intro hk
      rw [cmpFrom]
      have h1 : cmpText (10 - k) ≠ ⟨#[38]⟩ ∧ cmpText (10 - k) ≠ ⟨#[124]⟩ ∧ cmpText (10 - k) ≠ ⟨#[41]⟩ := by
        rcases (show k = 0 ∨ k = 1 ∨ k = 2 ∨ k = 3 ∨ k = 4 ∨ k = 5 ∨ k = 6 ∨ k = 7 by omega) with rfl | rfl | rfl | rfl | rfl | rfl | rfl | rfl <;> decide
      rw [h.isS h1.1 h1.2.1 h1.2.2, if_neg (by decide)]
      exact ih (by omega)
  exact hk 8 (Nat.le_refl _)
theorem cmp_some {c : Nat} (hc : 3 ≤ c ∧ c ≤ 10) {r : List Wd} (h : (sgW (cmpText c) :: r) <:+ W) (ts : List Tm) : cmpM (listF W) (stR W (sgW (cmpText c) :: r) ts) = .ok (c, stR W r ts) := by
  have hp := pass_l h rfl ts
  unfold cmpM
  rcases (show c = 3 ∨ c = 4 ∨ c = 5 ∨ c = 6 ∨ c = 7 ∨ c = 8 ∨ c = 9 ∨ c = 10 by omega) with rfl | rfl | rfl | rfl | rfl | rfl | rfl | rfl
  all_goals
    simp only [cmpFrom, isS_l, hp, withV]
    rfl
theorem value_l {v : Val} {y : List Nat} {u r : List Wd} (hv : ValTxt v y u) (h : (u ++ r) <:+ W) (ts : List Tm) : valueM (listF W) (stR W (u ++ r) ts) = .ok (v, stR W r ts) := by
  unfold valueM orderedM pointM partM
  rcases hv with ⟨n, rfl, hn, _, rfl⟩ | ⟨t, rfl, _, _, rfl⟩ | ⟨rfl, _, rfl⟩ | ⟨rfl, _, rfl⟩ | ⟨a, b, rfl, ha, hb, _, rfl⟩
  · rw [List.singleton_append] at h ⊢
    rw [isS_n _ (show (3 : Nat) ≠ 1 by decide), if_neg (by decide), if_neg (fun hx => absurd hx.1 (show ¬ (stR W (nuW n :: r) ts).next.kind = 2 by show ¬ (3 : Nat) = 2; decide)), if_neg (show ¬ (stR W (nuW n :: r) ts).next.kind = 4 by show ¬ (3 : Nat) = 4; decide), num_l h hn]
    rfl
  · rw [List.singleton_append] at h ⊢
    rw [isS_n _ (show (4 : Nat) ≠ 1 by decide), if_neg (by decide), if_neg (fun hx => absurd hx.1 (show ¬ (stR W (stW t :: r) ts).next.kind = 2 by show ¬ (4 : Nat) = 2; decide)), if_pos (show (stR W (stW t :: r) ts).next.kind = 4 from rfl), pass_l h rfl]
    rfl
  · rw [List.singleton_append] at h ⊢
    rw [isS_n _ (show (2 : Nat) ≠ 1 by decide), if_neg (by decide), if_pos (show (stR W (nmW yesT :: r) ts).next.kind = 2 ∧ ((stR W (nmW yesT :: r) ts).next.text = yesT ∨ (stR W (nmW yesT :: r) ts).next.text = noT) from ⟨rfl, .inl rfl⟩), pass_l h rfl]
    rfl
  · rw [List.singleton_append] at h ⊢
    rw [isS_n _ (show (2 : Nat) ≠ 1 by decide), if_neg (by decide), if_pos (show (stR W (nmW noT :: r) ts).next.kind = 2 ∧ ((stR W (nmW noT :: r) ts).next.text = yesT ∨ (stR W (nmW noT :: r) ts).next.text = noT) from ⟨rfl, .inr rfl⟩), pass_l h rfl]
    rfl
  · simp only [List.cons_append, List.nil_append] at h ⊢
    rw [isS_l, if_pos (decide_eq_true rfl), needS_l h, thenS_k, num_l (tail_l h) ha, thenS_k, needS_l (tail_l (tail_l h)), thenS_k, num_l (tail_l (tail_l (tail_l h))) hb, thenS_k, needS_l (tail_l (tail_l (tail_l (tail_l h)))), thenS_k]
    rfl
theorem ordered_l {v : Val} {y : List Nat} {u r : List Wd} (hv : ValTxt v y u) (ho : OrdStd v) (h : (u ++ r) <:+ W) (ts : List Tm) : orderedM (listF W) (stR W (u ++ r) ts) = .ok (v, stR W r ts) := by
  have hk : v.kind = 1 ∨ v.kind = 2 := by
    rcases ho with ⟨n, rfl, _⟩ | ⟨t, rfl, _⟩
    · exact .inl rfl
    · exact .inr rfl
  unfold orderedM
  rcases hv with ⟨n, rfl, hn, _, rfl⟩ | ⟨t, rfl, _, _, rfl⟩ | ⟨rfl, _, rfl⟩ | ⟨rfl, _, rfl⟩ | ⟨a, b, rfl, ha, hb, _, rfl⟩
  · rw [List.singleton_append] at h ⊢
    rw [if_neg (show ¬ (stR W (nuW n :: r) ts).next.kind = 4 by show ¬ (3 : Nat) = 4; decide), num_l h hn]
    rfl
  · rw [List.singleton_append] at h ⊢
    rw [if_pos (show (stR W (stW t :: r) ts).next.kind = 4 from rfl), pass_l h rfl]
    rfl
  · simp [truthV] at hk
  · simp [truthV] at hk
  · simp [pointV] at hk
theorem begins_l {v : Val} {y : List Nat} {u r : List Wd} (hv : ValTxt v y u) (ho : WordStd v) (h : (u ++ r) <:+ W) (ts : List Tm) : beginsM (listF W) (stR W (u ++ r) ts) = .ok (v, stR W r ts) := by
  have hk : v.kind = 2 := by obtain ⟨t, rfl, _⟩ := ho; rfl
  unfold beginsM
  rcases hv with ⟨n, rfl, hn, _, rfl⟩ | ⟨t, rfl, _, _, rfl⟩ | ⟨rfl, _, rfl⟩ | ⟨rfl, _, rfl⟩ | ⟨a, b, rfl, ha, hb, _, rfl⟩
  · simp [wholeV] at hk
  · rw [List.singleton_append] at h ⊢
    rw [need_l h (show (stW t).kind = 4 from rfl) rfl]
    rfl
  · simp [truthV] at hk
  · simp [truthV] at hk
  · simp [pointV] at hk
theorem point_l {v : Val} {y : List Nat} {u r : List Wd} (hv : ValTxt v y u) (ho : PointStd v) (h : (u ++ r) <:+ W) (ts : List Tm) : pointM (listF W) (stR W (u ++ r) ts) = .ok (v, stR W r ts) := by
  have hk : v.kind = 4 := by obtain ⟨a, b, rfl, _⟩ := ho; rfl
  unfold pointM partM
  rcases hv with ⟨n, rfl, hn, _, rfl⟩ | ⟨t, rfl, _, _, rfl⟩ | ⟨rfl, _, rfl⟩ | ⟨rfl, _, rfl⟩ | ⟨a, b, rfl, ha, hb, _, rfl⟩
  · simp [wholeV] at hk
  · simp [wordsV] at hk
  · simp [truthV] at hk
  · simp [truthV] at hk
  · simp only [List.cons_append, List.nil_append] at h ⊢
    rw [needS_l h, thenS_k, num_l (tail_l h) ha, thenS_k, needS_l (tail_l (tail_l h)), thenS_k, num_l (tail_l (tail_l (tail_l h))) hb, thenS_k, needS_l (tail_l (tail_l (tail_l (tail_l h)))), thenS_k]
    rfl
end Tok
end Go.Proofs.YteoopoabemeanaaGreatDoor
/- The words of a tree are parsed as the tree: plain mathematics. -/
namespace Go.Proofs.YteoopoabemeanaaGreatDoor
namespace Tok
variable {W : List Wd}

theorem any_eq (F : Lex) (n : Nat) (s : St) : runM F (n + 1) 0 s = andThen (runM F n 2 s) (runM F n 1) := rfl
theorem anyGo_eq (F : Lex) (n : Nat) (s : St) : runM F (n + 1) 1 s = if isS ⟨#[124]⟩ s = true then andThen (passM F s) (fun s1 => andThen (runM F n 2 s1) fun s2 => runM F n 1 (addM (Tm.plain 6) s2)) else .ok s := rfl
theorem all_eq (F : Lex) (n : Nat) (s : St) : runM F (n + 1) 2 s = andThen (runM F n 4 s) (runM F n 3) := rfl
theorem allGo_eq (F : Lex) (n : Nat) (s : St) : runM F (n + 1) 3 s = if isS ⟨#[38]⟩ s = true then andThen (passM F s) (fun s1 => andThen (runM F n 4 s1) fun s2 => runM F n 3 (addM (Tm.plain 5) s2)) else .ok s := rfl
theorem unit_eq (F : Lex) (n : Nat) (s : St) : runM F (n + 1) 4 s =
    if isS ⟨#[33]⟩ s = true then andThen (passM F s) fun s1 => andThen (runM F n 4 s1) fun s2 => .ok (addM (Tm.plain 4) s2)
    else if isS ⟨#[40]⟩ s = true then andThen (passM F s) fun s1 => andThen (runM F n 0 s1) fun s2 => needS F ⟨#[41]⟩ s2
    else if isS ⟨#[42]⟩ s = true then andThen (passM F s) fun s1 => .ok (addM (Tm.plain 1) s1)
    else if isS ⟨#[35]⟩ s = true then andThen (passM F s) fun s1 => .ok (addM (Tm.plain 2) s1)
    else if isS ⟨#[63]⟩ s = true then andThen (passM F s) fun s1 => andThen (needM F 2 s1) fun s2 => .ok (addM ⟨3, s1.next.text, 1, Val.zero, 0⟩ s2)
    else atomM F s := rfl
def U (W : List Wd) (e : Ex) (u : List Wd) : Prop := ∃ N, ∀ n, N ≤ n → ∀ r ts, (u ++ r) <:+ W → Fw r → runM (listF W) n 4 (stR W (u ++ r) ts) = .ok (stR W r (ts ++ e.post))
def C3 (W : List Wd) (e : Ex) (u : List Wd) : Prop := ∃ N d, d ≤ N ∧ ∀ n, N ≤ n → ∀ r ts, (u ++ r) <:+ W → Fw r → andThen (runM (listF W) n 4 (stR W (u ++ r) ts)) (runM (listF W) n 3) = runM (listF W) (n - d) 3 (stR W r (ts ++ e.post))
def A2 (W : List Wd) (e : Ex) (u : List Wd) : Prop := ∃ N, ∀ n, N ≤ n → ∀ r ts, (u ++ r) <:+ W → Fo r → runM (listF W) n 2 (stR W (u ++ r) ts) = .ok (stR W r (ts ++ e.post))
def C1 (W : List Wd) (e : Ex) (u : List Wd) : Prop := ∃ N d, d ≤ N ∧ ∀ n, N ≤ n → ∀ r ts, (u ++ r) <:+ W → Fo r → andThen (runM (listF W) n 2 (stR W (u ++ r) ts)) (runM (listF W) n 1) = runM (listF W) (n - d) 1 (stR W r (ts ++ e.post))
theorem U.c3 {e : Ex} {u : List Wd} (h : U W e u) : C3 W e u := by
  obtain ⟨N, h⟩ := h
  refine ⟨N, 0, Nat.zero_le _, fun n hn r ts hs hr => ?_⟩
  rw [h n hn r ts hs hr, andThen_k, Nat.sub_zero]
theorem C3.a2 {e : Ex} {u : List Wd} (h : C3 W e u) : A2 W e u := by
  obtain ⟨N, d, hd, h⟩ := h
  refine ⟨N + 2, fun n hn r ts hs hr => ?_⟩
  obtain ⟨m, rfl⟩ : ∃ m, n = m + 1 := ⟨n - 1, by omega⟩
  rw [all_eq, h m (by omega) r ts hs hr.fw]
  obtain ⟨k, hk⟩ : ∃ k, m - d = k + 1 := ⟨m - d - 1, by omega⟩
  rw [hk, allGo_eq, hr.isS, if_neg (by decide)]
theorem A2.c1 {e : Ex} {u : List Wd} (h : A2 W e u) : C1 W e u := by
  obtain ⟨N, h⟩ := h
  refine ⟨N, 0, Nat.zero_le _, fun n hn r ts hs hr => ?_⟩
  rw [h n hn r ts hs hr, andThen_k, Nat.sub_zero]
theorem fo_par (r : List Wd) : Fo (sgW ⟨#[41]⟩ :: r) := .inr ⟨_, _, rfl, .inr rfl⟩
/-- What stands in brackets is a unit. -/
theorem C1.par {e : Ex} {u : List Wd} (h : C1 W e u) : U W e (sgW ⟨#[40]⟩ :: (u ++ [sgW ⟨#[41]⟩])) := by
  obtain ⟨N, d, hd, h⟩ := h
  refine ⟨N + 3, fun n hn r ts hs hr => ?_⟩
  obtain ⟨m, rfl⟩ : ∃ m, n = m + 1 + 1 := ⟨n - 2, by omega⟩
  rw [List.cons_append, List.append_assoc, List.singleton_append] at hs ⊢
  rw [unit_eq, isS_l, if_neg (by decide), isS_l, if_pos (by decide), pass_l hs rfl, andThen_k, any_eq, h m (by omega) _ ts (tail_l hs) (fo_par r)]
  obtain ⟨k, hk⟩ : ∃ k, m - d = k + 1 := ⟨m - d - 1, by omega⟩
  rw [hk, anyGo_eq, isS_l, if_neg (by decide), andThen_k, needS_l (drop_l (tail_l hs))]
/-- A unit, or brackets. -/
theorem held2 {e : Ex} {b : Nat} {P : List Nat → List Wd → Prop} {x : List Nat} {u : List Wd} (hU : ∀ x u, P x u → 2 ≤ b → U W e u) (hC : ∀ x u, P x u → C1 W e u) (h : HeldP P b 2 x u) : U W e u := by
  rcases h with ⟨hb, h⟩ | ⟨_, x', u', h, _, rfl⟩
  · exact hU x u h hb
  · exact (hC x' u' h).par
theorem held1 {e : Ex} {b : Nat} {P : List Nat → List Wd → Prop} {x : List Nat} {u : List Wd} (hU : ∀ x u, P x u → 1 ≤ b → C3 W e u) (hC : ∀ x u, P x u → C1 W e u) (h : HeldP P b 1 x u) : C3 W e u := by
  rcases h with ⟨hb, h⟩ | ⟨_, x', u', h, _, rfl⟩
  · exact hU x u h hb
  · exact (hC x' u' h).par.c3
theorem held0 {e : Ex} {b : Nat} {P : List Nat → List Wd → Prop} {x : List Nat} {u : List Wd} (hC : ∀ x u, P x u → C1 W e u) (h : HeldP P b 0 x u) : C1 W e u := by
  rcases h with ⟨hb, h⟩ | ⟨hb, _⟩
  · exact hC x u h
  · omega
theorem atom_eq {n : Nat} {w : Wd} (hw : w.kind = 2) (r : List Wd) (ts : List Tm) : runM (listF W) (n + 1) 4 (stR W (w :: r) ts) = atomM (listF W) (stR W (w :: r) ts) := by
  have h1 : w.kind ≠ 1 := by omega
  rw [unit_eq, isS_n _ h1, if_neg (by decide), isS_n _ h1, if_neg (by decide), isS_n _ h1, if_neg (by decide), isS_n _ h1, if_neg (by decide), isS_n _ h1, if_neg (by decide)]
theorem atomM_l {nm : ByteArray} {r r2 : List Wd} {c : Nat} {ts : List Tm} (h : (nmW nm :: r) <:+ W) (hc : cmpM (listF W) (stR W r ts) = .ok (c, stR W r2 ts)) : atomM (listF W) (stR W (nmW nm :: r) ts) = restM (listF W) nm c (stR W r2 ts) := by
  unfold atomM
  rw [need_l (k := 2) h rfl rfl, andThen_k, hc]
  rfl
theorem atom_u {q : Tm} (hq : AtomStd q) {x : List Nat} {u : List Wd} (hx : AtomTxt q x u) : U W (.atom q) u := by
  refine ⟨1, fun n hn r ts hs hr => ?_⟩
  obtain ⟨m, rfl⟩ : ∃ m, n = m + 1 := ⟨n - 1, by omega⟩
  obtain ⟨op, nm, c, v, rad⟩ := q
  obtain ⟨h3, hname, hq⟩ := hq
  simp only at h3 hname hq
  subst h3
  rcases hx with ⟨h, _, rfl⟩ | ⟨h, _, rfl⟩ | ⟨h, y, v', hv, _, rfl⟩ | ⟨h, y, v', hv, _, rfl⟩
  · simp only at h
    subst h
    simp only [List.cons_append, List.nil_append] at hs ⊢
    rcases hq with ⟨_, hz, hr0⟩ | ⟨h, _⟩ | ⟨h, _⟩ | ⟨h, _⟩ | ⟨h, _⟩
    · subst hz hr0
      rw [unit_eq, isS_l, if_neg (by decide), isS_l, if_neg (by decide), isS_l, if_neg (by decide), isS_l, if_neg (by decide), isS_l, if_pos (by decide), pass_l hs rfl, andThen_k, need_l (k := 2) (tail_l hs) rfl rfl, andThen_k, add_l]
      rfl
    all_goals omega
  · simp only at h
    subst h
    simp only [List.cons_append, List.nil_append] at hs ⊢
    rcases hq with ⟨_, hz, hr0⟩ | ⟨h, _⟩ | ⟨h, _⟩ | ⟨h, _⟩ | ⟨h, _⟩
    · subst hz hr0
      rw [atom_eq rfl, atomM_l hs (cmp_none hr ts), restM, if_pos rfl, add_l]
      rfl
    all_goals omega
  · simp only at h hv
    simp only [List.cons_append] at hs ⊢
    have hc := cmp_some (W := W) (c := c) (by omega) (tail_l hs) ts
    rw [atom_eq rfl, atomM_l hs hc, restM, if_neg (by omega)]
    have hs2 := tail_l (tail_l hs)
    rcases hq with ⟨h, _⟩ | ⟨h, _, hr0⟩ | ⟨h, ho, hr0⟩ | ⟨h, ho, hr0⟩ | ⟨h, _⟩
    · omega
    · subst hr0
      rw [if_pos h, value_l hv hs2]
      simp only
      rw [add_l]
      rfl
    · subst hr0
      rw [if_neg (by omega), if_neg (by omega), if_neg (by omega), ordered_l hv ho hs2]
      simp only
      rw [add_l]
      rfl
    · subst hr0
      rw [if_neg (by omega), if_pos h, begins_l hv ho hs2]
      simp only
      rw [add_l]
      rfl
    · omega
  · simp only at h hv
    subst h
    simp only [List.cons_append, List.append_assoc, List.nil_append] at hs ⊢
    have hc := cmp_some (W := W) (c := 10) (by omega) (tail_l hs) ts
    rw [atom_eq rfl, atomM_l hs hc, restM, if_neg (by omega), if_neg (by omega), if_neg (by omega), if_pos rfl]
    have hs2 := tail_l (tail_l hs)
    rcases hq with ⟨h, _⟩ | ⟨h, _, hr0⟩ | ⟨h, ho, hr0⟩ | ⟨h, ho, hr0⟩ | ⟨_, ho, hrad⟩
    · omega
    · omega
    · omega
    · omega
    · rw [point_l hv ho hs2]
      simp only
      have hs3 := drop_l hs2
      rw [needS_l hs3, andThen_k, num_l (tail_l hs3) (by omega), andThen_k, add_l]
      rfl
/-- All that is to be known of a tree's words. -/
theorem tree_l (e : Ex) (he : e.std) : ∀ x u, Txt e x u → (2 ≤ bindOf e → U W e u) ∧ (1 ≤ bindOf e → C3 W e u) ∧ C1 W e u := by
  refine Ex.ind (P := fun e => ∀ x u, Txt e x u → (2 ≤ bindOf e → U W e u) ∧ (1 ≤ bindOf e → C3 W e u) ∧ C1 W e u) ?_ ?_ ?_ ?_ ?_ ?_ e he
  · intro x u h
    obtain ⟨_, rfl⟩ := h
    have hU : U W .yes [sgW ⟨#[42]⟩] := by
      refine ⟨1, fun n hn r ts hs hr => ?_⟩
      obtain ⟨m, rfl⟩ : ∃ m, n = m + 1 := ⟨n - 1, by omega⟩
      rw [List.singleton_append] at hs ⊢
      rw [unit_eq, isS_l, if_neg (by decide), isS_l, if_neg (by decide), isS_l, if_pos (by decide), pass_l hs rfl, andThen_k, add_l]
      rfl
    exact ⟨fun _ => hU, fun _ => hU.c3, hU.c3.a2.c1⟩
  · intro x u h
    obtain ⟨_, rfl⟩ := h
    have hU : U W .no [sgW ⟨#[35]⟩] := by
      refine ⟨1, fun n hn r ts hs hr => ?_⟩
      obtain ⟨m, rfl⟩ : ∃ m, n = m + 1 := ⟨n - 1, by omega⟩
      rw [List.singleton_append] at hs ⊢
      rw [unit_eq, isS_l, if_neg (by decide), isS_l, if_neg (by decide), isS_l, if_neg (by decide), isS_l, if_pos (by decide), pass_l hs rfl, andThen_k, add_l]
      rfl
    exact ⟨fun _ => hU, fun _ => hU.c3, hU.c3.a2.c1⟩
  · intro q hq x u h
    have hU : U W (.atom q) u := atom_u hq h
    exact ⟨fun _ => hU, fun _ => hU.c3, hU.c3.a2.c1⟩
  · intro e _ ih x u h
    obtain ⟨y, v, hh, _, rfl⟩ := h
    have hv : U W e v := held2 (fun x u p hb => (ih x u p).1 hb) (fun x u p => (ih x u p).2.2) hh
    have hU : U W (.not e) (sgW ⟨#[33]⟩ :: v) := by
      obtain ⟨N, hv⟩ := hv
      refine ⟨N + 1, fun n hn r ts hs hr => ?_⟩
      obtain ⟨m, rfl⟩ : ∃ m, n = m + 1 := ⟨n - 1, by omega⟩
      rw [List.cons_append] at hs ⊢
      rw [unit_eq, isS_l, if_pos (by decide), pass_l hs rfl, andThen_k, hv m (by omega) r ts (tail_l hs) hr, andThen_k, add_l, List.append_assoc]
      rfl
    exact ⟨fun _ => hU, fun _ => hU.c3, hU.c3.a2.c1⟩
  · intro a b _ _ iha ihb x u h
    obtain ⟨y, v, z, s, ha, hb, _, rfl⟩ := h
    have hA : C3 W a v := held1 (fun x u p hb => (iha x u p).2.1 hb) (fun x u p => (iha x u p).2.2) ha
    have hB : U W b s := held2 (fun x u p hb => (ihb x u p).1 hb) (fun x u p => (ihb x u p).2.2) hb
    have hC : C3 W (.and a b) (v ++ sgW ⟨#[38]⟩ :: s) := by
      obtain ⟨N, d, hd, hA⟩ := hA
      obtain ⟨M, hB⟩ := hB
      refine ⟨N + M + 1, d + 1, by omega, fun n hn r ts hs hr => ?_⟩
      rw [List.append_assoc, List.cons_append] at hs ⊢
      rw [hA n (by omega) _ ts hs (.inr ⟨_, _, rfl, .inl rfl⟩)]
      obtain ⟨m, hm⟩ : ∃ m, n - d = m + 1 := ⟨n - d - 1, by omega⟩
      rw [hm, allGo_eq, isS_l, if_pos (by decide), pass_l (drop_l hs) rfl, andThen_k, hB m (by omega) r _ (tail_l (drop_l hs)) hr, andThen_k, add_l, show n - (d + 1) = m from by omega]
      rw [show (Ex.and a b).post = a.post ++ b.post ++ [Tm.plain 5] from rfl]
      simp only [List.append_assoc]
    exact ⟨fun h => absurd h (by show ¬ 2 ≤ 1; omega), fun _ => hC, hC.a2.c1⟩
  · intro a b _ _ iha ihb x u h
    obtain ⟨y, v, z, s, ha, hb, _, rfl⟩ := h
    have hA : C1 W a v := held0 (fun x u p => (iha x u p).2.2) ha
    have hB : A2 W b s := (held1 (fun x u p hb => (ihb x u p).2.1 hb) (fun x u p => (ihb x u p).2.2) hb).a2
    have hC : C1 W (.or a b) (v ++ sgW ⟨#[124]⟩ :: s) := by
      obtain ⟨N, d, hd, hA⟩ := hA
      obtain ⟨M, hB⟩ := hB
      refine ⟨N + M + 1, d + 1, by omega, fun n hn r ts hs hr => ?_⟩
      rw [List.append_assoc, List.cons_append] at hs ⊢
      rw [hA n (by omega) _ ts hs (.inr ⟨_, _, rfl, .inl rfl⟩)]
      obtain ⟨m, hm⟩ : ∃ m, n - d = m + 1 := ⟨n - d - 1, by omega⟩
      rw [hm, anyGo_eq, isS_l, if_pos (by decide), pass_l (drop_l hs) rfl, andThen_k, hB m (by omega) r _ (tail_l (drop_l hs)) hr, andThen_k, add_l, show n - (d + 1) = m from by omega]
      rw [show (Ex.or a b).post = a.post ++ b.post ++ [Tm.plain 6] from rfl]
      simp only [List.append_assoc]
    exact ⟨fun h => absurd h (by show ¬ 2 ≤ 0; omega), fun h => absurd h (by show ¬ 1 ≤ 0; omega), hC⟩
/-- A tree's words are parsed as the tree. -/
theorem parse_l {e : Ex} (he : e.std) {x : List Nat} {u : List Wd} (h : Txt e x u) : ∃ N, ∀ n, N ≤ n → ∃ s, parseM (listF u) n = .ok s ∧ s.terms = e.post := by
  obtain ⟨N, d, hd, hC⟩ := (tree_l (W := u) e he x u h).2.2
  refine ⟨N + 2, fun n hn => ?_⟩
  obtain ⟨m, rfl⟩ : ∃ m, n = m + 1 := ⟨n - 1, by omega⟩
  have ha : adv (listF u) start = .ok (stR u u []) := by
    have := adv_l (W := u) (List.suffix_refl u) ⟨0, 0, ⟨#[]⟩, 0, 0⟩ []
    rw [Nat.sub_self] at this
    exact this
  have hc := hC m (by omega) [] [] (by rw [List.append_nil]; exact List.suffix_refl u) (.inl rfl)
  rw [List.append_nil] at hc
  obtain ⟨k, hk⟩ : ∃ k, m - d = k + 1 := ⟨m - d - 1, by omega⟩
  unfold parseM
  rw [ha, andThen_k, any_eq, hc, hk, anyGo_eq, isS_e, if_neg (by decide), andThen_k]
  refine ⟨stR u [] e.post, ?_, rfl⟩
  unfold needM passM
  rw [if_pos (show (stR u [] ([] ++ e.post)).next.kind = 0 from rfl), if_pos (show (stR u [] ([] ++ e.post)).next.late = 0 from rfl)]
  have := adv_l (W := u) (List.nil_suffix) endW ([] ++ e.post)
  exact this
end Tok
end Go.Proofs.YteoopoabemeanaaGreatDoor
