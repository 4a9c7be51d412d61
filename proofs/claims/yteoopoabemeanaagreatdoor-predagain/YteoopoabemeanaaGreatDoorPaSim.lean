/- Two readers that go side by side: plain mathematics. -/
import Derived.Test.YteoopoabemeanaaGreatDoorPaM
namespace Go.Proofs.YteoopoabemeanaaGreatDoor
namespace Sim

def errOf {α : Type} : Except (Nat × Nat) α → Option (Nat × Nat)
  | .ok _ => none
  | .error m => some m
/-- How places, and faults, stand to each other. -/
structure Par where
  Hp : Nat → Nat → Prop
  Pl : Nat → Nat → Prop
  C : Nat × Nat → Option (Nat × Nat) → Prop
  free : ∀ m o, C m none → C m o
  said : ∀ a b e, Pl a b → C (a, e) (some (b, e))
  dry : C (0, 0) (some (0, 0))
def Wr (S : Par) (w w2 : Wd) : Prop := w2.kind = w.kind ∧ w2.text = w.text ∧ w2.n = w.n ∧ w2.late = w.late ∧ S.Pl w.place w2.place
def Sr (S : Par) (s s2 : St) : Prop := S.Hp s.here s2.here ∧ Wr S s.next s2.next ∧ s2.terms = s.terms
def Rr (S : Par) (r r2 : Res) : Prop := match r with
  | .ok s => ∃ s2, r2 = .ok s2 ∧ Sr S s s2
  | .error m => S.C m (errOf r2)
def Rv {α : Type} (S : Par) (r r2 : ResV α) : Prop := match r with
  | .ok (v, s) => ∃ s2, r2 = .ok (v, s2) ∧ Sr S s s2
  | .error m => S.C m (errOf r2)
/-- Two lexers that go side by side. -/
def Lr (S : Par) (F F2 : Lex) : Prop := ∀ p p2, S.Hp p p2 → match F p with
  | .ok (w, e) => ∃ w2 e2, F2 p2 = .ok (w2, e2) ∧ Wr S w w2 ∧ S.Hp e e2
  | .error m => S.C m (errOf (F2 p2))
variable {S : Par} {F F2 : Lex}

theorem Rr.andThen {r r2 : Res} {f f2 : St → Res} (h : Rr S r r2) (hf : ∀ s s2, Sr S s s2 → Rr S (f s) (f2 s2)) : Rr S (andThen r f) (andThen r2 f2) := by
  cases r with
  | ok s =>
    obtain ⟨s2, rfl, hs⟩ := h
    exact hf s s2 hs
  | error m =>
    show S.C m _
    cases r2 with
    | ok s2 => exact S.free m _ h
    | error m2 => exact h
theorem Rr.thenS {α : Type} {r r2 : Res} {f f2 : St → ResV α} (h : Rr S r r2) (hf : ∀ s s2, Sr S s s2 → Rv S (f s) (f2 s2)) : Rv S (thenS r f) (thenS r2 f2) := by
  cases r with
  | ok s =>
    obtain ⟨s2, rfl, hs⟩ := h
    exact hf s s2 hs
  | error m =>
    show S.C m _
    cases r2 with
    | ok s2 => exact S.free m _ h
    | error m2 => exact h
theorem Rr.withV {α : Type} {r r2 : Res} (v : α) (h : Rr S r r2) : Rv S (withV v r) (withV v r2) := by
  cases r with
  | ok s =>
    obtain ⟨s2, rfl, hs⟩ := h
    exact ⟨s2, rfl, hs⟩
  | error m =>
    show S.C m _
    cases r2 with
    | ok s2 => exact S.free m _ h
    | error m2 => exact h
theorem adv_r (hL : Lr S F F2) {s s2 : St} (h : Sr S s s2) : Rr S (adv F s) (adv F2 s2) := by
  have h1 := hL s.here s2.here h.1
  unfold adv
  cases hF : F s.here with
  | ok x =>
    obtain ⟨w, e⟩ := x
    rw [hF] at h1
    obtain ⟨w2, e2, h2, h3, h4⟩ := h1
    rw [h2]
    exact ⟨⟨e2, w2, s2.terms⟩, rfl, h4, h3, h.2.2⟩
  | error m =>
    rw [hF] at h1
    show S.C m _
    cases hF2 : F2 s2.here with
    | ok x => exact S.free m _ (by rw [hF2] at h1; exact h1)
    | error m2 => rw [hF2] at h1; exact h1
theorem pass_r (hL : Lr S F F2) {s s2 : St} (h : Sr S s s2) : Rr S (passM F s) (passM F2 s2) := by
  unfold passM
  rw [h.2.1.2.2.2.1]
  by_cases h0 : s.next.late = 0
  · rw [if_pos h0, if_pos h0]; exact adv_r hL h
  · rw [if_neg h0, if_neg h0]; exact S.said _ _ _ h.2.1.2.2.2.2
theorem need_r (hL : Lr S F F2) (k : Nat) {s s2 : St} (h : Sr S s s2) : Rr S (needM F k s) (needM F2 k s2) := by
  unfold needM
  rw [h.2.1.1]
  by_cases h0 : s.next.kind = k
  · rw [if_pos h0, if_pos h0]; exact pass_r hL h
  · rw [if_neg h0, if_neg h0]; exact S.said _ _ _ h.2.1.2.2.2.2
theorem isS_r {t : ByteArray} {s s2 : St} (h : Sr S s s2) : isS t s2 = isS t s := by
  unfold isS
  rw [h.2.1.1, h.2.1.2.1]
theorem needS_r (hL : Lr S F F2) (t : ByteArray) {s s2 : St} (h : Sr S s s2) : Rr S (needS F t s) (needS F2 t s2) := by
  unfold needS
  rw [isS_r h]
  by_cases h0 : isS t s = true
  · rw [if_pos h0, if_pos h0]; exact pass_r hL h
  · rw [if_neg h0, if_neg h0]; exact S.said _ _ _ h.2.1.2.2.2.2
theorem num_r (hL : Lr S F F2) (lo hi : Int) {s s2 : St} (h : Sr S s s2) : Rr S (numM F lo hi s) (numM F2 lo hi s2) := by
  unfold numM
  rw [h.2.1.1, h.2.1.2.2.1]
  by_cases h0 : s.next.kind = 3 ∧ (s.next.n < lo ∨ hi < s.next.n)
  · rw [if_pos h0, if_pos h0]; exact S.said _ _ _ h.2.1.2.2.2.2
  · rw [if_neg h0, if_neg h0]; exact need_r hL 3 h
theorem add_r (q : Tm) {s s2 : St} (h : Sr S s s2) : Sr S (addM q s) (addM q s2) := ⟨h.1, h.2.1, by show s2.terms ++ [q] = s.terms ++ [q]; rw [h.2.2]⟩
theorem cmpFrom_r (hL : Lr S F F2) {s s2 : St} (h : Sr S s s2) : ∀ k, Rv S (cmpFrom F s k) (cmpFrom F2 s2 k)
  | 0 => ⟨s2, rfl, h⟩
  | k + 1 => by
    unfold cmpFrom
    rw [isS_r h]
    by_cases h0 : isS (cmpText (10 - k)) s = true
    · rw [if_pos h0, if_pos h0]; exact (pass_r hL h).withV _
    · rw [if_neg h0, if_neg h0]; exact cmpFrom_r hL h k
theorem ordered_r (hL : Lr S F F2) {s s2 : St} (h : Sr S s s2) : Rv S (orderedM F s) (orderedM F2 s2) := by
  unfold orderedM
  rw [h.2.1.1, h.2.1.2.1, h.2.1.2.2.1]
  by_cases h0 : s.next.kind = 4
  · rw [if_pos h0, if_pos h0]; exact (pass_r hL h).withV _
  · rw [if_neg h0, if_neg h0]; exact (num_r hL _ _ h).withV _
theorem point_r (hL : Lr S F F2) {s s2 : St} (h : Sr S s s2) : Rv S (pointM F s) (pointM F2 s2) := by
  unfold pointM partM
  refine (needS_r hL _ h).thenS fun s1 t1 h1 => ?_
  refine (num_r hL _ _ h1).thenS fun s2 t2 h2 => ?_
  refine (needS_r hL _ h2).thenS fun s3 t3 h3 => ?_
  refine (num_r hL _ _ h3).thenS fun s4 t4 h4 => ?_
  refine (needS_r hL _ h4).thenS fun s5 t5 h5 => ?_
  rw [h1.2.1.2.2.1, h3.2.1.2.2.1]
  exact ⟨t5, rfl, h5⟩
theorem value_r (hL : Lr S F F2) {s s2 : St} (h : Sr S s s2) : Rv S (valueM F s) (valueM F2 s2) := by
  unfold valueM
  rw [isS_r h, h.2.1.1, h.2.1.2.1]
  by_cases h0 : isS ⟨#[40]⟩ s = true
  · rw [if_pos h0, if_pos h0]; exact point_r hL h
  · rw [if_neg h0, if_neg h0]
    by_cases h1 : s.next.kind = 2 ∧ (s.next.text = yesT ∨ s.next.text = noT)
    · rw [if_pos h1, if_pos h1]; exact (pass_r hL h).withV _
    · rw [if_neg h1, if_neg h1]; exact ordered_r hL h
theorem begins_r (hL : Lr S F F2) {s s2 : St} (h : Sr S s s2) : Rv S (beginsM F s) (beginsM F2 s2) := by
  unfold beginsM
  rw [h.2.1.2.1]
  exact (need_r hL 4 h).withV _
theorem rest_r (hL : Lr S F F2) (nm : ByteArray) (c : Nat) {s s2 : St} (h : Sr S s s2) : Rr S (restM F nm c s) (restM F2 nm c s2) := by
  unfold restM
  by_cases h2 : c = 2
  · rw [if_pos h2, if_pos h2]; exact ⟨_, rfl, add_r _ h⟩
  · rw [if_neg h2, if_neg h2]
    by_cases h3 : c = 3 ∨ c = 4
    · rw [if_pos h3, if_pos h3]
      have hv := value_r hL h
      revert hv
      generalize valueM F s = r
      generalize valueM F2 s2 = r2
      intro hv
      cases r with
      | ok x =>
        obtain ⟨v, s1⟩ := x
        obtain ⟨t1, rfl, h1⟩ := hv
        exact ⟨_, rfl, add_r _ h1⟩
      | error m =>
        show S.C m _
        cases r2 with
        | ok x => exact S.free m _ hv
        | error m2 => exact hv
    · rw [if_neg h3, if_neg h3]
      by_cases h9 : c = 9
      · rw [if_pos h9, if_pos h9]
        have hv := begins_r hL h
        revert hv
        generalize beginsM F s = r
        generalize beginsM F2 s2 = r2
        intro hv
        cases r with
        | ok x =>
          obtain ⟨v, s1⟩ := x
          obtain ⟨t1, rfl, h1⟩ := hv
          exact ⟨_, rfl, add_r _ h1⟩
        | error m =>
          show S.C m _
          cases r2 with
          | ok x => exact S.free m _ hv
          | error m2 => exact hv
      · rw [if_neg h9, if_neg h9]
        by_cases h10 : c = 10
        · rw [if_pos h10, if_pos h10]
          have hv := point_r hL h
          revert hv
          generalize pointM F s = r
          generalize pointM F2 s2 = r2
          intro hv
          cases r with
          | ok x =>
            obtain ⟨v, s1⟩ := x
            obtain ⟨t1, rfl, h1⟩ := hv
            refine (needS_r hL _ h1).andThen fun s2 t2 h2 => ?_
            refine (num_r hL _ _ h2).andThen fun s3 t3 h3 => ?_
            rw [h2.2.1.2.2.1]
            exact ⟨_, rfl, add_r _ h3⟩
          | error m =>
            show S.C m _
            cases r2 with
            | ok x => exact S.free m _ hv
            | error m2 => exact hv
        · rw [if_neg h10, if_neg h10]
          have hv := ordered_r hL h
          revert hv
          generalize orderedM F s = r
          generalize orderedM F2 s2 = r2
          intro hv
          cases r with
          | ok x =>
            obtain ⟨v, s1⟩ := x
            obtain ⟨t1, rfl, h1⟩ := hv
            exact ⟨_, rfl, add_r _ h1⟩
          | error m =>
            show S.C m _
            cases r2 with
            | ok x => exact S.free m _ hv
            | error m2 => exact hv
theorem atom_r (hL : Lr S F F2) {s s2 : St} (h : Sr S s s2) : Rr S (atomM F s) (atomM F2 s2) := by
  unfold atomM
  rw [h.2.1.2.1]
  refine (need_r hL 2 h).andThen fun s1 t1 h1 => ?_
  have hv : Rv S (cmpM F s1) (cmpM F2 t1) := cmpFrom_r hL h1 8
  revert hv
  generalize cmpM F s1 = r
  generalize cmpM F2 t1 = r2
  intro hv
  cases r with
  | ok x =>
    obtain ⟨c, s3⟩ := x
    obtain ⟨t3, rfl, h3⟩ := hv
    exact rest_r hL _ _ h3
  | error m =>
    show S.C m _
    cases r2 with
    | ok x => exact S.free m _ hv
    | error m2 => exact hv
theorem run_r (hL : Lr S F F2) : ∀ (n c : Nat) {s s2 : St}, Sr S s s2 → Rr S (runM F n c s) (runM F2 n c s2)
  | 0, c, s, s2, h => by
    unfold runM
    exact S.dry
  | n + 1, 0, s, s2, h => by
    unfold runM
    exact (run_r hL n 2 h).andThen fun s1 t1 h1 => run_r hL n 1 h1
  | n + 1, 1, s, s2, h => by
    unfold runM
    rw [isS_r h]
    by_cases h0 : isS ⟨#[124]⟩ s = true
    · rw [if_pos h0, if_pos h0]
      exact (pass_r hL h).andThen fun s1 t1 h1 => (run_r hL n 2 h1).andThen fun s2 t2 h2 => run_r hL n 1 (add_r _ h2)
    · rw [if_neg h0, if_neg h0]; exact ⟨_, rfl, h⟩
  | n + 1, 2, s, s2, h => by
    unfold runM
    exact (run_r hL n 4 h).andThen fun s1 t1 h1 => run_r hL n 3 h1
  | n + 1, 3, s, s2, h => by
    unfold runM
    rw [isS_r h]
    by_cases h0 : isS ⟨#[38]⟩ s = true
    · rw [if_pos h0, if_pos h0]
      exact (pass_r hL h).andThen fun s1 t1 h1 => (run_r hL n 4 h1).andThen fun s2 t2 h2 => run_r hL n 3 (add_r _ h2)
    · rw [if_neg h0, if_neg h0]; exact ⟨_, rfl, h⟩
  | n + 1, k + 4, s, s2, h => by
    unfold runM
    rw [isS_r h, isS_r h, isS_r h, isS_r h, isS_r h]
    by_cases h1 : isS ⟨#[33]⟩ s = true
    · rw [if_pos h1, if_pos h1]
      exact (pass_r hL h).andThen fun s1 t1 h1 => (run_r hL n 4 h1).andThen fun s2 t2 h2 => ⟨_, rfl, add_r _ h2⟩
    · rw [if_neg h1, if_neg h1]
      by_cases h2 : isS ⟨#[40]⟩ s = true
      · rw [if_pos h2, if_pos h2]
        exact (pass_r hL h).andThen fun s1 t1 h1 => (run_r hL n 0 h1).andThen fun s2 t2 h2 => needS_r hL _ h2
      · rw [if_neg h2, if_neg h2]
        by_cases h3 : isS ⟨#[42]⟩ s = true
        · rw [if_pos h3, if_pos h3]
          exact (pass_r hL h).andThen fun s1 t1 h1 => ⟨_, rfl, add_r _ h1⟩
        · rw [if_neg h3, if_neg h3]
          by_cases h4 : isS ⟨#[35]⟩ s = true
          · rw [if_pos h4, if_pos h4]
            exact (pass_r hL h).andThen fun s1 t1 h1 => ⟨_, rfl, add_r _ h1⟩
          · rw [if_neg h4, if_neg h4]
            by_cases h5 : isS ⟨#[63]⟩ s = true
            · rw [if_pos h5, if_pos h5]
              refine (pass_r hL h).andThen fun s1 t1 h1 => ?_
              refine (need_r hL 2 h1).andThen fun s2 t2 h2 => ?_
              rw [h1.2.1.2.1]
              exact ⟨_, rfl, add_r _ h2⟩
            · rw [if_neg h5, if_neg h5]
              exact atom_r hL h
theorem parse_r (hL : Lr S F F2) (n : Nat) (h0 : Rr S (adv F start) (adv F2 start)) : Rr S (parseM F n) (parseM F2 n) := by
  unfold parseM
  exact h0.andThen fun s1 t1 h1 => (run_r hL n 0 h1).andThen fun s2 t2 h2 => need_r hL 0 h2
end Sim
end Go.Proofs.YteoopoabemeanaaGreatDoor
