/- How much is left to be read falls: plain mathematics. -/
import Derived.Test.YteoopoabemeanaaGreatDoorPaM
namespace Go.Proofs.YteoopoabemeanaaGreatDoor

/-- From a state to another one: nothing is read anew; each term stands for a word that was passed, d of which are still to spend. -/
structure Dn (N d : Nat) (s s' : St) : Prop where
  here : s'.here ≤ N
  left : left N s' ≤ left N s
  terms : s'.terms.length + Proofs.YteoopoabemeanaaGreatDoor.left N s' + d ≤ s.terms.length + Proofs.YteoopoabemeanaaGreatDoor.left N s
theorem Dn.refl {N : Nat} {s : St} (h : s.here ≤ N) : Dn N 0 s s := ⟨h, Nat.le_refl _, Nat.le_refl _⟩
theorem Dn.trans {N d e : Nat} {s s' s'' : St} (h : Dn N d s s') (h2 : Dn N e s' s'') : Dn N (d + e) s s'' := ⟨h2.here, Nat.le_trans h2.left h.left, by have := h.terms; have := h2.terms; omega⟩
theorem Dn.less {N d e : Nat} {s s' : St} (h : Dn N d s s') (he : e ≤ d) : Dn N e s s' := ⟨h.here, h.left, by have := h.terms; omega⟩
theorem Dn.add {N d : Nat} {s s' : St} (h : Dn N (d + 1) s s') (q : Tm) : Dn N d s (addM q s') := ⟨h.here, h.left, by have := h.terms; simp only [addM, List.length_append, List.length_singleton]; show s'.terms.length + 1 + Proofs.YteoopoabemeanaaGreatDoor.left N s' + d ≤ _; omega⟩

variable {F : Lex} {N : Nat}
theorem adv_dn (hF : LexOk F N) {s s' : St} (hs : s.here ≤ N) (h : adv F s = .ok s') : s'.here ≤ N ∧ left N s' ≤ N - s.here ∧ s'.terms = s.terms := by
  unfold adv at h
  rcases hf : F s.here with m | ⟨w, k⟩
  · rw [hf] at h; cases h
  · rw [hf] at h
    cases h
    obtain ⟨h1, h2, h3⟩ := hF.on _ _ _ hs hf
    refine ⟨h2, ?_, rfl⟩
    unfold left
    dsimp only
    split
    · omega
    · rename_i hk
      have := h3 hk
      omega
theorem passM_dn (hF : LexOk F N) {s s' : St} (hs : s.here ≤ N) (h : passM F s = .ok s') : Dn N 0 s s' := by
  unfold passM at h
  split at h
  · obtain ⟨h1, h2, h3⟩ := adv_dn hF hs h
    have e : N - s.here ≤ left N s := by unfold left; omega
    exact ⟨h1, by omega, by rw [h3]; omega⟩
  · cases h
/-- Behind a word that is one. -/
theorem passM_dn1 (hF : LexOk F N) {s s' : St} (hs : s.here ≤ N) (hk : s.next.kind ≠ 0) (h : passM F s = .ok s') : Dn N 1 s s' ∧ left N s' < left N s := by
  unfold passM at h
  split at h
  · obtain ⟨h1, h2, h3⟩ := adv_dn hF hs h
    have e : left N s = N - s.here + 1 := by unfold left; rw [if_neg hk]
    exact ⟨⟨h1, by omega, by rw [h3]; omega⟩, by omega⟩
  · cases h
theorem isS_kind {t : ByteArray} {s : St} (h : isS t s = true) : s.next.kind ≠ 0 := by
  unfold isS at h
  simp only [Bool.and_eq_true, decide_eq_true_eq] at h
  omega
theorem needM_dn1 (hF : LexOk F N) {s s' : St} {k : Nat} (hk : k ≠ 0) (hs : s.here ≤ N) (h : needM F k s = .ok s') : Dn N 1 s s' := by
  unfold needM at h
  split at h
  · rename_i he
    exact (passM_dn1 hF hs (by omega) h).1
  · cases h
theorem needS_dn1 (hF : LexOk F N) {s s' : St} {t : ByteArray} (hs : s.here ≤ N) (h : needS F t s = .ok s') : Dn N 1 s s' := by
  unfold needS at h
  split at h
  · rename_i he
    exact (passM_dn1 hF hs (isS_kind he) h).1
  · cases h
theorem numM_dn1 (hF : LexOk F N) {s s' : St} {lo hi : Int} (hs : s.here ≤ N) (h : numM F lo hi s = .ok s') : Dn N 1 s s' := by
  unfold numM at h
  split at h
  · cases h
  · exact needM_dn1 hF (by decide) hs h
theorem withV_ok {α : Type} {v v' : α} {r : Res} {s' : St} (h : withV v r = .ok (v', s')) : v = v' ∧ r = .ok s' := by
  cases r with
  | ok s => simp only [withV, Except.ok.injEq, Prod.mk.injEq] at h; exact ⟨h.1, by rw [h.2]⟩
  | error m => simp [withV] at h
theorem thenS_ok {α : Type} {r : Res} {f : St → ResV α} {x : α × St} (h : thenS r f = .ok x) : ∃ s, r = .ok s ∧ f s = .ok x := by
  cases r with
  | ok s => exact ⟨s, rfl, h⟩
  | error m => simp [thenS] at h
theorem andThen_ok {r : Res} {f : St → Res} {x : St} (h : andThen r f = .ok x) : ∃ s, r = .ok s ∧ f s = .ok x := by
  cases r with
  | ok s => exact ⟨s, rfl, h⟩
  | error m => simp [andThen] at h
theorem cmpFrom_dn (hF : LexOk F N) {s : St} (hs : s.here ≤ N) : ∀ (k : Nat) {c : Nat} {s' : St}, cmpFrom F s k = .ok (c, s') → Dn N 0 s s'
  | 0, c, s', h => by
    simp only [cmpFrom, Except.ok.injEq, Prod.mk.injEq] at h
    rw [← h.2]; exact Dn.refl hs
  | k + 1, c, s', h => by
    rw [cmpFrom] at h
    split at h
    · exact passM_dn hF hs (withV_ok h).2
    · exact cmpFrom_dn hF hs k h
theorem orderedM_dn (hF : LexOk F N) {s s' : St} {v : Val} (hs : s.here ≤ N) (h : orderedM F s = .ok (v, s')) : Dn N 0 s s' := by
  unfold orderedM at h
  split at h
  · exact passM_dn hF hs (withV_ok h).2
  · exact (numM_dn1 hF hs (withV_ok h).2).less (by omega)
theorem pointM_dn (hF : LexOk F N) {s s' : St} {v : Val} (hs : s.here ≤ N) (h : pointM F s = .ok (v, s')) : Dn N 0 s s' := by
  unfold pointM at h
  obtain ⟨s1, e1, h⟩ := thenS_ok h
  have d1 := needS_dn1 hF hs e1
  obtain ⟨s2, e2, h⟩ := thenS_ok h
  have d2 := numM_dn1 hF d1.here e2
  obtain ⟨s3, e3, h⟩ := thenS_ok h
  have d3 := needS_dn1 hF d2.here e3
  obtain ⟨s4, e4, h⟩ := thenS_ok h
  have d4 := numM_dn1 hF d3.here e4
  obtain ⟨s5, e5, h⟩ := thenS_ok h
  have d5 := needS_dn1 hF d4.here e5
  simp only [Except.ok.injEq, Prod.mk.injEq] at h
  rw [← h.2]
  exact ((((d1.trans d2).trans d3).trans d4).trans d5).less (by omega)
theorem valueM_dn (hF : LexOk F N) {s s' : St} {v : Val} (hs : s.here ≤ N) (h : valueM F s = .ok (v, s')) : Dn N 0 s s' := by
  unfold valueM at h
  split at h
  · exact pointM_dn hF hs h
  · split at h
    · exact passM_dn hF hs (withV_ok h).2
    · exact orderedM_dn hF hs h
theorem restM_dn (hF : LexOk F N) {s0 s s' : St} {name : ByteArray} {c : Nat} (hd : Dn N 1 s0 s) (h : restM F name c s = .ok s') : Dn N 0 s0 s' := by
  have go : ∀ {r : ResV Val} {c : Nat}, (∀ v s1, r = .ok (v, s1) → Dn N 0 s s1) → (match r with
    | .ok (v, s1) => (.ok (addM ⟨3, name, c, v, 0⟩ s1) : Res)
    | .error m => .error m) = .ok s' → Dn N 0 s0 s' := by
    intro r c hr h
    rcases r with m | ⟨v, s1⟩
    · cases h
    · cases h
      exact ((hd.trans (hr v s1 rfl)).less (by omega)).add _
  unfold restM at h
  split at h
  · cases h
    exact hd.add _
  split at h
  · exact go (fun v s1 h => valueM_dn hF hd.here h) h
  split at h
  · exact go (fun v s1 h => (needM_dn1 hF (by decide) hd.here (withV_ok h).2).less (by omega)) h
  split at h
  · rcases hp : pointM F s with m | ⟨v, s1⟩
    · rw [hp] at h; cases h
    · rw [hp] at h
      obtain ⟨s2, e2, h⟩ := andThen_ok h
      obtain ⟨s3, e3, h⟩ := andThen_ok h
      cases h
      have d1 := pointM_dn hF hd.here hp
      have d2 := needS_dn1 hF d1.here e2
      have d3 := numM_dn1 hF d2.here e3
      exact ((((hd.trans d1).trans d2).trans d3).less (by omega)).add _
  · exact go (fun v s1 h => orderedM_dn hF hd.here h) h
theorem atomM_dn (hF : LexOk F N) {s s' : St} (hs : s.here ≤ N) (h : atomM F s = .ok s') : Dn N 0 s s' := by
  unfold atomM at h
  obtain ⟨s1, e1, h⟩ := andThen_ok h
  have d1 := needM_dn1 hF (by decide) hs e1
  rcases hc : cmpM F s1 with m | ⟨c, s2⟩
  · rw [hc] at h; cases h
  · rw [hc] at h
    exact restM_dn hF ((d1.trans (cmpFrom_dn hF d1.here 8 hc)).less (by omega)) h
theorem runM_dn (hF : LexOk F N) : ∀ (n c : Nat) {s s' : St}, s.here ≤ N → runM F n c s = .ok s' → Dn N 0 s s'
  | 0, c, s, s', hs, h => by simp [runM] at h
  | n + 1, 0, s, s', hs, h => by
    rw [runM] at h
    obtain ⟨s1, e1, h⟩ := andThen_ok h
    have d1 := runM_dn hF n 2 hs e1
    exact d1.trans (runM_dn hF n 1 d1.here h)
  | n + 1, 1, s, s', hs, h => by
    rw [runM] at h
    split at h
    · rename_i hi
      obtain ⟨s1, e1, h⟩ := andThen_ok h
      have d1 := (passM_dn1 hF hs (isS_kind hi) e1).1
      obtain ⟨s2, e2, h⟩ := andThen_ok h
      have d2 := runM_dn hF n 2 d1.here e2
      have d3 : Dn N 0 s (addM (Tm.plain 6) s2) := ((d1.trans d2).less (by omega)).add _
      exact d3.trans (runM_dn hF n 1 d3.here h)
    · cases h; exact Dn.refl hs
  | n + 1, 2, s, s', hs, h => by
    rw [runM] at h
    obtain ⟨s1, e1, h⟩ := andThen_ok h
    have d1 := runM_dn hF n 4 hs e1
    exact d1.trans (runM_dn hF n 3 d1.here h)
  | n + 1, 3, s, s', hs, h => by
    rw [runM] at h
    split at h
    · rename_i hi
      obtain ⟨s1, e1, h⟩ := andThen_ok h
      have d1 := (passM_dn1 hF hs (isS_kind hi) e1).1
      obtain ⟨s2, e2, h⟩ := andThen_ok h
      have d2 := runM_dn hF n 4 d1.here e2
      have d3 : Dn N 0 s (addM (Tm.plain 5) s2) := ((d1.trans d2).less (by omega)).add _
      exact d3.trans (runM_dn hF n 3 d3.here h)
    · cases h; exact Dn.refl hs
  | n + 1, c + 4, s, s', hs, h => by
    rw [runM] at h
    split at h
    · rename_i hi
      obtain ⟨s1, e1, h⟩ := andThen_ok h
      have d1 := (passM_dn1 hF hs (isS_kind hi) e1).1
      obtain ⟨s2, e2, h⟩ := andThen_ok h
      cases h
      exact ((d1.trans (runM_dn hF n 4 d1.here e2)).less (by omega)).add _
    split at h
    · rename_i hi
      obtain ⟨s1, e1, h⟩ := andThen_ok h
      have d1 := (passM_dn1 hF hs (isS_kind hi) e1).1
      obtain ⟨s2, e2, h⟩ := andThen_ok h
      have d2 := runM_dn hF n 0 d1.here e2
      exact ((d1.trans d2).trans (needS_dn1 hF d2.here h)).less (by omega)
    split at h
    · rename_i hi
      obtain ⟨s1, e1, h⟩ := andThen_ok h
      cases h
      exact (passM_dn1 hF hs (isS_kind hi) e1).1.add _
    split at h
    · rename_i hi
      obtain ⟨s1, e1, h⟩ := andThen_ok h
      cases h
      exact (passM_dn1 hF hs (isS_kind hi) e1).1.add _
    split at h
    · rename_i hi
      obtain ⟨s1, e1, h⟩ := andThen_ok h
      have d1 := (passM_dn1 hF hs (isS_kind hi) e1).1
      obtain ⟨s2, e2, h⟩ := andThen_ok h
      cases h
      exact ((d1.trans (needM_dn1 hF (by decide) d1.here e2)).less (by omega)).add _
    · exact atomM_dn hF hs h
end Go.Proofs.YteoopoabemeanaaGreatDoor
