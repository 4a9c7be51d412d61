/- Rows of numbers that are turned, and how they are sorted. Plain mathematics. -/
import Derived.Test.YteiadaonihgbfaaDoorWh11
namespace Go.Proofs.YteiadaonihgbfaaDoor

/-- Each place has what stood at another one. -/
def By (l l' : List Nat) (f : Nat → Nat) : Prop := l'.length = l.length ∧ ∀ k, l'.getD k 0 = l.getD (f k) 0
def swpF (a b n k : Nat) : Nat := if a ≤ k ∧ k < a + n then k + (b - a) else if b ≤ k ∧ k < b + n then k - (b - a) else k
def rotF (a m b k : Nat) : Nat := if a ≤ k ∧ k < b then (if k < a + (b - m) then k + (m - a) else k - (b - m)) else k
theorem By.refl (l : List Nat) : By l l (fun k => k) := ⟨rfl, fun _ => rfl⟩
theorem By.trans {l l1 l2 : List Nat} {f g : Nat → Nat} (h : By l l1 f) (h2 : By l1 l2 g) : By l l2 (fun k => f (g k)) := ⟨h2.1.trans h.1, fun k => (h2.2 k).trans (h.2 (g k))⟩
theorem By.congr {l l' : List Nat} {f g : Nat → Nat} (h : By l l' f) (e : ∀ k, f k = g k) : By l l' g := ⟨h.1, fun k => by rw [h.2, e]⟩
theorem getD_set (l : List Nat) (i x k : Nat) (hi : i < l.length) : (l.set i x).getD k 0 = if k = i then x else l.getD k 0 := by
  rw [List.getD_eq_getElem?_getD, List.getElem?_set]
  by_cases h : k = i
  · subst h
    rw [if_pos rfl, if_pos hi, if_pos rfl]
    rfl
  · rw [if_neg (fun e => h e.symm), if_neg h, List.getD_eq_getElem?_getD]
theorem by_swap (l : List Nat) (i j : Nat) (hij : i < j) (hj : j < l.length) : By l ((l.set i (l.getD j 0)).set j (l.getD i 0)) (swpF i j 1) := by
  refine ⟨by rw [List.length_set, List.length_set], fun k => ?_⟩
  rw [getD_set _ _ _ _ (by rw [List.length_set]; exact hj), getD_set _ _ _ _ (by omega), swpF]
  by_cases h1 : k = j
  · subst h1
    rw [if_pos rfl, if_neg (by omega), if_pos (by omega), show k - (k - i) = i from by omega]
  · rw [if_neg h1]
    by_cases h2 : k = i
    · subst h2
      rw [if_pos rfl, if_pos (by omega), show k + (j - k) = j from by omega]
    · rw [if_neg h2, if_neg (by omega), if_neg (by omega)]
theorem by_swap2 (l : List Nat) (i j : Nat) (hij : i < j) (hj : j < l.length) : By l ((l.set j (l.getD i 0)).set i (l.getD j 0)) (swpF i j 1) := by
  refine ⟨by rw [List.length_set, List.length_set], fun k => ?_⟩
  rw [getD_set _ _ _ _ (by rw [List.length_set]; omega), getD_set _ _ _ _ (by omega), swpF]
  by_cases h2 : k = i
  · subst h2
    rw [if_pos rfl, if_pos (by omega), show k + (j - k) = j from by omega]
  · rw [if_neg h2]
    by_cases h1 : k = j
    · subst h1
      rw [if_pos rfl, if_neg (by omega), if_pos (by omega), show k - (k - i) = i from by omega]
    · rw [if_neg h1, if_neg (by omega), if_neg (by omega)]
theorem by_swapL (l : List Nat) (j : Nat) (hj : j + 1 < l.length) : By l (swapL l j) (swpF j (j + 1) 1) := by_swap2 l j (j + 1) (by omega) hj

/-- Turned within a range alone. -/
def Re (l l' : List Nat) (a b : Nat) : Prop := ∃ f g : Nat → Nat, By l l' f ∧ (∀ k, f (g k) = k) ∧ (∀ k, g (f k) = k) ∧ ∀ k, (k < a ∨ b ≤ k) → f k = k
theorem Re.refl (l : List Nat) (a b : Nat) : Re l l a b := ⟨_, fun k => k, By.refl l, fun _ => rfl, fun _ => rfl, fun _ _ => rfl⟩
theorem Re.trans {l l1 l2 : List Nat} {a b : Nat} (h : Re l l1 a b) (h2 : Re l1 l2 a b) : Re l l2 a b := by
  obtain ⟨f, g, h1, h3, h4, h5⟩ := h
  obtain ⟨f', g', k1, k3, k4, k5⟩ := h2
  exact ⟨_, fun k => g' (g k), h1.trans k1, fun k => by show f (f' (g' (g k))) = k; rw [k3, h3], fun k => by show g' (g (f (f' k))) = k; rw [h4, k4], fun k hk => by rw [k5 k hk, h5 k hk]⟩
theorem Re.mono {l l1 : List Nat} {a b a' b' : Nat} (h : Re l l1 a b) (ha : a' ≤ a) (hb : b ≤ b') : Re l l1 a' b' := by
  obtain ⟨f, g, h1, h3, h4, h5⟩ := h
  exact ⟨f, g, h1, h3, h4, fun k hk => h5 k (by omega)⟩
theorem Re.len {l l1 : List Nat} {a b : Nat} (h : Re l l1 a b) : l1.length = l.length := by obtain ⟨f, g, h1, _⟩ := h; exact h1.1
theorem Re.out {l l1 : List Nat} {a b k : Nat} (h : Re l l1 a b) (hk : k < a ∨ b ≤ k) : l1.getD k 0 = l.getD k 0 := by
  obtain ⟨f, g, h1, _, _, h5⟩ := h
  rw [h1.2, h5 k hk]
theorem Re.inn {l l1 : List Nat} {a b k : Nat} (h : Re l l1 a b) (h1 : a ≤ k) (h2 : k < b) : ∃ j, a ≤ j ∧ j < b ∧ l1.getD k 0 = l.getD j 0 := by
  obtain ⟨f, g, k1, k3, k4, k5⟩ := h
  refine ⟨f k, ?_, ?_, k1.2 k⟩
  · refine Nat.le_of_not_lt fun e => ?_
    have := k5 (f k) (.inl e)
    have h6 := congrArg g this
    rw [k4, k4] at h6
    omega
  · refine Nat.lt_of_not_le fun e => ?_
    have := k5 (f k) (.inr e)
    have h6 := congrArg g this
    rw [k4, k4] at h6
    omega
theorem Re.back {l l1 : List Nat} {a b k : Nat} (h : Re l l1 a b) (h1 : a ≤ k) (h2 : k < b) : ∃ j, a ≤ j ∧ j < b ∧ l.getD k 0 = l1.getD j 0 := by
  obtain ⟨f, g, k1, k3, k4, k5⟩ := h
  refine ⟨g k, ?_, ?_, ?_⟩
  · refine Nat.le_of_not_lt fun e => ?_
    have := k5 (g k) (.inl e)
    rw [k3] at this
    omega
  · refine Nat.lt_of_not_le fun e => ?_
    have := k5 (g k) (.inr e)
    rw [k3] at this
    omega
  · rw [k1.2, k3]
def Nd (l : List Nat) : Prop := ∀ i j, i < l.length → j < l.length → l.getD i 0 = l.getD j 0 → i = j
theorem Re.nd {l l1 : List Nat} {a b : Nat} (h : Re l l1 a b) (hb : b ≤ l.length) (hn : Nd l) : Nd l1 := by
  obtain ⟨f, g, k1, k3, k4, k5⟩ := h
  have hf : ∀ k, k < l.length → f k < l.length := fun k hk => Nat.lt_of_not_le fun e => by
    have := k5 (f k) (.inr (by omega))
    have h6 := congrArg g this
    rw [k4, k4] at h6
    omega
  intro i j hi hj e
  rw [k1.1] at hi hj
  rw [k1.2, k1.2] at e
  have := hn _ _ (hf i hi) (hf j hj) e
  have h6 := congrArg g this
  rwa [k4, k4] at h6
theorem mem_at {l : List Nat} {x : Nat} : x ∈ l ↔ ∃ i, i < l.length ∧ l.getD i 0 = x := by
  constructor
  · intro h
    obtain ⟨i, hi, rfl⟩ := List.getElem_of_mem h
    exact ⟨i, hi, by rw [List.getD_eq_getElem?_getD, List.getElem?_eq_getElem hi]; rfl⟩
  · rintro ⟨i, hi, rfl⟩
    rw [List.getD_eq_getElem?_getD, List.getElem?_eq_getElem hi]
    exact List.getElem_mem hi
theorem Re.mem {l l1 : List Nat} {a b : Nat} (h : Re l l1 a b) (hb : b ≤ l.length) (x : Nat) : x ∈ l1 ↔ x ∈ l := by
  rw [mem_at, mem_at, h.len]
  constructor
  · rintro ⟨i, hi, rfl⟩
    by_cases h1 : a ≤ i ∧ i < b
    · obtain ⟨j, j1, j2, e⟩ := h.inn h1.1 h1.2
      exact ⟨j, by omega, e.symm⟩
    · exact ⟨i, hi, (h.out (by omega)).symm⟩
  · rintro ⟨i, hi, rfl⟩
    by_cases h1 : a ≤ i ∧ i < b
    · obtain ⟨j, j1, j2, e⟩ := h.back h1.1 h1.2
      exact ⟨j, by omega, e.symm⟩
    · exact ⟨i, hi, h.out (by omega)⟩
theorem rotF_back (a m b k : Nat) (h1 : a ≤ m) (h2 : m ≤ b) : rotF a m b (rotF a (a + b - m) b k) = k := by
  unfold rotF
  repeat' split
  all_goals omega
theorem Re.of_rot {l l1 : List Nat} {a m b : Nat} (h : By l l1 (rotF a m b)) (h1 : a ≤ m) (h2 : m ≤ b) : Re l l1 a b :=
  ⟨_, rotF a (a + b - m) b, h, fun k => rotF_back a m b k h1 h2, fun k => by have := rotF_back a (a + b - m) b k (by omega) (by omega); rwa [show a + b - (a + b - m) = m from by omega] at this, fun k hk => by unfold rotF; rw [if_neg (by omega)]⟩

/-- By a number of each, and by themselves where these are alike. -/
def ltD (d : Nat → Nat) (x y : Nat) : Prop := d x < d y ∨ (d x = d y ∧ x < y)
def Srt (d : Nat → Nat) (l : List Nat) (a b : Nat) : Prop := ∀ i j, a ≤ i → i < j → j < b → ltD d (l.getD i 0) (l.getD j 0)
/-- Of like ones the left ones are the lesser. -/
def Agr (d : Nat → Nat) (l : List Nat) (a m b : Nat) : Prop := ∀ i j, a ≤ i → i < m → m ≤ j → j < b → d (l.getD i 0) = d (l.getD j 0) → l.getD i 0 < l.getD j 0
theorem Srt.sub {d : Nat → Nat} {l : List Nat} {a b a' b' : Nat} (h : Srt d l a b) (h1 : a ≤ a') (h2 : b' ≤ b) : Srt d l a' b' := fun i j hi hij hj => h i j (by omega) hij (by omega)
theorem Srt.re {d : Nat → Nat} {l l1 : List Nat} {a b x y : Nat} (h : Srt d l a b) (hr : Re l l1 x y) (ho : b ≤ x ∨ y ≤ a) : Srt d l1 a b := fun i j hi hij hj => by
  rw [hr.out (k := i) (by omega), hr.out (k := j) (by omega)]
  exact h i j hi hij hj
theorem srt_join {d : Nat → Nat} {l : List Nat} {a m b : Nat} (h1 : Srt d l a m) (h2 : Srt d l m b) (h3 : ∀ i j, a ≤ i → i < m → m ≤ j → j < b → ltD d (l.getD i 0) (l.getD j 0)) : Srt d l a b := fun i j hi hij hj => by
  by_cases c1 : j < m
  · exact h1 i j hi hij c1
  · by_cases c2 : i < m
    · exact h3 i j hi c2 (by omega) hj
    · exact h2 i j (by omega) hij hj

/-- One is put into a sorted row behind it. -/
theorem ins_front {d : Nat → Nat} {l l1 : List Nat} {a b i : Nat} (hs : Srt d l (a + 1) b) (hg : Agr d l a (a + 1) b) (h1 : a + 1 ≤ i) (h2 : i ≤ b)
    (h3 : i = a + 1 ∨ d (l.getD (i - 1) 0) < d (l.getD a 0)) (h4 : i = b ∨ ¬ d (l.getD i 0) < d (l.getD a 0)) (hby : By l l1 (rotF a (a + 1) i)) : Srt d l1 a b := by
  have lo : ∀ k, a + 1 ≤ k → k < i → ltD d (l.getD k 0) (l.getD a 0) := fun k k1 k2 => by
    have e3 : d (l.getD (i - 1) 0) < d (l.getD a 0) := by rcases h3 with h | h; · omega
                                                          · exact h
    by_cases c : k = i - 1
    · subst c; exact .inl e3
    · have := hs k (i - 1) k1 (by omega) (by omega)
      unfold ltD at this ⊢
      omega
  have hi : ∀ k, i ≤ k → k < b → ltD d (l.getD a 0) (l.getD k 0) := fun k k1 k2 => by
    have e4 : ¬ d (l.getD i 0) < d (l.getD a 0) := by rcases h4 with h | h; · omega
                                                      · exact h
    have g := hg a i (by omega) (by omega) (by omega) (by omega)
    by_cases c : k = i
    · subst c; unfold ltD; omega
    · have := hs i k (by omega) (by omega) k2
      unfold ltD at this ⊢
      omega
  have e1 : ∀ k, a ≤ k → k + 1 < i → l1.getD k 0 = l.getD (k + 1) 0 := fun k k1 k2 => by rw [hby.2, rotF, if_pos (by omega), if_pos (by omega), show k + (a + 1 - a) = k + 1 from by omega]
  have e2 : l1.getD (i - 1) 0 = l.getD a 0 := by rw [hby.2, rotF, if_pos (by omega), if_neg (by omega), show i - 1 - (i - (a + 1)) = a from by omega]
  have e3 : ∀ k, i ≤ k → l1.getD k 0 = l.getD k 0 := fun k k1 => by rw [hby.2, rotF, if_neg (by omega)]
  intro x y hx hxy hy
  by_cases c1 : y + 1 < i
  · rw [e1 x hx (by omega), e1 y (by omega) c1]; exact hs _ _ (by omega) (by omega) (by omega)
  · by_cases c2 : y = i - 1
    · subst c2; rw [e2, e1 x hx (by omega)]; exact lo _ (by omega) (by omega)
    · rw [e3 y (by omega)]
      by_cases c3 : x + 1 < i
      · rw [e1 x hx c3]; exact hs _ _ (by omega) (by omega) hy
      · by_cases c4 : x = i - 1
        · subst c4; rw [e2]; exact hi _ (by omega) hy
        · rw [e3 x (by omega)]; exact hs _ _ (by omega) hxy hy
/-- One is put into a sorted row ahead of it. -/
theorem ins_back {d : Nat → Nat} {l l1 : List Nat} {a m i : Nat} (hs : Srt d l a m) (hg : Agr d l a m (m + 1)) (h1 : a ≤ i) (h2 : i ≤ m)
    (h3 : i = a ∨ ¬ d (l.getD m 0) < d (l.getD (i - 1) 0)) (h4 : i = m ∨ d (l.getD m 0) < d (l.getD i 0)) (hby : By l l1 (rotF i m (m + 1))) : Srt d l1 a (m + 1) := by
  have lo : ∀ k, a ≤ k → k < i → ltD d (l.getD k 0) (l.getD m 0) := fun k k1 k2 => by
    have e3 : ¬ d (l.getD m 0) < d (l.getD (i - 1) 0) := by rcases h3 with h | h; · omega
                                                            · exact h
    have g := hg (i - 1) m (by omega) (by omega) (by omega) (by omega)
    by_cases c : k = i - 1
    · subst c; unfold ltD; omega
    · have := hs k (i - 1) k1 (by omega) (by omega)
      unfold ltD at this ⊢
      omega
  have hi : ∀ k, i ≤ k → k < m → ltD d (l.getD m 0) (l.getD k 0) := fun k k1 k2 => by
    have e4 : d (l.getD m 0) < d (l.getD i 0) := by rcases h4 with h | h; · omega
                                                    · exact h
    by_cases c : k = i
    · subst c; exact .inl e4
    · have := hs i k (by omega) (by omega) k2
      unfold ltD at this ⊢
      omega
  have e1 : ∀ k, k < i → l1.getD k 0 = l.getD k 0 := fun k k1 => by rw [hby.2, rotF, if_neg (by omega)]
  have e2 : l1.getD i 0 = l.getD m 0 := by rw [hby.2, rotF, if_pos (by omega), if_pos (by omega), show i + (m - i) = m from by omega]
  have e3 : ∀ k, i < k → k ≤ m → l1.getD k 0 = l.getD (k - 1) 0 := fun k k1 k2 => by rw [hby.2, rotF, if_pos (by omega), if_neg (by omega), show k - (m + 1 - m) = k - 1 from by omega]
  intro x y hx hxy hy
  by_cases c1 : y < i
  · rw [e1 x (by omega), e1 y c1]; exact hs _ _ hx hxy (by omega)
  · by_cases c2 : y = i
    · subst c2; rw [e2, e1 x hxy]; exact lo _ hx hxy
    · rw [e3 y (by omega) (by omega)]
      by_cases c3 : x < i
      · rw [e1 x c3]; exact hs _ _ hx (by omega) (by omega)
      · by_cases c4 : x = i
        · subst c4; rw [e2]; exact hi _ (by omega) (by omega)
        · rw [e3 x (by omega) (by omega)]; exact hs _ _ (by omega) (by omega) (by omega)
/-- Two sorted rows are parted into a lesser and a greater half by one turn. -/
theorem mrg_split {d : Nat → Nat} {l l1 : List Nat} {a m b mid st en : Nat} (hs : Srt d l a m) (ht : Srt d l m b) (hg : Agr d l a m b) (h1 : a ≤ st) (h2 : st ≤ m) (h3 : m ≤ en) (h4 : en ≤ b) (hse : st + en = mid + m)
    (c1 : st = a ∨ en = b ∨ ¬ d (l.getD en 0) < d (l.getD (st - 1) 0)) (c2 : st = m ∨ en = m ∨ d (l.getD (en - 1) 0) < d (l.getD st 0)) (hby : By l l1 (rotF st m en)) :
    Srt d l1 a st ∧ Srt d l1 st mid ∧ Srt d l1 mid en ∧ Srt d l1 en b ∧ Agr d l1 a st mid ∧ Agr d l1 mid en b ∧ ∀ i j, a ≤ i → i < mid → mid ≤ j → j < b → ltD d (l1.getD i 0) (l1.getD j 0) := by
  have e1 : ∀ k, k < st → l1.getD k 0 = l.getD k 0 := fun k k1 => by rw [hby.2, rotF, if_neg (by omega)]
  have e2 : ∀ k, st ≤ k → k < mid → l1.getD k 0 = l.getD (k + (m - st)) 0 := fun k k1 k2 => by rw [hby.2, rotF, if_pos (by omega), if_pos (by omega)]
  have e3 : ∀ k, mid ≤ k → k < en → l1.getD k 0 = l.getD (k - (en - m)) 0 := fun k k1 k2 => by rw [hby.2, rotF, if_pos (by omega), if_neg (by omega)]
  have e4 : ∀ k, en ≤ k → l1.getD k 0 = l.getD k 0 := fun k k1 => by rw [hby.2, rotF, if_neg (by omega)]
  have f1 : ∀ i j, a ≤ i → i < st → en ≤ j → j < b → ltD d (l.getD i 0) (l.getD j 0) := fun i j i1 i2 j1 j2 => by
    have c : ¬ d (l.getD en 0) < d (l.getD (st - 1) 0) := by rcases c1 with h | h | h <;> first | omega | exact h
    have g := hg (st - 1) en (by omega) (by omega) (by omega) (by omega)
    have k : ltD d (l.getD (st - 1) 0) (l.getD en 0) := by unfold ltD; omega
    have k1 : i = st - 1 ∨ ltD d (l.getD i 0) (l.getD (st - 1) 0) := by by_cases c : i = st - 1; · exact .inl c
                                                                        · exact .inr (hs _ _ i1 (by omega) (by omega))
    have k2 : j = en ∨ ltD d (l.getD en 0) (l.getD j 0) := by by_cases c : j = en; · exact .inl c
                                                              · exact .inr (ht _ _ (by omega) (by omega) j2)
    rcases k1 with rfl | k1 <;> rcases k2 with rfl | k2
    · exact k
    all_goals unfold ltD at *; omega
  have f2 : ∀ i j, m ≤ i → i < en → st ≤ j → j < m → ltD d (l.getD i 0) (l.getD j 0) := fun i j i1 i2 j1 j2 => by
    have c : d (l.getD (en - 1) 0) < d (l.getD st 0) := by rcases c2 with h | h | h <;> first | omega | exact h
    have k1 : i = en - 1 ∨ ltD d (l.getD i 0) (l.getD (en - 1) 0) := by by_cases c : i = en - 1; · exact .inl c
                                                                        · exact .inr (ht _ _ i1 (by omega) (by omega))
    have k2 : j = st ∨ ltD d (l.getD st 0) (l.getD j 0) := by by_cases c : j = st; · exact .inl c
                                                              · exact .inr (hs _ _ (by omega) (by omega) j2)
    rcases k1 with rfl | k1 <;> rcases k2 with rfl | k2
    · exact .inl c
    all_goals unfold ltD at *; omega
  refine ⟨fun i j i1 ij j2 => ?_, fun i j i1 ij j2 => ?_, fun i j i1 ij j2 => ?_, fun i j i1 ij j2 => ?_, fun i j i1 i2 j1 j2 => ?_, fun i j i1 i2 j1 j2 => ?_, fun i j i1 i2 j1 j2 => ?_⟩
  · rw [e1 i (by omega), e1 j j2]; exact hs _ _ i1 ij (by omega)
  · rw [e2 i i1 (by omega), e2 j (by omega) j2]; exact ht _ _ (by omega) (by omega) (by omega)
  · rw [e3 i i1 (by omega), e3 j (by omega) j2]; exact hs _ _ (by omega) (by omega) (by omega)
  · rw [e4 i i1, e4 j (by omega)]; exact ht _ _ (by omega) ij j2
  · rw [e1 i i2, e2 j j1 j2]; exact hg _ _ i1 (by omega) (by omega) (by omega)
  · rw [e3 i i1 i2, e4 j j1]; exact hg _ _ (by omega) (by omega) (by omega) j2
  · by_cases q1 : i < st
    · rw [e1 i q1]
      by_cases q2 : j < en
      · rw [e3 j j1 q2]; exact hs _ _ i1 (by omega) (by omega)
      · rw [e4 j (by omega)]; exact f1 _ _ i1 q1 (by omega) j2
    · rw [e2 i (by omega) i2]
      by_cases q2 : j < en
      · rw [e3 j j1 q2]; exact f2 _ _ (by omega) (by omega) (by omega) (by omega)
      · rw [e4 j (by omega)]; exact ht _ _ (by omega) (by omega) j2
end Go.Proofs.YteiadaonihgbfaaDoor
