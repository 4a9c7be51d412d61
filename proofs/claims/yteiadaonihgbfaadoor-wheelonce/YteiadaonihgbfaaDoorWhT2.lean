/- What a wheel tells, by its timers: those that come due, the next one, all. Plain mathematics. -/
import Derived.Test.YteiadaonihgbfaaDoorWhT1
namespace Go.Proofs.YteiadaonihgbfaaDoor

theorem ST.congr {s : St} {T T' : Nat → Option Nat} (h : ST s T) (e : ∀ i, i < 64 → T i = T' i) : ST s T' :=
  ⟨⟨h.ps.dl, h.ps.sl, fun i d hi hd => h.ps.due i d hi (by rw [e i hi]; exact hd), fun i k hi hk => by rw [← e i hi]; exact h.ps.bit i k hi hk⟩, h.nw, h.dm⟩
theorem ST.some {s : St} {T : Nat → Option Nat} (h : ST s T) {i : Nat} (hi : i < 64) (hs : (T i).isSome = true) : T i = Option.some (s.due.getD i 0) := by
  obtain ⟨d, hd⟩ := Option.isSome_iff_exists.1 hs
  rw [hd, h.ps.due i d hi hd]
def dT (T : Nat → Option Nat) (x : Nat) : Nat := (T (x - 1)).getD 0
def Due (T : Nat → Option Nat) (to x : Nat) : Prop := 1 ≤ x ∧ x ≤ 64 ∧ ∃ d, T (x - 1) = some d ∧ d ≤ to
/-- The timers that come due, in their order. -/
def Told (T : Nat → Option Nat) (to : Nat) (l : List Nat) : Prop := l.Pairwise (ltD (dT T)) ∧ ∀ x, x ∈ l ↔ Due T to x
theorem Told.canon {T : Nat → Option Nat} {to : Nat} {l l' : List Nat} (h : Told T to l) (h' : Told T to l') : l = l' := canonP l l' h.1 h'.1 (fun x => by rw [h.2, h'.2])
def advT (T : Nat → Option Nat) (to i : Nat) : Option Nat := match T i with
  | some d => if d ≤ to then none else some d
  | none => none
theorem ST.takenL : ∀ (l : List Nat) {s : St} {T : Nat → Option Nat}, ST s T → (∀ x ∈ l, 1 ≤ x ∧ x ≤ 64) → ST (takenS s l) (fun i => if i + 1 ∈ l then none else T i) ∧ (takenS s l).now = s.now
  | [], s, T, h, _ => ⟨h.congr (fun i _ => by simp), rfl⟩
  | x :: l, s, T, h, hx => by
    have h1 := hx x (by simp)
    obtain ⟨h2, h3⟩ := ST.takenL l (h.take (i := x - 1) (by omega)) (fun y hy => hx y (by simp [hy]))
    refine ⟨h2.congr (fun i hi => ?_), h3⟩
    unfold upd
    by_cases c1 : i + 1 ∈ l
    · rw [if_pos c1, if_pos (by simp [c1])]
    · rw [if_neg c1]
      by_cases c2 : i = x - 1
      · rw [if_pos c2, if_pos (by rw [show i + 1 = x from by omega]; simp)]
      · rw [if_neg c2, if_neg (by simp only [List.mem_cons, not_or]; exact ⟨by omega, c1⟩)]
theorem ST.told {s : St} {T : Nat → Option Nat} (h : ST s T) {to : Nat} (h1 : s.now ≤ to) (h2 : to ≤ 1099511627776) : Told T to (toldS s to) ∧ ST (takenS (fellS s to) (toldS s to)) (advT T to) ∧ (takenS (fellS s to) (toldS s to)).now = to := by
  obtain ⟨f1, f2, f3⟩ := h.fell h1 h2
  have hmem : ∀ x, x ∈ toldS s to ↔ Due T to x := fun x => by
    unfold toldS
    rw [ord_mem, mem_ids]
    constructor
    · rintro ⟨a1, a2, a3⟩
      have := (f1.ps.bit (x - 1) 0 (by omega) (by omega)).1 a3
      refine ⟨a1, a2, _, h.some (by omega) this.1, ?_⟩
      have e := this.2
      unfold newP at e
      rw [f2, f3] at e
      exact (slot_zero h2 (h.dm _)).1 e.symm
    · rintro ⟨a1, a2, d, a3, a4⟩
      have hd := h.ps.due _ d (by omega) a3
      refine ⟨a1, a2, (f1.ps.bit (x - 1) 0 (by omega) (by omega)).2 ⟨by rw [a3]; rfl, ?_⟩⟩
      unfold newP
      rw [f2, f3, hd]
      exact ((slot_zero h2 (by rw [← hd]; exact h.dm _)).2 a4).symm
  have hT : Told T to (toldS s to) := by
    refine ⟨(ord_pw (fellS s to) ((fellS s to).slots.getD 0 0)).imp_of_mem (fun {a b} ha hb hab => ?_), hmem⟩
    obtain ⟨a1, a2, d, a3, _⟩ := (hmem a).1 ha
    obtain ⟨b1, b2, e, b3, _⟩ := (hmem b).1 hb
    have e1 := f1.ps.due _ d (by omega) a3
    have e2 := f1.ps.due _ e (by omega) b3
    unfold ltD dW at hab
    unfold ltD dT
    rw [a3, b3, Option.getD_some, Option.getD_some]
    rw [e1, e2] at hab
    exact hab
  obtain ⟨t1, t2⟩ := ST.takenL (toldS s to) f1 (fun x hx => ⟨((hmem x).1 hx).1, ((hmem x).1 hx).2.1⟩)
  refine ⟨hT, t1.congr (fun i hi => ?_), t2.trans f2⟩
  unfold advT
  by_cases c : i + 1 ∈ toldS s to
  · obtain ⟨_, _, d, e1, e2⟩ := (hmem _).1 c
    rw [show i + 1 - 1 = i from by omega] at e1
    rw [if_pos c, e1]
    simp only [if_pos e2]
  · rw [if_neg c]
    cases hTi : T i with
    | none => rfl
    | some d =>
      by_cases c2 : d ≤ to
      · exact absurd ((hmem (i + 1)).2 ⟨by omega, by omega, d, by rw [show i + 1 - 1 = i from by omega]; exact hTi, c2⟩) c
      · simp only [if_neg c2]

def idsT (T : Nat → Option Nat) : List Nat := ((List.range 64).filter fun i => (T i).isSome).map fun i => 1 + i
theorem or_bit (i : Nat) : ∀ (l : List Nat) (a : Nat), (l.foldl (fun a x => a ||| x) a).testBit i = true ↔ a.testBit i = true ∨ ∃ x ∈ l, x.testBit i = true
  | [], a => by simp
  | y :: l, a => by
    rw [List.foldl_cons, or_bit i l, Nat.testBit_or, Bool.or_eq_true]
    simp only [List.mem_cons, exists_eq_or_imp, or_assoc]
theorem ST.ids {s : St} {T : Nat → Option Nat} (h : ST s T) : idsS (allN s.slots) = idsT T := by
  unfold idsS idsT
  congr 1
  refine List.filter_congr fun i hi => ?_
  have hi' : i < 64 := List.mem_range.1 hi
  have key : (allN s.slots).testBit i = true ↔ (T i).isSome = true := by
    unfold allN
    rw [or_bit]
    constructor
    · rintro (h0 | ⟨x, hx, hb⟩)
      · simp at h0
      · obtain ⟨k, hk, rfl⟩ := mem_at.1 hx
        exact ((h.ps.bit i k hi' (by rw [← h.ps.sl]; exact hk)).1 hb).1
    · intro hs
      exact .inr ⟨_, mem_at.2 ⟨newP s i, by rw [h.ps.sl]; exact h.lt i, rfl⟩, (h.ps.bit i _ hi' (h.lt i)).2 ⟨hs, rfl⟩⟩
  cases hb : (allN s.slots).testBit i <;> cases hs : (T i).isSome <;> simp_all
/-- The first tick that one comes due at, if one does. -/
def IsNext (T : Nat → Option Nat) (n : Nat) (b : Bool) : Prop := (b = false ∧ n = 0 ∧ ∀ i, i < 64 → T i = none) ∨ (b = true ∧ (∃ i, i < 64 ∧ T i = some n) ∧ ∀ i d, i < 64 → T i = some d → n ≤ d)
theorem IsNext.same {T : Nat → Option Nat} {n m : Nat} {b c : Bool} (h : IsNext T n b) (h' : IsNext T m c) : n = m ∧ b = c := by
  rcases h with ⟨rfl, rfl, h1⟩ | ⟨rfl, ⟨i, hi, h1⟩, h2⟩ <;> rcases h' with ⟨rfl, rfl, k1⟩ | ⟨rfl, ⟨j, hj, k1⟩, k2⟩
  · exact ⟨rfl, rfl⟩
  · rw [h1 j hj] at k1; cases k1
  · rw [k1 i hi] at h1; cases h1
  · have := h2 j m hj k1
    have := k2 i n hi h1
    exact ⟨by omega, rfl⟩
theorem firstZ_spec : ∀ (l : List Nat), (firstZ l = 0 ∧ ∀ k, l.getD k 0 = 0) ∨ ∃ k, k < l.length ∧ firstZ l = l.getD k 0 ∧ firstZ l ≠ 0 ∧ ∀ j, j < k → l.getD j 0 = 0
  | [] => .inl ⟨rfl, fun k => by simp⟩
  | x :: l => by
    rw [firstZ]
    by_cases h : x = 0
    · rw [if_pos h]
      rcases firstZ_spec l with ⟨h1, h2⟩ | ⟨k, h1, h2, h3, h4⟩
      · refine .inl ⟨h1, fun k => ?_⟩
        cases k with
        | zero => simpa using h
        | succ k => simpa using h2 k
      · refine .inr ⟨k + 1, by simpa using h1, by simpa using h2, h3, fun j hj => ?_⟩
        cases j with
        | zero => simpa using h
        | succ j => simpa using h4 j (by omega)
    · rw [if_neg h]
      exact .inr ⟨0, by simp, by simp, h, fun j hj => by omega⟩
theorem ST.next {s : St} {T : Nat → Option Nat} (h : ST s T) (hsw : ∀ k, s.slots.getD k 0 < 18446744073709551616) : IsNext T (nextV s) (nextB s) := by
  rcases firstZ_spec s.slots with ⟨h1, h2⟩ | ⟨k, h1, h2, h3, h4⟩
  · refine .inl ⟨by unfold nextB; rw [h1]; rfl, by unfold nextV; rw [if_pos h1], fun i hi => ?_⟩
    cases hT : T i with
    | none => rfl
    | some d =>
      have := (h.ps.bit i _ hi (h.lt i)).2 ⟨by rw [hT]; rfl, rfl⟩
      rw [h2] at this
      simp at this
  · have hk : k < 42 := by rw [← h.ps.sl]; exact h1
    refine .inr ⟨by unfold nextB; exact decide_eq_true h3, ?_⟩
    have hv : nextV s = s.due.getD ((ordS s (firstZ s.slots)).getD 0 0 - 1) 0 := by unfold nextV; rw [if_neg h3]
    obtain ⟨O, hO⟩ : ∃ O, O = ordS s (firstZ s.slots) := ⟨_, rfl⟩
    have hpw := ord_pw s (firstZ s.slots)
    have hmem : ∀ x, x ∈ O ↔ 1 ≤ x ∧ x ≤ 64 ∧ (s.slots.getD k 0).testBit (x - 1) = true := fun x => by rw [hO, ord_mem, mem_ids, h2]
    rw [← hO] at hv hpw
    have hlen : 0 < O.length := by
      rw [hO, ord_len]
      have := ids_step (firstZ s.slots) h3 (by rw [h2]; exact hsw k)
      rw [this]
      simp
    cases hOc : O with
    | nil => rw [hOc] at hlen; simp at hlen
    | cons x t =>
      rw [hOc] at hv hpw hmem
      obtain ⟨x1, x2, x3⟩ := (hmem x).1 (by simp)
      have hx := (h.ps.bit (x - 1) k (by omega) hk).1 x3
      have hTx := h.some (by omega) hx.1
      rw [show (x :: t).getD 0 0 = x from rfl] at hv
      rw [hv]
      refine ⟨⟨x - 1, by omega, hTx⟩, fun i d hi hd => ?_⟩
      have hdd := h.ps.due i d hi hd
      have hbit := (h.ps.bit i _ hi (h.lt i)).2 ⟨by rw [hd]; rfl, rfl⟩
      by_cases c1 : newP s i = k
      · rw [c1] at hbit
        have hin : i + 1 ∈ x :: t := (hmem _).2 ⟨by omega, by omega, by rw [show i + 1 - 1 = i from by omega]; exact hbit⟩
        rcases List.mem_cons.1 hin with e | hin
        · rw [← e, show i + 1 - 1 = i from by omega, hdd]; exact Nat.le_refl _
        · have := (List.pairwise_cons.1 hpw).1 _ hin
          unfold ltD dW at this
          rw [show i + 1 - 1 = i from by omega, hdd] at this
          omega
      · have c2 : ¬ newP s i < k := fun c => by
          rw [h4 _ c] at hbit
          simp at hbit
        refine Nat.le_of_not_lt fun c3 => ?_
        have := slot_mono h.nw (h.dm i) (h.dm (x - 1)) (by rw [hdd]; omega)
        have e := hx.2
        unfold newP at c1 c2 e
        omega
def hasT (T : Nat → Option Nat) (id : Int) : Bool := namedB id && (T (id - 1).toNat).isSome
def atT (T : Nat → Option Nat) (id : Int) : Nat := if hasT T id = true then (T (id - 1).toNat).getD 0 else 0
theorem named_iff (id : Int) : namedB id = true ↔ 1 ≤ id ∧ id ≤ 64 := by simp [namedB]
theorem ST.hasW {s : St} {T : Nat → Option Nat} (h : ST s T) (id : Int) : hasW s id = hasT T id := by
  unfold Go.Proofs.YteiadaonihgbfaaDoor.hasW hasT
  cases hn : namedB id with
  | false => rfl
  | true =>
    have := (named_iff id).1 hn
    rw [h.has (by omega)]
theorem ST.atV {s : St} {T : Nat → Option Nat} (h : ST s T) (id : Int) : atV s id = atT T id := by
  unfold Go.Proofs.YteiadaonihgbfaaDoor.atV atT
  rw [h.hasW]
  by_cases c : hasT T id = true
  · rw [if_pos c, if_pos c]
    unfold hasT at c
    rw [Bool.and_eq_true] at c
    have := (named_iff id).1 c.1
    rw [h.some (by omega) c.2]
    rfl
  · rw [if_neg c, if_neg c]
def setT (T : Nat → Option Nat) (id at_ : Int) : Nat → Option Nat := if namedB id = true ∧ 0 ≤ at_ ∧ at_ ≤ 1099511627776 then upd T (id - 1).toNat (some at_.toNat) else T
def dropT (T : Nat → Option Nat) (id : Int) : Nat → Option Nat := if hasT T id = true then upd T (id - 1).toNat none else T
theorem ST.setD {s : St} {T : Nat → Option Nat} (h : ST s T) (id at_ : Int) : ST (setD s id at_) (setT T id at_) ∧ (Go.Proofs.YteiadaonihgbfaaDoor.setD s id at_).now = s.now := by
  unfold Go.Proofs.YteiadaonihgbfaaDoor.setD setT
  by_cases c : namedB id = true ∧ 0 ≤ at_ ∧ at_ ≤ 1099511627776
  · rw [if_pos c, if_pos c]
    have := (named_iff id).1 c.1
    exact ⟨h.set (by omega) (by omega), rfl⟩
  · rw [if_neg c, if_neg c]
    exact ⟨h, rfl⟩
theorem ST.dropD {s : St} {T : Nat → Option Nat} (h : ST s T) (id : Int) : ST (dropD s id) (dropT T id) ∧ (Go.Proofs.YteiadaonihgbfaaDoor.dropD s id).now = s.now ∧ Go.Proofs.YteiadaonihgbfaaDoor.dropE s id = if hasT T id = true then 0 else 8 := by
  have e := h.hasW id
  unfold Go.Proofs.YteiadaonihgbfaaDoor.dropD Go.Proofs.YteiadaonihgbfaaDoor.dropE dropT
  rw [e]
  cases c : hasT T id with
  | true =>
    have c' := c
    unfold hasT at c'
    rw [Bool.and_eq_true] at c'
    have := (named_iff id).1 c'.1
    exact ⟨h.take (by omega), rfl, rfl⟩
  | false => exact ⟨h, rfl, rfl⟩
theorem ST.fresh (n : Nat) (hn : n ≤ 1099511627776) : ST (newS n) (fun _ => none) := by
  have e1 : ∀ i, (newS n).due.getD i 0 = 0 := fun i => by simp only [newS, List.getD_eq_getElem?_getD, List.getElem?_replicate]; split <;> rfl
  have e2 : ∀ i, (newS n).slots.getD i 0 = 0 := fun i => by simp only [newS, List.getD_eq_getElem?_getD, List.getElem?_replicate]; split <;> rfl
  refine ⟨⟨by simp [newS], by simp [newS], fun i d _ h => (by cases h), fun i k _ _ => ?_⟩, hn, fun i => by rw [e1]; omega⟩
  rw [e2]
  simp
end Go.Proofs.YteiadaonihgbfaaDoor
