/- What a wheel's slots say of its timers. Plain mathematics. -/
import Derived.Test.YteiadaonihgbfaaDoorWhS9
namespace Go.Proofs.YteiadaonihgbfaaDoor

theorem blen_bound : ∀ (f x : Nat), x < 2 ^ f → x < 2 ^ Lib.bitLenAux f x
  | 0, x, h => by simpa [Lib.bitLenAux] using h
  | f + 1, x, h => by
    rw [Lib.bitLenAux]
    split
    · rename_i h0; subst h0; simp
    · have := blen_bound f (x / 2) (by rw [Nat.pow_succ] at h; omega)
      rw [Nat.add_comm 1, Nat.pow_succ]
      omega
theorem blen_iff (x k : Nat) (hx : x < 18446744073709551616) : Lib.bitLen x ≤ k ↔ x < 2 ^ k := by
  constructor
  · intro h
    exact Nat.lt_of_lt_of_le (blen_bound 64 x hx) (Nat.pow_le_pow_right (by omega) h)
  · intro h
    exact blen_le 64 k x h
theorem xor_zero (a b : Nat) : a ^^^ b = 0 ↔ a = b := by
  constructor
  · intro h
    refine Nat.eq_of_testBit_eq fun i => ?_
    have := congrArg (fun x => Nat.testBit x i) h
    simp only [Nat.testBit_xor, Nat.zero_testBit] at this
    cases h1 : a.testBit i <;> cases h2 : b.testBit i <;> simp_all
  · rintro rfl
    exact Nat.xor_self a
theorem xor_div (a b k : Nat) : a ^^^ b < 2 ^ k ↔ a / 2 ^ k = b / 2 ^ k := by
  rw [← Nat.shiftRight_eq_div_pow, ← Nat.shiftRight_eq_div_pow, ← xor_zero, ← Nat.shiftRight_xor_distrib, Nat.shiftRight_eq_div_pow, Nat.div_eq_zero_iff]
  have := Nat.two_pow_pos k
  omega
/-- In which slots one may stand. -/
theorem slot_le_iff {now d k : Nat} (hn : now ≤ 1099511627776) (hd : d ≤ 1099511627776) : slotN now d ≤ k ↔ d ≤ now ∨ d / 2 ^ k = now / 2 ^ k := by
  unfold slotN
  split
  · rename_i h; exact ⟨fun _ => .inl h, fun _ => Nat.zero_le _⟩
  · rename_i h
    have hx : d ^^^ now < 2 ^ 41 := Nat.xor_lt_two_pow (by omega) (by omega)
    rw [blen_iff _ _ (Nat.lt_trans hx (by decide)), xor_div]
    exact ⟨fun e => .inr e, fun e => e.resolve_left h⟩
theorem slot_zero {now d : Nat} (hn : now ≤ 1099511627776) (hd : d ≤ 1099511627776) : slotN now d = 0 ↔ d ≤ now := by
  have := slot_le_iff (k := 0) hn hd
  rw [Nat.pow_zero, Nat.div_one, Nat.div_one] at this
  omega
/-- Who is due earlier stands in no greater slot. -/
theorem slot_mono {now d e : Nat} (hn : now ≤ 1099511627776) (hd : d ≤ 1099511627776) (he : e ≤ 1099511627776) (h : d ≤ e) : slotN now d ≤ slotN now e := by
  rw [slot_le_iff hn hd]
  rcases (slot_le_iff (k := slotN now e) hn he).1 (Nat.le_refl _) with h1 | h1
  · exact .inl (by omega)
  · by_cases h2 : d ≤ now
    · exact .inl h2
    · right
      have a1 : now / 2 ^ slotN now e ≤ d / 2 ^ slotN now e := Nat.div_le_div_right (by omega)
      have a2 : d / 2 ^ slotN now e ≤ e / 2 ^ slotN now e := Nat.div_le_div_right h
      omega
/-- When the tick moves on, slots do not grow. -/
theorem slot_anti {now to d : Nat} (hn : now ≤ to) (ht : to ≤ 1099511627776) (hd : d ≤ 1099511627776) : slotN to d ≤ slotN now d := by
  rw [slot_le_iff ht hd]
  by_cases h2 : d ≤ to
  · exact .inl h2
  · right
    rcases (slot_le_iff (k := slotN now d) (by omega) hd).1 (Nat.le_refl _) with h1 | h1
    · omega
    · have a1 : now / 2 ^ slotN now d ≤ to / 2 ^ slotN now d := Nat.div_le_div_right hn
      have a2 : to / 2 ^ slotN now d ≤ d / 2 ^ slotN now d := Nat.div_le_div_right (by omega)
      omega
theorem div_up {a b k j : Nat} (h : a / 2 ^ k = b / 2 ^ k) (hkj : k ≤ j) : a / 2 ^ j = b / 2 ^ j := by
  obtain ⟨t, rfl⟩ : ∃ t, j = k + t := ⟨j - k, by omega⟩
  rw [Nat.pow_add, ← Nat.div_div_eq_div_mul, ← Nat.div_div_eq_div_mul, h]
/-- One that stays in its slot: the tick's part from there on has not turned. -/
theorem slot_stays {now to d : Nat} (hn : now ≤ to) (ht : to ≤ 1099511627776) (hd : d ≤ 1099511627776) (k : Nat) (h1 : slotN now d = k + 1) (h2 : slotN to d = k + 1) : to / 2 ^ k = now / 2 ^ k := by
  have a1 : ¬ (slotN now d ≤ k) := by omega
  have a2 : ¬ (slotN to d ≤ k) := by omega
  rw [slot_le_iff (by omega) hd] at a1
  rw [slot_le_iff ht hd] at a2
  have a3 : slotN to d ≤ k + 1 := by omega
  rw [slot_le_iff ht hd] at a3
  have a4 : slotN now d ≤ k + 1 := by omega
  rw [slot_le_iff (by omega) hd] at a4
  have b1 : d / 2 ^ (k + 1) = to / 2 ^ (k + 1) := a3.resolve_left (by omega)
  have b2 : d / 2 ^ (k + 1) = now / 2 ^ (k + 1) := a4.resolve_left (by omega)
  rw [Nat.pow_succ, ← Nat.div_div_eq_div_mul, ← Nat.div_div_eq_div_mul] at b1 b2
  have c1 : now / 2 ^ k ≤ to / 2 ^ k := Nat.div_le_div_right hn
  have c2 : to / 2 ^ k ≤ d / 2 ^ k := Nat.div_le_div_right (by omega)
  omega
theorem slot_keeps {now to d : Nat} (hn : now ≤ to) (ht : to ≤ 1099511627776) (hd : d ≤ 1099511627776) (k : Nat) (h : to / 2 ^ k = now / 2 ^ k) (h1 : k + 1 ≤ slotN now d) : slotN to d = slotN now d := by
  have h2 := slot_anti hn ht hd
  refine Nat.le_antisymm h2 ?_
  obtain ⟨j, hj⟩ : ∃ j, slotN now d = j + 1 := ⟨slotN now d - 1, by omega⟩
  rw [hj]
  refine Nat.lt_of_not_le fun h3 => ?_
  rw [slot_le_iff ht hd] at h3
  have a1 : ¬ (slotN now d ≤ j) := by omega
  rw [slot_le_iff (by omega) hd] at a1
  have e : to / 2 ^ j = now / 2 ^ j := div_up h (by omega)
  rcases h3 with h3 | h3
  · have b1 : now / 2 ^ j ≤ d / 2 ^ j := Nat.div_le_div_right (by omega)
    have b2 : d / 2 ^ j ≤ to / 2 ^ j := Nat.div_le_div_right h3
    omega
  · omega

theorem bit_off (x i j : Nat) (hi : i < 64) (hj : j < 64) : (x &&& (18446744073709551615 - 2 ^ i)).testBit j = (x.testBit j && decide (i ≠ j)) := by
  have h : 2 ^ i < 2 ^ 64 := Nat.pow_lt_pow_right (by omega) hi
  have e : 18446744073709551615 - 2 ^ i = 2 ^ 64 - (2 ^ i + 1) := by omega
  rw [Nat.testBit_and, e, Nat.testBit_two_pow_sub_succ h, Nat.testBit_two_pow, decide_eq_true hj, Bool.true_and]
  congr 1
  by_cases hij : i = j <;> simp [hij]
theorem bit_on (x i j : Nat) : (x ||| 2 ^ i).testBit j = (x.testBit j || decide (i = j)) := by rw [Nat.testBit_or, Nat.testBit_two_pow]

/-- Timers, by their numbers less 1; where each one stands. -/
structure PS (s : St) (T : Nat → Option Nat) (p : Nat → Nat) : Prop where
  dl : s.due.length = 64
  sl : s.slots.length = 42
  due : ∀ i d, i < 64 → T i = some d → s.due.getD i 0 = d
  bit : ∀ i k, i < 64 → k < 42 → ((s.slots.getD k 0).testBit i = true ↔ (T i).isSome = true ∧ k = p i)
def upd {α : Type} (f : Nat → α) (i : Nat) (v : α) (j : Nat) : α := if j = i then v else f j
def newP (s : St) (i : Nat) : Nat := slotN s.now (s.due.getD i 0)
structure ST (s : St) (T : Nat → Option Nat) : Prop where
  ps : PS s T (newP s)
  nw : s.now ≤ 1099511627776
  dm : ∀ i, s.due.getD i 0 ≤ 1099511627776
theorem ST.lt {s : St} {T : Nat → Option Nat} (h : ST s T) (i : Nat) : newP s i < 42 := slot_lt h.nw (h.dm i)
theorem getD_set' (l : List Nat) (i x k n : Nat) (hl : l.length = n) (hi : i < n) : (l.set i x).getD k 0 = if k = i then x else l.getD k 0 := getD_set l i x k (by omega)
theorem ST.take {s : St} {T : Nat → Option Nat} (h : ST s T) {i : Nat} (hi : i < 64) : ST (takeS s i) (upd T i none) := by
  have hK := h.lt i
  have hdue : ∀ j, (takeS s i).due.getD j 0 = if j = i then 0 else s.due.getD j 0 := fun j => getD_set' _ _ _ _ _ h.ps.dl hi
  have hsl : ∀ k, (takeS s i).slots.getD k 0 = if k = newP s i then s.slots.getD (newP s i) 0 &&& (18446744073709551615 - 2 ^ i) else s.slots.getD k 0 := fun k => getD_set' _ _ _ _ _ h.ps.sl hK
  refine ⟨⟨by simp only [takeS, List.length_set]; exact h.ps.dl, by simp only [takeS, List.length_set]; exact h.ps.sl, fun j d hj hd => ?_, fun j k hj hk => ?_⟩, h.nw, fun j => ?_⟩
  · unfold upd at hd
    split at hd
    · cases hd
    · rename_i hji
      rw [hdue, if_neg hji]
      exact h.ps.due j d hj hd
  · rw [hsl]
    unfold upd newP
    rw [hdue]
    by_cases hji : j = i
    · subst hji
      rw [if_pos rfl, if_pos rfl]
      constructor
      · intro hb
        split at hb
        · rw [bit_off _ _ _ hj hj] at hb
          simp at hb
        · rename_i hk2
          have := (h.ps.bit j k hj hk).1 hb
          exact absurd this.2 hk2
      · rintro ⟨e, _⟩; cases e
    · rw [if_neg hji, if_neg hji]
      have key := h.ps.bit j k hj hk
      split
      · rename_i hk2
        have hne : decide (i ≠ j) = true := by simpa using fun e => hji e.symm
        rw [bit_off _ _ _ hi hj, hne, Bool.and_true, ← hk2]
        exact key
      · exact key
  · rw [hdue]
    split
    · omega
    · exact h.dm j
theorem ST.set {s : St} {T : Nat → Option Nat} (h : ST s T) {i at_ : Nat} (hi : i < 64) (ha : at_ ≤ 1099511627776) : ST (setS s i at_) (upd T i (some at_)) := by
  have h1 := h.take hi
  have hK : slotN s.now at_ < 42 := slot_lt h.nw ha
  have hdue : ∀ j, (setS s i at_).due.getD j 0 = if j = i then at_ else (takeS s i).due.getD j 0 := fun j => getD_set' _ _ _ _ _ h1.ps.dl hi
  have hsl : ∀ k, (setS s i at_).slots.getD k 0 = if k = slotN s.now at_ then (takeS s i).slots.getD (slotN s.now at_) 0 ||| 2 ^ i else (takeS s i).slots.getD k 0 := fun k => getD_set' _ _ _ _ _ h1.ps.sl hK
  refine ⟨⟨by simp only [setS, List.length_set]; exact h1.ps.dl, by simp only [setS, List.length_set]; exact h1.ps.sl, fun j d hj hd => ?_, fun j k hj hk => ?_⟩, h.nw, fun j => ?_⟩
  · unfold upd at hd
    rw [hdue]
    split at hd
    · rename_i hji
      rw [if_pos hji]
      exact Option.some.inj hd
    · rename_i hji
      rw [if_neg hji]
      exact h1.ps.due j d hj (by unfold upd; rw [if_neg hji]; exact hd)
  · rw [hsl]
    unfold newP
    rw [hdue, show (setS s i at_).now = s.now from rfl]
    have key := h1.ps.bit j k hj hk
    unfold newP at key
    rw [show (takeS s i).now = s.now from rfl] at key
    by_cases hji : j = i
    · subst hji
      unfold upd at key ⊢
      rw [if_pos rfl] at key
      rw [if_pos rfl, if_pos rfl]
      split
      · rename_i hk2
        rw [bit_on]
        simp [hk2]
      · rename_i hk2
        rw [key]
        simp [hk2]
    · unfold upd at key ⊢
      rw [if_neg hji] at key
      rw [if_neg hji, if_neg hji]
      split
      · rename_i hk2
        rw [bit_on, decide_eq_false (fun e => hji e.symm), Bool.or_false, ← hk2]
        exact key
      · exact key
  · rw [hdue]
    split
    · exact ha
    · exact h1.dm j
theorem ST.has {s : St} {T : Nat → Option Nat} (h : ST s T) {i : Nat} (hi : i < 64) : hasS s i = (T i).isSome := by
  have key := h.ps.bit i (newP s i) hi (h.lt i)
  have e : s.slots.getD (newP s i) 0 &&& 2 ^ i ≠ 0 ↔ (s.slots.getD (newP s i) 0).testBit i = true := by
    generalize s.slots.getD (newP s i) 0 = x
    constructor
    · intro hne
      cases hb : x.testBit i
      · refine absurd (Nat.eq_of_testBit_eq fun j => ?_) hne
        rw [Nat.testBit_and, Nat.testBit_two_pow, Nat.zero_testBit]
        by_cases hij : i = j
        · subst hij; rw [hb]; rfl
        · rw [decide_eq_false hij, Bool.and_false]
      · rfl
    · intro hb h0
      have := congrArg (fun y => Nat.testBit y i) h0
      simp only [Nat.testBit_and, Nat.testBit_two_pow, Nat.zero_testBit, hb] at this
      simp at this
  unfold hasS
  change decide (s.slots.getD (newP s i) 0 &&& 2 ^ i ≠ 0) = _
  cases hT : (T i).isSome
  · rw [decide_eq_false]
    intro hc
    have := (key.1 (e.1 hc)).1
    rw [hT] at this
    cases this
  · rw [decide_eq_true]
    exact e.2 (key.2 ⟨hT, rfl⟩)

/-- One timer falls. -/
theorem PS.move {s : St} {T : Nat → Option Nat} {p : Nat → Nat} (h : PS s T p) {k j i : Nat} (hk : k < 42) (hj : j < 42) (hi : i < 64) (hT : (T i).isSome = true) (hp : p i = k) : PS (moveS s k j i) T (upd p i j) := by
  have h1 : ∀ q, (s.slots.set k (s.slots.getD k 0 &&& (18446744073709551615 - 2 ^ i))).getD q 0 = if q = k then s.slots.getD k 0 &&& (18446744073709551615 - 2 ^ i) else s.slots.getD q 0 := fun q => getD_set' _ _ _ _ _ h.sl hk
  have h2 : ∀ q, (moveS s k j i).slots.getD q 0 = if q = j then (s.slots.set k (s.slots.getD k 0 &&& (18446744073709551615 - 2 ^ i))).getD j 0 ||| 2 ^ i else (s.slots.set k (s.slots.getD k 0 &&& (18446744073709551615 - 2 ^ i))).getD q 0 := fun q => getD_set' _ _ _ _ 42 (by rw [List.length_set]; exact h.sl) hj
  have h3 : ∀ q t, t < 64 → q < 42 → (((s.slots.set k (s.slots.getD k 0 &&& (18446744073709551615 - 2 ^ i))).getD q 0).testBit t = true ↔ (s.slots.getD q 0).testBit t = true ∧ ¬ (q = k ∧ t = i)) := fun q t ht hq => by
    rw [h1]
    split
    · rename_i e
      rw [bit_off _ _ _ hi ht, e]
      simp only [Bool.and_eq_true, decide_eq_true_eq]
      exact ⟨fun x => ⟨x.1, fun y => x.2 y.2.symm⟩, fun x => ⟨x.1, fun y => x.2 ⟨by trivial, y.symm⟩⟩⟩
    · rename_i e
      exact ⟨fun x => ⟨x, fun y => e y.1⟩, fun x => x.1⟩
  refine ⟨h.dl, by simp only [moveS, List.length_set]; exact h.sl, h.due, fun t q ht hq => ?_⟩
  have key := h.bit t q ht hq
  rw [h2]
  unfold upd
  by_cases hti : t = i
  · subst hti
    rw [if_pos rfl]
    split
    · rename_i hqj
      rw [bit_on]
      simp [hqj, hT]
    · rename_i hqj
      rw [h3 q t ht hq, key, hp]
      constructor
      · rintro ⟨⟨_, e⟩, n⟩; exact absurd ⟨e, rfl⟩ n
      · rintro ⟨_, e⟩; exact absurd e hqj
  · rw [if_neg hti]
    have e3 := h3 q t ht hq
    split
    · rename_i hqj
      rw [bit_on, decide_eq_false (fun e => hti e.symm), Bool.or_false, ← hqj, e3, key]
      exact ⟨fun x => x.1, fun x => ⟨x, fun y => hti y.2⟩⟩
    · rw [e3, key]
      exact ⟨fun x => x.1, fun x => ⟨x, fun y => hti y.2⟩⟩
theorem fallIn_ok {T : Nat → Option Nat} (k : Nat) (hk : k < 42) (nw : Nat) (du : List Nat) (hlt : ∀ i, slotN nw (du.getD i 0) < 42) : ∀ (L : List Nat) (s : St) (p : Nat → Nat), s.now = nw → s.due = du → PS s T p → L.Pairwise (· < ·) → (∀ id ∈ L, 1 ≤ id ∧ id ≤ 64 ∧ (T (id - 1)).isSome = true ∧ p (id - 1) = k) →
    (fallIn s k L).1.now = nw ∧ (fallIn s k L).1.due = du ∧ ∃ p', PS (fallIn s k L).1 T p' ∧ (∀ i, p' i = p i ∨ p' i = slotN nw (du.getD i 0)) ∧ (∀ i, i + 1 ∉ L → p' i = p i) ∧ ((fallIn s k L).2 = false → ∀ id ∈ L, p' (id - 1) = slotN nw (du.getD (id - 1) 0)) ∧ ((fallIn s k L).2 = true → ∃ id ∈ L, slotN nw (du.getD (id - 1) 0) = k)
  | [], s, p, hn, hd, h, _, _ => ⟨hn, hd, p, h, fun _ => .inl rfl, fun _ _ => rfl, fun _ id hid => (by cases hid), fun e => (by cases e)⟩
  | id :: L, s, p, hn, hd, h, hpw, hL => by
    rw [List.pairwise_cons] at hpw
    obtain ⟨k1, k2, k3, k4⟩ := hL id (by simp)
    rw [fallIn, hn, hd]
    by_cases hc : slotN nw (du.getD (id - 1) 0) = k
    · rw [if_pos hc]
      exact ⟨hn, hd, p, h, fun _ => .inl rfl, fun _ _ => rfl, fun e => (by cases e), fun _ => ⟨id, by simp, hc⟩⟩
    · rw [if_neg hc]
      have hm := h.move (j := slotN nw (du.getD (id - 1) 0)) hk (hlt _) (show id - 1 < 64 by omega) k3 k4
      obtain ⟨r1, r2, p', r3, r4, r5, r6, r7⟩ := fallIn_ok k hk nw du hlt L (moveS s k (slotN nw (du.getD (id - 1) 0)) (id - 1)) (upd p (id - 1) (slotN nw (du.getD (id - 1) 0))) hn hd hm hpw.2 (fun x hx => by
        obtain ⟨q1, q2, q3, q4⟩ := hL x (by simp [hx])
        have := hpw.1 x hx
        exact ⟨q1, q2, q3, by unfold upd; rw [if_neg (by omega)]; exact q4⟩)
      refine ⟨r1, r2, p', r3, fun i => ?_, fun i hi => ?_, fun e x hx => ?_, fun e => ?_⟩
      · rcases r4 i with e | e
        · unfold upd at e
          split at e
          · rename_i hii
            exact .inr (by rw [e, hii])
          · exact .inl e
        · exact .inr e
      · rw [r5 i (fun hc2 => hi (by simp [hc2]))]
        unfold upd
        rw [if_neg (fun e => hi (by rw [show i + 1 = id from by omega]; simp))]
      · rcases List.mem_cons.1 hx with rfl | hx
        · have hnot : x - 1 + 1 ∉ L := fun hc2 => by have := hpw.1 _ hc2; omega
          rw [r5 _ hnot]
          unfold upd
          rw [if_pos rfl]
        · exact r6 e x hx
      · obtain ⟨x, hx, hx2⟩ := r7 e
        exact ⟨x, by simp [hx], hx2⟩
/-- Who stands where, while timers fall: those of lesser slots as they shall, the others as they did. -/
def Mid (T : Nat → Option Nat) (p : Nat → Nat) (now0 nw : Nat) (du : List Nat) (k : Nat) : Prop := ∀ i, i < 64 → (T i).isSome = true → (slotN now0 (du.getD i 0) < k → p i = slotN nw (du.getD i 0)) ∧ (k ≤ slotN now0 (du.getD i 0) → p i = slotN now0 (du.getD i 0))
theorem fallOut_ok {T : Nat → Option Nat} (now0 nw : Nat) (du : List Nat) (h0 : now0 ≤ nw) (hnw : nw ≤ 1099511627776) (hdm : ∀ i, du.getD i 0 ≤ 1099511627776) : ∀ (cnt k : Nat) (s : St) (p : Nat → Nat), k + cnt = 42 → 1 ≤ k → s.now = nw → s.due = du → PS s T p → Mid T p now0 nw du k →
    (fallOut s (List.range' k cnt)).now = nw ∧ (fallOut s (List.range' k cnt)).due = du ∧ PS (fallOut s (List.range' k cnt)) T (fun i => slotN nw (du.getD i 0))
  | 0, k, s, p, hk, _, hn, hd, h, hm => by
    refine ⟨hn, hd, h.dl, h.sl, h.due, fun i q hi hq => ?_⟩
    rw [show (fallOut s (List.range' k 0)).slots = s.slots from rfl, h.bit i q hi hq]
    have hlt : slotN now0 (du.getD i 0) < 42 := slot_lt (by omega) (hdm i)
    have hfin : (T i).isSome = true → p i = slotN nw (du.getD i 0) := fun hT => (hm i hi hT).1 (show slotN now0 (du.getD i 0) < k by omega)
    exact ⟨fun e => ⟨e.1, e.2.trans (hfin e.1)⟩, fun e => ⟨e.1, e.2.trans (hfin e.1).symm⟩⟩
  | cnt + 1, k, s, p, hk, hk1, hn, hd, h, hm => by
    have hlt : ∀ i, slotN nw (du.getD i 0) < 42 := fun i => slot_lt hnw (hdm i)
    have han : ∀ i, slotN nw (du.getD i 0) ≤ slotN now0 (du.getD i 0) := fun i => slot_anti h0 hnw (hdm i)
    have hids : ∀ id ∈ idsS (s.slots.getD k 0), 1 ≤ id ∧ id ≤ 64 ∧ (T (id - 1)).isSome = true ∧ p (id - 1) = k := fun id hid => by
      obtain ⟨q1, q2, q3⟩ := ids_mem hid
      have := (h.bit (id - 1) k (by omega) (by omega)).1 q3
      exact ⟨q1, q2, this.1, this.2.symm⟩
    have hof : ∀ i, i < 64 → (T i).isSome = true → (p i = k ↔ slotN now0 (du.getD i 0) = k) := fun i hi hT => by
      obtain ⟨m1, m2⟩ := hm i hi hT
      have := han i
      by_cases hc : slotN now0 (du.getD i 0) < k
      · have := m1 hc; constructor <;> intro e <;> omega
      · have := m2 (by omega); constructor <;> intro e <;> omega
    rw [List.range'_succ, fallOut]
    obtain ⟨r1, r2, p', r3, r4, r5, r6, r7⟩ := fallIn_ok k (by omega) nw du hlt (idsS (s.slots.getD k 0)) s p hn hd h (ids_pw _) hids
    cases hb : (fallIn s k (idsS (s.slots.getD k 0))).2 with
    | false =>
      rw [if_neg (by simp)]
      refine fallOut_ok now0 nw du h0 hnw hdm cnt (k + 1) _ p' (by omega) (by omega) r1 r2 r3 (fun i hi hT => ?_)
      obtain ⟨m1, m2⟩ := hm i hi hT
      refine ⟨fun hc => ?_, fun hc => ?_⟩
      · by_cases hck : slotN now0 (du.getD i 0) = k
        · have hin : i + 1 ∈ idsS (s.slots.getD k 0) := mem_ids.2 ⟨by omega, by omega, (h.bit i k hi (by omega)).2 ⟨hT, ((hof i hi hT).2 hck).symm⟩⟩
          exact r6 hb (i + 1) hin
        · rcases r4 i with e | e
          · rw [e]; exact m1 (by omega)
          · exact e
      · have hnot : i + 1 ∉ idsS (s.slots.getD k 0) := fun hin => by
          have := (hids _ hin).2.2.2
          rw [show i + 1 - 1 = i from by omega] at this
          have := (hof i hi hT).1 this
          omega
        rw [r5 i hnot]
        exact m2 (by omega)
    | true =>
      rw [if_pos rfl]
      obtain ⟨x, hx, hx2⟩ := r7 hb
      obtain ⟨q1, q2, q3, q4⟩ := hids x hx
      have hxo := (hof (x - 1) (by omega) q3).1 q4
      obtain ⟨j, rfl⟩ : ∃ j, k = j + 1 := ⟨k - 1, by omega⟩
      have hst := slot_stays h0 hnw (hdm (x - 1)) j hxo hx2
      refine ⟨r1, r2, r3.dl, r3.sl, r3.due, fun i q hi hq => ?_⟩
      rw [r3.bit i q hi hq]
      have hfin : (T i).isSome = true → p' i = slotN nw (du.getD i 0) := fun hT => by
        obtain ⟨m1, m2⟩ := hm i hi hT
        rcases r4 i with e | e
        · rw [e]
          by_cases hc : slotN now0 (du.getD i 0) < j + 1
          · exact m1 hc
          · rw [m2 (by omega)]
            exact (slot_keeps h0 hnw (hdm i) j hst (by omega)).symm
        · exact e
      exact ⟨fun e => ⟨e.1, e.2.trans (hfin e.1)⟩, fun e => ⟨e.1, e.2.trans (hfin e.1).symm⟩⟩
/-- A wheel whose tick has moved on, and whose timers have fallen, stands as it should. -/
theorem ST.fell {s : St} {T : Nat → Option Nat} (h : ST s T) {to : Nat} (h1 : s.now ≤ to) (h2 : to ≤ 1099511627776) : ST (fellS s to) T ∧ (fellS s to).now = to ∧ (fellS s to).due = s.due := by
  obtain ⟨r1, r2, r3⟩ := fallOut_ok (T := T) s.now to s.due h1 h2 h.dm 41 1 { s with now := to } (newP s) (by omega) (by omega) rfl rfl ⟨h.ps.dl, h.ps.sl, h.ps.due, h.ps.bit⟩ (fun i hi hT => by
    have := slot_anti h1 h2 (h.dm i)
    refine ⟨fun hc => ?_, fun hc => rfl⟩
    unfold newP
    omega)
  refine ⟨⟨?_, ?_, ?_⟩, r1, r2⟩
  · have e : newP (fellS s to) = fun i => slotN to (s.due.getD i 0) := by
      funext i
      unfold newP fellS fallS
      rw [r1, r2]
    rw [e]
    exact r3
  · unfold fellS fallS; rw [r1]; exact h2
  · intro i
    unfold fellS fallS
    rw [r2]
    exact h.dm i
end Go.Proofs.YteiadaonihgbfaaDoor
