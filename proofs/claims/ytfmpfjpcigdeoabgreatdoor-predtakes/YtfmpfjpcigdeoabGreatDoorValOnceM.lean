/- Values and their bytes: what is taken for a value is just its bytes; cut short they are told so. Plain mathematics. -/
import Derived.Test.YtfmpfjpcigdeoabGreatDoorValWhole
import Derived.Test.YtfmpfjpcigdeoabGreatDoorValPut
import Derived.Test.YtfmpfjpcigdeoabGreatDoorCutL
namespace Go.Proofs.YtfmpfjpcigdeoabGreatDoor

theorem bytesOf_str {l : List Nat} (h : ∀ y ∈ l, y < 256) : bytesOf (str l) = l := by
  unfold bytesOf str
  simp only [List.map_map]
  conv => rhs; rw [← List.map_id l]
  apply List.map_congr_left
  intro y hy
  have := h y hy
  simp only [Function.comp, id]
  rw [UInt8.toNat_ofNat']
  omega
theorem str_size (l : List Nat) : (str l).size = l.length := by
  unfold str
  simp [ByteArray.size]

/-- A value that Take tells, and its bytes. -/
def Val.Bytes (v : Val) (L : List Nat) : Prop :=
  (∃ n : Int, ((-9223372036854775808 : Int) ≤ n ∧ n ≤ 9223372036854775807) ∧ v = ⟨1, n, ⟨#[]⟩, false, 0, 0⟩ ∧ L = [1] ++ Leb.leb (fold n)) ∨
  (∃ l : List Nat, l.length ≤ 200 ∧ (∀ y ∈ l, y < 256) ∧ v = ⟨2, 0, str l, false, 0, 0⟩ ∧ L = [2] ++ (Leb.leb l.length ++ l)) ∨
  (∃ t : Bool, v = ⟨3, 0, ⟨#[]⟩, t, 0, 0⟩ ∧ L = [3] ++ [t.toNat]) ∨
  (∃ x y : Int, near x ∧ near y ∧ v = ⟨4, 0, ⟨#[]⟩, false, floatOfInt .f64 x, floatOfInt .f64 y⟩ ∧ L = [4] ++ (Leb.leb (fold x) ++ Leb.leb (fold y)))
theorem Val.Bytes.whole (n : Int) (h : (-9223372036854775808 : Int) ≤ n ∧ n ≤ 9223372036854775807) : Val.Bytes ⟨1, n, ⟨#[]⟩, false, 0, 0⟩ ([1] ++ Leb.leb (fold n)) := .inl ⟨n, h, rfl, rfl⟩
theorem Val.Bytes.words (l : List Nat) (h : l.length ≤ 200) (hb : ∀ y ∈ l, y < 256) : Val.Bytes ⟨2, 0, str l, false, 0, 0⟩ ([2] ++ (Leb.leb l.length ++ l)) := .inr (.inl ⟨l, h, hb, rfl, rfl⟩)
theorem Val.Bytes.truth (t : Bool) : Val.Bytes ⟨3, 0, ⟨#[]⟩, t, 0, 0⟩ ([3] ++ [t.toNat]) := .inr (.inr (.inl ⟨t, rfl, rfl⟩))
theorem Val.Bytes.point (x y : Int) (hx : near x) (hy : near y) : Val.Bytes ⟨4, 0, ⟨#[]⟩, false, floatOfInt .f64 x, floatOfInt .f64 y⟩ ([4] ++ (Leb.leb (fold x) ++ Leb.leb (fold y))) := .inr (.inr (.inr ⟨x, y, hx, hy, rfl, rfl⟩))
theorem Val.Bytes.elim {motive : (v : Val) → (L : List Nat) → Val.Bytes v L → Prop}
    (whole : ∀ n h, motive ⟨1, n, ⟨#[]⟩, false, 0, 0⟩ ([1] ++ Leb.leb (fold n)) (Val.Bytes.whole n h))
    (words : ∀ l h hb, motive ⟨2, 0, str l, false, 0, 0⟩ ([2] ++ (Leb.leb l.length ++ l)) (Val.Bytes.words l h hb))
    (truth : ∀ t, motive ⟨3, 0, ⟨#[]⟩, t, 0, 0⟩ ([3] ++ [t.toNat]) (Val.Bytes.truth t))
    (point : ∀ x y hx hy, motive ⟨4, 0, ⟨#[]⟩, false, floatOfInt .f64 x, floatOfInt .f64 y⟩ ([4] ++ (Leb.leb (fold x) ++ Leb.leb (fold y))) (Val.Bytes.point x y hx hy)) {v : Val} {L : List Nat} (h : Val.Bytes v L) : motive v L h := by
  rcases h with ⟨n, h, rfl, rfl⟩ | ⟨l, h, hb, rfl, rfl⟩ | ⟨t, rfl, rfl⟩ | ⟨x, y, hx, hy, rfl, rfl⟩
  · exact whole n h
  · exact words l h hb
  · exact truth t
  · exact point x y hx hy

theorem Val.Bytes.right {v : Val} {L : List Nat} (h : Val.Bytes v L) : v.Right := by
  cases h using Val.Bytes.elim with
  | whole n h => exact .whole n _ _ _ _ h
  | words l h hb => exact .words _ _ _ _ _ (by rw [str_size]; exact h)
  | truth t => exact .truth _ _ _ _ _
  | point x y hx hy => exact .point _ _ _ x y hx hy

theorem drop_take_append {bs A B : List Nat} {p : Nat} (hA : (bs.drop p).take A.length = A) (hB : (bs.drop (p + A.length)).take B.length = B) : (bs.drop p).take (A ++ B).length = A ++ B := by
  rw [List.length_append, List.take_add, hA, List.drop_drop, hB]
theorem drop_take_one {bs : List Nat} {p : Nat} (h : p < bs.length) : (bs.drop p).take [bs.getD p 0].length = [bs.getD p 0] := by
  rw [drop_cons h]
  rfl

theorem unfold_range (n : Nat) (h : n < 18446744073709551616) : (-9223372036854775808 : Int) ≤ unfold n ∧ unfold n ≤ 9223372036854775807 := by
  unfold Go.Proofs.YtfmpfjpcigdeoabGreatDoor.unfold
  split <;> omega

theorem partAt_once {bs : List Nat} {p : Nat} {n : Int} {k : Nat} (hb : ∀ y ∈ bs, y < 256) (h : partAt bs (p : Int) = (n, k, 0)) :
    near n ∧ k ≤ bs.length ∧ k = p + (Leb.leb (fold n)).length ∧ (bs.drop p).take (Leb.leb (fold n)).length = Leb.leb (fold n) := by
  have hp := partAt_place hb h
  rcases hT : Leb.take bs (p : Int) with ⟨m, j, f⟩
  by_cases hf : f = 0
  · subst hf
    by_cases hn : unfold m < -1048576 ∨ 1048576 < unfold m
    · rw [partAt_limit hT hn] at h; simp at h
    · rw [partAt_ok hT hn] at h
      simp only [Prod.mk.injEq] at h
      obtain ⟨rfl, rfl, _⟩ := h
      obtain ⟨q, hq, h2, h3, h4, h5, h6⟩ := Leb.take_once bs _ hb m j hT
      obtain rfl : p = q := by omega
      rw [fold_unfold]
      refine ⟨hp.2, h3, h6, ?_⟩
      rw [← h5]
      congr 1
      rw [h5]
      omega
  · rw [partAt_err hT hf] at h
    simp only [Prod.mk.injEq] at h
    exact absurd h.2.2 hf

theorem textAt_once {bs : List Nat} {p : Nat} {l : List Nat} {k : Nat} (hb : ∀ y ∈ bs, y < 256) (h : textAt bs (p : Int) = (l, k, 0)) :
    l.length ≤ 200 ∧ (∀ y ∈ l, y < 256) ∧ k ≤ bs.length ∧ k = p + (Leb.leb l.length ++ l).length ∧ (bs.drop p).take (Leb.leb l.length ++ l).length = Leb.leb l.length ++ l := by
  unfold textAt at h
  rcases hR : range bs (p : Int) 200 with ⟨q, r, f⟩
  rw [hR] at h
  cases f with
  | succ f => simp at h
  | zero =>
    simp only [Prod.mk.injEq, and_true] at h
    obtain ⟨rfl, rfl⟩ := h
    obtain ⟨h1, h2, h3, h4⟩ := range_ok bs _ 200 q r hb hR
    rw [range_def] at hR
    rcases hT : Leb.take bs (p : Int) with ⟨n, j, g⟩
    rw [hT] at hR
    cases g with
    | succ g => simp [rng] at hR
    | zero =>
      obtain ⟨p', hp, i2, i3, i4, i5, i6⟩ := Leb.take_once bs _ hb n j hT
      obtain rfl : p = p' := by omega
      have hj : j = q ∧ r = q + n := by
        simp only [rng] at hR
        split at hR
        · simp at hR
        · split at hR
          · simp at hR
          · simp only [Prod.mk.injEq, and_true] at hR
            omega
      obtain ⟨rfl, rfl⟩ := hj
      have hl : ((bs.drop j).take (j + n - j)).length = n := by rw [List.length_take, List.length_drop]; omega
      refine ⟨by omega, fun y hy => hb y (List.mem_of_mem_drop (List.mem_of_mem_take hy)), h3, ?_, ?_⟩
      · rw [List.length_append, hl]; omega
      · rw [hl]
        refine drop_take_append ?_ ?_
        · rw [← i5]; congr 1; rw [i5]; omega
        · rw [hl, ← i6]; congr 1; omega

theorem truthAt_once {bs : List Nat} {q : Nat} {t : Bool} {j : Nat} (hq : q ≤ bs.length) (h : truthAt bs q = (t, j, 0)) : q < bs.length ∧ j = q + 1 ∧ t.toNat = bs.getD q 0 := by
  unfold truthAt at h
  by_cases h0 : q = bs.length
  · rw [if_pos h0] at h
    simp at h
  · rw [if_neg h0] at h
    by_cases h1 : 1 < bs.getD q 0
    · rw [if_pos h1] at h
      simp at h
    · rw [if_neg h1] at h
      generalize bs.getD q 0 = c at *
      simp only [Prod.mk.injEq, and_true] at h
      obtain ⟨rfl, rfl⟩ := h
      refine ⟨by omega, rfl, ?_⟩
      by_cases h2 : c = 1
      · subst h2; rfl
      · obtain rfl : c = 0 := by omega
        rfl

/-- Bytes that are taken for a value are just its bytes. -/
theorem valAt_once {bs : List Nat} {p : Nat} {v : Val} {k : Nat} (hb : ∀ y ∈ bs, y < 256) (h : valAt bs (p : Int) = (v, k, 0)) :
    ∃ L, Val.Bytes v L ∧ k ≤ bs.length ∧ k = p + L.length ∧ (bs.drop p).take L.length = L := by
  unfold valAt at h
  split at h
  · simp at h
  · split at h
    · simp at h
    · have hp : p < bs.length := by omega
      simp only [Int.toNat_natCast] at h
      have h1 := drop_take_one hp
      generalize hc : bs.getD p 0 = c at *
      unfold bodyAt at h
      split at h
      · rename_i e; subst e
        rcases hT : Leb.take bs ((p + 1 : Nat) : Int) with ⟨n, j, f⟩
        rw [hT] at h
        cases f with
        | succ f => simp at h
        | zero =>
          simp only [Prod.mk.injEq, and_true] at h
          obtain ⟨rfl, rfl⟩ := h
          obtain ⟨p', hp', i2, i3, i4, i5, i6⟩ := Leb.take_once bs _ hb n j hT
          obtain rfl : p + 1 = p' := by omega
          refine ⟨_, .whole (unfold n) (unfold_range n i4), i3, ?_, ?_⟩
          · rw [fold_unfold, List.length_append, i6]; simp; omega
          · rw [fold_unfold]
            refine drop_take_append h1 ?_
            show (bs.drop (p + 1)).take _ = _
            rw [← i5]; congr 1; rw [i5]; omega
      · split at h
        · rename_i e; subst e
          rcases hT : textAt bs ((p + 1 : Nat) : Int) with ⟨l, j, f⟩
          rw [hT] at h
          cases f with
          | succ f => simp at h
          | zero =>
            simp only [Prod.mk.injEq, and_true] at h
            obtain ⟨rfl, rfl⟩ := h
            obtain ⟨i1, i2, i3, i4, i5⟩ := textAt_once hb hT
            exact ⟨_, .words l i1 i2, i3, by rw [List.length_append, i4]; simp; omega, drop_take_append h1 i5⟩
        · split at h
          · rename_i e; subst e
            rcases hT : truthAt bs (p + 1) with ⟨t, j, f⟩
            rw [hT] at h
            cases f with
            | succ f => simp at h
            | zero =>
              simp only [Prod.mk.injEq, and_true] at h
              obtain ⟨rfl, rfl⟩ := h
              obtain ⟨i1, i2, i3⟩ := truthAt_once (by omega) hT
              refine ⟨_, .truth t, by omega, i2, drop_take_append h1 ?_⟩
              rw [i3]
              exact drop_take_one i1
          · split at h
            · rename_i e; subst e
              rcases hT : pointAt bs ((p + 1 : Nat) : Int) with ⟨n, m, j, f⟩
              rw [hT] at h
              cases f with
              | succ f => simp at h
              | zero =>
                simp only [Prod.mk.injEq, and_true] at h
                obtain ⟨rfl, rfl⟩ := h
                rcases hA : partAt bs ((p + 1 : Nat) : Int) with ⟨n1, k1, f1⟩
                by_cases hf : f1 = 0
                · subst hf
                  rcases hB : partAt bs (k1 : Int) with ⟨n2, k2, f2⟩
                  by_cases hg : f2 = 0
                  · subst hg
                    rw [pointAt_ok hA hB] at hT
                    simp only [Prod.mk.injEq, and_true] at hT
                    obtain ⟨rfl, rfl, rfl⟩ := hT
                    obtain ⟨a1, a2, a3, a4⟩ := partAt_once hb hA
                    obtain ⟨b1, b2, b3, b4⟩ := partAt_once hb hB
                    rw [a3] at b4
                    refine ⟨_, .point n1 n2 a1 b1, b2, ?_, drop_take_append h1 (drop_take_append a4 b4)⟩
                    rw [List.length_append, List.length_append, b3, a3]; simp; omega
                  · rw [pointAt_err2 hA hB hg] at hT
                    simp only [Prod.mk.injEq] at hT
                    exact absurd hT.2.2.2 hg
                · rw [pointAt_err1 hA hf] at hT
                  simp only [Prod.mk.injEq] at hT
                  exact absurd hT.2.2.2 hf
            · simp at h

/-- With an error nothing else is told. -/
theorem valAt_bad {bs : List Nat} {x : Int} {v : Val} {k f : Nat} (h : valAt bs x = (v, k, f)) (hf : f ≠ 0) : v = Val.zero ∧ k = 0 := by
  unfold valAt bodyAt at h
  repeat' split at h
  all_goals (simp only [Prod.mk.injEq] at h; first | exact ⟨h.1.symm, h.2.1.symm⟩ | exact absurd h.2.2.symm hf)

theorem partAt_put {x : Int} (hx : near x) (xs zs : List Nat) : partAt (xs ++ Leb.leb (fold x) ++ zs) (xs.length : Int) = (x, xs.length + (Leb.leb (fold x)).length, 0) := by
  have h := Leb.take_put (fold x) (fold_lt (by unfold near at hx; omega)) xs zs
  have e := partAt_ok h (by rw [unfold_fold]; unfold near at hx; omega)
  rw [unfold_fold] at e
  exact e
theorem partAt_cut {x : Int} (hx : near x) (xs : List Nat) (k : Nat) (hk : k < (Leb.leb (fold x)).length) : partAt (xs ++ (Leb.leb (fold x)).take k) (xs.length : Int) = (0, 0, 3) :=
  partAt_err (Leb.take_cut (fold x) (fold_lt (by unfold near at hx; omega)) xs k hk) (by decide)

/-- A kind's byte, and what stands behind it. -/
theorem valAt_body (pre R : List Nat) (c : Nat) : valAt (pre ++ ([c] ++ R)) (pre.length : Int) = bodyAt c ((pre ++ [c]) ++ R) (pre ++ [c]).length := by
  unfold valAt
  rw [if_neg (by simp only [List.length_append, List.length_singleton]; omega), if_neg (by simp only [List.length_append, List.length_singleton]; omega)]
  have e1 : (pre ++ ([c] ++ R)).getD ((pre.length : Int)).toNat 0 = c := by
    simp [List.getD]
  rw [e1, List.append_assoc]
  congr 1
  simp

theorem bodyAt_cut1 (n : Int) (h : (-9223372036854775808 : Int) ≤ n ∧ n ≤ 9223372036854775807) (xs : List Nat) (k : Nat) (hk : k < (Leb.leb (fold n)).length) : bodyAt 1 (xs ++ (Leb.leb (fold n)).take k) xs.length = (Val.zero, 0, 3) := by
  unfold bodyAt
  rw [if_pos rfl, Leb.take_cut (fold n) (fold_lt h) xs k hk]
  rfl
theorem bodyAt_cut2 (l : List Nat) (h : l.length ≤ 200) (xs : List Nat) (k : Nat) (hk : k < (Leb.leb l.length ++ l).length) : bodyAt 2 (xs ++ (Leb.leb l.length ++ l).take k) xs.length = (Val.zero, 0, 3) := by
  unfold bodyAt
  rw [if_neg (by decide), if_pos rfl]
  unfold textAt
  rw [range_cut l xs 200 k h (by decide) hk]
  rfl
theorem bodyAt_cut3 (xs : List Nat) : bodyAt 3 (xs ++ []) xs.length = (Val.zero, 0, 3) := by
  unfold bodyAt truthAt
  rw [if_neg (by decide), if_neg (by decide), if_pos rfl, if_pos (by simp)]
  rfl
theorem bodyAt_cut4 (x y : Int) (hx : near x) (hy : near y) (xs : List Nat) (k : Nat) (hk : k < (Leb.leb (fold x) ++ Leb.leb (fold y)).length) : bodyAt 4 (xs ++ (Leb.leb (fold x) ++ Leb.leb (fold y)).take k) xs.length = (Val.zero, 0, 3) := by
  unfold bodyAt
  rw [if_neg (by decide), if_neg (by decide), if_neg (by decide), if_pos rfl]
  have e : pointAt (xs ++ (Leb.leb (fold x) ++ Leb.leb (fold y)).take k) xs.length = (0, 0, 0, 3) := by
    by_cases h : k < (Leb.leb (fold x)).length
    · rw [List.take_append_of_le_length (by omega)]
      exact pointAt_err1 (partAt_cut hx xs k h) (by decide)
    · rw [List.take_append, List.take_of_length_le (by omega), ← List.append_assoc]
      have h1 := partAt_put hx xs ((Leb.leb (fold y)).take (k - (Leb.leb (fold x)).length))
      have h2 := partAt_cut hy (xs ++ Leb.leb (fold x)) (k - (Leb.leb (fold x)).length) (by rw [List.length_append] at hk; omega)
      rw [List.length_append] at h2
      exact pointAt_err2 h1 h2 (by decide)
  rw [e]
  rfl

theorem take_one (c j : Nat) (R : List Nat) : ([c] ++ R).take (j + 1) = [c] ++ R.take j := rfl

/-- A value's bytes, cut short. -/
theorem valAt_cut {v : Val} {L : List Nat} (h : Val.Bytes v L) (pre : List Nat) (j : Nat) (hj : j < L.length) : valAt (pre ++ L.take j) (pre.length : Int) = (Val.zero, 0, 3) := by
  cases j with
  | zero =>
    unfold valAt
    rw [List.take_zero, List.append_nil, if_neg (by omega), if_pos rfl]
  | succ j =>
    cases h using Val.Bytes.elim with
    | whole n h =>
      rw [take_one, valAt_body]
      exact bodyAt_cut1 n h _ j (by rw [List.length_append, List.length_singleton] at hj; omega)
    | words l h hb =>
      rw [take_one, valAt_body]
      exact bodyAt_cut2 l h _ j (by rw [List.length_append, List.length_singleton] at hj; omega)
    | truth t =>
      obtain rfl : j = 0 := by simp at hj; omega
      rw [take_one, List.take_zero, valAt_body]
      exact bodyAt_cut3 _
    | point x y hx hy =>
      rw [take_one, valAt_body]
      exact bodyAt_cut4 x y hx hy _ j (by rw [List.length_append, List.length_singleton] at hj; omega)

theorem Val.Bytes.length {v : Val} {L : List Nat} (h : Val.Bytes v L) : 1 ≤ L.length ∧ L.length ≤ 300 ∧ ∀ y ∈ L, y < 256 := by
  cases h using Val.Bytes.elim with
  | whole n h =>
    have := Leb.leb_length (fold n)
    refine ⟨by simp, by simp; omega, fun y hy => ?_⟩
    rcases List.mem_append.1 hy with hy | hy
    · simp at hy; omega
    · exact Leb.leb_byte _ (fold_lt h) y hy
  | words l h hb =>
    have := Leb.leb_length l.length
    refine ⟨by simp, by simp; omega, fun y hy => ?_⟩
    rcases List.mem_append.1 hy with hy | hy
    · simp at hy; omega
    · rcases List.mem_append.1 hy with hy | hy
      · exact Leb.leb_byte _ (by omega) y hy
      · exact hb y hy
  | truth t =>
    refine ⟨by simp, by simp, fun y hy => ?_⟩
    cases t <;> simp at hy <;> omega
  | point x y hx hy =>
    have := Leb.leb_length (fold x)
    have := Leb.leb_length (fold y)
    refine ⟨by simp, by simp; omega, fun z hz => ?_⟩
    rcases List.mem_append.1 hz with hz | hz
    · simp at hz; omega
    · rcases List.mem_append.1 hz with hz | hz
      · exact Leb.leb_byte _ (fold_lt (by unfold near at hx; omega)) z hz
      · exact Leb.leb_byte _ (fold_lt (by unfold near at hy; omega)) z hz
end Go.Proofs.YtfmpfjpcigdeoabGreatDoor
