/- Rows of bytes that part in up to four bytes, one behind the other, have other sums: plain mathematics. -/
import Derived.Test.YtbloomepdchjhaaDoorCrc
namespace Go.Proofs.YtbloomepdchjhaaDoor.Crc

/-- A row of n bytes: zeros, then es from place p on, then zeros. -/
def dif (p : Nat) (es : List Nat) (n : Nat) : List Nat := List.replicate p 0 ++ es ++ List.replicate (n - p - es.length) 0
/-- Bytes, changed by es from place p on. -/
def mixed (bs : List Nat) (p : Nat) (es : List Nat) : List Nat := List.zipWith (fun x y => x ^^^ y) bs (dif p es bs.length)

theorem dif_length {p : Nat} {es : List Nat} {n : Nat} (h : p + es.length ≤ n) : (dif p es n).length = n := by
  simp only [dif, List.length_append, List.length_replicate]; omega

theorem dif_get {p : Nat} {es : List Nat} {n : Nat} (j : Nat) : (dif p es n).getD j 0 = if p ≤ j ∧ j < p + es.length then es.getD (j - p) 0 else 0 := by
  have hr : ∀ m k : Nat, (List.replicate m 0).getD k 0 = 0 := by
    intro m k
    rw [List.getD_eq_getElem?_getD, List.getElem?_replicate]
    split <;> rfl
  unfold dif
  rw [List.getD_eq_getElem?_getD, List.getElem?_append, List.getElem?_append]
  simp only [List.length_append, List.length_replicate]
  by_cases h1 : j < p + es.length
  · by_cases h2 : j < p
    · rw [if_pos h1, if_pos h2, if_neg (by omega), ← List.getD_eq_getElem?_getD]; exact hr _ _
    · rw [if_pos h1, if_neg h2, if_pos (by omega), ← List.getD_eq_getElem?_getD]
  · rw [if_neg h1, if_neg (by omega), ← List.getD_eq_getElem?_getD]; exact hr _ _

theorem mixed_length {bs : List Nat} {p : Nat} {es : List Nat} (h : p + es.length ≤ bs.length) : (mixed bs p es).length = bs.length := by
  simp only [mixed, List.length_zipWith, dif_length h]; omega

theorem mixed_get {bs : List Nat} {p : Nat} {es : List Nat} (h : p + es.length ≤ bs.length) (j : Nat) (hj : j < bs.length) : (mixed bs p es).getD j 0 = bs.getD j 0 ^^^ (if p ≤ j ∧ j < p + es.length then es.getD (j - p) 0 else 0) := by
  rw [← dif_get (n := bs.length)]
  have h1 := dif_length h
  unfold mixed
  simp only [List.getD_eq_getElem?_getD, List.getElem?_zipWith, List.getElem?_eq_getElem hj, List.getElem?_eq_getElem (show j < (dif p es bs.length).length by omega), Option.getD_some]

theorem ext_getD {x y : List Nat} (hl : x.length = y.length) (h : ∀ j, j < x.length → x.getD j 0 = y.getD j 0) : x = y := by
  apply List.ext_getElem hl
  intro j h1 h2
  have := h j h1
  simpa [List.getD_eq_getElem?_getD, List.getElem?_eq_getElem h1, List.getElem?_eq_getElem h2] using this

theorem mixed_nil (bs : List Nat) (p : Nat) (h : p ≤ bs.length) : mixed bs p [] = bs := by
  refine ext_getD (mixed_length (by simpa using h)) fun j hj => ?_
  have hj' : j < bs.length := by rw [mixed_length (by simpa using h)] at hj; exact hj
  rw [mixed_get (by simpa using h) j hj', if_neg (by simp), Nat.xor_zero]

theorem mixed_snoc {bs : List Nat} {p : Nat} {es : List Nat} (e : Nat) (h : p + es.length < bs.length) : (mixed bs p es).set (p + es.length) ((mixed bs p es).getD (p + es.length) 0 ^^^ e) = mixed bs p (es ++ [e]) := by
  have h1 : (es ++ [e]).length = es.length + 1 := by simp
  have hl := mixed_length (bs := bs) (p := p) (es := es) (by omega)
  have hl2 := mixed_length (bs := bs) (p := p) (es := es ++ [e]) (by omega)
  refine ext_getD (by rw [List.length_set, hl, hl2]) fun j hj => ?_
  have hj' : j < bs.length := by rw [List.length_set, hl] at hj; exact hj
  rw [mixed_get (by omega) j hj']
  by_cases he : j = p + es.length
  · subst he
    rw [List.getD_eq_getElem?_getD, List.getElem?_set_self (by omega), Option.getD_some, mixed_get (by omega) _ hj', if_neg (by omega), Nat.xor_zero, if_pos (by omega)]
    congr 1
    rw [show p + es.length - p = es.length from by omega, List.getD_eq_getElem?_getD, List.getElem?_append_right (Nat.le_refl _)]
    simp
  · rw [List.getD_eq_getElem?_getD, List.getElem?_set_ne (by omega), ← List.getD_eq_getElem?_getD, mixed_get (by omega) j hj']
    congr 1
    by_cases hin : p ≤ j ∧ j < p + es.length
    · rw [if_pos hin, if_pos (by omega), List.getD_eq_getElem?_getD, List.getD_eq_getElem?_getD, List.getElem?_append_left (by omega)]
    · rw [if_neg hin, if_neg (by omega)]

theorem reg_zip : ∀ (l d : List Nat) (r s : Nat), l.length = d.length → reg (r ^^^ s) (List.zipWith (fun x y => x ^^^ y) l d) = reg r l ^^^ reg s d
  | [], [], r, s, _ => rfl
  | [], _ :: _, _, _, h => by simp at h
  | _ :: _, [], _, _, h => by simp at h
  | c :: l, e :: d, r, s, h => by
    show reg (cstep (r ^^^ s) (c ^^^ e)) (List.zipWith _ l d) = reg (cstep r c) l ^^^ reg (cstep s e) d
    have hc : cstep (r ^^^ s) (c ^^^ e) = cstep r c ^^^ cstep s e := by
      unfold cstep
      rw [← bsteps_xor]
      congr 1
      rw [Nat.xor_assoc, ← Nat.xor_assoc s c e, Nat.xor_comm s c, Nat.xor_assoc c s e, ← Nat.xor_assoc]
    rw [hc]
    exact reg_zip l d _ _ (by simpa using h)

theorem reg_zeros : ∀ (m r : Nat), reg r (List.replicate m 0) = bsteps (8 * m) r
  | 0, r => by simp [reg, bsteps]
  | m + 1, r => by
    rw [List.replicate_succ]
    show reg (cstep r 0) (List.replicate m 0) = _
    rw [reg_zeros m, show 8 * (m + 1) = 8 + 8 * m from by omega, bsteps_add]
    unfold cstep
    rw [Nat.xor_zero]

theorem pack_zero : ∀ (es : List Nat), (∀ x ∈ es, x < 256) → pack es = 0 → ∀ x ∈ es, x = 0
  | [], _, _, x, hx => by cases hx
  | c :: es, hb, h, x, hx => by
    have hc := hb c (by simp)
    have e : c = pack es * 256 := xor_eq_zero.1 h
    have h0 : pack es = 0 := by omega
    rcases List.mem_cons.1 hx with rfl | hx
    · omega
    · exact pack_zero es (fun y hy => hb y (by simp [hy])) h0 x hx

theorem pack_lt : ∀ (es : List Nat), (∀ x ∈ es, x < 256) → es.length ≤ 4 → pack es < 4294967296 := by
  intro es hb hl
  have gen : ∀ (es : List Nat), (∀ x ∈ es, x < 256) → pack es < 2 ^ (8 * es.length) := by
    intro es
    induction es with
    | nil => intro _; simp [pack]
    | cons c es ih =>
      intro hb
      have hc := hb c (by simp)
      have h1 := ih (fun y hy => hb y (by simp [hy]))
      unfold pack
      refine Nat.xor_lt_two_pow ?_ ?_
      · refine Nat.lt_of_lt_of_le hc ?_
        rw [List.length_cons]
        exact Nat.pow_le_pow_right (n := 2) (by omega) (show 8 ≤ 8 * (es.length + 1) by omega)
      · rw [List.length_cons, show 8 * (es.length + 1) = 8 * es.length + 8 from by omega, Nat.pow_add]
        exact Nat.mul_lt_mul_of_pos_right h1 (by omega)
  refine Nat.lt_of_lt_of_le (gen es hb) ?_
  exact Nat.pow_le_pow_right (n := 2) (j := 32) (by omega) (by omega)

/-- Sums of rows that part in up to four bytes are not the same. -/
theorem apart (bs : List Nat) (p : Nat) (es : List Nat) (he : ∀ x ∈ es, x < 256) (h4 : es.length ≤ 4) (hp : p + es.length ≤ bs.length) (s : Nat) : more s (mixed bs p es) = more s bs ↔ ∀ x ∈ es, x = 0 := by
  have key : reg (s ^^^ 4294967295) (mixed bs p es) = reg (s ^^^ 4294967295) bs ^^^ bsteps (8 * (bs.length - p - es.length)) (bsteps (8 * es.length) (pack es)) := by
    have := reg_zip bs (dif p es bs.length) (s ^^^ 4294967295) 0 (dif_length hp).symm
    rw [Nat.xor_zero] at this
    unfold mixed
    rw [this]
    congr 1
    unfold dif
    rw [reg_append, reg_append, reg_zeros, reg_zeros, bsteps_zero, reg_pack, Nat.zero_xor]
  have hlt := pack_lt es he h4
  constructor
  · intro h
    have h1 : reg (s ^^^ 4294967295) (mixed bs p es) = reg (s ^^^ 4294967295) bs := by
      have := congrArg (fun x => x ^^^ 4294967295) h
      simpa [more, xor_back] using this
    rw [key] at h1
    have h2 : bsteps (8 * (bs.length - p - es.length)) (bsteps (8 * es.length) (pack es)) = 0 := by
      have := congrArg (fun x => reg (s ^^^ 4294967295) bs ^^^ x) h1
      simpa [← Nat.xor_assoc] using this
    exact pack_zero es he (bsteps_inj0 _ hlt (bsteps_inj0 _ (bsteps_lt _ hlt) h2))
  · intro h
    have hz : pack es = 0 := by
      have gen : ∀ es : List Nat, (∀ x ∈ es, x = 0) → pack es = 0 := by
        intro es
        induction es with
        | nil => intro _; rfl
        | cons c es ih =>
          intro h
          have hc := h c (by simp)
          have := ih (fun x hx => h x (by simp [hx]))
          simp [pack, hc, this]
      exact gen es h
    unfold more
    rw [key, hz, bsteps_zero, bsteps_zero, Nat.xor_zero]

end Go.Proofs.YtbloomepdchjhaaDoor.Crc
