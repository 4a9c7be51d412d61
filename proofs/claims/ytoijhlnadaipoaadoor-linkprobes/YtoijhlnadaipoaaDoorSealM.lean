/- What a seal's bytes are, and what stands at the head of a row of bytes: plain mathematics, of no program. -/
import Derived.Test.YtoijhlnadaipoaaDoorCrcApart
namespace Go.Proofs.YtoijhlnadaipoaaDoor.SealM

/-- What a seal's sum is of: kind, length, body. -/
def inner (k : Nat) (bs : List Nat) : List Nat := k :: bs.length % 256 :: bs.length / 256 :: bs
/-- A seal. -/
def sealed (k : Nat) (bs : List Nat) : List Nat := 167 :: (inner k bs ++ Crc.four (Crc.more 0 (inner k bs)))
/-- The number of four bytes, the lowest first. -/
def le32 (l : List Nat) : Nat := l.getD 0 0 + 256 * l.getD 1 0 + 65536 * l.getD 2 0 + 16777216 * l.getD 3 0
/-- The length that a head tells. -/
def blen (l : List Nat) : Nat := l.getD 2 0 + 256 * l.getD 3 0
/-- Where the body ends, and the error. -/
def bend (l : List Nat) : Nat × Nat :=
  if l.length = 0 then (0, 3) else if l.getD 0 0 ≠ 167 then (0, 4) else if l.length < 4 then (0, 3) else if 4096 < blen l then (0, 6) else if l.length < blen l + 8 then (0, 3) else (4 + blen l, 0)
/-- The error that the seal at the head is told with, 0 of a right one. -/
def opn (l : List Nat) : Nat :=
  match bend l with
  | (n, 0) => if le32 (l.drop n) = Crc.more 0 ((l.drop 1).take (n - 1)) then 0 else 5
  | (_, f) => f

theorem inner_length (k : Nat) (bs : List Nat) : (inner k bs).length = bs.length + 3 := by simp [inner]
theorem sealed_length (k : Nat) (bs : List Nat) : (sealed k bs).length = bs.length + 8 := by simp [sealed, inner, Crc.four]
theorem inner_byte {k : Nat} {bs : List Nat} (hk : k < 256) (hb : ∀ x ∈ bs, x < 256) (hl : bs.length ≤ 4096) : ∀ x ∈ inner k bs, x < 256 := by
  intro x hx
  simp only [inner, List.mem_cons] at hx
  rcases hx with rfl | rfl | rfl | hx
  · exact hk
  · omega
  · omega
  · exact hb x hx
theorem sealed_byte {k : Nat} {bs : List Nat} (hk : k < 256) (hb : ∀ x ∈ bs, x < 256) (hl : bs.length ≤ 4096) : ∀ x ∈ sealed k bs, x < 256 := by
  intro x hx
  simp only [sealed, List.mem_cons, List.mem_append] at hx
  rcases hx with rfl | hx | hx
  · omega
  · exact inner_byte hk hb hl x hx
  · exact Crc.four_byte _ x hx

theorem bend_ok {l : List Nat} {n : Nat} (h : bend l = (n, 0)) : n = 4 + blen l ∧ 0 < l.length ∧ l.getD 0 0 = 167 ∧ blen l ≤ 4096 ∧ blen l + 8 ≤ l.length := by
  unfold bend at h
  split at h
  · simp at h
  split at h
  · simp at h
  split at h
  · simp at h
  split at h
  · simp at h
  split at h
  · simp at h
  · simp only [Prod.mk.injEq, and_true] at h
    refine ⟨h.symm, ?_, ?_, ?_, ?_⟩ <;> first | omega | (rename_i h1 _ _ _; exact Classical.not_not.1 h1)
theorem bend_err {l : List Nat} {n f : Nat} (h : bend l = (n, f)) (hf : f ≠ 0) : n = 0 := by
  unfold bend at h
  split at h
  · simp at h; omega
  split at h
  · simp at h; omega
  split at h
  · simp at h; omega
  split at h
  · simp at h; omega
  split at h
  · simp at h; omega
  · simp at h; omega
theorem opn_err {l : List Nat} {n f : Nat} (h : bend l = (n, f)) (hf : f ≠ 0) : opn l = f := by
  unfold opn
  rw [h]
  cases f with
  | zero => exact absurd rfl hf
  | succ f => rfl
theorem opn_of {l : List Nat} {n : Nat} (h : bend l = (n, 0)) : opn l = if le32 (l.drop n) = Crc.more 0 ((l.drop 1).take (n - 1)) then 0 else 5 := by
  unfold opn
  rw [h]
  rfl

theorem le32_four (n : Nat) (h : n < 4294967296) (zs : List Nat) : le32 (Crc.four n ++ zs) = n := by
  simp only [le32, Crc.four, List.cons_append, List.nil_append, List.getD_cons_zero, List.getD_cons_succ]
  omega
theorem four_le32 (l : List Nat) (hl : 4 ≤ l.length) (hb : ∀ x ∈ l, x < 256) : Crc.four (le32 l) = l.take 4 := by
  match l, hl with
  | a :: b :: c :: d :: r, _ =>
    have ha := hb a (by simp)
    have hb' := hb b (by simp)
    have hc := hb c (by simp)
    have hd := hb d (by simp)
    simp only [Crc.four, le32, List.getD_cons_zero, List.getD_cons_succ, List.take_succ_cons, List.take_zero, List.cons.injEq, and_true]
    omega
theorem le32_lt (l : List Nat) (hb : ∀ x ∈ l, x < 256) : le32 l < 4294967296 := by
  have g : ∀ i, l.getD i 0 < 256 := by
    intro i
    rw [List.getD_eq_getElem?_getD]
    by_cases hi : i < l.length
    · rw [List.getElem?_eq_getElem hi]; exact hb _ (List.getElem_mem hi)
    · rw [List.getElem?_eq_none (by omega)]; simp
  have := g 0
  have := g 1
  have := g 2
  have := g 3
  unfold le32
  omega

/-- A head's first four bytes tell all of 'bend' but the row's length. -/
theorem blen_sealed (k : Nat) (bs zs : List Nat) : blen (sealed k bs ++ zs) = bs.length := by
  simp only [blen, sealed, inner, List.cons_append, List.getD_cons_zero, List.getD_cons_succ]
  omega

theorem bend_sealed (k : Nat) (bs zs : List Nat) (hl : bs.length ≤ 4096) : bend (sealed k bs ++ zs) = (4 + bs.length, 0) := by
  have h1 := blen_sealed k bs zs
  have h2 := sealed_length k bs
  have h0 : (sealed k bs ++ zs).getD 0 0 = 167 := rfl
  unfold bend
  rw [h1, List.length_append, h2, h0, if_neg (by omega), if_neg (by simp), if_neg (by omega), if_neg (by omega), if_neg (by omega)]

theorem opn_sealed (k : Nat) (bs zs : List Nat) (hk : k < 256) (hb : ∀ x ∈ bs, x < 256) (hl : bs.length ≤ 4096) : opn (sealed k bs ++ zs) = 0 := by
  rw [opn_of (bend_sealed k bs zs hl)]
  have hd : (sealed k bs ++ zs).drop (4 + bs.length) = Crc.four (Crc.more 0 (inner k bs)) ++ zs := by
    have e : sealed k bs ++ zs = (167 :: inner k bs) ++ (Crc.four (Crc.more 0 (inner k bs)) ++ zs) := by simp [sealed]
    rw [e, show 4 + bs.length = (167 :: inner k bs).length from by simp [inner]; omega, List.drop_left]
  have ht : ((sealed k bs ++ zs).drop 1).take (4 + bs.length - 1) = inner k bs := by
    have e : (sealed k bs ++ zs).drop 1 = inner k bs ++ (Crc.four (Crc.more 0 (inner k bs)) ++ zs) := by simp [sealed]
    rw [e, show 4 + bs.length - 1 = (inner k bs).length from by rw [inner_length]; omega, List.take_left]
  rw [hd, ht, le32_four _ (Crc.more_lt (by omega) (inner_byte hk hb hl)), if_pos rfl]

theorem body_sealed (k : Nat) (bs zs : List Nat) : ((sealed k bs ++ zs).drop 4).take bs.length = bs := by
  have e : (sealed k bs ++ zs).drop 4 = bs ++ (Crc.four (Crc.more 0 (inner k bs)) ++ zs) := by simp [sealed, inner]
  rw [e, List.take_left]
theorem kind_sealed (k : Nat) (bs zs : List Nat) : (sealed k bs ++ zs).getD 1 0 = k := rfl

/-- A seal that is cut short. -/
theorem opn_cut (k : Nat) (bs : List Nat) (hl : bs.length ≤ 4096) (j : Nat) (hj : j < bs.length + 8) : opn ((sealed k bs).take j) = 3 := by
  have hs := sealed_length k bs
  have hlen : ((sealed k bs).take j).length = j := by rw [List.length_take]; omega
  have hget : ∀ i, i < j → ((sealed k bs).take j).getD i 0 = (sealed k bs).getD i 0 := by
    intro i hi
    simp only [List.getD_eq_getElem?_getD, List.getElem?_take_of_lt hi]
  have hbend : bend ((sealed k bs).take j) = (0, 3) := by
    unfold bend
    rw [hlen]
    by_cases h0 : j = 0
    · rw [if_pos h0]
    · rw [if_neg h0, hget 0 (by omega), if_neg (by simp [sealed])]
      by_cases h4 : j < 4
      · rw [if_pos h4]
      · have hb : blen ((sealed k bs).take j) = bs.length := by
          have := blen_sealed k bs []
          rw [List.append_nil] at this
          unfold blen at *
          rw [hget 2 (by omega), hget 3 (by omega), this]
        rw [if_neg h4, hb, if_neg (by omega), if_pos hj]
  exact opn_err hbend (by omega)

/-- Just the right sum makes a row and its sum rest. -/
theorem rest_iff (p : List Nat) (hp : ∀ x ∈ p, x < 256) (s : Nat) (hs : s < 4294967296) : Crc.more 0 (p ++ Crc.four s) = 1214729159 ↔ s = Crc.more 0 p := by
  constructor
  · intro h
    have h1 := Crc.rests p hp
    rw [← h] at h1
    have hm := Crc.more_lt (s := 0) (bs := p) (by omega) hp
    have key : ∀ t, t < 4294967296 → Crc.more 0 (p ++ Crc.four t) = Crc.bsteps 32 (Crc.reg (0 ^^^ 4294967295) p ^^^ t) ^^^ 4294967295 := by
      intro t ht
      unfold Crc.more
      rw [Crc.reg_append, Crc.reg_pack, Crc.pack_four t ht]
      rfl
    rw [key s hs, key _ hm] at h1
    have h2 := congrArg (fun x => x ^^^ 4294967295) h1
    simp only [Crc.xor_back] at h2
    rw [Crc.bsteps_xor, Crc.bsteps_xor 32 _ s] at h2
    have h3 : Crc.bsteps 32 (Crc.more 0 p) = Crc.bsteps 32 s := by
      have := congrArg (fun x => Crc.bsteps 32 (Crc.reg (0 ^^^ 4294967295) p) ^^^ x) h2
      simpa [← Nat.xor_assoc] using this
    have h4 : Crc.bsteps 32 (Crc.more 0 p ^^^ s) = 0 := by rw [Crc.bsteps_xor, h3, Nat.xor_self]
    exact (Crc.xor_eq_zero.1 (Crc.bsteps_inj0 32 (Crc.xor_lt hm hs) h4)).symm
  · rintro rfl
    exact Crc.rests p hp

/-- A seal of which up to four bytes behind the length are changed. -/
theorem opn_turned (k : Nat) (bs : List Nat) (hk : k < 256) (hb : ∀ x ∈ bs, x < 256) (hl : bs.length ≤ 4096) (p : Nat) (es : List Nat) (he : ∀ x ∈ es, x < 256) (h4 : es.length ≤ 4) (hp4 : 4 ≤ p) (hp : p + es.length ≤ bs.length + 8) :
    (opn (Crc.mixed (sealed k bs) p es) = 0 ↔ ∀ x ∈ es, x = 0) ∧ (opn (Crc.mixed (sealed k bs) p es) = 0 ∨ opn (Crc.mixed (sealed k bs) p es) = 5) := by
  have hs := sealed_length k bs
  have hml : (Crc.mixed (sealed k bs) p es).length = bs.length + 8 := by rw [Crc.mixed_length (by omega), hs]
  have hlow : ∀ i, i < 4 → (Crc.mixed (sealed k bs) p es).getD i 0 = (sealed k bs).getD i 0 := by
    intro i hi
    rw [Crc.mixed_get (by omega) i (by omega), if_neg (by omega), Nat.xor_zero]
  have hbl : blen (Crc.mixed (sealed k bs) p es) = bs.length := by
    have := blen_sealed k bs []
    rw [List.append_nil] at this
    unfold blen at *
    rw [hlow 2 (by omega), hlow 3 (by omega), this]
  have hbend : bend (Crc.mixed (sealed k bs) p es) = (4 + bs.length, 0) := by
    unfold bend
    rw [hbl, hml, hlow 0 (by omega), if_neg (by omega), if_neg (by simp [sealed]), if_neg (by omega), if_neg (by omega), if_neg (by omega)]
  rw [opn_of hbend]
  obtain ⟨M, hM⟩ : ∃ M, M = Crc.mixed (sealed k bs) p es := ⟨_, rfl⟩
  have hMb : ∀ x ∈ M, x < 256 := by
    intro x hx
    rw [hM] at hx
    obtain ⟨i, hi, rfl⟩ := List.getElem_of_mem hx
    have e1 := Crc.mixed_get (bs := sealed k bs) (p := p) (es := es) (by omega) i (by omega)
    rw [List.getD_eq_getElem?_getD, List.getElem?_eq_getElem hi, Option.getD_some] at e1
    rw [e1]
    have g : ∀ (l : List Nat), (∀ x ∈ l, x < 256) → ∀ i, l.getD i 0 < 256 := by
      intro l hl i
      rw [List.getD_eq_getElem?_getD]
      by_cases hi : i < l.length
      · rw [List.getElem?_eq_getElem hi]; exact hl _ (List.getElem_mem hi)
      · rw [List.getElem?_eq_none (by omega)]; simp
    refine Nat.xor_lt_two_pow (n := 8) (g _ (sealed_byte hk hb hl) i) ?_
    split
    · exact g _ he _
    · omega
  have hMl : M.length = bs.length + 8 := by rw [hM, hml]
  rw [← hM]
  have hd4 : (M.drop (4 + bs.length)).length = 4 := by rw [List.length_drop]; omega
  have hfour := four_le32 (M.drop (4 + bs.length)) (by omega) (fun x hx => hMb x (List.mem_of_mem_drop hx))
  rw [List.take_of_length_le (by omega)] at hfour
  have hsplit : M.drop 1 = (M.drop 1).take (4 + bs.length - 1) ++ Crc.four (le32 (M.drop (4 + bs.length))) := by
    rw [hfour]
    conv => lhs; rw [← List.take_append_drop (4 + bs.length - 1) (M.drop 1)]
    rw [List.drop_drop, show 1 + (4 + bs.length - 1) = 4 + bs.length from by omega]
  have hri := rest_iff ((M.drop 1).take (4 + bs.length - 1)) (fun x hx => hMb x (List.mem_of_mem_drop (List.mem_of_mem_take hx))) (le32 (M.drop (4 + bs.length))) (le32_lt _ (fun x hx => hMb x (List.mem_of_mem_drop hx)))
  rw [← hsplit] at hri
  have hM1 : M.drop 1 = Crc.mixed ((sealed k bs).drop 1) (p - 1) es := by
    have hl1 : ((sealed k bs).drop 1).length = bs.length + 7 := by rw [List.length_drop]; omega
    refine Crc.ext_getD (by rw [Crc.mixed_length (by omega), List.length_drop]; omega) fun j hj => ?_
    rw [List.length_drop] at hj
    rw [Crc.mixed_get (by omega) j (by omega)]
    have e1 : (M.drop 1).getD j 0 = M.getD (1 + j) 0 := by simp only [List.getD_eq_getElem?_getD, List.getElem?_drop]
    have e2 : ((sealed k bs).drop 1).getD j 0 = (sealed k bs).getD (1 + j) 0 := by simp only [List.getD_eq_getElem?_getD, List.getElem?_drop]
    rw [e1, e2, hM, Crc.mixed_get (by omega) (1 + j) (by omega)]
    by_cases hc : p ≤ 1 + j ∧ 1 + j < p + es.length
    · rw [if_pos hc, if_pos (by omega), show j - (p - 1) = 1 + j - p from by omega]
    · rw [if_neg hc, if_neg (by omega)]
  have hS1 : (sealed k bs).drop 1 = inner k bs ++ Crc.four (Crc.more 0 (inner k bs)) := rfl
  have hrests := Crc.rests (inner k bs) (inner_byte hk hb hl)
  rw [← hS1] at hrests
  have hap := Crc.apart ((sealed k bs).drop 1) (p - 1) es he h4 (by rw [List.length_drop]; omega) 0
  rw [← hM1, hrests] at hap
  constructor
  · rw [← hap, hri]
    by_cases hc : le32 (M.drop (4 + bs.length)) = Crc.more 0 ((M.drop 1).take (4 + bs.length - 1))
    · rw [if_pos hc]; exact ⟨fun _ => hc, fun _ => rfl⟩
    · rw [if_neg hc]; exact ⟨fun h => by omega, fun h => absurd h hc⟩
  · by_cases hc : le32 (M.drop (4 + bs.length)) = Crc.more 0 ((M.drop 1).take (4 + bs.length - 1))
    · rw [if_pos hc]; exact .inl rfl
    · rw [if_neg hc]; exact .inr rfl

end Go.Proofs.YtoijhlnadaipoaaDoor.SealM
