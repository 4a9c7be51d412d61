/- A pack of texts: PaChar PaChar2. -/
import Derived.Test.YteoopoabemeanaaGreatDoorTreeP
import Derived.Test.YteoopoabemeanaaGreatDoorPaLex
/- The words of bytes: plain mathematics. -/
namespace Go.Proofs.YteoopoabemeanaaGreatDoor
open Go.RowKit

/-! Decimal numbers. -/
theorem parseU_snoc {M : Nat} {c : UInt8} (hc : 48 ≤ c.toNat ∧ c.toNat ≤ 57) : ∀ (l : List UInt8) (acc v : Nat), Lib.parseUintM M acc l = .ok v → v < 1844674407370955162 → v * 10 + (c.toNat - 48) ≤ M → Lib.parseUintM M acc (l ++ [c]) = .ok (v * 10 + (c.toNat - 48))
  | [], acc, v, h, h1, h2 => by
    cases h
    rw [List.nil_append, Lib.parseUintM, if_pos hc, if_neg (by omega), if_neg (by omega), Lib.parseUintM]
  | d :: l, acc, v, h, h1, h2 => by
    rw [Lib.parseUintM] at h
    rw [List.cons_append, Lib.parseUintM]
    by_cases hd : 48 ≤ d.toNat ∧ d.toNat ≤ 57
    · rw [if_pos hd] at h ⊢
      by_cases h3 : 1844674407370955162 ≤ acc
      · rw [if_pos h3] at h; cases h
      · rw [if_neg h3] at h ⊢
        by_cases h4 : M < acc * 10 + (d.toNat - 48)
        · rw [if_pos h4] at h; cases h
        · rw [if_neg h4] at h ⊢
          exact parseU_snoc hc l _ v h h1 h2
    · rw [if_neg hd] at h; cases h
theorem dig_nat {k : Nat} (h : k < 10) : (UInt8.ofNat (48 + k)).toNat = 48 + k := by rw [UInt8.toNat_ofNat']; omega
theorem dec_parse {M : Nat} (hM : M ≤ 18446744073709551615) : ∀ (k u : Nat), u ≤ k → u ≤ M → Lib.parseUintM M 0 (Lib.decDigits u) = .ok u
  | k, u, hk, hu => by
    by_cases h : u < 10
    · rw [Lib.decDigits, dif_pos h, Lib.parseUintM, dig_nat h, if_pos (by omega), if_neg (by omega), if_neg (by omega), Lib.parseUintM]
      congr 1
      omega
    · rw [Lib.decDigits, dif_neg h]
      cases k with
      | zero => omega
      | succ k =>
        have hd := dig_nat (k := u % 10) (by omega)
        have := parseU_snoc (M := M) (c := UInt8.ofNat (48 + u % 10)) (by omega) _ 0 (u / 10) (dec_parse hM k (u / 10) (by omega) (by omega)) (by omega) (by omega)
        rw [this]
        congr 1
        omega
theorem dec_dig : ∀ (k u : Nat), u ≤ k → ∀ c ∈ Lib.decDigits u, 48 ≤ c.toNat ∧ c.toNat ≤ 57
  | k, u, hk, c, hc => by
    by_cases h : u < 10
    · rw [Lib.decDigits, dif_pos h, List.mem_singleton] at hc
      rw [hc, dig_nat h]; omega
    · rw [Lib.decDigits, dif_neg h] at hc
      cases k with
      | zero => omega
      | succ k =>
        rcases List.mem_append.1 hc with hc | hc
        · exact dec_dig k (u / 10) (by omega) c hc
        · rw [List.mem_singleton.1 hc, dig_nat (by omega)]; omega
theorem dec_head : ∀ (k u : Nat), u ≤ k → ∃ c r, Lib.decDigits u = c :: r ∧ (c.toNat = 48 → u = 0 ∧ r = [])
  | k, u, hk => by
    by_cases h : u < 10
    · refine ⟨_, [], by rw [Lib.decDigits, dif_pos h], fun hc => ⟨?_, rfl⟩⟩
      rw [dig_nat h] at hc; omega
    · cases k with
      | zero => omega
      | succ k =>
        obtain ⟨c, r, e, hc⟩ := dec_head k (u / 10) (by omega)
        refine ⟨c, r ++ [UInt8.ofNat (48 + u % 10)], by rw [Lib.decDigits, dif_neg h, e]; rfl, fun h0 => ?_⟩
        have := (hc h0).1
        omega
theorem itoa_parse {n : Int} (h : -9223372036854775808 ≤ n ∧ n ≤ 9223372036854775807) : Lib.parseIntB 64 (Lib.itoa n) = .ok n := by
  unfold Lib.itoa
  by_cases h0 : n < 0
  · rw [if_pos h0]
    have hp := dec_parse (M := 2 ^ 64 - 1) (by omega) _ n.natAbs (Nat.le_refl _) (by omega)
    obtain ⟨c, r, e, _⟩ := dec_head _ n.natAbs (Nat.le_refl _)
    unfold Lib.parseIntB
    simp only
    rw [if_pos (by decide)]
    unfold Lib.parseUintB
    rw [if_neg (by rw [e]; exact List.cons_ne_nil _ _), hp]
    simp only
    rw [if_neg (fun hx => hx.1 (by decide)), if_neg (fun hx => by have := hx.2; omega), if_pos (by decide)]
    congr 1
    omega
  · rw [if_neg h0]
    have hp := dec_parse (M := 2 ^ 64 - 1) (by omega) _ n.toNat (Nat.le_refl _) (by omega)
    obtain ⟨c, r, e, _⟩ := dec_head _ n.toNat (Nat.le_refl _)
    have hc := dec_dig _ n.toNat (Nat.le_refl _) c (by rw [e]; exact List.mem_cons_self)
    rw [e] at hp ⊢
    unfold Lib.parseIntB
    simp only
    rw [if_neg (by omega)]
    unfold Lib.parseUintB
    rw [if_neg (List.cons_ne_nil _ _), hp]
    simp only
    rw [if_neg (fun hx => by have := hx.2; omega), if_neg (fun hx => by have := hx.1; omega), if_neg (by omega)]
    congr 1
    omega
/-! Bytes at a place. -/
theorem dr_add (T : ByteArray) (p n : Nat) : dr T (p + n) = (dr T p).drop n := by
  unfold dr
  rw [List.drop_drop]
variable {T : ByteArray} {p : Nat}

theorem dr_lt {c : Nat} {r : List Nat} (h : dr T p = c :: r) : p < T.size := by
  have := dr_length T p
  rw [h, List.length_cons] at this
  omega
theorem dr_byte {c : Nat} {r : List Nat} (h : dr T p = c :: r) : byteAt T p = c := by
  have := byteAt_dr T p 0
  rw [Nat.add_zero, h] at this
  exact this
theorem dr_tail {x r : List Nat} (h : dr T p = x ++ r) : dr T (p + x.length) = r := by rw [dr_add, h, List.drop_left]
theorem dr_next {c : Nat} {r : List Nat} (h : dr T p = c :: r) : dr T (p + 1) = r := by rw [dr_add, h]; rfl
theorem run_here {ok : Nat → Bool} {c : Nat} {r : List Nat} (h : dr T p = c :: r) (hc : ok c = false) : runTo T ok p = p := by
  rw [runTo_dr, h, List.takeWhile_cons, hc]
  rfl
theorem tw_head {ok : Nat → Bool} {x r : List Nat} (hx : ∀ a ∈ x, ok a = true) (hr : r = [] ∨ ∃ c r', r = c :: r' ∧ ok c = false) : (x ++ r).takeWhile ok = x := by
  rw [List.takeWhile_append_of_pos hx]
  rcases hr with rfl | ⟨c, r', rfl, hc⟩
  · simp
  · rw [List.takeWhile_cons, hc]; simp
theorem run_word {ok : Nat → Bool} {x r : List Nat} (h : dr T p = x ++ r) (hx : ∀ a ∈ x, ok a = true) (hr : r = [] ∨ ∃ c r', r = c :: r' ∧ ok c = false) : runTo T ok p = p + x.length := by
  rw [runTo_dr, h, tw_head hx hr]
theorem sub_word {x r : List Nat} (h : dr T p = x ++ r) : subT T p (p + x.length) = str x := by
  rw [subT_dr, h, Nat.add_sub_cancel_left, List.take_left]
theorem lex_head_at {c : Nat} {r : List Nat} (h : dr T p = c :: r) (hc : c ≠ 32) : lexT T p = headF T (numAt T) (strAt T) p := by
  have hl := dr_lt h
  have hr : runTo T blaB p = p := run_here h (decide_eq_false hc)
  rw [lex_eq, hr, if_neg (by omega)]
theorem lex_blank {r : List Nat} (h : dr T p = 32 :: r) : runTo T blaB p = runTo T blaB (p + 1) ∧ lexT T p = lexT T (p + 1) := by
  have hr : runTo T blaB p = runTo T blaB (p + 1) := runTo_step (dr_lt h) (by rw [dr_byte h]; rfl)
  exact ⟨hr, by rw [lex_eq, lex_eq, hr]⟩
/-- A sign of one byte. -/
theorem lex_sign1 {c : Nat} {r : List Nat} (h : dr T p = c :: r) (hc : c ∈ [40, 41, 44, 47, 38, 124, 63, 42, 35, 61, 94, 126]) : lexT T p = .ok (⟨1, p, str [c], 0, 0⟩, p + 1) := by
  have hb := dr_byte h
  have h32 : c ≠ 32 := by rintro rfl; exact absurd hc (by decide)
  have h1 : letB c = false := by simp only [List.mem_cons, List.not_mem_nil, or_false] at hc; rcases hc with rfl | rfl | rfl | rfl | rfl | rfl | rfl | rfl | rfl | rfl | rfl | rfl <;> rfl
  have h2 : ¬ (c = 45 ∨ digB c = true) := by simp only [List.mem_cons, List.not_mem_nil, or_false] at hc; rcases hc with rfl | rfl | rfl | rfl | rfl | rfl | rfl | rfl | rfl | rfl | rfl | rfl <;> decide
  have h3 : ¬ c = 34 := by rintro rfl; exact absurd hc (by decide)
  have h4 : ¬ (c = 33 ∨ c = 60 ∨ c = 62) := by rintro (rfl | rfl | rfl) <;> exact absurd hc (by decide)
  have hs : signLen T p = 1 := by unfold signLen; rw [hb, if_neg h4, if_pos hc]
  rw [lex_head_at h h32, headF, hb, h1, if_neg (by decide), if_neg h2, if_neg h3, signAt, hs, if_neg (by decide), show p + 1 = p + [c].length from rfl, sub_word (x := [c]) h]
theorem lex_signA {c : Nat} {r : List Nat} (h : dr T p = c :: r) (hc : c = 33 ∨ c = 60 ∨ c = 62) (hr : ∃ d r', r = d :: r' ∧ d ≠ 61) : lexT T p = .ok (⟨1, p, str [c], 0, 0⟩, p + 1) := by
  have hb := dr_byte h
  obtain ⟨d, r', rfl, hd⟩ := hr
  have hb2 := dr_byte (dr_next h)
  have hs : signLen T p = 1 := by unfold signLen; rw [hb, if_pos hc, if_neg (fun x => hd (hb2.symm.trans x.2))]
  have h32 : c ≠ 32 := by rintro rfl; omega
  have h1 : letB c = false := by rcases hc with rfl | rfl | rfl <;> rfl
  have h2 : ¬ (c = 45 ∨ digB c = true) := by rcases hc with rfl | rfl | rfl <;> decide
  have h3 : ¬ c = 34 := by rintro rfl; omega
  rw [lex_head_at h h32, headF, hb, h1, if_neg (by decide), if_neg h2, if_neg h3, signAt, hs, if_neg (by decide), show p + 1 = p + [c].length from rfl, sub_word (x := [c]) h]
theorem lex_signB {c : Nat} {r : List Nat} (h : dr T p = c :: 61 :: r) (hc : c = 33 ∨ c = 60 ∨ c = 62) : lexT T p = .ok (⟨1, p, str [c, 61], 0, 0⟩, p + 2) := by
  have hb := dr_byte h
  have hb2 := dr_byte (dr_next h)
  have hl := dr_lt (dr_next h)
  have hs : signLen T p = 2 := by unfold signLen; rw [hb, if_pos hc, if_pos ⟨hl, hb2⟩]
  have h32 : c ≠ 32 := by rintro rfl; omega
  have h1 : letB c = false := by rcases hc with rfl | rfl | rfl <;> rfl
  have h2 : ¬ (c = 45 ∨ digB c = true) := by rcases hc with rfl | rfl | rfl <;> decide
  have h3 : ¬ c = 34 := by rintro rfl; omega
  rw [lex_head_at h h32, headF, hb, h1, if_neg (by decide), if_neg h2, if_neg h3, signAt, hs, if_neg (by decide), show p + 2 = p + [c, 61].length from rfl, sub_word (x := [c, 61]) h]
theorem str_nameL (t : ByteArray) : str (nameL t) = t := str_bytesOf t
theorem nameL_length (t : ByteArray) : (nameL t).length = t.size := bytesOf_length t
theorem name_bytes {t : ByteArray} (h : nameOk t) : ∃ c r, nameL t = c :: r ∧ letB c = true ∧ ∀ a ∈ nameL t, namB a = true := by
  obtain ⟨h0, h16, hg⟩ := h
  have hall : ∀ a ∈ nameL t, namB a = true := by
    intro a ha
    obtain ⟨i, hi, rfl⟩ := List.getElem_of_mem ha
    rw [nameL_length] at hi
    have hb : byteAt t i = (nameL t)[i]'(by rw [nameL_length]; exact hi) := by
      rw [byteAt_bs, List.getD_eq_getElem?_getD, List.getElem?_eq_getElem (by rw [bytesOf_length]; exact hi)]; rfl
    rw [← hb]
    have := hg i hi
    unfold good at this
    unfold namB letB digB
    simp only [Bool.or_eq_true, Bool.and_eq_true, decide_eq_true_eq]
    omega
  cases hx : nameL t with
  | nil => have := nameL_length t; rw [hx] at this; simp at this; omega
  | cons c r =>
    refine ⟨c, r, rfl, ?_, by rw [← hx]; exact hall⟩
    have hb : byteAt t 0 = c := by rw [byteAt_bs]; show (nameL t).getD 0 0 = c; rw [hx]; rfl
    have := hg 0 h0
    rw [hb] at this
    unfold good at this
    unfold letB
    simp only [Bool.and_eq_true, decide_eq_true_eq]
    omega
theorem lex_name {t : ByteArray} (ht : nameOk t) {r : List Nat} (h : dr T p = nameL t ++ r) (hr : r = [] ∨ ∃ c r', r = c :: r' ∧ namB c = false) : lexT T p = .ok (⟨2, p, t, 0, 0⟩, p + (nameL t).length) := by
  obtain ⟨c, r', e, hl, hall⟩ := name_bytes ht
  have h' : dr T p = c :: (r' ++ r) := by rw [h, e]; rfl
  have hb := dr_byte h'
  have h32 : c ≠ 32 := by rintro rfl; exact absurd hl (by decide)
  have hrun := run_word h hall hr
  have h16 := ht.2.1
  rw [lex_head_at h' h32, headF, hb, if_pos hl, nameAt, hrun, sub_word h, str_nameL, Nat.add_sub_cancel_left, nameL_length, if_neg (by omega)]
end Go.Proofs.YteoopoabemeanaaGreatDoor
/- Numbers and strings among the words of bytes: plain mathematics. -/
namespace Go.Proofs.YteoopoabemeanaaGreatDoor
open Go.RowKit
variable {T : ByteArray} {p : Nat}

theorem str_map (l : List UInt8) : str (l.map fun c => c.toNat) = ⟨l.toArray⟩ := by
  unfold str
  rw [List.map_map]
  congr 2
  induction l with
  | nil => rfl
  | cons a l ih => rw [List.map_cons, ih]; congr 1; exact UInt8.ofNat_toNat
theorem numV_itoa {n : Int} (h : -9223372036854775808 ≤ n ∧ n ≤ 9223372036854775807) : numV ⟨(Lib.itoa n).toArray⟩ = (n, 0) := by
  unfold numV
  rw [show (⟨(Lib.itoa n).toArray⟩ : ByteArray).data.toList = Lib.itoa n from rfl, itoa_parse h]
theorem one_dec {u : Nat} {below : Bool} (h : below = true → u ≠ 0) : oneB ⟨(Lib.decDigits u).toArray⟩ below = true := by
  obtain ⟨c, r, e, hc⟩ := dec_head _ u (Nat.le_refl _)
  unfold oneB
  rw [e]
  have hs : (⟨(c :: r).toArray⟩ : ByteArray).size = r.length + 1 := rfl
  have hb : byteAt ⟨(c :: r).toArray⟩ 0 = c.toNat := rfl
  rw [hs, hb, if_neg (by omega)]
  by_cases h0 : c.toNat = 48
  · obtain ⟨hu, hr⟩ := hc h0
    rw [if_pos h0, hr]
    cases below with
    | true => exact absurd hu (h rfl)
    | false => rfl
  · rw [if_neg h0]
theorem dec_digB {u : Nat} : ∀ a ∈ (Lib.decDigits u).map (fun c => c.toNat), digB a = true := by
  intro a ha
  obtain ⟨c, hc, rfl⟩ := List.mem_map.1 ha
  have := dec_dig _ u (Nat.le_refl _) c hc
  unfold digB
  simp only [Bool.and_eq_true, decide_eq_true_eq]
  exact this
theorem lex_num {n : Int} (hn : -9223372036854775808 ≤ n ∧ n ≤ 9223372036854775807) {r : List Nat} (h : dr T p = decT n ++ r) (hr : r = [] ∨ ∃ c r', r = c :: r' ∧ digB c = false) : lexT T p = .ok (⟨3, p, ⟨#[]⟩, n, 0⟩, p + (decT n).length) := by
  by_cases h0 : n < 0
  · have e : decT n = 45 :: (Lib.decDigits n.natAbs).map (fun c => c.toNat) := by unfold decT Lib.itoa; rw [if_pos h0]; rfl
    have h' : dr T p = 45 :: ((Lib.decDigits n.natAbs).map (fun c => c.toNat) ++ r) := by rw [h, e]; rfl
    have hb := dr_byte h'
    have hF : numF T p = p + 1 := by unfold numF; rw [hb, if_pos rfl]
    have hE : numE T p = p + (decT n).length := by
      unfold numE
      rw [hF, run_word (dr_next h') dec_digB hr, e, List.length_cons]
      omega
    have hs1 : subT T (numF T p) (numE T p) = ⟨(Lib.decDigits n.natAbs).toArray⟩ := by
      rw [hE, hF, e, List.length_cons, show p + (((Lib.decDigits n.natAbs).map (fun c => c.toNat)).length + 1) = p + 1 + ((Lib.decDigits n.natAbs).map (fun c => c.toNat)).length from by omega, sub_word (dr_next h'), str_map]
    have hs2 : subT T p (numE T p) = ⟨(Lib.itoa n).toArray⟩ := by rw [hE, sub_word h]; exact str_map _
    rw [lex_head_at h' (by omega), headF, hb, if_neg (by decide), if_pos (.inl rfl), numAt, hs1, one_dec (fun _ => by omega), if_pos rfl, hs2, numV_itoa hn, hE]
  · have e : decT n = (Lib.decDigits n.toNat).map (fun c => c.toNat) := by unfold decT Lib.itoa; rw [if_neg h0]
    obtain ⟨c, l, ec, _⟩ := dec_head _ n.toNat (Nat.le_refl _)
    have hc := dec_dig _ n.toNat (Nat.le_refl _) c (by rw [ec]; exact List.mem_cons_self)
    have h' : dr T p = c.toNat :: (l.map (fun c => c.toNat) ++ r) := by rw [h, e, ec]; rfl
    have hb := dr_byte h'
    have hd : digB c.toNat = true := by unfold digB; simp only [Bool.and_eq_true, decide_eq_true_eq]; exact hc
    have hl : letB c.toNat = false := by unfold letB; simp only [Bool.and_eq_false_iff, decide_eq_false_iff_not]; omega
    have hF : numF T p = p := by unfold numF; rw [hb, if_neg (by omega)]
    have hE : numE T p = p + (decT n).length := by
      unfold numE
      rw [hF, run_word h (by rw [e]; exact dec_digB) hr]
    have hs1 : subT T (numF T p) (numE T p) = ⟨(Lib.decDigits n.toNat).toArray⟩ := by
      rw [hE, hF, sub_word h, e, str_map]
    have hs2 : subT T p (numE T p) = ⟨(Lib.itoa n).toArray⟩ := by rw [hE, sub_word h]; exact str_map _
    have hbel : decide (p < numF T p) = false := by rw [hF]; exact decide_eq_false (by omega)
    rw [lex_head_at h' (by omega), headF, hb, hl, if_neg (by decide), if_pos (.inr hd), numAt, hs1, hbel, one_dec (fun h => by cases h), if_pos rfl, hs2, numV_itoa hn, hE]
/-! Strings. -/
theorem byte_of {d : ByteArray} {l : List Nat} (h : bytesOf d = l) (i : Nat) : byteAt d i = l.getD i 0 := by rw [byteAt_bs, h]
theorem hex_of_fin : ∀ k : Fin 16, hexI (if k.val < 10 then 48 + k.val else 87 + k.val) = (k.val : Int) := by decide +kernel
theorem hex_of {k : Nat} (h : k < 16) : hexI (if k < 10 then 48 + k else 87 + k) = (k : Int) := hex_of_fin ⟨k, h⟩
theorem sbyte_quo {d : ByteArray} {c : Nat} {m : List Nat} (hc : c < 256) (h : bytesOf d = quoB c ++ m) : sbyte d = (c, (quoB c).length) ∧ (c ≠ 34 ∨ 1 < (quoB c).length) := by
  have hs : d.size = (quoB c).length + m.length := by rw [← bytesOf_length d, h, List.length_append]
  have hb := byte_of h
  unfold sbyte
  by_cases h1 : c = 34 ∨ c = 92
  · have e : quoB c = [92, c] := by unfold quoB; rw [if_pos h1]
    rw [e] at hs hb ⊢
    have hs' : d.size = 2 + m.length := hs
    have b0 : byteAt d 0 = 92 := hb 0
    have b1 : byteAt d 1 = c := hb 1
    rw [b0, b1, if_neg (by omega), if_neg (by simp), if_pos ⟨by omega, h1⟩]
    exact ⟨rfl, .inr (by show 1 < 2; omega)⟩
  · by_cases h2 : 32 ≤ c ∧ c ≤ 126
    · have e : quoB c = [c] := by unfold quoB; rw [if_neg h1, if_pos h2]
      rw [e] at hs hb ⊢
      have hs' : d.size = 1 + m.length := hs
      have b0 : byteAt d 0 = c := hb 0
      have hp : plainB c = true := by unfold plainB; simp only [Bool.and_eq_true, decide_eq_true_eq]; exact h2
      rw [b0, if_neg (by omega), if_pos (by omega), if_pos hp]
      exact ⟨rfl, .inl (by omega)⟩
    · have e : quoB c = [92, 120, (if c / 16 < 10 then 48 + c / 16 else 87 + c / 16), (if c % 16 < 10 then 48 + c % 16 else 87 + c % 16)] := by unfold quoB; rw [if_neg h1, if_neg h2]
      rw [e] at hs hb ⊢
      have hs' : d.size = 4 + m.length := hs
      have b0 : byteAt d 0 = 92 := hb 0
      have b1 : byteAt d 1 = 120 := hb 1
      have b2 : byteAt d 2 = (if c / 16 < 10 then 48 + c / 16 else 87 + c / 16) := hb 2
      have b3 : byteAt d 3 = (if c % 16 < 10 then 48 + c % 16 else 87 + c % 16) := hb 3
      rw [b0, b1, b2, b3, hex_of (by omega), hex_of (by omega), if_neg (by omega), if_neg (by simp), if_neg (by omega), if_pos ⟨⟨by omega, rfl⟩, by omega, by omega⟩]
      refine ⟨?_, .inr (by show 1 < 4; omega)⟩
      show (_, 4) = (_, 4)
      congr 1
      omega
theorem strGo_quo : ∀ (l : List Nat) (n q : Nat) (B r : List Nat), (∀ c ∈ l, c < 256) → l.length < n → dr T q = l.flatMap quoB ++ 34 :: r → strGo T n q B = some (B ++ l, q + (l.flatMap quoB).length + 1)
  | [], n, q, B, r, _, hn, h => by
    obtain ⟨m, rfl⟩ : ∃ m, n = m + 1 := ⟨n - 1, by simp at hn; omega⟩
    have hb : bytesOf (subT T q T.size) = 34 :: r := by rw [subT_end]; exact h
    have hs : (subT T q T.size).size = r.length + 1 := by rw [← bytesOf_length, hb, List.length_cons]
    have b0 : byteAt (subT T q T.size) 0 = 34 := byte_of hb 0
    have hsb : sbyte (subT T q T.size) = (34, 1) := by
      unfold sbyte
      rw [b0, if_neg (by omega), if_pos (by decide), if_pos (by decide)]
    rw [strGo, hsb, if_neg (by decide), if_neg (by decide), List.append_nil]
    rfl
  | c :: l, n, q, B, r, hl, hn, h => by
    obtain ⟨m, rfl⟩ : ∃ m, n = m + 1 := ⟨n - 1, by simp at hn; omega⟩
    rw [List.flatMap_cons, List.append_assoc] at h
    have hb : bytesOf (subT T q T.size) = quoB c ++ (l.flatMap quoB ++ 34 :: r) := by rw [subT_end]; exact h
    obtain ⟨hsb, hor⟩ := sbyte_quo (hl c List.mem_cons_self) hb
    have hpos : (quoB c).length ≠ 0 := by
      unfold quoB
      split
      · simp
      · split <;> simp
    have ih := strGo_quo l m (q + (quoB c).length) (B ++ [c]) r (fun x hx => hl x (List.mem_cons_of_mem _ hx)) (by simp at hn; omega) (dr_tail h)
    rw [strGo, hsb, if_neg hpos, if_pos hor, ih, List.flatMap_cons, List.length_append, List.append_assoc]
    simp only [List.singleton_append, Option.some.injEq, Prod.mk.injEq, true_and]
    omega
theorem lex_str {t : ByteArray} (ht : t.size ≤ 200) {r : List Nat} (h : dr T p = quoT (nameL t) ++ r) : lexT T p = .ok (⟨4, p, t, 0, 0⟩, p + (quoT (nameL t)).length) := by
  have h' : dr T p = 34 :: ((nameL t).flatMap quoB ++ 34 :: r) := by rw [h, quoT, List.cons_append, List.append_assoc]; rfl
  have hb := dr_byte h'
  have hl := nameL_length t
  have hgo := strGo_quo (nameL t) 400 (p + 1) [] r (fun c hc => by obtain ⟨x, _, rfl⟩ := List.mem_map.1 hc; exact x.toNat_lt) (by omega) (dr_next h')
  rw [lex_head_at h' (by omega), headF, hb, if_neg (by decide), if_neg (by decide), if_pos rfl, strAt, hgo]
  rw [List.nil_append, strOf, if_neg (by omega), str_nameL, show p + 1 + ((nameL t).flatMap quoB).length + 1 = p + (quoT (nameL t)).length from by simp only [quoT, List.length_cons, List.length_append, List.length_nil]; omega]
end Go.Proofs.YteoopoabemeanaaGreatDoor
