/- The words of a text, and of a text with blanks around it: plain mathematics; readWord. -/
import Derived.Test.YteoopoabemeanaaGreatDoorPaStr2
import Derived.Test.YteoopoabemeanaaGreatDoorPaGood
import Derived.Test.YteoopoabemeanaaGreatDoorPaSim
import Derived.Lib.ParseIntBTie
namespace Go.Proofs.YteoopoabemeanaaGreatDoor
open Go.RowKit

def lexT (T : ByteArray) : Lex := wordF T (numAt T) (strAt T)
theorem words_T (T : ByteArray) (hT : T.size ≤ 300) : Words (lexT T) T := by
  intro p w hv hp
  refine (read_word T hT (numAt T) (strAt T) (fun q w hv hq _ => read_num T q hq hT w hv) (fun q w hq _ => read_str T q hq hT w) p hp w hv).mono ?_
  rintro e w' ⟨rfl, hb⟩
  refine ⟨?_, hb⟩
  show match lexT T p with
    | .ok (wd, k) => _
    | .error m => _
  unfold lexT
  rcases wordF T (numAt T) (strAt T) p with m | ⟨wd, k⟩
  · rfl
  · rfl
/-! What a text has from a place on. -/
def dr (T : ByteArray) (p : Nat) : List Nat := (bytesOf T).drop p
theorem dr_length (T : ByteArray) (p : Nat) : (dr T p).length = T.size - p := by rw [dr, List.length_drop, bytesOf_length]
theorem byteAt_bs (T : ByteArray) (p : Nat) : byteAt T p = (bytesOf T).getD p 0 := by
  unfold byteAt bytesOf
  rw [List.getD_eq_getElem?_getD, List.getD_eq_getElem?_getD, List.getElem?_map]
  cases T.data.toList[p]? <;> rfl
theorem byteAt_dr (T : ByteArray) (p i : Nat) : byteAt T (p + i) = (dr T p).getD i 0 := by
  rw [byteAt_bs, dr, List.getD_eq_getElem?_getD, List.getD_eq_getElem?_getD, List.getElem?_drop]
theorem runTo_dr (T : ByteArray) (ok : Nat → Bool) (p : Nat) : runTo T ok p = p + ((dr T p).takeWhile ok).length := rfl
theorem bytesOf_sub (T : ByteArray) (a b : Nat) : bytesOf (subT T a b) = (dr T a).take (b - a) := by
  unfold bytesOf subT dr bytesOf
  rw [ByteArray.data_extract, Array.toList_extract, List.extract_eq_take_drop, List.map_take, List.map_drop]
theorem bytesOf_inj {a b : ByteArray} (h : bytesOf a = bytesOf b) : a = b := by rw [← str_bytesOf a, ← str_bytesOf b, h]
theorem subT_dr (T : ByteArray) (a b : Nat) : subT T a b = str ((dr T a).take (b - a)) := by rw [← bytesOf_sub, str_bytesOf]
theorem subT_end (T : ByteArray) (q : Nat) : bytesOf (subT T q T.size) = dr T q := by
  rw [bytesOf_sub, List.take_of_length_le (by rw [dr_length]; omega)]
theorem mem_takeWhile {ok : Nat → Bool} : ∀ {l : List Nat} {x : Nat}, x ∈ l.takeWhile ok → ok x = true
  | [], x, h => by cases h
  | a :: l, x, h => by
    rw [List.takeWhile_cons] at h
    by_cases ha : ok a = true
    · rw [if_pos ha] at h
      rcases List.mem_cons.1 h with rfl | h
      · exact ha
      · exact mem_takeWhile h
    · rw [if_neg ha] at h; cases h
/-! LexGood. -/
theorem runTo_in {T : ByteArray} {ok : Nat → Bool} {p : Nat} : ∀ i, p ≤ i → i < runTo T ok p → ok (byteAt T i) = true := by
  intro i h1 h2
  rw [runTo_dr] at h2
  have hl : i - p < ((dr T p).takeWhile ok).length := by omega
  have hpre := List.takeWhile_prefix ok (l := dr T p)
  have hm : ((dr T p).takeWhile ok)[i - p] ∈ (dr T p).takeWhile ok := List.getElem_mem hl
  have hall := mem_takeWhile hm
  rw [show i = p + (i - p) from by omega, byteAt_dr, List.getD_eq_getElem?_getD]
  rw [hpre.getElem hl] at hall
  rw [List.getElem?_eq_getElem (by have := hpre.length_le; omega)]
  exact hall
theorem strGo_on {T : ByteArray} : ∀ (n q : Nat) (B B' : List Nat) (e : Nat), q ≤ T.size → strGo T n q B = some (B', e) → q < e ∧ e ≤ T.size
  | 0, q, B, B', e, _, h => by cases h
  | n + 1, q, B, B', e, hq, h => by
    unfold strGo at h
    have hok := (sbyte_ok (subT T q T.size)).2
    rw [subT_size _ _ _ (Nat.le_refl _)] at hok
    generalize sbyte (subT T q T.size) = r at *
    by_cases h0 : r.2 = 0
    · rw [if_pos h0] at h; cases h
    · rw [if_neg h0] at h
      by_cases h1 : r.1 ≠ 34 ∨ 1 < r.2
      · rw [if_pos h1] at h
        have := strGo_on n _ _ _ _ (by omega) h
        omega
      · rw [if_neg h1] at h
        simp only [Option.some.injEq, Prod.mk.injEq] at h
        omega
theorem sign_on {T : ByteArray} {q : Nat} (hq : q < T.size) : signLen T q ≤ 2 ∧ q + signLen T q ≤ T.size := by
  unfold signLen
  split
  · split
    · omega
    · omega
  · split
    · omega
    · omega
theorem lex_head {T : ByteArray} {q : Nat} (hq : q < T.size) {w : Wd} {k : Nat} (h : headF T (numAt T) (strAt T) q = .ok (w, k)) : q < k ∧ k ≤ T.size ∧ Good.TokOk w := by
  unfold headF at h
  by_cases h1 : letB (byteAt T q) = true
  · rw [if_pos h1] at h
    simp only [nameAt, Except.ok.injEq, Prod.mk.injEq] at h
    obtain ⟨rfl, rfl⟩ := h
    have hn : namB (byteAt T q) = true := by rw [namB, h1]; rfl
    have h2 := runTo_step hq hn
    have h3 := runTo_le (T := T) (ok := namB) (p := q + 1) (by omega)
    refine ⟨by omega, by omega, ⟨fun _ hl => ?_, fun h => (by cases h), fun h => (by cases h)⟩⟩
    simp only at hl ⊢
    by_cases h16 : 16 < runTo T namB q - q
    · rw [if_pos h16] at hl; cases hl
    · have hsz : (subT T q (runTo T namB q)).size = runTo T namB q - q := subT_size _ _ _ (by omega)
      refine ⟨by omega, by omega, fun i hi => ?_⟩
      rw [hsz] at hi
      have hb : byteAt (subT T q (runTo T namB q)) i = byteAt T (q + i) := by
        rw [byteAt_bs, bytesOf_sub, List.getD_eq_getElem?_getD, List.getElem?_take_of_lt hi, byteAt_dr, List.getD_eq_getElem?_getD]
      rw [hb]
      by_cases hi0 : i = 0
      · subst hi0
        rw [Nat.add_zero]
        unfold letB at h1
        simp only [Bool.and_eq_true, decide_eq_true_eq] at h1
        exact .inl h1
      · have hg := runTo_in (T := T) (ok := namB) (p := q) (q + i) (by omega) (by omega)
        unfold namB letB digB at hg
        simp only [Bool.or_eq_true, Bool.and_eq_true, decide_eq_true_eq] at hg
        unfold good
        omega
  · rw [if_neg h1] at h
    by_cases h2 : byteAt T q = 45 ∨ digB (byteAt T q) = true
    · rw [if_pos h2] at h
      unfold numAt at h
      by_cases h3 : oneB (subT T (numF T q) (numE T q)) (decide (q < numF T q)) = true
      · rw [if_pos h3] at h
        simp only [Except.ok.injEq, Prod.mk.injEq] at h
        obtain ⟨rfl, rfl⟩ := h
        have hf : q ≤ numF T q ∧ numF T q ≤ T.size := by unfold numF; split <;> omega
        have he := runTo_le (T := T) (ok := digB) (p := numF T q) hf.2
        have hsz : (subT T (numF T q) (numE T q)).size = numE T q - numF T q := subT_size _ _ _ he.2
        have hne : (subT T (numF T q) (numE T q)).size ≠ 0 := by
          intro h0
          unfold oneB at h3
          rw [if_pos h0] at h3
          cases h3
        refine ⟨?_, he.2, ⟨fun h => (by cases h), fun _ => ?_, fun h => (by cases h)⟩⟩
        · unfold numE at hsz hne ⊢; omega
        · show _ ≤ (numV _).1 ∧ (numV _).1 ≤ _
          unfold numV
          cases hx : Lib.parseIntB 64 (subT T q (numE T q)).data.toList with
          | ok v =>
            have := Lib.parseIntB_bounds hx
            simp only
            omega
          | range =>
            simp only [Lib.intSat]
            split <;> omega
          | _ => simp only; omega
      · rw [if_neg h3] at h; cases h
    · rw [if_neg h2] at h
      by_cases h3 : byteAt T q = 34
      · rw [if_pos h3] at h
        unfold strAt strOf at h
        cases hx : strGo T 400 (q + 1) [] with
        | none => rw [hx] at h; cases h
        | some x =>
          obtain ⟨B, e⟩ := x
          rw [hx] at h
          simp only [Except.ok.injEq, Prod.mk.injEq] at h
          obtain ⟨rfl, rfl⟩ := h
          have := strGo_on _ _ _ _ _ (by omega) hx
          refine ⟨by omega, by omega, ⟨fun h => (by cases h), fun h => (by cases h), fun _ hl => ?_⟩⟩
          simp only at hl ⊢
          by_cases h200 : 200 < B.length
          · rw [if_pos h200] at hl; cases hl
          · show (str B).data.size ≤ 200
            simp only [str, List.size_toArray, List.length_map]
            omega
      · rw [if_neg h3] at h
        unfold signAt at h
        by_cases h4 : signLen T q = 0
        · rw [if_pos h4] at h; cases h
        · rw [if_neg h4] at h
          simp only [Except.ok.injEq, Prod.mk.injEq] at h
          obtain ⟨rfl, rfl⟩ := h
          have := sign_on hq
          exact ⟨by omega, by omega, ⟨fun h => (by cases h), fun h => (by cases h), fun h => (by cases h)⟩⟩
theorem lex_on {T : ByteArray} {p : Nat} (hp : p ≤ T.size) {w : Wd} {k : Nat} (h : lexT T p = .ok (w, k)) : (p ≤ k ∧ k ≤ T.size ∧ (w.kind ≠ 0 → p < k)) ∧ Good.TokOk w := by
  have hr := runTo_le (T := T) (ok := blaB) hp
  unfold lexT at h
  by_cases he : runTo T blaB p = T.size
  · rw [wordF_end he] at h
    simp only [Except.ok.injEq, Prod.mk.injEq] at h
    obtain ⟨rfl, rfl⟩ := h
    exact ⟨⟨hp, Nat.le_refl _, fun h => absurd rfl h⟩, ⟨fun h => (by cases h), fun h => (by cases h), fun h => (by cases h)⟩⟩
  · rw [wordF_head rfl (by omega)] at h
    have := lex_head (by omega) h
    exact ⟨⟨by omega, this.2.1, fun _ => by omega⟩, this.2.2⟩
theorem head_err {T : ByteArray} {q : Nat} {m : Nat × Nat} (h : headF T (numAt T) (strAt T) q = .error m) : m = (q, 4) := by
  unfold headF at h
  by_cases h1 : letB (byteAt T q) = true
  · rw [if_pos h1] at h; cases h
  · rw [if_neg h1] at h
    by_cases h2 : byteAt T q = 45 ∨ digB (byteAt T q) = true
    · rw [if_pos h2] at h
      unfold numAt at h
      split at h
      · cases h
      · cases h; rfl
    · rw [if_neg h2] at h
      by_cases h3 : byteAt T q = 34
      · rw [if_pos h3] at h
        unfold strAt strOf at h
        split at h
        · cases h; rfl
        · cases h
      · rw [if_neg h3] at h
        unfold signAt at h
        split at h
        · cases h; rfl
        · cases h
theorem lex_eq (T : ByteArray) (p : Nat) : lexT T p = if runTo T blaB p = T.size then .ok (⟨0, T.size, ⟨#[]⟩, 0, 0⟩, T.size) else headF T (numAt T) (strAt T) (runTo T blaB p) := by
  unfold lexT wordF headF
  rfl
/-- Beyond its end a text has no word. -/
theorem lex_far {T : ByteArray} {p : Nat} (hp : T.size < p) : lexT T p = .error (p, 4) := by
  have hd : dr T p = [] := List.eq_nil_of_length_eq_zero (by rw [dr_length]; omega)
  have hr : runTo T blaB p = p := by rw [runTo_dr, hd]; rfl
  have hb : byteAt T p = 0 := by have := byteAt_dr T p 0; rw [Nat.add_zero, hd] at this; exact this
  rw [lex_eq, if_neg (by omega), hr, headF, hb, if_neg (by decide), if_neg (by decide), if_neg (by decide), signAt, if_pos]
  unfold signLen
  rw [hb, if_neg (by decide), if_neg (by decide)]
theorem good_T (T : ByteArray) : Good.LexGood (lexT T) T.size := by
  refine ⟨⟨fun p w k hp h => (lex_on hp h).1⟩, fun p w k h => ?_, fun p m h => ?_⟩
  · by_cases hp : p ≤ T.size
    · exact (lex_on hp h).2
    · rw [lex_far (by omega)] at h; cases h
  · rw [lex_eq] at h
    by_cases he : runTo T blaB p = T.size
    · rw [if_pos he] at h; cases h
    · rw [if_neg he] at h
      rw [head_err h]
      show 4 ≠ 0
      omega
end Go.Proofs.YteoopoabemeanaaGreatDoor
