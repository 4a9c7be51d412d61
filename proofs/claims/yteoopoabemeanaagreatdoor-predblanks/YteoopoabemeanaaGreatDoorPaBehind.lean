/- A text with blanks behind it: its words are the same. Plain mathematics. -/
import Derived.Test.YteoopoabemeanaaGreatDoorPaLex
namespace Go.Proofs.YteoopoabemeanaaGreatDoor
open Go.RowKit

structure Behind (T T2 : ByteArray) (k : Nat) : Prop where
  eq : bytesOf T2 = bytesOf T ++ List.replicate k 32
variable {T T2 : ByteArray} {k : Nat}

theorem tw_short {ok : Nat → Bool} : ∀ {l : List Nat} (r : List Nat), (l.takeWhile ok).length < l.length → (l ++ r).takeWhile ok = l.takeWhile ok
  | [], r, h => by simp at h
  | a :: l, r, h => by
    rw [List.cons_append, List.takeWhile_cons, List.takeWhile_cons]
    by_cases ha : ok a = true
    · rw [if_pos ha, if_pos ha]
      rw [List.takeWhile_cons, if_pos ha, List.length_cons, List.length_cons] at h
      rw [tw_short r (by omega)]
    · rw [if_neg ha, if_neg ha]
theorem tw_stop {ok : Nat → Bool} (h32 : ok 32 = false) : ∀ (l : List Nat) (k : Nat), (l ++ List.replicate k 32).takeWhile ok = l.takeWhile ok
  | [], 0 => rfl
  | [], k + 1 => by rw [List.nil_append, List.replicate_succ, List.takeWhile_cons, h32]; rfl
  | a :: l, k => by
    rw [List.cons_append, List.takeWhile_cons, List.takeWhile_cons, tw_stop h32 l k]
theorem Behind.size (h : Behind T T2 k) : T2.size = T.size + k := by
  rw [← bytesOf_length T2, h.eq, List.length_append, List.length_replicate, bytesOf_length]
theorem Behind.dr (h : Behind T T2 k) {p : Nat} (hp : p ≤ T.size) : dr T2 p = dr T p ++ List.replicate k 32 := by
  unfold Go.Proofs.YteoopoabemeanaaGreatDoor.dr
  rw [h.eq, List.drop_append_of_le_length (by rw [bytesOf_length]; exact hp)]
theorem Behind.byte (h : Behind T T2 k) {p : Nat} (hp : p < T.size) : byteAt T2 p = byteAt T p := by
  rw [byteAt_bs, byteAt_bs, h.eq, List.getD_eq_getElem?_getD, List.getD_eq_getElem?_getD, List.getElem?_append_left (by rw [bytesOf_length]; exact hp)]
theorem Behind.last (h : Behind T T2 k) : byteAt T2 T.size = 32 ∨ byteAt T2 T.size = 0 := by
  rw [byteAt_bs, h.eq, List.getD_eq_getElem?_getD, List.getElem?_append_right (by rw [bytesOf_length]; exact Nat.le_refl _), bytesOf_length, Nat.sub_self]
  cases k with
  | zero => exact .inr rfl
  | succ k => exact .inl rfl
theorem Behind.runTo (h : Behind T T2 k) {ok : Nat → Bool} (h32 : ok 32 = false) {p : Nat} (hp : p ≤ T.size) : runTo T2 ok p = runTo T ok p := by
  rw [runTo_dr, runTo_dr, h.dr hp, tw_stop h32]
theorem Behind.runIn (h : Behind T T2 k) {ok : Nat → Bool} {p : Nat} (hp : p ≤ T.size) (hr : Go.Proofs.YteoopoabemeanaaGreatDoor.runTo T ok p < T.size) : Go.Proofs.YteoopoabemeanaaGreatDoor.runTo T2 ok p = Go.Proofs.YteoopoabemeanaaGreatDoor.runTo T ok p := by
  rw [runTo_dr] at hr
  rw [runTo_dr, runTo_dr, h.dr hp, tw_short _ (by rw [dr_length]; omega)]
theorem Behind.runEnd (h : Behind T T2 k) {p : Nat} (hp : p ≤ T.size) (hr : Go.Proofs.YteoopoabemeanaaGreatDoor.runTo T blaB p = T.size) : Go.Proofs.YteoopoabemeanaaGreatDoor.runTo T2 blaB p = T2.size := by
  rw [runTo_dr] at hr
  have hl := dr_length T p
  have hall : ∀ a ∈ Go.Proofs.YteoopoabemeanaaGreatDoor.dr T p, blaB a = true := by
    have hpre := List.takeWhile_prefix blaB (l := Go.Proofs.YteoopoabemeanaaGreatDoor.dr T p)
    have he := hpre.eq_of_length (by omega)
    intro a ha
    rw [← he] at ha
    exact mem_takeWhile ha
  rw [runTo_dr, h.dr hp, List.takeWhile_append_of_pos hall, h.size]
  have h2 : (List.replicate k 32).takeWhile blaB = List.replicate k 32 := by
    have := List.takeWhile_append_of_pos (p := blaB) (l₁ := List.replicate k 32) (l₂ := []) (fun a ha => by rw [(List.mem_replicate.1 ha).2]; rfl)
    rwa [List.append_nil, List.takeWhile_nil, List.append_nil] at this
  rw [h2, List.length_append, List.length_replicate, hl]
  omega
theorem Behind.sub (h : Behind T T2 k) {a b : Nat} (ha : a ≤ T.size) (hb : b ≤ T.size) : subT T2 a b = subT T a b := by
  rw [subT_dr, subT_dr, h.dr ha, List.take_append_of_le_length (by rw [dr_length]; omega)]
theorem Behind.numF (h : Behind T T2 k) {q : Nat} (hq : q < T.size) : numF T2 q = numF T q ∧ numF T q ≤ T.size := by
  unfold Go.Proofs.YteoopoabemeanaaGreatDoor.numF
  rw [h.byte hq]
  exact ⟨rfl, by split <;> omega⟩
theorem Behind.numAt (h : Behind T T2 k) {q : Nat} (hq : q < T.size) : numAt T2 q = numAt T q := by
  have hf := h.numF hq
  have he : numE T2 q = numE T q := by
    unfold numE
    rw [hf.1, h.runTo rfl hf.2]
  have hl : numE T q ≤ T.size := (runTo_le (T := T) (ok := digB) hf.2).2
  unfold Go.Proofs.YteoopoabemeanaaGreatDoor.numAt
  rw [he, hf.1, h.sub hf.2 hl, h.sub (by omega) hl]
theorem Behind.sbyte (h : Behind T T2 k) (hn : (sbyte T).2 ≠ 0) : sbyte T2 = sbyte T := by
  have hs := h.size
  have hb := fun p => h.byte (p := p)
  unfold Go.Proofs.YteoopoabemeanaaGreatDoor.sbyte at hn ⊢
  by_cases h0 : T.size = 0
  · rw [if_pos h0] at hn; exact absurd rfl hn
  · rw [if_neg h0] at hn ⊢
    rw [if_neg (by omega), hb 0 (by omega)]
    by_cases h1 : byteAt T 0 ≠ 92
    · rw [if_pos h1, if_pos h1]
    · rw [if_neg h1] at hn
      rw [if_neg h1, if_neg h1]
      by_cases h2 : 2 ≤ T.size ∧ (byteAt T 1 = 34 ∨ byteAt T 1 = 92)
      · rw [if_pos h2, hb 1 (by omega), if_pos ⟨by omega, h2.2⟩]
      · rw [if_neg h2] at hn
        by_cases h3 : (4 ≤ T.size ∧ byteAt T 1 = 120) ∧ 0 ≤ hexI (byteAt T 2) ∧ 0 ≤ hexI (byteAt T 3)
        · rw [if_neg h2, if_pos h3, hb 1 (by omega), hb 2 (by omega), hb 3 (by omega), if_neg (by rintro ⟨_, h⟩; exact h2 ⟨by omega, h⟩), if_pos ⟨⟨by omega, h3.1.2⟩, h3.2⟩]
        · rw [if_neg h3] at hn; exact absurd rfl hn
theorem Behind.rest (h : Behind T T2 k) {q : Nat} (hq : q ≤ T.size) : Behind (subT T q T.size) (subT T2 q T2.size) k := ⟨by rw [subT_end, subT_end, h.dr hq]⟩
theorem Behind.strGo (h : Behind T T2 k) : ∀ (n q : Nat) (B : List Nat) (r : List Nat × Nat), q ≤ T.size → strGo T n q B = some r → strGo T2 n q B = some r
  | 0, q, B, r, _, e => by cases e
  | n + 1, q, B, r, hq, e => by
    unfold Go.Proofs.YteoopoabemeanaaGreatDoor.strGo at e ⊢
    have hok := (sbyte_ok (subT T q T.size)).2
    rw [subT_size _ _ _ (Nat.le_refl _)] at hok
    by_cases h0 : (Go.Proofs.YteoopoabemeanaaGreatDoor.sbyte (subT T q T.size)).2 = 0
    · rw [if_pos h0] at e; cases e
    · rw [(h.rest hq).sbyte h0]
      rw [if_neg h0] at e ⊢
      by_cases h1 : (Go.Proofs.YteoopoabemeanaaGreatDoor.sbyte (subT T q T.size)).1 ≠ 34 ∨ 1 < (Go.Proofs.YteoopoabemeanaaGreatDoor.sbyte (subT T q T.size)).2
      · rw [if_pos h1] at e ⊢
        exact h.strGo n _ _ r (by omega) e
      · rw [if_neg h1] at e ⊢
        exact e
theorem Behind.signLen (h : Behind T T2 k) {q : Nat} (hq : q < T.size) : signLen T2 q = signLen T q := by
  have hs := h.size
  unfold Go.Proofs.YteoopoabemeanaaGreatDoor.signLen
  rw [h.byte hq]
  by_cases h1 : q + 1 < T.size
  · have h2 : (q + 1 < T2.size ∧ byteAt T (q + 1) = 61) ↔ (q + 1 < T.size ∧ byteAt T (q + 1) = 61) := ⟨fun x => ⟨h1, x.2⟩, fun x => ⟨by omega, x.2⟩⟩
    rw [h.byte h1]
    simp only [h2]
  · have e : q + 1 = T.size := by omega
    rw [if_neg (c := q + 1 < T.size ∧ byteAt T (q + 1) = 61) (fun x => h1 x.1), if_neg (c := q + 1 < T2.size ∧ byteAt T2 (q + 1) = 61) (fun x => by
      have h2 := x.2
      rw [e] at h2
      rcases h.last with h3 | h3 <;> omega)]
theorem Behind.headF (h : Behind T T2 k) {q : Nat} (hq : q < T.size) {r : Wd × Nat} (e : headF T (Go.Proofs.YteoopoabemeanaaGreatDoor.numAt T) (strAt T) q = .ok r) : headF T2 (Go.Proofs.YteoopoabemeanaaGreatDoor.numAt T2) (strAt T2) q = .ok r := by
  rw [← e]
  unfold Go.Proofs.YteoopoabemeanaaGreatDoor.headF at e ⊢
  rw [h.byte hq]
  by_cases h1 : letB (byteAt T q) = true
  · rw [if_pos h1, if_pos h1]
    unfold nameAt
    have hl := (runTo_le (T := T) (ok := namB) (p := q) (by omega)).2
    rw [h.runTo rfl (by omega), h.sub (by omega) hl]
  · rw [if_neg h1] at e
    rw [if_neg h1, if_neg h1]
    by_cases h2 : byteAt T q = 45 ∨ digB (byteAt T q) = true
    · rw [if_pos h2, if_pos h2, h.numAt hq]
    · rw [if_neg h2] at e
      rw [if_neg h2, if_neg h2]
      by_cases h3 : byteAt T q = 34
      · rw [if_pos h3] at e
        rw [if_pos h3, if_pos h3]
        unfold strAt at e ⊢
        cases hx : Go.Proofs.YteoopoabemeanaaGreatDoor.strGo T 400 (q + 1) [] with
        | none => rw [hx] at e; cases e
        | some x => rw [h.strGo _ _ _ _ (by omega) hx]
      · rw [if_neg h3, if_neg h3]
        unfold signAt
        have hl := sign_on hq
        rw [h.signLen hq, h.sub (by omega) hl.2]
def behindP (N k : Nat) : Sim.Par where
  Hp p p2 := (p2 = p ∧ p ≤ N) ∨ (p = N ∧ p2 = N + k)
  Pl _ _ := True
  C _ _ := True
  free _ _ _ := trivial
  said _ _ _ _ := trivial
  dry := trivial
theorem Behind.lex (h : Behind T T2 k) {p p2 : Nat} (hp : (behindP T.size k).Hp p p2) : match lexT T p with
    | .ok (w, e) => ∃ w2 e2, lexT T2 p2 = .ok (w2, e2) ∧ Sim.Wr (behindP T.size k) w w2 ∧ (behindP T.size k).Hp e e2
    | .error m => (behindP T.size k).C m (Sim.errOf (lexT T2 p2)) := by
  have hs := h.size
  have hends : ∀ p p2, Go.Proofs.YteoopoabemeanaaGreatDoor.runTo T blaB p = T.size → Go.Proofs.YteoopoabemeanaaGreatDoor.runTo T2 blaB p2 = T2.size → match lexT T p with
    | .ok (w, e) => ∃ w2 e2, lexT T2 p2 = .ok (w2, e2) ∧ Sim.Wr (behindP T.size k) w w2 ∧ (behindP T.size k).Hp e e2
    | .error m => (behindP T.size k).C m (Sim.errOf (lexT T2 p2)) := by
    intro p p2 h1 h2
    rw [lex_eq, if_pos h1, lex_eq, if_pos h2]
    exact ⟨_, _, rfl, ⟨rfl, rfl, rfl, rfl, trivial⟩, .inr ⟨rfl, hs⟩⟩
  have hnil : ∀ T : ByteArray, Go.Proofs.YteoopoabemeanaaGreatDoor.runTo T blaB T.size = T.size := fun T => by
    have hd : Go.Proofs.YteoopoabemeanaaGreatDoor.dr T T.size = [] := List.eq_nil_of_length_eq_zero (by rw [dr_length]; omega)
    rw [runTo_dr, hd]
    rfl
  rcases hp with ⟨rfl, hp⟩ | ⟨rfl, rfl⟩
  · by_cases he : Go.Proofs.YteoopoabemeanaaGreatDoor.runTo T blaB p2 = T.size
    · exact hends p2 p2 he (h.runEnd hp he)
    · have hl := runTo_le (T := T) (ok := blaB) hp
      have hlt : Go.Proofs.YteoopoabemeanaaGreatDoor.runTo T blaB p2 < T.size := by omega
      have hr := h.runIn hp hlt
      have h1 : lexT T p2 = Go.Proofs.YteoopoabemeanaaGreatDoor.headF T (Go.Proofs.YteoopoabemeanaaGreatDoor.numAt T) (strAt T) (Go.Proofs.YteoopoabemeanaaGreatDoor.runTo T blaB p2) := by rw [lex_eq, if_neg he]
      have h2 : lexT T2 p2 = Go.Proofs.YteoopoabemeanaaGreatDoor.headF T2 (Go.Proofs.YteoopoabemeanaaGreatDoor.numAt T2) (strAt T2) (Go.Proofs.YteoopoabemeanaaGreatDoor.runTo T blaB p2) := by rw [lex_eq, hr, if_neg (by omega)]
      have hh := fun r => h.headF hlt (r := r)
      have hg := fun w k => lex_head hlt (w := w) (k := k)
      rw [h1, h2]
      generalize Go.Proofs.YteoopoabemeanaaGreatDoor.headF T (Go.Proofs.YteoopoabemeanaaGreatDoor.numAt T) (strAt T) (Go.Proofs.YteoopoabemeanaaGreatDoor.runTo T blaB p2) = r at *
      cases r with
      | ok x =>
        refine ⟨x.1, x.2, hh x rfl, ⟨rfl, rfl, rfl, rfl, trivial⟩, .inl ⟨rfl, (hg x.1 x.2 rfl).2.1⟩⟩
      | error m => trivial
  · exact hends T.size (T.size + k) (hnil T) (by rw [← hs]; exact hnil T2)
theorem Behind.parse (h : Behind T T2 k) (n : Nat) : Sim.Rr (behindP T.size k) (parseM (lexT T) n) (parseM (lexT T2) n) := by
  refine Sim.parse_r (fun p p2 hp => h.lex hp) n ?_
  have h0 := h.lex (p := 0) (p2 := 0) (.inl ⟨rfl, Nat.zero_le _⟩)
  unfold adv
  show Sim.Rr _ (match lexT T 0 with | .ok (w, k) => _ | .error m => _) (match lexT T2 0 with | .ok (w, k) => _ | .error m => _)
  revert h0
  generalize lexT T 0 = r
  generalize lexT T2 0 = r2
  intro h0
  cases r with
  | ok x =>
    obtain ⟨w2, e2, rfl, h1, h2⟩ := h0
    exact ⟨_, rfl, h2, h1, rfl⟩
  | error m => trivial
end Go.Proofs.YteoopoabemeanaaGreatDoor
