/- What Parse tells of a text with blanks around it: plain mathematics. -/
import Derived.Test.YteoopoabemeanaaGreatDoorPaAll
import Derived.Test.YteoopoabemeanaaGreatDoorPaAhead
import Derived.Test.YteoopoabemeanaaGreatDoorPaBehind
namespace Go.Proofs.YteoopoabemeanaaGreatDoor
open Go.RowKit

theorem tell_ahead {T T1 : ByteArray} {k : Nat} (h : Ahead T T1 k) (nf : Nat) (hnf : fuel T ≤ nf) : (tellM T1.size (parseM (lexT T1) nf)).1 = (tellM T.size (parseM (lexT T) nf)).1 ∧ (tellM T1.size (parseM (lexT T1) nf)).2.2 = (tellM T.size (parseM (lexT T) nf)).2.2 ∧ ((tellM T.size (parseM (lexT T) nf)).2.2 ≠ 0 → (tellM T1.size (parseM (lexT T1) nf)).2.1 = (tellM T.size (parseM (lexT T) nf)).2.1 + k) := by
  have hp := h.parse nf
  have hg := parsed_ok T nf hnf
  have hs := h.size
  generalize parseM (lexT T) nf = R at *
  generalize parseM (lexT T1) nf = R1 at *
  cases R with
  | error m =>
    obtain ⟨m2, h1, h2, h3⟩ := hp
    cases R1 with
    | ok s => cases h1
    | error m1 =>
      cases h1
      exact ⟨rfl, h2, fun _ => h3 hg⟩
  | ok s =>
    obtain ⟨s1, rfl, h1⟩ := hp
    unfold tellM
    simp only
    rw [h1.2.2]
    by_cases h6 : checkT s.terms = 6
    · rw [if_pos h6, if_pos h6]; exact ⟨rfl, rfl, fun _ => hs⟩
    · rw [if_neg h6, if_neg h6]; exact ⟨rfl, rfl, fun h => absurd rfl h⟩
theorem tell_behind {T T2 : ByteArray} {k : Nat} (h : Behind T T2 k) (nf : Nat) (hnf : fuel T ≤ nf) (h0 : (tellM T.size (parseM (lexT T) nf)).2.2 = 0) : (tellM T2.size (parseM (lexT T2) nf)).1 = (tellM T.size (parseM (lexT T) nf)).1 ∧ (tellM T2.size (parseM (lexT T2) nf)).2.2 = 0 := by
  have hp := h.parse nf
  have hg := parsed_ok T nf hnf
  generalize parseM (lexT T) nf = R at *
  generalize parseM (lexT T2) nf = R2 at *
  cases R with
  | error m => exact absurd h0 hg
  | ok s =>
    obtain ⟨s1, rfl, h1⟩ := hp
    unfold tellM at h0 ⊢
    simp only at h0 ⊢
    rw [h1.2.2]
    by_cases h6 : checkT s.terms = 6
    · rw [if_pos h6] at h0; cases h0
    · rw [if_neg h6, if_neg h6]; exact ⟨rfl, rfl⟩
/-! Places lie within the text. -/
theorem head_place {T : ByteArray} {q : Nat} {x : Wd × Nat} (h : headF T (numAt T) (strAt T) q = .ok x) : x.1.place = q := by
  unfold headF at h
  by_cases h1 : letB (byteAt T q) = true
  · rw [if_pos h1] at h; cases h; rfl
  · rw [if_neg h1] at h
    by_cases h2 : byteAt T q = 45 ∨ digB (byteAt T q) = true
    · rw [if_pos h2] at h
      unfold numAt at h
      split at h
      · cases h; rfl
      · cases h
    · rw [if_neg h2] at h
      by_cases h3 : byteAt T q = 34
      · rw [if_pos h3] at h
        unfold strAt at h
        generalize strGo T 400 (q + 1) [] = r at h
        rcases r with _ | ⟨B, e⟩
        · cases h
        · cases h; rfl
      · rw [if_neg h3] at h
        unfold signAt at h
        split at h
        · cases h
        · cases h; rfl
def placeP (N : Nat) : Sim.Par where
  Hp p p2 := p2 = p ∧ p ≤ N
  Pl a _ := a ≤ N
  C m _ := m.1 ≤ N
  free _ _ h := h
  said _ _ _ h := h
  dry := Nat.zero_le _
theorem place_lex (T : ByteArray) {p : Nat} (hp : p ≤ T.size) : match lexT T p with
    | .ok (w, e) => ∃ w2 e2, lexT T p = .ok (w2, e2) ∧ Sim.Wr (placeP T.size) w w2 ∧ (placeP T.size).Hp e e2
    | .error m => (placeP T.size).C m (Sim.errOf (lexT T p)) := by
  have hr := runTo_le (T := T) (ok := blaB) hp
  have hon := fun w k => lex_on hp (w := w) (k := k)
  have hpl : ∀ x, lexT T p = .ok x → x.1.place ≤ T.size := by
    intro x h
    rw [lex_eq] at h
    by_cases he : runTo T blaB p = T.size
    · rw [if_pos he] at h; cases h; exact Nat.le_refl _
    · rw [if_neg he] at h; rw [head_place h]; exact hr.2
  have her : ∀ m, lexT T p = .error m → m.1 ≤ T.size := by
    intro x h
    rw [lex_eq] at h
    by_cases he : runTo T blaB p = T.size
    · rw [if_pos he] at h; cases h
    · rw [if_neg he] at h; rw [head_err h]; exact hr.2
  generalize lexT T p = r at *
  cases r with
  | ok x => exact ⟨x.1, x.2, rfl, ⟨rfl, rfl, rfl, rfl, hpl x rfl⟩, rfl, (hon x.1 x.2 rfl).1.2.1⟩
  | error m => exact her m rfl
theorem parse_place (T : ByteArray) (n : Nat) : Sim.Rr (placeP T.size) (parseM (lexT T) n) (parseM (lexT T) n) := by
  refine Sim.parse_r (fun p p2 hp => by rw [hp.1]; exact place_lex T hp.2) n ?_
  have h0 := place_lex T (Nat.zero_le _)
  unfold adv
  show Sim.Rr _ (match lexT T 0 with | .ok (w, k) => _ | .error m => _) (match lexT T 0 with | .ok (w, k) => _ | .error m => _)
  revert h0
  generalize lexT T 0 = r
  intro h0
  cases r with
  | ok x =>
    obtain ⟨w2, e2, hx, h1, h2⟩ := h0
    cases hx
    exact ⟨_, rfl, h2, h1, rfl⟩
  | error m => exact h0
theorem tell_place (T : ByteArray) (n : Nat) : (tellM T.size (parseM (lexT T) n)).2.1 ≤ T.size := by
  have hp := parse_place T n
  generalize parseM (lexT T) n = R at *
  cases R with
  | error m => exact hp
  | ok s =>
    unfold tellM
    simp only
    split
    · exact Nat.le_refl _
    · exact Nat.zero_le _
def nine : ByteArray := ⟨#[32, 32, 32, 32, 32, 32, 32, 32, 32]⟩
theorem nine_fin : ∀ k : Fin 9, bytesOf (nine.extract 0 k.val) = List.replicate k.val 32 := by decide +kernel
theorem nine_at {k : Nat} (h : k ≤ 8) : bytesOf (nine.extract 0 k) = List.replicate k 32 := nine_fin ⟨k, by omega⟩
theorem bytesOf_append (a b : ByteArray) : bytesOf (a ++ b) = bytesOf a ++ bytesOf b := by
  unfold bytesOf
  rw [ByteArray.data_append, Array.toList_append, List.map_append]
theorem ahead_of (T : ByteArray) {k : Nat} (h : k ≤ 8) : Ahead T (nine.extract 0 k ++ T) k := ⟨by rw [bytesOf_append, nine_at h]⟩
theorem behind_of (T : ByteArray) {k : Nat} (h : k ≤ 8) : Behind T (T ++ nine.extract 0 k) k := ⟨by rw [bytesOf_append, nine_at h]⟩
/-- What the three Parses tell. -/
theorem three (T : ByteArray) (k : Nat) (hk : k ≤ 8) (hT : T.size + 2 * k ≤ 300) : ∃ (L : List Tm) (p c p1 : Nat) (L2 : List Tm) (p2 c2 : Nat),
    (∀ w, Vars w → Calls Tryz.prog 5 #[.string T] w fun e w' => AfterQ w (L, p, c) e w') ∧
    (∀ w, Vars w → Calls Tryz.prog 5 #[.string (nine.extract 0 k ++ T)] w fun e w' => AfterQ w (L, p1, c) e w') ∧
    (∀ w, Vars w → Calls Tryz.prog 5 #[.string (T ++ nine.extract 0 k)] w fun e w' => AfterQ w (L2, p2, c2) e w') ∧
    (c ≠ 0 → p1 = p + k) ∧ (c = 0 → L2 = L ∧ c2 = 0) ∧ p ≤ 300 ∧ L.length ≤ 48 ∧ (∀ q ∈ L, Good.Sound q.val) := by
  have h1 := ahead_of T hk
  have h2 := behind_of T hk
  have s1 := h1.size
  have s2 := h2.size
  have f0 : fuel T ≤ 2420 := by unfold fuel; omega
  have f1 : fuel (nine.extract 0 k ++ T) ≤ 2420 := by unfold fuel; omega
  have f2 : fuel (T ++ nine.extract 0 k) ≤ 2420 := by unfold fuel; omega
  have a0 := fun w hv => Parse_any T (by omega) 2420 f0 w hv
  have a1 := fun w hv => Parse_any (nine.extract 0 k ++ T) (by omega) 2420 f1 w hv
  have a2 := fun w hv => Parse_any (T ++ nine.extract 0 k) (by omega) 2420 f2 w hv
  have t1 := tell_ahead h1 2420 f0
  have t2 := tell_behind h2 2420 f0
  have t3 := tell_place T 2420
  have t4 := tellM_fit (parsed_ok T 2420 f0)
  generalize tellM T.size (parseM (lexT T) 2420) = r0 at *
  generalize tellM (nine.extract 0 k ++ T).size (parseM (lexT (nine.extract 0 k ++ T)) 2420) = r1 at *
  generalize tellM (T ++ nine.extract 0 k).size (parseM (lexT (T ++ nine.extract 0 k)) 2420) = r2 at *
  obtain ⟨L, p, c⟩ := r0
  obtain ⟨L1, p1, c1⟩ := r1
  obtain ⟨L2, p2, c2⟩ := r2
  simp only at t1 t2 t3 t4
  obtain ⟨rfl, rfl, t1⟩ := t1
  exact ⟨_, p, _, p1, L2, p2, c2, a0, a1, a2, t1, t2, by omega, t4.2, t4.1⟩
end Go.Proofs.YteoopoabemeanaaGreatDoor
