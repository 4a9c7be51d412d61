/- A text with blanks ahead of it: its words are the same, elsewhere. Plain mathematics. -/
import Derived.Test.YteoopoabemeanaaGreatDoorPaLex
namespace Go.Proofs.YteoopoabemeanaaGreatDoor
open Go.RowKit

def sh (k : Nat) : Except (Nat × Nat) (Wd × Nat) → Except (Nat × Nat) (Wd × Nat)
  | .ok (w, e) => .ok (⟨w.kind, w.place + k, w.text, w.n, w.late⟩, e + k)
  | .error m => .error (m.1 + k, m.2)
structure Ahead (T T2 : ByteArray) (k : Nat) : Prop where
  eq : bytesOf T2 = List.replicate k 32 ++ bytesOf T
variable {T T2 : ByteArray} {k : Nat}

theorem Ahead.size (h : Ahead T T2 k) : T2.size = T.size + k := by
  rw [← bytesOf_length T2, h.eq, List.length_append, List.length_replicate, bytesOf_length]; omega
theorem Ahead.dr (h : Ahead T T2 k) (p : Nat) : dr T2 (p + k) = dr T p := by
  unfold Go.Proofs.YteoopoabemeanaaGreatDoor.dr
  rw [h.eq, List.drop_append, List.length_replicate, List.drop_eq_nil_of_le (by rw [List.length_replicate]; omega), List.nil_append, Nat.add_sub_cancel]
theorem Ahead.byte (h : Ahead T T2 k) (p : Nat) : byteAt T2 (p + k) = byteAt T p := by
  have h1 := byteAt_dr T2 (p + k) 0
  have h2 := byteAt_dr T p 0
  rw [Nat.add_zero] at h1 h2
  rw [h1, h2, h.dr]
theorem Ahead.runTo (h : Ahead T T2 k) (ok : Nat → Bool) (p : Nat) : runTo T2 ok (p + k) = runTo T ok p + k := by
  rw [runTo_dr, runTo_dr, h.dr]; omega
theorem Ahead.sub (h : Ahead T T2 k) (a b : Nat) : subT T2 (a + k) (b + k) = subT T a b := by
  rw [subT_dr, subT_dr, h.dr, show b + k - (a + k) = b - a from by omega]
theorem Ahead.numF (h : Ahead T T2 k) (p : Nat) : numF T2 (p + k) = numF T p + k := by
  unfold Go.Proofs.YteoopoabemeanaaGreatDoor.numF
  rw [h.byte]
  split <;> omega
theorem Ahead.numE (h : Ahead T T2 k) (p : Nat) : numE T2 (p + k) = numE T p + k := by
  unfold Go.Proofs.YteoopoabemeanaaGreatDoor.numE
  rw [h.numF, h.runTo]
theorem Ahead.numAt (h : Ahead T T2 k) (p : Nat) : numAt T2 (p + k) = sh k (numAt T p) := by
  unfold Go.Proofs.YteoopoabemeanaaGreatDoor.numAt
  rw [h.numF, h.numE, h.sub, h.sub, show decide (p + k < Go.Proofs.YteoopoabemeanaaGreatDoor.numF T p + k) = decide (p < Go.Proofs.YteoopoabemeanaaGreatDoor.numF T p) from decide_eq_decide.2 (by omega)]
  split <;> rfl
theorem Ahead.strGo (h : Ahead T T2 k) : ∀ (n q : Nat) (B : List Nat), strGo T2 n (q + k) B = (strGo T n q B).map fun x => (x.1, x.2 + k)
  | 0, q, B => rfl
  | n + 1, q, B => by
    unfold Go.Proofs.YteoopoabemeanaaGreatDoor.strGo
    rw [h.size, h.sub]
    generalize sbyte (subT T q T.size) = r
    by_cases h0 : r.2 = 0
    · rw [if_pos h0, if_pos h0]; rfl
    · rw [if_neg h0, if_neg h0]
      by_cases h1 : r.1 ≠ 34 ∨ 1 < r.2
      · rw [if_pos h1, if_pos h1, show q + k + r.2 = q + r.2 + k from by omega]
        exact h.strGo n _ _
      · rw [if_neg h1, if_neg h1]
        simp only [Option.map_some, Option.some.injEq, Prod.mk.injEq, true_and]
        omega
theorem Ahead.strAt (h : Ahead T T2 k) (p : Nat) : strAt T2 (p + k) = sh k (strAt T p) := by
  unfold Go.Proofs.YteoopoabemeanaaGreatDoor.strAt
  rw [show p + k + 1 = p + 1 + k from by omega, h.strGo]
  generalize Go.Proofs.YteoopoabemeanaaGreatDoor.strGo T 400 (p + 1) [] = r
  rcases r with _ | ⟨B, e⟩
  · rfl
  · rfl
theorem Ahead.signLen (h : Ahead T T2 k) (p : Nat) : signLen T2 (p + k) = signLen T p := by
  unfold Go.Proofs.YteoopoabemeanaaGreatDoor.signLen
  rw [show p + k + 1 = p + 1 + k from by omega, h.byte, h.byte, h.size]
  simp only [Nat.add_lt_add_iff_right]
theorem Ahead.signAt (h : Ahead T T2 k) (p : Nat) : signAt T2 (p + k) = sh k (signAt T p) := by
  unfold Go.Proofs.YteoopoabemeanaaGreatDoor.signAt
  rw [h.signLen, show p + k + Go.Proofs.YteoopoabemeanaaGreatDoor.signLen T p = p + Go.Proofs.YteoopoabemeanaaGreatDoor.signLen T p + k from by omega, h.sub]
  split <;> rfl
theorem Ahead.nameAt (h : Ahead T T2 k) (p : Nat) : Except.ok (nameAt T2 (p + k)) = sh k (.ok (nameAt T p)) := by
  unfold Go.Proofs.YteoopoabemeanaaGreatDoor.nameAt
  rw [h.runTo, h.sub, show Go.Proofs.YteoopoabemeanaaGreatDoor.runTo T namB p + k - (p + k) = Go.Proofs.YteoopoabemeanaaGreatDoor.runTo T namB p - p from by omega]
  rfl
theorem Ahead.headF (h : Ahead T T2 k) (q : Nat) : headF T2 (Go.Proofs.YteoopoabemeanaaGreatDoor.numAt T2) (Go.Proofs.YteoopoabemeanaaGreatDoor.strAt T2) (q + k) = sh k (headF T (Go.Proofs.YteoopoabemeanaaGreatDoor.numAt T) (Go.Proofs.YteoopoabemeanaaGreatDoor.strAt T) q) := by
  unfold Go.Proofs.YteoopoabemeanaaGreatDoor.headF
  rw [h.byte, h.nameAt, h.numAt, h.strAt, h.signAt]
  split
  · rfl
  · split
    · rfl
    · split <;> rfl
theorem Ahead.lex (h : Ahead T T2 k) (p : Nat) : lexT T2 (p + k) = sh k (lexT T p) := by
  rw [lex_eq, lex_eq, h.runTo, h.size, h.headF]
  by_cases he : Go.Proofs.YteoopoabemeanaaGreatDoor.runTo T blaB p = T.size
  · rw [if_pos he, if_pos (by omega)]; rfl
  · rw [if_neg he, if_neg (by omega)]
theorem Ahead.lex0 (h : Ahead T T2 k) : lexT T2 0 = sh k (lexT T 0) := by
  have h1 : Go.Proofs.YteoopoabemeanaaGreatDoor.runTo T2 blaB 0 = Go.Proofs.YteoopoabemeanaaGreatDoor.runTo T2 blaB (0 + k) := by
    rw [runTo_dr, runTo_dr, h.dr]
    unfold Go.Proofs.YteoopoabemeanaaGreatDoor.dr
    rw [List.drop_zero, List.drop_zero, h.eq, List.takeWhile_append_of_pos (fun a ha => by rw [(List.mem_replicate.1 ha).2]; rfl), List.length_append, List.length_replicate]
    omega
  rw [← h.lex, lex_eq, lex_eq, h1]
def aheadP (k : Nat) : Sim.Par where
  Hp p p2 := p2 = p + k
  Pl a b := b = a + k
  C m o := ∃ m2, o = some m2 ∧ m2.2 = m.2 ∧ (m.2 ≠ 0 → m2.1 = m.1 + k)
  free m o h := by obtain ⟨m2, h, _⟩ := h; cases h
  said a b e h := ⟨(b, e), rfl, rfl, fun _ => h⟩
  dry := ⟨(0, 0), rfl, rfl, fun h => absurd rfl h⟩
theorem ahead_at {p p2 : Nat} (he : lexT T2 p2 = sh k (lexT T p)) : match lexT T p with
    | .ok (w, e) => ∃ w2 e2, lexT T2 p2 = .ok (w2, e2) ∧ Sim.Wr (aheadP k) w w2 ∧ (aheadP k).Hp e e2
    | .error m => (aheadP k).C m (Sim.errOf (lexT T2 p2)) := by
  rw [he]
  cases lexT T p with
  | ok x => exact ⟨_, _, rfl, ⟨rfl, rfl, rfl, rfl, rfl⟩, rfl⟩
  | error m => exact ⟨_, rfl, rfl, fun _ => rfl⟩
theorem Ahead.parse (h : Ahead T T2 k) (n : Nat) : Sim.Rr (aheadP k) (parseM (lexT T) n) (parseM (lexT T2) n) := by
  refine Sim.parse_r (fun p p2 hp => ahead_at (by rw [show p2 = p + k from hp]; exact h.lex p)) n ?_
  have h0 := ahead_at (p := 0) h.lex0
  unfold adv
  show Sim.Rr _ (match lexT T 0 with | .ok (w, k) => _ | .error m => _) (match lexT T2 0 with | .ok (w, k) => _ | .error m => _)
  revert h0
  generalize lexT T 0 = r
  generalize lexT T2 0 = r2
  intro h0
  cases r with
  | ok x =>
    obtain ⟨w2, e2, rfl, h1, h2⟩ := h0
    exact ⟨_, rfl, h2, h1, rfl⟩
  | error m =>
    cases r2 with
    | ok x => obtain ⟨_, h, _⟩ := h0; cases h
    | error m2 => exact h0
end Go.Proofs.YteoopoabemeanaaGreatDoor
