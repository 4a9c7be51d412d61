/- evlog: what a sector is laid with. Plain mathematics. -/
import Derived.Test.YtghajmcohdedlaaMk7
namespace Go.Proofs.Ytghajmcohdedlaa
open Go.RowKit

/-- A sector that is laid. -/
def layE (k : Nat) (b : Bool) (p : List Nat) : List Nat := 231 :: k :: p.length :: (if b = true then 1 else 0) :: (p ++ (List.replicate (59 - p.length) 0 ++ [231]))
theorem layE_sec {k : Nat} {b : Bool} {p : List Nat} (hk : k < 256) (hl : p.length ≤ 59) (hp : ∀ x ∈ p, x < 256) : Sec (layE k b p) := by
  refine ⟨by simp [layE]; omega, fun x hx => ?_⟩
  unfold layE at hx
  simp only [List.mem_cons, List.mem_append, List.mem_replicate, List.not_mem_nil, or_false] at hx
  rcases hx with rfl | rfl | rfl | rfl | h | ⟨_, rfl⟩ | rfl
  · omega
  · exact hk
  · omega
  · split <;> omega
  · exact hp x h
  · omega
  · omega
def payE (s : List Nat) : List Nat := (s.drop 4).take (s.getD 2 0)
def lastE (s : List Nat) : Bool := decide (s.getD 3 0 = 1)
/-- Is a sector good? -/
def goodE (s : List Nat) : Bool := decide (s.length = 64 ∧ s.getD 2 0 ≤ 59 ∧ (1 ≤ s.getD 1 0 ∧ s.getD 1 0 ≤ 3) ∧ (lastE s = true ∨ s.getD 2 0 = 59) ∧ s = layE (s.getD 1 0) (lastE s) (payE s))
theorem payE_len {s : List Nat} (h : s.length = 64) (h2 : s.getD 2 0 ≤ 59) : (payE s).length = s.getD 2 0 := by
  unfold payE
  rw [List.length_take, List.length_drop, h]
  omega
theorem payE_lay {k : Nat} {b : Bool} {p : List Nat} : payE (layE k b p) = p := by
  unfold payE layE
  simp
theorem lastE_lay {k : Nat} {b : Bool} {p : List Nat} : lastE (layE k b p) = b := by
  unfold lastE layE
  cases b <;> simp
theorem goodE_lay {k : Nat} {b : Bool} {p : List Nat} (hk : 1 ≤ k ∧ k ≤ 3) (hl : p.length ≤ 59) (hb : b = true ∨ p.length = 59) : goodE (layE k b p) = true := by
  unfold goodE
  refine decide_eq_true ⟨by simp [layE]; omega, by simpa [layE] using hl, by simpa [layE] using hk, ?_, ?_⟩
  · rw [lastE_lay]
    simpa [layE] using hb
  · rw [lastE_lay, payE_lay]
    rfl
end Go.Proofs.Ytghajmcohdedlaa
