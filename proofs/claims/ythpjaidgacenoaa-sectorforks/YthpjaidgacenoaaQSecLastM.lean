/- A disk: what a crash leaves. Plain mathematics. -/
import Derived.Test.YthpjaidgacenoaaQSec6
namespace Go.Proofs.Ythpjaidgacenoaa

theorem crash_none (S : List (List Nat)) (W : List (Nat × List Nat)) : crashL S W [] = S := by cases W <;> rfl
/-- A sector that no write waits for is as it was, whatever chance does. -/
theorem crash_far : ∀ (W : List (Nat × List Nat)) (S : List (List Nat)) (F : List Int) (q : Nat), (∀ p ∈ W, p.1 ≠ q) → (crashL S W F).getD q [] = S.getD q []
  | [], _, _, _, _ => rfl
  | _ :: _, _, [], _, _ => rfl
  | p :: W, S, f :: F, q, h => by
    rw [crashL, crash_far W _ F q (fun r hr => h r (by simp [hr])), List.getD_eq_getElem?_getD, List.getElem?_set, if_neg (h p (by simp)), List.getD_eq_getElem?_getD]
theorem done_one : doneN (fateU 1) = 64 := by decide
/-- A crash that keeps all is a sync. -/
theorem crash_all : ∀ (W : List (Nat × List Nat)) (S : List (List Nat)) (n : Nat), (∀ s ∈ S, Sec s) → (∀ p ∈ W, p.1 < S.length ∧ Sec p.2) → W.length ≤ n → crashL S W (List.replicate n 1) = syncL S W
  | [], S, n, _, _, _ => by cases n <;> rfl
  | p :: W, S, 0, _, _, h => by simp at h
  | p :: W, S, n + 1, hs, hw, h => by
    obtain ⟨p1, p2⟩ := hw p (by simp)
    have e : p.2.take 64 ++ (S.getD p.1 []).drop 64 = p.2 := by
      have hd : ((S.getD p.1 []).drop 64) = [] := by
        rw [List.getD_eq_getElem?_getD, List.getElem?_eq_getElem p1]
        exact List.drop_of_length_le (by rw [Option.getD_some, (hs _ (List.getElem_mem p1)).len]; omega)
      rw [hd, List.append_nil, List.take_of_length_le (by rw [p2.len]; omega)]
    rw [List.replicate_succ, crashL, syncL, done_one, e]
    refine crash_all W _ n (fun s h1 => ?_) (fun r hr => ?_) (by rw [List.length_cons] at h; omega)
    · rcases List.mem_or_eq_of_mem_set h1 with h2 | rfl
      · exact hs s h2
      · exact p2
    · rw [List.length_set]
      exact hw r (by simp [hr])
end Go.Proofs.Ythpjaidgacenoaa
