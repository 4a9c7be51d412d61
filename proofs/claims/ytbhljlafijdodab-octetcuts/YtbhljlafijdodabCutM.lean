/- What is cut short is told: plain mathematics of numbers, texts and parts. -/
import Derived.Test.YtbhljlafijdodabJoinBackM
import Derived.Test.YtbhljlafijdodabKeyMath
import Derived.Test.YtbhljlafijdodabCutL
namespace Go.Proofs.Ytbhljlafijdodab

namespace JoinM
theorem takes_cut (l : List (List Nat)) : ∀ (pre : List Nat) (k : Nat), (∀ b ∈ l, b.length ≤ 4096) → k < (body l).length → takes (pre ++ (body l).take k) l.length pre.length = ([], 0, 3) := by
  induction l with
  | nil => intro pre k _ hk; simp [body] at hk
  | cons b l ih =>
    intro pre k h hk
    have hb := h b (by simp)
    have eb : body (b :: l) = one b ++ body l := by simp [body]
    by_cases hc : k < (one b).length
    · rw [eb, List.take_append_of_le_length (by omega), List.length_cons]
      exact takes_bad _ _ _ _ _ 3 (range_cut b pre 4096 k hb (by omega) hc) (by omega)
    · have e : (one b ++ body l).take k = one b ++ (body l).take (k - (one b).length) := by
        rw [List.take_append, List.take_of_length_le (by omega)]
      have hr := range_put b pre ((body l).take (k - (one b).length)) hb
      have e2 : pre ++ (one b ++ (body l).take (k - (one b).length)) = pre ++ (Leb.leb b.length ++ b) ++ (body l).take (k - (one b).length) := by simp [one]
      rw [eb, e, List.length_cons, e2, takes_ok _ _ _ _ _ hr]
      have hl : pre.length + (Leb.leb b.length).length + b.length = (pre ++ (Leb.leb b.length ++ b)).length := by simp; omega
      rw [hl, ih _ _ (fun c hc => h c (by simp [hc])) ?_]
      · exact comb_bad _ 3 (by omega)
      · rw [eb, List.length_append] at hk
        omega
/-- Joined parts, cut short: the number is none, or the parts are. -/
theorem join_cut (l : List (List Nat)) (k : Nat) (hn : l.length ≤ 64) (h : ∀ b ∈ l, b.length ≤ 4096) (hk : k < (join l).length) :
    Leb.take ((join l).take k) 0 = (0, 0, 3) ∨ (Leb.take ((join l).take k) 0 = (l.length, (Leb.leb l.length).length, 0) ∧ takes ((join l).take k) l.length (Leb.leb l.length).length = ([], 0, 3)) := by
  by_cases hc : k < (Leb.leb l.length).length
  · left
    have := Leb.take_cut l.length (by omega) [] k hc
    rw [join, List.take_append_of_le_length (by omega)]
    exact this
  · right
    have e : (join l).take k = Leb.leb l.length ++ (body l).take (k - (Leb.leb l.length).length) := by
      rw [join, List.take_append, List.take_of_length_le (by omega)]
    have h1 := Leb.take_put l.length (by omega) [] ((body l).take (k - (Leb.leb l.length).length))
    rw [e]
    refine ⟨by simpa using h1, takes_cut l _ _ h ?_⟩
    rw [join, List.length_append] at hk
    omega
end JoinM

theorem key_cut (u k : Nat) (hk : k < 8) : KeyM.take ((KeyM.key u).take k) 0 = (0, 0, 3) := by
  have hl : (KeyM.key u).length = 8 := rfl
  unfold KeyM.take
  rw [if_neg (by simp only [List.length_take]; omega), if_pos (by simp only [List.length_take]; omega)]
theorem text_cut (s : ByteArray) (hs : s.size ≤ 200) (k : Nat) (hk : k < (Leb.leb s.size).length + s.size) : textAt ((Leb.leb s.size ++ bytesOf s).take k) 0 = ([], 0, 3) := by
  have hbl := bytesOf_length s
  have h := range_cut (bytesOf s) [] 200 k (by omega) (by omega) (by rw [hbl, List.length_append]; omega)
  rw [hbl] at h
  unfold textAt
  rw [show range ((Leb.leb s.size ++ bytesOf s).take k) 0 200 = (0, 0, 3) from h]
  rfl
theorem int_cut (n : Nat) (hn : n < 18446744073709551616) (k : Nat) (hk : k < (Leb.leb n).length) : Leb.take ((Leb.leb n).take k) 0 = (0, 0, 3) := Leb.take_cut n hn [] k hk

end Go.Proofs.Ytbhljlafijdodab
