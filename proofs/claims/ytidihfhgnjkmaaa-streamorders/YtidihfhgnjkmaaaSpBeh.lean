/- span.behind, span.run. -/
import Derived.Test.YtidihfhgnjkmaaaSpanP
namespace Go.Proofs.Ytidihfhgnjkmaaa
open Go.RowKit

set_option maxRecDepth 100000 in
theorem span_behind (a : Option Addr) (n cap : Nat) (l : List Sp) (t : Int) (w W : World) (hr : SpsRd w a n l) (hW : SpsRd W a n l) (hc : n ≤ cap) (hcm : cap ≤ maxLen) : Calls Try.prog 45 #[.slice a n cap, .int .i64 t] w fun e w' => (∃ a' n' c', e = .returned (.slice a' n' c') ∧ Hid (SpsRd w a' n' (behindS l t)) ∧ Hid (SpsRd W a' n' (behindS l t)) ∧ Hid (n' ≤ c' ∧ c' ≤ maxLen)) ∧ w' = w := by
  have HR : Hid (SpsRd w a n l) := hr
  have HW : Hid (SpsRd W a n l) := hW
  have HC : Hid (n ≤ cap ∧ cap ≤ maxLen) := ⟨hc, hcm⟩
  clear hr hW hc hcm
  obtain ⟨m, HM⟩ : ∃ m, Hid (behindS l t = m) := ⟨_, rfl⟩
  rw [HM.out]
  go_enter Try.func45, Try.ntmps45
  go_wp2
  go_loopw [0] (fun t0 wr => ∃ (a' : Option Addr) (n' c' : Nat) (l' : List Sp), t0 = .slice a' n' c' ∧ Hid (SpsRd w a' n' l') ∧ Hid (SpsRd W a' n' l') ∧ Hid (behindS l' t = m) ∧ Hid (n' ≤ c' ∧ c' ≤ maxLen) ∧ wr = w) (fun t0 _ => match t0 with | .slice _ n _ => n | _ => 0)
  case atStart => exact ⟨a, n, cap, l, rfl, HR, HW, HM, HC, rfl⟩
  case round =>
    obtain ⟨a', n', c', l', rfl, HR', HW', HM', HC', rfl⟩ := hrel
    cases l' with
    | nil =>
      have hs := HR'.out.size
      simp only [List.length_nil] at hs
      subst hs
      have HX : Hid (m = []) := HM'.out.symm
      clear HM'
      go_wp2
      go_ret
      exact ⟨⟨a', 0, c', rfl, by show SpsRd _ _ _ _; rw [HX.out]; exact HR'.out, by show SpsRd _ _ _ _; rw [HX.out]; exact HW'.out, HC'⟩, rfl⟩
    | cons q l' =>
      have hs := HR'.out.size
      simp only [List.length_cons] at hs
      have hpos : (0 : Int) < (n' : Int) := by omega
      obtain ⟨g, o, rfl, hg, q', hq, c0, c1, c2⟩ := HR'.out.at_ 0 (by omega)
      simp only [List.getElem?_cons_zero, Option.some.injEq] at hq
      subst hq
      simp only [Nat.zero_mul, Nat.add_zero] at c0 c1 c2
      have hcc := HC'.out
      unfold maxLen at hcc
      obtain ⟨hc1, hc2⟩ := hcc
      by_cases h1 : q.to < t
      · have HX : Hid (behindS l' t = m) := by show _ = _; rw [← HM'.out, behindS, if_pos h1]
        have HT : Hid (SpsRd wr (if c' = 1 then some ⟨g, o, none⟩ else some ⟨g, o + 3, none⟩) (n' - 1) l') := by
          show SpsRd _ _ _ _
          split
          · have : l' = [] := List.length_eq_zero_iff.1 (by omega)
            exact ⟨by omega, .inl this⟩
          · exact HR'.out.tail
        have HT2 : Hid (SpsRd W (if c' = 1 then some ⟨g, o, none⟩ else some ⟨g, o + 3, none⟩) (n' - 1) l') := by
          show SpsRd _ _ _ _
          split
          · have : l' = [] := List.length_eq_zero_iff.1 (by omega)
            exact ⟨by omega, .inl this⟩
          · exact HW'.out.tail
        have HC2 : Hid (n' - 1 ≤ c' - 1 ∧ c' - 1 ≤ maxLen) := ⟨by omega, by unfold maxLen; omega⟩
        clear HM' c0 c2
        go_wp2
        go_roundw
        case rel => exact ⟨_, n' - 1, c' - 1, l', rfl, HT, HT2, HX, HC2, trivial⟩
        case measure => simp only; omega
      · have HX : Hid (m = q :: l') := by show _ = _; rw [← HM'.out, behindS, if_neg h1]
        clear HM' c0 c2
        go_wp2
        go_ret
        exact ⟨⟨_, n', c', rfl, by show SpsRd _ _ _ _; rw [HX.out]; exact HR'.out, by show SpsRd _ _ _ _; rw [HX.out]; exact HW'.out, HC'⟩, rfl⟩

set_option maxRecDepth 100000 in
theorem span_run (a : Option Addr) (n cap : Nat) (l : List Sp) (t : Int) (w : World) (hr : SpsRd w a n l) (hn : n ≤ maxLen) (hs : ∀ q ∈ l, 1 ≤ q.fr ∧ q.fr ≤ 1099511627776) : Calls Try.prog 46 #[.slice a n cap, .int .i64 t] w fun e w' => (∃ r, e = .returned (.agg #[.int .i64 t, .int .i64 r.to, .int .i64 r.is]) ∧ Hid (r = runS l t)) ∧ Below w.heap.size w w' := by
  unfold maxLen at hn
  cases l with
  | nil =>
    have h0 := hr.size
    simp only [List.length_nil] at h0
    subst h0
    have HBX : Hid (Below w.heap.size w (w.alloc (.cells #[.int .i64 t, .int .i64 1099511627776, .int .i64 0] 38))) := below_new _ _
    clear hr hn hs
    go_enter Try.func46, Try.ntmps46
    go_wp2
    go_returns
    exact ⟨⟨⟨t, 1099511627776, 0⟩, rfl, rfl⟩, HBX.out⟩
  | cons q l =>
    have h0 := hr.size
    simp only [List.length_cons] at h0
    obtain ⟨g, o, rfl, hg, q', hq, c0, c1, c2⟩ := hr.at_ 0 (by omega)
    simp only [List.getElem?_cons_zero, Option.some.injEq] at hq
    subst hq
    obtain ⟨s1, s2⟩ := hs q (List.mem_cons_self ..)
    obtain ⟨qf, qt, qi⟩ := q
    simp only [Nat.zero_mul, Nat.add_zero] at c0 c1 c2 s1 s2
    have hz : ¬ ((n : Int) = 0) := by omega
    by_cases h1 : t < qf
    · have HBX : Hid (Below w.heap.size w (w.alloc (.cells #[.int .i64 t, .int .i64 (qf - 1), .int .i64 0] 38))) := below_new _ _
      have HX : Hid ((⟨t, qf - 1, 0⟩ : Sp) = runS (⟨qf, qt, qi⟩ :: l) t) := by
        show _ = _
        rw [runS, if_pos h1]
      clear hr hs
      go_enter Try.func46, Try.ntmps46
      go_wp2
      go_returns
      exact ⟨⟨⟨t, qf - 1, 0⟩, rfl, HX⟩, HBX.out⟩
    · have HBX : Hid (Below w.heap.size w (w.alloc (.cells #[.int .i64 t, .int .i64 qt, .int .i64 qi] 38))) := below_new _ _
      have HX : Hid ((⟨t, qt, qi⟩ : Sp) = runS (⟨qf, qt, qi⟩ :: l) t) := by
        show _ = _
        rw [runS, if_neg h1]
      clear hr hs
      go_enter Try.func46, Try.ntmps46
      go_wp2
      go_region
      all_goals go_wp2
      all_goals go_returns
      all_goals exact ⟨⟨⟨t, qt, qi⟩, rfl, HX⟩, below_drew HBX.out⟩
end Go.Proofs.Ytidihfhgnjkmaaa
