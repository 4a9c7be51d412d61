/- grapevineref12: Same, of two alike rows. -/
import Derived.Test.YteiadaonihgbfaaDoorWh15
namespace Go.Proofs.YteiadaonihgbfaaDoor
open Go.RowKit

/-- A slice of numbers, as it is read. -/
structure IsRd (w : World) (a : Option Addr) (n : Nat) (l : List Nat) : Prop where
  size : l.length = n
  cells : n = 0 ∨ ∃ k, a = some ⟨k, 0, none⟩ ∧ k < w.heap.size ∧ ∀ i, i < n → w.cell? ⟨k, i, none⟩ = some (.int .i64 ((l.getD i 0 : Nat) : Int))
theorem IsRd.of_own {w : World} {base n c : Nat} {a : Option Addr} {l : List Nat} (h : w.ownsRow base 3 1 (.slice a n c) l.length (vi l)) : IsRd w a n l := by
  rcases h.2 with ⟨h1, h2⟩ | ⟨k, c', cur, h1, _⟩
  · simp only [Value.slice.injEq] at h1
    exact ⟨by omega, .inl h1.2.1⟩
  · simp only [Value.slice.injEq] at h1
    obtain ⟨rfl, rfl, rfl⟩ := h1
    refine ⟨rfl, .inr ⟨k, rfl, (h.lt k rfl).2, fun i hi => ?_⟩⟩
    rw [h.cellAt i (by omega), vi, List.getElem?_map, List.getD_eq_getElem?_getD, List.getElem?_eq_getElem hi]
    rfl
theorem IsRd.below {w w' : World} {a : Option Addr} {n : Nat} {l : List Nat} (h : IsRd w a n l) (hb : Below w.heap.size w w') : IsRd w' a n l := by
  refine ⟨h.size, ?_⟩
  rcases h.cells with h0 | ⟨k, h1, h2, h3⟩
  · exact .inl h0
  · refine .inr ⟨k, h1, Nat.lt_of_lt_of_le h2 hb.size, fun i hi => ?_⟩
    rw [hb.cell (p := ⟨k, i, none⟩) h2]
    exact h3 i hi

set_option maxRecDepth 100000 in
set_option maxHeartbeats 2000000 in
theorem ref_Same_alike (w : World) (a b : Option Addr) (n c d : Nat) (l : List Nat) (ha : IsRd w a n l) (hb : IsRd w b n l) (hn : n ≤ 9223372036854775806) :
    Calls Tryd.prog 19 #[.slice a n c, .slice b n d] w fun e w' => e = .returned (.bool true) ∧ ∃ m, w' = w.drewN m := by
  have HA : Hid (IsRd w a n l) := ha
  have HB : Hid (IsRd w b n l) := hb
  clear ha hb
  go_enter Tryd.func19, Tryd.ntmps19
  go_wp2
  go_loopw [5] (fun t5 wr => ∃ (i m : Nat), i ≤ n ∧ t5 = .int .i64 (i : Int) ∧ wr = w.drewN m) (fun t5 _ => n - (intOf t5).toNat)
  case atStart => exact ⟨0, 0, Nat.zero_le _, rfl, rfl⟩
  case round =>
    obtain ⟨i, m, hi, rfl, hwr⟩ := hrel
    have HWR : Hid (wr = w.drewN m) := hwr
    have HBL : Hid (Below w.heap.size w wr) := by show Below _ _ _; rw [hwr]; exact below_drews (Below.refl _ _) m
    clear hwr
    by_cases hlt : i < n
    · have hlt' : (i : Int) < (n : Int) := by omega
      have hi0 : (0 : Int) ≤ (i : Int) := by omega
      obtain ⟨x, hx⟩ : ∃ x, x = l.getD i 0 := ⟨_, rfl⟩
      obtain ⟨ka, rfl, c1⟩ : ∃ k, a = some ⟨k, 0, none⟩ ∧ wr.cell? ⟨k, i, none⟩ = some (.int .i64 (x : Int)) := by
        rcases (HA.out.below HBL.out).cells with h0 | ⟨k, h1, _, h3⟩
        · omega
        · exact ⟨k, h1, by rw [hx]; exact h3 i hlt⟩
      obtain ⟨kb, rfl, c2⟩ : ∃ k, b = some ⟨k, 0, none⟩ ∧ wr.cell? ⟨k, i, none⟩ = some (.int .i64 (x : Int)) := by
        rcases (HB.out.below HBL.out).cells with h0 | ⟨k, h1, _, h3⟩
        · omega
        · exact ⟨k, h1, by rw [hx]; exact h3 i hlt⟩
      clear hx
      go_wp2
      go_quiet (fail)
      generalize hnq : World.drewN _ _ = wq
      have HWQ : Hid (∃ m', wq = w.drewN m') := by rw [← hnq, HWR.out]; exact ⟨_, World.drewN_drewN _ _ _⟩
      clear hnq
      go_wp2
      go_roundw
      case rel => (obtain ⟨m', hm'⟩ := HWQ.out; exact ⟨i + 1, m', by omega, by go_num, hm'⟩)
      case measure => simp [intOf]; omega
    · obtain rfl : i = n := by omega
      have hlt' : ¬ (i : Int) < (i : Int) := by omega
      go_wp2
      go_ret
      exact ⟨rfl, m, HWR.out⟩
end Go.Proofs.YteiadaonihgbfaaDoor
