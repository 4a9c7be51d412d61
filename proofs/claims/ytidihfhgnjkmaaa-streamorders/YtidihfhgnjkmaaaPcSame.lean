/- grapevineref13: SameItems, Same of two parcels that read alike. -/
import Derived.Test.YtidihfhgnjkmaaaPcM
import Derived.Test.YtidihfhgnjkmaaaSpRef
import Derived.BigQuiet
namespace Go.Proofs.Ytidihfhgnjkmaaa
open Go.RowKit

set_option maxRecDepth 100000 in
set_option maxHeartbeats 2000000 in
theorem ref_SameItems (a b : Option Addr) (n c d : Nat) (l : List It) (w : World) (ha : ItsRd w a n l) (hb : ItsRd w b n l) (hn : n ≤ maxLen) : Calls Try.prog 10 #[.slice a n c, .slice b n d] w fun e w' => e = .returned (.bool true) ∧ Below w.heap.size w w' := by
  have HA : Hid (ItsRd w a n l) := ha
  have HBB : Hid (ItsRd w b n l) := hb
  unfold maxLen at hn
  clear ha hb
  go_enter Try.func10, Try.ntmps10
  go_wp2
  go_loopw [5] (fun t5 wr => ∃ k : Nat, k ≤ n ∧ t5 = .int .i64 (k : Int) ∧ Hid (Below w.heap.size w wr)) (fun t5 _ => n - (intOf t5).toNat)
  case atStart => exact ⟨0, by omega, rfl, Below.refl _ _⟩
  case round =>
    obtain ⟨k, hk, rfl, HB⟩ := hrel
    by_cases hlt : k < n
    · have hlt' : (k : Int) < (n : Int) := by omega
      have h0k : (0 : Int) ≤ (k : Int) := by omega
      obtain ⟨g, o, rfl, hg, q, hq, c0, c1, ba, bl, bc, c2, hrd, hnc, hbl, hbc⟩ := (HA.out.below HB.out).at_ k hlt
      obtain ⟨g', o', rfl, hg', q', hq', d0, d1, ba', bl', bc', d2, hrd', hnc', hbl', hbc'⟩ := (HBB.out.below HB.out).at_ k hlt
      rw [hq] at hq'
      simp only [Option.some.injEq] at hq'
      subst hq'
      obtain ⟨S, HSS⟩ : ∃ S, Hid (S = str q.body) := ⟨_, rfl⟩
      have x1 : ∀ m, (convert 40 9 (.slice ba bl bc)).run Try.prog (wr.drewN m) = .ok (.string S) (wr.drewN m) := fun m => by rw [conv_rd (hrd.below (below_drews (Below.refl _ _) m)) bc, HSS.out]
      have x2 : ∀ m, (convert 40 9 (.slice ba' bl' bc')).run Try.prog (wr.drewN m) = .ok (.string S) (wr.drewN m) := fun m => by rw [conv_rd (hrd'.below (below_drews (Below.refl _ _) m)) bc', HSS.out]
      obtain ⟨qt, qf, qb⟩ := q
      simp only at c0 c1 d0 d1
      have e1 : (qt == qt) = true := by simp
      have e2 : (qt != qt) = false := by simp
      have e3 : (qf == qf) = true := by simp
      have e4 : (qf != qf) = false := by simp
      clear hrd hrd' hq hnc hnc' hbl hbl' hbc hbc' hg hg'
      go_wp2
      go_quiet (fail)
      generalize hnq : wr.drewN _ = w2
      have HB2 : Hid (Below w.heap.size w w2) := by show Below _ _ _; rw [← hnq]; exact below_drews HB.out _
      clear hnq x1 x2 c0 c1 c2 d0 d1 d2
      go_wp2
      go_roundw
      case rel => exact ⟨k + 1, by omega, by go_num, HB2⟩
      case measure => simp [intOf]; omega
    · have hnl : ¬ (k : Int) < (n : Int) := by omega
      go_wp2
      go_ret
      exact ⟨rfl, HB.out⟩
end Go.Proofs.Ytidihfhgnjkmaaa
