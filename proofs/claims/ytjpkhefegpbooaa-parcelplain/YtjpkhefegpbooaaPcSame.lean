/- grapevineref13: SameItems, Same of two parcels that read alike. -/
import Derived.Test.YtjpkhefegpbooaaPcM
import Derived.Test.YtjpkhefegpbooaaSpRef
import Derived.BigQuiet
namespace Go.Proofs.Ytjpkhefegpbooaa
open Go.RowKit

set_option maxRecDepth 100000 in
set_option maxHeartbeats 2000000 in
theorem ref_SameItems (a b : Option Addr) (n c d : Nat) (l : List It) (w : World) (ha : ItsRd w a n l) (hb : ItsRd w b n l) (hn : n ≤ maxLen) : Calls Try.prog 31 #[.slice a n c, .slice b n d] w fun e w' => e = .returned (.bool true) ∧ Below w.heap.size w w' := by
  have HA : Hid (ItsRd w a n l) := ha
  have HBB : Hid (ItsRd w b n l) := hb
  unfold maxLen at hn
  clear ha hb
  go_enter Try.func31, Try.ntmps31
  go_wp2
  go_loopw [5] (fun t5 wr => ∃ k : Nat, k ≤ n ∧ t5 = .int .i64 (k : Int) ∧ Hid (Below w.heap.size w wr)) (fun t5 _ => n - (intOf t5).toNat)
  case atStart => exact ⟨0, by omega, rfl, Below.refl _ _⟩
  case round =>
    obtain ⟨k, hk, rfl, HB⟩ := hrel
    by_cases hlt : k < n
    · have hlt' : (k : Int) < (n : Int) := by omega
      have h0k : (0 : Int) ≤ (k : Int) := by omega
      obtain ⟨g, o, rfl, hg, q, hq, c0, c1, ba, bl, bc, c2, hrd, hnc, hbl, hbc⟩ := (HA.out.below HB.out).at_ k hlt
      obtain ⟨g', o', rfl, hg', q', hq', d0, d1, ba', bl', bc', d2, hrd', hnc', hbl', hbc'⟩ := (HBB.out.below HB.out).at_ k hlt
      rw [hq] at hq'
      simp only [Option.some.injEq] at hq'
      subst hq'
      obtain ⟨S, HSS⟩ : ∃ S, Hid (S = str q.body) := ⟨_, rfl⟩
      have x1 : ∀ m, (convert 34 9 (.slice ba bl bc)).run Try.prog (wr.drewN m) = .ok (.string S) (wr.drewN m) := fun m => by rw [conv_rd (hrd.below (below_drews (Below.refl _ _) m)) bc, HSS.out]
      have x2 : ∀ m, (convert 34 9 (.slice ba' bl' bc')).run Try.prog (wr.drewN m) = .ok (.string S) (wr.drewN m) := fun m => by rw [conv_rd (hrd'.below (below_drews (Below.refl _ _) m)) bc', HSS.out]
      obtain ⟨qt, qf, qb⟩ := q
      simp only at c0 c1 d0 d1
      have e1 : (qt == qt) = true := by simp
      have e2 : (qt != qt) = false := by simp
      have e3 : (qf == qf) = true := by simp
      have e4 : (qf != qf) = false := by simp
      clear hrd hrd' hq hnc hnc' hbl hbl' hbc hbc' hg hg'
      go_wp2
      go_quiet (fail)
      generalize hnq : wr.drewN _ = w2
      have HB2 : Hid (Below w.heap.size w w2) := by show Below _ _ _; rw [← hnq]; exact below_drews HB.out _
      clear hnq x1 x2 c0 c1 c2 d0 d1 d2
      go_wp2
      go_roundw
      case rel => exact ⟨k + 1, by omega, by go_num, HB2⟩
      case measure => simp [intOf]; omega
    · have hnl : ¬ (k : Int) < (n : Int) := by omega
      go_wp2
      go_ret
      exact ⟨rfl, HB.out⟩
set_option maxRecDepth 100000 in
set_option maxHeartbeats 2000000 in
theorem ref_Same13 (p : Pc) (sa : Option Addr) (sn sc : Nat) (ia : Option Addr) (im ic : Nat) (ta : Option Addr) (tn tc : Nat) (ja : Option Addr) (jm jc : Nat) (w : World) (h1 : PcRd w p sa sn sc ia im ic) (h2 : PcRd w p ta tn tc ja jm jc) : Calls Try.prog 13 #[p.val sa sn sc ia im ic, p.val ta tn tc ja jm jc] w fun e w' => e = .returned (.bool true) ∧ Below w.heap.size w w' := by
  have H1 : Hid (PcRd w p sa sn sc ia im ic) := h1
  have H2 : Hid (PcRd w p ta tn tc ja jm jc) := h2
  have e1 : im = jm := by rw [← h1.items.size, ← h2.items.size]
  subst e1
  clear h1 h2
  obtain ⟨pk, pp, ps, pn, pf, pt, pl, pi⟩ := p
  unfold Pc.val
  simp only
  have HB : Hid (Below w.heap.size w ((w.alloc (.cells #[.int .i64 pk, .int .i64 pp, .int .i64 ps, .int .i64 pn, .int .i64 pf, .int .i64 pt, .slice sa sn sc, .slice ia im ic] 26)).alloc (.cells #[.int .i64 pk, .int .i64 pp, .int .i64 ps, .int .i64 pn, .int .i64 pf, .int .i64 pt, .slice ta tn tc, .slice ja im jc] 26))) := (below_new w _).alloc (by simp) _
  have k0 : (pk == pk) = true := by simp
  have k1 : (pp == pp) = true := by simp
  have k2 : (ps == ps) = true := by simp
  have k3 : (pn == pn) = true := by simp
  have k4 : (pf == pf) = true := by simp
  have k5 : (pt == pt) = true := by simp
  go_enter Try.func13, Try.ntmps13
  go_wp2_with fail
  refine (ref_Same sa ta sn sc tn tc pl pl _ (H1.out.spans.below HB.out) (H2.out.spans.below HB.out) (Nat.le_trans H1.out.sl H1.out.sm)).mono ?_
  rw [sameB_refl]
  rintro e w1 ⟨rfl, hb1⟩
  have hk1 : Bk ((w.alloc (.cells #[.int .i64 pk, .int .i64 pp, .int .i64 ps, .int .i64 pn, .int .i64 pf, .int .i64 pt, .slice sa sn sc, .slice ia im ic] 26)).alloc (.cells #[.int .i64 pk, .int .i64 pp, .int .i64 ps, .int .i64 pn, .int .i64 pf, .int .i64 pt, .slice ta tn tc, .slice ja im jc] 26)) w.heap.size #[.int .i64 pk, .int .i64 pp, .int .i64 ps, .int .i64 pn, .int .i64 pf, .int .i64 pt, .slice sa sn sc, .slice ia im ic] 26 := (Bk.new w _ _).stay (below_new _ _)
  have hk2 : Bk ((w.alloc (.cells #[.int .i64 pk, .int .i64 pp, .int .i64 ps, .int .i64 pn, .int .i64 pf, .int .i64 pt, .slice sa sn sc, .slice ia im ic] 26)).alloc (.cells #[.int .i64 pk, .int .i64 pp, .int .i64 ps, .int .i64 pn, .int .i64 pf, .int .i64 pt, .slice ta tn tc, .slice ja im jc] 26)) (w.heap.size + 1) #[.int .i64 pk, .int .i64 pp, .int .i64 ps, .int .i64 pn, .int .i64 pf, .int .i64 pt, .slice ta tn tc, .slice ja im jc] 26 := by
    have h := Bk.new (w.alloc (.cells #[.int .i64 pk, .int .i64 pp, .int .i64 ps, .int .i64 pn, .int .i64 pf, .int .i64 pt, .slice sa sn sc, .slice ia im ic] 26)) #[.int .i64 pk, .int .i64 pp, .int .i64 ps, .int .i64 pn, .int .i64 pf, .int .i64 pt, .slice ta tn tc, .slice ja im jc] 26
    rwa [show (w.alloc (.cells #[.int .i64 pk, .int .i64 pp, .int .i64 ps, .int .i64 pn, .int .i64 pf, .int .i64 pt, .slice sa sn sc, .slice ia im ic] 26)).heap.size = w.heap.size + 1 from by simp] at h
  have c7 : w1.cell? ⟨w.heap.size, 7, none⟩ = some (.slice ia im ic) := (hk1.stay hb1).cell 7 rfl
  have d7 : w1.cell? ⟨w.heap.size + 1, 7, none⟩ = some (.slice ja im jc) := (hk2.stay hb1).cell 7 rfl
  have HB1 : Hid (Below w.heap.size w w1) := HB.out.trans (hb1.mono HB.out.size)
  clear hb1 hk1 hk2
  go_wp2_with fail
  refine (ref_SameItems ia ja im ic jc pi w1 (H1.out.items.below HB1.out) (H2.out.items.below HB1.out) (Nat.le_trans H1.out.il H1.out.im_)).mono ?_
  rintro e w2 ⟨rfl, hb2⟩
  have HB2 : Hid (Below w.heap.size w w2) := HB1.out.trans (hb2.mono HB1.out.size)
  clear hb2
  go_wp2
  go_ret
  exact ⟨rfl, HB2.out⟩
end Go.Proofs.Ytjpkhefegpbooaa
