/- A pack of texts: PcSame PlR PlT PlU. -/
import Derived.Test.YtbloomepdchjhaaDoorSpanP
import Derived.Test.YtbloomepdchjhaaDoorSpR
import Derived.BigQuiet
import Derived.Test.YtbloomepdchjhaaDoorPcQ
import Derived.Test.YtbloomepdchjhaaDoorLkA
import Derived.Test.YtbloomepdchjhaaDoorLbQ
import Derived.Test.YtbloomepdchjhaaDoorSealP
import Derived.Deep.RegionHeld3
import Derived.Test.YtbloomepdchjhaaDoorPpP
/- grapevineref13: SameItems, Same of two parcels that read alike. -/
namespace Go.Proofs.YtbloomepdchjhaaDoor
open Go.RowKit

set_option maxRecDepth 100000 in
set_option maxHeartbeats 2000000 in
theorem ref_SameItems (a b : Option Addr) (n c d : Nat) (l : List It) (w : World) (ha : ItsRd w a n l) (hb : ItsRd w b n l) (hn : n ≤ maxLen) : Calls Tryd.prog 26 #[.slice a n c, .slice b n d] w fun e w' => e = .returned (.bool true) ∧ Below w.heap.size w w' := by
  have HA : Hid (ItsRd w a n l) := ha
  have HBB : Hid (ItsRd w b n l) := hb
  unfold maxLen at hn
  clear ha hb
  go_enter Tryd.func26, Tryd.ntmps26
  go_wp2
  go_loopw [5] (fun t5 wr => ∃ k : Nat, k ≤ n ∧ t5 = .int .i64 (k : Int) ∧ Hid (Below w.heap.size w wr)) (fun t5 _ => n - (intOf t5).toNat)
  case atStart => exact ⟨0, by omega, rfl, Below.refl _ _⟩
  case round =>
    obtain ⟨k, hk, rfl, HB⟩ := hrel
    by_cases hlt : k < n
    · have hlt' : (k : Int) < (n : Int) := by omega
      have h0k : (0 : Int) ≤ (k : Int) := by omega
      obtain ⟨g, o, rfl, hg, q, hq, c0, c1, ba, bl, bc, c2, hrd, hnc, hbl, hbc⟩ := (HA.out.below HB.out).at_ k hlt
      obtain ⟨g', o', rfl, hg', q', hq', d0, d1, ba', bl', bc', d2, hrd', hnc', hbl', hbc'⟩ := (HBB.out.below HB.out).at_ k hlt
      rw [hq] at hq'
      simp only [Option.some.injEq] at hq'
      subst hq'
      obtain ⟨S, HSS⟩ : ∃ S, Hid (S = str q.body) := ⟨_, rfl⟩
      have x1 : ∀ m, (convert 42 9 (.slice ba bl bc)).run Tryd.prog (wr.drewN m) = .ok (.string S) (wr.drewN m) := fun m => by rw [conv_rd (hrd.below (below_drews (Below.refl _ _) m)) bc, HSS.out]
      have x2 : ∀ m, (convert 42 9 (.slice ba' bl' bc')).run Tryd.prog (wr.drewN m) = .ok (.string S) (wr.drewN m) := fun m => by rw [conv_rd (hrd'.below (below_drews (Below.refl _ _) m)) bc', HSS.out]
      obtain ⟨qt, qf, qb⟩ := q
      simp only at c0 c1 d0 d1
      have e1 : (qt == qt) = true := by simp
      have e2 : (qt != qt) = false := by simp
      have e3 : (qf == qf) = true := by simp
      have e4 : (qf != qf) = false := by simp
      clear hrd hrd' hq hnc hnc' hbl hbl' hbc hbc' hg hg'
      go_wp2
      go_quiet (fail)
      generalize hnq : wr.drewN _ = w2
      have HB2 : Hid (Below w.heap.size w w2) := by show Below _ _ _; rw [← hnq]; exact below_drews HB.out _
      clear hnq x1 x2 c0 c1 c2 d0 d1 d2
      go_wp2
      go_roundw
      case rel => exact ⟨k + 1, by omega, by go_num, HB2⟩
      case measure => simp [intOf]; omega
    · have hnl : ¬ (k : Int) < (n : Int) := by omega
      go_wp2
      go_ret
      exact ⟨rfl, HB.out⟩
set_option maxRecDepth 100000 in
set_option maxHeartbeats 2000000 in
theorem ref_Same13 (p : Pc) (sa : Option Addr) (sn sc : Nat) (ia : Option Addr) (im ic : Nat) (ta : Option Addr) (tn tc : Nat) (ja : Option Addr) (jm jc : Nat) (w : World) (h1 : PcRd w p sa sn sc ia im ic) (h2 : PcRd w p ta tn tc ja jm jc) : Calls Tryd.prog 11 #[p.val sa sn sc ia im ic, p.val ta tn tc ja jm jc] w fun e w' => e = .returned (.bool true) ∧ Below w.heap.size w w' := by
  have H1 : Hid (PcRd w p sa sn sc ia im ic) := h1
  have H2 : Hid (PcRd w p ta tn tc ja jm jc) := h2
  have e1 : im = jm := by rw [← h1.items.size, ← h2.items.size]
  subst e1
  clear h1 h2
  obtain ⟨pk, pp, ps, pn, pf, pt, pl, pi⟩ := p
  unfold Pc.val
  simp only
  have HB : Hid (Below w.heap.size w ((w.alloc (.cells #[.int .i64 pk, .int .i64 pp, .int .i64 ps, .int .i64 pn, .int .i64 pf, .int .i64 pt, .slice sa sn sc, .slice ia im ic] 37)).alloc (.cells #[.int .i64 pk, .int .i64 pp, .int .i64 ps, .int .i64 pn, .int .i64 pf, .int .i64 pt, .slice ta tn tc, .slice ja im jc] 37))) := (below_new w _).alloc (by simp) _
  have k0 : (pk == pk) = true := by simp
  have k1 : (pp == pp) = true := by simp
  have k2 : (ps == ps) = true := by simp
  have k3 : (pn == pn) = true := by simp
  have k4 : (pf == pf) = true := by simp
  have k5 : (pt == pt) = true := by simp
  go_enter Tryd.func11, Tryd.ntmps11
  go_wp2_with fail
  refine (ref_Same sa ta sn sc tn tc pl pl _ (H1.out.spans.below HB.out) (H2.out.spans.below HB.out) (Nat.le_trans H1.out.sl H1.out.sm)).mono ?_
  rw [sameB_refl]
  rintro e w1 ⟨rfl, hb1⟩
  have hk1 : Bk ((w.alloc (.cells #[.int .i64 pk, .int .i64 pp, .int .i64 ps, .int .i64 pn, .int .i64 pf, .int .i64 pt, .slice sa sn sc, .slice ia im ic] 37)).alloc (.cells #[.int .i64 pk, .int .i64 pp, .int .i64 ps, .int .i64 pn, .int .i64 pf, .int .i64 pt, .slice ta tn tc, .slice ja im jc] 37)) w.heap.size #[.int .i64 pk, .int .i64 pp, .int .i64 ps, .int .i64 pn, .int .i64 pf, .int .i64 pt, .slice sa sn sc, .slice ia im ic] 37 := (Bk.new w _ _).stay (below_new _ _)
  have hk2 : Bk ((w.alloc (.cells #[.int .i64 pk, .int .i64 pp, .int .i64 ps, .int .i64 pn, .int .i64 pf, .int .i64 pt, .slice sa sn sc, .slice ia im ic] 37)).alloc (.cells #[.int .i64 pk, .int .i64 pp, .int .i64 ps, .int .i64 pn, .int .i64 pf, .int .i64 pt, .slice ta tn tc, .slice ja im jc] 37)) (w.heap.size + 1) #[.int .i64 pk, .int .i64 pp, .int .i64 ps, .int .i64 pn, .int .i64 pf, .int .i64 pt, .slice ta tn tc, .slice ja im jc] 37 := by
    have h := Bk.new (w.alloc (.cells #[.int .i64 pk, .int .i64 pp, .int .i64 ps, .int .i64 pn, .int .i64 pf, .int .i64 pt, .slice sa sn sc, .slice ia im ic] 37)) #[.int .i64 pk, .int .i64 pp, .int .i64 ps, .int .i64 pn, .int .i64 pf, .int .i64 pt, .slice ta tn tc, .slice ja im jc] 37
    rwa [show (w.alloc (.cells #[.int .i64 pk, .int .i64 pp, .int .i64 ps, .int .i64 pn, .int .i64 pf, .int .i64 pt, .slice sa sn sc, .slice ia im ic] 37)).heap.size = w.heap.size + 1 from by simp] at h
  have c7 : w1.cell? ⟨w.heap.size, 7, none⟩ = some (.slice ia im ic) := (hk1.stay hb1).cell 7 rfl
  have d7 : w1.cell? ⟨w.heap.size + 1, 7, none⟩ = some (.slice ja im jc) := (hk2.stay hb1).cell 7 rfl
  have HB1 : Hid (Below w.heap.size w w1) := HB.out.trans (hb1.mono HB.out.size)
  clear hb1 hk1 hk2
  go_wp2_with fail
  refine (ref_SameItems ia ja im ic jc pi w1 (H1.out.items.below HB1.out) (H2.out.items.below HB1.out) (Nat.le_trans H1.out.il H1.out.im_)).mono ?_
  rintro e w2 ⟨rfl, hb2⟩
  have HB2 : Hid (Below w.heap.size w w2) := HB1.out.trans (hb2.mono HB1.out.size)
  clear hb2
  go_wp2
  go_ret
  exact ⟨rfl, HB2.out⟩
end Go.Proofs.YtbloomepdchjhaaDoor
/- grapevineref13.Plain of every kind but Tell, and of none. -/
namespace Go.Proofs.YtbloomepdchjhaaDoor
open Go.RowKit

set_option maxRecDepth 100000 in
set_option maxHeartbeats 2000000 in
theorem ref_Plain_bad (pk pp ps pn pf pt : Int) (pl : List Sp) (pi : List It) (sa : Option Addr) (sn sc : Nat) (ia : Option Addr) (im ic : Nat) (w : World) (hk : isB pk = false) : Calls Tryd.prog 8 #[Pc.val ⟨pk, pp, ps, pn, pf, pt, pl, pi⟩ sa sn sc ia im ic] w fun e w' => e = .returned (Pc.val ⟨pk, 0, 0, 0, 0, 0, [], []⟩ none 0 0 none 0 0) ∧ Below w.heap.size w w' := by
  have HB : ∀ o o1 o2, Hid (Below w.heap.size w (((w.alloc o).alloc o1).alloc o2)) := fun o o1 o2 => ((below_new w _).alloc (by simp) _).alloc (by simp; omega) _
  have HTO : Hid (toB pk = false) := (bad_kind hk).2.2.1
  have HSU : Hid (subB pk = false) := (bad_kind hk).1
  have HFR : Hid (fromB pk = false) := (bad_kind hk).2.1
  have hk1 : ¬ pk = 1 := by have := hk; simp only [isB, decide_eq_false_iff_not] at this; omega
  have hk2 : (pk == 1) = false := by simpa using hk1
  clear hk
  unfold Pc.val
  simp only
  go_enter Tryd.func8, Tryd.ntmps8
  go_wp2_with fail
  refine (ref_ranged pk _).mono ?_
  rw [HTO.out]
  rintro e w' ⟨rfl, rfl⟩
  go_wp2_with fail
  refine (ref_named pk _).mono ?_
  rw [HSU.out]
  rintro e w' ⟨rfl, rfl⟩
  go_wp2_with fail
  refine (ref_named pk _).mono ?_
  rw [HSU.out]
  rintro e w' ⟨rfl, rfl⟩
  go_wp2_with fail
  refine (ref_from pk _).mono ?_
  rw [HFR.out]
  rintro e w' ⟨rfl, rfl⟩
  go_wp2_with fail
  refine (ref_ranged pk _).mono ?_
  rw [HTO.out]
  rintro e w' ⟨rfl, rfl⟩
  go_wp2
  go_returns
  exact ⟨rfl, (HB _ _ _).out⟩

set_option maxRecDepth 100000 in
set_option maxHeartbeats 2000000 in
theorem ref_Plain_2 (pp ps pn pf pt : Int) (pl : List Sp) (pi : List It) (sa : Option Addr) (sn sc : Nat) (ia : Option Addr) (im ic : Nat) (w : World) : Calls Tryd.prog 8 #[Pc.val ⟨2, pp, ps, pn, pf, pt, pl, pi⟩ sa sn sc ia im ic] w fun e w' => e = .returned (Pc.val ⟨2, pp, 0, 0, pf, pt, [], []⟩ none 0 0 none 0 0) ∧ Below w.heap.size w w' := by
  have HB : ∀ o o1 o2, Hid (Below w.heap.size w (((w.alloc o).alloc o1).alloc o2)) := fun o o1 o2 => ((below_new w _).alloc (by simp) _).alloc (by simp; omega) _
  have HTO : Hid (toB 2 = true) := rfl
  have HSU : Hid (subB 2 = false) := rfl
  have HFR : Hid (fromB 2 = true) := rfl
  unfold Pc.val
  simp only
  go_enter Tryd.func8, Tryd.ntmps8
  go_wp2_with fail
  refine (ref_ranged 2 _).mono ?_
  rw [HTO.out]
  rintro e w' ⟨rfl, rfl⟩
  go_wp2_with fail
  refine (ref_named 2 _).mono ?_
  rw [HSU.out]
  rintro e w' ⟨rfl, rfl⟩
  go_wp2_with fail
  refine (ref_from 2 _).mono ?_
  rw [HFR.out]
  rintro e w' ⟨rfl, rfl⟩
  go_wp2_with fail
  refine (ref_ranged 2 _).mono ?_
  rw [HTO.out]
  rintro e w' ⟨rfl, rfl⟩
  go_wp2
  go_returns
  exact ⟨rfl, (HB _ _ _).out⟩

set_option maxRecDepth 100000 in
set_option maxHeartbeats 2000000 in
theorem ref_Plain_3 (pp ps pn pf pt : Int) (pl : List Sp) (pi : List It) (sa : Option Addr) (sn sc : Nat) (ia : Option Addr) (im ic : Nat) (w : World) : Calls Tryd.prog 8 #[Pc.val ⟨3, pp, ps, pn, pf, pt, pl, pi⟩ sa sn sc ia im ic] w fun e w' => e = .returned (Pc.val ⟨3, pp, ps, pn, pf, 0, [], []⟩ none 0 0 none 0 0) ∧ Below w.heap.size w w' := by
  have HB : ∀ o o1 o2, Hid (Below w.heap.size w (((w.alloc o).alloc o1).alloc o2)) := fun o o1 o2 => ((below_new w _).alloc (by simp) _).alloc (by simp; omega) _
  have HTO : Hid (toB 3 = false) := rfl
  have HSU : Hid (subB 3 = true) := rfl
  have HFR : Hid (fromB 3 = true) := rfl
  unfold Pc.val
  simp only
  go_enter Tryd.func8, Tryd.ntmps8
  go_wp2_with fail
  refine (ref_ranged 3 _).mono ?_
  rw [HTO.out]
  rintro e w' ⟨rfl, rfl⟩
  go_wp2_with fail
  refine (ref_named 3 _).mono ?_
  rw [HSU.out]
  rintro e w' ⟨rfl, rfl⟩
  go_wp2_with fail
  refine (ref_named 3 _).mono ?_
  rw [HSU.out]
  rintro e w' ⟨rfl, rfl⟩
  go_wp2_with fail
  refine (ref_from 3 _).mono ?_
  rw [HFR.out]
  rintro e w' ⟨rfl, rfl⟩
  go_wp2_with fail
  refine (ref_ranged 3 _).mono ?_
  rw [HTO.out]
  rintro e w' ⟨rfl, rfl⟩
  go_wp2
  go_returns
  exact ⟨rfl, (HB _ _ _).out⟩

set_option maxRecDepth 100000 in
set_option maxHeartbeats 2000000 in
theorem ref_Plain_4 (pp ps pn pf pt : Int) (pl : List Sp) (pi : List It) (sa : Option Addr) (sn sc : Nat) (ia : Option Addr) (im ic : Nat) (w : World) : Calls Tryd.prog 8 #[Pc.val ⟨4, pp, ps, pn, pf, pt, pl, pi⟩ sa sn sc ia im ic] w fun e w' => e = .returned (Pc.val ⟨4, pp, ps, pn, 0, 0, [], []⟩ none 0 0 none 0 0) ∧ Below w.heap.size w w' := by
  have HB : ∀ o o1 o2, Hid (Below w.heap.size w (((w.alloc o).alloc o1).alloc o2)) := fun o o1 o2 => ((below_new w _).alloc (by simp) _).alloc (by simp; omega) _
  have HTO : Hid (toB 4 = false) := rfl
  have HSU : Hid (subB 4 = true) := rfl
  have HFR : Hid (fromB 4 = false) := rfl
  unfold Pc.val
  simp only
  go_enter Tryd.func8, Tryd.ntmps8
  go_wp2_with fail
  refine (ref_ranged 4 _).mono ?_
  rw [HTO.out]
  rintro e w' ⟨rfl, rfl⟩
  go_wp2_with fail
  refine (ref_named 4 _).mono ?_
  rw [HSU.out]
  rintro e w' ⟨rfl, rfl⟩
  go_wp2_with fail
  refine (ref_named 4 _).mono ?_
  rw [HSU.out]
  rintro e w' ⟨rfl, rfl⟩
  go_wp2_with fail
  refine (ref_from 4 _).mono ?_
  rw [HFR.out]
  rintro e w' ⟨rfl, rfl⟩
  go_wp2_with fail
  refine (ref_ranged 4 _).mono ?_
  rw [HTO.out]
  rintro e w' ⟨rfl, rfl⟩
  go_wp2
  go_returns
  exact ⟨rfl, (HB _ _ _).out⟩

set_option maxRecDepth 100000 in
set_option maxHeartbeats 2000000 in
theorem ref_Plain_5 (pp ps pn pf pt : Int) (pl : List Sp) (pi : List It) (sa : Option Addr) (sn sc : Nat) (ia : Option Addr) (im ic : Nat) (w : World) : Calls Tryd.prog 8 #[Pc.val ⟨5, pp, ps, pn, pf, pt, pl, pi⟩ sa sn sc ia im ic] w fun e w' => e = .returned (Pc.val ⟨5, pp, ps, pn, pf, 0, [], []⟩ none 0 0 none 0 0) ∧ Below w.heap.size w w' := by
  have HB : ∀ o o1 o2, Hid (Below w.heap.size w (((w.alloc o).alloc o1).alloc o2)) := fun o o1 o2 => ((below_new w _).alloc (by simp) _).alloc (by simp; omega) _
  have HTO : Hid (toB 5 = false) := rfl
  have HSU : Hid (subB 5 = true) := rfl
  have HFR : Hid (fromB 5 = true) := rfl
  unfold Pc.val
  simp only
  go_enter Tryd.func8, Tryd.ntmps8
  go_wp2_with fail
  refine (ref_ranged 5 _).mono ?_
  rw [HTO.out]
  rintro e w' ⟨rfl, rfl⟩
  go_wp2_with fail
  refine (ref_named 5 _).mono ?_
  rw [HSU.out]
  rintro e w' ⟨rfl, rfl⟩
  go_wp2_with fail
  refine (ref_named 5 _).mono ?_
  rw [HSU.out]
  rintro e w' ⟨rfl, rfl⟩
  go_wp2_with fail
  refine (ref_from 5 _).mono ?_
  rw [HFR.out]
  rintro e w' ⟨rfl, rfl⟩
  go_wp2_with fail
  refine (ref_ranged 5 _).mono ?_
  rw [HTO.out]
  rintro e w' ⟨rfl, rfl⟩
  go_wp2
  go_returns
  exact ⟨rfl, (HB _ _ _).out⟩

set_option maxRecDepth 100000 in
set_option maxHeartbeats 2000000 in
theorem ref_Plain_6 (pp ps pn pf pt : Int) (pl : List Sp) (pi : List It) (sa : Option Addr) (sn sc : Nat) (ia : Option Addr) (im ic : Nat) (w : World) : Calls Tryd.prog 8 #[Pc.val ⟨6, pp, ps, pn, pf, pt, pl, pi⟩ sa sn sc ia im ic] w fun e w' => e = .returned (Pc.val ⟨6, pp, ps, pn, 0, 0, [], []⟩ none 0 0 none 0 0) ∧ Below w.heap.size w w' := by
  have HB : ∀ o o1 o2, Hid (Below w.heap.size w (((w.alloc o).alloc o1).alloc o2)) := fun o o1 o2 => ((below_new w _).alloc (by simp) _).alloc (by simp; omega) _
  have HTO : Hid (toB 6 = false) := rfl
  have HSU : Hid (subB 6 = true) := rfl
  have HFR : Hid (fromB 6 = false) := rfl
  unfold Pc.val
  simp only
  go_enter Tryd.func8, Tryd.ntmps8
  go_wp2_with fail
  refine (ref_ranged 6 _).mono ?_
  rw [HTO.out]
  rintro e w' ⟨rfl, rfl⟩
  go_wp2_with fail
  refine (ref_named 6 _).mono ?_
  rw [HSU.out]
  rintro e w' ⟨rfl, rfl⟩
  go_wp2_with fail
  refine (ref_named 6 _).mono ?_
  rw [HSU.out]
  rintro e w' ⟨rfl, rfl⟩
  go_wp2_with fail
  refine (ref_from 6 _).mono ?_
  rw [HFR.out]
  rintro e w' ⟨rfl, rfl⟩
  go_wp2_with fail
  refine (ref_ranged 6 _).mono ?_
  rw [HTO.out]
  rintro e w' ⟨rfl, rfl⟩
  go_wp2
  go_returns
  exact ⟨rfl, (HB _ _ _).out⟩

end Go.Proofs.YtbloomepdchjhaaDoor
/- grapevineref13.Plain of a Tell; of every kind. -/
namespace Go.Proofs.YtbloomepdchjhaaDoor
open Go.RowKit

/-- What Plain tells: a parcel in memory of its own. -/
def PlainTold (w w' : World) (q : Pc) (e : Ending) : Prop := ∃ sa sn sc ia im ic L, e = .returned (q.val sa sn sc ia im ic) ∧ Sps w' w.heap.size (.slice sa sn sc) q.spans ∧ Its w' w.heap.size (.slice ia im ic) L ∧ L.map Prod.fst = q.items
theorem cell_away (w : World) (p : Addr) (v : Value) (q : Addr) (h : q.block ≠ p.block) : (w.setCell p v).cell? q = w.cell? q := by
  obtain ⟨b, i, s⟩ := q
  simp only [World.cell?, heap_setCell_other w p b v h]
theorem results_parcel1 {f : Func} {w : World} {tmps : Array Value} {g : Nat} {t : TypeId} {v0 v1 v2 v3 v4 v5 v6 v7 : Value} (hf : f.results = #[.cell 2 37]) (h4 : tmps[2]?.getD undef = .pointer (some ⟨g, 0, none⟩))
    (k : Bk w g #[v0, v1, v2, v3, v4, v5, v6, v7] t) : (results f tmps).run Tryd.prog w = .ok (.agg #[v0, v1, v2, v3, v4, v5, v6, v7]) w := by
  have k0 := k.cell 0 rfl
  have k1 := k.cell 1 rfl
  have k2 := k.cell 2 rfl
  have k3 := k.cell 3 rfl
  have k4 := k.cell 4 rfl
  have k5 := k.cell 5 rfl
  have k6 := k.cell 6 rfl
  have k7 := k.cell 7 rfl
  simp [results, hf, go_sem, h4, k0, k1, k2, k3, k4, k5, k6, k7]
/-- How great a parcel's parts are, by their lengths. -/
structure PcMid (p : Pc) (sa : Option Addr) (sn sc : Nat) (ia : Option Addr) (im ic : Nat) : Prop where
  sb : sn * 24 ≤ 140737488351232
  sz : sa = none → sc = 0
  ib : im * 40 ≤ 140737488351232
  iz : ia = none → ic = 0
  bb : ∀ q ∈ p.items, q.body.length ≤ 140737488351232
theorem PcBig.mid {w : World} {p : Pc} {sa : Option Addr} {sn sc : Nat} {ia : Option Addr} {im ic : Nat} (h : PcBig p sa sc ia ic) (hp : PcRd w p sa sn sc ia im ic) : PcMid p sa sn sc ia im ic :=
  ⟨by have h1 := h.sb; have h2 := hp.sl; omega, h.sz, by have h1 := h.ib; have h2 := hp.il; omega, h.iz, h.bb⟩
theorem bl_le {q : Pc} {sa ia : Option Addr} {sn sc im ic : Nat} (h : PcMid q sa sn sc ia im ic) {k : Nat} {x : It} (hx : q.items[k]? = some x) : x.body.length ≤ 140737488351232 := h.bb x (List.mem_of_getElem? hx)

set_option maxRecDepth 100000 in
set_option maxHeartbeats 4000000 in
theorem ref_Plain_1 (pp ps pn pf pt : Int) (pl : List Sp) (pi : List It) (sa : Option Addr) (sn sc : Nat) (ia : Option Addr) (im ic : Nat) (w : World) (hp : PcRd w ⟨1, pp, ps, pn, pf, pt, pl, pi⟩ sa sn sc ia im ic) (hbg : PcMid ⟨1, pp, ps, pn, pf, pt, pl, pi⟩ sa sn sc ia im ic) : Calls Tryd.prog 8 #[Pc.val ⟨1, pp, ps, pn, pf, pt, pl, pi⟩ sa sn sc ia im ic] w fun e w' => Hid (PlainTold w w' ⟨1, pp, 0, 0, pf, pt, pl, pi⟩ e) ∧ Below w.heap.size w w' := by
  have HPR : Hid (PcRd w ⟨1, pp, ps, pn, pf, pt, pl, pi⟩ sa sn sc ia im ic) := hp
  have HBG : Hid (PcMid ⟨1, pp, ps, pn, pf, pt, pl, pi⟩ sa sn sc ia im ic) := hbg
  have HTO : Hid (toB 1 = true) := rfl
  have HSU : Hid (subB 1 = false) := rfl
  have HFR : Hid (fromB 1 = true) := rfl
  have HSC : Hid (SpsRd (((w.alloc (.cells #[.int .i64 1, .int .i64 pp, .int .i64 ps, .int .i64 pn, .int .i64 pf, .int .i64 pt, .slice sa sn sc, .slice ia im ic] 37)).alloc (.cells #[.int .i64 0, .int .i64 0, .int .i64 0, .int .i64 0, .int .i64 0, .int .i64 0, .slice none 0 0, .slice none 0 0] 37)).alloc (.cells #[.int .i64 1, .int .i64 pp, .int .i64 0, .int .i64 0, .int .i64 pf, .int .i64 pt, .slice none 0 0, .slice none 0 0] 37)) sa sn pl) := ((hp.spans.below (below_new _ _)).below (below_new _ _)).below (below_new _ _)
  have HS0 : Hid ((((w.alloc (.cells #[.int .i64 1, .int .i64 pp, .int .i64 ps, .int .i64 pn, .int .i64 pf, .int .i64 pt, .slice sa sn sc, .slice ia im ic] 37)).alloc (.cells #[.int .i64 0, .int .i64 0, .int .i64 0, .int .i64 0, .int .i64 0, .int .i64 0, .slice none 0 0, .slice none 0 0] 37)).alloc (.cells #[.int .i64 1, .int .i64 pp, .int .i64 0, .int .i64 0, .int .i64 pf, .int .i64 pt, .slice none 0 0, .slice none 0 0] 37)).heap.size = w.heap.size + 3) := by show _ = _; simp
  have HBC : Hid (Below w.heap.size w (((w.alloc (.cells #[.int .i64 1, .int .i64 pp, .int .i64 ps, .int .i64 pn, .int .i64 pf, .int .i64 pt, .slice sa sn sc, .slice ia im ic] 37)).alloc (.cells #[.int .i64 0, .int .i64 0, .int .i64 0, .int .i64 0, .int .i64 0, .int .i64 0, .slice none 0 0, .slice none 0 0] 37)).alloc (.cells #[.int .i64 1, .int .i64 pp, .int .i64 0, .int .i64 0, .int .i64 pf, .int .i64 pt, .slice none 0 0, .slice none 0 0] 37))) := ((below_new w _).alloc (by simp) _).alloc (by simp; omega) _
  have HPC : Hid (Bk (((w.alloc (.cells #[.int .i64 1, .int .i64 pp, .int .i64 ps, .int .i64 pn, .int .i64 pf, .int .i64 pt, .slice sa sn sc, .slice ia im ic] 37)).alloc (.cells #[.int .i64 0, .int .i64 0, .int .i64 0, .int .i64 0, .int .i64 0, .int .i64 0, .slice none 0 0, .slice none 0 0] 37)).alloc (.cells #[.int .i64 1, .int .i64 pp, .int .i64 0, .int .i64 0, .int .i64 pf, .int .i64 pt, .slice none 0 0, .slice none 0 0] 37)) w.heap.size #[.int .i64 1, .int .i64 pp, .int .i64 ps, .int .i64 pn, .int .i64 pf, .int .i64 pt, .slice sa sn sc, .slice ia im ic] 37) := ((Bk.new w _ _).stay (below_new _ _)).stay (below_new _ _)
  have HRC : Hid (Bk (((w.alloc (.cells #[.int .i64 1, .int .i64 pp, .int .i64 ps, .int .i64 pn, .int .i64 pf, .int .i64 pt, .slice sa sn sc, .slice ia im ic] 37)).alloc (.cells #[.int .i64 0, .int .i64 0, .int .i64 0, .int .i64 0, .int .i64 0, .int .i64 0, .slice none 0 0, .slice none 0 0] 37)).alloc (.cells #[.int .i64 1, .int .i64 pp, .int .i64 0, .int .i64 0, .int .i64 pf, .int .i64 pt, .slice none 0 0, .slice none 0 0] 37)) (w.heap.size + 1) #[.int .i64 0, .int .i64 0, .int .i64 0, .int .i64 0, .int .i64 0, .int .i64 0, .slice none 0 0, .slice none 0 0] 37) := by
    have h := Bk.new (w.alloc (.cells #[.int .i64 1, .int .i64 pp, .int .i64 ps, .int .i64 pn, .int .i64 pf, .int .i64 pt, .slice sa sn sc, .slice ia im ic] 37)) #[.int .i64 0, .int .i64 0, .int .i64 0, .int .i64 0, .int .i64 0, .int .i64 0, .slice none 0 0, .slice none 0 0] 37
    rw [show (w.alloc (.cells #[.int .i64 1, .int .i64 pp, .int .i64 ps, .int .i64 pn, .int .i64 pf, .int .i64 pt, .slice sa sn sc, .slice ia im ic] 37)).heap.size = w.heap.size + 1 from by simp] at h
    exact h.stay (below_new _ _)
  have HOC : Hid (Bk (((w.alloc (.cells #[.int .i64 1, .int .i64 pp, .int .i64 ps, .int .i64 pn, .int .i64 pf, .int .i64 pt, .slice sa sn sc, .slice ia im ic] 37)).alloc (.cells #[.int .i64 0, .int .i64 0, .int .i64 0, .int .i64 0, .int .i64 0, .int .i64 0, .slice none 0 0, .slice none 0 0] 37)).alloc (.cells #[.int .i64 1, .int .i64 pp, .int .i64 0, .int .i64 0, .int .i64 pf, .int .i64 pt, .slice none 0 0, .slice none 0 0] 37)) (w.heap.size + 2) #[.int .i64 1, .int .i64 pp, .int .i64 0, .int .i64 0, .int .i64 pf, .int .i64 pt, .slice none 0 0, .slice none 0 0] 37) := by
    have h := Bk.new ((w.alloc (.cells #[.int .i64 1, .int .i64 pp, .int .i64 ps, .int .i64 pn, .int .i64 pf, .int .i64 pt, .slice sa sn sc, .slice ia im ic] 37)).alloc (.cells #[.int .i64 0, .int .i64 0, .int .i64 0, .int .i64 0, .int .i64 0, .int .i64 0, .slice none 0 0, .slice none 0 0] 37)) #[.int .i64 1, .int .i64 pp, .int .i64 0, .int .i64 0, .int .i64 pf, .int .i64 pt, .slice none 0 0, .slice none 0 0] 37
    rw [show ((w.alloc (.cells #[.int .i64 1, .int .i64 pp, .int .i64 ps, .int .i64 pn, .int .i64 pf, .int .i64 pt, .slice sa sn sc, .slice ia im ic] 37)).alloc (.cells #[.int .i64 0, .int .i64 0, .int .i64 0, .int .i64 0, .int .i64 0, .int .i64 0, .slice none 0 0, .slice none 0 0] 37)).heap.size = w.heap.size + 2 from by simp] at h
    exact h
  have hsb : sn * 24 ≤ 140737488355328 := by have h1 := hbg.sb; omega
  have hsz := hbg.sz
  have himb : im * 40 ≤ 140737488351232 := hbg.ib
  have HIC : Hid (im ≤ ic) := hp.il
  clear hp hbg
  unfold Pc.val
  simp only
  go_enter Tryd.func8, Tryd.ntmps8
  go_wp2_with fail
  refine (ref_ranged 1 _).mono ?_
  rw [HTO.out]
  rintro e w' ⟨rfl, rfl⟩
  go_wp2_with fail
  refine (ref_named 1 _).mono ?_
  rw [HSU.out]
  rintro e w' ⟨rfl, rfl⟩
  go_wp2_with fail
  refine (ref_from 1 _).mono ?_
  rw [HFR.out]
  rintro e w' ⟨rfl, rfl⟩
  go_wp2_with fail
  refine (ref_ranged 1 _).mono ?_
  rw [HTO.out]
  rintro e w' ⟨rfl, rfl⟩
  have HW0 : Hid (w.heap.size + 3 ≤ (((w.alloc (.cells #[.int .i64 1, .int .i64 pp, .int .i64 ps, .int .i64 pn, .int .i64 pf, .int .i64 pt, .slice sa sn sc, .slice ia im ic] 37)).alloc (.cells #[.int .i64 0, .int .i64 0, .int .i64 0, .int .i64 0, .int .i64 0, .int .i64 0, .slice none 0 0, .slice none 0 0] 37)).alloc (.cells #[.int .i64 1, .int .i64 pp, .int .i64 0, .int .i64 0, .int .i64 pf, .int .i64 pt, .slice none 0 0, .slice none 0 0] 37)).heap.size) := by show _ ≤ _; rw [HS0.out]; exact Nat.le_refl _
  go_wp2_with (at_builtin; refine wpList_append_spans rfl (.tmp 44) (.tmp 46) rfl (w.heap.size + 3) rfl sa sn sc pl rfl HSC.out hsz hsb HW0.out ?_)
  intro asv csv w1 hs1 hg1
  have hb1 : Below (((w.alloc (.cells #[.int .i64 1, .int .i64 pp, .int .i64 ps, .int .i64 pn, .int .i64 pf, .int .i64 pt, .slice sa sn sc, .slice ia im ic] 37)).alloc (.cells #[.int .i64 0, .int .i64 0, .int .i64 0, .int .i64 0, .int .i64 0, .int .i64 0, .slice none 0 0, .slice none 0 0] 37)).alloc (.cells #[.int .i64 1, .int .i64 pp, .int .i64 0, .int .i64 0, .int .i64 pf, .int .i64 pt, .slice none 0 0, .slice none 0 0] 37)).heap.size (((w.alloc (.cells #[.int .i64 1, .int .i64 pp, .int .i64 ps, .int .i64 pn, .int .i64 pf, .int .i64 pt, .slice sa sn sc, .slice ia im ic] 37)).alloc (.cells #[.int .i64 0, .int .i64 0, .int .i64 0, .int .i64 0, .int .i64 0, .int .i64 0, .slice none 0 0, .slice none 0 0] 37)).alloc (.cells #[.int .i64 1, .int .i64 pp, .int .i64 0, .int .i64 0, .int .i64 pf, .int .i64 pt, .slice none 0 0, .slice none 0 0] 37)) w1 := (Below.refl _ _).grown hg1 (Nat.le_refl _) (fun k hk => by cases hk)
  have HB1 : Hid (Below w.heap.size w w1) := HBC.out.trans (hb1.mono HBC.out.size)
  have HP1 : Hid (Bk w1 w.heap.size #[.int .i64 1, .int .i64 pp, .int .i64 ps, .int .i64 pn, .int .i64 pf, .int .i64 pt, .slice sa sn sc, .slice ia im ic] 37) := HPC.out.stay hb1
  have HR1 : Hid (Bk w1 (w.heap.size + 1) #[.int .i64 0, .int .i64 0, .int .i64 0, .int .i64 0, .int .i64 0, .int .i64 0, .slice none 0 0, .slice none 0 0] 37) := HRC.out.stay hb1
  have HO1 : Hid (Bk w1 (w.heap.size + 2) #[.int .i64 1, .int .i64 pp, .int .i64 0, .int .i64 0, .int .i64 pf, .int .i64 pt, .slice none 0 0, .slice none 0 0] 37) := HOC.out.stay hb1
  have HS1 : Hid (Sps w1 (w.heap.size + 3) (.slice asv sn csv) pl) := hs1
  clear hs1 hg1 hb1 HSC HBC HPC HRC HOC HW0 HS0
  have b6 : w1.cell? ⟨w.heap.size + 2, 6, none⟩ = some (.slice none 0 0) := HO1.out.cell 6 rfl
  have fb6 : w1.frozen? ⟨w.heap.size + 2, 6, none⟩ = false := HO1.out.free 6
  have HB2 : Hid (Below w.heap.size w (w1.setCell ⟨w.heap.size + 2, 6, none⟩ (.slice asv sn csv))) := HB1.out.setCell (by show _ ≤ w.heap.size + 2; omega) _
  have HP2 : Hid (Bk (w1.setCell ⟨w.heap.size + 2, 6, none⟩ (.slice asv sn csv)) w.heap.size #[.int .i64 1, .int .i64 pp, .int .i64 ps, .int .i64 pn, .int .i64 pf, .int .i64 pt, .slice sa sn sc, .slice ia im ic] 37) := HP1.out.other _ _ (by show w.heap.size ≠ w.heap.size + 2; omega)
  have HR2 : Hid (Bk (w1.setCell ⟨w.heap.size + 2, 6, none⟩ (.slice asv sn csv)) (w.heap.size + 1) #[.int .i64 0, .int .i64 0, .int .i64 0, .int .i64 0, .int .i64 0, .int .i64 0, .slice none 0 0, .slice none 0 0] 37) := HR1.out.other _ _ (by show w.heap.size + 1 ≠ w.heap.size + 2; omega)
  have HO2 : Hid (Bk (w1.setCell ⟨w.heap.size + 2, 6, none⟩ (.slice asv sn csv)) (w.heap.size + 2) #[.int .i64 1, .int .i64 pp, .int .i64 0, .int .i64 0, .int .i64 pf, .int .i64 pt, .slice asv sn csv, .slice none 0 0] 37) := bk_step HO1.out 6 _ rfl
  have HS2 : Hid (Sps (w1.setCell ⟨w.heap.size + 2, 6, none⟩ (.slice asv sn csv)) (w.heap.size + 3) (.slice asv sn csv) pl) := HS1.out.under _ _ (by show w.heap.size + 2 < _; omega)
  go_wp2
  go_loopw [4] (fun t4 wr => ∃ (k : Nat) (av : Option Addr) (nv cv : Nat) (L : List (It × Bd)), k ≤ im ∧ t4 = .int .i64 (k : Int) ∧ Hid (Its wr (w.heap.size + 3) (.slice av nv cv) L) ∧ Hid (L.map Prod.fst = pi.take k) ∧ Hid (Bk wr w.heap.size #[.int .i64 1, .int .i64 pp, .int .i64 ps, .int .i64 pn, .int .i64 pf, .int .i64 pt, .slice sa sn sc, .slice ia im ic] 37) ∧ Hid (Bk wr (w.heap.size + 1) #[.int .i64 0, .int .i64 0, .int .i64 0, .int .i64 0, .int .i64 0, .int .i64 0, .slice none 0 0, .slice none 0 0] 37) ∧ Hid (Bk wr (w.heap.size + 2) #[.int .i64 1, .int .i64 pp, .int .i64 0, .int .i64 0, .int .i64 pf, .int .i64 pt, .slice asv sn csv, .slice av nv cv] 37) ∧ Hid (Sps wr (w.heap.size + 3) (.slice asv sn csv) pl) ∧ Hid (Below w.heap.size w wr)) (fun t4 _ => im - (intOf t4).toNat)
  case atStart => exact ⟨0, none, 0, 0, [], by omega, rfl, Its.nil_ _ _, rfl, HP2, HR2, HO2, HS2, HB2⟩
  case round =>
    obtain ⟨k, av, nv, cv, L, hk, rfl, HIr, HLE, HPr, HRr, HOr, HSr, HBr⟩ := hrel
    clear HP2 HR2 HO2 HS2 HB2 HP1 HR1 HO1 HS1 HB1 b6 fb6
    have p7 : wr.cell? ⟨w.heap.size, 7, none⟩ = some (.slice ia im ic) := HPr.out.cell 7 rfl
    by_cases hlt : k < im
    · have hlt' : (k : Int) < (im : Int) := by omega
      have h0k : (0 : Int) ≤ (k : Int) := by omega
      obtain ⟨g, o, hia, hg, q, hq, c0, c1, ba, bl, bc, c2, hrd, hnc, hbl, hbc⟩ := HPR.out.items.at_ k hlt
      subst hia
      have HQ : Hid (pi[k]? = some q) := hq
      have HBL : Hid (bl ≤ 140737488351232) := by have h1 := bl_le HBG.out hq; rw [hrd.size] at h1; exact h1
      obtain ⟨qt, qf, qb⟩ := q
      simp only at c0 c1 hrd HQ
      have HGw : Hid (g < w.heap.size + 3) := by show _ < _; omega
      have HGG : Hid (g < w.heap.size) := hg
      have HLL : Hid ((L.length + 1) * 40 ≤ 140737488355328) := by
        have h1 := congrArg List.length HLE.out
        rw [List.length_map, List.length_take] at h1
        show _ ≤ _
        omega
      obtain ⟨wd, HWD⟩ : ∃ wd, Hid (wd = wr.drew) := ⟨_, rfl⟩
      have hbd : Below wr.heap.size wr wd := by rw [HWD.out]; exact below_drew (Below.refl _ _)
      have HBd : Hid (Below w.heap.size w wd) := HBr.out.trans (hbd.mono HBr.out.size)
      have HPd : Hid (Bk wd w.heap.size #[.int .i64 1, .int .i64 pp, .int .i64 ps, .int .i64 pn, .int .i64 pf, .int .i64 pt, .slice sa sn sc, .slice (some ⟨g, o, none⟩) im ic] 37) := HPr.out.stay hbd
      have HRd : Hid (Bk wd (w.heap.size + 1) #[.int .i64 0, .int .i64 0, .int .i64 0, .int .i64 0, .int .i64 0, .int .i64 0, .slice none 0 0, .slice none 0 0] 37) := HRr.out.stay hbd
      have HOd : Hid (Bk wd (w.heap.size + 2) #[.int .i64 1, .int .i64 pp, .int .i64 0, .int .i64 0, .int .i64 pf, .int .i64 pt, .slice asv sn csv, .slice av nv cv] 37) := HOr.out.stay hbd
      have HSd : Hid (Sps wd (w.heap.size + 3) (.slice asv sn csv) pl) := HSr.out.below hbd
      have HId : Hid (Its wd (w.heap.size + 3) (.slice av nv cv) L) := HIr.out.below hbd
      have HGd : Hid (g < wd.heap.size) := Nat.lt_of_lt_of_le hg HBd.out.size
      have HSZd : Hid (w.heap.size + 3 ≤ wd.heap.size) := HOd.out.lt
      have HRb : Hid (Rd wd ba bl qb) := hrd.below HBd.out
      have HNC : Hid (ba = none → bc = 0) := hnc
      replace c0 : wd.cell? ⟨g, o + k * 3, none⟩ = some (.int .i64 qt) := (HBd.out.cell (p := ⟨g, o + k * 3, none⟩) hg).trans c0
      replace c1 : wd.cell? ⟨g, o + k * 3 + 1, none⟩ = some (.int .u32 qf) := (HBd.out.cell (p := ⟨g, o + k * 3 + 1, none⟩) hg).trans c1
      replace c2 : wd.cell? ⟨g, o + k * 3 + 2, none⟩ = some (.slice ba bl bc) := (HBd.out.cell (p := ⟨g, o + k * 3 + 2, none⟩) hg).trans c2
      have c7 : wd.cell? ⟨w.heap.size, 7, none⟩ = some (.slice (some ⟨g, o, none⟩) im ic) := HPd.out.cell 7 rfl
      clear hrd hnc hbl hbc hq hg hbd HIr HPr HRr HOr HSr HBr
      go_wp2
      refine wp_region_held_drew (S := fun w' => w'.cell? ⟨w.heap.size, 7, none⟩ = some (.slice (some ⟨g, o, none⟩) im ic) ∧ w'.cell? ⟨g, o + k * 3, none⟩ = some (.int .i64 qt) ∧ w'.cell? ⟨g, o + k * 3 + 1, none⟩ = some (.int .u32 qf) ∧ w'.cell? ⟨g, o + k * 3 + 2, none⟩ = some (.slice ba bl bc)) (by kernel_rfl) (by rw [← HWD.out]; exact ⟨c7, c0, c1, c2⟩) (fun hHeld => ?_)
      rw [← HWD.out] at hHeld ⊢
      clear c7 p7 HWD
      refine take_putH (i := 0) (v := ?_) (some 56) rfl (by kernel_rfl) (by kernel_rfl) (by kernel_rfl) (by kernel_rfl) (fun _ _ _ h => h) (Or.inl ⟨by rfl, ?_⟩) hHeld ?_
      rotate_left
      · (intro w hSw; obtain ⟨z0, z1, z2, z3⟩ := hSw; go_simp; try with_reducible rfl)
      try simp only [Act.put, List.setIfInBounds_toArray, List.set_cons_zero, List.set_cons_succ]
      refine take_putH (i := 2) (v := ?_) (some 58) rfl (by kernel_rfl) (by kernel_rfl) (by kernel_rfl) (by kernel_rfl) (fun _ _ _ h => h) (Or.inl ⟨by rfl, ?_⟩) hHeld ?_
      rotate_left
      · (intro w hSw; obtain ⟨z0, z1, z2, z3⟩ := hSw; go_simp; try with_reducible rfl)
      try simp only [Act.put, List.setIfInBounds_toArray, List.set_cons_zero, List.set_cons_succ]
      refine take_putH (i := 3) (v := ?_) (some 59) rfl (by kernel_rfl) (by kernel_rfl) (by kernel_rfl) (by kernel_rfl) (fun _ _ _ h => h) (Or.inl ⟨by rfl, ?_⟩) hHeld ?_
      rotate_left
      · (intro w hSw; obtain ⟨z0, z1, z2, z3⟩ := hSw; go_simp; try with_reducible rfl)
      try simp only [Act.put, List.setIfInBounds_toArray, List.set_cons_zero, List.set_cons_succ]
      refine take_putH (i := 4) (v := ?_) (some 60) rfl (by kernel_rfl) (by kernel_rfl) (by kernel_rfl) (by kernel_rfl) (fun _ _ _ h => h) (Or.inl ⟨by rfl, ?_⟩) hHeld ?_
      rotate_left
      · (intro w hSw; obtain ⟨z0, z1, z2, z3⟩ := hSw; go_simp; try with_reducible rfl)
      try simp only [Act.put, List.setIfInBounds_toArray, List.set_cons_zero, List.set_cons_succ]
      refine take_putH (i := 5) (v := ?_) (some 61) rfl (by kernel_rfl) (by kernel_rfl) (by kernel_rfl) (by kernel_rfl) (fun _ _ _ h => h) (Or.inl ⟨by rfl, ?_⟩) hHeld ?_
      rotate_left
      · (intro w hSw; obtain ⟨z0, z1, z2, z3⟩ := hSw; go_simp; try with_reducible rfl)
      try simp only [Act.put, List.setIfInBounds_toArray, List.set_cons_zero, List.set_cons_succ]
      refine take_putH (i := 6) (v := ?_) (some 62) rfl (by kernel_rfl) (by kernel_rfl) (by kernel_rfl) (by kernel_rfl) (fun _ _ _ h => h) (Or.inl ⟨by rfl, ?_⟩) hHeld ?_
      rotate_left
      · (intro w hSw; obtain ⟨z0, z1, z2, z3⟩ := hSw; go_simp; try with_reducible rfl)
      try simp only [Act.put, List.setIfInBounds_toArray, List.set_cons_zero, List.set_cons_succ]
      refine take_putH (i := 7) (v := ?_) (some 63) rfl (by kernel_rfl) (by kernel_rfl) (by kernel_rfl) (by kernel_rfl) (fun _ _ _ h => h) (Or.inl ⟨by rfl, ?_⟩) hHeld ?_
      rotate_left
      · (intro w hSw; obtain ⟨z0, z1, z2, z3⟩ := hSw; go_simp; try with_reducible rfl)
      try simp only [Act.put, List.setIfInBounds_toArray, List.set_cons_zero, List.set_cons_succ]
      refine take_putH (i := 8) (v := ?_) (some 64) rfl (by kernel_rfl) (by kernel_rfl) (by kernel_rfl) (by kernel_rfl) (fun _ _ _ h => h) (Or.inl ⟨by rfl, ?_⟩) hHeld ?_
      rotate_left
      · (intro w hSw; obtain ⟨z0, z1, z2, z3⟩ := hSw; go_simp; try with_reducible rfl)
      try simp only [Act.put, List.setIfInBounds_toArray, List.set_cons_zero, List.set_cons_succ]
      refine take_putH (i := 9) (v := ?_) (some 65) rfl (by kernel_rfl) (by kernel_rfl) (by kernel_rfl) (by kernel_rfl) (fun _ _ _ h => h) (Or.inl ⟨by rfl, ?_⟩) hHeld ?_
      rotate_left
      · (intro w hSw; obtain ⟨z0, z1, z2, z3⟩ := hSw; go_simp; try with_reducible rfl)
      try simp only [Act.put, List.setIfInBounds_toArray, List.set_cons_zero, List.set_cons_succ]
      refine take_putH (i := 10) (v := ?_) (some 66) rfl (by kernel_rfl) (by kernel_rfl) (by kernel_rfl) (by kernel_rfl) (fun _ _ _ h => h) (Or.inl ⟨by rfl, ?_⟩) hHeld ?_
      rotate_left
      · (intro w hSw; obtain ⟨z0, z1, z2, z3⟩ := hSw; go_simp; try with_reducible rfl)
      try simp only [Act.put, List.setIfInBounds_toArray, List.set_cons_zero, List.set_cons_succ]
      refine take_putH (i := 11) (v := ?_) (some 67) rfl (by kernel_rfl) (by kernel_rfl) (by kernel_rfl) (by kernel_rfl) (fun _ _ _ h => h) (Or.inl ⟨by rfl, ?_⟩) hHeld ?_
      rotate_left
      · (intro w hSw; obtain ⟨z0, z1, z2, z3⟩ := hSw; go_simp; try with_reducible rfl)
      try simp only [Act.put, List.setIfInBounds_toArray, List.set_cons_zero, List.set_cons_succ]
      refine take_putH (i := 12) (v := ?_) (some 68) rfl (by kernel_rfl) (by kernel_rfl) (by kernel_rfl) (by kernel_rfl) (fun _ _ _ h => h) (Or.inl ⟨by rfl, ?_⟩) hHeld ?_
      rotate_left
      · (intro w hSw; obtain ⟨z0, z1, z2, z3⟩ := hSw; go_simp; try with_reducible rfl)
      try simp only [Act.put, List.setIfInBounds_toArray, List.set_cons_zero, List.set_cons_succ]
      refine take_putH (i := 13) (v := ?_) (some 69) rfl (by kernel_rfl) (by kernel_rfl) (by kernel_rfl) (by kernel_rfl) (fun _ _ _ h => h) (Or.inl ⟨by rfl, ?_⟩) hHeld ?_
      rotate_left
      · (intro w hSw; obtain ⟨z0, z1, z2, z3⟩ := hSw; go_simp; try with_reducible rfl)
      try simp only [Act.put, List.setIfInBounds_toArray, List.set_cons_zero, List.set_cons_succ]
      refine take_putH (i := 15) (v := ?_) (some 71) rfl (by kernel_rfl) (by kernel_rfl) (by kernel_rfl) (by kernel_rfl) (fun _ _ _ h => h) (Or.inl ⟨by rfl, ?_⟩) hHeld ?_
      rotate_left
      · (intro w hSw; obtain ⟨z0, z1, z2, z3⟩ := hSw; go_simp; try with_reducible rfl)
      try simp only [Act.put, List.setIfInBounds_toArray, List.set_cons_zero, List.set_cons_succ]
      refine take_putH (i := 16) (v := ?_) (some 72) rfl (by kernel_rfl) (by kernel_rfl) (by kernel_rfl) (by kernel_rfl) (fun _ _ _ h => h) (Or.inl ⟨by rfl, ?_⟩) hHeld ?_
      rotate_left
      · (intro w hSw; obtain ⟨z0, z1, z2, z3⟩ := hSw; go_simp; try with_reducible rfl)
      try simp only [Act.put, List.setIfInBounds_toArray, List.set_cons_zero, List.set_cons_succ]
      refine take_putH (i := 17) (v := ?_) (some 73) rfl (by kernel_rfl) (by kernel_rfl) (by kernel_rfl) (by kernel_rfl) (fun _ _ _ h => h) (Or.inl ⟨by rfl, ?_⟩) hHeld ?_
      rotate_left
      · (intro w hSw; obtain ⟨z0, z1, z2, z3⟩ := hSw; go_simp; try with_reducible rfl)
      try simp only [Act.put, List.setIfInBounds_toArray, List.set_cons_zero, List.set_cons_succ]
      refine take_putH (i := 18) (v := ?_) (some 74) rfl (by kernel_rfl) (by kernel_rfl) (by kernel_rfl) (by kernel_rfl) (fun _ _ _ h => h) (Or.inl ⟨by rfl, ?_⟩) hHeld ?_
      rotate_left
      · (intro w hSw; obtain ⟨z0, z1, z2, z3⟩ := hSw; go_simp; try with_reducible rfl)
      try simp only [Act.put, List.setIfInBounds_toArray, List.set_cons_zero, List.set_cons_succ]
      refine take_putH (i := 19) (v := ?_) (some 75) rfl (by kernel_rfl) (by kernel_rfl) (by kernel_rfl) (by kernel_rfl) (fun _ _ _ h => h) (Or.inl ⟨by rfl, ?_⟩) hHeld ?_
      rotate_left
      · (intro w hSw; obtain ⟨z0, z1, z2, z3⟩ := hSw; go_simp; try with_reducible rfl)
      try simp only [Act.put, List.setIfInBounds_toArray, List.set_cons_zero, List.set_cons_succ]
      refine take_putH (i := 20) (v := ?_) (some 76) rfl (by kernel_rfl) (by kernel_rfl) (by kernel_rfl) (by kernel_rfl) (fun _ _ _ h => h) (Or.inl ⟨by rfl, ?_⟩) hHeld ?_
      rotate_left
      · (intro w hSw; obtain ⟨z0, z1, z2, z3⟩ := hSw; go_simp; try with_reducible rfl)
      try simp only [Act.put, List.setIfInBounds_toArray, List.set_cons_zero, List.set_cons_succ]
      have hH0 : Hid (wd.cell? ⟨w.heap.size, 7, none⟩ = some (.slice (some ⟨g, o, none⟩) im ic) ∧ wd.cell? ⟨g, o + k * 3, none⟩ = some (.int .i64 qt) ∧ wd.cell? ⟨g, o + k * 3 + 1, none⟩ = some (.int .u32 qf) ∧ wd.cell? ⟨g, o + k * 3 + 2, none⟩ = some (.slice ba bl bc)) := hHeld
      have HBw0 : Hid (Below wd.heap.size wd wd) := Below.refl _ _
      clear hHeld
      refine wpAnyH_ready (rs := [1, 14]) (by kernel_rfl) (by simp) ?_
      refine AllReadyH.cons rfl (fun K hK => ?_) (AllReadyH.cons rfl (fun K hK => ?_) AllReadyH.nil)
      · have cl : wd.cell? ⟨w.heap.size + 2, 7, none⟩ = some (.slice av nv cv) := (HOd.out.stay HBw0.out).cell 7 rfl
        go_simp
        clear cl
        refine hK.out _ _ hH0.out (fun _ => ?_)
        clear hK K
        try simp only [Act.put, List.getElem_toArray, List.getElem_cons_succ, List.getElem_cons_zero, List.setIfInBounds_toArray, List.set_cons_zero, List.set_cons_succ]
        refine wpAnyH_ready (rs := [14]) (by kernel_rfl) (by simp) ?_
        refine AllReadyH.cons rfl (fun K hK => ?_) AllReadyH.nil
        go_simp
        have HBw1 : Hid (Below wd.heap.size wd (wd.alloc (.cells #[] 5))) := below_new _ _
        have hH1 : Hid ((wd.alloc (.cells #[] 5)).cell? ⟨w.heap.size, 7, none⟩ = some (.slice (some ⟨g, o, none⟩) im ic) ∧ (wd.alloc (.cells #[] 5)).cell? ⟨g, o + k * 3, none⟩ = some (.int .i64 qt) ∧ (wd.alloc (.cells #[] 5)).cell? ⟨g, o + k * 3 + 1, none⟩ = some (.int .u32 qf) ∧ (wd.alloc (.cells #[] 5)).cell? ⟨g, o + k * 3 + 2, none⟩ = some (.slice ba bl bc)) := ⟨(HPd.out.stay HBw1.out).cell 7 rfl, (HBw1.out.cell (p := ⟨g, o + k * 3, none⟩) HGd.out).trans c0, (HBw1.out.cell (p := ⟨g, o + k * 3 + 1, none⟩) HGd.out).trans c1, (HBw1.out.cell (p := ⟨g, o + k * 3 + 2, none⟩) HGd.out).trans c2⟩
        refine hK.out _ _ hH1.out (fun _ => ?_)
        clear hK K
        try simp only [Act.put, List.getElem_toArray, List.getElem_cons_succ, List.getElem_cons_zero, List.setIfInBounds_toArray, List.set_cons_zero, List.set_cons_succ]
        refine wpAnyH_ready (rs := [21]) (by kernel_rfl) (by simp) ?_
        refine AllReadyH.cons rfl (fun K hK => ?_) AllReadyH.nil
        refine step_append_rd rfl (.tmp 70) (.tmp 76) rfl wd.heap.size (some ⟨wd.heap.size, 0, none⟩) 0 0 [] rfl (Own.empty wd) ba bl bc qb rfl (HRb.out.below HBw1.out) HNC.out (by have := HBL.out; omega) HBw1.out.size bl (by omega) qb rfl ?_
        intro ab cb w2 ho2 hg2 hb2
        have HBw2 : Hid (Below wd.heap.size wd w2) := HBw1.out.trans hb2
        have HOw2 : Hid (Own w2 wd.heap.size ab bl cb qb) := ho2
        clear ho2 hg2 hb2
        have hH2 : Hid (w2.cell? ⟨w.heap.size, 7, none⟩ = some (.slice (some ⟨g, o, none⟩) im ic) ∧ w2.cell? ⟨g, o + k * 3, none⟩ = some (.int .i64 qt) ∧ w2.cell? ⟨g, o + k * 3 + 1, none⟩ = some (.int .u32 qf) ∧ w2.cell? ⟨g, o + k * 3 + 2, none⟩ = some (.slice ba bl bc)) := ⟨(HPd.out.stay HBw2.out).cell 7 rfl, (HBw2.out.cell (p := ⟨g, o + k * 3, none⟩) HGd.out).trans c0, (HBw2.out.cell (p := ⟨g, o + k * 3 + 1, none⟩) HGd.out).trans c1, (HBw2.out.cell (p := ⟨g, o + k * 3 + 2, none⟩) HGd.out).trans c2⟩
        refine hK.out _ _ hH2.out (fun _ => ?_)
        clear hK K
        try simp only [Act.put, List.getElem_toArray, List.getElem_cons_succ, List.getElem_cons_zero, List.setIfInBounds_toArray, List.set_cons_zero, List.set_cons_succ]
        refine take_putH (i := 22) (v := ?_) (some 78) rfl (by kernel_rfl) (by kernel_rfl) (by kernel_rfl) (by kernel_rfl) (fun _ _ _ h => h) (Or.inl ⟨by rfl, ?_⟩) hH2.out ?_
        rotate_left
        · (intro w hSw; obtain ⟨z0, z1, z2, z3⟩ := hSw; go_simp; try with_reducible rfl)
        try simp only [Act.put, List.setIfInBounds_toArray, List.set_cons_zero, List.set_cons_succ]
        refine wpAnyH_ready (rs := [23]) (by kernel_rfl) (by simp) ?_
        refine AllReadyH.cons rfl (fun K hK => ?_) AllReadyH.nil
        go_simp
        obtain ⟨w3, HW3⟩ : ∃ w3, Hid (w3 = w2.alloc (.cells #[.int .i64 qt, .int .u32 qf, .slice ab bl cb] 74)) := ⟨_, rfl⟩
        rw [← HW3.out]
        have HBw3 : Hid (Below wd.heap.size wd w3) := by rw [HW3.out]; exact HBw2.out.alloc HBw2.out.size _
        have HNw3 : Hid (Bk w3 w2.heap.size (icells ⟨qt, qf, qb⟩ (ab, bl, cb)).toArray 74) := by rw [HW3.out]; exact Bk.new _ _ _
        have HOw3 : Hid (Own w3 (w.heap.size + 3) ab bl cb qb) := by rw [HW3.out]; exact (HOw2.out.below (below_new _ _)).under HSZd.out
        have hH3 : Hid (w3.cell? ⟨w.heap.size, 7, none⟩ = some (.slice (some ⟨g, o, none⟩) im ic) ∧ w3.cell? ⟨g, o + k * 3, none⟩ = some (.int .i64 qt) ∧ w3.cell? ⟨g, o + k * 3 + 1, none⟩ = some (.int .u32 qf) ∧ w3.cell? ⟨g, o + k * 3 + 2, none⟩ = some (.slice ba bl bc)) := ⟨(HPd.out.stay HBw3.out).cell 7 rfl, (HBw3.out.cell (p := ⟨g, o + k * 3, none⟩) HGd.out).trans c0, (HBw3.out.cell (p := ⟨g, o + k * 3 + 1, none⟩) HGd.out).trans c1, (HBw3.out.cell (p := ⟨g, o + k * 3 + 2, none⟩) HGd.out).trans c2⟩
        refine hK.out _ _ hH3.out (fun _ => ?_)
        clear hK K
        try simp only [Act.put, List.getElem_toArray, List.getElem_cons_succ, List.getElem_cons_zero, List.setIfInBounds_toArray, List.set_cons_zero, List.set_cons_succ]
        refine wpAnyH_ready (rs := [24]) (by kernel_rfl) (by simp) ?_
        refine AllReadyH.cons rfl (fun K hK => ?_) AllReadyH.nil
        refine step_append_it rfl (.tmp 57) (.tmp 79) rfl (w.heap.size + 3) (.slice av nv cv) L rfl (HId.out.below HBw3.out) ⟨w2.heap.size, 0, none⟩ 1 ⟨qt, qf, qb⟩ (ab, bl, cb) rfl (item_told HNw3.out) HOw3.out HLL.out (Nat.le_trans HSZd.out HBw3.out.size) ?_
        intro v4 w4 hi4 hg4 hb4
        obtain ⟨av2, cv2, rfl, _, _⟩ := hi4.form
        obtain ⟨nv2, hnv2⟩ : ∃ n, n = (L ++ [((⟨qt, qf, qb⟩ : It), ((ab, bl, cb) : Bd))]).length := ⟨_, rfl⟩
        rw [← hnv2] at hi4 ⊢
        have HP4 : Hid (Bk w4 w.heap.size #[.int .i64 1, .int .i64 pp, .int .i64 ps, .int .i64 pn, .int .i64 pf, .int .i64 pt, .slice sa sn sc, .slice (some ⟨g, o, none⟩) im ic] 37) := Bk.below (HPd.out.stay HBw3.out) hb4 (by omega)
        have HR4 : Hid (Bk w4 (w.heap.size + 1) #[.int .i64 0, .int .i64 0, .int .i64 0, .int .i64 0, .int .i64 0, .int .i64 0, .slice none 0 0, .slice none 0 0] 37) := Bk.below (HRd.out.stay HBw3.out) hb4 (by omega)
        have HO4 : Hid (Bk w4 (w.heap.size + 2) #[.int .i64 1, .int .i64 pp, .int .i64 0, .int .i64 0, .int .i64 pf, .int .i64 pt, .slice asv sn csv, .slice av nv cv] 37) := Bk.below (HOd.out.stay HBw3.out) hb4 (by omega)
        have HS4 : Hid (Sps w4 (w.heap.size + 3) (.slice asv sn csv) pl) := (HSd.out.below HBw3.out).grown_it (HId.out.below HBw3.out) hg4
        have HI4 : Hid (Its w4 (w.heap.size + 3) (.slice av2 nv2 cv2) (L ++ [(⟨qt, qf, qb⟩, (ab, bl, cb))])) := hi4
        have HB4 : Hid (Below w.heap.size w w4) := (HBd.out.trans (HBw3.out.mono HBd.out.size)).trans (hb4.mono (by omega))
        have hH4 : Hid (w4.cell? ⟨w.heap.size, 7, none⟩ = some (.slice (some ⟨g, o, none⟩) im ic) ∧ w4.cell? ⟨g, o + k * 3, none⟩ = some (.int .i64 qt) ∧ w4.cell? ⟨g, o + k * 3 + 1, none⟩ = some (.int .u32 qf) ∧ w4.cell? ⟨g, o + k * 3 + 2, none⟩ = some (.slice ba bl bc)) := ⟨HP4.out.cell 7 rfl, (hb4.cell (p := ⟨g, o + k * 3, none⟩) HGw.out).trans hH3.out.2.1, (hb4.cell (p := ⟨g, o + k * 3 + 1, none⟩) HGw.out).trans hH3.out.2.2.1, (hb4.cell (p := ⟨g, o + k * 3 + 2, none⟩) HGw.out).trans hH3.out.2.2.2⟩
        clear hi4 hg4 hb4 hnv2
        refine hK.out _ _ hH4.out (fun _ => ?_)
        clear hK K
        try simp only [Act.put, List.getElem_toArray, List.getElem_cons_succ, List.getElem_cons_zero, List.setIfInBounds_toArray, List.set_cons_zero, List.set_cons_succ]
        refine take_putH (i := 25) (v := ?_) (some 81) rfl (by kernel_rfl) (by kernel_rfl) (by kernel_rfl) (by kernel_rfl) (fun _ _ _ h => h) (Or.inl ⟨by rfl, ?_⟩) hH4.out ?_
        rotate_left
        · (intro w hSw; obtain ⟨z0, z1, z2, z3⟩ := hSw; go_simp; try with_reducible rfl)
        try simp only [Act.put, List.setIfInBounds_toArray, List.set_cons_zero, List.set_cons_succ]
        have b7 : w4.cell? ⟨w.heap.size + 2, 7, none⟩ = some (.slice av nv cv) := HO4.out.cell 7 rfl
        have fb7 : w4.frozen? ⟨w.heap.size + 2, 7, none⟩ = false := HO4.out.free 7
        obtain ⟨w5, HW5⟩ : ∃ w5, Hid (w5 = w4.setCell ⟨w.heap.size + 2, 7, none⟩ (.slice av2 nv2 cv2)) := ⟨_, rfl⟩
        have HP5 : Hid (Bk w5 w.heap.size #[.int .i64 1, .int .i64 pp, .int .i64 ps, .int .i64 pn, .int .i64 pf, .int .i64 pt, .slice sa sn sc, .slice (some ⟨g, o, none⟩) im ic] 37) := by rw [HW5.out]; exact HP4.out.other _ _ (by show w.heap.size ≠ w.heap.size + 2; omega)
        have HR5 : Hid (Bk w5 (w.heap.size + 1) #[.int .i64 0, .int .i64 0, .int .i64 0, .int .i64 0, .int .i64 0, .int .i64 0, .slice none 0 0, .slice none 0 0] 37) := by rw [HW5.out]; exact HR4.out.other _ _ (by show w.heap.size + 1 ≠ w.heap.size + 2; omega)
        have HO5 : Hid (Bk w5 (w.heap.size + 2) #[.int .i64 1, .int .i64 pp, .int .i64 0, .int .i64 0, .int .i64 pf, .int .i64 pt, .slice asv sn csv, .slice av2 nv2 cv2] 37) := by rw [HW5.out]; exact bk_step HO4.out 7 _ rfl
        have HS5 : Hid (Sps w5 (w.heap.size + 3) (.slice asv sn csv) pl) := by rw [HW5.out]; exact HS4.out.under _ _ (by show w.heap.size + 2 < _; omega)
        have HI5 : Hid (Its w5 (w.heap.size + 3) (.slice av2 nv2 cv2) (L ++ [(⟨qt, qf, qb⟩, (ab, bl, cb))])) := by rw [HW5.out]; exact HI4.out.under _ _ (by show w.heap.size + 2 < _; omega)
        have HB5 : Hid (Below w.heap.size w w5) := by rw [HW5.out]; exact HB4.out.setCell (by show _ ≤ w.heap.size + 2; omega) _
        have hH5 : Hid (w5.cell? ⟨w.heap.size, 7, none⟩ = some (.slice (some ⟨g, o, none⟩) im ic) ∧ w5.cell? ⟨g, o + k * 3, none⟩ = some (.int .i64 qt) ∧ w5.cell? ⟨g, o + k * 3 + 1, none⟩ = some (.int .u32 qf) ∧ w5.cell? ⟨g, o + k * 3 + 2, none⟩ = some (.slice ba bl bc)) := by
          have hcd : ∀ (b : Nat) (i : Nat), b ≠ w.heap.size + 2 → w5.cell? ⟨b, i, none⟩ = w4.cell? ⟨b, i, none⟩ := fun b i hb => by rw [HW5.out]; exact cell_away _ _ _ _ hb
          exact ⟨HP5.out.cell 7 rfl, (hcd _ _ (by have := HGG.out; omega)).trans hH4.out.2.1, (hcd _ _ (by have := HGG.out; omega)).trans hH4.out.2.2.1, (hcd _ _ (by have := HGG.out; omega)).trans hH4.out.2.2.2⟩
        refine wpAnyH_ready (rs := [26]) (by kernel_rfl) (by simp) ?_
        refine AllReadyH.cons rfl (fun K hK => ?_) AllReadyH.nil
        go_simp
        rw [← HW5.out]
        refine hK.out _ _ hH5.out (fun _ => ?_)
        clear hK K
        try simp only [Act.put, List.getElem_toArray, List.getElem_cons_succ, List.getElem_cons_zero, List.setIfInBounds_toArray, List.set_cons_zero, List.set_cons_succ]
        refine wpAnyH_done (by kernel_rfl) ?_ _
        have HLb : Hid ((L ++ [((⟨qt, qf, qb⟩ : It), ((ab, bl, cb) : Bd))]).map Prod.fst = pi.take (k + 1)) := by
          show _ = _
          rw [List.map_append, HLE.out, List.take_add_one, HQ.out]
          rfl
        have HBX : Hid (∀ x ∈ L ++ [((⟨qt, qf, qb⟩ : It), ((ab, bl, cb) : Bd))], True) := fun _ _ => trivial
        clear b7 fb7 hH1 hH2 hH3 hH4 hH5 HP4 HR4 HO4 HS4 HI4 HB4 HBw1 HBw2 HBw3 HOw2 HOw3 HNw3 HId HSd HPd HRd HOd HBd c0 c1 c2 HBX
        go_wp2
        go_roundw
        case rel => exact ⟨k + 1, av2, nv2, cv2, _, by omega, by go_num, HI5, HLb, HP5, HR5, HO5, HS5, HB5⟩
        case measure => simp [intOf]; omega
      · go_simp
        have HBw1 : Hid (Below wd.heap.size wd (wd.alloc (.cells #[] 5))) := below_new _ _
        have hH1 : Hid ((wd.alloc (.cells #[] 5)).cell? ⟨w.heap.size, 7, none⟩ = some (.slice (some ⟨g, o, none⟩) im ic) ∧ (wd.alloc (.cells #[] 5)).cell? ⟨g, o + k * 3, none⟩ = some (.int .i64 qt) ∧ (wd.alloc (.cells #[] 5)).cell? ⟨g, o + k * 3 + 1, none⟩ = some (.int .u32 qf) ∧ (wd.alloc (.cells #[] 5)).cell? ⟨g, o + k * 3 + 2, none⟩ = some (.slice ba bl bc)) := ⟨(HPd.out.stay HBw1.out).cell 7 rfl, (HBw1.out.cell (p := ⟨g, o + k * 3, none⟩) HGd.out).trans c0, (HBw1.out.cell (p := ⟨g, o + k * 3 + 1, none⟩) HGd.out).trans c1, (HBw1.out.cell (p := ⟨g, o + k * 3 + 2, none⟩) HGd.out).trans c2⟩
        refine hK.out _ _ hH1.out (fun _ => ?_)
        clear hK K
        try simp only [Act.put, List.getElem_toArray, List.getElem_cons_succ, List.getElem_cons_zero, List.setIfInBounds_toArray, List.set_cons_zero, List.set_cons_succ]
        refine wpAnyH_ready (rs := [1, 21]) (by kernel_rfl) (by simp) ?_
        refine AllReadyH.cons rfl (fun K hK => ?_) (AllReadyH.cons rfl (fun K hK => ?_) AllReadyH.nil)
        · have cl : (wd.alloc (.cells #[] 5)).cell? ⟨w.heap.size + 2, 7, none⟩ = some (.slice av nv cv) := (HOd.out.stay HBw1.out).cell 7 rfl
          go_simp
          clear cl
          refine hK.out _ _ hH1.out (fun _ => ?_)
          clear hK K
          try simp only [Act.put, List.getElem_toArray, List.getElem_cons_succ, List.getElem_cons_zero, List.setIfInBounds_toArray, List.set_cons_zero, List.set_cons_succ]
          refine wpAnyH_ready (rs := [21]) (by kernel_rfl) (by simp) ?_
          refine AllReadyH.cons rfl (fun K hK => ?_) AllReadyH.nil
          refine step_append_rd rfl (.tmp 70) (.tmp 76) rfl wd.heap.size (some ⟨wd.heap.size, 0, none⟩) 0 0 [] rfl (Own.empty wd) ba bl bc qb rfl (HRb.out.below HBw1.out) HNC.out (by have := HBL.out; omega) HBw1.out.size bl (by omega) qb rfl ?_
          intro ab cb w2 ho2 hg2 hb2
          have HBw2 : Hid (Below wd.heap.size wd w2) := HBw1.out.trans hb2
          have HOw2 : Hid (Own w2 wd.heap.size ab bl cb qb) := ho2
          clear ho2 hg2 hb2
          have hH2 : Hid (w2.cell? ⟨w.heap.size, 7, none⟩ = some (.slice (some ⟨g, o, none⟩) im ic) ∧ w2.cell? ⟨g, o + k * 3, none⟩ = some (.int .i64 qt) ∧ w2.cell? ⟨g, o + k * 3 + 1, none⟩ = some (.int .u32 qf) ∧ w2.cell? ⟨g, o + k * 3 + 2, none⟩ = some (.slice ba bl bc)) := ⟨(HPd.out.stay HBw2.out).cell 7 rfl, (HBw2.out.cell (p := ⟨g, o + k * 3, none⟩) HGd.out).trans c0, (HBw2.out.cell (p := ⟨g, o + k * 3 + 1, none⟩) HGd.out).trans c1, (HBw2.out.cell (p := ⟨g, o + k * 3 + 2, none⟩) HGd.out).trans c2⟩
          refine hK.out _ _ hH2.out (fun _ => ?_)
          clear hK K
          try simp only [Act.put, List.getElem_toArray, List.getElem_cons_succ, List.getElem_cons_zero, List.setIfInBounds_toArray, List.set_cons_zero, List.set_cons_succ]
          refine take_putH (i := 22) (v := ?_) (some 78) rfl (by kernel_rfl) (by kernel_rfl) (by kernel_rfl) (by kernel_rfl) (fun _ _ _ h => h) (Or.inl ⟨by rfl, ?_⟩) hH2.out ?_
          rotate_left
          · (intro w hSw; obtain ⟨z0, z1, z2, z3⟩ := hSw; go_simp; try with_reducible rfl)
          try simp only [Act.put, List.setIfInBounds_toArray, List.set_cons_zero, List.set_cons_succ]
          refine wpAnyH_ready (rs := [23]) (by kernel_rfl) (by simp) ?_
          refine AllReadyH.cons rfl (fun K hK => ?_) AllReadyH.nil
          go_simp
          obtain ⟨w3, HW3⟩ : ∃ w3, Hid (w3 = w2.alloc (.cells #[.int .i64 qt, .int .u32 qf, .slice ab bl cb] 74)) := ⟨_, rfl⟩
          rw [← HW3.out]
          have HBw3 : Hid (Below wd.heap.size wd w3) := by rw [HW3.out]; exact HBw2.out.alloc HBw2.out.size _
          have HNw3 : Hid (Bk w3 w2.heap.size (icells ⟨qt, qf, qb⟩ (ab, bl, cb)).toArray 74) := by rw [HW3.out]; exact Bk.new _ _ _
          have HOw3 : Hid (Own w3 (w.heap.size + 3) ab bl cb qb) := by rw [HW3.out]; exact (HOw2.out.below (below_new _ _)).under HSZd.out
          have hH3 : Hid (w3.cell? ⟨w.heap.size, 7, none⟩ = some (.slice (some ⟨g, o, none⟩) im ic) ∧ w3.cell? ⟨g, o + k * 3, none⟩ = some (.int .i64 qt) ∧ w3.cell? ⟨g, o + k * 3 + 1, none⟩ = some (.int .u32 qf) ∧ w3.cell? ⟨g, o + k * 3 + 2, none⟩ = some (.slice ba bl bc)) := ⟨(HPd.out.stay HBw3.out).cell 7 rfl, (HBw3.out.cell (p := ⟨g, o + k * 3, none⟩) HGd.out).trans c0, (HBw3.out.cell (p := ⟨g, o + k * 3 + 1, none⟩) HGd.out).trans c1, (HBw3.out.cell (p := ⟨g, o + k * 3 + 2, none⟩) HGd.out).trans c2⟩
          refine hK.out _ _ hH3.out (fun _ => ?_)
          clear hK K
          try simp only [Act.put, List.getElem_toArray, List.getElem_cons_succ, List.getElem_cons_zero, List.setIfInBounds_toArray, List.set_cons_zero, List.set_cons_succ]
          refine wpAnyH_ready (rs := [24]) (by kernel_rfl) (by simp) ?_
          refine AllReadyH.cons rfl (fun K hK => ?_) AllReadyH.nil
          refine step_append_it rfl (.tmp 57) (.tmp 79) rfl (w.heap.size + 3) (.slice av nv cv) L rfl (HId.out.below HBw3.out) ⟨w2.heap.size, 0, none⟩ 1 ⟨qt, qf, qb⟩ (ab, bl, cb) rfl (item_told HNw3.out) HOw3.out HLL.out (Nat.le_trans HSZd.out HBw3.out.size) ?_
          intro v4 w4 hi4 hg4 hb4
          obtain ⟨av2, cv2, rfl, _, _⟩ := hi4.form
          obtain ⟨nv2, hnv2⟩ : ∃ n, n = (L ++ [((⟨qt, qf, qb⟩ : It), ((ab, bl, cb) : Bd))]).length := ⟨_, rfl⟩
          rw [← hnv2] at hi4 ⊢
          have HP4 : Hid (Bk w4 w.heap.size #[.int .i64 1, .int .i64 pp, .int .i64 ps, .int .i64 pn, .int .i64 pf, .int .i64 pt, .slice sa sn sc, .slice (some ⟨g, o, none⟩) im ic] 37) := Bk.below (HPd.out.stay HBw3.out) hb4 (by omega)
          have HR4 : Hid (Bk w4 (w.heap.size + 1) #[.int .i64 0, .int .i64 0, .int .i64 0, .int .i64 0, .int .i64 0, .int .i64 0, .slice none 0 0, .slice none 0 0] 37) := Bk.below (HRd.out.stay HBw3.out) hb4 (by omega)
          have HO4 : Hid (Bk w4 (w.heap.size + 2) #[.int .i64 1, .int .i64 pp, .int .i64 0, .int .i64 0, .int .i64 pf, .int .i64 pt, .slice asv sn csv, .slice av nv cv] 37) := Bk.below (HOd.out.stay HBw3.out) hb4 (by omega)
          have HS4 : Hid (Sps w4 (w.heap.size + 3) (.slice asv sn csv) pl) := (HSd.out.below HBw3.out).grown_it (HId.out.below HBw3.out) hg4
          have HI4 : Hid (Its w4 (w.heap.size + 3) (.slice av2 nv2 cv2) (L ++ [(⟨qt, qf, qb⟩, (ab, bl, cb))])) := hi4
          have HB4 : Hid (Below w.heap.size w w4) := (HBd.out.trans (HBw3.out.mono HBd.out.size)).trans (hb4.mono (by omega))
          have hH4 : Hid (w4.cell? ⟨w.heap.size, 7, none⟩ = some (.slice (some ⟨g, o, none⟩) im ic) ∧ w4.cell? ⟨g, o + k * 3, none⟩ = some (.int .i64 qt) ∧ w4.cell? ⟨g, o + k * 3 + 1, none⟩ = some (.int .u32 qf) ∧ w4.cell? ⟨g, o + k * 3 + 2, none⟩ = some (.slice ba bl bc)) := ⟨HP4.out.cell 7 rfl, (hb4.cell (p := ⟨g, o + k * 3, none⟩) HGw.out).trans hH3.out.2.1, (hb4.cell (p := ⟨g, o + k * 3 + 1, none⟩) HGw.out).trans hH3.out.2.2.1, (hb4.cell (p := ⟨g, o + k * 3 + 2, none⟩) HGw.out).trans hH3.out.2.2.2⟩
          clear hi4 hg4 hb4 hnv2
          refine hK.out _ _ hH4.out (fun _ => ?_)
          clear hK K
          try simp only [Act.put, List.getElem_toArray, List.getElem_cons_succ, List.getElem_cons_zero, List.setIfInBounds_toArray, List.set_cons_zero, List.set_cons_succ]
          refine take_putH (i := 25) (v := ?_) (some 81) rfl (by kernel_rfl) (by kernel_rfl) (by kernel_rfl) (by kernel_rfl) (fun _ _ _ h => h) (Or.inl ⟨by rfl, ?_⟩) hH4.out ?_
          rotate_left
          · (intro w hSw; obtain ⟨z0, z1, z2, z3⟩ := hSw; go_simp; try with_reducible rfl)
          try simp only [Act.put, List.setIfInBounds_toArray, List.set_cons_zero, List.set_cons_succ]
          have b7 : w4.cell? ⟨w.heap.size + 2, 7, none⟩ = some (.slice av nv cv) := HO4.out.cell 7 rfl
          have fb7 : w4.frozen? ⟨w.heap.size + 2, 7, none⟩ = false := HO4.out.free 7
          obtain ⟨w5, HW5⟩ : ∃ w5, Hid (w5 = w4.setCell ⟨w.heap.size + 2, 7, none⟩ (.slice av2 nv2 cv2)) := ⟨_, rfl⟩
          have HP5 : Hid (Bk w5 w.heap.size #[.int .i64 1, .int .i64 pp, .int .i64 ps, .int .i64 pn, .int .i64 pf, .int .i64 pt, .slice sa sn sc, .slice (some ⟨g, o, none⟩) im ic] 37) := by rw [HW5.out]; exact HP4.out.other _ _ (by show w.heap.size ≠ w.heap.size + 2; omega)
          have HR5 : Hid (Bk w5 (w.heap.size + 1) #[.int .i64 0, .int .i64 0, .int .i64 0, .int .i64 0, .int .i64 0, .int .i64 0, .slice none 0 0, .slice none 0 0] 37) := by rw [HW5.out]; exact HR4.out.other _ _ (by show w.heap.size + 1 ≠ w.heap.size + 2; omega)
          have HO5 : Hid (Bk w5 (w.heap.size + 2) #[.int .i64 1, .int .i64 pp, .int .i64 0, .int .i64 0, .int .i64 pf, .int .i64 pt, .slice asv sn csv, .slice av2 nv2 cv2] 37) := by rw [HW5.out]; exact bk_step HO4.out 7 _ rfl
          have HS5 : Hid (Sps w5 (w.heap.size + 3) (.slice asv sn csv) pl) := by rw [HW5.out]; exact HS4.out.under _ _ (by show w.heap.size + 2 < _; omega)
          have HI5 : Hid (Its w5 (w.heap.size + 3) (.slice av2 nv2 cv2) (L ++ [(⟨qt, qf, qb⟩, (ab, bl, cb))])) := by rw [HW5.out]; exact HI4.out.under _ _ (by show w.heap.size + 2 < _; omega)
          have HB5 : Hid (Below w.heap.size w w5) := by rw [HW5.out]; exact HB4.out.setCell (by show _ ≤ w.heap.size + 2; omega) _
          have hH5 : Hid (w5.cell? ⟨w.heap.size, 7, none⟩ = some (.slice (some ⟨g, o, none⟩) im ic) ∧ w5.cell? ⟨g, o + k * 3, none⟩ = some (.int .i64 qt) ∧ w5.cell? ⟨g, o + k * 3 + 1, none⟩ = some (.int .u32 qf) ∧ w5.cell? ⟨g, o + k * 3 + 2, none⟩ = some (.slice ba bl bc)) := by
            have hcd : ∀ (b : Nat) (i : Nat), b ≠ w.heap.size + 2 → w5.cell? ⟨b, i, none⟩ = w4.cell? ⟨b, i, none⟩ := fun b i hb => by rw [HW5.out]; exact cell_away _ _ _ _ hb
            exact ⟨HP5.out.cell 7 rfl, (hcd _ _ (by have := HGG.out; omega)).trans hH4.out.2.1, (hcd _ _ (by have := HGG.out; omega)).trans hH4.out.2.2.1, (hcd _ _ (by have := HGG.out; omega)).trans hH4.out.2.2.2⟩
          refine wpAnyH_ready (rs := [26]) (by kernel_rfl) (by simp) ?_
          refine AllReadyH.cons rfl (fun K hK => ?_) AllReadyH.nil
          go_simp
          rw [← HW5.out]
          refine hK.out _ _ hH5.out (fun _ => ?_)
          clear hK K
          try simp only [Act.put, List.getElem_toArray, List.getElem_cons_succ, List.getElem_cons_zero, List.setIfInBounds_toArray, List.set_cons_zero, List.set_cons_succ]
          refine wpAnyH_done (by kernel_rfl) ?_ _
          have HLb : Hid ((L ++ [((⟨qt, qf, qb⟩ : It), ((ab, bl, cb) : Bd))]).map Prod.fst = pi.take (k + 1)) := by
            show _ = _
            rw [List.map_append, HLE.out, List.take_add_one, HQ.out]
            rfl
          have HBX : Hid (∀ x ∈ L ++ [((⟨qt, qf, qb⟩ : It), ((ab, bl, cb) : Bd))], True) := fun _ _ => trivial
          clear b7 fb7 hH1 hH2 hH3 hH4 hH5 HP4 HR4 HO4 HS4 HI4 HB4 HBw1 HBw2 HBw3 HOw2 HOw3 HNw3 HId HSd HPd HRd HOd HBd c0 c1 c2 HBX
          go_wp2
          go_roundw
          case rel => exact ⟨k + 1, av2, nv2, cv2, _, by omega, by go_num, HI5, HLb, HP5, HR5, HO5, HS5, HB5⟩
          case measure => simp [intOf]; omega
        · refine step_append_rd rfl (.tmp 70) (.tmp 76) rfl wd.heap.size (some ⟨wd.heap.size, 0, none⟩) 0 0 [] rfl (Own.empty wd) ba bl bc qb rfl (HRb.out.below HBw1.out) HNC.out (by have := HBL.out; omega) HBw1.out.size bl (by omega) qb rfl ?_
          intro ab cb w2 ho2 hg2 hb2
          have HBw2 : Hid (Below wd.heap.size wd w2) := HBw1.out.trans hb2
          have HOw2 : Hid (Own w2 wd.heap.size ab bl cb qb) := ho2
          clear ho2 hg2 hb2
          have hH2 : Hid (w2.cell? ⟨w.heap.size, 7, none⟩ = some (.slice (some ⟨g, o, none⟩) im ic) ∧ w2.cell? ⟨g, o + k * 3, none⟩ = some (.int .i64 qt) ∧ w2.cell? ⟨g, o + k * 3 + 1, none⟩ = some (.int .u32 qf) ∧ w2.cell? ⟨g, o + k * 3 + 2, none⟩ = some (.slice ba bl bc)) := ⟨(HPd.out.stay HBw2.out).cell 7 rfl, (HBw2.out.cell (p := ⟨g, o + k * 3, none⟩) HGd.out).trans c0, (HBw2.out.cell (p := ⟨g, o + k * 3 + 1, none⟩) HGd.out).trans c1, (HBw2.out.cell (p := ⟨g, o + k * 3 + 2, none⟩) HGd.out).trans c2⟩
          refine hK.out _ _ hH2.out (fun _ => ?_)
          clear hK K
          try simp only [Act.put, List.getElem_toArray, List.getElem_cons_succ, List.getElem_cons_zero, List.setIfInBounds_toArray, List.set_cons_zero, List.set_cons_succ]
          refine take_putH (i := 22) (v := ?_) (some 78) rfl (by kernel_rfl) (by kernel_rfl) (by kernel_rfl) (by kernel_rfl) (fun _ _ _ h => h) (Or.inl ⟨by rfl, ?_⟩) hH2.out ?_
          rotate_left
          · (intro w hSw; obtain ⟨z0, z1, z2, z3⟩ := hSw; go_simp; try with_reducible rfl)
          try simp only [Act.put, List.setIfInBounds_toArray, List.set_cons_zero, List.set_cons_succ]
          refine wpAnyH_ready (rs := [1, 23]) (by kernel_rfl) (by simp) ?_
          refine AllReadyH.cons rfl (fun K hK => ?_) (AllReadyH.cons rfl (fun K hK => ?_) AllReadyH.nil)
          · have cl : w2.cell? ⟨w.heap.size + 2, 7, none⟩ = some (.slice av nv cv) := (HOd.out.stay HBw2.out).cell 7 rfl
            go_simp
            clear cl
            refine hK.out _ _ hH2.out (fun _ => ?_)
            clear hK K
            try simp only [Act.put, List.getElem_toArray, List.getElem_cons_succ, List.getElem_cons_zero, List.setIfInBounds_toArray, List.set_cons_zero, List.set_cons_succ]
            refine wpAnyH_ready (rs := [23]) (by kernel_rfl) (by simp) ?_
            refine AllReadyH.cons rfl (fun K hK => ?_) AllReadyH.nil
            go_simp
            obtain ⟨w3, HW3⟩ : ∃ w3, Hid (w3 = w2.alloc (.cells #[.int .i64 qt, .int .u32 qf, .slice ab bl cb] 74)) := ⟨_, rfl⟩
            rw [← HW3.out]
            have HBw3 : Hid (Below wd.heap.size wd w3) := by rw [HW3.out]; exact HBw2.out.alloc HBw2.out.size _
            have HNw3 : Hid (Bk w3 w2.heap.size (icells ⟨qt, qf, qb⟩ (ab, bl, cb)).toArray 74) := by rw [HW3.out]; exact Bk.new _ _ _
            have HOw3 : Hid (Own w3 (w.heap.size + 3) ab bl cb qb) := by rw [HW3.out]; exact (HOw2.out.below (below_new _ _)).under HSZd.out
            have hH3 : Hid (w3.cell? ⟨w.heap.size, 7, none⟩ = some (.slice (some ⟨g, o, none⟩) im ic) ∧ w3.cell? ⟨g, o + k * 3, none⟩ = some (.int .i64 qt) ∧ w3.cell? ⟨g, o + k * 3 + 1, none⟩ = some (.int .u32 qf) ∧ w3.cell? ⟨g, o + k * 3 + 2, none⟩ = some (.slice ba bl bc)) := ⟨(HPd.out.stay HBw3.out).cell 7 rfl, (HBw3.out.cell (p := ⟨g, o + k * 3, none⟩) HGd.out).trans c0, (HBw3.out.cell (p := ⟨g, o + k * 3 + 1, none⟩) HGd.out).trans c1, (HBw3.out.cell (p := ⟨g, o + k * 3 + 2, none⟩) HGd.out).trans c2⟩
            refine hK.out _ _ hH3.out (fun _ => ?_)
            clear hK K
            try simp only [Act.put, List.getElem_toArray, List.getElem_cons_succ, List.getElem_cons_zero, List.setIfInBounds_toArray, List.set_cons_zero, List.set_cons_succ]
            refine wpAnyH_ready (rs := [24]) (by kernel_rfl) (by simp) ?_
            refine AllReadyH.cons rfl (fun K hK => ?_) AllReadyH.nil
            refine step_append_it rfl (.tmp 57) (.tmp 79) rfl (w.heap.size + 3) (.slice av nv cv) L rfl (HId.out.below HBw3.out) ⟨w2.heap.size, 0, none⟩ 1 ⟨qt, qf, qb⟩ (ab, bl, cb) rfl (item_told HNw3.out) HOw3.out HLL.out (Nat.le_trans HSZd.out HBw3.out.size) ?_
            intro v4 w4 hi4 hg4 hb4
            obtain ⟨av2, cv2, rfl, _, _⟩ := hi4.form
            obtain ⟨nv2, hnv2⟩ : ∃ n, n = (L ++ [((⟨qt, qf, qb⟩ : It), ((ab, bl, cb) : Bd))]).length := ⟨_, rfl⟩
            rw [← hnv2] at hi4 ⊢
            have HP4 : Hid (Bk w4 w.heap.size #[.int .i64 1, .int .i64 pp, .int .i64 ps, .int .i64 pn, .int .i64 pf, .int .i64 pt, .slice sa sn sc, .slice (some ⟨g, o, none⟩) im ic] 37) := Bk.below (HPd.out.stay HBw3.out) hb4 (by omega)
            have HR4 : Hid (Bk w4 (w.heap.size + 1) #[.int .i64 0, .int .i64 0, .int .i64 0, .int .i64 0, .int .i64 0, .int .i64 0, .slice none 0 0, .slice none 0 0] 37) := Bk.below (HRd.out.stay HBw3.out) hb4 (by omega)
            have HO4 : Hid (Bk w4 (w.heap.size + 2) #[.int .i64 1, .int .i64 pp, .int .i64 0, .int .i64 0, .int .i64 pf, .int .i64 pt, .slice asv sn csv, .slice av nv cv] 37) := Bk.below (HOd.out.stay HBw3.out) hb4 (by omega)
            have HS4 : Hid (Sps w4 (w.heap.size + 3) (.slice asv sn csv) pl) := (HSd.out.below HBw3.out).grown_it (HId.out.below HBw3.out) hg4
            have HI4 : Hid (Its w4 (w.heap.size + 3) (.slice av2 nv2 cv2) (L ++ [(⟨qt, qf, qb⟩, (ab, bl, cb))])) := hi4
            have HB4 : Hid (Below w.heap.size w w4) := (HBd.out.trans (HBw3.out.mono HBd.out.size)).trans (hb4.mono (by omega))
            have hH4 : Hid (w4.cell? ⟨w.heap.size, 7, none⟩ = some (.slice (some ⟨g, o, none⟩) im ic) ∧ w4.cell? ⟨g, o + k * 3, none⟩ = some (.int .i64 qt) ∧ w4.cell? ⟨g, o + k * 3 + 1, none⟩ = some (.int .u32 qf) ∧ w4.cell? ⟨g, o + k * 3 + 2, none⟩ = some (.slice ba bl bc)) := ⟨HP4.out.cell 7 rfl, (hb4.cell (p := ⟨g, o + k * 3, none⟩) HGw.out).trans hH3.out.2.1, (hb4.cell (p := ⟨g, o + k * 3 + 1, none⟩) HGw.out).trans hH3.out.2.2.1, (hb4.cell (p := ⟨g, o + k * 3 + 2, none⟩) HGw.out).trans hH3.out.2.2.2⟩
            clear hi4 hg4 hb4 hnv2
            refine hK.out _ _ hH4.out (fun _ => ?_)
            clear hK K
            try simp only [Act.put, List.getElem_toArray, List.getElem_cons_succ, List.getElem_cons_zero, List.setIfInBounds_toArray, List.set_cons_zero, List.set_cons_succ]
            refine take_putH (i := 25) (v := ?_) (some 81) rfl (by kernel_rfl) (by kernel_rfl) (by kernel_rfl) (by kernel_rfl) (fun _ _ _ h => h) (Or.inl ⟨by rfl, ?_⟩) hH4.out ?_
            rotate_left
            · (intro w hSw; obtain ⟨z0, z1, z2, z3⟩ := hSw; go_simp; try with_reducible rfl)
            try simp only [Act.put, List.setIfInBounds_toArray, List.set_cons_zero, List.set_cons_succ]
            have b7 : w4.cell? ⟨w.heap.size + 2, 7, none⟩ = some (.slice av nv cv) := HO4.out.cell 7 rfl
            have fb7 : w4.frozen? ⟨w.heap.size + 2, 7, none⟩ = false := HO4.out.free 7
            obtain ⟨w5, HW5⟩ : ∃ w5, Hid (w5 = w4.setCell ⟨w.heap.size + 2, 7, none⟩ (.slice av2 nv2 cv2)) := ⟨_, rfl⟩
            have HP5 : Hid (Bk w5 w.heap.size #[.int .i64 1, .int .i64 pp, .int .i64 ps, .int .i64 pn, .int .i64 pf, .int .i64 pt, .slice sa sn sc, .slice (some ⟨g, o, none⟩) im ic] 37) := by rw [HW5.out]; exact HP4.out.other _ _ (by show w.heap.size ≠ w.heap.size + 2; omega)
            have HR5 : Hid (Bk w5 (w.heap.size + 1) #[.int .i64 0, .int .i64 0, .int .i64 0, .int .i64 0, .int .i64 0, .int .i64 0, .slice none 0 0, .slice none 0 0] 37) := by rw [HW5.out]; exact HR4.out.other _ _ (by show w.heap.size + 1 ≠ w.heap.size + 2; omega)
            have HO5 : Hid (Bk w5 (w.heap.size + 2) #[.int .i64 1, .int .i64 pp, .int .i64 0, .int .i64 0, .int .i64 pf, .int .i64 pt, .slice asv sn csv, .slice av2 nv2 cv2] 37) := by rw [HW5.out]; exact bk_step HO4.out 7 _ rfl
            have HS5 : Hid (Sps w5 (w.heap.size + 3) (.slice asv sn csv) pl) := by rw [HW5.out]; exact HS4.out.under _ _ (by show w.heap.size + 2 < _; omega)
            have HI5 : Hid (Its w5 (w.heap.size + 3) (.slice av2 nv2 cv2) (L ++ [(⟨qt, qf, qb⟩, (ab, bl, cb))])) := by rw [HW5.out]; exact HI4.out.under _ _ (by show w.heap.size + 2 < _; omega)
            have HB5 : Hid (Below w.heap.size w w5) := by rw [HW5.out]; exact HB4.out.setCell (by show _ ≤ w.heap.size + 2; omega) _
            have hH5 : Hid (w5.cell? ⟨w.heap.size, 7, none⟩ = some (.slice (some ⟨g, o, none⟩) im ic) ∧ w5.cell? ⟨g, o + k * 3, none⟩ = some (.int .i64 qt) ∧ w5.cell? ⟨g, o + k * 3 + 1, none⟩ = some (.int .u32 qf) ∧ w5.cell? ⟨g, o + k * 3 + 2, none⟩ = some (.slice ba bl bc)) := by
              have hcd : ∀ (b : Nat) (i : Nat), b ≠ w.heap.size + 2 → w5.cell? ⟨b, i, none⟩ = w4.cell? ⟨b, i, none⟩ := fun b i hb => by rw [HW5.out]; exact cell_away _ _ _ _ hb
              exact ⟨HP5.out.cell 7 rfl, (hcd _ _ (by have := HGG.out; omega)).trans hH4.out.2.1, (hcd _ _ (by have := HGG.out; omega)).trans hH4.out.2.2.1, (hcd _ _ (by have := HGG.out; omega)).trans hH4.out.2.2.2⟩
            refine wpAnyH_ready (rs := [26]) (by kernel_rfl) (by simp) ?_
            refine AllReadyH.cons rfl (fun K hK => ?_) AllReadyH.nil
            go_simp
            rw [← HW5.out]
            refine hK.out _ _ hH5.out (fun _ => ?_)
            clear hK K
            try simp only [Act.put, List.getElem_toArray, List.getElem_cons_succ, List.getElem_cons_zero, List.setIfInBounds_toArray, List.set_cons_zero, List.set_cons_succ]
            refine wpAnyH_done (by kernel_rfl) ?_ _
            have HLb : Hid ((L ++ [((⟨qt, qf, qb⟩ : It), ((ab, bl, cb) : Bd))]).map Prod.fst = pi.take (k + 1)) := by
              show _ = _
              rw [List.map_append, HLE.out, List.take_add_one, HQ.out]
              rfl
            have HBX : Hid (∀ x ∈ L ++ [((⟨qt, qf, qb⟩ : It), ((ab, bl, cb) : Bd))], True) := fun _ _ => trivial
            clear b7 fb7 hH1 hH2 hH3 hH4 hH5 HP4 HR4 HO4 HS4 HI4 HB4 HBw1 HBw2 HBw3 HOw2 HOw3 HNw3 HId HSd HPd HRd HOd HBd c0 c1 c2 HBX
            go_wp2
            go_roundw
            case rel => exact ⟨k + 1, av2, nv2, cv2, _, by omega, by go_num, HI5, HLb, HP5, HR5, HO5, HS5, HB5⟩
            case measure => simp [intOf]; omega
          · go_simp
            obtain ⟨w3, HW3⟩ : ∃ w3, Hid (w3 = w2.alloc (.cells #[.int .i64 qt, .int .u32 qf, .slice ab bl cb] 74)) := ⟨_, rfl⟩
            rw [← HW3.out]
            have HBw3 : Hid (Below wd.heap.size wd w3) := by rw [HW3.out]; exact HBw2.out.alloc HBw2.out.size _
            have HNw3 : Hid (Bk w3 w2.heap.size (icells ⟨qt, qf, qb⟩ (ab, bl, cb)).toArray 74) := by rw [HW3.out]; exact Bk.new _ _ _
            have HOw3 : Hid (Own w3 (w.heap.size + 3) ab bl cb qb) := by rw [HW3.out]; exact (HOw2.out.below (below_new _ _)).under HSZd.out
            have hH3 : Hid (w3.cell? ⟨w.heap.size, 7, none⟩ = some (.slice (some ⟨g, o, none⟩) im ic) ∧ w3.cell? ⟨g, o + k * 3, none⟩ = some (.int .i64 qt) ∧ w3.cell? ⟨g, o + k * 3 + 1, none⟩ = some (.int .u32 qf) ∧ w3.cell? ⟨g, o + k * 3 + 2, none⟩ = some (.slice ba bl bc)) := ⟨(HPd.out.stay HBw3.out).cell 7 rfl, (HBw3.out.cell (p := ⟨g, o + k * 3, none⟩) HGd.out).trans c0, (HBw3.out.cell (p := ⟨g, o + k * 3 + 1, none⟩) HGd.out).trans c1, (HBw3.out.cell (p := ⟨g, o + k * 3 + 2, none⟩) HGd.out).trans c2⟩
            refine hK.out _ _ hH3.out (fun _ => ?_)
            clear hK K
            try simp only [Act.put, List.getElem_toArray, List.getElem_cons_succ, List.getElem_cons_zero, List.setIfInBounds_toArray, List.set_cons_zero, List.set_cons_succ]
            refine wpAnyH_ready (rs := [1]) (by kernel_rfl) (by simp) ?_
            refine AllReadyH.cons rfl (fun K hK => ?_) AllReadyH.nil
            have cl : w3.cell? ⟨w.heap.size + 2, 7, none⟩ = some (.slice av nv cv) := (HOd.out.stay HBw3.out).cell 7 rfl
            go_simp
            clear cl
            refine hK.out _ _ hH3.out (fun _ => ?_)
            clear hK K
            try simp only [Act.put, List.getElem_toArray, List.getElem_cons_succ, List.getElem_cons_zero, List.setIfInBounds_toArray, List.set_cons_zero, List.set_cons_succ]
            refine wpAnyH_ready (rs := [24]) (by kernel_rfl) (by simp) ?_
            refine AllReadyH.cons rfl (fun K hK => ?_) AllReadyH.nil
            refine step_append_it rfl (.tmp 57) (.tmp 79) rfl (w.heap.size + 3) (.slice av nv cv) L rfl (HId.out.below HBw3.out) ⟨w2.heap.size, 0, none⟩ 1 ⟨qt, qf, qb⟩ (ab, bl, cb) rfl (item_told HNw3.out) HOw3.out HLL.out (Nat.le_trans HSZd.out HBw3.out.size) ?_
            intro v4 w4 hi4 hg4 hb4
            obtain ⟨av2, cv2, rfl, _, _⟩ := hi4.form
            obtain ⟨nv2, hnv2⟩ : ∃ n, n = (L ++ [((⟨qt, qf, qb⟩ : It), ((ab, bl, cb) : Bd))]).length := ⟨_, rfl⟩
            rw [← hnv2] at hi4 ⊢
            have HP4 : Hid (Bk w4 w.heap.size #[.int .i64 1, .int .i64 pp, .int .i64 ps, .int .i64 pn, .int .i64 pf, .int .i64 pt, .slice sa sn sc, .slice (some ⟨g, o, none⟩) im ic] 37) := Bk.below (HPd.out.stay HBw3.out) hb4 (by omega)
            have HR4 : Hid (Bk w4 (w.heap.size + 1) #[.int .i64 0, .int .i64 0, .int .i64 0, .int .i64 0, .int .i64 0, .int .i64 0, .slice none 0 0, .slice none 0 0] 37) := Bk.below (HRd.out.stay HBw3.out) hb4 (by omega)
            have HO4 : Hid (Bk w4 (w.heap.size + 2) #[.int .i64 1, .int .i64 pp, .int .i64 0, .int .i64 0, .int .i64 pf, .int .i64 pt, .slice asv sn csv, .slice av nv cv] 37) := Bk.below (HOd.out.stay HBw3.out) hb4 (by omega)
            have HS4 : Hid (Sps w4 (w.heap.size + 3) (.slice asv sn csv) pl) := (HSd.out.below HBw3.out).grown_it (HId.out.below HBw3.out) hg4
            have HI4 : Hid (Its w4 (w.heap.size + 3) (.slice av2 nv2 cv2) (L ++ [(⟨qt, qf, qb⟩, (ab, bl, cb))])) := hi4
            have HB4 : Hid (Below w.heap.size w w4) := (HBd.out.trans (HBw3.out.mono HBd.out.size)).trans (hb4.mono (by omega))
            have hH4 : Hid (w4.cell? ⟨w.heap.size, 7, none⟩ = some (.slice (some ⟨g, o, none⟩) im ic) ∧ w4.cell? ⟨g, o + k * 3, none⟩ = some (.int .i64 qt) ∧ w4.cell? ⟨g, o + k * 3 + 1, none⟩ = some (.int .u32 qf) ∧ w4.cell? ⟨g, o + k * 3 + 2, none⟩ = some (.slice ba bl bc)) := ⟨HP4.out.cell 7 rfl, (hb4.cell (p := ⟨g, o + k * 3, none⟩) HGw.out).trans hH3.out.2.1, (hb4.cell (p := ⟨g, o + k * 3 + 1, none⟩) HGw.out).trans hH3.out.2.2.1, (hb4.cell (p := ⟨g, o + k * 3 + 2, none⟩) HGw.out).trans hH3.out.2.2.2⟩
            clear hi4 hg4 hb4 hnv2
            refine hK.out _ _ hH4.out (fun _ => ?_)
            clear hK K
            try simp only [Act.put, List.getElem_toArray, List.getElem_cons_succ, List.getElem_cons_zero, List.setIfInBounds_toArray, List.set_cons_zero, List.set_cons_succ]
            refine take_putH (i := 25) (v := ?_) (some 81) rfl (by kernel_rfl) (by kernel_rfl) (by kernel_rfl) (by kernel_rfl) (fun _ _ _ h => h) (Or.inl ⟨by rfl, ?_⟩) hH4.out ?_
            rotate_left
            · (intro w hSw; obtain ⟨z0, z1, z2, z3⟩ := hSw; go_simp; try with_reducible rfl)
            try simp only [Act.put, List.setIfInBounds_toArray, List.set_cons_zero, List.set_cons_succ]
            have b7 : w4.cell? ⟨w.heap.size + 2, 7, none⟩ = some (.slice av nv cv) := HO4.out.cell 7 rfl
            have fb7 : w4.frozen? ⟨w.heap.size + 2, 7, none⟩ = false := HO4.out.free 7
            obtain ⟨w5, HW5⟩ : ∃ w5, Hid (w5 = w4.setCell ⟨w.heap.size + 2, 7, none⟩ (.slice av2 nv2 cv2)) := ⟨_, rfl⟩
            have HP5 : Hid (Bk w5 w.heap.size #[.int .i64 1, .int .i64 pp, .int .i64 ps, .int .i64 pn, .int .i64 pf, .int .i64 pt, .slice sa sn sc, .slice (some ⟨g, o, none⟩) im ic] 37) := by rw [HW5.out]; exact HP4.out.other _ _ (by show w.heap.size ≠ w.heap.size + 2; omega)
            have HR5 : Hid (Bk w5 (w.heap.size + 1) #[.int .i64 0, .int .i64 0, .int .i64 0, .int .i64 0, .int .i64 0, .int .i64 0, .slice none 0 0, .slice none 0 0] 37) := by rw [HW5.out]; exact HR4.out.other _ _ (by show w.heap.size + 1 ≠ w.heap.size + 2; omega)
            have HO5 : Hid (Bk w5 (w.heap.size + 2) #[.int .i64 1, .int .i64 pp, .int .i64 0, .int .i64 0, .int .i64 pf, .int .i64 pt, .slice asv sn csv, .slice av2 nv2 cv2] 37) := by rw [HW5.out]; exact bk_step HO4.out 7 _ rfl
            have HS5 : Hid (Sps w5 (w.heap.size + 3) (.slice asv sn csv) pl) := by rw [HW5.out]; exact HS4.out.under _ _ (by show w.heap.size + 2 < _; omega)
            have HI5 : Hid (Its w5 (w.heap.size + 3) (.slice av2 nv2 cv2) (L ++ [(⟨qt, qf, qb⟩, (ab, bl, cb))])) := by rw [HW5.out]; exact HI4.out.under _ _ (by show w.heap.size + 2 < _; omega)
            have HB5 : Hid (Below w.heap.size w w5) := by rw [HW5.out]; exact HB4.out.setCell (by show _ ≤ w.heap.size + 2; omega) _
            have hH5 : Hid (w5.cell? ⟨w.heap.size, 7, none⟩ = some (.slice (some ⟨g, o, none⟩) im ic) ∧ w5.cell? ⟨g, o + k * 3, none⟩ = some (.int .i64 qt) ∧ w5.cell? ⟨g, o + k * 3 + 1, none⟩ = some (.int .u32 qf) ∧ w5.cell? ⟨g, o + k * 3 + 2, none⟩ = some (.slice ba bl bc)) := by
              have hcd : ∀ (b : Nat) (i : Nat), b ≠ w.heap.size + 2 → w5.cell? ⟨b, i, none⟩ = w4.cell? ⟨b, i, none⟩ := fun b i hb => by rw [HW5.out]; exact cell_away _ _ _ _ hb
              exact ⟨HP5.out.cell 7 rfl, (hcd _ _ (by have := HGG.out; omega)).trans hH4.out.2.1, (hcd _ _ (by have := HGG.out; omega)).trans hH4.out.2.2.1, (hcd _ _ (by have := HGG.out; omega)).trans hH4.out.2.2.2⟩
            refine wpAnyH_ready (rs := [26]) (by kernel_rfl) (by simp) ?_
            refine AllReadyH.cons rfl (fun K hK => ?_) AllReadyH.nil
            go_simp
            rw [← HW5.out]
            refine hK.out _ _ hH5.out (fun _ => ?_)
            clear hK K
            try simp only [Act.put, List.getElem_toArray, List.getElem_cons_succ, List.getElem_cons_zero, List.setIfInBounds_toArray, List.set_cons_zero, List.set_cons_succ]
            refine wpAnyH_done (by kernel_rfl) ?_ _
            have HLb : Hid ((L ++ [((⟨qt, qf, qb⟩ : It), ((ab, bl, cb) : Bd))]).map Prod.fst = pi.take (k + 1)) := by
              show _ = _
              rw [List.map_append, HLE.out, List.take_add_one, HQ.out]
              rfl
            have HBX : Hid (∀ x ∈ L ++ [((⟨qt, qf, qb⟩ : It), ((ab, bl, cb) : Bd))], True) := fun _ _ => trivial
            clear b7 fb7 hH1 hH2 hH3 hH4 hH5 HP4 HR4 HO4 HS4 HI4 HB4 HBw1 HBw2 HBw3 HOw2 HOw3 HNw3 HId HSd HPd HRd HOd HBd c0 c1 c2 HBX
            go_wp2
            go_roundw
            case rel => exact ⟨k + 1, av2, nv2, cv2, _, by omega, by go_num, HI5, HLb, HP5, HR5, HO5, HS5, HB5⟩
            case measure => simp [intOf]; omega
    · have hnl : ¬ (k : Int) < (im : Int) := by omega
      have HLF : Hid (L.map Prod.fst = pi) := by
        have h1 := HPR.out.items.size
        show _ = _
        rw [HLE.out, List.take_of_length_le (by simp only at h1; omega)]
      have z0 : wr.cell? ⟨w.heap.size + 1, 0, none⟩ = some (.int .i64 0) := HRr.out.cell 0 rfl
      have z1 : wr.cell? ⟨w.heap.size + 1, 1, none⟩ = some (.int .i64 0) := HRr.out.cell 1 rfl
      have z2 : wr.cell? ⟨w.heap.size + 1, 2, none⟩ = some (.int .i64 0) := HRr.out.cell 2 rfl
      have z3 : wr.cell? ⟨w.heap.size + 1, 3, none⟩ = some (.int .i64 0) := HRr.out.cell 3 rfl
      have z4 : wr.cell? ⟨w.heap.size + 1, 4, none⟩ = some (.int .i64 0) := HRr.out.cell 4 rfl
      have z5 : wr.cell? ⟨w.heap.size + 1, 5, none⟩ = some (.int .i64 0) := HRr.out.cell 5 rfl
      have z6 : wr.cell? ⟨w.heap.size + 1, 6, none⟩ = some (.slice none 0 0) := HRr.out.cell 6 rfl
      have z7 : wr.cell? ⟨w.heap.size + 1, 7, none⟩ = some (.slice none 0 0) := HRr.out.cell 7 rfl
      have fz : ∀ i, wr.frozen? ⟨w.heap.size + 1, i, none⟩ = false := fun i => HRr.out.free i
      have y0 : wr.cell? ⟨w.heap.size + 2, 0, none⟩ = some (.int .i64 1) := HOr.out.cell 0 rfl
      have y1 : wr.cell? ⟨w.heap.size + 2, 1, none⟩ = some (.int .i64 pp) := HOr.out.cell 1 rfl
      have y2 : wr.cell? ⟨w.heap.size + 2, 2, none⟩ = some (.int .i64 0) := HOr.out.cell 2 rfl
      have y3 : wr.cell? ⟨w.heap.size + 2, 3, none⟩ = some (.int .i64 0) := HOr.out.cell 3 rfl
      have y4 : wr.cell? ⟨w.heap.size + 2, 4, none⟩ = some (.int .i64 pf) := HOr.out.cell 4 rfl
      have y5 : wr.cell? ⟨w.heap.size + 2, 5, none⟩ = some (.int .i64 pt) := HOr.out.cell 5 rfl
      have y6 : wr.cell? ⟨w.heap.size + 2, 6, none⟩ = some (.slice asv sn csv) := HOr.out.cell 6 rfl
      have y7 : wr.cell? ⟨w.heap.size + 2, 7, none⟩ = some (.slice av nv cv) := HOr.out.cell 7 rfl
      go_wp2
      try simp only [Exit.inBlock, Exit.then]
      change bodyPost _ _ _ _ _ (set8 _ (w.heap.size + 1) (.int .i64 1) (.int .i64 pp) (.int .i64 0) (.int .i64 0) (.int .i64 pf) (.int .i64 pt) (.slice asv sn csv) (.slice av nv cv))
      refine bodyPost_ret (results_parcel1 rfl (by rfl) (HRr.out.set8 (.int .i64 1) (.int .i64 pp) (.int .i64 0) (.int .i64 0) (.int .i64 pf) (.int .i64 pt) (.slice asv sn csv) (.slice av nv cv))) rfl ?_
      refine ⟨⟨asv, sn, csv, av, nv, cv, L, rfl, ?_, ?_, HLF.out⟩, set8_below HBr.out _ (by omega) (.int .i64 1) (.int .i64 pp) (.int .i64 0) (.int .i64 0) (.int .i64 pf) (.int .i64 pt) (.slice asv sn csv) (.slice av nv cv)⟩
      · exact (HSr.out.frame fun k hb hk => set8_other _ _ _ _ _ _ _ _ _ _ k (by omega)).lower (by omega)
      · exact (HIr.out.frame fun k hb hk => set8_other _ _ _ _ _ _ _ _ _ _ k (by omega)).lower (by omega)
theorem PlainTold.none_ {w w' : World} {q : Pc} (hs : q.spans = []) (hi : q.items = []) : PlainTold w w' q (.returned (q.val none 0 0 none 0 0)) := by
  refine ⟨none, 0, 0, none, 0, 0, [], rfl, ?_, Its.nil_ _ _, hi.symm ▸ rfl⟩
  rw [hs]
  exact Sps.nil_ _ _
/-- Plain. -/
theorem ref_Plain13m (p : Pc) (sa : Option Addr) (sn sc : Nat) (ia : Option Addr) (im ic : Nat) (w : World) (hp : PcRd w p sa sn sc ia im ic) (hbg : PcMid p sa sn sc ia im ic) : Calls Tryd.prog 8 #[p.val sa sn sc ia im ic] w fun e w' => Hid (PlainTold w w' (plainQ p) e) ∧ Below w.heap.size w w' := by
  obtain ⟨pk, pp, ps, pn, pf, pt, pl, pi⟩ := p
  cases hk : isB pk with
  | false =>
    refine (ref_Plain_bad pk pp ps pn pf pt pl pi sa sn sc ia im ic w hk).mono ?_
    rintro e w' ⟨rfl, hb⟩
    refine ⟨?_, hb⟩
    rw [plainQ_bad (p := ⟨pk, pp, ps, pn, pf, pt, pl, pi⟩) hk]
    exact PlainTold.none_ rfl rfl
  | true =>
    rw [plainQ_is (p := ⟨pk, pp, ps, pn, pf, pt, pl, pi⟩) hk]
    rcases kinds hk with rfl | rfl | rfl | rfl | rfl | rfl
    · exact ref_Plain_1 pp ps pn pf pt pl pi sa sn sc ia im ic w hp hbg
    · exact (ref_Plain_2 pp ps pn pf pt pl pi sa sn sc ia im ic w).mono fun e w' h => ⟨h.1 ▸ PlainTold.none_ rfl rfl, h.2⟩
    · exact (ref_Plain_3 pp ps pn pf pt pl pi sa sn sc ia im ic w).mono fun e w' h => ⟨h.1 ▸ PlainTold.none_ rfl rfl, h.2⟩
    · exact (ref_Plain_4 pp ps pn pf pt pl pi sa sn sc ia im ic w).mono fun e w' h => ⟨h.1 ▸ PlainTold.none_ rfl rfl, h.2⟩
    · exact (ref_Plain_5 pp ps pn pf pt pl pi sa sn sc ia im ic w).mono fun e w' h => ⟨h.1 ▸ PlainTold.none_ rfl rfl, h.2⟩
    · exact (ref_Plain_6 pp ps pn pf pt pl pi sa sn sc ia im ic w).mono fun e w' h => ⟨h.1 ▸ PlainTold.none_ rfl rfl, h.2⟩
theorem ref_Plain13 (p : Pc) (sa : Option Addr) (sn sc : Nat) (ia : Option Addr) (im ic : Nat) (w : World) (hp : PcRd w p sa sn sc ia im ic) (hbg : PcBig p sa sc ia ic) : Calls Tryd.prog 8 #[p.val sa sn sc ia im ic] w fun e w' => Hid (PlainTold w w' (plainQ p) e) ∧ Below w.heap.size w w' := ref_Plain13m p sa sn sc ia im ic w hp (hbg.mid hp)
end Go.Proofs.YtbloomepdchjhaaDoor
/- Plain, as it is read; what a kind does not use. -/
namespace Go.Proofs.YtbloomepdchjhaaDoor
open Go.RowKit

theorem PlainTold.rd {w w' : World} {q : Pc} {e : Ending} (h : PlainTold w w' q e) (hq : ∀ x ∈ q.items, ((-9223372036854775808 : Int) ≤ x.tick ∧ x.tick ≤ 9223372036854775807) ∧ (0 ≤ x.for_ ∧ x.for_ ≤ 4294967295)) : ∃ sa sn sc ia im ic, e = .returned (q.val sa sn sc ia im ic) ∧ PcRd w' q sa sn sc ia im ic := by
  obtain ⟨sa, sn, sc, ia, im, ic, L, he, hs, hi, hm⟩ := h
  refine ⟨sa, sn, sc, ia, im, ic, he, hs.rd, ?_, ?_, ?_, ?_, ?_⟩
  · have hir := hi.rd (fun x hx => hq x (by rw [← hm]; exact hx))
    rw [hm] at hir
    exact hir
  · rcases hs.row.2 with ⟨g1, g2⟩ | ⟨g', c', cur, g1, _, _, g4, g5, _⟩
    · simp only [Value.slice.injEq] at g1; omega
    · simp only [Value.slice.injEq] at g1; omega
  · rcases hs.row.2 with ⟨g1, g2⟩ | ⟨g', c', cur, g1, _, _, g4, g5, _⟩
    · simp only [Value.slice.injEq] at g1; omega
    · simp only [Value.slice.injEq] at g1; omega
  · obtain ⟨ia', ic', e2, e3, e4⟩ := hi.form
    simp only [Value.slice.injEq] at e2
    omega
  · obtain ⟨ia', ic', e2, e3, e4⟩ := hi.form
    simp only [Value.slice.injEq] at e2
    omega
theorem plainQ_items {p : Pc} {x : It} (h : x ∈ (plainQ p).items) : x ∈ p.items := by
  unfold plainQ at h
  split at h
  · simp only [plainP] at h
    split at h
    · exact h
    · cases h
  · cases h
theorem setCell_comm (w : World) (g i j : Nat) (u v : Value) (h : i ≠ j) : (w.setCell ⟨g, i, none⟩ u).setCell ⟨g, j, none⟩ v = (w.setCell ⟨g, j, none⟩ v).setCell ⟨g, i, none⟩ u := by
  unfold World.setCell
  congr 1
  simp only
  apply Array.ext
  · simp
  · intro k h1 h2
    simp only [Array.getElem_modify]
    by_cases hk : g = k
    · simp only [hk, if_true]
      cases w.heap[k]'(by simpa using h1) <;> simp
      exact Array.setIfInBounds_comm _ _ h
    · simp [hk]
end Go.Proofs.YtbloomepdchjhaaDoor
