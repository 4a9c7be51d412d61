/- grapevineref13.Plain of every kind but Tell, and of none. -/
import Derived.Test.YtjpkhefegpbooaaPlM
import Derived.Test.YtjpkhefegpbooaaPcR1
namespace Go.Proofs.Ytjpkhefegpbooaa
open Go.RowKit

set_option maxRecDepth 100000 in
set_option maxHeartbeats 2000000 in
theorem ref_Plain_bad (pk pp ps pn pf pt : Int) (pl : List Sp) (pi : List It) (sa : Option Addr) (sn sc : Nat) (ia : Option Addr) (im ic : Nat) (w : World) (hk : isB pk = false) : Calls Try.prog 14 #[Pc.val ⟨pk, pp, ps, pn, pf, pt, pl, pi⟩ sa sn sc ia im ic] w fun e w' => e = .returned (Pc.val ⟨pk, 0, 0, 0, 0, 0, [], []⟩ none 0 0 none 0 0) ∧ Below w.heap.size w w' := by
  have HB : ∀ o o1 o2, Hid (Below w.heap.size w (((w.alloc o).alloc o1).alloc o2)) := fun o o1 o2 => ((below_new w _).alloc (by simp) _).alloc (by simp; omega) _
  have HTO : Hid (toB pk = false) := (bad_kind hk).2.2.1
  have HSU : Hid (subB pk = false) := (bad_kind hk).1
  have HFR : Hid (fromB pk = false) := (bad_kind hk).2.1
  have hk1 : ¬ pk = 1 := by have := hk; simp only [isB, decide_eq_false_iff_not] at this; omega
  have hk2 : (pk == 1) = false := by simpa using hk1
  clear hk
  unfold Pc.val
  simp only
  go_enter Try.func14, Try.ntmps14
  go_wp2_with fail
  refine (ref_ranged pk _).mono ?_
  rw [HTO.out]
  rintro e w' ⟨rfl, rfl⟩
  go_wp2_with fail
  refine (ref_named pk _).mono ?_
  rw [HSU.out]
  rintro e w' ⟨rfl, rfl⟩
  go_wp2_with fail
  refine (ref_named pk _).mono ?_
  rw [HSU.out]
  rintro e w' ⟨rfl, rfl⟩
  go_wp2_with fail
  refine (ref_from pk _).mono ?_
  rw [HFR.out]
  rintro e w' ⟨rfl, rfl⟩
  go_wp2_with fail
  refine (ref_ranged pk _).mono ?_
  rw [HTO.out]
  rintro e w' ⟨rfl, rfl⟩
  go_wp2
  go_returns
  exact ⟨rfl, (HB _ _ _).out⟩

set_option maxRecDepth 100000 in
set_option maxHeartbeats 2000000 in
theorem ref_Plain_2 (pp ps pn pf pt : Int) (pl : List Sp) (pi : List It) (sa : Option Addr) (sn sc : Nat) (ia : Option Addr) (im ic : Nat) (w : World) : Calls Try.prog 14 #[Pc.val ⟨2, pp, ps, pn, pf, pt, pl, pi⟩ sa sn sc ia im ic] w fun e w' => e = .returned (Pc.val ⟨2, pp, 0, 0, pf, pt, [], []⟩ none 0 0 none 0 0) ∧ Below w.heap.size w w' := by
  have HB : ∀ o o1 o2, Hid (Below w.heap.size w (((w.alloc o).alloc o1).alloc o2)) := fun o o1 o2 => ((below_new w _).alloc (by simp) _).alloc (by simp; omega) _
  have HTO : Hid (toB 2 = true) := rfl
  have HSU : Hid (subB 2 = false) := rfl
  have HFR : Hid (fromB 2 = true) := rfl
  unfold Pc.val
  simp only
  go_enter Try.func14, Try.ntmps14
  go_wp2_with fail
  refine (ref_ranged 2 _).mono ?_
  rw [HTO.out]
  rintro e w' ⟨rfl, rfl⟩
  go_wp2_with fail
  refine (ref_named 2 _).mono ?_
  rw [HSU.out]
  rintro e w' ⟨rfl, rfl⟩
  go_wp2_with fail
  refine (ref_from 2 _).mono ?_
  rw [HFR.out]
  rintro e w' ⟨rfl, rfl⟩
  go_wp2_with fail
  refine (ref_ranged 2 _).mono ?_
  rw [HTO.out]
  rintro e w' ⟨rfl, rfl⟩
  go_wp2
  go_returns
  exact ⟨rfl, (HB _ _ _).out⟩

set_option maxRecDepth 100000 in
set_option maxHeartbeats 2000000 in
theorem ref_Plain_3 (pp ps pn pf pt : Int) (pl : List Sp) (pi : List It) (sa : Option Addr) (sn sc : Nat) (ia : Option Addr) (im ic : Nat) (w : World) : Calls Try.prog 14 #[Pc.val ⟨3, pp, ps, pn, pf, pt, pl, pi⟩ sa sn sc ia im ic] w fun e w' => e = .returned (Pc.val ⟨3, pp, ps, pn, pf, 0, [], []⟩ none 0 0 none 0 0) ∧ Below w.heap.size w w' := by
  have HB : ∀ o o1 o2, Hid (Below w.heap.size w (((w.alloc o).alloc o1).alloc o2)) := fun o o1 o2 => ((below_new w _).alloc (by simp) _).alloc (by simp; omega) _
  have HTO : Hid (toB 3 = false) := rfl
  have HSU : Hid (subB 3 = true) := rfl
  have HFR : Hid (fromB 3 = true) := rfl
  unfold Pc.val
  simp only
  go_enter Try.func14, Try.ntmps14
  go_wp2_with fail
  refine (ref_ranged 3 _).mono ?_
  rw [HTO.out]
  rintro e w' ⟨rfl, rfl⟩
  go_wp2_with fail
  refine (ref_named 3 _).mono ?_
  rw [HSU.out]
  rintro e w' ⟨rfl, rfl⟩
  go_wp2_with fail
  refine (ref_named 3 _).mono ?_
  rw [HSU.out]
  rintro e w' ⟨rfl, rfl⟩
  go_wp2_with fail
  refine (ref_from 3 _).mono ?_
  rw [HFR.out]
  rintro e w' ⟨rfl, rfl⟩
  go_wp2_with fail
  refine (ref_ranged 3 _).mono ?_
  rw [HTO.out]
  rintro e w' ⟨rfl, rfl⟩
  go_wp2
  go_returns
  exact ⟨rfl, (HB _ _ _).out⟩

set_option maxRecDepth 100000 in
set_option maxHeartbeats 2000000 in
theorem ref_Plain_4 (pp ps pn pf pt : Int) (pl : List Sp) (pi : List It) (sa : Option Addr) (sn sc : Nat) (ia : Option Addr) (im ic : Nat) (w : World) : Calls Try.prog 14 #[Pc.val ⟨4, pp, ps, pn, pf, pt, pl, pi⟩ sa sn sc ia im ic] w fun e w' => e = .returned (Pc.val ⟨4, pp, ps, pn, 0, 0, [], []⟩ none 0 0 none 0 0) ∧ Below w.heap.size w w' := by
  have HB : ∀ o o1 o2, Hid (Below w.heap.size w (((w.alloc o).alloc o1).alloc o2)) := fun o o1 o2 => ((below_new w _).alloc (by simp) _).alloc (by simp; omega) _
  have HTO : Hid (toB 4 = false) := rfl
  have HSU : Hid (subB 4 = true) := rfl
  have HFR : Hid (fromB 4 = false) := rfl
  unfold Pc.val
  simp only
  go_enter Try.func14, Try.ntmps14
  go_wp2_with fail
  refine (ref_ranged 4 _).mono ?_
  rw [HTO.out]
  rintro e w' ⟨rfl, rfl⟩
  go_wp2_with fail
  refine (ref_named 4 _).mono ?_
  rw [HSU.out]
  rintro e w' ⟨rfl, rfl⟩
  go_wp2_with fail
  refine (ref_named 4 _).mono ?_
  rw [HSU.out]
  rintro e w' ⟨rfl, rfl⟩
  go_wp2_with fail
  refine (ref_from 4 _).mono ?_
  rw [HFR.out]
  rintro e w' ⟨rfl, rfl⟩
  go_wp2_with fail
  refine (ref_ranged 4 _).mono ?_
  rw [HTO.out]
  rintro e w' ⟨rfl, rfl⟩
  go_wp2
  go_returns
  exact ⟨rfl, (HB _ _ _).out⟩

set_option maxRecDepth 100000 in
set_option maxHeartbeats 2000000 in
theorem ref_Plain_5 (pp ps pn pf pt : Int) (pl : List Sp) (pi : List It) (sa : Option Addr) (sn sc : Nat) (ia : Option Addr) (im ic : Nat) (w : World) : Calls Try.prog 14 #[Pc.val ⟨5, pp, ps, pn, pf, pt, pl, pi⟩ sa sn sc ia im ic] w fun e w' => e = .returned (Pc.val ⟨5, pp, ps, pn, pf, 0, [], []⟩ none 0 0 none 0 0) ∧ Below w.heap.size w w' := by
  have HB : ∀ o o1 o2, Hid (Below w.heap.size w (((w.alloc o).alloc o1).alloc o2)) := fun o o1 o2 => ((below_new w _).alloc (by simp) _).alloc (by simp; omega) _
  have HTO : Hid (toB 5 = false) := rfl
  have HSU : Hid (subB 5 = true) := rfl
  have HFR : Hid (fromB 5 = true) := rfl
  unfold Pc.val
  simp only
  go_enter Try.func14, Try.ntmps14
  go_wp2_with fail
  refine (ref_ranged 5 _).mono ?_
  rw [HTO.out]
  rintro e w' ⟨rfl, rfl⟩
  go_wp2_with fail
  refine (ref_named 5 _).mono ?_
  rw [HSU.out]
  rintro e w' ⟨rfl, rfl⟩
  go_wp2_with fail
  refine (ref_named 5 _).mono ?_
  rw [HSU.out]
  rintro e w' ⟨rfl, rfl⟩
  go_wp2_with fail
  refine (ref_from 5 _).mono ?_
  rw [HFR.out]
  rintro e w' ⟨rfl, rfl⟩
  go_wp2_with fail
  refine (ref_ranged 5 _).mono ?_
  rw [HTO.out]
  rintro e w' ⟨rfl, rfl⟩
  go_wp2
  go_returns
  exact ⟨rfl, (HB _ _ _).out⟩

set_option maxRecDepth 100000 in
set_option maxHeartbeats 2000000 in
theorem ref_Plain_6 (pp ps pn pf pt : Int) (pl : List Sp) (pi : List It) (sa : Option Addr) (sn sc : Nat) (ia : Option Addr) (im ic : Nat) (w : World) : Calls Try.prog 14 #[Pc.val ⟨6, pp, ps, pn, pf, pt, pl, pi⟩ sa sn sc ia im ic] w fun e w' => e = .returned (Pc.val ⟨6, pp, ps, pn, 0, 0, [], []⟩ none 0 0 none 0 0) ∧ Below w.heap.size w w' := by
  have HB : ∀ o o1 o2, Hid (Below w.heap.size w (((w.alloc o).alloc o1).alloc o2)) := fun o o1 o2 => ((below_new w _).alloc (by simp) _).alloc (by simp; omega) _
  have HTO : Hid (toB 6 = false) := rfl
  have HSU : Hid (subB 6 = true) := rfl
  have HFR : Hid (fromB 6 = false) := rfl
  unfold Pc.val
  simp only
  go_enter Try.func14, Try.ntmps14
  go_wp2_with fail
  refine (ref_ranged 6 _).mono ?_
  rw [HTO.out]
  rintro e w' ⟨rfl, rfl⟩
  go_wp2_with fail
  refine (ref_named 6 _).mono ?_
  rw [HSU.out]
  rintro e w' ⟨rfl, rfl⟩
  go_wp2_with fail
  refine (ref_named 6 _).mono ?_
  rw [HSU.out]
  rintro e w' ⟨rfl, rfl⟩
  go_wp2_with fail
  refine (ref_from 6 _).mono ?_
  rw [HFR.out]
  rintro e w' ⟨rfl, rfl⟩
  go_wp2_with fail
  refine (ref_ranged 6 _).mono ?_
  rw [HTO.out]
  rintro e w' ⟨rfl, rfl⟩
  go_wp2
  go_returns
  exact ⟨rfl, (HB _ _ _).out⟩

end Go.Proofs.Ytjpkhefegpbooaa
