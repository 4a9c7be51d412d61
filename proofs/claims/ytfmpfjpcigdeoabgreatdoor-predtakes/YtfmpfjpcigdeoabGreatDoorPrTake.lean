/- pred.takeRadius, takeValue, takeAtom, takeTerm. -/
import Derived.Test.YtfmpfjpcigdeoabGreatDoorPrChk
import Derived.Test.YtfmpfjpcigdeoabGreatDoorValOnceM
namespace Go.Proofs.YtfmpfjpcigdeoabGreatDoor
set_option maxRecDepth 100000
open Go.RowKit

def toldTm (r : Tm × Nat × Nat) : Ending := .returned (.tuple #[.agg r.1.cells, .int .i64 (r.2.1 : Int), .int .i64 (r.2.2 : Int)])

theorem take_radius (a : Option Addr) (len cap : Nat) (bs : List Nat) (p : Nat) (w : World) (hr : Rd w a len bs) (hl : len ≤ 9223372036854775000) (hp : p ≤ len) (r k f : Nat) (hS : radAt bs p = (r, k, f)) :
    Calls Tryz.prog 65 #[.slice a len cap, .int .i64 (p : Int)] w fun e w' => e = .returned (.tuple #[.int .i64 (r : Int), .int .i64 (k : Int), .int .i64 (f : Int)]) ∧ w' = w := by
  have HR : Hid (Rd w a len bs) := hr
  have hsm := take_small bs (p : Int) hr.byte
  obtain ⟨n, k0, f0, hT⟩ : ∃ n k f, Leb.take bs (p : Int) = (n, k, f) := ⟨_, _, _, rfl⟩
  rw [hT] at hsm
  have HT : Hid (Leb.take bs (p : Int) = (n, k0, f0)) := hT
  unfold radAt at hS
  rw [hT] at hS
  clear hr hT
  by_cases hf : f0 = 0
  · subst hf
    by_cases hn : 1048576 < n
    · have hn' : (1048576 : Int) < (n : Int) := by omega
      have HE : Hid (r = 0 ∧ k = 0 ∧ f = 2) := by
        simp only [if_pos hn, Prod.mk.injEq] at hS
        exact ⟨hS.1.symm, hS.2.1.symm, hS.2.2.symm⟩
      clear hS
      go_enter Tryz.func65, Tryz.ntmps65
      go_wp2_with fail
      refine (octet_TakeUint a len cap bs (p : Int) w HR.out hl (by omega)).mono ?_
      rw [HT.out, told]
      rintro e w1 ⟨rfl, rfl⟩
      go_wp2
      go_ret3
      obtain ⟨rfl, rfl, rfl⟩ := HE.out
      exact ⟨rfl, rfl⟩
    · have hn' : ¬ (1048576 : Int) < (n : Int) := by omega
      have HE : Hid (r = n ∧ k = k0 ∧ f = 0) := by
        simp only [if_neg hn, Prod.mk.injEq] at hS
        exact ⟨hS.1.symm, hS.2.1.symm, hS.2.2.symm⟩
      clear hS
      go_enter Tryz.func65, Tryz.ntmps65
      go_wp2_with fail
      refine (octet_TakeUint a len cap bs (p : Int) w HR.out hl (by omega)).mono ?_
      rw [HT.out, told]
      rintro e w1 ⟨rfl, rfl⟩
      go_wp2
      go_ret3
      obtain ⟨rfl, rfl, rfl⟩ := HE.out
      exact ⟨rfl, rfl⟩
  · have hf' : (f0 : Int) ≠ 0 := by omega
    have HE : Hid (r = 0 ∧ k = 0 ∧ f = f0) := by
      cases f0 with
      | zero => exact absurd rfl hf
      | succ f0 =>
        simp only [Prod.mk.injEq] at hS
        exact ⟨hS.1.symm, hS.2.1.symm, hS.2.2.symm⟩
    clear hS
    go_enter Tryz.func65, Tryz.ntmps65
    go_wp2_with fail
    refine (octet_TakeUint a len cap bs (p : Int) w HR.out hl (by omega)).mono ?_
    rw [HT.out, told]
    rintro e w1 ⟨rfl, rfl⟩
    go_wp2
    go_ret3
    obtain ⟨rfl, rfl, rfl⟩ := HE.out
    exact ⟨rfl, rfl⟩

theorem results_valfor {w : World} {tmps : Array Value} {g : Nat} {t : TypeId} {v0 v1 v2 v3 v4 n f : Value} (h4 : tmps[6]?.getD undef = .pointer (some ⟨g, 0, none⟩)) (h5 : tmps[7]?.getD undef = n) (h6 : tmps[8]?.getD undef = f)
    (k : Blk w g #[v0, v1, v2, v3, v4] t) : (results Tryz.f64 tmps).run Tryz.prog w = .ok (.tuple #[.agg #[v0, v1, v2, v3, v4], n, f]) w := by
  have k0 := k.cell 0 rfl
  have k1 := k.cell 1 rfl
  have k2 := k.cell 2 rfl
  have k3 := k.cell 3 rfl
  have k4 := k.cell 4 rfl
  simp [results, Tryz.results64, go_sem, h4, h5, h6, k0, k1, k2, k3, k4]
theorem Blk.setW5 {w : World} {g : Nat} {t : TypeId} {u0 u1 u2 u3 u4 : Value} (h : Blk w g #[u0, u1, u2, u3, u4] t) (v0 v1 v2 v3 v4 : Value) : Blk (((((w.setCell ⟨g, 0, none⟩ v0).setCell ⟨g, 1, none⟩ v1).setCell ⟨g, 2, none⟩ v2).setCell ⟨g, 3, none⟩ v3).setCell ⟨g, 4, none⟩ v4) g #[v0, v1, v2, v3, v4] t :=
  ((((h.set 0 v0).set 1 v1).set 2 v2).set 3 v3).set 4 v4

set_option maxHeartbeats 1000000 in
theorem take_value (a : Option Addr) (len cap : Nat) (bs : List Nat) (p c : Nat) (hc : 1 ≤ c ∧ c ≤ 10) (w : World) (hr : Rd w a len bs) (hlc : len ≤ cap) (hl : len ≤ 9223372036854775000) (hp : p ≤ len) (v : Val) (k f : Nat) (hS : valFor bs p c = (v, k, f)) :
    Calls Tryz.prog 64 #[.slice a len cap, .int .i64 (p : Int), .int .i64 (c : Int)] w fun e w' => e = .returned (.tuple #[.agg v.cells, .int .i64 (k : Int), .int .i64 (f : Int)]) ∧ Below w.heap.size w w' := by
  have hcx : ∀ (a : Addr) (m : Mode) (W : World) (x y : Nat), (store a (.complex .f64 x y) m).run Tryz.prog W = stored Tryz.prog W a (.complex .f64 x y) m := fun a m W x y => run_store _ _ _ _ _ rfl
  have HR : Hid (Rd w a len bs) := hr
  have HC : Hid (1 ≤ c ∧ c ≤ 10) := hc
  obtain ⟨u, j, g, hV⟩ : ∃ u j g, valAt bs (p : Int) = (u, j, g) := ⟨_, _, _, rfl⟩
  unfold valFor at hS
  rw [hV] at hS
  have HV : Hid (∀ w, Rd w a len bs → Calls Tryz.prog 88 #[.slice a len cap, .int .i64 (p : Int)] w fun e w' => e = .returned (.tuple #[.agg u.cells, .int .i64 (j : Int), .int .i64 (g : Int)]) ∧ Below w.heap.size w w') := fun w h => by
    have := value_Take a len cap bs (p : Int) w h hlc hl (by omega)
    rw [hV] at this
    exact this
  have HB0 : Hid (Below w.heap.size w (w.alloc (.cells #[.int .i64 0, .int .i64 0, .string ⟨#[]⟩, .bool false, .complex .f64 0 0] 47))) := below_alloc w _
  clear hr hV hc
  obtain ⟨uk, uw, us, ut, ux, uy⟩ := u
  simp only [Val.cells] at HV
  by_cases hg : g = 0
  · subst hg
    cases hm : mayB c uk with
    | true =>
      have HM : Hid (mayB c uk = true) := hm
      have HE : Hid (v = ⟨uk, uw, us, ut, ux, uy⟩ ∧ k = j ∧ f = 0) := by
        simp only [hm, if_true, Prod.mk.injEq] at hS
        exact ⟨hS.1.symm, hS.2.1.symm, hS.2.2.symm⟩
      clear hS hm
      go_enter Tryz.func64, Tryz.ntmps64
      go_wp2_with fail
      refine (HV.out _ (HR.out.below HB0.out)).mono ?_
      rintro e w1 ⟨rfl, hb1⟩
      have HB1 : Hid (Below w.heap.size w w1) := HB0.out.trans (hb1.mono (by simp))
      have HK1 : Hid (Blk w1 w.heap.size #[.int .i64 0, .int .i64 0, .string ⟨#[]⟩, .bool false, .complex .f64 0 0] 47) := (Blk.new w _ _).stay hb1
      clear hb1
      go_wp2_with fail
      refine (may_be c HC.out uk _).mono ?_
      rw [HM.out]
      rintro e w2 ⟨rfl, rfl⟩
      have HKA : Hid (Blk (w1.alloc (.cells #[.int .i64 uk, .int .i64 uw, .string us, .bool ut, .complex .f64 ux uy] 47)) w.heap.size #[.int .i64 0, .int .i64 0, .string ⟨#[]⟩, .bool false, .complex .f64 0 0] 47) := HK1.out.stay (below_alloc w1 _)
      have HBA : Hid (Below w.heap.size w (w1.alloc (.cells #[.int .i64 uk, .int .i64 uw, .string us, .bool ut, .complex .f64 ux uy] 47))) := HB1.out.alloc HB1.out.size _
      have d0 := HKA.out.cell 0 rfl
      have d1 := HKA.out.cell 1 rfl
      have d2 := HKA.out.cell 2 rfl
      have d3 := HKA.out.cell 3 rfl
      have d4 := HKA.out.cell 4 rfl
      have f0 := HKA.out.free 0
      have f1 := HKA.out.free 1
      have f2 := HKA.out.free 2
      have f3 := HKA.out.free 3
      have f4 := HKA.out.free 4
      go_wp2
      try simp only [Exit.inBlock, Exit.then]
      refine bodyPost_ret (results_valfor (by rfl) (by rfl) (by rfl) (HKA.out.setW5 _ _ _ _ _)) rfl ?_
      obtain ⟨rfl, rfl, rfl⟩ := HE.out
      exact ⟨rfl, ((((HBA.out.setCell (Nat.le_refl _) _).setCell (Nat.le_refl _) _).setCell (Nat.le_refl _) _).setCell (Nat.le_refl _) _).setCell (Nat.le_refl _) _⟩
    | false =>
      have HM : Hid (mayB c uk = false) := hm
      have HE : Hid (v = Val.zero ∧ k = 0 ∧ f = 12) := by
        simp only [hm, Bool.false_eq_true, if_false, Prod.mk.injEq] at hS
        exact ⟨hS.1.symm, hS.2.1.symm, hS.2.2.symm⟩
      clear hS hm
      go_enter Tryz.func64, Tryz.ntmps64
      go_wp2_with fail
      refine (HV.out _ (HR.out.below HB0.out)).mono ?_
      rintro e w1 ⟨rfl, hb1⟩
      have HB1 : Hid (Below w.heap.size w w1) := HB0.out.trans (hb1.mono (by simp))
      have HK1 : Hid (Blk w1 w.heap.size #[.int .i64 0, .int .i64 0, .string ⟨#[]⟩, .bool false, .complex .f64 0 0] 47) := (Blk.new w _ _).stay hb1
      clear hb1
      go_wp2_with fail
      refine (may_be c HC.out uk _).mono ?_
      rw [HM.out]
      rintro e w2 ⟨rfl, rfl⟩
      have HKA : Hid (Blk (w1.alloc (.cells #[.int .i64 uk, .int .i64 uw, .string us, .bool ut, .complex .f64 ux uy] 47)) w.heap.size #[.int .i64 0, .int .i64 0, .string ⟨#[]⟩, .bool false, .complex .f64 0 0] 47) := HK1.out.stay (below_alloc w1 _)
      have HBA : Hid (Below w.heap.size w (w1.alloc (.cells #[.int .i64 uk, .int .i64 uw, .string us, .bool ut, .complex .f64 ux uy] 47))) := HB1.out.alloc HB1.out.size _
      have d0 := HKA.out.cell 0 rfl
      have d1 := HKA.out.cell 1 rfl
      have d2 := HKA.out.cell 2 rfl
      have d3 := HKA.out.cell 3 rfl
      have d4 := HKA.out.cell 4 rfl
      have f0 := HKA.out.free 0
      have f1 := HKA.out.free 1
      have f2 := HKA.out.free 2
      have f3 := HKA.out.free 3
      have f4 := HKA.out.free 4
      go_wp2
      try simp only [Exit.inBlock, Exit.then]
      refine bodyPost_ret (results_valfor (by rfl) (by rfl) (by rfl) (HKA.out.setW5 _ _ _ _ _)) rfl ?_
      obtain ⟨rfl, rfl, rfl⟩ := HE.out
      exact ⟨rfl, ((((HBA.out.setCell (Nat.le_refl _) _).setCell (Nat.le_refl _) _).setCell (Nat.le_refl _) _).setCell (Nat.le_refl _) _).setCell (Nat.le_refl _) _⟩
  · have hg' : (g : Int) ≠ 0 := by omega
    have HE : Hid (v = Val.zero ∧ k = 0 ∧ f = g) := by
      cases g with
      | zero => exact absurd rfl hg
      | succ g =>
        simp only [Prod.mk.injEq] at hS
        exact ⟨hS.1.symm, hS.2.1.symm, hS.2.2.symm⟩
    clear hS
    go_enter Tryz.func64, Tryz.ntmps64
    go_wp2_with fail
    refine (HV.out _ (HR.out.below HB0.out)).mono ?_
    rintro e w1 ⟨rfl, hb1⟩
    have HB1 : Hid (Below w.heap.size w w1) := HB0.out.trans (hb1.mono (by simp))
    have HK1 : Hid (Blk w1 w.heap.size #[.int .i64 0, .int .i64 0, .string ⟨#[]⟩, .bool false, .complex .f64 0 0] 47) := (Blk.new w _ _).stay hb1
    clear hb1
    have HKA : Hid (Blk (w1.alloc (.cells #[.int .i64 uk, .int .i64 uw, .string us, .bool ut, .complex .f64 ux uy] 47)) w.heap.size #[.int .i64 0, .int .i64 0, .string ⟨#[]⟩, .bool false, .complex .f64 0 0] 47) := HK1.out.stay (below_alloc w1 _)
    have HBA : Hid (Below w.heap.size w (w1.alloc (.cells #[.int .i64 uk, .int .i64 uw, .string us, .bool ut, .complex .f64 ux uy] 47))) := HB1.out.alloc HB1.out.size _
    have d0 := HKA.out.cell 0 rfl
    have d1 := HKA.out.cell 1 rfl
    have d2 := HKA.out.cell 2 rfl
    have d3 := HKA.out.cell 3 rfl
    have d4 := HKA.out.cell 4 rfl
    have f0 := HKA.out.free 0
    have f1 := HKA.out.free 1
    have f2 := HKA.out.free 2
    have f3 := HKA.out.free 3
    have f4 := HKA.out.free 4
    go_wp2
    try simp only [Exit.inBlock, Exit.then]
    refine bodyPost_ret (results_valfor (by rfl) (by rfl) (by rfl) (HKA.out.setW5 _ _ _ _ _)) rfl ?_
    obtain ⟨rfl, rfl, rfl⟩ := HE.out
    exact ⟨rfl, ((((HBA.out.setCell (Nat.le_refl _) _).setCell (Nat.le_refl _) _).setCell (Nat.le_refl _) _).setCell (Nat.le_refl _) _).setCell (Nat.le_refl _) _⟩
end Go.Proofs.YtfmpfjpcigdeoabGreatDoor
