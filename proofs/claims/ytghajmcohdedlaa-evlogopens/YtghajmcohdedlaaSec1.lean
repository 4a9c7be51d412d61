/- sector: New, Size, Waits, Down, has, trips, Trip, now, Read, Sure. -/
import Derived.Test.YtghajmcohdedlaaSecM
namespace Go.Proofs.Ytghajmcohdedlaa
open Go.RowKit

def hasB (D : Dk) (i : Int) : Bool := decide (0 ≤ i ∧ i < (D.sure.length : Int))
theorem hasB_iff (D : Dk) (i : Int) : hasB D i = true ↔ 0 ≤ i ∧ i < (D.sure.length : Int) := by simp [hasB]
theorem hasB_not (D : Dk) (i : Int) : hasB D i = false ↔ ¬ (0 ≤ i ∧ i < (D.sure.length : Int)) := by simp [hasB]

set_option maxRecDepth 100000 in
theorem disk_has (w : World) (base g gs : Nat) (wv : Value) (D : Dk) (i : Int) (h : Disk w base g gs wv D) :
    Calls Try.prog 75 #[.pointer (some ⟨g, 0, none⟩), .int .i64 i] w fun e w' => e = .returned (.bool (hasB D i)) ∧ w' = w := by
  have c0 : w.cell? ⟨g, 0, none⟩ = some (.slice (some ⟨gs, 0, none⟩) D.sure.length D.sure.length) := h.blk.cell 0 rfl
  have hsz := h.sz
  obtain ⟨n, hn⟩ : ∃ n, n = D.sure.length := ⟨_, rfl⟩
  obtain ⟨R, HR⟩ : ∃ R, Hid (R = hasB D i) := ⟨_, rfl⟩
  rw [← HR.out]
  rw [← hn] at c0 hsz
  have HN : Hid (n = D.sure.length) := hn
  clear h hn
  by_cases h0 : 0 ≤ i
  · by_cases h1 : i < (n : Int)
    · have HX : Hid (R = true) := by show _ = _; rw [HR.out, hasB_iff, ← HN.out]; exact ⟨h0, h1⟩
      go_enter Try.func75, Try.ntmps75
      go_wp2
      go_ret
      exact ⟨by rw [HX.out]; rfl, rfl⟩
    · have HX : Hid (R = false) := by show _ = _; rw [HR.out, hasB_not, ← HN.out]; exact fun hh => h1 hh.2
      go_enter Try.func75, Try.ntmps75
      go_wp2
      go_ret
      exact ⟨by rw [HX.out]; rfl, rfl⟩
  · have HX : Hid (R = false) := by show _ = _; rw [HR.out, hasB_not]; exact fun hh => h0 hh.1
    go_enter Try.func75, Try.ntmps75
    go_wp2
    go_ret
    exact ⟨by rw [HX.out]; rfl, rfl⟩

/-- A disk whose next write or sync trips, or has not yet. -/
def tripsB (D : Dk) : Bool := decide (D.trip = 1)
def tripsD (D : Dk) : Dk := if D.trip = 0 then D else { D with trip := D.trip - 1, down := decide (D.trip = 1) }
theorem Disk.with3 {w w' : World} {base g gs : Nat} {wv : Value} {D : Dk} (h : Disk w base g gs wv D) (t : Nat) (d : Bool) (ht : t ≤ 9223372036854775807) (hb : Blk w' g #[.slice (some ⟨gs, 0, none⟩) D.sure.length D.sure.length, wv, .int .i64 (t : Int), .bool d, .int .i64 (D.age : Int)] 44)
    (hg : w.grownBy w' (some g)) : Disk w' base g gs wv { D with trip := t, down := d } := by
  obtain ⟨a1, a2, a3⟩ := h.apart
  exact ⟨hb, h.srow.grown hg (by simpa using a1.symm), own_stay h.wrow (fun k hk => hg.block k (h.wrow.lt k hk).2 (fun e => a2 (by rw [← e, hk]))), h.bg, h.bs, h.sz, h.sec, h.wts, ht, h.ag, h.wl⟩
theorem grown_cell (w : World) (g i : Nat) (v : Value) : w.grownBy (w.setCell ⟨g, i, none⟩ v) (some g) := by
  have h0 : Below 0 w (w.setCell ⟨g, i, none⟩ v) := (Below.refl 0 w).setCell (Nat.zero_le _) v
  exact ⟨h0.os, h0.tape, h0.output, h0.size, fun k hk hn => heap_setCell_other w ⟨g, i, none⟩ k v (fun e => hn (by rw [e]))⟩
theorem grown_trans {w w1 w2 : World} {r : Option Nat} (h : w.grownBy w1 r) (h2 : w1.grownBy w2 r) : w.grownBy w2 r :=
  ⟨h2.os.trans h.os, h2.tape.trans h.tape, h2.output.trans h.output, Nat.le_trans h.size h2.size, fun k hk hn => (h2.block k (Nat.lt_of_lt_of_le hk h.size) hn).trans (h.block k hk hn)⟩

set_option maxRecDepth 100000 in
theorem disk_trips (w : World) (base g gs : Nat) (wv : Value) (D : Dk) (h : Disk w base g gs wv D) (hd : D.down = false) :
    Calls Try.prog 27 #[.pointer (some ⟨g, 0, none⟩)] w fun e w' => e = .returned (.bool (tripsB D)) ∧ Disk w' base g gs wv (tripsD D) ∧ Mv w w' base g gs := by
  have HD : Hid (Disk w base g gs wv D) := h
  have c2 : w.cell? ⟨g, 2, none⟩ = some (.int .i64 (D.trip : Int)) := h.blk.cell 2 rfl
  have c3 : w.cell? ⟨g, 3, none⟩ = some (.bool false) := by have := h.blk.cell 3 rfl; rw [hd] at this; exact this
  have f2 := h.blk.free 2
  have f3 := h.blk.free 3
  have htr := h.tr
  obtain ⟨t, ht⟩ : ∃ t, t = D.trip := ⟨_, rfl⟩
  have HT : Hid (t = D.trip) := ht
  rw [← ht] at c2 htr
  clear h ht
  by_cases h0 : t = 0
  · subst h0
    have HX : Hid (tripsB D = false ∧ tripsD D = D) := by
      unfold tripsB tripsD
      rw [← HT.out]
      exact ⟨rfl, rfl⟩
    go_enter Try.func27, Try.ntmps27
    go_wp2
    go_ret
    exact ⟨by rw [HX.out.1]; rfl, by rw [HX.out.2]; exact HD.out, Mv.refl _ _ _ _⟩
  · obtain ⟨u, rfl⟩ : ∃ u, t = u + 1 := ⟨t - 1, by omega⟩
    have hu : ((u + 1 : Nat) : Int) - 1 = (u : Int) := by omega
    have hu' : (u : Int) + 1 - 1 = (u : Int) := by omega
    have hn0 : ¬ ((u : Int) + 1 = 0) := by omega
    have hn0' : ((u : Int) + 1 == 0) = false := by rw [beq_eq_false_iff_ne]; omega
    by_cases h1 : u = 0
    · subst h1
      have HX : Hid (tripsB D = true ∧ tripsD D = { D with trip := 0, down := true }) := by
        unfold tripsB tripsD
        rw [← HT.out]
        exact ⟨rfl, rfl⟩
      have HK2 : Hid (Blk ((w.setCell ⟨g, 2, none⟩ (.int .i64 0)).setCell ⟨g, 3, none⟩ (.bool true)) g #[.slice (some ⟨gs, 0, none⟩) D.sure.length D.sure.length, wv, .int .i64 ((0 : Nat) : Int), .bool true, .int .i64 (D.age : Int)] 44) := by
        have := (HD.out.blk.set 2 (.int .i64 0)).set 3 (.bool true)
        exact this
      have HG : Hid (w.grownBy ((w.setCell ⟨g, 2, none⟩ (.int .i64 0)).setCell ⟨g, 3, none⟩ (.bool true)) (some g)) := grown_trans (grown_cell _ _ _ _) (grown_cell _ _ _ _)
      go_enter Try.func27, Try.ntmps27
      go_wp2
      go_ret
      exact ⟨by rw [HX.out.1]; rfl, by rw [HX.out.2]; exact HD.out.with3 0 true (by omega) HK2.out HG.out, Mv.of_grown (.inl rfl) HD.out.bg HG.out (Nat.le_trans HD.out.bg (Nat.le_of_lt HD.out.blk.lt))⟩
    · have hun : ¬ ((u : Int) = 0) := by omega
      have hun' : ((u : Int) == 0) = false := by rw [beq_eq_false_iff_ne]; omega
      have HX : Hid (tripsB D = false ∧ tripsD D = { D with trip := u, down := false }) := by
        unfold tripsB tripsD
        rw [← HT.out]
        refine ⟨by simp; omega, ?_⟩
        rw [if_neg (by omega), decide_eq_false (by omega)]
        rfl
      have HK2 : Hid (Blk ((w.setCell ⟨g, 2, none⟩ (.int .i64 (u : Int))).setCell ⟨g, 3, none⟩ (.bool false)) g #[.slice (some ⟨gs, 0, none⟩) D.sure.length D.sure.length, wv, .int .i64 (u : Int), .bool false, .int .i64 (D.age : Int)] 44) := by
        have := (HD.out.blk.set 2 (.int .i64 (u : Int))).set 3 (.bool false)
        exact this
      have HG : Hid (w.grownBy ((w.setCell ⟨g, 2, none⟩ (.int .i64 (u : Int))).setCell ⟨g, 3, none⟩ (.bool false)) (some g)) := grown_trans (grown_cell _ _ _ _) (grown_cell _ _ _ _)
      go_enter Try.func27, Try.ntmps27
      go_wp2
      go_ret
      exact ⟨by rw [HX.out.1]; rfl, by rw [HX.out.2]; exact HD.out.with3 u false (by omega) HK2.out HG.out, Mv.of_grown (.inl rfl) HD.out.bg HG.out (Nat.le_trans HD.out.bg (Nat.le_of_lt HD.out.blk.lt))⟩
end Go.Proofs.Ytghajmcohdedlaa
