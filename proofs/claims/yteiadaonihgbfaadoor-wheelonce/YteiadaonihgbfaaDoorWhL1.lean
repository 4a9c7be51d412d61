/- Both wheels, by their timers; a deed on both. -/
import Derived.Test.YteiadaonihgbfaaDoorWhR3
namespace Go.Proofs.YteiadaonihgbfaaDoor
open Go.RowKit

/-- A wheel, by its tick and its timers. -/
def WW (w : World) (g n : Nat) (T : Nat → Option Nat) : Prop := ∃ s, Wh w g s ∧ s.now = n ∧ ST s T
theorem WW.grown {w w' : World} {g k n : Nat} {T : Nat → Option Nat} (h : WW w g n T) (hg : w.grownBy w' (some k)) (hne : g ≠ k) : WW w' g n T := by
  obtain ⟨s, h1, h2, h3⟩ := h
  exact ⟨s, h1.grown hg hne, h2, h3⟩
theorem WW.stay {w w' : World} {g n : Nat} {T : Nat → Option Nat} (h : WW w g n T) (hb : Below w.heap.size w w') : WW w' g n T := by
  obtain ⟨s, h1, h2, h3⟩ := h
  exact ⟨s, h1.stay hb, h2, h3⟩
theorem WW.lt {w : World} {g n : Nat} {T : Nat → Option Nat} (h : WW w g n T) : g < w.heap.size := by
  obtain ⟨s, h1, _⟩ := h
  exact h1.blk.lt
theorem WW.nle {w : World} {g n : Nat} {T : Nat → Option Nat} (h : WW w g n T) : n ≤ 1099511627776 := by
  obtain ⟨s, h1, h2, _⟩ := h
  rw [← h2]; exact h1.nw
theorem ww_Set (w : World) (g n : Nat) (T : Nat → Option Nat) (id at_ : Int) (h : WW w g n T) :
    Calls Tryd.prog 13 #[.pointer (some ⟨g, 0, none⟩), .int .i64 id, .int .i64 at_] w fun e w' => e = .returned (.int .i64 (setE id at_)) ∧ Hid (WW w' g n (setT T id at_)) ∧ w.grownBy w' (some g) := by
  obtain ⟨s, h1, h2, h3⟩ := h
  refine (wh_Set w g s id at_ h1).mono ?_
  rintro e w1 ⟨rfl, hw, hg⟩
  exact ⟨rfl, ⟨_, hw.out, (h3.setD id at_).2.trans h2, (h3.setD id at_).1⟩, hg⟩
theorem ww_Drop (w : World) (g n : Nat) (T : Nat → Option Nat) (id : Int) (h : WW w g n T) :
    Calls Tryd.prog 14 #[.pointer (some ⟨g, 0, none⟩), .int .i64 id] w fun e w' => e = .returned (.int .i64 (if hasT T id = true then 0 else 8)) ∧ Hid (WW w' g n (dropT T id)) ∧ w.grownBy w' (some g) := by
  obtain ⟨s, h1, h2, h3⟩ := h
  refine (wh_Drop w g s id h1).mono ?_
  rintro e w1 ⟨rfl, hw, hg⟩
  exact ⟨by rw [(h3.dropD id).2.2], ⟨_, hw.out, (h3.dropD id).2.1.trans h2, (h3.dropD id).1⟩, hg⟩
theorem ww_Advance (w : World) (g n : Nat) (T : Nat → Option Nat) (to : Nat) (h : WW w g n T) (hT : Tab w) (hg0 : g ≠ 0) (h1 : n ≤ to) (h2 : to ≤ 1099511627776) :
    Calls Tryd.prog 15 #[.pointer (some ⟨g, 0, none⟩), .int .i64 (to : Int)] w fun e w' => ∃ v, e = .returned (.tuple #[v, .int .i64 0]) ∧ Hid (WW w' g to (advT T to)) ∧ Hid (∃ L, w'.ownsRow w.heap.size 3 1 v L.length (vi L) ∧ Told T to L ∧ L.length ≤ 64) ∧ w.grownBy w' (some g) := by
  obtain ⟨s, k1, k2, k3⟩ := h
  obtain ⟨t1, t2, t3⟩ := k3.told (by omega) h2
  refine (wh_Advance2 w g s to k1 hT hg0 (by omega) h2).mono ?_
  rintro e w1 ⟨v, rfl, hw, ho, hg⟩
  exact ⟨v, rfl, ⟨_, hw.out, t3, t2⟩, ⟨_, ho.out, t1, by unfold toldS; rw [ord_len]; exact ids_len _⟩, hg⟩
theorem ww_Advance_bad (w : World) (g n : Nat) (T : Nat → Option Nat) (to : Int) (h : WW w g n T) (hb : to < (n : Int) ∨ 1099511627776 < to) :
    Calls Tryd.prog 15 #[.pointer (some ⟨g, 0, none⟩), .int .i64 to] w fun e w' => e = .returned (.tuple #[.slice none 0 0, .int .i64 2]) ∧ w' = w := by
  obtain ⟨s, k1, k2, k3⟩ := h
  exact wh_Advance_bad w g s to k1 (by rw [k2]; exact hb)
theorem ww_Next (w : World) (g n : Nat) (T : Nat → Option Nat) (h : WW w g n T) (hT : Tab w) :
    Calls Tryd.prog 20 #[.pointer (some ⟨g, 0, none⟩)] w fun e w' => Hid (NextToldR T e) ∧ Below w.heap.size w w' := by
  obtain ⟨s, k1, k2, k3⟩ := h
  refine (wh_Next w g s k1 hT).mono ?_
  rintro e w1 ⟨rfl, hb⟩
  refine ⟨⟨_, _, rfl, k3.next k1.slot_le, ?_⟩, hb⟩
  unfold nextV
  split
  · omega
  · exact k1.due_le _
theorem ww_Ids (w : World) (g n : Nat) (T : Nat → Option Nat) (h : WW w g n T) (hT : Tab w) :
    Calls Tryd.prog 16 #[.pointer (some ⟨g, 0, none⟩)] w fun e w' => ∃ v, e = .returned v ∧ Hid (w'.ownsRow w.heap.size 3 1 v (idsT T).length (vi (idsT T))) ∧ Below w.heap.size w w' := by
  obtain ⟨s, k1, k2, k3⟩ := h
  rw [← k3.ids]
  exact wh_Ids w g s k1 hT
theorem ww_At (w : World) (g n : Nat) (T : Nat → Option Nat) (id : Int) (h : WW w g n T) :
    Calls Tryd.prog 23 #[.pointer (some ⟨g, 0, none⟩), .int .i64 id] w fun e w' => e = .returned (.tuple #[.int .i64 (atT T id : Int), .bool (hasT T id)]) ∧ ∃ m, w' = w.drewN m := by
  obtain ⟨s, k1, k2, k3⟩ := h
  rw [← k3.atV, ← k3.hasW]
  exact wh_At w g s id k1
theorem ww_Fork (w : World) (g n : Nat) (T : Nat → Option Nat) (h : WW w g n T) : Calls Tryd.prog 18 #[.pointer (some ⟨g, 0, none⟩)] w fun e w' => e = .returned (.pointer (some ⟨w.heap.size, 0, none⟩)) ∧ Hid (WW w' w.heap.size n T) ∧ Below w.heap.size w w' := by
  obtain ⟨s, k1, k2, k3⟩ := h
  refine (wh_Fork w g s k1).mono ?_
  rintro e w1 ⟨rfl, hw, hb⟩
  exact ⟨rfl, ⟨s, hw.out, k2, k3⟩, hb⟩
theorem ww_Now (w : World) (g n : Nat) (T : Nat → Option Nat) (h : WW w g n T) : Calls Tryd.prog 17 #[.pointer (some ⟨g, 0, none⟩)] w fun e w' => e = .returned (.int .i64 (n : Int)) ∧ w' = w := by
  obtain ⟨s, k1, k2, k3⟩ := h
  have := wh_Now w g s k1
  rw [k2] at this
  exact this

set_option maxRecDepth 100000 in
theorem ref_Advance_bad (w : World) (h n : Nat) (T : Nat → Option Nat) (to : Int) (hr : RW w h n T) (hb : to < (n : Int) ∨ 1099511627776 < to) :
    Calls Tryd.prog 38 #[.pointer (some ⟨h, 0, none⟩), .int .i64 to] w fun e w' => e = .returned (.tuple #[.slice none 0 0, .int .i64 2]) ∧ w' = w := by
  obtain ⟨r, r1, r2, _⟩ := hr
  have c0 := r1.now_cell
  rw [r2] at c0
  clear r1 r2
  by_cases h1 : to < (n : Int)
  · go_enter Tryd.func38, Tryd.ntmps38
    go_wp2
    go_returns
    exact ⟨rfl, rfl⟩
  · have h2 : 1099511627776 < to := by omega
    clear hb
    go_enter Tryd.func38, Tryd.ntmps38
    go_wp2
    go_returns
    exact ⟨rfl, rfl⟩

/-- All blocks stay but two. -/
structure Gr2 (w w' : World) (g h : Nat) : Prop where
  os : w'.os = w.os
  tape : w'.tape = w.tape
  output : w'.output = w.output
  size : w.heap.size ≤ w'.heap.size
  block : ∀ k, k < w.heap.size → k ≠ g → k ≠ h → w'.heap[k]? = w.heap[k]?
theorem Gr2.refl (w : World) (g h : Nat) : Gr2 w w g h := ⟨rfl, rfl, rfl, Nat.le_refl _, fun _ _ _ _ => rfl⟩
theorem Gr2.trans {w w1 w2 : World} {g h : Nat} (a : Gr2 w w1 g h) (b : Gr2 w1 w2 g h) : Gr2 w w2 g h := ⟨b.os.trans a.os, b.tape.trans a.tape, b.output.trans a.output, Nat.le_trans a.size b.size, fun k hk hg hh => (b.block k (Nat.lt_of_lt_of_le hk a.size) hg hh).trans (a.block k hk hg hh)⟩
theorem Gr2.left {w w1 : World} {g : Nat} (h : Nat) (a : w.grownBy w1 (some g)) : Gr2 w w1 g h := ⟨a.os, a.tape, a.output, a.size, fun k hk hg _ => a.block k hk (by simpa using hg)⟩
theorem Gr2.right {w w1 : World} {h : Nat} (g : Nat) (a : w.grownBy w1 (some h)) : Gr2 w w1 g h := ⟨a.os, a.tape, a.output, a.size, fun k hk _ hh => a.block k hk (by simpa using hh)⟩
theorem Gr2.low {w w1 : World} (g h : Nat) (a : Below w.heap.size w w1) : Gr2 w w1 g h := ⟨a.os, a.tape, a.output, a.size, fun k hk _ _ => a.block k hk⟩
theorem Gr2.below {w0 w w1 : World} {g h B : Nat} (b : Below B w0 w) (a : Gr2 w w1 g h) (hg : B ≤ g) (hh : B ≤ h) (hB : B ≤ w.heap.size) : Below B w0 w1 :=
  b.trans ⟨a.os, a.tape, a.output, a.size, fun k hk => a.block k (by omega) (by omega) (by omega)⟩
theorem Gr2.blk {w w' : World} {g h q : Nat} {cs : Array Value} {t : TypeId} (hk : Blk w q cs t) (a : Gr2 w w' g h) (h1 : q ≠ g) (h2 : q ≠ h) : Blk w' q cs t := by
  unfold Blk
  rw [a.block q hk.lt h1 h2]
  exact hk
theorem Tab.gr2 {w w' : World} {g h : Nat} (ht : Tab w) (a : Gr2 w w' g h) (hw : 0 < w.heap.size) (g0 : g ≠ 0) (h0 : h ≠ 0) : Tab w' := fun i hi => by
  have e := a.block 0 hw (fun e => g0 e.symm) (fun e => h0 e.symm)
  have := ht i hi
  unfold World.cell? at this ⊢
  simp only at this ⊢
  rw [e]
  exact this
/-- Both wheels have the same tick and timers. -/
structure Dbl (w : World) (g h n : Nat) (T : Nat → Option Nat) : Prop where
  wh : WW w g n T
  rf : RW w h n T
  ne : g ≠ h
  g0 : g ≠ 0
  h0 : h ≠ 0
  tab : Tab w
theorem Dbl.stay {w w' : World} {g h n : Nat} {T : Nat → Option Nat} (d : Dbl w g h n T) (hb : Below w.heap.size w w') : Dbl w' g h n T := ⟨d.wh.stay hb, d.rf.stay hb, d.ne, d.g0, d.h0, d.tab.below (Nat.lt_of_le_of_lt (Nat.zero_le _) d.wh.lt) hb⟩
theorem Dbl.gr2 {w w' : World} {g h g2 h2 n : Nat} {T : Nat → Option Nat} (d : Dbl w g h n T) (a : Gr2 w w' g2 h2) (h1 : g ≠ g2) (h3 : g ≠ h2) (h4 : h ≠ g2) (h5 : h ≠ h2) (g0 : g2 ≠ 0) (h0 : h2 ≠ 0) : Dbl w' g h n T := by
  obtain ⟨s, s1, s2, s3⟩ := d.wh
  obtain ⟨r, r1, r2, r3⟩ := d.rf
  exact ⟨⟨s, ⟨Gr2.blk s1.blk a h1 h3, s1.dl, s1.sl, s1.nw, s1.dw, s1.sw⟩, s2, s3⟩, ⟨r, ⟨Gr2.blk r1.blk a h4 h5, r1.tl, r1.wl, r1.nw, r1.ww⟩, r2, r3⟩, d.ne, d.g0, d.h0, d.tab.gr2 a (Nat.lt_of_le_of_lt (Nat.zero_le _) d.wh.lt) g0 h0⟩

set_option maxRecDepth 100000 in
set_option maxHeartbeats 4000000 in
theorem do_0 (w : World) (g h n : Nat) (T : Nat → Option Nat) (id at_ : Int) (hd : Dbl w g h n T) :
    Calls Tryd.prog 22 #[.pointer (some ⟨g, 0, none⟩), .pointer (some ⟨h, 0, none⟩), .agg #[.int .i64 0, .int .i64 id, .int .i64 at_]] w fun e w' => e = .returned (.bool true) ∧ Hid (∃ n' T', Dbl w' g h n' T') ∧ Gr2 w w' g h := by
  obtain ⟨W1, HW1⟩ : ∃ W1, Hid (W1 = w.alloc (.cells #[.int .i64 0, .int .i64 id, .int .i64 at_] 36)) := ⟨_, rfl⟩
  have HB1 : Hid (Below w.heap.size w W1) := by (show Below _ _ _); rw [HW1.out]; exact below_alloc _ _
  have HK1 : Hid (Blk W1 w.heap.size #[.int .i64 0, .int .i64 id, .int .i64 at_] 36) := by (show Blk _ _ _ _); rw [HW1.out]; exact Blk.new _ _ _
  have HD1 : Hid (Dbl W1 g h n T) := hd.stay HB1.out
  have HGL : Hid (g < w.heap.size ∧ h < w.heap.size) := ⟨hd.wh.lt, hd.rf.lt⟩
  clear hd
  have HDD : Hid (Dbl W1.drew g h n T) := HD1.out.stay (below_drew (Below.refl _ _))
  have HKD : Hid (Blk W1.drew w.heap.size #[.int .i64 0, .int .i64 id, .int .i64 at_] 36) := HK1.out
  have b1 : W1.drew.cell? ⟨w.heap.size, 1, none⟩ = some (.int .i64 id) := HKD.out.cell 1 rfl
  obtain ⟨E, HE⟩ : ∃ E, Hid (E = setE id at_) := ⟨_, rfl⟩
  go_enter Tryd.func22, Tryd.ntmps22
  go_wp2
  rw [← HW1.out]
  go_region_held3 (fun w' => w'.cell? ⟨w.heap.size, 1, none⟩ = some (.int .i64 id)) (first | exact b1 | exact s2 | exact s3 | fail)
    (first
      | (go_at_call 13; refine (ww_Set _ g n T id at_ HDD.out.wh).mono ?_; rw [← HE.out]; rintro e w2 ⟨rfl, hx2, hg2⟩; have k2 := HKD.out.grown hg2 (by have := HGL.out; simp; omega); have s2 : w2.cell? ⟨w.heap.size, 1, none⟩ = some (.int .i64 id) := k2.cell 1 rfl)
      | (go_at_call 36; refine (ref_Set _ h n T id at_ (HDD.out.rf.grown hg2 (fun e => HDD.out.ne e.symm))).mono ?_; rw [← HE.out]; rintro e w3 ⟨rfl, hy3, hg3⟩; have k3 := k2.grown hg3 (by have := HGL.out; simp; omega); have s3 : w3.cell? ⟨w.heap.size, 1, none⟩ = some (.int .i64 id) := k3.cell 1 rfl))
  have HG2 : Hid (Gr2 W1.drew w2 g h) := Gr2.left h hg2
  have HG3 : Hid (Gr2 w2 w3 g h) := Gr2.right g hg3
  have HF : Hid (∃ n' T', Dbl w3 g h n' T') := ⟨n, _, hx2.out.grown hg3 HDD.out.ne, hy3.out, HDD.out.ne, HDD.out.g0, HDD.out.h0, (HDD.out.tab.gr2 (HG2.out.trans HG3.out) (Nat.lt_of_le_of_lt (Nat.zero_le _) HDD.out.wh.lt) HDD.out.g0 HDD.out.h0)⟩
  have HGF : Hid (Gr2 w w3 g h) := ((Gr2.low g h (below_drew HB1.out)).trans HG2.out).trans HG3.out
  clear hx2 hg2 hy3 hg3 k2 k3 s2 s3 b1
  go_wp2
  go_ret
  exact ⟨by simp, HF, HGF.out⟩

set_option maxRecDepth 100000 in
set_option maxHeartbeats 4000000 in
theorem do_1 (w : World) (g h n : Nat) (T : Nat → Option Nat) (id at_ : Int) (hd : Dbl w g h n T) :
    Calls Tryd.prog 22 #[.pointer (some ⟨g, 0, none⟩), .pointer (some ⟨h, 0, none⟩), .agg #[.int .i64 1, .int .i64 id, .int .i64 at_]] w fun e w' => e = .returned (.bool true) ∧ Hid (∃ n' T', Dbl w' g h n' T') ∧ Gr2 w w' g h := by
  obtain ⟨W1, HW1⟩ : ∃ W1, Hid (W1 = w.alloc (.cells #[.int .i64 1, .int .i64 id, .int .i64 at_] 36)) := ⟨_, rfl⟩
  have HB1 : Hid (Below w.heap.size w W1) := by (show Below _ _ _); rw [HW1.out]; exact below_alloc _ _
  have HK1 : Hid (Blk W1 w.heap.size #[.int .i64 1, .int .i64 id, .int .i64 at_] 36) := by (show Blk _ _ _ _); rw [HW1.out]; exact Blk.new _ _ _
  have HD1 : Hid (Dbl W1 g h n T) := hd.stay HB1.out
  have HGL : Hid (g < w.heap.size ∧ h < w.heap.size) := ⟨hd.wh.lt, hd.rf.lt⟩
  clear hd
  have HDD : Hid (Dbl W1.drew g h n T) := HD1.out.stay (below_drew (Below.refl _ _))
  have HKD : Hid (Blk W1.drew w.heap.size #[.int .i64 1, .int .i64 id, .int .i64 at_] 36) := HK1.out
  have b1 : W1.drew.cell? ⟨w.heap.size, 1, none⟩ = some (.int .i64 id) := HKD.out.cell 1 rfl
  obtain ⟨E, HE⟩ : ∃ E, Hid (E = (if hasT T id = true then (0 : Int) else 8)) := ⟨_, rfl⟩
  go_enter Tryd.func22, Tryd.ntmps22
  go_wp2
  rw [← HW1.out]
  go_region_held3 (fun w' => w'.cell? ⟨w.heap.size, 1, none⟩ = some (.int .i64 id)) (first | exact b1 | exact s2 | exact s3 | fail)
    (first
      | (go_at_call 14; refine (ww_Drop _ g n T id HDD.out.wh).mono ?_; rw [← HE.out]; rintro e w2 ⟨rfl, hx2, hg2⟩; have k2 := HKD.out.grown hg2 (by have := HGL.out; simp; omega); have s2 : w2.cell? ⟨w.heap.size, 1, none⟩ = some (.int .i64 id) := k2.cell 1 rfl)
      | (go_at_call 37; refine (ref_Drop _ h n T id (HDD.out.rf.grown hg2 (fun e => HDD.out.ne e.symm))).mono ?_; rw [← HE.out]; rintro e w3 ⟨rfl, hy3, hg3⟩; have k3 := k2.grown hg3 (by have := HGL.out; simp; omega); have s3 : w3.cell? ⟨w.heap.size, 1, none⟩ = some (.int .i64 id) := k3.cell 1 rfl))
  have HG2 : Hid (Gr2 W1.drew w2 g h) := Gr2.left h hg2
  have HG3 : Hid (Gr2 w2 w3 g h) := Gr2.right g hg3
  have HF : Hid (∃ n' T', Dbl w3 g h n' T') := ⟨n, _, hx2.out.grown hg3 HDD.out.ne, hy3.out, HDD.out.ne, HDD.out.g0, HDD.out.h0, (HDD.out.tab.gr2 (HG2.out.trans HG3.out) (Nat.lt_of_le_of_lt (Nat.zero_le _) HDD.out.wh.lt) HDD.out.g0 HDD.out.h0)⟩
  have HGF : Hid (Gr2 w w3 g h) := ((Gr2.low g h (below_drew HB1.out)).trans HG2.out).trans HG3.out
  clear hx2 hg2 hy3 hg3 k2 k3 s2 s3 b1
  go_wp2
  go_ret
  exact ⟨by simp, HF, HGF.out⟩

set_option maxRecDepth 100000 in
set_option maxHeartbeats 4000000 in
theorem do_2 (w : World) (g h n : Nat) (T : Nat → Option Nat) (id at_ : Int) (hd : Dbl w g h n T) :
    Calls Tryd.prog 22 #[.pointer (some ⟨g, 0, none⟩), .pointer (some ⟨h, 0, none⟩), .agg #[.int .i64 2, .int .i64 id, .int .i64 at_]] w fun e w' => e = .returned (.bool true) ∧ Hid (∃ n' T', Dbl w' g h n' T') ∧ Gr2 w w' g h := by
  obtain ⟨W1, HW1⟩ : ∃ W1, Hid (W1 = w.alloc (.cells #[.int .i64 2, .int .i64 id, .int .i64 at_] 36)) := ⟨_, rfl⟩
  have HB1 : Hid (Below w.heap.size w W1) := by (show Below _ _ _); rw [HW1.out]; exact below_alloc _ _
  have HK1 : Hid (Blk W1 w.heap.size #[.int .i64 2, .int .i64 id, .int .i64 at_] 36) := by (show Blk _ _ _ _); rw [HW1.out]; exact Blk.new _ _ _
  have HD1 : Hid (Dbl W1 g h n T) := hd.stay HB1.out
  have HGL : Hid (g < w.heap.size ∧ h < w.heap.size) := ⟨hd.wh.lt, hd.rf.lt⟩
  clear hd
  have b0 : W1.cell? ⟨w.heap.size, 0, none⟩ = some (.int .i64 2) := HK1.out.cell 0 rfl
  have b2 : W1.cell? ⟨w.heap.size, 2, none⟩ = some (.int .i64 at_) := HK1.out.cell 2 rfl
  have HGW : Hid (Gr2 w W1 g h) := Gr2.low g h HB1.out
  have HDW := HD1
  by_cases hr : (n : Int) ≤ at_ ∧ at_ ≤ 1099511627776
  · obtain ⟨to, rfl⟩ : ∃ to : Nat, at_ = (to : Int) := ⟨at_.toNat, by omega⟩
    have HTO : Hid (n ≤ to ∧ to ≤ 1099511627776) := by (show _ ∧ _); omega
    clear hr
    go_enter Tryd.func22, Tryd.ntmps22
    go_wp2_with fail
    rw [← HW1.out]
    refine (ww_Advance W1 g n T to HDW.out.wh HDW.out.tab HDW.out.g0 HTO.out.1 HTO.out.2).mono ?_
    rintro e w2 ⟨v2, rfl, hx2, ho2, hg2⟩
    obtain ⟨L2, ho2, ht2, hl2⟩ := ho2.out
    have HL2 : Hid (L2.length ≤ 64) := hl2
    obtain ⟨a2, n2, c2, rfl⟩ := own_slice ho2
    have HX2 : Hid (WW w2 g to (advT T to)) := hx2.out
    have HO2 : Hid (w2.ownsRow W1.heap.size 3 1 (.slice a2 n2 c2) L2.length (vi L2)) := ho2
    have HT2 : Hid (Told T to L2) := ht2
    have HG2 : Hid (Gr2 W1 w2 g h) := Gr2.left h hg2
    have HR2 : Hid (RW w2 h n T) := HDW.out.rf.grown hg2 (fun e => HDW.out.ne e.symm)
    have HWH : Hid (h < W1.heap.size) := HDW.out.rf.lt
    clear hx2 ho2 ht2 hg2 hl2
    go_wp2_with fail
    refine (ref_Advance w2 h n T to HR2.out HTO.out.1 HTO.out.2).mono ?_
    rintro e w3 ⟨v3, rfl, hy3, ho3, hg3⟩
    obtain ⟨L3, ho3, ht3⟩ := ho3.out
    obtain ⟨a3, n3, c3, rfl⟩ := own_slice ho3
    have HLL : Hid (L3 = L2) := ht3.canon HT2.out
    rw [HLL.out] at ho3
    have HA3 : Hid (IsRd w3 a3 n3 L2) := IsRd.of_own ho3
    have HA2 : Hid (IsRd w3 a2 n2 L2) := IsRd.of_own (own_stay HO2.out (fun q hq => hg3.block q (HO2.out.lt q hq).2 (fun e => by have := (HO2.out.lt q hq).1; have := HWH.out; simp only [Option.some.injEq] at e; omega)))
    have HG3 : Hid (Gr2 w2 w3 g h) := Gr2.right g hg3
    have HF3 : Hid (Dbl w3 g h to (advT T to)) := ⟨HX2.out.grown hg3 HDW.out.ne, hy3.out, HDW.out.ne, HDW.out.g0, HDW.out.h0, (HDW.out.tab.gr2 (HG2.out.trans HG3.out) (Nat.lt_of_le_of_lt (Nat.zero_le _) HDW.out.wh.lt) HDW.out.g0 HDW.out.h0)⟩
    have HN23 : Hid (n3 = n2) := by (show _ = _); rw [← HA2.out.size, ← HA3.out.size]
    obtain rfl : n3 = n2 := HN23.out
    have HNN : Hid (n3 ≤ 9223372036854775806) := by (show _ ≤ _); have := HA2.out.size; have := HL2.out; omega
    clear hy3 ho3 ht3 hg3
    go_wp2_with fail
    refine (ref_Same_alike w3 a2 a3 n3 c2 c3 L2 HA2.out HA3.out HNN.out).mono ?_
    rintro e w4 ⟨rfl, m4, hw4⟩
    have HB4 : Hid (Below w3.heap.size w3 w4) := by (show Below _ _ _); rw [hw4]; exact below_drews (Below.refl _ _) m4
    have HF : Hid (∃ n' T', Dbl w4 g h n' T') := ⟨_, _, HF3.out.stay HB4.out⟩
    have HGF : Hid (Gr2 w w4 g h) := ((HGW.out.trans HG2.out).trans HG3.out).trans (Gr2.low g h HB4.out)
    clear hw4
    go_wp2
    go_ret
    exact ⟨by simp, HF, HGF.out⟩
  · have hbad : at_ < (n : Int) ∨ 1099511627776 < at_ := by omega
    have HBAD : Hid (at_ < (n : Int) ∨ 1099511627776 < at_) := hbad
    clear hr hbad
    go_enter Tryd.func22, Tryd.ntmps22
    go_wp2_with fail
    rw [← HW1.out]
    refine (ww_Advance_bad W1 g n T at_ HDW.out.wh HBAD.out).mono ?_
    rintro e w2 ⟨rfl, hw2⟩
    rw [hw2]
    clear hw2 w2
    go_wp2_with fail
    refine (ref_Advance_bad W1 h n T at_ HDW.out.rf HBAD.out).mono ?_
    rintro e w2 ⟨rfl, hw2⟩
    rw [hw2]
    clear hw2 w2
    go_wp2_with fail
    refine (ref_Same_alike W1 none none 0 0 0 [] ⟨rfl, .inl rfl⟩ ⟨rfl, .inl rfl⟩ (by omega)).mono ?_
    rintro e w4 ⟨rfl, m4, hw4⟩
    have HB4 : Hid (Below W1.heap.size W1 w4) := by (show Below _ _ _); rw [hw4]; exact below_drews (Below.refl _ _) m4
    have HF : Hid (∃ n' T', Dbl w4 g h n' T') := ⟨_, _, HDW.out.stay HB4.out⟩
    have HGF : Hid (Gr2 w w4 g h) := HGW.out.trans (Gr2.low g h HB4.out)
    clear hw4
    go_wp2
    go_ret
    exact ⟨by simp, HF, HGF.out⟩

set_option maxRecDepth 100000 in
set_option maxHeartbeats 4000000 in
theorem do_3 (w : World) (g h n : Nat) (T : Nat → Option Nat) (id at_ : Int) (hd : Dbl w g h n T) :
    Calls Tryd.prog 22 #[.pointer (some ⟨g, 0, none⟩), .pointer (some ⟨h, 0, none⟩), .agg #[.int .i64 3, .int .i64 id, .int .i64 at_]] w fun e w' => e = .returned (.bool true) ∧ Hid (∃ n' T', Dbl w' g h n' T') ∧ Gr2 w w' g h := by
  obtain ⟨W1, HW1⟩ : ∃ W1, Hid (W1 = w.alloc (.cells #[.int .i64 3, .int .i64 id, .int .i64 at_] 36)) := ⟨_, rfl⟩
  have HB1 : Hid (Below w.heap.size w W1) := by (show Below _ _ _); rw [HW1.out]; exact below_alloc _ _
  have HK1 : Hid (Blk W1 w.heap.size #[.int .i64 3, .int .i64 id, .int .i64 at_] 36) := by (show Blk _ _ _ _); rw [HW1.out]; exact Blk.new _ _ _
  have HD1 : Hid (Dbl W1 g h n T) := hd.stay HB1.out
  have HGL : Hid (g < w.heap.size ∧ h < w.heap.size) := ⟨hd.wh.lt, hd.rf.lt⟩
  clear hd
  have b0 : W1.cell? ⟨w.heap.size, 0, none⟩ = some (.int .i64 3) := HK1.out.cell 0 rfl
  have b2 : W1.cell? ⟨w.heap.size, 2, none⟩ = some (.int .i64 at_) := HK1.out.cell 2 rfl
  have HGW : Hid (Gr2 w W1 g h) := Gr2.low g h HB1.out
  have HDW := HD1
  have HNM : Hid (n ≤ 1099511627776) := HDW.out.wh.nle
  have HN0 : Hid (W1.cell? ⟨h, 0, none⟩ = some (.int .i64 (n : Int))) := by
    obtain ⟨r, r1, r2, _⟩ := HDW.out.rf
    have := r1.now_cell
    rw [r2] at this
    exact this
  go_enter Tryd.func22, Tryd.ntmps22
  go_wp2_with fail
  rw [← HW1.out]
  refine (ref_Next W1 h n T HDW.out.rf).mono ?_
  rintro e w2 ⟨hn2, hw2⟩
  rw [hw2]
  clear hw2 w2
  obtain ⟨m, b, rfl, _, hm⟩ := hn2.out
  have c0 := HN0.out
  clear hn2
  cases b with
  | false =>
    have HTO : Hid (n ≤ n ∧ n ≤ 1099511627776) := ⟨Nat.le_refl _, HNM.out⟩
    clear hm
    go_wp2_with fail
    clear c0
    refine (ww_Advance W1 g n T n HDW.out.wh HDW.out.tab HDW.out.g0 HTO.out.1 HTO.out.2).mono ?_
    rintro e w2 ⟨v2, rfl, hx2, ho2, hg2⟩
    obtain ⟨L2, ho2, ht2, hl2⟩ := ho2.out
    have HL2 : Hid (L2.length ≤ 64) := hl2
    obtain ⟨a2, n2, c2, rfl⟩ := own_slice ho2
    have HX2 : Hid (WW w2 g n (advT T n)) := hx2.out
    have HO2 : Hid (w2.ownsRow W1.heap.size 3 1 (.slice a2 n2 c2) L2.length (vi L2)) := ho2
    have HT2 : Hid (Told T n L2) := ht2
    have HG2 : Hid (Gr2 W1 w2 g h) := Gr2.left h hg2
    have HR2 : Hid (RW w2 h n T) := HDW.out.rf.grown hg2 (fun e => HDW.out.ne e.symm)
    have HWH : Hid (h < W1.heap.size) := HDW.out.rf.lt
    clear hx2 ho2 ht2 hg2 hl2
    go_wp2_with fail
    refine (ref_Advance w2 h n T n HR2.out HTO.out.1 HTO.out.2).mono ?_
    rintro e w3 ⟨v3, rfl, hy3, ho3, hg3⟩
    obtain ⟨L3, ho3, ht3⟩ := ho3.out
    obtain ⟨a3, n3, c3, rfl⟩ := own_slice ho3
    have HLL : Hid (L3 = L2) := ht3.canon HT2.out
    rw [HLL.out] at ho3
    have HA3 : Hid (IsRd w3 a3 n3 L2) := IsRd.of_own ho3
    have HA2 : Hid (IsRd w3 a2 n2 L2) := IsRd.of_own (own_stay HO2.out (fun q hq => hg3.block q (HO2.out.lt q hq).2 (fun e => by have := (HO2.out.lt q hq).1; have := HWH.out; simp only [Option.some.injEq] at e; omega)))
    have HG3 : Hid (Gr2 w2 w3 g h) := Gr2.right g hg3
    have HF3 : Hid (Dbl w3 g h n (advT T n)) := ⟨HX2.out.grown hg3 HDW.out.ne, hy3.out, HDW.out.ne, HDW.out.g0, HDW.out.h0, (HDW.out.tab.gr2 (HG2.out.trans HG3.out) (Nat.lt_of_le_of_lt (Nat.zero_le _) HDW.out.wh.lt) HDW.out.g0 HDW.out.h0)⟩
    have HN23 : Hid (n3 = n2) := by (show _ = _); rw [← HA2.out.size, ← HA3.out.size]
    obtain rfl : n3 = n2 := HN23.out
    have HNN : Hid (n3 ≤ 9223372036854775806) := by (show _ ≤ _); have := HA2.out.size; have := HL2.out; omega
    clear hy3 ho3 ht3 hg3
    go_wp2_with fail
    refine (ref_Same_alike w3 a2 a3 n3 c2 c3 L2 HA2.out HA3.out HNN.out).mono ?_
    rintro e w4 ⟨rfl, m4, hw4⟩
    have HB4 : Hid (Below w3.heap.size w3 w4) := by (show Below _ _ _); rw [hw4]; exact below_drews (Below.refl _ _) m4
    have HF : Hid (∃ n' T', Dbl w4 g h n' T') := ⟨_, _, HF3.out.stay HB4.out⟩
    have HGF : Hid (Gr2 w w4 g h) := ((HGW.out.trans HG2.out).trans HG3.out).trans (Gr2.low g h HB4.out)
    clear hw4
    go_wp2
    go_ret
    exact ⟨by simp, HF, HGF.out⟩
  | true =>
    by_cases hmn : n < m
    · have hmn' : (n : Int) < (m : Int) := by omega
      have HTO : Hid (n ≤ m ∧ m ≤ 1099511627776) := by (show _ ∧ _); omega
      clear hm
      go_wp2_with fail
      clear c0
      refine (ww_Advance W1 g n T m HDW.out.wh HDW.out.tab HDW.out.g0 HTO.out.1 HTO.out.2).mono ?_
      rintro e w2 ⟨v2, rfl, hx2, ho2, hg2⟩
      obtain ⟨L2, ho2, ht2, hl2⟩ := ho2.out
      have HL2 : Hid (L2.length ≤ 64) := hl2
      obtain ⟨a2, n2, c2, rfl⟩ := own_slice ho2
      have HX2 : Hid (WW w2 g m (advT T m)) := hx2.out
      have HO2 : Hid (w2.ownsRow W1.heap.size 3 1 (.slice a2 n2 c2) L2.length (vi L2)) := ho2
      have HT2 : Hid (Told T m L2) := ht2
      have HG2 : Hid (Gr2 W1 w2 g h) := Gr2.left h hg2
      have HR2 : Hid (RW w2 h n T) := HDW.out.rf.grown hg2 (fun e => HDW.out.ne e.symm)
      have HWH : Hid (h < W1.heap.size) := HDW.out.rf.lt
      clear hx2 ho2 ht2 hg2 hl2
      go_wp2_with fail
      refine (ref_Advance w2 h n T m HR2.out HTO.out.1 HTO.out.2).mono ?_
      rintro e w3 ⟨v3, rfl, hy3, ho3, hg3⟩
      obtain ⟨L3, ho3, ht3⟩ := ho3.out
      obtain ⟨a3, n3, c3, rfl⟩ := own_slice ho3
      have HLL : Hid (L3 = L2) := ht3.canon HT2.out
      rw [HLL.out] at ho3
      have HA3 : Hid (IsRd w3 a3 n3 L2) := IsRd.of_own ho3
      have HA2 : Hid (IsRd w3 a2 n2 L2) := IsRd.of_own (own_stay HO2.out (fun q hq => hg3.block q (HO2.out.lt q hq).2 (fun e => by have := (HO2.out.lt q hq).1; have := HWH.out; simp only [Option.some.injEq] at e; omega)))
      have HG3 : Hid (Gr2 w2 w3 g h) := Gr2.right g hg3
      have HF3 : Hid (Dbl w3 g h m (advT T m)) := ⟨HX2.out.grown hg3 HDW.out.ne, hy3.out, HDW.out.ne, HDW.out.g0, HDW.out.h0, (HDW.out.tab.gr2 (HG2.out.trans HG3.out) (Nat.lt_of_le_of_lt (Nat.zero_le _) HDW.out.wh.lt) HDW.out.g0 HDW.out.h0)⟩
      have HN23 : Hid (n3 = n2) := by (show _ = _); rw [← HA2.out.size, ← HA3.out.size]
      obtain rfl : n3 = n2 := HN23.out
      have HNN : Hid (n3 ≤ 9223372036854775806) := by (show _ ≤ _); have := HA2.out.size; have := HL2.out; omega
      clear hy3 ho3 ht3 hg3
      go_wp2_with fail
      refine (ref_Same_alike w3 a2 a3 n3 c2 c3 L2 HA2.out HA3.out HNN.out).mono ?_
      rintro e w4 ⟨rfl, m4, hw4⟩
      have HB4 : Hid (Below w3.heap.size w3 w4) := by (show Below _ _ _); rw [hw4]; exact below_drews (Below.refl _ _) m4
      have HF : Hid (∃ n' T', Dbl w4 g h n' T') := ⟨_, _, HF3.out.stay HB4.out⟩
      have HGF : Hid (Gr2 w w4 g h) := ((HGW.out.trans HG2.out).trans HG3.out).trans (Gr2.low g h HB4.out)
      clear hw4
      go_wp2
      go_ret
      exact ⟨by simp, HF, HGF.out⟩
    · have hmn' : ¬ (n : Int) < (m : Int) := by omega
      have HTO : Hid (n ≤ n ∧ n ≤ 1099511627776) := ⟨Nat.le_refl _, HNM.out⟩
      clear hm
      go_wp2_with fail
      clear c0
      refine (ww_Advance W1 g n T n HDW.out.wh HDW.out.tab HDW.out.g0 HTO.out.1 HTO.out.2).mono ?_
      rintro e w2 ⟨v2, rfl, hx2, ho2, hg2⟩
      obtain ⟨L2, ho2, ht2, hl2⟩ := ho2.out
      have HL2 : Hid (L2.length ≤ 64) := hl2
      obtain ⟨a2, n2, c2, rfl⟩ := own_slice ho2
      have HX2 : Hid (WW w2 g n (advT T n)) := hx2.out
      have HO2 : Hid (w2.ownsRow W1.heap.size 3 1 (.slice a2 n2 c2) L2.length (vi L2)) := ho2
      have HT2 : Hid (Told T n L2) := ht2
      have HG2 : Hid (Gr2 W1 w2 g h) := Gr2.left h hg2
      have HR2 : Hid (RW w2 h n T) := HDW.out.rf.grown hg2 (fun e => HDW.out.ne e.symm)
      have HWH : Hid (h < W1.heap.size) := HDW.out.rf.lt
      clear hx2 ho2 ht2 hg2 hl2
      go_wp2_with fail
      refine (ref_Advance w2 h n T n HR2.out HTO.out.1 HTO.out.2).mono ?_
      rintro e w3 ⟨v3, rfl, hy3, ho3, hg3⟩
      obtain ⟨L3, ho3, ht3⟩ := ho3.out
      obtain ⟨a3, n3, c3, rfl⟩ := own_slice ho3
      have HLL : Hid (L3 = L2) := ht3.canon HT2.out
      rw [HLL.out] at ho3
      have HA3 : Hid (IsRd w3 a3 n3 L2) := IsRd.of_own ho3
      have HA2 : Hid (IsRd w3 a2 n2 L2) := IsRd.of_own (own_stay HO2.out (fun q hq => hg3.block q (HO2.out.lt q hq).2 (fun e => by have := (HO2.out.lt q hq).1; have := HWH.out; simp only [Option.some.injEq] at e; omega)))
      have HG3 : Hid (Gr2 w2 w3 g h) := Gr2.right g hg3
      have HF3 : Hid (Dbl w3 g h n (advT T n)) := ⟨HX2.out.grown hg3 HDW.out.ne, hy3.out, HDW.out.ne, HDW.out.g0, HDW.out.h0, (HDW.out.tab.gr2 (HG2.out.trans HG3.out) (Nat.lt_of_le_of_lt (Nat.zero_le _) HDW.out.wh.lt) HDW.out.g0 HDW.out.h0)⟩
      have HN23 : Hid (n3 = n2) := by (show _ = _); rw [← HA2.out.size, ← HA3.out.size]
      obtain rfl : n3 = n2 := HN23.out
      have HNN : Hid (n3 ≤ 9223372036854775806) := by (show _ ≤ _); have := HA2.out.size; have := HL2.out; omega
      clear hy3 ho3 ht3 hg3
      go_wp2_with fail
      refine (ref_Same_alike w3 a2 a3 n3 c2 c3 L2 HA2.out HA3.out HNN.out).mono ?_
      rintro e w4 ⟨rfl, m4, hw4⟩
      have HB4 : Hid (Below w3.heap.size w3 w4) := by (show Below _ _ _); rw [hw4]; exact below_drews (Below.refl _ _) m4
      have HF : Hid (∃ n' T', Dbl w4 g h n' T') := ⟨_, _, HF3.out.stay HB4.out⟩
      have HGF : Hid (Gr2 w w4 g h) := ((HGW.out.trans HG2.out).trans HG3.out).trans (Gr2.low g h HB4.out)
      clear hw4
      go_wp2
      go_ret
      exact ⟨by simp, HF, HGF.out⟩

set_option maxRecDepth 100000 in
set_option maxHeartbeats 4000000 in
theorem do_N (w : World) (g h n : Nat) (T : Nat → Option Nat) (k id at_ : Int) (hd : Dbl w g h n T) (h0 : k ≠ 0) (h1 : k ≠ 1) (h2 : k ≠ 2) (h3 : k ≠ 3) :
    Calls Tryd.prog 22 #[.pointer (some ⟨g, 0, none⟩), .pointer (some ⟨h, 0, none⟩), .agg #[.int .i64 k, .int .i64 id, .int .i64 at_]] w fun e w' => e = .returned (.bool true) ∧ Hid (∃ n' T', Dbl w' g h n' T') ∧ Gr2 w w' g h := by
  obtain ⟨W1, HW1⟩ : ∃ W1, Hid (W1 = w.alloc (.cells #[.int .i64 k, .int .i64 id, .int .i64 at_] 36)) := ⟨_, rfl⟩
  have HB1 : Hid (Below w.heap.size w W1) := by (show Below _ _ _); rw [HW1.out]; exact below_alloc _ _
  have HK1 : Hid (Blk W1 w.heap.size #[.int .i64 k, .int .i64 id, .int .i64 at_] 36) := by (show Blk _ _ _ _); rw [HW1.out]; exact Blk.new _ _ _
  have HD1 : Hid (Dbl W1 g h n T) := hd.stay HB1.out
  have HGL : Hid (g < w.heap.size ∧ h < w.heap.size) := ⟨hd.wh.lt, hd.rf.lt⟩
  clear hd
  have e0 : (k == 0) = false := by rw [beq_eq_false_iff_ne]; exact h0
  have e1 : (k == 1) = false := by rw [beq_eq_false_iff_ne]; exact h1
  have e2 : (k == 2) = false := by rw [beq_eq_false_iff_ne]; exact h2
  have e3 : (k == 3) = false := by rw [beq_eq_false_iff_ne]; exact h3
  have HDD : Hid (∀ m, Dbl (W1.drewN m) g h n T) := fun m => HD1.out.stay (below_drews (Below.refl _ _) m)
  have HNC : Hid (∀ m, Calls Tryd.prog 17 #[.pointer (some ⟨g, 0, none⟩)] (W1.drewN m) fun e w' => e = .returned (.int .i64 (n : Int)) ∧ w' = W1.drewN m) := fun m => ww_Now _ g n T (HDD.out m).wh
  have c0 : W1.cell? ⟨h, 0, none⟩ = some (.int .i64 (n : Int)) := by
    obtain ⟨r, r1, r2, _⟩ := HD1.out.rf
    have := r1.now_cell
    rw [r2] at this
    exact this
  clear h0 h1 h2 h3
  go_enter Tryd.func22, Tryd.ntmps22
  go_wp2
  rw [← HW1.out]
  go_quiet ((go_at_call 17; exact Calls.quiet_of_same (HNC.out _)))
  generalize hnq : World.drewN _ _ = wq
  have HBQ : Hid (Below W1.heap.size W1 wq) := by (show Below _ _ _); rw [← hnq]; exact below_drews (Below.refl _ _) _
  have HF : Hid (∃ n' T', Dbl wq g h n' T') := ⟨_, _, HD1.out.stay HBQ.out⟩
  have HGF : Hid (Gr2 w wq g h) := (Gr2.low g h HB1.out).trans (Gr2.low g h HBQ.out)
  clear hnq c0
  go_wp2
  go_ret
  exact ⟨by simp, HF, HGF.out⟩

theorem law_do12 (w : World) (g h n : Nat) (T : Nat → Option Nat) (k id at_ : Int) (hd : Dbl w g h n T) :
    Calls Tryd.prog 22 #[.pointer (some ⟨g, 0, none⟩), .pointer (some ⟨h, 0, none⟩), .agg #[.int .i64 k, .int .i64 id, .int .i64 at_]] w fun e w' => e = .returned (.bool true) ∧ Hid (∃ n' T', Dbl w' g h n' T') ∧ Gr2 w w' g h := by
  by_cases h0 : k = 0
  · subst h0; exact do_0 w g h n T id at_ hd
  · by_cases h1 : k = 1
    · subst h1; exact do_1 w g h n T id at_ hd
    · by_cases h2 : k = 2
      · subst h2; exact do_2 w g h n T id at_ hd
      · by_cases h3 : k = 3
        · subst h3; exact do_3 w g h n T id at_ hd
        · exact do_N w g h n T k id at_ hd h0 h1 h2 h3
end Go.Proofs.YteiadaonihgbfaaDoor
