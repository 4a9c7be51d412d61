/- grapevineref12: a wheel in memory; New, Set, At, Drop, Fork, Next. -/
import Derived.Test.YteiadaonihgbfaaDoorWhT2
import Derived.Test.YteiadaonihgbfaaDoorWh17
namespace Go.Proofs.YteiadaonihgbfaaDoor
open Go.RowKit

structure Rf where
  now : Nat
  there : List Bool
  whn : List Nat
def Rf.cells (r : Rf) : List Value := .int .i64 (r.now : Int) :: ((r.there.map fun (b : Bool) => Value.bool b) ++ (r.whn.map fun (x : Nat) => Value.int .i64 (x : Int)))
structure Rw (w : World) (h : Nat) (r : Rf) : Prop where
  blk : Blk w h r.cells.toArray 61
  tl : r.there.length = 65
  wl : r.whn.length = 65
  nw : r.now ≤ 1099511627776
  ww : ∀ i, r.whn.getD i 0 ≤ 1099511627776
theorem Rw.grown {w w' : World} {h k : Nat} {r : Rf} (hr : Rw w h r) (hg : w.grownBy w' (some k)) (hne : h ≠ k) : Rw w' h r := ⟨hr.blk.grown hg (by simpa using hne), hr.tl, hr.wl, hr.nw, hr.ww⟩
theorem Rw.stay {w w' : World} {h : Nat} {r : Rf} (hr : Rw w h r) (hb : Below w.heap.size w w') : Rw w' h r := ⟨hr.blk.stay hb, hr.tl, hr.wl, hr.nw, hr.ww⟩
theorem Rw.now_cell {w : World} {h : Nat} {r : Rf} (hr : Rw w h r) : w.cell? ⟨h, 0, none⟩ = some (.int .i64 (r.now : Int)) := hr.blk.cell 0 rfl
theorem Rw.there_cell {w : World} {h : Nat} {r : Rf} (hr : Rw w h r) {i : Nat} (hi : i < 65) : w.cell? ⟨h, 1 + i, none⟩ = some (.bool (r.there.getD i false)) := by
  have hl : i < r.there.length := by rw [hr.tl]; exact hi
  refine hr.blk.cell (1 + i) ?_
  rw [List.getElem?_toArray, Rf.cells, Nat.add_comm, List.getElem?_cons_succ, List.getElem?_append_left (by simpa using hl), List.getElem?_map, List.getD_eq_getElem?_getD, List.getElem?_eq_getElem hl]
  rfl
theorem Rw.whn_cell {w : World} {h : Nat} {r : Rf} (hr : Rw w h r) {i : Nat} (hi : i < 65) : w.cell? ⟨h, 66 + i, none⟩ = some (.int .i64 ((r.whn.getD i 0 : Nat) : Int)) := by
  have hl : i < r.whn.length := by rw [hr.wl]; exact hi
  refine hr.blk.cell (66 + i) ?_
  rw [List.getElem?_toArray, Rf.cells, show 66 + i = (65 + i) + 1 from by omega, List.getElem?_cons_succ, List.getElem?_append_right (by rw [List.length_map, hr.tl]; omega), List.length_map, hr.tl, show 65 + i - 65 = i from by omega, List.getElem?_map, List.getD_eq_getElem?_getD, List.getElem?_eq_getElem hl]
  rfl
theorem Rw.free {w : World} {h : Nat} {r : Rf} (hr : Rw w h r) (i : Nat) : w.frozen? ⟨h, i, none⟩ = false := hr.blk.free i
theorem Rw.set_now {w : World} {h : Nat} {r : Rf} (hr : Rw w h r) {x : Nat} (hx : x ≤ 1099511627776) : Rw (w.setCell ⟨h, 0, none⟩ (.int .i64 (x : Int))) h { r with now := x } :=
  ⟨by have := hr.blk.set 0 (.int .i64 (x : Int)); simpa [Rf.cells] using this, hr.tl, hr.wl, hx, hr.ww⟩
theorem Rw.set_there {w : World} {h : Nat} {r : Rf} (hr : Rw w h r) {i : Nat} (hi : i < 65) (b : Bool) : Rw (w.setCell ⟨h, 1 + i, none⟩ (.bool b)) h { r with there := r.there.set i b } := by
  refine ⟨?_, by simp only [List.length_set]; exact hr.tl, hr.wl, hr.nw, hr.ww⟩
  have := hr.blk.set (1 + i) (.bool b)
  have e : (r.cells.toArray.setIfInBounds (1 + i) (.bool b)) = ({ r with there := r.there.set i b } : Rf).cells.toArray := by
    rw [List.setIfInBounds_toArray, Rf.cells, Rf.cells, Nat.add_comm, List.set_cons_succ, List.set_append_left _ _ (by rw [List.length_map, hr.tl]; exact hi), List.map_set]
  rw [e] at this
  exact this
theorem Rw.set_whn {w : World} {h : Nat} {r : Rf} (hr : Rw w h r) {i x : Nat} (hi : i < 65) (hx : x ≤ 1099511627776) : Rw (w.setCell ⟨h, 66 + i, none⟩ (.int .i64 (x : Int))) h { r with whn := r.whn.set i x } := by
  refine ⟨?_, hr.tl, by simp only [List.length_set]; exact hr.wl, hr.nw, fun j => ?_⟩
  · have := hr.blk.set (66 + i) (.int .i64 (x : Int))
    have e : (r.cells.toArray.setIfInBounds (66 + i) (.int .i64 (x : Int))) = ({ r with whn := r.whn.set i x } : Rf).cells.toArray := by
      rw [List.setIfInBounds_toArray, Rf.cells, Rf.cells, show 66 + i = (65 + i) + 1 from by omega, List.set_cons_succ, List.set_append_right _ _ (by rw [List.length_map, hr.tl]; omega), List.length_map, hr.tl, show 65 + i - 65 = i from by omega, List.map_set]
    rw [e] at this
    exact this
  · show (r.whn.set i x).getD j 0 ≤ _
    rw [getD_set _ _ _ _ (by rw [hr.wl]; exact hi)]
    split
    · exact hx
    · exact hr.ww j
def tR (r : Rf) (i : Nat) : Option Nat := if r.there.getD (i + 1) false = true then some (r.whn.getD (i + 1) 0) else none
/-- A reference's wheel, by its tick and its timers. -/
def RW (w : World) (h n : Nat) (T : Nat → Option Nat) : Prop := ∃ r, Rw w h r ∧ r.now = n ∧ ∀ i, i < 64 → T i = tR r i
theorem RW.grown {w w' : World} {h k n : Nat} {T : Nat → Option Nat} (hr : RW w h n T) (hg : w.grownBy w' (some k)) (hne : h ≠ k) : RW w' h n T := by
  obtain ⟨r, h1, h2, h3⟩ := hr
  exact ⟨r, h1.grown hg hne, h2, h3⟩
theorem RW.stay {w w' : World} {h n : Nat} {T : Nat → Option Nat} (hr : RW w h n T) (hb : Below w.heap.size w w') : RW w' h n T := by
  obtain ⟨r, h1, h2, h3⟩ := hr
  exact ⟨r, h1.stay hb, h2, h3⟩
theorem RW.lt {w : World} {h n : Nat} {T : Nat → Option Nat} (hr : RW w h n T) : h < w.heap.size := by
  obtain ⟨r, h1, _⟩ := hr
  exact h1.blk.lt
theorem getDb_set (l : List Bool) (i : Nat) (x : Bool) (k : Nat) (hi : i < l.length) : (l.set i x).getD k false = if k = i then x else l.getD k false := by
  rw [List.getD_eq_getElem?_getD, List.getElem?_set]
  by_cases h : k = i
  · subst h
    rw [if_pos rfl, if_pos hi, if_pos rfl]
    rfl
  · rw [if_neg (fun e => h e.symm), if_neg h, List.getD_eq_getElem?_getD]

theorem setE_bad {id at_ : Int} (h : ¬ (namedB id = true ∧ 0 ≤ at_ ∧ at_ ≤ 1099511627776)) : setE id at_ = 2 := by unfold setE; rw [if_neg h]
theorem setE_good {id at_ : Int} (h : namedB id = true ∧ 0 ≤ at_ ∧ at_ ≤ 1099511627776) : setE id at_ = 0 := by unfold setE; rw [if_pos h]

set_option maxRecDepth 100000 in
set_option maxHeartbeats 4000000 in
theorem ref_Set (w : World) (h n : Nat) (T : Nat → Option Nat) (id at_ : Int) (hr : RW w h n T) :
    Calls Tryd.prog 36 #[.pointer (some ⟨h, 0, none⟩), .int .i64 id, .int .i64 at_] w fun e w' => e = .returned (.int .i64 (setE id at_)) ∧ Hid (RW w' h n (setT T id at_)) ∧ w.grownBy w' (some h) := by
  obtain ⟨E, HE⟩ : ∃ E, Hid (E = setE id at_) := ⟨_, rfl⟩
  rw [← HE.out]
  have HRW : Hid (RW w h n T) := hr
  by_cases hc : namedB id = true ∧ 0 ≤ at_ ∧ at_ ≤ 1099511627776
  · have HX : Hid (E = 0) := by show _ = _; rw [HE.out, setE_good hc]
    obtain ⟨hid1, hid2⟩ := (named_iff id).1 hc.1
    obtain ⟨x, rfl⟩ : ∃ x : Nat, id = (x : Int) := ⟨id.toNat, by omega⟩
    obtain ⟨t, rfl⟩ : ∃ t : Nat, at_ = (t : Int) := ⟨at_.toNat, by omega⟩
    have HC : Hid (namedB (x : Int) = true ∧ 0 ≤ (t : Int) ∧ (t : Int) ≤ 1099511627776) := hc
    have h1 : ¬ (x : Int) < 1 := by omega
    have h2 : ¬ (64 : Int) < (x : Int) := by omega
    have h3 : ¬ (t : Int) < 0 := by omega
    have h4 : ¬ (1099511627776 : Int) < (t : Int) := by omega
    have h5 : (0 : Int) ≤ (x : Int) := by omega
    have h6 : (x : Int) < 65 := by omega
    obtain ⟨r, r1, r2, r3⟩ := hr
    have c1 := r1.there_cell (i := x) (by omega)
    have f1 : w.frozen? ⟨h, 1 + x, none⟩ = false := r1.free _
    have r4 := r1.set_there (i := x) (by omega) true
    have c2 := r4.whn_cell (i := x) (by omega)
    have f2 : (w.setCell ⟨h, 1 + x, none⟩ (.bool true)).frozen? ⟨h, 66 + x, none⟩ = false := r4.free _
    have HR2 : Hid (RW ((w.setCell ⟨h, 1 + x, none⟩ (.bool true)).setCell ⟨h, 66 + x, none⟩ (.int .i64 (t : Int))) h n (setT T (x : Int) (t : Int))) := by
      refine ⟨_, r4.set_whn (i := x) (x := t) (by omega) (by omega), r2, fun i hi => ?_⟩
      unfold setT
      rw [if_pos HC.out, show ((x : Int) - 1).toNat = x - 1 from by omega, Int.toNat_natCast]
      unfold upd tR
      show _ = if (r.there.set x true).getD (i + 1) false = true then some ((r.whn.set x t).getD (i + 1) 0) else none
      rw [getDb_set _ _ _ _ (by rw [r1.tl]; omega), getD_set _ _ _ _ (by rw [r1.wl]; omega)]
      by_cases hix : i = x - 1
      · have hx1 : i + 1 = x := by omega
        rw [if_pos hix, if_pos hx1, if_pos hx1]
        rfl
      · have hx1 : ¬ (i + 1 = x) := by omega
        rw [if_neg hix, if_neg hx1, if_neg hx1, r3 i hi]
        rfl
    have HG : Hid (w.grownBy ((w.setCell ⟨h, 1 + x, none⟩ (.bool true)).setCell ⟨h, 66 + x, none⟩ (.int .i64 (t : Int))) (some h)) := grown_trans (grown_cell _ _ _ _) (grown_cell _ _ _ _)
    clear r1 r2 r3 r4 hc
    go_enter Tryd.func36, Tryd.ntmps36
    go_wp2
    go_ret
    exact ⟨by rw [HX.out]; rfl, HR2, HG.out⟩
  · have HX : Hid (E = 2) := by show _ = _; rw [HE.out, setE_bad hc]
    have HN : Hid (RW w h n (setT T id at_)) := by unfold setT; rw [if_neg hc]; exact hr
    have hn : id < 1 ∨ 64 < id ∨ at_ < 0 ∨ 1099511627776 < at_ := by
      have := named_iff id
      by_cases c1 : namedB id = true
      · by_cases c2 : 0 ≤ at_
        · exact .inr (.inr (.inr (Int.lt_of_not_ge fun c3 => hc ⟨c1, c2, c3⟩)))
        · exact .inr (.inr (.inl (by omega)))
      · have : ¬ (1 ≤ id ∧ id ≤ 64) := fun c => c1 (this.2 c)
        omega
    clear hc hr
    by_cases h1 : id < 1
    · go_enter Tryd.func36, Tryd.ntmps36
      go_wp2
      go_ret
      exact ⟨by rw [HX.out]; rfl, HN, grown_refl _ _⟩
    · by_cases h2 : 64 < id
      · go_enter Tryd.func36, Tryd.ntmps36
        go_wp2
        go_ret
        exact ⟨by rw [HX.out]; rfl, HN, grown_refl _ _⟩
      · by_cases h3 : at_ < 0
        · go_enter Tryd.func36, Tryd.ntmps36
          go_wp2
          go_ret
          exact ⟨by rw [HX.out]; rfl, HN, grown_refl _ _⟩
        · have h4 : 1099511627776 < at_ := by omega
          clear hn
          go_enter Tryd.func36, Tryd.ntmps36
          go_wp2
          go_ret
          exact ⟨by rw [HX.out]; rfl, HN, grown_refl _ _⟩

set_option maxRecDepth 100000 in
set_option maxHeartbeats 4000000 in
theorem ref_At (w : World) (h n : Nat) (T : Nat → Option Nat) (id : Int) (hr : RW w h n T) :
    Calls Tryd.prog 27 #[.pointer (some ⟨h, 0, none⟩), .int .i64 id] w fun e w' => e = .returned (.tuple #[.int .i64 (atT T id : Int), .bool (hasT T id)]) ∧ w' = w := by
  obtain ⟨r, r1, r2, r3⟩ := hr
  obtain ⟨R, HR⟩ : ∃ R, Hid (R = atT T id) := ⟨_, rfl⟩
  obtain ⟨B, HB⟩ : ∃ B, Hid (B = hasT T id) := ⟨_, rfl⟩
  rw [← HR.out, ← HB.out]
  by_cases hn : namedB id = true
  · obtain ⟨hid1, hid2⟩ := (named_iff id).1 hn
    obtain ⟨x, rfl⟩ : ∃ x : Nat, id = (x : Int) := ⟨id.toNat, by omega⟩
    have h1 : ¬ (x : Int) < 1 := by omega
    have h2 : ¬ (64 : Int) < (x : Int) := by omega
    have h5 : (0 : Int) ≤ (x : Int) := by omega
    have h6 : (x : Int) < 65 := by omega
    have c1 := r1.there_cell (i := x) (by omega)
    have c2 := r1.whn_cell (i := x) (by omega)
    have hT : T (x - 1) = tR r (x - 1) := r3 _ (by omega)
    unfold tR at hT
    rw [show x - 1 + 1 = x from by omega] at hT
    have e1 : hasT T (x : Int) = (T (x - 1)).isSome := by unfold hasT; rw [hn, Bool.true_and, show ((x : Int) - 1).toNat = x - 1 from by omega]
    have e2 : atT T (x : Int) = if (T (x - 1)).isSome = true then (T (x - 1)).getD 0 else 0 := by unfold atT; rw [e1, show ((x : Int) - 1).toNat = x - 1 from by omega]
    generalize r.whn.getD x 0 = d at c2 hT
    cases hb : r.there.getD x false with
    | true =>
      rw [hb] at c1 hT
      rw [if_pos rfl] at hT
      have HX : Hid (R = d ∧ B = true) := ⟨by rw [HR.out, e2, hT]; rfl, by rw [HB.out, e1, hT]; rfl⟩
      clear r1 r2 r3 hT e1 e2 hn hb
      go_enter Tryd.func27, Tryd.ntmps27
      go_wp2
      go_returns
      exact ⟨by rw [HX.out.1, HX.out.2]; rfl, rfl⟩
    | false =>
      rw [hb] at c1 hT
      rw [if_neg (by decide)] at hT
      have HX : Hid (R = 0 ∧ B = false) := ⟨by rw [HR.out, e2, hT]; rfl, by rw [HB.out, e1, hT]; rfl⟩
      clear r1 r2 r3 hT e1 e2 hn hb
      go_enter Tryd.func27, Tryd.ntmps27
      go_wp2
      go_returns
      exact ⟨by rw [HX.out.1, HX.out.2]; rfl, rfl⟩
  · have e1 : hasT T id = false := by unfold hasT; rw [Bool.not_eq_true] at hn; rw [hn]; rfl
    have HX : Hid (R = 0 ∧ B = false) := ⟨by rw [HR.out, atT, e1]; rfl, by rw [HB.out, e1]⟩
    have hn2 : ¬ (1 ≤ id ∧ id ≤ 64) := fun c => hn ((named_iff id).2 c)
    clear r1 r2 r3 e1 hn
    by_cases h1 : id < 1
    · go_enter Tryd.func27, Tryd.ntmps27
      go_wp2
      go_returns
      exact ⟨by rw [HX.out.1, HX.out.2]; rfl, rfl⟩
    · have h2 : 64 < id := by omega
      clear hn2
      go_enter Tryd.func27, Tryd.ntmps27
      go_wp2
      go_returns
      exact ⟨by rw [HX.out.1, HX.out.2]; rfl, rfl⟩

set_option maxRecDepth 100000 in
set_option maxHeartbeats 4000000 in
theorem ref_Drop (w : World) (h n : Nat) (T : Nat → Option Nat) (id : Int) (hr : RW w h n T) :
    Calls Tryd.prog 37 #[.pointer (some ⟨h, 0, none⟩), .int .i64 id] w fun e w' => e = .returned (.int .i64 (if hasT T id = true then 0 else 8)) ∧ Hid (RW w' h n (dropT T id)) ∧ w.grownBy w' (some h) := by
  have HA := ref_At w h n T id hr
  cases hh : hasT T id with
  | false =>
    have HN : Hid (RW w h n (dropT T id)) := by unfold dropT; rw [hh]; exact hr
    rw [hh] at HA
    generalize atT T id = R at HA
    clear hh hr
    go_enter Tryd.func37, Tryd.ntmps37
    go_wp2_with fail
    refine HA.mono ?_
    rintro e w1 ⟨rfl, hw1⟩
    rw [hw1]
    clear hw1 w1 HA
    go_wp2
    go_ret
    exact ⟨rfl, HN, grown_refl _ _⟩
  | true =>
    have hn : namedB id = true := by unfold hasT at hh; rw [Bool.and_eq_true] at hh; exact hh.1
    obtain ⟨hid1, hid2⟩ := (named_iff id).1 hn
    obtain ⟨x, rfl⟩ : ∃ x : Nat, id = (x : Int) := ⟨id.toNat, by omega⟩
    have h5 : (0 : Int) ≤ (x : Int) := by omega
    have h6 : (x : Int) < 65 := by omega
    obtain ⟨r, r1, r2, r3⟩ := hr
    have c1 := r1.there_cell (i := x) (by omega)
    have f1 : w.frozen? ⟨h, 1 + x, none⟩ = false := r1.free _
    have HN : Hid (RW (w.setCell ⟨h, 1 + x, none⟩ (.bool false)) h n (dropT T (x : Int))) := by
      refine ⟨_, r1.set_there (i := x) (by omega) false, r2, fun i hi => ?_⟩
      unfold dropT
      rw [if_pos hh, show ((x : Int) - 1).toNat = x - 1 from by omega]
      unfold upd tR
      show _ = if (r.there.set x false).getD (i + 1) false = true then some (r.whn.getD (i + 1) 0) else none
      rw [getDb_set _ _ _ _ (by rw [r1.tl]; omega)]
      by_cases hix : i = x - 1
      · have hx1 : i + 1 = x := by omega
        rw [if_pos hix, if_pos hx1]
        rfl
      · have hx1 : ¬ (i + 1 = x) := by omega
        rw [if_neg hix, if_neg hx1, r3 i hi]
        rfl
    have HG : Hid (w.grownBy (w.setCell ⟨h, 1 + x, none⟩ (.bool false)) (some h)) := grown_cell _ _ _ _
    rw [hh] at HA
    generalize atT T (x : Int) = R at HA
    clear r1 r2 r3 hh hn
    go_enter Tryd.func37, Tryd.ntmps37
    go_wp2_with fail
    refine HA.mono ?_
    rintro e w1 ⟨rfl, hw1⟩
    rw [hw1]
    clear hw1 w1 HA
    go_wp2
    go_ret
    exact ⟨rfl, HN, HG.out⟩
end Go.Proofs.YteiadaonihgbfaaDoor
