/- slices.swapRangeCmpFunc, slices.rotateCmpFunc: walked over a row of one's own. -/
import Derived.Test.YteiadaonihgbfaaDoorWhS1
import Derived.Test.YteiadaonihgbfaaDoorWh12
namespace Go.Proofs.YteiadaonihgbfaaDoor
open Go.RowKit

theorem grown_refl (w : World) (k : Nat) : w.grownBy w (some k) := ⟨rfl, rfl, rfl, Nat.le_refl _, fun _ _ _ => rfl⟩
theorem grown_drew {w w' : World} {k : Nat} (h : w.grownBy w' (some k)) : w.grownBy w'.drew (some k) := ⟨h.os, h.tape, h.output, h.size, h.block⟩
theorem grown_drews {w w' : World} {k : Nat} (h : w.grownBy w' (some k)) (n : Nat) : w.grownBy (w'.drewN n) (some k) := ⟨h.os, h.tape, h.output, h.size, h.block⟩
theorem Row.drew {w : World} {base kb n c : Nat} {l : List Nat} (h : Row w base kb n c l) : Row w.drew base kb n c l := h.drews 1
/-- What a swap of two cells of a row wants, and leaves. -/
structure Pr (w : World) (base kb n c : Nat) (l : List Nat) (P Q x y : Nat) : Prop where
  x2 : w.cell? ⟨kb, P, none⟩ = some (.int .i64 (x : Int))
  x1 : w.cell? ⟨kb, Q, none⟩ = some (.int .i64 (y : Int))
  f2 : w.frozen? ⟨kb, P, none⟩ = false
  x3 : (w.setCell ⟨kb, P, none⟩ (.int .i64 (y : Int))).cell? ⟨kb, Q, none⟩ = some (.int .i64 (y : Int))
  f3 : (w.setCell ⟨kb, P, none⟩ (.int .i64 (y : Int))).frozen? ⟨kb, Q, none⟩ = false
  row : Row ((w.setCell ⟨kb, P, none⟩ (.int .i64 (y : Int))).setCell ⟨kb, Q, none⟩ (.int .i64 (x : Int))) base kb n c ((l.set P (l.getD Q 0)).set Q (l.getD P 0))
  grown : w.grownBy ((w.setCell ⟨kb, P, none⟩ (.int .i64 (y : Int))).setCell ⟨kb, Q, none⟩ (.int .i64 (x : Int))) (some kb)
theorem Row.pair {w : World} {base kb n c : Nat} {l : List Nat} (h : Row w base kb n c l) {P Q : Nat} (hP : P < n) (hQ : Q < n) (hne : P ≠ Q) : ∃ x y, (x ≤ 64 ∧ y ≤ 64) ∧ Hid (x = l.getD P 0 ∧ y = l.getD Q 0) ∧ Pr w base kb n c l P Q x y := by
  have hx := h.num hP
  have hy := h.num hQ
  refine ⟨_, _, ⟨hx.2, hy.2⟩, ⟨rfl, rfl⟩, h.cell hP, h.cell hQ, h.free P, ?_, ?_, ⟨?_, ?_, ?_⟩, grown_trans (grown_cell _ _ _ _) (grown_cell _ _ _ _)⟩
  · have e1 := (h.own.stored P (.int .i64 ((l.getD Q 0 : Nat) : Int))).1
    rw [e1.cellAt Q (by omega), List.getElem?_set, if_neg (by omega), vi, List.getElem?_map, List.getD_eq_getElem?_getD, List.getElem?_eq_getElem (by rw [h.len]; exact hQ)]
    rfl
  · rcases (h.own.stored P (.int .i64 ((l.getD Q 0 : Nat) : Int))).1.2 with ⟨e1, _⟩ | ⟨k', c', cur, e1, _, e3, _⟩
    · cases e1
    · simp only [Value.slice.injEq, Option.some.injEq, Addr.mk.injEq, and_true] at e1
      rw [e1.1] at e3 ⊢
      exact frozen_of_row _ k' Q cur _ e3
  · have h1 := (h.own.stored P (.int .i64 ((l.getD Q 0 : Nat) : Int))).1
    have h2 := (h1.stored Q (.int .i64 ((l.getD P 0 : Nat) : Int))).1
    have e : vi ((l.set P (l.getD Q 0)).set Q (l.getD P 0)) = ((vi l).set P (.int .i64 ((l.getD Q 0 : Nat) : Int))).set Q (.int .i64 ((l.getD P 0 : Nat) : Int)) := by simp [vi, List.map_set]
    rw [e]
    exact h2
  · intro z hz
    rcases List.mem_or_eq_of_mem_set hz with hz | rfl
    · rcases List.mem_or_eq_of_mem_set hz with hz | rfl
      · exact h.nums z hz
      · exact hy
    · exact hx
  · rw [List.length_set, List.length_set, h.len]

set_option maxRecDepth 100000 in
set_option maxHeartbeats 8000000 in
theorem wh_swr (w : World) (base kb n c : Nat) (l : List Nat) (f : Value) (a b m : Nat) (hr : Row w base kb n c l) (hab : a + m ≤ b) (hbn : b + m ≤ n) (hn : n ≤ 64) :
    Calls Tryd.prog 51 #[.slice (some ⟨kb, 0, none⟩) n c, .int .i64 (a : Int), .int .i64 (b : Int), .int .i64 (m : Int), f] w fun e w' => e = .returned (.tuple #[]) ∧ Hid (∃ l', Row w' base kb n c l' ∧ By l l' (swpF a b m)) ∧ w.grownBy w' (some kb) := by
  have HR0 : Hid (Row w base kb n c l) := hr
  clear hr
  go_enter Tryd.func51, Tryd.ntmps51
  go_wp2
  go_loopw [10] (fun t10 wr => ∃ (i : Nat) (l1 : List Nat), i ≤ m ∧ t10 = .int .i64 (i : Int) ∧ Hid (By l l1 (swpF a b i)) ∧ Hid (Row wr base kb n c l1) ∧ Hid (w.grownBy wr (some kb))) (fun t10 _ => m - (intOf t10).toNat)
  case atStart => exact ⟨0, l, by omega, rfl, (By.refl l).congr (fun k => by rw [swpF, if_neg (by omega), if_neg (by omega)]), HR0, grown_refl _ _⟩
  case round =>
    obtain ⟨i, l1, him, rfl, HBY, HRW, HG⟩ := hrel
    by_cases hi : i < m
    · have hi' : (i : Int) < (m : Int) := by omega
      obtain ⟨P, hP⟩ : ∃ P, P = a + i := ⟨_, rfl⟩
      obtain ⟨Q, hQ⟩ : ∃ Q, Q = b + i := ⟨_, rfl⟩
      have HPQ : Hid (P = a + i ∧ Q = b + i) := ⟨hP, hQ⟩
      have q1 : IntKind.i64.wrap (P : Int) = (P : Int) := by rw [IntKind.wrap_i64]; omega
      have q2 : IntKind.i64.wrap (Q : Int) = (Q : Int) := by rw [IntKind.wrap_i64]; omega
      have q3 : (a : Int) + (i : Int) = (P : Int) := by omega
      have q4 : (b : Int) + (i : Int) = (Q : Int) := by omega
      have p0 : (0 : Int) ≤ (P : Int) := by omega
      have p1 : (P : Int) < (n : Int) := by omega
      have p2 : (0 : Int) ≤ (Q : Int) := by omega
      have p3 : (Q : Int) < (n : Int) := by omega
      obtain ⟨x, y, hxy, HXY, hpr⟩ := HRW.out.drew.pair (P := P) (Q := Q) (by omega) (by omega) (by omega)
      have HPR : Hid (Pr wr.drew base kb n c l1 P Q x y) := hpr
      have x1 := hpr.x1
      have x2 := hpr.x2
      have x3 := hpr.x3
      have f2 := hpr.f2
      have f3 := hpr.f3
      have HBY2 : Hid (By l ((l1.set P (l1.getD Q 0)).set Q (l1.getD P 0)) (swpF a b (i + 1))) := (HBY.out.trans (by_swap l1 P Q (by omega) (by rw [HRW.out.len]; omega))).congr (fun k => by
        rw [hP, hQ]
        unfold swpF
        repeat' split
        all_goals omega)
      have HG2 : Hid (w.grownBy ((wr.drew.setCell ⟨kb, P, none⟩ (.int .i64 (y : Int))).setCell ⟨kb, Q, none⟩ (.int .i64 (x : Int))) (some kb)) := grown_trans (grown_drew HG.out) hpr.grown
      have HR2 : Hid (Row ((wr.drew.setCell ⟨kb, P, none⟩ (.int .i64 (y : Int))).setCell ⟨kb, Q, none⟩ (.int .i64 (x : Int))) base kb n c ((l1.set P (l1.getD Q 0)).set Q (l1.getD P 0))) := hpr.row
      clear hpr hP hQ HPR
      go_wp2
      refine wp_region_any (by kernel_rfl) ?_
      change wpAny _ _ _ _ _ _ _ (World.drew _)
      generalize wr.drew = wd at *
      refine take_put (i := 0) (v := ?_) (some 16) rfl (by kernel_rfl) (by kernel_rfl) (by kernel_rfl) (by kernel_rfl) (fun _ _ _ h => h) (Or.inl ⟨by rfl, ?_⟩) ?_
      rotate_left
      · (intro w; go_simp; try with_reducible rfl)
      try simp only [Act.put, List.setIfInBounds_toArray, List.set_cons_zero, List.set_cons_succ]
      refine take_put (i := 1) (v := ?_) (some 17) rfl (by kernel_rfl) (by kernel_rfl) (by kernel_rfl) (by kernel_rfl) (fun _ _ _ h => h) (Or.inl ⟨by rfl, ?_⟩) ?_
      rotate_left
      · (intro w; go_simp; try with_reducible rfl)
      try simp only [Act.put, List.setIfInBounds_toArray, List.set_cons_zero, List.set_cons_succ]
      refine take_put (i := 2) (v := ?_) (some 18) rfl (by kernel_rfl) (by kernel_rfl) (by kernel_rfl) (by kernel_rfl) (fun _ _ _ h => h) (Or.inl ⟨by rfl, ?_⟩) ?_
      rotate_left
      · (intro w; go_simp; try with_reducible rfl)
      try simp only [Act.put, List.setIfInBounds_toArray, List.set_cons_zero, List.set_cons_succ]
      refine take_put (i := 3) (v := ?_) (some 19) rfl (by kernel_rfl) (by kernel_rfl) (by kernel_rfl) (by kernel_rfl) (fun _ _ _ h => h) (Or.inl ⟨by rfl, ?_⟩) ?_
      rotate_left
      · (intro w; go_simp; try with_reducible rfl)
      try simp only [Act.put, List.setIfInBounds_toArray, List.set_cons_zero, List.set_cons_succ]
      refine take_put (i := 4) (v := ?_) (some 20) rfl (by kernel_rfl) (by kernel_rfl) (by kernel_rfl) (by kernel_rfl) (fun _ _ _ h => h) (Or.inl ⟨by rfl, ?_⟩) ?_
      rotate_left
      · (intro w; go_simp; try with_reducible rfl)
      try simp only [Act.put, List.setIfInBounds_toArray, List.set_cons_zero, List.set_cons_succ]
      refine take_put (i := 5) (v := ?_) (some 21) rfl (by kernel_rfl) (by kernel_rfl) (by kernel_rfl) (by kernel_rfl) (fun _ _ _ h => h) (Or.inl ⟨by rfl, ?_⟩) ?_
      rotate_left
      · (intro w; go_simp; try with_reducible rfl)
      try simp only [Act.put, List.setIfInBounds_toArray, List.set_cons_zero, List.set_cons_succ]
      refine take_put (i := 6) (v := ?_) (some 22) rfl (by kernel_rfl) (by kernel_rfl) (by kernel_rfl) (by kernel_rfl) (fun _ _ _ h => h) (Or.inl ⟨by rfl, ?_⟩) ?_
      rotate_left
      · (intro w; go_simp; try with_reducible rfl)
      try simp only [Act.put, List.setIfInBounds_toArray, List.set_cons_zero, List.set_cons_succ]
      refine take_put (i := 7) (v := ?_) (some 23) rfl (by kernel_rfl) (by kernel_rfl) (by kernel_rfl) (by kernel_rfl) (fun _ _ _ h => h) (Or.inl ⟨by rfl, ?_⟩) ?_
      rotate_left
      · (intro w; go_simp; try with_reducible rfl)
      try simp only [Act.put, List.setIfInBounds_toArray, List.set_cons_zero, List.set_cons_succ]
      refine take_put (i := 8) (v := ?_) (some 24) rfl (by kernel_rfl) (by kernel_rfl) (by kernel_rfl) (by kernel_rfl) (fun _ _ _ h => h) (Or.inl ⟨by rfl, ?_⟩) ?_
      rotate_left
      · (intro w; go_simp; try with_reducible rfl)
      try simp only [Act.put, List.setIfInBounds_toArray, List.set_cons_zero, List.set_cons_succ]
      refine take_put (i := 9) (v := ?_) (some 25) rfl (by kernel_rfl) (by kernel_rfl) (by kernel_rfl) (by kernel_rfl) (fun _ _ _ h => h) (Or.inl ⟨by rfl, ?_⟩) ?_
      rotate_left
      · (intro w; go_simp; try with_reducible rfl)
      try simp only [Act.put, List.setIfInBounds_toArray, List.set_cons_zero, List.set_cons_succ]
      refine take_put (i := 10) (v := ?_) (some 26) rfl (by kernel_rfl) (by kernel_rfl) (by kernel_rfl) (by kernel_rfl) (fun _ _ _ h => h) (Or.inl ⟨by rfl, ?_⟩) ?_
      rotate_left
      · (intro w; go_simp; try with_reducible rfl)
      try simp only [Act.put, List.setIfInBounds_toArray, List.set_cons_zero, List.set_cons_succ]
      refine take_put (i := 11) (v := ?_) (some 27) rfl (by kernel_rfl) (by kernel_rfl) (by kernel_rfl) (by kernel_rfl) (fun _ _ _ h => h) (Or.inl ⟨by rfl, ?_⟩) ?_
      rotate_left
      · (intro w; go_simp; try with_reducible rfl)
      try simp only [Act.put, List.setIfInBounds_toArray, List.set_cons_zero, List.set_cons_succ]
      refine take_put (i := 12) (v := ?_) (some 28) rfl (by kernel_rfl) (by kernel_rfl) (by kernel_rfl) (by kernel_rfl) (fun _ _ _ h => h) (Or.inl ⟨by rfl, ?_⟩) ?_
      rotate_left
      · (intro w; go_simp; try with_reducible rfl)
      try simp only [Act.put, List.setIfInBounds_toArray, List.set_cons_zero, List.set_cons_succ]
      refine take_put (i := 14) (v := ?_) (some 30) rfl (by kernel_rfl) (by kernel_rfl) (by kernel_rfl) (by kernel_rfl) (fun _ _ _ h => h) (Or.inl ⟨by rfl, ?_⟩) ?_
      rotate_left
      · (intro w; go_simp; try with_reducible rfl)
      try simp only [Act.put, List.setIfInBounds_toArray, List.set_cons_zero, List.set_cons_succ]
      refine take_put (i := 15) (v := ?_) (some 31) rfl (by kernel_rfl) (by kernel_rfl) (by kernel_rfl) (by kernel_rfl) (fun _ _ _ h => h) (Or.inl ⟨by rfl, ?_⟩) ?_
      rotate_left
      · (intro w; go_simp; try with_reducible rfl)
      try simp only [Act.put, List.setIfInBounds_toArray, List.set_cons_zero, List.set_cons_succ]
      refine take_put (i := 16) (v := ?_) (some 32) rfl (by kernel_rfl) (by kernel_rfl) (by kernel_rfl) (by kernel_rfl) (fun _ _ _ h => h) (Or.inl ⟨by rfl, ?_⟩) ?_
      rotate_left
      · (intro w; go_simp; try with_reducible rfl)
      try simp only [Act.put, List.setIfInBounds_toArray, List.set_cons_zero, List.set_cons_succ]
      refine take_put (i := 17) (v := ?_) (some 33) rfl (by kernel_rfl) (by kernel_rfl) (by kernel_rfl) (by kernel_rfl) (fun _ _ _ h => h) (Or.inl ⟨by rfl, ?_⟩) ?_
      rotate_left
      · (intro w; go_simp; try with_reducible rfl)
      try simp only [Act.put, List.setIfInBounds_toArray, List.set_cons_zero, List.set_cons_succ]
      refine take_put (i := 18) (v := ?_) (some 34) rfl (by kernel_rfl) (by kernel_rfl) (by kernel_rfl) (by kernel_rfl) (fun _ _ _ h => h) (Or.inl ⟨by rfl, ?_⟩) ?_
      rotate_left
      · (intro w; go_simp; try with_reducible rfl)
      try simp only [Act.put, List.setIfInBounds_toArray, List.set_cons_zero, List.set_cons_succ]
      refine wpAny_ready (rs := [13, 19]) (by kernel_rfl) (by simp) ?_
      refine AllReady.cons rfl (fun K hK => ?_) (AllReady.cons rfl (fun K hK => ?_) AllReady.nil)
      · have cl := x1
        go_simp
        clear cl
        refine hK _ _ ?_
        clear hK K
        try simp only [Act.put, List.getElem_toArray, List.getElem_cons_succ, List.getElem_cons_zero, List.setIfInBounds_toArray, List.set_cons_zero, List.set_cons_succ]
        refine wpAny_ready (rs := [19]) (by kernel_rfl) (by simp) ?_
        refine AllReady.cons rfl (fun K hK => ?_) AllReady.nil
        have cl := x2
        go_simp
        clear cl
        refine hK _ _ ?_
        clear hK K
        try simp only [Act.put, List.getElem_toArray, List.getElem_cons_succ, List.getElem_cons_zero, List.setIfInBounds_toArray, List.set_cons_zero, List.set_cons_succ]
        refine take_put (i := 20) (v := ?_) (some 36) rfl (by kernel_rfl) (by kernel_rfl) (by kernel_rfl) (by kernel_rfl) (fun _ _ _ h => h) (Or.inl ⟨by rfl, ?_⟩) ?_
        rotate_left
        · (intro w; go_simp; try with_reducible rfl)
        try simp only [Act.put, List.setIfInBounds_toArray, List.set_cons_zero, List.set_cons_succ]
        refine wpAny_ready (rs := [21]) (by kernel_rfl) (by simp) ?_
        refine AllReady.cons rfl (fun K hK => ?_) AllReady.nil
        have cl := x2
        have fl := f2
        go_simp
        clear cl fl
        refine hK _ _ ?_
        clear hK K
        try simp only [Act.put, List.getElem_toArray, List.getElem_cons_succ, List.getElem_cons_zero, List.setIfInBounds_toArray, List.set_cons_zero, List.set_cons_succ]
        refine take_put (i := 22) (v := ?_) (some 37) rfl (by kernel_rfl) (by kernel_rfl) (by kernel_rfl) (by kernel_rfl) (fun _ _ _ h => h) (Or.inl ⟨by rfl, ?_⟩) ?_
        rotate_left
        · (intro w; go_simp; try with_reducible rfl)
        try simp only [Act.put, List.setIfInBounds_toArray, List.set_cons_zero, List.set_cons_succ]
        refine wpAny_ready (rs := [23]) (by kernel_rfl) (by simp) ?_
        refine AllReady.cons rfl (fun K hK => ?_) AllReady.nil
        have cl := x3
        have fl := f3
        go_simp
        clear cl fl
        refine hK _ _ ?_
        clear hK K
        try simp only [Act.put, List.getElem_toArray, List.getElem_cons_succ, List.getElem_cons_zero, List.setIfInBounds_toArray, List.set_cons_zero, List.set_cons_succ]
        refine wpAny_done (by kernel_rfl) ?_ _
        go_wp2
        go_roundw
        case rel => exact ⟨i + 1, _, by omega, by go_num, HBY2, HR2, HG2⟩
        case measure => simp [intOf]; omega
      · have cl := x2
        go_simp
        clear cl
        refine hK _ _ ?_
        clear hK K
        try simp only [Act.put, List.getElem_toArray, List.getElem_cons_succ, List.getElem_cons_zero, List.setIfInBounds_toArray, List.set_cons_zero, List.set_cons_succ]
        refine wpAny_ready (rs := [13]) (by kernel_rfl) (by simp) ?_
        refine AllReady.cons rfl (fun K hK => ?_) AllReady.nil
        have cl := x1
        go_simp
        clear cl
        refine hK _ _ ?_
        clear hK K
        try simp only [Act.put, List.getElem_toArray, List.getElem_cons_succ, List.getElem_cons_zero, List.setIfInBounds_toArray, List.set_cons_zero, List.set_cons_succ]
        refine take_put (i := 20) (v := ?_) (some 36) rfl (by kernel_rfl) (by kernel_rfl) (by kernel_rfl) (by kernel_rfl) (fun _ _ _ h => h) (Or.inl ⟨by rfl, ?_⟩) ?_
        rotate_left
        · (intro w; go_simp; try with_reducible rfl)
        try simp only [Act.put, List.setIfInBounds_toArray, List.set_cons_zero, List.set_cons_succ]
        refine wpAny_ready (rs := [21]) (by kernel_rfl) (by simp) ?_
        refine AllReady.cons rfl (fun K hK => ?_) AllReady.nil
        have cl := x2
        have fl := f2
        go_simp
        clear cl fl
        refine hK _ _ ?_
        clear hK K
        try simp only [Act.put, List.getElem_toArray, List.getElem_cons_succ, List.getElem_cons_zero, List.setIfInBounds_toArray, List.set_cons_zero, List.set_cons_succ]
        refine take_put (i := 22) (v := ?_) (some 37) rfl (by kernel_rfl) (by kernel_rfl) (by kernel_rfl) (by kernel_rfl) (fun _ _ _ h => h) (Or.inl ⟨by rfl, ?_⟩) ?_
        rotate_left
        · (intro w; go_simp; try with_reducible rfl)
        try simp only [Act.put, List.setIfInBounds_toArray, List.set_cons_zero, List.set_cons_succ]
        refine wpAny_ready (rs := [23]) (by kernel_rfl) (by simp) ?_
        refine AllReady.cons rfl (fun K hK => ?_) AllReady.nil
        have cl := x3
        have fl := f3
        go_simp
        clear cl fl
        refine hK _ _ ?_
        clear hK K
        try simp only [Act.put, List.getElem_toArray, List.getElem_cons_succ, List.getElem_cons_zero, List.setIfInBounds_toArray, List.set_cons_zero, List.set_cons_succ]
        refine wpAny_done (by kernel_rfl) ?_ _
        go_wp2
        go_roundw
        case rel => exact ⟨i + 1, _, by omega, by go_num, HBY2, HR2, HG2⟩
        case measure => simp [intOf]; omega
    · obtain rfl : i = m := by omega
      have hi' : ¬ (i : Int) < (i : Int) := by omega
      go_wp2
      go_returns
      exact ⟨rfl, ⟨l1, HRW.out, HBY.out⟩, HG.out⟩
end Go.Proofs.YteiadaonihgbfaaDoor
