/- slices.insertionSortCmpFunc, walked. -/
import Derived.Test.YteiadaonihgbfaaDoorWh11
namespace Go.Proofs.YteiadaonihgbfaaDoor
open Go.RowKit

set_option maxRecDepth 100000 in
set_option maxHeartbeats 8000000 in
theorem wh_ins (w : World) (base kb n c g bx : Nat) (s : St) (l : List Nat) (a b : Nat) (hr : Row w base kb n c l) (hw : Wh w g s) (hbx : w.cell? ⟨bx, 0, none⟩ = some (.pointer (some ⟨g, 0, none⟩))) (hg : g < base) (hb : bx < base) (hab : a ≤ b) (hbn : b ≤ n) (hn : n ≤ 64) :
    Calls Tryd.prog 48 #[.slice (some ⟨kb, 0, none⟩) n c, .int .i64 (a : Int), .int .i64 (b : Int), .func (.func 41) #[] #[.pointer (some ⟨bx, 0, none⟩)]] w fun e w' => e = .returned (.tuple #[]) ∧ Hid (Row w' base kb n c (insS (cfW s) a b l)) ∧ w.grownBy w' (some kb) := by
  have HR0 : Hid (Row w base kb n c l) := hr
  have HW0 : Hid (Wh w g s) := hw
  have HX0 : Hid (w.cell? ⟨bx, 0, none⟩ = some (.pointer (some ⟨g, 0, none⟩))) := hbx
  have HNE : Hid (g ≠ kb ∧ bx ≠ kb) := ⟨by have := hr.base.1; omega, by have := hr.base.1; omega⟩
  have HWB : Hid (∀ w', w.grownBy w' (some kb) → Wh w' g s ∧ w'.cell? ⟨bx, 0, none⟩ = some (.pointer (some ⟨g, 0, none⟩))) := fun w' h' => ⟨HW0.out.grown h' HNE.out.1, h'.cell HX0.out (by simpa using HNE.out.2)⟩
  obtain ⟨R, HR⟩ : ∃ R, Hid (R = insS (cfW s) a b l) := ⟨_, rfl⟩
  rw [← HR.out]
  clear hr hw hbx hg hb
  go_enter Tryd.func48, Tryd.ntmps48
  go_wp2
  go_loopw [8] (fun t8 wr => ∃ (i : Nat) (l1 : List Nat), a + 1 ≤ i ∧ i ≤ b + 1 ∧ t8 = .int .i64 (i : Int) ∧ Hid (insOut (cfW s) a (List.range' i (b - i)) l1 = R) ∧ Hid (Row wr base kb n c l1) ∧ Hid (w.grownBy wr (some kb))) (fun t8 _ => b + 1 - (intOf t8).toNat)
  case atStart => exact ⟨a + 1, l, by omega, by omega, by go_num, by show _ = _; rw [HR.out]; rfl, HR0, ⟨rfl, rfl, rfl, Nat.le_refl _, fun _ _ _ => rfl⟩⟩
  case round =>
    obtain ⟨i, l1, hi1, hi2, rfl, HE, HRW, HG⟩ := hrel
    by_cases hib : i < b
    · have hib' : (i : Int) < (b : Int) := by omega
      have HE2 : Hid (insOut (cfW s) a (List.range' (i + 1) (b - (i + 1))) (insIn (cfW s) a i l1) = R) := by
        show _ = _
        rw [← HE.out, show b - i = (b - (i + 1)) + 1 from by omega, List.range'_succ, insOut]
      clear HE
      go_wp2
      go_loopw [9] (fun t9 wr => ∃ (j : Nat) (l2 : List Nat), a ≤ j ∧ j ≤ i ∧ t9 = .int .i64 (j : Int) ∧ Hid (insIn (cfW s) a j l2 = insIn (cfW s) a i l1) ∧ Hid (Row wr base kb n c l2) ∧ Hid (w.grownBy wr (some kb))) (fun t9 _ => (intOf t9).toNat)
      case atStart => exact ⟨i, l1, by omega, by omega, rfl, rfl, HRW, HG⟩
      case round =>
        obtain ⟨j, l2, hj1, hj2, rfl, HF, HRj, HGj⟩ := hrel
        by_cases hja : j = a
        · subst hja
          have hjj : ¬ (j : Int) < (j : Int) := by omega
          have hd : decide ((j : Int) < (j : Int)) = false := by simp
          have HX : Hid (insIn (cfW s) j i l1 = l2) := by
            show _ = _
            rw [← HF.out]
            cases j with
            | zero => rfl
            | succ q => rw [insIn, if_neg (fun h => by omega)]
          go_wp2
          go_quiet (fail)
          generalize hnq : World.drewN _ _ = wq
          have HRq : Hid (Row wq base kb n c l2) := by (show Row _ _ _ _ _ _); rw [← hnq]; exact HRj.out.drews _
          have HGq : Hid (w.grownBy wq (some kb)) := by (show World.grownBy _ _ _); rw [← hnq]; exact ⟨HGj.out.os, HGj.out.tape, HGj.out.output, HGj.out.size, HGj.out.block⟩
          clear hnq
          go_wp2
          go_roundw
          case rel => exact ⟨i + 1, l2, by omega, by omega, by go_num, by (show _ = _); rw [← HE2.out, HX.out], HRq, HGq⟩
          case measure => simp [intOf]; omega
        · obtain ⟨q, rfl⟩ : ∃ q, j = q + 1 := ⟨j - 1, by omega⟩
          have hq1 : q + 1 < n := by omega
          obtain ⟨x, hx⟩ : ∃ x, x = l2.getD (q + 1) 0 := ⟨_, rfl⟩
          obtain ⟨y, hy⟩ : ∃ y, y = l2.getD q 0 := ⟨_, rfl⟩
          have HXE : Hid (x = l2.getD (q + 1) 0 ∧ y = l2.getD q 0) := ⟨hx, hy⟩
          have hxr : 1 ≤ x ∧ x ≤ 64 := by rw [hx]; exact HRj.out.num hq1
          have hyr : 1 ≤ y ∧ y ≤ 64 := by rw [hy]; exact HRj.out.num (by omega)
          have x2 : wr.cell? ⟨kb, q + 1, none⟩ = some (.int .i64 (x : Int)) := by rw [hx]; exact HRj.out.cell hq1
          have x1 : wr.cell? ⟨kb, q, none⟩ = some (.int .i64 (y : Int)) := by rw [hy]; exact HRj.out.cell (by omega)
          obtain ⟨e, he⟩ : ∃ e, e = cfW s x y := ⟨_, rfl⟩
          have HCM : Hid (∀ m, Calls Tryd.prog 41 #[.int .i64 (x : Int), .int .i64 (y : Int), .pointer (some ⟨bx, 0, none⟩)] (wr.drewN m) fun e' w' => e' = .returned (.int .i64 e) ∧ ∃ m', w' = (wr.drewN m).drewN m') := fun m => by
            obtain ⟨k1, k2⟩ := HWB.out (wr.drewN m) ⟨HGj.out.os, HGj.out.tape, HGj.out.output, HGj.out.size, HGj.out.block⟩
            have := wh_cmp (wr.drewN m) g bx s (x - 1) (y - 1) (by omega) (by omega) k1 k2
            rw [show ((x - 1 : Nat) : Int) + 1 = (x : Int) from by omega, show ((y - 1 : Nat) : Int) + 1 = (y : Int) from by omega] at this
            rw [he]
            exact this
          have ha' : (a : Int) < (q : Int) + 1 := by omega
          have hq0 : (0 : Int) ≤ (q : Int) := by omega
          have hqn : (q : Int) < (n : Int) := by omega
          have hqn1 : (q : Int) + 1 < (n : Int) := by omega
          have q3 : IntKind.i64.wrap ((q : Int) + 1 - 1) = (q : Int) := by rw [IntKind.wrap_i64]; omega
          have q4 : IntKind.i64.wrap (q : Int) = (q : Int) := by rw [IntKind.wrap_i64]; omega
          have hq10 : (0 : Int) ≤ (q : Int) + 1 := by omega
          rw [show ((q + 1 : Nat) : Int) = (q : Int) + 1 from by omega]
          by_cases hlt : e < 0
          · have HF2 : Hid (insIn (cfW s) a q (swapL l2 q) = insIn (cfW s) a i l1) := by
              show _ = _
              rw [← HF.out, insIn, if_pos ⟨by omega, by rw [← hx, ← hy, ← he]; exact hlt⟩]
            clear hx hy he
            go_wp2
            go_quiet ((go_at_call 41; refine Calls.quiet_of (HCM.out _)))
            generalize hnq : World.drewN _ _ = wq
            have HRq : Hid (Row wq.drew base kb n c l2) := by (show Row _ _ _ _ _ _); rw [← hnq]; exact (HRj.out.drews _).drews 1
            have HGq : Hid (w.grownBy wq.drew (some kb)) := by (show World.grownBy _ _ _); rw [← hnq]; exact ⟨HGj.out.os, HGj.out.tape, HGj.out.output, HGj.out.size, HGj.out.block⟩
            clear hnq x1 x2
            have x2 : wq.drew.cell? ⟨kb, q + 1, none⟩ = some (.int .i64 (x : Int)) := by rw [HXE.out.1]; exact HRq.out.cell hq1
            have x1 : wq.drew.cell? ⟨kb, q, none⟩ = some (.int .i64 (y : Int)) := by rw [HXE.out.2]; exact HRq.out.cell (by omega)
            have f2 : wq.drew.frozen? ⟨kb, q + 1, none⟩ = false := HRq.out.free _
            have h1 := grown_cell wq.drew kb (q + 1) (.int .i64 (y : Int))
            have x3 : (wq.drew.setCell ⟨kb, q + 1, none⟩ (.int .i64 (y : Int))).cell? ⟨kb, q, none⟩ = some (.int .i64 (y : Int)) := by
              have e1 := (HRq.out.own.stored (q + 1) (.int .i64 (y : Int))).1
              have e2 := e1.cellAt q (by omega)
              rw [e2, List.getElem?_set, if_neg (by omega), vi, List.getElem?_map, HXE.out.2, List.getD_eq_getElem?_getD, List.getElem?_eq_getElem (by rw [HRq.out.len]; omega)]
              rfl
            have f3 : (wq.drew.setCell ⟨kb, q + 1, none⟩ (.int .i64 (y : Int))).frozen? ⟨kb, q, none⟩ = false := by
              rcases (HRq.out.own.stored (q + 1) (.int .i64 (y : Int))).1.2 with ⟨e1, _⟩ | ⟨k', c', cur, e1, _, e3, _⟩
              · cases e1
              · simp only [Value.slice.injEq, Option.some.injEq, Addr.mk.injEq, and_true] at e1
                rw [e1.1] at e3 ⊢
                exact frozen_of_row _ k' q cur _ e3
            have HRF : Hid (Row ((wq.drew.setCell ⟨kb, q + 1, none⟩ (.int .i64 (y : Int))).setCell ⟨kb, q, none⟩ (.int .i64 (x : Int))) base kb n c (swapL l2 q)) := by
              have := HRq.out.swap hq1
              rw [← HXE.out.1, ← HXE.out.2] at this
              exact this
            have HGF : Hid (w.grownBy ((wq.drew.setCell ⟨kb, q + 1, none⟩ (.int .i64 (y : Int))).setCell ⟨kb, q, none⟩ (.int .i64 (x : Int))) (some kb)) := grown_trans (grown_trans HGq.out h1) (grown_cell _ _ _ _)
            clear h1
            go_wp2
            refine wp_region_any (by kernel_rfl) ?_
            change wpAny _ _ _ _ _ _ _ (World.drew _)
            generalize wq.drew = wd at *
            refine take_put (i := 0) (v := ?_) (some 37) rfl (by kernel_rfl) (by kernel_rfl) (by kernel_rfl) (by kernel_rfl) (fun _ _ _ h => h) (Or.inl ⟨by rfl, ?_⟩) ?_
            rotate_left
            · (intro w; go_simp; try with_reducible rfl)
            try simp only [Act.put, List.setIfInBounds_toArray, List.set_cons_zero, List.set_cons_succ]
            refine take_put (i := 1) (v := ?_) (some 38) rfl (by kernel_rfl) (by kernel_rfl) (by kernel_rfl) (by kernel_rfl) (fun _ _ _ h => h) (Or.inl ⟨by rfl, ?_⟩) ?_
            rotate_left
            · (intro w; go_simp; try with_reducible rfl)
            try simp only [Act.put, List.setIfInBounds_toArray, List.set_cons_zero, List.set_cons_succ]
            refine take_put (i := 2) (v := ?_) (some 39) rfl (by kernel_rfl) (by kernel_rfl) (by kernel_rfl) (by kernel_rfl) (fun _ _ _ h => h) (Or.inl ⟨by rfl, ?_⟩) ?_
            rotate_left
            · (intro w; go_simp; try with_reducible rfl)
            try simp only [Act.put, List.setIfInBounds_toArray, List.set_cons_zero, List.set_cons_succ]
            refine take_put (i := 3) (v := ?_) (some 40) rfl (by kernel_rfl) (by kernel_rfl) (by kernel_rfl) (by kernel_rfl) (fun _ _ _ h => h) (Or.inl ⟨by rfl, ?_⟩) ?_
            rotate_left
            · (intro w; go_simp; try with_reducible rfl)
            try simp only [Act.put, List.setIfInBounds_toArray, List.set_cons_zero, List.set_cons_succ]
            refine take_put (i := 4) (v := ?_) (some 41) rfl (by kernel_rfl) (by kernel_rfl) (by kernel_rfl) (by kernel_rfl) (fun _ _ _ h => h) (Or.inl ⟨by rfl, ?_⟩) ?_
            rotate_left
            · (intro w; go_simp; try with_reducible rfl)
            try simp only [Act.put, List.setIfInBounds_toArray, List.set_cons_zero, List.set_cons_succ]
            refine take_put (i := 5) (v := ?_) (some 42) rfl (by kernel_rfl) (by kernel_rfl) (by kernel_rfl) (by kernel_rfl) (fun _ _ _ h => h) (Or.inl ⟨by rfl, ?_⟩) ?_
            rotate_left
            · (intro w; go_simp; try with_reducible rfl)
            try simp only [Act.put, List.setIfInBounds_toArray, List.set_cons_zero, List.set_cons_succ]
            refine take_put (i := 6) (v := ?_) (some 43) rfl (by kernel_rfl) (by kernel_rfl) (by kernel_rfl) (by kernel_rfl) (fun _ _ _ h => h) (Or.inl ⟨by rfl, ?_⟩) ?_
            rotate_left
            · (intro w; go_simp; try with_reducible rfl)
            try simp only [Act.put, List.setIfInBounds_toArray, List.set_cons_zero, List.set_cons_succ]
            refine take_put (i := 7) (v := ?_) (some 44) rfl (by kernel_rfl) (by kernel_rfl) (by kernel_rfl) (by kernel_rfl) (fun _ _ _ h => h) (Or.inl ⟨by rfl, ?_⟩) ?_
            rotate_left
            · (intro w; go_simp; try with_reducible rfl)
            try simp only [Act.put, List.setIfInBounds_toArray, List.set_cons_zero, List.set_cons_succ]
            refine take_put (i := 8) (v := ?_) (some 45) rfl (by kernel_rfl) (by kernel_rfl) (by kernel_rfl) (by kernel_rfl) (fun _ _ _ h => h) (Or.inl ⟨by rfl, ?_⟩) ?_
            rotate_left
            · (intro w; go_simp; try with_reducible rfl)
            try simp only [Act.put, List.setIfInBounds_toArray, List.set_cons_zero, List.set_cons_succ]
            refine take_put (i := 10) (v := ?_) (some 47) rfl (by kernel_rfl) (by kernel_rfl) (by kernel_rfl) (by kernel_rfl) (fun _ _ _ h => h) (Or.inl ⟨by rfl, ?_⟩) ?_
            rotate_left
            · (intro w; go_simp; try with_reducible rfl)
            try simp only [Act.put, List.setIfInBounds_toArray, List.set_cons_zero, List.set_cons_succ]
            refine take_put (i := 11) (v := ?_) (some 48) rfl (by kernel_rfl) (by kernel_rfl) (by kernel_rfl) (by kernel_rfl) (fun _ _ _ h => h) (Or.inl ⟨by rfl, ?_⟩) ?_
            rotate_left
            · (intro w; go_simp; try with_reducible rfl)
            try simp only [Act.put, List.setIfInBounds_toArray, List.set_cons_zero, List.set_cons_succ]
            refine take_put (i := 12) (v := ?_) (some 49) rfl (by kernel_rfl) (by kernel_rfl) (by kernel_rfl) (by kernel_rfl) (fun _ _ _ h => h) (Or.inl ⟨by rfl, ?_⟩) ?_
            rotate_left
            · (intro w; go_simp; try with_reducible rfl)
            try simp only [Act.put, List.setIfInBounds_toArray, List.set_cons_zero, List.set_cons_succ]
            refine wpAny_ready (rs := [9, 13]) (by kernel_rfl) (by simp) ?_
            refine AllReady.cons rfl (fun K hK => ?_) (AllReady.cons rfl (fun K hK => ?_) AllReady.nil)
            · have cl := x1
              go_simp
              clear cl
              refine hK _ _ ?_
              clear hK K
              try simp only [Act.put, List.getElem_toArray, List.getElem_cons_succ, List.getElem_cons_zero, List.setIfInBounds_toArray, List.set_cons_zero, List.set_cons_succ]
              refine wpAny_ready (rs := [13]) (by kernel_rfl) (by simp) ?_
              refine AllReady.cons rfl (fun K hK => ?_) AllReady.nil
              have cl := x2
              go_simp
              clear cl
              refine hK _ _ ?_
              clear hK K
              try simp only [Act.put, List.getElem_toArray, List.getElem_cons_succ, List.getElem_cons_zero, List.setIfInBounds_toArray, List.set_cons_zero, List.set_cons_succ]
              refine take_put (i := 14) (v := ?_) (some 51) rfl (by kernel_rfl) (by kernel_rfl) (by kernel_rfl) (by kernel_rfl) (fun _ _ _ h => h) (Or.inl ⟨by rfl, ?_⟩) ?_
              rotate_left
              · (intro w; go_simp; try with_reducible rfl)
              try simp only [Act.put, List.setIfInBounds_toArray, List.set_cons_zero, List.set_cons_succ]
              refine wpAny_ready (rs := [15]) (by kernel_rfl) (by simp) ?_
              refine AllReady.cons rfl (fun K hK => ?_) AllReady.nil
              have cl := x2
              have fl := f2
              go_simp
              clear cl fl
              refine hK _ _ ?_
              clear hK K
              try simp only [Act.put, List.getElem_toArray, List.getElem_cons_succ, List.getElem_cons_zero, List.setIfInBounds_toArray, List.set_cons_zero, List.set_cons_succ]
              refine take_put (i := 16) (v := ?_) (some 52) rfl (by kernel_rfl) (by kernel_rfl) (by kernel_rfl) (by kernel_rfl) (fun _ _ _ h => h) (Or.inl ⟨by rfl, ?_⟩) ?_
              rotate_left
              · (intro w; go_simp; try with_reducible rfl)
              try simp only [Act.put, List.setIfInBounds_toArray, List.set_cons_zero, List.set_cons_succ]
              refine wpAny_ready (rs := [17]) (by kernel_rfl) (by simp) ?_
              refine AllReady.cons rfl (fun K hK => ?_) AllReady.nil
              have cl := x3
              have fl := f3
              go_simp
              clear cl fl
              refine hK _ _ ?_
              clear hK K
              try simp only [Act.put, List.getElem_toArray, List.getElem_cons_succ, List.getElem_cons_zero, List.setIfInBounds_toArray, List.set_cons_zero, List.set_cons_succ]
              refine wpAny_done (by kernel_rfl) ?_ _
              go_wp2
              go_roundw
              case rel => exact ⟨q, swapL l2 q, by omega, by omega, by go_num, HF2, HRF, HGF⟩
              case measure => simp [intOf]
            · have cl := x2
              go_simp
              clear cl
              refine hK _ _ ?_
              clear hK K
              try simp only [Act.put, List.getElem_toArray, List.getElem_cons_succ, List.getElem_cons_zero, List.setIfInBounds_toArray, List.set_cons_zero, List.set_cons_succ]
              refine wpAny_ready (rs := [9]) (by kernel_rfl) (by simp) ?_
              refine AllReady.cons rfl (fun K hK => ?_) AllReady.nil
              have cl := x1
              go_simp
              clear cl
              refine hK _ _ ?_
              clear hK K
              try simp only [Act.put, List.getElem_toArray, List.getElem_cons_succ, List.getElem_cons_zero, List.setIfInBounds_toArray, List.set_cons_zero, List.set_cons_succ]
              refine take_put (i := 14) (v := ?_) (some 51) rfl (by kernel_rfl) (by kernel_rfl) (by kernel_rfl) (by kernel_rfl) (fun _ _ _ h => h) (Or.inl ⟨by rfl, ?_⟩) ?_
              rotate_left
              · (intro w; go_simp; try with_reducible rfl)
              try simp only [Act.put, List.setIfInBounds_toArray, List.set_cons_zero, List.set_cons_succ]
              refine wpAny_ready (rs := [15]) (by kernel_rfl) (by simp) ?_
              refine AllReady.cons rfl (fun K hK => ?_) AllReady.nil
              have cl := x2
              have fl := f2
              go_simp
              clear cl fl
              refine hK _ _ ?_
              clear hK K
              try simp only [Act.put, List.getElem_toArray, List.getElem_cons_succ, List.getElem_cons_zero, List.setIfInBounds_toArray, List.set_cons_zero, List.set_cons_succ]
              refine take_put (i := 16) (v := ?_) (some 52) rfl (by kernel_rfl) (by kernel_rfl) (by kernel_rfl) (by kernel_rfl) (fun _ _ _ h => h) (Or.inl ⟨by rfl, ?_⟩) ?_
              rotate_left
              · (intro w; go_simp; try with_reducible rfl)
              try simp only [Act.put, List.setIfInBounds_toArray, List.set_cons_zero, List.set_cons_succ]
              refine wpAny_ready (rs := [17]) (by kernel_rfl) (by simp) ?_
              refine AllReady.cons rfl (fun K hK => ?_) AllReady.nil
              have cl := x3
              have fl := f3
              go_simp
              clear cl fl
              refine hK _ _ ?_
              clear hK K
              try simp only [Act.put, List.getElem_toArray, List.getElem_cons_succ, List.getElem_cons_zero, List.setIfInBounds_toArray, List.set_cons_zero, List.set_cons_succ]
              refine wpAny_done (by kernel_rfl) ?_ _
              go_wp2
              go_roundw
              case rel => exact ⟨q, swapL l2 q, by omega, by omega, by go_num, HF2, HRF, HGF⟩
              case measure => simp [intOf]
          · have HX : Hid (insIn (cfW s) a i l1 = l2) := by
              show _ = _
              rw [← HF.out, insIn, if_neg (fun h => hlt (by rw [he, hx, hy]; exact h.2))]
            have hle : decide (e < 0) = false := by simpa using hlt
            clear hx hy he
            go_wp2
            go_quiet ((go_at_call 41; refine Calls.quiet_of (HCM.out _)))
            generalize hnq : World.drewN _ _ = wq
            have HRq : Hid (Row wq base kb n c l2) := by (show Row _ _ _ _ _ _); rw [← hnq]; exact HRj.out.drews _
            have HGq : Hid (w.grownBy wq (some kb)) := by (show World.grownBy _ _ _); rw [← hnq]; exact ⟨HGj.out.os, HGj.out.tape, HGj.out.output, HGj.out.size, HGj.out.block⟩
            clear hnq
            go_wp2
            go_roundw
            case rel => exact ⟨i + 1, l2, by omega, by omega, by go_num, by (show _ = _); rw [← HE2.out, HX.out], HRq, HGq⟩
            case measure => simp [intOf]; omega
    · have hib' : ¬ (i : Int) < (b : Int) := by omega
      have HX : Hid (l1 = R) := by
        show _ = _
        rw [← HE.out, show b - i = 0 from by omega]
        rfl
      go_wp2
      go_returns
      exact ⟨rfl, by rw [← HX.out]; exact HRW, HG.out⟩
end Go.Proofs.YteiadaonihgbfaaDoor
