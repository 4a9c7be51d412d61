/- slices.symMergeCmpFunc, where the row behind has one number. -/
import Derived.Test.YteiadaonihgbfaaDoorWhS4
namespace Go.Proofs.YteiadaonihgbfaaDoor
open Go.RowKit

theorem rot_last (m k : Nat) : k = rotF m m (m + 1) k := by
  unfold rotF
  repeat' split
  all_goals omega
set_option maxRecDepth 100000 in
set_option maxHeartbeats 8000000 in
theorem wh_mrg2 (w : World) (base kb n c g bx : Nat) (s : St) (l : List Nat) (a b : Nat) (hr : Row w base kb n c l) (hc : Cx w kb g bx s) (m : Nat) (ham : a + 1 < m) (hbn : b ≤ n) (hn : n ≤ 64) (hs : Srt (dW s) l a m) (hg : Agr (dW s) l a m (m + 1)) (hm : b = m + 1) :
    Calls Tryd.prog 49 #[.slice (some ⟨kb, 0, none⟩) n c, .int .i64 (a : Int), .int .i64 (m : Int), .int .i64 (b : Int), .func (.func 41) #[] #[.pointer (some ⟨bx, 0, none⟩)]] w fun e w' => e = .returned (.tuple #[]) ∧ Hid (Mg w' base kb n c s l a b) ∧ w.grownBy w' (some kb) := by
  have HR0 : Hid (Row w base kb n c l) := hr
  have HC0 : Hid (Cx w kb g bx s) := hc
  have HS : Hid (Srt (dW s) l a m) := hs
  have HA : Hid (Agr (dW s) l a m (m + 1)) := hg
  have HM : Hid (b = m + 1) := hm
  obtain ⟨Z, hZ⟩ : ∃ Z, Z = m - a := ⟨_, rfl⟩
  have q0 : (m : Int) - (a : Int) = (Z : Int) := by omega
  have q00 : ((Z : Int) == 1) = false := by rw [beq_eq_false_iff_ne]; omega
  have q01 : IntKind.i64.wrap (Z : Int) = (Z : Int) := by rw [IntKind.wrap_i64]; omega
  have q02 : (b : Int) - (m : Int) = 1 := by omega
  clear hZ
  have hmn : m < n := by omega
  have a0 : (0 : Int) ≤ (m : Int) := by omega
  have a1 : (m : Int) < (n : Int) := by omega
  obtain ⟨y, hy⟩ : ∃ y, y = l.getD m 0 := ⟨_, rfl⟩
  have HY : Hid (y = l.getD m 0) := hy
  have hyr : 1 ≤ y ∧ y ≤ 64 := by rw [hy]; exact hr.num (by omega)
  clear hr hc hs hg hm hy
  go_enter Tryd.func49, Tryd.ntmps49
  go_wp2
  go_loopw [14, 15] (fun t10 t11 wr => ∃ (i j : Nat), a ≤ i ∧ i ≤ j ∧ j ≤ m ∧ t10 = .int .i64 (i : Int) ∧ t11 = .int .i64 (j : Int) ∧ Hid ((i = a ∨ ¬ dW s (l.getD m 0) < dW s (l.getD (i - 1) 0)) ∧ (j = m ∨ dW s (l.getD m 0) < dW s (l.getD j 0))) ∧ Hid (Row wr base kb n c l) ∧ Hid (w.grownBy wr (some kb))) (fun t10 t11 _ => (intOf t11).toNat - (intOf t10).toNat)
  case atStart => exact ⟨a, m, by omega, by omega, by omega, by go_num, by go_num, ⟨.inl rfl, .inl rfl⟩, HR0, grown_refl _ _⟩
  case round =>
    obtain ⟨i, j, hmi, hij, hjb, rfl, rfl, HI, HRW, HG⟩ := hrel
    by_cases hlt : i < j
    · have hlt' : (i : Int) < (j : Int) := by omega
      obtain ⟨S, hS⟩ : ∃ S, S = i + j := ⟨_, rfl⟩
      obtain ⟨H, hH⟩ : ∃ H, H = (i + j) / 2 := ⟨_, rfl⟩
      have q1 : (i : Int) + (j : Int) = (S : Int) := by omega
      have q2 : IntKind.i64.wrap (S : Int) = (S : Int) := by rw [IntKind.wrap_i64]; omega
      have q3 : IntKind.u64.wrap (S : Int) = (S : Int) := by rw [IntKind.wrap_u64]; omega
      have q4 : (S : Int) / 2 = (H : Int) := by omega
      have q5 : IntKind.i64.wrap (H : Int) = (H : Int) := by rw [IntKind.wrap_i64]; omega
      have q6 : IntKind.u64.wrap (H : Int) = (H : Int) := by rw [IntKind.wrap_u64]; omega
      have hH2 : i ≤ H ∧ H < j := by omega
      have p0 : (0 : Int) ≤ (H : Int) := by omega
      have p1 : (H : Int) < (n : Int) := by omega
      obtain ⟨x, hx⟩ : ∃ x, x = l.getD H 0 := ⟨_, rfl⟩
      have HX : Hid (x = l.getD H 0) := hx
      have hxr : 1 ≤ x ∧ x ≤ 64 := by rw [hx]; exact HRW.out.num (by omega)
      have x1 : wr.cell? ⟨kb, H, none⟩ = some (.int .i64 (x : Int)) := by rw [hx]; exact HRW.out.cell (by omega)
      have x2 : wr.cell? ⟨kb, m, none⟩ = some (.int .i64 (y : Int)) := by rw [HY.out]; exact HRW.out.cell (by omega)
      obtain ⟨e, he⟩ : ∃ e, e = cfW s y x := ⟨_, rfl⟩
      have HCM : Hid (∀ m, Calls Tryd.prog 41 #[.int .i64 (y : Int), .int .i64 (x : Int), .pointer (some ⟨bx, 0, none⟩)] (wr.drewN m) fun e' w' => e' = .returned (.int .i64 e) ∧ ∃ m', w' = (wr.drewN m).drewN m') := fun m => by
        rw [he]
        exact (HC0.out.grown HG.out).cmp hyr hxr m
      have HE : Hid (e < 0 ↔ dW s (l.getD m 0) < dW s (l.getD H 0)) := by rw [he, HX.out, HY.out]; exact cf_lt _ _ _
      clear hx he hS hH
      by_cases hel : e < 0
      · have hel2 : decide (e < 0) = true := by simpa using hel
        have HI2 : Hid ((i = a ∨ ¬ dW s (l.getD m 0) < dW s (l.getD (i - 1) 0)) ∧ (H = m ∨ dW s (l.getD m 0) < dW s (l.getD H 0))) := ⟨HI.out.1, .inr (HE.out.1 hel)⟩
        go_wp2
        go_quiet ((go_at_call 41; refine Calls.quiet_of (HCM.out _)))
        generalize hnq : World.drewN _ _ = wq
        have HRq : Hid (Row wq base kb n c l) := by (show Row _ _ _ _ _ _); rw [← hnq]; exact HRW.out.drews _
        have HGq : Hid (w.grownBy wq (some kb)) := by (show World.grownBy _ _ _); rw [← hnq]; exact grown_drews HG.out _
        clear hnq
        go_wp2
        go_roundw
        case rel => exact ⟨i, H, by omega, by omega, by omega, by go_num, by go_num, HI2, HRq, HGq⟩
        case measure => simp [intOf]; omega
      · have hel2 : decide (e < 0) = false := by simpa using hel
        have HI2 : Hid ((H + 1 = a ∨ ¬ dW s (l.getD m 0) < dW s (l.getD (H + 1 - 1) 0)) ∧ (j = m ∨ dW s (l.getD m 0) < dW s (l.getD j 0))) := ⟨.inr (fun h => hel (HE.out.2 h)), HI.out.2⟩
        go_wp2
        go_quiet ((go_at_call 41; refine Calls.quiet_of (HCM.out _)))
        generalize hnq : World.drewN _ _ = wq
        have HRq : Hid (Row wq base kb n c l) := by (show Row _ _ _ _ _ _); rw [← hnq]; exact HRW.out.drews _
        have HGq : Hid (w.grownBy wq (some kb)) := by (show World.grownBy _ _ _); rw [← hnq]; exact grown_drews HG.out _
        clear hnq
        go_wp2
        go_roundw
        case rel => exact ⟨H + 1, j, by omega, by omega, by omega, by go_num, by go_num, HI2, HRq, HGq⟩
        case measure => simp [intOf]; omega
    · obtain rfl : i = j := by omega
      have hlt' : ¬ (i : Int) < (i : Int) := by omega
      go_wp2
      go_loopw [17] (fun t13 wr => ∃ (k : Nat) (l1 : List Nat), i ≤ k ∧ k ≤ m ∧ t13 = .int .i64 (k : Int) ∧ Hid (By l l1 (rotF k m (m + 1))) ∧ Hid (Row wr base kb n c l1) ∧ Hid (w.grownBy wr (some kb))) (fun t13 _ => (intOf t13).toNat)
      case atStart => exact ⟨m, l, by omega, by omega, by go_num, (By.refl l).congr (rot_last m), HRW, HG⟩
      case round =>
        obtain ⟨k, l1, hak, hkI, rfl, HBY, HRk, HGk⟩ := hrel
        by_cases hk : i < k
        · have hk' : (i : Int) < (k : Int) := by omega
          obtain ⟨P, hP⟩ : ∃ P, P = k := ⟨_, rfl⟩
          obtain ⟨Q, hQ⟩ : ∃ Q, Q = k - 1 := ⟨_, rfl⟩
          have hkn : k < n ∧ Q < n ∧ i ≤ Q ∧ Q < k := by omega
          have HPQ : Hid (Q = k - 1) := hQ
          have q4 : (k : Int) - 1 = (Q : Int) := by omega
          have q1 : IntKind.i64.wrap (k : Int) = (k : Int) := by rw [IntKind.wrap_i64]; omega
          have q2 : IntKind.i64.wrap (Q : Int) = (Q : Int) := by rw [IntKind.wrap_i64]; omega
          have p0 : (0 : Int) ≤ (k : Int) := by omega
          have p1 : (k : Int) < (n : Int) := by omega
          have p2 : (0 : Int) ≤ (Q : Int) := by omega
          have p3 : (Q : Int) < (n : Int) := by omega
          obtain ⟨x, z, hxz, HXZ, hpr⟩ := HRk.out.drew.pair (P := k) (Q := Q) (by omega) (by omega) (by omega)
          have x1 := hpr.x1
          have x2 := hpr.x2
          have x3 := hpr.x3
          have f2 := hpr.f2
          have f3 := hpr.f3
          have HBY2 : Hid (By l ((l1.set k (l1.getD Q 0)).set Q (l1.getD k 0)) (rotF Q m (m + 1))) := (HBY.out.trans (by_swap2 l1 Q k (by omega) (by rw [HRk.out.len]; omega))).congr (fun t => by
            rw [hQ]
            unfold swpF rotF
            repeat' split
            all_goals omega)
          have HG2 : Hid (w.grownBy ((wr.drew.setCell ⟨kb, k, none⟩ (.int .i64 (z : Int))).setCell ⟨kb, Q, none⟩ (.int .i64 (x : Int))) (some kb)) := grown_trans (grown_drew HGk.out) hpr.grown
          have HR2 : Hid (Row ((wr.drew.setCell ⟨kb, k, none⟩ (.int .i64 (z : Int))).setCell ⟨kb, Q, none⟩ (.int .i64 (x : Int))) base kb n c ((l1.set k (l1.getD Q 0)).set Q (l1.getD k 0))) := hpr.row
          clear hpr hP hQ
          go_wp2
          refine wp_region_any (by kernel_rfl) ?_
          change wpAny _ _ _ _ _ _ _ (World.drew _)
          generalize wr.drew = wd at *
          refine take_put (i := 0) (v := ?_) (some 113) rfl (by kernel_rfl) (by kernel_rfl) (by kernel_rfl) (by kernel_rfl) (fun _ _ _ h => h) (Or.inl ⟨by rfl, ?_⟩) ?_
          rotate_left
          · (intro w; go_simp; try with_reducible rfl)
          try simp only [Act.put, List.setIfInBounds_toArray, List.set_cons_zero, List.set_cons_succ]
          refine take_put (i := 1) (v := ?_) (some 114) rfl (by kernel_rfl) (by kernel_rfl) (by kernel_rfl) (by kernel_rfl) (fun _ _ _ h => h) (Or.inl ⟨by rfl, ?_⟩) ?_
          rotate_left
          · (intro w; go_simp; try with_reducible rfl)
          try simp only [Act.put, List.setIfInBounds_toArray, List.set_cons_zero, List.set_cons_succ]
          refine take_put (i := 2) (v := ?_) (some 115) rfl (by kernel_rfl) (by kernel_rfl) (by kernel_rfl) (by kernel_rfl) (fun _ _ _ h => h) (Or.inl ⟨by rfl, ?_⟩) ?_
          rotate_left
          · (intro w; go_simp; try with_reducible rfl)
          try simp only [Act.put, List.setIfInBounds_toArray, List.set_cons_zero, List.set_cons_succ]
          refine take_put (i := 3) (v := ?_) (some 116) rfl (by kernel_rfl) (by kernel_rfl) (by kernel_rfl) (by kernel_rfl) (fun _ _ _ h => h) (Or.inl ⟨by rfl, ?_⟩) ?_
          rotate_left
          · (intro w; go_simp; try with_reducible rfl)
          try simp only [Act.put, List.setIfInBounds_toArray, List.set_cons_zero, List.set_cons_succ]
          refine take_put (i := 4) (v := ?_) (some 117) rfl (by kernel_rfl) (by kernel_rfl) (by kernel_rfl) (by kernel_rfl) (fun _ _ _ h => h) (Or.inl ⟨by rfl, ?_⟩) ?_
          rotate_left
          · (intro w; go_simp; try with_reducible rfl)
          try simp only [Act.put, List.setIfInBounds_toArray, List.set_cons_zero, List.set_cons_succ]
          refine take_put (i := 5) (v := ?_) (some 118) rfl (by kernel_rfl) (by kernel_rfl) (by kernel_rfl) (by kernel_rfl) (fun _ _ _ h => h) (Or.inl ⟨by rfl, ?_⟩) ?_
          rotate_left
          · (intro w; go_simp; try with_reducible rfl)
          try simp only [Act.put, List.setIfInBounds_toArray, List.set_cons_zero, List.set_cons_succ]
          refine take_put (i := 6) (v := ?_) (some 119) rfl (by kernel_rfl) (by kernel_rfl) (by kernel_rfl) (by kernel_rfl) (fun _ _ _ h => h) (Or.inl ⟨by rfl, ?_⟩) ?_
          rotate_left
          · (intro w; go_simp; try with_reducible rfl)
          try simp only [Act.put, List.setIfInBounds_toArray, List.set_cons_zero, List.set_cons_succ]
          refine take_put (i := 7) (v := ?_) (some 120) rfl (by kernel_rfl) (by kernel_rfl) (by kernel_rfl) (by kernel_rfl) (fun _ _ _ h => h) (Or.inl ⟨by rfl, ?_⟩) ?_
          rotate_left
          · (intro w; go_simp; try with_reducible rfl)
          try simp only [Act.put, List.setIfInBounds_toArray, List.set_cons_zero, List.set_cons_succ]
          refine take_put (i := 8) (v := ?_) (some 121) rfl (by kernel_rfl) (by kernel_rfl) (by kernel_rfl) (by kernel_rfl) (fun _ _ _ h => h) (Or.inl ⟨by rfl, ?_⟩) ?_
          rotate_left
          · (intro w; go_simp; try with_reducible rfl)
          try simp only [Act.put, List.setIfInBounds_toArray, List.set_cons_zero, List.set_cons_succ]
          refine take_put (i := 10) (v := ?_) (some 123) rfl (by kernel_rfl) (by kernel_rfl) (by kernel_rfl) (by kernel_rfl) (fun _ _ _ h => h) (Or.inl ⟨by rfl, ?_⟩) ?_
          rotate_left
          · (intro w; go_simp; try with_reducible rfl)
          try simp only [Act.put, List.setIfInBounds_toArray, List.set_cons_zero, List.set_cons_succ]
          refine take_put (i := 11) (v := ?_) (some 124) rfl (by kernel_rfl) (by kernel_rfl) (by kernel_rfl) (by kernel_rfl) (fun _ _ _ h => h) (Or.inl ⟨by rfl, ?_⟩) ?_
          rotate_left
          · (intro w; go_simp; try with_reducible rfl)
          try simp only [Act.put, List.setIfInBounds_toArray, List.set_cons_zero, List.set_cons_succ]
          refine take_put (i := 12) (v := ?_) (some 125) rfl (by kernel_rfl) (by kernel_rfl) (by kernel_rfl) (by kernel_rfl) (fun _ _ _ h => h) (Or.inl ⟨by rfl, ?_⟩) ?_
          rotate_left
          · (intro w; go_simp; try with_reducible rfl)
          try simp only [Act.put, List.setIfInBounds_toArray, List.set_cons_zero, List.set_cons_succ]
          refine wpAny_ready (rs := [9, 13]) (by kernel_rfl) (by simp) ?_
          refine AllReady.cons rfl (fun K hK => ?_) (AllReady.cons rfl (fun K hK => ?_) AllReady.nil)
          · have cl := x1
            go_simp
            clear cl
            refine hK _ _ ?_
            clear hK K
            try simp only [Act.put, List.getElem_toArray, List.getElem_cons_succ, List.getElem_cons_zero, List.setIfInBounds_toArray, List.set_cons_zero, List.set_cons_succ]
            refine wpAny_ready (rs := [13]) (by kernel_rfl) (by simp) ?_
            refine AllReady.cons rfl (fun K hK => ?_) AllReady.nil
            have cl := x2
            go_simp
            clear cl
            refine hK _ _ ?_
            clear hK K
            try simp only [Act.put, List.getElem_toArray, List.getElem_cons_succ, List.getElem_cons_zero, List.setIfInBounds_toArray, List.set_cons_zero, List.set_cons_succ]
            refine take_put (i := 14) (v := ?_) (some 127) rfl (by kernel_rfl) (by kernel_rfl) (by kernel_rfl) (by kernel_rfl) (fun _ _ _ h => h) (Or.inl ⟨by rfl, ?_⟩) ?_
            rotate_left
            · (intro w; go_simp; try with_reducible rfl)
            try simp only [Act.put, List.setIfInBounds_toArray, List.set_cons_zero, List.set_cons_succ]
            refine wpAny_ready (rs := [15]) (by kernel_rfl) (by simp) ?_
            refine AllReady.cons rfl (fun K hK => ?_) AllReady.nil
            have cl := x2
            have fl := f2
            go_simp
            clear cl fl
            refine hK _ _ ?_
            clear hK K
            try simp only [Act.put, List.getElem_toArray, List.getElem_cons_succ, List.getElem_cons_zero, List.setIfInBounds_toArray, List.set_cons_zero, List.set_cons_succ]
            refine take_put (i := 16) (v := ?_) (some 128) rfl (by kernel_rfl) (by kernel_rfl) (by kernel_rfl) (by kernel_rfl) (fun _ _ _ h => h) (Or.inl ⟨by rfl, ?_⟩) ?_
            rotate_left
            · (intro w; go_simp; try with_reducible rfl)
            try simp only [Act.put, List.setIfInBounds_toArray, List.set_cons_zero, List.set_cons_succ]
            refine wpAny_ready (rs := [17]) (by kernel_rfl) (by simp) ?_
            refine AllReady.cons rfl (fun K hK => ?_) AllReady.nil
            have cl := x3
            have fl := f3
            go_simp
            clear cl fl
            refine hK _ _ ?_
            clear hK K
            try simp only [Act.put, List.getElem_toArray, List.getElem_cons_succ, List.getElem_cons_zero, List.setIfInBounds_toArray, List.set_cons_zero, List.set_cons_succ]
            refine wpAny_done (by kernel_rfl) ?_ _
            go_wp2
            go_roundw
            case rel => exact ⟨Q, _, by omega, by omega, by go_num, HBY2, HR2, HG2⟩
            case measure => simp [intOf]; omega
          · have cl := x2
            go_simp
            clear cl
            refine hK _ _ ?_
            clear hK K
            try simp only [Act.put, List.getElem_toArray, List.getElem_cons_succ, List.getElem_cons_zero, List.setIfInBounds_toArray, List.set_cons_zero, List.set_cons_succ]
            refine wpAny_ready (rs := [9]) (by kernel_rfl) (by simp) ?_
            refine AllReady.cons rfl (fun K hK => ?_) AllReady.nil
            have cl := x1
            go_simp
            clear cl
            refine hK _ _ ?_
            clear hK K
            try simp only [Act.put, List.getElem_toArray, List.getElem_cons_succ, List.getElem_cons_zero, List.setIfInBounds_toArray, List.set_cons_zero, List.set_cons_succ]
            refine take_put (i := 14) (v := ?_) (some 127) rfl (by kernel_rfl) (by kernel_rfl) (by kernel_rfl) (by kernel_rfl) (fun _ _ _ h => h) (Or.inl ⟨by rfl, ?_⟩) ?_
            rotate_left
            · (intro w; go_simp; try with_reducible rfl)
            try simp only [Act.put, List.setIfInBounds_toArray, List.set_cons_zero, List.set_cons_succ]
            refine wpAny_ready (rs := [15]) (by kernel_rfl) (by simp) ?_
            refine AllReady.cons rfl (fun K hK => ?_) AllReady.nil
            have cl := x2
            have fl := f2
            go_simp
            clear cl fl
            refine hK _ _ ?_
            clear hK K
            try simp only [Act.put, List.getElem_toArray, List.getElem_cons_succ, List.getElem_cons_zero, List.setIfInBounds_toArray, List.set_cons_zero, List.set_cons_succ]
            refine take_put (i := 16) (v := ?_) (some 128) rfl (by kernel_rfl) (by kernel_rfl) (by kernel_rfl) (by kernel_rfl) (fun _ _ _ h => h) (Or.inl ⟨by rfl, ?_⟩) ?_
            rotate_left
            · (intro w; go_simp; try with_reducible rfl)
            try simp only [Act.put, List.setIfInBounds_toArray, List.set_cons_zero, List.set_cons_succ]
            refine wpAny_ready (rs := [17]) (by kernel_rfl) (by simp) ?_
            refine AllReady.cons rfl (fun K hK => ?_) AllReady.nil
            have cl := x3
            have fl := f3
            go_simp
            clear cl fl
            refine hK _ _ ?_
            clear hK K
            try simp only [Act.put, List.getElem_toArray, List.getElem_cons_succ, List.getElem_cons_zero, List.setIfInBounds_toArray, List.set_cons_zero, List.set_cons_succ]
            refine wpAny_done (by kernel_rfl) ?_ _
            go_wp2
            go_roundw
            case rel => exact ⟨Q, _, by omega, by omega, by go_num, HBY2, HR2, HG2⟩
            case measure => simp [intOf]; omega
        · obtain rfl : k = i := by omega
          have hk' : ¬ (k : Int) < (k : Int) := by omega
          have HF : Hid (Mg wr base kb n c s l a b) := by
            have hmm := HM.out
            rw [hmm]
            exact ⟨l1, HRk.out, (Re.of_rot HBY.out (by omega) (by omega)).mono (by omega) (Nat.le_refl _), ins_back HS.out HA.out (by omega) (by omega) HI.out.1 HI.out.2 HBY.out⟩
          go_wp2
          go_returns
          exact ⟨rfl, HF, HGk.out⟩
end Go.Proofs.YteiadaonihgbfaaDoor
