/- slices.symMergeCmpFunc, where one of the rows has one number. -/
import Derived.Test.YteiadaonihgbfaaDoorWhS3
namespace Go.Proofs.YteiadaonihgbfaaDoor
open Go.RowKit

def dW (s : St) (x : Nat) : Nat := s.due.getD (x - 1) 0
theorem cf_lt (s : St) (x y : Nat) : cfW s x y < 0 ↔ dW s x < dW s y := by
  unfold cfW cmpI dW
  split
  · omega
  · split <;> omega
/-- What the closure that sorts needs: the wheel, and the box of its pointer, beside the row. -/
def Cx (w : World) (kb g bx : Nat) (s : St) : Prop := Wh w g s ∧ w.cell? ⟨bx, 0, none⟩ = some (.pointer (some ⟨g, 0, none⟩)) ∧ g ≠ kb ∧ bx ≠ kb
theorem Cx.grown {w w' : World} {kb g bx : Nat} {s : St} (h : Cx w kb g bx s) (hg : w.grownBy w' (some kb)) : Cx w' kb g bx s := ⟨h.1.grown hg h.2.2.1, hg.cell h.2.1 (by simpa using h.2.2.2), h.2.2⟩
theorem Cx.cmp {w : World} {kb g bx : Nat} {s : St} (h : Cx w kb g bx s) {x y : Nat} (hx : 1 ≤ x ∧ x ≤ 64) (hy : 1 ≤ y ∧ y ≤ 64) (m : Nat) :
    Calls Tryd.prog 41 #[.int .i64 (x : Int), .int .i64 (y : Int), .pointer (some ⟨bx, 0, none⟩)] (w.drewN m) fun e' w' => e' = .returned (.int .i64 (cfW s x y)) ∧ ∃ m', w' = (w.drewN m).drewN m' := by
  obtain ⟨k1, k2, _⟩ := h.grown (w' := w.drewN m) ⟨rfl, rfl, rfl, Nat.le_refl _, fun _ _ _ => rfl⟩
  have := wh_cmp (w.drewN m) g bx s (x - 1) (y - 1) (by omega) (by omega) k1 k2
  rw [show ((x - 1 : Nat) : Int) + 1 = (x : Int) from by omega, show ((y - 1 : Nat) : Int) + 1 = (y : Int) from by omega] at this
  exact this
theorem rot_one (a k : Nat) : k = rotF a (a + 1) (a + 1) k := by
  unfold rotF
  repeat' split
  all_goals omega
/-- A row that is sorted within a range, and turned within it alone. -/
def Mg (w : World) (base kb n c : Nat) (s : St) (l : List Nat) (a b : Nat) : Prop := ∃ l', Row w base kb n c l' ∧ Re l l' a b ∧ Srt (dW s) l' a b

set_option maxRecDepth 100000 in
set_option maxHeartbeats 8000000 in
theorem wh_mrg1 (w : World) (base kb n c g bx : Nat) (s : St) (l : List Nat) (a b : Nat) (hr : Row w base kb n c l) (hc : Cx w kb g bx s) (hab : a + 1 < b) (hbn : b ≤ n) (hn : n ≤ 64) (hs : Srt (dW s) l (a + 1) b) (hg : Agr (dW s) l a (a + 1) b) (m : Nat) (hm : m = a + 1) :
    Calls Tryd.prog 49 #[.slice (some ⟨kb, 0, none⟩) n c, .int .i64 (a : Int), .int .i64 (m : Int), .int .i64 (b : Int), .func (.func 41) #[] #[.pointer (some ⟨bx, 0, none⟩)]] w fun e w' => e = .returned (.tuple #[]) ∧ Hid (Mg w' base kb n c s l a b) ∧ w.grownBy w' (some kb) := by
  have HR0 : Hid (Row w base kb n c l) := hr
  have HC0 : Hid (Cx w kb g bx s) := hc
  have HS : Hid (Srt (dW s) l (a + 1) b) := hs
  have HA : Hid (Agr (dW s) l a (a + 1) b) := hg
  have HM : Hid (m = a + 1) := hm
  have q0 : (m : Int) - (a : Int) = 1 := by omega
  have ham : a < n ∧ m < n ∧ 1 ≤ m ∧ m ≤ b := by omega
  have a0 : (0 : Int) ≤ (a : Int) := by omega
  have a1 : (a : Int) < (n : Int) := by omega
  obtain ⟨y, hy⟩ : ∃ y, y = l.getD a 0 := ⟨_, rfl⟩
  have HY : Hid (y = l.getD a 0) := hy
  have hyr : 1 ≤ y ∧ y ≤ 64 := by rw [hy]; exact hr.num (by omega)
  clear hr hc hs hg hm hy
  go_enter Tryd.func49, Tryd.ntmps49
  go_wp2
  go_loopw [10, 11] (fun t10 t11 wr => ∃ (i j : Nat), m ≤ i ∧ i ≤ j ∧ j ≤ b ∧ t10 = .int .i64 (i : Int) ∧ t11 = .int .i64 (j : Int) ∧ Hid ((i = m ∨ dW s (l.getD (i - 1) 0) < dW s (l.getD a 0)) ∧ (j = b ∨ ¬ dW s (l.getD j 0) < dW s (l.getD a 0))) ∧ Hid (Row wr base kb n c l) ∧ Hid (w.grownBy wr (some kb))) (fun t10 t11 _ => (intOf t11).toNat - (intOf t10).toNat)
  case atStart => exact ⟨m, b, by omega, by omega, by omega, by go_num, by go_num, ⟨.inl rfl, .inl rfl⟩, HR0, grown_refl _ _⟩
  case round =>
    obtain ⟨i, j, hmi, hij, hjb, rfl, rfl, HI, HRW, HG⟩ := hrel
    by_cases hlt : i < j
    · have hlt' : (i : Int) < (j : Int) := by omega
      obtain ⟨S, hS⟩ : ∃ S, S = i + j := ⟨_, rfl⟩
      obtain ⟨H, hH⟩ : ∃ H, H = (i + j) / 2 := ⟨_, rfl⟩
      have q1 : (i : Int) + (j : Int) = (S : Int) := by omega
      have q2 : IntKind.i64.wrap (S : Int) = (S : Int) := by rw [IntKind.wrap_i64]; omega
      have q3 : IntKind.u64.wrap (S : Int) = (S : Int) := by rw [IntKind.wrap_u64]; omega
      have q4 : (S : Int) / 2 = (H : Int) := by omega
      have q5 : IntKind.i64.wrap (H : Int) = (H : Int) := by rw [IntKind.wrap_i64]; omega
      have q6 : IntKind.u64.wrap (H : Int) = (H : Int) := by rw [IntKind.wrap_u64]; omega
      have hH2 : i ≤ H ∧ H < j := by omega
      have p0 : (0 : Int) ≤ (H : Int) := by omega
      have p1 : (H : Int) < (n : Int) := by omega
      obtain ⟨x, hx⟩ : ∃ x, x = l.getD H 0 := ⟨_, rfl⟩
      have HX : Hid (x = l.getD H 0) := hx
      have hxr : 1 ≤ x ∧ x ≤ 64 := by rw [hx]; exact HRW.out.num (by omega)
      have x1 : wr.cell? ⟨kb, H, none⟩ = some (.int .i64 (x : Int)) := by rw [hx]; exact HRW.out.cell (by omega)
      have x2 : wr.cell? ⟨kb, a, none⟩ = some (.int .i64 (y : Int)) := by rw [HY.out]; exact HRW.out.cell (by omega)
      obtain ⟨e, he⟩ : ∃ e, e = cfW s x y := ⟨_, rfl⟩
      have HCM : Hid (∀ m, Calls Tryd.prog 41 #[.int .i64 (x : Int), .int .i64 (y : Int), .pointer (some ⟨bx, 0, none⟩)] (wr.drewN m) fun e' w' => e' = .returned (.int .i64 e) ∧ ∃ m', w' = (wr.drewN m).drewN m') := fun m => by
        rw [he]
        exact (HC0.out.grown HG.out).cmp hxr hyr m
      have HE : Hid (e < 0 ↔ dW s (l.getD H 0) < dW s (l.getD a 0)) := by rw [he, HX.out, HY.out]; exact cf_lt _ _ _
      clear hx he hS hH
      by_cases hel : e < 0
      · have HI2 : Hid ((H + 1 = m ∨ dW s (l.getD (H + 1 - 1) 0) < dW s (l.getD a 0)) ∧ (j = b ∨ ¬ dW s (l.getD j 0) < dW s (l.getD a 0))) := ⟨.inr (HE.out.1 hel), HI.out.2⟩
        go_wp2
        go_quiet ((go_at_call 41; refine Calls.quiet_of (HCM.out _)))
        generalize hnq : World.drewN _ _ = wq
        have HRq : Hid (Row wq base kb n c l) := by (show Row _ _ _ _ _ _); rw [← hnq]; exact HRW.out.drews _
        have HGq : Hid (w.grownBy wq (some kb)) := by (show World.grownBy _ _ _); rw [← hnq]; exact grown_drews HG.out _
        clear hnq
        go_wp2
        go_roundw
        case rel => exact ⟨H + 1, j, by omega, by omega, by omega, by go_num, by go_num, HI2, HRq, HGq⟩
        case measure => simp [intOf]; omega
      · have hel2 : decide (e < 0) = false := by simpa using hel
        have HI2 : Hid ((i = m ∨ dW s (l.getD (i - 1) 0) < dW s (l.getD a 0)) ∧ (H = b ∨ ¬ dW s (l.getD H 0) < dW s (l.getD a 0))) := ⟨HI.out.1, .inr (fun h => hel (HE.out.2 h))⟩
        go_wp2
        go_quiet ((go_at_call 41; refine Calls.quiet_of (HCM.out _)))
        generalize hnq : World.drewN _ _ = wq
        have HRq : Hid (Row wq base kb n c l) := by (show Row _ _ _ _ _ _); rw [← hnq]; exact HRW.out.drews _
        have HGq : Hid (w.grownBy wq (some kb)) := by (show World.grownBy _ _ _); rw [← hnq]; exact grown_drews HG.out _
        clear hnq
        go_wp2
        go_roundw
        case rel => exact ⟨i, H, by omega, by omega, by omega, by go_num, by go_num, HI2, HRq, HGq⟩
        case measure => simp [intOf]; omega
    · obtain rfl : i = j := by omega
      have hlt' : ¬ (i : Int) < (i : Int) := by omega
      obtain ⟨I, hI⟩ : ∃ I, I = i - 1 := ⟨_, rfl⟩
      have HIE : Hid (I = i - 1) := hI
      have qI : (i : Int) - 1 = (I : Int) := by omega
      have hIi : a ≤ I := by have := HM.out; omega
      clear hI
      go_wp2
      go_loopw [13] (fun t13 wr => ∃ (k : Nat) (l1 : List Nat), a ≤ k ∧ k ≤ I ∧ t13 = .int .i64 (k : Int) ∧ Hid (By l l1 (rotF a (a + 1) (k + 1))) ∧ Hid (Row wr base kb n c l1) ∧ Hid (w.grownBy wr (some kb))) (fun t13 _ => I - (intOf t13).toNat)
      case atStart => exact ⟨a, l, by omega, by omega, by go_num, (By.refl l).congr (rot_one a), HRW, HG⟩
      case round =>
        obtain ⟨k, l1, hak, hkI, rfl, HBY, HRk, HGk⟩ := hrel
        by_cases hk : k < I
        · have hk' : (k : Int) < (I : Int) := by omega
          obtain ⟨P, hP⟩ : ∃ P, P = k := ⟨_, rfl⟩
          obtain ⟨Q, hQ⟩ : ∃ Q, Q = k + 1 := ⟨_, rfl⟩
          have hkn : k < n ∧ Q < n ∧ Q ≤ I ∧ k < Q := by have := HIE.out; omega
          have HPQ : Hid (Q = k + 1) := hQ
          have q4 : (k : Int) + 1 = (Q : Int) := by omega
          have q1 : IntKind.i64.wrap (k : Int) = (k : Int) := by rw [IntKind.wrap_i64]; omega
          have q2 : IntKind.i64.wrap (Q : Int) = (Q : Int) := by rw [IntKind.wrap_i64]; omega
          have p0 : (0 : Int) ≤ (k : Int) := by omega
          have p1 : (k : Int) < (n : Int) := by omega
          have p2 : (0 : Int) ≤ (Q : Int) := by omega
          have p3 : (Q : Int) < (n : Int) := by omega
          obtain ⟨x, z, hxz, HXZ, hpr⟩ := HRk.out.drew.pair (P := k) (Q := Q) (by omega) (by omega) (by omega)
          have x1 := hpr.x1
          have x2 := hpr.x2
          have x3 := hpr.x3
          have f2 := hpr.f2
          have f3 := hpr.f3
          have HBY2 : Hid (By l ((l1.set k (l1.getD Q 0)).set Q (l1.getD k 0)) (rotF a (a + 1) (Q + 1))) := (HBY.out.trans (by_swap l1 k Q (by omega) (by rw [HRk.out.len]; omega))).congr (fun t => by
            rw [hQ]
            unfold swpF rotF
            repeat' split
            all_goals omega)
          have HG2 : Hid (w.grownBy ((wr.drew.setCell ⟨kb, k, none⟩ (.int .i64 (z : Int))).setCell ⟨kb, Q, none⟩ (.int .i64 (x : Int))) (some kb)) := grown_trans (grown_drew HGk.out) hpr.grown
          have HR2 : Hid (Row ((wr.drew.setCell ⟨kb, k, none⟩ (.int .i64 (z : Int))).setCell ⟨kb, Q, none⟩ (.int .i64 (x : Int))) base kb n c ((l1.set k (l1.getD Q 0)).set Q (l1.getD k 0))) := hpr.row
          clear hpr hP hQ
          go_wp2
          refine wp_region_any (by kernel_rfl) ?_
          change wpAny _ _ _ _ _ _ _ (World.drew _)
          generalize wr.drew = wd at *
          refine take_put (i := 0) (v := ?_) (some 61) rfl (by kernel_rfl) (by kernel_rfl) (by kernel_rfl) (by kernel_rfl) (fun _ _ _ h => h) (Or.inl ⟨by rfl, ?_⟩) ?_
          rotate_left
          · (intro w; go_simp; try with_reducible rfl)
          try simp only [Act.put, List.setIfInBounds_toArray, List.set_cons_zero, List.set_cons_succ]
          refine take_put (i := 1) (v := ?_) (some 62) rfl (by kernel_rfl) (by kernel_rfl) (by kernel_rfl) (by kernel_rfl) (fun _ _ _ h => h) (Or.inl ⟨by rfl, ?_⟩) ?_
          rotate_left
          · (intro w; go_simp; try with_reducible rfl)
          try simp only [Act.put, List.setIfInBounds_toArray, List.set_cons_zero, List.set_cons_succ]
          refine take_put (i := 2) (v := ?_) (some 63) rfl (by kernel_rfl) (by kernel_rfl) (by kernel_rfl) (by kernel_rfl) (fun _ _ _ h => h) (Or.inl ⟨by rfl, ?_⟩) ?_
          rotate_left
          · (intro w; go_simp; try with_reducible rfl)
          try simp only [Act.put, List.setIfInBounds_toArray, List.set_cons_zero, List.set_cons_succ]
          refine take_put (i := 3) (v := ?_) (some 64) rfl (by kernel_rfl) (by kernel_rfl) (by kernel_rfl) (by kernel_rfl) (fun _ _ _ h => h) (Or.inl ⟨by rfl, ?_⟩) ?_
          rotate_left
          · (intro w; go_simp; try with_reducible rfl)
          try simp only [Act.put, List.setIfInBounds_toArray, List.set_cons_zero, List.set_cons_succ]
          refine take_put (i := 4) (v := ?_) (some 65) rfl (by kernel_rfl) (by kernel_rfl) (by kernel_rfl) (by kernel_rfl) (fun _ _ _ h => h) (Or.inl ⟨by rfl, ?_⟩) ?_
          rotate_left
          · (intro w; go_simp; try with_reducible rfl)
          try simp only [Act.put, List.setIfInBounds_toArray, List.set_cons_zero, List.set_cons_succ]
          refine take_put (i := 5) (v := ?_) (some 66) rfl (by kernel_rfl) (by kernel_rfl) (by kernel_rfl) (by kernel_rfl) (fun _ _ _ h => h) (Or.inl ⟨by rfl, ?_⟩) ?_
          rotate_left
          · (intro w; go_simp; try with_reducible rfl)
          try simp only [Act.put, List.setIfInBounds_toArray, List.set_cons_zero, List.set_cons_succ]
          refine take_put (i := 6) (v := ?_) (some 67) rfl (by kernel_rfl) (by kernel_rfl) (by kernel_rfl) (by kernel_rfl) (fun _ _ _ h => h) (Or.inl ⟨by rfl, ?_⟩) ?_
          rotate_left
          · (intro w; go_simp; try with_reducible rfl)
          try simp only [Act.put, List.setIfInBounds_toArray, List.set_cons_zero, List.set_cons_succ]
          refine take_put (i := 7) (v := ?_) (some 68) rfl (by kernel_rfl) (by kernel_rfl) (by kernel_rfl) (by kernel_rfl) (fun _ _ _ h => h) (Or.inl ⟨by rfl, ?_⟩) ?_
          rotate_left
          · (intro w; go_simp; try with_reducible rfl)
          try simp only [Act.put, List.setIfInBounds_toArray, List.set_cons_zero, List.set_cons_succ]
          refine take_put (i := 8) (v := ?_) (some 69) rfl (by kernel_rfl) (by kernel_rfl) (by kernel_rfl) (by kernel_rfl) (fun _ _ _ h => h) (Or.inl ⟨by rfl, ?_⟩) ?_
          rotate_left
          · (intro w; go_simp; try with_reducible rfl)
          try simp only [Act.put, List.setIfInBounds_toArray, List.set_cons_zero, List.set_cons_succ]
          refine take_put (i := 10) (v := ?_) (some 71) rfl (by kernel_rfl) (by kernel_rfl) (by kernel_rfl) (by kernel_rfl) (fun _ _ _ h => h) (Or.inl ⟨by rfl, ?_⟩) ?_
          rotate_left
          · (intro w; go_simp; try with_reducible rfl)
          try simp only [Act.put, List.setIfInBounds_toArray, List.set_cons_zero, List.set_cons_succ]
          refine take_put (i := 11) (v := ?_) (some 72) rfl (by kernel_rfl) (by kernel_rfl) (by kernel_rfl) (by kernel_rfl) (fun _ _ _ h => h) (Or.inl ⟨by rfl, ?_⟩) ?_
          rotate_left
          · (intro w; go_simp; try with_reducible rfl)
          try simp only [Act.put, List.setIfInBounds_toArray, List.set_cons_zero, List.set_cons_succ]
          refine take_put (i := 12) (v := ?_) (some 73) rfl (by kernel_rfl) (by kernel_rfl) (by kernel_rfl) (by kernel_rfl) (fun _ _ _ h => h) (Or.inl ⟨by rfl, ?_⟩) ?_
          rotate_left
          · (intro w; go_simp; try with_reducible rfl)
          try simp only [Act.put, List.setIfInBounds_toArray, List.set_cons_zero, List.set_cons_succ]
          refine wpAny_ready (rs := [9, 13]) (by kernel_rfl) (by simp) ?_
          refine AllReady.cons rfl (fun K hK => ?_) (AllReady.cons rfl (fun K hK => ?_) AllReady.nil)
          · have cl := x1
            go_simp
            clear cl
            refine hK _ _ ?_
            clear hK K
            try simp only [Act.put, List.getElem_toArray, List.getElem_cons_succ, List.getElem_cons_zero, List.setIfInBounds_toArray, List.set_cons_zero, List.set_cons_succ]
            refine wpAny_ready (rs := [13]) (by kernel_rfl) (by simp) ?_
            refine AllReady.cons rfl (fun K hK => ?_) AllReady.nil
            have cl := x2
            go_simp
            clear cl
            refine hK _ _ ?_
            clear hK K
            try simp only [Act.put, List.getElem_toArray, List.getElem_cons_succ, List.getElem_cons_zero, List.setIfInBounds_toArray, List.set_cons_zero, List.set_cons_succ]
            refine take_put (i := 14) (v := ?_) (some 75) rfl (by kernel_rfl) (by kernel_rfl) (by kernel_rfl) (by kernel_rfl) (fun _ _ _ h => h) (Or.inl ⟨by rfl, ?_⟩) ?_
            rotate_left
            · (intro w; go_simp; try with_reducible rfl)
            try simp only [Act.put, List.setIfInBounds_toArray, List.set_cons_zero, List.set_cons_succ]
            refine wpAny_ready (rs := [15]) (by kernel_rfl) (by simp) ?_
            refine AllReady.cons rfl (fun K hK => ?_) AllReady.nil
            have cl := x2
            have fl := f2
            go_simp
            clear cl fl
            refine hK _ _ ?_
            clear hK K
            try simp only [Act.put, List.getElem_toArray, List.getElem_cons_succ, List.getElem_cons_zero, List.setIfInBounds_toArray, List.set_cons_zero, List.set_cons_succ]
            refine take_put (i := 16) (v := ?_) (some 76) rfl (by kernel_rfl) (by kernel_rfl) (by kernel_rfl) (by kernel_rfl) (fun _ _ _ h => h) (Or.inl ⟨by rfl, ?_⟩) ?_
            rotate_left
            · (intro w; go_simp; try with_reducible rfl)
            try simp only [Act.put, List.setIfInBounds_toArray, List.set_cons_zero, List.set_cons_succ]
            refine wpAny_ready (rs := [17]) (by kernel_rfl) (by simp) ?_
            refine AllReady.cons rfl (fun K hK => ?_) AllReady.nil
            have cl := x3
            have fl := f3
            go_simp
            clear cl fl
            refine hK _ _ ?_
            clear hK K
            try simp only [Act.put, List.getElem_toArray, List.getElem_cons_succ, List.getElem_cons_zero, List.setIfInBounds_toArray, List.set_cons_zero, List.set_cons_succ]
            refine wpAny_done (by kernel_rfl) ?_ _
            go_wp2
            go_roundw
            case rel => exact ⟨Q, _, by omega, by omega, by go_num, HBY2, HR2, HG2⟩
            case measure => simp [intOf]; omega
          · have cl := x2
            go_simp
            clear cl
            refine hK _ _ ?_
            clear hK K
            try simp only [Act.put, List.getElem_toArray, List.getElem_cons_succ, List.getElem_cons_zero, List.setIfInBounds_toArray, List.set_cons_zero, List.set_cons_succ]
            refine wpAny_ready (rs := [9]) (by kernel_rfl) (by simp) ?_
            refine AllReady.cons rfl (fun K hK => ?_) AllReady.nil
            have cl := x1
            go_simp
            clear cl
            refine hK _ _ ?_
            clear hK K
            try simp only [Act.put, List.getElem_toArray, List.getElem_cons_succ, List.getElem_cons_zero, List.setIfInBounds_toArray, List.set_cons_zero, List.set_cons_succ]
            refine take_put (i := 14) (v := ?_) (some 75) rfl (by kernel_rfl) (by kernel_rfl) (by kernel_rfl) (by kernel_rfl) (fun _ _ _ h => h) (Or.inl ⟨by rfl, ?_⟩) ?_
            rotate_left
            · (intro w; go_simp; try with_reducible rfl)
            try simp only [Act.put, List.setIfInBounds_toArray, List.set_cons_zero, List.set_cons_succ]
            refine wpAny_ready (rs := [15]) (by kernel_rfl) (by simp) ?_
            refine AllReady.cons rfl (fun K hK => ?_) AllReady.nil
            have cl := x2
            have fl := f2
            go_simp
            clear cl fl
            refine hK _ _ ?_
            clear hK K
            try simp only [Act.put, List.getElem_toArray, List.getElem_cons_succ, List.getElem_cons_zero, List.setIfInBounds_toArray, List.set_cons_zero, List.set_cons_succ]
            refine take_put (i := 16) (v := ?_) (some 76) rfl (by kernel_rfl) (by kernel_rfl) (by kernel_rfl) (by kernel_rfl) (fun _ _ _ h => h) (Or.inl ⟨by rfl, ?_⟩) ?_
            rotate_left
            · (intro w; go_simp; try with_reducible rfl)
            try simp only [Act.put, List.setIfInBounds_toArray, List.set_cons_zero, List.set_cons_succ]
            refine wpAny_ready (rs := [17]) (by kernel_rfl) (by simp) ?_
            refine AllReady.cons rfl (fun K hK => ?_) AllReady.nil
            have cl := x3
            have fl := f3
            go_simp
            clear cl fl
            refine hK _ _ ?_
            clear hK K
            try simp only [Act.put, List.getElem_toArray, List.getElem_cons_succ, List.getElem_cons_zero, List.setIfInBounds_toArray, List.set_cons_zero, List.set_cons_succ]
            refine wpAny_done (by kernel_rfl) ?_ _
            go_wp2
            go_roundw
            case rel => exact ⟨Q, _, by omega, by omega, by go_num, HBY2, HR2, HG2⟩
            case measure => simp [intOf]; omega
        · obtain rfl : k = I := by omega
          have hk' : ¬ (k : Int) < (k : Int) := by omega
          have HF : Hid (Mg wr base kb n c s l a b) := by
            have hI2 := HIE.out
            have hmm := HM.out
            have hb := HBY.out
            rw [hI2, show i - 1 + 1 = i from by omega] at hb
            have hI3 := HI.out
            rw [hmm] at hI3
            exact ⟨l1, HRk.out, (Re.of_rot hb (by omega) (by omega)).mono (Nat.le_refl _) (by omega), ins_front HS.out HA.out (by omega) (by omega) hI3.1 hI3.2 hb⟩
          go_wp2
          go_returns
          exact ⟨rfl, HF, HGk.out⟩
end Go.Proofs.YteiadaonihgbfaaDoor
