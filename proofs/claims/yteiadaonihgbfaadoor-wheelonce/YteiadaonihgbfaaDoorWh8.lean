/- wheel: fall. -/
import Derived.Test.YteiadaonihgbfaaDoorWh7
import Derived.WalkMore
namespace Go.Proofs.YteiadaonihgbfaaDoor
open Go.RowKit

/-- A timer falls from one slot into another. -/
def moveS (s : St) (k j i : Nat) : St :=
  { s with slots := (s.slots.set k (s.slots.getD k 0 &&& (18446744073709551615 - 2 ^ i))).set j ((s.slots.set k (s.slots.getD k 0 &&& (18446744073709551615 - 2 ^ i))).getD j 0 ||| 2 ^ i) }
/-- The timers of one slot fall; true: one stays, and so do all others. -/
def fallIn : St → Nat → List Nat → St × Bool
  | s, _, [] => (s, false)
  | s, k, id :: l => if slotN s.now (s.due.getD (id - 1) 0) = k then (s, true) else fallIn (moveS s k (slotN s.now (s.due.getD (id - 1) 0)) (id - 1)) k l
def fallOut : St → List Nat → St
  | s, [] => s
  | s, k :: ks => if (fallIn s k (idsS (s.slots.getD k 0))).2 = true then (fallIn s k (idsS (s.slots.getD k 0))).1 else fallOut (fallIn s k (idsS (s.slots.getD k 0))).1 ks
def fallS (s : St) : St := fallOut s (List.range' 1 41)
theorem grown_below {w w' : World} (g : Nat) (hb : Below w.heap.size w w') : w.grownBy w' (some g) := ⟨hb.os, hb.tape, hb.output, hb.size, fun k hk _ => hb.block k hk⟩
theorem Tab.grown {w w' : World} {g : Nat} (h : Tab w) (hg : w.grownBy w' (some g)) (h0 : g ≠ 0) : Tab w' := fun i hi => hg.cell (h i hi) (by simp; omega)

set_option maxRecDepth 100000 in
set_option maxHeartbeats 8000000 in
theorem wh_fall (w : World) (g : Nat) (s : St) (h : Wh w g s) (hT : Tab w) (hg0 : g ≠ 0) :
    Calls Tryd.prog 33 #[.pointer (some ⟨g, 0, none⟩)] w fun e w' => e = .returned (.tuple #[]) ∧ Hid (Wh w' g (fallS s)) ∧ w.grownBy w' (some g) := by
  have HW0 : Hid (Wh w g s) := h
  have HT0 : Hid (Tab w) := hT
  have HG0 : Hid (g ≠ 0) := hg0
  obtain ⟨R, HR⟩ : ∃ R, Hid (R = fallS s) := ⟨_, rfl⟩
  rw [← HR.out]
  clear h hT hg0
  go_enter Tryd.func33, Tryd.ntmps33
  go_wp2
  go_step3
  go_wp2
  go_step3
  go_wp2
  go_loopw [2] (fun t2 wr => ∃ (k : Nat) (s1 : St), 1 ≤ k ∧ k ≤ 42 ∧ t2 = .int .i64 (k : Int) ∧ Hid (fallOut s1 (List.range' k (42 - k)) = R) ∧ Hid (Wh wr g s1) ∧ Hid (w.grownBy wr (some g))) (fun t2 _ => 42 - (intOf t2).toNat)
  case atStart => exact ⟨1, s, by omega, by omega, rfl, by show _ = _; rw [HR.out]; rfl, HW0, ⟨rfl, rfl, rfl, Nat.le_refl _, fun _ _ _ => rfl⟩⟩
  case round =>
    obtain ⟨k, s1, hk1, hk42, rfl, HE, HW, HG⟩ := hrel
    by_cases hlt : k < 42
    · have hlt' : (k : Int) < 42 := by omega
      have hk0 : (0 : Int) ≤ (k : Int) := by omega
      obtain ⟨z, hz⟩ : ∃ z, z = s1.slots.getD k 0 := ⟨_, rfl⟩
      have hzl : z < 18446744073709551616 := by rw [hz]; exact HW.out.slot_le k
      have HZ : Hid (z = s1.slots.getD k 0) := hz
      have d2 : wr.cell? ⟨g, 65 + k, none⟩ = some (.int .u64 (z : Int)) := by rw [hz]; exact HW.out.slot_cell hlt
      have HTr : Hid (Tab wr) := HT0.out.grown HG.out HG0.out
      clear hz
      go_wp2_with fail
      refine (wh_ids wr z hzl HTr.out (Nat.lt_of_le_of_lt (Nat.zero_le _) HW.out.blk.lt)).mono ?_
      rintro e w1 ⟨v, rfl, ho, hb⟩
      obtain ⟨L, hL⟩ : ∃ L, L = idsS z := ⟨_, rfl⟩
      have HL : Hid (L = idsS z) := hL
      rw [← hL] at ho
      obtain ⟨a, n, c, rfl⟩ := own_slice ho.out
      have hn : n = L.length := by
        rcases ho.out.2 with ⟨h1, h2⟩ | ⟨_, _, _, h1, _⟩
        · simp only [Value.slice.injEq] at h1; omega
        · simp only [Value.slice.injEq] at h1; exact h1.2.1
      have HN : Hid (n = L.length) := hn
      have hn64 : n ≤ 64 := by rw [hn, hL]; exact ids_len z
      have HO : Hid (w1.ownsRow wr.heap.size 3 1 (.slice a n c) L.length (vi L)) := ho.out
      have HW1 : Hid (Wh w1 g s1) := HW.out.stay hb
      have HG1 : Hid (w.grownBy w1 (some g)) := grown_trans HG.out (grown_below g hb)
      have HGL : Hid (g < wr.heap.size) := HW.out.blk.lt
      have HID : Hid (∀ x ∈ L, 1 ≤ x ∧ x ≤ 64) := by show ∀ x ∈ L, _; rw [hL]; exact fun x hx => ⟨(ids_mem hx).1, (ids_mem hx).2.1⟩
      have HRO : Hid (R = if (fallIn s1 k L).2 = true then (fallIn s1 k L).1 else fallOut (fallIn s1 k L).1 (List.range' (k + 1) (42 - (k + 1)))) := by
        show _ = _
        have e : List.range' k (42 - k) = k :: List.range' (k + 1) (42 - (k + 1)) := by
          rw [show 42 - k = (42 - (k + 1)) + 1 from by omega, List.range'_succ]
        rw [← HE.out, e, fallOut, hL, HZ.out]
      obtain ⟨B, hB⟩ : ∃ B, B = wr.heap.size := ⟨_, rfl⟩
      rw [← hB] at HO HGL
      clear ho hb hn hL HE d2 hB
      go_wp2
      go_loopw [18] (fun t18 wr => ∃ (j : Nat) (s2 : St), j ≤ n ∧ t18 = .int .i64 (j : Int) ∧ Hid (fallIn s2 k (L.drop j) = fallIn s1 k L) ∧ Hid (Wh wr g s2) ∧ Hid (w.grownBy wr (some g)) ∧ Hid (wr.ownsRow B 3 1 (.slice a n c) L.length (vi L))) (fun t18 _ => n - (intOf t18).toNat)
      case atStart => exact ⟨0, s1, by omega, rfl, rfl, HW1, HG1, HO⟩
      case round =>
        obtain ⟨j, s2, hj, rfl, HF, HW2, HG2, HO2⟩ := hrel
        by_cases hjn : j < n
        · have hjn' : (j : Int) < (n : Int) := by omega
          have hj0 : (0 : Int) ≤ (j : Int) := by omega
          have HJL : Hid (j < L.length) := by show _ < _; rw [← HN.out]; exact hjn
          obtain ⟨id, hid⟩ : ∃ id, id = L[j]'HJL.out := ⟨_, rfl⟩
          have hidr := HID.out id (by rw [hid]; exact List.getElem_mem _)
          have HLD : Hid (L.drop j = id :: L.drop (j + 1)) := by show _ = _; rw [hid]; exact List.drop_eq_getElem_cons HJL.out
          obtain ⟨ka, rfl, ci⟩ : ∃ ka, a = some ⟨ka, 0, none⟩ ∧ wr.cell? ⟨ka, j, none⟩ = some (.int .i64 (id : Int)) := by
            rcases HO2.out.2 with ⟨h1, h2⟩ | ⟨ka, c', cur, h1, _⟩
            · (have := HJL.out; omega)
            · simp only [Value.slice.injEq] at h1
              obtain ⟨rfl, rfl, rfl⟩ := h1
              refine ⟨ka, rfl, ?_⟩
              rw [HO2.out.cellAt j (by omega), vi, List.getElem?_map, List.getElem?_eq_getElem HJL.out, hid]
              rfl
          clear hid
          obtain ⟨i, rfl⟩ : ∃ i, id = i + 1 := ⟨id - 1, by omega⟩
          have hi : i < 64 := by omega
          rw [show ((i + 1 : Nat) : Int) = (i : Int) + 1 from by omega] at ci
          obtain ⟨t, ht⟩ : ∃ t, t = s2.due.getD i 0 := ⟨_, rfl⟩
          have htl : t ≤ 1099511627776 := by rw [ht]; exact HW2.out.due_le i
          have d1 : wr.cell? ⟨g, 1 + i, none⟩ = some (.int .i64 (t : Int)) := by rw [ht]; exact HW2.out.due_cell hi
          obtain ⟨lz, hlz⟩ : ∃ lz, lz = slotN s2.now t := ⟨_, rfl⟩
          have HLZ : Hid (lz = slotN s2.now (s2.due.getD (i + 1 - 1) 0)) := by show _ = _; rw [hlz, ht]; rfl
          have hlz42 : lz < 42 := by rw [hlz]; exact slot_lt HW2.out.nw htl
          have HSL : Hid (Calls Tryd.prog 30 #[.pointer (some ⟨g, 0, none⟩), .int .i64 (t : Int)] wr fun e w'' => e = .returned (.int .i64 (lz : Int)) ∧ w'' = wr) := by show Calls _ _ _ _ _; rw [hlz]; exact wh_slot wr g s2 t HW2.out htl
          have q3 : IntKind.i64.wrap ((i : Int) + 1 - 1) = (i : Int) := by rw [IntKind.wrap_i64]; omega
          have hi' : (i : Int) < 64 := by omega
          have hi0 : (0 : Int) ≤ (i : Int) := by omega
          have hz' : (lz : Int) < 42 := by omega
          have hz0 : (0 : Int) ≤ (lz : Int) := by omega
          clear hlz ht hidr
          go_wp2_with fail
          refine HSL.out.mono ?_
          rintro e w3 ⟨he, hw3⟩
          subst he
          rw [hw3]
          clear hw3 w3
          by_cases heq : lz = k
          · subst heq
            have HX : Hid (R = s2) := by
              show _ = _
              have e : fallIn s1 lz L = (s2, true) := by rw [← HF.out, HLD.out, fallIn, if_pos HLZ.out.symm]
              rw [HRO.out, e]
              rfl
            go_wp2
            simp only [Exit.noGoto]
            go_returns
            exact ⟨rfl, by rw [HX.out]; exact HW2, HG2.out⟩
          · have heq' : ((lz : Int) == (k : Int)) = false := by rw [beq_eq_false_iff_ne]; omega
            have HNX : Hid (fallIn (moveS s2 k lz i) k (L.drop (j + 1)) = fallIn s1 k L) := by
              show _ = _
              rw [← HF.out, HLD.out, fallIn, if_neg (fun e => heq (by rw [HLZ.out]; exact e)), ← HLZ.out]
              rfl
            have HPW : Hid (2 ^ i < 18446744073709551616) := pow_lt i hi
            obtain ⟨b, hb⟩ : ∃ b, b = 2 ^ i := ⟨_, rfl⟩
            have HB : Hid (b = 2 ^ i) := hb
            have hbl : b < 18446744073709551616 := by rw [hb]; exact HPW.out
            have HAL : Hid (∀ w', Calls Tryd.prog 31 #[.int .i64 ((i : Int) + 1)] w' fun e w'' => e = .returned (.int .u64 (b : Int)) ∧ w'' = w') := fun w' => by rw [HB.out]; exact wh_alone w' i hi
            have HW2d : Hid (Wh wr.drew g s2) := HW2.out.stay ((Below.refl _ _).trans ⟨rfl, rfl, rfl, Nat.le_refl _, fun _ _ => rfl⟩)
            have HG2d : Hid (w.grownBy wr.drew (some g)) := ⟨HG2.out.os, HG2.out.tape, HG2.out.output, HG2.out.size, HG2.out.block⟩
            have HO2d : Hid (wr.drew.ownsRow B 3 1 (.slice (some ⟨ka, 0, none⟩) n c) L.length (vi L)) := HO2.out
            obtain ⟨x, hx⟩ : ∃ x, x = s2.slots.getD k 0 := ⟨_, rfl⟩
            have HXX : Hid (x = s2.slots.getD k 0) := hx
            have hxl : x < 18446744073709551616 := by rw [hx]; exact HW2.out.slot_le k
            have d2 : wr.drew.cell? ⟨g, 65 + k, none⟩ = some (.int .u64 (x : Int)) := by rw [hx]; exact HW2d.out.slot_cell hlt
            have f2 : wr.drew.frozen? ⟨g, 65 + k, none⟩ = false := HW2d.out.free _
            have q1 : bits .andNot .u64 (x : Int) (b : Int) = ((x &&& (18446744073709551615 - b) : Nat) : Int) := u64_andNot_nat x b hxl hbl
            clear hx hb ci d1
            go_wp2
            refine wp_region_any (by kernel_rfl) ?_
            change wpAny _ _ _ _ _ _ _ (World.drew _)
            generalize wr.drew = wd at *
            refine take_put (i := 0) (v := ?_) (some 34) rfl (by kernel_rfl) (by kernel_rfl) (by kernel_rfl) (by kernel_rfl) (fun _ _ _ h => h) (Or.inl ⟨by rfl, ?_⟩) ?_
            rotate_left
            · (intro w; go_simp; try with_reducible rfl)
            try simp only [Act.put, List.setIfInBounds_toArray, List.set_cons_zero, List.set_cons_succ]
            refine take_put (i := 1) (v := ?_) (some 35) rfl (by kernel_rfl) (by kernel_rfl) (by kernel_rfl) (by kernel_rfl) (fun _ _ _ h => h) (Or.inl ⟨by rfl, ?_⟩) ?_
            rotate_left
            · (intro w; go_simp; try with_reducible rfl)
            try simp only [Act.put, List.setIfInBounds_toArray, List.set_cons_zero, List.set_cons_succ]
            refine take_put (i := 2) (v := ?_) (some 36) rfl (by kernel_rfl) (by kernel_rfl) (by kernel_rfl) (by kernel_rfl) (fun _ _ _ h => h) (Or.inl ⟨by rfl, ?_⟩) ?_
            rotate_left
            · (intro w; go_simp; try with_reducible rfl)
            try simp only [Act.put, List.setIfInBounds_toArray, List.set_cons_zero, List.set_cons_succ]
            refine take_put (i := 3) (v := ?_) (some 37) rfl (by kernel_rfl) (by kernel_rfl) (by kernel_rfl) (by kernel_rfl) (fun _ _ _ h => h) (Or.inl ⟨by rfl, ?_⟩) ?_
            rotate_left
            · (intro w; go_simp; try with_reducible rfl)
            try simp only [Act.put, List.setIfInBounds_toArray, List.set_cons_zero, List.set_cons_succ]
            refine take_put (i := 4) (v := ?_) (some 38) rfl (by kernel_rfl) (by kernel_rfl) (by kernel_rfl) (by kernel_rfl) (fun _ _ _ h => h) (Or.inl ⟨by rfl, ?_⟩) ?_
            rotate_left
            · (intro w; go_simp; try with_reducible rfl)
            try simp only [Act.put, List.setIfInBounds_toArray, List.set_cons_zero, List.set_cons_succ]
            refine take_put (i := 6) (v := ?_) (some 40) rfl (by kernel_rfl) (by kernel_rfl) (by kernel_rfl) (by kernel_rfl) (fun _ _ _ h => h) (Or.inl ⟨by rfl, ?_⟩) ?_
            rotate_left
            · (intro w; go_simp; try with_reducible rfl)
            try simp only [Act.put, List.setIfInBounds_toArray, List.set_cons_zero, List.set_cons_succ]
            refine take_put (i := 9) (v := ?_) (some 43) rfl (by kernel_rfl) (by kernel_rfl) (by kernel_rfl) (by kernel_rfl) (fun _ _ _ h => h) (Or.inl ⟨by rfl, ?_⟩) ?_
            rotate_left
            · (intro w; go_simp; try with_reducible rfl)
            try simp only [Act.put, List.setIfInBounds_toArray, List.set_cons_zero, List.set_cons_succ]
            refine take_put (i := 10) (v := ?_) (some 44) rfl (by kernel_rfl) (by kernel_rfl) (by kernel_rfl) (by kernel_rfl) (fun _ _ _ h => h) (Or.inl ⟨by rfl, ?_⟩) ?_
            rotate_left
            · (intro w; go_simp; try with_reducible rfl)
            try simp only [Act.put, List.setIfInBounds_toArray, List.set_cons_zero, List.set_cons_succ]
            refine wpAny_ready (rs := [5, 7]) (by kernel_rfl) (by simp) ?_
            refine AllReady.cons rfl (fun K hK => ?_) (AllReady.cons rfl (fun K hK => ?_) AllReady.nil)
            · have cl := d2
              go_simp
              clear cl
              refine hK _ _ ?_
              clear hK K
              try simp only [Act.put, List.getElem_toArray, List.getElem_cons_succ, List.getElem_cons_zero, List.setIfInBounds_toArray, List.set_cons_zero, List.set_cons_succ]
              refine wpAny_ready (rs := [7]) (by kernel_rfl) (by simp) ?_
              refine AllReady.cons rfl (fun K hK => ?_) AllReady.nil
              go_simp
              refine (HAL.out _).mono ?_
              rintro e w2 ⟨he, hw2⟩
              subst he
              rw [hw2]
              clear hw2 w2
              refine hK _ _ ?_
              clear hK K
              try simp only [Act.put, List.getElem_toArray, List.getElem_cons_succ, List.getElem_cons_zero, List.setIfInBounds_toArray, List.set_cons_zero, List.set_cons_succ]
              refine take_put (i := 8) (v := ?_) (some 42) rfl (by kernel_rfl) (by kernel_rfl) (by kernel_rfl) (by kernel_rfl) (fun _ _ _ h => h) (Or.inl ⟨by rfl, ?_⟩) ?_
              rotate_left
              · (intro w; go_simp; try with_reducible rfl)
              try simp only [Act.put, List.setIfInBounds_toArray, List.set_cons_zero, List.set_cons_succ]
              refine take_put (i := 11) (v := ?_) (some 45) rfl (by kernel_rfl) (by kernel_rfl) (by kernel_rfl) (by kernel_rfl) (fun _ _ _ h => h) (Or.inl ⟨by rfl, ?_⟩) ?_
              rotate_left
              · (intro w; go_simp; try with_reducible rfl)
              try simp only [Act.put, List.setIfInBounds_toArray, List.set_cons_zero, List.set_cons_succ]
              refine wpAny_ready (rs := [12]) (by kernel_rfl) (by simp) ?_
              refine AllReady.cons rfl (fun K hK => ?_) AllReady.nil
              have cl := d2
              have fl := f2
              go_simp
              clear cl fl
              refine hK _ _ ?_
              clear hK K
              try simp only [Act.put, List.getElem_toArray, List.getElem_cons_succ, List.getElem_cons_zero, List.setIfInBounds_toArray, List.set_cons_zero, List.set_cons_succ]
              refine wpAny_done (by kernel_rfl) ?_ _
              have HW3 : Hid (Wh (wd.setCell ⟨g, 65 + k, none⟩ (.int .u64 ((x &&& (18446744073709551615 - b) : Nat) : Int))) g { s2 with slots := s2.slots.set k (x &&& (18446744073709551615 - b)) }) := HW2d.out.set_slot (Nat.lt_of_le_of_lt Nat.and_le_left hxl)
              have HC3 := grown_cell wd g (65 + k) (.int .u64 ((x &&& (18446744073709551615 - b) : Nat) : Int))
              generalize wd.setCell ⟨g, 65 + k, none⟩ (.int .u64 ((x &&& (18446744073709551615 - b) : Nat) : Int)) = w5 at *
              have HG3 : Hid (w.grownBy w5.drew (some g)) := by (have := grown_trans HG2d.out HC3); exact ⟨this.os, this.tape, this.output, this.size, this.block⟩
              have HO3 : Hid (w5.drew.ownsRow B 3 1 (.slice (some ⟨ka, 0, none⟩) n c) L.length (vi L)) := own_stay HO2d.out (fun q hq => HC3.block q (HO2d.out.lt q hq).2 (fun e => by have := (HO2d.out.lt q hq).1; have := HGL.out; simp only [Option.some.injEq] at e; omega))
              obtain ⟨s3, HS3⟩ : ∃ s3 : St, Hid (s3 = { s2 with slots := s2.slots.set k (x &&& (18446744073709551615 - b)) }) := ⟨_, rfl⟩
              rw [← HS3.out] at HW3
              have HW3d : Hid (Wh w5.drew g s3) := HW3.out.stay ((Below.refl _ _).trans ⟨rfl, rfl, rfl, Nat.le_refl _, fun _ _ => rfl⟩)
              clear HC3 d2 f2 q1 HW2d HG2d HO2d
              obtain ⟨y, hy⟩ : ∃ y, y = s3.slots.getD lz 0 := ⟨_, rfl⟩
              have HYY : Hid (y = s3.slots.getD lz 0) := hy
              have hyl : y < 18446744073709551616 := by rw [hy]; exact HW3.out.slot_le lz
              have d2 : w5.drew.cell? ⟨g, 65 + lz, none⟩ = some (.int .u64 (y : Int)) := by rw [hy]; exact HW3d.out.slot_cell hlz42
              have f2 : w5.drew.frozen? ⟨g, 65 + lz, none⟩ = false := HW3d.out.free _
              have q1 : bits .or .u64 (y : Int) (b : Int) = ((y ||| b : Nat) : Int) := u64_or_nat y b hyl hbl
              clear hy
              go_wp2
              refine wp_region_any (by kernel_rfl) ?_
              change wpAny _ _ _ _ _ _ _ (World.drew _)
              generalize w5.drew = wd at *
              refine take_put (i := 0) (v := ?_) (some 46) rfl (by kernel_rfl) (by kernel_rfl) (by kernel_rfl) (by kernel_rfl) (fun _ _ _ h => h) (Or.inl ⟨by rfl, ?_⟩) ?_
              rotate_left
              · (intro w; go_simp; try with_reducible rfl)
              try simp only [Act.put, List.setIfInBounds_toArray, List.set_cons_zero, List.set_cons_succ]
              refine take_put (i := 1) (v := ?_) (some 47) rfl (by kernel_rfl) (by kernel_rfl) (by kernel_rfl) (by kernel_rfl) (fun _ _ _ h => h) (Or.inl ⟨by rfl, ?_⟩) ?_
              rotate_left
              · (intro w; go_simp; try with_reducible rfl)
              try simp only [Act.put, List.setIfInBounds_toArray, List.set_cons_zero, List.set_cons_succ]
              refine take_put (i := 2) (v := ?_) (some 48) rfl (by kernel_rfl) (by kernel_rfl) (by kernel_rfl) (by kernel_rfl) (fun _ _ _ h => h) (Or.inl ⟨by rfl, ?_⟩) ?_
              rotate_left
              · (intro w; go_simp; try with_reducible rfl)
              try simp only [Act.put, List.setIfInBounds_toArray, List.set_cons_zero, List.set_cons_succ]
              refine take_put (i := 3) (v := ?_) (some 49) rfl (by kernel_rfl) (by kernel_rfl) (by kernel_rfl) (by kernel_rfl) (fun _ _ _ h => h) (Or.inl ⟨by rfl, ?_⟩) ?_
              rotate_left
              · (intro w; go_simp; try with_reducible rfl)
              try simp only [Act.put, List.setIfInBounds_toArray, List.set_cons_zero, List.set_cons_succ]
              refine take_put (i := 4) (v := ?_) (some 50) rfl (by kernel_rfl) (by kernel_rfl) (by kernel_rfl) (by kernel_rfl) (fun _ _ _ h => h) (Or.inl ⟨by rfl, ?_⟩) ?_
              rotate_left
              · (intro w; go_simp; try with_reducible rfl)
              try simp only [Act.put, List.setIfInBounds_toArray, List.set_cons_zero, List.set_cons_succ]
              refine take_put (i := 6) (v := ?_) (some 52) rfl (by kernel_rfl) (by kernel_rfl) (by kernel_rfl) (by kernel_rfl) (fun _ _ _ h => h) (Or.inl ⟨by rfl, ?_⟩) ?_
              rotate_left
              · (intro w; go_simp; try with_reducible rfl)
              try simp only [Act.put, List.setIfInBounds_toArray, List.set_cons_zero, List.set_cons_succ]
              refine take_put (i := 9) (v := ?_) (some 55) rfl (by kernel_rfl) (by kernel_rfl) (by kernel_rfl) (by kernel_rfl) (fun _ _ _ h => h) (Or.inl ⟨by rfl, ?_⟩) ?_
              rotate_left
              · (intro w; go_simp; try with_reducible rfl)
              try simp only [Act.put, List.setIfInBounds_toArray, List.set_cons_zero, List.set_cons_succ]
              refine take_put (i := 10) (v := ?_) (some 56) rfl (by kernel_rfl) (by kernel_rfl) (by kernel_rfl) (by kernel_rfl) (fun _ _ _ h => h) (Or.inl ⟨by rfl, ?_⟩) ?_
              rotate_left
              · (intro w; go_simp; try with_reducible rfl)
              try simp only [Act.put, List.setIfInBounds_toArray, List.set_cons_zero, List.set_cons_succ]
              refine wpAny_ready (rs := [5, 7]) (by kernel_rfl) (by simp) ?_
              refine AllReady.cons rfl (fun K hK => ?_) (AllReady.cons rfl (fun K hK => ?_) AllReady.nil)
              · have cl := d2
                go_simp
                clear cl
                refine hK _ _ ?_
                clear hK K
                try simp only [Act.put, List.getElem_toArray, List.getElem_cons_succ, List.getElem_cons_zero, List.setIfInBounds_toArray, List.set_cons_zero, List.set_cons_succ]
                refine wpAny_ready (rs := [7]) (by kernel_rfl) (by simp) ?_
                refine AllReady.cons rfl (fun K hK => ?_) AllReady.nil
                go_simp
                refine (HAL.out _).mono ?_
                rintro e w2 ⟨he, hw2⟩
                subst he
                rw [hw2]
                clear hw2 w2
                refine hK _ _ ?_
                clear hK K
                try simp only [Act.put, List.getElem_toArray, List.getElem_cons_succ, List.getElem_cons_zero, List.setIfInBounds_toArray, List.set_cons_zero, List.set_cons_succ]
                refine take_put (i := 8) (v := ?_) (some 54) rfl (by kernel_rfl) (by kernel_rfl) (by kernel_rfl) (by kernel_rfl) (fun _ _ _ h => h) (Or.inl ⟨by rfl, ?_⟩) ?_
                rotate_left
                · (intro w; go_simp; try with_reducible rfl)
                try simp only [Act.put, List.setIfInBounds_toArray, List.set_cons_zero, List.set_cons_succ]
                refine take_put (i := 11) (v := ?_) (some 57) rfl (by kernel_rfl) (by kernel_rfl) (by kernel_rfl) (by kernel_rfl) (fun _ _ _ h => h) (Or.inl ⟨by rfl, ?_⟩) ?_
                rotate_left
                · (intro w; go_simp; try with_reducible rfl)
                try simp only [Act.put, List.setIfInBounds_toArray, List.set_cons_zero, List.set_cons_succ]
                refine wpAny_ready (rs := [12]) (by kernel_rfl) (by simp) ?_
                refine AllReady.cons rfl (fun K hK => ?_) AllReady.nil
                have cl := d2
                have fl := f2
                go_simp
                clear cl fl
                refine hK _ _ ?_
                clear hK K
                try simp only [Act.put, List.getElem_toArray, List.getElem_cons_succ, List.getElem_cons_zero, List.setIfInBounds_toArray, List.set_cons_zero, List.set_cons_succ]
                refine wpAny_done (by kernel_rfl) ?_ _
                have HC4 := grown_cell wd g (65 + lz) (.int .u64 ((y ||| b : Nat) : Int))
                have HW4 : Hid (Wh (wd.setCell ⟨g, 65 + lz, none⟩ (.int .u64 ((y ||| b : Nat) : Int))) g (moveS s2 k lz i)) := by
                  have h2 := HW3d.out.set_slot (k := lz) (x := y ||| b) (Nat.or_lt_two_pow (n := 64) hyl hbl)
                  show Wh _ _ _
                  rw [HYY.out, HS3.out, HXX.out, HB.out] at h2
                  rw [HYY.out, HS3.out, HXX.out, HB.out]
                  exact h2
                have HG4 : Hid (w.grownBy (wd.setCell ⟨g, 65 + lz, none⟩ (.int .u64 ((y ||| b : Nat) : Int))) (some g)) := grown_trans HG3.out HC4
                have HO4 : Hid ((wd.setCell ⟨g, 65 + lz, none⟩ (.int .u64 ((y ||| b : Nat) : Int))).ownsRow B 3 1 (.slice (some ⟨ka, 0, none⟩) n c) L.length (vi L)) := own_stay HO3.out (fun q hq => HC4.block q (HO3.out.lt q hq).2 (fun e => by have := (HO3.out.lt q hq).1; have := HGL.out; simp only [Option.some.injEq] at e; omega))
                clear HC4
                go_wp2
                go_roundw
                case rel => exact ⟨j + 1, moveS s2 k lz i, by omega, by go_num, HNX, HW4, HG4, HO4⟩
                case measure => simp [intOf]; omega
              · go_simp
                refine (HAL.out _).mono ?_
                rintro e w2 ⟨he, hw2⟩
                subst he
                rw [hw2]
                clear hw2 w2
                refine hK _ _ ?_
                clear hK K
                try simp only [Act.put, List.getElem_toArray, List.getElem_cons_succ, List.getElem_cons_zero, List.setIfInBounds_toArray, List.set_cons_zero, List.set_cons_succ]
                refine wpAny_ready (rs := [5]) (by kernel_rfl) (by simp) ?_
                refine AllReady.cons rfl (fun K hK => ?_) AllReady.nil
                have cl := d2
                go_simp
                clear cl
                refine hK _ _ ?_
                clear hK K
                try simp only [Act.put, List.getElem_toArray, List.getElem_cons_succ, List.getElem_cons_zero, List.setIfInBounds_toArray, List.set_cons_zero, List.set_cons_succ]
                refine take_put (i := 8) (v := ?_) (some 54) rfl (by kernel_rfl) (by kernel_rfl) (by kernel_rfl) (by kernel_rfl) (fun _ _ _ h => h) (Or.inl ⟨by rfl, ?_⟩) ?_
                rotate_left
                · (intro w; go_simp; try with_reducible rfl)
                try simp only [Act.put, List.setIfInBounds_toArray, List.set_cons_zero, List.set_cons_succ]
                refine take_put (i := 11) (v := ?_) (some 57) rfl (by kernel_rfl) (by kernel_rfl) (by kernel_rfl) (by kernel_rfl) (fun _ _ _ h => h) (Or.inl ⟨by rfl, ?_⟩) ?_
                rotate_left
                · (intro w; go_simp; try with_reducible rfl)
                try simp only [Act.put, List.setIfInBounds_toArray, List.set_cons_zero, List.set_cons_succ]
                refine wpAny_ready (rs := [12]) (by kernel_rfl) (by simp) ?_
                refine AllReady.cons rfl (fun K hK => ?_) AllReady.nil
                have cl := d2
                have fl := f2
                go_simp
                clear cl fl
                refine hK _ _ ?_
                clear hK K
                try simp only [Act.put, List.getElem_toArray, List.getElem_cons_succ, List.getElem_cons_zero, List.setIfInBounds_toArray, List.set_cons_zero, List.set_cons_succ]
                refine wpAny_done (by kernel_rfl) ?_ _
                have HC4 := grown_cell wd g (65 + lz) (.int .u64 ((y ||| b : Nat) : Int))
                have HW4 : Hid (Wh (wd.setCell ⟨g, 65 + lz, none⟩ (.int .u64 ((y ||| b : Nat) : Int))) g (moveS s2 k lz i)) := by
                  have h2 := HW3d.out.set_slot (k := lz) (x := y ||| b) (Nat.or_lt_two_pow (n := 64) hyl hbl)
                  show Wh _ _ _
                  rw [HYY.out, HS3.out, HXX.out, HB.out] at h2
                  rw [HYY.out, HS3.out, HXX.out, HB.out]
                  exact h2
                have HG4 : Hid (w.grownBy (wd.setCell ⟨g, 65 + lz, none⟩ (.int .u64 ((y ||| b : Nat) : Int))) (some g)) := grown_trans HG3.out HC4
                have HO4 : Hid ((wd.setCell ⟨g, 65 + lz, none⟩ (.int .u64 ((y ||| b : Nat) : Int))).ownsRow B 3 1 (.slice (some ⟨ka, 0, none⟩) n c) L.length (vi L)) := own_stay HO3.out (fun q hq => HC4.block q (HO3.out.lt q hq).2 (fun e => by have := (HO3.out.lt q hq).1; have := HGL.out; simp only [Option.some.injEq] at e; omega))
                clear HC4
                go_wp2
                go_roundw
                case rel => exact ⟨j + 1, moveS s2 k lz i, by omega, by go_num, HNX, HW4, HG4, HO4⟩
                case measure => simp [intOf]; omega
            · go_simp
              refine (HAL.out _).mono ?_
              rintro e w2 ⟨he, hw2⟩
              subst he
              rw [hw2]
              clear hw2 w2
              refine hK _ _ ?_
              clear hK K
              try simp only [Act.put, List.getElem_toArray, List.getElem_cons_succ, List.getElem_cons_zero, List.setIfInBounds_toArray, List.set_cons_zero, List.set_cons_succ]
              refine wpAny_ready (rs := [5]) (by kernel_rfl) (by simp) ?_
              refine AllReady.cons rfl (fun K hK => ?_) AllReady.nil
              have cl := d2
              go_simp
              clear cl
              refine hK _ _ ?_
              clear hK K
              try simp only [Act.put, List.getElem_toArray, List.getElem_cons_succ, List.getElem_cons_zero, List.setIfInBounds_toArray, List.set_cons_zero, List.set_cons_succ]
              refine take_put (i := 8) (v := ?_) (some 42) rfl (by kernel_rfl) (by kernel_rfl) (by kernel_rfl) (by kernel_rfl) (fun _ _ _ h => h) (Or.inl ⟨by rfl, ?_⟩) ?_
              rotate_left
              · (intro w; go_simp; try with_reducible rfl)
              try simp only [Act.put, List.setIfInBounds_toArray, List.set_cons_zero, List.set_cons_succ]
              refine take_put (i := 11) (v := ?_) (some 45) rfl (by kernel_rfl) (by kernel_rfl) (by kernel_rfl) (by kernel_rfl) (fun _ _ _ h => h) (Or.inl ⟨by rfl, ?_⟩) ?_
              rotate_left
              · (intro w; go_simp; try with_reducible rfl)
              try simp only [Act.put, List.setIfInBounds_toArray, List.set_cons_zero, List.set_cons_succ]
              refine wpAny_ready (rs := [12]) (by kernel_rfl) (by simp) ?_
              refine AllReady.cons rfl (fun K hK => ?_) AllReady.nil
              have cl := d2
              have fl := f2
              go_simp
              clear cl fl
              refine hK _ _ ?_
              clear hK K
              try simp only [Act.put, List.getElem_toArray, List.getElem_cons_succ, List.getElem_cons_zero, List.setIfInBounds_toArray, List.set_cons_zero, List.set_cons_succ]
              refine wpAny_done (by kernel_rfl) ?_ _
              have HW3 : Hid (Wh (wd.setCell ⟨g, 65 + k, none⟩ (.int .u64 ((x &&& (18446744073709551615 - b) : Nat) : Int))) g { s2 with slots := s2.slots.set k (x &&& (18446744073709551615 - b)) }) := HW2d.out.set_slot (Nat.lt_of_le_of_lt Nat.and_le_left hxl)
              have HC3 := grown_cell wd g (65 + k) (.int .u64 ((x &&& (18446744073709551615 - b) : Nat) : Int))
              generalize wd.setCell ⟨g, 65 + k, none⟩ (.int .u64 ((x &&& (18446744073709551615 - b) : Nat) : Int)) = w5 at *
              have HG3 : Hid (w.grownBy w5.drew (some g)) := by (have := grown_trans HG2d.out HC3); exact ⟨this.os, this.tape, this.output, this.size, this.block⟩
              have HO3 : Hid (w5.drew.ownsRow B 3 1 (.slice (some ⟨ka, 0, none⟩) n c) L.length (vi L)) := own_stay HO2d.out (fun q hq => HC3.block q (HO2d.out.lt q hq).2 (fun e => by have := (HO2d.out.lt q hq).1; have := HGL.out; simp only [Option.some.injEq] at e; omega))
              obtain ⟨s3, HS3⟩ : ∃ s3 : St, Hid (s3 = { s2 with slots := s2.slots.set k (x &&& (18446744073709551615 - b)) }) := ⟨_, rfl⟩
              rw [← HS3.out] at HW3
              have HW3d : Hid (Wh w5.drew g s3) := HW3.out.stay ((Below.refl _ _).trans ⟨rfl, rfl, rfl, Nat.le_refl _, fun _ _ => rfl⟩)
              clear HC3 d2 f2 q1 HW2d HG2d HO2d
              obtain ⟨y, hy⟩ : ∃ y, y = s3.slots.getD lz 0 := ⟨_, rfl⟩
              have HYY : Hid (y = s3.slots.getD lz 0) := hy
              have hyl : y < 18446744073709551616 := by rw [hy]; exact HW3.out.slot_le lz
              have d2 : w5.drew.cell? ⟨g, 65 + lz, none⟩ = some (.int .u64 (y : Int)) := by rw [hy]; exact HW3d.out.slot_cell hlz42
              have f2 : w5.drew.frozen? ⟨g, 65 + lz, none⟩ = false := HW3d.out.free _
              have q1 : bits .or .u64 (y : Int) (b : Int) = ((y ||| b : Nat) : Int) := u64_or_nat y b hyl hbl
              clear hy
              go_wp2
              refine wp_region_any (by kernel_rfl) ?_
              change wpAny _ _ _ _ _ _ _ (World.drew _)
              generalize w5.drew = wd at *
              refine take_put (i := 0) (v := ?_) (some 46) rfl (by kernel_rfl) (by kernel_rfl) (by kernel_rfl) (by kernel_rfl) (fun _ _ _ h => h) (Or.inl ⟨by rfl, ?_⟩) ?_
              rotate_left
              · (intro w; go_simp; try with_reducible rfl)
              try simp only [Act.put, List.setIfInBounds_toArray, List.set_cons_zero, List.set_cons_succ]
              refine take_put (i := 1) (v := ?_) (some 47) rfl (by kernel_rfl) (by kernel_rfl) (by kernel_rfl) (by kernel_rfl) (fun _ _ _ h => h) (Or.inl ⟨by rfl, ?_⟩) ?_
              rotate_left
              · (intro w; go_simp; try with_reducible rfl)
              try simp only [Act.put, List.setIfInBounds_toArray, List.set_cons_zero, List.set_cons_succ]
              refine take_put (i := 2) (v := ?_) (some 48) rfl (by kernel_rfl) (by kernel_rfl) (by kernel_rfl) (by kernel_rfl) (fun _ _ _ h => h) (Or.inl ⟨by rfl, ?_⟩) ?_
              rotate_left
              · (intro w; go_simp; try with_reducible rfl)
              try simp only [Act.put, List.setIfInBounds_toArray, List.set_cons_zero, List.set_cons_succ]
              refine take_put (i := 3) (v := ?_) (some 49) rfl (by kernel_rfl) (by kernel_rfl) (by kernel_rfl) (by kernel_rfl) (fun _ _ _ h => h) (Or.inl ⟨by rfl, ?_⟩) ?_
              rotate_left
              · (intro w; go_simp; try with_reducible rfl)
              try simp only [Act.put, List.setIfInBounds_toArray, List.set_cons_zero, List.set_cons_succ]
              refine take_put (i := 4) (v := ?_) (some 50) rfl (by kernel_rfl) (by kernel_rfl) (by kernel_rfl) (by kernel_rfl) (fun _ _ _ h => h) (Or.inl ⟨by rfl, ?_⟩) ?_
              rotate_left
              · (intro w; go_simp; try with_reducible rfl)
              try simp only [Act.put, List.setIfInBounds_toArray, List.set_cons_zero, List.set_cons_succ]
              refine take_put (i := 6) (v := ?_) (some 52) rfl (by kernel_rfl) (by kernel_rfl) (by kernel_rfl) (by kernel_rfl) (fun _ _ _ h => h) (Or.inl ⟨by rfl, ?_⟩) ?_
              rotate_left
              · (intro w; go_simp; try with_reducible rfl)
              try simp only [Act.put, List.setIfInBounds_toArray, List.set_cons_zero, List.set_cons_succ]
              refine take_put (i := 9) (v := ?_) (some 55) rfl (by kernel_rfl) (by kernel_rfl) (by kernel_rfl) (by kernel_rfl) (fun _ _ _ h => h) (Or.inl ⟨by rfl, ?_⟩) ?_
              rotate_left
              · (intro w; go_simp; try with_reducible rfl)
              try simp only [Act.put, List.setIfInBounds_toArray, List.set_cons_zero, List.set_cons_succ]
              refine take_put (i := 10) (v := ?_) (some 56) rfl (by kernel_rfl) (by kernel_rfl) (by kernel_rfl) (by kernel_rfl) (fun _ _ _ h => h) (Or.inl ⟨by rfl, ?_⟩) ?_
              rotate_left
              · (intro w; go_simp; try with_reducible rfl)
              try simp only [Act.put, List.setIfInBounds_toArray, List.set_cons_zero, List.set_cons_succ]
              refine wpAny_ready (rs := [5, 7]) (by kernel_rfl) (by simp) ?_
              refine AllReady.cons rfl (fun K hK => ?_) (AllReady.cons rfl (fun K hK => ?_) AllReady.nil)
              · have cl := d2
                go_simp
                clear cl
                refine hK _ _ ?_
                clear hK K
                try simp only [Act.put, List.getElem_toArray, List.getElem_cons_succ, List.getElem_cons_zero, List.setIfInBounds_toArray, List.set_cons_zero, List.set_cons_succ]
                refine wpAny_ready (rs := [7]) (by kernel_rfl) (by simp) ?_
                refine AllReady.cons rfl (fun K hK => ?_) AllReady.nil
                go_simp
                refine (HAL.out _).mono ?_
                rintro e w2 ⟨he, hw2⟩
                subst he
                rw [hw2]
                clear hw2 w2
                refine hK _ _ ?_
                clear hK K
                try simp only [Act.put, List.getElem_toArray, List.getElem_cons_succ, List.getElem_cons_zero, List.setIfInBounds_toArray, List.set_cons_zero, List.set_cons_succ]
                refine take_put (i := 8) (v := ?_) (some 54) rfl (by kernel_rfl) (by kernel_rfl) (by kernel_rfl) (by kernel_rfl) (fun _ _ _ h => h) (Or.inl ⟨by rfl, ?_⟩) ?_
                rotate_left
                · (intro w; go_simp; try with_reducible rfl)
                try simp only [Act.put, List.setIfInBounds_toArray, List.set_cons_zero, List.set_cons_succ]
                refine take_put (i := 11) (v := ?_) (some 57) rfl (by kernel_rfl) (by kernel_rfl) (by kernel_rfl) (by kernel_rfl) (fun _ _ _ h => h) (Or.inl ⟨by rfl, ?_⟩) ?_
                rotate_left
                · (intro w; go_simp; try with_reducible rfl)
                try simp only [Act.put, List.setIfInBounds_toArray, List.set_cons_zero, List.set_cons_succ]
                refine wpAny_ready (rs := [12]) (by kernel_rfl) (by simp) ?_
                refine AllReady.cons rfl (fun K hK => ?_) AllReady.nil
                have cl := d2
                have fl := f2
                go_simp
                clear cl fl
                refine hK _ _ ?_
                clear hK K
                try simp only [Act.put, List.getElem_toArray, List.getElem_cons_succ, List.getElem_cons_zero, List.setIfInBounds_toArray, List.set_cons_zero, List.set_cons_succ]
                refine wpAny_done (by kernel_rfl) ?_ _
                have HC4 := grown_cell wd g (65 + lz) (.int .u64 ((y ||| b : Nat) : Int))
                have HW4 : Hid (Wh (wd.setCell ⟨g, 65 + lz, none⟩ (.int .u64 ((y ||| b : Nat) : Int))) g (moveS s2 k lz i)) := by
                  have h2 := HW3d.out.set_slot (k := lz) (x := y ||| b) (Nat.or_lt_two_pow (n := 64) hyl hbl)
                  show Wh _ _ _
                  rw [HYY.out, HS3.out, HXX.out, HB.out] at h2
                  rw [HYY.out, HS3.out, HXX.out, HB.out]
                  exact h2
                have HG4 : Hid (w.grownBy (wd.setCell ⟨g, 65 + lz, none⟩ (.int .u64 ((y ||| b : Nat) : Int))) (some g)) := grown_trans HG3.out HC4
                have HO4 : Hid ((wd.setCell ⟨g, 65 + lz, none⟩ (.int .u64 ((y ||| b : Nat) : Int))).ownsRow B 3 1 (.slice (some ⟨ka, 0, none⟩) n c) L.length (vi L)) := own_stay HO3.out (fun q hq => HC4.block q (HO3.out.lt q hq).2 (fun e => by have := (HO3.out.lt q hq).1; have := HGL.out; simp only [Option.some.injEq] at e; omega))
                clear HC4
                go_wp2
                go_roundw
                case rel => exact ⟨j + 1, moveS s2 k lz i, by omega, by go_num, HNX, HW4, HG4, HO4⟩
                case measure => simp [intOf]; omega
              · go_simp
                refine (HAL.out _).mono ?_
                rintro e w2 ⟨he, hw2⟩
                subst he
                rw [hw2]
                clear hw2 w2
                refine hK _ _ ?_
                clear hK K
                try simp only [Act.put, List.getElem_toArray, List.getElem_cons_succ, List.getElem_cons_zero, List.setIfInBounds_toArray, List.set_cons_zero, List.set_cons_succ]
                refine wpAny_ready (rs := [5]) (by kernel_rfl) (by simp) ?_
                refine AllReady.cons rfl (fun K hK => ?_) AllReady.nil
                have cl := d2
                go_simp
                clear cl
                refine hK _ _ ?_
                clear hK K
                try simp only [Act.put, List.getElem_toArray, List.getElem_cons_succ, List.getElem_cons_zero, List.setIfInBounds_toArray, List.set_cons_zero, List.set_cons_succ]
                refine take_put (i := 8) (v := ?_) (some 54) rfl (by kernel_rfl) (by kernel_rfl) (by kernel_rfl) (by kernel_rfl) (fun _ _ _ h => h) (Or.inl ⟨by rfl, ?_⟩) ?_
                rotate_left
                · (intro w; go_simp; try with_reducible rfl)
                try simp only [Act.put, List.setIfInBounds_toArray, List.set_cons_zero, List.set_cons_succ]
                refine take_put (i := 11) (v := ?_) (some 57) rfl (by kernel_rfl) (by kernel_rfl) (by kernel_rfl) (by kernel_rfl) (fun _ _ _ h => h) (Or.inl ⟨by rfl, ?_⟩) ?_
                rotate_left
                · (intro w; go_simp; try with_reducible rfl)
                try simp only [Act.put, List.setIfInBounds_toArray, List.set_cons_zero, List.set_cons_succ]
                refine wpAny_ready (rs := [12]) (by kernel_rfl) (by simp) ?_
                refine AllReady.cons rfl (fun K hK => ?_) AllReady.nil
                have cl := d2
                have fl := f2
                go_simp
                clear cl fl
                refine hK _ _ ?_
                clear hK K
                try simp only [Act.put, List.getElem_toArray, List.getElem_cons_succ, List.getElem_cons_zero, List.setIfInBounds_toArray, List.set_cons_zero, List.set_cons_succ]
                refine wpAny_done (by kernel_rfl) ?_ _
                have HC4 := grown_cell wd g (65 + lz) (.int .u64 ((y ||| b : Nat) : Int))
                have HW4 : Hid (Wh (wd.setCell ⟨g, 65 + lz, none⟩ (.int .u64 ((y ||| b : Nat) : Int))) g (moveS s2 k lz i)) := by
                  have h2 := HW3d.out.set_slot (k := lz) (x := y ||| b) (Nat.or_lt_two_pow (n := 64) hyl hbl)
                  show Wh _ _ _
                  rw [HYY.out, HS3.out, HXX.out, HB.out] at h2
                  rw [HYY.out, HS3.out, HXX.out, HB.out]
                  exact h2
                have HG4 : Hid (w.grownBy (wd.setCell ⟨g, 65 + lz, none⟩ (.int .u64 ((y ||| b : Nat) : Int))) (some g)) := grown_trans HG3.out HC4
                have HO4 : Hid ((wd.setCell ⟨g, 65 + lz, none⟩ (.int .u64 ((y ||| b : Nat) : Int))).ownsRow B 3 1 (.slice (some ⟨ka, 0, none⟩) n c) L.length (vi L)) := own_stay HO3.out (fun q hq => HC4.block q (HO3.out.lt q hq).2 (fun e => by have := (HO3.out.lt q hq).1; have := HGL.out; simp only [Option.some.injEq] at e; omega))
                clear HC4
                go_wp2
                go_roundw
                case rel => exact ⟨j + 1, moveS s2 k lz i, by omega, by go_num, HNX, HW4, HG4, HO4⟩
                case measure => simp [intOf]; omega
        · obtain rfl : j = n := by omega
          have HX : Hid (fallIn s1 k L = (s2, false)) := by
            show _ = _
            rw [← HF.out, List.drop_of_length_le (by rw [← HN.out]; exact Nat.le_refl _)]
            rfl
          have HE2 : Hid (fallOut s2 (List.range' (k + 1) (42 - (k + 1))) = R) := by
            show _ = _
            rw [HRO.out, HX.out]
            rfl
          have hjn' : ¬ (j : Int) < (j : Int) := by omega
          go_wp2
          go_roundw
          case rel => exact ⟨k + 1, s2, by omega, by omega, by go_num, HE2, HW2, HG2⟩
          case measure => simp [intOf]; omega
    · obtain rfl : k = 42 := by omega
      have HX : Hid (s1 = R) := by show _ = _; rw [← HE.out]; rfl
      go_wp2
      simp only [Exit.noGoto]
      go_returns
      exact ⟨rfl, by rw [← HX.out]; exact HW, HG.out⟩
end Go.Proofs.YteiadaonihgbfaaDoor
