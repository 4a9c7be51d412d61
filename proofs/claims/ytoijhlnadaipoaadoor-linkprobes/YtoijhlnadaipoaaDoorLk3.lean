/- slices.Delete of the first content. -/
import Derived.Test.YtoijhlnadaipoaaDoorLk2
namespace Go.Proofs.YtoijhlnadaipoaaDoor
open Go.RowKit

theorem grown_join {w w1 w2 : World} {r : Option Nat} (h : w.grownBy w1 r) (h2 : w1.grownBy w2 r) : w.grownBy w2 r := ⟨h2.os.trans h.os, h2.tape.trans h.tape, h2.output.trans h.output, Nat.le_trans h.size h2.size, fun k hk hn => (h2.block k (Nat.lt_of_lt_of_le hk h.size) hn).trans (h.block k hk hn)⟩
theorem clear_one (w : World) (g o c : Nat) (hc : ∀ j, j < 2 → (w.cell? ⟨g, o + j, none⟩).isSome = true) (hf : ∀ j, j < 2 → w.frozen? ⟨g, o + j, none⟩ = false) : ∀ ty, (Builtin.clear_ #[69] ty #[.slice (some ⟨g, o, none⟩) 1 c]).run Tryd.prog w = .ok (.tuple #[]) (w.setCells g o [.int .u8 0, .slice none 0 0]) := by
  intro ty
  have hst := run_storeCells_cells (P := Tryd.prog) g o [.int .u8 0, .slice none 0 0] 0 w (by simpa using hc) (by simpa using hf) (by intro v hv; simp only [List.mem_cons, List.not_mem_nil, or_false] at hv; rcases hv with rfl | rfl <;> rfl)
  simp only [Nat.add_zero] at hst
  have hz : (Builtin.zeroCells (Value.agg #[.int .u8 0, .slice none 0 0]).cells 1).toList = [.int .u8 0, .slice none 0 0] := by kernel_rfl
  simp [Builtin.clear_, run_underlying Tryd.underlying69, hz, hst]
theorem row_past {w : World} {base T s g n c : Nat} {xs : List Value} (h : w.ownsRow base T s (.slice (some ⟨g, 0, none⟩) n c) n xs) {i : Nat} (hi : n * s ≤ i) (v : Value) : (w.setCell ⟨g, i, none⟩ v).ownsRow base T s (.slice (some ⟨g, 0, none⟩) n c) n xs := by
  refine ⟨h.1, ?_⟩
  rcases h.2 with ⟨hv, _⟩ | ⟨g', c', cur, hv, hb, hg, h1, h2, h3, h4⟩
  · cases hv
  · have hv' := hv
    simp only [Value.slice.injEq, Option.some.injEq, Addr.mk.injEq] at hv'
    obtain ⟨⟨rfl, _⟩, _, rfl⟩ := hv'
    refine .inr ⟨g, c, cur.setIfInBounds i v, hv, hb, heap_setCell_same w g i cur T v hg, h1, h2, by simpa using h3, ?_⟩
    rw [← h4]
    simp only [Array.toList_setIfInBounds]
    exact List.take_set_of_le hi
theorem row_past2 {w : World} {base g n c : Nat} {xs : List Value} (h : w.ownsRow base 78 2 (.slice (some ⟨g, 0, none⟩) n c) n xs) : (w.setCells g (n * 2) [.int .u8 0, .slice none 0 0]).ownsRow base 78 2 (.slice (some ⟨g, 0, none⟩) n c) n xs := by
  show ((w.setCell ⟨g, n * 2, none⟩ (.int .u8 0)).setCell ⟨g, n * 2 + 1, none⟩ (.slice none 0 0)).ownsRow _ _ _ _ _ _
  exact row_past (row_past h (Nat.le_refl _) _) (by omega) _
theorem grown_two (w : World) (g o : Nat) (u v : Value) : w.grownBy (w.setCells g o [u, v]) (some g) := by
  show w.grownBy ((w.setCell ⟨g, o, none⟩ u).setCell ⟨g, o + 1, none⟩ v) (some g)
  refine ⟨rfl, rfl, rfl, by simp, fun k hk hn => ?_⟩
  have hkg : k ≠ g := fun e => hn (by rw [e])
  rw [heap_setCell_other _ ⟨g, o + 1, none⟩ k v hkg, heap_setCell_other _ ⟨g, o, none⟩ k u hkg]
theorem row_zero {w : World} {base T s g n c : Nat} {xs : List Value} (h : w.ownsRow base T s (.slice (some ⟨g, 0, none⟩) n c) n xs) : w.ownsRow base T s (.slice (some ⟨g, 0, none⟩) 0 c) 0 [] := by
  refine ⟨by simp, ?_⟩
  rcases h.2 with ⟨hv, _⟩ | ⟨g', c', cur, hv, hb, hg, h1, h2, h3, h4⟩
  · cases hv
  · simp only [Value.slice.injEq, Option.some.injEq, Addr.mk.injEq] at hv
    obtain ⟨⟨rfl, _⟩, _, rfl⟩ := hv
    exact .inr ⟨g, c, cur, rfl, hb, hg, Nat.zero_le _, h2, h3, by simp⟩
theorem step_append_spare {w : World} {ops : Array Oper} {o : Oper} {act : Act} {K : Act → World → Prop} {Q : Exit → Act → World → Prop} {E : Prop} (hgd : o.guard = none) (s x : Operand)
    (ho : o.op = .call { callee := .builtin .append, args := #[s, x], argTypes := #[69, 69] })
    (base g n cap : Nat) (xs : List Value) (hs : act.eval s = .slice (some ⟨g, 0, none⟩) n cap) (hown : w.ownsRow base 78 2 (.slice (some ⟨g, 0, none⟩) n cap) n xs)
    (ad : Addr) (m c : Nat) (news : List Value) (hx : act.eval x = .slice (some ad) m c) (hl : news.length = m * 2) (hnews : ∀ j u, news[j]? = some u → w.cell? (ad.add j) = some u) (h1 : ∀ u ∈ news, u.oneCell' = true)
    (hroom : n + m ≤ cap)
    (h : ∀ w', w'.ownsRow base 78 2 (.slice (some ⟨g, 0, none⟩) (n + m) cap) (n + m) (xs ++ news) → w.grownBy w' (some g) → K (act.put o.dst (.slice (some ⟨g, 0, none⟩) (n + m) cap)) w') : if Region.wanted o (yielded ops act.tmps) = true then Oper.wp Tryd.prog o act w K Q else E := by
  rw [if_pos (by simp [Region.wanted, hgd])]
  obtain ⟨i0, hi, hz0, hz1, hz2⟩ := info_parts infoContent
  exact wp_append_own_spare w s x 69 ho base 78 i0 2 Tryd.underlying69 hi hz1 g n cap xs hs hown ad m c news hx hl hnews h1 hroom h

set_option maxRecDepth 100000 in
set_option maxHeartbeats 4000000 in
theorem lk_delete (w : World) (base g m c : Nat) (x : Wt × Bd) (T : List (Wt × Bd)) (hm : T.length = m) (hrow : w.ownsRow base 78 2 (.slice (some ⟨g, 0, none⟩) (m + 1) c) (m + 1) (wrow (x :: T))) :
    Calls Tryd.prog 26 #[.slice (some ⟨g, 0, none⟩) (m + 1) c, .int .i64 0, .int .i64 1] w fun e w' => e = .returned (.slice (some ⟨g, 0, none⟩) m c) ∧ Hid (w'.ownsRow base 78 2 (.slice (some ⟨g, 0, none⟩) m c) m (wrow T)) ∧ w.grownBy w' (some g) := by
  obtain ⟨_, hmc, hcm⟩ := row_len hrow
  unfold maxLen at hcm
  have HRW : Hid (w.ownsRow base 78 2 (.slice (some ⟨g, 0, none⟩) (m + 1) c) (m + 1) (wrow (x :: T))) := hrow
  have HLT : Hid ((wrow T).length = m * 2) := by show _ = _; rw [wrow_len, hm]
  obtain ⟨wd, HWD⟩ : ∃ wd, Hid (wd = w.drew) := ⟨_, rfl⟩
  have hbd : Below w.heap.size w wd := by rw [HWD.out]; exact below_drew (Below.refl _ _)
  have HGD : Hid (w.grownBy wd (some g)) := ⟨hbd.os, hbd.tape, hbd.output, hbd.size, fun k hk _ => hbd.block k hk⟩
  have hrd : wd.ownsRow base 78 2 (.slice (some ⟨g, 0, none⟩) (m + 1) c) (m + 1) (wrow (x :: T)) := by rw [HWD.out]; exact hrow
  have HZR : Hid (wd.ownsRow base 78 2 (.slice (some ⟨g, 0, none⟩) 0 c) 0 []) := row_zero hrd
  have HCL : Hid (∀ (w2 : World), w2.ownsRow base 78 2 (.slice (some ⟨g, 0, none⟩) m c) m (wrow T) → ∀ i, i < (m + 1) * 2 → ∃ u, w2.cell? ⟨g, i, none⟩ = some u) := by
    intro w2 h i hi
    rcases h.2 with ⟨hv, _⟩ | ⟨g', c', cur, hv, hb, hg, h1, h2, h3, h4⟩
    · cases hv
    · simp only [Value.slice.injEq, Option.some.injEq, Addr.mk.injEq] at hv
      obtain ⟨⟨rfl, _⟩, _, rfl⟩ := hv
      have hlt : i < cur.size := by rw [h3]; have := Nat.mul_le_mul_right 2 hmc; omega
      exact ⟨cur[i], by rw [cell_of_row w2 g i cur _ _ hg, Array.getElem?_eq_getElem hlt]⟩
  have q1 : (1 : Int) ≤ ((m + 1 : Nat) : Int) := by omega
  have q2 : ((m + 1 : Nat) : Int) ≤ (c : Int) := by omega
  have q3 : ((m + 1 : Nat) : Int) = (m : Int) + 1 := by omega
  have q4 : ¬ c = m := by omega
  have q5 : (m : Int) ≤ (c : Int) := by omega
  have q6 : (m : Int) + 1 ≤ (c : Int) := by omega
  have q7 : (1 : Int) ≤ (c : Int) := by omega
  have q8 : (0 : Int) ≤ (m : Int) := by omega
  have q9 : (1 : Int) ≤ (m : Int) + 1 := by omega
  clear hrow hbd hm
  by_cases hc1 : c = 1
  · subst hc1
    obtain rfl : m = 0 := by omega
    have hT : T = [] := by
      have h1 := HLT.out
      rw [wrow_len] at h1
      exact List.eq_nil_of_length_eq_zero (by omega)
    have HNW : Hid (∀ j u, (wrow T)[j]? = some u → wd.cell? ((⟨g, 0, none⟩ : Addr).add j) = some u) := by
      intro j u hj
      rw [hT] at hj
      simp [wrow] at hj
    clear hrd hT q1 q2 q3 q5 q6 q7 q8 q9
    go_enter Tryd.func26, Tryd.ntmps26
    go_wp2
    refine wp_region_held_drew (S := fun w' => True) (by kernel_rfl) trivial (fun hHeld => ?_)
    rw [← HWD.out]
    clear hHeld
    refine take_putH (i := 0) (v := ?_) (some 20) rfl (by kernel_rfl) (by kernel_rfl) (by kernel_rfl) (by kernel_rfl) (fun _ _ _ h => h) (Or.inl ⟨by rfl, ?_⟩) trivial ?_
    rotate_left
    · (intro w hSw; go_simp; try with_reducible rfl)
    try simp only [Act.put, List.setIfInBounds_toArray, List.set_cons_zero, List.set_cons_succ]
    refine take_putH (i := 1) (v := ?_) (some 21) rfl (by kernel_rfl) (by kernel_rfl) (by kernel_rfl) (by kernel_rfl) (fun _ _ _ h => h) (Or.inl ⟨by rfl, ?_⟩) trivial ?_
    rotate_left
    · (intro w hSw; go_simp; try with_reducible rfl)
    try simp only [Act.put, List.setIfInBounds_toArray, List.set_cons_zero, List.set_cons_succ]
    refine take_putH (i := 2) (v := ?_) (some 22) rfl (by kernel_rfl) (by kernel_rfl) (by kernel_rfl) (by kernel_rfl) (fun _ _ _ h => h) (Or.inl ⟨by rfl, ?_⟩) trivial ?_
    rotate_left
    · (intro w hSw; go_simp; try with_reducible rfl)
    try simp only [Act.put, List.setIfInBounds_toArray, List.set_cons_zero, List.set_cons_succ]
    refine take_putH (i := 3) (v := ?_) (some 23) rfl (by kernel_rfl) (by kernel_rfl) (by kernel_rfl) (by kernel_rfl) (fun _ _ _ h => h) (Or.inl ⟨by rfl, ?_⟩) trivial ?_
    rotate_left
    · (intro w hSw; go_simp; try with_reducible rfl)
    try simp only [Act.put, List.setIfInBounds_toArray, List.set_cons_zero, List.set_cons_succ]
    refine take_putH (i := 4) (v := ?_) (some 24) rfl (by kernel_rfl) (by kernel_rfl) (by kernel_rfl) (by kernel_rfl) (fun _ _ _ h => h) (Or.inl ⟨by rfl, ?_⟩) trivial ?_
    rotate_left
    · (intro w hSw; go_simp; try with_reducible rfl)
    try simp only [Act.put, List.setIfInBounds_toArray, List.set_cons_zero, List.set_cons_succ]
    refine take_putH (i := 5) (v := ?_) (some 25) rfl (by kernel_rfl) (by kernel_rfl) (by kernel_rfl) (by kernel_rfl) (fun _ _ _ h => h) (Or.inl ⟨by rfl, ?_⟩) trivial ?_
    rotate_left
    · (intro w hSw; go_simp; try with_reducible rfl)
    try simp only [Act.put, List.setIfInBounds_toArray, List.set_cons_zero, List.set_cons_succ]
    refine wpAnyH_ready (rs := [6]) (by kernel_rfl) (by simp) ?_
    refine AllReadyH.cons rfl (fun K hK => ?_) AllReadyH.nil
    refine step_append_spare rfl (.tmp 22) (.tmp 25) rfl base g 0 1 [] rfl HZR.out ⟨g, 0, none⟩ 0 0 (wrow T) rfl HLT.out HNW.out (wrow_one T) (by omega) ?_
    intro w2 hr2 hg2
    simp only [Nat.zero_add, List.nil_append] at hr2
    have HR2 : Hid (w2.ownsRow base 78 2 (.slice (some ⟨g, 0, none⟩) 0 1) 0 (wrow T)) := hr2
    have HG2 : Hid (w.grownBy w2 (some g)) := grown_join HGD.out hg2
    simp only [Nat.zero_add]
    clear hr2 hg2
    refine hK.out _ _ trivial (fun _ => ?_)
    clear hK K
    try simp only [Act.put, List.getElem_toArray, List.getElem_cons_succ, List.getElem_cons_zero, List.setIfInBounds_toArray, List.set_cons_zero, List.set_cons_succ]
    refine take_putH (i := 7) (v := ?_) (some 0) rfl (by kernel_rfl) (by kernel_rfl) (by kernel_rfl) (by kernel_rfl) (fun _ _ _ h => h) (Or.inl ⟨by rfl, ?_⟩) trivial ?_
    rotate_left
    · (intro w hSw; go_simp; try with_reducible rfl)
    try simp only [Act.put, List.setIfInBounds_toArray, List.set_cons_zero]
    refine wpAnyH_done (by kernel_rfl) ?_ _
    have hcl := clear_one w2 g (0 * 2) 1 (fun j hj => by obtain ⟨u, hu⟩ := HCL.out w2 HR2.out (0 * 2 + j) (by omega); rw [hu]; rfl) (fun j hj => HR2.out.frozenAt _)
    go_wp2_with (simp only [hcl])
    go_ret
    exact ⟨rfl, row_past2 HR2.out, grown_join HG2.out (grown_two w2 g (0 * 2) _ _)⟩
  · have HNW : Hid (∀ j u, (wrow T)[j]? = some u → wd.cell? ((⟨g, 2, none⟩ : Addr).add j) = some u) := by
      intro j u hj
      have hjl := (List.getElem?_eq_some_iff.1 hj).1
      rw [HLT.out] at hjl
      have e : (⟨g, 2, none⟩ : Addr).add j = ⟨g, 2 + j, none⟩ := by unfold Addr.add; split <;> simp_all
      rw [e, hrd.cellAt (2 + j) (by omega)]
      have e2 : wrow (x :: T) = wcell x ++ wrow T := by simp [wrow]
      rw [e2, List.getElem?_append_right (by simp [wcell]), show 2 + j - (wcell x).length = j from by simp [wcell]]
      exact hj
    clear hrd
    go_enter Tryd.func26, Tryd.ntmps26
    go_wp2
    refine wp_region_held_drew (S := fun w' => True) (by kernel_rfl) trivial (fun hHeld => ?_)
    rw [← HWD.out]
    clear hHeld
    refine take_putH (i := 0) (v := ?_) (some 20) rfl (by kernel_rfl) (by kernel_rfl) (by kernel_rfl) (by kernel_rfl) (fun _ _ _ h => h) (Or.inl ⟨by rfl, ?_⟩) trivial ?_
    rotate_left
    · (intro w hSw; go_simp; try with_reducible rfl)
    try simp only [Act.put, List.setIfInBounds_toArray, List.set_cons_zero, List.set_cons_succ]
    refine take_putH (i := 1) (v := ?_) (some 21) rfl (by kernel_rfl) (by kernel_rfl) (by kernel_rfl) (by kernel_rfl) (fun _ _ _ h => h) (Or.inl ⟨by rfl, ?_⟩) trivial ?_
    rotate_left
    · (intro w hSw; go_simp; try with_reducible rfl)
    try simp only [Act.put, List.setIfInBounds_toArray, List.set_cons_zero, List.set_cons_succ]
    refine take_putH (i := 2) (v := ?_) (some 22) rfl (by kernel_rfl) (by kernel_rfl) (by kernel_rfl) (by kernel_rfl) (fun _ _ _ h => h) (Or.inl ⟨by rfl, ?_⟩) trivial ?_
    rotate_left
    · (intro w hSw; go_simp; try with_reducible rfl)
    try simp only [Act.put, List.setIfInBounds_toArray, List.set_cons_zero, List.set_cons_succ]
    refine take_putH (i := 3) (v := ?_) (some 23) rfl (by kernel_rfl) (by kernel_rfl) (by kernel_rfl) (by kernel_rfl) (fun _ _ _ h => h) (Or.inl ⟨by rfl, ?_⟩) trivial ?_
    rotate_left
    · (intro w hSw; go_simp; try with_reducible rfl)
    try simp only [Act.put, List.setIfInBounds_toArray, List.set_cons_zero, List.set_cons_succ]
    refine take_putH (i := 4) (v := ?_) (some 24) rfl (by kernel_rfl) (by kernel_rfl) (by kernel_rfl) (by kernel_rfl) (fun _ _ _ h => h) (Or.inl ⟨by rfl, ?_⟩) trivial ?_
    rotate_left
    · (intro w hSw; go_simp; try with_reducible rfl)
    try simp only [Act.put, List.setIfInBounds_toArray, List.set_cons_zero, List.set_cons_succ]
    refine take_putH (i := 5) (v := ?_) (some 25) rfl (by kernel_rfl) (by kernel_rfl) (by kernel_rfl) (by kernel_rfl) (fun _ _ _ h => h) (Or.inl ⟨by rfl, ?_⟩) trivial ?_
    rotate_left
    · (intro w hSw; go_simp; try with_reducible rfl)
    try simp only [Act.put, List.setIfInBounds_toArray, List.set_cons_zero, List.set_cons_succ]
    refine wpAnyH_ready (rs := [6]) (by kernel_rfl) (by simp) ?_
    refine AllReadyH.cons rfl (fun K hK => ?_) AllReadyH.nil
    refine step_append_spare rfl (.tmp 22) (.tmp 25) rfl base g 0 c [] rfl HZR.out ⟨g, 2, none⟩ m (c - 1) (wrow T) rfl HLT.out HNW.out (wrow_one T) (by omega) ?_
    intro w2 hr2 hg2
    simp only [Nat.zero_add, List.nil_append] at hr2
    have HR2 : Hid (w2.ownsRow base 78 2 (.slice (some ⟨g, 0, none⟩) m c) m (wrow T)) := hr2
    have HG2 : Hid (w.grownBy w2 (some g)) := grown_join HGD.out hg2
    simp only [Nat.zero_add]
    clear hr2 hg2
    refine hK.out _ _ trivial (fun _ => ?_)
    clear hK K
    try simp only [Act.put, List.getElem_toArray, List.getElem_cons_succ, List.getElem_cons_zero, List.setIfInBounds_toArray, List.set_cons_zero, List.set_cons_succ]
    refine take_putH (i := 7) (v := ?_) (some 0) rfl (by kernel_rfl) (by kernel_rfl) (by kernel_rfl) (by kernel_rfl) (fun _ _ _ h => h) (Or.inl ⟨by rfl, ?_⟩) trivial ?_
    rotate_left
    · (intro w hSw; go_simp; try with_reducible rfl)
    try simp only [Act.put, List.setIfInBounds_toArray, List.set_cons_zero]
    refine wpAnyH_done (by kernel_rfl) ?_ _
    have hcl := clear_one w2 g (m * 2) (c - m) (fun j hj => by obtain ⟨u, hu⟩ := HCL.out w2 HR2.out (m * 2 + j) (by omega); rw [hu]; rfl) (fun j hj => HR2.out.frozenAt _)
    go_wp2_with (simp only [hcl])
    go_ret
    exact ⟨rfl, row_past2 HR2.out, grown_join HG2.out (grown_two w2 g (m * 2) _ _)⟩
end Go.Proofs.YtoijhlnadaipoaaDoor
