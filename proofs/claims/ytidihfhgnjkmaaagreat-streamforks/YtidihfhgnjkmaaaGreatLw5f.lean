/- grapevineref15: Fork. -/
import Derived.Test.YtidihfhgnjkmaaaGreatLwP
namespace Go.Proofs.YtidihfhgnjkmaaaGreat
set_option maxRecDepth 100000
open Go.RowKit
variable {Z : Nat → Prop}

theorem step_append_ros {w : World} {ops : Array Oper} {o : Oper} {act : Act} {K : Act → World → Prop} {Q : Exit → Act → World → Prop} {E : Prop} (hgd : o.guard = none) (s x : Operand)
    (ho : o.op = .call { callee := .builtin .append, args := #[s, x], argTypes := #[31, 31] })
    (base : Nat) (v : Value) (R : List (It × Bd)) (hs : act.eval s = v) (hown : Ros Z w base v R) (b : Option Addr) (m c : Nat) (R2 : List (It × Bd)) (hx : act.eval x = .slice b m c) (hr : Rit Z w b m R2) (hmc : b = none → c = 0) (hl : R.length + m ≤ 1000000000000) (hbase : base ≤ w.heap.size)
    (h : ∀ v' w', Ros Z w' base v' (R ++ R2) → w.grownBy w' v.ownBlock → Below base w w' → K (act.put o.dst v') w') : if Region.wanted o (yielded ops act.tmps) = true then Oper.wp Tryz.prog o act w K Q else E := by
  rw [if_pos (by simp [Region.wanted, hgd])]
  obtain ⟨v', w', hrun, h2, h3, h4, h5⟩ := run_append_ros w o.type base v R hown b m c R2 hr hmc hl hbase
  unfold Oper.wp
  simp only [execOp, ho, resolve, invoke, builtin, Sem.run_bind, Sem.run_pure, Result.andThen_ok, List.map_toArray, List.map_cons, List.map_nil, hs, hx, hrun]
  exact h v' w' h2 h3 h4
set_option maxHeartbeats 4000000 in
theorem ref_Fork {w : World} {y : Nat} {L : List Sp} {R : List (It × Bd)} {la : Option Addr} {ln lc : Nat} {xa : Option Addr} {xn xc : Nat} (h : Rst Z w y L R la ln lc xa xn xc) (hX : xn ≤ 1000000) :
    Calls Tryz.prog 27 #[.pointer (some ⟨y, 0, none⟩)] w fun e w' => ∃ z, e = .returned (.pointer (some ⟨z, 0, none⟩)) ∧ Ref Z w' z L (R.map Prod.fst) ∧ w.heap.size ≤ z ∧ Below w.heap.size w w' := by
  have HS : Hid (Rst Z w y L R la ln lc xa xn xc) := h
  have HSW : Hid (∀ W, Below w.heap.size w W → W.cell? ⟨y, 0, none⟩ = some (.slice la ln lc) ∧ W.cell? ⟨y, 1, none⟩ = some (.slice xa xn xc)) := fun W hW => ⟨(HS.out.stay hW).blk.cell 0 rfl, (HS.out.stay hW).blk.cell 1 rfl⟩
  clear h
  go_enter Tryz.func27, Tryz.ntmps27
  go_upto_region 3 with fail
  refine wp_region_held_drew (S := fun w' => w'.cell? ⟨y, 0, none⟩ = some (.slice la ln lc) ∧ w'.cell? ⟨y, 1, none⟩ = some (.slice xa xn xc)) (by kernel_rfl) (HSW.out _ (Below.refl _ _).drew) (fun hHeld => ?_)
  obtain ⟨wd, HWD⟩ : ∃ W, Hid (W = w.drew) := ⟨_, rfl⟩
  rw [← HWD.out] at hHeld ⊢
  have HBd : Hid (Below w.heap.size w wd) := by (show Below _ _ _); rw [HWD.out]; exact (Below.refl _ _).drew
  refine take_putH (i := 0) (v := ?_) (some 5) rfl (by kernel_rfl) (by kernel_rfl) (by kernel_rfl) (by kernel_rfl) (fun _ _ _ h => h) (Or.inl ⟨by rfl, ?_⟩) hHeld ?_
  rotate_left
  · (intro wS hSw; obtain ⟨z0, z1⟩ := hSw; go_simp; try with_reducible rfl)
  try simp only [Act.put, List.setIfInBounds_toArray, List.set_cons_zero, List.set_cons_succ]
  refine take_putH (i := 1) (v := ?_) (some 6) rfl (by kernel_rfl) (by kernel_rfl) (by kernel_rfl) (by kernel_rfl) (fun _ _ _ h => h) (Or.inl ⟨by rfl, ?_⟩) hHeld ?_
  rotate_left
  · (intro wS hSw; obtain ⟨z0, z1⟩ := hSw; go_simp; try with_reducible rfl)
  try simp only [Act.put, List.setIfInBounds_toArray, List.set_cons_zero, List.set_cons_succ]
  refine take_putH (i := 2) (v := ?_) (some 7) rfl (by kernel_rfl) (by kernel_rfl) (by kernel_rfl) (by kernel_rfl) (fun _ _ _ h => h) (Or.inl ⟨by rfl, ?_⟩) hHeld ?_
  rotate_left
  · (intro wS hSw; obtain ⟨z0, z1⟩ := hSw; go_simp; try with_reducible rfl)
  try simp only [Act.put, List.setIfInBounds_toArray, List.set_cons_zero, List.set_cons_succ]
  refine take_putH (i := 3) (v := ?_) (some 8) rfl (by kernel_rfl) (by kernel_rfl) (by kernel_rfl) (by kernel_rfl) (fun _ _ _ h => h) (Or.inl ⟨by rfl, ?_⟩) hHeld ?_
  rotate_left
  · (intro wS hSw; obtain ⟨z0, z1⟩ := hSw; go_simp; try with_reducible rfl)
  try simp only [Act.put, List.setIfInBounds_toArray, List.set_cons_zero, List.set_cons_succ]
  refine take_putH (i := 5) (v := ?_) (some 10) rfl (by kernel_rfl) (by kernel_rfl) (by kernel_rfl) (by kernel_rfl) (fun _ _ _ h => h) (Or.inl ⟨by rfl, ?_⟩) hHeld ?_
  rotate_left
  · (intro wS hSw; obtain ⟨z0, z1⟩ := hSw; go_simp; try with_reducible rfl)
  try simp only [Act.put, List.setIfInBounds_toArray, List.set_cons_zero, List.set_cons_succ]
  refine take_putH (i := 6) (v := ?_) (some 11) rfl (by kernel_rfl) (by kernel_rfl) (by kernel_rfl) (by kernel_rfl) (fun _ _ _ h => h) (Or.inl ⟨by rfl, ?_⟩) hHeld ?_
  rotate_left
  · (intro wS hSw; obtain ⟨z0, z1⟩ := hSw; go_simp; try with_reducible rfl)
  try simp only [Act.put, List.setIfInBounds_toArray, List.set_cons_zero, List.set_cons_succ]
  refine take_putH (i := 7) (v := ?_) (some 12) rfl (by kernel_rfl) (by kernel_rfl) (by kernel_rfl) (by kernel_rfl) (fun _ _ _ h => h) (Or.inl ⟨by rfl, ?_⟩) hHeld ?_
  rotate_left
  · (intro wS hSw; obtain ⟨z0, z1⟩ := hSw; go_simp; try with_reducible rfl)
  try simp only [Act.put, List.setIfInBounds_toArray, List.set_cons_zero, List.set_cons_succ]
  refine take_putH (i := 8) (v := ?_) (some 13) rfl (by kernel_rfl) (by kernel_rfl) (by kernel_rfl) (by kernel_rfl) (fun _ _ _ h => h) (Or.inl ⟨by rfl, ?_⟩) hHeld ?_
  rotate_left
  · (intro wS hSw; obtain ⟨z0, z1⟩ := hSw; go_simp; try with_reducible rfl)
  try simp only [Act.put, List.setIfInBounds_toArray, List.set_cons_zero, List.set_cons_succ]
  obtain ⟨W2, HW2⟩ : ∃ W2, Hid (W2 = wd.alloc (.cells #[] 54)) := ⟨_, rfl⟩
  have HB2 : Hid (Below wd.heap.size wd W2) := by (show Below _ _ _); rw [HW2.out]; exact below_new _ _
  have HE2 : Hid (Ros Z W2 wd.heap.size (.slice (some ⟨wd.heap.size, 0, none⟩) 0 0) []) := by (show Ros _ _ _ _ _); rw [HW2.out]; exact Ros.empty wd
  have HBW2 : Hid (Below w.heap.size w W2) := HBd.out.trans (HB2.out.mono HBd.out.size)
  have hH2 : Hid (W2.cell? ⟨y, 0, none⟩ = some (.slice la ln lc) ∧ W2.cell? ⟨y, 1, none⟩ = some (.slice xa xn xc)) := HSW.out _ HBW2.out
  clear hHeld
  refine wpAnyH_ready (rs := [4]) (by kernel_rfl) (by simp) ?_
  refine AllReadyH.cons rfl (fun K hK => ?_) AllReadyH.nil
  go_simp
  rw [← HW2.out]
  refine hK.out _ _ hH2.out (fun _ => ?_)
  clear hK K
  try simp only [Act.put, List.getElem_toArray, List.getElem_cons_succ, List.getElem_cons_zero, List.setIfInBounds_toArray, List.set_cons_zero, List.set_cons_succ]
  refine wpAnyH_ready (rs := [9]) (by kernel_rfl) (by simp) ?_
  refine AllReadyH.cons rfl (fun K hK => ?_) AllReadyH.nil
  refine step_append_ros (Z := Z) rfl (.tmp 9) (.tmp 13) rfl wd.heap.size _ [] rfl HE2.out xa xn xc R rfl (HS.out.stay HBW2.out).its HS.out.xnil (by simp; omega) HB2.out.size ?_
  intro v5 w5 hs5 _ hb5
  have HS5 : Hid (Ros Z w5 wd.heap.size v5 R) := by (show Ros _ _ _ _ _); simpa using hs5
  have HB5 : Hid (Below w.heap.size w w5) := HBW2.out.trans (hb5.mono HBd.out.size)
  obtain ⟨a5, c5, hv5, hl5, hm5, hn5, _⟩ := HS5.out.form
  obtain ⟨n5, HN5⟩ : ∃ n, Hid (R.length = n) := ⟨_, rfl⟩
  rw [HN5.out] at hv5 hl5
  subst hv5
  have hH5 : Hid (w5.cell? ⟨y, 0, none⟩ = some (.slice la ln lc) ∧ w5.cell? ⟨y, 1, none⟩ = some (.slice xa xn xc)) := HSW.out _ HB5.out
  have HF5 : Hid (n5 ≤ c5 ∧ c5 ≤ maxLen ∧ (a5 = none → c5 = 0)) := ⟨hl5, hm5, hn5⟩
  clear hs5 hb5 hl5 hm5 hn5
  refine hK.out _ _ hH5.out (fun _ => ?_)
  clear hK K
  try simp only [Act.put, List.getElem_toArray, List.getElem_cons_succ, List.getElem_cons_zero, List.setIfInBounds_toArray, List.set_cons_zero, List.set_cons_succ]
  refine take_putH (i := 10) (v := ?_) (some 15) rfl (by kernel_rfl) (by kernel_rfl) (by kernel_rfl) (by kernel_rfl) (fun _ _ _ h => h) (Or.inl ⟨by rfl, ?_⟩) hH5.out ?_
  rotate_left
  · (intro wS hSw; obtain ⟨z0, z1⟩ := hSw; go_simp; try with_reducible rfl)
  try simp only [Act.put, List.setIfInBounds_toArray, List.set_cons_zero, List.set_cons_succ]
  obtain ⟨w6, HW6⟩ : ∃ W, Hid (W = w5.alloc (.cells #[.slice la ln lc, .slice a5 n5 c5] 51)) := ⟨_, rfl⟩
  have HB6 : Hid (Below w5.heap.size w5 w6) := by (show Below _ _ _); rw [HW6.out]; exact below_new _ _
  have HBW6 : Hid (Below w.heap.size w w6) := HB5.out.trans (HB6.out.mono HB5.out.size)
  have hH6 : Hid (w6.cell? ⟨y, 0, none⟩ = some (.slice la ln lc) ∧ w6.cell? ⟨y, 1, none⟩ = some (.slice xa xn xc)) := HSW.out _ HBW6.out
  refine wpAnyH_ready (rs := [11]) (by kernel_rfl) (by simp) ?_
  refine AllReadyH.cons rfl (fun K hK => ?_) AllReadyH.nil
  go_simp
  rw [← HW6.out]
  refine hK.out _ _ hH6.out (fun _ => ?_)
  clear hK K
  try simp only [Act.put, List.getElem_toArray, List.getElem_cons_succ, List.getElem_cons_zero, List.setIfInBounds_toArray, List.set_cons_zero, List.set_cons_succ]
  refine take_putH (i := 12) (v := ?_) (some 2) rfl (by kernel_rfl) (by kernel_rfl) (by kernel_rfl) (by kernel_rfl) (fun _ _ _ h => h) (Or.inl ⟨by rfl, ?_⟩) hH6.out ?_
  rotate_left
  · (intro wS hSw; obtain ⟨z0, z1⟩ := hSw; go_simp; try with_reducible rfl)
  try simp only [Act.put, List.setIfInBounds_toArray, List.set_cons_zero, List.set_cons_succ]
  refine wpAnyH_done (by kernel_rfl) ?_ _
  go_wp2
  go_ret
  have hS6 := HS.out.stay HBW6.out
  refine ⟨w5.heap.size, rfl, ⟨R, la, ln, lc, a5, n5, c5, ⟨by rw [HW6.out]; exact Bk.new _ _ _, hS6.ok, HS.out.lz, hS6.lt, ((HS5.out.below HB6.out).rit fun k hk => HS.out.zz k (Nat.le_trans HBd.out.size hk)), HF5.out.1, HF5.out.2.1, HF5.out.2.2, hS6.zz⟩, rfl⟩, HB5.out.size, HBW6.out⟩
end Go.Proofs.YtidihfhgnjkmaaaGreat
