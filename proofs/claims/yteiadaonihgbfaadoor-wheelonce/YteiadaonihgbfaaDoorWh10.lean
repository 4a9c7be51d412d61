/- wheel: Fork. -/
import Derived.Test.YteiadaonihgbfaaDoorWh9
import Derived.Laws.CopyOwn
import Derived.OwnWalk
namespace Go.Proofs.YteiadaonihgbfaaDoor
open Go.RowKit

/-- What the store of many cells makes of a block. -/
theorem setCells_blk (g : Nat) (t : TypeId) : ∀ (vs : List Value) (o : Nat) (w : World) (cur : List Value), Blk w g cur.toArray t → o + vs.length ≤ cur.length → Blk (w.setCells g o vs) g (splice cur o vs).toArray t ∧ w.grownBy (w.setCells g o vs) (some g)
  | [], o, w, cur, h, _ => by
    refine ⟨?_, ⟨rfl, rfl, rfl, Nat.le_refl _, fun _ _ _ => rfl⟩⟩
    rw [World.setCells, splice]
    simpa using h
  | v :: vs, o, w, cur, h, hl => by
    rw [List.length_cons] at hl
    have h1 : Blk (w.setCell ⟨g, o, none⟩ v) g (cur.set o v).toArray t := by
      have := h.set o v
      simpa using this
    obtain ⟨h2, h3⟩ := setCells_blk g t vs (o + 1) (w.setCell ⟨g, o, none⟩ v) (cur.set o v) h1 (by rw [List.length_set]; omega)
    rw [World.setCells]
    refine ⟨?_, ?_⟩
    · have e : splice (cur.set o v) (o + 1) vs = splice cur o (v :: vs) := by
        unfold splice
        rw [List.length_cons, show o + (vs.length + 1) = o + 1 + vs.length from by omega, List.drop_set_of_lt (by omega), List.take_set, List.take_add_one, List.getElem?_eq_getElem (by omega), List.set_append_right _ _ (by rw [List.length_take]; omega)]
        simp [Nat.min_eq_left (show o ≤ cur.length by omega)]
      rw [← e]
      exact h2
    · have h4 : w.grownBy (w.setCell ⟨g, o, none⟩ v) (some g) := by
        have h0 : Below 0 w (w.setCell ⟨g, o, none⟩ v) := (Below.refl 0 w).setCell (Nat.zero_le _) v
        refine ⟨h0.os, h0.tape, h0.output, h0.size, fun k hk hn => ?_⟩
        exact heap_setCell_other w ⟨g, o, none⟩ k v (fun e => hn (by rw [e]))
      exact ⟨h3.os.trans h4.os, h3.tape.trans h4.tape, h3.output.trans h4.output, Nat.le_trans h4.size h3.size, fun k hk hn => (h3.block k (Nat.lt_of_lt_of_le hk h4.size) hn).trans (h4.block k hk hn)⟩
theorem Blk.there {w : World} {g : Nat} {cur : List Value} {t : TypeId} (h : Blk w g cur.toArray t) (o n : Nat) (hl : o + n ≤ cur.length) : w.there g o n := fun j hj => by
  refine ⟨?_, h.free _⟩
  rw [h.cell (o + j) (v := cur[o + j]'(by omega)) (by simp)]
  rfl
theorem wp_store_row {w : World} {op : Oper} {a : Act} {K : Act → World → Prop} {Q : Exit → Act → World → Prop} (ty : TypeId) (x y : Operand) (ho : op.op = .store ty x y)
    (b o : Nat) (cs : List Value) (hx : a.eval x = .pointer (some ⟨b, o, none⟩)) (hy : a.eval y = .agg cs.toArray) (cur : List Value) (t : TypeId) (hb : Blk w b cur.toArray t) (hl : o + cs.length ≤ cur.length)
    (hi : (Tryd.prog.info? ty).map (·.size) = some cs.length) (h1 : ∀ v ∈ cs, v.oneCell' = true)
    (h : ∀ w', Blk w' b (splice cur o cs).toArray t → w.grownBy w' (some b) → K (a.put op.dst undef) w') : op.wp Tryd.prog a w K Q := by
  obtain ⟨z1, z2⟩ := setCells_blk b t cs o w cur hb hl
  exact wp_store_mid ty x y ho b o cs.toArray hx hy (by simpa using hb.there o cs.length hl) (by simpa using hi) (all_oneCell_toArray h1) (by simpa using h _ z1 z2)
theorem wpList_store_row {w : World} {ops : Array Oper} {rest : List Oper} {op : Oper} {a : Act} {Q : Exit → Act → World → Prop} (hgd : op.guard = none) (ty : TypeId) (x y : Operand) (ho : op.op = .store ty x y)
    (b o : Nat) (cs : List Value) (hx : a.eval x = .pointer (some ⟨b, o, none⟩)) (hy : a.eval y = .agg cs.toArray) (cur : List Value) (t : TypeId) (hb : Blk w b cur.toArray t) (hl : o + cs.length ≤ cur.length)
    (hi : (Tryd.prog.info? ty).map (·.size) = some cs.length) (h1 : ∀ v ∈ cs, v.oneCell' = true)
    (h : ∀ w', Blk w' b (splice cur o cs).toArray t → w.grownBy w' (some b) → wpList Tryd.prog ops Q rest (a.put op.dst undef) w') : wpList Tryd.prog ops Q (op :: rest) a w :=
  wpList_plain hgd fun _ hK => wp_store_row ty x y ho b o cs hx hy cur t hb hl hi h1 fun w' h2 h3 => hK _ _ (h w' h2 h3)
theorem run_alloc_row (w : World) (ty : TypeId) (cs : List Value) (n : Nat) (h : (Tryd.prog.info? ty).map (fun i => (i.zero, i.size)) = some (some (.agg cs.toArray), n)) : (Instr.alloc ty true (.tuple #[])).run Tryd.prog w = .ok (.pointer (some ⟨w.heap.size, 0, none⟩)) (w.alloc (.cells cs.toArray ty)) := by
  obtain ⟨i, hi, hzz⟩ := Option.map_eq_some_iff.1 h
  simp only [Prod.mk.injEq] at hzz
  simp [Instr.alloc, zeroValue, newVar, typeInfo, hi, hzz.1, Value.cells, go_sem]
theorem wpList_alloc_row {w : World} {ops : Array Oper} {rest : List Oper} {o : Oper} {a : Act} {Q : Exit → Act → World → Prop} (hgd : o.guard = none) (ty : TypeId) (ho : o.op = .alloc ty) (cs : List Value) (n : Nat)
    (hi : (Tryd.prog.info? ty).map (fun i => (i.zero, i.size)) = some (some (.agg cs.toArray), n))
    (h : ∀ w', Blk w' w.heap.size cs.toArray ty → Below w.heap.size w w' → w'.heap.size = w.heap.size + 1 → wpList Tryd.prog ops Q rest (a.put o.dst (.pointer (some ⟨w.heap.size, 0, none⟩))) w') : wpList Tryd.prog ops Q (o :: rest) a w := by
  refine wpList_plain hgd fun K hK => ?_
  unfold Oper.wp
  simp only [execOp, ho, Sem.run_bind, Sem.run_pure, Result.andThen_ok, run_alloc_row w ty cs n hi]
  exact hK _ _ (h _ (Blk.new _ _ _) (below_alloc _ _) (by simp))
theorem splice_all {α : Type} (L cs : List α) (h : L.length = cs.length) : splice L 0 cs = cs := by
  unfold splice
  rw [List.take_zero, List.nil_append, Nat.zero_add, ← h, List.drop_length, List.append_nil]

theorem infoWheel : (Tryd.prog.info? 67).map (·.size) = some 107 := by kernel_rfl
theorem infoWheelZ : (Tryd.prog.info? 67).map (fun i => (i.zero, i.size)) = some (some (.agg (Value.int .i64 0 :: (List.replicate 64 (Value.int .i64 0) ++ List.replicate 42 (Value.int .u64 0))).toArray), 107) := by kernel_rfl
theorem St.cells_one (s : St) : ∀ v ∈ s.cells, v.oneCell' = true := by
  intro v hv
  rw [St.cells, List.mem_cons, List.mem_append] at hv
  rcases hv with rfl | hv | hv
  · rfl
  · obtain ⟨x, _, rfl⟩ := List.mem_map.1 hv; rfl
  · obtain ⟨x, _, rfl⟩ := List.mem_map.1 hv; rfl

set_option maxRecDepth 100000 in
set_option maxHeartbeats 2000000 in
theorem wh_Fork (w : World) (g : Nat) (s : St) (h : Wh w g s) : Calls Tryd.prog 18 #[.pointer (some ⟨g, 0, none⟩)] w fun e w' => e = .returned (.pointer (some ⟨w.heap.size, 0, none⟩)) ∧ Hid (Wh w' w.heap.size s) ∧ Below w.heap.size w w' := by
  have HW : Hid (Wh w g s) := h
  obtain ⟨C, hC⟩ : ∃ C, C = s.cells := ⟨_, rfl⟩
  have HC : Hid (C = s.cells) := hC
  have HCL : Hid (C.length = 107) := by show _ = _; rw [hC, St.cells, List.length_cons, List.length_append, List.length_map, List.length_map, h.dl, h.sl]
  have HC1 : Hid (∀ v ∈ C, v.oneCell' = true) := by show ∀ v ∈ C, _; rw [hC]; exact s.cells_one
  have HRG : Hid (w.rangeAt g 0 C) := by
    have : Blk w g C.toArray 67 := by rw [hC]; exact h.blk
    exact this.range 0 C (fun j v hj => by simpa using hj)
  obtain ⟨Z, HZ⟩ : ∃ Z : List Value, Hid (Z = Value.int .i64 0 :: (List.replicate 64 (Value.int .i64 0) ++ List.replicate 42 (Value.int .u64 0))) := ⟨_, rfl⟩
  have HZL : Hid (Z.length = 107) := by show _ = _; rw [HZ.out]; rfl
  have HZI : Hid ((Tryd.prog.info? 67).map (fun i => (i.zero, i.size)) = some (some (.agg Z.toArray), 107)) := by show _ = _; rw [HZ.out]; exact infoWheelZ
  clear h hC
  go_enter Tryd.func18, Tryd.ntmps18
  go_wp2_with (first
    | (guard_target =~ wpList _ _ _ (Oper.mk (some 8) _ _ _ _ _ :: _) _ _; refine wpList_load_mid rfl 67 (.tmp 7) rfl g 0 rfl C _ HRG.out Tryd.underlying67 rfl (by rw [HCL.out]; exact infoWheel) ?_)
    | (guard_target =~ wpList _ _ _ (Oper.mk (some 3) _ _ _ _ _ :: _) _ _; refine wpList_alloc_row rfl 67 rfl Z 107 HZI.out ?_))
  intro w1 hk1 hb1 hs1
  have HK1 : Hid (Blk w1 w.heap.size Z.toArray 67) := hk1
  have HB1 : Hid (Below w.heap.size w w1) := hb1
  clear hk1 hb1 hs1
  go_wp2_with (guard_target =~ wpList _ _ _ (Oper.mk none _ _ _ _ _ :: _) _ _; refine wpList_store_row rfl 67 (.tmp 3) (.tmp 8) rfl w.heap.size 0 C rfl rfl Z 67 HK1.out (by rw [HCL.out, HZL.out]; omega) (by rw [HCL.out]; exact infoWheel) HC1.out ?_)
  intro w2 hk2 hg2
  have HW2 : Hid (Wh w2 w.heap.size s) := by
    rw [splice_all Z C (by rw [HZL.out, HCL.out]), HC.out] at hk2
    exact ⟨hk2, HW.out.dl, HW.out.sl, HW.out.nw, HW.out.dw, HW.out.sw⟩
  have HB2 : Hid (Below w.heap.size w w2) := HB1.out.trans ((Below.refl _ _).grown hg2 HB1.out.size (fun k hk => by simp only [Option.some.injEq] at hk; omega))
  clear hk2 hg2
  go_wp2
  go_ret
  exact ⟨rfl, HW2, HB2.out⟩
end Go.Proofs.YteiadaonihgbfaaDoor
