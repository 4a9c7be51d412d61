/- wheel: Ids. -/
import Derived.Test.YteiadaonihgbfaaDoorWh5
namespace Go.Proofs.YteiadaonihgbfaaDoor
open Go.RowKit

theorem Blk.range {w : World} {g : Nat} {cur : List Value} {t : TypeId} (h : Blk w g cur.toArray t) (o : Nat) (cs : List Value) (hc : ∀ j v, cs[j]? = some v → cur[o + j]? = some v) : w.rangeAt g o cs := fun j v hj => h.cell (o + j) (by simpa using hc j v hj)
theorem infoSlots : (Tryd.prog.info? 65).map (·.size) = some 42 := by kernel_rfl
theorem Wh.slots_range {w : World} {g : Nat} {s : St} (h : Wh w g s) : w.rangeAt g 65 (s.slots.map fun (x : Nat) => Value.int .u64 (x : Int)) := h.blk.range 65 _ fun j v hj => by
  rw [St.cells, show 65 + j = (64 + j) + 1 from by omega, List.getElem?_cons_succ, List.getElem?_append_right (by rw [List.length_map, h.dl]; omega), List.length_map, h.dl, show 64 + j - 64 = j from by omega]
  exact hj
theorem infoSet : (Tryd.prog.info? 64).map (·.size) = some 1 := by kernel_rfl
theorem run_index_slots (w : World) (V : List Value) (i : Nat) (hi : i < 42) (v : Value) (hv : V[i]? = some v) : (Instr.index 65 (.agg V.toArray) (.int .i64 (i : Int))).run Tryd.prog w = .ok v w := by
  have hn : (0 : Int) ≤ (i : Int) ∧ (i : Int) < ((42 : Nat) : Int) := by omega
  obtain ⟨t, ht, hz⟩ := Option.map_eq_some_iff.1 infoSet
  simp [Instr.index, run_underlying Tryd.underlying65, asIntOf, hn, go_sem, sizeOf, typeInfo, ht, hz]
  rw [if_pos hi, hv]
  rfl
/-- All sets in one. -/
def allN (l : List Nat) : Nat := l.foldl (fun a x => a ||| x) 0
theorem all_lt : ∀ (l : List Nat) (a : Nat), a < 18446744073709551616 → (∀ x ∈ l, x < 18446744073709551616) → l.foldl (fun a x => a ||| x) a < 18446744073709551616
  | [], _, h, _ => h
  | y :: l, a, h, hl => by
    rw [List.foldl_cons]
    have : a ||| y < 2 ^ 64 := Nat.or_lt_two_pow h (hl y (by simp))
    exact all_lt l _ this (fun x hx => hl x (by simp [hx]))
theorem all_more (l : List Nat) (i : Nat) (h : i < l.length) : allN (l.take (i + 1)) = allN (l.take i) ||| l.getD i 0 := by
  unfold allN
  rw [List.take_add_one, List.getElem?_eq_getElem h, Option.toList_some, List.foldl_append, List.foldl_cons, List.foldl_nil, List.getD_eq_getElem?_getD, List.getElem?_eq_getElem h]
  rfl

set_option maxRecDepth 100000 in
set_option maxHeartbeats 2000000 in
theorem wh_Ids (w : World) (g : Nat) (s : St) (h : Wh w g s) (hT : Tab w) :
    Calls Tryd.prog 16 #[.pointer (some ⟨g, 0, none⟩)] w fun e w' => ∃ v, e = .returned v ∧ Hid (w'.ownsRow w.heap.size 3 1 v (idsS (allN s.slots)).length (vi (idsS (allN s.slots)))) ∧ Below w.heap.size w w' := by
  have HW : Hid (Wh w g s) := h
  have HT : Hid (Tab w) := hT
  obtain ⟨V, hV⟩ : ∃ V, V = s.slots.map fun (x : Nat) => Value.int .u64 (x : Int) := ⟨_, rfl⟩
  have HV : Hid (V = s.slots.map fun (x : Nat) => Value.int .u64 (x : Int)) := hV
  have HVL : Hid (V.length = 42) := by show _ = _; rw [hV, List.length_map]; exact h.sl
  have HRG : Hid (w.rangeAt g 65 V) := by rw [hV]; exact h.slots_range
  clear h hT hV
  go_enter Tryd.func16, Tryd.ntmps16
  go_wp2_with (guard_target =~ wpList _ _ _ (Oper.mk (some 11) _ _ _ _ _ :: _) _ _; refine wpList_load_mid rfl 65 (.tmp 10) rfl g 65 rfl V _ HRG.out Tryd.underlying65 rfl (by rw [HVL.out]; exact infoSlots) ?_)
  go_loopw [3, 5, 12] (fun t3 _t5 t12 wr => ∃ (i : Nat), i ≤ 42 ∧ t12 = .int .i64 (i : Int) ∧ t3 = .int .u64 ((allN (s.slots.take i) : Nat) : Int) ∧ wr = w) (fun _ _ t12 _ => 42 - (intOf t12).toNat)
  case atStart => exact ⟨0, by omega, rfl, rfl, rfl⟩
  case round =>
    obtain ⟨i, hi, rfl, rfl, rfl⟩ := hrel
    by_cases hlt : i < 42
    · have hlt' : (i : Int) < 42 := by omega
      have hi0 : (0 : Int) ≤ (i : Int) := by omega
      obtain ⟨x, hx⟩ : ∃ x, x = s.slots.getD i 0 := ⟨_, rfl⟩
      have HLN : Hid (i < s.slots.length) := by show _ < _; rw [HW.out.sl]; exact hlt
      have hxl : x < 18446744073709551616 := by rw [hx]; exact HW.out.slot_le i
      obtain ⟨A, hA⟩ : ∃ A, A = allN (s.slots.take i) := ⟨_, rfl⟩
      have hAl : A < 18446744073709551616 := by rw [hA]; exact all_lt _ 0 (by omega) (fun y hy => HW.out.sw y (List.mem_of_mem_take hy))
      have HN : Hid (allN (s.slots.take (i + 1)) = A ||| x) := by show _ = _; rw [all_more _ _ HLN.out, ← hA, ← hx]
      have q1 : (Instr.index 65 (.agg V.toArray) (.int .i64 (i : Int))).run Tryd.prog wr = .ok (.int .u64 (x : Int)) wr := by
        refine run_index_slots wr V i hlt _ ?_
        rw [HV.out, List.getElem?_map, hx, List.getD_eq_getElem?_getD, List.getElem?_eq_getElem HLN.out]
        rfl
      have q2 : bits .or .u64 (A : Int) (x : Int) = ((A ||| x : Nat) : Int) := u64_or_nat A x hAl hxl
      rw [← hA]
      clear hx hA
      go_wp2
      go_roundw
      case rel => exact ⟨i + 1, by omega, by go_num, by rw [HN.out], by trivial⟩
      case measure => simp [intOf]; omega
    · obtain rfl : i = 42 := by omega
      have HE : Hid (s.slots.take 42 = s.slots) := List.take_of_length_le (by rw [HW.out.sl]; exact Nat.le_refl _)
      rw [HE.out]
      have HAL : Hid (allN s.slots < 18446744073709551616) := all_lt _ 0 (by omega) HW.out.sw
      go_wp2_with fail
      refine (wh_ids wr (allN s.slots) HAL.out HT.out (Nat.lt_of_le_of_lt (Nat.zero_le _) HW.out.blk.lt)).mono ?_
      rintro e w2 ⟨v, rfl, ho, hb⟩
      obtain ⟨a2, n2, c2, rfl⟩ := own_slice ho.out
      have HO : Hid (w2.ownsRow wr.heap.size 3 1 (.slice a2 n2 c2) (idsS (allN s.slots)).length (vi (idsS (allN s.slots)))) := ho.out
      have HB : Hid (Below wr.heap.size wr w2) := hb
      clear ho hb
      go_wp2
      go_ret
      exact ⟨_, rfl, HO, HB.out⟩
end Go.Proofs.YteiadaonihgbfaaDoor
