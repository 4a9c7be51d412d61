/- wheel: Advance, where fewer than 20 come due. -/
import Derived.Test.YteiadaonihgbfaaDoorWh14
namespace Go.Proofs.YteiadaonihgbfaaDoor
open Go.RowKit

/-- A wheel whose tick has moved on, and what comes due by it. -/
def fellS (s : St) (to : Nat) : St := fallS { s with now := to }
def toldS (s : St) (to : Nat) : List Nat := ordS (fellS s to) ((fellS s to).slots.getD 0 0)
def takenS (s : St) (l : List Nat) : St := l.foldl (fun s id => takeS s (id - 1)) s
theorem ins_len (cf : Nat → Nat → Int) (a : Nat) : ∀ (j : Nat) (l : List Nat), (insIn cf a j l).length = l.length
  | 0, _ => rfl
  | j + 1, l => by
    rw [insIn]
    split
    · rw [ins_len cf a j, swap_len]
    · rfl
theorem ins_num (cf : Nat → Nat → Int) (a : Nat) : ∀ (j : Nat) (l : List Nat), j < l.length → (∀ x ∈ l, 1 ≤ x ∧ x ≤ 64) → ∀ x ∈ insIn cf a j l, 1 ≤ x ∧ x ≤ 64
  | 0, _, _, h => h
  | j + 1, l, hj, h => by
    rw [insIn]
    split
    · exact ins_num cf a j _ (by rw [swap_len]; omega) (swap_mem h hj)
    · exact h
theorem out_len (cf : Nat → Nat → Int) (a : Nat) : ∀ (is l : List Nat), (insOut cf a is l).length = l.length
  | [], _ => rfl
  | i :: is, l => by rw [insOut, out_len cf a is, ins_len]
theorem out_num (cf : Nat → Nat → Int) (a : Nat) : ∀ (is l : List Nat), (∀ i ∈ is, i < l.length) → (∀ x ∈ l, 1 ≤ x ∧ x ≤ 64) → ∀ x ∈ insOut cf a is l, 1 ≤ x ∧ x ≤ 64
  | [], _, _, h => h
  | i :: is, l, hi, h => by
    rw [insOut]
    exact out_num cf a is _ (fun k hk => by rw [ins_len]; exact hi k (by simp [hk])) (ins_num cf a i l (hi i (by simp)) h)
theorem ord_len (s : St) (z : Nat) : (ordS s z).length = (idsS z).length := out_len _ _ _ _
theorem ord_num (s : St) (z : Nat) : ∀ x ∈ ordS s z, 1 ≤ x ∧ x ≤ 64 := by
  refine out_num _ _ _ _ (fun i hi => ?_) (fun x hx => ⟨(ids_mem hx).1, (ids_mem hx).2.1⟩)
  have := List.mem_range'_1.1 hi
  omega

set_option maxRecDepth 100000 in
set_option maxHeartbeats 4000000 in
theorem wh_Advance (w : World) (g : Nat) (s : St) (to : Nat) (h : Wh w g s) (hT : Tab w) (hg0 : g ≠ 0) (h1 : s.now ≤ to) (h2 : to ≤ 1099511627776) (h20 : (idsS ((fellS s to).slots.getD 0 0)).length < 20) :
    Calls Tryd.prog 15 #[.pointer (some ⟨g, 0, none⟩), .int .i64 (to : Int)] w fun e w' => ∃ v, e = .returned (.tuple #[v, .int .i64 0]) ∧ Hid (Wh w' g (takenS (fellS s to) (toldS s to))) ∧ Hid (w'.ownsRow w.heap.size 3 1 v (toldS s to).length (vi (toldS s to))) ∧ w.grownBy w' (some g) := by
  have HW0 : Hid (Wh w g s) := h
  have HT0 : Hid (Tab w) := hT
  have HG0 : Hid (g ≠ 0) := hg0
  have c0 := h.now_cell
  have f0 : w.frozen? ⟨g, 0, none⟩ = false := h.free 0
  have HSZ : Hid (0 < w.heap.size) := Nat.lt_of_le_of_lt (Nat.zero_le _) h.blk.lt
  have HGL : Hid (g < w.heap.size) := h.blk.lt
  obtain ⟨m, hm⟩ : ∃ m, m = s.now := ⟨_, rfl⟩
  rw [← hm] at c0 h1
  have hle : ¬ (to : Int) < (m : Int) := by omega
  have hmx : ¬ (1099511627776 : Int) < (to : Int) := by omega
  obtain ⟨w1, HW1E⟩ : ∃ w1, Hid (w1 = w.setCell ⟨g, 0, none⟩ (.int .i64 (to : Int))) := ⟨_, rfl⟩
  have HW1 : Hid (Wh w1 g { s with now := to }) := by show Wh _ _ _; rw [HW1E.out]; exact h.set_now h2
  have HG1 : Hid (w.grownBy w1 (some g)) := by show World.grownBy _ _ _; rw [HW1E.out]; exact grown_cell _ _ _ _
  have HL20 : Hid ((idsS ((fellS s to).slots.getD 0 0)).length < 20) := h20
  obtain ⟨s2, HS2⟩ : ∃ s2, Hid (s2 = fellS s to) := ⟨_, rfl⟩
  obtain ⟨T, HTD⟩ : ∃ T, Hid (T = toldS s to) := ⟨_, rfl⟩
  rw [← HS2.out, ← HTD.out]
  have HTE : Hid (T = ordS s2 (s2.slots.getD 0 0)) := by show _ = _; rw [HTD.out, HS2.out]; rfl
  rw [← HS2.out] at HL20
  have HTL : Hid (T.length < 20) := by show _ < _; rw [HTE.out, ord_len]; exact HL20.out
  have HTN : Hid (∀ x ∈ T, 1 ≤ x ∧ x ≤ 64) := by show ∀ x ∈ T, _; rw [HTE.out]; exact ord_num _ _
  clear h hT hg0 hm h20
  go_enter Tryd.func15, Tryd.ntmps15
  go_wp2_with fail
  rw [← HW1E.out]
  refine (wh_fall w1 g { s with now := to } HW1.out (HT0.out.grown HG1.out HG0.out) HG0.out).mono ?_
  rintro e w2 ⟨rfl, hw2, hg2⟩
  have HW2 : Hid (Wh w2 g s2) := by show Wh _ _ _; rw [HS2.out]; exact hw2.out
  have HG2 : Hid (w.grownBy w2 (some g)) := grown_trans HG1.out hg2
  clear hw2 hg2 c0 f0
  obtain ⟨z, hz⟩ : ∃ z, z = s2.slots.getD 0 0 := ⟨_, rfl⟩
  have hzl : z < 18446744073709551616 := by rw [hz]; exact HW2.out.slot_le 0
  have d2 : w2.cell? ⟨g, 65, none⟩ = some (.int .u64 (z : Int)) := by rw [hz]; exact HW2.out.slot_cell (k := 0) (by omega)
  rw [← hz] at HTE HL20
  clear hz
  go_wp2_with fail
  refine (wh_ordered w2 g s2 z HW2.out (HT0.out.grown HG2.out HG0.out) (Nat.lt_of_lt_of_le HSZ.out HG2.out.size) hzl HL20.out).mono ?_
  rintro e w3 ⟨v, rfl, ho, hb⟩
  obtain ⟨a, n, c, rfl⟩ := own_slice ho.out
  have HO3 : Hid (w3.ownsRow w2.heap.size 3 1 (.slice a n c) T.length (vi T)) := by
    have := ho.out
    rw [← ord_len s2 z, ← HTE.out] at this
    exact this
  have hn : n = T.length := by
    rcases HO3.out.2 with ⟨h3, h4⟩ | ⟨_, _, _, h3, _⟩
    · simp only [Value.slice.injEq] at h3; omega
    · simp only [Value.slice.injEq] at h3; exact h3.2.1
  have HN : Hid (n = T.length) := hn
  have hn20 : n < 20 := by rw [hn]; exact HTL.out
  have HW3 : Hid (Wh w3 g s2) := HW2.out.stay hb
  have HG3 : Hid (w.grownBy w3 (some g)) := grown_trans HG2.out (grown_below g hb)
  have HGB : Hid (g < w2.heap.size) := HW2.out.blk.lt
  obtain ⟨B, hB⟩ : ∃ B, B = w2.heap.size := ⟨_, rfl⟩
  have HBB : Hid (w.heap.size ≤ B) := by show _ ≤ _; rw [hB]; exact HG2.out.size
  rw [← hB] at HO3 HGB
  clear ho hb hn hB d2
  go_wp2
  go_loopw [36] (fun t36 wr => ∃ (j : Nat) (s3 : St), j ≤ n ∧ t36 = .int .i64 (j : Int) ∧ Hid (takenS s3 (T.drop j) = takenS s2 T) ∧ Hid (Wh wr g s3) ∧ Hid (wr.ownsRow B 3 1 (.slice a n c) T.length (vi T)) ∧ Hid (w.grownBy wr (some g))) (fun t36 _ => n - (intOf t36).toNat)
  case atStart => exact ⟨0, s2, by omega, rfl, rfl, HW3, HO3, HG3⟩
  case round =>
    obtain ⟨j, s3, hj, rfl, HF, HWr, HOr, HGr⟩ := hrel
    by_cases hjn : j < n
    · have hjn' : (j : Int) < (n : Int) := by omega
      have hj0 : (0 : Int) ≤ (j : Int) := by omega
      have HJL : Hid (j < T.length) := by show _ < _; rw [← HN.out]; exact hjn
      obtain ⟨id, hid⟩ : ∃ id, id = T[j]'HJL.out := ⟨_, rfl⟩
      have hidr := HTN.out id (by rw [hid]; exact List.getElem_mem _)
      have HLD : Hid (T.drop j = id :: T.drop (j + 1)) := by show _ = _; rw [hid]; exact List.drop_eq_getElem_cons HJL.out
      obtain ⟨ka, rfl, ci⟩ : ∃ ka, a = some ⟨ka, 0, none⟩ ∧ wr.cell? ⟨ka, j, none⟩ = some (.int .i64 (id : Int)) := by
        rcases HOr.out.2 with ⟨h3, h4⟩ | ⟨ka, c', cur, h3, _⟩
        · (have := HJL.out; omega)
        · simp only [Value.slice.injEq] at h3
          obtain ⟨rfl, rfl, rfl⟩ := h3
          refine ⟨ka, rfl, ?_⟩
          rw [HOr.out.cellAt j (by omega), vi, List.getElem?_map, List.getElem?_eq_getElem HJL.out, hid]
          rfl
      clear hid
      obtain ⟨i, rfl⟩ : ∃ i, id = i + 1 := ⟨id - 1, by omega⟩
      have hi : i < 64 := by omega
      rw [show ((i + 1 : Nat) : Int) = (i : Int) + 1 from by omega] at ci
      have HF2 : Hid (takenS (takeS s3 i) (T.drop (j + 1)) = takenS s2 T) := by
        show _ = _
        rw [← HF.out, HLD.out]
        rfl
      clear hidr
      go_wp2_with fail
      refine (wh_take wr g s3 i HWr.out hi).mono ?_
      rintro e w5 ⟨rfl, hw5, hg5⟩
      have HW5 : Hid (Wh w5 g (takeS s3 i)) := hw5.out
      have HO5 : Hid (w5.ownsRow B 3 1 (.slice (some ⟨ka, 0, none⟩) n c) T.length (vi T)) := own_stay HOr.out (fun q hq => hg5.block q (HOr.out.lt q hq).2 (fun e => by have := (HOr.out.lt q hq).1; have := HGB.out; simp only [Option.some.injEq] at e; omega))
      have HG5 : Hid (w.grownBy w5 (some g)) := grown_trans HGr.out hg5
      clear hw5 hg5 ci
      go_wp2
      go_roundw
      case rel => exact ⟨j + 1, takeS s3 i, by omega, by go_num, HF2, HW5, HO5, HG5⟩
      case measure => simp [intOf]; omega
    · obtain rfl : j = n := by omega
      have hjn' : ¬ (j : Int) < (j : Int) := by omega
      have HX : Hid (s3 = takenS s2 T) := by
        show _ = _
        rw [← HF.out, List.drop_of_length_le (by rw [← HN.out]; exact Nat.le_refl _)]
        rfl
      have HOF : Hid (wr.ownsRow w.heap.size 3 1 (.slice a j c) T.length (vi T)) := by
        refine ⟨HOr.out.1, ?_⟩
        rcases HOr.out.2 with h3 | ⟨g', c', cur', a1, a2, r⟩
        · exact .inl h3
        · exact .inr ⟨g', c', cur', a1, Nat.le_trans HBB.out a2, r⟩
      go_wp2
      go_returns
      exact ⟨_, rfl, by rw [← HX.out]; exact HWr, HOF, HGr.out⟩
end Go.Proofs.YteiadaonihgbfaaDoor
