/- slices.SortStableFunc; wheel: ordered, Advance, Next, of up to 64. -/
import Derived.Test.YteiadaonihgbfaaDoorWhS8
import Derived.Test.YteiadaonihgbfaaDoorWh15
namespace Go.Proofs.YteiadaonihgbfaaDoor
open Go.RowKit

set_option maxRecDepth 100000 in
set_option maxHeartbeats 4000000 in
theorem sort_of (w : World) (a : Option Addr) (n c : Nat) (f : Value) (Q : World → Prop) (h : Calls Tryd.prog 46 #[.slice a n c, .int .i64 (n : Int), f] w fun e w' => e = .returned (.tuple #[]) ∧ Q w') :
    Calls Tryd.prog 40 #[.slice a n c, f] w fun e w' => e = .returned (.tuple #[]) ∧ Q w' := by
  have HS : Hid (Calls Tryd.prog 46 #[.slice a n c, .int .i64 (n : Int), f] w fun e w' => e = .returned (.tuple #[]) ∧ Q w') := h
  clear h
  go_enter Tryd.func40, Tryd.ntmps40
  go_wp2_with fail
  refine HS.out.mono ?_
  rintro e w1 ⟨rfl, hq⟩
  have HQ1 : Hid (Q w1) := hq
  clear hq
  go_wp2
  go_returns
  exact ⟨rfl, HQ1.out⟩

/-- What ordered tells is sorted, and has a set's numbers. -/
theorem ord_ok (s : St) (z : Nat) : Re (idsS z) (ordS s z) 0 (idsS z).length ∧ Srt (dW s) (ordS s z) 0 (idsS z).length := insS_ok s 0 _ _ (Nat.le_refl _) (Nat.zero_le _) (ids_ris z)
theorem ord_pw (s : St) (z : Nat) : (ordS s z).Pairwise (ltD (dW s)) := srt_pw (by rw [(ord_ok s z).1.len]; exact (ord_ok s z).2)
theorem ord_mem (s : St) (z x : Nat) : x ∈ ordS s z ↔ x ∈ idsS z := (ord_ok s z).1.mem (Nat.le_refl _) x
theorem ord_canon (s : St) (z : Nat) (l : List Nat) (hr : Re (idsS z) l 0 (idsS z).length) (hs : Srt (dW s) l 0 l.length) : l = ordS s z :=
  canonP l _ (srt_pw hs) (ord_pw s z) (fun x => by rw [ord_mem, hr.mem (Nat.le_refl _)])

set_option maxRecDepth 100000 in
set_option maxHeartbeats 4000000 in
theorem wh_ordered2 (w : World) (g : Nat) (s : St) (z : Nat) (h : Wh w g s) (hT : Tab w) (hg0 : 0 < w.heap.size) (hz : z < 18446744073709551616) :
    Calls Tryd.prog 34 #[.pointer (some ⟨g, 0, none⟩), .int .u64 (z : Int)] w fun e w' => ∃ v, e = .returned v ∧ Hid (w'.ownsRow w.heap.size 3 1 v (idsS z).length (vi (ordS s z))) ∧ Below w.heap.size w w' := by
  obtain ⟨W1, HW1⟩ : ∃ W1, Hid (W1 = w.alloc (.cells #[.pointer (some ⟨g, 0, none⟩)] 23)) := ⟨_, rfl⟩
  have HB1 : Hid (Below w.heap.size w W1) := by show Below _ _ _; rw [HW1.out]; exact below_alloc _ _
  have HK1 : Hid (Blk W1 w.heap.size #[.pointer (some ⟨g, 0, none⟩)] 23) := by show Blk _ _ _ _; rw [HW1.out]; exact Blk.new _ _ _
  have HWh1 : Hid (Wh W1 g s) := h.stay HB1.out
  have HT1 : Hid (Tab W1) := hT.below hg0 HB1.out
  have HGL : Hid (g < w.heap.size) := h.blk.lt
  have HNUM : Hid (∀ x ∈ idsS z, 1 ≤ x ∧ x ≤ 64) := fun x hx => ⟨(ids_mem hx).1, (ids_mem hx).2.1⟩
  clear h hT hg0
  go_enter Tryd.func34, Tryd.ntmps34
  go_wp2_with fail
  rw [← HW1.out]
  refine (wh_ids W1 z hz HT1.out (Nat.lt_of_le_of_lt (Nat.zero_le _) HK1.out.lt)).mono ?_
  rintro e w2 ⟨v, rfl, ho, hb⟩
  have HO : Hid (w2.ownsRow W1.heap.size 3 1 v (idsS z).length (vi (idsS z))) := ho.out
  have HB2 : Hid (Below w.heap.size w w2) := HB1.out.trans (hb.mono HB1.out.size)
  have HWh2 : Hid (Wh w2 g s) := HWh1.out.stay hb
  have HK2 : Hid (Blk w2 w.heap.size #[.pointer (some ⟨g, 0, none⟩)] 23) := HK1.out.stay hb
  have HL1 : Hid (w.heap.size < W1.heap.size) := HK1.out.lt
  clear ho hb
  rcases HO.out.2 with ⟨rfl, h0⟩ | ⟨kb, c, cur, rfl, hbase, _⟩
  · have HNIL : Hid (idsS z = []) := List.length_eq_zero_iff.1 h0
    have HF : Hid (w2.ownsRow w.heap.size 3 1 (.slice none 0 0) (idsS z).length (vi (ordS s z))) := by
      show w2.ownsRow _ _ _ _ _ _
      rw [ordS, HNIL.out]
      exact World.ownsRow_nil _ _ _ _
    clear h0
    go_wp2_with fail
    refine (sort_of w2 none 0 0 _ (fun w' => w' = w2) (stable_small w2 _ _ 0 (by omega) (fun w' => w' = w2) (ins_nil w2 _))).mono ?_
    rintro e w3 ⟨he, hw3⟩
    subst he
    rw [hw3]
    clear hw3 w3
    go_wp2
    go_ret
    exact ⟨_, rfl, HF, HB2.out⟩
  · obtain ⟨n, hn⟩ : ∃ n, n = (idsS z).length := ⟨_, rfl⟩
    have HN : Hid (n = (idsS z).length) := hn
    have hn20 : n ≤ 64 := by rw [hn]; exact ids_len z
    rw [← hn] at HO ⊢
    have HROW : Hid (Row w2 W1.heap.size kb n c (idsS z)) := ⟨HO.out, HNUM.out, hn.symm⟩
    have HRIS : Hid (Ris (idsS z) 0 n) := by rw [hn]; exact ids_ris z
    clear hbase hn
    go_wp2_with fail
    refine (sort_of w2 (some ⟨kb, 0, none⟩) n c _ (fun w' => Hid (Mg w' W1.heap.size kb n c s (idsS z) 0 n) ∧ w2.grownBy w' (some kb)) (wh_stable w2 W1.heap.size kb n c g w.heap.size s (idsS z) HROW.out ⟨HWh2.out, HK2.out.cell 0 rfl, by have := HGL.out; have := HL1.out; have := HROW.out.base.1; omega, by have := HL1.out; have := HROW.out.base.1; omega⟩ (by have := HGL.out; have := HL1.out; omega) HL1.out hn20 HRIS.out)).mono ?_
    rintro e w3 ⟨rfl, hm3, hg3⟩
    obtain ⟨l3, hr3, hre3, hs3⟩ := hm3.out
    have HEQ : Hid (l3 = ordS s z) := ord_canon s z l3 (by rw [← HN.out]; exact hre3) (by rw [hr3.len]; exact hs3)
    have HF : Hid (w3.ownsRow w.heap.size 3 1 (.slice (some ⟨kb, 0, none⟩) n c) n (vi (ordS s z))) := by
      have h1 := hr3.own
      rw [HEQ.out] at h1
      refine ⟨h1.1, ?_⟩
      rcases h1.2 with h2 | ⟨g', c', cur', a1, a2, r⟩
      · exact .inl h2
      · exact .inr ⟨g', c', cur', a1, by have := HL1.out; omega, r⟩
    have HB3 : Hid (Below w.heap.size w w3) := HB2.out.trans ((Below.refl _ _).grown hg3 HB2.out.size (fun k hk => by simp only [Option.some.injEq] at hk; have := HROW.out.base.1; have := HL1.out; omega))
    clear hm3 hr3 hre3 hs3 hg3
    go_wp2
    go_ret
    exact ⟨_, rfl, by rw [← HN.out]; exact HF, HB3.out⟩
set_option maxRecDepth 100000 in
set_option maxHeartbeats 4000000 in
theorem wh_Advance2 (w : World) (g : Nat) (s : St) (to : Nat) (h : Wh w g s) (hT : Tab w) (hg0 : g ≠ 0) (h1 : s.now ≤ to) (h2 : to ≤ 1099511627776) :
    Calls Tryd.prog 15 #[.pointer (some ⟨g, 0, none⟩), .int .i64 (to : Int)] w fun e w' => ∃ v, e = .returned (.tuple #[v, .int .i64 0]) ∧ Hid (Wh w' g (takenS (fellS s to) (toldS s to))) ∧ Hid (w'.ownsRow w.heap.size 3 1 v (toldS s to).length (vi (toldS s to))) ∧ w.grownBy w' (some g) := by
  have HW0 : Hid (Wh w g s) := h
  have HT0 : Hid (Tab w) := hT
  have HG0 : Hid (g ≠ 0) := hg0
  have c0 := h.now_cell
  have f0 : w.frozen? ⟨g, 0, none⟩ = false := h.free 0
  have HSZ : Hid (0 < w.heap.size) := Nat.lt_of_le_of_lt (Nat.zero_le _) h.blk.lt
  have HGL : Hid (g < w.heap.size) := h.blk.lt
  obtain ⟨m, hm⟩ : ∃ m, m = s.now := ⟨_, rfl⟩
  rw [← hm] at c0 h1
  have hle : ¬ (to : Int) < (m : Int) := by omega
  have hmx : ¬ (1099511627776 : Int) < (to : Int) := by omega
  obtain ⟨w1, HW1E⟩ : ∃ w1, Hid (w1 = w.setCell ⟨g, 0, none⟩ (.int .i64 (to : Int))) := ⟨_, rfl⟩
  have HW1 : Hid (Wh w1 g { s with now := to }) := by show Wh _ _ _; rw [HW1E.out]; exact h.set_now h2
  have HG1 : Hid (w.grownBy w1 (some g)) := by show World.grownBy _ _ _; rw [HW1E.out]; exact grown_cell _ _ _ _
  obtain ⟨s2, HS2⟩ : ∃ s2, Hid (s2 = fellS s to) := ⟨_, rfl⟩
  obtain ⟨T, HTD⟩ : ∃ T, Hid (T = toldS s to) := ⟨_, rfl⟩
  rw [← HS2.out, ← HTD.out]
  have HTE : Hid (T = ordS s2 (s2.slots.getD 0 0)) := by show _ = _; rw [HTD.out, HS2.out]; rfl
  have HTL : Hid (T.length < 65) := by show _ < _; rw [HTE.out, ord_len]; exact Nat.lt_succ_of_le (ids_len _)
  have HTN : Hid (∀ x ∈ T, 1 ≤ x ∧ x ≤ 64) := by show ∀ x ∈ T, _; rw [HTE.out]; exact ord_num _ _
  clear h hT hg0 hm
  go_enter Tryd.func15, Tryd.ntmps15
  go_wp2_with fail
  rw [← HW1E.out]
  refine (wh_fall w1 g { s with now := to } HW1.out (HT0.out.grown HG1.out HG0.out) HG0.out).mono ?_
  rintro e w2 ⟨rfl, hw2, hg2⟩
  have HW2 : Hid (Wh w2 g s2) := by show Wh _ _ _; rw [HS2.out]; exact hw2.out
  have HG2 : Hid (w.grownBy w2 (some g)) := grown_trans HG1.out hg2
  clear hw2 hg2 c0 f0
  obtain ⟨z, hz⟩ : ∃ z, z = s2.slots.getD 0 0 := ⟨_, rfl⟩
  have hzl : z < 18446744073709551616 := by rw [hz]; exact HW2.out.slot_le 0
  have d2 : w2.cell? ⟨g, 65, none⟩ = some (.int .u64 (z : Int)) := by rw [hz]; exact HW2.out.slot_cell (k := 0) (by omega)
  rw [← hz] at HTE
  clear hz
  go_wp2_with fail
  refine (wh_ordered2 w2 g s2 z HW2.out (HT0.out.grown HG2.out HG0.out) (Nat.lt_of_lt_of_le HSZ.out HG2.out.size) hzl).mono ?_
  rintro e w3 ⟨v, rfl, ho, hb⟩
  obtain ⟨a, n, c, rfl⟩ := own_slice ho.out
  have HO3 : Hid (w3.ownsRow w2.heap.size 3 1 (.slice a n c) T.length (vi T)) := by
    have := ho.out
    rw [← ord_len s2 z, ← HTE.out] at this
    exact this
  have hn : n = T.length := by
    rcases HO3.out.2 with ⟨h3, h4⟩ | ⟨_, _, _, h3, _⟩
    · simp only [Value.slice.injEq] at h3; omega
    · simp only [Value.slice.injEq] at h3; exact h3.2.1
  have HN : Hid (n = T.length) := hn
  have hn20 : n < 65 := by rw [hn]; exact HTL.out
  have HW3 : Hid (Wh w3 g s2) := HW2.out.stay hb
  have HG3 : Hid (w.grownBy w3 (some g)) := grown_trans HG2.out (grown_below g hb)
  have HGB : Hid (g < w2.heap.size) := HW2.out.blk.lt
  obtain ⟨B, hB⟩ : ∃ B, B = w2.heap.size := ⟨_, rfl⟩
  have HBB : Hid (w.heap.size ≤ B) := by show _ ≤ _; rw [hB]; exact HG2.out.size
  rw [← hB] at HO3 HGB
  clear ho hb hn hB d2
  go_wp2
  go_loopw [36] (fun t36 wr => ∃ (j : Nat) (s3 : St), j ≤ n ∧ t36 = .int .i64 (j : Int) ∧ Hid (takenS s3 (T.drop j) = takenS s2 T) ∧ Hid (Wh wr g s3) ∧ Hid (wr.ownsRow B 3 1 (.slice a n c) T.length (vi T)) ∧ Hid (w.grownBy wr (some g))) (fun t36 _ => n - (intOf t36).toNat)
  case atStart => exact ⟨0, s2, by omega, rfl, rfl, HW3, HO3, HG3⟩
  case round =>
    obtain ⟨j, s3, hj, rfl, HF, HWr, HOr, HGr⟩ := hrel
    by_cases hjn : j < n
    · have hjn' : (j : Int) < (n : Int) := by omega
      have hj0 : (0 : Int) ≤ (j : Int) := by omega
      have HJL : Hid (j < T.length) := by show _ < _; rw [← HN.out]; exact hjn
      obtain ⟨id, hid⟩ : ∃ id, id = T[j]'HJL.out := ⟨_, rfl⟩
      have hidr := HTN.out id (by rw [hid]; exact List.getElem_mem _)
      have HLD : Hid (T.drop j = id :: T.drop (j + 1)) := by show _ = _; rw [hid]; exact List.drop_eq_getElem_cons HJL.out
      obtain ⟨ka, rfl, ci⟩ : ∃ ka, a = some ⟨ka, 0, none⟩ ∧ wr.cell? ⟨ka, j, none⟩ = some (.int .i64 (id : Int)) := by
        rcases HOr.out.2 with ⟨h3, h4⟩ | ⟨ka, c', cur, h3, _⟩
        · (have := HJL.out; omega)
        · simp only [Value.slice.injEq] at h3
          obtain ⟨rfl, rfl, rfl⟩ := h3
          refine ⟨ka, rfl, ?_⟩
          rw [HOr.out.cellAt j (by omega), vi, List.getElem?_map, List.getElem?_eq_getElem HJL.out, hid]
          rfl
      clear hid
      obtain ⟨i, rfl⟩ : ∃ i, id = i + 1 := ⟨id - 1, by omega⟩
      have hi : i < 64 := by omega
      rw [show ((i + 1 : Nat) : Int) = (i : Int) + 1 from by omega] at ci
      have HF2 : Hid (takenS (takeS s3 i) (T.drop (j + 1)) = takenS s2 T) := by
        show _ = _
        rw [← HF.out, HLD.out]
        rfl
      clear hidr
      go_wp2_with fail
      refine (wh_take wr g s3 i HWr.out hi).mono ?_
      rintro e w5 ⟨rfl, hw5, hg5⟩
      have HW5 : Hid (Wh w5 g (takeS s3 i)) := hw5.out
      have HO5 : Hid (w5.ownsRow B 3 1 (.slice (some ⟨ka, 0, none⟩) n c) T.length (vi T)) := own_stay HOr.out (fun q hq => hg5.block q (HOr.out.lt q hq).2 (fun e => by have := (HOr.out.lt q hq).1; have := HGB.out; simp only [Option.some.injEq] at e; omega))
      have HG5 : Hid (w.grownBy w5 (some g)) := grown_trans HGr.out hg5
      clear hw5 hg5 ci
      go_wp2
      go_roundw
      case rel => exact ⟨j + 1, takeS s3 i, by omega, by go_num, HF2, HW5, HO5, HG5⟩
      case measure => simp [intOf]; omega
    · obtain rfl : j = n := by omega
      have hjn' : ¬ (j : Int) < (j : Int) := by omega
      have HX : Hid (s3 = takenS s2 T) := by
        show _ = _
        rw [← HF.out, List.drop_of_length_le (by rw [← HN.out]; exact Nat.le_refl _)]
        rfl
      have HOF : Hid (wr.ownsRow w.heap.size 3 1 (.slice a j c) T.length (vi T)) := by
        refine ⟨HOr.out.1, ?_⟩
        rcases HOr.out.2 with h3 | ⟨g', c', cur', a1, a2, r⟩
        · exact .inl h3
        · exact .inr ⟨g', c', cur', a1, Nat.le_trans HBB.out a2, r⟩
      go_wp2
      go_returns
      exact ⟨_, rfl, by rw [← HX.out]; exact HWr, HOF, HGr.out⟩

set_option maxRecDepth 100000 in
theorem wh_Advance_bad (w : World) (g : Nat) (s : St) (to : Int) (h : Wh w g s) (hb : to < (s.now : Int) ∨ 1099511627776 < to) :
    Calls Tryd.prog 15 #[.pointer (some ⟨g, 0, none⟩), .int .i64 to] w fun e w' => e = .returned (.tuple #[.slice none 0 0, .int .i64 2]) ∧ w' = w := by
  have c0 := h.now_cell
  obtain ⟨m, hm⟩ : ∃ m, m = s.now := ⟨_, rfl⟩
  rw [← hm] at c0 hb
  clear hm h
  by_cases h1 : to < (m : Int)
  · go_enter Tryd.func15, Tryd.ntmps15
    go_wp2
    go_returns
    exact ⟨rfl, rfl⟩
  · have h2 : 1099511627776 < to := by omega
    clear hb
    go_enter Tryd.func15, Tryd.ntmps15
    go_wp2
    go_returns
    exact ⟨rfl, rfl⟩
def firstZ : List Nat → Nat
  | [] => 0
  | x :: l => if x = 0 then firstZ l else x
/-- When the first one is due. -/
def nextV (s : St) : Nat := if firstZ s.slots = 0 then 0 else s.due.getD ((ordS s (firstZ s.slots)).getD 0 0 - 1) 0
def nextB (s : St) : Bool := decide (firstZ s.slots ≠ 0)
theorem firstZ_drop : ∀ (l : List Nat) (i : Nat), i < l.length → l.getD i 0 = 0 → firstZ (l.drop i) = firstZ (l.drop (i + 1)) := fun l i hi h => by
  rw [List.getD_eq_getElem?_getD, List.getElem?_eq_getElem hi] at h
  rw [List.drop_eq_getElem_cons hi, firstZ, if_pos (by simpa using h)]
theorem firstZ_at (l : List Nat) (i : Nat) (hi : i < l.length) (h : l.getD i 0 ≠ 0) : firstZ (l.drop i) = l.getD i 0 := by
  rw [List.getD_eq_getElem?_getD, List.getElem?_eq_getElem hi] at h ⊢
  rw [List.drop_eq_getElem_cons hi, firstZ, if_neg (by simpa using h)]
  rfl

set_option maxRecDepth 100000 in
set_option maxHeartbeats 4000000 in
theorem wh_Next (w : World) (g : Nat) (s : St) (h : Wh w g s) (hT : Tab w) :
    Calls Tryd.prog 20 #[.pointer (some ⟨g, 0, none⟩)] w fun e w' => e = .returned (.tuple #[.int .i64 (nextV s : Int), .bool (nextB s)]) ∧ Below w.heap.size w w' := by
  have HW : Hid (Wh w g s) := h
  have HT : Hid (Tab w) := hT
  obtain ⟨V, hV⟩ : ∃ V, V = s.slots.map fun (x : Nat) => Value.int .u64 (x : Int) := ⟨_, rfl⟩
  have HV : Hid (V = s.slots.map fun (x : Nat) => Value.int .u64 (x : Int)) := hV
  have HVL : Hid (V.length = 42) := by show _ = _; rw [hV, List.length_map]; exact h.sl
  have HRG : Hid (w.rangeAt g 65 V) := by rw [hV]; exact h.slots_range
  obtain ⟨R, HR⟩ : ∃ R, Hid (R = nextV s) := ⟨_, rfl⟩
  obtain ⟨RB, HRB⟩ : ∃ R, Hid (R = nextB s) := ⟨_, rfl⟩
  rw [← HR.out, ← HRB.out]
  clear h hT hV
  go_enter Tryd.func20, Tryd.ntmps20
  go_wp2_with (guard_target =~ wpList _ _ _ (Oper.mk (some 11) _ _ _ _ _ :: _) _ _; refine wpList_load_mid rfl 65 (.tmp 10) rfl g 65 rfl V _ HRG.out Tryd.underlying65 rfl (by rw [HVL.out]; exact infoSlots) ?_)
  go_loopw [12] (fun t12 wr => ∃ (i : Nat), i ≤ 42 ∧ t12 = .int .i64 (i : Int) ∧ Hid (firstZ (s.slots.drop i) = firstZ s.slots) ∧ wr = w) (fun t12 _ => 42 - (intOf t12).toNat)
  case atStart => exact ⟨0, by omega, rfl, rfl, rfl⟩
  case round =>
    obtain ⟨i, hi, rfl, HF, rfl⟩ := hrel
    by_cases hlt : i < 42
    · have hlt' : (i : Int) < 42 := by omega
      have hi0 : (0 : Int) ≤ (i : Int) := by omega
      obtain ⟨x, hx⟩ : ∃ x, x = s.slots.getD i 0 := ⟨_, rfl⟩
      have HLN : Hid (i < s.slots.length) := by show _ < _; rw [HW.out.sl]; exact hlt
      have hxl : x < 18446744073709551616 := by rw [hx]; exact HW.out.slot_le i
      have q1 : (Instr.index 65 (.agg V.toArray) (.int .i64 (i : Int))).run Tryd.prog wr = .ok (.int .u64 (x : Int)) wr := by
        refine run_index_slots wr V i hlt _ ?_
        rw [HV.out, List.getElem?_map, hx, List.getD_eq_getElem?_getD, List.getElem?_eq_getElem HLN.out]
        rfl
      by_cases hx0 : x = 0
      · have HF2 : Hid (firstZ (s.slots.drop (i + 1)) = firstZ s.slots) := by
          show _ = _
          rw [← HF.out, firstZ_drop _ _ HLN.out (by rw [← hx]; exact hx0)]
        clear hx
        subst hx0
        go_wp2
        go_roundw
        case rel => exact ⟨i + 1, by omega, by go_num, HF2, by trivial⟩
        case measure => simp [intOf]; omega
      · have hx0' : ((x : Int) != 0) = true := by rw [bne_iff_ne]; omega
        have hx0'' : ((x : Int) == 0) = false := by rw [beq_eq_false_iff_ne]; omega
        have HZ : Hid (firstZ s.slots = x) := by show _ = _; rw [← HF.out, firstZ_at _ _ HLN.out (by rw [← hx]; exact hx0), hx]
        have HX0 : Hid (x ≠ 0) := hx0
        have HOC := fun W hb => wh_ordered2 W g s x (HW.out.stay hb) (HT.out.below (Nat.lt_of_le_of_lt (Nat.zero_le _) HW.out.blk.lt) hb) (Nat.lt_of_lt_of_le (Nat.lt_of_le_of_lt (Nat.zero_le _) HW.out.blk.lt) hb.size) hxl
        have HOC : Hid _ := HOC
        have HBW : Hid (Below wr.heap.size wr wr.drew) := below_drew (Below.refl _ _)
        clear hx hx0
        go_wp2
        refine wp_region_any (by kernel_rfl) ?_
        change wpAny _ _ _ _ _ _ _ (World.drew _)
        refine take_put (i := 0) (v := ?_) (some 17) rfl (by kernel_rfl) (by kernel_rfl) (by kernel_rfl) (by kernel_rfl) (fun _ _ _ h => h) (Or.inl ⟨by rfl, ?_⟩) ?_
        rotate_left
        · (intro w; go_simp; try with_reducible rfl)
        try simp only [Act.put, List.setIfInBounds_toArray, List.set_cons_zero, List.set_cons_succ]
        refine take_put (i := 1) (v := ?_) (some 18) rfl (by kernel_rfl) (by kernel_rfl) (by kernel_rfl) (by kernel_rfl) (fun _ _ _ h => h) (Or.inl ⟨by rfl, ?_⟩) ?_
        rotate_left
        · (intro w; go_simp; try with_reducible rfl)
        try simp only [Act.put, List.setIfInBounds_toArray, List.set_cons_zero, List.set_cons_succ]
        refine take_put (i := 2) (v := ?_) (some 19) rfl (by kernel_rfl) (by kernel_rfl) (by kernel_rfl) (by kernel_rfl) (fun _ _ _ h => h) (Or.inl ⟨by rfl, ?_⟩) ?_
        rotate_left
        · (intro w; go_simp; try with_reducible rfl)
        try simp only [Act.put, List.setIfInBounds_toArray, List.set_cons_zero, List.set_cons_succ]
        refine take_put (i := 7) (v := ?_) (some 24) rfl (by kernel_rfl) (by kernel_rfl) (by kernel_rfl) (by kernel_rfl) (fun _ _ _ h => h) (Or.inl ⟨by rfl, ?_⟩) ?_
        rotate_left
        · (intro w; go_simp; try with_reducible rfl)
        try simp only [Act.put, List.setIfInBounds_toArray, List.set_cons_zero, List.set_cons_succ]
        refine take_put (i := 8) (v := ?_) (some 25) rfl (by kernel_rfl) (by kernel_rfl) (by kernel_rfl) (by kernel_rfl) (fun _ _ _ h => h) (Or.inl ⟨by rfl, ?_⟩) ?_
        rotate_left
        · (intro w; go_simp; try with_reducible rfl)
        try simp only [Act.put, List.setIfInBounds_toArray, List.set_cons_zero, List.set_cons_succ]
        refine wpAny_ready (rs := [3]) (by kernel_rfl) (by simp) ?_
        refine AllReady.cons rfl (fun K hK => ?_) AllReady.nil
        go_simp
        refine (HOC.out wr.drew HBW.out).mono ?_
        rintro e w2 ⟨v, he, ho, hb⟩
        subst he
        obtain ⟨a2, n2, c2, rfl⟩ := own_slice ho.out
        obtain ⟨T, hT⟩ : ∃ T, T = ordS s x := ⟨_, rfl⟩
        have HTE : Hid (T = ordS s x) := hT
        have HO : Hid (w2.ownsRow wr.drew.heap.size 3 1 (.slice a2 n2 c2) T.length (vi T)) := by
          have h3 := ho.out
          rw [← ord_len s x, ← hT] at h3
          exact h3
        have hTp : 0 < T.length := by rw [hT, ord_len, ids_step x HX0.out hxl]; simp
        obtain ⟨ka, rfl, hn2, ci⟩ : ∃ ka, a2 = some ⟨ka, 0, none⟩ ∧ 0 < n2 ∧ w2.cell? ⟨ka, 0, none⟩ = some (.int .i64 ((T.getD 0 0 : Nat) : Int)) := by
          rcases HO.out.2 with ⟨h3, h4⟩ | ⟨ka, c3, cur, h3, _⟩
          · omega
          · simp only [Value.slice.injEq] at h3
            obtain ⟨rfl, rfl, rfl⟩ := h3
            refine ⟨ka, rfl, by omega, ?_⟩
            rw [HO.out.cellAt 0 (by omega), vi, List.getElem?_map, List.getD_eq_getElem?_getD, List.getElem?_eq_getElem hTp]
            rfl
        obtain ⟨id, hid⟩ : ∃ id, id = T.getD 0 0 := ⟨_, rfl⟩
        have HID : Hid (id = T.getD 0 0) := hid
        have hidr : 1 ≤ id ∧ id ≤ 64 := by rw [hid, hT]; exact ord_num s x _ (mem_at.2 ⟨0, by rw [← hT]; exact hTp, rfl⟩)
        rw [← hid] at ci
        obtain ⟨j, hj⟩ : ∃ j, j = id - 1 := ⟨_, rfl⟩
        have HJ : Hid (j = id - 1) := hj
        have hj64 : j < 64 := by omega
        have q5 : (id : Int) - 1 = (j : Int) := by omega
        have q6 : IntKind.i64.wrap (j : Int) = (j : Int) := by rw [IntKind.wrap_i64]; omega
        have q7 : (0 : Int) ≤ (j : Int) := by omega
        have q8 : (j : Int) < 64 := by omega
        have HW2 : Hid (Wh w2 g s) := (HW.out.stay HBW.out).stay hb
        obtain ⟨t, ht⟩ : ∃ t, t = s.due.getD j 0 := ⟨_, rfl⟩
        have d1 : w2.cell? ⟨g, 1 + j, none⟩ = some (.int .i64 (t : Int)) := by rw [ht]; exact HW2.out.due_cell hj64
        have HX : Hid (R = t ∧ RB = true) := ⟨by rw [HR.out, nextV, if_neg (by rw [HZ.out]; exact HX0.out), HZ.out, ← HTE.out, ← HID.out, ← HJ.out, ← ht], by rw [HRB.out, nextB, HZ.out]; exact decide_eq_true HX0.out⟩
        have HB2 : Hid (Below wr.heap.size wr w2) := HBW.out.trans hb
        clear ho hb hT hTp hid hidr hj ht
        refine hK _ _ ?_
        clear hK K
        try simp only [Act.put, List.getElem_toArray, List.getElem_cons_succ, List.getElem_cons_zero, List.setIfInBounds_toArray, List.set_cons_zero, List.set_cons_succ]
        refine take_put (i := 4) (v := ?_) (some 21) rfl (by kernel_rfl) (by kernel_rfl) (by kernel_rfl) (by kernel_rfl) (fun _ _ _ h => h) (Or.inl ⟨by rfl, ?_⟩) ?_
        rotate_left
        · (intro w; go_simp; try with_reducible rfl)
        try simp only [Act.put, List.setIfInBounds_toArray, List.set_cons_zero, List.set_cons_succ]
        refine wpAny_ready (rs := [5]) (by kernel_rfl) (by simp) ?_
        refine AllReady.cons rfl (fun K hK => ?_) AllReady.nil
        have cl := ci
        go_simp
        clear cl
        refine hK _ _ ?_
        clear hK K
        try simp only [Act.put, List.getElem_toArray, List.getElem_cons_succ, List.getElem_cons_zero, List.setIfInBounds_toArray, List.set_cons_zero, List.set_cons_succ]
        refine take_put (i := 6) (v := ?_) (some 23) rfl (by kernel_rfl) (by kernel_rfl) (by kernel_rfl) (by kernel_rfl) (fun _ _ _ h => h) (Or.inl ⟨by rfl, ?_⟩) ?_
        rotate_left
        · (intro w; go_simp; try with_reducible rfl)
        try simp only [Act.put, List.setIfInBounds_toArray, List.set_cons_zero, List.set_cons_succ]
        refine take_put (i := 9) (v := ?_) (some 26) rfl (by kernel_rfl) (by kernel_rfl) (by kernel_rfl) (by kernel_rfl) (fun _ _ _ h => h) (Or.inl ⟨by rfl, ?_⟩) ?_
        rotate_left
        · (intro w; go_simp; try with_reducible rfl)
        try simp only [Act.put, List.setIfInBounds_toArray, List.set_cons_zero, List.set_cons_succ]
        refine wpAny_ready (rs := [10]) (by kernel_rfl) (by simp) ?_
        refine AllReady.cons rfl (fun K hK => ?_) AllReady.nil
        have cl := d1
        go_simp
        clear cl
        refine hK _ _ ?_
        clear hK K
        try simp only [Act.put, List.getElem_toArray, List.getElem_cons_succ, List.getElem_cons_zero, List.setIfInBounds_toArray, List.set_cons_zero, List.set_cons_succ]
        refine take_put (i := 11) (v := ?_) (some 2) rfl (by kernel_rfl) (by kernel_rfl) (by kernel_rfl) (by kernel_rfl) (fun _ _ _ h => h) (Or.inl ⟨by rfl, ?_⟩) ?_
        rotate_left
        · (intro w; go_simp; try with_reducible rfl)
        try simp only [Act.put, List.setIfInBounds_toArray, List.set_cons_zero, List.set_cons_succ]
        refine take_put (i := 12) (v := ?_) (some 3) rfl (by kernel_rfl) (by kernel_rfl) (by kernel_rfl) (by kernel_rfl) (fun _ _ _ h => h) (Or.inl ⟨by rfl, ?_⟩) ?_
        rotate_left
        · (intro w; go_simp; try with_reducible rfl)
        try simp only [Act.put, List.setIfInBounds_toArray, List.set_cons_zero, List.set_cons_succ]
        refine wpAny_done (by kernel_rfl) ?_ _
        go_wp2
        go_returns
        exact ⟨by rw [HX.out.1, HX.out.2]; rfl, HB2.out⟩
    · obtain rfl : i = 42 := by omega
      have HX : Hid (R = 0 ∧ RB = false) := by
        have h0 : firstZ s.slots = 0 := by rw [← HF.out, List.drop_of_length_le (by rw [HW.out.sl]; exact Nat.le_refl _)]; rfl
        exact ⟨by rw [HR.out, nextV, if_pos h0], by rw [HRB.out, nextB, h0]; rfl⟩
      go_wp2
      go_returns
      exact ⟨by rw [HX.out.1, HX.out.2]; rfl, Below.refl _ _⟩
end Go.Proofs.YteiadaonihgbfaaDoor
