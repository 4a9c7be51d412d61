/- cover: IndexFunc, ContainsFunc of discs with a closure; insUnder, outsUnder. -/
import Derived.Test.YtnfeklebfnlgkaaGreatCvF2
namespace Go.Proofs.YtnfeklebfnlgkaaGreat
set_option maxRecDepth 100000
open Go.RowKit

set_option maxHeartbeats 4000000 in
theorem cv_idxI1 (bx : Nat) (p : Int × Int × Int → Bool) (a : Option Addr) (n c : Nat) (l : List (Int × Int × Int)) (w : World) (h : DcsRd w a n l) (hn : n ≤ 1000000) (hf : ∀ w' X Y R, Below w.heap.size w w' → (X, Y, R) ∈ l → Calls Tryz.prog 54 #[.agg #[.int .i64 X, .int .i64 Y, .int .i64 R], .pointer (some ⟨bx, 0, none⟩)] w' fun e w'' => e = .returned (.bool (p (X, Y, R))) ∧ Below w'.heap.size w' w'') : Calls Tryz.prog 34 #[.slice a n c, .func (.func 54) #[] #[.pointer (some ⟨bx, 0, none⟩)]] w fun e w' => Hid (∃ r : Int, e = .returned (.int .i64 r) ∧ decide (0 ≤ r) = l.any p) ∧ Below w.heap.size w w' := by
  have HR : Hid (DcsRd w a n l) := h
  have HFF : Hid (∀ w' X Y R, Below w.heap.size w w' → (X, Y, R) ∈ l → Calls Tryz.prog 54 #[.agg #[.int .i64 X, .int .i64 Y, .int .i64 R], .pointer (some ⟨bx, 0, none⟩)] w' fun e w'' => e = .returned (.bool (p (X, Y, R))) ∧ Below w'.heap.size w' w'') := hf
  clear h hf
  go_enter Tryz.func34, Tryz.ntmps34
  go_wp2
  go_loopw [8] (fun t8 wr => ∃ (i : Nat), i ≤ n ∧ t8 = .int .i64 (i : Int) ∧ Hid ((l.take i).any p = false) ∧ Hid (Below w.heap.size w wr)) (fun t8 _ => n - (intOf t8).toNat)
  case atStart => exact ⟨0, Nat.zero_le _, rfl, rfl, Below.refl _ _⟩
  case round =>
    obtain ⟨i, hi, rfl, HT, HBr⟩ := hrel
    by_cases hlt : i < n
    · have hlt' : (i : Int) < (n : Int) := by omega
      have hge : (0 : Int) ≤ (i : Int) := by omega
      have hrd := HR.out.below HBr.out
      obtain ⟨t, ht⟩ : ∃ t, l[i]? = some t := ⟨_, List.getElem?_eq_getElem (by rw [HR.out.size]; exact hlt)⟩
      obtain ⟨g, off, rfl, hc0, hc1, hc2⟩ : ∃ g off, a = some ⟨g, off, none⟩ ∧ wr.cell? ⟨g, off + i * 3, none⟩ = some (.int .i64 t.1) ∧ wr.cell? ⟨g, off + i * 3 + 1, none⟩ = some (.int .i64 t.2.1) ∧ wr.cell? ⟨g, off + i * 3 + 2, none⟩ = some (.int .i64 t.2.2) := by
        rcases hrd.cells with h0 | ⟨g, off, ha, _, hc⟩
        · omega
        · exact ⟨g, off, ha, (hc i t ht).1, (hc i t ht).2.1, (hc i t ht).2.2⟩
      have HLI : Hid (l[i]? = some t) := ht
      obtain ⟨X, Y, R⟩ := t
      simp only at hc0 hc1 hc2
      have HM := HFF.out wr X Y R HBr.out (List.mem_of_getElem? ht)
      obtain ⟨B, HBB⟩ : ∃ B, Hid (B = p (X, Y, R)) := ⟨_, rfl⟩
      rw [← HBB.out] at HM
      have HTK : Hid ((l.take (i + 1)).any p = B) := by
        (show _ = _)
        rw [List.take_add_one, HLI.out, List.any_append, HT.out, HBB.out]
        simp
      clear hrd ht
      cases B with
      | true =>
        have HAN : Hid (l.any p = true) := by
          (show _ = _)
          rw [List.any_eq_true]
          exact ⟨(X, Y, R), List.mem_of_getElem? HLI.out, HBB.out.symm⟩
        go_wp2_with fail
        refine HM.mono ?_
        rintro e w2 ⟨rfl, hb2⟩
        have HB2 : Hid (Below w.heap.size w w2) := HBr.out.trans (hb2.mono HBr.out.size)
        clear hb2 HM hc0 hc1 hc2
        go_wp2
        go_returns
        exact ⟨⟨_, rfl, by rw [HAN.out]; simp⟩, HB2.out⟩
      | false =>
        go_wp2_with fail
        refine HM.mono ?_
        rintro e w2 ⟨rfl, hb2⟩
        have HB2 : Hid (Below w.heap.size w w2) := HBr.out.trans (hb2.mono HBr.out.size)
        clear hb2 HM hc0 hc1 hc2
        go_wp2
        go_roundw
        case rel => exact ⟨i + 1, by omega, by go_num, HTK, HB2⟩
        case measure => (simp [intOf]; omega)
    · have hnl : ¬ (i : Int) < (n : Int) := by omega
      have HAN : Hid (l.any p = false) := by
        (show _ = _)
        have h1 := HT.out
        rw [List.take_of_length_le (by rw [HR.out.size]; omega)] at h1
        exact h1
      go_wp2
      go_returns
      exact ⟨⟨_, rfl, by rw [HAN.out]; rfl⟩, HBr.out⟩
theorem cv_conI1 (bx : Nat) (p : Int × Int × Int → Bool) (a : Option Addr) (n c : Nat) (l : List (Int × Int × Int)) (w : World) (h : DcsRd w a n l) (hn : n ≤ 1000000) (hf : ∀ w' X Y R, Below w.heap.size w w' → (X, Y, R) ∈ l → Calls Tryz.prog 54 #[.agg #[.int .i64 X, .int .i64 Y, .int .i64 R], .pointer (some ⟨bx, 0, none⟩)] w' fun e w'' => e = .returned (.bool (p (X, Y, R))) ∧ Below w'.heap.size w' w'') : Calls Tryz.prog 22 #[.slice a n c, .func (.func 54) #[] #[.pointer (some ⟨bx, 0, none⟩)]] w fun e w' => e = .returned (.bool (l.any p)) ∧ Below w.heap.size w w' := by
  have HI := cv_idxI1 bx p a n c l w h hn hf
  clear h hn hf
  go_enter Tryz.func22, Tryz.ntmps22
  go_wp2_with fail
  refine HI.mono ?_
  rintro e w1 ⟨ht1, hb1⟩
  obtain ⟨r, rfl, hr⟩ := ht1.out
  have HB1 : Hid (Below w.heap.size w w1) := hb1
  have HRR : Hid (decide (0 ≤ r) = l.any p) := hr
  clear hb1 ht1 HI hr
  go_wp2
  go_returns
  exact ⟨by rw [← HRR.out]; rfl, HB1.out⟩
set_option maxHeartbeats 4000000 in
theorem cv_idxO1 (bx : Nat) (p : Int × Int × Int → Bool) (a : Option Addr) (n c : Nat) (l : List (Int × Int × Int)) (w : World) (h : DcsRd w a n l) (hn : n ≤ 1000000) (hf : ∀ w' X Y R, Below w.heap.size w w' → (X, Y, R) ∈ l → Calls Tryz.prog 56 #[.agg #[.int .i64 X, .int .i64 Y, .int .i64 R], .pointer (some ⟨bx, 0, none⟩)] w' fun e w'' => e = .returned (.bool (p (X, Y, R))) ∧ Below w'.heap.size w' w'') : Calls Tryz.prog 34 #[.slice a n c, .func (.func 56) #[] #[.pointer (some ⟨bx, 0, none⟩)]] w fun e w' => Hid (∃ r : Int, e = .returned (.int .i64 r) ∧ decide (0 ≤ r) = l.any p) ∧ Below w.heap.size w w' := by
  have HR : Hid (DcsRd w a n l) := h
  have HFF : Hid (∀ w' X Y R, Below w.heap.size w w' → (X, Y, R) ∈ l → Calls Tryz.prog 56 #[.agg #[.int .i64 X, .int .i64 Y, .int .i64 R], .pointer (some ⟨bx, 0, none⟩)] w' fun e w'' => e = .returned (.bool (p (X, Y, R))) ∧ Below w'.heap.size w' w'') := hf
  clear h hf
  go_enter Tryz.func34, Tryz.ntmps34
  go_wp2
  go_loopw [8] (fun t8 wr => ∃ (i : Nat), i ≤ n ∧ t8 = .int .i64 (i : Int) ∧ Hid ((l.take i).any p = false) ∧ Hid (Below w.heap.size w wr)) (fun t8 _ => n - (intOf t8).toNat)
  case atStart => exact ⟨0, Nat.zero_le _, rfl, rfl, Below.refl _ _⟩
  case round =>
    obtain ⟨i, hi, rfl, HT, HBr⟩ := hrel
    by_cases hlt : i < n
    · have hlt' : (i : Int) < (n : Int) := by omega
      have hge : (0 : Int) ≤ (i : Int) := by omega
      have hrd := HR.out.below HBr.out
      obtain ⟨t, ht⟩ : ∃ t, l[i]? = some t := ⟨_, List.getElem?_eq_getElem (by rw [HR.out.size]; exact hlt)⟩
      obtain ⟨g, off, rfl, hc0, hc1, hc2⟩ : ∃ g off, a = some ⟨g, off, none⟩ ∧ wr.cell? ⟨g, off + i * 3, none⟩ = some (.int .i64 t.1) ∧ wr.cell? ⟨g, off + i * 3 + 1, none⟩ = some (.int .i64 t.2.1) ∧ wr.cell? ⟨g, off + i * 3 + 2, none⟩ = some (.int .i64 t.2.2) := by
        rcases hrd.cells with h0 | ⟨g, off, ha, _, hc⟩
        · omega
        · exact ⟨g, off, ha, (hc i t ht).1, (hc i t ht).2.1, (hc i t ht).2.2⟩
      have HLI : Hid (l[i]? = some t) := ht
      obtain ⟨X, Y, R⟩ := t
      simp only at hc0 hc1 hc2
      have HM := HFF.out wr X Y R HBr.out (List.mem_of_getElem? ht)
      obtain ⟨B, HBB⟩ : ∃ B, Hid (B = p (X, Y, R)) := ⟨_, rfl⟩
      rw [← HBB.out] at HM
      have HTK : Hid ((l.take (i + 1)).any p = B) := by
        (show _ = _)
        rw [List.take_add_one, HLI.out, List.any_append, HT.out, HBB.out]
        simp
      clear hrd ht
      cases B with
      | true =>
        have HAN : Hid (l.any p = true) := by
          (show _ = _)
          rw [List.any_eq_true]
          exact ⟨(X, Y, R), List.mem_of_getElem? HLI.out, HBB.out.symm⟩
        go_wp2_with fail
        refine HM.mono ?_
        rintro e w2 ⟨rfl, hb2⟩
        have HB2 : Hid (Below w.heap.size w w2) := HBr.out.trans (hb2.mono HBr.out.size)
        clear hb2 HM hc0 hc1 hc2
        go_wp2
        go_returns
        exact ⟨⟨_, rfl, by rw [HAN.out]; simp⟩, HB2.out⟩
      | false =>
        go_wp2_with fail
        refine HM.mono ?_
        rintro e w2 ⟨rfl, hb2⟩
        have HB2 : Hid (Below w.heap.size w w2) := HBr.out.trans (hb2.mono HBr.out.size)
        clear hb2 HM hc0 hc1 hc2
        go_wp2
        go_roundw
        case rel => exact ⟨i + 1, by omega, by go_num, HTK, HB2⟩
        case measure => (simp [intOf]; omega)
    · have hnl : ¬ (i : Int) < (n : Int) := by omega
      have HAN : Hid (l.any p = false) := by
        (show _ = _)
        have h1 := HT.out
        rw [List.take_of_length_le (by rw [HR.out.size]; omega)] at h1
        exact h1
      go_wp2
      go_returns
      exact ⟨⟨_, rfl, by rw [HAN.out]; rfl⟩, HBr.out⟩
theorem cv_conO1 (bx : Nat) (p : Int × Int × Int → Bool) (a : Option Addr) (n c : Nat) (l : List (Int × Int × Int)) (w : World) (h : DcsRd w a n l) (hn : n ≤ 1000000) (hf : ∀ w' X Y R, Below w.heap.size w w' → (X, Y, R) ∈ l → Calls Tryz.prog 56 #[.agg #[.int .i64 X, .int .i64 Y, .int .i64 R], .pointer (some ⟨bx, 0, none⟩)] w' fun e w'' => e = .returned (.bool (p (X, Y, R))) ∧ Below w'.heap.size w' w'') : Calls Tryz.prog 22 #[.slice a n c, .func (.func 56) #[] #[.pointer (some ⟨bx, 0, none⟩)]] w fun e w' => e = .returned (.bool (l.any p)) ∧ Below w.heap.size w w' := by
  have HI := cv_idxO1 bx p a n c l w h hn hf
  clear h hn hf
  go_enter Tryz.func22, Tryz.ntmps22
  go_wp2_with fail
  refine HI.mono ?_
  rintro e w1 ⟨ht1, hb1⟩
  obtain ⟨r, rfl, hr⟩ := ht1.out
  have HB1 : Hid (Below w.heap.size w w1) := hb1
  have HRR : Hid (decide (0 ≤ r) = l.any p) := hr
  clear hb1 ht1 HI hr
  go_wp2
  go_returns
  exact ⟨by rw [← HRR.out]; rfl, HB1.out⟩
set_option maxHeartbeats 4000000 in
theorem cv_idxO2 (bx : Nat) (p : Int × Int × Int → Bool) (a : Option Addr) (n c : Nat) (l : List (Int × Int × Int)) (w : World) (h : DcsRd w a n l) (hn : n ≤ 1000000) (hf : ∀ w' X Y R, Below w.heap.size w w' → (X, Y, R) ∈ l → Calls Tryz.prog 57 #[.agg #[.int .i64 X, .int .i64 Y, .int .i64 R], .pointer (some ⟨bx, 0, none⟩)] w' fun e w'' => e = .returned (.bool (p (X, Y, R))) ∧ Below w'.heap.size w' w'') : Calls Tryz.prog 34 #[.slice a n c, .func (.func 57) #[] #[.pointer (some ⟨bx, 0, none⟩)]] w fun e w' => Hid (∃ r : Int, e = .returned (.int .i64 r) ∧ decide (0 ≤ r) = l.any p) ∧ Below w.heap.size w w' := by
  have HR : Hid (DcsRd w a n l) := h
  have HFF : Hid (∀ w' X Y R, Below w.heap.size w w' → (X, Y, R) ∈ l → Calls Tryz.prog 57 #[.agg #[.int .i64 X, .int .i64 Y, .int .i64 R], .pointer (some ⟨bx, 0, none⟩)] w' fun e w'' => e = .returned (.bool (p (X, Y, R))) ∧ Below w'.heap.size w' w'') := hf
  clear h hf
  go_enter Tryz.func34, Tryz.ntmps34
  go_wp2
  go_loopw [8] (fun t8 wr => ∃ (i : Nat), i ≤ n ∧ t8 = .int .i64 (i : Int) ∧ Hid ((l.take i).any p = false) ∧ Hid (Below w.heap.size w wr)) (fun t8 _ => n - (intOf t8).toNat)
  case atStart => exact ⟨0, Nat.zero_le _, rfl, rfl, Below.refl _ _⟩
  case round =>
    obtain ⟨i, hi, rfl, HT, HBr⟩ := hrel
    by_cases hlt : i < n
    · have hlt' : (i : Int) < (n : Int) := by omega
      have hge : (0 : Int) ≤ (i : Int) := by omega
      have hrd := HR.out.below HBr.out
      obtain ⟨t, ht⟩ : ∃ t, l[i]? = some t := ⟨_, List.getElem?_eq_getElem (by rw [HR.out.size]; exact hlt)⟩
      obtain ⟨g, off, rfl, hc0, hc1, hc2⟩ : ∃ g off, a = some ⟨g, off, none⟩ ∧ wr.cell? ⟨g, off + i * 3, none⟩ = some (.int .i64 t.1) ∧ wr.cell? ⟨g, off + i * 3 + 1, none⟩ = some (.int .i64 t.2.1) ∧ wr.cell? ⟨g, off + i * 3 + 2, none⟩ = some (.int .i64 t.2.2) := by
        rcases hrd.cells with h0 | ⟨g, off, ha, _, hc⟩
        · omega
        · exact ⟨g, off, ha, (hc i t ht).1, (hc i t ht).2.1, (hc i t ht).2.2⟩
      have HLI : Hid (l[i]? = some t) := ht
      obtain ⟨X, Y, R⟩ := t
      simp only at hc0 hc1 hc2
      have HM := HFF.out wr X Y R HBr.out (List.mem_of_getElem? ht)
      obtain ⟨B, HBB⟩ : ∃ B, Hid (B = p (X, Y, R)) := ⟨_, rfl⟩
      rw [← HBB.out] at HM
      have HTK : Hid ((l.take (i + 1)).any p = B) := by
        (show _ = _)
        rw [List.take_add_one, HLI.out, List.any_append, HT.out, HBB.out]
        simp
      clear hrd ht
      cases B with
      | true =>
        have HAN : Hid (l.any p = true) := by
          (show _ = _)
          rw [List.any_eq_true]
          exact ⟨(X, Y, R), List.mem_of_getElem? HLI.out, HBB.out.symm⟩
        go_wp2_with fail
        refine HM.mono ?_
        rintro e w2 ⟨rfl, hb2⟩
        have HB2 : Hid (Below w.heap.size w w2) := HBr.out.trans (hb2.mono HBr.out.size)
        clear hb2 HM hc0 hc1 hc2
        go_wp2
        go_returns
        exact ⟨⟨_, rfl, by rw [HAN.out]; simp⟩, HB2.out⟩
      | false =>
        go_wp2_with fail
        refine HM.mono ?_
        rintro e w2 ⟨rfl, hb2⟩
        have HB2 : Hid (Below w.heap.size w w2) := HBr.out.trans (hb2.mono HBr.out.size)
        clear hb2 HM hc0 hc1 hc2
        go_wp2
        go_roundw
        case rel => exact ⟨i + 1, by omega, by go_num, HTK, HB2⟩
        case measure => (simp [intOf]; omega)
    · have hnl : ¬ (i : Int) < (n : Int) := by omega
      have HAN : Hid (l.any p = false) := by
        (show _ = _)
        have h1 := HT.out
        rw [List.take_of_length_le (by rw [HR.out.size]; omega)] at h1
        exact h1
      go_wp2
      go_returns
      exact ⟨⟨_, rfl, by rw [HAN.out]; rfl⟩, HBr.out⟩
theorem cv_conO2 (bx : Nat) (p : Int × Int × Int → Bool) (a : Option Addr) (n c : Nat) (l : List (Int × Int × Int)) (w : World) (h : DcsRd w a n l) (hn : n ≤ 1000000) (hf : ∀ w' X Y R, Below w.heap.size w w' → (X, Y, R) ∈ l → Calls Tryz.prog 57 #[.agg #[.int .i64 X, .int .i64 Y, .int .i64 R], .pointer (some ⟨bx, 0, none⟩)] w' fun e w'' => e = .returned (.bool (p (X, Y, R))) ∧ Below w'.heap.size w' w'') : Calls Tryz.prog 22 #[.slice a n c, .func (.func 57) #[] #[.pointer (some ⟨bx, 0, none⟩)]] w fun e w' => e = .returned (.bool (l.any p)) ∧ Below w.heap.size w w' := by
  have HI := cv_idxO2 bx p a n c l w h hn hf
  clear h hn hf
  go_enter Tryz.func22, Tryz.ntmps22
  go_wp2_with fail
  refine HI.mono ?_
  rintro e w1 ⟨ht1, hb1⟩
  obtain ⟨r, rfl, hr⟩ := ht1.out
  have HB1 : Hid (Below w.heap.size w w1) := hb1
  have HRR : Hid (decide (0 ≤ r) = l.any p) := hr
  clear hb1 ht1 HI hr
  go_wp2
  go_returns
  exact ⟨by rw [← HRR.out]; rfl, HB1.out⟩
set_option maxHeartbeats 2000000 in
theorem cv_insUnder1 (X Y R U V S : Int) (bx : Nat) (w : World) (hk : Blk w bx #[.int .i64 U, .int .i64 V, .int .i64 S] 45) (hd : OkD (X, Y, R)) (hc : OkD (U, V, S)) : Calls Tryz.prog 54 #[.agg #[.int .i64 X, .int .i64 Y, .int .i64 R], .pointer (some ⟨bx, 0, none⟩)] w fun e w' => e = .returned (.bool (withinD (X, Y, R) (U, V, S))) ∧ Below w.heap.size w w' := by
  obtain ⟨W1, HW1⟩ : ∃ W1, Hid (W1 = w.alloc (.cells #[.int .i64 X, .int .i64 Y, .int .i64 R] 45)) := ⟨_, rfl⟩
  have HX1 : Hid (Below w.heap.size w W1) := by (show Below _ _ _); rw [HW1.out]; exact below_alloc _ _
  have HK0 : Hid (Blk W1 w.heap.size #[.int .i64 X, .int .i64 Y, .int .i64 R] 45) := by (show Blk _ _ _ _); rw [HW1.out]; exact Blk.new _ _ _
  have HK1 : Hid (Blk W1 bx #[.int .i64 U, .int .i64 V, .int .i64 S] 45) := hk.stay HX1.out
  have c0 : W1.cell? ⟨w.heap.size, 0, none⟩ = some (.int .i64 X) := HK0.out.cell 0 rfl
  have c1 : W1.cell? ⟨w.heap.size, 1, none⟩ = some (.int .i64 Y) := HK0.out.cell 1 rfl
  have c2 : W1.cell? ⟨w.heap.size, 2, none⟩ = some (.int .i64 R) := HK0.out.cell 2 rfl
  have d0 : W1.cell? ⟨bx, 0, none⟩ = some (.int .i64 U) := HK1.out.cell 0 rfl
  have d1 : W1.cell? ⟨bx, 1, none⟩ = some (.int .i64 V) := HK1.out.cell 1 rfl
  have d2 : W1.cell? ⟨bx, 2, none⟩ = some (.int .i64 S) := HK1.out.cell 2 rfl
  have HC := cv_liesWithin X Y R U V S W1 hd hc
  clear hk hd hc
  go_enter Tryz.func54, Tryz.ntmps54
  go_upto_region 1 with fail
  rw [← HW1.out]
  go_wp2_with fail
  refine HC.mono ?_
  rintro e w2 ⟨rfl, hb2⟩
  have HX2 : Hid (Below w.heap.size w w2) := HX1.out.trans (hb2.mono HX1.out.size)
  clear hb2 HC c0 c1 c2 d0 d1 d2
  go_wp2
  go_returns
  exact ⟨rfl, HX2.out⟩
set_option maxHeartbeats 2000000 in
theorem cv_outsUnder1 (X Y R U V S : Int) (bx : Nat) (w : World) (hk : Blk w bx #[.int .i64 U, .int .i64 V, .int .i64 S] 45) (hd : OkD (X, Y, R)) (hc : OkD (U, V, S)) : Calls Tryz.prog 56 #[.agg #[.int .i64 X, .int .i64 Y, .int .i64 R], .pointer (some ⟨bx, 0, none⟩)] w fun e w' => e = .returned (.bool (withinD (U, V, S) (X, Y, R))) ∧ Below w.heap.size w w' := by
  obtain ⟨W1, HW1⟩ : ∃ W1, Hid (W1 = w.alloc (.cells #[.int .i64 X, .int .i64 Y, .int .i64 R] 45)) := ⟨_, rfl⟩
  have HX1 : Hid (Below w.heap.size w W1) := by (show Below _ _ _); rw [HW1.out]; exact below_alloc _ _
  have HK0 : Hid (Blk W1 w.heap.size #[.int .i64 X, .int .i64 Y, .int .i64 R] 45) := by (show Blk _ _ _ _); rw [HW1.out]; exact Blk.new _ _ _
  have HK1 : Hid (Blk W1 bx #[.int .i64 U, .int .i64 V, .int .i64 S] 45) := hk.stay HX1.out
  have c0 : W1.cell? ⟨w.heap.size, 0, none⟩ = some (.int .i64 X) := HK0.out.cell 0 rfl
  have c1 : W1.cell? ⟨w.heap.size, 1, none⟩ = some (.int .i64 Y) := HK0.out.cell 1 rfl
  have c2 : W1.cell? ⟨w.heap.size, 2, none⟩ = some (.int .i64 R) := HK0.out.cell 2 rfl
  have d0 : W1.cell? ⟨bx, 0, none⟩ = some (.int .i64 U) := HK1.out.cell 0 rfl
  have d1 : W1.cell? ⟨bx, 1, none⟩ = some (.int .i64 V) := HK1.out.cell 1 rfl
  have d2 : W1.cell? ⟨bx, 2, none⟩ = some (.int .i64 S) := HK1.out.cell 2 rfl
  have HC := cv_liesWithin U V S X Y R W1 hc hd
  clear hk hd hc
  go_enter Tryz.func56, Tryz.ntmps56
  go_upto_region 1 with fail
  rw [← HW1.out]
  go_wp2_with fail
  refine HC.mono ?_
  rintro e w2 ⟨rfl, hb2⟩
  have HX2 : Hid (Below w.heap.size w w2) := HX1.out.trans (hb2.mono HX1.out.size)
  clear hb2 HC c0 c1 c2 d0 d1 d2
  go_wp2
  go_returns
  exact ⟨rfl, HX2.out⟩
set_option maxHeartbeats 2000000 in
theorem cv_outsUnder2 (X Y R U V S : Int) (bx : Nat) (w : World) (hk : Blk w bx #[.int .i64 U, .int .i64 V, .int .i64 S] 45) (hd : OkD (X, Y, R)) (hc : OkD (U, V, S)) : Calls Tryz.prog 57 #[.agg #[.int .i64 X, .int .i64 Y, .int .i64 R], .pointer (some ⟨bx, 0, none⟩)] w fun e w' => e = .returned (.bool (apartD (U, V, S) (X, Y, R))) ∧ Below w.heap.size w w' := by
  obtain ⟨W1, HW1⟩ : ∃ W1, Hid (W1 = w.alloc (.cells #[.int .i64 X, .int .i64 Y, .int .i64 R] 45)) := ⟨_, rfl⟩
  have HX1 : Hid (Below w.heap.size w W1) := by (show Below _ _ _); rw [HW1.out]; exact below_alloc _ _
  have HK0 : Hid (Blk W1 w.heap.size #[.int .i64 X, .int .i64 Y, .int .i64 R] 45) := by (show Blk _ _ _ _); rw [HW1.out]; exact Blk.new _ _ _
  have HK1 : Hid (Blk W1 bx #[.int .i64 U, .int .i64 V, .int .i64 S] 45) := hk.stay HX1.out
  have c0 : W1.cell? ⟨w.heap.size, 0, none⟩ = some (.int .i64 X) := HK0.out.cell 0 rfl
  have c1 : W1.cell? ⟨w.heap.size, 1, none⟩ = some (.int .i64 Y) := HK0.out.cell 1 rfl
  have c2 : W1.cell? ⟨w.heap.size, 2, none⟩ = some (.int .i64 R) := HK0.out.cell 2 rfl
  have d0 : W1.cell? ⟨bx, 0, none⟩ = some (.int .i64 U) := HK1.out.cell 0 rfl
  have d1 : W1.cell? ⟨bx, 1, none⟩ = some (.int .i64 V) := HK1.out.cell 1 rfl
  have d2 : W1.cell? ⟨bx, 2, none⟩ = some (.int .i64 S) := HK1.out.cell 2 rfl
  have HC := cv_liesApart U V S X Y R W1 hc hd
  clear hk hd hc
  go_enter Tryz.func57, Tryz.ntmps57
  go_upto_region 1 with fail
  rw [← HW1.out]
  go_wp2_with fail
  refine HC.mono ?_
  rintro e w2 ⟨rfl, hb2⟩
  have HX2 : Hid (Below w.heap.size w w2) := HX1.out.trans (hb2.mono HX1.out.size)
  clear hb2 HC c0 c1 c2 d0 d1 d2
  go_wp2
  go_returns
  exact ⟨rfl, HX2.out⟩
/-- Within each of the outer one's Ins one of the inner one's lies. -/
def insU (ai bi : List (Int × Int × Int)) : Bool := bi.all fun wide => ai.any fun d => withinD d wide
def outsU (ai ao bo : List (Int × Int × Int)) : Bool := bo.all fun hole => (ao.any fun d => withinD hole d) || (ai.any fun d => apartD hole d)
set_option maxHeartbeats 8000000 in
theorem cv_insUnder (s q : Sq) (w : World) (hsi : DcsRd w s.ia s.il s.ins) (hso : DcsRd w s.oa s.ol s.outs) (hq : DcsRd w q.ia q.il q.ins) (hs4 : s.il ≤ 4 ∧ s.ol ≤ 4) (hq4 : q.il ≤ 4) (hoi : ∀ t ∈ s.ins, OkD t) (hoo : ∀ t ∈ s.outs, OkD t) (hqo : ∀ t ∈ q.ins, OkD t) : Calls Tryz.prog 37 #[.agg (sqc s).toArray, .agg (sqc q).toArray] w fun e w' => e = .returned (.bool (insU s.ins q.ins)) ∧ Below w.heap.size w w' := by
  obtain ⟨W1, HW1⟩ : ∃ W1, Hid (W1 = (w.alloc (.cells (sqc s).toArray 40)).alloc (.cells (sqc q).toArray 40)) := ⟨_, rfl⟩
  have HX1 : Hid (Below w.heap.size w W1) := by (show Below _ _ _); rw [HW1.out]; exact below_two _ _ _
  have HK0 : Hid (Blk W1 w.heap.size (sqc s).toArray 40) := by (show Blk _ _ _ _); rw [HW1.out]; exact blk_two0 _ _ _ _
  have HK1 : Hid (Blk W1 (w.heap.size + 1) (sqc q).toArray 40) := by (show Blk _ _ _ _); rw [HW1.out]; exact blk_two1 _ _ _ _
  have HSI : Hid (DcsRd W1 s.ia s.il s.ins) := hsi.below HX1.out
  have HSO : Hid (DcsRd W1 s.oa s.ol s.outs) := hso.below HX1.out
  have HQ : Hid (DcsRd W1 q.ia q.il q.ins) := hq.below HX1.out
  have HS4 : Hid (s.il ≤ 4 ∧ s.ol ≤ 4) := hs4
  have HOI : Hid (∀ t ∈ s.ins, OkD t) := hoi
  have HOO : Hid (∀ t ∈ s.outs, OkD t) := hoo
  have HQO : Hid (∀ t ∈ q.ins, OkD t) := hqo
  obtain ⟨E, HE⟩ : ∃ E, Hid (E = q.ins.all (fun wide => s.ins.any fun d => withinD d wide)) := ⟨_, rfl⟩
  have HEE : Hid (insU s.ins q.ins = E) := HE.out.symm
  rw [HEE.out]
  have k1 : W1.cell? ⟨w.heap.size + 1, 10, none⟩ = some (.slice q.ia q.il q.ic) := HK1.out.cell 10 rfl
  have HKS : Hid (∀ w', Below W1.heap.size W1 w' → w'.cell? ⟨w.heap.size, 10, none⟩ = some (.slice s.ia s.il s.ic) ∧ w'.cell? ⟨w.heap.size, 11, none⟩ = some (.slice s.oa s.ol s.oc)) := fun w' hb => ⟨(HK0.out.stay hb).cell 10 rfl, (HK0.out.stay hb).cell 11 rfl⟩
  obtain ⟨ql, HQL⟩ : ∃ ql, Hid (ql = q.ins) := ⟨_, rfl⟩
  rw [← HQL.out] at HQ HQO HE
  obtain ⟨qa, hqa⟩ : ∃ qa, qa = q.ia := ⟨_, rfl⟩
  obtain ⟨qn, hqn⟩ : ∃ qn, qn = q.il := ⟨_, rfl⟩
  obtain ⟨qc, hqc⟩ : ∃ qc, qc = q.ic := ⟨_, rfl⟩
  rw [← hqa, ← hqn] at HQ
  rw [← hqn] at hq4
  rw [← hqa, ← hqn, ← hqc] at k1
  clear hsi hso hq hs4 hoi hoo hqo hqa hqn hqc HEE HQL HK1
  go_enter Tryz.func37, Tryz.ntmps37
  go_upto_region 1 with fail
  rw [← HW1.out]
  go_wp2_with fail
  clear k1
  go_loopw [10] (fun t10 wr => ∃ (i : Nat), i ≤ qn ∧ t10 = .int .i64 (i : Int) ∧ Hid ((ql.take i).all (fun wide => s.ins.any fun d => withinD d wide) = true) ∧ Hid (Below W1.heap.size W1 wr)) (fun t10 _ => qn - (intOf t10).toNat)
  case atStart => exact ⟨0, Nat.zero_le _, rfl, rfl, Below.refl _ _⟩
  case round =>
    obtain ⟨i, hi, rfl, HT, HBr⟩ := hrel
    by_cases hlt : i < qn
    · have hlt' : (i : Int) < (qn : Int) := by omega
      have hge : (0 : Int) ≤ (i : Int) := by omega
      have hrd := HQ.out.below HBr.out
      obtain ⟨t, ht⟩ : ∃ t, ql[i]? = some t := ⟨_, List.getElem?_eq_getElem (by rw [HQ.out.size]; exact hlt)⟩
      have hot := HQO.out t (List.mem_of_getElem? ht)
      obtain ⟨g, off, rfl, hc0, hc1, hc2⟩ : ∃ g off, qa = some ⟨g, off, none⟩ ∧ wr.cell? ⟨g, off + i * 3, none⟩ = some (.int .i64 t.1) ∧ wr.cell? ⟨g, off + i * 3 + 1, none⟩ = some (.int .i64 t.2.1) ∧ wr.cell? ⟨g, off + i * 3 + 2, none⟩ = some (.int .i64 t.2.2) := by
        rcases hrd.cells with h0 | ⟨g, off, ha, _, hc⟩
        · omega
        · exact ⟨g, off, ha, (hc i t ht).1, (hc i t ht).2.1, (hc i t ht).2.2⟩
      have HLI : Hid (ql[i]? = some t) := ht
      obtain ⟨X, Y, R⟩ := t
      simp only at hc0 hc1 hc2
      have HOT : Hid (OkD (X, Y, R)) := hot
      obtain ⟨B, HBB⟩ : ∃ B, Hid (B = (s.ins.any fun d => withinD d (X, Y, R))) := ⟨_, rfl⟩
      have HTK : Hid ((ql.take (i + 1)).all (fun wide => s.ins.any fun d => withinD d wide) = B) := by
        (show _ = _)
        rw [List.take_add_one, HLI.out, List.all_append, HT.out, HBB.out]
        simp
      have HAN : Hid (B = false → E = false) := by
        intro hB
        rw [HE.out, List.all_eq_false]
        exact ⟨(X, Y, R), List.mem_of_getElem? HLI.out, by rw [← HBB.out, hB]; simp⟩
      obtain ⟨W2, HW2⟩ : ∃ W2, Hid (W2 = wr.alloc (.cells #[.int .i64 X, .int .i64 Y, .int .i64 R] 45)) := ⟨_, rfl⟩
      have HY2 : Hid (Below wr.heap.size wr W2) := by (show Below _ _ _); rw [HW2.out]; exact below_alloc _ _
      have HX2 : Hid (Below W1.heap.size W1 W2) := HBr.out.trans (HY2.out.mono HBr.out.size)
      have HKB : Hid (Blk W2 wr.heap.size #[.int .i64 X, .int .i64 Y, .int .i64 R] 45) := by (show Blk _ _ _ _); rw [HW2.out]; exact Blk.new _ _ _
      obtain ⟨s10, s11⟩ := HKS.out W2 HX2.out
      clear hrd ht hot
      go_upto_region 4 with fail
      rw [← HW2.out]
      clear hc0 hc1 hc2
      have HCN := cv_conI1 wr.heap.size (fun d => withinD d (X, Y, R)) s.ia s.il s.ic s.ins W2 (HSI.out.below HX2.out) (by have := HS4.out; omega) (fun w' A C D hb hm => cv_insUnder1 A C D X Y R wr.heap.size w' (HKB.out.stay hb) (HOI.out _ hm) HOT.out)
      rw [show (s.ins.any fun d => withinD d (X, Y, R)) = B from HBB.out.symm] at HCN
      go_wp2_with fail
      refine HCN.mono ?_
      rintro e w3 ⟨rfl, hb3⟩
      have HX3 : Hid (Below W1.heap.size W1 w3) := HX2.out.trans (hb3.mono HX2.out.size)
      have HXF : Hid (Below w.heap.size w w3) := HX1.out.trans (HX3.out.mono HX1.out.size)
      clear hb3 HCN s10 s11
      cases B with
      | true =>
        go_wp2
        go_roundw
        case rel => exact ⟨i + 1, by omega, by go_num, HTK, HX3⟩
        case measure => (simp [intOf]; omega)
      | false =>
        have HEF : Hid (E = false) := HAN.out rfl
        go_wp2
        go_returns
        exact ⟨by rw [HEF.out]; rfl, HXF.out⟩
    · have hnl : ¬ (i : Int) < (qn : Int) := by omega
      have HAN : Hid (E = true) := by
        (show _ = _)
        have h1 := HT.out
        rw [List.take_of_length_le (by rw [HQ.out.size]; omega)] at h1
        rw [HE.out]
        exact h1
      have HXF : Hid (Below w.heap.size w wr) := HX1.out.trans (HBr.out.mono HX1.out.size)
      go_wp2
      go_returns
      exact ⟨by rw [HAN.out]; rfl, HXF.out⟩
set_option maxHeartbeats 8000000 in
theorem cv_outsUnder (s q : Sq) (w : World) (hsi : DcsRd w s.ia s.il s.ins) (hso : DcsRd w s.oa s.ol s.outs) (hq : DcsRd w q.oa q.ol q.outs) (hs4 : s.il ≤ 4 ∧ s.ol ≤ 4) (hq4 : q.ol ≤ 4) (hoi : ∀ t ∈ s.ins, OkD t) (hoo : ∀ t ∈ s.outs, OkD t) (hqo : ∀ t ∈ q.outs, OkD t) : Calls Tryz.prog 38 #[.agg (sqc s).toArray, .agg (sqc q).toArray] w fun e w' => e = .returned (.bool (outsU s.ins s.outs q.outs)) ∧ Below w.heap.size w w' := by
  obtain ⟨W1, HW1⟩ : ∃ W1, Hid (W1 = (w.alloc (.cells (sqc s).toArray 40)).alloc (.cells (sqc q).toArray 40)) := ⟨_, rfl⟩
  have HX1 : Hid (Below w.heap.size w W1) := by (show Below _ _ _); rw [HW1.out]; exact below_two _ _ _
  have HK0 : Hid (Blk W1 w.heap.size (sqc s).toArray 40) := by (show Blk _ _ _ _); rw [HW1.out]; exact blk_two0 _ _ _ _
  have HK1 : Hid (Blk W1 (w.heap.size + 1) (sqc q).toArray 40) := by (show Blk _ _ _ _); rw [HW1.out]; exact blk_two1 _ _ _ _
  have HSI : Hid (DcsRd W1 s.ia s.il s.ins) := hsi.below HX1.out
  have HSO : Hid (DcsRd W1 s.oa s.ol s.outs) := hso.below HX1.out
  have HQ : Hid (DcsRd W1 q.oa q.ol q.outs) := hq.below HX1.out
  have HS4 : Hid (s.il ≤ 4 ∧ s.ol ≤ 4) := hs4
  have HOI : Hid (∀ t ∈ s.ins, OkD t) := hoi
  have HOO : Hid (∀ t ∈ s.outs, OkD t) := hoo
  have HQO : Hid (∀ t ∈ q.outs, OkD t) := hqo
  obtain ⟨E, HE⟩ : ∃ E, Hid (E = q.outs.all (fun hole => (s.outs.any fun d => withinD hole d) || (s.ins.any fun d => apartD hole d))) := ⟨_, rfl⟩
  have HEE : Hid (outsU s.ins s.outs q.outs = E) := HE.out.symm
  rw [HEE.out]
  have k1 : W1.cell? ⟨w.heap.size + 1, 11, none⟩ = some (.slice q.oa q.ol q.oc) := HK1.out.cell 11 rfl
  have HKS : Hid (∀ w', Below W1.heap.size W1 w' → w'.cell? ⟨w.heap.size, 10, none⟩ = some (.slice s.ia s.il s.ic) ∧ w'.cell? ⟨w.heap.size, 11, none⟩ = some (.slice s.oa s.ol s.oc)) := fun w' hb => ⟨(HK0.out.stay hb).cell 10 rfl, (HK0.out.stay hb).cell 11 rfl⟩
  obtain ⟨ql, HQL⟩ : ∃ ql, Hid (ql = q.outs) := ⟨_, rfl⟩
  rw [← HQL.out] at HQ HQO HE
  obtain ⟨qa, hqa⟩ : ∃ qa, qa = q.oa := ⟨_, rfl⟩
  obtain ⟨qn, hqn⟩ : ∃ qn, qn = q.ol := ⟨_, rfl⟩
  obtain ⟨qc, hqc⟩ : ∃ qc, qc = q.oc := ⟨_, rfl⟩
  rw [← hqa, ← hqn] at HQ
  rw [← hqn] at hq4
  rw [← hqa, ← hqn, ← hqc] at k1
  clear hsi hso hq hs4 hoi hoo hqo hqa hqn hqc HEE HQL HK1
  go_enter Tryz.func38, Tryz.ntmps38
  go_upto_region 1 with fail
  rw [← HW1.out]
  go_wp2_with fail
  clear k1
  go_loopw [11] (fun t10 wr => ∃ (i : Nat), i ≤ qn ∧ t10 = .int .i64 (i : Int) ∧ Hid ((ql.take i).all (fun hole => (s.outs.any fun d => withinD hole d) || (s.ins.any fun d => apartD hole d)) = true) ∧ Hid (Below W1.heap.size W1 wr)) (fun t10 _ => qn - (intOf t10).toNat)
  case atStart => exact ⟨0, Nat.zero_le _, rfl, rfl, Below.refl _ _⟩
  case round =>
    obtain ⟨i, hi, rfl, HT, HBr⟩ := hrel
    by_cases hlt : i < qn
    · have hlt' : (i : Int) < (qn : Int) := by omega
      have hge : (0 : Int) ≤ (i : Int) := by omega
      have hrd := HQ.out.below HBr.out
      obtain ⟨t, ht⟩ : ∃ t, ql[i]? = some t := ⟨_, List.getElem?_eq_getElem (by rw [HQ.out.size]; exact hlt)⟩
      have hot := HQO.out t (List.mem_of_getElem? ht)
      obtain ⟨g, off, rfl, hc0, hc1, hc2⟩ : ∃ g off, qa = some ⟨g, off, none⟩ ∧ wr.cell? ⟨g, off + i * 3, none⟩ = some (.int .i64 t.1) ∧ wr.cell? ⟨g, off + i * 3 + 1, none⟩ = some (.int .i64 t.2.1) ∧ wr.cell? ⟨g, off + i * 3 + 2, none⟩ = some (.int .i64 t.2.2) := by
        rcases hrd.cells with h0 | ⟨g, off, ha, _, hc⟩
        · omega
        · exact ⟨g, off, ha, (hc i t ht).1, (hc i t ht).2.1, (hc i t ht).2.2⟩
      have HLI : Hid (ql[i]? = some t) := ht
      obtain ⟨X, Y, R⟩ := t
      simp only at hc0 hc1 hc2
      have HOT : Hid (OkD (X, Y, R)) := hot
      obtain ⟨B, HBB⟩ : ∃ B, Hid (B = ((s.outs.any fun d => withinD (X, Y, R) d) || (s.ins.any fun d => apartD (X, Y, R) d))) := ⟨_, rfl⟩
      have HTK : Hid ((ql.take (i + 1)).all (fun hole => (s.outs.any fun d => withinD hole d) || (s.ins.any fun d => apartD hole d)) = B) := by
        (show _ = _)
        rw [List.take_add_one, HLI.out, List.all_append, HT.out, HBB.out]
        simp
      have HAN : Hid (B = false → E = false) := by
        intro hB
        rw [HE.out, List.all_eq_false]
        exact ⟨(X, Y, R), List.mem_of_getElem? HLI.out, by rw [← HBB.out, hB]; simp⟩
      obtain ⟨W2, HW2⟩ : ∃ W2, Hid (W2 = wr.alloc (.cells #[.int .i64 X, .int .i64 Y, .int .i64 R] 45)) := ⟨_, rfl⟩
      have HY2 : Hid (Below wr.heap.size wr W2) := by (show Below _ _ _); rw [HW2.out]; exact below_alloc _ _
      have HX2 : Hid (Below W1.heap.size W1 W2) := HBr.out.trans (HY2.out.mono HBr.out.size)
      have HKB : Hid (Blk W2 wr.heap.size #[.int .i64 X, .int .i64 Y, .int .i64 R] 45) := by (show Blk _ _ _ _); rw [HW2.out]; exact Blk.new _ _ _
      obtain ⟨s10, s11⟩ := HKS.out W2 HX2.out
      clear hrd ht hot
      go_upto_region 4 with fail
      rw [← HW2.out]
      clear hc0 hc1 hc2
      have HCN := cv_conO1 wr.heap.size (fun d => withinD (X, Y, R) d) s.oa s.ol s.oc s.outs W2 (HSO.out.below HX2.out) (by have := HS4.out; omega) (fun w' A C D hb hm => cv_outsUnder1 A C D X Y R wr.heap.size w' (HKB.out.stay hb) (HOO.out _ hm) HOT.out)
      obtain ⟨B1, HB1⟩ : ∃ B1, Hid (B1 = s.outs.any fun d => withinD (X, Y, R) d) := ⟨_, rfl⟩
      rw [← HB1.out] at HCN
      go_wp2_with fail
      refine HCN.mono ?_
      rintro e w3 ⟨rfl, hb3⟩
      have HX3 : Hid (Below W1.heap.size W1 w3) := HX2.out.trans (hb3.mono HX2.out.size)
      have HXF : Hid (Below w.heap.size w w3) := HX1.out.trans (HX3.out.mono HX1.out.size)
      have HK3 : Hid (Blk w3 wr.heap.size #[.int .i64 X, .int .i64 Y, .int .i64 R] 45) := HKB.out.stay hb3
      clear hb3 HCN s10 s11
      obtain ⟨s10, s11⟩ := HKS.out w3 HX3.out
      cases B1 with
      | true =>
        have HBT : Hid (B = true) := by (show _ = _); rw [HBB.out, ← HB1.out]; rfl
        go_wp2
        go_roundw
        case rel => exact ⟨i + 1, by omega, by go_num, (by (show _ = _); rw [HTK.out, HBT.out]), HX3⟩
        case measure => (simp [intOf]; omega)
      | false =>
        have HCM := cv_conO2 wr.heap.size (fun d => apartD (X, Y, R) d) s.ia s.il s.ic s.ins w3 (HSI.out.below HX3.out) (by have := HS4.out; omega) (fun w' A C D hb hm => cv_outsUnder2 A C D X Y R wr.heap.size w' (HK3.out.stay hb) (HOI.out _ hm) HOT.out)
        have HBX : Hid ((s.ins.any fun d => apartD (X, Y, R) d) = B) := by (show _ = _); rw [HBB.out, ← HB1.out]; rfl
        rw [HBX.out] at HCM
        go_wp2_with fail
        refine HCM.mono ?_
        rintro e w4 ⟨rfl, hb4⟩
        have HX4 : Hid (Below W1.heap.size W1 w4) := HX3.out.trans (hb4.mono HX3.out.size)
        have HXG : Hid (Below w.heap.size w w4) := HX1.out.trans (HX4.out.mono HX1.out.size)
        clear hb4 HCM s10 s11
        cases B with
        | true =>
          go_wp2
          go_roundw
          case rel => exact ⟨i + 1, by omega, by go_num, HTK, HX4⟩
          case measure => (simp [intOf]; omega)
        | false =>
          have HEF : Hid (E = false) := HAN.out rfl
          go_wp2
          go_returns
          exact ⟨by rw [HEF.out]; rfl, HXG.out⟩
    · have hnl : ¬ (i : Int) < (qn : Int) := by omega
      have HAN : Hid (E = true) := by
        (show _ = _)
        have h1 := HT.out
        rw [List.take_of_length_le (by rw [HQ.out.size]; omega)] at h1
        rw [HE.out]
        exact h1
      have HXF : Hid (Below w.heap.size w wr) := HX1.out.trans (HBr.out.mono HX1.out.size)
      go_wp2
      go_returns
      exact ⟨by rw [HAN.out]; rfl, HXF.out⟩
end Go.Proofs.YtnfeklebfnlgkaaGreat
