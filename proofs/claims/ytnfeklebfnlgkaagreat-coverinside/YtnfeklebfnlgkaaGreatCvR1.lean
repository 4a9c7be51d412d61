/- cover: the reference's far, Within, Apart, Nothing. -/
import Derived.Test.YtnfeklebfnlgkaaGreatCvF4
namespace Go.Proofs.YtnfeklebfnlgkaaGreat
set_option maxRecDepth 100000
open Go.RowKit

set_option maxHeartbeats 4000000 in
theorem ref_far (X Y R U V S : Int) (w : World) (ha : OkD (X, Y, R)) (hb : OkD (U, V, S)) : Calls Tryz.prog 59 #[.agg #[.int .i64 X, .int .i64 Y, .int .i64 R], .agg #[.int .i64 U, .int .i64 V, .int .i64 S]] w fun e w' => e = .returned (.int .i64 (farD (X, Y, R) (U, V, S))) ∧ Below w.heap.size w w' := by
  obtain ⟨W1, HW1⟩ : ∃ W1, Hid (W1 = (w.alloc (.cells #[.int .i64 X, .int .i64 Y, .int .i64 R] 45)).alloc (.cells #[.int .i64 U, .int .i64 V, .int .i64 S] 45)) := ⟨_, rfl⟩
  have HX1 : Hid (Below w.heap.size w W1) := by (show Below _ _ _); rw [HW1.out]; exact below_two _ _ _
  have HK0 : Hid (Blk W1 w.heap.size #[.int .i64 X, .int .i64 Y, .int .i64 R] 45) := by (show Blk _ _ _ _); rw [HW1.out]; exact blk_two0 _ _ _ _
  have HK1 : Hid (Blk W1 (w.heap.size + 1) #[.int .i64 U, .int .i64 V, .int .i64 S] 45) := by (show Blk _ _ _ _); rw [HW1.out]; exact blk_two1 _ _ _ _
  have c0 : W1.cell? ⟨w.heap.size, 0, none⟩ = some (.int .i64 X) := HK0.out.cell 0 rfl
  have c1 : W1.cell? ⟨w.heap.size, 1, none⟩ = some (.int .i64 Y) := HK0.out.cell 1 rfl
  have d0 : W1.cell? ⟨w.heap.size + 1, 0, none⟩ = some (.int .i64 U) := HK1.out.cell 0 rfl
  have d1 : W1.cell? ⟨w.heap.size + 1, 1, none⟩ = some (.int .i64 V) := HK1.out.cell 1 rfl
  have b1 : (X - U).natAbs ≤ 2097152 := by have h1 := ha.1; have h2 := hb.1; unfold near at h1 h2; simp only at h1 h2; omega
  have b2 : (Y - V).natAbs ≤ 2097152 := by have h1 := ha.2.1; have h2 := hb.2.1; unfold near at h1 h2; simp only at h1 h2; omega
  have q1 : ((X - U) * (X - U)).natAbs ≤ 4398046511104 := by rw [Int.natAbs_mul]; exact Nat.mul_le_mul b1 b1
  have q2 : ((Y - V) * (Y - V)).natAbs ≤ 4398046511104 := by rw [Int.natAbs_mul]; exact Nat.mul_le_mul b2 b2
  obtain ⟨D1, HD1⟩ : ∃ T, Hid (T = X - U) := ⟨_, rfl⟩
  obtain ⟨D2, HD2⟩ : ∃ T, Hid (T = Y - V) := ⟨_, rfl⟩
  obtain ⟨Q1, HQ1⟩ : ∃ T, Hid (T = D1 * D1) := ⟨_, rfl⟩
  obtain ⟨Q2, HQ2⟩ : ∃ T, Hid (T = D2 * D2) := ⟨_, rfl⟩
  obtain ⟨F, HF⟩ : ∃ T, Hid (T = Q1 + Q2) := ⟨_, rfl⟩
  have HFF : Hid (farD (X, Y, R) (U, V, S) = F) := by (show _ = _); rw [HF.out, HQ1.out, HQ2.out, HD1.out, HD2.out]; rfl
  rw [HFF.out]
  have e1 : X - U = D1 := HD1.out.symm
  have e1' : IntKind.i64.wrap D1 = D1 := by rw [HD1.out, IntKind.wrap_i64]; omega
  have e2 : Y - V = D2 := HD2.out.symm
  have e2' : IntKind.i64.wrap D2 = D2 := by rw [HD2.out, IntKind.wrap_i64]; omega
  have e3 : D1 * D1 = Q1 := HQ1.out.symm
  have e3' : IntKind.i64.wrap Q1 = Q1 := by rw [HQ1.out, HD1.out, IntKind.wrap_i64]; omega
  have e4 : D2 * D2 = Q2 := HQ2.out.symm
  have e4' : IntKind.i64.wrap Q2 = Q2 := by rw [HQ2.out, HD2.out, IntKind.wrap_i64]; omega
  have e5 : Q1 + Q2 = F := HF.out.symm
  have e5' : IntKind.i64.wrap F = F := by rw [HF.out, HQ1.out, HQ2.out, HD1.out, HD2.out, IntKind.wrap_i64]; omega
  clear ha hb b1 b2 q1 q2
  go_enter Tryz.func59, Tryz.ntmps59
  go_upto_region 1 with fail
  rw [← HW1.out]
  go_wp2
  go_returns
  exact ⟨rfl, HX1.out⟩
set_option maxHeartbeats 4000000 in
theorem ref_Within (X Y R U V S : Int) (w : World) (ha : OkD (X, Y, R)) (hb : OkD (U, V, S)) : Calls Tryz.prog 41 #[.agg #[.int .i64 X, .int .i64 Y, .int .i64 R], .agg #[.int .i64 U, .int .i64 V, .int .i64 S]] w fun e w' => e = .returned (.bool (withinD (X, Y, R) (U, V, S))) ∧ Below w.heap.size w w' := by
  obtain ⟨W1, HW1⟩ : ∃ W1, Hid (W1 = (w.alloc (.cells #[.int .i64 X, .int .i64 Y, .int .i64 R] 45)).alloc (.cells #[.int .i64 U, .int .i64 V, .int .i64 S] 45)) := ⟨_, rfl⟩
  have HX1 : Hid (Below w.heap.size w W1) := by (show Below _ _ _); rw [HW1.out]; exact below_two _ _ _
  have HK0 : Hid (Blk W1 w.heap.size #[.int .i64 X, .int .i64 Y, .int .i64 R] 45) := by (show Blk _ _ _ _); rw [HW1.out]; exact blk_two0 _ _ _ _
  have HK1 : Hid (Blk W1 (w.heap.size + 1) #[.int .i64 U, .int .i64 V, .int .i64 S] 45) := by (show Blk _ _ _ _); rw [HW1.out]; exact blk_two1 _ _ _ _
  have c0 : W1.cell? ⟨w.heap.size, 0, none⟩ = some (.int .i64 X) := HK0.out.cell 0 rfl
  have c1 : W1.cell? ⟨w.heap.size, 1, none⟩ = some (.int .i64 Y) := HK0.out.cell 1 rfl
  have c2 : W1.cell? ⟨w.heap.size, 2, none⟩ = some (.int .i64 R) := HK0.out.cell 2 rfl
  have d0 : W1.cell? ⟨w.heap.size + 1, 0, none⟩ = some (.int .i64 U) := HK1.out.cell 0 rfl
  have d1 : W1.cell? ⟨w.heap.size + 1, 1, none⟩ = some (.int .i64 V) := HK1.out.cell 1 rfl
  have d2 : W1.cell? ⟨w.heap.size + 1, 2, none⟩ = some (.int .i64 S) := HK1.out.cell 2 rfl
  have HC := ref_far X Y R U V S W1 ha hb
  obtain ⟨F, HFF⟩ : ∃ F, Hid (F = farD (X, Y, R) (U, V, S)) := ⟨_, rfl⟩
  rw [← HFF.out] at HC
  have b1 : (S - R).natAbs ≤ 2097152 := by have h1 := ha.2.2; have h2 := hb.2.2; simp only at h1 h2; omega
  have q1 : ((S - R) * (S - R)).natAbs ≤ 4398046511104 := by rw [Int.natAbs_mul]; exact Nat.mul_le_mul b1 b1
  obtain ⟨T, HT⟩ : ∃ T, Hid (T = S - R) := ⟨_, rfl⟩
  obtain ⟨Z, HZ⟩ : ∃ Z, Hid (Z = T * T) := ⟨_, rfl⟩
  have e1 : S - R = T := HT.out.symm
  have e2 : IntKind.i64.wrap T = T := by rw [HT.out, IntKind.wrap_i64]; omega
  have e3 : T * T = Z := HZ.out.symm
  have e4 : IntKind.i64.wrap Z = Z := by rw [HZ.out, HT.out, IntKind.wrap_i64]; omega
  by_cases hRS : R ≤ S
  · have HRES : Hid (withinD (X, Y, R) (U, V, S) = decide (F ≤ Z)) := by (show _ = _); rw [withinD, HFF.out, HZ.out, HT.out, decide_eq_true hRS]; rfl
    rw [HRES.out]
    have h0 : 0 ≤ T := by rw [HT.out]; omega
    clear ha hb b1 q1 hRS
    go_enter Tryz.func41, Tryz.ntmps41
    go_upto_region 1 with fail
    rw [← HW1.out]
    go_wp2_with fail
    refine HC.mono ?_
    rintro e w2 ⟨rfl, hb2⟩
    have HX2 : Hid (Below w.heap.size w w2) := HX1.out.trans (hb2.mono HX1.out.size)
    clear hb2 HC
    go_wp2
    go_returns
    exact ⟨rfl, HX2.out⟩
  · have HRES : Hid (withinD (X, Y, R) (U, V, S) = false) := by (show _ = _); rw [withinD, decide_eq_false hRS]; rfl
    rw [HRES.out]
    have h0 : ¬ 0 ≤ T := by rw [HT.out]; omega
    clear ha hb b1 q1 hRS HC
    go_enter Tryz.func41, Tryz.ntmps41
    go_upto_region 1 with fail
    rw [← HW1.out]
    go_wp2
    go_returns
    exact ⟨rfl, HX1.out⟩
set_option maxHeartbeats 4000000 in
theorem ref_Apart (X Y R U V S : Int) (w : World) (ha : OkD (X, Y, R)) (hb : OkD (U, V, S)) : Calls Tryz.prog 42 #[.agg #[.int .i64 X, .int .i64 Y, .int .i64 R], .agg #[.int .i64 U, .int .i64 V, .int .i64 S]] w fun e w' => e = .returned (.bool (apartD (X, Y, R) (U, V, S))) ∧ Below w.heap.size w w' := by
  obtain ⟨W1, HW1⟩ : ∃ W1, Hid (W1 = (w.alloc (.cells #[.int .i64 X, .int .i64 Y, .int .i64 R] 45)).alloc (.cells #[.int .i64 U, .int .i64 V, .int .i64 S] 45)) := ⟨_, rfl⟩
  have HX1 : Hid (Below w.heap.size w W1) := by (show Below _ _ _); rw [HW1.out]; exact below_two _ _ _
  have HK0 : Hid (Blk W1 w.heap.size #[.int .i64 X, .int .i64 Y, .int .i64 R] 45) := by (show Blk _ _ _ _); rw [HW1.out]; exact blk_two0 _ _ _ _
  have HK1 : Hid (Blk W1 (w.heap.size + 1) #[.int .i64 U, .int .i64 V, .int .i64 S] 45) := by (show Blk _ _ _ _); rw [HW1.out]; exact blk_two1 _ _ _ _
  have c0 : W1.cell? ⟨w.heap.size, 0, none⟩ = some (.int .i64 X) := HK0.out.cell 0 rfl
  have c1 : W1.cell? ⟨w.heap.size, 1, none⟩ = some (.int .i64 Y) := HK0.out.cell 1 rfl
  have c2 : W1.cell? ⟨w.heap.size, 2, none⟩ = some (.int .i64 R) := HK0.out.cell 2 rfl
  have d0 : W1.cell? ⟨w.heap.size + 1, 0, none⟩ = some (.int .i64 U) := HK1.out.cell 0 rfl
  have d1 : W1.cell? ⟨w.heap.size + 1, 1, none⟩ = some (.int .i64 V) := HK1.out.cell 1 rfl
  have d2 : W1.cell? ⟨w.heap.size + 1, 2, none⟩ = some (.int .i64 S) := HK1.out.cell 2 rfl
  have HC := ref_far X Y R U V S W1 ha hb
  obtain ⟨F, HFF⟩ : ∃ F, Hid (F = farD (X, Y, R) (U, V, S)) := ⟨_, rfl⟩
  rw [← HFF.out] at HC
  have b1 : (R + S).natAbs ≤ 2097152 := by have h1 := ha.2.2; have h2 := hb.2.2; simp only at h1 h2; omega
  have q1 : ((R + S) * (R + S)).natAbs ≤ 4398046511104 := by rw [Int.natAbs_mul]; exact Nat.mul_le_mul b1 b1
  obtain ⟨T, HT⟩ : ∃ T, Hid (T = R + S) := ⟨_, rfl⟩
  obtain ⟨Z, HZ⟩ : ∃ Z, Hid (Z = T * T) := ⟨_, rfl⟩
  have e1 : R + S = T := HT.out.symm
  have e2 : IntKind.i64.wrap T = T := by rw [HT.out, IntKind.wrap_i64]; omega
  have e3 : T * T = Z := HZ.out.symm
  have e4 : IntKind.i64.wrap Z = Z := by rw [HZ.out, HT.out, IntKind.wrap_i64]; omega
  have HRES : Hid (apartD (X, Y, R) (U, V, S) = decide (Z < F)) := by (show _ = _); rw [apartD, HFF.out, HZ.out, HT.out]
  rw [HRES.out]
  clear ha hb b1 q1
  go_enter Tryz.func42, Tryz.ntmps42
  go_upto_region 1 with fail
  rw [← HW1.out]
  go_wp2_with fail
  refine HC.mono ?_
  rintro e w2 ⟨rfl, hb2⟩
  have HX2 : Hid (Below w.heap.size w w2) := HX1.out.trans (hb2.mono HX1.out.size)
  clear hb2 HC
  go_wp2
  go_returns
  exact ⟨rfl, HX2.out⟩
set_option maxHeartbeats 4000000 in
theorem ref_Nothing (s : Sq) (w : World) (hk : 1 ≤ s.kd ∧ s.kd ≤ 4) (ht : 0 ≤ s.tr ∧ s.tr ≤ 255) : Calls Tryz.prog 40 #[.agg (sqc s).toArray] w fun e w' => e = .returned (.bool (nothS s)) ∧ Below w.heap.size w w' := by
  have HB : Hid (Below w.heap.size w (w.alloc (.cells (sqc s).toArray 40))) := below_alloc w _
  have HK : Hid (Blk (w.alloc (.cells (sqc s).toArray 40)) w.heap.size (sqc s).toArray 40) := Blk.new w _ _
  obtain ⟨W1, HW1⟩ : ∃ W1, Hid (W1 = w.alloc (.cells (sqc s).toArray 40)) := ⟨_, rfl⟩
  rw [← HW1.out] at HB HK
  have c1 : W1.cell? ⟨w.heap.size, 1, none⟩ = some (.int .i64 s.kd) := HK.out.cell 1 rfl
  have h4 : s.kd = 1 ∨ s.kd = 2 ∨ s.kd = 3 ∨ s.kd = 4 := by omega
  have HTR : Hid (0 ≤ s.tr ∧ s.tr ≤ 255) := ht
  clear hk ht
  rcases h4 with h4 | h4 | h4 | h4
  · have HN : Hid (nothS s = decide (s.hi < s.lo)) := by (show _ = _); rw [nothS, if_pos h4]
    rw [HN.out]
    rw [h4] at c1
    clear h4
    have c3 : W1.cell? ⟨w.heap.size, 3, none⟩ = some (.int .i64 s.lo) := HK.out.cell 3 rfl
    have c4 : W1.cell? ⟨w.heap.size, 4, none⟩ = some (.int .i64 s.hi) := HK.out.cell 4 rfl
    go_enter Tryz.func40, Tryz.ntmps40
    go_upto_region 1 with fail
    rw [← HW1.out]
    go_wp2
    go_returns
    exact ⟨rfl, HB.out⟩
  · have HN : Hid (nothS s = (!s.op && !Op.bytesLess s.fr.toList s.to.toList)) := by (show _ = _); rw [nothS, if_neg (by omega), if_pos h4]
    rw [HN.out]
    rw [h4] at c1
    clear h4
    have c5 : W1.cell? ⟨w.heap.size, 5, none⟩ = some (.string s.fr) := HK.out.cell 5 rfl
    have c6 : W1.cell? ⟨w.heap.size, 6, none⟩ = some (.string s.to) := HK.out.cell 6 rfl
    have c7 : W1.cell? ⟨w.heap.size, 7, none⟩ = some (.bool s.op) := HK.out.cell 7 rfl
    obtain ⟨op, HOP⟩ : ∃ b, Hid (b = s.op) := ⟨_, rfl⟩
    rw [← HOP.out] at c7 ⊢
    cases op with
    | true =>
      go_enter Tryz.func40, Tryz.ntmps40
      go_upto_region 1 with fail
      rw [← HW1.out]
      go_wp2
      go_returns
      exact ⟨rfl, HB.out⟩
    | false =>
      go_enter Tryz.func40, Tryz.ntmps40
      go_upto_region 1 with fail
      rw [← HW1.out]
      go_wp2
      go_returns
      exact ⟨rfl, HB.out⟩
  · have HN : Hid (nothS s = decide (s.tr % 4 = 0)) := by (show _ = _); rw [nothS, if_neg (by omega), if_neg (by omega), if_pos h4]
    rw [HN.out]
    rw [h4] at c1
    clear h4
    have c8 : W1.cell? ⟨w.heap.size, 8, none⟩ = some (.int .u8 s.tr) := HK.out.cell 8 rfl
    obtain ⟨T, HT⟩ : ∃ T, Hid (T = s.tr) := ⟨_, rfl⟩
    rw [← HT.out] at c8 HTR ⊢
    obtain ⟨M, HM⟩ : ∃ M, Hid (M = Int.tmod T 4) := ⟨_, rfl⟩
    have e1 : Int.tmod T 4 = M := HM.out.symm
    have e2 : IntKind.u8.wrap M = M := by
      have := HTR.out
      rw [HM.out, Int.tmod_eq_emod_of_nonneg this.1, IntKind.wrap_u8]
      omega
    have HE : Hid ((M == 0) = decide (T % 4 = 0)) := by
      (show _ = _)
      rw [HM.out, Int.tmod_eq_emod_of_nonneg HTR.out.1]
      by_cases h : T % 4 = 0
      · rw [h]; rfl
      · rw [decide_eq_false h, beq_eq_false_iff_ne]; exact h
    rw [← HE.out]
    go_enter Tryz.func40, Tryz.ntmps40
    go_upto_region 1 with fail
    rw [← HW1.out]
    go_wp2
    go_returns
    exact ⟨rfl, HB.out⟩
  · have HN : Hid (nothS s = s.no) := by (show _ = _); rw [nothS, if_neg (by omega), if_neg (by omega), if_neg (by omega)]
    rw [HN.out]
    rw [h4] at c1
    clear h4
    have c9 : W1.cell? ⟨w.heap.size, 9, none⟩ = some (.bool s.no) := HK.out.cell 9 rfl
    go_enter Tryz.func40, Tryz.ntmps40
    go_upto_region 1 with fail
    rw [← HW1.out]
    go_wp2
    go_returns
    exact ⟨rfl, HB.out⟩
end Go.Proofs.YtnfeklebfnlgkaaGreat
