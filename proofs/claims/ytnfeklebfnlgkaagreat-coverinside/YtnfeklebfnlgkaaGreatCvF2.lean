/- cover: middle, middles, liesWithin, liesApart of discs that may be. -/
import Derived.Test.YtnfeklebfnlgkaaGreatCvF1
import Derived.Deep.QuietTactic
import Derived.BigQuiet
namespace Go.Proofs.YtnfeklebfnlgkaaGreat
set_option maxRecDepth 100000
open Go.RowKit

theorem results_middle {w : World} {tmps : Array Value} {g : Nat} {cs : List Value} (h2 : tmps[2]?.getD undef = .pointer (some ⟨g, 0, none⟩)) (k : Blk w g cs.toArray 54) (hl : cs.length = 5) : (results Tryz.f92 tmps).run Tryz.prog w = .ok (.agg cs.toArray) w := by
  have hr := run_loadVar_mid (P := Tryz.prog) w g 0 54 cs _ (k.range 0 cs (fun j v hj => by simpa using hj)) Tryz.underlying54 rfl (by rw [hl]; exact info_Value)
  simp [results, Tryz.results92, h2, hr, asAddr]
set_option maxHeartbeats 2000000 in
theorem cv_middle (X Y R : Int) (w : World) : Calls Tryz.prog 92 #[.agg #[.int .i64 X, .int .i64 Y, .int .i64 R]] w fun e w' => e = .returned (.agg #[.int .i64 4, .int .i64 0, .string ⟨#[]⟩, .bool false, .complex .f64 (floatOfInt .f64 X) (floatOfInt .f64 Y)]) ∧ Below w.heap.size w w' := by
  obtain ⟨W1, HW1⟩ : ∃ W1, Hid (W1 = (w.alloc (.cells #[.int .i64 X, .int .i64 Y, .int .i64 R] 45)).alloc (.cells #[.int .i64 0, .int .i64 0, .string ⟨#[]⟩, .bool false, .complex .f64 0 0] 54)) := ⟨_, rfl⟩
  have HX1 : Hid (Below w.heap.size w W1) := by (show Below _ _ _); rw [HW1.out]; exact below_two _ _ _
  have HK0 : Hid (Blk W1 w.heap.size #[.int .i64 X, .int .i64 Y, .int .i64 R] 45) := by (show Blk _ _ _ _); rw [HW1.out]; exact blk_two0 _ _ _ _
  have HK1 : Hid (Blk W1 (w.heap.size + 1) [.int .i64 0, .int .i64 0, .string ⟨#[]⟩, .bool false, .complex .f64 0 0].toArray 54) := by (show Blk _ _ _ _); rw [HW1.out]; exact blk_two1 _ _ _ _
  have c0 : W1.cell? ⟨w.heap.size, 0, none⟩ = some (.int .i64 X) := HK0.out.cell 0 rfl
  have c1 : W1.cell? ⟨w.heap.size, 1, none⟩ = some (.int .i64 Y) := HK0.out.cell 1 rfl
  go_enter Tryz.func92, Tryz.ntmps92
  go_upto_region 1 with fail
  rw [← HW1.out]
  go_wp2_with (guard_target =~ wpList _ _ _ (Oper.mk none _ _ _ _ _ :: _) _ _; refine wpList_store_all rfl 54 (.tmp 2) (.tmp 10) rfl (w.heap.size + 1) [.int .i64 4, .int .i64 0, .string ⟨#[]⟩, .bool false, .complex .f64 (floatOfInt .f64 X) (floatOfInt .f64 Y)] rfl rfl _ 54 HK1.out rfl info_Value (by intro v hv; simp only [List.mem_cons, List.not_mem_nil, or_false] at hv; rcases hv with rfl | rfl | rfl | rfl | rfl <;> rfl) ?_)
  intro w' hk hg
  have HX2 : Hid (Below w.heap.size w w') := below_set HX1.out hg (by omega) HX1.out.size
  have HK2 : Hid (Blk w' (w.heap.size + 1) [.int .i64 4, .int .i64 0, .string ⟨#[]⟩, .bool false, .complex .f64 (floatOfInt .f64 X) (floatOfInt .f64 Y)].toArray 54) := hk
  clear hk hg c0 c1
  go_wp2
  refine bodyPost_ret (results_middle (by rfl) HK2.out rfl) rfl ?_
  exact ⟨rfl, HX2.out⟩
/-- The square of how far the middles of two discs are apart. -/
def farD (a b : Int × Int × Int) : Int := (a.1 - b.1) * (a.1 - b.1) + (a.2.1 - b.2.1) * (a.2.1 - b.2.1)
def withinD (a b : Int × Int × Int) : Bool := decide (a.2.2 ≤ b.2.2) && decide (farD a b ≤ (b.2.2 - a.2.2) * (b.2.2 - a.2.2))
def apartD (a b : Int × Int × Int) : Bool := decide ((a.2.2 + b.2.2) * (a.2.2 + b.2.2) < farD a b)
/-- A disc that may be. -/
def OkD (t : Int × Int × Int) : Prop := near t.1 ∧ near t.2.1 ∧ 0 ≤ t.2.2 ∧ t.2.2 ≤ 1048576
theorem okD_of {t : Int × Int × Int} (h : badD t = false) : OkD t := by
  obtain ⟨x, y, r⟩ := t
  unfold badD partB at h
  simp only [Bool.or_eq_false_iff, Bool.not_eq_false', Bool.and_eq_true, decide_eq_true_eq, decide_eq_false_iff_not] at h
  exact ⟨h.1.1.1, h.1.1.2, by simp only; omega, by simp only; omega⟩
theorem far_bound {a b : Int × Int × Int} (ha : OkD a) (hb : OkD b) : 0 ≤ farD a b ∧ farD a b ≤ 8796093022208 := by
  obtain ⟨x, y, r⟩ := a
  obtain ⟨u, v, s⟩ := b
  obtain ⟨h1, h2, _⟩ := ha
  obtain ⟨h3, h4, _⟩ := hb
  unfold near at h1 h2 h3 h4
  simp only at h1 h2 h3 h4
  have b1 : (x - u).natAbs ≤ 2097152 := by omega
  have b2 : (y - v).natAbs ≤ 2097152 := by omega
  have q1 : ((x - u) * (x - u)).natAbs ≤ 4398046511104 := by rw [Int.natAbs_mul]; exact Nat.mul_le_mul b1 b1
  have q2 : ((y - v) * (y - v)).natAbs ≤ 4398046511104 := by rw [Int.natAbs_mul]; exact Nat.mul_le_mul b2 b2
  have p1 := Flt.sq_nonneg (x - u)
  have p2 := Flt.sq_nonneg (y - v)
  unfold farD
  simp only
  omega
set_option maxHeartbeats 4000000 in
theorem cv_middles (X Y R U V S : Int) (w : World) (ha : OkD (X, Y, R)) (hb : OkD (U, V, S)) : Calls Tryz.prog 77 #[.agg #[.int .i64 X, .int .i64 Y, .int .i64 R], .agg #[.int .i64 U, .int .i64 V, .int .i64 S]] w fun e w' => e = .returned (.int .i64 (farD (X, Y, R) (U, V, S))) ∧ Below w.heap.size w w' := by
  obtain ⟨W1, HW1⟩ : ∃ W1, Hid (W1 = (w.alloc (.cells #[.int .i64 X, .int .i64 Y, .int .i64 R] 45)).alloc (.cells #[.int .i64 U, .int .i64 V, .int .i64 S] 45)) := ⟨_, rfl⟩
  have HX1 : Hid (Below w.heap.size w W1) := by (show Below _ _ _); rw [HW1.out]; exact below_two _ _ _
  have HK0 : Hid (Blk W1 w.heap.size #[.int .i64 X, .int .i64 Y, .int .i64 R] 45) := by (show Blk _ _ _ _); rw [HW1.out]; exact blk_two0 _ _ _ _
  have HK1 : Hid (Blk W1 (w.heap.size + 1) #[.int .i64 U, .int .i64 V, .int .i64 S] 45) := by (show Blk _ _ _ _); rw [HW1.out]; exact blk_two1 _ _ _ _
  have HSK : Hid (∀ w', Below W1.heap.size W1 w' → w'.cell? ⟨w.heap.size, 0, none⟩ = some (.int .i64 X) ∧ w'.cell? ⟨w.heap.size, 1, none⟩ = some (.int .i64 Y) ∧ w'.cell? ⟨w.heap.size, 2, none⟩ = some (.int .i64 R) ∧ w'.cell? ⟨w.heap.size + 1, 0, none⟩ = some (.int .i64 U) ∧ w'.cell? ⟨w.heap.size + 1, 1, none⟩ = some (.int .i64 V) ∧ w'.cell? ⟨w.heap.size + 1, 2, none⟩ = some (.int .i64 S)) := by
    intro w' hb
    have k := HK0.out.stay hb
    have m := HK1.out.stay hb
    exact ⟨k.cell 0 rfl, k.cell 1 rfl, k.cell 2 rfl, m.cell 0 rfl, m.cell 1 rfl, m.cell 2 rfl⟩
  have HA := fun W => value_Apart X Y U V W ha.1 ha.2.1 hb.1 hb.2.1
  obtain ⟨F, HFF⟩ : ∃ F, Hid (F = farD (X, Y, R) (U, V, S)) := ⟨_, rfl⟩
  rw [show (X - U) * (X - U) + (Y - V) * (Y - V) = F from HFF.out.symm] at HA
  rw [← HFF.out]
  have HAP : Hid (∀ W, Calls Tryz.prog 91 #[.agg #[.int .i64 4, .int .i64 0, .string ⟨#[]⟩, .bool false, .complex .f64 (floatOfInt .f64 X) (floatOfInt .f64 Y)], .agg #[.int .i64 4, .int .i64 0, .string ⟨#[]⟩, .bool false, .complex .f64 (floatOfInt .f64 U) (floatOfInt .f64 V)]] W fun e w' => e = .returned (.tuple #[.int .i64 F, .int .i64 0]) ∧ Below W.heap.size W w') := HA
  clear HA ha hb
  go_enter Tryz.func77, Tryz.ntmps77
  go_upto_region 1 with fail
  rw [← HW1.out]
  have HB : Hid (Below W1.heap.size W1 W1.drew) := (Below.refl _ _).drew
  go_region_held3 (fun w' => w'.cell? ⟨w.heap.size, 0, none⟩ = some (.int .i64 X) ∧ w'.cell? ⟨w.heap.size, 1, none⟩ = some (.int .i64 Y) ∧ w'.cell? ⟨w.heap.size, 2, none⟩ = some (.int .i64 R) ∧ w'.cell? ⟨w.heap.size + 1, 0, none⟩ = some (.int .i64 U) ∧ w'.cell? ⟨w.heap.size + 1, 1, none⟩ = some (.int .i64 V) ∧ w'.cell? ⟨w.heap.size + 1, 2, none⟩ = some (.int .i64 S)) (first | exact HSK.out _ HB.out | exact HSK.out _ (Below.refl _ _).drew | exact HSK.out _ (Below.refl _ _) | fail)
    (first
      | (go_at_call 92; refine (cv_middle _ _ _ _).mono ?_; rintro e w3 ⟨rfl, hb3⟩; have HB' : Hid (Below W1.heap.size W1 w3) := HB.out.trans (hb3.mono HB.out.size); clear hb3 HB; have HB := HB'; clear HB')
      | (go_at_call 91; refine (HAP.out _).mono ?_; rintro e w5 ⟨rfl, hb5⟩; have HB' : Hid (Below W1.heap.size W1 w5) := HB.out.trans (hb5.mono HB.out.size); clear hb5 HB; have HB := HB'; clear HB'))
  all_goals (
    have HX5 : Hid (Below w.heap.size w w5) := HX1.out.trans (HB.out.mono HX1.out.size)
    go_wp2
    go_returns
    exact ⟨rfl, HX5.out⟩)
set_option maxHeartbeats 4000000 in
theorem cv_liesApart (X Y R U V S : Int) (w : World) (ha : OkD (X, Y, R)) (hb : OkD (U, V, S)) : Calls Tryz.prog 58 #[.agg #[.int .i64 X, .int .i64 Y, .int .i64 R], .agg #[.int .i64 U, .int .i64 V, .int .i64 S]] w fun e w' => e = .returned (.bool (apartD (X, Y, R) (U, V, S))) ∧ Below w.heap.size w w' := by
  obtain ⟨W1, HW1⟩ : ∃ W1, Hid (W1 = (w.alloc (.cells #[.int .i64 X, .int .i64 Y, .int .i64 R] 45)).alloc (.cells #[.int .i64 U, .int .i64 V, .int .i64 S] 45)) := ⟨_, rfl⟩
  have HX1 : Hid (Below w.heap.size w W1) := by (show Below _ _ _); rw [HW1.out]; exact below_two _ _ _
  have HK0 : Hid (Blk W1 w.heap.size #[.int .i64 X, .int .i64 Y, .int .i64 R] 45) := by (show Blk _ _ _ _); rw [HW1.out]; exact blk_two0 _ _ _ _
  have HK1 : Hid (Blk W1 (w.heap.size + 1) #[.int .i64 U, .int .i64 V, .int .i64 S] 45) := by (show Blk _ _ _ _); rw [HW1.out]; exact blk_two1 _ _ _ _
  have HSK : Hid (∀ w', Below W1.heap.size W1 w' → w'.cell? ⟨w.heap.size, 0, none⟩ = some (.int .i64 X) ∧ w'.cell? ⟨w.heap.size, 1, none⟩ = some (.int .i64 Y) ∧ w'.cell? ⟨w.heap.size, 2, none⟩ = some (.int .i64 R) ∧ w'.cell? ⟨w.heap.size + 1, 0, none⟩ = some (.int .i64 U) ∧ w'.cell? ⟨w.heap.size + 1, 1, none⟩ = some (.int .i64 V) ∧ w'.cell? ⟨w.heap.size + 1, 2, none⟩ = some (.int .i64 S)) := by
    intro w' hb
    have k := HK0.out.stay hb
    have m := HK1.out.stay hb
    exact ⟨k.cell 0 rfl, k.cell 1 rfl, k.cell 2 rfl, m.cell 0 rfl, m.cell 1 rfl, m.cell 2 rfl⟩
  have HA := fun W => cv_middles X Y R U V S W ha hb
  obtain ⟨F, HFF⟩ : ∃ F, Hid (F = farD (X, Y, R) (U, V, S)) := ⟨_, rfl⟩
  rw [← HFF.out] at HA
  have HAP : Hid (∀ W, Calls Tryz.prog 77 #[.agg #[.int .i64 X, .int .i64 Y, .int .i64 R], .agg #[.int .i64 U, .int .i64 V, .int .i64 S]] W fun e w' => e = .returned (.int .i64 F) ∧ Below W.heap.size W w') := HA
  have b1 : (R + S).natAbs ≤ 2097152 := by have h1 := ha.2.2; have h2 := hb.2.2; simp only at h1 h2; omega
  have q1 : ((R + S) * (R + S)).natAbs ≤ 4398046511104 := by rw [Int.natAbs_mul]; exact Nat.mul_le_mul b1 b1
  obtain ⟨T, HT⟩ : ∃ T, Hid (T = R + S) := ⟨_, rfl⟩
  obtain ⟨Z, HZ⟩ : ∃ Z, Hid (Z = T * T) := ⟨_, rfl⟩
  have e1 : R + S = T := HT.out.symm
  have e2 : IntKind.i64.wrap (R + S) = T := by rw [HT.out, IntKind.wrap_i64]; omega
  have e2' : IntKind.i64.wrap T = T := by rw [HT.out, IntKind.wrap_i64]; omega
  have e3 : T * T = Z := HZ.out.symm
  have e4 : IntKind.i64.wrap Z = Z := by rw [HZ.out, HT.out, IntKind.wrap_i64]; omega
  have HRES : Hid (apartD (X, Y, R) (U, V, S) = decide (Z < F)) := by (show _ = _); rw [apartD, HFF.out, HZ.out, HT.out]
  rw [HRES.out]
  clear HA ha hb b1 q1
  go_enter Tryz.func58, Tryz.ntmps58
  go_upto_region 1 with fail
  rw [← HW1.out]
  have HB : Hid (Below W1.heap.size W1 W1.drew) := (Below.refl _ _).drew
  go_region_held3 (fun w' => w'.cell? ⟨w.heap.size, 0, none⟩ = some (.int .i64 X) ∧ w'.cell? ⟨w.heap.size, 1, none⟩ = some (.int .i64 Y) ∧ w'.cell? ⟨w.heap.size, 2, none⟩ = some (.int .i64 R) ∧ w'.cell? ⟨w.heap.size + 1, 0, none⟩ = some (.int .i64 U) ∧ w'.cell? ⟨w.heap.size + 1, 1, none⟩ = some (.int .i64 V) ∧ w'.cell? ⟨w.heap.size + 1, 2, none⟩ = some (.int .i64 S)) (first | exact HSK.out _ HB.out | exact HSK.out _ (Below.refl _ _).drew | exact HSK.out _ (Below.refl _ _) | fail)
    (first
      | (go_at_call 77; refine (HAP.out _).mono ?_; rintro e w5 ⟨rfl, hb5⟩; have HB' : Hid (Below W1.heap.size W1 w5) := HB.out.trans (hb5.mono HB.out.size); clear hb5 HB; have HB := HB'; clear HB'))
  all_goals (
    have HX5 : Hid (Below w.heap.size w w5) := HX1.out.trans (HB.out.mono HX1.out.size)
    go_wp2
    go_returns
    exact ⟨rfl, HX5.out⟩)
set_option maxHeartbeats 4000000 in
theorem cv_liesWithin (X Y R U V S : Int) (w : World) (ha : OkD (X, Y, R)) (hb : OkD (U, V, S)) : Calls Tryz.prog 55 #[.agg #[.int .i64 X, .int .i64 Y, .int .i64 R], .agg #[.int .i64 U, .int .i64 V, .int .i64 S]] w fun e w' => e = .returned (.bool (withinD (X, Y, R) (U, V, S))) ∧ Below w.heap.size w w' := by
  obtain ⟨W1, HW1⟩ : ∃ W1, Hid (W1 = (w.alloc (.cells #[.int .i64 X, .int .i64 Y, .int .i64 R] 45)).alloc (.cells #[.int .i64 U, .int .i64 V, .int .i64 S] 45)) := ⟨_, rfl⟩
  have HX1 : Hid (Below w.heap.size w W1) := by (show Below _ _ _); rw [HW1.out]; exact below_two _ _ _
  have HK0 : Hid (Blk W1 w.heap.size #[.int .i64 X, .int .i64 Y, .int .i64 R] 45) := by (show Blk _ _ _ _); rw [HW1.out]; exact blk_two0 _ _ _ _
  have HK1 : Hid (Blk W1 (w.heap.size + 1) #[.int .i64 U, .int .i64 V, .int .i64 S] 45) := by (show Blk _ _ _ _); rw [HW1.out]; exact blk_two1 _ _ _ _
  have HSK : Hid (∀ w', Below W1.heap.size W1 w' → w'.cell? ⟨w.heap.size, 0, none⟩ = some (.int .i64 X) ∧ w'.cell? ⟨w.heap.size, 1, none⟩ = some (.int .i64 Y) ∧ w'.cell? ⟨w.heap.size, 2, none⟩ = some (.int .i64 R) ∧ w'.cell? ⟨w.heap.size + 1, 0, none⟩ = some (.int .i64 U) ∧ w'.cell? ⟨w.heap.size + 1, 1, none⟩ = some (.int .i64 V) ∧ w'.cell? ⟨w.heap.size + 1, 2, none⟩ = some (.int .i64 S)) := by
    intro w' hb
    have k := HK0.out.stay hb
    have m := HK1.out.stay hb
    exact ⟨k.cell 0 rfl, k.cell 1 rfl, k.cell 2 rfl, m.cell 0 rfl, m.cell 1 rfl, m.cell 2 rfl⟩
  by_cases hRS : R ≤ S
  · have HA := fun W => cv_middles X Y R U V S W ha hb
    obtain ⟨F, HFF⟩ : ∃ F, Hid (F = farD (X, Y, R) (U, V, S)) := ⟨_, rfl⟩
    rw [← HFF.out] at HA
    have HAP : Hid (∀ W, Calls Tryz.prog 77 #[.agg #[.int .i64 X, .int .i64 Y, .int .i64 R], .agg #[.int .i64 U, .int .i64 V, .int .i64 S]] W fun e w' => e = .returned (.int .i64 F) ∧ Below W.heap.size W w') := HA
    have b1 : (S - R).natAbs ≤ 2097152 := by have h1 := ha.2.2; have h2 := hb.2.2; simp only at h1 h2; omega
    have q1 : ((S - R) * (S - R)).natAbs ≤ 4398046511104 := by rw [Int.natAbs_mul]; exact Nat.mul_le_mul b1 b1
    obtain ⟨T, HT⟩ : ∃ T, Hid (T = S - R) := ⟨_, rfl⟩
    obtain ⟨Z, HZ⟩ : ∃ Z, Hid (Z = T * T) := ⟨_, rfl⟩
    have e1 : S - R = T := HT.out.symm
    have e2 : IntKind.i64.wrap (S - R) = T := by rw [HT.out, IntKind.wrap_i64]; omega
    have e2' : IntKind.i64.wrap T = T := by rw [HT.out, IntKind.wrap_i64]; omega
    have e3 : T * T = Z := HZ.out.symm
    have e4 : IntKind.i64.wrap Z = Z := by rw [HZ.out, HT.out, IntKind.wrap_i64]; omega
    have HRES : Hid (withinD (X, Y, R) (U, V, S) = decide (F ≤ Z)) := by (show _ = _); rw [withinD, HFF.out, HZ.out, HT.out, decide_eq_true hRS]; rfl
    rw [HRES.out]
    have hd : decide (R ≤ S) = true := decide_eq_true hRS
    clear HA ha hb b1 q1
    go_enter Tryz.func55, Tryz.ntmps55
    go_upto_region 1 with fail
    rw [← HW1.out]
    have HB : Hid (Below W1.heap.size W1 W1.drew) := (Below.refl _ _).drew
    go_region_held3 (fun w' => w'.cell? ⟨w.heap.size, 0, none⟩ = some (.int .i64 X) ∧ w'.cell? ⟨w.heap.size, 1, none⟩ = some (.int .i64 Y) ∧ w'.cell? ⟨w.heap.size, 2, none⟩ = some (.int .i64 R) ∧ w'.cell? ⟨w.heap.size + 1, 0, none⟩ = some (.int .i64 U) ∧ w'.cell? ⟨w.heap.size + 1, 1, none⟩ = some (.int .i64 V) ∧ w'.cell? ⟨w.heap.size + 1, 2, none⟩ = some (.int .i64 S)) (first | exact HSK.out _ HB.out | exact HSK.out _ (Below.refl _ _).drew | exact HSK.out _ (Below.refl _ _) | fail)
      (first
        | (go_at_call 77; refine (HAP.out _).mono ?_; rintro e w5 ⟨rfl, hb5⟩; have HB' : Hid (Below W1.heap.size W1 w5) := HB.out.trans (hb5.mono HB.out.size); clear hb5 HB; have HB := HB'; clear HB'))
    all_goals (
      have HX5 : Hid (Below w.heap.size w w5) := HX1.out.trans (HB.out.mono HX1.out.size)
      go_wp2
      go_returns
      exact ⟨rfl, HX5.out⟩)
  · have HRES : Hid (withinD (X, Y, R) (U, V, S) = false) := by (show _ = _); rw [withinD, decide_eq_false hRS]; rfl
    rw [HRES.out]
    have hd : decide (R ≤ S) = false := decide_eq_false hRS
    obtain ⟨k0, k1, k2, m0, m1, m2⟩ := HSK.out W1 (Below.refl _ _)
    clear ha hb
    go_enter Tryz.func55, Tryz.ntmps55
    go_upto_region 1 with fail
    rw [← HW1.out]
    go_quiet (fail)
    generalize hnq : W1.drewN _ = w2
    have HX5 : Hid (Below w.heap.size w w2) := by (show Below _ _ _); rw [← hnq]; exact HX1.out.trans ((⟨rfl, rfl, rfl, Nat.le_refl _, fun _ _ => rfl⟩ : Below W1.heap.size W1 (W1.drewN _)).mono HX1.out.size)
    clear hnq
    go_wp2
    go_returns
    exact ⟨rfl, HX5.out⟩
end Go.Proofs.YtnfeklebfnlgkaaGreat
