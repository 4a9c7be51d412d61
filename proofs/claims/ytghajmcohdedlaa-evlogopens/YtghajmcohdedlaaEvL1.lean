/- evlog: lay, empty. -/
import Derived.Test.YtghajmcohdedlaaEvM1
import Derived.Deep.Cut
import Derived.Deep.RegionHeld3
namespace Go.Proofs.Ytghajmcohdedlaa
open Go.RowKit

/-- The array, step by step. -/
theorem layE_row (k : Nat) (b : Bool) (p : List Nat) (hp : p.length ≤ 59) (Y : List Value) (hY : Y = (((((List.replicate 64 (Value.int .u8 0)).set 0 (.int .u8 231)).set 1 (.int .u8 (k : Int))).set 2 (.int .u8 (p.length : Int))).set 3 (.int .u8 (if b = true then 1 else 0)))) :
    (splice Y 4 (vb p)).set 63 (.int .u8 231) = vb (layE k b p) := by
  have e : Y = .int .u8 231 :: .int .u8 (k : Int) :: .int .u8 (p.length : Int) :: .int .u8 (if b = true then 1 else 0) :: List.replicate 60 (Value.int .u8 0) := by rw [hY]; rfl
  have hl : (vb p).length = p.length := vb_length p
  unfold splice
  rw [e, hl]
  have e1 : (Value.int .u8 231 :: .int .u8 (k : Int) :: .int .u8 (p.length : Int) :: .int .u8 (if b = true then 1 else 0) :: List.replicate 60 (Value.int .u8 0)).take 4 = [.int .u8 231, .int .u8 (k : Int), .int .u8 (p.length : Int), .int .u8 (if b = true then 1 else 0)] := rfl
  have e2 : (Value.int .u8 231 :: .int .u8 (k : Int) :: .int .u8 (p.length : Int) :: .int .u8 (if b = true then 1 else 0) :: List.replicate 60 (Value.int .u8 0)).drop (4 + p.length) = List.replicate (59 - p.length) (Value.int .u8 0) ++ [.int .u8 0] := by
    rw [Nat.add_comm 4 p.length]
    show (List.replicate 60 (Value.int .u8 0)).drop p.length = _
    rw [List.drop_replicate, ← List.replicate_succ']
    congr 1
    omega
  rw [e1, e2, List.set_append_right _ _ (show 4 ≤ 63 by omega), List.set_append_right _ _ (by rw [hl]; exact hp), List.set_append_right _ _ (by rw [List.length_replicate, hl]; exact Nat.le_refl _)]
  have e4 : 63 - [Value.int .u8 231, .int .u8 (k : Int), .int .u8 (p.length : Int), .int .u8 (if b = true then 1 else 0)].length - (vb p).length - (List.replicate (59 - p.length) (Value.int .u8 0)).length = 0 := by
    rw [List.length_replicate, hl]
    show 59 - p.length - (59 - p.length) = 0
    omega
  rw [e4]
  unfold layE vb
  cases b <;> simp

set_option maxRecDepth 100000 in
set_option maxHeartbeats 4000000 in
theorem evl_lay (k : Nat) (b : Bool) (a : Option Addr) (n c : Nat) (p : List Nat) (w : World) (hr : Rd w a n p) (hn : n ≤ 59) :
    Calls Try.prog 53 #[.agg #[.int .u8 (k : Int), .bool b, .slice a n c]] w fun e w' => ∃ q, e = .returned (.slice (some ⟨q, 0, none⟩) 64 64) ∧ w.heap.size ≤ q ∧ Blk w' q (vb (layE k b p)).toArray 69 ∧ Below w.heap.size w w' := by
  obtain ⟨Z, HZ⟩ : ∃ Z : List Value, Hid (Z = List.replicate 64 (Value.int .u8 0)) := ⟨_, rfl⟩
  have HZI : Hid ((Try.prog.info? 69).map (fun i => (i.zero, i.size)) = some (some (.agg Z.toArray), 64)) := by show _ = _; rw [HZ.out]; exact infoArr
  have HZL : Hid (Z.length = 64) := by show _ = _; rw [HZ.out]; simp
  have HRD : Hid (Rd w a n p) := hr
  have HPL : Hid (p.length = n) := hr.size
  have qn : IntKind.u8.wrap (n : Int) = (n : Int) := by rw [IntKind.wrap_u8]; omega
  clear hr
  go_enter Try.func53, Try.ntmps53
  go_wp2_with (guard_target =~ wpList _ _ _ (Oper.mk (some 3) _ _ _ _ _ :: _) _ _; refine wpList_alloc_row rfl 69 rfl Z 64 HZI.out ?_)
  intro w1 hk1 hb1 hs1
  have HE1 : Hid (Blk w1 w.heap.size #[.int .u8 (k : Int), .bool b, .slice a n c] 110) := (Blk.new w _ _).stay (by simpa using hb1)
  have HB1 : Hid (Below w.heap.size w w1) := (below_alloc w _).trans (hb1.mono (by simp))
  have HK1 : Hid (Blk w1 (w.heap.size + 1) Z.toArray 69) := hk1
  have z0 : w1.cell? ⟨w.heap.size + 1, 0, none⟩ = some (.int .u8 0) := hk1.cell 0 (by rw [HZ.out]; rfl)
  have z1 : w1.cell? ⟨w.heap.size + 1, 1, none⟩ = some (.int .u8 0) := hk1.cell 1 (by rw [HZ.out]; rfl)
  have z2 : w1.cell? ⟨w.heap.size + 1, 2, none⟩ = some (.int .u8 0) := hk1.cell 2 (by rw [HZ.out]; rfl)
  have z3 : w1.cell? ⟨w.heap.size + 1, 3, none⟩ = some (.int .u8 0) := hk1.cell 3 (by rw [HZ.out]; rfl)
  have f0 := hk1.free 0
  have f1 := hk1.free 1
  have f2 := hk1.free 2
  have f3 := hk1.free 3
  have p0 : w1.cell? ⟨w.heap.size, 0, none⟩ = some (.int .u8 (k : Int)) := HE1.out.cell 0 rfl
  have p1 : w1.cell? ⟨w.heap.size, 1, none⟩ = some (.bool b) := HE1.out.cell 1 rfl
  have p2 : w1.cell? ⟨w.heap.size, 2, none⟩ = some (.slice a n c) := HE1.out.cell 2 rfl
  clear hk1 hb1 hs1
  have HEND : Hid (∀ (W : World) (Y : List Value), Y = (((((List.replicate 64 (Value.int .u8 0)).set 0 (.int .u8 231)).set 1 (.int .u8 (k : Int))).set 2 (.int .u8 (p.length : Int))).set 3 (.int .u8 (if b = true then 1 else 0))) → Blk W (w.heap.size + 1) ((splice Y 4 (vb p)).set 63 (.int .u8 231)).toArray 69 → Blk W (w.heap.size + 1) (vb (layE k b p)).toArray 69) := fun W Y hY hk => by
    rw [layE_row k b p (by rw [HPL.out]; exact hn) Y hY] at hk
    exact hk
  cases b with
  | true =>
    go_upto_region 7 with fail
    generalize hw2 : World.setCell _ _ _ = w2
    obtain ⟨Y, HY⟩ : ∃ Y : List Value, Hid (Y = (((Z.set 0 (.int .u8 231)).set 1 (.int .u8 (k : Int))).set 2 (.int .u8 (n : Int))).set 3 (.int .u8 1)) := ⟨_, rfl⟩
    have HYL : Hid (Y.length = 64) := by show _ = _; rw [HY.out]; simp [HZL.out]
    have HK2 : Hid (Blk w2 (w.heap.size + 1) Y.toArray 69) := by
      show Blk _ _ _ _
      rw [← hw2, HY.out]
      have := (((HK1.out.set 0 (.int .u8 231)).set 1 (.int .u8 (k : Int))).set 2 (.int .u8 (n : Int))).set 3 (.int .u8 1)
      simpa using this
    have HE2 : Hid (Blk w2 w.heap.size #[.int .u8 (k : Int), .bool true, .slice a n c] 110) := by
      show Blk _ _ _ _
      rw [← hw2]
      exact (((HE1.out.other _ _ (by simp)).other _ _ (by simp)).other _ _ (by simp)).other _ _ (by simp)
    have HB2 : Hid (Below w.heap.size w w2) := by
      show Below _ _ _
      rw [← hw2]
      exact (((HB1.out.setCell (Nat.le_succ _) _).setCell (Nat.le_succ _) _).setCell (Nat.le_succ _) _).setCell (Nat.le_succ _) _
    have HYE : Hid (Y = (((((List.replicate 64 (Value.int .u8 0)).set 0 (.int .u8 231)).set 1 (.int .u8 (k : Int))).set 2 (.int .u8 (p.length : Int))).set 3 (.int .u8 (if true = true then 1 else 0)))) := by
      show _ = _
      rw [HY.out, HZ.out, HPL.out]
      rfl
    clear hw2 z0 z1 z2 z3 f0 f1 f2 f3 p0 p1 p2 qn HK1 HE1 HB1
    have c2 : w2.drew.cell? ⟨w.heap.size, 2, none⟩ = some (.slice a n c) := HE2.out.cell 2 rfl
    have HKD : Hid (Blk w2.drew (w.heap.size + 1) Y.toArray 69) := HK2.out
    have HRD2 : Hid (Rd w2.drew a n p) := HRD.out.below (HB2.out.drew)
    have HSRC : Hid (0 < (vb p).length → (some (⟨w.heap.size + 1, 4, none⟩ : Addr)) = some ⟨w.heap.size + 1, 4, none⟩ ∧ ∃ ad, a = some ad ∧ ∀ j v, (vb p)[j]? = some v → w2.drew.cell? (ad.add j) = some v) := fun h0 => by
      have hn0 : 0 < n := by rw [vb_length, HPL.out] at h0; exact h0
      refine ⟨rfl, ?_⟩
      rcases HRD2.out.cells with h | ⟨bb, off, ha, _⟩
      · omega
      · subst ha
        exact ⟨_, rfl, HRD2.out.srcs hn0⟩
    go_region_held3 (fun w' => w'.cell? ⟨w.heap.size, 2, none⟩ = some (.slice a n c)) (first | exact c2 | exact c4 | fail)
      (first
        | (guard_target =~ (if Region.wanted (Oper.mk (some 19) _ _ _ _ _) _ = true then _ else _); refine step_copy_fr rfl (.tmp 16) (.tmp 18) 49 49 rfl 5 Try.underlying49 infoByteSz (some ⟨w.heap.size + 1, 4, none⟩) a 60 60 n c rfl rfl (w.heap.size + 1) 4 Y 69 HKD.out (vb p) (by rw [vb_length, HPL.out]; show n = min n 60; omega) HSRC.out (by rw [vb_length, HPL.out, HYL.out]; omega) (vb_one' _) ?_; intro w4 hk4 hg4; have c4 : w4.cell? ⟨w.heap.size, 2, none⟩ = some (.slice a n c) := cell_far hg4 c2 (by simp)))
    obtain ⟨X, HX⟩ : ∃ X : List Value, Hid (X = splice Y 4 (vb p)) := ⟨_, rfl⟩
    rw [← HX.out] at hk4
    have HXL : Hid (X.length = 64) := by show _ = _; rw [HX.out, splice_length _ _ _ (by rw [vb_length, HPL.out, HYL.out]; omega), HYL.out]
    have HK4 : Hid (Blk w4 (w.heap.size + 1) X.toArray 69) := hk4
    have HB4 : Hid (Below w.heap.size w w4) := (HB2.out.drew).trans ((Below.refl _ _).grown hg4 HB2.out.size (fun k hk => by simp only [Option.some.injEq] at hk; omega))
    obtain ⟨z, z6⟩ : ∃ z, w4.cell? ⟨w.heap.size + 1, 63, none⟩ = some z := ⟨X[63]'(by rw [HXL.out]; omega), hk4.cell 63 (by simp)⟩
    have f6 := hk4.free 63
    clear hk4 hg4 c2 c4
    go_wp2
    go_ret
    refine ⟨w.heap.size + 1, rfl, by omega, HEND.out _ Y HYE.out ?_, HB4.out.setCell (Nat.le_succ _) _⟩
    rw [← HX.out]
    have := HK4.out.set 63 (.int .u8 231)
    simpa using this
  | false =>
    go_upto_region 7 with fail
    generalize hw2 : World.setCell _ _ _ = w2
    obtain ⟨Y, HY⟩ : ∃ Y : List Value, Hid (Y = ((Z.set 0 (.int .u8 231)).set 1 (.int .u8 (k : Int))).set 2 (.int .u8 (n : Int))) := ⟨_, rfl⟩
    have HYL : Hid (Y.length = 64) := by show _ = _; rw [HY.out]; simp [HZL.out]
    have HK2 : Hid (Blk w2 (w.heap.size + 1) Y.toArray 69) := by
      show Blk _ _ _ _
      rw [← hw2, HY.out]
      have := ((HK1.out.set 0 (.int .u8 231)).set 1 (.int .u8 (k : Int))).set 2 (.int .u8 (n : Int))
      simpa using this
    have HE2 : Hid (Blk w2 w.heap.size #[.int .u8 (k : Int), .bool false, .slice a n c] 110) := by
      show Blk _ _ _ _
      rw [← hw2]
      exact ((HE1.out.other _ _ (by simp)).other _ _ (by simp)).other _ _ (by simp)
    have HB2 : Hid (Below w.heap.size w w2) := by
      show Below _ _ _
      rw [← hw2]
      exact ((HB1.out.setCell (Nat.le_succ _) _).setCell (Nat.le_succ _) _).setCell (Nat.le_succ _) _
    have HYE : Hid (Y = (((((List.replicate 64 (Value.int .u8 0)).set 0 (.int .u8 231)).set 1 (.int .u8 (k : Int))).set 2 (.int .u8 (p.length : Int))).set 3 (.int .u8 (if false = true then 1 else 0)))) := by
      show _ = _
      rw [HY.out, HZ.out, HPL.out]
      rfl
    clear hw2 z0 z1 z2 z3 f0 f1 f2 f3 p0 p1 p2 qn HK1 HE1 HB1
    have c2 : w2.drew.cell? ⟨w.heap.size, 2, none⟩ = some (.slice a n c) := HE2.out.cell 2 rfl
    have HKD : Hid (Blk w2.drew (w.heap.size + 1) Y.toArray 69) := HK2.out
    have HRD2 : Hid (Rd w2.drew a n p) := HRD.out.below (HB2.out.drew)
    have HSRC : Hid (0 < (vb p).length → (some (⟨w.heap.size + 1, 4, none⟩ : Addr)) = some ⟨w.heap.size + 1, 4, none⟩ ∧ ∃ ad, a = some ad ∧ ∀ j v, (vb p)[j]? = some v → w2.drew.cell? (ad.add j) = some v) := fun h0 => by
      have hn0 : 0 < n := by rw [vb_length, HPL.out] at h0; exact h0
      refine ⟨rfl, ?_⟩
      rcases HRD2.out.cells with h | ⟨bb, off, ha, _⟩
      · omega
      · subst ha
        exact ⟨_, rfl, HRD2.out.srcs hn0⟩
    go_region_held3 (fun w' => w'.cell? ⟨w.heap.size, 2, none⟩ = some (.slice a n c)) (first | exact c2 | exact c4 | fail)
      (first
        | (guard_target =~ (if Region.wanted (Oper.mk (some 19) _ _ _ _ _) _ = true then _ else _); refine step_copy_fr rfl (.tmp 16) (.tmp 18) 49 49 rfl 5 Try.underlying49 infoByteSz (some ⟨w.heap.size + 1, 4, none⟩) a 60 60 n c rfl rfl (w.heap.size + 1) 4 Y 69 HKD.out (vb p) (by rw [vb_length, HPL.out]; show n = min n 60; omega) HSRC.out (by rw [vb_length, HPL.out, HYL.out]; omega) (vb_one' _) ?_; intro w4 hk4 hg4; have c4 : w4.cell? ⟨w.heap.size, 2, none⟩ = some (.slice a n c) := cell_far hg4 c2 (by simp)))
    obtain ⟨X, HX⟩ : ∃ X : List Value, Hid (X = splice Y 4 (vb p)) := ⟨_, rfl⟩
    rw [← HX.out] at hk4
    have HXL : Hid (X.length = 64) := by show _ = _; rw [HX.out, splice_length _ _ _ (by rw [vb_length, HPL.out, HYL.out]; omega), HYL.out]
    have HK4 : Hid (Blk w4 (w.heap.size + 1) X.toArray 69) := hk4
    have HB4 : Hid (Below w.heap.size w w4) := (HB2.out.drew).trans ((Below.refl _ _).grown hg4 HB2.out.size (fun k hk => by simp only [Option.some.injEq] at hk; omega))
    obtain ⟨z, z6⟩ : ∃ z, w4.cell? ⟨w.heap.size + 1, 63, none⟩ = some z := ⟨X[63]'(by rw [HXL.out]; omega), hk4.cell 63 (by simp)⟩
    have f6 := hk4.free 63
    clear hk4 hg4 c2 c4
    go_wp2
    go_ret
    refine ⟨w.heap.size + 1, rfl, by omega, HEND.out _ Y HYE.out ?_, HB4.out.setCell (Nat.le_succ _) _⟩
    rw [← HX.out]
    have := HK4.out.set 63 (.int .u8 231)
    simpa using this

set_option maxRecDepth 100000 in
theorem evl_empty (a : Option Addr) (n c : Nat) (s : List Nat) (w : World) (hr : Rd w a n s) : Calls Try.prog 68 #[.slice a n c] w fun e w' => e = .returned (.bool (decide (s = List.replicate 64 0))) ∧ Below w.heap.size w w' := by
  obtain ⟨w1, HW1⟩ : ∃ w1, Hid (w1 = w.alloc (.cells (vb (List.replicate 64 0)).toArray 5)) := ⟨_, rfl⟩
  have HB1 : Hid (Below w.heap.size w w1) := by (show Below _ _ _); rw [HW1.out]; exact below_alloc _ _
  have HR1 : Hid (Rd w1 a n s) := hr.below HB1.out
  have HK1 : Hid (Rd w1 (some ⟨w.heap.size, 0, none⟩) 64 (List.replicate 64 0)) := by
    have hk : Blk w1 w.heap.size (vb (List.replicate 64 0)).toArray 5 := by rw [HW1.out]; exact Blk.new _ _ _
    have := Rd.of_blk hk (fun b hb => by rw [List.eq_of_mem_replicate hb]; omega)
    rw [List.length_replicate] at this
    exact this
  have HMK : Hid (∀ w' : World, (Instr.makeSlice 49 (.int .i64 64) (.int .i64 64)).run Try.prog w' = .ok (.slice (some ⟨w'.heap.size, 0, none⟩) 64 64) (w'.alloc (.cells (vb (List.replicate 64 0)).toArray 5))) := fun w' => by kernel_rfl
  have hmk := HMK.out w
  rw [← HW1.out] at hmk
  clear hr
  go_enter Try.func68, Try.ntmps68
  go_wp2_with fail
  refine (bytes_Equal a (some ⟨w.heap.size, 0, none⟩) n c 64 64 s (List.replicate 64 0) w1 HR1.out HK1.out).mono ?_
  rintro e w2 ⟨he, hw2⟩
  subst he
  rw [hw2]
  clear hw2 w2 hmk
  go_wp2
  go_ret
  exact ⟨rfl, HB1.out⟩
end Go.Proofs.Ytghajmcohdedlaa
