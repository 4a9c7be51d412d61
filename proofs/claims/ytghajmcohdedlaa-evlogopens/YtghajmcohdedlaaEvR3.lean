/- grapevineref11: free, keep where nothing is used; Open of a disk that is new, and with arguments that may not be. -/
import Derived.Test.YtghajmcohdedlaaEvR2
import Derived.Test.YtghajmcohdedlaaEvP5
namespace Go.Proofs.Ytghajmcohdedlaa
open Go.RowKit

set_option maxRecDepth 100000 in
theorem ref_free0 (w : World) (gl : Nat) (rel : Int) : Calls Try.prog 23 #[.pointer (some ⟨gl, 0, none⟩), .slice none 0 0, .int .i64 rel] w fun e w' => e = .returned (.tuple #[.int .i64 0, .int .i64 0]) ∧ w' = w := by
  go_enter Try.func23, Try.ntmps23
  go_wp2_with fail
  refine wp_loop_rounds 1 ?_
  rw [rounds_succ]
  go_wp2
  go_returns
  exact ⟨rfl, rfl⟩
set_option maxRecDepth 100000 in
set_option maxHeartbeats 2000000 in
theorem ref_keep0 (w : World) (gl r b m ag base : Nat) (hi rel : Int) (h : Lr w gl r b m ag hi rel (.slice none 0 0) (.slice none 0 0)) (hb : base ≤ gl) (t : Int) : Calls Try.prog 26 #[.pointer (some ⟨gl, 0, none⟩), .int .i64 t] w fun e w' => e = .returned (.tuple #[]) ∧ Below base w w' := by
  have HL : Hid (Lr w gl r b m ag hi rel (.slice none 0 0) (.slice none 0 0)) := h
  have HSZ : Hid (base ≤ w.heap.size) := Nat.le_trans hb (Nat.le_of_lt (Blk.lt h))
  obtain ⟨W1, HW1⟩ : ∃ W1, Hid (W1 = w.alloc (.cells #[] 66)) := ⟨_, rfl⟩
  have HX1 : Hid (Below w.heap.size w W1) := by (show Below _ _ _); rw [HW1.out]; exact below_alloc _ _
  have HL1 : Hid (Lr W1 gl r b m ag hi rel (.slice none 0 0) (.slice none 0 0)) := HL.out.stay HX1.out
  have c6 : W1.cell? ⟨gl, 6, none⟩ = some (.slice none 0 0) := Blk.cell HL1.out 6 rfl
  have hbl : base ≤ gl := hb
  clear h hb
  go_enter Try.func26, Try.ntmps26
  go_upto_region 1 with fail
  rw [← HW1.out]
  go_wp2_with fail
  refine wp_loop_rounds 1 ?_
  rw [rounds_succ]
  go_upto_region 7 with fail
  obtain ⟨W2, HW2⟩ : ∃ W2, Hid (W2 = W1.alloc (.cells #[] 78)) := ⟨_, rfl⟩
  have HX2 : Hid (Below W1.heap.size W1 W2) := by (show Below _ _ _); rw [HW2.out]; exact below_alloc _ _
  have HL2 : Hid (Lr W2 gl r b m ag hi rel (.slice none 0 0) (.slice none 0 0)) := HL1.out.stay HX2.out
  have HB2 : Hid (Below base w W2) := (HX1.out.mono HSZ.out).trans (HX2.out.mono (Nat.le_trans HSZ.out HX1.out.size))
  rw [← HW2.out]
  clear c6
  have c4 : W2.cell? ⟨gl, 4, none⟩ = some (.int .i64 hi) := Blk.cell HL2.out 4 rfl
  have c5 : W2.cell? ⟨gl, 5, none⟩ = some (.int .i64 rel) := Blk.cell HL2.out 5 rfl
  have c6 : W2.cell? ⟨gl, 6, none⟩ = some (.slice none 0 0) := Blk.cell HL2.out 6 rfl
  have c7 : W2.cell? ⟨gl, 7, none⟩ = some (.slice none 0 0) := Blk.cell HL2.out 7 rfl
  have f4 : W2.frozen? ⟨gl, 4, none⟩ = false := Blk.free HL2.out 4
  have f5 : W2.frozen? ⟨gl, 5, none⟩ = false := Blk.free HL2.out 5
  have f6 : W2.frozen? ⟨gl, 6, none⟩ = false := Blk.free HL2.out 6
  have f7 : W2.frozen? ⟨gl, 7, none⟩ = false := Blk.free HL2.out 7
  go_wp2_with fail
  refine wp_loop_rounds 1 ?_
  rw [rounds_succ]
  go_wp2
  go_returns
  exact ⟨rfl, (((HB2.out.setCell hbl _).setCell hbl _).setCell hbl _).setCell hbl _⟩
set_option maxRecDepth 100000 in
set_option maxHeartbeats 2000000 in
theorem ref_Open11_arg (w : World) (base r q : Nat) (sv wv : Value) (SV WV : List Value) (D : Dk) (b m : Int) (h : Rk w base r q sv wv SV WV D) (hdn : D.down = false) (hno : ¬ mayE D.sure.length b m) :
    Calls Try.prog 7 #[.pointer (some ⟨r, 0, none⟩), .int .i64 b, .int .i64 m] w fun e w' => e = .returned (.tuple #[.pointer none, .int .i64 2]) ∧ w' = w := by
  obtain ⟨rs, cs, rfl, _⟩ := h.form
  have hsz := h.sz
  obtain ⟨n, hn⟩ : ∃ n, n = D.sure.length := ⟨_, rfl⟩
  have c0 : w.cell? ⟨r, 0, none⟩ = some (.slice (some ⟨rs, 0, none⟩) D.sure.length cs) := h.blk.cell 0 rfl
  have c3 : w.cell? ⟨r, 3, none⟩ = some (.bool false) := by rw [← hdn]; exact h.blk.cell 3 rfl
  rw [← hn] at c0 hno hsz
  have HNO : Hid (¬ mayE n b m) := hno
  clear h hdn hn hno
  by_cases a1 : m < 2
  · go_enter Try.func7, Try.ntmps7
    go_wp2
    go_returns
    exact ⟨rfl, rfl⟩
  by_cases a2 : 16 < m
  · go_enter Try.func7, Try.ntmps7
    go_wp2
    go_returns
    exact ⟨rfl, rfl⟩
  by_cases a3 : b < 0
  · go_enter Try.func7, Try.ntmps7
    go_wp2
    go_returns
    exact ⟨rfl, rfl⟩
  obtain ⟨P, hP⟩ : ∃ P : Int, P = (n : Int) - 2 := ⟨_, rfl⟩
  obtain ⟨Q, hQ⟩ : ∃ Q : Int, Q = 16 * m := ⟨_, rfl⟩
  obtain ⟨R, hR⟩ : ∃ R : Int, R = P - Q := ⟨_, rfl⟩
  have q1 : (n : Int) - 2 = P := hP.symm
  have q2 : IntKind.i64.wrap P = P := by rw [IntKind.wrap_i64]; omega
  have q3 : 16 * m = Q := hQ.symm
  have q4 : IntKind.i64.wrap Q = Q := by rw [IntKind.wrap_i64]; omega
  have q5 : P - Q = R := hR.symm
  have q6 : IntKind.i64.wrap R = R := by rw [IntKind.wrap_i64]; omega
  have a4 : R < b := by
    rcases Int.lt_or_le R b with h | h
    · exact h
    · exact absurd (show mayE n b m from ⟨⟨by omega, by omega⟩, by omega, by omega⟩) HNO.out
  clear hP hQ hR hsz
  go_enter Try.func7, Try.ntmps7
  go_wp2
  go_returns
  exact ⟨rfl, rfl⟩
set_option maxRecDepth 100000 in
set_option maxHeartbeats 4000000 in
theorem ref_Open11_new (w : World) (base r q : Nat) (sv wv : Value) (SV WV : List Value) (N b m : Nat) (h : Rk w base r q sv wv SV WV (newD N)) (hm2 : 2 ≤ m) (hm : m ≤ 16) (hb : b + 2 + m * 16 ≤ N) (hN : N ≤ 512) :
    Calls Try.prog 7 #[.pointer (some ⟨r, 0, none⟩), .int .i64 (b : Int), .int .i64 (m : Int)] w fun e w' => Hid (∃ gl, e = .returned (.tuple #[.pointer (some ⟨gl, 0, none⟩), .int .i64 0])) ∧ Below w.heap.size w w' := by
  obtain ⟨rs, cs, rfl, _⟩ := h.form
  have HD : Hid (Rk w base r q (.slice (some ⟨rs, 0, none⟩) (newD N).sure.length cs) wv SV WV (newD N)) := h
  have hlen : (newD N).sure.length = N := by rw [newD]; simp only [List.length_replicate]
  have c0 : w.cell? ⟨r, 0, none⟩ = some (.slice (some ⟨rs, 0, none⟩) N cs) := by rw [← hlen]; exact h.blk.cell 0 rfl
  have c3 : w.cell? ⟨r, 3, none⟩ = some (.bool false) := h.blk.cell 3 rfl
  have c4 : w.cell? ⟨r, 4, none⟩ = some (.int .i64 0) := h.blk.cell 4 rfl
  obtain ⟨P, hP⟩ : ∃ P, P = N - 2 := ⟨_, rfl⟩
  obtain ⟨Q, hQ⟩ : ∃ Q, Q = 16 * m := ⟨_, rfl⟩
  obtain ⟨R, hR⟩ : ∃ R, R = P - Q := ⟨_, rfl⟩
  have a1 : ¬ (m : Int) < 2 := by omega
  have a2 : ¬ (16 : Int) < (m : Int) := by omega
  have a3 : ¬ (b : Int) < 0 := by omega
  have q1 : (N : Int) - 2 = (P : Int) := by omega
  have q2 : IntKind.i64.wrap (P : Int) = (P : Int) := by rw [IntKind.wrap_i64]; omega
  have q3 : 16 * (m : Int) = (Q : Int) := by omega
  have q4 : IntKind.i64.wrap (Q : Int) = (Q : Int) := by rw [IntKind.wrap_i64]; omega
  have q5 : (P : Int) - (Q : Int) = (R : Int) := by omega
  have q6 : IntKind.i64.wrap (R : Int) = (R : Int) := by rw [IntKind.wrap_i64]; omega
  have a4 : ¬ (R : Int) < (b : Int) := by omega
  obtain ⟨W1, HW1⟩ : ∃ W1, Hid (W1 = w.alloc (.cells #[.pointer (some ⟨r, 0, none⟩), .int .i64 (b : Int), .int .i64 (m : Int), .int .i64 0, .int .i64 0, .int .i64 0, .slice none 0 0, .slice none 0 0] 61)) := ⟨_, rfl⟩
  have HX1 : Hid (Below w.heap.size w W1) := by (show Below _ _ _); rw [HW1.out]; exact below_alloc _ _
  have HL1 : Hid (Lr W1 w.heap.size r b m 0 0 0 (.slice none 0 0) (.slice none 0 0)) := by (show Lr _ _ _ _ _ _ _ _ _ _); rw [HW1.out]; exact Blk.new _ _ _
  have HRD := ref_Read0 W1 base r q _ wv SV WV (newD N) w.heap.size b m 0 0 0 (.slice none 0 0) (.slice none 0 0) (HD.out.stay HX1.out) HL1.out (by omega) hm (fun pos hp => by
    have hlt : b + 2 + 16 * pos + 0 < N := by omega
    refine ⟨?_, by rw [newD_now N _ hlt]; rfl⟩
    unfold readE
    rw [if_neg (show ¬ ((newD N).down = true) from fun e => by cases e), if_pos]
    rw [hasB_iff, hlen]
    omega) (by rw [hlen]; omega) (newD_get N b)
  clear h hP hQ hR hlen
  go_enter Try.func7, Try.ntmps7
  go_upto_region 8 with fail
  rw [← HW1.out]
  clear c0 c3 c4 a1 a2 a3 a4 q1 q2 q3 q4 q5 q6
  go_wp2_with fail
  refine HRD.mono ?_
  rintro e w2 ⟨rfl, hb2⟩
  have HX2 : Hid (Below W1.heap.size W1 w2) := hb2
  obtain ⟨W3, HW3⟩ : ∃ W3, Hid (W3 = w2.alloc (.cells #[.int .i64 0, .int .i64 0, .slice none 0 0, .slice none 0 0] 59)) := ⟨_, rfl⟩
  have HX3 : Hid (Below w2.heap.size w2 W3) := by (show Below _ _ _); rw [HW3.out]; exact below_alloc _ _
  have HX13 : Hid (Below W1.heap.size W1 W3) := HX2.out.trans (HX3.out.mono HX2.out.size)
  have HT3 : Hid (Blk W3 w2.heap.size #[.int .i64 0, .int .i64 0, .slice none 0 0, .slice none 0 0] 59) := by (show Blk _ _ _ _); rw [HW3.out]; exact Blk.new _ _ _
  have HL3 : Hid (Lr W3 w.heap.size r b m 0 0 0 (.slice none 0 0) (.slice none 0 0)) := HL1.out.stay HX13.out
  have HB3 : Hid (Below w.heap.size w W3) := HX1.out.trans (HX13.out.mono HX1.out.size)
  clear hb2 HRD
  go_upto_region 9 with fail
  rw [← HW3.out]
  have t1 : W3.cell? ⟨w2.heap.size, 1, none⟩ = some (.int .i64 0) := HT3.out.cell 1 rfl
  have t2 : W3.cell? ⟨w2.heap.size, 2, none⟩ = some (.slice none 0 0) := HT3.out.cell 2 rfl
  go_wp2_with fail
  refine (ref_free0 W3 w.heap.size 0).mono ?_
  rintro e w0 ⟨rfl, hw⟩
  subst w0
  have HRG : Hid (W3.rangeAt w2.heap.size 0 [.int .i64 0, .int .i64 0, .slice none 0 0, .slice none 0 0]) := fun j v hj => by rw [Nat.zero_add]; exact HT3.out.cell j (by simpa using hj)
  have r0 : W3.cell? ⟨w.heap.size, 4, none⟩ = some (.int .i64 0) := Blk.cell HL3.out 4 rfl
  have r1 : W3.cell? ⟨w.heap.size, 5, none⟩ = some (.int .i64 0) := Blk.cell HL3.out 5 rfl
  have r2 : W3.cell? ⟨w.heap.size, 6, none⟩ = some (.slice none 0 0) := Blk.cell HL3.out 6 rfl
  have r3 : W3.cell? ⟨w.heap.size, 7, none⟩ = some (.slice none 0 0) := Blk.cell HL3.out 7 rfl
  have g0 : W3.frozen? ⟨w.heap.size, 4, none⟩ = false := Blk.free HL3.out 4
  have g1 : W3.frozen? ⟨w.heap.size, 5, none⟩ = false := Blk.free HL3.out 5
  have g2 : W3.frozen? ⟨w.heap.size, 6, none⟩ = false := Blk.free HL3.out 6
  have g3 : W3.frozen? ⟨w.heap.size, 7, none⟩ = false := Blk.free HL3.out 7
  obtain ⟨W4, HW4⟩ : ∃ W4, Hid (W4 = (((W3.setCell ⟨w.heap.size, 4, none⟩ (.int .i64 0)).setCell ⟨w.heap.size, 5, none⟩ (.int .i64 0)).setCell ⟨w.heap.size, 6, none⟩ (.slice none 0 0)).setCell ⟨w.heap.size, 7, none⟩ (.slice none 0 0)) := ⟨_, rfl⟩
  have HL4 : Hid (Lr W4 w.heap.size r b m 0 0 0 (.slice none 0 0) (.slice none 0 0)) := by (show Lr _ _ _ _ _ _ _ _ _ _); rw [HW4.out]; exact Blk.set (Blk.set (Blk.set (Blk.set HL3.out 4 _) 5 _) 6 _) 7 _
  have HB4 : Hid (Below w.heap.size w W4) := by (show Below _ _ _); rw [HW4.out]; exact (((HB3.out.setCell (Nat.le_refl _) _).setCell (Nat.le_refl _) _).setCell (Nat.le_refl _) _).setCell (Nat.le_refl _) _
  have HT4 : Hid (Blk W4 w2.heap.size #[.int .i64 0, .int .i64 0, .slice none 0 0, .slice none 0 0] 59) := by
    have hne : w2.heap.size ≠ w.heap.size := fun e => by have h1 := Blk.lt HL1.out; have h2 := HX2.out.size; omega
    (show Blk _ _ _ _); rw [HW4.out]; exact (((HT3.out.other _ _ hne).other _ _ hne).other _ _ hne).other _ _ hne
  go_upto_region 23 with (guard_target =~ wpList _ _ _ (Oper.mk (some 102) _ _ _ _ _ :: _) _ _; refine wpList_load_mid rfl 59 (.tmp 9) rfl w2.heap.size 0 rfl [.int .i64 0, .int .i64 0, .slice none 0 0, .slice none 0 0] _ HRG.out Try.underlying59 rfl (by rfl) ?_)
  rw [← HW4.out]
  clear t1 t2 r0 r1 r2 r3 g0 g1 g2 g3
  have t1 : W4.cell? ⟨w2.heap.size, 1, none⟩ = some (.int .i64 0) := HT4.out.cell 1 rfl
  go_wp2_with fail
  refine (ref_keep0 W4 w.heap.size r b m 0 w.heap.size 0 0 HL4.out (Nat.le_refl _) 0).mono ?_
  rintro e w5 ⟨rfl, hb5⟩
  have HB5 : Hid (Below w.heap.size w w5) := HB4.out.trans hb5
  clear hb5 t1
  go_wp2
  go_returns
  exact ⟨⟨_, rfl⟩, HB5.out⟩
end Go.Proofs.Ytghajmcohdedlaa
