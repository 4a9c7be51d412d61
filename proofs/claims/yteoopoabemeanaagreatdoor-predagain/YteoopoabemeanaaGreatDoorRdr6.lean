/- The reader's readPoint and readValue. -/
import Derived.Test.YteoopoabemeanaaGreatDoorRdrP
namespace Go.Proofs.YteoopoabemeanaaGreatDoor
set_option maxRecDepth 100000
open Go.RowKit

def AfterV (g : Nat) (T : ByteArray) (v : Value) (w : World) (R : ResV Val) (e : Ending) (w' : World) : Prop := match R with
  | .ok (q, s') => e = .returned (.agg q.cells) ∧ Rdr w' g T s' v ∧ Kept g v w v w'
  | .error m => e = thrown m ∧ Below g w w'
theorem run_i64_f64 (w : World) (n : Int) : (convert 2 91 (.int .i64 n)).run Tryz.prog w = .ok (.float .f64 (floatOfInt .f64 n)) w := rfl

set_option maxHeartbeats 1000000 in
theorem point_any {F : Lex} {T : ByteArray} (HW : Words F T) (hF : LexOk F T.size) {g : Nat} {s : St} {v : Value} (w : World) (h : Rdr w g T s v) (hs : s.here ≤ T.size) (R : ResV Val) (hR : pointM F s = R) :
    Calls Tryz.prog 81 #[.pointer (some ⟨g, 0, none⟩)] w fun e w' => AfterV g T v w R e w' := by
  have hcx : ∀ (a : Addr) (m : Mode) (W : World) (x y : Nat), (store a (.complex .f64 x y) m).run Tryz.prog W = stored Tryz.prog W a (.complex .f64 x y) m := fun a m W x y => run_store _ _ _ _ _ rfl
  have HX : Hid (Words F T) := HW
  have HF : Hid (LexOk F T.size) := hF
  have hgl := h.lt
  have HN : Hid (g < w.heap.size ∧ v.ownBlock ≠ some w.heap.size) := h.new (Nat.le_refl _)
  have HR0 : Hid (Rdr (w.alloc (.cells #[.int .i64 0, .int .i64 0, .string ⟨#[]⟩, .bool false, .complex .f64 0 0] 40)) g T s v) := h.stay (below_alloc w _)
  have HK0 : Hid (Kept g v w v (w.alloc (.cells #[.int .i64 0, .int .i64 0, .string ⟨#[]⟩, .bool false, .complex .f64 0 0] 40))) := Kept.of v (Nat.le_of_lt h.lt) (below_alloc w _)
  have HL0 : Hid (Blk (w.alloc (.cells #[.int .i64 0, .int .i64 0, .string ⟨#[]⟩, .bool false, .complex .f64 0 0] 40)) w.heap.size #[.int .i64 0, .int .i64 0, .string ⟨#[]⟩, .bool false, .complex .f64 0 0] 40) := Blk.new w _ _
  have h0 : s.here ≤ T.size := hs
  have x1 := run_i64_f64
  have HRR0 : Hid (pointM F s = R) := hR
  unfold pointM partM at HRR0
  clear h HW hF hR hs
  go_enter Tryz.func81, Tryz.ntmps81
  rcases e1 : needS F ⟨#[40]⟩ s with m | s1
  · have HP : Hid (needS F ⟨#[40]⟩ s = .error m) := e1
    have HE : Hid (R = .error m) := by have h := HRR0.out; rw [e1] at h; exact h.symm
    clear e1 HRR0
    go_wp2_with fail
    refine (needS_bad HX.out _ _ HR0.out h0 HP.out).mono ?_
    rintro e w1 ⟨rfl, hb⟩
    refine ⟨rfl, ?_⟩
    show AfterV _ _ _ _ _ _ _
    rw [HE.out]
    exact ⟨rfl, HK0.out.below.trans (hb.mono (Nat.le_of_lt HR0.out.lt))⟩
  · have HP : Hid (needS F ⟨#[40]⟩ s = .ok s1) := e1
    have HRR1 : Hid ((thenS (numM F (-1048576) 1048576 s1) fun s2 => thenS (needS F ⟨#[44]⟩ s2) fun s3 => thenS (numM F (-1048576) 1048576 s3) fun s4 => thenS (needS F ⟨#[41]⟩ s4) fun s5 => .ok (pointV s1.next.n s3.next.n, s5)) = R) := by have h := HRR0.out; rw [e1] at h; exact h
    have h1 : s1.here ≤ T.size := (needS_dn1 HF.out h0 e1).here
    clear e1 HRR0
    go_wp2_with fail
    refine (needS_ok HX.out _ _ HR0.out h0 HP.out).mono ?_
    rintro e w1 ⟨rfl, hr, hk⟩
    have HR1 : Hid (Rdr w1 g T s1 v) := hr
    have HK1 : Hid (Kept g v w v w1) := HK0.out.trans hk
    have HL1 : Hid (Blk w1 w.heap.size #[.int .i64 0, .int .i64 0, .string ⟨#[]⟩, .bool false, .complex .f64 0 0] 40) := hk.blk HL0.out (Nat.ne_of_gt HN.out.1) HN.out.2
    clear hr hk HP HK0 HL0
    rcases e2 : numM F (-1048576) 1048576 s1 with m | s2
    · have HP : Hid (numM F (-1048576) 1048576 s1 = .error m) := e2
      have HE : Hid (R = .error m) := by have h := HRR1.out; rw [e2] at h; exact h.symm
      clear e2 HRR1
      go_wp2_with fail
      refine (num_bad HX.out _ _ _ HR1.out h1 HP.out).mono ?_
      rintro e w2 ⟨rfl, hb⟩
      refine ⟨rfl, ?_⟩
      show AfterV _ _ _ _ _ _ _
      rw [HE.out]
      exact ⟨rfl, HK1.out.below.trans (hb.mono (Nat.le_of_lt HR1.out.lt))⟩
    · have HP : Hid (numM F (-1048576) 1048576 s1 = .ok s2) := e2
      have HRR2 : Hid ((thenS (needS F ⟨#[44]⟩ s2) fun s3 => thenS (numM F (-1048576) 1048576 s3) fun s4 => thenS (needS F ⟨#[41]⟩ s4) fun s5 => .ok (pointV s1.next.n s3.next.n, s5)) = R) := by have h := HRR1.out; rw [e2] at h; exact h
      have h2 : s2.here ≤ T.size := (numM_dn1 HF.out h1 e2).here
      clear e2 HRR1
      go_wp2_with fail
      refine (num_ok HX.out _ _ _ HR1.out h1 HP.out).mono ?_
      rintro e w2 ⟨rfl, hr, hk⟩
      have HR2 : Hid (Rdr w2 g T s2 v) := hr
      have HK2 : Hid (Kept g v w v w2) := HK1.out.trans hk
      have HL2 : Hid (Blk w2 w.heap.size #[.int .i64 0, .int .i64 0, .string ⟨#[]⟩, .bool false, .complex .f64 0 0] 40) := hk.blk HL1.out (Nat.ne_of_gt HN.out.1) HN.out.2
      clear hr hk HP HR1 HK1 HL1
      rcases e3 : needS F ⟨#[44]⟩ s2 with m | s3
      · have HP : Hid (needS F ⟨#[44]⟩ s2 = .error m) := e3
        have HE : Hid (R = .error m) := by have h := HRR2.out; rw [e3] at h; exact h.symm
        clear e3 HRR2
        go_wp2_with fail
        refine (needS_bad HX.out _ _ HR2.out h2 HP.out).mono ?_
        rintro e w3 ⟨rfl, hb⟩
        refine ⟨rfl, ?_⟩
        show AfterV _ _ _ _ _ _ _
        rw [HE.out]
        exact ⟨rfl, HK2.out.below.trans (hb.mono (Nat.le_of_lt HR2.out.lt))⟩
      · have HP : Hid (needS F ⟨#[44]⟩ s2 = .ok s3) := e3
        have HRR3 : Hid ((thenS (numM F (-1048576) 1048576 s3) fun s4 => thenS (needS F ⟨#[41]⟩ s4) fun s5 => .ok (pointV s1.next.n s3.next.n, s5)) = R) := by have h := HRR2.out; rw [e3] at h; exact h
        have h3 : s3.here ≤ T.size := (needS_dn1 HF.out h2 e3).here
        clear e3 HRR2
        go_wp2_with fail
        refine (needS_ok HX.out _ _ HR2.out h2 HP.out).mono ?_
        rintro e w3 ⟨rfl, hr, hk⟩
        have HR3 : Hid (Rdr w3 g T s3 v) := hr
        have HK3 : Hid (Kept g v w v w3) := HK2.out.trans hk
        have HL3 : Hid (Blk w3 w.heap.size #[.int .i64 0, .int .i64 0, .string ⟨#[]⟩, .bool false, .complex .f64 0 0] 40) := hk.blk HL2.out (Nat.ne_of_gt HN.out.1) HN.out.2
        clear hr hk HP HR2 HK2 HL2
        rcases e4 : numM F (-1048576) 1048576 s3 with m | s4
        · have HP : Hid (numM F (-1048576) 1048576 s3 = .error m) := e4
          have HE : Hid (R = .error m) := by have h := HRR3.out; rw [e4] at h; exact h.symm
          clear e4 HRR3
          go_wp2_with fail
          refine (num_bad HX.out _ _ _ HR3.out h3 HP.out).mono ?_
          rintro e w4 ⟨rfl, hb⟩
          refine ⟨rfl, ?_⟩
          show AfterV _ _ _ _ _ _ _
          rw [HE.out]
          exact ⟨rfl, HK3.out.below.trans (hb.mono (Nat.le_of_lt HR3.out.lt))⟩
        · have HP : Hid (numM F (-1048576) 1048576 s3 = .ok s4) := e4
          have HRR4 : Hid ((thenS (needS F ⟨#[41]⟩ s4) fun s5 => .ok (pointV s1.next.n s3.next.n, s5)) = R) := by have h := HRR3.out; rw [e4] at h; exact h
          have h4 : s4.here ≤ T.size := (numM_dn1 HF.out h3 e4).here
          clear e4 HRR3
          go_wp2_with fail
          refine (num_ok HX.out _ _ _ HR3.out h3 HP.out).mono ?_
          rintro e w4 ⟨rfl, hr, hk⟩
          have HR4 : Hid (Rdr w4 g T s4 v) := hr
          have HK4 : Hid (Kept g v w v w4) := HK3.out.trans hk
          have HL4 : Hid (Blk w4 w.heap.size #[.int .i64 0, .int .i64 0, .string ⟨#[]⟩, .bool false, .complex .f64 0 0] 40) := hk.blk HL3.out (Nat.ne_of_gt HN.out.1) HN.out.2
          clear hr hk HP HR3 HK3 HL3
          rcases e5 : needS F ⟨#[41]⟩ s4 with m | s5
          · have HP : Hid (needS F ⟨#[41]⟩ s4 = .error m) := e5
            have HE : Hid (R = .error m) := by have h := HRR4.out; rw [e5] at h; exact h.symm
            clear e5 HRR4
            go_wp2_with fail
            refine (needS_bad HX.out _ _ HR4.out h4 HP.out).mono ?_
            rintro e w5 ⟨rfl, hb⟩
            refine ⟨rfl, ?_⟩
            show AfterV _ _ _ _ _ _ _
            rw [HE.out]
            exact ⟨rfl, HK4.out.below.trans (hb.mono (Nat.le_of_lt HR4.out.lt))⟩
          · have HP : Hid (needS F ⟨#[41]⟩ s4 = .ok s5) := e5
            have HRR5 : Hid (((.ok (pointV s1.next.n s3.next.n, s5) : ResV Val)) = R) := by have h := HRR4.out; rw [e5] at h; exact h
            have h5 : s5.here ≤ T.size := (needS_dn1 HF.out h4 e5).here
            clear e5 HRR4
            go_wp2_with fail
            refine (needS_ok HX.out _ _ HR4.out h4 HP.out).mono ?_
            rintro e w5 ⟨rfl, hr, hk⟩
            have HR5 : Hid (Rdr w5 g T s5 v) := hr
            have HK5 : Hid (Kept g v w v w5) := HK4.out.trans hk
            have HL5 : Hid (Blk w5 w.heap.size #[.int .i64 0, .int .i64 0, .string ⟨#[]⟩, .bool false, .complex .f64 0 0] 40) := hk.blk HL4.out (Nat.ne_of_gt HN.out.1) HN.out.2
            clear hr hk HP HR4 HK4 HL4
            unfold nothing
            have HKL := HL5
            have d0 : w5.cell? ⟨w.heap.size, 0, none⟩ = some (.int .i64 0) := HKL.out.cell 0 rfl
            have d1 : w5.cell? ⟨w.heap.size, 1, none⟩ = some (.int .i64 0) := HKL.out.cell 1 rfl
            have d2 : w5.cell? ⟨w.heap.size, 2, none⟩ = some (.string ⟨#[]⟩) := HKL.out.cell 2 rfl
            have d3 : w5.cell? ⟨w.heap.size, 3, none⟩ = some (.bool false) := HKL.out.cell 3 rfl
            have d4 : w5.cell? ⟨w.heap.size, 4, none⟩ = some (.complex .f64 0 0) := HKL.out.cell 4 rfl
            have f0 := HKL.out.free 0
            have f1 := HKL.out.free 1
            have f2 := HKL.out.free 2
            have f3 := HKL.out.free 3
            have f4 := HKL.out.free 4
            go_wp2
            try simp only [Exit.inBlock, Exit.then]
            refine bodyPost_ret (results_val (q := pointV s1.next.n s3.next.n) rfl (by rfl) (HKL.out.setW _ _ _ _ _)) rfl ?_
            show AfterV _ _ _ _ _ _ _
            rw [← HRR5.out]
            refine ⟨rfl, ?_, ?_⟩
            · exact ((((HR5.out.other _ _ HN.out).other _ _ HN.out).other _ _ HN.out).other _ _ HN.out).other _ _ HN.out
            · exact ((((HK5.out.setNew (Nat.le_of_lt hgl) _ _ (by simp)).setNew (Nat.le_of_lt hgl) _ _ (by simp)).setNew (Nat.le_of_lt hgl) _ _ (by simp)).setNew (Nat.le_of_lt hgl) _ _ (by simp)).setNew (Nat.le_of_lt hgl) _ _ (by simp)

theorem yes_list : (⟨#[121, 101, 115]⟩ : ByteArray).toList = [121, 101, 115] := by rw [ByteArray.toList_eq]
theorem no_list : (⟨#[110, 111]⟩ : ByteArray).toList = [110, 111] := by rw [ByteArray.toList_eq]
theorem withV_err {α : Type} {v : α} {r : Res} {m : Nat × Nat} (h : r = .error m) : withV v r = .error m := by rw [h]; rfl
set_option maxHeartbeats 1000000 in
theorem value_any {F : Lex} {T : ByteArray} (HW : Words F T) (hF : LexOk F T.size) {g : Nat} {s : St} {v : Value} (w : World) (h : Rdr w g T s v) (hs : s.here ≤ T.size) (R : ResV Val) (hR : valueM F s = R) :
    Calls Tryz.prog 79 #[.pointer (some ⟨g, 0, none⟩)] w fun e w' => AfterV g T v w R e w' := by
  have hcx : ∀ (a : Addr) (m : Mode) (W : World) (x y : Nat), (store a (.complex .f64 x y) m).run Tryz.prog W = stored Tryz.prog W a (.complex .f64 x y) m := fun a m W x y => run_store _ _ _ _ _ rfl
  have HX : Hid (Words F T) := HW
  have HF : Hid (LexOk F T.size) := hF
  have hgl := h.lt
  have HN : Hid (g < w.heap.size ∧ v.ownBlock ≠ some w.heap.size) := h.new (Nat.le_refl _)
  have HR0 : Hid (Rdr (w.alloc (.cells #[.int .i64 0, .int .i64 0, .string ⟨#[]⟩, .bool false, .complex .f64 0 0] 40)) g T s v) := h.stay (below_alloc w _)
  have HK0 : Hid (Kept g v w v (w.alloc (.cells #[.int .i64 0, .int .i64 0, .string ⟨#[]⟩, .bool false, .complex .f64 0 0] 40))) := Kept.of v (Nat.le_of_lt h.lt) (below_alloc w _)
  have HL0 : Hid (Blk (w.alloc (.cells #[.int .i64 0, .int .i64 0, .string ⟨#[]⟩, .bool false, .complex .f64 0 0] 40)) w.heap.size #[.int .i64 0, .int .i64 0, .string ⟨#[]⟩, .bool false, .complex .f64 0 0] 40) := Blk.new w _ _
  have h0 : s.here ≤ T.size := hs
  have HRR0 : Hid (valueM F s = R) := hR
  unfold valueM at HRR0
  have c2 : (w.alloc (.cells #[.int .i64 0, .int .i64 0, .string ⟨#[]⟩, .bool false, .complex .f64 0 0] 40)).cell? ⟨g, 2, none⟩ = some (.int .i64 (s.next.kind : Int)) := HR0.out.blk.cell 2 rfl
  have c4 : (w.alloc (.cells #[.int .i64 0, .int .i64 0, .string ⟨#[]⟩, .bool false, .complex .f64 0 0] 40)).cell? ⟨g, 4, none⟩ = some (.string s.next.text) := HR0.out.blk.cell 4 rfl
  clear h HW hF hR hs
  cases hi : isS ⟨#[40]⟩ s with
  | true =>
    have HI : Hid (isS ⟨#[40]⟩ s = true) := hi
    have HRR1 : Hid (pointM F s = R) := by have h := HRR0.out; rw [hi, if_pos rfl] at h; exact h
    clear hi HRR0
    go_enter Tryz.func79, Tryz.ntmps79
    go_wp2_with fail
    refine (reader_isSign g T _ s v _ HR0.out).mono ?_
    rw [HI.out]
    rintro e w0 ⟨rfl, rfl⟩
    go_wp2_with fail
    refine (point_any HX.out HF.out _ HR0.out h0 R HRR1.out).mono ?_
    intro e w1 ha
    rcases hr : R with m | ⟨q, s1⟩
    · subst hr
      obtain ⟨rfl, hb⟩ := ha
      exact ⟨rfl, rfl, HK0.out.below.trans hb⟩
    · subst hr
      obtain ⟨rfl, hr1, hk1⟩ := ha
      have HR1 : Hid (Rdr w1 g T s1 v) := hr1
      have HK1 : Hid (Kept g v w v w1) := HK0.out.trans hk1
      have HL1 : Hid (Blk w1 w.heap.size #[.int .i64 0, .int .i64 0, .string ⟨#[]⟩, .bool false, .complex .f64 0 0] 40) := hk1.blk HL0.out (Nat.ne_of_gt HN.out.1) HN.out.2
      clear hr1 hk1 HK0 HL0 c2 c4 HRR1
      have HRR1 : Hid ((.ok (q, s1) : ResV Val) = .ok (q, s1)) := rfl
      obtain ⟨qk, qw, qs, qt, qx, qy⟩ := q
      simp only [Val.cells]
      have HKL := HL1
      have d0 : w1.cell? ⟨w.heap.size, 0, none⟩ = some (.int .i64 0) := HKL.out.cell 0 rfl
      have d1 : w1.cell? ⟨w.heap.size, 1, none⟩ = some (.int .i64 0) := HKL.out.cell 1 rfl
      have d2 : w1.cell? ⟨w.heap.size, 2, none⟩ = some (.string ⟨#[]⟩) := HKL.out.cell 2 rfl
      have d3 : w1.cell? ⟨w.heap.size, 3, none⟩ = some (.bool false) := HKL.out.cell 3 rfl
      have d4 : w1.cell? ⟨w.heap.size, 4, none⟩ = some (.complex .f64 0 0) := HKL.out.cell 4 rfl
      have f0 := HKL.out.free 0
      have f1 := HKL.out.free 1
      have f2 := HKL.out.free 2
      have f3 := HKL.out.free 3
      have f4 := HKL.out.free 4
      go_wp2
      try simp only [Exit.inBlock, Exit.then]
      refine bodyPost_ret (results_val (q := ⟨qk, qw, qs, qt, qx, qy⟩) rfl (by rfl) (HKL.out.setW _ _ _ _ _)) rfl ?_
      show AfterV _ _ _ _ _ _ _
      refine ⟨rfl, ?_, ?_⟩
      · exact ((((HR1.out.other _ _ HN.out).other _ _ HN.out).other _ _ HN.out).other _ _ HN.out).other _ _ HN.out
      · exact ((((HK1.out.setNew (Nat.le_of_lt hgl) _ _ (by simp)).setNew (Nat.le_of_lt hgl) _ _ (by simp)).setNew (Nat.le_of_lt hgl) _ _ (by simp)).setNew (Nat.le_of_lt hgl) _ _ (by simp)).setNew (Nat.le_of_lt hgl) _ _ (by simp)
  | false =>
    have HI : Hid (isS ⟨#[40]⟩ s = false) := hi
    have HRR1 : Hid ((if s.next.kind = 2 ∧ (s.next.text = yesT ∨ s.next.text = noT) then withV (truthV (decide (s.next.text = yesT))) (passM F s) else orderedM F s) = R) := by have h := HRR0.out; rw [hi, if_neg (by simp)] at h; exact h
    clear hi HRR0
    by_cases hk : s.next.kind = 2
    · have hk' : ((s.next.kind : Int) == 2) = true := by rw [hk]; rfl
      have hfd := fld2 s.next.kind s.next.place s.next.text s.next.n s.next.late
      by_cases ht0 : s.next.text = yesT
      · have HRR2 : Hid (withV (truthV true) (passM F s) = R) := by have h := HRR1.out; rw [if_pos ⟨hk, .inl ht0⟩, ht0] at h; exact h
        have hyb : (s.next.text.toList == (⟨#[121, 101, 115]⟩ : ByteArray).toList) = true := by rw [str_beq, ht0]; rfl
        have hyb2 : (s.next.text.toList == [121, 101, 115]) = true := by rw [← yes_list]; exact hyb
        clear HRR1 hk ht0
        rcases e1 : passM F s with m | s1
        · have HP : Hid (passM F s = .error m) := e1
          have HE : Hid (R = .error m) := by have h := HRR2.out; rw [e1] at h; exact h.symm
          clear e1 HRR2
          go_enter Tryz.func79, Tryz.ntmps79
          go_wp2_with fail
          refine (reader_isSign g T _ s v _ HR0.out).mono ?_
          rw [HI.out]
          rintro e w0 ⟨rfl, rfl⟩
          go_wp2_with fail
          refine (pass_bad HX.out _ HR0.out h0 HP.out).mono ?_
          rintro e w1 ⟨rfl, hb⟩
          refine ⟨rfl, ?_⟩
          show AfterV _ _ _ _ _ _ _
          rw [HE.out]
          exact ⟨rfl, HK0.out.below.trans (hb.mono (Nat.le_of_lt HR0.out.lt))⟩
        · have HP : Hid (passM F s = .ok s1) := e1
          have HRR1 : Hid (.ok (truthV true, s1) = R) := by have h := HRR2.out; rw [e1] at h; exact h
          clear e1 HRR2
          go_enter Tryz.func79, Tryz.ntmps79
          go_wp2_with fail
          refine (reader_isSign g T _ s v _ HR0.out).mono ?_
          rw [HI.out]
          rintro e w0 ⟨rfl, rfl⟩
          go_wp2_with fail
          refine (pass_ok HX.out _ HR0.out h0 HP.out).mono ?_
          rintro e w1 ⟨rfl, hr1, hk1⟩
          have HR1 : Hid (Rdr w1 g T s1 v) := hr1
          have HK1 : Hid (Kept g v w v w1) := HK0.out.trans hk1
          have HL1 : Hid (Blk w1 w.heap.size #[.int .i64 0, .int .i64 0, .string ⟨#[]⟩, .bool false, .complex .f64 0 0] 40) := hk1.blk HL0.out (Nat.ne_of_gt HN.out.1) HN.out.2
          clear hr1 hk1 HK0 HL0 c2 c4
          simp only [Wd.cells]
          have HKL := HL1
          have d0 : w1.cell? ⟨w.heap.size, 0, none⟩ = some (.int .i64 0) := HKL.out.cell 0 rfl
          have d1 : w1.cell? ⟨w.heap.size, 1, none⟩ = some (.int .i64 0) := HKL.out.cell 1 rfl
          have d2 : w1.cell? ⟨w.heap.size, 2, none⟩ = some (.string ⟨#[]⟩) := HKL.out.cell 2 rfl
          have d3 : w1.cell? ⟨w.heap.size, 3, none⟩ = some (.bool false) := HKL.out.cell 3 rfl
          have d4 : w1.cell? ⟨w.heap.size, 4, none⟩ = some (.complex .f64 0 0) := HKL.out.cell 4 rfl
          have f0 := HKL.out.free 0
          have f1 := HKL.out.free 1
          have f2 := HKL.out.free 2
          have f3 := HKL.out.free 3
          have f4 := HKL.out.free 4
          go_wp2
          try simp only [Exit.inBlock, Exit.then]
          refine bodyPost_ret (results_val (q := truthV true) rfl (by rfl) (HKL.out.setW _ _ _ _ _)) rfl ?_
          show AfterV _ _ _ _ _ _ _
          rw [← HRR1.out]
          refine ⟨rfl, ?_, ?_⟩
          · exact ((((HR1.out.other _ _ HN.out).other _ _ HN.out).other _ _ HN.out).other _ _ HN.out).other _ _ HN.out
          · exact ((((HK1.out.setNew (Nat.le_of_lt hgl) _ _ (by simp)).setNew (Nat.le_of_lt hgl) _ _ (by simp)).setNew (Nat.le_of_lt hgl) _ _ (by simp)).setNew (Nat.le_of_lt hgl) _ _ (by simp)).setNew (Nat.le_of_lt hgl) _ _ (by simp)
      by_cases ht1 : s.next.text = noT
      · have HRR2 : Hid (withV (truthV false) (passM F s) = R) := by have h := HRR1.out; rw [if_pos ⟨hk, .inr ht1⟩, ht1] at h; exact h
        have hyb : (s.next.text.toList == (⟨#[121, 101, 115]⟩ : ByteArray).toList) = false := by rw [str_beq, ht1]; rfl
        have hyb2 : (s.next.text.toList == [121, 101, 115]) = false := by rw [← yes_list]; exact hyb
        have hnb : (s.next.text.toList == (⟨#[110, 111]⟩ : ByteArray).toList) = true := by rw [str_beq, ht1]; rfl
        have hnb2 : (s.next.text.toList == [110, 111]) = true := by rw [← no_list]; exact hnb
        clear HRR1 hk ht1 ht0
        rcases e1 : passM F s with m | s1
        · have HP : Hid (passM F s = .error m) := e1
          have HE : Hid (R = .error m) := by have h := HRR2.out; rw [e1] at h; exact h.symm
          clear e1 HRR2
          go_enter Tryz.func79, Tryz.ntmps79
          go_wp2_with fail
          refine (reader_isSign g T _ s v _ HR0.out).mono ?_
          rw [HI.out]
          rintro e w0 ⟨rfl, rfl⟩
          go_wp2_with fail
          refine (pass_bad HX.out _ HR0.out h0 HP.out).mono ?_
          rintro e w1 ⟨rfl, hb⟩
          refine ⟨rfl, ?_⟩
          show AfterV _ _ _ _ _ _ _
          rw [HE.out]
          exact ⟨rfl, HK0.out.below.trans (hb.mono (Nat.le_of_lt HR0.out.lt))⟩
        · have HP : Hid (passM F s = .ok s1) := e1
          have HRR1 : Hid (.ok (truthV false, s1) = R) := by have h := HRR2.out; rw [e1] at h; exact h
          clear e1 HRR2
          go_enter Tryz.func79, Tryz.ntmps79
          go_wp2_with fail
          refine (reader_isSign g T _ s v _ HR0.out).mono ?_
          rw [HI.out]
          rintro e w0 ⟨rfl, rfl⟩
          go_wp2_with fail
          refine (pass_ok HX.out _ HR0.out h0 HP.out).mono ?_
          rintro e w1 ⟨rfl, hr1, hk1⟩
          have HR1 : Hid (Rdr w1 g T s1 v) := hr1
          have HK1 : Hid (Kept g v w v w1) := HK0.out.trans hk1
          have HL1 : Hid (Blk w1 w.heap.size #[.int .i64 0, .int .i64 0, .string ⟨#[]⟩, .bool false, .complex .f64 0 0] 40) := hk1.blk HL0.out (Nat.ne_of_gt HN.out.1) HN.out.2
          clear hr1 hk1 HK0 HL0 c2 c4
          simp only [Wd.cells]
          have HKL := HL1
          have d0 : w1.cell? ⟨w.heap.size, 0, none⟩ = some (.int .i64 0) := HKL.out.cell 0 rfl
          have d1 : w1.cell? ⟨w.heap.size, 1, none⟩ = some (.int .i64 0) := HKL.out.cell 1 rfl
          have d2 : w1.cell? ⟨w.heap.size, 2, none⟩ = some (.string ⟨#[]⟩) := HKL.out.cell 2 rfl
          have d3 : w1.cell? ⟨w.heap.size, 3, none⟩ = some (.bool false) := HKL.out.cell 3 rfl
          have d4 : w1.cell? ⟨w.heap.size, 4, none⟩ = some (.complex .f64 0 0) := HKL.out.cell 4 rfl
          have f0 := HKL.out.free 0
          have f1 := HKL.out.free 1
          have f2 := HKL.out.free 2
          have f3 := HKL.out.free 3
          have f4 := HKL.out.free 4
          go_wp2
          try simp only [Exit.inBlock, Exit.then]
          refine bodyPost_ret (results_val (q := truthV false) rfl (by rfl) (HKL.out.setW _ _ _ _ _)) rfl ?_
          show AfterV _ _ _ _ _ _ _
          rw [← HRR1.out]
          refine ⟨rfl, ?_, ?_⟩
          · exact ((((HR1.out.other _ _ HN.out).other _ _ HN.out).other _ _ HN.out).other _ _ HN.out).other _ _ HN.out
          · exact ((((HK1.out.setNew (Nat.le_of_lt hgl) _ _ (by simp)).setNew (Nat.le_of_lt hgl) _ _ (by simp)).setNew (Nat.le_of_lt hgl) _ _ (by simp)).setNew (Nat.le_of_lt hgl) _ _ (by simp)).setNew (Nat.le_of_lt hgl) _ _ (by simp)
      · skip
        have HRR2 : Hid (orderedM F s = R) := by have h := HRR1.out; rw [if_neg (by rintro ⟨_, h | h⟩ <;> contradiction)] at h; exact h
        have hyb : (s.next.text.toList == (⟨#[121, 101, 115]⟩ : ByteArray).toList) = false := by rw [str_beq]; exact decide_eq_false ht0
        have hyb2 : (s.next.text.toList == [121, 101, 115]) = false := by rw [← yes_list]; exact hyb
        have hnb : (s.next.text.toList == (⟨#[110, 111]⟩ : ByteArray).toList) = false := by rw [str_beq]; exact decide_eq_false ht1
        have hnb2 : (s.next.text.toList == [110, 111]) = false := by rw [← no_list]; exact hnb
        clear ht0 ht1 hk
        clear HRR1
        rcases e1 : orderedM F s with m | ⟨q, s1⟩
        · have HP : Hid (orderedM F s = .error m) := e1
          have HE : Hid (R = .error m) := by have h := HRR2.out; rw [e1] at h; exact h.symm
          clear e1 HRR2
          go_enter Tryz.func79, Tryz.ntmps79
          go_wp2_with fail
          refine (reader_isSign g T _ s v _ HR0.out).mono ?_
          rw [HI.out]
          rintro e w0 ⟨rfl, rfl⟩
          go_wp2_with fail
          refine (ordered_bad HX.out _ HR0.out h0 HP.out).mono ?_
          rintro e w1 ⟨rfl, hb⟩
          refine ⟨rfl, ?_⟩
          show AfterV _ _ _ _ _ _ _
          rw [HE.out]
          exact ⟨rfl, HK0.out.below.trans (hb.mono (Nat.le_of_lt HR0.out.lt))⟩
        · have HP : Hid (orderedM F s = .ok (q, s1)) := e1
          have HRR1 : Hid (.ok (q, s1) = R) := by have h := HRR2.out; rw [e1] at h; exact h
          clear e1 HRR2
          go_enter Tryz.func79, Tryz.ntmps79
          go_wp2_with fail
          refine (reader_isSign g T _ s v _ HR0.out).mono ?_
          rw [HI.out]
          rintro e w0 ⟨rfl, rfl⟩
          go_wp2_with fail
          refine (ordered_ok HX.out _ HR0.out h0 HP.out).mono ?_
          rintro e w1 ⟨rfl, hr1, hk1⟩
          have HR1 : Hid (Rdr w1 g T s1 v) := hr1
          have HK1 : Hid (Kept g v w v w1) := HK0.out.trans hk1
          have HL1 : Hid (Blk w1 w.heap.size #[.int .i64 0, .int .i64 0, .string ⟨#[]⟩, .bool false, .complex .f64 0 0] 40) := hk1.blk HL0.out (Nat.ne_of_gt HN.out.1) HN.out.2
          clear hr1 hk1 HK0 HL0 c2 c4 HP
          obtain ⟨qk, qw, qs, qt, qx, qy⟩ := q
          simp only [Val.cells]
          have HKL := HL1
          have d0 : w1.cell? ⟨w.heap.size, 0, none⟩ = some (.int .i64 0) := HKL.out.cell 0 rfl
          have d1 : w1.cell? ⟨w.heap.size, 1, none⟩ = some (.int .i64 0) := HKL.out.cell 1 rfl
          have d2 : w1.cell? ⟨w.heap.size, 2, none⟩ = some (.string ⟨#[]⟩) := HKL.out.cell 2 rfl
          have d3 : w1.cell? ⟨w.heap.size, 3, none⟩ = some (.bool false) := HKL.out.cell 3 rfl
          have d4 : w1.cell? ⟨w.heap.size, 4, none⟩ = some (.complex .f64 0 0) := HKL.out.cell 4 rfl
          have f0 := HKL.out.free 0
          have f1 := HKL.out.free 1
          have f2 := HKL.out.free 2
          have f3 := HKL.out.free 3
          have f4 := HKL.out.free 4
          go_wp2
          try simp only [Exit.inBlock, Exit.then]
          refine bodyPost_ret (results_val (q := ⟨qk, qw, qs, qt, qx, qy⟩) rfl (by rfl) (HKL.out.setW _ _ _ _ _)) rfl ?_
          show AfterV _ _ _ _ _ _ _
          rw [← HRR1.out]
          refine ⟨rfl, ?_, ?_⟩
          · exact ((((HR1.out.other _ _ HN.out).other _ _ HN.out).other _ _ HN.out).other _ _ HN.out).other _ _ HN.out
          · exact ((((HK1.out.setNew (Nat.le_of_lt hgl) _ _ (by simp)).setNew (Nat.le_of_lt hgl) _ _ (by simp)).setNew (Nat.le_of_lt hgl) _ _ (by simp)).setNew (Nat.le_of_lt hgl) _ _ (by simp)).setNew (Nat.le_of_lt hgl) _ _ (by simp)
    · skip
      have HRR2 : Hid (orderedM F s = R) := by have h := HRR1.out; rw [if_neg (by rintro ⟨h, _⟩; exact hk h)] at h; exact h
      have hk' : ((s.next.kind : Int) == 2) = false := by rw [beq_eq_false_iff_ne]; omega
      clear hk
      clear HRR1
      rcases e1 : orderedM F s with m | ⟨q, s1⟩
      · have HP : Hid (orderedM F s = .error m) := e1
        have HE : Hid (R = .error m) := by have h := HRR2.out; rw [e1] at h; exact h.symm
        clear e1 HRR2
        go_enter Tryz.func79, Tryz.ntmps79
        go_wp2_with fail
        refine (reader_isSign g T _ s v _ HR0.out).mono ?_
        rw [HI.out]
        rintro e w0 ⟨rfl, rfl⟩
        go_wp2_with fail
        refine (ordered_bad HX.out _ HR0.out h0 HP.out).mono ?_
        rintro e w1 ⟨rfl, hb⟩
        refine ⟨rfl, ?_⟩
        show AfterV _ _ _ _ _ _ _
        rw [HE.out]
        exact ⟨rfl, HK0.out.below.trans (hb.mono (Nat.le_of_lt HR0.out.lt))⟩
      · have HP : Hid (orderedM F s = .ok (q, s1)) := e1
        have HRR1 : Hid (.ok (q, s1) = R) := by have h := HRR2.out; rw [e1] at h; exact h
        clear e1 HRR2
        go_enter Tryz.func79, Tryz.ntmps79
        go_wp2_with fail
        refine (reader_isSign g T _ s v _ HR0.out).mono ?_
        rw [HI.out]
        rintro e w0 ⟨rfl, rfl⟩
        go_wp2_with fail
        refine (ordered_ok HX.out _ HR0.out h0 HP.out).mono ?_
        rintro e w1 ⟨rfl, hr1, hk1⟩
        have HR1 : Hid (Rdr w1 g T s1 v) := hr1
        have HK1 : Hid (Kept g v w v w1) := HK0.out.trans hk1
        have HL1 : Hid (Blk w1 w.heap.size #[.int .i64 0, .int .i64 0, .string ⟨#[]⟩, .bool false, .complex .f64 0 0] 40) := hk1.blk HL0.out (Nat.ne_of_gt HN.out.1) HN.out.2
        clear hr1 hk1 HK0 HL0 c2 c4 HP
        obtain ⟨qk, qw, qs, qt, qx, qy⟩ := q
        simp only [Val.cells]
        have HKL := HL1
        have d0 : w1.cell? ⟨w.heap.size, 0, none⟩ = some (.int .i64 0) := HKL.out.cell 0 rfl
        have d1 : w1.cell? ⟨w.heap.size, 1, none⟩ = some (.int .i64 0) := HKL.out.cell 1 rfl
        have d2 : w1.cell? ⟨w.heap.size, 2, none⟩ = some (.string ⟨#[]⟩) := HKL.out.cell 2 rfl
        have d3 : w1.cell? ⟨w.heap.size, 3, none⟩ = some (.bool false) := HKL.out.cell 3 rfl
        have d4 : w1.cell? ⟨w.heap.size, 4, none⟩ = some (.complex .f64 0 0) := HKL.out.cell 4 rfl
        have f0 := HKL.out.free 0
        have f1 := HKL.out.free 1
        have f2 := HKL.out.free 2
        have f3 := HKL.out.free 3
        have f4 := HKL.out.free 4
        go_wp2
        try simp only [Exit.inBlock, Exit.then]
        refine bodyPost_ret (results_val (q := ⟨qk, qw, qs, qt, qx, qy⟩) rfl (by rfl) (HKL.out.setW _ _ _ _ _)) rfl ?_
        show AfterV _ _ _ _ _ _ _
        rw [← HRR1.out]
        refine ⟨rfl, ?_, ?_⟩
        · exact ((((HR1.out.other _ _ HN.out).other _ _ HN.out).other _ _ HN.out).other _ _ HN.out).other _ _ HN.out
        · exact ((((HK1.out.setNew (Nat.le_of_lt hgl) _ _ (by simp)).setNew (Nat.le_of_lt hgl) _ _ (by simp)).setNew (Nat.le_of_lt hgl) _ _ (by simp)).setNew (Nat.le_of_lt hgl) _ _ (by simp)).setNew (Nat.le_of_lt hgl) _ _ (by simp)
end Go.Proofs.YteoopoabemeanaaGreatDoor
