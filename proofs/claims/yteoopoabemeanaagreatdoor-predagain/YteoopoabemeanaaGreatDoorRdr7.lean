/- The reader's readAtom. -/
import Derived.Test.YteoopoabemeanaaGreatDoorRdr6
import Derived.Deep.RegionLaw
namespace Go.Proofs.YteoopoabemeanaaGreatDoor
set_option maxRecDepth 100000
open Go.RowKit

def AfterU (g : Nat) (T : ByteArray) (w : World) (R : Res) (e : Ending) (w' : World) : Prop := match R with
  | .ok s' => e = .returned nothing ∧ (∃ v, Rdr w' g T s' v) ∧ Below g w w'
  | .error m => e = thrown m ∧ Below g w w'
theorem cmpFrom_range {F : Lex} {s : St} : ∀ (k : Nat) {c : Nat} {s' : St}, k ≤ 8 → cmpFrom F s k = .ok (c, s') → 2 ≤ c ∧ c ≤ 10
  | 0, c, s', _, h => by
    simp only [cmpFrom, Except.ok.injEq, Prod.mk.injEq] at h
    omega
  | k + 1, c, s', hk, h => by
    rw [cmpFrom] at h
    split at h
    · have := (withV_ok h).1
      omega
    · exact cmpFrom_range k (by omega) h

theorem Blk.setV {w : World} {g : Nat} {t : TypeId} {a0 a1 a2 u0 u1 u2 u3 u4 a8 : Value} (h : Blk w g #[a0, a1, a2, u0, u1, u2, u3, u4, a8] t) (v0 v1 v2 v3 v4 : Value) : Blk (((((w.setCell ⟨g, 3, none⟩ v0).setCell ⟨g, 4, none⟩ v1).setCell ⟨g, 5, none⟩ v2).setCell ⟨g, 6, none⟩ v3).setCell ⟨g, 7, none⟩ v4) g #[a0, a1, a2, v0, v1, v2, v3, v4, a8] t :=
  ((((h.set 3 v0).set 4 v1).set 5 v2).set 6 v3).set 7 v4

/-! one by one -/
set_option maxHeartbeats 2000000 in
theorem atom_2 {F : Lex} {T : ByteArray} (HW : Words F T) (hF : LexOk F T.size) {g : Nat} {s s1 s2 : St} {v : Value} (w : World) (h : Rdr w g T s v) (hs : s.here ≤ T.size) (hl : s.terms.length + left T.size s ≤ 5000) (hn : needM F 2 s = .ok s1) (hc : cmpM F s1 = .ok (2, s2)) (R : Res) (hR : restM F s.next.text 2 s2 = R) :
    Calls Tryz.prog 63 #[.pointer (some ⟨g, 0, none⟩)] w fun e w' => AfterU g T w R e w' := by
  have hcx : ∀ (a : Addr) (m : Mode) (W : World) (x y : Nat), (store a (.complex .f64 x y) m).run Tryz.prog W = stored Tryz.prog W a (.complex .f64 x y) m := fun a m W x y => run_store _ _ _ _ _ rfl
  have HR0 : Hid (Rdr w g T s v) := h
  have HX : Hid (Words F T) := HW
  have HF : Hid (LexOk F T.size) := hF
  have hgl := h.lt
  have HNE : Hid (needM F 2 s = .ok s1) := hn
  have HCM : Hid (cmpM F s1 = .ok (2, s2)) := hc
  have d1 := needM_dn1 hF (by decide) hs hn
  have d2 := cmpFrom_dn hF d1.here 8 hc
  have h1 : s1.here ≤ T.size := d1.here
  have h2 : s2.here ≤ T.size := d2.here
  have hl2 : s2.terms.length ≤ 5000 := by have := d1.terms; have := d2.terms; omega
  have HD : Hid (Dn T.size 0 s s2) := (d1.trans d2).less (by omega)
  have hfd := fld2 s.next.kind s.next.place s.next.text s.next.n s.next.late
  have HRR : Hid (restM F s.next.text 2 s2 = R) := hR
  clear h HW hF hn hc d1 d2 hR
  go_enter Tryz.func63, Tryz.ntmps63
  go_wp2_with fail
  refine (need_ok HX.out 2 _ HR0.out hs HNE.out).mono ?_
  rintro e w1 ⟨rfl, hr1, hk1⟩
  have HR1 : Hid (Rdr w1 g T s1 v) := hr1
  have HK1 : Hid (Kept g v w v w1) := hk1
  clear hr1 hk1
  generalize hB : s.next.text = nm at *
  have hg1 := HR1.out.lt
  have HN : Hid (g < w1.heap.size ∧ v.ownBlock ≠ some w1.heap.size) := HR1.out.new (Nat.le_refl _)
  simp only [Wd.cells]
  rw [hB]
  clear hB
  have HRA1 : Hid (Rdr (w1.alloc (.cells #[.int .i64 3, .string nm, .int .i64 0, .int .i64 0, .int .i64 0, .string ⟨#[]⟩, .bool false, .complex .f64 0 0, .int .i64 0] 52)) g T s1 v) := HR1.out.stay (below_alloc w1 _)
  have HKA1 : Hid (Kept g v w v (w1.alloc (.cells #[.int .i64 3, .string nm, .int .i64 0, .int .i64 0, .int .i64 0, .string ⟨#[]⟩, .bool false, .complex .f64 0 0, .int .i64 0] 52))) := HK1.out.trans (Kept.of v (Nat.le_of_lt hg1) (below_alloc w1 _))
  have HBA1 : Hid (Blk (w1.alloc (.cells #[.int .i64 3, .string nm, .int .i64 0, .int .i64 0, .int .i64 0, .string ⟨#[]⟩, .bool false, .complex .f64 0 0, .int .i64 0] 52)) w1.heap.size #[.int .i64 3, .string nm, .int .i64 0, .int .i64 0, .int .i64 0, .string ⟨#[]⟩, .bool false, .complex .f64 0 0, .int .i64 0] 52) := Blk.new w1 _ _
  have hsz : w.heap.size ≤ w1.heap.size := HK1.out.below.size
  go_wp2_with fail
  refine (cmp_any HX.out _ HRA1.out h1 _ HCM.out).mono ?_
  rintro e w2 ⟨rfl, hr2, hk2⟩
  have HR2 : Hid (Rdr (w2.setCell ⟨w1.heap.size, 2, none⟩ (.int .i64 2)) g T s2 v) := hr2.other _ _ HN.out
  have HB2a : Hid (Blk w2 w1.heap.size #[.int .i64 3, .string nm, .int .i64 0, .int .i64 0, .int .i64 0, .string ⟨#[]⟩, .bool false, .complex .f64 0 0, .int .i64 0] 52) := hk2.blk HBA1.out (Nat.ne_of_gt HN.out.1) HN.out.2
  have HB2 : Hid (Blk (w2.setCell ⟨w1.heap.size, 2, none⟩ (.int .i64 2)) w1.heap.size #[.int .i64 3, .string nm, .int .i64 2, .int .i64 0, .int .i64 0, .string ⟨#[]⟩, .bool false, .complex .f64 0 0, .int .i64 0] 52) := HB2a.out.set 2 _
  have HK2 : Hid (Kept g v w v (w2.setCell ⟨w1.heap.size, 2, none⟩ (.int .i64 2))) := (HKA1.out.trans hk2).setNew (Nat.le_of_lt hgl) _ _ hsz
  have b2 : w2.cell? ⟨w1.heap.size, 2, none⟩ = some (.int .i64 0) := HB2a.out.cell 2 rfl
  have y2 := HB2a.out.free 2
  clear hr2 hk2 HRA1 HKA1 HBA1 HB2a
  have HE : Hid (.ok (addM ⟨3, nm, 2, Val.zero, 0⟩ s2) = R) := HRR.out
  clear HRR
  go_wp2_with fail
  obtain ⟨W, HW⟩ : ∃ W, Hid (W = w2.setCell ⟨w1.heap.size, 2, none⟩ (.int .i64 2)) := ⟨_, rfl⟩
  have HRW : Hid (Rdr W g T s2 v) := by show Rdr _ _ _ _ _; rw [HW.out]; exact HR2.out
  have HKW : Hid (Kept g v w v W) := by show Kept _ _ _ _ _; rw [HW.out]; exact HK2.out
  have HBW : Hid (Blk W w1.heap.size (Tm.cells ⟨3, nm, 2, Val.zero, 0⟩) 52) := by show Blk _ _ _ _; rw [HW.out]; exact HB2.out
  have hgW := HRW.out.lt
  obtain ⟨va, vn, vc, rfl⟩ := HRW.out.tms.form3
  have r7 : W.cell? ⟨g, 7, none⟩ = some (.slice va vn vc) := HRW.out.blk.cell 7 rfl
  have a0 : W.cell? ⟨w1.heap.size, 0, none⟩ = some (.int .i64 3) := HBW.out.cell 0 rfl
  have a1 : W.cell? ⟨w1.heap.size, 1, none⟩ = some (.string nm) := HBW.out.cell 1 rfl
  have a2 : W.cell? ⟨w1.heap.size, 2, none⟩ = some (.int .i64 2) := HBW.out.cell 2 rfl
  have a3 : W.cell? ⟨w1.heap.size, 3, none⟩ = some (.int .i64 0) := HBW.out.cell 3 rfl
  have a4 : W.cell? ⟨w1.heap.size, 4, none⟩ = some (.int .i64 0) := HBW.out.cell 4 rfl
  have a5 : W.cell? ⟨w1.heap.size, 5, none⟩ = some (.string ⟨#[]⟩) := HBW.out.cell 5 rfl
  have a6 : W.cell? ⟨w1.heap.size, 6, none⟩ = some (.bool false) := HBW.out.cell 6 rfl
  have a7 : W.cell? ⟨w1.heap.size, 7, none⟩ = some (.complex .f64 0 0) := HBW.out.cell 7 rfl
  have a8 : W.cell? ⟨w1.heap.size, 8, none⟩ = some (.int .i64 0) := HBW.out.cell 8 rfl
  have z0 := HBW.out.free 0
  have z1 := HBW.out.free 1
  have z2 := HBW.out.free 2
  have z3 := HBW.out.free 3
  have z4 := HBW.out.free 4
  have z5 := HBW.out.free 5
  have z6 := HBW.out.free 6
  have z7 := HBW.out.free 7
  have z8 := HBW.out.free 8
  rw [← HW.out]
  clear HW
  have HA : Hid (Below W.heap.size W (W.drew.alloc (.cells (Tm.cells ⟨3, nm, 2, Val.zero, 0⟩) 52))) := (Below.refl _ _).drew.alloc (Nat.le_refl _) _
  have HRA : Hid (Rdr (W.drew.alloc (.cells (Tm.cells ⟨3, nm, 2, Val.zero, 0⟩) 52)) g T s2 (.slice va vn vc)) := HRW.out.stay HA.out
  have HKN : Hid (Blk (W.drew.alloc (.cells (Tm.cells ⟨3, nm, 2, Val.zero, 0⟩) 52)) W.heap.size (Tm.cells ⟨3, nm, 2, Val.zero, 0⟩) 52) := Blk.new W.drew _ _
  have hlA : g + 1 ≤ (W.drew.alloc (.cells (Tm.cells ⟨3, nm, 2, Val.zero, 0⟩) 52)).heap.size := by simp; omega
  simp only [Tm.cells] at HA HRA HKN hlA
  go_wp2_with fail
  go_region_law (refine step_append_tm rfl (.tmp 47) (.tmp 49) rfl (g + 1) _ s2.terms rfl HRA.out.tms ⟨W.heap.size, 0, none⟩ 1 ⟨3, nm, 2, Val.zero, 0⟩ rfl (Tm.told HKN.out) (by omega) hlA ?_; intro v' w9 ht hg; obtain ⟨hr2, hb2⟩ := HRA.out.more _ ht hg; have HR9 : Hid (Rdr (w9.setCell ⟨g, 7, none⟩ v') g T (addM ⟨3, nm, 2, Val.zero, 0⟩ s2) v') := hr2; have HB9 : Hid (Below g w (w9.setCell ⟨g, 7, none⟩ v')) := (HKW.out.below.trans (HA.out.mono (Nat.le_of_lt hgW))).trans hb2; have HK9 : Hid (Blk w9 g (rcells T s2 (.slice va vn vc)) 65) := HRA.out.blk.grown hg (fun e => by have := (HRA.out.tms.row.lt g e.symm).1; omega); have d7 : w9.cell? ⟨g, 7, none⟩ = some (.slice va vn vc) := HK9.out.cell 7 rfl; have f7 := HK9.out.free 7; obtain ⟨va', nn, vc', rfl⟩ := ht.form3; clear hr2 hb2 ht hg)
  all_goals
    refine ⟨rfl, _, results_none rfl _ _ _, ?_⟩
    show AfterU _ _ _ _ _ _
    rw [← HE.out]
    exact ⟨rfl, ⟨_, HR9.out⟩, HB9.out⟩

set_option maxHeartbeats 2000000 in
theorem atom_3 {F : Lex} {T : ByteArray} (HW : Words F T) (hF : LexOk F T.size) {g : Nat} {s s1 s2 : St} {v : Value} (w : World) (h : Rdr w g T s v) (hs : s.here ≤ T.size) (hl : s.terms.length + left T.size s ≤ 5000) (hn : needM F 2 s = .ok s1) (hc : cmpM F s1 = .ok (3, s2)) (R : Res) (hR : restM F s.next.text 3 s2 = R) :
    Calls Tryz.prog 63 #[.pointer (some ⟨g, 0, none⟩)] w fun e w' => AfterU g T w R e w' := by
  have hcx : ∀ (a : Addr) (m : Mode) (W : World) (x y : Nat), (store a (.complex .f64 x y) m).run Tryz.prog W = stored Tryz.prog W a (.complex .f64 x y) m := fun a m W x y => run_store _ _ _ _ _ rfl
  have HR0 : Hid (Rdr w g T s v) := h
  have HX : Hid (Words F T) := HW
  have HF : Hid (LexOk F T.size) := hF
  have hgl := h.lt
  have HNE : Hid (needM F 2 s = .ok s1) := hn
  have HCM : Hid (cmpM F s1 = .ok (3, s2)) := hc
  have d1 := needM_dn1 hF (by decide) hs hn
  have d2 := cmpFrom_dn hF d1.here 8 hc
  have h1 : s1.here ≤ T.size := d1.here
  have h2 : s2.here ≤ T.size := d2.here
  have hl2 : s2.terms.length ≤ 5000 := by have := d1.terms; have := d2.terms; omega
  have HD : Hid (Dn T.size 0 s s2) := (d1.trans d2).less (by omega)
  have hfd := fld2 s.next.kind s.next.place s.next.text s.next.n s.next.late
  have HRR : Hid (restM F s.next.text 3 s2 = R) := hR
  clear h HW hF hn hc d1 d2 hR
  go_enter Tryz.func63, Tryz.ntmps63
  go_wp2_with fail
  refine (need_ok HX.out 2 _ HR0.out hs HNE.out).mono ?_
  rintro e w1 ⟨rfl, hr1, hk1⟩
  have HR1 : Hid (Rdr w1 g T s1 v) := hr1
  have HK1 : Hid (Kept g v w v w1) := hk1
  clear hr1 hk1
  generalize hB : s.next.text = nm at *
  have hg1 := HR1.out.lt
  have HN : Hid (g < w1.heap.size ∧ v.ownBlock ≠ some w1.heap.size) := HR1.out.new (Nat.le_refl _)
  simp only [Wd.cells]
  rw [hB]
  clear hB
  have HRA1 : Hid (Rdr (w1.alloc (.cells #[.int .i64 3, .string nm, .int .i64 0, .int .i64 0, .int .i64 0, .string ⟨#[]⟩, .bool false, .complex .f64 0 0, .int .i64 0] 52)) g T s1 v) := HR1.out.stay (below_alloc w1 _)
  have HKA1 : Hid (Kept g v w v (w1.alloc (.cells #[.int .i64 3, .string nm, .int .i64 0, .int .i64 0, .int .i64 0, .string ⟨#[]⟩, .bool false, .complex .f64 0 0, .int .i64 0] 52))) := HK1.out.trans (Kept.of v (Nat.le_of_lt hg1) (below_alloc w1 _))
  have HBA1 : Hid (Blk (w1.alloc (.cells #[.int .i64 3, .string nm, .int .i64 0, .int .i64 0, .int .i64 0, .string ⟨#[]⟩, .bool false, .complex .f64 0 0, .int .i64 0] 52)) w1.heap.size #[.int .i64 3, .string nm, .int .i64 0, .int .i64 0, .int .i64 0, .string ⟨#[]⟩, .bool false, .complex .f64 0 0, .int .i64 0] 52) := Blk.new w1 _ _
  have hsz : w.heap.size ≤ w1.heap.size := HK1.out.below.size
  go_wp2_with fail
  refine (cmp_any HX.out _ HRA1.out h1 _ HCM.out).mono ?_
  rintro e w2 ⟨rfl, hr2, hk2⟩
  have HR2 : Hid (Rdr (w2.setCell ⟨w1.heap.size, 2, none⟩ (.int .i64 3)) g T s2 v) := hr2.other _ _ HN.out
  have HB2a : Hid (Blk w2 w1.heap.size #[.int .i64 3, .string nm, .int .i64 0, .int .i64 0, .int .i64 0, .string ⟨#[]⟩, .bool false, .complex .f64 0 0, .int .i64 0] 52) := hk2.blk HBA1.out (Nat.ne_of_gt HN.out.1) HN.out.2
  have HB2 : Hid (Blk (w2.setCell ⟨w1.heap.size, 2, none⟩ (.int .i64 3)) w1.heap.size #[.int .i64 3, .string nm, .int .i64 3, .int .i64 0, .int .i64 0, .string ⟨#[]⟩, .bool false, .complex .f64 0 0, .int .i64 0] 52) := HB2a.out.set 2 _
  have HK2 : Hid (Kept g v w v (w2.setCell ⟨w1.heap.size, 2, none⟩ (.int .i64 3))) := (HKA1.out.trans hk2).setNew (Nat.le_of_lt hgl) _ _ hsz
  have b2 : w2.cell? ⟨w1.heap.size, 2, none⟩ = some (.int .i64 0) := HB2a.out.cell 2 rfl
  have y2 := HB2a.out.free 2
  clear hr2 hk2 HRA1 HKA1 HBA1 HB2a
  rcases e3 : valueM F s2 with m | ⟨q, s3⟩
  · have HE : Hid (R = .error m) := by
      have h := HRR.out
      unfold restM at h
      simp [e3] at h
      exact h.symm
    have HP : Hid (valueM F s2 = .error m) := e3
    clear e3 HRR
    go_wp2_with fail
    refine (value_any HX.out HF.out _ HR2.out h2 _ HP.out).mono ?_
    rintro e w3 ⟨rfl, hb⟩
    refine ⟨rfl, ?_⟩
    show AfterU _ _ _ _ _ _
    rw [HE.out]
    exact ⟨rfl, HK2.out.below.trans hb⟩
  · skip
    have d3 := valueM_dn HF.out h2 e3
    have h3 : s3.here ≤ T.size := d3.here
    have hl3 : s3.terms.length ≤ 5000 := by have := HD.out.terms; have := d3.terms; omega
    have HP : Hid (valueM F s2 = .ok (q, s3)) := e3
    have HE : Hid (.ok (addM ⟨3, nm, 3, q, 0⟩ s3) = R) := by
      have h := HRR.out
      unfold restM at h
      simp [e3] at h
      exact h
    clear e3 HRR d3
    go_wp2_with fail
    refine (value_any HX.out HF.out _ HR2.out h2 _ HP.out).mono ?_
    rintro e w3 ⟨rfl, hr3, hk3⟩
    have HR3 : Hid (Rdr w3 g T s3 v) := hr3
    have HB3 : Hid (Blk w3 w1.heap.size #[.int .i64 3, .string nm, .int .i64 3, .int .i64 0, .int .i64 0, .string ⟨#[]⟩, .bool false, .complex .f64 0 0, .int .i64 0] 52) := hk3.blk HB2.out (Nat.ne_of_gt HN.out.1) HN.out.2
    have HK3 : Hid (Kept g v w v w3) := HK2.out.trans hk3
    clear hr3 hk3 b2 y2 HB2 HK2 HR2
    have b0 : w3.cell? ⟨w1.heap.size, 0, none⟩ = some (.int .i64 3) := HB3.out.cell 0 rfl
    have b1 : w3.cell? ⟨w1.heap.size, 1, none⟩ = some (.string nm) := HB3.out.cell 1 rfl
    have b2 : w3.cell? ⟨w1.heap.size, 2, none⟩ = some (.int .i64 3) := HB3.out.cell 2 rfl
    have b3 : w3.cell? ⟨w1.heap.size, 3, none⟩ = some (.int .i64 0) := HB3.out.cell 3 rfl
    have b4 : w3.cell? ⟨w1.heap.size, 4, none⟩ = some (.int .i64 0) := HB3.out.cell 4 rfl
    have b5 : w3.cell? ⟨w1.heap.size, 5, none⟩ = some (.string ⟨#[]⟩) := HB3.out.cell 5 rfl
    have b6 : w3.cell? ⟨w1.heap.size, 6, none⟩ = some (.bool false) := HB3.out.cell 6 rfl
    have b7 : w3.cell? ⟨w1.heap.size, 7, none⟩ = some (.complex .f64 0 0) := HB3.out.cell 7 rfl
    have b8 : w3.cell? ⟨w1.heap.size, 8, none⟩ = some (.int .i64 0) := HB3.out.cell 8 rfl
    have y0 := HB3.out.free 0
    have y1 := HB3.out.free 1
    have y2 := HB3.out.free 2
    have y3 := HB3.out.free 3
    have y4 := HB3.out.free 4
    have y5 := HB3.out.free 5
    have y6 := HB3.out.free 6
    have y7 := HB3.out.free 7
    have y8 := HB3.out.free 8
    obtain ⟨qk, qw, qs, qt, qx, qy⟩ := q
    simp only [Val.cells]
    go_wp2_with fail
    clear b0 b1 b2 b3 b4 b5 b6 b7 b8 y0 y1 y2 y3 y4 y5 y6 y7 y8
    obtain ⟨W, HW⟩ : ∃ W, Hid (W = ((((w3.setCell ⟨w1.heap.size, 3, none⟩ (.int .i64 qk)).setCell ⟨w1.heap.size, 4, none⟩ (.int .i64 qw)).setCell ⟨w1.heap.size, 5, none⟩ (.string qs)).setCell ⟨w1.heap.size, 6, none⟩ (.bool qt)).setCell ⟨w1.heap.size, 7, none⟩ (.complex .f64 qx qy)) := ⟨_, rfl⟩
    have HRW : Hid (Rdr W g T s3 v) := by show Rdr _ _ _ _ _; rw [HW.out]; exact ((((HR3.out.other _ _ HN.out).other _ _ HN.out).other _ _ HN.out).other _ _ HN.out).other _ _ HN.out
    have HKW : Hid (Kept g v w v W) := by show Kept _ _ _ _ _; rw [HW.out]; exact ((((HK3.out.setNew (Nat.le_of_lt hgl) _ _ hsz).setNew (Nat.le_of_lt hgl) _ _ hsz).setNew (Nat.le_of_lt hgl) _ _ hsz).setNew (Nat.le_of_lt hgl) _ _ hsz).setNew (Nat.le_of_lt hgl) _ _ hsz
    have HBW : Hid (Blk W w1.heap.size (Tm.cells ⟨3, nm, 3, ⟨qk, qw, qs, qt, qx, qy⟩, 0⟩) 52) := by show Blk _ _ _ _; rw [HW.out]; exact HB3.out.setV _ _ _ _ _
    have hgW := HRW.out.lt
    obtain ⟨va, vn, vc, rfl⟩ := HRW.out.tms.form3
    have r7 : W.cell? ⟨g, 7, none⟩ = some (.slice va vn vc) := HRW.out.blk.cell 7 rfl
    have a0 : W.cell? ⟨w1.heap.size, 0, none⟩ = some (.int .i64 3) := HBW.out.cell 0 rfl
    have a1 : W.cell? ⟨w1.heap.size, 1, none⟩ = some (.string nm) := HBW.out.cell 1 rfl
    have a2 : W.cell? ⟨w1.heap.size, 2, none⟩ = some (.int .i64 3) := HBW.out.cell 2 rfl
    have a3 : W.cell? ⟨w1.heap.size, 3, none⟩ = some (.int .i64 qk) := HBW.out.cell 3 rfl
    have a4 : W.cell? ⟨w1.heap.size, 4, none⟩ = some (.int .i64 qw) := HBW.out.cell 4 rfl
    have a5 : W.cell? ⟨w1.heap.size, 5, none⟩ = some (.string qs) := HBW.out.cell 5 rfl
    have a6 : W.cell? ⟨w1.heap.size, 6, none⟩ = some (.bool qt) := HBW.out.cell 6 rfl
    have a7 : W.cell? ⟨w1.heap.size, 7, none⟩ = some (.complex .f64 qx qy) := HBW.out.cell 7 rfl
    have a8 : W.cell? ⟨w1.heap.size, 8, none⟩ = some (.int .i64 0) := HBW.out.cell 8 rfl
    have z0 := HBW.out.free 0
    have z1 := HBW.out.free 1
    have z2 := HBW.out.free 2
    have z3 := HBW.out.free 3
    have z4 := HBW.out.free 4
    have z5 := HBW.out.free 5
    have z6 := HBW.out.free 6
    have z7 := HBW.out.free 7
    have z8 := HBW.out.free 8
    rw [← HW.out]
    clear HW
    have HA : Hid (Below W.heap.size W (W.drew.alloc (.cells (Tm.cells ⟨3, nm, 3, ⟨qk, qw, qs, qt, qx, qy⟩, 0⟩) 52))) := (Below.refl _ _).drew.alloc (Nat.le_refl _) _
    have HRA : Hid (Rdr (W.drew.alloc (.cells (Tm.cells ⟨3, nm, 3, ⟨qk, qw, qs, qt, qx, qy⟩, 0⟩) 52)) g T s3 (.slice va vn vc)) := HRW.out.stay HA.out
    have HKN : Hid (Blk (W.drew.alloc (.cells (Tm.cells ⟨3, nm, 3, ⟨qk, qw, qs, qt, qx, qy⟩, 0⟩) 52)) W.heap.size (Tm.cells ⟨3, nm, 3, ⟨qk, qw, qs, qt, qx, qy⟩, 0⟩) 52) := Blk.new W.drew _ _
    have hlA : g + 1 ≤ (W.drew.alloc (.cells (Tm.cells ⟨3, nm, 3, ⟨qk, qw, qs, qt, qx, qy⟩, 0⟩) 52)).heap.size := by simp; omega
    simp only [Tm.cells] at HA HRA HKN hlA
    go_wp2_with fail
    go_region_law (refine step_append_tm rfl (.tmp 47) (.tmp 49) rfl (g + 1) _ s3.terms rfl HRA.out.tms ⟨W.heap.size, 0, none⟩ 1 ⟨3, nm, 3, ⟨qk, qw, qs, qt, qx, qy⟩, 0⟩ rfl (Tm.told HKN.out) (by omega) hlA ?_; intro v' w9 ht hg; obtain ⟨hr2, hb2⟩ := HRA.out.more _ ht hg; have HR9 : Hid (Rdr (w9.setCell ⟨g, 7, none⟩ v') g T (addM ⟨3, nm, 3, ⟨qk, qw, qs, qt, qx, qy⟩, 0⟩ s3) v') := hr2; have HB9 : Hid (Below g w (w9.setCell ⟨g, 7, none⟩ v')) := (HKW.out.below.trans (HA.out.mono (Nat.le_of_lt hgW))).trans hb2; have HK9 : Hid (Blk w9 g (rcells T s3 (.slice va vn vc)) 65) := HRA.out.blk.grown hg (fun e => by have := (HRA.out.tms.row.lt g e.symm).1; omega); have d7 : w9.cell? ⟨g, 7, none⟩ = some (.slice va vn vc) := HK9.out.cell 7 rfl; have f7 := HK9.out.free 7; obtain ⟨va', nn, vc', rfl⟩ := ht.form3; clear hr2 hb2 ht hg)
    all_goals
      refine ⟨rfl, _, results_none rfl _ _ _, ?_⟩
      show AfterU _ _ _ _ _ _
      rw [← HE.out]
      exact ⟨rfl, ⟨_, HR9.out⟩, HB9.out⟩

set_option maxHeartbeats 2000000 in
theorem atom_4 {F : Lex} {T : ByteArray} (HW : Words F T) (hF : LexOk F T.size) {g : Nat} {s s1 s2 : St} {v : Value} (w : World) (h : Rdr w g T s v) (hs : s.here ≤ T.size) (hl : s.terms.length + left T.size s ≤ 5000) (hn : needM F 2 s = .ok s1) (hc : cmpM F s1 = .ok (4, s2)) (R : Res) (hR : restM F s.next.text 4 s2 = R) :
    Calls Tryz.prog 63 #[.pointer (some ⟨g, 0, none⟩)] w fun e w' => AfterU g T w R e w' := by
  have hcx : ∀ (a : Addr) (m : Mode) (W : World) (x y : Nat), (store a (.complex .f64 x y) m).run Tryz.prog W = stored Tryz.prog W a (.complex .f64 x y) m := fun a m W x y => run_store _ _ _ _ _ rfl
  have HR0 : Hid (Rdr w g T s v) := h
  have HX : Hid (Words F T) := HW
  have HF : Hid (LexOk F T.size) := hF
  have hgl := h.lt
  have HNE : Hid (needM F 2 s = .ok s1) := hn
  have HCM : Hid (cmpM F s1 = .ok (4, s2)) := hc
  have d1 := needM_dn1 hF (by decide) hs hn
  have d2 := cmpFrom_dn hF d1.here 8 hc
  have h1 : s1.here ≤ T.size := d1.here
  have h2 : s2.here ≤ T.size := d2.here
  have hl2 : s2.terms.length ≤ 5000 := by have := d1.terms; have := d2.terms; omega
  have HD : Hid (Dn T.size 0 s s2) := (d1.trans d2).less (by omega)
  have hfd := fld2 s.next.kind s.next.place s.next.text s.next.n s.next.late
  have HRR : Hid (restM F s.next.text 4 s2 = R) := hR
  clear h HW hF hn hc d1 d2 hR
  go_enter Tryz.func63, Tryz.ntmps63
  go_wp2_with fail
  refine (need_ok HX.out 2 _ HR0.out hs HNE.out).mono ?_
  rintro e w1 ⟨rfl, hr1, hk1⟩
  have HR1 : Hid (Rdr w1 g T s1 v) := hr1
  have HK1 : Hid (Kept g v w v w1) := hk1
  clear hr1 hk1
  generalize hB : s.next.text = nm at *
  have hg1 := HR1.out.lt
  have HN : Hid (g < w1.heap.size ∧ v.ownBlock ≠ some w1.heap.size) := HR1.out.new (Nat.le_refl _)
  simp only [Wd.cells]
  rw [hB]
  clear hB
  have HRA1 : Hid (Rdr (w1.alloc (.cells #[.int .i64 3, .string nm, .int .i64 0, .int .i64 0, .int .i64 0, .string ⟨#[]⟩, .bool false, .complex .f64 0 0, .int .i64 0] 52)) g T s1 v) := HR1.out.stay (below_alloc w1 _)
  have HKA1 : Hid (Kept g v w v (w1.alloc (.cells #[.int .i64 3, .string nm, .int .i64 0, .int .i64 0, .int .i64 0, .string ⟨#[]⟩, .bool false, .complex .f64 0 0, .int .i64 0] 52))) := HK1.out.trans (Kept.of v (Nat.le_of_lt hg1) (below_alloc w1 _))
  have HBA1 : Hid (Blk (w1.alloc (.cells #[.int .i64 3, .string nm, .int .i64 0, .int .i64 0, .int .i64 0, .string ⟨#[]⟩, .bool false, .complex .f64 0 0, .int .i64 0] 52)) w1.heap.size #[.int .i64 3, .string nm, .int .i64 0, .int .i64 0, .int .i64 0, .string ⟨#[]⟩, .bool false, .complex .f64 0 0, .int .i64 0] 52) := Blk.new w1 _ _
  have hsz : w.heap.size ≤ w1.heap.size := HK1.out.below.size
  go_wp2_with fail
  refine (cmp_any HX.out _ HRA1.out h1 _ HCM.out).mono ?_
  rintro e w2 ⟨rfl, hr2, hk2⟩
  have HR2 : Hid (Rdr (w2.setCell ⟨w1.heap.size, 2, none⟩ (.int .i64 4)) g T s2 v) := hr2.other _ _ HN.out
  have HB2a : Hid (Blk w2 w1.heap.size #[.int .i64 3, .string nm, .int .i64 0, .int .i64 0, .int .i64 0, .string ⟨#[]⟩, .bool false, .complex .f64 0 0, .int .i64 0] 52) := hk2.blk HBA1.out (Nat.ne_of_gt HN.out.1) HN.out.2
  have HB2 : Hid (Blk (w2.setCell ⟨w1.heap.size, 2, none⟩ (.int .i64 4)) w1.heap.size #[.int .i64 3, .string nm, .int .i64 4, .int .i64 0, .int .i64 0, .string ⟨#[]⟩, .bool false, .complex .f64 0 0, .int .i64 0] 52) := HB2a.out.set 2 _
  have HK2 : Hid (Kept g v w v (w2.setCell ⟨w1.heap.size, 2, none⟩ (.int .i64 4))) := (HKA1.out.trans hk2).setNew (Nat.le_of_lt hgl) _ _ hsz
  have b2 : w2.cell? ⟨w1.heap.size, 2, none⟩ = some (.int .i64 0) := HB2a.out.cell 2 rfl
  have y2 := HB2a.out.free 2
  clear hr2 hk2 HRA1 HKA1 HBA1 HB2a
  rcases e3 : valueM F s2 with m | ⟨q, s3⟩
  · have HE : Hid (R = .error m) := by
      have h := HRR.out
      unfold restM at h
      simp [e3] at h
      exact h.symm
    have HP : Hid (valueM F s2 = .error m) := e3
    clear e3 HRR
    go_wp2_with fail
    refine (value_any HX.out HF.out _ HR2.out h2 _ HP.out).mono ?_
    rintro e w3 ⟨rfl, hb⟩
    refine ⟨rfl, ?_⟩
    show AfterU _ _ _ _ _ _
    rw [HE.out]
    exact ⟨rfl, HK2.out.below.trans hb⟩
  · skip
    have d3 := valueM_dn HF.out h2 e3
    have h3 : s3.here ≤ T.size := d3.here
    have hl3 : s3.terms.length ≤ 5000 := by have := HD.out.terms; have := d3.terms; omega
    have HP : Hid (valueM F s2 = .ok (q, s3)) := e3
    have HE : Hid (.ok (addM ⟨3, nm, 4, q, 0⟩ s3) = R) := by
      have h := HRR.out
      unfold restM at h
      simp [e3] at h
      exact h
    clear e3 HRR d3
    go_wp2_with fail
    refine (value_any HX.out HF.out _ HR2.out h2 _ HP.out).mono ?_
    rintro e w3 ⟨rfl, hr3, hk3⟩
    have HR3 : Hid (Rdr w3 g T s3 v) := hr3
    have HB3 : Hid (Blk w3 w1.heap.size #[.int .i64 3, .string nm, .int .i64 4, .int .i64 0, .int .i64 0, .string ⟨#[]⟩, .bool false, .complex .f64 0 0, .int .i64 0] 52) := hk3.blk HB2.out (Nat.ne_of_gt HN.out.1) HN.out.2
    have HK3 : Hid (Kept g v w v w3) := HK2.out.trans hk3
    clear hr3 hk3 b2 y2 HB2 HK2 HR2
    have b0 : w3.cell? ⟨w1.heap.size, 0, none⟩ = some (.int .i64 3) := HB3.out.cell 0 rfl
    have b1 : w3.cell? ⟨w1.heap.size, 1, none⟩ = some (.string nm) := HB3.out.cell 1 rfl
    have b2 : w3.cell? ⟨w1.heap.size, 2, none⟩ = some (.int .i64 4) := HB3.out.cell 2 rfl
    have b3 : w3.cell? ⟨w1.heap.size, 3, none⟩ = some (.int .i64 0) := HB3.out.cell 3 rfl
    have b4 : w3.cell? ⟨w1.heap.size, 4, none⟩ = some (.int .i64 0) := HB3.out.cell 4 rfl
    have b5 : w3.cell? ⟨w1.heap.size, 5, none⟩ = some (.string ⟨#[]⟩) := HB3.out.cell 5 rfl
    have b6 : w3.cell? ⟨w1.heap.size, 6, none⟩ = some (.bool false) := HB3.out.cell 6 rfl
    have b7 : w3.cell? ⟨w1.heap.size, 7, none⟩ = some (.complex .f64 0 0) := HB3.out.cell 7 rfl
    have b8 : w3.cell? ⟨w1.heap.size, 8, none⟩ = some (.int .i64 0) := HB3.out.cell 8 rfl
    have y0 := HB3.out.free 0
    have y1 := HB3.out.free 1
    have y2 := HB3.out.free 2
    have y3 := HB3.out.free 3
    have y4 := HB3.out.free 4
    have y5 := HB3.out.free 5
    have y6 := HB3.out.free 6
    have y7 := HB3.out.free 7
    have y8 := HB3.out.free 8
    obtain ⟨qk, qw, qs, qt, qx, qy⟩ := q
    simp only [Val.cells]
    go_wp2_with fail
    clear b0 b1 b2 b3 b4 b5 b6 b7 b8 y0 y1 y2 y3 y4 y5 y6 y7 y8
    obtain ⟨W, HW⟩ : ∃ W, Hid (W = ((((w3.setCell ⟨w1.heap.size, 3, none⟩ (.int .i64 qk)).setCell ⟨w1.heap.size, 4, none⟩ (.int .i64 qw)).setCell ⟨w1.heap.size, 5, none⟩ (.string qs)).setCell ⟨w1.heap.size, 6, none⟩ (.bool qt)).setCell ⟨w1.heap.size, 7, none⟩ (.complex .f64 qx qy)) := ⟨_, rfl⟩
    have HRW : Hid (Rdr W g T s3 v) := by show Rdr _ _ _ _ _; rw [HW.out]; exact ((((HR3.out.other _ _ HN.out).other _ _ HN.out).other _ _ HN.out).other _ _ HN.out).other _ _ HN.out
    have HKW : Hid (Kept g v w v W) := by show Kept _ _ _ _ _; rw [HW.out]; exact ((((HK3.out.setNew (Nat.le_of_lt hgl) _ _ hsz).setNew (Nat.le_of_lt hgl) _ _ hsz).setNew (Nat.le_of_lt hgl) _ _ hsz).setNew (Nat.le_of_lt hgl) _ _ hsz).setNew (Nat.le_of_lt hgl) _ _ hsz
    have HBW : Hid (Blk W w1.heap.size (Tm.cells ⟨3, nm, 4, ⟨qk, qw, qs, qt, qx, qy⟩, 0⟩) 52) := by show Blk _ _ _ _; rw [HW.out]; exact HB3.out.setV _ _ _ _ _
    have hgW := HRW.out.lt
    obtain ⟨va, vn, vc, rfl⟩ := HRW.out.tms.form3
    have r7 : W.cell? ⟨g, 7, none⟩ = some (.slice va vn vc) := HRW.out.blk.cell 7 rfl
    have a0 : W.cell? ⟨w1.heap.size, 0, none⟩ = some (.int .i64 3) := HBW.out.cell 0 rfl
    have a1 : W.cell? ⟨w1.heap.size, 1, none⟩ = some (.string nm) := HBW.out.cell 1 rfl
    have a2 : W.cell? ⟨w1.heap.size, 2, none⟩ = some (.int .i64 4) := HBW.out.cell 2 rfl
    have a3 : W.cell? ⟨w1.heap.size, 3, none⟩ = some (.int .i64 qk) := HBW.out.cell 3 rfl
    have a4 : W.cell? ⟨w1.heap.size, 4, none⟩ = some (.int .i64 qw) := HBW.out.cell 4 rfl
    have a5 : W.cell? ⟨w1.heap.size, 5, none⟩ = some (.string qs) := HBW.out.cell 5 rfl
    have a6 : W.cell? ⟨w1.heap.size, 6, none⟩ = some (.bool qt) := HBW.out.cell 6 rfl
    have a7 : W.cell? ⟨w1.heap.size, 7, none⟩ = some (.complex .f64 qx qy) := HBW.out.cell 7 rfl
    have a8 : W.cell? ⟨w1.heap.size, 8, none⟩ = some (.int .i64 0) := HBW.out.cell 8 rfl
    have z0 := HBW.out.free 0
    have z1 := HBW.out.free 1
    have z2 := HBW.out.free 2
    have z3 := HBW.out.free 3
    have z4 := HBW.out.free 4
    have z5 := HBW.out.free 5
    have z6 := HBW.out.free 6
    have z7 := HBW.out.free 7
    have z8 := HBW.out.free 8
    rw [← HW.out]
    clear HW
    have HA : Hid (Below W.heap.size W (W.drew.alloc (.cells (Tm.cells ⟨3, nm, 4, ⟨qk, qw, qs, qt, qx, qy⟩, 0⟩) 52))) := (Below.refl _ _).drew.alloc (Nat.le_refl _) _
    have HRA : Hid (Rdr (W.drew.alloc (.cells (Tm.cells ⟨3, nm, 4, ⟨qk, qw, qs, qt, qx, qy⟩, 0⟩) 52)) g T s3 (.slice va vn vc)) := HRW.out.stay HA.out
    have HKN : Hid (Blk (W.drew.alloc (.cells (Tm.cells ⟨3, nm, 4, ⟨qk, qw, qs, qt, qx, qy⟩, 0⟩) 52)) W.heap.size (Tm.cells ⟨3, nm, 4, ⟨qk, qw, qs, qt, qx, qy⟩, 0⟩) 52) := Blk.new W.drew _ _
    have hlA : g + 1 ≤ (W.drew.alloc (.cells (Tm.cells ⟨3, nm, 4, ⟨qk, qw, qs, qt, qx, qy⟩, 0⟩) 52)).heap.size := by simp; omega
    simp only [Tm.cells] at HA HRA HKN hlA
    go_wp2_with fail
    go_region_law (refine step_append_tm rfl (.tmp 47) (.tmp 49) rfl (g + 1) _ s3.terms rfl HRA.out.tms ⟨W.heap.size, 0, none⟩ 1 ⟨3, nm, 4, ⟨qk, qw, qs, qt, qx, qy⟩, 0⟩ rfl (Tm.told HKN.out) (by omega) hlA ?_; intro v' w9 ht hg; obtain ⟨hr2, hb2⟩ := HRA.out.more _ ht hg; have HR9 : Hid (Rdr (w9.setCell ⟨g, 7, none⟩ v') g T (addM ⟨3, nm, 4, ⟨qk, qw, qs, qt, qx, qy⟩, 0⟩ s3) v') := hr2; have HB9 : Hid (Below g w (w9.setCell ⟨g, 7, none⟩ v')) := (HKW.out.below.trans (HA.out.mono (Nat.le_of_lt hgW))).trans hb2; have HK9 : Hid (Blk w9 g (rcells T s3 (.slice va vn vc)) 65) := HRA.out.blk.grown hg (fun e => by have := (HRA.out.tms.row.lt g e.symm).1; omega); have d7 : w9.cell? ⟨g, 7, none⟩ = some (.slice va vn vc) := HK9.out.cell 7 rfl; have f7 := HK9.out.free 7; obtain ⟨va', nn, vc', rfl⟩ := ht.form3; clear hr2 hb2 ht hg)
    all_goals
      refine ⟨rfl, _, results_none rfl _ _ _, ?_⟩
      show AfterU _ _ _ _ _ _
      rw [← HE.out]
      exact ⟨rfl, ⟨_, HR9.out⟩, HB9.out⟩

set_option maxHeartbeats 2000000 in
theorem atom_5 {F : Lex} {T : ByteArray} (HW : Words F T) (hF : LexOk F T.size) {g : Nat} {s s1 s2 : St} {v : Value} (w : World) (h : Rdr w g T s v) (hs : s.here ≤ T.size) (hl : s.terms.length + left T.size s ≤ 5000) (hn : needM F 2 s = .ok s1) (hc : cmpM F s1 = .ok (5, s2)) (R : Res) (hR : restM F s.next.text 5 s2 = R) :
    Calls Tryz.prog 63 #[.pointer (some ⟨g, 0, none⟩)] w fun e w' => AfterU g T w R e w' := by
  have hcx : ∀ (a : Addr) (m : Mode) (W : World) (x y : Nat), (store a (.complex .f64 x y) m).run Tryz.prog W = stored Tryz.prog W a (.complex .f64 x y) m := fun a m W x y => run_store _ _ _ _ _ rfl
  have HR0 : Hid (Rdr w g T s v) := h
  have HX : Hid (Words F T) := HW
  have HF : Hid (LexOk F T.size) := hF
  have hgl := h.lt
  have HNE : Hid (needM F 2 s = .ok s1) := hn
  have HCM : Hid (cmpM F s1 = .ok (5, s2)) := hc
  have d1 := needM_dn1 hF (by decide) hs hn
  have d2 := cmpFrom_dn hF d1.here 8 hc
  have h1 : s1.here ≤ T.size := d1.here
  have h2 : s2.here ≤ T.size := d2.here
  have hl2 : s2.terms.length ≤ 5000 := by have := d1.terms; have := d2.terms; omega
  have HD : Hid (Dn T.size 0 s s2) := (d1.trans d2).less (by omega)
  have hfd := fld2 s.next.kind s.next.place s.next.text s.next.n s.next.late
  have HRR : Hid (restM F s.next.text 5 s2 = R) := hR
  clear h HW hF hn hc d1 d2 hR
  go_enter Tryz.func63, Tryz.ntmps63
  go_wp2_with fail
  refine (need_ok HX.out 2 _ HR0.out hs HNE.out).mono ?_
  rintro e w1 ⟨rfl, hr1, hk1⟩
  have HR1 : Hid (Rdr w1 g T s1 v) := hr1
  have HK1 : Hid (Kept g v w v w1) := hk1
  clear hr1 hk1
  generalize hB : s.next.text = nm at *
  have hg1 := HR1.out.lt
  have HN : Hid (g < w1.heap.size ∧ v.ownBlock ≠ some w1.heap.size) := HR1.out.new (Nat.le_refl _)
  simp only [Wd.cells]
  rw [hB]
  clear hB
  have HRA1 : Hid (Rdr (w1.alloc (.cells #[.int .i64 3, .string nm, .int .i64 0, .int .i64 0, .int .i64 0, .string ⟨#[]⟩, .bool false, .complex .f64 0 0, .int .i64 0] 52)) g T s1 v) := HR1.out.stay (below_alloc w1 _)
  have HKA1 : Hid (Kept g v w v (w1.alloc (.cells #[.int .i64 3, .string nm, .int .i64 0, .int .i64 0, .int .i64 0, .string ⟨#[]⟩, .bool false, .complex .f64 0 0, .int .i64 0] 52))) := HK1.out.trans (Kept.of v (Nat.le_of_lt hg1) (below_alloc w1 _))
  have HBA1 : Hid (Blk (w1.alloc (.cells #[.int .i64 3, .string nm, .int .i64 0, .int .i64 0, .int .i64 0, .string ⟨#[]⟩, .bool false, .complex .f64 0 0, .int .i64 0] 52)) w1.heap.size #[.int .i64 3, .string nm, .int .i64 0, .int .i64 0, .int .i64 0, .string ⟨#[]⟩, .bool false, .complex .f64 0 0, .int .i64 0] 52) := Blk.new w1 _ _
  have hsz : w.heap.size ≤ w1.heap.size := HK1.out.below.size
  go_wp2_with fail
  refine (cmp_any HX.out _ HRA1.out h1 _ HCM.out).mono ?_
  rintro e w2 ⟨rfl, hr2, hk2⟩
  have HR2 : Hid (Rdr (w2.setCell ⟨w1.heap.size, 2, none⟩ (.int .i64 5)) g T s2 v) := hr2.other _ _ HN.out
  have HB2a : Hid (Blk w2 w1.heap.size #[.int .i64 3, .string nm, .int .i64 0, .int .i64 0, .int .i64 0, .string ⟨#[]⟩, .bool false, .complex .f64 0 0, .int .i64 0] 52) := hk2.blk HBA1.out (Nat.ne_of_gt HN.out.1) HN.out.2
  have HB2 : Hid (Blk (w2.setCell ⟨w1.heap.size, 2, none⟩ (.int .i64 5)) w1.heap.size #[.int .i64 3, .string nm, .int .i64 5, .int .i64 0, .int .i64 0, .string ⟨#[]⟩, .bool false, .complex .f64 0 0, .int .i64 0] 52) := HB2a.out.set 2 _
  have HK2 : Hid (Kept g v w v (w2.setCell ⟨w1.heap.size, 2, none⟩ (.int .i64 5))) := (HKA1.out.trans hk2).setNew (Nat.le_of_lt hgl) _ _ hsz
  have b2 : w2.cell? ⟨w1.heap.size, 2, none⟩ = some (.int .i64 0) := HB2a.out.cell 2 rfl
  have y2 := HB2a.out.free 2
  clear hr2 hk2 HRA1 HKA1 HBA1 HB2a
  rcases e3 : orderedM F s2 with m | ⟨q, s3⟩
  · have HE : Hid (R = .error m) := by
      have h := HRR.out
      unfold restM at h
      simp [e3] at h
      exact h.symm
    have HP : Hid (orderedM F s2 = .error m) := e3
    clear e3 HRR
    go_wp2_with fail
    refine (ordered_bad HX.out _ HR2.out h2 HP.out).mono ?_
    rintro e w3 ⟨rfl, hb⟩
    refine ⟨rfl, ?_⟩
    show AfterU _ _ _ _ _ _
    rw [HE.out]
    exact ⟨rfl, HK2.out.below.trans (hb.mono (Nat.le_of_lt HR2.out.lt))⟩
  · skip
    have d3 := orderedM_dn HF.out h2 e3
    have h3 : s3.here ≤ T.size := d3.here
    have hl3 : s3.terms.length ≤ 5000 := by have := HD.out.terms; have := d3.terms; omega
    have HP : Hid (orderedM F s2 = .ok (q, s3)) := e3
    have HE : Hid (.ok (addM ⟨3, nm, 5, q, 0⟩ s3) = R) := by
      have h := HRR.out
      unfold restM at h
      simp [e3] at h
      exact h
    clear e3 HRR d3
    go_wp2_with fail
    refine (ordered_ok HX.out _ HR2.out h2 HP.out).mono ?_
    rintro e w3 ⟨rfl, hr3, hk3⟩
    have HR3 : Hid (Rdr w3 g T s3 v) := hr3
    have HB3 : Hid (Blk w3 w1.heap.size #[.int .i64 3, .string nm, .int .i64 5, .int .i64 0, .int .i64 0, .string ⟨#[]⟩, .bool false, .complex .f64 0 0, .int .i64 0] 52) := hk3.blk HB2.out (Nat.ne_of_gt HN.out.1) HN.out.2
    have HK3 : Hid (Kept g v w v w3) := HK2.out.trans hk3
    clear hr3 hk3 b2 y2 HB2 HK2 HR2
    have b0 : w3.cell? ⟨w1.heap.size, 0, none⟩ = some (.int .i64 3) := HB3.out.cell 0 rfl
    have b1 : w3.cell? ⟨w1.heap.size, 1, none⟩ = some (.string nm) := HB3.out.cell 1 rfl
    have b2 : w3.cell? ⟨w1.heap.size, 2, none⟩ = some (.int .i64 5) := HB3.out.cell 2 rfl
    have b3 : w3.cell? ⟨w1.heap.size, 3, none⟩ = some (.int .i64 0) := HB3.out.cell 3 rfl
    have b4 : w3.cell? ⟨w1.heap.size, 4, none⟩ = some (.int .i64 0) := HB3.out.cell 4 rfl
    have b5 : w3.cell? ⟨w1.heap.size, 5, none⟩ = some (.string ⟨#[]⟩) := HB3.out.cell 5 rfl
    have b6 : w3.cell? ⟨w1.heap.size, 6, none⟩ = some (.bool false) := HB3.out.cell 6 rfl
    have b7 : w3.cell? ⟨w1.heap.size, 7, none⟩ = some (.complex .f64 0 0) := HB3.out.cell 7 rfl
    have b8 : w3.cell? ⟨w1.heap.size, 8, none⟩ = some (.int .i64 0) := HB3.out.cell 8 rfl
    have y0 := HB3.out.free 0
    have y1 := HB3.out.free 1
    have y2 := HB3.out.free 2
    have y3 := HB3.out.free 3
    have y4 := HB3.out.free 4
    have y5 := HB3.out.free 5
    have y6 := HB3.out.free 6
    have y7 := HB3.out.free 7
    have y8 := HB3.out.free 8
    obtain ⟨qk, qw, qs, qt, qx, qy⟩ := q
    simp only [Val.cells]
    go_wp2_with fail
    clear b0 b1 b2 b3 b4 b5 b6 b7 b8 y0 y1 y2 y3 y4 y5 y6 y7 y8
    obtain ⟨W, HW⟩ : ∃ W, Hid (W = ((((w3.setCell ⟨w1.heap.size, 3, none⟩ (.int .i64 qk)).setCell ⟨w1.heap.size, 4, none⟩ (.int .i64 qw)).setCell ⟨w1.heap.size, 5, none⟩ (.string qs)).setCell ⟨w1.heap.size, 6, none⟩ (.bool qt)).setCell ⟨w1.heap.size, 7, none⟩ (.complex .f64 qx qy)) := ⟨_, rfl⟩
    have HRW : Hid (Rdr W g T s3 v) := by show Rdr _ _ _ _ _; rw [HW.out]; exact ((((HR3.out.other _ _ HN.out).other _ _ HN.out).other _ _ HN.out).other _ _ HN.out).other _ _ HN.out
    have HKW : Hid (Kept g v w v W) := by show Kept _ _ _ _ _; rw [HW.out]; exact ((((HK3.out.setNew (Nat.le_of_lt hgl) _ _ hsz).setNew (Nat.le_of_lt hgl) _ _ hsz).setNew (Nat.le_of_lt hgl) _ _ hsz).setNew (Nat.le_of_lt hgl) _ _ hsz).setNew (Nat.le_of_lt hgl) _ _ hsz
    have HBW : Hid (Blk W w1.heap.size (Tm.cells ⟨3, nm, 5, ⟨qk, qw, qs, qt, qx, qy⟩, 0⟩) 52) := by show Blk _ _ _ _; rw [HW.out]; exact HB3.out.setV _ _ _ _ _
    have hgW := HRW.out.lt
    obtain ⟨va, vn, vc, rfl⟩ := HRW.out.tms.form3
    have r7 : W.cell? ⟨g, 7, none⟩ = some (.slice va vn vc) := HRW.out.blk.cell 7 rfl
    have a0 : W.cell? ⟨w1.heap.size, 0, none⟩ = some (.int .i64 3) := HBW.out.cell 0 rfl
    have a1 : W.cell? ⟨w1.heap.size, 1, none⟩ = some (.string nm) := HBW.out.cell 1 rfl
    have a2 : W.cell? ⟨w1.heap.size, 2, none⟩ = some (.int .i64 5) := HBW.out.cell 2 rfl
    have a3 : W.cell? ⟨w1.heap.size, 3, none⟩ = some (.int .i64 qk) := HBW.out.cell 3 rfl
    have a4 : W.cell? ⟨w1.heap.size, 4, none⟩ = some (.int .i64 qw) := HBW.out.cell 4 rfl
    have a5 : W.cell? ⟨w1.heap.size, 5, none⟩ = some (.string qs) := HBW.out.cell 5 rfl
    have a6 : W.cell? ⟨w1.heap.size, 6, none⟩ = some (.bool qt) := HBW.out.cell 6 rfl
    have a7 : W.cell? ⟨w1.heap.size, 7, none⟩ = some (.complex .f64 qx qy) := HBW.out.cell 7 rfl
    have a8 : W.cell? ⟨w1.heap.size, 8, none⟩ = some (.int .i64 0) := HBW.out.cell 8 rfl
    have z0 := HBW.out.free 0
    have z1 := HBW.out.free 1
    have z2 := HBW.out.free 2
    have z3 := HBW.out.free 3
    have z4 := HBW.out.free 4
    have z5 := HBW.out.free 5
    have z6 := HBW.out.free 6
    have z7 := HBW.out.free 7
    have z8 := HBW.out.free 8
    rw [← HW.out]
    clear HW
    have HA : Hid (Below W.heap.size W (W.drew.alloc (.cells (Tm.cells ⟨3, nm, 5, ⟨qk, qw, qs, qt, qx, qy⟩, 0⟩) 52))) := (Below.refl _ _).drew.alloc (Nat.le_refl _) _
    have HRA : Hid (Rdr (W.drew.alloc (.cells (Tm.cells ⟨3, nm, 5, ⟨qk, qw, qs, qt, qx, qy⟩, 0⟩) 52)) g T s3 (.slice va vn vc)) := HRW.out.stay HA.out
    have HKN : Hid (Blk (W.drew.alloc (.cells (Tm.cells ⟨3, nm, 5, ⟨qk, qw, qs, qt, qx, qy⟩, 0⟩) 52)) W.heap.size (Tm.cells ⟨3, nm, 5, ⟨qk, qw, qs, qt, qx, qy⟩, 0⟩) 52) := Blk.new W.drew _ _
    have hlA : g + 1 ≤ (W.drew.alloc (.cells (Tm.cells ⟨3, nm, 5, ⟨qk, qw, qs, qt, qx, qy⟩, 0⟩) 52)).heap.size := by simp; omega
    simp only [Tm.cells] at HA HRA HKN hlA
    go_wp2_with fail
    go_region_law (refine step_append_tm rfl (.tmp 47) (.tmp 49) rfl (g + 1) _ s3.terms rfl HRA.out.tms ⟨W.heap.size, 0, none⟩ 1 ⟨3, nm, 5, ⟨qk, qw, qs, qt, qx, qy⟩, 0⟩ rfl (Tm.told HKN.out) (by omega) hlA ?_; intro v' w9 ht hg; obtain ⟨hr2, hb2⟩ := HRA.out.more _ ht hg; have HR9 : Hid (Rdr (w9.setCell ⟨g, 7, none⟩ v') g T (addM ⟨3, nm, 5, ⟨qk, qw, qs, qt, qx, qy⟩, 0⟩ s3) v') := hr2; have HB9 : Hid (Below g w (w9.setCell ⟨g, 7, none⟩ v')) := (HKW.out.below.trans (HA.out.mono (Nat.le_of_lt hgW))).trans hb2; have HK9 : Hid (Blk w9 g (rcells T s3 (.slice va vn vc)) 65) := HRA.out.blk.grown hg (fun e => by have := (HRA.out.tms.row.lt g e.symm).1; omega); have d7 : w9.cell? ⟨g, 7, none⟩ = some (.slice va vn vc) := HK9.out.cell 7 rfl; have f7 := HK9.out.free 7; obtain ⟨va', nn, vc', rfl⟩ := ht.form3; clear hr2 hb2 ht hg)
    all_goals
      refine ⟨rfl, _, results_none rfl _ _ _, ?_⟩
      show AfterU _ _ _ _ _ _
      rw [← HE.out]
      exact ⟨rfl, ⟨_, HR9.out⟩, HB9.out⟩

set_option maxHeartbeats 2000000 in
theorem atom_6 {F : Lex} {T : ByteArray} (HW : Words F T) (hF : LexOk F T.size) {g : Nat} {s s1 s2 : St} {v : Value} (w : World) (h : Rdr w g T s v) (hs : s.here ≤ T.size) (hl : s.terms.length + left T.size s ≤ 5000) (hn : needM F 2 s = .ok s1) (hc : cmpM F s1 = .ok (6, s2)) (R : Res) (hR : restM F s.next.text 6 s2 = R) :
    Calls Tryz.prog 63 #[.pointer (some ⟨g, 0, none⟩)] w fun e w' => AfterU g T w R e w' := by
  have hcx : ∀ (a : Addr) (m : Mode) (W : World) (x y : Nat), (store a (.complex .f64 x y) m).run Tryz.prog W = stored Tryz.prog W a (.complex .f64 x y) m := fun a m W x y => run_store _ _ _ _ _ rfl
  have HR0 : Hid (Rdr w g T s v) := h
  have HX : Hid (Words F T) := HW
  have HF : Hid (LexOk F T.size) := hF
  have hgl := h.lt
  have HNE : Hid (needM F 2 s = .ok s1) := hn
  have HCM : Hid (cmpM F s1 = .ok (6, s2)) := hc
  have d1 := needM_dn1 hF (by decide) hs hn
  have d2 := cmpFrom_dn hF d1.here 8 hc
  have h1 : s1.here ≤ T.size := d1.here
  have h2 : s2.here ≤ T.size := d2.here
  have hl2 : s2.terms.length ≤ 5000 := by have := d1.terms; have := d2.terms; omega
  have HD : Hid (Dn T.size 0 s s2) := (d1.trans d2).less (by omega)
  have hfd := fld2 s.next.kind s.next.place s.next.text s.next.n s.next.late
  have HRR : Hid (restM F s.next.text 6 s2 = R) := hR
  clear h HW hF hn hc d1 d2 hR
  go_enter Tryz.func63, Tryz.ntmps63
  go_wp2_with fail
  refine (need_ok HX.out 2 _ HR0.out hs HNE.out).mono ?_
  rintro e w1 ⟨rfl, hr1, hk1⟩
  have HR1 : Hid (Rdr w1 g T s1 v) := hr1
  have HK1 : Hid (Kept g v w v w1) := hk1
  clear hr1 hk1
  generalize hB : s.next.text = nm at *
  have hg1 := HR1.out.lt
  have HN : Hid (g < w1.heap.size ∧ v.ownBlock ≠ some w1.heap.size) := HR1.out.new (Nat.le_refl _)
  simp only [Wd.cells]
  rw [hB]
  clear hB
  have HRA1 : Hid (Rdr (w1.alloc (.cells #[.int .i64 3, .string nm, .int .i64 0, .int .i64 0, .int .i64 0, .string ⟨#[]⟩, .bool false, .complex .f64 0 0, .int .i64 0] 52)) g T s1 v) := HR1.out.stay (below_alloc w1 _)
  have HKA1 : Hid (Kept g v w v (w1.alloc (.cells #[.int .i64 3, .string nm, .int .i64 0, .int .i64 0, .int .i64 0, .string ⟨#[]⟩, .bool false, .complex .f64 0 0, .int .i64 0] 52))) := HK1.out.trans (Kept.of v (Nat.le_of_lt hg1) (below_alloc w1 _))
  have HBA1 : Hid (Blk (w1.alloc (.cells #[.int .i64 3, .string nm, .int .i64 0, .int .i64 0, .int .i64 0, .string ⟨#[]⟩, .bool false, .complex .f64 0 0, .int .i64 0] 52)) w1.heap.size #[.int .i64 3, .string nm, .int .i64 0, .int .i64 0, .int .i64 0, .string ⟨#[]⟩, .bool false, .complex .f64 0 0, .int .i64 0] 52) := Blk.new w1 _ _
  have hsz : w.heap.size ≤ w1.heap.size := HK1.out.below.size
  go_wp2_with fail
  refine (cmp_any HX.out _ HRA1.out h1 _ HCM.out).mono ?_
  rintro e w2 ⟨rfl, hr2, hk2⟩
  have HR2 : Hid (Rdr (w2.setCell ⟨w1.heap.size, 2, none⟩ (.int .i64 6)) g T s2 v) := hr2.other _ _ HN.out
  have HB2a : Hid (Blk w2 w1.heap.size #[.int .i64 3, .string nm, .int .i64 0, .int .i64 0, .int .i64 0, .string ⟨#[]⟩, .bool false, .complex .f64 0 0, .int .i64 0] 52) := hk2.blk HBA1.out (Nat.ne_of_gt HN.out.1) HN.out.2
  have HB2 : Hid (Blk (w2.setCell ⟨w1.heap.size, 2, none⟩ (.int .i64 6)) w1.heap.size #[.int .i64 3, .string nm, .int .i64 6, .int .i64 0, .int .i64 0, .string ⟨#[]⟩, .bool false, .complex .f64 0 0, .int .i64 0] 52) := HB2a.out.set 2 _
  have HK2 : Hid (Kept g v w v (w2.setCell ⟨w1.heap.size, 2, none⟩ (.int .i64 6))) := (HKA1.out.trans hk2).setNew (Nat.le_of_lt hgl) _ _ hsz
  have b2 : w2.cell? ⟨w1.heap.size, 2, none⟩ = some (.int .i64 0) := HB2a.out.cell 2 rfl
  have y2 := HB2a.out.free 2
  clear hr2 hk2 HRA1 HKA1 HBA1 HB2a
  rcases e3 : orderedM F s2 with m | ⟨q, s3⟩
  · have HE : Hid (R = .error m) := by
      have h := HRR.out
      unfold restM at h
      simp [e3] at h
      exact h.symm
    have HP : Hid (orderedM F s2 = .error m) := e3
    clear e3 HRR
    go_wp2_with fail
    refine (ordered_bad HX.out _ HR2.out h2 HP.out).mono ?_
    rintro e w3 ⟨rfl, hb⟩
    refine ⟨rfl, ?_⟩
    show AfterU _ _ _ _ _ _
    rw [HE.out]
    exact ⟨rfl, HK2.out.below.trans (hb.mono (Nat.le_of_lt HR2.out.lt))⟩
  · skip
    have d3 := orderedM_dn HF.out h2 e3
    have h3 : s3.here ≤ T.size := d3.here
    have hl3 : s3.terms.length ≤ 5000 := by have := HD.out.terms; have := d3.terms; omega
    have HP : Hid (orderedM F s2 = .ok (q, s3)) := e3
    have HE : Hid (.ok (addM ⟨3, nm, 6, q, 0⟩ s3) = R) := by
      have h := HRR.out
      unfold restM at h
      simp [e3] at h
      exact h
    clear e3 HRR d3
    go_wp2_with fail
    refine (ordered_ok HX.out _ HR2.out h2 HP.out).mono ?_
    rintro e w3 ⟨rfl, hr3, hk3⟩
    have HR3 : Hid (Rdr w3 g T s3 v) := hr3
    have HB3 : Hid (Blk w3 w1.heap.size #[.int .i64 3, .string nm, .int .i64 6, .int .i64 0, .int .i64 0, .string ⟨#[]⟩, .bool false, .complex .f64 0 0, .int .i64 0] 52) := hk3.blk HB2.out (Nat.ne_of_gt HN.out.1) HN.out.2
    have HK3 : Hid (Kept g v w v w3) := HK2.out.trans hk3
    clear hr3 hk3 b2 y2 HB2 HK2 HR2
    have b0 : w3.cell? ⟨w1.heap.size, 0, none⟩ = some (.int .i64 3) := HB3.out.cell 0 rfl
    have b1 : w3.cell? ⟨w1.heap.size, 1, none⟩ = some (.string nm) := HB3.out.cell 1 rfl
    have b2 : w3.cell? ⟨w1.heap.size, 2, none⟩ = some (.int .i64 6) := HB3.out.cell 2 rfl
    have b3 : w3.cell? ⟨w1.heap.size, 3, none⟩ = some (.int .i64 0) := HB3.out.cell 3 rfl
    have b4 : w3.cell? ⟨w1.heap.size, 4, none⟩ = some (.int .i64 0) := HB3.out.cell 4 rfl
    have b5 : w3.cell? ⟨w1.heap.size, 5, none⟩ = some (.string ⟨#[]⟩) := HB3.out.cell 5 rfl
    have b6 : w3.cell? ⟨w1.heap.size, 6, none⟩ = some (.bool false) := HB3.out.cell 6 rfl
    have b7 : w3.cell? ⟨w1.heap.size, 7, none⟩ = some (.complex .f64 0 0) := HB3.out.cell 7 rfl
    have b8 : w3.cell? ⟨w1.heap.size, 8, none⟩ = some (.int .i64 0) := HB3.out.cell 8 rfl
    have y0 := HB3.out.free 0
    have y1 := HB3.out.free 1
    have y2 := HB3.out.free 2
    have y3 := HB3.out.free 3
    have y4 := HB3.out.free 4
    have y5 := HB3.out.free 5
    have y6 := HB3.out.free 6
    have y7 := HB3.out.free 7
    have y8 := HB3.out.free 8
    obtain ⟨qk, qw, qs, qt, qx, qy⟩ := q
    simp only [Val.cells]
    go_wp2_with fail
    clear b0 b1 b2 b3 b4 b5 b6 b7 b8 y0 y1 y2 y3 y4 y5 y6 y7 y8
    obtain ⟨W, HW⟩ : ∃ W, Hid (W = ((((w3.setCell ⟨w1.heap.size, 3, none⟩ (.int .i64 qk)).setCell ⟨w1.heap.size, 4, none⟩ (.int .i64 qw)).setCell ⟨w1.heap.size, 5, none⟩ (.string qs)).setCell ⟨w1.heap.size, 6, none⟩ (.bool qt)).setCell ⟨w1.heap.size, 7, none⟩ (.complex .f64 qx qy)) := ⟨_, rfl⟩
    have HRW : Hid (Rdr W g T s3 v) := by show Rdr _ _ _ _ _; rw [HW.out]; exact ((((HR3.out.other _ _ HN.out).other _ _ HN.out).other _ _ HN.out).other _ _ HN.out).other _ _ HN.out
    have HKW : Hid (Kept g v w v W) := by show Kept _ _ _ _ _; rw [HW.out]; exact ((((HK3.out.setNew (Nat.le_of_lt hgl) _ _ hsz).setNew (Nat.le_of_lt hgl) _ _ hsz).setNew (Nat.le_of_lt hgl) _ _ hsz).setNew (Nat.le_of_lt hgl) _ _ hsz).setNew (Nat.le_of_lt hgl) _ _ hsz
    have HBW : Hid (Blk W w1.heap.size (Tm.cells ⟨3, nm, 6, ⟨qk, qw, qs, qt, qx, qy⟩, 0⟩) 52) := by show Blk _ _ _ _; rw [HW.out]; exact HB3.out.setV _ _ _ _ _
    have hgW := HRW.out.lt
    obtain ⟨va, vn, vc, rfl⟩ := HRW.out.tms.form3
    have r7 : W.cell? ⟨g, 7, none⟩ = some (.slice va vn vc) := HRW.out.blk.cell 7 rfl
    have a0 : W.cell? ⟨w1.heap.size, 0, none⟩ = some (.int .i64 3) := HBW.out.cell 0 rfl
    have a1 : W.cell? ⟨w1.heap.size, 1, none⟩ = some (.string nm) := HBW.out.cell 1 rfl
    have a2 : W.cell? ⟨w1.heap.size, 2, none⟩ = some (.int .i64 6) := HBW.out.cell 2 rfl
    have a3 : W.cell? ⟨w1.heap.size, 3, none⟩ = some (.int .i64 qk) := HBW.out.cell 3 rfl
    have a4 : W.cell? ⟨w1.heap.size, 4, none⟩ = some (.int .i64 qw) := HBW.out.cell 4 rfl
    have a5 : W.cell? ⟨w1.heap.size, 5, none⟩ = some (.string qs) := HBW.out.cell 5 rfl
    have a6 : W.cell? ⟨w1.heap.size, 6, none⟩ = some (.bool qt) := HBW.out.cell 6 rfl
    have a7 : W.cell? ⟨w1.heap.size, 7, none⟩ = some (.complex .f64 qx qy) := HBW.out.cell 7 rfl
    have a8 : W.cell? ⟨w1.heap.size, 8, none⟩ = some (.int .i64 0) := HBW.out.cell 8 rfl
    have z0 := HBW.out.free 0
    have z1 := HBW.out.free 1
    have z2 := HBW.out.free 2
    have z3 := HBW.out.free 3
    have z4 := HBW.out.free 4
    have z5 := HBW.out.free 5
    have z6 := HBW.out.free 6
    have z7 := HBW.out.free 7
    have z8 := HBW.out.free 8
    rw [← HW.out]
    clear HW
    have HA : Hid (Below W.heap.size W (W.drew.alloc (.cells (Tm.cells ⟨3, nm, 6, ⟨qk, qw, qs, qt, qx, qy⟩, 0⟩) 52))) := (Below.refl _ _).drew.alloc (Nat.le_refl _) _
    have HRA : Hid (Rdr (W.drew.alloc (.cells (Tm.cells ⟨3, nm, 6, ⟨qk, qw, qs, qt, qx, qy⟩, 0⟩) 52)) g T s3 (.slice va vn vc)) := HRW.out.stay HA.out
    have HKN : Hid (Blk (W.drew.alloc (.cells (Tm.cells ⟨3, nm, 6, ⟨qk, qw, qs, qt, qx, qy⟩, 0⟩) 52)) W.heap.size (Tm.cells ⟨3, nm, 6, ⟨qk, qw, qs, qt, qx, qy⟩, 0⟩) 52) := Blk.new W.drew _ _
    have hlA : g + 1 ≤ (W.drew.alloc (.cells (Tm.cells ⟨3, nm, 6, ⟨qk, qw, qs, qt, qx, qy⟩, 0⟩) 52)).heap.size := by simp; omega
    simp only [Tm.cells] at HA HRA HKN hlA
    go_wp2_with fail
    go_region_law (refine step_append_tm rfl (.tmp 47) (.tmp 49) rfl (g + 1) _ s3.terms rfl HRA.out.tms ⟨W.heap.size, 0, none⟩ 1 ⟨3, nm, 6, ⟨qk, qw, qs, qt, qx, qy⟩, 0⟩ rfl (Tm.told HKN.out) (by omega) hlA ?_; intro v' w9 ht hg; obtain ⟨hr2, hb2⟩ := HRA.out.more _ ht hg; have HR9 : Hid (Rdr (w9.setCell ⟨g, 7, none⟩ v') g T (addM ⟨3, nm, 6, ⟨qk, qw, qs, qt, qx, qy⟩, 0⟩ s3) v') := hr2; have HB9 : Hid (Below g w (w9.setCell ⟨g, 7, none⟩ v')) := (HKW.out.below.trans (HA.out.mono (Nat.le_of_lt hgW))).trans hb2; have HK9 : Hid (Blk w9 g (rcells T s3 (.slice va vn vc)) 65) := HRA.out.blk.grown hg (fun e => by have := (HRA.out.tms.row.lt g e.symm).1; omega); have d7 : w9.cell? ⟨g, 7, none⟩ = some (.slice va vn vc) := HK9.out.cell 7 rfl; have f7 := HK9.out.free 7; obtain ⟨va', nn, vc', rfl⟩ := ht.form3; clear hr2 hb2 ht hg)
    all_goals
      refine ⟨rfl, _, results_none rfl _ _ _, ?_⟩
      show AfterU _ _ _ _ _ _
      rw [← HE.out]
      exact ⟨rfl, ⟨_, HR9.out⟩, HB9.out⟩

set_option maxHeartbeats 2000000 in
theorem atom_7 {F : Lex} {T : ByteArray} (HW : Words F T) (hF : LexOk F T.size) {g : Nat} {s s1 s2 : St} {v : Value} (w : World) (h : Rdr w g T s v) (hs : s.here ≤ T.size) (hl : s.terms.length + left T.size s ≤ 5000) (hn : needM F 2 s = .ok s1) (hc : cmpM F s1 = .ok (7, s2)) (R : Res) (hR : restM F s.next.text 7 s2 = R) :
    Calls Tryz.prog 63 #[.pointer (some ⟨g, 0, none⟩)] w fun e w' => AfterU g T w R e w' := by
  have hcx : ∀ (a : Addr) (m : Mode) (W : World) (x y : Nat), (store a (.complex .f64 x y) m).run Tryz.prog W = stored Tryz.prog W a (.complex .f64 x y) m := fun a m W x y => run_store _ _ _ _ _ rfl
  have HR0 : Hid (Rdr w g T s v) := h
  have HX : Hid (Words F T) := HW
  have HF : Hid (LexOk F T.size) := hF
  have hgl := h.lt
  have HNE : Hid (needM F 2 s = .ok s1) := hn
  have HCM : Hid (cmpM F s1 = .ok (7, s2)) := hc
  have d1 := needM_dn1 hF (by decide) hs hn
  have d2 := cmpFrom_dn hF d1.here 8 hc
  have h1 : s1.here ≤ T.size := d1.here
  have h2 : s2.here ≤ T.size := d2.here
  have hl2 : s2.terms.length ≤ 5000 := by have := d1.terms; have := d2.terms; omega
  have HD : Hid (Dn T.size 0 s s2) := (d1.trans d2).less (by omega)
  have hfd := fld2 s.next.kind s.next.place s.next.text s.next.n s.next.late
  have HRR : Hid (restM F s.next.text 7 s2 = R) := hR
  clear h HW hF hn hc d1 d2 hR
  go_enter Tryz.func63, Tryz.ntmps63
  go_wp2_with fail
  refine (need_ok HX.out 2 _ HR0.out hs HNE.out).mono ?_
  rintro e w1 ⟨rfl, hr1, hk1⟩
  have HR1 : Hid (Rdr w1 g T s1 v) := hr1
  have HK1 : Hid (Kept g v w v w1) := hk1
  clear hr1 hk1
  generalize hB : s.next.text = nm at *
  have hg1 := HR1.out.lt
  have HN : Hid (g < w1.heap.size ∧ v.ownBlock ≠ some w1.heap.size) := HR1.out.new (Nat.le_refl _)
  simp only [Wd.cells]
  rw [hB]
  clear hB
  have HRA1 : Hid (Rdr (w1.alloc (.cells #[.int .i64 3, .string nm, .int .i64 0, .int .i64 0, .int .i64 0, .string ⟨#[]⟩, .bool false, .complex .f64 0 0, .int .i64 0] 52)) g T s1 v) := HR1.out.stay (below_alloc w1 _)
  have HKA1 : Hid (Kept g v w v (w1.alloc (.cells #[.int .i64 3, .string nm, .int .i64 0, .int .i64 0, .int .i64 0, .string ⟨#[]⟩, .bool false, .complex .f64 0 0, .int .i64 0] 52))) := HK1.out.trans (Kept.of v (Nat.le_of_lt hg1) (below_alloc w1 _))
  have HBA1 : Hid (Blk (w1.alloc (.cells #[.int .i64 3, .string nm, .int .i64 0, .int .i64 0, .int .i64 0, .string ⟨#[]⟩, .bool false, .complex .f64 0 0, .int .i64 0] 52)) w1.heap.size #[.int .i64 3, .string nm, .int .i64 0, .int .i64 0, .int .i64 0, .string ⟨#[]⟩, .bool false, .complex .f64 0 0, .int .i64 0] 52) := Blk.new w1 _ _
  have hsz : w.heap.size ≤ w1.heap.size := HK1.out.below.size
  go_wp2_with fail
  refine (cmp_any HX.out _ HRA1.out h1 _ HCM.out).mono ?_
  rintro e w2 ⟨rfl, hr2, hk2⟩
  have HR2 : Hid (Rdr (w2.setCell ⟨w1.heap.size, 2, none⟩ (.int .i64 7)) g T s2 v) := hr2.other _ _ HN.out
  have HB2a : Hid (Blk w2 w1.heap.size #[.int .i64 3, .string nm, .int .i64 0, .int .i64 0, .int .i64 0, .string ⟨#[]⟩, .bool false, .complex .f64 0 0, .int .i64 0] 52) := hk2.blk HBA1.out (Nat.ne_of_gt HN.out.1) HN.out.2
  have HB2 : Hid (Blk (w2.setCell ⟨w1.heap.size, 2, none⟩ (.int .i64 7)) w1.heap.size #[.int .i64 3, .string nm, .int .i64 7, .int .i64 0, .int .i64 0, .string ⟨#[]⟩, .bool false, .complex .f64 0 0, .int .i64 0] 52) := HB2a.out.set 2 _
  have HK2 : Hid (Kept g v w v (w2.setCell ⟨w1.heap.size, 2, none⟩ (.int .i64 7))) := (HKA1.out.trans hk2).setNew (Nat.le_of_lt hgl) _ _ hsz
  have b2 : w2.cell? ⟨w1.heap.size, 2, none⟩ = some (.int .i64 0) := HB2a.out.cell 2 rfl
  have y2 := HB2a.out.free 2
  clear hr2 hk2 HRA1 HKA1 HBA1 HB2a
  rcases e3 : orderedM F s2 with m | ⟨q, s3⟩
  · have HE : Hid (R = .error m) := by
      have h := HRR.out
      unfold restM at h
      simp [e3] at h
      exact h.symm
    have HP : Hid (orderedM F s2 = .error m) := e3
    clear e3 HRR
    go_wp2_with fail
    refine (ordered_bad HX.out _ HR2.out h2 HP.out).mono ?_
    rintro e w3 ⟨rfl, hb⟩
    refine ⟨rfl, ?_⟩
    show AfterU _ _ _ _ _ _
    rw [HE.out]
    exact ⟨rfl, HK2.out.below.trans (hb.mono (Nat.le_of_lt HR2.out.lt))⟩
  · skip
    have d3 := orderedM_dn HF.out h2 e3
    have h3 : s3.here ≤ T.size := d3.here
    have hl3 : s3.terms.length ≤ 5000 := by have := HD.out.terms; have := d3.terms; omega
    have HP : Hid (orderedM F s2 = .ok (q, s3)) := e3
    have HE : Hid (.ok (addM ⟨3, nm, 7, q, 0⟩ s3) = R) := by
      have h := HRR.out
      unfold restM at h
      simp [e3] at h
      exact h
    clear e3 HRR d3
    go_wp2_with fail
    refine (ordered_ok HX.out _ HR2.out h2 HP.out).mono ?_
    rintro e w3 ⟨rfl, hr3, hk3⟩
    have HR3 : Hid (Rdr w3 g T s3 v) := hr3
    have HB3 : Hid (Blk w3 w1.heap.size #[.int .i64 3, .string nm, .int .i64 7, .int .i64 0, .int .i64 0, .string ⟨#[]⟩, .bool false, .complex .f64 0 0, .int .i64 0] 52) := hk3.blk HB2.out (Nat.ne_of_gt HN.out.1) HN.out.2
    have HK3 : Hid (Kept g v w v w3) := HK2.out.trans hk3
    clear hr3 hk3 b2 y2 HB2 HK2 HR2
    have b0 : w3.cell? ⟨w1.heap.size, 0, none⟩ = some (.int .i64 3) := HB3.out.cell 0 rfl
    have b1 : w3.cell? ⟨w1.heap.size, 1, none⟩ = some (.string nm) := HB3.out.cell 1 rfl
    have b2 : w3.cell? ⟨w1.heap.size, 2, none⟩ = some (.int .i64 7) := HB3.out.cell 2 rfl
    have b3 : w3.cell? ⟨w1.heap.size, 3, none⟩ = some (.int .i64 0) := HB3.out.cell 3 rfl
    have b4 : w3.cell? ⟨w1.heap.size, 4, none⟩ = some (.int .i64 0) := HB3.out.cell 4 rfl
    have b5 : w3.cell? ⟨w1.heap.size, 5, none⟩ = some (.string ⟨#[]⟩) := HB3.out.cell 5 rfl
    have b6 : w3.cell? ⟨w1.heap.size, 6, none⟩ = some (.bool false) := HB3.out.cell 6 rfl
    have b7 : w3.cell? ⟨w1.heap.size, 7, none⟩ = some (.complex .f64 0 0) := HB3.out.cell 7 rfl
    have b8 : w3.cell? ⟨w1.heap.size, 8, none⟩ = some (.int .i64 0) := HB3.out.cell 8 rfl
    have y0 := HB3.out.free 0
    have y1 := HB3.out.free 1
    have y2 := HB3.out.free 2
    have y3 := HB3.out.free 3
    have y4 := HB3.out.free 4
    have y5 := HB3.out.free 5
    have y6 := HB3.out.free 6
    have y7 := HB3.out.free 7
    have y8 := HB3.out.free 8
    obtain ⟨qk, qw, qs, qt, qx, qy⟩ := q
    simp only [Val.cells]
    go_wp2_with fail
    clear b0 b1 b2 b3 b4 b5 b6 b7 b8 y0 y1 y2 y3 y4 y5 y6 y7 y8
    obtain ⟨W, HW⟩ : ∃ W, Hid (W = ((((w3.setCell ⟨w1.heap.size, 3, none⟩ (.int .i64 qk)).setCell ⟨w1.heap.size, 4, none⟩ (.int .i64 qw)).setCell ⟨w1.heap.size, 5, none⟩ (.string qs)).setCell ⟨w1.heap.size, 6, none⟩ (.bool qt)).setCell ⟨w1.heap.size, 7, none⟩ (.complex .f64 qx qy)) := ⟨_, rfl⟩
    have HRW : Hid (Rdr W g T s3 v) := by show Rdr _ _ _ _ _; rw [HW.out]; exact ((((HR3.out.other _ _ HN.out).other _ _ HN.out).other _ _ HN.out).other _ _ HN.out).other _ _ HN.out
    have HKW : Hid (Kept g v w v W) := by show Kept _ _ _ _ _; rw [HW.out]; exact ((((HK3.out.setNew (Nat.le_of_lt hgl) _ _ hsz).setNew (Nat.le_of_lt hgl) _ _ hsz).setNew (Nat.le_of_lt hgl) _ _ hsz).setNew (Nat.le_of_lt hgl) _ _ hsz).setNew (Nat.le_of_lt hgl) _ _ hsz
    have HBW : Hid (Blk W w1.heap.size (Tm.cells ⟨3, nm, 7, ⟨qk, qw, qs, qt, qx, qy⟩, 0⟩) 52) := by show Blk _ _ _ _; rw [HW.out]; exact HB3.out.setV _ _ _ _ _
    have hgW := HRW.out.lt
    obtain ⟨va, vn, vc, rfl⟩ := HRW.out.tms.form3
    have r7 : W.cell? ⟨g, 7, none⟩ = some (.slice va vn vc) := HRW.out.blk.cell 7 rfl
    have a0 : W.cell? ⟨w1.heap.size, 0, none⟩ = some (.int .i64 3) := HBW.out.cell 0 rfl
    have a1 : W.cell? ⟨w1.heap.size, 1, none⟩ = some (.string nm) := HBW.out.cell 1 rfl
    have a2 : W.cell? ⟨w1.heap.size, 2, none⟩ = some (.int .i64 7) := HBW.out.cell 2 rfl
    have a3 : W.cell? ⟨w1.heap.size, 3, none⟩ = some (.int .i64 qk) := HBW.out.cell 3 rfl
    have a4 : W.cell? ⟨w1.heap.size, 4, none⟩ = some (.int .i64 qw) := HBW.out.cell 4 rfl
    have a5 : W.cell? ⟨w1.heap.size, 5, none⟩ = some (.string qs) := HBW.out.cell 5 rfl
    have a6 : W.cell? ⟨w1.heap.size, 6, none⟩ = some (.bool qt) := HBW.out.cell 6 rfl
    have a7 : W.cell? ⟨w1.heap.size, 7, none⟩ = some (.complex .f64 qx qy) := HBW.out.cell 7 rfl
    have a8 : W.cell? ⟨w1.heap.size, 8, none⟩ = some (.int .i64 0) := HBW.out.cell 8 rfl
    have z0 := HBW.out.free 0
    have z1 := HBW.out.free 1
    have z2 := HBW.out.free 2
    have z3 := HBW.out.free 3
    have z4 := HBW.out.free 4
    have z5 := HBW.out.free 5
    have z6 := HBW.out.free 6
    have z7 := HBW.out.free 7
    have z8 := HBW.out.free 8
    rw [← HW.out]
    clear HW
    have HA : Hid (Below W.heap.size W (W.drew.alloc (.cells (Tm.cells ⟨3, nm, 7, ⟨qk, qw, qs, qt, qx, qy⟩, 0⟩) 52))) := (Below.refl _ _).drew.alloc (Nat.le_refl _) _
    have HRA : Hid (Rdr (W.drew.alloc (.cells (Tm.cells ⟨3, nm, 7, ⟨qk, qw, qs, qt, qx, qy⟩, 0⟩) 52)) g T s3 (.slice va vn vc)) := HRW.out.stay HA.out
    have HKN : Hid (Blk (W.drew.alloc (.cells (Tm.cells ⟨3, nm, 7, ⟨qk, qw, qs, qt, qx, qy⟩, 0⟩) 52)) W.heap.size (Tm.cells ⟨3, nm, 7, ⟨qk, qw, qs, qt, qx, qy⟩, 0⟩) 52) := Blk.new W.drew _ _
    have hlA : g + 1 ≤ (W.drew.alloc (.cells (Tm.cells ⟨3, nm, 7, ⟨qk, qw, qs, qt, qx, qy⟩, 0⟩) 52)).heap.size := by simp; omega
    simp only [Tm.cells] at HA HRA HKN hlA
    go_wp2_with fail
    go_region_law (refine step_append_tm rfl (.tmp 47) (.tmp 49) rfl (g + 1) _ s3.terms rfl HRA.out.tms ⟨W.heap.size, 0, none⟩ 1 ⟨3, nm, 7, ⟨qk, qw, qs, qt, qx, qy⟩, 0⟩ rfl (Tm.told HKN.out) (by omega) hlA ?_; intro v' w9 ht hg; obtain ⟨hr2, hb2⟩ := HRA.out.more _ ht hg; have HR9 : Hid (Rdr (w9.setCell ⟨g, 7, none⟩ v') g T (addM ⟨3, nm, 7, ⟨qk, qw, qs, qt, qx, qy⟩, 0⟩ s3) v') := hr2; have HB9 : Hid (Below g w (w9.setCell ⟨g, 7, none⟩ v')) := (HKW.out.below.trans (HA.out.mono (Nat.le_of_lt hgW))).trans hb2; have HK9 : Hid (Blk w9 g (rcells T s3 (.slice va vn vc)) 65) := HRA.out.blk.grown hg (fun e => by have := (HRA.out.tms.row.lt g e.symm).1; omega); have d7 : w9.cell? ⟨g, 7, none⟩ = some (.slice va vn vc) := HK9.out.cell 7 rfl; have f7 := HK9.out.free 7; obtain ⟨va', nn, vc', rfl⟩ := ht.form3; clear hr2 hb2 ht hg)
    all_goals
      refine ⟨rfl, _, results_none rfl _ _ _, ?_⟩
      show AfterU _ _ _ _ _ _
      rw [← HE.out]
      exact ⟨rfl, ⟨_, HR9.out⟩, HB9.out⟩

set_option maxHeartbeats 2000000 in
theorem atom_8 {F : Lex} {T : ByteArray} (HW : Words F T) (hF : LexOk F T.size) {g : Nat} {s s1 s2 : St} {v : Value} (w : World) (h : Rdr w g T s v) (hs : s.here ≤ T.size) (hl : s.terms.length + left T.size s ≤ 5000) (hn : needM F 2 s = .ok s1) (hc : cmpM F s1 = .ok (8, s2)) (R : Res) (hR : restM F s.next.text 8 s2 = R) :
    Calls Tryz.prog 63 #[.pointer (some ⟨g, 0, none⟩)] w fun e w' => AfterU g T w R e w' := by
  have hcx : ∀ (a : Addr) (m : Mode) (W : World) (x y : Nat), (store a (.complex .f64 x y) m).run Tryz.prog W = stored Tryz.prog W a (.complex .f64 x y) m := fun a m W x y => run_store _ _ _ _ _ rfl
  have HR0 : Hid (Rdr w g T s v) := h
  have HX : Hid (Words F T) := HW
  have HF : Hid (LexOk F T.size) := hF
  have hgl := h.lt
  have HNE : Hid (needM F 2 s = .ok s1) := hn
  have HCM : Hid (cmpM F s1 = .ok (8, s2)) := hc
  have d1 := needM_dn1 hF (by decide) hs hn
  have d2 := cmpFrom_dn hF d1.here 8 hc
  have h1 : s1.here ≤ T.size := d1.here
  have h2 : s2.here ≤ T.size := d2.here
  have hl2 : s2.terms.length ≤ 5000 := by have := d1.terms; have := d2.terms; omega
  have HD : Hid (Dn T.size 0 s s2) := (d1.trans d2).less (by omega)
  have hfd := fld2 s.next.kind s.next.place s.next.text s.next.n s.next.late
  have HRR : Hid (restM F s.next.text 8 s2 = R) := hR
  clear h HW hF hn hc d1 d2 hR
  go_enter Tryz.func63, Tryz.ntmps63
  go_wp2_with fail
  refine (need_ok HX.out 2 _ HR0.out hs HNE.out).mono ?_
  rintro e w1 ⟨rfl, hr1, hk1⟩
  have HR1 : Hid (Rdr w1 g T s1 v) := hr1
  have HK1 : Hid (Kept g v w v w1) := hk1
  clear hr1 hk1
  generalize hB : s.next.text = nm at *
  have hg1 := HR1.out.lt
  have HN : Hid (g < w1.heap.size ∧ v.ownBlock ≠ some w1.heap.size) := HR1.out.new (Nat.le_refl _)
  simp only [Wd.cells]
  rw [hB]
  clear hB
  have HRA1 : Hid (Rdr (w1.alloc (.cells #[.int .i64 3, .string nm, .int .i64 0, .int .i64 0, .int .i64 0, .string ⟨#[]⟩, .bool false, .complex .f64 0 0, .int .i64 0] 52)) g T s1 v) := HR1.out.stay (below_alloc w1 _)
  have HKA1 : Hid (Kept g v w v (w1.alloc (.cells #[.int .i64 3, .string nm, .int .i64 0, .int .i64 0, .int .i64 0, .string ⟨#[]⟩, .bool false, .complex .f64 0 0, .int .i64 0] 52))) := HK1.out.trans (Kept.of v (Nat.le_of_lt hg1) (below_alloc w1 _))
  have HBA1 : Hid (Blk (w1.alloc (.cells #[.int .i64 3, .string nm, .int .i64 0, .int .i64 0, .int .i64 0, .string ⟨#[]⟩, .bool false, .complex .f64 0 0, .int .i64 0] 52)) w1.heap.size #[.int .i64 3, .string nm, .int .i64 0, .int .i64 0, .int .i64 0, .string ⟨#[]⟩, .bool false, .complex .f64 0 0, .int .i64 0] 52) := Blk.new w1 _ _
  have hsz : w.heap.size ≤ w1.heap.size := HK1.out.below.size
  go_wp2_with fail
  refine (cmp_any HX.out _ HRA1.out h1 _ HCM.out).mono ?_
  rintro e w2 ⟨rfl, hr2, hk2⟩
  have HR2 : Hid (Rdr (w2.setCell ⟨w1.heap.size, 2, none⟩ (.int .i64 8)) g T s2 v) := hr2.other _ _ HN.out
  have HB2a : Hid (Blk w2 w1.heap.size #[.int .i64 3, .string nm, .int .i64 0, .int .i64 0, .int .i64 0, .string ⟨#[]⟩, .bool false, .complex .f64 0 0, .int .i64 0] 52) := hk2.blk HBA1.out (Nat.ne_of_gt HN.out.1) HN.out.2
  have HB2 : Hid (Blk (w2.setCell ⟨w1.heap.size, 2, none⟩ (.int .i64 8)) w1.heap.size #[.int .i64 3, .string nm, .int .i64 8, .int .i64 0, .int .i64 0, .string ⟨#[]⟩, .bool false, .complex .f64 0 0, .int .i64 0] 52) := HB2a.out.set 2 _
  have HK2 : Hid (Kept g v w v (w2.setCell ⟨w1.heap.size, 2, none⟩ (.int .i64 8))) := (HKA1.out.trans hk2).setNew (Nat.le_of_lt hgl) _ _ hsz
  have b2 : w2.cell? ⟨w1.heap.size, 2, none⟩ = some (.int .i64 0) := HB2a.out.cell 2 rfl
  have y2 := HB2a.out.free 2
  clear hr2 hk2 HRA1 HKA1 HBA1 HB2a
  rcases e3 : orderedM F s2 with m | ⟨q, s3⟩
  · have HE : Hid (R = .error m) := by
      have h := HRR.out
      unfold restM at h
      simp [e3] at h
      exact h.symm
    have HP : Hid (orderedM F s2 = .error m) := e3
    clear e3 HRR
    go_wp2_with fail
    refine (ordered_bad HX.out _ HR2.out h2 HP.out).mono ?_
    rintro e w3 ⟨rfl, hb⟩
    refine ⟨rfl, ?_⟩
    show AfterU _ _ _ _ _ _
    rw [HE.out]
    exact ⟨rfl, HK2.out.below.trans (hb.mono (Nat.le_of_lt HR2.out.lt))⟩
  · skip
    have d3 := orderedM_dn HF.out h2 e3
    have h3 : s3.here ≤ T.size := d3.here
    have hl3 : s3.terms.length ≤ 5000 := by have := HD.out.terms; have := d3.terms; omega
    have HP : Hid (orderedM F s2 = .ok (q, s3)) := e3
    have HE : Hid (.ok (addM ⟨3, nm, 8, q, 0⟩ s3) = R) := by
      have h := HRR.out
      unfold restM at h
      simp [e3] at h
      exact h
    clear e3 HRR d3
    go_wp2_with fail
    refine (ordered_ok HX.out _ HR2.out h2 HP.out).mono ?_
    rintro e w3 ⟨rfl, hr3, hk3⟩
    have HR3 : Hid (Rdr w3 g T s3 v) := hr3
    have HB3 : Hid (Blk w3 w1.heap.size #[.int .i64 3, .string nm, .int .i64 8, .int .i64 0, .int .i64 0, .string ⟨#[]⟩, .bool false, .complex .f64 0 0, .int .i64 0] 52) := hk3.blk HB2.out (Nat.ne_of_gt HN.out.1) HN.out.2
    have HK3 : Hid (Kept g v w v w3) := HK2.out.trans hk3
    clear hr3 hk3 b2 y2 HB2 HK2 HR2
    have b0 : w3.cell? ⟨w1.heap.size, 0, none⟩ = some (.int .i64 3) := HB3.out.cell 0 rfl
    have b1 : w3.cell? ⟨w1.heap.size, 1, none⟩ = some (.string nm) := HB3.out.cell 1 rfl
    have b2 : w3.cell? ⟨w1.heap.size, 2, none⟩ = some (.int .i64 8) := HB3.out.cell 2 rfl
    have b3 : w3.cell? ⟨w1.heap.size, 3, none⟩ = some (.int .i64 0) := HB3.out.cell 3 rfl
    have b4 : w3.cell? ⟨w1.heap.size, 4, none⟩ = some (.int .i64 0) := HB3.out.cell 4 rfl
    have b5 : w3.cell? ⟨w1.heap.size, 5, none⟩ = some (.string ⟨#[]⟩) := HB3.out.cell 5 rfl
    have b6 : w3.cell? ⟨w1.heap.size, 6, none⟩ = some (.bool false) := HB3.out.cell 6 rfl
    have b7 : w3.cell? ⟨w1.heap.size, 7, none⟩ = some (.complex .f64 0 0) := HB3.out.cell 7 rfl
    have b8 : w3.cell? ⟨w1.heap.size, 8, none⟩ = some (.int .i64 0) := HB3.out.cell 8 rfl
    have y0 := HB3.out.free 0
    have y1 := HB3.out.free 1
    have y2 := HB3.out.free 2
    have y3 := HB3.out.free 3
    have y4 := HB3.out.free 4
    have y5 := HB3.out.free 5
    have y6 := HB3.out.free 6
    have y7 := HB3.out.free 7
    have y8 := HB3.out.free 8
    obtain ⟨qk, qw, qs, qt, qx, qy⟩ := q
    simp only [Val.cells]
    go_wp2_with fail
    clear b0 b1 b2 b3 b4 b5 b6 b7 b8 y0 y1 y2 y3 y4 y5 y6 y7 y8
    obtain ⟨W, HW⟩ : ∃ W, Hid (W = ((((w3.setCell ⟨w1.heap.size, 3, none⟩ (.int .i64 qk)).setCell ⟨w1.heap.size, 4, none⟩ (.int .i64 qw)).setCell ⟨w1.heap.size, 5, none⟩ (.string qs)).setCell ⟨w1.heap.size, 6, none⟩ (.bool qt)).setCell ⟨w1.heap.size, 7, none⟩ (.complex .f64 qx qy)) := ⟨_, rfl⟩
    have HRW : Hid (Rdr W g T s3 v) := by show Rdr _ _ _ _ _; rw [HW.out]; exact ((((HR3.out.other _ _ HN.out).other _ _ HN.out).other _ _ HN.out).other _ _ HN.out).other _ _ HN.out
    have HKW : Hid (Kept g v w v W) := by show Kept _ _ _ _ _; rw [HW.out]; exact ((((HK3.out.setNew (Nat.le_of_lt hgl) _ _ hsz).setNew (Nat.le_of_lt hgl) _ _ hsz).setNew (Nat.le_of_lt hgl) _ _ hsz).setNew (Nat.le_of_lt hgl) _ _ hsz).setNew (Nat.le_of_lt hgl) _ _ hsz
    have HBW : Hid (Blk W w1.heap.size (Tm.cells ⟨3, nm, 8, ⟨qk, qw, qs, qt, qx, qy⟩, 0⟩) 52) := by show Blk _ _ _ _; rw [HW.out]; exact HB3.out.setV _ _ _ _ _
    have hgW := HRW.out.lt
    obtain ⟨va, vn, vc, rfl⟩ := HRW.out.tms.form3
    have r7 : W.cell? ⟨g, 7, none⟩ = some (.slice va vn vc) := HRW.out.blk.cell 7 rfl
    have a0 : W.cell? ⟨w1.heap.size, 0, none⟩ = some (.int .i64 3) := HBW.out.cell 0 rfl
    have a1 : W.cell? ⟨w1.heap.size, 1, none⟩ = some (.string nm) := HBW.out.cell 1 rfl
    have a2 : W.cell? ⟨w1.heap.size, 2, none⟩ = some (.int .i64 8) := HBW.out.cell 2 rfl
    have a3 : W.cell? ⟨w1.heap.size, 3, none⟩ = some (.int .i64 qk) := HBW.out.cell 3 rfl
    have a4 : W.cell? ⟨w1.heap.size, 4, none⟩ = some (.int .i64 qw) := HBW.out.cell 4 rfl
    have a5 : W.cell? ⟨w1.heap.size, 5, none⟩ = some (.string qs) := HBW.out.cell 5 rfl
    have a6 : W.cell? ⟨w1.heap.size, 6, none⟩ = some (.bool qt) := HBW.out.cell 6 rfl
    have a7 : W.cell? ⟨w1.heap.size, 7, none⟩ = some (.complex .f64 qx qy) := HBW.out.cell 7 rfl
    have a8 : W.cell? ⟨w1.heap.size, 8, none⟩ = some (.int .i64 0) := HBW.out.cell 8 rfl
    have z0 := HBW.out.free 0
    have z1 := HBW.out.free 1
    have z2 := HBW.out.free 2
    have z3 := HBW.out.free 3
    have z4 := HBW.out.free 4
    have z5 := HBW.out.free 5
    have z6 := HBW.out.free 6
    have z7 := HBW.out.free 7
    have z8 := HBW.out.free 8
    rw [← HW.out]
    clear HW
    have HA : Hid (Below W.heap.size W (W.drew.alloc (.cells (Tm.cells ⟨3, nm, 8, ⟨qk, qw, qs, qt, qx, qy⟩, 0⟩) 52))) := (Below.refl _ _).drew.alloc (Nat.le_refl _) _
    have HRA : Hid (Rdr (W.drew.alloc (.cells (Tm.cells ⟨3, nm, 8, ⟨qk, qw, qs, qt, qx, qy⟩, 0⟩) 52)) g T s3 (.slice va vn vc)) := HRW.out.stay HA.out
    have HKN : Hid (Blk (W.drew.alloc (.cells (Tm.cells ⟨3, nm, 8, ⟨qk, qw, qs, qt, qx, qy⟩, 0⟩) 52)) W.heap.size (Tm.cells ⟨3, nm, 8, ⟨qk, qw, qs, qt, qx, qy⟩, 0⟩) 52) := Blk.new W.drew _ _
    have hlA : g + 1 ≤ (W.drew.alloc (.cells (Tm.cells ⟨3, nm, 8, ⟨qk, qw, qs, qt, qx, qy⟩, 0⟩) 52)).heap.size := by simp; omega
    simp only [Tm.cells] at HA HRA HKN hlA
    go_wp2_with fail
    go_region_law (refine step_append_tm rfl (.tmp 47) (.tmp 49) rfl (g + 1) _ s3.terms rfl HRA.out.tms ⟨W.heap.size, 0, none⟩ 1 ⟨3, nm, 8, ⟨qk, qw, qs, qt, qx, qy⟩, 0⟩ rfl (Tm.told HKN.out) (by omega) hlA ?_; intro v' w9 ht hg; obtain ⟨hr2, hb2⟩ := HRA.out.more _ ht hg; have HR9 : Hid (Rdr (w9.setCell ⟨g, 7, none⟩ v') g T (addM ⟨3, nm, 8, ⟨qk, qw, qs, qt, qx, qy⟩, 0⟩ s3) v') := hr2; have HB9 : Hid (Below g w (w9.setCell ⟨g, 7, none⟩ v')) := (HKW.out.below.trans (HA.out.mono (Nat.le_of_lt hgW))).trans hb2; have HK9 : Hid (Blk w9 g (rcells T s3 (.slice va vn vc)) 65) := HRA.out.blk.grown hg (fun e => by have := (HRA.out.tms.row.lt g e.symm).1; omega); have d7 : w9.cell? ⟨g, 7, none⟩ = some (.slice va vn vc) := HK9.out.cell 7 rfl; have f7 := HK9.out.free 7; obtain ⟨va', nn, vc', rfl⟩ := ht.form3; clear hr2 hb2 ht hg)
    all_goals
      refine ⟨rfl, _, results_none rfl _ _ _, ?_⟩
      show AfterU _ _ _ _ _ _
      rw [← HE.out]
      exact ⟨rfl, ⟨_, HR9.out⟩, HB9.out⟩

set_option maxHeartbeats 2000000 in
theorem atom_9 {F : Lex} {T : ByteArray} (HW : Words F T) (hF : LexOk F T.size) {g : Nat} {s s1 s2 : St} {v : Value} (w : World) (h : Rdr w g T s v) (hs : s.here ≤ T.size) (hl : s.terms.length + left T.size s ≤ 5000) (hn : needM F 2 s = .ok s1) (hc : cmpM F s1 = .ok (9, s2)) (R : Res) (hR : restM F s.next.text 9 s2 = R) :
    Calls Tryz.prog 63 #[.pointer (some ⟨g, 0, none⟩)] w fun e w' => AfterU g T w R e w' := by
  have hcx : ∀ (a : Addr) (m : Mode) (W : World) (x y : Nat), (store a (.complex .f64 x y) m).run Tryz.prog W = stored Tryz.prog W a (.complex .f64 x y) m := fun a m W x y => run_store _ _ _ _ _ rfl
  have HR0 : Hid (Rdr w g T s v) := h
  have HX : Hid (Words F T) := HW
  have HF : Hid (LexOk F T.size) := hF
  have hgl := h.lt
  have HNE : Hid (needM F 2 s = .ok s1) := hn
  have HCM : Hid (cmpM F s1 = .ok (9, s2)) := hc
  have d1 := needM_dn1 hF (by decide) hs hn
  have d2 := cmpFrom_dn hF d1.here 8 hc
  have h1 : s1.here ≤ T.size := d1.here
  have h2 : s2.here ≤ T.size := d2.here
  have hl2 : s2.terms.length ≤ 5000 := by have := d1.terms; have := d2.terms; omega
  have HD : Hid (Dn T.size 0 s s2) := (d1.trans d2).less (by omega)
  have hfd := fld2 s.next.kind s.next.place s.next.text s.next.n s.next.late
  have HRR : Hid (restM F s.next.text 9 s2 = R) := hR
  clear h HW hF hn hc d1 d2 hR
  go_enter Tryz.func63, Tryz.ntmps63
  go_wp2_with fail
  refine (need_ok HX.out 2 _ HR0.out hs HNE.out).mono ?_
  rintro e w1 ⟨rfl, hr1, hk1⟩
  have HR1 : Hid (Rdr w1 g T s1 v) := hr1
  have HK1 : Hid (Kept g v w v w1) := hk1
  clear hr1 hk1
  generalize hB : s.next.text = nm at *
  have hg1 := HR1.out.lt
  have HN : Hid (g < w1.heap.size ∧ v.ownBlock ≠ some w1.heap.size) := HR1.out.new (Nat.le_refl _)
  simp only [Wd.cells]
  rw [hB]
  clear hB
  have HRA1 : Hid (Rdr (w1.alloc (.cells #[.int .i64 3, .string nm, .int .i64 0, .int .i64 0, .int .i64 0, .string ⟨#[]⟩, .bool false, .complex .f64 0 0, .int .i64 0] 52)) g T s1 v) := HR1.out.stay (below_alloc w1 _)
  have HKA1 : Hid (Kept g v w v (w1.alloc (.cells #[.int .i64 3, .string nm, .int .i64 0, .int .i64 0, .int .i64 0, .string ⟨#[]⟩, .bool false, .complex .f64 0 0, .int .i64 0] 52))) := HK1.out.trans (Kept.of v (Nat.le_of_lt hg1) (below_alloc w1 _))
  have HBA1 : Hid (Blk (w1.alloc (.cells #[.int .i64 3, .string nm, .int .i64 0, .int .i64 0, .int .i64 0, .string ⟨#[]⟩, .bool false, .complex .f64 0 0, .int .i64 0] 52)) w1.heap.size #[.int .i64 3, .string nm, .int .i64 0, .int .i64 0, .int .i64 0, .string ⟨#[]⟩, .bool false, .complex .f64 0 0, .int .i64 0] 52) := Blk.new w1 _ _
  have hsz : w.heap.size ≤ w1.heap.size := HK1.out.below.size
  go_wp2_with fail
  refine (cmp_any HX.out _ HRA1.out h1 _ HCM.out).mono ?_
  rintro e w2 ⟨rfl, hr2, hk2⟩
  have HR2 : Hid (Rdr (w2.setCell ⟨w1.heap.size, 2, none⟩ (.int .i64 9)) g T s2 v) := hr2.other _ _ HN.out
  have HB2a : Hid (Blk w2 w1.heap.size #[.int .i64 3, .string nm, .int .i64 0, .int .i64 0, .int .i64 0, .string ⟨#[]⟩, .bool false, .complex .f64 0 0, .int .i64 0] 52) := hk2.blk HBA1.out (Nat.ne_of_gt HN.out.1) HN.out.2
  have HB2 : Hid (Blk (w2.setCell ⟨w1.heap.size, 2, none⟩ (.int .i64 9)) w1.heap.size #[.int .i64 3, .string nm, .int .i64 9, .int .i64 0, .int .i64 0, .string ⟨#[]⟩, .bool false, .complex .f64 0 0, .int .i64 0] 52) := HB2a.out.set 2 _
  have HK2 : Hid (Kept g v w v (w2.setCell ⟨w1.heap.size, 2, none⟩ (.int .i64 9))) := (HKA1.out.trans hk2).setNew (Nat.le_of_lt hgl) _ _ hsz
  have b2 : w2.cell? ⟨w1.heap.size, 2, none⟩ = some (.int .i64 0) := HB2a.out.cell 2 rfl
  have y2 := HB2a.out.free 2
  clear hr2 hk2 HRA1 HKA1 HBA1 HB2a
  rcases e3 : beginsM F s2 with m | ⟨q, s3⟩
  · have HE : Hid (R = .error m) := by
      have h := HRR.out
      unfold restM at h
      simp [e3] at h
      exact h.symm
    have HP : Hid (needM F 4 s2 = .error m) := by
      show _ = _
      unfold beginsM at e3
      cases hq : needM F 4 s2 with
      | ok s' => rw [hq] at e3; simp [withV] at e3
      | error m' => rw [hq] at e3; simp only [withV, Except.error.injEq] at e3; rw [e3]
    clear e3 HRR
    go_wp2_with fail
    refine (need_bad HX.out 4 _ HR2.out h2 HP.out).mono ?_
    rintro e w3 ⟨rfl, hb⟩
    refine ⟨rfl, ?_⟩
    show AfterU _ _ _ _ _ _
    rw [HE.out]
    exact ⟨rfl, HK2.out.below.trans (hb.mono (Nat.le_of_lt HR2.out.lt))⟩
  · skip
    have d3 := Dn.less (e := 0) (needM_dn1 HF.out (by decide) h2 (withV_ok e3).2) (by omega)
    have h3 : s3.here ≤ T.size := d3.here
    have hl3 : s3.terms.length ≤ 5000 := by have := HD.out.terms; have := d3.terms; omega
    have HP : Hid (needM F 4 s2 = .ok s3) := (withV_ok e3).2
    obtain rfl : wordsV s2.next.text = q := (withV_ok e3).1
    have hfd2 := fld2 s2.next.kind s2.next.place s2.next.text s2.next.n s2.next.late
    have HE : Hid (.ok (addM ⟨3, nm, 9, wordsV s2.next.text, 0⟩ s3) = R) := by
      have h := HRR.out
      unfold restM at h
      simp [e3] at h
      exact h
    clear e3 HRR d3
    go_wp2_with fail
    refine (need_ok HX.out 4 _ HR2.out h2 HP.out).mono ?_
    rintro e w3 ⟨rfl, hr3, hk3⟩
    have HR3 : Hid (Rdr w3 g T s3 v) := hr3
    have HB3 : Hid (Blk w3 w1.heap.size #[.int .i64 3, .string nm, .int .i64 9, .int .i64 0, .int .i64 0, .string ⟨#[]⟩, .bool false, .complex .f64 0 0, .int .i64 0] 52) := hk3.blk HB2.out (Nat.ne_of_gt HN.out.1) HN.out.2
    have HK3 : Hid (Kept g v w v w3) := HK2.out.trans hk3
    clear hr3 hk3 b2 y2 HB2 HK2 HR2
    have b0 : w3.cell? ⟨w1.heap.size, 0, none⟩ = some (.int .i64 3) := HB3.out.cell 0 rfl
    have b1 : w3.cell? ⟨w1.heap.size, 1, none⟩ = some (.string nm) := HB3.out.cell 1 rfl
    have b2 : w3.cell? ⟨w1.heap.size, 2, none⟩ = some (.int .i64 9) := HB3.out.cell 2 rfl
    have b3 : w3.cell? ⟨w1.heap.size, 3, none⟩ = some (.int .i64 0) := HB3.out.cell 3 rfl
    have b4 : w3.cell? ⟨w1.heap.size, 4, none⟩ = some (.int .i64 0) := HB3.out.cell 4 rfl
    have b5 : w3.cell? ⟨w1.heap.size, 5, none⟩ = some (.string ⟨#[]⟩) := HB3.out.cell 5 rfl
    have b6 : w3.cell? ⟨w1.heap.size, 6, none⟩ = some (.bool false) := HB3.out.cell 6 rfl
    have b7 : w3.cell? ⟨w1.heap.size, 7, none⟩ = some (.complex .f64 0 0) := HB3.out.cell 7 rfl
    have b8 : w3.cell? ⟨w1.heap.size, 8, none⟩ = some (.int .i64 0) := HB3.out.cell 8 rfl
    have y0 := HB3.out.free 0
    have y1 := HB3.out.free 1
    have y2 := HB3.out.free 2
    have y3 := HB3.out.free 3
    have y4 := HB3.out.free 4
    have y5 := HB3.out.free 5
    have y6 := HB3.out.free 6
    have y7 := HB3.out.free 7
    have y8 := HB3.out.free 8
    simp only [Wd.cells]
    go_wp2_with fail
    clear b0 b1 b2 b3 b4 b5 b6 b7 b8 y0 y1 y2 y3 y4 y5 y6 y7 y8
    obtain ⟨W, HW⟩ : ∃ W, Hid (W = ((((w3.setCell ⟨w1.heap.size, 3, none⟩ (.int .i64 2)).setCell ⟨w1.heap.size, 4, none⟩ (.int .i64 0)).setCell ⟨w1.heap.size, 5, none⟩ (.string s2.next.text)).setCell ⟨w1.heap.size, 6, none⟩ (.bool false)).setCell ⟨w1.heap.size, 7, none⟩ (.complex .f64 0 0)) := ⟨_, rfl⟩
    have HRW : Hid (Rdr W g T s3 v) := by show Rdr _ _ _ _ _; rw [HW.out]; exact ((((HR3.out.other _ _ HN.out).other _ _ HN.out).other _ _ HN.out).other _ _ HN.out).other _ _ HN.out
    have HKW : Hid (Kept g v w v W) := by show Kept _ _ _ _ _; rw [HW.out]; exact ((((HK3.out.setNew (Nat.le_of_lt hgl) _ _ hsz).setNew (Nat.le_of_lt hgl) _ _ hsz).setNew (Nat.le_of_lt hgl) _ _ hsz).setNew (Nat.le_of_lt hgl) _ _ hsz).setNew (Nat.le_of_lt hgl) _ _ hsz
    have HBW : Hid (Blk W w1.heap.size (Tm.cells ⟨3, nm, 9, wordsV s2.next.text, 0⟩) 52) := by show Blk _ _ _ _; rw [HW.out]; exact HB3.out.setV _ _ _ _ _
    have hgW := HRW.out.lt
    obtain ⟨va, vn, vc, rfl⟩ := HRW.out.tms.form3
    have r7 : W.cell? ⟨g, 7, none⟩ = some (.slice va vn vc) := HRW.out.blk.cell 7 rfl
    have a0 : W.cell? ⟨w1.heap.size, 0, none⟩ = some (.int .i64 3) := HBW.out.cell 0 rfl
    have a1 : W.cell? ⟨w1.heap.size, 1, none⟩ = some (.string nm) := HBW.out.cell 1 rfl
    have a2 : W.cell? ⟨w1.heap.size, 2, none⟩ = some (.int .i64 9) := HBW.out.cell 2 rfl
    have a3 : W.cell? ⟨w1.heap.size, 3, none⟩ = some (.int .i64 2) := HBW.out.cell 3 rfl
    have a4 : W.cell? ⟨w1.heap.size, 4, none⟩ = some (.int .i64 0) := HBW.out.cell 4 rfl
    have a5 : W.cell? ⟨w1.heap.size, 5, none⟩ = some (.string s2.next.text) := HBW.out.cell 5 rfl
    have a6 : W.cell? ⟨w1.heap.size, 6, none⟩ = some (.bool false) := HBW.out.cell 6 rfl
    have a7 : W.cell? ⟨w1.heap.size, 7, none⟩ = some (.complex .f64 0 0) := HBW.out.cell 7 rfl
    have a8 : W.cell? ⟨w1.heap.size, 8, none⟩ = some (.int .i64 0) := HBW.out.cell 8 rfl
    have z0 := HBW.out.free 0
    have z1 := HBW.out.free 1
    have z2 := HBW.out.free 2
    have z3 := HBW.out.free 3
    have z4 := HBW.out.free 4
    have z5 := HBW.out.free 5
    have z6 := HBW.out.free 6
    have z7 := HBW.out.free 7
    have z8 := HBW.out.free 8
    rw [← HW.out]
    clear HW
    have HA : Hid (Below W.heap.size W (W.drew.alloc (.cells (Tm.cells ⟨3, nm, 9, wordsV s2.next.text, 0⟩) 52))) := (Below.refl _ _).drew.alloc (Nat.le_refl _) _
    have HRA : Hid (Rdr (W.drew.alloc (.cells (Tm.cells ⟨3, nm, 9, wordsV s2.next.text, 0⟩) 52)) g T s3 (.slice va vn vc)) := HRW.out.stay HA.out
    have HKN : Hid (Blk (W.drew.alloc (.cells (Tm.cells ⟨3, nm, 9, wordsV s2.next.text, 0⟩) 52)) W.heap.size (Tm.cells ⟨3, nm, 9, wordsV s2.next.text, 0⟩) 52) := Blk.new W.drew _ _
    have hlA : g + 1 ≤ (W.drew.alloc (.cells (Tm.cells ⟨3, nm, 9, wordsV s2.next.text, 0⟩) 52)).heap.size := by simp; omega
    simp only [Tm.cells] at HA HRA HKN hlA
    go_wp2_with fail
    go_region_law (refine step_append_tm rfl (.tmp 47) (.tmp 49) rfl (g + 1) _ s3.terms rfl HRA.out.tms ⟨W.heap.size, 0, none⟩ 1 ⟨3, nm, 9, wordsV s2.next.text, 0⟩ rfl (Tm.told HKN.out) (by omega) hlA ?_; intro v' w9 ht hg; obtain ⟨hr2, hb2⟩ := HRA.out.more _ ht hg; have HR9 : Hid (Rdr (w9.setCell ⟨g, 7, none⟩ v') g T (addM ⟨3, nm, 9, wordsV s2.next.text, 0⟩ s3) v') := hr2; have HB9 : Hid (Below g w (w9.setCell ⟨g, 7, none⟩ v')) := (HKW.out.below.trans (HA.out.mono (Nat.le_of_lt hgW))).trans hb2; have HK9 : Hid (Blk w9 g (rcells T s3 (.slice va vn vc)) 65) := HRA.out.blk.grown hg (fun e => by have := (HRA.out.tms.row.lt g e.symm).1; omega); have d7 : w9.cell? ⟨g, 7, none⟩ = some (.slice va vn vc) := HK9.out.cell 7 rfl; have f7 := HK9.out.free 7; obtain ⟨va', nn, vc', rfl⟩ := ht.form3; clear hr2 hb2 ht hg)
    all_goals
      refine ⟨rfl, _, results_none rfl _ _ _, ?_⟩
      show AfterU _ _ _ _ _ _
      rw [← HE.out]
      exact ⟨rfl, ⟨_, HR9.out⟩, HB9.out⟩

set_option maxHeartbeats 2000000 in
theorem atom_10 {F : Lex} {T : ByteArray} (HW : Words F T) (hF : LexOk F T.size) {g : Nat} {s s1 s2 : St} {v : Value} (w : World) (h : Rdr w g T s v) (hs : s.here ≤ T.size) (hl : s.terms.length + left T.size s ≤ 5000) (hn : needM F 2 s = .ok s1) (hc : cmpM F s1 = .ok (10, s2)) (R : Res) (hR : restM F s.next.text 10 s2 = R) :
    Calls Tryz.prog 63 #[.pointer (some ⟨g, 0, none⟩)] w fun e w' => AfterU g T w R e w' := by
  have hcx : ∀ (a : Addr) (m : Mode) (W : World) (x y : Nat), (store a (.complex .f64 x y) m).run Tryz.prog W = stored Tryz.prog W a (.complex .f64 x y) m := fun a m W x y => run_store _ _ _ _ _ rfl
  have HR0 : Hid (Rdr w g T s v) := h
  have HX : Hid (Words F T) := HW
  have HF : Hid (LexOk F T.size) := hF
  have hgl := h.lt
  have HNE : Hid (needM F 2 s = .ok s1) := hn
  have HCM : Hid (cmpM F s1 = .ok (10, s2)) := hc
  have d1 := needM_dn1 hF (by decide) hs hn
  have d2 := cmpFrom_dn hF d1.here 8 hc
  have h1 : s1.here ≤ T.size := d1.here
  have h2 : s2.here ≤ T.size := d2.here
  have hl2 : s2.terms.length ≤ 5000 := by have := d1.terms; have := d2.terms; omega
  have HD : Hid (Dn T.size 0 s s2) := (d1.trans d2).less (by omega)
  have hfd := fld2 s.next.kind s.next.place s.next.text s.next.n s.next.late
  have HRR : Hid (restM F s.next.text 10 s2 = R) := hR
  clear h HW hF hn hc d1 d2 hR
  go_enter Tryz.func63, Tryz.ntmps63
  go_wp2_with fail
  refine (need_ok HX.out 2 _ HR0.out hs HNE.out).mono ?_
  rintro e w1 ⟨rfl, hr1, hk1⟩
  have HR1 : Hid (Rdr w1 g T s1 v) := hr1
  have HK1 : Hid (Kept g v w v w1) := hk1
  clear hr1 hk1
  generalize hB : s.next.text = nm at *
  have hg1 := HR1.out.lt
  have HN : Hid (g < w1.heap.size ∧ v.ownBlock ≠ some w1.heap.size) := HR1.out.new (Nat.le_refl _)
  simp only [Wd.cells]
  rw [hB]
  clear hB
  have HRA1 : Hid (Rdr (w1.alloc (.cells #[.int .i64 3, .string nm, .int .i64 0, .int .i64 0, .int .i64 0, .string ⟨#[]⟩, .bool false, .complex .f64 0 0, .int .i64 0] 52)) g T s1 v) := HR1.out.stay (below_alloc w1 _)
  have HKA1 : Hid (Kept g v w v (w1.alloc (.cells #[.int .i64 3, .string nm, .int .i64 0, .int .i64 0, .int .i64 0, .string ⟨#[]⟩, .bool false, .complex .f64 0 0, .int .i64 0] 52))) := HK1.out.trans (Kept.of v (Nat.le_of_lt hg1) (below_alloc w1 _))
  have HBA1 : Hid (Blk (w1.alloc (.cells #[.int .i64 3, .string nm, .int .i64 0, .int .i64 0, .int .i64 0, .string ⟨#[]⟩, .bool false, .complex .f64 0 0, .int .i64 0] 52)) w1.heap.size #[.int .i64 3, .string nm, .int .i64 0, .int .i64 0, .int .i64 0, .string ⟨#[]⟩, .bool false, .complex .f64 0 0, .int .i64 0] 52) := Blk.new w1 _ _
  have hsz : w.heap.size ≤ w1.heap.size := HK1.out.below.size
  go_wp2_with fail
  refine (cmp_any HX.out _ HRA1.out h1 _ HCM.out).mono ?_
  rintro e w2 ⟨rfl, hr2, hk2⟩
  have HR2 : Hid (Rdr (w2.setCell ⟨w1.heap.size, 2, none⟩ (.int .i64 10)) g T s2 v) := hr2.other _ _ HN.out
  have HB2a : Hid (Blk w2 w1.heap.size #[.int .i64 3, .string nm, .int .i64 0, .int .i64 0, .int .i64 0, .string ⟨#[]⟩, .bool false, .complex .f64 0 0, .int .i64 0] 52) := hk2.blk HBA1.out (Nat.ne_of_gt HN.out.1) HN.out.2
  have HB2 : Hid (Blk (w2.setCell ⟨w1.heap.size, 2, none⟩ (.int .i64 10)) w1.heap.size #[.int .i64 3, .string nm, .int .i64 10, .int .i64 0, .int .i64 0, .string ⟨#[]⟩, .bool false, .complex .f64 0 0, .int .i64 0] 52) := HB2a.out.set 2 _
  have HK2 : Hid (Kept g v w v (w2.setCell ⟨w1.heap.size, 2, none⟩ (.int .i64 10))) := (HKA1.out.trans hk2).setNew (Nat.le_of_lt hgl) _ _ hsz
  have b2 : w2.cell? ⟨w1.heap.size, 2, none⟩ = some (.int .i64 0) := HB2a.out.cell 2 rfl
  have y2 := HB2a.out.free 2
  clear hr2 hk2 HRA1 HKA1 HBA1 HB2a
  rcases e3 : pointM F s2 with m | ⟨q, s3⟩
  · have HE : Hid (R = .error m) := by
      have h := HRR.out
      unfold restM at h
      simp [e3] at h
      exact h.symm
    have HP : Hid (pointM F s2 = .error m) := e3
    clear e3 HRR
    go_wp2_with fail
    refine (point_any HX.out HF.out _ HR2.out h2 _ HP.out).mono ?_
    rintro e w3 ⟨rfl, hb⟩
    refine ⟨rfl, ?_⟩
    show AfterU _ _ _ _ _ _
    rw [HE.out]
    exact ⟨rfl, HK2.out.below.trans hb⟩
  · skip
    have d3 := pointM_dn HF.out h2 e3
    have h3 : s3.here ≤ T.size := d3.here
    have hl3 : s3.terms.length ≤ 5000 := by have := HD.out.terms; have := d3.terms; omega
    have HP : Hid (pointM F s2 = .ok (q, s3)) := e3
    have HRR3 : Hid ((andThen (needS F ⟨#[47]⟩ s3) fun s4 => andThen (numM F 0 1048576 s4) fun s5 => .ok (addM ⟨3, nm, 10, q, s4.next.n.toNat⟩ s5)) = R) := by
      have h := HRR.out
      unfold restM at h
      simp [e3] at h
      exact h
    have HD3 : Hid (Dn T.size 0 s s3) := (HD.out.trans d3).less (by omega)
    clear e3 HRR d3
    go_wp2_with fail
    refine (point_any HX.out HF.out _ HR2.out h2 _ HP.out).mono ?_
    rintro e w3 ⟨rfl, hr3, hk3⟩
    have HR3 : Hid (Rdr w3 g T s3 v) := hr3
    have HB3 : Hid (Blk w3 w1.heap.size #[.int .i64 3, .string nm, .int .i64 10, .int .i64 0, .int .i64 0, .string ⟨#[]⟩, .bool false, .complex .f64 0 0, .int .i64 0] 52) := hk3.blk HB2.out (Nat.ne_of_gt HN.out.1) HN.out.2
    have HK3 : Hid (Kept g v w v w3) := HK2.out.trans hk3
    clear hr3 hk3 b2 y2 HB2 HK2 HR2
    have b0 : w3.cell? ⟨w1.heap.size, 0, none⟩ = some (.int .i64 3) := HB3.out.cell 0 rfl
    have b1 : w3.cell? ⟨w1.heap.size, 1, none⟩ = some (.string nm) := HB3.out.cell 1 rfl
    have b2 : w3.cell? ⟨w1.heap.size, 2, none⟩ = some (.int .i64 10) := HB3.out.cell 2 rfl
    have b3 : w3.cell? ⟨w1.heap.size, 3, none⟩ = some (.int .i64 0) := HB3.out.cell 3 rfl
    have b4 : w3.cell? ⟨w1.heap.size, 4, none⟩ = some (.int .i64 0) := HB3.out.cell 4 rfl
    have b5 : w3.cell? ⟨w1.heap.size, 5, none⟩ = some (.string ⟨#[]⟩) := HB3.out.cell 5 rfl
    have b6 : w3.cell? ⟨w1.heap.size, 6, none⟩ = some (.bool false) := HB3.out.cell 6 rfl
    have b7 : w3.cell? ⟨w1.heap.size, 7, none⟩ = some (.complex .f64 0 0) := HB3.out.cell 7 rfl
    have b8 : w3.cell? ⟨w1.heap.size, 8, none⟩ = some (.int .i64 0) := HB3.out.cell 8 rfl
    have y0 := HB3.out.free 0
    have y1 := HB3.out.free 1
    have y2 := HB3.out.free 2
    have y3 := HB3.out.free 3
    have y4 := HB3.out.free 4
    have y5 := HB3.out.free 5
    have y6 := HB3.out.free 6
    have y7 := HB3.out.free 7
    have y8 := HB3.out.free 8
    obtain ⟨qk, qw, qs, qt, qx, qy⟩ := q
    simp only [Val.cells]
    obtain ⟨W3, HW3⟩ : ∃ W3, Hid (W3 = ((((w3.setCell ⟨w1.heap.size, 3, none⟩ (.int .i64 qk)).setCell ⟨w1.heap.size, 4, none⟩ (.int .i64 qw)).setCell ⟨w1.heap.size, 5, none⟩ (.string qs)).setCell ⟨w1.heap.size, 6, none⟩ (.bool qt)).setCell ⟨w1.heap.size, 7, none⟩ (.complex .f64 qx qy)) := ⟨_, rfl⟩
    have HR3' : Hid (Rdr W3 g T s3 v) := by show Rdr _ _ _ _ _; rw [HW3.out]; exact ((((HR3.out.other _ _ HN.out).other _ _ HN.out).other _ _ HN.out).other _ _ HN.out).other _ _ HN.out
    have HK3' : Hid (Kept g v w v W3) := by show Kept _ _ _ _ _; rw [HW3.out]; exact ((((HK3.out.setNew (Nat.le_of_lt hgl) _ _ hsz).setNew (Nat.le_of_lt hgl) _ _ hsz).setNew (Nat.le_of_lt hgl) _ _ hsz).setNew (Nat.le_of_lt hgl) _ _ hsz).setNew (Nat.le_of_lt hgl) _ _ hsz
    have HB3' : Hid (Blk W3 w1.heap.size #[.int .i64 3, .string nm, .int .i64 10, .int .i64 qk, .int .i64 qw, .string qs, .bool qt, .complex .f64 qx qy, .int .i64 0] 52) := by show Blk _ _ _ _; rw [HW3.out]; exact HB3.out.setV _ _ _ _ _
    go_wp2_with fail
    rw [← HW3.out]
    clear b0 b1 b2 b3 b4 b5 b6 b7 b8 y0 y1 y2 y3 y4 y5 y6 y7 y8 HR3 HK3 HB3
    rcases e4 : needS F ⟨#[47]⟩ s3 with m | s4
    · have HP4 : Hid (needS F ⟨#[47]⟩ s3 = .error m) := e4
      have HE : Hid (R = .error m) := by have h := HRR3.out; rw [e4] at h; exact h.symm
      clear e4 HRR3
      refine (needS_bad HX.out _ _ HR3'.out h3 HP4.out).mono ?_
      rintro e w4 ⟨rfl, hb⟩
      refine ⟨rfl, ?_⟩
      show AfterU _ _ _ _ _ _
      rw [HE.out]
      exact ⟨rfl, HK3'.out.below.trans (hb.mono (Nat.le_of_lt HR3'.out.lt))⟩
    have HP4 : Hid (needS F ⟨#[47]⟩ s3 = .ok s4) := e4
    have d4 := needS_dn1 HF.out h3 e4
    have h4 : s4.here ≤ T.size := d4.here
    have HD4 : Hid (Dn T.size 0 s s4) := (HD3.out.trans d4).less (by omega)
    have HRR4 : Hid ((andThen (numM F 0 1048576 s4) fun s5 => .ok (addM ⟨3, nm, 10, ⟨qk, qw, qs, qt, qx, qy⟩, s4.next.n.toNat⟩ s5)) = R) := by have h := HRR3.out; rw [e4] at h; exact h
    clear e4 HRR3 d4
    refine (needS_ok HX.out _ _ HR3'.out h3 HP4.out).mono ?_
    rintro e w4 ⟨rfl, hr4, hk4⟩
    have HR4 : Hid (Rdr w4 g T s4 v) := hr4
    have HB4 : Hid (Blk w4 w1.heap.size #[.int .i64 3, .string nm, .int .i64 10, .int .i64 qk, .int .i64 qw, .string qs, .bool qt, .complex .f64 qx qy, .int .i64 0] 52) := hk4.blk HB3'.out (Nat.ne_of_gt HN.out.1) HN.out.2
    have HK4 : Hid (Kept g v w v w4) := HK3'.out.trans hk4
    clear hr4 hk4 HP4 HB3' HK3' HR3'
    unfold nothing
    rcases e5 : numM F 0 1048576 s4 with m | s5
    · have HP4 : Hid (numM F 0 1048576 s4 = .error m) := e5
      have HE : Hid (R = .error m) := by have h := HRR4.out; rw [e5] at h; exact h.symm
      clear e5 HRR4
      go_wp2_with fail
      refine (num_bad HX.out _ _ _ HR4.out h4 HP4.out).mono ?_
      rintro e w5 ⟨rfl, hb⟩
      refine ⟨rfl, ?_⟩
      show AfterU _ _ _ _ _ _
      rw [HE.out]
      exact ⟨rfl, HK4.out.below.trans (hb.mono (Nat.le_of_lt HR4.out.lt))⟩
    have HP4 : Hid (numM F 0 1048576 s4 = .ok s5) := e5
    have d5 := numM_dn1 HF.out h4 e5
    have h5 : s5.here ≤ T.size := d5.here
    have HD5 : Hid (Dn T.size 0 s s5) := (HD4.out.trans d5).less (by omega)
    have HRR5 : Hid (.ok (addM ⟨3, nm, 10, ⟨qk, qw, qs, qt, qx, qy⟩, s4.next.n.toNat⟩ s5) = R) := by have h := HRR4.out; rw [e5] at h; exact h
    have hn4 : 0 ≤ s4.next.n ∧ s4.next.n ≤ 1048576 := by
      unfold numM needM at e5
      split at e5
      · cases e5
      · split at e5
        · omega
        · cases e5
    clear e5 HRR4 d5
    go_wp2_with fail
    refine (num_ok HX.out _ _ _ HR4.out h4 HP4.out).mono ?_
    rintro e w5 ⟨rfl, hr4, hk4⟩
    have HR5 : Hid (Rdr w5 g T s5 v) := hr4
    have HB5 : Hid (Blk w5 w1.heap.size #[.int .i64 3, .string nm, .int .i64 10, .int .i64 qk, .int .i64 qw, .string qs, .bool qt, .complex .f64 qx qy, .int .i64 0] 52) := hk4.blk HB4.out (Nat.ne_of_gt HN.out.1) HN.out.2
    have HK5 : Hid (Kept g v w v w5) := HK4.out.trans hk4
    clear hr4 hk4 HP4 HB4 HK4 HR4
    obtain ⟨rn, hrn⟩ : ∃ rn : Nat, s4.next.n = (rn : Int) := ⟨s4.next.n.toNat, by omega⟩
    rw [hrn] at HRR5 hn4 ⊢
    have HE : Hid (.ok (addM ⟨3, nm, 10, ⟨qk, qw, qs, qt, qx, qy⟩, rn⟩ s5) = R) := HRR5.out
    have hl5 : s5.terms.length ≤ 5000 := by have := HD5.out.terms; omega
    have b8 : w5.cell? ⟨w1.heap.size, 8, none⟩ = some (.int .i64 0) := HB5.out.cell 8 rfl
    have y8 := HB5.out.free 8
    clear HRR5 hrn
    go_wp2_with fail
    clear b8 y8
    obtain ⟨W, HW⟩ : ∃ W, Hid (W = w5.setCell ⟨w1.heap.size, 8, none⟩ (.int .i64 (rn : Int))) := ⟨_, rfl⟩
    have HRW : Hid (Rdr W g T s5 v) := by show Rdr _ _ _ _ _; rw [HW.out]; exact HR5.out.other _ _ HN.out
    have HKW : Hid (Kept g v w v W) := by show Kept _ _ _ _ _; rw [HW.out]; exact HK5.out.setNew (Nat.le_of_lt hgl) _ _ hsz
    have HBW : Hid (Blk W w1.heap.size (Tm.cells ⟨3, nm, 10, ⟨qk, qw, qs, qt, qx, qy⟩, rn⟩) 52) := by show Blk _ _ _ _; rw [HW.out]; exact HB5.out.set 8 _
    have hgW := HRW.out.lt
    obtain ⟨va, vn, vc, rfl⟩ := HRW.out.tms.form3
    have r7 : W.cell? ⟨g, 7, none⟩ = some (.slice va vn vc) := HRW.out.blk.cell 7 rfl
    have a0 : W.cell? ⟨w1.heap.size, 0, none⟩ = some (.int .i64 3) := HBW.out.cell 0 rfl
    have a1 : W.cell? ⟨w1.heap.size, 1, none⟩ = some (.string nm) := HBW.out.cell 1 rfl
    have a2 : W.cell? ⟨w1.heap.size, 2, none⟩ = some (.int .i64 10) := HBW.out.cell 2 rfl
    have a3 : W.cell? ⟨w1.heap.size, 3, none⟩ = some (.int .i64 qk) := HBW.out.cell 3 rfl
    have a4 : W.cell? ⟨w1.heap.size, 4, none⟩ = some (.int .i64 qw) := HBW.out.cell 4 rfl
    have a5 : W.cell? ⟨w1.heap.size, 5, none⟩ = some (.string qs) := HBW.out.cell 5 rfl
    have a6 : W.cell? ⟨w1.heap.size, 6, none⟩ = some (.bool qt) := HBW.out.cell 6 rfl
    have a7 : W.cell? ⟨w1.heap.size, 7, none⟩ = some (.complex .f64 qx qy) := HBW.out.cell 7 rfl
    have a8 : W.cell? ⟨w1.heap.size, 8, none⟩ = some (.int .i64 (rn : Int)) := HBW.out.cell 8 rfl
    have z0 := HBW.out.free 0
    have z1 := HBW.out.free 1
    have z2 := HBW.out.free 2
    have z3 := HBW.out.free 3
    have z4 := HBW.out.free 4
    have z5 := HBW.out.free 5
    have z6 := HBW.out.free 6
    have z7 := HBW.out.free 7
    have z8 := HBW.out.free 8
    rw [← HW.out]
    clear HW
    have HA : Hid (Below W.heap.size W (W.drew.alloc (.cells (Tm.cells ⟨3, nm, 10, ⟨qk, qw, qs, qt, qx, qy⟩, rn⟩) 52))) := (Below.refl _ _).drew.alloc (Nat.le_refl _) _
    have HRA : Hid (Rdr (W.drew.alloc (.cells (Tm.cells ⟨3, nm, 10, ⟨qk, qw, qs, qt, qx, qy⟩, rn⟩) 52)) g T s5 (.slice va vn vc)) := HRW.out.stay HA.out
    have HKN : Hid (Blk (W.drew.alloc (.cells (Tm.cells ⟨3, nm, 10, ⟨qk, qw, qs, qt, qx, qy⟩, rn⟩) 52)) W.heap.size (Tm.cells ⟨3, nm, 10, ⟨qk, qw, qs, qt, qx, qy⟩, rn⟩) 52) := Blk.new W.drew _ _
    have hlA : g + 1 ≤ (W.drew.alloc (.cells (Tm.cells ⟨3, nm, 10, ⟨qk, qw, qs, qt, qx, qy⟩, rn⟩) 52)).heap.size := by simp; omega
    simp only [Tm.cells] at HA HRA HKN hlA
    go_wp2_with fail
    go_region_law (refine step_append_tm rfl (.tmp 47) (.tmp 49) rfl (g + 1) _ s5.terms rfl HRA.out.tms ⟨W.heap.size, 0, none⟩ 1 ⟨3, nm, 10, ⟨qk, qw, qs, qt, qx, qy⟩, rn⟩ rfl (Tm.told HKN.out) (by omega) hlA ?_; intro v' w9 ht hg; obtain ⟨hr2, hb2⟩ := HRA.out.more _ ht hg; have HR9 : Hid (Rdr (w9.setCell ⟨g, 7, none⟩ v') g T (addM ⟨3, nm, 10, ⟨qk, qw, qs, qt, qx, qy⟩, rn⟩ s5) v') := hr2; have HB9 : Hid (Below g w (w9.setCell ⟨g, 7, none⟩ v')) := (HKW.out.below.trans (HA.out.mono (Nat.le_of_lt hgW))).trans hb2; have HK9 : Hid (Blk w9 g (rcells T s5 (.slice va vn vc)) 65) := HRA.out.blk.grown hg (fun e => by have := (HRA.out.tms.row.lt g e.symm).1; omega); have d7 : w9.cell? ⟨g, 7, none⟩ = some (.slice va vn vc) := HK9.out.cell 7 rfl; have f7 := HK9.out.free 7; obtain ⟨va', nn, vc', rfl⟩ := ht.form3; clear hr2 hb2 ht hg)
    all_goals
      refine ⟨rfl, _, results_none rfl _ _ _, ?_⟩
      show AfterU _ _ _ _ _ _
      rw [← HE.out]
      exact ⟨rfl, ⟨_, HR9.out⟩, HB9.out⟩

end Go.Proofs.YteoopoabemeanaaGreatDoor
