/- The walk of LinkOnce: every script of hops between two links. -/
import Derived.Test.YtbloomepdchjhaaDoorLoP
import Derived.Test.YtbloomepdchjhaaDoorDoor
namespace Go.Proofs.YtbloomepdchjhaaDoor
open Go.ChangeShapes Go.WideShapes Go.ChangeAt Go.RowKit
namespace linkOnce

set_option maxRecDepth 100000 in
set_option maxHeartbeats 40000000 in
theorem walk (a : Option Addr) (len cap : Nat) (l : List Hp) (w : World) (hl : HpsRd w a len l) (ht : Tab w) (h0 : 0 < w.heap.size) :
    Calls Tryd.prog 3 #[.slice a len cap] w fun e w' => e = .returned (.bool true) ∧ Below w.heap.size w w' := by
  have HL : Hid (HpsRd w a len l) := hl
  have HT : Hid (Tab w) := ht
  clear hl ht
  obtain ⟨B, HBE⟩ : ∃ B, Hid (B = w.heap.size) := ⟨_, rfl⟩
  obtain ⟨W1, HW1⟩ : ∃ W1, Hid (W1 = ((w.alloc (.cells #[.pointer none, .pointer none] 24)).alloc (.cells #[.int .i64 0, .int .i64 0] 25)).alloc (.cells #[.slice none 0 0, .slice none 0 0] 27)) := ⟨_, rfl⟩
  have HB1 : Hid (Below w.heap.size w W1) := by rw [HW1.out]; exact ((below_new _ _).trans ((below_new _ _).mono (by simp))).trans ((below_new _ _).mono (by simp; omega))
  have HE1 : Hid (Bk W1 w.heap.size #[.pointer none, .pointer none] 24) := by rw [HW1.out]; exact ((Bk.new _ _ _).stay (below_new _ _)).stay (below_new _ _)
  have HV1 : Hid (Bk W1 (w.heap.size + 1) #[.int .i64 0, .int .i64 0] 25) := by rw [HW1.out]; exact (Bk.second _ _ _ _).stay (below_new _ _)
  have HQ1 : Hid (Bk W1 (w.heap.size + 2) #[.slice none 0 0, .slice none 0 0] 27) := by
    rw [HW1.out]
    have h5 := Bk.new ((w.alloc (.cells #[.pointer none, .pointer none] 24)).alloc (.cells #[.int .i64 0, .int .i64 0] 25)) #[.slice none 0 0, .slice none 0 0] 27
    rw [show ((w.alloc (.cells #[.pointer none, .pointer none] 24)).alloc (.cells #[.int .i64 0, .int .i64 0] 25)).heap.size = w.heap.size + 2 from by simp] at h5
    exact h5
  go_enter Tryd.func3, Tryd.ntmps3
  go_wp2
  refine wp_loop_rounds 3 ?_
  rw [rounds_succ]
  go_wp2_with fail
  rw [← HW1.out]
  refine (lk_New 1 8 W1 (by omega) (by omega) (by omega) (by omega)).mono ?_
  rintro e w2 ⟨rfl, HX2, hb2⟩
  clear HW1
  obtain ⟨g0, HG0⟩ : ∃ g0, Hid (g0 = W1.heap.size) := ⟨_, rfl⟩
  have HX2b : Hid (Bk w2 g0 (Lk.cells ⟨1, 0, 0, 8, 0, 0, -1⟩ (.slice none 0 0)) 65) := by rw [HG0.out]; exact HX2.out.blk
  have HE2 : Hid (Bk w2 w.heap.size #[.pointer none, .pointer none] 24) := HE1.out.stay hb2
  have HV2 : Hid (Bk w2 (w.heap.size + 1) #[.int .i64 0, .int .i64 0] 25) := HV1.out.stay hb2
  have HQ2 : Hid (Bk w2 (w.heap.size + 2) #[.slice none 0 0, .slice none 0 0] 27) := HQ1.out.stay hb2
  have HB2 : Hid (Below w.heap.size w w2) := HB1.out.trans (hb2.mono HB1.out.size)
  have HGB : Hid (w.heap.size + 3 ≤ g0) := by
    have h5 := HQ1.out.lt
    show _ ≤ _
    rw [HG0.out]
    omega
  have c0 : w2.cell? ⟨w.heap.size, 0, none⟩ = some (.pointer none) := HE2.out.cell 0 rfl
  have f0 : ∀ i, w2.frozen? ⟨w.heap.size, i, none⟩ = false := fun i => HE2.out.free i
  have d0 : w2.cell? ⟨w.heap.size + 1, 0, none⟩ = some (.int .i64 0) := HV2.out.cell 0 rfl
  have f1 : ∀ i, w2.frozen? ⟨w.heap.size + 1, i, none⟩ = false := fun i => HV2.out.free i
  clear hb2 HX2 HE1 HV1 HQ1 HB1
  rw [← HG0.out]
  obtain ⟨W3, HW3⟩ : ∃ W3, Hid (W3 = (w2.setCell ⟨w.heap.size, 0, none⟩ (.pointer (some ⟨g0, 0, none⟩))).setCell ⟨w.heap.size + 1, 0, none⟩ (.int .i64 1)) := ⟨_, rfl⟩
  have HE3 : Hid (Bk W3 w.heap.size #[.pointer (some ⟨g0, 0, none⟩), .pointer none] 24) := by rw [HW3.out]; exact (HE2.out.set 0 _).other _ _ (by simp)
  have HV3 : Hid (Bk W3 (w.heap.size + 1) #[.int .i64 1, .int .i64 0] 25) := by rw [HW3.out]; exact (HV2.out.other _ _ (by simp)).set 0 _
  have HQ3 : Hid (Bk W3 (w.heap.size + 2) #[.slice none 0 0, .slice none 0 0] 27) := by rw [HW3.out]; exact (HQ2.out.other _ _ (by simp)).other _ _ (by simp)
  have HX3 : Hid (Bk W3 g0 (Lk.cells ⟨1, 0, 0, 8, 0, 0, -1⟩ (.slice none 0 0)) 65) := by have h5 := HGB.out; rw [HW3.out]; exact (HX2b.out.other _ _ (by simp; omega)).other _ _ (by simp; omega)
  have HB3 : Hid (Below w.heap.size w W3) := by rw [HW3.out]; exact (HB2.out.setCell (Nat.le_refl _) _).setCell (Nat.le_succ _) _
  go_wp2
  rw [rounds_succ]
  go_wp2_with fail
  rw [← HW3.out]
  clear c0 f0 d0 f1 HW3 HE2 HV2 HQ2 HX2b HB2
  refine (lk_New 1 8 W3 (by omega) (by omega) (by omega) (by omega)).mono ?_
  rintro e w4 ⟨rfl, HX4, hb4⟩
  obtain ⟨g1, HG1⟩ : ∃ g1, Hid (g1 = W3.heap.size) := ⟨_, rfl⟩
  have HY4 : Hid (Bk w4 g1 (Lk.cells ⟨1, 0, 0, 8, 0, 0, -1⟩ (.slice none 0 0)) 65) := by rw [HG1.out]; exact HX4.out.blk
  have HX4b : Hid (Bk w4 g0 (Lk.cells ⟨1, 0, 0, 8, 0, 0, -1⟩ (.slice none 0 0)) 65) := HX3.out.stay hb4
  have HE4 : Hid (Bk w4 w.heap.size #[.pointer (some ⟨g0, 0, none⟩), .pointer none] 24) := HE3.out.stay hb4
  have HV4 : Hid (Bk w4 (w.heap.size + 1) #[.int .i64 1, .int .i64 0] 25) := HV3.out.stay hb4
  have HQ4 : Hid (Bk w4 (w.heap.size + 2) #[.slice none 0 0, .slice none 0 0] 27) := HQ3.out.stay hb4
  have HB4 : Hid (Below w.heap.size w w4) := HB3.out.trans (hb4.mono HB3.out.size)
  have HGG : Hid (g0 < g1) := by show _ < _; rw [HG1.out]; exact HX3.out.lt
  have c1 : w4.cell? ⟨w.heap.size, 1, none⟩ = some (.pointer none) := HE4.out.cell 1 rfl
  have f0 : ∀ i, w4.frozen? ⟨w.heap.size, i, none⟩ = false := fun i => HE4.out.free i
  have d1 : w4.cell? ⟨w.heap.size + 1, 1, none⟩ = some (.int .i64 0) := HV4.out.cell 1 rfl
  have f1 : ∀ i, w4.frozen? ⟨w.heap.size + 1, i, none⟩ = false := fun i => HV4.out.free i
  clear hb4 HX4 HE3 HV3 HQ3 HX3 HB3
  rw [← HG1.out]
  obtain ⟨W5, HW5⟩ : ∃ W5, Hid (W5 = (w4.setCell ⟨w.heap.size, 1, none⟩ (.pointer (some ⟨g1, 0, none⟩))).setCell ⟨w.heap.size + 1, 1, none⟩ (.int .i64 1)) := ⟨_, rfl⟩
  have HE5 : Hid (Bk W5 w.heap.size #[.pointer (some ⟨g0, 0, none⟩), .pointer (some ⟨g1, 0, none⟩)] 24) := by rw [HW5.out]; exact (HE4.out.set 1 _).other _ _ (by simp)
  have HV5 : Hid (Bk W5 (w.heap.size + 1) #[.int .i64 1, .int .i64 1] 25) := by rw [HW5.out]; exact (HV4.out.other _ _ (by simp)).set 1 _
  have HQ5 : Hid (Bk W5 (w.heap.size + 2) #[.slice none 0 0, .slice none 0 0] 27) := by rw [HW5.out]; exact (HQ4.out.other _ _ (by simp)).other _ _ (by simp)
  have HX5 : Hid (Bk W5 g0 (Lk.cells ⟨1, 0, 0, 8, 0, 0, -1⟩ (.slice none 0 0)) 65) := by have h5 := HGB.out; rw [HW5.out]; exact (HX4b.out.other _ _ (by simp; omega)).other _ _ (by simp; omega)
  have HY5 : Hid (Bk W5 g1 (Lk.cells ⟨1, 0, 0, 8, 0, 0, -1⟩ (.slice none 0 0)) 65) := by have h5 := HGB.out; have h6 := HGG.out; rw [HW5.out]; exact (HY4.out.other _ _ (by simp; omega)).other _ _ (by simp; omega)
  have HB5 : Hid (Below w.heap.size w W5) := by rw [HW5.out]; exact (HB4.out.setCell (Nat.le_refl _) _).setCell (Nat.le_succ _) _
  have HZ5 : Hid (W5.heap.size = w4.heap.size) := by show _ = _; rw [HW5.out]; simp
  go_wp2
  rw [rounds_succ]
  go_wp2
  rw [← HW5.out]
  clear c1 f0 d1 f1 HW5 HE4 HV4 HQ4 HX4b HY4 HB4
  obtain ⟨W6, HW6⟩ : ∃ W6, Hid (W6 = W5.alloc (.cells #[.int .i64 0, .int .i64 0] 25)) := ⟨_, rfl⟩
  rw [← HW6.out]
  have hb6 : Below W5.heap.size W5 W6 := by rw [HW6.out]; exact below_new _ _
  have HK6 : Hid (Bk W6 W5.heap.size #[.int .i64 0, .int .i64 0] 25) := by rw [HW6.out]; exact Bk.new _ _ _
  have HB6 : Hid (Below B w W6) := by show Below _ _ _; rw [HBE.out]; exact HB5.out.trans (hb6.mono HB5.out.size)
  have HS6 : Hid (∃ m gr, St W6 B m ∧ Good m gr 0 ∧ m.av = .slice none 0 0 ∧ m.bE = w.heap.size ∧ m.bV = w.heap.size + 1 ∧ m.bW = w.heap.size + 1 + 1 ∧ m.bK = w4.heap.size) := by
    have h5 := HGB.out
    have h6 := HGG.out
    have h7 := HQ5.out.lt
    have hbs : B ≤ W6.heap.size := by have h8 := HB6.out.size; have h9 := HBE.out; omega
    refine ⟨⟨w.heap.size, w.heap.size + 1, w.heap.size + 2, W5.heap.size, fun b => if b = true then g1 else g0, fun _ => .slice none 0 0, fun _ => [], fun _ => ⟨1, 0, 0, 8, 0, 0, -1⟩, fun _ => 1, fun _ => 0, fun _ => .slice none 0 0, fun _ => [], .slice none 0 0, []⟩, fun _ => 0, ?_, ?_, rfl, rfl, rfl, rfl, HZ5.out⟩
    · refine ⟨HE5.out.stay hb6, HV5.out.stay hb6, HQ5.out.stay hb6, HK6.out, ?_, ?_, ?_, ?_, ?_, ?_, ?_, ?_, ?_, ?_, ?_, ?_, ?_, hbs⟩
      · show w.heap.size + 1 ≠ W5.heap.size; omega
      · rw [HBE.out]; exact ⟨Nat.le_refl _, by simp, by simp, by simp; omega⟩
      · intro b; rw [HBE.out]; cases b <;> simp <;> omega
      · intro b
        refine ⟨?_, World.ownsRow_nil _ _ _ _, fun x hx => (by cases hx), hbs⟩
        cases b
        · exact HX5.out.stay hb6
        · exact HY5.out.stay hb6
      · intro b; cases b <;> simp <;> omega
      · intro b k hk; cases hk
      · intro b; exact ⟨rfl, .inl ⟨rfl, rfl⟩⟩
      · intro b k hk; cases hk
      · exact World.ownsRow_nil _ _ _ _
      · intro b x hx; cases hx
      · intro f hf; cases hf
      · exact HT.out.below h0 (by rw [← HBE.out]; exact HB6.out)
      · rw [HBE.out]; exact h0
    · refine ⟨fun b => ⟨rfl, rfl, by simp, by simp⟩, fun b => rfl, fun b => ⟨by simp, by simp⟩, fun b => ⟨0, rfl, by omega⟩, fun b => rfl, fun b => Pairs.nil_, fun b => by simp, fun b => by simp, by simp, fun f hf => by cases hf⟩
  clear hb6 HE5 HV5 HQ5 HX5 HY5 HB5 HK6 HGG HGB HG0 HG1
  obtain ⟨m0, gr0, hst0, hgd0, hav0, he0, hv0, hw0, hk0⟩ := HS6.out
  have HST0 : Hid (St W6 B m0) := hst0
  have HGD0 : Hid (Good m0 gr0 0) := hgd0
  have HAV0 : Hid (m0.av = .slice none 0 0) := hav0
  obtain ⟨bE, HbE⟩ : ∃ bE, Hid (m0.bE = bE) := ⟨_, rfl⟩
  obtain ⟨bV, HbV⟩ : ∃ bV, Hid (m0.bV = bV) := ⟨_, rfl⟩
  obtain ⟨bW, HbW⟩ : ∃ bW, Hid (m0.bW = bW) := ⟨_, rfl⟩
  obtain ⟨bK, HbK⟩ : ∃ bK, Hid (m0.bK = bK) := ⟨_, rfl⟩
  rw [← hw0, ← hv0, ← hk0, ← he0, HbE.out, HbV.out, HbW.out, HbK.out]
  clear HS6 hst0 hgd0 hav0 he0 hv0 hw0 hk0 HW6 HZ5
  go_loopw [9, 11] (fun t9 t11 wr => ∃ (i : Nat) (m : Mem) (gr : Bool → Nat), i ≤ len ∧ i ≤ 200 ∧ t11 = .int .i64 (i : Int) ∧ t9 = m.av ∧ Hid (St wr B m) ∧ Hid (Good m gr i) ∧ Hid (m.bE = bE ∧ m.bV = bV ∧ m.bW = bW ∧ m.bK = bK) ∧ Hid (Below B w wr)) (fun _ t11 _ => 200 - (intOf t11).toNat)
  case atStart => exact ⟨0, m0, gr0, by omega, by omega, rfl, HAV0.out.symm, HST0, HGD0, ⟨HbE.out, HbV.out, HbW.out, HbK.out⟩, HB6⟩
  case round =>
    clear HST0 HGD0 HAV0 HbE HbV HbW HbK HB6
    obtain ⟨i, m, gr, hi, hi2, rfl, rfl, HST, HGD, HBL, HB⟩ := hrel
    have HBw : Hid (Below w.heap.size w wr) := by show Below _ _ _; rw [← HBE.out]; exact HB.out
    by_cases hgo : i < len ∧ i < 200
    · obtain ⟨hlt, h200⟩ := hgo
      have hlt' : (i : Int) < (len : Int) := by omega
      have h200' : (i : Int) < 200 := by omega
      have hi0 : (0 : Int) ≤ (i : Int) := by omega
      obtain ⟨gl, o, rfl, hgl, q, hq, hok, hat⟩ := (HL.out.below HBw.out).spot i hlt
      have HOK : Hid (HpOk wr q) := hok
      have HGL : Hid (gl < B) := by
        rcases HL.out.cells with h5 | ⟨g5, o5, h5, h6, _⟩
        · have h7 := HL.out.size; rw [h5] at h7; simp at h7; omega
        · simp only [Option.some.injEq, Addr.mk.injEq] at h5
          show _ < _
          rw [HBE.out, h5.1]
          exact h6
      have HAT : Hid (HpAt wr gl (o + i * 11) q) := hat
      have HOKA : Hid (∀ w', Below B w w' → HpOk w' q) := fun w' hb' => (HL.out.each q (List.mem_of_getElem? hq)).below (by rw [← HBE.out]; exact hb')
      obtain ⟨qd, qe, qn, qp, sa, sn, sc, ia, im, ic⟩ := q
      have hc1 : wr.cell? ⟨gl, o + i * 11 + 1, none⟩ = some (.bool qe) := hat.2.1
      have hc0 : wr.cell? ⟨gl, o + i * 11, none⟩ = some (.int .i64 qd) := hat.1
      clear hq hok hat hgl
      go_wp2_with fail
      refine (on_side qe wr).mono ?_
      rintro e w1 ⟨rfl, hw1⟩
      subst hw1
      obtain ⟨k, hk⟩ : ∃ k, k = qe.toNat := ⟨_, rfl⟩
      have HK : Hid (k = qe.toNat) := hk
      have hk2 : (k : Int) < 2 := by have h5 : k ≤ 1 := by rw [hk]; cases qe <;> decide
                                     omega
      have hk0 : (0 : Int) ≤ (k : Int) := by omega
      rw [← hk]
      clear hk
      by_cases d0 : qd = 0
      · subst d0
        obtain ⟨pk, pp, ps, pn, pf, pt, pl, pi⟩ := qp
        obtain ⟨gb, hgb⟩ : ∃ gb, gb = m.g qe := ⟨_, rfl⟩
        have HGBE : Hid (gb = m.g qe) := hgb
        have HS8 : Hid (∀ w', Below B w1 w' → w'.cell? ⟨gl, o + i * 11 + 3, none⟩ = some (.int .i64 pk) ∧ w'.cell? ⟨gl, o + i * 11 + 4, none⟩ = some (.int .i64 pp) ∧ w'.cell? ⟨gl, o + i * 11 + 5, none⟩ = some (.int .i64 ps) ∧ w'.cell? ⟨gl, o + i * 11 + 6, none⟩ = some (.int .i64 pn) ∧ w'.cell? ⟨gl, o + i * 11 + 7, none⟩ = some (.int .i64 pf) ∧ w'.cell? ⟨gl, o + i * 11 + 8, none⟩ = some (.int .i64 pt) ∧ w'.cell? ⟨gl, o + i * 11 + 9, none⟩ = some (.slice sa sn sc) ∧ w'.cell? ⟨gl, o + i * 11 + 10, none⟩ = some (.slice ia im ic)) := fun w' hb' => by
          obtain ⟨_, _, _, h3, h4, h5, h6, h7, h8, h9, h10⟩ := HAT.out.below hb' HGL.out
          exact ⟨h3, h4, h5, h6, h7, h8, h9, h10⟩
        have HSK : Hid (∀ w', Below B w1 w' → w'.cell? ⟨bE, k, none⟩ = some (.pointer (some ⟨gb, 0, none⟩)) → w'.cell? ⟨bE, k, none⟩ = some (.pointer (some ⟨gb, 0, none⟩)) ∧ w'.cell? ⟨gl, o + i * 11 + 3, none⟩ = some (.int .i64 pk) ∧ w'.cell? ⟨gl, o + i * 11 + 4, none⟩ = some (.int .i64 pp) ∧ w'.cell? ⟨gl, o + i * 11 + 5, none⟩ = some (.int .i64 ps) ∧ w'.cell? ⟨gl, o + i * 11 + 6, none⟩ = some (.int .i64 pn) ∧ w'.cell? ⟨gl, o + i * 11 + 7, none⟩ = some (.int .i64 pf) ∧ w'.cell? ⟨gl, o + i * 11 + 8, none⟩ = some (.int .i64 pt) ∧ w'.cell? ⟨gl, o + i * 11 + 9, none⟩ = some (.slice sa sn sc) ∧ w'.cell? ⟨gl, o + i * 11 + 10, none⟩ = some (.slice ia im ic)) := fun w' hb' hc' => ⟨hc', HS8.out w' hb'⟩
        obtain ⟨wd, HWD⟩ : ∃ wd, Hid (wd = w1.drew) := ⟨_, rfl⟩
        have HBd : Hid (Below w1.heap.size w1 wd) := by rw [HWD.out]; exact below_drew (Below.refl _ _)
        have HSTd : Hid (St wd B m) := HST.out.stay HBd.out
        have HBdB : Hid (Below B w1 wd) := HBd.out.mono HST.out.bs
        have HPRd : Hid (PcRd wd ⟨pk, pp, ps, pn, pf, pt, pl, pi⟩ sa sn sc ia im ic) := HOK.out.rd.below HBd.out
        have HEC : Hid (wd.cell? ⟨bE, k, none⟩ = some (.pointer (some ⟨gb, 0, none⟩))) := by
          have h5 := HSTd.out.cE qe
          rw [HBL.out.1, ← HK.out, ← hgb] at h5
          exact h5
        clear hgb
        go_wp2_with fail
        refine wp_region_held_drew (S := fun w' => w'.cell? ⟨bE, k, none⟩ = some (.pointer (some ⟨gb, 0, none⟩)) ∧ w'.cell? ⟨gl, o + i * 11 + 3, none⟩ = some (.int .i64 pk) ∧ w'.cell? ⟨gl, o + i * 11 + 4, none⟩ = some (.int .i64 pp) ∧ w'.cell? ⟨gl, o + i * 11 + 5, none⟩ = some (.int .i64 ps) ∧ w'.cell? ⟨gl, o + i * 11 + 6, none⟩ = some (.int .i64 pn) ∧ w'.cell? ⟨gl, o + i * 11 + 7, none⟩ = some (.int .i64 pf) ∧ w'.cell? ⟨gl, o + i * 11 + 8, none⟩ = some (.int .i64 pt) ∧ w'.cell? ⟨gl, o + i * 11 + 9, none⟩ = some (.slice sa sn sc) ∧ w'.cell? ⟨gl, o + i * 11 + 10, none⟩ = some (.slice ia im ic)) (by kernel_rfl) (by rw [← HWD.out]; exact HSK.out _ HBdB.out HEC.out) (fun hHeld => ?_)
        rw [← HWD.out] at hHeld ⊢
        refine take_putH (i := 0) (v := ?_) (some 65) rfl (by kernel_rfl) (by kernel_rfl) (by kernel_rfl) (by kernel_rfl) (fun _ _ _ h => h) (Or.inl ⟨by rfl, ?_⟩) hHeld ?_
        rotate_left
        · (intro w hSw; obtain ⟨z0, z1, z2, z3, z4, z5, z6, z7, z8⟩ := hSw; go_simp; try with_reducible rfl)
        try simp only [Act.put, List.setIfInBounds_toArray, List.set_cons_zero, List.set_cons_succ]
        refine take_putH (i := 1) (v := ?_) (some 66) rfl (by kernel_rfl) (by kernel_rfl) (by kernel_rfl) (by kernel_rfl) (fun _ _ _ h => h) (Or.inl ⟨by rfl, ?_⟩) hHeld ?_
        rotate_left
        · (intro w hSw; obtain ⟨z0, z1, z2, z3, z4, z5, z6, z7, z8⟩ := hSw; go_simp; try with_reducible rfl)
        try simp only [Act.put, List.setIfInBounds_toArray, List.set_cons_zero, List.set_cons_succ]
        refine take_putH (i := 2) (v := ?_) (some 67) rfl (by kernel_rfl) (by kernel_rfl) (by kernel_rfl) (by kernel_rfl) (fun _ _ _ h => h) (Or.inl ⟨by rfl, ?_⟩) hHeld ?_
        rotate_left
        · (intro w hSw; obtain ⟨z0, z1, z2, z3, z4, z5, z6, z7, z8⟩ := hSw; go_simp; try with_reducible rfl)
        try simp only [Act.put, List.setIfInBounds_toArray, List.set_cons_zero, List.set_cons_succ]
        refine take_putH (i := 3) (v := ?_) (some 68) rfl (by kernel_rfl) (by kernel_rfl) (by kernel_rfl) (by kernel_rfl) (fun _ _ _ h => h) (Or.inl ⟨by rfl, ?_⟩) hHeld ?_
        rotate_left
        · (intro w hSw; obtain ⟨z0, z1, z2, z3, z4, z5, z6, z7, z8⟩ := hSw; go_simp; try with_reducible rfl)
        try simp only [Act.put, List.setIfInBounds_toArray, List.set_cons_zero, List.set_cons_succ]
        refine take_putH (i := 4) (v := ?_) (some 69) rfl (by kernel_rfl) (by kernel_rfl) (by kernel_rfl) (by kernel_rfl) (fun _ _ _ h => h) (Or.inl ⟨by rfl, ?_⟩) hHeld ?_
        rotate_left
        · (intro w hSw; obtain ⟨z0, z1, z2, z3, z4, z5, z6, z7, z8⟩ := hSw; go_simp; try with_reducible rfl)
        try simp only [Act.put, List.setIfInBounds_toArray, List.set_cons_zero, List.set_cons_succ]
        refine take_putH (i := 5) (v := ?_) (some 70) rfl (by kernel_rfl) (by kernel_rfl) (by kernel_rfl) (by kernel_rfl) (fun _ _ _ h => h) (Or.inl ⟨by rfl, ?_⟩) hHeld ?_
        rotate_left
        · (intro w hSw; obtain ⟨z0, z1, z2, z3, z4, z5, z6, z7, z8⟩ := hSw; go_simp; try with_reducible rfl)
        try simp only [Act.put, List.setIfInBounds_toArray, List.set_cons_zero, List.set_cons_succ]
        refine take_putH (i := 6) (v := ?_) (some 71) rfl (by kernel_rfl) (by kernel_rfl) (by kernel_rfl) (by kernel_rfl) (fun _ _ _ h => h) (Or.inl ⟨by rfl, ?_⟩) hHeld ?_
        rotate_left
        · (intro w hSw; obtain ⟨z0, z1, z2, z3, z4, z5, z6, z7, z8⟩ := hSw; go_simp; try with_reducible rfl)
        try simp only [Act.put, List.setIfInBounds_toArray, List.set_cons_zero, List.set_cons_succ]
        refine take_putH (i := 7) (v := ?_) (some 72) rfl (by kernel_rfl) (by kernel_rfl) (by kernel_rfl) (by kernel_rfl) (fun _ _ _ h => h) (Or.inl ⟨by rfl, ?_⟩) hHeld ?_
        rotate_left
        · (intro w hSw; obtain ⟨z0, z1, z2, z3, z4, z5, z6, z7, z8⟩ := hSw; go_simp; try with_reducible rfl)
        try simp only [Act.put, List.setIfInBounds_toArray, List.set_cons_zero, List.set_cons_succ]
        refine wpAnyH_ready (rs := [8]) (by kernel_rfl) (by simp) ?_
        refine AllReadyH.cons rfl (fun K hK => ?_) AllReadyH.nil
        go_simp
        rw [HGBE.out]
        refine (on_send HSTd.out HGD.out qe ⟨pk, pp, ps, pn, pf, pt, pl, pi⟩ sa sn sc ia im ic HPRd.out).mono ?_
        rintro e w2 ⟨⟨r, he, hr⟩, HB2, HE2⟩
        subst he
        have HB12 : Hid (Below B w1 w2) := HBdB.out.trans HB2.out
        have hS2 := HSK.out w2 HB12.out (by have h5 := HE2.out; rw [HBL.out.1, ← HK.out, ← HGBE.out] at h5; exact h5)
        clear HE2 hHeld
        refine hK.out _ _ hS2 (fun hzz => ?_)
        clear hzz hK K
        try simp only [Act.put, List.getElem_toArray, List.getElem_cons_succ, List.getElem_cons_zero, List.setIfInBounds_toArray, List.set_cons_zero, List.set_cons_succ]
        rcases hr with ⟨hr0, HOS⟩ | ⟨hr0, HST2⟩
        · subst hr0
          refine take_putH (i := 9) (v := ?_) (some 74) rfl (by kernel_rfl) (by kernel_rfl) (by kernel_rfl) (by kernel_rfl) (fun _ _ _ h => h) (Or.inl ⟨by rfl, ?_⟩) hS2 ?_
          rotate_left
          · (intro w hSw; obtain ⟨z0, z1, z2, z3, z4, z5, z6, z7, z8⟩ := hSw; go_simp; try with_reducible rfl)
          try simp only [Act.put, List.setIfInBounds_toArray, List.set_cons_zero, List.set_cons_succ]
          refine wpAnyH_done (by kernel_rfl) ?_ _
          clear hS2
          obtain ⟨hok13, hlen8, v', bd, hst2⟩ := HOS.out
          have HOK13 : Hid (Ok13 ⟨pk, pp, ps, pn, pf, pt, pl, pi⟩) := hok13
          have HL8 : Hid ((m.L qe).length < 8) := hlen8
          obtain ⟨m2, HM2⟩ : ∃ m2 : Mem, Hid (m2 = ({ m with v := upd m.v qe v', L := upd m.L qe (m.L qe ++ [(⟨1, putD ⟨pk, pp, ps, pn, pf, pt, pl, pi⟩⟩, bd)]) } : Mem)) := ⟨_, rfl⟩
          have HST2 : Hid (St w2 B m2) := by rw [HM2.out]; exact hst2
          have HQ2 : Hid (m2.qv = m.qv ∧ m2.Q = m.Q ∧ m2.bW = bW) := by rw [HM2.out]; exact ⟨rfl, rfl, HBL.out.2.2.1⟩
          obtain ⟨we, HWE⟩ : ∃ we, Hid (we = w2.drew) := ⟨_, rfl⟩
          have HBe : Hid (Below w2.heap.size w2 we) := by rw [HWE.out]; exact below_drew (Below.refl _ _)
          have HSTe : Hid (St we B m2) := HST2.out.stay HBe.out
          have HB1e : Hid (Below B w1 we) := HB12.out.trans (HBe.out.mono HST2.out.bs)
          have HPRe : Hid (PcRd we ⟨pk, pp, ps, pn, pf, pt, pl, pi⟩ sa sn sc ia im ic) := (HOKA.out we (HB.out.trans HB1e.out)).rd
          have HBIG : Hid (PcBig ⟨pk, pp, ps, pn, pf, pt, pl, pi⟩ sa sc ia ic) := HOK.out.big
          obtain ⟨qa, qc, hqv, hqm, hqn⟩ := (HSTe.out.q qe).form
          obtain ⟨nq, hnq⟩ : ∃ nq, nq = (m2.Q qe).length := ⟨_, rfl⟩
          have HNQ : Hid (nq = (m2.Q qe).length) := hnq
          have hn7 : nq ≤ 7 := by
            have h5 := (HGD.out.pair qe).len
            rw [hnq, HQ2.out.2.1]
            omega
          rw [← hnq] at hqv hqn
          have HQV : Hid (m2.qv qe = .slice qa nq qc) := hqv
          have HWC : Hid (∀ w', St w' B m2 → w'.cell? ⟨bW, k, none⟩ = some (.slice qa nq qc)) := fun w' h' => by
            have h5 := h'.cW qe
            rw [HQ2.out.2.2, ← HK.out, HQV.out] at h5
            exact h5
          obtain ⟨y, HY⟩ : ∃ y, Hid (plainQ ⟨pk, pp, ps, pn, pf, pt, pl, pi⟩ = y) := ⟨_, rfl⟩
          obtain ⟨yk, yp, ys, yn, yf, yt, yl, yi⟩ := y
          have HPL := (ref_Plain13 ⟨pk, pp, ps, pn, pf, pt, pl, pi⟩ sa sn sc ia im ic we HPRe.out HBIG.out)
          unfold PlainTold at HPL
          rw [HY.out] at HPL
          have HPLH : Hid (Calls Tryd.prog 8 #[Pc.val ⟨pk, pp, ps, pn, pf, pt, pl, pi⟩ sa sn sc ia im ic] we fun e w' => Hid (∃ ta tn tc ja jm jc L, e = .returned (Pc.val ⟨yk, yp, ys, yn, yf, yt, yl, yi⟩ ta tn tc ja jm jc) ∧ Sps w' we.heap.size (.slice ta tn tc) yl ∧ Its w' we.heap.size (.slice ja jm jc) L ∧ L.map Prod.fst = yi) ∧ Below we.heap.size we w') := HPL
          clear HPL hqv hnq hok13 hlen8 hst2 HOS
          go_wp2_with fail
          refine wp_region_held_drew (S := fun w' => w'.cell? ⟨gl, o + i * 11 + 3, none⟩ = some (.int .i64 pk) ∧ w'.cell? ⟨gl, o + i * 11 + 4, none⟩ = some (.int .i64 pp) ∧ w'.cell? ⟨gl, o + i * 11 + 5, none⟩ = some (.int .i64 ps) ∧ w'.cell? ⟨gl, o + i * 11 + 6, none⟩ = some (.int .i64 pn) ∧ w'.cell? ⟨gl, o + i * 11 + 7, none⟩ = some (.int .i64 pf) ∧ w'.cell? ⟨gl, o + i * 11 + 8, none⟩ = some (.int .i64 pt) ∧ w'.cell? ⟨gl, o + i * 11 + 9, none⟩ = some (.slice sa sn sc) ∧ w'.cell? ⟨gl, o + i * 11 + 10, none⟩ = some (.slice ia im ic)) (by kernel_rfl) (by rw [← HWE.out]; exact HS8.out _ HB1e.out) (fun hHeld => ?_)
          rw [← HWE.out] at hHeld ⊢
          refine take_putH (i := 0) (v := ?_) (some 75) rfl (by kernel_rfl) (by kernel_rfl) (by kernel_rfl) (by kernel_rfl) (fun _ _ _ h => h) (Or.inl ⟨by rfl, ?_⟩) hHeld ?_
          rotate_left
          · (intro w hSw; obtain ⟨z0, z1, z2, z3, z4, z5, z6, z7⟩ := hSw; go_simp; try with_reducible rfl)
          try simp only [Act.put, List.setIfInBounds_toArray, List.set_cons_zero, List.set_cons_succ]
          refine take_putH (i := 1) (v := ?_) (some 76) rfl (by kernel_rfl) (by kernel_rfl) (by kernel_rfl) (by kernel_rfl) (fun _ _ _ h => h) (Or.inl ⟨by rfl, ?_⟩) hHeld ?_
          rotate_left
          · (intro w hSw; obtain ⟨z0, z1, z2, z3, z4, z5, z6, z7⟩ := hSw; go_simp; try with_reducible rfl)
          try simp only [Act.put, List.setIfInBounds_toArray, List.set_cons_zero, List.set_cons_succ]
          refine take_putH (i := 2) (v := ?_) (some 77) rfl (by kernel_rfl) (by kernel_rfl) (by kernel_rfl) (by kernel_rfl) (fun _ _ _ h => h) (Or.inl ⟨by rfl, ?_⟩) hHeld ?_
          rotate_left
          · (intro w hSw; obtain ⟨z0, z1, z2, z3, z4, z5, z6, z7⟩ := hSw; go_simp; try with_reducible rfl)
          try simp only [Act.put, List.setIfInBounds_toArray, List.set_cons_zero, List.set_cons_succ]
          refine take_putH (i := 4) (v := ?_) (some 79) rfl (by kernel_rfl) (by kernel_rfl) (by kernel_rfl) (by kernel_rfl) (fun _ _ _ h => h) (Or.inl ⟨by rfl, ?_⟩) hHeld ?_
          rotate_left
          · (intro w hSw; obtain ⟨z0, z1, z2, z3, z4, z5, z6, z7⟩ := hSw; go_simp; try with_reducible rfl)
          try simp only [Act.put, List.setIfInBounds_toArray, List.set_cons_zero, List.set_cons_succ]
          refine take_putH (i := 5) (v := ?_) (some 80) rfl (by kernel_rfl) (by kernel_rfl) (by kernel_rfl) (by kernel_rfl) (fun _ _ _ h => h) (Or.inl ⟨by rfl, ?_⟩) hHeld ?_
          rotate_left
          · (intro w hSw; obtain ⟨z0, z1, z2, z3, z4, z5, z6, z7⟩ := hSw; go_simp; try with_reducible rfl)
          try simp only [Act.put, List.setIfInBounds_toArray, List.set_cons_zero, List.set_cons_succ]
          refine take_putH (i := 6) (v := ?_) (some 81) rfl (by kernel_rfl) (by kernel_rfl) (by kernel_rfl) (by kernel_rfl) (fun _ _ _ h => h) (Or.inl ⟨by rfl, ?_⟩) hHeld ?_
          rotate_left
          · (intro w hSw; obtain ⟨z0, z1, z2, z3, z4, z5, z6, z7⟩ := hSw; go_simp; try with_reducible rfl)
          try simp only [Act.put, List.setIfInBounds_toArray, List.set_cons_zero, List.set_cons_succ]
          refine take_putH (i := 7) (v := ?_) (some 82) rfl (by kernel_rfl) (by kernel_rfl) (by kernel_rfl) (by kernel_rfl) (fun _ _ _ h => h) (Or.inl ⟨by rfl, ?_⟩) hHeld ?_
          rotate_left
          · (intro w hSw; obtain ⟨z0, z1, z2, z3, z4, z5, z6, z7⟩ := hSw; go_simp; try with_reducible rfl)
          try simp only [Act.put, List.setIfInBounds_toArray, List.set_cons_zero, List.set_cons_succ]
          refine take_putH (i := 8) (v := ?_) (some 83) rfl (by kernel_rfl) (by kernel_rfl) (by kernel_rfl) (by kernel_rfl) (fun _ _ _ h => h) (Or.inl ⟨by rfl, ?_⟩) hHeld ?_
          rotate_left
          · (intro w hSw; obtain ⟨z0, z1, z2, z3, z4, z5, z6, z7⟩ := hSw; go_simp; try with_reducible rfl)
          try simp only [Act.put, List.setIfInBounds_toArray, List.set_cons_zero, List.set_cons_succ]
          have hHe : Hid (we.cell? ⟨gl, o + i * 11 + 3, none⟩ = some (.int .i64 pk) ∧ we.cell? ⟨gl, o + i * 11 + 4, none⟩ = some (.int .i64 pp) ∧ we.cell? ⟨gl, o + i * 11 + 5, none⟩ = some (.int .i64 ps) ∧ we.cell? ⟨gl, o + i * 11 + 6, none⟩ = some (.int .i64 pn) ∧ we.cell? ⟨gl, o + i * 11 + 7, none⟩ = some (.int .i64 pf) ∧ we.cell? ⟨gl, o + i * 11 + 8, none⟩ = some (.int .i64 pt) ∧ we.cell? ⟨gl, o + i * 11 + 9, none⟩ = some (.slice sa sn sc) ∧ we.cell? ⟨gl, o + i * 11 + 10, none⟩ = some (.slice ia im ic)) := hHeld
          clear hHeld
          refine viaKey ?_
          apply Exists.intro
          apply And.intro
          · intro key
            refine wpAnyH_ready (rs := [3, 9]) (by kernel_rfl) (by simp) ?_
            refine AllReadyH.cons rfl (fun K hK => ?_) (AllReadyH.cons rfl (fun K hK => ?_) AllReadyH.nil)
            · have cl := HWC.out we HSTe.out
              go_simp
              clear cl
              refine hK.out _ _ hHe.out (fun hzz => ?_)
              clear hzz hK K
              try simp only [Act.put, List.getElem_toArray, List.getElem_cons_succ, List.getElem_cons_zero, List.setIfInBounds_toArray, List.set_cons_zero, List.set_cons_succ]
              refine wpAnyH_ready (rs := [9]) (by kernel_rfl) (by simp) ?_
              refine AllReadyH.cons rfl (fun K hK => ?_) AllReadyH.nil
              go_simp
              refine HPLH.out.mono ?_
              rintro e w3 ⟨HPT, hb3⟩
              obtain ⟨ta, tn, tc, ja, jm, jc, M3, he3, hsp3, hit3, hM3⟩ := HPT.out
              subst he3
              have HST3 : Hid (St w3 B m2) := HSTe.out.stay hb3
              have HB13 : Hid (Below B w1 w3) := HB1e.out.trans (hb3.mono HSTe.out.bs)
              have HPM3 : Hid (ParM w3 B ⟨⟨yk, yp, ys, yn, yf, yt, yl, yi⟩, ta, tn, tc, ja, jm, jc⟩) := ⟨hsp3.lower HSTe.out.bs, M3, hit3.lower HSTe.out.bs, hM3⟩
              have hH3 : Hid (w3.cell? ⟨gl, o + i * 11 + 3, none⟩ = some (.int .i64 pk) ∧ w3.cell? ⟨gl, o + i * 11 + 4, none⟩ = some (.int .i64 pp) ∧ w3.cell? ⟨gl, o + i * 11 + 5, none⟩ = some (.int .i64 ps) ∧ w3.cell? ⟨gl, o + i * 11 + 6, none⟩ = some (.int .i64 pn) ∧ w3.cell? ⟨gl, o + i * 11 + 7, none⟩ = some (.int .i64 pf) ∧ w3.cell? ⟨gl, o + i * 11 + 8, none⟩ = some (.int .i64 pt) ∧ w3.cell? ⟨gl, o + i * 11 + 9, none⟩ = some (.slice sa sn sc) ∧ w3.cell? ⟨gl, o + i * 11 + 10, none⟩ = some (.slice ia im ic)) := HS8.out w3 HB13.out
              clear HPT hb3 hsp3 hit3 hM3
              refine hK.out _ _ hH3.out (fun hzz => ?_)
              clear hzz hK K
              try simp only [Act.put, List.getElem_toArray, List.getElem_cons_succ, List.getElem_cons_zero, List.setIfInBounds_toArray, List.set_cons_zero, List.set_cons_succ]
              refine wpAnyH_ready (rs := [10]) (by kernel_rfl) (by simp) ?_
              refine AllReadyH.cons rfl (fun K hK => ?_) AllReadyH.nil
              go_simp
              obtain ⟨w4, HW4⟩ : ∃ w4, Hid (w4 = w3.alloc (.cells #[.int .i64 yk, .int .i64 yp, .int .i64 ys, .int .i64 yn, .int .i64 yf, .int .i64 yt, .slice ta tn tc, .slice ja jm jc] 37)) := ⟨_, rfl⟩
              rw [← HW4.out]
              have hb4 : Below w3.heap.size w3 w4 := by rw [HW4.out]; exact below_new _ _
              have HN4 : Hid (Bk w4 w3.heap.size (pcells ⟨⟨yk, yp, ys, yn, yf, yt, yl, yi⟩, ta, tn, tc, ja, jm, jc⟩).toArray 37) := by rw [HW4.out]; exact Bk.new _ _ _
              have HST4 : Hid (St w4 B m2) := HST3.out.stay hb4
              have HB14 : Hid (Below B w1 w4) := HB13.out.trans (hb4.mono HST3.out.bs)
              have HPM4 : Hid (ParM w4 B ⟨⟨yk, yp, ys, yn, yf, yt, yl, yi⟩, ta, tn, tc, ja, jm, jc⟩) := HPM3.out.kept (Kro.of fun k hk => hb4.block k hk)
              have hH4 : Hid (w4.cell? ⟨gl, o + i * 11 + 3, none⟩ = some (.int .i64 pk) ∧ w4.cell? ⟨gl, o + i * 11 + 4, none⟩ = some (.int .i64 pp) ∧ w4.cell? ⟨gl, o + i * 11 + 5, none⟩ = some (.int .i64 ps) ∧ w4.cell? ⟨gl, o + i * 11 + 6, none⟩ = some (.int .i64 pn) ∧ w4.cell? ⟨gl, o + i * 11 + 7, none⟩ = some (.int .i64 pf) ∧ w4.cell? ⟨gl, o + i * 11 + 8, none⟩ = some (.int .i64 pt) ∧ w4.cell? ⟨gl, o + i * 11 + 9, none⟩ = some (.slice sa sn sc) ∧ w4.cell? ⟨gl, o + i * 11 + 10, none⟩ = some (.slice ia im ic)) := HS8.out w4 HB14.out
              clear hb4
              refine hK.out _ _ hH4.out (fun hzz => ?_)
              clear hzz hK K
              try simp only [Act.put, List.getElem_toArray, List.getElem_cons_succ, List.getElem_cons_zero, List.setIfInBounds_toArray, List.set_cons_zero, List.set_cons_succ]
              clear HW4 HPM3 HST3 HB13 hH3 hH4
              revert HPM4
              revert HB14
              revert HST4
              revert HN4
              revert w4
              revert w3
              revert jc
              revert jm
              revert ja
              revert tc
              revert tn
              revert ta
              exact key.out
            · go_simp
              refine HPLH.out.mono ?_
              rintro e w3 ⟨HPT, hb3⟩
              obtain ⟨ta, tn, tc, ja, jm, jc, M3, he3, hsp3, hit3, hM3⟩ := HPT.out
              subst he3
              have HST3 : Hid (St w3 B m2) := HSTe.out.stay hb3
              have HB13 : Hid (Below B w1 w3) := HB1e.out.trans (hb3.mono HSTe.out.bs)
              have HPM3 : Hid (ParM w3 B ⟨⟨yk, yp, ys, yn, yf, yt, yl, yi⟩, ta, tn, tc, ja, jm, jc⟩) := ⟨hsp3.lower HSTe.out.bs, M3, hit3.lower HSTe.out.bs, hM3⟩
              have hH3 : Hid (w3.cell? ⟨gl, o + i * 11 + 3, none⟩ = some (.int .i64 pk) ∧ w3.cell? ⟨gl, o + i * 11 + 4, none⟩ = some (.int .i64 pp) ∧ w3.cell? ⟨gl, o + i * 11 + 5, none⟩ = some (.int .i64 ps) ∧ w3.cell? ⟨gl, o + i * 11 + 6, none⟩ = some (.int .i64 pn) ∧ w3.cell? ⟨gl, o + i * 11 + 7, none⟩ = some (.int .i64 pf) ∧ w3.cell? ⟨gl, o + i * 11 + 8, none⟩ = some (.int .i64 pt) ∧ w3.cell? ⟨gl, o + i * 11 + 9, none⟩ = some (.slice sa sn sc) ∧ w3.cell? ⟨gl, o + i * 11 + 10, none⟩ = some (.slice ia im ic)) := HS8.out w3 HB13.out
              clear HPT hb3 hsp3 hit3 hM3
              refine hK.out _ _ hH3.out (fun hzz => ?_)
              clear hzz hK K
              try simp only [Act.put, List.getElem_toArray, List.getElem_cons_succ, List.getElem_cons_zero, List.setIfInBounds_toArray, List.set_cons_zero, List.set_cons_succ]
              refine wpAnyH_ready (rs := [3, 10]) (by kernel_rfl) (by simp) ?_
              refine AllReadyH.cons rfl (fun K hK => ?_) (AllReadyH.cons rfl (fun K hK => ?_) AllReadyH.nil)
              · have cl := HWC.out w3 HST3.out
                go_simp
                clear cl
                refine hK.out _ _ hH3.out (fun hzz => ?_)
                clear hzz hK K
                try simp only [Act.put, List.getElem_toArray, List.getElem_cons_succ, List.getElem_cons_zero, List.setIfInBounds_toArray, List.set_cons_zero, List.set_cons_succ]
                refine wpAnyH_ready (rs := [10]) (by kernel_rfl) (by simp) ?_
                refine AllReadyH.cons rfl (fun K hK => ?_) AllReadyH.nil
                go_simp
                obtain ⟨w4, HW4⟩ : ∃ w4, Hid (w4 = w3.alloc (.cells #[.int .i64 yk, .int .i64 yp, .int .i64 ys, .int .i64 yn, .int .i64 yf, .int .i64 yt, .slice ta tn tc, .slice ja jm jc] 37)) := ⟨_, rfl⟩
                rw [← HW4.out]
                have hb4 : Below w3.heap.size w3 w4 := by rw [HW4.out]; exact below_new _ _
                have HN4 : Hid (Bk w4 w3.heap.size (pcells ⟨⟨yk, yp, ys, yn, yf, yt, yl, yi⟩, ta, tn, tc, ja, jm, jc⟩).toArray 37) := by rw [HW4.out]; exact Bk.new _ _ _
                have HST4 : Hid (St w4 B m2) := HST3.out.stay hb4
                have HB14 : Hid (Below B w1 w4) := HB13.out.trans (hb4.mono HST3.out.bs)
                have HPM4 : Hid (ParM w4 B ⟨⟨yk, yp, ys, yn, yf, yt, yl, yi⟩, ta, tn, tc, ja, jm, jc⟩) := HPM3.out.kept (Kro.of fun k hk => hb4.block k hk)
                have hH4 : Hid (w4.cell? ⟨gl, o + i * 11 + 3, none⟩ = some (.int .i64 pk) ∧ w4.cell? ⟨gl, o + i * 11 + 4, none⟩ = some (.int .i64 pp) ∧ w4.cell? ⟨gl, o + i * 11 + 5, none⟩ = some (.int .i64 ps) ∧ w4.cell? ⟨gl, o + i * 11 + 6, none⟩ = some (.int .i64 pn) ∧ w4.cell? ⟨gl, o + i * 11 + 7, none⟩ = some (.int .i64 pf) ∧ w4.cell? ⟨gl, o + i * 11 + 8, none⟩ = some (.int .i64 pt) ∧ w4.cell? ⟨gl, o + i * 11 + 9, none⟩ = some (.slice sa sn sc) ∧ w4.cell? ⟨gl, o + i * 11 + 10, none⟩ = some (.slice ia im ic)) := HS8.out w4 HB14.out
                clear hb4
                refine hK.out _ _ hH4.out (fun hzz => ?_)
                clear hzz hK K
                try simp only [Act.put, List.getElem_toArray, List.getElem_cons_succ, List.getElem_cons_zero, List.setIfInBounds_toArray, List.set_cons_zero, List.set_cons_succ]
                clear HW4 HPM3 HST3 HB13 hH3 hH4
                revert HPM4
                revert HB14
                revert HST4
                revert HN4
                revert w4
                revert w3
                revert jc
                revert jm
                revert ja
                revert tc
                revert tn
                revert ta
                exact key.out
              · go_simp
                obtain ⟨w4, HW4⟩ : ∃ w4, Hid (w4 = w3.alloc (.cells #[.int .i64 yk, .int .i64 yp, .int .i64 ys, .int .i64 yn, .int .i64 yf, .int .i64 yt, .slice ta tn tc, .slice ja jm jc] 37)) := ⟨_, rfl⟩
                rw [← HW4.out]
                have hb4 : Below w3.heap.size w3 w4 := by rw [HW4.out]; exact below_new _ _
                have HN4 : Hid (Bk w4 w3.heap.size (pcells ⟨⟨yk, yp, ys, yn, yf, yt, yl, yi⟩, ta, tn, tc, ja, jm, jc⟩).toArray 37) := by rw [HW4.out]; exact Bk.new _ _ _
                have HST4 : Hid (St w4 B m2) := HST3.out.stay hb4
                have HB14 : Hid (Below B w1 w4) := HB13.out.trans (hb4.mono HST3.out.bs)
                have HPM4 : Hid (ParM w4 B ⟨⟨yk, yp, ys, yn, yf, yt, yl, yi⟩, ta, tn, tc, ja, jm, jc⟩) := HPM3.out.kept (Kro.of fun k hk => hb4.block k hk)
                have hH4 : Hid (w4.cell? ⟨gl, o + i * 11 + 3, none⟩ = some (.int .i64 pk) ∧ w4.cell? ⟨gl, o + i * 11 + 4, none⟩ = some (.int .i64 pp) ∧ w4.cell? ⟨gl, o + i * 11 + 5, none⟩ = some (.int .i64 ps) ∧ w4.cell? ⟨gl, o + i * 11 + 6, none⟩ = some (.int .i64 pn) ∧ w4.cell? ⟨gl, o + i * 11 + 7, none⟩ = some (.int .i64 pf) ∧ w4.cell? ⟨gl, o + i * 11 + 8, none⟩ = some (.int .i64 pt) ∧ w4.cell? ⟨gl, o + i * 11 + 9, none⟩ = some (.slice sa sn sc) ∧ w4.cell? ⟨gl, o + i * 11 + 10, none⟩ = some (.slice ia im ic)) := HS8.out w4 HB14.out
                clear hb4
                refine hK.out _ _ hH4.out (fun hzz => ?_)
                clear hzz hK K
                try simp only [Act.put, List.getElem_toArray, List.getElem_cons_succ, List.getElem_cons_zero, List.setIfInBounds_toArray, List.set_cons_zero, List.set_cons_succ]
                refine wpAnyH_ready (rs := [3]) (by kernel_rfl) (by simp) ?_
                refine AllReadyH.cons rfl (fun K hK => ?_) AllReadyH.nil
                have cl := HWC.out w4 HST4.out
                go_simp
                clear cl
                refine hK.out _ _ hH4.out (fun hzz => ?_)
                clear hzz hK K
                try simp only [Act.put, List.getElem_toArray, List.getElem_cons_succ, List.getElem_cons_zero, List.setIfInBounds_toArray, List.set_cons_zero, List.set_cons_succ]
                clear HW4 HPM3 HST3 HB13 hH3 hH4
                revert HPM4
                revert HB14
                revert HST4
                revert HN4
                revert w4
                revert w3
                revert jc
                revert jm
                revert ja
                revert tc
                revert tn
                revert ta
                exact key.out
          · as_aux_lemma =>
              intro ta tn tc ja jm jc w3 w4 HN4 HST4 HB14 HPM4
              refine wpAnyH_ready (rs := [11]) (by kernel_rfl) (by simp) ?_
              refine AllReadyH.cons rfl (fun K hK => ?_) AllReadyH.nil
              refine step_append_wq rfl (.tmp 78) (.tmp 85) rfl B (.slice qa nq qc) nq ((m2.Q qe).flatMap pcells) rfl (by rw [← HQV.out, HNQ.out]; exact HST4.out.q qe) ⟨w3.heap.size, 0, none⟩ 1 (pcells ⟨⟨yk, yp, ys, yn, yf, yt, yl, yi⟩, ta, tn, tc, ja, jm, jc⟩) rfl rfl (pe_told HN4.out) (pcells_one _) (by omega) HST4.out.bs ?_
              intro v5 w5 hq5 hg5 hs5
              obtain ⟨a5, c5, rfl, _, _⟩ := hq5.form
              have HB15 : Hid (Below B w1 w5) := HB14.out.trans (HST4.out.belowQ qe (by rw [HQV.out]; exact hg5))
              obtain ⟨mk5, hbw5⟩ := HST4.out.grownQ qe (by rw [HQV.out]; exact hg5) (.slice a5 (nq + 1) c5) (nq + 1) _ hq5 (by rw [HQV.out]; exact hs5)
              obtain ⟨m6, HM6⟩ : ∃ m6 : Mem, Hid (m6 = ({ m2 with qv := upd m2.qv qe (.slice a5 (nq + 1) c5), Q := upd m2.Q qe (m2.Q qe ++ [⟨⟨yk, yp, ys, yn, yf, yt, yl, yi⟩, ta, tn, tc, ja, jm, jc⟩]) } : Mem)) := ⟨_, rfl⟩
              have HST6 : Hid (St (w5.setCell ⟨bW, k, none⟩ (.slice a5 (nq + 1) c5)) B m6) := by
                have h5 := mk5 (m2.Q qe ++ [⟨⟨yk, yp, ys, yn, yf, yt, yl, yi⟩, ta, tn, tc, ja, jm, jc⟩]) (by simp [List.flatMap_append]) (by rw [List.length_append, ← HNQ.out]; rfl) (fun z hz => by
                  rcases List.mem_append.1 hz with hz | hz
                  · exact HST4.out.qr qe z hz
                  · rw [List.mem_singleton.1 hz]; exact HPM4.out)
                rw [show (⟨m2.bW, qe.toNat, none⟩ : Addr) = ⟨bW, k, none⟩ from by rw [HQ2.out.2.2, ← HK.out]] at h5
                rw [HM6.out]
                exact h5
              have HBW5 : Hid (Bk w5 bW #[m2.qv false, m2.qv true] 27) := by have h5 := hbw5; rw [HQ2.out.2.2] at h5; exact h5
              have b5 : w5.cell? ⟨bW, k, none⟩ = some (m2.qv qe) := by
                rw [HK.out]
                cases qe
                · exact HBW5.out.cell 0 rfl
                · exact HBW5.out.cell 1 rfl
              have f5 : ∀ i, w5.frozen? ⟨bW, i, none⟩ = false := fun i => HBW5.out.free i
              have hH5 : Hid (w5.cell? ⟨gl, o + i * 11 + 3, none⟩ = some (.int .i64 pk) ∧ w5.cell? ⟨gl, o + i * 11 + 4, none⟩ = some (.int .i64 pp) ∧ w5.cell? ⟨gl, o + i * 11 + 5, none⟩ = some (.int .i64 ps) ∧ w5.cell? ⟨gl, o + i * 11 + 6, none⟩ = some (.int .i64 pn) ∧ w5.cell? ⟨gl, o + i * 11 + 7, none⟩ = some (.int .i64 pf) ∧ w5.cell? ⟨gl, o + i * 11 + 8, none⟩ = some (.int .i64 pt) ∧ w5.cell? ⟨gl, o + i * 11 + 9, none⟩ = some (.slice sa sn sc) ∧ w5.cell? ⟨gl, o + i * 11 + 10, none⟩ = some (.slice ia im ic)) := HS8.out w5 HB15.out
              have HB16 : Hid (Below B w1 (w5.setCell ⟨bW, k, none⟩ (.slice a5 (nq + 1) c5))) := HB15.out.setCell (by have h5 := HST.out.lo.2.2.1; rw [HBL.out.2.2.1] at h5; exact h5) _
              have hH6 : Hid ((w5.setCell ⟨bW, k, none⟩ (.slice a5 (nq + 1) c5)).cell? ⟨gl, o + i * 11 + 3, none⟩ = some (.int .i64 pk) ∧ (w5.setCell ⟨bW, k, none⟩ (.slice a5 (nq + 1) c5)).cell? ⟨gl, o + i * 11 + 4, none⟩ = some (.int .i64 pp) ∧ (w5.setCell ⟨bW, k, none⟩ (.slice a5 (nq + 1) c5)).cell? ⟨gl, o + i * 11 + 5, none⟩ = some (.int .i64 ps) ∧ (w5.setCell ⟨bW, k, none⟩ (.slice a5 (nq + 1) c5)).cell? ⟨gl, o + i * 11 + 6, none⟩ = some (.int .i64 pn) ∧ (w5.setCell ⟨bW, k, none⟩ (.slice a5 (nq + 1) c5)).cell? ⟨gl, o + i * 11 + 7, none⟩ = some (.int .i64 pf) ∧ (w5.setCell ⟨bW, k, none⟩ (.slice a5 (nq + 1) c5)).cell? ⟨gl, o + i * 11 + 8, none⟩ = some (.int .i64 pt) ∧ (w5.setCell ⟨bW, k, none⟩ (.slice a5 (nq + 1) c5)).cell? ⟨gl, o + i * 11 + 9, none⟩ = some (.slice sa sn sc) ∧ (w5.setCell ⟨bW, k, none⟩ (.slice a5 (nq + 1) c5)).cell? ⟨gl, o + i * 11 + 10, none⟩ = some (.slice ia im ic)) := HS8.out _ HB16.out
              have HGD6 : Hid (Good m6 gr (i + 1)) := HGD.out.send qe _ _ (pair_mk HOK13.out bd ta tn tc ja jm jc) HL8.out m6 (by have h5 := HM6.out; have h6 := HM2.out; subst h6; subst h5; rfl) (by have h5 := HM6.out; have h6 := HM2.out; subst h6; subst h5; rfl) (by have h5 := HM6.out; have h6 := HM2.out; subst h6; subst h5; rfl) (by have h5 := HM6.out; have h6 := HM2.out; subst h6; subst h5; rfl) (by have h5 := HM6.out; have h6 := HM2.out; subst h6; subst h5; rw [HY.out]) (by have h5 := HM6.out; have h6 := HM2.out; subst h6; subst h5; rfl)
              have HBL6 : Hid (m6.bE = bE ∧ m6.bV = bV ∧ m6.bW = bW ∧ m6.bK = bK) := by rw [HM6.out, HM2.out]; exact HBL.out
              have HAV6 : Hid (m6.av = m.av) := (by have h5 := HM6.out; have h6 := HM2.out; subst h6; subst h5; rfl)
              have HB6w : Hid (Below B w (w5.setCell ⟨bW, k, none⟩ (.slice a5 (nq + 1) c5))) := HB.out.trans HB16.out
              clear mk5 hbw5 hq5 hg5 hs5
              refine hK.out _ _ hH5.out (fun hzz => ?_)
              clear hzz hK K
              try simp only [Act.put, List.getElem_toArray, List.getElem_cons_succ, List.getElem_cons_zero, List.setIfInBounds_toArray, List.set_cons_zero, List.set_cons_succ]
              refine take_putH (i := 12) (v := ?_) (some 87) rfl (by kernel_rfl) (by kernel_rfl) (by kernel_rfl) (by kernel_rfl) (fun _ _ _ h => h) (Or.inl ⟨by rfl, ?_⟩) hH5.out ?_
              rotate_left
              · (intro w hSw; obtain ⟨z0, z1, z2, z3, z4, z5, z6, z7⟩ := hSw; go_simp; try with_reducible rfl)
              try simp only [Act.put, List.setIfInBounds_toArray, List.set_cons_zero, List.set_cons_succ]
              refine wpAnyH_ready (rs := [13]) (by kernel_rfl) (by simp) ?_
              refine AllReadyH.cons rfl (fun K hK => ?_) AllReadyH.nil
              go_simp
              refine hK.out _ _ hH6.out (fun hzz => ?_)
              clear hzz hK K
              try simp only [Act.put, List.getElem_toArray, List.getElem_cons_succ, List.getElem_cons_zero, List.setIfInBounds_toArray, List.set_cons_zero, List.set_cons_succ]
              refine wpAnyH_done (by kernel_rfl) ?_ _
              clear b5 f5
              go_wp2
              go_roundw
              case rel => exact ⟨i + 1, m6, gr, by omega, by omega, by go_num, HAV6.out.symm, HST6, HGD6, HBL6, HB6w⟩
              case measure => simp [intOf]; omega
        · as_aux_lemma =>
            have hrb : (r == 0) = false := by simp [hr0]
            refine take_putH (i := 9) (v := ?_) (some 74) rfl (by kernel_rfl) (by kernel_rfl) (by kernel_rfl) (by kernel_rfl) (fun _ _ _ h => h) (Or.inl ⟨by rfl, ?_⟩) hS2 ?_
            rotate_left
            · (intro w hSw; obtain ⟨z0, z1, z2, z3, z4, z5, z6, z7, z8⟩ := hSw; go_simp; try with_reducible rfl)
            try simp only [Act.put, List.setIfInBounds_toArray, List.set_cons_zero, List.set_cons_succ]
            refine wpAnyH_done (by kernel_rfl) ?_ _
            clear hS2
            have HGD2 : Hid (Good m gr (i + 1)) := HGD.out.next
            have HB2w : Hid (Below B w w2) := HB.out.trans HB12.out
            go_wp2
            go_roundw
            case rel => exact ⟨i + 1, m, gr, by omega, by omega, by go_num, rfl, HST2, HGD2, HBL, HB2w⟩
            case measure => simp [intOf]; omega
      by_cases d1 : qd = 1
      · subst d1
        obtain ⟨gb, hgb⟩ : ∃ gb, gb = m.g qe := ⟨_, rfl⟩
        have HGBE : Hid (gb = m.g qe) := hgb
        have cE : w1.cell? ⟨bE, k, none⟩ = some (.pointer (some ⟨gb, 0, none⟩)) := by
          have h5 := HST.out.cE qe
          rw [HBL.out.1, ← HK.out, ← hgb] at h5
          exact h5
        have HPAIR : Hid (Pairs (m.L qe) (m.Q qe)) := HGD.out.pair qe
        clear hgb
        rcases hLc : m.L qe with _ | ⟨x, T⟩
        · as_aux_lemma =>
            have HQN : Hid (m.Q qe = []) := by
              have h5 := HPAIR.out.len
              rw [hLc] at h5
              exact List.eq_nil_of_length_eq_zero h5.symm
            have HLK : Hid (LkIn w1 B gb (m.v qe) [] (m.l qe)) := by have h5 := HST.out.lk qe; rw [hLc, ← HGBE.out] at h5; exact h5
            obtain ⟨qa, qc, hqv, _, _⟩ := (HST.out.q qe).form
            rw [HQN.out] at hqv
            have cW : w1.cell? ⟨bW, k, none⟩ = some (.slice qa 0 qc) := by
              have h5 := HST.out.cW qe
              rw [HBL.out.2.2.1, ← HK.out, hqv] at h5
              exact h5
            have HGD2 : Hid (Good m gr (i + 1)) := HGD.out.next
            clear hqv hLc
            go_wp2_with fail
            refine (lk_Pull_none w1 B gb (m.v qe) (m.l qe) HLK.out).mono ?_
            rintro e w2 ⟨rfl, hw2⟩
            subst hw2
            go_wp2
            go_roundw
            case rel => exact ⟨i + 1, m, gr, by omega, by omega, by go_num, rfl, HST, HGD2, HBL, HB⟩
            case measure => simp [intOf]; omega
        · obtain ⟨y, R, hQc⟩ : ∃ y R, m.Q qe = y :: R := by
            rcases hQ : m.Q qe with _ | ⟨y, R⟩
            · have h5 := HPAIR.out.len
              rw [hLc, hQ] at h5
              simp at h5
            · exact ⟨y, R, rfl⟩
          have HLC : Hid (m.L qe = x :: T) := hLc
          have HQC : Hid (m.Q qe = y :: R) := hQc
          obtain ⟨⟨yk, yp, ys, yn, yf, yt, yl, yi⟩, ta, tn, tc, ja, jm, jc⟩ := y
          obtain ⟨nr, HNR⟩ : ∃ nr, Hid (nr = R.length) := ⟨_, rfl⟩
          have hwq := HST.out.q qe
          rw [hQc] at hwq
          obtain ⟨qq, qo, qc, hqv, hnc, hcm, hfc, _, _⟩ := Wq.first (x := ⟨⟨yk, yp, ys, yn, yf, yt, yl, yi⟩, ta, tn, tc, ja, jm, jc⟩) (xs := R.flatMap pcells) (n := R.length) hwq
          rw [← HNR.out] at hqv hnc
          have HQV : Hid (m.qv qe = .slice (some ⟨qq, qo, none⟩) (nr + 1) qc) := hqv
          have hq7 : nr ≤ 1000 := by
            have h5 := HGD.out.len qe
            have h6 := HPAIR.out.len
            rw [hQc] at h6
            simp at h6
            rw [HNR.out]
            omega
          obtain ⟨lvk, HLV⟩ : ∃ lvk, Hid (lvk = m.lv qe) := ⟨_, rfl⟩
          have hcm2 : qc ≤ 9223372036854775807 := by unfold maxLen at hcm; omega
          have HFT : Hid (∀ w' m', St w' B m' → m'.qv = m.qv → m'.Q = m.Q → (∀ (r : Nat) (u : Value), (pcells ⟨⟨yk, yp, ys, yn, yf, yt, yl, yi⟩, ta, tn, tc, ja, jm, jc⟩)[r]? = some u → w'.cell? ⟨qq, qo + r, none⟩ = some u) ∧ (qc = 1 → Wq w' B (.slice (some ⟨qq, qo, none⟩) nr (qc - 1)) nr (R.flatMap pcells)) ∧ (qc ≠ 1 → Wq w' B (.slice (some ⟨qq, qo + 8, none⟩) nr (qc - 1)) nr (R.flatMap pcells))) := fun w' m' h' e1 e2 => by
            have h5 := h'.q qe
            rw [e1, e2, HQC.out] at h5
            obtain ⟨a1, a2, a3, b1, _, _, b2, b3, b4⟩ := Wq.first (x := ⟨⟨yk, yp, ys, yn, yf, yt, yl, yi⟩, ta, tn, tc, ja, jm, jc⟩) (xs := R.flatMap pcells) (n := R.length) h5
            rw [HQV.out, ← HNR.out] at b1
            simp only [Value.slice.injEq, Option.some.injEq, Addr.mk.injEq, and_true, true_and] at b1
            obtain ⟨⟨rfl, rfl⟩, rfl⟩ := b1
            rw [HNR.out]
            exact ⟨b2, b3, b4⟩
          have HSF : Hid (∀ w' m', St w' B m' → m'.bV = bV → m'.bW = bW → m'.lv = m.lv → m'.qv = m.qv → m'.Q = m.Q → w'.cell? ⟨bV, k, none⟩ = some (.int .i64 (lvk : Int)) ∧ w'.cell? ⟨bW, k, none⟩ = some (.slice (some ⟨qq, qo, none⟩) (nr + 1) qc) ∧ w'.cell? ⟨qq, qo, none⟩ = some (.int .i64 yk) ∧ w'.cell? ⟨qq, qo + 1, none⟩ = some (.int .i64 yp) ∧ w'.cell? ⟨qq, qo + 2, none⟩ = some (.int .i64 ys) ∧ w'.cell? ⟨qq, qo + 3, none⟩ = some (.int .i64 yn) ∧ w'.cell? ⟨qq, qo + 4, none⟩ = some (.int .i64 yf) ∧ w'.cell? ⟨qq, qo + 5, none⟩ = some (.int .i64 yt) ∧ w'.cell? ⟨qq, qo + 6, none⟩ = some (.slice ta tn tc) ∧ w'.cell? ⟨qq, qo + 7, none⟩ = some (.slice ja jm jc)) := fun w' m' h' e1 e2 e3 e4 e5 => by
            obtain ⟨b2, _, _⟩ := HFT.out w' m' h' e4 e5
            have h5 := h'.cV qe
            have h6 := h'.cW qe
            rw [e1, ← HK.out, e3, ← HLV.out] at h5
            rw [e2, ← HK.out, e4, HQV.out] at h6
            exact ⟨h5, h6, b2 0 _ rfl, b2 1 _ rfl, b2 2 _ rfl, b2 3 _ rfl, b2 4 _ rfl, b2 5 _ rfl, b2 6 _ rfl, b2 7 _ rfl⟩
          clear hwq hqv hfc hQc hLc hcm
          go_wp2_with fail
          rw [HGBE.out]
          refine (on_pull HST.out HGD.out (by omega) qe HLC.out HQC.out).mono ?_
          rintro e w2 ⟨ba, bn, bc, he, HP2, HB2⟩
          subst he
          obtain ⟨la, src, v', hla, hok, hyp, hown, hst2⟩ := HP2.out
          obtain ⟨m2, HM2⟩ : ∃ m2 : Mem, Hid (m2 = ({ m with v := upd m.v qe v', L := upd m.L qe T, l := upd m.l qe { m.l qe with last := (la : Int) + 1 } } : Mem)) := ⟨_, rfl⟩
          have HST2 : Hid (St w2 B m2) := by rw [HM2.out]; exact hst2
          have HE2 : Hid (m2.bV = bV ∧ m2.bW = bW ∧ m2.lv = m.lv ∧ m2.qv = m.qv ∧ m2.Q = m.Q ∧ m2.av = m.av ∧ m2.A = m.A ∧ m2.qv = m.qv) := by rw [HM2.out]; exact ⟨HBL.out.2.1, HBL.out.2.2.1, rfl, rfl, rfl, rfl, rfl, rfl⟩
          obtain ⟨f, HF⟩ : ∃ f : Fl, Hid (f = ⟨ba, bn, bc, qe, lvk, m.kn qe, la + 1, src, ⟨⟨yk, yp, ys, yn, yf, yt, yl, yi⟩, ta, tn, tc, ja, jm, jc⟩, false⟩) := ⟨_, rfl⟩
          have HOWN : Hid (Own w2 B ba bn bc f.bytes) := by
            show Own _ _ _ _ _ _
            unfold Fl.bytes
            rw [HF.out]
            simp only
            rw [HLV.out]
            exact hown
          have HLA : Hid (la ≤ i ∧ Ok13 src ∧ (⟨yk, yp, ys, yn, yf, yt, yl, yi⟩ : Pc) = plainP src) := ⟨hla, hok, hyp⟩
          have cW2 : w2.cell? ⟨bW, k, none⟩ = some (.slice (some ⟨qq, qo, none⟩) (nr + 1) qc) := (HSF.out w2 m2 HST2.out HE2.out.1 HE2.out.2.1 HE2.out.2.2.1 HE2.out.2.2.2.1 HE2.out.2.2.2.2.1).2.1
          have hnr0 : (0 : Int) < (nr : Int) + 1 := by omega
          obtain ⟨wd, HWD⟩ : ∃ wd, Hid (wd = w2.drew) := ⟨_, rfl⟩
          have HBd : Hid (Below w2.heap.size w2 wd) := by rw [HWD.out]; exact below_drew (Below.refl _ _)
          have HSTd : Hid (St wd B m2) := HST2.out.stay HBd.out
          have HB1d : Hid (Below B w1 wd) := HB2.out.trans (HBd.out.mono HST2.out.bs)
          have HOWd : Hid (Own wd B ba bn bc f.bytes) := HOWN.out.below HBd.out
          have HSd := HSF.out wd m2 HSTd.out HE2.out.1 HE2.out.2.1 HE2.out.2.2.1 HE2.out.2.2.2.1 HE2.out.2.2.2.2.1
          clear hst2 hown hyp hok HP2 cE
          go_wp2_with fail
          clear cW2
          refine wp_region_held_drew (S := fun w' => w'.cell? ⟨bV, k, none⟩ = some (.int .i64 (lvk : Int)) ∧ w'.cell? ⟨bW, k, none⟩ = some (.slice (some ⟨qq, qo, none⟩) (nr + 1) qc) ∧ w'.cell? ⟨qq, qo, none⟩ = some (.int .i64 yk) ∧ w'.cell? ⟨qq, qo + 1, none⟩ = some (.int .i64 yp) ∧ w'.cell? ⟨qq, qo + 2, none⟩ = some (.int .i64 ys) ∧ w'.cell? ⟨qq, qo + 3, none⟩ = some (.int .i64 yn) ∧ w'.cell? ⟨qq, qo + 4, none⟩ = some (.int .i64 yf) ∧ w'.cell? ⟨qq, qo + 5, none⟩ = some (.int .i64 yt) ∧ w'.cell? ⟨qq, qo + 6, none⟩ = some (.slice ta tn tc) ∧ w'.cell? ⟨qq, qo + 7, none⟩ = some (.slice ja jm jc)) (by kernel_rfl) (by rw [← HWD.out]; exact HSd) (fun hHeld => ?_)
          clear HSd
          rw [← HWD.out] at hHeld ⊢
          refine take_putH (i := 0) (v := ?_) (some 105) rfl (by kernel_rfl) (by kernel_rfl) (by kernel_rfl) (by kernel_rfl) (fun _ _ _ h => h) (Or.inl ⟨by rfl, ?_⟩) hHeld ?_
          rotate_left
          · (intro w hSw; obtain ⟨z0, z1, z2, z3, z4, z5, z6, z7, z8, z9⟩ := hSw; go_simp; try with_reducible rfl)
          try simp only [Act.put, List.setIfInBounds_toArray, List.set_cons_zero, List.set_cons_succ]
          refine take_putH (i := 1) (v := ?_) (some 106) rfl (by kernel_rfl) (by kernel_rfl) (by kernel_rfl) (by kernel_rfl) (fun _ _ _ h => h) (Or.inl ⟨by rfl, ?_⟩) hHeld ?_
          rotate_left
          · (intro w hSw; obtain ⟨z0, z1, z2, z3, z4, z5, z6, z7, z8, z9⟩ := hSw; go_simp; try with_reducible rfl)
          try simp only [Act.put, List.setIfInBounds_toArray, List.set_cons_zero, List.set_cons_succ]
          refine take_putH (i := 2) (v := ?_) (some 107) rfl (by kernel_rfl) (by kernel_rfl) (by kernel_rfl) (by kernel_rfl) (fun _ _ _ h => h) (Or.inl ⟨by rfl, ?_⟩) hHeld ?_
          rotate_left
          · (intro w hSw; obtain ⟨z0, z1, z2, z3, z4, z5, z6, z7, z8, z9⟩ := hSw; go_simp; try with_reducible rfl)
          try simp only [Act.put, List.setIfInBounds_toArray, List.set_cons_zero, List.set_cons_succ]
          refine take_putH (i := 3) (v := ?_) (some 108) rfl (by kernel_rfl) (by kernel_rfl) (by kernel_rfl) (by kernel_rfl) (fun _ _ _ h => h) (Or.inl ⟨by rfl, ?_⟩) hHeld ?_
          rotate_left
          · (intro w hSw; obtain ⟨z0, z1, z2, z3, z4, z5, z6, z7, z8, z9⟩ := hSw; go_simp; try with_reducible rfl)
          try simp only [Act.put, List.setIfInBounds_toArray, List.set_cons_zero, List.set_cons_succ]
          refine take_putH (i := 4) (v := ?_) (some 109) rfl (by kernel_rfl) (by kernel_rfl) (by kernel_rfl) (by kernel_rfl) (fun _ _ _ h => h) (Or.inl ⟨by rfl, ?_⟩) hHeld ?_
          rotate_left
          · (intro w hSw; obtain ⟨z0, z1, z2, z3, z4, z5, z6, z7, z8, z9⟩ := hSw; go_simp; try with_reducible rfl)
          try simp only [Act.put, List.setIfInBounds_toArray, List.set_cons_zero, List.set_cons_succ]
          refine take_putH (i := 5) (v := ?_) (some 110) rfl (by kernel_rfl) (by kernel_rfl) (by kernel_rfl) (by kernel_rfl) (fun _ _ _ h => h) (Or.inl ⟨by rfl, ?_⟩) hHeld ?_
          rotate_left
          · (intro w hSw; obtain ⟨z0, z1, z2, z3, z4, z5, z6, z7, z8, z9⟩ := hSw; go_simp; try with_reducible rfl)
          try simp only [Act.put, List.setIfInBounds_toArray, List.set_cons_zero, List.set_cons_succ]
          refine take_putH (i := 6) (v := ?_) (some 111) rfl (by kernel_rfl) (by kernel_rfl) (by kernel_rfl) (by kernel_rfl) (fun _ _ _ h => h) (Or.inl ⟨by rfl, ?_⟩) hHeld ?_
          rotate_left
          · (intro w hSw; obtain ⟨z0, z1, z2, z3, z4, z5, z6, z7, z8, z9⟩ := hSw; go_simp; try with_reducible rfl)
          try simp only [Act.put, List.setIfInBounds_toArray, List.set_cons_zero, List.set_cons_succ]
          refine take_putH (i := 7) (v := ?_) (some 112) rfl (by kernel_rfl) (by kernel_rfl) (by kernel_rfl) (by kernel_rfl) (fun _ _ _ h => h) (Or.inl ⟨by rfl, ?_⟩) hHeld ?_
          rotate_left
          · (intro w hSw; obtain ⟨z0, z1, z2, z3, z4, z5, z6, z7, z8, z9⟩ := hSw; go_simp; try with_reducible rfl)
          try simp only [Act.put, List.setIfInBounds_toArray, List.set_cons_zero, List.set_cons_succ]
          refine take_putH (i := 8) (v := ?_) (some 113) rfl (by kernel_rfl) (by kernel_rfl) (by kernel_rfl) (by kernel_rfl) (fun _ _ _ h => h) (Or.inl ⟨by rfl, ?_⟩) hHeld ?_
          rotate_left
          · (intro w hSw; obtain ⟨z0, z1, z2, z3, z4, z5, z6, z7, z8, z9⟩ := hSw; go_simp; try with_reducible rfl)
          try simp only [Act.put, List.setIfInBounds_toArray, List.set_cons_zero, List.set_cons_succ]
          refine take_putH (i := 9) (v := ?_) (some 114) rfl (by kernel_rfl) (by kernel_rfl) (by kernel_rfl) (by kernel_rfl) (fun _ _ _ h => h) (Or.inl ⟨by rfl, ?_⟩) hHeld ?_
          rotate_left
          · (intro w hSw; obtain ⟨z0, z1, z2, z3, z4, z5, z6, z7, z8, z9⟩ := hSw; go_simp; try with_reducible rfl)
          try simp only [Act.put, List.setIfInBounds_toArray, List.set_cons_zero, List.set_cons_succ]
          refine take_putH (i := 10) (v := ?_) (some 115) rfl (by kernel_rfl) (by kernel_rfl) (by kernel_rfl) (by kernel_rfl) (fun _ _ _ h => h) (Or.inl ⟨by rfl, ?_⟩) hHeld ?_
          rotate_left
          · (intro w hSw; obtain ⟨z0, z1, z2, z3, z4, z5, z6, z7, z8, z9⟩ := hSw; go_simp; try with_reducible rfl)
          try simp only [Act.put, List.setIfInBounds_toArray, List.set_cons_zero, List.set_cons_succ]
          refine take_putH (i := 11) (v := ?_) (some 116) rfl (by kernel_rfl) (by kernel_rfl) (by kernel_rfl) (by kernel_rfl) (fun _ _ _ h => h) (Or.inl ⟨by rfl, ?_⟩) hHeld ?_
          rotate_left
          · (intro w hSw; obtain ⟨z0, z1, z2, z3, z4, z5, z6, z7, z8, z9⟩ := hSw; go_simp; try with_reducible rfl)
          try simp only [Act.put, List.setIfInBounds_toArray, List.set_cons_zero, List.set_cons_succ]
          refine wpAnyH_ready (rs := [12]) (by kernel_rfl) (by simp) ?_
          refine AllReadyH.cons rfl (fun K hK => ?_) AllReadyH.nil
          go_simp
          obtain ⟨w4, HW4⟩ : ∃ w4, Hid (w4 = wd.alloc (.cells #[.slice ba bn bc, .int .i64 (k : Int), .int .i64 (lvk : Int), .int .i64 yk, .int .i64 yp, .int .i64 ys, .int .i64 yn, .int .i64 yf, .int .i64 yt, .slice ta tn tc, .slice ja jm jc, .bool false] 46)) := ⟨_, rfl⟩
          rw [← HW4.out]
          have hb4 : Below wd.heap.size wd w4 := by rw [HW4.out]; exact below_new _ _
          have HN4 : Hid (Bk w4 wd.heap.size (fcells f).toArray 46) := by
            rw [HW4.out, HF.out, HK.out]
            exact Bk.new _ _ _
          have HST4 : Hid (St w4 B m2) := HSTd.out.stay hb4
          have HB14 : Hid (Below B w1 w4) := HB1d.out.trans (hb4.mono HSTd.out.bs)
          have HOW4 : Hid (Own w4 B ba bn bc f.bytes) := HOWd.out.below hb4
          have hH4 : Hid (w4.cell? ⟨bV, k, none⟩ = some (.int .i64 (lvk : Int)) ∧ w4.cell? ⟨bW, k, none⟩ = some (.slice (some ⟨qq, qo, none⟩) (nr + 1) qc) ∧ w4.cell? ⟨qq, qo, none⟩ = some (.int .i64 yk) ∧ w4.cell? ⟨qq, qo + 1, none⟩ = some (.int .i64 yp) ∧ w4.cell? ⟨qq, qo + 2, none⟩ = some (.int .i64 ys) ∧ w4.cell? ⟨qq, qo + 3, none⟩ = some (.int .i64 yn) ∧ w4.cell? ⟨qq, qo + 4, none⟩ = some (.int .i64 yf) ∧ w4.cell? ⟨qq, qo + 5, none⟩ = some (.int .i64 yt) ∧ w4.cell? ⟨qq, qo + 6, none⟩ = some (.slice ta tn tc) ∧ w4.cell? ⟨qq, qo + 7, none⟩ = some (.slice ja jm jc)) := HSF.out w4 m2 HST4.out HE2.out.1 HE2.out.2.1 HE2.out.2.2.1 HE2.out.2.2.2.1 HE2.out.2.2.2.2.1
          clear hb4 hHeld
          refine hK.out _ _ hH4.out (fun hzz => ?_)
          clear hzz hK K
          try simp only [Act.put, List.getElem_toArray, List.getElem_cons_succ, List.getElem_cons_zero, List.setIfInBounds_toArray, List.set_cons_zero, List.set_cons_succ]
          refine wpAnyH_ready (rs := [13]) (by kernel_rfl) (by simp) ?_
          refine AllReadyH.cons rfl (fun K hK => ?_) AllReadyH.nil
          refine step_append_fl rfl (.tmp 105) (.tmp 117) rfl B m.av m2.A rfl (by have h5 := HST4.out.a; rw [HE2.out.2.2.2.2.2.1] at h5; exact h5) ⟨wd.heap.size, 0, none⟩ 1 f rfl (fl_told HN4.out) (by have h5 := HGD.out.al; rw [HE2.out.2.2.2.2.2.2.1]; omega) HST4.out.bs ?_
          intro v5 w5 hr5 hg5
          obtain ⟨m5, HM5⟩ : ∃ m5 : Mem, Hid (m5 = ({ m2 with av := v5, A := m2.A ++ [f] } : Mem)) := ⟨_, rfl⟩
          have hg5' : w4.grownBy w5 m2.av.ownBlock := by rw [HE2.out.2.2.2.2.2.1]; exact hg5
          have HST5 : Hid (St w5 B m5) := by
            rw [HM5.out]
            refine HST4.out.grownA hg5' v5 f hr5 ⟨?_, ?_⟩
            · have h5 := HST4.out.qr qe ⟨⟨yk, yp, ys, yn, yf, yt, yl, yi⟩, ta, tn, tc, ja, jm, jc⟩ (by rw [HE2.out.2.2.2.2.1, HQC.out]; exact List.mem_cons_self)
              rw [HF.out]
              exact h5
            · have h5 := HOW4.out
              rw [HF.out] at h5 ⊢
              exact h5
          have HB15 : Hid (Below B w1 w5) := HB14.out.trans (HST4.out.belowA hg5')
          have HE5 : Hid (m5.bV = bV ∧ m5.bW = bW ∧ m5.lv = m.lv ∧ m5.qv = m.qv ∧ m5.Q = m.Q ∧ m5.av = v5) := by rw [HM5.out]; exact ⟨HE2.out.1, HE2.out.2.1, HE2.out.2.2.1, HE2.out.2.2.2.1, HE2.out.2.2.2.2.1, rfl⟩
          have hH5 : Hid (w5.cell? ⟨bV, k, none⟩ = some (.int .i64 (lvk : Int)) ∧ w5.cell? ⟨bW, k, none⟩ = some (.slice (some ⟨qq, qo, none⟩) (nr + 1) qc) ∧ w5.cell? ⟨qq, qo, none⟩ = some (.int .i64 yk) ∧ w5.cell? ⟨qq, qo + 1, none⟩ = some (.int .i64 yp) ∧ w5.cell? ⟨qq, qo + 2, none⟩ = some (.int .i64 ys) ∧ w5.cell? ⟨qq, qo + 3, none⟩ = some (.int .i64 yn) ∧ w5.cell? ⟨qq, qo + 4, none⟩ = some (.int .i64 yf) ∧ w5.cell? ⟨qq, qo + 5, none⟩ = some (.int .i64 yt) ∧ w5.cell? ⟨qq, qo + 6, none⟩ = some (.slice ta tn tc) ∧ w5.cell? ⟨qq, qo + 7, none⟩ = some (.slice ja jm jc)) := HSF.out w5 m5 HST5.out HE5.out.1 HE5.out.2.1 HE5.out.2.2.1 HE5.out.2.2.2.1 HE5.out.2.2.2.2.1
          clear hr5 hg5 hg5'
          refine hK.out _ _ hH5.out (fun hzz => ?_)
          clear hzz hK K
          try simp only [Act.put, List.getElem_toArray, List.getElem_cons_succ, List.getElem_cons_zero, List.setIfInBounds_toArray, List.set_cons_zero, List.set_cons_succ]
          refine take_putH (i := 14) (v := ?_) (some 9) rfl (by kernel_rfl) (by kernel_rfl) (by kernel_rfl) (by kernel_rfl) (fun _ _ _ h => h) (Or.inl ⟨by rfl, ?_⟩) hH5.out ?_
          rotate_left
          · (intro w hSw; obtain ⟨z0, z1, z2, z3, z4, z5, z6, z7, z8, z9⟩ := hSw; go_simp; try with_reducible rfl)
          try simp only [Act.put, List.setIfInBounds_toArray, List.set_cons_zero, List.set_cons_succ]
          refine wpAnyH_done (by kernel_rfl) ?_ _
          have cW5 : w5.cell? ⟨bW, k, none⟩ = some (.slice (some ⟨qq, qo, none⟩) (nr + 1) qc) := hH5.out.2.1
          have fW5 : ∀ i, w5.frozen? ⟨bW, i, none⟩ = false := fun i => by have h5 := HST5.out.ww.free i; rw [HE5.out.2.1] at h5; exact h5
          obtain ⟨_, ht1, ht2⟩ := HFT.out w5 m5 HST5.out HE5.out.2.2.2.1 HE5.out.2.2.2.2.1
          have HT1 : Hid (qc = 1 → Wq w5 B (.slice (some ⟨qq, qo, none⟩) nr (qc - 1)) nr (R.flatMap pcells)) := ht1
          have HT2 : Hid (qc ≠ 1 → Wq w5 B (.slice (some ⟨qq, qo + 8, none⟩) nr (qc - 1)) nr (R.flatMap pcells)) := ht2
          have hc1 : (1 : Int) ≤ (qc : Int) := by omega
          have hc3 : (1 : Int) ≤ (nr : Int) + 1 := by omega
          have hBW : B ≤ bW := by have h5 := HST.out.lo.2.2.1; rw [HBL.out.2.2.1] at h5; exact h5
          have HFIN : Hid (∀ (v6 : Value), v6.ownBlock = some qq → Wq w5 B v6 nr (R.flatMap pcells) → ∃ m6, St (w5.setCell ⟨bW, k, none⟩ v6) B m6 ∧ Good m6 gr (i + 1) ∧ m6.av = v5 ∧ (m6.bE = bE ∧ m6.bV = bV ∧ m6.bW = bW ∧ m6.bK = bK) ∧ Below B w (w5.setCell ⟨bW, k, none⟩ v6)) := fun v6 hb6 hq6 => by
            have h5 := HST5.out.setW qe v6 R (by rw [← HNR.out]; exact hq6) (fun k5 h6 h7 => by
              have h8 : some k5 = some qq := h6.symm.trans hb6
              exact HST5.out.qn qe k5 (by rw [HE5.out.2.2.2.1, HQV.out, h8]; rfl) h7) (fun z hz => HST5.out.qr qe z (by rw [HE5.out.2.2.2.2.1, HQC.out]; exact List.mem_cons_of_mem _ hz))
            rw [show (⟨m5.bW, qe.toNat, none⟩ : Addr) = ⟨bW, k, none⟩ from by rw [HE5.out.2.1, ← HK.out]] at h5
            refine ⟨_, h5, ?_, ?_, ?_, HB.out.trans (HB15.out.setCell hBW _)⟩
            · exact HGD.out.pull qe HLC.out HQC.out la HLA.out.1 f src HLA.out.2.1 HLA.out.2.2 (by rw [HF.out, HLV.out]) (by rw [HF.out]) (by rw [HF.out]) (by rw [HF.out]) (by rw [HF.out]) (by rw [HF.out]) _ (by have h5 := HM5.out; have h6 := HM2.out; subst h6; subst h5; rfl) (by have h5 := HM5.out; have h6 := HM2.out; subst h6; subst h5; rfl) (by have h5 := HM5.out; have h6 := HM2.out; subst h6; subst h5; rfl) (by have h5 := HM5.out; have h6 := HM2.out; subst h6; subst h5; rfl) (by have h5 := HM5.out; have h6 := HM2.out; subst h6; subst h5; rfl) (by have h5 := HM5.out; have h6 := HM2.out; subst h6; subst h5; rfl)
            · exact HE5.out.2.2.2.2.2
            · rw [HM5.out, HM2.out]; exact HBL.out
          clear ht1 ht2 hla
          by_cases hc1c : qc = 1
          · as_aux_lemma =>
              have HW6 := HFIN.out (.slice (some ⟨qq, qo, none⟩) nr (qc - 1)) rfl (HT1.out hc1c)
              subst hc1c
              have hz : nr = 0 := by omega
              subst hz
              obtain ⟨m6, hst6, hgd6, hav6, hbl6, hb6⟩ := HW6
              have HST6 : Hid (St (w5.setCell ⟨bW, k, none⟩ (.slice (some ⟨qq, qo, none⟩) 0 0)) B m6) := hst6
              have HR6 : Hid (Good m6 gr (i + 1) ∧ m6.av = v5 ∧ (m6.bE = bE ∧ m6.bV = bV ∧ m6.bW = bW ∧ m6.bK = bK)) := ⟨hgd6, hav6, hbl6⟩
              have HB6 : Hid (Below B w (w5.setCell ⟨bW, k, none⟩ (.slice (some ⟨qq, qo, none⟩) 0 0))) := hb6
              clear hst6 hgd6 hav6 hbl6 hb6
              go_wp2
              go_roundw
              case rel => exact ⟨i + 1, m6, gr, by omega, by omega, by go_num, HR6.out.2.1.symm, HST6, HR6.out.1, HR6.out.2.2, HB6⟩
              case measure => simp [intOf]; omega
          · as_aux_lemma =>
              have HW6 := HFIN.out (.slice (some ⟨qq, qo + 8, none⟩) nr (qc - 1)) rfl (HT2.out hc1c)
              obtain ⟨m6, hst6, hgd6, hav6, hbl6, hb6⟩ := HW6
              have HST6 : Hid (St (w5.setCell ⟨bW, k, none⟩ (.slice (some ⟨qq, qo + 8, none⟩) nr (qc - 1))) B m6) := hst6
              have HR6 : Hid (Good m6 gr (i + 1) ∧ m6.av = v5 ∧ (m6.bE = bE ∧ m6.bV = bV ∧ m6.bW = bW ∧ m6.bK = bK)) := ⟨hgd6, hav6, hbl6⟩
              have HB6 : Hid (Below B w (w5.setCell ⟨bW, k, none⟩ (.slice (some ⟨qq, qo + 8, none⟩) nr (qc - 1)))) := hb6
              clear hst6 hgd6 hav6 hbl6 hb6
              go_wp2
              go_roundw
              case rel => exact ⟨i + 1, m6, gr, by omega, by omega, by go_num, HR6.out.2.1.symm, HST6, HR6.out.1, HR6.out.2.2, HB6⟩
              case measure => simp [intOf]; omega
      by_cases d2 : qd = 2
      · subst d2
        obtain ⟨aa, ac, hav⟩ := HST.out.alen
        obtain ⟨nA, HNA⟩ : ∃ nA, Hid (nA = m.A.length) := ⟨_, rfl⟩
        rw [← HNA.out] at hav
        have HAV : Hid (m.av = .slice aa nA ac) := hav
        have hnA : nA ≤ 200 := by have h5 := HGD.out.al; rw [HNA.out]; omega
        rw [hav]
        clear hav
        by_cases hz : nA = 0
        · subst hz
          have HGD2 : Hid (Good m gr (i + 1)) := HGD.out.next
          go_wp2
          go_roundw
          case rel => exact ⟨i + 1, m, gr, by omega, by omega, by go_num, HAV.out.symm, HST, HGD2, HBL, HB⟩
          case measure => simp [intOf]; omega
        · have hz' : ¬ (nA : Int) = 0 := by omega
          obtain ⟨ga, cx, hgv, _, _⟩ := HST.out.aform (by rw [← HNA.out]; omega)
          have hgv2 := hgv
          rw [HAV.out, ← HNA.out] at hgv2
          simp only [Value.slice.injEq, true_and] at hgv2
          obtain ⟨rfl, rfl⟩ := hgv2
          have HGV : Hid (m.av = .slice (some ⟨ga, 0, none⟩) m.A.length ac) := hgv
          obtain ⟨uu, huu⟩ : ∃ uu : Nat, IntKind.u64.wrap qn = (uu : Int) := ⟨(qn % 18446744073709551616).toNat, by rw [IntKind.wrap_u64]; omega⟩
          obtain ⟨j, hjd⟩ : ∃ j, j = uu % nA := ⟨_, rfl⟩
          have hjl : j < nA := by rw [hjd]; exact Nat.mod_lt _ (by omega)
          have hjt : Int.tmod (uu : Int) (nA : Int) = (j : Int) := by rw [hjd]; rfl
          have hjl' : (j : Int) < (nA : Int) := by omega
          have hj0 : (0 : Int) ≤ (j : Int) := by omega
          obtain ⟨f, hf⟩ : ∃ f, m.A[j]? = some f := ⟨_, List.getElem?_eq_getElem (by rw [← HNA.out]; exact hjl)⟩
          obtain ⟨fba, fbn, fbc, ffr, flf, fot, fnu, fsr, ⟨⟨yk, yp, ys, yn, yf, yt, yl, yi⟩, ta, tn, tc, ja, jm, jc⟩, fdn⟩ := f
          have HFJ : Hid (m.A[j]? = some ⟨fba, fbn, fbc, ffr, flf, fot, fnu, fsr, ⟨⟨yk, yp, ys, yn, yf, yt, yl, yi⟩, ta, tn, tc, ja, jm, jc⟩, fdn⟩) := hf
          have hc2 : w1.cell? ⟨gl, o + i * 11 + 2, none⟩ = some (.int .i64 qn) := HAT.out.2.2.1
          have hcf : w1.cell? ⟨ga, j * 12 + 1, none⟩ = some (.int .i64 (ffr.toNat : Int)) := HST.out.acell hgv hf 1 rfl
          obtain ⟨kt, HKT⟩ : ∃ kt, Hid (kt = (!ffr).toNat) := ⟨_, rfl⟩
          obtain ⟨gt, HGT⟩ : ∃ gt, Hid (gt = m.g (!ffr)) := ⟨_, rfl⟩
          obtain ⟨kn, HKN⟩ : ∃ kn, Hid (kn = m.kn (!ffr)) := ⟨_, rfl⟩
          have hw64 : wrap64 (1 - (ffr.toNat : Int)) = (kt : Int) := by rw [HKT.out]; cases ffr <;> decide +kernel
          have hkt2 : (kt : Int) < 2 := by have h5 : kt ≤ 1 := by rw [HKT.out]; cases ffr <;> decide
                                           omega
          have hkt0 : (0 : Int) ≤ (kt : Int) := by omega
          obtain ⟨wd, HWD⟩ : ∃ wd, Hid (wd = w1.drew) := ⟨_, rfl⟩
          have HBd : Hid (Below w1.heap.size w1 wd) := by rw [HWD.out]; exact below_drew (Below.refl _ _)
          have HSTd : Hid (St wd B m) := HST.out.stay HBd.out
          have HBwd : Hid (Below B w wd) := HB.out.trans (HBd.out.mono HST.out.bs)
          have HAC : Hid (∀ w' m', St w' B m' → m'.av = m.av → m'.A.length = m.A.length → ∀ f', m'.A[j]? = some f' → ∀ (r : Nat) (u : Value), (fcells f')[r]? = some u → w'.cell? ⟨ga, j * 12 + r, none⟩ = some u) := fun w' m' h' e1 e2 f' hf' r u hu => h'.acell (by rw [e1, e2]; exact HGV.out) hf' r hu
          have HSF2 : Hid (∀ w' m', St w' B m' → m'.bE = bE → m'.g = m.g → m'.av = m.av → m'.A = m.A → w'.cell? ⟨bE, kt, none⟩ = some (.pointer (some ⟨gt, 0, none⟩)) ∧ w'.cell? ⟨ga, j * 12, none⟩ = some (.slice fba fbn fbc)) := fun w' m' h' e1 e2 e3 e4 => by
            have h5 := h'.cE (!ffr)
            rw [e1, e2, ← HKT.out, ← HGT.out] at h5
            exact ⟨h5, HAC.out w' m' h' e3 (by rw [e4]) _ (by rw [e4]; exact HFJ.out) 0 _ rfl⟩
          obtain ⟨gr', hn', hacc, hmk⟩ := HGD.out.take (by omega) HFJ.out (!ffr) rfl
          have HMK : Hid (Nums (accR (m.l (!ffr)) (m.kn (!ffr)) (gr (!ffr)) flf fot fnu).2 (max (m.kn (!ffr)) flf) gr' ∧ ((accR (m.l (!ffr)) (m.kn (!ffr)) (gr (!ffr)) flf fot fnu).1 = 0 → fdn = false ∧ ¬ flf < m.kn (!ffr)) ∧
              ∀ (l' : Lk) (d : Bool) (m' : Mem), l'.life = (m.l (!ffr)).life → l'.last = (m.l (!ffr)).last → l'.queue = (m.l (!ffr)).queue → Nums l' (max (m.kn (!ffr)) flf) gr' → l'.bits_ = (accR (m.l (!ffr)) (m.kn (!ffr)) (gr (!ffr)) flf fot fnu).2.bits_ → (d = true → fdn = true ∨ (accR (m.l (!ffr)) (m.kn (!ffr)) (gr (!ffr)) flf fot fnu).1 = 0) →
                m'.l = upd m.l (!ffr) l' → m'.lv = m.lv → m'.kn = upd m.kn (!ffr) (max (m.kn (!ffr)) flf) → m'.L = m.L → m'.Q = m.Q → m'.A = m.A.set j ⟨fba, fbn, fbc, ffr, flf, fot, fnu, fsr, ⟨⟨yk, yp, ys, yn, yf, yt, yl, yi⟩, ta, tn, tc, ja, jm, jc⟩, d⟩ → Good m' (upd gr (!ffr) gr') (i + 1)) := ⟨hn', hacc, hmk⟩
          have HFL : Hid ((⟨yk, yp, ys, yn, yf, yt, yl, yi⟩ : Pc) = plainP fsr ∧ Ok13 fsr) := by
            have h5 := HGD.out.fl _ (List.mem_of_getElem? HFJ.out)
            exact ⟨h5.pe, h5.ok⟩
          have HYM : Hid (∀ w' m', St w' B m' → m'.A = m.A → ParM w' B ⟨⟨yk, yp, ys, yn, yf, yt, yl, yi⟩, ta, tn, tc, ja, jm, jc⟩) := fun w' m' h' e1 => (h'.ar _ (by rw [e1]; exact List.mem_of_getElem? HFJ.out)).1
          have hHd0 : wd.cell? ⟨bE, kt, none⟩ = some (.pointer (some ⟨gt, 0, none⟩)) ∧ wd.cell? ⟨ga, j * 12, none⟩ = some (.slice fba fbn fbc) := HSF2.out wd m HSTd.out HBL.out.1 rfl rfl rfl
          clear hgv hf hjd hn' hacc hmk
          go_wp2_with fail
          rw [hw64]
          refine wp_region_held_drew (S := fun w' => w'.cell? ⟨bE, kt, none⟩ = some (.pointer (some ⟨gt, 0, none⟩)) ∧ w'.cell? ⟨ga, j * 12, none⟩ = some (.slice fba fbn fbc)) (by kernel_rfl) (by rw [← HWD.out]; exact hHd0) (fun hHeld => ?_)
          rw [← HWD.out] at hHeld ⊢
          clear hHd0
          refine take_putH (i := 0) (v := ?_) (some 149) rfl (by kernel_rfl) (by kernel_rfl) (by kernel_rfl) (by kernel_rfl) (fun _ _ _ h => h) (Or.inl ⟨by rfl, ?_⟩) hHeld ?_
          rotate_left
          · (intro w hSw; obtain ⟨z0, z1⟩ := hSw; go_simp; try with_reducible rfl)
          try simp only [Act.put, List.setIfInBounds_toArray, List.set_cons_zero, List.set_cons_succ]
          refine take_putH (i := 1) (v := ?_) (some 150) rfl (by kernel_rfl) (by kernel_rfl) (by kernel_rfl) (by kernel_rfl) (fun _ _ _ h => h) (Or.inl ⟨by rfl, ?_⟩) hHeld ?_
          rotate_left
          · (intro w hSw; obtain ⟨z0, z1⟩ := hSw; go_simp; try with_reducible rfl)
          try simp only [Act.put, List.setIfInBounds_toArray, List.set_cons_zero, List.set_cons_succ]
          refine take_putH (i := 2) (v := ?_) (some 151) rfl (by kernel_rfl) (by kernel_rfl) (by kernel_rfl) (by kernel_rfl) (fun _ _ _ h => h) (Or.inl ⟨by rfl, ?_⟩) hHeld ?_
          rotate_left
          · (intro w hSw; obtain ⟨z0, z1⟩ := hSw; go_simp; try with_reducible rfl)
          try simp only [Act.put, List.setIfInBounds_toArray, List.set_cons_zero, List.set_cons_succ]
          refine take_putH (i := 3) (v := ?_) (some 152) rfl (by kernel_rfl) (by kernel_rfl) (by kernel_rfl) (by kernel_rfl) (fun _ _ _ h => h) (Or.inl ⟨by rfl, ?_⟩) hHeld ?_
          rotate_left
          · (intro w hSw; obtain ⟨z0, z1⟩ := hSw; go_simp; try with_reducible rfl)
          try simp only [Act.put, List.setIfInBounds_toArray, List.set_cons_zero, List.set_cons_succ]
          refine take_putH (i := 4) (v := ?_) (some 153) rfl (by kernel_rfl) (by kernel_rfl) (by kernel_rfl) (by kernel_rfl) (fun _ _ _ h => h) (Or.inl ⟨by rfl, ?_⟩) hHeld ?_
          rotate_left
          · (intro w hSw; obtain ⟨z0, z1⟩ := hSw; go_simp; try with_reducible rfl)
          try simp only [Act.put, List.setIfInBounds_toArray, List.set_cons_zero, List.set_cons_succ]
          refine take_putH (i := 5) (v := ?_) (some 154) rfl (by kernel_rfl) (by kernel_rfl) (by kernel_rfl) (by kernel_rfl) (fun _ _ _ h => h) (Or.inl ⟨by rfl, ?_⟩) hHeld ?_
          rotate_left
          · (intro w hSw; obtain ⟨z0, z1⟩ := hSw; go_simp; try with_reducible rfl)
          try simp only [Act.put, List.setIfInBounds_toArray, List.set_cons_zero, List.set_cons_succ]
          refine take_putH (i := 6) (v := ?_) (some 155) rfl (by kernel_rfl) (by kernel_rfl) (by kernel_rfl) (by kernel_rfl) (fun _ _ _ h => h) (Or.inl ⟨by rfl, ?_⟩) hHeld ?_
          rotate_left
          · (intro w hSw; obtain ⟨z0, z1⟩ := hSw; go_simp; try with_reducible rfl)
          try simp only [Act.put, List.setIfInBounds_toArray, List.set_cons_zero, List.set_cons_succ]
          refine take_putH (i := 7) (v := ?_) (some 156) rfl (by kernel_rfl) (by kernel_rfl) (by kernel_rfl) (by kernel_rfl) (fun _ _ _ h => h) (Or.inl ⟨by rfl, ?_⟩) hHeld ?_
          rotate_left
          · (intro w hSw; obtain ⟨z0, z1⟩ := hSw; go_simp; try with_reducible rfl)
          try simp only [Act.put, List.setIfInBounds_toArray, List.set_cons_zero, List.set_cons_succ]
          have hHd : Hid (wd.cell? ⟨bE, kt, none⟩ = some (.pointer (some ⟨gt, 0, none⟩)) ∧ wd.cell? ⟨ga, j * 12, none⟩ = some (.slice fba fbn fbc)) := hHeld
          clear hHeld
          refine viaKey ?_
          apply Exists.intro
          apply And.intro
          · intro key
            refine wpAnyH_ready (rs := [8, 13]) (by kernel_rfl) (by simp) ?_
            refine AllReadyH.cons rfl (fun K hK => ?_) (AllReadyH.cons rfl (fun K hK => ?_) AllReadyH.nil)
            · go_simp
              rw [HGT.out]
              refine (on_take2 HSTd.out HGD.out (by omega) HFJ.out (!ffr)).mono ?_
              rintro e w3 ⟨⟨⟨zk, zp, zs, zn, zf, zt, zl, zit⟩, za, zsn, zsc, zi, zim, zic, ok, r, he, HZ⟩, HLT, HBT, HPT⟩
              subst he
              obtain ⟨l', k1, k2, k3, k4, k5, hst3⟩ := HLT.out
              have HLP : Hid (l'.life = (m.l (!ffr)).life ∧ l'.last = (m.l (!ffr)).last ∧ l'.queue = (m.l (!ffr)).queue ∧ (∀ ot g, Nums (accR (m.l (!ffr)) (m.kn (!ffr)) (gr (!ffr)) flf fot fnu).2 ot g → Nums l' ot g) ∧ l'.bits_ = (accR (m.l (!ffr)) (m.kn (!ffr)) (gr (!ffr)) flf fot fnu).2.bits_) := ⟨k1, k2, k3, k4, k5⟩
              obtain ⟨m3, HM3⟩ : ∃ m3 : Mem, Hid (m3 = ({ m with l := upd m.l (!ffr) l' } : Mem)) := ⟨_, rfl⟩
              have HE3 : Hid (m3.bE = bE ∧ m3.g = m.g ∧ m3.av = m.av ∧ m3.A = m.A ∧ m3.bK = bK ∧ m3.kn = m.kn ∧ m3.qv = m.qv) := by rw [HM3.out]; exact ⟨HBL.out.1, rfl, rfl, rfl, HBL.out.2.2.2, rfl, rfl⟩
              have HSTT : Hid (St w3 B m3) := by rw [HM3.out]; exact hst3
              have HBWT : Hid (Below B w w3) := HBwd.out.trans HBT.out
              have hHT : Hid (w3.cell? ⟨bE, kt, none⟩ = some (.pointer (some ⟨gt, 0, none⟩)) ∧ w3.cell? ⟨ga, j * 12, none⟩ = some (.slice fba fbn fbc)) := HSF2.out w3 m3 HSTT.out HE3.out.1 HE3.out.2.1 HE3.out.2.2.1 HE3.out.2.2.2.1
              clear hst3 k1 k2 k3 k4 k5 HLT HBT
              refine hK.out _ _ hHT.out (fun hzz => ?_)
              clear hzz hK K
              try simp only [Act.put, List.getElem_toArray, List.getElem_cons_succ, List.getElem_cons_zero, List.setIfInBounds_toArray, List.set_cons_zero, List.set_cons_succ]
              refine take_putH (i := 9) (v := ?_) (some 148) rfl (by kernel_rfl) (by kernel_rfl) (by kernel_rfl) (by kernel_rfl) (fun _ _ _ h => h) (Or.inl ⟨by rfl, ?_⟩) hHT.out ?_
              rotate_left
              · (intro w hSw; obtain ⟨z0, z1⟩ := hSw; go_simp; try with_reducible rfl)
              try simp only [Act.put, List.setIfInBounds_toArray, List.set_cons_zero, List.set_cons_succ]
              refine take_putH (i := 10) (v := ?_) (some 158) rfl (by kernel_rfl) (by kernel_rfl) (by kernel_rfl) (by kernel_rfl) (fun _ _ _ h => h) (Or.inl ⟨by rfl, ?_⟩) hHT.out ?_
              rotate_left
              · (intro w hSw; obtain ⟨z0, z1⟩ := hSw; go_simp; try with_reducible rfl)
              try simp only [Act.put, List.setIfInBounds_toArray, List.set_cons_zero, List.set_cons_succ]
              refine take_putH (i := 11) (v := ?_) (some 159) rfl (by kernel_rfl) (by kernel_rfl) (by kernel_rfl) (by kernel_rfl) (fun _ _ _ h => h) (Or.inl ⟨by rfl, ?_⟩) hHT.out ?_
              rotate_left
              · (intro w hSw; obtain ⟨z0, z1⟩ := hSw; go_simp; try with_reducible rfl)
              try simp only [Act.put, List.setIfInBounds_toArray, List.set_cons_zero, List.set_cons_succ]
              refine take_putH (i := 12) (v := ?_) (some 160) rfl (by kernel_rfl) (by kernel_rfl) (by kernel_rfl) (by kernel_rfl) (fun _ _ _ h => h) (Or.inl ⟨by rfl, ?_⟩) hHT.out ?_
              rotate_left
              · (intro w hSw; obtain ⟨z0, z1⟩ := hSw; go_simp; try with_reducible rfl)
              try simp only [Act.put, List.setIfInBounds_toArray, List.set_cons_zero, List.set_cons_succ]
              refine wpAnyH_ready (rs := [13]) (by kernel_rfl) (by simp) ?_
              refine AllReadyH.cons rfl (fun K hK => ?_) AllReadyH.nil
              go_simp
              obtain ⟨px, HPX⟩ : ∃ px, Hid (px = w3.heap.size) := ⟨_, rfl⟩
              obtain ⟨w4, HW4⟩ : ∃ w4, Hid (w4 = w3.alloc (.cells #[.int .i64 0, .int .i64 0, .int .i64 0, .int .i64 0, .int .i64 0, .int .i64 0, .slice none 0 0, .slice none 0 0] 37)) := ⟨_, rfl⟩
              rw [← HW4.out, ← HPX.out]
              have hb4 : Below w3.heap.size w3 w4 := by rw [HW4.out]; exact below_new _ _
              have HX4 : Hid (Bk w4 px #[.int .i64 0, .int .i64 0, .int .i64 0, .int .i64 0, .int .i64 0, .int .i64 0, .slice none 0 0, .slice none 0 0] 37) := by rw [HW4.out, HPX.out]; exact Bk.new _ _ _
              have HST4 : Hid (St w4 B m3) := HSTT.out.stay hb4
              have HBW4 : Hid (Below B w w4) := HBWT.out.trans (hb4.mono HSTT.out.bs)
              have HQ4 : Hid ((∀ b k, (m3.qv b).ownBlock = some k → k ≠ px) ∧ B ≤ px) := by
                rw [HPX.out]
                exact ⟨fun b k hk => by obtain ⟨_, cs, hc⟩ := (HSTT.out.q b).lt hk; have h5 := hc.lt; omega, HSTT.out.bs⟩
              have HZ4 : Hid ((ok = true ∧ r = 0 ∧ (accR (m.l (!ffr)) (m.kn (!ffr)) (gr (!ffr)) flf fot fnu).1 = 0 ∧ (⟨zk, zp, zs, zn, zf, zt, zl, zit⟩ : Pc) = plainP fsr ∧ ParM w4 B ⟨⟨zk, zp, zs, zn, zf, zt, zl, zit⟩, za, zsn, zsc, zi, zim, zic⟩) ∨ (ok = false ∧ r ≠ 0 ∧ (accR (m.l (!ffr)) (m.kn (!ffr)) (gr (!ffr)) flf fot fnu).1 ≠ 0)) := by
                rcases HZ.out with ⟨h1, h2, h3, h4, h5⟩ | h1
                · exact .inl ⟨h1, h2, h3, h4, h5.kept (Kro.of fun k hk => hb4.block k hk)⟩
                · exact .inr h1
              have hH4 : Hid (w4.cell? ⟨bE, kt, none⟩ = some (.pointer (some ⟨gt, 0, none⟩)) ∧ w4.cell? ⟨ga, j * 12, none⟩ = some (.slice fba fbn fbc)) := HSF2.out w4 m3 HST4.out HE3.out.1 HE3.out.2.1 HE3.out.2.2.1 HE3.out.2.2.2.1
              clear hb4 HPX
              refine hK.out _ _ hH4.out (fun hzz => ?_)
              clear hzz hK K
              try simp only [Act.put, List.getElem_toArray, List.getElem_cons_succ, List.getElem_cons_zero, List.setIfInBounds_toArray, List.set_cons_zero, List.set_cons_succ]
              clear HW4 HSTT HBWT hHT HZ HPT hH4
              clear w3
              revert HZ4
              revert HQ4
              revert HBW4
              revert HST4
              revert HX4
              revert HE3
              revert HM3
              revert HLP
              revert w4
              revert px
              revert m3
              revert l'
              revert r
              revert ok
              revert zic
              revert zim
              revert zi
              revert zsc
              revert zsn
              revert za
              revert zit
              revert zl
              revert zt
              revert zf
              revert zn
              revert zs
              revert zp
              revert zk
              exact key.out
            · go_simp
              obtain ⟨px, HPX⟩ : ∃ px, Hid (px = wd.heap.size) := ⟨_, rfl⟩
              obtain ⟨w3, HW3⟩ : ∃ w3, Hid (w3 = wd.alloc (.cells #[.int .i64 0, .int .i64 0, .int .i64 0, .int .i64 0, .int .i64 0, .int .i64 0, .slice none 0 0, .slice none 0 0] 37)) := ⟨_, rfl⟩
              rw [← HW3.out, ← HPX.out]
              have hb3 : Below wd.heap.size wd w3 := by rw [HW3.out]; exact below_new _ _
              have HX3 : Hid (Bk w3 px #[.int .i64 0, .int .i64 0, .int .i64 0, .int .i64 0, .int .i64 0, .int .i64 0, .slice none 0 0, .slice none 0 0] 37) := by rw [HW3.out, HPX.out]; exact Bk.new _ _ _
              have HST3 : Hid (St w3 B m) := HSTd.out.stay hb3
              have HBW3 : Hid (Below B w w3) := HBwd.out.trans (hb3.mono HSTd.out.bs)
              have HQ3 : Hid ((∀ b k, (m.qv b).ownBlock = some k → k ≠ px) ∧ B ≤ px) := by
                rw [HPX.out]
                exact ⟨fun b k hk => by obtain ⟨_, cs, hc⟩ := (HSTd.out.q b).lt hk; have h5 := hc.lt; omega, HSTd.out.bs⟩
              have hH3 : Hid (w3.cell? ⟨bE, kt, none⟩ = some (.pointer (some ⟨gt, 0, none⟩)) ∧ w3.cell? ⟨ga, j * 12, none⟩ = some (.slice fba fbn fbc)) := HSF2.out w3 m HST3.out HBL.out.1 rfl rfl rfl
              clear hb3 HPX
              refine hK.out _ _ hH3.out (fun hzz => ?_)
              clear hzz hK K
              try simp only [Act.put, List.getElem_toArray, List.getElem_cons_succ, List.getElem_cons_zero, List.setIfInBounds_toArray, List.set_cons_zero, List.set_cons_succ]
              refine wpAnyH_ready (rs := [8]) (by kernel_rfl) (by simp) ?_
              refine AllReadyH.cons rfl (fun K hK => ?_) AllReadyH.nil
              go_simp
              rw [HGT.out]
              refine (on_take2 HST3.out HGD.out (by omega) HFJ.out (!ffr)).mono ?_
              rintro e w4 ⟨⟨⟨zk, zp, zs, zn, zf, zt, zl, zit⟩, za, zsn, zsc, zi, zim, zic, ok, r, he, HZ⟩, HLT, HBT, HPT⟩
              subst he
              obtain ⟨l', k1, k2, k3, k4, k5, hst3⟩ := HLT.out
              have HLP : Hid (l'.life = (m.l (!ffr)).life ∧ l'.last = (m.l (!ffr)).last ∧ l'.queue = (m.l (!ffr)).queue ∧ (∀ ot g, Nums (accR (m.l (!ffr)) (m.kn (!ffr)) (gr (!ffr)) flf fot fnu).2 ot g → Nums l' ot g) ∧ l'.bits_ = (accR (m.l (!ffr)) (m.kn (!ffr)) (gr (!ffr)) flf fot fnu).2.bits_) := ⟨k1, k2, k3, k4, k5⟩
              obtain ⟨m3, HM3⟩ : ∃ m3 : Mem, Hid (m3 = ({ m with l := upd m.l (!ffr) l' } : Mem)) := ⟨_, rfl⟩
              have HE3 : Hid (m3.bE = bE ∧ m3.g = m.g ∧ m3.av = m.av ∧ m3.A = m.A ∧ m3.bK = bK ∧ m3.kn = m.kn ∧ m3.qv = m.qv) := by rw [HM3.out]; exact ⟨HBL.out.1, rfl, rfl, rfl, HBL.out.2.2.2, rfl, rfl⟩
              have HSTT : Hid (St w4 B m3) := by rw [HM3.out]; exact hst3
              have HBWT : Hid (Below B w w4) := HBW3.out.trans HBT.out
              have hHT : Hid (w4.cell? ⟨bE, kt, none⟩ = some (.pointer (some ⟨gt, 0, none⟩)) ∧ w4.cell? ⟨ga, j * 12, none⟩ = some (.slice fba fbn fbc)) := HSF2.out w4 m3 HSTT.out HE3.out.1 HE3.out.2.1 HE3.out.2.2.1 HE3.out.2.2.2.1
              clear hst3 k1 k2 k3 k4 k5 HLT HBT
              refine hK.out _ _ hHT.out (fun hzz => ?_)
              clear hzz hK K
              try simp only [Act.put, List.getElem_toArray, List.getElem_cons_succ, List.getElem_cons_zero, List.setIfInBounds_toArray, List.set_cons_zero, List.set_cons_succ]
              have HX4 : Hid (Bk w4 px #[.int .i64 0, .int .i64 0, .int .i64 0, .int .i64 0, .int .i64 0, .int .i64 0, .slice none 0 0, .slice none 0 0] 37) := HPT.out px _ HX3.out
              have HST4 : Hid (St w4 B m3) := HSTT.out
              have HBW4 : Hid (Below B w w4) := HBWT.out
              have HQ4 : Hid ((∀ b k, (m3.qv b).ownBlock = some k → k ≠ px) ∧ B ≤ px) := by
                have h5 := HQ3.out
                rw [← HE3.out.2.2.2.2.2.2] at h5
                exact h5
              have HZ4 : Hid ((ok = true ∧ r = 0 ∧ (accR (m.l (!ffr)) (m.kn (!ffr)) (gr (!ffr)) flf fot fnu).1 = 0 ∧ (⟨zk, zp, zs, zn, zf, zt, zl, zit⟩ : Pc) = plainP fsr ∧ ParM w4 B ⟨⟨zk, zp, zs, zn, zf, zt, zl, zit⟩, za, zsn, zsc, zi, zim, zic⟩) ∨ (ok = false ∧ r ≠ 0 ∧ (accR (m.l (!ffr)) (m.kn (!ffr)) (gr (!ffr)) flf fot fnu).1 ≠ 0)) := HZ.out
              have hH4 : Hid (w4.cell? ⟨bE, kt, none⟩ = some (.pointer (some ⟨gt, 0, none⟩)) ∧ w4.cell? ⟨ga, j * 12, none⟩ = some (.slice fba fbn fbc)) := hHT.out
              refine take_putH (i := 9) (v := ?_) (some 148) rfl (by kernel_rfl) (by kernel_rfl) (by kernel_rfl) (by kernel_rfl) (fun _ _ _ h => h) (Or.inl ⟨by rfl, ?_⟩) hHT.out ?_
              rotate_left
              · (intro w hSw; obtain ⟨z0, z1⟩ := hSw; go_simp; try with_reducible rfl)
              try simp only [Act.put, List.setIfInBounds_toArray, List.set_cons_zero, List.set_cons_succ]
              refine take_putH (i := 10) (v := ?_) (some 158) rfl (by kernel_rfl) (by kernel_rfl) (by kernel_rfl) (by kernel_rfl) (fun _ _ _ h => h) (Or.inl ⟨by rfl, ?_⟩) hHT.out ?_
              rotate_left
              · (intro w hSw; obtain ⟨z0, z1⟩ := hSw; go_simp; try with_reducible rfl)
              try simp only [Act.put, List.setIfInBounds_toArray, List.set_cons_zero, List.set_cons_succ]
              refine take_putH (i := 11) (v := ?_) (some 159) rfl (by kernel_rfl) (by kernel_rfl) (by kernel_rfl) (by kernel_rfl) (fun _ _ _ h => h) (Or.inl ⟨by rfl, ?_⟩) hHT.out ?_
              rotate_left
              · (intro w hSw; obtain ⟨z0, z1⟩ := hSw; go_simp; try with_reducible rfl)
              try simp only [Act.put, List.setIfInBounds_toArray, List.set_cons_zero, List.set_cons_succ]
              refine take_putH (i := 12) (v := ?_) (some 160) rfl (by kernel_rfl) (by kernel_rfl) (by kernel_rfl) (by kernel_rfl) (fun _ _ _ h => h) (Or.inl ⟨by rfl, ?_⟩) hHT.out ?_
              rotate_left
              · (intro w hSw; obtain ⟨z0, z1⟩ := hSw; go_simp; try with_reducible rfl)
              try simp only [Act.put, List.setIfInBounds_toArray, List.set_cons_zero, List.set_cons_succ]
              clear HSTT HBWT hHT HZ HPT HX3 HST3 HBW3 HQ3 HW3 hH3 hH4
              clear w3
              revert HZ4
              revert HQ4
              revert HBW4
              revert HST4
              revert HX4
              revert HE3
              revert HM3
              revert HLP
              revert w4
              revert px
              revert m3
              revert l'
              revert r
              revert ok
              revert zic
              revert zim
              revert zi
              revert zsc
              revert zsn
              revert za
              revert zit
              revert zl
              revert zt
              revert zf
              revert zn
              revert zs
              revert zp
              revert zk
              exact key.out
          · intro zk zp zs zn zf zt zl zit za zsn zsc zi zim zic ok r l' m3 px w4 HLP HM3 HE3 HX4 HST4 HBW4 HQ4 HZ4
            have x0 : w4.cell? ⟨px, 0, none⟩ = some (.int .i64 0) := HX4.out.cell 0 rfl
            have x1 : w4.cell? ⟨px, 1, none⟩ = some (.int .i64 0) := HX4.out.cell 1 rfl
            have x2 : w4.cell? ⟨px, 2, none⟩ = some (.int .i64 0) := HX4.out.cell 2 rfl
            have x3 : w4.cell? ⟨px, 3, none⟩ = some (.int .i64 0) := HX4.out.cell 3 rfl
            have x4 : w4.cell? ⟨px, 4, none⟩ = some (.int .i64 0) := HX4.out.cell 4 rfl
            have x5 : w4.cell? ⟨px, 5, none⟩ = some (.int .i64 0) := HX4.out.cell 5 rfl
            have x6 : w4.cell? ⟨px, 6, none⟩ = some (.slice none 0 0) := HX4.out.cell 6 rfl
            have x7 : w4.cell? ⟨px, 7, none⟩ = some (.slice none 0 0) := HX4.out.cell 7 rfl
            have xf : ∀ i, w4.frozen? ⟨px, i, none⟩ = false := fun i => HX4.out.free i
            obtain ⟨w5, HW5⟩ : ∃ w5, Hid (w5 = set8 w4 px (.int .i64 zk) (.int .i64 zp) (.int .i64 zs) (.int .i64 zn) (.int .i64 zf) (.int .i64 zt) (.slice za zsn zsc) (.slice zi zim zic)) := ⟨_, rfl⟩
            have HX5 : Hid (Bk w5 px #[.int .i64 zk, .int .i64 zp, .int .i64 zs, .int .i64 zn, .int .i64 zf, .int .i64 zt, .slice za zsn zsc, .slice zi zim zic] 37) := by rw [HW5.out]; exact HX4.out.set8 (.int .i64 zk) (.int .i64 zp) (.int .i64 zs) (.int .i64 zn) (.int .i64 zf) (.int .i64 zt) (.slice za zsn zsc) (.slice zi zim zic)
            have HCH : Hid (∀ k, k < w4.heap.size → k ≠ px → w5.heap[k]? = w4.heap[k]?) := fun k _ hk => by rw [HW5.out]; exact set8_other _ _ _ _ _ _ _ _ _ _ k hk
            have HST5 : Hid (St w5 B m3) := HST4.out.poke HX4.out HQ4.out.1 HQ4.out.2 (by rw [HW5.out, set8_size]; exact Nat.le_refl _) HCH.out
            have HBW5 : Hid (Below B w w5) := by rw [HW5.out]; exact set8_below HBW4.out px HQ4.out.2 _ _ _ _ _ _ _ _
            have HZ5 : Hid ((ok = true ∧ r = 0 ∧ (accR (m.l (!ffr)) (m.kn (!ffr)) (gr (!ffr)) flf fot fnu).1 = 0 ∧ (⟨zk, zp, zs, zn, zf, zt, zl, zit⟩ : Pc) = plainP fsr ∧ ParM w5 B ⟨⟨zk, zp, zs, zn, zf, zt, zl, zit⟩, za, zsn, zsc, zi, zim, zic⟩) ∨ (ok = false ∧ r ≠ 0 ∧ (accR (m.l (!ffr)) (m.kn (!ffr)) (gr (!ffr)) flf fot fnu).1 ≠ 0)) := by
              rcases HZ4.out with ⟨h1, h2, h3, h4, h5⟩ | h1
              · exact .inl ⟨h1, h2, h3, h4, h5.kept (Kro.one HX4.out (by decide) HCH.out)⟩
              · exact .inr h1
            have hH5 : Hid (w5.cell? ⟨bE, kt, none⟩ = some (.pointer (some ⟨gt, 0, none⟩)) ∧ w5.cell? ⟨ga, j * 12, none⟩ = some (.slice fba fbn fbc)) := HSF2.out w5 m3 HST5.out HE3.out.1 HE3.out.2.1 HE3.out.2.2.1 HE3.out.2.2.2.1
            refine wpAnyH_ready (rs := [14]) (by kernel_rfl) (by simp) ?_
            refine AllReadyH.cons rfl (fun K hK => ?_) AllReadyH.nil
            go_simp
            refine (fun h => by have e := HW5.out; unfold set8 at e; rw [← e]; exact h) ?_
            refine hK.out _ _ hH5.out (fun hzz => ?_)
            clear hzz hK K
            try simp only [Act.put, List.getElem_toArray, List.getElem_cons_succ, List.getElem_cons_zero, List.setIfInBounds_toArray, List.set_cons_zero, List.set_cons_succ]
            refine take_putH (i := 15) (v := ?_) (some 18) rfl (by kernel_rfl) (by kernel_rfl) (by kernel_rfl) (by kernel_rfl) (fun _ _ _ h => h) (Or.inl ⟨by rfl, ?_⟩) hH5.out ?_
            rotate_left
            · (intro w hSw; obtain ⟨z0, z1⟩ := hSw; go_simp; try with_reducible rfl)
            try simp only [Act.put, List.setIfInBounds_toArray, List.set_cons_zero, List.set_cons_succ]
            refine take_putH (i := 16) (v := ?_) (some 19) rfl (by kernel_rfl) (by kernel_rfl) (by kernel_rfl) (by kernel_rfl) (fun _ _ _ h => h) (Or.inl ⟨by rfl, ?_⟩) hH5.out ?_
            rotate_left
            · (intro w hSw; obtain ⟨z0, z1⟩ := hSw; go_simp; try with_reducible rfl)
            try simp only [Act.put, List.setIfInBounds_toArray, List.set_cons_zero, List.set_cons_succ]
            refine wpAnyH_done (by kernel_rfl) ?_ _
            clear x0 x1 x2 x3 x4 x5 x6 x7 xf
            obtain ⟨wg, HWG⟩ : ∃ wg, Hid (wg = w5.drew) := ⟨_, rfl⟩
            have HBg : Hid (Below w5.heap.size w5 wg) := by rw [HWG.out]; exact below_drew (Below.refl _ _)
            have HSTg : Hid (St wg B m3) := HST5.out.stay HBg.out
            have HBWg : Hid (Below B w wg) := HBW5.out.trans (HBg.out.mono HST5.out.bs)
            go_wp2_with fail
            rcases HZ5.out with ⟨hok, hr, hac, hzp, hpm⟩ | ⟨hok, hr, hac⟩
            · as_aux_lemma =>
                subst hok hr
                obtain ⟨hfd, hlk⟩ := HMK.out.2.1 hac
                subst hfd
                have HYE : Hid ((⟨zk, zp, zs, zn, zf, zt, zl, zit⟩ : Pc) = ⟨yk, yp, ys, yn, yf, yt, yl, yi⟩) := hzp.trans HFL.out.1.symm
                have hye := HYE.out
                simp only [Pc.mk.injEq] at hye
                obtain ⟨rfl, rfl, rfl, rfl, rfl, rfl, rfl, rfl⟩ := hye
                have HPZ : Hid (PcRd wg ⟨zk, zp, zs, zn, zf, zt, zl, zit⟩ za zsn zsc zi zim zic) := (hpm.kept (Kro.of fun k hk => HBg.out.block k hk)).rd (by rw [hzp]; exact plain_items HFL.out.2)
                have HPY : Hid (PcRd wg ⟨zk, zp, zs, zn, zf, zt, zl, zit⟩ ta tn tc ja jm jc) := (HYM.out wg m3 HSTg.out HE3.out.2.2.2.1).rd (by rw [hzp]; exact plain_items HFL.out.2)
                have hltb : decide ((flf : Int) < (kn : Int)) = false := by rw [HKN.out]; simpa using hlk
                have hltn : ¬ (flf : Int) < (kn : Int) := by rw [HKN.out]; omega
                have HS3 : Hid (∀ w', Below w5.heap.size w5 w' → w'.cell? ⟨px, 0, none⟩ = some (.int .i64 zk) ∧ w'.cell? ⟨px, 1, none⟩ = some (.int .i64 zp) ∧ w'.cell? ⟨px, 2, none⟩ = some (.int .i64 zs) ∧ w'.cell? ⟨px, 3, none⟩ = some (.int .i64 zn) ∧ w'.cell? ⟨px, 4, none⟩ = some (.int .i64 zf) ∧ w'.cell? ⟨px, 5, none⟩ = some (.int .i64 zt) ∧ w'.cell? ⟨px, 6, none⟩ = some (.slice za zsn zsc) ∧ w'.cell? ⟨px, 7, none⟩ = some (.slice zi zim zic) ∧ w'.cell? ⟨ga, j * 12 + 3, none⟩ = some (.int .i64 zk) ∧ w'.cell? ⟨ga, j * 12 + 4, none⟩ = some (.int .i64 zp) ∧ w'.cell? ⟨ga, j * 12 + 5, none⟩ = some (.int .i64 zs) ∧ w'.cell? ⟨ga, j * 12 + 6, none⟩ = some (.int .i64 zn) ∧ w'.cell? ⟨ga, j * 12 + 7, none⟩ = some (.int .i64 zf) ∧ w'.cell? ⟨ga, j * 12 + 8, none⟩ = some (.int .i64 zt) ∧ w'.cell? ⟨ga, j * 12 + 9, none⟩ = some (.slice ta tn tc) ∧ w'.cell? ⟨ga, j * 12 + 10, none⟩ = some (.slice ja jm jc) ∧ w'.cell? ⟨ga, j * 12 + 11, none⟩ = some (.bool false) ∧ w'.cell? ⟨ga, j * 12 + 2, none⟩ = some (.int .i64 (flf : Int)) ∧ w'.cell? ⟨bK, kt, none⟩ = some (.int .i64 (kn : Int))) := fun w' hb' => by
                  have h5 := HST5.out.stay hb'
                  have h6 := HX5.out.stay hb'
                  have h7 := HAC.out w' m3 h5 HE3.out.2.2.1 (by rw [HE3.out.2.2.2.1]) _ (by rw [HE3.out.2.2.2.1]; exact HFJ.out)
                  have h8 := h5.cK (!ffr)
                  rw [HE3.out.2.2.2.2.1, HE3.out.2.2.2.2.2.1, ← HKT.out, ← HKN.out] at h8
                  exact ⟨h6.cell 0 rfl, h6.cell 1 rfl, h6.cell 2 rfl, h6.cell 3 rfl, h6.cell 4 rfl, h6.cell 5 rfl, h6.cell 6 rfl, h6.cell 7 rfl, h7 3 _ rfl, h7 4 _ rfl, h7 5 _ rfl, h7 6 _ rfl, h7 7 _ rfl, h7 8 _ rfl, h7 9 _ rfl, h7 10 _ rfl, h7 11 _ rfl, h7 2 _ rfl, h8⟩
                have HAC0 : Hid ((accR (m.l (!ffr)) (m.kn (!ffr)) (gr (!ffr)) flf fot fnu).1 = 0) := hac
                clear hac hzp hpm hlk
                refine wp_region_held_drew (S := fun w' => w'.cell? ⟨px, 0, none⟩ = some (.int .i64 zk) ∧ w'.cell? ⟨px, 1, none⟩ = some (.int .i64 zp) ∧ w'.cell? ⟨px, 2, none⟩ = some (.int .i64 zs) ∧ w'.cell? ⟨px, 3, none⟩ = some (.int .i64 zn) ∧ w'.cell? ⟨px, 4, none⟩ = some (.int .i64 zf) ∧ w'.cell? ⟨px, 5, none⟩ = some (.int .i64 zt) ∧ w'.cell? ⟨px, 6, none⟩ = some (.slice za zsn zsc) ∧ w'.cell? ⟨px, 7, none⟩ = some (.slice zi zim zic) ∧ w'.cell? ⟨ga, j * 12 + 3, none⟩ = some (.int .i64 zk) ∧ w'.cell? ⟨ga, j * 12 + 4, none⟩ = some (.int .i64 zp) ∧ w'.cell? ⟨ga, j * 12 + 5, none⟩ = some (.int .i64 zs) ∧ w'.cell? ⟨ga, j * 12 + 6, none⟩ = some (.int .i64 zn) ∧ w'.cell? ⟨ga, j * 12 + 7, none⟩ = some (.int .i64 zf) ∧ w'.cell? ⟨ga, j * 12 + 8, none⟩ = some (.int .i64 zt) ∧ w'.cell? ⟨ga, j * 12 + 9, none⟩ = some (.slice ta tn tc) ∧ w'.cell? ⟨ga, j * 12 + 10, none⟩ = some (.slice ja jm jc) ∧ w'.cell? ⟨ga, j * 12 + 11, none⟩ = some (.bool false) ∧ w'.cell? ⟨ga, j * 12 + 2, none⟩ = some (.int .i64 (flf : Int)) ∧ w'.cell? ⟨bK, kt, none⟩ = some (.int .i64 (kn : Int))) (by kernel_rfl) (by rw [← HWG.out]; exact HS3.out wg HBg.out) (fun hHeld => ?_)
                rw [← HWG.out] at hHeld ⊢
                refine take_putH (i := 0) (v := ?_) (some 161) rfl (by kernel_rfl) (by kernel_rfl) (by kernel_rfl) (by kernel_rfl) (fun _ _ _ h => h) (Or.inl ⟨by rfl, ?_⟩) hHeld ?_
                rotate_left
                · (intro w hSw; obtain ⟨z0, z1, z2, z3, z4, z5, z6, z7, z8, z9, z10, z11, z12, z13, z14, z15, z16, z17, z18⟩ := hSw; go_simp; try with_reducible rfl)
                try simp only [Act.put, List.setIfInBounds_toArray, List.set_cons_zero, List.set_cons_succ]
                refine take_putH (i := 1) (v := ?_) (some 162) rfl (by kernel_rfl) (by kernel_rfl) (by kernel_rfl) (by kernel_rfl) (fun _ _ _ h => h) (Or.inl ⟨by rfl, ?_⟩) hHeld ?_
                rotate_left
                · (intro w hSw; obtain ⟨z0, z1, z2, z3, z4, z5, z6, z7, z8, z9, z10, z11, z12, z13, z14, z15, z16, z17, z18⟩ := hSw; go_simp; try with_reducible rfl)
                try simp only [Act.put, List.setIfInBounds_toArray, List.set_cons_zero, List.set_cons_succ]
                refine take_putH (i := 2) (v := ?_) (some 163) rfl (by kernel_rfl) (by kernel_rfl) (by kernel_rfl) (by kernel_rfl) (fun _ _ _ h => h) (Or.inl ⟨by rfl, ?_⟩) hHeld ?_
                rotate_left
                · (intro w hSw; obtain ⟨z0, z1, z2, z3, z4, z5, z6, z7, z8, z9, z10, z11, z12, z13, z14, z15, z16, z17, z18⟩ := hSw; go_simp; try with_reducible rfl)
                try simp only [Act.put, List.setIfInBounds_toArray, List.set_cons_zero, List.set_cons_succ]
                refine take_putH (i := 3) (v := ?_) (some 164) rfl (by kernel_rfl) (by kernel_rfl) (by kernel_rfl) (by kernel_rfl) (fun _ _ _ h => h) (Or.inl ⟨by rfl, ?_⟩) hHeld ?_
                rotate_left
                · (intro w hSw; obtain ⟨z0, z1, z2, z3, z4, z5, z6, z7, z8, z9, z10, z11, z12, z13, z14, z15, z16, z17, z18⟩ := hSw; go_simp; try with_reducible rfl)
                try simp only [Act.put, List.setIfInBounds_toArray, List.set_cons_zero, List.set_cons_succ]
                refine take_putH (i := 4) (v := ?_) (some 165) rfl (by kernel_rfl) (by kernel_rfl) (by kernel_rfl) (by kernel_rfl) (fun _ _ _ h => h) (Or.inl ⟨by rfl, ?_⟩) hHeld ?_
                rotate_left
                · (intro w hSw; obtain ⟨z0, z1, z2, z3, z4, z5, z6, z7, z8, z9, z10, z11, z12, z13, z14, z15, z16, z17, z18⟩ := hSw; go_simp; try with_reducible rfl)
                try simp only [Act.put, List.setIfInBounds_toArray, List.set_cons_zero, List.set_cons_succ]
                refine take_putH (i := 5) (v := ?_) (some 166) rfl (by kernel_rfl) (by kernel_rfl) (by kernel_rfl) (by kernel_rfl) (fun _ _ _ h => h) (Or.inl ⟨by rfl, ?_⟩) hHeld ?_
                rotate_left
                · (intro w hSw; obtain ⟨z0, z1, z2, z3, z4, z5, z6, z7, z8, z9, z10, z11, z12, z13, z14, z15, z16, z17, z18⟩ := hSw; go_simp; try with_reducible rfl)
                try simp only [Act.put, List.setIfInBounds_toArray, List.set_cons_zero, List.set_cons_succ]
                refine take_putH (i := 6) (v := ?_) (some 167) rfl (by kernel_rfl) (by kernel_rfl) (by kernel_rfl) (by kernel_rfl) (fun _ _ _ h => h) (Or.inl ⟨by rfl, ?_⟩) hHeld ?_
                rotate_left
                · (intro w hSw; obtain ⟨z0, z1, z2, z3, z4, z5, z6, z7, z8, z9, z10, z11, z12, z13, z14, z15, z16, z17, z18⟩ := hSw; go_simp; try with_reducible rfl)
                try simp only [Act.put, List.setIfInBounds_toArray, List.set_cons_zero, List.set_cons_succ]
                refine take_putH (i := 7) (v := ?_) (some 168) rfl (by kernel_rfl) (by kernel_rfl) (by kernel_rfl) (by kernel_rfl) (fun _ _ _ h => h) (Or.inl ⟨by rfl, ?_⟩) hHeld ?_
                rotate_left
                · (intro w hSw; obtain ⟨z0, z1, z2, z3, z4, z5, z6, z7, z8, z9, z10, z11, z12, z13, z14, z15, z16, z17, z18⟩ := hSw; go_simp; try with_reducible rfl)
                try simp only [Act.put, List.setIfInBounds_toArray, List.set_cons_zero, List.set_cons_succ]
                refine take_putH (i := 8) (v := ?_) (some 169) rfl (by kernel_rfl) (by kernel_rfl) (by kernel_rfl) (by kernel_rfl) (fun _ _ _ h => h) (Or.inl ⟨by rfl, ?_⟩) hHeld ?_
                rotate_left
                · (intro w hSw; obtain ⟨z0, z1, z2, z3, z4, z5, z6, z7, z8, z9, z10, z11, z12, z13, z14, z15, z16, z17, z18⟩ := hSw; go_simp; try with_reducible rfl)
                try simp only [Act.put, List.setIfInBounds_toArray, List.set_cons_zero, List.set_cons_succ]
                refine take_putH (i := 9) (v := ?_) (some 170) rfl (by kernel_rfl) (by kernel_rfl) (by kernel_rfl) (by kernel_rfl) (fun _ _ _ h => h) (Or.inl ⟨by rfl, ?_⟩) hHeld ?_
                rotate_left
                · (intro w hSw; obtain ⟨z0, z1, z2, z3, z4, z5, z6, z7, z8, z9, z10, z11, z12, z13, z14, z15, z16, z17, z18⟩ := hSw; go_simp; try with_reducible rfl)
                try simp only [Act.put, List.setIfInBounds_toArray, List.set_cons_zero, List.set_cons_succ]
                refine take_putH (i := 10) (v := ?_) (some 171) rfl (by kernel_rfl) (by kernel_rfl) (by kernel_rfl) (by kernel_rfl) (fun _ _ _ h => h) (Or.inl ⟨by rfl, ?_⟩) hHeld ?_
                rotate_left
                · (intro w hSw; obtain ⟨z0, z1, z2, z3, z4, z5, z6, z7, z8, z9, z10, z11, z12, z13, z14, z15, z16, z17, z18⟩ := hSw; go_simp; try with_reducible rfl)
                try simp only [Act.put, List.setIfInBounds_toArray, List.set_cons_zero, List.set_cons_succ]
                refine take_putH (i := 11) (v := ?_) (some 172) rfl (by kernel_rfl) (by kernel_rfl) (by kernel_rfl) (by kernel_rfl) (fun _ _ _ h => h) (Or.inl ⟨by rfl, ?_⟩) hHeld ?_
                rotate_left
                · (intro w hSw; obtain ⟨z0, z1, z2, z3, z4, z5, z6, z7, z8, z9, z10, z11, z12, z13, z14, z15, z16, z17, z18⟩ := hSw; go_simp; try with_reducible rfl)
                try simp only [Act.put, List.setIfInBounds_toArray, List.set_cons_zero, List.set_cons_succ]
                refine wpAnyH_ready (rs := [12]) (by kernel_rfl) (by simp) ?_
                refine AllReadyH.cons rfl (fun K hK => ?_) AllReadyH.nil
                go_simp
                refine (ref_Same13 ⟨zk, zp, zs, zn, zf, zt, zl, zit⟩ za zsn zsc zi zim zic ta tn tc ja jm jc wg HPZ.out HPY.out).mono ?_
                rintro e w6 ⟨rfl, hb6⟩
                have HB56 : Hid (Below w5.heap.size w5 w6) := HBg.out.trans (hb6.mono HBg.out.size)
                have HST6 : Hid (St w6 B m3) := HSTg.out.stay hb6
                have HBW6 : Hid (Below B w w6) := HBWg.out.trans (hb6.mono HSTg.out.bs)
                have hS6 : Hid (w6.cell? ⟨px, 0, none⟩ = some (.int .i64 zk) ∧ w6.cell? ⟨px, 1, none⟩ = some (.int .i64 zp) ∧ w6.cell? ⟨px, 2, none⟩ = some (.int .i64 zs) ∧ w6.cell? ⟨px, 3, none⟩ = some (.int .i64 zn) ∧ w6.cell? ⟨px, 4, none⟩ = some (.int .i64 zf) ∧ w6.cell? ⟨px, 5, none⟩ = some (.int .i64 zt) ∧ w6.cell? ⟨px, 6, none⟩ = some (.slice za zsn zsc) ∧ w6.cell? ⟨px, 7, none⟩ = some (.slice zi zim zic) ∧ w6.cell? ⟨ga, j * 12 + 3, none⟩ = some (.int .i64 zk) ∧ w6.cell? ⟨ga, j * 12 + 4, none⟩ = some (.int .i64 zp) ∧ w6.cell? ⟨ga, j * 12 + 5, none⟩ = some (.int .i64 zs) ∧ w6.cell? ⟨ga, j * 12 + 6, none⟩ = some (.int .i64 zn) ∧ w6.cell? ⟨ga, j * 12 + 7, none⟩ = some (.int .i64 zf) ∧ w6.cell? ⟨ga, j * 12 + 8, none⟩ = some (.int .i64 zt) ∧ w6.cell? ⟨ga, j * 12 + 9, none⟩ = some (.slice ta tn tc) ∧ w6.cell? ⟨ga, j * 12 + 10, none⟩ = some (.slice ja jm jc) ∧ w6.cell? ⟨ga, j * 12 + 11, none⟩ = some (.bool false) ∧ w6.cell? ⟨ga, j * 12 + 2, none⟩ = some (.int .i64 (flf : Int)) ∧ w6.cell? ⟨bK, kt, none⟩ = some (.int .i64 (kn : Int))) := HS3.out w6 HB56.out
                clear hb6 hHeld
                refine hK.out _ _ hS6.out (fun hzz => ?_)
                clear hzz hK K
                try simp only [Act.put, List.getElem_toArray, List.getElem_cons_succ, List.getElem_cons_zero, List.setIfInBounds_toArray, List.set_cons_zero, List.set_cons_succ]
                refine take_putH (i := 13) (v := ?_) (some 174) rfl (by kernel_rfl) (by kernel_rfl) (by kernel_rfl) (by kernel_rfl) (fun _ _ _ h => h) (Or.inl ⟨by rfl, ?_⟩) hS6.out ?_
                rotate_left
                · (intro w hSw; obtain ⟨z0, z1, z2, z3, z4, z5, z6, z7, z8, z9, z10, z11, z12, z13, z14, z15, z16, z17, z18⟩ := hSw; go_simp; try with_reducible rfl)
                try simp only [Act.put, List.setIfInBounds_toArray, List.set_cons_zero, List.set_cons_succ]
                refine take_putH (i := 14) (v := ?_) (some 175) rfl (by kernel_rfl) (by kernel_rfl) (by kernel_rfl) (by kernel_rfl) (fun _ _ _ h => h) (Or.inl ⟨by rfl, ?_⟩) hS6.out ?_
                rotate_left
                · (intro w hSw; obtain ⟨z0, z1, z2, z3, z4, z5, z6, z7, z8, z9, z10, z11, z12, z13, z14, z15, z16, z17, z18⟩ := hSw; go_simp; try with_reducible rfl)
                try simp only [Act.put, List.setIfInBounds_toArray, List.set_cons_zero, List.set_cons_succ]
                refine take_putH (i := 15) (v := ?_) (some 176) rfl (by kernel_rfl) (by kernel_rfl) (by kernel_rfl) (by kernel_rfl) (fun _ _ _ h => h) (Or.inl ⟨by rfl, ?_⟩) hS6.out ?_
                rotate_left
                · (intro w hSw; obtain ⟨z0, z1, z2, z3, z4, z5, z6, z7, z8, z9, z10, z11, z12, z13, z14, z15, z16, z17, z18⟩ := hSw; go_simp; try with_reducible rfl)
                try simp only [Act.put, List.setIfInBounds_toArray, List.set_cons_zero, List.set_cons_succ]
                refine take_putH (i := 16) (v := ?_) (some 177) rfl (by kernel_rfl) (by kernel_rfl) (by kernel_rfl) (by kernel_rfl) (fun _ _ _ h => h) (Or.inl ⟨by rfl, ?_⟩) hS6.out ?_
                rotate_left
                · (intro w hSw; obtain ⟨z0, z1, z2, z3, z4, z5, z6, z7, z8, z9, z10, z11, z12, z13, z14, z15, z16, z17, z18⟩ := hSw; go_simp; try with_reducible rfl)
                try simp only [Act.put, List.setIfInBounds_toArray, List.set_cons_zero, List.set_cons_succ]
                refine take_putH (i := 17) (v := ?_) (some 178) rfl (by kernel_rfl) (by kernel_rfl) (by kernel_rfl) (by kernel_rfl) (fun _ _ _ h => h) (Or.inl ⟨by rfl, ?_⟩) hS6.out ?_
                rotate_left
                · (intro w hSw; obtain ⟨z0, z1, z2, z3, z4, z5, z6, z7, z8, z9, z10, z11, z12, z13, z14, z15, z16, z17, z18⟩ := hSw; go_simp; try with_reducible rfl)
                try simp only [Act.put, List.setIfInBounds_toArray, List.set_cons_zero, List.set_cons_succ]
                refine take_putH (i := 18) (v := ?_) (some 179) rfl (by kernel_rfl) (by kernel_rfl) (by kernel_rfl) (by kernel_rfl) (fun _ _ _ h => h) (Or.inl ⟨by rfl, ?_⟩) hS6.out ?_
                rotate_left
                · (intro w hSw; obtain ⟨z0, z1, z2, z3, z4, z5, z6, z7, z8, z9, z10, z11, z12, z13, z14, z15, z16, z17, z18⟩ := hSw; go_simp; try with_reducible rfl)
                try simp only [Act.put, List.setIfInBounds_toArray, List.set_cons_zero, List.set_cons_succ]
                refine take_putH (i := 19) (v := ?_) (some 180) rfl (by kernel_rfl) (by kernel_rfl) (by kernel_rfl) (by kernel_rfl) (fun _ _ _ h => h) (Or.inl ⟨by rfl, ?_⟩) hS6.out ?_
                rotate_left
                · (intro w hSw; obtain ⟨z0, z1, z2, z3, z4, z5, z6, z7, z8, z9, z10, z11, z12, z13, z14, z15, z16, z17, z18⟩ := hSw; go_simp; try with_reducible rfl)
                try simp only [Act.put, List.setIfInBounds_toArray, List.set_cons_zero, List.set_cons_succ]
                refine take_putH (i := 20) (v := ?_) (some 181) rfl (by kernel_rfl) (by kernel_rfl) (by kernel_rfl) (by kernel_rfl) (fun _ _ _ h => h) (Or.inl ⟨by rfl, ?_⟩) hS6.out ?_
                rotate_left
                · (intro w hSw; obtain ⟨z0, z1, z2, z3, z4, z5, z6, z7, z8, z9, z10, z11, z12, z13, z14, z15, z16, z17, z18⟩ := hSw; go_simp; try with_reducible rfl)
                try simp only [Act.put, List.setIfInBounds_toArray, List.set_cons_zero, List.set_cons_succ]
                refine take_putH (i := 21) (v := ?_) (some 182) rfl (by kernel_rfl) (by kernel_rfl) (by kernel_rfl) (by kernel_rfl) (fun _ _ _ h => h) (Or.inl ⟨by rfl, ?_⟩) hS6.out ?_
                rotate_left
                · (intro w hSw; obtain ⟨z0, z1, z2, z3, z4, z5, z6, z7, z8, z9, z10, z11, z12, z13, z14, z15, z16, z17, z18⟩ := hSw; go_simp; try with_reducible rfl)
                try simp only [Act.put, List.setIfInBounds_toArray, List.set_cons_zero, List.set_cons_succ]
                refine take_putH (i := 22) (v := ?_) (some 183) rfl (by kernel_rfl) (by kernel_rfl) (by kernel_rfl) (by kernel_rfl) (fun _ _ _ h => h) (Or.inl ⟨by rfl, ?_⟩) hS6.out ?_
                rotate_left
                · (intro w hSw; obtain ⟨z0, z1, z2, z3, z4, z5, z6, z7, z8, z9, z10, z11, z12, z13, z14, z15, z16, z17, z18⟩ := hSw; go_simp; try with_reducible rfl)
                try simp only [Act.put, List.setIfInBounds_toArray, List.set_cons_zero, List.set_cons_succ]
                refine take_putH (i := 23) (v := ?_) (some 184) rfl (by kernel_rfl) (by kernel_rfl) (by kernel_rfl) (by kernel_rfl) (fun _ _ _ h => h) (Or.inl ⟨by rfl, ?_⟩) hS6.out ?_
                rotate_left
                · (intro w hSw; obtain ⟨z0, z1, z2, z3, z4, z5, z6, z7, z8, z9, z10, z11, z12, z13, z14, z15, z16, z17, z18⟩ := hSw; go_simp; try with_reducible rfl)
                try simp only [Act.put, List.setIfInBounds_toArray, List.set_cons_zero, List.set_cons_succ]
                refine take_putH (i := 24) (v := ?_) (some 185) rfl (by kernel_rfl) (by kernel_rfl) (by kernel_rfl) (by kernel_rfl) (fun _ _ _ h => h) (Or.inl ⟨by rfl, ?_⟩) hS6.out ?_
                rotate_left
                · (intro w hSw; obtain ⟨z0, z1, z2, z3, z4, z5, z6, z7, z8, z9, z10, z11, z12, z13, z14, z15, z16, z17, z18⟩ := hSw; go_simp; try with_reducible rfl)
                try simp only [Act.put, List.setIfInBounds_toArray, List.set_cons_zero, List.set_cons_succ]
                refine take_putH (i := 25) (v := ?_) (some 186) rfl (by kernel_rfl) (by kernel_rfl) (by kernel_rfl) (by kernel_rfl) (fun _ _ _ h => h) (Or.inl ⟨by rfl, ?_⟩) hS6.out ?_
                rotate_left
                · (intro w hSw; obtain ⟨z0, z1, z2, z3, z4, z5, z6, z7, z8, z9, z10, z11, z12, z13, z14, z15, z16, z17, z18⟩ := hSw; go_simp; try with_reducible rfl)
                try simp only [Act.put, List.setIfInBounds_toArray, List.set_cons_zero, List.set_cons_succ]
                refine take_putH (i := 26) (v := ?_) (some 187) rfl (by kernel_rfl) (by kernel_rfl) (by kernel_rfl) (by kernel_rfl) (fun _ _ _ h => h) (Or.inl ⟨by rfl, ?_⟩) hS6.out ?_
                rotate_left
                · (intro w hSw; obtain ⟨z0, z1, z2, z3, z4, z5, z6, z7, z8, z9, z10, z11, z12, z13, z14, z15, z16, z17, z18⟩ := hSw; go_simp; try with_reducible rfl)
                try simp only [Act.put, List.setIfInBounds_toArray, List.set_cons_zero, List.set_cons_succ]
                refine take_putH (i := 27) (v := ?_) (some 188) rfl (by kernel_rfl) (by kernel_rfl) (by kernel_rfl) (by kernel_rfl) (fun _ _ _ h => h) (Or.inl ⟨by rfl, ?_⟩) hS6.out ?_
                rotate_left
                · (intro w hSw; obtain ⟨z0, z1, z2, z3, z4, z5, z6, z7, z8, z9, z10, z11, z12, z13, z14, z15, z16, z17, z18⟩ := hSw; go_simp; try with_reducible rfl)
                try simp only [Act.put, List.setIfInBounds_toArray, List.set_cons_zero, List.set_cons_succ]
                refine take_putH (i := 28) (v := ?_) (some 189) rfl (by kernel_rfl) (by kernel_rfl) (by kernel_rfl) (by kernel_rfl) (fun _ _ _ h => h) (Or.inl ⟨by rfl, ?_⟩) hS6.out ?_
                rotate_left
                · (intro w hSw; obtain ⟨z0, z1, z2, z3, z4, z5, z6, z7, z8, z9, z10, z11, z12, z13, z14, z15, z16, z17, z18⟩ := hSw; go_simp; try with_reducible rfl)
                try simp only [Act.put, List.setIfInBounds_toArray, List.set_cons_zero, List.set_cons_succ]
                refine take_putH (i := 29) (v := ?_) (some 190) rfl (by kernel_rfl) (by kernel_rfl) (by kernel_rfl) (by kernel_rfl) (fun _ _ _ h => h) (Or.inl ⟨by rfl, ?_⟩) hS6.out ?_
                rotate_left
                · (intro w hSw; obtain ⟨z0, z1, z2, z3, z4, z5, z6, z7, z8, z9, z10, z11, z12, z13, z14, z15, z16, z17, z18⟩ := hSw; go_simp; try with_reducible rfl)
                try simp only [Act.put, List.setIfInBounds_toArray, List.set_cons_zero, List.set_cons_succ]
                refine take_putH (i := 30) (v := ?_) (some 191) rfl (by kernel_rfl) (by kernel_rfl) (by kernel_rfl) (by kernel_rfl) (fun _ _ _ h => h) (Or.inl ⟨by rfl, ?_⟩) hS6.out ?_
                rotate_left
                · (intro w hSw; obtain ⟨z0, z1, z2, z3, z4, z5, z6, z7, z8, z9, z10, z11, z12, z13, z14, z15, z16, z17, z18⟩ := hSw; go_simp; try with_reducible rfl)
                try simp only [Act.put, List.setIfInBounds_toArray, List.set_cons_zero, List.set_cons_succ]
                refine take_putH (i := 31) (v := ?_) (some 192) rfl (by kernel_rfl) (by kernel_rfl) (by kernel_rfl) (by kernel_rfl) (fun _ _ _ h => h) (Or.inl ⟨by rfl, ?_⟩) hS6.out ?_
                rotate_left
                · (intro w hSw; obtain ⟨z0, z1, z2, z3, z4, z5, z6, z7, z8, z9, z10, z11, z12, z13, z14, z15, z16, z17, z18⟩ := hSw; go_simp; try with_reducible rfl)
                try simp only [Act.put, List.setIfInBounds_toArray, List.set_cons_zero, List.set_cons_succ]
                refine wpAnyH_done (by kernel_rfl) ?_ _
                have cd : w6.cell? ⟨ga, j * 12 + 11, none⟩ = some (.bool false) := hS6.out.2.2.2.2.2.2.2.2.2.2.2.2.2.2.2.2.1
                have fd : ∀ i, w6.frozen? ⟨ga, i, none⟩ = false := fun i => HST6.out.afree (c := ac) (by rw [HE3.out.2.2.1, HE3.out.2.2.2.1]; exact HGV.out) i
                obtain ⟨w7, HW7⟩ : ∃ w7, Hid (w7 = w6.setCell ⟨ga, j * 12 + 11, none⟩ (.bool true)) := ⟨_, rfl⟩
                obtain ⟨m7, HM7⟩ : ∃ m7 : Mem, Hid (m7 = ({ m3 with A := m3.A.set j ⟨fba, fbn, fbc, ffr, flf, fot, fnu, fsr, ⟨⟨zk, zp, zs, zn, zf, zt, zl, zit⟩, ta, tn, tc, ja, jm, jc⟩, true⟩ } : Mem)) := ⟨_, rfl⟩
                have HST7 : Hid (St w7 B m7) := by
                  have h5 := HST6.out.done (c := ac) (j := j) (f := ⟨fba, fbn, fbc, ffr, flf, fot, fnu, fsr, ⟨⟨zk, zp, zs, zn, zf, zt, zl, zit⟩, ta, tn, tc, ja, jm, jc⟩, false⟩) (by rw [HE3.out.2.2.1, HE3.out.2.2.2.1]; exact HGV.out) (by rw [HE3.out.2.2.2.1]; exact HFJ.out) true
                  rw [HW7.out, HM7.out]
                  exact h5
                have HBW7 : Hid (Below B w w7) := by rw [HW7.out]; exact HBW6.out.setCell (by have h5 := (HST.out.a.lt ga (by rw [HGV.out]; rfl)).1; exact h5) _
                have HJL : Hid (j < m.A.length) := (List.getElem?_eq_some_iff.1 HFJ.out).1
                clear hS6
                obtain ⟨wh, HWH⟩ : ∃ wh, Hid (wh = w7.drew) := ⟨_, rfl⟩
                have HBh : Hid (Below w7.heap.size w7 wh) := by rw [HWH.out]; exact below_drew (Below.refl _ _)
                have HSTh : Hid (St wh B m7) := HST7.out.stay HBh.out
                have HBWh : Hid (Below B w wh) := HBW7.out.trans (HBh.out.mono HST7.out.bs)
                have HEh : Hid (m7.bK = bK ∧ m7.kn = m.kn ∧ m7.av = m.av ∧ m7.A.length = m.A.length ∧ m7.A[j]? = some ⟨fba, fbn, fbc, ffr, flf, fot, fnu, fsr, ⟨⟨zk, zp, zs, zn, zf, zt, zl, zit⟩, ta, tn, tc, ja, jm, jc⟩, true⟩) := by have h6 := HM7.out; subst h6; exact ⟨HE3.out.2.2.2.2.1, HE3.out.2.2.2.2.2.1, HE3.out.2.2.1, by rw [List.length_set, HE3.out.2.2.2.1], by rw [List.getElem?_set_self (by rw [HE3.out.2.2.2.1]; exact HJL.out)]⟩
                have HKC : Hid (wh.cell? ⟨bK, kt, none⟩ = some (.int .i64 (kn : Int))) := by
                  have h5 := HSTh.out.cK (!ffr)
                  rw [HEh.out.1, HEh.out.2.1, ← HKT.out, ← HKN.out] at h5
                  exact h5
                have HKF : Hid (∀ i, wh.frozen? ⟨bK, i, none⟩ = false) := fun i => by have h5 := HSTh.out.kk.free i; rw [HEh.out.1] at h5; exact h5
                have HS4 : Hid (wh.cell? ⟨ga, j * 12 + 2, none⟩ = some (.int .i64 (flf : Int)) ∧ wh.cell? ⟨ga, j * 12, none⟩ = some (.slice fba fbn fbc)) := ⟨HAC.out wh m7 HSTh.out HEh.out.2.2.1 HEh.out.2.2.2.1 _ HEh.out.2.2.2.2 2 _ rfl, HAC.out wh m7 HSTh.out HEh.out.2.2.1 HEh.out.2.2.2.1 _ HEh.out.2.2.2.2 0 _ rfl⟩
                obtain ⟨m9, HM9⟩ : ∃ m9 : Mem, Hid (m9 = ({ m7 with kn := upd m7.kn (!ffr) (max kn flf) } : Mem)) := ⟨_, rfl⟩
                have HCM : Hid (((max kn flf : Nat) : Int) = max (kn : Int) (flf : Int)) := by show _ = _; omega
                obtain ⟨mx, HMX⟩ : ∃ mx : Int, Hid (mx = max (kn : Int) (flf : Int)) := ⟨_, rfl⟩
                have HST9 : Hid (St (wh.setCell ⟨bK, kt, none⟩ (.int .i64 (max (kn : Int) (flf : Int)))) B m9) := by
                  have h5 := HSTh.out.setK (!ffr) (max kn flf)
                  rw [show (⟨m7.bK, (!ffr).toNat, none⟩ : Addr) = ⟨bK, kt, none⟩ from by rw [HEh.out.1, ← HKT.out], HCM.out] at h5
                  rw [HM9.out]
                  exact h5
                have HBW9 : Hid (Below B w (wh.setCell ⟨bK, kt, none⟩ (.int .i64 (max (kn : Int) (flf : Int))))) := HBWh.out.setCell (by have h5 := HST.out.lo.2.2.2; rw [HBL.out.2.2.2] at h5; exact h5) _
                have HS49 : Hid ((wh.setCell ⟨bK, kt, none⟩ (.int .i64 (max (kn : Int) (flf : Int)))).cell? ⟨ga, j * 12 + 2, none⟩ = some (.int .i64 (flf : Int)) ∧ (wh.setCell ⟨bK, kt, none⟩ (.int .i64 (max (kn : Int) (flf : Int)))).cell? ⟨ga, j * 12, none⟩ = some (.slice fba fbn fbc)) := ⟨HAC.out _ m9 HST9.out (by rw [HM9.out]; exact HEh.out.2.2.1) (by rw [HM9.out]; exact HEh.out.2.2.2.1) _ (by rw [HM9.out]; exact HEh.out.2.2.2.2) 2 _ rfl, HAC.out _ m9 HST9.out (by rw [HM9.out]; exact HEh.out.2.2.1) (by rw [HM9.out]; exact HEh.out.2.2.2.1) _ (by rw [HM9.out]; exact HEh.out.2.2.2.2) 0 _ rfl⟩
                have HGD9 : Hid (Good m9 (upd gr (!ffr) gr') (i + 1)) := HMK.out.2.2 l' true m9 HLP.out.1 HLP.out.2.1 HLP.out.2.2.1 (HLP.out.2.2.2.1 _ _ HMK.out.1) HLP.out.2.2.2.2 (fun _ => .inr HAC0.out) (by have h5 := HM9.out; have h6 := HM3.out; have h7 := HM7.out; subst h6; subst h7; subst h5; rfl) (by have h5 := HM9.out; have h6 := HM3.out; have h7 := HM7.out; subst h6; subst h7; subst h5; rfl) (by have h5 := HM9.out; have h6 := HM3.out; have h7 := HM7.out; subst h6; subst h7; subst h5; rw [HKN.out]) (by have h5 := HM9.out; have h6 := HM3.out; have h7 := HM7.out; subst h6; subst h7; subst h5; rfl) (by have h5 := HM9.out; have h6 := HM3.out; have h7 := HM7.out; subst h6; subst h7; subst h5; rfl) (by have h5 := HM9.out; have h6 := HM3.out; have h7 := HM7.out; subst h6; subst h7; subst h5; rfl) 
                have HBL9 : Hid (m9.av = .slice (some ⟨ga, 0, none⟩) nA ac ∧ (m9.bE = bE ∧ m9.bV = bV ∧ m9.bW = bW ∧ m9.bK = bK)) := by have h5 := HM9.out; have h6 := HM3.out; have h7 := HM7.out; subst h6; subst h7; subst h5; exact ⟨by rw [← HAV.out], HBL.out⟩
                go_wp2_with fail
                rw [← HW7.out]
                clear cd fd
                refine wp_region_held_drew (S := fun w' => w'.cell? ⟨ga, j * 12 + 2, none⟩ = some (.int .i64 (flf : Int)) ∧ w'.cell? ⟨ga, j * 12, none⟩ = some (.slice fba fbn fbc)) (by kernel_rfl) (by rw [← HWH.out]; exact HS4.out) (fun hHeld => ?_)
                rw [← HWH.out] at hHeld ⊢
                refine take_putH (i := 0) (v := ?_) (some 197) rfl (by kernel_rfl) (by kernel_rfl) (by kernel_rfl) (by kernel_rfl) (fun _ _ _ h => h) (Or.inl ⟨by rfl, ?_⟩) hHeld ?_
                rotate_left
                · (intro w hSw; obtain ⟨z0, z1⟩ := hSw; go_simp; try with_reducible rfl)
                try simp only [Act.put, List.setIfInBounds_toArray, List.set_cons_zero, List.set_cons_succ]
                refine take_putH (i := 1) (v := ?_) (some 198) rfl (by kernel_rfl) (by kernel_rfl) (by kernel_rfl) (by kernel_rfl) (fun _ _ _ h => h) (Or.inl ⟨by rfl, ?_⟩) hHeld ?_
                rotate_left
                · (intro w hSw; obtain ⟨z0, z1⟩ := hSw; go_simp; try with_reducible rfl)
                try simp only [Act.put, List.setIfInBounds_toArray, List.set_cons_zero, List.set_cons_succ]
                refine take_putH (i := 2) (v := ?_) (some 199) rfl (by kernel_rfl) (by kernel_rfl) (by kernel_rfl) (by kernel_rfl) (fun _ _ _ h => h) (Or.inl ⟨by rfl, ?_⟩) hHeld ?_
                rotate_left
                · (intro w hSw; obtain ⟨z0, z1⟩ := hSw; go_simp; try with_reducible rfl)
                try simp only [Act.put, List.setIfInBounds_toArray, List.set_cons_zero, List.set_cons_succ]
                refine take_putH (i := 4) (v := ?_) (some 201) rfl (by kernel_rfl) (by kernel_rfl) (by kernel_rfl) (by kernel_rfl) (fun _ _ _ h => h) (Or.inl ⟨by rfl, ?_⟩) hHeld ?_
                rotate_left
                · (intro w hSw; obtain ⟨z0, z1⟩ := hSw; go_simp; try with_reducible rfl)
                try simp only [Act.put, List.setIfInBounds_toArray, List.set_cons_zero, List.set_cons_succ]
                refine take_putH (i := 5) (v := ?_) (some 202) rfl (by kernel_rfl) (by kernel_rfl) (by kernel_rfl) (by kernel_rfl) (fun _ _ _ h => h) (Or.inl ⟨by rfl, ?_⟩) hHeld ?_
                rotate_left
                · (intro w hSw; obtain ⟨z0, z1⟩ := hSw; go_simp; try with_reducible rfl)
                try simp only [Act.put, List.setIfInBounds_toArray, List.set_cons_zero, List.set_cons_succ]
                refine take_putH (i := 6) (v := ?_) (some 203) rfl (by kernel_rfl) (by kernel_rfl) (by kernel_rfl) (by kernel_rfl) (fun _ _ _ h => h) (Or.inl ⟨by rfl, ?_⟩) hHeld ?_
                rotate_left
                · (intro w hSw; obtain ⟨z0, z1⟩ := hSw; go_simp; try with_reducible rfl)
                try simp only [Act.put, List.setIfInBounds_toArray, List.set_cons_zero, List.set_cons_succ]
                refine take_putH (i := 7) (v := ?_) (some 204) rfl (by kernel_rfl) (by kernel_rfl) (by kernel_rfl) (by kernel_rfl) (fun _ _ _ h => h) (Or.inl ⟨by rfl, ?_⟩) hHeld ?_
                rotate_left
                · (intro w hSw; obtain ⟨z0, z1⟩ := hSw; go_simp; try with_reducible rfl)
                try simp only [Act.put, List.setIfInBounds_toArray, List.set_cons_zero, List.set_cons_succ]
                refine wpAnyH_ready (rs := [3]) (by kernel_rfl) (by simp) ?_
                refine AllReadyH.cons rfl (fun K hK => ?_) AllReadyH.nil
                have cl := HKC.out
                go_simp
                clear cl
                clear hHeld
                refine hK.out _ _ HS4.out (fun hzz => ?_)
                clear hzz hK K
                try simp only [Act.put, List.getElem_toArray, List.getElem_cons_succ, List.getElem_cons_zero, List.setIfInBounds_toArray, List.set_cons_zero, List.set_cons_succ]
                refine take_putH (i := 8) (v := ?_) (some 205) rfl (by kernel_rfl) (by kernel_rfl) (by kernel_rfl) (by kernel_rfl) (fun _ _ _ h => h) (Or.inl ⟨by rfl, ?_⟩) HS4.out ?_
                rotate_left
                · (intro w hSw; obtain ⟨z0, z1⟩ := hSw; go_simp; try with_reducible rfl)
                try simp only [Act.put, List.setIfInBounds_toArray, List.set_cons_zero, List.set_cons_succ]
                refine take_putH (i := 9) (v := ?_) (some 206) rfl (by kernel_rfl) (by kernel_rfl) (by kernel_rfl) (by kernel_rfl) (fun _ _ _ h => h) (Or.inl ⟨by rfl, ?_⟩) HS4.out ?_
                rotate_left
                · (intro w hSw; obtain ⟨z0, z1⟩ := hSw; go_simp; try with_reducible rfl)
                try simp only [Act.put, List.setIfInBounds_toArray, List.set_cons_zero, List.set_cons_succ]
                have cl := HKC.out
                have fl := HKF.out
                refine wpAnyH_ready (rs := [10]) (by kernel_rfl) (by simp) ?_
                refine AllReadyH.cons rfl (fun K hK => ?_) AllReadyH.nil
                go_simp
                clear cl fl
                refine hK.out _ _ HS49.out (fun hzz => ?_)
                clear hzz hK K
                try simp only [Act.put, List.getElem_toArray, List.getElem_cons_succ, List.getElem_cons_zero, List.setIfInBounds_toArray, List.set_cons_zero, List.set_cons_succ]
                refine wpAnyH_done (by kernel_rfl) ?_ _
                go_wp2
                go_roundw
                case rel => exact ⟨i + 1, m9, upd gr (!ffr) gr', by omega, by omega, by go_num, HBL9.out.1.symm, HST9, HGD9, HBL9.out.2, HBW9⟩
                case measure => simp [intOf]; omega
            · as_aux_lemma =>
                subst hok
                have hrb : (r == 0) = false := by simp [hr]
                refine wp_region_held_drew (S := fun w' => w'.cell? ⟨bE, kt, none⟩ = some (.pointer (some ⟨gt, 0, none⟩)) ∧ w'.cell? ⟨ga, j * 12, none⟩ = some (.slice fba fbn fbc)) (by kernel_rfl) (by rw [← HWG.out]; exact HSF2.out wg m3 HSTg.out HE3.out.1 HE3.out.2.1 HE3.out.2.2.1 HE3.out.2.2.2.1) (fun hHeld => ?_)
                rw [← HWG.out] at hHeld ⊢
                refine take_putH (i := 0) (v := ?_) (some 161) rfl (by kernel_rfl) (by kernel_rfl) (by kernel_rfl) (by kernel_rfl) (fun _ _ _ h => h) (Or.inl ⟨by rfl, ?_⟩) hHeld ?_
                rotate_left
                · (intro w hSw; obtain ⟨z0, z1⟩ := hSw; go_simp; try with_reducible rfl)
                try simp only [Act.put, List.setIfInBounds_toArray, List.set_cons_zero, List.set_cons_succ]
                refine take_putH (i := 1) (v := ?_) (some 162) rfl (by kernel_rfl) (by kernel_rfl) (by kernel_rfl) (by kernel_rfl) (fun _ _ _ h => h) (Or.inl ⟨by rfl, ?_⟩) hHeld ?_
                rotate_left
                · (intro w hSw; obtain ⟨z0, z1⟩ := hSw; go_simp; try with_reducible rfl)
                try simp only [Act.put, List.setIfInBounds_toArray, List.set_cons_zero, List.set_cons_succ]
                refine take_putH (i := 2) (v := ?_) (some 163) rfl (by kernel_rfl) (by kernel_rfl) (by kernel_rfl) (by kernel_rfl) (fun _ _ _ h => h) (Or.inl ⟨by rfl, ?_⟩) hHeld ?_
                rotate_left
                · (intro w hSw; obtain ⟨z0, z1⟩ := hSw; go_simp; try with_reducible rfl)
                try simp only [Act.put, List.setIfInBounds_toArray, List.set_cons_zero, List.set_cons_succ]
                refine take_putH (i := 3) (v := ?_) (some 164) rfl (by kernel_rfl) (by kernel_rfl) (by kernel_rfl) (by kernel_rfl) (fun _ _ _ h => h) (Or.inl ⟨by rfl, ?_⟩) hHeld ?_
                rotate_left
                · (intro w hSw; obtain ⟨z0, z1⟩ := hSw; go_simp; try with_reducible rfl)
                try simp only [Act.put, List.setIfInBounds_toArray, List.set_cons_zero, List.set_cons_succ]
                refine take_putH (i := 4) (v := ?_) (some 165) rfl (by kernel_rfl) (by kernel_rfl) (by kernel_rfl) (by kernel_rfl) (fun _ _ _ h => h) (Or.inl ⟨by rfl, ?_⟩) hHeld ?_
                rotate_left
                · (intro w hSw; obtain ⟨z0, z1⟩ := hSw; go_simp; try with_reducible rfl)
                try simp only [Act.put, List.setIfInBounds_toArray, List.set_cons_zero, List.set_cons_succ]
                refine take_putH (i := 5) (v := ?_) (some 166) rfl (by kernel_rfl) (by kernel_rfl) (by kernel_rfl) (by kernel_rfl) (fun _ _ _ h => h) (Or.inl ⟨by rfl, ?_⟩) hHeld ?_
                rotate_left
                · (intro w hSw; obtain ⟨z0, z1⟩ := hSw; go_simp; try with_reducible rfl)
                try simp only [Act.put, List.setIfInBounds_toArray, List.set_cons_zero, List.set_cons_succ]
                refine take_putH (i := 6) (v := ?_) (some 167) rfl (by kernel_rfl) (by kernel_rfl) (by kernel_rfl) (by kernel_rfl) (fun _ _ _ h => h) (Or.inl ⟨by rfl, ?_⟩) hHeld ?_
                rotate_left
                · (intro w hSw; obtain ⟨z0, z1⟩ := hSw; go_simp; try with_reducible rfl)
                try simp only [Act.put, List.setIfInBounds_toArray, List.set_cons_zero, List.set_cons_succ]
                refine take_putH (i := 7) (v := undef) (some 168) rfl (by kernel_rfl) (by kernel_rfl) (by kernel_rfl) (by kernel_rfl) (fun _ _ _ h => h) (Or.inr ⟨by rfl, rfl⟩) hHeld ?_
                try simp only [Act.put, List.setIfInBounds_toArray, List.set_cons_zero, List.set_cons_succ]
                refine take_putH (i := 8) (v := undef) (some 169) rfl (by kernel_rfl) (by kernel_rfl) (by kernel_rfl) (by kernel_rfl) (fun _ _ _ h => h) (Or.inr ⟨by rfl, rfl⟩) hHeld ?_
                try simp only [Act.put, List.setIfInBounds_toArray, List.set_cons_zero, List.set_cons_succ]
                refine take_putH (i := 9) (v := undef) (some 170) rfl (by kernel_rfl) (by kernel_rfl) (by kernel_rfl) (by kernel_rfl) (fun _ _ _ h => h) (Or.inr ⟨by rfl, rfl⟩) hHeld ?_
                try simp only [Act.put, List.setIfInBounds_toArray, List.set_cons_zero, List.set_cons_succ]
                refine take_putH (i := 10) (v := undef) (some 171) rfl (by kernel_rfl) (by kernel_rfl) (by kernel_rfl) (by kernel_rfl) (fun _ _ _ h => h) (Or.inr ⟨by rfl, rfl⟩) hHeld ?_
                try simp only [Act.put, List.setIfInBounds_toArray, List.set_cons_zero, List.set_cons_succ]
                refine take_putH (i := 11) (v := undef) (some 172) rfl (by kernel_rfl) (by kernel_rfl) (by kernel_rfl) (by kernel_rfl) (fun _ _ _ h => h) (Or.inr ⟨by rfl, rfl⟩) hHeld ?_
                try simp only [Act.put, List.setIfInBounds_toArray, List.set_cons_zero, List.set_cons_succ]
                refine take_putH (i := 12) (v := undef) (some 173) rfl (by kernel_rfl) (by kernel_rfl) (by kernel_rfl) (by kernel_rfl) (fun _ _ _ h => h) (Or.inr ⟨by rfl, rfl⟩) hHeld ?_
                try simp only [Act.put, List.setIfInBounds_toArray, List.set_cons_zero, List.set_cons_succ]
                refine take_putH (i := 13) (v := undef) (some 174) rfl (by kernel_rfl) (by kernel_rfl) (by kernel_rfl) (by kernel_rfl) (fun _ _ _ h => h) (Or.inr ⟨by rfl, rfl⟩) hHeld ?_
                try simp only [Act.put, List.setIfInBounds_toArray, List.set_cons_zero, List.set_cons_succ]
                refine take_putH (i := 14) (v := undef) (some 175) rfl (by kernel_rfl) (by kernel_rfl) (by kernel_rfl) (by kernel_rfl) (fun _ _ _ h => h) (Or.inr ⟨by rfl, rfl⟩) hHeld ?_
                try simp only [Act.put, List.setIfInBounds_toArray, List.set_cons_zero, List.set_cons_succ]
                refine take_putH (i := 15) (v := undef) (some 176) rfl (by kernel_rfl) (by kernel_rfl) (by kernel_rfl) (by kernel_rfl) (fun _ _ _ h => h) (Or.inr ⟨by rfl, rfl⟩) hHeld ?_
                try simp only [Act.put, List.setIfInBounds_toArray, List.set_cons_zero, List.set_cons_succ]
                refine take_putH (i := 16) (v := undef) (some 177) rfl (by kernel_rfl) (by kernel_rfl) (by kernel_rfl) (by kernel_rfl) (fun _ _ _ h => h) (Or.inr ⟨by rfl, rfl⟩) hHeld ?_
                try simp only [Act.put, List.setIfInBounds_toArray, List.set_cons_zero, List.set_cons_succ]
                refine take_putH (i := 17) (v := undef) (some 178) rfl (by kernel_rfl) (by kernel_rfl) (by kernel_rfl) (by kernel_rfl) (fun _ _ _ h => h) (Or.inr ⟨by rfl, rfl⟩) hHeld ?_
                try simp only [Act.put, List.setIfInBounds_toArray, List.set_cons_zero, List.set_cons_succ]
                refine take_putH (i := 18) (v := undef) (some 179) rfl (by kernel_rfl) (by kernel_rfl) (by kernel_rfl) (by kernel_rfl) (fun _ _ _ h => h) (Or.inr ⟨by rfl, rfl⟩) hHeld ?_
                try simp only [Act.put, List.setIfInBounds_toArray, List.set_cons_zero, List.set_cons_succ]
                refine take_putH (i := 19) (v := undef) (some 180) rfl (by kernel_rfl) (by kernel_rfl) (by kernel_rfl) (by kernel_rfl) (fun _ _ _ h => h) (Or.inr ⟨by rfl, rfl⟩) hHeld ?_
                try simp only [Act.put, List.setIfInBounds_toArray, List.set_cons_zero, List.set_cons_succ]
                refine take_putH (i := 20) (v := undef) (some 181) rfl (by kernel_rfl) (by kernel_rfl) (by kernel_rfl) (by kernel_rfl) (fun _ _ _ h => h) (Or.inr ⟨by rfl, rfl⟩) hHeld ?_
                try simp only [Act.put, List.setIfInBounds_toArray, List.set_cons_zero, List.set_cons_succ]
                refine take_putH (i := 21) (v := undef) (some 182) rfl (by kernel_rfl) (by kernel_rfl) (by kernel_rfl) (by kernel_rfl) (fun _ _ _ h => h) (Or.inr ⟨by rfl, rfl⟩) hHeld ?_
                try simp only [Act.put, List.setIfInBounds_toArray, List.set_cons_zero, List.set_cons_succ]
                refine take_putH (i := 22) (v := undef) (some 183) rfl (by kernel_rfl) (by kernel_rfl) (by kernel_rfl) (by kernel_rfl) (fun _ _ _ h => h) (Or.inr ⟨by rfl, rfl⟩) hHeld ?_
                try simp only [Act.put, List.setIfInBounds_toArray, List.set_cons_zero, List.set_cons_succ]
                refine take_putH (i := 23) (v := undef) (some 184) rfl (by kernel_rfl) (by kernel_rfl) (by kernel_rfl) (by kernel_rfl) (fun _ _ _ h => h) (Or.inr ⟨by rfl, rfl⟩) hHeld ?_
                try simp only [Act.put, List.setIfInBounds_toArray, List.set_cons_zero, List.set_cons_succ]
                refine take_putH (i := 24) (v := undef) (some 185) rfl (by kernel_rfl) (by kernel_rfl) (by kernel_rfl) (by kernel_rfl) (fun _ _ _ h => h) (Or.inr ⟨by rfl, rfl⟩) hHeld ?_
                try simp only [Act.put, List.setIfInBounds_toArray, List.set_cons_zero, List.set_cons_succ]
                refine take_putH (i := 25) (v := undef) (some 186) rfl (by kernel_rfl) (by kernel_rfl) (by kernel_rfl) (by kernel_rfl) (fun _ _ _ h => h) (Or.inr ⟨by rfl, rfl⟩) hHeld ?_
                try simp only [Act.put, List.setIfInBounds_toArray, List.set_cons_zero, List.set_cons_succ]
                refine take_putH (i := 26) (v := undef) (some 187) rfl (by kernel_rfl) (by kernel_rfl) (by kernel_rfl) (by kernel_rfl) (fun _ _ _ h => h) (Or.inr ⟨by rfl, rfl⟩) hHeld ?_
                try simp only [Act.put, List.setIfInBounds_toArray, List.set_cons_zero, List.set_cons_succ]
                refine take_putH (i := 27) (v := undef) (some 188) rfl (by kernel_rfl) (by kernel_rfl) (by kernel_rfl) (by kernel_rfl) (fun _ _ _ h => h) (Or.inr ⟨by rfl, rfl⟩) hHeld ?_
                try simp only [Act.put, List.setIfInBounds_toArray, List.set_cons_zero, List.set_cons_succ]
                refine take_putH (i := 28) (v := undef) (some 189) rfl (by kernel_rfl) (by kernel_rfl) (by kernel_rfl) (by kernel_rfl) (fun _ _ _ h => h) (Or.inr ⟨by rfl, rfl⟩) hHeld ?_
                try simp only [Act.put, List.setIfInBounds_toArray, List.set_cons_zero, List.set_cons_succ]
                refine take_putH (i := 29) (v := undef) (some 190) rfl (by kernel_rfl) (by kernel_rfl) (by kernel_rfl) (by kernel_rfl) (fun _ _ _ h => h) (Or.inr ⟨by rfl, rfl⟩) hHeld ?_
                try simp only [Act.put, List.setIfInBounds_toArray, List.set_cons_zero, List.set_cons_succ]
                refine take_putH (i := 30) (v := ?_) (some 191) rfl (by kernel_rfl) (by kernel_rfl) (by kernel_rfl) (by kernel_rfl) (fun _ _ _ h => h) (Or.inl ⟨by rfl, ?_⟩) hHeld ?_
                rotate_left
                · (intro w hSw; obtain ⟨z0, z1⟩ := hSw; go_simp; try with_reducible rfl)
                try simp only [Act.put, List.setIfInBounds_toArray, List.set_cons_zero, List.set_cons_succ]
                refine take_putH (i := 31) (v := ?_) (some 192) rfl (by kernel_rfl) (by kernel_rfl) (by kernel_rfl) (by kernel_rfl) (fun _ _ _ h => h) (Or.inl ⟨by rfl, ?_⟩) hHeld ?_
                rotate_left
                · (intro w hSw; obtain ⟨z0, z1⟩ := hSw; go_simp; try with_reducible rfl)
                try simp only [Act.put, List.setIfInBounds_toArray, List.set_cons_zero, List.set_cons_succ]
                refine wpAnyH_done (by kernel_rfl) ?_ _
                clear hHeld
                have HACN : Hid ((accR (m.l (!ffr)) (m.kn (!ffr)) (gr (!ffr)) flf fot fnu).1 ≠ 0) := hac
                have HSELF : Hid (m.A.set j ⟨fba, fbn, fbc, ffr, flf, fot, fnu, fsr, ⟨⟨yk, yp, ys, yn, yf, yt, yl, yi⟩, ta, tn, tc, ja, jm, jc⟩, fdn⟩ = m.A) := by
                  obtain ⟨h6, h7⟩ := List.getElem?_eq_some_iff.1 HFJ.out
                  show _ = _
                  rw [← h7]
                  exact List.set_getElem_self h6
                obtain ⟨wh, HWH⟩ : ∃ wh, Hid (wh = wg.drew) := ⟨_, rfl⟩
                have HBh : Hid (Below wg.heap.size wg wh) := by rw [HWH.out]; exact below_drew (Below.refl _ _)
                have HSTh : Hid (St wh B m3) := HSTg.out.stay HBh.out
                have HBWh : Hid (Below B w wh) := HBWg.out.trans (HBh.out.mono HSTg.out.bs)
                have HEh : Hid (m3.bK = bK ∧ m3.kn = m.kn ∧ m3.av = m.av ∧ m3.A.length = m.A.length ∧ m3.A[j]? = some ⟨fba, fbn, fbc, ffr, flf, fot, fnu, fsr, ⟨⟨yk, yp, ys, yn, yf, yt, yl, yi⟩, ta, tn, tc, ja, jm, jc⟩, fdn⟩) := ⟨HE3.out.2.2.2.2.1, HE3.out.2.2.2.2.2.1, HE3.out.2.2.1, by rw [HE3.out.2.2.2.1], by rw [HE3.out.2.2.2.1]; exact HFJ.out⟩
                have HKC : Hid (wh.cell? ⟨bK, kt, none⟩ = some (.int .i64 (kn : Int))) := by
                  have h5 := HSTh.out.cK (!ffr)
                  rw [HEh.out.1, HEh.out.2.1, ← HKT.out, ← HKN.out] at h5
                  exact h5
                have HKF : Hid (∀ i, wh.frozen? ⟨bK, i, none⟩ = false) := fun i => by have h5 := HSTh.out.kk.free i; rw [HEh.out.1] at h5; exact h5
                have HS4 : Hid (wh.cell? ⟨ga, j * 12 + 2, none⟩ = some (.int .i64 (flf : Int)) ∧ wh.cell? ⟨ga, j * 12, none⟩ = some (.slice fba fbn fbc)) := ⟨HAC.out wh m3 HSTh.out HEh.out.2.2.1 HEh.out.2.2.2.1 _ HEh.out.2.2.2.2 2 _ rfl, HAC.out wh m3 HSTh.out HEh.out.2.2.1 HEh.out.2.2.2.1 _ HEh.out.2.2.2.2 0 _ rfl⟩
                obtain ⟨m9, HM9⟩ : ∃ m9 : Mem, Hid (m9 = ({ m3 with kn := upd m3.kn (!ffr) (max kn flf) } : Mem)) := ⟨_, rfl⟩
                have HCM : Hid (((max kn flf : Nat) : Int) = max (kn : Int) (flf : Int)) := by show _ = _; omega
                obtain ⟨mx, HMX⟩ : ∃ mx : Int, Hid (mx = max (kn : Int) (flf : Int)) := ⟨_, rfl⟩
                have HST9 : Hid (St (wh.setCell ⟨bK, kt, none⟩ (.int .i64 (max (kn : Int) (flf : Int)))) B m9) := by
                  have h5 := HSTh.out.setK (!ffr) (max kn flf)
                  rw [show (⟨m3.bK, (!ffr).toNat, none⟩ : Addr) = ⟨bK, kt, none⟩ from by rw [HEh.out.1, ← HKT.out], HCM.out] at h5
                  rw [HM9.out]
                  exact h5
                have HBW9 : Hid (Below B w (wh.setCell ⟨bK, kt, none⟩ (.int .i64 (max (kn : Int) (flf : Int))))) := HBWh.out.setCell (by have h5 := HST.out.lo.2.2.2; rw [HBL.out.2.2.2] at h5; exact h5) _
                have HS49 : Hid ((wh.setCell ⟨bK, kt, none⟩ (.int .i64 (max (kn : Int) (flf : Int)))).cell? ⟨ga, j * 12 + 2, none⟩ = some (.int .i64 (flf : Int)) ∧ (wh.setCell ⟨bK, kt, none⟩ (.int .i64 (max (kn : Int) (flf : Int)))).cell? ⟨ga, j * 12, none⟩ = some (.slice fba fbn fbc)) := ⟨HAC.out _ m9 HST9.out (by rw [HM9.out]; exact HEh.out.2.2.1) (by rw [HM9.out]; exact HEh.out.2.2.2.1) _ (by rw [HM9.out]; exact HEh.out.2.2.2.2) 2 _ rfl, HAC.out _ m9 HST9.out (by rw [HM9.out]; exact HEh.out.2.2.1) (by rw [HM9.out]; exact HEh.out.2.2.2.1) _ (by rw [HM9.out]; exact HEh.out.2.2.2.2) 0 _ rfl⟩
                have HGD9 : Hid (Good m9 (upd gr (!ffr) gr') (i + 1)) := HMK.out.2.2 l' fdn m9 HLP.out.1 HLP.out.2.1 HLP.out.2.2.1 (HLP.out.2.2.2.1 _ _ HMK.out.1) HLP.out.2.2.2.2 (fun h => .inl h) (by have h5 := HM9.out; have h6 := HM3.out; subst h6; subst h5; rfl) (by have h5 := HM9.out; have h6 := HM3.out; subst h6; subst h5; rfl) (by have h5 := HM9.out; have h6 := HM3.out; subst h6; subst h5; rw [HKN.out]) (by have h5 := HM9.out; have h6 := HM3.out; subst h6; subst h5; rfl) (by have h5 := HM9.out; have h6 := HM3.out; subst h6; subst h5; rfl) (by have h5 := HM9.out; have h6 := HM3.out; subst h6; subst h5; exact HSELF.out.symm)
                have HBL9 : Hid (m9.av = .slice (some ⟨ga, 0, none⟩) nA ac ∧ (m9.bE = bE ∧ m9.bV = bV ∧ m9.bW = bW ∧ m9.bK = bK)) := by have h5 := HM9.out; have h6 := HM3.out; subst h6; subst h5; exact ⟨by rw [← HAV.out], HBL.out⟩
                go_wp2_with fail
                refine wp_region_held_drew (S := fun w' => w'.cell? ⟨ga, j * 12 + 2, none⟩ = some (.int .i64 (flf : Int)) ∧ w'.cell? ⟨ga, j * 12, none⟩ = some (.slice fba fbn fbc)) (by kernel_rfl) (by rw [← HWH.out]; exact HS4.out) (fun hHeld => ?_)
                rw [← HWH.out] at hHeld ⊢
                refine take_putH (i := 0) (v := ?_) (some 197) rfl (by kernel_rfl) (by kernel_rfl) (by kernel_rfl) (by kernel_rfl) (fun _ _ _ h => h) (Or.inl ⟨by rfl, ?_⟩) hHeld ?_
                rotate_left
                · (intro w hSw; obtain ⟨z0, z1⟩ := hSw; go_simp; try with_reducible rfl)
                try simp only [Act.put, List.setIfInBounds_toArray, List.set_cons_zero, List.set_cons_succ]
                refine take_putH (i := 1) (v := ?_) (some 198) rfl (by kernel_rfl) (by kernel_rfl) (by kernel_rfl) (by kernel_rfl) (fun _ _ _ h => h) (Or.inl ⟨by rfl, ?_⟩) hHeld ?_
                rotate_left
                · (intro w hSw; obtain ⟨z0, z1⟩ := hSw; go_simp; try with_reducible rfl)
                try simp only [Act.put, List.setIfInBounds_toArray, List.set_cons_zero, List.set_cons_succ]
                refine take_putH (i := 2) (v := ?_) (some 199) rfl (by kernel_rfl) (by kernel_rfl) (by kernel_rfl) (by kernel_rfl) (fun _ _ _ h => h) (Or.inl ⟨by rfl, ?_⟩) hHeld ?_
                rotate_left
                · (intro w hSw; obtain ⟨z0, z1⟩ := hSw; go_simp; try with_reducible rfl)
                try simp only [Act.put, List.setIfInBounds_toArray, List.set_cons_zero, List.set_cons_succ]
                refine take_putH (i := 4) (v := ?_) (some 201) rfl (by kernel_rfl) (by kernel_rfl) (by kernel_rfl) (by kernel_rfl) (fun _ _ _ h => h) (Or.inl ⟨by rfl, ?_⟩) hHeld ?_
                rotate_left
                · (intro w hSw; obtain ⟨z0, z1⟩ := hSw; go_simp; try with_reducible rfl)
                try simp only [Act.put, List.setIfInBounds_toArray, List.set_cons_zero, List.set_cons_succ]
                refine take_putH (i := 5) (v := ?_) (some 202) rfl (by kernel_rfl) (by kernel_rfl) (by kernel_rfl) (by kernel_rfl) (fun _ _ _ h => h) (Or.inl ⟨by rfl, ?_⟩) hHeld ?_
                rotate_left
                · (intro w hSw; obtain ⟨z0, z1⟩ := hSw; go_simp; try with_reducible rfl)
                try simp only [Act.put, List.setIfInBounds_toArray, List.set_cons_zero, List.set_cons_succ]
                refine take_putH (i := 6) (v := ?_) (some 203) rfl (by kernel_rfl) (by kernel_rfl) (by kernel_rfl) (by kernel_rfl) (fun _ _ _ h => h) (Or.inl ⟨by rfl, ?_⟩) hHeld ?_
                rotate_left
                · (intro w hSw; obtain ⟨z0, z1⟩ := hSw; go_simp; try with_reducible rfl)
                try simp only [Act.put, List.setIfInBounds_toArray, List.set_cons_zero, List.set_cons_succ]
                refine take_putH (i := 7) (v := ?_) (some 204) rfl (by kernel_rfl) (by kernel_rfl) (by kernel_rfl) (by kernel_rfl) (fun _ _ _ h => h) (Or.inl ⟨by rfl, ?_⟩) hHeld ?_
                rotate_left
                · (intro w hSw; obtain ⟨z0, z1⟩ := hSw; go_simp; try with_reducible rfl)
                try simp only [Act.put, List.setIfInBounds_toArray, List.set_cons_zero, List.set_cons_succ]
                refine wpAnyH_ready (rs := [3]) (by kernel_rfl) (by simp) ?_
                refine AllReadyH.cons rfl (fun K hK => ?_) AllReadyH.nil
                have cl := HKC.out
                go_simp
                clear cl
                clear hHeld
                refine hK.out _ _ HS4.out (fun hzz => ?_)
                clear hzz hK K
                try simp only [Act.put, List.getElem_toArray, List.getElem_cons_succ, List.getElem_cons_zero, List.setIfInBounds_toArray, List.set_cons_zero, List.set_cons_succ]
                refine take_putH (i := 8) (v := ?_) (some 205) rfl (by kernel_rfl) (by kernel_rfl) (by kernel_rfl) (by kernel_rfl) (fun _ _ _ h => h) (Or.inl ⟨by rfl, ?_⟩) HS4.out ?_
                rotate_left
                · (intro w hSw; obtain ⟨z0, z1⟩ := hSw; go_simp; try with_reducible rfl)
                try simp only [Act.put, List.setIfInBounds_toArray, List.set_cons_zero, List.set_cons_succ]
                refine take_putH (i := 9) (v := ?_) (some 206) rfl (by kernel_rfl) (by kernel_rfl) (by kernel_rfl) (by kernel_rfl) (fun _ _ _ h => h) (Or.inl ⟨by rfl, ?_⟩) HS4.out ?_
                rotate_left
                · (intro w hSw; obtain ⟨z0, z1⟩ := hSw; go_simp; try with_reducible rfl)
                try simp only [Act.put, List.setIfInBounds_toArray, List.set_cons_zero, List.set_cons_succ]
                have cl := HKC.out
                have fl := HKF.out
                refine wpAnyH_ready (rs := [10]) (by kernel_rfl) (by simp) ?_
                refine AllReadyH.cons rfl (fun K hK => ?_) AllReadyH.nil
                go_simp
                clear cl fl
                refine hK.out _ _ HS49.out (fun hzz => ?_)
                clear hzz hK K
                try simp only [Act.put, List.getElem_toArray, List.getElem_cons_succ, List.getElem_cons_zero, List.setIfInBounds_toArray, List.set_cons_zero, List.set_cons_succ]
                refine wpAnyH_done (by kernel_rfl) ?_ _
                go_wp2
                go_roundw
                case rel => exact ⟨i + 1, m9, upd gr (!ffr) gr', by omega, by omega, by go_num, HBL9.out.1.symm, HST9, HGD9, HBL9.out.2, HBW9⟩
                case measure => simp [intOf]; omega
      by_cases d3 : qd = 3
      · as_aux_lemma =>
          subst d3
          obtain ⟨lvk, HLV⟩ : ∃ lvk, Hid (lvk = m.lv qe) := ⟨_, rfl⟩
          have hlv : 1 ≤ lvk ∧ lvk ≤ 201 := by have h5 := HGD.out.lb qe; rw [HLV.out]; omega
          have hcast : ((lvk + 1 : Nat) : Int) = (lvk : Int) + 1 := by omega
          obtain ⟨W2, HW2⟩ : ∃ W2, Hid (W2 = w1.setCell ⟨bV, k, none⟩ (.int .i64 ((lvk : Int) + 1))) := ⟨_, rfl⟩
          obtain ⟨m2, HM2⟩ : ∃ m2 : Mem, Hid (m2 = ({ m with lv := upd m.lv qe (lvk + 1) } : Mem)) := ⟨_, rfl⟩
          have HST2 : Hid (St W2 B m2) := by
            have h5 := HST.out.setV qe (lvk + 1)
            rw [show (⟨m.bV, qe.toNat, none⟩ : Addr) = ⟨bV, k, none⟩ from by rw [HBL.out.2.1, ← HK.out], hcast] at h5
            rw [HW2.out, HM2.out]
            exact h5
          have hlo := HST.out.lo
          rw [HBL.out.1, HBL.out.2.1, HBL.out.2.2.1, HBL.out.2.2.2] at hlo
          have HLO : Hid (B ≤ bE ∧ B ≤ bV ∧ B ≤ bW ∧ B ≤ bK) := hlo
          have HB2 : Hid (Below B w W2) := by rw [HW2.out]; exact HB.out.setCell HLO.out.2.1 _
          have HBL2 : Hid (m2.bE = bE ∧ m2.bV = bV ∧ m2.bW = bW ∧ m2.bK = bK ∧ m2.g = m.g ∧ m2.av = m.av ∧ m2.A = m.A) := by rw [HM2.out]; exact ⟨HBL.out.1, HBL.out.2.1, HBL.out.2.2.1, HBL.out.2.2.2, rfl, rfl, rfl⟩
          have cV : w1.cell? ⟨bV, k, none⟩ = some (.int .i64 (lvk : Int)) := by
            have h5 := HST.out.cV qe
            rw [HBL.out.2.1, ← HK.out, ← HLV.out] at h5
            exact h5
          have fV : ∀ i, w1.frozen? ⟨bV, i, none⟩ = false := fun i => by have h5 := HST.out.vv.free i; rw [HBL.out.2.1] at h5; exact h5
          clear hlo
          go_wp2_with fail
          rw [← HW2.out]
          refine (lk_New ((lvk : Int) + 1) 8 W2 (by omega) (by omega) (by omega) (by omega)).mono ?_
          rintro e w3 ⟨rfl, HX3, hb3⟩
          clear cV fV HW2
          obtain ⟨gx, HGX⟩ : ∃ gx, Hid (gx = W2.heap.size) := ⟨_, rfl⟩
          have HST3 : Hid (St w3 B m2) := HST2.out.stay hb3
          have HB3 : Hid (Below B w w3) := HB2.out.trans (hb3.mono HST2.out.bs)
          have HX3b : Hid (LkIn w3 B gx (.slice none 0 0) [] ⟨((lvk + 1 : Nat) : Int), 0, 0, 8, 0, 0, -1⟩) := by
            rw [hcast, HGX.out]
            exact ⟨HX3.out.blk, World.ownsRow_nil _ _ _ _, fun x hx => (by cases hx), HST3.out.bs⟩
          have HGN : Hid (gx ≠ m2.g (!qe) ∧ B ≤ gx) := by
            have h5 := (HST2.out.lk (!qe)).blk.lt
            have h6 := HST2.out.bs
            rw [HGX.out]
            exact ⟨by omega, h6⟩
          rw [← HGX.out]
          obtain ⟨W4, HW4⟩ : ∃ W4, Hid (W4 = w3.setCell ⟨bE, k, none⟩ (.pointer (some ⟨gx, 0, none⟩))) := ⟨_, rfl⟩
          obtain ⟨m4, HM4⟩ : ∃ m4 : Mem, Hid (m4 = ({ m2 with g := upd m2.g qe gx, v := upd m2.v qe (.slice none 0 0), L := upd m2.L qe [], l := upd m2.l qe ⟨((lvk + 1 : Nat) : Int), 0, 0, 8, 0, 0, -1⟩ } : Mem)) := ⟨_, rfl⟩
          have HST4 : Hid (St W4 B m4) := by
            have h5 := HST3.out.setE qe gx ⟨((lvk + 1 : Nat) : Int), 0, 0, 8, 0, 0, -1⟩ HX3b.out HGN.out.1 HGN.out.2
            rw [show (⟨m2.bE, qe.toNat, none⟩ : Addr) = ⟨bE, k, none⟩ from by rw [HBL2.out.1, ← HK.out]] at h5
            rw [HW4.out, HM4.out]
            exact h5
          have HBL4 : Hid (m4.bW = bW ∧ m4.bK = bK) := by rw [HM4.out]; exact ⟨HBL2.out.2.2.1, HBL2.out.2.2.2.1⟩
          obtain ⟨W5, HW5⟩ : ∃ W5, Hid (W5 = W4.setCell ⟨bW, k, none⟩ (.slice none 0 0)) := ⟨_, rfl⟩
          obtain ⟨m5, HM5⟩ : ∃ m5 : Mem, Hid (m5 = ({ m4 with qv := upd m4.qv qe (.slice none 0 0), Q := upd m4.Q qe [] } : Mem)) := ⟨_, rfl⟩
          have HST5 : Hid (St W5 B m5) := by
            have h5 := HST4.out.setW qe (.slice none 0 0) [] ⟨rfl, .inl ⟨rfl, rfl⟩⟩ (fun k hk => by cases hk) (fun z hz => by cases hz)
            rw [show (⟨m4.bW, qe.toNat, none⟩ : Addr) = ⟨bW, k, none⟩ from by rw [HBL4.out.1, ← HK.out]] at h5
            rw [HW5.out, HM5.out]
            exact h5
          have HBL5 : Hid (m5.bK = bK) := by rw [HM5.out]; exact HBL4.out.2
          obtain ⟨W6, HW6⟩ : ∃ W6, Hid (W6 = W5.setCell ⟨bK, k, none⟩ (.int .i64 0)) := ⟨_, rfl⟩
          obtain ⟨m6, HM6⟩ : ∃ m6 : Mem, Hid (m6 = ({ m5 with kn := upd m5.kn qe 0 } : Mem)) := ⟨_, rfl⟩
          have HST6 : Hid (St W6 B m6) := by
            have h5 := HST5.out.setK qe 0
            rw [show (⟨m5.bK, qe.toNat, none⟩ : Addr) = ⟨bK, k, none⟩ from by rw [HBL5.out, ← HK.out]] at h5
            rw [HW6.out, HM6.out]
            exact h5
          have HB6 : Hid (Below B w W6) := by rw [HW6.out, HW5.out, HW4.out]; exact ((HB3.out.setCell HLO.out.1 _).setCell HLO.out.2.2.1 _).setCell HLO.out.2.2.2 _
          have HE6 : Hid (m6.av = m.av ∧ m6.A = m.A ∧ (m6.bE = bE ∧ m6.bV = bV ∧ m6.bW = bW ∧ m6.bK = bK)) := by
            rw [HM6.out, HM5.out, HM4.out]
            exact ⟨HBL2.out.2.2.2.2.2.1, HBL2.out.2.2.2.2.2.2, HBL2.out.1, HBL2.out.2.1, HBL2.out.2.2.1, HBL2.out.2.2.2.1⟩
          have HGDF : Hid (∀ m', m' = ({ m6 with A := m.A.map (clr qe) } : Mem) → Good m' (upd gr qe 0) (i + 1)) := fun m' hm' => by
            have h2 := HM2.out
            have h4 := HM4.out
            have h5 := HM5.out
            have h6 := HM6.out
            subst h2
            subst h4
            subst h5
            subst h6
            subst hm'
            exact HGD.out.fresh qe _ (by rw [HLV.out]) (by rw [HLV.out]) rfl rfl rfl rfl
          have c4 : w3.cell? ⟨bE, k, none⟩ = some (.pointer (some ⟨m2.g qe, 0, none⟩)) := by
            have h5 := HST3.out.cE qe
            rw [HBL2.out.1, ← HK.out] at h5
            exact h5
          have f4 : ∀ i, w3.frozen? ⟨bE, i, none⟩ = false := fun i => by have h5 := HST3.out.ee.free i; rw [HBL2.out.1] at h5; exact h5
          have c5 : (w3.setCell ⟨bE, k, none⟩ (.pointer (some ⟨gx, 0, none⟩))).cell? ⟨bW, k, none⟩ = some (m4.qv qe) := by
            have h5 := HST4.out.cW qe
            rw [HBL4.out.1, ← HK.out, HW4.out] at h5
            exact h5
          have f5 : ∀ i, w3.frozen? ⟨bW, i, none⟩ = false := fun i => by have h5 := HST3.out.ww.free i; rw [HBL2.out.2.2.1] at h5; exact h5
          have c6 : ((w3.setCell ⟨bE, k, none⟩ (.pointer (some ⟨gx, 0, none⟩))).setCell ⟨bW, k, none⟩ (.slice none 0 0)).cell? ⟨bK, k, none⟩ = some (.int .i64 (m5.kn qe : Int)) := by
            have h5 := HST5.out.cK qe
            rw [HBL5.out, ← HK.out, HW5.out, HW4.out] at h5
            exact h5
          have f6 : ∀ i, w3.frozen? ⟨bK, i, none⟩ = false := fun i => by have h5 := HST3.out.kk.free i; rw [HBL2.out.2.2.2.1] at h5; exact h5
          obtain ⟨aa, ac, hav⟩ := HST.out.alen
          obtain ⟨nA, HNA⟩ : ∃ nA, Hid (nA = m.A.length) := ⟨_, rfl⟩
          rw [← HNA.out] at hav
          have HAV : Hid (m.av = .slice aa nA ac) := hav
          have hnA : nA ≤ 200 := by have h5 := HGD.out.al; rw [HNA.out]; omega
          rw [hav]
          clear hb3 HX3 hav
          go_wp2
          refine (fun h => by have e4 := HW4.out; have e5 := HW5.out; have e6 := HW6.out; rw [e4] at e5; rw [e5] at e6; rw [← e6]; exact h) ?_
          clear c4 f4 c5 f5 c6 f6
          go_loopw [22] (fun t22 wr => ∃ (j : Nat), j ≤ nA ∧ t22 = .int .i64 (j : Int) ∧ Hid (St wr B { m6 with A := clrN qe j m.A }) ∧ Hid (Below B w wr)) (fun t22 _ => nA - (intOf t22).toNat)
          case atStart =>
            refine ⟨0, by omega, rfl, ?_, HB6⟩
            rw [clrN_zero, ← HE6.out.2.1]
            exact HST6
          case round =>
            obtain ⟨j, hj, rfl, HSTj, HBj⟩ := hrel
            by_cases hjl : j < nA
            · have hjl' : (j : Int) < (nA : Int) := by omega
              have hj0 : (0 : Int) ≤ (j : Int) := by omega
              obtain ⟨f, hf⟩ : ∃ f, m.A[j]? = some f := ⟨_, List.getElem?_eq_getElem (by rw [← HNA.out]; exact hjl)⟩
              obtain ⟨hfj, hset⟩ := clrN_at (b := qe) hf
              have HFJ : Hid ((clrN qe j m.A)[j]? = some f ∧ (clrN qe j m.A).set j (clr qe f) = clrN qe (j + 1) m.A) := ⟨hfj, hset⟩
              obtain ⟨ga, cx, hgv, _, _⟩ := HSTj.out.aform (by show 0 < (clrN qe j m.A).length; rw [clrN_len, ← HNA.out]; omega)
              have hgv2 : m6.av = .slice (some ⟨ga, 0, none⟩) (clrN qe j m.A).length cx := hgv
              rw [HE6.out.1, HAV.out, clrN_len, ← HNA.out] at hgv2
              simp only [Value.slice.injEq, true_and] at hgv2
              obtain ⟨rfl, rfl⟩ := hgv2
              have cf : wr.cell? ⟨ga, j * 12 + 1, none⟩ = some (.int .i64 (f.fr.toNat : Int)) := HSTj.out.acell hgv hfj 1 rfl
              have cd : wr.cell? ⟨ga, j * 12 + 11, none⟩ = some (.bool f.done) := HSTj.out.acell hgv hfj 11 rfl
              have fd : ∀ i, wr.frozen? ⟨ga, i, none⟩ = false := fun i => HSTj.out.afree hgv i
              have HD : Hid (St (wr.setCell ⟨ga, j * 12 + 11, none⟩ (.bool false)) B { m6 with A := (clrN qe j m.A).set j { f with done := false } }) := HSTj.out.done hgv hfj false
              have HGA : Hid (B ≤ ga) := (HSTj.out.a.lt ga (by rw [hgv]; rfl)).1
              clear hfj hset hf hgv
              by_cases hfe : f.fr = qe
              · rw [show (f.fr.toNat : Int) = (k : Int) from by rw [HK.out, hfe]] at cf
                have HS1 : Hid (St wr B { m6 with A := clrN qe (j + 1) m.A }) := by
                  have h5 := HFJ.out
                  rw [show clr qe f = f from if_pos hfe] at h5
                  rw [← h5.2, show (clrN qe j m.A).set j f = clrN qe j m.A from by
                    obtain ⟨h6, h7⟩ := List.getElem?_eq_some_iff.1 h5.1
                    rw [← h7]
                    exact List.set_getElem_self h6]
                  exact HSTj
                go_wp2
                go_roundw
                case rel => exact ⟨j + 1, by omega, by go_num, HS1, HBj⟩
                case measure => simp [intOf]; omega
              · have hx2 : ¬ (f.fr.toNat : Int) = (k : Int) := by rw [HK.out]; revert hfe; cases f.fr <;> cases qe <;> simp
                have HS1 : Hid (St (wr.setCell ⟨ga, j * 12 + 11, none⟩ (.bool false)) B { m6 with A := clrN qe (j + 1) m.A }) := by
                  have h5 := HFJ.out.2
                  rw [show clr qe f = { f with done := false } from if_neg hfe] at h5
                  rw [← h5]
                  exact HD
                have HBs : Hid (Below B w (wr.setCell ⟨ga, j * 12 + 11, none⟩ (.bool false))) := HBj.out.setCell HGA.out _
                go_wp2
                go_roundw
                case rel => exact ⟨j + 1, by omega, by go_num, HS1, HBs⟩
                case measure => simp [intOf]; omega
            · have hjl' : ¬ (j : Int) < (nA : Int) := by omega
              obtain ⟨m7, HM7⟩ : ∃ m7 : Mem, Hid (m7 = ({ m6 with A := m.A.map (clr qe) } : Mem)) := ⟨_, rfl⟩
              have HST7 : Hid (St wr B m7) := by
                have h5 := HSTj.out
                rw [show j = m.A.length from by rw [← HNA.out]; omega, clrN_all] at h5
                rw [HM7.out]
                exact h5
              have HGD7 : Hid (Good m7 (upd gr qe 0) (i + 1)) := HGDF.out m7 HM7.out
              have HE7 : Hid (m7.av = .slice aa nA ac ∧ (m7.bE = bE ∧ m7.bV = bV ∧ m7.bW = bW ∧ m7.bK = bK)) := by
                rw [HM7.out]
                exact ⟨HE6.out.1.trans HAV.out, HE6.out.2.2⟩
              go_wp2
              go_roundw
              case rel => exact ⟨i + 1, m7, upd gr qe 0, by omega, by omega, by go_num, HE7.out.1.symm, HST7, HGD7, HE7.out.2, HBj⟩
              case measure => simp [intOf]; omega
      have HGD2 : Hid (Good m gr (i + 1)) := HGD.out.next
      go_wp2
      go_roundw
      case rel => exact ⟨i + 1, m, gr, by omega, by omega, by go_num, rfl, HST, HGD2, HBL, HB⟩
      case measure => simp [intOf]; omega
    · have hcase : (¬ (i : Int) < (len : Int)) ∨ ((i : Int) < (len : Int) ∧ ¬ (i : Int) < 200) := by omega
      obtain ⟨g0, HG0⟩ : ∃ g0, Hid (g0 = m.g false) := ⟨_, rfl⟩
      obtain ⟨g1, HG1⟩ : ∃ g1, Hid (g1 = m.g true) := ⟨_, rfl⟩
      obtain ⟨a0, c0, hq0, hcm0, _⟩ := (HST.out.q false).form
      obtain ⟨a1, c1, hq1, hcm1, _⟩ := (HST.out.q true).form
      obtain ⟨n0, HN0⟩ : ∃ n0, Hid (n0 = (m.Q false).length) := ⟨_, rfl⟩
      obtain ⟨n1, HN1⟩ : ∃ n1, Hid (n1 = (m.Q true).length) := ⟨_, rfl⟩
      rw [← HN0.out] at hq0
      rw [← HN1.out] at hq1
      have HLN : Hid ((m.L false).length = n0 ∧ (m.L true).length = n1) := ⟨by rw [HN0.out]; exact (HGD.out.pair false).len, by rw [HN1.out]; exact (HGD.out.pair true).len⟩
      obtain ⟨wd, HWD⟩ : ∃ wd, Hid (wd = wr.drew) := ⟨_, rfl⟩
      have HBd : Hid (Below wr.heap.size wr wd) := by rw [HWD.out]; exact below_drew (Below.refl _ _)
      have HSTd : Hid (St wd B m) := HST.out.stay HBd.out
      have HSF : Hid (∀ w', St w' B m → w'.cell? ⟨bE, 0, none⟩ = some (.pointer (some ⟨g0, 0, none⟩)) ∧ w'.cell? ⟨bE, 1, none⟩ = some (.pointer (some ⟨g1, 0, none⟩)) ∧ w'.cell? ⟨bW, 0, none⟩ = some (.slice a0 n0 c0) ∧ w'.cell? ⟨bW, 1, none⟩ = some (.slice a1 n1 c1)) := fun w' h' => by
        have h1 := h'.cE false
        have h2 := h'.cE true
        have h3 := h'.cW false
        have h4 := h'.cW true
        rw [HBL.out.1, ← HG0.out] at h1
        rw [HBL.out.1, ← HG1.out] at h2
        rw [HBL.out.2.2.1, hq0] at h3
        rw [HBL.out.2.2.1, hq1] at h4
        exact ⟨h1, h2, h3, h4⟩
      have HLV := law_live14 wd HSTd.out.tab (Nat.lt_of_lt_of_le HSTd.out.b0 HSTd.out.bs)
      have HLVH : Hid (Calls Tryd.prog 12 #[] wd fun e w' => e = .returned (.bool true) ∧ Below wd.heap.size wd w') := HLV
      clear HLV
      rcases hcase with hn | ⟨hlt, hn⟩
      · as_aux_lemma =>
          go_wp2_with fail
          refine wp_region_held_drew (S := fun w' => w'.cell? ⟨bE, 0, none⟩ = some (.pointer (some ⟨g0, 0, none⟩)) ∧ w'.cell? ⟨bE, 1, none⟩ = some (.pointer (some ⟨g1, 0, none⟩)) ∧ w'.cell? ⟨bW, 0, none⟩ = some (.slice a0 n0 c0) ∧ w'.cell? ⟨bW, 1, none⟩ = some (.slice a1 n1 c1)) (by kernel_rfl) (by rw [← HWD.out]; exact HSF.out wd HSTd.out) (fun hHeld => ?_)
          rw [← HWD.out] at hHeld ⊢
          refine wpAnyH_ready (rs := [0]) (by kernel_rfl) (by simp) ?_
          refine AllReadyH.cons rfl (fun K hK => ?_) AllReadyH.nil
          go_simp
          refine HLVH.out.mono ?_
          rintro e w2 ⟨rfl, hb2⟩
          have HST2 : Hid (St w2 B m) := HSTd.out.stay hb2
          have HB2 : Hid (Below w.heap.size w w2) := by
            show Below _ _ _
            rw [← HBE.out]
            exact (HB.out.trans (HBd.out.mono HST.out.bs)).trans (hb2.mono HSTd.out.bs)
          have hS2 : Hid (w2.cell? ⟨bE, 0, none⟩ = some (.pointer (some ⟨g0, 0, none⟩)) ∧ w2.cell? ⟨bE, 1, none⟩ = some (.pointer (some ⟨g1, 0, none⟩)) ∧ w2.cell? ⟨bW, 0, none⟩ = some (.slice a0 n0 c0) ∧ w2.cell? ⟨bW, 1, none⟩ = some (.slice a1 n1 c1)) := HSF.out w2 HST2.out
          clear hb2 hHeld
          refine hK.out _ _ hS2.out (fun hzz => ?_)
          clear hzz hK K
          try simp only [Act.put, List.getElem_toArray, List.getElem_cons_succ, List.getElem_cons_zero, List.setIfInBounds_toArray, List.set_cons_zero, List.set_cons_succ]
          refine take_putH (i := 1) (v := ?_) (some 252) rfl (by kernel_rfl) (by kernel_rfl) (by kernel_rfl) (by kernel_rfl) (fun _ _ _ h => h) (Or.inl ⟨by rfl, ?_⟩) hS2.out ?_
          rotate_left
          · (intro w hSw; obtain ⟨z0, z1, z2, z3⟩ := hSw; go_simp; try with_reducible rfl)
          try simp only [Act.put, List.setIfInBounds_toArray, List.set_cons_zero, List.set_cons_succ]
          refine take_putH (i := 2) (v := ?_) (some 253) rfl (by kernel_rfl) (by kernel_rfl) (by kernel_rfl) (by kernel_rfl) (fun _ _ _ h => h) (Or.inl ⟨by rfl, ?_⟩) hS2.out ?_
          rotate_left
          · (intro w hSw; obtain ⟨z0, z1, z2, z3⟩ := hSw; go_simp; try with_reducible rfl)
          try simp only [Act.put, List.setIfInBounds_toArray, List.set_cons_zero, List.set_cons_succ]
          refine take_putH (i := 3) (v := ?_) (some 254) rfl (by kernel_rfl) (by kernel_rfl) (by kernel_rfl) (by kernel_rfl) (fun _ _ _ h => h) (Or.inl ⟨by rfl, ?_⟩) hS2.out ?_
          rotate_left
          · (intro w hSw; obtain ⟨z0, z1, z2, z3⟩ := hSw; go_simp; try with_reducible rfl)
          try simp only [Act.put, List.setIfInBounds_toArray, List.set_cons_zero, List.set_cons_succ]
          refine take_putH (i := 5) (v := ?_) (some 256) rfl (by kernel_rfl) (by kernel_rfl) (by kernel_rfl) (by kernel_rfl) (fun _ _ _ h => h) (Or.inl ⟨by rfl, ?_⟩) hS2.out ?_
          rotate_left
          · (intro w hSw; obtain ⟨z0, z1, z2, z3⟩ := hSw; go_simp; try with_reducible rfl)
          try simp only [Act.put, List.setIfInBounds_toArray, List.set_cons_zero, List.set_cons_succ]
          refine take_putH (i := 6) (v := ?_) (some 257) rfl (by kernel_rfl) (by kernel_rfl) (by kernel_rfl) (by kernel_rfl) (fun _ _ _ h => h) (Or.inl ⟨by rfl, ?_⟩) hS2.out ?_
          rotate_left
          · (intro w hSw; obtain ⟨z0, z1, z2, z3⟩ := hSw; go_simp; try with_reducible rfl)
          try simp only [Act.put, List.setIfInBounds_toArray, List.set_cons_zero, List.set_cons_succ]
          refine take_putH (i := 7) (v := ?_) (some 258) rfl (by kernel_rfl) (by kernel_rfl) (by kernel_rfl) (by kernel_rfl) (fun _ _ _ h => h) (Or.inl ⟨by rfl, ?_⟩) hS2.out ?_
          rotate_left
          · (intro w hSw; obtain ⟨z0, z1, z2, z3⟩ := hSw; go_simp; try with_reducible rfl)
          try simp only [Act.put, List.setIfInBounds_toArray, List.set_cons_zero, List.set_cons_succ]
          refine wpAnyH_ready (rs := [4]) (by kernel_rfl) (by simp) ?_
          refine AllReadyH.cons rfl (fun K hK => ?_) AllReadyH.nil
          go_simp
          rw [HG0.out]
          refine (lk_Waits w2 B (m.g false) (m.v false) (m.L false) (m.l false) (HST2.out.lk false)).mono ?_
          rintro e w3 ⟨he, hw3⟩
          rw [HLN.out.1] at he
          subst he
          rw [hw3]
          clear hw3 w3
          refine hK.out _ _ hS2.out (fun hzz => ?_)
          clear hzz hK K
          try simp only [Act.put, List.getElem_toArray, List.getElem_cons_succ, List.getElem_cons_zero, List.setIfInBounds_toArray, List.set_cons_zero, List.set_cons_succ]
          refine take_putH (i := 8) (v := ?_) (some 259) rfl (by kernel_rfl) (by kernel_rfl) (by kernel_rfl) (by kernel_rfl) (fun _ _ _ h => h) (Or.inl ⟨by rfl, ?_⟩) hS2.out ?_
          rotate_left
          · (intro w hSw; obtain ⟨z0, z1, z2, z3⟩ := hSw; go_simp; try with_reducible rfl)
          try simp only [Act.put, List.setIfInBounds_toArray, List.set_cons_zero, List.set_cons_succ]
          refine take_putH (i := 9) (v := ?_) (some 260) rfl (by kernel_rfl) (by kernel_rfl) (by kernel_rfl) (by kernel_rfl) (fun _ _ _ h => h) (Or.inl ⟨by rfl, ?_⟩) hS2.out ?_
          rotate_left
          · (intro w hSw; obtain ⟨z0, z1, z2, z3⟩ := hSw; go_simp; try with_reducible rfl)
          try simp only [Act.put, List.setIfInBounds_toArray, List.set_cons_zero, List.set_cons_succ]
          refine take_putH (i := 10) (v := ?_) (some 261) rfl (by kernel_rfl) (by kernel_rfl) (by kernel_rfl) (by kernel_rfl) (fun _ _ _ h => h) (Or.inl ⟨by rfl, ?_⟩) hS2.out ?_
          rotate_left
          · (intro w hSw; obtain ⟨z0, z1, z2, z3⟩ := hSw; go_simp; try with_reducible rfl)
          try simp only [Act.put, List.setIfInBounds_toArray, List.set_cons_zero, List.set_cons_succ]
          refine take_putH (i := 11) (v := ?_) (some 262) rfl (by kernel_rfl) (by kernel_rfl) (by kernel_rfl) (by kernel_rfl) (fun _ _ _ h => h) (Or.inl ⟨by rfl, ?_⟩) hS2.out ?_
          rotate_left
          · (intro w hSw; obtain ⟨z0, z1, z2, z3⟩ := hSw; go_simp; try with_reducible rfl)
          try simp only [Act.put, List.setIfInBounds_toArray, List.set_cons_zero, List.set_cons_succ]
          refine take_putH (i := 12) (v := ?_) (some 263) rfl (by kernel_rfl) (by kernel_rfl) (by kernel_rfl) (by kernel_rfl) (fun _ _ _ h => h) (Or.inl ⟨by rfl, ?_⟩) hS2.out ?_
          rotate_left
          · (intro w hSw; obtain ⟨z0, z1, z2, z3⟩ := hSw; go_simp; try with_reducible rfl)
          try simp only [Act.put, List.setIfInBounds_toArray, List.set_cons_zero, List.set_cons_succ]
          refine take_putH (i := 14) (v := ?_) (some 265) rfl (by kernel_rfl) (by kernel_rfl) (by kernel_rfl) (by kernel_rfl) (fun _ _ _ h => h) (Or.inl ⟨by rfl, ?_⟩) hS2.out ?_
          rotate_left
          · (intro w hSw; obtain ⟨z0, z1, z2, z3⟩ := hSw; go_simp; try with_reducible rfl)
          try simp only [Act.put, List.setIfInBounds_toArray, List.set_cons_zero, List.set_cons_succ]
          refine take_putH (i := 15) (v := ?_) (some 266) rfl (by kernel_rfl) (by kernel_rfl) (by kernel_rfl) (by kernel_rfl) (fun _ _ _ h => h) (Or.inl ⟨by rfl, ?_⟩) hS2.out ?_
          rotate_left
          · (intro w hSw; obtain ⟨z0, z1, z2, z3⟩ := hSw; go_simp; try with_reducible rfl)
          try simp only [Act.put, List.setIfInBounds_toArray, List.set_cons_zero, List.set_cons_succ]
          refine take_putH (i := 16) (v := ?_) (some 267) rfl (by kernel_rfl) (by kernel_rfl) (by kernel_rfl) (by kernel_rfl) (fun _ _ _ h => h) (Or.inl ⟨by rfl, ?_⟩) hS2.out ?_
          rotate_left
          · (intro w hSw; obtain ⟨z0, z1, z2, z3⟩ := hSw; go_simp; try with_reducible rfl)
          try simp only [Act.put, List.setIfInBounds_toArray, List.set_cons_zero, List.set_cons_succ]
          refine wpAnyH_ready (rs := [13]) (by kernel_rfl) (by simp) ?_
          refine AllReadyH.cons rfl (fun K hK => ?_) AllReadyH.nil
          go_simp
          rw [HG1.out]
          refine (lk_Waits w2 B (m.g true) (m.v true) (m.L true) (m.l true) (HST2.out.lk true)).mono ?_
          rintro e w3 ⟨he, hw3⟩
          rw [HLN.out.2] at he
          subst he
          rw [hw3]
          clear hw3 w3
          refine hK.out _ _ hS2.out (fun hzz => ?_)
          clear hzz hK K
          try simp only [Act.put, List.getElem_toArray, List.getElem_cons_succ, List.getElem_cons_zero, List.setIfInBounds_toArray, List.set_cons_zero, List.set_cons_succ]
          refine take_putH (i := 17) (v := ?_) (some 268) rfl (by kernel_rfl) (by kernel_rfl) (by kernel_rfl) (by kernel_rfl) (fun _ _ _ h => h) (Or.inl ⟨by rfl, ?_⟩) hS2.out ?_
          rotate_left
          · (intro w hSw; obtain ⟨z0, z1, z2, z3⟩ := hSw; go_simp; try with_reducible rfl)
          try simp only [Act.put, List.setIfInBounds_toArray, List.set_cons_zero, List.set_cons_succ]
          refine take_putH (i := 18) (v := ?_) (some 269) rfl (by kernel_rfl) (by kernel_rfl) (by kernel_rfl) (by kernel_rfl) (fun _ _ _ h => h) (Or.inl ⟨by rfl, ?_⟩) hS2.out ?_
          rotate_left
          · (intro w hSw; obtain ⟨z0, z1, z2, z3⟩ := hSw; go_simp; try with_reducible rfl)
          try simp only [Act.put, List.setIfInBounds_toArray, List.set_cons_zero, List.set_cons_succ]
          refine take_putH (i := 19) (v := ?_) (some 2) rfl (by kernel_rfl) (by kernel_rfl) (by kernel_rfl) (by kernel_rfl) (fun _ _ _ h => h) (Or.inl ⟨by rfl, ?_⟩) hS2.out ?_
          rotate_left
          · (intro w hSw; obtain ⟨z0, z1, z2, z3⟩ := hSw; go_simp; try with_reducible rfl)
          try simp only [Act.put, List.setIfInBounds_toArray, List.set_cons_zero, List.set_cons_succ]
          refine wpAnyH_done (by kernel_rfl) ?_ _
          go_wp2
          go_ret
          exact ⟨rfl, HB2.out⟩
      · as_aux_lemma =>
          go_wp2_with fail
          refine wp_region_held_drew (S := fun w' => w'.cell? ⟨bE, 0, none⟩ = some (.pointer (some ⟨g0, 0, none⟩)) ∧ w'.cell? ⟨bE, 1, none⟩ = some (.pointer (some ⟨g1, 0, none⟩)) ∧ w'.cell? ⟨bW, 0, none⟩ = some (.slice a0 n0 c0) ∧ w'.cell? ⟨bW, 1, none⟩ = some (.slice a1 n1 c1)) (by kernel_rfl) (by rw [← HWD.out]; exact HSF.out wd HSTd.out) (fun hHeld => ?_)
          rw [← HWD.out] at hHeld ⊢
          refine wpAnyH_ready (rs := [0]) (by kernel_rfl) (by simp) ?_
          refine AllReadyH.cons rfl (fun K hK => ?_) AllReadyH.nil
          go_simp
          refine HLVH.out.mono ?_
          rintro e w2 ⟨rfl, hb2⟩
          have HST2 : Hid (St w2 B m) := HSTd.out.stay hb2
          have HB2 : Hid (Below w.heap.size w w2) := by
            show Below _ _ _
            rw [← HBE.out]
            exact (HB.out.trans (HBd.out.mono HST.out.bs)).trans (hb2.mono HSTd.out.bs)
          have hS2 : Hid (w2.cell? ⟨bE, 0, none⟩ = some (.pointer (some ⟨g0, 0, none⟩)) ∧ w2.cell? ⟨bE, 1, none⟩ = some (.pointer (some ⟨g1, 0, none⟩)) ∧ w2.cell? ⟨bW, 0, none⟩ = some (.slice a0 n0 c0) ∧ w2.cell? ⟨bW, 1, none⟩ = some (.slice a1 n1 c1)) := HSF.out w2 HST2.out
          clear hb2 hHeld
          refine hK.out _ _ hS2.out (fun hzz => ?_)
          clear hzz hK K
          try simp only [Act.put, List.getElem_toArray, List.getElem_cons_succ, List.getElem_cons_zero, List.setIfInBounds_toArray, List.set_cons_zero, List.set_cons_succ]
          refine take_putH (i := 1) (v := ?_) (some 252) rfl (by kernel_rfl) (by kernel_rfl) (by kernel_rfl) (by kernel_rfl) (fun _ _ _ h => h) (Or.inl ⟨by rfl, ?_⟩) hS2.out ?_
          rotate_left
          · (intro w hSw; obtain ⟨z0, z1, z2, z3⟩ := hSw; go_simp; try with_reducible rfl)
          try simp only [Act.put, List.setIfInBounds_toArray, List.set_cons_zero, List.set_cons_succ]
          refine take_putH (i := 2) (v := ?_) (some 253) rfl (by kernel_rfl) (by kernel_rfl) (by kernel_rfl) (by kernel_rfl) (fun _ _ _ h => h) (Or.inl ⟨by rfl, ?_⟩) hS2.out ?_
          rotate_left
          · (intro w hSw; obtain ⟨z0, z1, z2, z3⟩ := hSw; go_simp; try with_reducible rfl)
          try simp only [Act.put, List.setIfInBounds_toArray, List.set_cons_zero, List.set_cons_succ]
          refine take_putH (i := 3) (v := ?_) (some 254) rfl (by kernel_rfl) (by kernel_rfl) (by kernel_rfl) (by kernel_rfl) (fun _ _ _ h => h) (Or.inl ⟨by rfl, ?_⟩) hS2.out ?_
          rotate_left
          · (intro w hSw; obtain ⟨z0, z1, z2, z3⟩ := hSw; go_simp; try with_reducible rfl)
          try simp only [Act.put, List.setIfInBounds_toArray, List.set_cons_zero, List.set_cons_succ]
          refine take_putH (i := 5) (v := ?_) (some 256) rfl (by kernel_rfl) (by kernel_rfl) (by kernel_rfl) (by kernel_rfl) (fun _ _ _ h => h) (Or.inl ⟨by rfl, ?_⟩) hS2.out ?_
          rotate_left
          · (intro w hSw; obtain ⟨z0, z1, z2, z3⟩ := hSw; go_simp; try with_reducible rfl)
          try simp only [Act.put, List.setIfInBounds_toArray, List.set_cons_zero, List.set_cons_succ]
          refine take_putH (i := 6) (v := ?_) (some 257) rfl (by kernel_rfl) (by kernel_rfl) (by kernel_rfl) (by kernel_rfl) (fun _ _ _ h => h) (Or.inl ⟨by rfl, ?_⟩) hS2.out ?_
          rotate_left
          · (intro w hSw; obtain ⟨z0, z1, z2, z3⟩ := hSw; go_simp; try with_reducible rfl)
          try simp only [Act.put, List.setIfInBounds_toArray, List.set_cons_zero, List.set_cons_succ]
          refine take_putH (i := 7) (v := ?_) (some 258) rfl (by kernel_rfl) (by kernel_rfl) (by kernel_rfl) (by kernel_rfl) (fun _ _ _ h => h) (Or.inl ⟨by rfl, ?_⟩) hS2.out ?_
          rotate_left
          · (intro w hSw; obtain ⟨z0, z1, z2, z3⟩ := hSw; go_simp; try with_reducible rfl)
          try simp only [Act.put, List.setIfInBounds_toArray, List.set_cons_zero, List.set_cons_succ]
          refine wpAnyH_ready (rs := [4]) (by kernel_rfl) (by simp) ?_
          refine AllReadyH.cons rfl (fun K hK => ?_) AllReadyH.nil
          go_simp
          rw [HG0.out]
          refine (lk_Waits w2 B (m.g false) (m.v false) (m.L false) (m.l false) (HST2.out.lk false)).mono ?_
          rintro e w3 ⟨he, hw3⟩
          rw [HLN.out.1] at he
          subst he
          rw [hw3]
          clear hw3 w3
          refine hK.out _ _ hS2.out (fun hzz => ?_)
          clear hzz hK K
          try simp only [Act.put, List.getElem_toArray, List.getElem_cons_succ, List.getElem_cons_zero, List.setIfInBounds_toArray, List.set_cons_zero, List.set_cons_succ]
          refine take_putH (i := 8) (v := ?_) (some 259) rfl (by kernel_rfl) (by kernel_rfl) (by kernel_rfl) (by kernel_rfl) (fun _ _ _ h => h) (Or.inl ⟨by rfl, ?_⟩) hS2.out ?_
          rotate_left
          · (intro w hSw; obtain ⟨z0, z1, z2, z3⟩ := hSw; go_simp; try with_reducible rfl)
          try simp only [Act.put, List.setIfInBounds_toArray, List.set_cons_zero, List.set_cons_succ]
          refine take_putH (i := 9) (v := ?_) (some 260) rfl (by kernel_rfl) (by kernel_rfl) (by kernel_rfl) (by kernel_rfl) (fun _ _ _ h => h) (Or.inl ⟨by rfl, ?_⟩) hS2.out ?_
          rotate_left
          · (intro w hSw; obtain ⟨z0, z1, z2, z3⟩ := hSw; go_simp; try with_reducible rfl)
          try simp only [Act.put, List.setIfInBounds_toArray, List.set_cons_zero, List.set_cons_succ]
          refine take_putH (i := 10) (v := ?_) (some 261) rfl (by kernel_rfl) (by kernel_rfl) (by kernel_rfl) (by kernel_rfl) (fun _ _ _ h => h) (Or.inl ⟨by rfl, ?_⟩) hS2.out ?_
          rotate_left
          · (intro w hSw; obtain ⟨z0, z1, z2, z3⟩ := hSw; go_simp; try with_reducible rfl)
          try simp only [Act.put, List.setIfInBounds_toArray, List.set_cons_zero, List.set_cons_succ]
          refine take_putH (i := 11) (v := ?_) (some 262) rfl (by kernel_rfl) (by kernel_rfl) (by kernel_rfl) (by kernel_rfl) (fun _ _ _ h => h) (Or.inl ⟨by rfl, ?_⟩) hS2.out ?_
          rotate_left
          · (intro w hSw; obtain ⟨z0, z1, z2, z3⟩ := hSw; go_simp; try with_reducible rfl)
          try simp only [Act.put, List.setIfInBounds_toArray, List.set_cons_zero, List.set_cons_succ]
          refine take_putH (i := 12) (v := ?_) (some 263) rfl (by kernel_rfl) (by kernel_rfl) (by kernel_rfl) (by kernel_rfl) (fun _ _ _ h => h) (Or.inl ⟨by rfl, ?_⟩) hS2.out ?_
          rotate_left
          · (intro w hSw; obtain ⟨z0, z1, z2, z3⟩ := hSw; go_simp; try with_reducible rfl)
          try simp only [Act.put, List.setIfInBounds_toArray, List.set_cons_zero, List.set_cons_succ]
          refine take_putH (i := 14) (v := ?_) (some 265) rfl (by kernel_rfl) (by kernel_rfl) (by kernel_rfl) (by kernel_rfl) (fun _ _ _ h => h) (Or.inl ⟨by rfl, ?_⟩) hS2.out ?_
          rotate_left
          · (intro w hSw; obtain ⟨z0, z1, z2, z3⟩ := hSw; go_simp; try with_reducible rfl)
          try simp only [Act.put, List.setIfInBounds_toArray, List.set_cons_zero, List.set_cons_succ]
          refine take_putH (i := 15) (v := ?_) (some 266) rfl (by kernel_rfl) (by kernel_rfl) (by kernel_rfl) (by kernel_rfl) (fun _ _ _ h => h) (Or.inl ⟨by rfl, ?_⟩) hS2.out ?_
          rotate_left
          · (intro w hSw; obtain ⟨z0, z1, z2, z3⟩ := hSw; go_simp; try with_reducible rfl)
          try simp only [Act.put, List.setIfInBounds_toArray, List.set_cons_zero, List.set_cons_succ]
          refine take_putH (i := 16) (v := ?_) (some 267) rfl (by kernel_rfl) (by kernel_rfl) (by kernel_rfl) (by kernel_rfl) (fun _ _ _ h => h) (Or.inl ⟨by rfl, ?_⟩) hS2.out ?_
          rotate_left
          · (intro w hSw; obtain ⟨z0, z1, z2, z3⟩ := hSw; go_simp; try with_reducible rfl)
          try simp only [Act.put, List.setIfInBounds_toArray, List.set_cons_zero, List.set_cons_succ]
          refine wpAnyH_ready (rs := [13]) (by kernel_rfl) (by simp) ?_
          refine AllReadyH.cons rfl (fun K hK => ?_) AllReadyH.nil
          go_simp
          rw [HG1.out]
          refine (lk_Waits w2 B (m.g true) (m.v true) (m.L true) (m.l true) (HST2.out.lk true)).mono ?_
          rintro e w3 ⟨he, hw3⟩
          rw [HLN.out.2] at he
          subst he
          rw [hw3]
          clear hw3 w3
          refine hK.out _ _ hS2.out (fun hzz => ?_)
          clear hzz hK K
          try simp only [Act.put, List.getElem_toArray, List.getElem_cons_succ, List.getElem_cons_zero, List.setIfInBounds_toArray, List.set_cons_zero, List.set_cons_succ]
          refine take_putH (i := 17) (v := ?_) (some 268) rfl (by kernel_rfl) (by kernel_rfl) (by kernel_rfl) (by kernel_rfl) (fun _ _ _ h => h) (Or.inl ⟨by rfl, ?_⟩) hS2.out ?_
          rotate_left
          · (intro w hSw; obtain ⟨z0, z1, z2, z3⟩ := hSw; go_simp; try with_reducible rfl)
          try simp only [Act.put, List.setIfInBounds_toArray, List.set_cons_zero, List.set_cons_succ]
          refine take_putH (i := 18) (v := ?_) (some 269) rfl (by kernel_rfl) (by kernel_rfl) (by kernel_rfl) (by kernel_rfl) (fun _ _ _ h => h) (Or.inl ⟨by rfl, ?_⟩) hS2.out ?_
          rotate_left
          · (intro w hSw; obtain ⟨z0, z1, z2, z3⟩ := hSw; go_simp; try with_reducible rfl)
          try simp only [Act.put, List.setIfInBounds_toArray, List.set_cons_zero, List.set_cons_succ]
          refine take_putH (i := 19) (v := ?_) (some 2) rfl (by kernel_rfl) (by kernel_rfl) (by kernel_rfl) (by kernel_rfl) (fun _ _ _ h => h) (Or.inl ⟨by rfl, ?_⟩) hS2.out ?_
          rotate_left
          · (intro w hSw; obtain ⟨z0, z1, z2, z3⟩ := hSw; go_simp; try with_reducible rfl)
          try simp only [Act.put, List.setIfInBounds_toArray, List.set_cons_zero, List.set_cons_succ]
          refine wpAnyH_done (by kernel_rfl) ?_ _
          go_wp2
          go_ret
          exact ⟨rfl, HB2.out⟩
end linkOnce
end Go.Proofs.YtbloomepdchjhaaDoor
