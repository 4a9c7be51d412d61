/- cover: the reference's side. -/
import Derived.Test.YtnfeklebfnlgkaaGreatCvR1
import Derived.Test.YtnfeklebfnlgkaaGreatCvG
import Derived.Deep.QuietTactic
import Derived.BigQuiet
namespace Go.Proofs.YtnfeklebfnlgkaaGreat
set_option maxRecDepth 100000
open Go.RowKit

theorem below_drewN2 (w : World) (n : Nat) : Below w.heap.size w (w.drewN n) := ⟨rfl, rfl, rfl, Nat.le_refl _, fun _ _ => rfl⟩
/-- The disc at a place, in all worlds that hold what was there. -/
theorem DcsRd.at_ {w : World} {a : Option Addr} {n : Nat} {l : List (Int × Int × Int)} (h : DcsRd w a n l) (i : Nat) (hi : i < n) : ∃ g off X Y R, a = some ⟨g, off, none⟩ ∧ l[i]? = some (X, Y, R) ∧ ∀ w', Below w.heap.size w w' → w'.cell? ⟨g, off + i * 3, none⟩ = some (.int .i64 X) ∧ w'.cell? ⟨g, off + i * 3 + 1, none⟩ = some (.int .i64 Y) ∧ w'.cell? ⟨g, off + i * 3 + 2, none⟩ = some (.int .i64 R) := by
  rcases h.cells with h0 | ⟨g, off, ha, hg, hc⟩
  · omega
  · have hl : i < l.length := by rw [h.size]; exact hi
    obtain ⟨h1, h2, h3⟩ := hc i l[i] (List.getElem?_eq_getElem hl)
    refine ⟨g, off, l[i].1, l[i].2.1, l[i].2.2, ha, List.getElem?_eq_getElem hl, fun w' hb => ?_⟩
    rw [hb.cell (p := ⟨g, off + i * 3, none⟩) hg, hb.cell (p := ⟨g, off + i * 3 + 1, none⟩) hg, hb.cell (p := ⟨g, off + i * 3 + 2, none⟩) hg]
    exact ⟨h1, h2, h3⟩
/-- What the reference's side tells. -/
def sideR (s q : Sq) : Bool := (s.kd == q.kd) && sideIn s q
theorem outsR (ai ao bo : List (Int × Int × Int)) : outsU ai ao bo = bo.all fun hole => (ao.any fun d => withinD hole d) || (ai.any fun d => apartD d hole) := by
  unfold outsU
  congr 1
  funext hole
  congr 2
  funext d
  unfold apartD
  rw [far_comm, Int.add_comm]
set_option maxHeartbeats 16000000 in
theorem ref_side0 (s q : Sq) (w : World) (hs : SideOk w s) (hq : SideOk w q) (hkq : s.kd = q.kd) (hsab : s.ab = false) : Calls Tryz.prog 28 #[.agg (sqc s).toArray, .agg (sqc q).toArray] w fun e w' => e = .returned (.bool (sideIn s q)) ∧ Below w.heap.size w w' := by
  obtain ⟨W1, HW1⟩ : ∃ W1, Hid (W1 = (w.alloc (.cells (sqc s).toArray 40)).alloc (.cells (sqc q).toArray 40)) := ⟨_, rfl⟩
  have HX1 : Hid (Below w.heap.size w W1) := by (show Below _ _ _); rw [HW1.out]; exact below_two _ _ _
  have HK0 : Hid (Blk W1 w.heap.size (sqc s).toArray 40) := by (show Blk _ _ _ _); rw [HW1.out]; exact blk_two0 _ _ _ _
  have HK1 : Hid (Blk W1 (w.heap.size + 1) (sqc q).toArray 40) := by (show Blk _ _ _ _); rw [HW1.out]; exact blk_two1 _ _ _ _
  have HSOK : Hid (SideOk w s) := hs
  have HQOK : Hid (SideOk w q) := hq
  have HKQ : Hid (s.kd = q.kd) := hkq
  have HN := ref_Nothing s W1 hs.kd hs.tr
  obtain ⟨N, hN⟩ : ∃ N, N = nothS s := ⟨_, rfl⟩
  obtain ⟨E, HE⟩ : ∃ E, Hid (E = sideIn s q) := ⟨_, rfl⟩
  have HNE : Hid (E = (N || sideB s q)) := by (show _ = _); rw [HE.out, sideIn, hN, hsab]; rfl
  rw [← hN] at HN
  rw [← HE.out]
  have k1 : W1.cell? ⟨w.heap.size, 1, none⟩ = some (.int .i64 s.kd) := HK0.out.cell 1 rfl
  have m1 : W1.cell? ⟨w.heap.size + 1, 1, none⟩ = some (.int .i64 q.kd) := HK1.out.cell 1 rfl
  have k2 : W1.cell? ⟨w.heap.size, 2, none⟩ = some (.bool s.ab) := HK0.out.cell 2 rfl
  have m2 : W1.cell? ⟨w.heap.size + 1, 2, none⟩ = some (.bool q.ab) := HK1.out.cell 2 rfl
  rw [hsab] at k2
  have g1 : (s.kd != q.kd) = false := by rw [bne_eq_false_iff_eq]; exact hkq
  have g2 : (s.kd == q.kd) = true := by rw [beq_iff_eq]; exact hkq
  have h4 : s.kd = 1 ∨ s.kd = 2 ∨ s.kd = 3 ∨ s.kd = 4 := by have := hs.kd; omega
  clear hs hq hkq hN HE hsab
  go_enter Tryz.func28, Tryz.ntmps28
  go_upto_region 1 with fail
  rw [← HW1.out]
  go_wp2_with (guard_target =~ wpList _ _ _ (Oper.mk (some 26) _ _ _ _ _ :: _) _ _; refine wpList_load_mid rfl 40 (.tmp 2) rfl w.heap.size 0 rfl (sqc s) _ HK0.out.all Tryz.underlying40 rfl (by rfl) ?_)
  refine HN.mono ?_
  rintro e w2 ⟨rfl, hb2⟩
  have HY2 : Hid (Below W1.heap.size W1 w2) := hb2
  have HX2 : Hid (Below w.heap.size w w2) := HX1.out.trans (hb2.mono HX1.out.size)
  have HK2 : Hid (Blk w2 w.heap.size (sqc s).toArray 40) := HK0.out.stay hb2
  have HK3 : Hid (Blk w2 (w.heap.size + 1) (sqc q).toArray 40) := HK1.out.stay hb2
  clear hb2 HN k2 m2 k1 m1 g1 g2
  cases N with
  | true =>
    have HRT : Hid (E = true) := by (show _ = _); rw [HNE.out]; rfl
    go_wp2
    go_returns
    exact ⟨by rw [HRT.out]; rfl, HX2.out⟩
  | false =>
    have HRS : Hid (sideB s q = E) := by (show _ = _); rw [HNE.out]; rfl
    rcases h4 with h4 | h4 | h4 | h4
    · have HSB : Hid (sideB s q = (decide (q.lo ≤ s.lo) && decide (s.hi ≤ q.hi))) := by (show _ = _); rw [sideB, if_pos h4]
      rw [HSB.out] at HRS
      have z1 : w2.cell? ⟨w.heap.size, 1, none⟩ = some (.int .i64 s.kd) := HK2.out.cell 1 rfl
      rw [h4] at z1
      have z3 : w2.cell? ⟨w.heap.size, 3, none⟩ = some (.int .i64 s.lo) := HK2.out.cell 3 rfl
      have z4 : w2.cell? ⟨w.heap.size, 4, none⟩ = some (.int .i64 s.hi) := HK2.out.cell 4 rfl
      have y3 : w2.cell? ⟨w.heap.size + 1, 3, none⟩ = some (.int .i64 q.lo) := HK3.out.cell 3 rfl
      have y4 : w2.cell? ⟨w.heap.size + 1, 4, none⟩ = some (.int .i64 q.hi) := HK3.out.cell 4 rfl
      clear h4
      by_cases hlo : q.lo ≤ s.lo
      · rw [decide_eq_true hlo, Bool.true_and] at HRS
        go_wp2
        go_returns
        exact ⟨by rw [← HRS.out]; rfl, HX2.out⟩
      · rw [decide_eq_false hlo, Bool.false_and] at HRS
        go_wp2
        go_returns
        exact ⟨by rw [← HRS.out]; rfl, HX2.out⟩
    · have HSB : Hid (sideB s q = (leB q.fr s.fr && (q.op || (!s.op && leB s.to q.to)))) := by (show _ = _); rw [sideB, if_neg (by omega), if_pos h4]
      rw [HSB.out] at HRS
      have z1 : w2.cell? ⟨w.heap.size, 1, none⟩ = some (.int .i64 s.kd) := HK2.out.cell 1 rfl
      rw [h4] at z1
      have z5 : w2.cell? ⟨w.heap.size, 5, none⟩ = some (.string s.fr) := HK2.out.cell 5 rfl
      have z6 : w2.cell? ⟨w.heap.size, 6, none⟩ = some (.string s.to) := HK2.out.cell 6 rfl
      have z7 : w2.cell? ⟨w.heap.size, 7, none⟩ = some (.bool s.op) := HK2.out.cell 7 rfl
      have y5 : w2.cell? ⟨w.heap.size + 1, 5, none⟩ = some (.string q.fr) := HK3.out.cell 5 rfl
      have y6 : w2.cell? ⟨w.heap.size + 1, 6, none⟩ = some (.string q.to) := HK3.out.cell 6 rfl
      have y7 : w2.cell? ⟨w.heap.size + 1, 7, none⟩ = some (.bool q.op) := HK3.out.cell 7 rfl
      clear h4
      obtain ⟨sop, hsop⟩ : ∃ b, b = s.op := ⟨_, rfl⟩
      obtain ⟨qop, hqop⟩ : ∃ b, b = q.op := ⟨_, rfl⟩
      rw [← hsop] at z7
      rw [← hqop] at y7
      rw [← hsop, ← hqop] at HRS
      clear hsop hqop
      obtain ⟨L1, HL1⟩ : ∃ L, Hid (L = leB q.fr s.fr) := ⟨_, rfl⟩
      rw [← HL1.out] at HRS
      have e1 : (Op.bytesLess q.fr.toList s.fr.toList || q.fr.toList == s.fr.toList) = L1 := HL1.out.symm
      cases L1 with
      | false =>
        rw [Bool.false_and] at HRS
        have e2 : Op.bytesLess q.fr.toList s.fr.toList = false := (Bool.or_eq_false_iff.1 e1).1
        have e3 : (q.fr.toList == s.fr.toList) = false := (Bool.or_eq_false_iff.1 e1).2
        go_wp2
        go_returns
        exact ⟨by rw [← HRS.out]; rfl, HX2.out⟩
      | true =>
        rw [Bool.true_and] at HRS
        cases qop with
        | true =>
          go_wp2
          all_goals (
            go_returns
            exact ⟨by rw [← HRS.out]; rfl, HX2.out⟩)
        | false =>
          cases sop with
          | true =>
            go_wp2
            all_goals (
              go_returns
              exact ⟨by rw [← HRS.out]; rfl, HX2.out⟩)
          | false =>
            go_wp2
            all_goals (
              go_returns
              exact ⟨by rw [← HRS.out]; rfl, HX2.out⟩)
    · have HSB : Hid (sideB s q = truthU s.tr q.tr) := by (show _ = _); rw [sideB, if_neg (by omega), if_neg (by omega), if_pos h4]
      rw [HSB.out] at HRS
      have z1 : w2.cell? ⟨w.heap.size, 1, none⟩ = some (.int .i64 s.kd) := HK2.out.cell 1 rfl
      rw [h4] at z1
      have z8 : w2.cell? ⟨w.heap.size, 8, none⟩ = some (.int .u8 s.tr) := HK2.out.cell 8 rfl
      have y8 : w2.cell? ⟨w.heap.size + 1, 8, none⟩ = some (.int .u8 q.tr) := HK3.out.cell 8 rfl
      clear h4
      have hst := HSOK.out.tr
      have hqt := HQOK.out.tr
      obtain ⟨T, HT⟩ : ∃ T, Hid (T = s.tr) := ⟨_, rfl⟩
      obtain ⟨P, HP⟩ : ∃ T, Hid (T = q.tr) := ⟨_, rfl⟩
      rw [← HT.out] at z8 hst HRS
      rw [← HP.out] at y8 hqt HRS
      obtain ⟨M1, HM1⟩ : ∃ M, Hid (M = Int.tmod T 2) := ⟨_, rfl⟩
      obtain ⟨M2, HM2⟩ : ∃ M, Hid (M = Int.tmod P 2) := ⟨_, rfl⟩
      obtain ⟨D1, HD1⟩ : ∃ M, Hid (M = Int.tdiv T 2) := ⟨_, rfl⟩
      obtain ⟨D2, HD2⟩ : ∃ M, Hid (M = Int.tdiv P 2) := ⟨_, rfl⟩
      obtain ⟨N1, HN1⟩ : ∃ M, Hid (M = Int.tmod D1 2) := ⟨_, rfl⟩
      obtain ⟨N2, HN2⟩ : ∃ M, Hid (M = Int.tmod D2 2) := ⟨_, rfl⟩
      have v1 : M1 = T % 2 := by rw [HM1.out, Int.tmod_eq_emod_of_nonneg hst.1]
      have v2 : M2 = P % 2 := by rw [HM2.out, Int.tmod_eq_emod_of_nonneg hqt.1]
      have v3 : D1 = T / 2 := by rw [HD1.out, Int.tdiv_eq_ediv_of_nonneg hst.1]
      have v4 : D2 = P / 2 := by rw [HD2.out, Int.tdiv_eq_ediv_of_nonneg hqt.1]
      have v5 : N1 = T / 2 % 2 := by rw [HN1.out, Int.tmod_eq_emod_of_nonneg (by omega), v3]
      have v6 : N2 = P / 2 % 2 := by rw [HN2.out, Int.tmod_eq_emod_of_nonneg (by omega), v4]
      have HTT : Hid (truthU T P = ((M1 == 0 || M2 == 1) && (N1 == 0 || N2 == 1))) := by
        (show _ = _)
        unfold truthU
        rw [← v1, ← v2, ← v5, ← v6]
        have hd : ∀ (a b : Int), decide (a = b) = (a == b) := fun a b => by
          by_cases h : a = b
          · rw [decide_eq_true h, h]; simp
          · rw [decide_eq_false h]; exact (beq_eq_false_iff_ne.2 h).symm
        rw [hd, hd, hd, hd]
      rw [HTT.out] at HRS
      have e1 : Int.tmod T 2 = M1 := HM1.out.symm
      have e2 : Int.tmod P 2 = M2 := HM2.out.symm
      have e3 : Int.tdiv T 2 = D1 := HD1.out.symm
      have e4 : Int.tdiv P 2 = D2 := HD2.out.symm
      have e5 : Int.tmod D1 2 = N1 := HN1.out.symm
      have e6 : Int.tmod D2 2 = N2 := HN2.out.symm
      have w1 : IntKind.u8.wrap M1 = M1 := by rw [IntKind.wrap_u8]; omega
      have w2' : IntKind.u8.wrap M2 = M2 := by rw [IntKind.wrap_u8]; omega
      have w3 : IntKind.u8.wrap D1 = D1 := by rw [IntKind.wrap_u8]; omega
      have w4 : IntKind.u8.wrap D2 = D2 := by rw [IntKind.wrap_u8]; omega
      have w5 : IntKind.u8.wrap N1 = N1 := by rw [IntKind.wrap_u8]; omega
      have w6 : IntKind.u8.wrap N2 = N2 := by rw [IntKind.wrap_u8]; omega
      clear hst hqt v1 v2 v3 v4 v5 v6
      obtain ⟨b1, hb1⟩ : ∃ b, (M1 == 0) = b := ⟨_, rfl⟩
      obtain ⟨b2, hb2⟩ : ∃ b, (M2 == 1) = b := ⟨_, rfl⟩
      obtain ⟨b3, hb3⟩ : ∃ b, (N1 == 0) = b := ⟨_, rfl⟩
      obtain ⟨b4, hb4⟩ : ∃ b, (N2 == 1) = b := ⟨_, rfl⟩
      rw [hb1, hb2, hb3, hb4] at HRS
      cases b1 <;> cases b2 <;> cases b3 <;> cases b4 <;>
        (go_wp2; go_returns; exact ⟨by rw [← HRS.out]; rfl, HX2.out⟩)
    · have HSB : Hid (sideB s q = (!q.no && insU s.ins q.ins && outsU s.ins s.outs q.outs)) := by (show _ = _); rw [sideB, if_neg (by omega), if_neg (by omega), if_neg (by omega)]
      rw [HSB.out] at HRS
      have z1 : w2.cell? ⟨w.heap.size, 1, none⟩ = some (.int .i64 s.kd) := HK2.out.cell 1 rfl
      rw [h4] at z1
      have y9 : w2.cell? ⟨w.heap.size + 1, 9, none⟩ = some (.bool q.no) := HK3.out.cell 9 rfl
      obtain ⟨qno, hqno⟩ : ∃ b, b = q.no := ⟨_, rfl⟩
      rw [← hqno] at y9 HRS
      have hsm := HSOK.out.small h4
      have hqm := HQOK.out.small (HKQ.out.symm.trans h4)
      have hso := HSOK.out.ok h4
      have hqo := HQOK.out.ok (HKQ.out.symm.trans h4)
      have HSI : Hid (DcsRd W1 s.ia s.il s.ins) := HSOK.out.ins.below HX1.out
      have HSO : Hid (DcsRd W1 s.oa s.ol s.outs) := HSOK.out.outs.below HX1.out
      have HQI : Hid (DcsRd W1 q.ia q.il q.ins) := HQOK.out.ins.below HX1.out
      have HQO : Hid (DcsRd W1 q.oa q.ol q.outs) := HQOK.out.outs.below HX1.out
      have HOI : Hid (∀ t ∈ s.ins, OkD t) := hso.1
      have HOO : Hid (∀ t ∈ s.outs, OkD t) := hso.2
      have HOQI : Hid (∀ t ∈ q.ins, OkD t) := hqo.1
      have HOQO : Hid (∀ t ∈ q.outs, OkD t) := hqo.2
      have HKS : Hid (∀ w', Below W1.heap.size W1 w' → w'.cell? ⟨w.heap.size, 10, none⟩ = some (.slice s.ia s.il s.ic) ∧ w'.cell? ⟨w.heap.size, 11, none⟩ = some (.slice s.oa s.ol s.oc) ∧ w'.cell? ⟨w.heap.size + 1, 10, none⟩ = some (.slice q.ia q.il q.ic) ∧ w'.cell? ⟨w.heap.size + 1, 11, none⟩ = some (.slice q.oa q.ol q.oc)) := fun w' hb => ⟨(HK0.out.stay hb).cell 10 rfl, (HK0.out.stay hb).cell 11 rfl, (HK1.out.stay hb).cell 10 rfl, (HK1.out.stay hb).cell 11 rfl⟩
      clear h4 hqno hso hqo
      obtain ⟨sia, hsia⟩ : ∃ x, x = s.ia := ⟨_, rfl⟩
      obtain ⟨sil, hsil⟩ : ∃ x, x = s.il := ⟨_, rfl⟩
      obtain ⟨sic, hsic⟩ : ∃ x, x = s.ic := ⟨_, rfl⟩
      obtain ⟨soa, hsoa⟩ : ∃ x, x = s.oa := ⟨_, rfl⟩
      obtain ⟨sol, hsol⟩ : ∃ x, x = s.ol := ⟨_, rfl⟩
      obtain ⟨soc, hsoc⟩ : ∃ x, x = s.oc := ⟨_, rfl⟩
      obtain ⟨qia, hqia⟩ : ∃ x, x = q.ia := ⟨_, rfl⟩
      obtain ⟨qil, hqil⟩ : ∃ x, x = q.il := ⟨_, rfl⟩
      obtain ⟨qic, hqic⟩ : ∃ x, x = q.ic := ⟨_, rfl⟩
      obtain ⟨qoa, hqoa⟩ : ∃ x, x = q.oa := ⟨_, rfl⟩
      obtain ⟨qol, hqol⟩ : ∃ x, x = q.ol := ⟨_, rfl⟩
      obtain ⟨qoc, hqoc⟩ : ∃ x, x = q.oc := ⟨_, rfl⟩
      rw [← hsia, ← hsil] at HSI
      rw [← hsoa, ← hsol] at HSO
      rw [← hqia, ← hqil] at HQI
      rw [← hqoa, ← hqol] at HQO
      rw [← hsia, ← hsil, ← hsic, ← hsoa, ← hsol, ← hsoc, ← hqia, ← hqil, ← hqic, ← hqoa, ← hqol, ← hqoc] at HKS
      rw [← hsil, ← hsol] at hsm
      rw [← hqil, ← hqol] at hqm
      clear hsia hsil hsic hsoa hsol hsoc hqia hqil hqic hqoa hqol hqoc
      obtain ⟨hsm1, hsm2⟩ := hsm
      obtain ⟨hqm1, hqm2⟩ := hqm
      cases qno with
      | true =>
        have HRF : Hid (E = false) := by (show _ = _); rw [← HRS.out]; rfl
        go_wp2
        go_returns
        exact ⟨by rw [HRF.out]; rfl, HX2.out⟩
      | false =>
        obtain ⟨u0, u1, u2, u3⟩ := HKS.out w2 HY2.out
        go_wp2_with fail
        clear HK2 HK3
        go_loopw [5] (fun t5 wr => ∃ (i : Nat), i ≤ qil ∧ t5 = .int .i64 (i : Int) ∧ Hid ((q.ins.take i).all (fun wide => s.ins.any fun d => withinD d wide) = true) ∧ Hid (Below W1.heap.size W1 wr)) (fun t5 _ => qil - (intOf t5).toNat)
        case atStart => exact ⟨0, Nat.zero_le _, rfl, rfl, HY2⟩
        case round =>
          obtain ⟨i, hi, rfl, HAI, HBi⟩ := hrel
          obtain ⟨t0, t1, t2, t3⟩ := HKS.out wr HBi.out
          by_cases hil : i < qil
          · have hi1 : (i : Int) < (qil : Int) := by omega
            have hi0 : (0 : Int) ≤ (i : Int) := by omega
            obtain ⟨g1, o1, X, Y, R, ha1, hl1, hc1⟩ := HQI.out.at_ i hil
            have HL1 : Hid (q.ins[i]? = some (X, Y, R)) := hl1
            have HOK1 : Hid (OkD (X, Y, R)) := HOQI.out _ (List.mem_of_getElem? hl1)
            have HC1 : Hid (∀ w', Below W1.heap.size W1 w' → w'.cell? ⟨g1, o1 + i * 3, none⟩ = some (.int .i64 X) ∧ w'.cell? ⟨g1, o1 + i * 3 + 1, none⟩ = some (.int .i64 Y) ∧ w'.cell? ⟨g1, o1 + i * 3 + 2, none⟩ = some (.int .i64 R)) := hc1
            clear hl1 hc1
            subst ha1
            go_wp2_with fail
            clear t0 t1 t2 t3
            go_loopw [6, 7] (fun tA tK wr => ∃ (k : Nat) (B : Bool), k ≤ sil ∧ tK = .int .i64 (k : Int) ∧ tA = .bool B ∧ Hid (B = (false || (s.ins.take k).any fun d => withinD d (X, Y, R))) ∧ Hid (Below W1.heap.size W1 wr)) (fun _ tK _ => sil - (intOf tK).toNat)
            case atStart => exact ⟨0, false, Nat.zero_le _, rfl, rfl, (by (show _ = _); simp), HBi⟩
            case round =>
              obtain ⟨k, B, hk, rfl, rfl, HAC, HBK⟩ := hrel
              obtain ⟨t0, t1, t2, t3⟩ := HKS.out wr HBK.out
              by_cases hkl : k < sil
              · have hk1 : (k : Int) < (sil : Int) := by omega
                have hk0 : (0 : Int) ≤ (k : Int) := by omega
                obtain ⟨g2, o2, U, V, S, ha2, hl2, hc2⟩ := HSI.out.at_ k hkl
                have HOK2 : Hid (OkD (U, V, S)) := HOI.out _ (List.mem_of_getElem? hl2)
                have HTK : Hid ((false || (s.ins.take (k + 1)).any fun d => withinD d (X, Y, R)) = (B || withinD (U, V, S) (X, Y, R))) := by
                  (show _ = _)
                  rw [List.take_add_one, hl2, List.any_append, HAC.out]
                  simp
                cases B with
                | true =>
                  have HNX : Hid (true = (false || (s.ins.take (k + 1)).any fun d => withinD d (X, Y, R))) := by (show _ = _); rw [HTK.out]; rfl
                  clear ha2 hl2 hc2
                  go_upto_region 20 with fail
                  go_quiet (fail)
                  generalize hnq : wr.drewN _ = w2
                  have HB2 : Hid (Below W1.heap.size W1 w2) := by (show Below _ _ _); rw [← hnq]; exact HBK.out.trans ((below_drewN2 wr _).mono HBK.out.size)
                  clear hnq t0 t1 t2 t3
                  go_wp2
                  go_roundw
                  case rel => exact ⟨k + 1, true, by omega, by go_num, rfl, HNX, HB2⟩
                  case measure => (simp [intOf]; omega)
                | false =>
                  have HSK : Hid (∀ w', Below wr.heap.size wr w' → w'.cell? ⟨w.heap.size, 10, none⟩ = some (.slice sia sil sic) ∧ w'.cell? ⟨w.heap.size + 1, 10, none⟩ = some (.slice (some ⟨g1, o1, none⟩) qil qic) ∧ w'.cell? ⟨g2, o2 + k * 3, none⟩ = some (.int .i64 U) ∧ w'.cell? ⟨g2, o2 + k * 3 + 1, none⟩ = some (.int .i64 V) ∧ w'.cell? ⟨g2, o2 + k * 3 + 2, none⟩ = some (.int .i64 S) ∧ w'.cell? ⟨g1, o1 + i * 3, none⟩ = some (.int .i64 X) ∧ w'.cell? ⟨g1, o1 + i * 3 + 1, none⟩ = some (.int .i64 Y) ∧ w'.cell? ⟨g1, o1 + i * 3 + 2, none⟩ = some (.int .i64 R)) := by
                    intro w' hb
                    have hb1 := HBK.out.trans (hb.mono HBK.out.size)
                    obtain ⟨x0, x1, x2, x3⟩ := HKS.out w' hb1
                    obtain ⟨y0, y1, y2⟩ := hc2 w' hb1
                    obtain ⟨z0, z1, z2⟩ := HC1.out w' hb1
                    exact ⟨x0, x2, y0, y1, y2, z0, z1, z2⟩
                  rw [ha2] at HSK t0
                  have HCL : Hid (∀ w', Calls Tryz.prog 41 #[.agg #[.int .i64 U, .int .i64 V, .int .i64 S], .agg #[.int .i64 X, .int .i64 Y, .int .i64 R]] w' fun e w'' => e = .returned (.bool (withinD (U, V, S) (X, Y, R))) ∧ Below w'.heap.size w' w'') := fun w' => ref_Within U V S X Y R w' HOK2.out HOK1.out
                  obtain ⟨E2, HE2⟩ : ∃ E2, Hid (E2 = withinD (U, V, S) (X, Y, R)) := ⟨_, rfl⟩
                  rw [← HE2.out] at HCL
                  have HNX : Hid (E2 = (false || (s.ins.take (k + 1)).any fun d => withinD d (X, Y, R))) := by (show _ = _); rw [HTK.out, HE2.out]; rfl
                  clear ha2 hl2 hc2 HTK HE2
                  go_upto_region 20 with fail
                  have HB : Hid (Below wr.heap.size wr wr.drew) := (Below.refl _ _).drew
                  clear t0 t1 t2 t3
                  go_region_held3 (fun w' => w'.cell? ⟨w.heap.size, 10, none⟩ = some (.slice (some ⟨g2, o2, none⟩) sil sic) ∧ w'.cell? ⟨w.heap.size + 1, 10, none⟩ = some (.slice (some ⟨g1, o1, none⟩) qil qic) ∧ w'.cell? ⟨g2, o2 + k * 3, none⟩ = some (.int .i64 U) ∧ w'.cell? ⟨g2, o2 + k * 3 + 1, none⟩ = some (.int .i64 V) ∧ w'.cell? ⟨g2, o2 + k * 3 + 2, none⟩ = some (.int .i64 S) ∧ w'.cell? ⟨g1, o1 + i * 3, none⟩ = some (.int .i64 X) ∧ w'.cell? ⟨g1, o1 + i * 3 + 1, none⟩ = some (.int .i64 Y) ∧ w'.cell? ⟨g1, o1 + i * 3 + 2, none⟩ = some (.int .i64 R)) (first | exact HSK.out _ HB.out | exact HSK.out _ (Below.refl _ _).drew | exact HSK.out _ (Below.refl _ _) | fail)
                    (first
                      | (go_at_call 41; refine (HCL.out _).mono ?_; rintro e w5 ⟨rfl, hb5⟩; have HB' : Hid (Below wr.heap.size wr w5) := HB.out.trans (hb5.mono HB.out.size); clear hb5 HB; have HB := HB'; clear HB'))
                  all_goals (
                    have HX5 : Hid (Below W1.heap.size W1 w5) := HBK.out.trans (HB.out.mono HBK.out.size)
                    clear HB HSK HCL
                    go_wp2
                    go_roundw
                    case rel => exact ⟨k + 1, E2, by omega, by go_num, rfl, HNX, HX5⟩
                    case measure => (simp [intOf]; omega))
              · have hkn : ¬ (k : Int) < (sil : Int) := by omega
                have HBE : Hid (B = (false || s.ins.any fun d => withinD d (X, Y, R))) := by
                  (show _ = _)
                  rw [HAC.out, List.take_of_length_le (by rw [HSI.out.size]; omega)]
                clear HAC
                cases B with
                | true =>
                  have HNT : Hid ((q.ins.take (i + 1)).all (fun wide => s.ins.any fun d => withinD d wide) = true) := by
                    (show _ = _)
                    rw [List.take_add_one, HL1.out, List.all_append, HAI.out]
                    simpa using HBE.out.symm
                  go_wp2
                  go_roundw
                  case rel => exact ⟨i + 1, by omega, by go_num, HNT, HBK⟩
                  case measure => (simp [intOf]; omega)
                | false =>
                  have HRF : Hid (E = false) := by
                    (show _ = _)
                    rw [← HRS.out]
                    have : insU s.ins q.ins = false := by
                      unfold insU
                      rw [List.all_eq_false]
                      exact ⟨(X, Y, R), List.mem_of_getElem? HL1.out, by have h := HBE.out; rw [Bool.false_or] at h; rw [← h]; simp⟩
                    rw [this]; rfl
                  have HXF : Hid (Below w.heap.size w wr) := HX1.out.trans (HBK.out.mono HX1.out.size)
                  go_wp2
                  go_returns
                  exact ⟨by rw [HRF.out]; rfl, HXF.out⟩
          · have hin : ¬ (i : Int) < (qil : Int) := by omega
            have HIU : Hid (insU s.ins q.ins = true) := by
              have h1 := HAI.out
              rw [List.take_of_length_le (by rw [HQI.out.size]; omega)] at h1
              exact h1
            clear HAI t0 t1 t3
            obtain ⟨u0, u1, u2, u3⟩ := HKS.out wr HBi.out
            go_wp2_with fail
            clear u0 u1 u2 u3
            go_loopw [8] (fun t8 wr => ∃ (i : Nat), i ≤ qol ∧ t8 = .int .i64 (i : Int) ∧ Hid ((q.outs.take i).all (fun hole => (s.outs.any fun d => withinD hole d) || (s.ins.any fun d => apartD d hole)) = true) ∧ Hid (Below W1.heap.size W1 wr)) (fun t8 _ => qol - (intOf t8).toNat)
            case atStart => exact ⟨0, Nat.zero_le _, rfl, rfl, HBi⟩
            case round =>
              obtain ⟨i, hi, rfl, HAI, HBi⟩ := hrel
              obtain ⟨t0, t1, t2, t3⟩ := HKS.out wr HBi.out
              by_cases hil : i < qol
              · have hi1 : (i : Int) < (qol : Int) := by omega
                have hi0 : (0 : Int) ≤ (i : Int) := by omega
                obtain ⟨g1, o1, X, Y, R, ha1, hl1, hc1⟩ := HQO.out.at_ i hil
                have HL1 : Hid (q.outs[i]? = some (X, Y, R)) := hl1
                have HOK1 : Hid (OkD (X, Y, R)) := HOQO.out _ (List.mem_of_getElem? hl1)
                have HC1 : Hid (∀ w', Below W1.heap.size W1 w' → w'.cell? ⟨g1, o1 + i * 3, none⟩ = some (.int .i64 X) ∧ w'.cell? ⟨g1, o1 + i * 3 + 1, none⟩ = some (.int .i64 Y) ∧ w'.cell? ⟨g1, o1 + i * 3 + 2, none⟩ = some (.int .i64 R)) := hc1
                clear hl1 hc1
                subst ha1
                go_wp2_with fail
                clear t0 t1 t2 t3
                go_loopw [9, 10] (fun tA tK wr => ∃ (k : Nat) (B : Bool), k ≤ sol ∧ tK = .int .i64 (k : Int) ∧ tA = .bool B ∧ Hid (B = (false || (s.outs.take k).any fun d => withinD (X, Y, R) d)) ∧ Hid (Below W1.heap.size W1 wr)) (fun _ tK _ => sol - (intOf tK).toNat)
                case atStart => exact ⟨0, false, Nat.zero_le _, rfl, rfl, (by (show _ = _); simp), HBi⟩
                case round =>
                  obtain ⟨k, B, hk, rfl, rfl, HAC, HBK⟩ := hrel
                  obtain ⟨t0, t1, t2, t3⟩ := HKS.out wr HBK.out
                  by_cases hkl : k < sol
                  · have hk1 : (k : Int) < (sol : Int) := by omega
                    have hk0 : (0 : Int) ≤ (k : Int) := by omega
                    obtain ⟨g2, o2, U, V, S, ha2, hl2, hc2⟩ := HSO.out.at_ k hkl
                    have HOK2 : Hid (OkD (U, V, S)) := HOO.out _ (List.mem_of_getElem? hl2)
                    have HTK : Hid ((false || (s.outs.take (k + 1)).any fun d => withinD (X, Y, R) d) = (B || withinD (X, Y, R) (U, V, S))) := by
                      (show _ = _)
                      rw [List.take_add_one, hl2, List.any_append, HAC.out]
                      simp
                    cases B with
                    | true =>
                      have HNX : Hid (true = (false || (s.outs.take (k + 1)).any fun d => withinD (X, Y, R) d)) := by (show _ = _); rw [HTK.out]; rfl
                      clear ha2 hl2 hc2
                      go_upto_region 30 with fail
                      go_quiet (fail)
                      generalize hnq : wr.drewN _ = w2
                      have HB2 : Hid (Below W1.heap.size W1 w2) := by (show Below _ _ _); rw [← hnq]; exact HBK.out.trans ((below_drewN2 wr _).mono HBK.out.size)
                      clear hnq t0 t1 t2 t3
                      go_wp2
                      go_roundw
                      case rel => exact ⟨k + 1, true, by omega, by go_num, rfl, HNX, HB2⟩
                      case measure => (simp [intOf]; omega)
                    | false =>
                      have HSK : Hid (∀ w', Below wr.heap.size wr w' → w'.cell? ⟨w.heap.size, 11, none⟩ = some (.slice soa sol soc) ∧ w'.cell? ⟨w.heap.size + 1, 11, none⟩ = some (.slice (some ⟨g1, o1, none⟩) qol qoc) ∧ w'.cell? ⟨g2, o2 + k * 3, none⟩ = some (.int .i64 U) ∧ w'.cell? ⟨g2, o2 + k * 3 + 1, none⟩ = some (.int .i64 V) ∧ w'.cell? ⟨g2, o2 + k * 3 + 2, none⟩ = some (.int .i64 S) ∧ w'.cell? ⟨g1, o1 + i * 3, none⟩ = some (.int .i64 X) ∧ w'.cell? ⟨g1, o1 + i * 3 + 1, none⟩ = some (.int .i64 Y) ∧ w'.cell? ⟨g1, o1 + i * 3 + 2, none⟩ = some (.int .i64 R)) := by
                        intro w' hb
                        have hb1 := HBK.out.trans (hb.mono HBK.out.size)
                        obtain ⟨x0, x1, x2, x3⟩ := HKS.out w' hb1
                        obtain ⟨y0, y1, y2⟩ := hc2 w' hb1
                        obtain ⟨z0, z1, z2⟩ := HC1.out w' hb1
                        exact ⟨x1, x3, y0, y1, y2, z0, z1, z2⟩
                      rw [ha2] at HSK t1
                      have HCL : Hid (∀ w', Calls Tryz.prog 41 #[.agg #[.int .i64 X, .int .i64 Y, .int .i64 R], .agg #[.int .i64 U, .int .i64 V, .int .i64 S]] w' fun e w'' => e = .returned (.bool (withinD (X, Y, R) (U, V, S))) ∧ Below w'.heap.size w' w'') := fun w' => ref_Within X Y R U V S w' HOK1.out HOK2.out
                      obtain ⟨E2, HE2⟩ : ∃ E2, Hid (E2 = withinD (X, Y, R) (U, V, S)) := ⟨_, rfl⟩
                      rw [← HE2.out] at HCL
                      have HNX : Hid (E2 = (false || (s.outs.take (k + 1)).any fun d => withinD (X, Y, R) d)) := by (show _ = _); rw [HTK.out, HE2.out]; rfl
                      clear ha2 hl2 hc2 HTK HE2
                      go_upto_region 30 with fail
                      have HB : Hid (Below wr.heap.size wr wr.drew) := (Below.refl _ _).drew
                      clear t0 t1 t2 t3
                      go_region_held3 (fun w' => w'.cell? ⟨w.heap.size, 11, none⟩ = some (.slice (some ⟨g2, o2, none⟩) sol soc) ∧ w'.cell? ⟨w.heap.size + 1, 11, none⟩ = some (.slice (some ⟨g1, o1, none⟩) qol qoc) ∧ w'.cell? ⟨g2, o2 + k * 3, none⟩ = some (.int .i64 U) ∧ w'.cell? ⟨g2, o2 + k * 3 + 1, none⟩ = some (.int .i64 V) ∧ w'.cell? ⟨g2, o2 + k * 3 + 2, none⟩ = some (.int .i64 S) ∧ w'.cell? ⟨g1, o1 + i * 3, none⟩ = some (.int .i64 X) ∧ w'.cell? ⟨g1, o1 + i * 3 + 1, none⟩ = some (.int .i64 Y) ∧ w'.cell? ⟨g1, o1 + i * 3 + 2, none⟩ = some (.int .i64 R)) (first | exact HSK.out _ HB.out | exact HSK.out _ (Below.refl _ _).drew | exact HSK.out _ (Below.refl _ _) | fail)
                        (first
                          | (go_at_call 41; refine (HCL.out _).mono ?_; rintro e w5 ⟨rfl, hb5⟩; have HB' : Hid (Below wr.heap.size wr w5) := HB.out.trans (hb5.mono HB.out.size); clear hb5 HB; have HB := HB'; clear HB'))
                      all_goals (
                        have HX5 : Hid (Below W1.heap.size W1 w5) := HBK.out.trans (HB.out.mono HBK.out.size)
                        clear HB HSK HCL
                        go_wp2
                        go_roundw
                        case rel => exact ⟨k + 1, E2, by omega, by go_num, rfl, HNX, HX5⟩
                        case measure => (simp [intOf]; omega))
                  · have hkn : ¬ (k : Int) < (sol : Int) := by omega
                    have HBE : Hid (B = (false || s.outs.any fun d => withinD (X, Y, R) d)) := by
                      (show _ = _)
                      rw [HAC.out, List.take_of_length_le (by rw [HSO.out.size]; omega)]
                    clear HAC
                    have HB0E : Hid (B = (false || s.outs.any fun d => withinD (X, Y, R) d)) := HBE
                    have HB0 : Hid (Below W1.heap.size W1 wr) := HBK
                    obtain ⟨B0, hB0⟩ : ∃ B0, B0 = B := ⟨_, rfl⟩
                    rw [← hB0] at HB0E ⊢
                    clear hB0 HBE
                    go_wp2_with fail
                    clear t0 t1 t2 t3
                    go_loopw [9, 11] (fun tA tK wr => ∃ (k : Nat) (B : Bool), k ≤ sil ∧ tK = .int .i64 (k : Int) ∧ tA = .bool B ∧ Hid (B = (B0 || (s.ins.take k).any fun d => apartD d (X, Y, R))) ∧ Hid (Below W1.heap.size W1 wr)) (fun _ tK _ => sil - (intOf tK).toNat)
                    case atStart => exact ⟨0, B0, Nat.zero_le _, rfl, rfl, (by (show _ = _); simp), HB0⟩
                    case round =>
                      obtain ⟨k, B, hk, rfl, rfl, HAC, HBK⟩ := hrel
                      obtain ⟨t0, t1, t2, t3⟩ := HKS.out wr HBK.out
                      by_cases hkl : k < sil
                      · have hk1 : (k : Int) < (sil : Int) := by omega
                        have hk0 : (0 : Int) ≤ (k : Int) := by omega
                        obtain ⟨g2, o2, U, V, S, ha2, hl2, hc2⟩ := HSI.out.at_ k hkl
                        have HOK2 : Hid (OkD (U, V, S)) := HOI.out _ (List.mem_of_getElem? hl2)
                        have HTK : Hid ((B0 || (s.ins.take (k + 1)).any fun d => apartD d (X, Y, R)) = (B || apartD (U, V, S) (X, Y, R))) := by
                          (show _ = _)
                          rw [List.take_add_one, hl2, List.any_append, HAC.out]
                          simp [Bool.or_assoc]
                        cases B with
                        | true =>
                          have HNX : Hid (true = (B0 || (s.ins.take (k + 1)).any fun d => apartD d (X, Y, R))) := by (show _ = _); rw [HTK.out]; rfl
                          clear ha2 hl2 hc2
                          go_upto_region 34 with fail
                          go_quiet (fail)
                          generalize hnq : wr.drewN _ = w2
                          have HB2 : Hid (Below W1.heap.size W1 w2) := by (show Below _ _ _); rw [← hnq]; exact HBK.out.trans ((below_drewN2 wr _).mono HBK.out.size)
                          clear hnq t0 t1 t2 t3
                          go_wp2
                          go_roundw
                          case rel => exact ⟨k + 1, true, by omega, by go_num, rfl, HNX, HB2⟩
                          case measure => (simp [intOf]; omega)
                        | false =>
                          have HSK : Hid (∀ w', Below wr.heap.size wr w' → w'.cell? ⟨w.heap.size, 10, none⟩ = some (.slice sia sil sic) ∧ w'.cell? ⟨w.heap.size + 1, 11, none⟩ = some (.slice (some ⟨g1, o1, none⟩) qol qoc) ∧ w'.cell? ⟨g2, o2 + k * 3, none⟩ = some (.int .i64 U) ∧ w'.cell? ⟨g2, o2 + k * 3 + 1, none⟩ = some (.int .i64 V) ∧ w'.cell? ⟨g2, o2 + k * 3 + 2, none⟩ = some (.int .i64 S) ∧ w'.cell? ⟨g1, o1 + i * 3, none⟩ = some (.int .i64 X) ∧ w'.cell? ⟨g1, o1 + i * 3 + 1, none⟩ = some (.int .i64 Y) ∧ w'.cell? ⟨g1, o1 + i * 3 + 2, none⟩ = some (.int .i64 R)) := by
                            intro w' hb
                            have hb1 := HBK.out.trans (hb.mono HBK.out.size)
                            obtain ⟨x0, x1, x2, x3⟩ := HKS.out w' hb1
                            obtain ⟨y0, y1, y2⟩ := hc2 w' hb1
                            obtain ⟨z0, z1, z2⟩ := HC1.out w' hb1
                            exact ⟨x0, x3, y0, y1, y2, z0, z1, z2⟩
                          rw [ha2] at HSK t0
                          have HCL : Hid (∀ w', Calls Tryz.prog 42 #[.agg #[.int .i64 U, .int .i64 V, .int .i64 S], .agg #[.int .i64 X, .int .i64 Y, .int .i64 R]] w' fun e w'' => e = .returned (.bool (apartD (U, V, S) (X, Y, R))) ∧ Below w'.heap.size w' w'') := fun w' => ref_Apart U V S X Y R w' HOK2.out HOK1.out
                          obtain ⟨E2, HE2⟩ : ∃ E2, Hid (E2 = apartD (U, V, S) (X, Y, R)) := ⟨_, rfl⟩
                          rw [← HE2.out] at HCL
                          have HNX : Hid (E2 = (B0 || (s.ins.take (k + 1)).any fun d => apartD d (X, Y, R))) := by (show _ = _); rw [HTK.out, HE2.out]; rfl
                          clear ha2 hl2 hc2 HTK HE2
                          go_upto_region 34 with fail
                          have HB : Hid (Below wr.heap.size wr wr.drew) := (Below.refl _ _).drew
                          clear t0 t1 t2 t3
                          go_region_held3 (fun w' => w'.cell? ⟨w.heap.size, 10, none⟩ = some (.slice (some ⟨g2, o2, none⟩) sil sic) ∧ w'.cell? ⟨w.heap.size + 1, 11, none⟩ = some (.slice (some ⟨g1, o1, none⟩) qol qoc) ∧ w'.cell? ⟨g2, o2 + k * 3, none⟩ = some (.int .i64 U) ∧ w'.cell? ⟨g2, o2 + k * 3 + 1, none⟩ = some (.int .i64 V) ∧ w'.cell? ⟨g2, o2 + k * 3 + 2, none⟩ = some (.int .i64 S) ∧ w'.cell? ⟨g1, o1 + i * 3, none⟩ = some (.int .i64 X) ∧ w'.cell? ⟨g1, o1 + i * 3 + 1, none⟩ = some (.int .i64 Y) ∧ w'.cell? ⟨g1, o1 + i * 3 + 2, none⟩ = some (.int .i64 R)) (first | exact HSK.out _ HB.out | exact HSK.out _ (Below.refl _ _).drew | exact HSK.out _ (Below.refl _ _) | fail)
                            (first
                              | (go_at_call 42; refine (HCL.out _).mono ?_; rintro e w5 ⟨rfl, hb5⟩; have HB' : Hid (Below wr.heap.size wr w5) := HB.out.trans (hb5.mono HB.out.size); clear hb5 HB; have HB := HB'; clear HB'))
                          all_goals (
                            have HX5 : Hid (Below W1.heap.size W1 w5) := HBK.out.trans (HB.out.mono HBK.out.size)
                            clear HB HSK HCL
                            go_wp2
                            go_roundw
                            case rel => exact ⟨k + 1, E2, by omega, by go_num, rfl, HNX, HX5⟩
                            case measure => (simp [intOf]; omega))
                      · have hkn : ¬ (k : Int) < (sil : Int) := by omega
                        have HBE : Hid (B = (B0 || s.ins.any fun d => apartD d (X, Y, R))) := by
                          (show _ = _)
                          rw [HAC.out, List.take_of_length_le (by rw [HSI.out.size]; omega)]
                        clear HAC
                        cases B with
                        | true =>
                          have HNT : Hid ((q.outs.take (i + 1)).all (fun hole => (s.outs.any fun d => withinD hole d) || (s.ins.any fun d => apartD d hole)) = true) := by
                            (show _ = _)
                            rw [List.take_add_one, HL1.out, List.all_append, HAI.out]
                            have h := HBE.out
                            rw [HB0E.out] at h
                            simpa using h.symm
                          go_wp2
                          go_roundw
                          case rel => exact ⟨i + 1, by omega, by go_num, HNT, HBK⟩
                          case measure => (simp [intOf]; omega)
                        | false =>
                          have HRF : Hid (E = false) := by
                            (show _ = _)
                            rw [← HRS.out, HIU.out, outsR]
                            have : (q.outs.all fun hole => (s.outs.any fun d => withinD hole d) || (s.ins.any fun d => apartD d hole)) = false := by
                              rw [List.all_eq_false]
                              exact ⟨(X, Y, R), List.mem_of_getElem? HL1.out, by have h := HBE.out; rw [HB0E.out, Bool.false_or] at h; rw [← h]; simp⟩
                            rw [this]; rfl
                          have HXF : Hid (Below w.heap.size w wr) := HX1.out.trans (HBK.out.mono HX1.out.size)
                          go_wp2
                          go_returns
                          exact ⟨by rw [HRF.out]; rfl, HXF.out⟩
              · have hin : ¬ (i : Int) < (qol : Int) := by omega
                have HRT : Hid (E = true) := by
                  (show _ = _)
                  have h1 := HAI.out
                  rw [List.take_of_length_le (by rw [HQO.out.size]; omega)] at h1
                  rw [← HRS.out, HIU.out, outsR, h1]; rfl
                have HXF : Hid (Below w.heap.size w wr) := HX1.out.trans (HBi.out.mono HX1.out.size)
                go_wp2
                go_returns
                exact ⟨by rw [HRT.out]; rfl, HXF.out⟩
set_option maxHeartbeats 16000000 in
theorem ref_side1 (s q : Sq) (w : World) (hs : SideOk w s) (hq : SideOk w q) (hkq : s.kd = q.kd) (hsab : s.ab = true) (hqab : q.ab = true) : Calls Tryz.prog 28 #[.agg (sqc s).toArray, .agg (sqc q).toArray] w fun e w' => e = .returned (.bool (sideIn s q)) ∧ Below w.heap.size w w' := by
  obtain ⟨W1, HW1⟩ : ∃ W1, Hid (W1 = (w.alloc (.cells (sqc s).toArray 40)).alloc (.cells (sqc q).toArray 40)) := ⟨_, rfl⟩
  have HX1 : Hid (Below w.heap.size w W1) := by (show Below _ _ _); rw [HW1.out]; exact below_two _ _ _
  have HK0 : Hid (Blk W1 w.heap.size (sqc s).toArray 40) := by (show Blk _ _ _ _); rw [HW1.out]; exact blk_two0 _ _ _ _
  have HK1 : Hid (Blk W1 (w.heap.size + 1) (sqc q).toArray 40) := by (show Blk _ _ _ _); rw [HW1.out]; exact blk_two1 _ _ _ _
  have HSOK : Hid (SideOk w s) := hs
  have HQOK : Hid (SideOk w q) := hq
  have HKQ : Hid (s.kd = q.kd) := hkq
  have HN := ref_Nothing s W1 hs.kd hs.tr
  obtain ⟨N, hN⟩ : ∃ N, N = nothS s := ⟨_, rfl⟩
  obtain ⟨E, HE⟩ : ∃ E, Hid (E = sideIn s q) := ⟨_, rfl⟩
  have HNE : Hid (E = (N || sideB s q)) := by (show _ = _); rw [HE.out, sideIn, hN, hsab, hqab]; rfl
  rw [← hN] at HN
  rw [← HE.out]
  have k1 : W1.cell? ⟨w.heap.size, 1, none⟩ = some (.int .i64 s.kd) := HK0.out.cell 1 rfl
  have m1 : W1.cell? ⟨w.heap.size + 1, 1, none⟩ = some (.int .i64 q.kd) := HK1.out.cell 1 rfl
  have k2 : W1.cell? ⟨w.heap.size, 2, none⟩ = some (.bool s.ab) := HK0.out.cell 2 rfl
  have m2 : W1.cell? ⟨w.heap.size + 1, 2, none⟩ = some (.bool q.ab) := HK1.out.cell 2 rfl
  rw [hsab] at k2
  rw [hqab] at m2
  have g1 : (s.kd != q.kd) = false := by rw [bne_eq_false_iff_eq]; exact hkq
  have g2 : (s.kd == q.kd) = true := by rw [beq_iff_eq]; exact hkq
  have h4 : s.kd = 1 ∨ s.kd = 2 ∨ s.kd = 3 ∨ s.kd = 4 := by have := hs.kd; omega
  clear hs hq hkq hN HE hsab hqab
  go_enter Tryz.func28, Tryz.ntmps28
  go_upto_region 1 with fail
  rw [← HW1.out]
  go_wp2_with (guard_target =~ wpList _ _ _ (Oper.mk (some 26) _ _ _ _ _ :: _) _ _; refine wpList_load_mid rfl 40 (.tmp 2) rfl w.heap.size 0 rfl (sqc s) _ HK0.out.all Tryz.underlying40 rfl (by rfl) ?_)
  refine HN.mono ?_
  rintro e w2 ⟨rfl, hb2⟩
  have HY2 : Hid (Below W1.heap.size W1 w2) := hb2
  have HX2 : Hid (Below w.heap.size w w2) := HX1.out.trans (hb2.mono HX1.out.size)
  have HK2 : Hid (Blk w2 w.heap.size (sqc s).toArray 40) := HK0.out.stay hb2
  have HK3 : Hid (Blk w2 (w.heap.size + 1) (sqc q).toArray 40) := HK1.out.stay hb2
  clear hb2 HN k2 m2 k1 m1 g1 g2
  cases N with
  | true =>
    have HRT : Hid (E = true) := by (show _ = _); rw [HNE.out]; rfl
    go_wp2
    go_returns
    exact ⟨by rw [HRT.out]; rfl, HX2.out⟩
  | false =>
    have HRS : Hid (sideB s q = E) := by (show _ = _); rw [HNE.out]; rfl
    rcases h4 with h4 | h4 | h4 | h4
    · have HSB : Hid (sideB s q = (decide (q.lo ≤ s.lo) && decide (s.hi ≤ q.hi))) := by (show _ = _); rw [sideB, if_pos h4]
      rw [HSB.out] at HRS
      have z1 : w2.cell? ⟨w.heap.size, 1, none⟩ = some (.int .i64 s.kd) := HK2.out.cell 1 rfl
      rw [h4] at z1
      have z3 : w2.cell? ⟨w.heap.size, 3, none⟩ = some (.int .i64 s.lo) := HK2.out.cell 3 rfl
      have z4 : w2.cell? ⟨w.heap.size, 4, none⟩ = some (.int .i64 s.hi) := HK2.out.cell 4 rfl
      have y3 : w2.cell? ⟨w.heap.size + 1, 3, none⟩ = some (.int .i64 q.lo) := HK3.out.cell 3 rfl
      have y4 : w2.cell? ⟨w.heap.size + 1, 4, none⟩ = some (.int .i64 q.hi) := HK3.out.cell 4 rfl
      clear h4
      by_cases hlo : q.lo ≤ s.lo
      · rw [decide_eq_true hlo, Bool.true_and] at HRS
        go_wp2
        go_returns
        exact ⟨by rw [← HRS.out]; rfl, HX2.out⟩
      · rw [decide_eq_false hlo, Bool.false_and] at HRS
        go_wp2
        go_returns
        exact ⟨by rw [← HRS.out]; rfl, HX2.out⟩
    · have HSB : Hid (sideB s q = (leB q.fr s.fr && (q.op || (!s.op && leB s.to q.to)))) := by (show _ = _); rw [sideB, if_neg (by omega), if_pos h4]
      rw [HSB.out] at HRS
      have z1 : w2.cell? ⟨w.heap.size, 1, none⟩ = some (.int .i64 s.kd) := HK2.out.cell 1 rfl
      rw [h4] at z1
      have z5 : w2.cell? ⟨w.heap.size, 5, none⟩ = some (.string s.fr) := HK2.out.cell 5 rfl
      have z6 : w2.cell? ⟨w.heap.size, 6, none⟩ = some (.string s.to) := HK2.out.cell 6 rfl
      have z7 : w2.cell? ⟨w.heap.size, 7, none⟩ = some (.bool s.op) := HK2.out.cell 7 rfl
      have y5 : w2.cell? ⟨w.heap.size + 1, 5, none⟩ = some (.string q.fr) := HK3.out.cell 5 rfl
      have y6 : w2.cell? ⟨w.heap.size + 1, 6, none⟩ = some (.string q.to) := HK3.out.cell 6 rfl
      have y7 : w2.cell? ⟨w.heap.size + 1, 7, none⟩ = some (.bool q.op) := HK3.out.cell 7 rfl
      clear h4
      obtain ⟨sop, hsop⟩ : ∃ b, b = s.op := ⟨_, rfl⟩
      obtain ⟨qop, hqop⟩ : ∃ b, b = q.op := ⟨_, rfl⟩
      rw [← hsop] at z7
      rw [← hqop] at y7
      rw [← hsop, ← hqop] at HRS
      clear hsop hqop
      obtain ⟨L1, HL1⟩ : ∃ L, Hid (L = leB q.fr s.fr) := ⟨_, rfl⟩
      rw [← HL1.out] at HRS
      have e1 : (Op.bytesLess q.fr.toList s.fr.toList || q.fr.toList == s.fr.toList) = L1 := HL1.out.symm
      cases L1 with
      | false =>
        rw [Bool.false_and] at HRS
        have e2 : Op.bytesLess q.fr.toList s.fr.toList = false := (Bool.or_eq_false_iff.1 e1).1
        have e3 : (q.fr.toList == s.fr.toList) = false := (Bool.or_eq_false_iff.1 e1).2
        go_wp2
        go_returns
        exact ⟨by rw [← HRS.out]; rfl, HX2.out⟩
      | true =>
        rw [Bool.true_and] at HRS
        cases qop with
        | true =>
          go_wp2
          all_goals (
            go_returns
            exact ⟨by rw [← HRS.out]; rfl, HX2.out⟩)
        | false =>
          cases sop with
          | true =>
            go_wp2
            all_goals (
              go_returns
              exact ⟨by rw [← HRS.out]; rfl, HX2.out⟩)
          | false =>
            go_wp2
            all_goals (
              go_returns
              exact ⟨by rw [← HRS.out]; rfl, HX2.out⟩)
    · have HSB : Hid (sideB s q = truthU s.tr q.tr) := by (show _ = _); rw [sideB, if_neg (by omega), if_neg (by omega), if_pos h4]
      rw [HSB.out] at HRS
      have z1 : w2.cell? ⟨w.heap.size, 1, none⟩ = some (.int .i64 s.kd) := HK2.out.cell 1 rfl
      rw [h4] at z1
      have z8 : w2.cell? ⟨w.heap.size, 8, none⟩ = some (.int .u8 s.tr) := HK2.out.cell 8 rfl
      have y8 : w2.cell? ⟨w.heap.size + 1, 8, none⟩ = some (.int .u8 q.tr) := HK3.out.cell 8 rfl
      clear h4
      have hst := HSOK.out.tr
      have hqt := HQOK.out.tr
      obtain ⟨T, HT⟩ : ∃ T, Hid (T = s.tr) := ⟨_, rfl⟩
      obtain ⟨P, HP⟩ : ∃ T, Hid (T = q.tr) := ⟨_, rfl⟩
      rw [← HT.out] at z8 hst HRS
      rw [← HP.out] at y8 hqt HRS
      obtain ⟨M1, HM1⟩ : ∃ M, Hid (M = Int.tmod T 2) := ⟨_, rfl⟩
      obtain ⟨M2, HM2⟩ : ∃ M, Hid (M = Int.tmod P 2) := ⟨_, rfl⟩
      obtain ⟨D1, HD1⟩ : ∃ M, Hid (M = Int.tdiv T 2) := ⟨_, rfl⟩
      obtain ⟨D2, HD2⟩ : ∃ M, Hid (M = Int.tdiv P 2) := ⟨_, rfl⟩
      obtain ⟨N1, HN1⟩ : ∃ M, Hid (M = Int.tmod D1 2) := ⟨_, rfl⟩
      obtain ⟨N2, HN2⟩ : ∃ M, Hid (M = Int.tmod D2 2) := ⟨_, rfl⟩
      have v1 : M1 = T % 2 := by rw [HM1.out, Int.tmod_eq_emod_of_nonneg hst.1]
      have v2 : M2 = P % 2 := by rw [HM2.out, Int.tmod_eq_emod_of_nonneg hqt.1]
      have v3 : D1 = T / 2 := by rw [HD1.out, Int.tdiv_eq_ediv_of_nonneg hst.1]
      have v4 : D2 = P / 2 := by rw [HD2.out, Int.tdiv_eq_ediv_of_nonneg hqt.1]
      have v5 : N1 = T / 2 % 2 := by rw [HN1.out, Int.tmod_eq_emod_of_nonneg (by omega), v3]
      have v6 : N2 = P / 2 % 2 := by rw [HN2.out, Int.tmod_eq_emod_of_nonneg (by omega), v4]
      have HTT : Hid (truthU T P = ((M1 == 0 || M2 == 1) && (N1 == 0 || N2 == 1))) := by
        (show _ = _)
        unfold truthU
        rw [← v1, ← v2, ← v5, ← v6]
        have hd : ∀ (a b : Int), decide (a = b) = (a == b) := fun a b => by
          by_cases h : a = b
          · rw [decide_eq_true h, h]; simp
          · rw [decide_eq_false h]; exact (beq_eq_false_iff_ne.2 h).symm
        rw [hd, hd, hd, hd]
      rw [HTT.out] at HRS
      have e1 : Int.tmod T 2 = M1 := HM1.out.symm
      have e2 : Int.tmod P 2 = M2 := HM2.out.symm
      have e3 : Int.tdiv T 2 = D1 := HD1.out.symm
      have e4 : Int.tdiv P 2 = D2 := HD2.out.symm
      have e5 : Int.tmod D1 2 = N1 := HN1.out.symm
      have e6 : Int.tmod D2 2 = N2 := HN2.out.symm
      have w1 : IntKind.u8.wrap M1 = M1 := by rw [IntKind.wrap_u8]; omega
      have w2' : IntKind.u8.wrap M2 = M2 := by rw [IntKind.wrap_u8]; omega
      have w3 : IntKind.u8.wrap D1 = D1 := by rw [IntKind.wrap_u8]; omega
      have w4 : IntKind.u8.wrap D2 = D2 := by rw [IntKind.wrap_u8]; omega
      have w5 : IntKind.u8.wrap N1 = N1 := by rw [IntKind.wrap_u8]; omega
      have w6 : IntKind.u8.wrap N2 = N2 := by rw [IntKind.wrap_u8]; omega
      clear hst hqt v1 v2 v3 v4 v5 v6
      obtain ⟨b1, hb1⟩ : ∃ b, (M1 == 0) = b := ⟨_, rfl⟩
      obtain ⟨b2, hb2⟩ : ∃ b, (M2 == 1) = b := ⟨_, rfl⟩
      obtain ⟨b3, hb3⟩ : ∃ b, (N1 == 0) = b := ⟨_, rfl⟩
      obtain ⟨b4, hb4⟩ : ∃ b, (N2 == 1) = b := ⟨_, rfl⟩
      rw [hb1, hb2, hb3, hb4] at HRS
      cases b1 <;> cases b2 <;> cases b3 <;> cases b4 <;>
        (go_wp2; go_returns; exact ⟨by rw [← HRS.out]; rfl, HX2.out⟩)
    · have HSB : Hid (sideB s q = (!q.no && insU s.ins q.ins && outsU s.ins s.outs q.outs)) := by (show _ = _); rw [sideB, if_neg (by omega), if_neg (by omega), if_neg (by omega)]
      rw [HSB.out] at HRS
      have z1 : w2.cell? ⟨w.heap.size, 1, none⟩ = some (.int .i64 s.kd) := HK2.out.cell 1 rfl
      rw [h4] at z1
      have y9 : w2.cell? ⟨w.heap.size + 1, 9, none⟩ = some (.bool q.no) := HK3.out.cell 9 rfl
      obtain ⟨qno, hqno⟩ : ∃ b, b = q.no := ⟨_, rfl⟩
      rw [← hqno] at y9 HRS
      have hsm := HSOK.out.small h4
      have hqm := HQOK.out.small (HKQ.out.symm.trans h4)
      have hso := HSOK.out.ok h4
      have hqo := HQOK.out.ok (HKQ.out.symm.trans h4)
      have HSI : Hid (DcsRd W1 s.ia s.il s.ins) := HSOK.out.ins.below HX1.out
      have HSO : Hid (DcsRd W1 s.oa s.ol s.outs) := HSOK.out.outs.below HX1.out
      have HQI : Hid (DcsRd W1 q.ia q.il q.ins) := HQOK.out.ins.below HX1.out
      have HQO : Hid (DcsRd W1 q.oa q.ol q.outs) := HQOK.out.outs.below HX1.out
      have HOI : Hid (∀ t ∈ s.ins, OkD t) := hso.1
      have HOO : Hid (∀ t ∈ s.outs, OkD t) := hso.2
      have HOQI : Hid (∀ t ∈ q.ins, OkD t) := hqo.1
      have HOQO : Hid (∀ t ∈ q.outs, OkD t) := hqo.2
      have HKS : Hid (∀ w', Below W1.heap.size W1 w' → w'.cell? ⟨w.heap.size, 10, none⟩ = some (.slice s.ia s.il s.ic) ∧ w'.cell? ⟨w.heap.size, 11, none⟩ = some (.slice s.oa s.ol s.oc) ∧ w'.cell? ⟨w.heap.size + 1, 10, none⟩ = some (.slice q.ia q.il q.ic) ∧ w'.cell? ⟨w.heap.size + 1, 11, none⟩ = some (.slice q.oa q.ol q.oc)) := fun w' hb => ⟨(HK0.out.stay hb).cell 10 rfl, (HK0.out.stay hb).cell 11 rfl, (HK1.out.stay hb).cell 10 rfl, (HK1.out.stay hb).cell 11 rfl⟩
      clear h4 hqno hso hqo
      obtain ⟨sia, hsia⟩ : ∃ x, x = s.ia := ⟨_, rfl⟩
      obtain ⟨sil, hsil⟩ : ∃ x, x = s.il := ⟨_, rfl⟩
      obtain ⟨sic, hsic⟩ : ∃ x, x = s.ic := ⟨_, rfl⟩
      obtain ⟨soa, hsoa⟩ : ∃ x, x = s.oa := ⟨_, rfl⟩
      obtain ⟨sol, hsol⟩ : ∃ x, x = s.ol := ⟨_, rfl⟩
      obtain ⟨soc, hsoc⟩ : ∃ x, x = s.oc := ⟨_, rfl⟩
      obtain ⟨qia, hqia⟩ : ∃ x, x = q.ia := ⟨_, rfl⟩
      obtain ⟨qil, hqil⟩ : ∃ x, x = q.il := ⟨_, rfl⟩
      obtain ⟨qic, hqic⟩ : ∃ x, x = q.ic := ⟨_, rfl⟩
      obtain ⟨qoa, hqoa⟩ : ∃ x, x = q.oa := ⟨_, rfl⟩
      obtain ⟨qol, hqol⟩ : ∃ x, x = q.ol := ⟨_, rfl⟩
      obtain ⟨qoc, hqoc⟩ : ∃ x, x = q.oc := ⟨_, rfl⟩
      rw [← hsia, ← hsil] at HSI
      rw [← hsoa, ← hsol] at HSO
      rw [← hqia, ← hqil] at HQI
      rw [← hqoa, ← hqol] at HQO
      rw [← hsia, ← hsil, ← hsic, ← hsoa, ← hsol, ← hsoc, ← hqia, ← hqil, ← hqic, ← hqoa, ← hqol, ← hqoc] at HKS
      rw [← hsil, ← hsol] at hsm
      rw [← hqil, ← hqol] at hqm
      clear hsia hsil hsic hsoa hsol hsoc hqia hqil hqic hqoa hqol hqoc
      obtain ⟨hsm1, hsm2⟩ := hsm
      obtain ⟨hqm1, hqm2⟩ := hqm
      cases qno with
      | true =>
        have HRF : Hid (E = false) := by (show _ = _); rw [← HRS.out]; rfl
        go_wp2
        go_returns
        exact ⟨by rw [HRF.out]; rfl, HX2.out⟩
      | false =>
        obtain ⟨u0, u1, u2, u3⟩ := HKS.out w2 HY2.out
        go_wp2_with fail
        clear HK2 HK3
        go_loopw [5] (fun t5 wr => ∃ (i : Nat), i ≤ qil ∧ t5 = .int .i64 (i : Int) ∧ Hid ((q.ins.take i).all (fun wide => s.ins.any fun d => withinD d wide) = true) ∧ Hid (Below W1.heap.size W1 wr)) (fun t5 _ => qil - (intOf t5).toNat)
        case atStart => exact ⟨0, Nat.zero_le _, rfl, rfl, HY2⟩
        case round =>
          obtain ⟨i, hi, rfl, HAI, HBi⟩ := hrel
          obtain ⟨t0, t1, t2, t3⟩ := HKS.out wr HBi.out
          by_cases hil : i < qil
          · have hi1 : (i : Int) < (qil : Int) := by omega
            have hi0 : (0 : Int) ≤ (i : Int) := by omega
            obtain ⟨g1, o1, X, Y, R, ha1, hl1, hc1⟩ := HQI.out.at_ i hil
            have HL1 : Hid (q.ins[i]? = some (X, Y, R)) := hl1
            have HOK1 : Hid (OkD (X, Y, R)) := HOQI.out _ (List.mem_of_getElem? hl1)
            have HC1 : Hid (∀ w', Below W1.heap.size W1 w' → w'.cell? ⟨g1, o1 + i * 3, none⟩ = some (.int .i64 X) ∧ w'.cell? ⟨g1, o1 + i * 3 + 1, none⟩ = some (.int .i64 Y) ∧ w'.cell? ⟨g1, o1 + i * 3 + 2, none⟩ = some (.int .i64 R)) := hc1
            clear hl1 hc1
            subst ha1
            go_wp2_with fail
            clear t0 t1 t2 t3
            go_loopw [6, 7] (fun tA tK wr => ∃ (k : Nat) (B : Bool), k ≤ sil ∧ tK = .int .i64 (k : Int) ∧ tA = .bool B ∧ Hid (B = (false || (s.ins.take k).any fun d => withinD d (X, Y, R))) ∧ Hid (Below W1.heap.size W1 wr)) (fun _ tK _ => sil - (intOf tK).toNat)
            case atStart => exact ⟨0, false, Nat.zero_le _, rfl, rfl, (by (show _ = _); simp), HBi⟩
            case round =>
              obtain ⟨k, B, hk, rfl, rfl, HAC, HBK⟩ := hrel
              obtain ⟨t0, t1, t2, t3⟩ := HKS.out wr HBK.out
              by_cases hkl : k < sil
              · have hk1 : (k : Int) < (sil : Int) := by omega
                have hk0 : (0 : Int) ≤ (k : Int) := by omega
                obtain ⟨g2, o2, U, V, S, ha2, hl2, hc2⟩ := HSI.out.at_ k hkl
                have HOK2 : Hid (OkD (U, V, S)) := HOI.out _ (List.mem_of_getElem? hl2)
                have HTK : Hid ((false || (s.ins.take (k + 1)).any fun d => withinD d (X, Y, R)) = (B || withinD (U, V, S) (X, Y, R))) := by
                  (show _ = _)
                  rw [List.take_add_one, hl2, List.any_append, HAC.out]
                  simp
                cases B with
                | true =>
                  have HNX : Hid (true = (false || (s.ins.take (k + 1)).any fun d => withinD d (X, Y, R))) := by (show _ = _); rw [HTK.out]; rfl
                  clear ha2 hl2 hc2
                  go_upto_region 20 with fail
                  go_quiet (fail)
                  generalize hnq : wr.drewN _ = w2
                  have HB2 : Hid (Below W1.heap.size W1 w2) := by (show Below _ _ _); rw [← hnq]; exact HBK.out.trans ((below_drewN2 wr _).mono HBK.out.size)
                  clear hnq t0 t1 t2 t3
                  go_wp2
                  go_roundw
                  case rel => exact ⟨k + 1, true, by omega, by go_num, rfl, HNX, HB2⟩
                  case measure => (simp [intOf]; omega)
                | false =>
                  have HSK : Hid (∀ w', Below wr.heap.size wr w' → w'.cell? ⟨w.heap.size, 10, none⟩ = some (.slice sia sil sic) ∧ w'.cell? ⟨w.heap.size + 1, 10, none⟩ = some (.slice (some ⟨g1, o1, none⟩) qil qic) ∧ w'.cell? ⟨g2, o2 + k * 3, none⟩ = some (.int .i64 U) ∧ w'.cell? ⟨g2, o2 + k * 3 + 1, none⟩ = some (.int .i64 V) ∧ w'.cell? ⟨g2, o2 + k * 3 + 2, none⟩ = some (.int .i64 S) ∧ w'.cell? ⟨g1, o1 + i * 3, none⟩ = some (.int .i64 X) ∧ w'.cell? ⟨g1, o1 + i * 3 + 1, none⟩ = some (.int .i64 Y) ∧ w'.cell? ⟨g1, o1 + i * 3 + 2, none⟩ = some (.int .i64 R)) := by
                    intro w' hb
                    have hb1 := HBK.out.trans (hb.mono HBK.out.size)
                    obtain ⟨x0, x1, x2, x3⟩ := HKS.out w' hb1
                    obtain ⟨y0, y1, y2⟩ := hc2 w' hb1
                    obtain ⟨z0, z1, z2⟩ := HC1.out w' hb1
                    exact ⟨x0, x2, y0, y1, y2, z0, z1, z2⟩
                  rw [ha2] at HSK t0
                  have HCL : Hid (∀ w', Calls Tryz.prog 41 #[.agg #[.int .i64 U, .int .i64 V, .int .i64 S], .agg #[.int .i64 X, .int .i64 Y, .int .i64 R]] w' fun e w'' => e = .returned (.bool (withinD (U, V, S) (X, Y, R))) ∧ Below w'.heap.size w' w'') := fun w' => ref_Within U V S X Y R w' HOK2.out HOK1.out
                  obtain ⟨E2, HE2⟩ : ∃ E2, Hid (E2 = withinD (U, V, S) (X, Y, R)) := ⟨_, rfl⟩
                  rw [← HE2.out] at HCL
                  have HNX : Hid (E2 = (false || (s.ins.take (k + 1)).any fun d => withinD d (X, Y, R))) := by (show _ = _); rw [HTK.out, HE2.out]; rfl
                  clear ha2 hl2 hc2 HTK HE2
                  go_upto_region 20 with fail
                  have HB : Hid (Below wr.heap.size wr wr.drew) := (Below.refl _ _).drew
                  clear t0 t1 t2 t3
                  go_region_held3 (fun w' => w'.cell? ⟨w.heap.size, 10, none⟩ = some (.slice (some ⟨g2, o2, none⟩) sil sic) ∧ w'.cell? ⟨w.heap.size + 1, 10, none⟩ = some (.slice (some ⟨g1, o1, none⟩) qil qic) ∧ w'.cell? ⟨g2, o2 + k * 3, none⟩ = some (.int .i64 U) ∧ w'.cell? ⟨g2, o2 + k * 3 + 1, none⟩ = some (.int .i64 V) ∧ w'.cell? ⟨g2, o2 + k * 3 + 2, none⟩ = some (.int .i64 S) ∧ w'.cell? ⟨g1, o1 + i * 3, none⟩ = some (.int .i64 X) ∧ w'.cell? ⟨g1, o1 + i * 3 + 1, none⟩ = some (.int .i64 Y) ∧ w'.cell? ⟨g1, o1 + i * 3 + 2, none⟩ = some (.int .i64 R)) (first | exact HSK.out _ HB.out | exact HSK.out _ (Below.refl _ _).drew | exact HSK.out _ (Below.refl _ _) | fail)
                    (first
                      | (go_at_call 41; refine (HCL.out _).mono ?_; rintro e w5 ⟨rfl, hb5⟩; have HB' : Hid (Below wr.heap.size wr w5) := HB.out.trans (hb5.mono HB.out.size); clear hb5 HB; have HB := HB'; clear HB'))
                  all_goals (
                    have HX5 : Hid (Below W1.heap.size W1 w5) := HBK.out.trans (HB.out.mono HBK.out.size)
                    clear HB HSK HCL
                    go_wp2
                    go_roundw
                    case rel => exact ⟨k + 1, E2, by omega, by go_num, rfl, HNX, HX5⟩
                    case measure => (simp [intOf]; omega))
              · have hkn : ¬ (k : Int) < (sil : Int) := by omega
                have HBE : Hid (B = (false || s.ins.any fun d => withinD d (X, Y, R))) := by
                  (show _ = _)
                  rw [HAC.out, List.take_of_length_le (by rw [HSI.out.size]; omega)]
                clear HAC
                cases B with
                | true =>
                  have HNT : Hid ((q.ins.take (i + 1)).all (fun wide => s.ins.any fun d => withinD d wide) = true) := by
                    (show _ = _)
                    rw [List.take_add_one, HL1.out, List.all_append, HAI.out]
                    simpa using HBE.out.symm
                  go_wp2
                  go_roundw
                  case rel => exact ⟨i + 1, by omega, by go_num, HNT, HBK⟩
                  case measure => (simp [intOf]; omega)
                | false =>
                  have HRF : Hid (E = false) := by
                    (show _ = _)
                    rw [← HRS.out]
                    have : insU s.ins q.ins = false := by
                      unfold insU
                      rw [List.all_eq_false]
                      exact ⟨(X, Y, R), List.mem_of_getElem? HL1.out, by have h := HBE.out; rw [Bool.false_or] at h; rw [← h]; simp⟩
                    rw [this]; rfl
                  have HXF : Hid (Below w.heap.size w wr) := HX1.out.trans (HBK.out.mono HX1.out.size)
                  go_wp2
                  go_returns
                  exact ⟨by rw [HRF.out]; rfl, HXF.out⟩
          · have hin : ¬ (i : Int) < (qil : Int) := by omega
            have HIU : Hid (insU s.ins q.ins = true) := by
              have h1 := HAI.out
              rw [List.take_of_length_le (by rw [HQI.out.size]; omega)] at h1
              exact h1
            clear HAI t0 t1 t3
            obtain ⟨u0, u1, u2, u3⟩ := HKS.out wr HBi.out
            go_wp2_with fail
            clear u0 u1 u2 u3
            go_loopw [8] (fun t8 wr => ∃ (i : Nat), i ≤ qol ∧ t8 = .int .i64 (i : Int) ∧ Hid ((q.outs.take i).all (fun hole => (s.outs.any fun d => withinD hole d) || (s.ins.any fun d => apartD d hole)) = true) ∧ Hid (Below W1.heap.size W1 wr)) (fun t8 _ => qol - (intOf t8).toNat)
            case atStart => exact ⟨0, Nat.zero_le _, rfl, rfl, HBi⟩
            case round =>
              obtain ⟨i, hi, rfl, HAI, HBi⟩ := hrel
              obtain ⟨t0, t1, t2, t3⟩ := HKS.out wr HBi.out
              by_cases hil : i < qol
              · have hi1 : (i : Int) < (qol : Int) := by omega
                have hi0 : (0 : Int) ≤ (i : Int) := by omega
                obtain ⟨g1, o1, X, Y, R, ha1, hl1, hc1⟩ := HQO.out.at_ i hil
                have HL1 : Hid (q.outs[i]? = some (X, Y, R)) := hl1
                have HOK1 : Hid (OkD (X, Y, R)) := HOQO.out _ (List.mem_of_getElem? hl1)
                have HC1 : Hid (∀ w', Below W1.heap.size W1 w' → w'.cell? ⟨g1, o1 + i * 3, none⟩ = some (.int .i64 X) ∧ w'.cell? ⟨g1, o1 + i * 3 + 1, none⟩ = some (.int .i64 Y) ∧ w'.cell? ⟨g1, o1 + i * 3 + 2, none⟩ = some (.int .i64 R)) := hc1
                clear hl1 hc1
                subst ha1
                go_wp2_with fail
                clear t0 t1 t2 t3
                go_loopw [9, 10] (fun tA tK wr => ∃ (k : Nat) (B : Bool), k ≤ sol ∧ tK = .int .i64 (k : Int) ∧ tA = .bool B ∧ Hid (B = (false || (s.outs.take k).any fun d => withinD (X, Y, R) d)) ∧ Hid (Below W1.heap.size W1 wr)) (fun _ tK _ => sol - (intOf tK).toNat)
                case atStart => exact ⟨0, false, Nat.zero_le _, rfl, rfl, (by (show _ = _); simp), HBi⟩
                case round =>
                  obtain ⟨k, B, hk, rfl, rfl, HAC, HBK⟩ := hrel
                  obtain ⟨t0, t1, t2, t3⟩ := HKS.out wr HBK.out
                  by_cases hkl : k < sol
                  · have hk1 : (k : Int) < (sol : Int) := by omega
                    have hk0 : (0 : Int) ≤ (k : Int) := by omega
                    obtain ⟨g2, o2, U, V, S, ha2, hl2, hc2⟩ := HSO.out.at_ k hkl
                    have HOK2 : Hid (OkD (U, V, S)) := HOO.out _ (List.mem_of_getElem? hl2)
                    have HTK : Hid ((false || (s.outs.take (k + 1)).any fun d => withinD (X, Y, R) d) = (B || withinD (X, Y, R) (U, V, S))) := by
                      (show _ = _)
                      rw [List.take_add_one, hl2, List.any_append, HAC.out]
                      simp
                    cases B with
                    | true =>
                      have HNX : Hid (true = (false || (s.outs.take (k + 1)).any fun d => withinD (X, Y, R) d)) := by (show _ = _); rw [HTK.out]; rfl
                      clear ha2 hl2 hc2
                      go_upto_region 30 with fail
                      go_quiet (fail)
                      generalize hnq : wr.drewN _ = w2
                      have HB2 : Hid (Below W1.heap.size W1 w2) := by (show Below _ _ _); rw [← hnq]; exact HBK.out.trans ((below_drewN2 wr _).mono HBK.out.size)
                      clear hnq t0 t1 t2 t3
                      go_wp2
                      go_roundw
                      case rel => exact ⟨k + 1, true, by omega, by go_num, rfl, HNX, HB2⟩
                      case measure => (simp [intOf]; omega)
                    | false =>
                      have HSK : Hid (∀ w', Below wr.heap.size wr w' → w'.cell? ⟨w.heap.size, 11, none⟩ = some (.slice soa sol soc) ∧ w'.cell? ⟨w.heap.size + 1, 11, none⟩ = some (.slice (some ⟨g1, o1, none⟩) qol qoc) ∧ w'.cell? ⟨g2, o2 + k * 3, none⟩ = some (.int .i64 U) ∧ w'.cell? ⟨g2, o2 + k * 3 + 1, none⟩ = some (.int .i64 V) ∧ w'.cell? ⟨g2, o2 + k * 3 + 2, none⟩ = some (.int .i64 S) ∧ w'.cell? ⟨g1, o1 + i * 3, none⟩ = some (.int .i64 X) ∧ w'.cell? ⟨g1, o1 + i * 3 + 1, none⟩ = some (.int .i64 Y) ∧ w'.cell? ⟨g1, o1 + i * 3 + 2, none⟩ = some (.int .i64 R)) := by
                        intro w' hb
                        have hb1 := HBK.out.trans (hb.mono HBK.out.size)
                        obtain ⟨x0, x1, x2, x3⟩ := HKS.out w' hb1
                        obtain ⟨y0, y1, y2⟩ := hc2 w' hb1
                        obtain ⟨z0, z1, z2⟩ := HC1.out w' hb1
                        exact ⟨x1, x3, y0, y1, y2, z0, z1, z2⟩
                      rw [ha2] at HSK t1
                      have HCL : Hid (∀ w', Calls Tryz.prog 41 #[.agg #[.int .i64 X, .int .i64 Y, .int .i64 R], .agg #[.int .i64 U, .int .i64 V, .int .i64 S]] w' fun e w'' => e = .returned (.bool (withinD (X, Y, R) (U, V, S))) ∧ Below w'.heap.size w' w'') := fun w' => ref_Within X Y R U V S w' HOK1.out HOK2.out
                      obtain ⟨E2, HE2⟩ : ∃ E2, Hid (E2 = withinD (X, Y, R) (U, V, S)) := ⟨_, rfl⟩
                      rw [← HE2.out] at HCL
                      have HNX : Hid (E2 = (false || (s.outs.take (k + 1)).any fun d => withinD (X, Y, R) d)) := by (show _ = _); rw [HTK.out, HE2.out]; rfl
                      clear ha2 hl2 hc2 HTK HE2
                      go_upto_region 30 with fail
                      have HB : Hid (Below wr.heap.size wr wr.drew) := (Below.refl _ _).drew
                      clear t0 t1 t2 t3
                      go_region_held3 (fun w' => w'.cell? ⟨w.heap.size, 11, none⟩ = some (.slice (some ⟨g2, o2, none⟩) sol soc) ∧ w'.cell? ⟨w.heap.size + 1, 11, none⟩ = some (.slice (some ⟨g1, o1, none⟩) qol qoc) ∧ w'.cell? ⟨g2, o2 + k * 3, none⟩ = some (.int .i64 U) ∧ w'.cell? ⟨g2, o2 + k * 3 + 1, none⟩ = some (.int .i64 V) ∧ w'.cell? ⟨g2, o2 + k * 3 + 2, none⟩ = some (.int .i64 S) ∧ w'.cell? ⟨g1, o1 + i * 3, none⟩ = some (.int .i64 X) ∧ w'.cell? ⟨g1, o1 + i * 3 + 1, none⟩ = some (.int .i64 Y) ∧ w'.cell? ⟨g1, o1 + i * 3 + 2, none⟩ = some (.int .i64 R)) (first | exact HSK.out _ HB.out | exact HSK.out _ (Below.refl _ _).drew | exact HSK.out _ (Below.refl _ _) | fail)
                        (first
                          | (go_at_call 41; refine (HCL.out _).mono ?_; rintro e w5 ⟨rfl, hb5⟩; have HB' : Hid (Below wr.heap.size wr w5) := HB.out.trans (hb5.mono HB.out.size); clear hb5 HB; have HB := HB'; clear HB'))
                      all_goals (
                        have HX5 : Hid (Below W1.heap.size W1 w5) := HBK.out.trans (HB.out.mono HBK.out.size)
                        clear HB HSK HCL
                        go_wp2
                        go_roundw
                        case rel => exact ⟨k + 1, E2, by omega, by go_num, rfl, HNX, HX5⟩
                        case measure => (simp [intOf]; omega))
                  · have hkn : ¬ (k : Int) < (sol : Int) := by omega
                    have HBE : Hid (B = (false || s.outs.any fun d => withinD (X, Y, R) d)) := by
                      (show _ = _)
                      rw [HAC.out, List.take_of_length_le (by rw [HSO.out.size]; omega)]
                    clear HAC
                    have HB0E : Hid (B = (false || s.outs.any fun d => withinD (X, Y, R) d)) := HBE
                    have HB0 : Hid (Below W1.heap.size W1 wr) := HBK
                    obtain ⟨B0, hB0⟩ : ∃ B0, B0 = B := ⟨_, rfl⟩
                    rw [← hB0] at HB0E ⊢
                    clear hB0 HBE
                    go_wp2_with fail
                    clear t0 t1 t2 t3
                    go_loopw [9, 11] (fun tA tK wr => ∃ (k : Nat) (B : Bool), k ≤ sil ∧ tK = .int .i64 (k : Int) ∧ tA = .bool B ∧ Hid (B = (B0 || (s.ins.take k).any fun d => apartD d (X, Y, R))) ∧ Hid (Below W1.heap.size W1 wr)) (fun _ tK _ => sil - (intOf tK).toNat)
                    case atStart => exact ⟨0, B0, Nat.zero_le _, rfl, rfl, (by (show _ = _); simp), HB0⟩
                    case round =>
                      obtain ⟨k, B, hk, rfl, rfl, HAC, HBK⟩ := hrel
                      obtain ⟨t0, t1, t2, t3⟩ := HKS.out wr HBK.out
                      by_cases hkl : k < sil
                      · have hk1 : (k : Int) < (sil : Int) := by omega
                        have hk0 : (0 : Int) ≤ (k : Int) := by omega
                        obtain ⟨g2, o2, U, V, S, ha2, hl2, hc2⟩ := HSI.out.at_ k hkl
                        have HOK2 : Hid (OkD (U, V, S)) := HOI.out _ (List.mem_of_getElem? hl2)
                        have HTK : Hid ((B0 || (s.ins.take (k + 1)).any fun d => apartD d (X, Y, R)) = (B || apartD (U, V, S) (X, Y, R))) := by
                          (show _ = _)
                          rw [List.take_add_one, hl2, List.any_append, HAC.out]
                          simp [Bool.or_assoc]
                        cases B with
                        | true =>
                          have HNX : Hid (true = (B0 || (s.ins.take (k + 1)).any fun d => apartD d (X, Y, R))) := by (show _ = _); rw [HTK.out]; rfl
                          clear ha2 hl2 hc2
                          go_upto_region 34 with fail
                          go_quiet (fail)
                          generalize hnq : wr.drewN _ = w2
                          have HB2 : Hid (Below W1.heap.size W1 w2) := by (show Below _ _ _); rw [← hnq]; exact HBK.out.trans ((below_drewN2 wr _).mono HBK.out.size)
                          clear hnq t0 t1 t2 t3
                          go_wp2
                          go_roundw
                          case rel => exact ⟨k + 1, true, by omega, by go_num, rfl, HNX, HB2⟩
                          case measure => (simp [intOf]; omega)
                        | false =>
                          have HSK : Hid (∀ w', Below wr.heap.size wr w' → w'.cell? ⟨w.heap.size, 10, none⟩ = some (.slice sia sil sic) ∧ w'.cell? ⟨w.heap.size + 1, 11, none⟩ = some (.slice (some ⟨g1, o1, none⟩) qol qoc) ∧ w'.cell? ⟨g2, o2 + k * 3, none⟩ = some (.int .i64 U) ∧ w'.cell? ⟨g2, o2 + k * 3 + 1, none⟩ = some (.int .i64 V) ∧ w'.cell? ⟨g2, o2 + k * 3 + 2, none⟩ = some (.int .i64 S) ∧ w'.cell? ⟨g1, o1 + i * 3, none⟩ = some (.int .i64 X) ∧ w'.cell? ⟨g1, o1 + i * 3 + 1, none⟩ = some (.int .i64 Y) ∧ w'.cell? ⟨g1, o1 + i * 3 + 2, none⟩ = some (.int .i64 R)) := by
                            intro w' hb
                            have hb1 := HBK.out.trans (hb.mono HBK.out.size)
                            obtain ⟨x0, x1, x2, x3⟩ := HKS.out w' hb1
                            obtain ⟨y0, y1, y2⟩ := hc2 w' hb1
                            obtain ⟨z0, z1, z2⟩ := HC1.out w' hb1
                            exact ⟨x0, x3, y0, y1, y2, z0, z1, z2⟩
                          rw [ha2] at HSK t0
                          have HCL : Hid (∀ w', Calls Tryz.prog 42 #[.agg #[.int .i64 U, .int .i64 V, .int .i64 S], .agg #[.int .i64 X, .int .i64 Y, .int .i64 R]] w' fun e w'' => e = .returned (.bool (apartD (U, V, S) (X, Y, R))) ∧ Below w'.heap.size w' w'') := fun w' => ref_Apart U V S X Y R w' HOK2.out HOK1.out
                          obtain ⟨E2, HE2⟩ : ∃ E2, Hid (E2 = apartD (U, V, S) (X, Y, R)) := ⟨_, rfl⟩
                          rw [← HE2.out] at HCL
                          have HNX : Hid (E2 = (B0 || (s.ins.take (k + 1)).any fun d => apartD d (X, Y, R))) := by (show _ = _); rw [HTK.out, HE2.out]; rfl
                          clear ha2 hl2 hc2 HTK HE2
                          go_upto_region 34 with fail
                          have HB : Hid (Below wr.heap.size wr wr.drew) := (Below.refl _ _).drew
                          clear t0 t1 t2 t3
                          go_region_held3 (fun w' => w'.cell? ⟨w.heap.size, 10, none⟩ = some (.slice (some ⟨g2, o2, none⟩) sil sic) ∧ w'.cell? ⟨w.heap.size + 1, 11, none⟩ = some (.slice (some ⟨g1, o1, none⟩) qol qoc) ∧ w'.cell? ⟨g2, o2 + k * 3, none⟩ = some (.int .i64 U) ∧ w'.cell? ⟨g2, o2 + k * 3 + 1, none⟩ = some (.int .i64 V) ∧ w'.cell? ⟨g2, o2 + k * 3 + 2, none⟩ = some (.int .i64 S) ∧ w'.cell? ⟨g1, o1 + i * 3, none⟩ = some (.int .i64 X) ∧ w'.cell? ⟨g1, o1 + i * 3 + 1, none⟩ = some (.int .i64 Y) ∧ w'.cell? ⟨g1, o1 + i * 3 + 2, none⟩ = some (.int .i64 R)) (first | exact HSK.out _ HB.out | exact HSK.out _ (Below.refl _ _).drew | exact HSK.out _ (Below.refl _ _) | fail)
                            (first
                              | (go_at_call 42; refine (HCL.out _).mono ?_; rintro e w5 ⟨rfl, hb5⟩; have HB' : Hid (Below wr.heap.size wr w5) := HB.out.trans (hb5.mono HB.out.size); clear hb5 HB; have HB := HB'; clear HB'))
                          all_goals (
                            have HX5 : Hid (Below W1.heap.size W1 w5) := HBK.out.trans (HB.out.mono HBK.out.size)
                            clear HB HSK HCL
                            go_wp2
                            go_roundw
                            case rel => exact ⟨k + 1, E2, by omega, by go_num, rfl, HNX, HX5⟩
                            case measure => (simp [intOf]; omega))
                      · have hkn : ¬ (k : Int) < (sil : Int) := by omega
                        have HBE : Hid (B = (B0 || s.ins.any fun d => apartD d (X, Y, R))) := by
                          (show _ = _)
                          rw [HAC.out, List.take_of_length_le (by rw [HSI.out.size]; omega)]
                        clear HAC
                        cases B with
                        | true =>
                          have HNT : Hid ((q.outs.take (i + 1)).all (fun hole => (s.outs.any fun d => withinD hole d) || (s.ins.any fun d => apartD d hole)) = true) := by
                            (show _ = _)
                            rw [List.take_add_one, HL1.out, List.all_append, HAI.out]
                            have h := HBE.out
                            rw [HB0E.out] at h
                            simpa using h.symm
                          go_wp2
                          go_roundw
                          case rel => exact ⟨i + 1, by omega, by go_num, HNT, HBK⟩
                          case measure => (simp [intOf]; omega)
                        | false =>
                          have HRF : Hid (E = false) := by
                            (show _ = _)
                            rw [← HRS.out, HIU.out, outsR]
                            have : (q.outs.all fun hole => (s.outs.any fun d => withinD hole d) || (s.ins.any fun d => apartD d hole)) = false := by
                              rw [List.all_eq_false]
                              exact ⟨(X, Y, R), List.mem_of_getElem? HL1.out, by have h := HBE.out; rw [HB0E.out, Bool.false_or] at h; rw [← h]; simp⟩
                            rw [this]; rfl
                          have HXF : Hid (Below w.heap.size w wr) := HX1.out.trans (HBK.out.mono HX1.out.size)
                          go_wp2
                          go_returns
                          exact ⟨by rw [HRF.out]; rfl, HXF.out⟩
              · have hin : ¬ (i : Int) < (qol : Int) := by omega
                have HRT : Hid (E = true) := by
                  (show _ = _)
                  have h1 := HAI.out
                  rw [List.take_of_length_le (by rw [HQO.out.size]; omega)] at h1
                  rw [← HRS.out, HIU.out, outsR, h1]; rfl
                have HXF : Hid (Below w.heap.size w wr) := HX1.out.trans (HBi.out.mono HX1.out.size)
                go_wp2
                go_returns
                exact ⟨by rw [HRT.out]; rfl, HXF.out⟩
set_option maxHeartbeats 4000000 in
theorem ref_side (s q : Sq) (w : World) (hs : SideOk w s) (hq : SideOk w q) : Calls Tryz.prog 28 #[.agg (sqc s).toArray, .agg (sqc q).toArray] w fun e w' => e = .returned (.bool (sideR s q)) ∧ Below w.heap.size w w' := by
  by_cases hkq : s.kd = q.kd
  · have HR : Hid (sideR s q = sideIn s q) := by (show _ = _); rw [sideR, show (s.kd == q.kd) = true from by rw [beq_iff_eq]; exact hkq]; rfl
    rw [HR.out]
    cases hsab : s.ab with
    | false => exact ref_side0 s q w hs hq hkq hsab
    | true =>
      cases hqab : q.ab with
      | true => exact ref_side1 s q w hs hq hkq hsab hqab
      | false =>
        have HRF : Hid (sideIn s q = false) := by (show _ = _); rw [sideIn, hsab, hqab]; rfl
        rw [HRF.out]
        obtain ⟨W1, HW1⟩ : ∃ W1, Hid (W1 = (w.alloc (.cells (sqc s).toArray 40)).alloc (.cells (sqc q).toArray 40)) := ⟨_, rfl⟩
        have HX1 : Hid (Below w.heap.size w W1) := by (show Below _ _ _); rw [HW1.out]; exact below_two _ _ _
        have HK0 : Hid (Blk W1 w.heap.size (sqc s).toArray 40) := by (show Blk _ _ _ _); rw [HW1.out]; exact blk_two0 _ _ _ _
        have HK1 : Hid (Blk W1 (w.heap.size + 1) (sqc q).toArray 40) := by (show Blk _ _ _ _); rw [HW1.out]; exact blk_two1 _ _ _ _
        have k1 : W1.cell? ⟨w.heap.size, 1, none⟩ = some (.int .i64 s.kd) := HK0.out.cell 1 rfl
        have m1 : W1.cell? ⟨w.heap.size + 1, 1, none⟩ = some (.int .i64 q.kd) := HK1.out.cell 1 rfl
        have k2 : W1.cell? ⟨w.heap.size, 2, none⟩ = some (.bool s.ab) := HK0.out.cell 2 rfl
        have m2 : W1.cell? ⟨w.heap.size + 1, 2, none⟩ = some (.bool q.ab) := HK1.out.cell 2 rfl
        rw [hsab] at k2
        rw [hqab] at m2
        have g1 : (s.kd != q.kd) = false := by rw [bne_eq_false_iff_eq]; exact hkq
        have g2 : (s.kd == q.kd) = true := by rw [beq_iff_eq]; exact hkq
        clear hs hq hkq hsab hqab
        go_enter Tryz.func28, Tryz.ntmps28
        go_upto_region 1 with fail
        rw [← HW1.out]
        go_wp2
        go_returns
        exact ⟨rfl, HX1.out⟩
  · have g2 : (s.kd == q.kd) = false := by rw [beq_eq_false_iff_ne]; exact hkq
    have g1 : (s.kd != q.kd) = true := by rw [bne_iff_ne]; exact hkq
    have HR : Hid (sideR s q = false) := by (show _ = _); rw [sideR, g2]; rfl
    rw [HR.out]
    obtain ⟨W1, HW1⟩ : ∃ W1, Hid (W1 = (w.alloc (.cells (sqc s).toArray 40)).alloc (.cells (sqc q).toArray 40)) := ⟨_, rfl⟩
    have HX1 : Hid (Below w.heap.size w W1) := by (show Below _ _ _); rw [HW1.out]; exact below_two _ _ _
    have HK0 : Hid (Blk W1 w.heap.size (sqc s).toArray 40) := by (show Blk _ _ _ _); rw [HW1.out]; exact blk_two0 _ _ _ _
    have HK1 : Hid (Blk W1 (w.heap.size + 1) (sqc q).toArray 40) := by (show Blk _ _ _ _); rw [HW1.out]; exact blk_two1 _ _ _ _
    have k1 : W1.cell? ⟨w.heap.size, 1, none⟩ = some (.int .i64 s.kd) := HK0.out.cell 1 rfl
    have m1 : W1.cell? ⟨w.heap.size + 1, 1, none⟩ = some (.int .i64 q.kd) := HK1.out.cell 1 rfl
    clear hs hq hkq
    go_enter Tryz.func28, Tryz.ntmps28
    go_upto_region 1 with fail
    rw [← HW1.out]
    go_wp2
    go_returns
    exact ⟨rfl, HX1.out⟩
end Go.Proofs.YtnfeklebfnlgkaaGreat
