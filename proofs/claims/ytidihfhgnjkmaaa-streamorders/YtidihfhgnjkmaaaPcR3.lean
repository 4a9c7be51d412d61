/- grapevineref13.Check of a Tell; of any parcel. -/
import Derived.Test.YtidihfhgnjkmaaaPcR2
namespace Go.Proofs.Ytidihfhgnjkmaaa
open Go.RowKit

set_option maxRecDepth 100000 in
set_option maxHeartbeats 4000000 in
theorem ref_Check_tell (pp ps pn pf pt : Int) (pl : List Sp) (pi : List It) (sa : Option Addr) (sn sc : Nat) (ia : Option Addr) (im ic : Nat) (w : World) (hp : PcRd w ⟨1, pp, ps, pn, pf, pt, pl, pi⟩ sa sn sc ia im ic) : Calls Try.prog 13 #[Pc.val ⟨1, pp, ps, pn, pf, pt, pl, pi⟩ sa sn sc ia im ic] w fun e w' => e = .returned (.int .i64 (chk ⟨1, pp, ps, pn, pf, pt, pl, pi⟩)) ∧ Below w.heap.size w w' := by
  have HB : Hid (Below w.heap.size w (w.alloc (.cells #[.int .i64 1, .int .i64 pp, .int .i64 ps, .int .i64 pn, .int .i64 pf, .int .i64 pt, .slice sa sn sc, .slice ia im ic] 33))) := below_new _ _
  obtain ⟨b, HF⟩ : ∃ b, Hid (b = chk ⟨1, pp, ps, pn, pf, pt, pl, pi⟩) := ⟨_, rfl⟩
  rw [← HF.out]
  unfold Pc.val
  simp only
  have HP : Hid (PcRd w ⟨1, pp, ps, pn, pf, pt, pl, pi⟩ sa sn sc ia im ic) := hp
  have HSZ : Hid (pl.length = sn ∧ pi.length = im) := ⟨hp.spans.size, hp.items.size⟩
  have hb1 : sn ≤ 9223372036854775807 := by have h1 := hp.sl; have h2 := hp.sm; unfold maxLen at h2; omega
  have hb2 : im ≤ 9223372036854775807 := by have h1 := hp.il; have h2 := hp.im_; unfold maxLen at h2; omega
  clear hp
  have HK : Hid (isB 1 = true ∧ subB 1 = false ∧ fromB 1 = true ∧ toB 1 = true ∧ newsB 1 = true) := tell_kind rfl
  have HR : Hid (toB 1 = true) := HK.out.2.2.2.1
  have HN : Hid (subB 1 = false) := HK.out.2.1
  go_enter Try.func13, Try.ntmps13
  go_wp2_with fail
  refine (ref_ranged 1 _).mono ?_
  rw [HR.out]
  rintro e w1 ⟨rfl, rfl⟩
  by_cases h1 : ¬ (0 ≤ pp)
  · have HX : Hid (b = 2) := by show _ = _; rw [HF.out, chk_num HK.out.1 (by simp only [HK.out.2.1, HK.out.2.2.1, HK.out.2.2.2.1, numB, pubB, namB, rngB, froB]; simp; omega)]
    clear HF
    go_wp2
    go_ret
    exact ⟨by rw [HX.out]; rfl, HB.out⟩
  replace h1 := Decidable.not_not.1 h1
  by_cases h2 : ¬ (pp < 3)
  · have HX : Hid (b = 2) := by show _ = _; rw [HF.out, chk_num HK.out.1 (by simp only [HK.out.2.1, HK.out.2.2.1, HK.out.2.2.2.1, numB, pubB, namB, rngB, froB]; simp; omega)]
    clear HF
    go_wp2
    go_ret
    exact ⟨by rw [HX.out]; rfl, HB.out⟩
  replace h2 := Decidable.not_not.1 h2
  go_wp2_with fail
  refine (ref_named 1 _).mono ?_
  rw [HN.out]
  rintro e w1 ⟨rfl, rfl⟩
  go_wp2_with fail
  refine (ref_ranged 1 _).mono ?_
  rw [HR.out]
  rintro e w1 ⟨rfl, rfl⟩
  by_cases h3 : ¬ (1 ≤ pf)
  · have HX : Hid (b = 2) := by show _ = _; rw [HF.out, chk_num HK.out.1 (by simp only [HK.out.2.1, HK.out.2.2.1, HK.out.2.2.2.1, numB, pubB, namB, rngB, froB]; simp; omega)]
    clear HF
    go_wp2
    go_ret
    exact ⟨by rw [HX.out]; rfl, HB.out⟩
  replace h3 := Decidable.not_not.1 h3
  by_cases h4 : ¬ (pf ≤ pt)
  · have HX : Hid (b = 2) := by show _ = _; rw [HF.out, chk_num HK.out.1 (by simp only [HK.out.2.1, HK.out.2.2.1, HK.out.2.2.2.1, numB, pubB, namB, rngB, froB]; simp; omega)]
    clear HF
    go_wp2
    go_ret
    exact ⟨by rw [HX.out]; rfl, HB.out⟩
  replace h4 := Decidable.not_not.1 h4
  by_cases h5 : ¬ (pt ≤ 1099511627776)
  · have HX : Hid (b = 2) := by show _ = _; rw [HF.out, chk_num HK.out.1 (by simp only [HK.out.2.1, HK.out.2.2.1, HK.out.2.2.2.1, numB, pubB, namB, rngB, froB]; simp; omega)]
    clear HF
    go_wp2
    go_ret
    exact ⟨by rw [HX.out]; rfl, HB.out⟩
  replace h5 := Decidable.not_not.1 h5
  go_wp2_with fail
  refine (ref_named 1 _).mono ?_
  rw [HN.out]
  rintro e w1 ⟨rfl, rfl⟩
  have HNU : Hid (numB ⟨1, pp, ps, pn, pf, pt, pl, pi⟩ (subB 1) (fromB 1) (toB 1) = true) := by show _ = _; simp only [HK.out.2.1, HK.out.2.2.1, HK.out.2.2.2.1, numB, pubB, namB, rngB, froB]; simp; omega
  have hsz := HSZ.out
  by_cases h6 : 32 < sn
  · have h6' : (32 : Int) < (sn : Int) := by omega
    have HX : Hid (b = 6) := by show _ = _; rw [HF.out, chk_many HK.out.1 HNU.out HK.out.2.2.2.2 (.inl (by rw [hsz.1]; exact h6))]
    clear HF
    go_wp2
    go_ret
    exact ⟨by rw [HX.out]; rfl, HB.out⟩
  have h6' : ¬ (32 : Int) < (sn : Int) := by omega
  by_cases h7 : 8 < im
  · have h7' : (8 : Int) < (im : Int) := by omega
    have HX : Hid (b = 6) := by show _ = _; rw [HF.out, chk_many HK.out.1 HNU.out HK.out.2.2.2.2 (.inr (by rw [hsz.2]; exact h7))]
    clear HF
    go_wp2
    go_ret
    exact ⟨by rw [HX.out]; rfl, HB.out⟩
  have h7' : ¬ (8 : Int) < (im : Int) := by omega
  have HNM : Hid (¬ (32 < pl.length ∨ 8 < pi.length)) := by rw [hsz.1, hsz.2]; exact not_or.2 ⟨h6, h7⟩
  clear hsz
  have HK0 : Hid (Bk (w.alloc (.cells #[.int .i64 1, .int .i64 pp, .int .i64 ps, .int .i64 pn, .int .i64 pf, .int .i64 pt, .slice sa sn sc, .slice ia im ic] 33)) w.heap.size #[.int .i64 1, .int .i64 pp, .int .i64 ps, .int .i64 pn, .int .i64 pf, .int .i64 pt, .slice sa sn sc, .slice ia im ic] 33) := Bk.new _ _ _
  go_wp2_with fail
  refine (ref_Right sa sn sc pl _ (HP.out.spans.below HB.out) (Nat.le_trans HP.out.sl HP.out.sm)).mono ?_
  rintro e w1 ⟨rfl, hb3⟩
  have HB1 : Hid (Below w.heap.size w w1) := HB.out.trans (hb3.mono HB.out.size)
  have HK1 : Hid (Bk w1 w.heap.size #[.int .i64 1, .int .i64 pp, .int .i64 ps, .int .i64 pn, .int .i64 pf, .int .i64 pt, .slice sa sn sc, .slice ia im ic] 33) := HK0.out.stay hb3
  clear hb3 HK0 HB
  obtain ⟨rt, HRT⟩ : ∃ rt, Hid (rt = rightB Sp.zr pl) := ⟨_, rfl⟩
  rw [← HRT.out]
  obtain ⟨B, HBS⟩ : ∃ B, Hid (B = spB ⟨1, pp, ps, pn, pf, pt, pl, pi⟩) := ⟨_, rfl⟩
  have HBB : Hid ((rt && pl.all (inB ⟨1, pp, ps, pn, pf, pt, pl, pi⟩)) = B) := by show _ = _; rw [HBS.out, HRT.out, spB, Bool.and_comm]
  clear HRT
  go_wp2
  go_loopw [3, 4] (fun t3 t4 wr => ∃ (k : Nat) (f : Bool), k ≤ sn ∧ t3 = .bool f ∧ t4 = .int .i64 (k : Int) ∧ Hid ((f && (pl.drop k).all (inB ⟨1, pp, ps, pn, pf, pt, pl, pi⟩)) = B) ∧ Hid (Bk wr w.heap.size #[.int .i64 1, .int .i64 pp, .int .i64 ps, .int .i64 pn, .int .i64 pf, .int .i64 pt, .slice sa sn sc, .slice ia im ic] 33) ∧ Hid (Below w.heap.size w wr)) (fun _ t4 _ => sn - (intOf t4).toNat)
  case atStart => exact ⟨0, rt, by omega, rfl, rfl, HBB, HK1, HB1⟩
  case round =>
    obtain ⟨k, f, hk, rfl, rfl, HE, HKr, HBr⟩ := hrel
    clear HK1 HB1 HBB
    by_cases hlt : k < sn
    · have hlt' : (k : Int) < (sn : Int) := by omega
      obtain ⟨g, o, rfl, hg, q, hq, c0, c1, c2⟩ := (HP.out.spans.below HBr.out).at_ k hlt
      have HD : Hid (pl.drop k = q :: pl.drop (k + 1)) := drop_at hq
      clear hq hg
      obtain ⟨qf, qt, qi⟩ := q
      simp only at c0 c1 c2
      have HK2 : Hid (Bk (wr.alloc (.cells #[.int .i64 qf, .int .i64 qt, .int .i64 qi] 38)) w.heap.size #[.int .i64 1, .int .i64 pp, .int .i64 ps, .int .i64 pn, .int .i64 pf, .int .i64 pt, .slice (some ⟨g, o, none⟩) sn sc, .slice ia im ic] 33) := HKr.out.stay (below_new _ _)
      have HB2 : Hid (Below w.heap.size w (wr.alloc (.cells #[.int .i64 qf, .int .i64 qt, .int .i64 qi] 38))) := HBr.out.alloc HBr.out.size _
      have HLT : Hid (w.heap.size < wr.heap.size) := HKr.out.lt
      have a6 : wr.cell? ⟨w.heap.size, 6, none⟩ = some (.slice (some ⟨g, o, none⟩) sn sc) := HKr.out.cell 6 rfl
      have d4 : (wr.alloc (.cells #[.int .i64 qf, .int .i64 qt, .int .i64 qi] 38)).cell? ⟨w.heap.size, 4, none⟩ = some (.int .i64 pf) := HK2.out.cell 4 rfl
      have d5 : (wr.alloc (.cells #[.int .i64 qf, .int .i64 qt, .int .i64 qi] 38)).cell? ⟨w.heap.size, 5, none⟩ = some (.int .i64 pt) := HK2.out.cell 5 rfl
      cases f with
      | false =>
        have HX : Hid ((false && (pl.drop (k + 1)).all (inB ⟨1, pp, ps, pn, pf, pt, pl, pi⟩)) = B) := by show _ = _; rw [← HE.out]; simp
        clear HE HKr
        go_wp2
        go_roundw
        case rel => exact ⟨k + 1, false, by omega, rfl, by go_num, HX, HK2, HB2⟩
        case measure => simp [intOf]; omega
      | true =>
        by_cases j1 : qi = 2 ∨ qi = 3
        · by_cases j2 : pf ≤ qf
          · by_cases j3 : qt ≤ pt
            · have HX : Hid ((true && (pl.drop (k + 1)).all (inB ⟨1, pp, ps, pn, pf, pt, pl, pi⟩)) = B) := by show _ = _; rw [← HE.out, HD.out, List.all_cons, inB_ok ⟨j1, j2, j3⟩]; simp
              clear HE HKr
              rcases j1 with rfl | rfl
              · go_wp2
                go_roundw
                case rel => exact ⟨k + 1, true, by omega, rfl, by go_num, HX, HK2, HB2⟩
                case measure => simp [intOf]; omega
              · go_wp2
                go_roundw
                case rel => exact ⟨k + 1, true, by omega, rfl, by go_num, HX, HK2, HB2⟩
                case measure => simp [intOf]; omega
            · have HX : Hid ((false && (pl.drop (k + 1)).all (inB ⟨1, pp, ps, pn, pf, pt, pl, pi⟩)) = B) := by show _ = _; rw [← HE.out, HD.out, List.all_cons, inB_not (by simp only; omega)]; simp
              clear HE HKr
              rcases j1 with rfl | rfl
              · go_wp2
                go_roundw
                case rel => exact ⟨k + 1, false, by omega, rfl, by go_num, HX, HK2, HB2⟩
                case measure => simp [intOf]; omega
              · go_wp2
                go_roundw
                case rel => exact ⟨k + 1, false, by omega, rfl, by go_num, HX, HK2, HB2⟩
                case measure => simp [intOf]; omega
          · have HX : Hid ((false && (pl.drop (k + 1)).all (inB ⟨1, pp, ps, pn, pf, pt, pl, pi⟩)) = B) := by show _ = _; rw [← HE.out, HD.out, List.all_cons, inB_not (by simp only; omega)]; simp
            clear HE HKr
            rcases j1 with rfl | rfl
            · go_wp2
              go_roundw
              case rel => exact ⟨k + 1, false, by omega, rfl, by go_num, HX, HK2, HB2⟩
              case measure => simp [intOf]; omega
            · go_wp2
              go_roundw
              case rel => exact ⟨k + 1, false, by omega, rfl, by go_num, HX, HK2, HB2⟩
              case measure => simp [intOf]; omega
        · have HX : Hid ((false && (pl.drop (k + 1)).all (inB ⟨1, pp, ps, pn, pf, pt, pl, pi⟩)) = B) := by show _ = _; rw [← HE.out, HD.out, List.all_cons, inB_not (by simp only; omega)]; simp
          have n2 : ¬ qi = 2 := fun h => j1 (.inl h)
          have n3 : ¬ qi = 3 := fun h => j1 (.inr h)
          have n2' : (qi == 2) = false := by simpa using n2
          have n3' : (qi == 3) = false := by simpa using n3
          clear j1 HE HKr
          go_wp2
          go_roundw
          case rel => exact ⟨k + 1, false, by omega, rfl, by go_num, HX, HK2, HB2⟩
          case measure => simp [intOf]; omega
    · have hnl : ¬ (k : Int) < (sn : Int) := by omega
      have a6 : wr.cell? ⟨w.heap.size, 6, none⟩ = some (.slice sa sn sc) := HKr.out.cell 6 rfl
      have HFB : Hid (f = B) := by
        show _ = _
        rw [← HE.out, List.drop_of_length_le (by rw [HSZ.out.1]; omega)]
        simp
      clear HE
      obtain rfl := HFB.out
      clear HFB
      cases f with
      | false =>
        have HX : Hid (b = 4) := by show _ = _; rw [HF.out, chk_form HK.out.1 HNU.out HK.out.2.2.2.2 HNM.out HBS.out.symm]
        clear HF
        go_wp2
        go_ret
        exact ⟨by rw [HX.out]; rfl, HBr.out⟩
      | true =>
        have HX : Hid (itE ⟨1, pp, ps, pn, pf, pt, pl, pi⟩ pf pi = b) := by show _ = _; rw [HF.out, chk_items HK.out.1 HNU.out HK.out.2.2.2.2 HNM.out HBS.out.symm]
        clear HF a6
        obtain ⟨W2, HW2⟩ : ∃ W2, Hid (W2 = wr) := ⟨_, rfl⟩
        have HKs : Hid (Bk W2 w.heap.size #[.int .i64 1, .int .i64 pp, .int .i64 ps, .int .i64 pn, .int .i64 pf, .int .i64 pt, .slice sa sn sc, .slice ia im ic] 33) := by rw [HW2.out]; exact HKr.out
        have HBs : Hid (Below w.heap.size w W2) := by rw [HW2.out]; exact HBr.out
        rw [← HW2.out]
        clear HKr HBr HW2
        have a6 : W2.cell? ⟨w.heap.size, 6, none⟩ = some (.slice sa sn sc) := HKs.out.cell 6 rfl
        go_wp2
        clear a6
        go_loopw [6] (fun t6 ws => ∃ (j : Nat) (le : Int), j ≤ im ∧ t6 = .int .i64 (j : Int) ∧ Hid (itE ⟨1, pp, ps, pn, pf, pt, pl, pi⟩ le (pi.drop j) = b) ∧ Hid (pf ≤ le ∧ ((j = 0 ∧ le = pf) ∨ (0 < j ∧ ∃ q, pi[j - 1]? = some q ∧ le = q.tick + 1))) ∧ Hid (Bk ws w.heap.size #[.int .i64 1, .int .i64 pp, .int .i64 ps, .int .i64 pn, .int .i64 pf, .int .i64 pt, .slice sa sn sc, .slice ia im ic] 33) ∧ Hid (Below w.heap.size w ws)) (fun t6 _ => im - (intOf t6).toNat)
        case atStart => exact ⟨0, pf, by omega, rfl, HX, ⟨by omega, .inl ⟨rfl, rfl⟩⟩, HKs, HBs⟩
        case round =>
          obtain ⟨j, le, hj, rfl, HE, HL, HKt, HBt⟩ := hrel
          clear HKs HBs HX
          by_cases jlt : j < im
          · have jlt' : (j : Int) < (im : Int) := by omega
            obtain ⟨g, o, rfl, hg, q, hq, c0, c1, ba, bl, bc, c2, hrd, hnc, hbl, hbc⟩ := (HP.out.items.below HBt.out).at_ j jlt
            have HD : Hid (pi.drop j = q :: pi.drop (j + 1)) := it_at hq
            have HQ : Hid (pi[j]? = some q) := hq
            have HLB : Hid (q.body.length = bl) := hrd.size
            have HPV : Hid (∀ i q', j = i + 1 → pi[i]? = some q' → wr.cell? ⟨g, o + i * 3, none⟩ = some (.int .i64 q'.tick)) := by
              intro i q' hi hq'
              obtain ⟨g', o', ha', hg', q2, hq2, d0, _⟩ := (HP.out.items.below HBt.out).at_ i (by omega)
              simp only [Option.some.injEq, Addr.mk.injEq] at ha'
              obtain ⟨rfl, rfl, _⟩ := ha'
              rw [hq'] at hq2
              simp only [Option.some.injEq] at hq2
              subst hq2
              exact d0
            clear hq hg hrd
            obtain ⟨qt, qf, qb⟩ := q
            simp only at c0 c1 c2
            have a4 : wr.cell? ⟨w.heap.size, 4, none⟩ = some (.int .i64 pf) := HKt.out.cell 4 rfl
            have a5 : wr.cell? ⟨w.heap.size, 5, none⟩ = some (.int .i64 pt) := HKt.out.cell 5 rfl
            have a6 : wr.cell? ⟨w.heap.size, 6, none⟩ = some (.slice sa sn sc) := HKt.out.cell 6 rfl
            have a7 : wr.cell? ⟨w.heap.size, 7, none⟩ = some (.slice (some ⟨g, o, none⟩) im ic) := HKt.out.cell 7 rfl
            by_cases m1 : qt < pf
            · have HX : Hid (b = 14) := by show _ = _; rw [← HE.out, HD.out, itE_tick (.inl (by have := HL.out.1; simp only; omega))]
              clear HE
              go_wp2
              go_ret
              exact ⟨by rw [HX.out]; rfl, HBt.out⟩
            by_cases m2 : pt < qt
            · have HX : Hid (b = 14) := by show _ = _; rw [← HE.out, HD.out, itE_tick (.inr (.inl m2))]
              clear HE
              go_wp2
              go_ret
              exact ⟨by rw [HX.out]; rfl, HBt.out⟩
            by_cases mj : j = 0
            · subst mj
              obtain rfl : pf = le := by
                rcases HL.out.2 with ⟨_, h⟩ | ⟨h, _⟩
                · exact h.symm
                · omega
              simp only [Nat.zero_mul, Nat.add_zero, Int.cast_ofNat_Int] at c0 c1 c2 ⊢
              clear HPV HL
              go_wp2_with fail
              refine (ref_At sa sn sc pl qt _ (HP.out.spans.below HBt.out) (Nat.le_trans HP.out.sl HP.out.sm)).mono ?_
              rintro e w4 ⟨rfl, rfl⟩
              by_cases m3 : atS pl qt = 0
              · have m3' : (atS pl qt == 0) = true := by simpa using m3
                by_cases m4 : 400 < bl
                · have m4' : (400 : Int) < (bl : Int) := by omega
                  have HX : Hid (b = 6) := by show _ = _; rw [← HE.out, HD.out, itE_long (by simp only; omega) (by rw [HLB.out]; exact m4)]
                  clear HE
                  go_wp2
                  go_ret
                  exact ⟨by rw [HX.out]; rfl, HBt.out⟩
                · have m4' : ¬ (400 : Int) < (bl : Int) := by omega
                  have HX : Hid (itE ⟨1, pp, ps, pn, pf, pt, pl, pi⟩ (qt + 1) (pi.drop (0 + 1)) = b) := by show _ = _; rw [← HE.out, HD.out, itE_next (by simp only; omega) (by rw [HLB.out]; exact m4)]
                  clear HE
                  go_wp2
                  go_roundw
                  case rel => exact ⟨0 + 1, qt + 1, by omega, rfl, HX, ⟨by omega, .inr ⟨by omega, _, HQ.out, rfl⟩⟩, HKt, HBt⟩
                  case measure => simp [intOf]; omega
              · have m3' : (atS pl qt == 0) = false := by simpa using m3
                have HX : Hid (b = 14) := by show _ = _; rw [← HE.out, HD.out, itE_tick (.inr (.inr m3))]
                clear HE
                go_wp2
                go_ret
                exact ⟨by rw [HX.out]; rfl, HBt.out⟩
            · obtain ⟨i, rfl⟩ : ∃ i, j = i + 1 := ⟨j - 1, by omega⟩
              obtain ⟨q', hq', hle⟩ : ∃ q', pi[i]? = some q' ∧ le = q'.tick + 1 := by
                rcases HL.out.2 with ⟨h, _⟩ | ⟨_, q', h1, h2⟩
                · omega
                · exact ⟨q', by simpa using h1, h2⟩
              have e0 := HPV.out i q' rfl hq'
              have HPF : Hid (pf ≤ le) := HL.out.1
              obtain ⟨tp, htp⟩ : ∃ tp, tp = q'.tick := ⟨_, rfl⟩
              rw [← htp] at e0 hle
              have dz : decide ((0 : Int) < ((i + 1 : Nat) : Int)) = true := decide_eq_true (by omega)
              have hz : (0 : Int) < ((i + 1 : Nat) : Int) := by omega
              have hin : (i : Int) < (im : Int) := by omega
              have hi0 : (0 : Int) ≤ (i : Int) := by omega
              clear HPV HL hq' htp mj
              subst hle
              by_cases m5 : qt ≤ tp
              · have HX : Hid (b = 14) := by show _ = _; rw [← HE.out, HD.out, itE_tick (.inl (by simp only; omega))]
                clear HE
                go_wp2
                go_ret
                exact ⟨by rw [HX.out]; rfl, HBt.out⟩
              go_wp2_with fail
              refine (ref_At sa sn sc pl qt _ (HP.out.spans.below HBt.out) (Nat.le_trans HP.out.sl HP.out.sm)).mono ?_
              rintro e w4 ⟨rfl, rfl⟩
              by_cases m3 : atS pl qt = 0
              · have m3' : (atS pl qt == 0) = true := by simpa using m3
                by_cases m4 : 400 < bl
                · have m4' : (400 : Int) < (bl : Int) := by omega
                  have HX : Hid (b = 6) := by show _ = _; rw [← HE.out, HD.out, itE_long (by simp only; omega) (by rw [HLB.out]; exact m4)]
                  clear HE
                  go_wp2
                  go_ret
                  exact ⟨by rw [HX.out]; rfl, HBt.out⟩
                · have m4' : ¬ (400 : Int) < (bl : Int) := by omega
                  have HX : Hid (itE ⟨1, pp, ps, pn, pf, pt, pl, pi⟩ (qt + 1) (pi.drop (i + 1 + 1)) = b) := by show _ = _; rw [← HE.out, HD.out, itE_next (by simp only; omega) (by rw [HLB.out]; exact m4)]
                  clear HE
                  go_wp2
                  go_roundw
                  case rel => exact ⟨i + 1 + 1, qt + 1, by omega, by go_num, HX, ⟨by omega, .inr ⟨by omega, _, HQ.out, rfl⟩⟩, HKt, HBt⟩
                  case measure => simp [intOf]; omega
              · have m3' : (atS pl qt == 0) = false := by simpa using m3
                have HX : Hid (b = 14) := by show _ = _; rw [← HE.out, HD.out, itE_tick (.inr (.inr m3))]
                clear HE
                go_wp2
                go_ret
                exact ⟨by rw [HX.out]; rfl, HBt.out⟩
          · have jnl : ¬ (j : Int) < (im : Int) := by omega
            have a7 : wr.cell? ⟨w.heap.size, 7, none⟩ = some (.slice ia im ic) := HKt.out.cell 7 rfl
            have HX : Hid (b = 0) := by
              show _ = _
              rw [← HE.out, List.drop_of_length_le (by rw [HSZ.out.2]; omega)]
              rfl
            clear HE
            go_wp2
            go_ret
            exact ⟨by rw [HX.out]; rfl, HBt.out⟩

theorem ref_Check (p : Pc) (sa : Option Addr) (sn sc : Nat) (ia : Option Addr) (im ic : Nat) (w : World) (hp : PcRd w p sa sn sc ia im ic) : Calls Try.prog 13 #[p.val sa sn sc ia im ic] w fun e w' => e = .returned (.int .i64 (chk p)) ∧ Below w.heap.size w w' := by
  obtain ⟨pk, pp, ps, pn, pf, pt, pl, pi⟩ := p
  cases h : isB pk with
  | false => exact ref_Check_bad pk pp ps pn pf pt pl pi sa sn sc ia im ic w h
  | true =>
    rcases kinds h with rfl | rfl | rfl | rfl | rfl | rfl
    · exact ref_Check_tell pp ps pn pf pt pl pi sa sn sc ia im ic w hp
    · exact ref_Check_want 2 pp ps pn pf pt pl pi sa sn sc ia im ic w rfl
    · exact ref_Check_ack 3 pp ps pn pf pt pl pi sa sn sc ia im ic w (.inl rfl)
    · exact ref_Check_join 4 pp ps pn pf pt pl pi sa sn sc ia im ic w (.inl rfl)
    · exact ref_Check_ack 5 pp ps pn pf pt pl pi sa sn sc ia im ic w (.inr rfl)
    · exact ref_Check_join 6 pp ps pn pf pt pl pi sa sn sc ia im ic w (.inr rfl)
end Go.Proofs.Ytidihfhgnjkmaaa
