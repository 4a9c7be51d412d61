/- cover: the reference's CheckBox. -/
import Derived.Test.YtnfeklebfnlgkaaGreatCvC4
import Derived.Deep.QuietTactic
import Derived.BigQuiet
import Derived.Lib.MinMaxS
namespace Go.Proofs.YtnfeklebfnlgkaaGreat
open Go.RowKit

theorem below_drewN (w : World) (n : Nat) : Below w.heap.size w (w.drewN n) := ⟨rfl, rfl, rfl, Nat.le_refl _, fun _ _ => rfl⟩
theorem leB_empty {s : ByteArray} (h : nameOk s) : leB s ⟨#[]⟩ = false := by
  have h1 := h.1
  have e : s.data.toList ≠ [] := by
    intro he
    have : s.data.toList.length = 0 := by rw [he]; rfl
    rw [Array.length_toList] at this
    have h2 : s.size = s.data.size := rfl
    omega
  have e2 : s.data ≠ #[] := fun h3 => e (by rw [h3])
  simp [leB, Lib.toList_data, Proofs.bytesLess_eq, e2]
/-- The name ahead of a place. -/
def prevSq (l : List Sq) : Nat → ByteArray
  | 0 => ⟨#[]⟩
  | k + 1 => match l[k]? with
    | some s => s.nm
    | none => ⟨#[]⟩
theorem prevSq_succ {l : List Sq} {k : Nat} {s : Sq} (h : l[k]? = some s) : prevSq l (k + 1) = s.nm := by
  rw [prevSq, h]
def partF (n f : Int) : Bool := decide (f ≤ n) && decide (n ≤ 1048576)
theorem badD_eq (X Y R : Int) : badD (X, Y, R) = (!partF X (-1048576) || !partF Y (-1048576) || !partF R 0) := by
  unfold badD partB partF
  simp only
  by_cases h1 : R < 0
  · rw [decide_eq_true h1, decide_eq_false (show ¬ (0 : Int) ≤ R by omega)]; simp
  · rw [decide_eq_false h1, decide_eq_true (show (0 : Int) ≤ R by omega)]
    by_cases h2 : R ≤ 1048576
    · rw [decide_eq_true h2, decide_eq_false (show ¬ (1048576 : Int) < R by omega)]; simp
    · rw [decide_eq_false h2, decide_eq_true (show (1048576 : Int) < R by omega)]; simp
set_option maxRecDepth 100000 in
theorem ref_part (n f : Int) (w : World) : Calls Tryz.prog 16 #[.int .i64 n, .int .i64 f] w fun e w' => e = .returned (.bool (partF n f)) ∧ w' = w := by
  by_cases h1 : f ≤ n
  · by_cases h2 : n ≤ 1048576
    · go_enter Tryz.func16, Tryz.ntmps16
      go_wp2
      go_returns
      exact ⟨by simp [partF, h1, h2], rfl⟩
    · go_enter Tryz.func16, Tryz.ntmps16
      go_wp2
      go_returns
      exact ⟨by simp [partF, h1, h2], rfl⟩
  · go_enter Tryz.func16, Tryz.ntmps16
    go_wp2
    go_returns
    exact ⟨by rw [partF, decide_eq_false (by omega)]; rfl, rfl⟩
set_option maxRecDepth 100000 in
theorem ref_CheckBox_long (a : Option Addr) (n c : Nat) (w : World) (h8 : 8 < n) : Calls Tryz.prog 8 #[.slice a n c] w fun e w' => e = .returned (.int .i64 6) ∧ w' = w := by
  have h8' : (8 : Int) < (n : Int) := by omega
  go_enter Tryz.func8, Tryz.ntmps8
  go_wp2
  go_returns
  exact ⟨rfl, rfl⟩
set_option maxRecDepth 100000 in
set_option maxHeartbeats 8000000 in
theorem ref_CheckBox (a : Option Addr) (n c : Nat) (l : List Sq) (w : World) (h : SqsRd w a n l) (hnc : ∀ s ∈ l, (s.ia = none → s.ic = 0) ∧ (s.oa = none → s.oc = 0)) (h8 : n ≤ 8) : Calls Tryz.prog 8 #[.slice a n c] w fun e w' => e = .returned (.int .i64 (boxE l ⟨#[]⟩)) ∧ Below w.heap.size w w' := by
  have HF : Hid (SqsRd w a n l) := h
  have HNCS : Hid (∀ s ∈ l, (s.ia = none → s.ic = 0) ∧ (s.oa = none → s.oc = 0)) := hnc
  clear h hnc
  obtain ⟨f, HFF⟩ : ∃ f, Hid (f = boxE l ⟨#[]⟩) := ⟨_, rfl⟩
  rw [← HFF.out]
  have h8' : ¬ 8 < (n : Int) := by omega
  go_enter Tryz.func8, Tryz.ntmps8
  go_wp2_with fail
  clear h8'
  go_loopw [3] (fun t3 wr => ∃ (k : Nat), k ≤ n ∧ t3 = .int .i64 (k : Int) ∧ Hid (boxE (l.drop k) (prevSq l k) = f) ∧ Hid (Below w.heap.size w wr)) (fun t3 _ => n - (intOf t3).toNat)
  case atStart => exact ⟨0, by omega, rfl, HFF.out.symm, Below.refl _ _⟩
  case round =>
    obtain ⟨k, hk, rfl, HE, HB⟩ := hrel
    by_cases hlt : k < n
    · have hlt' : (k : Int) < (n : Int) := by omega
      have hge : (0 : Int) ≤ (k : Int) := by omega
      have hrd := HF.out.below HB.out
      obtain ⟨s, hs⟩ : ∃ s, l[k]? = some s := ⟨_, List.getElem?_eq_getElem (by rw [HF.out.size]; exact hlt)⟩
      have hsm := HF.out.small s (List.mem_of_getElem? hs)
      have hncs := HNCS.out s (List.mem_of_getElem? hs)
      have hds := hrd.discs s (List.mem_of_getElem? hs)
      obtain ⟨b, off, rfl, hbl, hc, hcp⟩ : ∃ b off, a = some ⟨b, off, none⟩ ∧ b < wr.heap.size ∧ wr.rangeAt b (off + k * 12) (sqc s) ∧ ∀ j s', l[j]? = some s' → wr.rangeAt b (off + j * 12) (sqc s') := by
        rcases hrd.cells with h0 | ⟨b, off, ha, hb, hc⟩
        · omega
        · exact ⟨b, off, ha, hb, hc k s hs, hc⟩
      have HE2 : Hid (boxE (s :: l.drop (k + 1)) (prevSq l k) = f) := by
        (show _ = _)
        rw [← HE.out]
        obtain ⟨hi', he⟩ := List.getElem?_eq_some_iff.1 hs
        rw [← he, List.getElem_cons_drop]
      have HP : Hid (prevSq l (k + 1) = s.nm) := prevSq_succ hs
      have HPV : Hid (∀ j, k = j + 1 → wr.cell? ⟨b, off + j * 12, none⟩ = some (.string (prevSq l k))) := by
        intro j hj
        subst hj
        have hjs : j < l.length := by rw [HF.out.size]; omega
        rw [prevSq_succ (List.getElem?_eq_getElem hjs)]
        exact hcp j _ (List.getElem?_eq_getElem hjs) 0 _ rfl
      obtain ⟨nm, kd, ab, lo, hi2, fr, to, op, tr, no, ia, il, ic, oa, ol, oc, ins, outs⟩ := s
      simp only at hsm hncs hds HP
      have HSM : Hid (nm.size ≤ maxLen) := hsm
      have HNC : Hid ((ia = none → ic = 0) ∧ (oa = none → oc = 0)) := hncs
      have HD1 : Hid (DcsRd wr ia il ins ∧ DcsRd wr oa ol outs) := hds
      have c0 : wr.cell? ⟨b, off + k * 12, none⟩ = some (.string nm) := hc 0 _ rfl
      have c1 : wr.cell? ⟨b, off + k * 12 + 1, none⟩ = some (.int .i64 kd) := hc 1 _ rfl
      have HC1 : Hid (∀ w', Below wr.heap.size wr w' → w'.cell? ⟨b, off + k * 12 + 1, none⟩ = some (.int .i64 kd) ∧ w'.cell? ⟨b, off + k * 12 + 10, none⟩ = some (.slice ia il ic) ∧ w'.cell? ⟨b, off + k * 12 + 11, none⟩ = some (.slice oa ol oc)) := by
        intro w' hb'
        rw [hb'.cell (p := ⟨b, off + k * 12 + 1, none⟩) hbl, hb'.cell (p := ⟨b, off + k * 12 + 10, none⟩) hbl, hb'.cell (p := ⟨b, off + k * 12 + 11, none⟩) hbl]
        exact ⟨hc 1 _ rfl, hc 10 _ rfl, hc 11 _ rfl⟩
      clear hrd hs hsm hncs hds hc hcp hbl c1
      obtain ⟨t, HT⟩ : ∃ t, Hid (prevSq l k = t) := ⟨_, rfl⟩
      rw [HT.out] at HE2 HPV
      have HNM := ref_Name nm HSM.out wr
      go_wp2_with fail
      refine HNM.mono ?_
      rintro e w1 ⟨⟨b1, rfl, hb1⟩, hw⟩
      rw [hw]
      clear hw w1 HNM
      cases b1 with
      | false =>
        have HR : Hid (f = 11) := by
          (show _ = _)
          rw [← HE2.out, boxE, if_pos]
          exact Bool.eq_false_iff.2 fun h2 => by have := hb1.2 ((nameB_iff _).1 h2); cases this
        clear hb1
        go_wp2
        go_returns
        exact ⟨by rw [HR.out]; rfl, HB.out⟩
      | true =>
        have HN : Hid (nameOk nm) := hb1.1 rfl
        have HNB : Hid (nameB nm = true) := (nameB_iff _).2 (hb1.1 rfl)
        clear hb1
        by_cases hk0 : k = 0
        · have HLF : Hid (leB nm t = false) := by
            (show _ = _)
            rw [← HT.out, hk0]
            exact leB_empty HN.out
          have hz1 : decide ((0 : Int) < (k : Int)) = false := by rw [decide_eq_false]; omega
          have hz2 : ¬ (0 : Int) < (k : Int) := by omega
          have hz3 : decide (0 < k) = false := by rw [decide_eq_false]; omega
          have hz4 : ¬ 0 < k := by omega
          have HK0 : Hid (k = 0) := hk0
          clear hk0
          go_wp2
          go_quiet (fail)
          generalize hnq : wr.drewN _ = w2
          have hb2 : Below wr.heap.size wr w2 := by rw [← hnq]; exact below_drewN wr _
          have HB2 : Hid (Below w.heap.size w w2) := HB.out.trans (hb2.mono HB.out.size)
          obtain ⟨d1, d10, d11⟩ := HC1.out w2 hb2
          have HD2 : Hid (DcsRd w2 ia il ins ∧ DcsRd w2 oa ol outs) := ⟨HD1.out.1.below hb2, HD1.out.2.below hb2⟩
          clear hnq c0 hz1 hz2 hz3 hz4 hb2 HC1 HD1 HPV
          by_cases hk1 : kd < 1
          · have HR : Hid (f = 12) := by (show _ = _); rw [boxE_type HE2.out HNB.out HLF.out (.inl hk1)]
            go_wp2
            go_returns
            exact ⟨by rw [HR.out]; rfl, HB2.out⟩
          · by_cases hk4 : 4 < kd
            · have HR : Hid (f = 12) := by (show _ = _); rw [boxE_type HE2.out HNB.out HLF.out (.inr hk4)]
              go_wp2
              go_returns
              exact ⟨by rw [HR.out]; rfl, HB2.out⟩
            · have HNX : Hid ((if discE kd il ol ins outs ≠ 0 then discE kd il ol ins outs else boxE (l.drop (k + 1)) nm) = f) := boxE_next HE2.out HNB.out HLF.out (by simp only; omega)
              by_cases hk5 : kd = 4
              · subst hk5
                by_cases hm : 4 < il ∨ 4 < ol
                · have HR : Hid (f = 6) := by
                    have h := HNX.out
                    rw [show discE 4 il ol ins outs = 6 from by rw [discE, if_neg (by simp), if_pos hm], if_pos (by decide)] at h
                    exact h.symm
                  by_cases hm1 : 4 < il
                  · have hm2 : (4 : Int) < (il : Int) := by omega
                    clear hm
                    go_wp2
                    go_returns
                    exact ⟨by rw [HR.out]; rfl, HB2.out⟩
                  · have hm3 : 4 < ol := by omega
                    have hm2 : ¬ (4 : Int) < (il : Int) := by omega
                    have hm4 : (4 : Int) < (ol : Int) := by omega
                    clear hm
                    go_wp2
                    go_returns
                    exact ⟨by rw [HR.out]; rfl, HB2.out⟩
                · have hm1 : ¬ (4 : Int) < (il : Int) := by omega
                  have hm2 : ¬ (4 : Int) < (ol : Int) := by omega
                  have HIO : Hid (il ≤ 4 ∧ ol ≤ 4) := by (show _ ∧ _); omega
                  have HNY : Hid ((if (ins ++ outs).any badD = true then 2 else boxE (l.drop (k + 1)) nm) = f) := by
                    have h := HNX.out
                    have hd : discE 4 il ol ins outs = if ins.any badD = true ∨ outs.any badD = true then 2 else 0 := by rw [discE, if_neg (by simp), if_neg hm]
                    rw [hd] at h
                    (show _ = _)
                    by_cases hb : ins.any badD = true ∨ outs.any badD = true
                    · rw [if_pos hb, if_pos (by decide)] at h
                      rw [if_pos (by rw [List.any_append, Bool.or_eq_true]; exact hb)]
                      exact h
                    · rw [if_neg hb, if_neg (by simp)] at h
                      rw [if_neg (by rw [List.any_append, Bool.or_eq_true]; exact hb)]
                      exact h
                  clear hm
                  go_upto_region 15 with fail
                  clear hm1 hm2
                  have HSK : Hid (∀ w', Below w2.heap.size w2 w' → w'.cell? ⟨b, off + k * 12 + 10, none⟩ = some (.slice ia il ic) ∧ w'.cell? ⟨b, off + k * 12 + 11, none⟩ = some (.slice oa ol oc)) := by
                    intro w' hb'
                    rw [hb'.cell (p := ⟨b, off + k * 12 + 10, none⟩) (World.block_lt_of_cell? w2 _ d10), hb'.cell (p := ⟨b, off + k * 12 + 11, none⟩) (World.block_lt_of_cell? w2 _ d11)]
                    exact ⟨d10, d11⟩
                  have HBN : Hid (Below w2.heap.size w2 w2.drew) := (Below.refl _ _).drew
                  have HOE : Hid (OwnD (w2.alloc (.cells #[] 45)).drew w2.heap.size (.slice (some ⟨w2.heap.size, 0, none⟩) 0 0) []) := (OwnD.empty w2).drew
                  have HDE : Hid (DcsRd (w2.alloc (.cells #[] 45)).drew ia il ins) := (HD2.out.1.below (below_alloc _ _)).drew
                  have HSE : Hid (w2.heap.size ≤ (w2.alloc (.cells #[] 45)).drew.heap.size) := by (show _ ≤ (w2.alloc (.cells #[] 45)).heap.size); exact (below_alloc _ _).size
                  have HBE : Hid (Below w2.heap.size w2 (w2.alloc (.cells #[] 45)).drew) := (below_alloc _ _).drew
                  go_region_held3 (fun w' => w'.cell? ⟨b, off + k * 12 + 10, none⟩ = some (.slice ia il ic) ∧ w'.cell? ⟨b, off + k * 12 + 11, none⟩ = some (.slice oa ol oc)) (first | with_reducible exact HSK.out _ HBN.out | with_reducible exact HSK.out _ (Below.refl _ _) | with_reducible exact HSK.out _ HBE.out | with_reducible exact HSK.out _ (below_alloc _ _) | exact HSK.out _ HBE.out | fail)
                    (first
                      | (refine step_append_dc (by rfl) (.tmp 74) (.tmp 79) (by rfl) w2.heap.size (.slice (some ⟨w2.heap.size, 0, none⟩) 0 0) [] (by rfl) (by with_reducible exact HOE.out) ia il ic ins (by rfl) (by with_reducible exact HDE.out) HNC.out.1 (by have := HIO.out; simp; omega) (by with_reducible exact HSE.out) ?_; intro v5 w5 ho5 hg5 hb5; have HO5 : Hid (OwnD w5 w2.heap.size v5 ([] ++ ins)) := ho5; have HB5 : Hid (Below w2.heap.size w2 w5) := HBE.out.trans hb5; clear HBN; have HBN := HB5; clear ho5 hg5 hb5)
                      | (have hz := HO5; clear hz; refine step_append_dc (by rfl) (.tmp 80) (.tmp 85) (by rfl) w2.heap.size v5 ([] ++ ins) (by rfl) (by first | with_reducible exact HO5.out | with_reducible exact HO5.out.drew) oa ol oc outs (by rfl) (by first | with_reducible exact HD2.out.2.below HB5.out | with_reducible exact (HD2.out.2.below HB5.out).drew) HNC.out.2 (by have := HIO.out; have := HD2.out.1.size; simp; omega) (by with_reducible exact HB5.out.size) ?_; intro v6 w6 ho6 hg6 hb6; have HO6 : Hid (OwnD w6 w2.heap.size v6 ([] ++ ins ++ outs)) := ho6; have HB6 : Hid (Below w2.heap.size w2 w6) := HB5.out.trans hb6; clear HBN; have HBN := HB6; clear ho6 hg6 hb6))
                  rw [List.nil_append] at HO6
                  have HBW : Hid (Below w.heap.size w w6) := HB2.out.trans (HB6.out.mono HB2.out.size)
                  obtain ⟨a6, c6, hv6⟩ := HO6.out.form
                  subst hv6
                  obtain ⟨D, HDD⟩ : ∃ D, Hid (D = ins ++ outs) := ⟨_, rfl⟩
                  rw [← HDD.out] at HO6 HNY ⊢
                  obtain ⟨N, HNN⟩ : ∃ N, Hid (N = D.length) := ⟨_, rfl⟩
                  have HDR : Hid (DcsRd w6 a6 N D) := by (show DcsRd _ _ _ _); rw [HNN.out]; exact HO6.out.rd
                  rw [← HNN.out]
                  have hN8 : N ≤ 8 := by have h1 := HIO.out; have h2 := HD2.out.1.size; have h3 := HD2.out.2.size; rw [HNN.out, HDD.out, List.length_append]; omega
                  clear HO6 HBN HB6 HSK HOE HDE HSE HBE HNX HO5 HB5 d1 d10 d11 HD2 HNC HIO HB2
                  go_wp2_with fail
                  go_loopw [5] (fun t5 wi => ∃ (j : Nat), j ≤ N ∧ t5 = .int .i64 (j : Int) ∧ Hid ((D.take j).any badD = false) ∧ Hid (Below w6.heap.size w6 wi)) (fun t5 _ => N - (intOf t5).toNat)
                  case atStart => exact ⟨0, Nat.zero_le _, rfl, rfl, Below.refl _ _⟩
                  case round =>
                    obtain ⟨j, hj, rfl, HTJ, HBJ⟩ := hrel
                    have HBX : Hid (Below w.heap.size w wr) := HBW.out.trans (HBJ.out.mono HBW.out.size)
                    by_cases hjl : j < N
                    · have hjl' : (j : Int) < (N : Int) := by omega
                      have hj0 : (0 : Int) ≤ (j : Int) := by omega
                      have hrd := HDR.out.below HBJ.out
                      obtain ⟨t6, ht6⟩ : ∃ t, D[j]? = some t := ⟨_, List.getElem?_eq_getElem (by rw [HDR.out.size]; exact hjl)⟩
                      obtain ⟨g6, off6, rfl, q0, q1, q2⟩ : ∃ g off, a6 = some ⟨g, off, none⟩ ∧ wr.cell? ⟨g, off + j * 3, none⟩ = some (.int .i64 t6.1) ∧ wr.cell? ⟨g, off + j * 3 + 1, none⟩ = some (.int .i64 t6.2.1) ∧ wr.cell? ⟨g, off + j * 3 + 2, none⟩ = some (.int .i64 t6.2.2) := by
                        rcases hrd.cells with h0 | ⟨g, off, ha, _, hc⟩
                        · omega
                        · exact ⟨g, off, ha, (hc j t6 ht6).1, (hc j t6 ht6).2.1, (hc j t6 ht6).2.2⟩
                      have HLJ : Hid (D[j]? = some t6) := ht6
                      obtain ⟨X, Y, R⟩ := t6
                      simp only at q0 q1 q2
                      have HPX := ref_part X (-1048576) wr
                      have HPY := ref_part Y (-1048576) wr
                      have HPR := ref_part R 0 wr
                      obtain ⟨px, hpx⟩ : ∃ p, p = partF X (-1048576) := ⟨_, rfl⟩
                      obtain ⟨py, hpy⟩ : ∃ p, p = partF Y (-1048576) := ⟨_, rfl⟩
                      obtain ⟨pr, hpr⟩ : ∃ p, p = partF R 0 := ⟨_, rfl⟩
                      have HBV : Hid (badD (X, Y, R) = (!px || !py || !pr)) := by (show _ = _); rw [badD_eq, hpx, hpy, hpr]
                      rw [← hpx] at HPX
                      rw [← hpy] at HPY
                      rw [← hpr] at HPR
                      clear hpx hpy hpr hrd ht6
                      have HTK : Hid ((D.take (j + 1)).any badD = (!px || !py || !pr)) := by
                        (show _ = _)
                        rw [List.take_add_one, HLJ.out, List.any_append, HTJ.out, ← HBV.out]
                        simp
                      have HAN : Hid ((!px || !py || !pr) = true → f = 2) := by
                        intro hbad
                        have h := HNY.out
                        rw [if_pos (by rw [List.any_eq_true]; exact ⟨(X, Y, R), List.mem_of_getElem? HLJ.out, by rw [HBV.out]; exact hbad⟩)] at h
                        exact h.symm
                      cases px with
                      | false =>
                        have HR : Hid (f = 2) := HAN.out rfl
                        go_wp2_with fail
                        refine HPX.mono ?_
                        rintro e w0 ⟨rfl, hw⟩
                        rw [hw]
                        clear hw w0 HPX HPY HPR
                        go_wp2
                        go_returns
                        exact ⟨by rw [HR.out]; rfl, HBX.out⟩
                      | true =>
                        cases py with
                        | false =>
                          have HR : Hid (f = 2) := HAN.out rfl
                          go_wp2_with fail
                          refine HPX.mono ?_
                          rintro e w0 ⟨rfl, hw⟩
                          rw [hw]
                          clear hw w0 HPX
                          go_wp2_with fail
                          refine HPY.mono ?_
                          rintro e w0 ⟨rfl, hw⟩
                          rw [hw]
                          clear hw w0 HPY HPR
                          go_wp2
                          go_returns
                          exact ⟨by rw [HR.out]; rfl, HBX.out⟩
                        | true =>
                          go_wp2_with fail
                          refine HPX.mono ?_
                          rintro e w0 ⟨rfl, hw⟩
                          rw [hw]
                          clear hw w0 HPX
                          go_wp2_with fail
                          refine HPY.mono ?_
                          rintro e w0 ⟨rfl, hw⟩
                          rw [hw]
                          clear hw w0 HPY
                          go_wp2_with fail
                          refine HPR.mono ?_
                          rintro e w0 ⟨rfl, hw⟩
                          rw [hw]
                          clear hw w0 HPR
                          cases pr with
                          | false =>
                            have HR : Hid (f = 2) := HAN.out rfl
                            go_wp2
                            go_returns
                            exact ⟨by rw [HR.out]; rfl, HBX.out⟩
                          | true =>
                            go_wp2
                            go_roundw
                            case rel => exact ⟨j + 1, by omega, by go_num, HTK, HBJ⟩
                            case measure => (simp [intOf]; omega)
                    · have hjn : ¬ (j : Int) < (N : Int) := by omega
                      have HR : Hid (boxE (l.drop (k + 1)) (prevSq l (k + 1)) = f) := by
                        (show _ = _)
                        have h1 := HTJ.out
                        rw [List.take_of_length_le (by rw [HDR.out.size]; omega)] at h1
                        have h := HNY.out
                        rw [if_neg (by rw [h1]; simp)] at h
                        rw [HP.out]
                        exact h
                      clear HNY HDR HTJ
                      go_wp2
                      go_roundw
                      case rel => exact ⟨k + 1, by omega, by go_num, HR, HBX⟩
                      case measure => (simp [intOf]; omega)
              · have h4' : (kd != 4) = true := by rw [bne_iff_ne]; exact hk5
                have h4'' : (kd == 4) = false := by rw [beq_eq_false_iff_ne]; exact hk5
                have HR : Hid (boxE (l.drop (k + 1)) (prevSq l (k + 1)) = f) := by
                  (show _ = _)
                  have h := HNX.out
                  rw [show discE kd il ol ins outs = 0 from by rw [discE, if_pos hk5], if_neg (by simp)] at h
                  rw [HP.out]
                  exact h
                go_wp2
                go_roundw
                case rel => exact ⟨k + 1, by omega, by go_num, HR, HB2⟩
                case measure => (simp [intOf]; omega)
        · obtain ⟨j0, hj0⟩ : ∃ j, k = j + 1 := ⟨k - 1, by omega⟩
          have hz : (0 : Int) < (k : Int) := by omega
          have hz1 : decide (0 < k) = true := by rw [decide_eq_true]; omega
          have hz0 : 0 < k := by omega
          have p0 := HPV.out j0 hj0
          have hw1 : IntKind.i64.wrap ((k : Int) - 1) = (j0 : Int) := by rw [IntKind.wrap_i64]; omega
          have hw2 : (k : Int) - 1 = (j0 : Int) := by omega
          have hw3 : (0 : Int) ≤ (j0 : Int) := by omega
          have hw4 : (j0 : Int) < (n : Int) := by omega
          have HJ0 : Hid (k = j0 + 1) := hj0
          clear hj0 hk0
          go_wp2
          go_quiet (fail)
          have HL : Hid ((Op.bytesLess nm.toList t.toList || nm.toList == t.toList) = leB nm t) := rfl
          rw [HL.out]
          generalize hnq : wr.drewN _ = w2
          have hb2 : Below wr.heap.size wr w2 := by rw [← hnq]; exact below_drewN wr _
          have HB2 : Hid (Below w.heap.size w w2) := HB.out.trans (hb2.mono HB.out.size)
          obtain ⟨d1, d10, d11⟩ := HC1.out w2 hb2
          have HD2 : Hid (DcsRd w2 ia il ins ∧ DcsRd w2 oa ol outs) := ⟨HD1.out.1.below hb2, HD1.out.2.below hb2⟩
          clear hnq c0 p0 hb2 HC1 HD1 HPV hz hz0 hz1 hw1 hw2 hw3 hw4
          cases hle : leB nm t with
          | true =>
            have HR : Hid (f = 4) := by (show _ = _); rw [boxE_form HE2.out HNB.out hle]
            clear hle
            go_wp2
            go_returns
            exact ⟨by rw [HR.out]; rfl, HB2.out⟩
          | false =>
            have HLF : Hid (leB nm t = false) := hle
            clear hle
            by_cases hk1 : kd < 1
            · have HR : Hid (f = 12) := by (show _ = _); rw [boxE_type HE2.out HNB.out HLF.out (.inl hk1)]
              go_wp2
              go_returns
              exact ⟨by rw [HR.out]; rfl, HB2.out⟩
            · by_cases hk4 : 4 < kd
              · have HR : Hid (f = 12) := by (show _ = _); rw [boxE_type HE2.out HNB.out HLF.out (.inr hk4)]
                go_wp2
                go_returns
                exact ⟨by rw [HR.out]; rfl, HB2.out⟩
              · have HNX : Hid ((if discE kd il ol ins outs ≠ 0 then discE kd il ol ins outs else boxE (l.drop (k + 1)) nm) = f) := boxE_next HE2.out HNB.out HLF.out (by simp only; omega)
                by_cases hk5 : kd = 4
                · subst hk5
                  by_cases hm : 4 < il ∨ 4 < ol
                  · have HR : Hid (f = 6) := by
                      have h := HNX.out
                      rw [show discE 4 il ol ins outs = 6 from by rw [discE, if_neg (by simp), if_pos hm], if_pos (by decide)] at h
                      exact h.symm
                    by_cases hm1 : 4 < il
                    · have hm2 : (4 : Int) < (il : Int) := by omega
                      clear hm
                      go_wp2
                      go_returns
                      exact ⟨by rw [HR.out]; rfl, HB2.out⟩
                    · have hm3 : 4 < ol := by omega
                      have hm2 : ¬ (4 : Int) < (il : Int) := by omega
                      have hm4 : (4 : Int) < (ol : Int) := by omega
                      clear hm
                      go_wp2
                      go_returns
                      exact ⟨by rw [HR.out]; rfl, HB2.out⟩
                  · have hm1 : ¬ (4 : Int) < (il : Int) := by omega
                    have hm2 : ¬ (4 : Int) < (ol : Int) := by omega
                    have HIO : Hid (il ≤ 4 ∧ ol ≤ 4) := by (show _ ∧ _); omega
                    have HNY : Hid ((if (ins ++ outs).any badD = true then 2 else boxE (l.drop (k + 1)) nm) = f) := by
                      have h := HNX.out
                      have hd : discE 4 il ol ins outs = if ins.any badD = true ∨ outs.any badD = true then 2 else 0 := by rw [discE, if_neg (by simp), if_neg hm]
                      rw [hd] at h
                      (show _ = _)
                      by_cases hb : ins.any badD = true ∨ outs.any badD = true
                      · rw [if_pos hb, if_pos (by decide)] at h
                        rw [if_pos (by rw [List.any_append, Bool.or_eq_true]; exact hb)]
                        exact h
                      · rw [if_neg hb, if_neg (by simp)] at h
                        rw [if_neg (by rw [List.any_append, Bool.or_eq_true]; exact hb)]
                        exact h
                    clear hm
                    go_upto_region 15 with fail
                    clear hm1 hm2
                    have HSK : Hid (∀ w', Below w2.heap.size w2 w' → w'.cell? ⟨b, off + k * 12 + 10, none⟩ = some (.slice ia il ic) ∧ w'.cell? ⟨b, off + k * 12 + 11, none⟩ = some (.slice oa ol oc)) := by
                      intro w' hb'
                      rw [hb'.cell (p := ⟨b, off + k * 12 + 10, none⟩) (World.block_lt_of_cell? w2 _ d10), hb'.cell (p := ⟨b, off + k * 12 + 11, none⟩) (World.block_lt_of_cell? w2 _ d11)]
                      exact ⟨d10, d11⟩
                    have HBN : Hid (Below w2.heap.size w2 w2.drew) := (Below.refl _ _).drew
                    have HOE : Hid (OwnD (w2.alloc (.cells #[] 45)).drew w2.heap.size (.slice (some ⟨w2.heap.size, 0, none⟩) 0 0) []) := (OwnD.empty w2).drew
                    have HDE : Hid (DcsRd (w2.alloc (.cells #[] 45)).drew ia il ins) := (HD2.out.1.below (below_alloc _ _)).drew
                    have HSE : Hid (w2.heap.size ≤ (w2.alloc (.cells #[] 45)).drew.heap.size) := by (show _ ≤ (w2.alloc (.cells #[] 45)).heap.size); exact (below_alloc _ _).size
                    have HBE : Hid (Below w2.heap.size w2 (w2.alloc (.cells #[] 45)).drew) := (below_alloc _ _).drew
                    go_region_held3 (fun w' => w'.cell? ⟨b, off + k * 12 + 10, none⟩ = some (.slice ia il ic) ∧ w'.cell? ⟨b, off + k * 12 + 11, none⟩ = some (.slice oa ol oc)) (first | with_reducible exact HSK.out _ HBN.out | with_reducible exact HSK.out _ (Below.refl _ _) | with_reducible exact HSK.out _ HBE.out | with_reducible exact HSK.out _ (below_alloc _ _) | exact HSK.out _ HBE.out | fail)
                      (first
                        | (refine step_append_dc (by rfl) (.tmp 74) (.tmp 79) (by rfl) w2.heap.size (.slice (some ⟨w2.heap.size, 0, none⟩) 0 0) [] (by rfl) (by with_reducible exact HOE.out) ia il ic ins (by rfl) (by with_reducible exact HDE.out) HNC.out.1 (by have := HIO.out; simp; omega) (by with_reducible exact HSE.out) ?_; intro v5 w5 ho5 hg5 hb5; have HO5 : Hid (OwnD w5 w2.heap.size v5 ([] ++ ins)) := ho5; have HB5 : Hid (Below w2.heap.size w2 w5) := HBE.out.trans hb5; clear HBN; have HBN := HB5; clear ho5 hg5 hb5)
                        | (have hz := HO5; clear hz; refine step_append_dc (by rfl) (.tmp 80) (.tmp 85) (by rfl) w2.heap.size v5 ([] ++ ins) (by rfl) (by first | with_reducible exact HO5.out | with_reducible exact HO5.out.drew) oa ol oc outs (by rfl) (by first | with_reducible exact HD2.out.2.below HB5.out | with_reducible exact (HD2.out.2.below HB5.out).drew) HNC.out.2 (by have := HIO.out; have := HD2.out.1.size; simp; omega) (by with_reducible exact HB5.out.size) ?_; intro v6 w6 ho6 hg6 hb6; have HO6 : Hid (OwnD w6 w2.heap.size v6 ([] ++ ins ++ outs)) := ho6; have HB6 : Hid (Below w2.heap.size w2 w6) := HB5.out.trans hb6; clear HBN; have HBN := HB6; clear ho6 hg6 hb6))
                    rw [List.nil_append] at HO6
                    have HBW : Hid (Below w.heap.size w w6) := HB2.out.trans (HB6.out.mono HB2.out.size)
                    obtain ⟨a6, c6, hv6⟩ := HO6.out.form
                    subst hv6
                    obtain ⟨D, HDD⟩ : ∃ D, Hid (D = ins ++ outs) := ⟨_, rfl⟩
                    rw [← HDD.out] at HO6 HNY ⊢
                    obtain ⟨N, HNN⟩ : ∃ N, Hid (N = D.length) := ⟨_, rfl⟩
                    have HDR : Hid (DcsRd w6 a6 N D) := by (show DcsRd _ _ _ _); rw [HNN.out]; exact HO6.out.rd
                    rw [← HNN.out]
                    have hN8 : N ≤ 8 := by have h1 := HIO.out; have h2 := HD2.out.1.size; have h3 := HD2.out.2.size; rw [HNN.out, HDD.out, List.length_append]; omega
                    clear HO6 HBN HB6 HSK HOE HDE HSE HBE HNX HO5 HB5 d1 d10 d11 HD2 HNC HIO HB2
                    go_wp2_with fail
                    go_loopw [5] (fun t5 wi => ∃ (j : Nat), j ≤ N ∧ t5 = .int .i64 (j : Int) ∧ Hid ((D.take j).any badD = false) ∧ Hid (Below w6.heap.size w6 wi)) (fun t5 _ => N - (intOf t5).toNat)
                    case atStart => exact ⟨0, Nat.zero_le _, rfl, rfl, Below.refl _ _⟩
                    case round =>
                      obtain ⟨j, hj, rfl, HTJ, HBJ⟩ := hrel
                      have HBX : Hid (Below w.heap.size w wr) := HBW.out.trans (HBJ.out.mono HBW.out.size)
                      by_cases hjl : j < N
                      · have hjl' : (j : Int) < (N : Int) := by omega
                        have hj0 : (0 : Int) ≤ (j : Int) := by omega
                        have hrd := HDR.out.below HBJ.out
                        obtain ⟨t6, ht6⟩ : ∃ t, D[j]? = some t := ⟨_, List.getElem?_eq_getElem (by rw [HDR.out.size]; exact hjl)⟩
                        obtain ⟨g6, off6, rfl, q0, q1, q2⟩ : ∃ g off, a6 = some ⟨g, off, none⟩ ∧ wr.cell? ⟨g, off + j * 3, none⟩ = some (.int .i64 t6.1) ∧ wr.cell? ⟨g, off + j * 3 + 1, none⟩ = some (.int .i64 t6.2.1) ∧ wr.cell? ⟨g, off + j * 3 + 2, none⟩ = some (.int .i64 t6.2.2) := by
                          rcases hrd.cells with h0 | ⟨g, off, ha, _, hc⟩
                          · omega
                          · exact ⟨g, off, ha, (hc j t6 ht6).1, (hc j t6 ht6).2.1, (hc j t6 ht6).2.2⟩
                        have HLJ : Hid (D[j]? = some t6) := ht6
                        obtain ⟨X, Y, R⟩ := t6
                        simp only at q0 q1 q2
                        have HPX := ref_part X (-1048576) wr
                        have HPY := ref_part Y (-1048576) wr
                        have HPR := ref_part R 0 wr
                        obtain ⟨px, hpx⟩ : ∃ p, p = partF X (-1048576) := ⟨_, rfl⟩
                        obtain ⟨py, hpy⟩ : ∃ p, p = partF Y (-1048576) := ⟨_, rfl⟩
                        obtain ⟨pr, hpr⟩ : ∃ p, p = partF R 0 := ⟨_, rfl⟩
                        have HBV : Hid (badD (X, Y, R) = (!px || !py || !pr)) := by (show _ = _); rw [badD_eq, hpx, hpy, hpr]
                        rw [← hpx] at HPX
                        rw [← hpy] at HPY
                        rw [← hpr] at HPR
                        clear hpx hpy hpr hrd ht6
                        have HTK : Hid ((D.take (j + 1)).any badD = (!px || !py || !pr)) := by
                          (show _ = _)
                          rw [List.take_add_one, HLJ.out, List.any_append, HTJ.out, ← HBV.out]
                          simp
                        have HAN : Hid ((!px || !py || !pr) = true → f = 2) := by
                          intro hbad
                          have h := HNY.out
                          rw [if_pos (by rw [List.any_eq_true]; exact ⟨(X, Y, R), List.mem_of_getElem? HLJ.out, by rw [HBV.out]; exact hbad⟩)] at h
                          exact h.symm
                        cases px with
                        | false =>
                          have HR : Hid (f = 2) := HAN.out rfl
                          go_wp2_with fail
                          refine HPX.mono ?_
                          rintro e w0 ⟨rfl, hw⟩
                          rw [hw]
                          clear hw w0 HPX HPY HPR
                          go_wp2
                          go_returns
                          exact ⟨by rw [HR.out]; rfl, HBX.out⟩
                        | true =>
                          cases py with
                          | false =>
                            have HR : Hid (f = 2) := HAN.out rfl
                            go_wp2_with fail
                            refine HPX.mono ?_
                            rintro e w0 ⟨rfl, hw⟩
                            rw [hw]
                            clear hw w0 HPX
                            go_wp2_with fail
                            refine HPY.mono ?_
                            rintro e w0 ⟨rfl, hw⟩
                            rw [hw]
                            clear hw w0 HPY HPR
                            go_wp2
                            go_returns
                            exact ⟨by rw [HR.out]; rfl, HBX.out⟩
                          | true =>
                            go_wp2_with fail
                            refine HPX.mono ?_
                            rintro e w0 ⟨rfl, hw⟩
                            rw [hw]
                            clear hw w0 HPX
                            go_wp2_with fail
                            refine HPY.mono ?_
                            rintro e w0 ⟨rfl, hw⟩
                            rw [hw]
                            clear hw w0 HPY
                            go_wp2_with fail
                            refine HPR.mono ?_
                            rintro e w0 ⟨rfl, hw⟩
                            rw [hw]
                            clear hw w0 HPR
                            cases pr with
                            | false =>
                              have HR : Hid (f = 2) := HAN.out rfl
                              go_wp2
                              go_returns
                              exact ⟨by rw [HR.out]; rfl, HBX.out⟩
                            | true =>
                              go_wp2
                              go_roundw
                              case rel => exact ⟨j + 1, by omega, by go_num, HTK, HBJ⟩
                              case measure => (simp [intOf]; omega)
                      · have hjn : ¬ (j : Int) < (N : Int) := by omega
                        have HR : Hid (boxE (l.drop (k + 1)) (prevSq l (k + 1)) = f) := by
                          (show _ = _)
                          have h1 := HTJ.out
                          rw [List.take_of_length_le (by rw [HDR.out.size]; omega)] at h1
                          have h := HNY.out
                          rw [if_neg (by rw [h1]; simp)] at h
                          rw [HP.out]
                          exact h
                        clear HNY HDR HTJ
                        go_wp2
                        go_roundw
                        case rel => exact ⟨k + 1, by omega, by go_num, HR, HBX⟩
                        case measure => (simp [intOf]; omega)
                · have h4' : (kd != 4) = true := by rw [bne_iff_ne]; exact hk5
                  have h4'' : (kd == 4) = false := by rw [beq_eq_false_iff_ne]; exact hk5
                  have HR : Hid (boxE (l.drop (k + 1)) (prevSq l (k + 1)) = f) := by
                    (show _ = _)
                    have h := HNX.out
                    rw [show discE kd il ol ins outs = 0 from by rw [discE, if_pos hk5], if_neg (by simp)] at h
                    rw [HP.out]
                    exact h
                  go_wp2
                  go_roundw
                  case rel => exact ⟨k + 1, by omega, by go_num, HR, HB2⟩
                  case measure => (simp [intOf]; omega)
    · have hnl : ¬ (k : Int) < (n : Int) := by omega
      have HR : Hid (f = 0) := by
        (show _ = _)
        rw [← HE.out, List.drop_of_length_le (by rw [HF.out.size]; omega), boxE]
      go_wp2
      go_returns
      exact ⟨by rw [HR.out]; rfl, HB.out⟩
end Go.Proofs.YtnfeklebfnlgkaaGreat
