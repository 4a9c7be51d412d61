/- grapevineref15: Tell. -/
import Derived.Test.YtidihfhgnjkmaaaGreatRpP
namespace Go.Proofs.YtidihfhgnjkmaaaGreat
set_option maxRecDepth 100000
open Go.RowKit
variable {Z : Nat → Prop}

set_option maxHeartbeats 32000000 in
theorem ref_Tell {w : World} {y : Nat} {L : List Sp} {R : List (It × Bd)} {la0 : Option Addr} {ln0 lc0 : Nat} {xa0 : Option Addr} {xn0 xc0 : Nat} (h : Rst Z w y L R la0 ln0 lc0 xa0 xn0 xc0) (hK : Kn L (R.map Prod.fst)) (hX : xn0 ≤ 1000000) {pub f t lk : Int} (hm : mayT pub f t) (hlk : 0 ≤ lk ∧ lk ≤ 4294967295) :
    Calls Tryz.prog 53 #[.pointer (some ⟨y, 0, none⟩), .int .i64 pub, .int .i64 f, .int .i64 t, .int .u32 lk] w fun e w' => TellTold Z L (R.map Prod.fst) lk pub f t w e w' := by
  have HS : Hid (Rst Z w y L R la0 ln0 lc0 xa0 xn0 xc0) := h
  have HK : Hid (Kn L (R.map Prod.fst)) := hK
  have HRL : Hid (R.length = xn0) := h.its.size
  have HLK : Hid (0 ≤ lk ∧ lk ≤ 4294967295) := hlk
  have HMT : Hid (mayT pub f t) := hm
  have HZZ : Hid (∀ k, w.heap.size ≤ k → Z k) := h.zz
  obtain ⟨POST, HPO⟩ : ∃ P : Ending → World → Prop, Hid (P = fun e w' => TellTold Z L (R.map Prod.fst) lk pub f t w e w') := ⟨_, rfl⟩
  have hpost : (fun e w' => TellTold Z L (R.map Prod.fst) lk pub f t w e w') = fun e w' => POST e w' := HPO.out.symm
  rw [hpost]
  obtain ⟨⟨m1, m2⟩, m3, m4, m5⟩ := hm
  have g1 : ¬ pub < 0 := by omega
  have g2 : ¬ (2 : Int) < pub := by omega
  have g3 : ¬ f < 1 := by omega
  have g4 : ¬ t < f := by omega
  have g5 : ¬ (1099511627776 : Int) < t := by omega
  clear hpost h hK hlk
  go_enter Tryz.func53, Tryz.ntmps53
  go_wp2_with fail
  refine (ref_Seen HS.out HK.out hX HLK.out).mono ?_
  rintro e w1 ⟨z, L1, lb, lbn, lbc, xb, xbn, xbc, rfl, hsn, hst, hz, hb1⟩
  have HSN : Hid (Seen L (R.map Prod.fst) lk L1) := hsn
  have HZ1 : Hid (Rst Z w1 z L1 (seenR lk R) lb lbn lbc xb xbn xbc) := hst
  have HB1 : Hid (Below w.heap.size w w1) := hb1
  have HKZ : Hid (Kn L1 (seenX lk (R.map Prod.fst))) := hsn.kn HK.out
  have hxb : xbn ≤ 1000000 := by
    rw [← hst.its.size]
    have h1 : (seenR lk R).length ≤ R.length := List.length_filter_le _ _
    have := HRL.out
    omega
  have c0 : w1.cell? ⟨z, 0, none⟩ = some (.slice lb lbn lbc) := hst.blk.cell 0 rfl
  have HKP : Hid (Calls Tryz.prog 15 #[.slice lb lbn lbc, .int .i64 f, .int .i64 t] w1 fun e w' => (∃ v, e = .returned (.tuple #[v, .int .i64 0]) ∧ Sps w' w1.heap.size v (keepS L1 f t)) ∧ Below w1.heap.size w1 w') := by
    refine (ref_Keep lb lbn lbc L1 f t w1 hst.ok.rd (by rw [← hst.ok.rd.size]; exact right_short hst.ok.right)).mono ?_
    rintro e w' ⟨hr, hb⟩
    refine ⟨?_, hb⟩
    rcases hr.out with ⟨h1, _⟩ | ⟨_, h3⟩
    · rw [(rightB_iff _ _).2 hst.ok.right, (mayB_iff f t).2 ⟨m3, m4, m5⟩] at h1; cases h1
    · exact h3
  clear hsn hst hz hb1 g1 g2 g3 g4 g5
  go_wp2_with fail
  refine HKP.out.mono ?_
  rintro e w2 ⟨⟨v2, rfl, hs2⟩, hb2⟩
  obtain ⟨l0, HL0⟩ : ∃ l0, Hid (keepS L1 f t = l0) := ⟨_, rfl⟩
  rw [HL0.out] at hs2
  obtain ⟨ka, kc, rfl, hkl⟩ := hs2.form
  obtain ⟨kn, HKN⟩ : ∃ kn, Hid (l0.length = kn) := ⟨_, rfl⟩
  rw [HKN.out] at hs2 hkl ⊢
  have HLR : Hid (Lr w2 ka kn kc l0) := ⟨hs2.rd, hs2.big.1, hs2.big.2⟩
  have HB2 : Hid (Below w1.heap.size w1 w2) := hb2
  have HZ2 : Hid (Rst Z w2 z L1 (seenR lk R) lb lbn lbc xb xbn xbc) := HZ1.out.stay hb2
  have HRN : Hid ((seenR lk R).length = xbn) := HZ2.out.its.size
  have HBE : Hid (Below w2.heap.size w2 (w2.alloc (.cells #[] 54))) := below_new _ _
  clear hs2 hb2 c0 HKP hkl
  go_wp2
  go_loopw [15, 16] (fun t15 t16 wr => ∃ i : Nat, t16 = .int .i64 (i : Int) ∧ i ≤ xbn ∧ Hid (Ros Z wr w2.heap.size t15 (inR f t ((seenR lk R).take i))) ∧ Hid (Below w2.heap.size w2 wr) ∧ Hid (t15 ≠ .slice none 0 0)) (fun _ t16 _ => xbn - (intOf t16).toNat)
  case atStart => exact ⟨0, rfl, Nat.zero_le _, Ros.empty w2, HBE, fun h => (by cases h)⟩
  case round =>
    obtain ⟨i, rfl, hi, HO, HB, HNN⟩ := hrel
    obtain ⟨w3, rfl⟩ : ∃ w3, w3 = wr := ⟨wr, rfl⟩
    have HSR : Hid (Rst Z w3 z L1 (seenR lk R) lb lbn lbc xb xbn xbc) := HZ2.out.stay HB.out
    have c1 : w3.cell? ⟨z, 1, none⟩ = some (.slice xb xbn xbc) := HSR.out.blk.cell 1 rfl
    obtain ⟨av, cv, hv, hvl, hvm, _⟩ := HO.out.form
    obtain ⟨nv, HNV⟩ : ∃ nv, Hid ((inR f t ((seenR lk R).take i)).length = nv) := ⟨_, rfl⟩
    rw [HNV.out] at hv hvl
    subst hv
    by_cases hlt : i < xbn
    · have hlt' : (i : Int) < (xbn : Int) := by omega
      have gi : (0 : Int) ≤ (i : Int) := by omega
      obtain ⟨g, o, rfl, hg, x, hx, d0, d1, d2⟩ := HSR.out.its.at_ i hlt
      have HTK : Hid ((seenR lk R).take (i + 1) = (seenR lk R).take i ++ [x]) := by (show _ = _); rw [List.take_add_one, hx]; rfl
      have HQ : Hid (inR f t ((seenR lk R).take (i + 1)) = inR f t ((seenR lk R).take i) ++ (if f ≤ x.1.tick ∧ x.1.tick ≤ t then [x] else [])) := by (show _ = _); rw [HTK.out, inR_snoc]
      have HBD : Hid (BdT Z w3 x.2 x.1.body ∧ ItIn x.1) := ⟨HSR.out.its.bod x (List.mem_of_getElem? hx), HSR.out.its.each x (List.mem_of_getElem? hx)⟩
      have HNL : Hid ((inR f t ((seenR lk R).take i)).length ≤ 1000000000000) := by
        (show _ ≤ _)
        have h1 : (inR f t ((seenR lk R).take i)).length ≤ ((seenR lk R).take i).length := List.length_filter_le _ _
        rw [List.length_take] at h1
        omega
      clear hx
      obtain ⟨⟨qt, qf, qb⟩, ba, bl, bc⟩ := x
      simp only at d0 d1 d2 HQ
      by_cases hin : f ≤ qt ∧ qt ≤ t
      · obtain ⟨i1, i2⟩ := hin
        rw [if_pos ⟨i1, i2⟩] at HQ
        have HBB : Hid (Below w3.heap.size w3 (w3.alloc (.cells #[.int .i64 qt, .int .u32 qf, .slice ba bl bc] 54))) := below_new _ _
        have HNW : Hid (Bk (w3.alloc (.cells #[.int .i64 qt, .int .u32 qf, .slice ba bl bc] 54)) w3.heap.size #[.int .i64 qt, .int .u32 qf, .slice ba bl bc] 54) := Bk.new _ _ _
        have HSZ : Hid (w2.heap.size ≤ (w3.alloc (.cells #[.int .i64 qt, .int .u32 qf, .slice ba bl bc] 54)).heap.size) := Nat.le_trans HB.out.size HBB.out.size
        go_wp2_with (at_builtin; refine wpList_append_ro (Z := Z) rfl (.tmp 88) (.tmp 96) rfl w2.heap.size _ (inR f t ((seenR lk R).take i)) rfl (HO.out.below HBB.out) ⟨w3.heap.size, 0, none⟩ 1 (⟨qt, qf, qb⟩, ba, bl, bc) rfl (item_told HNW.out) (HBD.out.1.frame HBB.out.size fun k hk _ _ => HBB.out.block k hk) HBD.out.2 HNL.out HSZ.out ?_)
        intro v5 w5 hs5 hg5 hb5 hn5
        have HN5 : Hid (v5 ≠ .slice none 0 0) := hn5 (fun h1 h2 h3 => HNN.out (by rw [h1, h2, h3]))
        have HS5 : Hid (Ros Z w5 w2.heap.size v5 (inR f t ((seenR lk R).take (i + 1)))) := by (show Ros _ _ _ _ _); rw [HQ.out]; exact hs5
        have HB5 : Hid (Below w2.heap.size w2 w5) := HB.out.trans ((HBB.out.mono HB.out.size).trans hb5)
        clear hs5 hg5 hb5 hn5 d0 d1 d2 c1
        go_wp2
        go_roundw
        case rel => exact ⟨i + 1, by go_num, by omega, HS5, HB5, HN5⟩
        case measure => simp [intOf]; omega
      · rw [if_neg hin, List.append_nil] at HQ
        have HS5 : Hid (Ros Z w3 w2.heap.size (.slice av nv cv) (inR f t ((seenR lk R).take (i + 1)))) := by (show Ros _ _ _ _ _); rw [HQ.out]; exact HO.out
        by_cases h1 : f ≤ qt
        · have h2 : ¬ qt ≤ t := fun h => hin ⟨h1, h⟩
          clear hin
          go_wp2
          go_roundw
          case rel => exact ⟨i + 1, by go_num, by omega, HS5, HB, HNN⟩
          case measure => simp [intOf]; omega
        · clear hin
          go_wp2
          go_roundw
          case rel => exact ⟨i + 1, by go_num, by omega, HS5, HB, HNN⟩
          case measure => simp [intOf]; omega
    · have hnl : ¬ (i : Int) < (xbn : Int) := by omega
      obtain rfl : i = xbn := by omega
      obtain ⟨R0, HR0⟩ : ∃ R0, Hid (inR f t (seenR lk R) = R0) := ⟨_, rfl⟩
      have HXR : Hid (Xr Z w3 av nv cv R0) := by
        have h1 := HO.out
        rw [← HRN.out, List.take_length, HR0.out] at h1
        have h2 := HNV.out
        exact ⟨h1.rit (fun k hk => HZ1.out.zz k (Nat.le_trans HB2.out.size hk)), hvl, hvm⟩
      have HLR3 : Hid (Lr w3 ka kn kc l0) := HLR.out.below HB.out
      have HB3 : Hid (Below w.heap.size w w3) := HB1.out.trans ((HB2.out.trans (HB.out.mono HB2.out.size)).mono HB1.out.size)
      have HXN : Hid (R0.length = nv) := HXR.out.rd.size
      obtain ⟨PP, HPP⟩ : ∃ PP, Hid (mrg (l0.length + R0.length) l0 (R0.map Prod.fst) = PP) := ⟨_, rfl⟩
      have HPI : Hid (PiecesOf L (R.map Prod.fst) lk f t PP) := by
        (show PiecesOf _ _ _ _ _ _)
        have h1 : R0.map Prod.fst = inX f t (seenX lk (R.map Prod.fst)) := by rw [← HR0.out, inR_map, seenR_map]
        have h2 := pieces_ref HSN.out HK.out (f := f) (t := t) (n := l0.length + R0.length) (by rw [HL0.out, ← h1, List.length_map]; exact Nat.le_refl _)
        rw [HL0.out, ← h1, HPP.out] at h2
        exact h2
      obtain ⟨TOT, HTOT⟩ : ∃ T, Hid (cutP pub t PP ⟨1, pub, 0, 0, f, t, [], []⟩ = T) := ⟨_, rfl⟩
      have HLF : Hid (Left l0 R0) := by
        refine ⟨fun s hs => ?_, fun x hx => ?_⟩
        · have hr : RightS Sp.zr l0 := by rw [← HL0.out]; exact keep_right L1 Sp.zr Sp.zr f t HSN.out.right (Int.le_refl _) (fun _ => rfl)
          have h1 := right_each hr hs
          have h2 := atS_mem hr hs (Int.le_refl _) h1.2.1
          rw [← HL0.out, keep_at] at h2
          have h3 := HKZ.out.quiet s.fr
          have h4 : Sp.zr.to = 0 := rfl
          refine ⟨by omega, ?_⟩
          split at h2
          · omega
          · omega
        · rw [← HR0.out] at hx
          have h1 := (List.mem_filter.1 hx).1
          exact (HKZ.out.each x.1 (by rw [← seenR_map]; exact List.mem_map.2 ⟨x, h1, rfl⟩)).1
      have HNB : Hid (l0.length + R0.length ≤ 1099511627776) := by
        (show _ ≤ _)
        have h1 := RightP_len _ _ HPI.out.right (by decide)
        have h4 : Sp.zr.to = 0 := rfl
        have h5 : PP.length = l0.length + R0.length := by rw [← HPP.out, mrg_len _ _ _ (by rw [List.length_map]; exact Nat.le_refl _), List.length_map]
        omega
      obtain ⟨W4, HW4⟩ : ∃ W4, Hid (W4 = (w3.alloc (.cells #[] 33)).alloc (.cells #[.int .i64 1, .int .i64 pub, .int .i64 0, .int .i64 0, .int .i64 f, .int .i64 t, .slice none 0 0, .slice none 0 0] 33)) := ⟨_, rfl⟩
      have hs4 : (w3.alloc (.cells #[] 33)).heap.size = w3.heap.size + 1 := by simp
      have HB4 : Hid (Below w3.heap.size w3 W4) := by (show Below _ _ _); rw [HW4.out]; exact (below_new w3 _).alloc (by omega) _
      obtain ⟨tb, HTB⟩ : ∃ tb, Hid (tb = w3.heap.size + 1) := ⟨_, rfl⟩
      have HRC0 : Hid (RefCut Z pub t w3.heap.size tb w3 W4 (.slice (some ⟨w3.heap.size, 0, none⟩) 0 0) [] (⟨⟨1, pub, 0, 0, f, t, [], []⟩, none, 0, 0, none, 0, 0⟩ : Pa) W4.heap.size l0 R0 PP TOT 1099511627776) := by
        refine ⟨⟨?_, ?_, fun x hx => (by cases hx), ⟨Sps.nil_ _ _, [], Ros.nil_ _ _, rfl⟩, ?_, Nat.le_refl _, HB4.out.size, Nat.le_refl _, HB4.out, ?_⟩, ?_, ?_, .inr ⟨HPP.out, rfl⟩, HLF.out⟩
        · rw [HW4.out, HTB.out, ← hs4]; exact Bk.new _ _ _
        · have h1 : (w3.alloc (.cells #[] 33)).ownsRow w3.heap.size 33 8 (.slice (some ⟨w3.heap.size, 0, none⟩) 0 0) 0 [] := World.ownsRow_lit (base := w3.heap.size) (e := 33) (size := 8) w3 #[] 0 (Nat.le_refl _) (Nat.zero_le _) rfl
          rw [HW4.out]
          exact row_frame h1 fun g _ _ _ hc => (below_new _ _).block g (Array.getElem?_eq_some_iff.1 hc).1
        · rw [HTB.out]; intro e; simp only [Value.ownBlock, Option.some.injEq] at e; omega
        · rw [HTB.out]; omega
        · rw [HPP.out]; exact HTOT.out
        · have := HNB.out; show 0 + _ ≤ _; omega
      clear hs4 hvl hvm HO
      go_wp2
      rw [← HW4.out, ← HTB.out]
      go_loopw [13, 15, 17, 19, 20, 21] (fun t13 t15 t17 _t19 _t20 _t21 wr => ∃ (la : Option Addr) (ln lc : Nat) (l1 : List Sp) (xa : Option Addr) (xn xc : Nat) (R1 : List (It × Bd)) (va : Option Addr) (vn vc : Nat) (lo : List Pa) (fr : Int) (sps : List Sp) (its : List It) (sa : Option Addr) (sn sc : Nat) (ia : Option Addr) (im ic : Nat) (B : Nat), t13 = .slice la ln lc ∧ t15 = .slice xa xn xc ∧ t17 = .slice va vn vc ∧ sn ≤ 32 ∧ im ≤ 8 ∧ Hid (Lr w3 la ln lc l1) ∧ Hid (Xr Z w3 xa xn xc R1) ∧ Hid (RefCut Z pub t w3.heap.size tb w3 wr (.slice va vn vc) lo (⟨⟨1, pub, 0, 0, fr, t, sps, its⟩, sa, sn, sc, ia, im, ic⟩ : Pa) B l1 R1 PP TOT 1099511627776)) (fun t13 t15 _ _ _ _ _ => lenOf t13 + lenOf t15)
      case atStart => exact ⟨ka, kn, kc, l0, av, nv, cv, R0, _, 0, 0, [], f, [], [], none, 0, 0, none, 0, 0, W4.heap.size, rfl, rfl, rfl, by omega, by omega, HLR3, HXR, HRC0⟩
      case round =>
        clear c1
        obtain ⟨la, ln, lc, l1, xa, xn, xc, R1, va, vn, vc, lo, fr, sps, its, sa, sn, sc, ia, im, ic, B, rfl, rfl, rfl, hsn, him, HL, HX, HC⟩ := hrel
        obtain ⟨w5, rfl⟩ : ∃ w5, w5 = wr := ⟨wr, rfl⟩
        have HM5 : Hid (Making Z w3.heap.size tb w3 w5 (.slice va vn vc) lo (⟨⟨1, pub, 0, 0, fr, t, sps, its⟩, sa, sn, sc, ia, im, ic⟩ : Pa) B) := HC.out.mk_
        have HL5 : Hid (Lr w5 la ln lc l1) := HL.out.below HM5.out.bel
        have HX5 : Hid (Xr Z w5 xa xn xc R1) := HX.out.below HM5.out.bel
        have HLF2 : Hid (Left l1 R1) := HC.out.left
        have HSL : Hid (l1.length = ln) := HL.out.rd.size
        have HSX : Hid (R1.length = xn) := HX.out.rd.size
        by_cases hE : ln = 0 ∧ xn = 0
        · obtain ⟨hE1, hE2⟩ := hE
          have HT0 : Hid (lo.map Pa.p ++ [⟨1, pub, 0, 0, fr, t, sps, its⟩] = TOT ∧ ((0 < sn ∨ 0 < im) ∨ (PP = [] ∧ lo = []))) := by
            have h1 := HC.out.tot
            have h2 := HC.out.some_
            have e1 : l1 = [] := List.eq_nil_of_length_eq_zero (by rw [HSL.out, hE1])
            have e2 : R1 = [] := List.eq_nil_of_length_eq_zero (by rw [HSX.out, hE2])
            rw [e1, e2] at h1 h2
            refine ⟨h1, ?_⟩
            rcases h2 with h2 | ⟨h2, h3⟩
            · exact .inl h2
            · exact .inr ⟨h2.symm, h3⟩
          have HLM := HM5.out.cur.lens
          simp only at HLM
          have HLM : Hid (sps.length = sn ∧ its.length = im) := HLM
          have HLL : Hid (lo.length ≤ 1099511627776) := by (show _ ≤ _); have h1 := HC.out.few; omega
          subst hE1 hE2
          have t0 : w5.cell? ⟨tb, 0, none⟩ = some (.int .i64 1) := HM5.out.tbk.cell 0 rfl
          have t1 : w5.cell? ⟨tb, 1, none⟩ = some (.int .i64 pub) := HM5.out.tbk.cell 1 rfl
          have t2 : w5.cell? ⟨tb, 2, none⟩ = some (.int .i64 0) := HM5.out.tbk.cell 2 rfl
          have t3 : w5.cell? ⟨tb, 3, none⟩ = some (.int .i64 0) := HM5.out.tbk.cell 3 rfl
          have t4 : w5.cell? ⟨tb, 4, none⟩ = some (.int .i64 fr) := HM5.out.tbk.cell 4 rfl
          have t5 : w5.cell? ⟨tb, 5, none⟩ = some (.int .i64 t) := HM5.out.tbk.cell 5 rfl
          have t6 : w5.cell? ⟨tb, 6, none⟩ = some (.slice sa sn sc) := HM5.out.tbk.cell 6 rfl
          have t7 : w5.cell? ⟨tb, 7, none⟩ = some (.slice ia im ic) := HM5.out.tbk.cell 7 rfl
          by_cases hne : 0 < sn ∨ 0 < im
          · go_upto_region 33 with fail
            go_cut [189] from 180 to 188 (fun v189 wx => v189 = .bool true ∧ wx = w5)
            case first =>
              by_cases h1 : 0 < sn
              · have h1' : (0 : Int) < (sn : Int) := by omega
                go_wp2
                go_meet
                exact ⟨rfl, rfl⟩
              · have h1' : ¬ (0 : Int) < (sn : Int) := by omega
                have h2' : (0 : Int) < (im : Int) := by omega
                go_wp2
                go_meet
                exact ⟨by first | rfl | rw [decide_eq_true (by omega)], rfl⟩
            case rest =>
            obtain ⟨hv, hw⟩ := hcut
            have hw' := hw.symm
            subst hv hw'
            have HB8 : Hid (Below w5.heap.size w5 (w5.alloc (.cells #[.int .i64 1, .int .i64 pub, .int .i64 0, .int .i64 0, .int .i64 fr, .int .i64 t, .slice sa sn sc, .slice ia im ic] 33))) := below_new _ _
            have HM8 : Hid (Making Z w3.heap.size tb w3 (w5.alloc (.cells #[.int .i64 1, .int .i64 pub, .int .i64 0, .int .i64 0, .int .i64 fr, .int .i64 t, .slice sa sn sc, .slice ia im ic] 33)) (.slice va vn vc) lo (⟨⟨1, pub, 0, 0, fr, t, sps, its⟩, sa, sn, sc, ia, im, ic⟩ : Pa) B) := HM5.out.below HB8.out
            have HTD : Hid (∀ j u, (pacel (⟨⟨1, pub, 0, 0, fr, t, sps, its⟩, sa, sn, sc, ia, im, ic⟩ : Pa))[j]? = some u → (w5.alloc (.cells #[.int .i64 1, .int .i64 pub, .int .i64 0, .int .i64 0, .int .i64 fr, .int .i64 t, .slice sa sn sc, .slice ia im ic] 33)).cell? ((⟨w5.heap.size, 0, none⟩ : Addr).add j) = some u) := tell_told (q := (⟨⟨1, pub, 0, 0, fr, t, sps, its⟩, sa, sn, sc, ia, im, ic⟩ : Pa)) (Bk.new _ _ _)
            go_wp2_with (at_builtin; refine wpList_append_tell rfl (.tmp 190) (.tmp 192) rfl w3.heap.size _ lo rfl HM8.out.row ⟨w5.heap.size, 0, none⟩ 1 (⟨⟨1, pub, 0, 0, fr, t, sps, its⟩, sa, sn, sc, ia, im, ic⟩ : Pa) rfl HTD.out HLL.out (Nat.le_trans HM8.out.h0 HM8.out.hB) ?_)
            intro v8 w8 hr8 hg8 hb8 _
            obtain ⟨q1, q2, q3, q4⟩ := HM8.out.done hg8 hb8
            have HEA : Hid (∀ x ∈ lo ++ [(⟨⟨1, pub, 0, 0, fr, t, sps, its⟩, sa, sn, sc, ia, im, ic⟩ : Pa)], PcR Z w8 w3.heap.size x ∧ PcLt w8.heap.size x) := q2
            have HRW : Hid (PRow w8 w3.heap.size v8 (lo ++ [(⟨⟨1, pub, 0, 0, fr, t, sps, its⟩, sa, sn, sc, ia, im, ic⟩ : Pa)])) := hr8
            have HBE8 : Hid (Below w3.heap.size w3 w8) := q3
            obtain ⟨v8a, v8n, v8c, hv8⟩ : ∃ a n c, v8 = .slice a n c := by
              rcases hr8.row.2 with ⟨hv, _⟩ | ⟨g8, c8, cur, hv, _⟩
              · exact ⟨_, _, _, hv⟩
              · exact ⟨_, _, _, hv⟩
            subst hv8
            clear q1 q2 q3 q4 hr8 hg8 hb8 t0 t1 t2 t3 t4 t5 t6 t7
            go_wp2
            rw [HPO.out]
            refine ⟨⟨v8a, v8n, v8c, lo ++ [(⟨⟨1, pub, 0, 0, fr, t, sps, its⟩, sa, sn, sc, ia, im, ic⟩ : Pa)], PP, rfl, Tells.lower (base := w3.heap.size) ⟨HRW.out.row, fun x hx => (HEA.out x hx).1⟩ HB3.out.size, HPI.out, ?_⟩, HB3.out.trans (HBE8.out.mono HB3.out.size)⟩
            have h1 := HT0.out.1
            rw [← HTOT.out] at h1
            cases hPP : PP with
            | nil =>
              exfalso
              rw [hPP] at h1
              have h2 : lo.map Pa.p ++ [(⟨1, pub, 0, 0, fr, t, sps, its⟩ : Pc)] = [⟨1, pub, 0, 0, f, t, [], []⟩] := h1
              have h3 : lo.map Pa.p = [] := by
                have := congrArg List.length h2
                rw [List.length_append] at this
                exact List.eq_nil_of_length_eq_zero (by simpa using this)
              rw [h3] at h2
              have hp : (⟨1, pub, 0, 0, fr, t, sps, its⟩ : Pc) = ⟨1, pub, 0, 0, f, t, [], []⟩ := (List.cons.inj h2).1
              have e1 : sps = [] := congrArg Pc.spans hp
              have e2 : its = [] := congrArg Pc.items hp
              have h4 := HLM.out
              rw [e1, e2] at h4
              have h5 : 0 = sn := h4.1
              have h6 : 0 = im := h4.2
              omega
            | cons x r =>
              rw [hPP] at h1
              rw [List.map_append]
              exact h1
          · have h1' : ¬ (0 : Int) < (sn : Int) := by omega
            have h2' : ¬ (0 : Int) < (im : Int) := by omega
            have HEM : Hid (PP = [] ∧ lo = []) := by
              rcases HT0.out.2 with h | h
              · exact absurd h hne
              · exact h
            clear hne
            go_wp2
            rw [HPO.out]
            refine ⟨⟨va, vn, vc, lo, PP, rfl, Tells.lower (base := w3.heap.size) ⟨HM5.out.row, fun x hx => (HM5.out.each x hx).1⟩ HB3.out.size, HPI.out, ?_⟩, HB3.out.trans (HM5.out.bel.mono HB3.out.size)⟩
            rw [HEM.out.1, HEM.out.2]
            rfl
        · obtain ⟨bb, HFI⟩ : ∃ bb : Bool, Hid ((bb = true → ∃ s l2, l1 = s :: l2 ∧ ∀ q y, R1.map Prod.fst = q :: y → s.fr < q.tick) ∧ (bb = false → ∃ x R2, R1 = x :: R2 ∧ ∀ s r, l1 = s :: r → ¬ s.fr < x.1.tick)) := by
            cases hl1 : l1 with
            | nil =>
              cases hr1 : R1 with
              | nil => exact absurd ⟨by rw [← HSL.out, hl1]; rfl, by rw [← HSX.out, hr1]; rfl⟩ hE
              | cons x R2 => exact ⟨false, fun h => (by cases h), fun _ => ⟨x, R2, rfl, fun s r h => (by cases h)⟩⟩
            | cons s l2 =>
              cases hr1 : R1 with
              | nil => exact ⟨true, fun _ => ⟨s, l2, rfl, fun q y h => (by cases h)⟩, fun h => (by cases h)⟩
              | cons x R2 =>
                by_cases hlt : s.fr < x.1.tick
                · exact ⟨true, fun _ => ⟨s, l2, rfl, fun q y h => by cases h; exact hlt⟩, fun h => (by cases h)⟩
                · exact ⟨false, fun h => (by cases h), fun _ => ⟨x, R2, rfl, fun s' r h => by cases h; exact hlt⟩⟩
          go_upto_region 15 with fail
          go_cut [110] from 103 to 109 (fun v110 wx => v110 = .bool true ∧ wx = w5)
          case first =>
            by_cases h1 : 0 < ln
            · have h1' : (0 : Int) < (ln : Int) := by omega
              go_wp2
              go_meet
              exact ⟨rfl, rfl⟩
            · have h1' : ¬ (0 : Int) < (ln : Int) := by omega
              have h2' : (0 : Int) < (xn : Int) := by omega
              go_wp2
              go_meet
              exact ⟨by rw [decide_eq_true (by omega)], rfl⟩
          case rest =>
          obtain ⟨hv, hw⟩ := hcut
          have hw' := hw.symm
          subst hv hw'
          go_upto_region 16 with fail
          go_cut [19] from 111 to 129 (fun v19 wx => v19 = .bool bb ∧ Hid (Below w5.heap.size w5 wx))
          case first =>
            rename_i hJ hM
            have MEET : ∀ nq, Hid (Below w5.heap.size w5 (w5.drewN nq)) := fun nq => below_drews (Below.refl _ _) nq
            by_cases hx0 : xn = 0
            · have k1 : ((xn : Int) == 0) = true := by rw [beq_iff_eq]; omega
              have hbb : bb = true := by
                cases bb with
                | true => rfl
                | false =>
                  obtain ⟨x, R2, hr1, _⟩ := HFI.out.2 rfl
                  have := HSX.out
                  rw [hr1, hx0] at this
                  cases this
              subst hbb
              clear hx0
              go_quiet (fail)
              refine hM _ _ ?_
              go_meet
              exact ⟨rfl, MEET _⟩
            · have k1 : ((xn : Int) == 0) = false := by rw [beq_eq_false_iff_ne]; omega
              obtain ⟨gx, ox, rfl, hgx, x, hx, dx0, _, _⟩ := HX5.out.rd.at_ 0 (by omega)
              simp only [Nat.zero_mul, Nat.add_zero] at dx0
              obtain ⟨⟨ck, co, cb⟩, bdx⟩ := x
              simp only at dx0
              have hxp : (0 : Int) < (xn : Int) := by omega
              have hxpN : 0 < xn := by omega
              have k1N : (xn == 0) = false := by rw [beq_eq_false_iff_ne]; omega
              by_cases hl0 : 0 < ln
              · have kd : decide ((0 : Int) < (ln : Int)) = true := decide_eq_true (by omega)
                have kdN : decide (0 < ln) = true := decide_eq_true hl0
                have hlp : (0 : Int) < (ln : Int) := by omega
                have hlpN : 0 < ln := hl0
                obtain ⟨gl, ol, rfl, hgl, s, hs, dl0, _, _⟩ := HL5.out.rd.at_ 0 hl0
                simp only [Nat.zero_mul, Nat.add_zero] at dl0
                obtain ⟨cf, ct, ci⟩ := s
                simp only at dl0
                have hbb : bb = decide (cf < ck) := by
                  cases bb with
                  | true =>
                    obtain ⟨s', l2, h1, h2⟩ := HFI.out.1 rfl
                    rw [h1] at hs
                    simp only [List.getElem?_cons_zero, Option.some.injEq] at hs
                    cases hr1 : R1 with
                    | nil => rw [hr1] at hx; cases hx
                    | cons x' R2 =>
                      rw [hr1] at hx
                      simp only [List.getElem?_cons_zero, Option.some.injEq] at hx
                      have := h2 x'.1 (R2.map Prod.fst) (by rw [hr1]; rfl)
                      rw [hs, hx] at this
                      exact (decide_eq_true this).symm
                  | false =>
                    obtain ⟨x', R2, h1, h2⟩ := HFI.out.2 rfl
                    rw [h1] at hx
                    simp only [List.getElem?_cons_zero, Option.some.injEq] at hx
                    cases hl1 : l1 with
                    | nil => rw [hl1] at hs; cases hs
                    | cons s' l2 =>
                      rw [hl1] at hs
                      simp only [List.getElem?_cons_zero, Option.some.injEq] at hs
                      have := h2 s' l2 hl1
                      rw [hs, hx] at this
                      exact (decide_eq_false this).symm
                clear hx0 hl0 hs hx
                by_cases hlt : cf < ck
                · have kc : decide (cf < ck) = true := decide_eq_true hlt
                  rw [kc] at hbb
                  subst hbb
                  clear hlt
                  go_quiet (fail)
                  refine hM _ _ ?_
                  go_meet
                  exact ⟨rfl, MEET _⟩
                · have kc : decide (cf < ck) = false := decide_eq_false hlt
                  rw [kc] at hbb
                  subst hbb
                  clear hlt
                  go_quiet (fail)
                  refine hM _ _ ?_
                  go_meet
                  exact ⟨rfl, MEET _⟩
              · have kd : decide ((0 : Int) < (ln : Int)) = false := decide_eq_false (by omega)
                have kdN : decide (0 < ln) = false := decide_eq_false hl0
                have hbb : bb = false := by
                  cases bb with
                  | false => rfl
                  | true =>
                    obtain ⟨s, l2, h1, _⟩ := HFI.out.1 rfl
                    have := HSL.out
                    rw [h1] at this
                    rw [List.length_cons] at this
                    omega
                subst hbb
                clear hx0 hl0 hx
                go_quiet (fail)
                refine hM _ _ ?_
                go_meet
                exact ⟨rfl, MEET _⟩
          case rest =>
          obtain ⟨hv, HB6⟩ := hcut
          obtain ⟨w6, hwp⟩ : ∃ W, W = wc := ⟨_, rfl⟩
          subst hwp
          subst hv
          have HM6 : Hid (Making Z w3.heap.size tb w3 w6 (.slice va vn vc) lo (⟨⟨1, pub, 0, 0, fr, t, sps, its⟩, sa, sn, sc, ia, im, ic⟩ : Pa) B) := HM5.out.below HB6.out
          cases bb with
          | true =>
            obtain ⟨s, l2, hl1, hfst⟩ := HFI.out.1 rfl
            obtain ⟨cf, ct, ci⟩ := s
            have hln : ln = l2.length + 1 := by rw [← HL.out.rd.size, hl1]; rfl
            have HL6 : Hid (Lr w6 la ln lc (⟨cf, ct, ci⟩ :: l2)) := by have := (HL5.out.below HB6.out); rw [hl1] at this; exact this
            obtain ⟨g, o, rfl, hg, q, hq, d0, d1, d2⟩ := HL6.out.rd.at_ 0 (by omega)
            simp only [List.getElem?_cons_zero, Option.some.injEq] at hq
            subst hq
            simp only [Nat.zero_mul, Nat.add_zero] at d0 d1 d2
            have HLE := HC.out.left.sp ⟨cf, ct, ci⟩ (by rw [hl1]; exact List.mem_cons_self ..)
            obtain ⟨⟨x1, x2⟩, x3⟩ := HLE
            simp only at x1 x2 x3
            have HX3 : Hid (ci ≠ 1) := x3
            have HMG : Hid (mrg (l1.length + R1.length) l1 (R1.map Prod.fst) = ((⟨cf, ct, ci⟩ : Sp), zIt) :: mrg (l2.length + R1.length) l2 (R1.map Prod.fst)) := by
              (show _ = _)
              have := mrg_span (l := l2) (s := ⟨cf, ct, ci⟩) (x := R1.map Prod.fst) hfst
              rw [List.length_map] at this
              rw [hl1]
              exact this
            have HL1 : Hid (l1 = ⟨cf, ct, ci⟩ :: l2) := hl1
            have HLN : Hid (ln = l2.length + 1) := hln
            have hlp : (0 : Int) < (ln : Int) := by omega
            have hlpN : 0 < ln := by omega
            have hlm : (ln : Int) ≤ (lc : Int) := by have := HL6.out.lc; omega
            have hl1' : (1 : Int) ≤ (ln : Int) := by omega
            have hcm : lc ≤ 9223372036854775807 := by have := HL6.out.cm; unfold maxLen at this; omega
            clear hl1 hfst hln hg x3
            have HLM := HM6.out.cur.lens
            simp only at HLM
            have HLM : Hid (sps.length = sn ∧ its.length = im) := HLM
            have HCP : Hid (cutP pub t (mrg (l1.length + R1.length) l1 (R1.map Prod.fst)) ⟨1, pub, 0, 0, fr, t, sps, its⟩ = if fullB ⟨1, pub, 0, 0, fr, t, sps, its⟩ ((⟨cf, ct, ci⟩ : Sp), zIt) = true then shutP ⟨1, pub, 0, 0, fr, t, sps, its⟩ ((⟨cf, ct, ci⟩ : Sp), zIt) :: cutP pub t (mrg (l2.length + R1.length) l2 (R1.map Prod.fst)) (addP (restP pub t ((⟨cf, ct, ci⟩ : Sp), zIt)) ((⟨cf, ct, ci⟩ : Sp), zIt)) else cutP pub t (mrg (l2.length + R1.length) l2 (R1.map Prod.fst)) (addP ⟨1, pub, 0, 0, fr, t, sps, its⟩ ((⟨cf, ct, ci⟩ : Sp), zIt))) := by (show _ = _); rw [HMG.out, cutP]
            obtain ⟨fb, HFB⟩ : ∃ fb, Hid (fullB ⟨1, pub, 0, 0, fr, t, sps, its⟩ ((⟨cf, ct, ci⟩ : Sp), zIt) = fb) := ⟨_, rfl⟩
            have HFD : Hid (decide ((sn : Int) = 32) = fb) := by
              (show _ = _)
              rw [← HFB.out]
              unfold fullB
              simp only
              rw [if_neg HX3.out, HLM.out.1]
              exact decide_eq_decide.2 (by omega)
            have t0 : w6.cell? ⟨tb, 0, none⟩ = some (.int .i64 1) := HM6.out.tbk.cell 0 rfl
            have t1 : w6.cell? ⟨tb, 1, none⟩ = some (.int .i64 pub) := HM6.out.tbk.cell 1 rfl
            have t2 : w6.cell? ⟨tb, 2, none⟩ = some (.int .i64 0) := HM6.out.tbk.cell 2 rfl
            have t3 : w6.cell? ⟨tb, 3, none⟩ = some (.int .i64 0) := HM6.out.tbk.cell 3 rfl
            have t4 : w6.cell? ⟨tb, 4, none⟩ = some (.int .i64 fr) := HM6.out.tbk.cell 4 rfl
            have t5 : w6.cell? ⟨tb, 5, none⟩ = some (.int .i64 t) := HM6.out.tbk.cell 5 rfl
            have t6 : w6.cell? ⟨tb, 6, none⟩ = some (.slice sa sn sc) := HM6.out.tbk.cell 6 rfl
            have t7 : w6.cell? ⟨tb, 7, none⟩ = some (.slice ia im ic) := HM6.out.tbk.cell 7 rfl
            go_upto_if 147 with fail
            have hdd : ((sn : Int) == 32) = fb := HFD.out
            rw [hdd]
            clear hdd t0 t1 t2 t3 t4 t5 t6 t7
            go_cut [17] from 148 to 158 (fun v17 wx => ∃ (va : Option Addr) (vn vc : Nat) (lo : List Pa) (fr : Int) (sps : List Sp) (its : List It) (sa : Option Addr) (sn sc : Nat) (ia : Option Addr) (im ic : Nat) (B : Nat), v17 = .slice va vn vc ∧ sn ≤ 32 ∧ im ≤ 8 ∧ sn ≠ 32 ∧ Hid (Making Z w3.heap.size tb w3 wx (.slice va vn vc) lo (⟨⟨1, pub, 0, 0, fr, t, sps, its⟩, sa, sn, sc, ia, im, ic⟩ : Pa) B) ∧ Hid (lo.map Pa.p ++ cutP pub t (mrg (l2.length + R1.length) l2 (R1.map Prod.fst)) (addP ⟨1, pub, 0, 0, fr, t, sps, its⟩ ((⟨cf, ct, ci⟩ : Sp), zIt)) = TOT) ∧ Hid (lo.length + (l2.length + R1.length) ≤ 1099511627776) ∧ Hid (Below w6.heap.size w6 wx ∨ True))
            case first =>
              cases fb with
              | false =>
                have HT : Hid (lo.map Pa.p ++ cutP pub t (mrg (l2.length + R1.length) l2 (R1.map Prod.fst)) (addP ⟨1, pub, 0, 0, fr, t, sps, its⟩ ((⟨cf, ct, ci⟩ : Sp), zIt)) = TOT) := by
                  have h1 := HC.out.tot
                  have h2 : cutP pub t (mrg (l1.length + R1.length) l1 (R1.map Prod.fst)) ⟨1, pub, 0, 0, fr, t, sps, its⟩ = _ := HCP.out
                  rw [HFB.out, if_neg (by decide)] at h2
                  simp only at h1
                  rw [h2] at h1
                  exact h1
                have HFW : Hid (lo.length + (l2.length + R1.length) ≤ 1099511627776) := by (show _ ≤ _); have h1 := HC.out.few; rw [HL1.out, List.length_cons] at h1; omega
                have hnf : sn ≠ 32 := by have h1 := of_decide_eq_false HFD.out; omega
                go_wp2
                go_meet
                exact ⟨va, vn, vc, lo, fr, sps, its, sa, sn, sc, ia, im, ic, B, rfl, hsn, him, hnf, HM6, HT, HFW, .inr trivial⟩
              | true =>
                have HT : Hid (lo.map Pa.p ++ shutP ⟨1, pub, 0, 0, fr, t, sps, its⟩ ((⟨cf, ct, ci⟩ : Sp), zIt) :: cutP pub t (mrg (l2.length + R1.length) l2 (R1.map Prod.fst)) (addP (restP pub t ((⟨cf, ct, ci⟩ : Sp), zIt)) ((⟨cf, ct, ci⟩ : Sp), zIt)) = TOT) := by
                  have h1 := HC.out.tot
                  have h2 : cutP pub t (mrg (l1.length + R1.length) l1 (R1.map Prod.fst)) ⟨1, pub, 0, 0, fr, t, sps, its⟩ = _ := HCP.out
                  rw [HFB.out, if_pos rfl] at h2
                  simp only at h1
                  rw [h2] at h1
                  exact h1
                have HFW : Hid ((lo ++ [(⟨shutP ⟨1, pub, 0, 0, fr, t, sps, its⟩ ((⟨cf, ct, ci⟩ : Sp), zIt), sa, sn, sc, ia, im, ic⟩ : Pa)]).length + (l2.length + R1.length) ≤ 1099511627776) := by (show _ ≤ _); have h1 := HC.out.few; rw [HL1.out, List.length_cons] at h1; rw [List.length_append, List.length_singleton]; omega
                have HLL : Hid (lo.length ≤ 1099511627776) := by (show _ ≤ _); have h1 := HC.out.few; omega
                have t0 : w6.cell? ⟨tb, 0, none⟩ = some (.int .i64 1) := HM6.out.tbk.cell 0 rfl
                have t1 : w6.cell? ⟨tb, 1, none⟩ = some (.int .i64 pub) := HM6.out.tbk.cell 1 rfl
                have t2 : w6.cell? ⟨tb, 2, none⟩ = some (.int .i64 0) := HM6.out.tbk.cell 2 rfl
                have t3 : w6.cell? ⟨tb, 3, none⟩ = some (.int .i64 0) := HM6.out.tbk.cell 3 rfl
                have t4 : w6.cell? ⟨tb, 4, none⟩ = some (.int .i64 fr) := HM6.out.tbk.cell 4 rfl
                have t5 : w6.cell? ⟨tb, 5, none⟩ = some (.int .i64 t) := HM6.out.tbk.cell 5 rfl
                have t6 : w6.cell? ⟨tb, 6, none⟩ = some (.slice sa sn sc) := HM6.out.tbk.cell 6 rfl
                have t7 : w6.cell? ⟨tb, 7, none⟩ = some (.slice ia im ic) := HM6.out.tbk.cell 7 rfl
                have tf5 := HM6.out.tbk.free 5
                obtain ⟨W7, HW7⟩ : ∃ W7, Hid (W7 = w6.setCell ⟨tb, 5, none⟩ (.int .i64 (cf - 1))) := ⟨_, rfl⟩
                have HM7 : Hid (Making Z w3.heap.size tb w3 W7 (.slice va vn vc) lo (⟨shutP ⟨1, pub, 0, 0, fr, t, sps, its⟩ ((⟨cf, ct, ci⟩ : Sp), zIt), sa, sn, sc, ia, im, ic⟩ : Pa) B) := by
                  (show Making _ _ _ _ _ _ _ _ _)
                  rw [HW7.out]
                  exact HM6.out.cell 5 _ rfl ⟨HM6.out.cur.spans, HM6.out.cur.items⟩
                go_upto_region 26 with fail
                rw [← HW7.out]
                clear t0 t1 t2 t3 t4 t5 t6 t7 tf5
                have t0 : W7.cell? ⟨tb, 0, none⟩ = some (.int .i64 1) := HM7.out.tbk.cell 0 rfl
                have t1 : W7.cell? ⟨tb, 1, none⟩ = some (.int .i64 pub) := HM7.out.tbk.cell 1 rfl
                have t2 : W7.cell? ⟨tb, 2, none⟩ = some (.int .i64 0) := HM7.out.tbk.cell 2 rfl
                have t3 : W7.cell? ⟨tb, 3, none⟩ = some (.int .i64 0) := HM7.out.tbk.cell 3 rfl
                have t4 : W7.cell? ⟨tb, 4, none⟩ = some (.int .i64 fr) := HM7.out.tbk.cell 4 rfl
                have t5 : W7.cell? ⟨tb, 5, none⟩ = some (.int .i64 (cf - 1)) := HM7.out.tbk.cell 5 rfl
                have t6 : W7.cell? ⟨tb, 6, none⟩ = some (.slice sa sn sc) := HM7.out.tbk.cell 6 rfl
                have t7 : W7.cell? ⟨tb, 7, none⟩ = some (.slice ia im ic) := HM7.out.tbk.cell 7 rfl
                have HB8 : Hid (Below W7.heap.size W7 (W7.alloc (.cells #[.int .i64 1, .int .i64 pub, .int .i64 0, .int .i64 0, .int .i64 fr, .int .i64 (cf - 1), .slice sa sn sc, .slice ia im ic] 33))) := below_new _ _
                have HM8 : Hid (Making Z w3.heap.size tb w3 (W7.alloc (.cells #[.int .i64 1, .int .i64 pub, .int .i64 0, .int .i64 0, .int .i64 fr, .int .i64 (cf - 1), .slice sa sn sc, .slice ia im ic] 33)) (.slice va vn vc) lo (⟨shutP ⟨1, pub, 0, 0, fr, t, sps, its⟩ ((⟨cf, ct, ci⟩ : Sp), zIt), sa, sn, sc, ia, im, ic⟩ : Pa) B) := HM7.out.below HB8.out
                have HTD : Hid (∀ j u, (pacel (⟨shutP ⟨1, pub, 0, 0, fr, t, sps, its⟩ ((⟨cf, ct, ci⟩ : Sp), zIt), sa, sn, sc, ia, im, ic⟩ : Pa))[j]? = some u → (W7.alloc (.cells #[.int .i64 1, .int .i64 pub, .int .i64 0, .int .i64 0, .int .i64 fr, .int .i64 (cf - 1), .slice sa sn sc, .slice ia im ic] 33)).cell? ((⟨W7.heap.size, 0, none⟩ : Addr).add j) = some u) := tell_told (q := (⟨shutP ⟨1, pub, 0, 0, fr, t, sps, its⟩ ((⟨cf, ct, ci⟩ : Sp), zIt), sa, sn, sc, ia, im, ic⟩ : Pa)) (Bk.new _ _ _)
                go_wp2_with (at_builtin; refine wpList_append_tell rfl (.tmp 151) (.tmp 153) rfl w3.heap.size _ lo rfl HM8.out.row ⟨W7.heap.size, 0, none⟩ 1 (⟨shutP ⟨1, pub, 0, 0, fr, t, sps, its⟩ ((⟨cf, ct, ci⟩ : Sp), zIt), sa, sn, sc, ia, im, ic⟩ : Pa) rfl HTD.out HLL.out (Nat.le_trans HM8.out.h0 HM8.out.hB) ?_)
                intro v8 w8 hr8 hg8 hb8 hsn8
                have HSN8 : Hid (some tb ≠ v8.ownBlock) := fun e => by
                  rcases hsn8 with h1 | ⟨k, h1, h2⟩
                  · exact HM8.out.tn (e.trans h1)
                  · rw [h1] at e
                    have h3 := HM8.out.tbk.lt
                    simp only [Option.some.injEq] at e
                    omega
                obtain ⟨q1, q2, q3, q4⟩ := HM8.out.done hg8 hb8
                have HRW : Hid (PRow w8 w3.heap.size v8 (lo ++ [(⟨shutP ⟨1, pub, 0, 0, fr, t, sps, its⟩ ((⟨cf, ct, ci⟩ : Sp), zIt), sa, sn, sc, ia, im, ic⟩ : Pa)])) := hr8
                have HTK : Hid (Bk w8 tb (pacel (⟨shutP ⟨1, pub, 0, 0, fr, t, sps, its⟩ ((⟨cf, ct, ci⟩ : Sp), zIt), sa, sn, sc, ia, im, ic⟩ : Pa)).toArray 33) := q1
                have HEA : Hid (∀ x ∈ lo ++ [(⟨shutP ⟨1, pub, 0, 0, fr, t, sps, its⟩ ((⟨cf, ct, ci⟩ : Sp), zIt), sa, sn, sc, ia, im, ic⟩ : Pa)], PcR Z w8 w3.heap.size x ∧ PcLt w8.heap.size x) := q2
                have HBE8 : Hid (Below w3.heap.size w3 w8 ∧ w3.heap.size ≤ w8.heap.size) := ⟨q3, q4⟩
                obtain ⟨v8a, v8n, v8c, hv8⟩ : ∃ a n c, v8 = .slice a n c := by
                  rcases hr8.row.2 with ⟨hv, _⟩ | ⟨g8, c8, cur, hv, _⟩
                  · exact ⟨_, _, _, hv⟩
                  · exact ⟨_, _, _, hv⟩
                subst hv8
                clear q1 q2 q3 q4 hr8 hg8 hb8 hsn8 t0 t1 t2 t3 t4 t5 t6 t7
                have t0 : w8.cell? ⟨tb, 0, none⟩ = some (.int .i64 1) := HTK.out.cell 0 rfl
                have t1 : w8.cell? ⟨tb, 1, none⟩ = some (.int .i64 pub) := HTK.out.cell 1 rfl
                have t2 : w8.cell? ⟨tb, 2, none⟩ = some (.int .i64 0) := HTK.out.cell 2 rfl
                have t3 : w8.cell? ⟨tb, 3, none⟩ = some (.int .i64 0) := HTK.out.cell 3 rfl
                have t4 : w8.cell? ⟨tb, 4, none⟩ = some (.int .i64 fr) := HTK.out.cell 4 rfl
                have t5 : w8.cell? ⟨tb, 5, none⟩ = some (.int .i64 (cf - 1)) := HTK.out.cell 5 rfl
                have t6 : w8.cell? ⟨tb, 6, none⟩ = some (.slice sa sn sc) := HTK.out.cell 6 rfl
                have t7 : w8.cell? ⟨tb, 7, none⟩ = some (.slice ia im ic) := HTK.out.cell 7 rfl
                have tf0 := HTK.out.free 0
                have tf1 := HTK.out.free 1
                have tf2 := HTK.out.free 2
                have tf3 := HTK.out.free 3
                have tf4 := HTK.out.free 4
                have tf5 := HTK.out.free 5
                have tf6 := HTK.out.free 6
                have tf7 := HTK.out.free 7
                obtain ⟨w9, HW9⟩ : ∃ W, Hid (W = set8 w8 tb (.int .i64 1) (.int .i64 pub) (.int .i64 0) (.int .i64 0) (.int .i64 cf) (.int .i64 t) (.slice none 0 0) (.slice none 0 0)) := ⟨_, rfl⟩
                have HM9 : Hid (Making Z w3.heap.size tb w3 w9 (.slice v8a v8n v8c) (lo ++ [(⟨shutP ⟨1, pub, 0, 0, fr, t, sps, its⟩ ((⟨cf, ct, ci⟩ : Sp), zIt), sa, sn, sc, ia, im, ic⟩ : Pa)]) (⟨⟨1, pub, 0, 0, cf, t, [], []⟩, none, 0, 0, none, 0, 0⟩ : Pa) w8.heap.size) := by
                  (show Making _ _ _ _ _ _ _ _ _)
                  refine Making.again HTK.out HRW.out.row HEA.out HSN8.out HM6.out.b0 HBE8.out.2 HM6.out.tl ?_ ?_ ?_ ?_ ⟨rfl, rfl, rfl, rfl, rfl, rfl, rfl, rfl⟩
                  · rw [HW9.out]; exact Bk.set8 HTK.out _ _ _ _ _ _ _ _
                  · intro k hk; rw [HW9.out]; exact set8_other _ _ _ _ _ _ _ _ _ _ k hk
                  · rw [HW9.out]; unfold set8; simp only [World.size_setCell]
                  · rw [HW9.out]; exact set8_below HBE8.out.1 tb HM6.out.tl _ _ _ _ _ _ _ _
                have HT9 : Hid ((lo ++ [(⟨shutP ⟨1, pub, 0, 0, fr, t, sps, its⟩ ((⟨cf, ct, ci⟩ : Sp), zIt), sa, sn, sc, ia, im, ic⟩ : Pa)]).map Pa.p ++ cutP pub t (mrg (l2.length + R1.length) l2 (R1.map Prod.fst)) (addP ⟨1, pub, 0, 0, cf, t, [], []⟩ ((⟨cf, ct, ci⟩ : Sp), zIt)) = TOT) := by
                  (show _ = _)
                  rw [← HT.out, List.map_append, List.append_assoc]
                  rfl
                go_wp2
                go_meet
                change ∃ (va : Option Addr) (vn vc : Nat) (lo : List Pa) (fr : Int) (sps : List Sp) (its : List It) (sa : Option Addr) (sn sc : Nat) (ia : Option Addr) (im ic : Nat) (B : Nat), _ = Value.slice va vn vc ∧ _ ∧ _ ∧ _ ∧ Hid (Making Z w3.heap.size tb w3 (set8 w8 tb (.int .i64 1) (.int .i64 pub) (.int .i64 0) (.int .i64 0) (.int .i64 cf) (.int .i64 t) (.slice none 0 0) (.slice none 0 0)) (.slice va vn vc) lo (⟨⟨1, pub, 0, 0, fr, t, sps, its⟩, sa, sn, sc, ia, im, ic⟩ : Pa) B) ∧ _ ∧ _ ∧ _
                rw [← HW9.out]
                exact ⟨v8a, v8n, v8c, _, cf, [], [], none, 0, 0, none, 0, 0, w8.heap.size, rfl, by omega, by omega, by omega, HM9, HT9, HFW, .inr trivial⟩
            case rest =>
            clear HM5 HC HCP HFB HFD HLM hsn him
            obtain ⟨va, vn, vc, lo, fr, sps, its, sa, sn, sc, ia, im, ic, B, hv17, hsn, him, hnf, HM, HT, HFW, _⟩ := hcut
            obtain ⟨w9, hwp⟩ : ∃ W, W = wc := ⟨_, rfl⟩
            subst hwp
            subst hv17
            have HLM := HM.out.cur.lens
            simp only at HLM
            have HLM : Hid (sps.length = sn ∧ its.length = im) := HLM
            have HB9 : Hid (Below w3.heap.size w3 w9) := HM.out.bel
            clear d0 d1 d2
            have HTI : Hid (lo.map Pa.p ++ cutP pub t (mrg (l2.length + R1.length) l2 (R1.map Prod.fst)) ⟨1, pub, 0, 0, fr, t, sps ++ [⟨cf, ct, ci⟩], its⟩ = TOT) := by have := HT.out; unfold addP at this; rw [if_neg HX3.out] at this; exact this
            have HLFN : Hid (Left l2 R1) := ⟨fun s hs => HLF2.out.sp s (by rw [HL1.out]; exact List.mem_cons_of_mem _ hs), HLF2.out.it⟩
            obtain ⟨g2, o2, he2, hg2, q2, hq2, e0, e1, e2⟩ := HL.out.rd.at_ 0 (by have := HLN.out; omega)
            simp only [Option.some.injEq, Addr.mk.injEq, and_true] at he2
            obtain ⟨rfl, rfl⟩ := he2
            rw [HL1.out] at hq2
            simp only [List.getElem?_cons_zero, Option.some.injEq] at hq2
            subst hq2
            simp only [Nat.zero_mul, Nat.add_zero] at e0 e1 e2
            have HL3w : Hid (Lr w3 (some ⟨g, o, none⟩) ln lc (⟨cf, ct, ci⟩ :: l2)) := by have := HL.out; rw [HL1.out] at this; exact this
            have HSW : Hid (∀ W : World, Below w3.heap.size w3 W → W.cell? ⟨g, o, none⟩ = some (.int .i64 cf) ∧ W.cell? ⟨g, o + 1, none⟩ = some (.int .i64 ct) ∧ W.cell? ⟨g, o + 2, none⟩ = some (.int .i64 ci)) := fun W hW => ⟨(hW.cell (p := ⟨g, o, none⟩) hg2).trans e0, (hW.cell (p := ⟨g, o + 1, none⟩) hg2).trans e1, (hW.cell (p := ⟨g, o + 2, none⟩) hg2).trans e2⟩
            clear e0 e1 e2 hg2
            go_upto_region 29 with fail
            refine wp_region_held_drew (S := fun w' => w'.cell? ⟨g, o, none⟩ = some (.int .i64 cf) ∧ w'.cell? ⟨g, o + 1, none⟩ = some (.int .i64 ct) ∧ w'.cell? ⟨g, o + 2, none⟩ = some (.int .i64 ci)) (by kernel_rfl) (HSW.out _ HB9.out.drew) (fun hHeld => ?_)
            obtain ⟨wd, HWD⟩ : ∃ W, Hid (W = w9.drew) := ⟨_, rfl⟩
            rw [← HWD.out] at hHeld ⊢
            have HBd : Hid (Below w9.heap.size w9 wd) := by (show Below _ _ _); rw [HWD.out]; exact (Below.refl _ _).drew
            have HMd : Hid (Making Z w3.heap.size tb w3 wd (.slice va vn vc) lo (⟨⟨1, pub, 0, 0, fr, t, sps, its⟩, sa, sn, sc, ia, im, ic⟩ : Pa) B) := HM.out.below HBd.out
            refine take_putH (i := 0) (v := ?_) (some 160) rfl (by kernel_rfl) (by kernel_rfl) (by kernel_rfl) (by kernel_rfl) (fun _ _ _ h => h) (Or.inl ⟨by rfl, ?_⟩) hHeld ?_
            rotate_left
            · (intro wS hSw; obtain ⟨z0, z1, z2⟩ := hSw; go_simp; try with_reducible rfl)
            try simp only [Act.put, List.setIfInBounds_toArray, List.set_cons_zero, List.set_cons_succ]
            refine take_putH (i := 2) (v := ?_) (some 162) rfl (by kernel_rfl) (by kernel_rfl) (by kernel_rfl) (by kernel_rfl) (fun _ _ _ h => h) (Or.inl ⟨by rfl, ?_⟩) hHeld ?_
            rotate_left
            · (intro wS hSw; obtain ⟨z0, z1, z2⟩ := hSw; go_simp; try with_reducible rfl)
            try simp only [Act.put, List.setIfInBounds_toArray, List.set_cons_zero, List.set_cons_succ]
            refine take_putH (i := 3) (v := ?_) (some 163) rfl (by kernel_rfl) (by kernel_rfl) (by kernel_rfl) (by kernel_rfl) (fun _ _ _ h => h) (Or.inl ⟨by rfl, ?_⟩) hHeld ?_
            rotate_left
            · (intro wS hSw; obtain ⟨z0, z1, z2⟩ := hSw; go_simp; try with_reducible rfl)
            try simp only [Act.put, List.setIfInBounds_toArray, List.set_cons_zero, List.set_cons_succ]
            refine take_putH (i := 4) (v := ?_) (some 164) rfl (by kernel_rfl) (by kernel_rfl) (by kernel_rfl) (by kernel_rfl) (fun _ _ _ h => h) (Or.inl ⟨by rfl, ?_⟩) hHeld ?_
            rotate_left
            · (intro wS hSw; obtain ⟨z0, z1, z2⟩ := hSw; go_simp; try with_reducible rfl)
            try simp only [Act.put, List.setIfInBounds_toArray, List.set_cons_zero, List.set_cons_succ]
            have hH0 : Hid (wd.cell? ⟨g, o, none⟩ = some (.int .i64 cf) ∧ wd.cell? ⟨g, o + 1, none⟩ = some (.int .i64 ct) ∧ wd.cell? ⟨g, o + 2, none⟩ = some (.int .i64 ci)) := hHeld
            clear hHeld
            obtain ⟨W7, HW7⟩ : ∃ W7, Hid (W7 = wd.alloc (.cells #[.int .i64 cf, .int .i64 ct, .int .i64 ci] 62)) := ⟨_, rfl⟩
            have HB7 : Hid (Below wd.heap.size wd W7) := by (show Below _ _ _); rw [HW7.out]; exact below_new _ _
            have HN7 : Hid (Bk W7 wd.heap.size #[.int .i64 cf, .int .i64 ct, .int .i64 ci] 62) := by (show Bk _ _ _ _); rw [HW7.out]; exact Bk.new _ _ _
            have HM7 : Hid (Making Z w3.heap.size tb w3 W7 (.slice va vn vc) lo (⟨⟨1, pub, 0, 0, fr, t, sps, its⟩, sa, sn, sc, ia, im, ic⟩ : Pa) B) := HMd.out.below HB7.out
            have hH7 : Hid (W7.cell? ⟨g, o, none⟩ = some (.int .i64 cf) ∧ W7.cell? ⟨g, o + 1, none⟩ = some (.int .i64 ct) ∧ W7.cell? ⟨g, o + 2, none⟩ = some (.int .i64 ci)) := HSW.out _ HM7.out.bel
            refine wpAnyH_ready (rs := [1, 5]) (by kernel_rfl) (by simp) ?_
            refine AllReadyH.cons rfl (fun K hK => ?_) (AllReadyH.cons rfl (fun K hK => ?_) AllReadyH.nil)
            · have cl : wd.cell? ⟨tb, 6, none⟩ = some (.slice sa sn sc) := HMd.out.tbk.cell 6 rfl
              go_simp
              clear cl
              refine hK.out _ _ hH0.out (fun _ => ?_)
              clear hK K
              try simp only [Act.put, List.getElem_toArray, List.getElem_cons_succ, List.getElem_cons_zero, List.setIfInBounds_toArray, List.set_cons_zero, List.set_cons_succ]
              refine wpAnyH_ready (rs := [5]) (by kernel_rfl) (by simp) ?_
              refine AllReadyH.cons rfl (fun K hK => ?_) AllReadyH.nil
              go_simp
              rw [← HW7.out]
              refine hK.out _ _ hH7.out (fun _ => ?_)
              clear hK K
              try simp only [Act.put, List.getElem_toArray, List.getElem_cons_succ, List.getElem_cons_zero, List.setIfInBounds_toArray, List.set_cons_zero, List.set_cons_succ]
              have HSL8 : Hid (sps.length ≤ 3000000000000) := by (show _ ≤ _); have := HLM.out.1; omega
              refine wpAnyH_ready (rs := [6]) (by kernel_rfl) (by simp) ?_
              refine AllReadyH.cons rfl (fun K hK => ?_) AllReadyH.nil
              refine wp_step_append_sp rfl (.tmp 161) (.tmp 165) rfl B (.slice sa sn sc) sps rfl HM7.out.cur.spans ⟨wd.heap.size, 0, none⟩ 1 ⟨cf, ct, ci⟩ rfl (Sp.told (q := ⟨cf, ct, ci⟩) HN7.out) HSL8.out HM7.out.hB ?_
              intro v8 w8 hs8 hg8
              have hb8 : Below B W7 w8 := (Below.refl _ _).grown hg8 HM7.out.hB (fun k hk => (HM7.out.cur.spans.row.lt k hk).1)
              obtain ⟨a8, c8, hv8, _⟩ := hs8.form
              obtain ⟨n8, hn8e⟩ : ∃ n, n = (sps ++ [(⟨cf, ct, ci⟩ : Sp)]).length := ⟨_, rfl⟩
              rw [← hn8e] at hv8
              subst hv8
              have HN8 : Hid (n8 = sn + 1) := by (show _ = _); rw [hn8e, List.length_append, HLM.out.1]; rfl
              obtain ⟨Rr, hR, hRe⟩ := HM7.out.cur.items
              have HTK : Hid (Bk w8 tb #[.int .i64 1, .int .i64 pub, .int .i64 0, .int .i64 0, .int .i64 fr, .int .i64 t, .slice sa sn sc, .slice ia im ic] 33) := HM7.out.tbk.grown hg8 (fun e => by obtain ⟨c9, m9, k9⟩ := row_type HM7.out.cur.spans.row e.symm; exact absurd (bk_type HM7.out.tbk k9) (by decide))
              have HM8 : Hid (∀ u : Value, u = .slice a8 n8 c8 → Making Z w3.heap.size tb w3 (w8.setCell ⟨tb, 6, none⟩ u) (.slice va vn vc) lo (⟨⟨1, pub, 0, 0, fr, t, (sps ++ [⟨cf, ct, ci⟩]), its⟩, a8, n8, c8, ia, im, ic⟩ : Pa) B) := fun u hu => by rw [hu]; exact HM7.out.put hg8 (row_own HM7.out.cur.spans.row (by decide) (by decide)) hb8 6 _ rfl ⟨hs8, Rr, ⟨row_stays hR.row HM7.out.cur.spans.row (by decide) hg8, fun x hx => (hR.bod x hx).typed hg8.size (fun k cs m hc => hg8.block k (Array.getElem?_eq_some_iff.1 hc).1 (fun e => by obtain ⟨c9, m9, k9⟩ := row_type HM7.out.cur.spans.row e.symm; rw [hc] at k9; simp only [Option.some.injEq, Obj.cells.injEq] at k9; exact absurd k9.2.1 (by decide))), hR.each⟩, hRe⟩
              have hH8 : Hid (w8.cell? ⟨g, o, none⟩ = some (.int .i64 cf) ∧ w8.cell? ⟨g, o + 1, none⟩ = some (.int .i64 ct) ∧ w8.cell? ⟨g, o + 2, none⟩ = some (.int .i64 ci)) := HSW.out _ (HM7.out.bel.trans (hb8.mono (Nat.le_trans HM7.out.b0 HM7.out.h0)))
              clear hs8 hg8 hb8 hn8e hR hRe
              refine hK.out _ _ hH8.out (fun _ => ?_)
              clear hK K
              try simp only [Act.put, List.getElem_toArray, List.getElem_cons_succ, List.getElem_cons_zero, List.setIfInBounds_toArray, List.set_cons_zero, List.set_cons_succ]
              refine take_putH (i := 7) (v := ?_) (some 167) rfl (by kernel_rfl) (by kernel_rfl) (by kernel_rfl) (by kernel_rfl) (fun _ _ _ h => h) (Or.inl ⟨by rfl, ?_⟩) hH8.out ?_
              rotate_left
              · (intro wS hSw; obtain ⟨z0, z1, z2⟩ := hSw; go_simp; try with_reducible rfl)
              try simp only [Act.put, List.setIfInBounds_toArray, List.set_cons_zero, List.set_cons_succ]
              have mm : w8.cell? ⟨tb, 6, none⟩ = some (.slice sa sn sc) := HTK.out.cell 6 rfl
              have mf : w8.frozen? ⟨tb, 6, none⟩ = false := HTK.out.free 6
              obtain ⟨wE, HWE⟩ : ∃ W, Hid (W = w8.setCell ⟨tb, 6, none⟩ (.slice a8 n8 c8)) := ⟨_, rfl⟩
              have HME : Hid (Making Z w3.heap.size tb w3 wE (.slice va vn vc) lo (⟨⟨1, pub, 0, 0, fr, t, (sps ++ [⟨cf, ct, ci⟩]), its⟩, a8, n8, c8, ia, im, ic⟩ : Pa) B) := by (show Making _ _ _ _ _ _ _ _ _); rw [HWE.out]; exact HM8.out _ rfl
              have hH9 : Hid (wE.cell? ⟨g, o, none⟩ = some (.int .i64 cf) ∧ wE.cell? ⟨g, o + 1, none⟩ = some (.int .i64 ct) ∧ wE.cell? ⟨g, o + 2, none⟩ = some (.int .i64 ci)) := HSW.out _ HME.out.bel
              refine wpAnyH_ready (rs := [8]) (by kernel_rfl) (by simp) ?_
              refine AllReadyH.cons rfl (fun K hK => ?_) AllReadyH.nil
              go_simp
              rw [← HWE.out]
              refine hK.out _ _ hH9.out (fun _ => ?_)
              clear hK K
              try simp only [Act.put, List.getElem_toArray, List.getElem_cons_succ, List.getElem_cons_zero, List.setIfInBounds_toArray, List.set_cons_zero, List.set_cons_succ]
              refine wpAnyH_done (by kernel_rfl) ?_ _
              clear mm mf
              have HCE : Hid (RefCut Z pub t w3.heap.size tb w3 wE (.slice va vn vc) lo (⟨⟨1, pub, 0, 0, fr, t, (sps ++ [⟨cf, ct, ci⟩]), its⟩, a8, n8, c8, ia, im, ic⟩ : Pa) B l2 R1 PP TOT 1099511627776) := ⟨HME.out, HTI.out, HFW.out, .inl (.inl (by show 0 < n8; have := HN8.out; omega)), HLFN.out⟩
              by_cases hc1 : lc = 1
              · have hend := (HL3w.out).end_ hc1
                have hn1 : ln = 1 := hend.1
                have HEN := hend.2.2
                clear hend
                subst hc1 hn1
                go_wp2
                go_roundw
                case rel => exact ⟨_, 0, 0, l2, xa, xn, xc, R1, va, vn, vc, lo, fr, sps ++ [⟨cf, ct, ci⟩], its, a8, n8, c8, ia, im, ic, B, rfl, rfl, rfl, by have := HN8.out; omega, by omega, HEN _, HX, HCE⟩
                case measure => simp [lenOf]
              · have htl := (HL3w.out).tail
                have hcz : ¬ (lc : Int) = 1 := by omega
                have HTL := htl
                clear htl
                go_wp2
                go_roundw
                case rel => exact ⟨_, ln - 1, lc - 1, l2, xa, xn, xc, R1, va, vn, vc, lo, fr, sps ++ [⟨cf, ct, ci⟩], its, a8, n8, c8, ia, im, ic, B, rfl, rfl, rfl, by have := HN8.out; omega, by omega, HTL, HX, HCE⟩
                case measure => simp [lenOf]; omega
            · go_simp
              rw [← HW7.out]
              refine hK.out _ _ hH7.out (fun _ => ?_)
              clear hK K
              try simp only [Act.put, List.getElem_toArray, List.getElem_cons_succ, List.getElem_cons_zero, List.setIfInBounds_toArray, List.set_cons_zero, List.set_cons_succ]
              refine wpAnyH_ready (rs := [1]) (by kernel_rfl) (by simp) ?_
              refine AllReadyH.cons rfl (fun K hK => ?_) AllReadyH.nil
              have cl : W7.cell? ⟨tb, 6, none⟩ = some (.slice sa sn sc) := HM7.out.tbk.cell 6 rfl
              go_simp
              clear cl
              refine hK.out _ _ hH7.out (fun _ => ?_)
              clear hK K
              try simp only [Act.put, List.getElem_toArray, List.getElem_cons_succ, List.getElem_cons_zero, List.setIfInBounds_toArray, List.set_cons_zero, List.set_cons_succ]
              have HSL8 : Hid (sps.length ≤ 3000000000000) := by (show _ ≤ _); have := HLM.out.1; omega
              refine wpAnyH_ready (rs := [6]) (by kernel_rfl) (by simp) ?_
              refine AllReadyH.cons rfl (fun K hK => ?_) AllReadyH.nil
              refine wp_step_append_sp rfl (.tmp 161) (.tmp 165) rfl B (.slice sa sn sc) sps rfl HM7.out.cur.spans ⟨wd.heap.size, 0, none⟩ 1 ⟨cf, ct, ci⟩ rfl (Sp.told (q := ⟨cf, ct, ci⟩) HN7.out) HSL8.out HM7.out.hB ?_
              intro v8 w8 hs8 hg8
              have hb8 : Below B W7 w8 := (Below.refl _ _).grown hg8 HM7.out.hB (fun k hk => (HM7.out.cur.spans.row.lt k hk).1)
              obtain ⟨a8, c8, hv8, _⟩ := hs8.form
              obtain ⟨n8, hn8e⟩ : ∃ n, n = (sps ++ [(⟨cf, ct, ci⟩ : Sp)]).length := ⟨_, rfl⟩
              rw [← hn8e] at hv8
              subst hv8
              have HN8 : Hid (n8 = sn + 1) := by (show _ = _); rw [hn8e, List.length_append, HLM.out.1]; rfl
              obtain ⟨Rr, hR, hRe⟩ := HM7.out.cur.items
              have HTK : Hid (Bk w8 tb #[.int .i64 1, .int .i64 pub, .int .i64 0, .int .i64 0, .int .i64 fr, .int .i64 t, .slice sa sn sc, .slice ia im ic] 33) := HM7.out.tbk.grown hg8 (fun e => by obtain ⟨c9, m9, k9⟩ := row_type HM7.out.cur.spans.row e.symm; exact absurd (bk_type HM7.out.tbk k9) (by decide))
              have HM8 : Hid (∀ u : Value, u = .slice a8 n8 c8 → Making Z w3.heap.size tb w3 (w8.setCell ⟨tb, 6, none⟩ u) (.slice va vn vc) lo (⟨⟨1, pub, 0, 0, fr, t, (sps ++ [⟨cf, ct, ci⟩]), its⟩, a8, n8, c8, ia, im, ic⟩ : Pa) B) := fun u hu => by rw [hu]; exact HM7.out.put hg8 (row_own HM7.out.cur.spans.row (by decide) (by decide)) hb8 6 _ rfl ⟨hs8, Rr, ⟨row_stays hR.row HM7.out.cur.spans.row (by decide) hg8, fun x hx => (hR.bod x hx).typed hg8.size (fun k cs m hc => hg8.block k (Array.getElem?_eq_some_iff.1 hc).1 (fun e => by obtain ⟨c9, m9, k9⟩ := row_type HM7.out.cur.spans.row e.symm; rw [hc] at k9; simp only [Option.some.injEq, Obj.cells.injEq] at k9; exact absurd k9.2.1 (by decide))), hR.each⟩, hRe⟩
              have hH8 : Hid (w8.cell? ⟨g, o, none⟩ = some (.int .i64 cf) ∧ w8.cell? ⟨g, o + 1, none⟩ = some (.int .i64 ct) ∧ w8.cell? ⟨g, o + 2, none⟩ = some (.int .i64 ci)) := HSW.out _ (HM7.out.bel.trans (hb8.mono (Nat.le_trans HM7.out.b0 HM7.out.h0)))
              clear hs8 hg8 hb8 hn8e hR hRe
              refine hK.out _ _ hH8.out (fun _ => ?_)
              clear hK K
              try simp only [Act.put, List.getElem_toArray, List.getElem_cons_succ, List.getElem_cons_zero, List.setIfInBounds_toArray, List.set_cons_zero, List.set_cons_succ]
              refine take_putH (i := 7) (v := ?_) (some 167) rfl (by kernel_rfl) (by kernel_rfl) (by kernel_rfl) (by kernel_rfl) (fun _ _ _ h => h) (Or.inl ⟨by rfl, ?_⟩) hH8.out ?_
              rotate_left
              · (intro wS hSw; obtain ⟨z0, z1, z2⟩ := hSw; go_simp; try with_reducible rfl)
              try simp only [Act.put, List.setIfInBounds_toArray, List.set_cons_zero, List.set_cons_succ]
              have mm : w8.cell? ⟨tb, 6, none⟩ = some (.slice sa sn sc) := HTK.out.cell 6 rfl
              have mf : w8.frozen? ⟨tb, 6, none⟩ = false := HTK.out.free 6
              obtain ⟨wE, HWE⟩ : ∃ W, Hid (W = w8.setCell ⟨tb, 6, none⟩ (.slice a8 n8 c8)) := ⟨_, rfl⟩
              have HME : Hid (Making Z w3.heap.size tb w3 wE (.slice va vn vc) lo (⟨⟨1, pub, 0, 0, fr, t, (sps ++ [⟨cf, ct, ci⟩]), its⟩, a8, n8, c8, ia, im, ic⟩ : Pa) B) := by (show Making _ _ _ _ _ _ _ _ _); rw [HWE.out]; exact HM8.out _ rfl
              have hH9 : Hid (wE.cell? ⟨g, o, none⟩ = some (.int .i64 cf) ∧ wE.cell? ⟨g, o + 1, none⟩ = some (.int .i64 ct) ∧ wE.cell? ⟨g, o + 2, none⟩ = some (.int .i64 ci)) := HSW.out _ HME.out.bel
              refine wpAnyH_ready (rs := [8]) (by kernel_rfl) (by simp) ?_
              refine AllReadyH.cons rfl (fun K hK => ?_) AllReadyH.nil
              go_simp
              rw [← HWE.out]
              refine hK.out _ _ hH9.out (fun _ => ?_)
              clear hK K
              try simp only [Act.put, List.getElem_toArray, List.getElem_cons_succ, List.getElem_cons_zero, List.setIfInBounds_toArray, List.set_cons_zero, List.set_cons_succ]
              refine wpAnyH_done (by kernel_rfl) ?_ _
              clear mm mf
              have HCE : Hid (RefCut Z pub t w3.heap.size tb w3 wE (.slice va vn vc) lo (⟨⟨1, pub, 0, 0, fr, t, (sps ++ [⟨cf, ct, ci⟩]), its⟩, a8, n8, c8, ia, im, ic⟩ : Pa) B l2 R1 PP TOT 1099511627776) := ⟨HME.out, HTI.out, HFW.out, .inl (.inl (by show 0 < n8; have := HN8.out; omega)), HLFN.out⟩
              by_cases hc1 : lc = 1
              · have hend := (HL3w.out).end_ hc1
                have hn1 : ln = 1 := hend.1
                have HEN := hend.2.2
                clear hend
                subst hc1 hn1
                go_wp2
                go_roundw
                case rel => exact ⟨_, 0, 0, l2, xa, xn, xc, R1, va, vn, vc, lo, fr, sps ++ [⟨cf, ct, ci⟩], its, a8, n8, c8, ia, im, ic, B, rfl, rfl, rfl, by have := HN8.out; omega, by omega, HEN _, HX, HCE⟩
                case measure => simp [lenOf]
              · have htl := (HL3w.out).tail
                have hcz : ¬ (lc : Int) = 1 := by omega
                have HTL := htl
                clear htl
                go_wp2
                go_roundw
                case rel => exact ⟨_, ln - 1, lc - 1, l2, xa, xn, xc, R1, va, vn, vc, lo, fr, sps ++ [⟨cf, ct, ci⟩], its, a8, n8, c8, ia, im, ic, B, rfl, rfl, rfl, by have := HN8.out; omega, by omega, HTL, HX, HCE⟩
                case measure => simp [lenOf]; omega
          | false =>
            obtain ⟨x, R2, hr1, hfst⟩ := HFI.out.2 rfl
            have hxn : xn = R2.length + 1 := by rw [← HX.out.rd.size, hr1]; rfl
            have HX6 : Hid (Xr Z w6 xa xn xc (x :: R2)) := by have := (HX5.out.below HB6.out); rw [hr1] at this; exact this
            obtain ⟨g, o, rfl, hg, x', hx', d0, d1, d2⟩ := HX6.out.rd.at_ 0 (by omega)
            simp only [List.getElem?_cons_zero, Option.some.injEq] at hx'
            subst hx'
            simp only [Nat.zero_mul, Nat.add_zero] at d0 d1 d2
            have HLE := HC.out.left.it x (by rw [hr1]; exact List.mem_cons_self ..)
            have HBD : Hid (BdT Z w6 x.2 x.1.body ∧ ItIn x.1) := ⟨HX6.out.rd.bod x (List.mem_cons_self ..), HX6.out.rd.each x (List.mem_cons_self ..)⟩
            obtain ⟨⟨ck, co, cb⟩, ba, bl, bc⟩ := x
            simp only at d0 d1 d2 HLE HBD
            obtain ⟨x1, x2⟩ := HLE
            have HMG : Hid (mrg (l1.length + R1.length) l1 (R1.map Prod.fst) = ((⟨ck, ck, 1⟩ : Sp), (⟨ck, co, cb⟩ : It)) :: mrg (l1.length + R2.length) l1 (R2.map Prod.fst)) := by
              (show _ = _)
              have := mrg_item (l := l1) (q := ⟨ck, co, cb⟩) (x := R2.map Prod.fst) hfst
              rw [List.length_cons, List.length_map] at this
              rw [hr1]
              exact this
            have HR1 : Hid (R1 = (⟨ck, co, cb⟩, ba, bl, bc) :: R2) := hr1
            have HXN1 : Hid (xn = R2.length + 1) := hxn
            have hlp : (0 : Int) < (xn : Int) := by omega
            have hlpN : 0 < xn := by omega
            have hlm : (xn : Int) ≤ (xc : Int) := by have := HX6.out.lc; omega
            have hl1' : (1 : Int) ≤ (xn : Int) := by omega
            have hcm : xc ≤ 9223372036854775807 := by have := HX6.out.cm; unfold maxLen at this; omega
            clear hr1 hfst hxn hg
            have HLM := HM6.out.cur.lens
            simp only at HLM
            have HLM : Hid (sps.length = sn ∧ its.length = im) := HLM
            have HCP : Hid (cutP pub t (mrg (l1.length + R1.length) l1 (R1.map Prod.fst)) ⟨1, pub, 0, 0, fr, t, sps, its⟩ = if fullB ⟨1, pub, 0, 0, fr, t, sps, its⟩ ((⟨ck, ck, 1⟩ : Sp), (⟨ck, co, cb⟩ : It)) = true then shutP ⟨1, pub, 0, 0, fr, t, sps, its⟩ ((⟨ck, ck, 1⟩ : Sp), (⟨ck, co, cb⟩ : It)) :: cutP pub t (mrg (l1.length + R2.length) l1 (R2.map Prod.fst)) (addP (restP pub t ((⟨ck, ck, 1⟩ : Sp), (⟨ck, co, cb⟩ : It))) ((⟨ck, ck, 1⟩ : Sp), (⟨ck, co, cb⟩ : It))) else cutP pub t (mrg (l1.length + R2.length) l1 (R2.map Prod.fst)) (addP ⟨1, pub, 0, 0, fr, t, sps, its⟩ ((⟨ck, ck, 1⟩ : Sp), (⟨ck, co, cb⟩ : It)))) := by (show _ = _); rw [HMG.out, cutP]
            obtain ⟨fb, HFB⟩ : ∃ fb, Hid (fullB ⟨1, pub, 0, 0, fr, t, sps, its⟩ ((⟨ck, ck, 1⟩ : Sp), (⟨ck, co, cb⟩ : It)) = fb) := ⟨_, rfl⟩
            have HFD : Hid (decide ((im : Int) = 8) = fb) := by
              (show _ = _)
              rw [← HFB.out]
              unfold fullB
              simp only
              rw [if_pos trivial, HLM.out.2]
              exact decide_eq_decide.2 (by omega)
            have t0 : w6.cell? ⟨tb, 0, none⟩ = some (.int .i64 1) := HM6.out.tbk.cell 0 rfl
            have t1 : w6.cell? ⟨tb, 1, none⟩ = some (.int .i64 pub) := HM6.out.tbk.cell 1 rfl
            have t2 : w6.cell? ⟨tb, 2, none⟩ = some (.int .i64 0) := HM6.out.tbk.cell 2 rfl
            have t3 : w6.cell? ⟨tb, 3, none⟩ = some (.int .i64 0) := HM6.out.tbk.cell 3 rfl
            have t4 : w6.cell? ⟨tb, 4, none⟩ = some (.int .i64 fr) := HM6.out.tbk.cell 4 rfl
            have t5 : w6.cell? ⟨tb, 5, none⟩ = some (.int .i64 t) := HM6.out.tbk.cell 5 rfl
            have t6 : w6.cell? ⟨tb, 6, none⟩ = some (.slice sa sn sc) := HM6.out.tbk.cell 6 rfl
            have t7 : w6.cell? ⟨tb, 7, none⟩ = some (.slice ia im ic) := HM6.out.tbk.cell 7 rfl
            go_upto_if 147 with fail
            have hdd : ((im : Int) == 8) = fb := HFD.out
            rw [hdd]
            clear hdd t0 t1 t2 t3 t4 t5 t6 t7
            go_cut [17] from 148 to 158 (fun v17 wx => ∃ (va : Option Addr) (vn vc : Nat) (lo : List Pa) (fr : Int) (sps : List Sp) (its : List It) (sa : Option Addr) (sn sc : Nat) (ia : Option Addr) (im ic : Nat) (B : Nat), v17 = .slice va vn vc ∧ sn ≤ 32 ∧ im ≤ 8 ∧ im ≠ 8 ∧ Hid (Making Z w3.heap.size tb w3 wx (.slice va vn vc) lo (⟨⟨1, pub, 0, 0, fr, t, sps, its⟩, sa, sn, sc, ia, im, ic⟩ : Pa) B) ∧ Hid (lo.map Pa.p ++ cutP pub t (mrg (l1.length + R2.length) l1 (R2.map Prod.fst)) (addP ⟨1, pub, 0, 0, fr, t, sps, its⟩ ((⟨ck, ck, 1⟩ : Sp), (⟨ck, co, cb⟩ : It))) = TOT) ∧ Hid (lo.length + (l1.length + R2.length) ≤ 1099511627776) ∧ Hid (Below w6.heap.size w6 wx ∨ True))
            case first =>
              cases fb with
              | false =>
                have HT : Hid (lo.map Pa.p ++ cutP pub t (mrg (l1.length + R2.length) l1 (R2.map Prod.fst)) (addP ⟨1, pub, 0, 0, fr, t, sps, its⟩ ((⟨ck, ck, 1⟩ : Sp), (⟨ck, co, cb⟩ : It))) = TOT) := by
                  have h1 := HC.out.tot
                  have h2 : cutP pub t (mrg (l1.length + R1.length) l1 (R1.map Prod.fst)) ⟨1, pub, 0, 0, fr, t, sps, its⟩ = _ := HCP.out
                  rw [HFB.out, if_neg (by decide)] at h2
                  simp only at h1
                  rw [h2] at h1
                  exact h1
                have HFW : Hid (lo.length + (l1.length + R2.length) ≤ 1099511627776) := by (show _ ≤ _); have h1 := HC.out.few; rw [HR1.out, List.length_cons] at h1; omega
                have hnf : im ≠ 8 := by have h1 := of_decide_eq_false HFD.out; omega
                go_wp2
                go_meet
                exact ⟨va, vn, vc, lo, fr, sps, its, sa, sn, sc, ia, im, ic, B, rfl, hsn, him, hnf, HM6, HT, HFW, .inr trivial⟩
              | true =>
                have HT : Hid (lo.map Pa.p ++ shutP ⟨1, pub, 0, 0, fr, t, sps, its⟩ ((⟨ck, ck, 1⟩ : Sp), (⟨ck, co, cb⟩ : It)) :: cutP pub t (mrg (l1.length + R2.length) l1 (R2.map Prod.fst)) (addP (restP pub t ((⟨ck, ck, 1⟩ : Sp), (⟨ck, co, cb⟩ : It))) ((⟨ck, ck, 1⟩ : Sp), (⟨ck, co, cb⟩ : It))) = TOT) := by
                  have h1 := HC.out.tot
                  have h2 : cutP pub t (mrg (l1.length + R1.length) l1 (R1.map Prod.fst)) ⟨1, pub, 0, 0, fr, t, sps, its⟩ = _ := HCP.out
                  rw [HFB.out, if_pos rfl] at h2
                  simp only at h1
                  rw [h2] at h1
                  exact h1
                have HFW : Hid ((lo ++ [(⟨shutP ⟨1, pub, 0, 0, fr, t, sps, its⟩ ((⟨ck, ck, 1⟩ : Sp), (⟨ck, co, cb⟩ : It)), sa, sn, sc, ia, im, ic⟩ : Pa)]).length + (l1.length + R2.length) ≤ 1099511627776) := by (show _ ≤ _); have h1 := HC.out.few; rw [HR1.out, List.length_cons] at h1; rw [List.length_append, List.length_singleton]; omega
                have HLL : Hid (lo.length ≤ 1099511627776) := by (show _ ≤ _); have h1 := HC.out.few; omega
                have t0 : w6.cell? ⟨tb, 0, none⟩ = some (.int .i64 1) := HM6.out.tbk.cell 0 rfl
                have t1 : w6.cell? ⟨tb, 1, none⟩ = some (.int .i64 pub) := HM6.out.tbk.cell 1 rfl
                have t2 : w6.cell? ⟨tb, 2, none⟩ = some (.int .i64 0) := HM6.out.tbk.cell 2 rfl
                have t3 : w6.cell? ⟨tb, 3, none⟩ = some (.int .i64 0) := HM6.out.tbk.cell 3 rfl
                have t4 : w6.cell? ⟨tb, 4, none⟩ = some (.int .i64 fr) := HM6.out.tbk.cell 4 rfl
                have t5 : w6.cell? ⟨tb, 5, none⟩ = some (.int .i64 t) := HM6.out.tbk.cell 5 rfl
                have t6 : w6.cell? ⟨tb, 6, none⟩ = some (.slice sa sn sc) := HM6.out.tbk.cell 6 rfl
                have t7 : w6.cell? ⟨tb, 7, none⟩ = some (.slice ia im ic) := HM6.out.tbk.cell 7 rfl
                have tf5 := HM6.out.tbk.free 5
                obtain ⟨W7, HW7⟩ : ∃ W7, Hid (W7 = w6.setCell ⟨tb, 5, none⟩ (.int .i64 (ck - 1))) := ⟨_, rfl⟩
                have HM7 : Hid (Making Z w3.heap.size tb w3 W7 (.slice va vn vc) lo (⟨shutP ⟨1, pub, 0, 0, fr, t, sps, its⟩ ((⟨ck, ck, 1⟩ : Sp), (⟨ck, co, cb⟩ : It)), sa, sn, sc, ia, im, ic⟩ : Pa) B) := by
                  (show Making _ _ _ _ _ _ _ _ _)
                  rw [HW7.out]
                  exact HM6.out.cell 5 _ rfl ⟨HM6.out.cur.spans, HM6.out.cur.items⟩
                go_upto_region 26 with fail
                rw [← HW7.out]
                clear t0 t1 t2 t3 t4 t5 t6 t7 tf5
                have t0 : W7.cell? ⟨tb, 0, none⟩ = some (.int .i64 1) := HM7.out.tbk.cell 0 rfl
                have t1 : W7.cell? ⟨tb, 1, none⟩ = some (.int .i64 pub) := HM7.out.tbk.cell 1 rfl
                have t2 : W7.cell? ⟨tb, 2, none⟩ = some (.int .i64 0) := HM7.out.tbk.cell 2 rfl
                have t3 : W7.cell? ⟨tb, 3, none⟩ = some (.int .i64 0) := HM7.out.tbk.cell 3 rfl
                have t4 : W7.cell? ⟨tb, 4, none⟩ = some (.int .i64 fr) := HM7.out.tbk.cell 4 rfl
                have t5 : W7.cell? ⟨tb, 5, none⟩ = some (.int .i64 (ck - 1)) := HM7.out.tbk.cell 5 rfl
                have t6 : W7.cell? ⟨tb, 6, none⟩ = some (.slice sa sn sc) := HM7.out.tbk.cell 6 rfl
                have t7 : W7.cell? ⟨tb, 7, none⟩ = some (.slice ia im ic) := HM7.out.tbk.cell 7 rfl
                have HB8 : Hid (Below W7.heap.size W7 (W7.alloc (.cells #[.int .i64 1, .int .i64 pub, .int .i64 0, .int .i64 0, .int .i64 fr, .int .i64 (ck - 1), .slice sa sn sc, .slice ia im ic] 33))) := below_new _ _
                have HM8 : Hid (Making Z w3.heap.size tb w3 (W7.alloc (.cells #[.int .i64 1, .int .i64 pub, .int .i64 0, .int .i64 0, .int .i64 fr, .int .i64 (ck - 1), .slice sa sn sc, .slice ia im ic] 33)) (.slice va vn vc) lo (⟨shutP ⟨1, pub, 0, 0, fr, t, sps, its⟩ ((⟨ck, ck, 1⟩ : Sp), (⟨ck, co, cb⟩ : It)), sa, sn, sc, ia, im, ic⟩ : Pa) B) := HM7.out.below HB8.out
                have HTD : Hid (∀ j u, (pacel (⟨shutP ⟨1, pub, 0, 0, fr, t, sps, its⟩ ((⟨ck, ck, 1⟩ : Sp), (⟨ck, co, cb⟩ : It)), sa, sn, sc, ia, im, ic⟩ : Pa))[j]? = some u → (W7.alloc (.cells #[.int .i64 1, .int .i64 pub, .int .i64 0, .int .i64 0, .int .i64 fr, .int .i64 (ck - 1), .slice sa sn sc, .slice ia im ic] 33)).cell? ((⟨W7.heap.size, 0, none⟩ : Addr).add j) = some u) := tell_told (q := (⟨shutP ⟨1, pub, 0, 0, fr, t, sps, its⟩ ((⟨ck, ck, 1⟩ : Sp), (⟨ck, co, cb⟩ : It)), sa, sn, sc, ia, im, ic⟩ : Pa)) (Bk.new _ _ _)
                go_wp2_with (at_builtin; refine wpList_append_tell rfl (.tmp 151) (.tmp 153) rfl w3.heap.size _ lo rfl HM8.out.row ⟨W7.heap.size, 0, none⟩ 1 (⟨shutP ⟨1, pub, 0, 0, fr, t, sps, its⟩ ((⟨ck, ck, 1⟩ : Sp), (⟨ck, co, cb⟩ : It)), sa, sn, sc, ia, im, ic⟩ : Pa) rfl HTD.out HLL.out (Nat.le_trans HM8.out.h0 HM8.out.hB) ?_)
                intro v8 w8 hr8 hg8 hb8 hsn8
                have HSN8 : Hid (some tb ≠ v8.ownBlock) := fun e => by
                  rcases hsn8 with h1 | ⟨k, h1, h2⟩
                  · exact HM8.out.tn (e.trans h1)
                  · rw [h1] at e
                    have h3 := HM8.out.tbk.lt
                    simp only [Option.some.injEq] at e
                    omega
                obtain ⟨q1, q2, q3, q4⟩ := HM8.out.done hg8 hb8
                have HRW : Hid (PRow w8 w3.heap.size v8 (lo ++ [(⟨shutP ⟨1, pub, 0, 0, fr, t, sps, its⟩ ((⟨ck, ck, 1⟩ : Sp), (⟨ck, co, cb⟩ : It)), sa, sn, sc, ia, im, ic⟩ : Pa)])) := hr8
                have HTK : Hid (Bk w8 tb (pacel (⟨shutP ⟨1, pub, 0, 0, fr, t, sps, its⟩ ((⟨ck, ck, 1⟩ : Sp), (⟨ck, co, cb⟩ : It)), sa, sn, sc, ia, im, ic⟩ : Pa)).toArray 33) := q1
                have HEA : Hid (∀ x ∈ lo ++ [(⟨shutP ⟨1, pub, 0, 0, fr, t, sps, its⟩ ((⟨ck, ck, 1⟩ : Sp), (⟨ck, co, cb⟩ : It)), sa, sn, sc, ia, im, ic⟩ : Pa)], PcR Z w8 w3.heap.size x ∧ PcLt w8.heap.size x) := q2
                have HBE8 : Hid (Below w3.heap.size w3 w8 ∧ w3.heap.size ≤ w8.heap.size) := ⟨q3, q4⟩
                obtain ⟨v8a, v8n, v8c, hv8⟩ : ∃ a n c, v8 = .slice a n c := by
                  rcases hr8.row.2 with ⟨hv, _⟩ | ⟨g8, c8, cur, hv, _⟩
                  · exact ⟨_, _, _, hv⟩
                  · exact ⟨_, _, _, hv⟩
                subst hv8
                clear q1 q2 q3 q4 hr8 hg8 hb8 hsn8 t0 t1 t2 t3 t4 t5 t6 t7
                have t0 : w8.cell? ⟨tb, 0, none⟩ = some (.int .i64 1) := HTK.out.cell 0 rfl
                have t1 : w8.cell? ⟨tb, 1, none⟩ = some (.int .i64 pub) := HTK.out.cell 1 rfl
                have t2 : w8.cell? ⟨tb, 2, none⟩ = some (.int .i64 0) := HTK.out.cell 2 rfl
                have t3 : w8.cell? ⟨tb, 3, none⟩ = some (.int .i64 0) := HTK.out.cell 3 rfl
                have t4 : w8.cell? ⟨tb, 4, none⟩ = some (.int .i64 fr) := HTK.out.cell 4 rfl
                have t5 : w8.cell? ⟨tb, 5, none⟩ = some (.int .i64 (ck - 1)) := HTK.out.cell 5 rfl
                have t6 : w8.cell? ⟨tb, 6, none⟩ = some (.slice sa sn sc) := HTK.out.cell 6 rfl
                have t7 : w8.cell? ⟨tb, 7, none⟩ = some (.slice ia im ic) := HTK.out.cell 7 rfl
                have tf0 := HTK.out.free 0
                have tf1 := HTK.out.free 1
                have tf2 := HTK.out.free 2
                have tf3 := HTK.out.free 3
                have tf4 := HTK.out.free 4
                have tf5 := HTK.out.free 5
                have tf6 := HTK.out.free 6
                have tf7 := HTK.out.free 7
                obtain ⟨w9, HW9⟩ : ∃ W, Hid (W = set8 w8 tb (.int .i64 1) (.int .i64 pub) (.int .i64 0) (.int .i64 0) (.int .i64 ck) (.int .i64 t) (.slice none 0 0) (.slice none 0 0)) := ⟨_, rfl⟩
                have HM9 : Hid (Making Z w3.heap.size tb w3 w9 (.slice v8a v8n v8c) (lo ++ [(⟨shutP ⟨1, pub, 0, 0, fr, t, sps, its⟩ ((⟨ck, ck, 1⟩ : Sp), (⟨ck, co, cb⟩ : It)), sa, sn, sc, ia, im, ic⟩ : Pa)]) (⟨⟨1, pub, 0, 0, ck, t, [], []⟩, none, 0, 0, none, 0, 0⟩ : Pa) w8.heap.size) := by
                  (show Making _ _ _ _ _ _ _ _ _)
                  refine Making.again HTK.out HRW.out.row HEA.out HSN8.out HM6.out.b0 HBE8.out.2 HM6.out.tl ?_ ?_ ?_ ?_ ⟨rfl, rfl, rfl, rfl, rfl, rfl, rfl, rfl⟩
                  · rw [HW9.out]; exact Bk.set8 HTK.out _ _ _ _ _ _ _ _
                  · intro k hk; rw [HW9.out]; exact set8_other _ _ _ _ _ _ _ _ _ _ k hk
                  · rw [HW9.out]; unfold set8; simp only [World.size_setCell]
                  · rw [HW9.out]; exact set8_below HBE8.out.1 tb HM6.out.tl _ _ _ _ _ _ _ _
                have HT9 : Hid ((lo ++ [(⟨shutP ⟨1, pub, 0, 0, fr, t, sps, its⟩ ((⟨ck, ck, 1⟩ : Sp), (⟨ck, co, cb⟩ : It)), sa, sn, sc, ia, im, ic⟩ : Pa)]).map Pa.p ++ cutP pub t (mrg (l1.length + R2.length) l1 (R2.map Prod.fst)) (addP ⟨1, pub, 0, 0, ck, t, [], []⟩ ((⟨ck, ck, 1⟩ : Sp), (⟨ck, co, cb⟩ : It))) = TOT) := by
                  (show _ = _)
                  rw [← HT.out, List.map_append, List.append_assoc]
                  rfl
                go_wp2
                go_meet
                change ∃ (va : Option Addr) (vn vc : Nat) (lo : List Pa) (fr : Int) (sps : List Sp) (its : List It) (sa : Option Addr) (sn sc : Nat) (ia : Option Addr) (im ic : Nat) (B : Nat), _ = Value.slice va vn vc ∧ _ ∧ _ ∧ _ ∧ Hid (Making Z w3.heap.size tb w3 (set8 w8 tb (.int .i64 1) (.int .i64 pub) (.int .i64 0) (.int .i64 0) (.int .i64 ck) (.int .i64 t) (.slice none 0 0) (.slice none 0 0)) (.slice va vn vc) lo (⟨⟨1, pub, 0, 0, fr, t, sps, its⟩, sa, sn, sc, ia, im, ic⟩ : Pa) B) ∧ _ ∧ _ ∧ _
                rw [← HW9.out]
                exact ⟨v8a, v8n, v8c, _, ck, [], [], none, 0, 0, none, 0, 0, w8.heap.size, rfl, by omega, by omega, by omega, HM9, HT9, HFW, .inr trivial⟩
            case rest =>
            clear HM5 HC HCP HFB HFD HLM hsn him
            obtain ⟨va, vn, vc, lo, fr, sps, its, sa, sn, sc, ia, im, ic, B, hv17, hsn, him, hnf, HM, HT, HFW, _⟩ := hcut
            obtain ⟨w9, hwp⟩ : ∃ W, W = wc := ⟨_, rfl⟩
            subst hwp
            subst hv17
            have HLM := HM.out.cur.lens
            simp only at HLM
            have HLM : Hid (sps.length = sn ∧ its.length = im) := HLM
            have HB9 : Hid (Below w3.heap.size w3 w9) := HM.out.bel
            clear d0 d1 d2
            have HTI : Hid (lo.map Pa.p ++ cutP pub t (mrg (l1.length + R2.length) l1 (R2.map Prod.fst)) ⟨1, pub, 0, 0, fr, t, sps, its ++ [⟨ck, co, cb⟩]⟩ = TOT) := by have := HT.out; unfold addP at this; rw [if_pos rfl] at this; exact this
            have HLFN : Hid (Left l1 R2) := ⟨HLF2.out.sp, fun x hx => HLF2.out.it x (by rw [HR1.out]; exact List.mem_cons_of_mem _ hx)⟩
            obtain ⟨g2, o2, he2, hg2, q2, hq2, e0, e1, e2⟩ := HX.out.rd.at_ 0 (by have := HXN1.out; omega)
            simp only [Option.some.injEq, Addr.mk.injEq, and_true] at he2
            obtain ⟨rfl, rfl⟩ := he2
            rw [HR1.out] at hq2
            simp only [List.getElem?_cons_zero, Option.some.injEq] at hq2
            subst hq2
            simp only [Nat.zero_mul, Nat.add_zero] at e0 e1 e2
            have HX3w : Hid (Xr Z w3 (some ⟨g, o, none⟩) xn xc ((⟨ck, co, cb⟩, ba, bl, bc) :: R2)) := by have := HX.out; rw [HR1.out] at this; exact this
            have HSW : Hid (∀ W : World, Below w3.heap.size w3 W → W.cell? ⟨g, o, none⟩ = some (.int .i64 ck) ∧ W.cell? ⟨g, o + 1, none⟩ = some (.int .u32 co) ∧ W.cell? ⟨g, o + 2, none⟩ = some (.slice ba bl bc)) := fun W hW => ⟨(hW.cell (p := ⟨g, o, none⟩) hg2).trans e0, (hW.cell (p := ⟨g, o + 1, none⟩) hg2).trans e1, (hW.cell (p := ⟨g, o + 2, none⟩) hg2).trans e2⟩
            clear e0 e1 e2 hg2
            go_upto_region 31 with fail
            refine wp_region_held_drew (S := fun w' => w'.cell? ⟨g, o, none⟩ = some (.int .i64 ck) ∧ w'.cell? ⟨g, o + 1, none⟩ = some (.int .u32 co) ∧ w'.cell? ⟨g, o + 2, none⟩ = some (.slice ba bl bc)) (by kernel_rfl) (HSW.out _ HB9.out.drew) (fun hHeld => ?_)
            obtain ⟨wd, HWD⟩ : ∃ W, Hid (W = w9.drew) := ⟨_, rfl⟩
            rw [← HWD.out] at hHeld ⊢
            have HBd : Hid (Below w9.heap.size w9 wd) := by (show Below _ _ _); rw [HWD.out]; exact (Below.refl _ _).drew
            have HMd : Hid (Making Z w3.heap.size tb w3 wd (.slice va vn vc) lo (⟨⟨1, pub, 0, 0, fr, t, sps, its⟩, sa, sn, sc, ia, im, ic⟩ : Pa) B) := HM.out.below HBd.out
            refine take_putH (i := 0) (v := ?_) (some 170) rfl (by kernel_rfl) (by kernel_rfl) (by kernel_rfl) (by kernel_rfl) (fun _ _ _ h => h) (Or.inl ⟨by rfl, ?_⟩) hHeld ?_
            rotate_left
            · (intro wS hSw; obtain ⟨z0, z1, z2⟩ := hSw; go_simp; try with_reducible rfl)
            try simp only [Act.put, List.setIfInBounds_toArray, List.set_cons_zero, List.set_cons_succ]
            refine take_putH (i := 2) (v := ?_) (some 172) rfl (by kernel_rfl) (by kernel_rfl) (by kernel_rfl) (by kernel_rfl) (fun _ _ _ h => h) (Or.inl ⟨by rfl, ?_⟩) hHeld ?_
            rotate_left
            · (intro wS hSw; obtain ⟨z0, z1, z2⟩ := hSw; go_simp; try with_reducible rfl)
            try simp only [Act.put, List.setIfInBounds_toArray, List.set_cons_zero, List.set_cons_succ]
            refine take_putH (i := 3) (v := ?_) (some 173) rfl (by kernel_rfl) (by kernel_rfl) (by kernel_rfl) (by kernel_rfl) (fun _ _ _ h => h) (Or.inl ⟨by rfl, ?_⟩) hHeld ?_
            rotate_left
            · (intro wS hSw; obtain ⟨z0, z1, z2⟩ := hSw; go_simp; try with_reducible rfl)
            try simp only [Act.put, List.setIfInBounds_toArray, List.set_cons_zero, List.set_cons_succ]
            refine take_putH (i := 4) (v := ?_) (some 174) rfl (by kernel_rfl) (by kernel_rfl) (by kernel_rfl) (by kernel_rfl) (fun _ _ _ h => h) (Or.inl ⟨by rfl, ?_⟩) hHeld ?_
            rotate_left
            · (intro wS hSw; obtain ⟨z0, z1, z2⟩ := hSw; go_simp; try with_reducible rfl)
            try simp only [Act.put, List.setIfInBounds_toArray, List.set_cons_zero, List.set_cons_succ]
            have hH0 : Hid (wd.cell? ⟨g, o, none⟩ = some (.int .i64 ck) ∧ wd.cell? ⟨g, o + 1, none⟩ = some (.int .u32 co) ∧ wd.cell? ⟨g, o + 2, none⟩ = some (.slice ba bl bc)) := hHeld
            clear hHeld
            obtain ⟨W7, HW7⟩ : ∃ W7, Hid (W7 = wd.alloc (.cells #[.int .i64 ck, .int .u32 co, .slice ba bl bc] 54)) := ⟨_, rfl⟩
            have HB7 : Hid (Below wd.heap.size wd W7) := by (show Below _ _ _); rw [HW7.out]; exact below_new _ _
            have HN7 : Hid (Bk W7 wd.heap.size #[.int .i64 ck, .int .u32 co, .slice ba bl bc] 54) := by (show Bk _ _ _ _); rw [HW7.out]; exact Bk.new _ _ _
            have HM7 : Hid (Making Z w3.heap.size tb w3 W7 (.slice va vn vc) lo (⟨⟨1, pub, 0, 0, fr, t, sps, its⟩, sa, sn, sc, ia, im, ic⟩ : Pa) B) := HMd.out.below HB7.out
            have hH7 : Hid (W7.cell? ⟨g, o, none⟩ = some (.int .i64 ck) ∧ W7.cell? ⟨g, o + 1, none⟩ = some (.int .u32 co) ∧ W7.cell? ⟨g, o + 2, none⟩ = some (.slice ba bl bc)) := HSW.out _ HM7.out.bel
            refine wpAnyH_ready (rs := [1, 5]) (by kernel_rfl) (by simp) ?_
            refine AllReadyH.cons rfl (fun K hK => ?_) (AllReadyH.cons rfl (fun K hK => ?_) AllReadyH.nil)
            · have cl : wd.cell? ⟨tb, 7, none⟩ = some (.slice ia im ic) := HMd.out.tbk.cell 7 rfl
              go_simp
              clear cl
              refine hK.out _ _ hH0.out (fun _ => ?_)
              clear hK K
              try simp only [Act.put, List.getElem_toArray, List.getElem_cons_succ, List.getElem_cons_zero, List.setIfInBounds_toArray, List.set_cons_zero, List.set_cons_succ]
              refine wpAnyH_ready (rs := [5]) (by kernel_rfl) (by simp) ?_
              refine AllReadyH.cons rfl (fun K hK => ?_) AllReadyH.nil
              go_simp
              rw [← HW7.out]
              refine hK.out _ _ hH7.out (fun _ => ?_)
              clear hK K
              try simp only [Act.put, List.getElem_toArray, List.getElem_cons_succ, List.getElem_cons_zero, List.setIfInBounds_toArray, List.set_cons_zero, List.set_cons_succ]
              obtain ⟨Rr, hR, hRe⟩ := HM7.out.cur.items
              have HRO : Hid (Ros Z W7 B (.slice ia im ic) Rr) := hR
              have HRE : Hid (Rr.map Prod.fst = its) := hRe
              have HBT : Hid (BdT Z W7 (ba, bl, bc) cb ∧ ItIn ⟨ck, co, cb⟩) := ⟨(HX3w.out.below HM7.out.bel).rd.bod _ (List.mem_cons_self ..), HX3w.out.rd.each _ (List.mem_cons_self ..)⟩
              have HRLn : Hid (Rr.length ≤ 1000000000000) := by (show _ ≤ _); have h1 := congrArg List.length HRE.out; rw [List.length_map] at h1; have h2 := HLM.out.2; omega
              clear hR hRe
              refine wpAnyH_ready (rs := [6]) (by kernel_rfl) (by simp) ?_
              refine AllReadyH.cons rfl (fun K hK => ?_) AllReadyH.nil
              refine step_append_ro (Z := Z) rfl (.tmp 171) (.tmp 175) rfl B (.slice ia im ic) Rr rfl HRO.out ⟨wd.heap.size, 0, none⟩ 1 (⟨ck, co, cb⟩, ba, bl, bc) rfl (item_told HN7.out) HBT.out.1 HBT.out.2 HRLn.out HM7.out.hB ?_
              intro v8 w8 hr8 hg8 hb8 hn8
              obtain ⟨a8, c8, hv8, _⟩ := hr8.form
              obtain ⟨n8, hn8e⟩ : ∃ n, n = (Rr ++ [((⟨ck, co, cb⟩ : It), ((ba, bl, bc) : Bd))]).length := ⟨_, rfl⟩
              rw [← hn8e] at hv8
              subst hv8
              have HN8 : Hid (n8 = im + 1) := by (show _ = _); rw [hn8e, List.length_append]; have h1 := congrArg List.length HRE.out; rw [List.length_map] at h1; have h2 := HLM.out.2; simp; omega
              have HTK : Hid (Bk w8 tb #[.int .i64 1, .int .i64 pub, .int .i64 0, .int .i64 0, .int .i64 fr, .int .i64 t, .slice sa sn sc, .slice ia im ic] 33) := HM7.out.tbk.grown hg8 (fun e => by obtain ⟨c9, m9, k9⟩ := row_type HRO.out.row e.symm; exact absurd (bk_type HM7.out.tbk k9) (by decide))
              have HM8 : Hid (∀ u : Value, u = .slice a8 n8 c8 → Making Z w3.heap.size tb w3 (w8.setCell ⟨tb, 7, none⟩ u) (.slice va vn vc) lo (⟨⟨1, pub, 0, 0, fr, t, sps, (its ++ [⟨ck, co, cb⟩])⟩, sa, sn, sc, a8, n8, c8⟩ : Pa) B) := fun u hu => by rw [hu]; exact HM7.out.put hg8 (row_own HRO.out.row (by decide) (by decide)) hb8 7 _ rfl ⟨⟨row_stays HM7.out.cur.spans.row HRO.out.row (by decide) hg8⟩, _, hr8, by rw [List.map_append, HRE.out]; rfl⟩
              have hH8 : Hid (w8.cell? ⟨g, o, none⟩ = some (.int .i64 ck) ∧ w8.cell? ⟨g, o + 1, none⟩ = some (.int .u32 co) ∧ w8.cell? ⟨g, o + 2, none⟩ = some (.slice ba bl bc)) := HSW.out _ (HM7.out.bel.trans (hb8.mono (Nat.le_trans HM7.out.b0 HM7.out.h0)))
              clear hr8 hg8 hb8 hn8 hn8e
              refine hK.out _ _ hH8.out (fun _ => ?_)
              clear hK K
              try simp only [Act.put, List.getElem_toArray, List.getElem_cons_succ, List.getElem_cons_zero, List.setIfInBounds_toArray, List.set_cons_zero, List.set_cons_succ]
              refine take_putH (i := 7) (v := ?_) (some 177) rfl (by kernel_rfl) (by kernel_rfl) (by kernel_rfl) (by kernel_rfl) (fun _ _ _ h => h) (Or.inl ⟨by rfl, ?_⟩) hH8.out ?_
              rotate_left
              · (intro wS hSw; obtain ⟨z0, z1, z2⟩ := hSw; go_simp; try with_reducible rfl)
              try simp only [Act.put, List.setIfInBounds_toArray, List.set_cons_zero, List.set_cons_succ]
              have mm : w8.cell? ⟨tb, 7, none⟩ = some (.slice ia im ic) := HTK.out.cell 7 rfl
              have mf : w8.frozen? ⟨tb, 7, none⟩ = false := HTK.out.free 7
              obtain ⟨wE, HWE⟩ : ∃ W, Hid (W = w8.setCell ⟨tb, 7, none⟩ (.slice a8 n8 c8)) := ⟨_, rfl⟩
              have HME : Hid (Making Z w3.heap.size tb w3 wE (.slice va vn vc) lo (⟨⟨1, pub, 0, 0, fr, t, sps, (its ++ [⟨ck, co, cb⟩])⟩, sa, sn, sc, a8, n8, c8⟩ : Pa) B) := by (show Making _ _ _ _ _ _ _ _ _); rw [HWE.out]; exact HM8.out _ rfl
              have hH9 : Hid (wE.cell? ⟨g, o, none⟩ = some (.int .i64 ck) ∧ wE.cell? ⟨g, o + 1, none⟩ = some (.int .u32 co) ∧ wE.cell? ⟨g, o + 2, none⟩ = some (.slice ba bl bc)) := HSW.out _ HME.out.bel
              refine wpAnyH_ready (rs := [8]) (by kernel_rfl) (by simp) ?_
              refine AllReadyH.cons rfl (fun K hK => ?_) AllReadyH.nil
              go_simp
              rw [← HWE.out]
              refine hK.out _ _ hH9.out (fun _ => ?_)
              clear hK K
              try simp only [Act.put, List.getElem_toArray, List.getElem_cons_succ, List.getElem_cons_zero, List.setIfInBounds_toArray, List.set_cons_zero, List.set_cons_succ]
              refine wpAnyH_done (by kernel_rfl) ?_ _
              clear mm mf
              have HCE : Hid (RefCut Z pub t w3.heap.size tb w3 wE (.slice va vn vc) lo (⟨⟨1, pub, 0, 0, fr, t, sps, (its ++ [⟨ck, co, cb⟩])⟩, sa, sn, sc, a8, n8, c8⟩ : Pa) B l1 R2 PP TOT 1099511627776) := ⟨HME.out, HTI.out, HFW.out, .inl (.inr (by show 0 < n8; have := HN8.out; omega)), HLFN.out⟩
              by_cases hc1 : xc = 1
              · have hend := (HX3w.out).end_ hc1
                have hn1 : xn = 1 := hend.1
                have HEN := hend.2.2
                clear hend
                subst hc1 hn1
                go_wp2
                go_roundw
                case rel => exact ⟨la, ln, lc, l1, _, 0, 0, R2, va, vn, vc, lo, fr, sps, its ++ [⟨ck, co, cb⟩], sa, sn, sc, a8, n8, c8, B, rfl, rfl, rfl, by omega, by have := HN8.out; omega, HL, HEN _, HCE⟩
                case measure => simp [lenOf]
              · have htl := (HX3w.out).tail
                have hcz : ¬ (xc : Int) = 1 := by omega
                have HTL := htl
                clear htl
                go_wp2
                go_roundw
                case rel => exact ⟨la, ln, lc, l1, _, xn - 1, xc - 1, R2, va, vn, vc, lo, fr, sps, its ++ [⟨ck, co, cb⟩], sa, sn, sc, a8, n8, c8, B, rfl, rfl, rfl, by omega, by have := HN8.out; omega, HL, HTL, HCE⟩
                case measure => simp [lenOf]; omega
            · go_simp
              rw [← HW7.out]
              refine hK.out _ _ hH7.out (fun _ => ?_)
              clear hK K
              try simp only [Act.put, List.getElem_toArray, List.getElem_cons_succ, List.getElem_cons_zero, List.setIfInBounds_toArray, List.set_cons_zero, List.set_cons_succ]
              refine wpAnyH_ready (rs := [1]) (by kernel_rfl) (by simp) ?_
              refine AllReadyH.cons rfl (fun K hK => ?_) AllReadyH.nil
              have cl : W7.cell? ⟨tb, 7, none⟩ = some (.slice ia im ic) := HM7.out.tbk.cell 7 rfl
              go_simp
              clear cl
              refine hK.out _ _ hH7.out (fun _ => ?_)
              clear hK K
              try simp only [Act.put, List.getElem_toArray, List.getElem_cons_succ, List.getElem_cons_zero, List.setIfInBounds_toArray, List.set_cons_zero, List.set_cons_succ]
              obtain ⟨Rr, hR, hRe⟩ := HM7.out.cur.items
              have HRO : Hid (Ros Z W7 B (.slice ia im ic) Rr) := hR
              have HRE : Hid (Rr.map Prod.fst = its) := hRe
              have HBT : Hid (BdT Z W7 (ba, bl, bc) cb ∧ ItIn ⟨ck, co, cb⟩) := ⟨(HX3w.out.below HM7.out.bel).rd.bod _ (List.mem_cons_self ..), HX3w.out.rd.each _ (List.mem_cons_self ..)⟩
              have HRLn : Hid (Rr.length ≤ 1000000000000) := by (show _ ≤ _); have h1 := congrArg List.length HRE.out; rw [List.length_map] at h1; have h2 := HLM.out.2; omega
              clear hR hRe
              refine wpAnyH_ready (rs := [6]) (by kernel_rfl) (by simp) ?_
              refine AllReadyH.cons rfl (fun K hK => ?_) AllReadyH.nil
              refine step_append_ro (Z := Z) rfl (.tmp 171) (.tmp 175) rfl B (.slice ia im ic) Rr rfl HRO.out ⟨wd.heap.size, 0, none⟩ 1 (⟨ck, co, cb⟩, ba, bl, bc) rfl (item_told HN7.out) HBT.out.1 HBT.out.2 HRLn.out HM7.out.hB ?_
              intro v8 w8 hr8 hg8 hb8 hn8
              obtain ⟨a8, c8, hv8, _⟩ := hr8.form
              obtain ⟨n8, hn8e⟩ : ∃ n, n = (Rr ++ [((⟨ck, co, cb⟩ : It), ((ba, bl, bc) : Bd))]).length := ⟨_, rfl⟩
              rw [← hn8e] at hv8
              subst hv8
              have HN8 : Hid (n8 = im + 1) := by (show _ = _); rw [hn8e, List.length_append]; have h1 := congrArg List.length HRE.out; rw [List.length_map] at h1; have h2 := HLM.out.2; simp; omega
              have HTK : Hid (Bk w8 tb #[.int .i64 1, .int .i64 pub, .int .i64 0, .int .i64 0, .int .i64 fr, .int .i64 t, .slice sa sn sc, .slice ia im ic] 33) := HM7.out.tbk.grown hg8 (fun e => by obtain ⟨c9, m9, k9⟩ := row_type HRO.out.row e.symm; exact absurd (bk_type HM7.out.tbk k9) (by decide))
              have HM8 : Hid (∀ u : Value, u = .slice a8 n8 c8 → Making Z w3.heap.size tb w3 (w8.setCell ⟨tb, 7, none⟩ u) (.slice va vn vc) lo (⟨⟨1, pub, 0, 0, fr, t, sps, (its ++ [⟨ck, co, cb⟩])⟩, sa, sn, sc, a8, n8, c8⟩ : Pa) B) := fun u hu => by rw [hu]; exact HM7.out.put hg8 (row_own HRO.out.row (by decide) (by decide)) hb8 7 _ rfl ⟨⟨row_stays HM7.out.cur.spans.row HRO.out.row (by decide) hg8⟩, _, hr8, by rw [List.map_append, HRE.out]; rfl⟩
              have hH8 : Hid (w8.cell? ⟨g, o, none⟩ = some (.int .i64 ck) ∧ w8.cell? ⟨g, o + 1, none⟩ = some (.int .u32 co) ∧ w8.cell? ⟨g, o + 2, none⟩ = some (.slice ba bl bc)) := HSW.out _ (HM7.out.bel.trans (hb8.mono (Nat.le_trans HM7.out.b0 HM7.out.h0)))
              clear hr8 hg8 hb8 hn8 hn8e
              refine hK.out _ _ hH8.out (fun _ => ?_)
              clear hK K
              try simp only [Act.put, List.getElem_toArray, List.getElem_cons_succ, List.getElem_cons_zero, List.setIfInBounds_toArray, List.set_cons_zero, List.set_cons_succ]
              refine take_putH (i := 7) (v := ?_) (some 177) rfl (by kernel_rfl) (by kernel_rfl) (by kernel_rfl) (by kernel_rfl) (fun _ _ _ h => h) (Or.inl ⟨by rfl, ?_⟩) hH8.out ?_
              rotate_left
              · (intro wS hSw; obtain ⟨z0, z1, z2⟩ := hSw; go_simp; try with_reducible rfl)
              try simp only [Act.put, List.setIfInBounds_toArray, List.set_cons_zero, List.set_cons_succ]
              have mm : w8.cell? ⟨tb, 7, none⟩ = some (.slice ia im ic) := HTK.out.cell 7 rfl
              have mf : w8.frozen? ⟨tb, 7, none⟩ = false := HTK.out.free 7
              obtain ⟨wE, HWE⟩ : ∃ W, Hid (W = w8.setCell ⟨tb, 7, none⟩ (.slice a8 n8 c8)) := ⟨_, rfl⟩
              have HME : Hid (Making Z w3.heap.size tb w3 wE (.slice va vn vc) lo (⟨⟨1, pub, 0, 0, fr, t, sps, (its ++ [⟨ck, co, cb⟩])⟩, sa, sn, sc, a8, n8, c8⟩ : Pa) B) := by (show Making _ _ _ _ _ _ _ _ _); rw [HWE.out]; exact HM8.out _ rfl
              have hH9 : Hid (wE.cell? ⟨g, o, none⟩ = some (.int .i64 ck) ∧ wE.cell? ⟨g, o + 1, none⟩ = some (.int .u32 co) ∧ wE.cell? ⟨g, o + 2, none⟩ = some (.slice ba bl bc)) := HSW.out _ HME.out.bel
              refine wpAnyH_ready (rs := [8]) (by kernel_rfl) (by simp) ?_
              refine AllReadyH.cons rfl (fun K hK => ?_) AllReadyH.nil
              go_simp
              rw [← HWE.out]
              refine hK.out _ _ hH9.out (fun _ => ?_)
              clear hK K
              try simp only [Act.put, List.getElem_toArray, List.getElem_cons_succ, List.getElem_cons_zero, List.setIfInBounds_toArray, List.set_cons_zero, List.set_cons_succ]
              refine wpAnyH_done (by kernel_rfl) ?_ _
              clear mm mf
              have HCE : Hid (RefCut Z pub t w3.heap.size tb w3 wE (.slice va vn vc) lo (⟨⟨1, pub, 0, 0, fr, t, sps, (its ++ [⟨ck, co, cb⟩])⟩, sa, sn, sc, a8, n8, c8⟩ : Pa) B l1 R2 PP TOT 1099511627776) := ⟨HME.out, HTI.out, HFW.out, .inl (.inr (by show 0 < n8; have := HN8.out; omega)), HLFN.out⟩
              by_cases hc1 : xc = 1
              · have hend := (HX3w.out).end_ hc1
                have hn1 : xn = 1 := hend.1
                have HEN := hend.2.2
                clear hend
                subst hc1 hn1
                go_wp2
                go_roundw
                case rel => exact ⟨la, ln, lc, l1, _, 0, 0, R2, va, vn, vc, lo, fr, sps, its ++ [⟨ck, co, cb⟩], sa, sn, sc, a8, n8, c8, B, rfl, rfl, rfl, by omega, by have := HN8.out; omega, HL, HEN _, HCE⟩
                case measure => simp [lenOf]
              · have htl := (HX3w.out).tail
                have hcz : ¬ (xc : Int) = 1 := by omega
                have HTL := htl
                clear htl
                go_wp2
                go_roundw
                case rel => exact ⟨la, ln, lc, l1, _, xn - 1, xc - 1, R2, va, vn, vc, lo, fr, sps, its ++ [⟨ck, co, cb⟩], sa, sn, sc, a8, n8, c8, B, rfl, rfl, rfl, by omega, by have := HN8.out; omega, HL, HTL, HCE⟩
                case measure => simp [lenOf]; omega
end Go.Proofs.YtidihfhgnjkmaaaGreat
