/- Proved: for every script and deed grapevinelaw15.StreamTells answers true and leaves its arguments as they were. No condition. -/
import Derived.Test.YtidihfhgnjkmaaaGreatLwQ
import Derived.Test.YtidihfhgnjkmaaaGreatLwE
import Derived.Test.YtidihfhgnjkmaaaGreatTsP
import Derived.Test.YtidihfhgnjkmaaaGreatSpX
import Derived.Test.YtidihfhgnjkmaaaGreatStL
import Derived.Test.YtidihfhgnjkmaaaGreatFrame
import Derived.BigRegion
namespace Go.Proofs.YtidihfhgnjkmaaaGreat
open Go.ChangeShapes Go.WideShapes Go.ChangeAt Go.RowKit
set_option maxRecDepth 100000
namespace streamTells

theorem tkH {P : Program} {ops : Array Oper} {Q : Exit → Act → World → Prop} {S : World → Prop} {md : Region.Mode} {oi : Oper} {v : Value} {fuel : Nat} {listed : Array Bool} {a : Act} {w : World} (i : Nat) (d : Option Nat) (hS : S w)
    (hv : ∀ w, S w → (execOp a.eval oi).run P w = .ok (.value v) w) (h : wpAnyH P md ops Q S fuel (listed.setIfInBounds i true) (a.put d v) w)
    (hi : ops[i]? = some oi := by rfl) (hd : oi.dst = d := by kernel_rfl) (hs : Region.noSelect ops = true := by kernel_rfl) (hf : Region.free md ops listed i = true := by kernel_rfl) (hr : (Region.ready md ops listed).contains i = true := by kernel_rfl)
    (hQ : ∀ c a w, Q (.panic c) (a.put d v) w → Q (.panic c) a w := by exact fun _ _ _ h => h) (hw : Region.wanted oi (yielded ops a.tmps) = true := by rfl) : wpAnyH P md ops Q S (fuel + 1) listed a w :=
  take_putH d hi hd hs hf hr hQ (.inl ⟨hw, hv⟩) hS h
theorem seen_item {X : List It} {lk : Int} (hr : RiseIt X) {q : It} (h : q ∈ seenX lk X) : getI (seenX lk X) q.tick = some q := by
  obtain ⟨h1, h2⟩ := List.mem_filter.1 h
  rw [seenX_get lk q.tick hr, getI_mem hr h1]
  simp only
  rw [if_pos h2]
set_option maxHeartbeats 16000000 in
theorem walk {w : World} {a : Option Addr} {n c : Nat} {l : List De} (hl : DesRd w a n l) (hn : n ≤ c ∧ c ≤ maxLen) (q : De) (hq : DeOk w q) :
    Calls Tryz.prog 4 #[.slice a n c, .agg #[.int .i64 q.do_, .int .i64 q.p.kind, .int .i64 q.p.pub, .int .i64 q.p.sub, .int .i64 q.p.n_, .int .i64 q.p.fr, .int .i64 q.p.to_, .slice q.sa q.sn q.sc, .slice q.ia q.im q.ic, .int .i64 q.t_, .int .i64 q.id, .int .u32 q.lk]] w fun e w' => e = .returned (.bool true) ∧ Below w.heap.size w w' := by
  have HLK : Hid (0 ≤ q.lk ∧ q.lk ≤ 4294967295) := hq.lb
  clear hq
  obtain ⟨dk, ⟨pk, pp, ps, pn, pf, pt, pl, pi⟩, sa0, sn0, sc0, ia0, im0, ic0, T0, id0, lk⟩ := q
  simp only at HLK ⊢
  obtain ⟨W1, HW1⟩ : ∃ W1, Hid (W1 = w.alloc (.cells #[.int .i64 dk, .int .i64 pk, .int .i64 pp, .int .i64 ps, .int .i64 pn, .int .i64 pf, .int .i64 pt, .slice sa0 sn0 sc0, .slice ia0 im0 ic0, .int .i64 T0, .int .i64 id0, .int .u32 lk] 36)) := ⟨_, rfl⟩
  have HX1 : Hid (Below w.heap.size w W1) := by (show Below _ _ _); rw [HW1.out]; exact below_new w _
  have HK1 : Hid (Bk W1 w.heap.size #[.int .i64 dk, .int .i64 pk, .int .i64 pp, .int .i64 ps, .int .i64 pn, .int .i64 pf, .int .i64 pt, .slice sa0 sn0 sc0, .slice ia0 im0 ic0, .int .i64 T0, .int .i64 id0, .int .u32 lk] 36) := by (show Bk _ _ _ _); rw [HW1.out]; exact Bk.new w _ _
  obtain ⟨db, HDB⟩ : ∃ db, Hid (db = w.heap.size) := ⟨_, rfl⟩
  have HK1 : Hid (Bk W1 db #[.int .i64 dk, .int .i64 pk, .int .i64 pp, .int .i64 ps, .int .i64 pn, .int .i64 pf, .int .i64 pt, .slice sa0 sn0 sc0, .slice ia0 im0 ic0, .int .i64 T0, .int .i64 id0, .int .u32 lk] 36) := by (show Bk _ _ _ _); rw [HDB.out]; exact HK1.out
  have HPL : Hid (Calls Tryz.prog 8 #[.slice a n c] W1 fun e w' => PlayTold W1 e w') := law_play (hl.below HX1.out) (Nat.le_trans hn.1 hn.2)
  clear hl hn
  go_enter Tryz.func4, Tryz.ntmps4
  go_upto_region 1 with fail
  rw [← HW1.out, ← HDB.out]
  go_wp2_with fail
  refine HPL.out.mono ?_
  rintro e w2 ⟨s, m, y, L, X, rfl, hd, hs, hb2⟩
  have HDU2 : Hid (Duo ZT w2 s m y L X) := hd
  have HX2 : Hid (Below w.heap.size w w2) := HX1.out.trans (hb2.mono HX1.out.size)
  have HK2 : Hid (Bk w2 db #[.int .i64 dk, .int .i64 pk, .int .i64 pp, .int .i64 ps, .int .i64 pn, .int .i64 pf, .int .i64 pt, .slice sa0 sn0 sc0, .slice ia0 im0 ic0, .int .i64 T0, .int .i64 id0, .int .u32 lk] 36) := HK1.out.stay hb2
  have e1 : w2.cell? ⟨db, 1, none⟩ = some (.int .i64 pk) := HK2.out.cell 1 rfl
  have e2 : w2.cell? ⟨db, 2, none⟩ = some (.int .i64 pp) := HK2.out.cell 2 rfl
  have e3 : w2.cell? ⟨db, 3, none⟩ = some (.int .i64 ps) := HK2.out.cell 3 rfl
  have e4 : w2.cell? ⟨db, 4, none⟩ = some (.int .i64 pn) := HK2.out.cell 4 rfl
  have e5 : w2.cell? ⟨db, 5, none⟩ = some (.int .i64 pf) := HK2.out.cell 5 rfl
  have e6 : w2.cell? ⟨db, 6, none⟩ = some (.int .i64 pt) := HK2.out.cell 6 rfl
  have e7 : w2.cell? ⟨db, 7, none⟩ = some (.slice sa0 sn0 sc0) := HK2.out.cell 7 rfl
  have e8 : w2.cell? ⟨db, 8, none⟩ = some (.slice ia0 im0 ic0) := HK2.out.cell 8 rfl
  obtain ⟨W3, HW3⟩ : ∃ W3, Hid (W3 = w2.alloc (.cells #[.int .i64 pk, .int .i64 pp, .int .i64 ps, .int .i64 pn, .int .i64 pf, .int .i64 pt, .slice sa0 sn0 sc0, .slice ia0 im0 ic0] 33)) := ⟨_, rfl⟩
  obtain ⟨tb, HTB⟩ : ∃ tb, Hid (tb = w2.heap.size) := ⟨_, rfl⟩
  have HB3 : Hid (Below w2.heap.size w2 W3) := by (show Below _ _ _); rw [HW3.out]; exact below_new w2 _
  have HT3 : Hid (Bk W3 tb #[.int .i64 pk, .int .i64 pp, .int .i64 ps, .int .i64 pn, .int .i64 pf, .int .i64 pt, .slice sa0 sn0 sc0, .slice ia0 im0 ic0] 33) := by (show Bk _ _ _ _); rw [HW3.out, HTB.out]; exact Bk.new w2 _ _
  have HK3 : Hid (Bk W3 db #[.int .i64 dk, .int .i64 pk, .int .i64 pp, .int .i64 ps, .int .i64 pn, .int .i64 pf, .int .i64 pt, .slice sa0 sn0 sc0, .slice ia0 im0 ic0, .int .i64 T0, .int .i64 id0, .int .u32 lk] 36) := HK2.out.stay HB3.out
  have HDU3 : Hid (Duo ZT W3 s m y L X) := HDU2.out.stay HB3.out
  have HX3 : Hid (Below w.heap.size w W3) := HX2.out.trans (HB3.out.mono HX2.out.size)
  clear hd hs hb2
  go_upto_region 5 with fail
  rw [← HW3.out, ← HTB.out]
  clear e1 e2 e3 e4 e5 e6 e7 e8
  have t1 : W3.cell? ⟨tb, 1, none⟩ = some (.int .i64 pp) := HT3.out.cell 1 rfl
  have t4 : W3.cell? ⟨tb, 4, none⟩ = some (.int .i64 pf) := HT3.out.cell 4 rfl
  have t5 : W3.cell? ⟨tb, 5, none⟩ = some (.int .i64 pt) := HT3.out.cell 5 rfl
  have e11 : W3.cell? ⟨db, 11, none⟩ = some (.int .u32 lk) := HK3.out.cell 11 rfl
  by_cases hm : mayT pp pf pt
  · have HMT : Hid (mayT pp pf pt) := hm
    have HTL : Hid (Calls Tryz.prog 10 #[.pointer (some ⟨s, 0, none⟩), .int .i64 pp, .int .i64 pf, .int .i64 pt, .int .u32 lk] W3 fun e w' => TellTold (fun k => W3.heap.size ≤ k) L X lk pp pf pt W3 e w') := st_Tell HDU3.out.imp hm
    clear hm
    go_wp2_with fail
    refine HTL.out.mono ?_
    rintro e w4 ⟨⟨va, vn, vc, l, P, rfl, hT, hP, hl⟩, hb4⟩
    have HT : Hid (Tells (fun k => W3.heap.size ≤ k) w4 W3.heap.size (.slice va vn vc) l) := hT
    have HP : Hid (PiecesOf L X lk pf pt P) := hP
    obtain ⟨TS, HTS⟩ : ∃ TS, Hid (tellsOf pp pf pt P = TS) := ⟨_, rfl⟩
    have HL : Hid (l.map Pa.p = TS) := hl.trans HTS.out
    have HLN : Hid (l.length = vn ∧ TS.length = vn) := ⟨hT.len.1, by rw [← HL.out, List.length_map]; exact hT.len.1⟩
    have hvn : vn ≤ 9223372036854775807 := by have := hT.len; unfold maxLen at this; omega
    have HB4 : Hid (Below W3.heap.size W3 w4) := hb4
    have HK4 : Hid (Bk w4 db #[.int .i64 dk, .int .i64 pk, .int .i64 pp, .int .i64 ps, .int .i64 pn, .int .i64 pf, .int .i64 pt, .slice sa0 sn0 sc0, .slice ia0 im0 ic0, .int .i64 T0, .int .i64 id0, .int .u32 lk] 36) := HK3.out.stay hb4
    have HT4 : Hid (Bk w4 tb #[.int .i64 pk, .int .i64 pp, .int .i64 ps, .int .i64 pn, .int .i64 pf, .int .i64 pt, .slice sa0 sn0 sc0, .slice ia0 im0 ic0] 33) := HT3.out.stay hb4
    have HDU4 : Hid (Duo ZT w4 s m y L X) := HDU3.out.stay hb4
    have HX4 : Hid (Below w.heap.size w w4) := HX3.out.trans (hb4.mono HX3.out.size)
    clear hT hP hl hb4 t1 t4 t5 e11
    go_wp2_with fail
    refine (st_New (Z := ZT) w4 (fun _ _ => trivial)).mono ?_
    rintro e w5 ⟨z, zm, rfl, hz, hzl, hb5⟩
    have HZ5 : Hid (Imp ZT w5 z zm [] []) := Imp.new_ hz
    have HZL : Hid (w4.heap.size ≤ z ∧ w4.heap.size ≤ zm) := hzl
    have HB5 : Hid (Below w4.heap.size w4 w5) := hb5
    have t4 : w5.cell? ⟨tb, 4, none⟩ = some (.int .i64 pf) := (HT4.out.stay hb5).cell 4 rfl
    clear hz hzl hb5
    have HMM : Hid ((0 ≤ pp ∧ pp ≤ 2) ∧ 1 ≤ pf ∧ pf ≤ pt ∧ pt ≤ 1099511627776) := HMT.out
    go_wp2
    go_loopw [12, 13, 14, 15] (fun t12 t13 _ _ wr => ∃ (i : Nat) (av : Int) (Lz : List Sp) (Xz : List It), t12 = .int .i64 av ∧ t13 = .int .i64 (i : Int) ∧ i ≤ vn ∧ Hid (av = atC pf TS i) ∧ Hid (Imp ZT wr z zm Lz Xz) ∧ Hid (Lrn (bodP P) (TS.take i).reverse (manyI (TS.take i)) Lz Xz) ∧ Hid (Below w4.heap.size w4 wr)) (fun _ t13 _ _ _ => vn - (intOf t13).toNat)
    case atStart => exact ⟨0, pf, [], [], rfl, rfl, Nat.zero_le _, (atC_zero pf TS).symm, HZ5, Lrn.none_ _, HB5⟩
    case round =>
      clear t4 HZ5 HB5
      obtain ⟨i, av, Lz, Xz, rfl, rfl, hi, HAV, HIM, HLR, HB⟩ := hrel
      obtain ⟨w6, rfl⟩ : ∃ w6, w6 = wr := ⟨wr, rfl⟩
      by_cases hlt : i < vn
      · have hlt' : (i : Int) < (vn : Int) := by omega
        have gi : (0 : Int) ≤ (i : Int) := by omega
        obtain ⟨q1, hq1⟩ : ∃ x, l[i]? = some x := ⟨l[i]'(by rw [HLN.out.1]; exact hlt), List.getElem?_eq_getElem _⟩
        have hqT : (tellsOf pp pf pt P)[i]? = some q1.p := by rw [HTS.out, ← HL.out, List.getElem?_map, hq1]; rfl
        obtain ⟨hok, hpub, hfr, hft, hnx, h1f, hto⟩ := told_at HMM.out HP.out HDU4.out.kn hqT
        rw [HTS.out] at hfr hnx
        rw [← HAV.out] at hfr
        have hfew : Xz.length ≤ 64 := by
          have h1 := HLR.out.few
          have h2 := (many_take hqT).1
          have h3 := (many_take hqT).2
          rw [HTS.out] at h2 h3
          have hne : P ≠ [] := by
            rintro rfl
            rw [tells_nil] at hqT
            simp at hqT
          obtain ⟨c1, c2, c3, c4⟩ := pieces_in HP.out HDU4.out.kn
          have h4 := (tells_ok HMM.out HP.out.right c1 c3 hne).many
          rw [HTS.out] at h4
          have h5 := HDU4.out.few
          omega
        obtain ⟨L1, hj⟩ := joins_ex HLR.out.kn.right hok.right
        have HL1 : Hid (Lrn (bodP P) (TS.take (i + 1)).reverse (manyI (TS.take (i + 1))) L1 (learnX L1 Xz q1.p)) := by
          have h1 := HLR.out
          have := Lrn.step HMM.out HP.out HDU4.out.kn HDU4.out.few hqT (by rw [HTS.out]; exact h1) hj
          rw [HTS.out] at this
          exact this
        have HRD : Hid (∀ W, Below w4.heap.size w4 W → PcRd W q1.p q1.sa q1.sn q1.sc q1.ia q1.im q1.ic) := fun W hW => ((HT.out.below hW).each q1 (List.mem_of_getElem? hq1)).rd (fun k hk => hk)
        have HLE : Hid (Calls Tryz.prog 12 #[.pointer (some ⟨z, 0, none⟩), q1.p.val q1.sa q1.sn q1.sc q1.ia q1.im q1.ic] w6 fun e w' => LearnTo ZT z zm Lz L1 Xz q1.p w6 e w') := st_LearnG HIM.out HLR.out.kn hfew hok hj (HRD.out _ HB.out)
        have HCH : Hid (chk q1.p = 0) := hok.chk
        obtain ⟨g, rfl, hg, hgc⟩ := HT.out.spot hq1
        obtain ⟨⟨k1, pp1, s1, n1, fr1, to1, l1, it1⟩, sa1, sn1, sc1, ia1, im1, ic1⟩ := q1
        simp only at hpub hfr hft hnx h1f hto HL1 HRD HLE HCH
        unfold Pc.val at HLE
        simp only at HLE
        subst hpub hfr
        have HSW : Hid (∀ W, Below w4.heap.size w4 W → W.cell? ⟨g, i * 8, none⟩ = some (.int .i64 k1) ∧ W.cell? ⟨g, i * 8 + 1, none⟩ = some (.int .i64 pp1) ∧ W.cell? ⟨g, i * 8 + 2, none⟩ = some (.int .i64 s1) ∧ W.cell? ⟨g, i * 8 + 3, none⟩ = some (.int .i64 n1) ∧ W.cell? ⟨g, i * 8 + 4, none⟩ = some (.int .i64 fr1) ∧ W.cell? ⟨g, i * 8 + 5, none⟩ = some (.int .i64 to1) ∧ W.cell? ⟨g, i * 8 + 6, none⟩ = some (.slice sa1 sn1 sc1) ∧ W.cell? ⟨g, i * 8 + 7, none⟩ = some (.slice ia1 im1 ic1) ∧ W.cell? ⟨tb, 1, none⟩ = some (.int .i64 pp1)) := fun W hW => by
          have hcc : ∀ j, j < 8 → W.cell? ⟨g, i * 8 + j, none⟩ = (pacel (⟨⟨k1, pp1, s1, n1, fr1, to1, l1, it1⟩, sa1, sn1, sc1, ia1, im1, ic1⟩ : Pa))[j]? := fun j hj => by rw [hW.cell (p := ⟨g, i * 8 + j, none⟩) hg, ← hgc j hj, Nat.zero_add]
          exact ⟨hcc 0 (by omega), hcc 1 (by omega), hcc 2 (by omega), hcc 3 (by omega), hcc 4 (by omega), hcc 5 (by omega), hcc 6 (by omega), hcc 7 (by omega), (HT4.out.stay hW).cell 1 rfl⟩
        have HNX : Hid (to1 + 1 = atC pf TS (i + 1)) := hnx.symm
        have kl : ¬ to1 < fr1 := by omega
        have kl2 : decide (to1 < fr1) = false := decide_eq_false kl
        have kf : (fr1 != fr1) = false := by simp
        have kp : (pp1 != pp1) = false := by simp
        have hw1 : IntKind.i64.wrap (to1 + 1) = to1 + 1 := i64_in _ ⟨by omega, by omega⟩
        have HTO : Hid (fr1 ≤ to1 ∧ to1 ≤ 1099511627776) := ⟨hft, hto⟩
        obtain ⟨r0, r1, r2, r3, r4, r5, r6, r7, _⟩ := HSW.out _ HB.out
        clear hq1 hqT hok hnx hft h1f hto hfew hj hg hgc
        go_wp2_with fail
        refine HLE.out.mono ?_
        rintro e w7 ⟨⟨r, rfl, _⟩, him, htw⟩
        have HIM7 : Hid (Imp ZT w7 z zm L1 (learnX L1 Xz ⟨k1, pp1, s1, n1, fr1, to1, l1, it1⟩)) := him
        have HB7 : Hid (Below w4.heap.size w4 w7) := HB.out.trans ((Tri.of_imp (Z := ZT) z htw).below HZL.out.1 HZL.out.2 HZL.out.1 HB.out.size)
        clear him htw r0 r1 r2 r3 r4 r5 r6 r7
        go_upto_region 14 with fail
        refine wp_region_held_drew (S := fun w' => w'.cell? ⟨g, i * 8, none⟩ = some (.int .i64 k1) ∧ w'.cell? ⟨g, i * 8 + 1, none⟩ = some (.int .i64 pp1) ∧ w'.cell? ⟨g, i * 8 + 2, none⟩ = some (.int .i64 s1) ∧ w'.cell? ⟨g, i * 8 + 3, none⟩ = some (.int .i64 n1) ∧ w'.cell? ⟨g, i * 8 + 4, none⟩ = some (.int .i64 fr1) ∧ w'.cell? ⟨g, i * 8 + 5, none⟩ = some (.int .i64 to1) ∧ w'.cell? ⟨g, i * 8 + 6, none⟩ = some (.slice sa1 sn1 sc1) ∧ w'.cell? ⟨g, i * 8 + 7, none⟩ = some (.slice ia1 im1 ic1) ∧ w'.cell? ⟨tb, 1, none⟩ = some (.int .i64 pp1)) (by kernel_rfl) (HSW.out _ (HB7.out.trans (((Below.refl _ _).drew).mono HB7.out.size))) (fun hHeld => ?_)
        obtain ⟨wd, HWD⟩ : ∃ W, Hid (W = w7.drew) := ⟨_, rfl⟩
        rw [← HWD.out] at hHeld ⊢
        have HBD : Hid (Below w7.heap.size w7 wd) := by (show Below _ _ _); rw [HWD.out]; exact (Below.refl _ _).drew
        have HBDX : Hid (Below w4.heap.size w4 wd) := HB7.out.trans (HBD.out.mono HB7.out.size)
        have HCK : Hid (Calls Tryz.prog 13 #[.agg #[.int .i64 k1, .int .i64 pp1, .int .i64 s1, .int .i64 n1, .int .i64 fr1, .int .i64 to1, .slice sa1 sn1 sc1, .slice ia1 im1 ic1]] wd fun e w' => e = .returned (.int .i64 0) ∧ Below wd.heap.size wd w') := by
          have := pc_Check ⟨k1, pp1, s1, n1, fr1, to1, l1, it1⟩ sa1 sn1 sc1 ia1 im1 ic1 wd (HRD.out _ HBDX.out)
          rw [HCH.out] at this
          exact this
        refine tkH 0 (some 71) (v := ?_) hHeld ?_ ?_
        rotate_left
        · (intro wS hSw; obtain ⟨z0, z1, z2, z3, z4, z5, z6, z7, z8⟩ := hSw; go_simp; try with_reducible rfl)
        try simp only [Act.put, List.setIfInBounds_toArray, List.set_cons_zero, List.set_cons_succ]
        refine tkH 1 (some 72) (v := ?_) hHeld ?_ ?_
        rotate_left
        · (intro wS hSw; obtain ⟨z0, z1, z2, z3, z4, z5, z6, z7, z8⟩ := hSw; go_simp; try with_reducible rfl)
        try simp only [Act.put, List.setIfInBounds_toArray, List.set_cons_zero, List.set_cons_succ]
        refine tkH 2 (some 73) (v := ?_) hHeld ?_ ?_
        rotate_left
        · (intro wS hSw; obtain ⟨z0, z1, z2, z3, z4, z5, z6, z7, z8⟩ := hSw; go_simp; try with_reducible rfl)
        try simp only [Act.put, List.setIfInBounds_toArray, List.set_cons_zero, List.set_cons_succ]
        refine tkH 3 (some 74) (v := ?_) hHeld ?_ ?_
        rotate_left
        · (intro wS hSw; obtain ⟨z0, z1, z2, z3, z4, z5, z6, z7, z8⟩ := hSw; go_simp; try with_reducible rfl)
        try simp only [Act.put, List.setIfInBounds_toArray, List.set_cons_zero, List.set_cons_succ]
        refine tkH 4 (some 75) (v := ?_) hHeld ?_ ?_
        rotate_left
        · (intro wS hSw; obtain ⟨z0, z1, z2, z3, z4, z5, z6, z7, z8⟩ := hSw; go_simp; try with_reducible rfl)
        try simp only [Act.put, List.setIfInBounds_toArray, List.set_cons_zero, List.set_cons_succ]
        refine tkH 5 (some 76) (v := ?_) hHeld ?_ ?_
        rotate_left
        · (intro wS hSw; obtain ⟨z0, z1, z2, z3, z4, z5, z6, z7, z8⟩ := hSw; go_simp; try with_reducible rfl)
        try simp only [Act.put, List.setIfInBounds_toArray, List.set_cons_zero, List.set_cons_succ]
        refine tkH 6 (some 77) (v := ?_) hHeld ?_ ?_
        rotate_left
        · (intro wS hSw; obtain ⟨z0, z1, z2, z3, z4, z5, z6, z7, z8⟩ := hSw; go_simp; try with_reducible rfl)
        try simp only [Act.put, List.setIfInBounds_toArray, List.set_cons_zero, List.set_cons_succ]
        refine wpAnyH_ready (rs := [7]) (by kernel_rfl) (by simp) ?_
        refine AllReadyH.cons rfl (fun K hK => ?_) AllReadyH.nil
        go_simp
        refine HCK.out.mono ?_
        rintro e w8 ⟨rfl, hb8⟩
        have HB8 : Hid (Below w4.heap.size w4 w8) := HBDX.out.trans (hb8.mono HBDX.out.size)
        have HIM8 : Hid (Imp ZT w8 z zm L1 (learnX L1 Xz ⟨k1, pp1, s1, n1, fr1, to1, l1, it1⟩)) := (HIM7.out.stay HBD.out).stay hb8
        have hH8 := HSW.out _ HB8.out
        clear hb8 hHeld
        refine hK.out _ _ hH8 (fun _ => ?_)
        clear hK K
        try simp only [Act.put, List.getElem_toArray, List.getElem_cons_succ, List.getElem_cons_zero, List.setIfInBounds_toArray, List.set_cons_zero, List.set_cons_succ]
        refine tkH 8 (some 79) (v := ?_) hH8 ?_ ?_
        rotate_left
        · (intro wS hSw; obtain ⟨z0, z1, z2, z3, z4, z5, z6, z7, z8⟩ := hSw; go_simp; try with_reducible rfl)
        try simp only [Act.put, List.setIfInBounds_toArray, List.set_cons_zero, List.set_cons_succ]
        refine tkH 9 (some 80) (v := ?_) hH8 ?_ ?_
        rotate_left
        · (intro wS hSw; obtain ⟨z0, z1, z2, z3, z4, z5, z6, z7, z8⟩ := hSw; go_simp; try with_reducible rfl)
        try simp only [Act.put, List.setIfInBounds_toArray, List.set_cons_zero, List.set_cons_succ]
        refine tkH 10 (some 81) (v := ?_) hH8 ?_ ?_
        rotate_left
        · (intro wS hSw; obtain ⟨z0, z1, z2, z3, z4, z5, z6, z7, z8⟩ := hSw; go_simp; try with_reducible rfl)
        try simp only [Act.put, List.setIfInBounds_toArray, List.set_cons_zero, List.set_cons_succ]
        refine tkH 11 (some 82) (v := ?_) hH8 ?_ ?_
        rotate_left
        · (intro wS hSw; obtain ⟨z0, z1, z2, z3, z4, z5, z6, z7, z8⟩ := hSw; go_simp; try with_reducible rfl)
        try simp only [Act.put, List.setIfInBounds_toArray, List.set_cons_zero, List.set_cons_succ]
        refine tkH 12 (some 83) (v := ?_) hH8 ?_ ?_
        rotate_left
        · (intro wS hSw; obtain ⟨z0, z1, z2, z3, z4, z5, z6, z7, z8⟩ := hSw; go_simp; try with_reducible rfl)
        try simp only [Act.put, List.setIfInBounds_toArray, List.set_cons_zero, List.set_cons_succ]
        refine tkH 13 (some 84) (v := ?_) hH8 ?_ ?_
        rotate_left
        · (intro wS hSw; obtain ⟨z0, z1, z2, z3, z4, z5, z6, z7, z8⟩ := hSw; go_simp; try with_reducible rfl)
        try simp only [Act.put, List.setIfInBounds_toArray, List.set_cons_zero, List.set_cons_succ]
        refine tkH 14 (some 85) (v := ?_) hH8 ?_ ?_
        rotate_left
        · (intro wS hSw; obtain ⟨z0, z1, z2, z3, z4, z5, z6, z7, z8⟩ := hSw; go_simp; try with_reducible rfl)
        try simp only [Act.put, List.setIfInBounds_toArray, List.set_cons_zero, List.set_cons_succ]
        refine tkH 15 (some 86) (v := ?_) hH8 ?_ ?_
        rotate_left
        · (intro wS hSw; obtain ⟨z0, z1, z2, z3, z4, z5, z6, z7, z8⟩ := hSw; go_simp; try with_reducible rfl)
        try simp only [Act.put, List.setIfInBounds_toArray, List.set_cons_zero, List.set_cons_succ]
        refine tkH 16 (some 87) (v := ?_) hH8 ?_ ?_
        rotate_left
        · (intro wS hSw; obtain ⟨z0, z1, z2, z3, z4, z5, z6, z7, z8⟩ := hSw; go_simp; try with_reducible rfl)
        try simp only [Act.put, List.setIfInBounds_toArray, List.set_cons_zero, List.set_cons_succ]
        refine tkH 17 (some 88) (v := ?_) hH8 ?_ ?_
        rotate_left
        · (intro wS hSw; obtain ⟨z0, z1, z2, z3, z4, z5, z6, z7, z8⟩ := hSw; go_simp; try with_reducible rfl)
        try simp only [Act.put, List.setIfInBounds_toArray, List.set_cons_zero, List.set_cons_succ]
        refine tkH 18 (some 89) (v := ?_) hH8 ?_ ?_
        rotate_left
        · (intro wS hSw; obtain ⟨z0, z1, z2, z3, z4, z5, z6, z7, z8⟩ := hSw; go_simp; try with_reducible rfl)
        try simp only [Act.put, List.setIfInBounds_toArray, List.set_cons_zero, List.set_cons_succ]
        refine tkH 19 (some 90) (v := ?_) hH8 ?_ ?_
        rotate_left
        · (intro wS hSw; obtain ⟨z0, z1, z2, z3, z4, z5, z6, z7, z8⟩ := hSw; go_simp; try with_reducible rfl)
        try simp only [Act.put, List.setIfInBounds_toArray, List.set_cons_zero, List.set_cons_succ]
        refine tkH 20 (some 91) (v := ?_) hH8 ?_ ?_
        rotate_left
        · (intro wS hSw; obtain ⟨z0, z1, z2, z3, z4, z5, z6, z7, z8⟩ := hSw; go_simp; try with_reducible rfl)
        try simp only [Act.put, List.setIfInBounds_toArray, List.set_cons_zero, List.set_cons_succ]
        refine tkH 21 (some 92) (v := ?_) hH8 ?_ ?_
        rotate_left
        · (intro wS hSw; obtain ⟨z0, z1, z2, z3, z4, z5, z6, z7, z8⟩ := hSw; go_simp; try with_reducible rfl)
        try simp only [Act.put, List.setIfInBounds_toArray, List.set_cons_zero, List.set_cons_succ]
        refine tkH 22 (some 93) (v := ?_) hH8 ?_ ?_
        rotate_left
        · (intro wS hSw; obtain ⟨z0, z1, z2, z3, z4, z5, z6, z7, z8⟩ := hSw; go_simp; try with_reducible rfl)
        try simp only [Act.put, List.setIfInBounds_toArray, List.set_cons_zero, List.set_cons_succ]
        refine tkH 23 (some 94) (v := ?_) hH8 ?_ ?_
        rotate_left
        · (intro wS hSw; obtain ⟨z0, z1, z2, z3, z4, z5, z6, z7, z8⟩ := hSw; go_simp; try with_reducible rfl)
        try simp only [Act.put, List.setIfInBounds_toArray, List.set_cons_zero, List.set_cons_succ]
        refine tkH 24 (some 95) (v := ?_) hH8 ?_ ?_
        rotate_left
        · (intro wS hSw; obtain ⟨z0, z1, z2, z3, z4, z5, z6, z7, z8⟩ := hSw; go_simp; try with_reducible rfl)
        try simp only [Act.put, List.setIfInBounds_toArray, List.set_cons_zero, List.set_cons_succ]
        refine tkH 25 (some 96) (v := ?_) hH8 ?_ ?_
        rotate_left
        · (intro wS hSw; obtain ⟨z0, z1, z2, z3, z4, z5, z6, z7, z8⟩ := hSw; go_simp; try with_reducible rfl)
        try simp only [Act.put, List.setIfInBounds_toArray, List.set_cons_zero, List.set_cons_succ]
        refine tkH 26 (some 97) (v := ?_) hH8 ?_ ?_
        rotate_left
        · (intro wS hSw; obtain ⟨z0, z1, z2, z3, z4, z5, z6, z7, z8⟩ := hSw; go_simp; try with_reducible rfl)
        try simp only [Act.put, List.setIfInBounds_toArray, List.set_cons_zero, List.set_cons_succ]
        refine tkH 27 (some 98) (v := ?_) hH8 ?_ ?_
        rotate_left
        · (intro wS hSw; obtain ⟨z0, z1, z2, z3, z4, z5, z6, z7, z8⟩ := hSw; go_simp; try with_reducible rfl)
        try simp only [Act.put, List.setIfInBounds_toArray, List.set_cons_zero, List.set_cons_succ]
        refine tkH 28 (some 99) (v := ?_) hH8 ?_ ?_
        rotate_left
        · (intro wS hSw; obtain ⟨z0, z1, z2, z3, z4, z5, z6, z7, z8⟩ := hSw; go_simp; try with_reducible rfl)
        try simp only [Act.put, List.setIfInBounds_toArray, List.set_cons_zero, List.set_cons_succ]
        refine tkH 29 (some 100) (v := ?_) hH8 ?_ ?_
        rotate_left
        · (intro wS hSw; obtain ⟨z0, z1, z2, z3, z4, z5, z6, z7, z8⟩ := hSw; go_simp; try with_reducible rfl)
        try simp only [Act.put, List.setIfInBounds_toArray, List.set_cons_zero, List.set_cons_succ]
        refine tkH 30 (some 101) (v := ?_) hH8 ?_ ?_
        rotate_left
        · (intro wS hSw; obtain ⟨z0, z1, z2, z3, z4, z5, z6, z7, z8⟩ := hSw; go_simp; try with_reducible rfl)
        try simp only [Act.put, List.setIfInBounds_toArray, List.set_cons_zero, List.set_cons_succ]
        refine tkH 31 (some 102) (v := ?_) hH8 ?_ ?_
        rotate_left
        · (intro wS hSw; obtain ⟨z0, z1, z2, z3, z4, z5, z6, z7, z8⟩ := hSw; go_simp; try with_reducible rfl)
        try simp only [Act.put, List.setIfInBounds_toArray, List.set_cons_zero, List.set_cons_succ]
        refine tkH 32 (some 103) (v := ?_) hH8 ?_ ?_
        rotate_left
        · (intro wS hSw; obtain ⟨z0, z1, z2, z3, z4, z5, z6, z7, z8⟩ := hSw; go_simp; try with_reducible rfl)
        try simp only [Act.put, List.setIfInBounds_toArray, List.set_cons_zero, List.set_cons_succ]
        refine tkH 33 (some 104) (v := ?_) hH8 ?_ ?_
        rotate_left
        · (intro wS hSw; obtain ⟨z0, z1, z2, z3, z4, z5, z6, z7, z8⟩ := hSw; go_simp; try with_reducible rfl)
        try simp only [Act.put, List.setIfInBounds_toArray, List.set_cons_zero, List.set_cons_succ]
        refine tkH 34 (some 105) (v := ?_) hH8 ?_ ?_
        rotate_left
        · (intro wS hSw; obtain ⟨z0, z1, z2, z3, z4, z5, z6, z7, z8⟩ := hSw; go_simp; try with_reducible rfl)
        try simp only [Act.put, List.setIfInBounds_toArray, List.set_cons_zero, List.set_cons_succ]
        refine tkH 35 (some 106) (v := ?_) hH8 ?_ ?_
        rotate_left
        · (intro wS hSw; obtain ⟨z0, z1, z2, z3, z4, z5, z6, z7, z8⟩ := hSw; go_simp; try with_reducible rfl)
        try simp only [Act.put, List.setIfInBounds_toArray, List.set_cons_zero, List.set_cons_succ]
        refine tkH 36 (some 107) (v := ?_) hH8 ?_ ?_
        rotate_left
        · (intro wS hSw; obtain ⟨z0, z1, z2, z3, z4, z5, z6, z7, z8⟩ := hSw; go_simp; try with_reducible rfl)
        try simp only [Act.put, List.setIfInBounds_toArray, List.set_cons_zero, List.set_cons_succ]
        refine tkH 37 (some 108) (v := ?_) hH8 ?_ ?_
        rotate_left
        · (intro wS hSw; obtain ⟨z0, z1, z2, z3, z4, z5, z6, z7, z8⟩ := hSw; go_simp; try with_reducible rfl)
        try simp only [Act.put, List.setIfInBounds_toArray, List.set_cons_zero, List.set_cons_succ]
        refine wpAnyH_done (by kernel_rfl) ?_ _
        have r5 : w8.cell? ⟨g, i * 8 + 5, none⟩ = some (.int .i64 to1) := hH8.2.2.2.2.2.1
        clear hH8
        go_wp2
        go_roundw
        case rel => exact ⟨i + 1, to1 + 1, L1, _, rfl, by go_num, by omega, HNX, HIM8, HL1, HB8⟩
        case measure => simp [intOf]; omega
      · have hnl : ¬ (i : Int) < (vn : Int) := by omega
        obtain rfl : i = vn := by omega
        have HEND := Lrn.end_ (n := i) (N := manyI (TS.take i)) (Lz := Lz) (Xz := Xz) HMM.out HP.out HDU4.out.kn (by rw [HTS.out]; exact HLN.out.2) (by rw [HTS.out]; exact HLR.out)
        have HEND : Hid ((∀ u, kk Lz Xz u = if pf ≤ u ∧ u ≤ pt then seeK L X lk u else 0) ∧ ∀ u, pf ≤ u → u ≤ pt → ∀ q, getI (seenX lk X) u = some q → getI Xz u = some q) := HEND
        have hcase : i = 0 ∨ (0 < (i : Int) ∧ av = pt + 1) := by
          rcases Nat.eq_zero_or_pos i with h | h
          · exact .inl h
          · refine .inr ⟨by omega, ?_⟩
            rw [HAV.out]
            have := told_end HMM.out HP.out HDU4.out.kn (by rw [HTS.out]; exact HLN.out.2) h
            rw [HTS.out] at this
            exact this
        have hw1 : IntKind.i64.wrap (pt + 1) = pt + 1 := i64_in _ ⟨by have := HMM.out; omega, by have := HMM.out; omega⟩
        have HT6 : Hid (Bk w6 tb #[.int .i64 pk, .int .i64 pp, .int .i64 ps, .int .i64 pn, .int .i64 pf, .int .i64 pt, .slice sa0 sn0 sc0, .slice ia0 im0 ic0] 33) := HT4.out.stay HB.out
        have HK6 : Hid (Bk w6 db #[.int .i64 dk, .int .i64 pk, .int .i64 pp, .int .i64 ps, .int .i64 pn, .int .i64 pf, .int .i64 pt, .slice sa0 sn0 sc0, .slice ia0 im0 ic0, .int .i64 T0, .int .i64 id0, .int .u32 lk] 36) := HK4.out.stay HB.out
        have HDU6 : Hid (Duo ZT w6 s m y L X) := HDU4.out.stay HB.out
        have HX6 : Hid (Below w.heap.size w w6) := HX4.out.trans (HB.out.mono HX4.out.size)
        have HZ6 : Hid (Imp ZT w6 z zm Lz Xz) := HIM.out
        clear HLR HB HIM HLN hlt hi HW1 HDB HPL HDU2 HK1 HK2 HK3 HK4 HT3 HT4 HDU3 HDU4 HX1 HX2 HX3 HX4 HB3 HB4 HTL HT HL HAV hnl
        have t5 : w6.cell? ⟨tb, 5, none⟩ = some (.int .i64 pt) := HT6.out.cell 5 rfl
        have e11 : w6.cell? ⟨db, 11, none⟩ = some (.int .u32 lk) := HK6.out.cell 11 rfl
        obtain ⟨R, la, ln, lc, xa, xn, xc, hst, hRX⟩ := HDU6.out.ref
        have HSE : Hid (Calls Tryz.prog 14 #[.pointer (some ⟨y, 0, none⟩), .int .u32 lk] w6 fun e w' => SeenTold ZT L R lk w6 e w') := ref_Seen hst (by rw [hRX]; exact HDU6.out.kn) (by have := Ref.short hst hRX HDU6.out.few; omega) HLK.out
        have HRX : Hid (R.map Prod.fst = X) := hRX
        clear hst hRX
        rcases hcase with rfl | ⟨hc1, rfl⟩ <;> (
        go_wp2_with fail
        refine HSE.out.mono ?_
        rintro e w7 ⟨z2, L2, la2, ln2, lc2, xa2, xn2, xc2, rfl, hse, hs2, hz2, hb7⟩
        rw [HRX.out] at hse
        have HSN : Hid (Seen L X lk L2) := hse
        have HS7 : Hid (Rst ZT w7 z2 L2 (seenR lk R) la2 ln2 lc2 xa2 xn2 xc2) := hs2
        have HRX2 : Hid ((seenR lk R).map Prod.fst = seenX lk X) := by (show _ = _); rw [seenR_map, HRX.out]
        have HKN2 : Hid (Kn L2 (seenX lk X)) := hse.kn HDU6.out.kn
        have hfew2 : xn2 ≤ 64 := Ref.short hs2 HRX2.out (Nat.le_trans (List.length_filter_le _ _) HDU6.out.few)
        have HXC : Hid (xn2 ≤ xc2 ∧ xc2 ≤ maxLen) := ⟨hs2.xl, hs2.xm⟩
        have HX7 : Hid (Below w.heap.size w w7) := HX6.out.trans (hb7.mono HX6.out.size)
        have HT7 : Hid (Bk w7 tb #[.int .i64 pk, .int .i64 pp, .int .i64 ps, .int .i64 pn, .int .i64 pf, .int .i64 pt, .slice sa0 sn0 sc0, .slice ia0 im0 ic0] 33) := HT6.out.stay hb7
        have HZ7 : Hid (Imp ZT w7 z zm Lz Xz) := HZ6.out.stay hb7
        have HSW : Hid (∀ W, Below w7.heap.size w7 W → W.cell? ⟨tb, 4, none⟩ = some (.int .i64 pf) ∧ W.cell? ⟨tb, 5, none⟩ = some (.int .i64 pt)) := fun W hW => ⟨(HT7.out.stay hW).cell 4 rfl, (HT7.out.stay hW).cell 5 rfl⟩
        have HMP : Hid (∀ W, Below w7.heap.size w7 W → Calls Tryz.prog 16 #[.pointer (some ⟨z2, 0, none⟩)] W fun e w' => MapTold W.heap.size L2 (seenX lk X) W e w') := fun W hW => by
          have := ref_Map (HS7.out.stay hW) (by rw [HRX2.out]; exact HKN2.out) (by omega)
          rw [HRX2.out] at this
          exact this
        clear hse hs2 hz2 hb7 t5 e11
        go_upto_region 20 with fail
        refine wp_region_held_drew (S := fun w' => w'.cell? ⟨tb, 4, none⟩ = some (.int .i64 pf) ∧ w'.cell? ⟨tb, 5, none⟩ = some (.int .i64 pt)) (by kernel_rfl) (HSW.out _ (Below.refl _ _).drew) (fun hHeld => ?_)
        obtain ⟨wd, HWD⟩ : ∃ W, Hid (W = w7.drew) := ⟨_, rfl⟩
        rw [← HWD.out] at hHeld ⊢
        have HBD : Hid (Below w7.heap.size w7 wd) := by (show Below _ _ _); rw [HWD.out]; exact (Below.refl _ _).drew
        have HMP2 := HMP.out wd HBD.out
        refine tkH 0 (some 130) (v := ?_) hHeld ?_ ?_
        rotate_left
        · (intro wS hSw; obtain ⟨z0, z1⟩ := hSw; go_simp; try with_reducible rfl)
        try simp only [Act.put, List.setIfInBounds_toArray, List.set_cons_zero, List.set_cons_succ]
        refine tkH 2 (some 132) (v := ?_) hHeld ?_ ?_
        rotate_left
        · (intro wS hSw; obtain ⟨z0, z1⟩ := hSw; go_simp; try with_reducible rfl)
        try simp only [Act.put, List.setIfInBounds_toArray, List.set_cons_zero, List.set_cons_succ]
        refine tkH 3 (some 133) (v := ?_) hHeld ?_ ?_
        rotate_left
        · (intro wS hSw; obtain ⟨z0, z1⟩ := hSw; go_simp; try with_reducible rfl)
        try simp only [Act.put, List.setIfInBounds_toArray, List.set_cons_zero, List.set_cons_succ]
        refine tkH 4 (some 134) (v := ?_) hHeld ?_ ?_
        rotate_left
        · (intro wS hSw; obtain ⟨z0, z1⟩ := hSw; go_simp; try with_reducible rfl)
        try simp only [Act.put, List.setIfInBounds_toArray, List.set_cons_zero, List.set_cons_succ]
        refine tkH 5 (some 135) (v := ?_) hHeld ?_ ?_
        rotate_left
        · (intro wS hSw; obtain ⟨z0, z1⟩ := hSw; go_simp; try with_reducible rfl)
        try simp only [Act.put, List.setIfInBounds_toArray, List.set_cons_zero, List.set_cons_succ]
        refine wpAnyH_ready (rs := [1]) (by kernel_rfl) (by simp) ?_
        refine AllReadyH.cons rfl (fun K hK => ?_) AllReadyH.nil
        go_simp
        refine HMP2.mono ?_
        rintro e w8 ⟨⟨a2, n2, c2, l2, rfl, hm2, hk2⟩, hb8⟩
        have HO2 : Hid (MapOk w8 a2 n2 c2 l2 ∧ ∀ u, atS l2 u = kk L2 (seenX lk X) u) := ⟨hm2, hk2⟩
        have HB8 : Hid (Below w7.heap.size w7 w8) := HBD.out.trans (hb8.mono HBD.out.size)
        have hH8 := HSW.out _ HB8.out
        have HKE : Hid (Calls Tryz.prog 15 #[.slice a2 n2 c2, .int .i64 pf, .int .i64 pt] w8 fun e w' => (∃ a3 n3 c3, e = .returned (.tuple #[.slice a3 n3 c3, .int .i64 0]) ∧ MapOk w' a3 n3 c3 (keepS l2 pf pt)) ∧ Below w8.heap.size w8 w') := by
          refine (ref_Keep a2 n2 c2 l2 pf pt w8 hm2.rd (by rw [← hm2.rd.size]; exact right_short hm2.right)).mono ?_
          rintro e w' ⟨h1, h2⟩
          rcases h1.out with ⟨h3, _⟩ | ⟨_, v, rfl, hv⟩
          · rw [(rightB_iff _ _).2 hm2.right, (mayB_iff _ _).2 HMM.out.2] at h3
            cases h3
          · obtain ⟨a3, c3, rfl, hle⟩ := hv.form
            exact ⟨⟨a3, _, c3, rfl, hv.rd, hle, hv.big.2, keep_right l2 Sp.zr Sp.zr pf pt hm2.right (Int.le_refl _) (fun _ => rfl)⟩, h2⟩
        clear hm2 hk2 hb8 hHeld HMP2
        refine hK.out _ _ hH8 (fun _ => ?_)
        clear hK K
        try simp only [Act.put, List.getElem_toArray, List.getElem_cons_succ, List.getElem_cons_zero, List.setIfInBounds_toArray, List.set_cons_zero, List.set_cons_succ]
        refine wpAnyH_ready (rs := [6]) (by kernel_rfl) (by simp) ?_
        refine AllReadyH.cons rfl (fun K hK => ?_) AllReadyH.nil
        go_simp
        refine HKE.out.mono ?_
        rintro e w9 ⟨⟨a3, n3, c3, rfl, hm3⟩, hb9⟩
        have HO3 : Hid (MapOk w9 a3 n3 c3 (keepS l2 pf pt)) := hm3
        have HB9 : Hid (Below w7.heap.size w7 w9) := HB8.out.trans (hb9.mono HB8.out.size)
        have hH9 := HSW.out _ HB9.out
        clear hm3 hb9 hH8
        refine hK.out _ _ hH9 (fun _ => ?_)
        clear hK K
        try simp only [Act.put, List.getElem_toArray, List.getElem_cons_succ, List.getElem_cons_zero, List.setIfInBounds_toArray, List.set_cons_zero, List.set_cons_succ]
        refine tkH 7 (some 129) (v := ?_) hH9 ?_ ?_
        rotate_left
        · (intro wS hSw; obtain ⟨z0, z1⟩ := hSw; go_simp; try with_reducible rfl)
        try simp only [Act.put, List.setIfInBounds_toArray, List.set_cons_zero, List.set_cons_succ]
        refine tkH 8 (some 137) (v := ?_) hH9 ?_ ?_
        rotate_left
        · (intro wS hSw; obtain ⟨z0, z1⟩ := hSw; go_simp; try with_reducible rfl)
        try simp only [Act.put, List.setIfInBounds_toArray, List.set_cons_zero, List.set_cons_succ]
        refine tkH 9 (some 138) (v := ?_) hH9 ?_ ?_
        rotate_left
        · (intro wS hSw; obtain ⟨z0, z1⟩ := hSw; go_simp; try with_reducible rfl)
        try simp only [Act.put, List.setIfInBounds_toArray, List.set_cons_zero, List.set_cons_succ]
        refine tkH 10 (some 17) (v := ?_) hH9 ?_ ?_
        rotate_left
        · (intro wS hSw; obtain ⟨z0, z1⟩ := hSw; go_simp; try with_reducible rfl)
        try simp only [Act.put, List.setIfInBounds_toArray, List.set_cons_zero, List.set_cons_succ]
        refine tkH 11 (some 18) (v := ?_) hH9 ?_ ?_
        rotate_left
        · (intro wS hSw; obtain ⟨z0, z1⟩ := hSw; go_simp; try with_reducible rfl)
        try simp only [Act.put, List.setIfInBounds_toArray, List.set_cons_zero, List.set_cons_succ]
        refine wpAnyH_done (by kernel_rfl) ?_ _
        clear hH9
        have HZ9 : Hid (Imp ZT w9 z zm Lz Xz) := HZ7.out.stay HB9.out
        have HMZ : Hid (Calls Tryz.prog 18 #[.pointer (some ⟨z, 0, none⟩)] w9 fun e w' => MapTold w9.heap.size Lz Xz w9 e w') := imp_Map HZ9.out
        go_wp2_with fail
        refine HMZ.out.mono ?_
        rintro e w10 ⟨⟨a4, n4, c4, l4, rfl, hm4, hk4⟩, hb10⟩
        have HSA : Hid (Calls Tryz.prog 17 #[.slice a4 n4 c4, .slice a3 n3 c3] w10 fun e w' => e = .returned (.bool true) ∧ Below w10.heap.size w10 w') := ref_Same_ok hm4 (HO3.out.below hb10) (fun u => by
          rw [hk4, HEND.out.1 u, keep_at]
          by_cases h : pf ≤ u ∧ u ≤ pt
          · rw [if_pos h, if_pos h, HO2.out.2, (HSN.out.kk_ HDU6.out.kn u).1]
          · rw [if_neg h, if_neg h])
        have HB10 : Hid (Below w7.heap.size w7 w10) := HB9.out.trans (hb10.mono HB9.out.size)
        clear hm4 hk4 hb10
        go_wp2_with fail
        refine HSA.out.mono ?_
        rintro e w11 ⟨rfl, hb11⟩
        have HB11 : Hid (Below w7.heap.size w7 w11) := HB10.out.trans (hb11.mono HB10.out.size)
        clear hb11
        go_wp2
        go_loopw [19, 20, 21] (fun t19 _ _ wr => ∃ i : Nat, t19 = .int .i64 (i : Int) ∧ i ≤ xn2 ∧ Hid (Below w7.heap.size w7 wr)) (fun t19 _ _ _ => xn2 - (intOf t19).toNat)
        case atStart => exact ⟨0, rfl, Nat.zero_le _, HB11⟩
        case round =>
          clear HB8 HB9 HB10 HB11 HMP HMZ HSA HKE HZ9 HO2 HO3 HBD HWD HT6 HK6 HX6 HZ6 HSE
          obtain ⟨i, rfl, hi, HB⟩ := hrel
          obtain ⟨w12, rfl⟩ : ∃ w12, w12 = wr := ⟨wr, rfl⟩
          have y1 : w12.cell? ⟨z2, 1, none⟩ = some (.slice xa2 xn2 xc2) := (HS7.out.stay HB.out).blk.cell 1 rfl
          by_cases hlt : i < xn2
          · have hlt' : (i : Int) < (xn2 : Int) := by omega
            have gi : (0 : Int) ≤ (i : Int) := by omega
            obtain ⟨t4, t5⟩ := HSW.out _ HB.out
            obtain ⟨x, hx⟩ : ∃ x, (seenR lk R)[i]? = some x := ⟨(seenR lk R)[i]'(by rw [HS7.out.its.size]; exact hlt), List.getElem?_eq_getElem _⟩
            obtain ⟨g, o, rfl, hg, hc⟩ : ∃ g o, xa2 = some ⟨g, o, none⟩ ∧ g < w7.heap.size ∧ ∀ (i : Nat) x, (seenR lk R)[i]? = some x → w7.cell? ⟨g, o + i * 3, none⟩ = some (.int .i64 x.1.tick) ∧ w7.cell? ⟨g, o + i * 3 + 1, none⟩ = some (.int .u32 x.1.for_) ∧ w7.cell? ⟨g, o + i * 3 + 2, none⟩ = some (.slice x.2.1 x.2.2.1 x.2.2.2) := by
              rcases HS7.out.its.cells with h0 | ⟨g, o, ha, hg, _, hc⟩
              · rw [h0] at hx; cases hx
              · exact ⟨g, o, ha, hg, hc⟩
            have hm : x.1 ∈ seenX lk X := by rw [← HRX2.out]; exact List.mem_map.2 ⟨x, List.mem_of_getElem? hx, rfl⟩
            have x0 : w12.cell? ⟨g, o + i * 3, none⟩ = some (.int .i64 x.1.tick) := by rw [HB.out.cell (p := ⟨g, o + i * 3, none⟩) hg]; exact (hc i x hx).1
            by_cases h1 : pf ≤ x.1.tick
            · have hd1 : decide (pf ≤ x.1.tick) = true := decide_eq_true h1
              by_cases h2 : x.1.tick ≤ pt
              · have hd2 : decide (x.1.tick ≤ pt) = true := decide_eq_true h2
                have hgi := HEND.out.2 x.1.tick h1 h2 x.1 (seen_item HDU6.out.kn.rise hm)
                have hea := HKN2.out.each x.1 hm
                obtain ⟨N, HN⟩ : ∃ N, Hid (x.1.body.length = N) := ⟨_, rfl⟩
                have HIN : Hid (ItIn x.1) := by (show ItIn x.1); unfold ItIn; omega
                have HIT : Hid (∀ W, Below w7.heap.size w7 W → Calls Tryz.prog 19 #[.pointer (some ⟨z, 0, none⟩), .int .i64 x.1.tick] W fun e w' => (∃ ba bc, e = .returned (.tuple #[.agg #[.int .i64 x.1.tick, .int .u32 x.1.for_, .slice ba N bc], .bool true]) ∧ BdOk w' ba N bc x.1.body) ∧ Below W.heap.size W w') := fun W hW => by
                  have h1 := imp_Item (HZ7.out.stay hW) (t := x.1.tick) (by omega)
                  have h2 : itemX Xz x.1.tick = (x.1, true) := by unfold itemX; rw [hgi]
                  unfold ItemTo at h1
                  rw [h2] at h1
                  simp only at h1
                  rw [HN.out] at h1
                  exact h1
                have HCE : Hid (∀ W, Below w7.heap.size w7 W → ItsRd W (some ⟨g, o + i * 3, none⟩) 1 [x.1]) := fun W hW => by
                  have hc2 := hc i x hx
                  have hbo := (HS7.out.stay hW).its.bod x (List.mem_of_getElem? hx)
                  refine ⟨rfl, .inr ⟨g, o + i * 3, rfl, Nat.lt_of_lt_of_le hg hW.size, fun j z hz => ?_⟩, fun z hz => by rw [List.mem_singleton.1 hz]; exact HIN.out⟩
                  have hj0 : j = 0 := by have := (List.getElem?_eq_some_iff.1 hz).1; simp at this; exact this
                  subst hj0
                  simp only [List.getElem?_cons_zero, Option.some.injEq] at hz
                  subst hz
                  rw [hW.cell (p := ⟨g, o + i * 3 + 0 * 3, none⟩) hg, hW.cell (p := ⟨g, o + i * 3 + 0 * 3 + 1, none⟩) hg, hW.cell (p := ⟨g, o + i * 3 + 0 * 3 + 2, none⟩) hg]
                  exact ⟨hc2.1, hc2.2.1, _, _, _, hc2.2.2, hbo.rd, hbo.nil_, hbo.lc, by have := hbo.cm; omega⟩
                clear hx hc hg hm hgi hea h1 h2
                go_upto_region 26 with fail
                go_quiet (fail)
                generalize hnq : w12.drewN _ = wq
                have HBQ : Hid (Below w12.heap.size w12 wq) := by (show Below _ _ _); rw [← hnq]; exact ⟨rfl, rfl, rfl, Nat.le_refl _, fun _ _ => rfl⟩
                have HBQ7 : Hid (Below w7.heap.size w7 wq) := HB.out.trans (HBQ.out.mono HB.out.size)
                have HI2 := HIT.out wq HBQ7.out
                have y1 : wq.cell? ⟨z2, 1, none⟩ = some (.slice (some ⟨g, o, none⟩) xn2 xc2) := by rw [← hnq]; exact y1
                have x0 : wq.cell? ⟨g, o + i * 3, none⟩ = some (.int .i64 x.1.tick) := by rw [← hnq]; exact x0
                clear hnq t4 t5
                go_wp2_with fail
                refine HI2.mono ?_
                rintro e w13 ⟨⟨ba, bc, rfl, hbd⟩, hb13⟩
                obtain ⟨W7, HW7⟩ : ∃ W7, Hid (W7 = w13.alloc (.cells #[.int .i64 x.1.tick, .int .u32 x.1.for_, .slice ba N bc] 54)) := ⟨_, rfl⟩
                obtain ⟨b1, HB1⟩ : ∃ b1, Hid (b1 = w13.heap.size) := ⟨_, rfl⟩
                have HBE7 : Hid (Below wq.heap.size wq W7) := by (show Below _ _ _); rw [HW7.out]; exact hb13.trans ((below_new w13 _).mono hb13.size)
                have HV7 : Hid (Bk W7 b1 #[.int .i64 x.1.tick, .int .u32 x.1.for_, .slice ba N bc] 54) := by (show Bk _ _ _ _); rw [HW7.out, HB1.out]; exact Bk.new w13 _ _
                have HBD7 : Hid (BdOk W7 ba N bc x.1.body) := by (show BdOk _ _ _ _ _); rw [HW7.out]; exact hbd.below (below_new w13 _)
                have HXX7 : Hid (Below w7.heap.size w7 W7) := HBQ7.out.trans (HBE7.out.mono HBQ7.out.size)
                clear hbd hb13 y1 x0 hd1 hd2
                go_upto_region 28 with fail
                rw [← HW7.out, ← HB1.out]
                have HSV : Hid (∀ W, Below W7.heap.size W7 W → W.cell? ⟨b1, 0, none⟩ = some (.int .i64 x.1.tick) ∧ W.cell? ⟨b1, 1, none⟩ = some (.int .u32 x.1.for_) ∧ W.cell? ⟨b1, 2, none⟩ = some (.slice ba N bc) ∧ W.cell? ⟨z2, 1, none⟩ = some (.slice (some ⟨g, o, none⟩) xn2 xc2)) := fun W hW => ⟨(HV7.out.stay hW).cell 0 rfl, (HV7.out.stay hW).cell 1 rfl, (HV7.out.stay hW).cell 2 rfl, (HS7.out.stay (HXX7.out.trans (hW.mono HXX7.out.size))).blk.cell 1 rfl⟩
                have hxc : ¬ xc2 = i := by have := HXC.out; omega
                have hxc2 : i < xc2 := by have := HXC.out; omega
                have hxc3 : (i : Int) + 1 ≤ (xc2 : Int) := by omega
                have hxc4 : (i : Int) ≤ (i : Int) + 1 := by omega
                have hwi : IntKind.i64.wrap ((i : Int) + 1) = (i : Int) + 1 := i64_in _ ⟨by omega, by omega⟩
                refine wp_region_held_drew (S := fun w' => w'.cell? ⟨b1, 0, none⟩ = some (.int .i64 x.1.tick) ∧ w'.cell? ⟨b1, 1, none⟩ = some (.int .u32 x.1.for_) ∧ w'.cell? ⟨b1, 2, none⟩ = some (.slice ba N bc) ∧ w'.cell? ⟨z2, 1, none⟩ = some (.slice (some ⟨g, o, none⟩) xn2 xc2)) (by kernel_rfl) (HSV.out _ (Below.refl _ _).drew) (fun hHeld => ?_)
                obtain ⟨we, HWE⟩ : ∃ W, Hid (W = W7.drew) := ⟨_, rfl⟩
                rw [← HWE.out] at hHeld ⊢
                have HBE : Hid (Below W7.heap.size W7 we) := by (show Below _ _ _); rw [HWE.out]; exact (Below.refl _ _).drew
                refine tkH 0 (some 190) (v := ?_) hHeld ?_ ?_
                rotate_left
                · (intro wS hSw; obtain ⟨z0, z1, z2, z3⟩ := hSw; go_simp; try with_reducible rfl)
                try simp only [Act.put, List.setIfInBounds_toArray, List.set_cons_zero, List.set_cons_succ]
                refine tkH 1 (some 191) (v := ?_) hHeld ?_ ?_
                rotate_left
                · (intro wS hSw; obtain ⟨z0, z1, z2, z3⟩ := hSw; go_simp; try with_reducible rfl)
                try simp only [Act.put, List.setIfInBounds_toArray, List.set_cons_zero, List.set_cons_succ]
                refine tkH 2 (some 192) (v := ?_) hHeld ?_ ?_
                rotate_left
                · (intro wS hSw; obtain ⟨z0, z1, z2, z3⟩ := hSw; go_simp; try with_reducible rfl)
                try simp only [Act.put, List.setIfInBounds_toArray, List.set_cons_zero, List.set_cons_succ]
                refine tkH 3 (some 193) (v := ?_) hHeld ?_ ?_
                rotate_left
                · (intro wS hSw; obtain ⟨z0, z1, z2, z3⟩ := hSw; go_simp; try with_reducible rfl)
                try simp only [Act.put, List.setIfInBounds_toArray, List.set_cons_zero, List.set_cons_succ]
                refine tkH 5 (some 195) (v := ?_) hHeld ?_ ?_
                rotate_left
                · (intro wS hSw; obtain ⟨z0, z1, z2, z3⟩ := hSw; go_simp; try with_reducible rfl)
                try simp only [Act.put, List.setIfInBounds_toArray, List.set_cons_zero, List.set_cons_succ]
                refine tkH 6 (some 196) (v := ?_) hHeld ?_ ?_
                rotate_left
                · (intro wS hSw; obtain ⟨z0, z1, z2, z3⟩ := hSw; go_simp; try with_reducible rfl)
                try simp only [Act.put, List.setIfInBounds_toArray, List.set_cons_zero, List.set_cons_succ]
                refine tkH 7 (some 197) (v := ?_) hHeld ?_ ?_
                rotate_left
                · (intro wS hSw; obtain ⟨z0, z1, z2, z3⟩ := hSw; go_simp; try with_reducible rfl)
                try simp only [Act.put, List.setIfInBounds_toArray, List.set_cons_zero, List.set_cons_succ]
                refine tkH 8 (some 198) (v := ?_) hHeld ?_ ?_
                rotate_left
                · (intro wS hSw; obtain ⟨z0, z1, z2, z3⟩ := hSw; go_simp; try with_reducible rfl)
                try simp only [Act.put, List.setIfInBounds_toArray, List.set_cons_zero, List.set_cons_succ]
                refine tkH 9 (some 199) (v := ?_) hHeld ?_ ?_
                rotate_left
                · (intro wS hSw; obtain ⟨z0, z1, z2, z3⟩ := hSw; go_simp; try with_reducible rfl)
                try simp only [Act.put, List.setIfInBounds_toArray, List.set_cons_zero, List.set_cons_succ]
                refine tkH 10 (some 200) (v := ?_) hHeld ?_ ?_
                rotate_left
                · (intro wS hSw; obtain ⟨z0, z1, z2, z3⟩ := hSw; go_simp; try with_reducible rfl)
                try simp only [Act.put, List.setIfInBounds_toArray, List.set_cons_zero, List.set_cons_succ]
                refine tkH 11 (some 201) (v := ?_) hHeld ?_ ?_
                rotate_left
                · (intro wS hSw; obtain ⟨z0, z1, z2, z3⟩ := hSw; go_simp; try with_reducible rfl)
                try simp only [Act.put, List.setIfInBounds_toArray, List.set_cons_zero, List.set_cons_succ]
                refine tkH 12 (some 202) (v := ?_) hHeld ?_ ?_
                rotate_left
                · (intro wS hSw; obtain ⟨z0, z1, z2, z3⟩ := hSw; go_simp; try with_reducible rfl)
                try simp only [Act.put, List.setIfInBounds_toArray, List.set_cons_zero, List.set_cons_succ]
                obtain ⟨W8, HW8⟩ : ∃ W, Hid (W = we.alloc (.cells #[.int .i64 x.1.tick, .int .u32 x.1.for_, .slice ba N bc] 54)) := ⟨_, rfl⟩
                have HB8 : Hid (Below we.heap.size we W8) := by (show Below _ _ _); rw [HW8.out]; exact below_new _ _
                have HBE8 : Hid (Below W7.heap.size W7 W8) := HBE.out.trans (HB8.out.mono HBE.out.size)
                have HBX8 : Hid (Below w7.heap.size w7 W8) := HXX7.out.trans (HBE8.out.mono HXX7.out.size)
                have HA8 : Hid (ItsRd W8 (some ⟨we.heap.size, 0, none⟩) 1 [x.1]) := its_one (by rw [HW8.out]; exact Bk.new we _ _) (HBD7.out.below HBE8.out) HIN.out
                have hH8 : Hid (W8.cell? ⟨b1, 0, none⟩ = some (.int .i64 x.1.tick) ∧ W8.cell? ⟨b1, 1, none⟩ = some (.int .u32 x.1.for_) ∧ W8.cell? ⟨b1, 2, none⟩ = some (.slice ba N bc) ∧ W8.cell? ⟨z2, 1, none⟩ = some (.slice (some ⟨g, o, none⟩) xn2 xc2)) := HSV.out _ HBE8.out
                have HC8 : Hid (ItsRd W8 (some ⟨g, o + i * 3, none⟩) 1 [x.1]) := HCE.out W8 HBX8.out
                clear hHeld
                refine wpAnyH_ready (rs := [4]) (by kernel_rfl) (by simp) ?_
                refine AllReadyH.cons rfl (fun K hK => ?_) AllReadyH.nil
                go_simp
                rw [← HW8.out]
                refine hK.out _ _ hH8.out (fun _ => ?_)
                clear hK K
                try simp only [Act.put, List.getElem_toArray, List.getElem_cons_succ, List.getElem_cons_zero, List.setIfInBounds_toArray, List.set_cons_zero, List.set_cons_succ]
                refine wpAnyH_ready (rs := [13]) (by kernel_rfl) (by simp) ?_
                refine AllReadyH.cons rfl (fun K hK => ?_) AllReadyH.nil
                go_simp
                refine (ref_SameItems _ _ 1 _ _ [x.1] W8 HA8.out HC8.out (by decide)).mono ?_
                rintro e w9 ⟨rfl, hb9⟩
                have HB9 : Hid (Below w7.heap.size w7 w9) := HBX8.out.trans (hb9.mono HBX8.out.size)
                have hH9 : Hid (w9.cell? ⟨b1, 0, none⟩ = some (.int .i64 x.1.tick) ∧ w9.cell? ⟨b1, 1, none⟩ = some (.int .u32 x.1.for_) ∧ w9.cell? ⟨b1, 2, none⟩ = some (.slice ba N bc) ∧ w9.cell? ⟨z2, 1, none⟩ = some (.slice (some ⟨g, o, none⟩) xn2 xc2)) := HSV.out _ (HBE8.out.trans (hb9.mono HBE8.out.size))
                clear hb9
                refine hK.out _ _ hH9.out (fun _ => ?_)
                clear hK K
                try simp only [Act.put, List.getElem_toArray, List.getElem_cons_succ, List.getElem_cons_zero, List.setIfInBounds_toArray, List.set_cons_zero, List.set_cons_succ]
                refine tkH 14 (some 204) (v := ?_) hH9.out ?_ ?_
                rotate_left
                · (intro wS hSw; obtain ⟨z0, z1, z2, z3⟩ := hSw; go_simp; try with_reducible rfl)
                try simp only [Act.put, List.setIfInBounds_toArray, List.set_cons_zero, List.set_cons_succ]
                refine tkH 15 (some 205) (v := ?_) hH9.out ?_ ?_
                rotate_left
                · (intro wS hSw; obtain ⟨z0, z1, z2, z3⟩ := hSw; go_simp; try with_reducible rfl)
                try simp only [Act.put, List.setIfInBounds_toArray, List.set_cons_zero, List.set_cons_succ]
                refine wpAnyH_done (by kernel_rfl) ?_ _
                clear hxc hxc2 hxc3 hxc4 hwi
                go_wp2
                go_roundw
                case rel => exact ⟨i + 1, by go_num, by omega, HB9⟩
                case measure => simp [intOf]; omega
              · have hd2 : decide (x.1.tick ≤ pt) = false := decide_eq_false h2
                clear hx hc hg hm h1 h2
                go_upto_region 26 with fail
                go_quiet (fail)
                generalize hnq : w12.drewN _ = wq
                have HBq : Hid (Below w7.heap.size w7 wq) := by (show Below _ _ _); rw [← hnq]; exact HB.out.trans ((⟨rfl, rfl, rfl, Nat.le_refl _, fun _ _ => rfl⟩ : Below w12.heap.size w12 (w12.drewN _)).mono HB.out.size)
                clear hnq
                go_wp2
                go_roundw
                case rel => exact ⟨i + 1, by go_num, by omega, HBq⟩
                case measure => simp [intOf]; omega
            · have hd1 : decide (pf ≤ x.1.tick) = false := decide_eq_false h1
              clear hx hc hg hm h1
              go_upto_region 26 with fail
              go_quiet (fail)
              generalize hnq : w12.drewN _ = wq
              have HBq : Hid (Below w7.heap.size w7 wq) := by (show Below _ _ _); rw [← hnq]; exact HB.out.trans ((⟨rfl, rfl, rfl, Nat.le_refl _, fun _ _ => rfl⟩ : Below w12.heap.size w12 (w12.drewN _)).mono HB.out.size)
              clear hnq
              go_wp2
              go_roundw
              case rel => exact ⟨i + 1, by go_num, by omega, HBq⟩
              case measure => simp [intOf]; omega
          · have hnl : ¬ (i : Int) < (xn2 : Int) := by omega
            go_wp2_with fail
            refine (law_live15 w12).mono ?_
            rintro e w13 ⟨rfl, hb13⟩
            have HF : Hid (Below w.heap.size w w13) := HX7.out.trans ((HB.out.trans (hb13.mono HB.out.size)).mono HX7.out.size)
            clear hb13
            go_wp2
            go_ret
            exact ⟨rfl, HF.out⟩)
  · have HTL : Hid (Calls Tryz.prog 10 #[.pointer (some ⟨s, 0, none⟩), .int .i64 pp, .int .i64 pf, .int .i64 pt, .int .u32 lk] W3 fun e w' => e = .returned (.tuple #[.slice none 0 0, .int .i64 2]) ∧ Below W3.heap.size W3 w') := st_Tell_bad W3 s hm
    clear hm
    go_wp2_with fail
    refine HTL.out.mono ?_
    rintro e w4 ⟨rfl, hb4⟩
    have HX4 : Hid (Below w.heap.size w w4) := HX3.out.trans (hb4.mono HX3.out.size)
    clear hb4 t1 t4 t5 e11
    go_wp2_with fail
    refine (law_live15 w4).mono ?_
    rintro e w5 ⟨rfl, hb5⟩
    have HF : Hid (Below w.heap.size w w5) := HX4.out.trans (hb5.mono HX4.out.size)
    clear hb5
    go_wp2
    go_ret
    exact ⟨rfl, HF.out⟩

set_option maxRecDepth 100000 in
theorem contract (H : Type) (enc : TypeId × Value → H) (W : World) (base : Nat) (args : Array Value) (ds gs : List (DataW H)) (before : List MemPlace)
    (hval : ∀ (j : Nat) t v, Tryz.f4.params[j]? = some t → args[j]? = some v → Value.okWide Tryz.prog W .any base t v)
    (hW : DataW.Whole enc Tryz.prog Tryz.f4.params.toList Rows.streamTellsSpec.vars false W args.toList ds gs before) (hsz0 : (DataW.weightsEach Tryz.prog (Tryz.f4.params.toList ++ Rows.streamTellsSpec.plain.varTypes Tryz.prog) (ds ++ gs)).all (· ≤ reachBytes) = true) :
    Calls Tryz.prog 4 args W fun e W' => ∃ v, e = .returned v ∧ Rows.streamTellsSpec.post enc Tryz.prog Tryz.f4 false true false false W args v W' := by
  have hW' := hW
  obtain ⟨p, q, hA0, hV, rfl, hfz, hnd⟩ := hW
  have hA : DataW.TrodAll enc Tryz.prog W 0 (fun _ => true) true Tryz.f4.params.toList args.toList ds p := hA0
  have hK := hA
  have hsz := hsz0
  rw [Tryz.params4] at hA hval hsz
  obtain ⟨v0, vs0, d0, ds0, p0, q0, hargs, rfl, rfl, h0, r0⟩ := trodAll_cons hA
  obtain ⟨v1, vs1, d1, ds1, p1, q1, rfl, rfl, rfl, h1, r1⟩ := trodAll_cons r0
  obtain ⟨rfl, rfl, rfl⟩ := trodAll_nil r1
  obtain rfl : args = #[v0, v1] := by cases args; simp_all
  obtain ⟨rfl, rfl⟩ := trodVars_none hV
  have hw0 : ∀ y ∈ DataW.weights Tryz.prog 22 d0, y ≤ reachBytes := fun y hy => by have := List.all_eq_true.1 hsz _ (DataW.weights_mem_each (j := 0) rfl rfl y hy); simpa using this
  have hw1 : ∀ y ∈ DataW.weights Tryz.prog 36 d1, y ≤ reachBytes := fun y hy => by have := List.all_eq_true.1 hsz _ (DataW.weights_mem_each (j := 1) rfl rfl y hy); simpa using this
  obtain ⟨a0, len0, cap0, rfl⟩ := okWide_slice Tryz.underlying22 (hval 0 22 v0 rfl rfl)
  obtain ⟨fuel0, hf0⟩ := h0
  obtain ⟨l0, pr0, hn0⟩ := open_des hf0 hw0
  obtain ⟨dq1, rfl, ok1⟩ := open_de (hval 1 36 v1 rfl rfl) h1 hw1
  refine (walk pr0 hn0 dq1 ok1).mono fun e W' ⟨he, bel⟩ => ?_
  subst he
  exact ⟨_, rfl, _, _, _, [], _, [], hW', trodAll_mk1 (shut_bool Tryz.underlying4 _), trodAll_below laidOut bel _ _ _ _ (by kernel_rfl) hK, rfl, bel.frame _, fun h => by cases h⟩

set_option maxRecDepth 100000 in
theorem lifted (os : Os) (started : os.Started) (H : Type) (enc : TypeId × Value → H) :
    ReturnsInHanded {} Tryz.checked os 4 .any (Rows.streamTellsSpec.pre6 enc Tryz.prog Tryz.f4 Rows.streamTellsRow.domain false) (Rows.streamTellsSpec.post enc Tryz.prog Tryz.f4 false true false false) := by
  refine returnsInHanded_of_change_sized (C := Tryz.checked) own started (by kernel_rfl) Tryz.func4
    (ChangeSpec.witness6 (enc := enc) (C := Tryz.checked) false ⟨#[], #[.slice none 0 0, .agg #[.int .i64 0, .int .i64 0, .int .i64 0, .int .i64 0, .int .i64 0, .int .i64 0, .int .i64 0, .slice none 0 0, .slice none 0 0, .int .i64 0, .int .i64 0, .int .u32 0]], []⟩ 8 (by kernel_rfl) (by kernel_rfl) (by kernel_rfl) (by kernel_rfl)) ?_
  intro W base args ds gs before hval hW _ hsz _
  exact contract H enc W base args ds gs before hval hW hsz

theorem said : Rows.StreamTellsSaid :=
  OpenClaim.holds_of_wide 4 Tryz.f4 rfl rfl rfl rfl rfl rfl rfl ⟨rfl, rfl, rfl, rfl, rfl⟩ rfl rfl rfl rfl rfl (by kernel_rfl) Tryz.func4 (by kernel_rfl)
    (of_decide_eq_true (by kernel_rfl)) (by unfold Func.isWrapper; first | (rw [if_pos (by decide +kernel)]; kernel_rfl) | (rw [if_neg (by decide +kernel)]; exact ⟨rfl, rfl⟩))
    (fun os started H enc _ => lifted os started H enc)
end streamTells

theorem streamTells_holds : Rows.StreamTellsSaid := streamTells.said
end Go.Proofs.YtidihfhgnjkmaaaGreat

