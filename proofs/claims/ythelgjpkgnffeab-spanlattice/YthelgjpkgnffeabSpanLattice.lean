/- Proved: for every three maps grapevinelaw08.SpanLattice answers true and leaves its arguments as they were. No condition. -/
import Derived.Test.YthelgjpkgnffeabSpOk
namespace Go.Proofs.Ythelgjpkgnffeab
open Go.ChangeShapes Go.WideShapes Go.ChangeAt Go.RowKit
namespace spanLattice

set_option maxRecDepth 100000 in
set_option maxHeartbeats 1000000 in
theorem walk (a b c : Option Addr) (na ca nb cb nc cc : Nat) (la lb lc : List Sp) (w : World) (ha : SpsRd w a na la) (hb : SpsRd w b nb lb) (hc : SpsRd w c nc lc) (hca : na ≤ ca) (hcma : ca ≤ maxLen) (hcb : nb ≤ cb) (hcmb : cb ≤ maxLen) (hcc : nc ≤ cc) (hcmc : cc ≤ maxLen) :
    Calls Try.prog 6 #[.slice a na ca, .slice b nb cb, .slice c nc cc] w fun e w' => e = .returned (.bool true) ∧ Below w.heap.size w w' := by
  have HA : Hid (SpsRd w a na la ∧ na ≤ ca ∧ ca ≤ maxLen) := ⟨ha, hca, hcma⟩
  have HBB : Hid (SpsRd w b nb lb ∧ nb ≤ cb ∧ cb ≤ maxLen) := ⟨hb, hcb, hcmb⟩
  have HCC : Hid (SpsRd w c nc lc ∧ nc ≤ cc ∧ cc ≤ maxLen) := ⟨hc, hcc, hcmc⟩
  clear ha hb hc hca hcma hcb hcmb hcc hcmc
  go_enter Try.func6, Try.ntmps6
  have HB0 : Hid (Below w.heap.size w w) := Below.refl _ _
  go_wp2_with fail
  refine (span_Right a na ca la w (HA.out.1.below HB0.out) (Nat.le_trans HA.out.2.1 HA.out.2.2)).mono ?_
  rintro e w1 ⟨rfl, hb1⟩
  have HB1 : Hid (Below w.heap.size w w1) := HB0.out.trans (hb1.mono HB0.out.size)
  clear hb1
  cases hr1 : rightB Sp.zr la with
  | false =>
    clear hr1
    go_wp2_with fail
    refine (law_live _).mono ?_
    rintro e w9 ⟨rfl, hb9⟩
    have HB9 : Hid (Below w.heap.size w w9) := HB1.out.trans (hb9.mono HB1.out.size)
    clear hb9
    go_wp2
    go_ret
    exact ⟨rfl, HB9.out⟩
  | true =>
    have Ma : Hid (MapOk w a na ca la) := ⟨HA.out.1, HA.out.2.1, HA.out.2.2, (rightB_iff _ _).1 hr1⟩
    clear hr1 HA
    go_wp2_with fail
    refine (span_Right b nb cb lb w1 (HBB.out.1.below HB1.out) (Nat.le_trans HBB.out.2.1 HBB.out.2.2)).mono ?_
    rintro e w2 ⟨rfl, hb2⟩
    have HB2 : Hid (Below w.heap.size w w2) := HB1.out.trans (hb2.mono HB1.out.size)
    clear hb2
    cases hr2 : rightB Sp.zr lb with
    | false =>
      clear hr2
      go_wp2_with fail
      refine (law_live _).mono ?_
      rintro e w9 ⟨rfl, hb9⟩
      have HB9 : Hid (Below w.heap.size w w9) := HB2.out.trans (hb9.mono HB2.out.size)
      clear hb9
      go_wp2
      go_ret
      exact ⟨rfl, HB9.out⟩
    | true =>
      have Mb : Hid (MapOk w b nb cb lb) := ⟨HBB.out.1, HBB.out.2.1, HBB.out.2.2, (rightB_iff _ _).1 hr2⟩
      clear hr2 HBB
      go_wp2_with fail
      refine (span_Right c nc cc lc w2 (HCC.out.1.below HB2.out) (Nat.le_trans HCC.out.2.1 HCC.out.2.2)).mono ?_
      rintro e w3 ⟨rfl, hb3⟩
      have HB3 : Hid (Below w.heap.size w w3) := HB2.out.trans (hb3.mono HB2.out.size)
      clear hb3
      cases hr3 : rightB Sp.zr lc with
      | false =>
        clear hr3
        go_wp2_with fail
        refine (law_live _).mono ?_
        rintro e w9 ⟨rfl, hb9⟩
        have HB9 : Hid (Below w.heap.size w w9) := HB3.out.trans (hb9.mono HB3.out.size)
        clear hb9
        go_wp2
        go_ret
        exact ⟨rfl, HB9.out⟩
      | true =>
        have Mc : Hid (MapOk w c nc cc lc) := ⟨HCC.out.1, HCC.out.2.1, HCC.out.2.2, (rightB_iff _ _).1 hr3⟩
        clear hr3 HCC
        go_wp2_with fail
        refine (span_Join_ok (Ma.out.below HB3.out) (Mb.out.below HB3.out)).mono ?_
        rintro e w4 ⟨⟨ax, nx, cx, lx, rfl, Mx, Tx⟩, hb4⟩
        have HB4 : Hid (Below w.heap.size w w4) := HB3.out.trans (hb4.mono HB3.out.size)
        clear hb4
        go_wp2_with fail
        refine (span_Join_ok (Mb.out.below HB4.out) (Ma.out.below HB4.out)).mono ?_
        rintro e w5 ⟨⟨ay, ny, cy, ly, rfl, My, Ty⟩, hb5⟩
        have HB5 : Hid (Below w.heap.size w w5) := HB4.out.trans (hb5.mono HB4.out.size)
        have Mx' : Hid (MapOk w5 ax nx cx lx) := Mx.out.below hb5
        clear Mx
        have Mx := Mx'
        clear Mx'
        clear hb5
        go_wp2_with fail
        refine (span_Join_ok Mx.out (Mc.out.below HB5.out)).mono ?_
        rintro e w6 ⟨⟨ap, np, cp, lp, rfl, Mp, Tp⟩, hb6⟩
        have HB6 : Hid (Below w.heap.size w w6) := HB5.out.trans (hb6.mono HB5.out.size)
        have Mx' : Hid (MapOk w6 ax nx cx lx) := Mx.out.below hb6
        clear Mx
        have Mx := Mx'
        clear Mx'
        have My' : Hid (MapOk w6 ay ny cy ly) := My.out.below hb6
        clear My
        have My := My'
        clear My'
        clear hb6
        go_wp2_with fail
        refine (span_Join_ok (Mb.out.below HB6.out) (Mc.out.below HB6.out)).mono ?_
        rintro e w7 ⟨⟨az, nz, cz, lz, rfl, Mz, Tz⟩, hb7⟩
        have HB7 : Hid (Below w.heap.size w w7) := HB6.out.trans (hb7.mono HB6.out.size)
        have Mx' : Hid (MapOk w7 ax nx cx lx) := Mx.out.below hb7
        clear Mx
        have Mx := Mx'
        clear Mx'
        have My' : Hid (MapOk w7 ay ny cy ly) := My.out.below hb7
        clear My
        have My := My'
        clear My'
        have Mp' : Hid (MapOk w7 ap np cp lp) := Mp.out.below hb7
        clear Mp
        have Mp := Mp'
        clear Mp'
        clear hb7
        go_wp2_with fail
        refine (span_Join_ok (Ma.out.below HB7.out) Mz.out).mono ?_
        rintro e w8 ⟨⟨aq, nq, cq, lq, rfl, Mq, Tq⟩, hb8⟩
        have HB8 : Hid (Below w.heap.size w w8) := HB7.out.trans (hb8.mono HB7.out.size)
        have Mx' : Hid (MapOk w8 ax nx cx lx) := Mx.out.below hb8
        clear Mx
        have Mx := Mx'
        clear Mx'
        have My' : Hid (MapOk w8 ay ny cy ly) := My.out.below hb8
        clear My
        have My := My'
        clear My'
        have Mp' : Hid (MapOk w8 ap np cp lp) := Mp.out.below hb8
        clear Mp
        have Mp := Mp'
        clear Mp'
        have Mz' : Hid (MapOk w8 az nz cz lz) := Mz.out.below hb8
        clear Mz
        have Mz := Mz'
        clear Mz'
        clear hb8
        go_wp2_with fail
        refine (span_Join_ok (Ma.out.below HB8.out) (Ma.out.below HB8.out)).mono ?_
        rintro e w9 ⟨⟨aself, nself, cself, lself, rfl, Ms, Ts⟩, hb9⟩
        have HB9 : Hid (Below w.heap.size w w9) := HB8.out.trans (hb9.mono HB8.out.size)
        have Mx' : Hid (MapOk w9 ax nx cx lx) := Mx.out.below hb9
        clear Mx
        have Mx := Mx'
        clear Mx'
        have My' : Hid (MapOk w9 ay ny cy ly) := My.out.below hb9
        clear My
        have My := My'
        clear My'
        have Mp' : Hid (MapOk w9 ap np cp lp) := Mp.out.below hb9
        clear Mp
        have Mp := Mp'
        clear Mp'
        have Mz' : Hid (MapOk w9 az nz cz lz) := Mz.out.below hb9
        clear Mz
        have Mz := Mz'
        clear Mz'
        have Mq' : Hid (MapOk w9 aq nq cq lq) := Mq.out.below hb9
        clear Mq
        have Mq := Mq'
        clear Mq'
        clear hb9
        go_wp2_with fail
        refine (law_live _).mono ?_
        rintro e w10 ⟨rfl, hb10⟩
        have HB10 : Hid (Below w.heap.size w w10) := HB9.out.trans (hb10.mono HB9.out.size)
        have Mx' : Hid (MapOk w10 ax nx cx lx) := Mx.out.below hb10
        clear Mx
        have Mx := Mx'
        clear Mx'
        have My' : Hid (MapOk w10 ay ny cy ly) := My.out.below hb10
        clear My
        have My := My'
        clear My'
        have Mp' : Hid (MapOk w10 ap np cp lp) := Mp.out.below hb10
        clear Mp
        have Mp := Mp'
        clear Mp'
        have Mz' : Hid (MapOk w10 az nz cz lz) := Mz.out.below hb10
        clear Mz
        have Mz := Mz'
        clear Mz'
        have Mq' : Hid (MapOk w10 aq nq cq lq) := Mq.out.below hb10
        clear Mq
        have Mq := Mq'
        clear Mq'
        have Ms' : Hid (MapOk w10 aself nself cself lself) := Ms.out.below hb10
        clear Ms
        have Ms := Ms'
        clear Ms'
        clear hb10
        go_wp2_with fail
        refine (ref_Same_ok Mx.out My.out (fun t => by rw [Tx.out, Ty.out, Int.max_comm])).mono ?_
        rintro e w11 ⟨rfl, hb11⟩
        have HB11 : Hid (Below w.heap.size w w11) := HB10.out.trans (hb11.mono HB10.out.size)
        have Mx' : Hid (MapOk w11 ax nx cx lx) := Mx.out.below hb11
        clear Mx
        have Mx := Mx'
        clear Mx'
        have My' : Hid (MapOk w11 ay ny cy ly) := My.out.below hb11
        clear My
        have My := My'
        clear My'
        have Mp' : Hid (MapOk w11 ap np cp lp) := Mp.out.below hb11
        clear Mp
        have Mp := Mp'
        clear Mp'
        have Mz' : Hid (MapOk w11 az nz cz lz) := Mz.out.below hb11
        clear Mz
        have Mz := Mz'
        clear Mz'
        have Mq' : Hid (MapOk w11 aq nq cq lq) := Mq.out.below hb11
        clear Mq
        have Mq := Mq'
        clear Mq'
        have Ms' : Hid (MapOk w11 aself nself cself lself) := Ms.out.below hb11
        clear Ms
        have Ms := Ms'
        clear Ms'
        clear hb11
        go_wp2_with fail
        refine (ref_Same_ok Mp.out Mq.out (fun t => by rw [Tp.out, Tx.out, Tq.out, Tz.out, Int.max_assoc])).mono ?_
        rintro e w12 ⟨rfl, hb12⟩
        have HB12 : Hid (Below w.heap.size w w12) := HB11.out.trans (hb12.mono HB11.out.size)
        have Mx' : Hid (MapOk w12 ax nx cx lx) := Mx.out.below hb12
        clear Mx
        have Mx := Mx'
        clear Mx'
        have My' : Hid (MapOk w12 ay ny cy ly) := My.out.below hb12
        clear My
        have My := My'
        clear My'
        have Mp' : Hid (MapOk w12 ap np cp lp) := Mp.out.below hb12
        clear Mp
        have Mp := Mp'
        clear Mp'
        have Mz' : Hid (MapOk w12 az nz cz lz) := Mz.out.below hb12
        clear Mz
        have Mz := Mz'
        clear Mz'
        have Mq' : Hid (MapOk w12 aq nq cq lq) := Mq.out.below hb12
        clear Mq
        have Mq := Mq'
        clear Mq'
        have Ms' : Hid (MapOk w12 aself nself cself lself) := Ms.out.below hb12
        clear Ms
        have Ms := Ms'
        clear Ms'
        clear hb12
        go_wp2_with fail
        refine (ref_Same_ok Ms.out (Ma.out.below HB12.out) (fun t => by rw [Ts.out, Int.max_self])).mono ?_
        rintro e w13 ⟨rfl, hb13⟩
        have HB13 : Hid (Below w.heap.size w w13) := HB12.out.trans (hb13.mono HB12.out.size)
        have Mx' : Hid (MapOk w13 ax nx cx lx) := Mx.out.below hb13
        clear Mx
        have Mx := Mx'
        clear Mx'
        have My' : Hid (MapOk w13 ay ny cy ly) := My.out.below hb13
        clear My
        have My := My'
        clear My'
        have Mp' : Hid (MapOk w13 ap np cp lp) := Mp.out.below hb13
        clear Mp
        have Mp := Mp'
        clear Mp'
        have Mz' : Hid (MapOk w13 az nz cz lz) := Mz.out.below hb13
        clear Mz
        have Mz := Mz'
        clear Mz'
        have Mq' : Hid (MapOk w13 aq nq cq lq) := Mq.out.below hb13
        clear Mq
        have Mq := Mq'
        clear Mq'
        have Ms' : Hid (MapOk w13 aself nself cself lself) := Ms.out.below hb13
        clear Ms
        have Ms := Ms'
        clear Ms'
        clear hb13
        go_wp2
        go_ret
        exact ⟨rfl, HB13.out⟩

theorem contract (H : Type) (enc : TypeId × Value → H) (W : World) (base : Nat) (args : Array Value) (ds gs : List (DataW H)) (before : List MemPlace)
    (hval : ∀ (j : Nat) t v, Try.f6.params[j]? = some t → args[j]? = some v → Value.okWide Try.prog W .any base t v)
    (hW : DataW.Whole enc Try.prog Try.f6.params.toList Rows.spanLatticeSpec.vars false W args.toList ds gs before) :
    Calls Try.prog 6 args W fun e W' => ∃ v, e = .returned v ∧ Rows.spanLatticeSpec.post enc Try.prog Try.f6 false true false false W args v W' := by
  have hW' := hW
  obtain ⟨p, q, hA0, hV, rfl, hfz, hnd⟩ := hW
  have hA : DataW.TrodAll enc Try.prog W 0 (fun _ => true) true Try.f6.params.toList args.toList ds p := hA0
  have hK := hA
  rw [Try.params6] at hA hval
  obtain ⟨v0, vs0, d0, ds0, p0, q0, hargs, rfl, rfl, h0, r0⟩ := trodAll_cons hA
  obtain ⟨v1, vs1, d1, ds1, p1, q1, rfl, rfl, rfl, h1, r1⟩ := trodAll_cons r0
  obtain ⟨v2, vs2, d2, ds2, p2, q2, rfl, rfl, rfl, h2, r2⟩ := trodAll_cons r1
  obtain ⟨rfl, rfl, rfl⟩ := trodAll_nil r2
  obtain rfl : args = #[v0, v1, v2] := by cases args; simp_all
  obtain ⟨rfl, rfl⟩ := trodVars_none hV
  obtain ⟨a0, len0, cap0, rfl⟩ := okWide_slice Try.underlying22 (hval 0 22 v0 rfl rfl)
  obtain ⟨l0, rd0, lc0, cm0, ft0⟩ := open_spans h0
  obtain ⟨a1, len1, cap1, rfl⟩ := okWide_slice Try.underlying22 (hval 1 22 v1 rfl rfl)
  obtain ⟨l1, rd1, lc1, cm1, ft1⟩ := open_spans h1
  obtain ⟨a2, len2, cap2, rfl⟩ := okWide_slice Try.underlying22 (hval 2 22 v2 rfl rfl)
  obtain ⟨l2, rd2, lc2, cm2, ft2⟩ := open_spans h2
  refine (walk a0 a1 a2 len0 cap0 len1 cap1 len2 cap2 l0 l1 l2 W rd0 rd1 rd2 lc0 cm0 lc1 cm1 lc2 cm2).mono fun e W' ⟨he, bel⟩ => ?_
  subst he
  exact ⟨_, rfl, _, _, _, [], _, [], hW', trodAll_mk1 (shut_bool Try.underlying4 _), trodAll_below laidOut bel _ _ _ _ (by kernel_rfl) hK, rfl, bel.frame _, fun h => by cases h⟩

set_option maxRecDepth 100000 in
theorem lifted (os : Os) (started : os.Started) (H : Type) (enc : TypeId × Value → H) :
    ReturnsInHanded {} Try.checked os 6 .any (Rows.spanLatticeSpec.pre6 enc Try.prog Try.f6 Rows.spanLatticeRow.domain false) (Rows.spanLatticeSpec.post enc Try.prog Try.f6 false true false false) := by
  refine returnsInHanded_of_change (C := Try.checked) own started (by kernel_rfl) Try.func6
    (ChangeSpec.witness6 (enc := enc) (C := Try.checked) false ⟨#[], #[.slice none 0 0, .slice none 0 0, .slice none 0 0], []⟩ 8 (by kernel_rfl) (by kernel_rfl) (by kernel_rfl) (by kernel_rfl)) ?_
  intro W base args ds gs before hval hW _ _
  exact contract H enc W base args ds gs before hval hW

theorem said : Rows.SpanLatticeSaid :=
  OpenClaim.holds_of_wide 6 Try.f6 rfl rfl rfl rfl rfl rfl rfl ⟨rfl, rfl, rfl, rfl, rfl⟩ rfl rfl rfl rfl rfl (by kernel_rfl) Try.func6 (by kernel_rfl)
    (of_decide_eq_true (by kernel_rfl)) (by unfold Func.isWrapper; first | (rw [if_pos (by decide +kernel)]; kernel_rfl) | (rw [if_neg (by decide +kernel)]; exact ⟨rfl, rfl⟩))
    (fun os started H enc _ => lifted os started H enc)
end spanLattice

theorem spanLattice_holds : Rows.SpanLatticeSaid := spanLattice.said
end Go.Proofs.Ythelgjpkgnffeab

