/- Proved: for every two maps grapevinelaw08.SpanJoins answers true and leaves its arguments as they were. No condition. -/
import Derived.Test.YtcgjpkdpemlmbaaSpRefJ
import Derived.Test.YtcgjpkdpemlmbaaSpCopy
namespace Go.Proofs.Ytcgjpkdpemlmbaa
open Go.ChangeShapes Go.WideShapes Go.ChangeAt Go.RowKit
namespace spanJoins

set_option maxRecDepth 100000 in
set_option maxHeartbeats 2000000 in
theorem walk (a b : Option Addr) (na ca nb cb : Nat) (la lb : List Sp) (w : World) (ha : SpsRd w a na la) (hb : SpsRd w b nb lb) (hca : na ≤ ca) (hcma : ca ≤ maxLen) (hcb : nb ≤ cb) (hcmb : cb ≤ maxLen) (nca : a = none → ca = 0) (ncb : b = none → cb = 0) :
    Calls Try.prog 3 #[.slice a na ca, .slice b nb cb] w fun e w' => e = .returned (.bool true) ∧ Below w.heap.size w w' := by
  have HA : Hid (SpsRd w a na la) := ha
  have HBB : Hid (SpsRd w b nb lb) := hb
  have HCA : Hid (na ≤ ca ∧ ca ≤ maxLen) := ⟨hca, hcma⟩
  have HCB : Hid (nb ≤ cb ∧ cb ≤ maxLen) := ⟨hcb, hcmb⟩
  clear ha hb hca hcma hcb hcmb
  go_enter Try.func3, Try.ntmps3
  go_wp2_with fail
  refine (law_many a na ca w (Nat.le_trans HCA.out.1 HCA.out.2)).mono ?_
  rintro e w1 ⟨he, hw⟩
  subst he
  rw [hw]
  clear hw w1
  by_cases ha4 : 400 < na
  · rw [decide_eq_true ha4]
    go_wp2_with fail
    refine (law_live _).mono ?_
    rintro e w2 ⟨rfl, hb2⟩
    have HB2 : Hid (Below w.heap.size w w2) := hb2
    clear hb2
    go_wp2
    go_ret
    exact ⟨rfl, HB2.out⟩
  rw [decide_eq_false ha4]
  go_wp2_with fail
  refine (law_many b nb cb w (Nat.le_trans HCB.out.1 HCB.out.2)).mono ?_
  rintro e w1 ⟨he, hw⟩
  subst he
  rw [hw]
  clear hw w1
  by_cases hb4 : 400 < nb
  · rw [decide_eq_true hb4]
    go_wp2_with fail
    refine (law_live _).mono ?_
    rintro e w2 ⟨rfl, hb2⟩
    have HB2 : Hid (Below w.heap.size w w2) := hb2
    clear hb2
    go_wp2
    go_ret
    exact ⟨rfl, HB2.out⟩
  rw [decide_eq_false hb4]
  have HX0 : Hid (Below w.heap.size w (w.alloc (.cells #[] 42))) := below_new _ _
  have HE0 : Hid (Sps (w.alloc (.cells #[] 42)) w.heap.size (.slice (some ⟨w.heap.size, 0, none⟩) 0 0) []) := Sps.empty w
  have HR0 : Hid (SpsRd (w.alloc (.cells #[] 42)) a na la) := HA.out.below HX0.out
  go_wp2_with (at_builtin; refine wpList_append_sps rfl (.tmp 18) (.tmp 19) rfl w.heap.size (.slice (some ⟨w.heap.size, 0, none⟩) 0 0) [] rfl HE0.out a na ca la rfl HR0.out nca (by simp; omega) HX0.out.size ?_)
  intro vx w1 hox hg
  have HB1 : Hid (Below w.heap.size w w1) := HX0.out.trans (HE0.out.grown HX0.out.size hg)
  obtain ⟨ax, cx, rfl, hlx⟩ := hox.form
  have HX : Hid (Sps w1 w.heap.size (.slice ax na cx) la) := by
    have := hox
    rw [HA.out.size] at this
    exact this
  have hlax : la.length = na := HA.out.size
  rw [hlax] at hox hlx ⊢
  clear hox hg HE0 HR0 HX0 hlx hlax
  have HX0 : Hid (Below w1.heap.size w1 (w1.alloc (.cells #[] 42))) := below_new _ _
  have HE0 : Hid (Sps (w1.alloc (.cells #[] 42)) w1.heap.size (.slice (some ⟨w1.heap.size, 0, none⟩) 0 0) []) := Sps.empty w1
  have HR0 : Hid (SpsRd (w1.alloc (.cells #[] 42)) b nb lb) := (HBB.out.below HB1.out).below HX0.out
  go_wp2_with (at_builtin; refine wpList_append_sps rfl (.tmp 21) (.tmp 22) rfl w1.heap.size (.slice (some ⟨w1.heap.size, 0, none⟩) 0 0) [] rfl HE0.out b nb cb lb rfl HR0.out ncb (by simp; omega) HX0.out.size ?_)
  intro vy w2 hoy hg
  have HB12 : Hid (Below w1.heap.size w1 w2) := HX0.out.trans (HE0.out.grown HX0.out.size hg)
  have HB2 : Hid (Below w.heap.size w w2) := HB1.out.trans (HB12.out.mono HB1.out.size)
  obtain ⟨ay, cy, rfl, hly⟩ := hoy.form
  have HY : Hid (Sps w2 w1.heap.size (.slice ay nb cy) lb) := by
    have := hoy
    rw [HBB.out.size] at this
    exact this
  have HX2 : Hid (Sps w2 w.heap.size (.slice ax na cx) la) := HX.out.below HB12.out
  have hlay : lb.length = nb := HBB.out.size
  rw [hlay] at hoy hly ⊢
  clear hoy hg HE0 HR0 HX0 hly hlay HX HB12
  go_wp2_with fail
  refine (span_Join ax ay na cx nb cy la lb w2 HX2.out.rd HY.out.rd HX2.out.big.1 HX2.out.big.2 HY.out.big.1 HY.out.big.2).mono ?_
  rintro e w3 ⟨hj, hb3⟩
  have HB3 : Hid (Below w.heap.size w w3) := HB2.out.trans (hb3.mono HB2.out.size)
  have HX3 : Hid (Sps w3 w.heap.size (.slice ax na cx) la) := HX2.out.below hb3
  have HY3 : Hid (Sps w3 w1.heap.size (.slice ay nb cy) lb) := HY.out.below hb3
  obtain ⟨v3, e3, l3, rfl, HV3, HJ3⟩ : ∃ v3 e3 l3, e = .returned (.tuple #[v3, .int .i64 e3]) ∧ Hid (Sps w3 w2.heap.size v3 l3) ∧ Hid (((rightB Sp.zr la = false ∨ rightB Sp.zr lb = false) ∧ e3 = 2 ∧ l3 = []) ∨ (RightS Sp.zr la ∧ RightS Sp.zr lb ∧ e3 = 0 ∧ RightS Sp.zr l3 ∧ ∀ t, atS l3 t = max (atS la t) (atS lb t))) := by
    rcases hj.out with ⟨h1, rfl⟩ | ⟨h1, h2, v, l, rfl, h3, h4, h5⟩
    · exact ⟨_, 2, [], rfl, Sps.nil_ _ _, .inl ⟨h1, rfl, rfl⟩⟩
    · exact ⟨v, 0, l, rfl, h3, .inr ⟨h1, h2, rfl, h4, h5⟩⟩
  obtain ⟨a3, c3, rfl, _⟩ := HV3.out.form
  obtain ⟨n3, hn3⟩ : ∃ n3, n3 = l3.length := ⟨_, rfl⟩
  rw [← hn3] at HV3 ⊢
  clear hj hb3 HX2 HY hn3
  go_wp2_with fail
  refine (ref_Join a b na ca nb cb la lb w3 (HA.out.below HB3.out) (HBB.out.below HB3.out) (by omega) (by omega)).mono ?_
  rintro e w4 ⟨hj, hb4⟩
  have HB4 : Hid (Below w.heap.size w w4) := HB3.out.trans (hb4.mono HB3.out.size)
  have HX4 : Hid (Sps w4 w.heap.size (.slice ax na cx) la) := HX3.out.below hb4
  have HY4 : Hid (Sps w4 w1.heap.size (.slice ay nb cy) lb) := HY3.out.below hb4
  have HV4 : Hid (Sps w4 w2.heap.size (.slice a3 n3 c3) l3) := HV3.out.below hb4
  obtain ⟨v4, rfl, HM4⟩ : ∃ v4, e = .returned (.tuple #[v4, .int .i64 e3]) ∧ Hid (Sps w4 w3.heap.size v4 l3) := by
    rcases hj.out with ⟨h1, rfl⟩ | ⟨h1, h2, v, l, rfl, h3, h4, h5⟩
    · rcases HJ3.out with ⟨_, rfl, rfl⟩ | ⟨g1, g2, _⟩
      · exact ⟨_, rfl, Sps.nil_ _ _⟩
      · rw [← rightB_iff] at g1 g2
        rw [g1, g2] at h1
        simp at h1
    · rcases HJ3.out with ⟨g1, _⟩ | ⟨_, _, rfl, g4, g5⟩
      · rw [(rightB_iff _ _).2 h1, (rightB_iff _ _).2 h2] at g1
        simp at g1
      · obtain rfl : l = l3 := canonS _ _ _ _ h4 g4 fun u => by rw [h5, g5]
        exact ⟨v, rfl, h3⟩
  obtain ⟨a4, c4, rfl, _⟩ := HM4.out.form
  obtain ⟨n4, hn4⟩ : ∃ n4, n4 = l3.length := ⟨_, rfl⟩
  rw [← hn4] at HM4 ⊢
  clear hj hb4 HX3 HY3 HV3 hn4
  go_wp2_with fail
  refine (law_live _).mono ?_
  rintro e w5 ⟨rfl, hb5⟩
  have HB5 : Hid (Below w.heap.size w w5) := HB4.out.trans (hb5.mono HB4.out.size)
  have HX5 : Hid (Sps w5 w.heap.size (.slice ax na cx) la) := HX4.out.below hb5
  have HY5 : Hid (Sps w5 w1.heap.size (.slice ay nb cy) lb) := HY4.out.below hb5
  have HV5 : Hid (Sps w5 w2.heap.size (.slice a3 n3 c3) l3) := HV4.out.below hb5
  have HM5 : Hid (Sps w5 w3.heap.size (.slice a4 n4 c4) l3) := HM4.out.below hb5
  clear hb5 HX4 HY4 HV4 HM4
  go_wp2_with fail
  refine (ref_Same a3 a4 n3 c3 n4 c4 l3 l3 w5 HV5.out.rd HM5.out.rd (Nat.le_trans HV5.out.big.1 HV5.out.big.2)).mono ?_
  rw [sameB_refl]
  rintro e w6 ⟨rfl, hb6⟩
  have HB6 : Hid (Below w.heap.size w w6) := HB5.out.trans (hb6.mono HB5.out.size)
  have HX6 : Hid (Sps w6 w.heap.size (.slice ax na cx) la) := HX5.out.below hb6
  have HY6 : Hid (Sps w6 w1.heap.size (.slice ay nb cy) lb) := HY5.out.below hb6
  clear hb6 HX5 HY5 HV5 HM5
  go_wp2_with fail
  refine (ref_Same ax a na cx na ca la la w6 HX6.out.rd (HA.out.below HB6.out) (Nat.le_trans HX6.out.big.1 HX6.out.big.2)).mono ?_
  rw [sameB_refl]
  rintro e w7 ⟨rfl, hb7⟩
  have HB7 : Hid (Below w.heap.size w w7) := HB6.out.trans (hb7.mono HB6.out.size)
  have HY7 : Hid (Sps w7 w1.heap.size (.slice ay nb cy) lb) := HY6.out.below hb7
  clear hb7 HX6 HY6
  go_wp2_with fail
  refine (ref_Same ay b nb cy nb cb lb lb w7 HY7.out.rd (HBB.out.below HB7.out) (Nat.le_trans HY7.out.big.1 HY7.out.big.2)).mono ?_
  rw [sameB_refl]
  rintro e w8 ⟨rfl, hb8⟩
  have HB8 : Hid (Below w.heap.size w w8) := HB7.out.trans (hb8.mono HB7.out.size)
  clear hb8
  go_wp2
  go_ret
  exact ⟨rfl, HB8.out⟩

theorem contract (H : Type) (enc : TypeId × Value → H) (W : World) (base : Nat) (args : Array Value) (ds gs : List (DataW H)) (before : List MemPlace)
    (hval : ∀ (j : Nat) t v, Try.f3.params[j]? = some t → args[j]? = some v → Value.okWide Try.prog W .any base t v)
    (hW : DataW.Whole enc Try.prog Try.f3.params.toList Rows.spanJoinsSpec.vars false W args.toList ds gs before) :
    Calls Try.prog 3 args W fun e W' => ∃ v, e = .returned v ∧ Rows.spanJoinsSpec.post enc Try.prog Try.f3 false true false false W args v W' := by
  have hW' := hW
  obtain ⟨p, q, hA0, hV, rfl, hfz, hnd⟩ := hW
  have hA : DataW.TrodAll enc Try.prog W 0 (fun _ => true) true Try.f3.params.toList args.toList ds p := hA0
  have hK := hA
  rw [Try.params3] at hA hval
  obtain ⟨v0, vs0, d0, ds0, p0, q0, hargs, rfl, rfl, h0, r0⟩ := trodAll_cons hA
  obtain ⟨v1, vs1, d1, ds1, p1, q1, rfl, rfl, rfl, h1, r1⟩ := trodAll_cons r0
  obtain ⟨rfl, rfl, rfl⟩ := trodAll_nil r1
  obtain rfl : args = #[v0, v1] := by cases args; simp_all
  obtain ⟨rfl, rfl⟩ := trodVars_none hV
  obtain ⟨a0, len0, cap0, rfl⟩ := okWide_slice Try.underlying22 (hval 0 22 v0 rfl rfl)
  obtain ⟨l0, rd0, lc0, cm0, ft0⟩ := open_spans h0
  obtain ⟨a1, len1, cap1, rfl⟩ := okWide_slice Try.underlying22 (hval 1 22 v1 rfl rfl)
  obtain ⟨l1, rd1, lc1, cm1, ft1⟩ := open_spans h1
  refine (walk a0 a1 len0 cap0 len1 cap1 l0 l1 W rd0 rd1 lc0 cm0 lc1 cm1 (spans_nil h0) (spans_nil h1)).mono fun e W' ⟨he, bel⟩ => ?_
  subst he
  exact ⟨_, rfl, _, _, _, [], _, [], hW', trodAll_mk1 (shut_bool Try.underlying4 _), trodAll_below laidOut bel _ _ _ _ (by kernel_rfl) hK, rfl, bel.frame _, fun h => by cases h⟩

set_option maxRecDepth 100000 in
theorem lifted (os : Os) (started : os.Started) (H : Type) (enc : TypeId × Value → H) :
    ReturnsInHanded {} Try.checked os 3 .any (Rows.spanJoinsSpec.pre6 enc Try.prog Try.f3 Rows.spanJoinsRow.domain false) (Rows.spanJoinsSpec.post enc Try.prog Try.f3 false true false false) := by
  refine returnsInHanded_of_change (C := Try.checked) own started (by kernel_rfl) Try.func3
    (ChangeSpec.witness6 (enc := enc) (C := Try.checked) false ⟨#[], #[.slice none 0 0, .slice none 0 0], []⟩ 8 (by kernel_rfl) (by kernel_rfl) (by kernel_rfl) (by kernel_rfl)) ?_
  intro W base args ds gs before hval hW _ _
  exact contract H enc W base args ds gs before hval hW

theorem said : Rows.SpanJoinsSaid :=
  OpenClaim.holds_of_wide 3 Try.f3 rfl rfl rfl rfl rfl rfl rfl ⟨rfl, rfl, rfl, rfl, rfl⟩ rfl rfl rfl rfl rfl (by kernel_rfl) Try.func3 (by kernel_rfl)
    (of_decide_eq_true (by kernel_rfl)) (by unfold Func.isWrapper; first | (rw [if_pos (by decide +kernel)]; kernel_rfl) | (rw [if_neg (by decide +kernel)]; exact ⟨rfl, rfl⟩))
    (fun os started H enc _ => lifted os started H enc)
end spanJoins

theorem spanJoins_holds : Rows.SpanJoinsSaid := spanJoins.said
end Go.Proofs.Ytcgjpkdpemlmbaa

