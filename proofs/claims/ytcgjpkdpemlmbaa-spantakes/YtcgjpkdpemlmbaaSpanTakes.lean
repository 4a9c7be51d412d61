/- Proved: for every bytes and place grapevinelaw08.SpanTakes answers true and leaves its arguments as they were. No condition. -/
import Derived.Test.YtcgjpkdpemlmbaaSpRefT
import Derived.Test.YtcgjpkdpemlmbaaSpOk
import Derived.Test.YtcgjpkdpemlmbaaSpFrame
namespace Go.Proofs.Ytcgjpkdpemlmbaa
open Go.ChangeShapes Go.WideShapes Go.ChangeAt Go.RowKit
namespace spanTakes

set_option maxRecDepth 100000 in
set_option maxHeartbeats 2000000 in
theorem walk (a : Option Addr) (len cap : Nat) (bs : List Nat) (x : Int) (w : World) (hr : Rd w a len bs) (hl : len ≤ 9223372036854775000) (hx : (-9223372036854775808 : Int) ≤ x ∧ x ≤ 9223372036854775807) :
    Calls Try.prog 7 #[.slice a len cap, .int .i64 x] w fun e w' => e = .returned (.bool true) ∧ Below w.heap.size w w' := by
  have HR : Hid (Rd w a len bs) := hr
  have HX : Hid ((-9223372036854775808 : Int) ≤ x ∧ x ≤ 9223372036854775807) := hx
  clear hr hx
  obtain ⟨l, z, e0, HT⟩ : ∃ l z e, Hid (takeM bs x = (l, z, e)) := ⟨_, _, _, rfl⟩
  go_enter Try.func7, Try.ntmps7
  go_wp2_with fail
  refine (span_Take a len cap bs x w HR.out hl HX.out).mono ?_
  rw [HT.out]
  rintro e w1 ⟨ht, hb1⟩
  obtain ⟨v1, rfl, hv1⟩ := ht.out
  simp only at hv1
  obtain ⟨a1, c1, rfl, _⟩ := hv1.form
  obtain ⟨n1, hn1⟩ : ∃ n1, n1 = l.length := ⟨_, rfl⟩
  rw [← hn1] at hv1 ⊢
  have HV1 : Hid (Sps w1 w.heap.size (.slice a1 n1 c1) l) := hv1
  have HB1 : Hid (Below w.heap.size w w1) := hb1
  clear hb1 ht hv1 hn1
  simp only
  go_wp2_with fail
  refine (ref_Take a len cap bs x w1 (HR.out.below HB1.out) hl HX.out).mono ?_
  rw [HT.out]
  rintro e w2 ⟨ht, hb2⟩
  obtain ⟨v2, rfl, hv2⟩ := ht.out
  simp only at hv2
  obtain ⟨a2, c2, rfl, _⟩ := hv2.form
  obtain ⟨n2, hn2⟩ : ∃ n2, n2 = l.length := ⟨_, rfl⟩
  rw [← hn2] at hv2 ⊢
  have HV2 : Hid (Sps w2 w1.heap.size (.slice a2 n2 c2) l) := hv2
  have HV12 : Hid (Sps w2 w.heap.size (.slice a1 n1 c1) l) := HV1.out.below hb2
  have HB2 : Hid (Below w.heap.size w w2) := HB1.out.trans (hb2.mono HB1.out.size)
  clear hb2 ht hv2 hn2 HV1
  simp only
  go_wp2_with fail
  refine (law_live _).mono ?_
  rintro e w3 ⟨rfl, hb3⟩
  have HB3 : Hid (Below w.heap.size w w3) := HB2.out.trans (hb3.mono HB2.out.size)
  have HV13 : Hid (Sps w3 w.heap.size (.slice a1 n1 c1) l) := HV12.out.below hb3
  have HV23 : Hid (Sps w3 w1.heap.size (.slice a2 n2 c2) l) := HV2.out.below hb3
  clear hb3 HV12 HV2
  go_wp2_with fail
  refine (ref_Same a1 a2 n1 c1 n2 c2 l l w3 HV13.out.rd HV23.out.rd (Nat.le_trans HV13.out.big.1 HV13.out.big.2)).mono ?_
  rw [sameB_refl]
  rintro e w4 ⟨rfl, hb4⟩
  have HB4 : Hid (Below w.heap.size w w4) := HB3.out.trans (hb4.mono HB3.out.size)
  clear hb4 HV13 HV23
  go_wp2
  go_ret
  exact ⟨rfl, HB4.out⟩

theorem contract (H : Type) (enc : TypeId × Value → H) (W : World) (base : Nat) (args : Array Value) (ds gs : List (DataW H)) (before : List MemPlace)
    (hval : ∀ (j : Nat) t v, Try.f7.params[j]? = some t → args[j]? = some v → Value.okWide Try.prog W .any base t v)
    (hW : DataW.Whole enc Try.prog Try.f7.params.toList Rows.spanTakesSpec.vars false W args.toList ds gs before) (hsz0 : (DataW.weightsEach Try.prog (Try.f7.params.toList ++ Rows.spanTakesSpec.plain.varTypes Try.prog) (ds ++ gs)).all (· ≤ reachBytes) = true) :
    Calls Try.prog 7 args W fun e W' => ∃ v, e = .returned v ∧ Rows.spanTakesSpec.post enc Try.prog Try.f7 false true false false W args v W' := by
  have hW' := hW
  obtain ⟨p, q, hA0, hV, rfl, hfz, hnd⟩ := hW
  have hA : DataW.TrodAll enc Try.prog W 0 (fun _ => true) true Try.f7.params.toList args.toList ds p := hA0
  have hK := hA
  have hsz := hsz0
  rw [Try.params7] at hA hval hsz
  obtain ⟨v0, vs0, d0, ds0, p0, q0, hargs, rfl, rfl, h0, r0⟩ := trodAll_cons hA
  obtain ⟨v1, vs1, d1, ds1, p1, q1, rfl, rfl, rfl, h1, r1⟩ := trodAll_cons r0
  obtain ⟨rfl, rfl, rfl⟩ := trodAll_nil r1
  obtain rfl : args = #[v0, v1] := by cases args; simp_all
  obtain ⟨rfl, rfl⟩ := trodVars_none hV
  obtain ⟨a0, len0, cap0, rfl⟩ := okWide_slice Try.underlying33 (hval 0 33 v0 rfl rfl)
  obtain ⟨bs0, rd0, lc0, cm0, bk0, nc0, fm0⟩ := rd_of h0
  have sz0 := reach_of hsz (j := 0) fm0 rfl rfl
  obtain ⟨x1, rfl, rfl, rfl, w1⟩ := open_int Try.underlying3 (hval 1 3 v1 rfl rfl) h1
  have b1 : (-9223372036854775808 : Int) ≤ x1 ∧ x1 ≤ 9223372036854775807 := by simpa [Lit.wf, IntKind.min, IntKind.max, IntKind.signed, IntKind.bits] using w1
  refine (walk a0 len0 cap0 bs0 x1 W rd0 (by omega) b1).mono fun e W' ⟨he, bel⟩ => ?_
  subst he
  exact ⟨_, rfl, _, _, _, [], _, [], hW', trodAll_mk1 (shut_bool Try.underlying4 _), trodAll_below laidOut bel _ _ _ _ (by kernel_rfl) hK, rfl, bel.frame _, fun h => by cases h⟩

set_option maxRecDepth 100000 in
theorem lifted (os : Os) (started : os.Started) (H : Type) (enc : TypeId × Value → H) :
    ReturnsInHanded {} Try.checked os 7 .any (Rows.spanTakesSpec.pre6 enc Try.prog Try.f7 Rows.spanTakesRow.domain false) (Rows.spanTakesSpec.post enc Try.prog Try.f7 false true false false) := by
  refine returnsInHanded_of_change_sized (C := Try.checked) own started (by kernel_rfl) Try.func7
    (ChangeSpec.witness6 (enc := enc) (C := Try.checked) false ⟨#[], #[.slice none 0 0, .int .i64 0], []⟩ 8 (by kernel_rfl) (by kernel_rfl) (by kernel_rfl) (by kernel_rfl)) ?_
  intro W base args ds gs before hval hW _ hsz _
  exact contract H enc W base args ds gs before hval hW hsz

theorem said : Rows.SpanTakesSaid :=
  OpenClaim.holds_of_wide 7 Try.f7 rfl rfl rfl rfl rfl rfl rfl ⟨rfl, rfl, rfl, rfl, rfl⟩ rfl rfl rfl rfl rfl (by kernel_rfl) Try.func7 (by kernel_rfl)
    (of_decide_eq_true (by kernel_rfl)) (by unfold Func.isWrapper; first | (rw [if_pos (by decide +kernel)]; kernel_rfl) | (rw [if_neg (by decide +kernel)]; exact ⟨rfl, rfl⟩))
    (fun os started H enc _ => lifted os started H enc)
end spanTakes

theorem spanTakes_holds : Rows.SpanTakesSaid := spanTakes.said
end Go.Proofs.Ytcgjpkdpemlmbaa

