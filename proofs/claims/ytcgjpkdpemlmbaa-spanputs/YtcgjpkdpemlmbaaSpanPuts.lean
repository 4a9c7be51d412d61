/- Proved: for every map grapevinelaw08.SpanPuts answers true and leaves its argument as it was. No condition. -/
import Derived.Test.YtcgjpkdpemlmbaaSpRefP
import Derived.Test.YtcgjpkdpemlmbaaSpFrame
namespace Go.Proofs.Ytcgjpkdpemlmbaa
open Go.ChangeShapes Go.WideShapes Go.ChangeAt Go.RowKit
namespace spanPuts

set_option maxRecDepth 100000 in
set_option maxHeartbeats 2000000 in
theorem walk (a : Option Addr) (n c : Nat) (l : List Sp) (w : World) (hr : SpsRd w a n l) (hn : n ≤ maxLen) :
    Calls Try.prog 6 #[.slice a n c] w fun e w' => e = .returned (.bool true) ∧ Below w.heap.size w w' := by
  have HR : Hid (SpsRd w a n l) := hr
  have HN : Hid (n ≤ maxLen) := hn
  clear hr hn
  obtain ⟨E, HE⟩ : ∃ E, Hid (E = putE l) := ⟨_, rfl⟩
  obtain ⟨T, HT⟩ : ∃ T, Hid (T = putT l) := ⟨_, rfl⟩
  go_enter Try.func6, Try.ntmps6
  go_wp2_with fail
  refine (span_Put a n c l w HR.out HN.out).mono ?_
  rw [← HE.out, ← HT.out]
  rintro e w1 ⟨⟨b1, m1, c1, rfl, ho1⟩, hb1⟩
  have HB1 : Hid (Below w.heap.size w w1) := hb1
  have HO1 : Hid (Rd w1 b1 m1 T) := ho1.out.rd
  clear hb1 ho1
  go_wp2_with fail
  refine (ref_Put a n c l w1 (HR.out.below HB1.out) HN.out).mono ?_
  rw [← HE.out, ← HT.out]
  rintro e w2 ⟨⟨b2, m2, c2, rfl, ho2⟩, hb2⟩
  have HB2 : Hid (Below w.heap.size w w2) := HB1.out.trans (hb2.mono HB1.out.size)
  have HO12 : Hid (Rd w2 b1 m1 T) := HO1.out.below hb2
  have HO2 : Hid (Rd w2 b2 m2 T) := ho2.out.rd
  clear hb2 ho2 HO1
  go_wp2_with fail
  refine (law_live _).mono ?_
  rintro e w3 ⟨rfl, hb3⟩
  have HB3 : Hid (Below w.heap.size w w3) := HB2.out.trans (hb3.mono HB2.out.size)
  obtain ⟨S, HSS⟩ : ∃ S, Hid (S = str T) := ⟨_, rfl⟩
  have x1 : (convert 33 9 (.slice b1 m1 c1)).run Try.prog w3 = .ok (.string S) w3 := by rw [conv_rd (HO12.out.below hb3) c1, HSS.out]
  have x2 : (convert 33 9 (.slice b2 m2 c2)).run Try.prog w3 = .ok (.string S) w3 := by rw [conv_rd (HO2.out.below hb3) c2, HSS.out]
  clear hb3 HO12 HO2
  go_wp2
  go_ret
  exact ⟨rfl, HB3.out⟩

theorem contract (H : Type) (enc : TypeId × Value → H) (W : World) (base : Nat) (args : Array Value) (ds gs : List (DataW H)) (before : List MemPlace)
    (hval : ∀ (j : Nat) t v, Try.f6.params[j]? = some t → args[j]? = some v → Value.okWide Try.prog W .any base t v)
    (hW : DataW.Whole enc Try.prog Try.f6.params.toList Rows.spanPutsSpec.vars false W args.toList ds gs before) :
    Calls Try.prog 6 args W fun e W' => ∃ v, e = .returned v ∧ Rows.spanPutsSpec.post enc Try.prog Try.f6 false true false false W args v W' := by
  have hW' := hW
  obtain ⟨p, q, hA0, hV, rfl, hfz, hnd⟩ := hW
  have hA : DataW.TrodAll enc Try.prog W 0 (fun _ => true) true Try.f6.params.toList args.toList ds p := hA0
  have hK := hA
  rw [Try.params6] at hA hval
  obtain ⟨v0, vs0, d0, ds0, p0, q0, hargs, rfl, rfl, h0, r0⟩ := trodAll_cons hA
  obtain ⟨rfl, rfl, rfl⟩ := trodAll_nil r0
  obtain rfl : args = #[v0] := by cases args; simp_all
  obtain ⟨rfl, rfl⟩ := trodVars_none hV
  obtain ⟨a0, len0, cap0, rfl⟩ := okWide_slice Try.underlying22 (hval 0 22 v0 rfl rfl)
  obtain ⟨l0, rd0, lc0, cm0, ft0⟩ := open_spans h0
  refine (walk a0 len0 cap0 l0 W rd0 (Nat.le_trans lc0 cm0)).mono fun e W' ⟨he, bel⟩ => ?_
  subst he
  exact ⟨_, rfl, _, _, _, [], _, [], hW', trodAll_mk1 (shut_bool Try.underlying4 _), trodAll_below laidOut bel _ _ _ _ (by kernel_rfl) hK, rfl, bel.frame _, fun h => by cases h⟩

set_option maxRecDepth 100000 in
theorem lifted (os : Os) (started : os.Started) (H : Type) (enc : TypeId × Value → H) :
    ReturnsInHanded {} Try.checked os 6 .any (Rows.spanPutsSpec.pre6 enc Try.prog Try.f6 Rows.spanPutsRow.domain false) (Rows.spanPutsSpec.post enc Try.prog Try.f6 false true false false) := by
  refine returnsInHanded_of_change (C := Try.checked) own started (by kernel_rfl) Try.func6
    (ChangeSpec.witness6 (enc := enc) (C := Try.checked) false ⟨#[], #[.slice none 0 0], []⟩ 8 (by kernel_rfl) (by kernel_rfl) (by kernel_rfl) (by kernel_rfl)) ?_
  intro W base args ds gs before hval hW _ _
  exact contract H enc W base args ds gs before hval hW

theorem said : Rows.SpanPutsSaid :=
  OpenClaim.holds_of_wide 6 Try.f6 rfl rfl rfl rfl rfl rfl rfl ⟨rfl, rfl, rfl, rfl, rfl⟩ rfl rfl rfl rfl rfl (by kernel_rfl) Try.func6 (by kernel_rfl)
    (of_decide_eq_true (by kernel_rfl)) (by unfold Func.isWrapper; first | (rw [if_pos (by decide +kernel)]; kernel_rfl) | (rw [if_neg (by decide +kernel)]; exact ⟨rfl, rfl⟩))
    (fun os started H enc _ => lifted os started H enc)
end spanPuts

theorem spanPuts_holds : Rows.SpanPutsSaid := spanPuts.said
end Go.Proofs.Ytcgjpkdpemlmbaa

