/- Proved: for every bytes and place grapevinelaw05.PredTakes answers true and leaves its arguments as they were. No condition; the card ties the listed variables. -/
import Derived.Test.YtfmpfjpcigdeoabGreatDoorDoorP
import Derived.Test.YtfmpfjpcigdeoabGreatDoorLiveP
import Derived.Test.YtfmpfjpcigdeoabGreatDoorOnceQ
import Derived.Test.YtfmpfjpcigdeoabGreatDoorRefQ
import Derived.Test.YtfmpfjpcigdeoabGreatDoorFrame
namespace Go.Proofs.YtfmpfjpcigdeoabGreatDoor
set_option maxRecDepth 100000
open Go.ChangeShapes Go.WideShapes Go.ChangeAt Go.RowKit
namespace predTakes

theorem order_zero : Ieee.double.order Val.zero.re Val.zero.re = some .eq ∧ Ieee.double.order Val.zero.im Val.zero.im = some .eq := by
  have h0 : Ieee.double.order 0 0 = some .eq := by kernel_rfl
  exact ⟨h0, h0⟩
theorem order_bytes {v : Val} {L : List Nat} (hv : Val.Bytes v L) : Ieee.double.order v.re v.re = some .eq ∧ Ieee.double.order v.im v.im = some .eq := by
  have h0 : Ieee.double.order 0 0 = some .eq := by kernel_rfl
  cases hv using Val.Bytes.elim with
  | whole n h => exact ⟨h0, h0⟩
  | words l h hb => exact ⟨h0, h0⟩
  | truth t => exact ⟨h0, h0⟩
  | point x y hx hy => exact ⟨Flt.order_self x (near_abs hx), Flt.order_self y (near_abs hy)⟩
theorem order_term {q : Tm} {R : List Nat} (h : TermB q R) : Ieee.double.order q.val.re q.val.re = some .eq ∧ Ieee.double.order q.val.im q.val.im = some .eq := by
  rcases h with ⟨_, hq, _⟩ | ⟨A, ⟨l0, _, _, _, _, _, hc⟩, _⟩
  · rw [hq]; exact order_zero
  · rcases hc with ⟨_, hv, _⟩ | ⟨_, _, L, hL, _⟩
    · rw [hv]; exact order_zero
    · exact order_bytes hL
theorem order_terms : ∀ {l : List Tm} {R : List Nat}, TermsB l R → ∀ q ∈ l, Ieee.double.order q.val.re q.val.re = some .eq ∧ Ieee.double.order q.val.im q.val.im = some .eq
  | [], _, _ => fun q h => by cases h
  | q :: r, R, h => by
    obtain ⟨A, B, hA, hB, _⟩ := h
    intro q' h'
    rcases List.mem_cons.1 h' with rfl | h'
    · exact order_term hA
    · exact order_terms hB q' h'
theorem predAt_fine {bs : List Nat} {x : Int} (hb : ∀ y ∈ bs, y < 256) {l : List Tm} {k f : Nat} (h : predAt bs x = (l, k, f)) : l.length ≤ 48 ∧ ∀ q ∈ l, Ieee.double.order q.val.re q.val.re = some .eq ∧ Ieee.double.order q.val.im q.val.im = some .eq := by
  by_cases hf : f = 0
  · subst hf
    have hx : 0 ≤ x := by
      by_cases hneg : x < 0
      · have hT : Leb.take bs x = (0, 0, 2) := by unfold Leb.take; rw [if_pos (.inl hneg)]
        rw [predAt_err hT (by decide)] at h
        simp at h
      · omega
    obtain ⟨p, rfl⟩ := Int.eq_ofNat_of_zero_le hx
    obtain ⟨M, ⟨R, h48, _, hT, _⟩, _⟩ := predAt_once hb h
    exact ⟨h48, order_terms hT⟩
  · obtain ⟨rfl, _⟩ := predAt_bad h hf
    exact ⟨by simp, fun q h => by cases h⟩

set_option maxHeartbeats 2000000 in
theorem walk (a : Option Addr) (len cap : Nat) (bs : List Nat) (x : Int) (w : World) (hr : Rd w a len bs) (hlc : len ≤ cap) (hl : len ≤ 9223372036854775000) (hx : (-9223372036854775808 : Int) ≤ x ∧ x ≤ 9223372036854775807) :
    Calls Tryz.prog 5 #[.slice a len cap, .int .i64 x] w fun e w' => e = .returned (.bool true) ∧ Below w.heap.size w w' := by
  have HR : Hid (Rd w a len bs) := hr
  have HX : Hid ((-9223372036854775808 : Int) ≤ x ∧ x ≤ 9223372036854775807) := hx
  obtain ⟨l, k, f, hV⟩ : ∃ l k f, predAt bs x = (l, k, f) := ⟨_, _, _, rfl⟩
  obtain ⟨h48, hor⟩ := predAt_fine hr.byte hV
  have HV : Hid (predAt bs x = (l, k, f)) := hV
  obtain ⟨n, HN⟩ : ∃ n, Hid (l.length = n) := ⟨_, rfl⟩
  rw [HN.out] at h48
  have HS : Hid (∀ (a1 a2 : Option Addr) (c1 c2 : Nat) (w : World), TmsRd w a1 l → TmsRd w a2 l → Calls Tryz.prog 11 #[.slice a1 n c1, .slice a2 n c2] w fun e w' => e = .returned (.bool true) ∧ Below w.heap.size w w') := fun a1 a2 c1 c2 w h1 h2 => ref_Same5 a1 a2 n c1 c2 l w h1 h2 HN.out h48 hor
  clear hr hx hV hor h48
  go_enter Tryz.func5, Tryz.ntmps5
  go_wp2_with fail
  refine (pred_Take a len cap bs x _ HR.out hlc hl HX.out l k f HV.out).mono ?_
  rintro e w1 ⟨va, rfl, ha1, hb1⟩
  obtain ⟨aa, ac, rfl⟩ := ha1.form
  have HA1 : Hid (TmsRd w1 aa l) := ha1.rd.2
  have HB1 : Hid (Below w.heap.size w w1) := hb1
  rw [HN.out]
  clear hb1 ha1
  go_wp2_with fail
  refine (ref_Take5 a len cap bs x _ (HR.out.below HB1.out) hlc hl HX.out l k f HV.out).mono ?_
  rintro e w2 ⟨vb, rfl, ha2, hb2⟩
  obtain ⟨ba, bc, rfl⟩ := ha2.form
  have HA2 : Hid (TmsRd w2 ba l) := ha2.rd.2
  have HA3 : Hid (TmsRd w2 aa l) := HA1.out.below hb2
  have HB2 : Hid (Below w.heap.size w w2) := HB1.out.trans (hb2.mono HB1.out.size)
  rw [HN.out]
  clear hb2 ha2
  go_wp2_with fail
  refine (law_live _).mono ?_
  rintro e w3 ⟨rfl, hb3⟩
  have HA4 : Hid (TmsRd w3 ba l) := HA2.out.below hb3
  have HA5 : Hid (TmsRd w3 aa l) := HA3.out.below hb3
  have HB3 : Hid (Below w.heap.size w w3) := HB2.out.trans (hb3.mono HB2.out.size)
  clear hb3
  go_wp2_with fail
  refine (HS.out aa ba ac bc _ HA5.out HA4.out).mono ?_
  rintro e w4 ⟨rfl, hb4⟩
  have HB4 : Hid (Below w.heap.size w w4) := HB3.out.trans (hb4.mono HB3.out.size)
  clear hb4
  have d1 : ((k : Int) == (k : Int)) = true := by simp
  have d2 : ((f : Int) == (f : Int)) = true := by simp
  go_wp2
  go_ret
  exact ⟨rfl, HB4.out⟩

theorem contract (H : Type) (enc : TypeId × Value → H) (W : World) (base : Nat) (args : Array Value) (ds gs : List (DataW H)) (before : List MemPlace)
    (hval : ∀ (j : Nat) t v, Tryz.f5.params[j]? = some t → args[j]? = some v → Value.okWide Tryz.prog W .any base t v)
    (hW : DataW.Whole enc Tryz.prog Tryz.f5.params.toList Rows.predTakesSpec.vars false W args.toList ds gs before) (hsz0 : (DataW.weightsEach Tryz.prog (Tryz.f5.params.toList ++ Rows.predTakesSpec.plain.varTypes Tryz.prog) (ds ++ gs)).all (· ≤ reachBytes) = true) :
    Calls Tryz.prog 5 args W fun e W' => ∃ v, e = .returned v ∧ Rows.predTakesSpec.post enc Tryz.prog Tryz.f5 false true false false W args v W' := by
  have hW' := hW
  obtain ⟨p, q, hA0, hV, rfl, hfz, hnd⟩ := hW
  have hA : DataW.TrodAll enc Tryz.prog W 0 (fun _ => true) true Tryz.f5.params.toList args.toList ds p := hA0
  have hK := hA
  have hsz := hsz0
  rw [Tryz.params5] at hA hval hsz
  obtain ⟨v0, vs0, d0, ds0, p0, q0, hargs, rfl, rfl, h0, r0⟩ := trodAll_cons hA
  obtain ⟨v1, vs1, d1, ds1, p1, q1, rfl, rfl, rfl, h1, r1⟩ := trodAll_cons r0
  obtain ⟨rfl, rfl, rfl⟩ := trodAll_nil r1
  obtain rfl : args = #[v0, v1] := by cases args; simp_all
  obtain ⟨rfl, rfl⟩ := trodVars_none hV
  obtain ⟨a0, len0, cap0, rfl⟩ := okWide_slice Tryz.underlying33 (hval 0 33 v0 rfl rfl)
  obtain ⟨bs0, rd0, lc0, cm0, bk0, nc0, fm0⟩ := rd_of h0
  have sz0 := reach_of hsz (j := 0) fm0 rfl rfl
  obtain ⟨x1, rfl, rfl, rfl, w1⟩ := open_int Tryz.underlying3 (hval 1 3 v1 rfl rfl) h1
  have b1 : (-9223372036854775808 : Int) ≤ x1 ∧ x1 ≤ 9223372036854775807 := by simpa [Lit.wf, IntKind.min, IntKind.max, IntKind.signed, IntKind.bits] using w1
  refine (walk a0 len0 cap0 bs0 x1 W rd0 lc0 (by omega) b1).mono fun e W' ⟨he, bel⟩ => ?_
  subst he
  exact ⟨_, rfl, _, _, _, [], _, [], hW', trodAll_mk1 (shut_bool Tryz.underlying4 _), trodAll_below laidOut bel _ _ _ _ (by kernel_rfl) hK, rfl, bel.frame _, fun h => by cases h⟩

theorem laid_met (os : Os) : laidMet Tryz.prog Rows.predTakesRow.laid ((layTab (World.holding Tryz.prog os ⟨#[], #[], []⟩)).forCall (fun _ _ => 0) ⟨#[], #[.slice none 0 0, .int .i64 0], []⟩).memory :=
  laidMet_of_run' 8 (by kernel_rfl) (by kernel_rfl)
theorem reads (os : Os) {H : Type} (enc : TypeId × Value → H) : ∃ places, DataW.whole enc Tryz.prog ((layTab (World.holding Tryz.prog os ⟨#[], #[], []⟩)).forCall (fun _ _ => 0) ⟨#[], #[.slice none 0 0, .int .i64 0], []⟩).memory Tryz.f5.params.toList Rows.predTakesSpec.vars false (#[.slice none 0 0, .int .i64 0] : Array Value).toList 8 = some ([.nil, .lit (.int .i64 0)], [], places) :=
  ⟨[], by kernel_rfl⟩

set_option maxRecDepth 100000 in
theorem lifted (os : Os) (started : os.Started) (H : Type) (enc : TypeId × Value → H) (F : Stop.Interp) :
    ReturnsInHanded {} Tryz.checked os 5 .any ((OpenSpec.ofChange Rows.predTakesSpec).preRow enc Tryz.prog Tryz.f5 Rows.predTakesRow.domain false Rows.predTakesRow.laid) (((OpenSpec.ofChange Rows.predTakesSpec).at F).post enc Tryz.prog Tryz.f5 false true false false) := by
  obtain ⟨places, hx⟩ := reads os enc
  refine returnsInHanded_of_row (C := Tryz.checked) (s := OpenSpec.ofChange Rows.predTakesSpec) own started (by kernel_rfl) Tryz.func5
    (witness_row_at (enc := enc) (C := Tryz.checked) false (layTab (World.holding Tryz.prog os ⟨#[], #[], []⟩)) #[.slice none 0 0, .int .i64 0] rfl (by kernel_rfl) (by kernel_rfl) (by kernel_rfl)
      (OpenSpec.preRow_of_cond 8 hx (by kernel_rfl) (fun k hk => by cases hk) (by kernel_rfl) (laid_met os))) ?_
  intro W base args ds gs before hval hW _ _ hsz _ _ _
  exact contract H enc W base args ds gs before hval hW hsz

theorem said : Rows.PredTakesSaid :=
  OpenClaim.holds_of_cond 5 Tryz.f5 rfl rfl rfl rfl rfl rfl rfl ⟨rfl, rfl, rfl, rfl, rfl⟩ rfl rfl rfl rfl rfl (by kernel_rfl) Tryz.func5 (by kernel_rfl)
    (of_decide_eq_true (by kernel_rfl)) (by unfold Func.isWrapper; first | (rw [if_pos (by decide +kernel)]; kernel_rfl) | (rw [if_neg (by decide +kernel)]; exact ⟨rfl, rfl⟩))
    (fun os started H enc _ F => by rw [OpenClaim.pre_eq_preRow]; exact lifted os started H enc F)

theorem plain (f : FuncId) (fn : Func) (hf : Tryz.pinned.checked.prog.funcNamed "grapevine/grapevinelaw05.PredTakes" = some f) (hfn : Tryz.pinned.checked.prog.funcs[f]? = some fn) :
    true = Tryz.pinned.checked.prog.looks [] ∧ ∀ (j : Nat) t, fn.params[j]? = some t → Tryz.pinned.checked.prog.wantsStandIn t = false := by
  obtain rfl : f = 5 := Option.some.inj ((show Tryz.prog.funcNamed "grapevine/grapevinelaw05.PredTakes" = some 5 by kernel_rfl).symm.trans hf) |>.symm
  obtain rfl : fn = Tryz.f5 := (Option.some.inj (Tryz.func5.symm.trans hfn)).symm
  refine ⟨by kernel_rfl, fun j t ht => ?_⟩
  rw [Tryz.params5] at ht
  have hall : ∀ t ∈ (#[33, 3] : Array TypeId), Tryz.prog.wantsStandIn t = false := by
    intro t ht
    simp at ht
    rcases ht with rfl | rfl
    · exact (show Tryz.prog.wantsStandIn 33 = false by kernel_rfl)
    · exact (show Tryz.prog.wantsStandIn 3 = false by kernel_rfl)
  exact hall t (Array.mem_of_getElem? ht)

theorem card : Rows.PredTakesCardSaid :=
  Claim7.holds_tied_plain_at .later [] _ _ _ _ said (fun _ h => by cases h) (by kernel_rfl) (fun _ h => by cases h) predTakes_row_tie rfl ⟨rfl, rfl⟩ (by kernel_rfl) rfl plain (by kernel_rfl)
end predTakes

theorem predTakes_holds : Rows.PredTakesCardSaid := predTakes.card
end Go.Proofs.YtfmpfjpcigdeoabGreatDoor

