/- PredBlanks: blanks around a text play no part but for places. -/
import Derived.Test.YteoopoabemeanaaGreatDoorPaTell
import Derived.Test.YteoopoabemeanaaGreatDoorEvalLive3
import Derived.Test.YteoopoabemeanaaGreatDoorPrRef8
import Derived.Test.YteoopoabemeanaaGreatDoorDoorV
namespace Go.Proofs.YteoopoabemeanaaGreatDoor
open Go.ChangeShapes Go.WideShapes Go.ChangeAt Go.RowKit
open Go.ChangeMaps (open_string shut_string)
set_option maxRecDepth 100000
namespace predBlanks

set_option maxHeartbeats 4000000 in
theorem walk (T : ByteArray) (hTm : T.size ≤ 9223372036854775000) (q : Nat) (hq : q ≤ 255) (w : World) (hv : Vars w) :
    Calls Tryz.prog 4 #[.string T, .int .u8 (q : Int)] w fun e w' => e = .returned (.bool true) ∧ Below w.heap.size w w' := by
  have HV : Hid (Vars w) := hv
  clear hv
  obtain ⟨k, hk⟩ : ∃ k, q % 9 = k := ⟨_, rfl⟩
  have hk8 : k ≤ 8 := by omega
  have x1 : Int.tmod (q : Int) 9 = (k : Int) := by rw [Int.tmod_eq_emod_of_nonneg (by omega)]; omega
  have x2 : IntKind.i64.wrap (q : Int) = (q : Int) := by simp [IntKind.wrap, IntKind.bits, IntKind.signed]; omega
  clear hk
  by_cases hbig : 300 < T.size + 2 * k
  · have g1 : (300 : Int) < (T.size : Int) + 2 * (k : Int) := by omega
    go_enter Tryz.func4, Tryz.ntmps4
    go_wp2_with fail
    refine (law_live _ HV.out).mono ?_
    rintro e w1 ⟨rfl, hb1⟩
    go_wp2
    go_ret
    exact ⟨rfl, hb1⟩
  · have g1 : ¬ (300 : Int) < (T.size : Int) + 2 * (k : Int) := by omega
    obtain ⟨L, p, c, p1, L2, p2, c2, A0, A1, A2, B1, B2, B3, B4, B5⟩ := three T k hk8 (by omega)
    have H0 : Hid (∀ w, Vars w → Calls Tryz.prog 5 #[.string T] w fun e w' => AfterQ w (L, p, c) e w') := A0
    have H1 : Hid (∀ w, Vars w → Calls Tryz.prog 5 #[.string (nine.extract 0 k ++ T)] w fun e w' => AfterQ w (L, p1, c) e w') := A1
    have H2 : Hid (∀ w, Vars w → Calls Tryz.prog 5 #[.string (T ++ nine.extract 0 k)] w fun e w' => AfterQ w (L2, p2, c2) e w') := A2
    obtain ⟨n, HN⟩ : ∃ n, Hid (L.length = n) := ⟨_, rfl⟩
    rw [HN.out] at B4
    have HS : Hid (∀ (a1 a2 : Option Addr) (c1 c2 : Nat) (w : World), TmsRd w a1 L → TmsRd w a2 L → Calls Tryz.prog 9 #[.slice a1 n c1, .slice a2 n c2] w fun e w' => e = .returned (.bool true) ∧ Below w.heap.size w w') := fun a1 a2 c1 c2 w h1 h2 => ref_Same5 a1 a2 n c1 c2 L w h1 h2 HN.out B4 B5
    have HB2 : Hid (c = 0 → L2 = L ∧ c2 = 0) := B2
    clear A0 A1 A2 B2 B4 B5
    unfold nine at H1 H2
    go_enter Tryz.func4, Tryz.ntmps4
    go_wp2_with fail
    refine (H0.out _ HV.out).mono ?_
    rintro e w1 ⟨a, ca, rfl, ht1, hb1⟩
    have HT1 : Hid (TmsRd w1 a L) := ht1.rd.2
    have HB1 : Hid (Below w.heap.size w w1) := hb1
    have HV1 : Hid (Vars w1) := HV.out.stay hb1
    clear ht1 hb1
    simp only
    rw [HN.out]
    go_wp2_with fail
    refine (H1.out _ HV1.out).mono ?_
    rintro e w2 ⟨b, cb, rfl, ht2, hb2⟩
    have HT2 : Hid (TmsRd w2 b L) := ht2.rd.2
    have HT1b : Hid (TmsRd w2 a L) := HT1.out.below hb2
    have HB2' : Hid (Below w.heap.size w w2) := HB1.out.trans (hb2.mono HB1.out.size)
    have HV2 : Hid (Vars w2) := HV1.out.stay hb2
    clear ht2 hb2 HT1 HB1 HV1
    simp only
    rw [HN.out]
    go_wp2_with fail
    refine (H2.out _ HV2.out).mono ?_
    rintro e w3 ⟨d, cd, rfl, ht3, hb3⟩
    have HT3 : Hid (TmsRd w3 d L2) := ht3.rd.2
    have HT2b : Hid (TmsRd w3 b L) := HT2.out.below hb3
    have HT1c : Hid (TmsRd w3 a L) := HT1b.out.below hb3
    have HB3 : Hid (Below w.heap.size w w3) := HB2'.out.trans (hb3.mono HB2'.out.size)
    have HV3 : Hid (Vars w3) := HV2.out.stay hb3
    clear ht3 hb3 HT1b HT2 HB2' HV2
    simp only
    obtain ⟨n2, HN2⟩ : ∃ n2, Hid (L2.length = n2) := ⟨_, rfl⟩
    rw [HN2.out]
    have d0 : ((c : Int) != (c : Int)) = false := by simp
    by_cases hc : c = 0
    · obtain ⟨e2, e3⟩ := HB2.out hc
      subst e2 e3 hc
      obtain rfl : n2 = n := HN2.out.symm.trans HN.out
      go_wp2_with fail
      refine (HS.out a b ca cb _ HT1c.out HT2b.out).mono ?_
      rintro e w4 ⟨rfl, hb4⟩
      have HT3d : Hid (TmsRd w4 d L2) := HT3.out.below hb4
      have HT1d : Hid (TmsRd w4 a L2) := HT1c.out.below hb4
      have HB4 : Hid (Below w.heap.size w w4) := HB3.out.trans (hb4.mono HB3.out.size)
      have HV4 : Hid (Vars w4) := HV3.out.stay hb4
      clear hb4 HT1c HT2b HT3 HB3 HV3
      go_wp2_with fail
      refine (law_live _ HV4.out).mono ?_
      rintro e w5 ⟨rfl, hb5⟩
      have HT3e : Hid (TmsRd w5 d L2) := HT3d.out.below hb5
      have HT1e : Hid (TmsRd w5 a L2) := HT1d.out.below hb5
      have HB5 : Hid (Below w.heap.size w w5) := HB4.out.trans (hb5.mono HB4.out.size)
      clear hb5 HT1d HT3d HB4 HV4
      go_wp2_with fail
      refine (HS.out d a cd ca _ HT3e.out HT1e.out).mono ?_
      rintro e w6 ⟨rfl, hb6⟩
      have HB6 : Hid (Below w.heap.size w w6) := HB5.out.trans (hb6.mono HB5.out.size)
      clear hb6
      go_wp2
      go_ret
      exact ⟨rfl, HB6.out⟩
    · have k1 : ((c : Int) != 0) = true := by rw [bne_iff_ne]; omega
      have k2 : ((c : Int) == 0) = false := by rw [beq_eq_false_iff_ne]; omega
      obtain rfl := B1 hc
      have k3 : (((p + k : Nat) : Int) != (p : Int) + (k : Int)) = false := by
        rw [bne_eq_false_iff_eq]; omega
      clear hc B1 HB2
      go_wp2_with fail
      refine (HS.out a b ca cb _ HT1c.out HT2b.out).mono ?_
      rintro e w4 ⟨rfl, hb4⟩
      have HB4 : Hid (Below w.heap.size w w4) := HB3.out.trans (hb4.mono HB3.out.size)
      have HV4 : Hid (Vars w4) := HV3.out.stay hb4
      clear hb4 HT1c HT2b HT3 HB3 HV3
      go_wp2_with fail
      refine (law_live _ HV4.out).mono ?_
      rintro e w5 ⟨rfl, hb5⟩
      have HB5 : Hid (Below w.heap.size w w5) := HB4.out.trans (hb5.mono HB4.out.size)
      clear hb5 HB4 HV4
      go_wp2
      go_ret
      exact ⟨rfl, HB5.out⟩

set_option maxRecDepth 100000 in
theorem contract (H : Type) (enc : TypeId × Value → H) (W : World) (base : Nat) (args : Array Value) (ds gs : List (DataW H)) (before : List MemPlace)
    (hval : ∀ (j : Nat) t v, Tryz.f4.params[j]? = some t → args[j]? = some v → Value.okWide Tryz.prog W .any base t v)
    (hW : DataW.Whole enc Tryz.prog Tryz.f4.params.toList Rows.predBlanksSpec.vars false W args.toList ds gs before) (hL : laidMetH Tryz.prog Rows.predBlanksRow.laid W) (hsz0 : (DataW.weightsEach Tryz.prog (Tryz.f4.params.toList ++ Rows.predBlanksSpec.plain.varTypes Tryz.prog) (ds ++ gs)).all (· ≤ reachBytes) = true) :
    Calls Tryz.prog 4 args W fun e W' => ∃ v, e = .returned v ∧ Rows.predBlanksSpec.post enc Tryz.prog Tryz.f4 false true false false W args v W' := by
  have hW' := hW
  obtain ⟨p, q, hA0, hV, rfl, hfz, hnd⟩ := hW
  have hA : DataW.TrodAll enc Tryz.prog W 0 (fun _ => true) true Tryz.f4.params.toList args.toList ds p := hA0
  have hK := hA
  have hsz := hsz0
  rw [Tryz.params4] at hA hval hsz
  obtain ⟨v0, vs0, d0, ds0, p0, q0, hargs, rfl, rfl, h0, r0⟩ := trodAll_cons hA
  obtain ⟨v1, vs1, d1, ds1, p1, q1, rfl, rfl, rfl, h1, r1⟩ := trodAll_cons r0
  obtain ⟨rfl, rfl, rfl⟩ := trodAll_nil r1
  obtain rfl : args = #[v0, v1] := by cases args; simp_all
  obtain ⟨rfl, rfl⟩ := trodVars_none hV
  obtain ⟨s0, rfl, rfl, rfl, hs0⟩ := open_string Tryz.underlying9 (hval 0 9 v0 rfl rfl) h0
  obtain ⟨x1, rfl, rfl, rfl, w1⟩ := open_int Tryz.underlying5 (hval 1 5 v1 rfl rfl) h1
  have b1 : (0 : Int) ≤ x1 ∧ x1 ≤ 255 := by simpa [Lit.wf, IntKind.min, IntKind.max, IntKind.signed, IntKind.bits] using w1
  obtain ⟨n1, rfl⟩ := Int.eq_ofNat_of_zero_le b1.1
  have sz0 := sized_string hsz (j := 0) rfl rfl
  have es0 : s0.data.toList.length = s0.size := by rw [Array.length_toList]; rfl
  simp only [reachBytes] at sz0
  refine (walk s0 (by omega) n1 (by omega) W (vars_of hL)).mono fun e W' ⟨he, bel⟩ => ?_
  subst he
  exact ⟨_, rfl, _, _, _, [], _, [], hW', trodAll_mk1 (shut_bool Tryz.underlying4 _), trodAll_below laidOut bel _ _ _ _ (by kernel_rfl) hK, rfl, bel.frame _, fun h => by cases h⟩

theorem laid_met (os : Os) : laidMet Tryz.prog Rows.predBlanksRow.laid ((layTab (World.holding Tryz.prog os ⟨#[], #[], []⟩)).forCall (fun _ _ => 0) ⟨#[], #[.string .empty, .int .u8 0], []⟩).memory :=
  laidMet_of_run' 8 (by kernel_rfl) (by kernel_rfl)
theorem reads (os : Os) {H : Type} (enc : TypeId × Value → H) : ∃ places, DataW.whole enc Tryz.prog ((layTab (World.holding Tryz.prog os ⟨#[], #[], []⟩)).forCall (fun _ _ => 0) ⟨#[], #[.string .empty, .int .u8 0], []⟩).memory Tryz.f4.params.toList Rows.predBlanksSpec.vars false (#[.string .empty, .int .u8 0] : Array Value).toList 8 = some ([.lit (.string []), .lit (.int .u8 0)], [], places) :=
  ⟨[], by kernel_rfl⟩

set_option maxRecDepth 100000 in
theorem lifted (os : Os) (started : os.Started) (H : Type) (enc : TypeId × Value → H) (F : Stop.Interp) :
    ReturnsInHanded {} Tryz.checked os 4 .any ((OpenSpec.ofChange Rows.predBlanksSpec).preRow enc Tryz.prog Tryz.f4 Rows.predBlanksRow.domain false Rows.predBlanksRow.laid) (((OpenSpec.ofChange Rows.predBlanksSpec).at F).post enc Tryz.prog Tryz.f4 false true false false) := by
  obtain ⟨places, hx⟩ := reads os enc
  refine returnsInHanded_of_row (C := Tryz.checked) (s := OpenSpec.ofChange Rows.predBlanksSpec) own started (by kernel_rfl) Tryz.func4
    (witness_row_at (enc := enc) (C := Tryz.checked) false (layTab (World.holding Tryz.prog os ⟨#[], #[], []⟩)) #[.string .empty, .int .u8 0] rfl (by kernel_rfl) (by kernel_rfl) (by kernel_rfl)
      (OpenSpec.preRow_of_cond 8 hx (by kernel_rfl) (fun k hk => by cases hk) (by kernel_rfl) (laid_met os))) ?_
  intro W base args ds gs before hval hW _ _ hsz hL _ _
  exact contract H enc W base args ds gs before hval hW hL hsz

theorem said : Rows.PredBlanksSaid :=
  OpenClaim.holds_of_cond 4 Tryz.f4 rfl rfl rfl rfl rfl rfl rfl ⟨rfl, rfl, rfl, rfl, rfl⟩ rfl rfl rfl rfl rfl (by kernel_rfl) Tryz.func4 (by kernel_rfl)
    (of_decide_eq_true (by kernel_rfl)) (by unfold Func.isWrapper; first | (rw [if_pos (by decide +kernel)]; kernel_rfl) | (rw [if_neg (by decide +kernel)]; exact ⟨rfl, rfl⟩))
    (fun os started H enc _ F => by rw [OpenClaim.pre_eq_preRow]; exact lifted os started H enc F)

theorem plain (f : FuncId) (fn : Func) (hf : Tryz.pinned.checked.prog.funcNamed "grapevine/grapevinelaw05.PredBlanks" = some f) (hfn : Tryz.pinned.checked.prog.funcs[f]? = some fn) :
    true = Tryz.pinned.checked.prog.looks [] ∧ ∀ (j : Nat) t, fn.params[j]? = some t → Tryz.pinned.checked.prog.wantsStandIn t = false := by
  obtain rfl : f = 4 := Option.some.inj ((show Tryz.prog.funcNamed "grapevine/grapevinelaw05.PredBlanks" = some 4 by kernel_rfl).symm.trans hf) |>.symm
  obtain rfl : fn = Tryz.f4 := (Option.some.inj (Tryz.func4.symm.trans hfn)).symm
  refine ⟨by kernel_rfl, fun j t ht => ?_⟩
  rw [Tryz.params4] at ht
  have hall : ∀ t ∈ (#[9, 5] : Array TypeId), Tryz.prog.wantsStandIn t = false := by
    intro t ht
    simp at ht
    rcases ht with rfl | rfl
    · exact (show Tryz.prog.wantsStandIn 9 = false by kernel_rfl)
    · exact (show Tryz.prog.wantsStandIn 5 = false by kernel_rfl)
  exact hall t (Array.mem_of_getElem? ht)

theorem card : Rows.PredBlanksCardSaid :=
  Claim7.holds_tied_plain_at .later [] _ _ _ _ said (fun _ h => by cases h) (by kernel_rfl) (fun _ h => by cases h) predBlanks_row_tie rfl ⟨rfl, rfl⟩ (by kernel_rfl) rfl plain (by kernel_rfl)
end predBlanks

theorem predBlanks_holds : Rows.PredBlanksCardSaid := predBlanks.card
end Go.Proofs.YteoopoabemeanaaGreatDoor

