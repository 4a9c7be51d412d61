/- Proved: for every two numbers and bytes grapevinelaw16.BrokerNone answers true and leaves its arguments as they were. Its condition: the package-level table seal.steps holds what its initialiser lays (the card ties that to the program's text). -/
import Derived.Test.YtoiennkfdjnkbaaGreatDoorPk50
import Derived.Test.YtoiennkfdjnkbaaGreatDoorPk23
import Derived.Test.YtoiennkfdjnkbaaGreatDoorBrE
namespace Go.Proofs.YtoiennkfdjnkbaaGreatDoor
open Go.ChangeShapes Go.WideShapes Go.ChangeAt Go.RowKit
namespace brokerNone
set_option maxRecDepth 100000 in
set_option maxHeartbeats 8000000 in
theorem walk (x y : Int) (a : Option Addr) (n c : Nat) (w : World) : Calls Tryz.prog 4 #[.int .i64 x, .int .i64 y, .slice a n c] w fun e w' => e = .returned (.bool true) ∧ Below w.heap.size w w' := by
 have HWO := law_word1 w
 go_enter Tryz.func4, Tryz.ntmps4
 go_wp2_with fail
 refine HWO.mono ?_
 rintro e w1 ⟨⟨gw, rfl, _⟩, hb1⟩
 have HX1 : Hid (Below w.heap.size w w1) := hb1
 clear hb1 HWO
 have HPB := nilB_Publish x (some ⟨gw, 0, none⟩) 1 1 y w1
 go_wp2_with fail
 refine HPB.mono ?_
 rintro e w2 ⟨rfl, hb2⟩
 have HX2 : Hid (Below w.heap.size w w2) := HX1.out.trans (hb2.mono HX1.out.size)
 clear hb2 HPB
 have HCN := nilB_Connect x w2
 go_wp2_with fail
 refine HCN.mono ?_
 rintro e w0 ⟨rfl, hw⟩
 rw [hw]
 clear hw w0 HCN
 have HDL := nilB_Deliver x w2
 go_wp2_with fail
 refine HDL.mono ?_
 rintro e w3 ⟨rfl, hb3⟩
 have HX3 : Hid (Below w.heap.size w w3) := HX2.out.trans (hb3.mono HX2.out.size)
 clear hb3 HDL
 obtain ⟨W4, HW4⟩ : ∃ W, Hid (W = w3.alloc (.cells #[.int .i64 0, .int .i64 0, .int .i64 0, .int .i64 0, .int .u32 0, .slice none 0 0] 53)) := ⟨_, rfl⟩
 have HX4 : Hid (Below w.heap.size w W4) := by (show Below _ _ _); rw [HW4.out]; exact HX3.out.alloc HX3.out.size _
 have HPU := nilB_Pull x W4
 have HST := nilB_State x W4
 have HLG := nilB_Log x W4
 have HLV := law_live16 W4
 go_upto_region 5 with fail
 rw [← HW4.out]
 go_wp2_with fail
 refine HPU.mono ?_
 rintro e w0 ⟨rfl, hw⟩
 rw [hw]
 clear hw w0 HPU
 go_wp2_with fail
 refine HST.mono ?_
 rintro e w0 ⟨rfl, hw⟩
 rw [hw]
 clear hw w0 HST
 go_wp2_with fail
 refine HLG.mono ?_
 rintro e w0 ⟨rfl, hw⟩
 rw [hw]
 clear hw w0 HLG
 go_wp2_with fail
 refine HLV.mono ?_
 rintro e w5 ⟨rfl, hb5⟩
 have HX5 : Hid (Below w.heap.size w w5) := HX4.out.trans (hb5.mono HX4.out.size)
 clear hb5 HLV
 have HC := nilB_Force x y w5
 go_wp2_with fail
 refine HC.mono ?_
 rintro e w0 ⟨rfl, hw⟩
 rw [hw]
 clear hw w0 HC
 have HC := nilB_Subscribe x w5
 go_wp2_with fail
 refine HC.mono ?_
 rintro e w0 ⟨rfl, hw⟩
 rw [hw]
 clear hw w0 HC
 have HC := nilB_Unsubscribe x w5
 go_wp2_with fail
 refine HC.mono ?_
 rintro e w0 ⟨rfl, hw⟩
 rw [hw]
 clear hw w0 HC
 have HC := nilB_Disconnect x w5
 go_wp2_with fail
 refine HC.mono ?_
 rintro e w0 ⟨rfl, hw⟩
 rw [hw]
 clear hw w0 HC
 have HC := nilB_Ack x y w5
 go_wp2_with fail
 refine HC.mono ?_
 rintro e w0 ⟨rfl, hw⟩
 rw [hw]
 clear hw w0 HC
 have HTI := nilB_Tick x w5
 go_wp2_with fail
 refine HTI.mono ?_
 rintro e w6 ⟨rfl, hb6⟩
 have HX6 : Hid (Below w.heap.size w w6) := HX5.out.trans (hb6.mono HX5.out.size)
 clear hb6 HTI
 have HC := nilB_Take x (.slice a n c) y w6
 go_wp2_with fail
 refine HC.mono ?_
 rintro e w0 ⟨rfl, hw⟩
 rw [hw]
 clear hw w0 HC
 go_wp2
 go_ret
 exact ⟨rfl, HX6.out⟩
set_option maxRecDepth 100000 in
theorem contract (H : Type) (enc : TypeId × Value → H) (W : World) (base : Nat) (args : Array Value) (ds gs : List (DataW H)) (before : List MemPlace)
  (hval : ∀ (j : Nat) t v, Tryz.f4.params[j]? = some t → args[j]? = some v → Value.okWide Tryz.prog W .any base t v)
  (hW : DataW.Whole enc Tryz.prog Tryz.f4.params.toList Rows.brokerNoneSpec.vars false W args.toList ds gs before) :
  Calls Tryz.prog 4 args W fun e W' => ∃ v, e = .returned v ∧ Rows.brokerNoneSpec.post enc Tryz.prog Tryz.f4 false true false false W args v W' := by
 have hW' := hW
 obtain ⟨p, q, hA0, hV, rfl, hfz, hnd⟩ := hW
 have hA : DataW.TrodAll enc Tryz.prog W 0 (fun _ => true) true Tryz.f4.params.toList args.toList ds p := hA0
 have hK := hA
 rw [Tryz.params4] at hA hval
 obtain ⟨v0, vs0, d0, ds0, p0, q0, hargs, rfl, rfl, h0, r0⟩ := trodAll_cons hA
 obtain ⟨v1, vs1, d1, ds1, p1, q1, rfl, rfl, rfl, h1, r1⟩ := trodAll_cons r0
 obtain ⟨v2, vs2, d2, ds2, p2, q2, rfl, rfl, rfl, h2, r2⟩ := trodAll_cons r1
 obtain ⟨rfl, rfl, rfl⟩ := trodAll_nil r2
 obtain rfl : args = #[v0, v1, v2] := by cases args; simp_all
 obtain ⟨rfl, rfl⟩ := trodVars_none hV
 obtain ⟨x0, rfl, rfl, rfl, w0⟩ := open_int Tryz.underlying3 (hval 0 3 v0 rfl rfl) h0
 have b0 : (-9223372036854775808 : Int) ≤ x0 ∧ x0 ≤ 9223372036854775807 := by simpa [Lit.wf, IntKind.min, IntKind.max, IntKind.signed, IntKind.bits] using w0
 obtain ⟨x1, rfl, rfl, rfl, w1⟩ := open_int Tryz.underlying3 (hval 1 3 v1 rfl rfl) h1
 have b1 : (-9223372036854775808 : Int) ≤ x1 ∧ x1 ≤ 9223372036854775807 := by simpa [Lit.wf, IntKind.min, IntKind.max, IntKind.signed, IntKind.bits] using w1
 obtain ⟨a2, len2, cap2, rfl⟩ := okWide_slice Tryz.underlying22 (hval 2 22 v2 rfl rfl)
 refine (walk x0 x1 a2 len2 cap2 W).mono fun e W' ⟨he, bel⟩ => ?_
 subst he
 exact ⟨_, rfl, _, _, _, [], _, [], hW', trodAll_mk1 (shut_bool Tryz.underlying4 _), trodAll_below laidOut bel _ _ _ _ (by kernel_rfl) hK, rfl, bel.frame _, fun h => by cases h⟩
theorem laid_met (os : Os) : laidMet Tryz.prog Rows.brokerNoneRow.laid ((layTab (World.holding Tryz.prog os ⟨#[], #[], []⟩)).forCall (fun _ _ => 0) ⟨#[], #[.int .i64 0, .int .i64 0, .slice none 0 0], []⟩).memory :=
 laidMet_of_run' 8 (by kernel_rfl) (by kernel_rfl)
theorem reads (os : Os) {H : Type} (enc : TypeId × Value → H) : ∃ places, DataW.whole enc Tryz.prog ((layTab (World.holding Tryz.prog os ⟨#[], #[], []⟩)).forCall (fun _ _ => 0) ⟨#[], #[.int .i64 0, .int .i64 0, .slice none 0 0], []⟩).memory Tryz.f4.params.toList Rows.brokerNoneSpec.vars false (#[.int .i64 0, .int .i64 0, .slice none 0 0] : Array Value).toList 8 = some ([.lit (.int .i64 0), .lit (.int .i64 0), .nil], [], places) :=
 ⟨[], by kernel_rfl⟩
set_option maxRecDepth 100000 in
theorem lifted (os : Os) (started : os.Started) (H : Type) (enc : TypeId × Value → H) (F : Stop.Interp) :
  ReturnsInHanded {} Tryz.checked os 4 .any ((OpenSpec.ofChange Rows.brokerNoneSpec).preRow enc Tryz.prog Tryz.f4 Rows.brokerNoneRow.domain false Rows.brokerNoneRow.laid) (((OpenSpec.ofChange Rows.brokerNoneSpec).at F).post enc Tryz.prog Tryz.f4 false true false false) := by
 obtain ⟨places, hx⟩ := reads os enc
 refine returnsInHanded_of_row (C := Tryz.checked) (s := OpenSpec.ofChange Rows.brokerNoneSpec) own started (by kernel_rfl) Tryz.func4
  (witness_row_at (enc := enc) (C := Tryz.checked) false (layTab (World.holding Tryz.prog os ⟨#[], #[], []⟩)) #[.int .i64 0, .int .i64 0, .slice none 0 0] rfl (by kernel_rfl) (by kernel_rfl) (by kernel_rfl)
   (OpenSpec.preRow_of_cond 8 hx (by kernel_rfl) (fun k hk => by cases hk) (by kernel_rfl) (laid_met os))) ?_
 intro W base args ds gs before hval hW _ _ _ _ _ _
 exact contract H enc W base args ds gs before hval hW
theorem said : Rows.BrokerNoneSaid :=
 OpenClaim.holds_of_cond 4 Tryz.f4 rfl rfl rfl rfl rfl rfl rfl ⟨rfl, rfl, rfl, rfl, rfl⟩ rfl rfl rfl rfl rfl brokerNoneC.named_ Tryz.func4 brokerNoneC.facts
  brokerNoneC.inst brokerNoneC.wrap
  (fun os started H enc _ F => by rw [OpenClaim.pre_eq_preRow]; exact lifted os started H enc F)
theorem plain (f : FuncId) (fn : Func) (hf : Tryz.pinned.checked.prog.funcNamed "grapevine/grapevinelaw16.BrokerNone" = some f) (hfn : Tryz.pinned.checked.prog.funcs[f]? = some fn) :
  true = Tryz.pinned.checked.prog.looks [] ∧ ∀ (j : Nat) t, fn.params[j]? = some t → Tryz.pinned.checked.prog.wantsStandIn t = false := by
 obtain rfl : f = 4 := Option.some.inj ((show Tryz.prog.funcNamed "grapevine/grapevinelaw16.BrokerNone" = some 4 by kernel_rfl).symm.trans hf) |>.symm
 obtain rfl : fn = Tryz.f4 := (Option.some.inj (Tryz.func4.symm.trans hfn)).symm
 refine ⟨brokerNoneC.looks, fun j t ht => ?_⟩
 rw [Tryz.params4] at ht
 have hall : ∀ t ∈ (#[3, 3, 22] : Array TypeId), Tryz.prog.wantsStandIn t = false := by
  intro t ht
  simp at ht
  rcases ht with rfl | rfl
  ·exact (show Tryz.prog.wantsStandIn 3 = false by kernel_rfl)
  ·exact (show Tryz.prog.wantsStandIn 22 = false by kernel_rfl)
 exact hall t (Array.mem_of_getElem? ht)
theorem card : Rows.BrokerNoneCardSaid :=
 Claim7.holds_tied_plain_at .later [] _ _ _ _ said (fun _ h => by cases h) brokerNoneC.wf (fun _ h => by cases h) brokerNone_row_tie rfl ⟨rfl, rfl⟩ (by kernel_rfl) rfl plain brokerNoneC.goes
end brokerNone
theorem brokerNone_holds : Rows.BrokerNoneCardSaid := brokerNone.card
end Go.Proofs.YtoiennkfdjnkbaaGreatDoor
