/- Proved: for every bytes and place grapevinelaw04.EventTakes answers true and leaves its arguments as they were. No condition. -/
import Derived.Test.YtigmlhieibejoadEvLives
import Derived.Test.YtigmlhieibejoadRefTake
import Derived.Test.YtigmlhieibejoadRefAlike
import Derived.Test.YtigmlhieibejoadFrame
namespace Go.Proofs.Ytigmlhieibejoad
open Go.ChangeShapes Go.WideShapes Go.ChangeAt Go.RowKit
namespace eventTakes

/-- What is taken: at most eight attributes, with right values. -/
theorem evAt_right {bs : List Nat} {x : Int} (hb : ∀ y ∈ bs, y < 256) {l : List At} {c : List Nat} {k f : Nat} (h : evAt bs x = ((l, c), k, f)) : l.length ≤ 8 ∧ ∀ q ∈ l, ∃ L, Val.Bytes q.2 L := by
  by_cases hf : f = 0
  · subst hf
    by_cases hx : x < 0
    · have e : Leb.take bs x = (0, 0, 2) := by unfold Leb.take; rw [if_pos (.inl hx)]
      rw [evAt_err1 (attrsAt_err e (by decide)) (by decide)] at h
      simp at h
    · obtain ⟨p, rfl⟩ := Int.eq_ofNat_of_zero_le (a := x) (by omega)
      obtain ⟨M, ⟨R, h8, hA, _⟩, _⟩ := evAt_once hb h
      refine ⟨h8, ?_⟩
      have go : ∀ l t R, AtsBytes l t R → ∀ q ∈ l, ∃ L, Val.Bytes q.2 L := by
        intro l t R hA
        induction hA using AtsBytes.ind with
        | nil t => intro q hq; cases hq
        | cons l0 v L r t R h1 h2 hn hle hv hr ih =>
          intro q hq
          rcases List.mem_cons.1 hq with rfl | hq
          · exact ⟨L, hv⟩
          · exact ih q hq
      exact go l _ R hA
  · obtain ⟨rfl, _, _⟩ := evAt_bad h hf
    exact ⟨by simp, fun q hq => by cases hq⟩

set_option maxRecDepth 100000 in
set_option maxHeartbeats 1000000 in
theorem walk (a : Option Addr) (len cap : Nat) (bs : List Nat) (x : Int) (w : World) (hr : Rd w a len bs) (hlc : len ≤ cap) (hl : len ≤ 9223372036854775000) (hx : (-9223372036854775808 : Int) ≤ x ∧ x ≤ 9223372036854775807) :
    Calls Try.prog 3 #[.slice a len cap, .int .i64 x] w fun e w' => e = .returned (.bool true) ∧ Below w.heap.size w w' := by
  have HR : Hid (Rd w a len bs) := hr
  have HX : Hid ((-9223372036854775808 : Int) ≤ x ∧ x ≤ 9223372036854775807) := hx
  obtain ⟨l, C, k, f, hV⟩ : ∃ l C k f, evAt bs x = ((l, C), k, f) := ⟨_, _, _, _, rfl⟩
  have HV : Hid (evAt bs x = ((l, C), k, f)) := hV
  have HG : Hid (l.length ≤ 8 ∧ ∀ q ∈ l, ∃ L, Val.Bytes q.2 L) := evAt_right hr.byte hV
  obtain ⟨n, HN⟩ : ∃ n, Hid (l.length = n) := ⟨_, rfl⟩
  obtain ⟨cn, HCN⟩ : ∃ cn, Hid (C.length = cn) := ⟨_, rfl⟩
  clear hr hx hV
  go_enter Try.func3, Try.ntmps3
  go_wp2_with fail
  refine (event_Take a len cap bs x _ HR.out hlc hl HX.out l C k f HV.out).mono ?_
  rintro e w1 ⟨va, vc, rfl, ha1, hc1, hb1⟩
  obtain ⟨aa, ac, rfl⟩ := ha1.form
  obtain ⟨ca, cn1, cc, rfl, hco⟩ := hc1
  obtain rfl : cn1 = cn := by rw [← HCN.out]; exact hco.size.symm
  have HA1 : Hid (AtsRd w1 aa l) := ha1.rd.2
  have HC1 : Hid (Rd w1 ca cn1 C) := hco.rd
  have HB1 : Hid (Below w.heap.size w w1) := hb1
  rw [HN.out]
  clear hb1 ha1 hco
  have HBA : Hid (Below w.heap.size w (w1.alloc (.cells #[.slice aa n ac, .slice ca cn1 cc] 25))) := HB1.out.alloc HB1.out.size _
  go_wp2_with fail
  refine (ref_TakeEv a len cap bs x _ (HR.out.below HBA.out) hlc hl HX.out l C k f HV.out).mono ?_
  rintro e w2 ⟨va2, vc2, rfl, ha2, hc2, hb2⟩
  obtain ⟨aa2, ac2, rfl⟩ := ha2.form
  obtain ⟨ca2, cn2, cc2, rfl, hco2⟩ := hc2
  obtain rfl : cn2 = cn1 := by rw [← HCN.out]; exact hco2.size.symm
  have HB2 : Hid (Below w.heap.size w w2) := HBA.out.trans (hb2.mono HBA.out.size)
  have HA2 : Hid (AtsRd w2 aa2 l) := ha2.rd.2
  have HC2 : Hid (Rd w2 ca2 cn2 C) := hco2.rd
  have hb12 : Below w1.heap.size w1 w2 := (below_alloc w1 _).trans (hb2.mono (by simp))
  have HA12 : Hid (AtsRd w2 aa l) := HA1.out.below hb12
  have HC12 : Hid (Rd w2 ca cn2 C) := HC1.out.below hb12
  have HK1 : Hid (Blk w2 w1.heap.size #[.slice aa n ac, .slice ca cn2 cc] 25) := (Blk.new w1 _ _).stay hb2
  rw [HN.out]
  clear hb2 ha2 hco2 hb12 HA1 HC1
  go_wp2_with fail
  refine (law_live _).mono ?_
  rintro e w3 ⟨rfl, hb3⟩
  have hb23 : Below w2.heap.size w2 w3 := (below_alloc w2 _).trans (hb3.mono (by simp))
  have HK3 : Hid (Blk w3 w1.heap.size #[.slice aa n ac, .slice ca cn2 cc] 25) := HK1.out.stay hb23
  have HK4 : Hid (Blk w3 w2.heap.size #[.slice aa2 n ac2, .slice ca2 cn2 cc2] 25) := (Blk.new w2 _ _).stay hb3
  have k0 : w3.cell? ⟨w1.heap.size, 0, none⟩ = some (.slice aa n ac) := HK3.out.cell 0 rfl
  have k1 : w3.cell? ⟨w1.heap.size, 1, none⟩ = some (.slice ca cn2 cc) := HK3.out.cell 1 rfl
  have k2 : w3.cell? ⟨w2.heap.size, 0, none⟩ = some (.slice aa2 n ac2) := HK4.out.cell 0 rfl
  have k3 : w3.cell? ⟨w2.heap.size, 1, none⟩ = some (.slice ca2 cn2 cc2) := HK4.out.cell 1 rfl
  have HB3 : Hid (Below w.heap.size w w3) := HB2.out.trans (hb23.mono HB2.out.size)
  have HB23 : Hid (Below w2.heap.size w2 w3) := hb23
  clear hb3 hb23 HK3 HK4 HK1
  have hn8 : n ≤ 8 := by rw [← HN.out]; exact HG.out.1
  go_wp2_with fail
  refine (ref_Alike aa aa2 ca ca2 n ac ac2 cn2 cc cc2 l C _ (HA12.out.below HB23.out) (HA2.out.below HB23.out) HN.out hn8 (HC12.out.below HB23.out) (HC2.out.below HB23.out) HG.out.2).mono ?_
  rintro e w4 ⟨rfl, hb4⟩
  have HB4 : Hid (Below w.heap.size w w4) := HB3.out.trans (hb4.mono HB3.out.size)
  clear hb4 k0 k1 k2 k3
  go_wp2
  go_ret
  exact ⟨rfl, HB4.out⟩

theorem contract (H : Type) (enc : TypeId × Value → H) (W : World) (base : Nat) (args : Array Value) (ds gs : List (DataW H)) (before : List MemPlace)
    (hval : ∀ (j : Nat) t v, Try.f3.params[j]? = some t → args[j]? = some v → Value.okWide Try.prog W .any base t v)
    (hW : DataW.Whole enc Try.prog Try.f3.params.toList Rows.eventTakesSpec.vars false W args.toList ds gs before) (hsz0 : (DataW.weightsEach Try.prog (Try.f3.params.toList ++ Rows.eventTakesSpec.plain.varTypes Try.prog) (ds ++ gs)).all (· ≤ reachBytes) = true) :
    Calls Try.prog 3 args W fun e W' => ∃ v, e = .returned v ∧ Rows.eventTakesSpec.post enc Try.prog Try.f3 false true false false W args v W' := by
  have hW' := hW
  obtain ⟨p, q, hA0, hV, rfl, hfz, hnd⟩ := hW
  have hA : DataW.TrodAll enc Try.prog W 0 (fun _ => true) true Try.f3.params.toList args.toList ds p := hA0
  have hK := hA
  have hsz := hsz0
  rw [Try.params3] at hA hval hsz
  obtain ⟨v0, vs0, d0, ds0, p0, q0, hargs, rfl, rfl, h0, r0⟩ := trodAll_cons hA
  obtain ⟨v1, vs1, d1, ds1, p1, q1, rfl, rfl, rfl, h1, r1⟩ := trodAll_cons r0
  obtain ⟨rfl, rfl, rfl⟩ := trodAll_nil r1
  obtain rfl : args = #[v0, v1] := by cases args; simp_all
  obtain ⟨rfl, rfl⟩ := trodVars_none hV
  obtain ⟨a0, len0, cap0, rfl⟩ := okWide_slice Try.underlying22 (hval 0 22 v0 rfl rfl)
  obtain ⟨bs0, rd0, lc0, cm0, bk0, nc0, fm0⟩ := rd_of h0
  have sz0 := reach_of hsz (j := 0) fm0 rfl rfl
  obtain ⟨x1, rfl, rfl, rfl, w1⟩ := open_int Try.underlying3 (hval 1 3 v1 rfl rfl) h1
  have b1 : (-9223372036854775808 : Int) ≤ x1 ∧ x1 ≤ 9223372036854775807 := by simpa [Lit.wf, IntKind.min, IntKind.max, IntKind.signed, IntKind.bits] using w1
  refine (walk a0 len0 cap0 bs0 x1 W rd0 lc0 (by omega) b1).mono fun e W' ⟨he, bel⟩ => ?_
  subst he
  exact ⟨_, rfl, _, _, _, [], _, [], hW', trodAll_mk1 (shut_bool Try.underlying4 _), trodAll_below laidOut bel _ _ _ _ (by kernel_rfl) hK, rfl, bel.frame _, fun h => by cases h⟩

set_option maxRecDepth 100000 in
theorem lifted (os : Os) (started : os.Started) (H : Type) (enc : TypeId × Value → H) :
    ReturnsInHanded {} Try.checked os 3 .any (Rows.eventTakesSpec.pre6 enc Try.prog Try.f3 Rows.eventTakesRow.domain false) (Rows.eventTakesSpec.post enc Try.prog Try.f3 false true false false) := by
  refine returnsInHanded_of_change_sized (C := Try.checked) own started (by kernel_rfl) Try.func3
    (ChangeSpec.witness6 (enc := enc) (C := Try.checked) false ⟨#[], #[.slice none 0 0, .int .i64 0], []⟩ 8 (by kernel_rfl) (by kernel_rfl) (by kernel_rfl) (by kernel_rfl)) ?_
  intro W base args ds gs before hval hW _ hsz _
  exact contract H enc W base args ds gs before hval hW hsz

theorem said : Rows.EventTakesSaid :=
  OpenClaim.holds_of_wide 3 Try.f3 rfl rfl rfl rfl rfl rfl rfl ⟨rfl, rfl, rfl, rfl, rfl⟩ rfl rfl rfl rfl rfl (by kernel_rfl) Try.func3 (by kernel_rfl)
    (of_decide_eq_true (by kernel_rfl)) (by unfold Func.isWrapper; first | (rw [if_pos (by decide +kernel)]; kernel_rfl) | (rw [if_neg (by decide +kernel)]; exact ⟨rfl, rfl⟩))
    (fun os started H enc _ => lifted os started H enc)
end eventTakes

theorem eventTakes_holds : Rows.EventTakesSaid := eventTakes.said
end Go.Proofs.Ytigmlhieibejoad

