/- Proved: for every row of bytes and every place grapevinelaw02.OctetTakesUint answers true and leaves its arguments as they were. No condition. -/
import Derived.Test.YtpkhkhoajaobkacPut
import Derived.Test.YtpkhkhoajaobkacTake
import Derived.Test.YtpkhkhoajaobkacFrame
namespace Go.Proofs.Ytpkhkhoajaobkac
open Go.ChangeShapes Go.WideShapes Go.ChangeAt Go.RowKit
namespace octetTakesUint

theorem leb0 : (Leb.leb 0).length = 1 := by decide

set_option maxHeartbeats 400000 in
theorem walk (a : Option Addr) (len cap : Nat) (bs : List Nat) (x : Int) (w : World) (hr : Rd w a len bs) (hl : len ≤ 9223372036854775000) (hx : (-9223372036854775808 : Int) ≤ x ∧ x ≤ 9223372036854775807) :
    Calls Try.prog 4 #[.slice a len cap, .int .i64 x] w fun e w' => e = .returned (.bool true) ∧ Below w.heap.size w w' := by
  have HR : Hid (Rd w a len bs) := hr
  have HX : Hid ((-9223372036854775808 : Int) ≤ x ∧ x ≤ 9223372036854775807) := hx
  clear hr hx
  go_enter Try.func4, Try.ntmps4
  go_wp2_with fail
  refine (octet_TakeUint a len cap bs x w HR.out hl HX.out).mono ?_
  rintro e w1 ⟨rfl, rfl⟩
  unfold told
  go_wp2_with fail
  refine (ref_TakeUint a len cap bs x w1 HR.out hl HX.out).mono ?_
  rintro e w2 ⟨rfl, rfl⟩
  unfold told
  go_wp2_with fail
  refine (octet_Uint 0 (by omega) w2).mono ?_
  rintro e w3 ⟨a3, c3, rfl, _, _, hb3⟩
  rw [leb0]
  have HB : Hid (Below w2.heap.size w2 w3) := hb3
  clear hb3
  go_wp2
  go_ret
  exact ⟨rfl, HB.out⟩

theorem contract (H : Type) (enc : TypeId × Value → H) (W : World) (base : Nat) (args : Array Value) (ds gs : List (DataW H)) (before : List MemPlace)
    (hval : ∀ (j : Nat) t v, Try.f4.params[j]? = some t → args[j]? = some v → Value.okWide Try.prog W .any base t v)
    (hW : DataW.Whole enc Try.prog Try.f4.params.toList Rows.octetTakesUintSpec.vars false W args.toList ds gs before) (hsz0 : (DataW.weightsEach Try.prog (Try.f4.params.toList ++ Rows.octetTakesUintSpec.plain.varTypes Try.prog) (ds ++ gs)).all (· ≤ reachBytes) = true) :
    Calls Try.prog 4 args W fun e W' => ∃ v, e = .returned v ∧ Rows.octetTakesUintSpec.post enc Try.prog Try.f4 false true false false W args v W' := by
  have hW' := hW
  obtain ⟨p, q, hA0, hV, rfl, hfz, hnd⟩ := hW
  have hA : DataW.TrodAll enc Try.prog W 0 (fun _ => true) true Try.f4.params.toList args.toList ds p := hA0
  have hK := hA
  have hsz := hsz0
  rw [Try.params4] at hA hval hsz
  obtain ⟨v0, vs0, d0, ds0, p0, q0, hargs, rfl, rfl, h0, r0⟩ := trodAll_cons hA
  obtain ⟨v1, vs1, d1, ds1, p1, q1, rfl, rfl, rfl, h1, r1⟩ := trodAll_cons r0
  obtain ⟨rfl, rfl, rfl⟩ := trodAll_nil r1
  obtain rfl : args = #[v0, v1] := by cases args; simp_all
  obtain ⟨rfl, rfl⟩ := trodVars_none hV
  obtain ⟨a0, len0, cap0, rfl⟩ := okWide_slice Try.underlying23 (hval 0 23 v0 rfl rfl)
  obtain ⟨bs0, rd0, lc0, cm0, bk0, nc0, fm0⟩ := rd_of h0
  have sz0 := reach_of hsz (j := 0) fm0 rfl rfl
  obtain ⟨x1, rfl, rfl, rfl, w1⟩ := open_int Try.underlying3 (hval 1 3 v1 rfl rfl) h1
  have b1 : (-9223372036854775808 : Int) ≤ x1 ∧ x1 ≤ 9223372036854775807 := by simpa [Lit.wf, IntKind.min, IntKind.max, IntKind.signed, IntKind.bits] using w1
  refine (walk a0 len0 cap0 bs0 x1 W rd0 (by omega) b1).mono fun e W' ⟨he, bel⟩ => ?_
  subst he
  exact ⟨_, rfl, _, _, _, [], _, [], hW', trodAll_mk1 (shut_bool Try.underlying4 _), trodAll_below laidOut bel _ _ _ _ (by kernel_rfl) hK, rfl, bel.frame _, fun h => by cases h⟩

set_option maxRecDepth 100000 in
theorem lifted (os : Os) (started : os.Started) (H : Type) (enc : TypeId × Value → H) :
    ReturnsInHanded {} Try.checked os 4 .any (Rows.octetTakesUintSpec.pre6 enc Try.prog Try.f4 Rows.octetTakesUintRow.domain false) (Rows.octetTakesUintSpec.post enc Try.prog Try.f4 false true false false) := by
  refine returnsInHanded_of_change_sized (C := Try.checked) own started (by kernel_rfl) Try.func4
    (ChangeSpec.witness6 (enc := enc) (C := Try.checked) false ⟨#[], #[.slice none 0 0, .int .i64 0], []⟩ 8 (by kernel_rfl) (by kernel_rfl) (by kernel_rfl) (by kernel_rfl)) ?_
  intro W base args ds gs before hval hW _ hsz _
  exact contract H enc W base args ds gs before hval hW hsz

theorem said : Rows.OctetTakesUintSaid :=
  OpenClaim.holds_of_wide 4 Try.f4 rfl rfl rfl rfl rfl rfl rfl ⟨rfl, rfl, rfl, rfl, rfl⟩ rfl rfl rfl rfl rfl (by kernel_rfl) Try.func4 (by kernel_rfl)
    (of_decide_eq_true (by kernel_rfl)) (by unfold Func.isWrapper; first | (rw [if_pos (by decide +kernel)]; kernel_rfl) | (rw [if_neg (by decide +kernel)]; exact ⟨rfl, rfl⟩))
    (fun os started H enc _ => lifted os started H enc)
end octetTakesUint

theorem octetTakesUint_holds : Rows.OctetTakesUintSaid := octetTakesUint.said
end Go.Proofs.Ytpkhkhoajaobkac

