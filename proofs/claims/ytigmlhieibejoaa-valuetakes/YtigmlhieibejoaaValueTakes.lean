/- Proved: for every bytes and place grapevinelaw03.ValueTakes answers true and leaves its arguments as they were. No condition. -/
import Derived.Test.YtigmlhieibejoaaValLive
import Derived.Test.YtigmlhieibejoaaValRefAll
import Derived.Test.YtigmlhieibejoaaFrame
namespace Go.Proofs.Ytigmlhieibejoaa
open Go.ChangeShapes Go.WideShapes Go.ChangeAt Go.RowKit
namespace valueTakes

theorem order0 : Ieee.double.order 0 0 = some .eq := by kernel_rfl

theorem pointAt_near {bs : List Nat} {x : Int} (hb : ∀ y ∈ bs, y < 256) {n m : Int} {k : Nat} (h : pointAt bs x = (n, m, k, 0)) : near n ∧ near m := by
  rcases h1 : partAt bs x with ⟨n1, k1, f1⟩
  by_cases hf : f1 = 0
  · subst hf
    rcases h2 : partAt bs (k1 : Int) with ⟨n2, k2, f2⟩
    by_cases hg : f2 = 0
    · subst hg
      rw [pointAt_ok h1 h2] at h
      simp only [Prod.mk.injEq] at h
      obtain ⟨rfl, rfl, _⟩ := h
      exact ⟨(partAt_place hb h1).2, (partAt_place hb h2).2⟩
    · rw [pointAt_err2 h1 h2 hg] at h
      simp only [Prod.mk.injEq] at h
      exact absurd h.2.2.2 hg
  · rw [pointAt_err1 h1 hf] at h
    simp only [Prod.mk.injEq] at h
    exact absurd h.2.2.2 hf

theorem order_val {bs : List Nat} {x : Int} (hb : ∀ y ∈ bs, y < 256) : Ieee.double.order (valAt bs x).1.re (valAt bs x).1.re = some .eq ∧ Ieee.double.order (valAt bs x).1.im (valAt bs x).1.im = some .eq := by
  have hz : Ieee.double.order Val.zero.re Val.zero.re = some .eq ∧ Ieee.double.order Val.zero.im Val.zero.im = some .eq := ⟨order0, order0⟩
  unfold valAt
  split
  · exact hz
  · split
    · exact hz
    · generalize bs.getD x.toNat 0 = c
      generalize x.toNat + 1 = p
      unfold bodyAt
      split
      · split
        · exact ⟨order0, order0⟩
        · exact hz
      · split
        · split
          · exact ⟨order0, order0⟩
          · exact hz
        · split
          · split
            · exact ⟨order0, order0⟩
            · exact hz
          · split
            · split
              · rename_i n m k h
                obtain ⟨h1, h2⟩ := pointAt_near hb h
                exact ⟨Flt.order_self n (near_abs h1), Flt.order_self m (near_abs h2)⟩
              · exact hz
            · exact hz

set_option maxRecDepth 100000 in
set_option maxHeartbeats 1000000 in
theorem walk (a : Option Addr) (len cap : Nat) (bs : List Nat) (x : Int) (w : World) (hr : Rd w a len bs) (hlc : len ≤ cap) (hl : len ≤ 9223372036854775000) (hx : (-9223372036854775808 : Int) ≤ x ∧ x ≤ 9223372036854775807) :
    Calls Try.prog 3 #[.slice a len cap, .int .i64 x] w fun e w' => e = .returned (.bool true) ∧ Below w.heap.size w w' := by
  have hcx : ∀ (a : Addr) (m : Mode) (W : World) (x y : Nat), (store a (.complex .f64 x y) m).run Try.prog W = stored Try.prog W a (.complex .f64 x y) m := fun a m W x y => run_store _ _ _ _ _ rfl
  have HR : Hid (Rd w a len bs) := hr
  have HX : Hid ((-9223372036854775808 : Int) ≤ x ∧ x ≤ 9223372036854775807) := hx
  have hord := order_val (x := x) hr.byte
  obtain ⟨v, k, f, hV⟩ : ∃ v k f, valAt bs x = (v, k, f) := ⟨_, _, _, rfl⟩
  rw [hV] at hord
  have HV : Hid (valAt bs x = (v, k, f)) := hV
  have HS : Hid (∀ w : World, Calls Try.prog 7 #[.agg v.cells, .agg v.cells] w fun e w' => e = .returned (.bool true) ∧ Below w.heap.size w w') := fun w => law_same v w hord.1 hord.2
  clear hr hx hV hord
  obtain ⟨vk, vw, vs, vt, vx, vy⟩ := v
  go_enter Try.func3, Try.ntmps3
  go_wp2_with fail
  refine (value_Take a len cap bs x _ HR.out hlc hl HX.out).mono ?_
  rw [HV.out]
  rintro e w1 ⟨rfl, hb1⟩
  simp only [toldV, Val.cells] at *
  have HB1 : Hid (Below w.heap.size w w1) := hb1
  clear hb1
  go_wp2_with fail
  refine (ref_Take a len cap bs x _ (HR.out.below (HB1.out.alloc HB1.out.size _)) hlc hl).mono ?_
  rw [HV.out]
  rintro e w2 ⟨rfl, hb2⟩
  simp only [toldV, Val.cells] at *
  obtain ⟨⟨k0, k1, k2, k3, k4⟩, _⟩ := kept5 hb2
  have HB2 : Hid (Below w.heap.size w w2) := (HB1.out.alloc HB1.out.size _).trans (hb2.mono (HB1.out.alloc HB1.out.size _).size)
  clear hb2
  go_wp2_with fail
  refine (law_live _).mono ?_
  rintro e w3 ⟨rfl, hb3⟩
  obtain ⟨⟨m0, m1, m2, m3, m4⟩, _⟩ := kept5 hb3
  have HB3 : Hid (Below w.heap.size w w3) := (HB2.out.alloc HB2.out.size _).trans (hb3.mono (HB2.out.alloc HB2.out.size _).size)
  have HQ : Hid (Below w2.heap.size w2 w3) := (below_alloc w2 _).trans (hb3.mono (by simp))
  have n0 := keptAt HQ.out k0
  have n1 := keptAt HQ.out k1
  have n2 := keptAt HQ.out k2
  have n3 := keptAt HQ.out k3
  have n4 := keptAt HQ.out k4
  clear hb3 HQ k0 k1 k2 k3 k4
  go_wp2_with fail
  refine (HS.out _).mono ?_
  rintro e w4 ⟨rfl, hb4⟩
  have HB4 : Hid (Below w.heap.size w w4) := HB3.out.trans (hb4.mono HB3.out.size)
  clear hb4 n0 n1 n2 n3 n4 m0 m1 m2 m3 m4
  go_wp2
  go_ret
  exact ⟨rfl, HB4.out⟩

theorem contract (H : Type) (enc : TypeId × Value → H) (W : World) (base : Nat) (args : Array Value) (ds gs : List (DataW H)) (before : List MemPlace)
    (hval : ∀ (j : Nat) t v, Try.f3.params[j]? = some t → args[j]? = some v → Value.okWide Try.prog W .any base t v)
    (hW : DataW.Whole enc Try.prog Try.f3.params.toList Rows.valueTakesSpec.vars false W args.toList ds gs before) (hsz0 : (DataW.weightsEach Try.prog (Try.f3.params.toList ++ Rows.valueTakesSpec.plain.varTypes Try.prog) (ds ++ gs)).all (· ≤ reachBytes) = true) :
    Calls Try.prog 3 args W fun e W' => ∃ v, e = .returned v ∧ Rows.valueTakesSpec.post enc Try.prog Try.f3 false true false false W args v W' := by
  have hW' := hW
  obtain ⟨p, q, hA0, hV, rfl, hfz, hnd⟩ := hW
  have hA : DataW.TrodAll enc Try.prog W 0 (fun _ => true) true Try.f3.params.toList args.toList ds p := hA0
  have hK := hA
  have hsz := hsz0
  rw [Try.params3] at hA hval hsz
  obtain ⟨v0, vs0, d0, ds0, p0, q0, hargs, rfl, rfl, h0, r0⟩ := trodAll_cons hA
  obtain ⟨v1, vs1, d1, ds1, p1, q1, rfl, rfl, rfl, h1, r1⟩ := trodAll_cons r0
  obtain ⟨rfl, rfl, rfl⟩ := trodAll_nil r1
  obtain rfl : args = #[v0, v1] := by cases args; simp_all
  obtain ⟨rfl, rfl⟩ := trodVars_none hV
  obtain ⟨a0, len0, cap0, rfl⟩ := okWide_slice Try.underlying22 (hval 0 22 v0 rfl rfl)
  obtain ⟨bs0, rd0, lc0, cm0, bk0, nc0, fm0⟩ := rd_of h0
  have sz0 := reach_of hsz (j := 0) fm0 rfl rfl
  obtain ⟨x1, rfl, rfl, rfl, w1⟩ := open_int Try.underlying3 (hval 1 3 v1 rfl rfl) h1
  have b1 : (-9223372036854775808 : Int) ≤ x1 ∧ x1 ≤ 9223372036854775807 := by simpa [Lit.wf, IntKind.min, IntKind.max, IntKind.signed, IntKind.bits] using w1
  refine (walk a0 len0 cap0 bs0 x1 W rd0 lc0 (by omega) b1).mono fun e W' ⟨he, bel⟩ => ?_
  subst he
  exact ⟨_, rfl, _, _, _, [], _, [], hW', trodAll_mk1 (shut_bool Try.underlying4 _), trodAll_below laidOut bel _ _ _ _ (by kernel_rfl) hK, rfl, bel.frame _, fun h => by cases h⟩

set_option maxRecDepth 100000 in
theorem lifted (os : Os) (started : os.Started) (H : Type) (enc : TypeId × Value → H) :
    ReturnsInHanded {} Try.checked os 3 .any (Rows.valueTakesSpec.pre6 enc Try.prog Try.f3 Rows.valueTakesRow.domain false) (Rows.valueTakesSpec.post enc Try.prog Try.f3 false true false false) := by
  refine returnsInHanded_of_change_sized (C := Try.checked) own started (by kernel_rfl) Try.func3
    (ChangeSpec.witness6 (enc := enc) (C := Try.checked) false ⟨#[], #[.slice none 0 0, .int .i64 0], []⟩ 8 (by kernel_rfl) (by kernel_rfl) (by kernel_rfl) (by kernel_rfl)) ?_
  intro W base args ds gs before hval hW _ hsz _
  exact contract H enc W base args ds gs before hval hW hsz

theorem said : Rows.ValueTakesSaid :=
  OpenClaim.holds_of_wide 3 Try.f3 rfl rfl rfl rfl rfl rfl rfl ⟨rfl, rfl, rfl, rfl, rfl⟩ rfl rfl rfl rfl rfl (by kernel_rfl) Try.func3 (by kernel_rfl)
    (of_decide_eq_true (by kernel_rfl)) (by unfold Func.isWrapper; first | (rw [if_pos (by decide +kernel)]; kernel_rfl) | (rw [if_neg (by decide +kernel)]; exact ⟨rfl, rfl⟩))
    (fun os started H enc _ => lifted os started H enc)
end valueTakes

theorem valueTakes_holds : Rows.ValueTakesSaid := valueTakes.said
end Go.Proofs.Ytigmlhieibejoaa

