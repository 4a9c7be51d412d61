/- Proved: for every bytes and place to cut grapevinelaw03.ValueOnce answers true and leaves its arguments as they were. No condition. -/
import Derived.Test.YtigmlhieibejoabValLive
import Derived.Test.YtigmlhieibejoabValPutB
import Derived.Test.YtigmlhieibejoabFrame
import Derived.BigQuiet
namespace Go.Proofs.Ytigmlhieibejoab
open Go.ChangeShapes Go.WideShapes Go.ChangeAt Go.RowKit
namespace valueOnce

theorem order0 : Ieee.double.order 0 0 = some .eq := by kernel_rfl
theorem below_drewN (w : World) (n : Nat) : Below w.heap.size w (w.drewN n) := ⟨rfl, rfl, rfl, Nat.le_refl _, fun _ _ => rfl⟩

theorem cap_ok {w : World} {base : Nat} {a : Option Addr} {len cap : Nat} {bs : List Nat} (h : Own w base a len cap bs) : len ≤ cap := by
  rcases h.row.2 with ⟨hv, h0⟩ | ⟨g, c, cur, hv, _, _, hlc, _⟩
  · omega
  · simp only [Value.slice.injEq] at hv
    omega

/-- The first bytes of a row. -/
theorem Rd.take {w : World} {a : Option Addr} {len : Nat} {bs : List Nat} (h : Rd w a len bs) (k : Nat) (hk : k ≤ len) : Rd w a k (bs.take k) := by
  refine ⟨by rw [List.length_take, h.size]; omega, fun y hy => h.byte y (List.mem_of_mem_take hy), ?_⟩
  by_cases h0 : k = 0
  · exact .inl h0
  · rcases h.cells with h1 | ⟨b, off, e, hlt, hc⟩
    · omega
    · refine .inr ⟨b, off, e, hlt, fun i hi => ?_⟩
      rw [hc i (by omega)]
      simp only [List.getD_eq_getElem?_getD, List.getElem?_take_of_lt hi]

set_option maxRecDepth 100000 in
set_option maxHeartbeats 1000000 in
theorem walk_err (a : Option Addr) (len cap : Nat) (bs : List Nat) (K : Nat) (w : World) (hr : Rd w a len bs) (hlc : len ≤ cap) (hl : len ≤ 9223372036854775000) (v : Val) (k f : Nat) (hV : valAt bs 0 = (v, k, f)) (hf : f ≠ 0) :
    Calls Try.prog 3 #[.slice a len cap, .int .u16 (K : Int)] w fun e w' => e = .returned (.bool true) ∧ Below w.heap.size w w' := by
  have hcx : ∀ (a : Addr) (m : Mode) (W : World) (x y : Nat), (store a (.complex .f64 x y) m).run Try.prog W = stored Try.prog W a (.complex .f64 x y) m := fun a m W x y => run_store _ _ _ _ _ rfl
  have HR : Hid (Rd w a len bs) := hr
  obtain ⟨rfl, rfl⟩ := valAt_bad hV hf
  have HV : Hid (valAt bs 0 = (Val.zero, 0, f)) := hV
  have HS : Hid (∀ w : World, Calls Try.prog 6 #[.agg Val.zero.cells, .agg Val.zero.cells] w fun e w' => e = .returned (.bool true) ∧ Below w.heap.size w w') := fun w => law_same Val.zero w order0 order0
  clear hr hV
  have hf' : (f : Int) ≠ 0 := by omega
  go_enter Try.func3, Try.ntmps3
  go_wp2_with fail
  refine (value_Take a len cap bs 0 _ HR.out hlc hl (by omega)).mono ?_
  rw [HV.out]
  rintro e w1 ⟨rfl, hb1⟩
  simp only [toldV, Val.cells, Val.zero] at *
  have HB1 : Hid (Below w.heap.size w w1) := hb1
  clear hb1
  go_wp2_with fail
  refine (law_live _).mono ?_
  rintro e w3 ⟨rfl, hb3⟩
  obtain ⟨⟨m0, m1, m2, m3, m4⟩, _⟩ := kept5 hb3
  have HB3 : Hid (Below w.heap.size w w3) := (HB1.out.alloc HB1.out.size _).trans (hb3.mono (HB1.out.alloc HB1.out.size _).size)
  clear hb3
  go_wp2_with fail
  refine (HS.out _).mono ?_
  rintro e w4 ⟨rfl, hb4⟩
  have HB4 : Hid (Below w.heap.size w w4) := HB3.out.trans (hb4.mono HB3.out.size)
  clear hb4 m0 m1 m2 m3 m4
  go_wp2
  go_ret
  exact ⟨rfl, HB4.out⟩

set_option maxRecDepth 100000 in
set_option maxHeartbeats 1000000 in
theorem walk_ok (a : Option Addr) (len cap : Nat) (bs : List Nat) (K : Nat) (hK : K < 65536) (w : World) (hr : Rd w a len bs) (hlc : len ≤ cap) (hl : len ≤ 9223372036854775000) (v : Val) (k : Nat) (hV : valAt bs 0 = (v, k, 0)) :
    Calls Try.prog 3 #[.slice a len cap, .int .u16 (K : Int)] w fun e w' => e = .returned (.bool true) ∧ Below w.heap.size w w' := by
  have hcx : ∀ (a : Addr) (m : Mode) (W : World) (x y : Nat), (store a (.complex .f64 x y) m).run Try.prog W = stored Try.prog W a (.complex .f64 x y) m := fun a m W x y => run_store _ _ _ _ _ rfl
  obtain ⟨L, hL, h1, h2, h3⟩ := valAt_once (p := 0) hr.byte hV
  rw [Nat.zero_add] at h2
  rw [List.drop_zero] at h3
  have hLen := hL.length
  rw [← h2] at h3 hLen
  rw [hr.size] at h1
  have HPut : Hid (∀ w : World, Calls Try.prog 7 #[.agg v.cells] w fun e w' => ∃ a c, e = .returned (.tuple #[.slice a k c, .int .i64 0]) ∧ a ≠ none ∧ Own w' w.heap.size a k c L ∧ Below w.heap.size w w') := fun w => value_Put v L hL k h2.symm w
  obtain ⟨j, HJ⟩ : ∃ j, Hid (K % k = j) := ⟨_, rfl⟩
  have hj : j < k := by rw [← HJ.out]; exact Nat.mod_lt _ (by omega)
  have HCut : Hid (valAt (L.take j) 0 = (Val.zero, 0, 3)) := by
    show _ = _
    have := valAt_cut hL [] j (by omega)
    simpa using this
  have HR : Hid (Rd w a len bs) := hr
  have HV : Hid (valAt bs 0 = (v, k, 0)) := hV
  have HT3 : Hid (bs.take k = L) := h3
  obtain ⟨S, HSS⟩ : ∃ S, Hid (str L = S) := ⟨_, rfl⟩
  have hk1 := hLen.1
  have hk3 := hLen.2.1
  have hne : a ≠ none := by
    rcases hr.cells with h0 | ⟨b, off, e, _⟩
    · omega
    · rw [e]; simp
  clear hr hV h3 h2 hLen hL
  obtain ⟨vk, vw, vs, vt, vx, vy⟩ := v
  go_enter Try.func3, Try.ntmps3
  go_wp2_with fail
  refine (value_Take a len cap bs 0 _ HR.out hlc hl (by omega)).mono ?_
  rw [HV.out]
  rintro e w1 ⟨rfl, hb1⟩
  simp only [toldV, Val.cells] at *
  have HB1 : Hid (Below w.heap.size w w1) := hb1
  clear hb1
  go_wp2_with fail
  refine (HPut.out _).mono ?_
  rintro e w2 ⟨a2, c2, rfl, hne2, ho2, hb2⟩
  have HB2 : Hid (Below w.heap.size w w2) := (HB1.out.alloc HB1.out.size _).trans (hb2.mono (HB1.out.alloc HB1.out.size _).size)
  have HR2 : Hid (Rd w2 a2 k L) := ho2.rd
  have hkc : k ≤ c2 := cap_ok ho2
  have x1 : ∀ n, (convert 22 9 (.slice a2 k c2)).run Try.prog (w2.drewN n) = .ok (.string S) (w2.drewN n) := fun n => by
    rw [conv_rd (HR2.out.below (below_drewN w2 n)) c2, HSS.out]
  have x2 : ∀ n, (convert 22 9 (.slice a k cap)).run Try.prog (w2.drewN n) = .ok (.string S) (w2.drewN n) := fun n => by
    have h := Rd.take (HR.out.below HB2.out) k h1
    rw [HT3.out] at h
    rw [conv_rd (h.below (below_drewN w2 n)) cap, HSS.out]
  have d1 : ((k : Int) != (k : Int)) = false := by simp
  have d2 : decide ((k : Int) < 1) = false := by simp; omega
  have g1 : (0 : Int) ≤ (k : Int) := by omega
  have g2 : (k : Int) ≤ (cap : Int) := by omega
  clear ho2 hb2
  go_wp2_with fail
  go_quiet (fail)
  have e1 : (K : Int) % (k : Int) = (j : Int) := by rw [← HJ.out]; rfl
  have e2 : Int.tmod (K : Int) (k : Int) = (j : Int) := by rw [Int.tmod_eq_emod_of_nonneg (by omega)]; exact e1
  have e3 : ¬ (k : Int) = 0 := by omega
  have g3 : (0 : Int) ≤ (j : Int) := by omega
  have g4 : (j : Int) ≤ (c2 : Int) := by omega
  obtain ⟨b2, rfl⟩ : ∃ b2, a2 = some b2 := by
    cases a2 with
    | none => exact absurd rfl hne2
    | some b => exact ⟨b, rfl⟩
  clear hne2
  go_wp2_with fail
  have HBQ : Hid (Below w.heap.size w (w2.drewN nq)) := HB2.out.trans ((below_drewN w2 nq).mono HB2.out.size)
  refine (value_Take (some b2) j c2 (L.take j) 0 _ ((Rd.take HR2.out j (by omega)).below (below_drewN w2 nq)) (by omega) (by omega) (by omega)).mono ?_
  rw [HCut.out]
  rintro e w3 ⟨rfl, hb3⟩
  simp only [toldV, Val.cells, Val.zero]
  have HB3 : Hid (Below w.heap.size w w3) := HBQ.out.trans (hb3.mono HBQ.out.size)
  clear hb3 x1 x2 HBQ
  go_wp2_with fail
  refine (law_live _).mono ?_
  rintro e w4 ⟨rfl, hb4⟩
  have HB4 : Hid (Below w.heap.size w w4) := (HB3.out.alloc HB3.out.size _).trans (hb4.mono (HB3.out.alloc HB3.out.size _).size)
  clear hb4
  go_wp2
  go_ret
  exact ⟨rfl, HB4.out⟩

theorem walk (a : Option Addr) (len cap : Nat) (bs : List Nat) (K : Nat) (hK : K < 65536) (w : World) (hr : Rd w a len bs) (hlc : len ≤ cap) (hl : len ≤ 9223372036854775000) :
    Calls Try.prog 3 #[.slice a len cap, .int .u16 (K : Int)] w fun e w' => e = .returned (.bool true) ∧ Below w.heap.size w w' := by
  rcases hV : valAt bs 0 with ⟨v, k, f⟩
  by_cases hf : f = 0
  · subst hf
    exact walk_ok a len cap bs K hK w hr hlc hl v k hV
  · exact walk_err a len cap bs K w hr hlc hl v k f hV hf

theorem contract (H : Type) (enc : TypeId × Value → H) (W : World) (base : Nat) (args : Array Value) (ds gs : List (DataW H)) (before : List MemPlace)
    (hval : ∀ (j : Nat) t v, Try.f3.params[j]? = some t → args[j]? = some v → Value.okWide Try.prog W .any base t v)
    (hW : DataW.Whole enc Try.prog Try.f3.params.toList Rows.valueOnceSpec.vars false W args.toList ds gs before) (hsz0 : (DataW.weightsEach Try.prog (Try.f3.params.toList ++ Rows.valueOnceSpec.plain.varTypes Try.prog) (ds ++ gs)).all (· ≤ reachBytes) = true) :
    Calls Try.prog 3 args W fun e W' => ∃ v, e = .returned v ∧ Rows.valueOnceSpec.post enc Try.prog Try.f3 false true false false W args v W' := by
  have hW' := hW
  obtain ⟨p, q, hA0, hV, rfl, hfz, hnd⟩ := hW
  have hA : DataW.TrodAll enc Try.prog W 0 (fun _ => true) true Try.f3.params.toList args.toList ds p := hA0
  have hK := hA
  have hsz := hsz0
  rw [Try.params3] at hA hval hsz
  obtain ⟨v0, vs0, d0, ds0, p0, q0, hargs, rfl, rfl, h0, r0⟩ := trodAll_cons hA
  obtain ⟨v1, vs1, d1, ds1, p1, q1, rfl, rfl, rfl, h1, r1⟩ := trodAll_cons r0
  obtain ⟨rfl, rfl, rfl⟩ := trodAll_nil r1
  obtain rfl : args = #[v0, v1] := by cases args; simp_all
  obtain ⟨rfl, rfl⟩ := trodVars_none hV
  obtain ⟨a0, len0, cap0, rfl⟩ := okWide_slice Try.underlying22 (hval 0 22 v0 rfl rfl)
  obtain ⟨bs0, rd0, lc0, cm0, bk0, nc0, fm0⟩ := rd_of h0
  have sz0 := reach_of hsz (j := 0) fm0 rfl rfl
  obtain ⟨x1, rfl, rfl, rfl, w1⟩ := open_int Try.underlying23 (hval 1 23 v1 rfl rfl) h1
  have b1 : (0 : Int) ≤ x1 ∧ x1 ≤ 65535 := by simpa [Lit.wf, IntKind.min, IntKind.max, IntKind.signed, IntKind.bits] using w1
  obtain ⟨n1, rfl⟩ := Int.eq_ofNat_of_zero_le b1.1
  refine (walk a0 len0 cap0 bs0 n1 (by omega) W rd0 lc0 (by omega)).mono fun e W' ⟨he, bel⟩ => ?_
  subst he
  exact ⟨_, rfl, _, _, _, [], _, [], hW', trodAll_mk1 (shut_bool Try.underlying4 _), trodAll_below laidOut bel _ _ _ _ (by kernel_rfl) hK, rfl, bel.frame _, fun h => by cases h⟩

set_option maxRecDepth 100000 in
theorem lifted (os : Os) (started : os.Started) (H : Type) (enc : TypeId × Value → H) :
    ReturnsInHanded {} Try.checked os 3 .any (Rows.valueOnceSpec.pre6 enc Try.prog Try.f3 Rows.valueOnceRow.domain false) (Rows.valueOnceSpec.post enc Try.prog Try.f3 false true false false) := by
  refine returnsInHanded_of_change_sized (C := Try.checked) own started (by kernel_rfl) Try.func3
    (ChangeSpec.witness6 (enc := enc) (C := Try.checked) false ⟨#[], #[.slice none 0 0, .int .u16 0], []⟩ 8 (by kernel_rfl) (by kernel_rfl) (by kernel_rfl) (by kernel_rfl)) ?_
  intro W base args ds gs before hval hW _ hsz _
  exact contract H enc W base args ds gs before hval hW hsz

theorem said : Rows.ValueOnceSaid :=
  OpenClaim.holds_of_wide 3 Try.f3 rfl rfl rfl rfl rfl rfl rfl ⟨rfl, rfl, rfl, rfl, rfl⟩ rfl rfl rfl rfl rfl (by kernel_rfl) Try.func3 (by kernel_rfl)
    (of_decide_eq_true (by kernel_rfl)) (by unfold Func.isWrapper; first | (rw [if_pos (by decide +kernel)]; kernel_rfl) | (rw [if_neg (by decide +kernel)]; exact ⟨rfl, rfl⟩))
    (fun os started H enc _ => lifted os started H enc)
end valueOnce

theorem valueOnce_holds : Rows.ValueOnceSaid := valueOnce.said
end Go.Proofs.Ytigmlhieibejoab

