/- Proved: for every bytes and place to cut grapevinelaw05.PredOnce answers true and leaves its arguments as they were. No condition; the card ties the listed variables. -/
import Derived.Test.YtfmpfjpcigdeoabGreatDoorDoorP
import Derived.Test.YtfmpfjpcigdeoabGreatDoorLiveP
import Derived.Test.YtfmpfjpcigdeoabGreatDoorOnceP
import Derived.Test.YtfmpfjpcigdeoabGreatDoorFrame
import Derived.BigQuiet
namespace Go.Proofs.YtfmpfjpcigdeoabGreatDoor
set_option maxRecDepth 100000
open Go.ChangeShapes Go.WideShapes Go.ChangeAt Go.RowKit
namespace predOnce

theorem below_drewN (w : World) (n : Nat) : Below w.heap.size w (w.drewN n) := ⟨rfl, rfl, rfl, Nat.le_refl _, fun _ _ => rfl⟩
theorem cap_ok {w : World} {base : Nat} {a : Option Addr} {len cap : Nat} {bs : List Nat} (h : Own w base a len cap bs) : len ≤ cap := by
  rcases h.row.2 with ⟨hv, h0⟩ | ⟨g, c, cur, hv, _, _, hlc, _⟩
  · omega
  · simp only [Value.slice.injEq] at hv
    omega

/-- The first bytes of a row. -/
theorem Rd.take {w : World} {a : Option Addr} {len : Nat} {bs : List Nat} (h : Rd w a len bs) (k : Nat) (hk : k ≤ len) : Rd w a k (bs.take k) := by
  refine ⟨by rw [List.length_take, h.size]; omega, fun y hy => h.byte y (List.mem_of_mem_take hy), ?_⟩
  by_cases h0 : k = 0
  · exact .inl h0
  · rcases h.cells with h1 | ⟨b, off, e, hlt, hc⟩
    · omega
    · refine .inr ⟨b, off, e, hlt, fun i hi => ?_⟩
      rw [hc i (by omega)]
      simp only [List.getD_eq_getElem?_getD, List.getElem?_take_of_lt hi]

set_option maxHeartbeats 1000000 in
theorem walk_err (a : Option Addr) (len cap : Nat) (bs : List Nat) (K : Nat) (w : World) (hr : Rd w a len bs) (hlc : len ≤ cap) (hl : len ≤ 9223372036854775000) (l : List Tm) (k f : Nat) (hV : predAt bs 0 = (l, k, f)) (hf : f ≠ 0) :
    Calls Tryz.prog 6 #[.slice a len cap, .int .u16 (K : Int)] w fun e w' => e = .returned (.bool true) ∧ Below w.heap.size w w' := by
  have HR : Hid (Rd w a len bs) := hr
  obtain ⟨rfl, rfl⟩ := predAt_bad hV hf
  have HV : Hid (predAt bs 0 = ([], 0, f)) := hV
  clear hr hV
  have hf' : (f : Int) ≠ 0 := by omega
  go_enter Tryz.func6, Tryz.ntmps6
  go_wp2_with fail
  refine (pred_Take a len cap bs 0 _ HR.out hlc hl (by omega) [] 0 f HV.out).mono ?_
  rintro e w1 ⟨va, rfl, ha1, hb1⟩
  obtain ⟨aa, ac, rfl⟩ := ha1.form
  have HB1 : Hid (Below w.heap.size w w1) := hb1
  clear hb1 ha1
  go_wp2_with fail
  refine (law_live _).mono ?_
  rintro e w3 ⟨rfl, hb3⟩
  have HB3 : Hid (Below w.heap.size w w3) := HB1.out.trans (hb3.mono HB1.out.size)
  clear hb3
  go_wp2
  go_ret
  exact ⟨rfl, HB3.out⟩

set_option maxHeartbeats 2000000 in
theorem walk_ok (a : Option Addr) (len cap : Nat) (bs : List Nat) (K : Nat) (hK : K < 65536) (w : World) (hr : Rd w a len bs) (hlc : len ≤ cap) (hl : len ≤ 9223372036854775000) (l : List Tm) (k : Nat) (hV : predAt bs 0 = (l, k, 0)) :
    Calls Tryz.prog 6 #[.slice a len cap, .int .u16 (K : Int)] w fun e w' => e = .returned (.bool true) ∧ Below w.heap.size w w' := by
  obtain ⟨M, hM, h2, h1, h3⟩ := predAt_once (p := 0) hr.byte hV
  rw [Nat.zero_add] at h2
  rw [List.drop_zero] at h3
  rw [← h2] at h3
  rw [hr.size] at h1
  have hk1 : 1 ≤ k := by
    obtain ⟨R, _, _, _, rfl⟩ := hM
    have := Leb.leb_length l.length
    rw [h2, List.length_append]
    omega
  obtain ⟨j, HJ⟩ : ∃ j, Hid (K % k = j) := ⟨_, rfl⟩
  have hj : j < k := by rw [← HJ.out]; exact Nat.mod_lt _ (by omega)
  have HCut : Hid (predAt (M.take j) 0 = ([], 0, 3)) := predAt_cut hM j (by omega)
  have HR : Hid (Rd w a len bs) := hr
  have HV : Hid (predAt bs 0 = (l, k, 0)) := hV
  have HT3 : Hid (bs.take k = M) := h3
  have HMB : Hid (PredB l M) := hM
  have HMK : Hid (M.length = k) := h2.symm
  obtain ⟨S, HSS⟩ : ∃ S, Hid (str M = S) := ⟨_, rfl⟩
  have hne : a ≠ none := by
    rcases hr.cells with h0 | ⟨b, off, e, _⟩
    · omega
    · rw [e]; simp
  clear hr hV h3 h2 hM
  go_enter Tryz.func6, Tryz.ntmps6
  go_wp2_with fail
  refine (pred_Take a len cap bs 0 _ HR.out hlc hl (by omega) l k 0 HV.out).mono ?_
  rintro e w1 ⟨va, rfl, ha1, hb1⟩
  obtain ⟨aa, ac, rfl⟩ := ha1.form
  have HA1 : Hid (TmsRd w1 aa l) := ha1.rd.2
  have HB1 : Hid (Below w.heap.size w w1) := hb1
  obtain ⟨n, HN⟩ : ∃ n, Hid (l.length = n) := ⟨_, rfl⟩
  rw [HN.out]
  clear hb1 ha1
  go_wp2_with fail
  refine (pred_Put aa n ac l M _ HA1.out HN.out HMB.out k HMK.out).mono ?_
  rintro e w2 ⟨a2, c2, rfl, ho2, hb2⟩
  have HB2 : Hid (Below w.heap.size w w2) := HB1.out.trans (hb2.mono HB1.out.size)
  have HR2 : Hid (Rd w2 a2 k M) := ho2.rd
  have hkc : k ≤ c2 := cap_ok ho2
  obtain ⟨b2, rfl⟩ : ∃ b2, a2 = some b2 := by
    have h := ho2.some (by omega)
    cases a2 with
    | none => exact absurd rfl h
    | some b => exact ⟨b, rfl⟩
  have x1 : ∀ n, (convert 33 9 (.slice (some b2) k c2)).run Tryz.prog (w2.drewN n) = .ok (.string S) (w2.drewN n) := fun n => by
    rw [conv_rd (HR2.out.below (below_drewN w2 n)) c2, HSS.out]
  have x2 : ∀ n, (convert 33 9 (.slice a k cap)).run Tryz.prog (w2.drewN n) = .ok (.string S) (w2.drewN n) := fun n => by
    have h := Rd.take (HR.out.below HB2.out) k h1
    rw [HT3.out] at h
    rw [conv_rd (h.below (below_drewN w2 n)) cap, HSS.out]
  have d1 : ((k : Int) != (k : Int)) = false := by simp
  have d2 : decide ((k : Int) < 1) = false := by simp; omega
  have g1 : (0 : Int) ≤ (k : Int) := by omega
  have g2 : (k : Int) ≤ (cap : Int) := by omega
  clear ho2 hb2
  go_wp2_with fail
  go_quiet (fail)
  have e1 : (K : Int) % (k : Int) = (j : Int) := by rw [← HJ.out]; rfl
  have e2 : Int.tmod (K : Int) (k : Int) = (j : Int) := by rw [Int.tmod_eq_emod_of_nonneg (by omega)]; exact e1
  have e3 : ¬ (k : Int) = 0 := by omega
  have g3 : (0 : Int) ≤ (j : Int) := by omega
  have g4 : (j : Int) ≤ (c2 : Int) := by omega
  go_wp2_with fail
  have HBQ : Hid (Below w.heap.size w (w2.drewN nq)) := HB2.out.trans ((below_drewN w2 nq).mono HB2.out.size)
  refine (pred_Take (some b2) j c2 (M.take j) 0 _ ((Rd.take HR2.out j (by omega)).below (below_drewN w2 nq)) (by omega) (by omega) (by omega) [] 0 3 HCut.out).mono ?_
  rintro e w3 ⟨va3, rfl, ha3, hb3⟩
  obtain ⟨aa3, ac3, rfl⟩ := ha3.form
  have HB3 : Hid (Below w.heap.size w w3) := HBQ.out.trans (hb3.mono HBQ.out.size)
  clear hb3 x1 x2 HBQ ha3
  go_wp2_with fail
  refine (law_live _).mono ?_
  rintro e w4 ⟨rfl, hb4⟩
  have HB4 : Hid (Below w.heap.size w w4) := HB3.out.trans (hb4.mono HB3.out.size)
  clear hb4
  go_wp2
  go_ret
  exact ⟨rfl, HB4.out⟩

theorem walk (a : Option Addr) (len cap : Nat) (bs : List Nat) (K : Nat) (hK : K < 65536) (w : World) (hr : Rd w a len bs) (hlc : len ≤ cap) (hl : len ≤ 9223372036854775000) :
    Calls Tryz.prog 6 #[.slice a len cap, .int .u16 (K : Int)] w fun e w' => e = .returned (.bool true) ∧ Below w.heap.size w w' := by
  rcases hV : predAt bs 0 with ⟨l, k, f⟩
  by_cases hf : f = 0
  · subst hf
    exact walk_ok a len cap bs K hK w hr hlc hl l k hV
  · exact walk_err a len cap bs K w hr hlc hl l k f hV hf

theorem contract (H : Type) (enc : TypeId × Value → H) (W : World) (base : Nat) (args : Array Value) (ds gs : List (DataW H)) (before : List MemPlace)
    (hval : ∀ (j : Nat) t v, Tryz.f6.params[j]? = some t → args[j]? = some v → Value.okWide Tryz.prog W .any base t v)
    (hW : DataW.Whole enc Tryz.prog Tryz.f6.params.toList Rows.predOnceSpec.vars false W args.toList ds gs before) (hsz0 : (DataW.weightsEach Tryz.prog (Tryz.f6.params.toList ++ Rows.predOnceSpec.plain.varTypes Tryz.prog) (ds ++ gs)).all (· ≤ reachBytes) = true) :
    Calls Tryz.prog 6 args W fun e W' => ∃ v, e = .returned v ∧ Rows.predOnceSpec.post enc Tryz.prog Tryz.f6 false true false false W args v W' := by
  have hW' := hW
  obtain ⟨p, q, hA0, hV, rfl, hfz, hnd⟩ := hW
  have hA : DataW.TrodAll enc Tryz.prog W 0 (fun _ => true) true Tryz.f6.params.toList args.toList ds p := hA0
  have hK := hA
  have hsz := hsz0
  rw [Tryz.params6] at hA hval hsz
  obtain ⟨v0, vs0, d0, ds0, p0, q0, hargs, rfl, rfl, h0, r0⟩ := trodAll_cons hA
  obtain ⟨v1, vs1, d1, ds1, p1, q1, rfl, rfl, rfl, h1, r1⟩ := trodAll_cons r0
  obtain ⟨rfl, rfl, rfl⟩ := trodAll_nil r1
  obtain rfl : args = #[v0, v1] := by cases args; simp_all
  obtain ⟨rfl, rfl⟩ := trodVars_none hV
  obtain ⟨a0, len0, cap0, rfl⟩ := okWide_slice Tryz.underlying33 (hval 0 33 v0 rfl rfl)
  obtain ⟨bs0, rd0, lc0, cm0, bk0, nc0, fm0⟩ := rd_of h0
  have sz0 := reach_of hsz (j := 0) fm0 rfl rfl
  obtain ⟨x1, rfl, rfl, rfl, w1⟩ := open_int Tryz.underlying36 (hval 1 36 v1 rfl rfl) h1
  have b1 : (0 : Int) ≤ x1 ∧ x1 ≤ 65535 := by simpa [Lit.wf, IntKind.min, IntKind.max, IntKind.signed, IntKind.bits] using w1
  obtain ⟨n1, rfl⟩ := Int.eq_ofNat_of_zero_le b1.1
  refine (walk a0 len0 cap0 bs0 n1 (by omega) W rd0 lc0 (by omega)).mono fun e W' ⟨he, bel⟩ => ?_
  subst he
  exact ⟨_, rfl, _, _, _, [], _, [], hW', trodAll_mk1 (shut_bool Tryz.underlying4 _), trodAll_below laidOut bel _ _ _ _ (by kernel_rfl) hK, rfl, bel.frame _, fun h => by cases h⟩

theorem laid_met (os : Os) : laidMet Tryz.prog Rows.predOnceRow.laid ((layTab (World.holding Tryz.prog os ⟨#[], #[], []⟩)).forCall (fun _ _ => 0) ⟨#[], #[.slice none 0 0, .int .u16 0], []⟩).memory :=
  laidMet_of_run' 8 (by kernel_rfl) (by kernel_rfl)
theorem reads (os : Os) {H : Type} (enc : TypeId × Value → H) : ∃ places, DataW.whole enc Tryz.prog ((layTab (World.holding Tryz.prog os ⟨#[], #[], []⟩)).forCall (fun _ _ => 0) ⟨#[], #[.slice none 0 0, .int .u16 0], []⟩).memory Tryz.f6.params.toList Rows.predOnceSpec.vars false (#[.slice none 0 0, .int .u16 0] : Array Value).toList 8 = some ([.nil, .lit (.int .u16 0)], [], places) :=
  ⟨[], by kernel_rfl⟩

set_option maxRecDepth 100000 in
theorem lifted (os : Os) (started : os.Started) (H : Type) (enc : TypeId × Value → H) (F : Stop.Interp) :
    ReturnsInHanded {} Tryz.checked os 6 .any ((OpenSpec.ofChange Rows.predOnceSpec).preRow enc Tryz.prog Tryz.f6 Rows.predOnceRow.domain false Rows.predOnceRow.laid) (((OpenSpec.ofChange Rows.predOnceSpec).at F).post enc Tryz.prog Tryz.f6 false true false false) := by
  obtain ⟨places, hx⟩ := reads os enc
  refine returnsInHanded_of_row (C := Tryz.checked) (s := OpenSpec.ofChange Rows.predOnceSpec) own started (by kernel_rfl) Tryz.func6
    (witness_row_at (enc := enc) (C := Tryz.checked) false (layTab (World.holding Tryz.prog os ⟨#[], #[], []⟩)) #[.slice none 0 0, .int .u16 0] rfl (by kernel_rfl) (by kernel_rfl) (by kernel_rfl)
      (OpenSpec.preRow_of_cond 8 hx (by kernel_rfl) (fun k hk => by cases hk) (by kernel_rfl) (laid_met os))) ?_
  intro W base args ds gs before hval hW _ _ hsz _ _ _
  exact contract H enc W base args ds gs before hval hW hsz

theorem said : Rows.PredOnceSaid :=
  OpenClaim.holds_of_cond 6 Tryz.f6 rfl rfl rfl rfl rfl rfl rfl ⟨rfl, rfl, rfl, rfl, rfl⟩ rfl rfl rfl rfl rfl (by kernel_rfl) Tryz.func6 (by kernel_rfl)
    (of_decide_eq_true (by kernel_rfl)) (by unfold Func.isWrapper; first | (rw [if_pos (by decide +kernel)]; kernel_rfl) | (rw [if_neg (by decide +kernel)]; exact ⟨rfl, rfl⟩))
    (fun os started H enc _ F => by rw [OpenClaim.pre_eq_preRow]; exact lifted os started H enc F)

theorem plain (f : FuncId) (fn : Func) (hf : Tryz.pinned.checked.prog.funcNamed "grapevine/grapevinelaw05.PredOnce" = some f) (hfn : Tryz.pinned.checked.prog.funcs[f]? = some fn) :
    true = Tryz.pinned.checked.prog.looks [] ∧ ∀ (j : Nat) t, fn.params[j]? = some t → Tryz.pinned.checked.prog.wantsStandIn t = false := by
  obtain rfl : f = 6 := Option.some.inj ((show Tryz.prog.funcNamed "grapevine/grapevinelaw05.PredOnce" = some 6 by kernel_rfl).symm.trans hf) |>.symm
  obtain rfl : fn = Tryz.f6 := (Option.some.inj (Tryz.func6.symm.trans hfn)).symm
  refine ⟨by kernel_rfl, fun j t ht => ?_⟩
  rw [Tryz.params6] at ht
  have hall : ∀ t ∈ (#[33, 36] : Array TypeId), Tryz.prog.wantsStandIn t = false := by
    intro t ht
    simp at ht
    rcases ht with rfl | rfl
    · exact (show Tryz.prog.wantsStandIn 33 = false by kernel_rfl)
    · exact (show Tryz.prog.wantsStandIn 36 = false by kernel_rfl)
  exact hall t (Array.mem_of_getElem? ht)

theorem card : Rows.PredOnceCardSaid :=
  Claim7.holds_tied_plain_at .later [] _ _ _ _ said (fun _ h => by cases h) (by kernel_rfl) (fun _ h => by cases h) predOnce_row_tie rfl ⟨rfl, rfl⟩ (by kernel_rfl) rfl plain (by kernel_rfl)
end predOnce

theorem predOnce_holds : Rows.PredOnceCardSaid := predOnce.card
end Go.Proofs.YtfmpfjpcigdeoabGreatDoor

