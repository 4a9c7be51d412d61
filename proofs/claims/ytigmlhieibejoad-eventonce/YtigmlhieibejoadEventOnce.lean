/- Proved: for every bytes and place to cut grapevinelaw04.EventOnce answers true and leaves its arguments as they were. No condition. -/
import Derived.Test.YtigmlhieibejoadEvLives
import Derived.Test.YtigmlhieibejoadEvPutL
import Derived.Test.YtigmlhieibejoadFrame
import Derived.BigQuiet
namespace Go.Proofs.Ytigmlhieibejoad
open Go.ChangeShapes Go.WideShapes Go.ChangeAt Go.RowKit
namespace eventOnce

theorem below_drewN (w : World) (n : Nat) : Below w.heap.size w (w.drewN n) := ⟨rfl, rfl, rfl, Nat.le_refl _, fun _ _ => rfl⟩
theorem cap_ok {w : World} {base : Nat} {a : Option Addr} {len cap : Nat} {bs : List Nat} (h : Own w base a len cap bs) : len ≤ cap := by
  rcases h.row.2 with ⟨hv, h0⟩ | ⟨g, c, cur, hv, _, _, hlc, _⟩
  · omega
  · simp only [Value.slice.injEq] at hv
    omega

/-- The first bytes of a row. -/
theorem Rd.take {w : World} {a : Option Addr} {len : Nat} {bs : List Nat} (h : Rd w a len bs) (k : Nat) (hk : k ≤ len) : Rd w a k (bs.take k) := by
  refine ⟨by rw [List.length_take, h.size]; omega, fun y hy => h.byte y (List.mem_of_mem_take hy), ?_⟩
  by_cases h0 : k = 0
  · exact .inl h0
  · rcases h.cells with h1 | ⟨b, off, e, hlt, hc⟩
    · omega
    · refine .inr ⟨b, off, e, hlt, fun i hi => ?_⟩
      rw [hc i (by omega)]
      simp only [List.getD_eq_getElem?_getD, List.getElem?_take_of_lt hi]

set_option maxRecDepth 100000 in
set_option maxHeartbeats 1000000 in
theorem walk_err (a : Option Addr) (len cap : Nat) (bs : List Nat) (K : Nat) (w : World) (hr : Rd w a len bs) (hlc : len ≤ cap) (hl : len ≤ 9223372036854775000) (l : List At) (c : List Nat) (k f : Nat) (hV : evAt bs 0 = ((l, c), k, f)) (hf : f ≠ 0) :
    Calls Try.prog 4 #[.slice a len cap, .int .u16 (K : Int)] w fun e w' => e = .returned (.bool true) ∧ Below w.heap.size w w' := by
  have HR : Hid (Rd w a len bs) := hr
  obtain ⟨rfl, rfl, rfl⟩ := evAt_bad hV hf
  have HV : Hid (evAt bs 0 = (([], []), 0, f)) := hV
  clear hr hV
  have hf' : (f : Int) ≠ 0 := by omega
  go_enter Try.func4, Try.ntmps4
  go_wp2_with fail
  refine (event_Take a len cap bs 0 _ HR.out hlc hl (by omega) [] [] 0 f HV.out).mono ?_
  rintro e w1 ⟨va, vc, rfl, ha1, hc1, hb1⟩
  obtain ⟨aa, ac, rfl⟩ := ha1.form
  obtain ⟨ca, cn, cc, rfl, hco⟩ := hc1
  have hcn : cn = 0 := by have := hco.size; simp at this; omega
  subst hcn
  have HB1 : Hid (Below w.heap.size w w1) := hb1
  clear hb1 ha1 hco
  go_wp2_with fail
  refine (law_live _).mono ?_
  rintro e w3 ⟨rfl, hb3⟩
  have HK3 : Hid (Blk w3 w1.heap.size #[.slice aa ([] : List At).length ac, .slice ca 0 cc] 25) := (Blk.new w1 _ _).stay hb3
  have k0 : w3.cell? ⟨w1.heap.size, 0, none⟩ = some (.slice aa 0 ac) := HK3.out.cell 0 rfl
  have k1 : w3.cell? ⟨w1.heap.size, 1, none⟩ = some (.slice ca 0 cc) := HK3.out.cell 1 rfl
  have HB3 : Hid (Below w.heap.size w w3) := (HB1.out.alloc HB1.out.size _).trans (hb3.mono (HB1.out.alloc HB1.out.size _).size)
  clear hb3 HK3
  go_wp2
  go_ret
  exact ⟨rfl, HB3.out⟩

set_option maxRecDepth 100000 in
set_option maxHeartbeats 2000000 in
theorem walk_ok (a : Option Addr) (len cap : Nat) (bs : List Nat) (K : Nat) (hK : K < 65536) (w : World) (hr : Rd w a len bs) (hlc : len ≤ cap) (hl : len ≤ 9223372036854775000) (l : List At) (C : List Nat) (k : Nat) (hV : evAt bs 0 = ((l, C), k, 0)) :
    Calls Try.prog 4 #[.slice a len cap, .int .u16 (K : Int)] w fun e w' => e = .returned (.bool true) ∧ Below w.heap.size w w' := by
  obtain ⟨M, hM, h1, h2, h3⟩ := evAt_once (p := 0) hr.byte hV
  rw [Nat.zero_add] at h2
  rw [List.drop_zero] at h3
  rw [← h2] at h3
  rw [hr.size] at h1
  have hk1 : 1 ≤ k := by
    obtain ⟨R, _, _, _, _, rfl⟩ := hM
    have := Leb.leb_length l.length
    rw [h2, List.length_append]
    omega
  obtain ⟨j, HJ⟩ : ∃ j, Hid (K % k = j) := ⟨_, rfl⟩
  have hj : j < k := by rw [← HJ.out]; exact Nat.mod_lt _ (by omega)
  have HCut : Hid (evAt (M.take j) 0 = (([], []), 0, 3)) := evAt_cut hM j (by omega)
  have HR : Hid (Rd w a len bs) := hr
  have HV : Hid (evAt bs 0 = ((l, C), k, 0)) := hV
  have HT3 : Hid (bs.take k = M) := h3
  have HMB : Hid (EvBytes l C M) := hM
  have HMK : Hid (M.length = k) := h2.symm
  obtain ⟨S, HSS⟩ : ∃ S, Hid (str M = S) := ⟨_, rfl⟩
  have hne : a ≠ none := by
    rcases hr.cells with h0 | ⟨b, off, e, _⟩
    · omega
    · rw [e]; simp
  clear hr hV h3 h2 hM
  go_enter Try.func4, Try.ntmps4
  go_wp2_with fail
  refine (event_Take a len cap bs 0 _ HR.out hlc hl (by omega) l C k 0 HV.out).mono ?_
  rintro e w1 ⟨va, vc, rfl, ha1, hc1, hb1⟩
  obtain ⟨aa, ac, rfl⟩ := ha1.form
  obtain ⟨ca, cn, cc, rfl, hco⟩ := hc1
  have HA1 : Hid (AtsRd w1 aa l) := ha1.rd.2
  have HC1 : Hid (Rd w1 ca cn C) := hco.rd
  have HCC : Hid (ca = none → cc = 0) := hco.nil_cap
  have HB1 : Hid (Below w.heap.size w w1) := hb1
  obtain ⟨n, HN⟩ : ∃ n, Hid (l.length = n) := ⟨_, rfl⟩
  rw [HN.out]
  clear hb1 ha1 hco
  go_wp2_with fail
  refine (event_Put aa ca n ac cn cc l C M _ (HA1.out.below (below_alloc w1 _)) HN.out (HC1.out.below (below_alloc w1 _)) HCC.out HMB.out k HMK.out).mono ?_
  rintro e w2 ⟨a2, c2, rfl, ho2, hb2⟩
  have HB2 : Hid (Below w.heap.size w w2) := (HB1.out.alloc HB1.out.size _).trans (hb2.mono (HB1.out.alloc HB1.out.size _).size)
  have HR2 : Hid (Rd w2 a2 k M) := ho2.rd
  have hkc : k ≤ c2 := cap_ok ho2
  obtain ⟨b2, rfl⟩ : ∃ b2, a2 = some b2 := by
    have h := ho2.some (by omega)
    cases a2 with
    | none => exact absurd rfl h
    | some b => exact ⟨b, rfl⟩
  have x1 : ∀ n, (convert 22 9 (.slice (some b2) k c2)).run Try.prog (w2.drewN n) = .ok (.string S) (w2.drewN n) := fun n => by
    rw [conv_rd (HR2.out.below (below_drewN w2 n)) c2, HSS.out]
  have x2 : ∀ n, (convert 22 9 (.slice a k cap)).run Try.prog (w2.drewN n) = .ok (.string S) (w2.drewN n) := fun n => by
    have h := Rd.take (HR.out.below HB2.out) k h1
    rw [HT3.out] at h
    rw [conv_rd (h.below (below_drewN w2 n)) cap, HSS.out]
  have d1 : ((k : Int) != (k : Int)) = false := by simp
  have d2 : decide ((k : Int) < 1) = false := by simp; omega
  have g1 : (0 : Int) ≤ (k : Int) := by omega
  have g2 : (k : Int) ≤ (cap : Int) := by omega
  clear ho2 hb2
  go_wp2_with fail
  go_quiet (fail)
  have e1 : (K : Int) % (k : Int) = (j : Int) := by rw [← HJ.out]; rfl
  have e2 : Int.tmod (K : Int) (k : Int) = (j : Int) := by rw [Int.tmod_eq_emod_of_nonneg (by omega)]; exact e1
  have e3 : ¬ (k : Int) = 0 := by omega
  have g3 : (0 : Int) ≤ (j : Int) := by omega
  have g4 : (j : Int) ≤ (c2 : Int) := by omega
  go_wp2_with fail
  have HBQ : Hid (Below w.heap.size w (w2.drewN nq)) := HB2.out.trans ((below_drewN w2 nq).mono HB2.out.size)
  refine (event_Take (some b2) j c2 (M.take j) 0 _ ((Rd.take HR2.out j (by omega)).below (below_drewN w2 nq)) (by omega) (by omega) (by omega) [] [] 0 3 HCut.out).mono ?_
  rintro e w3 ⟨va3, vc3, rfl, ha3, hc3, hb3⟩
  obtain ⟨aa3, ac3, rfl⟩ := ha3.form
  obtain ⟨ca3, cn3, cc3, rfl, _⟩ := hc3
  have HB3 : Hid (Below w.heap.size w w3) := HBQ.out.trans (hb3.mono HBQ.out.size)
  clear hb3 x1 x2 HBQ ha3
  go_wp2_with fail
  refine (law_live _).mono ?_
  rintro e w4 ⟨rfl, hb4⟩
  have HB4 : Hid (Below w.heap.size w w4) := (HB3.out.alloc HB3.out.size _).trans (hb4.mono (HB3.out.alloc HB3.out.size _).size)
  clear hb4
  go_wp2
  go_ret
  exact ⟨rfl, HB4.out⟩

theorem walk (a : Option Addr) (len cap : Nat) (bs : List Nat) (K : Nat) (hK : K < 65536) (w : World) (hr : Rd w a len bs) (hlc : len ≤ cap) (hl : len ≤ 9223372036854775000) :
    Calls Try.prog 4 #[.slice a len cap, .int .u16 (K : Int)] w fun e w' => e = .returned (.bool true) ∧ Below w.heap.size w w' := by
  rcases hV : evAt bs 0 with ⟨⟨l, c⟩, k, f⟩
  by_cases hf : f = 0
  · subst hf
    exact walk_ok a len cap bs K hK w hr hlc hl l c k hV
  · exact walk_err a len cap bs K w hr hlc hl l c k f hV hf

theorem contract (H : Type) (enc : TypeId × Value → H) (W : World) (base : Nat) (args : Array Value) (ds gs : List (DataW H)) (before : List MemPlace)
    (hval : ∀ (j : Nat) t v, Try.f4.params[j]? = some t → args[j]? = some v → Value.okWide Try.prog W .any base t v)
    (hW : DataW.Whole enc Try.prog Try.f4.params.toList Rows.eventOnceSpec.vars false W args.toList ds gs before) (hsz0 : (DataW.weightsEach Try.prog (Try.f4.params.toList ++ Rows.eventOnceSpec.plain.varTypes Try.prog) (ds ++ gs)).all (· ≤ reachBytes) = true) :
    Calls Try.prog 4 args W fun e W' => ∃ v, e = .returned v ∧ Rows.eventOnceSpec.post enc Try.prog Try.f4 false true false false W args v W' := by
  have hW' := hW
  obtain ⟨p, q, hA0, hV, rfl, hfz, hnd⟩ := hW
  have hA : DataW.TrodAll enc Try.prog W 0 (fun _ => true) true Try.f4.params.toList args.toList ds p := hA0
  have hK := hA
  have hsz := hsz0
  rw [Try.params4] at hA hval hsz
  obtain ⟨v0, vs0, d0, ds0, p0, q0, hargs, rfl, rfl, h0, r0⟩ := trodAll_cons hA
  obtain ⟨v1, vs1, d1, ds1, p1, q1, rfl, rfl, rfl, h1, r1⟩ := trodAll_cons r0
  obtain ⟨rfl, rfl, rfl⟩ := trodAll_nil r1
  obtain rfl : args = #[v0, v1] := by cases args; simp_all
  obtain ⟨rfl, rfl⟩ := trodVars_none hV
  obtain ⟨a0, len0, cap0, rfl⟩ := okWide_slice Try.underlying22 (hval 0 22 v0 rfl rfl)
  obtain ⟨bs0, rd0, lc0, cm0, bk0, nc0, fm0⟩ := rd_of h0
  have sz0 := reach_of hsz (j := 0) fm0 rfl rfl
  obtain ⟨x1, rfl, rfl, rfl, w1⟩ := open_int Try.underlying32 (hval 1 32 v1 rfl rfl) h1
  have b1 : (0 : Int) ≤ x1 ∧ x1 ≤ 65535 := by simpa [Lit.wf, IntKind.min, IntKind.max, IntKind.signed, IntKind.bits] using w1
  obtain ⟨n1, rfl⟩ := Int.eq_ofNat_of_zero_le b1.1
  refine (walk a0 len0 cap0 bs0 n1 (by omega) W rd0 lc0 (by omega)).mono fun e W' ⟨he, bel⟩ => ?_
  subst he
  exact ⟨_, rfl, _, _, _, [], _, [], hW', trodAll_mk1 (shut_bool Try.underlying4 _), trodAll_below laidOut bel _ _ _ _ (by kernel_rfl) hK, rfl, bel.frame _, fun h => by cases h⟩

set_option maxRecDepth 100000 in
theorem lifted (os : Os) (started : os.Started) (H : Type) (enc : TypeId × Value → H) :
    ReturnsInHanded {} Try.checked os 4 .any (Rows.eventOnceSpec.pre6 enc Try.prog Try.f4 Rows.eventOnceRow.domain false) (Rows.eventOnceSpec.post enc Try.prog Try.f4 false true false false) := by
  refine returnsInHanded_of_change_sized (C := Try.checked) own started (by kernel_rfl) Try.func4
    (ChangeSpec.witness6 (enc := enc) (C := Try.checked) false ⟨#[], #[.slice none 0 0, .int .u16 0], []⟩ 8 (by kernel_rfl) (by kernel_rfl) (by kernel_rfl) (by kernel_rfl)) ?_
  intro W base args ds gs before hval hW _ hsz _
  exact contract H enc W base args ds gs before hval hW hsz

theorem said : Rows.EventOnceSaid :=
  OpenClaim.holds_of_wide 4 Try.f4 rfl rfl rfl rfl rfl rfl rfl ⟨rfl, rfl, rfl, rfl, rfl⟩ rfl rfl rfl rfl rfl (by kernel_rfl) Try.func4 (by kernel_rfl)
    (of_decide_eq_true (by kernel_rfl)) (by unfold Func.isWrapper; first | (rw [if_pos (by decide +kernel)]; kernel_rfl) | (rw [if_neg (by decide +kernel)]; exact ⟨rfl, rfl⟩))
    (fun os started H enc _ => lifted os started H enc)
end eventOnce

theorem eventOnce_holds : Rows.EventOnceSaid := eventOnce.said
end Go.Proofs.Ytigmlhieibejoad

