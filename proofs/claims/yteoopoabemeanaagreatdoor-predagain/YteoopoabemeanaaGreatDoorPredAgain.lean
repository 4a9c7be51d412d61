/- PredAgain: what is parsed is printed, and parsed again as the same, if it is not too long. -/
import Derived.Test.YteoopoabemeanaaGreatDoorBackP
import Derived.Test.YteoopoabemeanaaGreatDoorLiveP
import Derived.Test.YteoopoabemeanaaGreatDoorPrRef8
namespace Go.Proofs.YteoopoabemeanaaGreatDoor
open Go.ChangeShapes Go.WideShapes Go.ChangeAt Go.RowKit
open Go.ChangeMaps (open_string shut_string)
set_option maxRecDepth 100000
namespace predAgain

/-- What Parse tells of any text: an error and nothing, or a tree's terms that Check lets by. -/
theorem told (T : ByteArray) : (∃ p c : Nat, c ≠ 0 ∧ ∀ w, Vars w → Calls Tryz.prog 5 #[.string T] w fun e w' => AfterQ w ([], p, c) e w') ∨
    (∃ L : List Tm, (∀ w, Vars w → Calls Tryz.prog 5 #[.string T] w fun e w' => AfterQ w (L, 0, 0) e w') ∧ (∀ q ∈ L, TStd q) ∧ (∀ q ∈ L, TmRight q ∧ Good.Sound q.val) ∧ checkT L = 0) := by
  by_cases h3 : 300 < T.size
  · exact .inl ⟨0, 6, by decide, fun w _ => Parse_long T h3 w⟩
  · have hP := Parse_any T (by omega) (fuel T) (Nat.le_refl _)
    have hG := parsed_ok T (fuel T) (Nat.le_refl _)
    cases hR : parseM (lexT T) (fuel T) with
    | error m =>
      rw [hR] at hP hG
      exact .inl ⟨m.1, m.2, hG, hP⟩
    | ok s =>
      obtain ⟨e, he, ht⟩ := Tree.parse_t (good_T T).tok hR
      rw [hR] at hP hG
      have hG : Good.StOk T.size s := hG
      by_cases h6 : checkT s.terms = 6
      · refine .inl ⟨T.size, 6, by decide, fun w hv => ?_⟩
        have := hP w hv
        unfold tellM at this
        simp only at this
        rw [if_pos h6] at this
        exact this
      · refine .inr ⟨s.terms, fun w hv => ?_, ?_, hG.tms, ?_⟩
        · have := hP w hv
          unfold tellM at this
          simp only at this
          rw [if_neg h6] at this
          exact this
        · rw [ht]; exact Ex.post_std e he
        · rw [ht] at h6 ⊢; exact check_tree he h6
/-- What was printed is parsed as the same terms. -/
theorem again {L : List Tm} (hc : checkT L = 0) {e : Ex} (he : e.std) (hp : e.post = L) {x : List Nat} {u : List Wd} (h : Txt e x u) (hx : x.length ≤ 300) (w : World) (hv : Vars w) : Calls Tryz.prog 5 #[.string (str x)] w fun e w' => AfterQ w (L, 0, 0) e w' := by
  obtain ⟨N, hN⟩ := print_back he h
  obtain ⟨s, hs, ht⟩ := hN (max N (fuel (str x))) (Nat.le_max_left _ _)
  have hP := Parse_any (str x) (by rw [str_size]; exact hx) (max N (fuel (str x))) (Nat.le_max_right _ _) w hv
  rw [hs] at hP
  unfold tellM at hP
  simp only at hP
  rw [ht, hp, if_neg (by rw [hc]; decide)] at hP
  exact hP
set_option maxHeartbeats 4000000 in
theorem walk (T : ByteArray) (w : World) (hv : Vars w) (htb : Tb w) :
    Calls Tryz.prog 3 #[.string T] w fun e w' => e = .returned (.bool true) ∧ Below w.heap.size w w' := by
  have HV : Hid (Vars w) := hv
  have HTB : Hid (Tb w) := htb
  clear hv htb
  rcases told T with ⟨p, c, hc, h0⟩ | ⟨L, h0, hs, hr, hk⟩
  · have H0 : Hid (∀ w, Vars w → Calls Tryz.prog 5 #[.string T] w fun e w' => AfterQ w ([], p, c) e w') := h0
    have k1 : ((c : Int) != 0) = true := by rw [bne_iff_ne]; omega
    have k2 : ((c : Int) == 0) = false := by rw [beq_eq_false_iff_ne]; omega
    clear h0 hc
    go_enter Tryz.func3, Tryz.ntmps3
    go_wp2_with fail
    refine (H0.out _ HV.out).mono ?_
    rintro e w1 ⟨a, ca, rfl, ht1, hb1⟩
    have HB1 : Hid (Below w.heap.size w w1) := hb1
    have HV1 : Hid (Vars w1) := HV.out.stay hb1
    clear ht1 hb1
    simp only [List.length_nil]
    go_wp2_with fail
    refine (law_live _ HV1.out).mono ?_
    rintro e w2 ⟨rfl, hb2⟩
    have HB2 : Hid (Below w.heap.size w w2) := HB1.out.trans (hb2.mono HB1.out.size)
    clear hb2
    go_wp2
    go_ret
    exact ⟨rfl, HB2.out⟩
  · have H0 : Hid (∀ w, Vars w → Calls Tryz.prog 5 #[.string T] w fun e w' => AfterQ w (L, 0, 0) e w') := h0
    obtain ⟨n, HN⟩ : ∃ n, Hid (L.length = n) := ⟨_, rfl⟩
    have h48 : n ≤ 48 := by
      rw [← HN.out]
      exact checkT_len (by rw [hk]; decide)
    have HS : Hid (∀ (a1 a2 : Option Addr) (c1 c2 : Nat) (w : World), TmsRd w a1 L → TmsRd w a2 L → Calls Tryz.prog 9 #[.slice a1 n c1, .slice a2 n c2] w fun e w' => e = .returned (.bool true) ∧ Below w.heap.size w w') := fun a1 a2 c1 c2 w h1 h2 => ref_Same5 a1 a2 n c1 c2 L w h1 h2 HN.out (by omega) (fun q hq => (hr q hq).2)
    have HPR : Hid (∀ (a : Option Addr) (c : Nat) (w : World), TmsRd w a L → Tb w → Calls Tryz.prog 7 #[.slice a n c] w fun e w' => PrintTold L w e w') := fun a c w h1 h2 => pred_Print L hs (fun q hq => (hr q hq).1) hk a n c w h1 HN.out h2
    have HCK : Hid (∀ (a : Option Addr) (c : Nat) (w : World), TmsRd w a L → Calls Tryz.prog 8 #[.slice a n c] w fun e w' => e = .returned (.int .i64 0) ∧ Below w.heap.size w w') := fun a c w h1 => by
      have := pred_Check a n c L w h1 HN.out (by omega) (fun q hq => (hr q hq).1)
      rw [hk] at this
      exact this
    have HAG : Hid (∀ (e : Ex), e.std → e.post = L → ∀ (x : List Nat) (u : List Wd), Txt e x u → x.length ≤ 300 → ∀ w, Vars w → Calls Tryz.prog 5 #[.string (str x)] w fun e w' => AfterQ w (L, 0, 0) e w') := fun e h1 h2 x u h3 h4 w hv => again hk h1 h2 h3 h4 w hv
    clear h0 hs hr hk
    go_enter Tryz.func3, Tryz.ntmps3
    go_wp2_with fail
    refine (H0.out _ HV.out).mono ?_
    rintro e w1 ⟨a, ca, rfl, ht1, hb1⟩
    have HT1 : Hid (TmsRd w1 a L) := ht1.rd.2
    have HB1 : Hid (Below w.heap.size w w1) := hb1
    have HV1 : Hid (Vars w1) := HV.out.stay hb1
    have HTB1 : Hid (Tb w1) := HTB.out.stay hb1
    clear ht1 hb1
    simp only
    rw [HN.out]
    go_wp2_with fail
    refine (HPR.out a ca _ HT1.out HTB1.out).mono ?_
    rintro e w2 ⟨e0, x, u, y1, y2, y3, y4, hb2⟩
    have HT2 : Hid (TmsRd w2 a L) := HT1.out.below hb2
    have HB2 : Hid (Below w.heap.size w w2) := HB1.out.trans (hb2.mono HB1.out.size)
    have HV2 : Hid (Vars w2) := HV1.out.stay hb2
    clear hb2 HT1 HB1 HV1 HTB1
    rcases y4 with ⟨y4, rfl⟩ | ⟨_, rfl⟩
    · have HA2 : Hid (∀ w, Vars w → Calls Tryz.prog 5 #[.string (str x)] w fun e w' => AfterQ w (L, 0, 0) e w') := HAG.out e0 y1 y2 x u y3 y4
      clear y1 y2 y3 y4 HAG
      generalize str x = X at *
      go_wp2_with fail
      refine (HA2.out _ HV2.out).mono ?_
      rintro e w3 ⟨b, cb, rfl, ht3, hb3⟩
      have HT3 : Hid (TmsRd w3 b L) := ht3.rd.2
      have HT2b : Hid (TmsRd w3 a L) := HT2.out.below hb3
      have HB3 : Hid (Below w.heap.size w w3) := HB2.out.trans (hb3.mono HB2.out.size)
      have HV3 : Hid (Vars w3) := HV2.out.stay hb3
      clear ht3 hb3 HT2 HB2 HV2
      simp only
      rw [HN.out]
      go_wp2_with fail
      refine (law_live _ HV3.out).mono ?_
      rintro e w4 ⟨rfl, hb4⟩
      have HT3d : Hid (TmsRd w4 b L) := HT3.out.below hb4
      have HT2d : Hid (TmsRd w4 a L) := HT2b.out.below hb4
      have HB4 : Hid (Below w.heap.size w w4) := HB3.out.trans (hb4.mono HB3.out.size)
      clear hb4 HT3 HT2b HB3 HV3
      go_wp2_with fail
      refine (HS.out b a cb ca _ HT3d.out HT2d.out).mono ?_
      rintro e w5 ⟨rfl, hb5⟩
      have HB5 : Hid (Below w.heap.size w w5) := HB4.out.trans (hb5.mono HB4.out.size)
      clear hb5
      go_wp2
      go_ret
      exact ⟨rfl, HB5.out⟩
    · clear y1 y2 y3 HAG
      go_wp2_with fail
      refine (law_live _ HV2.out).mono ?_
      rintro e w4 ⟨rfl, hb4⟩
      have HT2d : Hid (TmsRd w4 a L) := HT2.out.below hb4
      have HB4 : Hid (Below w.heap.size w w4) := HB2.out.trans (hb4.mono HB2.out.size)
      clear hb4 HT2 HB2 HV2
      go_wp2_with fail
      refine (HCK.out a ca _ HT2d.out).mono ?_
      rintro e w5 ⟨rfl, hb5⟩
      have HB5 : Hid (Below w.heap.size w w5) := HB4.out.trans (hb5.mono HB4.out.size)
      clear hb5
      go_wp2
      go_ret
      exact ⟨rfl, HB5.out⟩

set_option maxRecDepth 100000 in
theorem contract (H : Type) (enc : TypeId × Value → H) (W : World) (base : Nat) (args : Array Value) (ds gs : List (DataW H)) (before : List MemPlace)
    (hval : ∀ (j : Nat) t v, Tryz.f3.params[j]? = some t → args[j]? = some v → Value.okWide Tryz.prog W .any base t v)
    (hW : DataW.Whole enc Tryz.prog Tryz.f3.params.toList Rows.predAgainSpec.vars false W args.toList ds gs before) (hL : laidMetH Tryz.prog Rows.predAgainRow.laid W) :
    Calls Tryz.prog 3 args W fun e W' => ∃ v, e = .returned v ∧ Rows.predAgainSpec.post enc Tryz.prog Tryz.f3 false true false false W args v W' := by
  have hW' := hW
  obtain ⟨p, q, hA0, hV, rfl, hfz, hnd⟩ := hW
  have hA : DataW.TrodAll enc Tryz.prog W 0 (fun _ => true) true Tryz.f3.params.toList args.toList ds p := hA0
  have hK := hA
  rw [Tryz.params3] at hA hval
  obtain ⟨v0, vs0, d0, ds0, p0, q0, hargs, rfl, rfl, h0, r0⟩ := trodAll_cons hA
  obtain ⟨rfl, rfl, rfl⟩ := trodAll_nil r0
  obtain rfl : args = #[v0] := by cases args; simp_all
  obtain ⟨rfl, rfl⟩ := trodVars_none hV
  obtain ⟨s0, rfl, rfl, rfl, hs0⟩ := open_string Tryz.underlying9 (hval 0 9 v0 rfl rfl) h0
  refine (walk s0 W (vars_of hL) (tb_of hL)).mono fun e W' ⟨he, bel⟩ => ?_
  subst he
  exact ⟨_, rfl, _, _, _, [], _, [], hW', trodAll_mk1 (shut_bool Tryz.underlying4 _), trodAll_below laidOut bel _ _ _ _ (by kernel_rfl) hK, rfl, bel.frame _, fun h => by cases h⟩

theorem laid_met (os : Os) : laidMet Tryz.prog Rows.predAgainRow.laid ((layTab (World.holding Tryz.prog os ⟨#[], #[], []⟩)).forCall (fun _ _ => 0) ⟨#[], #[.string .empty], []⟩).memory :=
  laidMet_of_run' 8 (by kernel_rfl) (by kernel_rfl)
theorem reads (os : Os) {H : Type} (enc : TypeId × Value → H) : ∃ places, DataW.whole enc Tryz.prog ((layTab (World.holding Tryz.prog os ⟨#[], #[], []⟩)).forCall (fun _ _ => 0) ⟨#[], #[.string .empty], []⟩).memory Tryz.f3.params.toList Rows.predAgainSpec.vars false (#[.string .empty] : Array Value).toList 8 = some ([.lit (.string [])], [], places) :=
  ⟨[], by kernel_rfl⟩

set_option maxRecDepth 100000 in
theorem lifted (os : Os) (started : os.Started) (H : Type) (enc : TypeId × Value → H) (F : Stop.Interp) :
    ReturnsInHanded {} Tryz.checked os 3 .any ((OpenSpec.ofChange Rows.predAgainSpec).preRow enc Tryz.prog Tryz.f3 Rows.predAgainRow.domain false Rows.predAgainRow.laid) (((OpenSpec.ofChange Rows.predAgainSpec).at F).post enc Tryz.prog Tryz.f3 false true false false) := by
  obtain ⟨places, hx⟩ := reads os enc
  refine returnsInHanded_of_row (C := Tryz.checked) (s := OpenSpec.ofChange Rows.predAgainSpec) own started (by kernel_rfl) Tryz.func3
    (witness_row_at (enc := enc) (C := Tryz.checked) false (layTab (World.holding Tryz.prog os ⟨#[], #[], []⟩)) #[.string .empty] rfl (by kernel_rfl) (by kernel_rfl) (by kernel_rfl)
      (OpenSpec.preRow_of_cond 8 hx (by kernel_rfl) (fun k hk => by cases hk) (by kernel_rfl) (laid_met os))) ?_
  intro W base args ds gs before hval hW _ _ _ hL _ _
  exact contract H enc W base args ds gs before hval hW hL

theorem said : Rows.PredAgainSaid :=
  OpenClaim.holds_of_cond 3 Tryz.f3 rfl rfl rfl rfl rfl rfl rfl ⟨rfl, rfl, rfl, rfl, rfl⟩ rfl rfl rfl rfl rfl (by kernel_rfl) Tryz.func3 (by kernel_rfl)
    (of_decide_eq_true (by kernel_rfl)) (by unfold Func.isWrapper; first | (rw [if_pos (by decide +kernel)]; kernel_rfl) | (rw [if_neg (by decide +kernel)]; exact ⟨rfl, rfl⟩))
    (fun os started H enc _ F => by rw [OpenClaim.pre_eq_preRow]; exact lifted os started H enc F)

theorem plain (f : FuncId) (fn : Func) (hf : Tryz.pinned.checked.prog.funcNamed "grapevine/grapevinelaw05.PredAgain" = some f) (hfn : Tryz.pinned.checked.prog.funcs[f]? = some fn) :
    true = Tryz.pinned.checked.prog.looks [] ∧ ∀ (j : Nat) t, fn.params[j]? = some t → Tryz.pinned.checked.prog.wantsStandIn t = false := by
  obtain rfl : f = 3 := Option.some.inj ((show Tryz.prog.funcNamed "grapevine/grapevinelaw05.PredAgain" = some 3 by kernel_rfl).symm.trans hf) |>.symm
  obtain rfl : fn = Tryz.f3 := (Option.some.inj (Tryz.func3.symm.trans hfn)).symm
  refine ⟨by kernel_rfl, fun j t ht => ?_⟩
  rw [Tryz.params3] at ht
  have hall : ∀ t ∈ (#[9] : Array TypeId), Tryz.prog.wantsStandIn t = false := by
    intro t ht
    simp at ht
    subst ht
    exact (show Tryz.prog.wantsStandIn 9 = false by kernel_rfl)
  exact hall t (Array.mem_of_getElem? ht)

theorem card : Rows.PredAgainCardSaid :=
  Claim7.holds_tied_plain_at .later [] _ _ _ _ said (fun _ h => by cases h) (by kernel_rfl) (fun _ h => by cases h) predAgain_row_tie rfl ⟨rfl, rfl⟩ (by kernel_rfl) rfl plain (by kernel_rfl)
end predAgain

theorem predAgain_holds : Rows.PredAgainCardSaid := predAgain.card
end Go.Proofs.YteoopoabemeanaaGreatDoor

