/- Proved: for every two scripts grapevinelaw12.WheelForks answers true and leaves its arguments as they were, where math/bits.deBruijn64tab holds what its initialiser lays (tied by the card). No other condition. -/
import Derived.Test.YteiadaonihgbfaaDoorWhL2
namespace Go.Proofs.YteiadaonihgbfaaDoor
open Go.ChangeShapes Go.WideShapes Go.ChangeAt Go.RowKit
namespace wheelForks

set_option maxRecDepth 100000 in
set_option maxHeartbeats 4000000 in
theorem walk (a : Option Addr) (len cap : Nat) (l : List Dd) (a2 : Option Addr) (len2 cap2 : Nat) (l2 : List Dd) (w : World) (hl : DdsRd w a len l) (hl2 : DdsRd w a2 len2 l2) (hT : Tab w) (hz : 0 < w.heap.size) :
    Calls Tryd.prog 7 #[.slice a len cap, .slice a2 len2 cap2] w fun e w' => e = .returned (.bool true) ∧ Below w.heap.size w w' := by
  have HT : Hid (Tab w) := hT
  have HZ : Hid (0 < w.heap.size) := hz
  have HL2 : Hid (DdsRd w a2 len2 l2) := hl2
  have HP := law_play12 w 3 a len cap l hl hT hz
  clear hl hl2 hT hz
  go_enter Tryd.func7, Tryd.ntmps7
  go_wp2_with fail
  refine HP.mono ?_
  rintro e w1 ⟨ht1, hb1⟩
  have HB1 : Hid (Below w.heap.size w w1) := hb1
  clear HP hb1
  rcases ht1.out with ⟨h0, _⟩ | ⟨_, g, h, m, T, rfl, hd, hg1, hh1⟩
  · exact absurd ⟨by omega, by omega⟩ h0
  have HD1 : Hid (Dbl w1 g h m T) := hd
  have HGH : Hid (w.heap.size ≤ g ∧ w.heap.size ≤ h) := ⟨hg1, hh1⟩
  clear ht1 hd hg1 hh1
  go_wp2_with fail
  refine (ww_Fork w1 g m T HD1.out.wh).mono ?_
  rintro e w2 ⟨rfl, hf2, hb2⟩
  obtain ⟨f, hf⟩ : ∃ f, f = w1.heap.size := ⟨_, rfl⟩
  rw [← hf] at hf2 ⊢
  have HFE : Hid (f = w1.heap.size) := hf
  have HF2 : Hid (WW w2 f m T) := hf2.out
  have HD2 : Hid (Dbl w2 g h m T) := HD1.out.stay hb2
  have HB2 : Hid (Below w.heap.size w w2) := HB1.out.trans (hb2.mono HB1.out.size)
  clear hf2 hb2 hf
  go_wp2_with fail
  refine (ref_Fork12 w2 h m T HD2.out.rf).mono ?_
  rintro e w3 ⟨rfl, hf3, hb3⟩
  obtain ⟨k, hk⟩ : ∃ k, k = w2.heap.size := ⟨_, rfl⟩
  rw [← hk] at hf3 ⊢
  have HNE : Hid (f ≠ k ∧ f ≠ 0 ∧ k ≠ 0 ∧ g ≠ f ∧ g ≠ k ∧ h ≠ f ∧ h ≠ k ∧ w.heap.size ≤ f ∧ w.heap.size ≤ k) := by
    have k1 := HFE.out
    have k2 := HF2.out.lt
    have k3 := HD1.out.wh.lt
    have k4 := HD1.out.rf.lt
    have k5 := HB1.out.size
    (show _ ∧ _)
    omega
  have HB3 : Hid (Below w.heap.size w w3) := HB2.out.trans (hb3.mono HB2.out.size)
  have HD3 : Hid (Dbl w3 g h m T) := HD2.out.stay hb3
  have HX3 : Hid (Dbl w3 f k m T) := ⟨HF2.out.stay hb3, hf3.out, HNE.out.1, HNE.out.2.1, HNE.out.2.2.1, HD3.out.tab⟩
  clear hf3 hb3 hk
  go_wp2
  go_loopw [10] (fun t10 wr => ∃ (i : Nat), i ≤ len2 ∧ i ≤ 300 ∧ t10 = .int .i64 (i : Int) ∧ Hid (∃ m' T', Dbl wr f k m' T') ∧ Hid (Dbl wr g h m T) ∧ Hid (Below w.heap.size w wr)) (fun t10 _ => len2 - (intOf t10).toNat)
  case atStart => exact ⟨0, by omega, by omega, rfl, ⟨_, _, HX3.out⟩, HD3, HB3⟩
  case round =>
    obtain ⟨i, hi, hi3, rfl, HXr, HDr, HBr⟩ := hrel
    have hor : (i < len2 ∧ i < 300) ∨ ¬ i < len2 ∨ (i < len2 ∧ ¬ i < 300) := by omega
    rcases hor with ⟨hlt, h300⟩ | hstop
    · have hlt' : (i : Int) < (len2 : Int) := by omega
      have h300' : (i : Int) < 300 := by omega
      obtain ⟨gl, o, rfl, _, q, hq, c0, c1, c2⟩ := (HL2.out.below HBr.out).spot i hlt
      obtain ⟨kd, id, at_⟩ := q
      simp only at c0 c1 c2
      have hi0 : (0 : Int) ≤ (i : Int) := by omega
      obtain ⟨m', T', hdr⟩ := HXr.out
      have HC := law_do12 wr f k m' T' kd id at_ hdr
      clear hq hdr
      go_wp2_with fail
      refine HC.mono ?_
      rintro e w4 ⟨rfl, hd4, hg4⟩
      have HX4 : Hid (∃ m' T', Dbl w4 f k m' T') := hd4.out
      have HD4 : Hid (Dbl w4 g h m T) := HDr.out.gr2 hg4 HNE.out.2.2.2.1 HNE.out.2.2.2.2.1 HNE.out.2.2.2.2.2.1 HNE.out.2.2.2.2.2.2.1 HNE.out.2.1 HNE.out.2.2.1
      have HB4 : Hid (Below w.heap.size w w4) := Gr2.below HBr.out hg4 HNE.out.2.2.2.2.2.2.2.1 HNE.out.2.2.2.2.2.2.2.2 HBr.out.size
      clear hd4 hg4 c0 c1 c2 HC
      go_wp2
      go_roundw
      case rel => exact ⟨i + 1, by omega, by omega, by go_num, HX4, HD4, HB4⟩
      case measure => simp [intOf]; omega
    · rcases hstop with hs | ⟨hs, hs2⟩
      · have hlt' : ¬ (i : Int) < (len2 : Int) := by omega
        clear hs
        go_wp2_with fail
        refine (law_live12 wr HDr.out.tab (Nat.lt_of_lt_of_le HZ.out HBr.out.size)).mono ?_
        rintro e w5 ⟨rfl, hb5⟩
        have HD5 : Hid (Dbl w5 g h m T) := HDr.out.stay hb5
        have HX5 : Hid (∃ m' T', Dbl w5 f k m' T') := by
          obtain ⟨m', T', hx⟩ := HXr.out
          exact ⟨m', T', hx.stay hb5⟩
        have HB5 : Hid (Below w.heap.size w w5) := HBr.out.trans (hb5.mono HBr.out.size)
        clear hb5
        go_wp2_with fail
        refine (law_same12 w5 g h m T HD5.out).mono ?_
        rintro e w6 ⟨rfl, hb6⟩
        obtain ⟨m', T', hx5⟩ := HX5.out
        have HX6 : Hid (Dbl w6 f k m' T') := hx5.stay hb6
        have HB6 : Hid (Below w.heap.size w w6) := HB5.out.trans (hb6.mono HB5.out.size)
        clear hb6 hx5
        go_wp2_with fail
        refine (law_same12 w6 f k m' T' HX6.out).mono ?_
        rintro e w7 ⟨rfl, hb7⟩
        have HB7 : Hid (Below w.heap.size w w7) := HB6.out.trans (hb7.mono HB6.out.size)
        clear hb7
        go_wp2
        go_ret
        exact ⟨rfl, HB7.out⟩
      · have hlt' : (i : Int) < (len2 : Int) := by omega
        have h300' : ¬ (i : Int) < 300 := by omega
        clear hs hs2
        go_wp2_with fail
        refine (law_live12 wr HDr.out.tab (Nat.lt_of_lt_of_le HZ.out HBr.out.size)).mono ?_
        rintro e w5 ⟨rfl, hb5⟩
        have HD5 : Hid (Dbl w5 g h m T) := HDr.out.stay hb5
        have HX5 : Hid (∃ m' T', Dbl w5 f k m' T') := by
          obtain ⟨m', T', hx⟩ := HXr.out
          exact ⟨m', T', hx.stay hb5⟩
        have HB5 : Hid (Below w.heap.size w w5) := HBr.out.trans (hb5.mono HBr.out.size)
        clear hb5
        go_wp2_with fail
        refine (law_same12 w5 g h m T HD5.out).mono ?_
        rintro e w6 ⟨rfl, hb6⟩
        obtain ⟨m', T', hx5⟩ := HX5.out
        have HX6 : Hid (Dbl w6 f k m' T') := hx5.stay hb6
        have HB6 : Hid (Below w.heap.size w w6) := HB5.out.trans (hb6.mono HB5.out.size)
        clear hb6 hx5
        go_wp2_with fail
        refine (law_same12 w6 f k m' T' HX6.out).mono ?_
        rintro e w7 ⟨rfl, hb7⟩
        have HB7 : Hid (Below w.heap.size w w7) := HB6.out.trans (hb7.mono HB6.out.size)
        clear hb7
        go_wp2
        go_ret
        exact ⟨rfl, HB7.out⟩

set_option maxRecDepth 100000 in
theorem contract (H : Type) (enc : TypeId × Value → H) (W : World) (base : Nat) (args : Array Value) (ds gs : List (DataW H)) (before : List MemPlace)
    (hval : ∀ (j : Nat) t v, Tryd.f7.params[j]? = some t → args[j]? = some v → Value.okWide Tryd.prog W .any base t v)
    (hW : DataW.Whole enc Tryd.prog Tryd.f7.params.toList Rows.wheelForksSpec.vars false W args.toList ds gs before) (hL : laidMetH Tryd.prog [("math/bits.deBruijn64tab", Rows.laid_math_bits_deBruijn64tab)] W) :
    Calls Tryd.prog 7 args W fun e W' => ∃ v, e = .returned v ∧ Rows.wheelForksSpec.post enc Tryd.prog Tryd.f7 false true false false W args v W' := by
  have hW' := hW
  obtain ⟨p, q, hA0, hV, rfl, hfz, hnd⟩ := hW
  have hA : DataW.TrodAll enc Tryd.prog W 0 (fun _ => true) true Tryd.f7.params.toList args.toList ds p := hA0
  have hK := hA
  rw [Tryd.params7] at hA hval
  obtain ⟨v0, vs0, d0, ds0, p0, q0, hargs, rfl, rfl, h0, r0⟩ := trodAll_cons hA
  obtain ⟨v1, vs1, d1, ds1, p1, q1, rfl, rfl, rfl, h1, r1⟩ := trodAll_cons r0
  obtain ⟨rfl, rfl, rfl⟩ := trodAll_nil r1
  obtain rfl : args = #[v0, v1] := by cases args; simp_all
  obtain ⟨rfl, rfl⟩ := trodVars_none hV
  obtain ⟨a0, len0, cap0, rfl⟩ := okWide_slice Tryd.underlying22 (hval 0 22 v0 rfl rfl)
  obtain ⟨l0, rd0, _, _⟩ := open_deeds12 h0
  obtain ⟨a1, len1, cap1, rfl⟩ := okWide_slice Tryd.underlying22 (hval 1 22 v1 rfl rfl)
  obtain ⟨l1, rd1, _, _⟩ := open_deeds12 h1
  have ht := table hL
  have hz : 0 < W.heap.size := World.block_lt_of_cell? W _ (ht 0 (by omega))
  refine (walk a0 len0 cap0 l0 a1 len1 cap1 l1 W rd0 rd1 ht hz).mono fun e W' ⟨he, bel⟩ => ?_
  subst he
  exact ⟨_, rfl, _, _, _, [], _, [], hW', trodAll_mk1 (shut_bool Tryd.underlying4 _), trodAll_below laidOut bel _ _ _ _ (by kernel_rfl) hK, rfl, bel.frame _, fun h => by cases h⟩

theorem laid_met (os : Os) : laidMet Tryd.prog Rows.wheelForksRow.laid ((layTab (World.holding Tryd.prog os ⟨#[], #[], []⟩)).forCall (fun _ _ => 0) ⟨#[], #[.slice none 0 0, .slice none 0 0], []⟩).memory :=
  laidMet_of_run' 8 (by kernel_rfl) (by kernel_rfl)
theorem reads (os : Os) {H : Type} (enc : TypeId × Value → H) : ∃ places, DataW.whole enc Tryd.prog ((layTab (World.holding Tryd.prog os ⟨#[], #[], []⟩)).forCall (fun _ _ => 0) ⟨#[], #[.slice none 0 0, .slice none 0 0], []⟩).memory Tryd.f7.params.toList Rows.wheelForksSpec.vars false (#[.slice none 0 0, .slice none 0 0] : Array Value).toList 8 = some ([.nil, .nil], [], places) :=
  ⟨[], by kernel_rfl⟩

set_option maxRecDepth 100000 in
theorem lifted (os : Os) (started : os.Started) (H : Type) (enc : TypeId × Value → H) (F : Stop.Interp) :
    ReturnsInHanded {} Tryd.checked os 7 .any ((OpenSpec.ofChange Rows.wheelForksSpec).preRow enc Tryd.prog Tryd.f7 Rows.wheelForksRow.domain false Rows.wheelForksRow.laid) (((OpenSpec.ofChange Rows.wheelForksSpec).at F).post enc Tryd.prog Tryd.f7 false true false false) := by
  obtain ⟨places, hx⟩ := reads os enc
  refine returnsInHanded_of_row (C := Tryd.checked) (s := OpenSpec.ofChange Rows.wheelForksSpec) own started (by kernel_rfl) Tryd.func7
    (witness_row_at (enc := enc) (C := Tryd.checked) false (layTab (World.holding Tryd.prog os ⟨#[], #[], []⟩)) #[.slice none 0 0, .slice none 0 0] rfl (by kernel_rfl) (by kernel_rfl) (by kernel_rfl)
      (OpenSpec.preRow_of_cond 8 hx (by kernel_rfl) (fun k hk => by cases hk) (by kernel_rfl) (laid_met os))) ?_
  intro W base args ds gs before hval hW _ _ _ hL _ _
  exact contract H enc W base args ds gs before hval hW hL

theorem said : Rows.WheelForksSaid :=
  OpenClaim.holds_of_cond 7 Tryd.f7 rfl rfl rfl rfl rfl rfl rfl ⟨rfl, rfl, rfl, rfl, rfl⟩ rfl rfl rfl rfl rfl (by kernel_rfl) Tryd.func7 (by kernel_rfl)
    (of_decide_eq_true (by kernel_rfl)) (by unfold Func.isWrapper; first | (rw [if_pos (by decide +kernel)]; kernel_rfl) | (rw [if_neg (by decide +kernel)]; exact ⟨rfl, rfl⟩))
    (fun os started H enc _ F => by rw [OpenClaim.pre_eq_preRow]; exact lifted os started H enc F)

theorem plain (f : FuncId) (fn : Func) (hf : Tryd.pinned.checked.prog.funcNamed "grapevine/grapevinelaw12.WheelForks" = some f) (hfn : Tryd.pinned.checked.prog.funcs[f]? = some fn) :
    false = Tryd.pinned.checked.prog.looks [] ∧ ∀ (j : Nat) t, fn.params[j]? = some t → Tryd.pinned.checked.prog.wantsStandIn t = false := by
  obtain rfl : f = 7 := Option.some.inj ((show Tryd.prog.funcNamed "grapevine/grapevinelaw12.WheelForks" = some 7 by kernel_rfl).symm.trans hf) |>.symm
  obtain rfl : fn = Tryd.f7 := (Option.some.inj (Tryd.func7.symm.trans hfn)).symm
  refine ⟨by kernel_rfl, fun j t ht => ?_⟩
  rw [Tryd.params7] at ht
  have hall : ∀ t ∈ (#[22, 22] : Array TypeId), Tryd.prog.wantsStandIn t = false := by
    intro t ht
    simp at ht
    subst ht
    exact (show Tryd.prog.wantsStandIn 22 = false by kernel_rfl)
  exact hall t (Array.mem_of_getElem? ht)

theorem card : Rows.WheelForksCardSaid :=
  Claim7.holds_tied_plain_at .later [] _ _ _ _ said (fun _ h => by cases h) (by kernel_rfl) (fun _ h => by cases h) wheelForks_row_tie rfl ⟨rfl, rfl⟩ (by kernel_rfl) rfl plain (by kernel_rfl)
end wheelForks

theorem wheelForks_holds : Rows.WheelForksCardSaid := wheelForks.card
end Go.Proofs.YteiadaonihgbfaaDoor

