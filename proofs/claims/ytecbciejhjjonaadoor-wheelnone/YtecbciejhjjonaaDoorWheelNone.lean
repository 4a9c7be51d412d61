/- Proved: for every two numbers grapevinelaw12.WheelNone answers true and leaves its arguments as they were, where math/bits.deBruijn64tab holds what its initialiser lays (tied by the card). No other condition. -/
import Derived.Test.YtecbciejhjjonaaDoorWhFrame
namespace Go.Proofs.YtecbciejhjjonaaDoor
open Go.ChangeShapes Go.WideShapes Go.ChangeAt Go.RowKit
namespace wheelNone

def n1 : St := setD (setD (newS 0) 7 3) 2 4
theorem n1_ids : idsS (allN n1.slots) = [2, 7] := by decide +kernel
theorem n1_ok : setE 7 3 = 0 ∧ setE 2 4 = 0 := by decide

set_option maxRecDepth 100000 in
set_option maxHeartbeats 8000000 in
theorem walk (id at_ : Int) (w : World) (hT : Tab w) (hw : 0 < w.heap.size) :
    Calls Tryd.prog 8 #[.int .i64 id, .int .i64 at_] w fun e w' => e = .returned (.bool true) ∧ Below w.heap.size w w' := by
  have HT : Hid (Tab w) := hT
  have HP : Hid (0 < w.heap.size) := hw
  obtain ⟨g, hg⟩ : ∃ g, g = w.heap.size := ⟨_, rfl⟩
  have HGE : Hid (g = w.heap.size) := hg
  clear hT hw hg
  go_enter Tryd.func8, Tryd.ntmps8
  go_wp2_with fail
  refine (nil_Advance w at_).mono ?_
  rintro e w' ⟨rfl, hw'⟩
  rw [hw']
  clear hw' w'
  go_wp2_with fail
  refine (nil_At w id).mono ?_
  rintro e w' ⟨rfl, hw'⟩
  rw [hw']
  clear hw' w'
  go_wp2_with fail
  refine (nil_Next w).mono ?_
  rintro e w' ⟨rfl, hw'⟩
  rw [hw']
  clear hw' w'
  go_wp2_with fail
  refine (nil_Set w id at_).mono ?_
  rintro e w' ⟨rfl, hw'⟩
  rw [hw']
  clear hw' w'
  go_wp2_with fail
  refine (nil_Drop w id).mono ?_
  rintro e w' ⟨rfl, hw'⟩
  rw [hw']
  clear hw' w'
  go_wp2_with fail
  refine (wh_Now_nil w).mono ?_
  rintro e w' ⟨rfl, hw'⟩
  rw [hw']
  clear hw' w'
  go_wp2_with fail
  refine (nil_Ids w).mono ?_
  rintro e w' ⟨rfl, hw'⟩
  rw [hw']
  clear hw' w'
  go_wp2_with fail
  refine (nil_Fork w).mono ?_
  rintro e w' ⟨rfl, hw'⟩
  rw [hw']
  clear hw' w'
  go_wp2_with fail
  refine (wh_New w 0).mono ?_
  rintro e w1 ⟨ht, hb1⟩
  rcases ht.out with ⟨h0, _⟩ | ⟨_, rfl, hw1⟩
  · exact absurd (by omega) h0
  rw [← HGE.out] at hw1
  have HW1 : Hid (Wh w1 g (newS 0)) := hw1
  have HB1 : Hid (Below w.heap.size w w1) := hb1
  rw [← HGE.out]
  clear ht hw1 hb1
  go_wp2_with fail
  refine (wh_Set w1 g (newS 0) 7 3 HW1.out).mono ?_
  rw [n1_ok.1]
  rintro e w2 ⟨rfl, hw2, hg2⟩
  have HW2 : Hid (Wh w2 g (setD (newS 0) 7 3)) := hw2.out
  have HB2 : Hid (Below w.heap.size w w2) := Below.of_grown HB1.out hg2 (by rw [HGE.out]; exact Nat.le_refl _) HB1.out.size
  clear hw2 hg2
  go_wp2_with fail
  refine (wh_Set w2 g _ 2 4 HW2.out).mono ?_
  rw [n1_ok.2]
  rintro e w3 ⟨rfl, hw3, hg3⟩
  have HW3 : Hid (Wh w3 g n1) := hw3.out
  have HB3 : Hid (Below w.heap.size w w3) := Below.of_grown HB2.out hg3 (by rw [HGE.out]; exact Nat.le_refl _) HB2.out.size
  clear hw3 hg3
  have HI3 := wh_Ids w3 g n1 HW3.out (HT.out.below HP.out HB3.out)
  rw [n1_ids] at HI3
  go_wp2_with fail
  refine HI3.mono ?_
  rintro e w4 ⟨v, rfl, ho4, hb4⟩
  clear HI3
  have ho4' := ho4.out
  rcases ho4'.2 with ⟨h1, h2⟩ | ⟨kb, c4, cur, hv, hkb, hk4, hlc, hmc, hsc, htk⟩
  · simp at h2
  subst hv
  have HLT : Hid (g < w3.heap.size) := HW3.out.blk.lt
  have HKB : Hid (w3.heap.size ≤ kb) := hkb
  have HK4 : Hid (Blk w4 kb cur 3) := hk4
  have HSC : Hid (2 ≤ cur.size) := by have : cur.size = c4 * 1 := hsc; have h3 : [2, 7].length ≤ c4 := hlc; simp at h3; show _ ≤ _; omega
  have HW4 : Hid (Wh w4 g n1) := HW3.out.stay hb4
  have HB4 : Hid (Below w.heap.size w w4) := HB3.out.trans (hb4.mono HB3.out.size)
  clear ho4 ho4' hb4 hk4 hkb hlc hmc hsc htk
  simp only [List.length_cons, List.length_nil, Nat.zero_add]
  go_wp2
  go_loopw [15] (fun t15 wr => ∃ (k : Nat) (cs : Array Value), k ≤ 2 ∧ t15 = .int .i64 (k : Int) ∧ Hid (Blk wr kb cs 3) ∧ Hid (2 ≤ cs.size) ∧ Hid (Wh wr g n1) ∧ Hid (Below w.heap.size w wr)) (fun t15 _ => 2 - (intOf t15).toNat)
  case atStart => exact ⟨0, cur, by omega, rfl, HK4, HSC, HW4, HB4⟩
  case round =>
    obtain ⟨k, cs, hk, rfl, HKr, HSr, HWr, HBr⟩ := hrel
    clear HK4 HSC HW4 HB4
    by_cases hlt : k < 2
    · have hlt' : (k : Int) < 2 := by omega
      have hk0 : (0 : Int) ≤ (k : Int) := by omega
      obtain ⟨cv, hcv⟩ : ∃ cv, cs[k]? = some cv := ⟨_, Array.getElem?_eq_getElem (by have := HSr.out; omega)⟩
      have c0 : wr.cell? ⟨kb, k, none⟩ = some cv := HKr.out.cell k hcv
      clear hcv
      have f0 : wr.frozen? ⟨kb, k, none⟩ = false := HKr.out.free k
      have HKs : Hid (Blk (wr.setCell ⟨kb, k, none⟩ (.int .i64 9)) kb (cs.setIfInBounds k (.int .i64 9)) 3) := HKr.out.set k _
      have HSs : Hid (2 ≤ (cs.setIfInBounds k (.int .i64 9)).size) := by simpa [Hid] using HSr.out
      have HNE : Hid (g ≠ kb) := by have h1 := HLT.out; have h2 := HKB.out; show _ ≠ _; omega
      have HWs : Hid (Wh (wr.setCell ⟨kb, k, none⟩ (.int .i64 9)) g n1) := ⟨HWr.out.blk.other _ _ HNE.out, HWr.out.dl, HWr.out.sl, HWr.out.nw, HWr.out.dw, HWr.out.sw⟩
      have HBs : Hid (Below w.heap.size w (wr.setCell ⟨kb, k, none⟩ (.int .i64 9))) := HBr.out.setCell (by have h1 := HKB.out; have h2 := HB3.out.size; show _ ≤ kb; omega) _
      clear HKr HSr HWr HBr
      go_wp2
      go_roundw
      case rel => exact ⟨k + 1, _, by omega, by go_num, HKs, HSs, HWs, HBs⟩
      case measure => simp [intOf]; omega
    · have hnl : ¬ (k : Int) < 2 := by omega
      go_wp2_with fail
      refine (law_live12 _ (HT.out.below HP.out HBr.out) (Nat.lt_of_lt_of_le HP.out HBr.out.size)).mono ?_
      rintro e w5 ⟨rfl, hb5⟩
      have HW5 : Hid (Wh w5 g n1) := HWr.out.stay hb5
      have HB5 : Hid (Below w.heap.size w w5) := HBr.out.trans (hb5.mono HBr.out.size)
      clear hb5 HKr HSr HWr HBr
      have HI5 := wh_Ids w5 g n1 HW5.out (HT.out.below HP.out HB5.out)
      rw [n1_ids] at HI5
      go_wp2_with fail
      refine HI5.mono ?_
      rintro e w6 ⟨v6, rfl, ho6, hb6⟩
      clear HI5
      obtain ⟨a6, n6, c6, rfl⟩ := own_slice ho6.out
      have HR6 : Hid (IsRd w6 a6 n6 [2, 7]) := IsRd.of_own ho6.out
      have HB6 : Hid (Below w.heap.size w w6) := HB5.out.trans (hb6.mono HB5.out.size)
      obtain rfl : n6 = 2 := HR6.out.size.symm
      clear ho6 hb6
      obtain ⟨w9, HW9⟩ : ∃ w9, Hid (w9 = w6.alloc (.cells #[.int .i64 2, .int .i64 7] 3)) := ⟨_, rfl⟩
      have HB9 : Hid (Below w6.heap.size w6 w9) := by show Below _ _ _; rw [HW9.out]; exact below_alloc _ _
      have HK9 : Hid (Blk w9 w6.heap.size #[.int .i64 2, .int .i64 7] 3) := by show Blk _ _ _ _; rw [HW9.out]; exact Blk.new _ _ _
      have HR9 : Hid (IsRd w9 (some ⟨w6.heap.size, 0, none⟩) 2 [2, 7]) := ⟨rfl, .inr ⟨_, rfl, HK9.out.lt, fun i hi => by
        rcases (show i = 0 ∨ i = 1 from by omega) with rfl | rfl
        · exact HK9.out.cell 0 rfl
        · exact HK9.out.cell 1 rfl⟩⟩
      go_wp2_with fail
      rw [← HW9.out]
      refine (ref_Same_alike w9 a6 (some ⟨w6.heap.size, 0, none⟩) 2 c6 2 [2, 7] (HR6.out.below HB9.out) HR9.out (by omega)).mono ?_
      rintro e w10 ⟨rfl, m, hm⟩
      have HF : Hid (Below w.heap.size w w10) := by show Below _ _ _; rw [hm]; exact HB6.out.trans ((below_drews HB9.out m).mono HB6.out.size)
      clear hm
      go_wp2
      go_ret
      exact ⟨rfl, HF.out⟩

set_option maxRecDepth 100000 in
theorem contract (H : Type) (enc : TypeId × Value → H) (W : World) (base : Nat) (args : Array Value) (ds gs : List (DataW H)) (before : List MemPlace)
    (hval : ∀ (j : Nat) t v, Tryd.f8.params[j]? = some t → args[j]? = some v → Value.okWide Tryd.prog W .any base t v)
    (hW : DataW.Whole enc Tryd.prog Tryd.f8.params.toList Rows.wheelNoneSpec.vars false W args.toList ds gs before) (hL : laidMetH Tryd.prog [("math/bits.deBruijn64tab", Rows.laid_math_bits_deBruijn64tab)] W) :
    Calls Tryd.prog 8 args W fun e W' => ∃ v, e = .returned v ∧ Rows.wheelNoneSpec.post enc Tryd.prog Tryd.f8 false true false false W args v W' := by
  have hW' := hW
  obtain ⟨p, q, hA0, hV, rfl, hfz, hnd⟩ := hW
  have hA : DataW.TrodAll enc Tryd.prog W 0 (fun _ => true) true Tryd.f8.params.toList args.toList ds p := hA0
  have hK := hA
  rw [Tryd.params8] at hA hval
  obtain ⟨v0, vs0, d0, ds0, p0, q0, hargs, rfl, rfl, h0, r0⟩ := trodAll_cons hA
  obtain ⟨v1, vs1, d1, ds1, p1, q1, rfl, rfl, rfl, h1, r1⟩ := trodAll_cons r0
  obtain ⟨rfl, rfl, rfl⟩ := trodAll_nil r1
  obtain rfl : args = #[v0, v1] := by cases args; simp_all
  obtain ⟨rfl, rfl⟩ := trodVars_none hV
  obtain ⟨x0, rfl, rfl, rfl, w0⟩ := open_int Tryd.underlying3 (hval 0 3 v0 rfl rfl) h0
  have b0 : (-9223372036854775808 : Int) ≤ x0 ∧ x0 ≤ 9223372036854775807 := by simpa [Lit.wf, IntKind.min, IntKind.max, IntKind.signed, IntKind.bits] using w0
  obtain ⟨x1, rfl, rfl, rfl, w1⟩ := open_int Tryd.underlying3 (hval 1 3 v1 rfl rfl) h1
  have b1 : (-9223372036854775808 : Int) ≤ x1 ∧ x1 ≤ 9223372036854775807 := by simpa [Lit.wf, IntKind.min, IntKind.max, IntKind.signed, IntKind.bits] using w1
  have ht := table hL
  have hz : 0 < W.heap.size := World.block_lt_of_cell? W _ (ht 0 (by omega))
  refine (walk x0 x1 W ht hz).mono fun e W' ⟨he, bel⟩ => ?_
  subst he
  exact ⟨_, rfl, _, _, _, [], _, [], hW', trodAll_mk1 (shut_bool Tryd.underlying4 _), trodAll_below laidOut bel _ _ _ _ (by kernel_rfl) hK, rfl, bel.frame _, fun h => by cases h⟩

theorem laid_met (os : Os) : laidMet Tryd.prog Rows.wheelNoneRow.laid ((layTab (World.holding Tryd.prog os ⟨#[], #[], []⟩)).forCall (fun _ _ => 0) ⟨#[], #[.int .i64 0, .int .i64 0], []⟩).memory :=
  laidMet_of_run' 8 (by kernel_rfl) (by kernel_rfl)
theorem reads (os : Os) {H : Type} (enc : TypeId × Value → H) : ∃ places, DataW.whole enc Tryd.prog ((layTab (World.holding Tryd.prog os ⟨#[], #[], []⟩)).forCall (fun _ _ => 0) ⟨#[], #[.int .i64 0, .int .i64 0], []⟩).memory Tryd.f8.params.toList Rows.wheelNoneSpec.vars false (#[.int .i64 0, .int .i64 0] : Array Value).toList 8 = some ([.lit (.int .i64 0), .lit (.int .i64 0)], [], places) :=
  ⟨[], by kernel_rfl⟩

set_option maxRecDepth 100000 in
theorem lifted (os : Os) (started : os.Started) (H : Type) (enc : TypeId × Value → H) (F : Stop.Interp) :
    ReturnsInHanded {} Tryd.checked os 8 .any ((OpenSpec.ofChange Rows.wheelNoneSpec).preRow enc Tryd.prog Tryd.f8 Rows.wheelNoneRow.domain false Rows.wheelNoneRow.laid) (((OpenSpec.ofChange Rows.wheelNoneSpec).at F).post enc Tryd.prog Tryd.f8 false true false false) := by
  obtain ⟨places, hx⟩ := reads os enc
  refine returnsInHanded_of_row (C := Tryd.checked) (s := OpenSpec.ofChange Rows.wheelNoneSpec) own started (by kernel_rfl) Tryd.func8
    (witness_row_at (enc := enc) (C := Tryd.checked) false (layTab (World.holding Tryd.prog os ⟨#[], #[], []⟩)) #[.int .i64 0, .int .i64 0] rfl (by kernel_rfl) (by kernel_rfl) (by kernel_rfl)
      (OpenSpec.preRow_of_cond 8 hx (by kernel_rfl) (fun k hk => by cases hk) (by kernel_rfl) (laid_met os))) ?_
  intro W base args ds gs before hval hW _ _ _ hL _ _
  exact contract H enc W base args ds gs before hval hW hL

theorem said : Rows.WheelNoneSaid :=
  OpenClaim.holds_of_cond 8 Tryd.f8 rfl rfl rfl rfl rfl rfl rfl ⟨rfl, rfl, rfl, rfl, rfl⟩ rfl rfl rfl rfl rfl (by kernel_rfl) Tryd.func8 (by kernel_rfl)
    (of_decide_eq_true (by kernel_rfl)) (by unfold Func.isWrapper; first | (rw [if_pos (by decide +kernel)]; kernel_rfl) | (rw [if_neg (by decide +kernel)]; exact ⟨rfl, rfl⟩))
    (fun os started H enc _ F => by rw [OpenClaim.pre_eq_preRow]; exact lifted os started H enc F)

theorem plain (f : FuncId) (fn : Func) (hf : Tryd.pinned.checked.prog.funcNamed "grapevine/grapevinelaw12.WheelNone" = some f) (hfn : Tryd.pinned.checked.prog.funcs[f]? = some fn) :
    false = Tryd.pinned.checked.prog.looks [] ∧ ∀ (j : Nat) t, fn.params[j]? = some t → Tryd.pinned.checked.prog.wantsStandIn t = false := by
  obtain rfl : f = 8 := Option.some.inj ((show Tryd.prog.funcNamed "grapevine/grapevinelaw12.WheelNone" = some 8 by kernel_rfl).symm.trans hf) |>.symm
  obtain rfl : fn = Tryd.f8 := (Option.some.inj (Tryd.func8.symm.trans hfn)).symm
  refine ⟨by kernel_rfl, fun j t ht => ?_⟩
  rw [Tryd.params8] at ht
  have hall : ∀ t ∈ (#[3, 3] : Array TypeId), Tryd.prog.wantsStandIn t = false := by
    intro t ht
    simp at ht
    subst ht
    exact (show Tryd.prog.wantsStandIn 3 = false by kernel_rfl)
  exact hall t (Array.mem_of_getElem? ht)

theorem card : Rows.WheelNoneCardSaid :=
  Claim7.holds_tied_plain_at .later [] _ _ _ _ said (fun _ h => by cases h) (by kernel_rfl) (fun _ h => by cases h) wheelNone_row_tie rfl ⟨rfl, rfl⟩ (by kernel_rfl) rfl plain (by kernel_rfl)
end wheelNone

theorem wheelNone_holds : Rows.WheelNoneCardSaid := wheelNone.card
end Go.Proofs.YtecbciejhjjonaaDoor

