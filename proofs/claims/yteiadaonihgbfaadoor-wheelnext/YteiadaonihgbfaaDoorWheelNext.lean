/- Proved: for every script grapevinelaw12.WheelNext answers true and leaves its arguments as they were, where math/bits.deBruijn64tab holds what its initialiser lays (tied by the card). No other condition. -/
import Derived.Test.YteiadaonihgbfaaDoorWhL2
namespace Go.Proofs.YteiadaonihgbfaaDoor
open Go.ChangeShapes Go.WideShapes Go.ChangeAt Go.RowKit
namespace wheelNext

theorem run_max_i (w : World) (ts : Array TypeId) (t : TypeId) (x y : Int) : (Builtin.max_ ts t #[.int .i64 x, .int .i64 y]).run Tryd.prog w = .ok (.int .i64 (max x y)) w := by
  by_cases h : x < y
  · rw [show max x y = y from by omega]
    simp [Builtin.max_, Builtin.max2, go_sem]
    omega
  · rw [show max x y = x from by omega]
    simp [Builtin.max_, Builtin.max2, go_sem]
    omega
theorem ids_none {T : Nat → Option Nat} (h : ∀ i, i < 64 → T i = none) : idsT T = [] := by
  unfold idsT
  rw [List.filter_eq_nil_iff.2 (fun i hi => by rw [h i (List.mem_range.1 hi)]; simp)]
  rfl
/-- Ahead of the first one none comes due. -/
theorem told_none {T : Nat → Option Nat} {m to : Nat} {L : List Nat} (hn : IsNext T m true) (hT : Told T to L) (hm : to < m) : L.length = 0 := by
  cases L with
  | nil => rfl
  | cons x t =>
    obtain ⟨h1, h2, d, h3, h4⟩ := (hT.2 x).1 (by simp)
    rcases hn with ⟨e, _⟩ | ⟨_, _, hn⟩
    · cases e
    · have := hn (x - 1) d (by omega) h3
      omega
theorem adv_keeps {T : Nat → Option Nat} {m to : Nat} (hn : IsNext T m true) (hm : to < m) : IsNext (advT T to) m true := by
  rcases hn with ⟨e, _⟩ | ⟨_, ⟨i, hi, h1⟩, hn⟩
  · cases e
  · refine .inr ⟨rfl, ⟨i, hi, ?_⟩, fun j d hj hd => ?_⟩
    · unfold advT
      rw [h1]
      simp only
      rw [if_neg (by omega)]
    · unfold advT at hd
      cases hT : T j with
      | none => rw [hT] at hd; cases hd
      | some e =>
        rw [hT] at hd
        simp only at hd
        split at hd
        · cases hd
        · cases hd; exact hn j _ hj hT
/-- At it one comes due. -/
theorem told_some {T : Nat → Option Nat} {m to : Nat} {L : List Nat} (hn : IsNext T m true) (hT : Told T to L) (hm : m ≤ to) : 0 < L.length := by
  rcases hn with ⟨e, _⟩ | ⟨_, ⟨i, hi, h1⟩, _⟩
  · cases e
  · have := (hT.2 (i + 1)).2 ⟨by omega, by omega, m, by rw [show i + 1 - 1 = i from by omega]; exact h1, hm⟩
    exact List.length_pos_of_mem this

set_option maxRecDepth 100000 in
set_option maxHeartbeats 4000000 in
theorem walk (a : Option Addr) (len cap : Nat) (l : List Dd) (w : World) (hl : DdsRd w a len l) (hT : Tab w) (hz : 0 < w.heap.size) :
    Calls Tryd.prog 6 #[.slice a len cap] w fun e w' => e = .returned (.bool true) ∧ Below w.heap.size w w' := by
  have HZ : Hid (0 < w.heap.size) := hz
  have HP := law_play12 w 0 a len cap l hl hT hz
  clear hl hT hz
  go_enter Tryd.func6, Tryd.ntmps6
  go_wp2_with fail
  refine HP.mono ?_
  rintro e w1 ⟨ht1, hb1⟩
  have HB1 : Hid (Below w.heap.size w w1) := hb1
  clear HP hb1
  rcases ht1.out with ⟨h0, _⟩ | ⟨_, g, h, n, T, rfl, hd, hg1, _⟩
  · exact absurd ⟨by omega, by omega⟩ h0
  have HW1 : Hid (WW w1 g n T) := hd.wh
  have HT1 : Hid (Tab w1) := hd.tab
  have HG0 : Hid (g ≠ 0) := hd.g0
  have HGE : Hid (w.heap.size ≤ g) := hg1
  clear ht1 hd hg1
  go_wp2_with fail
  refine (ww_Next w1 g n T HW1.out HT1.out).mono ?_
  rintro e w2 ⟨hn2, hb2⟩
  obtain ⟨m, b, rfl, hx2, hm2⟩ := hn2.out
  have HX2 : Hid (IsNext T m b) := hx2
  have HB2 : Hid (Below w.heap.size w w2) := HB1.out.trans (hb2.mono HB1.out.size)
  have HW2 : Hid (WW w2 g n T) := HW1.out.stay hb2
  have HT2 : Hid (Tab w2) := HT1.out.below (Nat.lt_of_le_of_lt (Nat.zero_le _) HW1.out.lt) hb2
  clear hn2 hx2 hb2
  cases b with
  | false =>
    have HNO : Hid (∀ i, i < 64 → T i = none) := by
      rcases HX2.out with ⟨_, _, h3⟩ | ⟨e, _⟩
      · exact h3
      · cases e
    have hm0 : m = 0 := by
      rcases HX2.out with ⟨_, h3, _⟩ | ⟨e, _⟩
      · exact h3
      · cases e
    subst hm0
    clear hm2
    go_wp2_with fail
    refine (law_live12 w2 HT2.out (Nat.lt_of_lt_of_le HZ.out HB2.out.size)).mono ?_
    rintro e w3 ⟨rfl, hb3⟩
    have HB3 : Hid (Below w.heap.size w w3) := HB2.out.trans (hb3.mono HB2.out.size)
    have HW3 : Hid (WW w3 g n T) := HW2.out.stay hb3
    have HT3 : Hid (Tab w3) := HT2.out.below (Nat.lt_of_le_of_lt (Nat.zero_le _) HW2.out.lt) hb3
    clear hb3
    have HI := ww_Ids w3 g n T HW3.out HT3.out
    rw [ids_none HNO.out] at HI
    go_wp2_with fail
    refine HI.mono ?_
    rintro e w4 ⟨v4, rfl, ho4, hb4⟩
    obtain ⟨a4, n4, c4, rfl⟩ := own_slice ho4.out
    obtain rfl : n4 = 0 := own_n (l := []) ho4.out
    have HB4 : Hid (Below w.heap.size w w4) := HB3.out.trans (hb4.mono HB3.out.size)
    clear HI ho4 hb4
    go_wp2
    go_ret
    exact ⟨rfl, HB4.out⟩
  | true =>
    go_wp2_with fail
    refine (ww_Now w2 g n T HW2.out).mono ?_
    rintro e w3 ⟨rfl, hw3⟩
    rw [hw3]
    clear hw3 w3
    have HNM : Hid (n ≤ 1099511627776) := HW2.out.nle
    by_cases hmn : n < m
    · have hmn' : (n : Int) < (m : Int) := by omega
      obtain ⟨p, hp⟩ : ∃ p, p = m - 1 := ⟨_, rfl⟩
      have HP : Hid (p = m - 1) := hp
      have q1 : (m : Int) - 1 = (p : Int) := by omega
      have q2 : IntKind.i64.wrap (p : Int) = (p : Int) := by rw [IntKind.wrap_i64]; omega
      have HPB : Hid (n ≤ p ∧ p ≤ 1099511627776 ∧ p < m ∧ m ≤ 1099511627776) := by (show _ ∧ _); omega
      clear hp hm2
      go_wp2_with fail
      refine (ww_Advance w2 g n T p HW2.out HT2.out HG0.out HPB.out.1 HPB.out.2.1).mono ?_
      rintro e w3 ⟨v3, rfl, hw3, ho3, hg3⟩
      obtain ⟨L3, ho3, ht3, _⟩ := ho3.out
      obtain ⟨a3, n3, c3, rfl⟩ := own_slice ho3
      obtain rfl : n3 = 0 := (own_n ho3).trans (told_none HX2.out ht3 HPB.out.2.2.1)
      have HW3 : Hid (WW w3 g p (advT T p)) := hw3.out
      have HX3 : Hid (IsNext (advT T p) m true) := adv_keeps HX2.out HPB.out.2.2.1
      have HT3 : Hid (Tab w3) := HT2.out.grown hg3 HG0.out
      have HB3 : Hid (Below w.heap.size w w3) := Below.of_grown HB2.out hg3 HGE.out HB2.out.size
      clear hw3 ho3 ht3 hg3
      go_wp2_with fail
      refine (ww_Now w3 g p _ HW3.out).mono ?_
      rintro e w4 ⟨rfl, hw4⟩
      rw [hw4]
      clear hw4 w4
      have hmx : ∀ (w' : World) (ts : Array TypeId) (t : TypeId), (Builtin.max_ ts t #[.int .i64 (m : Int), .int .i64 (p : Int)]).run Tryd.prog w' = .ok (.int .i64 (m : Int)) w' := fun w' ts t => by
        have := run_max_i w' ts t (m : Int) (p : Int)
        rwa [show max (m : Int) (p : Int) = (m : Int) from by have := HPB.out; omega] at this
      have HAD := ww_Advance w3 g p (advT T p) m HW3.out HT3.out HG0.out (Nat.le_of_lt HPB.out.2.2.1) HPB.out.2.2.2
      go_wp2_with fail
      refine HAD.mono ?_
      rintro e w5 ⟨v5, rfl, hw5, ho5, hg5⟩
      obtain ⟨L5, ho5, ht5, _⟩ := ho5.out
      obtain ⟨a5, n5, c5, rfl⟩ := own_slice ho5
      have hn5 : 0 < n5 := by rw [own_n ho5]; exact told_some HX3.out ht5 (Nat.le_refl _)
      have hn5' : (0 : Int) < (n5 : Int) := by omega
      have HW5 : Hid (∃ n' T', WW w5 g n' T') := ⟨_, _, hw5.out⟩
      have HT5 : Hid (Tab w5) := HT3.out.grown hg5 HG0.out
      have HB5 : Hid (Below w.heap.size w w5) := Below.of_grown HB3.out hg5 HGE.out HB3.out.size
      clear HAD hw5 ho5 ht5 hg5 hmx
      go_wp2_with fail
      refine (law_live12 w5 HT5.out (Nat.lt_of_lt_of_le HZ.out HB5.out.size)).mono ?_
      rintro e w6 ⟨rfl, hb6⟩
      have HB6 : Hid (Below w.heap.size w w6) := HB5.out.trans (hb6.mono HB5.out.size)
      clear hb6
      go_wp2
      go_ret
      exact ⟨by simp, HB6.out⟩
    · have hmn' : ¬ (n : Int) < (m : Int) := by omega
      clear hm2
      go_wp2_with fail
      refine (ww_Now w2 g n T HW2.out).mono ?_
      rintro e w4 ⟨rfl, hw4⟩
      rw [hw4]
      clear hw4 w4
      have HB3 := HB2
      have HT3 := HT2
      have HX3 := HX2
      have HMN : Hid (m ≤ n) := by (show _ ≤ _); omega
      have hmx : ∀ (w' : World) (ts : Array TypeId) (t : TypeId), (Builtin.max_ ts t #[.int .i64 (m : Int), .int .i64 (n : Int)]).run Tryd.prog w' = .ok (.int .i64 (n : Int)) w' := fun w' ts t => by
        have := run_max_i w' ts t (m : Int) (n : Int)
        rwa [show max (m : Int) (n : Int) = (n : Int) from by omega] at this
      have HAD := ww_Advance w2 g n T n HW2.out HT2.out HG0.out (Nat.le_refl _) HNM.out
      go_wp2_with fail
      refine HAD.mono ?_
      rintro e w5 ⟨v5, rfl, hw5, ho5, hg5⟩
      obtain ⟨L5, ho5, ht5, _⟩ := ho5.out
      obtain ⟨a5, n5, c5, rfl⟩ := own_slice ho5
      have hn5 : 0 < n5 := by rw [own_n ho5]; exact told_some HX3.out ht5 HMN.out
      have hn5' : (0 : Int) < (n5 : Int) := by omega
      have HW5 : Hid (∃ n' T', WW w5 g n' T') := ⟨_, _, hw5.out⟩
      have HT5 : Hid (Tab w5) := HT3.out.grown hg5 HG0.out
      have HB5 : Hid (Below w.heap.size w w5) := Below.of_grown HB3.out hg5 HGE.out HB3.out.size
      clear HAD hw5 ho5 ht5 hg5 hmx
      go_wp2_with fail
      refine (law_live12 w5 HT5.out (Nat.lt_of_lt_of_le HZ.out HB5.out.size)).mono ?_
      rintro e w6 ⟨rfl, hb6⟩
      have HB6 : Hid (Below w.heap.size w w6) := HB5.out.trans (hb6.mono HB5.out.size)
      clear hb6
      go_wp2
      go_ret
      exact ⟨by simp, HB6.out⟩

set_option maxRecDepth 100000 in
theorem contract (H : Type) (enc : TypeId × Value → H) (W : World) (base : Nat) (args : Array Value) (ds gs : List (DataW H)) (before : List MemPlace)
    (hval : ∀ (j : Nat) t v, Tryd.f6.params[j]? = some t → args[j]? = some v → Value.okWide Tryd.prog W .any base t v)
    (hW : DataW.Whole enc Tryd.prog Tryd.f6.params.toList Rows.wheelNextSpec.vars false W args.toList ds gs before) (hL : laidMetH Tryd.prog [("math/bits.deBruijn64tab", Rows.laid_math_bits_deBruijn64tab)] W) :
    Calls Tryd.prog 6 args W fun e W' => ∃ v, e = .returned v ∧ Rows.wheelNextSpec.post enc Tryd.prog Tryd.f6 false true false false W args v W' := by
  have hW' := hW
  obtain ⟨p, q, hA0, hV, rfl, hfz, hnd⟩ := hW
  have hA : DataW.TrodAll enc Tryd.prog W 0 (fun _ => true) true Tryd.f6.params.toList args.toList ds p := hA0
  have hK := hA
  rw [Tryd.params6] at hA hval
  obtain ⟨v0, vs0, d0, ds0, p0, q0, hargs, rfl, rfl, h0, r0⟩ := trodAll_cons hA
  obtain ⟨rfl, rfl, rfl⟩ := trodAll_nil r0
  obtain rfl : args = #[v0] := by cases args; simp_all
  obtain ⟨rfl, rfl⟩ := trodVars_none hV
  obtain ⟨a0, len0, cap0, rfl⟩ := okWide_slice Tryd.underlying22 (hval 0 22 v0 rfl rfl)
  obtain ⟨l0, rd0, _, _⟩ := open_deeds12 h0
  have ht := table hL
  have hz : 0 < W.heap.size := World.block_lt_of_cell? W _ (ht 0 (by omega))
  refine (walk a0 len0 cap0 l0 W rd0 ht hz).mono fun e W' ⟨he, bel⟩ => ?_
  subst he
  exact ⟨_, rfl, _, _, _, [], _, [], hW', trodAll_mk1 (shut_bool Tryd.underlying4 _), trodAll_below laidOut bel _ _ _ _ (by kernel_rfl) hK, rfl, bel.frame _, fun h => by cases h⟩

theorem laid_met (os : Os) : laidMet Tryd.prog Rows.wheelNextRow.laid ((layTab (World.holding Tryd.prog os ⟨#[], #[], []⟩)).forCall (fun _ _ => 0) ⟨#[], #[.slice none 0 0], []⟩).memory :=
  laidMet_of_run' 8 (by kernel_rfl) (by kernel_rfl)
theorem reads (os : Os) {H : Type} (enc : TypeId × Value → H) : ∃ places, DataW.whole enc Tryd.prog ((layTab (World.holding Tryd.prog os ⟨#[], #[], []⟩)).forCall (fun _ _ => 0) ⟨#[], #[.slice none 0 0], []⟩).memory Tryd.f6.params.toList Rows.wheelNextSpec.vars false (#[.slice none 0 0] : Array Value).toList 8 = some ([.nil], [], places) :=
  ⟨[], by kernel_rfl⟩

set_option maxRecDepth 100000 in
theorem lifted (os : Os) (started : os.Started) (H : Type) (enc : TypeId × Value → H) (F : Stop.Interp) :
    ReturnsInHanded {} Tryd.checked os 6 .any ((OpenSpec.ofChange Rows.wheelNextSpec).preRow enc Tryd.prog Tryd.f6 Rows.wheelNextRow.domain false Rows.wheelNextRow.laid) (((OpenSpec.ofChange Rows.wheelNextSpec).at F).post enc Tryd.prog Tryd.f6 false true false false) := by
  obtain ⟨places, hx⟩ := reads os enc
  refine returnsInHanded_of_row (C := Tryd.checked) (s := OpenSpec.ofChange Rows.wheelNextSpec) own started (by kernel_rfl) Tryd.func6
    (witness_row_at (enc := enc) (C := Tryd.checked) false (layTab (World.holding Tryd.prog os ⟨#[], #[], []⟩)) #[.slice none 0 0] rfl (by kernel_rfl) (by kernel_rfl) (by kernel_rfl)
      (OpenSpec.preRow_of_cond 8 hx (by kernel_rfl) (fun k hk => by cases hk) (by kernel_rfl) (laid_met os))) ?_
  intro W base args ds gs before hval hW _ _ _ hL _ _
  exact contract H enc W base args ds gs before hval hW hL

theorem said : Rows.WheelNextSaid :=
  OpenClaim.holds_of_cond 6 Tryd.f6 rfl rfl rfl rfl rfl rfl rfl ⟨rfl, rfl, rfl, rfl, rfl⟩ rfl rfl rfl rfl rfl (by kernel_rfl) Tryd.func6 (by kernel_rfl)
    (of_decide_eq_true (by kernel_rfl)) (by unfold Func.isWrapper; first | (rw [if_pos (by decide +kernel)]; kernel_rfl) | (rw [if_neg (by decide +kernel)]; exact ⟨rfl, rfl⟩))
    (fun os started H enc _ F => by rw [OpenClaim.pre_eq_preRow]; exact lifted os started H enc F)

theorem plain (f : FuncId) (fn : Func) (hf : Tryd.pinned.checked.prog.funcNamed "grapevine/grapevinelaw12.WheelNext" = some f) (hfn : Tryd.pinned.checked.prog.funcs[f]? = some fn) :
    false = Tryd.pinned.checked.prog.looks [] ∧ ∀ (j : Nat) t, fn.params[j]? = some t → Tryd.pinned.checked.prog.wantsStandIn t = false := by
  obtain rfl : f = 6 := Option.some.inj ((show Tryd.prog.funcNamed "grapevine/grapevinelaw12.WheelNext" = some 6 by kernel_rfl).symm.trans hf) |>.symm
  obtain rfl : fn = Tryd.f6 := (Option.some.inj (Tryd.func6.symm.trans hfn)).symm
  refine ⟨by kernel_rfl, fun j t ht => ?_⟩
  rw [Tryd.params6] at ht
  have hall : ∀ t ∈ (#[22] : Array TypeId), Tryd.prog.wantsStandIn t = false := by
    intro t ht
    simp at ht
    subst ht
    exact (show Tryd.prog.wantsStandIn 22 = false by kernel_rfl)
  exact hall t (Array.mem_of_getElem? ht)

theorem card : Rows.WheelNextCardSaid :=
  Claim7.holds_tied_plain_at .later [] _ _ _ _ said (fun _ h => by cases h) (by kernel_rfl) (fun _ h => by cases h) wheelNext_row_tie rfl ⟨rfl, rfl⟩ (by kernel_rfl) rfl plain (by kernel_rfl)
end wheelNext

theorem wheelNext_holds : Rows.WheelNextCardSaid := wheelNext.card
end Go.Proofs.YteiadaonihgbfaaDoor

