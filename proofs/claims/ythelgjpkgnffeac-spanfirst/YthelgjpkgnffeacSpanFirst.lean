/- Proved: for every map and tick grapevinelaw08.SpanFirst answers true and leaves its arguments as they were. No condition. -/
import Derived.Test.YthelgjpkgnffeacSpGap
import Derived.Test.YthelgjpkgnffeacSpOk
namespace Go.Proofs.Ythelgjpkgnffeac
open Go.ChangeShapes Go.WideShapes Go.ChangeAt Go.RowKit
namespace spanFirst

theorem getT (l0 : List Sp) : ∀ (gs : List Sp) (k : Nat) (q : Sp), GapsT l0 gs → gs[k]? = some q → (atS l0 q.fr = 0 ∧ atS l0 q.to = 0 ∧ 1 ≤ q.fr ∧ q.fr ≤ 1099511627776) ∧ atS l0 (q.fr - 1) ≠ 0
  | [], k, q, _, h => by simp at h
  | g :: r, 0, q, ⟨h1, h2, _⟩, h => by
    simp only [List.getElem?_cons_zero, Option.some.injEq] at h
    subst h
    exact ⟨h1, h2⟩
  | g :: r, k + 1, q, ⟨_, _, h3⟩, h => getT l0 r k q h3 (by simpa using h)
theorem getF (l0 : List Sp) (gs : List Sp) (k : Nat) (q : Sp) (hg : GapsF l0 gs) (h : gs[k]? = some q) : (atS l0 q.fr = 0 ∧ atS l0 q.to = 0 ∧ 1 ≤ q.fr ∧ q.fr ≤ 1099511627776) ∧ (0 < k → atS l0 (q.fr - 1) ≠ 0) := by
  cases gs with
  | nil => simp at h
  | cons g r =>
    obtain ⟨h1, h3⟩ := hg
    cases k with
    | zero =>
      simp only [List.getElem?_cons_zero, Option.some.injEq] at h
      subst h
      exact ⟨h1, fun hh => absurd hh (by omega)⟩
    | succ k =>
      have := getT l0 r k q h3 (by simpa using h)
      exact ⟨this.1, fun _ => this.2⟩

set_option maxRecDepth 100000 in
set_option maxHeartbeats 2000000 in
theorem walk (a : Option Addr) (n c : Nat) (l : List Sp) (f : Int) (w : World) (ha : SpsRd w a n l) (hc : n ≤ c) (hcm : c ≤ maxLen) :
    Calls Try.prog 6 #[.slice a n c, .int .i64 f] w fun e w' => e = .returned (.bool true) ∧ Below w.heap.size w w' := by
  have HA : Hid (SpsRd w a n l) := ha
  have HC : Hid (n ≤ c ∧ c ≤ maxLen) := ⟨hc, hcm⟩
  clear ha hc hcm
  go_enter Try.func6, Try.ntmps6
  go_wp2_with fail
  refine (span_Horizon a n c l f w HA.out HC.out.1 HC.out.2).mono ?_
  rintro e w1 ⟨rfl, hb1⟩
  have HB1 : Hid (Below w.heap.size w w1) := hb1
  clear hb1
  go_wp2_with fail
  refine (span_Gaps a n c l f 1099511627776 w1 (HA.out.below HB1.out) HC.out.1 HC.out.2).mono ?_
  rintro e w2 ⟨hk, hb2⟩
  have HB2 : Hid (Below w.heap.size w w2) := HB1.out.trans (hb2.mono HB1.out.size)
  clear hb2
  rcases hk.out with ⟨hok, rfl⟩ | ⟨hok, v2, rfl, hv2⟩
  · have hz := hor_bad (l := l) (f := f) hok
    rw [hz.1, hz.2]
    clear hk hok hz
    go_wp2_with fail
    refine (law_live _).mono ?_
    rintro e w3 ⟨rfl, hb3⟩
    have HB3 : Hid (Below w.heap.size w w3) := HB2.out.trans (hb3.mono HB2.out.size)
    clear hb3
    go_wp2
    go_ret
    exact ⟨rfl, HB3.out⟩
  · have hz := hor_ok (l := l) (f := f) hok
    rw [Bool.and_eq_true] at hok
    have hrs : RightS Sp.zr l := (rightB_iff _ _).1 hok.1
    have hmb := (mayB_iff _ _).1 hok.2
    have hfst := first_B f hmb.2.1 l Sp.zr hrs (by simp only [Sp.zr]; omega)
    have hgf := gaps_F l f hmb.1 hmb.2.1 l Sp.zr hrs (by decide) (fun _ _ => rfl)
    simp only [show Sp.zr.to + 1 = (1 : Int) from rfl] at hfst hgf
    rw [hz.1, hz.2, hfst]
    generalize gapsS 1 l f 1099511627776 = gs at *
    obtain ⟨ag, cg, rfl, _⟩ := hv2.form
    have HG : Hid (SpsRd w2 ag gs.length gs) := hv2.rd
    have hgm := hv2.big
    obtain ⟨m, hm⟩ : ∃ m, m = gs.length := ⟨_, rfl⟩
    rw [← hm] at HG hgm ⊢
    have HGF : Hid (GapsF l gs) := hgf
    have hm63 : m ≤ 2 ^ 63 - 1 := Nat.le_trans hgm.1 hgm.2
    have HM : Hid (m = gs.length) := hm
    obtain ⟨x, HX⟩ : ∃ x, Hid (x = firstS gs - 1) := ⟨_, rfl⟩
    rw [← HX.out]
    clear hk hok hz hrs hmb hfst hgf hv2 hgm hm
    go_wp2
    go_loopw [9] (fun t9 wr => ∃ (k : Nat), k ≤ m ∧ t9 = .int .i64 (k : Int) ∧ Hid (Below w2.heap.size w2 wr)) (fun t9 _ => m - (intOf t9).toNat)
    case atStart => exact ⟨0, by omega, rfl, Below.refl _ _⟩
    case round =>
      obtain ⟨k, hk, rfl, HB⟩ := hrel
      have HBW : Hid (Below w.heap.size w wr) := HB2.out.trans (HB.out.mono HB2.out.size)
      by_cases hlt : k < m
      · have hlt' : (k : Int) < (m : Int) := by omega
        have h0k : (0 : Int) ≤ (k : Int) := by omega
        obtain ⟨g, o, rfl, hg, q, hq, c0, c1, c2⟩ := (HG.out.below HB.out).at_ k hlt
        obtain ⟨⟨q1, q2, q3, q4⟩, q5⟩ := getF l gs k q HGF.out hq
        have HQ5 : Hid (0 < k → atS l (q.fr - 1) ≠ 0) := q5
        have HQ2 : Hid (atS l q.to = 0) := q2
        have HQ1 : Hid (atS l q.fr = 0) := q1
        clear hq q1 q2 q5
        obtain ⟨qf, qt, qi⟩ := q
        simp only at c0 c1 c2 HQ5 HQ1 HQ2 q3 q4
        go_wp2_with fail
        refine (span_At a n c l qf wr (HA.out.below HBW.out) (Nat.le_trans HC.out.1 HC.out.2)).mono ?_
        rw [HQ1.out]
        rintro e w4 ⟨rfl, hb4⟩
        have HB4 : Hid (Below w2.heap.size w2 w4) := HB.out.trans (hb4.mono HB.out.size)
        have HBW4 : Hid (Below w.heap.size w w4) := HBW.out.trans (hb4.mono HBW.out.size)
        have d0 : w4.cell? ⟨g, o + k * 3, none⟩ = some (.int .i64 qf) := (hb4.cell (p := ⟨g, o + k * 3, none⟩) hg).trans c0
        have d1 : w4.cell? ⟨g, o + k * 3 + 1, none⟩ = some (.int .i64 qt) := (hb4.cell (p := ⟨g, o + k * 3 + 1, none⟩) hg).trans c1
        have hg4 : g < w4.heap.size := Nat.lt_of_lt_of_le hg hb4.size
        clear hb4 c0 c1 c2 hg
        go_wp2_with fail
        refine (span_At a n c l qt w4 (HA.out.below HBW4.out) (Nat.le_trans HC.out.1 HC.out.2)).mono ?_
        rw [HQ2.out]
        rintro e w5 ⟨rfl, hb5⟩
        have HB5 : Hid (Below w2.heap.size w2 w5) := HB4.out.trans (hb5.mono HB4.out.size)
        have HBW5 : Hid (Below w.heap.size w w5) := HBW4.out.trans (hb5.mono HBW4.out.size)
        have e0 : w5.cell? ⟨g, o + k * 3, none⟩ = some (.int .i64 qf) := (hb5.cell (p := ⟨g, o + k * 3, none⟩) hg4).trans d0
        clear hb5 d0 d1 hg4
        by_cases hk0 : k = 0
        · have hk0' : ¬ ((0 : Int) < (k : Int)) := by omega
          go_wp2
          go_roundw
          case rel => exact ⟨k + 1, by omega, by go_num, HB5⟩
          case measure => simp [intOf]; omega
        · have hk0' : (0 : Int) < (k : Int) := by omega
          have HNZ : Hid (atS l (qf - 1) ≠ 0) := HQ5.out (by omega)
          go_wp2_with fail
          refine (span_At a n c l (qf - 1) w5 (HA.out.below HBW5.out) (Nat.le_trans HC.out.1 HC.out.2)).mono ?_
          rintro e w6 ⟨rfl, hb6⟩
          have HB6 : Hid (Below w2.heap.size w2 w6) := HB5.out.trans (hb6.mono HB5.out.size)
          clear hb6 e0
          have hnz : (atS l (qf - 1) == 0) = false := by have := HNZ.out; simpa using this
          generalize atS l (qf - 1) = y at *
          go_wp2
          go_roundw
          case rel => exact ⟨k + 1, by omega, by go_num, HB6⟩
          case measure => simp [intOf]; omega
      · have hnl : ¬ (k : Int) < (m : Int) := by omega
        by_cases hm0 : m = 0
        · have HX0 : Hid (x = 1099511627776) := by
            have h0 : gs = [] := List.length_eq_zero_iff.1 (by have := HM.out; omega)
            show _ = _
            rw [HX.out, h0]
            rfl
          subst hm0
          rw [HX0.out]
          go_wp2_with fail
          refine (law_live _).mono ?_
          rintro e w7 ⟨rfl, hb7⟩
          have HB7 : Hid (Below w.heap.size w w7) := HBW.out.trans (hb7.mono HBW.out.size)
          clear hb7
          go_wp2
          go_ret
          exact ⟨rfl, HB7.out⟩
        · have hm0' : ¬ ((m : Int) = 0) := by omega
          have hmp : (0 : Int) < (m : Int) := by omega
          obtain ⟨g, o, rfl, hg, q, hq, c0, c1, c2⟩ := (HG.out.below HB.out).at_ 0 (by omega)
          have HX0 : Hid (x = q.fr - 1) := by
            show _ = _
            rw [HX.out]
            cases hgs : gs with
            | nil => rw [hgs] at hq; simp at hq
            | cons g0 r0 =>
              rw [hgs] at hq
              simp only [List.getElem?_cons_zero, Option.some.injEq] at hq
              rw [← hq]
              rfl
          have hq3 := (getF l gs 0 q HGF.out hq).1
          obtain ⟨_, _, hq4, hq5⟩ := hq3
          clear hq
          obtain ⟨qf, qt, qi⟩ := q
          simp only [Nat.zero_mul, Nat.add_zero] at c0 c1 c2 HX0 hq4 hq5
          go_wp2_with fail
          refine (law_live _).mono ?_
          rintro e w7 ⟨rfl, hb7⟩
          have HB7 : Hid (Below w.heap.size w w7) := HBW.out.trans (hb7.mono HBW.out.size)
          have d0 : w7.cell? ⟨g, o, none⟩ = some (.int .i64 qf) := (hb7.cell (p := ⟨g, o, none⟩) hg).trans c0
          clear hb7 c0 c1 c2
          rw [HX0.out]
          go_wp2
          go_ret
          exact ⟨rfl, HB7.out⟩

theorem contract (H : Type) (enc : TypeId × Value → H) (W : World) (base : Nat) (args : Array Value) (ds gs : List (DataW H)) (before : List MemPlace)
    (hval : ∀ (j : Nat) t v, Try.f6.params[j]? = some t → args[j]? = some v → Value.okWide Try.prog W .any base t v)
    (hW : DataW.Whole enc Try.prog Try.f6.params.toList Rows.spanFirstSpec.vars false W args.toList ds gs before) :
    Calls Try.prog 6 args W fun e W' => ∃ v, e = .returned v ∧ Rows.spanFirstSpec.post enc Try.prog Try.f6 false true false false W args v W' := by
  have hW' := hW
  obtain ⟨p, q, hA0, hV, rfl, hfz, hnd⟩ := hW
  have hA : DataW.TrodAll enc Try.prog W 0 (fun _ => true) true Try.f6.params.toList args.toList ds p := hA0
  have hK := hA
  rw [Try.params6] at hA hval
  obtain ⟨v0, vs0, d0, ds0, p0, q0, hargs, rfl, rfl, h0, r0⟩ := trodAll_cons hA
  obtain ⟨v1, vs1, d1, ds1, p1, q1, rfl, rfl, rfl, h1, r1⟩ := trodAll_cons r0
  obtain ⟨rfl, rfl, rfl⟩ := trodAll_nil r1
  obtain rfl : args = #[v0, v1] := by cases args; simp_all
  obtain ⟨rfl, rfl⟩ := trodVars_none hV
  obtain ⟨a0, len0, cap0, rfl⟩ := okWide_slice Try.underlying22 (hval 0 22 v0 rfl rfl)
  obtain ⟨l0, rd0, lc0, cm0, ft0⟩ := open_spans h0
  obtain ⟨x1, rfl, rfl, rfl, w1⟩ := open_int Try.underlying3 (hval 1 3 v1 rfl rfl) h1
  have b1 : (-9223372036854775808 : Int) ≤ x1 ∧ x1 ≤ 9223372036854775807 := by simpa [Lit.wf, IntKind.min, IntKind.max, IntKind.signed, IntKind.bits] using w1
  refine (walk a0 len0 cap0 l0 x1 W rd0 lc0 cm0).mono fun e W' ⟨he, bel⟩ => ?_
  subst he
  exact ⟨_, rfl, _, _, _, [], _, [], hW', trodAll_mk1 (shut_bool Try.underlying4 _), trodAll_below laidOut bel _ _ _ _ (by kernel_rfl) hK, rfl, bel.frame _, fun h => by cases h⟩

set_option maxRecDepth 100000 in
theorem lifted (os : Os) (started : os.Started) (H : Type) (enc : TypeId × Value → H) :
    ReturnsInHanded {} Try.checked os 6 .any (Rows.spanFirstSpec.pre6 enc Try.prog Try.f6 Rows.spanFirstRow.domain false) (Rows.spanFirstSpec.post enc Try.prog Try.f6 false true false false) := by
  refine returnsInHanded_of_change (C := Try.checked) own started (by kernel_rfl) Try.func6
    (ChangeSpec.witness6 (enc := enc) (C := Try.checked) false ⟨#[], #[.slice none 0 0, .int .i64 0], []⟩ 8 (by kernel_rfl) (by kernel_rfl) (by kernel_rfl) (by kernel_rfl)) ?_
  intro W base args ds gs before hval hW _ _
  exact contract H enc W base args ds gs before hval hW

theorem said : Rows.SpanFirstSaid :=
  OpenClaim.holds_of_wide 6 Try.f6 rfl rfl rfl rfl rfl rfl rfl ⟨rfl, rfl, rfl, rfl, rfl⟩ rfl rfl rfl rfl rfl (by kernel_rfl) Try.func6 (by kernel_rfl)
    (of_decide_eq_true (by kernel_rfl)) (by unfold Func.isWrapper; first | (rw [if_pos (by decide +kernel)]; kernel_rfl) | (rw [if_neg (by decide +kernel)]; exact ⟨rfl, rfl⟩))
    (fun os started H enc _ => lifted os started H enc)
end spanFirst

theorem spanFirst_holds : Rows.SpanFirstSaid := spanFirst.said
end Go.Proofs.Ythelgjpkgnffeac

