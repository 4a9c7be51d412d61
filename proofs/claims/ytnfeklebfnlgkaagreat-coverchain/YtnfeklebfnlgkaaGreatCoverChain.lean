/- Proved: for every three boxes grapevinelaw06.CoverChain answers true and leaves its arguments as they were. No condition. -/
import Derived.Test.YtnfeklebfnlgkaaGreatCvG
import Derived.Test.YtnfeklebfnlgkaaGreatCvA
namespace Go.Proofs.YtnfeklebfnlgkaaGreat
open Go.ChangeShapes Go.WideShapes Go.ChangeAt Go.RowKit
namespace coverChain

theorem law {w : World} {a c : Option Addr} {n m k : Nat} {la lb lc : List Sq} (ha : SqsRd w a n la) (hc : SqsRd w c k lc) (hta : ∀ s ∈ la, 0 ≤ s.tr ∧ s.tr ≤ 255) (htc : ∀ s ∈ lc, 0 ≤ s.tr ∧ s.tr ≤ 255) :
    ((insE n la m lb).2 != 0 || (insE m lb k lc).2 != 0 || ((insE n la k lc).2 == 0 && (!(insE n la m lb).1 || !(insE m lb k lc).1 || (insE n la k lc).1))) = true := by
  unfold insE
  by_cases h1 : chkB n la = 0
  · by_cases h2 : chkB m lb = 0
    · by_cases h3 : chkB k lc = 0
      · simp only [h1, h2, h3, ne_eq, not_true_eq_false, if_false]
        have h := inB_trans (lb := lb) (chkB_ok ha hta h1).2 (chkB_ok hc htc h3).2
        cases h4 : inB la lb with
        | false => simp
        | true =>
          cases h5 : inB lb lc with
          | false => simp
          | true => simp [h h4 h5]
      · simp [h1, h2, h3]
    · simp [h1, h2]
  · simp [h1]
set_option maxRecDepth 100000 in
set_option maxHeartbeats 4000000 in
theorem walk (a : Option Addr) (n ca : Nat) (la : List Sq) (b : Option Addr) (m cb : Nat) (lb : List Sq) (c : Option Addr) (k cc : Nat) (lc : List Sq) (w : World) (ha : SqsRd w a n la) (hia : ∀ s ∈ la, SqIn s) (hb : SqsRd w b m lb) (hib : ∀ s ∈ lb, SqIn s) (hc : SqsRd w c k lc) (hic : ∀ s ∈ lc, SqIn s) : Calls Tryz.prog 5 #[.slice a n ca, .slice b m cb, .slice c k cc] w fun e w' => e = .returned (.bool true) ∧ Below w.heap.size w w' := by
  have HTA : Hid (∀ s ∈ la, 0 ≤ s.tr ∧ s.tr ≤ 255) := fun s hs => (hia s hs).tr
  have HTB : Hid (∀ s ∈ lb, 0 ≤ s.tr ∧ s.tr ≤ 255) := fun s hs => (hib s hs).tr
  have HTC : Hid (∀ s ∈ lc, 0 ≤ s.tr ∧ s.tr ≤ 255) := fun s hs => (hic s hs).tr
  have HA : Hid (SqsRd w a n la) := ha
  have HBB : Hid (SqsRd w b m lb) := hb
  have HCC : Hid (SqsRd w c k lc) := hc
  have HL := law (lb := lb) (m := m) ha hc HTA.out HTC.out
  have H1 : Hid (∀ w', Below w.heap.size w w' → Calls Tryz.prog 9 #[.slice a n ca, .slice b m cb] w' fun e w'' => e = .returned (.tuple #[.bool (insE n la m lb).1, .int .i64 (insE n la m lb).2]) ∧ Below w'.heap.size w' w'') := fun w' h => cv_Inside a n ca la b m cb lb w' (HA.out.below h) (HBB.out.below h) HTA.out HTB.out
  have H2 : Hid (∀ w', Below w.heap.size w w' → Calls Tryz.prog 9 #[.slice b m cb, .slice c k cc] w' fun e w'' => e = .returned (.tuple #[.bool (insE m lb k lc).1, .int .i64 (insE m lb k lc).2]) ∧ Below w'.heap.size w' w'') := fun w' h => cv_Inside b m cb lb c k cc lc w' (HBB.out.below h) (HCC.out.below h) HTB.out HTC.out
  have H3 : Hid (∀ w', Below w.heap.size w w' → Calls Tryz.prog 9 #[.slice a n ca, .slice c k cc] w' fun e w'' => e = .returned (.tuple #[.bool (insE n la k lc).1, .int .i64 (insE n la k lc).2]) ∧ Below w'.heap.size w' w'') := fun w' h => cv_Inside a n ca la c k cc lc w' (HA.out.below h) (HCC.out.below h) HTA.out HTC.out
  clear HTA HTB HTC HA HBB HCC ha hia hb hib hc hic
  generalize insE n la m lb = R1 at *
  generalize insE m lb k lc = R2 at *
  generalize insE n la k lc = R3 at *
  obtain ⟨x1, e1⟩ := R1
  obtain ⟨x2, e2⟩ := R2
  obtain ⟨x3, e3⟩ := R3
  simp only at HL H1 H2 H3
  go_enter Tryz.func5, Tryz.ntmps5
  go_wp2_with fail
  refine (H1.out w (Below.refl _ _)).mono ?_
  rintro e w1 ⟨rfl, hb1⟩
  have HX1 : Hid (Below w.heap.size w w1) := hb1
  clear hb1
  go_wp2_with fail
  refine (H2.out w1 HX1.out).mono ?_
  rintro e w2 ⟨rfl, hb2⟩
  have HX2 : Hid (Below w.heap.size w w2) := HX1.out.trans (hb2.mono HX1.out.size)
  clear hb2
  go_wp2_with fail
  refine (H3.out w2 HX2.out).mono ?_
  rintro e w3 ⟨rfl, hb3⟩
  have HX3 : Hid (Below w.heap.size w w3) := HX2.out.trans (hb3.mono HX2.out.size)
  clear hb3
  go_wp2_with fail
  refine (law_live06 _).mono ?_
  rintro e w4 ⟨rfl, hb4⟩
  have HX4 : Hid (Below w.heap.size w w4) := HX3.out.trans (hb4.mono HX3.out.size)
  clear hb4 H1 H2 H3 HX1 HX2 HX3
  by_cases h1 : e1 = 0
  · by_cases h2 : e2 = 0
    · by_cases h3 : e3 = 0
      · subst h1 h2 h3
        cases x1 with
        | false =>
          clear HL
          go_wp2
          go_returns
          exact ⟨rfl, HX4.out⟩
        | true =>
          cases x2 with
          | false =>
            clear HL
            go_wp2
            go_returns
            exact ⟨rfl, HX4.out⟩
          | true =>
            obtain rfl : x3 = true := by simpa using HL
            clear HL
            go_wp2
            go_returns
            exact ⟨rfl, HX4.out⟩
      · exfalso
        subst h1 h2
        have : (e3 == 0) = false := by rw [beq_eq_false_iff_ne]; exact h3
        rw [this] at HL
        simp at HL
    · subst h1
      have g1 : (e2 != 0) = true := by rw [bne_iff_ne]; exact h2
      have g2 : (e2 == 0) = false := by rw [beq_eq_false_iff_ne]; exact h2
      clear HL
      go_wp2
      go_returns
      exact ⟨rfl, HX4.out⟩
  · have g1 : (e1 != 0) = true := by rw [bne_iff_ne]; exact h1
    have g2 : (e1 == 0) = false := by rw [beq_eq_false_iff_ne]; exact h1
    clear HL
    go_wp2
    go_returns
    exact ⟨rfl, HX4.out⟩

set_option maxRecDepth 100000 in
theorem contract (H : Type) (enc : TypeId × Value → H) (W : World) (base : Nat) (args : Array Value) (ds gs : List (DataW H)) (before : List MemPlace)
    (hval : ∀ (j : Nat) t v, Tryz.f5.params[j]? = some t → args[j]? = some v → Value.okWide Tryz.prog W .any base t v)
    (hW : DataW.Whole enc Tryz.prog Tryz.f5.params.toList Rows.coverChainSpec.vars false W args.toList ds gs before) :
    Calls Tryz.prog 5 args W fun e W' => ∃ v, e = .returned v ∧ Rows.coverChainSpec.post enc Tryz.prog Tryz.f5 false true false false W args v W' := by
  have hW' := hW
  obtain ⟨p, q, hA0, hV, rfl, hfz, hnd⟩ := hW
  have hA : DataW.TrodAll enc Tryz.prog W 0 (fun _ => true) true Tryz.f5.params.toList args.toList ds p := hA0
  have hK := hA
  rw [Tryz.params5] at hA hval
  obtain ⟨v0, vs0, d0, ds0, p0, q0, hargs, rfl, rfl, h0, r0⟩ := trodAll_cons hA
  obtain ⟨v1, vs1, d1, ds1, p1, q1, rfl, rfl, rfl, h1, r1⟩ := trodAll_cons r0
  obtain ⟨v2, vs2, d2, ds2, p2, q2, rfl, rfl, rfl, h2, r2⟩ := trodAll_cons r1
  obtain ⟨rfl, rfl, rfl⟩ := trodAll_nil r2
  obtain rfl : args = #[v0, v1, v2] := by cases args; simp_all
  obtain ⟨rfl, rfl⟩ := trodVars_none hV
  obtain ⟨a0, len0, cap0, rfl⟩ := okWide_slice Tryz.underlying22 (hval 0 22 v0 rfl rfl)
  obtain ⟨l0, sr0, si0⟩ := open_sides h0
  obtain ⟨a1, len1, cap1, rfl⟩ := okWide_slice Tryz.underlying22 (hval 1 22 v1 rfl rfl)
  obtain ⟨l1, sr1, si1⟩ := open_sides h1
  obtain ⟨a2, len2, cap2, rfl⟩ := okWide_slice Tryz.underlying22 (hval 2 22 v2 rfl rfl)
  obtain ⟨l2, sr2, si2⟩ := open_sides h2
  refine (walk a0 len0 cap0 l0 a1 len1 cap1 l1 a2 len2 cap2 l2 W sr0 si0 sr1 si1 sr2 si2).mono fun e W' ⟨he, bel⟩ => ?_
  subst he
  exact ⟨_, rfl, _, _, _, [], _, [], hW', trodAll_mk1 (shut_bool Tryz.underlying4 _), trodAll_below laidOut bel _ _ _ _ (by kernel_rfl) hK, rfl, bel.frame _, fun h => by cases h⟩

set_option maxRecDepth 100000 in
theorem lifted (os : Os) (started : os.Started) (H : Type) (enc : TypeId × Value → H) :
    ReturnsInHanded {} Tryz.checked os 5 .any (Rows.coverChainSpec.pre6 enc Tryz.prog Tryz.f5 Rows.coverChainRow.domain false) (Rows.coverChainSpec.post enc Tryz.prog Tryz.f5 false true false false) := by
  refine returnsInHanded_of_change (C := Tryz.checked) own started (by kernel_rfl) Tryz.func5
    (ChangeSpec.witness6 (enc := enc) (C := Tryz.checked) false ⟨#[], #[.slice none 0 0, .slice none 0 0, .slice none 0 0], []⟩ 8 (by kernel_rfl) (by kernel_rfl) (by kernel_rfl) (by kernel_rfl)) ?_
  intro W base args ds gs before hval hW _ _
  exact contract H enc W base args ds gs before hval hW

theorem said : Rows.CoverChainSaid :=
  OpenClaim.holds_of_wide 5 Tryz.f5 rfl rfl rfl rfl rfl rfl rfl ⟨rfl, rfl, rfl, rfl, rfl⟩ rfl rfl rfl rfl rfl (by kernel_rfl) Tryz.func5 (by kernel_rfl)
    (of_decide_eq_true (by kernel_rfl)) (by unfold Func.isWrapper; first | (rw [if_pos (by decide +kernel)]; kernel_rfl) | (rw [if_neg (by decide +kernel)]; exact ⟨rfl, rfl⟩))
    (fun os started H enc _ => lifted os started H enc)
end coverChain

theorem coverChain_holds : Rows.CoverChainSaid := coverChain.said
end Go.Proofs.YtnfeklebfnlgkaaGreat

