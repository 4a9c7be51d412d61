/- Proved: for every bytes grapevinelaw13.ParcelTakes answers true and leaves its argument as it was. No condition. -/
import Derived.Test.YtmpljoljpgbamaaRt4
import Derived.Test.YtmpljoljpgbamaaPcSame
import Derived.Test.YtmpljoljpgbamaaPcLive
namespace Go.Proofs.Ytmpljoljpgbamaa
open Go.ChangeShapes Go.WideShapes Go.ChangeAt Go.RowKit
namespace parcelTakes

theorem takeP_fit (bs : List Nat) : ∀ q ∈ (takeP bs).1.items, ItFit q := by
  intro q hq
  unfold takeP at hq
  split at hq
  · cases hq
  · split at hq
    · split at hq
      · split at hq
        · exact parF_fit _ _ _ q hq
        · cases hq
      · cases hq
    · cases hq
theorem told_rd {w' : World} {B : Nat} {p : Pc} {sa : Option Addr} {sn sc : Nat} {ia : Option Addr} {im ic : Nat} {L : List (It × Bd)} (hs : Sps w' B (.slice sa sn sc) p.spans) (hi : Its w' B (.slice ia im ic) L) (hm : L.map Prod.fst = p.items) (hf : ∀ q ∈ p.items, ItFit q) : PcRd w' p sa sn sc ia im ic := by
  have hsm : sn ≤ sc ∧ sc ≤ maxLen := by
    rcases hs.row.2 with ⟨g1, g2⟩ | ⟨g', c', cur, g1, _, _, g4, g5, _⟩
    · simp only [Value.slice.injEq] at g1
      exact ⟨by omega, by omega⟩
    · simp only [Value.slice.injEq] at g1
      obtain ⟨_, g6, rfl⟩ := g1
      exact ⟨by omega, g5⟩
  obtain ⟨ia', ic', e2, e3, e4⟩ := hi.form
  simp only [Value.slice.injEq] at e2
  have hir := hi.rd (fun q hq => (hf q (by rw [← hm]; exact hq)).wide)
  rw [hm] at hir
  exact ⟨hs.rd, hir, hsm.1, hsm.2, by omega, by omega⟩

set_option maxRecDepth 100000 in
set_option maxHeartbeats 2000000 in
theorem walk (a : Option Addr) (len cap : Nat) (bs : List Nat) (w : World) (hr : Rd w a len bs) (hlc : len ≤ cap) (hl : cap ≤ 140737488351232) :
    Calls Try.prog 6 #[.slice a len cap] w fun e w' => e = .returned (.bool true) ∧ Below w.heap.size w w' := by
  have HR : Hid (Rd w a len bs) := hr
  have HLC : Hid (len ≤ cap ∧ len ≤ 140737488351232) := ⟨hlc, by omega⟩
  obtain ⟨p, F, hT⟩ : ∃ p F, takeP bs = (p, F) := ⟨_, _, rfl⟩
  have HFT : Hid (∀ q ∈ p.items, ItFit q) := by have h := takeP_fit bs; rw [hT] at h; exact h
  have HC1 : Hid (∀ w', Below w.heap.size w w' → Calls Try.prog 17 #[.slice a len cap] w' fun e w'' => Hid (TakeP13 w' w'' (p, F) e) ∧ Below w'.heap.size w' w'') := fun w' hb => by have h := pc_Take a len cap bs w' (HR.out.below hb) HLC.out.1 HLC.out.2; rw [hT] at h; exact h
  have HC2 : Hid (∀ w', Below w.heap.size w w' → Calls Try.prog 18 #[.slice a len cap] w' fun e w'' => Hid (TakeP13 w' w'' (p, F) e) ∧ Below w'.heap.size w' w'') := fun w' hb => by have h := ref_Take13 a len cap bs w' (HR.out.below hb) HLC.out.1 HLC.out.2; rw [hT] at h; exact h
  clear hr hT hlc hl
  go_enter Try.func6, Try.ntmps6
  go_wp2_with fail
  refine (HC1.out w (Below.refl _ _)).mono ?_
  rintro e w1 ⟨ht, hb1⟩
  obtain ⟨sa, sn, sc, ia, im, ic, L, he, hs1, hi1, hm1⟩ := ht.out
  simp only at he hs1 hm1
  subst he
  have HB1 : Hid (Below w.heap.size w w1) := hb1
  have HP1 : Hid (PcRd w1 p sa sn sc ia im ic) := told_rd hs1 hi1 hm1 HFT.out
  obtain ⟨p0, HP0⟩ : ∃ p0, Hid (p0 = p) := ⟨_, rfl⟩
  have HVA : Hid (∀ a1 n1 c1 a2 n2 c2, p0.val a1 n1 c1 a2 n2 c2 = p.val a1 n1 c1 a2 n2 c2) := fun a1 n1 c1 a2 n2 c2 => by rw [HP0.out]
  rw [← HP0.out] at HP1 HFT HC2
  clear ht hb1 HC1 hs1 hi1 hm1
  obtain ⟨pk, pp, ps, pn, pf, pt, pl, pi⟩ := p
  unfold Pc.val
  simp only
  have HB2 : Hid (Below w.heap.size w (w1.alloc (.cells #[.int .i64 pk, .int .i64 pp, .int .i64 ps, .int .i64 pn, .int .i64 pf, .int .i64 pt, .slice sa sn sc, .slice ia im ic] 26))) := HB1.out.alloc HB1.out.size _
  have HK2 : Hid (Bk (w1.alloc (.cells #[.int .i64 pk, .int .i64 pp, .int .i64 ps, .int .i64 pn, .int .i64 pf, .int .i64 pt, .slice sa sn sc, .slice ia im ic] 26)) w1.heap.size #[.int .i64 pk, .int .i64 pp, .int .i64 ps, .int .i64 pn, .int .i64 pf, .int .i64 pt, .slice sa sn sc, .slice ia im ic] 26) := Bk.new _ _ _
  have HP2 : Hid (PcRd (w1.alloc (.cells #[.int .i64 pk, .int .i64 pp, .int .i64 ps, .int .i64 pn, .int .i64 pf, .int .i64 pt, .slice sa sn sc, .slice ia im ic] 26)) p0 sa sn sc ia im ic) := HP1.out.below (below_new _ _)
  go_wp2_with fail
  refine (HC2.out _ HB2.out).mono ?_
  rintro e w3 ⟨ht, hb3⟩
  obtain ⟨ta, tn, tc, ja, jm, jc, L3, he, hs3, hi3, hm3⟩ := ht.out
  simp only at he hs3 hm3
  rw [HVA.out] at he
  subst he
  have HB3 : Hid (Below w.heap.size w w3) := HB2.out.trans (hb3.mono HB2.out.size)
  have HQ3 : Hid (PcRd w3 p0 ta tn tc ja jm jc) := told_rd hs3 hi3 hm3 HFT.out
  have HP3 : Hid (PcRd w3 p0 sa sn sc ia im ic) := HP2.out.below hb3
  have HK3 : Hid (Bk w3 w1.heap.size #[.int .i64 pk, .int .i64 pp, .int .i64 ps, .int .i64 pn, .int .i64 pf, .int .i64 pt, .slice sa sn sc, .slice ia im ic] 26) := HK2.out.stay hb3
  clear ht hb3 hs3 hi3 hm3 HC2 HB2 HK2 HP2 HP1
  unfold Pc.val
  simp only
  have HB4 : Hid (Below w.heap.size w (w3.alloc (.cells #[.int .i64 pk, .int .i64 pp, .int .i64 ps, .int .i64 pn, .int .i64 pf, .int .i64 pt, .slice ta tn tc, .slice ja jm jc] 26))) := HB3.out.alloc HB3.out.size _
  have HK4 : Hid (Bk (w3.alloc (.cells #[.int .i64 pk, .int .i64 pp, .int .i64 ps, .int .i64 pn, .int .i64 pf, .int .i64 pt, .slice ta tn tc, .slice ja jm jc] 26)) w1.heap.size #[.int .i64 pk, .int .i64 pp, .int .i64 ps, .int .i64 pn, .int .i64 pf, .int .i64 pt, .slice sa sn sc, .slice ia im ic] 26) := HK3.out.stay (below_new _ _)
  have HL4 : Hid (Bk (w3.alloc (.cells #[.int .i64 pk, .int .i64 pp, .int .i64 ps, .int .i64 pn, .int .i64 pf, .int .i64 pt, .slice ta tn tc, .slice ja jm jc] 26)) w3.heap.size #[.int .i64 pk, .int .i64 pp, .int .i64 ps, .int .i64 pn, .int .i64 pf, .int .i64 pt, .slice ta tn tc, .slice ja jm jc] 26) := Bk.new _ _ _
  have HP4 : Hid (PcRd (w3.alloc (.cells #[.int .i64 pk, .int .i64 pp, .int .i64 ps, .int .i64 pn, .int .i64 pf, .int .i64 pt, .slice ta tn tc, .slice ja jm jc] 26)) p0 sa sn sc ia im ic) := HP3.out.below (below_new _ _)
  have HQ4 : Hid (PcRd (w3.alloc (.cells #[.int .i64 pk, .int .i64 pp, .int .i64 ps, .int .i64 pn, .int .i64 pf, .int .i64 pt, .slice ta tn tc, .slice ja jm jc] 26)) p0 ta tn tc ja jm jc) := HQ3.out.below (below_new _ _)
  go_wp2_with fail
  refine (law_live13 _).mono ?_
  rintro e w5 ⟨rfl, hb5⟩
  have k5 := HK4.out.stay hb5
  have l5 := HL4.out.stay hb5
  have c0 : w5.cell? ⟨w1.heap.size, 0, none⟩ = some (.int .i64 pk) := k5.cell 0 rfl
  have c1 : w5.cell? ⟨w1.heap.size, 1, none⟩ = some (.int .i64 pp) := k5.cell 1 rfl
  have c2 : w5.cell? ⟨w1.heap.size, 2, none⟩ = some (.int .i64 ps) := k5.cell 2 rfl
  have c3 : w5.cell? ⟨w1.heap.size, 3, none⟩ = some (.int .i64 pn) := k5.cell 3 rfl
  have c4 : w5.cell? ⟨w1.heap.size, 4, none⟩ = some (.int .i64 pf) := k5.cell 4 rfl
  have c5 : w5.cell? ⟨w1.heap.size, 5, none⟩ = some (.int .i64 pt) := k5.cell 5 rfl
  have c6 : w5.cell? ⟨w1.heap.size, 6, none⟩ = some (.slice sa sn sc) := k5.cell 6 rfl
  have c7 : w5.cell? ⟨w1.heap.size, 7, none⟩ = some (.slice ia im ic) := k5.cell 7 rfl
  have d0 : w5.cell? ⟨w3.heap.size, 0, none⟩ = some (.int .i64 pk) := l5.cell 0 rfl
  have d1 : w5.cell? ⟨w3.heap.size, 1, none⟩ = some (.int .i64 pp) := l5.cell 1 rfl
  have d2 : w5.cell? ⟨w3.heap.size, 2, none⟩ = some (.int .i64 ps) := l5.cell 2 rfl
  have d3 : w5.cell? ⟨w3.heap.size, 3, none⟩ = some (.int .i64 pn) := l5.cell 3 rfl
  have d4 : w5.cell? ⟨w3.heap.size, 4, none⟩ = some (.int .i64 pf) := l5.cell 4 rfl
  have d5 : w5.cell? ⟨w3.heap.size, 5, none⟩ = some (.int .i64 pt) := l5.cell 5 rfl
  have d6 : w5.cell? ⟨w3.heap.size, 6, none⟩ = some (.slice ta tn tc) := l5.cell 6 rfl
  have d7 : w5.cell? ⟨w3.heap.size, 7, none⟩ = some (.slice ja jm jc) := l5.cell 7 rfl
  have HB5 : Hid (Below w.heap.size w w5) := HB4.out.trans (hb5.mono HB4.out.size)
  have hcs := ref_Same13 p0 sa sn sc ia im ic ta tn tc ja jm jc w5 (HP4.out.below hb5) (HQ4.out.below hb5)
  rw [HVA.out, HVA.out] at hcs
  have HCS : Hid (Calls Try.prog 13 #[Pc.val ⟨pk, pp, ps, pn, pf, pt, pl, pi⟩ sa sn sc ia im ic, Pc.val ⟨pk, pp, ps, pn, pf, pt, pl, pi⟩ ta tn tc ja jm jc] w5 fun e w' => e = .returned (.bool true) ∧ Below w5.heap.size w5 w') := hcs
  clear hb5 k5 l5 hcs HB4 HK4 HL4 HP4 HQ4
  go_wp2_with fail
  refine HCS.out.mono ?_
  rintro e w6 ⟨rfl, hb6⟩
  have HB6 : Hid (Below w.heap.size w w6) := HB5.out.trans (hb6.mono HB5.out.size)
  clear hb6
  go_wp2
  go_ret
  exact ⟨by simp, HB6.out⟩

set_option maxRecDepth 100000 in
theorem contract (H : Type) (enc : TypeId × Value → H) (W : World) (base : Nat) (args : Array Value) (ds gs : List (DataW H)) (before : List MemPlace)
    (hval : ∀ (j : Nat) t v, Try.f6.params[j]? = some t → args[j]? = some v → Value.okWide Try.prog W .any base t v)
    (hW : DataW.Whole enc Try.prog Try.f6.params.toList Rows.parcelTakesSpec.vars false W args.toList ds gs before) (hsz0 : (DataW.weightsEach Try.prog (Try.f6.params.toList ++ Rows.parcelTakesSpec.plain.varTypes Try.prog) (ds ++ gs)).all (· ≤ reachBytes) = true) :
    Calls Try.prog 6 args W fun e W' => ∃ v, e = .returned v ∧ Rows.parcelTakesSpec.post enc Try.prog Try.f6 false true false false W args v W' := by
  have hW' := hW
  obtain ⟨p, q, hA0, hV, rfl, hfz, hnd⟩ := hW
  have hA : DataW.TrodAll enc Try.prog W 0 (fun _ => true) true Try.f6.params.toList args.toList ds p := hA0
  have hK := hA
  have hsz := hsz0
  rw [Try.params6] at hA hval hsz
  obtain ⟨v0, vs0, d0, ds0, p0, q0, hargs, rfl, rfl, h0, r0⟩ := trodAll_cons hA
  obtain ⟨rfl, rfl, rfl⟩ := trodAll_nil r0
  obtain rfl : args = #[v0] := by cases args; simp_all
  obtain ⟨rfl, rfl⟩ := trodVars_none hV
  obtain ⟨a0, len0, cap0, rfl⟩ := okWide_slice Try.underlying34 (hval 0 34 v0 rfl rfl)
  obtain ⟨bs0, rd0, lc0, cm0, bk0, nc0, fm0⟩ := rd_of h0
  have sz0 := reach_of hsz (j := 0) fm0 rfl rfl
  refine (walk a0 len0 cap0 bs0 W rd0 lc0 sz0).mono fun e W' ⟨he, bel⟩ => ?_
  subst he
  exact ⟨_, rfl, _, _, _, [], _, [], hW', trodAll_mk1 (shut_bool Try.underlying4 _), trodAll_below laidOut bel _ _ _ _ (by kernel_rfl) hK, rfl, bel.frame _, fun h => by cases h⟩

set_option maxRecDepth 100000 in
theorem lifted (os : Os) (started : os.Started) (H : Type) (enc : TypeId × Value → H) :
    ReturnsInHanded {} Try.checked os 6 .any (Rows.parcelTakesSpec.pre6 enc Try.prog Try.f6 Rows.parcelTakesRow.domain false) (Rows.parcelTakesSpec.post enc Try.prog Try.f6 false true false false) := by
  refine returnsInHanded_of_change_sized (C := Try.checked) own started (by kernel_rfl) Try.func6
    (ChangeSpec.witness6 (enc := enc) (C := Try.checked) false ⟨#[], #[.slice none 0 0], []⟩ 8 (by kernel_rfl) (by kernel_rfl) (by kernel_rfl) (by kernel_rfl)) ?_
  intro W base args ds gs before hval hW _ hsz _
  exact contract H enc W base args ds gs before hval hW hsz

theorem said : Rows.ParcelTakesSaid :=
  OpenClaim.holds_of_wide 6 Try.f6 rfl rfl rfl rfl rfl rfl rfl ⟨rfl, rfl, rfl, rfl, rfl⟩ rfl rfl rfl rfl rfl (by kernel_rfl) Try.func6 (by kernel_rfl)
    (of_decide_eq_true (by kernel_rfl)) (by unfold Func.isWrapper; first | (rw [if_pos (by decide +kernel)]; kernel_rfl) | (rw [if_neg (by decide +kernel)]; exact ⟨rfl, rfl⟩))
    (fun os started H enc _ => lifted os started H enc)
end parcelTakes

theorem parcelTakes_holds : Rows.ParcelTakesSaid := parcelTakes.said
end Go.Proofs.Ytmpljoljpgbamaa

