/- Proved: for every parcel grapevinelaw13.ParcelPlain answers true and leaves its argument as it was. No condition. -/
import Derived.Test.YtjpkhefegpbooaaPlE
import Derived.Test.YtjpkhefegpbooaaPcSame
import Derived.Test.YtjpkhefegpbooaaPcLive
import Derived.Laws.BitsAllLaws
import Derived.Deep.RegionHeld3
namespace Go.Proofs.Ytjpkhefegpbooaa
open Go.ChangeShapes Go.WideShapes Go.ChangeAt Go.RowKit
namespace parcelPlain

theorem sps_caps {w : World} {base : Nat} {a : Option Addr} {n c : Nat} {l : List Sp} (h : Sps w base (.slice a n c) l) : n ≤ c ∧ c ≤ maxLen ∧ (a = none → c = 0) ∧ n = l.length := by
  rcases h.row.2 with ⟨g1, g2⟩ | ⟨g', c', cur, g1, _, _, g4, g5, _⟩
  · simp only [Value.slice.injEq] at g1
    exact ⟨by omega, by omega, fun _ => by omega, by omega⟩
  · simp only [Value.slice.injEq] at g1
    refine ⟨by omega, by omega, fun e => ?_, by omega⟩
    rw [e] at g1
    cases g1.1
theorem its_caps {w : World} {base : Nat} {a : Option Addr} {n c : Nat} {L : List (It × Bd)} (h : Its w base (.slice a n c) L) : n ≤ c ∧ c ≤ maxLen ∧ (a = none → c = 0) ∧ n = L.length := by
  rcases h.row.2 with ⟨g1, g2⟩ | ⟨g', c', cur, g1, _, _, g4, g5, _⟩
  · simp only [Value.slice.injEq] at g1
    exact ⟨by omega, by omega, fun _ => by omega, by omega⟩
  · simp only [Value.slice.injEq] at g1
    refine ⟨by omega, by omega, fun e => ?_, by omega⟩
    rw [e] at g1
    cases g1.1
theorem told_rd {w' : World} {base : Nat} {q : Pc} {sa ia : Option Addr} {sn sc im ic : Nat} {L : List (It × Bd)} (hs : Sps w' base (.slice sa sn sc) q.spans) (hi : Its w' base (.slice ia im ic) L) (hm : L.map Prod.fst = q.items) (hq : ∀ x ∈ q.items, ((-9223372036854775808 : Int) ≤ x.tick ∧ x.tick ≤ 9223372036854775807) ∧ (0 ≤ x.for_ ∧ x.for_ ≤ 4294967295)) : PcRd w' q sa sn sc ia im ic := by
  have hir := hi.rd (fun x hx => hq x (by rw [← hm]; exact hx))
  rw [hm] at hir
  exact ⟨hs.rd, hir, (sps_caps hs).1, (sps_caps hs).2.1, (its_caps hi).1, (its_caps hi).2.1⟩

theorem plainQ_twice (p : Pc) : plainQ (plainQ p) = plainQ p := by
  cases hk : isB p.kind with
  | false => rw [plainQ_bad hk, plainQ_bad (p := ⟨p.kind, 0, 0, 0, 0, 0, [], []⟩) hk]
  | true =>
    rw [plainQ_is hk, plainQ_is (p := plainP p) hk]
    unfold plainP
    simp only
    congr 1 <;> split <;> rfl

set_option maxRecDepth 100000 in
set_option maxHeartbeats 4000000 in
theorem walk (p : Pc) (sa : Option Addr) (sn sc : Nat) (ia : Option Addr) (im ic : Nat) (w : World) (hp : PcRd w p sa sn sc ia im ic) (hbg : PcBig p sa sc ia ic) :
    Calls Try.prog 4 #[p.val sa sn sc ia im ic] w fun e w' => e = .returned (.bool true) ∧ Below w.heap.size w w' := by
  have hmid : PcMid p sa sn sc ia im ic := hbg.mid hp
  obtain ⟨p0, HP0⟩ : ∃ p0, Hid (p0 = p) := ⟨_, rfl⟩
  have HV : Hid (p0.val sa sn sc ia im ic = p.val sa sn sc ia im ic) := by show _ = _; rw [HP0.out]
  have HP : Hid (PcRd w p0 sa sn sc ia im ic) := by rw [HP0.out]; exact hp
  have HMD : Hid (PcMid p0 sa sn sc ia im ic) := by rw [HP0.out]; exact hmid
  clear hp hbg hmid
  obtain ⟨pk, pp, ps, pn, pf, pt, pl, pi⟩ := p
  obtain ⟨C, HCE⟩ : ∃ C, Hid (C = chk p0) := ⟨_, rfl⟩
  obtain ⟨D, HDE⟩ : ∃ D, Hid (D = chk (plainQ p0)) := ⟨_, rfl⟩
  have HCD : Hid (C = 0 → D = 0) := fun h => by rw [HDE.out]; exact chk_plainQ (by rw [← HCE.out]; exact h)
  obtain ⟨X, HX⟩ : ∃ X, Hid (X = plainQ p0) := ⟨_, rfl⟩
  have HEX : Hid (∀ q ∈ X.items, ((-9223372036854775808 : Int) ≤ q.tick ∧ q.tick ≤ 9223372036854775807) ∧ (0 ≤ q.for_ ∧ q.for_ ≤ 4294967295)) := by
    intro q hq
    rw [HX.out] at hq
    exact HP.out.items.each q (plainQ_items hq)
  have HXM : Hid (∀ {w' : World} {ua : Option Addr} {un uc : Nat} {va : Option Addr} {vm vc : Nat}, PcRd w' X ua un uc va vm vc → (ua = none → uc = 0) → (va = none → vc = 0) → PcMid X ua un uc va vm vc) := by
    intro w' ua un uc va vm vc h1 h2 h3
    rw [HX.out] at h1 ⊢
    exact plainQ_mid HMD.out HP.out h1 h2 h3
  obtain ⟨W0, HW0⟩ : ∃ W0, Hid (W0 = w.alloc (.cells #[.int .i64 pk, .int .i64 pp, .int .i64 ps, .int .i64 pn, .int .i64 pf, .int .i64 pt, .slice sa sn sc, .slice ia im ic] 26)) := ⟨_, rfl⟩
  have HB0 : Hid (Below w.heap.size w W0) := by rw [HW0.out]; exact below_new _ _
  have HK0 : Hid (Bk W0 w.heap.size #[.int .i64 pk, .int .i64 pp, .int .i64 ps, .int .i64 pn, .int .i64 pf, .int .i64 pt, .slice sa sn sc, .slice ia im ic] 26) := by rw [HW0.out]; exact Bk.new _ _ _
  have HS0 : Hid (W0.heap.size = w.heap.size + 1) := by show _ = _; rw [HW0.out]; simp
  have hcp := pc_Plain13 p0 sa sn sc ia im ic W0 (HP.out.below HB0.out) HMD.out
  rw [HV.out, ← HX.out] at hcp
  have HCP : Hid (Calls Try.prog 12 #[Pc.val ⟨pk, pp, ps, pn, pf, pt, pl, pi⟩ sa sn sc ia im ic] W0 fun e w' => Hid (PlainTold W0 w' X e) ∧ Below W0.heap.size W0 w') := hcp
  have HPT : Hid (∀ w', Below w.heap.size w w' → Calls Try.prog 14 #[.agg #[.int .i64 pk, .int .i64 pp, .int .i64 ps, .int .i64 pn, .int .i64 pf, .int .i64 pt, .slice sa sn sc, .slice ia im ic]] w' fun e w'' => Hid (PlainTold w' w'' X e) ∧ Below w'.heap.size w' w'') := by
    intro w' hb
    have h := ref_Plain13m p0 sa sn sc ia im ic w' (HP.out.below hb) HMD.out
    rw [HV.out, ← HX.out] at h
    exact h
  have HCK : Hid (∀ w', Below w.heap.size w w' → Calls Try.prog 10 #[.agg #[.int .i64 pk, .int .i64 pp, .int .i64 ps, .int .i64 pn, .int .i64 pf, .int .i64 pt, .slice sa sn sc, .slice ia im ic]] w' fun e w'' => e = .returned (.int .i64 C) ∧ Below w'.heap.size w' w'') := by
    intro w' hb
    have h := pc_Check p0 sa sn sc ia im ic w' (HP.out.below hb)
    rw [HV.out, ← HCE.out] at h
    exact h
  have HDX : Hid (chk X = D) := by show _ = _; rw [HX.out, HDE.out]
  have HXQ : Hid (plainQ X = X) := by show _ = _; rw [HX.out]; exact plainQ_twice p0
  clear hcp HCE HDE HV HP0 HMD
  clear HX
  obtain ⟨xk, xp, xs, xn, xf, xt, xl, xi⟩ := X
  have HPP : Hid (∀ w', Below w.heap.size w w' → Calls Try.prog 14 #[.agg #[.int .i64 pk, .int .i64 pp, .int .i64 ps, .int .i64 pn, .int .i64 pf, .int .i64 pt, .slice sa sn sc, .slice ia im ic]] w' fun e w'' => (∃ ta tn tc ja jm jc, e = .returned (.agg #[.int .i64 xk, .int .i64 xp, .int .i64 xs, .int .i64 xn, .int .i64 xf, .int .i64 xt, .slice ta tn tc, .slice ja jm jc]) ∧ Hid (PcRd w'' ⟨xk, xp, xs, xn, xf, xt, xl, xi⟩ ta tn tc ja jm jc)) ∧ Below w'.heap.size w' w'') := by
    intro w' hb
    refine (HPT.out w' hb).mono ?_
    rintro e w'' ⟨h1, h2⟩
    obtain ⟨ta, tn, tc, ja, jm, jc, h3, h4⟩ := h1.out.rd HEX.out
    exact ⟨⟨ta, tn, tc, ja, jm, jc, h3, h4⟩, h2⟩
  unfold Pc.val
  simp only
  go_enter Try.func4, Try.ntmps4
  go_wp2_with fail
  rw [← HW0.out]
  refine HCP.out.mono ?_
  rintro e w1 ⟨ht, hb1⟩
  obtain ⟨ua, un, uc, va, vm, vc, L, he, hs1, hi1, hm1⟩ := ht.out
  unfold Pc.val at he
  simp only at he hs1 hm1
  subst he
  have HBL : Hid (∀ x ∈ L, ∀ g o sp_, x.2.1 = some ⟨g, o, sp_⟩ → W0.heap.size ≤ g ∧ g < w1.heap.size) := by
    intro x hx g o sp_ hg
    rcases (hi1.bod x hx).row.2 with ⟨h1, _⟩ | ⟨g', c', cur, h1, h2, h3, _⟩
    · simp only [Value.slice.injEq] at h1
      rw [h1.1] at hg
      cases hg
    · simp only [Value.slice.injEq] at h1
      rw [h1.1] at hg
      simp only [Option.some.injEq, Addr.mk.injEq] at hg
      obtain ⟨rfl, _⟩ := hg
      exact ⟨h2, (Array.getElem?_eq_some_iff.1 h3).1⟩
  have HVA : Hid (∀ g o sp_, va = some ⟨g, o, sp_⟩ → 0 < vm → W0.heap.size ≤ g ∧ g < w1.heap.size ∧ o = 0 ∧ sp_ = none) := by
    intro g o sp_ hg h0
    rcases hi1.row.2 with ⟨h1, h2⟩ | ⟨g', c', cur, h1, h2, h3, _⟩
    · simp only [Value.slice.injEq] at h1
      omega
    · simp only [Value.slice.injEq] at h1
      rw [h1.1] at hg
      simp only [Option.some.injEq, Addr.mk.injEq] at hg
      obtain ⟨rfl, rfl, rfl⟩ := hg
      exact ⟨h2, (Array.getElem?_eq_some_iff.1 h3).1, rfl, rfl⟩
  have HUA : Hid (∀ g o sp_, ua = some ⟨g, o, sp_⟩ → 0 < un → W0.heap.size ≤ g ∧ g < w1.heap.size ∧ o = 0 ∧ sp_ = none) := by
    intro g o sp_ hg h0
    rcases hs1.row.2 with ⟨h1, h2⟩ | ⟨g', c', cur, h1, h2, h3, _⟩
    · simp only [Value.slice.injEq] at h1
      omega
    · simp only [Value.slice.injEq] at h1
      rw [h1.1] at hg
      simp only [Option.some.injEq, Addr.mk.injEq] at hg
      obtain ⟨rfl, rfl, rfl⟩ := hg
      exact ⟨h2, (Array.getElem?_eq_some_iff.1 h3).1, rfl, rfl⟩
  obtain ⟨w2, HW2⟩ : ∃ w2, Hid (w2 = w1.alloc (.cells #[.int .i64 xk, .int .i64 xp, .int .i64 xs, .int .i64 xn, .int .i64 xf, .int .i64 xt, .slice ua un uc, .slice va vm vc] 26)) := ⟨_, rfl⟩
  have hb2 : Below w1.heap.size w1 w2 := by rw [HW2.out]; exact below_new _ _
  have HX2 : Hid (Bk w2 w1.heap.size #[.int .i64 xk, .int .i64 xp, .int .i64 xs, .int .i64 xn, .int .i64 xf, .int .i64 xt, .slice ua un uc, .slice va vm vc] 26) := by rw [HW2.out]; exact Bk.new _ _ _
  have HK2 : Hid (Bk w2 w.heap.size #[.int .i64 pk, .int .i64 pp, .int .i64 ps, .int .i64 pn, .int .i64 pf, .int .i64 pt, .slice sa sn sc, .slice ia im ic] 26) := (HK0.out.stay hb1).stay hb2
  have HB1 : Hid (Below w.heap.size w w1) := HB0.out.trans (hb1.mono HB0.out.size)
  have HB2 : Hid (Below w.heap.size w w2) := HB1.out.trans (hb2.mono HB1.out.size)
  have HSP2 : Hid (Sps w2 W0.heap.size (.slice ua un uc) xl) := hs1.below hb2
  have HIT2 : Hid (Its w2 W0.heap.size (.slice va vm vc) L) := hi1.below hb2
  have HLM : Hid (L.map Prod.fst = xi) := hm1
  have HXR : Hid (PcRd w2 ⟨xk, xp, xs, xn, xf, xt, xl, xi⟩ ua un uc va vm vc) := told_rd (q := ⟨xk, xp, xs, xn, xf, xt, xl, xi⟩) HSP2.out HIT2.out hm1 HEX.out
  have HXMM : Hid (PcMid ⟨xk, xp, xs, xn, xf, xt, xl, xi⟩ ua un uc va vm vc) := HXM.out HXR.out (sps_caps hs1).2.2.1 (its_caps hi1).2.2.1
  have HSZ : Hid (w.heap.size < W0.heap.size ∧ W0.heap.size ≤ w1.heap.size ∧ w1.heap.size < w2.heap.size) := ⟨by rw [HS0.out]; omega, hb1.size, HX2.out.lt⟩
  have HXP : Hid (∀ w', Below w2.heap.size w2 w' → Calls Try.prog 12 #[.agg #[.int .i64 xk, .int .i64 xp, .int .i64 xs, .int .i64 xn, .int .i64 xf, .int .i64 xt, .slice ua un uc, .slice va vm vc]] w' fun e w'' => (∃ ta tn tc ja jm jc, e = .returned (.agg #[.int .i64 xk, .int .i64 xp, .int .i64 xs, .int .i64 xn, .int .i64 xf, .int .i64 xt, .slice ta tn tc, .slice ja jm jc]) ∧ Hid (PcRd w'' ⟨xk, xp, xs, xn, xf, xt, xl, xi⟩ ta tn tc ja jm jc)) ∧ Below w'.heap.size w' w'') := by
    intro w' hb
    have h := pc_Plain13 ⟨xk, xp, xs, xn, xf, xt, xl, xi⟩ ua un uc va vm vc w' (HXR.out.below hb) HXMM.out
    rw [HXQ.out] at h
    refine h.mono ?_
    rintro e w'' ⟨h1, h2⟩
    obtain ⟨ta, tn, tc, ja, jm, jc, h3, h4⟩ := h1.out.rd HEX.out
    exact ⟨⟨ta, tn, tc, ja, jm, jc, h3, h4⟩, h2⟩
  have HSK : Hid (∀ w', Below w2.heap.size w2 w' → w'.cell? ⟨w1.heap.size, 0, none⟩ = some (.int .i64 xk) ∧ w'.cell? ⟨w1.heap.size, 1, none⟩ = some (.int .i64 xp) ∧ w'.cell? ⟨w1.heap.size, 2, none⟩ = some (.int .i64 xs) ∧ w'.cell? ⟨w1.heap.size, 3, none⟩ = some (.int .i64 xn) ∧ w'.cell? ⟨w1.heap.size, 4, none⟩ = some (.int .i64 xf) ∧ w'.cell? ⟨w1.heap.size, 5, none⟩ = some (.int .i64 xt) ∧ w'.cell? ⟨w1.heap.size, 6, none⟩ = some (.slice ua un uc) ∧ w'.cell? ⟨w1.heap.size, 7, none⟩ = some (.slice va vm vc) ∧ w'.cell? ⟨w.heap.size, 0, none⟩ = some (.int .i64 pk) ∧ w'.cell? ⟨w.heap.size, 1, none⟩ = some (.int .i64 pp) ∧ w'.cell? ⟨w.heap.size, 2, none⟩ = some (.int .i64 ps) ∧ w'.cell? ⟨w.heap.size, 3, none⟩ = some (.int .i64 pn) ∧ w'.cell? ⟨w.heap.size, 4, none⟩ = some (.int .i64 pf) ∧ w'.cell? ⟨w.heap.size, 5, none⟩ = some (.int .i64 pt) ∧ w'.cell? ⟨w.heap.size, 6, none⟩ = some (.slice sa sn sc) ∧ w'.cell? ⟨w.heap.size, 7, none⟩ = some (.slice ia im ic)) := by
    intro w' hb
    have k := HX2.out.stay hb
    have l := HK2.out.stay hb
    exact ⟨k.cell 0 rfl, k.cell 1 rfl, k.cell 2 rfl, k.cell 3 rfl, k.cell 4 rfl, k.cell 5 rfl, k.cell 6 rfl, k.cell 7 rfl, l.cell 0 rfl, l.cell 1 rfl, l.cell 2 rfl, l.cell 3 rfl, l.cell 4 rfl, l.cell 5 rfl, l.cell 6 rfl, l.cell 7 rfl⟩
  clear ht hb1 hs1 hi1 hm1 hb2 HCP HK0 HB0 HXMM HXM
  have HBN : Hid (Below w2.heap.size w2 w2.drew) := below_drew (Below.refl _ _)
  go_wp2
  rw [← HW2.out]
  go_region_held3 (fun w' => w'.cell? ⟨w1.heap.size, 0, none⟩ = some (.int .i64 xk) ∧ w'.cell? ⟨w1.heap.size, 1, none⟩ = some (.int .i64 xp) ∧ w'.cell? ⟨w1.heap.size, 2, none⟩ = some (.int .i64 xs) ∧ w'.cell? ⟨w1.heap.size, 3, none⟩ = some (.int .i64 xn) ∧ w'.cell? ⟨w1.heap.size, 4, none⟩ = some (.int .i64 xf) ∧ w'.cell? ⟨w1.heap.size, 5, none⟩ = some (.int .i64 xt) ∧ w'.cell? ⟨w1.heap.size, 6, none⟩ = some (.slice ua un uc) ∧ w'.cell? ⟨w1.heap.size, 7, none⟩ = some (.slice va vm vc) ∧ w'.cell? ⟨w.heap.size, 0, none⟩ = some (.int .i64 pk) ∧ w'.cell? ⟨w.heap.size, 1, none⟩ = some (.int .i64 pp) ∧ w'.cell? ⟨w.heap.size, 2, none⟩ = some (.int .i64 ps) ∧ w'.cell? ⟨w.heap.size, 3, none⟩ = some (.int .i64 pn) ∧ w'.cell? ⟨w.heap.size, 4, none⟩ = some (.int .i64 pf) ∧ w'.cell? ⟨w.heap.size, 5, none⟩ = some (.int .i64 pt) ∧ w'.cell? ⟨w.heap.size, 6, none⟩ = some (.slice sa sn sc) ∧ w'.cell? ⟨w.heap.size, 7, none⟩ = some (.slice ia im ic)) (first | with_reducible exact HSK.out _ HBN.out | with_reducible exact HSK.out _ (Below.refl _ _) | fail)
    (first
      | (go_at_call 14; refine (HPP.out _ (HB2.out.trans (HBN.out.mono HB2.out.size))).mono ?_; rintro e w3 ⟨⟨ta, tn, tc, ja, jm, jc, rfl, HPL⟩, hb3⟩; have HB' : Hid (Below w2.heap.size w2 w3) := HBN.out.trans (hb3.mono HBN.out.size); clear hb3 HBN; have HBN := HB'; clear HB')
      | (go_at_call 12; refine (HXP.out _ HBN.out).mono ?_; rintro e w5 ⟨⟨ta, tn, tc, ja, jm, jc, rfl, HPM⟩, hb5⟩; have HB' : Hid (Below w2.heap.size w2 w5) := HBN.out.trans (hb5.mono HBN.out.size); clear hb5 HBN; have HBN := HB'; clear HB')
      | (go_at_call 13; have hz := HPM; clear hz; refine (ref_Same13 ⟨xk, xp, xs, xn, xf, xt, xl, xi⟩ _ _ _ _ _ _ ua un uc va vm vc _ HPM.out (HXR.out.below HBN.out)).mono ?_; rintro e w6 ⟨rfl, hb6⟩; have HB' : Hid (Below w2.heap.size w2 w6) := HBN.out.trans (hb6.mono HBN.out.size); clear hb6 HBN; have HBN := HB'; clear HB')
      | (go_at_call 13; refine (ref_Same13 ⟨xk, xp, xs, xn, xf, xt, xl, xi⟩ ua un uc va vm vc _ _ _ _ _ _ _ (HXR.out.below HBN.out) HPL.out).mono ?_; rintro e w4 ⟨rfl, hb4⟩; have HB' : Hid (Below w2.heap.size w2 w4) := HBN.out.trans (hb4.mono HBN.out.size); clear hb4 HBN HPL; have HBN := HB'; clear HB'))
  obtain ⟨wA, HWA⟩ : ∃ wA, Hid (wA = w6) := ⟨_, rfl⟩
  have HBA : Hid (Below w2.heap.size w2 wA) := by rw [HWA.out]; exact HBN.out
  have HBwA : Hid (Below w.heap.size w wA) := HB2.out.trans (HBA.out.mono HB2.out.size)
  obtain ⟨x0, x1, x2, x3, x4, x5, x6, x7, d0, d1, d2, d3, d4, d5, d6, d7⟩ := HSK.out _ HBN.out
  go_wp2_with fail
  rw [← HWA.out]
  refine (HPT.out _ HBwA.out).mono ?_
  rintro e wB ⟨ht, hbB⟩
  obtain ⟨da, dn, dc, ea, em, ec, LY, he, hsB, hiB, hmB⟩ := ht.out
  unfold Pc.val at he
  simp only at he hsB hmB
  subst he
  obtain ⟨wC, HWC⟩ : ∃ wC, Hid (wC = wB.alloc (.cells #[.int .i64 xk, .int .i64 xp, .int .i64 xs, .int .i64 xn, .int .i64 xf, .int .i64 xt, .slice da dn dc, .slice ea em ec] 26)) := ⟨_, rfl⟩
  have hbC : Below wB.heap.size wB wC := by rw [HWC.out]; exact below_new _ _
  have hbAC : Below wA.heap.size wA wC := hbB.trans (hbC.mono hbB.size)
  have HSZA : Hid (w2.heap.size ≤ wA.heap.size ∧ wA.heap.size ≤ wB.heap.size) := ⟨HBA.out.size, hbB.size⟩
  obtain ⟨K, HK⟩ : ∃ K : World → Prop, Hid (K = fun wr => Bk wr w.heap.size #[.int .i64 pk, .int .i64 pp, .int .i64 ps, .int .i64 pn, .int .i64 pf, .int .i64 pt, .slice sa sn sc, .slice ia im ic] 26 ∧ Bk wr w1.heap.size #[.int .i64 xk, .int .i64 xp, .int .i64 xs, .int .i64 xn, .int .i64 xf, .int .i64 xt, .slice ua un uc, .slice va vm vc] 26 ∧ Bk wr wB.heap.size #[.int .i64 xk, .int .i64 xp, .int .i64 xs, .int .i64 xn, .int .i64 xf, .int .i64 xt, .slice da dn dc, .slice ea em ec] 26 ∧ Sps wr wA.heap.size (.slice da dn dc) xl ∧ Its wr wA.heap.size (.slice ea em ec) LY ∧ Below w.heap.size w wr) := ⟨_, rfl⟩
  have HKs : Hid (∀ (wr : World) (g i : Nat) (v : Value), W0.heap.size ≤ g → g < w1.heap.size → K wr → K (wr.setCell ⟨g, i, none⟩ v)) := by
    intro wr g i v h1 h2 hK
    have h3 := HSZ.out
    have h4 := HSZA.out
    rw [HK.out] at hK ⊢
    obtain ⟨k1, k2, k3, k4, k5, k6⟩ := hK
    exact ⟨k1.other _ _ (by show w.heap.size ≠ g; omega), k2.other _ _ (by show w1.heap.size ≠ g; omega), k3.other _ _ (by show wB.heap.size ≠ g; omega), k4.under _ _ (by show g < _; omega), k5.under _ _ (by show g < _; omega), k6.setCell (by show _ ≤ g; omega) _⟩
  have HKg : Hid (∀ wr : World, K wr → Bk wr w1.heap.size #[.int .i64 xk, .int .i64 xp, .int .i64 xs, .int .i64 xn, .int .i64 xf, .int .i64 xt, .slice ua un uc, .slice va vm vc] 26) := by
    intro wr hK
    rw [HK.out] at hK
    exact hK.2.1
  have HKC : Hid (K wC) := by
    show K wC
    rw [HK.out]
    refine ⟨((HK2.out.stay HBA.out).stay hbAC), ((HX2.out.stay HBA.out).stay hbAC), ?_, hsB.below hbC, hiB.below hbC, HBwA.out.trans (hbAC.mono HBwA.out.size)⟩
    rw [HWC.out]
    exact Bk.new _ _ _
  have HSC : Hid (Sps wC W0.heap.size (.slice ua un uc) xl) := (HSP2.out.below HBA.out).below hbAC
  have HLC : Hid (Loose wC W0.heap.size (.slice va vm vc) L) := ((HIT2.out.below HBA.out).below hbAC).loose
  have HVN : Hid (vm = L.length) := (its_caps HIT2.out).2.2.2
  have HUN : Hid (un = xl.length) := (sps_caps HSP2.out).2.2.2
  have HVS : Hid (va = none → vm = 0) := fun h => by have h1 := (its_caps HIT2.out).2.2.1 h; have h2 := (its_caps HIT2.out).1; omega
  have HUS : Hid (ua = none → un = 0) := fun h => by have h1 := (sps_caps HSP2.out).2.2.1 h; have h2 := (sps_caps HSP2.out).1; omega
  have HYM : Hid (LY.map Prod.fst = xi) := hmB
  have hvm : vm ≤ 9223372036854775807 := by have h1 := (its_caps HIT2.out).1; have h2 := (its_caps HIT2.out).2.1; unfold maxLen at h2; omega
  have hun : un ≤ 9223372036854775807 := by have h1 := (sps_caps HSP2.out).1; have h2 := (sps_caps HSP2.out).2.1; unfold maxLen at h2; omega
  clear ht hsB hiB hmB hbB hbC hbAC x0 x1 x2 x3 x4 x5 x6 x7 d0 d1 d2 d3 d4 d5 d6 d7 HSP2 HIT2 HX2 HK2 HXP HSK HBN HXR HPM HWA
  go_wp2
  rw [← HWC.out]
  go_loopw [5] (fun t5 wr => ∃ (i : Nat) (L' : List (It × Bd)), i ≤ vm ∧ t5 = .int .i64 (i : Int) ∧ Hid (Loose wr W0.heap.size (.slice va vm vc) L') ∧ Hid (L'.map Prod.snd = L.map Prod.snd) ∧ Hid (Sps wr W0.heap.size (.slice ua un uc) xl) ∧ Hid (K wr)) (fun t5 _ => vm - (intOf t5).toNat)
  case atStart => exact ⟨0, L, by omega, rfl, HLC, rfl, HSC, HKC⟩
  case round =>
    obtain ⟨i, L1, hi, rfl, HL1, HM1, HS1, HK1⟩ := hrel
    clear HLC HSC HKC
    have x7 : wr.cell? ⟨w1.heap.size, 7, none⟩ = some (.slice va vm vc) := (HKg.out _ HK1.out).cell 7 rfl
    by_cases hlt : i < vm
    · have hlt' : (i : Int) < (vm : Int) := by omega
      have h0i : (0 : Int) ≤ (i : Int) := by omega
      obtain ⟨av, hav⟩ : ∃ av, va = some av := by
        cases hva : va with
        | none => have := HVS.out hva; omega
        | some av => exact ⟨av, rfl⟩
      obtain ⟨gi, oi, si⟩ := av
      obtain ⟨hg1, hg2, ho, hsn⟩ := HVA.out gi oi si hav (by omega)
      subst ho hsn hav
      have HGI : Hid (W0.heap.size ≤ gi ∧ gi < w1.heap.size) := ⟨hg1, hg2⟩
      obtain ⟨x, hx⟩ : ∃ x, L[i]? = some x := ⟨L[i]'(by have := HVN.out; omega), List.getElem?_eq_getElem _⟩
      have HX : Hid (L[i]? = some x) := hx
      have HBX : Hid (∀ g o sp_, x.2.1 = some ⟨g, o, sp_⟩ → W0.heap.size ≤ g ∧ g < w1.heap.size) := HBL.out x (List.mem_of_getElem? hx)
      obtain ⟨q, ba, bl, bc⟩ := x
      obtain ⟨c2, _, _, ⟨bs0, hb0⟩, _⟩ := HL1.out.at_ HM1.out hx
      simp only at c2 hb0 HBX
      have hblb : bl ≤ 9223372036854775807 := by have h1 := hb0.cap_le; unfold maxLen at h1; omega
      clear hg1 hg2 hx hb0
      go_wp2
      obtain ⟨wo, HWO⟩ : ∃ wo, Hid (wo = wr) := ⟨_, rfl⟩
      go_loopw [6] (fun t6 wr => ∃ (k : Nat) (L' : List (It × Bd)), k ≤ bl ∧ t6 = .int .i64 (k : Int) ∧ Hid (Loose wr W0.heap.size (.slice (some ⟨gi, 0, none⟩) vm vc) L') ∧ Hid (L'.map Prod.snd = L.map Prod.snd) ∧ Hid (Sps wr W0.heap.size (.slice ua un uc) xl) ∧ Hid (K wr)) (fun t6 _ => bl - (intOf t6).toNat)
      case atStart => exact ⟨0, L1, by omega, rfl, HL1, HM1, HS1, HK1⟩
      case round =>
        obtain ⟨k, L2, hk, rfl, HL2, HM2, HS2, HK2⟩ := hrel
        clear HL1 HM1 HS1 HK1 c2 x7 HWO
        have x7 : wr.cell? ⟨w1.heap.size, 7, none⟩ = some (.slice (some ⟨gi, 0, none⟩) vm vc) := (HKg.out _ HK2.out).cell 7 rfl
        obtain ⟨c2, f0, ⟨tk, c0⟩, ⟨bs, hb⟩, y, hy⟩ := HL2.out.at_ HM2.out HX.out
        simp only at c2 hb
        have HO : Hid (Own wr W0.heap.size ba bl bc bs) := hb
        have HY : Hid (L2[i]? = some y) := hy
        clear hb hy
        by_cases hkl : k < bl
        · have hkl' : (k : Int) < (bl : Int) := by omega
          have h0k : (0 : Int) ≤ (k : Int) := by omega
          obtain ⟨g, hg, hgb, hgs⟩ := HO.out.form (by omega)
          subst hg
          have HG : Hid (W0.heap.size ≤ g ∧ g < w1.heap.size) := HBX.out g 0 none rfl
          obtain ⟨c, HC⟩ : ∃ c, Hid (c = bs.getD k 0) := ⟨_, rfl⟩
          have hcx : wr.cell? ⟨g, k, none⟩ = some (.int .u8 (c : Int)) := by rw [HC.out]; exact HO.out.cell k hkl
          have hfr : wr.frozen? ⟨g, k, none⟩ = false := HO.out.free _
          have hc : c < 256 := by rw [HC.out]; exact getD_lt HO.out.byte _
          obtain ⟨z, HZ⟩ : ∃ z, Hid (z = c ^^^ 1) := ⟨_, rfl⟩
          have ez : bits BinOp.xor IntKind.u8 (c : Int) 1 = (z : Int) := by rw [HZ.out]; exact u8_xor_nat c 1 hc (by omega)
          have hz8 : z < 256 := by rw [HZ.out]; exact Nat.xor_lt_two_pow (n := 8) hc (by omega)
          have HL' : Hid (Loose (wr.setCell ⟨g, k, none⟩ (.int .u8 (z : Int))) W0.heap.size (.slice (some ⟨gi, 0, none⟩) vm vc) L2) := by
            obtain ⟨cur, hcur⟩ := own_block HO.out
            exact HL2.out.poke hz8 hcur
          have HS' : Hid (Sps (wr.setCell ⟨g, k, none⟩ (.int .u8 (z : Int))) W0.heap.size (.slice ua un uc) xl) := by
            obtain ⟨cur, hcur⟩ := own_block HO.out
            exact HS2.out.away hcur (by decide)
          have HK' : Hid (K (wr.setCell ⟨g, k, none⟩ (.int .u8 (z : Int)))) := HKs.out _ _ _ _ HG.out.1 HG.out.2 HK2.out
          clear hgb hgs c0 f0
          go_wp2
          go_roundw
          case rel => exact ⟨k + 1, L2, by omega, by go_num, HL', HM2, HS', HK'⟩
          case measure => simp [intOf]; omega
        · have hnl : ¬ (k : Int) < (bl : Int) := by omega
          obtain ⟨L3, hL3, hM3⟩ := HL2.out.tick HY.out
          have HL3 : Hid (Loose (wr.setCell ⟨gi, i * 3, none⟩ (.int .i64 0)) W0.heap.size (.slice (some ⟨gi, 0, none⟩) vm vc) L3) := hL3
          have HM3 : Hid (L3.map Prod.snd = L.map Prod.snd) := hM3.trans HM2.out
          have HS3 : Hid (Sps (wr.setCell ⟨gi, i * 3, none⟩ (.int .i64 0)) W0.heap.size (.slice ua un uc) xl) := by
            obtain ⟨cur, hcur⟩ := loose_block HL2.out
            exact HS2.out.away hcur (by decide)
          have HK3 : Hid (K (wr.setCell ⟨gi, i * 3, none⟩ (.int .i64 0))) := HKs.out _ _ _ _ HGI.out.1 HGI.out.2 HK2.out
          clear hL3 hM3
          go_wp2
          go_roundw
          case rel => exact ⟨i + 1, L3, by omega, by go_num, HL3, HM3, HS3, HK3⟩
          case measure => simp [intOf]; omega
    · have hnl : ¬ (i : Int) < (vm : Int) := by omega
      go_wp2
      go_loopw [7] (fun t7 wr => ∃ (j : Nat) (l' : List Sp), j ≤ un ∧ t7 = .int .i64 (j : Int) ∧ Hid (Sps wr W0.heap.size (.slice ua un uc) l') ∧ Hid (K wr)) (fun t7 _ => un - (intOf t7).toNat)
      case atStart => exact ⟨0, xl, by omega, rfl, HS1, HK1⟩
      case round =>
        obtain ⟨j, l1, hj, rfl, HSj, HKj⟩ := hrel
        clear HL1 HM1 HS1 HK1 x7
        have x6 : wr.cell? ⟨w1.heap.size, 6, none⟩ = some (.slice ua un uc) := (HKg.out _ HKj.out).cell 6 rfl
        by_cases hjl : j < un
        · have hjl' : (j : Int) < (un : Int) := by omega
          have h0j : (0 : Int) ≤ (j : Int) := by omega
          obtain ⟨au, hau⟩ : ∃ au, ua = some au := by
            cases hua : ua with
            | none => have := HUS.out hua; omega
            | some au => exact ⟨au, rfl⟩
          obtain ⟨gu, ou, su⟩ := au
          obtain ⟨hg1, hg2, ho, hsn⟩ := HUA.out gu ou su hau (by omega)
          subst ho hsn hau
          have HGU : Hid (W0.heap.size ≤ gu ∧ gu < w1.heap.size) := ⟨hg1, hg2⟩
          have hll : j < l1.length := by have := (sps_caps HSj.out).2.2.2; omega
          obtain ⟨l2, hl2, _⟩ := HSj.out.poke hll
          have HS2 : Hid (Sps (wr.setCell ⟨gu, j * 3 + 1, none⟩ (.int .i64 0)) W0.heap.size (.slice (some ⟨gu, 0, none⟩) un uc) l2) := hl2
          have HK2 : Hid (K (wr.setCell ⟨gu, j * 3 + 1, none⟩ (.int .i64 0))) := HKs.out _ _ _ _ HGU.out.1 HGU.out.2 HKj.out
          obtain ⟨gz, oz, hz1, _, qz, hz2, _, hz3, _⟩ := HSj.out.rd.at_ j (by omega)
          simp only [Option.some.injEq, Addr.mk.injEq, and_true] at hz1
          obtain ⟨rfl, rfl⟩ := hz1
          have cj : wr.cell? ⟨gu, j * 3 + 1, none⟩ = some (.int .i64 qz.to) := by rw [Nat.zero_add] at hz3; exact hz3
          have fj : wr.frozen? ⟨gu, j * 3 + 1, none⟩ = false := by
            have h1 := HSj.out.row
            rw [← (sps_caps HSj.out).2.2.2] at h1
            exact h1.frozenAt _
          clear hg1 hg2 hl2 hz2 hz3
          go_wp2
          go_roundw
          case rel => exact ⟨j + 1, l2, by omega, by go_num, HS2, HK2⟩
          case measure => simp [intOf]; omega
        · have hnj : ¬ (j : Int) < (un : Int) := by omega
          have hKf := HKj.out
          rw [HK.out] at hKf
          obtain ⟨k1, _, k3, k4, k5, k6⟩ := hKf
          have HB : Hid (Below w.heap.size w wr) := k6
          have HYR : Hid (PcRd wr ⟨xk, xp, xs, xn, xf, xt, xl, xi⟩ da dn dc ea em ec) := told_rd (q := ⟨xk, xp, xs, xn, xf, xt, xl, xi⟩) k4 k5 HYM.out HEX.out
          have HSK : Hid (∀ w', Below wr.heap.size wr w' → w'.cell? ⟨wB.heap.size, 0, none⟩ = some (.int .i64 xk) ∧ w'.cell? ⟨wB.heap.size, 1, none⟩ = some (.int .i64 xp) ∧ w'.cell? ⟨wB.heap.size, 2, none⟩ = some (.int .i64 xs) ∧ w'.cell? ⟨wB.heap.size, 3, none⟩ = some (.int .i64 xn) ∧ w'.cell? ⟨wB.heap.size, 4, none⟩ = some (.int .i64 xf) ∧ w'.cell? ⟨wB.heap.size, 5, none⟩ = some (.int .i64 xt) ∧ w'.cell? ⟨wB.heap.size, 6, none⟩ = some (.slice da dn dc) ∧ w'.cell? ⟨wB.heap.size, 7, none⟩ = some (.slice ea em ec) ∧ w'.cell? ⟨w.heap.size, 0, none⟩ = some (.int .i64 pk) ∧ w'.cell? ⟨w.heap.size, 1, none⟩ = some (.int .i64 pp) ∧ w'.cell? ⟨w.heap.size, 2, none⟩ = some (.int .i64 ps) ∧ w'.cell? ⟨w.heap.size, 3, none⟩ = some (.int .i64 pn) ∧ w'.cell? ⟨w.heap.size, 4, none⟩ = some (.int .i64 pf) ∧ w'.cell? ⟨w.heap.size, 5, none⟩ = some (.int .i64 pt) ∧ w'.cell? ⟨w.heap.size, 6, none⟩ = some (.slice sa sn sc) ∧ w'.cell? ⟨w.heap.size, 7, none⟩ = some (.slice ia im ic)) := by
            intro w' hb
            have k := k3.stay hb
            have l := k1.stay hb
            exact ⟨k.cell 0 rfl, k.cell 1 rfl, k.cell 2 rfl, k.cell 3 rfl, k.cell 4 rfl, k.cell 5 rfl, k.cell 6 rfl, k.cell 7 rfl, l.cell 0 rfl, l.cell 1 rfl, l.cell 2 rfl, l.cell 3 rfl, l.cell 4 rfl, l.cell 5 rfl, l.cell 6 rfl, l.cell 7 rfl⟩
          have HCY : Hid (∀ w', Below wr.heap.size wr w' → Calls Try.prog 10 #[.agg #[.int .i64 xk, .int .i64 xp, .int .i64 xs, .int .i64 xn, .int .i64 xf, .int .i64 xt, .slice da dn dc, .slice ea em ec]] w' fun e w'' => e = .returned (.int .i64 D) ∧ Below w'.heap.size w' w'') := by
            intro w' hb
            have h := pc_Check ⟨xk, xp, xs, xn, xf, xt, xl, xi⟩ da dn dc ea em ec w' (HYR.out.below hb)
            rw [HDX.out] at h
            exact h
          have HBN : Hid (Below wr.heap.size wr wr.drew) := below_drew (Below.refl _ _)
          clear k1 k3 k4 k5 k6 HSj HKj HKs HKg HK HVN HUN HVS HUS HYM HEX HDX HBL HVA HUA HXQ HSZ HSZA HLM HPT HW0 HW2 HWC HB1 HB2 HBA HBwA HS0
          by_cases hC : C = 0
          · have hD : D = 0 := HCD.out hC
            subst hC hD
            go_wp2
            have HCC : Hid (∀ w', Below wr.heap.size wr w' → ∀ v, v = Value.agg #[.int .i64 pk, .int .i64 pp, .int .i64 ps, .int .i64 pn, .int .i64 pf, .int .i64 pt, .slice sa sn sc, .slice ia im ic] ∨ v = Value.agg #[.int .i64 xk, .int .i64 xp, .int .i64 xs, .int .i64 xn, .int .i64 xf, .int .i64 xt, .slice da dn dc, .slice ea em ec] → Calls Try.prog 10 #[v] w' fun e w'' => e = .returned (.int .i64 0) ∧ Below w'.heap.size w' w'') := by
              intro w' hb v hv
              rcases hv with rfl | rfl
              · exact HCK.out w' (HB.out.trans (hb.mono HB.out.size))
              · exact HCY.out w' hb
            go_region_held3 (fun w' => w'.cell? ⟨wB.heap.size, 0, none⟩ = some (.int .i64 xk) ∧ w'.cell? ⟨wB.heap.size, 1, none⟩ = some (.int .i64 xp) ∧ w'.cell? ⟨wB.heap.size, 2, none⟩ = some (.int .i64 xs) ∧ w'.cell? ⟨wB.heap.size, 3, none⟩ = some (.int .i64 xn) ∧ w'.cell? ⟨wB.heap.size, 4, none⟩ = some (.int .i64 xf) ∧ w'.cell? ⟨wB.heap.size, 5, none⟩ = some (.int .i64 xt) ∧ w'.cell? ⟨wB.heap.size, 6, none⟩ = some (.slice da dn dc) ∧ w'.cell? ⟨wB.heap.size, 7, none⟩ = some (.slice ea em ec) ∧ w'.cell? ⟨w.heap.size, 0, none⟩ = some (.int .i64 pk) ∧ w'.cell? ⟨w.heap.size, 1, none⟩ = some (.int .i64 pp) ∧ w'.cell? ⟨w.heap.size, 2, none⟩ = some (.int .i64 ps) ∧ w'.cell? ⟨w.heap.size, 3, none⟩ = some (.int .i64 pn) ∧ w'.cell? ⟨w.heap.size, 4, none⟩ = some (.int .i64 pf) ∧ w'.cell? ⟨w.heap.size, 5, none⟩ = some (.int .i64 pt) ∧ w'.cell? ⟨w.heap.size, 6, none⟩ = some (.slice sa sn sc) ∧ w'.cell? ⟨w.heap.size, 7, none⟩ = some (.slice ia im ic)) (first | with_reducible exact HSK.out _ HBN.out | with_reducible exact HSK.out _ (Below.refl _ _) | fail)
              (first
                | (go_at_call 9; refine (law_live13 _).mono ?_; rintro e w3 ⟨rfl, hb3⟩; have HB' : Hid (Below wr.heap.size wr w3) := HBN.out.trans (hb3.mono HBN.out.size); clear hb3 HBN; have HBN := HB'; clear HB')
                | (go_at_call 14; refine (HPP.out _ (HB.out.trans (HBN.out.mono HB.out.size))).mono ?_; rintro e w4 ⟨⟨ta, tn, tc, ja, jm, jc, rfl, HPL⟩, hb4⟩; have HB' : Hid (Below wr.heap.size wr w4) := HBN.out.trans (hb4.mono HBN.out.size); clear hb4 HBN; have HBN := HB'; clear HB')
                | (go_at_call 13; refine (ref_Same13 ⟨xk, xp, xs, xn, xf, xt, xl, xi⟩ da dn dc ea em ec _ _ _ _ _ _ _ (HYR.out.below HBN.out) HPL.out).mono ?_; rintro e w5 ⟨rfl, hb5⟩; have HB' : Hid (Below wr.heap.size wr w5) := HBN.out.trans (hb5.mono HBN.out.size); clear hb5 HBN HPL; have HBN := HB'; clear HB')
                | (go_at_call 10; refine (HCC.out _ HBN.out _ (by first | exact Or.inl rfl | exact Or.inr rfl)).mono ?_; rintro e w6 ⟨rfl, hb6⟩; have HB' : Hid (Below wr.heap.size wr w6) := HBN.out.trans (hb6.mono HBN.out.size); clear hb6 HBN; have HBN := HB'; clear HB'))
            all_goals (
              go_wp2
              go_ret
              exact ⟨by simp, HB.out.trans (HBN.out.mono HB.out.size)⟩ )
          · have hC1 : (C == 0) = false := by simpa using hC
            have hC2 : (C != 0) = true := by simpa using hC
            go_wp2
            obtain ⟨wd, HWD⟩ : ∃ wd, Hid (wd = wr.drew) := ⟨_, rfl⟩
            have HBd : Hid (Below wr.heap.size wr wd) := by rw [HWD.out]; exact HBN.out
            refine wp_region_held_drew (S := fun w' => w'.cell? ⟨wB.heap.size, 0, none⟩ = some (.int .i64 xk) ∧ w'.cell? ⟨wB.heap.size, 1, none⟩ = some (.int .i64 xp) ∧ w'.cell? ⟨wB.heap.size, 2, none⟩ = some (.int .i64 xs) ∧ w'.cell? ⟨wB.heap.size, 3, none⟩ = some (.int .i64 xn) ∧ w'.cell? ⟨wB.heap.size, 4, none⟩ = some (.int .i64 xf) ∧ w'.cell? ⟨wB.heap.size, 5, none⟩ = some (.int .i64 xt) ∧ w'.cell? ⟨wB.heap.size, 6, none⟩ = some (.slice da dn dc) ∧ w'.cell? ⟨wB.heap.size, 7, none⟩ = some (.slice ea em ec) ∧ w'.cell? ⟨w.heap.size, 0, none⟩ = some (.int .i64 pk) ∧ w'.cell? ⟨w.heap.size, 1, none⟩ = some (.int .i64 pp) ∧ w'.cell? ⟨w.heap.size, 2, none⟩ = some (.int .i64 ps) ∧ w'.cell? ⟨w.heap.size, 3, none⟩ = some (.int .i64 pn) ∧ w'.cell? ⟨w.heap.size, 4, none⟩ = some (.int .i64 pf) ∧ w'.cell? ⟨w.heap.size, 5, none⟩ = some (.int .i64 pt) ∧ w'.cell? ⟨w.heap.size, 6, none⟩ = some (.slice sa sn sc) ∧ w'.cell? ⟨w.heap.size, 7, none⟩ = some (.slice ia im ic)) (by kernel_rfl) (HSK.out _ HBN.out) (fun hHeld => ?_)
            clear hHeld
            rw [← HWD.out]
            refine wpAnyH_ready (rs := [0]) (by kernel_rfl) (by simp) ?_
            refine AllReadyH.cons rfl (fun K hK => ?_) AllReadyH.nil
            go_simp
            refine (law_live13 _).mono ?_
            rintro e w3 ⟨rfl, hb3⟩
            have HB3 : Hid (Below wr.heap.size wr w3) := HBd.out.trans (hb3.mono HBd.out.size)
            clear hb3
            refine hK.out _ _ (HSK.out _ HB3.out) (fun _ => ?_)
            clear hK K
            try simp only [Act.put, List.getElem_toArray, List.getElem_cons_succ, List.getElem_cons_zero, List.setIfInBounds_toArray, List.set_cons_zero, List.set_cons_succ]
            refine take_putH (i := 1) (v := ?_) (some 71) rfl (by kernel_rfl) (by kernel_rfl) (by kernel_rfl) (by kernel_rfl) (fun _ _ _ h => h) (Or.inl ⟨by rfl, ?_⟩) (HSK.out _ HB3.out) ?_
            rotate_left
            · (intro w hSw; obtain ⟨z0, z1, z2, z3, z4, z5, z6, z7, z8, z9, z10, z11, z12, z13, z14, z15⟩ := hSw; go_simp; try with_reducible rfl)
            try simp only [Act.put, List.setIfInBounds_toArray, List.set_cons_zero, List.set_cons_succ]
            refine take_putH (i := 2) (v := ?_) (some 72) rfl (by kernel_rfl) (by kernel_rfl) (by kernel_rfl) (by kernel_rfl) (fun _ _ _ h => h) (Or.inl ⟨by rfl, ?_⟩) (HSK.out _ HB3.out) ?_
            rotate_left
            · (intro w hSw; obtain ⟨z0, z1, z2, z3, z4, z5, z6, z7, z8, z9, z10, z11, z12, z13, z14, z15⟩ := hSw; go_simp; try with_reducible rfl)
            try simp only [Act.put, List.setIfInBounds_toArray, List.set_cons_zero, List.set_cons_succ]
            refine take_putH (i := 3) (v := ?_) (some 73) rfl (by kernel_rfl) (by kernel_rfl) (by kernel_rfl) (by kernel_rfl) (fun _ _ _ h => h) (Or.inl ⟨by rfl, ?_⟩) (HSK.out _ HB3.out) ?_
            rotate_left
            · (intro w hSw; obtain ⟨z0, z1, z2, z3, z4, z5, z6, z7, z8, z9, z10, z11, z12, z13, z14, z15⟩ := hSw; go_simp; try with_reducible rfl)
            try simp only [Act.put, List.setIfInBounds_toArray, List.set_cons_zero, List.set_cons_succ]
            refine wpAnyH_ready (rs := [4]) (by kernel_rfl) (by simp) ?_
            refine AllReadyH.cons rfl (fun K hK => ?_) AllReadyH.nil
            go_simp
            refine (HPP.out _ (HB.out.trans (HB3.out.mono HB.out.size))).mono ?_
            rintro e w4 ⟨⟨ta, tn, tc, ja, jm, jc, rfl, HPL⟩, hb4⟩
            have HB4 : Hid (Below wr.heap.size wr w4) := HB3.out.trans (hb4.mono HB3.out.size)
            clear hb4
            refine hK.out _ _ (HSK.out _ HB4.out) (fun _ => ?_)
            clear hK K
            try simp only [Act.put, List.getElem_toArray, List.getElem_cons_succ, List.getElem_cons_zero, List.setIfInBounds_toArray, List.set_cons_zero, List.set_cons_succ]
            refine wpAnyH_ready (rs := [5]) (by kernel_rfl) (by simp) ?_
            refine AllReadyH.cons rfl (fun K hK => ?_) AllReadyH.nil
            go_simp
            refine (ref_Same13 ⟨xk, xp, xs, xn, xf, xt, xl, xi⟩ da dn dc ea em ec ta tn tc ja jm jc _ (HYR.out.below HB4.out) HPL.out).mono ?_
            rintro e w5 ⟨rfl, hb5⟩
            have HB5 : Hid (Below wr.heap.size wr w5) := HB4.out.trans (hb5.mono HB4.out.size)
            clear hb5
            refine hK.out _ _ (HSK.out _ HB5.out) (fun _ => ?_)
            clear hK K
            try simp only [Act.put, List.getElem_toArray, List.getElem_cons_succ, List.getElem_cons_zero, List.setIfInBounds_toArray, List.set_cons_zero, List.set_cons_succ]
            refine take_putH (i := 6) (v := ?_) (some 76) rfl (by kernel_rfl) (by kernel_rfl) (by kernel_rfl) (by kernel_rfl) (fun _ _ _ h => h) (Or.inl ⟨by rfl, ?_⟩) (HSK.out _ HB5.out) ?_
            rotate_left
            · (intro w hSw; obtain ⟨z0, z1, z2, z3, z4, z5, z6, z7, z8, z9, z10, z11, z12, z13, z14, z15⟩ := hSw; go_simp; try with_reducible rfl)
            try simp only [Act.put, List.setIfInBounds_toArray, List.set_cons_zero, List.set_cons_succ]
            refine take_putH (i := 7) (v := ?_) (some 77) rfl (by kernel_rfl) (by kernel_rfl) (by kernel_rfl) (by kernel_rfl) (fun _ _ _ h => h) (Or.inl ⟨by rfl, ?_⟩) (HSK.out _ HB5.out) ?_
            rotate_left
            · (intro w hSw; obtain ⟨z0, z1, z2, z3, z4, z5, z6, z7, z8, z9, z10, z11, z12, z13, z14, z15⟩ := hSw; go_simp; try with_reducible rfl)
            try simp only [Act.put, List.setIfInBounds_toArray, List.set_cons_zero, List.set_cons_succ]
            refine take_putH (i := 8) (v := ?_) (some 78) rfl (by kernel_rfl) (by kernel_rfl) (by kernel_rfl) (by kernel_rfl) (fun _ _ _ h => h) (Or.inl ⟨by rfl, ?_⟩) (HSK.out _ HB5.out) ?_
            rotate_left
            · (intro w hSw; obtain ⟨z0, z1, z2, z3, z4, z5, z6, z7, z8, z9, z10, z11, z12, z13, z14, z15⟩ := hSw; go_simp; try with_reducible rfl)
            try simp only [Act.put, List.setIfInBounds_toArray, List.set_cons_zero, List.set_cons_succ]
            refine wpAnyH_ready (rs := [9]) (by kernel_rfl) (by simp) ?_
            refine AllReadyH.cons rfl (fun K hK => ?_) AllReadyH.nil
            go_simp
            refine (HCK.out _ (HB.out.trans (HB5.out.mono HB.out.size))).mono ?_
            rintro e w6 ⟨rfl, hb6⟩
            have HB6 : Hid (Below wr.heap.size wr w6) := HB5.out.trans (hb6.mono HB5.out.size)
            clear hb6
            refine hK.out _ _ (HSK.out _ HB6.out) (fun _ => ?_)
            clear hK K
            try simp only [Act.put, List.getElem_toArray, List.getElem_cons_succ, List.getElem_cons_zero, List.setIfInBounds_toArray, List.set_cons_zero, List.set_cons_succ]
            refine take_putH (i := 10) (v := ?_) (some 80) rfl (by kernel_rfl) (by kernel_rfl) (by kernel_rfl) (by kernel_rfl) (fun _ _ _ h => h) (Or.inl ⟨by rfl, ?_⟩) (HSK.out _ HB6.out) ?_
            rotate_left
            · (intro w hSw; obtain ⟨z0, z1, z2, z3, z4, z5, z6, z7, z8, z9, z10, z11, z12, z13, z14, z15⟩ := hSw; go_simp; try with_reducible rfl)
            try simp only [Act.put, List.setIfInBounds_toArray, List.set_cons_zero, List.set_cons_succ]
            refine take_putH (i := 11) (v := ?_) (some 81) rfl (by kernel_rfl) (by kernel_rfl) (by kernel_rfl) (by kernel_rfl) (fun _ _ _ h => h) (Or.inl ⟨by rfl, ?_⟩) (HSK.out _ HB6.out) ?_
            rotate_left
            · (intro w hSw; obtain ⟨z0, z1, z2, z3, z4, z5, z6, z7, z8, z9, z10, z11, z12, z13, z14, z15⟩ := hSw; go_simp; try with_reducible rfl)
            try simp only [Act.put, List.setIfInBounds_toArray, List.set_cons_zero, List.set_cons_succ]
            refine take_putH (i := 12) (v := undef) (some 82) rfl (by kernel_rfl) (by kernel_rfl) (by kernel_rfl) (by kernel_rfl) (fun _ _ _ h => h) (Or.inr ⟨by rfl, rfl⟩) (HSK.out _ HB6.out) ?_
            try simp only [Act.put, List.setIfInBounds_toArray, List.set_cons_zero, List.set_cons_succ]
            refine take_putH (i := 13) (v := undef) (some 83) rfl (by kernel_rfl) (by kernel_rfl) (by kernel_rfl) (by kernel_rfl) (fun _ _ _ h => h) (Or.inr ⟨by rfl, rfl⟩) (HSK.out _ HB6.out) ?_
            try simp only [Act.put, List.setIfInBounds_toArray, List.set_cons_zero, List.set_cons_succ]
            refine take_putH (i := 14) (v := undef) (some 84) rfl (by kernel_rfl) (by kernel_rfl) (by kernel_rfl) (by kernel_rfl) (fun _ _ _ h => h) (Or.inr ⟨by rfl, rfl⟩) (HSK.out _ HB6.out) ?_
            try simp only [Act.put, List.setIfInBounds_toArray, List.set_cons_zero, List.set_cons_succ]
            refine take_putH (i := 15) (v := ?_) (some 85) rfl (by kernel_rfl) (by kernel_rfl) (by kernel_rfl) (by kernel_rfl) (fun _ _ _ h => h) (Or.inl ⟨by rfl, ?_⟩) (HSK.out _ HB6.out) ?_
            rotate_left
            · (intro w hSw; obtain ⟨z0, z1, z2, z3, z4, z5, z6, z7, z8, z9, z10, z11, z12, z13, z14, z15⟩ := hSw; go_simp; try with_reducible rfl)
            try simp only [Act.put, List.setIfInBounds_toArray, List.set_cons_zero, List.set_cons_succ]
            refine take_putH (i := 16) (v := ?_) (some 86) rfl (by kernel_rfl) (by kernel_rfl) (by kernel_rfl) (by kernel_rfl) (fun _ _ _ h => h) (Or.inl ⟨by rfl, ?_⟩) (HSK.out _ HB6.out) ?_
            rotate_left
            · (intro w hSw; obtain ⟨z0, z1, z2, z3, z4, z5, z6, z7, z8, z9, z10, z11, z12, z13, z14, z15⟩ := hSw; go_simp; try with_reducible rfl)
            try simp only [Act.put, List.setIfInBounds_toArray, List.set_cons_zero, List.set_cons_succ]
            refine take_putH (i := 17) (v := ?_) (some 2) rfl (by kernel_rfl) (by kernel_rfl) (by kernel_rfl) (by kernel_rfl) (fun _ _ _ h => h) (Or.inl ⟨by rfl, ?_⟩) (HSK.out _ HB6.out) ?_
            rotate_left
            · (intro w hSw; obtain ⟨z0, z1, z2, z3, z4, z5, z6, z7, z8, z9, z10, z11, z12, z13, z14, z15⟩ := hSw; go_simp; try with_reducible rfl)
            try simp only [Act.put, List.setIfInBounds_toArray, List.set_cons_zero, List.set_cons_succ]
            refine wpAnyH_done (by kernel_rfl) ?_ _
            go_wp2
            go_ret
            exact ⟨by simp, HB.out.trans (HB6.out.mono HB.out.size)⟩

set_option maxRecDepth 100000 in
theorem contract (H : Type) (enc : TypeId × Value → H) (W : World) (base : Nat) (args : Array Value) (ds gs : List (DataW H)) (before : List MemPlace)
    (hval : ∀ (j : Nat) t v, Try.f4.params[j]? = some t → args[j]? = some v → Value.okWide Try.prog W .any base t v)
    (hW : DataW.Whole enc Try.prog Try.f4.params.toList Rows.parcelPlainSpec.vars false W args.toList ds gs before) (hsz0 : (DataW.weightsEach Try.prog (Try.f4.params.toList ++ Rows.parcelPlainSpec.plain.varTypes Try.prog) (ds ++ gs)).all (· ≤ reachBytes) = true) :
    Calls Try.prog 4 args W fun e W' => ∃ v, e = .returned v ∧ Rows.parcelPlainSpec.post enc Try.prog Try.f4 false true false false W args v W' := by
  have hW' := hW
  obtain ⟨p, q, hA0, hV, rfl, hfz, hnd⟩ := hW
  have hA : DataW.TrodAll enc Try.prog W 0 (fun _ => true) true Try.f4.params.toList args.toList ds p := hA0
  have hK := hA
  have hsz := hsz0
  rw [Try.params4] at hA hval hsz
  obtain ⟨v0, vs0, d0, ds0, p0, q0, hargs, rfl, rfl, h0, r0⟩ := trodAll_cons hA
  obtain ⟨rfl, rfl, rfl⟩ := trodAll_nil r0
  obtain rfl : args = #[v0] := by cases args; simp_all
  obtain ⟨rfl, rfl⟩ := trodVars_none hV
  have hw0 : ∀ y ∈ DataW.weights Try.prog 26 d0, y ≤ reachBytes := fun y hy => by have := List.all_eq_true.1 hsz _ (DataW.weights_mem_each (j := 0) rfl rfl y hy); simpa using this
  obtain ⟨q0, sa0, sn0, sc0, ia0, im0, ic0, rfl, pr0, pb0⟩ := open_parcel (hval 0 26 v0 rfl rfl) h0 hw0
  refine (walk q0 sa0 sn0 sc0 ia0 im0 ic0 W pr0 pb0).mono fun e W' ⟨he, bel⟩ => ?_
  subst he
  exact ⟨_, rfl, _, _, _, [], _, [], hW', trodAll_mk1 (shut_bool Try.underlying4 _), trodAll_below laidOut bel _ _ _ _ (by kernel_rfl) hK, rfl, bel.frame _, fun h => by cases h⟩

set_option maxRecDepth 100000 in
theorem lifted (os : Os) (started : os.Started) (H : Type) (enc : TypeId × Value → H) :
    ReturnsInHanded {} Try.checked os 4 .any (Rows.parcelPlainSpec.pre6 enc Try.prog Try.f4 Rows.parcelPlainRow.domain false) (Rows.parcelPlainSpec.post enc Try.prog Try.f4 false true false false) := by
  refine returnsInHanded_of_change_sized (C := Try.checked) own started (by kernel_rfl) Try.func4
    (ChangeSpec.witness6 (enc := enc) (C := Try.checked) false ⟨#[], #[.agg #[.int .i64 0, .int .i64 0, .int .i64 0, .int .i64 0, .int .i64 0, .int .i64 0, .slice none 0 0, .slice none 0 0]], []⟩ 8 (by kernel_rfl) (by kernel_rfl) (by kernel_rfl) (by kernel_rfl)) ?_
  intro W base args ds gs before hval hW _ hsz _
  exact contract H enc W base args ds gs before hval hW hsz

theorem said : Rows.ParcelPlainSaid :=
  OpenClaim.holds_of_wide 4 Try.f4 rfl rfl rfl rfl rfl rfl rfl ⟨rfl, rfl, rfl, rfl, rfl⟩ rfl rfl rfl rfl rfl (by kernel_rfl) Try.func4 (by kernel_rfl)
    (of_decide_eq_true (by kernel_rfl)) (by unfold Func.isWrapper; first | (rw [if_pos (by decide +kernel)]; kernel_rfl) | (rw [if_neg (by decide +kernel)]; exact ⟨rfl, rfl⟩))
    (fun os started H enc _ => lifted os started H enc)
end parcelPlain

theorem parcelPlain_holds : Rows.ParcelPlainSaid := parcelPlain.said
end Go.Proofs.Ytjpkhefegpbooaa

