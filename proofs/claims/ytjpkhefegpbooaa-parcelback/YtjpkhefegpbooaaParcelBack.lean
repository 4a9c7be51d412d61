/- Proved: for every parcel grapevinelaw13.ParcelBack answers true and leaves its argument as it was. No condition. -/
import Derived.Test.YtjpkhefegpbooaaPlT
import Derived.Test.YtjpkhefegpbooaaPlU
import Derived.Test.YtjpkhefegpbooaaPtL
import Derived.Test.YtjpkhefegpbooaaPt8
import Derived.Test.YtjpkhefegpbooaaPcSame
import Derived.Test.YtjpkhefegpbooaaPcLive
import Derived.Test.YtjpkhefegpbooaaStore
import Derived.Laws.BitsAllLaws
import Derived.Deep.RegionHeld3
namespace Go.Proofs.Ytjpkhefegpbooaa
open Go.ChangeShapes Go.WideShapes Go.ChangeAt Go.RowKit
namespace parcelBack

theorem itE_fit {p : Pc} : ∀ (l : List It) (least : Int), itE p least l = 0 → ∀ q ∈ l, least ≤ q.tick ∧ q.tick ≤ p.to_ ∧ q.body.length ≤ 400
  | [], _, _, q, hq => by cases hq
  | x :: l, least, h, q, hq => by
    by_cases h1 : x.tick < least ∨ p.to_ < x.tick ∨ atS p.spans x.tick ≠ 0
    · rw [itE_tick h1] at h; cases h
    · by_cases h2 : 400 < x.body.length
      · rw [itE_long h1 h2] at h; cases h
      · rw [itE_next h1 h2] at h
        rcases List.mem_cons.1 hq with rfl | hq
        · omega
        · have h3 := itE_fit l _ h q hq
          omega
theorem chk_fit {p : Pc} (h : chk p = 0) (he : ∀ q ∈ p.items, ((-9223372036854775808 : Int) ≤ q.tick ∧ q.tick ≤ 9223372036854775807) ∧ (0 ≤ q.for_ ∧ q.for_ ≤ 4294967295)) : newsB p.kind = true → ∀ q ∈ p.items, ItFit q := by
  intro hn q hq
  obtain ⟨h1, h2, h3⟩ := chk_zero h
  obtain ⟨_, _, h4⟩ := h3 hn
  have hk : p.kind = 1 := by simpa [newsB] using hn
  have hr : rngB p = true := num_to (p := p) (su := subB p.kind) (fr := fromB p.kind) (by rw [show toB p.kind = true from by rw [hk]; rfl] at h2; exact h2)
  simp only [rngB, decide_eq_true_eq] at hr
  obtain ⟨a, b, c⟩ := itE_fit _ _ h4 q hq
  exact ⟨⟨by omega, by omega⟩, (he q hq).2, c⟩

set_option maxRecDepth 100000 in
set_option maxHeartbeats 4000000 in
theorem walk (p : Pc) (sa : Option Addr) (sn sc : Nat) (ia : Option Addr) (im ic : Nat) (w : World) (hp : PcRd w p sa sn sc ia im ic) (hbg : PcBig p sa sc ia ic) :
    Calls Try.prog 7 #[p.val sa sn sc ia im ic] w fun e w' => e = .returned (.bool true) ∧ Below w.heap.size w w' := by
  obtain ⟨p0, HP0⟩ : ∃ p0, Hid (p0 = p) := ⟨_, rfl⟩
  have HV : Hid (p0.val sa sn sc ia im ic = p.val sa sn sc ia im ic) := by show _ = _; rw [HP0.out]
  have HP : Hid (PcRd w p0 sa sn sc ia im ic) := by rw [HP0.out]; exact hp
  have HBG : Hid (PcBig p0 sa sc ia ic) := by rw [HP0.out]; exact hbg
  clear hp hbg
  obtain ⟨pk, pp, ps, pn, pf, pt, pl, pi⟩ := p
  obtain ⟨C, HCE⟩ : ∃ C, Hid (C = chk p0) := ⟨_, rfl⟩
  obtain ⟨T, HTE⟩ : ∃ T, Hid (T = putD p0) := ⟨_, rfl⟩
  obtain ⟨W0, HW0⟩ : ∃ W0, Hid (W0 = w.alloc (.cells #[.int .i64 pk, .int .i64 pp, .int .i64 ps, .int .i64 pn, .int .i64 pf, .int .i64 pt, .slice sa sn sc, .slice ia im ic] 26)) := ⟨_, rfl⟩
  have HB0 : Hid (Below w.heap.size w W0) := by rw [HW0.out]; exact below_new _ _
  have HK0 : Hid (Bk W0 w.heap.size #[.int .i64 pk, .int .i64 pp, .int .i64 ps, .int .i64 pn, .int .i64 pf, .int .i64 pt, .slice sa sn sc, .slice ia im ic] 26) := by rw [HW0.out]; exact Bk.new _ _ _
  have HS0 : Hid (W0.heap.size = w.heap.size + 1) := by show _ = _; rw [HW0.out]; simp
  have hcp := pc_Put p0 sa sn sc ia im ic W0 (HP.out.below HB0.out)
  unfold PutTold at hcp
  rw [HV.out, ← HCE.out, ← HTE.out] at hcp
  have HCP : Hid (Calls Try.prog 15 #[Pc.val ⟨pk, pp, ps, pn, pf, pt, pl, pi⟩ sa sn sc ia im ic] W0 fun e w' => (∃ b m c, e = .returned (.tuple #[.slice b m c, .int .i64 C]) ∧ Own w' W0.heap.size b m c T) ∧ Below W0.heap.size W0 w') := hcp
  clear hcp
  unfold Pc.val
  simp only
  go_enter Try.func7, Try.ntmps7
  go_wp2_with fail
  rw [← HW0.out]
  refine HCP.out.mono ?_
  rintro e w1 ⟨⟨b1, m1, c1, he1, ho1⟩, hb1⟩
  subst he1
  have HB1 : Hid (Below w.heap.size w w1) := HB0.out.trans (hb1.mono HB0.out.size)
  have HK1 : Hid (Bk w1 w.heap.size #[.int .i64 pk, .int .i64 pp, .int .i64 ps, .int .i64 pn, .int .i64 pf, .int .i64 pt, .slice sa sn sc, .slice ia im ic] 26) := HK0.out.stay hb1
  have HO1 : Hid (Own w1 W0.heap.size b1 m1 c1 T) := ho1
  clear ho1 HCP
  by_cases hC : C = 0
  · subst hC
    have hZ : chk p0 = 0 := HCE.out.symm
    have HFI : Hid (newsB p0.kind = true → ∀ q ∈ p0.items, ItFit q) := chk_fit hZ HP.out.items.each
    have hTP : putD p0 = putP p0 := by rw [putD, if_pos hZ]
    have HLN : Hid (m1 ≤ 4096) := by
      have h1 := putP_len hZ HFI.out
      rw [← hTP, ← HTE.out, HO1.out.size] at h1
      exact h1
    have hm1 : m1 ≤ 4096 := HLN.out
    have hm2 : (m1 : Int) ≤ 4096 := by omega
    have HKI : Hid (isB p0.kind = true) := (chk_zero hZ).1
    obtain ⟨X, HX⟩ : ∃ X, Hid (X = plainP p0) := ⟨_, rfl⟩
    have hct := pc_Take b1 m1 c1 T w1 HO1.out.rd HO1.out.cap_le.1 (by omega)
    rw [HTE.out, takeP_put hZ HFI.out, ← HX.out] at hct
    have HCT : Hid (Calls Try.prog 17 #[.slice b1 m1 c1] w1 fun e w' => Hid (TakeP13 w1 w' (X, 0) e) ∧ Below w1.heap.size w1 w') := hct
    have HEX : Hid (∀ q ∈ X.items, ((-9223372036854775808 : Int) ≤ q.tick ∧ q.tick ≤ 9223372036854775807) ∧ (0 ≤ q.for_ ∧ q.for_ ≤ 4294967295)) := by
      intro q hq
      rw [HX.out, ← plainQ_is HKI.out] at hq
      exact HP.out.items.each q (plainQ_items hq)
    have HXQ : Hid (plainQ p0 = X) := by show _ = _; rw [HX.out]; exact plainQ_is HKI.out
    clear hct hTP hZ HX
    obtain ⟨xk, xp, xs, xn, xf, xt, xl, xi⟩ := X
    go_wp2_with fail
    refine HCT.out.mono ?_
    rintro e w2 ⟨ht, hb2⟩
    obtain ⟨ua, un, uc, va, vm, vc, L, he, hs2, hi2, hm⟩ := ht.out
    simp only at he hs2 hm
    subst he
    have HB12 : Hid (Below w1.heap.size w1 w2) := hb2
    have HS2 : Hid (Sps w2 w1.heap.size (.slice ua un uc) xl) := hs2
    have HI2 : Hid (Its w2 w1.heap.size (.slice va vm vc) L) := hi2
    have HLM : Hid (L.map Prod.fst = xi) := hm
    clear ht hb2 hs2 hi2 hm HCT
    unfold Pc.val
    simp only
    obtain ⟨w3, HW3⟩ : ∃ w3, Hid (w3 = w2.alloc (.cells #[.int .i64 xk, .int .i64 xp, .int .i64 xs, .int .i64 xn, .int .i64 xf, .int .i64 xt, .slice ua un uc, .slice va vm vc] 26)) := ⟨_, rfl⟩
    have hb3 : Below w2.heap.size w2 w3 := by rw [HW3.out]; exact below_new _ _
    have HX3 : Hid (Bk w3 w2.heap.size #[.int .i64 xk, .int .i64 xp, .int .i64 xs, .int .i64 xn, .int .i64 xf, .int .i64 xt, .slice ua un uc, .slice va vm vc] 26) := by rw [HW3.out]; exact Bk.new _ _ _
    have HS3 : Hid (Sps w3 w1.heap.size (.slice ua un uc) xl) := HS2.out.below hb3
    have HI3 : Hid (Its w3 w1.heap.size (.slice va vm vc) L) := HI2.out.below hb3
    have HO3 : Hid (Own w3 W0.heap.size b1 m1 c1 T) := (HO1.out.below HB12.out).below hb3
    have HK3 : Hid (Bk w3 w.heap.size #[.int .i64 pk, .int .i64 pp, .int .i64 ps, .int .i64 pn, .int .i64 pf, .int .i64 pt, .slice sa sn sc, .slice ia im ic] 26) := (HK1.out.stay HB12.out).stay hb3
    have HB3 : Hid (Below w.heap.size w w3) := (HB1.out.trans (HB12.out.mono HB1.out.size)).trans (hb3.mono (Nat.le_trans HB1.out.size HB12.out.size))
    have HSZ : Hid (w.heap.size < W0.heap.size ∧ W0.heap.size ≤ w1.heap.size ∧ w1.heap.size ≤ w2.heap.size) := ⟨by rw [HS0.out]; omega, hb1.size, HB12.out.size⟩
    clear hb1 hb3 HS2 HI2 HK1 HB1 HK0
    go_wp2
    rw [← HW3.out]
    go_loopw [7] (fun t7 wr => ∃ (i : Nat) (B : List Nat), i ≤ m1 ∧ t7 = .int .i64 (i : Int) ∧ Hid (Own wr W0.heap.size b1 m1 c1 B) ∧ Hid (Sps wr w1.heap.size (.slice ua un uc) xl) ∧ Hid (Its wr w1.heap.size (.slice va vm vc) L) ∧ Hid (Bk wr w2.heap.size #[.int .i64 xk, .int .i64 xp, .int .i64 xs, .int .i64 xn, .int .i64 xf, .int .i64 xt, .slice ua un uc, .slice va vm vc] 26) ∧ Hid (Bk wr w.heap.size #[.int .i64 pk, .int .i64 pp, .int .i64 ps, .int .i64 pn, .int .i64 pf, .int .i64 pt, .slice sa sn sc, .slice ia im ic] 26) ∧ Hid (Below w.heap.size w wr)) (fun t7 _ => m1 - (intOf t7).toNat)
    case atStart => exact ⟨0, T, by omega, rfl, HO3, HS3, HI3, HX3, HK3, HB3⟩
    case round =>
      obtain ⟨i, B, hi, rfl, HO, HS, HI, HXr, HKr, HB⟩ := hrel
      clear HO3 HS3 HI3 HX3 HK3 HB3
      by_cases hlt : i < m1
      · have hlt' : (i : Int) < (m1 : Int) := by omega
        have h0i : (0 : Int) ≤ (i : Int) := by omega
        obtain ⟨g, hg, hgb, hgs⟩ := HO1.out.form (by omega)
        subst hg
        have HG : Hid (W0.heap.size ≤ g ∧ g < w1.heap.size) := ⟨hgb, hgs⟩
        obtain ⟨c, HC⟩ : ∃ c, Hid (c = B.getD i 0) := ⟨_, rfl⟩
        have hcx : wr.cell? ⟨g, i, none⟩ = some (.int .u8 (c : Int)) := by rw [HC.out]; exact HO.out.cell i hlt
        have hfr : wr.frozen? ⟨g, i, none⟩ = false := HO.out.free _
        have hc : c < 256 := by rw [HC.out]; exact getD_lt HO.out.byte _
        obtain ⟨z, HZ⟩ : ∃ z, Hid (z = c ^^^ 7) := ⟨_, rfl⟩
        have ez : bits BinOp.xor IntKind.u8 (c : Int) 7 = (z : Int) := by rw [HZ.out]; exact u8_xor_nat c 7 hc (by omega)
        have hz8 : z < 256 := by rw [HZ.out]; exact Nat.xor_lt_two_pow (n := 8) hc (by omega)
        have HO' : Hid (Own (wr.setCell ⟨g, i, none⟩ (.int .u8 (z : Int))) W0.heap.size (some ⟨g, 0, none⟩) m1 c1 (B.set i z)) := HO.out.set i z hz8
        have HS' : Hid (Sps (wr.setCell ⟨g, i, none⟩ (.int .u8 (z : Int))) w1.heap.size (.slice ua un uc) xl) := HS.out.under _ _ HG.out.2
        have HI' : Hid (Its (wr.setCell ⟨g, i, none⟩ (.int .u8 (z : Int))) w1.heap.size (.slice va vm vc) L) := HI.out.under _ _ HG.out.2
        have HX' : Hid (Bk (wr.setCell ⟨g, i, none⟩ (.int .u8 (z : Int))) w2.heap.size #[.int .i64 xk, .int .i64 xp, .int .i64 xs, .int .i64 xn, .int .i64 xf, .int .i64 xt, .slice ua un uc, .slice va vm vc] 26) := HXr.out.other _ _ (by have h1 := HG.out; have h2 := HSZ.out; show w2.heap.size ≠ g; omega)
        have HK' : Hid (Bk (wr.setCell ⟨g, i, none⟩ (.int .u8 (z : Int))) w.heap.size #[.int .i64 pk, .int .i64 pp, .int .i64 ps, .int .i64 pn, .int .i64 pf, .int .i64 pt, .slice sa sn sc, .slice ia im ic] 26) := HKr.out.other _ _ (by have h1 := HG.out; have h2 := HSZ.out; show w.heap.size ≠ g; omega)
        have HB' : Hid (Below w.heap.size w (wr.setCell ⟨g, i, none⟩ (.int .u8 (z : Int)))) := HB.out.setCell (by have h1 := HG.out; have h2 := HSZ.out; show _ ≤ g; omega) _
        clear hgb hgs
        go_wp2
        go_roundw
        case rel => exact ⟨i + 1, B.set i z, by omega, by go_num, HO', HS', HI', HX', HK', HB'⟩
        case measure => simp [intOf]; omega
      · have hnl : ¬ (i : Int) < (m1 : Int) := by omega
        have HXR : Hid (PcRd wr ⟨xk, xp, xs, xn, xf, xt, xl, xi⟩ ua un uc va vm vc) := by
          have hir := HI.out.rd (fun q hq => HEX.out q (by show q ∈ xi; rw [← HLM.out]; exact hq))
          rw [HLM.out] at hir
          refine ⟨HS.out.rd, hir, ?_, ?_, ?_, ?_⟩
          · rcases HS.out.row.2 with ⟨g1, g2⟩ | ⟨g', c', cur, g1, _, _, g4, g5, _⟩ <;> (simp only [Value.slice.injEq] at g1; omega)
          · rcases HS.out.row.2 with ⟨g1, g2⟩ | ⟨g', c', cur, g1, _, _, g4, g5, _⟩ <;> (simp only [Value.slice.injEq] at g1; omega)
          · obtain ⟨ia', ic', e2, e3, e4⟩ := HI.out.form
            simp only [Value.slice.injEq] at e2
            omega
          · obtain ⟨ia', ic', e2, e3, e4⟩ := HI.out.form
            simp only [Value.slice.injEq] at e2
            omega
        have HSK : Hid (∀ w', Below wr.heap.size wr w' → w'.cell? ⟨w2.heap.size, 0, none⟩ = some (.int .i64 xk) ∧ w'.cell? ⟨w2.heap.size, 1, none⟩ = some (.int .i64 xp) ∧ w'.cell? ⟨w2.heap.size, 2, none⟩ = some (.int .i64 xs) ∧ w'.cell? ⟨w2.heap.size, 3, none⟩ = some (.int .i64 xn) ∧ w'.cell? ⟨w2.heap.size, 4, none⟩ = some (.int .i64 xf) ∧ w'.cell? ⟨w2.heap.size, 5, none⟩ = some (.int .i64 xt) ∧ w'.cell? ⟨w2.heap.size, 6, none⟩ = some (.slice ua un uc) ∧ w'.cell? ⟨w2.heap.size, 7, none⟩ = some (.slice va vm vc) ∧ w'.cell? ⟨w.heap.size, 0, none⟩ = some (.int .i64 pk) ∧ w'.cell? ⟨w.heap.size, 1, none⟩ = some (.int .i64 pp) ∧ w'.cell? ⟨w.heap.size, 2, none⟩ = some (.int .i64 ps) ∧ w'.cell? ⟨w.heap.size, 3, none⟩ = some (.int .i64 pn) ∧ w'.cell? ⟨w.heap.size, 4, none⟩ = some (.int .i64 pf) ∧ w'.cell? ⟨w.heap.size, 5, none⟩ = some (.int .i64 pt) ∧ w'.cell? ⟨w.heap.size, 6, none⟩ = some (.slice sa sn sc) ∧ w'.cell? ⟨w.heap.size, 7, none⟩ = some (.slice ia im ic)) := by
          intro w' hb
          have k := HXr.out.stay hb
          have l := HKr.out.stay hb
          exact ⟨k.cell 0 rfl, k.cell 1 rfl, k.cell 2 rfl, k.cell 3 rfl, k.cell 4 rfl, k.cell 5 rfl, k.cell 6 rfl, k.cell 7 rfl, l.cell 0 rfl, l.cell 1 rfl, l.cell 2 rfl, l.cell 3 rfl, l.cell 4 rfl, l.cell 5 rfl, l.cell 6 rfl, l.cell 7 rfl⟩
        have HPP : Hid (∀ w', Below wr.heap.size wr w' → Calls Try.prog 14 #[.agg #[.int .i64 pk, .int .i64 pp, .int .i64 ps, .int .i64 pn, .int .i64 pf, .int .i64 pt, .slice sa sn sc, .slice ia im ic]] w' fun e w'' => (∃ ta tn tc ja jm jc, e = .returned (.agg #[.int .i64 xk, .int .i64 xp, .int .i64 xs, .int .i64 xn, .int .i64 xf, .int .i64 xt, .slice ta tn tc, .slice ja jm jc]) ∧ Hid (PcRd w'' ⟨xk, xp, xs, xn, xf, xt, xl, xi⟩ ta tn tc ja jm jc)) ∧ Below w'.heap.size w' w'') := by
          intro w' hb
          have h := ref_Plain13 p0 sa sn sc ia im ic w' (HP.out.below (HB.out.trans (hb.mono HB.out.size))) HBG.out
          rw [HV.out, HXQ.out] at h
          refine h.mono ?_
          rintro e w'' ⟨h1, h2⟩
          obtain ⟨ta, tn, tc, ja, jm, jc, h3, h4⟩ := h1.out.rd HEX.out
          exact ⟨⟨ta, tn, tc, ja, jm, jc, h3, h4⟩, h2⟩
        clear HP HBG HV HXQ HEX HLM HO HS HI HXr HKr HO1 HFI HKI HP0 HCE HTE HW0 HW3 HB12
        have HBN : Hid (Below wr.heap.size wr wr.drew) := below_drew (Below.refl _ _)
        go_wp2
        go_region_held3 (fun w' => w'.cell? ⟨w2.heap.size, 0, none⟩ = some (.int .i64 xk) ∧ w'.cell? ⟨w2.heap.size, 1, none⟩ = some (.int .i64 xp) ∧ w'.cell? ⟨w2.heap.size, 2, none⟩ = some (.int .i64 xs) ∧ w'.cell? ⟨w2.heap.size, 3, none⟩ = some (.int .i64 xn) ∧ w'.cell? ⟨w2.heap.size, 4, none⟩ = some (.int .i64 xf) ∧ w'.cell? ⟨w2.heap.size, 5, none⟩ = some (.int .i64 xt) ∧ w'.cell? ⟨w2.heap.size, 6, none⟩ = some (.slice ua un uc) ∧ w'.cell? ⟨w2.heap.size, 7, none⟩ = some (.slice va vm vc) ∧ w'.cell? ⟨w.heap.size, 0, none⟩ = some (.int .i64 pk) ∧ w'.cell? ⟨w.heap.size, 1, none⟩ = some (.int .i64 pp) ∧ w'.cell? ⟨w.heap.size, 2, none⟩ = some (.int .i64 ps) ∧ w'.cell? ⟨w.heap.size, 3, none⟩ = some (.int .i64 pn) ∧ w'.cell? ⟨w.heap.size, 4, none⟩ = some (.int .i64 pf) ∧ w'.cell? ⟨w.heap.size, 5, none⟩ = some (.int .i64 pt) ∧ w'.cell? ⟨w.heap.size, 6, none⟩ = some (.slice sa sn sc) ∧ w'.cell? ⟨w.heap.size, 7, none⟩ = some (.slice ia im ic)) (first | with_reducible exact HSK.out _ HBN.out | with_reducible exact HSK.out _ (Below.refl _ _) | fail)
          (first
            | (go_at_call 9; refine (law_live13 _).mono ?_; rintro e w6 ⟨rfl, hb6⟩; have HB' : Hid (Below wr.heap.size wr w6) := HBN.out.trans (hb6.mono HBN.out.size); clear hb6 HBN; have HBN := HB'; clear HB')
            | (go_at_call 14; refine (HPP.out _ HBN.out).mono ?_; rintro e w7 ⟨⟨ta, tn, tc, ja, jm, jc, rfl, HPL⟩, hb7⟩; have HB' : Hid (Below wr.heap.size wr w7) := HBN.out.trans (hb7.mono HBN.out.size); clear hb7 HBN; have HBN := HB'; clear HB')
            | (go_at_call 13; refine (ref_Same13 ⟨xk, xp, xs, xn, xf, xt, xl, xi⟩ ua un uc va vm vc ta tn tc ja jm jc _ (HXR.out.below HBN.out) HPL.out).mono ?_; rintro e w8 ⟨rfl, hb8⟩; have HB' : Hid (Below wr.heap.size wr w8) := HBN.out.trans (hb8.mono HBN.out.size); clear hb8 HBN; have HBN := HB'; clear HB'))
        all_goals (
          go_wp2
          go_ret
          exact ⟨by simp, HB.out.trans (HBN.out.mono HB.out.size)⟩ )
  · have hm0 : m1 = 0 := by
      have h1 := HO1.out.size
      rw [HTE.out, putD, if_neg (by rw [← HCE.out]; exact hC)] at h1
      exact h1.symm
    subst hm0
    have hC1 : (C == 0) = false := by simpa using hC
    have hC2 : (C != 0) = true := by simpa using hC
    have HCC : Hid (∀ w', Below w1.heap.size w1 w' → Calls Try.prog 10 #[.agg #[.int .i64 pk, .int .i64 pp, .int .i64 ps, .int .i64 pn, .int .i64 pf, .int .i64 pt, .slice sa sn sc, .slice ia im ic]] w' fun e w'' => e = .returned (.int .i64 C) ∧ Below w'.heap.size w' w'') := by
      intro w' hb
      have h := pc_Check p0 sa sn sc ia im ic w' ((HP.out.below HB1.out).below hb)
      rw [HV.out, ← HCE.out] at h
      exact h
    clear HP HBG HV HO1 HP0 HCE HTE HW0 hb1
    go_wp2_with fail
    refine (law_live13 _).mono ?_
    rintro e w2 ⟨rfl, hb2⟩
    have HB2 : Hid (Below w.heap.size w w2) := HB1.out.trans (hb2.mono HB1.out.size)
    have HB12 : Hid (Below w1.heap.size w1 w2) := hb2
    have k := HK1.out.stay hb2
    have d0 : w2.cell? ⟨w.heap.size, 0, none⟩ = some (.int .i64 pk) := k.cell 0 rfl
    have d1 : w2.cell? ⟨w.heap.size, 1, none⟩ = some (.int .i64 pp) := k.cell 1 rfl
    have d2 : w2.cell? ⟨w.heap.size, 2, none⟩ = some (.int .i64 ps) := k.cell 2 rfl
    have d3 : w2.cell? ⟨w.heap.size, 3, none⟩ = some (.int .i64 pn) := k.cell 3 rfl
    have d4 : w2.cell? ⟨w.heap.size, 4, none⟩ = some (.int .i64 pf) := k.cell 4 rfl
    have d5 : w2.cell? ⟨w.heap.size, 5, none⟩ = some (.int .i64 pt) := k.cell 5 rfl
    have d6 : w2.cell? ⟨w.heap.size, 6, none⟩ = some (.slice sa sn sc) := k.cell 6 rfl
    have d7 : w2.cell? ⟨w.heap.size, 7, none⟩ = some (.slice ia im ic) := k.cell 7 rfl
    clear hb2 k
    go_wp2_with fail
    refine (HCC.out _ HB12.out).mono ?_
    rintro e w3 ⟨rfl, hb3⟩
    have HB3 : Hid (Below w.heap.size w w3) := HB2.out.trans (hb3.mono HB2.out.size)
    clear hb3
    go_wp2
    go_ret
    exact ⟨by simp, HB3.out⟩

set_option maxRecDepth 100000 in
theorem contract (H : Type) (enc : TypeId × Value → H) (W : World) (base : Nat) (args : Array Value) (ds gs : List (DataW H)) (before : List MemPlace)
    (hval : ∀ (j : Nat) t v, Try.f7.params[j]? = some t → args[j]? = some v → Value.okWide Try.prog W .any base t v)
    (hW : DataW.Whole enc Try.prog Try.f7.params.toList Rows.parcelBackSpec.vars false W args.toList ds gs before) (hsz0 : (DataW.weightsEach Try.prog (Try.f7.params.toList ++ Rows.parcelBackSpec.plain.varTypes Try.prog) (ds ++ gs)).all (· ≤ reachBytes) = true) :
    Calls Try.prog 7 args W fun e W' => ∃ v, e = .returned v ∧ Rows.parcelBackSpec.post enc Try.prog Try.f7 false true false false W args v W' := by
  have hW' := hW
  obtain ⟨p, q, hA0, hV, rfl, hfz, hnd⟩ := hW
  have hA : DataW.TrodAll enc Try.prog W 0 (fun _ => true) true Try.f7.params.toList args.toList ds p := hA0
  have hK := hA
  have hsz := hsz0
  rw [Try.params7] at hA hval hsz
  obtain ⟨v0, vs0, d0, ds0, p0, q0, hargs, rfl, rfl, h0, r0⟩ := trodAll_cons hA
  obtain ⟨rfl, rfl, rfl⟩ := trodAll_nil r0
  obtain rfl : args = #[v0] := by cases args; simp_all
  obtain ⟨rfl, rfl⟩ := trodVars_none hV
  have hw0 : ∀ y ∈ DataW.weights Try.prog 26 d0, y ≤ reachBytes := fun y hy => by have := List.all_eq_true.1 hsz _ (DataW.weights_mem_each (j := 0) rfl rfl y hy); simpa using this
  obtain ⟨q0, sa0, sn0, sc0, ia0, im0, ic0, rfl, pr0, pb0⟩ := open_parcel (hval 0 26 v0 rfl rfl) h0 hw0
  refine (walk q0 sa0 sn0 sc0 ia0 im0 ic0 W pr0 pb0).mono fun e W' ⟨he, bel⟩ => ?_
  subst he
  exact ⟨_, rfl, _, _, _, [], _, [], hW', trodAll_mk1 (shut_bool Try.underlying4 _), trodAll_below laidOut bel _ _ _ _ (by kernel_rfl) hK, rfl, bel.frame _, fun h => by cases h⟩

set_option maxRecDepth 100000 in
theorem lifted (os : Os) (started : os.Started) (H : Type) (enc : TypeId × Value → H) :
    ReturnsInHanded {} Try.checked os 7 .any (Rows.parcelBackSpec.pre6 enc Try.prog Try.f7 Rows.parcelBackRow.domain false) (Rows.parcelBackSpec.post enc Try.prog Try.f7 false true false false) := by
  refine returnsInHanded_of_change_sized (C := Try.checked) own started (by kernel_rfl) Try.func7
    (ChangeSpec.witness6 (enc := enc) (C := Try.checked) false ⟨#[], #[.agg #[.int .i64 0, .int .i64 0, .int .i64 0, .int .i64 0, .int .i64 0, .int .i64 0, .slice none 0 0, .slice none 0 0]], []⟩ 8 (by kernel_rfl) (by kernel_rfl) (by kernel_rfl) (by kernel_rfl)) ?_
  intro W base args ds gs before hval hW _ hsz _
  exact contract H enc W base args ds gs before hval hW hsz

theorem said : Rows.ParcelBackSaid :=
  OpenClaim.holds_of_wide 7 Try.f7 rfl rfl rfl rfl rfl rfl rfl ⟨rfl, rfl, rfl, rfl, rfl⟩ rfl rfl rfl rfl rfl (by kernel_rfl) Try.func7 (by kernel_rfl)
    (of_decide_eq_true (by kernel_rfl)) (by unfold Func.isWrapper; first | (rw [if_pos (by decide +kernel)]; kernel_rfl) | (rw [if_neg (by decide +kernel)]; exact ⟨rfl, rfl⟩))
    (fun os started H enc _ => lifted os started H enc)
end parcelBack

theorem parcelBack_holds : Rows.ParcelBackSaid := parcelBack.said
end Go.Proofs.Ytjpkhefegpbooaa

