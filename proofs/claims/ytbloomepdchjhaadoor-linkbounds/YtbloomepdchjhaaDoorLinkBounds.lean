/- Proved: for every queue and every script of deeds grapevinelaw14.LinkBounds answers true. Its condition: the package-level table seal.steps holds what its initialiser lays (the card ties that to the program's text). -/
import Derived.Test.YtbloomepdchjhaaDoorLb4
import Derived.Test.YtbloomepdchjhaaDoorDoor
namespace Go.Proofs.YtbloomepdchjhaaDoor
open Go.ChangeShapes Go.WideShapes Go.ChangeAt Go.RowKit
namespace linkBounds

theorem u64_of (x : Int) : ∃ u : Nat, IntKind.u64.wrap x = (u : Int) ∧ u < 18446744073709551616 := ⟨(x % 18446744073709551616).toNat, by rw [IntKind.wrap_u64]; omega, by omega⟩

set_option maxRecDepth 100000 in
set_option maxHeartbeats 8000000 in
theorem walk (q : Nat) (hq : q < 256) (a : Option Addr) (len cap : Nat) (l : List De) (w : World) (hl : DesRd w a len l) (ht : Tab w) (h0 : 0 < w.heap.size) :
    Calls Tryd.prog 4 #[.int .u8 (q : Int), .slice a len cap] w fun e w' => e = .returned (.bool true) ∧ Below w.heap.size w w' := by
  have HL : Hid (DesRd w a len l) := hl
  have HT : Hid (Tab w) := ht
  obtain ⟨B, HBE⟩ : ∃ B, Hid (B = w.heap.size) := ⟨_, rfl⟩
  obtain ⟨q32, hq32⟩ : ∃ q32, q32 = q % 32 := ⟨_, rfl⟩
  have htm : Int.tmod (q : Int) 32 = (q32 : Int) := by rw [hq32]; rfl
  have hqb : q32 < 32 := by omega
  obtain ⟨n, hn⟩ : ∃ n : Int, n = 1 + (q32 : Int) := ⟨_, rfl⟩
  have hn1 : 1 ≤ n ∧ n ≤ 32 := by omega
  have hn' : 1 + (q32 : Int) = n := hn.symm
  clear hl ht hq32 hn
  go_enter Tryd.func4, Tryd.ntmps4
  go_wp2_with fail
  try rw [hn']
  refine (lk_New 1 n w (by omega) (by omega) (by omega) (by omega)).mono ?_
  rintro e w1 ⟨rfl, HX1, hb1⟩
  obtain ⟨g, HG⟩ : ∃ g, Hid (g = w.heap.size) := ⟨_, rfl⟩
  have HS1 : Hid (LbS w1 B g 0 n []) := by
    have h5 := HX1.out
    rw [← HG.out] at h5
    refine ⟨_, _, 0, 0, ⟨h5.blk, World.ownsRow_nil _ _ _ _, fun x hx => (by cases hx), by rw [HBE.out]; exact hb1.size⟩, ⟨rfl, rfl, by omega, by simp⟩, by omega, rfl, rfl, rfl, by simp; omega, fun x hx => by cases hx⟩
  have HB1 : Hid (Below B w w1) := by show Below _ _ _; rw [HBE.out]; exact hb1
  have HGB : Hid (B ≤ g ∧ 0 < B) := by rw [HBE.out, HG.out]; exact ⟨Nat.le_refl _, h0⟩
  rw [← HG.out]
  clear HX1 hb1 HG
  go_wp2
  go_loopw [8] (fun t8 wr => ∃ (i : Nat) (L : List (Wt × Bd)), i ≤ len ∧ i ≤ 200 ∧ t8 = .int .i64 (i : Int) ∧ Hid (LbS wr B g 0 n L) ∧ Hid (Below B w wr)) (fun t8 _ => 200 - (intOf t8).toNat)
  case atStart => exact ⟨0, [], by omega, by omega, rfl, HS1, HB1⟩
  case round =>
    clear HS1 HB1
    obtain ⟨i, L, hi, hi2, rfl, HS, HB⟩ := hrel
    have HTr : Hid (Tab wr ∧ 0 < wr.heap.size) := ⟨HT.out.below h0 (by rw [← HBE.out]; exact HB.out), Nat.lt_of_lt_of_le h0 HB.out.size⟩
    by_cases hgo : i < len ∧ i < 200
    · obtain ⟨hlt, h200⟩ := hgo
      have hlt' : (i : Int) < (len : Int) := by omega
      have h200' : (i : Int) < 200 := by omega
      have hi0 : (0 : Int) ≤ (i : Int) := by omega
      have HBw : Hid (Below w.heap.size w wr) := by show Below _ _ _; rw [← HBE.out]; exact HB.out
      obtain ⟨gl, o, rfl, hgl, d, hd, hok, hat⟩ := (HL.out.below HBw.out).spot i hlt
      have HOK : Hid (DeOk wr d) := hok
      have HLN : Hid (∀ w', Below B w w' → DeOk w' d) := fun w' hb' => (HL.out.each d (List.mem_of_getElem? hd)).below (by rw [← HBE.out]; exact hb')
      have HAT : Hid (∀ j u, d.cells[j]? = some u → wr.cell? ⟨gl, o + i * 15 + j, none⟩ = some u) := hat
      obtain ⟨dd, ⟨pk, pp, ps, pn, pf, pt, pl, pi⟩, sa, sn, sc, ia, im, ic, dk, own, oth, dn, ba, bn, bc, dat⟩ := d
      have c0 : wr.cell? ⟨gl, o + i * 15, none⟩ = some (.int .i64 dd) := hat 0 _ rfl
      clear hd hok hat hgl
      have HEND : Hid (∀ w' L', LbS w' B g 0 n L' → ¬ n < (L'.length : Int)) := fun w' L' h5 => by obtain ⟨_, _, _, _, _, _, _, _, _, _, h6, _⟩ := h5; omega
      by_cases d0 : dd = 0
      · subst d0
        have p1 : wr.cell? ⟨gl, o + i * 15 + 1, none⟩ = some (.int .i64 pk) := HAT.out 1 _ rfl
        have p2 : wr.cell? ⟨gl, o + i * 15 + 2, none⟩ = some (.int .i64 pp) := HAT.out 2 _ rfl
        have p3 : wr.cell? ⟨gl, o + i * 15 + 3, none⟩ = some (.int .i64 ps) := HAT.out 3 _ rfl
        have p4 : wr.cell? ⟨gl, o + i * 15 + 4, none⟩ = some (.int .i64 pn) := HAT.out 4 _ rfl
        have p5 : wr.cell? ⟨gl, o + i * 15 + 5, none⟩ = some (.int .i64 pf) := HAT.out 5 _ rfl
        have p6 : wr.cell? ⟨gl, o + i * 15 + 6, none⟩ = some (.int .i64 pt) := HAT.out 6 _ rfl
        have p7 : wr.cell? ⟨gl, o + i * 15 + 7, none⟩ = some (.slice sa sn sc) := HAT.out 7 _ rfl
        have p8 : wr.cell? ⟨gl, o + i * 15 + 8, none⟩ = some (.slice ia im ic) := HAT.out 8 _ rfl
        obtain ⟨nl, HNL⟩ : ∃ nl, Hid (nl = L.length) := ⟨_, rfl⟩
        go_wp2_with fail
        refine (lb_waits HS.out).mono ?_
        rintro e w2 ⟨he, hw2⟩
        rw [← HNL.out] at he
        subst he
        rw [hw2]
        clear hw2 w2
        go_wp2_with fail
        refine (lb_send HS.out HGB.out.1 hn1.2 ⟨pk, pp, ps, pn, pf, pt, pl, pi⟩ sa sn sc ia im ic HOK.out.rd).mono ?_
        rintro e w3 ⟨⟨r, he, hr⟩, HB3⟩
        subst he
        have HBw3 : Hid (Below B w w3) := HB.out.trans HB3.out
        rcases hr with ⟨hr0, hlt3, HS3⟩ | ⟨hr0, HS3⟩
        · subst hr0
          obtain ⟨L', hL', hs'⟩ := HS3.out
          have HS4 : Hid (LbS w3 B g 0 n L') := hs'
          rw [← HNL.out] at hlt3 hL'
          have hge : ¬ n ≤ (nl : Int) := by omega
          have hcast : ((L'.length : Nat) : Int) = (nl : Int) + 1 := by omega
          have hend := HEND.out w3 L' HS4.out
          rw [hcast] at hend
          have HW : Hid (Calls Tryd.prog 13 #[.pointer (some ⟨g, 0, none⟩)] w3 fun e w' => e = .returned (.int .i64 ((nl : Int) + 1)) ∧ w' = w3) := by
            have h5 := lb_waits HS4.out
            rw [hcast] at h5
            exact h5
          clear hs' HS3 hL'
          go_wp2_with fail
          refine HW.out.mono ?_
          rintro e w5 ⟨rfl, hw5⟩
          rw [hw5]
          clear hw5 w5
          go_wp2_with fail
          refine HW.out.mono ?_
          rintro e w5 ⟨rfl, hw5⟩
          rw [hw5]
          clear hw5 w5
          go_wp2
          go_roundw
          case rel => exact ⟨i + 1, L', by omega, by omega, by go_num, HS4, HBw3⟩
          case measure => simp [intOf]; omega
        · have hrb : (r == 0) = false := by simp [hr0]
          have hrc : (r != 0) = true := by simp [hr0]
          have hend := HEND.out w3 L HS3.out
          rw [← HNL.out] at hend
          have HW : Hid (Calls Tryd.prog 13 #[.pointer (some ⟨g, 0, none⟩)] w3 fun e w' => e = .returned (.int .i64 (nl : Int)) ∧ w' = w3) := by
            have h5 := lb_waits HS3.out
            rw [← HNL.out] at h5
            exact h5
          go_wp2_with fail
          refine HW.out.mono ?_
          rintro e w5 ⟨rfl, hw5⟩
          rw [hw5]
          clear hw5 w5
          go_wp2_with fail
          refine HW.out.mono ?_
          rintro e w5 ⟨rfl, hw5⟩
          rw [hw5]
          clear hw5 w5
          go_wp2
          go_roundw
          case rel => exact ⟨i + 1, L, by omega, by omega, by go_num, HS3, HBw3⟩
          case measure => simp [intOf]; omega
      by_cases d1 : dd = 1
      · subst d1
        go_wp2_with fail
        refine (lb_probe HS.out HGB.out.1 hn1.2).mono ?_
        rintro e w3 ⟨⟨x, he⟩, HS3, HB3⟩
        subst he
        obtain ⟨L', hs'⟩ := HS3.out
        have HS4 : Hid (LbS w3 B g 0 n L') := hs'
        have HBw3 : Hid (Below B w w3) := HB.out.trans HB3.out
        have hend := HEND.out w3 L' HS4.out
        clear hs' HS3
        go_wp2_with fail
        refine (lb_waits HS4.out).mono ?_
        rintro e w5 ⟨rfl, hw5⟩
        rw [hw5]
        clear hw5 w5
        go_wp2
        go_roundw
        case rel => exact ⟨i + 1, L', by omega, by omega, by go_num, HS4, HBw3⟩
        case measure => simp [intOf]; omega
      by_cases d3 : dd = 3
      · subst d3
        have p1 : wr.cell? ⟨gl, o + i * 15 + 1, none⟩ = some (.int .i64 pk) := HAT.out 1 _ rfl
        have p2 : wr.cell? ⟨gl, o + i * 15 + 2, none⟩ = some (.int .i64 pp) := HAT.out 2 _ rfl
        have p3 : wr.cell? ⟨gl, o + i * 15 + 3, none⟩ = some (.int .i64 ps) := HAT.out 3 _ rfl
        have p4 : wr.cell? ⟨gl, o + i * 15 + 4, none⟩ = some (.int .i64 pn) := HAT.out 4 _ rfl
        have p5 : wr.cell? ⟨gl, o + i * 15 + 5, none⟩ = some (.int .i64 pf) := HAT.out 5 _ rfl
        have p6 : wr.cell? ⟨gl, o + i * 15 + 6, none⟩ = some (.int .i64 pt) := HAT.out 6 _ rfl
        have p7 : wr.cell? ⟨gl, o + i * 15 + 7, none⟩ = some (.slice sa sn sc) := HAT.out 7 _ rfl
        have p8 : wr.cell? ⟨gl, o + i * 15 + 8, none⟩ = some (.slice ia im ic) := HAT.out 8 _ rfl
        have p9 : wr.cell? ⟨gl, o + i * 15 + 9, none⟩ = some (.int .u8 (dk : Int)) := HAT.out 9 _ rfl
        have p10 : wr.cell? ⟨gl, o + i * 15 + 10, none⟩ = some (.int .i64 own) := HAT.out 10 _ rfl
        have p11 : wr.cell? ⟨gl, o + i * 15 + 11, none⟩ = some (.int .i64 oth) := HAT.out 11 _ rfl
        have p12 : wr.cell? ⟨gl, o + i * 15 + 12, none⟩ = some (.int .i64 dn) := HAT.out 12 _ rfl
        have p13 : wr.cell? ⟨gl, o + i * 15 + 13, none⟩ = some (.slice ba bn bc) := HAT.out 13 _ rfl
        have p14 : wr.cell? ⟨gl, o + i * 15 + 14, none⟩ = some (.int .i64 dat) := HAT.out 14 _ rfl
        obtain ⟨u0, e0, b0⟩ := u64_of own
        obtain ⟨u1, e1, b1⟩ := u64_of oth
        obtain ⟨u2, e2, b2⟩ := u64_of dn
        have HFR : Hid (Calls Tryd.prog 15 #[.agg #[.int .i64 3, .int .i64 pk, .int .i64 pp, .int .i64 ps, .int .i64 pn, .int .i64 pf, .int .i64 pt, .slice sa sn sc, .slice ia im ic, .int .u8 (dk : Int), .int .i64 own, .int .i64 oth, .int .i64 dn, .slice ba bn bc, .int .i64 dat]] wr fun e w' => (∃ a n c, e = .returned (.slice a n c) ∧ Hid (Own w' wr.heap.size a n c (SealM.sealed dk (lebs [u0, u1, u2] ++ rest14 dk ⟨pk, pp, ps, pn, pf, pt, pl, pi⟩)))) ∧ Below wr.heap.size wr w') :=
          law_frame dk u0 u1 u2 own oth dn 3 dat HOK.out.kb e0 e1 e2 ⟨b0, b1, b2⟩ pk pp ps pn pf pt pl pi sa sn sc ia im ic ba bn bc wr HOK.out.rd HOK.out.big
        clear e0 e1 e2
        go_wp2_with fail
        refine HFR.out.mono ?_
        rintro e w2 ⟨⟨fa, fn, fc, he, HO2⟩, hb2⟩
        subst he
        have HS2 : Hid (LbS w2 B g 0 n L) := HS.out.below hb2
        have HBw2 : Hid (Below B w w2) := HB.out.trans (hb2.mono (by have h5 := HB.out.size; have h6 := HBE.out; omega))
        have HT2 : Hid (Tab w2 ∧ 0 < w2.heap.size) := ⟨HTr.out.1.below HTr.out.2 hb2, Nat.lt_of_lt_of_le HTr.out.2 hb2.size⟩
        clear hb2 HFR
        go_wp2_with fail
        refine (lb_take HS2.out HGB.out.1 hn1.2 HT2.out.1 HT2.out.2 dk u0 u1 u2 HOK.out.kb ⟨b0, b1, b2⟩ ⟨pk, pp, ps, pn, pf, pt, pl, pi⟩ HOK.out.rd.items.each fa fn fc HO2.out.rd (row_len HO2.out.row).2.1).mono ?_
        rintro e w3 ⟨⟨x, he⟩, HS3, HB3⟩
        subst he
        obtain ⟨L', hs'⟩ := HS3.out
        have HS4 : Hid (LbS w3 B g 0 n L') := hs'
        have HBw3 : Hid (Below B w w3) := HBw2.out.trans HB3.out
        have hend := HEND.out w3 L' HS4.out
        clear hs' HS3
        go_wp2_with fail
        refine (lb_waits HS4.out).mono ?_
        rintro e w5 ⟨rfl, hw5⟩
        rw [hw5]
        clear hw5 w5
        go_wp2
        go_roundw
        case rel => exact ⟨i + 1, L', by omega, by omega, by go_num, HS4, HBw3⟩
        case measure => simp [intOf]; omega
      have hend := HEND.out wr L HS.out
      go_wp2_with fail
      refine (lb_waits HS.out).mono ?_
      rintro e w5 ⟨rfl, hw5⟩
      rw [hw5]
      clear hw5 w5
      go_wp2
      go_roundw
      case rel => exact ⟨i + 1, L, by omega, by omega, by go_num, HS, HB⟩
      case measure => simp [intOf]; omega
    · have hcase : (¬ (i : Int) < (len : Int)) ∨ ((i : Int) < (len : Int) ∧ ¬ (i : Int) < 200) := by omega
      obtain ⟨nl, HNL⟩ : ∃ nl, Hid (nl = L.length) := ⟨_, rfl⟩
      have hnl : nl ≤ 32 := by obtain ⟨_, _, _, _, _, _, _, _, _, _, h6, _⟩ := HS.out; rw [HNL.out]; omega
      rcases hcase with hx | ⟨hy, hx⟩
      · go_wp2_with fail
        refine (lb_waits HS.out).mono ?_
        rintro e w2 ⟨he, hw2⟩
        rw [← HNL.out] at he
        subst he
        rw [hw2]
        clear hw2 w2
        go_wp2
        go_loopw [12] (fun t12 wq => ∃ (j : Nat) (T : List (Wt × Bd)), j ≤ nl ∧ t12 = .int .i64 (j : Int) ∧ Hid (T.length + j = nl) ∧ Hid (LbS wq B g j n T) ∧ Hid (Below B w wq)) (fun t12 _ => nl - (intOf t12).toNat)
        case atStart => exact ⟨0, L, by omega, rfl, HNL.out.symm, HS, HB⟩
        case round =>
          clear HS HB HTr
          obtain ⟨j, T, hj, rfl, HTL, HSj, HBj⟩ := hrel
          have HTj : Hid (Tab wr) := HT.out.below h0 (by rw [← HBE.out]; exact HBj.out)
          by_cases hjl : j < nl
          · have hjl' : (j : Int) < (nl : Int) := by omega
            obtain ⟨x, R, rfl⟩ : ∃ x R, T = x :: R := by
              cases T with
              | nil => have h5 := HTL.out; simp at h5; omega
              | cons x R => exact ⟨x, R, rfl⟩
            go_wp2_with fail
            refine (lb_pull HSj.out HGB.out.1 (by omega) HTj.out HGB.out.2).mono ?_
            rintro e w3 ⟨ra, rn, rc, he, h8, HS3, HB3⟩
            subst he
            have h8' : ¬ (rn : Int) < 8 := by omega
            have HBw3 : Hid (Below B w w3) := HBj.out.trans HB3.out
            have HTL3 : Hid (R.length + (j + 1) = nl) := by have h5 := HTL.out; show _ = _; simp at h5; omega
            go_wp2
            go_roundw
            case rel => exact ⟨j + 1, R, by omega, by go_num, HTL3, HS3, HBw3⟩
            case measure => simp [intOf]; omega
          · have hjl' : ¬ (j : Int) < (nl : Int) := by omega
            have hT0 : T = [] := by have h5 := HTL.out; exact List.eq_nil_of_length_eq_zero (by omega)
            subst hT0
            go_wp2_with fail
            refine (lb_pull_none HSj.out).mono ?_
            rintro e w3 ⟨rfl, hw3⟩
            rw [hw3]
            clear hw3 w3
            go_wp2_with fail
            refine (law_live14 wr HTj.out (Nat.lt_of_lt_of_le h0 HBj.out.size)).mono ?_
            rintro e w4 ⟨rfl, hb4⟩
            have HS4 : Hid (LbS w4 B g j n []) := HSj.out.below hb4
            have HB4 : Hid (Below w.heap.size w w4) := by
              show Below _ _ _
              rw [← HBE.out]
              exact HBj.out.trans (hb4.mono (by have h5 := HBj.out.size; have h6 := HBE.out; omega))
            clear hb4
            go_wp2_with fail
            refine (lb_waits HS4.out).mono ?_
            rintro e w5 ⟨rfl, hw5⟩
            rw [hw5]
            clear hw5 w5
            go_wp2
            go_ret
            exact ⟨rfl, HB4.out⟩
      · go_wp2_with fail
        refine (lb_waits HS.out).mono ?_
        rintro e w2 ⟨he, hw2⟩
        rw [← HNL.out] at he
        subst he
        rw [hw2]
        clear hw2 w2
        go_wp2
        go_loopw [12] (fun t12 wq => ∃ (j : Nat) (T : List (Wt × Bd)), j ≤ nl ∧ t12 = .int .i64 (j : Int) ∧ Hid (T.length + j = nl) ∧ Hid (LbS wq B g j n T) ∧ Hid (Below B w wq)) (fun t12 _ => nl - (intOf t12).toNat)
        case atStart => exact ⟨0, L, by omega, rfl, HNL.out.symm, HS, HB⟩
        case round =>
          clear HS HB HTr
          obtain ⟨j, T, hj, rfl, HTL, HSj, HBj⟩ := hrel
          have HTj : Hid (Tab wr) := HT.out.below h0 (by rw [← HBE.out]; exact HBj.out)
          by_cases hjl : j < nl
          · have hjl' : (j : Int) < (nl : Int) := by omega
            obtain ⟨x, R, rfl⟩ : ∃ x R, T = x :: R := by
              cases T with
              | nil => have h5 := HTL.out; simp at h5; omega
              | cons x R => exact ⟨x, R, rfl⟩
            go_wp2_with fail
            refine (lb_pull HSj.out HGB.out.1 (by omega) HTj.out HGB.out.2).mono ?_
            rintro e w3 ⟨ra, rn, rc, he, h8, HS3, HB3⟩
            subst he
            have h8' : ¬ (rn : Int) < 8 := by omega
            have HBw3 : Hid (Below B w w3) := HBj.out.trans HB3.out
            have HTL3 : Hid (R.length + (j + 1) = nl) := by have h5 := HTL.out; show _ = _; simp at h5; omega
            go_wp2
            go_roundw
            case rel => exact ⟨j + 1, R, by omega, by go_num, HTL3, HS3, HBw3⟩
            case measure => simp [intOf]; omega
          · have hjl' : ¬ (j : Int) < (nl : Int) := by omega
            have hT0 : T = [] := by have h5 := HTL.out; exact List.eq_nil_of_length_eq_zero (by omega)
            subst hT0
            go_wp2_with fail
            refine (lb_pull_none HSj.out).mono ?_
            rintro e w3 ⟨rfl, hw3⟩
            rw [hw3]
            clear hw3 w3
            go_wp2_with fail
            refine (law_live14 wr HTj.out (Nat.lt_of_lt_of_le h0 HBj.out.size)).mono ?_
            rintro e w4 ⟨rfl, hb4⟩
            have HS4 : Hid (LbS w4 B g j n []) := HSj.out.below hb4
            have HB4 : Hid (Below w.heap.size w w4) := by
              show Below _ _ _
              rw [← HBE.out]
              exact HBj.out.trans (hb4.mono (by have h5 := HBj.out.size; have h6 := HBE.out; omega))
            clear hb4
            go_wp2_with fail
            refine (lb_waits HS4.out).mono ?_
            rintro e w5 ⟨rfl, hw5⟩
            rw [hw5]
            clear hw5 w5
            go_wp2
            go_ret
            exact ⟨rfl, HB4.out⟩

set_option maxRecDepth 100000 in
theorem contract (H : Type) (enc : TypeId × Value → H) (W : World) (base : Nat) (args : Array Value) (ds gs : List (DataW H)) (before : List MemPlace)
    (hval : ∀ (j : Nat) t v, Tryd.f4.params[j]? = some t → args[j]? = some v → Value.okWide Tryd.prog W .any base t v)
    (hW : DataW.Whole enc Tryd.prog Tryd.f4.params.toList Rows.linkBoundsSpec.vars false W args.toList ds gs before) (hL : laidMetH Tryd.prog [("grapevine/seal.steps", Rows.laid_grapevine_seal_steps)] W) (hsz0 : (DataW.weightsEach Tryd.prog (Tryd.f4.params.toList ++ Rows.linkBoundsSpec.plain.varTypes Tryd.prog) (ds ++ gs)).all (· ≤ reachBytes) = true) :
    Calls Tryd.prog 4 args W fun e W' => ∃ v, e = .returned v ∧ Rows.linkBoundsSpec.post enc Tryd.prog Tryd.f4 false true false false W args v W' := by
  have hW' := hW
  obtain ⟨p, q, hA0, hV, rfl, hfz, hnd⟩ := hW
  have hA : DataW.TrodAll enc Tryd.prog W 0 (fun _ => true) true Tryd.f4.params.toList args.toList ds p := hA0
  have hK := hA
  have hsz := hsz0
  rw [Tryd.params4] at hA hval hsz
  obtain ⟨v0, vs0, d0, ds0, p0, q0, hargs, rfl, rfl, h0, r0⟩ := trodAll_cons hA
  obtain ⟨v1, vs1, d1, ds1, p1, q1, rfl, rfl, rfl, h1, r1⟩ := trodAll_cons r0
  obtain ⟨rfl, rfl, rfl⟩ := trodAll_nil r1
  obtain rfl : args = #[v0, v1] := by cases args; simp_all
  obtain ⟨rfl, rfl⟩ := trodVars_none hV
  obtain ⟨x0, rfl, rfl, rfl, w0⟩ := open_int Tryd.underlying5 (hval 0 5 v0 rfl rfl) h0
  have b0 : (0 : Int) ≤ x0 ∧ x0 ≤ 255 := by simpa [Lit.wf, IntKind.min, IntKind.max, IntKind.signed, IntKind.bits] using w0
  obtain ⟨n0, rfl⟩ := Int.eq_ofNat_of_zero_le b0.1
  have hw1 : ∀ y ∈ DataW.weights Tryd.prog 55 d1, y ≤ reachBytes := fun y hy => by have := List.all_eq_true.1 hsz _ (DataW.weights_mem_each (j := 1) rfl rfl y hy); simpa using this
  obtain ⟨a1, len1, cap1, rfl⟩ := okWide_slice Tryd.underlying55 (hval 1 55 v1 rfl rfl)
  obtain ⟨fu1, hf1⟩ := h1
  obtain ⟨l1, rd1, _, _⟩ := open_des hf1 hw1
  have ht := table hL
  have hz : 0 < W.heap.size := World.block_lt_of_cell? W _ (ht 0 (by omega))
  refine (walk n0 (by omega) a1 len1 cap1 l1 W rd1 ht hz).mono fun e W' ⟨he, bel⟩ => ?_
  subst he
  exact ⟨_, rfl, _, _, _, [], _, [], hW', trodAll_mk1 (shut_bool Tryd.underlying4 _), trodAll_below laidOut bel _ _ _ _ (by kernel_rfl) hK, rfl, bel.frame _, fun h => by cases h⟩

theorem laid_met (os : Os) : laidMet Tryd.prog Rows.linkBoundsRow.laid ((layTab (World.holding Tryd.prog os ⟨#[], #[], []⟩)).forCall (fun _ _ => 0) ⟨#[], #[.int .u8 0, .slice none 0 0], []⟩).memory :=
  laidMet_of_run' 8 (by kernel_rfl) (by kernel_rfl)
theorem reads (os : Os) {H : Type} (enc : TypeId × Value → H) : ∃ places, DataW.whole enc Tryd.prog ((layTab (World.holding Tryd.prog os ⟨#[], #[], []⟩)).forCall (fun _ _ => 0) ⟨#[], #[.int .u8 0, .slice none 0 0], []⟩).memory Tryd.f4.params.toList Rows.linkBoundsSpec.vars false (#[.int .u8 0, .slice none 0 0] : Array Value).toList 8 = some ([.lit (.int .u8 0), .nil], [], places) :=
  ⟨[], by kernel_rfl⟩

set_option maxRecDepth 100000 in
theorem lifted (os : Os) (started : os.Started) (H : Type) (enc : TypeId × Value → H) (F : Stop.Interp) :
    ReturnsInHanded {} Tryd.checked os 4 .any ((OpenSpec.ofChange Rows.linkBoundsSpec).preRow enc Tryd.prog Tryd.f4 Rows.linkBoundsRow.domain false Rows.linkBoundsRow.laid) (((OpenSpec.ofChange Rows.linkBoundsSpec).at F).post enc Tryd.prog Tryd.f4 false true false false) := by
  obtain ⟨places, hx⟩ := reads os enc
  refine returnsInHanded_of_row (C := Tryd.checked) (s := OpenSpec.ofChange Rows.linkBoundsSpec) own started (by kernel_rfl) Tryd.func4
    (witness_row_at (enc := enc) (C := Tryd.checked) false (layTab (World.holding Tryd.prog os ⟨#[], #[], []⟩)) #[.int .u8 0, .slice none 0 0] rfl (by kernel_rfl) (by kernel_rfl) (by kernel_rfl)
      (OpenSpec.preRow_of_cond 8 hx (by kernel_rfl) (fun k hk => by cases hk) (by kernel_rfl) (laid_met os))) ?_
  intro W base args ds gs before hval hW _ _ hsz hL _ _
  exact contract H enc W base args ds gs before hval hW hL hsz

theorem said : Rows.LinkBoundsSaid :=
  OpenClaim.holds_of_cond 4 Tryd.f4 rfl rfl rfl rfl rfl rfl rfl ⟨rfl, rfl, rfl, rfl, rfl⟩ rfl rfl rfl rfl rfl (by kernel_rfl) Tryd.func4 (by kernel_rfl)
    (of_decide_eq_true (by kernel_rfl)) (by unfold Func.isWrapper; first | (rw [if_pos (by decide +kernel)]; kernel_rfl) | (rw [if_neg (by decide +kernel)]; exact ⟨rfl, rfl⟩))
    (fun os started H enc _ F => by rw [OpenClaim.pre_eq_preRow]; exact lifted os started H enc F)

theorem plain (f : FuncId) (fn : Func) (hf : Tryd.pinned.checked.prog.funcNamed "grapevine/grapevinelaw14.LinkBounds" = some f) (hfn : Tryd.pinned.checked.prog.funcs[f]? = some fn) :
    false = Tryd.pinned.checked.prog.looks [] ∧ ∀ (j : Nat) t, fn.params[j]? = some t → Tryd.pinned.checked.prog.wantsStandIn t = false := by
  obtain rfl : f = 4 := Option.some.inj ((show Tryd.prog.funcNamed "grapevine/grapevinelaw14.LinkBounds" = some 4 by kernel_rfl).symm.trans hf) |>.symm
  obtain rfl : fn = Tryd.f4 := (Option.some.inj (Tryd.func4.symm.trans hfn)).symm
  refine ⟨by kernel_rfl, fun j t ht => ?_⟩
  rw [Tryd.params4] at ht
  have hall : ∀ t ∈ (#[5, 55] : Array TypeId), Tryd.prog.wantsStandIn t = false := by
    intro t ht
    simp at ht
    rcases ht with rfl | rfl
    · exact (show Tryd.prog.wantsStandIn 5 = false by kernel_rfl)
    · exact (show Tryd.prog.wantsStandIn 55 = false by kernel_rfl)
  exact hall t (Array.mem_of_getElem? ht)

theorem card : Rows.LinkBoundsCardSaid :=
  Claim7.holds_tied_plain_at .later [] _ _ _ _ said (fun _ h => by cases h) (by kernel_rfl) (fun _ h => by cases h) linkBounds_row_tie rfl ⟨rfl, rfl⟩ (by kernel_rfl) rfl plain (by kernel_rfl)
end linkBounds

theorem linkBounds_holds : Rows.LinkBoundsCardSaid := linkBounds.card
end Go.Proofs.YtbloomepdchjhaaDoor

