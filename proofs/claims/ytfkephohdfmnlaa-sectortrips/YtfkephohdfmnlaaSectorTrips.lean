/- Proved: for every script and number grapevinelaw09.SectorTrips answers true and leaves its arguments as they were. No condition. -/
import Derived.Test.YtfkephohdfmnlaaSecTripM
namespace Go.Proofs.Ytfkephohdfmnlaa
open Go.ChangeShapes Go.WideShapes Go.ChangeAt Go.RowKit
namespace sectorTrips

set_option maxRecDepth 100000 in
set_option maxHeartbeats 4000000 in
theorem walk (a : Option Addr) (n c : Nat) (l : List Dd) (N : Nat) (w : World) (hl : DdsRd w a n l) (hN : N ≤ 255) :
    Calls Try.prog 5 #[.slice a n c, .int .u8 (N : Int)] w fun e w' => e = .returned (.bool true) ∧ Below w.heap.size w w' := by
  have HL : Hid (DdsRd w a n l) := hl
  clear hl
  go_enter Try.func5, Try.ntmps5
  go_wp2_with fail
  refine (sector_New 4 w).mono ?_
  rintro e w1 ⟨ht, hb1⟩
  rcases ht.out with ⟨h0, _⟩ | ⟨_, g, rfl, hd⟩
  · exact absurd ⟨by decide, by decide⟩ h0
  have HD1 : Hid (Disk w1 w.heap.size g w.heap.size (.slice none 0 0) (newD 4)) := hd
  have HB1 : Hid (Below w.heap.size w w1) := hb1
  clear ht hd hb1
  obtain ⟨s1, s2, s3⟩ := start_inv N hN
  go_wp2_with fail
  refine (disk_Trip w1 w.heap.size g w.heap.size (.slice none 0 0) (newD 4) (N : Int) HD1.out (by omega)).mono ?_
  rw [s1]
  rintro e w2 ⟨rfl, hd2, hm2⟩
  obtain ⟨D0, hD0⟩ : ∃ D0, D0 = tripD (newD 4) (N : Int) := ⟨_, rfl⟩
  rw [← hD0] at s2 s3 hd2
  have HD2 : Hid (Disk w2 w.heap.size g w.heap.size (.slice none 0 0) D0) := hd2.out
  have HB2 : Hid (Below w.heap.size w w2) := HB1.out.trans hm2.low
  have HI0 : Hid (Inv N 0 D0) := s2
  have HW0 : Hid (D0.waits.length ≤ 0) := by show _ ≤ _; rw [s3]; exact Nat.le_refl _
  clear hd2 hm2 s1 s2 s3 hD0 HD1
  go_wp2
  go_loopw [7, 8] (fun t7 t8 wr => ∃ (i dn : Nat) (wv : Value) (D : Dk), i ≤ 200 ∧ dn ≤ i ∧ t8 = .int .i64 (i : Int) ∧ t7 = .int .i64 (dn : Int) ∧ Hid (Disk wr w.heap.size g w.heap.size wv D) ∧ Hid (Inv N dn D) ∧ Hid (D.waits.length ≤ i) ∧ Hid (Below w.heap.size w wr)) (fun _ t8 _ => 201 - (intOf t8).toNat)
  case atStart => exact ⟨0, 0, _, D0, by omega, by omega, rfl, rfl, HD2, HI0, HW0, HB2⟩
  case round =>
    obtain ⟨i, dn, wv, D, hi, hdn, rfl, rfl, HD, HIN, HWL, HB⟩ := hrel
    by_cases hgo : i < n ∧ i < 200
    · have g1 : (i : Int) < (n : Int) := by omega
      have g2 : (i : Int) < 200 := by omega
      have hi0 : (0 : Int) ≤ (i : Int) := by omega
      obtain ⟨gd, od, rfl, hgd, q, hq, _⟩ := HL.out.spot i hgo.1
      have HQE := HL.out.each q (List.mem_of_getElem? hq)
      have HSK0 : Hid (∀ w', Below w.heap.size w w' → w'.cell? ⟨gd, od + i * 4, none⟩ = some (.int .i64 q.kind) ∧ w'.cell? ⟨gd, od + i * 4 + 1, none⟩ = some (.int .i64 q.at_) ∧ w'.cell? ⟨gd, od + i * 4 + 2, none⟩ = some (.slice q.ba q.bl q.bc)) := by
        intro w' hb
        obtain ⟨g', o', ha', _, q', hq', r1, r2, r3⟩ := (HL.out.below hb).spot i hgo.1
        simp only [Option.some.injEq, Addr.mk.injEq, and_true] at ha'
        obtain ⟨rfl, rfl⟩ := ha'
        rw [hq] at hq'
        simp only [Option.some.injEq] at hq'
        subst hq'
        exact ⟨r1, r2, r3⟩
      obtain ⟨qk, qa, qb, ql, qc, qs, q3⟩ := q
      have HQR : Hid (Rd w qb ql qs) := HQE.1
      have HQL : Hid (ql ≤ 9223372036854775807) := HQE.2
      have hql := HQE.2
      have hqs : qs.length = ql := HQE.1.size
      simp only at HSK0 hql
      have HSK : Hid (∀ w', Below w.heap.size w w' → w'.cell? ⟨gd, od + i * 4 + 1, none⟩ = some (.int .i64 qa) ∧ w'.cell? ⟨gd, od + i * 4 + 2, none⟩ = some (.slice qb ql qc)) := fun w' hb => (HSK0.out w' hb).2
      obtain ⟨c0, c1, c2⟩ := HSK0.out wr HB.out
      have HBd : Hid (Below w.heap.size w wr.drew) := HB.out.drew
      clear HQE hq hgd HSK0
      by_cases hk0 : qk = 0
      · subst hk0
        obtain ⟨E, HE⟩ : ∃ E, Hid (E = writeE D qa qs) := ⟨_, rfl⟩
        obtain ⟨D2, HD2e⟩ : ∃ D2, Hid (D2 = writeD D qa qs) := ⟨_, rfl⟩
        have HIW : Hid ((countsB qa qs = true → Inv N (dn + 1) D2 ∧ (E = 10 ↔ overB N (dn + 1) = true)) ∧ (countsB qa qs = false → Inv N dn D2) ∧ D2.waits.length ≤ D.waits.length + 1) := by rw [HE.out, HD2e.out]; exact HIN.out.write qa qs
        have HWL2 : Hid (D2.waits.length ≤ i + 1) := by show _ ≤ _; have h1 := HIW.out.2.2; have h2 := HWL.out; omega
        by_cases b0 : 0 ≤ qa
        · by_cases b1 : qa < 4
          · by_cases b2 : ql ≤ 64
            · have b2' : (ql : Int) ≤ 64 := by omega
              go_wp2
              go_region_held3 (fun w' => w'.cell? ⟨gd, od + i * 4 + 1, none⟩ = some (.int .i64 qa) ∧ w'.cell? ⟨gd, od + i * 4 + 2, none⟩ = some (.slice qb ql qc)) (first | exact ⟨c1, c2⟩ | exact ⟨e1, e2⟩ | fail)
                (first | (go_at_call 14; refine (disk_Write wr.drew w.heap.size g w.heap.size wv D qa qb ql qc qs (HD.out.stay (Below.refl _ _).drew) (fun w' hm => HQR.out.below (HBd.out.trans hm.low)) HQL.out (by have := HWL.out; omega)).mono ?_; rw [← HE.out, ← HD2e.out]; rintro e w2 ⟨rfl, hd2, hm2⟩; obtain ⟨wv2, hd2⟩ := hd2.out; have HD2 : Hid (Disk w2 w.heap.size g w.heap.size wv2 D2) := hd2; have HB2 : Hid (Below w.heap.size w w2) := HBd.out.trans hm2.low; obtain ⟨e1, e2⟩ := HSK.out w2 HB2.out; clear hd2 hm2))
              have HIN2 : Hid (Inv N (dn + 1) D2 ∧ (E = 10 ↔ overB N (dn + 1) = true)) := HIW.out.1 (decide_eq_true ⟨⟨b0, b1⟩, by omega⟩)
              by_cases hov : 0 < N ∧ N ≤ dn + 1
              · have hE : E = 10 := HIN2.out.2.2 (decide_eq_true hov)
                have o1 : (0 : Int) < (N : Int) := by omega
                have o2 : (N : Int) ≤ (dn : Int) + 1 := by omega
                have o3 : N ≤ dn + 1 := hov.2
                have o4 : 0 < N := hov.1
                subst hE
                clear hov
                go_wp2
                go_roundw
                case rel => exact ⟨i + 1, dn + 1, wv2, D2, by omega, by omega, by go_num, by go_num, HD2, HIN2.out.1, HWL2, HB2⟩
                case measure => simp [intOf]; omega
              · have hE : E ≠ 10 := fun h => hov (of_decide_eq_true (HIN2.out.2.1 h))
                have hE' : (E == 10) = false := by rw [beq_eq_false_iff_ne]; exact hE
                by_cases hN0 : N = 0
                · subst hN0
                  clear hov
                  go_wp2
                  go_roundw
                  case rel => exact ⟨i + 1, dn + 1, wv2, D2, by omega, by omega, by go_num, by go_num, HD2, HIN2.out.1, HWL2, HB2⟩
                  case measure => simp [intOf]; omega
                · have o1 : (0 : Int) < (N : Int) := by omega
                  have o2 : ¬ (N : Int) ≤ (dn : Int) + 1 := by omega
                  have o3 : ¬ N ≤ dn + 1 := by omega
                  have o4 : 0 < N := by omega
                  clear hov
                  go_wp2
                  go_roundw
                  case rel => exact ⟨i + 1, dn + 1, wv2, D2, by omega, by omega, by go_num, by go_num, HD2, HIN2.out.1, HWL2, HB2⟩
                  case measure => simp [intOf]; omega
            · have b2' : ¬ (ql : Int) ≤ 64 := by omega
              go_wp2
              go_region_held3 (fun w' => w'.cell? ⟨gd, od + i * 4 + 1, none⟩ = some (.int .i64 qa) ∧ w'.cell? ⟨gd, od + i * 4 + 2, none⟩ = some (.slice qb ql qc)) (first | exact ⟨c1, c2⟩ | exact ⟨e1, e2⟩ | fail)
                (first | (go_at_call 14; refine (disk_Write wr.drew w.heap.size g w.heap.size wv D qa qb ql qc qs (HD.out.stay (Below.refl _ _).drew) (fun w' hm => HQR.out.below (HBd.out.trans hm.low)) HQL.out (by have := HWL.out; omega)).mono ?_; rw [← HE.out, ← HD2e.out]; rintro e w2 ⟨rfl, hd2, hm2⟩; obtain ⟨wv2, hd2⟩ := hd2.out; have HD2 : Hid (Disk w2 w.heap.size g w.heap.size wv2 D2) := hd2; have HB2 : Hid (Below w.heap.size w w2) := HBd.out.trans hm2.low; obtain ⟨e1, e2⟩ := HSK.out w2 HB2.out; clear hd2 hm2))
              have HIN2 : Hid (Inv N dn D2) := HIW.out.2.1 (decide_eq_false (by omega))
              go_wp2
              go_roundw
              case rel => exact ⟨i + 1, dn, wv2, D2, by omega, by omega, by go_num, rfl, HD2, HIN2, HWL2, HB2⟩
              case measure => simp [intOf]; omega
          · skip
            go_wp2
            go_region_held3 (fun w' => w'.cell? ⟨gd, od + i * 4 + 1, none⟩ = some (.int .i64 qa) ∧ w'.cell? ⟨gd, od + i * 4 + 2, none⟩ = some (.slice qb ql qc)) (first | exact ⟨c1, c2⟩ | exact ⟨e1, e2⟩ | fail)
              (first | (go_at_call 14; refine (disk_Write wr.drew w.heap.size g w.heap.size wv D qa qb ql qc qs (HD.out.stay (Below.refl _ _).drew) (fun w' hm => HQR.out.below (HBd.out.trans hm.low)) HQL.out (by have := HWL.out; omega)).mono ?_; rw [← HE.out, ← HD2e.out]; rintro e w2 ⟨rfl, hd2, hm2⟩; obtain ⟨wv2, hd2⟩ := hd2.out; have HD2 : Hid (Disk w2 w.heap.size g w.heap.size wv2 D2) := hd2; have HB2 : Hid (Below w.heap.size w w2) := HBd.out.trans hm2.low; obtain ⟨e1, e2⟩ := HSK.out w2 HB2.out; clear hd2 hm2))
            have HIN2 : Hid (Inv N dn D2) := HIW.out.2.1 (decide_eq_false (by omega))
            go_wp2
            go_roundw
            case rel => exact ⟨i + 1, dn, wv2, D2, by omega, by omega, by go_num, rfl, HD2, HIN2, HWL2, HB2⟩
            case measure => simp [intOf]; omega
        · skip
          go_wp2
          go_region_held3 (fun w' => w'.cell? ⟨gd, od + i * 4 + 1, none⟩ = some (.int .i64 qa) ∧ w'.cell? ⟨gd, od + i * 4 + 2, none⟩ = some (.slice qb ql qc)) (first | exact ⟨c1, c2⟩ | exact ⟨e1, e2⟩ | fail)
            (first | (go_at_call 14; refine (disk_Write wr.drew w.heap.size g w.heap.size wv D qa qb ql qc qs (HD.out.stay (Below.refl _ _).drew) (fun w' hm => HQR.out.below (HBd.out.trans hm.low)) HQL.out (by have := HWL.out; omega)).mono ?_; rw [← HE.out, ← HD2e.out]; rintro e w2 ⟨rfl, hd2, hm2⟩; obtain ⟨wv2, hd2⟩ := hd2.out; have HD2 : Hid (Disk w2 w.heap.size g w.heap.size wv2 D2) := hd2; have HB2 : Hid (Below w.heap.size w w2) := HBd.out.trans hm2.low; obtain ⟨e1, e2⟩ := HSK.out w2 HB2.out; clear hd2 hm2))
          have HIN2 : Hid (Inv N dn D2) := HIW.out.2.1 (decide_eq_false (by omega))
          go_wp2
          go_roundw
          case rel => exact ⟨i + 1, dn, wv2, D2, by omega, by omega, by go_num, rfl, HD2, HIN2, HWL2, HB2⟩
          case measure => simp [intOf]; omega
      · have hk0' : (qk == 0) = false := by rw [beq_eq_false_iff_ne]; exact hk0
        by_cases hk2 : qk = 2
        · subst hk2
          obtain ⟨E, HE⟩ : ∃ E, Hid (E = syncE D) := ⟨_, rfl⟩
          obtain ⟨D2, HD2e⟩ : ∃ D2, Hid (D2 = syncD D) := ⟨_, rfl⟩
          have HIW : Hid (Inv N (dn + 1) D2 ∧ (E = 10 ↔ overB N (dn + 1) = true) ∧ D2.waits.length ≤ D.waits.length + 1) := by rw [HE.out, HD2e.out]; exact HIN.out.sync
          have HWL2 : Hid (D2.waits.length ≤ i + 1) := by show _ ≤ _; have h1 := HIW.out.2.2; have h2 := HWL.out; omega
          go_wp2_with fail
          refine (disk_Sync wr w.heap.size g w.heap.size wv D HD.out).mono ?_
          rw [← HE.out, ← HD2e.out]
          rintro e w2 ⟨rfl, hd2, hm2⟩
          obtain ⟨wv2, hd2⟩ := hd2.out
          have HD2 : Hid (Disk w2 w.heap.size g w.heap.size wv2 D2) := hd2
          have HB2 : Hid (Below w.heap.size w w2) := HB.out.trans hm2.low
          clear hd2 hm2
          have HIN2 : Hid (Inv N (dn + 1) D2 ∧ (E = 10 ↔ overB N (dn + 1) = true)) := ⟨HIW.out.1, HIW.out.2.1⟩
          by_cases hov : 0 < N ∧ N ≤ dn + 1
          · have hE : E = 10 := HIN2.out.2.2 (decide_eq_true hov)
            have o1 : (0 : Int) < (N : Int) := by omega
            have o2 : (N : Int) ≤ (dn : Int) + 1 := by omega
            have o3 : N ≤ dn + 1 := hov.2
            have o4 : 0 < N := hov.1
            subst hE
            clear hov
            go_wp2
            go_roundw
            case rel => exact ⟨i + 1, dn + 1, wv2, D2, by omega, by omega, by go_num, by go_num, HD2, HIN2.out.1, HWL2, HB2⟩
            case measure => simp [intOf]; omega
          · have hE : E ≠ 10 := fun h => hov (of_decide_eq_true (HIN2.out.2.1 h))
            have hE' : (E == 10) = false := by rw [beq_eq_false_iff_ne]; exact hE
            by_cases hN0 : N = 0
            · have o1 : ¬ (0 : Int) < (N : Int) := by omega
              have o4 : ¬ 0 < N := by omega
              clear hov hN0
              go_wp2
              go_roundw
              case rel => exact ⟨i + 1, dn + 1, wv2, D2, by omega, by omega, by go_num, by go_num, HD2, HIN2.out.1, HWL2, HB2⟩
              case measure => simp [intOf]; omega
            · have o1 : (0 : Int) < (N : Int) := by omega
              have o2 : ¬ (N : Int) ≤ (dn : Int) + 1 := by omega
              have o3 : ¬ N ≤ dn + 1 := by omega
              have o4 : 0 < N := by omega
              clear hov
              go_wp2
              go_roundw
              case rel => exact ⟨i + 1, dn + 1, wv2, D2, by omega, by omega, by go_num, by go_num, HD2, HIN2.out.1, HWL2, HB2⟩
              case measure => simp [intOf]; omega
        · have hk2' : (qk == 2) = false := by rw [beq_eq_false_iff_ne]; exact hk2
          have HWL2 : Hid (D.waits.length ≤ i + 1) := by show _ ≤ _; have h2 := HWL.out; omega
          go_wp2
          go_roundw
          case rel => exact ⟨i + 1, dn, wv, D, by omega, by omega, by go_num, rfl, HD, HIN, HWL2, HB⟩
          case measure => simp [intOf]; omega
    · have hfin : (¬ i < n) ∨ (i < n ∧ i = 200) := by omega
      have HAG : Hid (D.age < 1000000000) := by show _ < _; rw [HIN.out.age]; decide
      have hthree : (0 < N ∧ N ≤ dn) ∨ N = 0 ∨ (0 < N ∧ dn < N) := by omega
      rcases hthree with ho | ho | ho
      · have HDN : Hid (D.down = true) := HIN.out.down.trans (decide_eq_true (by omega))
        have o1 : (0 : Int) < (N : Int) := by omega
        have o2 : (N : Int) ≤ (dn : Int) := by omega
        have o3 : N ≤ dn := by omega
        have o4 : 0 < N := by omega
        clear ho
        rcases hfin with h | h
        · have g1 : ¬ (i : Int) < (n : Int) := by omega
          clear h
          go_wp2_with fail
          refine (law_live wr).mono ?_
          rintro e w3 ⟨rfl, hb3⟩
          have HD3 : Hid (Disk w3 w.heap.size g w.heap.size wv D) := HD.out.stay hb3
          have HB3 : Hid (Below w.heap.size w w3) := HB.out.trans (hb3.mono HB.out.size)
          clear hb3
          go_wp2_with fail
          refine (disk_Down w3 w.heap.size g w.heap.size wv D HD3.out).mono ?_
          rw [HDN.out]
          rintro e w4 ⟨rfl, h4⟩
          subst w4
          go_wp2_with fail
          refine (disk_Crash w3 w.heap.size g w.heap.size wv D none 0 0 [] HD3.out (fun _ _ => ⟨rfl, .inl rfl⟩) (by simp) (by omega) HAG.out).mono ?_
          obtain ⟨D5, hD5⟩ : ∃ D5, D5 = crashD D [] := ⟨_, rfl⟩
          obtain ⟨z1, z2⟩ := end_inv D []
          rw [← hD5] at z1 z2 ⊢
          rintro e w5 ⟨rfl, hd5, hm5⟩
          have HD5 : Hid (Disk w5 w.heap.size g w.heap.size (.slice none 0 0) D5) := hd5.out
          have HB5 : Hid (Below w.heap.size w w5) := HB3.out.trans hm5.low
          have HZ1 : Hid (D5.down = false) := z1
          have HZ2 : Hid (syncE D5 = 0) := z2
          clear hd5 hm5 hD5 z1 z2
          go_wp2_with fail
          refine (disk_Down w5 w.heap.size g w.heap.size (.slice none 0 0) D5 HD5.out).mono ?_
          rw [HZ1.out]
          rintro e w6 ⟨rfl, h6⟩
          subst w6
          go_wp2_with fail
          refine (disk_Sync w5 w.heap.size g w.heap.size (.slice none 0 0) D5 HD5.out).mono ?_
          rw [HZ2.out]
          rintro e w7 ⟨rfl, hd7, hm7⟩
          have HB7 : Hid (Below w.heap.size w w7) := HB5.out.trans hm7.low
          clear hd7 hm7
          go_wp2
          go_ret
          exact ⟨rfl, HB7.out⟩
        · have g1 : (i : Int) < (n : Int) := by omega
          have g2 : ¬ (i : Int) < 200 := by omega
          clear h
          go_wp2_with fail
          refine (law_live wr).mono ?_
          rintro e w3 ⟨rfl, hb3⟩
          have HD3 : Hid (Disk w3 w.heap.size g w.heap.size wv D) := HD.out.stay hb3
          have HB3 : Hid (Below w.heap.size w w3) := HB.out.trans (hb3.mono HB.out.size)
          clear hb3
          go_wp2_with fail
          refine (disk_Down w3 w.heap.size g w.heap.size wv D HD3.out).mono ?_
          rw [HDN.out]
          rintro e w4 ⟨rfl, h4⟩
          subst w4
          go_wp2_with fail
          refine (disk_Crash w3 w.heap.size g w.heap.size wv D none 0 0 [] HD3.out (fun _ _ => ⟨rfl, .inl rfl⟩) (by simp) (by omega) HAG.out).mono ?_
          obtain ⟨D5, hD5⟩ : ∃ D5, D5 = crashD D [] := ⟨_, rfl⟩
          obtain ⟨z1, z2⟩ := end_inv D []
          rw [← hD5] at z1 z2 ⊢
          rintro e w5 ⟨rfl, hd5, hm5⟩
          have HD5 : Hid (Disk w5 w.heap.size g w.heap.size (.slice none 0 0) D5) := hd5.out
          have HB5 : Hid (Below w.heap.size w w5) := HB3.out.trans hm5.low
          have HZ1 : Hid (D5.down = false) := z1
          have HZ2 : Hid (syncE D5 = 0) := z2
          clear hd5 hm5 hD5 z1 z2
          go_wp2_with fail
          refine (disk_Down w5 w.heap.size g w.heap.size (.slice none 0 0) D5 HD5.out).mono ?_
          rw [HZ1.out]
          rintro e w6 ⟨rfl, h6⟩
          subst w6
          go_wp2_with fail
          refine (disk_Sync w5 w.heap.size g w.heap.size (.slice none 0 0) D5 HD5.out).mono ?_
          rw [HZ2.out]
          rintro e w7 ⟨rfl, hd7, hm7⟩
          have HB7 : Hid (Below w.heap.size w w7) := HB5.out.trans hm7.low
          clear hd7 hm7
          go_wp2
          go_ret
          exact ⟨rfl, HB7.out⟩
      · have HDN : Hid (D.down = false) := HIN.out.down.trans (decide_eq_false (by omega))
        have o1 : ¬ (0 : Int) < (N : Int) := by omega
        have o4 : ¬ 0 < N := by omega
        clear ho
        rcases hfin with h | h
        · have g1 : ¬ (i : Int) < (n : Int) := by omega
          clear h
          go_wp2_with fail
          refine (law_live wr).mono ?_
          rintro e w3 ⟨rfl, hb3⟩
          have HD3 : Hid (Disk w3 w.heap.size g w.heap.size wv D) := HD.out.stay hb3
          have HB3 : Hid (Below w.heap.size w w3) := HB.out.trans (hb3.mono HB.out.size)
          clear hb3
          go_wp2_with fail
          refine (disk_Down w3 w.heap.size g w.heap.size wv D HD3.out).mono ?_
          rw [HDN.out]
          rintro e w4 ⟨rfl, h4⟩
          subst w4
          go_wp2_with fail
          refine (disk_Crash w3 w.heap.size g w.heap.size wv D none 0 0 [] HD3.out (fun _ _ => ⟨rfl, .inl rfl⟩) (by simp) (by omega) HAG.out).mono ?_
          obtain ⟨D5, hD5⟩ : ∃ D5, D5 = crashD D [] := ⟨_, rfl⟩
          obtain ⟨z1, z2⟩ := end_inv D []
          rw [← hD5] at z1 z2 ⊢
          rintro e w5 ⟨rfl, hd5, hm5⟩
          have HD5 : Hid (Disk w5 w.heap.size g w.heap.size (.slice none 0 0) D5) := hd5.out
          have HB5 : Hid (Below w.heap.size w w5) := HB3.out.trans hm5.low
          have HZ1 : Hid (D5.down = false) := z1
          have HZ2 : Hid (syncE D5 = 0) := z2
          clear hd5 hm5 hD5 z1 z2
          go_wp2_with fail
          refine (disk_Down w5 w.heap.size g w.heap.size (.slice none 0 0) D5 HD5.out).mono ?_
          rw [HZ1.out]
          rintro e w6 ⟨rfl, h6⟩
          subst w6
          go_wp2_with fail
          refine (disk_Sync w5 w.heap.size g w.heap.size (.slice none 0 0) D5 HD5.out).mono ?_
          rw [HZ2.out]
          rintro e w7 ⟨rfl, hd7, hm7⟩
          have HB7 : Hid (Below w.heap.size w w7) := HB5.out.trans hm7.low
          clear hd7 hm7
          go_wp2
          go_ret
          exact ⟨rfl, HB7.out⟩
        · have g1 : (i : Int) < (n : Int) := by omega
          have g2 : ¬ (i : Int) < 200 := by omega
          clear h
          go_wp2_with fail
          refine (law_live wr).mono ?_
          rintro e w3 ⟨rfl, hb3⟩
          have HD3 : Hid (Disk w3 w.heap.size g w.heap.size wv D) := HD.out.stay hb3
          have HB3 : Hid (Below w.heap.size w w3) := HB.out.trans (hb3.mono HB.out.size)
          clear hb3
          go_wp2_with fail
          refine (disk_Down w3 w.heap.size g w.heap.size wv D HD3.out).mono ?_
          rw [HDN.out]
          rintro e w4 ⟨rfl, h4⟩
          subst w4
          go_wp2_with fail
          refine (disk_Crash w3 w.heap.size g w.heap.size wv D none 0 0 [] HD3.out (fun _ _ => ⟨rfl, .inl rfl⟩) (by simp) (by omega) HAG.out).mono ?_
          obtain ⟨D5, hD5⟩ : ∃ D5, D5 = crashD D [] := ⟨_, rfl⟩
          obtain ⟨z1, z2⟩ := end_inv D []
          rw [← hD5] at z1 z2 ⊢
          rintro e w5 ⟨rfl, hd5, hm5⟩
          have HD5 : Hid (Disk w5 w.heap.size g w.heap.size (.slice none 0 0) D5) := hd5.out
          have HB5 : Hid (Below w.heap.size w w5) := HB3.out.trans hm5.low
          have HZ1 : Hid (D5.down = false) := z1
          have HZ2 : Hid (syncE D5 = 0) := z2
          clear hd5 hm5 hD5 z1 z2
          go_wp2_with fail
          refine (disk_Down w5 w.heap.size g w.heap.size (.slice none 0 0) D5 HD5.out).mono ?_
          rw [HZ1.out]
          rintro e w6 ⟨rfl, h6⟩
          subst w6
          go_wp2_with fail
          refine (disk_Sync w5 w.heap.size g w.heap.size (.slice none 0 0) D5 HD5.out).mono ?_
          rw [HZ2.out]
          rintro e w7 ⟨rfl, hd7, hm7⟩
          have HB7 : Hid (Below w.heap.size w w7) := HB5.out.trans hm7.low
          clear hd7 hm7
          go_wp2
          go_ret
          exact ⟨rfl, HB7.out⟩
      · have HDN : Hid (D.down = false) := HIN.out.down.trans (decide_eq_false (by omega))
        have o1 : (0 : Int) < (N : Int) := by omega
        have o2 : ¬ (N : Int) ≤ (dn : Int) := by omega
        have o3 : ¬ N ≤ dn := by omega
        have o4 : 0 < N := by omega
        clear ho
        rcases hfin with h | h
        · have g1 : ¬ (i : Int) < (n : Int) := by omega
          clear h
          go_wp2_with fail
          refine (law_live wr).mono ?_
          rintro e w3 ⟨rfl, hb3⟩
          have HD3 : Hid (Disk w3 w.heap.size g w.heap.size wv D) := HD.out.stay hb3
          have HB3 : Hid (Below w.heap.size w w3) := HB.out.trans (hb3.mono HB.out.size)
          clear hb3
          go_wp2_with fail
          refine (disk_Down w3 w.heap.size g w.heap.size wv D HD3.out).mono ?_
          rw [HDN.out]
          rintro e w4 ⟨rfl, h4⟩
          subst w4
          go_wp2_with fail
          refine (disk_Crash w3 w.heap.size g w.heap.size wv D none 0 0 [] HD3.out (fun _ _ => ⟨rfl, .inl rfl⟩) (by simp) (by omega) HAG.out).mono ?_
          obtain ⟨D5, hD5⟩ : ∃ D5, D5 = crashD D [] := ⟨_, rfl⟩
          obtain ⟨z1, z2⟩ := end_inv D []
          rw [← hD5] at z1 z2 ⊢
          rintro e w5 ⟨rfl, hd5, hm5⟩
          have HD5 : Hid (Disk w5 w.heap.size g w.heap.size (.slice none 0 0) D5) := hd5.out
          have HB5 : Hid (Below w.heap.size w w5) := HB3.out.trans hm5.low
          have HZ1 : Hid (D5.down = false) := z1
          have HZ2 : Hid (syncE D5 = 0) := z2
          clear hd5 hm5 hD5 z1 z2
          go_wp2_with fail
          refine (disk_Down w5 w.heap.size g w.heap.size (.slice none 0 0) D5 HD5.out).mono ?_
          rw [HZ1.out]
          rintro e w6 ⟨rfl, h6⟩
          subst w6
          go_wp2_with fail
          refine (disk_Sync w5 w.heap.size g w.heap.size (.slice none 0 0) D5 HD5.out).mono ?_
          rw [HZ2.out]
          rintro e w7 ⟨rfl, hd7, hm7⟩
          have HB7 : Hid (Below w.heap.size w w7) := HB5.out.trans hm7.low
          clear hd7 hm7
          go_wp2
          go_ret
          exact ⟨rfl, HB7.out⟩
        · have g1 : (i : Int) < (n : Int) := by omega
          have g2 : ¬ (i : Int) < 200 := by omega
          clear h
          go_wp2_with fail
          refine (law_live wr).mono ?_
          rintro e w3 ⟨rfl, hb3⟩
          have HD3 : Hid (Disk w3 w.heap.size g w.heap.size wv D) := HD.out.stay hb3
          have HB3 : Hid (Below w.heap.size w w3) := HB.out.trans (hb3.mono HB.out.size)
          clear hb3
          go_wp2_with fail
          refine (disk_Down w3 w.heap.size g w.heap.size wv D HD3.out).mono ?_
          rw [HDN.out]
          rintro e w4 ⟨rfl, h4⟩
          subst w4
          go_wp2_with fail
          refine (disk_Crash w3 w.heap.size g w.heap.size wv D none 0 0 [] HD3.out (fun _ _ => ⟨rfl, .inl rfl⟩) (by simp) (by omega) HAG.out).mono ?_
          obtain ⟨D5, hD5⟩ : ∃ D5, D5 = crashD D [] := ⟨_, rfl⟩
          obtain ⟨z1, z2⟩ := end_inv D []
          rw [← hD5] at z1 z2 ⊢
          rintro e w5 ⟨rfl, hd5, hm5⟩
          have HD5 : Hid (Disk w5 w.heap.size g w.heap.size (.slice none 0 0) D5) := hd5.out
          have HB5 : Hid (Below w.heap.size w w5) := HB3.out.trans hm5.low
          have HZ1 : Hid (D5.down = false) := z1
          have HZ2 : Hid (syncE D5 = 0) := z2
          clear hd5 hm5 hD5 z1 z2
          go_wp2_with fail
          refine (disk_Down w5 w.heap.size g w.heap.size (.slice none 0 0) D5 HD5.out).mono ?_
          rw [HZ1.out]
          rintro e w6 ⟨rfl, h6⟩
          subst w6
          go_wp2_with fail
          refine (disk_Sync w5 w.heap.size g w.heap.size (.slice none 0 0) D5 HD5.out).mono ?_
          rw [HZ2.out]
          rintro e w7 ⟨rfl, hd7, hm7⟩
          have HB7 : Hid (Below w.heap.size w w7) := HB5.out.trans hm7.low
          clear hd7 hm7
          go_wp2
          go_ret
          exact ⟨rfl, HB7.out⟩

theorem contract (H : Type) (enc : TypeId × Value → H) (W : World) (base : Nat) (args : Array Value) (ds gs : List (DataW H)) (before : List MemPlace)
    (hval : ∀ (j : Nat) t v, Try.f5.params[j]? = some t → args[j]? = some v → Value.okWide Try.prog W .any base t v)
    (hW : DataW.Whole enc Try.prog Try.f5.params.toList Rows.sectorTripsSpec.vars false W args.toList ds gs before) :
    Calls Try.prog 5 args W fun e W' => ∃ v, e = .returned v ∧ Rows.sectorTripsSpec.post enc Try.prog Try.f5 false true false false W args v W' := by
  have hW' := hW
  obtain ⟨p, q, hA0, hV, rfl, hfz, hnd⟩ := hW
  have hA : DataW.TrodAll enc Try.prog W 0 (fun _ => true) true Try.f5.params.toList args.toList ds p := hA0
  have hK := hA
  rw [Try.params5] at hA hval
  obtain ⟨v0, vs0, d0, ds0, p0, q0, hargs, rfl, rfl, h0, r0⟩ := trodAll_cons hA
  obtain ⟨v1, vs1, d1, ds1, p1, q1, rfl, rfl, rfl, h1, r1⟩ := trodAll_cons r0
  obtain ⟨rfl, rfl, rfl⟩ := trodAll_nil r1
  obtain rfl : args = #[v0, v1] := by cases args; simp_all
  obtain ⟨rfl, rfl⟩ := trodVars_none hV
  obtain ⟨x1, rfl, rfl, rfl, w1⟩ := open_int Try.underlying5 (hval 1 5 v1 rfl rfl) h1
  have b1 : (0 : Int) ≤ x1 ∧ x1 ≤ 255 := by simpa [Lit.wf, IntKind.min, IntKind.max, IntKind.signed, IntKind.bits] using w1
  obtain ⟨n1, rfl⟩ := Int.eq_ofNat_of_zero_le b1.1
  obtain ⟨a0, len0, cap0, rfl⟩ := okWide_slice Try.underlying37 (hval 0 37 v0 rfl rfl)
  obtain ⟨l0, rd0, _, _⟩ := open_deeds h0
  refine (walk a0 len0 cap0 l0 n1 W rd0 (by omega)).mono fun e W' ⟨he, bel⟩ => ?_
  subst he
  exact ⟨_, rfl, _, _, _, [], _, [], hW', trodAll_mk1 (shut_bool Try.underlying4 _), trodAll_below laidOut bel _ _ _ _ (by kernel_rfl) hK, rfl, bel.frame _, fun h => by cases h⟩

set_option maxRecDepth 100000 in
theorem lifted (os : Os) (started : os.Started) (H : Type) (enc : TypeId × Value → H) :
    ReturnsInHanded {} Try.checked os 5 .any (Rows.sectorTripsSpec.pre6 enc Try.prog Try.f5 Rows.sectorTripsRow.domain false) (Rows.sectorTripsSpec.post enc Try.prog Try.f5 false true false false) := by
  refine returnsInHanded_of_change (C := Try.checked) own started (by kernel_rfl) Try.func5
    (ChangeSpec.witness6 (enc := enc) (C := Try.checked) false ⟨#[], #[.slice none 0 0, .int .u8 0], []⟩ 8 (by kernel_rfl) (by kernel_rfl) (by kernel_rfl) (by kernel_rfl)) ?_
  intro W base args ds gs before hval hW _ _
  exact contract H enc W base args ds gs before hval hW

theorem said : Rows.SectorTripsSaid :=
  OpenClaim.holds_of_wide 5 Try.f5 rfl rfl rfl rfl rfl rfl rfl ⟨rfl, rfl, rfl, rfl, rfl⟩ rfl rfl rfl rfl rfl (by kernel_rfl) Try.func5 (by kernel_rfl)
    (of_decide_eq_true (by kernel_rfl)) (by unfold Func.isWrapper; first | (rw [if_pos (by decide +kernel)]; kernel_rfl) | (rw [if_neg (by decide +kernel)]; exact ⟨rfl, rfl⟩))
    (fun os started H enc _ => lifted os started H enc)
end sectorTrips

theorem sectorTrips_holds : Rows.SectorTripsSaid := sectorTrips.said
end Go.Proofs.Ytfkephohdfmnlaa

