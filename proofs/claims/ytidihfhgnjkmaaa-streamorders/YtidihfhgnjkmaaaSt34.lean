/- grapevinelaw15.bodies: the walk. -/
import Derived.Test.YtidihfhgnjkmaaaBodyP
namespace Go.Proofs.Ytidihfhgnjkmaaa
set_option maxRecDepth 100000
open Go.RowKit Go.Maps Go.Sort Go.Shelf

set_option maxHeartbeats 16000000 in
theorem law_bodies (a : Option Addr) (n c : Nat) (l : List Pa) (w : World) (h : PasRd w a n l) (hnc : n ≤ c ∧ c ≤ maxLen) :
    Calls Try.prog 4 #[.slice a n c] w fun e w' => ∃ v L, e = .returned v ∧ Bodies w' w.heap.size v L ∧ L.length ≤ 8 ∧ Below w.heap.size w w' := by
  have HP : Hid (PasRd w a n l) := h
  have hn : n ≤ 9223372036854775807 := by have := hnc.1; have := hnc.2; unfold maxLen at this; omega
  clear h hnc
  go_enter Try.func4, Try.ntmps4
  go_wp2
  go_loopw [3, 4, 5] (fun t3 t4 t5 wr => ∃ (i N : Nat) (L : List Pa), t4 = .int .i64 (N : Int) ∧ t5 = .int .i64 (i : Int) ∧ i ≤ n ∧ i ≤ 8 ∧ N ≤ 64 ∧ Hid (N = tot L ∧ L.length ≤ i) ∧ Hid (Bodies wr w.heap.size t3 L) ∧ Hid (Below w.heap.size w wr)) (fun _ _ t5 _ => 8 - (intOf t5).toNat)
  case atStart => exact ⟨0, 0, [], rfl, rfl, by omega, by omega, by omega, ⟨rfl, Nat.le_refl _⟩, ⟨Prow.nil_ _ _, fun q hq => (by cases hq), (by show 0 ≤ 64; omega)⟩, Below.refl _ _⟩
  case round =>
    obtain ⟨w0, rfl⟩ : ∃ w0, w0 = wr := ⟨wr, rfl⟩
    obtain ⟨i, N, L, rfl, rfl, hin, hi8, hN, HN, HBO, HX⟩ := hrel
    obtain ⟨va, vc, rfl⟩ := HBO.out.row.form
    by_cases hlt : i < n
    · by_cases h8 : i < 8
      · have hlt' : (i : Int) < (n : Int) := by omega
        have h8' : (i : Int) < 8 := by omega
        have gi : (0 : Int) ≤ (i : Int) := by omega
        obtain ⟨g, o, rfl, hg, ⟨p, sa, sn, sc, ia, im, ic⟩, hq, hok, d0, d1, d2, d3, d4, d5, d6, d7⟩ := (HP.out.below HX.out).spot i hlt
        obtain ⟨hrd, hbig⟩ := hok
        have HRD : Hid (PcRd w0 p sa sn sc ia im ic) := hrd
        have HBG : Hid (PcBig p sa sc ia ic) := hbig
        have HIL : Hid (p.items.length = im) := hrd.items.size
        have HIF : Hid (∀ q ∈ p.items, ((-9223372036854775808 : Int) ≤ q.tick ∧ q.tick ≤ 9223372036854775807) ∧ (0 ≤ q.for_ ∧ q.for_ ≤ 4294967295)) := hrd.items.each
        clear hrd hbig hq
        simp only at d0 d1 d2 d3 d4 d5 d6 d7
        go_upto_region 6 with fail
        go_wp2_with (go_at_call 12; refine (law_owned p sa sn sc ia im ic w0 HRD.out HBG.out.sz (by have := HRD.out.sl; have := HBG.out.sb; omega) (by have := HRD.out.il; have := HBG.out.ib; omega) HBG.out.bb).mono ?_; rintro e1 w1 ⟨ta, tc, ja, jc, rfl, ho1, hb1⟩)
        obtain ⟨W2, HW2⟩ : ∃ W2, Hid (W2 = w1.alloc (.cells #[.int .i64 p.kind, .int .i64 p.pub, .int .i64 p.sub, .int .i64 p.n_, .int .i64 p.fr, .int .i64 p.to_, .slice ta sn tc, .slice ja im jc] 33)) := ⟨_, rfl⟩
        have HO2 : Hid (OwnPc W2 w0.heap.size p ta sn tc ja im jc) := by (show OwnPc _ _ _ _ _ _ _ _ _); rw [HW2.out]; exact ho1.below (below_alloc _ _)
        have HB2 : Hid (Below w0.heap.size w0 W2) := by (show Below _ _ _); rw [HW2.out]; exact hb1.trans ((below_alloc _ _).mono hb1.size)
        obtain ⟨gv, HGV⟩ : ∃ gv, Hid (gv = w1.heap.size) := ⟨_, rfl⟩
        have HV2 : Hid (Bk W2 gv #[.int .i64 p.kind, .int .i64 p.pub, .int .i64 p.sub, .int .i64 p.n_, .int .i64 p.fr, .int .i64 p.to_, .slice ta sn tc, .slice ja im jc] 33) := by (show Bk _ _ _ _); rw [HW2.out, HGV.out]; exact Bk.new _ _ _
        have HRD2 : Hid (PcRd W2 p ta sn tc ja im jc) := HO2.out.rd HIF.out
        have HJM : Hid (im ≤ jc ∧ jc ≤ maxLen) := ⟨HRD2.out.il, HRD2.out.im_⟩
        clear ho1 hb1 d0 d1 d2 d3 d4 d5 d6 d7
        have e0 : W2.cell? ⟨gv, 0, none⟩ = some (.int .i64 p.kind) := HV2.out.cell 0 rfl
        have e1 : W2.cell? ⟨gv, 1, none⟩ = some (.int .i64 p.pub) := HV2.out.cell 1 rfl
        have e2 : W2.cell? ⟨gv, 2, none⟩ = some (.int .i64 p.sub) := HV2.out.cell 2 rfl
        have e3 : W2.cell? ⟨gv, 3, none⟩ = some (.int .i64 p.n_) := HV2.out.cell 3 rfl
        have e4 : W2.cell? ⟨gv, 4, none⟩ = some (.int .i64 p.fr) := HV2.out.cell 4 rfl
        have e5 : W2.cell? ⟨gv, 5, none⟩ = some (.int .i64 p.to_) := HV2.out.cell 5 rfl
        have e6 : W2.cell? ⟨gv, 6, none⟩ = some (.slice ta sn tc) := HV2.out.cell 6 rfl
        have e7 : W2.cell? ⟨gv, 7, none⟩ = some (.slice ja im jc) := HV2.out.cell 7 rfl
        obtain ⟨ck, HCK⟩ : ∃ ck, Hid (ck = chk p) := ⟨_, rfl⟩
        obtain ⟨kd, HKD⟩ : ∃ kd, Hid (kd = p.kind) := ⟨_, rfl⟩
        go_upto_region 7 with fail
        rw [← HGV.out, ← HW2.out]
        have key : Calls Try.prog 13 #[p.val ta sn tc ja im jc] W2 fun e w' => e = .returned (.int .i64 ck) ∧ Below W2.heap.size W2 w' := by rw [HCK.out]; exact ref_Check p ta sn tc ja im jc W2 HRD2.out
        by_cases hck : ck = 0
        · by_cases hkd : kd = 1
          · have hkd' : p.kind = 1 := by rw [← HKD.out]; exact hkd
            have HIM : Hid (p.kind = 1 ∧ chk p = 0) := ⟨hkd', by rw [← HCK.out]; exact hck⟩
            have him : im ≤ 8 := by have := (chk_tell HIM.out.1 HIM.out.2).2.1; have := HIL.out; omega
            subst hck
            by_cases h64 : 64 < N + im
            · have h64' : (64 : Int) < (N : Int) + (im : Int) := by omega
              go_wp2_with (go_at_call 13; refine key.mono ?_; rintro e3 w3 ⟨rfl, hb3⟩; have HB3 : Hid (Below W2.heap.size W2 w3) := hb3; have hv3 := HV2.out.stay hb3; have k0 : w3.cell? ⟨gv, 0, none⟩ = some (.int .i64 p.kind) := hv3.cell 0 rfl; have k7 : w3.cell? ⟨gv, 7, none⟩ = some (.slice ja im jc) := hv3.cell 7 rfl; clear hb3)
              go_roundw
              case rel => exact ⟨i + 1, N, L, rfl, by go_num, by omega, by omega, hN, ⟨HN.out.1, Nat.le_succ_of_le HN.out.2⟩, ⟨HBO.out.row.below (HB2.out.trans (HB3.out.mono HB2.out.size)), HBO.out.ok, HBO.out.few⟩, HX.out.trans ((HB2.out.trans (HB3.out.mono HB2.out.size)).mono HX.out.size)⟩
              case measure => simp [intOf]; omega
            · have h64' : ¬ (64 : Int) < (N : Int) + (im : Int) := by omega
              go_wp2_with (go_at_call 13; refine key.mono ?_; rintro e3 w3 ⟨rfl, hb3⟩; have HB3 : Hid (Below W2.heap.size W2 w3) := hb3; have hv3 := HV2.out.stay hb3; have k0 : w3.cell? ⟨gv, 0, none⟩ = some (.int .i64 p.kind) := hv3.cell 0 rfl; have k7 : w3.cell? ⟨gv, 7, none⟩ = some (.slice ja im jc) := hv3.cell 7 rfl; clear hb3)
              have HV3 : Hid (Bk w3 gv #[.int .i64 p.kind, .int .i64 p.pub, .int .i64 p.sub, .int .i64 p.n_, .int .i64 p.fr, .int .i64 p.to_, .slice ta sn tc, .slice ja im jc] 33) := HV2.out.stay HB3.out
              have HO3 : Hid (OwnPc w3 w0.heap.size p ta sn tc ja im jc) := HO2.out.below HB3.out
              have HB3' : Hid (Below w0.heap.size w0 w3) := HB2.out.trans (HB3.out.mono HB2.out.size)
              obtain ⟨L0, hL0, hL1⟩ := HO3.out.items
              go_loopw [7] (fun t7 wr2 => ∃ (k : Nat) (M : List (It × Bd)), t7 = .int .i64 (k : Int) ∧ k ≤ im ∧ Hid (Its wr2 w0.heap.size (.slice ja im jc) M ∧ M.map Prod.fst = (p.items.take k).map turnI ++ p.items.drop k) ∧ Hid (Bk wr2 gv #[.int .i64 p.kind, .int .i64 p.pub, .int .i64 p.sub, .int .i64 p.n_, .int .i64 p.fr, .int .i64 p.to_, .slice ta sn tc, .slice ja im jc] 33) ∧ Hid (Sps wr2 w0.heap.size (.slice ta sn tc) p.spans) ∧ Hid (Below w0.heap.size w0 wr2)) (fun t7 _ => im - (intOf t7).toNat)
              case atStart => exact ⟨0, L0, rfl, by omega, ⟨hL0, hL1⟩, HV3, HO3.out.spans, HB3'⟩
              case round =>
                obtain ⟨k, M, rfl, hk, HM, HV, HS, HY⟩ := hrel
                have c7 := HV.out.cell 7 (v := .slice ja im jc) rfl
                by_cases hki : k < im
                · have hki' : (k : Int) < (im : Int) := by omega
                  have gk : (0 : Int) ≤ (k : Int) := by omega
                  have hML : M.length = im := by obtain ⟨a1, c1, hv1, _⟩ := HM.out.1.form; simp only [Value.slice.injEq] at hv1; exact hv1.2.1.symm
                  obtain ⟨M1, ⟨q, b⟩, M2, hM, hl1⟩ := list_spot M k (by omega)
                  subst hM
                  obtain ⟨g3, rfl, t0, t1, t2⟩ := HM.out.1.cell
                  rw [hl1] at t0 t1 t2
                  have HST := inner_step HM.out.1 HS.out HV.out HY.out.size
                  clear key k0 k7 e0 e1 e2 e3 e4 e5 e6 e7
                  have f2 := (HM.out.1.rowFree (k * 3 + 2)).1
                  have hal := below_alloc wr (.cells #[.int .u8 (q.tick % 256), .int .u8 (q.tick / 256 % 256)] 5)
                  have c7a := (HV.out.stay hal).cell 7 (v := .slice (some ⟨g3, 0, none⟩) im jc) rfl
                  have t0a := (HM.out.1.below hal).cell
                  obtain ⟨g4, hg4, t0a, t1a, t2a⟩ := t0a
                  cases hg4
                  rw [hl1] at t0a t1a t2a
                  have f2a := ((HM.out.1.below hal).rowFree (k * 3 + 2)).1
                  rw [IntKind.wrap_u8', IntKind.wrap_u8'] at HST
                  clear hal
                  go_upto_region 11 with fail
                  go_big_region
                  rw [hl1] at HST
                  obtain ⟨W5, hW5⟩ : ∃ W5, W5 = ((wr.alloc (.cells #[.int .u8 (q.tick % 256), .int .u8 (q.tick / 256 % 256)] 5)).setCell ⟨g3, k * 3 + 2, none⟩ (.slice (some ⟨wr.heap.size, 0, none⟩) 2 2)).drew := ⟨_, rfl⟩
                  rw [← hW5]
                  have HST5 : Hid (Its W5 w0.heap.size (.slice (some ⟨g3, 0, none⟩) im jc) (M1 ++ (turnI q, (some ⟨wr.heap.size, 0, none⟩, 2, 2)) :: M2) ∧ Sps W5 w0.heap.size (.slice ta sn tc) p.spans ∧ Bk W5 gv #[.int .i64 p.kind, .int .i64 p.pub, .int .i64 p.sub, .int .i64 p.n_, .int .i64 p.fr, .int .i64 p.to_, .slice ta sn tc, .slice (some ⟨g3, 0, none⟩) im jc] 33 ∧ Below w0.heap.size wr W5) := by
                    (show _ ∧ _)
                    rw [hW5]
                    exact ⟨HST.1.below (Below.refl _ _).drew, HST.2.1.below (Below.refl _ _).drew, HST.2.2.1.stay (Below.refl _ _).drew, HST.2.2.2.drew⟩
                  have HM5 : Hid ((M1 ++ (turnI q, ((some ⟨wr.heap.size, 0, none⟩, 2, 2) : Bd)) :: M2).map Prod.fst = (p.items.take (k + 1)).map turnI ++ p.items.drop (k + 1)) := turn_step hl1 (by have := HIL.out; omega) HM.out.2
                  clear HST hW5 c7 c7a t0 t1 t2 t0a t1a t2a f2 f2a
                  go_wp2
                  go_roundw
                  case rel => exact ⟨k + 1, _, by go_num, by omega, ⟨HST5.out.1, HM5.out⟩, HST5.out.2.2.1, HST5.out.2.1, HY.out.trans HST5.out.2.2.2⟩
                  case measure => simp [intOf]; omega
                · have hki' : ¬ (k : Int) < (im : Int) := by omega
                  obtain rfl : k = im := by omega
                  clear key k0 k7 e0 e1 e2 e3 e4 e5 e6 e7
                  have k0 : wr.cell? ⟨gv, 0, none⟩ = some (.int .i64 p.kind) := HV.out.cell 0 rfl
                  have k1 : wr.cell? ⟨gv, 1, none⟩ = some (.int .i64 p.pub) := HV.out.cell 1 rfl
                  have k2 : wr.cell? ⟨gv, 2, none⟩ = some (.int .i64 p.sub) := HV.out.cell 2 rfl
                  have k3 : wr.cell? ⟨gv, 3, none⟩ = some (.int .i64 p.n_) := HV.out.cell 3 rfl
                  have k4 : wr.cell? ⟨gv, 4, none⟩ = some (.int .i64 p.fr) := HV.out.cell 4 rfl
                  have k5 : wr.cell? ⟨gv, 5, none⟩ = some (.int .i64 p.to_) := HV.out.cell 5 rfl
                  have k6 : wr.cell? ⟨gv, 6, none⟩ = some (.slice ta sn tc) := HV.out.cell 6 rfl
                  have HQ : Hid (OwnPc wr w.heap.size (turnP p) ta sn tc ja k jc) := by
                    refine ⟨HS.out.lower HX.out.size, M, HM.out.1.lower HX.out.size, ?_⟩
                    rw [HM.out.2, ← HIL.out, List.take_length, List.drop_length, List.append_nil]
                    rfl
                  have HR : Hid (Prow wr w.heap.size (.slice va L.length vc) L) := HBO.out.row.below HY.out
                  have HZ : Hid (w.heap.size ≤ wr.heap.size) := Nat.le_trans HX.out.size HY.out.size
                  have HLL : Hid (L.length ≤ 1000000) := by (show _ ≤ _); have := HN.out.2; omega
                  have HPT : Hid (∀ j u, (pacells ⟨turnP p, ta, sn, tc, ja, k, jc⟩)[j]? = some u → (wr.alloc (.cells #[.int .i64 1, .int .i64 p.pub, .int .i64 p.sub, .int .i64 p.n_, .int .i64 p.fr, .int .i64 p.to_, .slice ta sn tc, .slice ja k jc] 33)).cell? ((⟨wr.heap.size, 0, none⟩ : Addr).add j) = some u) := by
                    have h1 := pa_told (Bk.new wr (pacells ⟨turnP p, ta, sn, tc, ja, k, jc⟩).toArray 33)
                    have e : (pacells ⟨turnP p, ta, sn, tc, ja, k, jc⟩).toArray = #[.int .i64 1, .int .i64 p.pub, .int .i64 p.sub, .int .i64 p.n_, .int .i64 p.fr, .int .i64 p.to_, .slice ta sn tc, .slice ja k jc] := by
                      show #[Value.int .i64 p.kind, .int .i64 p.pub, .int .i64 p.sub, .int .i64 p.n_, .int .i64 p.fr, .int .i64 p.to_, .slice ta sn tc, .slice ja k jc] = _
                      rw [hkd']
                    rw [e] at h1
                    exact h1
                  go_wp2_with (at_builtin; refine wpList_append_pa rfl (.tmp 72) (.tmp 74) rfl w.heap.size _ L rfl (HR.out.below (below_alloc _ _)) ⟨wr.heap.size, 0, none⟩ 1 ⟨turnP p, ta, sn, tc, ja, k, jc⟩ rfl HPT.out (HQ.out.below (below_alloc _ _)) HLL.out (Nat.le_trans HZ.out (below_alloc _ _).size) ?_)
                  intro v6 w6 hp6 hg6 hb6
                  have HB6 : Hid (Below w.heap.size wr w6) := ((below_alloc wr _).mono HZ.out).trans hb6
                  have HP6 : Hid (Prow w6 w.heap.size v6 (L ++ [⟨turnP p, ta, sn, tc, ja, k, jc⟩])) := hp6
                  clear hp6 hg6 hb6
                  go_wp2
                  go_roundw
                  case rel =>
                    have ht : tot (L ++ [⟨turnP p, ta, sn, tc, ja, k, jc⟩]) = N + k := by rw [tot_snoc, HN.out.1]; show _ + (p.items.map turnI).length = _; rw [List.length_map, HIL.out]
                    refine ⟨i + 1, N + k, L ++ [⟨turnP p, ta, sn, tc, ja, k, jc⟩], by go_num, by go_num, by omega, by omega, by omega, ⟨ht.symm, by rw [List.length_append, List.length_singleton]; have := HN.out.2; omega⟩, ⟨HP6.out, fun q hq => ?_, by rw [ht]; omega⟩, (HX.out.trans (HY.out.mono HX.out.size)).trans HB6.out⟩
                    rcases List.mem_append.1 hq with hq | hq
                    · exact HBO.out.ok q hq
                    · obtain rfl := List.mem_singleton.1 hq
                      exact turn_ok HIM.out.1 HIM.out.2 fun x hx => (HIF.out x hx).2
                  case measure => simp [intOf]; omega
          · have hkd' : p.kind ≠ 1 := by rw [← HKD.out]; exact hkd
            subst hck
            go_wp2_with (go_at_call 13; refine key.mono ?_; rintro e3 w3 ⟨rfl, hb3⟩; have HB3 : Hid (Below W2.heap.size W2 w3) := hb3; have hv3 := HV2.out.stay hb3; have k0 : w3.cell? ⟨gv, 0, none⟩ = some (.int .i64 p.kind) := hv3.cell 0 rfl; have k7 : w3.cell? ⟨gv, 7, none⟩ = some (.slice ja im jc) := hv3.cell 7 rfl; clear hb3)
            go_roundw
            case rel => exact ⟨i + 1, N, L, rfl, by go_num, by omega, by omega, hN, ⟨HN.out.1, Nat.le_succ_of_le HN.out.2⟩, ⟨HBO.out.row.below (HB2.out.trans (HB3.out.mono HB2.out.size)), HBO.out.ok, HBO.out.few⟩, HX.out.trans ((HB2.out.trans (HB3.out.mono HB2.out.size)).mono HX.out.size)⟩
            case measure => simp [intOf]; omega
        · go_wp2_with (go_at_call 13; refine key.mono ?_; rintro e3 w3 ⟨rfl, hb3⟩; have HB3 : Hid (Below W2.heap.size W2 w3) := hb3; have hv3 := HV2.out.stay hb3; have k0 : w3.cell? ⟨gv, 0, none⟩ = some (.int .i64 p.kind) := hv3.cell 0 rfl; have k7 : w3.cell? ⟨gv, 7, none⟩ = some (.slice ja im jc) := hv3.cell 7 rfl; clear hb3)
          go_roundw
          case rel => exact ⟨i + 1, N, L, rfl, by go_num, by omega, by omega, hN, ⟨HN.out.1, Nat.le_succ_of_le HN.out.2⟩, ⟨HBO.out.row.below (HB2.out.trans (HB3.out.mono HB2.out.size)), HBO.out.ok, HBO.out.few⟩, HX.out.trans ((HB2.out.trans (HB3.out.mono HB2.out.size)).mono HX.out.size)⟩
          case measure => simp [intOf]; omega
      · have hlt' : (i : Int) < (n : Int) := by omega
        have h8' : ¬ (i : Int) < 8 := by omega
        go_wp2
        go_ret
        exact ⟨_, rfl, L, HBO.out, by have := HN.out.2; omega, HX.out⟩
    · have hlt' : ¬ (i : Int) < (n : Int) := by omega
      go_wp2
      go_ret
      exact ⟨_, rfl, L, HBO.out, by have := HN.out.2; omega, HX.out⟩
end Go.Proofs.Ytidihfhgnjkmaaa
