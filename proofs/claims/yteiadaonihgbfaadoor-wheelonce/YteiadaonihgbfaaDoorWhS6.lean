/- slices.symMergeCmpFunc: two sorted rows, one behind the other, are made one. -/
import Derived.Test.YteiadaonihgbfaaDoorWhS5
namespace Go.Proofs.YteiadaonihgbfaaDoor
open Go.RowKit

theorem Agr.re {d : Nat → Nat} {l l1 : List Nat} {a m b x y : Nat} (h : Agr d l a m b) (hr : Re l l1 x y) (ho : b ≤ x ∨ y ≤ a) : Agr d l1 a m b := fun i j i1 i2 j1 j2 => by
  rw [hr.out (k := i) (by omega), hr.out (k := j) (by omega)]
  exact h i j i1 i2 j1 j2
theorem mrg_done {d : Nat → Nat} {l2 l3 l4 : List Nat} {a mid b : Nat} (hx : ∀ i j, a ≤ i → i < mid → mid ≤ j → j < b → ltD d (l2.getD i 0) (l2.getD j 0)) (h3 : Re l2 l3 a mid) (s3 : Srt d l3 a mid) (h4 : Re l3 l4 mid b) (s4 : Srt d l4 mid b) : Srt d l4 a b := by
  refine srt_join (s3.re h4 (.inl (Nat.le_refl _))) s4 (fun i j i1 i2 j1 j2 => ?_)
  rw [h4.out (k := i) (.inl i2)]
  obtain ⟨i', k1, k2, e1⟩ := h3.inn i1 i2
  obtain ⟨j', k3, k4, e2⟩ := h4.inn j1 j2
  rw [e1, e2, h3.out (k := j') (.inr k3)]
  exact hx _ _ k1 k2 k3 k4
theorem rot_id (st m en k : Nat) (h : st = m ∨ en = m) (h1 : st ≤ m) (h2 : m ≤ en) : k = rotF st m en k := by
  unfold rotF
  repeat' split
  all_goals omega

set_option maxRecDepth 100000 in
set_option maxHeartbeats 16000000 in
theorem wh_mrg3 (base kb n c g bx : Nat) (s : St) (hn : n ≤ 64) (F : Nat)
    (IH : ∀ (w : World) (l : List Nat) (a m b : Nat), Row w base kb n c l → Cx w kb g bx s → a < m → m < b → b ≤ n → b - a ≤ F → Srt (dW s) l a m → Srt (dW s) l m b → Agr (dW s) l a m b →
      Calls Tryd.prog 49 #[.slice (some ⟨kb, 0, none⟩) n c, .int .i64 (a : Int), .int .i64 (m : Int), .int .i64 (b : Int), .func (.func 41) #[] #[.pointer (some ⟨bx, 0, none⟩)]] w fun e w' => e = .returned (.tuple #[]) ∧ Hid (Mg w' base kb n c s l a b) ∧ w.grownBy w' (some kb))
    (w : World) (l : List Nat) (a m b : Nat) (hr : Row w base kb n c l) (hc : Cx w kb g bx s) (ham : a + 1 < m) (hmb : m + 1 < b) (hbn : b ≤ n) (hF : b - a ≤ F + 1) (hs : Srt (dW s) l a m) (ht : Srt (dW s) l m b) (hg : Agr (dW s) l a m b) :
    Calls Tryd.prog 49 #[.slice (some ⟨kb, 0, none⟩) n c, .int .i64 (a : Int), .int .i64 (m : Int), .int .i64 (b : Int), .func (.func 41) #[] #[.pointer (some ⟨bx, 0, none⟩)]] w fun e w' => e = .returned (.tuple #[]) ∧ Hid (Mg w' base kb n c s l a b) ∧ w.grownBy w' (some kb) := by
  have HIH : Hid (∀ (w : World) (l : List Nat) (a m b : Nat), Row w base kb n c l → Cx w kb g bx s → a < m → m < b → b ≤ n → b - a ≤ F → Srt (dW s) l a m → Srt (dW s) l m b → Agr (dW s) l a m b →
      Calls Tryd.prog 49 #[.slice (some ⟨kb, 0, none⟩) n c, .int .i64 (a : Int), .int .i64 (m : Int), .int .i64 (b : Int), .func (.func 41) #[] #[.pointer (some ⟨bx, 0, none⟩)]] w fun e w' => e = .returned (.tuple #[]) ∧ Hid (Mg w' base kb n c s l a b) ∧ w.grownBy w' (some kb)) := IH
  have HR0 : Hid (Row w base kb n c l) := hr
  have HC0 : Hid (Cx w kb g bx s) := hc
  have HS : Hid (Srt (dW s) l a m ∧ Srt (dW s) l m b ∧ Agr (dW s) l a m b) := ⟨hs, ht, hg⟩
  obtain ⟨Z1, hZ1⟩ : ∃ Z, Z = m - a := ⟨_, rfl⟩
  obtain ⟨Z2, hZ2⟩ : ∃ Z, Z = b - m := ⟨_, rfl⟩
  have z1 : (m : Int) - (a : Int) = (Z1 : Int) := by omega
  have z2 : ((Z1 : Int) == 1) = false := by rw [beq_eq_false_iff_ne]; omega
  have z3 : IntKind.i64.wrap (Z1 : Int) = (Z1 : Int) := by rw [IntKind.wrap_i64]; omega
  have z4 : (b : Int) - (m : Int) = (Z2 : Int) := by omega
  have z5 : ((Z2 : Int) == 1) = false := by rw [beq_eq_false_iff_ne]; omega
  have z6 : IntKind.i64.wrap (Z2 : Int) = (Z2 : Int) := by rw [IntKind.wrap_i64]; omega
  obtain ⟨AB, hAB⟩ : ∃ AB, AB = a + b := ⟨_, rfl⟩
  obtain ⟨mid, hmid⟩ : ∃ mid, mid = (a + b) / 2 := ⟨_, rfl⟩
  obtain ⟨N, hN⟩ : ∃ N, N = mid + m := ⟨_, rfl⟩
  obtain ⟨p, hp⟩ : ∃ p, p = N - 1 := ⟨_, rfl⟩
  have y1 : (a : Int) + (b : Int) = (AB : Int) := by omega
  have y2 : IntKind.i64.wrap (AB : Int) = (AB : Int) := by rw [IntKind.wrap_i64]; omega
  have y3 : IntKind.u64.wrap (AB : Int) = (AB : Int) := by rw [IntKind.wrap_u64]; omega
  have y4 : (AB : Int) / 2 = (mid : Int) := by omega
  have y5 : IntKind.i64.wrap (mid : Int) = (mid : Int) := by rw [IntKind.wrap_i64]; omega
  have y6 : IntKind.u64.wrap (mid : Int) = (mid : Int) := by rw [IntKind.wrap_u64]; omega
  have y7 : (mid : Int) + (m : Int) = (N : Int) := by omega
  have y8 : IntKind.i64.wrap (N : Int) = (N : Int) := by rw [IntKind.wrap_i64]; omega
  have y9 : (N : Int) - 1 = (p : Int) := by omega
  have y10 : IntKind.i64.wrap (p : Int) = (p : Int) := by rw [IntKind.wrap_i64]; omega
  have hmid2 : 2 * mid ≤ a + b ∧ a + b < 2 * mid + 2 := by omega
  have HN : Hid (N = mid + m ∧ p = N - 1 ∧ 2 ≤ N) := ⟨hN, hp, by omega⟩
  clear hr hc hs ht hg IH hZ1 hZ2 hAB hmid hN hp
  by_cases hgt : mid < m
  · have hgt' : (mid : Int) < (m : Int) := by omega
    obtain ⟨lo, hlo⟩ : ∃ lo, lo = N - b := ⟨_, rfl⟩
    have hlh : a ≤ lo ∧ lo ≤ mid := by have := HN.out; omega
    have HLH : Hid (mid < m ∧ lo + b = N) := ⟨hgt, by have := HN.out; omega⟩
    have w1 : (N : Int) - (b : Int) = (lo : Int) := by have := HN.out; omega
    have w2 : IntKind.i64.wrap (lo : Int) = (lo : Int) := by rw [IntKind.wrap_i64]; omega
    clear hlo hgt
    go_enter Tryd.func49, Tryd.ntmps49
    go_wp2
    clear w1 w2
    go_loopw [20, 21] (fun t20 t21 wr => ∃ (st r : Nat), lo ≤ st ∧ st ≤ r ∧ r ≤ mid ∧ t20 = .int .i64 (st : Int) ∧ t21 = .int .i64 (r : Int) ∧ Hid ((st = lo ∨ ¬ dW s (l.getD (N - st) 0) < dW s (l.getD (st - 1) 0)) ∧ (r = mid ∨ dW s (l.getD (p - r) 0) < dW s (l.getD r 0))) ∧ Hid (Row wr base kb n c l) ∧ Hid (w.grownBy wr (some kb))) (fun t20 t21 _ => (intOf t21).toNat - (intOf t20).toNat)
    case atStart => exact ⟨lo, mid, by omega, by omega, by omega, by go_num, by go_num, ⟨.inl rfl, .inl rfl⟩, HR0, grown_refl _ _⟩
    case round =>
      obtain ⟨st, r, h1, h2, h3, rfl, rfl, HI, HRW, HG⟩ := hrel
      by_cases hlt : st < r
      · have hlt' : (st : Int) < (r : Int) := by omega
        obtain ⟨S, hS⟩ : ∃ S, S = st + r := ⟨_, rfl⟩
        obtain ⟨H, hH⟩ : ∃ H, H = (st + r) / 2 := ⟨_, rfl⟩
        obtain ⟨K, hK⟩ : ∃ K, K = p - H := ⟨_, rfl⟩
        have q1 : (st : Int) + (r : Int) = (S : Int) := by omega
        have q2 : IntKind.i64.wrap (S : Int) = (S : Int) := by rw [IntKind.wrap_i64]; omega
        have q3 : IntKind.u64.wrap (S : Int) = (S : Int) := by rw [IntKind.wrap_u64]; omega
        have q4 : (S : Int) / 2 = (H : Int) := by omega
        have q5 : IntKind.i64.wrap (H : Int) = (H : Int) := by rw [IntKind.wrap_i64]; omega
        have q6 : IntKind.u64.wrap (H : Int) = (H : Int) := by rw [IntKind.wrap_u64]; omega
        have hH2 : st ≤ H ∧ H < r := by omega
        have hKb : m ≤ K ∧ K < b ∧ (p : Int) - (H : Int) = (K : Int) ∧ N - (H + 1) = K := by have := HN.out; have := HLH.out; omega
        have HK : Hid (K = p - H ∧ N - (H + 1) = K) := ⟨hK, hKb.2.2.2⟩
        have q7 : (p : Int) - (H : Int) = (K : Int) := hKb.2.2.1
        have q8 : IntKind.i64.wrap (K : Int) = (K : Int) := by rw [IntKind.wrap_i64]; omega
        have p0 : (0 : Int) ≤ (H : Int) := by omega
        have p1 : (H : Int) < (n : Int) := by omega
        have p2 : (0 : Int) ≤ (K : Int) := by omega
        have p3 : (K : Int) < (n : Int) := by omega
        obtain ⟨x, hx⟩ : ∃ x, x = l.getD K 0 := ⟨_, rfl⟩
        have HX : Hid (x = l.getD K 0) := hx
        have hxr : 1 ≤ x ∧ x ≤ 64 := by rw [hx]; exact HRW.out.num (by omega)
        have x1 : wr.cell? ⟨kb, K, none⟩ = some (.int .i64 (x : Int)) := by rw [hx]; exact HRW.out.cell (by omega)
        obtain ⟨y, hy⟩ : ∃ y, y = l.getD H 0 := ⟨_, rfl⟩
        have HY : Hid (y = l.getD H 0) := hy
        have hyr : 1 ≤ y ∧ y ≤ 64 := by rw [hy]; exact HRW.out.num (by omega)
        have x2 : wr.cell? ⟨kb, H, none⟩ = some (.int .i64 (y : Int)) := by rw [hy]; exact HRW.out.cell (by omega)
        obtain ⟨e, he⟩ : ∃ e, e = cfW s x y := ⟨_, rfl⟩
        have HCM : Hid (∀ m, Calls Tryd.prog 41 #[.int .i64 (x : Int), .int .i64 (y : Int), .pointer (some ⟨bx, 0, none⟩)] (wr.drewN m) fun e' w' => e' = .returned (.int .i64 e) ∧ ∃ m', w' = (wr.drewN m).drewN m') := fun m => by
          rw [he]
          exact (HC0.out.grown HG.out).cmp hxr hyr m
        have HE : Hid (e < 0 ↔ dW s (l.getD K 0) < dW s (l.getD H 0)) := by rw [he, HX.out, HY.out]; exact cf_lt _ _ _
        clear hx hy he hS hH hK hKb
        by_cases hel : e < 0
        · have hel2 : decide (e < 0) = true := by simpa using hel
          have HI2 : Hid ((st = lo ∨ ¬ dW s (l.getD (N - st) 0) < dW s (l.getD (st - 1) 0)) ∧ (H = mid ∨ dW s (l.getD (p - H) 0) < dW s (l.getD H 0))) := ⟨HI.out.1, .inr (by rw [← HK.out.1]; exact HE.out.1 hel)⟩
          go_wp2
          go_quiet ((go_at_call 41; refine Calls.quiet_of (HCM.out _)))
          generalize hnq : World.drewN _ _ = wq
          have HRq : Hid (Row wq base kb n c l) := by (show Row _ _ _ _ _ _); rw [← hnq]; exact HRW.out.drews _
          have HGq : Hid (w.grownBy wq (some kb)) := by (show World.grownBy _ _ _); rw [← hnq]; exact grown_drews HG.out _
          clear hnq
          go_wp2
          go_roundw
          case rel => exact ⟨st, H, by omega, by omega, by omega, by go_num, by go_num, HI2, HRq, HGq⟩
          case measure => simp [intOf]; omega
        · have hel2 : decide (e < 0) = false := by simpa using hel
          have HI2 : Hid ((H + 1 = lo ∨ ¬ dW s (l.getD (N - (H + 1)) 0) < dW s (l.getD (H + 1 - 1) 0)) ∧ (r = mid ∨ dW s (l.getD (p - r) 0) < dW s (l.getD r 0))) := ⟨.inr (by rw [HK.out.2]; exact fun h => hel (HE.out.2 h)), HI.out.2⟩
          go_wp2
          go_quiet ((go_at_call 41; refine Calls.quiet_of (HCM.out _)))
          generalize hnq : World.drewN _ _ = wq
          have HRq : Hid (Row wq base kb n c l) := by (show Row _ _ _ _ _ _); rw [← hnq]; exact HRW.out.drews _
          have HGq : Hid (w.grownBy wq (some kb)) := by (show World.grownBy _ _ _); rw [← hnq]; exact grown_drews HG.out _
          clear hnq
          go_wp2
          go_roundw
          case rel => exact ⟨H + 1, r, by omega, by omega, by omega, by go_num, by go_num, HI2, HRq, HGq⟩
          case measure => simp [intOf]; omega
      · obtain rfl : st = r := by omega
        have hlt' : ¬ (st : Int) < (st : Int) := by omega
        obtain ⟨en, hen⟩ : ∃ en, en = N - st := ⟨_, rfl⟩
        have hse : st + en = mid + m ∧ a ≤ st ∧ st ≤ m ∧ m ≤ en ∧ en ≤ b ∧ st ≤ mid ∧ mid ≤ en ∧ 1 ≤ N := by have := HN.out; have := HLH.out; omega
        have HSE : Hid (st + en = mid + m ∧ a ≤ st ∧ st ≤ m ∧ m ≤ en ∧ en ≤ b ∧ st ≤ mid ∧ mid ≤ en ∧ 1 ≤ N) := hse
        have e1 : (N : Int) - (st : Int) = (en : Int) := by have := HN.out; omega
        have e2 : IntKind.i64.wrap (en : Int) = (en : Int) := by rw [IntKind.wrap_i64]; omega
        have HSP : Hid (∀ l1, By l l1 (rotF st m en) → Srt (dW s) l1 a st ∧ Srt (dW s) l1 st mid ∧ Srt (dW s) l1 mid en ∧ Srt (dW s) l1 en b ∧ Agr (dW s) l1 a st mid ∧ Agr (dW s) l1 mid en b ∧ ∀ i j, a ≤ i → i < mid → mid ≤ j → j < b → ltD (dW s) (l1.getD i 0) (l1.getD j 0)) := fun l1 hby => by
          have k1 := HN.out
          have k2 := HLH.out
          obtain ⟨k3, k4⟩ := HI.out
          rw [show N - st = en from hen.symm] at k3
          rw [show p - st = en - 1 from by omega] at k4
          refine mrg_split HS.out.1 HS.out.2.1 HS.out.2.2 (by omega) (by omega) (by omega) (by omega) (by omega) ?_ ?_ hby
          · rcases k3 with k3 | k3
            · (first | exact .inl (by omega) | exact .inr (.inl (by omega)))
            · exact .inr (.inr k3)
          · rcases k4 with k4 | k4
            · (first | exact .inl (by omega) | exact .inr (.inl (by omega)))
            · exact .inr (.inr k4)
        have HBF : Hid (mid - a ≤ F ∧ b - mid ≤ F) := by (show _ ∧ _); omega
        clear hen
        by_cases c1 : st < m
        · have c1' : (st : Int) < (m : Int) := by omega
          by_cases c2 : m < en
          · have c2' : (m : Int) < (en : Int) := by omega
            have HC := wh_rot wr base kb n c l (.func (.func 41) #[] #[.pointer (some ⟨bx, 0, none⟩)]) st m en HRW.out c1 c2 (by omega) hn
            go_wp2_with fail
            refine HC.mono ?_
            rintro e w2 ⟨rfl, hm2, hg2⟩
            clear HC
            obtain ⟨l2, hr2, hby2⟩ := hm2.out
            have HR2 : Hid (Row w2 base kb n c l2) := hr2
            have HG2 : Hid (w.grownBy w2 (some kb)) := grown_trans HG.out hg2
            have HRE2 : Hid (Re l l2 a b) := (Re.of_rot hby2 (by omega) (by omega)).mono (by omega) (by omega)
            have HSP2 := HSP.out l2 hby2
            have HSP2 : Hid _ := HSP2
            clear hm2 hg2 hr2 hby2
            by_cases d1 : a < st
            · have d1' : (a : Int) < (st : Int) := by omega
              by_cases d2 : st < mid
              · have d2' : (st : Int) < (mid : Int) := by omega
                have HC := HIH.out w2 l2 a st mid HR2.out (HC0.out.grown HG2.out) d1 d2 (by omega) HBF.out.1 HSP2.out.1 HSP2.out.2.1 HSP2.out.2.2.2.2.1
                go_wp2_with fail
                refine HC.mono ?_
                rintro e w3 ⟨rfl, hm3, hg3⟩
                clear HC
                obtain ⟨l3, hr3, hre3, hs3⟩ := hm3.out
                have HR3 : Hid (Row w3 base kb n c l3) := hr3
                have HG3 : Hid (w.grownBy w3 (some kb)) := grown_trans HG2.out hg3
                have HRE3 : Hid (Re l2 l3 a mid) := hre3
                have HS3 : Hid (Srt (dW s) l3 a mid) := hs3
                clear hm3 hg3 hr3 hre3 hs3
                have HX3 : Hid (Re l3 l3 mid b) := Re.refl _ _ _
                by_cases g1 : mid < en
                · have g1' : (mid : Int) < (en : Int) := by omega
                  by_cases g2 : en < b
                  · have g2' : (en : Int) < (b : Int) := by omega
                    have HC := HIH.out w3 l3 mid en b HR3.out (HC0.out.grown HG3.out) g1 g2 hbn HBF.out.2 ((HSP2.out.2.2.1).re HRE3.out (.inr (Nat.le_refl _))) ((HSP2.out.2.2.2.1).re HRE3.out (.inr HSE.out.2.2.2.2.2.2.1)) ((HSP2.out.2.2.2.2.2.1).re HRE3.out (.inr (Nat.le_refl _)))
                    go_wp2_with fail
                    refine HC.mono ?_
                    rintro e w4 ⟨rfl, hm4, hg4⟩
                    clear HC
                    obtain ⟨l4, hr4, hre4, hs4⟩ := hm4.out
                    have HR4 : Hid (Row w4 base kb n c l4) := hr4
                    have HG4 : Hid (w.grownBy w4 (some kb)) := grown_trans HG3.out hg4
                    have HRE4 : Hid (Re l l4 a b) := (HRE2.out.trans (HRE3.out.mono (Nat.le_refl _) (by omega))).trans (hre4.mono (by omega) (Nat.le_refl _))
                    have HS4 : Hid (Srt (dW s) l4 a b) := mrg_done HSP2.out.2.2.2.2.2.2 HRE3.out HS3.out hre4 hs4
                    clear hm4 hg4 hr4 hre4 hs4
                    go_wp2
                    go_returns
                    exact ⟨rfl, ⟨l4, HR4.out, HRE4.out, HS4.out⟩, HG4.out⟩
                  · have g2' : ¬ (en : Int) < (b : Int) := by omega
                    have HM : Hid (Mg w3 base kb n c s l a b) := ⟨l3, HR3.out, HRE2.out.trans (HRE3.out.mono (Nat.le_refl _) (by omega)), mrg_done HSP2.out.2.2.2.2.2.2 HRE3.out HS3.out HX3.out (((HSP2.out.2.2.1).sub (Nat.le_refl _) (by omega)).re HRE3.out (.inr (Nat.le_refl _)))⟩
                    go_wp2
                    go_returns
                    exact ⟨rfl, HM, HG3.out⟩
                · have g1' : ¬ (mid : Int) < (en : Int) := by omega
                  have HM : Hid (Mg w3 base kb n c s l a b) := ⟨l3, HR3.out, HRE2.out.trans (HRE3.out.mono (Nat.le_refl _) (by omega)), mrg_done HSP2.out.2.2.2.2.2.2 HRE3.out HS3.out HX3.out (((HSP2.out.2.2.2.1).sub (by omega) (Nat.le_refl _)).re HRE3.out (.inr (Nat.le_refl _)))⟩
                  go_wp2
                  go_returns
                  exact ⟨rfl, HM, HG3.out⟩
              · have d2' : ¬ (st : Int) < (mid : Int) := by omega
                have HRE3 : Hid (Re l2 l2 a mid) := Re.refl _ _ _
                have HS3 : Hid (Srt (dW s) l2 a mid) := (HSP2.out.1).sub (Nat.le_refl _) (by omega)
                have HR3 := HR2
                have HG3 := HG2
                have HX3 : Hid (Re l2 l2 mid b) := Re.refl _ _ _
                by_cases g1 : mid < en
                · have g1' : (mid : Int) < (en : Int) := by omega
                  by_cases g2 : en < b
                  · have g2' : (en : Int) < (b : Int) := by omega
                    have HC := HIH.out w2 l2 mid en b HR3.out (HC0.out.grown HG3.out) g1 g2 hbn HBF.out.2 ((HSP2.out.2.2.1).re HRE3.out (.inr (Nat.le_refl _))) ((HSP2.out.2.2.2.1).re HRE3.out (.inr HSE.out.2.2.2.2.2.2.1)) ((HSP2.out.2.2.2.2.2.1).re HRE3.out (.inr (Nat.le_refl _)))
                    go_wp2_with fail
                    refine HC.mono ?_
                    rintro e w4 ⟨rfl, hm4, hg4⟩
                    clear HC
                    obtain ⟨l4, hr4, hre4, hs4⟩ := hm4.out
                    have HR4 : Hid (Row w4 base kb n c l4) := hr4
                    have HG4 : Hid (w.grownBy w4 (some kb)) := grown_trans HG3.out hg4
                    have HRE4 : Hid (Re l l4 a b) := (HRE2.out.trans (HRE3.out.mono (Nat.le_refl _) (by omega))).trans (hre4.mono (by omega) (Nat.le_refl _))
                    have HS4 : Hid (Srt (dW s) l4 a b) := mrg_done HSP2.out.2.2.2.2.2.2 HRE3.out HS3.out hre4 hs4
                    clear hm4 hg4 hr4 hre4 hs4
                    go_wp2
                    go_returns
                    exact ⟨rfl, ⟨l4, HR4.out, HRE4.out, HS4.out⟩, HG4.out⟩
                  · have g2' : ¬ (en : Int) < (b : Int) := by omega
                    have HM : Hid (Mg w2 base kb n c s l a b) := ⟨l2, HR3.out, HRE2.out.trans (HRE3.out.mono (Nat.le_refl _) (by omega)), mrg_done HSP2.out.2.2.2.2.2.2 HRE3.out HS3.out HX3.out (((HSP2.out.2.2.1).sub (Nat.le_refl _) (by omega)).re HRE3.out (.inr (Nat.le_refl _)))⟩
                    go_wp2
                    go_returns
                    exact ⟨rfl, HM, HG3.out⟩
                · have g1' : ¬ (mid : Int) < (en : Int) := by omega
                  have HM : Hid (Mg w2 base kb n c s l a b) := ⟨l2, HR3.out, HRE2.out.trans (HRE3.out.mono (Nat.le_refl _) (by omega)), mrg_done HSP2.out.2.2.2.2.2.2 HRE3.out HS3.out HX3.out (((HSP2.out.2.2.2.1).sub (by omega) (Nat.le_refl _)).re HRE3.out (.inr (Nat.le_refl _)))⟩
                  go_wp2
                  go_returns
                  exact ⟨rfl, HM, HG3.out⟩
            · have d1' : ¬ (a : Int) < (st : Int) := by omega
              have HRE3 : Hid (Re l2 l2 a mid) := Re.refl _ _ _
              have HS3 : Hid (Srt (dW s) l2 a mid) := (HSP2.out.2.1).sub (by omega) (Nat.le_refl _)
              have HR3 := HR2
              have HG3 := HG2
              have HX3 : Hid (Re l2 l2 mid b) := Re.refl _ _ _
              by_cases g1 : mid < en
              · have g1' : (mid : Int) < (en : Int) := by omega
                by_cases g2 : en < b
                · have g2' : (en : Int) < (b : Int) := by omega
                  have HC := HIH.out w2 l2 mid en b HR3.out (HC0.out.grown HG3.out) g1 g2 hbn HBF.out.2 ((HSP2.out.2.2.1).re HRE3.out (.inr (Nat.le_refl _))) ((HSP2.out.2.2.2.1).re HRE3.out (.inr HSE.out.2.2.2.2.2.2.1)) ((HSP2.out.2.2.2.2.2.1).re HRE3.out (.inr (Nat.le_refl _)))
                  go_wp2_with fail
                  refine HC.mono ?_
                  rintro e w4 ⟨rfl, hm4, hg4⟩
                  clear HC
                  obtain ⟨l4, hr4, hre4, hs4⟩ := hm4.out
                  have HR4 : Hid (Row w4 base kb n c l4) := hr4
                  have HG4 : Hid (w.grownBy w4 (some kb)) := grown_trans HG3.out hg4
                  have HRE4 : Hid (Re l l4 a b) := (HRE2.out.trans (HRE3.out.mono (Nat.le_refl _) (by omega))).trans (hre4.mono (by omega) (Nat.le_refl _))
                  have HS4 : Hid (Srt (dW s) l4 a b) := mrg_done HSP2.out.2.2.2.2.2.2 HRE3.out HS3.out hre4 hs4
                  clear hm4 hg4 hr4 hre4 hs4
                  go_wp2
                  go_returns
                  exact ⟨rfl, ⟨l4, HR4.out, HRE4.out, HS4.out⟩, HG4.out⟩
                · have g2' : ¬ (en : Int) < (b : Int) := by omega
                  have HM : Hid (Mg w2 base kb n c s l a b) := ⟨l2, HR3.out, HRE2.out.trans (HRE3.out.mono (Nat.le_refl _) (by omega)), mrg_done HSP2.out.2.2.2.2.2.2 HRE3.out HS3.out HX3.out (((HSP2.out.2.2.1).sub (Nat.le_refl _) (by omega)).re HRE3.out (.inr (Nat.le_refl _)))⟩
                  go_wp2
                  go_returns
                  exact ⟨rfl, HM, HG3.out⟩
              · have g1' : ¬ (mid : Int) < (en : Int) := by omega
                have HM : Hid (Mg w2 base kb n c s l a b) := ⟨l2, HR3.out, HRE2.out.trans (HRE3.out.mono (Nat.le_refl _) (by omega)), mrg_done HSP2.out.2.2.2.2.2.2 HRE3.out HS3.out HX3.out (((HSP2.out.2.2.2.1).sub (by omega) (Nat.le_refl _)).re HRE3.out (.inr (Nat.le_refl _)))⟩
                go_wp2
                go_returns
                exact ⟨rfl, HM, HG3.out⟩
          · have c2' : ¬ (m : Int) < (en : Int) := by omega
            have HSP2 : Hid _ := HSP.out l ((By.refl l).congr (fun k => rot_id st m en k (by omega) (by omega) (by omega)))
            have HRE2 : Hid (Re l l a b) := Re.refl _ _ _
            have HR2 := HRW
            have HG2 := HG
            by_cases d1 : a < st
            · have d1' : (a : Int) < (st : Int) := by omega
              by_cases d2 : st < mid
              · have d2' : (st : Int) < (mid : Int) := by omega
                have HC := HIH.out wr l a st mid HR2.out (HC0.out.grown HG2.out) d1 d2 (by omega) HBF.out.1 HSP2.out.1 HSP2.out.2.1 HSP2.out.2.2.2.2.1
                go_wp2_with fail
                refine HC.mono ?_
                rintro e w3 ⟨rfl, hm3, hg3⟩
                clear HC
                obtain ⟨l3, hr3, hre3, hs3⟩ := hm3.out
                have HR3 : Hid (Row w3 base kb n c l3) := hr3
                have HG3 : Hid (w.grownBy w3 (some kb)) := grown_trans HG2.out hg3
                have HRE3 : Hid (Re l l3 a mid) := hre3
                have HS3 : Hid (Srt (dW s) l3 a mid) := hs3
                clear hm3 hg3 hr3 hre3 hs3
                have HX3 : Hid (Re l3 l3 mid b) := Re.refl _ _ _
                by_cases g1 : mid < en
                · have g1' : (mid : Int) < (en : Int) := by omega
                  by_cases g2 : en < b
                  · have g2' : (en : Int) < (b : Int) := by omega
                    have HC := HIH.out w3 l3 mid en b HR3.out (HC0.out.grown HG3.out) g1 g2 hbn HBF.out.2 ((HSP2.out.2.2.1).re HRE3.out (.inr (Nat.le_refl _))) ((HSP2.out.2.2.2.1).re HRE3.out (.inr HSE.out.2.2.2.2.2.2.1)) ((HSP2.out.2.2.2.2.2.1).re HRE3.out (.inr (Nat.le_refl _)))
                    go_wp2_with fail
                    refine HC.mono ?_
                    rintro e w4 ⟨rfl, hm4, hg4⟩
                    clear HC
                    obtain ⟨l4, hr4, hre4, hs4⟩ := hm4.out
                    have HR4 : Hid (Row w4 base kb n c l4) := hr4
                    have HG4 : Hid (w.grownBy w4 (some kb)) := grown_trans HG3.out hg4
                    have HRE4 : Hid (Re l l4 a b) := (HRE2.out.trans (HRE3.out.mono (Nat.le_refl _) (by omega))).trans (hre4.mono (by omega) (Nat.le_refl _))
                    have HS4 : Hid (Srt (dW s) l4 a b) := mrg_done HSP2.out.2.2.2.2.2.2 HRE3.out HS3.out hre4 hs4
                    clear hm4 hg4 hr4 hre4 hs4
                    go_wp2
                    go_returns
                    exact ⟨rfl, ⟨l4, HR4.out, HRE4.out, HS4.out⟩, HG4.out⟩
                  · have g2' : ¬ (en : Int) < (b : Int) := by omega
                    have HM : Hid (Mg w3 base kb n c s l a b) := ⟨l3, HR3.out, HRE2.out.trans (HRE3.out.mono (Nat.le_refl _) (by omega)), mrg_done HSP2.out.2.2.2.2.2.2 HRE3.out HS3.out HX3.out (((HSP2.out.2.2.1).sub (Nat.le_refl _) (by omega)).re HRE3.out (.inr (Nat.le_refl _)))⟩
                    go_wp2
                    go_returns
                    exact ⟨rfl, HM, HG3.out⟩
                · have g1' : ¬ (mid : Int) < (en : Int) := by omega
                  have HM : Hid (Mg w3 base kb n c s l a b) := ⟨l3, HR3.out, HRE2.out.trans (HRE3.out.mono (Nat.le_refl _) (by omega)), mrg_done HSP2.out.2.2.2.2.2.2 HRE3.out HS3.out HX3.out (((HSP2.out.2.2.2.1).sub (by omega) (Nat.le_refl _)).re HRE3.out (.inr (Nat.le_refl _)))⟩
                  go_wp2
                  go_returns
                  exact ⟨rfl, HM, HG3.out⟩
              · have d2' : ¬ (st : Int) < (mid : Int) := by omega
                have HRE3 : Hid (Re l l a mid) := Re.refl _ _ _
                have HS3 : Hid (Srt (dW s) l a mid) := (HSP2.out.1).sub (Nat.le_refl _) (by omega)
                have HR3 := HR2
                have HG3 := HG2
                have HX3 : Hid (Re l l mid b) := Re.refl _ _ _
                by_cases g1 : mid < en
                · have g1' : (mid : Int) < (en : Int) := by omega
                  by_cases g2 : en < b
                  · have g2' : (en : Int) < (b : Int) := by omega
                    have HC := HIH.out wr l mid en b HR3.out (HC0.out.grown HG3.out) g1 g2 hbn HBF.out.2 ((HSP2.out.2.2.1).re HRE3.out (.inr (Nat.le_refl _))) ((HSP2.out.2.2.2.1).re HRE3.out (.inr HSE.out.2.2.2.2.2.2.1)) ((HSP2.out.2.2.2.2.2.1).re HRE3.out (.inr (Nat.le_refl _)))
                    go_wp2_with fail
                    refine HC.mono ?_
                    rintro e w4 ⟨rfl, hm4, hg4⟩
                    clear HC
                    obtain ⟨l4, hr4, hre4, hs4⟩ := hm4.out
                    have HR4 : Hid (Row w4 base kb n c l4) := hr4
                    have HG4 : Hid (w.grownBy w4 (some kb)) := grown_trans HG3.out hg4
                    have HRE4 : Hid (Re l l4 a b) := (HRE2.out.trans (HRE3.out.mono (Nat.le_refl _) (by omega))).trans (hre4.mono (by omega) (Nat.le_refl _))
                    have HS4 : Hid (Srt (dW s) l4 a b) := mrg_done HSP2.out.2.2.2.2.2.2 HRE3.out HS3.out hre4 hs4
                    clear hm4 hg4 hr4 hre4 hs4
                    go_wp2
                    go_returns
                    exact ⟨rfl, ⟨l4, HR4.out, HRE4.out, HS4.out⟩, HG4.out⟩
                  · have g2' : ¬ (en : Int) < (b : Int) := by omega
                    have HM : Hid (Mg wr base kb n c s l a b) := ⟨l, HR3.out, HRE2.out.trans (HRE3.out.mono (Nat.le_refl _) (by omega)), mrg_done HSP2.out.2.2.2.2.2.2 HRE3.out HS3.out HX3.out (((HSP2.out.2.2.1).sub (Nat.le_refl _) (by omega)).re HRE3.out (.inr (Nat.le_refl _)))⟩
                    go_wp2
                    go_returns
                    exact ⟨rfl, HM, HG3.out⟩
                · have g1' : ¬ (mid : Int) < (en : Int) := by omega
                  have HM : Hid (Mg wr base kb n c s l a b) := ⟨l, HR3.out, HRE2.out.trans (HRE3.out.mono (Nat.le_refl _) (by omega)), mrg_done HSP2.out.2.2.2.2.2.2 HRE3.out HS3.out HX3.out (((HSP2.out.2.2.2.1).sub (by omega) (Nat.le_refl _)).re HRE3.out (.inr (Nat.le_refl _)))⟩
                  go_wp2
                  go_returns
                  exact ⟨rfl, HM, HG3.out⟩
            · have d1' : ¬ (a : Int) < (st : Int) := by omega
              have HRE3 : Hid (Re l l a mid) := Re.refl _ _ _
              have HS3 : Hid (Srt (dW s) l a mid) := (HSP2.out.2.1).sub (by omega) (Nat.le_refl _)
              have HR3 := HR2
              have HG3 := HG2
              have HX3 : Hid (Re l l mid b) := Re.refl _ _ _
              by_cases g1 : mid < en
              · have g1' : (mid : Int) < (en : Int) := by omega
                by_cases g2 : en < b
                · have g2' : (en : Int) < (b : Int) := by omega
                  have HC := HIH.out wr l mid en b HR3.out (HC0.out.grown HG3.out) g1 g2 hbn HBF.out.2 ((HSP2.out.2.2.1).re HRE3.out (.inr (Nat.le_refl _))) ((HSP2.out.2.2.2.1).re HRE3.out (.inr HSE.out.2.2.2.2.2.2.1)) ((HSP2.out.2.2.2.2.2.1).re HRE3.out (.inr (Nat.le_refl _)))
                  go_wp2_with fail
                  refine HC.mono ?_
                  rintro e w4 ⟨rfl, hm4, hg4⟩
                  clear HC
                  obtain ⟨l4, hr4, hre4, hs4⟩ := hm4.out
                  have HR4 : Hid (Row w4 base kb n c l4) := hr4
                  have HG4 : Hid (w.grownBy w4 (some kb)) := grown_trans HG3.out hg4
                  have HRE4 : Hid (Re l l4 a b) := (HRE2.out.trans (HRE3.out.mono (Nat.le_refl _) (by omega))).trans (hre4.mono (by omega) (Nat.le_refl _))
                  have HS4 : Hid (Srt (dW s) l4 a b) := mrg_done HSP2.out.2.2.2.2.2.2 HRE3.out HS3.out hre4 hs4
                  clear hm4 hg4 hr4 hre4 hs4
                  go_wp2
                  go_returns
                  exact ⟨rfl, ⟨l4, HR4.out, HRE4.out, HS4.out⟩, HG4.out⟩
                · have g2' : ¬ (en : Int) < (b : Int) := by omega
                  have HM : Hid (Mg wr base kb n c s l a b) := ⟨l, HR3.out, HRE2.out.trans (HRE3.out.mono (Nat.le_refl _) (by omega)), mrg_done HSP2.out.2.2.2.2.2.2 HRE3.out HS3.out HX3.out (((HSP2.out.2.2.1).sub (Nat.le_refl _) (by omega)).re HRE3.out (.inr (Nat.le_refl _)))⟩
                  go_wp2
                  go_returns
                  exact ⟨rfl, HM, HG3.out⟩
              · have g1' : ¬ (mid : Int) < (en : Int) := by omega
                have HM : Hid (Mg wr base kb n c s l a b) := ⟨l, HR3.out, HRE2.out.trans (HRE3.out.mono (Nat.le_refl _) (by omega)), mrg_done HSP2.out.2.2.2.2.2.2 HRE3.out HS3.out HX3.out (((HSP2.out.2.2.2.1).sub (by omega) (Nat.le_refl _)).re HRE3.out (.inr (Nat.le_refl _)))⟩
                go_wp2
                go_returns
                exact ⟨rfl, HM, HG3.out⟩
        · have c1' : ¬ (st : Int) < (m : Int) := by omega
          have HSP2 : Hid _ := HSP.out l ((By.refl l).congr (fun k => rot_id st m en k (by omega) (by omega) (by omega)))
          have HRE2 : Hid (Re l l a b) := Re.refl _ _ _
          have HR2 := HRW
          have HG2 := HG
          by_cases d1 : a < st
          · have d1' : (a : Int) < (st : Int) := by omega
            by_cases d2 : st < mid
            · have d2' : (st : Int) < (mid : Int) := by omega
              have HC := HIH.out wr l a st mid HR2.out (HC0.out.grown HG2.out) d1 d2 (by omega) HBF.out.1 HSP2.out.1 HSP2.out.2.1 HSP2.out.2.2.2.2.1
              go_wp2_with fail
              refine HC.mono ?_
              rintro e w3 ⟨rfl, hm3, hg3⟩
              clear HC
              obtain ⟨l3, hr3, hre3, hs3⟩ := hm3.out
              have HR3 : Hid (Row w3 base kb n c l3) := hr3
              have HG3 : Hid (w.grownBy w3 (some kb)) := grown_trans HG2.out hg3
              have HRE3 : Hid (Re l l3 a mid) := hre3
              have HS3 : Hid (Srt (dW s) l3 a mid) := hs3
              clear hm3 hg3 hr3 hre3 hs3
              have HX3 : Hid (Re l3 l3 mid b) := Re.refl _ _ _
              by_cases g1 : mid < en
              · have g1' : (mid : Int) < (en : Int) := by omega
                by_cases g2 : en < b
                · have g2' : (en : Int) < (b : Int) := by omega
                  have HC := HIH.out w3 l3 mid en b HR3.out (HC0.out.grown HG3.out) g1 g2 hbn HBF.out.2 ((HSP2.out.2.2.1).re HRE3.out (.inr (Nat.le_refl _))) ((HSP2.out.2.2.2.1).re HRE3.out (.inr HSE.out.2.2.2.2.2.2.1)) ((HSP2.out.2.2.2.2.2.1).re HRE3.out (.inr (Nat.le_refl _)))
                  go_wp2_with fail
                  refine HC.mono ?_
                  rintro e w4 ⟨rfl, hm4, hg4⟩
                  clear HC
                  obtain ⟨l4, hr4, hre4, hs4⟩ := hm4.out
                  have HR4 : Hid (Row w4 base kb n c l4) := hr4
                  have HG4 : Hid (w.grownBy w4 (some kb)) := grown_trans HG3.out hg4
                  have HRE4 : Hid (Re l l4 a b) := (HRE2.out.trans (HRE3.out.mono (Nat.le_refl _) (by omega))).trans (hre4.mono (by omega) (Nat.le_refl _))
                  have HS4 : Hid (Srt (dW s) l4 a b) := mrg_done HSP2.out.2.2.2.2.2.2 HRE3.out HS3.out hre4 hs4
                  clear hm4 hg4 hr4 hre4 hs4
                  go_wp2
                  go_returns
                  exact ⟨rfl, ⟨l4, HR4.out, HRE4.out, HS4.out⟩, HG4.out⟩
                · have g2' : ¬ (en : Int) < (b : Int) := by omega
                  have HM : Hid (Mg w3 base kb n c s l a b) := ⟨l3, HR3.out, HRE2.out.trans (HRE3.out.mono (Nat.le_refl _) (by omega)), mrg_done HSP2.out.2.2.2.2.2.2 HRE3.out HS3.out HX3.out (((HSP2.out.2.2.1).sub (Nat.le_refl _) (by omega)).re HRE3.out (.inr (Nat.le_refl _)))⟩
                  go_wp2
                  go_returns
                  exact ⟨rfl, HM, HG3.out⟩
              · have g1' : ¬ (mid : Int) < (en : Int) := by omega
                have HM : Hid (Mg w3 base kb n c s l a b) := ⟨l3, HR3.out, HRE2.out.trans (HRE3.out.mono (Nat.le_refl _) (by omega)), mrg_done HSP2.out.2.2.2.2.2.2 HRE3.out HS3.out HX3.out (((HSP2.out.2.2.2.1).sub (by omega) (Nat.le_refl _)).re HRE3.out (.inr (Nat.le_refl _)))⟩
                go_wp2
                go_returns
                exact ⟨rfl, HM, HG3.out⟩
            · have d2' : ¬ (st : Int) < (mid : Int) := by omega
              have HRE3 : Hid (Re l l a mid) := Re.refl _ _ _
              have HS3 : Hid (Srt (dW s) l a mid) := (HSP2.out.1).sub (Nat.le_refl _) (by omega)
              have HR3 := HR2
              have HG3 := HG2
              have HX3 : Hid (Re l l mid b) := Re.refl _ _ _
              by_cases g1 : mid < en
              · have g1' : (mid : Int) < (en : Int) := by omega
                by_cases g2 : en < b
                · have g2' : (en : Int) < (b : Int) := by omega
                  have HC := HIH.out wr l mid en b HR3.out (HC0.out.grown HG3.out) g1 g2 hbn HBF.out.2 ((HSP2.out.2.2.1).re HRE3.out (.inr (Nat.le_refl _))) ((HSP2.out.2.2.2.1).re HRE3.out (.inr HSE.out.2.2.2.2.2.2.1)) ((HSP2.out.2.2.2.2.2.1).re HRE3.out (.inr (Nat.le_refl _)))
                  go_wp2_with fail
                  refine HC.mono ?_
                  rintro e w4 ⟨rfl, hm4, hg4⟩
                  clear HC
                  obtain ⟨l4, hr4, hre4, hs4⟩ := hm4.out
                  have HR4 : Hid (Row w4 base kb n c l4) := hr4
                  have HG4 : Hid (w.grownBy w4 (some kb)) := grown_trans HG3.out hg4
                  have HRE4 : Hid (Re l l4 a b) := (HRE2.out.trans (HRE3.out.mono (Nat.le_refl _) (by omega))).trans (hre4.mono (by omega) (Nat.le_refl _))
                  have HS4 : Hid (Srt (dW s) l4 a b) := mrg_done HSP2.out.2.2.2.2.2.2 HRE3.out HS3.out hre4 hs4
                  clear hm4 hg4 hr4 hre4 hs4
                  go_wp2
                  go_returns
                  exact ⟨rfl, ⟨l4, HR4.out, HRE4.out, HS4.out⟩, HG4.out⟩
                · have g2' : ¬ (en : Int) < (b : Int) := by omega
                  have HM : Hid (Mg wr base kb n c s l a b) := ⟨l, HR3.out, HRE2.out.trans (HRE3.out.mono (Nat.le_refl _) (by omega)), mrg_done HSP2.out.2.2.2.2.2.2 HRE3.out HS3.out HX3.out (((HSP2.out.2.2.1).sub (Nat.le_refl _) (by omega)).re HRE3.out (.inr (Nat.le_refl _)))⟩
                  go_wp2
                  go_returns
                  exact ⟨rfl, HM, HG3.out⟩
              · have g1' : ¬ (mid : Int) < (en : Int) := by omega
                have HM : Hid (Mg wr base kb n c s l a b) := ⟨l, HR3.out, HRE2.out.trans (HRE3.out.mono (Nat.le_refl _) (by omega)), mrg_done HSP2.out.2.2.2.2.2.2 HRE3.out HS3.out HX3.out (((HSP2.out.2.2.2.1).sub (by omega) (Nat.le_refl _)).re HRE3.out (.inr (Nat.le_refl _)))⟩
                go_wp2
                go_returns
                exact ⟨rfl, HM, HG3.out⟩
          · have d1' : ¬ (a : Int) < (st : Int) := by omega
            have HRE3 : Hid (Re l l a mid) := Re.refl _ _ _
            have HS3 : Hid (Srt (dW s) l a mid) := (HSP2.out.2.1).sub (by omega) (Nat.le_refl _)
            have HR3 := HR2
            have HG3 := HG2
            have HX3 : Hid (Re l l mid b) := Re.refl _ _ _
            by_cases g1 : mid < en
            · have g1' : (mid : Int) < (en : Int) := by omega
              by_cases g2 : en < b
              · have g2' : (en : Int) < (b : Int) := by omega
                have HC := HIH.out wr l mid en b HR3.out (HC0.out.grown HG3.out) g1 g2 hbn HBF.out.2 ((HSP2.out.2.2.1).re HRE3.out (.inr (Nat.le_refl _))) ((HSP2.out.2.2.2.1).re HRE3.out (.inr HSE.out.2.2.2.2.2.2.1)) ((HSP2.out.2.2.2.2.2.1).re HRE3.out (.inr (Nat.le_refl _)))
                go_wp2_with fail
                refine HC.mono ?_
                rintro e w4 ⟨rfl, hm4, hg4⟩
                clear HC
                obtain ⟨l4, hr4, hre4, hs4⟩ := hm4.out
                have HR4 : Hid (Row w4 base kb n c l4) := hr4
                have HG4 : Hid (w.grownBy w4 (some kb)) := grown_trans HG3.out hg4
                have HRE4 : Hid (Re l l4 a b) := (HRE2.out.trans (HRE3.out.mono (Nat.le_refl _) (by omega))).trans (hre4.mono (by omega) (Nat.le_refl _))
                have HS4 : Hid (Srt (dW s) l4 a b) := mrg_done HSP2.out.2.2.2.2.2.2 HRE3.out HS3.out hre4 hs4
                clear hm4 hg4 hr4 hre4 hs4
                go_wp2
                go_returns
                exact ⟨rfl, ⟨l4, HR4.out, HRE4.out, HS4.out⟩, HG4.out⟩
              · have g2' : ¬ (en : Int) < (b : Int) := by omega
                have HM : Hid (Mg wr base kb n c s l a b) := ⟨l, HR3.out, HRE2.out.trans (HRE3.out.mono (Nat.le_refl _) (by omega)), mrg_done HSP2.out.2.2.2.2.2.2 HRE3.out HS3.out HX3.out (((HSP2.out.2.2.1).sub (Nat.le_refl _) (by omega)).re HRE3.out (.inr (Nat.le_refl _)))⟩
                go_wp2
                go_returns
                exact ⟨rfl, HM, HG3.out⟩
            · have g1' : ¬ (mid : Int) < (en : Int) := by omega
              have HM : Hid (Mg wr base kb n c s l a b) := ⟨l, HR3.out, HRE2.out.trans (HRE3.out.mono (Nat.le_refl _) (by omega)), mrg_done HSP2.out.2.2.2.2.2.2 HRE3.out HS3.out HX3.out (((HSP2.out.2.2.2.1).sub (by omega) (Nat.le_refl _)).re HRE3.out (.inr (Nat.le_refl _)))⟩
              go_wp2
              go_returns
              exact ⟨rfl, HM, HG3.out⟩
  · have hgt' : ¬ (mid : Int) < (m : Int) := by omega
    have HLH : Hid (m ≤ mid) := by (show _ ≤ _); omega
    clear hgt
    go_enter Tryd.func49, Tryd.ntmps49
    go_wp2
    go_loopw [20, 21] (fun t20 t21 wr => ∃ (st r : Nat), a ≤ st ∧ st ≤ r ∧ r ≤ m ∧ t20 = .int .i64 (st : Int) ∧ t21 = .int .i64 (r : Int) ∧ Hid ((st = a ∨ ¬ dW s (l.getD (N - st) 0) < dW s (l.getD (st - 1) 0)) ∧ (r = m ∨ dW s (l.getD (p - r) 0) < dW s (l.getD r 0))) ∧ Hid (Row wr base kb n c l) ∧ Hid (w.grownBy wr (some kb))) (fun t20 t21 _ => (intOf t21).toNat - (intOf t20).toNat)
    case atStart => exact ⟨a, m, by omega, by omega, by omega, by go_num, by go_num, ⟨.inl rfl, .inl rfl⟩, HR0, grown_refl _ _⟩
    case round =>
      obtain ⟨st, r, h1, h2, h3, rfl, rfl, HI, HRW, HG⟩ := hrel
      by_cases hlt : st < r
      · have hlt' : (st : Int) < (r : Int) := by omega
        obtain ⟨S, hS⟩ : ∃ S, S = st + r := ⟨_, rfl⟩
        obtain ⟨H, hH⟩ : ∃ H, H = (st + r) / 2 := ⟨_, rfl⟩
        obtain ⟨K, hK⟩ : ∃ K, K = p - H := ⟨_, rfl⟩
        have q1 : (st : Int) + (r : Int) = (S : Int) := by omega
        have q2 : IntKind.i64.wrap (S : Int) = (S : Int) := by rw [IntKind.wrap_i64]; omega
        have q3 : IntKind.u64.wrap (S : Int) = (S : Int) := by rw [IntKind.wrap_u64]; omega
        have q4 : (S : Int) / 2 = (H : Int) := by omega
        have q5 : IntKind.i64.wrap (H : Int) = (H : Int) := by rw [IntKind.wrap_i64]; omega
        have q6 : IntKind.u64.wrap (H : Int) = (H : Int) := by rw [IntKind.wrap_u64]; omega
        have hH2 : st ≤ H ∧ H < r := by omega
        have hKb : m ≤ K ∧ K < b ∧ (p : Int) - (H : Int) = (K : Int) ∧ N - (H + 1) = K := by have := HN.out; have := HLH.out; omega
        have HK : Hid (K = p - H ∧ N - (H + 1) = K) := ⟨hK, hKb.2.2.2⟩
        have q7 : (p : Int) - (H : Int) = (K : Int) := hKb.2.2.1
        have q8 : IntKind.i64.wrap (K : Int) = (K : Int) := by rw [IntKind.wrap_i64]; omega
        have p0 : (0 : Int) ≤ (H : Int) := by omega
        have p1 : (H : Int) < (n : Int) := by omega
        have p2 : (0 : Int) ≤ (K : Int) := by omega
        have p3 : (K : Int) < (n : Int) := by omega
        obtain ⟨x, hx⟩ : ∃ x, x = l.getD K 0 := ⟨_, rfl⟩
        have HX : Hid (x = l.getD K 0) := hx
        have hxr : 1 ≤ x ∧ x ≤ 64 := by rw [hx]; exact HRW.out.num (by omega)
        have x1 : wr.cell? ⟨kb, K, none⟩ = some (.int .i64 (x : Int)) := by rw [hx]; exact HRW.out.cell (by omega)
        obtain ⟨y, hy⟩ : ∃ y, y = l.getD H 0 := ⟨_, rfl⟩
        have HY : Hid (y = l.getD H 0) := hy
        have hyr : 1 ≤ y ∧ y ≤ 64 := by rw [hy]; exact HRW.out.num (by omega)
        have x2 : wr.cell? ⟨kb, H, none⟩ = some (.int .i64 (y : Int)) := by rw [hy]; exact HRW.out.cell (by omega)
        obtain ⟨e, he⟩ : ∃ e, e = cfW s x y := ⟨_, rfl⟩
        have HCM : Hid (∀ m, Calls Tryd.prog 41 #[.int .i64 (x : Int), .int .i64 (y : Int), .pointer (some ⟨bx, 0, none⟩)] (wr.drewN m) fun e' w' => e' = .returned (.int .i64 e) ∧ ∃ m', w' = (wr.drewN m).drewN m') := fun m => by
          rw [he]
          exact (HC0.out.grown HG.out).cmp hxr hyr m
        have HE : Hid (e < 0 ↔ dW s (l.getD K 0) < dW s (l.getD H 0)) := by rw [he, HX.out, HY.out]; exact cf_lt _ _ _
        clear hx hy he hS hH hK hKb
        by_cases hel : e < 0
        · have hel2 : decide (e < 0) = true := by simpa using hel
          have HI2 : Hid ((st = a ∨ ¬ dW s (l.getD (N - st) 0) < dW s (l.getD (st - 1) 0)) ∧ (H = m ∨ dW s (l.getD (p - H) 0) < dW s (l.getD H 0))) := ⟨HI.out.1, .inr (by rw [← HK.out.1]; exact HE.out.1 hel)⟩
          go_wp2
          go_quiet ((go_at_call 41; refine Calls.quiet_of (HCM.out _)))
          generalize hnq : World.drewN _ _ = wq
          have HRq : Hid (Row wq base kb n c l) := by (show Row _ _ _ _ _ _); rw [← hnq]; exact HRW.out.drews _
          have HGq : Hid (w.grownBy wq (some kb)) := by (show World.grownBy _ _ _); rw [← hnq]; exact grown_drews HG.out _
          clear hnq
          go_wp2
          go_roundw
          case rel => exact ⟨st, H, by omega, by omega, by omega, by go_num, by go_num, HI2, HRq, HGq⟩
          case measure => simp [intOf]; omega
        · have hel2 : decide (e < 0) = false := by simpa using hel
          have HI2 : Hid ((H + 1 = a ∨ ¬ dW s (l.getD (N - (H + 1)) 0) < dW s (l.getD (H + 1 - 1) 0)) ∧ (r = m ∨ dW s (l.getD (p - r) 0) < dW s (l.getD r 0))) := ⟨.inr (by rw [HK.out.2]; exact fun h => hel (HE.out.2 h)), HI.out.2⟩
          go_wp2
          go_quiet ((go_at_call 41; refine Calls.quiet_of (HCM.out _)))
          generalize hnq : World.drewN _ _ = wq
          have HRq : Hid (Row wq base kb n c l) := by (show Row _ _ _ _ _ _); rw [← hnq]; exact HRW.out.drews _
          have HGq : Hid (w.grownBy wq (some kb)) := by (show World.grownBy _ _ _); rw [← hnq]; exact grown_drews HG.out _
          clear hnq
          go_wp2
          go_roundw
          case rel => exact ⟨H + 1, r, by omega, by omega, by omega, by go_num, by go_num, HI2, HRq, HGq⟩
          case measure => simp [intOf]; omega
      · obtain rfl : st = r := by omega
        have hlt' : ¬ (st : Int) < (st : Int) := by omega
        obtain ⟨en, hen⟩ : ∃ en, en = N - st := ⟨_, rfl⟩
        have hse : st + en = mid + m ∧ a ≤ st ∧ st ≤ m ∧ m ≤ en ∧ en ≤ b ∧ st ≤ mid ∧ mid ≤ en ∧ 1 ≤ N := by have := HN.out; have := HLH.out; omega
        have HSE : Hid (st + en = mid + m ∧ a ≤ st ∧ st ≤ m ∧ m ≤ en ∧ en ≤ b ∧ st ≤ mid ∧ mid ≤ en ∧ 1 ≤ N) := hse
        have e1 : (N : Int) - (st : Int) = (en : Int) := by have := HN.out; omega
        have e2 : IntKind.i64.wrap (en : Int) = (en : Int) := by rw [IntKind.wrap_i64]; omega
        have HSP : Hid (∀ l1, By l l1 (rotF st m en) → Srt (dW s) l1 a st ∧ Srt (dW s) l1 st mid ∧ Srt (dW s) l1 mid en ∧ Srt (dW s) l1 en b ∧ Agr (dW s) l1 a st mid ∧ Agr (dW s) l1 mid en b ∧ ∀ i j, a ≤ i → i < mid → mid ≤ j → j < b → ltD (dW s) (l1.getD i 0) (l1.getD j 0)) := fun l1 hby => by
          have k1 := HN.out
          have k2 := HLH.out
          obtain ⟨k3, k4⟩ := HI.out
          rw [show N - st = en from hen.symm] at k3
          rw [show p - st = en - 1 from by omega] at k4
          refine mrg_split HS.out.1 HS.out.2.1 HS.out.2.2 (by omega) (by omega) (by omega) (by omega) (by omega) ?_ ?_ hby
          · rcases k3 with k3 | k3
            · (first | exact .inl (by omega) | exact .inr (.inl (by omega)))
            · exact .inr (.inr k3)
          · rcases k4 with k4 | k4
            · (first | exact .inl (by omega) | exact .inr (.inl (by omega)))
            · exact .inr (.inr k4)
        have HBF : Hid (mid - a ≤ F ∧ b - mid ≤ F) := by (show _ ∧ _); omega
        clear hen
        by_cases c1 : st < m
        · have c1' : (st : Int) < (m : Int) := by omega
          by_cases c2 : m < en
          · have c2' : (m : Int) < (en : Int) := by omega
            have HC := wh_rot wr base kb n c l (.func (.func 41) #[] #[.pointer (some ⟨bx, 0, none⟩)]) st m en HRW.out c1 c2 (by omega) hn
            go_wp2_with fail
            refine HC.mono ?_
            rintro e w2 ⟨rfl, hm2, hg2⟩
            clear HC
            obtain ⟨l2, hr2, hby2⟩ := hm2.out
            have HR2 : Hid (Row w2 base kb n c l2) := hr2
            have HG2 : Hid (w.grownBy w2 (some kb)) := grown_trans HG.out hg2
            have HRE2 : Hid (Re l l2 a b) := (Re.of_rot hby2 (by omega) (by omega)).mono (by omega) (by omega)
            have HSP2 := HSP.out l2 hby2
            have HSP2 : Hid _ := HSP2
            clear hm2 hg2 hr2 hby2
            by_cases d1 : a < st
            · have d1' : (a : Int) < (st : Int) := by omega
              by_cases d2 : st < mid
              · have d2' : (st : Int) < (mid : Int) := by omega
                have HC := HIH.out w2 l2 a st mid HR2.out (HC0.out.grown HG2.out) d1 d2 (by omega) HBF.out.1 HSP2.out.1 HSP2.out.2.1 HSP2.out.2.2.2.2.1
                go_wp2_with fail
                refine HC.mono ?_
                rintro e w3 ⟨rfl, hm3, hg3⟩
                clear HC
                obtain ⟨l3, hr3, hre3, hs3⟩ := hm3.out
                have HR3 : Hid (Row w3 base kb n c l3) := hr3
                have HG3 : Hid (w.grownBy w3 (some kb)) := grown_trans HG2.out hg3
                have HRE3 : Hid (Re l2 l3 a mid) := hre3
                have HS3 : Hid (Srt (dW s) l3 a mid) := hs3
                clear hm3 hg3 hr3 hre3 hs3
                have HX3 : Hid (Re l3 l3 mid b) := Re.refl _ _ _
                by_cases g1 : mid < en
                · have g1' : (mid : Int) < (en : Int) := by omega
                  by_cases g2 : en < b
                  · have g2' : (en : Int) < (b : Int) := by omega
                    have HC := HIH.out w3 l3 mid en b HR3.out (HC0.out.grown HG3.out) g1 g2 hbn HBF.out.2 ((HSP2.out.2.2.1).re HRE3.out (.inr (Nat.le_refl _))) ((HSP2.out.2.2.2.1).re HRE3.out (.inr HSE.out.2.2.2.2.2.2.1)) ((HSP2.out.2.2.2.2.2.1).re HRE3.out (.inr (Nat.le_refl _)))
                    go_wp2_with fail
                    refine HC.mono ?_
                    rintro e w4 ⟨rfl, hm4, hg4⟩
                    clear HC
                    obtain ⟨l4, hr4, hre4, hs4⟩ := hm4.out
                    have HR4 : Hid (Row w4 base kb n c l4) := hr4
                    have HG4 : Hid (w.grownBy w4 (some kb)) := grown_trans HG3.out hg4
                    have HRE4 : Hid (Re l l4 a b) := (HRE2.out.trans (HRE3.out.mono (Nat.le_refl _) (by omega))).trans (hre4.mono (by omega) (Nat.le_refl _))
                    have HS4 : Hid (Srt (dW s) l4 a b) := mrg_done HSP2.out.2.2.2.2.2.2 HRE3.out HS3.out hre4 hs4
                    clear hm4 hg4 hr4 hre4 hs4
                    go_wp2
                    go_returns
                    exact ⟨rfl, ⟨l4, HR4.out, HRE4.out, HS4.out⟩, HG4.out⟩
                  · have g2' : ¬ (en : Int) < (b : Int) := by omega
                    have HM : Hid (Mg w3 base kb n c s l a b) := ⟨l3, HR3.out, HRE2.out.trans (HRE3.out.mono (Nat.le_refl _) (by omega)), mrg_done HSP2.out.2.2.2.2.2.2 HRE3.out HS3.out HX3.out (((HSP2.out.2.2.1).sub (Nat.le_refl _) (by omega)).re HRE3.out (.inr (Nat.le_refl _)))⟩
                    go_wp2
                    go_returns
                    exact ⟨rfl, HM, HG3.out⟩
                · have g1' : ¬ (mid : Int) < (en : Int) := by omega
                  have HM : Hid (Mg w3 base kb n c s l a b) := ⟨l3, HR3.out, HRE2.out.trans (HRE3.out.mono (Nat.le_refl _) (by omega)), mrg_done HSP2.out.2.2.2.2.2.2 HRE3.out HS3.out HX3.out (((HSP2.out.2.2.2.1).sub (by omega) (Nat.le_refl _)).re HRE3.out (.inr (Nat.le_refl _)))⟩
                  go_wp2
                  go_returns
                  exact ⟨rfl, HM, HG3.out⟩
              · have d2' : ¬ (st : Int) < (mid : Int) := by omega
                have HRE3 : Hid (Re l2 l2 a mid) := Re.refl _ _ _
                have HS3 : Hid (Srt (dW s) l2 a mid) := (HSP2.out.1).sub (Nat.le_refl _) (by omega)
                have HR3 := HR2
                have HG3 := HG2
                have HX3 : Hid (Re l2 l2 mid b) := Re.refl _ _ _
                by_cases g1 : mid < en
                · have g1' : (mid : Int) < (en : Int) := by omega
                  by_cases g2 : en < b
                  · have g2' : (en : Int) < (b : Int) := by omega
                    have HC := HIH.out w2 l2 mid en b HR3.out (HC0.out.grown HG3.out) g1 g2 hbn HBF.out.2 ((HSP2.out.2.2.1).re HRE3.out (.inr (Nat.le_refl _))) ((HSP2.out.2.2.2.1).re HRE3.out (.inr HSE.out.2.2.2.2.2.2.1)) ((HSP2.out.2.2.2.2.2.1).re HRE3.out (.inr (Nat.le_refl _)))
                    go_wp2_with fail
                    refine HC.mono ?_
                    rintro e w4 ⟨rfl, hm4, hg4⟩
                    clear HC
                    obtain ⟨l4, hr4, hre4, hs4⟩ := hm4.out
                    have HR4 : Hid (Row w4 base kb n c l4) := hr4
                    have HG4 : Hid (w.grownBy w4 (some kb)) := grown_trans HG3.out hg4
                    have HRE4 : Hid (Re l l4 a b) := (HRE2.out.trans (HRE3.out.mono (Nat.le_refl _) (by omega))).trans (hre4.mono (by omega) (Nat.le_refl _))
                    have HS4 : Hid (Srt (dW s) l4 a b) := mrg_done HSP2.out.2.2.2.2.2.2 HRE3.out HS3.out hre4 hs4
                    clear hm4 hg4 hr4 hre4 hs4
                    go_wp2
                    go_returns
                    exact ⟨rfl, ⟨l4, HR4.out, HRE4.out, HS4.out⟩, HG4.out⟩
                  · have g2' : ¬ (en : Int) < (b : Int) := by omega
                    have HM : Hid (Mg w2 base kb n c s l a b) := ⟨l2, HR3.out, HRE2.out.trans (HRE3.out.mono (Nat.le_refl _) (by omega)), mrg_done HSP2.out.2.2.2.2.2.2 HRE3.out HS3.out HX3.out (((HSP2.out.2.2.1).sub (Nat.le_refl _) (by omega)).re HRE3.out (.inr (Nat.le_refl _)))⟩
                    go_wp2
                    go_returns
                    exact ⟨rfl, HM, HG3.out⟩
                · have g1' : ¬ (mid : Int) < (en : Int) := by omega
                  have HM : Hid (Mg w2 base kb n c s l a b) := ⟨l2, HR3.out, HRE2.out.trans (HRE3.out.mono (Nat.le_refl _) (by omega)), mrg_done HSP2.out.2.2.2.2.2.2 HRE3.out HS3.out HX3.out (((HSP2.out.2.2.2.1).sub (by omega) (Nat.le_refl _)).re HRE3.out (.inr (Nat.le_refl _)))⟩
                  go_wp2
                  go_returns
                  exact ⟨rfl, HM, HG3.out⟩
            · have d1' : ¬ (a : Int) < (st : Int) := by omega
              have HRE3 : Hid (Re l2 l2 a mid) := Re.refl _ _ _
              have HS3 : Hid (Srt (dW s) l2 a mid) := (HSP2.out.2.1).sub (by omega) (Nat.le_refl _)
              have HR3 := HR2
              have HG3 := HG2
              have HX3 : Hid (Re l2 l2 mid b) := Re.refl _ _ _
              by_cases g1 : mid < en
              · have g1' : (mid : Int) < (en : Int) := by omega
                by_cases g2 : en < b
                · have g2' : (en : Int) < (b : Int) := by omega
                  have HC := HIH.out w2 l2 mid en b HR3.out (HC0.out.grown HG3.out) g1 g2 hbn HBF.out.2 ((HSP2.out.2.2.1).re HRE3.out (.inr (Nat.le_refl _))) ((HSP2.out.2.2.2.1).re HRE3.out (.inr HSE.out.2.2.2.2.2.2.1)) ((HSP2.out.2.2.2.2.2.1).re HRE3.out (.inr (Nat.le_refl _)))
                  go_wp2_with fail
                  refine HC.mono ?_
                  rintro e w4 ⟨rfl, hm4, hg4⟩
                  clear HC
                  obtain ⟨l4, hr4, hre4, hs4⟩ := hm4.out
                  have HR4 : Hid (Row w4 base kb n c l4) := hr4
                  have HG4 : Hid (w.grownBy w4 (some kb)) := grown_trans HG3.out hg4
                  have HRE4 : Hid (Re l l4 a b) := (HRE2.out.trans (HRE3.out.mono (Nat.le_refl _) (by omega))).trans (hre4.mono (by omega) (Nat.le_refl _))
                  have HS4 : Hid (Srt (dW s) l4 a b) := mrg_done HSP2.out.2.2.2.2.2.2 HRE3.out HS3.out hre4 hs4
                  clear hm4 hg4 hr4 hre4 hs4
                  go_wp2
                  go_returns
                  exact ⟨rfl, ⟨l4, HR4.out, HRE4.out, HS4.out⟩, HG4.out⟩
                · have g2' : ¬ (en : Int) < (b : Int) := by omega
                  have HM : Hid (Mg w2 base kb n c s l a b) := ⟨l2, HR3.out, HRE2.out.trans (HRE3.out.mono (Nat.le_refl _) (by omega)), mrg_done HSP2.out.2.2.2.2.2.2 HRE3.out HS3.out HX3.out (((HSP2.out.2.2.1).sub (Nat.le_refl _) (by omega)).re HRE3.out (.inr (Nat.le_refl _)))⟩
                  go_wp2
                  go_returns
                  exact ⟨rfl, HM, HG3.out⟩
              · have g1' : ¬ (mid : Int) < (en : Int) := by omega
                have HM : Hid (Mg w2 base kb n c s l a b) := ⟨l2, HR3.out, HRE2.out.trans (HRE3.out.mono (Nat.le_refl _) (by omega)), mrg_done HSP2.out.2.2.2.2.2.2 HRE3.out HS3.out HX3.out (((HSP2.out.2.2.2.1).sub (by omega) (Nat.le_refl _)).re HRE3.out (.inr (Nat.le_refl _)))⟩
                go_wp2
                go_returns
                exact ⟨rfl, HM, HG3.out⟩
          · have c2' : ¬ (m : Int) < (en : Int) := by omega
            have HSP2 : Hid _ := HSP.out l ((By.refl l).congr (fun k => rot_id st m en k (by omega) (by omega) (by omega)))
            have HRE2 : Hid (Re l l a b) := Re.refl _ _ _
            have HR2 := HRW
            have HG2 := HG
            by_cases d1 : a < st
            · have d1' : (a : Int) < (st : Int) := by omega
              by_cases d2 : st < mid
              · have d2' : (st : Int) < (mid : Int) := by omega
                have HC := HIH.out wr l a st mid HR2.out (HC0.out.grown HG2.out) d1 d2 (by omega) HBF.out.1 HSP2.out.1 HSP2.out.2.1 HSP2.out.2.2.2.2.1
                go_wp2_with fail
                refine HC.mono ?_
                rintro e w3 ⟨rfl, hm3, hg3⟩
                clear HC
                obtain ⟨l3, hr3, hre3, hs3⟩ := hm3.out
                have HR3 : Hid (Row w3 base kb n c l3) := hr3
                have HG3 : Hid (w.grownBy w3 (some kb)) := grown_trans HG2.out hg3
                have HRE3 : Hid (Re l l3 a mid) := hre3
                have HS3 : Hid (Srt (dW s) l3 a mid) := hs3
                clear hm3 hg3 hr3 hre3 hs3
                have HX3 : Hid (Re l3 l3 mid b) := Re.refl _ _ _
                by_cases g1 : mid < en
                · have g1' : (mid : Int) < (en : Int) := by omega
                  by_cases g2 : en < b
                  · have g2' : (en : Int) < (b : Int) := by omega
                    have HC := HIH.out w3 l3 mid en b HR3.out (HC0.out.grown HG3.out) g1 g2 hbn HBF.out.2 ((HSP2.out.2.2.1).re HRE3.out (.inr (Nat.le_refl _))) ((HSP2.out.2.2.2.1).re HRE3.out (.inr HSE.out.2.2.2.2.2.2.1)) ((HSP2.out.2.2.2.2.2.1).re HRE3.out (.inr (Nat.le_refl _)))
                    go_wp2_with fail
                    refine HC.mono ?_
                    rintro e w4 ⟨rfl, hm4, hg4⟩
                    clear HC
                    obtain ⟨l4, hr4, hre4, hs4⟩ := hm4.out
                    have HR4 : Hid (Row w4 base kb n c l4) := hr4
                    have HG4 : Hid (w.grownBy w4 (some kb)) := grown_trans HG3.out hg4
                    have HRE4 : Hid (Re l l4 a b) := (HRE2.out.trans (HRE3.out.mono (Nat.le_refl _) (by omega))).trans (hre4.mono (by omega) (Nat.le_refl _))
                    have HS4 : Hid (Srt (dW s) l4 a b) := mrg_done HSP2.out.2.2.2.2.2.2 HRE3.out HS3.out hre4 hs4
                    clear hm4 hg4 hr4 hre4 hs4
                    go_wp2
                    go_returns
                    exact ⟨rfl, ⟨l4, HR4.out, HRE4.out, HS4.out⟩, HG4.out⟩
                  · have g2' : ¬ (en : Int) < (b : Int) := by omega
                    have HM : Hid (Mg w3 base kb n c s l a b) := ⟨l3, HR3.out, HRE2.out.trans (HRE3.out.mono (Nat.le_refl _) (by omega)), mrg_done HSP2.out.2.2.2.2.2.2 HRE3.out HS3.out HX3.out (((HSP2.out.2.2.1).sub (Nat.le_refl _) (by omega)).re HRE3.out (.inr (Nat.le_refl _)))⟩
                    go_wp2
                    go_returns
                    exact ⟨rfl, HM, HG3.out⟩
                · have g1' : ¬ (mid : Int) < (en : Int) := by omega
                  have HM : Hid (Mg w3 base kb n c s l a b) := ⟨l3, HR3.out, HRE2.out.trans (HRE3.out.mono (Nat.le_refl _) (by omega)), mrg_done HSP2.out.2.2.2.2.2.2 HRE3.out HS3.out HX3.out (((HSP2.out.2.2.2.1).sub (by omega) (Nat.le_refl _)).re HRE3.out (.inr (Nat.le_refl _)))⟩
                  go_wp2
                  go_returns
                  exact ⟨rfl, HM, HG3.out⟩
              · have d2' : ¬ (st : Int) < (mid : Int) := by omega
                have HRE3 : Hid (Re l l a mid) := Re.refl _ _ _
                have HS3 : Hid (Srt (dW s) l a mid) := (HSP2.out.1).sub (Nat.le_refl _) (by omega)
                have HR3 := HR2
                have HG3 := HG2
                have HX3 : Hid (Re l l mid b) := Re.refl _ _ _
                by_cases g1 : mid < en
                · have g1' : (mid : Int) < (en : Int) := by omega
                  by_cases g2 : en < b
                  · have g2' : (en : Int) < (b : Int) := by omega
                    have HC := HIH.out wr l mid en b HR3.out (HC0.out.grown HG3.out) g1 g2 hbn HBF.out.2 ((HSP2.out.2.2.1).re HRE3.out (.inr (Nat.le_refl _))) ((HSP2.out.2.2.2.1).re HRE3.out (.inr HSE.out.2.2.2.2.2.2.1)) ((HSP2.out.2.2.2.2.2.1).re HRE3.out (.inr (Nat.le_refl _)))
                    go_wp2_with fail
                    refine HC.mono ?_
                    rintro e w4 ⟨rfl, hm4, hg4⟩
                    clear HC
                    obtain ⟨l4, hr4, hre4, hs4⟩ := hm4.out
                    have HR4 : Hid (Row w4 base kb n c l4) := hr4
                    have HG4 : Hid (w.grownBy w4 (some kb)) := grown_trans HG3.out hg4
                    have HRE4 : Hid (Re l l4 a b) := (HRE2.out.trans (HRE3.out.mono (Nat.le_refl _) (by omega))).trans (hre4.mono (by omega) (Nat.le_refl _))
                    have HS4 : Hid (Srt (dW s) l4 a b) := mrg_done HSP2.out.2.2.2.2.2.2 HRE3.out HS3.out hre4 hs4
                    clear hm4 hg4 hr4 hre4 hs4
                    go_wp2
                    go_returns
                    exact ⟨rfl, ⟨l4, HR4.out, HRE4.out, HS4.out⟩, HG4.out⟩
                  · have g2' : ¬ (en : Int) < (b : Int) := by omega
                    have HM : Hid (Mg wr base kb n c s l a b) := ⟨l, HR3.out, HRE2.out.trans (HRE3.out.mono (Nat.le_refl _) (by omega)), mrg_done HSP2.out.2.2.2.2.2.2 HRE3.out HS3.out HX3.out (((HSP2.out.2.2.1).sub (Nat.le_refl _) (by omega)).re HRE3.out (.inr (Nat.le_refl _)))⟩
                    go_wp2
                    go_returns
                    exact ⟨rfl, HM, HG3.out⟩
                · have g1' : ¬ (mid : Int) < (en : Int) := by omega
                  have HM : Hid (Mg wr base kb n c s l a b) := ⟨l, HR3.out, HRE2.out.trans (HRE3.out.mono (Nat.le_refl _) (by omega)), mrg_done HSP2.out.2.2.2.2.2.2 HRE3.out HS3.out HX3.out (((HSP2.out.2.2.2.1).sub (by omega) (Nat.le_refl _)).re HRE3.out (.inr (Nat.le_refl _)))⟩
                  go_wp2
                  go_returns
                  exact ⟨rfl, HM, HG3.out⟩
            · have d1' : ¬ (a : Int) < (st : Int) := by omega
              have HRE3 : Hid (Re l l a mid) := Re.refl _ _ _
              have HS3 : Hid (Srt (dW s) l a mid) := (HSP2.out.2.1).sub (by omega) (Nat.le_refl _)
              have HR3 := HR2
              have HG3 := HG2
              have HX3 : Hid (Re l l mid b) := Re.refl _ _ _
              by_cases g1 : mid < en
              · have g1' : (mid : Int) < (en : Int) := by omega
                by_cases g2 : en < b
                · have g2' : (en : Int) < (b : Int) := by omega
                  have HC := HIH.out wr l mid en b HR3.out (HC0.out.grown HG3.out) g1 g2 hbn HBF.out.2 ((HSP2.out.2.2.1).re HRE3.out (.inr (Nat.le_refl _))) ((HSP2.out.2.2.2.1).re HRE3.out (.inr HSE.out.2.2.2.2.2.2.1)) ((HSP2.out.2.2.2.2.2.1).re HRE3.out (.inr (Nat.le_refl _)))
                  go_wp2_with fail
                  refine HC.mono ?_
                  rintro e w4 ⟨rfl, hm4, hg4⟩
                  clear HC
                  obtain ⟨l4, hr4, hre4, hs4⟩ := hm4.out
                  have HR4 : Hid (Row w4 base kb n c l4) := hr4
                  have HG4 : Hid (w.grownBy w4 (some kb)) := grown_trans HG3.out hg4
                  have HRE4 : Hid (Re l l4 a b) := (HRE2.out.trans (HRE3.out.mono (Nat.le_refl _) (by omega))).trans (hre4.mono (by omega) (Nat.le_refl _))
                  have HS4 : Hid (Srt (dW s) l4 a b) := mrg_done HSP2.out.2.2.2.2.2.2 HRE3.out HS3.out hre4 hs4
                  clear hm4 hg4 hr4 hre4 hs4
                  go_wp2
                  go_returns
                  exact ⟨rfl, ⟨l4, HR4.out, HRE4.out, HS4.out⟩, HG4.out⟩
                · have g2' : ¬ (en : Int) < (b : Int) := by omega
                  have HM : Hid (Mg wr base kb n c s l a b) := ⟨l, HR3.out, HRE2.out.trans (HRE3.out.mono (Nat.le_refl _) (by omega)), mrg_done HSP2.out.2.2.2.2.2.2 HRE3.out HS3.out HX3.out (((HSP2.out.2.2.1).sub (Nat.le_refl _) (by omega)).re HRE3.out (.inr (Nat.le_refl _)))⟩
                  go_wp2
                  go_returns
                  exact ⟨rfl, HM, HG3.out⟩
              · have g1' : ¬ (mid : Int) < (en : Int) := by omega
                have HM : Hid (Mg wr base kb n c s l a b) := ⟨l, HR3.out, HRE2.out.trans (HRE3.out.mono (Nat.le_refl _) (by omega)), mrg_done HSP2.out.2.2.2.2.2.2 HRE3.out HS3.out HX3.out (((HSP2.out.2.2.2.1).sub (by omega) (Nat.le_refl _)).re HRE3.out (.inr (Nat.le_refl _)))⟩
                go_wp2
                go_returns
                exact ⟨rfl, HM, HG3.out⟩
        · have c1' : ¬ (st : Int) < (m : Int) := by omega
          have HSP2 : Hid _ := HSP.out l ((By.refl l).congr (fun k => rot_id st m en k (by omega) (by omega) (by omega)))
          have HRE2 : Hid (Re l l a b) := Re.refl _ _ _
          have HR2 := HRW
          have HG2 := HG
          by_cases d1 : a < st
          · have d1' : (a : Int) < (st : Int) := by omega
            by_cases d2 : st < mid
            · have d2' : (st : Int) < (mid : Int) := by omega
              have HC := HIH.out wr l a st mid HR2.out (HC0.out.grown HG2.out) d1 d2 (by omega) HBF.out.1 HSP2.out.1 HSP2.out.2.1 HSP2.out.2.2.2.2.1
              go_wp2_with fail
              refine HC.mono ?_
              rintro e w3 ⟨rfl, hm3, hg3⟩
              clear HC
              obtain ⟨l3, hr3, hre3, hs3⟩ := hm3.out
              have HR3 : Hid (Row w3 base kb n c l3) := hr3
              have HG3 : Hid (w.grownBy w3 (some kb)) := grown_trans HG2.out hg3
              have HRE3 : Hid (Re l l3 a mid) := hre3
              have HS3 : Hid (Srt (dW s) l3 a mid) := hs3
              clear hm3 hg3 hr3 hre3 hs3
              have HX3 : Hid (Re l3 l3 mid b) := Re.refl _ _ _
              by_cases g1 : mid < en
              · have g1' : (mid : Int) < (en : Int) := by omega
                by_cases g2 : en < b
                · have g2' : (en : Int) < (b : Int) := by omega
                  have HC := HIH.out w3 l3 mid en b HR3.out (HC0.out.grown HG3.out) g1 g2 hbn HBF.out.2 ((HSP2.out.2.2.1).re HRE3.out (.inr (Nat.le_refl _))) ((HSP2.out.2.2.2.1).re HRE3.out (.inr HSE.out.2.2.2.2.2.2.1)) ((HSP2.out.2.2.2.2.2.1).re HRE3.out (.inr (Nat.le_refl _)))
                  go_wp2_with fail
                  refine HC.mono ?_
                  rintro e w4 ⟨rfl, hm4, hg4⟩
                  clear HC
                  obtain ⟨l4, hr4, hre4, hs4⟩ := hm4.out
                  have HR4 : Hid (Row w4 base kb n c l4) := hr4
                  have HG4 : Hid (w.grownBy w4 (some kb)) := grown_trans HG3.out hg4
                  have HRE4 : Hid (Re l l4 a b) := (HRE2.out.trans (HRE3.out.mono (Nat.le_refl _) (by omega))).trans (hre4.mono (by omega) (Nat.le_refl _))
                  have HS4 : Hid (Srt (dW s) l4 a b) := mrg_done HSP2.out.2.2.2.2.2.2 HRE3.out HS3.out hre4 hs4
                  clear hm4 hg4 hr4 hre4 hs4
                  go_wp2
                  go_returns
                  exact ⟨rfl, ⟨l4, HR4.out, HRE4.out, HS4.out⟩, HG4.out⟩
                · have g2' : ¬ (en : Int) < (b : Int) := by omega
                  have HM : Hid (Mg w3 base kb n c s l a b) := ⟨l3, HR3.out, HRE2.out.trans (HRE3.out.mono (Nat.le_refl _) (by omega)), mrg_done HSP2.out.2.2.2.2.2.2 HRE3.out HS3.out HX3.out (((HSP2.out.2.2.1).sub (Nat.le_refl _) (by omega)).re HRE3.out (.inr (Nat.le_refl _)))⟩
                  go_wp2
                  go_returns
                  exact ⟨rfl, HM, HG3.out⟩
              · have g1' : ¬ (mid : Int) < (en : Int) := by omega
                have HM : Hid (Mg w3 base kb n c s l a b) := ⟨l3, HR3.out, HRE2.out.trans (HRE3.out.mono (Nat.le_refl _) (by omega)), mrg_done HSP2.out.2.2.2.2.2.2 HRE3.out HS3.out HX3.out (((HSP2.out.2.2.2.1).sub (by omega) (Nat.le_refl _)).re HRE3.out (.inr (Nat.le_refl _)))⟩
                go_wp2
                go_returns
                exact ⟨rfl, HM, HG3.out⟩
            · have d2' : ¬ (st : Int) < (mid : Int) := by omega
              have HRE3 : Hid (Re l l a mid) := Re.refl _ _ _
              have HS3 : Hid (Srt (dW s) l a mid) := (HSP2.out.1).sub (Nat.le_refl _) (by omega)
              have HR3 := HR2
              have HG3 := HG2
              have HX3 : Hid (Re l l mid b) := Re.refl _ _ _
              by_cases g1 : mid < en
              · have g1' : (mid : Int) < (en : Int) := by omega
                by_cases g2 : en < b
                · have g2' : (en : Int) < (b : Int) := by omega
                  have HC := HIH.out wr l mid en b HR3.out (HC0.out.grown HG3.out) g1 g2 hbn HBF.out.2 ((HSP2.out.2.2.1).re HRE3.out (.inr (Nat.le_refl _))) ((HSP2.out.2.2.2.1).re HRE3.out (.inr HSE.out.2.2.2.2.2.2.1)) ((HSP2.out.2.2.2.2.2.1).re HRE3.out (.inr (Nat.le_refl _)))
                  go_wp2_with fail
                  refine HC.mono ?_
                  rintro e w4 ⟨rfl, hm4, hg4⟩
                  clear HC
                  obtain ⟨l4, hr4, hre4, hs4⟩ := hm4.out
                  have HR4 : Hid (Row w4 base kb n c l4) := hr4
                  have HG4 : Hid (w.grownBy w4 (some kb)) := grown_trans HG3.out hg4
                  have HRE4 : Hid (Re l l4 a b) := (HRE2.out.trans (HRE3.out.mono (Nat.le_refl _) (by omega))).trans (hre4.mono (by omega) (Nat.le_refl _))
                  have HS4 : Hid (Srt (dW s) l4 a b) := mrg_done HSP2.out.2.2.2.2.2.2 HRE3.out HS3.out hre4 hs4
                  clear hm4 hg4 hr4 hre4 hs4
                  go_wp2
                  go_returns
                  exact ⟨rfl, ⟨l4, HR4.out, HRE4.out, HS4.out⟩, HG4.out⟩
                · have g2' : ¬ (en : Int) < (b : Int) := by omega
                  have HM : Hid (Mg wr base kb n c s l a b) := ⟨l, HR3.out, HRE2.out.trans (HRE3.out.mono (Nat.le_refl _) (by omega)), mrg_done HSP2.out.2.2.2.2.2.2 HRE3.out HS3.out HX3.out (((HSP2.out.2.2.1).sub (Nat.le_refl _) (by omega)).re HRE3.out (.inr (Nat.le_refl _)))⟩
                  go_wp2
                  go_returns
                  exact ⟨rfl, HM, HG3.out⟩
              · have g1' : ¬ (mid : Int) < (en : Int) := by omega
                have HM : Hid (Mg wr base kb n c s l a b) := ⟨l, HR3.out, HRE2.out.trans (HRE3.out.mono (Nat.le_refl _) (by omega)), mrg_done HSP2.out.2.2.2.2.2.2 HRE3.out HS3.out HX3.out (((HSP2.out.2.2.2.1).sub (by omega) (Nat.le_refl _)).re HRE3.out (.inr (Nat.le_refl _)))⟩
                go_wp2
                go_returns
                exact ⟨rfl, HM, HG3.out⟩
          · have d1' : ¬ (a : Int) < (st : Int) := by omega
            have HRE3 : Hid (Re l l a mid) := Re.refl _ _ _
            have HS3 : Hid (Srt (dW s) l a mid) := (HSP2.out.2.1).sub (by omega) (Nat.le_refl _)
            have HR3 := HR2
            have HG3 := HG2
            have HX3 : Hid (Re l l mid b) := Re.refl _ _ _
            by_cases g1 : mid < en
            · have g1' : (mid : Int) < (en : Int) := by omega
              by_cases g2 : en < b
              · have g2' : (en : Int) < (b : Int) := by omega
                have HC := HIH.out wr l mid en b HR3.out (HC0.out.grown HG3.out) g1 g2 hbn HBF.out.2 ((HSP2.out.2.2.1).re HRE3.out (.inr (Nat.le_refl _))) ((HSP2.out.2.2.2.1).re HRE3.out (.inr HSE.out.2.2.2.2.2.2.1)) ((HSP2.out.2.2.2.2.2.1).re HRE3.out (.inr (Nat.le_refl _)))
                go_wp2_with fail
                refine HC.mono ?_
                rintro e w4 ⟨rfl, hm4, hg4⟩
                clear HC
                obtain ⟨l4, hr4, hre4, hs4⟩ := hm4.out
                have HR4 : Hid (Row w4 base kb n c l4) := hr4
                have HG4 : Hid (w.grownBy w4 (some kb)) := grown_trans HG3.out hg4
                have HRE4 : Hid (Re l l4 a b) := (HRE2.out.trans (HRE3.out.mono (Nat.le_refl _) (by omega))).trans (hre4.mono (by omega) (Nat.le_refl _))
                have HS4 : Hid (Srt (dW s) l4 a b) := mrg_done HSP2.out.2.2.2.2.2.2 HRE3.out HS3.out hre4 hs4
                clear hm4 hg4 hr4 hre4 hs4
                go_wp2
                go_returns
                exact ⟨rfl, ⟨l4, HR4.out, HRE4.out, HS4.out⟩, HG4.out⟩
              · have g2' : ¬ (en : Int) < (b : Int) := by omega
                have HM : Hid (Mg wr base kb n c s l a b) := ⟨l, HR3.out, HRE2.out.trans (HRE3.out.mono (Nat.le_refl _) (by omega)), mrg_done HSP2.out.2.2.2.2.2.2 HRE3.out HS3.out HX3.out (((HSP2.out.2.2.1).sub (Nat.le_refl _) (by omega)).re HRE3.out (.inr (Nat.le_refl _)))⟩
                go_wp2
                go_returns
                exact ⟨rfl, HM, HG3.out⟩
            · have g1' : ¬ (mid : Int) < (en : Int) := by omega
              have HM : Hid (Mg wr base kb n c s l a b) := ⟨l, HR3.out, HRE2.out.trans (HRE3.out.mono (Nat.le_refl _) (by omega)), mrg_done HSP2.out.2.2.2.2.2.2 HRE3.out HS3.out HX3.out (((HSP2.out.2.2.2.1).sub (by omega) (Nat.le_refl _)).re HRE3.out (.inr (Nat.le_refl _)))⟩
              go_wp2
              go_returns
              exact ⟨rfl, HM, HG3.out⟩
end Go.Proofs.YteiadaonihgbfaaDoor
