/- slices.stableCmpFunc of up to 64 numbers. -/
import Derived.Test.YteiadaonihgbfaaDoorWhS7
import Derived.Test.YteiadaonihgbfaaDoorWh13
namespace Go.Proofs.YteiadaonihgbfaaDoor
open Go.RowKit

set_option maxRecDepth 100000 in
set_option maxHeartbeats 8000000 in
theorem wh_stable (w : World) (base kb n c g bx : Nat) (s : St) (l : List Nat) (hr : Row w base kb n c l) (hc : Cx w kb g bx s) (hg : g < base) (hb : bx < base) (hn : n ≤ 64) (hris : Ris l 0 n) :
    Calls Tryd.prog 46 #[.slice (some ⟨kb, 0, none⟩) n c, .int .i64 (n : Int), .func (.func 41) #[] #[.pointer (some ⟨bx, 0, none⟩)]] w fun e w' => e = .returned (.tuple #[]) ∧ Hid (Mg w' base kb n c s l 0 n) ∧ w.grownBy w' (some kb) := by
  have HR0 : Hid (Row w base kb n c l) := hr
  have HC0 : Hid (Cx w kb g bx s) := hc
  have HGB : Hid (g < base ∧ bx < base) := ⟨hg, hb⟩
  have HL : Hid (l.length = n) := hr.len
  have HB0 : Hid (Bs (dW s) l n (E1 0)) := bs_0 hris
  clear hr hc hg hb hris
  go_enter Tryd.func46, Tryd.ntmps46
  go_wp2
  go_loopw [7, 8] (fun t7 t8 wr => ∃ (A B : Nat) (l1 : List Nat), A % 20 = 0 ∧ A ≤ n ∧ B = A + 20 ∧ t7 = .int .i64 (A : Int) ∧ t8 = .int .i64 (B : Int) ∧ Hid (Bs (dW s) l1 n (E1 A)) ∧ Hid (Re l l1 0 n) ∧ Hid (Row wr base kb n c l1) ∧ Hid (w.grownBy wr (some kb))) (fun t7 _ _ => 64 - (intOf t7).toNat)
  case atStart => exact ⟨0, 20, l, by omega, by omega, by omega, rfl, rfl, HB0, Re.refl _ _ _, HR0, grown_refl _ _⟩
  case round =>
    obtain ⟨A, B, l1, hA20, hAn, hBA, rfl, rfl, HBS, HRE, HRW, HG⟩ := hrel
    have HBA : Hid (B = A + 20) := hBA
    have hBA2 : A < B ∧ B ≤ A + 20 ∧ A + 20 ≤ B := by omega
    clear hBA
    by_cases hBn : B ≤ n
    · have hBn' : (B : Int) ≤ (n : Int) := by omega
      obtain ⟨B2, hB2⟩ : ∃ B2, B2 = B + 20 := ⟨_, rfl⟩
      have HB2 : Hid (B2 = B + 20) := hB2
      have q1 : (B : Int) + 20 = (B2 : Int) := by omega
      have hcx := HC0.out.grown HG.out
      have HC := wh_ins wr base kb n c g bx s l1 A B HRW.out hcx.1 hcx.2.1 HGB.out.1 HGB.out.2 (by omega) hBn hn
      have HIO := insS_ok s A B l1 (by rw [HRW.out.len]; exact hBn) (by omega) (ris_1 HBS.out hBn)
      have HIO : Hid _ := HIO
      clear hcx hB2
      go_wp2_with fail
      refine HC.mono ?_
      rintro e w2 ⟨rfl, hr2, hg2⟩
      clear HC
      have HR2 : Hid (Row w2 base kb n c (insS (cfW s) A B l1)) := hr2.out
      have HG2 : Hid (w.grownBy w2 (some kb)) := grown_trans HG.out hg2
      have HRE2 : Hid (Re l (insS (cfW s) A B l1) 0 n) := HRE.out.trans (HIO.out.1.mono (Nat.zero_le _) hBn)
      have HBS2 : Hid (Bs (dW s) (insS (cfW s) A B l1) n (E1 B)) := by
        have h1 := HIO.out
        have h2 := HBA.out
        rw [h2] at h1 ⊢
        exact bs_1 HBS.out hA20 (by omega) h1.1 h1.2
      clear hr2 hg2
      go_wp2
      go_roundw
      case rel => (have h2 := HB2.out; exact ⟨B, B2, _, by omega, hBn, h2, by go_num, by go_num, HBS2, HRE2, HR2, HG2⟩)
      case measure => simp [intOf]; omega
    · have hBn' : ¬ (B : Int) ≤ (n : Int) := by omega
      have hcx := HC0.out.grown HG.out
      have HC := wh_ins wr base kb n c g bx s l1 A n HRW.out hcx.1 hcx.2.1 HGB.out.1 HGB.out.2 hAn (Nat.le_refl _) hn
      have HIO := insS_ok s A n l1 (by rw [HRW.out.len]; exact Nat.le_refl _) hAn (ris_1 HBS.out (Nat.le_refl _))
      have HIO : Hid _ := HIO
      clear hcx
      go_wp2_with fail
      refine HC.mono ?_
      rintro e w2 ⟨rfl, hr2, hg2⟩
      clear HC
      have HR2 : Hid (Row w2 base kb n c (insS (cfW s) A n l1)) := hr2.out
      have HG2 : Hid (w.grownBy w2 (some kb)) := grown_trans HG.out hg2
      have HRE2 : Hid (Re l (insS (cfW s) A n l1) 0 n) := HRE.out.trans (HIO.out.1.mono (Nat.zero_le _) (Nat.le_refl _))
      have HBS2 : Hid (Bs (dW s) (insS (cfW s) A n l1) n E20) := bs_1e HBS.out hA20 hAn (by omega) HIO.out.1 HIO.out.2
      clear hr2 hg2
      generalize insS (cfW s) A n l1 = l2 at *
      go_wp2
      go_loopw [6] (fun t6 wr => ∃ (l3 : List Nat), ((t6 = .int .i64 20 ∧ Hid (Bs (dW s) l3 n E20)) ∨ (t6 = .int .i64 40 ∧ Hid (Bs (dW s) l3 n E40)) ∨ (t6 = .int .i64 80 ∧ Hid (Bs (dW s) l3 n E80))) ∧ Hid (Re l l3 0 n) ∧ Hid (Row wr base kb n c l3) ∧ Hid (w.grownBy wr (some kb))) (fun t6 _ => 80 - (intOf t6).toNat)
      case atStart => exact ⟨l2, .inl ⟨rfl, HBS2⟩, HRE2, HR2, HG2⟩
      case round =>
        obtain ⟨l3, h3, HRE3, HR3, HG3⟩ := hrel
        rcases h3 with ⟨rfl, HB3⟩ | ⟨rfl, HB3⟩ | ⟨rfl, HB3⟩
        · by_cases hlt0 : 20 < n
          · have hlt : (20 : Int) < (n : Int) := by omega
            have HBF : Hid (Bs (dW s) l3 n (F20 0)) := bs_20s HB3.out
            go_wp2
            go_loopw [7, 8] (fun t7 t8 wr => ∃ (A B : Nat) (l4 : List Nat), A % 40 = 0 ∧ A ≤ n ∧ B = A + 40 ∧ t7 = .int .i64 (A : Int) ∧ t8 = .int .i64 (B : Int) ∧ Hid (Bs (dW s) l4 n (F20 A)) ∧ Hid (Re l l4 0 n) ∧ Hid (Row wr base kb n c l4) ∧ Hid (w.grownBy wr (some kb))) (fun t7 _ _ => 64 - (intOf t7).toNat)
            case atStart => exact ⟨0, 40, l3, by omega, by omega, by omega, rfl, rfl, HBF, HRE3, HR3, HG3⟩
            case round =>
              obtain ⟨A, B, l4, hA, hAn, hBA, rfl, rfl, HB4, HRE4, HR4, HG4⟩ := hrel
              have HBA : Hid (B = A + 40) := hBA
              obtain ⟨M, hM⟩ : ∃ M, M = A + 20 := ⟨_, rfl⟩
              have HM : Hid (M = A + 20) := hM
              have q1 : (A : Int) + 20 = (M : Int) := by omega
              have hBA2 : A < M ∧ M < B ∧ B ≤ A + 40 ∧ A + 40 ≤ B ∧ M ≤ A + 20 ∧ A + 20 ≤ M := by omega
              clear hBA hM
              by_cases hBn : B ≤ n
              · have hBn' : (B : Int) ≤ (n : Int) := by omega
                obtain ⟨B2, hB2⟩ : ∃ B2, B2 = B + 40 := ⟨_, rfl⟩
                have HB2 : Hid (B2 = B + 40) := hB2
                have q2 : (B : Int) + 40 = (B2 : Int) := by omega
                have hag := agr_20 (b := B) HB4.out hA (by omega) (by omega) hBn
                rw [← HM.out] at hag
                have HC := wh_mrg base kb n c g bx s hn 64 wr l4 A M B HR4.out (HC0.out.grown HG4.out) (by omega) (by omega) hBn (by omega) hag.1 hag.2.1 hag.2.2
                clear hB2 hag
                go_wp2_with fail
                refine HC.mono ?_
                rintro e w5 ⟨rfl, hm5, hg5⟩
                clear HC
                obtain ⟨l5, hr5, hre5, hs5⟩ := hm5.out
                have HR5 : Hid (Row w5 base kb n c l5) := hr5
                have HG5 : Hid (w.grownBy w5 (some kb)) := grown_trans HG4.out hg5
                have HRE5 : Hid (Re l l5 0 n) := HRE4.out.trans (hre5.mono (Nat.zero_le _) hBn)
                have HB5 : Hid (Bs (dW s) l5 n (F20 B)) := by
                  have h2 := HBA.out
                  rw [h2] at hre5 hs5 ⊢
                  exact bs_20 HB4.out hA (by omega) hre5 hs5
                clear hm5 hr5 hre5 hs5 hg5
                go_wp2
                go_roundw
                case rel => (have h2 := HB2.out; exact ⟨B, B2, l5, by omega, hBn, h2, by go_num, by go_num, HB5, HRE5, HR5, HG5⟩)
                case measure => simp [intOf]; omega
              · have hBn' : ¬ (B : Int) ≤ (n : Int) := by omega
                by_cases hMn : M < n
                · have hMn' : (M : Int) < (n : Int) := by omega
                  have hag := agr_20 (b := n) HB4.out hA (by omega) (by omega) (Nat.le_refl _)
                  rw [← HM.out] at hag
                  have HC := wh_mrg base kb n c g bx s hn 64 wr l4 A M n HR4.out (HC0.out.grown HG4.out) (by omega) (by omega) (Nat.le_refl _) (by omega) hag.1 hag.2.1 hag.2.2
                  clear hag
                  go_wp2_with fail
                  refine HC.mono ?_
                  rintro e w5 ⟨rfl, hm5, hg5⟩
                  clear HC
                  obtain ⟨l5, hr5, hre5, hs5⟩ := hm5.out
                  have HR5 : Hid (Row w5 base kb n c l5) := hr5
                  have HG5 : Hid (w.grownBy w5 (some kb)) := grown_trans HG4.out hg5
                  have HRE5 : Hid (Re l l5 0 n) := HRE4.out.trans (hre5.mono (Nat.zero_le _) (Nat.le_refl _))
                  have HB5 : Hid (Bs (dW s) l5 n E40) := bs_20e HB4.out hA hAn (by omega) hre5 hs5
                  clear hm5 hr5 hre5 hs5 hg5
                  go_wp2
                  go_roundw
                  case rel => exact ⟨l5, .inr (.inl ⟨by go_num, HB5⟩), HRE5, HR5, HG5⟩
                  case measure => simp [intOf]
                · have hMn' : ¬ (M : Int) < (n : Int) := by omega
                  have HB5 : Hid (Bs (dW s) l4 n E40) := bs_20n HB4.out hA (by omega)
                  go_wp2
                  go_roundw
                  case rel => exact ⟨l4, .inr (.inl ⟨by go_num, HB5⟩), HRE4, HR4, HG4⟩
                  case measure => simp [intOf]
          · have hlt : ¬ (20 : Int) < (n : Int) := by omega
            have HF : Hid (Mg wr base kb n c s l 0 n) := ⟨l3, HR3.out, HRE3.out, bs_end E20 HB3.out (fun i j h1 h2 => by unfold E20; omega)⟩
            go_wp2
            go_returns
            exact ⟨rfl, HF, HG3.out⟩
        · by_cases hlt0 : 40 < n
          · have hlt : (40 : Int) < (n : Int) := by omega
            have HBF : Hid (Bs (dW s) l3 n (F40 0)) := bs_40s HB3.out
            go_wp2
            go_loopw [7, 8] (fun t7 t8 wr => ∃ (A B : Nat) (l4 : List Nat), A % 80 = 0 ∧ A ≤ n ∧ B = A + 80 ∧ t7 = .int .i64 (A : Int) ∧ t8 = .int .i64 (B : Int) ∧ Hid (Bs (dW s) l4 n (F40 A)) ∧ Hid (Re l l4 0 n) ∧ Hid (Row wr base kb n c l4) ∧ Hid (w.grownBy wr (some kb))) (fun t7 _ _ => 64 - (intOf t7).toNat)
            case atStart => exact ⟨0, 80, l3, by omega, by omega, by omega, rfl, rfl, HBF, HRE3, HR3, HG3⟩
            case round =>
              obtain ⟨A, B, l4, hA, hAn, hBA, rfl, rfl, HB4, HRE4, HR4, HG4⟩ := hrel
              have HBA : Hid (B = A + 80) := hBA
              obtain ⟨M, hM⟩ : ∃ M, M = A + 40 := ⟨_, rfl⟩
              have HM : Hid (M = A + 40) := hM
              have q1 : (A : Int) + 40 = (M : Int) := by omega
              have hBA2 : A < M ∧ M < B ∧ B ≤ A + 80 ∧ A + 80 ≤ B ∧ M ≤ A + 40 ∧ A + 40 ≤ M := by omega
              clear hBA hM
              by_cases hBn : B ≤ n
              · have hBn' : (B : Int) ≤ (n : Int) := by omega
                obtain ⟨B2, hB2⟩ : ∃ B2, B2 = B + 80 := ⟨_, rfl⟩
                have HB2 : Hid (B2 = B + 80) := hB2
                have q2 : (B : Int) + 80 = (B2 : Int) := by omega
                have hag := agr_40 (b := B) HB4.out hA (by omega) (by omega) hBn
                rw [← HM.out] at hag
                have HC := wh_mrg base kb n c g bx s hn 64 wr l4 A M B HR4.out (HC0.out.grown HG4.out) (by omega) (by omega) hBn (by omega) hag.1 hag.2.1 hag.2.2
                clear hB2 hag
                go_wp2_with fail
                refine HC.mono ?_
                rintro e w5 ⟨rfl, hm5, hg5⟩
                clear HC
                obtain ⟨l5, hr5, hre5, hs5⟩ := hm5.out
                have HR5 : Hid (Row w5 base kb n c l5) := hr5
                have HG5 : Hid (w.grownBy w5 (some kb)) := grown_trans HG4.out hg5
                have HRE5 : Hid (Re l l5 0 n) := HRE4.out.trans (hre5.mono (Nat.zero_le _) hBn)
                have HB5 : Hid (Bs (dW s) l5 n (F40 B)) := by
                  have h2 := HBA.out
                  rw [h2] at hre5 hs5 ⊢
                  exact bs_40 HB4.out hA (by omega) hre5 hs5
                clear hm5 hr5 hre5 hs5 hg5
                go_wp2
                go_roundw
                case rel => (have h2 := HB2.out; exact ⟨B, B2, l5, by omega, hBn, h2, by go_num, by go_num, HB5, HRE5, HR5, HG5⟩)
                case measure => simp [intOf]; omega
              · have hBn' : ¬ (B : Int) ≤ (n : Int) := by omega
                by_cases hMn : M < n
                · have hMn' : (M : Int) < (n : Int) := by omega
                  have hag := agr_40 (b := n) HB4.out hA (by omega) (by omega) (Nat.le_refl _)
                  rw [← HM.out] at hag
                  have HC := wh_mrg base kb n c g bx s hn 64 wr l4 A M n HR4.out (HC0.out.grown HG4.out) (by omega) (by omega) (Nat.le_refl _) (by omega) hag.1 hag.2.1 hag.2.2
                  clear hag
                  go_wp2_with fail
                  refine HC.mono ?_
                  rintro e w5 ⟨rfl, hm5, hg5⟩
                  clear HC
                  obtain ⟨l5, hr5, hre5, hs5⟩ := hm5.out
                  have HR5 : Hid (Row w5 base kb n c l5) := hr5
                  have HG5 : Hid (w.grownBy w5 (some kb)) := grown_trans HG4.out hg5
                  have HRE5 : Hid (Re l l5 0 n) := HRE4.out.trans (hre5.mono (Nat.zero_le _) (Nat.le_refl _))
                  have HB5 : Hid (Bs (dW s) l5 n E80) := bs_40e HB4.out hA hAn (by omega) hre5 hs5
                  clear hm5 hr5 hre5 hs5 hg5
                  go_wp2
                  go_roundw
                  case rel => exact ⟨l5, .inr (.inr ⟨by go_num, HB5⟩), HRE5, HR5, HG5⟩
                  case measure => simp [intOf]
                · have hMn' : ¬ (M : Int) < (n : Int) := by omega
                  have HB5 : Hid (Bs (dW s) l4 n E80) := bs_40n HB4.out hA (by omega)
                  go_wp2
                  go_roundw
                  case rel => exact ⟨l4, .inr (.inr ⟨by go_num, HB5⟩), HRE4, HR4, HG4⟩
                  case measure => simp [intOf]
          · have hlt : ¬ (40 : Int) < (n : Int) := by omega
            have HF : Hid (Mg wr base kb n c s l 0 n) := ⟨l3, HR3.out, HRE3.out, bs_end E40 HB3.out (fun i j h1 h2 => by unfold E40; omega)⟩
            go_wp2
            go_returns
            exact ⟨rfl, HF, HG3.out⟩
        · have hlt : ¬ (80 : Int) < (n : Int) := by omega
          have HF : Hid (Mg wr base kb n c s l 0 n) := ⟨l3, HR3.out, HRE3.out, bs_end E80 HB3.out (fun i j h1 h2 => by unfold E80; omega)⟩
          go_wp2
          go_returns
          exact ⟨rfl, HF, HG3.out⟩
end Go.Proofs.YteiadaonihgbfaaDoor
