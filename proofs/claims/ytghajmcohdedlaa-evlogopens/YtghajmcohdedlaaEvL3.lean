/- evlog: takeHead. -/
import Derived.Test.YtghajmcohdedlaaEvL2
namespace Go.Proofs.Ytghajmcohdedlaa
open Go.RowKit

/-- A head's number and tick. -/
def headP (p : List Nat) : Int × Int × Bool :=
  if (KeyM.take p (KeyM.take p 0).2.1).2.2 ≠ 0 ∨ (KeyM.take p (KeyM.take p 0).2.1).2.1 ≠ p.length then (0, 0, false)
  else if (KeyM.take p 0).1 < 1 ∨ 4611686018427387904 < (KeyM.take p 0).1 ∨ (KeyM.take p (KeyM.take p 0).2.1).1 < 0 ∨ 1099511627776 < (KeyM.take p (KeyM.take p 0).2.1).1 then (0, 0, false)
  else ((KeyM.take p 0).1, (KeyM.take p (KeyM.take p 0).2.1).1, true)
def headE (s : List Nat) : Int × Int × Bool := if goodE s = true ∧ s.getD 1 0 = 1 ∧ lastE s = true then headP (payE s) else (0, 0, false)
def toldH (r : Int × Int × Bool) : Ending := .returned (.tuple #[.int .i64 r.1, .int .i64 r.2.1, .bool r.2.2])
theorem take_le (bs : List Nat) (x : Int) : (KeyM.take bs x).2.1 ≤ bs.length := by
  unfold KeyM.take
  split
  · exact Nat.zero_le _
  · split
    · exact Nat.zero_le _
    · simp only
      omega

set_option maxRecDepth 100000 in
set_option maxHeartbeats 4000000 in
theorem evl_takeHead (a : Option Addr) (n c : Nat) (s : List Nat) (w : World) (hr : Rd w a n s) (hc : n = 64 → 64 ≤ c) (hcm : c ≤ 9223372036854775807) :
    Calls Try.prog 59 #[.slice a n c] w fun e w' => e = toldH (headE s) ∧ Below w.heap.size w w' := by
  have HLK := evl_look a n c s w hr hc hcm
  obtain ⟨R, HR⟩ : ∃ R, Hid (R = headE s) := ⟨_, rfl⟩
  rw [← HR.out]
  clear hr hc hcm
  go_enter Try.func59, Try.ntmps59
  go_wp2_with fail
  refine HLK.mono ?_
  rintro e w1 ⟨ht1, hb1⟩
  obtain ⟨kd, ls, a1, n1, rfl, hgd⟩ := ht1.out
  have HB1 : Hid (Below w.heap.size w w1) := hb1
  have HGD : Hid (goodE s = true → kd = s.getD 1 0 ∧ ls = lastE s ∧ Rd w1 a1 n1 (payE s) ∧ n1 ≤ 59) := hgd
  obtain ⟨W2, HW2⟩ : ∃ W2, Hid (W2 = w1.alloc (.cells #[.int .u8 (kd : Int), .bool ls, .slice a1 n1 n1] 110)) := ⟨_, rfl⟩
  have HBW : Hid (Below w1.heap.size w1 W2) := by (show Below _ _ _); rw [HW2.out]; exact below_alloc _ _
  have HK2 : Hid (Blk W2 w1.heap.size #[.int .u8 (kd : Int), .bool ls, .slice a1 n1 n1] 110) := by (show Blk _ _ _ _); rw [HW2.out]; exact Blk.new _ _ _
  have HB2 : Hid (Below w.heap.size w W2) := HB1.out.trans (HBW.out.mono HB1.out.size)
  have g0 : W2.cell? ⟨w1.heap.size, 0, none⟩ = some (.int .u8 (kd : Int)) := HK2.out.cell 0 rfl
  have g1 : W2.cell? ⟨w1.heap.size, 1, none⟩ = some (.bool ls) := HK2.out.cell 1 rfl
  have g2 : W2.cell? ⟨w1.heap.size, 2, none⟩ = some (.slice a1 n1 n1) := HK2.out.cell 2 rfl
  clear HLK ht1 hb1 hgd
  go_upto_region 2 with fail
  rw [← HW2.out]
  cases hg : goodE s with
  | false =>
    have HX : Hid (R = (0, 0, false)) := by (show _ = _); rw [HR.out, headE, if_neg (by rw [hg]; simp)]
    clear hg
    go_wp2
    go_returns
    exact ⟨by rw [HX.out]; rfl, HB2.out⟩
  | true =>
    obtain ⟨k1, k2, k3, k4⟩ := HGD.out hg
    by_cases hk : kd = 1
    · subst hk
      cases ls with
      | false =>
        have HX : Hid (R = (0, 0, false)) := by (show _ = _); rw [HR.out, headE, if_neg (by rw [← k2]; simp)]
        clear hg k1 k2 k3 k4
        go_wp2
        go_returns
        exact ⟨by rw [HX.out]; rfl, HB2.out⟩
      | true =>
        have HX : Hid (R = headP (payE s)) := by (show _ = _); rw [HR.out, headE, if_pos ⟨hg, k1.symm, k2.symm⟩]
        have HRP : Hid (Rd W2 a1 n1 (payE s)) := k3.below HBW.out
        have HPN : Hid ((payE s).length = n1 ∧ n1 ≤ 59) := ⟨k3.size, k4⟩
        have hn1 : n1 ≤ 59 := k4
        obtain ⟨⟨v1, p1, r1⟩, HT1⟩ : ∃ r, Hid (r = KeyM.take (payE s) 0) := ⟨_, rfl⟩
        obtain ⟨⟨v2, p2, r2⟩, HT2⟩ : ∃ r, Hid (r = KeyM.take (payE s) (p1 : Int)) := ⟨_, rfl⟩
        have HP1 : Hid (p1 ≤ 59) := by
          have h1 : p1 ≤ (payE s).length := by
            have := take_le (payE s) 0
            rw [← HT1.out] at this
            exact this
          (show _ ≤ _)
          have := HPN.out
          omega
        have HV : Hid (R = if r2 ≠ 0 ∨ p2 ≠ n1 then (0, 0, false) else if v1 < 1 ∨ 4611686018427387904 < v1 ∨ v2 < 0 ∨ 1099511627776 < v2 then (0, 0, false) else (v1, v2, true)) := by
          (show _ = _)
          rw [HX.out, headP, ← HT1.out]
          simp only
          rw [← HT2.out, HPN.out.1]
        clear hg k1 k2 k3 k4
        go_wp2_with fail
        refine (octet_TakeKey a1 n1 n1 (payE s) 0 W2 HRP.out (Nat.le_refl _) (by omega) (by omega)).mono ?_
        rw [← HT1.out]
        rintro e w3 ⟨he, hw3⟩
        rw [toldK] at he
        subst he
        rw [hw3]
        clear hw3 w3
        go_wp2_with fail
        refine (octet_TakeKey a1 n1 n1 (payE s) (p1 : Int) W2 HRP.out (Nat.le_refl _) (by omega) (by have := HP1.out; omega)).mono ?_
        rw [← HT2.out]
        rintro e w3 ⟨he, hw3⟩
        rw [toldK] at he
        subst he
        rw [hw3]
        clear hw3 w3
        by_cases c1 : r2 = 0
        · subst c1
          by_cases c2 : p2 = n1
          · subst c2
            have c2' : ((p2 : Int) != (p2 : Int)) = false := by simp
            by_cases c3 : v1 < 1
            · have HF : Hid (R = (0, 0, false)) := by (show _ = _); rw [HV.out, if_neg (by simp), if_pos (.inl c3)]
              go_wp2
              go_returns
              exact ⟨by rw [HF.out]; rfl, HB2.out⟩
            · by_cases c4 : 4611686018427387904 < v1
              · have HF : Hid (R = (0, 0, false)) := by (show _ = _); rw [HV.out, if_neg (by simp), if_pos (.inr (.inl c4))]
                go_wp2
                go_returns
                exact ⟨by rw [HF.out]; rfl, HB2.out⟩
              · by_cases c5 : v2 < 0
                · have HF : Hid (R = (0, 0, false)) := by (show _ = _); rw [HV.out, if_neg (by simp), if_pos (.inr (.inr (.inl c5)))]
                  go_wp2
                  go_returns
                  exact ⟨by rw [HF.out]; rfl, HB2.out⟩
                · by_cases c6 : 1099511627776 < v2
                  · have HF : Hid (R = (0, 0, false)) := by (show _ = _); rw [HV.out, if_neg (by simp), if_pos (.inr (.inr (.inr c6)))]
                    go_wp2
                    go_returns
                    exact ⟨by rw [HF.out]; rfl, HB2.out⟩
                  · have HF : Hid (R = (v1, v2, true)) := by (show _ = _); rw [HV.out, if_neg (by simp), if_neg (by omega)]
                    go_wp2
                    go_returns
                    exact ⟨by rw [HF.out]; rfl, HB2.out⟩
          · have c2' : ((p2 : Int) != (n1 : Int)) = true := by rw [bne_iff_ne]; omega
            have c2'' : ((p2 : Int) == (n1 : Int)) = false := by rw [beq_eq_false_iff_ne]; omega
            have HF : Hid (R = (0, 0, false)) := by (show _ = _); rw [HV.out, if_pos (.inr c2)]
            go_wp2
            go_returns
            exact ⟨by rw [HF.out]; rfl, HB2.out⟩
        · have c1' : ((r2 : Int) != 0) = true := by rw [bne_iff_ne]; omega
          have c1'' : ((r2 : Int) == 0) = false := by rw [beq_eq_false_iff_ne]; omega
          have HF : Hid (R = (0, 0, false)) := by (show _ = _); rw [HV.out, if_pos (.inl c1)]
          go_wp2
          go_returns
          exact ⟨by rw [HF.out]; rfl, HB2.out⟩
    · have hk1 : ((kd : Int) != 1) = true := by rw [bne_iff_ne]; omega
      have hk2 : ((kd : Int) == 1) = false := by rw [beq_eq_false_iff_ne]; omega
      have HX : Hid (R = (0, 0, false)) := by (show _ = _); rw [HR.out, headE, if_neg (fun h => hk (by rw [k1]; exact h.2.1))]
      clear hg k1 k2 k3 k4
      go_wp2
      go_returns
      exact ⟨by rw [HX.out]; rfl, HB2.out⟩
end Go.Proofs.Ytghajmcohdedlaa
