/- cover: inside of inside is inside: the mathematics. -/
import Derived.Test.YtnfeklebfnlgkaaGreatCvF5
import Derived.Lib.MinMaxS
namespace Go.Proofs.YtnfeklebfnlgkaaGreat
open Go.RowKit

theorem tri (u1 u2 v1 v2 p q : Int) (hp : 0 ≤ p) (hq : 0 ≤ q) (h1 : u1 * u1 + u2 * u2 ≤ p * p) (h2 : v1 * v1 + v2 * v2 ≤ q * q) : (u1 + v1) * (u1 + v1) + (u2 + v2) * (u2 + v2) ≤ (p + q) * (p + q) := by
  have hc : u1 * v1 + u2 * v2 ≤ p * q := by
    refine Int.not_lt.1 fun hlt => ?_
    have h3 := Int.mul_self_lt_mul_self (Int.mul_nonneg hp hq) hlt
    have hB : 0 ≤ v1 * v1 + v2 * v2 := Int.add_nonneg (Flt.sq_nonneg _) (Flt.sq_nonneg _)
    have h4 : (u1 * u1 + u2 * u2) * (v1 * v1 + v2 * v2) ≤ (p * p) * (q * q) := Int.mul_le_mul h1 h2 hB (Flt.sq_nonneg _)
    have h5 := Flt.sq_nonneg (u1 * v2 - u2 * v1)
    have h6 : (u1 * u1 + u2 * u2) * (v1 * v1 + v2 * v2) = (u1 * v1 + u2 * v2) * (u1 * v1 + u2 * v2) + (u1 * v2 - u2 * v1) * (u1 * v2 - u2 * v1) := by grind
    have h7 : p * q * (p * q) = (p * p) * (q * q) := by grind
    omega
  have e1 : (u1 + v1) * (u1 + v1) + (u2 + v2) * (u2 + v2) = (u1 * u1 + u2 * u2) + (v1 * v1 + v2 * v2) + 2 * (u1 * v1 + u2 * v2) := by grind
  have e2 : (p + q) * (p + q) = p * p + q * q + 2 * (p * q) := by grind
  rw [e1, e2]
  omega
theorem far_tri (a b c : Int × Int × Int) (p q : Int) (hp : 0 ≤ p) (hq : 0 ≤ q) (h1 : farD a b ≤ p * p) (h2 : farD b c ≤ q * q) : farD a c ≤ (p + q) * (p + q) := by
  obtain ⟨a1, a2, _⟩ := a
  obtain ⟨b1, b2, _⟩ := b
  obtain ⟨c1, c2, _⟩ := c
  unfold farD at *
  simp only at *
  have h := tri (a1 - b1) (a2 - b2) (b1 - c1) (b2 - c2) p q hp hq h1 h2
  rw [show a1 - b1 + (b1 - c1) = a1 - c1 from by omega, show a2 - b2 + (b2 - c2) = a2 - c2 from by omega] at h
  exact h
theorem far_comm (a b : Int × Int × Int) : farD a b = farD b a := by
  obtain ⟨a1, a2, _⟩ := a
  obtain ⟨b1, b2, _⟩ := b
  unfold farD
  simp only
  grind
theorem within_iff (a b : Int × Int × Int) : withinD a b = true ↔ a.2.2 ≤ b.2.2 ∧ farD a b ≤ (b.2.2 - a.2.2) * (b.2.2 - a.2.2) := by
  unfold withinD
  simp only [Bool.and_eq_true, decide_eq_true_eq]
theorem apart_iff (a b : Int × Int × Int) : apartD a b = true ↔ (a.2.2 + b.2.2) * (a.2.2 + b.2.2) < farD a b := by
  unfold apartD
  simp only [decide_eq_true_eq]
theorem within_trans {a b c : Int × Int × Int} (h1 : withinD a b = true) (h2 : withinD b c = true) : withinD a c = true := by
  rw [within_iff] at *
  refine ⟨by omega, ?_⟩
  have h := far_tri a b c _ _ (by omega) (by omega) h1.2 h2.2
  rw [show b.2.2 - a.2.2 + (c.2.2 - b.2.2) = c.2.2 - a.2.2 from by omega] at h
  exact h
/-- What lies within a disc that is apart from another one is apart from it. -/
theorem apart_in {h d e : Int × Int × Int} (hh : 0 ≤ h.2.2) (he : 0 ≤ e.2.2) (h1 : withinD h d = true) (h2 : apartD d e = true) : apartD h e = true := by
  rw [within_iff] at h1
  rw [apart_iff] at *
  refine Int.not_le.1 fun h3 => ?_
  have h4 := far_tri d h e (d.2.2 - h.2.2) (h.2.2 + e.2.2) (by omega) (by omega) (by rw [far_comm]; exact h1.2) h3
  rw [show d.2.2 - h.2.2 + (h.2.2 + e.2.2) = d.2.2 + e.2.2 from by omega] at h4
  omega
theorem apart_of {h d e : Int × Int × Int} (hh : 0 ≤ h.2.2) (he : 0 ≤ e.2.2) (h1 : apartD h d = true) (h2 : withinD e d = true) : apartD h e = true := by
  rw [within_iff] at h2
  rw [apart_iff] at *
  refine Int.not_le.1 fun h3 => ?_
  have h4 := far_tri h e d (h.2.2 + e.2.2) (d.2.2 - e.2.2) (by omega) (by omega) h3 h2.2
  rw [show h.2.2 + e.2.2 + (d.2.2 - e.2.2) = h.2.2 + d.2.2 from by omega] at h4
  omega
theorem insU_trans {a b c : List (Int × Int × Int)} (h1 : insU a b = true) (h2 : insU b c = true) : insU a c = true := by
  unfold insU at *
  rw [List.all_eq_true] at *
  intro t ht
  obtain ⟨d, hd, hdt⟩ := List.any_eq_true.1 (h2 t ht)
  obtain ⟨e, he, hed⟩ := List.any_eq_true.1 (h1 d hd)
  exact List.any_eq_true.2 ⟨e, he, within_trans hed hdt⟩
theorem outsU_trans {ai ao bi bo co : List (Int × Int × Int)} (ha : ∀ t ∈ ai, OkD t) (hc : ∀ t ∈ co, OkD t) (h0 : insU ai bi = true) (h1 : outsU ai ao bo = true) (h2 : outsU bi bo co = true) : outsU ai ao co = true := by
  unfold insU at h0
  unfold outsU at *
  rw [List.all_eq_true] at *
  intro t ht
  have h3 := h2 t ht
  rw [Bool.or_eq_true] at h3 ⊢
  rcases h3 with h3 | h3
  · obtain ⟨d, hd, hdt⟩ := List.any_eq_true.1 h3
    have h4 := h1 d hd
    rw [Bool.or_eq_true] at h4
    rcases h4 with h4 | h4
    · obtain ⟨e, he, hed⟩ := List.any_eq_true.1 h4
      exact .inl (List.any_eq_true.2 ⟨e, he, within_trans hdt hed⟩)
    · obtain ⟨e, he, hed⟩ := List.any_eq_true.1 h4
      exact .inr (List.any_eq_true.2 ⟨e, he, apart_in (hc t ht).2.2.1 (ha e he).2.2.1 hdt hed⟩)
  · obtain ⟨d, hd, hdt⟩ := List.any_eq_true.1 h3
    obtain ⟨e, he, hed⟩ := List.any_eq_true.1 (h0 d hd)
    exact .inr (List.any_eq_true.2 ⟨e, he, apart_of (hc t ht).2.2.1 (ha e he).2.2.1 hdt hed⟩)
theorem less_iff (s t : ByteArray) : Op.bytesLess s.toList t.toList = true ↔ s.toList < t.toList := by
  rw [Proofs.bytesLess_eq, decide_eq_true_eq]
theorem leB_iff (s t : ByteArray) : leB s t = true ↔ s.toList < t.toList ∨ s.toList = t.toList := by
  unfold leB
  rw [Bool.or_eq_true, less_iff, beq_iff_eq]
theorem bytes_lt_trans {a b c : List UInt8} (h1 : a < b) (h2 : b < c) : a < c := by
  haveI : Trans (α := UInt8) (· < ·) (· < ·) (· < ·) := ⟨fun h h' => UInt8.lt_trans h h'⟩
  exact List.lt_trans h1 h2
theorem leB_trans {a b c : ByteArray} (h1 : leB a b = true) (h2 : leB b c = true) : leB a c = true := by
  rw [leB_iff] at *
  rcases h1 with h1 | h1
  · rcases h2 with h2 | h2
    · exact .inl (bytes_lt_trans h1 h2)
    · exact .inl (h2 ▸ h1)
  · rw [h1]; exact h2
theorem le_less {a b c : ByteArray} (h1 : leB a b = true) (h2 : Op.bytesLess b.toList c.toList = true) : Op.bytesLess a.toList c.toList = true := by
  rw [leB_iff] at h1
  rw [less_iff] at *
  rcases h1 with h1 | h1
  · exact bytes_lt_trans h1 h2
  · rw [h1]; exact h2
theorem less_le {a b c : ByteArray} (h1 : Op.bytesLess a.toList b.toList = true) (h2 : leB b c = true) : Op.bytesLess a.toList c.toList = true := by
  rw [leB_iff] at h2
  rw [less_iff] at *
  rcases h2 with h2 | h2
  · exact bytes_lt_trans h1 h2
  · rw [← h2]; exact h1
theorem sideIn_trans {w : World} {s m q : Sq} (hs : SideOk w s) (hq : SideOk w q) (h1 : s.kd = m.kd) (h2 : m.kd = q.kd) (h3 : sideIn s m = true) (h4 : sideIn m q = true) : sideIn s q = true := by
  unfold sideIn at *
  rw [Bool.and_eq_true] at *
  obtain ⟨a1, b1⟩ := h3
  obtain ⟨a2, b2⟩ := h4
  refine ⟨?_, ?_⟩
  · generalize s.ab = x at *
    generalize m.ab = y at *
    generalize q.ab = z at *
    revert a1 a2
    cases x <;> cases y <;> cases z <;> simp
  · rw [Bool.or_eq_true] at *
    rcases b1 with b1 | b1
    · exact .inl b1
    · by_cases hn : nothS s = true
      · exact .inl hn
      · refine .inr ?_
        have hk := hs.kd
        have hk4 : s.kd = 1 ∨ s.kd = 2 ∨ s.kd = 3 ∨ s.kd = 4 := by omega
        have hok := hs.ok
        have hoq := hq.ok
        unfold nothS at hn b2
        unfold sideB at *
        rcases hk4 with k | k | k | k
        · rw [if_pos k] at hn b1 ⊢
          rw [if_pos (by omega), if_pos (by omega)] at b2
          simp only [Bool.and_eq_true, decide_eq_true_eq] at *
          rcases b2 with b2 | b2 <;> omega
        · rw [if_neg (by omega), if_pos k] at hn b1 ⊢
          rw [if_neg (by omega), if_pos (by omega), if_neg (by omega), if_pos (by omega)] at b2
          rw [Bool.and_eq_true] at b1 ⊢
          obtain ⟨c1, c2⟩ := b1
          rcases b2 with b2 | b2
          · exfalso
            rw [Bool.and_eq_true, Bool.not_eq_true', Bool.not_eq_true'] at b2
            rw [b2.1, Bool.false_or, Bool.and_eq_true, Bool.not_eq_true'] at c2
            rw [c2.1] at hn
            have hl : Op.bytesLess s.fr.toList s.to.toList = true := by
              cases hx : Op.bytesLess s.fr.toList s.to.toList with
              | true => rfl
              | false => rw [hx] at hn; exact absurd rfl hn
            have := less_le (le_less c1 hl) c2.2
            rw [b2.2] at this
            cases this
          · rw [Bool.and_eq_true] at b2
            refine ⟨leB_trans b2.1 c1, ?_⟩
            have d2 := b2.2
            rw [Bool.or_eq_true] at d2 c2 ⊢
            rcases d2 with d2 | d2
            · exact .inl d2
            · rw [Bool.and_eq_true, Bool.not_eq_true'] at d2
              rcases c2 with c2 | c2
              · rw [d2.1] at c2; cases c2
              · rw [Bool.and_eq_true] at c2 ⊢
                exact .inr ⟨c2.1, leB_trans c2.2 d2.2⟩
        · rw [if_neg (by omega), if_neg (by omega), if_pos k] at hn b1 ⊢
          rw [if_neg (by omega), if_neg (by omega), if_pos (by omega), if_neg (by omega), if_neg (by omega), if_pos (by omega)] at b2
          unfold truthU at *
          simp only [Bool.and_eq_true, Bool.or_eq_true, decide_eq_true_eq] at *
          rcases b2 with b2 | b2 <;> omega
        · rw [if_neg (by omega), if_neg (by omega), if_neg (by omega)] at hn b1 ⊢
          rw [if_neg (by omega), if_neg (by omega), if_neg (by omega), if_neg (by omega), if_neg (by omega), if_neg (by omega)] at b2
          rw [Bool.and_eq_true, Bool.and_eq_true] at b1 ⊢
          obtain ⟨⟨c1, c2⟩, c3⟩ := b1
          rcases b2 with b2 | b2
          · rw [b2] at c1; cases c1
          · rw [Bool.and_eq_true, Bool.and_eq_true] at b2
            obtain ⟨⟨d1, d2⟩, d3⟩ := b2
            exact ⟨⟨d1, insU_trans c2 d2⟩, outsU_trans (hok k).1 (hoq (by omega)).2 c2 c3 d3⟩
theorem inB_trans {w : World} {la lb lc : List Sq} (ha : ∀ s ∈ la, SideOk w s) (hc : ∀ s ∈ lc, SideOk w s) (h1 : inB la lb = true) (h2 : inB lb lc = true) : inB la lc = true := by
  unfold inB at *
  rw [List.all_eq_true] at *
  intro q hq
  obtain ⟨m, hm, hmq⟩ := List.any_eq_true.1 (h2 q hq)
  obtain ⟨s, hs, hsm⟩ := List.any_eq_true.1 (h1 m hm)
  refine List.any_eq_true.2 ⟨s, hs, ?_⟩
  unfold holdsB eqB at *
  rw [Bool.and_eq_true, Bool.and_eq_true, beq_iff_eq, beq_iff_eq] at *
  exact ⟨⟨hsm.1.1.trans hmq.1.1, hsm.1.2.trans hmq.1.2⟩, sideIn_trans (ha s hs) (hc q hq) hsm.1.2 hmq.1.2 hsm.2 hmq.2⟩
end Go.Proofs.YtnfeklebfnlgkaaGreat
