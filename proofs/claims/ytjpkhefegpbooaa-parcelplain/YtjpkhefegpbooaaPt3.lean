/- parcel's reader: bytes. -/
import Derived.Test.YtjpkhefegpbooaaPt2
namespace Go.Proofs.Ytjpkhefegpbooaa
open Go.RowKit

theorem byF_no {bs : List Nat} {c : Nat} {s : Rs} (h : s.ft ≠ 0) : byF bs c s = ([], s) := if_neg h
theorem byF_short {bs : List Nat} {c : Nat} {s : Rs} (h : s.ft = 0) (h2 : (bs.length : Int) - s.at_ < c) : byF bs c s = ([], ⟨s.at_, 3⟩) := by rw [byF, if_pos h, if_pos h2]
theorem byF_ok {bs : List Nat} {c : Nat} {s : Rs} (h : s.ft = 0) (h2 : ¬ (bs.length : Int) - s.at_ < c) : byF bs c s = ((bs.drop s.at_.toNat).take c, ⟨s.at_ + c, 0⟩) := by rw [byF, if_pos h, if_neg h2]

set_option maxRecDepth 100000 in
set_option maxHeartbeats 4000000 in
theorem rd_bytes (R g o len cap : Nat) (bs : List Nat) (s : Rs) (c : Nat) (w : World) (hk : Rdr w R (some ⟨g, o, none⟩) len cap s) (hr : Rd w (some ⟨g, o, none⟩) len bs) (hlc : len ≤ cap) (hl : len ≤ 140737488351232) (hx : s.fine bs) (hc : c ≤ 400) :
    Calls Try.prog 57 #[.pointer (some ⟨R, 0, none⟩), .int .i64 (c : Int)] w fun e w' => (∃ a' n' c', e = .returned (.slice a' n' c') ∧ Hid (Own w' w.heap.size a' n' c' (byF bs c s).1)) ∧ Hid (Rdr w' R (some ⟨g, o, none⟩) len cap (byF bs c s).2) ∧ w.grownBy w' (some R) := by
  have HR : Hid (Rd w (some ⟨g, o, none⟩) len bs) := hr
  have HK : Hid (Rdr w R (some ⟨g, o, none⟩) len cap s) := hk
  have HX : Hid (s.fine bs) := hx
  have HSZ : Hid (bs.length = len) := hr.size
  obtain ⟨F, HF⟩ : ∃ F, Hid (F = byF bs c s) := ⟨_, rfl⟩
  rw [← HF.out]
  obtain ⟨x, t⟩ := s
  have c0 : w.cell? ⟨R, 0, none⟩ = some (.slice (some ⟨g, o, none⟩) len cap) := hk.cell 0 rfl
  have c1 : w.cell? ⟨R, 1, none⟩ = some (.int .i64 x) := hk.cell 1 rfl
  have c2 : w.cell? ⟨R, 2, none⟩ = some (.int .i64 t) := hk.cell 2 rfl
  clear hr hk hx
  by_cases ht : t = 0
  · subst ht
    obtain ⟨hx0, hx1⟩ : 0 ≤ x ∧ x ≤ len := by have h := HX.out rfl; simp only at h; rw [HSZ.out] at h; exact h
    obtain ⟨p, rfl⟩ := Int.eq_ofNat_of_zero_le hx0
    have hp : p ≤ len := by omega
    by_cases hs : len - p < c
    · have HX2 : Hid (F = ([], ⟨(p : Int), 3⟩)) := HF.out.trans (byF_short rfl (by simp only; rw [HSZ.out]; omega))
      have hs' : (len : Int) - (p : Int) < (c : Int) := by omega
      clear HF
      go_enter Try.func57, Try.ntmps57
      go_wp2
      go_quiet (fail)
      generalize hnq : w.drewN _ = w2
      have hbw : Below w.heap.size w w2 := by rw [← hnq]; exact below_drews (Below.refl _ _) _
      have HG2 : Hid (w.grownBy w2 (some R)) := grown_of_below hbw
      have HK2 : Hid (Rdr w2 R (some ⟨g, o, none⟩) len cap ⟨(p : Int), 0⟩) := Bk.stay HK.out hbw
      have g2 : w2.cell? ⟨R, 2, none⟩ = some (.int .i64 0) := HK2.out.cell 2 rfl
      have q2 : w2.frozen? ⟨R, 2, none⟩ = false := HK2.out.free 2
      clear hnq hbw c0 c1 c2
      go_wp2
      go_ret
      rw [HX2.out]
      exact ⟨⟨none, 0, 0, rfl, Own.none_ _ _⟩, HK2.out.set 2 _, grown_trans HG2.out (grown_set1 _ _ _ _)⟩
    · have HX2 : Hid (F = ((bs.drop p).take c, ⟨((p + c : Nat) : Int), 0⟩)) := by
        show _ = _
        rw [HF.out, byF_ok rfl (by simp only; rw [HSZ.out]; omega)]
        simp
      have hs' : ¬ (len : Int) - (p : Int) < (c : Int) := by omega
      obtain ⟨q, hq⟩ : ∃ q, q = p + c := ⟨_, rfl⟩
      have HQ : Hid (q = p + c) := hq
      have hpc : q ≤ len := by omega
      have hpq : p ≤ q := by omega
      rw [← hq] at HX2
      clear HF
      go_enter Try.func57, Try.ntmps57
      go_wp2
      go_quiet (fail)
      generalize hnq : w.drewN _ = w2
      have hbw : Below w.heap.size w w2 := by rw [← hnq]; exact below_drews (Below.refl _ _) _
      have HG2 : Hid (w.grownBy w2 (some R)) := grown_of_below hbw
      have HK2 : Hid (Rdr w2 R (some ⟨g, o, none⟩) len cap ⟨(p : Int), 0⟩) := Bk.stay HK.out hbw
      have g0 : w2.cell? ⟨R, 0, none⟩ = some (.slice (some ⟨g, o, none⟩) len cap) := HK2.out.cell 0 rfl
      have g1 : w2.cell? ⟨R, 1, none⟩ = some (.int .i64 (p : Int)) := HK2.out.cell 1 rfl
      have q1 : w2.frozen? ⟨R, 1, none⟩ = false := HK2.out.free 1
      have HR2 : Hid (Rd w2 (some ⟨g, o, none⟩) len bs) := HR.out.below hbw
      clear hnq hbw c0 c1 c2
      go_wp2
      rw [show (p : Int) + (c : Int) = (q : Int) from by omega]
      clear hq
      obtain ⟨w3, HW3⟩ : ∃ w3, Hid (w3 = w2.setCell ⟨R, 1, none⟩ (.int .i64 (q : Int))) := ⟨_, rfl⟩
      rw [← HW3.out]
      have HG3 : Hid (w.grownBy w3 (some R)) := by rw [HW3.out]; exact grown_trans HG2.out (grown_set1 _ _ _ _)
      have HK3 : Hid (Rdr w3 R (some ⟨g, o, none⟩) len cap ⟨(q : Int), 0⟩) := by rw [HW3.out]; exact HK2.out.set 1 _
      have HR3 : Hid (Rd w3 (some ⟨g, o, none⟩) len bs) := by rw [HW3.out]; exact HR2.out.grown HK2.out (grown_set1 _ _ _ _)
      clear g0 g1 q1 HK2 HG2 HR2 HW3
      have HSK : Hid (∀ w', Below w3.heap.size w3 w' → w'.cell? ⟨R, 0, none⟩ = some (.slice (some ⟨g, o, none⟩) len cap) ∧ w'.cell? ⟨R, 1, none⟩ = some (.int .i64 (q : Int))) := fun w' hb => ⟨(Bk.stay HK3.out hb).cell 0 rfl, (Bk.stay HK3.out hb).cell 1 rfl⟩
      have HBN : Hid (Below w3.heap.size w3 w3.drew) := (Below.refl _ _).drew
      have b1 : ((p : Nat) : Int) ≤ (q : Int) := by omega
      have b2 : (q : Int) ≤ (cap : Int) := by omega
      have b3 : (0 : Int) ≤ ((p : Nat) : Int) := by omega
      by_cases hcp : cap = p
      · have e1 : len = p := by omega
        have e2 : len = q := by omega
        have e3 : len = cap := by omega
        have e4 : 0 = c := by have := HQ.out; omega
        clear hcp HQ hpq hpc hlc hp hs hs' hx0 hx1 hc b1 b2 b3
        subst e1 e2 e3 e4
        have b1 : ((len : Nat) : Int) ≤ ((len : Nat) : Int) := Int.le_refl _
        have b3 : (0 : Int) ≤ ((len : Nat) : Int) := by omega
        have HCL : Hid (∀ w', Below w3.heap.size w3 w' → Calls Try.prog 44 #[.slice (some ⟨g, o, none⟩) 0 0] w' fun e w'' => ∃ a' c', e = .returned (.slice a' 0 c') ∧ Own w'' w'.heap.size a' 0 c' [] ∧ Below w'.heap.size w' w'') := fun w' hb => bytes_Clone (some ⟨g, o, none⟩) 0 0 [] w' ⟨rfl, by simp, .inl rfl⟩ (fun h => by cases h) (by omega)
        go_region_held3 (fun w' => w'.cell? ⟨R, 0, none⟩ = some (.slice (some ⟨g, o, none⟩) len len) ∧ w'.cell? ⟨R, 1, none⟩ = some (.int .i64 (len : Int))) (first | exact HSK.out _ HBN.out | exact HSK.out _ (Below.refl _ _) | fail)
          (first
            | (go_at_call 44; refine (HCL.out _ HBN.out).mono ?_; rintro e w4 ⟨a4, c4, he4, ho4, hb4⟩; subst he4; have HO4 : Hid (Own w4 w3.heap.size a4 0 c4 []) := ho4; have HB4 : Hid (Below w3.heap.size w3 w4) := HBN.out.trans hb4; clear HBN; have HBN := HB4; clear ho4 hb4))
        clear HCL HSK HBN
        go_wp2
        go_ret
        rw [HX2.out]
        exact ⟨⟨a4, 0, c4, rfl, HO4.out.under HG3.out.size⟩, Bk.stay HK3.out HB4.out, grown_trans HG3.out (grown_of_below HB4.out)⟩
      · have HCL : Hid (∀ w', Below w3.heap.size w3 w' → Calls Try.prog 44 #[.slice (some ⟨g, o + p, none⟩) (q - p) (cap - p)] w' fun e w'' => ∃ a' c', e = .returned (.slice a' (q - p) c') ∧ Own w'' w'.heap.size a' (q - p) c' ((bs.drop p).take c) ∧ Below w'.heap.size w' w'') := by
          intro w' hb
          have e2 : q - p = c := by have := HQ.out; omega
          have h2 := Rd.part (HR3.out.below hb) p c (o + p) (by have := HQ.out; omega) (.inr rfl)
          rw [← e2] at h2
          have h3 := bytes_Clone (some ⟨g, o + p, none⟩) (q - p) (cap - p) _ w' h2 (fun h => by cases h) (by omega)
          rw [e2] at h3 ⊢
          exact h3
        go_region_held3 (fun w' => w'.cell? ⟨R, 0, none⟩ = some (.slice (some ⟨g, o, none⟩) len cap) ∧ w'.cell? ⟨R, 1, none⟩ = some (.int .i64 (q : Int))) (first | exact HSK.out _ HBN.out | exact HSK.out _ (Below.refl _ _) | fail)
          (first
            | (go_at_call 44; refine (HCL.out _ HBN.out).mono ?_; rintro e w4 ⟨a4, c4, he4, ho4, hb4⟩; subst he4; have HO4 : Hid (Own w4 w3.heap.size a4 (q - p) c4 ((bs.drop p).take c)) := ho4; have HB4 : Hid (Below w3.heap.size w3 w4) := HBN.out.trans hb4; clear HBN; have HBN := HB4; clear ho4 hb4))
        clear HCL HSK HBN
        go_wp2
        go_ret
        rw [HX2.out]
        exact ⟨⟨a4, q - p, c4, rfl, HO4.out.under HG3.out.size⟩, Bk.stay HK3.out HB4.out, grown_trans HG3.out (grown_of_below HB4.out)⟩
  · have HX2 : Hid (F = ([], ⟨x, t⟩)) := HF.out.trans (byF_no ht)
    have ht' : (t == 0) = false := by simpa using ht
    clear HF
    go_enter Try.func57, Try.ntmps57
    go_wp2
    go_ret
    rw [HX2.out]
    exact ⟨⟨none, 0, 0, rfl, Own.none_ _ _⟩, HK.out, grown_refl _ _⟩
end Go.Proofs.Ytjpkhefegpbooaa
