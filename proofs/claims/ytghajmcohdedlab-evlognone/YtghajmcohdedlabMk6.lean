/- mark: Put, Open, Count. -/
import Derived.Test.YtghajmcohdedlabMk5
namespace Go.Proofs.Ytghajmcohdedlab
open Go.RowKit

theorem read_range (s : List Nat) : 0 ≤ (readB s).1 ∧ (readB s).1 ≤ 4611686018427387904 := by
  unfold readB
  split
  · rename_i h
    show 0 ≤ (KeyM.take s 1).1 ∧ _
    exact ⟨by omega, h.1.2⟩
  · exact ⟨Int.le_refl _, by decide⟩
theorem look_range (D : Dk) (p : Int) : 0 ≤ (lookB D p).1 ∧ (lookB D p).1 ≤ 4611686018427387904 := by
  unfold lookB
  split
  · exact read_range _
  · exact ⟨Int.le_refl _, by decide⟩
theorem stand_range (D : Dk) (b i : Nat) : (0 ≤ (standB D b i).1 ∧ (standB D b i).1 ≤ 1) ∧ 0 ≤ (standB D b i).2.1 ∧ (standB D b i).2.1 ≤ 4611686018427387904 := by
  unfold standB
  split
  · exact ⟨⟨(by decide : (0 : Int) ≤ 1), (by decide : (1 : Int) ≤ 1)⟩, look_range _ _⟩
  · exact ⟨⟨(by decide : (0 : Int) ≤ 0), (by decide : (0 : Int) ≤ 1)⟩, look_range _ _⟩
/-- A cell's value is changed: the error, the disk. -/
def putCE (D : Dk) (b m : Nat) (i v : Int) : Int :=
  if D.down = true then 10 else if (0 ≤ i ∧ i < (m : Int)) ∧ 0 ≤ v ∧ v ≤ 1099511627776 then (if (standB D b i.toNat).2.1 = 4611686018427387904 then 6 else replE D ((b : Int) + 2 * (i.toNat : Int) + (1 - (standB D b i.toNat).1)) ((standB D b i.toNat).2.1 + 1) v) else 2
def putCD (D : Dk) (b m : Nat) (i v : Int) : Dk :=
  if D.down = true then D else if (0 ≤ i ∧ i < (m : Int)) ∧ 0 ≤ v ∧ v ≤ 1099511627776 then (if (standB D b i.toNat).2.1 = 4611686018427387904 then D else replD D ((b : Int) + 2 * (i.toNat : Int) + (1 - (standB D b i.toNat).1)) ((standB D b i.toNat).2.1 + 1) v) else D

set_option maxRecDepth 100000 in
set_option maxHeartbeats 4000000 in
theorem cells_Put (w : World) (base g gs : Nat) (wv : Value) (D : Dk) (gc b m : Nat) (i v : Int) (h : Disk w base g gs wv D) (hc : Cs w gc g b m) (hb : b ≤ 1000) (hm : m ≤ 1000) (hwl : D.waits.length < 1000000000) :
    Calls Try.prog 32 #[.pointer (some ⟨gc, 0, none⟩), .int .i64 i, .int .i64 v] w fun e w' => e = .returned (.int .i64 (putCE D b m i v)) ∧ Hid (∃ wv', Disk w' base g gs wv' (putCD D b m i v)) ∧ Mv w w' base g gs := by
  obtain ⟨R, HR⟩ : ∃ R, Hid (R = putCE D b m i v) := ⟨_, rfl⟩
  obtain ⟨D', HD'⟩ : ∃ D', Hid (D' = putCD D b m i v) := ⟨_, rfl⟩
  rw [← HR.out, ← HD'.out]
  have HD : Hid (∀ w', Below w.heap.size w w' → Disk w' base g gs wv D) := fun w' hb => h.stay hb
  have HC : Hid (∀ w', Below w.heap.size w w' → Cs w' gc g b m) := fun w' hb => hc.stay hb
  have HBS : Hid (base ≤ w.heap.size) := Nat.le_trans h.bg (Nat.le_of_lt h.blk.lt)
  have HWL : Hid (D.waits.length < 1000000000) := hwl
  have HLT : Hid (g < w.heap.size ∧ gs < w.heap.size) := ⟨h.blk.lt, h.srow.lt⟩
  have c0 : w.cell? ⟨gc, 0, none⟩ = some (.pointer (some ⟨g, 0, none⟩)) := Blk.cell hc 0 rfl
  have HD0 : Hid (Disk w base g gs wv D) := h
  have HC0 : Hid (Cs w gc g b m) := hc
  clear h hc hwl
  go_enter Try.func32, Try.ntmps32
  go_wp2_with fail
  refine (disk_Down w base g gs wv D HD0.out).mono ?_
  cases hd : D.down with
  | true =>
    have HX : Hid (R = 10 ∧ D' = D) := by show _ ∧ _; rw [HR.out, HD'.out, putCE, putCD, if_pos hd, if_pos hd]; exact ⟨rfl, rfl⟩
    rintro e w' ⟨rfl, hw⟩
    subst w'
    go_wp2
    go_ret
    rw [HX.out.1, HX.out.2]
    exact ⟨rfl, ⟨wv, HD0.out⟩, Mv.refl _ _ _ _⟩
  | false =>
    rintro e w' ⟨rfl, hw⟩
    subst w'
    have hdn : ¬ D.down = true := by rw [hd]; decide
    have HRX : Hid (R = (if (0 ≤ i ∧ i < (m : Int)) ∧ 0 ≤ v ∧ v ≤ 1099511627776 then (if (standB D b i.toNat).2.1 = 4611686018427387904 then 6 else replE D ((b : Int) + 2 * (i.toNat : Int) + (1 - (standB D b i.toNat).1)) ((standB D b i.toNat).2.1 + 1) v) else 2) ∧ D' = (if (0 ≤ i ∧ i < (m : Int)) ∧ 0 ≤ v ∧ v ≤ 1099511627776 then (if (standB D b i.toNat).2.1 = 4611686018427387904 then D else replD D ((b : Int) + 2 * (i.toNat : Int) + (1 - (standB D b i.toNat).1)) ((standB D b i.toNat).2.1 + 1) v) else D)) := by
      show _ ∧ _
      rw [HR.out, HD'.out, putCE, putCD, if_neg hdn, if_neg hdn]
      exact ⟨rfl, rfl⟩
    clear HR HD' hd hdn
    go_wp2_with fail
    refine (cells_has w gc g b m i HC0.out).mono ?_
    by_cases hh : 0 ≤ i ∧ i < (m : Int)
    · rw [decide_eq_true hh]
      rintro e w' ⟨rfl, hw⟩
      subst w'
      by_cases hv0 : v < 0
      · have HX : Hid (R = 2 ∧ D' = D) := by show _ ∧ _; have := HRX.out; rw [if_neg (by omega), if_neg (by omega)] at this; exact this
        go_wp2
        go_ret
        rw [HX.out.1, HX.out.2]
        exact ⟨rfl, ⟨wv, HD0.out⟩, Mv.refl _ _ _ _⟩
      by_cases hv1 : 1099511627776 < v
      · have HX : Hid (R = 2 ∧ D' = D) := by show _ ∧ _; have := HRX.out; rw [if_neg (by omega), if_neg (by omega)] at this; exact this
        go_wp2
        go_ret
        rw [HX.out.1, HX.out.2]
        exact ⟨rfl, ⟨wv, HD0.out⟩, Mv.refl _ _ _ _⟩
      obtain ⟨j, rfl⟩ := Int.eq_ofNat_of_zero_le hh.1
      have hj : j ≤ 1000 := by omega
      obtain ⟨sr1, sr2⟩ := stand_range D b j
      obtain ⟨⟨x, n, z⟩, HS⟩ : ∃ S, Hid (S = standB D b j) := ⟨_, rfl⟩
      rw [← HS.out] at sr1 sr2
      simp only at sr1 sr2
      obtain ⟨x0, x1⟩ := sr1
      obtain ⟨n0, n1⟩ := sr2
      have HRY : Hid (R = (if n = 4611686018427387904 then 6 else replE D ((b : Int) + 2 * (j : Int) + (1 - x)) (n + 1) v) ∧ D' = (if n = 4611686018427387904 then D else replD D ((b : Int) + 2 * (j : Int) + (1 - x)) (n + 1) v)) := by
        show _ ∧ _
        have := HRX.out
        have hcond : (0 ≤ (j : Int) ∧ (j : Int) < (m : Int)) ∧ 0 ≤ v ∧ v ≤ 1099511627776 := ⟨hh, by omega, by omega⟩
        rw [if_pos hcond, if_pos hcond, Int.toNat_natCast, ← HS.out] at this
        exact this
      clear HRX
      go_wp2_with fail
      refine (cells_standing w base g gs wv D gc b m j HD0.out HC0.out hb hj).mono ?_
      rw [← HS.out]
      rintro e w2 ⟨rfl, hb2⟩
      have HB2 : Hid (Below w.heap.size w w2) := hb2
      clear hb2
      by_cases hn : n = 4611686018427387904
      · have HX : Hid (R = 6 ∧ D' = D) := by show _ ∧ _; have := HRY.out; rw [if_pos hn, if_pos hn] at this; exact this
        have hn' : (n == 4611686018427387904) = true := by rw [beq_iff_eq]; exact hn
        clear hn
        go_wp2
        go_ret
        rw [HX.out.1, HX.out.2]
        exact ⟨rfl, ⟨wv, HD.out _ (HB2.out.trans ((below_alloc _ _).mono HB2.out.size))⟩, Mv.of_below g gs (HB2.out.trans ((below_alloc _ _).mono HB2.out.size)) HBS.out⟩
      · have hn' : (n == 4611686018427387904) = false := by rw [beq_eq_false_iff_ne]; exact hn
        obtain ⟨q, HQ⟩ : ∃ q, Hid (q = 1 - x) := ⟨_, rfl⟩
        obtain ⟨n', HN'⟩ : ∃ n', Hid (n' = n + 1) := ⟨_, rfl⟩
        obtain ⟨p, HP⟩ : ∃ p, Hid (p = (b : Int) + 2 * (j : Int) + q) := ⟨_, rfl⟩
        have HX : Hid (R = replE D p n' v ∧ D' = replD D p n' v) := by show _ ∧ _; have := HRY.out; rw [if_neg hn, if_neg hn, ← HQ.out, ← HP.out, ← HN'.out] at this; exact this
        have HQR : Hid (0 ≤ q ∧ q ≤ 1) := by show _ ∧ _; rw [HQ.out]; omega
        have HNR : Hid ((-9223372036854775808 : Int) ≤ n' ∧ n' ≤ 9223372036854775807) := by show _ ∧ _; rw [HN'.out]; omega
        have wq : IntKind.i64.wrap (1 - x) = q := by rw [HQ.out, IntKind.wrap_i64]; omega
        have wn : IntKind.i64.wrap (n + 1) = n' := by rw [HN'.out, IntKind.wrap_i64]; omega
        have n2 : n < 4611686018427387904 := by omega
        go_wp2
        generalize hw3 : World.alloc w2 _ = w3
        have HB23 : Hid (Below w2.heap.size w2 w3) := by show Below _ _ _; rw [← hw3]; exact below_alloc _ _
        have HE3 : Hid (Blk w3 w2.heap.size #[.int .i64 n, .int .i64 z] 87) := by show Blk _ _ _ _; rw [← hw3]; exact Blk.new _ _ _
        have HB3 : Hid (Below w.heap.size w w3) := HB2.out.trans (HB23.out.mono HB2.out.size)
        have HNW : Hid (w2.heap.size ≠ g ∧ w2.heap.size ≠ gs) := by have := HLT.out; have := HB2.out.size; constructor <;> omega
        clear hw3
        have b0 : w3.cell? ⟨w2.heap.size, 0, none⟩ = some (.int .i64 n) := HE3.out.cell 0 rfl
        have HB3d : Hid (Below w.heap.size w w3.drew) := HB3.out.drew
        go_region_held3 (fun w' => w'.cell? ⟨w2.heap.size, 0, none⟩ = some (.int .i64 n)) (first | exact b0 | exact e0 | fail)
          (first
            | (go_at_call 46; refine (cells_place w3.drew gc g b m j q (HC.out _ HB3d.out) hb hj HQR.out).mono ?_; rw [← HP.out]; rintro e w4 ⟨rfl, hw4⟩; subst w4)
            | (go_at_call 45; refine (cells_replace w3.drew base g gs wv D gc b m p n' v (HD.out _ HB3d.out) (HC.out _ HB3d.out) HWL.out HNR.out (by omega)).mono ?_; rw [← HX.out.1, ← HX.out.2]; rintro e w5 ⟨rfl, hd5, hm5⟩; have HD5 : Hid (∃ wv', Disk w5 base g gs wv' D') := hd5.out; have HM5 : Hid (Mv w w5 base g gs) := (Mv.of_below g gs HB3d.out HBS.out).trans hm5; have e0 : w5.cell? ⟨w2.heap.size, 0, none⟩ = some (.int .i64 n) := (hm5.keep (HE3.out.stay (Below.refl _ _).drew) HNW.out.1 HNW.out.2 (by decide)).cell 0 rfl; clear hd5 hm5))
        go_wp2
        go_ret
        exact ⟨rfl, HD5, HM5.out⟩
    · rw [decide_eq_false hh]
      have HX : Hid (R = 2 ∧ D' = D) := by show _ ∧ _; have := HRX.out; rw [if_neg (fun h => hh h.1), if_neg (fun h => hh h.1)] at this; exact this
      rintro e w' ⟨rfl, hw⟩
      subst w'
      go_wp2
      go_ret
      rw [HX.out.1, HX.out.2]
      exact ⟨rfl, ⟨wv, HD0.out⟩, Mv.refl _ _ _ _⟩
end Go.Proofs.Ytghajmcohdedlab
