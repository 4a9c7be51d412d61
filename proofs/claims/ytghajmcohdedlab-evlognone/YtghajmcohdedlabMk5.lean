/- mark: replace, Put. -/
import Derived.Test.YtghajmcohdedlabMk4
namespace Go.Proofs.Ytghajmcohdedlab
open Go.RowKit

/-- The byte that a sector begins and ends with, behind another one that ends with this. -/
def nextB (s : List Nat) : Nat := (s.getD 63 0 + 1) % 256
/-- A sector is laid anew: the error, the disk. -/
def replE (D : Dk) (p n v : Int) : Int :=
  if readE D p = 0 then (if writeE D p (layB (nextB (nowB D p.toNat)) n v) = 0 then syncE (writeD D p (layB (nextB (nowB D p.toNat)) n v)) else writeE D p (layB (nextB (nowB D p.toNat)) n v)) else readE D p
def replD (D : Dk) (p n v : Int) : Dk :=
  if readE D p = 0 then (if writeE D p (layB (nextB (nowB D p.toNat)) n v) = 0 then syncD (writeD D p (layB (nextB (nowB D p.toNat)) n v)) else writeD D p (layB (nextB (nowB D p.toNat)) n v)) else D

set_option maxRecDepth 100000 in
set_option maxHeartbeats 4000000 in
theorem cells_replace (w : World) (base g gs : Nat) (wv : Value) (D : Dk) (gc b m : Nat) (p n v : Int) (h : Disk w base g gs wv D) (hc : Cs w gc g b m) (hwl : D.waits.length < 1000000000) (hn : (-9223372036854775808 : Int) ≤ n ∧ n ≤ 9223372036854775807) (hv : (-9223372036854775808 : Int) ≤ v ∧ v ≤ 9223372036854775807) :
    Calls Try.prog 45 #[.pointer (some ⟨gc, 0, none⟩), .int .i64 p, .agg #[.int .i64 n, .int .i64 v]] w fun e w' => e = .returned (.int .i64 (replE D p n v)) ∧ Hid (∃ wv', Disk w' base g gs wv' (replD D p n v)) ∧ Mv w w' base g gs := by
  obtain ⟨R, HR⟩ : ∃ R, Hid (R = replE D p n v) := ⟨_, rfl⟩
  obtain ⟨D', HD'⟩ : ∃ D', Hid (D' = replD D p n v) := ⟨_, rfl⟩
  rw [← HR.out, ← HD'.out]
  have HD : Hid (∀ w', Below w.heap.size w w' → Disk w' base g gs wv D) := fun w' hb => h.stay hb
  have HC : Hid (∀ w', Below w.heap.size w w' → Cs w' gc g b m) := fun w' hb => hc.stay hb
  have HBS : Hid (base ≤ w.heap.size) := Nat.le_trans h.bg (Nat.le_of_lt h.blk.lt)
  have HWL : Hid (D.waits.length < 1000000000) := hwl
  have HNV : Hid (((-9223372036854775808 : Int) ≤ n ∧ n ≤ 9223372036854775807) ∧ ((-9223372036854775808 : Int) ≤ v ∧ v ≤ 9223372036854775807)) := ⟨hn, hv⟩
  have HLT : Hid (g < w.heap.size ∧ gs < w.heap.size ∧ gc < w.heap.size) := ⟨h.blk.lt, h.srow.lt, Blk.lt hc⟩
  have HNE : Hid (gc ≠ g ∧ gc ≠ gs) := ⟨blk_ne hc h.blk (by decide), blk_ne hc h.srow (by decide)⟩
  clear h hc hwl hn hv
  go_enter Try.func45, Try.ntmps45
  have c0 : (w.alloc (.cells #[.int .i64 n, .int .i64 v] 87)).cell? ⟨gc, 0, none⟩ = some (.pointer (some ⟨g, 0, none⟩)) := Blk.cell (HC.out _ (below_alloc _ _)) 0 rfl
  go_wp2_with fail
  generalize hw1 : World.alloc w _ = w1 at *
  have HB1 : Hid (Below w.heap.size w w1) := by show Below _ _ _; rw [← hw1]; exact below_alloc _ _
  have HE1 : Hid (Blk w1 w.heap.size #[.int .i64 n, .int .i64 v] 87) := by show Blk _ _ _ _; rw [← hw1]; exact Blk.new _ _ _
  clear hw1 c0
  refine (disk_Read w1 base g gs wv D p (HD.out _ HB1.out)).mono ?_
  rintro e w2 ⟨ht, hb2⟩
  have HB2 : Hid (Below w.heap.size w w2) := HB1.out.trans (hb2.mono HB1.out.size)
  have HE2 : Hid (Blk w2 w.heap.size #[.int .i64 n, .int .i64 v] 87) := HE1.out.stay hb2
  have HS1 : Hid (w.heap.size ≤ w1.heap.size) := HB1.out.size
  rcases ht.out with ⟨hne, rfl⟩ | ⟨h0, k, rfl, hkw, hk, hs⟩
  · have HX : Hid (R = readE D p ∧ D' = D) := by show _ ∧ _; rw [HR.out, HD'.out, replE, replD, if_neg hne, if_neg hne]; exact ⟨rfl, rfl⟩
    generalize readE D p = E at *
    clear ht hb2
    go_wp2
    go_ret
    rw [HX.out.1, HX.out.2]
    exact ⟨rfl, ⟨wv, HD.out _ HB2.out⟩, Mv.of_below g gs HB2.out HBS.out⟩
  · obtain ⟨s, HSE⟩ : ∃ s, Hid (s = nowB D p.toNat) := ⟨_, rfl⟩
    rw [← HSE.out] at hk hs
    obtain ⟨x, HXE⟩ : ∃ x, Hid (x = s.getD 63 0) := ⟨_, rfl⟩
    have hx : x < 256 := by rw [HXE.out]; exact getD_lt hs.byte 63
    obtain ⟨y, HYE⟩ : ∃ y, Hid (y = (x + 1) % 256) := ⟨_, rfl⟩
    obtain ⟨L, HL⟩ : ∃ L, Hid (L = layB y n v) := ⟨_, rfl⟩
    have HLS : Hid (Sec L) := by show Sec _; rw [HL.out]; exact layB_sec n v (by rw [HYE.out]; omega)
    obtain ⟨E, HE⟩ : ∃ E, Hid (E = writeE D p L) := ⟨_, rfl⟩
    obtain ⟨D2, HD2⟩ : ∃ D2, Hid (D2 = writeD D p L) := ⟨_, rfl⟩
    have HNX : Hid (nextB (nowB D p.toNat) = y) := by show _ = _; rw [HYE.out, HXE.out, HSE.out]; rfl
    have HRX : Hid (R = (if E = 0 then syncE D2 else E) ∧ D' = (if E = 0 then syncD D2 else D2)) := by
      show _ ∧ _
      rw [HR.out, HD'.out, replE, replD, if_pos h0, if_pos h0, HNX.out, ← HL.out, ← HE.out, ← HD2.out]
      exact ⟨rfl, rfl⟩
    have HK : Hid (Blk w2 k (vb s).toArray 79) := hk
    have HKN : Hid (k ≠ g ∧ k ≠ gs) := by have := HLT.out; have := HS1.out; constructor <;> omega
    have HX63 : Hid ((vb s).toArray[63]? = some (.int .u8 (x : Int))) := by
      show _ = _
      rw [HXE.out, List.getElem?_toArray]
      have h63 : 63 < s.length := by rw [hs.len]; omega
      simp [vb, List.getD_eq_getElem?_getD, List.getElem?_eq_getElem h63]
    have b0 : w2.cell? ⟨gc, 0, none⟩ = some (.pointer (some ⟨g, 0, none⟩)) := Blk.cell (HC.out _ HB2.out) 0 rfl
    have b1 : w2.cell? ⟨k, 63, none⟩ = some (.int .u8 (x : Int)) := hk.cell 63 HX63.out
    have b2 : w2.cell? ⟨w.heap.size, 0, none⟩ = some (.int .i64 n) := HE2.out.cell 0 rfl
    have b3 : w2.cell? ⟨w.heap.size, 1, none⟩ = some (.int .i64 v) := HE2.out.cell 1 rfl
    have hy1 : ((x : Int) + 1) % 256 = (y : Int) := by rw [HYE.out]; omega
    have hy2 : IntKind.u8.wrap ((x : Int) + 1) = (y : Int) := by rw [IntKind.wrap_u8]; exact hy1
    clear ht hb2 hk hs hkw h0
    go_wp2
    have HBd : Hid (Below w2.heap.size w2 w2.drew) := (Below.refl _ _).drew
    have HNW : Hid (w.heap.size ≠ g ∧ w.heap.size ≠ gs) := by have := HLT.out; constructor <;> omega
    go_region_held3 (fun w' => w'.cell? ⟨gc, 0, none⟩ = some (.pointer (some ⟨g, 0, none⟩)) ∧ w'.cell? ⟨k, 63, none⟩ = some (.int .u8 (x : Int)) ∧ w'.cell? ⟨w.heap.size, 0, none⟩ = some (.int .i64 n) ∧ w'.cell? ⟨w.heap.size, 1, none⟩ = some (.int .i64 v)) (first | exact ⟨b0, b1, b2, b3⟩ | exact ⟨e0, e1, e2, e3⟩ | exact ⟨g0, g1, g2, g3⟩ | fail)
      (first
        | (go_at_call 60; refine (mark_lay y n v HNV.out.1 HNV.out.2 _).mono ?_; rw [← HL.out]; rintro e w4 ⟨k4, rfl, hk4w, hk4, hb4⟩; have HB24 : Hid (Below w2.heap.size w2 w4) := HBd.out.trans hb4; have hk4w' : w2.heap.size ≤ k4 := hk4w; have HK4 : Hid (Blk w4 k4 (vb L).toArray 78) := hk4; have HKN4 : Hid (k4 ≠ g ∧ k4 ≠ gs) := (by have := HLT.out; have := HB2.out.size; constructor <;> omega); have HC4 : Hid (Cs w4 gc g b m) := (HC.out _ HB2.out).stay HB24.out; have HKK4 : Hid (Blk w4 k (vb s).toArray 79) := HK.out.stay HB24.out; have HE4 : Hid (Blk w4 w.heap.size #[.int .i64 n, .int .i64 v] 87) := HE2.out.stay HB24.out; have e0 : w4.cell? ⟨gc, 0, none⟩ = some (.pointer (some ⟨g, 0, none⟩)) := Blk.cell HC4.out 0 rfl; have e1 : w4.cell? ⟨k, 63, none⟩ = some (.int .u8 (x : Int)) := HKK4.out.cell 63 HX63.out; have e2 : w4.cell? ⟨w.heap.size, 0, none⟩ = some (.int .i64 n) := HE4.out.cell 0 rfl; have e3 : w4.cell? ⟨w.heap.size, 1, none⟩ = some (.int .i64 v) := HE4.out.cell 1 rfl; have HB4 : Hid (Below w.heap.size w w4) := HB2.out.trans (HB24.out.mono HB2.out.size); clear hk4 hb4 hk4w hk4w')
        | (go_at_call 26; refine (disk_Write w4 base g gs wv D p (some ⟨k4, 0, none⟩) 64 64 L (HD.out _ HB4.out) (fun w' hm => by have := Rd.of_blk (hm.keep HK4.out HKN4.out.1 HKN4.out.2 (by decide)) HLS.out.byte; rw [HLS.out.len] at this; exact this) (by omega) HWL.out).mono ?_; rw [← HE.out, ← HD2.out]; rintro e w5 ⟨rfl, hd5, hm5⟩; obtain ⟨wv5, hd5⟩ := hd5.out; have HD5 : Hid (Disk w5 base g gs wv5 D2) := hd5; have HM5 : Hid (Mv w w5 base g gs) := (Mv.of_below g gs HB4.out HBS.out).trans hm5; have HC5 : Hid (Cs w5 gc g b m) := hm5.keep HC4.out HNE.out.1 HNE.out.2 (by decide); have HKK5 : Hid (Blk w5 k (vb s).toArray 79) := hm5.keep HKK4.out HKN.out.1 HKN.out.2 (by decide); have HE5 : Hid (Blk w5 w.heap.size #[.int .i64 n, .int .i64 v] 87) := hm5.keep HE4.out HNW.out.1 HNW.out.2 (by decide); have g0 : w5.cell? ⟨gc, 0, none⟩ = some (.pointer (some ⟨g, 0, none⟩)) := Blk.cell HC5.out 0 rfl; have g1 : w5.cell? ⟨k, 63, none⟩ = some (.int .u8 (x : Int)) := HKK5.out.cell 63 HX63.out; have g2 : w5.cell? ⟨w.heap.size, 0, none⟩ = some (.int .i64 n) := HE5.out.cell 0 rfl; have g3 : w5.cell? ⟨w.heap.size, 1, none⟩ = some (.int .i64 v) := HE5.out.cell 1 rfl; clear hd5 hm5))
    clear b0 b1 b2 b3 e0 e1 e2 e3 g1 g2 g3
    by_cases hE : E = 0
    · have HX : Hid (R = syncE D2 ∧ D' = syncD D2) := by show _ ∧ _; have := HRX.out; rw [if_pos hE, if_pos hE] at this; exact this
      clear HE
      subst hE
      go_wp2_with fail
      refine (disk_Sync w5 base g gs wv5 D2 HD5.out).mono ?_
      rw [← HX.out.1, ← HX.out.2]
      rintro e w6 ⟨rfl, hd6, hm6⟩
      have HD6 : Hid (∃ wv', Disk w6 base g gs wv' D') := hd6.out
      have HM6 : Hid (Mv w w6 base g gs) := HM5.out.trans hm6
      clear hd6 hm6
      go_wp2
      go_ret
      exact ⟨rfl, HD6, HM6.out⟩
    · have HX : Hid (R = E ∧ D' = D2) := by show _ ∧ _; have := HRX.out; rw [if_neg hE, if_neg hE] at this; exact this
      have hE' : (E == 0) = false := by rw [beq_eq_false_iff_ne]; exact hE
      go_wp2
      go_ret
      rw [HX.out.1, HX.out.2]
      exact ⟨rfl, ⟨wv5, HD5.out⟩, HM5.out⟩
end Go.Proofs.Ytghajmcohdedlab
