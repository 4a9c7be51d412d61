/- Proved: for every two bytes and fate grapevinelaw09.SectorTorn answers true and leaves its arguments as they were. No condition. -/
import Derived.Test.YtfkephohdfmnlaaSec6
import Derived.Test.YtfkephohdfmnlaaFrame
import Derived.Deep.QuietTactic
import Derived.BigQuiet
namespace Go.Proofs.Ytfkephohdfmnlaa
open Go.ChangeShapes Go.WideShapes Go.ChangeAt Go.RowKit
namespace sectorTorn

theorem w1E (bs : List Nat) : writeE (newD 1) 0 bs = if 64 < bs.length then 6 else 0 := by
  unfold writeE
  rw [if_neg (by decide), if_neg (by decide)]
  split
  · rfl
  · rfl
theorem w1D {bs : List Nat} (h : ¬ 64 < bs.length) : writeD (newD 1) 0 bs = ⟨[List.replicate 64 0], [(0, padS bs)], 0, false, 0⟩ := by
  unfold writeD
  rw [if_neg (by decide), if_neg (by decide), if_neg h]
  rfl
theorem s1 (s : List Nat) : syncE ⟨[List.replicate 64 0], [(0, s)], 0, false, 0⟩ = 0 ∧ syncD ⟨[List.replicate 64 0], [(0, s)], 0, false, 0⟩ = ⟨[s], [], 0, false, 0⟩ := ⟨rfl, rfl⟩
theorem w2E (s bs : List Nat) : writeE ⟨[s], [], 0, false, 0⟩ 0 bs = if 64 < bs.length then 6 else 0 := by
  unfold writeE
  rw [if_neg (by simp), if_neg (by show ¬ (hasB ⟨[s], [], 0, false, 0⟩ 0 = false); rw [show hasB ⟨[s], [], 0, false, 0⟩ 0 = true from rfl]; decide)]
  split
  · rfl
  · rfl
theorem w2D {s bs : List Nat} (h : ¬ 64 < bs.length) : writeD ⟨[s], [], 0, false, 0⟩ 0 bs = ⟨[s], [(0, padS bs)], 0, false, 0⟩ := by
  unfold writeD
  rw [if_neg (by simp), if_neg (by show ¬ (hasB ⟨[s], [], 0, false, 0⟩ 0 = false); rw [show hasB ⟨[s], [], 0, false, 0⟩ 0 = true from rfl]; decide), if_neg h]
  rfl
theorem below_drews {B : Nat} {w w' : World} (h : Below B w w') (n : Nat) : Below B w (w'.drewN n) := h.trans ⟨rfl, rfl, rfl, Nat.le_refl _, fun _ _ => rfl⟩
theorem rd_cut {w : World} {k : Nat} {s : List Nat} (h : Blk w k (vb s).toArray 58) (hs : Sec s) (j : Nat) (hj : j ≤ 64) : Rd w (some ⟨k, 0, none⟩) j (s.take j) := by
  refine ⟨by rw [List.length_take, hs.len]; omega, fun x hx => hs.byte x (List.mem_of_mem_take hx), .inr ⟨k, 0, rfl, h.lt, fun i hi => ?_⟩⟩
  have hc : w.cell? ⟨k, i, none⟩ = some (.int .u8 ((s.getD i 0 : Nat) : Int)) := h.cell i (by simpa using vb_at (by rw [hs.len]; omega))
  rw [Nat.zero_add, hc]
  simp only [List.getD_eq_getElem?_getD, List.getElem?_take_of_lt hi]
theorem rd_rest {w : World} {k : Nat} {s : List Nat} (h : Blk w k (vb s).toArray 58) (hs : Sec s) (j : Nat) (hj : j ≤ 64) (b : Nat) (hb : j < 64 → b = j) : Rd w (some ⟨k, b, none⟩) (64 - j) (s.drop j) := by
  refine ⟨by rw [List.length_drop, hs.len], fun x hx => hs.byte x (List.mem_of_mem_drop hx), ?_⟩
  by_cases h64 : j = 64
  · left; omega
  · obtain rfl := hb (by omega)
    refine .inr ⟨k, b, rfl, h.lt, fun i hi => ?_⟩
    have hc : w.cell? ⟨k, b + i, none⟩ = some (.int .u8 ((s.getD (b + i) 0 : Nat) : Int)) := h.cell (b + i) (by simpa using vb_at (by rw [hs.len]; omega))
    rw [hc]
    simp only [List.getD_eq_getElem?_getD, List.getElem?_drop]

set_option maxRecDepth 100000 in
set_option maxHeartbeats 4000000 in
theorem walk (a : Option Addr) (la ca : Nat) (xs : List Nat) (b : Option Addr) (lb cb : Nat) (ys : List Nat) (f : Int) (w : World) (ha : Rd w a la xs) (hb : Rd w b lb ys) (hla : la ≤ 9223372036854775000) (hlb : lb ≤ 9223372036854775000) :
    Calls Try.prog 4 #[.slice a la ca, .slice b lb cb, .int .i64 f] w fun e w' => e = .returned (.bool true) ∧ Below w.heap.size w w' := by
  have HA : Hid (Rd w a la xs) := ha
  have HBB : Hid (Rd w b lb ys) := hb
  have hsa := ha.size
  have hsb := hb.size
  clear ha hb
  go_enter Try.func4, Try.ntmps4
  go_wp2_with fail
  refine (sector_New 1 w).mono ?_
  rintro e w1 ⟨ht, hb1⟩
  rcases ht.out with ⟨h0, _⟩ | ⟨_, g, rfl, hd⟩
  · exact absurd ⟨by decide, by decide⟩ h0
  have HD1 : Hid (Disk w1 w.heap.size g w.heap.size (.slice none 0 0) (newD 1)) := hd
  have HB1 : Hid (Below w.heap.size w w1) := hb1
  clear ht hd hb1
  obtain ⟨gs, hgs⟩ : ∃ gs, gs = w.heap.size := ⟨_, rfl⟩
  go_wp2_with fail
  refine (disk_Write w1 w.heap.size g w.heap.size (.slice none 0 0) (newD 1) 0 a la ca xs HD1.out (fun w' hm => HA.out.below (HB1.out.trans hm.low)) hla (by decide)).mono ?_
  rw [w1E, hsa]
  by_cases h64a : 64 < la
  · rw [if_pos h64a]
    rintro e w2 ⟨rfl, _, hm2⟩
    have HB2 : Hid (Below w.heap.size w w2) := HB1.out.trans hm2.low
    have h64a' : (64 : Int) < (la : Int) := by omega
    clear hm2 hgs
    go_wp2_with fail
    refine (law_live w2).mono ?_
    rintro e w3 ⟨rfl, hb3⟩
    have HB3 : Hid (Below w.heap.size w w3) := HB2.out.trans (hb3.mono HB2.out.size)
    clear hb3
    go_wp2
    go_ret
    exact ⟨rfl, HB3.out⟩
  rw [if_neg h64a, w1D (by omega)]
  rintro e w2 ⟨rfl, hd2, hm2⟩
  obtain ⟨wv2, hd2⟩ := hd2.out
  have HD2 : Hid (Disk w2 w.heap.size g w.heap.size wv2 ⟨[List.replicate 64 0], [(0, padS xs)], 0, false, 0⟩) := hd2
  have HB2 : Hid (Below w.heap.size w w2) := HB1.out.trans hm2.low
  clear hd2 hm2 HD1
  go_wp2_with fail
  refine (disk_Sync w2 w.heap.size g w.heap.size wv2 _ HD2.out).mono ?_
  rw [(s1 (padS xs)).1, (s1 (padS xs)).2]
  rintro e w3 ⟨rfl, hd3, hm3⟩
  obtain ⟨wv3, hd3⟩ := hd3.out
  have HD3 : Hid (Disk w3 w.heap.size g w.heap.size wv3 ⟨[padS xs], [], 0, false, 0⟩) := hd3
  have HB3 : Hid (Below w.heap.size w w3) := HB2.out.trans hm3.low
  clear hd3 hm3 HD2
  go_wp2_with fail
  refine (disk_Write w3 w.heap.size g w.heap.size wv3 ⟨[padS xs], [], 0, false, 0⟩ 0 b lb cb ys HD3.out (fun w' hm => HBB.out.below (HB3.out.trans hm.low)) hlb (by simp)).mono ?_
  rw [w2E, hsb]
  by_cases h64b : 64 < lb
  · rw [if_pos h64b]
    rintro e w4 ⟨rfl, _, hm4⟩
    have HB4 : Hid (Below w.heap.size w w4) := HB3.out.trans hm4.low
    have h64a' : ¬ (64 : Int) < (la : Int) := by omega
    have h64b' : (64 : Int) < (lb : Int) := by omega
    clear hm4 hgs
    go_wp2_with fail
    refine (law_live w4).mono ?_
    rintro e w5 ⟨rfl, hb5⟩
    have HB5 : Hid (Below w.heap.size w w5) := HB4.out.trans (hb5.mono HB4.out.size)
    clear hb5
    go_wp2
    go_ret
    exact ⟨rfl, HB5.out⟩
  rw [if_neg h64b, w2D (by omega)]
  rintro e w4 ⟨rfl, hd4, hm4⟩
  obtain ⟨wv4, hd4⟩ := hd4.out
  have HAS : Hid (Sec (padS xs)) := padS_sec (by omega) HA.out.byte
  have HBS : Hid (Sec (padS ys)) := padS_sec (by omega) HBB.out.byte
  obtain ⟨A, hA⟩ : ∃ A, A = padS xs := ⟨_, rfl⟩
  obtain ⟨B, hB⟩ : ∃ B, B = padS ys := ⟨_, rfl⟩
  rw [← hA] at HAS hd4
  rw [← hB] at HBS hd4
  have HD4 : Hid (Disk w4 w.heap.size g w.heap.size wv4 ⟨[A], [(0, B)], 0, false, 0⟩) := hd4
  have HB4 : Hid (Below w.heap.size w w4) := HB3.out.trans hm4.low
  clear hd4 hm4 HD3 hA hB
  go_wp2_with fail
  refine (disk_Sure w4 w.heap.size g w.heap.size wv4 ⟨[A], [(0, B)], 0, false, 0⟩ 0 HD4.out).mono ?_
  rw [show sureE ⟨[A], [(0, B)], 0, false, 0⟩ 0 = 0 from rfl, show (⟨[A], [(0, B)], 0, false, 0⟩ : Dk).sure.getD (0 : Int).toNat [] = A from rfl]
  rintro e w5 ⟨ht, hb5⟩
  rcases ht.out with ⟨h0, _⟩ | ⟨_, kw, rfl, hkw, hkwb, _⟩
  · exact absurd rfl h0
  have HW5 : Hid (Blk w5 kw (vb A).toArray 58) := hkwb
  have HB5 : Hid (Below w.heap.size w w5) := HB4.out.trans (hb5.mono HB4.out.size)
  have HD5 : Hid (Disk w5 w.heap.size g w.heap.size wv4 ⟨[A], [(0, B)], 0, false, 0⟩) := HD4.out.stay hb5
  have HNW : Hid (kw ≠ g ∧ kw ≠ w.heap.size) := ⟨fun e => by have := HD4.out.blk.lt; omega, fun e => by have := HD4.out.srow.lt; omega⟩
  clear ht hkw hkwb hb5
  go_wp2_with fail
  refine (disk_Read w5 w.heap.size g w.heap.size wv4 ⟨[A], [(0, B)], 0, false, 0⟩ 0 HD5.out).mono ?_
  rw [show readE ⟨[A], [(0, B)], 0, false, 0⟩ 0 = 0 from rfl, show nowB ⟨[A], [(0, B)], 0, false, 0⟩ (0 : Int).toNat = B from rfl]
  rintro e w6 ⟨ht, hb6⟩
  rcases ht.out with ⟨h0, _⟩ | ⟨_, ki, rfl, hki, hkib, _⟩
  · exact absurd rfl h0
  have HI6 : Hid (Blk w6 ki (vb B).toArray 58) := hkib
  have HW6 : Hid (Blk w6 kw (vb A).toArray 58) := HW5.out.stay hb6
  have HB6 : Hid (Below w.heap.size w w6) := HB5.out.trans (hb6.mono HB5.out.size)
  have HD6 : Hid (Disk w6 w.heap.size g w.heap.size wv4 ⟨[A], [(0, B)], 0, false, 0⟩) := HD5.out.stay hb6
  have HNI : Hid (ki ≠ g ∧ ki ≠ w.heap.size) := ⟨fun e => by have := HD5.out.blk.lt; omega, fun e => by have := HD5.out.srow.lt; omega⟩
  clear ht hki hkib hb6 HW5 HD5 HD4
  obtain ⟨W7, HW7⟩ : ∃ W7, Hid (W7 = w6.alloc (.cells #[.int .i64 f] 3)) := ⟨_, rfl⟩
  have HB67 : Hid (Below w6.heap.size w6 W7) := by show Below _ _ _; rw [HW7.out]; exact below_alloc _ _
  have HK7 : Hid (Blk W7 w6.heap.size #[.int .i64 f] 3) := by show Blk _ _ _ _; rw [HW7.out]; exact Blk.new _ _ _
  have HD7 : Hid (Disk W7 w.heap.size g w.heap.size wv4 ⟨[A], [(0, B)], 0, false, 0⟩) := HD6.out.stay HB67.out
  have HNE : Hid (w6.heap.size ≠ g ∧ w6.heap.size ≠ w.heap.size) := ⟨fun e => by have := HD6.out.blk.lt; omega, fun e => by have := HD6.out.srow.lt; omega⟩
  obtain ⟨m, hm⟩ : ∃ m, m = doneN (fateU f) := ⟨_, rfl⟩
  have hm64 : m ≤ 64 := by rw [hm]; exact doneN_le _
  obtain ⟨C, hC⟩ : ∃ C, C = B.take m ++ A.drop m := ⟨_, rfl⟩
  have HCS : Hid (Sec C) := by show Sec _; rw [hC]; exact torn_sec HAS.out HBS.out hm64
  have HCD : Hid (crashD ⟨[A], [(0, B)], 0, false, 0⟩ [f] = ⟨[C], [], 0, false, 1⟩) := by
    show _ = _
    rw [hC, hm]
    rfl
  have HC1 : Hid (C.take m = B.take m ∧ C.drop m = A.drop m) := by
    have hl : (B.take m).length = m := by rw [List.length_take, HBS.out.len]; omega
    refine ⟨?_, ?_⟩
    · rw [hC, List.take_append_of_le_length (by omega), List.take_of_length_le (by omega)]
    · rw [hC, List.drop_append_of_le_length (by omega), List.drop_of_length_le (by omega), List.nil_append]
  clear hm hC
  go_wp2_with fail
  rw [← HW7.out]
  refine (disk_Crash W7 w.heap.size g w.heap.size wv4 ⟨[A], [(0, B)], 0, false, 0⟩ (some ⟨w6.heap.size, 0, none⟩) 1 1 [f] HD7.out (fun w' hm => ⟨rfl, .inr ⟨_, 0, rfl, fun i hi => by
    obtain rfl : i = 0 := by omega
    exact (hm.keep HK7.out HNE.out.1 HNE.out.2 (by decide)).cell 0 rfl⟩⟩) (fun b off hb => by simp only [Option.some.injEq, Addr.mk.injEq] at hb; rw [← hb.1]; exact HNE.out.2) (by omega) (by simp)).mono ?_
  rw [HCD.out]
  rintro e w8 ⟨rfl, hd8, hm8⟩
  have HD8 : Hid (Disk w8 w.heap.size g w.heap.size (.slice none 0 0) ⟨[C], [], 0, false, 1⟩) := hd8.out
  have HB8 : Hid (Below w.heap.size w w8) := (HB6.out.trans (HB67.out.mono HB6.out.size)).trans hm8.low
  have HI8 : Hid (Blk w8 ki (vb B).toArray 58) := hm8.keep (HI6.out.stay HB67.out) HNI.out.1 HNI.out.2 (by decide)
  have HW8 : Hid (Blk w8 kw (vb A).toArray 58) := hm8.keep (HW6.out.stay HB67.out) HNW.out.1 HNW.out.2 (by decide)
  clear hd8 hm8 HI6 HW6 HD7 HD6 HK7 HB67
  go_wp2_with fail
  refine (disk_Read w8 w.heap.size g w.heap.size (.slice none 0 0) ⟨[C], [], 0, false, 1⟩ 0 HD8.out).mono ?_
  rw [show readE ⟨[C], [], 0, false, 1⟩ 0 = 0 from rfl, show nowB ⟨[C], [], 0, false, 1⟩ (0 : Int).toNat = C from rfl]
  rintro e w9 ⟨ht, hb9⟩
  rcases ht.out with ⟨h0, _⟩ | ⟨_, kc, rfl, hkc, hkcb, _⟩
  · exact absurd rfl h0
  have HC9 : Hid (Blk w9 kc (vb C).toArray 58) := hkcb
  have HI9 : Hid (Blk w9 ki (vb B).toArray 58) := HI8.out.stay hb9
  have HW9 : Hid (Blk w9 kw (vb A).toArray 58) := HW8.out.stay hb9
  have HB9 : Hid (Below w.heap.size w w9) := HB8.out.trans (hb9.mono HB8.out.size)
  clear ht hkc hkcb hb9 HI8 HW8 HD8 hgs
  go_wp2
  go_loopw [15] (fun t15 wr => ∃ (k : Nat), k ≤ m ∧ t15 = .int .i64 (k : Int) ∧ Hid (Below w9.heap.size w9 wr)) (fun t15 _ => m - (intOf t15).toNat)
  case atStart => exact ⟨0, by omega, rfl, Below.refl _ _⟩
  case round =>
    obtain ⟨k, hk, rfl, HBr⟩ := hrel
    have hk64 : k ≤ 64 := by omega
    have hki : (k : Int) ≤ 64 := by omega
    have hk0 : (0 : Int) ≤ (k : Int) := by omega
    obtain ⟨S1, HS1⟩ : ∃ S, Hid (S = str (C.take k)) := ⟨_, rfl⟩
    obtain ⟨S2, HS2⟩ : ∃ S, Hid (S = str (B.take k)) := ⟨_, rfl⟩
    obtain ⟨S3, HS3⟩ : ∃ S, Hid (S = str (C.drop k)) := ⟨_, rfl⟩
    obtain ⟨S4, HS4⟩ : ∃ S, Hid (S = str (A.drop k)) := ⟨_, rfl⟩
    have HBk : Hid (∀ w', Below wr.heap.size wr w' → Below w.heap.size w w') := fun w' hb => HB9.out.trans ((HBr.out.trans (hb.mono HBr.out.size)).mono HB9.out.size)
    have x1 : ∀ n, (convert 29 9 (.slice (some ⟨kc, 0, none⟩) k 64)).run Try.prog (wr.drewN n) = .ok (.string S1) (wr.drewN n) := fun n => by rw [conv_rd (rd_cut ((HC9.out.stay HBr.out).stay (below_drews (Below.refl _ _) n)) HCS.out k hk64) 64, HS1.out]
    have x2 : ∀ n, (convert 29 9 (.slice (some ⟨ki, 0, none⟩) k 64)).run Try.prog (wr.drewN n) = .ok (.string S2) (wr.drewN n) := fun n => by rw [conv_rd (rd_cut ((HI9.out.stay HBr.out).stay (below_drews (Below.refl _ _) n)) HBS.out k hk64) 64, HS2.out]
    have x3 : ∀ n b, (k < 64 → b = k) → (convert 29 9 (.slice (some ⟨kc, b, none⟩) (64 - k) (64 - k))).run Try.prog (wr.drewN n) = .ok (.string S3) (wr.drewN n) := fun n b hb => by rw [conv_rd (rd_rest ((HC9.out.stay HBr.out).stay (below_drews (Below.refl _ _) n)) HCS.out k hk64 b hb) (64 - k), HS3.out]
    have x4 : ∀ n b, (k < 64 → b = k) → (convert 29 9 (.slice (some ⟨kw, b, none⟩) (64 - k) (64 - k))).run Try.prog (wr.drewN n) = .ok (.string S4) (wr.drewN n) := fun n b hb => by rw [conv_rd (rd_rest ((HW9.out.stay HBr.out).stay (below_drews (Below.refl _ _) n)) HAS.out k hk64 b hb) (64 - k), HS4.out]
    have HM12 : Hid (k = m → S1.toList = S2.toList) := fun e => by rw [HS1.out, HS2.out, e, HC1.out.1]
    have HM34 : Hid (k = m → S3.toList = S4.toList) := fun e => by rw [HS3.out, HS4.out, e, HC1.out.2]
    by_cases hk6 : k = 64
    · have h12 : S1.toList = S2.toList := HM12.out (by omega)
      have h34 : S3.toList = S4.toList := HM34.out (by omega)
      have d12 : (S1.toList == S2.toList) = true := beq_iff_eq.2 h12
      have d34 : (S3.toList == S4.toList) = true := beq_iff_eq.2 h34
      subst hk6
      have y3 : ∀ n b, (convert 29 9 (.slice (some ⟨kc, b, none⟩) 0 0)).run Try.prog (wr.drewN n) = .ok (.string S3) (wr.drewN n) := fun n b => x3 n b (fun h => by omega)
      have y4 : ∀ n b, (convert 29 9 (.slice (some ⟨kw, b, none⟩) 0 0)).run Try.prog (wr.drewN n) = .ok (.string S4) (wr.drewN n) := fun n b => x4 n b (fun h => by omega)
      go_wp2
      go_quiet (fail)
      clear y3 y4
      generalize hnq : wr.drewN _ = w10
      have HB10 : Hid (Below w.heap.size w w10) := HBk.out _ (by rw [← hnq]; exact below_drews (Below.refl _ _) _)
      clear hnq x1 x2 x3 x4
      go_wp2_with fail
      refine (law_live w10).mono ?_
      rintro e w11 ⟨rfl, hb11⟩
      have HB11 : Hid (Below w.heap.size w w11) := HB10.out.trans (hb11.mono HB10.out.size)
      clear hb11
      go_wp2
      go_ret
      exact ⟨rfl, HB11.out⟩
    · have hk6' : ¬ (k : Int) = 64 := by omega
      have hk6'' : (k : Int) < 64 := by omega
      have y3 : ∀ n, (convert 29 9 (.slice (some ⟨kc, k, none⟩) (64 - k) (64 - k))).run Try.prog (wr.drewN n) = .ok (.string S3) (wr.drewN n) := fun n => x3 n k (fun _ => rfl)
      have y4 : ∀ n, (convert 29 9 (.slice (some ⟨kw, k, none⟩) (64 - k) (64 - k))).run Try.prog (wr.drewN n) = .ok (.string S4) (wr.drewN n) := fun n => x4 n k (fun _ => rfl)
      by_cases h12 : S1.toList = S2.toList
      · have d12 : (S1.toList == S2.toList) = true := beq_iff_eq.2 h12
        by_cases h34 : S3.toList = S4.toList
        · have d34 : (S3.toList == S4.toList) = true := beq_iff_eq.2 h34
          go_wp2
          go_quiet (fail)
          clear y3 y4
          generalize hnq : wr.drewN _ = w10
          have HB10 : Hid (Below w.heap.size w w10) := HBk.out _ (by rw [← hnq]; exact below_drews (Below.refl _ _) _)
          clear hnq x1 x2 x3 x4
          go_wp2_with fail
          refine (law_live w10).mono ?_
          rintro e w11 ⟨rfl, hb11⟩
          have HB11 : Hid (Below w.heap.size w w11) := HB10.out.trans (hb11.mono HB10.out.size)
          clear hb11
          go_wp2
          go_ret
          exact ⟨rfl, HB11.out⟩
        · have d34 : (S3.toList == S4.toList) = false := beq_eq_false_iff_ne.2 h34
          have hkm : k < m := by
            rcases Nat.lt_or_ge k m with h | h
            · exact h
            · exact absurd (HM34.out (by omega)) h34
          go_wp2
          go_quiet (fail)
          clear y3 y4
          generalize hnq : wr.drewN _ = w10
          have HBr2 : Hid (Below w9.heap.size w9 w10) := HBr.out.trans (by rw [← hnq]; exact (below_drews (Below.refl _ _) _).mono HBr.out.size)
          clear hnq x1 x2 x3 x4
          go_wp2
          go_roundw
          case rel => exact ⟨k + 1, by omega, by go_num, HBr2⟩
          case measure => simp [intOf]; omega
      · have d12 : (S1.toList == S2.toList) = false := beq_eq_false_iff_ne.2 h12
        have hkm : k < m := by
          rcases Nat.lt_or_ge k m with h | h
          · exact h
          · exact absurd (HM12.out (by omega)) h12
        go_wp2
        go_quiet (fail)
        clear y3 y4
        generalize hnq : wr.drewN _ = w10
        have HBr2 : Hid (Below w9.heap.size w9 w10) := HBr.out.trans (by rw [← hnq]; exact (below_drews (Below.refl _ _) _).mono HBr.out.size)
        clear hnq x1 x2 x3 x4
        go_wp2
        go_roundw
        case rel => exact ⟨k + 1, by omega, by go_num, HBr2⟩
        case measure => simp [intOf]; omega

theorem contract (H : Type) (enc : TypeId × Value → H) (W : World) (base : Nat) (args : Array Value) (ds gs : List (DataW H)) (before : List MemPlace)
    (hval : ∀ (j : Nat) t v, Try.f4.params[j]? = some t → args[j]? = some v → Value.okWide Try.prog W .any base t v)
    (hW : DataW.Whole enc Try.prog Try.f4.params.toList Rows.sectorTornSpec.vars false W args.toList ds gs before) (hsz0 : (DataW.weightsEach Try.prog (Try.f4.params.toList ++ Rows.sectorTornSpec.plain.varTypes Try.prog) (ds ++ gs)).all (· ≤ reachBytes) = true) :
    Calls Try.prog 4 args W fun e W' => ∃ v, e = .returned v ∧ Rows.sectorTornSpec.post enc Try.prog Try.f4 false true false false W args v W' := by
  have hW' := hW
  obtain ⟨p, q, hA0, hV, rfl, hfz, hnd⟩ := hW
  have hA : DataW.TrodAll enc Try.prog W 0 (fun _ => true) true Try.f4.params.toList args.toList ds p := hA0
  have hK := hA
  have hsz := hsz0
  rw [Try.params4] at hA hval hsz
  obtain ⟨v0, vs0, d0, ds0, p0, q0, hargs, rfl, rfl, h0, r0⟩ := trodAll_cons hA
  obtain ⟨v1, vs1, d1, ds1, p1, q1, rfl, rfl, rfl, h1, r1⟩ := trodAll_cons r0
  obtain ⟨v2, vs2, d2, ds2, p2, q2, rfl, rfl, rfl, h2, r2⟩ := trodAll_cons r1
  obtain ⟨rfl, rfl, rfl⟩ := trodAll_nil r2
  obtain rfl : args = #[v0, v1, v2] := by cases args; simp_all
  obtain ⟨rfl, rfl⟩ := trodVars_none hV
  obtain ⟨a0, len0, cap0, rfl⟩ := okWide_slice Try.underlying29 (hval 0 29 v0 rfl rfl)
  obtain ⟨bs0, rd0, lc0, cm0, bk0, nc0, fm0⟩ := rd_of h0
  have sz0 := reach_of hsz (j := 0) fm0 rfl rfl
  obtain ⟨a1, len1, cap1, rfl⟩ := okWide_slice Try.underlying29 (hval 1 29 v1 rfl rfl)
  obtain ⟨bs1, rd1, lc1, cm1, bk1, nc1, fm1⟩ := rd_of h1
  have sz1 := reach_of hsz (j := 1) fm1 rfl rfl
  obtain ⟨x2, rfl, rfl, rfl, w2⟩ := open_int Try.underlying3 (hval 2 3 v2 rfl rfl) h2
  have b2 : (-9223372036854775808 : Int) ≤ x2 ∧ x2 ≤ 9223372036854775807 := by simpa [Lit.wf, IntKind.min, IntKind.max, IntKind.signed, IntKind.bits] using w2
  refine (walk a0 len0 cap0 bs0 a1 len1 cap1 bs1 x2 W rd0 rd1 (by omega) (by omega)).mono fun e W' ⟨he, bel⟩ => ?_
  subst he
  exact ⟨_, rfl, _, _, _, [], _, [], hW', trodAll_mk1 (shut_bool Try.underlying4 _), trodAll_below laidOut bel _ _ _ _ (by kernel_rfl) hK, rfl, bel.frame _, fun h => by cases h⟩

set_option maxRecDepth 100000 in
theorem lifted (os : Os) (started : os.Started) (H : Type) (enc : TypeId × Value → H) :
    ReturnsInHanded {} Try.checked os 4 .any (Rows.sectorTornSpec.pre6 enc Try.prog Try.f4 Rows.sectorTornRow.domain false) (Rows.sectorTornSpec.post enc Try.prog Try.f4 false true false false) := by
  refine returnsInHanded_of_change_sized (C := Try.checked) own started (by kernel_rfl) Try.func4
    (ChangeSpec.witness6 (enc := enc) (C := Try.checked) false ⟨#[], #[.slice none 0 0, .slice none 0 0, .int .i64 0], []⟩ 8 (by kernel_rfl) (by kernel_rfl) (by kernel_rfl) (by kernel_rfl)) ?_
  intro W base args ds gs before hval hW _ hsz _
  exact contract H enc W base args ds gs before hval hW hsz

theorem said : Rows.SectorTornSaid :=
  OpenClaim.holds_of_wide 4 Try.f4 rfl rfl rfl rfl rfl rfl rfl ⟨rfl, rfl, rfl, rfl, rfl⟩ rfl rfl rfl rfl rfl (by kernel_rfl) Try.func4 (by kernel_rfl)
    (of_decide_eq_true (by kernel_rfl)) (by unfold Func.isWrapper; first | (rw [if_pos (by decide +kernel)]; kernel_rfl) | (rw [if_neg (by decide +kernel)]; exact ⟨rfl, rfl⟩))
    (fun os started H enc _ => lifted os started H enc)
end sectorTorn

theorem sectorTorn_holds : Rows.SectorTornSaid := sectorTorn.said
end Go.Proofs.Ytfkephohdfmnlaa

