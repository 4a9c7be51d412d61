/- seal.Open, behind a head that is one: the sum is another one, or the seal is right. -/
import Derived.Test.YtoijhlnadaipoaaDoorSealTake
namespace Go.Proofs.YtoijhlnadaipoaaDoor
open Go.RowKit

theorem Own.far {w : World} {base g len cap : Nat} {bs : List Nat} (h : Own w base (some ⟨g, 0, none⟩) len cap bs) (p : Addr) (v : Value) (hp : p.block ≠ g) : Own (w.setCell p v) base (some ⟨g, 0, none⟩) len cap bs := by
  refine ⟨⟨h.row.1, ?_⟩, h.byte⟩
  rcases h.row.2 with hn | ⟨g', c, cur, hv, hbg, hg, r⟩
  · exact .inl hn
  · have e : g' = g := by
      simp only [Value.slice.injEq, Option.some.injEq, Addr.mk.injEq] at hv
      exact hv.1.1.symm
    subst e
    exact .inr ⟨g', c, cur, hv, hbg, by rw [Below.heap_setCell _ _ _ _ (Ne.symm hp)]; exact hg, r⟩

theorem told_ok {x y : Int} {s : Value} (h : x = y) : Ending.returned (.tuple #[s, .int .i64 x, .int .i64 0]) = .returned (.tuple #[s, .int .i64 y, .int .i64 0]) := by rw [h]

set_option maxRecDepth 100000 in
set_option maxHeartbeats 1000000 in
/-- Another sum stands there. -/
theorem seal_Open_sum (b off p m c : Nat) (bs : List Nat) (w : World) (hr : Rd w (some ⟨b, off, none⟩) (p + m) bs) (hmc : m ≤ c) (hl : p + m ≤ 9223372036854775000) (ht : Tab w) (h0 : 0 < w.heap.size)
    (hB : SealM.bend (bs.drop p) = (4 + SealM.blen (bs.drop p), 0)) (hne : SealM.opn (bs.drop p) = 5) :
    Calls Tryd.prog 41 #[.slice (some ⟨b, off, none⟩) (p + m) (p + c), .int .i64 (p : Int)] w fun e w' => e = toldBad 5 ∧ Below w.heap.size w w' := by
  have HT : Hid (Tab w) := ht
  clear ht
  have hs := hr.size
  obtain ⟨q, hq⟩ : ∃ q, q = SealM.blen (bs.drop p) := ⟨_, rfl⟩
  rw [← hq] at hB
  obtain ⟨e1, e2, e3, hq2, hq3⟩ := SealM.bend_ok hB
  clear e1 e2 e3
  rw [← hq, List.length_drop, hs] at hq3
  rw [← hq] at hq2
  have HF : Hid (SealM.bend (bs.drop p) = (4 + q, 0)) := hB
  have HR : Hid (Rd w (some ⟨b, off, none⟩) (p + m) bs) := hr
  have HRT : Hid (Rd w (some ⟨b, off + p, none⟩) m (bs.drop p)) := by
    have := hr.tail p m (Nat.le_refl _)
    rw [List.take_of_length_le (by rw [List.length_drop]; omega)] at this
    exact this
  have HR1 : Hid (Rd w (some ⟨b, off + p + 1, none⟩) (3 + q) (((bs.drop p).drop 1).take (3 + q))) := by
    have := hr.tail (p + 1) (3 + q) (by omega)
    rw [← List.drop_drop, ← Nat.add_assoc] at this
    exact this
  have HR2 : Hid (Rd w (some ⟨b, off + p + (4 + q), none⟩) (m - (4 + q)) ((bs.drop p).drop (4 + q))) := by
    have := hr.tail (p + (4 + q)) (m - (4 + q)) (by omega)
    rw [← List.drop_drop, ← Nat.add_assoc off, List.take_of_length_le (by rw [List.length_drop, List.length_drop]; omega)] at this
    exact this
  have hm8 : q + 8 ≤ m := by omega
  clear hq3
  have g1 : (0 : Int) ≤ (p : Int) := by omega
  have g3 : (p : Int) ≤ (p : Int) + (c : Int) := by omega
  have g4 : (p : Int) ≤ (p : Int) + (m : Int) := by omega
  have g5 : ¬ p + c = p := by omega
  have g6 : (0 : Int) ≤ 4 + (q : Int) := by omega
  have g7 : 4 + (q : Int) ≤ (m : Int) := by omega
  have g8 : 4 + (q : Int) ≤ (c : Int) := by omega
  have g9 : (1 : Int) ≤ 4 + (q : Int) := by omega
  have g10 : (1 : Int) ≤ max (4 + (q : Int)) 0 := by omega
  have g11 : (4 + (q : Int)).toNat = 4 + q := by omega
  have g12 : ¬ c = 4 + q := by omega
  have g13 : ¬ c = 1 := by omega
  obtain ⟨s, HS⟩ : ∃ s, Hid (s = SealM.le32 ((bs.drop p).drop (4 + q))) := ⟨_, rfl⟩
  obtain ⟨u, HU⟩ : ∃ u, Hid (u = Crc.more 0 (((bs.drop p).drop 1).take (3 + q))) := ⟨_, rfl⟩
  have hsu : ((s : Int) != (u : Int)) = true := by
    rw [SealM.opn_of hB, show 4 + q - 1 = 3 + q from by omega, ← HS.out, ← HU.out] at hne
    rw [bne_iff_ne]
    intro h
    have : s = u := by omega
    rw [if_pos this] at hne
    omega
  clear hne
  clear hr hs hB hq
  go_enter Tryd.func41, Tryd.ntmps41
  go_wp2_with fail
  refine (seal_bodyEnd (some ⟨b, off + p, none⟩) m c (bs.drop p) _ (HRT.out.below (below_alloc w _)) (by omega)).mono ?_
  rw [HF.out, show toldE (4 + q, 0) = .returned (.tuple #[.int .i64 (4 + (q : Int)), .int .i64 0]) from rfl]
  rintro e w1 ⟨rfl, hb1⟩
  have k0 : w1.cell? ⟨w.heap.size, 0, none⟩ = some (.int .u8 0) := (hb1.cell (p := ⟨w.heap.size, 0, none⟩) (by simp)).trans (by simp)
  have k1 : w1.cell? ⟨w.heap.size, 1, none⟩ = some (.int .i64 0) := (hb1.cell (p := ⟨w.heap.size, 1, none⟩) (by simp)).trans (by simp)
  have k2 : w1.cell? ⟨w.heap.size, 2, none⟩ = some (.slice none 0 0) := (hb1.cell (p := ⟨w.heap.size, 2, none⟩) (by simp)).trans (by simp)
  have f0 : w1.frozen? ⟨w.heap.size, 0, none⟩ = false := (hb1.frozen (p := ⟨w.heap.size, 0, none⟩) (by simp)).trans (by simp)
  have f1 : w1.frozen? ⟨w.heap.size, 1, none⟩ = false := (hb1.frozen (p := ⟨w.heap.size, 1, none⟩) (by simp)).trans (by simp)
  have f2 : w1.frozen? ⟨w.heap.size, 2, none⟩ = false := (hb1.frozen (p := ⟨w.heap.size, 2, none⟩) (by simp)).trans (by simp)
  have HB : Hid (Below w.heap.size w w1) := (below_alloc w _).trans (hb1.mono (by simp))
  have HBA : Hid (Below (w.heap.size + 1) (w.alloc (.cells #[.int .u8 0, .int .i64 0, .slice none 0 0] 103)) w1) := by simpa [Hid] using hb1
  clear hb1
  go_wp2
  go_region_held3 (fun _ => True) (trivial)
    (first
      | (go_at_call 59; refine (seal_takeSum (some ⟨b, off + p + (4 + q), none⟩) (m - (4 + q)) (c - (4 + q)) _ _ (HR2.out.below HB.out.drew) (by omega)).mono ?_; rw [← HS.out]; rintro e w2 ⟨rfl, hw2⟩; subst hw2)
      | (go_at_call 57; refine (seal_Sum (some ⟨b, off + p + 1, none⟩) (3 + q) (c - 1) _ _ (HR1.out.below HB.out.drew) (by omega) (HT.out.below h0 HB.out.drew)).mono ?_; rw [← HU.out]; rintro e w3 ⟨rfl, hw3⟩; subst hw3))
  all_goals have HK := cells3 (.int .u8 0) (.int .i64 0) (.slice none 0 0) k0 k1 k2
  all_goals go_wp2
  all_goals (try simp only [Exit.inBlock, Exit.then])
  all_goals refine bodyPost_ret (results_open (by rfl) (by rfl) (by rfl) HK) rfl ?_
  all_goals exact ⟨rfl, (((HB.out.setCell (Nat.le_refl _) _).setCell (Nat.le_refl _) _).setCell (Nat.le_refl _) _).drew⟩

set_option maxRecDepth 100000 in
set_option maxHeartbeats 2000000 in
/-- A right seal. -/
theorem seal_Open_ok (b off p m c : Nat) (bs : List Nat) (w : World) (hr : Rd w (some ⟨b, off, none⟩) (p + m) bs) (hmc : m ≤ c) (hl : p + m ≤ 9223372036854775000) (ht : Tab w) (h0 : 0 < w.heap.size)
    (hB : SealM.bend (bs.drop p) = (4 + SealM.blen (bs.drop p), 0)) (hok : SealM.opn (bs.drop p) = 0) (k q : Nat) (hk : (bs.drop p).getD 1 0 = k) (hq0 : SealM.blen (bs.drop p) = q) :
    Calls Tryd.prog 41 #[.slice (some ⟨b, off, none⟩) (p + m) (p + c), .int .i64 (p : Int)] w fun e w' => ∃ g, e = .returned (.tuple #[.agg #[.int .u8 (k : Int), .int .i64 (p : Int), .slice (some ⟨g, 0, none⟩) q q], .int .i64 ((p + q + 8 : Nat) : Int), .int .i64 0]) ∧ Own w' w.heap.size (some ⟨g, 0, none⟩) q q (((bs.drop p).drop 4).take q) ∧ Below w.heap.size w w' := by
  have HT : Hid (Tab w) := ht
  clear ht
  have hs := hr.size
  have hq : q = SealM.blen (bs.drop p) := hq0.symm
  rw [← hq] at hB
  obtain ⟨e1, e2, e3, hq2, hq3⟩ := SealM.bend_ok hB
  clear e1 e2 e3
  rw [← hq, List.length_drop, hs] at hq3
  rw [← hq] at hq2
  have HF : Hid (SealM.bend (bs.drop p) = (4 + q, 0)) := hB
  have HR : Hid (Rd w (some ⟨b, off, none⟩) (p + m) bs) := hr
  have HRT : Hid (Rd w (some ⟨b, off + p, none⟩) m (bs.drop p)) := by
    have := hr.tail p m (Nat.le_refl _)
    rw [List.take_of_length_le (by rw [List.length_drop]; omega)] at this
    exact this
  have HR1 : Hid (Rd w (some ⟨b, off + p + 1, none⟩) (3 + q) (((bs.drop p).drop 1).take (3 + q))) := by
    have := hr.tail (p + 1) (3 + q) (by omega)
    rw [← List.drop_drop, ← Nat.add_assoc] at this
    exact this
  have HR2 : Hid (Rd w (some ⟨b, off + p + (4 + q), none⟩) (m - (4 + q)) ((bs.drop p).drop (4 + q))) := by
    have := hr.tail (p + (4 + q)) (m - (4 + q)) (by omega)
    rw [← List.drop_drop, ← Nat.add_assoc off, List.take_of_length_le (by rw [List.length_drop, List.length_drop]; omega)] at this
    exact this
  have hm8 : q + 8 ≤ m := by omega
  clear hq3
  have g1 : (0 : Int) ≤ (p : Int) := by omega
  have g3 : (p : Int) ≤ (p : Int) + (c : Int) := by omega
  have g4 : (p : Int) ≤ (p : Int) + (m : Int) := by omega
  have g5 : ¬ p + c = p := by omega
  have g6 : (0 : Int) ≤ 4 + (q : Int) := by omega
  have g7 : 4 + (q : Int) ≤ (m : Int) := by omega
  have g8 : 4 + (q : Int) ≤ (c : Int) := by omega
  have g9 : (1 : Int) ≤ 4 + (q : Int) := by omega
  have g10 : (1 : Int) ≤ max (4 + (q : Int)) 0 := by omega
  have g11 : (4 + (q : Int)).toNat = 4 + q := by omega
  have g12 : ¬ c = 4 + q := by omega
  have g13 : ¬ c = 1 := by omega
  obtain ⟨s, HS⟩ : ∃ s, Hid (s = SealM.le32 ((bs.drop p).drop (4 + q))) := ⟨_, rfl⟩
  obtain ⟨u, HU⟩ : ∃ u, Hid (u = Crc.more 0 (((bs.drop p).drop 1).take (3 + q))) := ⟨_, rfl⟩
  have hsu : ((s : Int) != (u : Int)) = false := by
    rw [SealM.opn_of hB, show 4 + q - 1 = 3 + q from by omega, ← HS.out, ← HU.out] at hok
    have : s = u := by
      by_cases h : s = u
      · exact h
      · rw [if_neg h] at hok; omega
    rw [this]
    simp
  have HR4 : Hid (Rd w (some ⟨b, off + p + 4, none⟩) q (((bs.drop p).drop 4).take q)) := by
    have := hr.tail (p + 4) q (by omega)
    rw [← List.drop_drop, ← Nat.add_assoc] at this
    exact this
  have kc : w.cell? ⟨b, off + p + 1, none⟩ = some (.int .u8 (k : Int)) := by
    rcases HRT.out.cells with h1 | ⟨b', off', hb, _, hc⟩
    · omega
    · simp only [Option.some.injEq, Addr.mk.injEq] at hb
      obtain ⟨rfl, rfl, _⟩ := hb
      rw [hc 1 (by omega), hk]
  have hbw : b < w.heap.size := World.block_lt_of_cell? w _ kc
  obtain ⟨i0, hi, hz0, hz1, hz2⟩ := info_parts infoByte
  clear hok hk hq0
  clear hr hs hB hq
  go_enter Tryd.func41, Tryd.ntmps41
  go_wp2_with fail
  refine (seal_bodyEnd (some ⟨b, off + p, none⟩) m c (bs.drop p) _ (HRT.out.below (below_alloc w _)) (by omega)).mono ?_
  rw [HF.out, show toldE (4 + q, 0) = .returned (.tuple #[.int .i64 (4 + (q : Int)), .int .i64 0]) from rfl]
  rintro e w1 ⟨rfl, hb1⟩
  have k0 : w1.cell? ⟨w.heap.size, 0, none⟩ = some (.int .u8 0) := (hb1.cell (p := ⟨w.heap.size, 0, none⟩) (by simp)).trans (by simp)
  have k1 : w1.cell? ⟨w.heap.size, 1, none⟩ = some (.int .i64 0) := (hb1.cell (p := ⟨w.heap.size, 1, none⟩) (by simp)).trans (by simp)
  have k2 : w1.cell? ⟨w.heap.size, 2, none⟩ = some (.slice none 0 0) := (hb1.cell (p := ⟨w.heap.size, 2, none⟩) (by simp)).trans (by simp)
  have f0 : w1.frozen? ⟨w.heap.size, 0, none⟩ = false := (hb1.frozen (p := ⟨w.heap.size, 0, none⟩) (by simp)).trans (by simp)
  have f1 : w1.frozen? ⟨w.heap.size, 1, none⟩ = false := (hb1.frozen (p := ⟨w.heap.size, 1, none⟩) (by simp)).trans (by simp)
  have f2 : w1.frozen? ⟨w.heap.size, 2, none⟩ = false := (hb1.frozen (p := ⟨w.heap.size, 2, none⟩) (by simp)).trans (by simp)
  have HB : Hid (Below w.heap.size w w1) := (below_alloc w _).trans (hb1.mono (by simp))
  have HBA : Hid (Below (w.heap.size + 1) (w.alloc (.cells #[.int .u8 0, .int .i64 0, .slice none 0 0] 103)) w1) := by simpa [Hid] using hb1
  clear hb1
  go_wp2
  go_region_held3 (fun _ => True) (trivial)
    (first
      | (go_at_call 59; refine (seal_takeSum (some ⟨b, off + p + (4 + q), none⟩) (m - (4 + q)) (c - (4 + q)) _ _ (HR2.out.below HB.out.drew) (by omega)).mono ?_; rw [← HS.out]; rintro e w2 ⟨rfl, hw2⟩; subst hw2)
      | (go_at_call 57; refine (seal_Sum (some ⟨b, off + p + 1, none⟩) (3 + q) (c - 1) _ _ (HR1.out.below HB.out.drew) (by omega) (HT.out.below h0 HB.out.drew)).mono ?_; rw [← HU.out]; rintro e w3 ⟨rfl, hw3⟩; subst hw3))
  have hsz1 : w.heap.size + 1 ≤ w1.heap.size := by have := HBA.out.size; simpa using this
  obtain ⟨g, hg⟩ : ∃ g, g = w1.heap.size := ⟨_, rfl⟩
  have HG : Hid (g = w1.heap.size) := hg
  have HGD : Hid (w1.drew.heap.size = g) := hg.symm
  have hbg : w.heap.size + 1 ≤ g := by omega
  clear hg
  have eq4 : 4 + (q : Int) - 4 = (q : Int) := by omega
  go_wp2_with (at_make; refine wpList_make_full _ (by rfl) (.tmp 43) (.tmp 43) 42 (by rfl) (w.heap.size + 1) 5 i0 (.int .u8 0) 1 Tryd.underlying42 hi hz0 hz1 .i64 .i64 (q : Int) (q : Int) q (by rfl) (by rfl) rfl rfl (by rw [hz2]; omega) (by unfold maxLen; omega) (by rw [HGD.out]; exact hbg) ?_)
  rw [← HG.out]
  intro w2 hown2 hgrow2
  rw [made_byte] at hown2
  have HO2 : Hid (Own w2 (w.heap.size + 1) (some ⟨g, 0, none⟩) q q (List.replicate q 0)) := ⟨hown2, fun x hx => by rw [List.eq_of_mem_replicate hx]; omega⟩
  have HB2 : Hid (Below (w.heap.size + 1) w1 w2) := (Below.refl _ _).drew.grown hgrow2 (by rw [HGD.out]; exact hbg) (fun k hk => by cases hk)
  clear hown2 hgrow2
  obtain ⟨B, HBD⟩ : ∃ B, Hid (B = ((bs.drop p).drop 4).take q) := ⟨_, rfl⟩
  rw [← HBD.out] at HR4
  have HBL : Hid (B.length = q) := HR4.out.size
  have HB02 : Hid (Below w.heap.size w w2) := HB.out.trans (HB2.out.mono (by omega))
  have g20 : (4 : Int) ≤ 4 + (q : Int) := by omega
  have g21 : ¬ c = 4 := by omega
  have g22 : (4 : Int) ≤ max (4 + (q : Int)) 0 := by omega
  go_wp2_with (guard_target =~ wpList _ _ _ (Oper.mk (some 49) _ _ _ _ _ :: _) _ _; (refine wpList_copy_splice (by rfl) (.tmp 45) (.tmp 48) 42 42 (by rfl) 5 Tryd.underlying42 infoByteSize (some ⟨g, 0, none⟩) (some ⟨b, off + p + 4, none⟩) q q q (c - 4) (by rfl) (by rfl) g 0 (vb (List.replicate q 0)) 5 HO2.out.full (vb B) (by rw [vb_length, HBL.out]; exact (Nat.min_self q).symm) (fun hp => ⟨rfl, (HR4.out.below HB02.out).copies hp⟩) (by rw [vb_length, vb_length, HBL.out, List.length_replicate]; omega) (vb_one B) (w.heap.size + 1) w1 HB2.out hbg ?_))
  intro w3 hg3 hb3
  have HO3 : Hid (Own w3 w.heap.size (some ⟨g, 0, none⟩) q q B) := by
    have h := hg3.out
    rw [vb_splice, List.take_zero, List.nil_append, HBL.out, Nat.zero_add, List.drop_of_length_le (by simp), List.append_nil] at h
    exact Own.of_full h HR4.out.byte (by omega) (by rw [HBL.out]; unfold maxLen; omega) q HBL.out
  have HB3 : Hid (Below w.heap.size w w3) := HB.out.trans (hb3.mono (by omega))
  have l0 : w3.cell? ⟨w.heap.size, 0, none⟩ = some (.int .u8 0) := (hb3.cell (p := ⟨w.heap.size, 0, none⟩) (by simp)).trans k0
  have l1 : w3.cell? ⟨w.heap.size, 1, none⟩ = some (.int .i64 0) := (hb3.cell (p := ⟨w.heap.size, 1, none⟩) (by simp)).trans k1
  have l2 : w3.cell? ⟨w.heap.size, 2, none⟩ = some (.slice none 0 0) := (hb3.cell (p := ⟨w.heap.size, 2, none⟩) (by simp)).trans k2
  have m0 : w3.frozen? ⟨w.heap.size, 0, none⟩ = false := (hb3.frozen (p := ⟨w.heap.size, 0, none⟩) (by simp)).trans f0
  have m1 : w3.frozen? ⟨w.heap.size, 1, none⟩ = false := (hb3.frozen (p := ⟨w.heap.size, 1, none⟩) (by simp)).trans f1
  have m2 : w3.frozen? ⟨w.heap.size, 2, none⟩ = false := (hb3.frozen (p := ⟨w.heap.size, 2, none⟩) (by simp)).trans f2
  have kw3 : w3.cell? ⟨b, off + p + 1, none⟩ = some (.int .u8 (k : Int)) := (HB3.out.cell (p := ⟨b, off + p + 1, none⟩) hbw).trans kc
  have HK := cells3 (.int .u8 (k : Int)) (.int .i64 (p : Int)) (.slice (some ⟨g, 0, none⟩) q q) l0 l1 l2
  have HKK : Hid _ := HK
  clear hg3 hb3 k0 k1 k2 f0 f1 f2 HO2 HB2 HB02 HK
  go_wp2
  try simp only [Exit.inBlock, Exit.then]
  refine bodyPost_ret (results_open (by rfl) (by rfl) (by rfl) HKK.out) rfl ?_
  refine ⟨g, told_ok (by omega), ?_, ((HB3.out.setCell (Nat.le_refl _) _).setCell (Nat.le_refl _) _).setCell (Nat.le_refl _) _⟩
  have h := HO3.out
  rw [HBD.out] at h
  have hne : w.heap.size ≠ g := by omega
  exact ((h.far ⟨w.heap.size, 0, none⟩ _ hne).far ⟨w.heap.size, 1, none⟩ _ hne).far ⟨w.heap.size, 2, none⟩ _ hne
end Go.Proofs.YtoijhlnadaipoaaDoor
