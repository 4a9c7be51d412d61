/- The reference's Open: a right seal. -/
import Derived.Test.YtbhljlafijdodaaDoorSealRefOk
namespace Go.Proofs.YtbhljlafijdodaaDoor
open Go.RowKit

theorem Own.under {w : World} {base : Nat} {a : Option Addr} {len cap : Nat} {bs : List Nat} (h : Own w base a len cap bs) (p : Addr) (v : Value) (hp : p.block < base) : Own (w.setCell p v) base a len cap bs := by
  refine ⟨⟨h.row.1, ?_⟩, h.byte⟩
  rcases h.row.2 with hn | ⟨g', c, cur, hv, hbg, hg, r⟩
  · exact .inl hn
  · exact .inr ⟨g', c, cur, hv, hbg, by rw [Below.heap_setCell _ _ _ _ (by omega)]; exact hg, r⟩

set_option maxRecDepth 100000 in
set_option maxHeartbeats 4000000 in
theorem ref_Open_ok (b off p m c : Nat) (bs : List Nat) (w : World) (hr : Rd w (some ⟨b, off, none⟩) (p + m) bs) (hm : 0 < m) (hmc : m ≤ c) (hl : p + m ≤ 9223372036854775000) (q : Nat) (hq : q = SealM.blen (bs.drop p))
    (hB : SealM.bend (bs.drop p) = (4 + SealM.blen (bs.drop p), 0)) (hok : SealM.opn (bs.drop p) = 0) (k : Nat) (hk : (bs.drop p).getD 1 0 = k) :
    Calls Tryd.prog 13 #[.slice (some ⟨b, off, none⟩) (p + m) (p + c), .int .i64 (p : Int)] w fun e w' => ∃ a' cap', e = .returned (.tuple #[.agg #[.int .u8 (k : Int), .int .i64 (p : Int), .slice a' q cap'], .int .i64 ((p + q + 8 : Nat) : Int), .int .i64 0]) ∧ Own w' w.heap.size a' q cap' (((bs.drop p).drop 4).take q) ∧ Below w.heap.size w w' := by
  have HR : Hid (Rd w (some ⟨b, off, none⟩) (p + m) bs) := hr
  have hs := hr.size
  obtain ⟨hlt, hc⟩ : b < w.heap.size ∧ ∀ i, i < m → w.cell? ⟨b, off + (p + i), none⟩ = some (.int .u8 (((bs.drop p).getD i 0 : Nat) : Int)) := by
    rcases hr.cells with h1 | ⟨b', off', hb, hlt, hc⟩
    · omega
    · simp only [Option.some.injEq, Addr.mk.injEq] at hb
      obtain ⟨rfl, rfl, _⟩ := hb
      refine ⟨hlt, fun i hi => ?_⟩
      rw [hc (p + i) (by omega)]
      simp only [List.getD_eq_getElem?_getD, List.getElem?_drop]
  have hbl : ∀ i, (bs.drop p).getD i 0 < 256 := getD_lt (fun x hx => hr.byte x (List.mem_of_mem_drop hx))
  have g1 : ¬ (p : Int) < 0 := by omega
  have g2 : ¬ (p : Int) + (m : Int) < (p : Int) := by omega
  have g3 : ((p : Int) == (p : Int) + (m : Int)) = false := by rw [beq_eq_false_iff_ne]; omega
  have g4 : (p : Int) < (p : Int) + (m : Int) := by omega
  obtain ⟨e1, e2, e3, hq2, hq3⟩ := SealM.bend_ok hB
  rw [← hq] at hq2 hq3
  rw [List.length_drop, hs] at hq3
  have hm8 : q + 8 ≤ m := by omega
  obtain ⟨c0, H0⟩ : ∃ c, Hid (c = (bs.drop p).getD 0 0) := ⟨_, rfl⟩
  obtain ⟨c2, H2⟩ : ∃ c, Hid (c = (bs.drop p).getD 2 0) := ⟨_, rfl⟩
  obtain ⟨c3, H3⟩ : ∃ c, Hid (c = (bs.drop p).getD 3 0) := ⟨_, rfl⟩
  have k0 := hc 0 (by omega)
  have k2 := hc 2 (by omega)
  have k3 := hc 3 (by omega)
  have b2 := hbl 2
  have b3 := hbl 3
  rw [← H0.out] at k0
  rw [Nat.add_zero] at k0
  rw [← H2.out] at k2 b2
  rw [← H3.out] at k3 b3
  have g0 : ((c0 : Int) != 167) = false := by rw [H0.out, e3]; rfl
  have en : (c2 : Int) + 256 * (c3 : Int) = (q : Int) := by rw [hq]; unfold SealM.blen; rw [H2.out, H3.out]; omega
  have g5 : ¬ (p : Int) + (m : Int) - (p : Int) < 4 := by omega
  have g6 : (p : Int) + 2 < (p : Int) + (m : Int) := by omega
  have g7 : (p : Int) + 3 < (p : Int) + (m : Int) := by omega
  have g8 : (0 : Int) ≤ (p : Int) + 2 := by omega
  have g9 : (0 : Int) ≤ (p : Int) + 3 := by omega
  have g10 : ¬ (p : Int) + (m : Int) - (p : Int) < (q : Int) + 8 := by omega
  have g11 : ¬ 4096 < (q : Int) := by omega
  have HB : Hid (SealM.bend (bs.drop p) = (4 + q, 0)) := by rw [hq]; exact hB
  clear e1 e2 e3 hq3 hB hq
  have t1 : ((p : Int) + 1).toNat = p + 1 := by omega
  have t4 : ((p : Int) + 4 + (q : Int)).toNat = p + 4 + q := by omega
  have t8 : ((p : Int) + 8 + (q : Int)).toNat = p + 8 + q := by omega
  have z0 : (0 : Int) ≤ (p : Int) + 1 := by omega
  have z1 : (0 : Int) ≤ (p : Int) + 4 + (q : Int) := by omega
  have z2 : (p : Int) + 1 ≤ (p : Int) + 4 + (q : Int) := by omega
  have z3 : (p : Int) + 1 ≤ max ((p : Int) + 4 + (q : Int)) 0 := by omega
  have z4 : (p : Int) + 4 + (q : Int) ≤ (p : Int) + (c : Int) := by omega
  have z5 : (p : Int) + 4 + (q : Int) ≤ (p : Int) + 8 + (q : Int) := by omega
  have z6 : (p : Int) + 4 + (q : Int) ≤ max ((p : Int) + 8 + (q : Int)) 0 := by omega
  have z7 : (p : Int) + 8 + (q : Int) ≤ (p : Int) + (c : Int) := by omega
  have z8 : ¬ p + c = p + 1 := by omega
  have z9 : ¬ p + c = p + 4 + q := by omega
  have z10 : ¬ c = 1 := by omega
  have v1 : IntKind.i64.wrap ((p : Int) + 1) = (p : Int) + 1 := wrap_ok _ (by omega) (by omega)
  have v4 : IntKind.i64.wrap ((p : Int) + 4) = (p : Int) + 4 := wrap_ok _ (by omega) (by omega)
  have v5 : IntKind.i64.wrap ((p : Int) + 4 + (q : Int)) = (p : Int) + 4 + (q : Int) := wrap_ok _ (by omega) (by omega)
  have v8 : IntKind.i64.wrap ((p : Int) + 8) = (p : Int) + 8 := wrap_ok _ (by omega) (by omega)
  have v9 : IntKind.i64.wrap ((p : Int) + 8 + (q : Int)) = (p : Int) + 8 + (q : Int) := wrap_ok _ (by omega) (by omega)
  have y1 : p + 4 + q - (p + 1) = 3 + q := by omega
  have y2 : p + 8 + q - (p + 4 + q) = 4 := by omega
  have HR1 : Hid (Rd w (some ⟨b, off + (p + 1), none⟩) (3 + q) (((bs.drop p).drop 1).take (3 + q))) := by
    have := hr.tail (p + 1) (3 + q) (by omega)
    rw [← List.drop_drop] at this
    exact this
  have HR2 : Hid (Rd w (some ⟨b, off + (p + 4 + q), none⟩) 4 (((bs.drop p).drop (4 + q)).take 4)) := by
    have := hr.tail (p + 4 + q) 4 (by omega)
    rw [show p + 4 + q = p + (4 + q) from by omega, ← List.drop_drop] at this
    rw [show p + 4 + q = p + (4 + q) from by omega]
    exact this
  obtain ⟨u, HU⟩ : ∃ u, Hid (u = Crc.more 0 (((bs.drop p).drop 1).take (3 + q))) := ⟨_, rfl⟩
  have HUL : Hid (u < 4294967296) := by rw [HU.out]; exact Crc.more_lt (by omega) HR1.out.byte
  obtain ⟨S1, HS1⟩ : ∃ S1, Hid (S1 = str (Crc.four u)) := ⟨_, rfl⟩
  obtain ⟨S2, HS2⟩ : ∃ S2, Hid (S2 = str (((bs.drop p).drop (4 + q)).take 4)) := ⟨_, rfl⟩
  have HEQ : Hid (S1 = S2 ↔ SealM.opn (bs.drop p) = 0) := by
    show _ ↔ _
    have hd : 4 ≤ ((bs.drop p).drop (4 + q)).length := by rw [List.length_drop, List.length_drop]; omega
    have hbb : ∀ x ∈ (bs.drop p).drop (4 + q), x < 256 := fun x hx => hr.byte x (List.mem_of_mem_drop (List.mem_of_mem_drop hx))
    rw [SealM.opn_of HB.out, show 4 + q - 1 = 3 + q from by omega, ← HU.out]
    constructor
    · intro h
      rw [HS1.out, HS2.out, ← SealM.four_le32 _ hd hbb] at h
      have h2 := str_inj (Crc.four_byte u) (Crc.four_byte _) h
      have h3 := congrArg Crc.pack h2
      rw [Crc.pack_four u HUL.out, Crc.pack_four _ (SealM.le32_lt _ hbb)] at h3
      rw [if_pos h3.symm]
    · intro h
      have h3 : SealM.le32 ((bs.drop p).drop (4 + q)) = u := by
        by_cases hh : SealM.le32 ((bs.drop p).drop (4 + q)) = u
        · exact hh
        · rw [if_neg hh] at h; omega
      rw [HS1.out, HS2.out, ← SealM.four_le32 _ hd hbb, h3]
  have HCV : Hid (∀ w' cc, Below w.heap.size w w' → (convert 22 9 (.slice (some ⟨b, off + (p + 4 + q), none⟩) 4 cc)).run Tryd.prog w' = .ok (.string S2) w') := by
    intro w' cc hb
    rw [HS2.out]
    exact conv_rd (HR2.out.below hb) cc
  have hSS : S2 = S1 := (HEQ.out.2 hok).symm
  have k1 := hc 1 (by omega)
  rw [hk] at k1
  have HR4 : Hid (Rd w (some ⟨b, off + (p + 4), none⟩) q (((bs.drop p).drop 4).take q)) := by
    have := hr.tail (p + 4) q (by omega)
    rw [← List.drop_drop] at this
    exact this
  obtain ⟨B, HBD⟩ : ∃ B, Hid (B = ((bs.drop p).drop 4).take q) := ⟨_, rfl⟩
  rw [← HBD.out] at HR4
  have HCK : Hid (∀ w', Below w.heap.size w w' → w'.cell? ⟨b, off + (p + 1), none⟩ = some (.int .u8 (k : Int))) := fun w' hb => (hb.cell (p := ⟨b, off + (p + 1), none⟩) hlt).trans k1
  have v10 : IntKind.i64.wrap ((p : Int) + (q : Int)) = (p : Int) + (q : Int) := wrap_ok _ (by omega) (by omega)
  have v11 : IntKind.i64.wrap ((p : Int) + (q : Int) + 8) = (p : Int) + (q : Int) + 8 := wrap_ok _ (by omega) (by omega)
  have z11 : (p : Int) + 4 ≤ (p : Int) + 4 + (q : Int) := by omega
  have z12 : (p : Int) + 4 ≤ max ((p : Int) + 4 + (q : Int)) 0 := by omega
  have z13 : (0 : Int) ≤ (p : Int) + 4 := by omega
  have z14 : ((p : Int) + 4).toNat = p + 4 := by omega
  have z15 : ¬ p + c = p + 4 := by omega
  have z16 : ¬ c = 4 := by omega
  have z17 : (p : Int) + 1 < (p : Int) + (m : Int) := by omega
  have y3 : p + 4 + q - (p + 4) = q := by omega
  rw [hSS] at HCV HS2 HEQ
  clear hok hk hr hs hc hbl hSS
  go_enter Tryd.func13, Tryd.ntmps13
  go_wp2
  go_quiet (fail)
  go_wp2
  go_region_held (fun w' => (convert 22 9 (.slice (some ⟨b, off + (p + 4 + q), none⟩) 4 (p + c - (p + 4 + q)))).run Tryd.prog w' = .ok (.string S1) w') (first | exact HCV.out _ _ (below_alloc_drewN w _ _) | exact HCV.out _ _ (below_alloc_drewN w _ _).drew | exact HCV.out _ _ HB3.out | exact HCV.out _ _ HB3.out.drew | fail)
    (first
      | (go_at_call 20; refine (ref_Sum (some ⟨b, off + (p + 1), none⟩) (3 + q) (p + c - (p + 1)) _ _ (HR1.out.below (below_alloc_drewN w _ _)) (by omega)).mono ?_; rw [← HU.out]; rintro e w2 ⟨rfl, hw2⟩; subst hw2)
      | (go_at_call 21; refine (ref_Four u HUL.out _ w.heap.size (below_alloc_drewN w _ _).size).mono ?_; rintro e w3 ⟨a3, c3, rfl, hne3, hown3, hb3⟩; have HB3 : Hid (Below w.heap.size w w3) := (below_alloc_drewN w _ _).trans (hb3.mono (below_alloc_drewN w _ _).size); have hsz3 : w.heap.size + 1 ≤ w3.heap.size := (by have := hb3.size; simpa using this); have kf := conv_rd hown3.rd c3; rw [← HS1.out] at kf; have l0 : w3.cell? ⟨w.heap.size, 0, none⟩ = some (.int .u8 0) := (hb3.cell (p := ⟨w.heap.size, 0, none⟩) (by simp)).trans (by simp); have l1 : w3.cell? ⟨w.heap.size, 1, none⟩ = some (.int .i64 0) := (hb3.cell (p := ⟨w.heap.size, 1, none⟩) (by simp)).trans (by simp); have l2 : w3.cell? ⟨w.heap.size, 2, none⟩ = some (.slice none 0 0) := (hb3.cell (p := ⟨w.heap.size, 2, none⟩) (by simp)).trans (by simp); have m0 : w3.frozen? ⟨w.heap.size, 0, none⟩ = false := (hb3.frozen (p := ⟨w.heap.size, 0, none⟩) (by simp)).trans (by simp); have m1 : w3.frozen? ⟨w.heap.size, 1, none⟩ = false := (hb3.frozen (p := ⟨w.heap.size, 1, none⟩) (by simp)).trans (by simp); have m2 : w3.frozen? ⟨w.heap.size, 2, none⟩ = false := (hb3.frozen (p := ⟨w.heap.size, 2, none⟩) (by simp)).trans (by simp); clear hown3 hb3 hne3))
  go_wp2
  have hb3' : Below w.heap.size w w3 := HB3.out
  have hsz3' : w.heap.size ≤ w3.heap.size := by omega
  go_region_held3 (fun w' => w'.cell? ⟨b, off + (p + 1), none⟩ = some (.int .u8 (k : Int))) ((refine HCK.out _ ?_; go_grown))
    (first
      | (refine step_append_rd (by rfl) (.tmp 89) (.tmp 97) (by rfl) w3.heap.size (some ⟨w3.heap.size, 0, none⟩) 0 0 [] (by rfl) (Own.empty w3).drew (some ⟨b, off + (p + 4), none⟩) q (p + c - (p + 4)) B (by rfl) ((HR4.out.below HB3.out).below (below_alloc w3 _)).drew (fun h => by cases h) (by omega) (by simp) q (Nat.zero_add _) B rfl ?_; intro a5 c5 w5 hown5 hgrow5 hbel5; have HO5 : Hid (Own w5 w3.heap.size a5 q c5 B) := hown5; have HB5 : Hid (Below w3.heap.size w3 w5) := (below_alloc w3 _).drew.trans hbel5; have hb5' : Below w.heap.size w w5 := HB3.out.trans (HB5.out.mono hsz3'); have n0 : w5.cell? ⟨w.heap.size, 0, none⟩ = some (.int .u8 0) := (HB5.out.cell (p := ⟨w.heap.size, 0, none⟩) hsz3).trans l0; have n1 : w5.cell? ⟨w.heap.size, 1, none⟩ = some (.int .i64 0) := (HB5.out.cell (p := ⟨w.heap.size, 1, none⟩) hsz3).trans l1; have n2 : w5.cell? ⟨w.heap.size, 2, none⟩ = some (.slice none 0 0) := (HB5.out.cell (p := ⟨w.heap.size, 2, none⟩) hsz3).trans l2; have o0 : w5.frozen? ⟨w.heap.size, 0, none⟩ = false := (HB5.out.frozen (p := ⟨w.heap.size, 0, none⟩) hsz3).trans m0; have o1 : w5.frozen? ⟨w.heap.size, 1, none⟩ = false := (HB5.out.frozen (p := ⟨w.heap.size, 1, none⟩) hsz3).trans m1; have o2 : w5.frozen? ⟨w.heap.size, 2, none⟩ = false := (HB5.out.frozen (p := ⟨w.heap.size, 2, none⟩) hsz3).trans m2; clear hown5 hgrow5 hbel5))
  have HK := cells3 (.int .u8 (k : Int)) (.int .i64 (p : Int)) (.slice a5 q c5) n0 n1 n2
  go_wp2
  try simp only [Exit.inBlock, Exit.then]
  refine bodyPost_ret (results_refOpen (by rfl) (by rfl) (by rfl) HK) rfl ?_
  refine ⟨a5, c5, told_ok (by omega), ?_, ((hb5'.setCell (Nat.le_refl _) _).setCell (Nat.le_refl _) _).setCell (Nat.le_refl _) _⟩
  have h := HO5.out
  rw [HBD.out] at h
  exact (((h.under ⟨w.heap.size, 0, none⟩ _ hsz3).under ⟨w.heap.size, 1, none⟩ _ hsz3).under ⟨w.heap.size, 2, none⟩ _ hsz3).lower hsz3'
end Go.Proofs.YtbhljlafijdodaaDoor
