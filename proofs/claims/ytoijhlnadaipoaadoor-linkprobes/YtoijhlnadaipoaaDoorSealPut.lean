/- seal.putSum and seal.Seal: what they lay, for every kind and row of bytes. -/
import Derived.Test.YtoijhlnadaipoaaDoorSums
import Derived.Test.YtoijhlnadaipoaaDoorSealM
import Derived.Test.YtoijhlnadaipoaaDoorStore
import Derived.Test.YtoijhlnadaipoaaDoorStep
import Derived.Laws.CopyOwn
import Derived.Deep.QuietTactic
import Derived.BigQuiet
import Derived.Handy
import Derived.Deep.RegionHeld3
namespace Go.Proofs.YtoijhlnadaipoaaDoor
open Go.RowKit

/-- The first k bytes of a number are laid from a place on. -/
def put4 (s off : Nat) : Nat → List Nat → List Nat
  | 0, l => l
  | k + 1, l => (put4 s off k l).set (off + k) (s / 256 ^ k % 256)

theorem put4_all (s : Nat) (pre : List Nat) (x0 x1 x2 x3 : Nat) : put4 s pre.length 4 (pre ++ [x0, x1, x2, x3]) = pre ++ Crc.four s := by
  simp only [put4, Nat.add_zero, Nat.pow_zero, Nat.div_one]
  rw [List.set_append_right _ _ (Nat.le_refl _), List.set_append_right _ _ (by omega), List.set_append_right _ _ (by omega), List.set_append_right _ _ (by omega)]
  simp [Crc.four]

set_option maxHeartbeats 400000 in
theorem seal_putSum (w : World) (base g off len cap m c : Nat) (bs : List Nat) (s : Nat) (hs : s < 4294967296) (ho : Own w base (some ⟨g, 0, none⟩) len cap bs) (hoff : off + 4 ≤ len) (hm : 4 ≤ m) (hbg : base ≤ g) :
    Calls Tryd.prog 56 #[.slice (some ⟨g, off, none⟩) m c, .int .u32 (s : Int)] w fun e w' => e = .returned (.tuple #[]) ∧ Own w' base (some ⟨g, 0, none⟩) len cap (put4 s off 4 bs) ∧ Below base w w' := by
  have HO : Hid (Own w base (some ⟨g, 0, none⟩) len cap bs) := ho
  clear ho
  go_enter Tryd.func56, Tryd.ntmps56
  go_wp2
  go_loopw [5] (fun t5 wr => ∃ (k : Nat), k ≤ 4 ∧ t5 = .int .i64 (k : Int) ∧ Hid (Own wr base (some ⟨g, 0, none⟩) len cap (put4 s off k bs)) ∧ Hid (Below base w wr)) (fun t5 _ => 4 - (intOf t5).toNat)
  case atStart => exact ⟨0, by omega, rfl, HO, Below.refl _ _⟩
  case round =>
    obtain ⟨k, hk, rfl, HO', HB⟩ := hrel
    by_cases hlt : k < 4
    · have hcx : wr.cell? ⟨g, off + k, none⟩ = some (.int .u8 (((put4 s off k bs).getD (off + k) 0 : Nat) : Int)) := HO'.out.cell (off + k) (by omega)
      have hfr : wr.frozen? ⟨g, off + k, none⟩ = false := HO'.out.free _
      have HN : ∀ v : Nat, v < 256 → Hid (Own (wr.setCell ⟨g, off + k, none⟩ (.int .u8 (v : Int))) base (some ⟨g, 0, none⟩) len cap ((put4 s off k bs).set (off + k) v)) := fun v hv => HO'.out.set (off + k) v hv
      have HBN : ∀ v, Hid (Below base w (wr.setCell ⟨g, off + k, none⟩ v)) := fun v => HB.out.setCell hbg _
      have HNN : Hid (∀ v : Nat, v < 256 → Hid (Own (wr.setCell ⟨g, off + k, none⟩ (.int .u8 (v : Int))) base (some ⟨g, 0, none⟩) len cap ((put4 s off k bs).set (off + k) v))) := HN
      have HBB : Hid (∀ v, Hid (Below base w (wr.setCell ⟨g, off + k, none⟩ v))) := HBN
      clear HN HBN
      rcases (show k = 0 ∨ k = 1 ∨ k = 2 ∨ k = 3 by omega) with rfl | rfl | rfl | rfl
      · simp only [Nat.add_zero] at hcx hfr
        go_wp2
        go_roundw
        case rel =>
          have h := HNN.out (s / 256 ^ 0 % 256) (by omega)
          have e : ((s / 256 ^ 0 % 256 : Nat) : Int) = (s : Int) % 256 := by rw [Nat.pow_zero, Nat.div_one]; rfl
          rw [e] at h
          exact ⟨1, by omega, rfl, h, HBB.out _⟩
        case measure => simp [intOf]
      · go_wp2
        go_roundw
        case rel => exact ⟨2, by omega, rfl, HNN.out (s / 256 ^ 1 % 256) (by omega), HBB.out _⟩
        case measure => simp [intOf]
      · go_wp2
        go_roundw
        case rel => exact ⟨3, by omega, rfl, HNN.out (s / 256 ^ 2 % 256) (by omega), HBB.out _⟩
        case measure => simp [intOf]
      · go_wp2
        go_roundw
        case rel =>
          have h := HNN.out (s / 256 ^ 3 % 256) (by omega)
          have e : ((s / 256 ^ 3 % 256 : Nat) : Int) = (s : Int) / 16777216 := by rw [show (256 : Nat) ^ 3 = 16777216 from rfl]; omega
          rw [e] at h
          exact ⟨4, by omega, rfl, h, HBB.out _⟩
        case measure => simp [intOf]
    · obtain rfl : k = 4 := by omega
      go_wp2
      go_returns
      exact ⟨rfl, HO'.out, HB.out⟩

theorem made_byte (n : Nat) : (madeCells #[.int .u8 0] n).toList = vb (List.replicate n 0) := by
  simp only [madeCells, vb]
  apply List.ext_getElem
  · simp
  · intro i h1 h2
    simp [Nat.mod_one]

theorem Own.sub {w : World} {base g len cap : Nat} {bs : List Nat} (h : Own w base (some ⟨g, 0, none⟩) len cap bs) (p n : Nat) (hp : p + n ≤ len) : Rd w (some ⟨g, p, none⟩) n ((bs.drop p).take n) := by
  have hs := h.size
  refine ⟨by rw [List.length_take, List.length_drop]; omega, fun y hy => h.byte y (List.mem_of_mem_drop (List.mem_of_mem_take hy)), ?_⟩
  by_cases h0 : n = 0
  · exact .inl h0
  · obtain ⟨g', hg, _, hlt⟩ := h.form (by omega)
    simp only [Option.some.injEq, Addr.mk.injEq] at hg
    obtain ⟨rfl, _, _⟩ := hg
    refine .inr ⟨g, p, rfl, hlt, fun i hi => ?_⟩
    rw [h.cell (p + i) (by omega)]
    simp only [List.getD_eq_getElem?_getD, List.getElem?_take_of_lt hi, List.getElem?_drop]

theorem Own.full {w : World} {base g len : Nat} {bs : List Nat} (h : Own w base (some ⟨g, 0, none⟩) len len bs) : w.heap[g]? = some (.cells (vb bs).toArray 5 (0, 0)) := by
  rcases h.row.2 with ⟨hv, _⟩ | ⟨g', c, cur, hv, hb, hg, hlc, hm, hs, ht⟩
  · simp at hv
  · simp only [Value.slice.injEq, Option.some.injEq, Addr.mk.injEq] at hv
    obtain ⟨⟨rfl, _, _⟩, _, rfl⟩ := hv
    have e : cur.toList = vb bs := by
      rw [← ht, List.take_of_length_le]
      rw [Array.length_toList]; omega
    rw [hg, ← e]
theorem Own.of_full {w : World} {base g : Nat} {bs : List Nat} (h : w.heap[g]? = some (.cells (vb bs).toArray 5 (0, 0))) (hb : ∀ x ∈ bs, x < 256) (hg : base ≤ g) (hm : bs.length ≤ maxLen) (len : Nat) (hl : bs.length = len) : Own w base (some ⟨g, 0, none⟩) len len bs := by
  subst hl
  refine ⟨⟨by simp [vb_length], .inr ⟨g, bs.length, _, rfl, hg, h, Nat.le_refl _, hm, by simp [vb_length], ?_⟩⟩, hb⟩
  rw [Nat.mul_one]
  show List.take bs.length (vb bs) = vb bs
  rw [← vb_length bs, List.take_length]
theorem vb_splice (xs : List Nat) (off : Nat) (ys : List Nat) : splice (vb xs) off (vb ys) = vb (xs.take off ++ (ys ++ xs.drop (off + ys.length))) := by
  simp only [splice, vb_append, vb_length]
  simp [vb, List.map_take, List.map_drop]
theorem infoByteSize : (Tryd.prog.info? 5).map (·.size) = some 1 := by kernel_rfl

/-- What 'copy' asks of its source. -/
theorem Rd.copies {w : World} {a : Option Addr} {len : Nat} {bs : List Nat} (h : Rd w a len bs) (hp : 0 < (vb bs).length) : ∃ ad, a = some ad ∧ ∀ j v, (vb bs)[j]? = some v → w.cell? (ad.add j) = some v := by
  rw [vb_length, h.size] at hp
  rcases h.cells with h0 | ⟨b, off, rfl, _, hc⟩
  · omega
  · refine ⟨_, rfl, fun j v hj => ?_⟩
    obtain ⟨hlt, rfl⟩ := vb_get hj
    have e : (⟨b, off, none⟩ : Addr).add j = ⟨b, off + j, none⟩ := by unfold Addr.add; split <;> simp_all
    rw [e]
    exact hc j (by rw [← h.size]; exact hlt)

theorem seal_Seal_long (k : Nat) (a : Option Addr) (len cap : Nat) (w : World) (hl : 4096 < len) (hm : len ≤ 9223372036854775807) :
    Calls Tryd.prog 40 #[.int .u8 (k : Int), .slice a len cap] w fun e w' => e = .returned (.tuple #[.slice none 0 0, .int .i64 6]) ∧ w' = w := by
  go_enter Tryd.func40, Tryd.ntmps40
  go_wp2
  go_ret2
  exact ⟨rfl, rfl⟩

set_option maxRecDepth 100000 in
set_option maxHeartbeats 1000000 in
theorem seal_Seal (k : Nat) (hk : k < 256) (a : Option Addr) (len cap : Nat) (bs : List Nat) (w : World) (hr : Rd w a len bs) (hl : len ≤ 4096) (ht : Tab w) (h0 : 0 < w.heap.size) :
    Calls Tryd.prog 40 #[.int .u8 (k : Int), .slice a len cap] w fun e w' => ∃ g, e = .returned (.tuple #[.slice (some ⟨g, 0, none⟩) (len + 8) (len + 8), .int .i64 0]) ∧ Own w' w.heap.size (some ⟨g, 0, none⟩) (len + 8) (len + 8) (SealM.sealed k bs) ∧ Below w.heap.size w w' := by
  have HT : Hid (Tab w) := ht
  have HR : Hid (Rd w a len bs) := hr
  obtain ⟨i0, hi, hz0, hz1, hz2⟩ := info_parts infoByte
  clear ht hr
  go_enter Tryd.func40, Tryd.ntmps40
  go_wp2_with (at_make; refine wpList_make_full w (by rfl) (.tmp 15) (.tmp 15) 42 (by rfl) w.heap.size 5 i0 (.int .u8 0) 1 Tryd.underlying42 hi hz0 hz1 .i64 .i64 (4 + (len : Int) + 4) (4 + (len : Int) + 4) (len + 8) (by rfl) (by rfl) (by omega) (by omega) (by rw [hz2]; omega) (by unfold maxLen; omega) (Nat.le_refl _) ?_)
  intro w1 hown1 hgrow1
  rw [made_byte] at hown1
  have HO1 : Hid (Own w1 w.heap.size (some ⟨w.heap.size, 0, none⟩) (len + 8) (len + 8) (List.replicate (len + 8) 0)) := ⟨hown1, fun x hx => by rw [List.eq_of_mem_replicate hx]; omega⟩
  have HB1 : Hid (Below w.heap.size w w1) := (Below.refl _ _).grown hgrow1 (Nat.le_refl _) (fun k hk => by cases hk)
  clear hown1 hgrow1
  have hc : ∀ j, j < len + 8 → w1.cell? ⟨w.heap.size, j, none⟩ = some (.int .u8 (((List.replicate (len + 8) 0).getD j 0 : Nat) : Int)) := fun j hj => HO1.out.cell j hj
  have hc0 := hc 0 (by omega)
  have hc1 := hc 1 (by omega)
  have hc2 := hc 2 (by omega)
  have hc3 := hc 3 (by omega)
  have hf0 := HO1.out.free 0
  have hf1 := HO1.out.free 1
  have hf2 := HO1.out.free 2
  have hf3 := HO1.out.free 3
  clear hc
  have HO2 : Hid (Own ((((w1.setCell ⟨w.heap.size, 0, none⟩ (.int .u8 167)).setCell ⟨w.heap.size, 1, none⟩ (.int .u8 (k : Int))).setCell ⟨w.heap.size, 2, none⟩ (.int .u8 ((len : Int) % 256))).setCell ⟨w.heap.size, 3, none⟩ (.int .u8 ((len : Int) / 256))) w.heap.size (some ⟨w.heap.size, 0, none⟩) (len + 8) (len + 8) (((((List.replicate (len + 8) 0).set 0 167).set 1 k).set 2 (len % 256)).set 3 (len / 256))) :=
    (((HO1.out.set 0 167 (by omega)).set 1 k hk).set 2 (len % 256) (by omega)).set 3 (len / 256) (by omega)
  have HB2 : Hid (Below w.heap.size w ((((w1.setCell ⟨w.heap.size, 0, none⟩ (.int .u8 167)).setCell ⟨w.heap.size, 1, none⟩ (.int .u8 (k : Int))).setCell ⟨w.heap.size, 2, none⟩ (.int .u8 ((len : Int) % 256))).setCell ⟨w.heap.size, 3, none⟩ (.int .u8 ((len : Int) / 256)))) :=
    (((HB1.out.setCell (Nat.le_refl _) _).setCell (Nat.le_refl _) _).setCell (Nat.le_refl _) _).setCell (Nat.le_refl _) _
  obtain ⟨L, HL⟩ : ∃ L, Hid (L = ((((List.replicate (len + 8) 0).set 0 167).set 1 k).set 2 (len % 256)).set 3 (len / 256)) := ⟨_, rfl⟩
  rw [← HL.out] at HO2
  have HLL : Hid (L.length = len + 8) := HO2.out.size
  have HBL : Hid (bs.length = len) := HR.out.size
  go_wp2_with (guard_target =~ wpList _ _ _ (Oper.mk (some 36) _ _ _ _ _ :: _) _ _; (refine wpList_copy_splice (by rfl) (.tmp 34) (.tmp 35) 42 42 (by rfl) 5 Tryd.underlying42 infoByteSize (some ⟨w.heap.size, 4, none⟩) a (len + 4) (len + 4) len cap (by rfl) (by rfl) w.heap.size 4 (vb L) 5 HO2.out.full (vb bs) (by rw [vb_length, HBL.out]; exact (Nat.min_eq_left (by omega)).symm) (fun hp => ⟨rfl, (HR.out.below HB2.out).copies hp⟩) (by rw [vb_length, vb_length, HLL.out, HBL.out]; omega) (vb_one bs) w.heap.size w HB2.out (Nat.le_refl _) ?_))
  intro w2 hg2 hb2
  have hspl : L.take 4 ++ (bs ++ L.drop (4 + bs.length)) = (167 :: SealM.inner k bs) ++ [0, 0, 0, 0] := by
    rw [HL.out, HBL.out]
    simp only [SealM.inner, HBL.out]
    have e1 : List.replicate (len + 8) 0 = 0 :: 0 :: 0 :: 0 :: (List.replicate len 0 ++ [0, 0, 0, 0]) := by
      rw [show len + 8 = 4 + (len + 4) from by omega, ← List.replicate_append_replicate, ← List.replicate_append_replicate]
      rfl
    rw [e1]
    simp only [List.set_cons_zero, List.set_cons_succ, List.take_succ_cons, List.take_zero, List.cons_append, List.nil_append]
    rw [show 4 + len = len + 1 + 1 + 1 + 1 from by omega]
    simp only [List.drop_succ_cons]
    rw [List.drop_append_of_le_length (by simp), List.drop_of_length_le (by simp)]
    simp
  have HO3 : Hid (Own w2 w.heap.size (some ⟨w.heap.size, 0, none⟩) (len + 8) (len + 8) ((167 :: SealM.inner k bs) ++ [0, 0, 0, 0])) := by
    have h := hg2.out
    rw [vb_splice, hspl] at h
    have hin := SealM.inner_byte (k := k) (bs := bs) hk HR.out.byte (by rw [HBL.out]; exact hl)
    refine Own.of_full h ?_ (Nat.le_refl _) ?_ (len + 8) ?_
    · intro x hx
      simp only [List.mem_append, List.mem_cons, List.not_mem_nil, or_false] at hx
      rcases hx with (rfl | hx) | hx
      · omega
      · exact hin x hx
      · omega
    · simp [SealM.inner_length, HBL.out]; unfold maxLen; omega
    · simp [SealM.inner_length, HBL.out]
  have HB3 : Hid (Below w.heap.size w w2) := hb2
  clear hg2 hb2 hspl HO2 HB2 HO1 HB1 hc0 hc1 hc2 hc3 hf0 hf1 hf2 hf3
  have HSUB : Hid (∀ w', Own w' w.heap.size (some ⟨w.heap.size, 0, none⟩) (len + 8) (len + 8) ((167 :: SealM.inner k bs) ++ [0, 0, 0, 0]) → Rd w' (some ⟨w.heap.size, 1, none⟩) (3 + len) (SealM.inner k bs)) := by
    intro w' ho
    have h := ho.sub 1 (3 + len) (by omega)
    have e : (((167 :: SealM.inner k bs) ++ [0, 0, 0, 0]).drop 1).take (3 + len) = SealM.inner k bs := by
      show ((SealM.inner k bs) ++ [0, 0, 0, 0]).take (3 + len) = _
      rw [show 3 + len = (SealM.inner k bs).length from by rw [SealM.inner_length, HBL.out]; omega, List.take_left]
    rw [e] at h
    exact h
  have HSL : Hid (Crc.more 0 (SealM.inner k bs) < 4294967296) := Crc.more_lt (by omega) (SealM.inner_byte hk HR.out.byte (by rw [HBL.out]; exact hl))
  have HFIN : Hid (put4 (Crc.more 0 (SealM.inner k bs)) (4 + len) 4 ((167 :: SealM.inner k bs) ++ [0, 0, 0, 0]) = SealM.sealed k bs) := by
    show _ = _
    rw [show 4 + len = (167 :: SealM.inner k bs).length from by rw [List.length_cons, SealM.inner_length, HBL.out]; omega, put4_all]
    rfl
  obtain ⟨s, HS⟩ : ∃ s, Hid (s = Crc.more 0 (SealM.inner k bs)) := ⟨_, rfl⟩
  rw [← HS.out] at HSL HFIN
  have g1 : (0 : Int) ≤ 4 + (len : Int) := by omega
  have g2 : 4 + (len : Int) ≤ (len : Int) + 8 := by omega
  have g3 : (1 : Int) ≤ 4 + (len : Int) := by omega
  have g4 : (1 : Int) ≤ max (4 + (len : Int)) 0 := by omega
  have g5 : (4 + (len : Int)).toNat = 4 + len := by omega
  go_wp2
  go_region_held3 (fun _ => True) (trivial)
    (first
      | (go_at_call 57; refine (seal_Sum (some ⟨w.heap.size, 1, none⟩) (3 + len) (len + 7) (SealM.inner k bs) _ (HSUB.out _ HO3.out.drew) (by omega) (HT.out.below h0 HB3.out.drew)).mono ?_; rw [← HS.out]; rintro e w3 ⟨rfl, hw3⟩; subst hw3)
      | (go_at_call 56; refine (seal_putSum _ w.heap.size w.heap.size (4 + len) (len + 8) (len + 8) (len + 8 - (4 + len)) (len + 8 - (4 + len)) _ s HSL.out HO3.out.drew (by omega) (by omega) (Nat.le_refl _)).mono ?_; rw [HFIN.out]; rintro e w4 ⟨rfl, ho4, hb4⟩; have HO4 : Hid (Own w4 w.heap.size (some ⟨w.heap.size, 0, none⟩) (len + 8) (len + 8) (SealM.sealed k bs)) := ho4; have HB4 : Hid (Below w.heap.size w w4) := HB3.out.drew.trans hb4; clear ho4 hb4))
  all_goals go_wp2
  all_goals go_ret2
  all_goals exact ⟨w.heap.size, rfl, HO4.out, HB4.out⟩
end Go.Proofs.YtoijhlnadaipoaaDoor
