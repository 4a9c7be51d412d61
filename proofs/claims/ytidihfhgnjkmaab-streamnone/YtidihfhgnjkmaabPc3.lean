/- parcel: checkItems, Check. -/
import Derived.Test.YtidihfhgnjkmaabPc2
namespace Go.Proofs.Ytidihfhgnjkmaab
open Go.RowKit

set_option maxRecDepth 100000 in
set_option maxHeartbeats 4000000 in
theorem pc_items (p : Pc) (sa : Option Addr) (sn sc : Nat) (ia : Option Addr) (im ic : Nat) (w : World) (hp : SpsRd w sa sn p.spans) (hn : sn ≤ maxLen) (hi : ItsRd w ia im p.items) (hm : im ≤ maxLen) (ht : p.to_ ≤ 1099511627776) : Calls Try.prog 29 #[p.val sa sn sc ia im ic] w fun e w' => e = .returned (.int .i64 (itE p p.fr p.items)) ∧ Below w.heap.size w w' := by
  have HR : Hid (SpsRd w sa sn p.spans ∧ sn ≤ maxLen) := ⟨hp, hn⟩
  have HI : Hid (ItsRd w ia im p.items) := hi
  have HT : Hid (p.to_ ≤ 1099511627776) := ht
  obtain ⟨b, HF⟩ : ∃ b, Hid (b = itE p p.fr p.items) := ⟨_, rfl⟩
  rw [← HF.out]
  unfold maxLen at hm
  clear hp hn hi ht
  unfold Pc.val
  obtain ⟨pk, pp, ps, pn, pf, pt, pl, pi⟩ := p
  simp only at HR HI HT
  simp only
  go_enter Try.func29, Try.ntmps29
  go_wp2
  go_loopw [3, 11] (fun t3 t11 wr => ∃ (k : Nat) (le : Int), k ≤ im ∧ t3 = .int .i64 le ∧ t11 = .int .i64 (k : Int) ∧ Hid (itE ⟨pk, pp, ps, pn, pf, pt, pl, pi⟩ le (pi.drop k) = b) ∧ Hid (Bk wr w.heap.size #[.int .i64 pk, .int .i64 pp, .int .i64 ps, .int .i64 pn, .int .i64 pf, .int .i64 pt, .slice sa sn sc, .slice ia im ic] 26) ∧ Hid (Below w.heap.size w wr)) (fun _ t11 _ => im - (intOf t11).toNat)
  case atStart => exact ⟨0, pf, by omega, rfl, rfl, HF.out.symm, Bk.new _ _ _, below_new _ _⟩
  case round =>
    obtain ⟨k, le, hk, rfl, rfl, HE, HK, HB⟩ := hrel
    by_cases hlt : k < im
    · have hlt' : (k : Int) < (im : Int) := by omega
      obtain ⟨g, o, rfl, hg, q, hq, c0, c1, ba, bl, bc, c2, hrd, hnc, hbl, hbc⟩ := (HI.out.below HB.out).at_ k hlt
      have HD : Hid (pi.drop k = q :: pi.drop (k + 1)) := it_at hq
      have HT2 : Hid ((-9223372036854775808 : Int) ≤ q.tick ∧ q.tick ≤ 9223372036854775807) := (HI.out.each q (List.mem_of_getElem? hq)).1
      have HLB : Hid (q.body.length = bl) := hrd.size
      clear hq hg hrd
      obtain ⟨qt, qf, qb⟩ := q
      simp only at c0 c1 c2
      have HK1 : Hid (Bk (wr.alloc (.cells #[.int .i64 qt, .int .u32 qf, .slice ba bl bc] 34)) w.heap.size #[.int .i64 pk, .int .i64 pp, .int .i64 ps, .int .i64 pn, .int .i64 pf, .int .i64 pt, .slice sa sn sc, .slice (some ⟨g, o, none⟩) im ic] 26) := HK.out.stay (below_new _ _)
      have HB1 : Hid (Below w.heap.size w (wr.alloc (.cells #[.int .i64 qt, .int .u32 qf, .slice ba bl bc] 34))) := HB.out.alloc HB.out.size _
      have HN1 : Hid (Bk (wr.alloc (.cells #[.int .i64 qt, .int .u32 qf, .slice ba bl bc] 34)) wr.heap.size #[.int .i64 qt, .int .u32 qf, .slice ba bl bc] 34) := Bk.new _ _ _
      have HLT : Hid (w.heap.size < wr.heap.size) := HK.out.lt
      have a5 : (wr.alloc (.cells #[.int .i64 qt, .int .u32 qf, .slice ba bl bc] 34)).cell? ⟨w.heap.size, 5, none⟩ = some (.int .i64 pt) := HK1.out.cell 5 rfl
      have a6 : (wr.alloc (.cells #[.int .i64 qt, .int .u32 qf, .slice ba bl bc] 34)).cell? ⟨w.heap.size, 6, none⟩ = some (.slice sa sn sc) := HK1.out.cell 6 rfl
      by_cases h1 : qt < le
      · have HX : Hid (b = 14) := by show _ = _; rw [← HE.out, HD.out, itE_tick (.inl h1)]
        clear HE HK
        go_wp2
        go_ret
        exact ⟨by rw [HX.out]; rfl, HB1.out⟩
      · by_cases h2 : pt < qt
        · have HX : Hid (b = 14) := by show _ = _; rw [← HE.out, HD.out, itE_tick (.inr (.inl h2))]
          clear HE HK
          go_wp2
          go_ret
          exact ⟨by rw [HX.out]; rfl, HB1.out⟩
        · clear HK
          go_wp2_with fail
          refine (span_At sa sn sc pl qt _ (HR.out.1.below HB1.out) HR.out.2).mono ?_
          rintro e w2 ⟨rfl, hb2⟩
          have HB2 : Hid (Below w.heap.size w w2) := HB1.out.trans (hb2.mono HB1.out.size)
          have HK2 := HK1.out.stay hb2
          have HN2 := HN1.out.stay hb2
          have HK2 : Hid (Bk w2 w.heap.size #[.int .i64 pk, .int .i64 pp, .int .i64 ps, .int .i64 pn, .int .i64 pf, .int .i64 pt, .slice sa sn sc, .slice (some ⟨g, o, none⟩) im ic] 26) := HK2
          have b0 : w2.cell? ⟨wr.heap.size, 0, none⟩ = some (.int .i64 qt) := HN2.cell 0 rfl
          have b2 : w2.cell? ⟨wr.heap.size, 2, none⟩ = some (.slice ba bl bc) := HN2.cell 2 rfl
          clear hb2 a5 a6 c0 c1 c2 HN2 HK1 HN1
          by_cases h3 : atS pl qt = 0
          · have h3' : (atS pl qt == 0) = true := by simpa using h3
            by_cases h4 : 400 < bl
            · have h4' : (400 : Int) < (bl : Int) := by omega
              have HX : Hid (b = 6) := by show _ = _; rw [← HE.out, HD.out, itE_long (by simp only; omega) (by rw [HLB.out]; exact h4)]
              clear HE
              go_wp2
              go_ret
              exact ⟨by rw [HX.out]; rfl, HB2.out⟩
            · have h4' : ¬ (400 : Int) < (bl : Int) := by omega
              have HX : Hid (itE ⟨pk, pp, ps, pn, pf, pt, pl, pi⟩ (qt + 1) (pi.drop (k + 1)) = b) := by show _ = _; rw [← HE.out, HD.out, itE_next (by simp only; omega) (by rw [HLB.out]; exact h4)]
              have hp1 : qt < 9223372036854775807 := by have := HT.out; omega
              have hp2 : (-9223372036854775808 : Int) ≤ qt := HT2.out.1
              clear HE
              go_wp2
              go_roundw
              case rel => exact ⟨k + 1, qt + 1, by omega, rfl, by go_num, HX, HK2, HB2⟩
              case measure => simp [intOf]; omega
          · have h3' : (atS pl qt == 0) = false := by simpa using h3
            have HX : Hid (b = 14) := by show _ = _; rw [← HE.out, HD.out, itE_tick (.inr (.inr h3))]
            clear HE
            go_wp2
            go_ret
            exact ⟨by rw [HX.out]; rfl, HB2.out⟩
    · have hnl : ¬ (k : Int) < (im : Int) := by omega
      have HX : Hid (b = 0) := by
        show _ = _
        rw [← HE.out, List.drop_of_length_le (by rw [HI.out.size]; omega)]
        rfl
      clear HE HK
      go_wp2
      go_ret
      exact ⟨by rw [HX.out]; rfl, HB.out⟩
end Go.Proofs.Ytidihfhgnjkmaab
