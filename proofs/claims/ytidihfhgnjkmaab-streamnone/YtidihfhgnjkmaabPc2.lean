/- parcel: spansMayBe, checkItems, Check. -/
import Derived.Test.YtidihfhgnjkmaabPc1
namespace Go.Proofs.Ytidihfhgnjkmaab
open Go.RowKit

theorem inB_not {p : Pc} {s : Sp} (h : ¬ ((s.is = 2 ∨ s.is = 3) ∧ p.fr ≤ s.fr ∧ s.to ≤ p.to_)) : inB p s = false := decide_eq_false h
theorem inB_ok {p : Pc} {s : Sp} (h : (s.is = 2 ∨ s.is = 3) ∧ p.fr ≤ s.fr ∧ s.to ≤ p.to_) : inB p s = true := decide_eq_true h

set_option maxRecDepth 100000 in
set_option maxHeartbeats 4000000 in
theorem pc_spans (p : Pc) (sa : Option Addr) (sn sc : Nat) (ia : Option Addr) (im ic : Nat) (w : World) (hp : SpsRd w sa sn p.spans) (hn : sn ≤ maxLen) : Calls Try.prog 28 #[p.val sa sn sc ia im ic] w fun e w' => e = .returned (.bool (spB p)) ∧ Below w.heap.size w w' := by
  have HR : Hid (SpsRd w sa sn p.spans) := hp
  have HN : Hid (sn ≤ maxLen) := hn
  obtain ⟨b, HF⟩ : ∃ b, Hid (b = spB p) := ⟨_, rfl⟩
  rw [← HF.out]
  obtain ⟨l, HL⟩ : ∃ l, Hid (l = p.spans) := ⟨_, rfl⟩
  rw [← HL.out] at HR
  have HF : Hid (b = (l.all (inB p) && rightB Sp.zr l)) := by show _ = _; rw [HF.out, spB, ← HL.out]
  unfold maxLen at hn
  clear hp HL
  unfold Pc.val
  obtain ⟨pk, pp, ps, pn, pf, pt, pl, pi⟩ := p
  simp only
  go_enter Try.func28, Try.ntmps28
  go_wp2
  go_loopw [8] (fun t8 wr => ∃ (k : Nat), k ≤ sn ∧ t8 = .int .i64 (k : Int) ∧ Hid (((l.drop k).all (inB ⟨pk, pp, ps, pn, pf, pt, pl, pi⟩) && rightB Sp.zr l) = b) ∧ Hid (Bk wr w.heap.size #[.int .i64 pk, .int .i64 pp, .int .i64 ps, .int .i64 pn, .int .i64 pf, .int .i64 pt, .slice sa sn sc, .slice ia im ic] 26) ∧ Hid (Below w.heap.size w wr)) (fun t8 _ => sn - (intOf t8).toNat)
  case atStart => exact ⟨0, by omega, rfl, HF.out.symm, Bk.new _ _ _, below_new _ _⟩
  case round =>
    obtain ⟨k, hk, rfl, HE, HK, HB⟩ := hrel
    by_cases hlt : k < sn
    · have hlt' : (k : Int) < (sn : Int) := by omega
      obtain ⟨g, o, rfl, hg, q, hq, c0, c1, c2⟩ := (HR.out.below HB.out).at_ k hlt
      have HD : Hid (l.drop k = q :: l.drop (k + 1)) := drop_at hq
      clear hq hg
      obtain ⟨qf, qt, qi⟩ := q
      simp only at c0 c1 c2
      have HK1 : Hid (Bk (wr.alloc (.cells #[.int .i64 qf, .int .i64 qt, .int .i64 qi] 62)) w.heap.size #[.int .i64 pk, .int .i64 pp, .int .i64 ps, .int .i64 pn, .int .i64 pf, .int .i64 pt, .slice (some ⟨g, o, none⟩) sn sc, .slice ia im ic] 26) := HK.out.stay (below_new _ _)
      have HB1 : Hid (Below w.heap.size w (wr.alloc (.cells #[.int .i64 qf, .int .i64 qt, .int .i64 qi] 62))) := HB.out.alloc HB.out.size _
      have HLT : Hid (w.heap.size < wr.heap.size) := HK.out.lt
      have a4 : (wr.alloc (.cells #[.int .i64 qf, .int .i64 qt, .int .i64 qi] 62)).cell? ⟨w.heap.size, 4, none⟩ = some (.int .i64 pf) := HK1.out.cell 4 rfl
      have a5 : (wr.alloc (.cells #[.int .i64 qf, .int .i64 qt, .int .i64 qi] 62)).cell? ⟨w.heap.size, 5, none⟩ = some (.int .i64 pt) := HK1.out.cell 5 rfl
      by_cases h1 : qi = 2 ∨ qi = 3
      · by_cases h2 : pf ≤ qf
        · by_cases h3 : qt ≤ pt
          · have HX : Hid (((l.drop (k + 1)).all (inB ⟨pk, pp, ps, pn, pf, pt, pl, pi⟩) && rightB Sp.zr l) = b) := by
              show _ = _
              rw [← HE.out, HD.out, List.all_cons, inB_ok ⟨h1, h2, h3⟩, Bool.true_and]
            clear HE HK
            rcases h1 with rfl | rfl
            · go_wp2
              go_roundw
              case rel => exact ⟨k + 1, by omega, by go_num, HX, HK1, HB1⟩
              case measure => simp [intOf]; omega
            · go_wp2
              go_roundw
              case rel => exact ⟨k + 1, by omega, by go_num, HX, HK1, HB1⟩
              case measure => simp [intOf]; omega
          · have HX : Hid (b = false) := by
              show _ = _
              rw [← HE.out, HD.out, List.all_cons, inB_not (by simp only; omega), Bool.false_and, Bool.false_and]
            clear HE HK
            rcases h1 with rfl | rfl
            · go_wp2
              go_ret
              exact ⟨by rw [HX.out]; rfl, HB1.out⟩
            · go_wp2
              go_ret
              exact ⟨by rw [HX.out]; rfl, HB1.out⟩
        · have HX : Hid (b = false) := by
            show _ = _
            rw [← HE.out, HD.out, List.all_cons, inB_not (by simp only; omega), Bool.false_and, Bool.false_and]
          clear HE HK
          rcases h1 with rfl | rfl
          · go_wp2
            go_ret
            exact ⟨by rw [HX.out]; rfl, HB1.out⟩
          · go_wp2
            go_ret
            exact ⟨by rw [HX.out]; rfl, HB1.out⟩
      · have HX : Hid (b = false) := by
          show _ = _
          rw [← HE.out, HD.out, List.all_cons, inB_not (by simp only; omega), Bool.false_and, Bool.false_and]
        clear HE HK
        have n2 : ¬ qi = 2 := fun h => h1 (.inl h)
        have n3 : ¬ qi = 3 := fun h => h1 (.inr h)
        have n2' : (qi == 2) = false := by simpa using n2
        have n3' : (qi == 3) = false := by simpa using n3
        clear h1
        go_wp2
        go_ret
        exact ⟨by rw [HX.out]; rfl, HB1.out⟩
    · have hnl : ¬ (k : Int) < (sn : Int) := by omega
      have HX : Hid (rightB Sp.zr l = b) := by
        show _ = _
        rw [← HE.out, List.drop_of_length_le (by rw [HR.out.size]; omega)]
        rfl
      have a6 : wr.cell? ⟨w.heap.size, 6, none⟩ = some (.slice sa sn sc) := HK.out.cell 6 rfl
      clear HE HK
      go_wp2_with fail
      refine (span_Right sa sn sc l wr (HR.out.below HB.out) HN.out).mono ?_
      rintro e w2 ⟨rfl, hb2⟩
      have HB2 : Hid (Below w.heap.size w w2) := HB.out.trans (hb2.mono HB.out.size)
      clear hb2
      rw [HX.out]
      go_wp2
      go_ret
      exact ⟨rfl, HB2.out⟩
end Go.Proofs.Ytidihfhgnjkmaab
