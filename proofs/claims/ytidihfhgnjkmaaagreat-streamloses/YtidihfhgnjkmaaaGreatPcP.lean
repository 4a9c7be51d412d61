/- A pack of texts: Pc1 Pc2 Pc3 Pc4 PcR1 PcR2 PcR3. -/
import Derived.Test.YtidihfhgnjkmaaaGreatPcM
import Derived.WalkMore
import Derived.Test.YtidihfhgnjkmaaaGreatSpY
/- parcel: usedBy, numbersMayBe, spansMayBe, checkItems, Check. -/
namespace Go.Proofs.YtidihfhgnjkmaaaGreat
open Go.RowKit

set_option maxRecDepth 100000 in
theorem pc_usedBy (k : Int) (w : World) : Calls Tryz.prog 38 #[.int .i64 k] w fun e w' => e = .returned (.tuple #[.agg #[.bool (subB k), .bool (fromB k), .bool (toB k), .bool (newsB k)], .bool (isB k)]) ∧ Below w.heap.size w w' := by
  have HB : ∀ o o', Hid (Below w.heap.size w ((w.alloc o).alloc o')) := fun o o' => ((below_new w _).alloc (by simp) _)
  by_cases h1 : k = 1
  · subst h1
    go_enter Tryz.func38, Tryz.ntmps38
    go_wp2
    go_returns
    exact ⟨rfl, (HB _ _).out⟩
  by_cases h2 : k = 2
  · subst h2
    go_enter Tryz.func38, Tryz.ntmps38
    go_wp2
    go_returns
    exact ⟨rfl, (HB _ _).out⟩
  by_cases h3 : k = 3
  · subst h3
    go_enter Tryz.func38, Tryz.ntmps38
    go_wp2
    go_returns
    exact ⟨rfl, (HB _ _).out⟩
  by_cases h4 : k = 4
  · subst h4
    go_enter Tryz.func38, Tryz.ntmps38
    go_wp2
    go_returns
    exact ⟨rfl, (HB _ _).out⟩
  by_cases h5 : k = 5
  · subst h5
    go_enter Tryz.func38, Tryz.ntmps38
    go_wp2
    go_returns
    exact ⟨rfl, (HB _ _).out⟩
  by_cases h6 : k = 6
  · subst h6
    go_enter Tryz.func38, Tryz.ntmps38
    go_wp2
    go_returns
    exact ⟨rfl, (HB _ _).out⟩
  have e1 : subB k = false := by simp [subB, *]
  have e2 : fromB k = false := by simp [fromB, *]
  have e3 : toB k = false := by simp [toB, *]
  have e4 : newsB k = false := by simp [newsB, *]
  have e5 : isB k = false := by simp only [isB, decide_eq_false_iff_not]; omega
  rw [e1, e2, e3, e4, e5]
  clear e1 e2 e3 e4 e5
  go_enter Tryz.func38, Tryz.ntmps38
  go_wp2
  go_returns
  exact ⟨rfl, (HB _ _).out⟩

set_option maxRecDepth 100000 in
set_option maxHeartbeats 4000000 in
theorem pc_numbers (p : Pc) (sa : Option Addr) (sn sc : Nat) (ia : Option Addr) (im ic : Nat) (su fr to_ nw : Bool) (w : World) : Calls Tryz.prog 39 #[p.val sa sn sc ia im ic, .agg #[.bool su, .bool fr, .bool to_, .bool nw]] w fun e w' => e = .returned (.bool (numB p su fr to_)) ∧ Below w.heap.size w w' := by
  have HB : ∀ o o', Hid (Below w.heap.size w ((w.alloc o).alloc o')) := fun o o' => ((below_new w _).alloc (by simp) _)
  obtain ⟨b, HF⟩ : ∃ b, Hid (b = numB p su fr to_) := ⟨_, rfl⟩
  rw [← HF.out]
  obtain ⟨pk, pp, ps, pn, pf, pt, pl, pi⟩ := p
  unfold Pc.val
  simp only [numB, pubB, namB, rngB, froB] at HF
  simp only
  by_cases h1 : 0 ≤ pp
  · by_cases h2 : pp < 3
    · cases su with
      | true =>
        by_cases h3 : 1 ≤ ps
        · by_cases h4 : ps ≤ 32
          · by_cases h5 : 1 ≤ pn
            · by_cases h6 : pn ≤ 1073741824
              · cases to_ with
                | true =>
                  by_cases h7 : 1 ≤ pf
                  · by_cases h8 : pf ≤ pt
                    · by_cases h9 : pt ≤ 1099511627776
                      · have HX : Hid (b = true) := by show _ = _; rw [HF.out]; simp <;> omega
                        clear HF
                        go_enter Tryz.func39, Tryz.ntmps39
                        go_wp2
                        go_ret
                        exact ⟨by rw [HX.out]; rfl, (HB _ _).out⟩
                      · have HX : Hid (b = false) := by show _ = _; rw [HF.out]; simp <;> omega
                        clear HF
                        go_enter Tryz.func39, Tryz.ntmps39
                        go_wp2
                        go_ret
                        exact ⟨by rw [HX.out]; rfl, (HB _ _).out⟩
                    · have HX : Hid (b = false) := by show _ = _; rw [HF.out]; simp <;> omega
                      clear HF
                      go_enter Tryz.func39, Tryz.ntmps39
                      go_wp2
                      go_ret
                      exact ⟨by rw [HX.out]; rfl, (HB _ _).out⟩
                  · have HX : Hid (b = false) := by show _ = _; rw [HF.out]; simp <;> omega
                    clear HF
                    go_enter Tryz.func39, Tryz.ntmps39
                    go_wp2
                    go_ret
                    exact ⟨by rw [HX.out]; rfl, (HB _ _).out⟩
                | false =>
                  cases fr with
                  | true =>
                    by_cases h7 : 0 ≤ pf
                    · by_cases h8 : pf ≤ 1099511627776
                      · have HX : Hid (b = true) := by show _ = _; rw [HF.out]; simp <;> omega
                        clear HF
                        go_enter Tryz.func39, Tryz.ntmps39
                        go_wp2
                        go_ret
                        exact ⟨by rw [HX.out]; rfl, (HB _ _).out⟩
                      · have HX : Hid (b = false) := by show _ = _; rw [HF.out]; simp <;> omega
                        clear HF
                        go_enter Tryz.func39, Tryz.ntmps39
                        go_wp2
                        go_ret
                        exact ⟨by rw [HX.out]; rfl, (HB _ _).out⟩
                    · have HX : Hid (b = false) := by show _ = _; rw [HF.out]; simp <;> omega
                      clear HF
                      go_enter Tryz.func39, Tryz.ntmps39
                      go_wp2
                      go_ret
                      exact ⟨by rw [HX.out]; rfl, (HB _ _).out⟩
                  | false =>
                    have HX : Hid (b = true) := by show _ = _; rw [HF.out]; simp <;> omega
                    clear HF
                    go_enter Tryz.func39, Tryz.ntmps39
                    go_wp2
                    go_ret
                    exact ⟨by rw [HX.out]; rfl, (HB _ _).out⟩
              · have HX : Hid (b = false) := by show _ = _; rw [HF.out]; simp <;> omega
                clear HF
                go_enter Tryz.func39, Tryz.ntmps39
                go_wp2
                go_ret
                exact ⟨by rw [HX.out]; rfl, (HB _ _).out⟩
            · have HX : Hid (b = false) := by show _ = _; rw [HF.out]; simp <;> omega
              clear HF
              go_enter Tryz.func39, Tryz.ntmps39
              go_wp2
              go_ret
              exact ⟨by rw [HX.out]; rfl, (HB _ _).out⟩
          · have HX : Hid (b = false) := by show _ = _; rw [HF.out]; simp <;> omega
            clear HF
            go_enter Tryz.func39, Tryz.ntmps39
            go_wp2
            go_ret
            exact ⟨by rw [HX.out]; rfl, (HB _ _).out⟩
        · have HX : Hid (b = false) := by show _ = _; rw [HF.out]; simp <;> omega
          clear HF
          go_enter Tryz.func39, Tryz.ntmps39
          go_wp2
          go_ret
          exact ⟨by rw [HX.out]; rfl, (HB _ _).out⟩
      | false =>
        cases to_ with
        | true =>
          by_cases h3 : 1 ≤ pf
          · by_cases h4 : pf ≤ pt
            · by_cases h5 : pt ≤ 1099511627776
              · have HX : Hid (b = true) := by show _ = _; rw [HF.out]; simp <;> omega
                clear HF
                go_enter Tryz.func39, Tryz.ntmps39
                go_wp2
                go_ret
                exact ⟨by rw [HX.out]; rfl, (HB _ _).out⟩
              · have HX : Hid (b = false) := by show _ = _; rw [HF.out]; simp <;> omega
                clear HF
                go_enter Tryz.func39, Tryz.ntmps39
                go_wp2
                go_ret
                exact ⟨by rw [HX.out]; rfl, (HB _ _).out⟩
            · have HX : Hid (b = false) := by show _ = _; rw [HF.out]; simp <;> omega
              clear HF
              go_enter Tryz.func39, Tryz.ntmps39
              go_wp2
              go_ret
              exact ⟨by rw [HX.out]; rfl, (HB _ _).out⟩
          · have HX : Hid (b = false) := by show _ = _; rw [HF.out]; simp <;> omega
            clear HF
            go_enter Tryz.func39, Tryz.ntmps39
            go_wp2
            go_ret
            exact ⟨by rw [HX.out]; rfl, (HB _ _).out⟩
        | false =>
          cases fr with
          | true =>
            by_cases h3 : 0 ≤ pf
            · by_cases h4 : pf ≤ 1099511627776
              · have HX : Hid (b = true) := by show _ = _; rw [HF.out]; simp <;> omega
                clear HF
                go_enter Tryz.func39, Tryz.ntmps39
                go_wp2
                go_ret
                exact ⟨by rw [HX.out]; rfl, (HB _ _).out⟩
              · have HX : Hid (b = false) := by show _ = _; rw [HF.out]; simp <;> omega
                clear HF
                go_enter Tryz.func39, Tryz.ntmps39
                go_wp2
                go_ret
                exact ⟨by rw [HX.out]; rfl, (HB _ _).out⟩
            · have HX : Hid (b = false) := by show _ = _; rw [HF.out]; simp <;> omega
              clear HF
              go_enter Tryz.func39, Tryz.ntmps39
              go_wp2
              go_ret
              exact ⟨by rw [HX.out]; rfl, (HB _ _).out⟩
          | false =>
            have HX : Hid (b = true) := by show _ = _; rw [HF.out]; simp <;> omega
            clear HF
            go_enter Tryz.func39, Tryz.ntmps39
            go_wp2
            go_ret
            exact ⟨by rw [HX.out]; rfl, (HB _ _).out⟩
    · have HX : Hid (b = false) := by show _ = _; rw [HF.out]; simp <;> omega
      clear HF
      go_enter Tryz.func39, Tryz.ntmps39
      go_wp2
      go_ret
      exact ⟨by rw [HX.out]; rfl, (HB _ _).out⟩
  · have HX : Hid (b = false) := by show _ = _; rw [HF.out]; simp <;> omega
    clear HF
    go_enter Tryz.func39, Tryz.ntmps39
    go_wp2
    go_ret
    exact ⟨by rw [HX.out]; rfl, (HB _ _).out⟩
-- end numbers
end Go.Proofs.YtidihfhgnjkmaaaGreat
/- parcel: spansMayBe, checkItems, Check. -/
namespace Go.Proofs.YtidihfhgnjkmaaaGreat
open Go.RowKit

theorem inB_not {p : Pc} {s : Sp} (h : ¬ ((s.is = 2 ∨ s.is = 3) ∧ p.fr ≤ s.fr ∧ s.to ≤ p.to_)) : inB p s = false := decide_eq_false h
theorem inB_ok {p : Pc} {s : Sp} (h : (s.is = 2 ∨ s.is = 3) ∧ p.fr ≤ s.fr ∧ s.to ≤ p.to_) : inB p s = true := decide_eq_true h

set_option maxRecDepth 100000 in
set_option maxHeartbeats 4000000 in
theorem pc_spans (p : Pc) (sa : Option Addr) (sn sc : Nat) (ia : Option Addr) (im ic : Nat) (w : World) (hp : SpsRd w sa sn p.spans) (hn : sn ≤ maxLen) : Calls Tryz.prog 40 #[p.val sa sn sc ia im ic] w fun e w' => e = .returned (.bool (spB p)) ∧ Below w.heap.size w w' := by
  have HR : Hid (SpsRd w sa sn p.spans) := hp
  have HN : Hid (sn ≤ maxLen) := hn
  obtain ⟨b, HF⟩ : ∃ b, Hid (b = spB p) := ⟨_, rfl⟩
  rw [← HF.out]
  obtain ⟨l, HL⟩ : ∃ l, Hid (l = p.spans) := ⟨_, rfl⟩
  rw [← HL.out] at HR
  have HF : Hid (b = (l.all (inB p) && rightB Sp.zr l)) := by show _ = _; rw [HF.out, spB, ← HL.out]
  unfold maxLen at hn
  clear hp HL
  unfold Pc.val
  obtain ⟨pk, pp, ps, pn, pf, pt, pl, pi⟩ := p
  simp only
  go_enter Tryz.func40, Tryz.ntmps40
  go_wp2
  go_loopw [8] (fun t8 wr => ∃ (k : Nat), k ≤ sn ∧ t8 = .int .i64 (k : Int) ∧ Hid (((l.drop k).all (inB ⟨pk, pp, ps, pn, pf, pt, pl, pi⟩) && rightB Sp.zr l) = b) ∧ Hid (Bk wr w.heap.size #[.int .i64 pk, .int .i64 pp, .int .i64 ps, .int .i64 pn, .int .i64 pf, .int .i64 pt, .slice sa sn sc, .slice ia im ic] 33) ∧ Hid (Below w.heap.size w wr)) (fun t8 _ => sn - (intOf t8).toNat)
  case atStart => exact ⟨0, by omega, rfl, HF.out.symm, Bk.new _ _ _, below_new _ _⟩
  case round =>
    obtain ⟨k, hk, rfl, HE, HK, HB⟩ := hrel
    by_cases hlt : k < sn
    · have hlt' : (k : Int) < (sn : Int) := by omega
      obtain ⟨g, o, rfl, hg, q, hq, c0, c1, c2⟩ := (HR.out.below HB.out).at_ k hlt
      have HD : Hid (l.drop k = q :: l.drop (k + 1)) := drop_at hq
      clear hq hg
      obtain ⟨qf, qt, qi⟩ := q
      simp only at c0 c1 c2
      have HK1 : Hid (Bk (wr.alloc (.cells #[.int .i64 qf, .int .i64 qt, .int .i64 qi] 62)) w.heap.size #[.int .i64 pk, .int .i64 pp, .int .i64 ps, .int .i64 pn, .int .i64 pf, .int .i64 pt, .slice (some ⟨g, o, none⟩) sn sc, .slice ia im ic] 33) := HK.out.stay (below_new _ _)
      have HB1 : Hid (Below w.heap.size w (wr.alloc (.cells #[.int .i64 qf, .int .i64 qt, .int .i64 qi] 62))) := HB.out.alloc HB.out.size _
      have HLT : Hid (w.heap.size < wr.heap.size) := HK.out.lt
      have a4 : (wr.alloc (.cells #[.int .i64 qf, .int .i64 qt, .int .i64 qi] 62)).cell? ⟨w.heap.size, 4, none⟩ = some (.int .i64 pf) := HK1.out.cell 4 rfl
      have a5 : (wr.alloc (.cells #[.int .i64 qf, .int .i64 qt, .int .i64 qi] 62)).cell? ⟨w.heap.size, 5, none⟩ = some (.int .i64 pt) := HK1.out.cell 5 rfl
      by_cases h1 : qi = 2 ∨ qi = 3
      · by_cases h2 : pf ≤ qf
        · by_cases h3 : qt ≤ pt
          · have HX : Hid (((l.drop (k + 1)).all (inB ⟨pk, pp, ps, pn, pf, pt, pl, pi⟩) && rightB Sp.zr l) = b) := by
              show _ = _
              rw [← HE.out, HD.out, List.all_cons, inB_ok ⟨h1, h2, h3⟩, Bool.true_and]
            clear HE HK
            rcases h1 with rfl | rfl
            · go_wp2
              go_roundw
              case rel => exact ⟨k + 1, by omega, by go_num, HX, HK1, HB1⟩
              case measure => simp [intOf]; omega
            · go_wp2
              go_roundw
              case rel => exact ⟨k + 1, by omega, by go_num, HX, HK1, HB1⟩
              case measure => simp [intOf]; omega
          · have HX : Hid (b = false) := by
              show _ = _
              rw [← HE.out, HD.out, List.all_cons, inB_not (by simp only; omega), Bool.false_and, Bool.false_and]
            clear HE HK
            rcases h1 with rfl | rfl
            · go_wp2
              go_ret
              exact ⟨by rw [HX.out]; rfl, HB1.out⟩
            · go_wp2
              go_ret
              exact ⟨by rw [HX.out]; rfl, HB1.out⟩
        · have HX : Hid (b = false) := by
            show _ = _
            rw [← HE.out, HD.out, List.all_cons, inB_not (by simp only; omega), Bool.false_and, Bool.false_and]
          clear HE HK
          rcases h1 with rfl | rfl
          · go_wp2
            go_ret
            exact ⟨by rw [HX.out]; rfl, HB1.out⟩
          · go_wp2
            go_ret
            exact ⟨by rw [HX.out]; rfl, HB1.out⟩
      · have HX : Hid (b = false) := by
          show _ = _
          rw [← HE.out, HD.out, List.all_cons, inB_not (by simp only; omega), Bool.false_and, Bool.false_and]
        clear HE HK
        have n2 : ¬ qi = 2 := fun h => h1 (.inl h)
        have n3 : ¬ qi = 3 := fun h => h1 (.inr h)
        have n2' : (qi == 2) = false := by simpa using n2
        have n3' : (qi == 3) = false := by simpa using n3
        clear h1
        go_wp2
        go_ret
        exact ⟨by rw [HX.out]; rfl, HB1.out⟩
    · have hnl : ¬ (k : Int) < (sn : Int) := by omega
      have HX : Hid (rightB Sp.zr l = b) := by
        show _ = _
        rw [← HE.out, List.drop_of_length_le (by rw [HR.out.size]; omega)]
        rfl
      have a6 : wr.cell? ⟨w.heap.size, 6, none⟩ = some (.slice sa sn sc) := HK.out.cell 6 rfl
      clear HE HK
      go_wp2_with fail
      refine (span_Right sa sn sc l wr (HR.out.below HB.out) HN.out).mono ?_
      rintro e w2 ⟨rfl, hb2⟩
      have HB2 : Hid (Below w.heap.size w w2) := HB.out.trans (hb2.mono HB.out.size)
      clear hb2
      rw [HX.out]
      go_wp2
      go_ret
      exact ⟨rfl, HB2.out⟩
end Go.Proofs.YtidihfhgnjkmaaaGreat
/- parcel: checkItems, Check. -/
namespace Go.Proofs.YtidihfhgnjkmaaaGreat
open Go.RowKit

set_option maxRecDepth 100000 in
set_option maxHeartbeats 4000000 in
theorem pc_items (p : Pc) (sa : Option Addr) (sn sc : Nat) (ia : Option Addr) (im ic : Nat) (w : World) (hp : SpsRd w sa sn p.spans) (hn : sn ≤ maxLen) (hi : ItsRd w ia im p.items) (hm : im ≤ maxLen) (ht : p.to_ ≤ 1099511627776) : Calls Tryz.prog 41 #[p.val sa sn sc ia im ic] w fun e w' => e = .returned (.int .i64 (itE p p.fr p.items)) ∧ Below w.heap.size w w' := by
  have HR : Hid (SpsRd w sa sn p.spans ∧ sn ≤ maxLen) := ⟨hp, hn⟩
  have HI : Hid (ItsRd w ia im p.items) := hi
  have HT : Hid (p.to_ ≤ 1099511627776) := ht
  obtain ⟨b, HF⟩ : ∃ b, Hid (b = itE p p.fr p.items) := ⟨_, rfl⟩
  rw [← HF.out]
  unfold maxLen at hm
  clear hp hn hi ht
  unfold Pc.val
  obtain ⟨pk, pp, ps, pn, pf, pt, pl, pi⟩ := p
  simp only at HR HI HT
  simp only
  go_enter Tryz.func41, Tryz.ntmps41
  go_wp2
  go_loopw [3, 11] (fun t3 t11 wr => ∃ (k : Nat) (le : Int), k ≤ im ∧ t3 = .int .i64 le ∧ t11 = .int .i64 (k : Int) ∧ Hid (itE ⟨pk, pp, ps, pn, pf, pt, pl, pi⟩ le (pi.drop k) = b) ∧ Hid (Bk wr w.heap.size #[.int .i64 pk, .int .i64 pp, .int .i64 ps, .int .i64 pn, .int .i64 pf, .int .i64 pt, .slice sa sn sc, .slice ia im ic] 33) ∧ Hid (Below w.heap.size w wr)) (fun _ t11 _ => im - (intOf t11).toNat)
  case atStart => exact ⟨0, pf, by omega, rfl, rfl, HF.out.symm, Bk.new _ _ _, below_new _ _⟩
  case round =>
    obtain ⟨k, le, hk, rfl, rfl, HE, HK, HB⟩ := hrel
    by_cases hlt : k < im
    · have hlt' : (k : Int) < (im : Int) := by omega
      obtain ⟨g, o, rfl, hg, q, hq, c0, c1, ba, bl, bc, c2, hrd, hnc, hbl, hbc⟩ := (HI.out.below HB.out).at_ k hlt
      have HD : Hid (pi.drop k = q :: pi.drop (k + 1)) := it_at hq
      have HT2 : Hid ((-9223372036854775808 : Int) ≤ q.tick ∧ q.tick ≤ 9223372036854775807) := (HI.out.each q (List.mem_of_getElem? hq)).1
      have HLB : Hid (q.body.length = bl) := hrd.size
      clear hq hg hrd
      obtain ⟨qt, qf, qb⟩ := q
      simp only at c0 c1 c2
      have HK1 : Hid (Bk (wr.alloc (.cells #[.int .i64 qt, .int .u32 qf, .slice ba bl bc] 54)) w.heap.size #[.int .i64 pk, .int .i64 pp, .int .i64 ps, .int .i64 pn, .int .i64 pf, .int .i64 pt, .slice sa sn sc, .slice (some ⟨g, o, none⟩) im ic] 33) := HK.out.stay (below_new _ _)
      have HB1 : Hid (Below w.heap.size w (wr.alloc (.cells #[.int .i64 qt, .int .u32 qf, .slice ba bl bc] 54))) := HB.out.alloc HB.out.size _
      have HN1 : Hid (Bk (wr.alloc (.cells #[.int .i64 qt, .int .u32 qf, .slice ba bl bc] 54)) wr.heap.size #[.int .i64 qt, .int .u32 qf, .slice ba bl bc] 54) := Bk.new _ _ _
      have HLT : Hid (w.heap.size < wr.heap.size) := HK.out.lt
      have a5 : (wr.alloc (.cells #[.int .i64 qt, .int .u32 qf, .slice ba bl bc] 54)).cell? ⟨w.heap.size, 5, none⟩ = some (.int .i64 pt) := HK1.out.cell 5 rfl
      have a6 : (wr.alloc (.cells #[.int .i64 qt, .int .u32 qf, .slice ba bl bc] 54)).cell? ⟨w.heap.size, 6, none⟩ = some (.slice sa sn sc) := HK1.out.cell 6 rfl
      by_cases h1 : qt < le
      · have HX : Hid (b = 14) := by show _ = _; rw [← HE.out, HD.out, itE_tick (.inl h1)]
        clear HE HK
        go_wp2
        go_ret
        exact ⟨by rw [HX.out]; rfl, HB1.out⟩
      · by_cases h2 : pt < qt
        · have HX : Hid (b = 14) := by show _ = _; rw [← HE.out, HD.out, itE_tick (.inr (.inl h2))]
          clear HE HK
          go_wp2
          go_ret
          exact ⟨by rw [HX.out]; rfl, HB1.out⟩
        · clear HK
          go_wp2_with fail
          refine (span_At sa sn sc pl qt _ (HR.out.1.below HB1.out) HR.out.2).mono ?_
          rintro e w2 ⟨rfl, hb2⟩
          have HB2 : Hid (Below w.heap.size w w2) := HB1.out.trans (hb2.mono HB1.out.size)
          have HK2 := HK1.out.stay hb2
          have HN2 := HN1.out.stay hb2
          have HK2 : Hid (Bk w2 w.heap.size #[.int .i64 pk, .int .i64 pp, .int .i64 ps, .int .i64 pn, .int .i64 pf, .int .i64 pt, .slice sa sn sc, .slice (some ⟨g, o, none⟩) im ic] 33) := HK2
          have b0 : w2.cell? ⟨wr.heap.size, 0, none⟩ = some (.int .i64 qt) := HN2.cell 0 rfl
          have b2 : w2.cell? ⟨wr.heap.size, 2, none⟩ = some (.slice ba bl bc) := HN2.cell 2 rfl
          clear hb2 a5 a6 c0 c1 c2 HN2 HK1 HN1
          by_cases h3 : atS pl qt = 0
          · have h3' : (atS pl qt == 0) = true := by simpa using h3
            by_cases h4 : 400 < bl
            · have h4' : (400 : Int) < (bl : Int) := by omega
              have HX : Hid (b = 6) := by show _ = _; rw [← HE.out, HD.out, itE_long (by simp only; omega) (by rw [HLB.out]; exact h4)]
              clear HE
              go_wp2
              go_ret
              exact ⟨by rw [HX.out]; rfl, HB2.out⟩
            · have h4' : ¬ (400 : Int) < (bl : Int) := by omega
              have HX : Hid (itE ⟨pk, pp, ps, pn, pf, pt, pl, pi⟩ (qt + 1) (pi.drop (k + 1)) = b) := by show _ = _; rw [← HE.out, HD.out, itE_next (by simp only; omega) (by rw [HLB.out]; exact h4)]
              have hp1 : qt < 9223372036854775807 := by have := HT.out; omega
              have hp2 : (-9223372036854775808 : Int) ≤ qt := HT2.out.1
              clear HE
              go_wp2
              go_roundw
              case rel => exact ⟨k + 1, qt + 1, by omega, rfl, by go_num, HX, HK2, HB2⟩
              case measure => simp [intOf]; omega
          · have h3' : (atS pl qt == 0) = false := by simpa using h3
            have HX : Hid (b = 14) := by show _ = _; rw [← HE.out, HD.out, itE_tick (.inr (.inr h3))]
            clear HE
            go_wp2
            go_ret
            exact ⟨by rw [HX.out]; rfl, HB2.out⟩
    · have hnl : ¬ (k : Int) < (im : Int) := by omega
      have HX : Hid (b = 0) := by
        show _ = _
        rw [← HE.out, List.drop_of_length_le (by rw [HI.out.size]; omega)]
        rfl
      clear HE HK
      go_wp2
      go_ret
      exact ⟨by rw [HX.out]; rfl, HB.out⟩
end Go.Proofs.YtidihfhgnjkmaaaGreat
/- parcel.Check. -/
namespace Go.Proofs.YtidihfhgnjkmaaaGreat
open Go.RowKit

set_option maxRecDepth 100000 in
set_option maxHeartbeats 4000000 in
theorem pc_Check (p : Pc) (sa : Option Addr) (sn sc : Nat) (ia : Option Addr) (im ic : Nat) (w : World) (hp : PcRd w p sa sn sc ia im ic) : Calls Tryz.prog 13 #[p.val sa sn sc ia im ic] w fun e w' => e = .returned (.int .i64 (chk p)) ∧ Below w.heap.size w w' := by
  have HP : Hid (PcRd w p sa sn sc ia im ic) := hp
  have HSZ : Hid (p.spans.length = sn ∧ p.items.length = im) := ⟨hp.spans.size, hp.items.size⟩
  have hb1 : sn ≤ 9223372036854775807 := by have h1 := hp.sl; have h2 := hp.sm; unfold maxLen at h2; omega
  have hb2 : im ≤ 9223372036854775807 := by have h1 := hp.il; have h2 := hp.im_; unfold maxLen at h2; omega
  obtain ⟨b, HF⟩ : ∃ b, Hid (b = chk p) := ⟨_, rfl⟩
  rw [← HF.out]
  obtain ⟨p0, HP0⟩ : ∃ p0, Hid (p0 = p) := ⟨_, rfl⟩
  have HV : Hid (p0.val sa sn sc ia im ic = p.val sa sn sc ia im ic) := by show _ = _; rw [HP0.out]
  have hsz := HSZ.out
  rw [← HP0.out] at HP HF hsz
  clear hp HSZ
  obtain ⟨pk, pp, ps, pn, pf, pt, pl, pi⟩ := p
  unfold Pc.val
  simp only
  have HBx : Hid (Below w.heap.size w (w.alloc (.cells #[.int .i64 pk, .int .i64 pp, .int .i64 ps, .int .i64 pn, .int .i64 pf, .int .i64 pt, .slice sa sn sc, .slice ia im ic] 33))) := below_new _ _
  have HKx : Hid (Bk (w.alloc (.cells #[.int .i64 pk, .int .i64 pp, .int .i64 ps, .int .i64 pn, .int .i64 pf, .int .i64 pt, .slice sa sn sc, .slice ia im ic] 33)) w.heap.size #[.int .i64 pk, .int .i64 pp, .int .i64 ps, .int .i64 pn, .int .i64 pf, .int .i64 pt, .slice sa sn sc, .slice ia im ic] 33) := Bk.new _ _ _
  have HKI : Hid (p0.kind = pk) := by show _ = _; rw [HP0.out]
  go_enter Tryz.func13, Tryz.ntmps13
  go_wp2_with fail
  refine (pc_usedBy pk _).mono ?_
  rintro e w1 ⟨rfl, hb1'⟩
  have HB1 : Hid (Below w.heap.size w w1) := HBx.out.trans (hb1'.mono HBx.out.size)
  have HK1 := HKx.out.stay hb1'
  have HK1 : Hid (Bk w1 w.heap.size #[.int .i64 pk, .int .i64 pp, .int .i64 ps, .int .i64 pn, .int .i64 pf, .int .i64 pt, .slice sa sn sc, .slice ia im ic] 33) := HK1
  clear hb1' HKx HBx
  generalize hsu : subB pk = su
  generalize hfr : fromB pk = fr
  generalize hto : toB pk = to_
  generalize hnw : newsB pk = nw
  have HBX : Hid (Below w.heap.size w (w1.alloc (.cells #[.bool su, .bool fr, .bool to_, .bool nw] 88))) := HB1.out.alloc HB1.out.size _
  have HKX := HK1.out.stay (below_new w1 (.cells #[.bool su, .bool fr, .bool to_, .bool nw] 88))
  have HKX : Hid (Bk (w1.alloc (.cells #[.bool su, .bool fr, .bool to_, .bool nw] 88)) w.heap.size #[.int .i64 pk, .int .i64 pp, .int .i64 ps, .int .i64 pn, .int .i64 pf, .int .i64 pt, .slice sa sn sc, .slice ia im ic] 33) := HKX
  have HUX : Hid (Bk (w1.alloc (.cells #[.bool su, .bool fr, .bool to_, .bool nw] 88)) w1.heap.size #[.bool su, .bool fr, .bool to_, .bool nw] 88) := Bk.new _ _ _
  have HLT : Hid (w.heap.size < w1.heap.size) := HK1.out.lt
  cases his : isB pk with
  | false =>
    have HX : Hid (b = 12) := by show _ = _; rw [HF.out, chk_type (by rw [HKI.out]; exact his)]
    clear HF hsu hfr hto hnw his
    go_wp2
    go_ret
    exact ⟨by rw [HX.out]; rfl, HBX.out⟩
  | true =>
    have HIS : Hid (isB p0.kind = true) := by show _ = _; rw [HKI.out]; exact his
    have HUS : Hid (subB p0.kind = su ∧ fromB p0.kind = fr ∧ toB p0.kind = to_ ∧ newsB p0.kind = nw) := by rw [HKI.out]; exact ⟨hsu, hfr, hto, hnw⟩
    have d0 : (w1.alloc (.cells #[.bool su, .bool fr, .bool to_, .bool nw] 88)).cell? ⟨w.heap.size, 0, none⟩ = some (.int .i64 pk) := HKX.out.cell 0 rfl
    have d1 : (w1.alloc (.cells #[.bool su, .bool fr, .bool to_, .bool nw] 88)).cell? ⟨w.heap.size, 1, none⟩ = some (.int .i64 pp) := HKX.out.cell 1 rfl
    have d2 : (w1.alloc (.cells #[.bool su, .bool fr, .bool to_, .bool nw] 88)).cell? ⟨w.heap.size, 2, none⟩ = some (.int .i64 ps) := HKX.out.cell 2 rfl
    have d3 : (w1.alloc (.cells #[.bool su, .bool fr, .bool to_, .bool nw] 88)).cell? ⟨w.heap.size, 3, none⟩ = some (.int .i64 pn) := HKX.out.cell 3 rfl
    have d4 : (w1.alloc (.cells #[.bool su, .bool fr, .bool to_, .bool nw] 88)).cell? ⟨w.heap.size, 4, none⟩ = some (.int .i64 pf) := HKX.out.cell 4 rfl
    have d5 : (w1.alloc (.cells #[.bool su, .bool fr, .bool to_, .bool nw] 88)).cell? ⟨w.heap.size, 5, none⟩ = some (.int .i64 pt) := HKX.out.cell 5 rfl
    have d6 : (w1.alloc (.cells #[.bool su, .bool fr, .bool to_, .bool nw] 88)).cell? ⟨w.heap.size, 6, none⟩ = some (.slice sa sn sc) := HKX.out.cell 6 rfl
    have d7 : (w1.alloc (.cells #[.bool su, .bool fr, .bool to_, .bool nw] 88)).cell? ⟨w.heap.size, 7, none⟩ = some (.slice ia im ic) := HKX.out.cell 7 rfl
    clear hsu hfr hto hnw his
    go_wp2_with fail
    have hc := pc_numbers p0 sa sn sc ia im ic su fr to_ nw (w1.alloc (.cells #[.bool su, .bool fr, .bool to_, .bool nw] 88))
    rw [HV.out] at hc
    refine hc.mono ?_
    clear hc d0 d1 d2 d3 d4 d5 d6 d7
    rintro e w2 ⟨rfl, hb2'⟩
    have HB2 : Hid (Below w.heap.size w w2) := HBX.out.trans (hb2'.mono HBX.out.size)
    have HK2 := HKX.out.stay hb2'
    have HK2 : Hid (Bk w2 w.heap.size #[.int .i64 pk, .int .i64 pp, .int .i64 ps, .int .i64 pn, .int .i64 pf, .int .i64 pt, .slice sa sn sc, .slice ia im ic] 33) := HK2
    have HU2 := HUX.out.stay hb2'
    have u3 : w2.cell? ⟨w1.heap.size, 3, none⟩ = some (.bool nw) := HU2.cell 3 rfl
    clear hb2' HKX HBX HUX HU2
    cases hnu : numB p0 su fr to_ with
    | false =>
      have HX : Hid (b = 2) := by show _ = _; obtain ⟨e1, e2, e3, e4⟩ := HUS.out; rw [HF.out, chk_arg HIS.out (by rw [e1, e2, e3]; exact hnu)]
      clear HF hnu
      go_wp2
      go_ret
      exact ⟨by rw [HX.out]; rfl, HB2.out⟩
    | true =>
      have HNU : Hid (numB p0 (subB p0.kind) (fromB p0.kind) (toB p0.kind) = true) := by show _ = _; obtain ⟨e1, e2, e3, e4⟩ := HUS.out; rw [e1, e2, e3]; exact hnu
      clear hnu
      cases nw with
      | false =>
        have HX : Hid (b = 0) := by show _ = _; obtain ⟨e1, e2, e3, e4⟩ := HUS.out; rw [HF.out, chk_plain HIS.out HNU.out e4]
        clear HF
        go_wp2
        go_ret
        exact ⟨by rw [HX.out]; rfl, HB2.out⟩
      | true =>
        have HNW : Hid (newsB p0.kind = true) := HUS.out.2.2.2
        have HTO : Hid (p0.to_ ≤ 1099511627776) := by
          have h1 := HNU.out
          have h2 : toB p0.kind = true := by have := HNW.out; simp only [newsB, decide_eq_true_eq] at this; rw [this]; rfl
          rw [h2] at h1
          have h3 := num_to h1
          simp only [rngB, decide_eq_true_eq] at h3
          exact h3.2.2
        have a0 : w2.cell? ⟨w.heap.size, 0, none⟩ = some (.int .i64 pk) := HK2.out.cell 0 rfl
        have a1 : w2.cell? ⟨w.heap.size, 1, none⟩ = some (.int .i64 pp) := HK2.out.cell 1 rfl
        have a2 : w2.cell? ⟨w.heap.size, 2, none⟩ = some (.int .i64 ps) := HK2.out.cell 2 rfl
        have a3 : w2.cell? ⟨w.heap.size, 3, none⟩ = some (.int .i64 pn) := HK2.out.cell 3 rfl
        have a4 : w2.cell? ⟨w.heap.size, 4, none⟩ = some (.int .i64 pf) := HK2.out.cell 4 rfl
        have a5 : w2.cell? ⟨w.heap.size, 5, none⟩ = some (.int .i64 pt) := HK2.out.cell 5 rfl
        have a6 : w2.cell? ⟨w.heap.size, 6, none⟩ = some (.slice sa sn sc) := HK2.out.cell 6 rfl
        have a7 : w2.cell? ⟨w.heap.size, 7, none⟩ = some (.slice ia im ic) := HK2.out.cell 7 rfl
        by_cases h1 : 32 < sn
        · have h1' : (32 : Int) < (sn : Int) := by omega
          have HX : Hid (b = 6) := by show _ = _; rw [HF.out, chk_many HIS.out HNU.out HNW.out (.inl (by rw [hsz.1]; exact h1))]
          clear HF
          go_wp2
          go_ret
          exact ⟨by rw [HX.out]; rfl, HB2.out⟩
        have h1' : ¬ (32 : Int) < (sn : Int) := by omega
        by_cases h2 : 8 < im
        · have h2' : (8 : Int) < (im : Int) := by omega
          have HX : Hid (b = 6) := by show _ = _; rw [HF.out, chk_many HIS.out HNU.out HNW.out (.inr (by rw [hsz.2]; exact h2))]
          clear HF
          go_wp2
          go_ret
          exact ⟨by rw [HX.out]; rfl, HB2.out⟩
        have h2' : ¬ (8 : Int) < (im : Int) := by omega
        have HNM : Hid (¬ (32 < p0.spans.length ∨ 8 < p0.items.length)) := by rw [hsz.1, hsz.2]; exact not_or.2 ⟨h1, h2⟩
        have hcs := pc_spans p0 sa sn sc ia im ic w2 (HP.out.spans.below HB2.out) (Nat.le_trans HP.out.sl HP.out.sm)
        rw [HV.out] at hcs
        have HCS : Hid (Calls Tryz.prog 40 #[Pc.val ⟨pk, pp, ps, pn, pf, pt, pl, pi⟩ sa sn sc ia im ic] w2 fun e w' => e = .returned (.bool (spB p0)) ∧ Below w2.heap.size w2 w') := hcs
        clear hcs hsz
        go_wp2_with fail
        refine HCS.out.mono ?_
        clear HCS a0 a1 a2 a3 a4 a5 a6 a7
        rintro e w3 ⟨rfl, hb3⟩
        have HB3 : Hid (Below w.heap.size w w3) := HB2.out.trans (hb3.mono HB2.out.size)
        have HK3 := HK2.out.stay hb3
        have HK3 : Hid (Bk w3 w.heap.size #[.int .i64 pk, .int .i64 pp, .int .i64 ps, .int .i64 pn, .int .i64 pf, .int .i64 pt, .slice sa sn sc, .slice ia im ic] 33) := HK3
        clear hb3 HK2
        cases hsp : spB p0 with
        | false =>
          have HX : Hid (b = 4) := by show _ = _; rw [HF.out, chk_form HIS.out HNU.out HNW.out HNM.out hsp]
          clear HF hsp
          go_wp2
          go_ret
          exact ⟨by rw [HX.out]; rfl, HB3.out⟩
        | true =>
          have HX : Hid (itE p0 p0.fr p0.items = b) := by show _ = _; rw [HF.out, chk_items HIS.out HNU.out HNW.out HNM.out hsp]
          clear HF hsp
          have a0 : w3.cell? ⟨w.heap.size, 0, none⟩ = some (.int .i64 pk) := HK3.out.cell 0 rfl
          have a1 : w3.cell? ⟨w.heap.size, 1, none⟩ = some (.int .i64 pp) := HK3.out.cell 1 rfl
          have a2 : w3.cell? ⟨w.heap.size, 2, none⟩ = some (.int .i64 ps) := HK3.out.cell 2 rfl
          have a3 : w3.cell? ⟨w.heap.size, 3, none⟩ = some (.int .i64 pn) := HK3.out.cell 3 rfl
          have a4 : w3.cell? ⟨w.heap.size, 4, none⟩ = some (.int .i64 pf) := HK3.out.cell 4 rfl
          have a5 : w3.cell? ⟨w.heap.size, 5, none⟩ = some (.int .i64 pt) := HK3.out.cell 5 rfl
          have a6 : w3.cell? ⟨w.heap.size, 6, none⟩ = some (.slice sa sn sc) := HK3.out.cell 6 rfl
          have a7 : w3.cell? ⟨w.heap.size, 7, none⟩ = some (.slice ia im ic) := HK3.out.cell 7 rfl
          have hci := pc_items p0 sa sn sc ia im ic w3 (HP.out.spans.below HB3.out) (Nat.le_trans HP.out.sl HP.out.sm) (HP.out.items.below HB3.out) (Nat.le_trans HP.out.il HP.out.im_) HTO.out
          rw [HV.out, HX.out] at hci
          have HCI : Hid (Calls Tryz.prog 41 #[Pc.val ⟨pk, pp, ps, pn, pf, pt, pl, pi⟩ sa sn sc ia im ic] w3 fun e w' => e = .returned (.int .i64 b) ∧ Below w3.heap.size w3 w') := hci
          clear hci
          go_wp2_with fail
          refine HCI.out.mono ?_
          clear HCI a0 a1 a2 a3 a4 a5 a6 a7
          rintro e w4 ⟨rfl, hb4⟩
          have HB4 : Hid (Below w.heap.size w w4) := HB3.out.trans (hb4.mono HB3.out.size)
          clear hb4
          go_wp2
          go_ret
          exact ⟨rfl, HB4.out⟩
end Go.Proofs.YtidihfhgnjkmaaaGreat
/- grapevineref13: ranged, named, from, Check. -/
namespace Go.Proofs.YtidihfhgnjkmaaaGreat
open Go.RowKit

set_option maxRecDepth 100000 in
theorem ref_ranged (k : Int) (w : World) : Calls Tryz.prog 89 #[.int .i64 k] w fun e w' => e = .returned (.bool (toB k)) ∧ w' = w := by
  by_cases h1 : k = 1
  · subst h1
    go_enter Tryz.func89, Tryz.ntmps89
    go_wp2
    go_ret
    exact ⟨rfl, rfl⟩
  by_cases h2 : k = 2
  · subst h2
    go_enter Tryz.func89, Tryz.ntmps89
    go_wp2
    go_ret
    exact ⟨rfl, rfl⟩
  have e3 : toB k = false := by simp [toB, *]
  have h1' : (k == 1) = false := by simpa using h1
  have h2' : (k == 2) = false := by simpa using h2
  rw [e3]
  clear e3
  go_enter Tryz.func89, Tryz.ntmps89
  go_wp2
  go_ret
  exact ⟨rfl, rfl⟩
set_option maxRecDepth 100000 in
theorem ref_named (k : Int) (w : World) : Calls Tryz.prog 90 #[.int .i64 k] w fun e w' => e = .returned (.bool (subB k)) ∧ w' = w := by
  by_cases h1 : k = 3
  · subst h1
    go_enter Tryz.func90, Tryz.ntmps90
    go_wp2
    go_ret
    exact ⟨rfl, rfl⟩
  by_cases h2 : k = 4
  · subst h2
    go_enter Tryz.func90, Tryz.ntmps90
    go_wp2
    go_ret
    exact ⟨rfl, rfl⟩
  by_cases h3 : k = 5
  · subst h3
    go_enter Tryz.func90, Tryz.ntmps90
    go_wp2
    go_ret
    exact ⟨rfl, rfl⟩
  by_cases h4 : k = 6
  · subst h4
    go_enter Tryz.func90, Tryz.ntmps90
    go_wp2
    go_ret
    exact ⟨rfl, rfl⟩
  have e3 : subB k = false := by simp [subB, *]
  have h1' : (k == 3) = false := by simpa using h1
  have h2' : (k == 4) = false := by simpa using h2
  have h3' : (k == 5) = false := by simpa using h3
  have h4' : (k == 6) = false := by simpa using h4
  rw [e3]
  clear e3
  go_enter Tryz.func90, Tryz.ntmps90
  go_wp2
  go_ret
  exact ⟨rfl, rfl⟩
set_option maxRecDepth 100000 in
theorem ref_from (k : Int) (w : World) : Calls Tryz.prog 91 #[.int .i64 k] w fun e w' => e = .returned (.bool (fromB k)) ∧ w' = w := by
  obtain ⟨b, HF⟩ : ∃ b, Hid (b = fromB k) := ⟨_, rfl⟩
  rw [← HF.out]
  go_enter Tryz.func91, Tryz.ntmps91
  go_wp2_with fail
  refine (ref_ranged k w).mono ?_
  by_cases h1 : k = 1 ∨ k = 2
  · rw [show toB k = true from by simp [toB, h1]]
    have HX : Hid (b = true) := by show _ = _; rw [HF.out]; simp [fromB]; omega
    rintro e w1 ⟨rfl, rfl⟩
    clear HF h1
    go_wp2
    go_ret
    exact ⟨by rw [HX.out]; rfl, rfl⟩
  · rw [show toB k = false from by simp [toB, h1]]
    rintro e w1 ⟨rfl, rfl⟩
    by_cases h3 : k = 3
    · have HX : Hid (b = true) := by show _ = _; rw [HF.out]; simp [fromB]; omega
      clear HF h1
      subst h3
      go_wp2
      go_ret
      exact ⟨by rw [HX.out]; rfl, rfl⟩
    have h3' : (k == 3) = false := by simpa using h3
    by_cases h5 : k = 5
    · have HX : Hid (b = true) := by show _ = _; rw [HF.out]; simp [fromB]; omega
      clear HF h1 h3 h3'
      subst h5
      go_wp2
      go_ret
      exact ⟨by rw [HX.out]; rfl, rfl⟩
    have h5' : (k == 5) = false := by simpa using h5
    have HX : Hid (b = false) := by show _ = _; rw [HF.out]; simp [fromB]; omega
    clear HF h1
    go_wp2
    go_ret
    exact ⟨by rw [HX.out]; rfl, rfl⟩
end Go.Proofs.YtidihfhgnjkmaaaGreat
/- grapevineref13.Check. -/
namespace Go.Proofs.YtidihfhgnjkmaaaGreat
open Go.RowKit

theorem chk_num {p : Pc} (h : isB p.kind = true) (h2 : numB p (subB p.kind) (fromB p.kind) (toB p.kind) = false) : chk p = 2 := chk_arg h h2
theorem tell_kind {k : Int} (h : k = 1) : isB k = true ∧ subB k = false ∧ fromB k = true ∧ toB k = true ∧ newsB k = true := by subst h; decide
theorem want_kind {k : Int} (h : k = 2) : isB k = true ∧ subB k = false ∧ fromB k = true ∧ toB k = true ∧ newsB k = false := by subst h; decide
theorem ack_kind {k : Int} (h : k = 3 ∨ k = 5) : isB k = true ∧ subB k = true ∧ fromB k = true ∧ toB k = false ∧ newsB k = false := by rcases h with rfl | rfl <;> decide
theorem join_kind {k : Int} (h : k = 4 ∨ k = 6) : isB k = true ∧ subB k = true ∧ fromB k = false ∧ toB k = false ∧ newsB k = false := by rcases h with rfl | rfl <;> decide
theorem bad_kind {k : Int} (h : isB k = false) : subB k = false ∧ fromB k = false ∧ toB k = false ∧ newsB k = false := by
  simp only [isB, decide_eq_false_iff_not] at h
  refine ⟨?_, ?_, ?_, ?_⟩
  · simp only [subB, decide_eq_false_iff_not]; omega
  · simp only [fromB, decide_eq_false_iff_not]; omega
  · simp only [toB, decide_eq_false_iff_not]; omega
  · simp only [newsB, decide_eq_false_iff_not]; omega

set_option maxRecDepth 100000 in
set_option maxHeartbeats 4000000 in
theorem ref_Check_bad (pk pp ps pn pf pt : Int) (pl : List Sp) (pi : List It) (sa : Option Addr) (sn sc : Nat) (ia : Option Addr) (im ic : Nat) (w : World) (hk : isB pk = false) : Calls Tryz.prog 73 #[Pc.val ⟨pk, pp, ps, pn, pf, pt, pl, pi⟩ sa sn sc ia im ic] w fun e w' => e = .returned (.int .i64 (chk ⟨pk, pp, ps, pn, pf, pt, pl, pi⟩)) ∧ Below w.heap.size w w' := by
  have HB : Hid (Below w.heap.size w (w.alloc (.cells #[.int .i64 pk, .int .i64 pp, .int .i64 ps, .int .i64 pn, .int .i64 pf, .int .i64 pt, .slice sa sn sc, .slice ia im ic] 33))) := below_new _ _
  obtain ⟨b, HF⟩ : ∃ b, Hid (b = chk ⟨pk, pp, ps, pn, pf, pt, pl, pi⟩) := ⟨_, rfl⟩
  rw [← HF.out]
  unfold Pc.val
  simp only
  have HX : Hid (b = 12) := by show _ = _; rw [HF.out, chk_type hk]
  have HR : Hid (toB pk = false) := (bad_kind hk).2.2.1
  have HN : Hid (subB pk = false) := (bad_kind hk).1
  clear HF hk
  go_enter Tryz.func73, Tryz.ntmps73
  go_wp2_with fail
  refine (ref_ranged pk _).mono ?_
  rw [HR.out]
  rintro e w1 ⟨rfl, rfl⟩
  go_wp2_with fail
  refine (ref_named pk _).mono ?_
  rw [HN.out]
  rintro e w1 ⟨rfl, rfl⟩
  go_wp2
  go_ret
  exact ⟨by rw [HX.out]; rfl, HB.out⟩

set_option maxRecDepth 100000 in
set_option maxHeartbeats 4000000 in
theorem ref_Check_want (pk pp ps pn pf pt : Int) (pl : List Sp) (pi : List It) (sa : Option Addr) (sn sc : Nat) (ia : Option Addr) (im ic : Nat) (w : World) (hk : pk = 2) : Calls Tryz.prog 73 #[Pc.val ⟨pk, pp, ps, pn, pf, pt, pl, pi⟩ sa sn sc ia im ic] w fun e w' => e = .returned (.int .i64 (chk ⟨pk, pp, ps, pn, pf, pt, pl, pi⟩)) ∧ Below w.heap.size w w' := by
  have HB : Hid (Below w.heap.size w (w.alloc (.cells #[.int .i64 pk, .int .i64 pp, .int .i64 ps, .int .i64 pn, .int .i64 pf, .int .i64 pt, .slice sa sn sc, .slice ia im ic] 33))) := below_new _ _
  obtain ⟨b, HF⟩ : ∃ b, Hid (b = chk ⟨pk, pp, ps, pn, pf, pt, pl, pi⟩) := ⟨_, rfl⟩
  rw [← HF.out]
  unfold Pc.val
  simp only
  have HK : Hid (isB pk = true ∧ subB pk = false ∧ fromB pk = true ∧ toB pk = true ∧ newsB pk = false) := want_kind hk
  have HR : Hid (toB pk = true) := HK.out.2.2.2.1
  have HN : Hid (subB pk = false) := HK.out.2.1
  have HO : Hid (fromB pk = true) := HK.out.2.2.1
  have hk1 : ¬ pk = 1 := by omega
  have hk1' : (pk == 1) = false := by simpa using hk1
  clear hk
  go_enter Tryz.func73, Tryz.ntmps73
  go_wp2_with fail
  refine (ref_ranged pk _).mono ?_
  rw [HR.out]
  rintro e w1 ⟨rfl, rfl⟩
  by_cases h1 : ¬ (0 ≤ pp)
  · have HX : Hid (b = 2) := by show _ = _; rw [HF.out, chk_num HK.out.1 (by simp only [HK.out.2.1, HK.out.2.2.1, HK.out.2.2.2.1, numB, pubB, namB, rngB, froB]; simp; omega)]
    clear HF
    go_wp2
    go_ret
    exact ⟨by rw [HX.out]; rfl, HB.out⟩
  replace h1 := Decidable.not_not.1 h1
  by_cases h2 : ¬ (pp < 3)
  · have HX : Hid (b = 2) := by show _ = _; rw [HF.out, chk_num HK.out.1 (by simp only [HK.out.2.1, HK.out.2.2.1, HK.out.2.2.2.1, numB, pubB, namB, rngB, froB]; simp; omega)]
    clear HF
    go_wp2
    go_ret
    exact ⟨by rw [HX.out]; rfl, HB.out⟩
  replace h2 := Decidable.not_not.1 h2
  go_wp2_with fail
  refine (ref_named pk _).mono ?_
  rw [HN.out]
  rintro e w1 ⟨rfl, rfl⟩
  go_wp2_with fail
  refine (ref_ranged pk _).mono ?_
  rw [HR.out]
  rintro e w1 ⟨rfl, rfl⟩
  by_cases h3 : ¬ (1 ≤ pf)
  · have HX : Hid (b = 2) := by show _ = _; rw [HF.out, chk_num HK.out.1 (by simp only [HK.out.2.1, HK.out.2.2.1, HK.out.2.2.2.1, numB, pubB, namB, rngB, froB]; simp; omega)]
    clear HF
    go_wp2
    go_ret
    exact ⟨by rw [HX.out]; rfl, HB.out⟩
  replace h3 := Decidable.not_not.1 h3
  by_cases h4 : ¬ (pf ≤ pt)
  · have HX : Hid (b = 2) := by show _ = _; rw [HF.out, chk_num HK.out.1 (by simp only [HK.out.2.1, HK.out.2.2.1, HK.out.2.2.2.1, numB, pubB, namB, rngB, froB]; simp; omega)]
    clear HF
    go_wp2
    go_ret
    exact ⟨by rw [HX.out]; rfl, HB.out⟩
  replace h4 := Decidable.not_not.1 h4
  by_cases h5 : ¬ (pt ≤ 1099511627776)
  · have HX : Hid (b = 2) := by show _ = _; rw [HF.out, chk_num HK.out.1 (by simp only [HK.out.2.1, HK.out.2.2.1, HK.out.2.2.2.1, numB, pubB, namB, rngB, froB]; simp; omega)]
    clear HF
    go_wp2
    go_ret
    exact ⟨by rw [HX.out]; rfl, HB.out⟩
  replace h5 := Decidable.not_not.1 h5
  go_wp2_with fail
  refine (ref_named pk _).mono ?_
  rw [HN.out]
  rintro e w1 ⟨rfl, rfl⟩
  have HX : Hid (b = 0) := by show _ = _; rw [HF.out, chk_plain HK.out.1 (by simp only [HK.out.2.1, HK.out.2.2.1, HK.out.2.2.2.1, numB, pubB, namB, rngB, froB]; simp; omega) HK.out.2.2.2.2]
  clear HF
  go_wp2
  go_ret
  exact ⟨by rw [HX.out]; rfl, HB.out⟩

set_option maxRecDepth 100000 in
set_option maxHeartbeats 4000000 in
theorem ref_Check_ack (pk pp ps pn pf pt : Int) (pl : List Sp) (pi : List It) (sa : Option Addr) (sn sc : Nat) (ia : Option Addr) (im ic : Nat) (w : World) (hk : pk = 3 ∨ pk = 5) : Calls Tryz.prog 73 #[Pc.val ⟨pk, pp, ps, pn, pf, pt, pl, pi⟩ sa sn sc ia im ic] w fun e w' => e = .returned (.int .i64 (chk ⟨pk, pp, ps, pn, pf, pt, pl, pi⟩)) ∧ Below w.heap.size w w' := by
  have HB : Hid (Below w.heap.size w (w.alloc (.cells #[.int .i64 pk, .int .i64 pp, .int .i64 ps, .int .i64 pn, .int .i64 pf, .int .i64 pt, .slice sa sn sc, .slice ia im ic] 33))) := below_new _ _
  obtain ⟨b, HF⟩ : ∃ b, Hid (b = chk ⟨pk, pp, ps, pn, pf, pt, pl, pi⟩) := ⟨_, rfl⟩
  rw [← HF.out]
  unfold Pc.val
  simp only
  have HK : Hid (isB pk = true ∧ subB pk = true ∧ fromB pk = true ∧ toB pk = false ∧ newsB pk = false) := ack_kind hk
  have HR : Hid (toB pk = false) := HK.out.2.2.2.1
  have HN : Hid (subB pk = true) := HK.out.2.1
  have HO : Hid (fromB pk = true) := HK.out.2.2.1
  have hk1 : ¬ pk = 1 := by omega
  have hk1' : (pk == 1) = false := by simpa using hk1
  clear hk
  go_enter Tryz.func73, Tryz.ntmps73
  go_wp2_with fail
  refine (ref_ranged pk _).mono ?_
  rw [HR.out]
  rintro e w1 ⟨rfl, rfl⟩
  go_wp2_with fail
  refine (ref_named pk _).mono ?_
  rw [HN.out]
  rintro e w1 ⟨rfl, rfl⟩
  by_cases h1 : ¬ (0 ≤ pp)
  · have HX : Hid (b = 2) := by show _ = _; rw [HF.out, chk_num HK.out.1 (by simp only [HK.out.2.1, HK.out.2.2.1, HK.out.2.2.2.1, numB, pubB, namB, rngB, froB]; simp; omega)]
    clear HF
    go_wp2
    go_ret
    exact ⟨by rw [HX.out]; rfl, HB.out⟩
  replace h1 := Decidable.not_not.1 h1
  by_cases h2 : ¬ (pp < 3)
  · have HX : Hid (b = 2) := by show _ = _; rw [HF.out, chk_num HK.out.1 (by simp only [HK.out.2.1, HK.out.2.2.1, HK.out.2.2.2.1, numB, pubB, namB, rngB, froB]; simp; omega)]
    clear HF
    go_wp2
    go_ret
    exact ⟨by rw [HX.out]; rfl, HB.out⟩
  replace h2 := Decidable.not_not.1 h2
  go_wp2_with fail
  refine (ref_named pk _).mono ?_
  rw [HN.out]
  rintro e w1 ⟨rfl, rfl⟩
  by_cases h3 : ¬ (1 ≤ ps)
  · have HX : Hid (b = 2) := by show _ = _; rw [HF.out, chk_num HK.out.1 (by simp only [HK.out.2.1, HK.out.2.2.1, HK.out.2.2.2.1, numB, pubB, namB, rngB, froB]; simp; omega)]
    clear HF
    go_wp2
    go_ret
    exact ⟨by rw [HX.out]; rfl, HB.out⟩
  replace h3 := Decidable.not_not.1 h3
  by_cases h4 : ¬ (ps ≤ 32)
  · have HX : Hid (b = 2) := by show _ = _; rw [HF.out, chk_num HK.out.1 (by simp only [HK.out.2.1, HK.out.2.2.1, HK.out.2.2.2.1, numB, pubB, namB, rngB, froB]; simp; omega)]
    clear HF
    go_wp2
    go_ret
    exact ⟨by rw [HX.out]; rfl, HB.out⟩
  replace h4 := Decidable.not_not.1 h4
  by_cases h5 : ¬ (1 ≤ pn)
  · have HX : Hid (b = 2) := by show _ = _; rw [HF.out, chk_num HK.out.1 (by simp only [HK.out.2.1, HK.out.2.2.1, HK.out.2.2.2.1, numB, pubB, namB, rngB, froB]; simp; omega)]
    clear HF
    go_wp2
    go_ret
    exact ⟨by rw [HX.out]; rfl, HB.out⟩
  replace h5 := Decidable.not_not.1 h5
  by_cases h6 : ¬ (pn ≤ 1073741824)
  · have HX : Hid (b = 2) := by show _ = _; rw [HF.out, chk_num HK.out.1 (by simp only [HK.out.2.1, HK.out.2.2.1, HK.out.2.2.2.1, numB, pubB, namB, rngB, froB]; simp; omega)]
    clear HF
    go_wp2
    go_ret
    exact ⟨by rw [HX.out]; rfl, HB.out⟩
  replace h6 := Decidable.not_not.1 h6
  go_wp2_with fail
  refine (ref_ranged pk _).mono ?_
  rw [HR.out]
  rintro e w1 ⟨rfl, rfl⟩
  go_wp2_with fail
  refine (ref_named pk _).mono ?_
  rw [HN.out]
  rintro e w1 ⟨rfl, rfl⟩
  go_wp2_with fail
  refine (ref_from pk _).mono ?_
  rw [HO.out]
  rintro e w1 ⟨rfl, rfl⟩
  by_cases h7 : ¬ (0 ≤ pf)
  · have HX : Hid (b = 2) := by show _ = _; rw [HF.out, chk_num HK.out.1 (by simp only [HK.out.2.1, HK.out.2.2.1, HK.out.2.2.2.1, numB, pubB, namB, rngB, froB]; simp; omega)]
    clear HF
    go_wp2
    go_ret
    exact ⟨by rw [HX.out]; rfl, HB.out⟩
  replace h7 := Decidable.not_not.1 h7
  by_cases h8 : ¬ (pf ≤ 1099511627776)
  · have HX : Hid (b = 2) := by show _ = _; rw [HF.out, chk_num HK.out.1 (by simp only [HK.out.2.1, HK.out.2.2.1, HK.out.2.2.2.1, numB, pubB, namB, rngB, froB]; simp; omega)]
    clear HF
    go_wp2
    go_ret
    exact ⟨by rw [HX.out]; rfl, HB.out⟩
  replace h8 := Decidable.not_not.1 h8
  have HX : Hid (b = 0) := by show _ = _; rw [HF.out, chk_plain HK.out.1 (by simp only [HK.out.2.1, HK.out.2.2.1, HK.out.2.2.2.1, numB, pubB, namB, rngB, froB]; simp; omega) HK.out.2.2.2.2]
  clear HF
  go_wp2
  go_ret
  exact ⟨by rw [HX.out]; rfl, HB.out⟩

set_option maxRecDepth 100000 in
set_option maxHeartbeats 4000000 in
theorem ref_Check_join (pk pp ps pn pf pt : Int) (pl : List Sp) (pi : List It) (sa : Option Addr) (sn sc : Nat) (ia : Option Addr) (im ic : Nat) (w : World) (hk : pk = 4 ∨ pk = 6) : Calls Tryz.prog 73 #[Pc.val ⟨pk, pp, ps, pn, pf, pt, pl, pi⟩ sa sn sc ia im ic] w fun e w' => e = .returned (.int .i64 (chk ⟨pk, pp, ps, pn, pf, pt, pl, pi⟩)) ∧ Below w.heap.size w w' := by
  have HB : Hid (Below w.heap.size w (w.alloc (.cells #[.int .i64 pk, .int .i64 pp, .int .i64 ps, .int .i64 pn, .int .i64 pf, .int .i64 pt, .slice sa sn sc, .slice ia im ic] 33))) := below_new _ _
  obtain ⟨b, HF⟩ : ∃ b, Hid (b = chk ⟨pk, pp, ps, pn, pf, pt, pl, pi⟩) := ⟨_, rfl⟩
  rw [← HF.out]
  unfold Pc.val
  simp only
  have HK : Hid (isB pk = true ∧ subB pk = true ∧ fromB pk = false ∧ toB pk = false ∧ newsB pk = false) := join_kind hk
  have HR : Hid (toB pk = false) := HK.out.2.2.2.1
  have HN : Hid (subB pk = true) := HK.out.2.1
  have HO : Hid (fromB pk = false) := HK.out.2.2.1
  have hk1 : ¬ pk = 1 := by omega
  have hk1' : (pk == 1) = false := by simpa using hk1
  clear hk
  go_enter Tryz.func73, Tryz.ntmps73
  go_wp2_with fail
  refine (ref_ranged pk _).mono ?_
  rw [HR.out]
  rintro e w1 ⟨rfl, rfl⟩
  go_wp2_with fail
  refine (ref_named pk _).mono ?_
  rw [HN.out]
  rintro e w1 ⟨rfl, rfl⟩
  by_cases h1 : ¬ (0 ≤ pp)
  · have HX : Hid (b = 2) := by show _ = _; rw [HF.out, chk_num HK.out.1 (by simp only [HK.out.2.1, HK.out.2.2.1, HK.out.2.2.2.1, numB, pubB, namB, rngB, froB]; simp; omega)]
    clear HF
    go_wp2
    go_ret
    exact ⟨by rw [HX.out]; rfl, HB.out⟩
  replace h1 := Decidable.not_not.1 h1
  by_cases h2 : ¬ (pp < 3)
  · have HX : Hid (b = 2) := by show _ = _; rw [HF.out, chk_num HK.out.1 (by simp only [HK.out.2.1, HK.out.2.2.1, HK.out.2.2.2.1, numB, pubB, namB, rngB, froB]; simp; omega)]
    clear HF
    go_wp2
    go_ret
    exact ⟨by rw [HX.out]; rfl, HB.out⟩
  replace h2 := Decidable.not_not.1 h2
  go_wp2_with fail
  refine (ref_named pk _).mono ?_
  rw [HN.out]
  rintro e w1 ⟨rfl, rfl⟩
  by_cases h3 : ¬ (1 ≤ ps)
  · have HX : Hid (b = 2) := by show _ = _; rw [HF.out, chk_num HK.out.1 (by simp only [HK.out.2.1, HK.out.2.2.1, HK.out.2.2.2.1, numB, pubB, namB, rngB, froB]; simp; omega)]
    clear HF
    go_wp2
    go_ret
    exact ⟨by rw [HX.out]; rfl, HB.out⟩
  replace h3 := Decidable.not_not.1 h3
  by_cases h4 : ¬ (ps ≤ 32)
  · have HX : Hid (b = 2) := by show _ = _; rw [HF.out, chk_num HK.out.1 (by simp only [HK.out.2.1, HK.out.2.2.1, HK.out.2.2.2.1, numB, pubB, namB, rngB, froB]; simp; omega)]
    clear HF
    go_wp2
    go_ret
    exact ⟨by rw [HX.out]; rfl, HB.out⟩
  replace h4 := Decidable.not_not.1 h4
  by_cases h5 : ¬ (1 ≤ pn)
  · have HX : Hid (b = 2) := by show _ = _; rw [HF.out, chk_num HK.out.1 (by simp only [HK.out.2.1, HK.out.2.2.1, HK.out.2.2.2.1, numB, pubB, namB, rngB, froB]; simp; omega)]
    clear HF
    go_wp2
    go_ret
    exact ⟨by rw [HX.out]; rfl, HB.out⟩
  replace h5 := Decidable.not_not.1 h5
  by_cases h6 : ¬ (pn ≤ 1073741824)
  · have HX : Hid (b = 2) := by show _ = _; rw [HF.out, chk_num HK.out.1 (by simp only [HK.out.2.1, HK.out.2.2.1, HK.out.2.2.2.1, numB, pubB, namB, rngB, froB]; simp; omega)]
    clear HF
    go_wp2
    go_ret
    exact ⟨by rw [HX.out]; rfl, HB.out⟩
  replace h6 := Decidable.not_not.1 h6
  go_wp2_with fail
  refine (ref_ranged pk _).mono ?_
  rw [HR.out]
  rintro e w1 ⟨rfl, rfl⟩
  go_wp2_with fail
  refine (ref_named pk _).mono ?_
  rw [HN.out]
  rintro e w1 ⟨rfl, rfl⟩
  go_wp2_with fail
  refine (ref_from pk _).mono ?_
  rw [HO.out]
  rintro e w1 ⟨rfl, rfl⟩
  have HX : Hid (b = 0) := by show _ = _; rw [HF.out, chk_plain HK.out.1 (by simp only [HK.out.2.1, HK.out.2.2.1, HK.out.2.2.2.1, numB, pubB, namB, rngB, froB]; simp; omega) HK.out.2.2.2.2]
  clear HF
  go_wp2
  go_ret
  exact ⟨by rw [HX.out]; rfl, HB.out⟩

end Go.Proofs.YtidihfhgnjkmaaaGreat
/- grapevineref13.Check of a Tell; of any parcel. -/
namespace Go.Proofs.YtidihfhgnjkmaaaGreat
open Go.RowKit

set_option maxRecDepth 100000 in
set_option maxHeartbeats 4000000 in
theorem ref_Check_tell (pp ps pn pf pt : Int) (pl : List Sp) (pi : List It) (sa : Option Addr) (sn sc : Nat) (ia : Option Addr) (im ic : Nat) (w : World) (hp : PcRd w ⟨1, pp, ps, pn, pf, pt, pl, pi⟩ sa sn sc ia im ic) : Calls Tryz.prog 73 #[Pc.val ⟨1, pp, ps, pn, pf, pt, pl, pi⟩ sa sn sc ia im ic] w fun e w' => e = .returned (.int .i64 (chk ⟨1, pp, ps, pn, pf, pt, pl, pi⟩)) ∧ Below w.heap.size w w' := by
  have HB : Hid (Below w.heap.size w (w.alloc (.cells #[.int .i64 1, .int .i64 pp, .int .i64 ps, .int .i64 pn, .int .i64 pf, .int .i64 pt, .slice sa sn sc, .slice ia im ic] 33))) := below_new _ _
  obtain ⟨b, HF⟩ : ∃ b, Hid (b = chk ⟨1, pp, ps, pn, pf, pt, pl, pi⟩) := ⟨_, rfl⟩
  rw [← HF.out]
  unfold Pc.val
  simp only
  have HP : Hid (PcRd w ⟨1, pp, ps, pn, pf, pt, pl, pi⟩ sa sn sc ia im ic) := hp
  have HSZ : Hid (pl.length = sn ∧ pi.length = im) := ⟨hp.spans.size, hp.items.size⟩
  have hb1 : sn ≤ 9223372036854775807 := by have h1 := hp.sl; have h2 := hp.sm; unfold maxLen at h2; omega
  have hb2 : im ≤ 9223372036854775807 := by have h1 := hp.il; have h2 := hp.im_; unfold maxLen at h2; omega
  clear hp
  have HK : Hid (isB 1 = true ∧ subB 1 = false ∧ fromB 1 = true ∧ toB 1 = true ∧ newsB 1 = true) := tell_kind rfl
  have HR : Hid (toB 1 = true) := HK.out.2.2.2.1
  have HN : Hid (subB 1 = false) := HK.out.2.1
  go_enter Tryz.func73, Tryz.ntmps73
  go_wp2_with fail
  refine (ref_ranged 1 _).mono ?_
  rw [HR.out]
  rintro e w1 ⟨rfl, rfl⟩
  by_cases h1 : ¬ (0 ≤ pp)
  · have HX : Hid (b = 2) := by show _ = _; rw [HF.out, chk_num HK.out.1 (by simp only [HK.out.2.1, HK.out.2.2.1, HK.out.2.2.2.1, numB, pubB, namB, rngB, froB]; simp; omega)]
    clear HF
    go_wp2
    go_ret
    exact ⟨by rw [HX.out]; rfl, HB.out⟩
  replace h1 := Decidable.not_not.1 h1
  by_cases h2 : ¬ (pp < 3)
  · have HX : Hid (b = 2) := by show _ = _; rw [HF.out, chk_num HK.out.1 (by simp only [HK.out.2.1, HK.out.2.2.1, HK.out.2.2.2.1, numB, pubB, namB, rngB, froB]; simp; omega)]
    clear HF
    go_wp2
    go_ret
    exact ⟨by rw [HX.out]; rfl, HB.out⟩
  replace h2 := Decidable.not_not.1 h2
  go_wp2_with fail
  refine (ref_named 1 _).mono ?_
  rw [HN.out]
  rintro e w1 ⟨rfl, rfl⟩
  go_wp2_with fail
  refine (ref_ranged 1 _).mono ?_
  rw [HR.out]
  rintro e w1 ⟨rfl, rfl⟩
  by_cases h3 : ¬ (1 ≤ pf)
  · have HX : Hid (b = 2) := by show _ = _; rw [HF.out, chk_num HK.out.1 (by simp only [HK.out.2.1, HK.out.2.2.1, HK.out.2.2.2.1, numB, pubB, namB, rngB, froB]; simp; omega)]
    clear HF
    go_wp2
    go_ret
    exact ⟨by rw [HX.out]; rfl, HB.out⟩
  replace h3 := Decidable.not_not.1 h3
  by_cases h4 : ¬ (pf ≤ pt)
  · have HX : Hid (b = 2) := by show _ = _; rw [HF.out, chk_num HK.out.1 (by simp only [HK.out.2.1, HK.out.2.2.1, HK.out.2.2.2.1, numB, pubB, namB, rngB, froB]; simp; omega)]
    clear HF
    go_wp2
    go_ret
    exact ⟨by rw [HX.out]; rfl, HB.out⟩
  replace h4 := Decidable.not_not.1 h4
  by_cases h5 : ¬ (pt ≤ 1099511627776)
  · have HX : Hid (b = 2) := by show _ = _; rw [HF.out, chk_num HK.out.1 (by simp only [HK.out.2.1, HK.out.2.2.1, HK.out.2.2.2.1, numB, pubB, namB, rngB, froB]; simp; omega)]
    clear HF
    go_wp2
    go_ret
    exact ⟨by rw [HX.out]; rfl, HB.out⟩
  replace h5 := Decidable.not_not.1 h5
  go_wp2_with fail
  refine (ref_named 1 _).mono ?_
  rw [HN.out]
  rintro e w1 ⟨rfl, rfl⟩
  have HNU : Hid (numB ⟨1, pp, ps, pn, pf, pt, pl, pi⟩ (subB 1) (fromB 1) (toB 1) = true) := by show _ = _; simp only [HK.out.2.1, HK.out.2.2.1, HK.out.2.2.2.1, numB, pubB, namB, rngB, froB]; simp; omega
  have hsz := HSZ.out
  by_cases h6 : 32 < sn
  · have h6' : (32 : Int) < (sn : Int) := by omega
    have HX : Hid (b = 6) := by show _ = _; rw [HF.out, chk_many HK.out.1 HNU.out HK.out.2.2.2.2 (.inl (by rw [hsz.1]; exact h6))]
    clear HF
    go_wp2
    go_ret
    exact ⟨by rw [HX.out]; rfl, HB.out⟩
  have h6' : ¬ (32 : Int) < (sn : Int) := by omega
  by_cases h7 : 8 < im
  · have h7' : (8 : Int) < (im : Int) := by omega
    have HX : Hid (b = 6) := by show _ = _; rw [HF.out, chk_many HK.out.1 HNU.out HK.out.2.2.2.2 (.inr (by rw [hsz.2]; exact h7))]
    clear HF
    go_wp2
    go_ret
    exact ⟨by rw [HX.out]; rfl, HB.out⟩
  have h7' : ¬ (8 : Int) < (im : Int) := by omega
  have HNM : Hid (¬ (32 < pl.length ∨ 8 < pi.length)) := by rw [hsz.1, hsz.2]; exact not_or.2 ⟨h6, h7⟩
  clear hsz
  have HK0 : Hid (Bk (w.alloc (.cells #[.int .i64 1, .int .i64 pp, .int .i64 ps, .int .i64 pn, .int .i64 pf, .int .i64 pt, .slice sa sn sc, .slice ia im ic] 33)) w.heap.size #[.int .i64 1, .int .i64 pp, .int .i64 ps, .int .i64 pn, .int .i64 pf, .int .i64 pt, .slice sa sn sc, .slice ia im ic] 33) := Bk.new _ _ _
  go_wp2_with fail
  refine (ref_Right sa sn sc pl _ (HP.out.spans.below HB.out) (Nat.le_trans HP.out.sl HP.out.sm)).mono ?_
  rintro e w1 ⟨rfl, hb3⟩
  have HB1 : Hid (Below w.heap.size w w1) := HB.out.trans (hb3.mono HB.out.size)
  have HK1 : Hid (Bk w1 w.heap.size #[.int .i64 1, .int .i64 pp, .int .i64 ps, .int .i64 pn, .int .i64 pf, .int .i64 pt, .slice sa sn sc, .slice ia im ic] 33) := HK0.out.stay hb3
  clear hb3 HK0 HB
  obtain ⟨rt, HRT⟩ : ∃ rt, Hid (rt = rightB Sp.zr pl) := ⟨_, rfl⟩
  rw [← HRT.out]
  obtain ⟨B, HBS⟩ : ∃ B, Hid (B = spB ⟨1, pp, ps, pn, pf, pt, pl, pi⟩) := ⟨_, rfl⟩
  have HBB : Hid ((rt && pl.all (inB ⟨1, pp, ps, pn, pf, pt, pl, pi⟩)) = B) := by show _ = _; rw [HBS.out, HRT.out, spB, Bool.and_comm]
  clear HRT
  go_wp2
  go_loopw [3, 4] (fun t3 t4 wr => ∃ (k : Nat) (f : Bool), k ≤ sn ∧ t3 = .bool f ∧ t4 = .int .i64 (k : Int) ∧ Hid ((f && (pl.drop k).all (inB ⟨1, pp, ps, pn, pf, pt, pl, pi⟩)) = B) ∧ Hid (Bk wr w.heap.size #[.int .i64 1, .int .i64 pp, .int .i64 ps, .int .i64 pn, .int .i64 pf, .int .i64 pt, .slice sa sn sc, .slice ia im ic] 33) ∧ Hid (Below w.heap.size w wr)) (fun _ t4 _ => sn - (intOf t4).toNat)
  case atStart => exact ⟨0, rt, by omega, rfl, rfl, HBB, HK1, HB1⟩
  case round =>
    obtain ⟨k, f, hk, rfl, rfl, HE, HKr, HBr⟩ := hrel
    clear HK1 HB1 HBB
    by_cases hlt : k < sn
    · have hlt' : (k : Int) < (sn : Int) := by omega
      obtain ⟨g, o, rfl, hg, q, hq, c0, c1, c2⟩ := (HP.out.spans.below HBr.out).at_ k hlt
      have HD : Hid (pl.drop k = q :: pl.drop (k + 1)) := drop_at hq
      clear hq hg
      obtain ⟨qf, qt, qi⟩ := q
      simp only at c0 c1 c2
      have HK2 : Hid (Bk (wr.alloc (.cells #[.int .i64 qf, .int .i64 qt, .int .i64 qi] 62)) w.heap.size #[.int .i64 1, .int .i64 pp, .int .i64 ps, .int .i64 pn, .int .i64 pf, .int .i64 pt, .slice (some ⟨g, o, none⟩) sn sc, .slice ia im ic] 33) := HKr.out.stay (below_new _ _)
      have HB2 : Hid (Below w.heap.size w (wr.alloc (.cells #[.int .i64 qf, .int .i64 qt, .int .i64 qi] 62))) := HBr.out.alloc HBr.out.size _
      have HLT : Hid (w.heap.size < wr.heap.size) := HKr.out.lt
      have a6 : wr.cell? ⟨w.heap.size, 6, none⟩ = some (.slice (some ⟨g, o, none⟩) sn sc) := HKr.out.cell 6 rfl
      have d4 : (wr.alloc (.cells #[.int .i64 qf, .int .i64 qt, .int .i64 qi] 62)).cell? ⟨w.heap.size, 4, none⟩ = some (.int .i64 pf) := HK2.out.cell 4 rfl
      have d5 : (wr.alloc (.cells #[.int .i64 qf, .int .i64 qt, .int .i64 qi] 62)).cell? ⟨w.heap.size, 5, none⟩ = some (.int .i64 pt) := HK2.out.cell 5 rfl
      cases f with
      | false =>
        have HX : Hid ((false && (pl.drop (k + 1)).all (inB ⟨1, pp, ps, pn, pf, pt, pl, pi⟩)) = B) := by show _ = _; rw [← HE.out]; simp
        clear HE HKr
        go_wp2
        go_roundw
        case rel => exact ⟨k + 1, false, by omega, rfl, by go_num, HX, HK2, HB2⟩
        case measure => simp [intOf]; omega
      | true =>
        by_cases j1 : qi = 2 ∨ qi = 3
        · by_cases j2 : pf ≤ qf
          · by_cases j3 : qt ≤ pt
            · have HX : Hid ((true && (pl.drop (k + 1)).all (inB ⟨1, pp, ps, pn, pf, pt, pl, pi⟩)) = B) := by show _ = _; rw [← HE.out, HD.out, List.all_cons, inB_ok ⟨j1, j2, j3⟩]; simp
              clear HE HKr
              rcases j1 with rfl | rfl
              · go_wp2
                go_roundw
                case rel => exact ⟨k + 1, true, by omega, rfl, by go_num, HX, HK2, HB2⟩
                case measure => simp [intOf]; omega
              · go_wp2
                go_roundw
                case rel => exact ⟨k + 1, true, by omega, rfl, by go_num, HX, HK2, HB2⟩
                case measure => simp [intOf]; omega
            · have HX : Hid ((false && (pl.drop (k + 1)).all (inB ⟨1, pp, ps, pn, pf, pt, pl, pi⟩)) = B) := by show _ = _; rw [← HE.out, HD.out, List.all_cons, inB_not (by simp only; omega)]; simp
              clear HE HKr
              rcases j1 with rfl | rfl
              · go_wp2
                go_roundw
                case rel => exact ⟨k + 1, false, by omega, rfl, by go_num, HX, HK2, HB2⟩
                case measure => simp [intOf]; omega
              · go_wp2
                go_roundw
                case rel => exact ⟨k + 1, false, by omega, rfl, by go_num, HX, HK2, HB2⟩
                case measure => simp [intOf]; omega
          · have HX : Hid ((false && (pl.drop (k + 1)).all (inB ⟨1, pp, ps, pn, pf, pt, pl, pi⟩)) = B) := by show _ = _; rw [← HE.out, HD.out, List.all_cons, inB_not (by simp only; omega)]; simp
            clear HE HKr
            rcases j1 with rfl | rfl
            · go_wp2
              go_roundw
              case rel => exact ⟨k + 1, false, by omega, rfl, by go_num, HX, HK2, HB2⟩
              case measure => simp [intOf]; omega
            · go_wp2
              go_roundw
              case rel => exact ⟨k + 1, false, by omega, rfl, by go_num, HX, HK2, HB2⟩
              case measure => simp [intOf]; omega
        · have HX : Hid ((false && (pl.drop (k + 1)).all (inB ⟨1, pp, ps, pn, pf, pt, pl, pi⟩)) = B) := by show _ = _; rw [← HE.out, HD.out, List.all_cons, inB_not (by simp only; omega)]; simp
          have n2 : ¬ qi = 2 := fun h => j1 (.inl h)
          have n3 : ¬ qi = 3 := fun h => j1 (.inr h)
          have n2' : (qi == 2) = false := by simpa using n2
          have n3' : (qi == 3) = false := by simpa using n3
          clear j1 HE HKr
          go_wp2
          go_roundw
          case rel => exact ⟨k + 1, false, by omega, rfl, by go_num, HX, HK2, HB2⟩
          case measure => simp [intOf]; omega
    · have hnl : ¬ (k : Int) < (sn : Int) := by omega
      have a6 : wr.cell? ⟨w.heap.size, 6, none⟩ = some (.slice sa sn sc) := HKr.out.cell 6 rfl
      have HFB : Hid (f = B) := by
        show _ = _
        rw [← HE.out, List.drop_of_length_le (by rw [HSZ.out.1]; omega)]
        simp
      clear HE
      obtain rfl := HFB.out
      clear HFB
      cases f with
      | false =>
        have HX : Hid (b = 4) := by show _ = _; rw [HF.out, chk_form HK.out.1 HNU.out HK.out.2.2.2.2 HNM.out HBS.out.symm]
        clear HF
        go_wp2
        go_ret
        exact ⟨by rw [HX.out]; rfl, HBr.out⟩
      | true =>
        have HX : Hid (itE ⟨1, pp, ps, pn, pf, pt, pl, pi⟩ pf pi = b) := by show _ = _; rw [HF.out, chk_items HK.out.1 HNU.out HK.out.2.2.2.2 HNM.out HBS.out.symm]
        clear HF a6
        obtain ⟨W2, HW2⟩ : ∃ W2, Hid (W2 = wr) := ⟨_, rfl⟩
        have HKs : Hid (Bk W2 w.heap.size #[.int .i64 1, .int .i64 pp, .int .i64 ps, .int .i64 pn, .int .i64 pf, .int .i64 pt, .slice sa sn sc, .slice ia im ic] 33) := by rw [HW2.out]; exact HKr.out
        have HBs : Hid (Below w.heap.size w W2) := by rw [HW2.out]; exact HBr.out
        rw [← HW2.out]
        clear HKr HBr HW2
        have a6 : W2.cell? ⟨w.heap.size, 6, none⟩ = some (.slice sa sn sc) := HKs.out.cell 6 rfl
        go_wp2
        clear a6
        go_loopw [6] (fun t6 ws => ∃ (j : Nat) (le : Int), j ≤ im ∧ t6 = .int .i64 (j : Int) ∧ Hid (itE ⟨1, pp, ps, pn, pf, pt, pl, pi⟩ le (pi.drop j) = b) ∧ Hid (pf ≤ le ∧ ((j = 0 ∧ le = pf) ∨ (0 < j ∧ ∃ q, pi[j - 1]? = some q ∧ le = q.tick + 1))) ∧ Hid (Bk ws w.heap.size #[.int .i64 1, .int .i64 pp, .int .i64 ps, .int .i64 pn, .int .i64 pf, .int .i64 pt, .slice sa sn sc, .slice ia im ic] 33) ∧ Hid (Below w.heap.size w ws)) (fun t6 _ => im - (intOf t6).toNat)
        case atStart => exact ⟨0, pf, by omega, rfl, HX, ⟨by omega, .inl ⟨rfl, rfl⟩⟩, HKs, HBs⟩
        case round =>
          obtain ⟨j, le, hj, rfl, HE, HL, HKt, HBt⟩ := hrel
          clear HKs HBs HX
          by_cases jlt : j < im
          · have jlt' : (j : Int) < (im : Int) := by omega
            obtain ⟨g, o, rfl, hg, q, hq, c0, c1, ba, bl, bc, c2, hrd, hnc, hbl, hbc⟩ := (HP.out.items.below HBt.out).at_ j jlt
            have HD : Hid (pi.drop j = q :: pi.drop (j + 1)) := it_at hq
            have HQ : Hid (pi[j]? = some q) := hq
            have HLB : Hid (q.body.length = bl) := hrd.size
            have HPV : Hid (∀ i q', j = i + 1 → pi[i]? = some q' → wr.cell? ⟨g, o + i * 3, none⟩ = some (.int .i64 q'.tick)) := by
              intro i q' hi hq'
              obtain ⟨g', o', ha', hg', q2, hq2, d0, _⟩ := (HP.out.items.below HBt.out).at_ i (by omega)
              simp only [Option.some.injEq, Addr.mk.injEq] at ha'
              obtain ⟨rfl, rfl, _⟩ := ha'
              rw [hq'] at hq2
              simp only [Option.some.injEq] at hq2
              subst hq2
              exact d0
            clear hq hg hrd
            obtain ⟨qt, qf, qb⟩ := q
            simp only at c0 c1 c2
            have a4 : wr.cell? ⟨w.heap.size, 4, none⟩ = some (.int .i64 pf) := HKt.out.cell 4 rfl
            have a5 : wr.cell? ⟨w.heap.size, 5, none⟩ = some (.int .i64 pt) := HKt.out.cell 5 rfl
            have a6 : wr.cell? ⟨w.heap.size, 6, none⟩ = some (.slice sa sn sc) := HKt.out.cell 6 rfl
            have a7 : wr.cell? ⟨w.heap.size, 7, none⟩ = some (.slice (some ⟨g, o, none⟩) im ic) := HKt.out.cell 7 rfl
            by_cases m1 : qt < pf
            · have HX : Hid (b = 14) := by show _ = _; rw [← HE.out, HD.out, itE_tick (.inl (by have := HL.out.1; simp only; omega))]
              clear HE
              go_wp2
              go_ret
              exact ⟨by rw [HX.out]; rfl, HBt.out⟩
            by_cases m2 : pt < qt
            · have HX : Hid (b = 14) := by show _ = _; rw [← HE.out, HD.out, itE_tick (.inr (.inl m2))]
              clear HE
              go_wp2
              go_ret
              exact ⟨by rw [HX.out]; rfl, HBt.out⟩
            by_cases mj : j = 0
            · subst mj
              obtain rfl : pf = le := by
                rcases HL.out.2 with ⟨_, h⟩ | ⟨h, _⟩
                · exact h.symm
                · omega
              simp only [Nat.zero_mul, Nat.add_zero, Int.cast_ofNat_Int] at c0 c1 c2 ⊢
              clear HPV HL
              go_wp2_with fail
              refine (ref_At sa sn sc pl qt _ (HP.out.spans.below HBt.out) (Nat.le_trans HP.out.sl HP.out.sm)).mono ?_
              rintro e w4 ⟨rfl, rfl⟩
              by_cases m3 : atS pl qt = 0
              · have m3' : (atS pl qt == 0) = true := by simpa using m3
                by_cases m4 : 400 < bl
                · have m4' : (400 : Int) < (bl : Int) := by omega
                  have HX : Hid (b = 6) := by show _ = _; rw [← HE.out, HD.out, itE_long (by simp only; omega) (by rw [HLB.out]; exact m4)]
                  clear HE
                  go_wp2
                  go_ret
                  exact ⟨by rw [HX.out]; rfl, HBt.out⟩
                · have m4' : ¬ (400 : Int) < (bl : Int) := by omega
                  have HX : Hid (itE ⟨1, pp, ps, pn, pf, pt, pl, pi⟩ (qt + 1) (pi.drop (0 + 1)) = b) := by show _ = _; rw [← HE.out, HD.out, itE_next (by simp only; omega) (by rw [HLB.out]; exact m4)]
                  clear HE
                  go_wp2
                  go_roundw
                  case rel => exact ⟨0 + 1, qt + 1, by omega, rfl, HX, ⟨by omega, .inr ⟨by omega, _, HQ.out, rfl⟩⟩, HKt, HBt⟩
                  case measure => simp [intOf]; omega
              · have m3' : (atS pl qt == 0) = false := by simpa using m3
                have HX : Hid (b = 14) := by show _ = _; rw [← HE.out, HD.out, itE_tick (.inr (.inr m3))]
                clear HE
                go_wp2
                go_ret
                exact ⟨by rw [HX.out]; rfl, HBt.out⟩
            · obtain ⟨i, rfl⟩ : ∃ i, j = i + 1 := ⟨j - 1, by omega⟩
              obtain ⟨q', hq', hle⟩ : ∃ q', pi[i]? = some q' ∧ le = q'.tick + 1 := by
                rcases HL.out.2 with ⟨h, _⟩ | ⟨_, q', h1, h2⟩
                · omega
                · exact ⟨q', by simpa using h1, h2⟩
              have e0 := HPV.out i q' rfl hq'
              have HPF : Hid (pf ≤ le) := HL.out.1
              obtain ⟨tp, htp⟩ : ∃ tp, tp = q'.tick := ⟨_, rfl⟩
              rw [← htp] at e0 hle
              have dz : decide ((0 : Int) < ((i + 1 : Nat) : Int)) = true := decide_eq_true (by omega)
              have hz : (0 : Int) < ((i + 1 : Nat) : Int) := by omega
              have hin : (i : Int) < (im : Int) := by omega
              have hi0 : (0 : Int) ≤ (i : Int) := by omega
              clear HPV HL hq' htp mj
              subst hle
              by_cases m5 : qt ≤ tp
              · have HX : Hid (b = 14) := by show _ = _; rw [← HE.out, HD.out, itE_tick (.inl (by simp only; omega))]
                clear HE
                go_wp2
                go_ret
                exact ⟨by rw [HX.out]; rfl, HBt.out⟩
              go_wp2_with fail
              refine (ref_At sa sn sc pl qt _ (HP.out.spans.below HBt.out) (Nat.le_trans HP.out.sl HP.out.sm)).mono ?_
              rintro e w4 ⟨rfl, rfl⟩
              by_cases m3 : atS pl qt = 0
              · have m3' : (atS pl qt == 0) = true := by simpa using m3
                by_cases m4 : 400 < bl
                · have m4' : (400 : Int) < (bl : Int) := by omega
                  have HX : Hid (b = 6) := by show _ = _; rw [← HE.out, HD.out, itE_long (by simp only; omega) (by rw [HLB.out]; exact m4)]
                  clear HE
                  go_wp2
                  go_ret
                  exact ⟨by rw [HX.out]; rfl, HBt.out⟩
                · have m4' : ¬ (400 : Int) < (bl : Int) := by omega
                  have HX : Hid (itE ⟨1, pp, ps, pn, pf, pt, pl, pi⟩ (qt + 1) (pi.drop (i + 1 + 1)) = b) := by show _ = _; rw [← HE.out, HD.out, itE_next (by simp only; omega) (by rw [HLB.out]; exact m4)]
                  clear HE
                  go_wp2
                  go_roundw
                  case rel => exact ⟨i + 1 + 1, qt + 1, by omega, by go_num, HX, ⟨by omega, .inr ⟨by omega, _, HQ.out, rfl⟩⟩, HKt, HBt⟩
                  case measure => simp [intOf]; omega
              · have m3' : (atS pl qt == 0) = false := by simpa using m3
                have HX : Hid (b = 14) := by show _ = _; rw [← HE.out, HD.out, itE_tick (.inr (.inr m3))]
                clear HE
                go_wp2
                go_ret
                exact ⟨by rw [HX.out]; rfl, HBt.out⟩
          · have jnl : ¬ (j : Int) < (im : Int) := by omega
            have a7 : wr.cell? ⟨w.heap.size, 7, none⟩ = some (.slice ia im ic) := HKt.out.cell 7 rfl
            have HX : Hid (b = 0) := by
              show _ = _
              rw [← HE.out, List.drop_of_length_le (by rw [HSZ.out.2]; omega)]
              rfl
            clear HE
            go_wp2
            go_ret
            exact ⟨by rw [HX.out]; rfl, HBt.out⟩

theorem ref_Check (p : Pc) (sa : Option Addr) (sn sc : Nat) (ia : Option Addr) (im ic : Nat) (w : World) (hp : PcRd w p sa sn sc ia im ic) : Calls Tryz.prog 73 #[p.val sa sn sc ia im ic] w fun e w' => e = .returned (.int .i64 (chk p)) ∧ Below w.heap.size w w' := by
  obtain ⟨pk, pp, ps, pn, pf, pt, pl, pi⟩ := p
  cases h : isB pk with
  | false => exact ref_Check_bad pk pp ps pn pf pt pl pi sa sn sc ia im ic w h
  | true =>
    rcases kinds h with rfl | rfl | rfl | rfl | rfl | rfl
    · exact ref_Check_tell pp ps pn pf pt pl pi sa sn sc ia im ic w hp
    · exact ref_Check_want 2 pp ps pn pf pt pl pi sa sn sc ia im ic w rfl
    · exact ref_Check_ack 3 pp ps pn pf pt pl pi sa sn sc ia im ic w (.inl rfl)
    · exact ref_Check_join 4 pp ps pn pf pt pl pi sa sn sc ia im ic w (.inl rfl)
    · exact ref_Check_ack 5 pp ps pn pf pt pl pi sa sn sc ia im ic w (.inr rfl)
    · exact ref_Check_join 6 pp ps pn pf pt pl pi sa sn sc ia im ic w (.inr rfl)
end Go.Proofs.YtidihfhgnjkmaaaGreat
