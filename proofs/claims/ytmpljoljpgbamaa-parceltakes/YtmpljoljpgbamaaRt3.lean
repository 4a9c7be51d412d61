/- grapevineref13.Take of a Tell. -/
import Derived.Test.YtmpljoljpgbamaaRt2
import Derived.Test.YtmpljoljpgbamaaSpRefT
namespace Go.Proofs.Ytmpljoljpgbamaa
open Go.RowKit

theorem Sps.grown_it {w w' : World} {base : Nat} {sv v : Value} {l : List Sp} {L : List (It × Bd)} (h : Sps w base sv l) (hi : Its w base v L) (hg : w.grownBy w' v.ownBlock) : Sps w' base sv l := by
  refine ⟨⟨h.row.1, ?_⟩⟩
  rcases h.row.2 with hn | ⟨g, c, cur, hv, hbg, hgb, r⟩
  · exact .inl hn
  · refine .inr ⟨g, c, cur, hv, hbg, ?_, r⟩
    rw [hg.block g (Array.getElem?_eq_some_iff.1 hgb).1 (fun e => ?_)]
    · exact hgb
    · rcases hi.row.2 with ⟨h3, _⟩ | ⟨g', c', cur', h3, _, h4, _⟩
      · rw [h3] at e; cases e
      · rw [h3] at e
        simp only [Value.ownBlock, Option.some.injEq] at e
        rw [e, h4] at hgb
        simp only [Option.some.injEq, Obj.cells.injEq] at hgb
        exact absurd hgb.2.1 (by decide)

theorem par_nums_1 (bs : List Nat) (s : Rs) : ∃ x0 x1 x2, (numsF bs 3 [] s).1 = [x0, x1, x2] ∧ parF bs 1 s = (⟨1, (x0 : Nat), 0, 0, (x1 : Nat), (x2 : Nat), (spF bs (numsF bs 3 [] s).2).1, (itemsF bs (spF bs (numsF bs 3 [] s).2).2).1⟩, (itemsF bs (spF bs (numsF bs 3 [] s).2).2).2) := by
  refine ⟨_, _, _, rfl, ?_⟩
  simp [parF, optF, subB, fromB, toB, newsB, numsF]
theorem itF_stop (bs : List Nat) {s : Rs} (h : s.ft ≠ 0) : (itF bs s).2 = s := by
  simp only [itF]
  rw [numF_no h]
  simp only
  rw [numF_no h]
  simp only
  rw [numF_no h]
  simp only
  rw [byF_no h]
theorem itsF_stop (bs : List Nat) : ∀ (k : Nat) (acc : List It) {s : Rs}, s.ft ≠ 0 → (itsF bs k acc s).2 = s
  | 0, _, _, _ => rfl
  | k + 1, acc, s, h => by rw [itsF, itF_stop bs h]; exact itsF_stop bs k _ h
theorem itemsF_stop (bs : List Nat) {s : Rs} (h : s.ft ≠ 0) : (itemsF bs s).2 = s := by
  rw [itemsF, numF_no h]
  rfl

set_option maxRecDepth 100000 in
set_option maxHeartbeats 4000000 in
theorem ref_Take_1 (g o len cap : Nat) (bs : List Nat) (w : World) (hr : Rd w (some ⟨g, o, none⟩) len bs) (hlc : len ≤ cap) (hl : len ≤ 140737488351232) (h0 : 0 < len) (hb0 : bs.getD 0 0 = 1) :
    Calls Try.prog 18 #[.slice (some ⟨g, o, none⟩) len cap] w fun e w' => Hid (TakeP13 w w' (takeP bs) e) ∧ Below w.heap.size w w' := by
  have HR : Hid (Rd w (some ⟨g, o, none⟩) len bs) := hr
  have HBY : Hid (∀ z ∈ bs, z < 256) := hr.byte
  have HSZ : Hid (bs.length = len) := hr.size
  have HN0 : Hid (¬ bs.length = 0) := by show ¬ _; rw [HSZ.out]; omega
  have HIS : Hid (isB (bs.getD 0 0 : Nat) = true) := by rw [hb0]; exact (by decide : isB ((1 : Nat) : Int) = true)
  have HL : Hid (len ≤ cap ∧ len ≤ 140737488351232) := ⟨hlc, hl⟩
  obtain ⟨x0, x1, x2, hxs, hpar⟩ := par_nums_1 bs ⟨1, 0⟩
  obtain ⟨N, hN⟩ : ∃ N, N = numsF bs 3 [] ⟨1, 0⟩ := ⟨_, rfl⟩
  have HNE : Hid (numsF bs 3 [] ⟨1, 0⟩ = N) := hN.symm
  rw [← hN] at hxs hpar
  have HXS : Hid (N.1 = [x0, x1, x2]) := hxs
  have HPAR : Hid ((⟨1, (x0 : Nat), 0, 0, (x1 : Nat), (x2 : Nat), (spF bs N.2).1, (itemsF bs (spF bs N.2).2).1⟩, (itemsF bs (spF bs N.2).2).2) = parF bs (bs.getD 0 0 : Nat) ⟨1, 0⟩) := by show _ = _; rw [hb0]; exact hpar.symm
  obtain ⟨T, HT⟩ : ∃ T, Hid (T = takeP bs) := ⟨_, rfl⟩
  rw [← HT.out]
  have hc0 : w.cell? ⟨g, o, none⟩ = some (.int .u8 1) := by
    rcases hr.cells with h1 | ⟨g', o', h1, _, hc⟩
    · omega
    · simp only [Option.some.injEq, Addr.mk.injEq, and_true] at h1
      obtain ⟨rfl, rfl⟩ := h1
      have := hc 0 h0
      rw [hb0] at this
      exact this
  have hlen : (0 : Int) < (len : Int) := by omega
  have hlen1 : ¬ (len : Int) = 0 := by omega
  have HB0 : Hid (Below w.heap.size w (w.alloc (.cells #[.int .i64 0, .int .i64 0, .int .i64 0, .int .i64 0, .int .i64 0, .int .i64 0, .slice none 0 0, .slice none 0 0] 26))) := below_new _ _
  have HB1 : Hid (Below w.heap.size w ((w.alloc (.cells #[.int .i64 0, .int .i64 0, .int .i64 0, .int .i64 0, .int .i64 0, .int .i64 0, .slice none 0 0, .slice none 0 0] 26)).alloc (.cells #[.int .i64 1, .int .i64 0, .int .i64 0, .int .i64 0, .int .i64 0, .int .i64 0, .slice none 0 0, .slice none 0 0] 26))) := HB0.out.alloc HB0.out.size _
  have HB2 : Hid (Below w.heap.size w (((w.alloc (.cells #[.int .i64 0, .int .i64 0, .int .i64 0, .int .i64 0, .int .i64 0, .int .i64 0, .slice none 0 0, .slice none 0 0] 26)).alloc (.cells #[.int .i64 1, .int .i64 0, .int .i64 0, .int .i64 0, .int .i64 0, .int .i64 0, .slice none 0 0, .slice none 0 0] 26)).alloc (.cells #[] 3))) := HB1.out.alloc HB1.out.size _
  have hc1 : (w.alloc (.cells #[.int .i64 0, .int .i64 0, .int .i64 0, .int .i64 0, .int .i64 0, .int .i64 0, .slice none 0 0, .slice none 0 0] 26)).cell? ⟨g, o, none⟩ = some (.int .u8 1) := (HB0.out.cell (p := ⟨g, o, none⟩) (World.block_lt_of_cell? w _ hc0)).trans hc0
  have HS1 : Hid (((w.alloc (.cells #[.int .i64 0, .int .i64 0, .int .i64 0, .int .i64 0, .int .i64 0, .int .i64 0, .slice none 0 0, .slice none 0 0] 26)).alloc (.cells #[.int .i64 1, .int .i64 0, .int .i64 0, .int .i64 0, .int .i64 0, .int .i64 0, .slice none 0 0, .slice none 0 0] 26)).heap.size = w.heap.size + 2) := by show _ = _; simp
  have HK2 : Hid (Bk (((w.alloc (.cells #[.int .i64 0, .int .i64 0, .int .i64 0, .int .i64 0, .int .i64 0, .int .i64 0, .slice none 0 0, .slice none 0 0] 26)).alloc (.cells #[.int .i64 1, .int .i64 0, .int .i64 0, .int .i64 0, .int .i64 0, .int .i64 0, .slice none 0 0, .slice none 0 0] 26)).alloc (.cells #[] 3)) w.heap.size #[.int .i64 0, .int .i64 0, .int .i64 0, .int .i64 0, .int .i64 0, .int .i64 0, .slice none 0 0, .slice none 0 0] 26) := ((Bk.new w _ _).stay (below_new _ _)).stay (below_new _ _)
  have HP2 : Hid (Bk (((w.alloc (.cells #[.int .i64 0, .int .i64 0, .int .i64 0, .int .i64 0, .int .i64 0, .int .i64 0, .slice none 0 0, .slice none 0 0] 26)).alloc (.cells #[.int .i64 1, .int .i64 0, .int .i64 0, .int .i64 0, .int .i64 0, .int .i64 0, .slice none 0 0, .slice none 0 0] 26)).alloc (.cells #[] 3)) (w.heap.size + 1) #[.int .i64 1, .int .i64 0, .int .i64 0, .int .i64 0, .int .i64 0, .int .i64 0, .slice none 0 0, .slice none 0 0] 26) := by
    have h := Bk.new (w.alloc (.cells #[.int .i64 0, .int .i64 0, .int .i64 0, .int .i64 0, .int .i64 0, .int .i64 0, .slice none 0 0, .slice none 0 0] 26)) #[.int .i64 1, .int .i64 0, .int .i64 0, .int .i64 0, .int .i64 0, .int .i64 0, .slice none 0 0, .slice none 0 0] 26
    rw [show (w.alloc (.cells #[.int .i64 0, .int .i64 0, .int .i64 0, .int .i64 0, .int .i64 0, .int .i64 0, .slice none 0 0, .slice none 0 0] 26)).heap.size = w.heap.size + 1 from by simp] at h
    exact h.stay (below_new _ _)
  have HI2 : Hid (Ints (((w.alloc (.cells #[.int .i64 0, .int .i64 0, .int .i64 0, .int .i64 0, .int .i64 0, .int .i64 0, .slice none 0 0, .slice none 0 0] 26)).alloc (.cells #[.int .i64 1, .int .i64 0, .int .i64 0, .int .i64 0, .int .i64 0, .int .i64 0, .slice none 0 0, .slice none 0 0] 26)).alloc (.cells #[] 3)) (w.heap.size + 2) (.slice (some ⟨w.heap.size + 2, 0, none⟩) 0 0) []) := by
    have h := Ints.empty ((w.alloc (.cells #[.int .i64 0, .int .i64 0, .int .i64 0, .int .i64 0, .int .i64 0, .int .i64 0, .slice none 0 0, .slice none 0 0] 26)).alloc (.cells #[.int .i64 1, .int .i64 0, .int .i64 0, .int .i64 0, .int .i64 0, .int .i64 0, .slice none 0 0, .slice none 0 0] 26)) (w.heap.size + 2) (by rw [HS1.out]; exact Nat.le_refl _)
    rw [HS1.out] at h
    exact h
  have HTO : Hid (toB 1 = true) := rfl
  have HSU : Hid (subB 1 = false) := rfl
  have HFR : Hid (fromB 1 = true) := rfl
  clear hr hc0 hb0 hN hxs hpar h0 hlc
  go_enter Try.func18, Try.ntmps18
  go_wp2_with fail
  refine (ref_ranged 1 _).mono ?_
  rw [HTO.out]
  rintro e w' ⟨rfl, rfl⟩
  go_wp2_with fail
  refine (ref_named 1 _).mono ?_
  rw [HSU.out]
  rintro e w' ⟨rfl, rfl⟩
  go_wp2
  go_loopw [6, 7, 8] (fun t6 t7 t8 wr => ∃ (i : Nat) (v : Value) (l : List Nat) (x : Int), i ≤ 3 ∧ t8 = .int .i64 (i : Int) ∧ v = t6 ∧ t7 = .int .i64 x ∧ Hid (Ints wr (w.heap.size + 2) v l) ∧ Hid (l.length = i) ∧ Hid (numsF bs (3 - i) l ⟨x, 0⟩ = N) ∧ Hid (0 ≤ x ∧ x ≤ len) ∧ Hid (Bk wr w.heap.size #[.int .i64 0, .int .i64 0, .int .i64 0, .int .i64 0, .int .i64 0, .int .i64 0, .slice none 0 0, .slice none 0 0] 26) ∧ Hid (Bk wr (w.heap.size + 1) #[.int .i64 1, .int .i64 0, .int .i64 0, .int .i64 0, .int .i64 0, .int .i64 0, .slice none 0 0, .slice none 0 0] 26) ∧ Hid (Below w.heap.size w wr)) (fun _ _ t8 _ => 3 - (intOf t8).toNat)
  case atStart => exact ⟨0, _, [], 1, by omega, rfl, rfl, rfl, HI2, rfl, HNE, ⟨by omega, by omega⟩, HK2, HP2, HB2⟩
  case round =>
    obtain ⟨i, v, l, x, hi, rfl, rfl, rfl, HIr, HLr, HEr, HXr, HKr, HPr, HBr⟩ := hrel
    clear HI2 HK2 HP2 HB2 HNE hc1 HB0 HB1
    by_cases hlt : i < 3
    · have hlt' : (i : Int) < 3 := by omega
      obtain ⟨r, h1⟩ : ∃ r, r = numF bs 1099511627776 ⟨x, 0⟩ := ⟨_, rfl⟩
      have HE1 : Hid (r = numF bs 1099511627776 ⟨x, 0⟩) := h1
      have HF1 : Hid (r.2.fine bs) := by rw [h1]; exact numF_fine HBY.out
      have HE2 : Hid (numsF bs (3 - (i + 1)) (l ++ [r.1]) r.2 = N) := by show _ = _; rw [← HEr.out, show 3 - i = (3 - (i + 1)) + 1 from by omega, numsF, ← h1]
      have hl1 : r.1 ≤ 1099511627776 := by rw [h1]; exact numF_le _ _ _
      clear h1 HEr
      go_wp2_with fail
      refine (ref_upto (some ⟨g, o, none⟩) len cap bs x 1099511627776 wr (HR.out.below HBr.out) HL.out.2 HXr.out (by omega)).mono ?_
      rw [← HE1.out]
      rintro e w' ⟨ht, hw'⟩
      rw [hw']
      clear hw' w' HE1
      obtain ⟨n, s1⟩ := r
      obtain ⟨y, f⟩ := s1
      rcases ht.out with ⟨hf, he⟩ | ⟨hf, he⟩
      · simp only at hf he hl1 HE2 HF1
        subst he hf
        clear ht
        have HY : Hid (0 ≤ y ∧ y ≤ len) := by have h := HF1.out rfl; rw [HSZ.out] at h; exact h
        have HIa : Hid (Ints (wr.alloc (.cells #[.int .i64 (n : Int)] 3)) (w.heap.size + 2) v l) := HIr.out.stay (below_new _ _)
        have HNa : Hid ((wr.alloc (.cells #[.int .i64 (n : Int)] 3)).cell? ⟨wr.heap.size, 0, none⟩ = some (.int .i64 (n : Int))) := (Bk.new wr _ _).cell 0 rfl
        have HSa : Hid (w.heap.size + 2 ≤ wr.heap.size) := by have h1 := HPr.out.lt; show _ ≤ _; omega
        have hll : l.length ≤ 1000000 := by have := HLr.out; omega
        go_wp2_with (at_builtin; refine wpList_append_n rfl (.tmp 69) (.tmp 71) rfl (w.heap.size + 2) v l rfl HIa.out ⟨wr.heap.size, 0, none⟩ 1 n rfl HNa.out hll (Nat.le_trans HSa.out (by simp)) ?_)
        intro v' wb hib hbb
        have HIb : Hid (Ints wb (w.heap.size + 2) v' (l ++ [n])) := hib
        have HKb : Hid (Bk wb w.heap.size #[.int .i64 0, .int .i64 0, .int .i64 0, .int .i64 0, .int .i64 0, .int .i64 0, .slice none 0 0, .slice none 0 0] 26) := Bk.below (HKr.out.stay (below_new _ (.cells #[.int .i64 (n : Int)] 3))) hbb (by omega)
        have HPb : Hid (Bk wb (w.heap.size + 1) #[.int .i64 1, .int .i64 0, .int .i64 0, .int .i64 0, .int .i64 0, .int .i64 0, .slice none 0 0, .slice none 0 0] 26) := Bk.below (HPr.out.stay (below_new _ (.cells #[.int .i64 (n : Int)] 3))) hbb (by omega)
        have HBb : Hid (Below w.heap.size w wb) := (HBr.out.trans ((below_new wr (.cells #[.int .i64 (n : Int)] 3)).mono HBr.out.size)).trans (hbb.mono (by omega))
        have HLb : Hid ((l ++ [n]).length = i + 1) := by show _ = _; rw [List.length_append, HLr.out]; rfl
        clear hib hbb HIa HNa HIr HKr HPr HBr
        go_wp2
        go_roundw
        case rel => exact ⟨i + 1, v', _, y, by omega, by go_num, rfl, rfl, HIb, HLb, HE2, HY, HKb, HPb, HBb⟩
        case measure => simp [intOf]; omega
      · simp only at hf he HE2
        subst he
        have HTE : Hid (T = (Pc.zero, f)) := by
          have h1 := numsF_stop bs (3 - (i + 1)) (l ++ [n]) ⟨y, f⟩ hf
          rw [HE2.out] at h1
          replace h1 : (itemsF bs (spF bs N.2).2).2 = ⟨y, f⟩ := by rw [h1, spF_no hf]; exact itemsF_stop bs hf
          have h2 := HT.out.trans (takeP_end HN0.out HIS.out HPAR.out (by rw [h1, endE_bad hf]; exact hf))
          rw [h1, endE_bad hf] at h2
          exact h2
        have hf' : (f == 0) = false := by simpa using hf
        have z0 : wr.cell? ⟨w.heap.size, 0, none⟩ = some (.int .i64 0) := HKr.out.cell 0 rfl
        have z1 : wr.cell? ⟨w.heap.size, 1, none⟩ = some (.int .i64 0) := HKr.out.cell 1 rfl
        have z2 : wr.cell? ⟨w.heap.size, 2, none⟩ = some (.int .i64 0) := HKr.out.cell 2 rfl
        have z3 : wr.cell? ⟨w.heap.size, 3, none⟩ = some (.int .i64 0) := HKr.out.cell 3 rfl
        have z4 : wr.cell? ⟨w.heap.size, 4, none⟩ = some (.int .i64 0) := HKr.out.cell 4 rfl
        have z5 : wr.cell? ⟨w.heap.size, 5, none⟩ = some (.int .i64 0) := HKr.out.cell 5 rfl
        have z6 : wr.cell? ⟨w.heap.size, 6, none⟩ = some (.slice none 0 0) := HKr.out.cell 6 rfl
        have z7 : wr.cell? ⟨w.heap.size, 7, none⟩ = some (.slice none 0 0) := HKr.out.cell 7 rfl
        have fz : ∀ i, wr.frozen? ⟨w.heap.size, i, none⟩ = false := fun i => HKr.out.free i
        clear HT ht
        go_wp2
        try simp only [Exit.inBlock, Exit.then]
        change bodyPost _ _ _ _ _ (set8 _ w.heap.size (.int .i64 0) (.int .i64 0) (.int .i64 0) (.int .i64 0) (.int .i64 0) (.int .i64 0) (.slice none 0 0) (.slice none 0 0))
        refine bodyPost_ret (results_parcel rfl (by rfl) (by rfl) (HKr.out.set8 (.int .i64 0) (.int .i64 0) (.int .i64 0) (.int .i64 0) (.int .i64 0) (.int .i64 0) (.slice none 0 0) (.slice none 0 0))) rfl ?_
        rw [HTE.out]
        exact ⟨TakeP13.bad _ _ _, set8_below HBr.out _ (Nat.le_refl _) (.int .i64 0) (.int .i64 0) (.int .i64 0) (.int .i64 0) (.int .i64 0) (.int .i64 0) (.slice none 0 0) (.slice none 0 0)⟩
    · have hnl : ¬ (i : Int) < 3 := by omega
      obtain rfl : i = 3 := by omega
      have HLN : Hid ((l, (⟨x, 0⟩ : Rs)) = N) := by have h := HEr.out; rw [Nat.sub_self, numsF] at h; exact h
      obtain rfl : l = [x0, x1, x2] := by have h := HXS.out; rw [← HLN.out] at h; exact h
      have HNS : Hid (N.2 = ⟨x, 0⟩) := by show _ = _; rw [← HLN.out]
      rw [HNS.out] at HPAR
      obtain ⟨gn, cn, hv, hgn, hcn⟩ := Ints.cell HIr.out (by simp)
      subst hv
      simp only [List.length_cons, List.length_nil, Nat.zero_add, Nat.reduceAdd]
      have HCN : Hid (∀ (i n : Nat), [x0, x1, x2][i]? = some n → wr.cell? ⟨gn, i, none⟩ = some (.int .i64 (n : Int))) := hcn
      have nn0 : wr.cell? ⟨gn, 0, none⟩ = some (.int .i64 (x0 : Int)) := hcn 0 x0 rfl
      have nn1 : wr.cell? ⟨gn, 1, none⟩ = some (.int .i64 (x1 : Int)) := hcn 1 x1 rfl
      have nn2 : wr.cell? ⟨gn, 2, none⟩ = some (.int .i64 (x2 : Int)) := hcn 2 x2 rfl
      have pP1 : wr.cell? ⟨w.heap.size + 1, 1, none⟩ = some (.int .i64 0) := HPr.out.cell 1 rfl
      have fP : ∀ i, wr.frozen? ⟨w.heap.size + 1, i, none⟩ = false := fun i => HPr.out.free i
      have hgne : gn ≠ w.heap.size + 1 := by omega
      clear hcn HEr HLN
      have hP1 : Bk (wr.setCell ⟨w.heap.size + 1, 1, none⟩ (.int .i64 (x0 : Int))) (w.heap.size + 1) #[.int .i64 1, .int .i64 (x0 : Int), .int .i64 0, .int .i64 0, .int .i64 0, .int .i64 0, .slice none 0 0, .slice none 0 0] 26 := bk_step HPr.out 1 _ rfl
      have HP1x : Hid (Bk (wr.setCell ⟨w.heap.size + 1, 1, none⟩ (.int .i64 (x0 : Int))) (w.heap.size + 1) #[.int .i64 1, .int .i64 (x0 : Int), .int .i64 0, .int .i64 0, .int .i64 0, .int .i64 0, .slice none 0 0, .slice none 0 0] 26) := hP1
      have hP2 : Bk ((wr.setCell ⟨w.heap.size + 1, 1, none⟩ (.int .i64 (x0 : Int))).setCell ⟨w.heap.size + 1, 4, none⟩ (.int .i64 (x1 : Int))) (w.heap.size + 1) #[.int .i64 1, .int .i64 (x0 : Int), .int .i64 0, .int .i64 0, .int .i64 (x1 : Int), .int .i64 0, .slice none 0 0, .slice none 0 0] 26 := bk_step hP1 4 _ rfl
      have HP2x : Hid (Bk ((wr.setCell ⟨w.heap.size + 1, 1, none⟩ (.int .i64 (x0 : Int))).setCell ⟨w.heap.size + 1, 4, none⟩ (.int .i64 (x1 : Int))) (w.heap.size + 1) #[.int .i64 1, .int .i64 (x0 : Int), .int .i64 0, .int .i64 0, .int .i64 (x1 : Int), .int .i64 0, .slice none 0 0, .slice none 0 0] 26) := hP2
      have hP3 : Bk (((wr.setCell ⟨w.heap.size + 1, 1, none⟩ (.int .i64 (x0 : Int))).setCell ⟨w.heap.size + 1, 4, none⟩ (.int .i64 (x1 : Int))).setCell ⟨w.heap.size + 1, 5, none⟩ (.int .i64 (x2 : Int))) (w.heap.size + 1) #[.int .i64 1, .int .i64 (x0 : Int), .int .i64 0, .int .i64 0, .int .i64 (x1 : Int), .int .i64 (x2 : Int), .slice none 0 0, .slice none 0 0] 26 := bk_step hP2 5 _ rfl
      have HP3x : Hid (Bk (((wr.setCell ⟨w.heap.size + 1, 1, none⟩ (.int .i64 (x0 : Int))).setCell ⟨w.heap.size + 1, 4, none⟩ (.int .i64 (x1 : Int))).setCell ⟨w.heap.size + 1, 5, none⟩ (.int .i64 (x2 : Int))) (w.heap.size + 1) #[.int .i64 1, .int .i64 (x0 : Int), .int .i64 0, .int .i64 0, .int .i64 (x1 : Int), .int .i64 (x2 : Int), .slice none 0 0, .slice none 0 0] 26) := hP3
      obtain ⟨w5, HW5⟩ : ∃ w5, Hid (w5 = (((wr.setCell ⟨w.heap.size + 1, 1, none⟩ (.int .i64 (x0 : Int))).setCell ⟨w.heap.size + 1, 4, none⟩ (.int .i64 (x1 : Int))).setCell ⟨w.heap.size + 1, 5, none⟩ (.int .i64 (x2 : Int)))) := ⟨_, rfl⟩
      have HP5 : Hid (Bk w5 (w.heap.size + 1) #[.int .i64 1, .int .i64 (x0 : Int), .int .i64 0, .int .i64 0, .int .i64 (x1 : Int), .int .i64 (x2 : Int), .slice none 0 0, .slice none 0 0] 26) := by rw [HW5.out]; exact hP3
      have HB5 : Hid (Below w.heap.size w w5) := by rw [HW5.out]; exact (((HBr.out.setCell (by show _ ≤ w.heap.size + 1; omega) _).setCell (by show _ ≤ w.heap.size + 1; omega) _).setCell (by show _ ≤ w.heap.size + 1; omega) _)
      have HK5 : Hid (Bk w5 w.heap.size #[.int .i64 0, .int .i64 0, .int .i64 0, .int .i64 0, .int .i64 0, .int .i64 0, .slice none 0 0, .slice none 0 0] 26) := by rw [HW5.out]; exact (Bk.other (Bk.other (Bk.other HKr.out _ _ (by show w.heap.size ≠ w.heap.size + 1; omega)) _ _ (by show w.heap.size ≠ w.heap.size + 1; omega)) _ _ (by show w.heap.size ≠ w.heap.size + 1; omega))
      have a0 : wr.cell? ⟨w.heap.size + 1, 1, none⟩ = some (.int .i64 0) := HPr.out.cell 1 rfl
      have k0 : wr.cell? ⟨w.heap.size + 1, 0, none⟩ = some (.int .i64 1) := HPr.out.cell 0 rfl
      have a1 : (wr.setCell ⟨w.heap.size + 1, 1, none⟩ (.int .i64 (x0 : Int))).cell? ⟨w.heap.size + 1, 4, none⟩ = some (.int .i64 0) := hP1.cell 4 rfl
      have k1 : (wr.setCell ⟨w.heap.size + 1, 1, none⟩ (.int .i64 (x0 : Int))).cell? ⟨w.heap.size + 1, 0, none⟩ = some (.int .i64 1) := hP1.cell 0 rfl
      have a2 : ((wr.setCell ⟨w.heap.size + 1, 1, none⟩ (.int .i64 (x0 : Int))).setCell ⟨w.heap.size + 1, 4, none⟩ (.int .i64 (x1 : Int))).cell? ⟨w.heap.size + 1, 5, none⟩ = some (.int .i64 0) := hP2.cell 5 rfl
      have k2 : ((wr.setCell ⟨w.heap.size + 1, 1, none⟩ (.int .i64 (x0 : Int))).setCell ⟨w.heap.size + 1, 4, none⟩ (.int .i64 (x1 : Int))).cell? ⟨w.heap.size + 1, 0, none⟩ = some (.int .i64 1) := hP2.cell 0 rfl
      have k3 : (((wr.setCell ⟨w.heap.size + 1, 1, none⟩ (.int .i64 (x0 : Int))).setCell ⟨w.heap.size + 1, 4, none⟩ (.int .i64 (x1 : Int))).setCell ⟨w.heap.size + 1, 5, none⟩ (.int .i64 (x2 : Int))).cell? ⟨w.heap.size + 1, 0, none⟩ = some (.int .i64 1) := hP3.cell 0 rfl
      clear hP1 hP2 hP3 pP1
      go_wp2_with fail
      refine (ref_ranged 1 _).mono ?_
      rw [HTO.out]
      rintro e w' ⟨rfl, hw'⟩
      rw [hw']
      clear hw' w'
      have HFX : Hid (takeP bs = T) := HT.out.symm
      clear HT
      obtain ⟨l6, z6, f6, hT6⟩ : ∃ l z f, takeM bs x = (l, z, f) := ⟨_, _, _, rfl⟩
      have HSF : Hid (spF bs ⟨x, 0⟩ = (l6, ⟨z6, f6⟩)) := by show _ = _; rw [spF_ok rfl]; simp only [hT6]
      have hcs := ref_Take (some ⟨g, o, none⟩) len cap bs x w5 (HR.out.below HB5.out) (by omega) (by have := HXr.out; omega)
      rw [hT6] at hcs
      have HCS : Hid (Calls Try.prog 39 #[.slice (some ⟨g, o, none⟩) len cap, .int .i64 x] w5 fun e w' => Hid (TakeTold w' w5.heap.size (l6, z6, f6) e) ∧ Below w5.heap.size w5 w') := hcs
      clear hcs hT6
      go_wp2_with fail
      rw [← HW5.out]
      refine HCS.out.mono ?_
      rintro e w6 ⟨ht6, hb6⟩
      obtain ⟨v6, he6, hs6⟩ := ht6.out
      simp only at he6 hs6
      subst he6
      obtain ⟨asv, csv, rfl, _⟩ := hs6.form
      have HSM : Hid (l6.length ≤ csv ∧ csv ≤ maxLen) := by
        rcases hs6.row.2 with ⟨g1, g2⟩ | ⟨g', c', cur, g1, _, _, g4, g5, _⟩
        · simp only [Value.slice.injEq] at g1
          exact ⟨by omega, by omega⟩
        · simp only [Value.slice.injEq] at g1
          obtain ⟨_, _, rfl⟩ := g1
          exact ⟨g4, g5⟩
      obtain ⟨sln, hsl⟩ : ∃ n, n = l6.length := ⟨_, rfl⟩
      rw [← hsl] at HSM hs6 ⊢
      have HSL : Hid (sln = l6.length) := hsl
      have HB6 : Hid (Below w.heap.size w w6) := HB5.out.trans (hb6.mono HB5.out.size)
      have HK6 : Hid (Bk w6 w.heap.size #[.int .i64 0, .int .i64 0, .int .i64 0, .int .i64 0, .int .i64 0, .int .i64 0, .slice none 0 0, .slice none 0 0] 26) := HK5.out.stay hb6
      have HP6 : Hid (Bk w6 (w.heap.size + 1) #[.int .i64 1, .int .i64 (x0 : Int), .int .i64 0, .int .i64 0, .int .i64 (x1 : Int), .int .i64 (x2 : Int), .slice none 0 0, .slice none 0 0] 26) := HP5.out.stay hb6
      have HSP6 : Hid (Sps w6 w5.heap.size (.slice asv sln csv) l6) := hs6
      have HS5 : Hid (w.heap.size + 2 ≤ w5.heap.size) := HP5.out.lt
      clear hb6 ht6 hs6 hsl HCS a0 a1 a2 k0 k1 k2 k3 nn0 nn1 nn2 HB5 HK5 HP5 HW5 HIr HPr HKr HBr HCN
      by_cases hf6 : f6 = 0
      · subst hf6
        obtain ⟨hz0, hz1⟩ : 0 ≤ z6 ∧ z6 ≤ len := by
          have h := spF_fine (bs := bs) (s := ⟨x, 0⟩) HBY.out (fun _ => by have := HXr.out; rw [HSZ.out]; exact this)
          rw [HSF.out] at h
          have h2 := h rfl
          rw [HSZ.out] at h2
          exact h2
        have b6 : w6.cell? ⟨w.heap.size + 1, 6, none⟩ = some (.slice none 0 0) := HP6.out.cell 6 rfl
        have fb6 : w6.frozen? ⟨w.heap.size + 1, 6, none⟩ = false := HP6.out.free 6
        obtain ⟨w7, HW7⟩ : ∃ w7, Hid (w7 = w6.setCell ⟨w.heap.size + 1, 6, none⟩ (.slice asv sln csv)) := ⟨_, rfl⟩
        have HB7 : Hid (Below w.heap.size w w7) := by rw [HW7.out]; exact HB6.out.setCell (by show _ ≤ w.heap.size + 1; omega) _
        have HK7 : Hid (Bk w7 w.heap.size #[.int .i64 0, .int .i64 0, .int .i64 0, .int .i64 0, .int .i64 0, .int .i64 0, .slice none 0 0, .slice none 0 0] 26) := by rw [HW7.out]; exact HK6.out.other _ _ (by show w.heap.size ≠ w.heap.size + 1; omega)
        have HP7 : Hid (Bk w7 (w.heap.size + 1) #[.int .i64 1, .int .i64 (x0 : Int), .int .i64 0, .int .i64 0, .int .i64 (x1 : Int), .int .i64 (x2 : Int), .slice asv sln csv, .slice none 0 0] 26) := by rw [HW7.out]; exact bk_step HP6.out 6 _ rfl
        have HSP7 : Hid (Sps w7 (w.heap.size + 2) (.slice asv sln csv) l6) := by rw [HW7.out]; exact (HSP6.out.lower HS5.out).under _ _ (by show w.heap.size + 1 < _; omega)
        have HS7 : Hid (w.heap.size + 2 ≤ w7.heap.size) := HP7.out.lt
        obtain ⟨r8, h8⟩ : ∃ r, r = numF bs 8 ⟨z6, 0⟩ := ⟨_, rfl⟩
        have HE8 : Hid (r8 = numF bs 8 ⟨z6, 0⟩) := h8
        have HF8 : Hid (r8.2.fine bs) := by rw [h8]; exact numF_fine HBY.out
        have hl8 : r8.1 ≤ 8 := by rw [h8]; exact numF_le _ _ _
        clear h8
        go_wp2_with fail
        rw [← HW7.out]
        refine (ref_upto (some ⟨g, o, none⟩) len cap bs z6 8 w7 (HR.out.below HB7.out) HL.out.2 ⟨hz0, hz1⟩ (by omega)).mono ?_
        rw [← HE8.out]
        rintro e w' ⟨ht, hw'⟩
        rw [hw']
        clear hw' w' b6 fb6 HB6 HK6 HP6 HSP6 HW7
        obtain ⟨n8, s8⟩ := r8
        obtain ⟨y8, f8⟩ := s8
        rcases ht.out with ⟨hf, he⟩ | ⟨hf, he⟩
        · simp only at hf he hl8 HE8 HF8
          subst he hf
          clear ht
          have HIF : Hid (itemsF bs ⟨z6, 0⟩ = itsF bs n8 [] ⟨y8, 0⟩) := by show _ = _; rw [itemsF, ← HE8.out]
          have HY8 : Hid (0 ≤ y8 ∧ y8 ≤ len) := by have h := HF8.out rfl; rw [HSZ.out] at h; exact h
          obtain ⟨T2, hT2⟩ : ∃ T2, T2 = itsF bs n8 [] ⟨y8, 0⟩ := ⟨_, rfl⟩
          have HT2 : Hid (itsF bs n8 [] ⟨y8, 0⟩ = T2) := hT2.symm
          have HIT : Hid ((itemsF bs (spF bs ⟨x, 0⟩).2) = T2) := by show _ = _; rw [HSF.out, HIF.out, hT2]
          clear hT2
          go_wp2
          go_loopw [7, 18] (fun t7 t18 ws => ∃ (i : Nat) (xx : Int) (av : Option Addr) (nv cv : Nat) (LL : List (It × Bd)), i ≤ n8 ∧ t18 = .int .i64 (i : Int) ∧ t7 = .int .i64 xx ∧ Hid (Its ws (w.heap.size + 2) (.slice av nv cv) LL) ∧ Hid (LL.length = i) ∧ Hid (itsF bs (n8 - i) (LL.map Prod.fst) ⟨xx, 0⟩ = T2) ∧ Hid (0 ≤ xx ∧ xx ≤ len) ∧ Hid (Bk ws (w.heap.size + 1) #[.int .i64 1, .int .i64 (x0 : Int), .int .i64 0, .int .i64 0, .int .i64 (x1 : Int), .int .i64 (x2 : Int), .slice asv sln csv, .slice av nv cv] 26) ∧ Hid (Bk ws w.heap.size #[.int .i64 0, .int .i64 0, .int .i64 0, .int .i64 0, .int .i64 0, .int .i64 0, .slice none 0 0, .slice none 0 0] 26) ∧ Hid (Sps ws (w.heap.size + 2) (.slice asv sln csv) l6) ∧ Hid (Below w.heap.size w ws)) (fun _ t18 _ => n8 - (intOf t18).toNat)
          case atStart => exact ⟨0, y8, none, 0, 0, [], by omega, rfl, rfl, Its.nil_ _ _, rfl, HT2, HY8, HP7, HK7, HSP7, HB7⟩
          case round =>
            obtain ⟨i, xx, av, nv, cv, LL, hi, rfl, rfl, HIs, HLs, HEs, HXs, HPs, HKs, HSs, HBs⟩ := hrel
            clear HP7 HK7 HSP7 HB7 HS7
            have HW2 : Hid (w.heap.size + 2 ≤ wr.heap.size) := HPs.out.lt
            by_cases hlt2 : i < n8
            · have hlt3 : (i : Int) < (n8 : Int) := by omega
              obtain ⟨r9, h9⟩ : ∃ r, r = itF bs ⟨xx, 0⟩ := ⟨_, rfl⟩
              have HE9 : Hid (r9 = itF bs ⟨xx, 0⟩) := h9
              have HF9 : Hid (r9.2.fine bs) := by rw [h9]; exact itF_fine HBY.out
              have HE10 : Hid (itsF bs (n8 - (i + 1)) (LL.map Prod.fst ++ [r9.1]) r9.2 = T2) := by show _ = _; rw [← HEs.out, show n8 - i = (n8 - (i + 1)) + 1 from by omega, itsF, ← h9]
              clear h9 HEs
              go_wp2_with fail
              refine (ref_item g o len cap bs xx wr (HR.out.below HBs.out) HL.out.1 HL.out.2 HXs.out).mono ?_
              rw [← HE9.out]
              rintro e w9 ⟨ht9, hb9⟩
              clear HE9
              obtain ⟨q9, s9⟩ := r9
              obtain ⟨y9, f9⟩ := s9
              have HB9 : Hid (Below w.heap.size w w9) := HBs.out.trans (hb9.mono HBs.out.size)
              have HP9 : Hid (Bk w9 (w.heap.size + 1) #[.int .i64 1, .int .i64 (x0 : Int), .int .i64 0, .int .i64 0, .int .i64 (x1 : Int), .int .i64 (x2 : Int), .slice asv sln csv, .slice av nv cv] 26) := HPs.out.stay hb9
              have HK9 : Hid (Bk w9 w.heap.size #[.int .i64 0, .int .i64 0, .int .i64 0, .int .i64 0, .int .i64 0, .int .i64 0, .slice none 0 0, .slice none 0 0] 26) := HKs.out.stay hb9
              have HS9 : Hid (Sps w9 (w.heap.size + 2) (.slice asv sln csv) l6) := HSs.out.below hb9
              have HI9 : Hid (Its w9 (w.heap.size + 2) (.slice av nv cv) LL) := HIs.out.below hb9
              have HW9s : Hid (w.heap.size + 2 ≤ w9.heap.size) := Nat.le_trans HW2.out hb9.size
              rcases ht9.out with ⟨hf, ab, nb, cb, he, ho9⟩ | ⟨hf, he⟩
              · simp only at hf he ho9 HE10 HF9
                subst he hf
                have HY9 : Hid (0 ≤ y9 ∧ y9 ≤ len) := by have h := HF9.out rfl; rw [HSZ.out] at h; exact h
                have HO9 : Hid (Own w9 (w.heap.size + 2) ab nb cb q9.body) := ho9.under HW2.out
                obtain ⟨qt, qf, qb⟩ := q9
                simp only at HE10 HO9 ⊢
                clear ht9 hb9 ho9 HIs HPs HKs HSs HBs
                have HBa : Hid (Below w9.heap.size w9 ((w9.alloc (.cells #[.int .i64 qt, .int .u32 qf, .slice ab nb cb] 36)).alloc (.cells #[.int .i64 qt, .int .u32 qf, .slice ab nb cb] 36))) := (below_new _ _).alloc (by simp) _
                have HIa : Hid (Its ((w9.alloc (.cells #[.int .i64 qt, .int .u32 qf, .slice ab nb cb] 36)).alloc (.cells #[.int .i64 qt, .int .u32 qf, .slice ab nb cb] 36)) (w.heap.size + 2) (.slice av nv cv) LL) := HI9.out.below HBa.out
                have HOa : Hid (Own ((w9.alloc (.cells #[.int .i64 qt, .int .u32 qf, .slice ab nb cb] 36)).alloc (.cells #[.int .i64 qt, .int .u32 qf, .slice ab nb cb] 36)) (w.heap.size + 2) ab nb cb qb) := HO9.out.below HBa.out
                have HNa : Hid (Bk ((w9.alloc (.cells #[.int .i64 qt, .int .u32 qf, .slice ab nb cb] 36)).alloc (.cells #[.int .i64 qt, .int .u32 qf, .slice ab nb cb] 36)) (w9.heap.size + 1) (icells ⟨qt, qf, qb⟩ (ab, nb, cb)).toArray 36) := by
                  have h := Bk.new (w9.alloc (.cells #[.int .i64 qt, .int .u32 qf, .slice ab nb cb] 36)) (icells ⟨qt, qf, qb⟩ (ab, nb, cb)).toArray 36
                  rw [show (w9.alloc (.cells #[.int .i64 qt, .int .u32 qf, .slice ab nb cb] 36)).heap.size = w9.heap.size + 1 from by simp] at h
                  exact h
                have HSa : Hid (w.heap.size + 2 ≤ ((w9.alloc (.cells #[.int .i64 qt, .int .u32 qf, .slice ab nb cb] 36)).alloc (.cells #[.int .i64 qt, .int .u32 qf, .slice ab nb cb] 36)).heap.size) := Nat.le_trans HW9s.out HBa.out.size
                have hll : LL.length ≤ 1000000 := by have := HLs.out; omega
                have a7 : (w9.alloc (.cells #[.int .i64 qt, .int .u32 qf, .slice ab nb cb] 36)).cell? ⟨w.heap.size + 1, 7, none⟩ = some (.slice av nv cv) := (HP9.out.stay (below_new _ _)).cell 7 rfl
                go_wp2_with (at_builtin; refine wpList_append_it rfl (.tmp 148) (.tmp 150) rfl (w.heap.size + 2) (.slice av nv cv) LL rfl HIa.out ⟨w9.heap.size + 1, 0, none⟩ 1 ⟨qt, qf, qb⟩ (ab, nb, cb) rfl (item_told HNa.out) HOa.out hll HSa.out ?_)
                intro v' wb hib hgb hbb
                obtain ⟨av2, cv2, rfl, _, _⟩ := hib.form
                obtain ⟨nv2, hnv2⟩ : ∃ n, n = (LL ++ [((⟨qt, qf, qb⟩ : It), ((ab, nb, cb) : Bd))]).length := ⟨_, rfl⟩
                rw [← hnv2] at hib ⊢
                have HPb : Hid (Bk wb (w.heap.size + 1) #[.int .i64 1, .int .i64 (x0 : Int), .int .i64 0, .int .i64 0, .int .i64 (x1 : Int), .int .i64 (x2 : Int), .slice asv sln csv, .slice av nv cv] 26) := Bk.below (HP9.out.stay HBa.out) hbb (by omega)
                have HKb : Hid (Bk wb w.heap.size #[.int .i64 0, .int .i64 0, .int .i64 0, .int .i64 0, .int .i64 0, .int .i64 0, .slice none 0 0, .slice none 0 0] 26) := Bk.below (HK9.out.stay HBa.out) hbb (by omega)
                have HSb : Hid (Sps wb (w.heap.size + 2) (.slice asv sln csv) l6) := (HS9.out.below HBa.out).grown_it HIa.out hgb
                have HIb : Hid (Its wb (w.heap.size + 2) (.slice av2 nv2 cv2) (LL ++ [(⟨qt, qf, qb⟩, (ab, nb, cb))])) := hib
                have HBb : Hid (Below w.heap.size w wb) := (HB9.out.trans (HBa.out.mono HB9.out.size)).trans (hbb.mono (by omega))
                have HLb : Hid ((LL ++ [((⟨qt, qf, qb⟩ : It), ((ab, nb, cb) : Bd))]).length = i + 1) := by show _ = _; rw [List.length_append, HLs.out]; rfl
                have HEb : Hid (itsF bs (n8 - (i + 1)) ((LL ++ [((⟨qt, qf, qb⟩ : It), ((ab, nb, cb) : Bd))]).map Prod.fst) ⟨y9, 0⟩ = T2) := by show _ = _; rw [List.map_append]; exact HE10.out
                have b7 : wb.cell? ⟨w.heap.size + 1, 7, none⟩ = some (.slice av nv cv) := HPb.out.cell 7 rfl
                have fb7 : wb.frozen? ⟨w.heap.size + 1, 7, none⟩ = false := HPb.out.free 7
                have HPc : Hid (Bk (wb.setCell ⟨w.heap.size + 1, 7, none⟩ (.slice av2 nv2 cv2)) (w.heap.size + 1) #[.int .i64 1, .int .i64 (x0 : Int), .int .i64 0, .int .i64 0, .int .i64 (x1 : Int), .int .i64 (x2 : Int), .slice asv sln csv, .slice av2 nv2 cv2] 26) := bk_step HPb.out 7 _ rfl
                have HKc : Hid (Bk (wb.setCell ⟨w.heap.size + 1, 7, none⟩ (.slice av2 nv2 cv2)) w.heap.size #[.int .i64 0, .int .i64 0, .int .i64 0, .int .i64 0, .int .i64 0, .int .i64 0, .slice none 0 0, .slice none 0 0] 26) := HKb.out.other _ _ (by show w.heap.size ≠ w.heap.size + 1; omega)
                have HSc : Hid (Sps (wb.setCell ⟨w.heap.size + 1, 7, none⟩ (.slice av2 nv2 cv2)) (w.heap.size + 2) (.slice asv sln csv) l6) := HSb.out.under _ _ (by show w.heap.size + 1 < _; omega)
                have HIc : Hid (Its (wb.setCell ⟨w.heap.size + 1, 7, none⟩ (.slice av2 nv2 cv2)) (w.heap.size + 2) (.slice av2 nv2 cv2) (LL ++ [(⟨qt, qf, qb⟩, (ab, nb, cb))])) := HIb.out.under _ _ (by show w.heap.size + 1 < _; omega)
                have HBc : Hid (Below w.heap.size w (wb.setCell ⟨w.heap.size + 1, 7, none⟩ (.slice av2 nv2 cv2))) := HBb.out.setCell (by show _ ≤ w.heap.size + 1; omega) _
                clear hib hgb hbb hnv2 HIa HOa HNa HBa HE10 a7 HI9 HP9 HK9 HS9 HB9 HPb HKb HSb HIb HBb
                go_wp2
                go_roundw
                case rel => exact ⟨i + 1, y9, av2, nv2, cv2, _, by omega, by go_num, rfl, HIc, HLb, HEb, HY9, HPc, HKc, HSc, HBc⟩
                case measure => simp [intOf]; omega
              · simp only at hf he HE10
                subst he
                have hf' : (f9 == 0) = false := by simpa using hf
                have HTE : Hid (T = (Pc.zero, f9)) := by
                  have h1 : (itemsF bs (spF bs ⟨x, 0⟩).2).2.ft = f9 := by have h := itsF_stop bs (n8 - (i + 1)) (LL.map Prod.fst ++ [q9]) (s := ⟨y9, f9⟩) hf; rw [HE10.out] at h; rw [HIT.out, h]
                  have h3 : (itemsF bs (spF bs ⟨x, 0⟩).2).2.ft ≠ 0 := by rw [h1]; exact hf
                  have h2 := HFX.out.symm.trans (takeP_end HN0.out HIS.out HPAR.out (by rw [endE_bad h3]; exact h3))
                  rw [endE_bad h3, h1] at h2
                  exact h2
                have HKd : Hid (Bk (w9.alloc (.cells #[.int .i64 0, .int .u32 0, .slice none 0 0] 36)) w.heap.size #[.int .i64 0, .int .i64 0, .int .i64 0, .int .i64 0, .int .i64 0, .int .i64 0, .slice none 0 0, .slice none 0 0] 26) := HK9.out.stay (below_new _ _)
                have HBd : Hid (Below w.heap.size w (w9.alloc (.cells #[.int .i64 0, .int .u32 0, .slice none 0 0] 36))) := HB9.out.alloc HB9.out.size _
                clear ht9 hb9
                have z0 : (w9.alloc (.cells #[.int .i64 0, .int .u32 0, .slice none 0 0] 36)).cell? ⟨w.heap.size, 0, none⟩ = some (.int .i64 0) := HKd.out.cell 0 rfl
                have z1 : (w9.alloc (.cells #[.int .i64 0, .int .u32 0, .slice none 0 0] 36)).cell? ⟨w.heap.size, 1, none⟩ = some (.int .i64 0) := HKd.out.cell 1 rfl
                have z2 : (w9.alloc (.cells #[.int .i64 0, .int .u32 0, .slice none 0 0] 36)).cell? ⟨w.heap.size, 2, none⟩ = some (.int .i64 0) := HKd.out.cell 2 rfl
                have z3 : (w9.alloc (.cells #[.int .i64 0, .int .u32 0, .slice none 0 0] 36)).cell? ⟨w.heap.size, 3, none⟩ = some (.int .i64 0) := HKd.out.cell 3 rfl
                have z4 : (w9.alloc (.cells #[.int .i64 0, .int .u32 0, .slice none 0 0] 36)).cell? ⟨w.heap.size, 4, none⟩ = some (.int .i64 0) := HKd.out.cell 4 rfl
                have z5 : (w9.alloc (.cells #[.int .i64 0, .int .u32 0, .slice none 0 0] 36)).cell? ⟨w.heap.size, 5, none⟩ = some (.int .i64 0) := HKd.out.cell 5 rfl
                have z6 : (w9.alloc (.cells #[.int .i64 0, .int .u32 0, .slice none 0 0] 36)).cell? ⟨w.heap.size, 6, none⟩ = some (.slice none 0 0) := HKd.out.cell 6 rfl
                have z7 : (w9.alloc (.cells #[.int .i64 0, .int .u32 0, .slice none 0 0] 36)).cell? ⟨w.heap.size, 7, none⟩ = some (.slice none 0 0) := HKd.out.cell 7 rfl
                have fz : ∀ i, (w9.alloc (.cells #[.int .i64 0, .int .u32 0, .slice none 0 0] 36)).frozen? ⟨w.heap.size, i, none⟩ = false := fun i => HKd.out.free i
                go_wp2
                try simp only [Exit.inBlock, Exit.then]
                change bodyPost _ _ _ _ _ (set8 _ w.heap.size (.int .i64 0) (.int .i64 0) (.int .i64 0) (.int .i64 0) (.int .i64 0) (.int .i64 0) (.slice none 0 0) (.slice none 0 0))
                refine bodyPost_ret (results_parcel rfl (by rfl) (by rfl) (HKd.out.set8 (.int .i64 0) (.int .i64 0) (.int .i64 0) (.int .i64 0) (.int .i64 0) (.int .i64 0) (.slice none 0 0) (.slice none 0 0))) rfl ?_
                rw [HTE.out]
                exact ⟨TakeP13.bad _ _ _, set8_below HBd.out _ (Nat.le_refl _) (.int .i64 0) (.int .i64 0) (.int .i64 0) (.int .i64 0) (.int .i64 0) (.int .i64 0) (.slice none 0 0) (.slice none 0 0)⟩
            · have hnl2 : ¬ (i : Int) < (n8 : Int) := by omega
              obtain rfl : i = n8 := by omega
              have HTT : Hid ((LL.map Prod.fst, (⟨xx, 0⟩ : Rs)) = T2) := by have h := HEs.out; rw [Nat.sub_self, itsF] at h; exact h
              have HFT : Hid (∀ q ∈ LL.map Prod.fst, ItFit q) := by
                have h := itsF_fit bs i [] ⟨y8, 0⟩ (fun q hq => by cases hq)
                rw [HT2.out, ← HTT.out] at h
                exact h
              obtain ⟨li, hli⟩ : ∃ li, li = LL.map Prod.fst := ⟨_, rfl⟩
              have HLI : Hid (LL.map Prod.fst = li) := hli.symm
              rw [← hli] at HTT HFT
              clear hli
              have HPAR2 : Hid ((⟨1, (x0 : Nat), 0, 0, (x1 : Nat), (x2 : Nat), l6, li⟩, (⟨xx, 0⟩ : Rs)) = parF bs (bs.getD 0 0 : Nat) ⟨1, 0⟩) := by
                have h := HPAR.out
                rw [HIT.out, ← HTT.out, HSF.out] at h
                exact h
              have HIML : Hid (nv ≤ cv ∧ cv ≤ maxLen) := by
                obtain ⟨a', c', e1, e2, e3⟩ := HIs.out.form
                simp only [Value.slice.injEq] at e1
                obtain ⟨_, rfl, rfl⟩ := e1
                exact ⟨e2, e3⟩
              clear HPAR HIT HTT HEs
              by_cases hxl : xx = (len : Int)
              · have hxl' : (xx == (len : Int)) = true := by simpa using hxl
                have HEN : Hid (endE bs ⟨xx, 0⟩ = 0) := by show _ = _; rw [endE, if_neg (fun h => h.2 (by show xx = _; rw [HSZ.out]; exact hxl))]
                obtain ⟨C, hC⟩ : ∃ C, C = chk ⟨1, (x0 : Nat), 0, 0, (x1 : Nat), (x2 : Nat), l6, li⟩ := ⟨_, rfl⟩
                have HCC : Hid (C = chk ⟨1, (x0 : Nat), 0, 0, (x1 : Nat), (x2 : Nat), l6, li⟩) := hC
                have HPR : Hid (PcRd wr ⟨1, (x0 : Nat), 0, 0, (x1 : Nat), (x2 : Nat), l6, li⟩ asv sln csv av nv cv) := by
                  have h := HIs.out.rd (fun q hq => (HFT.out q (by rw [← HLI.out]; exact hq)).wide)
                  rw [HLI.out] at h
                  exact ⟨HSs.out.rd, h, HSM.out.1, HSM.out.2, HIML.out.1, HIML.out.2⟩
                have hcc := ref_Check ⟨1, (x0 : Nat), 0, 0, (x1 : Nat), (x2 : Nat), l6, li⟩ asv sln csv av nv cv wr HPR.out
                rw [← hC] at hcc
                have HCK : Hid (Calls Try.prog 11 #[Pc.val ⟨1, (x0 : Nat), 0, 0, (x1 : Nat), (x2 : Nat), l6, li⟩ asv sln csv av nv cv] wr fun e w' => e = .returned (.int .i64 C) ∧ Below wr.heap.size wr w') := hcc
                clear hC hcc
                have p0 : wr.cell? ⟨w.heap.size + 1, 0, none⟩ = some (.int .i64 1) := HPs.out.cell 0 rfl
                have p1 : wr.cell? ⟨w.heap.size + 1, 1, none⟩ = some (.int .i64 (x0 : Int)) := HPs.out.cell 1 rfl
                have p2 : wr.cell? ⟨w.heap.size + 1, 2, none⟩ = some (.int .i64 0) := HPs.out.cell 2 rfl
                have p3 : wr.cell? ⟨w.heap.size + 1, 3, none⟩ = some (.int .i64 0) := HPs.out.cell 3 rfl
                have p4 : wr.cell? ⟨w.heap.size + 1, 4, none⟩ = some (.int .i64 (x1 : Int)) := HPs.out.cell 4 rfl
                have p5 : wr.cell? ⟨w.heap.size + 1, 5, none⟩ = some (.int .i64 (x2 : Int)) := HPs.out.cell 5 rfl
                have p6 : wr.cell? ⟨w.heap.size + 1, 6, none⟩ = some (.slice asv sln csv) := HPs.out.cell 6 rfl
                have p7 : wr.cell? ⟨w.heap.size + 1, 7, none⟩ = some (.slice av nv cv) := HPs.out.cell 7 rfl
                go_wp2_with fail
                refine HCK.out.mono ?_
                rintro e w6 ⟨he, hb6⟩
                subst he
                have HB6 : Hid (Below w.heap.size w w6) := HBs.out.trans (hb6.mono HBs.out.size)
                have HK6 : Hid (Bk w6 w.heap.size #[.int .i64 0, .int .i64 0, .int .i64 0, .int .i64 0, .int .i64 0, .int .i64 0, .slice none 0 0, .slice none 0 0] 26) := HKs.out.stay hb6
                have HP6 : Hid (Bk w6 (w.heap.size + 1) #[.int .i64 1, .int .i64 (x0 : Int), .int .i64 0, .int .i64 0, .int .i64 (x1 : Int), .int .i64 (x2 : Int), .slice asv sln csv, .slice av nv cv] 26) := HPs.out.stay hb6
                have HS6 : Hid (Sps w6 (w.heap.size + 2) (.slice asv sln csv) l6) := HSs.out.below hb6
                have HI6 : Hid (Its w6 (w.heap.size + 2) (.slice av nv cv) LL) := HIs.out.below hb6
                clear hb6 HCK HPR p0 p1 p2 p3 p4 p5 p6 p7
                have z0 : w6.cell? ⟨w.heap.size, 0, none⟩ = some (.int .i64 0) := HK6.out.cell 0 rfl
                have z1 : w6.cell? ⟨w.heap.size, 1, none⟩ = some (.int .i64 0) := HK6.out.cell 1 rfl
                have z2 : w6.cell? ⟨w.heap.size, 2, none⟩ = some (.int .i64 0) := HK6.out.cell 2 rfl
                have z3 : w6.cell? ⟨w.heap.size, 3, none⟩ = some (.int .i64 0) := HK6.out.cell 3 rfl
                have z4 : w6.cell? ⟨w.heap.size, 4, none⟩ = some (.int .i64 0) := HK6.out.cell 4 rfl
                have z5 : w6.cell? ⟨w.heap.size, 5, none⟩ = some (.int .i64 0) := HK6.out.cell 5 rfl
                have z6 : w6.cell? ⟨w.heap.size, 6, none⟩ = some (.slice none 0 0) := HK6.out.cell 6 rfl
                have z7 : w6.cell? ⟨w.heap.size, 7, none⟩ = some (.slice none 0 0) := HK6.out.cell 7 rfl
                have fz : ∀ i, w6.frozen? ⟨w.heap.size, i, none⟩ = false := fun i => HK6.out.free i
                by_cases hC0 : C = 0
                · have HTE : Hid (T = (⟨1, (x0 : Nat), 0, 0, (x1 : Nat), (x2 : Nat), l6, li⟩, 0)) := HFX.out.symm.trans (takeP_ok HN0.out HIS.out HPAR2.out HEN.out (by rw [← HCC.out]; exact hC0))
                  subst hC0
                  have p0 : w6.cell? ⟨w.heap.size + 1, 0, none⟩ = some (.int .i64 1) := HP6.out.cell 0 rfl
                  have p1 : w6.cell? ⟨w.heap.size + 1, 1, none⟩ = some (.int .i64 (x0 : Int)) := HP6.out.cell 1 rfl
                  have p2 : w6.cell? ⟨w.heap.size + 1, 2, none⟩ = some (.int .i64 0) := HP6.out.cell 2 rfl
                  have p3 : w6.cell? ⟨w.heap.size + 1, 3, none⟩ = some (.int .i64 0) := HP6.out.cell 3 rfl
                  have p4 : w6.cell? ⟨w.heap.size + 1, 4, none⟩ = some (.int .i64 (x1 : Int)) := HP6.out.cell 4 rfl
                  have p5 : w6.cell? ⟨w.heap.size + 1, 5, none⟩ = some (.int .i64 (x2 : Int)) := HP6.out.cell 5 rfl
                  have p6 : w6.cell? ⟨w.heap.size + 1, 6, none⟩ = some (.slice asv sln csv) := HP6.out.cell 6 rfl
                  have p7 : w6.cell? ⟨w.heap.size + 1, 7, none⟩ = some (.slice av nv cv) := HP6.out.cell 7 rfl
                  go_wp2
                  try simp only [Exit.inBlock, Exit.then]
                  change bodyPost _ _ _ _ _ (set8 _ w.heap.size (.int .i64 1) (.int .i64 (x0 : Int)) (.int .i64 0) (.int .i64 0) (.int .i64 (x1 : Int)) (.int .i64 (x2 : Int)) (.slice asv sln csv) (.slice av nv cv))
                  refine bodyPost_ret (results_parcel rfl (by rfl) (by rfl) (HK6.out.set8 (.int .i64 1) (.int .i64 (x0 : Int)) (.int .i64 0) (.int .i64 0) (.int .i64 (x1 : Int)) (.int .i64 (x2 : Int)) (.slice asv sln csv) (.slice av nv cv))) rfl ?_
                  rw [HTE.out]
                  refine ⟨⟨asv, sln, csv, av, nv, cv, LL, rfl, ?_, ?_, HLI.out⟩, set8_below HB6.out _ (Nat.le_refl _) (.int .i64 1) (.int .i64 (x0 : Int)) (.int .i64 0) (.int .i64 0) (.int .i64 (x1 : Int)) (.int .i64 (x2 : Int)) (.slice asv sln csv) (.slice av nv cv)⟩
                  · exact (HS6.out.frame fun k hb hk => set8_other _ _ _ _ _ _ _ _ _ _ k (by omega)).lower (by omega)
                  · exact (HI6.out.frame fun k hb hk => set8_other _ _ _ _ _ _ _ _ _ _ k (by omega)).lower (by omega)
                · have HTE : Hid (T = (Pc.zero, C)) := by
                    have h := HFX.out.symm.trans (takeP_chk HN0.out HIS.out HPAR2.out HEN.out (by rw [← HCC.out]; exact hC0))
                    rw [← HCC.out] at h
                    exact h
                  have hC1 : (C == 0) = false := by simpa using hC0
                  go_wp2
                  try simp only [Exit.inBlock, Exit.then]
                  change bodyPost _ _ _ _ _ (set8 _ w.heap.size (.int .i64 0) (.int .i64 0) (.int .i64 0) (.int .i64 0) (.int .i64 0) (.int .i64 0) (.slice none 0 0) (.slice none 0 0))
                  refine bodyPost_ret (results_parcel rfl (by rfl) (by rfl) (HK6.out.set8 (.int .i64 0) (.int .i64 0) (.int .i64 0) (.int .i64 0) (.int .i64 0) (.int .i64 0) (.slice none 0 0) (.slice none 0 0))) rfl ?_
                  rw [HTE.out]
                  exact ⟨TakeP13.bad _ _ _, set8_below HB6.out _ (Nat.le_refl _) (.int .i64 0) (.int .i64 0) (.int .i64 0) (.int .i64 0) (.int .i64 0) (.int .i64 0) (.slice none 0 0) (.slice none 0 0)⟩
              · have hxl2 : (xx == (len : Int)) = false := by simpa using hxl
                have hxl3 : (xx != (len : Int)) = true := by simpa using hxl
                have HTE : Hid (T = (Pc.zero, 4)) := by
                  have hE : endE bs ⟨xx, 0⟩ = 4 := by rw [endE, if_pos ⟨rfl, by show xx ≠ _; rw [HSZ.out]; exact hxl⟩]
                  have h := HFX.out.symm.trans (takeP_end HN0.out HIS.out HPAR2.out (by rw [hE]; decide))
                  rw [hE] at h
                  exact h
                have z0 : wr.cell? ⟨w.heap.size, 0, none⟩ = some (.int .i64 0) := HKs.out.cell 0 rfl
                have z1 : wr.cell? ⟨w.heap.size, 1, none⟩ = some (.int .i64 0) := HKs.out.cell 1 rfl
                have z2 : wr.cell? ⟨w.heap.size, 2, none⟩ = some (.int .i64 0) := HKs.out.cell 2 rfl
                have z3 : wr.cell? ⟨w.heap.size, 3, none⟩ = some (.int .i64 0) := HKs.out.cell 3 rfl
                have z4 : wr.cell? ⟨w.heap.size, 4, none⟩ = some (.int .i64 0) := HKs.out.cell 4 rfl
                have z5 : wr.cell? ⟨w.heap.size, 5, none⟩ = some (.int .i64 0) := HKs.out.cell 5 rfl
                have z6 : wr.cell? ⟨w.heap.size, 6, none⟩ = some (.slice none 0 0) := HKs.out.cell 6 rfl
                have z7 : wr.cell? ⟨w.heap.size, 7, none⟩ = some (.slice none 0 0) := HKs.out.cell 7 rfl
                have fz : ∀ i, wr.frozen? ⟨w.heap.size, i, none⟩ = false := fun i => HKs.out.free i
                go_wp2
                try simp only [Exit.inBlock, Exit.then]
                change bodyPost _ _ _ _ _ (set8 _ w.heap.size (.int .i64 0) (.int .i64 0) (.int .i64 0) (.int .i64 0) (.int .i64 0) (.int .i64 0) (.slice none 0 0) (.slice none 0 0))
                refine bodyPost_ret (results_parcel rfl (by rfl) (by rfl) (HKs.out.set8 (.int .i64 0) (.int .i64 0) (.int .i64 0) (.int .i64 0) (.int .i64 0) (.int .i64 0) (.slice none 0 0) (.slice none 0 0))) rfl ?_
                rw [HTE.out]
                exact ⟨TakeP13.bad _ _ _, set8_below HBs.out _ (Nat.le_refl _) (.int .i64 0) (.int .i64 0) (.int .i64 0) (.int .i64 0) (.int .i64 0) (.int .i64 0) (.slice none 0 0) (.slice none 0 0)⟩
        · simp only at hf he HE8
          subst he
          have hf' : (f8 == 0) = false := by simpa using hf
          have HTE : Hid (T = (Pc.zero, f8)) := by
            have h1 : (itemsF bs (spF bs ⟨x, 0⟩).2).2.ft = f8 := by rw [HSF.out, itemsF, ← HE8.out]; simp only; rw [itsF_stop bs _ _ hf]
            have h3 : (itemsF bs (spF bs ⟨x, 0⟩).2).2.ft ≠ 0 := by rw [h1]; exact hf
            have h2 := HFX.out.symm.trans (takeP_end HN0.out HIS.out HPAR.out (by rw [endE_bad h3]; exact h3))
            rw [endE_bad h3, h1] at h2
            exact h2
          have z0 : w7.cell? ⟨w.heap.size, 0, none⟩ = some (.int .i64 0) := HK7.out.cell 0 rfl
          have z1 : w7.cell? ⟨w.heap.size, 1, none⟩ = some (.int .i64 0) := HK7.out.cell 1 rfl
          have z2 : w7.cell? ⟨w.heap.size, 2, none⟩ = some (.int .i64 0) := HK7.out.cell 2 rfl
          have z3 : w7.cell? ⟨w.heap.size, 3, none⟩ = some (.int .i64 0) := HK7.out.cell 3 rfl
          have z4 : w7.cell? ⟨w.heap.size, 4, none⟩ = some (.int .i64 0) := HK7.out.cell 4 rfl
          have z5 : w7.cell? ⟨w.heap.size, 5, none⟩ = some (.int .i64 0) := HK7.out.cell 5 rfl
          have z6 : w7.cell? ⟨w.heap.size, 6, none⟩ = some (.slice none 0 0) := HK7.out.cell 6 rfl
          have z7 : w7.cell? ⟨w.heap.size, 7, none⟩ = some (.slice none 0 0) := HK7.out.cell 7 rfl
          have fz : ∀ i, w7.frozen? ⟨w.heap.size, i, none⟩ = false := fun i => HK7.out.free i
          go_wp2
          try simp only [Exit.inBlock, Exit.then]
          change bodyPost _ _ _ _ _ (set8 _ w.heap.size (.int .i64 0) (.int .i64 0) (.int .i64 0) (.int .i64 0) (.int .i64 0) (.int .i64 0) (.slice none 0 0) (.slice none 0 0))
          refine bodyPost_ret (results_parcel rfl (by rfl) (by rfl) (HK7.out.set8 (.int .i64 0) (.int .i64 0) (.int .i64 0) (.int .i64 0) (.int .i64 0) (.int .i64 0) (.slice none 0 0) (.slice none 0 0))) rfl ?_
          rw [HTE.out]
          exact ⟨TakeP13.bad _ _ _, set8_below HB7.out _ (Nat.le_refl _) (.int .i64 0) (.int .i64 0) (.int .i64 0) (.int .i64 0) (.int .i64 0) (.int .i64 0) (.slice none 0 0) (.slice none 0 0)⟩
      · have hf' : (f6 == 0) = false := by simpa using hf6
        have HTE : Hid (T = (Pc.zero, f6)) := by
          have h1 : (itemsF bs (spF bs ⟨x, 0⟩).2).2.ft = f6 := by rw [HSF.out]; simp only; rw [itemsF_stop bs hf6]
          have h3 : (itemsF bs (spF bs ⟨x, 0⟩).2).2.ft ≠ 0 := by rw [h1]; exact hf6
          have h2 := HFX.out.symm.trans (takeP_end HN0.out HIS.out HPAR.out (by rw [endE_bad h3]; exact h3))
          rw [endE_bad h3, h1] at h2
          exact h2
        have z0 : w6.cell? ⟨w.heap.size, 0, none⟩ = some (.int .i64 0) := HK6.out.cell 0 rfl
        have z1 : w6.cell? ⟨w.heap.size, 1, none⟩ = some (.int .i64 0) := HK6.out.cell 1 rfl
        have z2 : w6.cell? ⟨w.heap.size, 2, none⟩ = some (.int .i64 0) := HK6.out.cell 2 rfl
        have z3 : w6.cell? ⟨w.heap.size, 3, none⟩ = some (.int .i64 0) := HK6.out.cell 3 rfl
        have z4 : w6.cell? ⟨w.heap.size, 4, none⟩ = some (.int .i64 0) := HK6.out.cell 4 rfl
        have z5 : w6.cell? ⟨w.heap.size, 5, none⟩ = some (.int .i64 0) := HK6.out.cell 5 rfl
        have z6 : w6.cell? ⟨w.heap.size, 6, none⟩ = some (.slice none 0 0) := HK6.out.cell 6 rfl
        have z7 : w6.cell? ⟨w.heap.size, 7, none⟩ = some (.slice none 0 0) := HK6.out.cell 7 rfl
        have fz : ∀ i, w6.frozen? ⟨w.heap.size, i, none⟩ = false := fun i => HK6.out.free i
        go_wp2
        try simp only [Exit.inBlock, Exit.then]
        change bodyPost _ _ _ _ _ (set8 _ w.heap.size (.int .i64 0) (.int .i64 0) (.int .i64 0) (.int .i64 0) (.int .i64 0) (.int .i64 0) (.slice none 0 0) (.slice none 0 0))
        refine bodyPost_ret (results_parcel rfl (by rfl) (by rfl) (HK6.out.set8 (.int .i64 0) (.int .i64 0) (.int .i64 0) (.int .i64 0) (.int .i64 0) (.int .i64 0) (.slice none 0 0) (.slice none 0 0))) rfl ?_
        rw [HTE.out]
        exact ⟨TakeP13.bad _ _ _, set8_below HB6.out _ (Nat.le_refl _) (.int .i64 0) (.int .i64 0) (.int .i64 0) (.int .i64 0) (.int .i64 0) (.int .i64 0) (.slice none 0 0) (.slice none 0 0)⟩
end Go.Proofs.Ytmpljoljpgbamaa
