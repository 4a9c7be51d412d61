/- grapevineref13: upto, item. -/
import Derived.Test.YtmpljoljpgbamaaPt7
import Derived.Test.YtmpljoljpgbamaaSpRefP
namespace Go.Proofs.Ytmpljoljpgbamaa
open Go.RowKit

/-- What upto tells: the number and the place behind it, or the error. -/
def UptoTold (r : Nat × Rs) (e : Ending) : Prop := (r.2.ft = 0 ∧ e = .returned (.tuple #[.int .i64 (r.1 : Int), .int .i64 r.2.at_, .int .i64 0])) ∨ (r.2.ft ≠ 0 ∧ e = .returned (.tuple #[.int .i64 0, .int .i64 0, .int .i64 r.2.ft]))

set_option maxRecDepth 100000 in
set_option maxHeartbeats 1000000 in
theorem ref_upto (a : Option Addr) (len cap : Nat) (bs : List Nat) (x : Int) (lim : Nat) (w : World) (hr : Rd w a len bs) (hl : len ≤ 140737488351232) (hx : 0 ≤ x ∧ x ≤ len) (hm : lim ≤ 1099511627776) :
    Calls Try.prog 38 #[.slice a len cap, .int .i64 x, .int .u64 (lim : Int)] w fun e w' => Hid (UptoTold (numF bs lim ⟨x, 0⟩) e) ∧ w' = w := by
  obtain ⟨F, HF⟩ : ∃ F, Hid (F = numF bs lim ⟨x, 0⟩) := ⟨_, rfl⟩
  rw [← HF.out]
  obtain ⟨n, k, e, hT⟩ : ∃ n k e, Leb.take bs x = (n, k, e) := ⟨_, _, _, rfl⟩
  have HT : Hid (Leb.take bs x = (n, k, e)) := hT
  have hsm := take_small bs x hr.byte
  rw [hT] at hsm
  have hc := ref_TakeUint a len cap bs x w hr (by omega) (by omega)
  rw [hT] at hc
  have HC : Hid (Calls Try.prog 51 #[.slice a len cap, .int .i64 x] w fun e' w' => e' = .returned (.tuple #[.int .u64 (n : Int), .int .i64 (k : Int), .int .i64 (e : Int)]) ∧ w' = w) := hc
  clear hc hT hr
  go_enter Try.func38, Try.ntmps38
  go_wp2_with fail
  refine HC.out.mono ?_
  rintro e' w' ⟨rfl, hw'⟩
  rw [hw']
  clear hw' w' HC
  by_cases he : e = 0
  · subst he
    by_cases hn : lim < n
    · have HX2 : Hid (F = (0, ⟨x, 6⟩)) := HF.out.trans (numF_lim rfl HT.out hn)
      have hn' : (lim : Int) < (n : Int) := by omega
      clear HF
      go_wp2
      go_returns
      rw [HX2.out]
      exact ⟨.inr ⟨by show (6 : Int) ≠ 0; decide, rfl⟩, rfl⟩
    · have HX2 : Hid (F = (n, ⟨(k : Int), 0⟩)) := HF.out.trans (numF_ok rfl HT.out hn)
      have hn' : ¬ (lim : Int) < (n : Int) := by omega
      clear HF
      go_wp2
      go_returns
      rw [HX2.out]
      exact ⟨.inl ⟨rfl, rfl⟩, rfl⟩
  · have HX2 : Hid (F = (0, ⟨x, (e : Int)⟩)) := HF.out.trans (numF_bad rfl HT.out he)
    have he' : ((e : Int) == 0) = false := by rw [beq_eq_false_iff_ne]; omega
    have he2 : ¬ (e : Int) = 0 := by omega
    clear HF
    go_wp2
    go_returns
    rw [HX2.out]
    exact ⟨.inr ⟨he2, rfl⟩, rfl⟩

def ItemTold (w w' : World) (r : It × Rs) (e : Ending) : Prop := (r.2.ft = 0 ∧ ∃ ab nb cb, e = .returned (.tuple #[.agg #[.int .i64 r.1.tick, .int .u32 r.1.for_, .slice ab nb cb], .int .i64 r.2.at_, .int .i64 0]) ∧ Own w' w.heap.size ab nb cb r.1.body) ∨ (r.2.ft ≠ 0 ∧ e = .returned (.tuple #[.agg #[.int .i64 0, .int .u32 0, .slice none 0 0], .int .i64 0, .int .i64 r.2.ft]))
theorem results_item {f : Func} {w : World} {tmps : Array Value} {g : Nat} {t : TypeId} {v0 v1 v2 n e : Value} (hf : f.results = #[.cell 4 36, .tmp 5, .tmp 6]) (h4 : tmps[4]?.getD undef = .pointer (some ⟨g, 0, none⟩)) (h5 : tmps[5]?.getD undef = n) (h6 : tmps[6]?.getD undef = e)
    (k : Bk w g #[v0, v1, v2] t) : (results f tmps).run Try.prog w = .ok (.tuple #[.agg #[v0, v1, v2], n, e]) w := by
  have k0 := k.cell 0 rfl
  have k1 := k.cell 1 rfl
  have k2 := k.cell 2 rfl
  simp [results, hf, go_sem, h4, h5, h6, k0, k1, k2]
theorem numF_st (bs : List Nat) (lim : Nat) (s : Rs) (h : s.ft ≠ 0) : numF bs lim s = (0, s) := numF_no h
theorem itF_1 {bs : List Nat} {x : Int} (h : (numF bs 1099511627776 ⟨x, 0⟩).2.ft ≠ 0) : (itF bs ⟨x, 0⟩).2 = (numF bs 1099511627776 ⟨x, 0⟩).2 := by
  simp only [itF]
  rw [numF_no h]
  simp only
  rw [numF_no h]
  simp only
  rw [byF_no h]
theorem itF_2 {bs : List Nat} {x y : Int} {n : Nat} (h1 : numF bs 1099511627776 ⟨x, 0⟩ = (n, ⟨y, 0⟩)) (h : (numF bs 4294967295 ⟨y, 0⟩).2.ft ≠ 0) : (itF bs ⟨x, 0⟩).2 = (numF bs 4294967295 ⟨y, 0⟩).2 := by
  simp only [itF, h1]
  rw [numF_no h]
  simp only
  rw [byF_no h]
theorem itF_3 {bs : List Nat} {x y z : Int} {n m : Nat} (h1 : numF bs 1099511627776 ⟨x, 0⟩ = (n, ⟨y, 0⟩)) (h2 : numF bs 4294967295 ⟨y, 0⟩ = (m, ⟨z, 0⟩)) (h : (numF bs 400 ⟨z, 0⟩).2.ft ≠ 0) : (itF bs ⟨x, 0⟩).2 = (numF bs 400 ⟨z, 0⟩).2 := by
  simp only [itF, h1, h2]
  rw [byF_no h]
theorem itF_4 {bs : List Nat} {x y z u : Int} {n m c : Nat} (h1 : numF bs 1099511627776 ⟨x, 0⟩ = (n, ⟨y, 0⟩)) (h2 : numF bs 4294967295 ⟨y, 0⟩ = (m, ⟨z, 0⟩)) (h3 : numF bs 400 ⟨z, 0⟩ = (c, ⟨u, 0⟩)) : itF bs ⟨x, 0⟩ = (⟨(n : Int), (m : Int), (byF bs c ⟨u, 0⟩).1⟩, (byF bs c ⟨u, 0⟩).2) := by
  simp only [itF, h1, h2, h3]

set_option maxRecDepth 100000 in
set_option maxHeartbeats 2000000 in
theorem ref_item (g o len cap : Nat) (bs : List Nat) (x : Int) (w : World) (hr : Rd w (some ⟨g, o, none⟩) len bs) (hlc : len ≤ cap) (hl : len ≤ 140737488351232) (hx : 0 ≤ x ∧ x ≤ len) :
    Calls Try.prog 40 #[.slice (some ⟨g, o, none⟩) len cap, .int .i64 x] w fun e w' => Hid (ItemTold w w' (itF bs ⟨x, 0⟩) e) ∧ Below w.heap.size w w' := by
  have HR : Hid (Rd w (some ⟨g, o, none⟩) len bs) := hr
  have HBY : Hid (∀ z ∈ bs, z < 256) := hr.byte
  have HSZ : Hid (bs.length = len) := hr.size
  have HX : Hid (0 ≤ x ∧ x ≤ len) := hx
  obtain ⟨F, HF⟩ : ∃ F, Hid (F = itF bs ⟨x, 0⟩) := ⟨_, rfl⟩
  rw [← HF.out]
  have HB0 : Hid (Below w.heap.size w (w.alloc (.cells #[.int .i64 0, .int .u32 0, .slice none 0 0] 36))) := below_new _ _
  have HK0 : Hid (Bk (w.alloc (.cells #[.int .i64 0, .int .u32 0, .slice none 0 0] 36)) w.heap.size #[.int .i64 0, .int .u32 0, .slice none 0 0] 36) := Bk.new _ _ _
  have HR0 : Hid (Rd (w.alloc (.cells #[.int .i64 0, .int .u32 0, .slice none 0 0] 36)) (some ⟨g, o, none⟩) len bs) := hr.below (below_new _ _)
  obtain ⟨r1, h1⟩ : ∃ r, r = numF bs 1099511627776 ⟨x, 0⟩ := ⟨_, rfl⟩
  have HE1 : Hid (r1 = numF bs 1099511627776 ⟨x, 0⟩) := h1
  have HF1 : Hid (r1.2.fine bs) := by rw [h1]; exact numF_fine hr.byte
  have hl1 : r1.1 ≤ 1099511627776 := by rw [h1]; exact numF_le _ _ _
  clear hr hx h1
  go_enter Try.func40, Try.ntmps40
  go_wp2_with fail
  refine (ref_upto (some ⟨g, o, none⟩) len cap bs x 1099511627776 _ HR0.out hl HX.out (by omega)).mono ?_
  rw [← HE1.out]
  rintro e w' ⟨ht, hw'⟩
  rw [hw']
  clear hw' w'
  obtain ⟨n1, s1⟩ := r1
  obtain ⟨x1, f1⟩ := s1
  rcases ht.out with ⟨hf, he⟩ | ⟨hf, he⟩
  · simp only at hf he hl1 HE1 HF1
    subst he hf
    clear ht
    obtain ⟨r2, h2⟩ : ∃ r, r = numF bs 4294967295 ⟨x1, 0⟩ := ⟨_, rfl⟩
    have HE2 : Hid (r2 = numF bs 4294967295 ⟨x1, 0⟩) := h2
    have HF2 : Hid (r2.2.fine bs) := by rw [h2]; exact numF_fine HBY.out
    have hl2 : r2.1 ≤ 4294967295 := by rw [h2]; exact numF_le _ _ _
    clear h2
    go_wp2_with fail
    refine (ref_upto (some ⟨g, o, none⟩) len cap bs x1 4294967295 _ HR0.out hl (by have h := HF1.out rfl; rw [HSZ.out] at h; exact h) (by omega)).mono ?_
    rw [← HE2.out]
    rintro e w' ⟨ht, hw'⟩
    rw [hw']
    clear hw' w'
    obtain ⟨n2, s2⟩ := r2
    obtain ⟨x2, f2⟩ := s2
    rcases ht.out with ⟨hf, he⟩ | ⟨hf, he⟩
    · simp only at hf he hl2 HE2 HF2
      subst he hf
      clear ht
      obtain ⟨r3, h3⟩ : ∃ r, r = numF bs 400 ⟨x2, 0⟩ := ⟨_, rfl⟩
      have HE3 : Hid (r3 = numF bs 400 ⟨x2, 0⟩) := h3
      have HF3 : Hid (r3.2.fine bs) := by rw [h3]; exact numF_fine HBY.out
      have hl3 : r3.1 ≤ 400 := by rw [h3]; exact numF_le _ _ _
      clear h3
      go_wp2_with fail
      refine (ref_upto (some ⟨g, o, none⟩) len cap bs x2 400 _ HR0.out hl (by have h := HF2.out rfl; rw [HSZ.out] at h; exact h) (by omega)).mono ?_
      rw [← HE3.out]
      rintro e w' ⟨ht, hw'⟩
      rw [hw']
      clear hw' w'
      obtain ⟨n3, s3⟩ := r3
      obtain ⟨x3, f3⟩ := s3
      rcases ht.out with ⟨hf, he⟩ | ⟨hf, he⟩
      · simp only at hf he hl3 HE3 HF3
        subst he hf
        clear ht
        have HFE : Hid (F = (⟨(n1 : Int), (n2 : Int), (byF bs n3 ⟨x3, 0⟩).1⟩, (byF bs n3 ⟨x3, 0⟩).2)) := HF.out.trans (itF_4 HE1.out.symm HE2.out.symm HE3.out.symm)
        obtain ⟨hx0, hx1⟩ : 0 ≤ x3 ∧ x3 ≤ len := by have h := HF3.out rfl; rw [HSZ.out] at h; exact h
        obtain ⟨p, rfl⟩ := Int.eq_ofNat_of_zero_le hx0
        clear HF HE1 HE2 HE3 HF1 HF2 HF3
        by_cases hs : len - p < n3
        · have HX2 : Hid (F.2.ft = 3 ∧ F.2.ft ≠ 0) := by rw [HFE.out, byF_short rfl (by simp only; rw [HSZ.out]; omega)]; exact ⟨rfl, by show (3 : Int) ≠ 0; decide⟩
          have hs' : (len : Int) - (p : Int) < (n3 : Int) := by omega
          clear HFE
          go_wp2
          go_returns
          exact ⟨.inr ⟨HX2.out.2, by rw [HX2.out.1]⟩, HB0.out⟩
        · have HX2 : Hid (F = (⟨(n1 : Int), (n2 : Int), (bs.drop p).take n3⟩, ⟨((p + n3 : Nat) : Int), 0⟩)) := by
            show _ = _
            rw [HFE.out, byF_ok rfl (by simp only; rw [HSZ.out]; omega)]
            simp
          have hs' : ¬ (len : Int) - (p : Int) < (n3 : Int) := by omega
          obtain ⟨q, hq⟩ : ∃ q, q = p + n3 := ⟨_, rfl⟩
          have HQ : Hid (q = p + n3) := hq
          have hpq : p ≤ q := by omega
          have hql : q ≤ len := by omega
          rw [← hq] at HX2
          have eq3 : (p : Int) + (n3 : Int) = (q : Int) := by omega
          have HEQ : Hid ((p : Int) + (n3 : Int) = (q : Int)) := eq3
          clear HFE hq
          have b1 : ((p : Nat) : Int) ≤ ((q : Nat) : Int) := by omega
          have b2 : ((q : Nat) : Int) ≤ (cap : Int) := by omega
          have b3 : (0 : Int) ≤ ((p : Nat) : Int) := by omega
          by_cases hcp : cap = p
          · have e1 : len = p := by omega
            have e2 : len = q := by omega
            have e3 : len = cap := by omega
            have e4 : 0 = n3 := by have := HQ.out; omega
            clear hcp HQ hpq hql hlc hs hs' hx0 hx1 hl3 b1 b2 b3 eq3 HEQ
            subst e1 e2 e3 e4
            have b3 : (0 : Int) ≤ ((len : Nat) : Int) := by omega
            have HRP : Hid (Rd ((w.alloc (.cells #[.int .i64 0, .int .u32 0, .slice none 0 0] 36)).alloc (.cells #[] 5)) (some ⟨g, o, none⟩) 0 []) := ⟨rfl, by simp, .inl rfl⟩
            go_wp2_with (at_builtin; refine wpList_append_rd rfl (.tmp 59) (.tmp 65) rfl (w.heap.size + 1) (some ⟨w.heap.size + 1, 0, none⟩) 0 0 [] rfl (Own.empty2 w _) (some ⟨g, o, none⟩) 0 0 [] rfl HRP.out (by simp) (by omega) (by simp) ?_)
            intro a5 c5 w5 ho5 hg5 hb5
            have HO5 : Hid (Own w5 (w.heap.size + 1) a5 0 c5 []) := by
              show Own _ _ _ _ _ _
              simpa using ho5
            have HK5 : Hid (Bk w5 w.heap.size #[.int .i64 0, .int .u32 0, .slice none 0 0] 36) := Bk.below (HK0.out.stay (below_new _ (.cells #[] 5))) hb5 (by omega)
            have HB5 : Hid (Below w.heap.size w w5) := (HB0.out.trans ((below_new _ (.cells #[] 5)).mono HB0.out.size)).trans (hb5.mono (by omega))
            have z0 : w5.cell? ⟨w.heap.size, 0, none⟩ = some (.int .i64 0) := HK5.out.cell 0 rfl
            have z1 : w5.cell? ⟨w.heap.size, 1, none⟩ = some (.int .u32 0) := HK5.out.cell 1 rfl
            have z2 : w5.cell? ⟨w.heap.size, 2, none⟩ = some (.slice none 0 0) := HK5.out.cell 2 rfl
            have fz : ∀ i, w5.frozen? ⟨w.heap.size, i, none⟩ = false := fun i => HK5.out.free i
            clear ho5 hg5 hb5 HRP
            go_wp2
            refine bodyPost_ret (results_item rfl (by rfl) (by rfl) (by rfl) (bk_step (bk_step (bk_step HK5.out 0 (.int .i64 (n1 : Int)) rfl) 1 (.int .u32 (n2 : Int)) rfl) 2 (.slice a5 0 c5) rfl)) rfl ?_
            rw [HX2.out]
            refine ⟨.inl ⟨rfl, a5, 0, c5, rfl, ?_⟩, ((HB5.out.setCell (Nat.le_refl _) _).setCell (Nat.le_refl _) _).setCell (Nat.le_refl _) _⟩
            have h := own_frame (w' := ((w5.setCell ⟨w.heap.size, 0, none⟩ (.int .i64 (n1 : Int))).setCell ⟨w.heap.size, 1, none⟩ (.int .u32 (n2 : Int))).setCell ⟨w.heap.size, 2, none⟩ (.slice a5 0 c5)) HO5.out (fun k cs m hb hk => by
              rw [heap_setCell_other _ _ _ _ (show k ≠ w.heap.size from by omega), heap_setCell_other _ _ _ _ (show k ≠ w.heap.size from by omega), heap_setCell_other _ _ _ _ (show k ≠ w.heap.size from by omega)]
              exact hk)
            exact h.under (by omega)
          · have HRP : Hid (Rd ((w.alloc (.cells #[.int .i64 0, .int .u32 0, .slice none 0 0] 36)).alloc (.cells #[] 5)) (some ⟨g, o + p, none⟩) (q - p) ((bs.drop p).take n3)) := by
              have e2 : q - p = n3 := by have := HQ.out; omega
              rw [e2]
              exact Rd.part (HR0.out.below (below_new _ _)) p n3 (o + p) (by have := HQ.out; omega) (.inr rfl)
            go_wp2_with (at_builtin; refine wpList_append_rd rfl (.tmp 59) (.tmp 65) rfl (w.heap.size + 1) (some ⟨w.heap.size + 1, 0, none⟩) 0 0 [] rfl (Own.empty2 w _) (some ⟨g, o + p, none⟩) (q - p) (cap - p) ((bs.drop p).take n3) rfl HRP.out (by simp) (by omega) (by simp) ?_)
            intro a5 c5 w5 ho5 hg5 hb5
            have HO5 : Hid (Own w5 (w.heap.size + 1) a5 (q - p) c5 ((bs.drop p).take n3)) := by
              show Own _ _ _ _ _ _
              simpa using ho5
            have HK5 : Hid (Bk w5 w.heap.size #[.int .i64 0, .int .u32 0, .slice none 0 0] 36) := Bk.below (HK0.out.stay (below_new _ (.cells #[] 5))) hb5 (by omega)
            have HB5 : Hid (Below w.heap.size w w5) := (HB0.out.trans ((below_new _ (.cells #[] 5)).mono HB0.out.size)).trans (hb5.mono (by omega))
            have z0 : w5.cell? ⟨w.heap.size, 0, none⟩ = some (.int .i64 0) := HK5.out.cell 0 rfl
            have z1 : w5.cell? ⟨w.heap.size, 1, none⟩ = some (.int .u32 0) := HK5.out.cell 1 rfl
            have z2 : w5.cell? ⟨w.heap.size, 2, none⟩ = some (.slice none 0 0) := HK5.out.cell 2 rfl
            have fz : ∀ i, w5.frozen? ⟨w.heap.size, i, none⟩ = false := fun i => HK5.out.free i
            clear ho5 hg5 hb5 HRP
            go_wp2
            refine bodyPost_ret (results_item rfl (by rfl) (by rfl) (by rfl) (bk_step (bk_step (bk_step HK5.out 0 (.int .i64 (n1 : Int)) rfl) 1 (.int .u32 (n2 : Int)) rfl) 2 (.slice a5 (q - p) c5) rfl)) rfl ?_
            rw [HX2.out]
            refine ⟨.inl ⟨rfl, a5, (q - p), c5, rfl, ?_⟩, ((HB5.out.setCell (Nat.le_refl _) _).setCell (Nat.le_refl _) _).setCell (Nat.le_refl _) _⟩
            have h := own_frame (w' := ((w5.setCell ⟨w.heap.size, 0, none⟩ (.int .i64 (n1 : Int))).setCell ⟨w.heap.size, 1, none⟩ (.int .u32 (n2 : Int))).setCell ⟨w.heap.size, 2, none⟩ (.slice a5 (q - p) c5)) HO5.out (fun k cs m hb hk => by
              rw [heap_setCell_other _ _ _ _ (show k ≠ w.heap.size from by omega), heap_setCell_other _ _ _ _ (show k ≠ w.heap.size from by omega), heap_setCell_other _ _ _ _ (show k ≠ w.heap.size from by omega)]
              exact hk)
            exact h.under (by omega)
      · simp only at hf he hl3 HE3
        subst he
        have HX2 : Hid (F.2.ft = f3 ∧ F.2.ft ≠ 0) := by rw [HF.out, itF_3 HE1.out.symm HE2.out.symm (by rw [← HE3.out]; exact hf), ← HE3.out]; exact ⟨rfl, hf⟩
        have hf' : (f3 == 0) = false := by simpa using hf
        clear HF
        go_wp2
        go_returns
        exact ⟨.inr ⟨HX2.out.2, by rw [HX2.out.1]⟩, HB0.out⟩
    · simp only at hf he hl2 HE2
      subst he
      have HX2 : Hid (F.2.ft = f2 ∧ F.2.ft ≠ 0) := by rw [HF.out, itF_2 HE1.out.symm (by rw [← HE2.out]; exact hf), ← HE2.out]; exact ⟨rfl, hf⟩
      have hf' : (f2 == 0) = false := by simpa using hf
      clear HF
      go_wp2
      go_returns
      exact ⟨.inr ⟨HX2.out.2, by rw [HX2.out.1]⟩, HB0.out⟩
  · simp only at hf he hl1 HE1
    subst he
    have HX2 : Hid (F.2.ft = f1 ∧ F.2.ft ≠ 0) := by rw [HF.out, itF_1 (by rw [← HE1.out]; exact hf), ← HE1.out]; exact ⟨rfl, hf⟩
    have hf' : (f1 == 0) = false := by simpa using hf
    clear HF
    go_wp2
    go_returns
    exact ⟨.inr ⟨HX2.out.2, by rw [HX2.out.1]⟩, HB0.out⟩
end Go.Proofs.Ytmpljoljpgbamaa
