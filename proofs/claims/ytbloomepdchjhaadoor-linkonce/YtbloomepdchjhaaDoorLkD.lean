/- A pack of texts: Lk15 Lk16. -/
import Derived.Test.YtbloomepdchjhaaDoorLk14
import Derived.Test.YtbloomepdchjhaaDoorPtR
/- link.read of a frame with a parcel. -/
namespace Go.Proofs.YtbloomepdchjhaaDoor
open Go.RowKit

def set8f (w : World) (g : Nat) (v0 v1 v2 v3 v4 v5 v6 v7 : Value) : World := ((((((((w.setCell ⟨g, 4, none⟩ v0).setCell ⟨g, 5, none⟩ v1).setCell ⟨g, 6, none⟩ v2).setCell ⟨g, 7, none⟩ v3).setCell ⟨g, 8, none⟩ v4).setCell ⟨g, 9, none⟩ v5).setCell ⟨g, 10, none⟩ v6).setCell ⟨g, 11, none⟩ v7)
theorem Bk.set8f {w : World} {g : Nat} {t : TypeId} {u0 u1 u2 u3 u4 u5 u6 u7 u8 u9 u10 u11 : Value} (h : Bk w g #[u0, u1, u2, u3, u4, u5, u6, u7, u8, u9, u10, u11] t) (v0 v1 v2 v3 v4 v5 v6 v7 : Value) : Bk (Go.Proofs.YtbloomepdchjhaaDoor.set8f w g v0 v1 v2 v3 v4 v5 v6 v7) g #[u0, u1, u2, u3, v0, v1, v2, v3, v4, v5, v6, v7] t := by
  unfold Go.Proofs.YtbloomepdchjhaaDoor.set8f
  have h1 : Bk (w.setCell ⟨g, 4, none⟩ v0) g #[u0, u1, u2, u3, v0, u5, u6, u7, u8, u9, u10, u11] t := bk_step h 4 v0 rfl
  generalize w.setCell ⟨g, 4, none⟩ v0 = w1 at h1 ⊢
  have h2 : Bk (w1.setCell ⟨g, 5, none⟩ v1) g #[u0, u1, u2, u3, v0, v1, u6, u7, u8, u9, u10, u11] t := bk_step h1 5 v1 rfl
  generalize w1.setCell ⟨g, 5, none⟩ v1 = w2 at h2 ⊢
  have h3 : Bk (w2.setCell ⟨g, 6, none⟩ v2) g #[u0, u1, u2, u3, v0, v1, v2, u7, u8, u9, u10, u11] t := bk_step h2 6 v2 rfl
  generalize w2.setCell ⟨g, 6, none⟩ v2 = w3 at h3 ⊢
  have h4 : Bk (w3.setCell ⟨g, 7, none⟩ v3) g #[u0, u1, u2, u3, v0, v1, v2, v3, u8, u9, u10, u11] t := bk_step h3 7 v3 rfl
  generalize w3.setCell ⟨g, 7, none⟩ v3 = w4 at h4 ⊢
  have h5 : Bk (w4.setCell ⟨g, 8, none⟩ v4) g #[u0, u1, u2, u3, v0, v1, v2, v3, v4, u9, u10, u11] t := bk_step h4 8 v4 rfl
  generalize w4.setCell ⟨g, 8, none⟩ v4 = w5 at h5 ⊢
  have h6 : Bk (w5.setCell ⟨g, 9, none⟩ v5) g #[u0, u1, u2, u3, v0, v1, v2, v3, v4, v5, u10, u11] t := bk_step h5 9 v5 rfl
  generalize w5.setCell ⟨g, 9, none⟩ v5 = w6 at h6 ⊢
  have h7 : Bk (w6.setCell ⟨g, 10, none⟩ v6) g #[u0, u1, u2, u3, v0, v1, v2, v3, v4, v5, v6, u11] t := bk_step h6 10 v6 rfl
  generalize w6.setCell ⟨g, 10, none⟩ v6 = w7 at h7 ⊢
  have h8 : Bk (w7.setCell ⟨g, 11, none⟩ v7) g #[u0, u1, u2, u3, v0, v1, v2, v3, v4, v5, v6, v7] t := bk_step h7 11 v7 rfl
  exact h8
theorem set8f_below {B : Nat} {w w' : World} (h : Below B w w') (g : Nat) (hg : B ≤ g) (v0 v1 v2 v3 v4 v5 v6 v7 : Value) : Below B w (set8f w' g v0 v1 v2 v3 v4 v5 v6 v7) := by
  unfold set8f
  exact (((((((h.setCell hg _).setCell hg _).setCell hg _).setCell hg _).setCell hg _).setCell hg _).setCell hg _).setCell hg _
theorem set8f_other (w : World) (g : Nat) (v0 v1 v2 v3 v4 v5 v6 v7 : Value) (k : Nat) (hk : k ≠ g) : (set8f w g v0 v1 v2 v3 v4 v5 v6 v7).heap[k]? = w.heap[k]? := by
  unfold set8f
  rw [heap_setCell_other _ ⟨g, 11, none⟩ k _ hk, heap_setCell_other _ ⟨g, 10, none⟩ k _ hk, heap_setCell_other _ ⟨g, 9, none⟩ k _ hk, heap_setCell_other _ ⟨g, 8, none⟩ k _ hk, heap_setCell_other _ ⟨g, 7, none⟩ k _ hk, heap_setCell_other _ ⟨g, 6, none⟩ k _ hk, heap_setCell_other _ ⟨g, 5, none⟩ k _ hk, heap_setCell_other _ ⟨g, 4, none⟩ k _ hk]
theorem set12_other (w : World) (g : Nat) (v0 v1 v2 v3 v4 v5 v6 v7 v8 v9 v10 v11 : Value) (k : Nat) (hk : k ≠ g) : (set12 w g v0 v1 v2 v3 v4 v5 v6 v7 v8 v9 v10 v11).heap[k]? = w.heap[k]? := by
  unfold set12
  rw [heap_setCell_other _ ⟨g, 11, none⟩ k _ hk, heap_setCell_other _ ⟨g, 10, none⟩ k _ hk, heap_setCell_other _ ⟨g, 9, none⟩ k _ hk, heap_setCell_other _ ⟨g, 8, none⟩ k _ hk, heap_setCell_other _ ⟨g, 7, none⟩ k _ hk, heap_setCell_other _ ⟨g, 6, none⟩ k _ hk, heap_setCell_other _ ⟨g, 5, none⟩ k _ hk, heap_setCell_other _ ⟨g, 4, none⟩ k _ hk, heap_setCell_other _ ⟨g, 3, none⟩ k _ hk, heap_setCell_other _ ⟨g, 2, none⟩ k _ hk, heap_setCell_other _ ⟨g, 1, none⟩ k _ hk, heap_setCell_other _ ⟨g, 0, none⟩ k _ hk]

set_option maxRecDepth 100000 in
set_option maxHeartbeats 4000000 in
theorem lk_read_1 (a : Option Addr) (n c : Nat) (bs rest : List Nat) (x0 x1 x2 : Nat) (w : World) (hr : Rd w a n bs) (hbs : bs = SealM.sealed 1 (lebs [x0, x1, x2] ++ rest)) (hlen : (lebs [x0, x1, x2]).length + rest.length ≤ 4096) (hrb : ∀ y ∈ rest, y < 256) (hnc : n ≤ c) (h0 : 1 ≤ x0 ∧ x0 ≤ 1073741824) (h1 : x1 ≤ 1073741824) (h2 : 1 ≤ x2 ∧ x2 ≤ 1099511627776) (ht : Tab w) (hw0 : 0 < w.heap.size) (p : Pc) (hp : takeP rest = (p, 0)) :
    Calls Tryd.prog 23 #[.slice a n c] w fun e w' => (∃ sa sn sc ia im ic, e = .returned (.tuple #[.agg #[.int .u8 1, .int .i64 (x0 : Int), .int .i64 (x1 : Int), .int .i64 (x2 : Int), .int .i64 p.kind, .int .i64 p.pub, .int .i64 p.sub, .int .i64 p.n_, .int .i64 p.fr, .int .i64 p.to_, .slice sa sn sc, .slice ia im ic], .int .i64 0]) ∧ Hid (Sps w' w.heap.size (.slice sa sn sc) p.spans ∧ ∃ M, Its w' w.heap.size (.slice ia im ic) M ∧ M.map Prod.fst = p.items)) ∧ Below w.heap.size w w' := by
  obtain ⟨B, hB⟩ : ∃ B, B = lebs [x0, x1, x2] ++ rest := ⟨_, rfl⟩
  have HBE : Hid (B = lebs [x0, x1, x2] ++ rest) := hB
  obtain ⟨q, hq⟩ : ∃ q, q = B.length := ⟨_, rfl⟩
  have HQ : Hid (q = B.length) := hq
  have hq30 : q ≤ 4096 := by rw [hq, hB, List.length_append]; exact hlen
  have hrl : rest.length ≤ 4096 := by omega
  rw [← hB] at hbs
  have HSZ : Hid (n = q + 8) := by have h := hr.size; rw [hbs, SealM.sealed_length, ← hq] at h; exact h.symm
  have hn38 : n ≤ 4104 := by have := HSZ.out; omega
  have hby : ∀ y ∈ B, y < 256 := by
    rw [hB]
    intro y hy
    rcases List.mem_append.1 hy with hy | hy
    · exact lebs_byte (by intro n hn; simp only [List.mem_cons, List.not_mem_nil, or_false] at hn; omega) y hy
    · exact hrb y hy
  have HR : Hid (Rd w a n bs) := hr
  have HP : Hid (takeP rest = (p, 0)) := hp
  have HOK : Hid (SealM.opn (bs.drop 0) = 0 ∧ (bs.drop 0).getD 1 0 = 1 ∧ SealM.blen (bs.drop 0) = q ∧ ((bs.drop 0).drop 4).take q = B) := by
    have h1 := SealM.opn_sealed 1 B [] (by omega) hby (by omega)
    have h2 := SealM.kind_sealed 1 B []
    have h3 := SealM.blen_sealed 1 B []
    have h4 := SealM.body_sealed 1 B []
    rw [List.append_nil] at h1 h2 h3 h4
    rw [List.drop_zero, hbs]
    exact ⟨h1, h2, by rw [h3, hq], by rw [hq]; exact h4⟩
  have HT : Hid (Tab w) := ht
  obtain ⟨W0, HW0⟩ : ∃ W0, Hid (W0 = w.alloc (.cells #[.int .u8 0, .int .i64 0, .int .i64 0, .int .i64 0, .int .i64 0, .int .i64 0, .int .i64 0, .int .i64 0, .int .i64 0, .int .i64 0, .slice none 0 0, .slice none 0 0] 78)) := ⟨_, rfl⟩
  have HB0 : Hid (Below w.heap.size w W0) := by rw [HW0.out]; exact below_new _ _
  have HK0 : Hid (Bk W0 w.heap.size #[.int .u8 0, .int .i64 0, .int .i64 0, .int .i64 0, .int .i64 0, .int .i64 0, .int .i64 0, .int .i64 0, .int .i64 0, .int .i64 0, .slice none 0 0, .slice none 0 0] 78) := by rw [HW0.out]; exact Bk.new _ _ _
  have HS0 : Hid (W0.heap.size = w.heap.size + 1) := by show _ = _; rw [HW0.out]; simp
  clear hr hbs hB hq hby ht hrb hlen hp
  go_enter Tryd.func23, Tryd.ntmps23
  go_wp2_with fail
  rw [← HW0.out]
  refine (seal_Open_good a n c bs 0 W0 (HR.out.below HB0.out) hnc (by omega) (by omega) (HT.out.below hw0 HB0.out) (Nat.lt_of_lt_of_le hw0 HB0.out.size) HOK.out.1 1 q HOK.out.2.1 HOK.out.2.2.1 B HOK.out.2.2.2).mono ?_
  rintro e w1 ⟨gb, he, ho1, hb1⟩
  rw [show (0 + q + 8 : Nat) = n from by have := HSZ.out; omega] at he
  subst he
  have HB1 : Hid (Below w.heap.size w w1) := HB0.out.trans (hb1.mono HB0.out.size)
  have HK1 : Hid (Bk w1 w.heap.size #[.int .u8 0, .int .i64 0, .int .i64 0, .int .i64 0, .int .i64 0, .int .i64 0, .int .i64 0, .int .i64 0, .int .i64 0, .int .i64 0, .slice none 0 0, .slice none 0 0] 78) := HK0.out.stay hb1
  obtain ⟨w3, HW3⟩ : ∃ w3, Hid (w3 = (w1.alloc (.cells #[.int .u8 1, .int .i64 0, .slice (some ⟨gb, 0, none⟩) q q] 95)).alloc (.cells #[.int .u8 1, .int .i64 0, .int .i64 0, .int .i64 0, .int .i64 0, .int .i64 0, .int .i64 0, .int .i64 0, .int .i64 0, .int .i64 0, .slice none 0 0, .slice none 0 0] 78)) := ⟨_, rfl⟩
  have hb3 : Below w1.heap.size w1 w3 := by rw [HW3.out]; exact (below_new w1 _).alloc (by simp) _
  have HF3 : Hid (Bk w3 (w1.heap.size + 1) #[.int .u8 1, .int .i64 0, .int .i64 0, .int .i64 0, .int .i64 0, .int .i64 0, .int .i64 0, .int .i64 0, .int .i64 0, .int .i64 0, .slice none 0 0, .slice none 0 0] 78) := by
    rw [HW3.out]
    have h := Bk.new (w1.alloc (.cells #[.int .u8 1, .int .i64 0, .slice (some ⟨gb, 0, none⟩) q q] 95)) #[.int .u8 1, .int .i64 0, .int .i64 0, .int .i64 0, .int .i64 0, .int .i64 0, .int .i64 0, .int .i64 0, .int .i64 0, .int .i64 0, .slice none 0 0, .slice none 0 0] 78
    rw [show (w1.alloc (.cells #[.int .u8 1, .int .i64 0, .slice (some ⟨gb, 0, none⟩) q q] 95)).heap.size = w1.heap.size + 1 from by simp] at h
    exact h
  have HK3 : Hid (Bk w3 w.heap.size #[.int .u8 0, .int .i64 0, .int .i64 0, .int .i64 0, .int .i64 0, .int .i64 0, .int .i64 0, .int .i64 0, .int .i64 0, .int .i64 0, .slice none 0 0, .slice none 0 0] 78) := HK1.out.stay hb3
  have HO3 : Hid (Own w3 W0.heap.size (some ⟨gb, 0, none⟩) q q B) := ho1.below hb3
  have HGB : Hid (gb < w1.heap.size) := by
    rcases ho1.row.2 with ⟨hv, _⟩ | ⟨g', c', cur, hv, _, hg, _⟩
    · cases hv
    · simp only [Value.slice.injEq, Option.some.injEq, Addr.mk.injEq] at hv
      rw [hv.1.1]
      exact (Array.getElem?_eq_some_iff.1 hg).1
  have HB3 : Hid (Below w.heap.size w w3) := HB1.out.trans (hb3.mono HB1.out.size)
  have hnm := lk_numbers_ok (w1.heap.size + 1) 1 gb 0 q q x0 x1 x2 B rest w3 HF3.out HO3.out.rd HBE.out (by have := HGB.out; omega) (Nat.le_refl _) (by omega) h0 h1 h2
  have HNM : Hid (Calls Tryd.prog 36 #[.pointer (some ⟨w1.heap.size + 1, 0, none⟩), .slice (some ⟨gb, 0, none⟩) q q] w3 fun e w' => (∃ a' c', e = .returned (.tuple #[.slice a' rest.length c', .int .i64 0]) ∧ Hid (Rd w' a' rest.length rest ∧ rest.length ≤ c')) ∧ Hid (Bk w' (w1.heap.size + 1) #[.int .u8 1, .int .i64 (x0 : Int), .int .i64 (x1 : Int), .int .i64 (x2 : Int), .int .i64 0, .int .i64 0, .int .i64 0, .int .i64 0, .int .i64 0, .int .i64 0, .slice none 0 0, .slice none 0 0] 78) ∧ w3.grownBy w' (some (w1.heap.size + 1))) := hnm
  have hne : w.heap.size ≠ w1.heap.size + 1 := by have := HB1.out.size; omega
  clear hb1 hb3 ho1 hnm
  go_wp2_with fail
  rw [← HW3.out]
  refine HNM.out.mono ?_
  rintro e w4 ⟨⟨a', c', he, HR4⟩, HF4, hg4⟩
  subst he
  have HK4 : Hid (Bk w4 w.heap.size #[.int .u8 0, .int .i64 0, .int .i64 0, .int .i64 0, .int .i64 0, .int .i64 0, .int .i64 0, .int .i64 0, .int .i64 0, .int .i64 0, .slice none 0 0, .slice none 0 0] 78) := HK3.out.grown hg4 (by simpa using hne)
  have HB4 : Hid (Below w.heap.size w w4) := by
    have hb := HB3.out
    refine ⟨hg4.os.trans hb.os, hg4.tape.trans hb.tape, hg4.output.trans hb.output, Nat.le_trans hb.size hg4.size, fun j hj => ?_⟩
    rw [hg4.block j (Nat.lt_of_lt_of_le hj hb.size) (by have := HB1.out.size; simp; omega)]
    exact hb.block j hj
  have hpt := pc_Take a' rest.length c' rest w4 HR4.out.1 HR4.out.2 (by omega)
  rw [HP.out] at hpt
  have HPT : Hid (Calls Tryd.prog 37 #[.slice a' rest.length c'] w4 fun e w' => Hid (TakeP13 w4 w' (p, 0) e) ∧ Below w4.heap.size w4 w') := hpt
  clear hg4 HNM hpt
  obtain ⟨pk, pp, ps, pn, pf, pt, pl, pi⟩ := p
  go_wp2_with fail
  refine HPT.out.mono ?_
  rintro e w5 ⟨HTK, hb5⟩
  obtain ⟨sa, sn, sc, ia, im, ic, M, he, hsp, hit, hM⟩ := HTK.out
  subst he
  have HSP : Hid (Sps w5 w4.heap.size (.slice sa sn sc) pl) := hsp
  have HIT : Hid (Its w5 w4.heap.size (.slice ia im ic) M) := hit
  have HM : Hid (M.map Prod.fst = pi) := hM
  have HK5 : Hid (Bk w5 w.heap.size #[.int .u8 0, .int .i64 0, .int .i64 0, .int .i64 0, .int .i64 0, .int .i64 0, .int .i64 0, .int .i64 0, .int .i64 0, .int .i64 0, .slice none 0 0, .slice none 0 0] 78) := HK4.out.stay hb5
  have HF5 : Hid (Bk w5 (w1.heap.size + 1) #[.int .u8 1, .int .i64 (x0 : Int), .int .i64 (x1 : Int), .int .i64 (x2 : Int), .int .i64 0, .int .i64 0, .int .i64 0, .int .i64 0, .int .i64 0, .int .i64 0, .slice none 0 0, .slice none 0 0] 78) := HF4.out.stay hb5
  have HB5 : Hid (Below w.heap.size w w5) := HB4.out.trans (hb5.mono HB4.out.size)
  clear hb5 hsp hit hM HTK HPT
  unfold Pc.val
  simp only
  have HLT : Hid (w1.heap.size + 1 < w4.heap.size) := HF4.out.lt
  obtain ⟨w6, HW6⟩ : ∃ w6, Hid (w6 = set8f w5 (w1.heap.size + 1) (.int .i64 pk) (.int .i64 pp) (.int .i64 ps) (.int .i64 pn) (.int .i64 pf) (.int .i64 pt) (.slice sa sn sc) (.slice ia im ic)) := ⟨_, rfl⟩
  have HF6 : Hid (Bk w6 (w1.heap.size + 1) #[.int .u8 1, .int .i64 (x0 : Int), .int .i64 (x1 : Int), .int .i64 (x2 : Int), .int .i64 pk, .int .i64 pp, .int .i64 ps, .int .i64 pn, .int .i64 pf, .int .i64 pt, .slice sa sn sc, .slice ia im ic] 78) := by rw [HW6.out]; exact HF5.out.set8f (.int .i64 pk) (.int .i64 pp) (.int .i64 ps) (.int .i64 pn) (.int .i64 pf) (.int .i64 pt) (.slice sa sn sc) (.slice ia im ic)
  have HK6 : Hid (Bk w6 w.heap.size #[.int .u8 0, .int .i64 0, .int .i64 0, .int .i64 0, .int .i64 0, .int .i64 0, .int .i64 0, .int .i64 0, .int .i64 0, .int .i64 0, .slice none 0 0, .slice none 0 0] 78) := by unfold Bk; rw [HW6.out, set8f_other _ _ _ _ _ _ _ _ _ _ _ hne]; exact HK5.out
  have HB6 : Hid (Below w.heap.size w w6) := by rw [HW6.out]; exact set8f_below HB5.out _ (by have := HB1.out.size; omega) _ _ _ _ _ _ _ _
  have HWF : Hid (∀ k, w4.heap.size ≤ k → (set12 w6 w.heap.size (.int .u8 1) (.int .i64 (x0 : Int)) (.int .i64 (x1 : Int)) (.int .i64 (x2 : Int)) (.int .i64 pk) (.int .i64 pp) (.int .i64 ps) (.int .i64 pn) (.int .i64 pf) (.int .i64 pt) (.slice sa sn sc) (.slice ia im ic)).heap[k]? = w5.heap[k]?) := by
    intro k hk
    have h5 := HLT.out
    have h6 := HB4.out.size
    have h7 := HB1.out.size
    rw [set12_other _ _ _ _ _ _ _ _ _ _ _ _ _ _ _ (by omega), HW6.out, set8f_other _ _ _ _ _ _ _ _ _ _ _ (by omega)]
  have HS12 : Hid (Sps (set12 w6 w.heap.size (.int .u8 1) (.int .i64 (x0 : Int)) (.int .i64 (x1 : Int)) (.int .i64 (x2 : Int)) (.int .i64 pk) (.int .i64 pp) (.int .i64 ps) (.int .i64 pn) (.int .i64 pf) (.int .i64 pt) (.slice sa sn sc) (.slice ia im ic)) w.heap.size (.slice sa sn sc) pl ∧ Its (set12 w6 w.heap.size (.int .u8 1) (.int .i64 (x0 : Int)) (.int .i64 (x1 : Int)) (.int .i64 (x2 : Int)) (.int .i64 pk) (.int .i64 pp) (.int .i64 ps) (.int .i64 pn) (.int .i64 pf) (.int .i64 pt) (.slice sa sn sc) (.slice ia im ic)) w.heap.size (.slice ia im ic) M ∧ M.map Prod.fst = pi) := ⟨(HSP.out.frame fun k hk _ => HWF.out k hk).lower HB4.out.size, (HIT.out.frame fun k hk _ => HWF.out k hk).lower HB4.out.size, HM.out⟩
  have y0 : w5.cell? ⟨w1.heap.size + 1, 0, none⟩ = some (.int .u8 1) := HF5.out.cell 0 rfl
  have y1 : w5.cell? ⟨w1.heap.size + 1, 1, none⟩ = some (.int .i64 (x0 : Int)) := HF5.out.cell 1 rfl
  have y2 : w5.cell? ⟨w1.heap.size + 1, 2, none⟩ = some (.int .i64 (x1 : Int)) := HF5.out.cell 2 rfl
  have y3 : w5.cell? ⟨w1.heap.size + 1, 3, none⟩ = some (.int .i64 (x2 : Int)) := HF5.out.cell 3 rfl
  have y4 : w5.cell? ⟨w1.heap.size + 1, 4, none⟩ = some (.int .i64 0) := HF5.out.cell 4 rfl
  have y5 : w5.cell? ⟨w1.heap.size + 1, 5, none⟩ = some (.int .i64 0) := HF5.out.cell 5 rfl
  have y6 : w5.cell? ⟨w1.heap.size + 1, 6, none⟩ = some (.int .i64 0) := HF5.out.cell 6 rfl
  have y7 : w5.cell? ⟨w1.heap.size + 1, 7, none⟩ = some (.int .i64 0) := HF5.out.cell 7 rfl
  have y8 : w5.cell? ⟨w1.heap.size + 1, 8, none⟩ = some (.int .i64 0) := HF5.out.cell 8 rfl
  have y9 : w5.cell? ⟨w1.heap.size + 1, 9, none⟩ = some (.int .i64 0) := HF5.out.cell 9 rfl
  have y10 : w5.cell? ⟨w1.heap.size + 1, 10, none⟩ = some (.slice none 0 0) := HF5.out.cell 10 rfl
  have y11 : w5.cell? ⟨w1.heap.size + 1, 11, none⟩ = some (.slice none 0 0) := HF5.out.cell 11 rfl
  have fy : ∀ i, w5.frozen? ⟨w1.heap.size + 1, i, none⟩ = false := fun i => HF5.out.free i
  have E6 : ((((((((w5.setCell ⟨w1.heap.size + 1, 4, none⟩ (.int .i64 pk)).setCell ⟨w1.heap.size + 1, 5, none⟩ (.int .i64 pp)).setCell ⟨w1.heap.size + 1, 6, none⟩ (.int .i64 ps)).setCell ⟨w1.heap.size + 1, 7, none⟩ (.int .i64 pn)).setCell ⟨w1.heap.size + 1, 8, none⟩ (.int .i64 pf)).setCell ⟨w1.heap.size + 1, 9, none⟩ (.int .i64 pt)).setCell ⟨w1.heap.size + 1, 10, none⟩ (.slice sa sn sc)).setCell ⟨w1.heap.size + 1, 11, none⟩ (.slice ia im ic)) = w6 := HW6.out.symm
  have t0 : w6.cell? ⟨w1.heap.size + 1, 0, none⟩ = some (.int .u8 1) := HF6.out.cell 0 rfl
  have t1 : w6.cell? ⟨w1.heap.size + 1, 1, none⟩ = some (.int .i64 (x0 : Int)) := HF6.out.cell 1 rfl
  have t2 : w6.cell? ⟨w1.heap.size + 1, 2, none⟩ = some (.int .i64 (x1 : Int)) := HF6.out.cell 2 rfl
  have t3 : w6.cell? ⟨w1.heap.size + 1, 3, none⟩ = some (.int .i64 (x2 : Int)) := HF6.out.cell 3 rfl
  have t4 : w6.cell? ⟨w1.heap.size + 1, 4, none⟩ = some (.int .i64 pk) := HF6.out.cell 4 rfl
  have t5 : w6.cell? ⟨w1.heap.size + 1, 5, none⟩ = some (.int .i64 pp) := HF6.out.cell 5 rfl
  have t6 : w6.cell? ⟨w1.heap.size + 1, 6, none⟩ = some (.int .i64 ps) := HF6.out.cell 6 rfl
  have t7 : w6.cell? ⟨w1.heap.size + 1, 7, none⟩ = some (.int .i64 pn) := HF6.out.cell 7 rfl
  have t8 : w6.cell? ⟨w1.heap.size + 1, 8, none⟩ = some (.int .i64 pf) := HF6.out.cell 8 rfl
  have t9 : w6.cell? ⟨w1.heap.size + 1, 9, none⟩ = some (.int .i64 pt) := HF6.out.cell 9 rfl
  have t10 : w6.cell? ⟨w1.heap.size + 1, 10, none⟩ = some (.slice sa sn sc) := HF6.out.cell 10 rfl
  have t11 : w6.cell? ⟨w1.heap.size + 1, 11, none⟩ = some (.slice ia im ic) := HF6.out.cell 11 rfl
  have z0 : w6.cell? ⟨w.heap.size, 0, none⟩ = some (.int .u8 0) := HK6.out.cell 0 rfl
  have z1 : w6.cell? ⟨w.heap.size, 1, none⟩ = some (.int .i64 0) := HK6.out.cell 1 rfl
  have z2 : w6.cell? ⟨w.heap.size, 2, none⟩ = some (.int .i64 0) := HK6.out.cell 2 rfl
  have z3 : w6.cell? ⟨w.heap.size, 3, none⟩ = some (.int .i64 0) := HK6.out.cell 3 rfl
  have z4 : w6.cell? ⟨w.heap.size, 4, none⟩ = some (.int .i64 0) := HK6.out.cell 4 rfl
  have z5 : w6.cell? ⟨w.heap.size, 5, none⟩ = some (.int .i64 0) := HK6.out.cell 5 rfl
  have z6 : w6.cell? ⟨w.heap.size, 6, none⟩ = some (.int .i64 0) := HK6.out.cell 6 rfl
  have z7 : w6.cell? ⟨w.heap.size, 7, none⟩ = some (.int .i64 0) := HK6.out.cell 7 rfl
  have z8 : w6.cell? ⟨w.heap.size, 8, none⟩ = some (.int .i64 0) := HK6.out.cell 8 rfl
  have z9 : w6.cell? ⟨w.heap.size, 9, none⟩ = some (.int .i64 0) := HK6.out.cell 9 rfl
  have z10 : w6.cell? ⟨w.heap.size, 10, none⟩ = some (.slice none 0 0) := HK6.out.cell 10 rfl
  have z11 : w6.cell? ⟨w.heap.size, 11, none⟩ = some (.slice none 0 0) := HK6.out.cell 11 rfl
  have fz : ∀ i, w6.frozen? ⟨w.heap.size, i, none⟩ = false := fun i => HK6.out.free i
  clear HF4 HF3 HK4 HK3 HK1 HK0 HK5 HO3
  go_wp2
  try simp only [Exit.inBlock, Exit.then]
  change bodyPost _ _ _ _ _ (set12 w6 w.heap.size (.int .u8 1) (.int .i64 (x0 : Int)) (.int .i64 (x1 : Int)) (.int .i64 (x2 : Int)) (.int .i64 pk) (.int .i64 pp) (.int .i64 ps) (.int .i64 pn) (.int .i64 pf) (.int .i64 pt) (.slice sa sn sc) (.slice ia im ic))
  refine bodyPost_ret (results_frame rfl (by rfl) (by rfl) (HK6.out.set12 (.int .u8 1) (.int .i64 (x0 : Int)) (.int .i64 (x1 : Int)) (.int .i64 (x2 : Int)) (.int .i64 pk) (.int .i64 pp) (.int .i64 ps) (.int .i64 pn) (.int .i64 pf) (.int .i64 pt) (.slice sa sn sc) (.slice ia im ic))) rfl ?_
  exact ⟨⟨sa, sn, sc, ia, im, ic, rfl, ⟨HS12.out.1, M, HS12.out.2⟩⟩, set12_below HB6.out _ (Nat.le_refl _) (.int .u8 1) (.int .i64 (x0 : Int)) (.int .i64 (x1 : Int)) (.int .i64 (x2 : Int)) (.int .i64 pk) (.int .i64 pp) (.int .i64 ps) (.int .i64 pn) (.int .i64 pf) (.int .i64 pt) (.slice sa sn sc) (.slice ia im ic)⟩
end Go.Proofs.YtbloomepdchjhaaDoor
/- link.Take of a frame that is not accepted. -/
namespace Go.Proofs.YtbloomepdchjhaaDoor
open Go.RowKit

/-- What read tells of bytes that are a frame. -/
def ReadTold (k x0 x1 x2 : Nat) (w : World) (P : World → Value → Prop) (e : Ending) (w' : World) : Prop := (∃ (pk pp ps pn pf pt : Int) (sa : Option Addr) (sn sc : Nat) (ia : Option Addr) (im ic : Nat), e = .returned (.tuple #[.agg #[.int .u8 (k : Int), .int .i64 (x0 : Int), .int .i64 (x1 : Int), .int .i64 (x2 : Int), .int .i64 pk, .int .i64 pp, .int .i64 ps, .int .i64 pn, .int .i64 pf, .int .i64 pt, .slice sa sn sc, .slice ia im ic], .int .i64 0]) ∧ Hid (P w' (.agg #[.int .i64 pk, .int .i64 pp, .int .i64 ps, .int .i64 pn, .int .i64 pf, .int .i64 pt, .slice sa sn sc, .slice ia im ic]))) ∧ Below w.heap.size w w'

set_option maxRecDepth 100000 in
set_option maxHeartbeats 4000000 in
theorem lk_Take_no (w : World) (base g : Nat) (wv : Value) (L : List (Wt × Bd)) (l : Lk) (h : LkIn w base g wv L l) (a : Option Addr) (n c : Nat) (k x0 x1 x2 now : Nat) (ot gr : Nat) (hot : l.other = (ot : Int)) (hgr : l.great = (gr : Int)) (hgb : gr ≤ 1099511627776) (hb : l.bits_ < 18446744073709551616) (hx2 : x2 ≤ 1099511627776) (hnow : now ≤ 1099511627776) (P : World → Value → Prop)
    (hrd : ∀ W, Below w.heap.size w W → w.heap.size + 1 ≤ W.heap.size → Calls Tryd.prog 23 #[.slice a n c] W fun e w' => ReadTold k x0 x1 x2 W P e w') (hno : (accR l ot gr x0 x1 x2).1 ≠ 0) :
    Calls Tryd.prog 10 #[.pointer (some ⟨g, 0, none⟩), .slice a n c, .int .i64 (now : Int)] w fun e w' => e = .returned (.tuple #[.agg #[.int .i64 0, .int .i64 0, .int .i64 0, .int .i64 0, .int .i64 0, .int .i64 0, .slice none 0 0, .slice none 0 0], .bool false, .int .i64 (accR l ot gr x0 x1 x2).1]) ∧ Hid (LkIn w' base g wv L (accR l ot gr x0 x1 x2).2) ∧ Fr w w' g wv := by
  obtain ⟨W0, HW0⟩ : ∃ W0, Hid (W0 = w.alloc (.cells #[.int .i64 0, .int .i64 0, .int .i64 0, .int .i64 0, .int .i64 0, .int .i64 0, .slice none 0 0, .slice none 0 0] 37)) := ⟨_, rfl⟩
  have HB0 : Hid (Below w.heap.size w W0) := by rw [HW0.out]; exact below_new _ _
  have HR0 : Hid (Bk W0 w.heap.size #[.int .i64 0, .int .i64 0, .int .i64 0, .int .i64 0, .int .i64 0, .int .i64 0, .slice none 0 0, .slice none 0 0] 37) := by rw [HW0.out]; exact Bk.new _ _ _
  have HRD : Hid (Calls Tryd.prog 23 #[.slice a n c] W0 fun e w' => ReadTold k x0 x1 x2 W0 P e w') := hrd W0 HB0.out (by rw [HW0.out]; simp)
  have HL : Hid (LkIn w base g wv L l) := h
  have HGX : Hid (w.heap.size ≠ g) := by have := h.blk.lt; show _ ≠ _; omega
  have HRX : Hid (some w.heap.size ≠ wv.ownBlock) := by
    intro e
    have := (h.row.lt w.heap.size e.symm).2
    omega
  have HGL : Hid (g < w.heap.size) := h.blk.lt
  have HVL : Hid (∀ j, wv.ownBlock = some j → j < w.heap.size) := fun j hj => (h.row.lt j hj).2
  have HBB : Hid (l.other = (ot : Int) ∧ l.great = (gr : Int) ∧ gr ≤ 1099511627776 ∧ l.bits_ < 18446744073709551616 ∧ x2 ≤ 1099511627776) := ⟨hot, hgr, hgb, hb, hx2⟩
  obtain ⟨⟨d, l'⟩, HD⟩ : ∃ d, Hid (accR l ot gr x0 x1 x2 = d) := ⟨_, rfl⟩
  rw [HD.out] at hno ⊢
  simp only at hno ⊢
  have g1 : ¬ (now : Int) < 0 := by omega
  have g2 : ¬ (1099511627776 : Int) < (now : Int) := by omega
  have g3 : (d == 0) = false := by simpa using hno
  have g4 : (d != 0) = true := by simpa using hno
  clear h hrd hot hgr hgb hb hx2
  go_enter Tryd.func10, Tryd.ntmps10
  go_wp2_with fail
  rw [← HW0.out]
  refine HRD.out.mono ?_
  rintro e w1 ⟨⟨pk, pp, ps, pn, pf, pt, sa, sn, sc, ia, im, ic, he, _⟩, hb1⟩
  subst he
  have HB1 : Hid (Below w.heap.size w w1) := HB0.out.trans (hb1.mono HB0.out.size)
  obtain ⟨w2, HW2⟩ : ∃ w2, Hid (w2 = w1.alloc (.cells #[.int .u8 (k : Int), .int .i64 (x0 : Int), .int .i64 (x1 : Int), .int .i64 (x2 : Int), .int .i64 pk, .int .i64 pp, .int .i64 ps, .int .i64 pn, .int .i64 pf, .int .i64 pt, .slice sa sn sc, .slice ia im ic] 78)) := ⟨_, rfl⟩
  have hb2 : Below w1.heap.size w1 w2 := by rw [HW2.out]; exact below_new _ _
  have HR2 : Hid (Bk w2 w.heap.size #[.int .i64 0, .int .i64 0, .int .i64 0, .int .i64 0, .int .i64 0, .int .i64 0, .slice none 0 0, .slice none 0 0] 37) := (HR0.out.stay hb1).stay hb2
  have HB2 : Hid (Below w.heap.size w w2) := HB1.out.trans (hb2.mono HB1.out.size)
  have HL2 : Hid (LkIn w2 base g wv L l) := HL.out.below HB2.out
  clear hb1 hb2 HRD
  go_wp2_with fail
  rw [← HW2.out]
  refine (lk_accept w2 base g wv L l HL2.out k x0 x1 x2 _ _ _ _ _ _ _ _ ot gr HBB.out.1 HBB.out.2.1 HBB.out.2.2.1 HBB.out.2.2.2.1 HBB.out.2.2.2.2).mono ?_
  rw [HD.out]
  rintro e w3 ⟨rfl, HL3, hf3⟩
  have HR3 : Hid (Bk w3 w.heap.size #[.int .i64 0, .int .i64 0, .int .i64 0, .int .i64 0, .int .i64 0, .int .i64 0, .slice none 0 0, .slice none 0 0] 37) := HR2.out.fr hf3 HGX.out HRX.out
  have HF3 : Hid (Fr w w3 g wv) := (Fr.of HB2.out).trans hf3 trivial
  clear hf3
  have HL4 : Hid (LkIn (set8 w3 w.heap.size (.int .i64 0) (.int .i64 0) (.int .i64 0) (.int .i64 0) (.int .i64 0) (.int .i64 0) (.slice none 0 0) (.slice none 0 0)) base g wv L l') := HL3.out.away (R := w.heap.size) (by rw [set8_size]; exact Nat.le_refl _) (fun k hk => set8_other _ _ _ _ _ _ _ _ _ _ k hk) HR3.out (by decide) (by decide) (by decide)
  have HF4 : Hid (Fr w (set8 w3 w.heap.size (.int .i64 0) (.int .i64 0) (.int .i64 0) (.int .i64 0) (.int .i64 0) (.int .i64 0) (.slice none 0 0) (.slice none 0 0)) g wv) := HF3.out.set8_new (Nat.le_refl _)
  have r0 : w3.cell? ⟨w.heap.size, 0, none⟩ = some (.int .i64 0) := HR3.out.cell 0 rfl
  have r1 : w3.cell? ⟨w.heap.size, 1, none⟩ = some (.int .i64 0) := HR3.out.cell 1 rfl
  have r2 : w3.cell? ⟨w.heap.size, 2, none⟩ = some (.int .i64 0) := HR3.out.cell 2 rfl
  have r3 : w3.cell? ⟨w.heap.size, 3, none⟩ = some (.int .i64 0) := HR3.out.cell 3 rfl
  have r4 : w3.cell? ⟨w.heap.size, 4, none⟩ = some (.int .i64 0) := HR3.out.cell 4 rfl
  have r5 : w3.cell? ⟨w.heap.size, 5, none⟩ = some (.int .i64 0) := HR3.out.cell 5 rfl
  have r6 : w3.cell? ⟨w.heap.size, 6, none⟩ = some (.slice none 0 0) := HR3.out.cell 6 rfl
  have r7 : w3.cell? ⟨w.heap.size, 7, none⟩ = some (.slice none 0 0) := HR3.out.cell 7 rfl
  have fz : ∀ i, w3.frozen? ⟨w.heap.size, i, none⟩ = false := fun i => HR3.out.free i
  go_wp2
  try simp only [Exit.inBlock, Exit.then]
  change bodyPost _ _ _ _ _ (set8 w3 w.heap.size (.int .i64 0) (.int .i64 0) (.int .i64 0) (.int .i64 0) (.int .i64 0) (.int .i64 0) (.slice none 0 0) (.slice none 0 0))
  refine bodyPost_ret (results_take rfl (by rfl) (by rfl) (by rfl) (HR3.out.set8 (.int .i64 0) (.int .i64 0) (.int .i64 0) (.int .i64 0) (.int .i64 0) (.int .i64 0) (.slice none 0 0) (.slice none 0 0))) rfl ?_
  exact ⟨rfl, HL4, HF4.out⟩
end Go.Proofs.YtbloomepdchjhaaDoor
