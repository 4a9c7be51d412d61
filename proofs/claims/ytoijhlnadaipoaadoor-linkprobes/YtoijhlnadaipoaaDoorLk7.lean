/- link.read of a probe's and an answer's frame. -/
import Derived.Test.YtoijhlnadaipoaaDoorLk6
namespace Go.Proofs.YtoijhlnadaipoaaDoor
open Go.RowKit

theorem lebs_byte {ns : List Nat} (hb : ∀ n ∈ ns, n < 18446744073709551616) : ∀ y ∈ lebs ns, y < 256 := by
  intro y hy
  simp only [lebs, List.mem_flatMap] at hy
  obtain ⟨n, hn, h⟩ := hy
  exact Leb.leb_byte n (hb n hn) y h
def set12 (w : World) (g : Nat) (v0 v1 v2 v3 v4 v5 v6 v7 v8 v9 v10 v11 : Value) : World := ((((((((((((w.setCell ⟨g, 0, none⟩ v0).setCell ⟨g, 1, none⟩ v1).setCell ⟨g, 2, none⟩ v2).setCell ⟨g, 3, none⟩ v3).setCell ⟨g, 4, none⟩ v4).setCell ⟨g, 5, none⟩ v5).setCell ⟨g, 6, none⟩ v6).setCell ⟨g, 7, none⟩ v7).setCell ⟨g, 8, none⟩ v8).setCell ⟨g, 9, none⟩ v9).setCell ⟨g, 10, none⟩ v10).setCell ⟨g, 11, none⟩ v11)
theorem Bk.set12 {w : World} {g : Nat} {t : TypeId} {u0 u1 u2 u3 u4 u5 u6 u7 u8 u9 u10 u11 : Value} (h : Bk w g #[u0, u1, u2, u3, u4, u5, u6, u7, u8, u9, u10, u11] t) (v0 v1 v2 v3 v4 v5 v6 v7 v8 v9 v10 v11 : Value) : Bk (Go.Proofs.YtoijhlnadaipoaaDoor.set12 w g v0 v1 v2 v3 v4 v5 v6 v7 v8 v9 v10 v11) g #[v0, v1, v2, v3, v4, v5, v6, v7, v8, v9, v10, v11] t := by
  unfold Go.Proofs.YtoijhlnadaipoaaDoor.set12
  have h1 : Bk (w.setCell ⟨g, 0, none⟩ v0) g #[v0, u1, u2, u3, u4, u5, u6, u7, u8, u9, u10, u11] t := bk_step h 0 v0 rfl
  generalize w.setCell ⟨g, 0, none⟩ v0 = w1 at h1 ⊢
  have h2 : Bk (w1.setCell ⟨g, 1, none⟩ v1) g #[v0, v1, u2, u3, u4, u5, u6, u7, u8, u9, u10, u11] t := bk_step h1 1 v1 rfl
  generalize w1.setCell ⟨g, 1, none⟩ v1 = w2 at h2 ⊢
  have h3 : Bk (w2.setCell ⟨g, 2, none⟩ v2) g #[v0, v1, v2, u3, u4, u5, u6, u7, u8, u9, u10, u11] t := bk_step h2 2 v2 rfl
  generalize w2.setCell ⟨g, 2, none⟩ v2 = w3 at h3 ⊢
  have h4 : Bk (w3.setCell ⟨g, 3, none⟩ v3) g #[v0, v1, v2, v3, u4, u5, u6, u7, u8, u9, u10, u11] t := bk_step h3 3 v3 rfl
  generalize w3.setCell ⟨g, 3, none⟩ v3 = w4 at h4 ⊢
  have h5 : Bk (w4.setCell ⟨g, 4, none⟩ v4) g #[v0, v1, v2, v3, v4, u5, u6, u7, u8, u9, u10, u11] t := bk_step h4 4 v4 rfl
  generalize w4.setCell ⟨g, 4, none⟩ v4 = w5 at h5 ⊢
  have h6 : Bk (w5.setCell ⟨g, 5, none⟩ v5) g #[v0, v1, v2, v3, v4, v5, u6, u7, u8, u9, u10, u11] t := bk_step h5 5 v5 rfl
  generalize w5.setCell ⟨g, 5, none⟩ v5 = w6 at h6 ⊢
  have h7 : Bk (w6.setCell ⟨g, 6, none⟩ v6) g #[v0, v1, v2, v3, v4, v5, v6, u7, u8, u9, u10, u11] t := bk_step h6 6 v6 rfl
  generalize w6.setCell ⟨g, 6, none⟩ v6 = w7 at h7 ⊢
  have h8 : Bk (w7.setCell ⟨g, 7, none⟩ v7) g #[v0, v1, v2, v3, v4, v5, v6, v7, u8, u9, u10, u11] t := bk_step h7 7 v7 rfl
  generalize w7.setCell ⟨g, 7, none⟩ v7 = w8 at h8 ⊢
  have h9 : Bk (w8.setCell ⟨g, 8, none⟩ v8) g #[v0, v1, v2, v3, v4, v5, v6, v7, v8, u9, u10, u11] t := bk_step h8 8 v8 rfl
  generalize w8.setCell ⟨g, 8, none⟩ v8 = w9 at h9 ⊢
  have h10 : Bk (w9.setCell ⟨g, 9, none⟩ v9) g #[v0, v1, v2, v3, v4, v5, v6, v7, v8, v9, u10, u11] t := bk_step h9 9 v9 rfl
  generalize w9.setCell ⟨g, 9, none⟩ v9 = w10 at h10 ⊢
  have h11 : Bk (w10.setCell ⟨g, 10, none⟩ v10) g #[v0, v1, v2, v3, v4, v5, v6, v7, v8, v9, v10, u11] t := bk_step h10 10 v10 rfl
  generalize w10.setCell ⟨g, 10, none⟩ v10 = w11 at h11 ⊢
  have h12 : Bk (w11.setCell ⟨g, 11, none⟩ v11) g #[v0, v1, v2, v3, v4, v5, v6, v7, v8, v9, v10, v11] t := bk_step h11 11 v11 rfl
  exact h12
theorem set12_below {B : Nat} {w w' : World} (h : Below B w w') (g : Nat) (hg : B ≤ g) (v0 v1 v2 v3 v4 v5 v6 v7 v8 v9 v10 v11 : Value) : Below B w (set12 w' g v0 v1 v2 v3 v4 v5 v6 v7 v8 v9 v10 v11) := by
  unfold set12
  exact (((((((((((h.setCell hg _).setCell hg _).setCell hg _).setCell hg _).setCell hg _).setCell hg _).setCell hg _).setCell hg _).setCell hg _).setCell hg _).setCell hg _).setCell hg _
theorem results_frame {f : Func} {w : World} {tmps : Array Value} {g : Nat} {t : TypeId} {v0 v1 v2 v3 v4 v5 v6 v7 v8 v9 v10 v11 e : Value} (hf : f.results = #[.cell 2 85, .tmp 3]) (h4 : tmps[2]?.getD undef = .pointer (some ⟨g, 0, none⟩)) (h5 : tmps[3]?.getD undef = e)
    (k : Bk w g #[v0, v1, v2, v3, v4, v5, v6, v7, v8, v9, v10, v11] t) : (results f tmps).run Tryd.prog w = .ok (.tuple #[.agg #[v0, v1, v2, v3, v4, v5, v6, v7, v8, v9, v10, v11], e]) w := by
  have k0 := k.cell 0 rfl
  have k1 := k.cell 1 rfl
  have k2 := k.cell 2 rfl
  have k3 := k.cell 3 rfl
  have k4 := k.cell 4 rfl
  have k5 := k.cell 5 rfl
  have k6 := k.cell 6 rfl
  have k7 := k.cell 7 rfl
  have k8 := k.cell 8 rfl
  have k9 := k.cell 9 rfl
  have k10 := k.cell 10 rfl
  have k11 := k.cell 11 rfl
  simp [results, hf, go_sem, h4, h5, k0, k1, k2, k3, k4, k5, k6, k7, k8, k9, k10, k11]

set_option maxRecDepth 100000 in
set_option maxHeartbeats 4000000 in
theorem lk_read_2 (a : Option Addr) (n c : Nat) (bs : List Nat) (x0 x1 x2 : Nat) (w : World) (hr : Rd w a n bs) (hbs : bs = SealM.sealed 2 (lebs [x0, x1, x2])) (hnc : n ≤ c) (h0 : 1 ≤ x0 ∧ x0 ≤ 1073741824) (h1 : x1 ≤ 1073741824) (h2 : 1 ≤ x2 ∧ x2 ≤ 1099511627776) (ht : Tab w) (hw0 : 0 < w.heap.size) :
    Calls Tryd.prog 28 #[.slice a n c] w fun e w' => e = .returned (.tuple #[.agg #[.int .u8 2, .int .i64 (x0 : Int), .int .i64 (x1 : Int), .int .i64 (x2 : Int), .int .i64 0, .int .i64 0, .int .i64 0, .int .i64 0, .int .i64 0, .int .i64 0, .slice none 0 0, .slice none 0 0], .int .i64 0]) ∧ Below w.heap.size w w' := by
  obtain ⟨B, hB⟩ : ∃ B, B = lebs [x0, x1, x2] := ⟨_, rfl⟩
  have HBE : Hid (B = lebs [x0, x1, x2]) := hB
  obtain ⟨q, hq⟩ : ∃ q, q = B.length := ⟨_, rfl⟩
  have HQ : Hid (q = B.length) := hq
  have hq30 : q ≤ 30 := by have := lebs_len [x0, x1, x2]; rw [hq, hB]; simpa using this
  rw [← hB] at hbs
  have HSZ : Hid (n = q + 8) := by have h := hr.size; rw [hbs, SealM.sealed_length, ← hq] at h; exact h.symm
  have hn38 : n ≤ 38 := by have := HSZ.out; omega
  have hby : ∀ y ∈ B, y < 256 := by rw [hB]; exact lebs_byte (by intro n hn; simp only [List.mem_cons, List.not_mem_nil, or_false] at hn; omega)
  have HR : Hid (Rd w a n bs) := hr
  have HOK : Hid (SealM.opn (bs.drop 0) = 0 ∧ (bs.drop 0).getD 1 0 = 2 ∧ SealM.blen (bs.drop 0) = q ∧ ((bs.drop 0).drop 4).take q = B) := by
    have h1 := SealM.opn_sealed 2 B [] (by omega) hby (by omega)
    have h2 := SealM.kind_sealed 2 B []
    have h3 := SealM.blen_sealed 2 B []
    have h4 := SealM.body_sealed 2 B []
    rw [List.append_nil] at h1 h2 h3 h4
    rw [List.drop_zero, hbs]
    exact ⟨h1, h2, by rw [h3, hq], by rw [hq]; exact h4⟩
  have HT : Hid (Tab w) := ht
  obtain ⟨W0, HW0⟩ : ∃ W0, Hid (W0 = w.alloc (.cells #[.int .u8 0, .int .i64 0, .int .i64 0, .int .i64 0, .int .i64 0, .int .i64 0, .int .i64 0, .int .i64 0, .int .i64 0, .int .i64 0, .slice none 0 0, .slice none 0 0] 85)) := ⟨_, rfl⟩
  have HB0 : Hid (Below w.heap.size w W0) := by rw [HW0.out]; exact below_new _ _
  have HK0 : Hid (Bk W0 w.heap.size #[.int .u8 0, .int .i64 0, .int .i64 0, .int .i64 0, .int .i64 0, .int .i64 0, .int .i64 0, .int .i64 0, .int .i64 0, .int .i64 0, .slice none 0 0, .slice none 0 0] 85) := by rw [HW0.out]; exact Bk.new _ _ _
  have HS0 : Hid (W0.heap.size = w.heap.size + 1) := by show _ = _; rw [HW0.out]; simp
  clear hr hbs hB hq hby ht
  go_enter Tryd.func28, Tryd.ntmps28
  go_wp2_with fail
  rw [← HW0.out]
  refine (seal_Open_good a n c bs 0 W0 (HR.out.below HB0.out) hnc (by omega) (by omega) (HT.out.below hw0 HB0.out) (Nat.lt_of_lt_of_le hw0 HB0.out.size) HOK.out.1 2 q HOK.out.2.1 HOK.out.2.2.1 B HOK.out.2.2.2).mono ?_
  rintro e w1 ⟨gb, he, ho1, hb1⟩
  rw [show (0 + q + 8 : Nat) = n from by have := HSZ.out; omega] at he
  subst he
  have HB1 : Hid (Below w.heap.size w w1) := HB0.out.trans (hb1.mono HB0.out.size)
  have HK1 : Hid (Bk w1 w.heap.size #[.int .u8 0, .int .i64 0, .int .i64 0, .int .i64 0, .int .i64 0, .int .i64 0, .int .i64 0, .int .i64 0, .int .i64 0, .int .i64 0, .slice none 0 0, .slice none 0 0] 85) := HK0.out.stay hb1
  obtain ⟨w3, HW3⟩ : ∃ w3, Hid (w3 = (w1.alloc (.cells #[.int .u8 2, .int .i64 0, .slice (some ⟨gb, 0, none⟩) q q] 103)).alloc (.cells #[.int .u8 2, .int .i64 0, .int .i64 0, .int .i64 0, .int .i64 0, .int .i64 0, .int .i64 0, .int .i64 0, .int .i64 0, .int .i64 0, .slice none 0 0, .slice none 0 0] 85)) := ⟨_, rfl⟩
  have hb3 : Below w1.heap.size w1 w3 := by rw [HW3.out]; exact (below_new w1 _).alloc (by simp) _
  have HF3 : Hid (Bk w3 (w1.heap.size + 1) #[.int .u8 2, .int .i64 0, .int .i64 0, .int .i64 0, .int .i64 0, .int .i64 0, .int .i64 0, .int .i64 0, .int .i64 0, .int .i64 0, .slice none 0 0, .slice none 0 0] 85) := by
    rw [HW3.out]
    have h := Bk.new (w1.alloc (.cells #[.int .u8 2, .int .i64 0, .slice (some ⟨gb, 0, none⟩) q q] 103)) #[.int .u8 2, .int .i64 0, .int .i64 0, .int .i64 0, .int .i64 0, .int .i64 0, .int .i64 0, .int .i64 0, .int .i64 0, .int .i64 0, .slice none 0 0, .slice none 0 0] 85
    rw [show (w1.alloc (.cells #[.int .u8 2, .int .i64 0, .slice (some ⟨gb, 0, none⟩) q q] 103)).heap.size = w1.heap.size + 1 from by simp] at h
    exact h
  have HK3 : Hid (Bk w3 w.heap.size #[.int .u8 0, .int .i64 0, .int .i64 0, .int .i64 0, .int .i64 0, .int .i64 0, .int .i64 0, .int .i64 0, .int .i64 0, .int .i64 0, .slice none 0 0, .slice none 0 0] 85) := HK1.out.stay hb3
  have HO3 : Hid (Own w3 W0.heap.size (some ⟨gb, 0, none⟩) q q B) := ho1.below hb3
  have HGB : Hid (gb < w1.heap.size) := by
    rcases ho1.row.2 with ⟨hv, _⟩ | ⟨g', c', cur, hv, _, hg, _⟩
    · cases hv
    · simp only [Value.slice.injEq, Option.some.injEq, Addr.mk.injEq] at hv
      rw [hv.1.1]
      exact (Array.getElem?_eq_some_iff.1 hg).1
  have HB3 : Hid (Below w.heap.size w w3) := HB1.out.trans (hb3.mono HB1.out.size)
  have hnm := lk_numbers_ok (w1.heap.size + 1) 2 gb 0 q q x0 x1 x2 B [] w3 HF3.out HO3.out.rd (by rw [List.append_nil]; exact HBE.out) (by have := HGB.out; omega) (Nat.le_refl _) (by omega) h0 h1 h2
  have HNM : Hid (Calls Tryd.prog 42 #[.pointer (some ⟨w1.heap.size + 1, 0, none⟩), .slice (some ⟨gb, 0, none⟩) q q] w3 fun e w' => (∃ a' c', e = .returned (.tuple #[.slice a' 0 c', .int .i64 0])) ∧ Hid (Bk w' (w1.heap.size + 1) #[.int .u8 2, .int .i64 (x0 : Int), .int .i64 (x1 : Int), .int .i64 (x2 : Int), .int .i64 0, .int .i64 0, .int .i64 0, .int .i64 0, .int .i64 0, .int .i64 0, .slice none 0 0, .slice none 0 0] 85) ∧ w3.grownBy w' (some (w1.heap.size + 1))) := by
    refine hnm.mono ?_
    rintro e w' ⟨⟨a', c', h1, _⟩, h2, h3⟩
    exact ⟨⟨a', c', h1⟩, h2, h3⟩
  have hne : w.heap.size ≠ w1.heap.size + 1 := by have := HB1.out.size; omega
  clear hb1 hb3 ho1 hnm
  go_wp2_with fail
  rw [← HW3.out]
  refine HNM.out.mono ?_
  rintro e w4 ⟨⟨a', c', he⟩, HF4, hg4⟩
  subst he
  have HK4 : Hid (Bk w4 w.heap.size #[.int .u8 0, .int .i64 0, .int .i64 0, .int .i64 0, .int .i64 0, .int .i64 0, .int .i64 0, .int .i64 0, .int .i64 0, .int .i64 0, .slice none 0 0, .slice none 0 0] 85) := HK3.out.grown hg4 (by simpa using hne)
  have HB4 : Hid (Below w.heap.size w w4) := by
    have hb := HB3.out
    refine ⟨hg4.os.trans hb.os, hg4.tape.trans hb.tape, hg4.output.trans hb.output, Nat.le_trans hb.size hg4.size, fun j hj => ?_⟩
    rw [hg4.block j (Nat.lt_of_lt_of_le hj hb.size) (by have := HB1.out.size; simp; omega)]
    exact hb.block j hj
  clear hg4 HNM
  have y0 : w4.cell? ⟨w1.heap.size + 1, 0, none⟩ = some (.int .u8 2) := HF4.out.cell 0 rfl
  have y1 : w4.cell? ⟨w1.heap.size + 1, 1, none⟩ = some (.int .i64 (x0 : Int)) := HF4.out.cell 1 rfl
  have y2 : w4.cell? ⟨w1.heap.size + 1, 2, none⟩ = some (.int .i64 (x1 : Int)) := HF4.out.cell 2 rfl
  have y3 : w4.cell? ⟨w1.heap.size + 1, 3, none⟩ = some (.int .i64 (x2 : Int)) := HF4.out.cell 3 rfl
  have y4 : w4.cell? ⟨w1.heap.size + 1, 4, none⟩ = some (.int .i64 0) := HF4.out.cell 4 rfl
  have y5 : w4.cell? ⟨w1.heap.size + 1, 5, none⟩ = some (.int .i64 0) := HF4.out.cell 5 rfl
  have y6 : w4.cell? ⟨w1.heap.size + 1, 6, none⟩ = some (.int .i64 0) := HF4.out.cell 6 rfl
  have y7 : w4.cell? ⟨w1.heap.size + 1, 7, none⟩ = some (.int .i64 0) := HF4.out.cell 7 rfl
  have y8 : w4.cell? ⟨w1.heap.size + 1, 8, none⟩ = some (.int .i64 0) := HF4.out.cell 8 rfl
  have y9 : w4.cell? ⟨w1.heap.size + 1, 9, none⟩ = some (.int .i64 0) := HF4.out.cell 9 rfl
  have y10 : w4.cell? ⟨w1.heap.size + 1, 10, none⟩ = some (.slice none 0 0) := HF4.out.cell 10 rfl
  have y11 : w4.cell? ⟨w1.heap.size + 1, 11, none⟩ = some (.slice none 0 0) := HF4.out.cell 11 rfl
  have z0 : w4.cell? ⟨w.heap.size, 0, none⟩ = some (.int .u8 0) := HK4.out.cell 0 rfl
  have z1 : w4.cell? ⟨w.heap.size, 1, none⟩ = some (.int .i64 0) := HK4.out.cell 1 rfl
  have z2 : w4.cell? ⟨w.heap.size, 2, none⟩ = some (.int .i64 0) := HK4.out.cell 2 rfl
  have z3 : w4.cell? ⟨w.heap.size, 3, none⟩ = some (.int .i64 0) := HK4.out.cell 3 rfl
  have z4 : w4.cell? ⟨w.heap.size, 4, none⟩ = some (.int .i64 0) := HK4.out.cell 4 rfl
  have z5 : w4.cell? ⟨w.heap.size, 5, none⟩ = some (.int .i64 0) := HK4.out.cell 5 rfl
  have z6 : w4.cell? ⟨w.heap.size, 6, none⟩ = some (.int .i64 0) := HK4.out.cell 6 rfl
  have z7 : w4.cell? ⟨w.heap.size, 7, none⟩ = some (.int .i64 0) := HK4.out.cell 7 rfl
  have z8 : w4.cell? ⟨w.heap.size, 8, none⟩ = some (.int .i64 0) := HK4.out.cell 8 rfl
  have z9 : w4.cell? ⟨w.heap.size, 9, none⟩ = some (.int .i64 0) := HK4.out.cell 9 rfl
  have z10 : w4.cell? ⟨w.heap.size, 10, none⟩ = some (.slice none 0 0) := HK4.out.cell 10 rfl
  have z11 : w4.cell? ⟨w.heap.size, 11, none⟩ = some (.slice none 0 0) := HK4.out.cell 11 rfl
  have fr : ∀ i, w4.frozen? ⟨w.heap.size, i, none⟩ = false := fun i => HK4.out.free i
  go_wp2
  try simp only [Exit.inBlock, Exit.then]
  change bodyPost _ _ _ _ _ (set12 w4 w.heap.size (.int .u8 2) (.int .i64 (x0 : Int)) (.int .i64 (x1 : Int)) (.int .i64 (x2 : Int)) (.int .i64 0) (.int .i64 0) (.int .i64 0) (.int .i64 0) (.int .i64 0) (.int .i64 0) (.slice none 0 0) (.slice none 0 0))
  refine bodyPost_ret (results_frame rfl (by rfl) (by rfl) (HK4.out.set12 (.int .u8 2) (.int .i64 (x0 : Int)) (.int .i64 (x1 : Int)) (.int .i64 (x2 : Int)) (.int .i64 0) (.int .i64 0) (.int .i64 0) (.int .i64 0) (.int .i64 0) (.int .i64 0) (.slice none 0 0) (.slice none 0 0))) rfl ?_
  exact ⟨rfl, set12_below HB4.out _ (Nat.le_refl _) (.int .u8 2) (.int .i64 (x0 : Int)) (.int .i64 (x1 : Int)) (.int .i64 (x2 : Int)) (.int .i64 0) (.int .i64 0) (.int .i64 0) (.int .i64 0) (.int .i64 0) (.int .i64 0) (.slice none 0 0) (.slice none 0 0)⟩

set_option maxRecDepth 100000 in
set_option maxHeartbeats 4000000 in
theorem lk_read_3 (a : Option Addr) (n c : Nat) (bs : List Nat) (x0 x1 x2 : Nat) (w : World) (hr : Rd w a n bs) (hbs : bs = SealM.sealed 3 (lebs [x0, x1, x2])) (hnc : n ≤ c) (h0 : 1 ≤ x0 ∧ x0 ≤ 1073741824) (h1 : x1 ≤ 1073741824) (h2 : 1 ≤ x2 ∧ x2 ≤ 1099511627776) (ht : Tab w) (hw0 : 0 < w.heap.size) :
    Calls Tryd.prog 28 #[.slice a n c] w fun e w' => e = .returned (.tuple #[.agg #[.int .u8 3, .int .i64 (x0 : Int), .int .i64 (x1 : Int), .int .i64 (x2 : Int), .int .i64 0, .int .i64 0, .int .i64 0, .int .i64 0, .int .i64 0, .int .i64 0, .slice none 0 0, .slice none 0 0], .int .i64 0]) ∧ Below w.heap.size w w' := by
  obtain ⟨B, hB⟩ : ∃ B, B = lebs [x0, x1, x2] := ⟨_, rfl⟩
  have HBE : Hid (B = lebs [x0, x1, x2]) := hB
  obtain ⟨q, hq⟩ : ∃ q, q = B.length := ⟨_, rfl⟩
  have HQ : Hid (q = B.length) := hq
  have hq30 : q ≤ 30 := by have := lebs_len [x0, x1, x2]; rw [hq, hB]; simpa using this
  rw [← hB] at hbs
  have HSZ : Hid (n = q + 8) := by have h := hr.size; rw [hbs, SealM.sealed_length, ← hq] at h; exact h.symm
  have hn38 : n ≤ 38 := by have := HSZ.out; omega
  have hby : ∀ y ∈ B, y < 256 := by rw [hB]; exact lebs_byte (by intro n hn; simp only [List.mem_cons, List.not_mem_nil, or_false] at hn; omega)
  have HR : Hid (Rd w a n bs) := hr
  have HOK : Hid (SealM.opn (bs.drop 0) = 0 ∧ (bs.drop 0).getD 1 0 = 3 ∧ SealM.blen (bs.drop 0) = q ∧ ((bs.drop 0).drop 4).take q = B) := by
    have h1 := SealM.opn_sealed 3 B [] (by omega) hby (by omega)
    have h2 := SealM.kind_sealed 3 B []
    have h3 := SealM.blen_sealed 3 B []
    have h4 := SealM.body_sealed 3 B []
    rw [List.append_nil] at h1 h2 h3 h4
    rw [List.drop_zero, hbs]
    exact ⟨h1, h2, by rw [h3, hq], by rw [hq]; exact h4⟩
  have HT : Hid (Tab w) := ht
  obtain ⟨W0, HW0⟩ : ∃ W0, Hid (W0 = w.alloc (.cells #[.int .u8 0, .int .i64 0, .int .i64 0, .int .i64 0, .int .i64 0, .int .i64 0, .int .i64 0, .int .i64 0, .int .i64 0, .int .i64 0, .slice none 0 0, .slice none 0 0] 85)) := ⟨_, rfl⟩
  have HB0 : Hid (Below w.heap.size w W0) := by rw [HW0.out]; exact below_new _ _
  have HK0 : Hid (Bk W0 w.heap.size #[.int .u8 0, .int .i64 0, .int .i64 0, .int .i64 0, .int .i64 0, .int .i64 0, .int .i64 0, .int .i64 0, .int .i64 0, .int .i64 0, .slice none 0 0, .slice none 0 0] 85) := by rw [HW0.out]; exact Bk.new _ _ _
  have HS0 : Hid (W0.heap.size = w.heap.size + 1) := by show _ = _; rw [HW0.out]; simp
  clear hr hbs hB hq hby ht
  go_enter Tryd.func28, Tryd.ntmps28
  go_wp2_with fail
  rw [← HW0.out]
  refine (seal_Open_good a n c bs 0 W0 (HR.out.below HB0.out) hnc (by omega) (by omega) (HT.out.below hw0 HB0.out) (Nat.lt_of_lt_of_le hw0 HB0.out.size) HOK.out.1 3 q HOK.out.2.1 HOK.out.2.2.1 B HOK.out.2.2.2).mono ?_
  rintro e w1 ⟨gb, he, ho1, hb1⟩
  rw [show (0 + q + 8 : Nat) = n from by have := HSZ.out; omega] at he
  subst he
  have HB1 : Hid (Below w.heap.size w w1) := HB0.out.trans (hb1.mono HB0.out.size)
  have HK1 : Hid (Bk w1 w.heap.size #[.int .u8 0, .int .i64 0, .int .i64 0, .int .i64 0, .int .i64 0, .int .i64 0, .int .i64 0, .int .i64 0, .int .i64 0, .int .i64 0, .slice none 0 0, .slice none 0 0] 85) := HK0.out.stay hb1
  obtain ⟨w3, HW3⟩ : ∃ w3, Hid (w3 = (w1.alloc (.cells #[.int .u8 3, .int .i64 0, .slice (some ⟨gb, 0, none⟩) q q] 103)).alloc (.cells #[.int .u8 3, .int .i64 0, .int .i64 0, .int .i64 0, .int .i64 0, .int .i64 0, .int .i64 0, .int .i64 0, .int .i64 0, .int .i64 0, .slice none 0 0, .slice none 0 0] 85)) := ⟨_, rfl⟩
  have hb3 : Below w1.heap.size w1 w3 := by rw [HW3.out]; exact (below_new w1 _).alloc (by simp) _
  have HF3 : Hid (Bk w3 (w1.heap.size + 1) #[.int .u8 3, .int .i64 0, .int .i64 0, .int .i64 0, .int .i64 0, .int .i64 0, .int .i64 0, .int .i64 0, .int .i64 0, .int .i64 0, .slice none 0 0, .slice none 0 0] 85) := by
    rw [HW3.out]
    have h := Bk.new (w1.alloc (.cells #[.int .u8 3, .int .i64 0, .slice (some ⟨gb, 0, none⟩) q q] 103)) #[.int .u8 3, .int .i64 0, .int .i64 0, .int .i64 0, .int .i64 0, .int .i64 0, .int .i64 0, .int .i64 0, .int .i64 0, .int .i64 0, .slice none 0 0, .slice none 0 0] 85
    rw [show (w1.alloc (.cells #[.int .u8 3, .int .i64 0, .slice (some ⟨gb, 0, none⟩) q q] 103)).heap.size = w1.heap.size + 1 from by simp] at h
    exact h
  have HK3 : Hid (Bk w3 w.heap.size #[.int .u8 0, .int .i64 0, .int .i64 0, .int .i64 0, .int .i64 0, .int .i64 0, .int .i64 0, .int .i64 0, .int .i64 0, .int .i64 0, .slice none 0 0, .slice none 0 0] 85) := HK1.out.stay hb3
  have HO3 : Hid (Own w3 W0.heap.size (some ⟨gb, 0, none⟩) q q B) := ho1.below hb3
  have HGB : Hid (gb < w1.heap.size) := by
    rcases ho1.row.2 with ⟨hv, _⟩ | ⟨g', c', cur, hv, _, hg, _⟩
    · cases hv
    · simp only [Value.slice.injEq, Option.some.injEq, Addr.mk.injEq] at hv
      rw [hv.1.1]
      exact (Array.getElem?_eq_some_iff.1 hg).1
  have HB3 : Hid (Below w.heap.size w w3) := HB1.out.trans (hb3.mono HB1.out.size)
  have hnm := lk_numbers_ok (w1.heap.size + 1) 3 gb 0 q q x0 x1 x2 B [] w3 HF3.out HO3.out.rd (by rw [List.append_nil]; exact HBE.out) (by have := HGB.out; omega) (Nat.le_refl _) (by omega) h0 h1 h2
  have HNM : Hid (Calls Tryd.prog 42 #[.pointer (some ⟨w1.heap.size + 1, 0, none⟩), .slice (some ⟨gb, 0, none⟩) q q] w3 fun e w' => (∃ a' c', e = .returned (.tuple #[.slice a' 0 c', .int .i64 0])) ∧ Hid (Bk w' (w1.heap.size + 1) #[.int .u8 3, .int .i64 (x0 : Int), .int .i64 (x1 : Int), .int .i64 (x2 : Int), .int .i64 0, .int .i64 0, .int .i64 0, .int .i64 0, .int .i64 0, .int .i64 0, .slice none 0 0, .slice none 0 0] 85) ∧ w3.grownBy w' (some (w1.heap.size + 1))) := by
    refine hnm.mono ?_
    rintro e w' ⟨⟨a', c', h1, _⟩, h2, h3⟩
    exact ⟨⟨a', c', h1⟩, h2, h3⟩
  have hne : w.heap.size ≠ w1.heap.size + 1 := by have := HB1.out.size; omega
  clear hb1 hb3 ho1 hnm
  go_wp2_with fail
  rw [← HW3.out]
  refine HNM.out.mono ?_
  rintro e w4 ⟨⟨a', c', he⟩, HF4, hg4⟩
  subst he
  have HK4 : Hid (Bk w4 w.heap.size #[.int .u8 0, .int .i64 0, .int .i64 0, .int .i64 0, .int .i64 0, .int .i64 0, .int .i64 0, .int .i64 0, .int .i64 0, .int .i64 0, .slice none 0 0, .slice none 0 0] 85) := HK3.out.grown hg4 (by simpa using hne)
  have HB4 : Hid (Below w.heap.size w w4) := by
    have hb := HB3.out
    refine ⟨hg4.os.trans hb.os, hg4.tape.trans hb.tape, hg4.output.trans hb.output, Nat.le_trans hb.size hg4.size, fun j hj => ?_⟩
    rw [hg4.block j (Nat.lt_of_lt_of_le hj hb.size) (by have := HB1.out.size; simp; omega)]
    exact hb.block j hj
  clear hg4 HNM
  have y0 : w4.cell? ⟨w1.heap.size + 1, 0, none⟩ = some (.int .u8 3) := HF4.out.cell 0 rfl
  have y1 : w4.cell? ⟨w1.heap.size + 1, 1, none⟩ = some (.int .i64 (x0 : Int)) := HF4.out.cell 1 rfl
  have y2 : w4.cell? ⟨w1.heap.size + 1, 2, none⟩ = some (.int .i64 (x1 : Int)) := HF4.out.cell 2 rfl
  have y3 : w4.cell? ⟨w1.heap.size + 1, 3, none⟩ = some (.int .i64 (x2 : Int)) := HF4.out.cell 3 rfl
  have y4 : w4.cell? ⟨w1.heap.size + 1, 4, none⟩ = some (.int .i64 0) := HF4.out.cell 4 rfl
  have y5 : w4.cell? ⟨w1.heap.size + 1, 5, none⟩ = some (.int .i64 0) := HF4.out.cell 5 rfl
  have y6 : w4.cell? ⟨w1.heap.size + 1, 6, none⟩ = some (.int .i64 0) := HF4.out.cell 6 rfl
  have y7 : w4.cell? ⟨w1.heap.size + 1, 7, none⟩ = some (.int .i64 0) := HF4.out.cell 7 rfl
  have y8 : w4.cell? ⟨w1.heap.size + 1, 8, none⟩ = some (.int .i64 0) := HF4.out.cell 8 rfl
  have y9 : w4.cell? ⟨w1.heap.size + 1, 9, none⟩ = some (.int .i64 0) := HF4.out.cell 9 rfl
  have y10 : w4.cell? ⟨w1.heap.size + 1, 10, none⟩ = some (.slice none 0 0) := HF4.out.cell 10 rfl
  have y11 : w4.cell? ⟨w1.heap.size + 1, 11, none⟩ = some (.slice none 0 0) := HF4.out.cell 11 rfl
  have z0 : w4.cell? ⟨w.heap.size, 0, none⟩ = some (.int .u8 0) := HK4.out.cell 0 rfl
  have z1 : w4.cell? ⟨w.heap.size, 1, none⟩ = some (.int .i64 0) := HK4.out.cell 1 rfl
  have z2 : w4.cell? ⟨w.heap.size, 2, none⟩ = some (.int .i64 0) := HK4.out.cell 2 rfl
  have z3 : w4.cell? ⟨w.heap.size, 3, none⟩ = some (.int .i64 0) := HK4.out.cell 3 rfl
  have z4 : w4.cell? ⟨w.heap.size, 4, none⟩ = some (.int .i64 0) := HK4.out.cell 4 rfl
  have z5 : w4.cell? ⟨w.heap.size, 5, none⟩ = some (.int .i64 0) := HK4.out.cell 5 rfl
  have z6 : w4.cell? ⟨w.heap.size, 6, none⟩ = some (.int .i64 0) := HK4.out.cell 6 rfl
  have z7 : w4.cell? ⟨w.heap.size, 7, none⟩ = some (.int .i64 0) := HK4.out.cell 7 rfl
  have z8 : w4.cell? ⟨w.heap.size, 8, none⟩ = some (.int .i64 0) := HK4.out.cell 8 rfl
  have z9 : w4.cell? ⟨w.heap.size, 9, none⟩ = some (.int .i64 0) := HK4.out.cell 9 rfl
  have z10 : w4.cell? ⟨w.heap.size, 10, none⟩ = some (.slice none 0 0) := HK4.out.cell 10 rfl
  have z11 : w4.cell? ⟨w.heap.size, 11, none⟩ = some (.slice none 0 0) := HK4.out.cell 11 rfl
  have fr : ∀ i, w4.frozen? ⟨w.heap.size, i, none⟩ = false := fun i => HK4.out.free i
  go_wp2
  try simp only [Exit.inBlock, Exit.then]
  change bodyPost _ _ _ _ _ (set12 w4 w.heap.size (.int .u8 3) (.int .i64 (x0 : Int)) (.int .i64 (x1 : Int)) (.int .i64 (x2 : Int)) (.int .i64 0) (.int .i64 0) (.int .i64 0) (.int .i64 0) (.int .i64 0) (.int .i64 0) (.slice none 0 0) (.slice none 0 0))
  refine bodyPost_ret (results_frame rfl (by rfl) (by rfl) (HK4.out.set12 (.int .u8 3) (.int .i64 (x0 : Int)) (.int .i64 (x1 : Int)) (.int .i64 (x2 : Int)) (.int .i64 0) (.int .i64 0) (.int .i64 0) (.int .i64 0) (.int .i64 0) (.int .i64 0) (.slice none 0 0) (.slice none 0 0))) rfl ?_
  exact ⟨rfl, set12_below HB4.out _ (Nat.le_refl _) (.int .u8 3) (.int .i64 (x0 : Int)) (.int .i64 (x1 : Int)) (.int .i64 (x2 : Int)) (.int .i64 0) (.int .i64 0) (.int .i64 0) (.int .i64 0) (.int .i64 0) (.int .i64 0) (.slice none 0 0) (.slice none 0 0)⟩
end Go.Proofs.YtoijhlnadaipoaaDoor
