/- A pack of texts: St11 St12. -/
import Derived.Test.YtidihfhgnjkmaaaSt10
import Derived.Lib.SlBytesConst
/- grapevinelaw15.news, live. -/
namespace Go.Proofs.Ytidihfhgnjkmaaa
set_option maxRecDepth 100000
open Go.RowKit Go.Maps Go.Sort Go.Shelf

theorem results_news {w : World} {tmps : Array Value} {g : Nat} {c0 c1 c2 c3 c4 c5 c6 c7 : Value} (h0 : tmps[0]?.getD undef = .pointer (some ⟨g, 0, none⟩)) (k : Bk w g #[c0, c1, c2, c3, c4, c5, c6, c7] 33) : (results Try.f22 tmps).run Try.prog w = .ok (.agg #[c0, c1, c2, c3, c4, c5, c6, c7]) w := by
  have k0 : w.cell? ⟨g, 0, none⟩ = some c0 := k.cell 0 rfl
  have k1 : w.cell? ⟨g, 1, none⟩ = some c1 := k.cell 1 rfl
  have k2 : w.cell? ⟨g, 2, none⟩ = some c2 := k.cell 2 rfl
  have k3 : w.cell? ⟨g, 3, none⟩ = some c3 := k.cell 3 rfl
  have k4 : w.cell? ⟨g, 4, none⟩ = some c4 := k.cell 4 rfl
  have k5 : w.cell? ⟨g, 5, none⟩ = some c5 := k.cell 5 rfl
  have k6 : w.cell? ⟨g, 6, none⟩ = some c6 := k.cell 6 rfl
  have k7 : w.cell? ⟨g, 7, none⟩ = some c7 := k.cell 7 rfl
  simp [results, Try.results22, go_sem, h0, k0, k1, k2, k3, k4, k5, k6, k7]
set_option maxHeartbeats 4000000 in
theorem law_news (w : World) : Calls Try.prog 22 #[] w fun e w' => ∃ sa sc ia ic, e = .returned (newsP.val sa 1 sc ia 1 ic) ∧ PcRd w' newsP sa 1 sc ia 1 ic ∧ Below w.heap.size w w' := by
  obtain ⟨W1, HW1⟩ : ∃ W1, Hid (W1 = w.alloc (.cells #[.int .i64 0, .int .i64 0, .int .i64 0, .int .i64 0, .int .i64 0, .int .i64 0, .slice none 0 0, .slice none 0 0] 33)) := ⟨_, rfl⟩
  have HX1 : Hid (Below w.heap.size w W1) := by (show Below _ _ _); rw [HW1.out]; exact below_alloc w _
  have HK1 : Hid (Bk W1 w.heap.size #[.int .i64 0, .int .i64 0, .int .i64 0, .int .i64 0, .int .i64 0, .int .i64 0, .slice none 0 0, .slice none 0 0] 33) := by (show Bk _ _ _ _); rw [HW1.out]; exact Bk.new w _ _
  have e1 : (W1.alloc (.cells #[.int .i64 1, .int .i64 4, .int .i64 2] 38)).heap.size = W1.heap.size + 1 := by simp
  have e2 : ((W1.alloc (.cells #[.int .i64 1, .int .i64 4, .int .i64 2] 38)).alloc (.cells #[.int .u8 97] 5 (1, 2))).heap.size = W1.heap.size + 2 := by simp
  have hcv : (convert 40 40 (.slice (some ⟨W1.heap.size + 1, 0, none⟩) 1 1)).run Try.prog ((W1.alloc (.cells #[.int .i64 1, .int .i64 4, .int .i64 2] 38)).alloc (.cells #[.int .u8 97] 5)) = .ok (.slice (some ⟨W1.heap.size + 1, 0, none⟩) 1 1) ((W1.alloc (.cells #[.int .i64 1, .int .i64 4, .int .i64 2] 38)).alloc (.cells #[.int .u8 97] 5 (1, 2))) := by
    have := Go.Lib.run_convert_bytes_const (P := Try.prog) (W1.alloc (.cells #[.int .i64 1, .int .i64 4, .int .i64 2] 38)) 40 5 #[.int .u8 97] 1 1 Try.underlying40 Try.underlying5
    rw [e1] at this
    exact this
  obtain ⟨W2, HW2⟩ : ∃ W2, Hid (W2 = ((W1.alloc (.cells #[.int .i64 1, .int .i64 4, .int .i64 2] 38)).alloc (.cells #[.int .u8 97] 5 (1, 2))).alloc (.cells #[.int .i64 5, .int .u32 1, .slice (some ⟨W1.heap.size + 1, 0, none⟩) 1 1] 42)) := ⟨_, rfl⟩
  have HX2 : Hid (Below W1.heap.size W1 W2) := by (show Below _ _ _); rw [HW2.out]; exact ((below_alloc W1 _).alloc (by omega) _).alloc (by omega) _
  have HKS : Hid (Bk W2 W1.heap.size #[.int .i64 1, .int .i64 4, .int .i64 2] 38) := by (show Bk _ _ _ _); rw [HW2.out]; exact ((Bk.new W1 _ _).stay (below_alloc _ _)).stay (below_alloc _ _)
  have HKB : Hid (W2.heap[W1.heap.size + 1]? = some (.cells #[.int .u8 97] 5 (1, 2))) := by
    (show _ = _)
    rw [HW2.out, (below_alloc ((W1.alloc (.cells #[.int .i64 1, .int .i64 4, .int .i64 2] 38)).alloc (.cells #[.int .u8 97] 5 (1, 2))) _).block (W1.heap.size + 1) (by omega)]
    have := heap_alloc_new (W1.alloc (.cells #[.int .i64 1, .int .i64 4, .int .i64 2] 38)) (.cells #[.int .u8 97] 5 (1, 2))
    rw [e1] at this
    exact this
  have HKI : Hid (Bk W2 (W1.heap.size + 2) #[.int .i64 5, .int .u32 1, .slice (some ⟨W1.heap.size + 1, 0, none⟩) 1 1] 42) := by
    (show Bk _ _ _ _)
    rw [HW2.out]
    have := Bk.new ((W1.alloc (.cells #[.int .i64 1, .int .i64 4, .int .i64 2] 38)).alloc (.cells #[.int .u8 97] 5 (1, 2))) #[.int .i64 5, .int .u32 1, .slice (some ⟨W1.heap.size + 1, 0, none⟩) 1 1] 42
    rw [e2] at this
    exact this
  have hk2 := HK1.out.stay HX2.out
  have d0 : (((W1.alloc (.cells #[.int .i64 1, .int .i64 4, .int .i64 2] 38)).alloc (.cells #[.int .u8 97] 5 (1, 2))).alloc (.cells #[.int .i64 5, .int .u32 1, .slice (some ⟨W1.heap.size + 1, 0, none⟩) 1 1] 42)).cell? ⟨w.heap.size, 0, none⟩ = some (.int .i64 0) := by rw [← HW2.out]; exact hk2.cell 0 rfl
  have d1 : (((W1.alloc (.cells #[.int .i64 1, .int .i64 4, .int .i64 2] 38)).alloc (.cells #[.int .u8 97] 5 (1, 2))).alloc (.cells #[.int .i64 5, .int .u32 1, .slice (some ⟨W1.heap.size + 1, 0, none⟩) 1 1] 42)).cell? ⟨w.heap.size, 1, none⟩ = some (.int .i64 0) := by rw [← HW2.out]; exact hk2.cell 1 rfl
  have d2 : (((W1.alloc (.cells #[.int .i64 1, .int .i64 4, .int .i64 2] 38)).alloc (.cells #[.int .u8 97] 5 (1, 2))).alloc (.cells #[.int .i64 5, .int .u32 1, .slice (some ⟨W1.heap.size + 1, 0, none⟩) 1 1] 42)).cell? ⟨w.heap.size, 2, none⟩ = some (.int .i64 0) := by rw [← HW2.out]; exact hk2.cell 2 rfl
  have d3 : (((W1.alloc (.cells #[.int .i64 1, .int .i64 4, .int .i64 2] 38)).alloc (.cells #[.int .u8 97] 5 (1, 2))).alloc (.cells #[.int .i64 5, .int .u32 1, .slice (some ⟨W1.heap.size + 1, 0, none⟩) 1 1] 42)).cell? ⟨w.heap.size, 3, none⟩ = some (.int .i64 0) := by rw [← HW2.out]; exact hk2.cell 3 rfl
  have d4 : (((W1.alloc (.cells #[.int .i64 1, .int .i64 4, .int .i64 2] 38)).alloc (.cells #[.int .u8 97] 5 (1, 2))).alloc (.cells #[.int .i64 5, .int .u32 1, .slice (some ⟨W1.heap.size + 1, 0, none⟩) 1 1] 42)).cell? ⟨w.heap.size, 4, none⟩ = some (.int .i64 0) := by rw [← HW2.out]; exact hk2.cell 4 rfl
  have d5 : (((W1.alloc (.cells #[.int .i64 1, .int .i64 4, .int .i64 2] 38)).alloc (.cells #[.int .u8 97] 5 (1, 2))).alloc (.cells #[.int .i64 5, .int .u32 1, .slice (some ⟨W1.heap.size + 1, 0, none⟩) 1 1] 42)).cell? ⟨w.heap.size, 5, none⟩ = some (.int .i64 0) := by rw [← HW2.out]; exact hk2.cell 5 rfl
  have d6 : (((W1.alloc (.cells #[.int .i64 1, .int .i64 4, .int .i64 2] 38)).alloc (.cells #[.int .u8 97] 5 (1, 2))).alloc (.cells #[.int .i64 5, .int .u32 1, .slice (some ⟨W1.heap.size + 1, 0, none⟩) 1 1] 42)).cell? ⟨w.heap.size, 6, none⟩ = some (.slice none 0 0) := by rw [← HW2.out]; exact hk2.cell 6 rfl
  have d7 : (((W1.alloc (.cells #[.int .i64 1, .int .i64 4, .int .i64 2] 38)).alloc (.cells #[.int .u8 97] 5 (1, 2))).alloc (.cells #[.int .i64 5, .int .u32 1, .slice (some ⟨W1.heap.size + 1, 0, none⟩) 1 1] 42)).cell? ⟨w.heap.size, 7, none⟩ = some (.slice none 0 0) := by rw [← HW2.out]; exact hk2.cell 7 rfl
  have f0 : (((W1.alloc (.cells #[.int .i64 1, .int .i64 4, .int .i64 2] 38)).alloc (.cells #[.int .u8 97] 5 (1, 2))).alloc (.cells #[.int .i64 5, .int .u32 1, .slice (some ⟨W1.heap.size + 1, 0, none⟩) 1 1] 42)).frozen? ⟨w.heap.size, 0, none⟩ = false := by rw [← HW2.out]; exact hk2.free 0
  have f1 : (((W1.alloc (.cells #[.int .i64 1, .int .i64 4, .int .i64 2] 38)).alloc (.cells #[.int .u8 97] 5 (1, 2))).alloc (.cells #[.int .i64 5, .int .u32 1, .slice (some ⟨W1.heap.size + 1, 0, none⟩) 1 1] 42)).frozen? ⟨w.heap.size, 1, none⟩ = false := by rw [← HW2.out]; exact hk2.free 1
  have f2 : (((W1.alloc (.cells #[.int .i64 1, .int .i64 4, .int .i64 2] 38)).alloc (.cells #[.int .u8 97] 5 (1, 2))).alloc (.cells #[.int .i64 5, .int .u32 1, .slice (some ⟨W1.heap.size + 1, 0, none⟩) 1 1] 42)).frozen? ⟨w.heap.size, 2, none⟩ = false := by rw [← HW2.out]; exact hk2.free 2
  have f3 : (((W1.alloc (.cells #[.int .i64 1, .int .i64 4, .int .i64 2] 38)).alloc (.cells #[.int .u8 97] 5 (1, 2))).alloc (.cells #[.int .i64 5, .int .u32 1, .slice (some ⟨W1.heap.size + 1, 0, none⟩) 1 1] 42)).frozen? ⟨w.heap.size, 3, none⟩ = false := by rw [← HW2.out]; exact hk2.free 3
  have f4 : (((W1.alloc (.cells #[.int .i64 1, .int .i64 4, .int .i64 2] 38)).alloc (.cells #[.int .u8 97] 5 (1, 2))).alloc (.cells #[.int .i64 5, .int .u32 1, .slice (some ⟨W1.heap.size + 1, 0, none⟩) 1 1] 42)).frozen? ⟨w.heap.size, 4, none⟩ = false := by rw [← HW2.out]; exact hk2.free 4
  have f5 : (((W1.alloc (.cells #[.int .i64 1, .int .i64 4, .int .i64 2] 38)).alloc (.cells #[.int .u8 97] 5 (1, 2))).alloc (.cells #[.int .i64 5, .int .u32 1, .slice (some ⟨W1.heap.size + 1, 0, none⟩) 1 1] 42)).frozen? ⟨w.heap.size, 5, none⟩ = false := by rw [← HW2.out]; exact hk2.free 5
  have f6 : (((W1.alloc (.cells #[.int .i64 1, .int .i64 4, .int .i64 2] 38)).alloc (.cells #[.int .u8 97] 5 (1, 2))).alloc (.cells #[.int .i64 5, .int .u32 1, .slice (some ⟨W1.heap.size + 1, 0, none⟩) 1 1] 42)).frozen? ⟨w.heap.size, 6, none⟩ = false := by rw [← HW2.out]; exact hk2.free 6
  have f7 : (((W1.alloc (.cells #[.int .i64 1, .int .i64 4, .int .i64 2] 38)).alloc (.cells #[.int .u8 97] 5 (1, 2))).alloc (.cells #[.int .i64 5, .int .u32 1, .slice (some ⟨W1.heap.size + 1, 0, none⟩) 1 1] 42)).frozen? ⟨w.heap.size, 7, none⟩ = false := by rw [← HW2.out]; exact hk2.free 7
  obtain ⟨W3, HW3⟩ : ∃ W3, Hid (W3 = ((((((((W2.setCell ⟨w.heap.size, 0, none⟩ (.int .i64 1)).setCell ⟨w.heap.size, 1, none⟩ (.int .i64 0)).setCell ⟨w.heap.size, 2, none⟩ (.int .i64 0)).setCell ⟨w.heap.size, 3, none⟩ (.int .i64 0)).setCell ⟨w.heap.size, 4, none⟩ (.int .i64 1)).setCell ⟨w.heap.size, 5, none⟩ (.int .i64 5)).setCell ⟨w.heap.size, 6, none⟩ (.slice (some ⟨W1.heap.size, 0, none⟩) 1 1)).setCell ⟨w.heap.size, 7, none⟩ (.slice (some ⟨W1.heap.size + 2, 0, none⟩) 1 1))) := ⟨_, rfl⟩
  have HK3 : Hid (Bk W3 w.heap.size #[.int .i64 1, .int .i64 0, .int .i64 0, .int .i64 0, .int .i64 1, .int .i64 5, .slice (some ⟨W1.heap.size, 0, none⟩) 1 1, .slice (some ⟨W1.heap.size + 2, 0, none⟩) 1 1] 33) := by
    (show Bk _ _ _ _)
    rw [HW3.out]
    exact (((((((hk2.set 0 (.int .i64 1)).set 1 (.int .i64 0)).set 2 (.int .i64 0)).set 3 (.int .i64 0)).set 4 (.int .i64 1)).set 5 (.int .i64 5)).set 6 (.slice (some ⟨W1.heap.size, 0, none⟩) 1 1)).set 7 (.slice (some ⟨W1.heap.size + 2, 0, none⟩) 1 1)
  have HB3 : Hid (∀ k, k ≠ w.heap.size → W3.heap[k]? = W2.heap[k]?) := by
    (show ∀ _, _)
    intro k hk
    rw [HW3.out]
    iterate 8 rw [heap_setCell_other _ _ k _ hk]
  have hlt : w.heap.size < W1.heap.size := HK1.out.lt
  have HKS3 : Bk W3 W1.heap.size #[.int .i64 1, .int .i64 4, .int .i64 2] 38 := (HB3.out _ (by omega)).trans HKS.out
  have HKB3 : W3.heap[W1.heap.size + 1]? = some (.cells #[.int .u8 97] 5 (1, 2)) := (HB3.out _ (by omega)).trans HKB.out
  have HKI3 : Bk W3 (W1.heap.size + 2) #[.int .i64 5, .int .u32 1, .slice (some ⟨W1.heap.size + 1, 0, none⟩) 1 1] 42 := (HB3.out _ (by omega)).trans HKI.out
  have HP : Hid (PcRd W3 newsP (some ⟨W1.heap.size, 0, none⟩) 1 1 (some ⟨W1.heap.size + 2, 0, none⟩) 1 1) := by
    (show PcRd _ _ _ _ _ _ _ _)
    refine ⟨(Sps.one (base := 0) (q := ⟨1, 4, 2⟩) HKS3 (Nat.zero_le _)).rd, ⟨rfl, .inr ⟨_, 0, rfl, HKI3.lt, fun i q hi => ?_⟩, fun q hq => ?_⟩, Nat.le_refl _, by decide, Nat.le_refl _, by decide⟩
    · match i, hi with
      | 0, hi =>
        cases hi
        refine ⟨HKI3.cell 0 rfl, HKI3.cell 1 rfl, _, 1, 1, HKI3.cell 2 rfl, ⟨rfl, by decide, .inr ⟨_, 0, rfl, (Array.getElem?_eq_some_iff.1 HKB3).1, fun i hi => ?_⟩⟩, fun h => (by cases h), Nat.le_refl _, by decide⟩
        obtain rfl : i = 0 := by omega
        rw [cell_of_row _ _ _ _ _ _ HKB3]
        rfl
    · rcases List.mem_singleton.1 hq with rfl
      decide
  clear HKS3 HKB3 HKI3 hlt
  have HXX : Hid (Below w.heap.size w W3) := by
    (show Below _ _ _)
    rw [HW3.out]
    exact (((((((((HX1.out.trans (HX2.out.mono HX1.out.size)).setCell (Nat.le_refl _) _).setCell (Nat.le_refl _) _).setCell (Nat.le_refl _) _).setCell (Nat.le_refl _) _).setCell (Nat.le_refl _) _).setCell (Nat.le_refl _) _).setCell (Nat.le_refl _) _).setCell (Nat.le_refl _) _)
  clear hk2
  go_enter Try.func22, Try.ntmps22
  go_upto_region 1 with fail
  rw [← HW1.out]
  clear HK1 HX1 HX2 HKS HKB HKI
  go_wp2
  rw [← HW2.out, ← HW3.out]
  refine bodyPost_ret (results_news (by rfl) HK3.out) rfl ?_
  exact ⟨_, 1, _, 1, rfl, HP.out, HXX.out⟩
end Go.Proofs.Ytidihfhgnjkmaaa
/- grapevinelaw15.live; the answers of a nil stream. -/
namespace Go.Proofs.Ytidihfhgnjkmaaa
set_option maxRecDepth 100000
open Go.RowKit Go.Maps Go.Sort Go.Shelf

set_option maxHeartbeats 4000000 in
theorem law_live15 (w : World) : Calls Try.prog 11 #[] w fun e w' => e = .returned (.bool true) ∧ Below w.heap.size w w' := by
  go_enter Try.func11, Try.ntmps11
  go_wp2_with fail
  refine (st_New w).mono ?_
  rintro e w1 ⟨s, m, rfl, hs1, ⟨z1, z2⟩, hb1⟩
  have HS1 : Hid (Stm w1 s m none 0 0 [] []) := hs1
  have HB1 : Hid (Below w.heap.size w w1) := hb1
  clear hs1 hb1
  go_wp2_with fail
  refine (law_news w1).mono ?_
  rintro e w2 ⟨sa, sc, ia, ic, rfl, hp2, hb2⟩
  have HP2 : Hid (PcRd w2 newsP sa 1 sc ia 1 ic) := hp2
  have HS2 : Hid (Stm w2 s m none 0 0 [] []) := HS1.out.stay hb2
  have HB2 : Hid (Below w.heap.size w w2) := HB1.out.trans (hb2.mono HB1.out.size)
  clear hp2 hb2 HS1 HB1
  go_wp2_with fail
  refine (st_Learn_news HS2.out HP2.out).mono ?_
  rintro e w3 ⟨rfl, a, n, c, ba, bc, hs3, ho3, ht3⟩
  have HS3 : Hid (Stm w3 s m a n c news5 [(5, .agg #[.int .i64 5, .int .u32 1, .slice ba 1 bc])]) := hs3
  have HR3 : Hid (Rd w3 ba 1 [97]) := ho3.rd
  have HB3 : Hid (Below w.heap.size w w3) := Two.below HB2.out ht3 z1 z2 HB2.out.size
  clear hs3 ho3 ht3 HS2 HP2 HB2
  go_wp2_with fail
  refine (st_Next_1 HS3.out HR3.out).mono ?_
  rintro e w4 ⟨ba4, bc4, rfl, ho4, hb4⟩
  obtain ⟨W4, HW4⟩ : ∃ W4, Hid (W4 = w4.alloc (.cells #[.int .i64 1, .int .i64 5, .int .i64 5, .int .i64 5, .int .u32 1, .slice ba4 1 bc4] 61)) := ⟨_, rfl⟩
  have HX4 : Hid (Below w4.heap.size w4 W4) := by (show Below _ _ _); rw [HW4.out]; exact below_alloc w4 _
  have HK4 : Hid (Bk W4 w4.heap.size #[.int .i64 1, .int .i64 5, .int .i64 5, .int .i64 5, .int .u32 1, .slice ba4 1 bc4] 61) := by (show Bk _ _ _ _); rw [HW4.out]; exact Bk.new w4 _ _
  have HS4 : Hid (Stm W4 s m a n c news5 [(5, .agg #[.int .i64 5, .int .u32 1, .slice ba 1 bc])]) := (HS3.out.stay hb4).stay HX4.out
  have HR4 : Hid (Rd W4 ba 1 [97]) := (HR3.out.below hb4).below HX4.out
  have HQ4 : Hid (Rd W4 ba4 1 [97]) := ho4.rd.below HX4.out
  have HB4 : Hid (Below w.heap.size w W4) := (HB3.out.trans (hb4.mono HB3.out.size)).trans (HX4.out.mono (Nat.le_trans HB3.out.size hb4.size))
  clear ho4 hb4 HS3 HR3 HB3
  go_wp2_with fail
  rw [← HW4.out]
  refine (st_Next_2 HS4.out HR4.out).mono ?_
  rintro e w5 ⟨rfl, hb5⟩
  obtain ⟨W5, HW5⟩ : ∃ W5, Hid (W5 = w5.alloc (.cells #[.int .i64 0, .int .i64 0, .int .i64 5, .int .i64 0, .int .u32 0, .slice none 0 0] 61)) := ⟨_, rfl⟩
  have HX5 : Hid (Below w5.heap.size w5 W5) := by (show Below _ _ _); rw [HW5.out]; exact below_alloc w5 _
  have hb45 : Below W4.heap.size W4 W5 := hb5.trans (HX5.out.mono hb5.size)
  have HB5 : Hid (Below w.heap.size w W5) := HB4.out.trans (hb45.mono HB4.out.size)
  have hk5 := HK4.out.stay hb45
  have hy5 : Bk W5 w5.heap.size #[.int .i64 0, .int .i64 0, .int .i64 5, .int .i64 0, .int .u32 0, .slice none 0 0] 61 := by rw [HW5.out]; exact Bk.new w5 _ _
  have c0 : W5.cell? ⟨w4.heap.size, 0, none⟩ = some (.int .i64 1) := hk5.cell 0 rfl
  have c1 : W5.cell? ⟨w4.heap.size, 1, none⟩ = some (.int .i64 5) := hk5.cell 1 rfl
  have c5 : W5.cell? ⟨w4.heap.size, 5, none⟩ = some (.slice ba4 1 bc4) := hk5.cell 5 rfl
  have y0 : W5.cell? ⟨w5.heap.size, 0, none⟩ = some (.int .i64 0) := hy5.cell 0 rfl
  have y2 : W5.cell? ⟨w5.heap.size, 2, none⟩ = some (.int .i64 5) := hy5.cell 2 rfl
  have hcv : (convert 40 9 (.slice ba4 1 bc4)).run Try.prog W5 = .ok (.string ⟨#[97]⟩) W5 := by
    have := conv_rd (HQ4.out.below hb45) bc4
    exact this
  clear hb5 hb45 hk5 hy5 HS4 HR4 HQ4 HK4 HX4
  go_upto_region 5 with fail
  rw [← HW5.out]
  go_wp2
  go_ret
  exact ⟨rfl, HB5.out⟩
/-! A nil stream. -/
theorem nil_Learn (w : World) (p : Pc) (sa : Option Addr) (sn sc : Nat) (ia : Option Addr) (im ic : Nat) : Calls Try.prog 6 #[.pointer none, p.val sa sn sc ia im ic] w fun e w' => e = .returned (.tuple #[.bool false, .int .i64 1]) ∧ Below w.heap.size w w' := by
  obtain ⟨pk, pp, ps, pn, pf, pt, pl, pi⟩ := p
  unfold Pc.val
  simp only
  go_enter Try.func6, Try.ntmps6
  go_wp2
  go_ret2
  exact ⟨rfl, below_alloc w _⟩
theorem nil_Map (w : World) : Calls Try.prog 8 #[.pointer none] w fun e w' => e = .returned (.slice none 0 0) ∧ w' = w := by
  go_enter Try.func8, Try.ntmps8
  go_wp2
  go_ret
  exact ⟨rfl, rfl⟩
theorem nil_Fork (w : World) : Calls Try.prog 15 #[.pointer none] w fun e w' => e = .returned (.pointer none) ∧ w' = w := by
  go_enter Try.func15, Try.ntmps15
  go_wp2
  go_ret
  exact ⟨rfl, rfl⟩
end Go.Proofs.Ytidihfhgnjkmaaa
