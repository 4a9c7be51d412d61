/- grapevinelaw15.news, live. -/
import Derived.Test.YtidihfhgnjkmaabSt10
import Derived.Lib.SlBytesConst
namespace Go.Proofs.Ytidihfhgnjkmaab
set_option maxRecDepth 100000
open Go.RowKit Go.Maps Go.Sort Go.Shelf

theorem results_news {w : World} {tmps : Array Value} {g : Nat} {c0 c1 c2 c3 c4 c5 c6 c7 : Value} (h0 : tmps[0]?.getD undef = .pointer (some ⟨g, 0, none⟩)) (k : Bk w g #[c0, c1, c2, c3, c4, c5, c6, c7] 26) : (results Try.f22 tmps).run Try.prog w = .ok (.agg #[c0, c1, c2, c3, c4, c5, c6, c7]) w := by
  have k0 : w.cell? ⟨g, 0, none⟩ = some c0 := k.cell 0 rfl
  have k1 : w.cell? ⟨g, 1, none⟩ = some c1 := k.cell 1 rfl
  have k2 : w.cell? ⟨g, 2, none⟩ = some c2 := k.cell 2 rfl
  have k3 : w.cell? ⟨g, 3, none⟩ = some c3 := k.cell 3 rfl
  have k4 : w.cell? ⟨g, 4, none⟩ = some c4 := k.cell 4 rfl
  have k5 : w.cell? ⟨g, 5, none⟩ = some c5 := k.cell 5 rfl
  have k6 : w.cell? ⟨g, 6, none⟩ = some c6 := k.cell 6 rfl
  have k7 : w.cell? ⟨g, 7, none⟩ = some c7 := k.cell 7 rfl
  simp [results, Try.results22, go_sem, h0, k0, k1, k2, k3, k4, k5, k6, k7]
set_option maxHeartbeats 4000000 in
theorem law_news (w : World) : Calls Try.prog 22 #[] w fun e w' => ∃ sa sc ia ic, e = .returned (newsP.val sa 1 sc ia 1 ic) ∧ PcRd w' newsP sa 1 sc ia 1 ic ∧ Below w.heap.size w w' := by
  obtain ⟨W1, HW1⟩ : ∃ W1, Hid (W1 = w.alloc (.cells #[.int .i64 0, .int .i64 0, .int .i64 0, .int .i64 0, .int .i64 0, .int .i64 0, .slice none 0 0, .slice none 0 0] 26)) := ⟨_, rfl⟩
  have HX1 : Hid (Below w.heap.size w W1) := by (show Below _ _ _); rw [HW1.out]; exact below_alloc w _
  have HK1 : Hid (Bk W1 w.heap.size #[.int .i64 0, .int .i64 0, .int .i64 0, .int .i64 0, .int .i64 0, .int .i64 0, .slice none 0 0, .slice none 0 0] 26) := by (show Bk _ _ _ _); rw [HW1.out]; exact Bk.new w _ _
  have e1 : (W1.alloc (.cells #[.int .i64 1, .int .i64 4, .int .i64 2] 62)).heap.size = W1.heap.size + 1 := by simp
  have e2 : ((W1.alloc (.cells #[.int .i64 1, .int .i64 4, .int .i64 2] 62)).alloc (.cells #[.int .u8 97] 5 (1, 2))).heap.size = W1.heap.size + 2 := by simp
  have hcv : (convert 32 32 (.slice (some ⟨W1.heap.size + 1, 0, none⟩) 1 1)).run Try.prog ((W1.alloc (.cells #[.int .i64 1, .int .i64 4, .int .i64 2] 62)).alloc (.cells #[.int .u8 97] 5)) = .ok (.slice (some ⟨W1.heap.size + 1, 0, none⟩) 1 1) ((W1.alloc (.cells #[.int .i64 1, .int .i64 4, .int .i64 2] 62)).alloc (.cells #[.int .u8 97] 5 (1, 2))) := by
    have := Go.Lib.run_convert_bytes_const (P := Try.prog) (W1.alloc (.cells #[.int .i64 1, .int .i64 4, .int .i64 2] 62)) 32 5 #[.int .u8 97] 1 1 Try.underlying32 Try.underlying5
    rw [e1] at this
    exact this
  obtain ⟨W2, HW2⟩ : ∃ W2, Hid (W2 = ((W1.alloc (.cells #[.int .i64 1, .int .i64 4, .int .i64 2] 62)).alloc (.cells #[.int .u8 97] 5 (1, 2))).alloc (.cells #[.int .i64 5, .int .u32 1, .slice (some ⟨W1.heap.size + 1, 0, none⟩) 1 1] 34)) := ⟨_, rfl⟩
  have HX2 : Hid (Below W1.heap.size W1 W2) := by (show Below _ _ _); rw [HW2.out]; exact ((below_alloc W1 _).alloc (by omega) _).alloc (by omega) _
  have HKS : Hid (Bk W2 W1.heap.size #[.int .i64 1, .int .i64 4, .int .i64 2] 62) := by (show Bk _ _ _ _); rw [HW2.out]; exact ((Bk.new W1 _ _).stay (below_alloc _ _)).stay (below_alloc _ _)
  have HKB : Hid (W2.heap[W1.heap.size + 1]? = some (.cells #[.int .u8 97] 5 (1, 2))) := by
    (show _ = _)
    rw [HW2.out, (below_alloc ((W1.alloc (.cells #[.int .i64 1, .int .i64 4, .int .i64 2] 62)).alloc (.cells #[.int .u8 97] 5 (1, 2))) _).block (W1.heap.size + 1) (by omega)]
    have := heap_alloc_new (W1.alloc (.cells #[.int .i64 1, .int .i64 4, .int .i64 2] 62)) (.cells #[.int .u8 97] 5 (1, 2))
    rw [e1] at this
    exact this
  have HKI : Hid (Bk W2 (W1.heap.size + 2) #[.int .i64 5, .int .u32 1, .slice (some ⟨W1.heap.size + 1, 0, none⟩) 1 1] 34) := by
    (show Bk _ _ _ _)
    rw [HW2.out]
    have := Bk.new ((W1.alloc (.cells #[.int .i64 1, .int .i64 4, .int .i64 2] 62)).alloc (.cells #[.int .u8 97] 5 (1, 2))) #[.int .i64 5, .int .u32 1, .slice (some ⟨W1.heap.size + 1, 0, none⟩) 1 1] 34
    rw [e2] at this
    exact this
  have hk2 := HK1.out.stay HX2.out
  have d0 : (((W1.alloc (.cells #[.int .i64 1, .int .i64 4, .int .i64 2] 62)).alloc (.cells #[.int .u8 97] 5 (1, 2))).alloc (.cells #[.int .i64 5, .int .u32 1, .slice (some ⟨W1.heap.size + 1, 0, none⟩) 1 1] 34)).cell? ⟨w.heap.size, 0, none⟩ = some (.int .i64 0) := by rw [← HW2.out]; exact hk2.cell 0 rfl
  have d1 : (((W1.alloc (.cells #[.int .i64 1, .int .i64 4, .int .i64 2] 62)).alloc (.cells #[.int .u8 97] 5 (1, 2))).alloc (.cells #[.int .i64 5, .int .u32 1, .slice (some ⟨W1.heap.size + 1, 0, none⟩) 1 1] 34)).cell? ⟨w.heap.size, 1, none⟩ = some (.int .i64 0) := by rw [← HW2.out]; exact hk2.cell 1 rfl
  have d2 : (((W1.alloc (.cells #[.int .i64 1, .int .i64 4, .int .i64 2] 62)).alloc (.cells #[.int .u8 97] 5 (1, 2))).alloc (.cells #[.int .i64 5, .int .u32 1, .slice (some ⟨W1.heap.size + 1, 0, none⟩) 1 1] 34)).cell? ⟨w.heap.size, 2, none⟩ = some (.int .i64 0) := by rw [← HW2.out]; exact hk2.cell 2 rfl
  have d3 : (((W1.alloc (.cells #[.int .i64 1, .int .i64 4, .int .i64 2] 62)).alloc (.cells #[.int .u8 97] 5 (1, 2))).alloc (.cells #[.int .i64 5, .int .u32 1, .slice (some ⟨W1.heap.size + 1, 0, none⟩) 1 1] 34)).cell? ⟨w.heap.size, 3, none⟩ = some (.int .i64 0) := by rw [← HW2.out]; exact hk2.cell 3 rfl
  have d4 : (((W1.alloc (.cells #[.int .i64 1, .int .i64 4, .int .i64 2] 62)).alloc (.cells #[.int .u8 97] 5 (1, 2))).alloc (.cells #[.int .i64 5, .int .u32 1, .slice (some ⟨W1.heap.size + 1, 0, none⟩) 1 1] 34)).cell? ⟨w.heap.size, 4, none⟩ = some (.int .i64 0) := by rw [← HW2.out]; exact hk2.cell 4 rfl
  have d5 : (((W1.alloc (.cells #[.int .i64 1, .int .i64 4, .int .i64 2] 62)).alloc (.cells #[.int .u8 97] 5 (1, 2))).alloc (.cells #[.int .i64 5, .int .u32 1, .slice (some ⟨W1.heap.size + 1, 0, none⟩) 1 1] 34)).cell? ⟨w.heap.size, 5, none⟩ = some (.int .i64 0) := by rw [← HW2.out]; exact hk2.cell 5 rfl
  have d6 : (((W1.alloc (.cells #[.int .i64 1, .int .i64 4, .int .i64 2] 62)).alloc (.cells #[.int .u8 97] 5 (1, 2))).alloc (.cells #[.int .i64 5, .int .u32 1, .slice (some ⟨W1.heap.size + 1, 0, none⟩) 1 1] 34)).cell? ⟨w.heap.size, 6, none⟩ = some (.slice none 0 0) := by rw [← HW2.out]; exact hk2.cell 6 rfl
  have d7 : (((W1.alloc (.cells #[.int .i64 1, .int .i64 4, .int .i64 2] 62)).alloc (.cells #[.int .u8 97] 5 (1, 2))).alloc (.cells #[.int .i64 5, .int .u32 1, .slice (some ⟨W1.heap.size + 1, 0, none⟩) 1 1] 34)).cell? ⟨w.heap.size, 7, none⟩ = some (.slice none 0 0) := by rw [← HW2.out]; exact hk2.cell 7 rfl
  have f0 : (((W1.alloc (.cells #[.int .i64 1, .int .i64 4, .int .i64 2] 62)).alloc (.cells #[.int .u8 97] 5 (1, 2))).alloc (.cells #[.int .i64 5, .int .u32 1, .slice (some ⟨W1.heap.size + 1, 0, none⟩) 1 1] 34)).frozen? ⟨w.heap.size, 0, none⟩ = false := by rw [← HW2.out]; exact hk2.free 0
  have f1 : (((W1.alloc (.cells #[.int .i64 1, .int .i64 4, .int .i64 2] 62)).alloc (.cells #[.int .u8 97] 5 (1, 2))).alloc (.cells #[.int .i64 5, .int .u32 1, .slice (some ⟨W1.heap.size + 1, 0, none⟩) 1 1] 34)).frozen? ⟨w.heap.size, 1, none⟩ = false := by rw [← HW2.out]; exact hk2.free 1
  have f2 : (((W1.alloc (.cells #[.int .i64 1, .int .i64 4, .int .i64 2] 62)).alloc (.cells #[.int .u8 97] 5 (1, 2))).alloc (.cells #[.int .i64 5, .int .u32 1, .slice (some ⟨W1.heap.size + 1, 0, none⟩) 1 1] 34)).frozen? ⟨w.heap.size, 2, none⟩ = false := by rw [← HW2.out]; exact hk2.free 2
  have f3 : (((W1.alloc (.cells #[.int .i64 1, .int .i64 4, .int .i64 2] 62)).alloc (.cells #[.int .u8 97] 5 (1, 2))).alloc (.cells #[.int .i64 5, .int .u32 1, .slice (some ⟨W1.heap.size + 1, 0, none⟩) 1 1] 34)).frozen? ⟨w.heap.size, 3, none⟩ = false := by rw [← HW2.out]; exact hk2.free 3
  have f4 : (((W1.alloc (.cells #[.int .i64 1, .int .i64 4, .int .i64 2] 62)).alloc (.cells #[.int .u8 97] 5 (1, 2))).alloc (.cells #[.int .i64 5, .int .u32 1, .slice (some ⟨W1.heap.size + 1, 0, none⟩) 1 1] 34)).frozen? ⟨w.heap.size, 4, none⟩ = false := by rw [← HW2.out]; exact hk2.free 4
  have f5 : (((W1.alloc (.cells #[.int .i64 1, .int .i64 4, .int .i64 2] 62)).alloc (.cells #[.int .u8 97] 5 (1, 2))).alloc (.cells #[.int .i64 5, .int .u32 1, .slice (some ⟨W1.heap.size + 1, 0, none⟩) 1 1] 34)).frozen? ⟨w.heap.size, 5, none⟩ = false := by rw [← HW2.out]; exact hk2.free 5
  have f6 : (((W1.alloc (.cells #[.int .i64 1, .int .i64 4, .int .i64 2] 62)).alloc (.cells #[.int .u8 97] 5 (1, 2))).alloc (.cells #[.int .i64 5, .int .u32 1, .slice (some ⟨W1.heap.size + 1, 0, none⟩) 1 1] 34)).frozen? ⟨w.heap.size, 6, none⟩ = false := by rw [← HW2.out]; exact hk2.free 6
  have f7 : (((W1.alloc (.cells #[.int .i64 1, .int .i64 4, .int .i64 2] 62)).alloc (.cells #[.int .u8 97] 5 (1, 2))).alloc (.cells #[.int .i64 5, .int .u32 1, .slice (some ⟨W1.heap.size + 1, 0, none⟩) 1 1] 34)).frozen? ⟨w.heap.size, 7, none⟩ = false := by rw [← HW2.out]; exact hk2.free 7
  obtain ⟨W3, HW3⟩ : ∃ W3, Hid (W3 = ((((((((W2.setCell ⟨w.heap.size, 0, none⟩ (.int .i64 1)).setCell ⟨w.heap.size, 1, none⟩ (.int .i64 0)).setCell ⟨w.heap.size, 2, none⟩ (.int .i64 0)).setCell ⟨w.heap.size, 3, none⟩ (.int .i64 0)).setCell ⟨w.heap.size, 4, none⟩ (.int .i64 1)).setCell ⟨w.heap.size, 5, none⟩ (.int .i64 5)).setCell ⟨w.heap.size, 6, none⟩ (.slice (some ⟨W1.heap.size, 0, none⟩) 1 1)).setCell ⟨w.heap.size, 7, none⟩ (.slice (some ⟨W1.heap.size + 2, 0, none⟩) 1 1))) := ⟨_, rfl⟩
  have HK3 : Hid (Bk W3 w.heap.size #[.int .i64 1, .int .i64 0, .int .i64 0, .int .i64 0, .int .i64 1, .int .i64 5, .slice (some ⟨W1.heap.size, 0, none⟩) 1 1, .slice (some ⟨W1.heap.size + 2, 0, none⟩) 1 1] 26) := by
    (show Bk _ _ _ _)
    rw [HW3.out]
    exact (((((((hk2.set 0 (.int .i64 1)).set 1 (.int .i64 0)).set 2 (.int .i64 0)).set 3 (.int .i64 0)).set 4 (.int .i64 1)).set 5 (.int .i64 5)).set 6 (.slice (some ⟨W1.heap.size, 0, none⟩) 1 1)).set 7 (.slice (some ⟨W1.heap.size + 2, 0, none⟩) 1 1)
  have HB3 : Hid (∀ k, k ≠ w.heap.size → W3.heap[k]? = W2.heap[k]?) := by
    (show ∀ _, _)
    intro k hk
    rw [HW3.out]
    iterate 8 rw [heap_setCell_other _ _ k _ hk]
  have hlt : w.heap.size < W1.heap.size := HK1.out.lt
  have HKS3 : Bk W3 W1.heap.size #[.int .i64 1, .int .i64 4, .int .i64 2] 62 := (HB3.out _ (by omega)).trans HKS.out
  have HKB3 : W3.heap[W1.heap.size + 1]? = some (.cells #[.int .u8 97] 5 (1, 2)) := (HB3.out _ (by omega)).trans HKB.out
  have HKI3 : Bk W3 (W1.heap.size + 2) #[.int .i64 5, .int .u32 1, .slice (some ⟨W1.heap.size + 1, 0, none⟩) 1 1] 34 := (HB3.out _ (by omega)).trans HKI.out
  have HP : Hid (PcRd W3 newsP (some ⟨W1.heap.size, 0, none⟩) 1 1 (some ⟨W1.heap.size + 2, 0, none⟩) 1 1) := by
    (show PcRd _ _ _ _ _ _ _ _)
    refine ⟨(Sps.one (base := 0) (q := ⟨1, 4, 2⟩) HKS3 (Nat.zero_le _)).rd, ⟨rfl, .inr ⟨_, 0, rfl, HKI3.lt, fun i q hi => ?_⟩, fun q hq => ?_⟩, Nat.le_refl _, by decide, Nat.le_refl _, by decide⟩
    · match i, hi with
      | 0, hi =>
        cases hi
        refine ⟨HKI3.cell 0 rfl, HKI3.cell 1 rfl, _, 1, 1, HKI3.cell 2 rfl, ⟨rfl, by decide, .inr ⟨_, 0, rfl, (Array.getElem?_eq_some_iff.1 HKB3).1, fun i hi => ?_⟩⟩, fun h => (by cases h), Nat.le_refl _, by decide⟩
        obtain rfl : i = 0 := by omega
        rw [cell_of_row _ _ _ _ _ _ HKB3]
        rfl
    · rcases List.mem_singleton.1 hq with rfl
      decide
  clear HKS3 HKB3 HKI3 hlt
  have HXX : Hid (Below w.heap.size w W3) := by
    (show Below _ _ _)
    rw [HW3.out]
    exact (((((((((HX1.out.trans (HX2.out.mono HX1.out.size)).setCell (Nat.le_refl _) _).setCell (Nat.le_refl _) _).setCell (Nat.le_refl _) _).setCell (Nat.le_refl _) _).setCell (Nat.le_refl _) _).setCell (Nat.le_refl _) _).setCell (Nat.le_refl _) _).setCell (Nat.le_refl _) _)
  clear hk2
  go_enter Try.func22, Try.ntmps22
  go_upto_region 1 with fail
  rw [← HW1.out]
  clear HK1 HX1 HX2 HKS HKB HKI
  go_wp2
  rw [← HW2.out, ← HW3.out]
  refine bodyPost_ret (results_news (by rfl) HK3.out) rfl ?_
  exact ⟨_, 1, _, 1, rfl, HP.out, HXX.out⟩
end Go.Proofs.Ytidihfhgnjkmaab
