/- stream.cloned. -/
import Derived.Test.YtidihfhgnjkmaaaSt2
namespace Go.Proofs.Ytidihfhgnjkmaaa
set_option maxRecDepth 100000
open Go.RowKit Go.Maps Go.Sort Go.Shelf

theorem results_item {w : World} {tmps : Array Value} {g : Nat} {c0 c1 c2 : Value} (h2 : tmps[2]?.getD undef = .pointer (some ⟨g, 0, none⟩)) (k : Bk w g #[c0, c1, c2] 42) : (results Try.f21 tmps).run Try.prog w = .ok (.agg #[c0, c1, c2]) w := by
  have k0 : w.cell? ⟨g, 0, none⟩ = some c0 := k.cell 0 rfl
  have k1 : w.cell? ⟨g, 1, none⟩ = some c1 := k.cell 1 rfl
  have k2 : w.cell? ⟨g, 2, none⟩ = some c2 := k.cell 2 rfl
  simp [results, Try.results21, go_sem, h2, k0, k1, k2]
set_option maxHeartbeats 2000000 in
theorem st_cloned (t f : Int) (ba : Option Addr) (bl bc : Nat) (bs : List Nat) (w : World) (hr : Rd w ba bl bs) (hl : bl ≤ 140737488351232) :
    Calls Try.prog 21 #[.agg #[.int .i64 t, .int .u32 f, .slice ba bl bc]] w fun e w' => ∃ a' c', e = .returned (.agg #[.int .i64 t, .int .u32 f, .slice a' bl c']) ∧ Own w' w.heap.size a' bl c' bs ∧ Below w.heap.size w w' := by
  obtain ⟨W1, HW1⟩ : ∃ W1, Hid (W1 = (w.alloc (.cells #[.int .i64 t, .int .u32 f, .slice ba bl bc] 42)).alloc (.cells #[.int .i64 0, .int .u32 0, .slice none 0 0] 42)) := ⟨_, rfl⟩
  have e1 : (w.alloc (.cells #[.int .i64 t, .int .u32 f, .slice ba bl bc] 42)).heap.size = w.heap.size + 1 := by simp
  have HX1 : Hid (Below w.heap.size w W1) := by (show Below _ _ _); rw [HW1.out]; exact (below_alloc w _).alloc (by omega) _
  have HK0 : Hid (Bk W1 w.heap.size #[.int .i64 t, .int .u32 f, .slice ba bl bc] 42) := by (show Bk _ _ _ _); rw [HW1.out]; exact (Bk.new w _ _).stay (below_alloc _ _)
  have HK1 : Hid (Bk W1 (w.heap.size + 1) #[.int .i64 0, .int .u32 0, .slice none 0 0] 42) := by (show Bk _ _ _ _); rw [HW1.out, ← e1]; exact Bk.new _ _ _
  have HC : Hid (Calls Try.prog 41 #[.slice ba bl bc] W1 fun e w' => ∃ a' c', e = .returned (.slice a' bl c') ∧ Own w' W1.heap.size a' bl c' bs ∧ Below W1.heap.size W1 w') := bytes_Clone ba bl bc bs W1 (hr.below HX1.out) hl
  have q2 : W1.cell? ⟨w.heap.size, 2, none⟩ = some (.slice ba bl bc) := HK0.out.cell 2 rfl
  have HSZ : Hid (W1.heap.size = w.heap.size + 2) := by (show _ = _); rw [HW1.out]; simp
  clear hr e1
  go_enter Try.func21, Try.ntmps21
  go_upto_region 1 with fail
  rw [← HW1.out]
  go_wp2_with fail
  refine HC.out.mono ?_
  rintro e w3 ⟨a', c', rfl, ho, hb3⟩
  have HO : Hid (Own w3 W1.heap.size a' bl c' bs) := ho
  have HB3 : Hid (Below W1.heap.size W1 w3) := hb3
  have HL0 := HK0.out.stay hb3
  have HL1 := HK1.out.stay hb3
  have c0 : w3.cell? ⟨w.heap.size, 0, none⟩ = some (.int .i64 t) := HL0.cell 0 rfl
  have c1 : w3.cell? ⟨w.heap.size, 1, none⟩ = some (.int .u32 f) := HL0.cell 1 rfl
  have c2 : w3.cell? ⟨w.heap.size, 2, none⟩ = some (.slice ba bl bc) := HL0.cell 2 rfl
  have d0 : w3.cell? ⟨w.heap.size + 1, 0, none⟩ = some (.int .i64 0) := HL1.cell 0 rfl
  have d1 : w3.cell? ⟨w.heap.size + 1, 1, none⟩ = some (.int .u32 0) := HL1.cell 1 rfl
  have d2 : w3.cell? ⟨w.heap.size + 1, 2, none⟩ = some (.slice none 0 0) := HL1.cell 2 rfl
  have f2 := HL0.free 2
  have g0 := HL1.free 0
  have g1 := HL1.free 1
  have g2 := HL1.free 2
  have HM := (((HL1.other ⟨w.heap.size, 2, none⟩ (.slice a' bl c') (by show w.heap.size + 1 ≠ w.heap.size; omega)).set 0 (.int .i64 t)).set 1 (.int .u32 f)).set 2 (.slice a' bl c')
  have HMH : Hid (Bk ((((w3.setCell ⟨w.heap.size, 2, none⟩ (.slice a' bl c')).setCell ⟨w.heap.size + 1, 0, none⟩ (.int .i64 t)).setCell ⟨w.heap.size + 1, 1, none⟩ (.int .u32 f)).setCell ⟨w.heap.size + 1, 2, none⟩ (.slice a' bl c')) (w.heap.size + 1) #[.int .i64 t, .int .u32 f, .slice a' bl c'] 42) := HM
  clear HM ho hb3 HL0 HL1 HC HK0 HK1
  go_wp2
  refine bodyPost_ret (results_item (by rfl) HMH.out) rfl ?_
  have hb4 : Below w.heap.size w ((((w3.setCell ⟨w.heap.size, 2, none⟩ (.slice a' bl c')).setCell ⟨w.heap.size + 1, 0, none⟩ (.int .i64 t)).setCell ⟨w.heap.size + 1, 1, none⟩ (.int .u32 f)).setCell ⟨w.heap.size + 1, 2, none⟩ (.slice a' bl c')) := ((((HX1.out.trans (HB3.out.mono HX1.out.size)).setCell (Nat.le_refl _) _).setCell (Nat.le_succ _) _).setCell (Nat.le_succ _) _).setCell (Nat.le_succ _) _
  refine ⟨a', c', rfl, ⟨?_, HO.out.byte⟩, hb4⟩
  have hr0 : World.ownsRow w3 (w.heap.size + 2) 5 1 (.slice a' bl c') bl (vb bs) := by rw [← HSZ.out]; exact HO.out.row
  exact ownsRow_base_a (base := w.heap.size + 2) (ownsRow_setCell_below (ownsRow_setCell_below (ownsRow_setCell_below (ownsRow_setCell_below hr0 (a := ⟨w.heap.size, 2, none⟩) (by show w.heap.size < w.heap.size + 2; omega) _) (a := ⟨w.heap.size + 1, 0, none⟩) (by show w.heap.size + 1 < w.heap.size + 2; omega) _) (a := ⟨w.heap.size + 1, 1, none⟩) (by show w.heap.size + 1 < w.heap.size + 2; omega) _) (a := ⟨w.heap.size + 1, 2, none⟩) (by show w.heap.size + 1 < w.heap.size + 2; omega) _) (by omega)
end Go.Proofs.Ytidihfhgnjkmaaa
