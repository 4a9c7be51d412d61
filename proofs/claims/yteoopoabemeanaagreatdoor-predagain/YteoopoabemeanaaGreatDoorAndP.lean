/- A pack of texts: PrT10 PrT11. -/
import Derived.Test.YteoopoabemeanaaGreatDoorTextP
/- pred.printed of And and Or. -/
namespace Go.Proofs.YteoopoabemeanaaGreatDoor
set_option maxRecDepth 100000
open Go.RowKit

set_option maxHeartbeats 8000000 in
theorem pr_and {w : World} {B : Nat} {v : Value} {l : List (ByteArray × Int)} {t1 t2 : ByteArray} {b1 b2 : Int} (h : Pcs w B v (l ++ [(t1, b1), (t2, b2)])) (hB : B ≤ w.heap.size) (hl : l.length ≤ 1000) (ht1 : t1.size ≤ 1000000) (ht2 : t2.size ≤ 1000000) : OutP w B v (Tm.plain 5) (l ++ [(heldB t1 b1 1 ++ ⟨#[32, 38, 32]⟩ ++ heldB t2 b2 2, 1)]) := by
  have hcx : ∀ (a : Addr) (m : Mode) (W : World) (x y : Nat), (store a (.complex .f64 x y) m).run Tryz.prog W = stored Tryz.prog W a (.complex .f64 x y) m := fun a m W x y => run_store _ _ _ _ _ rfl
  obtain ⟨a, c, rfl⟩ := h.form
  obtain ⟨n, HN⟩ : ∃ n, Hid (l.length = n) := ⟨_, rfl⟩
  have hlen : (l ++ [(t1, b1), (t2, b2)]).length = n + 2 := by rw [List.length_append, HN.out]; rfl
  rw [hlen] at h ⊢
  rw [HN.out] at hl
  obtain ⟨g, rfl, hg, hgl, k0, k1⟩ := h.at_ n (by omega)
  obtain ⟨g', e', _, _, k2, k3⟩ := h.at_ (n + 1) (by omega)
  simp only [Option.some.injEq, Addr.mk.injEq, and_true] at e'
  subst e'
  have hq : (l ++ [(t1, b1), (t2, b2)])[n]'(by omega) = (t1, b1) := by rw [List.getElem_append_right (by rw [HN.out]; omega)]; simp [HN.out]
  have hq2 : (l ++ [(t1, b1), (t2, b2)])[n + 1]'(by omega) = (t2, b2) := by rw [List.getElem_append_right (by rw [HN.out]; omega)]; simp [HN.out]
  rw [hq] at k0 k1
  rw [hq2] at k2 k3
  have HCUT : Hid (Pcs w B (.slice (some ⟨g, 0, none⟩) n c) l) := by
    have := h.cut n (by omega) (by simp)
    rwa [List.take_left' HN.out] at this
  have hcap := h.cap
  have x1 : (n : Int) + 2 - 1 = (n : Int) + 1 := by omega
  have x3 : IntKind.i64.wrap ((n : Int) + 1) = (n : Int) + 1 := by simp [IntKind.wrap, IntKind.bits, IntKind.signed]; omega
  have x4 : IntKind.i64.wrap (n : Int) = (n : Int) := by simp [IntKind.wrap, IntKind.bits, IntKind.signed]; omega
  have g1 : (0 : Int) ≤ (n : Int) := by omega
  have g3 : (n : Int) ≤ (c : Int) := by omega
  have g5 : (n : Int) < (n : Int) + 2 := by omega
  have g6 : (n : Int) + 1 < (n : Int) + 2 := by omega
  have g7 : (0 : Int) ≤ (n : Int) + 1 := by omega
  clear hcap
  obtain ⟨W1, HW1⟩ : ∃ W1, Hid (W1 = w.alloc (.cells #[.int .i64 5, .string ⟨#[]⟩, .int .i64 0, .int .i64 0, .int .i64 0, .string ⟨#[]⟩, .bool false, .complex .f64 0 0, .int .i64 0] 52)) := ⟨_, rfl⟩
  have HX1 : Hid (Below w.heap.size w W1) := by (show Below _ _ _); rw [HW1.out]; exact below_alloc w _
  have HGL : Hid (g < W1.heap.size) := Nat.lt_of_lt_of_le hgl HX1.out.size
  rw [← HX1.out.cell (p := ⟨g, n * 2, none⟩) hgl] at k0
  rw [← HX1.out.cell (p := ⟨g, n * 2 + 1, none⟩) hgl] at k1
  rw [← HX1.out.cell (p := ⟨g, (n + 1) * 2, none⟩) hgl] at k2
  rw [← HX1.out.cell (p := ⟨g, (n + 1) * 2 + 1, none⟩) hgl] at k3
  clear h hlen hq hq2
  unfold OutP Tm.plain Tm.cells Val.zero
  simp only
  go_enter Tryz.func12, Tryz.ntmps12
  go_upto_region 12 with fail
  rw [← HW1.out]
  have HB0 : Hid (Below W1.heap.size W1 W1.drew) := (Below.refl _ _).drew
  have m0 : W1.drew.cell? ⟨g, n * 2, none⟩ = some (.string t1) := (HB0.out.cell (p := ⟨g, n * 2, none⟩) HGL.out).trans k0
  have m1 : W1.drew.cell? ⟨g, n * 2 + 1, none⟩ = some (.int .i64 b1) := (HB0.out.cell (p := ⟨g, n * 2 + 1, none⟩) HGL.out).trans k1
  have m2 : W1.drew.cell? ⟨g, (n + 1) * 2, none⟩ = some (.string t2) := (HB0.out.cell (p := ⟨g, (n + 1) * 2, none⟩) HGL.out).trans k2
  have m3 : W1.drew.cell? ⟨g, (n + 1) * 2 + 1, none⟩ = some (.int .i64 b2) := (HB0.out.cell (p := ⟨g, (n + 1) * 2 + 1, none⟩) HGL.out).trans k3
  have HL9 : Hid ((l ++ [((heldB t1 b1 1 ++ ⟨#[32, 38, 32]⟩ ++ heldB t2 b2 2, 1) : ByteArray × Int)]).length = n + 1) := by (show _ = _); rw [List.length_append, HN.out]; rfl
  go_region_law (first
    | (refine step_append_pc rfl (.tmp 50) (.tmp 61) rfl B (.slice (some ⟨g, 0, none⟩) n c) l rfl HPA.out ⟨w5.heap.size, 0, none⟩ 1 (heldB t1 b1 1 ++ ⟨#[32, 38, 32]⟩ ++ heldB t2 b2 2, 1) rfl HNW.out HLN.out HSZ.out ?_; intro v' w9 hp hgr; have HX9 : Hid (Below B w w9) := (HW.out.mono hB).trans ((Below.refl _ _).grown hgr HSZ.out (fun k hk => (HPA.out.row.lt k hk).1)); have HP9 : Hid (Pcs w9 B v' (l ++ [(heldB t1 b1 1 ++ ⟨#[32, 38, 32]⟩ ++ heldB t2 b2 2, 1)])) := hp; clear hp hgr; obtain ⟨a9, c9, e9⟩ := HP9.out.form; rw [HL9.out] at e9; subst e9)
    | (go_simp; go_at_call 23; refine (joined_w t1 t2 ⟨#[32, 38, 32]⟩ ht1 ht2 (by decide) b1 b2 1 (by decide) _).mono ?_; rintro e w5 ⟨rfl, hb5⟩; have HB5 : Hid (Below w.heap.size w w5) := HX1.out.trans ((HB0.out.trans (hb5.mono HB0.out.size)).mono HX1.out.size); clear hb5; have HW : Hid (Below w.heap.size w (w5.alloc (.cells #[.string (heldB t1 b1 1 ++ ⟨#[32, 38, 32]⟩ ++ heldB t2 b2 2), .int .i64 1] 57))) := HB5.out.alloc HB5.out.size _; have HPA : Hid (Pcs (w5.alloc (.cells #[.string (heldB t1 b1 1 ++ ⟨#[32, 38, 32]⟩ ++ heldB t2 b2 2), .int .i64 1] 57)) B (.slice (some ⟨g, 0, none⟩) n c) l) := HCUT.out.below HW.out; have HNW : Hid (∀ j u, (pcc (heldB t1 b1 1 ++ ⟨#[32, 38, 32]⟩ ++ heldB t2 b2 2, 1)).toList[j]? = some u → (w5.alloc (.cells #[.string (heldB t1 b1 1 ++ ⟨#[32, 38, 32]⟩ ++ heldB t2 b2 2), .int .i64 1] 57)).cell? (Addr.add ⟨w5.heap.size, 0, none⟩ j) = some u) := pcc_told (Blk.new w5 _ _); have HLN : Hid (l.length ≤ 100000) := (by (show _ ≤ _); rw [HN.out]; omega); have HSZ : Hid (B ≤ (w5.alloc (.cells #[.string (heldB t1 b1 1 ++ ⟨#[32, 38, 32]⟩ ++ heldB t2 b2 2), .int .i64 1] 57)).heap.size) := Nat.le_trans hB HW.out.size))
  all_goals (
    go_wp2
    go_ret
    exact ⟨_, rfl, HP9.out, HX9.out⟩)
end Go.Proofs.YteoopoabemeanaaGreatDoor
/- pred.printed of Or. -/
namespace Go.Proofs.YteoopoabemeanaaGreatDoor
set_option maxRecDepth 100000
open Go.RowKit

set_option maxHeartbeats 8000000 in
theorem pr_or {w : World} {B : Nat} {v : Value} {l : List (ByteArray × Int)} {t1 t2 : ByteArray} {b1 b2 : Int} (h : Pcs w B v (l ++ [(t1, b1), (t2, b2)])) (hB : B ≤ w.heap.size) (hl : l.length ≤ 1000) (ht1 : t1.size ≤ 1000000) (ht2 : t2.size ≤ 1000000) : OutP w B v (Tm.plain 6) (l ++ [(heldB t1 b1 0 ++ ⟨#[32, 124, 32]⟩ ++ heldB t2 b2 1, 0)]) := by
  have hcx : ∀ (a : Addr) (m : Mode) (W : World) (x y : Nat), (store a (.complex .f64 x y) m).run Tryz.prog W = stored Tryz.prog W a (.complex .f64 x y) m := fun a m W x y => run_store _ _ _ _ _ rfl
  obtain ⟨a, c, rfl⟩ := h.form
  obtain ⟨n, HN⟩ : ∃ n, Hid (l.length = n) := ⟨_, rfl⟩
  have hlen : (l ++ [(t1, b1), (t2, b2)]).length = n + 2 := by rw [List.length_append, HN.out]; rfl
  rw [hlen] at h ⊢
  rw [HN.out] at hl
  obtain ⟨g, rfl, hg, hgl, k0, k1⟩ := h.at_ n (by omega)
  obtain ⟨g', e', _, _, k2, k3⟩ := h.at_ (n + 1) (by omega)
  simp only [Option.some.injEq, Addr.mk.injEq, and_true] at e'
  subst e'
  have hq : (l ++ [(t1, b1), (t2, b2)])[n]'(by omega) = (t1, b1) := by rw [List.getElem_append_right (by rw [HN.out]; omega)]; simp [HN.out]
  have hq2 : (l ++ [(t1, b1), (t2, b2)])[n + 1]'(by omega) = (t2, b2) := by rw [List.getElem_append_right (by rw [HN.out]; omega)]; simp [HN.out]
  rw [hq] at k0 k1
  rw [hq2] at k2 k3
  have HCUT : Hid (Pcs w B (.slice (some ⟨g, 0, none⟩) n c) l) := by
    have := h.cut n (by omega) (by simp)
    rwa [List.take_left' HN.out] at this
  have hcap := h.cap
  have x1 : (n : Int) + 2 - 1 = (n : Int) + 1 := by omega
  have x3 : IntKind.i64.wrap ((n : Int) + 1) = (n : Int) + 1 := by simp [IntKind.wrap, IntKind.bits, IntKind.signed]; omega
  have x4 : IntKind.i64.wrap (n : Int) = (n : Int) := by simp [IntKind.wrap, IntKind.bits, IntKind.signed]; omega
  have g1 : (0 : Int) ≤ (n : Int) := by omega
  have g3 : (n : Int) ≤ (c : Int) := by omega
  have g5 : (n : Int) < (n : Int) + 2 := by omega
  have g6 : (n : Int) + 1 < (n : Int) + 2 := by omega
  have g7 : (0 : Int) ≤ (n : Int) + 1 := by omega
  clear hcap
  obtain ⟨W1, HW1⟩ : ∃ W1, Hid (W1 = w.alloc (.cells #[.int .i64 6, .string ⟨#[]⟩, .int .i64 0, .int .i64 0, .int .i64 0, .string ⟨#[]⟩, .bool false, .complex .f64 0 0, .int .i64 0] 52)) := ⟨_, rfl⟩
  have HX1 : Hid (Below w.heap.size w W1) := by (show Below _ _ _); rw [HW1.out]; exact below_alloc w _
  have HGL : Hid (g < W1.heap.size) := Nat.lt_of_lt_of_le hgl HX1.out.size
  rw [← HX1.out.cell (p := ⟨g, n * 2, none⟩) hgl] at k0
  rw [← HX1.out.cell (p := ⟨g, n * 2 + 1, none⟩) hgl] at k1
  rw [← HX1.out.cell (p := ⟨g, (n + 1) * 2, none⟩) hgl] at k2
  rw [← HX1.out.cell (p := ⟨g, (n + 1) * 2 + 1, none⟩) hgl] at k3
  clear h hlen hq hq2
  unfold OutP Tm.plain Tm.cells Val.zero
  simp only
  go_enter Tryz.func12, Tryz.ntmps12
  go_upto_region 13 with fail
  rw [← HW1.out]
  have HB0 : Hid (Below W1.heap.size W1 W1.drew) := (Below.refl _ _).drew
  have m0 : W1.drew.cell? ⟨g, n * 2, none⟩ = some (.string t1) := (HB0.out.cell (p := ⟨g, n * 2, none⟩) HGL.out).trans k0
  have m1 : W1.drew.cell? ⟨g, n * 2 + 1, none⟩ = some (.int .i64 b1) := (HB0.out.cell (p := ⟨g, n * 2 + 1, none⟩) HGL.out).trans k1
  have m2 : W1.drew.cell? ⟨g, (n + 1) * 2, none⟩ = some (.string t2) := (HB0.out.cell (p := ⟨g, (n + 1) * 2, none⟩) HGL.out).trans k2
  have m3 : W1.drew.cell? ⟨g, (n + 1) * 2 + 1, none⟩ = some (.int .i64 b2) := (HB0.out.cell (p := ⟨g, (n + 1) * 2 + 1, none⟩) HGL.out).trans k3
  have HL9 : Hid ((l ++ [((heldB t1 b1 0 ++ ⟨#[32, 124, 32]⟩ ++ heldB t2 b2 1, 0) : ByteArray × Int)]).length = n + 1) := by (show _ = _); rw [List.length_append, HN.out]; rfl
  go_region_law (first
    | (refine step_append_pc rfl (.tmp 66) (.tmp 77) rfl B (.slice (some ⟨g, 0, none⟩) n c) l rfl HPA.out ⟨w5.heap.size, 0, none⟩ 1 (heldB t1 b1 0 ++ ⟨#[32, 124, 32]⟩ ++ heldB t2 b2 1, 0) rfl HNW.out HLN.out HSZ.out ?_; intro v' w9 hp hgr; have HX9 : Hid (Below B w w9) := (HW.out.mono hB).trans ((Below.refl _ _).grown hgr HSZ.out (fun k hk => (HPA.out.row.lt k hk).1)); have HP9 : Hid (Pcs w9 B v' (l ++ [(heldB t1 b1 0 ++ ⟨#[32, 124, 32]⟩ ++ heldB t2 b2 1, 0)])) := hp; clear hp hgr; obtain ⟨a9, c9, e9⟩ := HP9.out.form; rw [HL9.out] at e9; subst e9)
    | (go_simp; go_at_call 23; refine (joined_w t1 t2 ⟨#[32, 124, 32]⟩ ht1 ht2 (by decide) b1 b2 0 (by decide) _).mono ?_; rintro e w5 ⟨rfl, hb5⟩; have HB5 : Hid (Below w.heap.size w w5) := HX1.out.trans ((HB0.out.trans (hb5.mono HB0.out.size)).mono HX1.out.size); clear hb5; have HW : Hid (Below w.heap.size w (w5.alloc (.cells #[.string (heldB t1 b1 0 ++ ⟨#[32, 124, 32]⟩ ++ heldB t2 b2 1), .int .i64 0] 57))) := HB5.out.alloc HB5.out.size _; have HPA : Hid (Pcs (w5.alloc (.cells #[.string (heldB t1 b1 0 ++ ⟨#[32, 124, 32]⟩ ++ heldB t2 b2 1), .int .i64 0] 57)) B (.slice (some ⟨g, 0, none⟩) n c) l) := HCUT.out.below HW.out; have HNW : Hid (∀ j u, (pcc (heldB t1 b1 0 ++ ⟨#[32, 124, 32]⟩ ++ heldB t2 b2 1, 0)).toList[j]? = some u → (w5.alloc (.cells #[.string (heldB t1 b1 0 ++ ⟨#[32, 124, 32]⟩ ++ heldB t2 b2 1), .int .i64 0] 57)).cell? (Addr.add ⟨w5.heap.size, 0, none⟩ j) = some u) := pcc_told (Blk.new w5 _ _); have HLN : Hid (l.length ≤ 100000) := (by (show _ ≤ _); rw [HN.out]; omega); have HSZ : Hid (B ≤ (w5.alloc (.cells #[.string (heldB t1 b1 0 ++ ⟨#[32, 124, 32]⟩ ++ heldB t2 b2 1), .int .i64 0] 57)).heap.size) := Nat.le_trans hB HW.out.size))
  all_goals (
    go_wp2
    go_ret
    exact ⟨_, rfl, HP9.out, HX9.out⟩)
end Go.Proofs.YteoopoabemeanaaGreatDoor
