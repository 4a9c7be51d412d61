/- Stream.keep, where an item is kept already, and where none may be. -/
import Derived.Test.YtidihfhgnjkmaaaSt6
import Derived.Test.YtidihfhgnjkmaaaSt8
namespace Go.Proofs.Ytidihfhgnjkmaaa
set_option maxRecDepth 100000
open Go.RowKit Go.Maps Go.Sort Go.Shelf

set_option maxHeartbeats 8000000 in
theorem st_keep_2 {w : World} {s m : Nat} {a : Option Addr} {n c : Nat} {l : List Sp} {X : List (Int × Value)} (h : Stm w s m a n c l X) {t f : Int} {ba : Option Addr} {bl bc : Nat} (hat : 2 ≤ atS l t) :
    Calls Try.prog 17 #[.pointer (some ⟨s, 0, none⟩), .agg #[.int .i64 t, .int .u32 f, .slice ba bl bc]] w fun e w' => e = .returned (.tuple #[]) ∧ Below w.heap.size w w' := by
  obtain ⟨W1, HW1⟩ : ∃ W1, Hid (W1 = w.alloc (.cells #[.int .i64 t, .int .u32 f, .slice ba bl bc] 42)) := ⟨_, rfl⟩
  have HX1 : Hid (Below w.heap.size w W1) := by (show Below _ _ _); rw [HW1.out]; exact below_alloc w _
  have HK1 : Hid (Bk W1 w.heap.size #[.int .i64 t, .int .u32 f, .slice ba bl bc] 42) := by (show Bk _ _ _ _); rw [HW1.out]; exact Bk.new w _ _
  have HS1 : Hid (Stm W1 s m a n c l X) := h.stay HX1.out
  have c0 : W1.drew.cell? ⟨s, 0, none⟩ = some (.slice a n c) := HS1.out.blk.cell 0 rfl
  have g0 : W1.drew.cell? ⟨w.heap.size, 0, none⟩ = some (.int .i64 t) := HK1.out.cell 0 rfl
  have HAT : Hid (∀ W, Below W1.heap.size W1 W → Calls Try.prog 36 #[.slice a n c, .int .i64 t] W fun e w' => e = .returned (.int .i64 (atS l t)) ∧ Below W.heap.size W w') := fun W hW => span_At a n c l t W (HS1.out.ok.rd.below hW) HS1.out.ok.len
  have k0 : ((atS l t) == 0) = false := by rw [beq_eq_false_iff_ne]; omega
  have k1 : ((atS l t) == 1) = false := by rw [beq_eq_false_iff_ne]; omega
  clear h
  go_enter Try.func17, Try.ntmps17
  go_upto_region 1 with fail
  rw [← HW1.out]
  have HB0 : Hid (Below W1.heap.size W1 W1.drew) := (Below.refl _ _).drew
  go_region_law (first
    | (go_simp; go_at_call 36; refine (HAT.out _ HB0.out).mono ?_; rintro e w2 ⟨rfl, hb2⟩; have HB2 : Hid (Below W1.heap.size W1 w2) := HB0.out.trans (hb2.mono HB0.out.size); clear hb2))
  all_goals (
    go_wp2
    exact ⟨rfl, _, results_none rfl _ _ _, rfl, HX1.out.trans (HB2.out.mono HX1.out.size)⟩)
/-- What keep leaves where an item is kept already. -/
def Kept1 (s m : Nat) (a : Option Addr) (n c : Nat) (l : List Sp) (X : List (Int × Value)) (t : Int) (v : Value) (w w' : World) : Prop := Stm w' s m a n c l (putX X t v) ∧ Two s m w w'
set_option maxHeartbeats 8000000 in
theorem st_keep_1 {w : World} {s m : Nat} {a : Option Addr} {n c : Nat} {l : List Sp} {X : List (Int × Value)} (h : Stm w s m a n c l X) (hX : X.length ≤ 1000000) {t f : Int} {ba : Option Addr} {bl bc : Nat} (ht : 1 ≤ t ∧ t ≤ 1099511627776) (hat : atS l t = 1) {t0 f0 : Int} {da : Option Addr} {dl dc : Nat} (hg : getX X t = some (.agg #[.int .i64 t0, .int .u32 f0, .slice da dl dc])) :
    Calls Try.prog 17 #[.pointer (some ⟨s, 0, none⟩), .agg #[.int .i64 t, .int .u32 f, .slice ba bl bc]] w fun e w' => e = .returned (.tuple #[]) ∧ Kept1 s m a n c l X t (.agg #[.int .i64 t0, .int .u32 (bits .or .u32 f0 f), .slice da dl dc]) w w' := by
  have hsl := h.blk.lt
  have hml := h.items.lt
  obtain ⟨W1, HW1⟩ : ∃ W1, Hid (W1 = w.alloc (.cells #[.int .i64 t, .int .u32 f, .slice ba bl bc] 42)) := ⟨_, rfl⟩
  have HX1 : Hid (Below w.heap.size w W1) := by (show Below _ _ _); rw [HW1.out]; exact below_alloc w _
  have HK1 : Hid (Bk W1 w.heap.size #[.int .i64 t, .int .u32 f, .slice ba bl bc] 42) := by (show Bk _ _ _ _); rw [HW1.out]; exact Bk.new w _ _
  have HS1 : Hid (Stm W1 s m a n c l X) := h.stay HX1.out
  have c0 : W1.drew.cell? ⟨s, 0, none⟩ = some (.slice a n c) := HS1.out.blk.cell 0 rfl
  have g0 : W1.drew.cell? ⟨w.heap.size, 0, none⟩ = some (.int .i64 t) := HK1.out.cell 0 rfl
  have HAT : Hid (∀ W, Below W1.heap.size W1 W → Calls Try.prog 36 #[.slice a n c, .int .i64 t] W fun e w' => e = .returned (.int .i64 1) ∧ Below W.heap.size W w') := fun W hW => by
    have := span_At a n c l t W (HS1.out.ok.rd.below hW) HS1.out.ok.len
    rw [hat] at this
    exact this
  clear h
  go_enter Try.func17, Try.ntmps17
  go_upto_region 1 with fail
  rw [← HW1.out]
  have HB0 : Hid (Below W1.heap.size W1 W1.drew) := (Below.refl _ _).drew
  go_cut [11] from 5 (fun v11 wx => v11 = .int .i64 1 ∧ Hid (Below W1.heap.size W1 wx))
  case first =>
    rename_i hJ hM
    go_region_law (first
      | (go_simp; go_at_call 36; refine (HAT.out _ HB0.out).mono ?_; rintro e w2 ⟨rfl, hb2⟩; have HB2 : Hid (Below W1.heap.size W1 w2) := HB0.out.trans (hb2.mono HB0.out.size); clear hb2))
    all_goals (
      refine hM _ _ ?_
      go_meet
      exact ⟨rfl, HB2⟩)
  case rest =>
  obtain ⟨hv, HB2⟩ := hcut
  obtain ⟨w2, hwp⟩ : ∃ W, W = wc := ⟨_, rfl⟩
  subst hwp
  subst hv
  have HS2 : Hid (Stm w2 s m a n c l X) := HS1.out.stay HB2.out
  have HK2 : Hid (Bk w2 w.heap.size #[.int .i64 t, .int .u32 f, .slice ba bl bc] 42) := HK1.out.stay HB2.out
  have HX2 : Hid (Below w.heap.size w w2) := HX1.out.trans (HB2.out.mono HX1.out.size)
  clear c0 g0 HAT HB0 HB2 HS1 HK1 HX1 HW1
  have c1 : w2.drew.cell? ⟨s, 1, none⟩ = some (.map (some m)) := HS2.out.blk.cell 1 rfl
  have g0 : w2.drew.cell? ⟨w.heap.size, 0, none⟩ = some (.int .i64 t) := HK2.out.cell 0 rfl
  have hlk : (Instr.lookup 51 (.map (some m)) (.int .i64 t) false).run Try.prog w2.drew = .ok (.agg #[.int .i64 t0, .int .u32 f0, .slice da dl dc]) w2.drew := by
    have := (HS2.out.stay (Below.refl _ _).drew).look (t := t) (by omega)
    rw [hg] at this
    exact this
  have c1b : (w2.alloc (.cells #[.int .i64 0, .int .u32 0, .slice none 0 0] 42)).drew.cell? ⟨s, 1, none⟩ = some (.map (some m)) := (HS2.out.stay (below_alloc w2 _).drew).blk.cell 1 rfl
  have g0b : (w2.alloc (.cells #[.int .i64 0, .int .u32 0, .slice none 0 0] 42)).drew.cell? ⟨w.heap.size, 0, none⟩ = some (.int .i64 t) := (HK2.out.stay (below_alloc w2 _).drew).cell 0 rfl
  have hlkb : (Instr.lookup 51 (.map (some m)) (.int .i64 t) false).run Try.prog (w2.alloc (.cells #[.int .i64 0, .int .u32 0, .slice none 0 0] 42)).drew = .ok (.agg #[.int .i64 t0, .int .u32 f0, .slice da dl dc]) (w2.alloc (.cells #[.int .i64 0, .int .u32 0, .slice none 0 0] 42)).drew := by
    have := (HS2.out.stay (below_alloc w2 (.cells #[.int .i64 0, .int .u32 0, .slice none 0 0] 42)).drew).look (t := t) (by omega)
    rw [hg] at this
    exact this
  go_upto_region 6 with fail
  go_cut [4] from 41 (fun v4 wx => v4 = .pointer (some ⟨w2.heap.size, 0, none⟩) ∧ wx = (w2.alloc (.cells #[.int .i64 t0, .int .u32 f0, .slice da dl dc] 42)).drew)
  case first =>
    rename_i hJ hM
    go_region
    all_goals (
      refine hM _ _ ?_
      go_meet
      exact ⟨rfl, rfl⟩)
  case rest =>
  obtain ⟨rfl, rfl⟩ := hcut
  clear c1 g0 hlk c1b g0b hlkb
  have HB3 : Hid (Below w2.heap.size w2 (w2.alloc (.cells #[.int .i64 t0, .int .u32 f0, .slice da dl dc] 42)).drew) := (below_alloc w2 _).drew
  have g1 : (w2.alloc (.cells #[.int .i64 t0, .int .u32 f0, .slice da dl dc] 42)).drew.cell? ⟨w.heap.size, 1, none⟩ = some (.int .u32 f) := (HK2.out.stay HB3.out).cell 1 rfl
  generalize hF : bits BinOp.or IntKind.u32 f0 f = F at *
  have HF : Hid (bits BinOp.or IntKind.u32 f0 f = F) := hF
  clear hF
  obtain ⟨W3, HW3⟩ : ∃ W3, Hid (W3 = (w2.alloc (.cells #[.int .i64 t0, .int .u32 F, .slice da dl dc] 42)).drew) := ⟨_, rfl⟩
  have HBW3 : Hid (Below w2.heap.size w2 W3) := by (show Below _ _ _); rw [HW3.out]; exact (below_alloc w2 _).drew
  have HS3 : Hid (Stm W3 s m a n c l X) := HS2.out.stay HBW3.out
  have HKI3 : Hid (Bk W3 w2.heap.size #[.int .i64 t0, .int .u32 F, .slice da dl dc] 42) := by (show Bk _ _ _ _); rw [HW3.out]; exact Bk.new w2 _ _
  have c1 : W3.drew.cell? ⟨s, 1, none⟩ = some (.map (some m)) := HS3.out.blk.cell 1 rfl
  have g0 : W3.drew.cell? ⟨w.heap.size, 0, none⟩ = some (.int .i64 t) := (HK2.out.stay HBW3.out).cell 0 rfl
  have i0 : W3.drew.cell? ⟨w2.heap.size, 0, none⟩ = some (.int .i64 t0) := HKI3.out.cell 0 rfl
  have i1 : W3.drew.cell? ⟨w2.heap.size, 1, none⟩ = some (.int .u32 F) := HKI3.out.cell 1 rfl
  have i2 : W3.drew.cell? ⟨w2.heap.size, 2, none⟩ = some (.slice da dl dc) := HKI3.out.cell 2 rfl
  have HSD : Hid (Stm W3.drew s m a n c l X) := HS3.out.stay (Below.refl _ _).drew
  obtain ⟨w4, hput, HS4, HT4⟩ := HSD.out.put hX (tkey_of (t := t) (by omega)) (.agg #[.int .i64 t0, .int .u32 F, .slice da dl dc])
  have HBF : Hid (Two s m w w4) := ((Two.of_below s m HX2.out).trans ((Two.of_below s m HBW3.out).trans (Two.of_below s m (Below.refl W3.heap.size W3).drew))).trans (Two.turned HT4.out)
  go_upto_region 8 with fail
  rw [HF.out, ← HW3.out]
  go_region
  all_goals (
    go_wp2
    refine ⟨rfl, _, results_none rfl _ _ _, rfl, ?_, HBF.out⟩
    rw [HF.out]
    exact HS4.out)
end Go.Proofs.Ytidihfhgnjkmaaa
