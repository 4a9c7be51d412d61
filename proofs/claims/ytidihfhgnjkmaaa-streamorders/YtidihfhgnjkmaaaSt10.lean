/- Stream.Next at live's stream, for 2. -/
import Derived.Test.YtidihfhgnjkmaaaSt9
import Derived.Deep.RegionLaw
import Derived.Deep.CutRange
import Derived.Scope
import Derived.ScopeJumps
import Derived.WalkMore
import Derived.Handy
namespace Go.Proofs.Ytidihfhgnjkmaaa
set_option maxRecDepth 100000
open Go.RowKit Go.Maps Go.Sort Go.Shelf

set_option maxHeartbeats 8000000 in
theorem st_Next_2 {w : World} {s m : Nat} {a : Option Addr} {n c : Nat} {ba : Option Addr} {bc : Nat} (h : Stm w s m a n c news5 [(5, .agg #[.int .i64 5, .int .u32 1, .slice ba 1 bc])]) (hr : Rd w ba 1 [97]) :
    Calls Try.prog 23 #[.pointer (some ⟨s, 0, none⟩), .int .i64 0, .int .i64 2] w fun e w' => e = .returned (.tuple #[.agg #[.int .i64 0, .int .i64 0, .int .i64 5, .int .i64 0, .int .u32 0, .slice none 0 0], .int .i64 0]) ∧ Below w.heap.size w w' := by
  obtain rfl : n = 2 := h.ok.rd.size.symm
  obtain ⟨W1, HW1⟩ : ∃ W1, Hid (W1 = w.alloc (.cells #[.int .i64 0, .int .i64 0, .int .i64 0, .int .i64 0, .int .u32 0, .slice none 0 0] 61)) := ⟨_, rfl⟩
  have HX1 : Hid (Below w.heap.size w W1) := by (show Below _ _ _); rw [HW1.out]; exact below_alloc w _
  have HK1 : Hid (Bk W1 w.heap.size #[.int .i64 0, .int .i64 0, .int .i64 0, .int .i64 0, .int .u32 0, .slice none 0 0] 61) := by (show Bk _ _ _ _); rw [HW1.out]; exact Bk.new w _ _
  have HS1 : Hid (Stm W1 s m a 2 c news5 [(5, .agg #[.int .i64 5, .int .u32 1, .slice ba 1 bc])]) := h.stay HX1.out
  have HR1 : Hid (Rd W1 ba 1 [97]) := hr.below HX1.out
  have c0 : W1.cell? ⟨s, 0, none⟩ = some (.slice a 2 c) := HS1.out.blk.cell 0 rfl
  clear h hr
  go_enter Try.func23, Try.ntmps23
  go_upto_region 1 with fail
  rw [← HW1.out]
  refine wp_scope_straight ?_
  go_wp2
  refine wp_label ?_
  go_wp2
  go_loopw [8, 38] (fun t8 t38 wr => ((t8 = .int .i64 1 ∧ t38 = .int .i64 0) ∨ (t8 = .int .i64 5 ∧ t38 = .int .i64 1) ∨ (t8 = .int .i64 6 ∧ t38 = .int .i64 2)) ∧ Hid (Below W1.heap.size W1 wr)) (fun _ t38 _ => 2 - (intOf t38).toNat)
  case atStart => exact ⟨.inl ⟨rfl, rfl⟩, Below.refl _ _⟩
  case round =>
    obtain ⟨hcase, HB⟩ := hrel
    have HSR : Hid (Stm wr s m a 2 c news5 [(5, .agg #[.int .i64 5, .int .u32 1, .slice ba 1 bc])]) := HS1.out.stay HB.out
    rcases hcase with ⟨rfl, rfl⟩ | ⟨rfl, rfl⟩ | ⟨rfl, rfl⟩
    · obtain ⟨g, o, rfl, hg, q, hq, d0, d1, d2⟩ := HSR.out.ok.rd.at_ 0 (by omega)
      simp only [news5, List.getElem?_cons_zero, Option.some.injEq] at hq
      subst hq
      simp only [Nat.zero_mul, Nat.add_zero] at d0 d1 d2
      have HBN : Hid (Below W1.heap.size W1 (wr.alloc (.cells #[.int .i64 1, .int .i64 4, .int .i64 2] 38))) := HB.out.alloc HB.out.size _
      go_wp2
      go_roundw
      case rel => exact ⟨.inr (.inl ⟨rfl, rfl⟩), HBN⟩
      case measure => simp [intOf]
    · obtain ⟨g, o, rfl, hg, q, hq, d0, d1, d2⟩ := HSR.out.ok.rd.at_ 1 (by omega)
      simp only [news5, List.getElem?_cons_succ, List.getElem?_cons_zero, Option.some.injEq] at hq
      subst hq
      simp only [Nat.one_mul] at d0 d1 d2
      obtain ⟨W5, HW5⟩ : ∃ W5, Hid (W5 = wr.alloc (.cells #[.int .i64 5, .int .i64 5, .int .i64 1] 38)) := ⟨_, rfl⟩
      have HB5 : Hid (Below W1.heap.size W1 W5) := by (show Below _ _ _); rw [HW5.out]; exact HB.out.alloc HB.out.size _
      have HBR5 : Hid (Below wr.heap.size wr W5) := by (show Below _ _ _); rw [HW5.out]; exact below_alloc wr _
      have HK5 : Hid (Bk W5 wr.heap.size #[.int .i64 5, .int .i64 5, .int .i64 1] 38) := by (show Bk _ _ _ _); rw [HW5.out]; exact Bk.new wr _ _
      have HS5 : Hid (Stm W5 s m (some ⟨g, o, none⟩) 2 c news5 [(5, .agg #[.int .i64 5, .int .u32 1, .slice ba 1 bc])]) := HSR.out.stay HBR5.out
      have HFS : Hid (∀ W, Below W5.heap.size W5 W → Calls Try.prog 42 #[.pointer (some ⟨s, 0, none⟩), .int .i64 5, .int .i64 5, .int .u32 2] W fun e w' => e = .returned (.tuple #[.agg #[.int .i64 0, .int .u32 0, .slice none 0 0], .bool false]) ∧ Below W.heap.size W w') := fun W hW => st_first_no (HS5.out.stay hW)
      have x1 : W5.drew.cell? ⟨wr.heap.size, 1, none⟩ = some (.int .i64 5) := HK5.out.cell 1 rfl
      have hbz := (below_alloc W5 (.cells #[.int .i64 0, .int .u32 0, .slice none 0 0] 42)).drew
      have x1b : (W5.alloc (.cells #[.int .i64 0, .int .u32 0, .slice none 0 0] 42)).drew.cell? ⟨wr.heap.size, 1, none⟩ = some (.int .i64 5) := (HK5.out.stay hbz).cell 1 rfl
      have HBZ : Hid (Below W5.heap.size W5 (W5.alloc (.cells #[.int .i64 0, .int .u32 0, .slice none 0 0] 42)).drew) := hbz
      have HZK : Hid (Bk (W5.alloc (.cells #[.int .i64 0, .int .u32 0, .slice none 0 0] 42)).drew W5.heap.size #[.int .i64 0, .int .u32 0, .slice none 0 0] 42) := Bk.new W5 _ _
      clear hbz
      have hsh : ∀ W, (Op.shift BinOp.shl IntKind.u32 1 IntKind.i64 (IntKind.i64.wrap 1)).run Try.prog W = .ok (.int .u32 2) W := fun W => rfl
      go_upto_region 14 with fail
      rw [← HW5.out]
      go_cut [11, 12] from 39 to 86 (fun v11 v12 wx => ∃ q : Nat, v11 = .pointer (some ⟨q, 0, none⟩) ∧ v12 = .bool false ∧ Hid (Bk wx q #[.int .i64 0, .int .u32 0, .slice none 0 0] 42) ∧ Hid (W5.heap.size ≤ q) ∧ Hid (Below W5.heap.size W5 wx))
      case first =>
        rename_i hJ hM
        go_region_law (first
          | (go_simp; go_at_call 42; first
              | (refine (HFS.out W5.drew (Below.refl _ _).drew).mono ?_; rintro e w6 ⟨rfl, hb6⟩; have HB6 : Hid (Below W5.heap.size W5 w6) := (Below.refl W5.heap.size W5).drew.trans hb6; clear hb6)
              | (refine (HFS.out (W5.alloc (.cells #[.int .i64 0, .int .u32 0, .slice none 0 0] 42)).drew HBZ.out).mono ?_; rintro e w6 ⟨rfl, hb6⟩; have HB6 : Hid (Below W5.heap.size W5 w6) := HBZ.out.trans (hb6.mono HBZ.out.size); have hk6 := HZK.out.stay hb6; have y0 : w6.cell? ⟨W5.heap.size, 0, none⟩ = some (.int .i64 0) := hk6.cell 0 rfl; have y1 : w6.cell? ⟨W5.heap.size, 1, none⟩ = some (.int .u32 0) := hk6.cell 1 rfl; have y2 : w6.cell? ⟨W5.heap.size, 2, none⟩ = some (.slice none 0 0) := hk6.cell 2 rfl; have z0 := hk6.free 0; have z1 := hk6.free 1; have z2 := hk6.free 2; have HKZ : Hid (Bk (((w6.setCell ⟨W5.heap.size, 0, none⟩ (.int .i64 0)).setCell ⟨W5.heap.size, 1, none⟩ (.int .u32 0)).setCell ⟨W5.heap.size, 2, none⟩ (.slice none 0 0)) W5.heap.size #[.int .i64 0, .int .u32 0, .slice none 0 0] 42) := ((hk6.set 0 (.int .i64 0)).set 1 (.int .u32 0)).set 2 (.slice none 0 0); clear hb6 hk6)))
        all_goals (
          refine hM _ _ ?_
          go_meet
          first
            | exact ⟨w6.heap.size, rfl, rfl, Bk.new w6 _ _, HB6.out.size, HB6.out.alloc HB6.out.size _⟩
            | exact ⟨W5.heap.size, rfl, rfl, HKZ, Nat.le_refl _, ((HB6.out.setCell (Nat.le_refl _) _).setCell (Nat.le_refl _) _).setCell (Nat.le_refl _) _⟩)
      case rest =>
      obtain ⟨q11, hv11, hv12, HK6, HQ6, HB6⟩ := hcut
      obtain ⟨w6, hwp⟩ : ∃ W, W = wc := ⟨_, rfl⟩
      subst hwp
      subst hv11 hv12
      have HBW6 : Hid (Below W1.heap.size W1 w6) := HB5.out.trans (HB6.out.mono HB5.out.size)
      have j1 : w6.cell? ⟨wr.heap.size, 1, none⟩ = some (.int .i64 5) := (HK5.out.stay HB6.out).cell 1 rfl
      go_wp2
      go_roundw
      case rel => exact ⟨.inr (.inr ⟨rfl, rfl⟩), HBW6⟩
      case measure => simp [intOf]
    · have hg6 := HK1.out.stay HB.out
      have n0 : wr.cell? ⟨w.heap.size, 0, none⟩ = some (.int .i64 0) := hg6.cell 0 rfl
      have n1 : wr.cell? ⟨w.heap.size, 1, none⟩ = some (.int .i64 0) := hg6.cell 1 rfl
      have n2 : wr.cell? ⟨w.heap.size, 2, none⟩ = some (.int .i64 0) := hg6.cell 2 rfl
      have n3 : wr.cell? ⟨w.heap.size, 3, none⟩ = some (.int .i64 0) := hg6.cell 3 rfl
      have n4 : wr.cell? ⟨w.heap.size, 4, none⟩ = some (.int .u32 0) := hg6.cell 4 rfl
      have n5 : wr.cell? ⟨w.heap.size, 5, none⟩ = some (.slice none 0 0) := hg6.cell 5 rfl
      have p0 := hg6.free 0
      have p1 := hg6.free 1
      have p2 := hg6.free 2
      have p3 := hg6.free 3
      have p4 := hg6.free 4
      have p5 := hg6.free 5
      have HGZ : Hid (Bk ((((((wr.setCell ⟨w.heap.size, 0, none⟩ (.int .i64 0)).setCell ⟨w.heap.size, 1, none⟩ (.int .i64 0)).setCell ⟨w.heap.size, 2, none⟩ (.int .i64 5)).setCell ⟨w.heap.size, 3, none⟩ (.int .i64 0)).setCell ⟨w.heap.size, 4, none⟩ (.int .u32 0)).setCell ⟨w.heap.size, 5, none⟩ (.slice none 0 0)) w.heap.size #[.int .i64 0, .int .i64 0, .int .i64 5, .int .i64 0, .int .u32 0, .slice none 0 0] 61) := (((((hg6.set 0 (.int .i64 0)).set 1 (.int .i64 0)).set 2 (.int .i64 5)).set 3 (.int .i64 0)).set 4 (.int .u32 0)).set 5 (.slice none 0 0)
      clear hg6
      go_wp2
      simp only [Exit.noGoto]
      refine bodyPost_ret (results_next (by rfl) (by rfl) HGZ.out) rfl ?_
      have hb7 : Below w.heap.size w wr := HX1.out.trans (HB.out.mono HX1.out.size)
      exact ⟨rfl, (((((hb7.setCell (Nat.le_refl _) _).setCell (Nat.le_refl _) _).setCell (Nat.le_refl _) _).setCell (Nat.le_refl _) _).setCell (Nat.le_refl _) _).setCell (Nat.le_refl _) _⟩
end Go.Proofs.Ytidihfhgnjkmaaa
