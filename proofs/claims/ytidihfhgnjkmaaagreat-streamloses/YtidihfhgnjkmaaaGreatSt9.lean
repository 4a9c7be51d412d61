/- Stream.Next at live's stream, for 1. -/
import Derived.Test.YtidihfhgnjkmaaaGreatStA7
import Derived.Deep.RegionLaw
import Derived.Deep.CutRange
import Derived.Scope
import Derived.ScopeJumps
import Derived.WalkMore
import Derived.Handy
namespace Go.Proofs.YtidihfhgnjkmaaaGreat
set_option maxRecDepth 100000
open Go.RowKit Go.Maps Go.Sort Go.Shelf
variable {Z : Nat → Prop}

theorem results_next {w : World} {tmps : Array Value} {g : Nat} {c0 c1 c2 c3 c4 c5 b : Value} (h6 : tmps[6]?.getD undef = .pointer (some ⟨g, 0, none⟩)) (h7 : tmps[7]?.getD undef = b) (k : Bk w g #[c0, c1, c2, c3, c4, c5] 64) : (results Tryz.f21 tmps).run Tryz.prog w = .ok (.tuple #[.agg #[c0, c1, c2, c3, c4, c5], b]) w := by
  have k0 : w.cell? ⟨g, 0, none⟩ = some c0 := k.cell 0 rfl
  have k1 : w.cell? ⟨g, 1, none⟩ = some c1 := k.cell 1 rfl
  have k2 : w.cell? ⟨g, 2, none⟩ = some c2 := k.cell 2 rfl
  have k3 : w.cell? ⟨g, 3, none⟩ = some c3 := k.cell 3 rfl
  have k4 : w.cell? ⟨g, 4, none⟩ = some c4 := k.cell 4 rfl
  have k5 : w.cell? ⟨g, 5, none⟩ = some c5 := k.cell 5 rfl
  simp [results, Tryz.results21, go_sem, h6, h7, k0, k1, k2, k3, k4, k5]
set_option maxHeartbeats 8000000 in
theorem st_Next_1 {w : World} {s m : Nat} {a : Option Addr} {n c : Nat} {ba : Option Addr} {bc : Nat} (h : Stm Z w s m a n c news5 [(5, .agg #[.int .i64 5, .int .u32 1, .slice ba 1 bc])]) (hr : Rd w ba 1 [97]) :
    Calls Tryz.prog 21 #[.pointer (some ⟨s, 0, none⟩), .int .i64 0, .int .i64 1] w fun e w' => ∃ ba' bc', e = .returned (.tuple #[.agg #[.int .i64 1, .int .i64 5, .int .i64 5, .int .i64 5, .int .u32 1, .slice ba' 1 bc'], .int .i64 0]) ∧ Own w' w.heap.size ba' 1 bc' [97] ∧ Below w.heap.size w w' := by
  obtain rfl : n = 2 := h.ok.rd.size.symm
  obtain ⟨W1, HW1⟩ : ∃ W1, Hid (W1 = w.alloc (.cells #[.int .i64 0, .int .i64 0, .int .i64 0, .int .i64 0, .int .u32 0, .slice none 0 0] 64)) := ⟨_, rfl⟩
  have HX1 : Hid (Below w.heap.size w W1) := by (show Below _ _ _); rw [HW1.out]; exact below_alloc w _
  have HK1 : Hid (Bk W1 w.heap.size #[.int .i64 0, .int .i64 0, .int .i64 0, .int .i64 0, .int .u32 0, .slice none 0 0] 64) := by (show Bk _ _ _ _); rw [HW1.out]; exact Bk.new w _ _
  have HS1 : Hid (Stm Z W1 s m a 2 c news5 [(5, .agg #[.int .i64 5, .int .u32 1, .slice ba 1 bc])]) := h.stay HX1.out
  have HR1 : Hid (Rd W1 ba 1 [97]) := hr.below HX1.out
  have c0 : W1.cell? ⟨s, 0, none⟩ = some (.slice a 2 c) := HS1.out.blk.cell 0 rfl
  clear h hr
  go_enter Tryz.func21, Tryz.ntmps21
  go_upto_region 1 with fail
  rw [← HW1.out]
  refine wp_scope_straight ?_
  go_wp2
  refine wp_label ?_
  go_wp2
  go_loopw [8, 38] (fun t8 t38 wr => ((t8 = .int .i64 1 ∧ t38 = .int .i64 0) ∨ (t8 = .int .i64 5 ∧ t38 = .int .i64 1)) ∧ Hid (Below W1.heap.size W1 wr)) (fun _ t38 _ => 2 - (intOf t38).toNat)
  case atStart => exact ⟨.inl ⟨rfl, rfl⟩, Below.refl _ _⟩
  case round =>
    obtain ⟨hcase, HB⟩ := hrel
    have HSR : Hid (Stm Z wr s m a 2 c news5 [(5, .agg #[.int .i64 5, .int .u32 1, .slice ba 1 bc])]) := HS1.out.stay HB.out
    rcases hcase with ⟨rfl, rfl⟩ | ⟨rfl, rfl⟩
    · obtain ⟨g, o, rfl, hg, q, hq, d0, d1, d2⟩ := HSR.out.ok.rd.at_ 0 (by omega)
      simp only [news5, List.getElem?_cons_zero, Option.some.injEq] at hq
      subst hq
      simp only [Nat.zero_mul, Nat.add_zero] at d0 d1 d2
      have HBN : Hid (Below W1.heap.size W1 (wr.alloc (.cells #[.int .i64 1, .int .i64 4, .int .i64 2] 62))) := HB.out.alloc HB.out.size _
      go_wp2
      go_roundw
      case rel => exact ⟨.inr ⟨rfl, rfl⟩, HBN⟩
      case measure => simp [intOf]
    · obtain ⟨g, o, rfl, hg, q, hq, d0, d1, d2⟩ := HSR.out.ok.rd.at_ 1 (by omega)
      simp only [news5, List.getElem?_cons_succ, List.getElem?_cons_zero, Option.some.injEq] at hq
      subst hq
      simp only [Nat.one_mul] at d0 d1 d2
      obtain ⟨W5, HW5⟩ : ∃ W5, Hid (W5 = wr.alloc (.cells #[.int .i64 5, .int .i64 5, .int .i64 1] 62)) := ⟨_, rfl⟩
      have HB5 : Hid (Below W1.heap.size W1 W5) := by (show Below _ _ _); rw [HW5.out]; exact HB.out.alloc HB.out.size _
      have HBR5 : Hid (Below wr.heap.size wr W5) := by (show Below _ _ _); rw [HW5.out]; exact below_alloc wr _
      have HK5 : Hid (Bk W5 wr.heap.size #[.int .i64 5, .int .i64 5, .int .i64 1] 62) := by (show Bk _ _ _ _); rw [HW5.out]; exact Bk.new wr _ _
      have HS5 : Hid (Stm Z W5 s m (some ⟨g, o, none⟩) 2 c news5 [(5, .agg #[.int .i64 5, .int .u32 1, .slice ba 1 bc])]) := HSR.out.stay HBR5.out
      have HFS : Hid (∀ W, Below W5.heap.size W5 W → Calls Tryz.prog 46 #[.pointer (some ⟨s, 0, none⟩), .int .i64 5, .int .i64 5, .int .u32 1] W fun e w' => e = .returned (.tuple #[.agg #[.int .i64 5, .int .u32 1, .slice ba 1 bc], .bool true]) ∧ Below W.heap.size W w') := fun W hW => st_first_yes (HS5.out.stay hW)
      have x1 : W5.drew.cell? ⟨wr.heap.size, 1, none⟩ = some (.int .i64 5) := HK5.out.cell 1 rfl
      have hbz := (below_alloc W5 (.cells #[.int .i64 0, .int .u32 0, .slice none 0 0] 54)).drew
      have x1b : (W5.alloc (.cells #[.int .i64 0, .int .u32 0, .slice none 0 0] 54)).drew.cell? ⟨wr.heap.size, 1, none⟩ = some (.int .i64 5) := (HK5.out.stay hbz).cell 1 rfl
      have HBZ : Hid (Below W5.heap.size W5 (W5.alloc (.cells #[.int .i64 0, .int .u32 0, .slice none 0 0] 54)).drew) := hbz
      have HZK : Hid (Bk (W5.alloc (.cells #[.int .i64 0, .int .u32 0, .slice none 0 0] 54)).drew W5.heap.size #[.int .i64 0, .int .u32 0, .slice none 0 0] 54) := Bk.new W5 _ _
      clear hbz
      have hsh : ∀ W, (Op.shift BinOp.shl IntKind.u32 1 IntKind.i64 (IntKind.i64.wrap 0)).run Tryz.prog W = .ok (.int .u32 1) W := fun W => rfl
      go_upto_region 14 with fail
      rw [← HW5.out]
      go_cut [11, 12] from 39 to 86 (fun v11 v12 wx => ∃ q : Nat, v11 = .pointer (some ⟨q, 0, none⟩) ∧ v12 = .bool true ∧ Hid (Bk wx q #[.int .i64 5, .int .u32 1, .slice ba 1 bc] 54) ∧ Hid (W5.heap.size ≤ q) ∧ Hid (Below W5.heap.size W5 wx))
      case first =>
        rename_i hJ hM
        go_region_law (first
          | (go_simp; go_at_call 46; first
              | (refine (HFS.out W5.drew (Below.refl _ _).drew).mono ?_; rintro e w6 ⟨rfl, hb6⟩; have HB6 : Hid (Below W5.heap.size W5 w6) := (Below.refl W5.heap.size W5).drew.trans hb6; clear hb6)
              | (refine (HFS.out (W5.alloc (.cells #[.int .i64 0, .int .u32 0, .slice none 0 0] 54)).drew HBZ.out).mono ?_; rintro e w6 ⟨rfl, hb6⟩; have HB6 : Hid (Below W5.heap.size W5 w6) := HBZ.out.trans (hb6.mono HBZ.out.size); have hk6 := HZK.out.stay hb6; have y0 : w6.cell? ⟨W5.heap.size, 0, none⟩ = some (.int .i64 0) := hk6.cell 0 rfl; have y1 : w6.cell? ⟨W5.heap.size, 1, none⟩ = some (.int .u32 0) := hk6.cell 1 rfl; have y2 : w6.cell? ⟨W5.heap.size, 2, none⟩ = some (.slice none 0 0) := hk6.cell 2 rfl; have z0 := hk6.free 0; have z1 := hk6.free 1; have z2 := hk6.free 2; have HKZ : Hid (Bk (((w6.setCell ⟨W5.heap.size, 0, none⟩ (.int .i64 5)).setCell ⟨W5.heap.size, 1, none⟩ (.int .u32 1)).setCell ⟨W5.heap.size, 2, none⟩ (.slice ba 1 bc)) W5.heap.size #[.int .i64 5, .int .u32 1, .slice ba 1 bc] 54) := ((hk6.set 0 (.int .i64 5)).set 1 (.int .u32 1)).set 2 (.slice ba 1 bc); clear hb6 hk6)))
        all_goals (
          refine hM _ _ ?_
          go_meet
          first
            | exact ⟨w6.heap.size, rfl, rfl, Bk.new w6 _ _, HB6.out.size, HB6.out.alloc HB6.out.size _⟩
            | exact ⟨W5.heap.size, rfl, rfl, HKZ, Nat.le_refl _, ((HB6.out.setCell (Nat.le_refl _) _).setCell (Nat.le_refl _) _).setCell (Nat.le_refl _) _⟩)
      case rest =>
      obtain ⟨q11, hv11, hv12, HK6, HQ6, HB6⟩ := hcut
      obtain ⟨w6, hwp⟩ : ∃ W, W = wc := ⟨_, rfl⟩
      subst hwp
      subst hv11 hv12
      have HBW6 : Hid (Below W1.heap.size W1 w6) := HB5.out.trans (HB6.out.mono HB5.out.size)
      have HR6 : Hid (Rd w6.drew ba 1 [97]) := HR1.out.below (HBW6.out.trans (Below.refl _ _).drew)
      have HG6 : Hid (Bk w6 w.heap.size #[.int .i64 0, .int .i64 0, .int .i64 0, .int .i64 0, .int .u32 0, .slice none 0 0] 64) := HK1.out.stay HBW6.out
      have j0 : w6.drew.cell? ⟨q11, 0, none⟩ = some (.int .i64 5) := HK6.out.cell 0 rfl
      have j1 : w6.drew.cell? ⟨q11, 1, none⟩ = some (.int .u32 1) := HK6.out.cell 1 rfl
      have j2 : w6.drew.cell? ⟨q11, 2, none⟩ = some (.slice ba 1 bc) := HK6.out.cell 2 rfl
      have hsz6 : w.heap.size ≤ w6.heap.size := Nat.le_trans HX1.out.size HBW6.out.size
      go_upto_region 16 with fail
      go_region_law (first
        | (go_simp; go_at_call 45; refine (st_cloned 5 1 ba 1 bc [97] w6.drew HR6.out (by omega)).mono ?_; rintro e w7 ⟨ba', bc', rfl, ho7, hb7⟩; have HO7 : Hid (Own w7 w6.heap.size ba' 1 bc' [97]) := ho7; have HB7 : Hid (Below w6.heap.size w6 w7) := (Below.refl w6.heap.size w6).drew.trans hb7; have l0 : w7.cell? ⟨q11, 0, none⟩ = some (.int .i64 5) := (HK6.out.stay HB7.out).cell 0 rfl; have hg7 := HG6.out.stay HB7.out; have n0 : w7.cell? ⟨w.heap.size, 0, none⟩ = some (.int .i64 0) := hg7.cell 0 rfl; have n1 : w7.cell? ⟨w.heap.size, 1, none⟩ = some (.int .i64 0) := hg7.cell 1 rfl; have n2 : w7.cell? ⟨w.heap.size, 2, none⟩ = some (.int .i64 0) := hg7.cell 2 rfl; have n3 : w7.cell? ⟨w.heap.size, 3, none⟩ = some (.int .i64 0) := hg7.cell 3 rfl; have n4 : w7.cell? ⟨w.heap.size, 4, none⟩ = some (.int .u32 0) := hg7.cell 4 rfl; have n5 : w7.cell? ⟨w.heap.size, 5, none⟩ = some (.slice none 0 0) := hg7.cell 5 rfl; have p0 := hg7.free 0; have p1 := hg7.free 1; have p2 := hg7.free 2; have p3 := hg7.free 3; have p4 := hg7.free 4; have p5 := hg7.free 5; have HGZ : Hid (Bk ((((((w7.setCell ⟨w.heap.size, 0, none⟩ (.int .i64 1)).setCell ⟨w.heap.size, 1, none⟩ (.int .i64 5)).setCell ⟨w.heap.size, 2, none⟩ (.int .i64 5)).setCell ⟨w.heap.size, 3, none⟩ (.int .i64 5)).setCell ⟨w.heap.size, 4, none⟩ (.int .u32 1)).setCell ⟨w.heap.size, 5, none⟩ (.slice ba' 1 bc')) w.heap.size #[.int .i64 1, .int .i64 5, .int .i64 5, .int .i64 5, .int .u32 1, .slice ba' 1 bc'] 64) := (((((hg7.set 0 (.int .i64 1)).set 1 (.int .i64 5)).set 2 (.int .i64 5)).set 3 (.int .i64 5)).set 4 (.int .u32 1)).set 5 (.slice ba' 1 bc'); clear ho7 hb7 hg7))
      all_goals (
        go_wp2
        simp only [Exit.noGoto]
        refine bodyPost_ret (results_next (by rfl) (by rfl) HGZ.out) rfl ?_
        have hb7 : Below w.heap.size w w7 := HX1.out.trans ((HBW6.out.trans (HB7.out.mono HBW6.out.size)).mono HX1.out.size)
        refine ⟨ba', bc', rfl, ⟨?_, HO7.out.byte⟩, (((((hb7.setCell (Nat.le_refl _) _).setCell (Nat.le_refl _) _).setCell (Nat.le_refl _) _).setCell (Nat.le_refl _) _).setCell (Nat.le_refl _) _).setCell (Nat.le_refl _) _⟩
        have hlt : w.heap.size < w6.heap.size := HG6.out.lt
        exact ownsRow_base_a (base := w6.heap.size) (ownsRow_setCell_below (ownsRow_setCell_below (ownsRow_setCell_below (ownsRow_setCell_below (ownsRow_setCell_below (ownsRow_setCell_below HO7.out.row (a := ⟨w.heap.size, 0, none⟩) hlt _) (a := ⟨w.heap.size, 1, none⟩) hlt _) (a := ⟨w.heap.size, 2, none⟩) hlt _) (a := ⟨w.heap.size, 3, none⟩) hlt _) (a := ⟨w.heap.size, 4, none⟩) hlt _) (a := ⟨w.heap.size, 5, none⟩) hlt _) hsz6)
end Go.Proofs.YtidihfhgnjkmaaaGreat
