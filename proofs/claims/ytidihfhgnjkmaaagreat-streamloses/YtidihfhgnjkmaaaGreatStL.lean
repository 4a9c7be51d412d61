/- A pack of texts: St10 St11 St12. -/
import Derived.Test.YtidihfhgnjkmaaaGreatSt9
import Derived.Deep.RegionLaw
import Derived.Deep.CutRange
import Derived.Scope
import Derived.ScopeJumps
import Derived.WalkMore
import Derived.Handy
import Derived.Lib.SlBytesConst
/- Stream.Next at live's stream, for 2. -/
namespace Go.Proofs.YtidihfhgnjkmaaaGreat
set_option maxRecDepth 100000
open Go.RowKit Go.Maps Go.Sort Go.Shelf
variable {Z : Nat → Prop}

set_option maxHeartbeats 8000000 in
theorem st_Next_2 {w : World} {s m : Nat} {a : Option Addr} {n c : Nat} {ba : Option Addr} {bc : Nat} (h : Stm Z w s m a n c news5 [(5, .agg #[.int .i64 5, .int .u32 1, .slice ba 1 bc])]) (hr : Rd w ba 1 [97]) :
    Calls Tryz.prog 21 #[.pointer (some ⟨s, 0, none⟩), .int .i64 0, .int .i64 2] w fun e w' => e = .returned (.tuple #[.agg #[.int .i64 0, .int .i64 0, .int .i64 5, .int .i64 0, .int .u32 0, .slice none 0 0], .int .i64 0]) ∧ Below w.heap.size w w' := by
  obtain rfl : n = 2 := h.ok.rd.size.symm
  obtain ⟨W1, HW1⟩ : ∃ W1, Hid (W1 = w.alloc (.cells #[.int .i64 0, .int .i64 0, .int .i64 0, .int .i64 0, .int .u32 0, .slice none 0 0] 64)) := ⟨_, rfl⟩
  have HX1 : Hid (Below w.heap.size w W1) := by (show Below _ _ _); rw [HW1.out]; exact below_alloc w _
  have HK1 : Hid (Bk W1 w.heap.size #[.int .i64 0, .int .i64 0, .int .i64 0, .int .i64 0, .int .u32 0, .slice none 0 0] 64) := by (show Bk _ _ _ _); rw [HW1.out]; exact Bk.new w _ _
  have HS1 : Hid (Stm Z W1 s m a 2 c news5 [(5, .agg #[.int .i64 5, .int .u32 1, .slice ba 1 bc])]) := h.stay HX1.out
  have HR1 : Hid (Rd W1 ba 1 [97]) := hr.below HX1.out
  have c0 : W1.cell? ⟨s, 0, none⟩ = some (.slice a 2 c) := HS1.out.blk.cell 0 rfl
  clear h hr
  go_enter Tryz.func21, Tryz.ntmps21
  go_upto_region 1 with fail
  rw [← HW1.out]
  refine wp_scope_straight ?_
  go_wp2
  refine wp_label ?_
  go_wp2
  go_loopw [8, 38] (fun t8 t38 wr => ((t8 = .int .i64 1 ∧ t38 = .int .i64 0) ∨ (t8 = .int .i64 5 ∧ t38 = .int .i64 1) ∨ (t8 = .int .i64 6 ∧ t38 = .int .i64 2)) ∧ Hid (Below W1.heap.size W1 wr)) (fun _ t38 _ => 2 - (intOf t38).toNat)
  case atStart => exact ⟨.inl ⟨rfl, rfl⟩, Below.refl _ _⟩
  case round =>
    obtain ⟨hcase, HB⟩ := hrel
    have HSR : Hid (Stm Z wr s m a 2 c news5 [(5, .agg #[.int .i64 5, .int .u32 1, .slice ba 1 bc])]) := HS1.out.stay HB.out
    rcases hcase with ⟨rfl, rfl⟩ | ⟨rfl, rfl⟩ | ⟨rfl, rfl⟩
    · obtain ⟨g, o, rfl, hg, q, hq, d0, d1, d2⟩ := HSR.out.ok.rd.at_ 0 (by omega)
      simp only [news5, List.getElem?_cons_zero, Option.some.injEq] at hq
      subst hq
      simp only [Nat.zero_mul, Nat.add_zero] at d0 d1 d2
      have HBN : Hid (Below W1.heap.size W1 (wr.alloc (.cells #[.int .i64 1, .int .i64 4, .int .i64 2] 62))) := HB.out.alloc HB.out.size _
      go_wp2
      go_roundw
      case rel => exact ⟨.inr (.inl ⟨rfl, rfl⟩), HBN⟩
      case measure => simp [intOf]
    · obtain ⟨g, o, rfl, hg, q, hq, d0, d1, d2⟩ := HSR.out.ok.rd.at_ 1 (by omega)
      simp only [news5, List.getElem?_cons_succ, List.getElem?_cons_zero, Option.some.injEq] at hq
      subst hq
      simp only [Nat.one_mul] at d0 d1 d2
      obtain ⟨W5, HW5⟩ : ∃ W5, Hid (W5 = wr.alloc (.cells #[.int .i64 5, .int .i64 5, .int .i64 1] 62)) := ⟨_, rfl⟩
      have HB5 : Hid (Below W1.heap.size W1 W5) := by (show Below _ _ _); rw [HW5.out]; exact HB.out.alloc HB.out.size _
      have HBR5 : Hid (Below wr.heap.size wr W5) := by (show Below _ _ _); rw [HW5.out]; exact below_alloc wr _
      have HK5 : Hid (Bk W5 wr.heap.size #[.int .i64 5, .int .i64 5, .int .i64 1] 62) := by (show Bk _ _ _ _); rw [HW5.out]; exact Bk.new wr _ _
      have HS5 : Hid (Stm Z W5 s m (some ⟨g, o, none⟩) 2 c news5 [(5, .agg #[.int .i64 5, .int .u32 1, .slice ba 1 bc])]) := HSR.out.stay HBR5.out
      have HFS : Hid (∀ W, Below W5.heap.size W5 W → Calls Tryz.prog 46 #[.pointer (some ⟨s, 0, none⟩), .int .i64 5, .int .i64 5, .int .u32 2] W fun e w' => e = .returned (.tuple #[.agg #[.int .i64 0, .int .u32 0, .slice none 0 0], .bool false]) ∧ Below W.heap.size W w') := fun W hW => st_first_no (HS5.out.stay hW)
      have x1 : W5.drew.cell? ⟨wr.heap.size, 1, none⟩ = some (.int .i64 5) := HK5.out.cell 1 rfl
      have hbz := (below_alloc W5 (.cells #[.int .i64 0, .int .u32 0, .slice none 0 0] 54)).drew
      have x1b : (W5.alloc (.cells #[.int .i64 0, .int .u32 0, .slice none 0 0] 54)).drew.cell? ⟨wr.heap.size, 1, none⟩ = some (.int .i64 5) := (HK5.out.stay hbz).cell 1 rfl
      have HBZ : Hid (Below W5.heap.size W5 (W5.alloc (.cells #[.int .i64 0, .int .u32 0, .slice none 0 0] 54)).drew) := hbz
      have HZK : Hid (Bk (W5.alloc (.cells #[.int .i64 0, .int .u32 0, .slice none 0 0] 54)).drew W5.heap.size #[.int .i64 0, .int .u32 0, .slice none 0 0] 54) := Bk.new W5 _ _
      clear hbz
      have hsh : ∀ W, (Op.shift BinOp.shl IntKind.u32 1 IntKind.i64 (IntKind.i64.wrap 1)).run Tryz.prog W = .ok (.int .u32 2) W := fun W => rfl
      go_upto_region 14 with fail
      rw [← HW5.out]
      go_cut [11, 12] from 39 to 86 (fun v11 v12 wx => ∃ q : Nat, v11 = .pointer (some ⟨q, 0, none⟩) ∧ v12 = .bool false ∧ Hid (Bk wx q #[.int .i64 0, .int .u32 0, .slice none 0 0] 54) ∧ Hid (W5.heap.size ≤ q) ∧ Hid (Below W5.heap.size W5 wx))
      case first =>
        rename_i hJ hM
        go_region_law (first
          | (go_simp; go_at_call 46; first
              | (refine (HFS.out W5.drew (Below.refl _ _).drew).mono ?_; rintro e w6 ⟨rfl, hb6⟩; have HB6 : Hid (Below W5.heap.size W5 w6) := (Below.refl W5.heap.size W5).drew.trans hb6; clear hb6)
              | (refine (HFS.out (W5.alloc (.cells #[.int .i64 0, .int .u32 0, .slice none 0 0] 54)).drew HBZ.out).mono ?_; rintro e w6 ⟨rfl, hb6⟩; have HB6 : Hid (Below W5.heap.size W5 w6) := HBZ.out.trans (hb6.mono HBZ.out.size); have hk6 := HZK.out.stay hb6; have y0 : w6.cell? ⟨W5.heap.size, 0, none⟩ = some (.int .i64 0) := hk6.cell 0 rfl; have y1 : w6.cell? ⟨W5.heap.size, 1, none⟩ = some (.int .u32 0) := hk6.cell 1 rfl; have y2 : w6.cell? ⟨W5.heap.size, 2, none⟩ = some (.slice none 0 0) := hk6.cell 2 rfl; have z0 := hk6.free 0; have z1 := hk6.free 1; have z2 := hk6.free 2; have HKZ : Hid (Bk (((w6.setCell ⟨W5.heap.size, 0, none⟩ (.int .i64 0)).setCell ⟨W5.heap.size, 1, none⟩ (.int .u32 0)).setCell ⟨W5.heap.size, 2, none⟩ (.slice none 0 0)) W5.heap.size #[.int .i64 0, .int .u32 0, .slice none 0 0] 54) := ((hk6.set 0 (.int .i64 0)).set 1 (.int .u32 0)).set 2 (.slice none 0 0); clear hb6 hk6)))
        all_goals (
          refine hM _ _ ?_
          go_meet
          first
            | exact ⟨w6.heap.size, rfl, rfl, Bk.new w6 _ _, HB6.out.size, HB6.out.alloc HB6.out.size _⟩
            | exact ⟨W5.heap.size, rfl, rfl, HKZ, Nat.le_refl _, ((HB6.out.setCell (Nat.le_refl _) _).setCell (Nat.le_refl _) _).setCell (Nat.le_refl _) _⟩)
      case rest =>
      obtain ⟨q11, hv11, hv12, HK6, HQ6, HB6⟩ := hcut
      obtain ⟨w6, hwp⟩ : ∃ W, W = wc := ⟨_, rfl⟩
      subst hwp
      subst hv11 hv12
      have HBW6 : Hid (Below W1.heap.size W1 w6) := HB5.out.trans (HB6.out.mono HB5.out.size)
      have j1 : w6.cell? ⟨wr.heap.size, 1, none⟩ = some (.int .i64 5) := (HK5.out.stay HB6.out).cell 1 rfl
      go_wp2
      go_roundw
      case rel => exact ⟨.inr (.inr ⟨rfl, rfl⟩), HBW6⟩
      case measure => simp [intOf]
    · have hg6 := HK1.out.stay HB.out
      have n0 : wr.cell? ⟨w.heap.size, 0, none⟩ = some (.int .i64 0) := hg6.cell 0 rfl
      have n1 : wr.cell? ⟨w.heap.size, 1, none⟩ = some (.int .i64 0) := hg6.cell 1 rfl
      have n2 : wr.cell? ⟨w.heap.size, 2, none⟩ = some (.int .i64 0) := hg6.cell 2 rfl
      have n3 : wr.cell? ⟨w.heap.size, 3, none⟩ = some (.int .i64 0) := hg6.cell 3 rfl
      have n4 : wr.cell? ⟨w.heap.size, 4, none⟩ = some (.int .u32 0) := hg6.cell 4 rfl
      have n5 : wr.cell? ⟨w.heap.size, 5, none⟩ = some (.slice none 0 0) := hg6.cell 5 rfl
      have p0 := hg6.free 0
      have p1 := hg6.free 1
      have p2 := hg6.free 2
      have p3 := hg6.free 3
      have p4 := hg6.free 4
      have p5 := hg6.free 5
      have HGZ : Hid (Bk ((((((wr.setCell ⟨w.heap.size, 0, none⟩ (.int .i64 0)).setCell ⟨w.heap.size, 1, none⟩ (.int .i64 0)).setCell ⟨w.heap.size, 2, none⟩ (.int .i64 5)).setCell ⟨w.heap.size, 3, none⟩ (.int .i64 0)).setCell ⟨w.heap.size, 4, none⟩ (.int .u32 0)).setCell ⟨w.heap.size, 5, none⟩ (.slice none 0 0)) w.heap.size #[.int .i64 0, .int .i64 0, .int .i64 5, .int .i64 0, .int .u32 0, .slice none 0 0] 64) := (((((hg6.set 0 (.int .i64 0)).set 1 (.int .i64 0)).set 2 (.int .i64 5)).set 3 (.int .i64 0)).set 4 (.int .u32 0)).set 5 (.slice none 0 0)
      clear hg6
      go_wp2
      simp only [Exit.noGoto]
      refine bodyPost_ret (results_next (by rfl) (by rfl) HGZ.out) rfl ?_
      have hb7 : Below w.heap.size w wr := HX1.out.trans (HB.out.mono HX1.out.size)
      exact ⟨rfl, (((((hb7.setCell (Nat.le_refl _) _).setCell (Nat.le_refl _) _).setCell (Nat.le_refl _) _).setCell (Nat.le_refl _) _).setCell (Nat.le_refl _) _).setCell (Nat.le_refl _) _⟩
end Go.Proofs.YtidihfhgnjkmaaaGreat
/- grapevinelaw15.news, live. -/
namespace Go.Proofs.YtidihfhgnjkmaaaGreat
set_option maxRecDepth 100000
open Go.RowKit Go.Maps Go.Sort Go.Shelf

theorem results_news {w : World} {tmps : Array Value} {g : Nat} {c0 c1 c2 c3 c4 c5 c6 c7 : Value} (h0 : tmps[0]?.getD undef = .pointer (some ⟨g, 0, none⟩)) (k : Bk w g #[c0, c1, c2, c3, c4, c5, c6, c7] 33) : (results Tryz.f31 tmps).run Tryz.prog w = .ok (.agg #[c0, c1, c2, c3, c4, c5, c6, c7]) w := by
  have k0 : w.cell? ⟨g, 0, none⟩ = some c0 := k.cell 0 rfl
  have k1 : w.cell? ⟨g, 1, none⟩ = some c1 := k.cell 1 rfl
  have k2 : w.cell? ⟨g, 2, none⟩ = some c2 := k.cell 2 rfl
  have k3 : w.cell? ⟨g, 3, none⟩ = some c3 := k.cell 3 rfl
  have k4 : w.cell? ⟨g, 4, none⟩ = some c4 := k.cell 4 rfl
  have k5 : w.cell? ⟨g, 5, none⟩ = some c5 := k.cell 5 rfl
  have k6 : w.cell? ⟨g, 6, none⟩ = some c6 := k.cell 6 rfl
  have k7 : w.cell? ⟨g, 7, none⟩ = some c7 := k.cell 7 rfl
  simp [results, Tryz.results31, go_sem, h0, k0, k1, k2, k3, k4, k5, k6, k7]
set_option maxHeartbeats 4000000 in
theorem law_news (w : World) : Calls Tryz.prog 31 #[] w fun e w' => ∃ sa sc ia ic, e = .returned (newsP.val sa 1 sc ia 1 ic) ∧ PcRd w' newsP sa 1 sc ia 1 ic ∧ Below w.heap.size w w' := by
  obtain ⟨W1, HW1⟩ : ∃ W1, Hid (W1 = w.alloc (.cells #[.int .i64 0, .int .i64 0, .int .i64 0, .int .i64 0, .int .i64 0, .int .i64 0, .slice none 0 0, .slice none 0 0] 33)) := ⟨_, rfl⟩
  have HX1 : Hid (Below w.heap.size w W1) := by (show Below _ _ _); rw [HW1.out]; exact below_alloc w _
  have HK1 : Hid (Bk W1 w.heap.size #[.int .i64 0, .int .i64 0, .int .i64 0, .int .i64 0, .int .i64 0, .int .i64 0, .slice none 0 0, .slice none 0 0] 33) := by (show Bk _ _ _ _); rw [HW1.out]; exact Bk.new w _ _
  have e1 : (W1.alloc (.cells #[.int .i64 1, .int .i64 4, .int .i64 2] 62)).heap.size = W1.heap.size + 1 := by simp
  have e2 : ((W1.alloc (.cells #[.int .i64 1, .int .i64 4, .int .i64 2] 62)).alloc (.cells #[.int .u8 97] 5 (1, 2))).heap.size = W1.heap.size + 2 := by simp
  have hcv : (convert 52 52 (.slice (some ⟨W1.heap.size + 1, 0, none⟩) 1 1)).run Tryz.prog ((W1.alloc (.cells #[.int .i64 1, .int .i64 4, .int .i64 2] 62)).alloc (.cells #[.int .u8 97] 5)) = .ok (.slice (some ⟨W1.heap.size + 1, 0, none⟩) 1 1) ((W1.alloc (.cells #[.int .i64 1, .int .i64 4, .int .i64 2] 62)).alloc (.cells #[.int .u8 97] 5 (1, 2))) := by
    have := Go.Lib.run_convert_bytes_const (P := Tryz.prog) (W1.alloc (.cells #[.int .i64 1, .int .i64 4, .int .i64 2] 62)) 52 5 #[.int .u8 97] 1 1 Tryz.underlying52 Tryz.underlying5
    rw [e1] at this
    exact this
  obtain ⟨W2, HW2⟩ : ∃ W2, Hid (W2 = ((W1.alloc (.cells #[.int .i64 1, .int .i64 4, .int .i64 2] 62)).alloc (.cells #[.int .u8 97] 5 (1, 2))).alloc (.cells #[.int .i64 5, .int .u32 1, .slice (some ⟨W1.heap.size + 1, 0, none⟩) 1 1] 54)) := ⟨_, rfl⟩
  have HX2 : Hid (Below W1.heap.size W1 W2) := by (show Below _ _ _); rw [HW2.out]; exact ((below_alloc W1 _).alloc (by omega) _).alloc (by omega) _
  have HKS : Hid (Bk W2 W1.heap.size #[.int .i64 1, .int .i64 4, .int .i64 2] 62) := by (show Bk _ _ _ _); rw [HW2.out]; exact ((Bk.new W1 _ _).stay (below_alloc _ _)).stay (below_alloc _ _)
  have HKB : Hid (W2.heap[W1.heap.size + 1]? = some (.cells #[.int .u8 97] 5 (1, 2))) := by
    (show _ = _)
    rw [HW2.out, (below_alloc ((W1.alloc (.cells #[.int .i64 1, .int .i64 4, .int .i64 2] 62)).alloc (.cells #[.int .u8 97] 5 (1, 2))) _).block (W1.heap.size + 1) (by omega)]
    have := heap_alloc_new (W1.alloc (.cells #[.int .i64 1, .int .i64 4, .int .i64 2] 62)) (.cells #[.int .u8 97] 5 (1, 2))
    rw [e1] at this
    exact this
  have HKI : Hid (Bk W2 (W1.heap.size + 2) #[.int .i64 5, .int .u32 1, .slice (some ⟨W1.heap.size + 1, 0, none⟩) 1 1] 54) := by
    (show Bk _ _ _ _)
    rw [HW2.out]
    have := Bk.new ((W1.alloc (.cells #[.int .i64 1, .int .i64 4, .int .i64 2] 62)).alloc (.cells #[.int .u8 97] 5 (1, 2))) #[.int .i64 5, .int .u32 1, .slice (some ⟨W1.heap.size + 1, 0, none⟩) 1 1] 54
    rw [e2] at this
    exact this
  have hk2 := HK1.out.stay HX2.out
  have d0 : (((W1.alloc (.cells #[.int .i64 1, .int .i64 4, .int .i64 2] 62)).alloc (.cells #[.int .u8 97] 5 (1, 2))).alloc (.cells #[.int .i64 5, .int .u32 1, .slice (some ⟨W1.heap.size + 1, 0, none⟩) 1 1] 54)).cell? ⟨w.heap.size, 0, none⟩ = some (.int .i64 0) := by rw [← HW2.out]; exact hk2.cell 0 rfl
  have d1 : (((W1.alloc (.cells #[.int .i64 1, .int .i64 4, .int .i64 2] 62)).alloc (.cells #[.int .u8 97] 5 (1, 2))).alloc (.cells #[.int .i64 5, .int .u32 1, .slice (some ⟨W1.heap.size + 1, 0, none⟩) 1 1] 54)).cell? ⟨w.heap.size, 1, none⟩ = some (.int .i64 0) := by rw [← HW2.out]; exact hk2.cell 1 rfl
  have d2 : (((W1.alloc (.cells #[.int .i64 1, .int .i64 4, .int .i64 2] 62)).alloc (.cells #[.int .u8 97] 5 (1, 2))).alloc (.cells #[.int .i64 5, .int .u32 1, .slice (some ⟨W1.heap.size + 1, 0, none⟩) 1 1] 54)).cell? ⟨w.heap.size, 2, none⟩ = some (.int .i64 0) := by rw [← HW2.out]; exact hk2.cell 2 rfl
  have d3 : (((W1.alloc (.cells #[.int .i64 1, .int .i64 4, .int .i64 2] 62)).alloc (.cells #[.int .u8 97] 5 (1, 2))).alloc (.cells #[.int .i64 5, .int .u32 1, .slice (some ⟨W1.heap.size + 1, 0, none⟩) 1 1] 54)).cell? ⟨w.heap.size, 3, none⟩ = some (.int .i64 0) := by rw [← HW2.out]; exact hk2.cell 3 rfl
  have d4 : (((W1.alloc (.cells #[.int .i64 1, .int .i64 4, .int .i64 2] 62)).alloc (.cells #[.int .u8 97] 5 (1, 2))).alloc (.cells #[.int .i64 5, .int .u32 1, .slice (some ⟨W1.heap.size + 1, 0, none⟩) 1 1] 54)).cell? ⟨w.heap.size, 4, none⟩ = some (.int .i64 0) := by rw [← HW2.out]; exact hk2.cell 4 rfl
  have d5 : (((W1.alloc (.cells #[.int .i64 1, .int .i64 4, .int .i64 2] 62)).alloc (.cells #[.int .u8 97] 5 (1, 2))).alloc (.cells #[.int .i64 5, .int .u32 1, .slice (some ⟨W1.heap.size + 1, 0, none⟩) 1 1] 54)).cell? ⟨w.heap.size, 5, none⟩ = some (.int .i64 0) := by rw [← HW2.out]; exact hk2.cell 5 rfl
  have d6 : (((W1.alloc (.cells #[.int .i64 1, .int .i64 4, .int .i64 2] 62)).alloc (.cells #[.int .u8 97] 5 (1, 2))).alloc (.cells #[.int .i64 5, .int .u32 1, .slice (some ⟨W1.heap.size + 1, 0, none⟩) 1 1] 54)).cell? ⟨w.heap.size, 6, none⟩ = some (.slice none 0 0) := by rw [← HW2.out]; exact hk2.cell 6 rfl
  have d7 : (((W1.alloc (.cells #[.int .i64 1, .int .i64 4, .int .i64 2] 62)).alloc (.cells #[.int .u8 97] 5 (1, 2))).alloc (.cells #[.int .i64 5, .int .u32 1, .slice (some ⟨W1.heap.size + 1, 0, none⟩) 1 1] 54)).cell? ⟨w.heap.size, 7, none⟩ = some (.slice none 0 0) := by rw [← HW2.out]; exact hk2.cell 7 rfl
  have f0 : (((W1.alloc (.cells #[.int .i64 1, .int .i64 4, .int .i64 2] 62)).alloc (.cells #[.int .u8 97] 5 (1, 2))).alloc (.cells #[.int .i64 5, .int .u32 1, .slice (some ⟨W1.heap.size + 1, 0, none⟩) 1 1] 54)).frozen? ⟨w.heap.size, 0, none⟩ = false := by rw [← HW2.out]; exact hk2.free 0
  have f1 : (((W1.alloc (.cells #[.int .i64 1, .int .i64 4, .int .i64 2] 62)).alloc (.cells #[.int .u8 97] 5 (1, 2))).alloc (.cells #[.int .i64 5, .int .u32 1, .slice (some ⟨W1.heap.size + 1, 0, none⟩) 1 1] 54)).frozen? ⟨w.heap.size, 1, none⟩ = false := by rw [← HW2.out]; exact hk2.free 1
  have f2 : (((W1.alloc (.cells #[.int .i64 1, .int .i64 4, .int .i64 2] 62)).alloc (.cells #[.int .u8 97] 5 (1, 2))).alloc (.cells #[.int .i64 5, .int .u32 1, .slice (some ⟨W1.heap.size + 1, 0, none⟩) 1 1] 54)).frozen? ⟨w.heap.size, 2, none⟩ = false := by rw [← HW2.out]; exact hk2.free 2
  have f3 : (((W1.alloc (.cells #[.int .i64 1, .int .i64 4, .int .i64 2] 62)).alloc (.cells #[.int .u8 97] 5 (1, 2))).alloc (.cells #[.int .i64 5, .int .u32 1, .slice (some ⟨W1.heap.size + 1, 0, none⟩) 1 1] 54)).frozen? ⟨w.heap.size, 3, none⟩ = false := by rw [← HW2.out]; exact hk2.free 3
  have f4 : (((W1.alloc (.cells #[.int .i64 1, .int .i64 4, .int .i64 2] 62)).alloc (.cells #[.int .u8 97] 5 (1, 2))).alloc (.cells #[.int .i64 5, .int .u32 1, .slice (some ⟨W1.heap.size + 1, 0, none⟩) 1 1] 54)).frozen? ⟨w.heap.size, 4, none⟩ = false := by rw [← HW2.out]; exact hk2.free 4
  have f5 : (((W1.alloc (.cells #[.int .i64 1, .int .i64 4, .int .i64 2] 62)).alloc (.cells #[.int .u8 97] 5 (1, 2))).alloc (.cells #[.int .i64 5, .int .u32 1, .slice (some ⟨W1.heap.size + 1, 0, none⟩) 1 1] 54)).frozen? ⟨w.heap.size, 5, none⟩ = false := by rw [← HW2.out]; exact hk2.free 5
  have f6 : (((W1.alloc (.cells #[.int .i64 1, .int .i64 4, .int .i64 2] 62)).alloc (.cells #[.int .u8 97] 5 (1, 2))).alloc (.cells #[.int .i64 5, .int .u32 1, .slice (some ⟨W1.heap.size + 1, 0, none⟩) 1 1] 54)).frozen? ⟨w.heap.size, 6, none⟩ = false := by rw [← HW2.out]; exact hk2.free 6
  have f7 : (((W1.alloc (.cells #[.int .i64 1, .int .i64 4, .int .i64 2] 62)).alloc (.cells #[.int .u8 97] 5 (1, 2))).alloc (.cells #[.int .i64 5, .int .u32 1, .slice (some ⟨W1.heap.size + 1, 0, none⟩) 1 1] 54)).frozen? ⟨w.heap.size, 7, none⟩ = false := by rw [← HW2.out]; exact hk2.free 7
  obtain ⟨W3, HW3⟩ : ∃ W3, Hid (W3 = ((((((((W2.setCell ⟨w.heap.size, 0, none⟩ (.int .i64 1)).setCell ⟨w.heap.size, 1, none⟩ (.int .i64 0)).setCell ⟨w.heap.size, 2, none⟩ (.int .i64 0)).setCell ⟨w.heap.size, 3, none⟩ (.int .i64 0)).setCell ⟨w.heap.size, 4, none⟩ (.int .i64 1)).setCell ⟨w.heap.size, 5, none⟩ (.int .i64 5)).setCell ⟨w.heap.size, 6, none⟩ (.slice (some ⟨W1.heap.size, 0, none⟩) 1 1)).setCell ⟨w.heap.size, 7, none⟩ (.slice (some ⟨W1.heap.size + 2, 0, none⟩) 1 1))) := ⟨_, rfl⟩
  have HK3 : Hid (Bk W3 w.heap.size #[.int .i64 1, .int .i64 0, .int .i64 0, .int .i64 0, .int .i64 1, .int .i64 5, .slice (some ⟨W1.heap.size, 0, none⟩) 1 1, .slice (some ⟨W1.heap.size + 2, 0, none⟩) 1 1] 33) := by
    (show Bk _ _ _ _)
    rw [HW3.out]
    exact (((((((hk2.set 0 (.int .i64 1)).set 1 (.int .i64 0)).set 2 (.int .i64 0)).set 3 (.int .i64 0)).set 4 (.int .i64 1)).set 5 (.int .i64 5)).set 6 (.slice (some ⟨W1.heap.size, 0, none⟩) 1 1)).set 7 (.slice (some ⟨W1.heap.size + 2, 0, none⟩) 1 1)
  have HB3 : Hid (∀ k, k ≠ w.heap.size → W3.heap[k]? = W2.heap[k]?) := by
    (show ∀ _, _)
    intro k hk
    rw [HW3.out]
    iterate 8 rw [heap_setCell_other _ _ k _ hk]
  have hlt : w.heap.size < W1.heap.size := HK1.out.lt
  have HKS3 : Bk W3 W1.heap.size #[.int .i64 1, .int .i64 4, .int .i64 2] 62 := (HB3.out _ (by omega)).trans HKS.out
  have HKB3 : W3.heap[W1.heap.size + 1]? = some (.cells #[.int .u8 97] 5 (1, 2)) := (HB3.out _ (by omega)).trans HKB.out
  have HKI3 : Bk W3 (W1.heap.size + 2) #[.int .i64 5, .int .u32 1, .slice (some ⟨W1.heap.size + 1, 0, none⟩) 1 1] 54 := (HB3.out _ (by omega)).trans HKI.out
  have HP : Hid (PcRd W3 newsP (some ⟨W1.heap.size, 0, none⟩) 1 1 (some ⟨W1.heap.size + 2, 0, none⟩) 1 1) := by
    (show PcRd _ _ _ _ _ _ _ _)
    refine ⟨(Sps.one (base := 0) (q := ⟨1, 4, 2⟩) HKS3 (Nat.zero_le _)).rd, ⟨rfl, .inr ⟨_, 0, rfl, HKI3.lt, fun i q hi => ?_⟩, fun q hq => ?_⟩, Nat.le_refl _, by decide, Nat.le_refl _, by decide⟩
    · match i, hi with
      | 0, hi =>
        cases hi
        refine ⟨HKI3.cell 0 rfl, HKI3.cell 1 rfl, _, 1, 1, HKI3.cell 2 rfl, ⟨rfl, by decide, .inr ⟨_, 0, rfl, (Array.getElem?_eq_some_iff.1 HKB3).1, fun i hi => ?_⟩⟩, fun h => (by cases h), Nat.le_refl _, by decide⟩
        obtain rfl : i = 0 := by omega
        rw [cell_of_row _ _ _ _ _ _ HKB3]
        rfl
    · rcases List.mem_singleton.1 hq with rfl
      decide
  clear HKS3 HKB3 HKI3 hlt
  have HXX : Hid (Below w.heap.size w W3) := by
    (show Below _ _ _)
    rw [HW3.out]
    exact (((((((((HX1.out.trans (HX2.out.mono HX1.out.size)).setCell (Nat.le_refl _) _).setCell (Nat.le_refl _) _).setCell (Nat.le_refl _) _).setCell (Nat.le_refl _) _).setCell (Nat.le_refl _) _).setCell (Nat.le_refl _) _).setCell (Nat.le_refl _) _).setCell (Nat.le_refl _) _)
  clear hk2
  go_enter Tryz.func31, Tryz.ntmps31
  go_upto_region 1 with fail
  rw [← HW1.out]
  clear HK1 HX1 HX2 HKS HKB HKI
  go_wp2
  rw [← HW2.out, ← HW3.out]
  refine bodyPost_ret (results_news (by rfl) HK3.out) rfl ?_
  exact ⟨_, 1, _, 1, rfl, HP.out, HXX.out⟩
end Go.Proofs.YtidihfhgnjkmaaaGreat
/- grapevinelaw15.live; the answers of a nil stream. -/
namespace Go.Proofs.YtidihfhgnjkmaaaGreat
set_option maxRecDepth 100000
open Go.RowKit Go.Maps Go.Sort Go.Shelf
variable {Z : Nat → Prop}

set_option maxHeartbeats 4000000 in
theorem law_live15 (w : World) : Calls Tryz.prog 9 #[] w fun e w' => e = .returned (.bool true) ∧ Below w.heap.size w w' := by
  go_enter Tryz.func9, Tryz.ntmps9
  go_wp2_with fail
  refine (st_New (Z := fun _ => True) w (fun _ _ => trivial)).mono ?_
  rintro e w1 ⟨s, m, rfl, hs1, ⟨z1, z2⟩, hb1⟩
  have HS1 : Hid (Stm (fun _ => True) w1 s m none 0 0 [] []) := hs1
  have HB1 : Hid (Below w.heap.size w w1) := hb1
  clear hs1 hb1
  go_wp2_with fail
  refine (law_news w1).mono ?_
  rintro e w2 ⟨sa, sc, ia, ic, rfl, hp2, hb2⟩
  have HP2 : Hid (PcRd w2 newsP sa 1 sc ia 1 ic) := hp2
  have HS2 : Hid (Stm (fun _ => True) w2 s m none 0 0 [] []) := HS1.out.stay hb2
  have HB2 : Hid (Below w.heap.size w w2) := HB1.out.trans (hb2.mono HB1.out.size)
  clear hp2 hb2 HS1 HB1
  go_wp2_with fail
  refine (st_Learn_news HS2.out HP2.out).mono ?_
  rintro e w3 ⟨rfl, a, n, c, ba, bc, hs3, ho3, ht3⟩
  have HS3 : Hid (Stm (fun _ => True) w3 s m a n c news5 [(5, .agg #[.int .i64 5, .int .u32 1, .slice ba 1 bc])]) := hs3
  have HR3 : Hid (Rd w3 ba 1 [97]) := ho3.rd
  have HB3 : Hid (Below w.heap.size w w3) := Two.below HB2.out ht3 z1 z2 HB2.out.size
  clear hs3 ho3 ht3 HS2 HP2 HB2
  go_wp2_with fail
  refine (st_Next_1 HS3.out HR3.out).mono ?_
  rintro e w4 ⟨ba4, bc4, rfl, ho4, hb4⟩
  obtain ⟨W4, HW4⟩ : ∃ W4, Hid (W4 = w4.alloc (.cells #[.int .i64 1, .int .i64 5, .int .i64 5, .int .i64 5, .int .u32 1, .slice ba4 1 bc4] 64)) := ⟨_, rfl⟩
  have HX4 : Hid (Below w4.heap.size w4 W4) := by (show Below _ _ _); rw [HW4.out]; exact below_alloc w4 _
  have HK4 : Hid (Bk W4 w4.heap.size #[.int .i64 1, .int .i64 5, .int .i64 5, .int .i64 5, .int .u32 1, .slice ba4 1 bc4] 64) := by (show Bk _ _ _ _); rw [HW4.out]; exact Bk.new w4 _ _
  have HS4 : Hid (Stm (fun _ => True) W4 s m a n c news5 [(5, .agg #[.int .i64 5, .int .u32 1, .slice ba 1 bc])]) := (HS3.out.stay hb4).stay HX4.out
  have HR4 : Hid (Rd W4 ba 1 [97]) := (HR3.out.below hb4).below HX4.out
  have HQ4 : Hid (Rd W4 ba4 1 [97]) := ho4.rd.below HX4.out
  have HB4 : Hid (Below w.heap.size w W4) := (HB3.out.trans (hb4.mono HB3.out.size)).trans (HX4.out.mono (Nat.le_trans HB3.out.size hb4.size))
  clear ho4 hb4 HS3 HR3 HB3
  go_wp2_with fail
  rw [← HW4.out]
  refine (st_Next_2 HS4.out HR4.out).mono ?_
  rintro e w5 ⟨rfl, hb5⟩
  obtain ⟨W5, HW5⟩ : ∃ W5, Hid (W5 = w5.alloc (.cells #[.int .i64 0, .int .i64 0, .int .i64 5, .int .i64 0, .int .u32 0, .slice none 0 0] 64)) := ⟨_, rfl⟩
  have HX5 : Hid (Below w5.heap.size w5 W5) := by (show Below _ _ _); rw [HW5.out]; exact below_alloc w5 _
  have hb45 : Below W4.heap.size W4 W5 := hb5.trans (HX5.out.mono hb5.size)
  have HB5 : Hid (Below w.heap.size w W5) := HB4.out.trans (hb45.mono HB4.out.size)
  have hk5 := HK4.out.stay hb45
  have hy5 : Bk W5 w5.heap.size #[.int .i64 0, .int .i64 0, .int .i64 5, .int .i64 0, .int .u32 0, .slice none 0 0] 64 := by rw [HW5.out]; exact Bk.new w5 _ _
  have c0 : W5.cell? ⟨w4.heap.size, 0, none⟩ = some (.int .i64 1) := hk5.cell 0 rfl
  have c1 : W5.cell? ⟨w4.heap.size, 1, none⟩ = some (.int .i64 5) := hk5.cell 1 rfl
  have c5 : W5.cell? ⟨w4.heap.size, 5, none⟩ = some (.slice ba4 1 bc4) := hk5.cell 5 rfl
  have y0 : W5.cell? ⟨w5.heap.size, 0, none⟩ = some (.int .i64 0) := hy5.cell 0 rfl
  have y2 : W5.cell? ⟨w5.heap.size, 2, none⟩ = some (.int .i64 5) := hy5.cell 2 rfl
  have hcv : (convert 52 9 (.slice ba4 1 bc4)).run Tryz.prog W5 = .ok (.string ⟨#[97]⟩) W5 := by
    have := conv_rd (HQ4.out.below hb45) bc4
    exact this
  clear hb5 hb45 hk5 hy5 HS4 HR4 HQ4 HK4 HX4
  go_upto_region 5 with fail
  rw [← HW5.out]
  go_wp2
  go_ret
  exact ⟨rfl, HB5.out⟩
/-! A nil stream. -/
theorem nil_Learn (w : World) (p : Pc) (sa : Option Addr) (sn sc : Nat) (ia : Option Addr) (im ic : Nat) : Calls Tryz.prog 12 #[.pointer none, p.val sa sn sc ia im ic] w fun e w' => e = .returned (.tuple #[.bool false, .int .i64 1]) ∧ Below w.heap.size w w' := by
  obtain ⟨pk, pp, ps, pn, pf, pt, pl, pi⟩ := p
  unfold Pc.val
  simp only
  go_enter Tryz.func12, Tryz.ntmps12
  go_wp2
  go_ret2
  exact ⟨rfl, below_alloc w _⟩
theorem nil_Lose (w : World) (t : Int) : Calls Tryz.prog 23 #[.pointer none, .int .i64 t] w fun e w' => e = .returned (.int .i64 1) ∧ w' = w := by
  go_enter Tryz.func23, Tryz.ntmps23
  go_wp2
  go_ret
  exact ⟨rfl, rfl⟩
theorem nil_Map (w : World) : Calls Tryz.prog 18 #[.pointer none] w fun e w' => e = .returned (.slice none 0 0) ∧ w' = w := by
  go_enter Tryz.func18, Tryz.ntmps18
  go_wp2
  go_ret
  exact ⟨rfl, rfl⟩
theorem nil_Fork (w : World) : Calls Tryz.prog 26 #[.pointer none] w fun e w' => e = .returned (.pointer none) ∧ w' = w := by
  go_enter Tryz.func26, Tryz.ntmps26
  go_wp2
  go_ret
  exact ⟨rfl, rfl⟩
theorem nil_Tell (w : World) (a b c l : Int) : Calls Tryz.prog 10 #[.pointer none, .int .i64 a, .int .i64 b, .int .i64 c, .int .u32 l] w fun e w' => e = .returned (.tuple #[.slice none 0 0, .int .i64 1]) ∧ w' = w := by
  go_enter Tryz.func10, Tryz.ntmps10
  go_wp2
  go_ret2
  exact ⟨rfl, rfl⟩
end Go.Proofs.YtidihfhgnjkmaaaGreat
