/- Stream.first at live's item. -/
import Derived.Test.YtidihfhgnjkmaaaSt7
namespace Go.Proofs.Ytidihfhgnjkmaaa
set_option maxRecDepth 100000
open Go.RowKit Go.Maps Go.Sort Go.Shelf

def itemZ : Value := .agg #[.int .i64 0, .int .u32 0, .slice none 0 0]
theorem Stm.look {w : World} {s m : Nat} {a : Option Addr} {n c : Nat} {l : List Sp} {X : List (Int × Value)} (h : Stm w s m a n c l X) {t : Int} (ht : -9223372036854775808 ≤ t ∧ t ≤ 9223372036854775807) : (Instr.lookup 51 (.map (some m)) (.int .i64 t) false).run Try.prog w = .ok ((getX X t).getD itemZ) w := by
  obtain ⟨v, ps, hrun, hv⟩ := h.items.lookup tkeyed Try.underlying51 (z := itemZ) (Try.zeroValue42 w) (zd := .held itemZ) (zp := []) rfl (tkey_of ht)
  rw [mapD_at] at hv
  rw [hrun]
  have hv : some (DataW.held v, ([] : List MemPlace)) = _ := hv
  simp only [Option.some.injEq, Prod.mk.injEq] at hv
  cases hg : getX X t with
  | none =>
    rw [hg] at hv
    have := hv.1
    simp only [DataW.held.injEq] at this
    rw [this]
    rfl
  | some x =>
    rw [hg] at hv
    have := hv.1
    simp only [DataW.held.injEq] at this
    rw [this]
    rfl
theorem results_first {w : World} {tmps : Array Value} {g : Nat} {c0 c1 c2 b : Value} (h8 : tmps[8]?.getD undef = .pointer (some ⟨g, 0, none⟩)) (h9 : tmps[9]?.getD undef = b) (k : Bk w g #[c0, c1, c2] 42) : (results Try.f42 tmps).run Try.prog w = .ok (.tuple #[.agg #[c0, c1, c2], b]) w := by
  have k0 : w.cell? ⟨g, 0, none⟩ = some c0 := k.cell 0 rfl
  have k1 : w.cell? ⟨g, 1, none⟩ = some c1 := k.cell 1 rfl
  have k2 : w.cell? ⟨g, 2, none⟩ = some c2 := k.cell 2 rfl
  simp [results, Try.results42, go_sem, h8, h9, k0, k1, k2]
set_option maxHeartbeats 4000000 in
theorem st_first_yes {w : World} {s m : Nat} {a : Option Addr} {n c : Nat} {l : List Sp} {ba : Option Addr} {bc : Nat} (h : Stm w s m a n c l [(5, .agg #[.int .i64 5, .int .u32 1, .slice ba 1 bc])]) :
    Calls Try.prog 42 #[.pointer (some ⟨s, 0, none⟩), .int .i64 5, .int .i64 5, .int .u32 1] w fun e w' => e = .returned (.tuple #[.agg #[.int .i64 5, .int .u32 1, .slice ba 1 bc], .bool true]) ∧ Below w.heap.size w w' := by
  obtain ⟨W1, HW1⟩ : ∃ W1, Hid (W1 = w.alloc (.cells #[.int .i64 0, .int .u32 0, .slice none 0 0] 42)) := ⟨_, rfl⟩
  have HX1 : Hid (Below w.heap.size w W1) := by (show Below _ _ _); rw [HW1.out]; exact below_alloc w _
  have HK1 : Hid (Bk W1 w.heap.size #[.int .i64 0, .int .u32 0, .slice none 0 0] 42) := by (show Bk _ _ _ _); rw [HW1.out]; exact Bk.new w _ _
  have HS1 : Hid (Stm W1 s m a n c l [(5, .agg #[.int .i64 5, .int .u32 1, .slice ba 1 bc])]) := h.stay HX1.out
  have c1 : W1.cell? ⟨s, 1, none⟩ = some (.map (some m)) := HS1.out.blk.cell 1 rfl
  have hlk : (Instr.lookup 51 (.map (some m)) (.int .i64 5) false).run Try.prog W1 = .ok (.agg #[.int .i64 5, .int .u32 1, .slice ba 1 bc]) W1 := HS1.out.look (t := 5) (by omega)
  have hbx := below_alloc W1 (.cells #[.int .i64 5, .int .u32 1, .slice ba 1 bc] 42)
  have HBX : Hid (Below w.heap.size w (W1.alloc (.cells #[.int .i64 5, .int .u32 1, .slice ba 1 bc] 42))) := HX1.out.trans (hbx.mono HX1.out.size)
  have hk2 := HK1.out.stay hbx
  have d0 : (W1.alloc (.cells #[.int .i64 5, .int .u32 1, .slice ba 1 bc] 42)).cell? ⟨w.heap.size, 0, none⟩ = some (.int .i64 0) := hk2.cell 0 rfl
  have d1 : (W1.alloc (.cells #[.int .i64 5, .int .u32 1, .slice ba 1 bc] 42)).cell? ⟨w.heap.size, 1, none⟩ = some (.int .u32 0) := hk2.cell 1 rfl
  have d2 : (W1.alloc (.cells #[.int .i64 5, .int .u32 1, .slice ba 1 bc] 42)).cell? ⟨w.heap.size, 2, none⟩ = some (.slice none 0 0) := hk2.cell 2 rfl
  have f0 := hk2.free 0
  have f1 := hk2.free 1
  have f2 := hk2.free 2
  have HM : Hid (Bk ((((W1.alloc (.cells #[.int .i64 5, .int .u32 1, .slice ba 1 bc] 42)).setCell ⟨w.heap.size, 0, none⟩ (.int .i64 5)).setCell ⟨w.heap.size, 1, none⟩ (.int .u32 1)).setCell ⟨w.heap.size, 2, none⟩ (.slice ba 1 bc)) w.heap.size #[.int .i64 5, .int .u32 1, .slice ba 1 bc] 42) := ((hk2.set 0 (.int .i64 5)).set 1 (.int .u32 1)).set 2 (.slice ba 1 bc)
  have HBM : Hid (Below w.heap.size w ((((W1.alloc (.cells #[.int .i64 5, .int .u32 1, .slice ba 1 bc] 42)).setCell ⟨w.heap.size, 0, none⟩ (.int .i64 5)).setCell ⟨w.heap.size, 1, none⟩ (.int .u32 1)).setCell ⟨w.heap.size, 2, none⟩ (.slice ba 1 bc))) := ((HBX.out.setCell (Nat.le_refl _) _).setCell (Nat.le_refl _) _).setCell (Nat.le_refl _) _
  clear h hbx hk2 HK1 HX1 HBX HS1
  go_enter Try.func42, Try.ntmps42
  go_upto_region 1 with fail
  rw [← HW1.out]
  go_wp2
  go_loopw [10] (fun t10 wr => t10 = .int .i64 5 ∧ wr = W1) (fun _ _ => 0)
  case atStart => exact ⟨rfl, rfl⟩
  case round =>
    obtain ⟨rfl, rfl⟩ := hrel
    go_wp2
    refine bodyPost_ret (results_first (by rfl) (by rfl) HM.out) rfl ?_
    exact ⟨rfl, HBM.out⟩
set_option maxHeartbeats 4000000 in
theorem st_first_no {w : World} {s m : Nat} {a : Option Addr} {n c : Nat} {l : List Sp} {ba : Option Addr} {bc : Nat} (h : Stm w s m a n c l [(5, .agg #[.int .i64 5, .int .u32 1, .slice ba 1 bc])]) :
    Calls Try.prog 42 #[.pointer (some ⟨s, 0, none⟩), .int .i64 5, .int .i64 5, .int .u32 2] w fun e w' => e = .returned (.tuple #[itemZ, .bool false]) ∧ Below w.heap.size w w' := by
  obtain ⟨W1, HW1⟩ : ∃ W1, Hid (W1 = w.alloc (.cells #[.int .i64 0, .int .u32 0, .slice none 0 0] 42)) := ⟨_, rfl⟩
  have HX1 : Hid (Below w.heap.size w W1) := by (show Below _ _ _); rw [HW1.out]; exact below_alloc w _
  have HK1 : Hid (Bk W1 w.heap.size #[.int .i64 0, .int .u32 0, .slice none 0 0] 42) := by (show Bk _ _ _ _); rw [HW1.out]; exact Bk.new w _ _
  have HS1 : Hid (Stm W1 s m a n c l [(5, .agg #[.int .i64 5, .int .u32 1, .slice ba 1 bc])]) := h.stay HX1.out
  have c1 : W1.cell? ⟨s, 1, none⟩ = some (.map (some m)) := HS1.out.blk.cell 1 rfl
  have hlk : (Instr.lookup 51 (.map (some m)) (.int .i64 5) false).run Try.prog W1 = .ok (.agg #[.int .i64 5, .int .u32 1, .slice ba 1 bc]) W1 := HS1.out.look (t := 5) (by omega)
  obtain ⟨W2, HW2⟩ : ∃ W2, Hid (W2 = W1.alloc (.cells #[.int .i64 5, .int .u32 1, .slice ba 1 bc] 42)) := ⟨_, rfl⟩
  have hbx : Below W1.heap.size W1 W2 := by rw [HW2.out]; exact below_alloc W1 _
  have HBX : Hid (Below w.heap.size w W2) := HX1.out.trans (hbx.mono HX1.out.size)
  have hk2 : Bk W2 w.heap.size #[.int .i64 0, .int .u32 0, .slice none 0 0] 42 := HK1.out.stay hbx
  have d0 : W2.cell? ⟨w.heap.size, 0, none⟩ = some (.int .i64 0) := hk2.cell 0 rfl
  have d1 : W2.cell? ⟨w.heap.size, 1, none⟩ = some (.int .u32 0) := hk2.cell 1 rfl
  have d2 : W2.cell? ⟨w.heap.size, 2, none⟩ = some (.slice none 0 0) := hk2.cell 2 rfl
  have f0 := hk2.free 0
  have f1 := hk2.free 1
  have f2 := hk2.free 2
  have HM : Hid (Bk (((W2.setCell ⟨w.heap.size, 0, none⟩ (.int .i64 0)).setCell ⟨w.heap.size, 1, none⟩ (.int .u32 0)).setCell ⟨w.heap.size, 2, none⟩ (.slice none 0 0)) w.heap.size #[.int .i64 0, .int .u32 0, .slice none 0 0] 42) := ((hk2.set 0 (.int .i64 0)).set 1 (.int .u32 0)).set 2 (.slice none 0 0)
  have HBM : Hid (Below w.heap.size w (((W2.setCell ⟨w.heap.size, 0, none⟩ (.int .i64 0)).setCell ⟨w.heap.size, 1, none⟩ (.int .u32 0)).setCell ⟨w.heap.size, 2, none⟩ (.slice none 0 0))) := ((HBX.out.setCell (Nat.le_refl _) _).setCell (Nat.le_refl _) _).setCell (Nat.le_refl _) _
  clear h hbx hk2 HK1 HX1 HBX HS1
  go_enter Try.func42, Try.ntmps42
  go_upto_region 1 with fail
  rw [← HW1.out]
  go_wp2
  go_loopw [10] (fun t10 wr => (t10 = .int .i64 5 ∧ wr = W1) ∨ (t10 = .int .i64 6 ∧ wr = W2)) (fun t10 _ => 6 - (intOf t10).toNat)
  case atStart => exact .inl ⟨rfl, rfl⟩
  case round =>
    rcases hrel with ⟨rfl, rfl⟩ | ⟨rfl, rfl⟩
    · go_wp2
      go_roundw
      case rel => exact .inr ⟨rfl, HW2.out.symm⟩
      case measure => simp [intOf]
    · go_wp2
      refine bodyPost_ret (results_first (by rfl) (by rfl) HM.out) rfl ?_
      exact ⟨rfl, HBM.out⟩
end Go.Proofs.Ytidihfhgnjkmaaa
