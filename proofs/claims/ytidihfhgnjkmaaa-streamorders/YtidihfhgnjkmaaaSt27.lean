/- Stream.Item of a tick whose item is kept. -/
import Derived.Test.YtidihfhgnjkmaaaSt26
namespace Go.Proofs.Ytidihfhgnjkmaaa
set_option maxRecDepth 100000
open Go.RowKit Go.Maps Go.Sort Go.Shelf

theorem results_ItemK {w : World} {tmps : Array Value} {g : Nat} {c0 c1 c2 b : Value} (h4 : tmps[4]?.getD undef = .pointer (some ⟨g, 0, none⟩)) (h5 : tmps[5]?.getD undef = b) (k : Bk w g #[c0, c1, c2] 42) : (results Try.f9 tmps).run Try.prog w = .ok (.tuple #[.agg #[c0, c1, c2], b]) w := by
  have k0 : w.cell? ⟨g, 0, none⟩ = some c0 := k.cell 0 rfl
  have k1 : w.cell? ⟨g, 1, none⟩ = some c1 := k.cell 1 rfl
  have k2 : w.cell? ⟨g, 2, none⟩ = some c2 := k.cell 2 rfl
  simp [results, Try.results9, go_sem, h4, h5, k0, k1, k2]
theorem Stm.look_ok {w : World} {s m : Nat} {a : Option Addr} {n c : Nat} {l : List Sp} {X : List (Int × Value)} (h : Stm w s m a n c l X) {t : Int} (ht : -9223372036854775808 ≤ t ∧ t ≤ 9223372036854775807) {v : Value} (hg : getX X t = some v) : (Instr.lookup 51 (.map (some m)) (.int .i64 t) true).run Try.prog w = .ok (.tuple #[v, .bool true]) w := by
  obtain ⟨v2, ps, hrun, hv⟩ := h.items.look_ok tkeyed Try.underlying51 (z := itemZ) (Try.zeroValue42 w) (zd := .held itemZ) (zp := []) rfl (tkey_of ht)
  rw [mapD_at, hg] at hv
  rw [hrun, mapD_has, hg]
  have hv : some (DataW.held v2, ([] : List MemPlace)) = _ := hv
  simp only [Option.some.injEq, Prod.mk.injEq, DataW.held.injEq] at hv
  rw [hv.1]
  rfl
set_option maxHeartbeats 4000000 in
theorem st_Item {w : World} {s m : Nat} {l : List Sp} {I : Int → Option It} {a : Option Addr} {n c : Nat} {X : List (Int × Value)} (h : Strm w s m l I a n c X) {t : Int} {q : It} (hq : I t = some q) (ht : -9223372036854775808 ≤ t ∧ t ≤ 9223372036854775807) :
    Calls Try.prog 9 #[.pointer (some ⟨s, 0, none⟩), .int .i64 t] w fun e w' => ∃ ba bc, e = .returned (.tuple #[.agg #[.int .i64 q.tick, .int .u32 q.for_, .slice ba q.body.length bc], .bool true]) ∧ Own w' w.heap.size ba q.body.length bc q.body ∧ Below w.heap.size w w' := by
  have hi := h.its t
  rw [hq] at hi
  obtain ⟨h1, h2, h3, da, dc, h4, h5⟩ := hi
  obtain ⟨qt, qf, qb⟩ := q
  simp only at h1 h2 h3 h4 h5
  subst h1
  obtain ⟨N, HN⟩ : ∃ N, Hid (qb.length = N) := ⟨_, rfl⟩
  simp only
  rw [HN.out] at h3 h4 h5 ⊢
  obtain ⟨W1, HW1⟩ : ∃ W1, Hid (W1 = w.alloc (.cells #[.int .i64 0, .int .u32 0, .slice none 0 0] 42)) := ⟨_, rfl⟩
  have HX1 : Hid (Below w.heap.size w W1) := by (show Below _ _ _); rw [HW1.out]; exact below_alloc w _
  have HK1 : Hid (Bk W1 w.heap.size #[.int .i64 0, .int .u32 0, .slice none 0 0] 42) := by (show Bk _ _ _ _); rw [HW1.out]; exact Bk.new w _ _
  have hst := h.stm.stay HX1.out
  have c1 : W1.cell? ⟨s, 1, none⟩ = some (.map (some m)) := hst.blk.cell 1 rfl
  have hlk : (Instr.lookup 51 (.map (some m)) (.int .i64 qt) true).run Try.prog W1 = .ok (.tuple #[.agg #[.int .i64 qt, .int .u32 qf, .slice da N dc], .bool true]) W1 := hst.look_ok ht h4
  obtain ⟨W2, HW2⟩ : ∃ W2, Hid (W2 = W1.alloc (.cells #[.int .i64 qt, .int .u32 qf, .slice da N dc] 42)) := ⟨_, rfl⟩
  have HX2 : Hid (Below W1.heap.size W1 W2) := by (show Below _ _ _); rw [HW2.out]; exact below_alloc W1 _
  have hk2 : Bk W2 W1.heap.size #[.int .i64 qt, .int .u32 qf, .slice da N dc] 42 := by rw [HW2.out]; exact Bk.new W1 _ _
  have HXX : Hid (Below w.heap.size w W2) := HX1.out.trans (HX2.out.mono HX1.out.size)
  have HC : Hid (Calls Try.prog 21 #[.agg #[.int .i64 qt, .int .u32 qf, .slice da N dc]] W2 fun e w' => ∃ a' c', e = .returned (.agg #[.int .i64 qt, .int .u32 qf, .slice a' N c']) ∧ Own w' W2.heap.size a' N c' qb ∧ Below W2.heap.size W2 w') := st_cloned qt qf da N dc qb W2 (h5.below HXX.out) (by omega)
  have i0 : W2.cell? ⟨W1.heap.size, 0, none⟩ = some (.int .i64 qt) := hk2.cell 0 rfl
  have i1 : W2.cell? ⟨W1.heap.size, 1, none⟩ = some (.int .u32 qf) := hk2.cell 1 rfl
  have i2 : W2.cell? ⟨W1.heap.size, 2, none⟩ = some (.slice da N dc) := hk2.cell 2 rfl
  have HK2 : Hid (Bk W2 w.heap.size #[.int .i64 0, .int .u32 0, .slice none 0 0] 42) := HK1.out.stay HX2.out
  have hlt2 : w.heap.size < W2.heap.size := HK2.out.lt
  clear h h4 h5 hst hk2 HK1 HX1
  go_enter Try.func9, Try.ntmps9
  go_upto_region 1 with fail
  rw [← HW1.out]
  go_upto_region 4 with fail
  rw [← HW2.out]
  go_wp2_with fail
  refine HC.out.mono ?_
  rintro e w3 ⟨ba, bc, rfl, ho, hb3⟩
  have hk3 := HK2.out.stay hb3
  have d0 : w3.cell? ⟨w.heap.size, 0, none⟩ = some (.int .i64 0) := hk3.cell 0 rfl
  have d1 : w3.cell? ⟨w.heap.size, 1, none⟩ = some (.int .u32 0) := hk3.cell 1 rfl
  have d2 : w3.cell? ⟨w.heap.size, 2, none⟩ = some (.slice none 0 0) := hk3.cell 2 rfl
  have f0 := hk3.free 0
  have f1 := hk3.free 1
  have f2 := hk3.free 2
  have HO : Hid (Own w3 W2.heap.size ba N bc qb) := ho
  have HB3 : Hid (Below w.heap.size w w3) := HXX.out.trans (hb3.mono HXX.out.size)
  have HM : Hid (Bk (((w3.setCell ⟨w.heap.size, 0, none⟩ (.int .i64 qt)).setCell ⟨w.heap.size, 1, none⟩ (.int .u32 qf)).setCell ⟨w.heap.size, 2, none⟩ (.slice ba N bc)) w.heap.size #[.int .i64 qt, .int .u32 qf, .slice ba N bc] 42) := ((hk3.set 0 (.int .i64 qt)).set 1 (.int .u32 qf)).set 2 (.slice ba N bc)
  clear ho hb3 hk3 HC i0 i1 i2 c1 hlk
  go_wp2
  refine bodyPost_ret (results_ItemK (by rfl) (by rfl) HM.out) rfl ?_
  refine ⟨ba, bc, rfl, ⟨?_, HO.out.byte⟩, ((HB3.out.setCell (Nat.le_refl _) _).setCell (Nat.le_refl _) _).setCell (Nat.le_refl _) _⟩
  exact ownsRow_base_a (base := W2.heap.size) (ownsRow_setCell_below (ownsRow_setCell_below (ownsRow_setCell_below HO.out.row (a := ⟨w.heap.size, 0, none⟩) hlt2 _) (a := ⟨w.heap.size, 1, none⟩) hlt2 _) (a := ⟨w.heap.size, 2, none⟩) hlt2 _) (by omega)
end Go.Proofs.Ytidihfhgnjkmaaa
