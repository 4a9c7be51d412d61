/- A pack of texts: EvL11 EvL12. -/
import Derived.Test.YtghajmcohdedlaaEvL10
/- evlog: release, where nothing is released. -/
namespace Go.Proofs.Ytghajmcohdedlaa
open Go.RowKit

theorem rel_one (w : World) (bx : Nat) (t : Nat) (r : Rc) (hb : Blk w bx #[.int .i64 (t : Int)] 3) : Calls Try.prog 67 #[.agg (rcc r).toArray, .pointer (some ⟨bx, 0, none⟩)] w fun e w' => e = .returned (.bool (decide (r.tick ≤ t))) ∧ Below w.heap.size w w' := by
  have HE : Hid (decide ((r.tick : Int) ≤ (t : Int)) = decide (r.tick ≤ t)) := by (show _ = _); rw [decide_eq_decide]; omega
  have k0 : (w.alloc (.cells (rcc r).toArray 78)).cell? ⟨w.heap.size, 0, none⟩ = some (.int .i64 (r.tick : Int)) := (Blk.new w _ _).cell 0 rfl
  have b0 : (w.alloc (.cells (rcc r).toArray 78)).cell? ⟨bx, 0, none⟩ = some (.int .i64 (t : Int)) := (hb.stay (below_alloc _ _)).cell 0 rfl
  have HB : Hid (Below w.heap.size w (w.alloc (.cells (rcc r).toArray 78))) := below_alloc _ _
  unfold rcc at *
  clear hb
  go_enter Try.func67, Try.ntmps67
  go_wp2
  go_returns
  exact ⟨by rw [← HE.out]; simp, HB.out⟩
theorem Rcs.cut {w : World} {base : Nat} {v : Value} {L : List Rc} (h : Rcs w base v L) {i : Nat} {r : Rc} (hr : L[i]? = some r) : ∃ gr c, v = .slice (some ⟨gr, 0, none⟩) L.length c ∧ gr < w.heap.size ∧ w.rangeAt gr (i * 2) (rcc r) := by
  have hi : i < L.length := (List.getElem?_eq_some_iff.1 hr).1
  rcases h.row.2 with ⟨_, h0⟩ | ⟨gr, c, cur, hv, _, hg, hlc, _, hcs, hx⟩
  · omega
  · refine ⟨gr, c, hv, heap_lt hg, fun q u hq => ?_⟩
    have hq2 : q < 2 := (List.getElem?_eq_some_iff.1 hq).1
    rw [cell_of_row w gr (i * 2 + q) cur _ _ hg]
    have h2 : (L.flatMap rcc)[i * 2 + q]? = some u := by rw [flat_at rcc 2 L (fun _ _ => rfl) i r hr q hq2]; exact hq
    rw [← hx, List.getElem?_take] at h2
    split at h2
    · simpa using h2
    · cases h2
set_option maxRecDepth 100000 in
set_option maxHeartbeats 4000000 in
theorem rc_index_none (w : World) (base : Nat) (a : Option Addr) (n c : Nat) (L : List Rc) (bx t : Nat) (h : Rcs w base (.slice a n c) L) (hb : Blk w bx #[.int .i64 (t : Int)] 3) (hl : L.length ≤ 1000000) (ht : ∀ r ∈ L, t < r.tick) :
    Calls Try.prog 84 #[.slice a n c, .func (.func 67) #[] #[.pointer (some ⟨bx, 0, none⟩)]] w fun e w' => e = .returned (.int .i64 (-1)) ∧ Below w.heap.size w w' := by
  have hn : n = L.length := by obtain ⟨a', c', e⟩ := h.val; cases e; rfl
  have HR : Hid (Rcs w base (.slice a n c) L) := h
  have HB : Hid (Blk w bx #[.int .i64 (t : Int)] 3) := hb
  have HT : Hid (∀ r ∈ L, t < r.tick) := ht
  have HN : Hid (n = L.length) := hn
  have hn' : n ≤ 1000000 := by omega
  clear h hb ht hn hl
  go_enter Try.func84, Try.ntmps84
  go_wp2
  go_loopw [8] (fun t8 wr => ∃ (i : Nat), i ≤ n ∧ t8 = .int .i64 (i : Int) ∧ Hid (Below w.heap.size w wr)) (fun t8 _ => n - (intOf t8).toNat)
  case atStart => exact ⟨0, Nat.zero_le _, rfl, Below.refl _ _⟩
  case round =>
    obtain ⟨i, hi, rfl, HBr⟩ := hrel
    by_cases hlt : i < n
    · have hlt' : (i : Int) < (n : Int) := by omega
      have hge : (0 : Int) ≤ (i : Int) := by omega
      have HRr : Hid (Rcs wr base (.slice a n c) L) := HR.out.below HBr.out
      obtain ⟨r, hr⟩ : ∃ r, L[i]? = some r := ⟨_, List.getElem?_eq_getElem (by have := HN.out; omega)⟩
      obtain ⟨gr, c', hv, hgr, hrg⟩ := HRr.out.cut hr
      have ha : a = some ⟨gr, 0, none⟩ := by cases hv; rfl
      subst ha
      have HRG : Hid (wr.rangeAt gr (i * 2) (rcc r)) := hrg
      have HTR : Hid (decide (r.tick ≤ t) = false) := by (show _ = _); rw [decide_eq_false_iff_not]; have := HT.out r (List.mem_of_getElem? hr); omega
      have HCL : Hid (Calls Try.prog 67 #[.agg (rcc r).toArray, .pointer (some ⟨bx, 0, none⟩)] wr fun e w' => e = .returned (.bool false) ∧ Below wr.heap.size wr w') := by
        have := rel_one wr bx t r (HB.out.stay HBr.out)
        rw [HTR.out] at this
        exact this
      clear hv hrg hr
      go_wp2_with (first
        | (guard_target =~ wpList _ _ _ (Oper.mk (some 15) _ _ _ _ _ :: _) _ _; refine wpList_load_mid rfl 78 (.tmp 14) rfl gr (i * 2) rfl (rcc r) _ HRG.out Try.underlying78 rfl (by rfl) ?_)
        | (go_at_call 67; refine HCL.out.mono ?_; rintro e w2 ⟨rfl, hb2⟩; have HB2 : Hid (Below w.heap.size w w2) := HBr.out.trans (hb2.mono HBr.out.size); clear hb2))
      go_roundw
      case rel => exact ⟨i + 1, by omega, by go_num, HB2⟩
      case measure => (simp [intOf]; omega)
    · obtain rfl : i = n := by omega
      have hlt' : ¬ (i : Int) < (i : Int) := by omega
      go_wp2
      go_returns
      exact ⟨rfl, HBr.out⟩
theorem rc_delete_none (w : World) (base : Nat) (a : Option Addr) (n c : Nat) (L : List Rc) (bx t : Nat) (h : Rcs w base (.slice a n c) L) (hb : Blk w bx #[.int .i64 (t : Int)] 3) (hl : L.length ≤ 1000000) (ht : ∀ r ∈ L, t < r.tick) :
    Calls Try.prog 66 #[.slice a n c, .func (.func 67) #[] #[.pointer (some ⟨bx, 0, none⟩)]] w fun e w' => e = .returned (.slice a n c) ∧ Below w.heap.size w w' := by
  have hi := rc_index_none w base a n c L bx t h hb hl ht
  clear h hb hl ht
  go_enter Try.func66, Try.ntmps66
  go_wp2_with fail
  refine hi.mono ?_
  rintro e w2 ⟨rfl, hb2⟩
  have HB2 : Hid (Below w.heap.size w w2) := hb2
  clear hi hb2
  go_wp2
  go_returns
  exact ⟨rfl, HB2.out⟩
end Go.Proofs.Ytghajmcohdedlaa
/- evlog: a log in memory, whole; release, where nothing is released. -/
namespace Go.Proofs.Ytghajmcohdedlaa
open Go.RowKit

/-- A log in memory. -/
structure Lg (w : World) (base g gs : Nat) (wv : Value) (D : Dk) (gl gc b m ag : Nat) (U : List Sg) (uv : Value) (hi rel : Nat) (L : List Rc) (rv : Value) : Prop where
  disk : Disk w base g gs wv D
  log : Lc w gl g gc b m ag uv hi rel rv
  cells : Cs w gc g b 1
  used : Sgs w base uv U
  recs : Rcs w base rv L
  bl : base ≤ gl
theorem Lg.below {w w' : World} {base g gs : Nat} {wv : Value} {D : Dk} {gl gc b m ag : Nat} {U : List Sg} {uv : Value} {hi rel : Nat} {L : List Rc} {rv : Value} (h : Lg w base g gs wv D gl gc b m ag U uv hi rel L rv) (hb : Below w.heap.size w w') : Lg w' base g gs wv D gl gc b m ag U uv hi rel L rv :=
  ⟨h.disk.stay hb, h.log.stay hb, h.cells.stay hb, h.used.below hb, h.recs.below hb, h.bl⟩
/-- A cell of the log's block is written. -/
theorem Lg.put {w : World} {base g gs : Nat} {wv : Value} {D : Dk} {gl gc b m ag : Nat} {U : List Sg} {uv : Value} {hi rel : Nat} {L : List Rc} {rv : Value} (h : Lg w base g gs wv D gl gc b m ag U uv hi rel L rv) (i : Nat) (v : Value) : Disk (w.setCell ⟨gl, i, none⟩ v) base g gs wv D ∧ Cs (w.setCell ⟨gl, i, none⟩ v) gc g b 1 ∧ Sgs (w.setCell ⟨gl, i, none⟩ v) base uv U ∧ Rcs (w.setCell ⟨gl, i, none⟩ v) base rv L ∧ Kt w (w.setCell ⟨gl, i, none⟩ v) ∧ Below base w (w.setCell ⟨gl, i, none⟩ v) :=
  have hk : Kt w (w.setCell ⟨gl, i, none⟩ v) := (Kt.refl w).set h.log (.inl rfl) i v
  ⟨h.disk.kt hk, Kt.keep hk h.cells (by decide) (by decide) (by decide), row_set h.used (own_ne h.used h.log (by decide)), h.recs.set h.log (.inl rfl), hk, (Below.refl _ _).setCell h.bl _⟩
theorem Lg.sz {w : World} {base g gs : Nat} {wv : Value} {D : Dk} {gl gc b m ag : Nat} {U : List Sg} {uv : Value} {hi rel : Nat} {L : List Rc} {rv : Value} (h : Lg w base g gs wv D gl gc b m ag U uv hi rel L rv) : base ≤ w.heap.size := Nat.le_trans h.bl (Nat.le_of_lt (Blk.lt h.log))

set_option maxRecDepth 100000 in
set_option maxHeartbeats 4000000 in
theorem evl_release (w : World) (base g gs : Nat) (wv : Value) (D : Dk) (gl gc b m ag : Nat) (U : List Sg) (uv : Value) (hi rel : Nat) (L : List Rc) (rv : Value) (t : Nat) (h : Lg w base g gs wv D gl gc b m ag U uv hi rel L rv) (hl : L.length ≤ 1000000) (ht : ∀ r ∈ L, t < r.tick) :
    Calls Try.prog 36 #[.pointer (some ⟨gl, 0, none⟩), .int .i64 (t : Int)] w fun e w' => e = .returned (.tuple #[]) ∧ Hid (Lg w' base g gs wv D gl gc b m ag U uv hi t L rv) ∧ Hid (Kt w w') ∧ Below base w w' := by
  obtain ⟨ar, cr, hrv⟩ := h.recs.val
  subst hrv
  have HT : Hid (∀ r ∈ L, t < r.tick) := ht
  obtain ⟨W1, HW1⟩ : ∃ W1, Hid (W1 = w.alloc (.cells #[.int .i64 (t : Int)] 3)) := ⟨_, rfl⟩
  have HBW : Hid (Below w.heap.size w W1) := by (show Below _ _ _); rw [HW1.out]; exact below_alloc _ _
  have HX1 : Hid (Blk W1 w.heap.size #[.int .i64 (t : Int)] 3) := by (show Blk _ _ _ _); rw [HW1.out]; exact Blk.new _ _ _
  have HG1 : Hid (Lg W1 base g gs wv D gl gc b m ag U uv hi rel L (.slice ar L.length cr)) := h.below HBW.out
  obtain ⟨p1, p2, p3, p4, p5, p6⟩ := HG1.out.put 7 (.int .i64 (t : Int))
  have HG2 : Hid (Lg (W1.setCell ⟨gl, 7, none⟩ (.int .i64 (t : Int))) base g gs wv D gl gc b m ag U uv hi t L (.slice ar L.length cr)) := ⟨p1, Blk.set HG1.out.log 7 _, p2, p3, p4, HG1.out.bl⟩
  have HK2 : Hid (Kt w (W1.setCell ⟨gl, 7, none⟩ (.int .i64 (t : Int)))) := (Kt.of_below HBW.out).trans p5
  have HB2 : Hid (Below base w (W1.setCell ⟨gl, 7, none⟩ (.int .i64 (t : Int)))) := (HBW.out.mono h.sz).trans p6
  have HX2 : Hid (Blk (W1.setCell ⟨gl, 7, none⟩ (.int .i64 (t : Int))) w.heap.size #[.int .i64 (t : Int)] 3) := p5.keep HX1.out (by decide) (by decide) (by decide)
  have b0 : W1.cell? ⟨w.heap.size, 0, none⟩ = some (.int .i64 (t : Int)) := HX1.out.cell 0 rfl
  have c7 : W1.cell? ⟨gl, 7, none⟩ = some (.int .i64 (rel : Int)) := Blk.cell HG1.out.log 7 rfl
  have f7 : W1.frozen? ⟨gl, 7, none⟩ = false := Blk.free HG1.out.log 7
  obtain ⟨W2, HW2⟩ : ∃ W2, Hid (W2 = W1.setCell ⟨gl, 7, none⟩ (.int .i64 (t : Int))) := ⟨_, rfl⟩
  rw [← HW2.out] at HG2 HK2 HB2 HX2
  have c8 : W2.cell? ⟨gl, 8, none⟩ = some (.slice ar L.length cr) := Blk.cell HG2.out.log 8 rfl
  clear p1 p2 p3 p4 p5 p6 h ht
  go_enter Try.func36, Try.ntmps36
  go_upto_region 1 with fail
  rw [← HW1.out]
  go_upto_region 2 with fail
  rw [← HW2.out]
  go_wp2_with fail
  refine (rc_delete_none W2 base ar L.length cr L w.heap.size t HG2.out.recs HX2.out hl HT.out).mono ?_
  rintro e w3 ⟨rfl, hb3⟩
  have HG3 : Hid (Lg w3 base g gs wv D gl gc b m ag U uv hi t L (.slice ar L.length cr)) := HG2.out.below hb3
  have HK3 : Hid (Kt w w3) := HK2.out.trans (Kt.of_below hb3)
  have HB3 : Hid (Below base w w3) := HB2.out.trans (hb3.mono HG2.out.sz)
  obtain ⟨p1, p2, p3, p4, p5, p6⟩ := HG3.out.put 8 (.slice ar L.length cr)
  have HG4 : Hid (Lg (w3.setCell ⟨gl, 8, none⟩ (.slice ar L.length cr)) base g gs wv D gl gc b m ag U uv hi t L (.slice ar L.length cr)) := ⟨p1, Blk.set HG3.out.log 8 _, p2, p3, p4, HG3.out.bl⟩
  have HK4 : Hid (Kt w (w3.setCell ⟨gl, 8, none⟩ (.slice ar L.length cr))) := HK3.out.trans p5
  have HB4 : Hid (Below base w (w3.setCell ⟨gl, 8, none⟩ (.slice ar L.length cr))) := HB3.out.trans p6
  have d8 : w3.cell? ⟨gl, 8, none⟩ = some (.slice ar L.length cr) := Blk.cell HG3.out.log 8 rfl
  have f8 : w3.frozen? ⟨gl, 8, none⟩ = false := Blk.free HG3.out.log 8
  clear p1 p2 p3 p4 p5 p6 hb3 c8 b0 c7 f7
  go_wp2
  go_returns
  exact ⟨rfl, HG4, HK4, HB4.out⟩
end Go.Proofs.Ytghajmcohdedlaa
