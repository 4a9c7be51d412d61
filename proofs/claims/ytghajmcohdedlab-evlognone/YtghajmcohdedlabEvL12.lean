/- evlog: a log in memory, whole; release, where nothing is released. -/
import Derived.Test.YtghajmcohdedlabEvL11
namespace Go.Proofs.Ytghajmcohdedlab
open Go.RowKit

/-- A log in memory. -/
structure Lg (w : World) (base g gs : Nat) (wv : Value) (D : Dk) (gl gc b m ag : Nat) (U : List Sg) (uv : Value) (hi rel : Nat) (L : List Rc) (rv : Value) : Prop where
  disk : Disk w base g gs wv D
  log : Lc w gl g gc b m ag uv hi rel rv
  cells : Cs w gc g b 1
  used : Sgs w base uv U
  recs : Rcs w base rv L
  bl : base ≤ gl
theorem Lg.below {w w' : World} {base g gs : Nat} {wv : Value} {D : Dk} {gl gc b m ag : Nat} {U : List Sg} {uv : Value} {hi rel : Nat} {L : List Rc} {rv : Value} (h : Lg w base g gs wv D gl gc b m ag U uv hi rel L rv) (hb : Below w.heap.size w w') : Lg w' base g gs wv D gl gc b m ag U uv hi rel L rv :=
  ⟨h.disk.stay hb, h.log.stay hb, h.cells.stay hb, h.used.below hb, h.recs.below hb, h.bl⟩
/-- A cell of the log's block is written. -/
theorem Lg.put {w : World} {base g gs : Nat} {wv : Value} {D : Dk} {gl gc b m ag : Nat} {U : List Sg} {uv : Value} {hi rel : Nat} {L : List Rc} {rv : Value} (h : Lg w base g gs wv D gl gc b m ag U uv hi rel L rv) (i : Nat) (v : Value) : Disk (w.setCell ⟨gl, i, none⟩ v) base g gs wv D ∧ Cs (w.setCell ⟨gl, i, none⟩ v) gc g b 1 ∧ Sgs (w.setCell ⟨gl, i, none⟩ v) base uv U ∧ Rcs (w.setCell ⟨gl, i, none⟩ v) base rv L ∧ Kt w (w.setCell ⟨gl, i, none⟩ v) ∧ Below base w (w.setCell ⟨gl, i, none⟩ v) :=
  have hk : Kt w (w.setCell ⟨gl, i, none⟩ v) := (Kt.refl w).set h.log (.inl rfl) i v
  ⟨h.disk.kt hk, Kt.keep hk h.cells (by decide) (by decide) (by decide), row_set h.used (own_ne h.used h.log (by decide)), h.recs.set h.log (.inl rfl), hk, (Below.refl _ _).setCell h.bl _⟩
theorem Lg.sz {w : World} {base g gs : Nat} {wv : Value} {D : Dk} {gl gc b m ag : Nat} {U : List Sg} {uv : Value} {hi rel : Nat} {L : List Rc} {rv : Value} (h : Lg w base g gs wv D gl gc b m ag U uv hi rel L rv) : base ≤ w.heap.size := Nat.le_trans h.bl (Nat.le_of_lt (Blk.lt h.log))

set_option maxRecDepth 100000 in
set_option maxHeartbeats 4000000 in
theorem evl_release (w : World) (base g gs : Nat) (wv : Value) (D : Dk) (gl gc b m ag : Nat) (U : List Sg) (uv : Value) (hi rel : Nat) (L : List Rc) (rv : Value) (t : Nat) (h : Lg w base g gs wv D gl gc b m ag U uv hi rel L rv) (hl : L.length ≤ 1000000) (ht : ∀ r ∈ L, t < r.tick) :
    Calls Try.prog 34 #[.pointer (some ⟨gl, 0, none⟩), .int .i64 (t : Int)] w fun e w' => e = .returned (.tuple #[]) ∧ Hid (Lg w' base g gs wv D gl gc b m ag U uv hi t L rv) ∧ Hid (Kt w w') ∧ Below base w w' := by
  obtain ⟨ar, cr, hrv⟩ := h.recs.val
  subst hrv
  have HT : Hid (∀ r ∈ L, t < r.tick) := ht
  obtain ⟨W1, HW1⟩ : ∃ W1, Hid (W1 = w.alloc (.cells #[.int .i64 (t : Int)] 3)) := ⟨_, rfl⟩
  have HBW : Hid (Below w.heap.size w W1) := by (show Below _ _ _); rw [HW1.out]; exact below_alloc _ _
  have HX1 : Hid (Blk W1 w.heap.size #[.int .i64 (t : Int)] 3) := by (show Blk _ _ _ _); rw [HW1.out]; exact Blk.new _ _ _
  have HG1 : Hid (Lg W1 base g gs wv D gl gc b m ag U uv hi rel L (.slice ar L.length cr)) := h.below HBW.out
  obtain ⟨p1, p2, p3, p4, p5, p6⟩ := HG1.out.put 7 (.int .i64 (t : Int))
  have HG2 : Hid (Lg (W1.setCell ⟨gl, 7, none⟩ (.int .i64 (t : Int))) base g gs wv D gl gc b m ag U uv hi t L (.slice ar L.length cr)) := ⟨p1, Blk.set HG1.out.log 7 _, p2, p3, p4, HG1.out.bl⟩
  have HK2 : Hid (Kt w (W1.setCell ⟨gl, 7, none⟩ (.int .i64 (t : Int)))) := (Kt.of_below HBW.out).trans p5
  have HB2 : Hid (Below base w (W1.setCell ⟨gl, 7, none⟩ (.int .i64 (t : Int)))) := (HBW.out.mono h.sz).trans p6
  have HX2 : Hid (Blk (W1.setCell ⟨gl, 7, none⟩ (.int .i64 (t : Int))) w.heap.size #[.int .i64 (t : Int)] 3) := p5.keep HX1.out (by decide) (by decide) (by decide)
  have b0 : W1.cell? ⟨w.heap.size, 0, none⟩ = some (.int .i64 (t : Int)) := HX1.out.cell 0 rfl
  have c7 : W1.cell? ⟨gl, 7, none⟩ = some (.int .i64 (rel : Int)) := Blk.cell HG1.out.log 7 rfl
  have f7 : W1.frozen? ⟨gl, 7, none⟩ = false := Blk.free HG1.out.log 7
  obtain ⟨W2, HW2⟩ : ∃ W2, Hid (W2 = W1.setCell ⟨gl, 7, none⟩ (.int .i64 (t : Int))) := ⟨_, rfl⟩
  rw [← HW2.out] at HG2 HK2 HB2 HX2
  have c8 : W2.cell? ⟨gl, 8, none⟩ = some (.slice ar L.length cr) := Blk.cell HG2.out.log 8 rfl
  clear p1 p2 p3 p4 p5 p6 h ht
  go_enter Try.func34, Try.ntmps34
  go_upto_region 1 with fail
  rw [← HW1.out]
  go_upto_region 2 with fail
  rw [← HW2.out]
  go_wp2_with fail
  refine (rc_delete_none W2 base ar L.length cr L w.heap.size t HG2.out.recs HX2.out hl HT.out).mono ?_
  rintro e w3 ⟨rfl, hb3⟩
  have HG3 : Hid (Lg w3 base g gs wv D gl gc b m ag U uv hi t L (.slice ar L.length cr)) := HG2.out.below hb3
  have HK3 : Hid (Kt w w3) := HK2.out.trans (Kt.of_below hb3)
  have HB3 : Hid (Below base w w3) := HB2.out.trans (hb3.mono HG2.out.sz)
  obtain ⟨p1, p2, p3, p4, p5, p6⟩ := HG3.out.put 8 (.slice ar L.length cr)
  have HG4 : Hid (Lg (w3.setCell ⟨gl, 8, none⟩ (.slice ar L.length cr)) base g gs wv D gl gc b m ag U uv hi t L (.slice ar L.length cr)) := ⟨p1, Blk.set HG3.out.log 8 _, p2, p3, p4, HG3.out.bl⟩
  have HK4 : Hid (Kt w (w3.setCell ⟨gl, 8, none⟩ (.slice ar L.length cr))) := HK3.out.trans p5
  have HB4 : Hid (Below base w (w3.setCell ⟨gl, 8, none⟩ (.slice ar L.length cr))) := HB3.out.trans p6
  have d8 : w3.cell? ⟨gl, 8, none⟩ = some (.slice ar L.length cr) := Blk.cell HG3.out.log 8 rfl
  have f8 : w3.frozen? ⟨gl, 8, none⟩ = false := Blk.free HG3.out.log 8
  clear p1 p2 p3 p4 p5 p6 hb3 c8 b0 c7 f7
  go_wp2
  go_returns
  exact ⟨rfl, HG4, HK4, HB4.out⟩
end Go.Proofs.Ytghajmcohdedlab
