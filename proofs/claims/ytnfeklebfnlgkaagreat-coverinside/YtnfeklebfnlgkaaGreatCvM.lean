/- cover: sides, borders, boxes in memory; the laws of their stores. -/
import Derived.Test.YtnfeklebfnlgkaaGreatBlk
import Derived.Test.YtnfeklebfnlgkaaGreatEvName
import Derived.Deep.MidRow
import Derived.Laws.CopyOwn
import Derived.Laws.OwnMore
import Derived.OwnWalk
import Derived.Handy
import Derived.Deep.Cut
import Derived.Deep.RegionHeld3
import Derived.BigRegion
import Derived.Deep.RegionLaw
namespace Go.Proofs.YtnfeklebfnlgkaaGreat
open Go.RowKit

/-- A side: what its twelve cells have. -/
structure Sd where
  nm : ByteArray
  kd : Int
  ab : Bool
  lo : Int
  hi : Int
  fr : ByteArray
  to : ByteArray
  op : Bool
  tr : Nat
  no : Bool
  iv : Value
  ov : Value
def sdc (s : Sd) : List Value := [.string s.nm, .int .i64 s.kd, .bool s.ab, .int .i64 s.lo, .int .i64 s.hi, .string s.fr, .string s.to, .bool s.op, .int .u8 (s.tr : Int), .bool s.no, s.iv, s.ov]
/-- A value that is a whole number. -/
def wv (x : Int) : List Value := [.int .i64 1, .int .i64 x, .string ⟨#[]⟩, .bool false, .complex .f64 0 0]
/-- The term 'a Less x'. -/
def tmc (x : Int) : List Value := [.int .i64 3, .string ⟨#[97]⟩, .int .i64 5, .int .i64 1, .int .i64 x, .string ⟨#[]⟩, .bool false, .complex .f64 0 0, .int .i64 0]
def zeroSide : List Value := [.string ⟨#[]⟩, .int .i64 0, .bool false, .int .i64 0, .int .i64 0, .string ⟨#[]⟩, .string ⟨#[]⟩, .bool false, .int .u8 0, .bool false, .slice none 0 0, .slice none 0 0]
theorem info_Side : (Tryz.prog.info? 40).map (·.size) = some 12 := by kernel_rfl
theorem info_border : (Tryz.prog.info? 102).map (·.size) = some 7 := by kernel_rfl
theorem info_truth : (Tryz.prog.info? 68).map (·.size) = some 2 := by kernel_rfl
theorem info_Value : (Tryz.prog.info? 54).map (·.size) = some 5 := by kernel_rfl
theorem info_Term : (Tryz.prog.info? 56).map (·.size) = some 9 := by kernel_rfl
theorem Blk.range {w : World} {g : Nat} {cur : List Value} {t : TypeId} (h : Blk w g cur.toArray t) (o : Nat) (cs : List Value) (hc : ∀ j v, cs[j]? = some v → cur[o + j]? = some v) : w.rangeAt g o cs := fun j v hj => h.cell (o + j) (by simpa using hc j v hj)
theorem Blk.all {w : World} {g : Nat} {cur : List Value} {t : TypeId} (h : Blk w g cur.toArray t) : w.rangeAt g 0 cur := h.range 0 cur (fun j v hj => by rw [Nat.zero_add]; exact hj)
/-- What the store of many cells makes of a block. -/
theorem setCells_blk (g : Nat) (t : TypeId) : ∀ (vs : List Value) (o : Nat) (w : World) (cur : List Value), Blk w g cur.toArray t → o + vs.length ≤ cur.length → Blk (w.setCells g o vs) g (splice cur o vs).toArray t ∧ w.grownBy (w.setCells g o vs) (some g)
  | [], o, w, cur, h, _ => by
    refine ⟨?_, ⟨rfl, rfl, rfl, Nat.le_refl _, fun _ _ _ => rfl⟩⟩
    rw [World.setCells, splice]
    simpa using h
  | v :: vs, o, w, cur, h, hl => by
    rw [List.length_cons] at hl
    have h1 : Blk (w.setCell ⟨g, o, none⟩ v) g (cur.set o v).toArray t := by
      have := h.set o v
      simpa using this
    obtain ⟨h2, h3⟩ := setCells_blk g t vs (o + 1) (w.setCell ⟨g, o, none⟩ v) (cur.set o v) h1 (by rw [List.length_set]; omega)
    rw [World.setCells]
    refine ⟨?_, ?_⟩
    · have e : splice (cur.set o v) (o + 1) vs = splice cur o (v :: vs) := by
        unfold splice
        rw [List.length_cons, show o + (vs.length + 1) = o + 1 + vs.length from by omega, List.drop_set_of_lt (by omega), List.take_set, List.take_add_one, List.getElem?_eq_getElem (by omega), List.set_append_right _ _ (by rw [List.length_take]; omega)]
        simp [Nat.min_eq_left (show o ≤ cur.length by omega)]
      rw [← e]
      exact h2
    · have h4 : w.grownBy (w.setCell ⟨g, o, none⟩ v) (some g) := by
        have h0 : Below 0 w (w.setCell ⟨g, o, none⟩ v) := (Below.refl 0 w).setCell (Nat.zero_le _) v
        refine ⟨h0.os, h0.tape, h0.output, h0.size, fun k hk hn => ?_⟩
        exact heap_setCell_other w ⟨g, o, none⟩ k v (fun e => hn (by rw [e]))
      exact ⟨h3.os.trans h4.os, h3.tape.trans h4.tape, h3.output.trans h4.output, Nat.le_trans h4.size h3.size, fun k hk hn => (h3.block k (Nat.lt_of_lt_of_le hk h4.size) hn).trans (h4.block k hk hn)⟩
theorem Blk.there {w : World} {g : Nat} {cur : List Value} {t : TypeId} (h : Blk w g cur.toArray t) (o n : Nat) (hl : o + n ≤ cur.length) : w.there g o n := fun j hj => by
  refine ⟨?_, h.free _⟩
  rw [h.cell (o + j) (v := cur[o + j]'(by omega)) (by simp)]
  rfl
theorem wp_store_row {w : World} {op : Oper} {a : Act} {K : Act → World → Prop} {Q : Exit → Act → World → Prop} (ty : TypeId) (x y : Operand) (ho : op.op = .store ty x y)
    (b o : Nat) (cs : List Value) (hx : a.eval x = .pointer (some ⟨b, o, none⟩)) (hy : a.eval y = .agg cs.toArray) (cur : List Value) (t : TypeId) (hb : Blk w b cur.toArray t) (hl : o + cs.length ≤ cur.length)
    (hi : (Tryz.prog.info? ty).map (·.size) = some cs.length) (h1 : ∀ v ∈ cs, v.oneCell' = true)
    (h : ∀ w', Blk w' b (splice cur o cs).toArray t → w.grownBy w' (some b) → K (a.put op.dst undef) w') : op.wp Tryz.prog a w K Q := by
  obtain ⟨z1, z2⟩ := setCells_blk b t cs o w cur hb hl
  exact wp_store_mid ty x y ho b o cs.toArray hx hy (by simpa using hb.there o cs.length hl) (by simpa using hi) (all_oneCell_toArray h1) (by simpa using h _ z1 z2)
theorem wpList_store_row {w : World} {ops : Array Oper} {rest : List Oper} {op : Oper} {a : Act} {Q : Exit → Act → World → Prop} (hgd : op.guard = none) (ty : TypeId) (x y : Operand) (ho : op.op = .store ty x y)
    (b o : Nat) (cs : List Value) (hx : a.eval x = .pointer (some ⟨b, o, none⟩)) (hy : a.eval y = .agg cs.toArray) (cur : List Value) (t : TypeId) (hb : Blk w b cur.toArray t) (hl : o + cs.length ≤ cur.length)
    (hi : (Tryz.prog.info? ty).map (·.size) = some cs.length) (h1 : ∀ v ∈ cs, v.oneCell' = true)
    (h : ∀ w', Blk w' b (splice cur o cs).toArray t → w.grownBy w' (some b) → wpList Tryz.prog ops Q rest (a.put op.dst undef) w') : wpList Tryz.prog ops Q (op :: rest) a w :=
  wpList_plain hgd fun _ hK => wp_store_row ty x y ho b o cs hx hy cur t hb hl hi h1 fun w' h2 h3 => hK _ _ (h w' h2 h3)
/-- A store of a whole block. -/
theorem wpList_store_all {w : World} {ops : Array Oper} {rest : List Oper} {op : Oper} {a : Act} {Q : Exit → Act → World → Prop} (hgd : op.guard = none) (ty : TypeId) (x y : Operand) (ho : op.op = .store ty x y)
    (b : Nat) (cs : List Value) (hx : a.eval x = .pointer (some ⟨b, 0, none⟩)) (hy : a.eval y = .agg cs.toArray) (cur : List Value) (t : TypeId) (hb : Blk w b cur.toArray t) (hl : cs.length = cur.length)
    (hi : (Tryz.prog.info? ty).map (·.size) = some cs.length) (h1 : ∀ v ∈ cs, v.oneCell' = true)
    (h : ∀ w', Blk w' b cs.toArray t → w.grownBy w' (some b) → wpList Tryz.prog ops Q rest (a.put op.dst undef) w') : wpList Tryz.prog ops Q (op :: rest) a w :=
  wpList_store_row hgd ty x y ho b 0 cs hx hy cur t hb (by omega) hi h1 fun w' h2 h3 => h w' (by
    have e : splice cur 0 cs = cs := by unfold splice; simp [hl]
    rw [e] at h2
    exact h2) h3
theorem below_set {B : Nat} {w w1 w' : World} {b : Nat} (h : Below B w w1) (hg : w1.grownBy w' (some b)) (hb : B ≤ b) (hs : B ≤ w1.heap.size) : Below B w w' := h.trans ((Below.refl _ _).grown hg hs (fun k hk => by simp only [Option.some.injEq] at hk; omega))
theorem results_nowhere {w : World} {tmps : Array Value} {g : Nat} {cs : List Value} (h2 : tmps[0]?.getD undef = .pointer (some ⟨g, 0, none⟩)) (k : Blk w g cs.toArray 102) (hl : cs.length = 7) : (results Tryz.f83 tmps).run Tryz.prog w = .ok (.agg cs.toArray) w := by
  have hr := run_loadVar_mid (P := Tryz.prog) w g 0 102 cs _ (k.range 0 cs (fun j v hj => by simpa using hj)) Tryz.underlying102 rfl (by rw [hl]; exact info_border)
  simp [results, Tryz.results83, h2, hr, asAddr]
theorem results_ahead {w : World} {tmps : Array Value} {g : Nat} {cs : List Value} (h2 : tmps[2]?.getD undef = .pointer (some ⟨g, 0, none⟩)) (k : Blk w g cs.toArray 102) (hl : cs.length = 7) : (results Tryz.f85 tmps).run Tryz.prog w = .ok (.agg cs.toArray) w := by
  have hr := run_loadVar_mid (P := Tryz.prog) w g 0 102 cs _ (k.range 0 cs (fun j v hj => by simpa using hj)) Tryz.underlying102 rfl (by rw [hl]; exact info_border)
  simp [results, Tryz.results85, h2, hr, asAddr]
theorem results_past {w : World} {tmps : Array Value} {g : Nat} {cs : List Value} (h2 : tmps[2]?.getD undef = .pointer (some ⟨g, 0, none⟩)) (k : Blk w g cs.toArray 102) (hl : cs.length = 7) : (results Tryz.f86 tmps).run Tryz.prog w = .ok (.agg cs.toArray) w := by
  have hr := run_loadVar_mid (P := Tryz.prog) w g 0 102 cs _ (k.range 0 cs (fun j v hj => by simpa using hj)) Tryz.underlying102 rfl (by rw [hl]; exact info_border)
  simp [results, Tryz.results86, h2, hr, asAddr]
theorem results_told {w : World} {tmps : Array Value} {g : Nat} {cs : List Value} (h2 : tmps[2]?.getD undef = .pointer (some ⟨g, 0, none⟩)) (k : Blk w g cs.toArray 40) (hl : cs.length = 12) : (results Tryz.f81 tmps).run Tryz.prog w = .ok (.agg cs.toArray) w := by
  have hr := run_loadVar_mid (P := Tryz.prog) w g 0 40 cs _ (k.range 0 cs (fun j v hj => by simpa using hj)) Tryz.underlying40 rfl (by rw [hl]; exact info_Side)
  simp [results, Tryz.results81, h2, hr, asAddr]
theorem results_orNone {w : World} {tmps : Array Value} {g : Nat} {cs : List Value} (h2 : tmps[2]?.getD undef = .pointer (some ⟨g, 0, none⟩)) (k : Blk w g cs.toArray 40) (hl : cs.length = 12) : (results Tryz.f66 tmps).run Tryz.prog w = .ok (.agg cs.toArray) w := by
  have hr := run_loadVar_mid (P := Tryz.prog) w g 0 40 cs _ (k.range 0 cs (fun j v hj => by simpa using hj)) Tryz.underlying40 rfl (by rw [hl]; exact info_Side)
  simp [results, Tryz.results66, h2, hr, asAddr]
theorem results_between {w : World} {tmps : Array Value} {g : Nat} {cs : List Value} (h2 : tmps[6]?.getD undef = .pointer (some ⟨g, 0, none⟩)) (k : Blk w g cs.toArray 40) (hl : cs.length = 12) : (results Tryz.f82 tmps).run Tryz.prog w = .ok (.agg cs.toArray) w := by
  have hr := run_loadVar_mid (P := Tryz.prog) w g 0 40 cs _ (k.range 0 cs (fun j v hj => by simpa using hj)) Tryz.underlying40 rfl (by rw [hl]; exact info_Side)
  simp [results, Tryz.results82, h2, hr, asAddr]
theorem results_wholeBetween {w : World} {tmps : Array Value} {g : Nat} {cs : List Value} (h2 : tmps[6]?.getD undef = .pointer (some ⟨g, 0, none⟩)) (k : Blk w g cs.toArray 40) (hl : cs.length = 12) : (results Tryz.f97 tmps).run Tryz.prog w = .ok (.agg cs.toArray) w := by
  have hr := run_loadVar_mid (P := Tryz.prog) w g 0 40 cs _ (k.range 0 cs (fun j v hj => by simpa using hj)) Tryz.underlying40 rfl (by rw [hl]; exact info_Side)
  simp [results, Tryz.results97, h2, hr, asAddr]
theorem results_orderTruth {w : World} {tmps : Array Value} {g : Nat} {cs : List Value} (h2 : tmps[4]?.getD undef = .pointer (some ⟨g, 0, none⟩)) (k : Blk w g cs.toArray 68) (hl : cs.length = 2) : (results Tryz.f70 tmps).run Tryz.prog w = .ok (.agg cs.toArray) w := by
  have hr := run_loadVar_mid (P := Tryz.prog) w g 0 68 cs _ (k.range 0 cs (fun j v hj => by simpa using hj)) Tryz.underlying68 rfl (by rw [hl]; exact info_truth)
  simp [results, Tryz.results70, h2, hr, asAddr]
theorem results_atomTruth {w : World} {tmps : Array Value} {g : Nat} {cs : List Value} (h2 : tmps[4]?.getD undef = .pointer (some ⟨g, 0, none⟩)) (k : Blk w g cs.toArray 68) (hl : cs.length = 2) : (results Tryz.f46 tmps).run Tryz.prog w = .ok (.agg cs.toArray) w := by
  have hr := run_loadVar_mid (P := Tryz.prog) w g 0 68 cs _ (k.range 0 cs (fun j v hj => by simpa using hj)) Tryz.underlying68 rfl (by rw [hl]; exact info_truth)
  simp [results, Tryz.results46, h2, hr, asAddr]
theorem side_sets {w : World} {q : Nat} {a0 a1 a2 a3 a4 a5 a6 a7 a8 a9 a10 a11 b0 b1 b2 b3 b4 b5 b6 b7 b8 b9 b10 b11 : Value} (h : Blk w q [a0, a1, a2, a3, a4, a5, a6, a7, a8, a9, a10, a11].toArray 40) : Blk ((((((((((((w.setCell ⟨q, 0, none⟩ b0).setCell ⟨q, 1, none⟩ b1).setCell ⟨q, 2, none⟩ b2).setCell ⟨q, 3, none⟩ b3).setCell ⟨q, 4, none⟩ b4).setCell ⟨q, 5, none⟩ b5).setCell ⟨q, 6, none⟩ b6).setCell ⟨q, 7, none⟩ b7).setCell ⟨q, 8, none⟩ b8).setCell ⟨q, 9, none⟩ b9).setCell ⟨q, 10, none⟩ b10).setCell ⟨q, 11, none⟩ b11) q [b0, b1, b2, b3, b4, b5, b6, b7, b8, b9, b10, b11].toArray 40 ∧ ∀ (B : Nat) (W : World), Below B W w → B ≤ q → Below B W ((((((((((((w.setCell ⟨q, 0, none⟩ b0).setCell ⟨q, 1, none⟩ b1).setCell ⟨q, 2, none⟩ b2).setCell ⟨q, 3, none⟩ b3).setCell ⟨q, 4, none⟩ b4).setCell ⟨q, 5, none⟩ b5).setCell ⟨q, 6, none⟩ b6).setCell ⟨q, 7, none⟩ b7).setCell ⟨q, 8, none⟩ b8).setCell ⟨q, 9, none⟩ b9).setCell ⟨q, 10, none⟩ b10).setCell ⟨q, 11, none⟩ b11) := by
  have h0 : Blk (w.setCell ⟨q, 0, none⟩ b0) q [b0, a1, a2, a3, a4, a5, a6, a7, a8, a9, a10, a11].toArray 40 := h.set 0 _
  have h1 : Blk ((w.setCell ⟨q, 0, none⟩ b0).setCell ⟨q, 1, none⟩ b1) q [b0, b1, a2, a3, a4, a5, a6, a7, a8, a9, a10, a11].toArray 40 := h0.set 1 _
  have h2 : Blk (((w.setCell ⟨q, 0, none⟩ b0).setCell ⟨q, 1, none⟩ b1).setCell ⟨q, 2, none⟩ b2) q [b0, b1, b2, a3, a4, a5, a6, a7, a8, a9, a10, a11].toArray 40 := h1.set 2 _
  have h3 : Blk ((((w.setCell ⟨q, 0, none⟩ b0).setCell ⟨q, 1, none⟩ b1).setCell ⟨q, 2, none⟩ b2).setCell ⟨q, 3, none⟩ b3) q [b0, b1, b2, b3, a4, a5, a6, a7, a8, a9, a10, a11].toArray 40 := h2.set 3 _
  have h4 : Blk (((((w.setCell ⟨q, 0, none⟩ b0).setCell ⟨q, 1, none⟩ b1).setCell ⟨q, 2, none⟩ b2).setCell ⟨q, 3, none⟩ b3).setCell ⟨q, 4, none⟩ b4) q [b0, b1, b2, b3, b4, a5, a6, a7, a8, a9, a10, a11].toArray 40 := h3.set 4 _
  have h5 : Blk ((((((w.setCell ⟨q, 0, none⟩ b0).setCell ⟨q, 1, none⟩ b1).setCell ⟨q, 2, none⟩ b2).setCell ⟨q, 3, none⟩ b3).setCell ⟨q, 4, none⟩ b4).setCell ⟨q, 5, none⟩ b5) q [b0, b1, b2, b3, b4, b5, a6, a7, a8, a9, a10, a11].toArray 40 := h4.set 5 _
  have h6 : Blk (((((((w.setCell ⟨q, 0, none⟩ b0).setCell ⟨q, 1, none⟩ b1).setCell ⟨q, 2, none⟩ b2).setCell ⟨q, 3, none⟩ b3).setCell ⟨q, 4, none⟩ b4).setCell ⟨q, 5, none⟩ b5).setCell ⟨q, 6, none⟩ b6) q [b0, b1, b2, b3, b4, b5, b6, a7, a8, a9, a10, a11].toArray 40 := h5.set 6 _
  have h7 : Blk ((((((((w.setCell ⟨q, 0, none⟩ b0).setCell ⟨q, 1, none⟩ b1).setCell ⟨q, 2, none⟩ b2).setCell ⟨q, 3, none⟩ b3).setCell ⟨q, 4, none⟩ b4).setCell ⟨q, 5, none⟩ b5).setCell ⟨q, 6, none⟩ b6).setCell ⟨q, 7, none⟩ b7) q [b0, b1, b2, b3, b4, b5, b6, b7, a8, a9, a10, a11].toArray 40 := h6.set 7 _
  have h8 : Blk (((((((((w.setCell ⟨q, 0, none⟩ b0).setCell ⟨q, 1, none⟩ b1).setCell ⟨q, 2, none⟩ b2).setCell ⟨q, 3, none⟩ b3).setCell ⟨q, 4, none⟩ b4).setCell ⟨q, 5, none⟩ b5).setCell ⟨q, 6, none⟩ b6).setCell ⟨q, 7, none⟩ b7).setCell ⟨q, 8, none⟩ b8) q [b0, b1, b2, b3, b4, b5, b6, b7, b8, a9, a10, a11].toArray 40 := h7.set 8 _
  have h9 : Blk ((((((((((w.setCell ⟨q, 0, none⟩ b0).setCell ⟨q, 1, none⟩ b1).setCell ⟨q, 2, none⟩ b2).setCell ⟨q, 3, none⟩ b3).setCell ⟨q, 4, none⟩ b4).setCell ⟨q, 5, none⟩ b5).setCell ⟨q, 6, none⟩ b6).setCell ⟨q, 7, none⟩ b7).setCell ⟨q, 8, none⟩ b8).setCell ⟨q, 9, none⟩ b9) q [b0, b1, b2, b3, b4, b5, b6, b7, b8, b9, a10, a11].toArray 40 := h8.set 9 _
  have h10 : Blk (((((((((((w.setCell ⟨q, 0, none⟩ b0).setCell ⟨q, 1, none⟩ b1).setCell ⟨q, 2, none⟩ b2).setCell ⟨q, 3, none⟩ b3).setCell ⟨q, 4, none⟩ b4).setCell ⟨q, 5, none⟩ b5).setCell ⟨q, 6, none⟩ b6).setCell ⟨q, 7, none⟩ b7).setCell ⟨q, 8, none⟩ b8).setCell ⟨q, 9, none⟩ b9).setCell ⟨q, 10, none⟩ b10) q [b0, b1, b2, b3, b4, b5, b6, b7, b8, b9, b10, a11].toArray 40 := h9.set 10 _
  have h11 : Blk ((((((((((((w.setCell ⟨q, 0, none⟩ b0).setCell ⟨q, 1, none⟩ b1).setCell ⟨q, 2, none⟩ b2).setCell ⟨q, 3, none⟩ b3).setCell ⟨q, 4, none⟩ b4).setCell ⟨q, 5, none⟩ b5).setCell ⟨q, 6, none⟩ b6).setCell ⟨q, 7, none⟩ b7).setCell ⟨q, 8, none⟩ b8).setCell ⟨q, 9, none⟩ b9).setCell ⟨q, 10, none⟩ b10).setCell ⟨q, 11, none⟩ b11) q [b0, b1, b2, b3, b4, b5, b6, b7, b8, b9, b10, b11].toArray 40 := h10.set 11 _
  exact ⟨h11, fun B W hb hq => ((((((((((((hb.setCell hq _).setCell hq _).setCell hq _).setCell hq _).setCell hq _).setCell hq _).setCell hq _).setCell hq _).setCell hq _).setCell hq _).setCell hq _).setCell hq _)⟩
theorem blk_ne2 {w : World} {g k : Nat} {cs ds : Array Value} {t u : TypeId} (h : Blk w g cs t) (h2 : Blk w k ds u) (hn : t ≠ u) : g ≠ k := by
  intro e
  subst e
  unfold Blk at h h2
  rw [h] at h2
  cases h2
  exact hn rfl
end Go.Proofs.YtnfeklebfnlgkaaGreat
