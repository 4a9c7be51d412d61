/- The reader in memory; its small methods. -/
import Derived.Test.YteoopoabemeanaaGreatDoorPaLeft
import Derived.Test.YteoopoabemeanaaGreatDoorStore
import Derived.Deep.LoopGhost
import Derived.Deep.RegionHeld3
import Derived.BigQuiet
import Derived.RegionDies
import Derived.Handy
namespace Go.Proofs.YteoopoabemeanaaGreatDoor
set_option maxRecDepth 100000
open Go.RowKit

def Wd.cells (w : Wd) : Array Value := #[.int .i64 (w.kind : Int), .int .i64 (w.place : Int), .string w.text, .int .i64 w.n, .int .i64 (w.late : Int)]
/-- A fault that is on its way up. -/
def thrown (m : Nat × Nat) : Ending := .panicked [{ v := .iface 34 (.agg #[.int .i64 (m.1 : Int), .int .i64 (m.2 : Int)]), recovered := false }]
def rcells (T : ByteArray) (s : St) (v : Value) : Array Value := #[.string T, .int .i64 (s.here : Int), .int .i64 (s.next.kind : Int), .int .i64 (s.next.place : Int), .string s.next.text, .int .i64 s.next.n, .int .i64 (s.next.late : Int), v]
/-- The library's two errors are there. -/
def Vars (w : World) : Prop := (∃ v, w.cell? ⟨2, 0, none⟩ = some v ∧ (v = .nilIface ∨ ∃ t p, v = .iface t p)) ∧ ∃ v, w.cell? ⟨3, 0, none⟩ = some v ∧ (v = .nilIface ∨ ∃ t p, v = .iface t p)
theorem Vars.lt {w : World} (h : Vars w) : 3 < w.heap.size := by
  obtain ⟨_, v, h, _⟩ := h
  exact World.block_lt_of_cell? w _ h
theorem Vars.below {B : Nat} {w w' : World} (h : Vars w) (hb : Below B w w') (hB : 4 ≤ B) : Vars w' := by
  obtain ⟨⟨v, h1, h2⟩, u, h3, h4⟩ := h
  exact ⟨⟨v, by rw [hb.cell (p := ⟨2, 0, none⟩) (show 2 < B by omega)]; exact h1, h2⟩, u, by rw [hb.cell (p := ⟨3, 0, none⟩) (show 3 < B by omega)]; exact h3, h4⟩
theorem Vars.stay {w w' : World} (h : Vars w) (hb : Below w.heap.size w w') : Vars w' := h.below hb (by have := h.lt; omega)
theorem Vars.set {w : World} (h : Vars w) (a : Addr) (u : Value) (ha : 4 ≤ a.block) : Vars (w.setCell a u) := h.below ((Below.refl 4 w).setCell ha u) (Nat.le_refl _)
structure Rdr (w : World) (g : Nat) (T : ByteArray) (s : St) (v : Value) : Prop where
  blk : Blk w g (rcells T s v) 65
  tms : Tms w (g + 1) v s.terms
  big : 4 ≤ g
  vars : Vars w
theorem Rdr.stay {w w' : World} {g : Nat} {T : ByteArray} {s : St} {v : Value} (h : Rdr w g T s v) (hb : Below w.heap.size w w') : Rdr w' g T s v := ⟨h.blk.stay hb, h.tms.below hb, h.big, h.vars.stay hb⟩
theorem Rdr.lt {w : World} {g : Nat} {T : ByteArray} {s : St} {v : Value} (h : Rdr w g T s v) : g < w.heap.size := h.blk.lt
/-- readWord tells the words. -/
def Words (F : Lex) (T : ByteArray) : Prop := ∀ (p : Nat) (w : World), Vars w → p ≤ T.size → Calls Tryz.prog 26 #[.string T, .int .i64 (p : Int)] w fun e w' => (match F p with
  | .ok (wd, k) => e = .returned (.tuple #[.agg wd.cells, .int .i64 (k : Int)])
  | .error m => e = thrown m) ∧ Below w.heap.size w w'
def nothing : Value := .tuple #[]

/-- What a call of a method leaves: all but the reader and the terms' row. -/
structure Kept (g : Nat) (v : Value) (w : World) (v' : Value) (w' : World) : Prop where
  below : Below g w w'
  block : ∀ b, b < w.heap.size → b ≠ g → v.ownBlock ≠ some b → w'.heap[b]? = w.heap[b]?
  own : v'.ownBlock = v.ownBlock ∨ ∀ b, v'.ownBlock = some b → w.heap.size ≤ b
theorem Kept.of {g : Nat} {w w' : World} (v : Value) (hg : g ≤ w.heap.size) (h : Below w.heap.size w w') : Kept g v w v w' := ⟨h.mono hg, fun b hb _ _ => h.block b hb, .inl rfl⟩
theorem Kept.trans {g : Nat} {v v' v'' : Value} {w w' w'' : World} (h : Kept g v w v' w') (k : Kept g v' w' v'' w'') : Kept g v w v'' w'' := by
  refine ⟨h.below.trans k.below, fun b hb hg hv => ?_, ?_⟩
  · rw [k.block b (Nat.lt_of_lt_of_le hb h.below.size) hg ?_, h.block b hb hg hv]
    rcases h.own with e | e
    · rw [e]; exact hv
    · intro h2
      have := e b h2
      omega
  · rcases k.own with e | e
    · rw [e]; exact h.own
    · exact .inr fun b hb => Nat.le_trans h.below.size (e b hb)
theorem Kept.set {g : Nat} {v v' : Value} {w w' : World} (h : Kept g v w v' w') (i : Nat) (u : Value) : Kept g v w v' (w'.setCell ⟨g, i, none⟩ u) :=
  ⟨h.below.setCell (Nat.le_refl _) _, fun b hb hg hv => by rw [heap_setCell_other w' _ b u hg]; exact h.block b hb hg hv, h.own⟩
theorem Kept.setNew {g : Nat} {v v' : Value} {w w' : World} (h : Kept g v w v' w') (hg : g ≤ w.heap.size) (a : Addr) (u : Value) (ha : w.heap.size ≤ a.block) : Kept g v w v' (w'.setCell a u) :=
  ⟨h.below.setCell (Nat.le_trans hg ha) _, fun b hb hg hv => by rw [heap_setCell_other w' _ b u (by omega)]; exact h.block b hb hg hv, h.own⟩
theorem Kept.alloc {g : Nat} {v v' : Value} {w w' : World} (h : Kept g v w v' w') (hg : g ≤ w.heap.size) (o : Obj) : Kept g v w v' (w'.alloc o) :=
  h.trans (Kept.of v' (Nat.le_trans hg h.below.size) (below_alloc w' o))
theorem Kept.blk {g b : Nat} {v v' : Value} {w w' : World} {cs : Array Value} {t : TypeId} (h : Kept g v w v' w') (k : Blk w b cs t) (hg : b ≠ g) (hv : v.ownBlock ≠ some b) : Blk w' b cs t := by
  unfold Blk
  rw [h.block b k.lt hg hv]
  exact k
theorem Rdr.new {w : World} {g : Nat} {T : ByteArray} {s : St} {v : Value} (h : Rdr w g T s v) {b : Nat} (hb : w.heap.size ≤ b) : g < b ∧ v.ownBlock ≠ some b := by
  refine ⟨by have := h.lt; omega, fun e => ?_⟩
  have := (h.tms.row.lt b e).2
  omega

theorem str_beq (a b : ByteArray) : (a.toList == b.toList) = decide (a = b) := by
  by_cases h : a = b
  · subst h; simp
  · rw [decide_eq_false h, beq_eq_false_iff_ne]
    intro he
    apply h
    apply ByteArray.ext
    apply Array.toList_inj.1
    rw [ByteArray.toList_eq, ByteArray.toList_eq] at he
    exact he

theorem reader_isSign (g : Nat) (T t : ByteArray) (s : St) (v : Value) (w : World) (h : Rdr w g T s v) :
    Calls Tryz.prog 28 #[.pointer (some ⟨g, 0, none⟩), .string t] w fun e w' => e = .returned (.bool (isS t s)) ∧ w' = w := by
  have c2 : w.cell? ⟨g, 2, none⟩ = some (.int .i64 (s.next.kind : Int)) := h.blk.cell 2 rfl
  have c4 : w.cell? ⟨g, 4, none⟩ = some (.string s.next.text) := h.blk.cell 4 rfl
  clear h
  obtain ⟨sh, ⟨k, pl, tx, n, lt⟩, tm⟩ := s
  simp only at c2 c4
  by_cases hk : k = 1
  · subst hk
    by_cases ht : tx = t
    · subst ht
      go_enter Tryz.func28, Tryz.ntmps28
      go_wp2
      go_ret
      exact ⟨by simp [isS], rfl⟩
    · have hb : (tx.toList == t.toList) = false := by rw [str_beq]; simpa using ht
      go_enter Tryz.func28, Tryz.ntmps28
      go_wp2
      go_ret
      exact ⟨by simp [isS, ht], rfl⟩
  · have hb : ((k : Int) == 1) = false := by rw [beq_eq_false_iff_ne]; omega
    go_enter Tryz.func28, Tryz.ntmps28
    go_wp2
    go_ret
    exact ⟨by simp [isS, hk], rfl⟩

theorem results_mistake {w : World} {tmps : Array Value} {g : Nat} {t : TypeId} {v0 v1 : Value} (h4 : tmps[4]?.getD undef = .pointer (some ⟨g, 0, none⟩))
    (k : Blk w g #[v0, v1] t) : (results Tryz.f31 tmps).run Tryz.prog w = .ok (.agg #[v0, v1]) w := by
  have k0 := k.cell 0 rfl
  have k1 := k.cell 1 rfl
  simp [results, Tryz.results31, go_sem, h4, k0, k1]

theorem reader_wrong (g : Nat) (T : ByteArray) (s : St) (v : Value) (f : Nat) (w : World) (h : Rdr w g T s v) :
    Calls Tryz.prog 31 #[.pointer (some ⟨g, 0, none⟩), .int .i64 (f : Int)] w fun e w' => e = .returned (.agg #[.int .i64 (s.next.place : Int), .int .i64 (f : Int)]) ∧ Below w.heap.size w w' := by
  have hg := h.lt
  have c3 : (w.alloc (.cells #[.int .i64 0, .int .i64 0] 34)).cell? ⟨g, 3, none⟩ = some (.int .i64 (s.next.place : Int)) := (h.blk.stay (below_alloc w _)).cell 3 rfl
  clear h
  go_enter Tryz.func31, Tryz.ntmps31
  go_wp2
  go_returns
  exact ⟨rfl, below_alloc w _⟩

theorem Blk.word {w : World} {g : Nat} {t : TypeId} {T : ByteArray} {s : St} {v : Value} (h : Blk w g (rcells T s v) t) (wd : Wd) (k : Nat) : Blk ((((((w.setCell ⟨g, 2, none⟩ (.int .i64 (wd.kind : Int))).setCell ⟨g, 3, none⟩ (.int .i64 (wd.place : Int))).setCell ⟨g, 4, none⟩ (.string wd.text)).setCell ⟨g, 5, none⟩ (.int .i64 wd.n)).setCell ⟨g, 6, none⟩ (.int .i64 (wd.late : Int))).setCell ⟨g, 1, none⟩ (.int .i64 (k : Int))) g (rcells T ⟨k, wd, s.terms⟩ v) t :=
  (((((h.set 2 _).set 3 _).set 4 _).set 5 _).set 6 _).set 1 _

theorem reader_advance_err {F : Lex} {T : ByteArray} (HW : Words F T) {g : Nat} {s : St} {v : Value} {m : Nat × Nat} (w : World) (h : Rdr w g T s v) (hs : s.here ≤ T.size) (hf : F s.here = .error m) :
    Calls Tryz.prog 16 #[.pointer (some ⟨g, 0, none⟩)] w fun e w' => e = thrown m ∧ Below w.heap.size w w' := by
  have c0 : w.cell? ⟨g, 0, none⟩ = some (.string T) := h.blk.cell 0 rfl
  have c1 : w.cell? ⟨g, 1, none⟩ = some (.int .i64 (s.here : Int)) := h.blk.cell 1 rfl
  have d0 : w.drew.cell? ⟨g, 0, none⟩ = some (.string T) := c0
  have d1 : w.drew.cell? ⟨g, 1, none⟩ = some (.int .i64 (s.here : Int)) := c1
  have HV : Hid (Vars w) := h.vars
  have HC : Hid (∀ w : World, Vars w → Calls Tryz.prog 26 #[.string T, .int .i64 (s.here : Int)] w fun e w' => e = thrown m ∧ Below w.heap.size w w') := by
    intro w hv
    have := HW s.here w hv hs
    rw [hf] at this
    exact this
  clear h HW hf hs
  generalize (s.here : Int) = P at *
  go_enter Tryz.func16, Tryz.ntmps16
  go_wp2_with fail
  go_region_dies
  all_goals
    refine (HC.out _ (HV.out.stay (Below.refl _ _).drew)).mono ?_
    rintro e w3 ⟨rfl, hb3⟩
    exact ⟨rfl, rfl, (Below.refl _ _).drew.trans hb3⟩

set_option maxHeartbeats 1000000 in
theorem reader_advance {F : Lex} {T : ByteArray} (HW : Words F T) {g : Nat} {s : St} {v : Value} {wd : Wd} {k : Nat} (w : World) (h : Rdr w g T s v) (hs : s.here ≤ T.size) (hf : F s.here = .ok (wd, k)) :
    Calls Tryz.prog 16 #[.pointer (some ⟨g, 0, none⟩)] w fun e w' => e = .returned nothing ∧ Rdr w' g T ⟨k, wd, s.terms⟩ v ∧ Kept g v w v w' := by
  have c0 : w.cell? ⟨g, 0, none⟩ = some (.string T) := h.blk.cell 0 rfl
  have c1 : w.cell? ⟨g, 1, none⟩ = some (.int .i64 (s.here : Int)) := h.blk.cell 1 rfl
  have d0 : w.drew.cell? ⟨g, 0, none⟩ = some (.string T) := c0
  have d1 : w.drew.cell? ⟨g, 1, none⟩ = some (.int .i64 (s.here : Int)) := c1
  have HR : Hid (Rdr w g T s v) := h
  have HV : Hid (Vars w) := h.vars
  have HC : Hid (∀ w : World, Vars w → Calls Tryz.prog 26 #[.string T, .int .i64 (s.here : Int)] w fun e w' => e = .returned (.tuple #[.agg wd.cells, .int .i64 (k : Int)]) ∧ Below w.heap.size w w') := by
    intro w hv
    have := HW s.here w hv hs
    rw [hf] at this
    exact this
  clear h HW hf hs
  simp only [Wd.cells] at HC
  generalize hP : (s.here : Int) = P at c0 c1 d0 d1 HC
  have HP : Hid ((s.here : Int) = P) := hP
  clear hP
  go_enter Tryz.func16, Tryz.ntmps16
  go_wp2_with fail
  go_region_with
    ((go_at_call 26; refine (HC.out _ (HV.out.stay (Below.refl _ _).drew)).mono ?_; rintro e w3 ⟨rfl, hb3⟩; have HB3 : Hid (Below w.heap.size w w3) := (Below.refl _ _).drew.trans hb3; have HR3 : Hid (Rdr w3 g T s v) := HR.out.stay HB3.out; clear hb3;
      have e1 : w3.cell? ⟨g, 1, none⟩ = some (.int .i64 (s.here : Int)) := HR3.out.blk.cell 1 rfl;
      have e2 : w3.cell? ⟨g, 2, none⟩ = some (.int .i64 (s.next.kind : Int)) := HR3.out.blk.cell 2 rfl;
      have e3 : w3.cell? ⟨g, 3, none⟩ = some (.int .i64 (s.next.place : Int)) := HR3.out.blk.cell 3 rfl;
      have e4 : w3.cell? ⟨g, 4, none⟩ = some (.string s.next.text) := HR3.out.blk.cell 4 rfl;
      have e5 : w3.cell? ⟨g, 5, none⟩ = some (.int .i64 s.next.n) := HR3.out.blk.cell 5 rfl;
      have e6 : w3.cell? ⟨g, 6, none⟩ = some (.int .i64 (s.next.late : Int)) := HR3.out.blk.cell 6 rfl;
      have f1 := HR3.out.blk.free 1; have f2 := HR3.out.blk.free 2; have f3 := HR3.out.blk.free 3; have f4 := HR3.out.blk.free 4; have f5 := HR3.out.blk.free 5; have f6 := HR3.out.blk.free 6))
  all_goals
    refine ⟨rfl, _, results_none rfl _ _ _, rfl, ⟨HR3.out.blk.word wd k, ?_, HR3.out.big, (((((HR3.out.vars.set _ _ HR3.out.big).set _ _ HR3.out.big).set _ _ HR3.out.big).set _ _ HR3.out.big).set _ _ HR3.out.big).set _ _ HR3.out.big⟩, ?_⟩
    · exact (((((HR3.out.tms.under _ _ (by simp)).under _ _ (by simp)).under _ _ (by simp)).under _ _ (by simp)).under _ _ (by simp)).under _ _ (by simp)
    · exact ((((((Kept.of v (Nat.le_of_lt HR.out.lt) HB3.out).set _ _).set _ _).set _ _).set _ _).set _ _).set _ _
end Go.Proofs.YteoopoabemeanaaGreatDoor
