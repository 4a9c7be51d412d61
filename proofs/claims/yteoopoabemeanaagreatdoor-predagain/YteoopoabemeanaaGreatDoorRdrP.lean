/- A pack of texts: Rdr Rdr2 Rdr3 Rdr4 Rdr5. -/
import Derived.Test.YteoopoabemeanaaGreatDoorPaLeft
import Derived.Test.YteoopoabemeanaaGreatDoorStore
import Derived.Deep.LoopGhost
import Derived.Deep.RegionHeld3
import Derived.BigQuiet
import Derived.RegionDies
import Derived.Handy
import Derived.OneCell
/- The reader in memory; its small methods. -/
namespace Go.Proofs.YteoopoabemeanaaGreatDoor
set_option maxRecDepth 100000
open Go.RowKit

def Wd.cells (w : Wd) : Array Value := #[.int .i64 (w.kind : Int), .int .i64 (w.place : Int), .string w.text, .int .i64 w.n, .int .i64 (w.late : Int)]
/-- A fault that is on its way up. -/
def thrown (m : Nat × Nat) : Ending := .panicked [{ v := .iface 34 (.agg #[.int .i64 (m.1 : Int), .int .i64 (m.2 : Int)]), recovered := false }]
def rcells (T : ByteArray) (s : St) (v : Value) : Array Value := #[.string T, .int .i64 (s.here : Int), .int .i64 (s.next.kind : Int), .int .i64 (s.next.place : Int), .string s.next.text, .int .i64 s.next.n, .int .i64 (s.next.late : Int), v]
/-- The library's two errors are there. -/
def Vars (w : World) : Prop := (∃ v, w.cell? ⟨2, 0, none⟩ = some v ∧ (v = .nilIface ∨ ∃ t p, v = .iface t p)) ∧ ∃ v, w.cell? ⟨3, 0, none⟩ = some v ∧ (v = .nilIface ∨ ∃ t p, v = .iface t p)
theorem Vars.lt {w : World} (h : Vars w) : 3 < w.heap.size := by
  obtain ⟨_, v, h, _⟩ := h
  exact World.block_lt_of_cell? w _ h
theorem Vars.below {B : Nat} {w w' : World} (h : Vars w) (hb : Below B w w') (hB : 4 ≤ B) : Vars w' := by
  obtain ⟨⟨v, h1, h2⟩, u, h3, h4⟩ := h
  exact ⟨⟨v, by rw [hb.cell (p := ⟨2, 0, none⟩) (show 2 < B by omega)]; exact h1, h2⟩, u, by rw [hb.cell (p := ⟨3, 0, none⟩) (show 3 < B by omega)]; exact h3, h4⟩
theorem Vars.stay {w w' : World} (h : Vars w) (hb : Below w.heap.size w w') : Vars w' := h.below hb (by have := h.lt; omega)
theorem Vars.set {w : World} (h : Vars w) (a : Addr) (u : Value) (ha : 4 ≤ a.block) : Vars (w.setCell a u) := h.below ((Below.refl 4 w).setCell ha u) (Nat.le_refl _)
structure Rdr (w : World) (g : Nat) (T : ByteArray) (s : St) (v : Value) : Prop where
  blk : Blk w g (rcells T s v) 65
  tms : Tms w (g + 1) v s.terms
  big : 4 ≤ g
  vars : Vars w
theorem Rdr.stay {w w' : World} {g : Nat} {T : ByteArray} {s : St} {v : Value} (h : Rdr w g T s v) (hb : Below w.heap.size w w') : Rdr w' g T s v := ⟨h.blk.stay hb, h.tms.below hb, h.big, h.vars.stay hb⟩
theorem Rdr.lt {w : World} {g : Nat} {T : ByteArray} {s : St} {v : Value} (h : Rdr w g T s v) : g < w.heap.size := h.blk.lt
/-- readWord tells the words. -/
def Words (F : Lex) (T : ByteArray) : Prop := ∀ (p : Nat) (w : World), Vars w → p ≤ T.size → Calls Tryz.prog 26 #[.string T, .int .i64 (p : Int)] w fun e w' => (match F p with
  | .ok (wd, k) => e = .returned (.tuple #[.agg wd.cells, .int .i64 (k : Int)])
  | .error m => e = thrown m) ∧ Below w.heap.size w w'
def nothing : Value := .tuple #[]

/-- What a call of a method leaves: all but the reader and the terms' row. -/
structure Kept (g : Nat) (v : Value) (w : World) (v' : Value) (w' : World) : Prop where
  below : Below g w w'
  block : ∀ b, b < w.heap.size → b ≠ g → v.ownBlock ≠ some b → w'.heap[b]? = w.heap[b]?
  own : v'.ownBlock = v.ownBlock ∨ ∀ b, v'.ownBlock = some b → w.heap.size ≤ b
theorem Kept.of {g : Nat} {w w' : World} (v : Value) (hg : g ≤ w.heap.size) (h : Below w.heap.size w w') : Kept g v w v w' := ⟨h.mono hg, fun b hb _ _ => h.block b hb, .inl rfl⟩
theorem Kept.trans {g : Nat} {v v' v'' : Value} {w w' w'' : World} (h : Kept g v w v' w') (k : Kept g v' w' v'' w'') : Kept g v w v'' w'' := by
  refine ⟨h.below.trans k.below, fun b hb hg hv => ?_, ?_⟩
  · rw [k.block b (Nat.lt_of_lt_of_le hb h.below.size) hg ?_, h.block b hb hg hv]
    rcases h.own with e | e
    · rw [e]; exact hv
    · intro h2
      have := e b h2
      omega
  · rcases k.own with e | e
    · rw [e]; exact h.own
    · exact .inr fun b hb => Nat.le_trans h.below.size (e b hb)
theorem Kept.set {g : Nat} {v v' : Value} {w w' : World} (h : Kept g v w v' w') (i : Nat) (u : Value) : Kept g v w v' (w'.setCell ⟨g, i, none⟩ u) :=
  ⟨h.below.setCell (Nat.le_refl _) _, fun b hb hg hv => by rw [heap_setCell_other w' _ b u hg]; exact h.block b hb hg hv, h.own⟩
theorem Kept.setNew {g : Nat} {v v' : Value} {w w' : World} (h : Kept g v w v' w') (hg : g ≤ w.heap.size) (a : Addr) (u : Value) (ha : w.heap.size ≤ a.block) : Kept g v w v' (w'.setCell a u) :=
  ⟨h.below.setCell (Nat.le_trans hg ha) _, fun b hb hg hv => by rw [heap_setCell_other w' _ b u (by omega)]; exact h.block b hb hg hv, h.own⟩
theorem Kept.alloc {g : Nat} {v v' : Value} {w w' : World} (h : Kept g v w v' w') (hg : g ≤ w.heap.size) (o : Obj) : Kept g v w v' (w'.alloc o) :=
  h.trans (Kept.of v' (Nat.le_trans hg h.below.size) (below_alloc w' o))
theorem Kept.blk {g b : Nat} {v v' : Value} {w w' : World} {cs : Array Value} {t : TypeId} (h : Kept g v w v' w') (k : Blk w b cs t) (hg : b ≠ g) (hv : v.ownBlock ≠ some b) : Blk w' b cs t := by
  unfold Blk
  rw [h.block b k.lt hg hv]
  exact k
theorem Rdr.new {w : World} {g : Nat} {T : ByteArray} {s : St} {v : Value} (h : Rdr w g T s v) {b : Nat} (hb : w.heap.size ≤ b) : g < b ∧ v.ownBlock ≠ some b := by
  refine ⟨by have := h.lt; omega, fun e => ?_⟩
  have := (h.tms.row.lt b e).2
  omega

theorem str_beq (a b : ByteArray) : (a.toList == b.toList) = decide (a = b) := by
  by_cases h : a = b
  · subst h; simp
  · rw [decide_eq_false h, beq_eq_false_iff_ne]
    intro he
    apply h
    apply ByteArray.ext
    apply Array.toList_inj.1
    rw [ByteArray.toList_eq, ByteArray.toList_eq] at he
    exact he

theorem reader_isSign (g : Nat) (T t : ByteArray) (s : St) (v : Value) (w : World) (h : Rdr w g T s v) :
    Calls Tryz.prog 28 #[.pointer (some ⟨g, 0, none⟩), .string t] w fun e w' => e = .returned (.bool (isS t s)) ∧ w' = w := by
  have c2 : w.cell? ⟨g, 2, none⟩ = some (.int .i64 (s.next.kind : Int)) := h.blk.cell 2 rfl
  have c4 : w.cell? ⟨g, 4, none⟩ = some (.string s.next.text) := h.blk.cell 4 rfl
  clear h
  obtain ⟨sh, ⟨k, pl, tx, n, lt⟩, tm⟩ := s
  simp only at c2 c4
  by_cases hk : k = 1
  · subst hk
    by_cases ht : tx = t
    · subst ht
      go_enter Tryz.func28, Tryz.ntmps28
      go_wp2
      go_ret
      exact ⟨by simp [isS], rfl⟩
    · have hb : (tx.toList == t.toList) = false := by rw [str_beq]; simpa using ht
      go_enter Tryz.func28, Tryz.ntmps28
      go_wp2
      go_ret
      exact ⟨by simp [isS, ht], rfl⟩
  · have hb : ((k : Int) == 1) = false := by rw [beq_eq_false_iff_ne]; omega
    go_enter Tryz.func28, Tryz.ntmps28
    go_wp2
    go_ret
    exact ⟨by simp [isS, hk], rfl⟩

theorem results_mistake {w : World} {tmps : Array Value} {g : Nat} {t : TypeId} {v0 v1 : Value} (h4 : tmps[4]?.getD undef = .pointer (some ⟨g, 0, none⟩))
    (k : Blk w g #[v0, v1] t) : (results Tryz.f31 tmps).run Tryz.prog w = .ok (.agg #[v0, v1]) w := by
  have k0 := k.cell 0 rfl
  have k1 := k.cell 1 rfl
  simp [results, Tryz.results31, go_sem, h4, k0, k1]

theorem reader_wrong (g : Nat) (T : ByteArray) (s : St) (v : Value) (f : Nat) (w : World) (h : Rdr w g T s v) :
    Calls Tryz.prog 31 #[.pointer (some ⟨g, 0, none⟩), .int .i64 (f : Int)] w fun e w' => e = .returned (.agg #[.int .i64 (s.next.place : Int), .int .i64 (f : Int)]) ∧ Below w.heap.size w w' := by
  have hg := h.lt
  have c3 : (w.alloc (.cells #[.int .i64 0, .int .i64 0] 34)).cell? ⟨g, 3, none⟩ = some (.int .i64 (s.next.place : Int)) := (h.blk.stay (below_alloc w _)).cell 3 rfl
  clear h
  go_enter Tryz.func31, Tryz.ntmps31
  go_wp2
  go_returns
  exact ⟨rfl, below_alloc w _⟩

theorem Blk.word {w : World} {g : Nat} {t : TypeId} {T : ByteArray} {s : St} {v : Value} (h : Blk w g (rcells T s v) t) (wd : Wd) (k : Nat) : Blk ((((((w.setCell ⟨g, 2, none⟩ (.int .i64 (wd.kind : Int))).setCell ⟨g, 3, none⟩ (.int .i64 (wd.place : Int))).setCell ⟨g, 4, none⟩ (.string wd.text)).setCell ⟨g, 5, none⟩ (.int .i64 wd.n)).setCell ⟨g, 6, none⟩ (.int .i64 (wd.late : Int))).setCell ⟨g, 1, none⟩ (.int .i64 (k : Int))) g (rcells T ⟨k, wd, s.terms⟩ v) t :=
  (((((h.set 2 _).set 3 _).set 4 _).set 5 _).set 6 _).set 1 _

theorem reader_advance_err {F : Lex} {T : ByteArray} (HW : Words F T) {g : Nat} {s : St} {v : Value} {m : Nat × Nat} (w : World) (h : Rdr w g T s v) (hs : s.here ≤ T.size) (hf : F s.here = .error m) :
    Calls Tryz.prog 16 #[.pointer (some ⟨g, 0, none⟩)] w fun e w' => e = thrown m ∧ Below w.heap.size w w' := by
  have c0 : w.cell? ⟨g, 0, none⟩ = some (.string T) := h.blk.cell 0 rfl
  have c1 : w.cell? ⟨g, 1, none⟩ = some (.int .i64 (s.here : Int)) := h.blk.cell 1 rfl
  have d0 : w.drew.cell? ⟨g, 0, none⟩ = some (.string T) := c0
  have d1 : w.drew.cell? ⟨g, 1, none⟩ = some (.int .i64 (s.here : Int)) := c1
  have HV : Hid (Vars w) := h.vars
  have HC : Hid (∀ w : World, Vars w → Calls Tryz.prog 26 #[.string T, .int .i64 (s.here : Int)] w fun e w' => e = thrown m ∧ Below w.heap.size w w') := by
    intro w hv
    have := HW s.here w hv hs
    rw [hf] at this
    exact this
  clear h HW hf hs
  generalize (s.here : Int) = P at *
  go_enter Tryz.func16, Tryz.ntmps16
  go_wp2_with fail
  go_region_dies
  all_goals
    refine (HC.out _ (HV.out.stay (Below.refl _ _).drew)).mono ?_
    rintro e w3 ⟨rfl, hb3⟩
    exact ⟨rfl, rfl, (Below.refl _ _).drew.trans hb3⟩

set_option maxHeartbeats 1000000 in
theorem reader_advance {F : Lex} {T : ByteArray} (HW : Words F T) {g : Nat} {s : St} {v : Value} {wd : Wd} {k : Nat} (w : World) (h : Rdr w g T s v) (hs : s.here ≤ T.size) (hf : F s.here = .ok (wd, k)) :
    Calls Tryz.prog 16 #[.pointer (some ⟨g, 0, none⟩)] w fun e w' => e = .returned nothing ∧ Rdr w' g T ⟨k, wd, s.terms⟩ v ∧ Kept g v w v w' := by
  have c0 : w.cell? ⟨g, 0, none⟩ = some (.string T) := h.blk.cell 0 rfl
  have c1 : w.cell? ⟨g, 1, none⟩ = some (.int .i64 (s.here : Int)) := h.blk.cell 1 rfl
  have d0 : w.drew.cell? ⟨g, 0, none⟩ = some (.string T) := c0
  have d1 : w.drew.cell? ⟨g, 1, none⟩ = some (.int .i64 (s.here : Int)) := c1
  have HR : Hid (Rdr w g T s v) := h
  have HV : Hid (Vars w) := h.vars
  have HC : Hid (∀ w : World, Vars w → Calls Tryz.prog 26 #[.string T, .int .i64 (s.here : Int)] w fun e w' => e = .returned (.tuple #[.agg wd.cells, .int .i64 (k : Int)]) ∧ Below w.heap.size w w') := by
    intro w hv
    have := HW s.here w hv hs
    rw [hf] at this
    exact this
  clear h HW hf hs
  simp only [Wd.cells] at HC
  generalize hP : (s.here : Int) = P at c0 c1 d0 d1 HC
  have HP : Hid ((s.here : Int) = P) := hP
  clear hP
  go_enter Tryz.func16, Tryz.ntmps16
  go_wp2_with fail
  go_region_with
    ((go_at_call 26; refine (HC.out _ (HV.out.stay (Below.refl _ _).drew)).mono ?_; rintro e w3 ⟨rfl, hb3⟩; have HB3 : Hid (Below w.heap.size w w3) := (Below.refl _ _).drew.trans hb3; have HR3 : Hid (Rdr w3 g T s v) := HR.out.stay HB3.out; clear hb3;
      have e1 : w3.cell? ⟨g, 1, none⟩ = some (.int .i64 (s.here : Int)) := HR3.out.blk.cell 1 rfl;
      have e2 : w3.cell? ⟨g, 2, none⟩ = some (.int .i64 (s.next.kind : Int)) := HR3.out.blk.cell 2 rfl;
      have e3 : w3.cell? ⟨g, 3, none⟩ = some (.int .i64 (s.next.place : Int)) := HR3.out.blk.cell 3 rfl;
      have e4 : w3.cell? ⟨g, 4, none⟩ = some (.string s.next.text) := HR3.out.blk.cell 4 rfl;
      have e5 : w3.cell? ⟨g, 5, none⟩ = some (.int .i64 s.next.n) := HR3.out.blk.cell 5 rfl;
      have e6 : w3.cell? ⟨g, 6, none⟩ = some (.int .i64 (s.next.late : Int)) := HR3.out.blk.cell 6 rfl;
      have f1 := HR3.out.blk.free 1; have f2 := HR3.out.blk.free 2; have f3 := HR3.out.blk.free 3; have f4 := HR3.out.blk.free 4; have f5 := HR3.out.blk.free 5; have f6 := HR3.out.blk.free 6))
  all_goals
    refine ⟨rfl, _, results_none rfl _ _ _, rfl, ⟨HR3.out.blk.word wd k, ?_, HR3.out.big, (((((HR3.out.vars.set _ _ HR3.out.big).set _ _ HR3.out.big).set _ _ HR3.out.big).set _ _ HR3.out.big).set _ _ HR3.out.big).set _ _ HR3.out.big⟩, ?_⟩
    · exact (((((HR3.out.tms.under _ _ (by simp)).under _ _ (by simp)).under _ _ (by simp)).under _ _ (by simp)).under _ _ (by simp)).under _ _ (by simp)
    · exact ((((((Kept.of v (Nat.le_of_lt HR.out.lt) HB3.out).set _ _).set _ _).set _ _).set _ _).set _ _).set _ _
end Go.Proofs.YteoopoabemeanaaGreatDoor
/- The reader's pass, need, needSign, add. -/
namespace Go.Proofs.YteoopoabemeanaaGreatDoor
set_option maxRecDepth 100000
open Go.RowKit

theorem results_word {f : Func} {w : World} {tmps : Array Value} {g i : Nat} {t : TypeId} {wd : Wd} (hf : f.results = #[.cell i 63]) (h4 : tmps[i]?.getD undef = .pointer (some ⟨g, 0, none⟩))
    (k : Blk w g wd.cells t) : (results f tmps).run Tryz.prog w = .ok (.agg wd.cells) w := by
  have k0 : w.cell? ⟨g, 0, none⟩ = some (.int .i64 (wd.kind : Int)) := k.cell 0 rfl
  have k1 : w.cell? ⟨g, 1, none⟩ = some (.int .i64 (wd.place : Int)) := k.cell 1 rfl
  have k2 : w.cell? ⟨g, 2, none⟩ = some (.string wd.text) := k.cell 2 rfl
  have k3 : w.cell? ⟨g, 3, none⟩ = some (.int .i64 wd.n) := k.cell 3 rfl
  have k4 : w.cell? ⟨g, 4, none⟩ = some (.int .i64 (wd.late : Int)) := k.cell 4 rfl
  simp [results, hf, go_sem, h4, k0, k1, k2, k3, k4, Wd.cells]
theorem Blk.setW {w : World} {g : Nat} {t : TypeId} {u0 u1 u2 u3 u4 : Value} (h : Blk w g #[u0, u1, u2, u3, u4] t) (v0 v1 v2 v3 v4 : Value) : Blk (((((w.setCell ⟨g, 0, none⟩ v0).setCell ⟨g, 1, none⟩ v1).setCell ⟨g, 2, none⟩ v2).setCell ⟨g, 3, none⟩ v3).setCell ⟨g, 4, none⟩ v4) g #[v0, v1, v2, v3, v4] t :=
  ((((h.set 0 v0).set 1 v1).set 2 v2).set 3 v3).set 4 v4

theorem Tms.other {w : World} {base : Nat} {v : Value} {l : List Tm} (h : Tms w base v l) (a : Addr) (u : Value) (ha : v.ownBlock ≠ some a.block) : Tms (w.setCell a u) base v l := ⟨ownsRow_setCell_other h.row ha u⟩
theorem Rdr.other {w : World} {g : Nat} {T : ByteArray} {s : St} {v : Value} (h : Rdr w g T s v) (a : Addr) (u : Value) (ha : g < a.block ∧ v.ownBlock ≠ some a.block) : Rdr (w.setCell a u) g T s v := ⟨h.blk.other a u (Nat.ne_of_lt ha.1), h.tms.other a u ha.2, h.big, h.vars.set a u (by have := h.big; omega)⟩

theorem reader_pass_late {T : ByteArray} {g : Nat} {s : St} {v : Value} (w : World) (h : Rdr w g T s v) (hl : s.next.late ≠ 0) :
    Calls Tryz.prog 29 #[.pointer (some ⟨g, 0, none⟩)] w fun e w' => e = thrown (s.next.place, s.next.late) ∧ Below w.heap.size w w' := by
  have HR : Hid (Rdr w g T s v) := h
  have hgl := h.lt
  have hl' : ((s.next.late : Int) != 0) = true := by simpa using hl
  have c2 : w.cell? ⟨g, 2, none⟩ = some (.int .i64 (s.next.kind : Int)) := h.blk.cell 2 rfl
  have c3 : w.cell? ⟨g, 3, none⟩ = some (.int .i64 (s.next.place : Int)) := h.blk.cell 3 rfl
  have c4 : w.cell? ⟨g, 4, none⟩ = some (.string s.next.text) := h.blk.cell 4 rfl
  have c5 : w.cell? ⟨g, 5, none⟩ = some (.int .i64 s.next.n) := h.blk.cell 5 rfl
  have c6 : w.cell? ⟨g, 6, none⟩ = some (.int .i64 (s.next.late : Int)) := h.blk.cell 6 rfl
  clear h
  go_enter Tryz.func29, Tryz.ntmps29
  go_wp2_with fail
  refine (reader_wrong g T s v s.next.late _ (HR.out.stay ((below_alloc w _).alloc (by simp) _))).mono ?_
  rintro e w1 ⟨rfl, hb1⟩
  go_wp2
  exact ⟨rfl, rfl, ((below_alloc w _).alloc (by simp) _).trans (hb1.mono (by simp; omega))⟩

theorem reader_pass_err {F : Lex} {T : ByteArray} (HW : Words F T) {g : Nat} {s : St} {v : Value} {m : Nat × Nat} (w : World) (h : Rdr w g T s v) (hs : s.here ≤ T.size) (hl : s.next.late = 0) (hf : F s.here = .error m) :
    Calls Tryz.prog 29 #[.pointer (some ⟨g, 0, none⟩)] w fun e w' => e = thrown m ∧ Below w.heap.size w w' := by
  have HR : Hid (Rdr w g T s v) := h
  have HX : Hid (Words F T) := HW
  have HF : Hid (F s.here = .error m) := hf
  have hgl := h.lt
  have hl' : ((s.next.late : Int) != 0) = false := by rw [hl]; rfl
  have c2 : w.cell? ⟨g, 2, none⟩ = some (.int .i64 (s.next.kind : Int)) := h.blk.cell 2 rfl
  have c3 : w.cell? ⟨g, 3, none⟩ = some (.int .i64 (s.next.place : Int)) := h.blk.cell 3 rfl
  have c4 : w.cell? ⟨g, 4, none⟩ = some (.string s.next.text) := h.blk.cell 4 rfl
  have c5 : w.cell? ⟨g, 5, none⟩ = some (.int .i64 s.next.n) := h.blk.cell 5 rfl
  have c6 : w.cell? ⟨g, 6, none⟩ = some (.int .i64 (s.next.late : Int)) := h.blk.cell 6 rfl
  clear h hf HW hl
  go_enter Tryz.func29, Tryz.ntmps29
  go_wp2_with fail
  refine (reader_advance_err HX.out _ (HR.out.stay ((below_alloc w _).alloc (by simp) _)) hs HF.out).mono ?_
  rintro e w1 ⟨rfl, hb1⟩
  exact ⟨rfl, rfl, ((below_alloc w _).alloc (by simp) _).trans (hb1.mono (by simp; omega))⟩

theorem reader_pass {F : Lex} {T : ByteArray} (HW : Words F T) {g : Nat} {s : St} {v : Value} {wd : Wd} {k : Nat} (w : World) (h : Rdr w g T s v) (hs : s.here ≤ T.size) (hl : s.next.late = 0) (hf : F s.here = .ok (wd, k)) :
    Calls Tryz.prog 29 #[.pointer (some ⟨g, 0, none⟩)] w fun e w' => e = .returned (.agg s.next.cells) ∧ Rdr w' g T ⟨k, wd, s.terms⟩ v ∧ Kept g v w v w' := by
  have HR : Hid (Rdr w g T s v) := h
  have HX : Hid (Words F T) := HW
  have HF : Hid (F s.here = .ok (wd, k)) := hf
  have hgl := h.lt
  have hl' : ((s.next.late : Int) != 0) = false := by rw [hl]; rfl
  have c2 : w.cell? ⟨g, 2, none⟩ = some (.int .i64 (s.next.kind : Int)) := h.blk.cell 2 rfl
  have c3 : w.cell? ⟨g, 3, none⟩ = some (.int .i64 (s.next.place : Int)) := h.blk.cell 3 rfl
  have c4 : w.cell? ⟨g, 4, none⟩ = some (.string s.next.text) := h.blk.cell 4 rfl
  have c5 : w.cell? ⟨g, 5, none⟩ = some (.int .i64 s.next.n) := h.blk.cell 5 rfl
  have c6 : w.cell? ⟨g, 6, none⟩ = some (.int .i64 (s.next.late : Int)) := h.blk.cell 6 rfl
  clear h hf HW hl
  go_enter Tryz.func29, Tryz.ntmps29
  go_wp2_with fail
  obtain ⟨W0, HW0⟩ : ∃ W0, Hid (W0 = (w.alloc (.cells #[.int .i64 0, .int .i64 0, .string ⟨#[]⟩, .int .i64 0, .int .i64 0] 63)).alloc (.cells s.next.cells 63)) := ⟨_, rfl⟩
  have HB0 : Hid (Below w.heap.size w W0) := by show Below _ _ _; rw [HW0.out]; exact (below_alloc w _).alloc (by simp) _
  have HR0 : Hid (Rdr W0 g T s v) := HR.out.stay HB0.out
  have HK0 : Hid (Blk W0 w.heap.size #[.int .i64 0, .int .i64 0, .string ⟨#[]⟩, .int .i64 0, .int .i64 0] 63) := by show Blk _ _ _ _; rw [HW0.out]; exact (Blk.new w _ _).stay (below_alloc _ _)
  have HK1 : Hid (Blk W0 (w.heap.size + 1) s.next.cells 63) := by
    show Blk _ _ _ _
    rw [HW0.out]
    have := Blk.new (w.alloc (.cells #[.int .i64 0, .int .i64 0, .string ⟨#[]⟩, .int .i64 0, .int .i64 0] 63)) s.next.cells 63
    simpa using this
  change Calls _ _ _ ((w.alloc (.cells #[.int .i64 0, .int .i64 0, .string ⟨#[]⟩, .int .i64 0, .int .i64 0] 63)).alloc (.cells s.next.cells 63)) _
  rw [← HW0.out]
  refine (reader_advance HX.out W0 HR0.out hs HF.out).mono ?_
  rintro e w2 ⟨rfl, hr2, hk2⟩
  obtain ⟨n1', n2⟩ := HR.out.new (Nat.le_refl w.heap.size)
  have n1 := Nat.ne_of_gt n1'
  obtain ⟨n3', n4⟩ := HR.out.new (Nat.le_succ w.heap.size)
  have n3 := Nat.ne_of_gt n3'
  have HK0' : Hid (Blk w2 w.heap.size #[.int .i64 0, .int .i64 0, .string ⟨#[]⟩, .int .i64 0, .int .i64 0] 63) := hk2.blk HK0.out n1 n2
  have HK1' : Hid (Blk w2 (w.heap.size + 1) s.next.cells 63) := hk2.blk HK1.out n3 n4
  have HK : Hid (Kept g v w v w2) := (Kept.of v (Nat.le_of_lt hgl) HB0.out).trans hk2
  have HR2 : Hid (Rdr w2 g T ⟨k, wd, s.terms⟩ v) := hr2
  clear hr2 hk2 n1 n1' n2 n3 n3' n4 HK0 HK1 HB0 HR0 c2 c3 c4 c5 c6
  have c0 : w2.cell? ⟨w.heap.size + 1, 0, none⟩ = some (.int .i64 (s.next.kind : Int)) := HK1'.out.cell 0 rfl
  have c1 : w2.cell? ⟨w.heap.size + 1, 1, none⟩ = some (.int .i64 (s.next.place : Int)) := HK1'.out.cell 1 rfl
  have c2 : w2.cell? ⟨w.heap.size + 1, 2, none⟩ = some (.string s.next.text) := HK1'.out.cell 2 rfl
  have c3 : w2.cell? ⟨w.heap.size + 1, 3, none⟩ = some (.int .i64 s.next.n) := HK1'.out.cell 3 rfl
  have c4 : w2.cell? ⟨w.heap.size + 1, 4, none⟩ = some (.int .i64 (s.next.late : Int)) := HK1'.out.cell 4 rfl
  have d0 : w2.cell? ⟨w.heap.size, 0, none⟩ = some (.int .i64 0) := HK0'.out.cell 0 rfl
  have d1 : w2.cell? ⟨w.heap.size, 1, none⟩ = some (.int .i64 0) := HK0'.out.cell 1 rfl
  have d2 : w2.cell? ⟨w.heap.size, 2, none⟩ = some (.string ⟨#[]⟩) := HK0'.out.cell 2 rfl
  have d3 : w2.cell? ⟨w.heap.size, 3, none⟩ = some (.int .i64 0) := HK0'.out.cell 3 rfl
  have d4 : w2.cell? ⟨w.heap.size, 4, none⟩ = some (.int .i64 0) := HK0'.out.cell 4 rfl
  have f0 := HK0'.out.free 0
  have f1 := HK0'.out.free 1
  have f2 := HK0'.out.free 2
  have f3 := HK0'.out.free 3
  have f4 := HK0'.out.free 4
  unfold nothing
  go_wp2
  try simp only [Exit.inBlock, Exit.then]
  refine bodyPost_ret (results_word (wd := s.next) rfl (by rfl) (HK0'.out.setW _ _ _ _ _)) rfl ?_
  refine ⟨rfl, ?_, ?_⟩
  · have hn := HR.out.new (Nat.le_refl w.heap.size)
    exact ((((HR2.out.other _ _ hn).other _ _ hn).other _ _ hn).other _ _ hn).other _ _ hn
  · exact ((((HK.out.setNew (Nat.le_of_lt hgl) _ _ (by simp)).setNew (Nat.le_of_lt hgl) _ _ (by simp)).setNew (Nat.le_of_lt hgl) _ _ (by simp)).setNew (Nat.le_of_lt hgl) _ _ (by simp)).setNew (Nat.le_of_lt hgl) _ _ (by simp)

theorem passM_cases {F : Lex} {s : St} : ∀ {r : Res}, passM F s = r → (s.next.late ≠ 0 ∧ r = .error (s.next.place, s.next.late)) ∨ (s.next.late = 0 ∧ ∃ m, F s.here = .error m ∧ r = .error m) ∨ (s.next.late = 0 ∧ ∃ wd k, F s.here = .ok (wd, k) ∧ r = .ok ⟨k, wd, s.terms⟩) := by
  intro r h
  unfold passM at h
  split at h
  · rename_i hl
    refine .inr ?_
    unfold adv at h
    rcases hf : F s.here with m | ⟨wd, k⟩
    · rw [hf] at h; exact .inl ⟨hl, m, rfl, h.symm⟩
    · rw [hf] at h; exact .inr ⟨hl, wd, k, rfl, h.symm⟩
  · rename_i hl
    exact .inl ⟨hl, h.symm⟩
theorem passM_terms {F : Lex} {s s' : St} (h : passM F s = .ok s') : s'.terms = s.terms := by
  rcases passM_cases h with ⟨_, h⟩ | ⟨_, m, _, h⟩ | ⟨_, wd, k, _, h⟩
  · cases h
  · cases h
  · cases h; rfl
theorem pass_ok {F : Lex} {T : ByteArray} (HW : Words F T) {g : Nat} {s s' : St} {v : Value} (w : World) (h : Rdr w g T s v) (hs : s.here ≤ T.size) (hp : passM F s = .ok s') :
    Calls Tryz.prog 29 #[.pointer (some ⟨g, 0, none⟩)] w fun e w' => e = .returned (.agg s.next.cells) ∧ Rdr w' g T s' v ∧ Kept g v w v w' := by
  rcases passM_cases hp with ⟨_, h2⟩ | ⟨_, m, _, h2⟩ | ⟨hl, wd, k, hf, h2⟩
  · cases h2
  · cases h2
  · cases h2; exact reader_pass HW w h hs hl hf
theorem pass_bad {F : Lex} {T : ByteArray} (HW : Words F T) {g : Nat} {s : St} {m : Nat × Nat} {v : Value} (w : World) (h : Rdr w g T s v) (hs : s.here ≤ T.size) (hp : passM F s = .error m) :
    Calls Tryz.prog 29 #[.pointer (some ⟨g, 0, none⟩)] w fun e w' => e = thrown m ∧ Below w.heap.size w w' := by
  rcases passM_cases hp with ⟨hl, h2⟩ | ⟨hl, m, hf, h2⟩ | ⟨hl, wd, k, hf, h2⟩
  · cases h2; exact reader_pass_late w h hl
  · cases h2; exact reader_pass_err HW w h hs hl hf
  · cases h2
end Go.Proofs.YteoopoabemeanaaGreatDoor
/- The reader's need, needSign, add. -/
namespace Go.Proofs.YteoopoabemeanaaGreatDoor
set_option maxRecDepth 100000
open Go.RowKit

def zeroW : Array Value := #[.int .i64 0, .int .i64 0, .string ⟨#[]⟩, .int .i64 0, .int .i64 0]

theorem need_form {T : ByteArray} {g : Nat} {s : St} {v : Value} (k : Nat) (w : World) (h : Rdr w g T s v) (hk : s.next.kind ≠ k) :
    Calls Tryz.prog 18 #[.pointer (some ⟨g, 0, none⟩), .int .i64 (k : Int)] w fun e w' => e = thrown (s.next.place, 4) ∧ Below w.heap.size w w' := by
  have HR : Hid (Rdr w g T s v) := h
  have hgl := h.lt
  have hk' : ((s.next.kind : Int) != (k : Int)) = true := by rw [bne_iff_ne]; omega
  have c2 : w.cell? ⟨g, 2, none⟩ = some (.int .i64 (s.next.kind : Int)) := h.blk.cell 2 rfl
  clear h hk
  go_enter Tryz.func18, Tryz.ntmps18
  go_wp2_with fail
  refine (reader_wrong g T s v 4 _ (HR.out.stay (below_alloc w _))).mono ?_
  rintro e w1 ⟨rfl, hb1⟩
  go_wp2
  exact ⟨rfl, rfl, (below_alloc w _).trans (hb1.mono (by simp))⟩

theorem need_pass_bad {F : Lex} {T : ByteArray} (HW : Words F T) {g : Nat} {s : St} {v : Value} {m : Nat × Nat} (k : Nat) (w : World) (h : Rdr w g T s v) (hs : s.here ≤ T.size) (hk : s.next.kind = k) (hp : passM F s = .error m) :
    Calls Tryz.prog 18 #[.pointer (some ⟨g, 0, none⟩), .int .i64 (k : Int)] w fun e w' => e = thrown m ∧ Below w.heap.size w w' := by
  have HR : Hid (Rdr w g T s v) := h
  have HX : Hid (Words F T) := HW
  have HP : Hid (passM F s = .error m) := hp
  have hgl := h.lt
  have hk' : ((s.next.kind : Int) != (k : Int)) = false := by rw [bne_eq_false_iff_eq]; omega
  have c2 : w.cell? ⟨g, 2, none⟩ = some (.int .i64 (s.next.kind : Int)) := h.blk.cell 2 rfl
  clear h hk hp HW
  go_enter Tryz.func18, Tryz.ntmps18
  go_wp2_with fail
  refine (pass_bad HX.out _ (HR.out.stay (below_alloc w _)) hs HP.out).mono ?_
  rintro e w1 ⟨rfl, hb1⟩
  exact ⟨rfl, rfl, (below_alloc w _).trans (hb1.mono (by simp))⟩

theorem need_pass_ok {F : Lex} {T : ByteArray} (HW : Words F T) {g : Nat} {s s' : St} {v : Value} (k : Nat) (w : World) (h : Rdr w g T s v) (hs : s.here ≤ T.size) (hk : s.next.kind = k) (hp : passM F s = .ok s') :
    Calls Tryz.prog 18 #[.pointer (some ⟨g, 0, none⟩), .int .i64 (k : Int)] w fun e w' => e = .returned (.agg s.next.cells) ∧ Rdr w' g T s' v ∧ Kept g v w v w' := by
  have HR : Hid (Rdr w g T s v) := h
  have HX : Hid (Words F T) := HW
  have HP : Hid (passM F s = .ok s') := hp
  have hgl := h.lt
  have hk' : ((s.next.kind : Int) != (k : Int)) = false := by rw [bne_eq_false_iff_eq]; omega
  have c2 : w.cell? ⟨g, 2, none⟩ = some (.int .i64 (s.next.kind : Int)) := h.blk.cell 2 rfl
  clear h hk hp HW
  have HB0 : Hid (Below w.heap.size w (w.alloc (.cells #[.int .i64 0, .int .i64 0, .string ⟨#[]⟩, .int .i64 0, .int .i64 0] 63))) := below_alloc w _
  have HK0 : Hid (Blk (w.alloc (.cells #[.int .i64 0, .int .i64 0, .string ⟨#[]⟩, .int .i64 0, .int .i64 0] 63)) w.heap.size #[.int .i64 0, .int .i64 0, .string ⟨#[]⟩, .int .i64 0, .int .i64 0] 63) := Blk.new w _ _
  go_enter Tryz.func18, Tryz.ntmps18
  go_wp2_with fail
  refine (pass_ok HX.out _ (HR.out.stay HB0.out) hs HP.out).mono ?_
  rintro e w2 ⟨rfl, hr2, hk2⟩
  obtain ⟨n1', n2⟩ := HR.out.new (Nat.le_refl w.heap.size)
  have n1 := Nat.ne_of_gt n1'
  have HK0' : Hid (Blk w2 w.heap.size #[.int .i64 0, .int .i64 0, .string ⟨#[]⟩, .int .i64 0, .int .i64 0] 63) := hk2.blk HK0.out n1 n2
  have HK : Hid (Kept g v w v w2) := (Kept.of v (Nat.le_of_lt hgl) HB0.out).trans hk2
  have HR2 : Hid (Rdr w2 g T s' v) := hr2
  clear hr2 hk2 n1 n1' n2 HK0 HB0 c2
  have d0 : w2.cell? ⟨w.heap.size, 0, none⟩ = some (.int .i64 0) := HK0'.out.cell 0 rfl
  have d1 : w2.cell? ⟨w.heap.size, 1, none⟩ = some (.int .i64 0) := HK0'.out.cell 1 rfl
  have d2 : w2.cell? ⟨w.heap.size, 2, none⟩ = some (.string ⟨#[]⟩) := HK0'.out.cell 2 rfl
  have d3 : w2.cell? ⟨w.heap.size, 3, none⟩ = some (.int .i64 0) := HK0'.out.cell 3 rfl
  have d4 : w2.cell? ⟨w.heap.size, 4, none⟩ = some (.int .i64 0) := HK0'.out.cell 4 rfl
  have f0 := HK0'.out.free 0
  have f1 := HK0'.out.free 1
  have f2 := HK0'.out.free 2
  have f3 := HK0'.out.free 3
  have f4 := HK0'.out.free 4
  simp only [Wd.cells]
  go_wp2
  try simp only [Exit.inBlock, Exit.then]
  refine bodyPost_ret (results_word (wd := s.next) rfl (by rfl) (HK0'.out.setW _ _ _ _ _)) rfl ?_
  refine ⟨rfl, ?_, ?_⟩
  · have hn := HR.out.new (Nat.le_refl w.heap.size)
    exact ((((HR2.out.other _ _ hn).other _ _ hn).other _ _ hn).other _ _ hn).other _ _ hn
  · exact ((((HK.out.setNew (Nat.le_of_lt hgl) _ _ (by simp)).setNew (Nat.le_of_lt hgl) _ _ (by simp)).setNew (Nat.le_of_lt hgl) _ _ (by simp)).setNew (Nat.le_of_lt hgl) _ _ (by simp)).setNew (Nat.le_of_lt hgl) _ _ (by simp)

theorem need_ok {F : Lex} {T : ByteArray} (HW : Words F T) {g : Nat} {s s' : St} {v : Value} (k : Nat) (w : World) (h : Rdr w g T s v) (hs : s.here ≤ T.size) (hp : needM F k s = .ok s') :
    Calls Tryz.prog 18 #[.pointer (some ⟨g, 0, none⟩), .int .i64 (k : Int)] w fun e w' => e = .returned (.agg s.next.cells) ∧ Rdr w' g T s' v ∧ Kept g v w v w' := by
  unfold needM at hp
  split at hp
  · exact need_pass_ok HW k w h hs (by assumption) hp
  · cases hp
theorem need_bad {F : Lex} {T : ByteArray} (HW : Words F T) {g : Nat} {s : St} {m : Nat × Nat} {v : Value} (k : Nat) (w : World) (h : Rdr w g T s v) (hs : s.here ≤ T.size) (hp : needM F k s = .error m) :
    Calls Tryz.prog 18 #[.pointer (some ⟨g, 0, none⟩), .int .i64 (k : Int)] w fun e w' => e = thrown m ∧ Below w.heap.size w w' := by
  unfold needM at hp
  split at hp
  · exact need_pass_bad HW k w h hs (by assumption) hp
  · cases hp; exact need_form k w h (by assumption)

theorem needS_ok {F : Lex} {T : ByteArray} (HW : Words F T) {g : Nat} {s s' : St} {v : Value} (t : ByteArray) (w : World) (h : Rdr w g T s v) (hs : s.here ≤ T.size) (hp : needS F t s = .ok s') :
    Calls Tryz.prog 62 #[.pointer (some ⟨g, 0, none⟩), .string t] w fun e w' => e = .returned nothing ∧ Rdr w' g T s' v ∧ Kept g v w v w' := by
  unfold needS at hp
  cases hi : isS t s with
  | false => rw [hi] at hp; cases hp
  | true =>
    rw [hi, if_pos rfl] at hp
    have HR : Hid (Rdr w g T s v) := h
    have HX : Hid (Words F T) := HW
    have HP : Hid (passM F s = .ok s') := hp
    have HI : Hid (isS t s = true) := hi
    clear h hp HW hi
    go_enter Tryz.func62, Tryz.ntmps62
    go_wp2_with fail
    refine (reader_isSign g T t s v _ HR.out).mono ?_
    rw [HI.out]
    rintro e w1 ⟨rfl, rfl⟩
    go_wp2_with fail
    refine (pass_ok HX.out _ HR.out hs HP.out).mono ?_
    rintro e w2 ⟨rfl, hr2, hk2⟩
    have HK : Hid (Kept g v w1 v w2) := hk2
    have HR2 : Hid (Rdr w2 g T s' v) := hr2
    clear hr2 hk2
    go_wp2
    exact ⟨rfl, _, results_none rfl _ _ _, rfl, HR2.out, HK.out⟩
theorem needS_bad {F : Lex} {T : ByteArray} (HW : Words F T) {g : Nat} {s : St} {m : Nat × Nat} {v : Value} (t : ByteArray) (w : World) (h : Rdr w g T s v) (hs : s.here ≤ T.size) (hp : needS F t s = .error m) :
    Calls Tryz.prog 62 #[.pointer (some ⟨g, 0, none⟩), .string t] w fun e w' => e = thrown m ∧ Below w.heap.size w w' := by
  unfold needS at hp
  have HR : Hid (Rdr w g T s v) := h
  have HX : Hid (Words F T) := HW
  cases hi : isS t s with
  | false =>
    have HI : Hid (isS t s = false) := hi
    rw [hi, if_neg (by simp)] at hp
    cases hp
    clear h HW hi
    go_enter Tryz.func62, Tryz.ntmps62
    go_wp2_with fail
    refine (reader_isSign g T t s v _ HR.out).mono ?_
    rw [HI.out]
    rintro e w1 ⟨rfl, rfl⟩
    go_wp2_with fail
    refine (reader_wrong g T s v 4 _ HR.out).mono ?_
    rintro e w2 ⟨rfl, hb2⟩
    go_wp2
    exact ⟨rfl, rfl, hb2⟩
  | true =>
    have HI : Hid (isS t s = true) := hi
    rw [hi, if_pos rfl] at hp
    have HP : Hid (passM F s = .error m) := hp
    clear h hp HW hi
    go_enter Tryz.func62, Tryz.ntmps62
    go_wp2_with fail
    refine (reader_isSign g T t s v _ HR.out).mono ?_
    rw [HI.out]
    rintro e w1 ⟨rfl, rfl⟩
    go_wp2_with fail
    refine (pass_bad HX.out _ HR.out hs HP.out).mono ?_
    rintro e w2 ⟨rfl, hb2⟩
    exact ⟨rfl, rfl, hb2⟩

/-- The reader with a term more. -/
theorem Rdr.more {w w' : World} {g : Nat} {T : ByteArray} {s : St} {v v' : Value} (h : Rdr w g T s v) (q : Tm) (ht : Tms w' (g + 1) v' (s.terms ++ [q])) (hg : w.grownBy w' v.ownBlock) : Rdr (w'.setCell ⟨g, 7, none⟩ v') g T (addM q s) v' ∧ Below g w (w'.setCell ⟨g, 7, none⟩ v') := by
  have hgl := h.lt
  have hne : some g ≠ v.ownBlock := fun e => by
    have := (h.tms.row.lt g e.symm).1
    omega
  exact ⟨⟨((h.blk.grown hg hne).set 7 v'), ht.under _ _ (by simp), h.big, (h.vars.below ((Below.refl g w).grown hg (Nat.le_of_lt hgl) (fun k hk => by have := (h.tms.row.lt k hk).1; omega)) h.big).set _ _ h.big⟩, ((Below.refl g w).grown hg (Nat.le_of_lt hgl) (fun k hk => by have := (h.tms.row.lt k hk).1; omega)).setCell (Nat.le_refl _) _⟩
theorem Tms.form3 {w : World} {base : Nat} {v : Value} {l : List Tm} (h : Tms w base v l) : ∃ a n c, v = .slice a n c := by
  obtain ⟨a, c, e⟩ := h.form
  exact ⟨a, _, c, e⟩

theorem add_ok {T : ByteArray} {g : Nat} {s : St} {v : Value} (op : Nat) (w : World) (h : Rdr w g T s v) (hl : s.terms.length ≤ 10000) :
    Calls Tryz.prog 30 #[.pointer (some ⟨g, 0, none⟩), .int .i64 (op : Int)] w fun e w' => e = .returned nothing ∧ (∃ v', Rdr w' g T (addM (Tm.plain op) s) v') ∧ Below g w w' := by
  have HR : Hid (Rdr w g T s v) := h
  have hcx : ∀ (a : Addr) (m : Mode) (W : World) (x y : Nat), (store a (.complex .f64 x y) m).run Tryz.prog W = stored Tryz.prog W a (.complex .f64 x y) m := fun a m W x y => run_store _ _ _ _ _ rfl
  have hgl := h.lt
  have c7 : w.cell? ⟨g, 7, none⟩ = some v := h.blk.cell 7 rfl
  have HA : Hid (Below w.heap.size w (w.alloc (.cells (Tm.plain op).cells 52))) := below_alloc w _
  have HKN : Hid (Blk (w.alloc (.cells (Tm.plain op).cells 52)) w.heap.size (Tm.plain op).cells 52) := Blk.new w _ _
  clear h
  obtain ⟨va, vc, rfl⟩ := HR.out.tms.form
  simp only [Tm.plain, Val.zero, Tm.cells] at HA HKN
  go_enter Tryz.func30, Tryz.ntmps30
  go_wp2_with (at_builtin; refine wpList_append_tm rfl (.tmp 8) (.tmp 11) rfl (g + 1) _ s.terms rfl (HR.out.stay HA.out).tms ⟨w.heap.size, 0, none⟩ 1 (Tm.plain op) rfl (Tm.told HKN.out) (by omega) (by simp; omega) ?_)
  intro v' w1 ht hg
  obtain ⟨hr2, hb2⟩ := (HR.out.stay HA.out).more (Tm.plain op) ht hg
  have HR2 : Hid (Rdr (w1.setCell ⟨g, 7, none⟩ v') g T (addM (Tm.plain op) s) v') := hr2
  have HB2 : Hid (Below g w (w1.setCell ⟨g, 7, none⟩ v')) := (HA.out.mono (Nat.le_of_lt hgl)).trans hb2
  have hne : some g ≠ Value.ownBlock (.slice va s.terms.length vc) := fun e => by
    have := (HR.out.tms.row.lt g e.symm).1
    omega
  have HK1 : Hid (Blk w1 g (rcells T s (.slice va s.terms.length vc)) 65) := (HR.out.stay HA.out).blk.grown hg hne
  have d7 : w1.cell? ⟨g, 7, none⟩ = some (.slice va s.terms.length vc) := HK1.out.cell 7 rfl
  have f7 := HK1.out.free 7
  obtain ⟨va', nn, vc', rfl⟩ := ht.form3
  clear hr2 hb2 ht hg hne c7
  go_wp2
  exact ⟨rfl, _, results_none rfl _ _ _, rfl, ⟨_, HR2.out⟩, HB2.out⟩
end Go.Proofs.YteoopoabemeanaaGreatDoor
/- The reader's readNumber, readOrdered, readCmp. -/
namespace Go.Proofs.YteoopoabemeanaaGreatDoor
set_option maxRecDepth 100000
open Go.RowKit

theorem fld2 (k p : Nat) (t : ByteArray) (n : Int) (l : Nat) (W : World) : (Instr.field 63 (.agg #[.int .i64 (k : Int), .int .i64 (p : Int), .string t, .int .i64 n, .int .i64 (l : Int)]) 2).run Tryz.prog W = .ok (.string t) W := by kernel_rfl
theorem fld3 (k p : Nat) (t : ByteArray) (n : Int) (l : Nat) (W : World) : (Instr.field 63 (.agg #[.int .i64 (k : Int), .int .i64 (p : Int), .string t, .int .i64 n, .int .i64 (l : Int)]) 3).run Tryz.prog W = .ok (.int .i64 n) W := by kernel_rfl

theorem num_limit {T : ByteArray} {g : Nat} {s : St} {v : Value} (lo hi : Int) (w : World) (h : Rdr w g T s v) (hk : s.next.kind = 3) (hn : s.next.n < lo ∨ hi < s.next.n) :
    Calls Tryz.prog 82 #[.pointer (some ⟨g, 0, none⟩), .int .i64 lo, .int .i64 hi] w fun e w' => e = thrown (s.next.place, 6) ∧ Below w.heap.size w w' := by
  have HR : Hid (Rdr w g T s v) := h
  have hgl := h.lt
  have c2 : w.cell? ⟨g, 2, none⟩ = some (.int .i64 3) := by rw [show (3 : Int) = ((s.next.kind : Nat) : Int) by rw [hk]; rfl]; exact h.blk.cell 2 rfl
  have c5 : w.cell? ⟨g, 5, none⟩ = some (.int .i64 s.next.n) := h.blk.cell 5 rfl
  clear h hk
  by_cases h1 : s.next.n < lo
  · have h1' : decide (s.next.n < lo) = true := decide_eq_true h1
    clear hn
    go_enter Tryz.func82, Tryz.ntmps82
    go_wp2_with fail
    refine (reader_wrong g T s v 6 _ HR.out).mono ?_
    rintro e w1 ⟨rfl, hb1⟩
    go_wp2
    exact ⟨rfl, rfl, hb1⟩
  · have h1' : decide (s.next.n < lo) = false := decide_eq_false h1
    have h2 : hi < s.next.n := by omega
    have h2' : decide (hi < s.next.n) = true := decide_eq_true h2
    clear hn
    go_enter Tryz.func82, Tryz.ntmps82
    go_wp2_with fail
    refine (reader_wrong g T s v 6 _ HR.out).mono ?_
    rintro e w1 ⟨rfl, hb1⟩
    go_wp2
    exact ⟨rfl, rfl, hb1⟩

/-- Where no limit is told. -/
theorem num_need {F : Lex} {T : ByteArray} (HW : Words F T) {g : Nat} {s : St} {v : Value} (lo hi : Int) (w : World) (h : Rdr w g T s v) (hs : s.here ≤ T.size) (hn : ¬ (s.next.kind = 3 ∧ (s.next.n < lo ∨ hi < s.next.n))) :
    Calls Tryz.prog 82 #[.pointer (some ⟨g, 0, none⟩), .int .i64 lo, .int .i64 hi] w fun e w' => match needM F 3 s with
      | .ok s' => e = .returned (.int .i64 s.next.n) ∧ Rdr w' g T s' v ∧ Kept g v w v w'
      | .error m => e = thrown m ∧ Below w.heap.size w w' := by
  have HR : Hid (Rdr w g T s v) := h
  have HX : Hid (Words F T) := HW
  have hgl := h.lt
  have c2 : w.cell? ⟨g, 2, none⟩ = some (.int .i64 (s.next.kind : Int)) := h.blk.cell 2 rfl
  have c5 : w.cell? ⟨g, 5, none⟩ = some (.int .i64 s.next.n) := h.blk.cell 5 rfl
  clear h HW
  rcases hp : needM F 3 s with m | s'
  · have HP : Hid (needM F 3 s = .error m) := hp
    clear hp
    by_cases hk : s.next.kind = 3
    · have h1' : decide (s.next.n < lo) = false := decide_eq_false (by omega)
      have h2' : decide (hi < s.next.n) = false := decide_eq_false (by omega)
      have hk' : ((s.next.kind : Int) == 3) = true := by rw [hk]; rfl
      clear hn hk
      go_enter Tryz.func82, Tryz.ntmps82
      go_wp2_with fail
      refine (need_bad HX.out 3 _ HR.out hs HP.out).mono ?_
      rintro e w1 ⟨rfl, hb1⟩
      exact ⟨rfl, rfl, hb1⟩
    · have hk' : ((s.next.kind : Int) == 3) = false := by rw [beq_eq_false_iff_ne]; omega
      clear hn hk
      go_enter Tryz.func82, Tryz.ntmps82
      go_wp2_with fail
      refine (need_bad HX.out 3 _ HR.out hs HP.out).mono ?_
      rintro e w1 ⟨rfl, hb1⟩
      exact ⟨rfl, rfl, hb1⟩
  · have HP : Hid (needM F 3 s = .ok s') := hp
    have hk : s.next.kind = 3 := by
      unfold needM at hp
      split at hp
      · assumption
      · cases hp
    clear hp
    have h1' : decide (s.next.n < lo) = false := decide_eq_false (by omega)
    have h2' : decide (hi < s.next.n) = false := decide_eq_false (by omega)
    have hk' : ((s.next.kind : Int) == 3) = true := by rw [hk]; rfl
    clear hn hk
    go_enter Tryz.func82, Tryz.ntmps82
    go_wp2_with fail
    refine (need_ok HX.out 3 _ HR.out hs HP.out).mono ?_
    rintro e w2 ⟨rfl, hr2, hk2⟩
    have HK : Hid (Kept g v w v w2) := hk2
    have HR2 : Hid (Rdr w2 g T s' v) := hr2
    clear hr2 hk2
    have hfd := fld3 s.next.kind s.next.place s.next.text s.next.n s.next.late
    simp only [Wd.cells]
    go_wp2
    go_ret
    exact ⟨rfl, HR2.out, HK.out⟩
theorem num_ok {F : Lex} {T : ByteArray} (HW : Words F T) {g : Nat} {s s' : St} {v : Value} (lo hi : Int) (w : World) (h : Rdr w g T s v) (hs : s.here ≤ T.size) (hp : numM F lo hi s = .ok s') :
    Calls Tryz.prog 82 #[.pointer (some ⟨g, 0, none⟩), .int .i64 lo, .int .i64 hi] w fun e w' => e = .returned (.int .i64 s.next.n) ∧ Rdr w' g T s' v ∧ Kept g v w v w' := by
  unfold numM at hp
  split at hp
  · cases hp
  · rename_i hn
    have := num_need HW lo hi w h hs hn
    rw [hp] at this
    exact this
theorem num_bad {F : Lex} {T : ByteArray} (HW : Words F T) {g : Nat} {s : St} {m : Nat × Nat} {v : Value} (lo hi : Int) (w : World) (h : Rdr w g T s v) (hs : s.here ≤ T.size) (hp : numM F lo hi s = .error m) :
    Calls Tryz.prog 82 #[.pointer (some ⟨g, 0, none⟩), .int .i64 lo, .int .i64 hi] w fun e w' => e = thrown m ∧ Below w.heap.size w w' := by
  unfold numM at hp
  split at hp
  · rename_i hn
    cases hp
    exact num_limit lo hi w h hn.1 hn.2
  · rename_i hn
    have := num_need HW lo hi w h hs hn
    rw [hp] at this
    exact this

theorem results_val {f : Func} {w : World} {tmps : Array Value} {g i : Nat} {t : TypeId} {q : Val} (hf : f.results = #[.cell i 40]) (h4 : tmps[i]?.getD undef = .pointer (some ⟨g, 0, none⟩))
    (k : Blk w g q.cells t) : (results f tmps).run Tryz.prog w = .ok (.agg q.cells) w := by
  have k0 : w.cell? ⟨g, 0, none⟩ = some (.int .i64 q.kind) := k.cell 0 rfl
  have k1 : w.cell? ⟨g, 1, none⟩ = some (.int .i64 q.whole) := k.cell 1 rfl
  have k2 : w.cell? ⟨g, 2, none⟩ = some (.string q.words) := k.cell 2 rfl
  have k3 : w.cell? ⟨g, 3, none⟩ = some (.bool q.truth) := k.cell 3 rfl
  have k4 : w.cell? ⟨g, 4, none⟩ = some (.complex .f64 q.re q.im) := k.cell 4 rfl
  simp [results, hf, go_sem, h4, k0, k1, k2, k3, k4, Val.cells]

/-- readOrdered. -/
theorem ordered_bad {F : Lex} {T : ByteArray} (HW : Words F T) {g : Nat} {s : St} {m : Nat × Nat} {v : Value} (w : World) (h : Rdr w g T s v) (hs : s.here ≤ T.size) (hp : orderedM F s = .error m) :
    Calls Tryz.prog 80 #[.pointer (some ⟨g, 0, none⟩)] w fun e w' => e = thrown m ∧ Below w.heap.size w w' := by
  have HR : Hid (Rdr w g T s v) := h
  have HX : Hid (Words F T) := HW
  have hgl := h.lt
  have c2 : w.cell? ⟨g, 2, none⟩ = some (.int .i64 (s.next.kind : Int)) := h.blk.cell 2 rfl
  clear h HW
  unfold orderedM at hp
  split at hp
  · rename_i hk
    have hk' : ((s.next.kind : Int) == 4) = true := by rw [hk]; rfl
    have HP : Hid (passM F s = .error m) := by
      show _ = _
      cases hq : passM F s with
      | ok s' => rw [hq] at hp; simp [withV] at hp
      | error m' => rw [hq] at hp; simp only [withV, Except.error.injEq] at hp; rw [hp]
    clear hp hk
    go_enter Tryz.func80, Tryz.ntmps80
    go_wp2_with fail
    refine (pass_bad HX.out _ (HR.out.stay (below_alloc w _)) hs HP.out).mono ?_
    rintro e w1 ⟨rfl, hb1⟩
    exact ⟨rfl, rfl, (below_alloc w _).trans (hb1.mono (by simp))⟩
  · rename_i hk
    have hk' : ((s.next.kind : Int) == 4) = false := by rw [beq_eq_false_iff_ne]; omega
    have HP : Hid (numM F (-9223372036854775808) 9223372036854775807 s = .error m) := by
      show _ = _
      cases hq : numM F (-9223372036854775808) 9223372036854775807 s with
      | ok s' => rw [hq] at hp; simp [withV] at hp
      | error m' => rw [hq] at hp; simp only [withV, Except.error.injEq] at hp; rw [hp]
    clear hp hk
    go_enter Tryz.func80, Tryz.ntmps80
    go_wp2_with fail
    refine (num_bad HX.out _ _ _ (HR.out.stay (below_alloc w _)) hs HP.out).mono ?_
    rintro e w1 ⟨rfl, hb1⟩
    exact ⟨rfl, rfl, (below_alloc w _).trans (hb1.mono (by simp))⟩

theorem ordered_ok {F : Lex} {T : ByteArray} (HW : Words F T) {g : Nat} {s s' : St} {q : Val} {v : Value} (w : World) (h : Rdr w g T s v) (hs : s.here ≤ T.size) (hp : orderedM F s = .ok (q, s')) :
    Calls Tryz.prog 80 #[.pointer (some ⟨g, 0, none⟩)] w fun e w' => e = .returned (.agg q.cells) ∧ Rdr w' g T s' v ∧ Kept g v w v w' := by
  have hcx : ∀ (a : Addr) (m : Mode) (W : World) (x y : Nat), (store a (.complex .f64 x y) m).run Tryz.prog W = stored Tryz.prog W a (.complex .f64 x y) m := fun a m W x y => run_store _ _ _ _ _ rfl
  have HR : Hid (Rdr w g T s v) := h
  have HX : Hid (Words F T) := HW
  have hgl := h.lt
  have hfd := fld2 s.next.kind s.next.place s.next.text s.next.n s.next.late
  have c2 : w.cell? ⟨g, 2, none⟩ = some (.int .i64 (s.next.kind : Int)) := h.blk.cell 2 rfl
  have HB0 : Hid (Below w.heap.size w (w.alloc (.cells #[.int .i64 0, .int .i64 0, .string ⟨#[]⟩, .bool false, .complex .f64 0 0] 40))) := below_alloc w _
  have HK0 : Hid (Blk (w.alloc (.cells #[.int .i64 0, .int .i64 0, .string ⟨#[]⟩, .bool false, .complex .f64 0 0] 40)) w.heap.size #[.int .i64 0, .int .i64 0, .string ⟨#[]⟩, .bool false, .complex .f64 0 0] 40) := Blk.new w _ _
  clear h HW
  unfold orderedM at hp
  split at hp
  · rename_i hk
    have hk' : ((s.next.kind : Int) == 4) = true := by rw [hk]; rfl
    obtain ⟨rfl, hq⟩ := withV_ok hp
    have HP : Hid (passM F s = .ok s') := hq
    clear hp hk hq
    go_enter Tryz.func80, Tryz.ntmps80
    go_wp2_with fail
    refine (pass_ok HX.out _ (HR.out.stay HB0.out) hs HP.out).mono ?_
    rintro e w2 ⟨rfl, hr2, hk2⟩
    obtain ⟨n1', n2⟩ := HR.out.new (Nat.le_refl w.heap.size)
    have n1 := Nat.ne_of_gt n1'
    have HK0' : Hid (Blk w2 w.heap.size #[.int .i64 0, .int .i64 0, .string ⟨#[]⟩, .bool false, .complex .f64 0 0] 40) := hk2.blk HK0.out n1 n2
    have HK : Hid (Kept g v w v w2) := (Kept.of v (Nat.le_of_lt hgl) HB0.out).trans hk2
    have HR2 : Hid (Rdr w2 g T s' v) := hr2
    clear hr2 hk2 n1 n1' n2 HK0 HB0 c2
    have d0 : w2.cell? ⟨w.heap.size, 0, none⟩ = some (.int .i64 0) := HK0'.out.cell 0 rfl
    have d1 : w2.cell? ⟨w.heap.size, 1, none⟩ = some (.int .i64 0) := HK0'.out.cell 1 rfl
    have d2 : w2.cell? ⟨w.heap.size, 2, none⟩ = some (.string ⟨#[]⟩) := HK0'.out.cell 2 rfl
    have d3 : w2.cell? ⟨w.heap.size, 3, none⟩ = some (.bool false) := HK0'.out.cell 3 rfl
    have d4 : w2.cell? ⟨w.heap.size, 4, none⟩ = some (.complex .f64 0 0) := HK0'.out.cell 4 rfl
    have f0 := HK0'.out.free 0
    have f1 := HK0'.out.free 1
    have f2 := HK0'.out.free 2
    have f3 := HK0'.out.free 3
    have f4 := HK0'.out.free 4
    simp only [Wd.cells]
    go_wp2
    try simp only [Exit.inBlock, Exit.then]
    refine bodyPost_ret (results_val (q := wordsV s.next.text) rfl (by rfl) (HK0'.out.setW _ _ _ _ _)) rfl ?_
    refine ⟨rfl, ?_, ?_⟩
    · have hn := HR.out.new (Nat.le_refl w.heap.size)
      exact ((((HR2.out.other _ _ hn).other _ _ hn).other _ _ hn).other _ _ hn).other _ _ hn
    · exact ((((HK.out.setNew (Nat.le_of_lt hgl) _ _ (by simp)).setNew (Nat.le_of_lt hgl) _ _ (by simp)).setNew (Nat.le_of_lt hgl) _ _ (by simp)).setNew (Nat.le_of_lt hgl) _ _ (by simp)).setNew (Nat.le_of_lt hgl) _ _ (by simp)
  · rename_i hk
    have hk' : ((s.next.kind : Int) == 4) = false := by rw [beq_eq_false_iff_ne]; omega
    obtain ⟨rfl, hq⟩ := withV_ok hp
    have HP : Hid (numM F (-9223372036854775808) 9223372036854775807 s = .ok s') := hq
    clear hp hk hq
    go_enter Tryz.func80, Tryz.ntmps80
    go_wp2_with fail
    refine (num_ok HX.out _ _ _ (HR.out.stay HB0.out) hs HP.out).mono ?_
    rintro e w2 ⟨rfl, hr2, hk2⟩
    obtain ⟨n1', n2⟩ := HR.out.new (Nat.le_refl w.heap.size)
    have n1 := Nat.ne_of_gt n1'
    have HK0' : Hid (Blk w2 w.heap.size #[.int .i64 0, .int .i64 0, .string ⟨#[]⟩, .bool false, .complex .f64 0 0] 40) := hk2.blk HK0.out n1 n2
    have HK : Hid (Kept g v w v w2) := (Kept.of v (Nat.le_of_lt hgl) HB0.out).trans hk2
    have HR2 : Hid (Rdr w2 g T s' v) := hr2
    clear hr2 hk2 n1 n1' n2 HK0 HB0 c2
    have d0 : w2.cell? ⟨w.heap.size, 0, none⟩ = some (.int .i64 0) := HK0'.out.cell 0 rfl
    have d1 : w2.cell? ⟨w.heap.size, 1, none⟩ = some (.int .i64 0) := HK0'.out.cell 1 rfl
    have d2 : w2.cell? ⟨w.heap.size, 2, none⟩ = some (.string ⟨#[]⟩) := HK0'.out.cell 2 rfl
    have d3 : w2.cell? ⟨w.heap.size, 3, none⟩ = some (.bool false) := HK0'.out.cell 3 rfl
    have d4 : w2.cell? ⟨w.heap.size, 4, none⟩ = some (.complex .f64 0 0) := HK0'.out.cell 4 rfl
    have f0 := HK0'.out.free 0
    have f1 := HK0'.out.free 1
    have f2 := HK0'.out.free 2
    have f3 := HK0'.out.free 3
    have f4 := HK0'.out.free 4
    go_wp2
    try simp only [Exit.inBlock, Exit.then]
    refine bodyPost_ret (results_val (q := wholeV s.next.n) rfl (by rfl) (HK0'.out.setW _ _ _ _ _)) rfl ?_
    refine ⟨rfl, ?_, ?_⟩
    · have hn := HR.out.new (Nat.le_refl w.heap.size)
      exact ((((HR2.out.other _ _ hn).other _ _ hn).other _ _ hn).other _ _ hn).other _ _ hn
    · exact ((((HK.out.setNew (Nat.le_of_lt hgl) _ _ (by simp)).setNew (Nat.le_of_lt hgl) _ _ (by simp)).setNew (Nat.le_of_lt hgl) _ _ (by simp)).setNew (Nat.le_of_lt hgl) _ _ (by simp)).setNew (Nat.le_of_lt hgl) _ _ (by simp)

theorem cmpSign_text (c : Nat) (hc : 3 ≤ c ∧ c ≤ 10) (w : World) : Calls Tryz.prog 35 #[.int .i64 (c : Int)] w fun e w' => e = .returned (.string (cmpText c)) ∧ w' = w := by
  obtain ⟨h3, h10⟩ := hc
  have : c = 3 ∨ c = 4 ∨ c = 5 ∨ c = 6 ∨ c = 7 ∨ c = 8 ∨ c = 9 ∨ c = 10 := by omega
  rcases this with rfl | rfl | rfl | rfl | rfl | rfl | rfl | rfl
  all_goals
    go_enter Tryz.func35, Tryz.ntmps35
    go_wp2
    go_ret
    exact ⟨rfl, rfl⟩
end Go.Proofs.YteoopoabemeanaaGreatDoor
/- The reader's readCmp. -/
namespace Go.Proofs.YteoopoabemeanaaGreatDoor
set_option maxRecDepth 100000
open Go.RowKit

def AfterC (g : Nat) (T : ByteArray) (v : Value) (w : World) (R : ResV Nat) (e : Ending) (w' : World) : Prop := match R with
  | .ok (c, s') => e = .returned (.int .i64 (c : Int)) ∧ Rdr w' g T s' v ∧ Kept g v w v w'
  | .error m => e = thrown m ∧ Below w.heap.size w w'

set_option maxHeartbeats 1000000 in
theorem cmp_any {F : Lex} {T : ByteArray} (HW : Words F T) {g : Nat} {s : St} {v : Value} (w : World) (h : Rdr w g T s v) (hs : s.here ≤ T.size) (R : ResV Nat) (hR : cmpM F s = R) :
    Calls Tryz.prog 78 #[.pointer (some ⟨g, 0, none⟩)] w fun e w' => AfterC g T v w R e w' := by
  have HR : Hid (Rdr w g T s v) := h
  have HX : Hid (Words F T) := HW
  have HRR : Hid (cmpFrom F s 8 = R) := hR
  clear h HW hR
  go_enter Tryz.func78, Tryz.ntmps78
  go_wp2
  go_loopw [3] (fun t3 wr => wr = w ∧ ∃ k : Nat, k ≤ 8 ∧ t3 = .int .i64 ((11 - k : Nat) : Int) ∧ Hid (cmpFrom F s k = R)) (fun t3 _ => 11 - (intOf t3).toNat)
  case atStart => exact ⟨rfl, 8, by omega, rfl, HRR⟩
  case round =>
    obtain ⟨rfl, k, hk, rfl, HC⟩ := hrel
    cases k with
    | zero =>
      have HE : Hid (R = .ok (2, s)) := by have := HC.out; rw [cmpFrom] at this; exact this.symm
      go_wp2
      go_ret
      show AfterC _ _ _ _ _ _ _
      rw [HE.out]
      exact ⟨rfl, HR.out, Kept.of v (Nat.le_of_lt HR.out.lt) (Below.refl _ _)⟩
    | succ j =>
      obtain ⟨c, hc⟩ : ∃ c : Nat, 11 - (j + 1) = c := ⟨_, rfl⟩
      have hc10 : c ≤ 10 ∧ 3 ≤ c := by omega
      have hcj : 10 - j = c := by omega
      rw [hc]
      have hle : (c : Int) ≤ 10 := by omega
      have HC2 : Hid ((if isS (cmpText c) s = true then withV c (passM F s) else cmpFrom F s j) = R) := by have := HC.out; rw [cmpFrom, hcj] at this; exact this
      have HCJ : Hid (11 - (j + 1) = c) := hc
      clear HC hc hcj
      obtain ⟨tx, HTX⟩ : ∃ tx, Hid (cmpText c = tx) := ⟨_, rfl⟩
      have HCT : Hid (∀ w : World, Calls Tryz.prog 35 #[.int .i64 (c : Int)] w fun e w' => e = .returned (.string tx) ∧ w' = w) := by
        intro w
        rw [← HTX.out]
        exact cmpSign_text c ⟨hc10.2, hc10.1⟩ w
      rw [HTX.out] at HC2
      go_wp2_with fail
      refine (HCT.out _).mono ?_
      rintro e w1 ⟨rfl, rfl⟩
      go_wp2_with fail
      refine (reader_isSign g T tx s v _ HR.out).mono ?_
      cases hi : isS tx s with
      | true =>
        have HI : Hid (withV c (passM F s) = R) := by have := HC2.out; rw [hi, if_pos rfl] at this; exact this
        clear hi HC2
        rintro e w2 ⟨rfl, rfl⟩
        rcases hp : passM F s with m | s'
        · have HP : Hid (passM F s = .error m) := hp
          have HE : Hid (R = .error m) := by have := HI.out; rw [hp] at this; exact this.symm
          clear hp HI
          go_wp2_with fail
          refine (pass_bad HX.out _ HR.out hs HP.out).mono ?_
          rintro e w3 ⟨rfl, hb3⟩
          refine ⟨rfl, ?_⟩
          show AfterC _ _ _ _ _ _ _
          rw [HE.out]
          exact ⟨rfl, hb3⟩
        · have HP : Hid (passM F s = .ok s') := hp
          have HE : Hid (R = .ok (c, s')) := by have := HI.out; rw [hp] at this; exact this.symm
          clear hp HI
          go_wp2_with fail
          refine (pass_ok HX.out _ HR.out hs HP.out).mono ?_
          rintro e w3 ⟨rfl, hr3, hk3⟩
          have HR3 : Hid (Rdr w3 g T s' v) := hr3
          have HK3 : Hid (Kept g v w2 v w3) := hk3
          clear hr3 hk3
          go_wp2
          go_ret
          show AfterC _ _ _ _ _ _ _
          rw [HE.out]
          exact ⟨rfl, HR3.out, HK3.out⟩
      | false =>
        have HI : Hid (cmpFrom F s j = R) := by have := HC2.out; rw [hi, if_neg (by simp)] at this; exact this
        clear hi HC2
        rintro e w2 ⟨rfl, rfl⟩
        go_wp2
        go_roundw
        case rel =>
          have := HCJ.out
          exact ⟨by trivial, j, by omega, by go_num, HI⟩
        case measure =>
          have := HCJ.out
          simp [intOf]
          omega
end Go.Proofs.YteoopoabemeanaaGreatDoor
