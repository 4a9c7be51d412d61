import Derived.Test.YtghajmcohdedlaaGreatPk00
import Derived.Deep.MidRow
import Derived.Laws.CopyOwn
import Derived.Laws.OwnMore
import Derived.OwnWalk
import Derived.Handy
namespace Go.Proofs.YtghajmcohdedlaaGreat
open Go.RowKit
structure Dk where
 sure : List (List Nat)
 waits : List (Nat × List Nat)
 trip : Nat
 down : Bool
 age : Nat
structure Sec (s : List Nat) : Prop where
 len : s.length = 64
 byte : ∀ b ∈ s, b < 256
def scells (S : List (List Nat)) : List Value := S.flatMap vb
def wcells (p : Nat × List Nat) : List Value := .int .i64 (p.1 : Int) :: vb p.2
theorem wcells_len {p : Nat × List Nat} (h : Sec p.2) : (wcells p).length = 65 := by rw [wcells, List.length_cons, vb_length, h.len]
theorem scells_len : ∀ (S : List (List Nat)), (∀ s ∈ S, Sec s) → (scells S).length = S.length * 64
 | [], _ => rfl
 | s :: S, h => by
  rw [scells, List.flatMap_cons, List.length_append, vb_length, (h s (by simp)).len, List.length_cons]
  have := scells_len S (fun t ht => h t (by simp [ht]))
  rw [scells] at this
  omega
theorem flat_at {α : Type} (f : α → List Value) (n : Nat) : ∀ (L : List α), (∀ s ∈ L, (f s).length = n) → ∀ (i : Nat) (s : α), L[i]? = some s → ∀ j, j < n → (L.flatMap f)[i * n + j]? = (f s)[j]?
 | [], _, i, s, h, j, hj => by simp at h
 | t :: L, hL, 0, s, h, j, hj => by
  simp only [List.getElem?_cons_zero, Option.some.injEq] at h
  subst h
  rw [List.flatMap_cons, Nat.zero_mul, Nat.zero_add, List.getElem?_append_left (by rw [hL t (by simp)]; exact hj)]
 | t :: L, hL, i + 1, s, h, j, hj => by
  rw [List.getElem?_cons_succ] at h
  have e := hL t (by simp)
  rw [List.flatMap_cons, List.getElem?_append_right (by rw [e, Nat.add_mul]; omega), e, show (i + 1) * n + j - n = i * n + j from by rw [Nat.add_mul]; omega]
  exact flat_at f n L (fun s hs => hL s (by simp [hs])) i s h j hj
structure Disk (w : World) (base g gs : Nat) (wv : Value) (D : Dk) : Prop where
 blk : Blk w g #[.slice (some ⟨gs, 0, none⟩) D.sure.length D.sure.length, wv, .int .i64 (D.trip : Int), .bool D.down, .int .i64 (D.age : Int)] 79
 srow : Blk w gs (scells D.sure).toArray 97
 wrow : w.ownsRow base 99 65 wv D.waits.length (D.waits.flatMap wcells)
 bg : base ≤ g
 bs : base ≤ gs
 sz : D.sure.length ≤ 512
 sec : ∀ s ∈ D.sure, Sec s
 wts : ∀ p ∈ D.waits, p.1 < D.sure.length ∧ Sec p.2
 tr : D.trip ≤ 9223372036854775807
 ag : D.age ≤ 1000000000
 wl : D.waits.length ≤ 1000000000
theorem own_ne {w : World} {base k : Nat} {e : TypeId} {size n : Nat} {v : Value} {xs : List Value} {cs : Array Value} {t : TypeId} (h : w.ownsRow base e size v n xs) (hb : Blk w k cs t) (ht : t ≠ e) : some k ≠ v.ownBlock := by
 intro he
 rcases h.2 with ⟨h1, _⟩ | ⟨g, c, cur, h1, _, h3, _⟩
 ·rw [h1] at he; cases he
 ·rw [h1] at he
  simp only [Value.ownBlock, Option.some.injEq] at he
  have := hb
  unfold Blk at this
  rw [he, h3] at this
  simp only [Option.some.injEq, Obj.cells.injEq] at this
  exact ht this.2.1.symm
theorem own_ne' {w : World} {base k : Nat} {e : TypeId} {size n : Nat} {v : Value} {xs : List Value} {cs : Array Value} {t : TypeId} {fr : Nat × Nat} (h : w.ownsRow base e size v n xs) (hb : w.heap[k]? = some (.cells cs t fr)) (ht : t ≠ e) : some k ≠ v.ownBlock := by
 intro he
 rcases h.2 with ⟨h1, _⟩ | ⟨g, c, cur, h1, _, h3, _⟩
 ·rw [h1] at he; cases he
 ·rw [h1] at he
  simp only [Value.ownBlock, Option.some.injEq] at he
  rw [he, h3] at hb
  simp only [Option.some.injEq, Obj.cells.injEq] at hb
  exact ht hb.2.1.symm
theorem blk_ne {w : World} {g k : Nat} {cs cs' : Array Value} {t t' : TypeId} (h : Blk w g cs t) (h' : Blk w k cs' t') (ht : t ≠ t') : g ≠ k := by
 rintro rfl
 unfold Blk at h h'
 rw [h] at h'
 simp only [Option.some.injEq, Obj.cells.injEq] at h'
 exact ht h'.2.1
theorem own_stay {w w' : World} {base : Nat} {e : TypeId} {size n : Nat} {v : Value} {xs : List Value} (h : w.ownsRow base e size v n xs) (hk : ∀ k, v.ownBlock = some k → w'.heap[k]? = w.heap[k]?) : w'.ownsRow base e size v n xs := by
 refine ⟨h.1, ?_⟩
 rcases h.2 with h1 | ⟨g, c, cur, h1, h2, h3, r⟩
 ·exact .inl h1
 ·refine .inr ⟨g, c, cur, h1, h2, ?_, r⟩
  rw [hk g (by rw [h1]; rfl)]
  exact h3
structure Mv (w w' : World) (base g gs : Nat) : Prop where
 low : Below base w w'
 block : ∀ k cs t fr, k ≠ g → k ≠ gs → w.heap[k]? = some (.cells cs t fr) → t ≠ 99 → w'.heap[k]? = some (.cells cs t fr)
theorem heap_lt {w : World} {k : Nat} {o : Obj} (h : w.heap[k]? = some o) : k < w.heap.size := (Array.getElem?_eq_some_iff.1 h).1
theorem Mv.refl (w : World) (base g gs : Nat) : Mv w w base g gs := ⟨Below.refl _ _, fun _ _ _ _ _ _ h _ => h⟩
theorem Mv.trans {w w1 w2 : World} {base g gs : Nat} (h : Mv w w1 base g gs) (h2 : Mv w1 w2 base g gs) : Mv w w2 base g gs :=
 ⟨h.low.trans h2.low, fun k cs t fr h3 h4 h5 h6 => h2.block k cs t fr h3 h4 (h.block k cs t fr h3 h4 h5 h6) h6⟩
theorem Mv.of_below {w w' : World} {base : Nat} (g gs : Nat) (h : Below w.heap.size w w') (hb : base ≤ w.heap.size) : Mv w w' base g gs := ⟨h.mono hb, fun k _ _ _ _ _ h5 _ => by rw [h.block k (heap_lt h5)]; exact h5⟩
theorem Mv.keep {w w' : World} {base g gs k : Nat} {cs : Array Value} {t : TypeId} (h : Mv w w' base g gs) (hb : Blk w k cs t) (h1 : k ≠ g) (h2 : k ≠ gs) (ht : t ≠ 99) : Blk w' k cs t := h.block k cs t _ h1 h2 hb ht
theorem Mv.of_grown {w w' : World} {base g gs : Nat} {k : Nat} (hk : k = g ∨ k = gs) (hb : base ≤ k) (h : w.grownBy w' (some k)) (hs : base ≤ w.heap.size) : Mv w w' base g gs :=
 ⟨(Below.refl _ _).grown h hs (fun j hj => by simp only [Option.some.injEq] at hj; omega), fun j cs t fr h1 h2 h5 _ => by rw [h.block j (heap_lt h5) (fun e => by simp only [Option.some.injEq] at e; rcases hk with rfl | rfl <;> omega)]; exact h5⟩
theorem Mv.of_own {w w' : World} {base g gs : Nat} {v : Value} {size n : Nat} {xs : List Value} (hv : w.ownsRow base 99 size v n xs) (h : w.grownBy w' v.ownBlock) (hs : base ≤ w.heap.size) : Mv w w' base g gs :=
 ⟨(Below.refl _ _).grown h hs (fun j hj => (hv.lt j hj).1), fun k _ _ _ _ _ h5 h6 => by rw [h.block k (heap_lt h5) (own_ne' hv h5 h6)]; exact h5⟩
theorem Disk.apart {w : World} {base g gs : Nat} {wv : Value} {D : Dk} (h : Disk w base g gs wv D) : g ≠ gs ∧ some g ≠ wv.ownBlock ∧ some gs ≠ wv.ownBlock :=
 ⟨blk_ne h.blk h.srow (by decide), own_ne h.wrow h.blk (by decide), own_ne h.wrow h.srow (by decide)⟩
theorem Disk.stay {w w' : World} {base g gs : Nat} {wv : Value} {D : Dk} (h : Disk w base g gs wv D) (hb : Below w.heap.size w w') : Disk w' base g gs wv D :=
 ⟨h.blk.stay hb, h.srow.stay hb, own_stay h.wrow (fun k hk => hb.block k (h.wrow.lt k hk).2), h.bg, h.bs, h.sz, h.sec, h.wts, h.tr, h.ag, h.wl⟩
theorem Disk.lower {w : World} {base base' g gs : Nat} {wv : Value} {D : Dk} (h : Disk w base g gs wv D) (hb : base' ≤ base) : Disk w base' g gs wv D := by
 refine ⟨h.blk, h.srow, ⟨h.wrow.1, ?_⟩, Nat.le_trans hb h.bg, Nat.le_trans hb h.bs, h.sz, h.sec, h.wts, h.tr, h.ag, h.wl⟩
 rcases h.wrow.2 with h1 | ⟨g, c, cur, h1, h2, r⟩
 ·exact .inl h1
 ·exact .inr ⟨g, c, cur, h1, Nat.le_trans hb h2, r⟩
theorem setCells_blk (g : Nat) (t : TypeId) : ∀ (vs : List Value) (o : Nat) (w : World) (cur : List Value), Blk w g cur.toArray t → o + vs.length ≤ cur.length → Blk (w.setCells g o vs) g (splice cur o vs).toArray t ∧ w.grownBy (w.setCells g o vs) (some g)
 | [], o, w, cur, h, _ => by
  refine ⟨?_, ⟨rfl, rfl, rfl, Nat.le_refl _, fun _ _ _ => rfl⟩⟩
  rw [World.setCells, splice]
  simpa using h
 | v :: vs, o, w, cur, h, hl => by
  rw [List.length_cons] at hl
  have h1 : Blk (w.setCell ⟨g, o, none⟩ v) g (cur.set o v).toArray t := by
   have := h.set o v
   simpa using this
  obtain ⟨h2, h3⟩ := setCells_blk g t vs (o + 1) (w.setCell ⟨g, o, none⟩ v) (cur.set o v) h1 (by rw [List.length_set]; omega)
  rw [World.setCells]
  refine ⟨?_, ?_⟩
  ·have e : splice (cur.set o v) (o + 1) vs = splice cur o (v :: vs) := by
    unfold splice
    rw [List.length_cons, show o + (vs.length + 1) = o + 1 + vs.length from by omega, List.drop_set_of_lt (by omega), List.take_set, List.take_add_one, List.getElem?_eq_getElem (by omega), List.set_append_right _ _ (by rw [List.length_take]; omega)]
    simp [Nat.min_eq_left (show o ≤ cur.length by omega)]
   rw [← e]
   exact h2
  ·have h4 : w.grownBy (w.setCell ⟨g, o, none⟩ v) (some g) := by
    have h0 : Below 0 w (w.setCell ⟨g, o, none⟩ v) := (Below.refl 0 w).setCell (Nat.zero_le _) v
    refine ⟨h0.os, h0.tape, h0.output, h0.size, fun k hk hn => ?_⟩
    exact heap_setCell_other w ⟨g, o, none⟩ k v (fun e => hn (by rw [e]))
   exact ⟨h3.os.trans h4.os, h3.tape.trans h4.tape, h3.output.trans h4.output, Nat.le_trans h4.size h3.size, fun k hk hn => (h3.block k (Nat.lt_of_lt_of_le hk h4.size) hn).trans (h4.block k hk hn)⟩
theorem Blk.there {w : World} {g : Nat} {cur : List Value} {t : TypeId} (h : Blk w g cur.toArray t) (o n : Nat) (hl : o + n ≤ cur.length) : w.there g o n := fun j hj => by
 refine ⟨?_, h.free _⟩
 rw [h.cell (o + j) (v := cur[o + j]'(by omega)) (by simp)]
 rfl
theorem wp_store_row {w : World} {op : Oper} {a : Act} {K : Act → World → Prop} {Q : Exit → Act → World → Prop} (ty : TypeId) (x y : Operand) (ho : op.op = .store ty x y)
  (b o : Nat) (cs : List Value) (hx : a.eval x = .pointer (some ⟨b, o, none⟩)) (hy : a.eval y = .agg cs.toArray) (cur : List Value) (t : TypeId) (hb : Blk w b cur.toArray t) (hl : o + cs.length ≤ cur.length)
  (hi : (Tryz.prog.info? ty).map (·.size) = some cs.length) (h1 : ∀ v ∈ cs, v.oneCell' = true)
  (h : ∀ w', Blk w' b (splice cur o cs).toArray t → w.grownBy w' (some b) → K (a.put op.dst undef) w') : op.wp Tryz.prog a w K Q := by
 obtain ⟨z1, z2⟩ := setCells_blk b t cs o w cur hb hl
 exact wp_store_mid ty x y ho b o cs.toArray hx hy (by simpa using hb.there o cs.length hl) (by simpa using hi) (all_oneCell_toArray h1) (by simpa using h _ z1 z2)
theorem wpList_store_row {w : World} {ops : Array Oper} {rest : List Oper} {op : Oper} {a : Act} {Q : Exit → Act → World → Prop} (hgd : op.guard = none) (ty : TypeId) (x y : Operand) (ho : op.op = .store ty x y)
  (b o : Nat) (cs : List Value) (hx : a.eval x = .pointer (some ⟨b, o, none⟩)) (hy : a.eval y = .agg cs.toArray) (cur : List Value) (t : TypeId) (hb : Blk w b cur.toArray t) (hl : o + cs.length ≤ cur.length)
  (hi : (Tryz.prog.info? ty).map (·.size) = some cs.length) (h1 : ∀ v ∈ cs, v.oneCell' = true)
  (h : ∀ w', Blk w' b (splice cur o cs).toArray t → w.grownBy w' (some b) → wpList Tryz.prog ops Q rest (a.put op.dst undef) w') : wpList Tryz.prog ops Q (op :: rest) a w :=
 wpList_plain hgd fun _ hK => wp_store_row ty x y ho b o cs hx hy cur t hb hl hi h1 fun w' h2 h3 => hK _ _ (h w' h2 h3)
theorem Blk.range {w : World} {g : Nat} {cur : List Value} {t : TypeId} (h : Blk w g cur.toArray t) (o : Nat) (cs : List Value) (hc : ∀ j v, cs[j]? = some v → cur[o + j]? = some v) : w.rangeAt g o cs := fun j v hj => h.cell (o + j) (by simpa using hc j v hj)
theorem vb_one' (bs : List Nat) : ∀ v ∈ vb bs, v.oneCell' = true := vb_one bs
theorem infoBlock : (Tryz.prog.info? 97).map (·.size) = some 64 := by kernel_rfl
theorem infoWrite : (Tryz.prog.info? 99).map (·.size) = some 65 := by kernel_rfl
theorem Disk.sector {w : World} {base g gs : Nat} {wv : Value} {D : Dk} (h : Disk w base g gs wv D) {i : Nat} {s : List Nat} (hs : D.sure[i]? = some s) : w.rangeAt gs (i * 64) (vb s) := by
 have hsec := h.sec s (List.mem_of_getElem? hs)
 refine h.srow.range _ _ fun j v hj => ?_
 have hj64 : j < 64 := by
  have := (List.getElem?_eq_some_iff.1 hj).1
  rw [vb_length, hsec.len] at this
  exact this
 rw [scells, flat_at vb 64 D.sure (fun t ht => by rw [vb_length, (h.sec t ht).len]) i s hs j hj64]
 exact hj
theorem Disk.wait {w : World} {base g gs gw n c : Nat} {D : Dk} (h : Disk w base g gs (.slice (some ⟨gw, 0, none⟩) n c) D) {i : Nat} {p : Nat × List Nat} (hp : D.waits[i]? = some p) : w.rangeAt gw (i * 65) (wcells p) := by
 have hn : n = D.waits.length := by
  rcases h.wrow.2 with ⟨h1, _⟩ | ⟨g', c', cur, h1, _⟩
  ·cases h1
  ·simp only [Value.slice.injEq] at h1; exact h1.2.1
 subst hn
 have hsec := (h.wts p (List.mem_of_getElem? hp)).2
 have hi : i < D.waits.length := (List.getElem?_eq_some_iff.1 hp).1
 intro j v hj
 have hj65 : j < 65 := by
  have := (List.getElem?_eq_some_iff.1 hj).1
  rw [wcells_len hsec] at this
  exact this
 rw [h.wrow.cellAt (i * 65 + j) (by omega), flat_at wcells 65 D.waits (fun t ht => wcells_len (h.wts t ht).2) i p hp j hj65]
 exact hj
theorem Disk.form {w : World} {base g gs : Nat} {wv : Value} {D : Dk} (h : Disk w base g gs wv D) : (D.waits = [] ∧ ∃ a c, wv = .slice a 0 c) ∨ ∃ gw c, wv = .slice (some ⟨gw, 0, none⟩) D.waits.length c ∧ D.waits.length ≤ c := by
 rcases h.wrow.2 with ⟨h1, h2⟩ | ⟨gw, c, cur, h1, _, _, h4, _⟩
 ·exact .inl ⟨List.length_eq_zero_iff.1 h2, none, 0, h1⟩
 ·exact .inr ⟨gw, c, h1, h4⟩
theorem run_copy_fr (w : World) (dT sT ty elem : TypeId) (hu : Tryz.prog.underlying dT = some (.slice elem)) (hsz : (Tryz.prog.info? elem).map (·.size) = some 1)
  (dp sp : Option Addr) (dLen dCap sLen sCap : Nat) (g off : Nat) (cur : List Value) (t : TypeId) (hg : Blk w g cur.toArray t) (cs : List Value) (hn : cs.length = Nat.min sLen dLen)
  (hpos : 0 < cs.length → dp = some ⟨g, off, none⟩ ∧ ∃ ad, sp = some ad ∧ ∀ j v, cs[j]? = some v → w.cell? (ad.add j) = some v) (hfit : off + cs.length ≤ cur.length) (h1 : ∀ v ∈ cs, v.oneCell' = true) :
  ∃ w', (Builtin.copy_ #[dT, sT] ty #[.slice dp dLen dCap, .slice sp sLen sCap]).run Tryz.prog w = .ok (goInt cs.length) w' ∧ Blk w' g (splice cur off cs).toArray t ∧ w.grownBy w' (some g) := by
 by_cases h0 : cs.length = 0
 ·obtain rfl : cs = [] := List.eq_nil_of_length_eq_zero h0
  exact ⟨w, run_copy_none (P := Tryz.prog) w dT sT ty elem dp sp dLen dCap sLen sCap hu hsz (by simpa using hn.symm), by show Blk _ _ _ _; simpa [splice] using hg, ⟨rfl, rfl, rfl, Nat.le_refl _, fun _ _ _ => rfl⟩⟩
 ·obtain ⟨rfl, ad, rfl, hsrc⟩ := hpos (by omega)
  refine ⟨_, run_copy_row (P := Tryz.prog) w dT sT ty elem g off dLen dCap ad sLen sCap cur.toArray t cs hu hsz hg hn hsrc (by simpa using hfit) h1, ?_, ?_⟩
  ·unfold Blk
   simpa [splice] using setRow_heap w g _ _ t _ hg
  ·exact ⟨rfl, rfl, rfl, by simp [World.setRow], fun k _ hk => setRow_other w g k _ (fun e => hk (by rw [e]))⟩
theorem wpList_copy_fr {w : World} {ops : Array Oper} {rest : List Oper} {o : Oper} {a : Act} {Q : Exit → Act → World → Prop} (hgd : o.guard = none) (d s : Operand) (dT sT : TypeId)
  (ho : o.op = .call { callee := .builtin .copy, args := #[d, s], argTypes := #[dT, sT] }) (elem : TypeId) (hu : Tryz.prog.underlying dT = some (.slice elem)) (hsz : (Tryz.prog.info? elem).map (·.size) = some 1)
  (dp sp : Option Addr) (dLen dCap sLen sCap : Nat) (hd : a.eval d = .slice dp dLen dCap) (hs : a.eval s = .slice sp sLen sCap)
  (g off : Nat) (cur : List Value) (t : TypeId) (hg : Blk w g cur.toArray t) (cs : List Value) (hn : cs.length = Nat.min sLen dLen)
  (hpos : 0 < cs.length → dp = some ⟨g, off, none⟩ ∧ ∃ ad, sp = some ad ∧ ∀ j v, cs[j]? = some v → w.cell? (ad.add j) = some v)
  (hfit : off + cs.length ≤ cur.length) (h1 : ∀ v ∈ cs, v.oneCell' = true)
  (h : ∀ w', Blk w' g (splice cur off cs).toArray t → w.grownBy w' (some g) → wpList Tryz.prog ops Q rest (a.put o.dst (goInt cs.length)) w') : wpList Tryz.prog ops Q (o :: rest) a w := by
 refine wpList_plain hgd fun K hK => ?_
 obtain ⟨w', hrun, z1, z2⟩ := run_copy_fr w dT sT o.type elem hu hsz dp sp dLen dCap sLen sCap g off cur t hg cs hn hpos hfit h1
 unfold Oper.wp
 simp only [execOp, ho, resolve, invoke, builtin, Sem.run_bind, Sem.run_pure, Result.andThen_ok, List.map_toArray, List.map_cons, List.map_nil, hd, hs, hrun]
 exact hK _ _ (h w' z1 z2)
theorem step_copy_fr {w : World} {ops : Array Oper} {o : Oper} {a : Act} {K : Act → World → Prop} {Q : Exit → Act → World → Prop} {E : Prop} (hgd : o.guard = none) (d s : Operand) (dT sT : TypeId)
  (ho : o.op = .call { callee := .builtin .copy, args := #[d, s], argTypes := #[dT, sT] }) (elem : TypeId) (hu : Tryz.prog.underlying dT = some (.slice elem)) (hsz : (Tryz.prog.info? elem).map (·.size) = some 1)
  (dp sp : Option Addr) (dLen dCap sLen sCap : Nat) (hd : a.eval d = .slice dp dLen dCap) (hs : a.eval s = .slice sp sLen sCap)
  (g off : Nat) (cur : List Value) (t : TypeId) (hg : Blk w g cur.toArray t) (cs : List Value) (hn : cs.length = Nat.min sLen dLen)
  (hpos : 0 < cs.length → dp = some ⟨g, off, none⟩ ∧ ∃ ad, sp = some ad ∧ ∀ j v, cs[j]? = some v → w.cell? (ad.add j) = some v)
  (hfit : off + cs.length ≤ cur.length) (h1 : ∀ v ∈ cs, v.oneCell' = true)
  (h : ∀ w', Blk w' g (splice cur off cs).toArray t → w.grownBy w' (some g) → K (a.put o.dst (goInt cs.length)) w') : if Region.wanted o (yielded ops a.tmps) = true then Oper.wp Tryz.prog o a w K Q else E := by
 rw [if_pos (by simp [Region.wanted, hgd])]
 obtain ⟨w', hrun, z1, z2⟩ := run_copy_fr w dT sT o.type elem hu hsz dp sp dLen dCap sLen sCap g off cur t hg cs hn hpos hfit h1
 unfold Oper.wp
 simp only [execOp, ho, resolve, invoke, builtin, Sem.run_bind, Sem.run_pure, Result.andThen_ok, List.map_toArray, List.map_cons, List.map_nil, hd, hs, hrun]
 exact h w' z1 z2
theorem infoByteSz : (Tryz.prog.info? 5).map (·.size) = some 1 := by kernel_rfl
end Go.Proofs.YtghajmcohdedlaaGreat

namespace Go.Proofs.YtghajmcohdedlaaGreat
open Go.RowKit
def hasB (D : Dk) (i : Int) : Bool := decide (0 ≤ i ∧ i < (D.sure.length : Int))
theorem hasB_iff (D : Dk) (i : Int) : hasB D i = true ↔ 0 ≤ i ∧ i < (D.sure.length : Int) := by simp [hasB]
theorem hasB_not (D : Dk) (i : Int) : hasB D i = false ↔ ¬ (0 ≤ i ∧ i < (D.sure.length : Int)) := by simp [hasB]
set_option maxRecDepth 100000 in
theorem disk_has (w : World) (base g gs : Nat) (wv : Value) (D : Dk) (i : Int) (h : Disk w base g gs wv D) :
  Calls Tryz.prog 53 #[.pointer (some ⟨g, 0, none⟩), .int .i64 i] w fun e w' => e = .returned (.bool (hasB D i)) ∧ w' = w := by
 have c0 : w.cell? ⟨g, 0, none⟩ = some (.slice (some ⟨gs, 0, none⟩) D.sure.length D.sure.length) := h.blk.cell 0 rfl
 have hsz := h.sz
 obtain ⟨n, hn⟩ : ∃ n, n = D.sure.length := ⟨_, rfl⟩
 obtain ⟨R, HR⟩ : ∃ R, Hid (R = hasB D i) := ⟨_, rfl⟩
 rw [← HR.out]
 rw [← hn] at c0 hsz
 have HN : Hid (n = D.sure.length) := hn
 clear h hn
 by_cases h0 : 0 ≤ i
 ·by_cases h1 : i < (n : Int)
  ·have HX : Hid (R = true) := by show _ = _; rw [HR.out, hasB_iff, ← HN.out]; exact ⟨h0, h1⟩
   go_enter Tryz.func53, Tryz.ntmps53
   go_wp2
   go_ret
   exact ⟨by rw [HX.out]; rfl, rfl⟩
  ·have HX : Hid (R = false) := by show _ = _; rw [HR.out, hasB_not, ← HN.out]; exact fun hh => h1 hh.2
   go_enter Tryz.func53, Tryz.ntmps53
   go_wp2
   go_ret
   exact ⟨by rw [HX.out]; rfl, rfl⟩
 ·have HX : Hid (R = false) := by show _ = _; rw [HR.out, hasB_not]; exact fun hh => h0 hh.1
  go_enter Tryz.func53, Tryz.ntmps53
  go_wp2
  go_ret
  exact ⟨by rw [HX.out]; rfl, rfl⟩
def tripsB (D : Dk) : Bool := decide (D.trip = 1)
def tripsD (D : Dk) : Dk := if D.trip = 0 then D else { D with trip := D.trip - 1, down := decide (D.trip = 1) }
theorem Disk.with3 {w w' : World} {base g gs : Nat} {wv : Value} {D : Dk} (h : Disk w base g gs wv D) (t : Nat) (d : Bool) (ht : t ≤ 9223372036854775807) (hb : Blk w' g #[.slice (some ⟨gs, 0, none⟩) D.sure.length D.sure.length, wv, .int .i64 (t : Int), .bool d, .int .i64 (D.age : Int)] 79)
  (hg : w.grownBy w' (some g)) : Disk w' base g gs wv { D with trip := t, down := d } := by
 obtain ⟨a1, a2, a3⟩ := h.apart
 exact ⟨hb, h.srow.grown hg (by simpa using a1.symm), own_stay h.wrow (fun k hk => hg.block k (h.wrow.lt k hk).2 (fun e => a2 (by rw [← e, hk]))), h.bg, h.bs, h.sz, h.sec, h.wts, ht, h.ag, h.wl⟩
theorem grown_cell (w : World) (g i : Nat) (v : Value) : w.grownBy (w.setCell ⟨g, i, none⟩ v) (some g) := by
 have h0 : Below 0 w (w.setCell ⟨g, i, none⟩ v) := (Below.refl 0 w).setCell (Nat.zero_le _) v
 exact ⟨h0.os, h0.tape, h0.output, h0.size, fun k hk hn => heap_setCell_other w ⟨g, i, none⟩ k v (fun e => hn (by rw [e]))⟩
theorem grown_trans {w w1 w2 : World} {r : Option Nat} (h : w.grownBy w1 r) (h2 : w1.grownBy w2 r) : w.grownBy w2 r :=
 ⟨h2.os.trans h.os, h2.tape.trans h.tape, h2.output.trans h.output, Nat.le_trans h.size h2.size, fun k hk hn => (h2.block k (Nat.lt_of_lt_of_le hk h.size) hn).trans (h.block k hk hn)⟩
set_option maxRecDepth 100000 in
theorem disk_trips (w : World) (base g gs : Nat) (wv : Value) (D : Dk) (h : Disk w base g gs wv D) (hd : D.down = false) :
  Calls Tryz.prog 54 #[.pointer (some ⟨g, 0, none⟩)] w fun e w' => e = .returned (.bool (tripsB D)) ∧ Disk w' base g gs wv (tripsD D) ∧ Mv w w' base g gs := by
 have HD : Hid (Disk w base g gs wv D) := h
 have c2 : w.cell? ⟨g, 2, none⟩ = some (.int .i64 (D.trip : Int)) := h.blk.cell 2 rfl
 have c3 : w.cell? ⟨g, 3, none⟩ = some (.bool false) := by have := h.blk.cell 3 rfl; rw [hd] at this; exact this
 have f2 := h.blk.free 2
 have f3 := h.blk.free 3
 have htr := h.tr
 obtain ⟨t, ht⟩ : ∃ t, t = D.trip := ⟨_, rfl⟩
 have HT : Hid (t = D.trip) := ht
 rw [← ht] at c2 htr
 clear h ht
 by_cases h0 : t = 0
 ·subst h0
  have HX : Hid (tripsB D = false ∧ tripsD D = D) := by
   unfold tripsB tripsD
   rw [← HT.out]
   exact ⟨rfl, rfl⟩
  go_enter Tryz.func54, Tryz.ntmps54
  go_wp2
  go_ret
  exact ⟨by rw [HX.out.1]; rfl, by rw [HX.out.2]; exact HD.out, Mv.refl _ _ _ _⟩
 ·obtain ⟨u, rfl⟩ : ∃ u, t = u + 1 := ⟨t - 1, by omega⟩
  have hu : ((u + 1 : Nat) : Int) - 1 = (u : Int) := by omega
  have hu' : (u : Int) + 1 - 1 = (u : Int) := by omega
  have hn0 : ¬ ((u : Int) + 1 = 0) := by omega
  have hn0' : ((u : Int) + 1 == 0) = false := by rw [beq_eq_false_iff_ne]; omega
  by_cases h1 : u = 0
  ·subst h1
   have HX : Hid (tripsB D = true ∧ tripsD D = { D with trip := 0, down := true }) := by
    unfold tripsB tripsD
    rw [← HT.out]
    exact ⟨rfl, rfl⟩
   have HK2 : Hid (Blk ((w.setCell ⟨g, 2, none⟩ (.int .i64 0)).setCell ⟨g, 3, none⟩ (.bool true)) g #[.slice (some ⟨gs, 0, none⟩) D.sure.length D.sure.length, wv, .int .i64 ((0 : Nat) : Int), .bool true, .int .i64 (D.age : Int)] 79) := by
    have := (HD.out.blk.set 2 (.int .i64 0)).set 3 (.bool true)
    exact this
   have HG : Hid (w.grownBy ((w.setCell ⟨g, 2, none⟩ (.int .i64 0)).setCell ⟨g, 3, none⟩ (.bool true)) (some g)) := grown_trans (grown_cell _ _ _ _) (grown_cell _ _ _ _)
   go_enter Tryz.func54, Tryz.ntmps54
   go_wp2
   go_ret
   exact ⟨by rw [HX.out.1]; rfl, by rw [HX.out.2]; exact HD.out.with3 0 true (by omega) HK2.out HG.out, Mv.of_grown (.inl rfl) HD.out.bg HG.out (Nat.le_trans HD.out.bg (Nat.le_of_lt HD.out.blk.lt))⟩
  ·have hun : ¬ ((u : Int) = 0) := by omega
   have hun' : ((u : Int) == 0) = false := by rw [beq_eq_false_iff_ne]; omega
   have HX : Hid (tripsB D = false ∧ tripsD D = { D with trip := u, down := false }) := by
    unfold tripsB tripsD
    rw [← HT.out]
    refine ⟨by simp; omega, ?_⟩
    rw [if_neg (by omega), decide_eq_false (by omega)]
    rfl
   have HK2 : Hid (Blk ((w.setCell ⟨g, 2, none⟩ (.int .i64 (u : Int))).setCell ⟨g, 3, none⟩ (.bool false)) g #[.slice (some ⟨gs, 0, none⟩) D.sure.length D.sure.length, wv, .int .i64 (u : Int), .bool false, .int .i64 (D.age : Int)] 79) := by
    have := (HD.out.blk.set 2 (.int .i64 (u : Int))).set 3 (.bool false)
    exact this
   have HG : Hid (w.grownBy ((w.setCell ⟨g, 2, none⟩ (.int .i64 (u : Int))).setCell ⟨g, 3, none⟩ (.bool false)) (some g)) := grown_trans (grown_cell _ _ _ _) (grown_cell _ _ _ _)
   go_enter Tryz.func54, Tryz.ntmps54
   go_wp2
   go_ret
   exact ⟨by rw [HX.out.1]; rfl, by rw [HX.out.2]; exact HD.out.with3 u false (by omega) HK2.out HG.out, Mv.of_grown (.inl rfl) HD.out.bg HG.out (Nat.le_trans HD.out.bg (Nat.le_of_lt HD.out.blk.lt))⟩
end Go.Proofs.YtghajmcohdedlaaGreat
