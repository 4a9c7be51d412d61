import Derived.Test.YtghajmcohdedlaaGreatEvT15
namespace Go.Proofs.YtghajmcohdedlaaGreat
open Go.RowKit
set_option maxRecDepth 100000
structure Rdt (w0 w : World) (hi rel : Int) (V : List Sg) (uv rv : Value) : Prop where
 tb : Tl w (w0.heap.size + 1) hi rel uv rv
 rb : Tl w w0.heap.size 0 0 (.slice none 0 0) (.slice none 0 0)
 used : Rgs w w0.heap.size uv V
 low : Below w0.heap.size w0 w
theorem Rdt.sz {w0 w : World} {hi rel : Int} {V : List Sg} {uv rv : Value} (h : Rdt w0 w hi rel V uv rv) : w0.heap.size ≤ w.heap.size:=h.low.size
theorem Rdt.below {w0 w w' : World} {hi rel : Int} {V : List Sg} {uv rv : Value} (h : Rdt w0 w hi rel V uv rv) (hb : Below w.heap.size w w') : Rdt w0 w' hi rel V uv rv:=⟨Blk.stay h.tb hb,Blk.stay h.rb hb,h.used.below hb,h.low.trans (hb.mono h.sz)⟩
theorem Rdt.put {w0 w : World} {hi rel : Int} {V : List Sg} {uv rv : Value} (h : Rdt w0 w hi rel V uv rv) (i : Nat) (v : Value) : Tl (w.setCell ⟨w0.heap.size + 1,i,none⟩ v) w0.heap.size 0 0 (.slice none 0 0) (.slice none 0 0) ∧ Rgs (w.setCell ⟨w0.heap.size + 1,i,none⟩ v) w0.heap.size uv V ∧ Below w0.heap.size w0 (w.setCell ⟨w0.heap.size + 1,i,none⟩ v) :=
 ⟨Blk.other h.rb _ _ (fun e => by have e' : w0.heap.size = w0.heap.size + 1:=e;omega),row_set h.used (own_ne h.used h.tb (by decide)),h.low.setCell (Nat.le_succ _) _⟩
theorem Rdt.setHi {w0 w : World} {hi rel : Int} {V : List Sg} {uv rv : Value} (h : Rdt w0 w hi rel V uv rv) (x : Int) : Rdt w0 (w.setCell ⟨w0.heap.size + 1,0,none⟩ (.int .i64 x)) x rel V uv rv:=⟨Blk.set h.tb 0 _,(h.put 0 _).1,(h.put 0 _).2.1,(h.put 0 _).2.2⟩
theorem Rdt.setRel {w0 w : World} {hi rel : Int} {V : List Sg} {uv rv : Value} (h : Rdt w0 w hi rel V uv rv) (x : Int) : Rdt w0 (w.setCell ⟨w0.heap.size + 1,1,none⟩ (.int .i64 x)) hi x V uv rv:=⟨Blk.set h.tb 1 _,(h.put 1 _).1,(h.put 1 _).2.1,(h.put 1 _).2.2⟩
theorem Rdt.setRecs {w0 w : World} {hi rel : Int} {V : List Sg} {uv rv : Value} (h : Rdt w0 w hi rel V uv rv) (x : Value) : Rdt w0 (w.setCell ⟨w0.heap.size + 1,3,none⟩ x) hi rel V uv x:=⟨Blk.set h.tb 3 _,(h.put 3 _).1,(h.put 3 _).2.1,(h.put 3 _).2.2⟩
theorem Rdt.more {w0 w w5 : World} {hi rel : Int} {V V5 : List Sg} {uv rv v5 : Value} (h : Rdt w0 w hi rel V uv rv) (hs : Rgs w5 w0.heap.size v5 V5) (hg : w.grownBy w5 uv.ownBlock) : Rdt w0 (w5.setCell ⟨w0.heap.size + 1,2,none⟩ v5) hi rel V5 v5 rv ∧ Tl w5 (w0.heap.size + 1) hi rel uv rv:=by
 have ht : Tl w5 (w0.heap.size + 1) hi rel uv rv:=Blk.grown h.tb hg (own_ne h.used h.tb (by decide))
 have hr : Tl w5 w0.heap.size 0 0 (.slice none 0 0) (.slice none 0 0):=Blk.grown h.rb hg (own_ne h.used h.rb (by decide))
 exact ⟨⟨Blk.set ht 2 _,Blk.other hr _ _ (fun e => by have e' : w0.heap.size = w0.heap.size + 1:=e;omega),row_set hs (own_ne hs ht (by decide)),(h.low.grown hg h.sz (fun j hj => (h.used.lt j hj).1)).setCell (Nat.le_succ _) _⟩,ht⟩
theorem Rdt.row {w0 w : World} {hi rel : Int} {V V' : List Sg} {gu n c : Nat} {rv : Value} (h : Rdt w0 w hi rel V (.slice (some ⟨gu,0,none⟩) n c) rv) {i : Nat} {v : Value} (hu : Rgs (w.setCell ⟨gu,i,none⟩ v) w0.heap.size (.slice (some ⟨gu,0,none⟩) n c) V') : Rdt w0 (w.setCell ⟨gu,i,none⟩ v) hi rel V' (.slice (some ⟨gu,0,none⟩) n c) rv:=by
 obtain ⟨cur,hk⟩:=h.used.blk
 exact ⟨Blk.other h.tb _ _ (blk_ne h.tb hk (by decide)),Blk.other h.rb _ _ (blk_ne h.rb hk (by decide)),hu,h.low.setCell (h.used.freeg 0).2.1 _⟩
theorem Rdt.set4 {w0 w : World} {hi rel : Int} {V : List Sg} {gu n c : Nat} {rv : Value} (h : Rdt w0 w hi rel V (.slice (some ⟨gu,0,none⟩) n c) rv) {j : Nat} (hj : j < V.length) (s : Sg) : Rdt w0 (set4R w gu (j * 4) s) hi rel (V.set j s) (.slice (some ⟨gu,0,none⟩) n c) rv:=by
 obtain ⟨cur,hk⟩:=h.used.blk
 have n1:=blk_ne h.tb hk (by decide)
 have n2:=blk_ne h.rb hk (by decide)
 have hb:=(h.used.freeg 0).2.1
 exact ⟨(((Blk.other h.tb _ _ n1).other _ _ n1).other _ _ n1).other _ _ n1,(((Blk.other h.rb _ _ n2).other _ _ n2).other _ _ n2).other _ _ n2,h.used.set hj s,(((h.low.setCell (p:=⟨gu,j * 4,none⟩) hb _).setCell (p:=⟨gu,j * 4 + 1,none⟩) hb _).setCell (p:=⟨gu,j * 4 + 2,none⟩) hb _).setCell (p:=⟨gu,j * 4 + 3,none⟩) hb _⟩
theorem Rdt.recs {w0 w w5 : World} {hi rel : Int} {V : List Sg} {uv rv v : Value} {B : Nat} {M : List Rc} (h : Rdt w0 w hi rel V uv rv) (hr : Rcs w B v M) (hB : w0.heap.size ≤ B) (hg : w.grownBy w5 v.ownBlock) : Rdt w0 w5 hi rel V uv rv :=
 ⟨Blk.grown h.tb hg (own_ne hr.row h.tb (by decide)),Blk.grown h.rb hg (own_ne hr.row h.rb (by decide)),h.used.beside hr hg,h.low.grown hg h.sz (fun j hj => Nat.le_trans hB (hr.row.lt j hj).1)⟩
theorem Rcs.cellX {w : World} {B k i : Nat} {v u : Value} {L : List Rc} {cs : Array Value} {t : TypeId} (h : Rcs w B v L) (hb : Blk w k cs t) (h1 : t ≠ 44) (h2 : t ≠ 5) : Rcs (w.setCell ⟨k,i,none⟩ u) B v L :=
 ⟨row_set h.row (own_ne h.row hb h1),fun r hr => (h.bd r hr).stays fun j cs' fr hk => by
  rw [heap_setCell_other w ⟨k,i,none⟩ j u (fun e => by
   have e' : j = k:=e
   subst e'
   have h3:=hb
   unfold Blk at h3
   rw [hk] at h3
   simp only [Option.some.injEq,Obj.cells.injEq] at h3
   exact h2 h3.2.1.symm)]
  exact hk⟩
theorem insG_next (j : Nat) (l : List Sg) : insG (j + 1) l = if (l.getD (j + 1) zSg).num < (l.getD j zSg).num then insG j (swapG l j) else l:=rfl
theorem insG_zero (l : List Sg) : insG 0 l = l:=rfl
theorem readF_next (D : Dk) (at_ f hi en : Nat) (acc : List (Nat × List Nat)) : readF D at_ (f + 1) hi en acc = match nextF D at_ en hi with
  | none => (hi,en,acc)
  | some (v,bs,e) => readF D at_ f v e (acc ++ [(v,bs)]):=rfl
end Go.Proofs.YtghajmcohdedlaaGreat
