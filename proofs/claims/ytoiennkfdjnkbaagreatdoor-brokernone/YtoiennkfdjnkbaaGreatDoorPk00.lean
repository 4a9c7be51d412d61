import Derived.Test.YtoiennkfdjnkbaaGreatDoorRows
import Derived.WalkKit
import Derived.WalkLawsBesides
import Derived.WalkSpells
import Derived.Laws.BytesArg
import Derived.Deep.AppendLies
import Derived.Lib.SlBytesConst
import Derived.Deep.MidRow
import Derived.Laws.CopyOwn
import Derived.Laws.OwnMore
import Derived.OwnWalk
import Derived.Handy
set_option maxRecDepth 100000
set_option maxHeartbeats 8000000
namespace Go.Proofs.YtoiennkfdjnkbaaGreatDoor
section
open Go.RowKit
structure Rd (w:World) (a:Option Addr) (len:Nat) (bs:List Nat):Prop where
 size:bs.length=len
 byte:∀ x∈bs,x<256
 cells:len=0∨∃ b off,a=some ⟨b,off,none⟩∧b<w.heap.size∧∀ i,i<len→w.cell? ⟨b,off+i,none⟩=some (.int .u8 ((bs.getD i 0:Nat):Int))
theorem Rd.below {w w':World} {a:Option Addr} {len:Nat} {bs:List Nat} (h:Rd w a len bs) (hb:Below w.heap.size w w'):Rd w' a len bs:=by
 refine ⟨h.size,h.byte,?_⟩
 rcases h.cells with h0 | ⟨b,off,ha,hlt,hc⟩
 ·exact .inl h0
 ·refine .inr ⟨b,off,ha,Nat.lt_of_lt_of_le hlt hb.size,fun i hi => ?_⟩
  rw [hb.cell (p:=⟨b,off+i,none⟩) hlt]
  exact hc i hi
theorem getD_lt {bs:List Nat} (h:∀ x∈bs,x<256) (i:Nat):bs.getD i 0<256:=by
 rw [List.getD_eq_getElem?_getD]
 by_cases hi:i<bs.length
 ·rw [List.getElem?_eq_getElem hi];exact h _ (List.getElem_mem hi)
 ·rw [List.getElem?_eq_none (by omega)];simp
theorem take_succ_getD (bs:List Nat) (k:Nat) (h:k<bs.length):bs.take (k+1)=bs.take k++[bs.getD k 0]:=by
 rw [List.take_succ_eq_append_getElem h,List.getD_eq_getElem?_getD,List.getElem?_eq_getElem h];rfl
theorem Rd.new (w:World) (C:Array Value) (e:TypeId) (m:Nat×Nat) (bs:List Nat) (hb:∀ x∈bs,x<256) (hC:∀ i,i<bs.length→C[i]? = some (.int .u8 ((bs.getD i 0:Nat):Int))) :
  Rd (w.alloc (.cells C e m)) (some ⟨w.heap.size,0,none⟩) bs.length bs:=by
 refine ⟨rfl,hb,.inr ⟨w.heap.size,0,rfl,by simp,fun i hi => ?_⟩⟩
 have hh:(w.alloc (.cells C e m)).heap[w.heap.size]? = some (.cells C e m):=by
  show (w.heap.push _)[w.heap.size]? = _
  simp
 rw [cell_of_row (w.alloc (.cells C e m)) w.heap.size (0+i) C e m hh,Nat.zero_add]
 exact hC i hi
def vb (bs:List Nat):List Value:=bs.map fun (n:Nat)=>.int .u8 (n:Int)
theorem vb_length (bs:List Nat):(vb bs).length=bs.length:=by simp [vb]
theorem vb_append (xs bs:List Nat):vb (xs++bs)=vb xs++vb bs:=by simp [vb]
theorem vb_one (bs:List Nat):∀ u∈vb bs,u.oneCell'=true:=by
 intro u hu
 obtain ⟨n,_,rfl⟩:=List.mem_map.1 hu
 rfl
theorem vb_get {bs:List Nat} {i:Nat} {u:Value} (h:(vb bs)[i]? = some u):i<bs.length∧u=.int .u8 ((bs.getD i 0:Nat):Int):=by
 unfold vb at h
 rw [List.getElem?_map] at h
 by_cases hi:i<bs.length
 ·rw [List.getElem?_eq_getElem hi] at h
  simp only [Option.map_some,Option.some.injEq] at h
  exact ⟨hi,by rw [← h,List.getD_eq_getElem?_getD,List.getElem?_eq_getElem hi];rfl⟩
 ·rw [List.getElem?_eq_none (by omega)] at h
  cases h
theorem vb_at {bs:List Nat} {i:Nat} (hi:i<bs.length):(vb bs)[i]? = some (.int .u8 ((bs.getD i 0:Nat):Int)):=by
 unfold vb
 rw [List.getElem?_map,List.getElem?_eq_getElem hi,List.getD_eq_getElem?_getD,List.getElem?_eq_getElem hi]
 rfl
structure Own (w:World) (base:Nat) (a:Option Addr) (len cap:Nat) (bs:List Nat):Prop where
 row:w.ownsRow base 5 1 (.slice a len cap) len (vb bs)
 byte:∀ x∈bs,x<256
theorem Own.size {w:World} {base:Nat} {a:Option Addr} {len cap:Nat} {bs:List Nat} (h:Own w base a len cap bs):bs.length=len:=by
 have:=h.row.1
 rw [vb_length] at this
 omega
theorem Own.rd {w:World} {base:Nat} {a:Option Addr} {len cap:Nat} {bs:List Nat} (h:Own w base a len cap bs):Rd w a len bs:=by
 refine ⟨h.size,h.byte,?_⟩
 rcases h.row.2 with ⟨_,h0⟩ | ⟨g,c,cur,hv,_,hg,_⟩
 ·exact .inl h0
 ·right
  simp only [Value.slice.injEq] at hv
  obtain ⟨rfl,_,rfl⟩:=hv
  refine ⟨g,0,rfl,(Array.getElem?_eq_some_iff.1 hg).1,fun i hi => ?_⟩
  have hc:=h.row.cells (g:=g) rfl i _ (vb_at (by rw [h.size];exact hi))
  have e:(⟨g,0,none⟩:Addr).add i=⟨g,0+i,none⟩:=by unfold Addr.add;split <;> simp_all
  rw [e] at hc
  exact hc
theorem Own.below {w w':World} {base:Nat} {a:Option Addr} {len cap:Nat} {bs:List Nat} (h:Own w base a len cap bs) (hb:Below w.heap.size w w'):Own w' base a len cap bs:=by
 refine ⟨⟨h.row.1,?_⟩,h.byte⟩
 rcases h.row.2 with hn | ⟨g,c,cur,hv,hbg,hg,r⟩
 ·exact .inl hn
 ·exact .inr ⟨g,c,cur,hv,hbg,by rw [hb.block g (Array.getElem?_eq_some_iff.1 hg).1];exact hg,r⟩
theorem Own.new (w:World) (base:Nat) (C:Array Value) (bs:List Nat) (hb:∀ x∈bs,x<256) (hC:C.toList=vb bs) (hB:base≤w.heap.size) (hm:bs.length≤maxLen) :
  Own (w.alloc (.cells C 5)) base (some ⟨w.heap.size,0,none⟩) bs.length bs.length bs:=by
 have hs:C.size=bs.length:=by rw [← Array.length_toList,hC,vb_length]
 refine ⟨⟨by simp [vb_length],.inr ⟨w.heap.size,bs.length,C,rfl,hB,heap_alloc_new w _,Nat.le_refl _,hm,by omega,?_⟩⟩,hb⟩
 rw [hC,Nat.mul_one,← vb_length bs,List.take_length]
theorem Own.empty (w:World):Own (w.alloc (.cells #[] 5)) w.heap.size (some ⟨w.heap.size,0,none⟩) 0 0 [] :=
 Own.new w w.heap.size #[] [] (by simp) rfl (Nat.le_refl _) (Nat.zero_le _)
theorem below_alloc (w:World) (o:Obj):Below w.heap.size w (w.alloc o):=(Below.refl _ _).alloc (Nat.le_refl _) _
theorem infoByte:(Tryz.prog.info? 5).map (fun i=>(i.zero,i.size,i.bytes))=some (some (.int .u8 0),1,1):=by kernel_rfl
theorem run_append_rd (w:World) (ty:TypeId) (base:Nat) (a:Option Addr) (n cap:Nat) (xs:List Nat) (hown:Own w base a n cap xs) (b:Option Addr) (m c:Nat) (ys:List Nat) (hr:Rd w b m ys) (hmc:b=none→c=0)
  (hbytes:n+m≤140737488355328) (hbase:base≤w.heap.size) :
  ∃ a' cap' w',(Builtin.append_ #[22,22] ty #[.slice a n cap,.slice b m c]).run Tryz.prog w=.ok (.slice a' (n+m) cap') w'∧Own w' base a' (n+m) cap' (xs++ys)∧w.grownBy w' (Value.ownBlock (.slice a n cap))∧Below base w w':=by
 obtain ⟨i0,hi,hz0,hz1,hz2⟩:=info_parts infoByte
 have hbyte:∀ x∈xs++ys,x<256:=fun x hx=>(List.mem_append.1 hx).elim (hown.byte x) (hr.byte x)
 cases b with
 | none =>
  have hm:m=0:=by
   rcases hr.cells with h0 | ⟨_,_,h,_⟩
   ·exact h0
   ·cases h
  have hc:=hmc rfl
  subst hm hc
  have hy:ys=[]:=List.eq_nil_of_length_eq_zero hr.size
  subst hy
  have hrun:=run_append_owned_none (P:=Tryz.prog) (w:=w) base 22 ty 5 i0 1 Tryz.underlying22 hi (.slice a n cap) n (vb xs) hown.row
  refine ⟨a,cap,w,hrun,⟨by simpa using hown.row,hbyte⟩,⟨rfl,rfl,rfl,Nat.le_refl _,fun _ _ _=>rfl⟩,Below.refl _ _⟩
 | some ad =>
  have hnews:∀ j u,(vb ys)[j]? = some u→w.cell? (ad.add j)=some u:=by
   intro j u hu
   obtain ⟨hj,rfl⟩:=vb_get hu
   rcases hr.cells with h0 | ⟨g,off,h,_,hc⟩
   ·rw [hr.size,h0] at hj;omega
   ·cases h
    have e:(⟨g,off,none⟩:Addr).add j=⟨g,off+j,none⟩:=by unfold Addr.add;split <;> simp_all
    rw [e]
    exact hc j (by rw [← hr.size];exact hj)
  obtain ⟨v',w',hrun,h2,h3,_⟩:=run_append_own (P:=Tryz.prog) w base 22 ty 5 i0 (.int .u8 0) 1 1 Tryz.underlying22 hi hz0 hz1 hz2 rfl (by decide) (.slice a n cap) n (vb xs) hown.row ad m c (vb ys) (by rw [vb_length,hr.size];omega) hnews (vb_one ys) (by unfold maxLen;omega) (by omega) hbase
  have hbel:Below base w w':=(Below.refl _ _).grown h3 hbase (fun k hk=>(hown.row.lt k hk).1)
  rcases h2.2 with ⟨rfl,h0⟩ | ⟨g,c',cur,rfl,r⟩
  ·refine ⟨none,0,w',by rw [h0];exact hrun,⟨?_,hbyte⟩,h3,hbel⟩
   rw [vb_append,h0]
   rw [h0] at h2
   exact h2
  ·exact ⟨_,c',w',hrun,⟨by rw [vb_append];exact h2,hbyte⟩,h3,hbel⟩
theorem wpList_append_rd {w:World} {ops:Array Oper} {rest:List Oper} {o:Oper} {act:Act} {Q:Exit→Act→World→Prop} (hgd:o.guard=none) (s x:Operand)
  (ho:o.op=.call { callee:=.builtin .append,args:=#[s,x],argTypes:=#[22,22] })
  (base:Nat) (a:Option Addr) (n cap:Nat) (xs:List Nat) (hs:act.eval s=.slice a n cap) (hown:Own w base a n cap xs) (b:Option Addr) (m c:Nat) (ys:List Nat) (hx:act.eval x=.slice b m c) (hr:Rd w b m ys) (hmc:b=none→c=0)
  (hbytes:n+m≤140737488355328) (hbase:base≤w.heap.size)
  (h:∀ a' cap' w',Own w' base a' (n+m) cap' (xs++ys)→w.grownBy w' (Value.ownBlock (.slice a n cap))→Below base w w'→wpList Tryz.prog ops Q rest (act.put o.dst (.slice a' (n+m) cap')) w'):wpList Tryz.prog ops Q (o :: rest) act w:=by
 refine wpList_plain hgd fun K hK => ?_
 obtain ⟨a',cap',w',hrun,h2,h3,h4⟩:=run_append_rd w o.type base a n cap xs hown b m c ys hr hmc hbytes hbase
 unfold Oper.wp
 simp only [execOp,ho,resolve,invoke,builtin,Sem.run_bind,Sem.run_pure,Result.andThen_ok,List.map_toArray,List.map_cons,List.map_nil,hs,hx,hrun]
 exact hK _ _ (h a' cap' w' h2 h3 h4)
def str (bs:List Nat):ByteArray:=⟨(bs.map fun n=>UInt8.ofNat n).toArray⟩
theorem conv_rd {w:World} {a:Option Addr} {len:Nat} {bs:List Nat} (h:Rd w a len bs) (cap:Nat):(convert 22 9 (.slice a len cap)).run Tryz.prog w=.ok (.string (str bs)) w:=by
 have hs:∀ xs:List Nat,strOfNums (xs.map fun (n:Nat)=>(n:Int))=str xs:=by
  intro xs
  simp only [strOfNums,str,List.map_map]
  congr 2
 rcases h.cells with h0 | ⟨b,off,rfl,_,hc⟩
 ·have hnil:bs=[]:=List.eq_nil_of_length_eq_zero (by rw [h.size,h0])
  subst hnil h0
  cases a with
  | none=>exact run_convert_bytes_nil w 22 5 Tryz.underlying22 Tryz.underlying5 0 cap 9 Tryz.underlying9
  | some ad =>
   have hl:(loadCells ad 0).run Tryz.prog w=.ok (([] : List Int).map (Value.int .u8)).toArray w:=by
    have:=run_loadCells_list (P:=Tryz.prog) w ad [] (fun j v hj=>by simp at hj)
    simpa using this
   rw [run_convert_bytes_string w 22 9 5 _ 0 cap Tryz.underlying22 Tryz.underlying5 Tryz.underlying9,run_bytesToString w ad 0 cap [] hl]
   rfl
 ·have:=run_convert_bytes_arg (P:=Tryz.prog) w 22 5 Tryz.underlying22 Tryz.underlying5 b off len cap (bs.map fun (n:Nat)=>(n:Int)) (by simpa using h.size) (fun i hi=>by
   rw [hc i hi]
   have hib:i<bs.length:=by rw [h.size];exact hi
   simp [List.getD_eq_getElem?_getD,List.getElem?_map,List.getElem?_eq_getElem hib]) 9 Tryz.underlying9
  rw [this,hs]
theorem str_inj {xs ys:List Nat} (hx:∀ x∈xs,x<256) (hy:∀ y∈ys,y<256) (h:str xs=str ys):xs=ys:=by
 have h1:(xs.map fun n=>UInt8.ofNat n)=ys.map fun n=>UInt8.ofNat n:=by
  have:=congrArg (fun b:ByteArray=>b.data.toList) h
  simpa [str] using this
 have h2:=congrArg (List.map fun u:UInt8=>u.toNat) h1
 simp only [List.map_map] at h2
 have e:∀ l:List Nat,(∀ x∈l,x<256)→l.map ((fun u:UInt8=>u.toNat) ∘ fun n=>UInt8.ofNat n)=l:=by
  intro l hl
  conv=>rhs;rw [← List.map_id l]
  apply List.map_congr_left
  intro x hx
  have:=hl x hx
  simp only [Function.comp,id,UInt8.toNat_ofNat']
  exact Nat.mod_eq_of_lt this
 rwa [e xs hx,e ys hy] at h2
end
section
open Go.RowKit
def Blk (w:World) (g:Nat) (cs:Array Value) (t:TypeId):Prop:=w.heap[g]? = some (.cells cs t (0,0))
theorem Blk.new (w:World) (cs:Array Value) (t:TypeId):Blk (w.alloc (.cells cs t)) w.heap.size cs t:=heap_alloc_new w _
theorem Blk.lt {w:World} {g:Nat} {cs:Array Value} {t:TypeId} (h:Blk w g cs t):g<w.heap.size:=(Array.getElem?_eq_some_iff.1 h).1
theorem Blk.below {w w':World} {B g:Nat} {cs:Array Value} {t:TypeId} (h:Blk w g cs t) (hb:Below B w w') (hg:g<B):Blk w' g cs t:=by
 unfold Blk
 rw [hb.block g hg]
 exact h
theorem Blk.stay {w w':World} {g:Nat} {cs:Array Value} {t:TypeId} (h:Blk w g cs t) (hb:Below w.heap.size w w'):Blk w' g cs t:=h.below hb h.lt
theorem Blk.cell {w:World} {g:Nat} {cs:Array Value} {t:TypeId} (h:Blk w g cs t) (i:Nat) {v:Value} (hv:cs[i]? = some v):w.cell? ⟨g,i,none⟩=some v:=by
 rw [cell_of_row w g i cs _ _ h,hv]
theorem Blk.free {w:World} {g:Nat} {cs:Array Value} {t:TypeId} (h:Blk w g cs t) (i:Nat):w.frozen? ⟨g,i,none⟩=false:=frozen_of_row w g i cs t h
theorem Blk.set {w:World} {g:Nat} {cs:Array Value} {t:TypeId} (h:Blk w g cs t) (i:Nat) (v:Value):Blk (w.setCell ⟨g,i,none⟩ v) g (cs.setIfInBounds i v) t:=heap_setCell_same w g i cs t v h
theorem Blk.other {w:World} {g:Nat} {cs:Array Value} {t:TypeId} (h:Blk w g cs t) (a:Addr) (v:Value) (ha:g≠a.block):Blk (w.setCell a v) g cs t:=by
 unfold Blk
 rw [heap_setCell_other w a g v ha]
 exact h
theorem Blk.grown {w w':World} {g:Nat} {cs:Array Value} {t:TypeId} {row:Option Nat} (h:Blk w g cs t) (hg:w.grownBy w' row) (hn:some g≠row):Blk w' g cs t:=by
 unfold Blk
 rw [hg.block g h.lt hn]
 exact h
end
section
open Go.RowKit
structure Dk where
 sure:List (List Nat)
 waits:List (Nat×List Nat)
 trip:Nat
 down:Bool
 age:Nat
structure Sec (s:List Nat):Prop where
 len:s.length=64
 byte:∀ b∈s,b<256
def scells (S:List (List Nat)):List Value:=S.flatMap vb
def wcells (p:Nat×List Nat):List Value:=.int .i64 (p.1:Int) :: vb p.2
theorem wcells_len {p:Nat×List Nat} (h:Sec p.2):(wcells p).length=65:=by rw [wcells,List.length_cons,vb_length,h.len]
theorem scells_len:∀ (S:List (List Nat)),(∀ s∈S,Sec s)→(scells S).length=S.length * 64
 | [],_=>rfl
 | s :: S,h=>by
  rw [scells,List.flatMap_cons,List.length_append,vb_length,(h s (by simp)).len,List.length_cons]
  have:=scells_len S (fun t ht=>h t (by simp [ht]))
  rw [scells] at this
  omega
theorem flat_at {α:Type} (f:α→List Value) (n:Nat):∀ (L:List α),(∀ s∈L,(f s).length=n)→∀ (i:Nat) (s:α),L[i]? = some s→∀ j,j<n→(L.flatMap f)[i * n+j]? = (f s)[j]?
 | [],_,i,s,h,j,hj=>by simp at h
 | t :: L,hL,0,s,h,j,hj=>by
  simp only [List.getElem?_cons_zero,Option.some.injEq] at h
  subst h
  rw [List.flatMap_cons,Nat.zero_mul,Nat.zero_add,List.getElem?_append_left (by rw [hL t (by simp)];exact hj)]
 | t :: L,hL,i+1,s,h,j,hj=>by
  rw [List.getElem?_cons_succ] at h
  have e:=hL t (by simp)
  rw [List.flatMap_cons,List.getElem?_append_right (by rw [e,Nat.add_mul];omega),e,show (i+1) * n+j - n=i * n+j from by rw [Nat.add_mul];omega]
  exact flat_at f n L (fun s hs=>hL s (by simp [hs])) i s h j hj
structure Disk (w:World) (base g gs:Nat) (wv:Value) (D:Dk):Prop where
 blk:Blk w g #[.slice (some ⟨gs,0,none⟩) D.sure.length D.sure.length,wv,.int .i64 (D.trip:Int),.bool D.down,.int .i64 (D.age:Int)] 70
 srow:Blk w gs (scells D.sure).toArray 244
 wrow:w.ownsRow base 246 65 wv D.waits.length (D.waits.flatMap wcells)
 bg:base≤g
 bs:base≤gs
 sz:D.sure.length≤512
 sec:∀ s∈D.sure,Sec s
 wts:∀ p∈D.waits,p.1<D.sure.length∧Sec p.2
 tr:D.trip≤9223372036854775807
 ag:D.age≤1000000000
 wl:D.waits.length≤1000000000
theorem own_ne {w:World} {base k:Nat} {e:TypeId} {size n:Nat} {v:Value} {xs:List Value} {cs:Array Value} {t:TypeId} (h:w.ownsRow base e size v n xs) (hb:Blk w k cs t) (ht:t≠e):some k≠v.ownBlock:=by
 intro he
 rcases h.2 with ⟨h1,_⟩ | ⟨g,c,cur,h1,_,h3,_⟩
 ·rw [h1] at he;cases he
 ·rw [h1] at he
  simp only [Value.ownBlock,Option.some.injEq] at he
  have:=hb
  unfold Blk at this
  rw [he,h3] at this
  simp only [Option.some.injEq,Obj.cells.injEq] at this
  exact ht this.2.1.symm
theorem own_ne' {w:World} {base k:Nat} {e:TypeId} {size n:Nat} {v:Value} {xs:List Value} {cs:Array Value} {t:TypeId} {fr:Nat×Nat} (h:w.ownsRow base e size v n xs) (hb:w.heap[k]? = some (.cells cs t fr)) (ht:t≠e):some k≠v.ownBlock:=by
 intro he
 rcases h.2 with ⟨h1,_⟩ | ⟨g,c,cur,h1,_,h3,_⟩
 ·rw [h1] at he;cases he
 ·rw [h1] at he
  simp only [Value.ownBlock,Option.some.injEq] at he
  rw [he,h3] at hb
  simp only [Option.some.injEq,Obj.cells.injEq] at hb
  exact ht hb.2.1.symm
theorem blk_ne {w:World} {g k:Nat} {cs cs':Array Value} {t t':TypeId} (h:Blk w g cs t) (h':Blk w k cs' t') (ht:t≠t'):g≠k:=by
 rintro rfl
 unfold Blk at h h'
 rw [h] at h'
 simp only [Option.some.injEq,Obj.cells.injEq] at h'
 exact ht h'.2.1
theorem own_stay {w w':World} {base:Nat} {e:TypeId} {size n:Nat} {v:Value} {xs:List Value} (h:w.ownsRow base e size v n xs) (hk:∀ k,v.ownBlock=some k→w'.heap[k]? = w.heap[k]?):w'.ownsRow base e size v n xs:=by
 refine ⟨h.1,?_⟩
 rcases h.2 with h1 | ⟨g,c,cur,h1,h2,h3,r⟩
 ·exact .inl h1
 ·refine .inr ⟨g,c,cur,h1,h2,?_,r⟩
  rw [hk g (by rw [h1];rfl)]
  exact h3
def NoC (o:Obj):Prop:=∀ cs t fr,o≠.cells cs t fr
structure Mv (w w':World) (base g gs:Nat):Prop where
 low:Below base w w'
 block:∀ k cs t fr,k≠g→k≠gs→w.heap[k]? = some (.cells cs t fr)→t≠246→w'.heap[k]? = some (.cells cs t fr)
 other:∀ (k:Nat) (o:Obj),k≠g→k≠gs→w.heap[k]? = some o→NoC o→w'.heap[k]? = some o
theorem heap_lt {w:World} {k:Nat} {o:Obj} (h:w.heap[k]? = some o):k<w.heap.size:=(Array.getElem?_eq_some_iff.1 h).1
theorem Mv.refl (w:World) (base g gs:Nat):Mv w w base g gs:=⟨Below.refl _ _,fun _ _ _ _ _ _ h _=>h,fun _ _ _ _ h _=>h⟩
theorem Mv.trans {w w1 w2:World} {base g gs:Nat} (h:Mv w w1 base g gs) (h2:Mv w1 w2 base g gs):Mv w w2 base g gs :=
 ⟨h.low.trans h2.low,fun k cs t fr h3 h4 h5 h6=>h2.block k cs t fr h3 h4 (h.block k cs t fr h3 h4 h5 h6) h6,fun k o h3 h4 h5 h6=>h2.other k o h3 h4 (h.other k o h3 h4 h5 h6) h6⟩
theorem Mv.of_below {w w':World} {base:Nat} (g gs:Nat) (h:Below w.heap.size w w') (hb:base≤w.heap.size):Mv w w' base g gs:=⟨h.mono hb,fun k _ _ _ _ _ h5 _=>by rw [h.block k (heap_lt h5)];exact h5,fun k _ _ _ h5 _=>by rw [h.block k (heap_lt h5)];exact h5⟩
theorem Mv.keep {w w':World} {base g gs k:Nat} {cs:Array Value} {t:TypeId} (h:Mv w w' base g gs) (hb:Blk w k cs t) (h1:k≠g) (h2:k≠gs) (ht:t≠246):Blk w' k cs t:=h.block k cs t _ h1 h2 hb ht
theorem Mv.of_grown {w w':World} {base g gs:Nat} {k:Nat} (hk:k=g∨k=gs) (hb:base≤k) (h:w.grownBy w' (some k)) (hs:base≤w.heap.size):Mv w w' base g gs :=
 ⟨(Below.refl _ _).grown h hs (fun j hj=>by simp only [Option.some.injEq] at hj;omega),fun j cs t fr h1 h2 h5 _=>by rw [h.block j (heap_lt h5) (fun e=>by simp only [Option.some.injEq] at e;rcases hk with rfl | rfl <;> omega)];exact h5,fun j o h1 h2 h5 _=>by rw [h.block j (heap_lt h5) (fun e=>by simp only [Option.some.injEq] at e;rcases hk with rfl | rfl <;> omega)];exact h5⟩
theorem own_noc {w:World} {base k:Nat} {e:TypeId} {size n:Nat} {v:Value} {xs:List Value} {o:Obj} (h:w.ownsRow base e size v n xs) (hb:w.heap[k]? = some o) (hc:NoC o):some k≠v.ownBlock:=by
 rcases h.2 with ⟨h1,_⟩ | ⟨g,c,cur,h1,_,h3,_⟩
 ·rw [h1];intro e;cases e
 ·rw [h1];intro e
  simp only [Value.ownBlock,Option.some.injEq] at e
  subst e
  have e2x:=Option.some.inj (hb.symm.trans h3)
  exact hc _ _ _ e2x
theorem Mv.of_own {w w':World} {base g gs:Nat} {v:Value} {size n:Nat} {xs:List Value} (hv:w.ownsRow base 246 size v n xs) (h:w.grownBy w' v.ownBlock) (hs:base≤w.heap.size):Mv w w' base g gs :=
 ⟨(Below.refl _ _).grown h hs (fun j hj=>(hv.lt j hj).1),fun k _ _ _ _ _ h5 h6=>by rw [h.block k (heap_lt h5) (own_ne' hv h5 h6)];exact h5,fun k o _ _ h5 h6=>by rw [h.block k (heap_lt h5) (own_noc hv h5 h6)];exact h5⟩
theorem Disk.apart {w:World} {base g gs:Nat} {wv:Value} {D:Dk} (h:Disk w base g gs wv D):g≠gs∧some g≠wv.ownBlock∧some gs≠wv.ownBlock :=
 ⟨blk_ne h.blk h.srow (by decide),own_ne h.wrow h.blk (by decide),own_ne h.wrow h.srow (by decide)⟩
theorem Disk.stay {w w':World} {base g gs:Nat} {wv:Value} {D:Dk} (h:Disk w base g gs wv D) (hb:Below w.heap.size w w'):Disk w' base g gs wv D :=
 ⟨h.blk.stay hb,h.srow.stay hb,own_stay h.wrow (fun k hk=>hb.block k (h.wrow.lt k hk).2),h.bg,h.bs,h.sz,h.sec,h.wts,h.tr,h.ag,h.wl⟩
theorem Disk.lower {w:World} {base base' g gs:Nat} {wv:Value} {D:Dk} (h:Disk w base g gs wv D) (hb:base'≤base):Disk w base' g gs wv D:=by
 refine ⟨h.blk,h.srow,⟨h.wrow.1,?_⟩,Nat.le_trans hb h.bg,Nat.le_trans hb h.bs,h.sz,h.sec,h.wts,h.tr,h.ag,h.wl⟩
 rcases h.wrow.2 with h1 | ⟨g,c,cur,h1,h2,r⟩
 ·exact .inl h1
 ·exact .inr ⟨g,c,cur,h1,Nat.le_trans hb h2,r⟩
theorem setCells_blk (g:Nat) (t:TypeId):∀ (vs:List Value) (o:Nat) (w:World) (cur:List Value),Blk w g cur.toArray t→o+vs.length≤cur.length→Blk (w.setCells g o vs) g (splice cur o vs).toArray t∧w.grownBy (w.setCells g o vs) (some g)
 | [],o,w,cur,h,_=>by
  refine ⟨?_,⟨rfl,rfl,rfl,Nat.le_refl _,fun _ _ _=>rfl⟩⟩
  rw [World.setCells,splice]
  simpa using h
 | v :: vs,o,w,cur,h,hl=>by
  rw [List.length_cons] at hl
  have h1:Blk (w.setCell ⟨g,o,none⟩ v) g (cur.set o v).toArray t:=by
   have:=h.set o v
   simpa using this
  obtain ⟨h2,h3⟩:=setCells_blk g t vs (o+1) (w.setCell ⟨g,o,none⟩ v) (cur.set o v) h1 (by rw [List.length_set];omega)
  rw [World.setCells]
  refine ⟨?_,?_⟩
  ·have e:splice (cur.set o v) (o+1) vs=splice cur o (v :: vs):=by
    unfold splice
    rw [List.length_cons,show o+(vs.length+1)=o+1+vs.length from by omega,List.drop_set_of_lt (by omega),List.take_set,List.take_add_one,List.getElem?_eq_getElem (by omega),List.set_append_right _ _ (by rw [List.length_take];omega)]
    simp [Nat.min_eq_left (show o≤cur.length by omega)]
   rw [← e]
   exact h2
  ·have h4:w.grownBy (w.setCell ⟨g,o,none⟩ v) (some g):=by
    have h0:Below 0 w (w.setCell ⟨g,o,none⟩ v):=(Below.refl 0 w).setCell (Nat.zero_le _) v
    refine ⟨h0.os,h0.tape,h0.output,h0.size,fun k hk hn => ?_⟩
    exact heap_setCell_other w ⟨g,o,none⟩ k v (fun e=>hn (by rw [e]))
   exact ⟨h3.os.trans h4.os,h3.tape.trans h4.tape,h3.output.trans h4.output,Nat.le_trans h4.size h3.size,fun k hk hn=>(h3.block k (Nat.lt_of_lt_of_le hk h4.size) hn).trans (h4.block k hk hn)⟩
theorem Blk.there {w:World} {g:Nat} {cur:List Value} {t:TypeId} (h:Blk w g cur.toArray t) (o n:Nat) (hl:o+n≤cur.length):w.there g o n:=fun j hj=>by
 refine ⟨?_,h.free _⟩
 rw [h.cell (o+j) (v:=cur[o+j]'(by omega)) (by simp)]
 rfl
theorem wp_store_row {w:World} {op:Oper} {a:Act} {K:Act→World→Prop} {Q:Exit→Act→World→Prop} (ty:TypeId) (x y:Operand) (ho:op.op=.store ty x y)
  (b o:Nat) (cs:List Value) (hx:a.eval x=.pointer (some ⟨b,o,none⟩)) (hy:a.eval y=.agg cs.toArray) (cur:List Value) (t:TypeId) (hb:Blk w b cur.toArray t) (hl:o+cs.length≤cur.length)
  (hi:(Tryz.prog.info? ty).map (·.size)=some cs.length) (h1:∀ v∈cs,v.oneCell'=true)
  (h:∀ w',Blk w' b (splice cur o cs).toArray t→w.grownBy w' (some b)→K (a.put op.dst undef) w'):op.wp Tryz.prog a w K Q:=by
 obtain ⟨z1,z2⟩:=setCells_blk b t cs o w cur hb hl
 exact wp_store_mid ty x y ho b o cs.toArray hx hy (by simpa using hb.there o cs.length hl) (by simpa using hi) (all_oneCell_toArray h1) (by simpa using h _ z1 z2)
theorem wpList_store_row {w:World} {ops:Array Oper} {rest:List Oper} {op:Oper} {a:Act} {Q:Exit→Act→World→Prop} (hgd:op.guard=none) (ty:TypeId) (x y:Operand) (ho:op.op=.store ty x y)
  (b o:Nat) (cs:List Value) (hx:a.eval x=.pointer (some ⟨b,o,none⟩)) (hy:a.eval y=.agg cs.toArray) (cur:List Value) (t:TypeId) (hb:Blk w b cur.toArray t) (hl:o+cs.length≤cur.length)
  (hi:(Tryz.prog.info? ty).map (·.size)=some cs.length) (h1:∀ v∈cs,v.oneCell'=true)
  (h:∀ w',Blk w' b (splice cur o cs).toArray t→w.grownBy w' (some b)→wpList Tryz.prog ops Q rest (a.put op.dst undef) w'):wpList Tryz.prog ops Q (op :: rest) a w :=
 wpList_plain hgd fun _ hK=>wp_store_row ty x y ho b o cs hx hy cur t hb hl hi h1 fun w' h2 h3=>hK _ _ (h w' h2 h3)
theorem Blk.range {w:World} {g:Nat} {cur:List Value} {t:TypeId} (h:Blk w g cur.toArray t) (o:Nat) (cs:List Value) (hc:∀ j v,cs[j]? = some v→cur[o+j]? = some v):w.rangeAt g o cs:=fun j v hj=>h.cell (o+j) (by simpa using hc j v hj)
theorem vb_one' (bs:List Nat):∀ v∈vb bs,v.oneCell'=true:=vb_one bs
theorem infoBlock:(Tryz.prog.info? 244).map (·.size)=some 64:=by kernel_rfl
theorem infoWrite:(Tryz.prog.info? 246).map (·.size)=some 65:=by kernel_rfl
theorem Disk.sector {w:World} {base g gs:Nat} {wv:Value} {D:Dk} (h:Disk w base g gs wv D) {i:Nat} {s:List Nat} (hs:D.sure[i]? = some s):w.rangeAt gs (i * 64) (vb s):=by
 have hsec:=h.sec s (List.mem_of_getElem? hs)
 refine h.srow.range _ _ fun j v hj => ?_
 have hj64:j<64:=by
  have:=(List.getElem?_eq_some_iff.1 hj).1
  rw [vb_length,hsec.len] at this
  exact this
 rw [scells,flat_at vb 64 D.sure (fun t ht=>by rw [vb_length,(h.sec t ht).len]) i s hs j hj64]
 exact hj
theorem Disk.wait {w:World} {base g gs gw n c:Nat} {D:Dk} (h:Disk w base g gs (.slice (some ⟨gw,0,none⟩) n c) D) {i:Nat} {p:Nat×List Nat} (hp:D.waits[i]? = some p):w.rangeAt gw (i * 65) (wcells p):=by
 have hn:n=D.waits.length:=by
  rcases h.wrow.2 with ⟨h1,_⟩ | ⟨g',c',cur,h1,_⟩
  ·cases h1
  ·simp only [Value.slice.injEq] at h1;exact h1.2.1
 subst hn
 have hsec:=(h.wts p (List.mem_of_getElem? hp)).2
 have hi:i<D.waits.length:=(List.getElem?_eq_some_iff.1 hp).1
 intro j v hj
 have hj65:j<65:=by
  have:=(List.getElem?_eq_some_iff.1 hj).1
  rw [wcells_len hsec] at this
  exact this
 rw [h.wrow.cellAt (i * 65+j) (by omega),flat_at wcells 65 D.waits (fun t ht=>wcells_len (h.wts t ht).2) i p hp j hj65]
 exact hj
theorem Disk.form {w:World} {base g gs:Nat} {wv:Value} {D:Dk} (h:Disk w base g gs wv D):(D.waits=[] ∧ ∃ a c,wv=.slice a 0 c)∨∃ gw c,wv=.slice (some ⟨gw,0,none⟩) D.waits.length c∧D.waits.length≤c:=by
 rcases h.wrow.2 with ⟨h1,h2⟩ | ⟨gw,c,cur,h1,_,_,h4,_⟩
 ·exact .inl ⟨List.length_eq_zero_iff.1 h2,none,0,h1⟩
 ·exact .inr ⟨gw,c,h1,h4⟩
theorem run_copy_fr (w:World) (dT sT ty elem:TypeId) (hu:Tryz.prog.underlying dT=some (.slice elem)) (hsz:(Tryz.prog.info? elem).map (·.size)=some 1)
  (dp sp:Option Addr) (dLen dCap sLen sCap:Nat) (g off:Nat) (cur:List Value) (t:TypeId) (hg:Blk w g cur.toArray t) (cs:List Value) (hn:cs.length=Nat.min sLen dLen)
  (hpos:0<cs.length→dp=some ⟨g,off,none⟩∧∃ ad,sp=some ad∧∀ j v,cs[j]? = some v→w.cell? (ad.add j)=some v) (hfit:off+cs.length≤cur.length) (h1:∀ v∈cs,v.oneCell'=true) :
  ∃ w',(Builtin.copy_ #[dT,sT] ty #[.slice dp dLen dCap,.slice sp sLen sCap]).run Tryz.prog w=.ok (goInt cs.length) w'∧Blk w' g (splice cur off cs).toArray t∧w.grownBy w' (some g):=by
 by_cases h0:cs.length=0
 ·obtain rfl:cs=[]:=List.eq_nil_of_length_eq_zero h0
  exact ⟨w,run_copy_none (P:=Tryz.prog) w dT sT ty elem dp sp dLen dCap sLen sCap hu hsz (by simpa using hn.symm),by show Blk _ _ _ _;simpa [splice] using hg,⟨rfl,rfl,rfl,Nat.le_refl _,fun _ _ _=>rfl⟩⟩
 ·obtain ⟨rfl,ad,rfl,hsrc⟩:=hpos (by omega)
  refine ⟨_,run_copy_row (P:=Tryz.prog) w dT sT ty elem g off dLen dCap ad sLen sCap cur.toArray t cs hu hsz hg hn hsrc (by simpa using hfit) h1,?_,?_⟩
  ·unfold Blk
   simpa [splice] using setRow_heap w g _ _ t _ hg
  ·exact ⟨rfl,rfl,rfl,by simp [World.setRow],fun k _ hk=>setRow_other w g k _ (fun e=>hk (by rw [e]))⟩
theorem wpList_copy_fr {w:World} {ops:Array Oper} {rest:List Oper} {o:Oper} {a:Act} {Q:Exit→Act→World→Prop} (hgd:o.guard=none) (d s:Operand) (dT sT:TypeId)
  (ho:o.op=.call { callee:=.builtin .copy,args:=#[d,s],argTypes:=#[dT,sT] }) (elem:TypeId) (hu:Tryz.prog.underlying dT=some (.slice elem)) (hsz:(Tryz.prog.info? elem).map (·.size)=some 1)
  (dp sp:Option Addr) (dLen dCap sLen sCap:Nat) (hd:a.eval d=.slice dp dLen dCap) (hs:a.eval s=.slice sp sLen sCap)
  (g off:Nat) (cur:List Value) (t:TypeId) (hg:Blk w g cur.toArray t) (cs:List Value) (hn:cs.length=Nat.min sLen dLen)
  (hpos:0<cs.length→dp=some ⟨g,off,none⟩∧∃ ad,sp=some ad∧∀ j v,cs[j]? = some v→w.cell? (ad.add j)=some v)
  (hfit:off+cs.length≤cur.length) (h1:∀ v∈cs,v.oneCell'=true)
  (h:∀ w',Blk w' g (splice cur off cs).toArray t→w.grownBy w' (some g)→wpList Tryz.prog ops Q rest (a.put o.dst (goInt cs.length)) w'):wpList Tryz.prog ops Q (o :: rest) a w:=by
 refine wpList_plain hgd fun K hK => ?_
 obtain ⟨w',hrun,z1,z2⟩:=run_copy_fr w dT sT o.type elem hu hsz dp sp dLen dCap sLen sCap g off cur t hg cs hn hpos hfit h1
 unfold Oper.wp
 simp only [execOp,ho,resolve,invoke,builtin,Sem.run_bind,Sem.run_pure,Result.andThen_ok,List.map_toArray,List.map_cons,List.map_nil,hd,hs,hrun]
 exact hK _ _ (h w' z1 z2)
theorem step_copy_fr {w:World} {ops:Array Oper} {o:Oper} {a:Act} {K:Act→World→Prop} {Q:Exit→Act→World→Prop} {E:Prop} (hgd:o.guard=none) (d s:Operand) (dT sT:TypeId)
  (ho:o.op=.call { callee:=.builtin .copy,args:=#[d,s],argTypes:=#[dT,sT] }) (elem:TypeId) (hu:Tryz.prog.underlying dT=some (.slice elem)) (hsz:(Tryz.prog.info? elem).map (·.size)=some 1)
  (dp sp:Option Addr) (dLen dCap sLen sCap:Nat) (hd:a.eval d=.slice dp dLen dCap) (hs:a.eval s=.slice sp sLen sCap)
  (g off:Nat) (cur:List Value) (t:TypeId) (hg:Blk w g cur.toArray t) (cs:List Value) (hn:cs.length=Nat.min sLen dLen)
  (hpos:0<cs.length→dp=some ⟨g,off,none⟩∧∃ ad,sp=some ad∧∀ j v,cs[j]? = some v→w.cell? (ad.add j)=some v)
  (hfit:off+cs.length≤cur.length) (h1:∀ v∈cs,v.oneCell'=true)
  (h:∀ w',Blk w' g (splice cur off cs).toArray t→w.grownBy w' (some g)→K (a.put o.dst (goInt cs.length)) w'):if Region.wanted o (yielded ops a.tmps)=true then Oper.wp Tryz.prog o a w K Q else E:=by
 rw [if_pos (by simp [Region.wanted,hgd])]
 obtain ⟨w',hrun,z1,z2⟩:=run_copy_fr w dT sT o.type elem hu hsz dp sp dLen dCap sLen sCap g off cur t hg cs hn hpos hfit h1
 unfold Oper.wp
 simp only [execOp,ho,resolve,invoke,builtin,Sem.run_bind,Sem.run_pure,Result.andThen_ok,List.map_toArray,List.map_cons,List.map_nil,hd,hs,hrun]
 exact h w' z1 z2
theorem infoByteSz:(Tryz.prog.info? 5).map (·.size)=some 1:=by kernel_rfl
end
section
open Go.RowKit
def hasB (D:Dk) (i:Int):Bool:=decide (0≤i∧i<(D.sure.length:Int))
theorem hasB_iff (D:Dk) (i:Int):hasB D i=true↔0≤i∧i<(D.sure.length:Int):=by simp [hasB]
theorem hasB_not (D:Dk) (i:Int):hasB D i=false↔¬ (0≤i∧i<(D.sure.length:Int)):=by simp [hasB]
theorem disk_has (w:World) (base g gs:Nat) (wv:Value) (D:Dk) (i:Int) (h:Disk w base g gs wv D) :
  Calls Tryz.prog 144 #[.pointer (some ⟨g,0,none⟩),.int .i64 i] w fun e w'=>e=.returned (.bool (hasB D i))∧w'=w:=by
 have c0:w.cell? ⟨g,0,none⟩=some (.slice (some ⟨gs,0,none⟩) D.sure.length D.sure.length):=h.blk.cell 0 rfl
 have hsz:=h.sz
 obtain ⟨n,hn⟩:∃ n,n=D.sure.length:=⟨_,rfl⟩
 obtain ⟨R,HR⟩:∃ R,Hid (R=hasB D i):=⟨_,rfl⟩
 rw [← HR.out]
 rw [← hn] at c0 hsz
 have HN:Hid (n=D.sure.length):=hn
 clear h hn
 by_cases h0:0≤i
 ·by_cases h1:i<(n:Int)
  ·have HX:Hid (R=true):=by show _=_;rw [HR.out,hasB_iff,← HN.out];exact ⟨h0,h1⟩
   go_enter Tryz.func144,Tryz.ntmps144
   go_wp2
   go_ret
   exact ⟨by rw [HX.out];rfl,rfl⟩
  ·have HX:Hid (R=false):=by show _=_;rw [HR.out,hasB_not,← HN.out];exact fun hh=>h1 hh.2
   go_enter Tryz.func144,Tryz.ntmps144
   go_wp2
   go_ret
   exact ⟨by rw [HX.out];rfl,rfl⟩
 ·have HX:Hid (R=false):=by show _=_;rw [HR.out,hasB_not];exact fun hh=>h0 hh.1
  go_enter Tryz.func144,Tryz.ntmps144
  go_wp2
  go_ret
  exact ⟨by rw [HX.out];rfl,rfl⟩
def tripsB (D:Dk):Bool:=decide (D.trip=1)
def tripsD (D:Dk):Dk:=if D.trip=0 then D else { D with trip:=D.trip - 1,down:=decide (D.trip=1) }
theorem Disk.with3 {w w':World} {base g gs:Nat} {wv:Value} {D:Dk} (h:Disk w base g gs wv D) (t:Nat) (d:Bool) (ht:t≤9223372036854775807) (hb:Blk w' g #[.slice (some ⟨gs,0,none⟩) D.sure.length D.sure.length,wv,.int .i64 (t:Int),.bool d,.int .i64 (D.age:Int)] 70)
  (hg:w.grownBy w' (some g)):Disk w' base g gs wv { D with trip:=t,down:=d }:=by
 obtain ⟨a1,a2,a3⟩:=h.apart
 exact ⟨hb,h.srow.grown hg (by simpa using a1.symm),own_stay h.wrow (fun k hk=>hg.block k (h.wrow.lt k hk).2 (fun e=>a2 (by rw [← e,hk]))),h.bg,h.bs,h.sz,h.sec,h.wts,ht,h.ag,h.wl⟩
theorem grown_cell (w:World) (g i:Nat) (v:Value):w.grownBy (w.setCell ⟨g,i,none⟩ v) (some g):=by
 have h0:Below 0 w (w.setCell ⟨g,i,none⟩ v):=(Below.refl 0 w).setCell (Nat.zero_le _) v
 exact ⟨h0.os,h0.tape,h0.output,h0.size,fun k hk hn=>heap_setCell_other w ⟨g,i,none⟩ k v (fun e=>hn (by rw [e]))⟩
theorem grown_trans {w w1 w2:World} {r:Option Nat} (h:w.grownBy w1 r) (h2:w1.grownBy w2 r):w.grownBy w2 r :=
 ⟨h2.os.trans h.os,h2.tape.trans h.tape,h2.output.trans h.output,Nat.le_trans h.size h2.size,fun k hk hn=>(h2.block k (Nat.lt_of_lt_of_le hk h.size) hn).trans (h.block k hk hn)⟩
theorem disk_trips (w:World) (base g gs:Nat) (wv:Value) (D:Dk) (h:Disk w base g gs wv D) (hd:D.down=false) :
  Calls Tryz.prog 145 #[.pointer (some ⟨g,0,none⟩)] w fun e w'=>e=.returned (.bool (tripsB D))∧Disk w' base g gs wv (tripsD D)∧Mv w w' base g gs:=by
 have HD:Hid (Disk w base g gs wv D):=h
 have c2:w.cell? ⟨g,2,none⟩=some (.int .i64 (D.trip:Int)):=h.blk.cell 2 rfl
 have c3:w.cell? ⟨g,3,none⟩=some (.bool false):=by have:=h.blk.cell 3 rfl;rw [hd] at this;exact this
 have f2:=h.blk.free 2
 have f3:=h.blk.free 3
 have htr:=h.tr
 obtain ⟨t,ht⟩:∃ t,t=D.trip:=⟨_,rfl⟩
 have HT:Hid (t=D.trip):=ht
 rw [← ht] at c2 htr
 clear h ht
 by_cases h0:t=0
 ·subst h0
  have HX:Hid (tripsB D=false∧tripsD D=D):=by
   unfold tripsB tripsD
   rw [← HT.out]
   exact ⟨rfl,rfl⟩
  go_enter Tryz.func145,Tryz.ntmps145
  go_wp2
  go_ret
  exact ⟨by rw [HX.out.1];rfl,by rw [HX.out.2];exact HD.out,Mv.refl _ _ _ _⟩
 ·obtain ⟨u,rfl⟩:∃ u,t=u+1:=⟨t - 1,by omega⟩
  have hu:((u+1:Nat):Int) - 1=(u:Int):=by omega
  have hu':(u:Int)+1 - 1=(u:Int):=by omega
  have hn0:¬ ((u:Int)+1=0):=by omega
  have hn0':((u:Int)+1 == 0)=false:=by rw [beq_eq_false_iff_ne];omega
  by_cases h1:u=0
  ·subst h1
   have HX:Hid (tripsB D=true∧tripsD D={ D with trip:=0,down:=true }):=by
    unfold tripsB tripsD
    rw [← HT.out]
    exact ⟨rfl,rfl⟩
   have HK2:Hid (Blk ((w.setCell ⟨g,2,none⟩ (.int .i64 0)).setCell ⟨g,3,none⟩ (.bool true)) g #[.slice (some ⟨gs,0,none⟩) D.sure.length D.sure.length,wv,.int .i64 ((0:Nat):Int),.bool true,.int .i64 (D.age:Int)] 70):=by
    have:=(HD.out.blk.set 2 (.int .i64 0)).set 3 (.bool true)
    exact this
   have HG:Hid (w.grownBy ((w.setCell ⟨g,2,none⟩ (.int .i64 0)).setCell ⟨g,3,none⟩ (.bool true)) (some g)):=grown_trans (grown_cell _ _ _ _) (grown_cell _ _ _ _)
   go_enter Tryz.func145,Tryz.ntmps145
   go_wp2
   go_ret
   exact ⟨by rw [HX.out.1];rfl,by rw [HX.out.2];exact HD.out.with3 0 true (by omega) HK2.out HG.out,Mv.of_grown (.inl rfl) HD.out.bg HG.out (Nat.le_trans HD.out.bg (Nat.le_of_lt HD.out.blk.lt))⟩
  ·have hun:¬ ((u:Int)=0):=by omega
   have hun':((u:Int) == 0)=false:=by rw [beq_eq_false_iff_ne];omega
   have HX:Hid (tripsB D=false∧tripsD D={ D with trip:=u,down:=false }):=by
    unfold tripsB tripsD
    rw [← HT.out]
    refine ⟨by simp;omega,?_⟩
    rw [if_neg (by omega),decide_eq_false (by omega)]
    rfl
   have HK2:Hid (Blk ((w.setCell ⟨g,2,none⟩ (.int .i64 (u:Int))).setCell ⟨g,3,none⟩ (.bool false)) g #[.slice (some ⟨gs,0,none⟩) D.sure.length D.sure.length,wv,.int .i64 (u:Int),.bool false,.int .i64 (D.age:Int)] 70):=by
    have:=(HD.out.blk.set 2 (.int .i64 (u:Int))).set 3 (.bool false)
    exact this
   have HG:Hid (w.grownBy ((w.setCell ⟨g,2,none⟩ (.int .i64 (u:Int))).setCell ⟨g,3,none⟩ (.bool false)) (some g)):=grown_trans (grown_cell _ _ _ _) (grown_cell _ _ _ _)
   go_enter Tryz.func145,Tryz.ntmps145
   go_wp2
   go_ret
   exact ⟨by rw [HX.out.1];rfl,by rw [HX.out.2];exact HD.out.with3 u false (by omega) HK2.out HG.out,Mv.of_grown (.inl rfl) HD.out.bg HG.out (Nat.le_trans HD.out.bg (Nat.le_of_lt HD.out.blk.lt))⟩
end
end Go.Proofs.YtoiennkfdjnkbaaGreatDoor
