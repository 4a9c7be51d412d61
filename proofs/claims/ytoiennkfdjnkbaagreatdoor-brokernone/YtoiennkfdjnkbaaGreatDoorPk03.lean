import Derived.Test.YtoiennkfdjnkbaaGreatDoorSec3
import Derived.Deep.RegionHeld3
import Derived.WalkKit
set_option maxRecDepth 100000
set_option maxHeartbeats 8000000
namespace Go.Proofs.YtoiennkfdjnkbaaGreatDoor
section
open Go.RowKit
theorem torn_sec {s t:List Nat} (hs:Sec s) (ht:Sec t) {m:Nat} (hm:m≤64):Sec (t.take m++s.drop m):=by
 refine ⟨by rw [List.length_append,List.length_take,List.length_drop,hs.len,ht.len];omega,fun b hb => ?_⟩
 rcases List.mem_append.1 hb with h | h
 ·exact ht.byte b (List.mem_of_mem_take h)
 ·exact hs.byte b (List.mem_of_mem_drop h)
theorem flat_part {α:Type} (f:α→List Value) (n:Nat):∀ (L:List α),(∀ s∈L,(f s).length=n)→∀ (i:Nat) (s t:α) (cs:List Value),L[i]? = some s→cs.length≤n→f t=cs++(f s).drop cs.length→splice (L.flatMap f) (i * n) cs=(L.set i t).flatMap f
 | [],_,i,s,t,cs,h,_,_=>by simp at h
 | u :: L,hL,0,s,t,cs,h,hc,ht=>by
  simp only [List.getElem?_cons_zero,Option.some.injEq] at h
  subst h
  have e:=hL u (by simp)
  rw [List.set_cons_zero,List.flatMap_cons,List.flatMap_cons,splice,Nat.zero_mul,List.take_zero,List.nil_append,Nat.zero_add,ht,List.drop_append_of_le_length (by omega),List.append_assoc]
 | u :: L,hL,i+1,s,t,cs,h,hc,ht=>by
  rw [List.getElem?_cons_succ] at h
  have e:=hL u (by simp)
  have ih:=flat_part f n L (fun s hs=>hL s (by simp [hs])) i s t cs h hc ht
  rw [List.set_cons_succ,List.flatMap_cons,List.flatMap_cons,← ih]
  unfold splice
  rw [show (i+1) * n=(f u).length+i * n from by rw [Nat.add_mul,e];omega,List.take_length_add_append,Nat.add_assoc,List.drop_length_add_append,List.append_assoc]
theorem Disk.torn {w w':World} {base g gs:Nat} {wv:Value} {D:Dk} (h:Disk w base g gs wv D) {i:Nat} {s t:List Nat} (hi:D.sure[i]? = some s) (ht:Sec t) {m:Nat} (hm:m≤64)
  (hb:Blk w' gs (splice (scells D.sure) (i * 64) (vb (t.take m))).toArray 244) (hg:w.grownBy w' (some gs)):Disk w' base g gs wv { D with sure:=D.sure.set i (t.take m++s.drop m) }:=by
 obtain ⟨a1,a2,a3⟩:=h.apart
 have hs:=h.sec s (List.mem_of_getElem? hi)
 have e:splice (scells D.sure) (i * 64) (vb (t.take m))=scells (D.sure.set i (t.take m++s.drop m)):=by
  have hl:(vb (t.take m)).length=m:=by rw [vb_length,List.length_take,ht.len];omega
  refine flat_part vb 64 D.sure (fun u hu=>by rw [vb_length,(h.sec u hu).len]) i s _ _ hi (by omega) ?_
  rw [vb_append,hl]
  unfold vb
  rw [List.map_drop]
 rw [e] at hb
 have hk:Blk w' g _ 70:=h.blk.grown hg (by simpa using a1)
 refine ⟨by rw [List.length_set];exact hk,hb,own_stay h.wrow (fun k hk=>hg.block k (h.wrow.lt k hk).2 (fun e=>a3 (by rw [← e,hk]))),h.bg,h.bs,by rw [List.length_set];exact h.sz,fun u hu => ?_,fun p hp=>by rw [List.length_set];exact h.wts p hp,h.tr,h.ag,h.wl⟩
 rcases List.mem_or_eq_of_mem_set hu with hu | rfl
 ·exact h.sec u hu
 ·exact torn_sec hs ht hm
theorem Disk.fin {w:World} {base g gs:Nat} {wv:Value} {D:Dk} {S:List (List Nat)} (h:Disk w base g gs wv { D with sure:=S }) (ha:D.age<1000000000) :
  Disk ((((w.setCell ⟨g,1,none⟩ (.slice none 0 0)).setCell ⟨g,2,none⟩ (.int .i64 0)).setCell ⟨g,3,none⟩ (.bool false)).setCell ⟨g,4,none⟩ (.int .i64 ((D.age:Int)+1))) base g gs (.slice none 0 0) ⟨S,[],0,false,D.age+1⟩ ∧
  Mv w ((((w.setCell ⟨g,1,none⟩ (.slice none 0 0)).setCell ⟨g,2,none⟩ (.int .i64 0)).setCell ⟨g,3,none⟩ (.bool false)).setCell ⟨g,4,none⟩ (.int .i64 ((D.age:Int)+1))) base g gs:=by
 obtain ⟨a1,a2,a3⟩:=h.apart
 have hg:=grown_trans (grown_trans (grown_trans (grown_cell w g 1 (.slice none 0 0)) (grown_cell _ g 2 (.int .i64 0))) (grown_cell _ g 3 (.bool false))) (grown_cell _ g 4 (.int .i64 ((D.age:Int)+1)))
 have hk:=(((h.blk.set 1 (.slice none 0 0)).set 2 (.int .i64 0)).set 3 (.bool false)).set 4 (.int .i64 ((D.age:Int)+1))
 exact ⟨⟨hk,h.srow.grown hg (by simpa using a1.symm),World.ownsRow_nil _ _ _ _,h.bg,h.bs,h.sz,h.sec,(fun p hp=>by cases hp),Nat.zero_le _,ha,Nat.zero_le _⟩,Mv.of_grown (.inl rfl) h.bg hg (Nat.le_trans h.bg (Nat.le_of_lt h.blk.lt))⟩
theorem cell_far {w w':World} {k:Nat} {a:Addr} {v:Value} (hg:w.grownBy w' (some k)) (h:w.cell? a=some v) (hne:a.block≠k):w'.cell? a=some v:=hg.cell h (by simpa using hne)
structure Mc (w w':World) (base g gs:Nat):Prop where
 low:Below base w w'
 block:∀ (k:Nat),k<w.heap.size→k≠g→k≠gs→w'.heap[k]? = w.heap[k]?
theorem Mc.refl (w:World) (base g gs:Nat):Mc w w base g gs:=⟨Below.refl _ _,fun _ _ _ _=>rfl⟩
theorem Mc.trans {w w1 w2:World} {base g gs:Nat} (h:Mc w w1 base g gs) (h2:Mc w1 w2 base g gs):Mc w w2 base g gs :=
 ⟨h.low.trans h2.low,fun k h3 h4 h5=>(h2.block k (Nat.lt_of_lt_of_le h3 h.low.size) h4 h5).trans (h.block k h3 h4 h5)⟩
theorem Mc.of_below {w w':World} {base:Nat} (g gs:Nat) (h:Below w.heap.size w w') (hb:base≤w.heap.size):Mc w w' base g gs:=⟨h.mono hb,fun k h5 _ _=>h.block k h5⟩
theorem Mc.of_grown {w w':World} {base g gs:Nat} {k:Nat} (hk:k=g∨k=gs) (hb:base≤k) (h:w.grownBy w' (some k)) (hs:base≤w.heap.size):Mc w w' base g gs :=
 ⟨(Below.refl _ _).grown h hs (fun j hj=>by simp only [Option.some.injEq] at hj;omega),fun j h5 h1 h2=>h.block j h5 (fun e=>by simp only [Option.some.injEq] at e;rcases hk with rfl | rfl <;> omega)⟩
theorem Mc.mv {w w':World} {base g gs:Nat} (h:Mc w w' base g gs):Mv w w' base g gs:=⟨h.low,fun k cs t fr h1 h2 h3 _=>by rw [h.block k (heap_lt h3) h1 h2];exact h3,fun k o h1 h2 h3 _=>by rw [h.block k (heap_lt h3) h1 h2];exact h3⟩
end
section
open Go.RowKit
def newD (n:Nat):Dk:=⟨List.replicate n (List.replicate 64 0),[],0,false,0⟩
theorem infoBlockB:(Tryz.prog.info? 244).map (fun i=>(i.zero,i.size,i.bytes))=some (some (.agg (List.replicate 64 (Value.int .u8 0)).toArray),64,64):=by kernel_rfl
theorem zeros_cells:∀ n,scells (List.replicate n (List.replicate 64 0))=List.replicate (n * 64) (Value.int .u8 0)
 | 0=>rfl
 | n+1=>by
  have e:vb (List.replicate 64 0)=List.replicate 64 (Value.int .u8 0):=by simp [vb]
  rw [List.replicate_succ,scells,List.flatMap_cons,e]
  have:=zeros_cells n
  rw [scells] at this
  rw [this,List.replicate_append_replicate]
  congr 1
  omega
theorem made_zeros (m:Nat):(madeCells (List.replicate 64 (Value.int .u8 0)).toArray m).toList=List.replicate m (Value.int .u8 0):=by
 have hz:∀ k,(List.replicate 64 (Value.int .u8 0)).toArray[k % 64]! = Value.int .u8 0:=by
  intro k
  have hk:k % 64<64:=Nat.mod_lt _ (by omega)
  rw [getElem!_pos _ _ (by simpa using hk)]
  simp only [List.getElem_toArray,List.getElem_replicate]
 simp only [madeCells]
 apply List.ext_getElem
 ·simp
 ·intro i h1 h2
  rw [List.getElem_replicate]
  have e:(List.replicate 64 (Value.int .u8 0)).toArray.size=64:=by simp
  simp only [Array.toList_map,List.getElem_map,e,hz]
def NewTold (w w':World) (n:Int) (e:Ending):Prop :=
 (¬ (1≤n∧n≤512)∧e=.returned (.tuple #[.pointer none,.int .i64 2])) ∨
 ((1≤n∧n≤512)∧∃ g,e=.returned (.tuple #[.pointer (some ⟨g,0,none⟩),.int .i64 0])∧Disk w' w.heap.size g w.heap.size (.slice none 0 0) (newD n.toNat))
theorem sector_New (n:Int) (w:World):Calls Tryz.prog 5 #[.int .i64 n] w fun e w'=>Hid (NewTold w w' n e)∧Below w.heap.size w w':=by
 by_cases h1:n<1
 ·go_enter Tryz.func5,Tryz.ntmps5
  go_wp2
  go_returns
  exact ⟨.inl ⟨by omega,rfl⟩,Below.refl _ _⟩
 ·by_cases h2:512<n
  ·go_enter Tryz.func5,Tryz.ntmps5
   go_wp2
   go_returns
   exact ⟨.inl ⟨by omega,rfl⟩,Below.refl _ _⟩
  ·obtain ⟨m,rfl⟩:=Int.eq_ofNat_of_zero_le (show 0≤n by omega)
   have hm:m≤512:=by omega
   obtain ⟨i0,hi,hz0,hz1,hz2⟩:=info_parts infoBlockB
   go_enter Tryz.func5,Tryz.ntmps5
   go_wp2_with (at_make;refine wpList_make_full w (by rfl) (.tmp 10) (.tmp 10) 67 (by rfl) w.heap.size 244 i0 (.agg (List.replicate 64 (Value.int .u8 0)).toArray) 64 Tryz.underlying67 hi hz0 hz1 .i64 .i64 (m:Int) (m:Int) m (by rfl) (by rfl) rfl rfl (by rw [hz2];omega) (by unfold maxLen;omega) (Nat.le_refl _) ?_)
   intro w1 ho1 hg1
   have HB1:Hid (Below w.heap.size w w1):=(Below.refl _ _).grown hg1 (Nat.le_refl _) (fun k hk=>by cases hk)
   have hk1:Blk w1 w.heap.size (scells (List.replicate m (List.replicate 64 0))).toArray 244:=by
    rcases ho1.2 with ⟨h0,_⟩ | ⟨g',c',cur,h3,_,h5,_,_,h8,h9⟩
    ·cases h0
    ·simp only [Value.slice.injEq,Option.some.injEq,Addr.mk.injEq,and_true] at h3
     obtain ⟨rfl,_,rfl⟩:=h3
     rw [List.take_of_length_le (by rw [Array.length_toList,h8];exact Nat.le_refl _)] at h9
     unfold Blk
     rw [h5,zeros_cells,← made_zeros,← Array.toArray_toList (xs:=cur),h9]
     rfl
   have HK1:Hid (Blk w1 w.heap.size (scells (List.replicate m (List.replicate 64 0))).toArray 244):=hk1
   have HSE:Hid (∀ s∈List.replicate m (List.replicate 64 0),Sec s):=fun s hs=>by rw [List.eq_of_mem_replicate hs];exact ⟨by simp,fun b hb=>by rw [List.eq_of_mem_replicate hb];omega⟩
   clear ho1 hg1 hk1 hi hz0 hz1 hz2
   go_wp2
   go_returns
   refine ⟨.inr ⟨⟨by omega,by omega⟩,w1.heap.size,rfl,?_⟩,HB1.out.alloc HB1.out.size _⟩
   rw [Int.toNat_natCast]
   have hb2:=below_alloc w1 (.cells #[.slice (some ⟨w.heap.size,0,none⟩) m m,.slice none 0 0,.int .i64 0,.bool false,.int .i64 0] 70)
   refine ⟨?_,HK1.out.stay hb2,World.ownsRow_nil _ _ _ _,HB1.out.size,Nat.le_refl _,by rw [newD];simp only [List.length_replicate];exact hm,HSE.out,(fun p hp=>by cases hp),Nat.zero_le _,Nat.zero_le _,Nat.zero_le _⟩
   rw [newD]
   simp only [List.length_replicate]
   exact Blk.new _ _ _
theorem disk_Size (w:World) (base g gs:Nat) (wv:Value) (D:Dk) (h:Disk w base g gs wv D):Calls Tryz.prog 25 #[.pointer (some ⟨g,0,none⟩)] w fun e w'=>e=.returned (.int .i64 (D.sure.length:Int))∧w'=w:=by
 have c0:w.cell? ⟨g,0,none⟩=some (.slice (some ⟨gs,0,none⟩) D.sure.length D.sure.length):=h.blk.cell 0 rfl
 have hsz:=h.sz
 obtain ⟨n,hn⟩:∃ n,n=D.sure.length:=⟨_,rfl⟩
 rw [← hn] at c0 hsz ⊢
 clear h hn
 go_enter Tryz.func25,Tryz.ntmps25
 go_wp2
 go_ret
 exact ⟨rfl,rfl⟩
theorem disk_Down (w:World) (base g gs:Nat) (wv:Value) (D:Dk) (h:Disk w base g gs wv D):Calls Tryz.prog 26 #[.pointer (some ⟨g,0,none⟩)] w fun e w'=>e=.returned (.bool D.down)∧w'=w:=by
 have c3:w.cell? ⟨g,3,none⟩=some (.bool D.down):=h.blk.cell 3 rfl
 clear h
 go_enter Tryz.func26,Tryz.ntmps26
 go_wp2
 go_ret
 exact ⟨rfl,rfl⟩
theorem Rd.of_blk {w:World} {k:Nat} {bs:List Nat} {t:TypeId} (h:Blk w k (vb bs).toArray t) (hb:∀ b∈bs,b<256):Rd w (some ⟨k,0,none⟩) bs.length bs :=
 ⟨rfl,hb,.inr ⟨k,0,rfl,h.lt,fun i hi=>by rw [Nat.zero_add];exact h.cell i (by simpa using vb_at hi)⟩⟩
theorem Rd.of_row {w:World} {k:Nat} {bs:List Nat} {t:TypeId} {fr:Nat×Nat} (h:w.heap[k]? = some (.cells (vb bs).toArray t fr)) (hb:∀ b∈bs,b<256):Rd w (some ⟨k,0,none⟩) bs.length bs :=
 ⟨rfl,hb,.inr ⟨k,0,rfl,heap_lt h,fun i hi=>by rw [Nat.zero_add,cell_of_row w k i _ t fr h];simpa using vb_at hi⟩⟩
end
section
open Go.RowKit
def syncL:List (List Nat)→List (Nat×List Nat)→List (List Nat)
 | S,[] => S
 | S,p :: W=>syncL (S.set p.1 p.2) W
def syncE (D:Dk):Int:=if D.down=true then 10 else if tripsB D=true then 10 else 0
def syncD (D:Dk):Dk:=if D.down=true then D else if tripsB D=true then tripsD D else { tripsD D with sure:=syncL D.sure D.waits,waits:=[] }
theorem take_putHA {P:Program} {ops:Array Oper} {Q:Exit→Act→World→Prop} {S:World→Prop} {md:Region.Mode} {i:Nat} {oi:Oper} {v:Value} {fuel:Nat} {listed:Array Bool} {a:Act} {w:World} (d:Option Nat) (hi:ops[i]? = some oi) (hd:oi.dst=d)
  (hs:Region.noSelect ops=true) (hf:Region.free md ops listed i=true) (hr:(Region.ready md ops listed).contains i=true)
  (hQ:∀ c a w,Q (.panic c) (a.put d v) w→Q (.panic c) a w) (hy:YieldsIf P ops S oi v a) (hS:S w)
  (h:wpAnyH P md ops Q S fuel (listed.setIfInBounds i true) (a.put d v) w):wpAnyH P md ops Q S (fuel+1) listed a w:=by
 subst hd
 exact wpAnyH_take hi hs hf hr hQ hy hS h
theorem step_store_row {w:World} {ops:Array Oper} {op:Oper} {a:Act} {K:Act→World→Prop} {Q:Exit→Act→World→Prop} {E:Prop} (hgd:op.guard=none) (ty:TypeId) (x y:Operand) (ho:op.op=.store ty x y)
  (b o:Nat) (cs:List Value) (hx:a.eval x=.pointer (some ⟨b,o,none⟩)) (hy:a.eval y=.agg cs.toArray) (cur:List Value) (t:TypeId) (hb:Blk w b cur.toArray t) (hl:o+cs.length≤cur.length)
  (hi:(Tryz.prog.info? ty).map (·.size)=some cs.length) (h1:∀ v∈cs,v.oneCell'=true)
  (h:∀ w',Blk w' b (splice cur o cs).toArray t→w.grownBy w' (some b)→K (a.put op.dst undef) w'):if Region.wanted op (yielded ops a.tmps)=true then Oper.wp Tryz.prog op a w K Q else E:=by
 rw [if_pos (by simp [Region.wanted,hgd])]
 exact wp_store_row ty x y ho b o cs hx hy cur t hb hl hi h1 h
theorem Disk.whole {w w':World} {base g gs:Nat} {wv:Value} {D:Dk} (h:Disk w base g gs wv D) {i:Nat} {t:List Nat} (hi:i<D.sure.length) (ht:Sec t)
  (hb:Blk w' gs (splice (scells D.sure) (i * 64) (vb t)).toArray 244) (hg:w.grownBy w' (some gs)):Disk w' base g gs wv { D with sure:=D.sure.set i t }:=by
 have hs:D.sure[i]? = some D.sure[i]:=List.getElem?_eq_getElem hi
 have e:t.take 64++D.sure[i].drop 64=t:=by
  have h1:=(h.sec _ (List.getElem_mem hi)).len
  rw [List.take_of_length_le (by rw [ht.len];omega),List.drop_of_length_le (by rw [h1];omega),List.append_nil]
 have e2:t.take 64=t:=List.take_of_length_le (by rw [ht.len];omega)
 have:=h.torn hs ht (m:=64) (Nat.le_refl _) (by rw [e2];exact hb) hg
 rw [e] at this
 exact this
theorem Disk.emptied {w:World} {base g gs:Nat} {wv:Value} {D:Dk} (h:Disk w base g gs wv D) :
  Disk (w.setCell ⟨g,1,none⟩ (.slice none 0 0)) base g gs (.slice none 0 0) { D with waits:=[] }∧Mv w (w.setCell ⟨g,1,none⟩ (.slice none 0 0)) base g gs:=by
 obtain ⟨a1,a2,a3⟩:=h.apart
 have hg:=grown_cell w g 1 (.slice none 0 0)
 exact ⟨⟨h.blk.set 1 (.slice none 0 0),h.srow.grown hg (by simpa using a1.symm),World.ownsRow_nil _ _ _ _,h.bg,h.bs,h.sz,h.sec,(fun p hp=>by cases hp),h.tr,h.ag,Nat.zero_le _⟩,Mv.of_grown (.inl rfl) h.bg hg (Nat.le_trans h.bg (Nat.le_of_lt h.blk.lt))⟩
theorem disk_Sync (w:World) (base g gs:Nat) (wv:Value) (D:Dk) (h:Disk w base g gs wv D) :
  Calls Tryz.prog 98 #[.pointer (some ⟨g,0,none⟩)] w fun e w'=>e=.returned (.int .i64 (syncE D))∧Hid (∃ wv',Disk w' base g gs wv' (syncD D))∧Mv w w' base g gs:=by
 have HD:Hid (Disk w base g gs wv D):=h
 have c3:w.cell? ⟨g,3,none⟩=some (.bool D.down):=h.blk.cell 3 rfl
 obtain ⟨E,HE⟩:∃ E,Hid (E=syncE D):=⟨_,rfl⟩
 obtain ⟨D',HY⟩:∃ D',Hid (D'=syncD D):=⟨_,rfl⟩
 rw [← HE.out,← HY.out]
 clear h
 cases hd:D.down with
 | true =>
  rw [hd] at c3
  have HX:Hid (E=10∧D'=D):=⟨by rw [HE.out,syncE,if_pos hd],by rw [HY.out,syncD,if_pos hd]⟩
  clear hd
  go_enter Tryz.func98,Tryz.ntmps98
  go_wp2
  go_ret
  exact ⟨by rw [HX.out.1];rfl,⟨wv,by rw [HX.out.2];exact HD.out⟩,Mv.refl _ _ _ _⟩
 | false =>
  rw [hd] at c3
  have HDN:Hid (D.down=false):=hd
  clear hd
  go_enter Tryz.func98,Tryz.ntmps98
  go_wp2_with fail
  refine (disk_trips w base g gs wv D HD.out HDN.out).mono ?_
  rintro e w1 ⟨rfl,hd1,hm1⟩
  have HD1:Hid (Disk w1 base g gs wv (tripsD D)):=hd1
  have HM1:Hid (Mv w w1 base g gs):=hm1
  clear hd1 hm1
  cases ht:tripsB D with
  | true =>
   have HX:Hid (E=10∧D'=tripsD D):=⟨by rw [HE.out,syncE,HDN.out,if_neg (by decide),if_pos ht],by rw [HY.out,syncD,HDN.out,if_neg (by decide),if_pos ht]⟩
   clear ht
   go_wp2
   go_ret
   exact ⟨by rw [HX.out.1];rfl,⟨wv,by rw [HX.out.2];exact HD1.out⟩,HM1.out⟩
  | false =>
   have HX:Hid (E=0∧D'={ tripsD D with sure:=syncL (tripsD D).sure (tripsD D).waits,waits:=[] }):=⟨by rw [HE.out,syncE,HDN.out,if_neg (by decide),ht,if_neg (by decide)],by rw [HY.out,syncD,HDN.out,if_neg (by decide),ht,if_neg (by decide),trips_sure,trips_waits]⟩
   clear ht
   obtain ⟨T,hT⟩:∃ T,T=tripsD D:=⟨_,rfl⟩
   rw [← hT] at HX HD1
   clear hT
   obtain ⟨aw,nw,cw,rfl⟩:=own_slice HD1.out.wrow
   have HNW:Hid (nw=T.waits.length):=by
    rcases HD1.out.form with ⟨h0,a',c',h1⟩ | ⟨gw,c',h1,_⟩
    ·simp only [Value.slice.injEq] at h1;show _=_;rw [h0];exact h1.2.1
    ·simp only [Value.slice.injEq] at h1;exact h1.2.1
   have hwl:nw≤1000000000:=by rw [HNW.out];exact HD1.out.wl
   have c1:w1.cell? ⟨g,1,none⟩=some (.slice aw nw cw):=HD1.out.blk.cell 1 rfl
   obtain ⟨R,HR⟩:∃ R,Hid (R=syncL T.sure T.waits):=⟨_,rfl⟩
   rw [← HR.out] at HX
   go_wp2
   go_loopw [20] (fun t20 wr=>∃ (k:Nat) (S:List (List Nat)),k≤nw∧t20=.int .i64 (k:Int)∧Hid (R=syncL S (T.waits.drop k))∧Hid (Disk wr base g gs (.slice aw nw cw) { T with sure:=S })∧Hid (Mv w wr base g gs)) (fun t20 _=>nw - (intOf t20).toNat)
   case atStart=>exact ⟨0,T.sure,by omega,rfl,HR,HD1,HM1⟩
   case round =>
    obtain ⟨k,S,hk,rfl,HEE,HDr,HM⟩:=hrel
    by_cases hlt:k<nw
    ·have hlt':(k:Int)<(nw:Int):=by omega
     have hkw:k<T.waits.length:=by have:=HNW.out;omega
     obtain ⟨gw,rfl⟩:∃ gw,aw=some ⟨gw,0,none⟩:=by
      rcases HDr.out.form with ⟨h0,_⟩ | ⟨gw,c',h1,_⟩
      ·simp only at h0;rw [h0] at hkw;simp at hkw
      ·simp only [Value.slice.injEq] at h1;exact ⟨gw,h1.1⟩
     obtain ⟨p,hp⟩:∃ p,T.waits[k]? = some p:=⟨T.waits[k],List.getElem?_eq_getElem hkw⟩
     have HRG:Hid (wr.rangeAt gw (k * 65) (wcells p)):=HDr.out.wait hp
     have HPW:Hid (p.1<S.length∧Sec p.2):=HDr.out.wts p (List.mem_of_getElem? hp)
     have HWL:Hid ((wcells p).length=65):=wcells_len HPW.out.2
     have HPD:Hid (T.waits.drop k=p :: T.waits.drop (k+1)):=by
      show _=_
      rw [List.drop_eq_getElem_cons hkw]
      congr 1
      rw [List.getElem?_eq_getElem hkw] at hp
      exact Option.some.inj hp
     obtain ⟨Z,HZ⟩:∃ Z:List Value,Hid (Z=Value.int .i64 0 :: List.replicate 64 (Value.int .u8 0)):=⟨_,rfl⟩
     have HZL:Hid (Z.length=65):=by show _=_;rw [HZ.out];simp
     have HZI:Hid ((Tryz.prog.info? 246).map (fun i=>(i.zero,i.size))=some (some (.agg Z.toArray),65)):=by show _=_;rw [HZ.out];exact infoWriteZ
     have hk0:(0:Int)≤(k:Int):=by omega
     clear hp HZ hkw
     go_wp2_with (first
      | (guard_target =~ wpList _ _ _ (Oper.mk (some 23) _ _ _ _ _ :: _) _ _;refine wpList_load_mid rfl 246 (.tmp 22) rfl gw (k * 65) rfl (wcells p) _ HRG.out Tryz.underlying246 rfl (by rw [HWL.out];exact infoWrite) ?_)
      | (guard_target =~ wpList _ _ _ (Oper.mk (some 4) _ _ _ _ _ :: _) _ _;refine wpList_alloc_row rfl 246 rfl Z 65 HZI.out ?_))
     intro w2 hk2 hb2 hs2
     have HBr:Hid (base≤wr.heap.size):=Nat.le_trans HDr.out.bg (Nat.le_of_lt HDr.out.blk.lt)
     have HK2:Hid (Blk w2 wr.heap.size Z.toArray 246):=hk2
     have HB2:Hid (Below wr.heap.size wr w2):=hb2
     clear hk2 hb2 hs2
     go_wp2_with (guard_target =~ wpList _ _ _ (Oper.mk none _ _ _ _ _ :: _) _ _;refine wpList_store_row rfl 246 (.tmp 4) (.tmp 23) rfl wr.heap.size 0 (wcells p) rfl rfl Z 246 HK2.out (by rw [HWL.out,HZL.out];omega) (by rw [HWL.out];exact infoWrite) (wcells_one p) ?_)
     intro w3 hk3 hg3
     have HK3:Hid (Blk w3.drew wr.heap.size (wcells p).toArray 246):=by
      rw [splice_all Z (wcells p) (by rw [HZL.out,HWL.out])] at hk3
      exact hk3
     have HB3:Hid (Below wr.heap.size wr w3.drew):=(HB2.out.trans ((Below.refl _ _).grown hg3 HB2.out.size (fun k hk=>by simp only [Option.some.injEq] at hk;omega))).drew
     have HD3:Hid (Disk w3.drew base g gs (.slice (some ⟨gw,0,none⟩) nw cw) { T with sure:=S }):=HDr.out.stay HB3.out
     have HM3:Hid (Mv w w3.drew base g gs):=HM.out.trans (Mv.of_below g gs HB3.out HBr.out)
     clear hk3 hg3 HK2 HB2
     obtain ⟨pa,L⟩:=p
     obtain ⟨ns,hns⟩:∃ ns,ns=S.length:=⟨_,rfl⟩
     have hpa:pa<S.length:=HPW.out.1
     have HPA:Hid (pa<S.length):=hpa
     have HLS:Hid (Sec L):=HPW.out.2
     have HVL:Hid ((vb L).length=64):=by show _=_;rw [vb_length,HLS.out.len]
     obtain ⟨V,hV⟩:∃ V,V=vb L:=⟨_,rfl⟩
     have HVV:Hid (V=vb L):=hV
     rw [← hV] at HVL
     have c0:w3.drew.cell? ⟨g,0,none⟩=some (.slice (some ⟨gs,0,none⟩) ns ns):=by rw [hns];exact HD3.out.blk.cell 0 rfl
     have ca:w3.drew.cell? ⟨wr.heap.size,0,none⟩=some (.int .i64 (pa:Int)):=HK3.out.cell 0 rfl
     have cr:w3.drew.rangeAt wr.heap.size 1 V:=HK3.out.range 1 V (fun q v hq=>by rw [wcells,Nat.add_comm 1 q,List.getElem?_cons_succ];rw [hV] at hq;exact hq)
     have hnsb:ns≤512:=by rw [hns];exact HD3.out.sz
     have HSL:Hid (pa * 64+V.length≤(scells S).length):=by show _≤_;rw [scells_len S HD3.out.sec,HVL.out];omega
     have HA:Hid (g≠gs∧wr.heap.size≠gs):=⟨HD3.out.apart.1,fun e=>by have:=HDr.out.srow.lt;omega⟩
     have HV1:Hid (∀ v∈V,v.oneCell'=true):=by show ∀ v∈V,_;rw [hV];exact vb_one _
     rw [← hns] at hpa
     have q1:(0:Int)≤(pa:Int):=by omega
     have q2:(pa:Int)<(ns:Int):=by omega
     clear hns hV
     go_wp2
     refine wp_region_held_drew (S:=fun w'=>w'.cell? ⟨g,0,none⟩=some (.slice (some ⟨gs,0,none⟩) ns ns)∧w'.cell? ⟨wr.heap.size,0,none⟩=some (.int .i64 (pa:Int))∧w'.rangeAt wr.heap.size 1 V) (by kernel_rfl) ⟨c0,ca,cr⟩ (fun hHeld => ?_)
     generalize w3.drew=wd at *
     refine take_putHA (i:=0) (v:=?_) (some 24) rfl (by kernel_rfl) (by kernel_rfl) (by kernel_rfl) (by kernel_rfl) (fun _ _ _ h=>h) (Or.inl ⟨by rfl,?_⟩) hHeld ?_
     rotate_left
     ·(intro w hSw;obtain ⟨z0,z1,z2⟩:=hSw;clear z2;go_simp;try with_reducible rfl)
     try simp only [Act.put,List.setIfInBounds_toArray,List.set_cons_zero,List.set_cons_succ]
     refine take_putHA (i:=1) (v:=?_) (some 25) rfl (by kernel_rfl) (by kernel_rfl) (by kernel_rfl) (by kernel_rfl) (fun _ _ _ h=>h) (Or.inl ⟨by rfl,?_⟩) hHeld ?_
     rotate_left
     ·(intro w hSw;obtain ⟨z0,z1,z2⟩:=hSw;clear z2;go_simp;try with_reducible rfl)
     try simp only [Act.put,List.setIfInBounds_toArray,List.set_cons_zero,List.set_cons_succ]
     refine take_putHA (i:=2) (v:=?_) (some 26) rfl (by kernel_rfl) (by kernel_rfl) (by kernel_rfl) (by kernel_rfl) (fun _ _ _ h=>h) (Or.inl ⟨by rfl,?_⟩) hHeld ?_
     rotate_left
     ·(intro w hSw;obtain ⟨z0,z1,z2⟩:=hSw;clear z2;go_simp;try with_reducible rfl)
     try simp only [Act.put,List.setIfInBounds_toArray,List.set_cons_zero,List.set_cons_succ]
     refine take_putHA (i:=3) (v:=?_) (some 27) rfl (by kernel_rfl) (by kernel_rfl) (by kernel_rfl) (by kernel_rfl) (fun _ _ _ h=>h) (Or.inl ⟨by rfl,?_⟩) hHeld ?_
     rotate_left
     ·(intro w hSw;obtain ⟨z0,z1,z2⟩:=hSw;clear z2;go_simp;try with_reducible rfl)
     try simp only [Act.put,List.setIfInBounds_toArray,List.set_cons_zero,List.set_cons_succ]
     refine take_putHA (i:=4) (v:=?_) (some 28) rfl (by kernel_rfl) (by kernel_rfl) (by kernel_rfl) (by kernel_rfl) (fun _ _ _ h=>h) (Or.inl ⟨by rfl,?_⟩) hHeld ?_
     rotate_left
     ·(intro w hSw;obtain ⟨z0,z1,z2⟩:=hSw;clear z2;go_simp;try with_reducible rfl)
     try simp only [Act.put,List.setIfInBounds_toArray,List.set_cons_zero,List.set_cons_succ]
     refine take_putHA (i:=5) (v:=?_) (some 29) rfl (by kernel_rfl) (by kernel_rfl) (by kernel_rfl) (by kernel_rfl) (fun _ _ _ h=>h) (Or.inl ⟨by rfl,?_⟩) hHeld ?_
     rotate_left
     ·(intro w hSw;obtain ⟨z0,z1,z2⟩:=hSw;clear z2;go_simp;try with_reducible rfl)
     try simp only [Act.put,List.setIfInBounds_toArray,List.set_cons_zero,List.set_cons_succ]
     refine take_putHA (i:=6) (v:=?_) (some 30) rfl (by kernel_rfl) (by kernel_rfl) (by kernel_rfl) (by kernel_rfl) (fun _ _ _ h=>h) (Or.inl ⟨by rfl,?_⟩) hHeld ?_
     rotate_left
     ·(intro w hSw;obtain ⟨z0,z1,z2⟩:=hSw;clear z2;go_simp;try with_reducible rfl)
     try simp only [Act.put,List.setIfInBounds_toArray,List.set_cons_zero,List.set_cons_succ]
     refine take_putHA (i:=7) (v:=.agg V.toArray) (some 31) rfl (by kernel_rfl) (by kernel_rfl) (by kernel_rfl) (by kernel_rfl) (fun _ _ _ h=>h) (yieldsIf_load_mid (by rfl) 244 (.tmp 30) rfl wr.heap.size 1 rfl V _ (fun w h=>h.2.2) Tryz.underlying244 rfl (by rw [HVL.out];exact infoBlock)) hHeld ?_
     try simp only [Act.put,List.setIfInBounds_toArray,List.set_cons_zero,List.set_cons_succ]
     refine take_putHA (i:=8) (v:=?_) (some 32) rfl (by kernel_rfl) (by kernel_rfl) (by kernel_rfl) (by kernel_rfl) (fun _ _ _ h=>h) (Or.inl ⟨by rfl,?_⟩) hHeld ?_
     rotate_left
     ·(intro w hSw;obtain ⟨z0,z1,z2⟩:=hSw;clear z2;go_simp;try with_reducible rfl)
     try simp only [Act.put,List.setIfInBounds_toArray,List.set_cons_zero,List.set_cons_succ]
     refine wpAnyH_ready (rs:=[9]) (by kernel_rfl) (by simp) ?_
     refine AllReadyH.cons rfl (fun K hK => ?_) AllReadyH.nil
     refine step_store_row rfl 244 (.tmp 32) (.tmp 31) rfl gs (pa * 64) V rfl rfl (scells S) 244 HD3.out.srow HSL.out (by rw [HVL.out];exact infoBlock) HV1.out ?_
     intro w4 hk4 hg4
     have HD4:Hid (Disk w4 base g gs (.slice (some ⟨gw,0,none⟩) nw cw) { T with sure:=S.set pa L }):=by
      rw [HVV.out] at hk4
      exact HD3.out.whole HPA.out HLS.out hk4 hg4
     have HM4:Hid (Mv w w4 base g gs):=HM3.out.trans (Mv.of_grown (.inr rfl) HD3.out.bs hg4 (Nat.le_trans HD3.out.bg (Nat.le_of_lt HD3.out.blk.lt)))
     have HE4:Hid (R=syncL (S.set pa L) (T.waits.drop (k+1))):=by show _=_;rw [HEE.out,HPD.out,syncL]
     refine hK.out _ _ ⟨cell_far hg4 c0 HA.out.1,cell_far hg4 ca HA.out.2,fun q v hq=>cell_far hg4 (cr q v hq) HA.out.2⟩ (fun _ => ?_)
     clear hK K hHeld hk4 hg4 c0 ca cr
     try simp only [Act.put,List.getElem_toArray,List.getElem_cons_succ,List.getElem_cons_zero]
     refine wpAnyH_done (by kernel_rfl) ?_ _
     go_wp2
     go_roundw
     case rel=>exact ⟨k+1,_,by omega,by go_num,HE4,HD4,HM4⟩
     case measure=>simp [intOf];omega
    ·obtain rfl:k=nw:=by omega
     have HRS:Hid (R=S):=by
      show _=_
      rw [HEE.out,List.drop_of_length_le (by have:=HNW.out;omega)]
      rfl
     obtain ⟨HDF,HMF⟩:=HDr.out.emptied
     have HDF':Hid (Disk _ base g gs _ _):=HDF
     have HMF':Hid (Mv _ _ base g gs):=HMF
     have d1:wr.cell? ⟨g,1,none⟩=some (.slice aw k cw):=HDr.out.blk.cell 1 rfl
     have f1:=HDr.out.blk.free 1
     clear HDF HMF HEE
     go_wp2
     go_ret
     exact ⟨by rw [HX.out.1];rfl,⟨_,by rw [HX.out.2,HRS.out];exact HDF'.out⟩,HM.out.trans HMF'.out⟩
end
end Go.Proofs.YtoiennkfdjnkbaaGreatDoor
namespace Go.Proofs.YtoiennkfdjnkbaaGreatDoor.KeyM
theorem split_xor (k r:Nat):r=(r / 2 ^ k * 2 ^ k) ^^^ (r % 2 ^ k):=by
 apply Nat.eq_of_testBit_eq
 intro i
 rw [Nat.testBit_xor,Nat.testBit_mul_two_pow,Nat.testBit_mod_two_pow,Nat.testBit_div_two_pow]
 by_cases h:k≤i
 ·have h2:¬ i<k:=by omega
  simp [h,h2,show i - k+k=i from by omega]
 ·have h2:i<k:=by omega
  simp [h,h2]
theorem turn (y:Nat) (h:y<18446744073709551616):y ^^^ 9223372036854775808=(y+9223372036854775808) % 18446744073709551616:=by
 have add:∀ z,z<9223372036854775808→z+9223372036854775808=9223372036854775808 ^^^ z:=by
  intro z hz
  have:=split_xor 63 (z+9223372036854775808)
  rw [show (z+9223372036854775808) / 2 ^ 63=1 from by omega,show (z+9223372036854775808) % 2 ^ 63=z from by omega] at this
  simpa using this
 by_cases hs:y<9223372036854775808
 ·rw [Nat.xor_comm,← add y hs];omega
 ·obtain ⟨z,rfl⟩:∃ z,y=z+9223372036854775808:=⟨y - 9223372036854775808,by omega⟩
  rw [add z (by omega),Nat.xor_comm 9223372036854775808 z,Nat.xor_assoc,Nat.xor_self,Nat.xor_zero,Nat.xor_comm,← add z (by omega)]
  omega
def key (u:Nat):List Nat:=[u / 72057594037927936 % 256,u / 281474976710656 % 256,u / 1099511627776 % 256,u / 4294967296 % 256,u / 16777216 % 256,u / 65536 % 256,u / 256 % 256,u % 256]
def up (n:Int):Nat:=(n+9223372036854775808).toNat
def be (l:List Nat):Nat:=l.foldl (fun u c=>256 * u+c) 0
theorem key_byte (u:Nat):∀ x∈key u,x<256:=by
 intro x hx
 simp only [key,List.mem_cons,List.not_mem_nil,or_false] at hx
 rcases hx with rfl | rfl | rfl | rfl | rfl | rfl | rfl | rfl <;> omega
theorem be_snoc (l:List Nat) (c:Nat):be (l++[c])=256 * be l+c:=by simp [be]
theorem be_lt (l:List Nat) (h:∀ x∈l,x<256):be l<256 ^ l.length:=by
 unfold be
 have gen:∀ (l:List Nat) (u k:Nat),(∀ x∈l,x<256)→u<256 ^ k→l.foldl (fun u c=>256 * u+c) u<256 ^ (k+l.length):=by
  intro l
  induction l with
  | nil=>intro u k _ hu;simpa using hu
  | cons c r ih =>
   intro u k hl hu
   have hc:=hl c (by simp)
   have:=ih (256 * u+c) (k+1) (fun x hx=>hl x (by simp [hx])) (by rw [Nat.pow_succ];omega)
   rw [List.foldl_cons,List.length_cons,show k+(r.length+1)=k+1+r.length from by omega]
   exact this
 have:=gen l 0 0 h (by simp)
 simpa using this
def take (bs:List Nat) (x:Int):Int×Nat×Nat :=
 if x<0∨(bs.length:Int)<x then (0,0,2)
 else if (bs.length:Int) - x<8 then (0,0,3)
 else ((be ((bs.drop x.toNat).take 8):Int) - 9223372036854775808,x.toNat+8,0)
end Go.Proofs.YtoiennkfdjnkbaaGreatDoor.KeyM
