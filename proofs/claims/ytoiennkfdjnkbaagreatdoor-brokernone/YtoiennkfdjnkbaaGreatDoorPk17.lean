import Derived.RangeFuncNested
import Derived.RangeFuncBound
import Derived.RangeFuncCalls
import Derived.RangeFuncLeaves
import Derived.Shelf.Abstract
import Derived.Shelf.RegionOpen
import Derived.WalkKit
import Derived.OwnWalkIn
import Derived.TacticsInMore
import Derived.LoopNIn
import Derived.LoopIn
import Derived.RegionIn
import Derived.Sort.CutIn
import Derived.Test.YtoiennkfdjnkbaaGreatDoorBr7
import Derived.Test.YtoiennkfdjnkbaaGreatDoorPk15
set_option maxRecDepth 100000
set_option maxHeartbeats 8000000
namespace Go.Proofs.YtoiennkfdjnkbaaGreatDoor
section
open Go.RowKit Go.Shelf
attribute [local go_sem] Oper.semAt_some
def Kp (K:Nat→Prop) (w w':World):Prop:=w.heap.size≤w'.heap.size∧∀ k,K k→w'.heap[k]? = w.heap[k]?
theorem Kp.refl (K:Nat→Prop) (w:World):Kp K w w:=⟨Nat.le_refl _,fun _ _=>rfl⟩
theorem Kp.trans {K:Nat→Prop} {w w1 w2:World} (a:Kp K w w1) (b:Kp K w1 w2):Kp K w w2:=⟨Nat.le_trans a.1 b.1,fun k hk=>(b.2 k hk).trans (a.2 k hk)⟩
theorem Kp.of_below {K:Nat→Prop} {w w1:World} (hK:∀ k,K k→k<w.heap.size) (a:Below w.heap.size w w1):Kp K w w1:=⟨a.size,fun k hk=>a.block k (hK k hk)⟩
theorem Kp.cell {K:Nat→Prop} {w w1:World} (a:Kp K w w1) {g i:Nat} (hg:K g):w1.cell? ⟨g,i,none⟩=w.cell? ⟨g,i,none⟩:=World.cell?_of_block (a.2 g hg)
def asF (dec:Nat→Bool) (n k:Nat):List (Fin n):=((List.finRange n).take k).filter fun j=>dec j.1
theorem asF.step (dec:Nat→Bool) (n k:Nat) (h:k<n):asF dec n (k+1)=asF dec n k++(if dec k then [⟨k,h⟩] else []):=by
 unfold asF
 rw [List.take_succ_eq_append_getElem (by simpa using h),List.filter_append]
 congr 1
 by_cases hd:dec k <;> simp [hd]
theorem asF.len (dec:Nat→Bool) (n k:Nat):(asF dec n k).length≤k:=by
 refine Nat.le_trans (List.length_filter_le _ _) ?_
 rw [List.length_take]
 exact Nat.min_le_left _ _
theorem asF.pre (dec:Nat→Bool) (n k:Nat):asF dec n k <+: asF dec n n:=by
 unfold asF
 rw [List.take_of_length_le (i:=n) (by simp)]
 exact (List.take_prefix _ _).filter _
def encS (Ss:Nat→Int×Int×Nat×Nat) (n:Nat) (j:Fin n):Array Value:=#[.int .i64 ((j.1:Int)+1),.agg #[.int .i64 (Ss j.1).1,.int .i64 (Ss j.1).2.1,.slice (some ⟨(Ss j.1).2.2.1,0,none⟩) 1 (Ss j.1).2.2.2]]
theorem subs_stops (n:Nat) (hn:3≤n) (K:Nat→Prop) (bt bf gs len c:Nat) (Ss:Nat→Int×Int×Nat×Nat) (fk:Nat) (cp0:Value) (dec:Nat→Bool) (w:World)
  (k1:K bt) (k2:K bf) (k3:K gs) (hK:∀ k,K k→k<w.heap.size)
  (hbt:w.cell? ⟨bt,3,none⟩=some (.slice (some ⟨gs,0,none⟩) len c)) (hbf:w.cell? ⟨bf,0,none⟩=some (.func (.func fk) #[] #[cp0])) (hl:len≤1000) (hent:∀ (vs:Array Value) (W:World),(callFunc fk vs).run Tryz.prog W=.ok (.enter fk vs) W)
  (hs:∀ j,j<len→w.cell? ⟨gs,j * 3,none⟩=some (.int .i64 (Ss j).1)∧w.cell? ⟨gs,j * 3+1,none⟩=some (.int .i64 (Ss j).2.1)∧w.cell? ⟨gs,j * 3+2,none⟩=some (.slice (some ⟨(Ss j).2.2.1,0,none⟩) 1 (Ss j).2.2.2))
  (hask:∀ j,j<len→∀ W,Kp K w W→Calls Tryz.prog fk #[.agg #[.int .i64 (Ss j).1,.int .i64 (Ss j).2.1,.slice (some ⟨(Ss j).2.2.1,0,none⟩) 1 (Ss j).2.2.2],cp0] W fun e W'=>e=.returned (.bool (dec j))∧Below W.heap.size W W') :
  SeqStopsK Fence.wide n Tryz.prog 136 #[.pointer (some ⟨bt,0,none⟩),.pointer (some ⟨bf,0,none⟩)] (encS Ss len) (Kp K) (fun xs=>xs=asF dec len len) (fun pre=>pre <+: asF dec len len) len w:=fun l J Jx W hW hJ hJx hY h0=>by
 refine callsIn_of_wp Tryz.func136 rfl trivial ?_ rfl
 simp only [Tryz.ntmps136,List.size_toArray,List.length_cons,List.length_nil,Nat.reduceAdd,Nat.reduceSub,Array.replicate_succ,Array.replicate_zero,List.push_toArray,List.append_toArray,List.nil_append,List.cons_append]
 have HW:Hid (Kp K w W):=Kp.of_below hK hW
 have c3:W.cell? ⟨bt,3,none⟩=some (.slice (some ⟨gs,0,none⟩) len c):=(HW.out.cell k1).trans hbt
 gi_wp2
 gi_loopw [9] (fun i wr=>∃ k:Nat,k≤len∧i=.int .i64 k∧Hid (J (asF dec len k) wr)∧Hid (Kp K w wr)) (fun i _=>len - (intOf i).toNat)
 case atStart=>exact ⟨0,Nat.zero_le _,rfl,h0,HW⟩
 case round =>
  obtain ⟨k,hk,rfl,HJs,HKp⟩:=hrel
  by_cases hlt:k<len
  ·have d0:=(HKp.out.cell (i:=0) k2).trans hbf
   obtain ⟨e0,e1,e2⟩:=hs k hlt
   have s0:=(HKp.out.cell (i:=k * 3) k3).trans e0
   have s1:=(HKp.out.cell (i:=k * 3+1) k3).trans e1
   have s2:=(HKp.out.cell (i:=k * 3+2) k3).trans e2
   obtain ⟨⟨i0,i1,gv,cv⟩,hv⟩:∃ p,p=Ss k:=⟨_,rfl⟩
   have HA:=hask k hlt
   rw [← hv] at s0 s1 s2 HA
   simp only at s0 s1 s2 HA
   have HV:Hid (Ss k=(i0,i1,gv,cv)):=hv.symm
   obtain ⟨W1,HW1⟩:∃ W,Hid (W=wr.alloc (.cells #[.int .i64 i0,.int .i64 i1,.slice (some ⟨gv,0,none⟩) 1 cv] 36)):=⟨_,rfl⟩
   have HB1:Hid (Below wr.heap.size wr W1):=by (show Below _ _ _);rw [HW1.out];exact below_alloc _ _
   have HX1:Hid (Row1 W1 wr.heap.size 36 [.int .i64 i0,.int .i64 i1,.slice (some ⟨gv,0,none⟩) 1 cv]):=by (show Row1 _ _ _ _);rw [HW1.out];exact Row1.of (Blk.new _ _ _)
   have HKR:Hid (∀ k,K k→k<wr.heap.size):=fun q hq=>Nat.lt_of_lt_of_le (hK q hq) HKp.out.1
   have HK1:Hid (Kp K w W1):=HKp.out.trans (Kp.of_below HKR.out HB1.out)
   have HA1:=HA W1 HK1.out
   have q0:W1.cell? ⟨wr.heap.size,0,none⟩=some (.int .i64 i0):=HX1.out.cell 0 rfl
   have q1:W1.cell? ⟨wr.heap.size,1,none⟩=some (.int .i64 i1):=HX1.out.cell 1 rfl
   have q2:W1.cell? ⟨wr.heap.size,2,none⟩=some (.slice (some ⟨gv,0,none⟩) 1 cv):=HX1.out.cell 2 rfl
   have HYY:Hid (∀ W2,Below W1.heap.size W1 W2→YieldAt Fence.wide (n - 1) Tryz.prog l #[.int .i64 ((k:Int)+1),.agg #[.int .i64 i0,.int .i64 i1,.slice (some ⟨gv,0,none⟩) 1 cv]] W2 fun e W'=>(e=.returned (.bool true)∧J (asF dec len k++[⟨k,hlt⟩]) W'∧Kp K W2 W')∨(e=.returned (.bool false)∧Jx (asF dec len k++[⟨k,hlt⟩]) W')):=fun W2 hb=>by
    have hb2:Below wr.heap.size wr W2:=HB1.out.trans (hb.mono HB1.out.size)
    have h1:=hY (asF dec len k) ⟨k,hlt⟩ W2 (hJ _ wr W2 none HJs.out ⟨hb2.os,hb2.tape,hb2.output,hb2.size,fun q hq _=>hb2.block q hq⟩ (fun r e=>by cases e)) (by have:=asF.len dec len k;omega)
    unfold encS at h1
    simp only at h1
    rw [← hv] at h1
    exact h1
   have HDB:Hid (∀ b,dec k=b→asF dec len (k+1)=asF dec len k++(if b then [⟨k,hlt⟩] else [])):=fun b hb=>by rw [asF.step dec len k hlt,hb]
   obtain ⟨D,hD⟩:∃ D,D=dec k:=⟨_,rfl⟩
   rw [← hD] at HA1
   clear hv HA hask hs hY e0 e1 e2
   gi_upto_region 3 with fail
   rw [← HW1.out]
   clear s0 s1 s2 c3 d0
   have d1:W1.cell? ⟨bf,0,none⟩=some (.func (.func fk) #[] #[cp0]):=(HK1.out.cell (i:=0) k2).trans hbf
   gi_wp2_with fail
   refine ⟨trivial,?_⟩
   gi_wp2_with fail
   refine ⟨fun _=>by omega,(callsIn_wide.2 HA1).mono ?_⟩
   rintro e W2 ⟨rfl,hb2⟩
   have HB2:Hid (Below W1.heap.size W1 W2):=hb2
   have HX2:Hid (Row1 W2 wr.heap.size 36 [.int .i64 i0,.int .i64 i1,.slice (some ⟨gv,0,none⟩) 1 cv]):=HX1.out.stay hb2
   have HK2:Hid (Kp K w W2):=HK1.out.trans (Kp.of_below (fun q hq=>Nat.lt_of_lt_of_le (HKR.out q hq) HB1.out.size) hb2)
   have hY2:=HYY.out W2 hb2
   have hJ2:Hid (J (asF dec len k) W2):=by
    have hb3:Below wr.heap.size wr W2:=HB1.out.trans (hb2.mono HB1.out.size)
    exact hJ _ wr W2 none HJs.out ⟨hb3.os,hb3.tape,hb3.output,hb3.size,fun q hq _=>hb3.block q hq⟩ (fun r e=>by cases e)
   clear hb2 HA1 q0 q1 q2 d1
   have p0:W2.cell? ⟨wr.heap.size,0,none⟩=some (.int .i64 i0):=HX2.out.cell 0 rfl
   have p1:W2.cell? ⟨wr.heap.size,1,none⟩=some (.int .i64 i1):=HX2.out.cell 1 rfl
   have p2:W2.cell? ⟨wr.heap.size,2,none⟩=some (.slice (some ⟨gv,0,none⟩) 1 cv):=HX2.out.cell 2 rfl
   have HDD:Hid (D=dec k):=hD
   clear hD
   cases D with
   | false =>
    have HST:=HDB.out false HDD.out.symm
    gi_wp2_with fail
    refine ⟨fun _ h=>(by cases h),?_⟩
    gi_wp2
    go_roundw
    case rel=>exact ⟨k+1,by omega,by go_num,(by (show J _ _);rw [HST];simpa using hJ2.out),HK2⟩
    case measure=>simp [intOf];omega
   | true =>
    have HST:=HDB.out true HDD.out.symm
    obtain ⟨fn,tmps,assign,body,hy,hR⟩:=hY2
    gi_wp2_with fail
    refine ⟨fun _=>by omega,hR.mono ?_⟩
    rintro e W3 (⟨rfl,hJ3,hk3⟩ | ⟨rfl,hJx3⟩)
    ·gi_wp2
     go_roundw
     case rel=>exact ⟨k+1,by omega,by go_num,(by (show J _ _);rw [HST];simpa using hJ3),HK2.out.trans hk3⟩
     case measure=>simp [intOf];omega
    ·gi_wp2
     refine bodyPost_ret (results_none rfl _ _ _) rfl ?_
     exact ⟨⟨_,rfl⟩,.inr ⟨asF dec len (k+1),asF.pre _ _ _,by rw [HST];simpa using hJx3⟩⟩
  ·obtain rfl:k=len:=by omega
   gi_wp2
   go_end0
   exact ⟨⟨_,rfl⟩,.inl ⟨_,rfl,HJs.out⟩⟩
theorem subs_stops2 (n:Nat) (hn:3≤n) (K:Nat→Prop) (bt bf gs len c:Nat) (Ss:Nat→Int×Int×Nat×Nat) (fk:Nat) (cp0 cp1:Value) (dec:Nat→Bool) (w:World)
  (k1:K bt) (k2:K bf) (k3:K gs) (hK:∀ k,K k→k<w.heap.size)
  (hbt:w.cell? ⟨bt,3,none⟩=some (.slice (some ⟨gs,0,none⟩) len c)) (hbf:w.cell? ⟨bf,0,none⟩=some (.func (.func fk) #[] #[cp0,cp1])) (hl:len≤1000) (hent:∀ (vs:Array Value) (W:World),(callFunc fk vs).run Tryz.prog W=.ok (.enter fk vs) W)
  (hs:∀ j,j<len→w.cell? ⟨gs,j * 3,none⟩=some (.int .i64 (Ss j).1)∧w.cell? ⟨gs,j * 3+1,none⟩=some (.int .i64 (Ss j).2.1)∧w.cell? ⟨gs,j * 3+2,none⟩=some (.slice (some ⟨(Ss j).2.2.1,0,none⟩) 1 (Ss j).2.2.2))
  (hask:∀ j,j<len→∀ W,Kp K w W→Calls Tryz.prog fk #[.agg #[.int .i64 (Ss j).1,.int .i64 (Ss j).2.1,.slice (some ⟨(Ss j).2.2.1,0,none⟩) 1 (Ss j).2.2.2],cp0,cp1] W fun e W'=>e=.returned (.bool (dec j))∧Below W.heap.size W W') :
  SeqStopsK Fence.wide n Tryz.prog 136 #[.pointer (some ⟨bt,0,none⟩),.pointer (some ⟨bf,0,none⟩)] (encS Ss len) (Kp K) (fun xs=>xs=asF dec len len) (fun pre=>pre <+: asF dec len len) len w:=fun l J Jx W hW hJ hJx hY h0=>by
 refine callsIn_of_wp Tryz.func136 rfl trivial ?_ rfl
 simp only [Tryz.ntmps136,List.size_toArray,List.length_cons,List.length_nil,Nat.reduceAdd,Nat.reduceSub,Array.replicate_succ,Array.replicate_zero,List.push_toArray,List.append_toArray,List.nil_append,List.cons_append]
 have HW:Hid (Kp K w W):=Kp.of_below hK hW
 have c3:W.cell? ⟨bt,3,none⟩=some (.slice (some ⟨gs,0,none⟩) len c):=(HW.out.cell k1).trans hbt
 gi_wp2
 gi_loopw [9] (fun i wr=>∃ k:Nat,k≤len∧i=.int .i64 k∧Hid (J (asF dec len k) wr)∧Hid (Kp K w wr)) (fun i _=>len - (intOf i).toNat)
 case atStart=>exact ⟨0,Nat.zero_le _,rfl,h0,HW⟩
 case round =>
  obtain ⟨k,hk,rfl,HJs,HKp⟩:=hrel
  by_cases hlt:k<len
  ·have d0:=(HKp.out.cell (i:=0) k2).trans hbf
   obtain ⟨e0,e1,e2⟩:=hs k hlt
   have s0:=(HKp.out.cell (i:=k * 3) k3).trans e0
   have s1:=(HKp.out.cell (i:=k * 3+1) k3).trans e1
   have s2:=(HKp.out.cell (i:=k * 3+2) k3).trans e2
   obtain ⟨⟨i0,i1,gv,cv⟩,hv⟩:∃ p,p=Ss k:=⟨_,rfl⟩
   have HA:=hask k hlt
   rw [← hv] at s0 s1 s2 HA
   simp only at s0 s1 s2 HA
   have HV:Hid (Ss k=(i0,i1,gv,cv)):=hv.symm
   obtain ⟨W1,HW1⟩:∃ W,Hid (W=wr.alloc (.cells #[.int .i64 i0,.int .i64 i1,.slice (some ⟨gv,0,none⟩) 1 cv] 36)):=⟨_,rfl⟩
   have HB1:Hid (Below wr.heap.size wr W1):=by (show Below _ _ _);rw [HW1.out];exact below_alloc _ _
   have HX1:Hid (Row1 W1 wr.heap.size 36 [.int .i64 i0,.int .i64 i1,.slice (some ⟨gv,0,none⟩) 1 cv]):=by (show Row1 _ _ _ _);rw [HW1.out];exact Row1.of (Blk.new _ _ _)
   have HKR:Hid (∀ k,K k→k<wr.heap.size):=fun q hq=>Nat.lt_of_lt_of_le (hK q hq) HKp.out.1
   have HK1:Hid (Kp K w W1):=HKp.out.trans (Kp.of_below HKR.out HB1.out)
   have HA1:=HA W1 HK1.out
   have q0:W1.cell? ⟨wr.heap.size,0,none⟩=some (.int .i64 i0):=HX1.out.cell 0 rfl
   have q1:W1.cell? ⟨wr.heap.size,1,none⟩=some (.int .i64 i1):=HX1.out.cell 1 rfl
   have q2:W1.cell? ⟨wr.heap.size,2,none⟩=some (.slice (some ⟨gv,0,none⟩) 1 cv):=HX1.out.cell 2 rfl
   have HYY:Hid (∀ W2,Below W1.heap.size W1 W2→YieldAt Fence.wide (n - 1) Tryz.prog l #[.int .i64 ((k:Int)+1),.agg #[.int .i64 i0,.int .i64 i1,.slice (some ⟨gv,0,none⟩) 1 cv]] W2 fun e W'=>(e=.returned (.bool true)∧J (asF dec len k++[⟨k,hlt⟩]) W'∧Kp K W2 W')∨(e=.returned (.bool false)∧Jx (asF dec len k++[⟨k,hlt⟩]) W')):=fun W2 hb=>by
    have hb2:Below wr.heap.size wr W2:=HB1.out.trans (hb.mono HB1.out.size)
    have h1:=hY (asF dec len k) ⟨k,hlt⟩ W2 (hJ _ wr W2 none HJs.out ⟨hb2.os,hb2.tape,hb2.output,hb2.size,fun q hq _=>hb2.block q hq⟩ (fun r e=>by cases e)) (by have:=asF.len dec len k;omega)
    unfold encS at h1
    simp only at h1
    rw [← hv] at h1
    exact h1
   have HDB:Hid (∀ b,dec k=b→asF dec len (k+1)=asF dec len k++(if b then [⟨k,hlt⟩] else [])):=fun b hb=>by rw [asF.step dec len k hlt,hb]
   obtain ⟨D,hD⟩:∃ D,D=dec k:=⟨_,rfl⟩
   rw [← hD] at HA1
   clear hv HA hask hs hY e0 e1 e2
   gi_upto_region 3 with fail
   rw [← HW1.out]
   clear s0 s1 s2 c3 d0
   have d1:W1.cell? ⟨bf,0,none⟩=some (.func (.func fk) #[] #[cp0,cp1]):=(HK1.out.cell (i:=0) k2).trans hbf
   gi_wp2_with fail
   refine ⟨trivial,?_⟩
   gi_wp2_with fail
   refine ⟨fun _=>by omega,(callsIn_wide.2 HA1).mono ?_⟩
   rintro e W2 ⟨rfl,hb2⟩
   have HB2:Hid (Below W1.heap.size W1 W2):=hb2
   have HX2:Hid (Row1 W2 wr.heap.size 36 [.int .i64 i0,.int .i64 i1,.slice (some ⟨gv,0,none⟩) 1 cv]):=HX1.out.stay hb2
   have HK2:Hid (Kp K w W2):=HK1.out.trans (Kp.of_below (fun q hq=>Nat.lt_of_lt_of_le (HKR.out q hq) HB1.out.size) hb2)
   have hY2:=HYY.out W2 hb2
   have hJ2:Hid (J (asF dec len k) W2):=by
    have hb3:Below wr.heap.size wr W2:=HB1.out.trans (hb2.mono HB1.out.size)
    exact hJ _ wr W2 none HJs.out ⟨hb3.os,hb3.tape,hb3.output,hb3.size,fun q hq _=>hb3.block q hq⟩ (fun r e=>by cases e)
   clear hb2 HA1 q0 q1 q2 d1
   have p0:W2.cell? ⟨wr.heap.size,0,none⟩=some (.int .i64 i0):=HX2.out.cell 0 rfl
   have p1:W2.cell? ⟨wr.heap.size,1,none⟩=some (.int .i64 i1):=HX2.out.cell 1 rfl
   have p2:W2.cell? ⟨wr.heap.size,2,none⟩=some (.slice (some ⟨gv,0,none⟩) 1 cv):=HX2.out.cell 2 rfl
   have HDD:Hid (D=dec k):=hD
   clear hD
   cases D with
   | false =>
    have HST:=HDB.out false HDD.out.symm
    gi_wp2_with fail
    refine ⟨fun _ h=>(by cases h),?_⟩
    gi_wp2
    go_roundw
    case rel=>exact ⟨k+1,by omega,by go_num,(by (show J _ _);rw [HST];simpa using hJ2.out),HK2⟩
    case measure=>simp [intOf];omega
   | true =>
    have HST:=HDB.out true HDD.out.symm
    obtain ⟨fn,tmps,assign,body,hy,hR⟩:=hY2
    gi_wp2_with fail
    refine ⟨fun _=>by omega,hR.mono ?_⟩
    rintro e W3 (⟨rfl,hJ3,hk3⟩ | ⟨rfl,hJx3⟩)
    ·gi_wp2
     go_roundw
     case rel=>exact ⟨k+1,by omega,by go_num,(by (show J _ _);rw [HST];simpa using hJ3),HK2.out.trans hk3⟩
     case measure=>simp [intOf];omega
    ·gi_wp2
     refine bodyPost_ret (results_none rfl _ _ _) rfl ?_
     exact ⟨⟨_,rfl⟩,.inr ⟨asF dec len (k+1),asF.pre _ _ _,by rw [HST];simpa using hJx3⟩⟩
  ·obtain rfl:k=len:=by omega
   gi_wp2
   go_end0
   exact ⟨⟨_,rfl⟩,.inl ⟨_,rfl,HJs.out⟩⟩
end
section
open Go.RowKit Go.Shelf
def broC (gp cp gs cs g:Nat) (age:Int) (ml mp ms:Nat):List Value:=[.int .i64 1,.slice none 0 0,.slice (some ⟨gp,0,none⟩) 1 cp,.slice (some ⟨gs,0,none⟩) 1 cs,.slice none 0 0,.int .i64 0,.pointer (some ⟨g,0,none⟩),.int .i64 age,.map (some ml),.map (some mp),.map (some ms)]
theorem br_subs (gp cp gs cs:Nat) (fk:Nat) (c0:Value) (w:World):Calls Tryz.prog 81 #[tpV gp cp gs cs,.func (.func fk) #[] #[c0]] w fun e w'=>e=.returned (.func (.func 136) #[] #[.pointer (some ⟨w.heap.size,0,none⟩),.pointer (some ⟨w.heap.size+1,0,none⟩)])∧Row1 w' w.heap.size 40 (tpC gp cp gs cs)∧Row1 w' (w.heap.size+1) 152 [.func (.func fk) #[] #[c0]] ∧ Below w.heap.size w w'∧w'.heap.size=w.heap.size+2:=by
 unfold tpV
 go_enter Tryz.func81,Tryz.ntmps81
 go_wp2
 go_ret
 have hb1:=below_alloc w (.cells #[.int .i64 1,.slice none 0 0,.slice (some ⟨gp,0,none⟩) 1 cp,.slice (some ⟨gs,0,none⟩) 1 cs,.slice none 0 0] 40)
 have hb2:=below_alloc (w.alloc (.cells #[.int .i64 1,.slice none 0 0,.slice (some ⟨gp,0,none⟩) 1 cp,.slice (some ⟨gs,0,none⟩) 1 cs,.slice none 0 0] 40)) (.cells #[.func (.func fk) #[] #[c0]] 152)
 refine ⟨rfl,Row1.of ((Blk.new w _ _).stay hb2),?_,hb1.trans (hb2.mono hb1.size),by simp⟩
 have:=Blk.new (w.alloc (.cells #[.int .i64 1,.slice none 0 0,.slice (some ⟨gp,0,none⟩) 1 cp,.slice (some ⟨gs,0,none⟩) 1 cs,.slice none 0 0] 40)) #[.func (.func fk) #[] #[c0]] 152
 exact Row1.of (by simpa using this)
theorem br_subs2 (gp cp gs cs:Nat) (fk:Nat) (c0 c1:Value) (w:World):Calls Tryz.prog 81 #[tpV gp cp gs cs,.func (.func fk) #[] #[c0,c1]] w fun e w'=>e=.returned (.func (.func 136) #[] #[.pointer (some ⟨w.heap.size,0,none⟩),.pointer (some ⟨w.heap.size+1,0,none⟩)])∧Row1 w' w.heap.size 40 (tpC gp cp gs cs)∧Row1 w' (w.heap.size+1) 152 [.func (.func fk) #[] #[c0,c1]] ∧ Below w.heap.size w w'∧w'.heap.size=w.heap.size+2:=by
 unfold tpV
 go_enter Tryz.func81,Tryz.ntmps81
 go_wp2
 go_ret
 have hb1:=below_alloc w (.cells #[.int .i64 1,.slice none 0 0,.slice (some ⟨gp,0,none⟩) 1 cp,.slice (some ⟨gs,0,none⟩) 1 cs,.slice none 0 0] 40)
 have hb2:=below_alloc (w.alloc (.cells #[.int .i64 1,.slice none 0 0,.slice (some ⟨gp,0,none⟩) 1 cp,.slice (some ⟨gs,0,none⟩) 1 cs,.slice none 0 0] 40)) (.cells #[.func (.func fk) #[] #[c0,c1]] 152)
 refine ⟨rfl,Row1.of ((Blk.new w _ _).stay hb2),?_,hb1.trans (hb2.mono hb1.size),by simp⟩
 have:=Blk.new (w.alloc (.cells #[.int .i64 1,.slice none 0 0,.slice (some ⟨gp,0,none⟩) 1 cp,.slice (some ⟨gs,0,none⟩) 1 cs,.slice none 0 0] 40)) #[.func (.func fk) #[] #[c0,c1]] 152
 exact Row1.of (by simpa using this)
theorem br_askHere (gb gx gp cp gs cs g:Nat) (age:Int) (ml mp ms:Nat) (b p:Int) (gt ct:Nat) (w:World) (hb:Row1 w gb 79 (broC gp cp gs cs g age ml mp ms)) (hx:Row1 w gx 27 [.pointer (some ⟨gb,0,none⟩)]) :
  Calls Tryz.prog 122 #[.agg #[.int .i64 b,.int .i64 p,.slice (some ⟨gt,0,none⟩) 1 ct],.pointer (some ⟨gx,0,none⟩)] w fun e w'=>e=.returned (.bool (decide (b=0)))∧Below w.heap.size w w':=by
 obtain ⟨W1,HW1⟩:∃ W,Hid (W=w.alloc (.cells #[.int .i64 b,.int .i64 p,.slice (some ⟨gt,0,none⟩) 1 ct] 36)):=⟨_,rfl⟩
 have HB1:Hid (Below w.heap.size w W1):=by (show Below _ _ _);rw [HW1.out];exact below_alloc _ _
 have HK1:Hid (Row1 W1 w.heap.size 36 [.int .i64 b,.int .i64 p,.slice (some ⟨gt,0,none⟩) 1 ct]):=by (show Row1 _ _ _ _);rw [HW1.out];exact Row1.of (Blk.new _ _ _)
 have z0:W1.cell? ⟨w.heap.size,0,none⟩=some (.int .i64 b):=HK1.out.cell 0 rfl
 have z1:W1.cell? ⟨gx,0,none⟩=some (.pointer (some ⟨gb,0,none⟩)):=(hx.stay HB1.out).cell 0 rfl
 have z2:W1.cell? ⟨gb,5,none⟩=some (.int .i64 0):=(hb.stay HB1.out).cell 5 rfl
 clear hb hx
 go_enter Tryz.func122,Tryz.ntmps122
 go_upto_region 1 with fail
 rw [← HW1.out]
 go_quiet (fail)
 generalize hnq:W1.drewN _=wN
 have HBN:Hid (Below w.heap.size w wN):=by (show Below _ _ _);rw [← hnq];exact below_drewN HB1.out _
 clear hnq z0 z1 z2
 go_wp2
 go_returns
 exact ⟨by rfl,HBN.out⟩
theorem br_askOf (gx:Nat) (q b p:Int) (gt ct:Nat) (w:World) (hx:Row1 w gx 3 [.int .i64 q]) :
  Calls Tryz.prog 186 #[.agg #[.int .i64 b,.int .i64 p,.slice (some ⟨gt,0,none⟩) 1 ct],.pointer (some ⟨gx,0,none⟩)] w fun e w'=>e=.returned (.bool (decide (p=q)))∧Below w.heap.size w w':=by
 obtain ⟨W1,HW1⟩:∃ W,Hid (W=w.alloc (.cells #[.int .i64 b,.int .i64 p,.slice (some ⟨gt,0,none⟩) 1 ct] 36)):=⟨_,rfl⟩
 have HB1:Hid (Below w.heap.size w W1):=by (show Below _ _ _);rw [HW1.out];exact below_alloc _ _
 have HK1:Hid (Row1 W1 w.heap.size 36 [.int .i64 b,.int .i64 p,.slice (some ⟨gt,0,none⟩) 1 ct]):=by (show Row1 _ _ _ _);rw [HW1.out];exact Row1.of (Blk.new _ _ _)
 have z0:W1.cell? ⟨w.heap.size,1,none⟩=some (.int .i64 p):=HK1.out.cell 1 rfl
 have z1:W1.cell? ⟨gx,0,none⟩=some (.int .i64 q):=(hx.stay HB1.out).cell 0 rfl
 clear hx
 go_enter Tryz.func186,Tryz.ntmps186
 go_upto_region 1 with fail
 rw [← HW1.out]
 go_wp2
 go_returns
 exact ⟨by rfl,HB1.out⟩
theorem br_askOpen (gb gx gy gp cp gs cs g:Nat) (age:Int) (ml mp ms:Nat) (q b p:Int) (gt ct:Nat) (w:World) (hb:Row1 w gb 79 (broC gp cp gs cs g age ml mp ms)) (hx:Row1 w gx 3 [.int .i64 q]) (hy:Row1 w gy 27 [.pointer (some ⟨gb,0,none⟩)]) :
  Calls Tryz.prog 82 #[.agg #[.int .i64 b,.int .i64 p,.slice (some ⟨gt,0,none⟩) 1 ct],.pointer (some ⟨gx,0,none⟩),.pointer (some ⟨gy,0,none⟩)] w fun e w'=>e=.returned (.bool (decide (p=q∧b=0)))∧Below w.heap.size w w':=by
 obtain ⟨W1,HW1⟩:∃ W,Hid (W=w.alloc (.cells #[.int .i64 b,.int .i64 p,.slice (some ⟨gt,0,none⟩) 1 ct] 36)):=⟨_,rfl⟩
 have HB1:Hid (Below w.heap.size w W1):=by (show Below _ _ _);rw [HW1.out];exact below_alloc _ _
 have HK1:Hid (Row1 W1 w.heap.size 36 [.int .i64 b,.int .i64 p,.slice (some ⟨gt,0,none⟩) 1 ct]):=by (show Row1 _ _ _ _);rw [HW1.out];exact Row1.of (Blk.new _ _ _)
 have z0:W1.cell? ⟨w.heap.size,0,none⟩=some (.int .i64 b):=HK1.out.cell 0 rfl
 have z1:W1.cell? ⟨w.heap.size,1,none⟩=some (.int .i64 p):=HK1.out.cell 1 rfl
 have z2:W1.cell? ⟨gx,0,none⟩=some (.int .i64 q):=(hx.stay HB1.out).cell 0 rfl
 have z3:W1.cell? ⟨gy,0,none⟩=some (.pointer (some ⟨gb,0,none⟩)):=(hy.stay HB1.out).cell 0 rfl
 have z4:W1.cell? ⟨gb,5,none⟩=some (.int .i64 0):=(hb.stay HB1.out).cell 5 rfl
 clear hb hx hy
 have HXD:Hid (Below w.heap.size w W1.drew):=HB1.out.drew
 by_cases hpq:p=q
 ·subst hpq
  go_enter Tryz.func82,Tryz.ntmps82
  go_upto_region 1 with fail
  rw [← HW1.out]
  go_quiet (fail)
  generalize hnq:W1.drewN _=wN
  have HBN:Hid (Below w.heap.size w wN):=by (show Below _ _ _);rw [← hnq];exact below_drewN HB1.out _
  clear hnq z0 z1 z2 z3 z4
  go_wp2
  go_returns
  exact ⟨by simp;rfl,HBN.out⟩
 ·have hpq2:(p == q)=false:=by rw [beq_eq_false_iff_ne];exact hpq
  have hpq3:decide (p=q)=false:=decide_eq_false hpq
  go_enter Tryz.func82,Tryz.ntmps82
  go_upto_region 1 with fail
  rw [← HW1.out]
  go_quiet (fail)
  generalize hnq:W1.drewN _=wN
  have HBN:Hid (Below w.heap.size w wN):=by (show Below _ _ _);rw [← hnq];exact below_drewN HB1.out _
  clear hnq z0 z1 z2 z3 z4
  go_wp2
  go_returns
  exact ⟨by simp [hpq],HBN.out⟩
theorem br_bit1 (w:World):Calls Tryz.prog 135 #[.int .i64 1] w fun e w'=>e=.returned (.int .u32 1)∧w'=w:=by
 go_enter Tryz.func135,Tryz.ntmps135
 go_wp2
 go_returns
 exact ⟨rfl,rfl⟩
end
section
open Go.RowKit Go.Shelf
attribute [local go_sem] Oper.semAt_some
theorem Row1.grown {w w':World} {g:Nat} {e:TypeId} {cs:List Value} {row:Option Nat} (h:Row1 w g e cs) (hg:w.grownBy w' row) (hr:∀ r,row=some r→∃ o:Obj,w.heap[r]? = some o∧o.isCells=false):Row1 w' g e cs:=by
 obtain ⟨cur,h1,h2⟩:=h
 refine ⟨cur,Blk.grown h1 hg (fun e => ?_),h2⟩
 obtain ⟨o,ho,hc⟩:=hr g e.symm
 have h3:=h1.symm.trans ho
 cases h3
 cases hc
theorem Kp.put {K:Nat→Prop} {B:Nat} (hK:∀ k,K k→k<B) (W:World) (l:Nat) (o o':Obj) (hl:B≤l) (_:W.heap[l]? = some o) (_:o.isCells=false) (_:o.isWalk=false):Kp K W (W.putObj l o') :=
 ⟨by simp,fun k hk=>World.putObj_heap_other (by have:=hK k hk;omega)⟩
theorem Kp.set {K:Nat→Prop} {W:World} {g:Nat} (h:¬ K g) (i:Nat) (v:Value):Kp K W (W.setCell ⟨g,i,none⟩ v) :=
 ⟨by rw [World.size_setCell];exact Nat.le_refl _,fun k hk=>heap_setCell_other W ⟨g,i,none⟩ k v (fun e=>h (by have e':k=g:=e;rw [← e'];exact hk))⟩
theorem Kp.of_heap {K:Nat→Prop} {W W':World} (h:W'.heap=W.heap):Kp K W W':=⟨by rw [h];exact Nat.le_refl _,fun k _=>by rw [h]⟩
def bitsF (l:List (Fin 1)):Int:=if l=[] then 0 else 1
theorem br_bitsOf (K:Nat→Prop) (gf:Nat) (lb:Array Value) (Ss:Nat→Int×Int×Nat×Nat) (dec:Nat→Bool) (w:World) (hK:∀ k,K k→k<w.heap.size)
  (hent:∀ (vs:Array Value) (W:World),(callFunc gf vs).run Tryz.prog W=.ok (.enter gf vs) W)
  (hst:∀ n,3≤n→SeqStopsK Fence.wide n Tryz.prog gf lb (encS Ss 1) (Kp K) (fun xs=>xs=asF dec 1 1) (fun pre=>pre <+: asF dec 1 1) 1 w) :
  Calls Tryz.prog 80 #[.func (.func gf) #[] lb] w fun e w'=>e=.returned (.int .u32 (bitsF (asF dec 1 1)))∧Below w.heap.size w w':=by
 obtain ⟨W1,HW1⟩:∃ W,Hid (W=w.alloc (.cells #[.int .u32 0] 49)):=⟨_,rfl⟩
 have HB1:Hid (Below w.heap.size w W1):=by (show Below _ _ _);rw [HW1.out];exact below_alloc _ _
 have HK1:Hid (Row1 W1 w.heap.size 49 [.int .u32 0]):=by (show Row1 _ _ _ _);rw [HW1.out];exact Row1.of (Blk.new _ _ _)
 have HSZ:Hid (w.heap.size<W1.heap.size):=HK1.out.lt
 have HKK:Hid (∀ k,K k→k<w.heap.size):=hK
 refine (callsIn_wide (n:=6)).1 ?_
 refine callsIn_of_wp_marks Tryz.func80 rfl trivial ?_ rfl
 simp only [Tryz.ntmps80,List.size_toArray,List.length_cons,List.length_nil,Nat.reduceAdd,Nat.reduceSub,Array.replicate_succ,Array.replicate_zero,List.push_toArray,List.append_toArray,List.nil_append,List.cons_append]
 gi_wp2
 rw [← HW1.out]
 refine wpIn_rangeFunc_ownG rfl (by decide) (gf:=gf) (lb:=lb) rfl trivial hent (hst 5 (by decide)) Kp.trans (fun W l o o' hl=>Kp.put hK W l o o' (Nat.le_trans (Nat.le_of_lt HSZ.out) hl)) HB1.out (fun _=>rfl)
  (fun pre W=>Row1 W w.heap.size 49 [.int .u32 (bitsF pre)] ∧ Below w.heap.size w W) (fun _ _ _=>False)
  (OwnFrom.and (Own.from (fun s A B row hs hg hr=>hs.grown hg hr) _) (ownFrom_below (Nat.le_refl _) (Nat.le_of_lt HSZ.out)))
  (fun _ _ _ _ _ hs _ _=>hs) ⟨HK1.out,HB1.out⟩
  (fun x=>{ tmps:=#[.func (.func gf) #[] lb,undef,.int .u32 0,.pointer (some ⟨w.heap.size,0,none⟩),.int .i64 ((x.1:Int)+1),.func (.func gf) #[] lb,.int .i64 ((x.1:Int)+1),.agg #[.int .i64 (Ss x.1).1,.int .i64 (Ss x.1).2.1,.slice (some ⟨(Ss x.1).2.2.1,0,none⟩) 1 (Ss x.1).2.2.2],undef,undef,undef,undef,undef],defers:=[] }) ?assign ?body ?done ?stop
 case assign =>
  intro l x W K hK
  unfold encS
  obtain rfl:x=0:=Subsingleton.elim _ _
  gi_wp2
  simpa using hK
 case body =>
  rintro l pre x W ⟨hr,hb⟩ hp
  obtain rfl:pre=[]:=List.eq_nil_of_length_eq_zero (by omega)
  obtain rfl:x=0:=Subsingleton.elim _ _
  have c0:W.cell? ⟨w.heap.size,0,none⟩=some (.int .u32 0):=hr.cell 0 rfl
  have f0:W.frozen? ⟨w.heap.size,0,none⟩=false:=hr.free _
  have HR:Hid (Row1 W w.heap.size 49 [.int .u32 0] ∧ Below w.heap.size w W):=⟨hr,hb⟩
  clear hr hb
  simp only [Fin.isValue,Fin.val_zero]
  have hmx:Tryz.prog.follows .mixedOrders=true:=by kernel_rfl
  gi_wp2
  gi_region_with_o (refine ⟨trivial,?_⟩;gi_at_call 135;refine (CallsIn.inRound l (callsIn_wide.2 (br_bit1 _))).mono ?_;rintro e w' ⟨rfl,rfl⟩)
  all_goals gi_wp2
  all_goals (try go_bits)
  all_goals
   refine ⟨((KeepsOthers.setCell _ _ _).trans (KeepsOthers.drew _)).from _,?_,?_,?_⟩
   ·exact (Kp.set (fun h=>Nat.lt_irrefl _ (HKK.out _ h)) 0 _).trans (Kp.of_heap rfl)
   ·exact (HR.out.1.set 0 _).stay (Below.refl _ _).drew
   ·exact (HR.out.2.setCell (p:=⟨w.heap.size,0,none⟩) (Nat.le_refl _) _).drew
 case done =>
  rintro D xs W hD rfl ⟨hr,hb⟩ hK
  have c0:W.cell? ⟨w.heap.size,0,none⟩=some (.int .u32 (bitsF (asF dec 1 1))):=hr.cell 0 rfl
  have HB:Hid (Below w.heap.size w W):=hb
  clear hr hb
  gi_wp2
  refine ⟨by simp,.inl ⟨_,_,rfl,run_takeDeferred hK,?_⟩⟩
  exact ⟨_,results_tmp rfl _ _ _,rfl,HB.out.trans (belowK_b (w:=w) (Nat.le_refl _) W D _ _ (Nat.le_trans (Nat.le_of_lt HSZ.out) hD) hK rfl rfl)⟩
 case stop =>
  rintro D c pre W _ _ h _
  exact h.elim
end
section
open Go.RowKit
section
variable {P:Program} {ops:Array Oper} {Q:Exit→Act→World→Prop} {md:Region.Mode} {l n:Nat}
theorem rows_wide {row:String} {args:Array Value} {w:World} {R:Value→World→Prop} (h:Rows P row args w R):RowsIn (Fence.wide.inRound l) n P row args w R:=by
 have h':RowsIn Fence.wide n P row args w R:=fun c cs _=>by
  obtain ⟨v,w2,r,s⟩:=h c cs
  exact ⟨v,w2,r,stepsIn_wide.2 s⟩
 exact h'
theorem opIn_of {o:Oper} {a:Act} {w:World} {K:Act→World→Prop} (ho:∀ c,o.op≠.defer c) (h:o.wp P a w K Q):o.wpIn (Fence.wide.inRound l) n P a w K Q:=by
 unfold Oper.wpIn
 refine ⟨fun _ _=>trivial,?_⟩
 rw [Fence.inRound_round,Oper.semAt_some l _ _ ho]
 unfold Oper.wp at h
 generalize (execOp a.eval o).run P w=r at h ⊢
 cases r with
 | ok x w' =>
  cases x <;> simp only [Oper.upon,Oper.uponIn] at h ⊢ <;>
   first
    | exact h
    | exact ⟨fun hd=>(by cases hd),CallsIn.inRound l (callsIn_wide.2 h)⟩
    | exact ⟨fun hd=>(by cases hd),rows_wide h⟩
 | halt x w' =>
  cases x <;> simp only [Oper.upon,Oper.uponIn] at h ⊢ <;> exact h
theorem wpOpIn_of {i:Nat} {K:Act→World→Prop} {a:Act} {w:World} (hd:∀ (j:Nat) (o:Oper),ops[j]? = some o→∀ c,o.op≠.defer c) (hno:¬ LetsOut Q) (h:wpOp P ops Q i K a w):wpOpIn (Fence.wide.inRound l) n P ops Q i K a w:=by
 unfold wpOpIn
 unfold wpOp at h
 split
 ·rename_i ho
  simp only [ho] at h
  exact h
 ·rename_i o ho
  simp only [ho] at h
  split
  ·rename_i hw
   simp only [hw,if_true] at h
   rcases h with h | h
   ·exact opIn_of (hd i o ho) h
   ·exact absurd h.2 hno
  ·rename_i hw
   simp only [hw] at h
   exact ⟨fun _ _=>trivial,h⟩
theorem anyIn_of (hd:∀ (j:Nat) (o:Oper),ops[j]? = some o→∀ c,o.op≠.defer c) (hno:¬ LetsOut Q):∀ (m:Nat) (lst:Array Bool) (a:Act) (w:World),wpAny P md ops Q m lst a w→wpAnyIn (Fence.wide.inRound l) n P md ops Q m lst a w
 | 0,_,_,_,h=>h
 | m+1,_,_,_,h=>⟨h.1,fun i hi=>wpOpIn_mono (fun a' w' h'=>anyIn_of hd hno m _ a' w' h') (wpOpIn_of hd hno (h.2 i hi))⟩
def noDefer (ops:Array Oper):Bool:=ops.all fun o=>match o.op with | .defer _=>false | _=>true
theorem noDefer.spec (h:noDefer ops=true):∀ (j:Nat) (o:Oper),ops[j]? = some o→∀ c,o.op≠.defer c:=fun j o ho c hc=>by
 unfold noDefer at h
 rw [Array.all_eq_true] at h
 obtain ⟨hj,he⟩:=Array.getElem?_eq_some_iff.1 ho
 have h1:=h j hj
 rw [he,hc] at h1
 cases h1
theorem wp_region_R {S:Array Bool→World→Prop} {id:Nat} {a:Act} {w:World} (hm:P.follows .mixedOrders=true) (hd:noDefer ops=true) (hno:¬ LetsOut Q) (hS:S (Array.replicate ops.size false) w.drew)
  (h:S (Array.replicate ops.size false) w.drew→anyL P .any ops Q S ops.size (Array.replicate ops.size false) a w.drew):(Code.region id ops true).wpIn (Fence.wide.inRound l) n P Q a w :=
 wpIn_region_any hm (anyIn_of (noDefer.spec hd) hno _ _ _ _ (wpAny_of_held _ _ _ _ (anyL_held _ _ _ _ (h hS))))
end
end
end Go.Proofs.YtoiennkfdjnkbaaGreatDoor
