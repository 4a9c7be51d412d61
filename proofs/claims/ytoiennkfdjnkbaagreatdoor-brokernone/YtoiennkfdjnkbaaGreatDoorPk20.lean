import Derived.Test.YtoiennkfdjnkbaaGreatDoorPk19
import Derived.Test.YtoiennkfdjnkbaaGreatDoorPk18
import Derived.Maps.OwnSet
import Derived.Lib.SlKeysI
import Derived.Shelf.SlIterI.Nil
import Derived.Shelf.SortM.Plain
import Derived.Shelf.SortM.SortNone
import Derived.Shelf.SlMaps.Clone
import Derived.Test.YtoiennkfdjnkbaaGreatDoorProg
import Derived.Shelf.AbstractIn
import Derived.Deep.RegionHeld3
import Derived.Deep.QuietTactic
import Derived.Deep.Cut
import Derived.BigQuiet
set_option maxRecDepth 100000
set_option maxHeartbeats 8000000
namespace Go.Proofs.YtoiennkfdjnkbaaGreatDoor
section
open Go.RowKit
theorem RightS_fits:∀ (l:List Sp) (p:Sp),0≤p.to→RightS p l→∀ q∈l,1≤q.fr∧q.fr≤1099511627776∧q.fr≤q.to∧q.to≤1099511627776∧1≤q.is∧q.is≤3
 | [],_,_,_,q,hq=>by cases hq
 | s :: l,p,hp,⟨h1,h2,h3,h4,h5,h6,h7⟩,q,hq=>by
  rcases List.mem_cons.1 hq with rfl | hq
  ·exact ⟨by omega,by omega,h2,h3,h4,h5⟩
  ·exact RightS_fits l s (by omega) h7 q hq
theorem behindS_sub:∀ (l:List Sp) (t:Int),∀ q∈behindS l t,q∈l
 | [],_,_,h=>h
 | s :: l,t,q,h=>by
  rw [behindS] at h
  split at h
  ·exact List.mem_cons_of_mem _ (behindS_sub l t q h)
  ·exact h
def JoinTold (w:World) (B:Nat) (a b:List Sp) (e:Ending):Prop :=
 ((rightB Sp.zr a=false∨rightB Sp.zr b=false)∧e=.returned (.tuple #[.slice none 0 0,.int .i64 2])) ∨
 (RightS Sp.zr a∧RightS Sp.zr b∧∃ v l,e=.returned (.tuple #[v,.int .i64 0])∧Sps w B v l∧RightS Sp.zr l∧∀ t,atS l t=max (atS a t) (atS b t))
theorem run_min_i (w:World) (ts:Array TypeId) (t:TypeId) (x y:Int):(Builtin.min_ ts t #[.int .i64 x,.int .i64 y]).run Tryz.prog w=.ok (.int .i64 (min x y)) w:=by
 by_cases h:y<x
 ·rw [show min x y=y from by omega]
  simp [Builtin.min_,Builtin.min2,go_sem]
  omega
 ·rw [show min x y=x from by omega]
  simp [Builtin.min_,Builtin.min2,go_sem]
  omega
theorem run_max_i (w:World) (ts:Array TypeId) (t:TypeId) (x y:Int):(Builtin.max_ ts t #[.int .i64 x,.int .i64 y]).run Tryz.prog w=.ok (.int .i64 (max x y)) w:=by
 by_cases h:x<y
 ·rw [show max x y=y from by omega]
  simp [Builtin.max_,Builtin.max2,go_sem]
  omega
 ·rw [show max x y=x from by omega]
  simp [Builtin.max_,Builtin.max2,go_sem]
  omega
theorem span_Join (a b:Option Addr) (na ca nb cb:Nat) (la lb:List Sp) (w:World) (ha:SpsRd w a na la) (hb:SpsRd w b nb lb) (hca:na≤ca) (hcma:ca≤maxLen) (hcb:nb≤cb) (hcmb:cb≤maxLen) :
  Calls Tryz.prog 258 #[.slice a na ca,.slice b nb cb] w fun e w'=>Hid (JoinTold w' w.heap.size la lb e)∧Below w.heap.size w w':=by
 have HA:Hid (SpsRd w a na la):=ha
 have HBB:Hid (SpsRd w b nb lb):=hb
 have HCA:Hid (na≤ca∧ca≤maxLen):=⟨hca,hcma⟩
 have HCB:Hid (nb≤cb∧cb≤maxLen):=⟨hcb,hcmb⟩
 clear ha hb hca hcma hcb hcmb
 go_enter Tryz.func258,Tryz.ntmps258
 go_wp2_with fail
 refine (span_Right a na ca la w HA.out (Nat.le_trans HCA.out.1 HCA.out.2)).mono ?_
 rintro e w1 ⟨rfl,hb1⟩
 have HB1:Hid (Below w.heap.size w w1):=hb1
 clear hb1
 cases hra:rightB Sp.zr la with
 | false =>
  have HX:Hid (rightB Sp.zr la=false):=hra
  clear hra
  go_wp2
  go_returns
  exact ⟨.inl ⟨.inl HX.out,rfl⟩,HB1.out⟩
 | true =>
  have HXA:Hid (RightS Sp.zr la):=(rightB_iff _ _).1 hra
  clear hra
  go_wp2_with fail
  refine (span_Right b nb cb lb w1 (HBB.out.below HB1.out) (Nat.le_trans HCB.out.1 HCB.out.2)).mono ?_
  rintro e w2 ⟨rfl,hb2⟩
  have HB2:Hid (Below w.heap.size w w2):=HB1.out.trans (hb2.mono HB1.out.size)
  clear hb2
  cases hrb:rightB Sp.zr lb with
  | false =>
   have HX:Hid (rightB Sp.zr lb=false):=hrb
   clear hrb
   go_wp2
   go_returns
   exact ⟨.inl ⟨.inr HX.out,rfl⟩,HB2.out⟩
  | true =>
   have HXB:Hid (RightS Sp.zr lb):=(rightB_iff _ _).1 hrb
   clear hrb
   go_wp2
   go_loopw [0,1,6,7] (fun t0 t1 t6 t7 wr=>∃ (a' b':Option Addr) (na' ca' nb' cb':Nat) (la' lb' out:List Sp) (av:Option Addr) (nv cv:Nat) (t:Int),t0=.slice a' na' ca'∧t1=.slice b' nb' cb'∧t6=.slice av nv cv∧t7=.int .i64 t ∧
     Hid (JoinS la lb t la' lb' out)∧Hid (Sps wr w.heap.size (.slice av nv cv) out)∧Hid (SpsRd w a' na' la')∧Hid (SpsRd w b' nb' lb')∧Hid (na'≤ca'∧ca'≤maxLen)∧Hid (nb'≤cb'∧cb'≤maxLen)∧Hid ((∀ q∈la',q∈la)∧∀ q∈lb',q∈lb)∧Hid (Below w.heap.size w wr)) (fun _ _ _ t7 _=>(1099511627777 - intOf t7).toNat)
   case atStart=>exact ⟨a,b,na,ca,nb,cb,la,lb,[],none,0,0,1,rfl,rfl,rfl,rfl,JoinS.start HXA.out HXB.out,Sps.nil_ _ _,HA,HBB,HCA,HCB,⟨fun _ h=>h,fun _ h=>h⟩,HB2⟩
   case round =>
    obtain ⟨a',b',na',ca',nb',cb',la',lb',out,av,nv,cv,t,rfl,rfl,rfl,rfl,HJ,HV,HRA,HRB,HCA',HCB',HSUB,HB⟩:=hrel
    have hlo:=HJ.out.lo
    have hhi:=HJ.out.hi
    by_cases ht:t≤1099511627776
    ·go_wp2_with fail
     refine (span_behind a' na' ca' la' t wr w (HRA.out.below HB.out) HRA.out HCA'.out.1 HCA'.out.2).mono ?_
     rintro e w3 ⟨⟨a2,na2,ca2,rfl,HRA2,HRA3,HCA2⟩,rfl⟩
     go_wp2_with fail
     refine (span_behind b' nb' cb' lb' t w3 w (HRB.out.below HB.out) HRB.out HCB'.out.1 HCB'.out.2).mono ?_
     rintro e w4 ⟨⟨b2,nb2,cb2,rfl,HRB2,HRB3,HCB2⟩,rfl⟩
     go_wp2_with fail
     refine (span_run a2 na2 ca2 (behindS la' t) t w4 HRA2.out (Nat.le_trans HCA2.out.1 HCA2.out.2) (fun q hq=>by have:=RightS_fits la Sp.zr (by decide) HXA.out q (HSUB.out.1 q (behindS_sub _ _ q hq));exact ⟨this.1,this.2.1⟩)).mono ?_
     rintro e w5 ⟨⟨⟨raf,rat,rai⟩,rfl,HRUA⟩,hb5⟩
     simp only
     have HB5:Hid (Below w4.heap.size w4 w5):=hb5
     clear hb5
     go_wp2_with fail
     refine (span_run b2 nb2 cb2 (behindS lb' t) t w5 (HRB2.out.below HB5.out) (Nat.le_trans HCB2.out.1 HCB2.out.2) (fun q hq=>by have:=RightS_fits lb Sp.zr (by decide) HXB.out q (HSUB.out.2 q (behindS_sub _ _ q hq));exact ⟨this.1,this.2.1⟩)).mono ?_
     rintro e w6 ⟨⟨⟨rbf,rbt,rbi⟩,rfl,HRUB⟩,hb6⟩
     simp only
     obtain ⟨mn,HMN⟩:∃ m,Hid (m=min rat rbt):=⟨_,rfl⟩
     obtain ⟨mx,HMX⟩:∃ m,Hid (m=max rai rbi):=⟨_,rfl⟩
     have r1:∀ w',(Builtin.min_ #[3,3] 3 #[.int .i64 rat,.int .i64 rbt]).run Tryz.prog w'=.ok (.int .i64 mn) w':=fun w'=>by rw [HMN.out];exact run_min_i _ _ _ _ _
     have r2:∀ w',(Builtin.max_ #[48,48] 48 #[.int .i64 rai,.int .i64 rbi]).run Tryz.prog w'=.ok (.int .i64 mx) w':=fun w'=>by rw [HMX.out];exact run_max_i _ _ _ _ _
     have HS:Hid ((⟨t,mn,mx⟩:Sp)=bothS (behindS la' t) (behindS lb' t) t):=by
      show _=_
      rw [HMN.out,HMX.out,bothS,← HRUA.out,← HRUB.out]
     have HB6:Hid (Below w4.heap.size w4 w6):=HB5.out.trans (hb6.mono HB5.out.size)
     clear hb6
     have HX9:∀ c1 c2 c3,Hid (Below w4.heap.size w4 (((w6.alloc (.cells c1 186)).alloc (.cells c2 186)).alloc (.cells c3 186))):=fun c1 c2 c3=>((HB6.out.alloc HB6.out.size _).alloc (by have:=HB6.out.size;simp;omega) _).alloc (by have:=HB6.out.size;simp;omega) _
     have HLN:Hid (out.length≤2000000000000):=by
      show _≤_
      have h1:=RightS_len out Sp.zr HJ.out.ro
      by_cases h0:out=[]
      ·rw [h0];simp
      ·have h2:=h1.2 h0
       have h3:=h1.1
       simp only [Sp.zr] at h2 h3
       omega
     have HLT:Hid (∀ i q,out=i++[q] → -9223372036854775808≤q.to∧q.to<9223372036854775807):=by
      intro i q e
      have:=RightS_fits out Sp.zr (by decide) HJ.out.ro q (by rw [e];simp)
      omega
     go_wp2_with fail
     refine (span_lay w.heap.size (.slice av nv cv) out t mn mx _ (HV.out.below (HX9 _ _ _).out) (Nat.le_trans HB.out.size (HX9 _ _ _).out.size) HLN.out HLT.out).mono ?_
     rintro e w7 ⟨⟨v',out',rfl,HV',HLAY⟩,hb7⟩
     have HN7:Hid (Bk w7 (w6.heap.size+1+1) #[.int .i64 t,.int .i64 mn,.int .i64 mx] 186):=by
      have hnew:=Bk.new ((w6.alloc (.cells #[.int .i64 t,.int .i64 rat,.int .i64 rai] 186)).alloc (.cells #[.int .i64 t,.int .i64 rbt,.int .i64 rbi] 186)) #[.int .i64 t,.int .i64 mn,.int .i64 mx] 186
      have hz:((w6.alloc (.cells #[.int .i64 t,.int .i64 rat,.int .i64 rai] 186)).alloc (.cells #[.int .i64 t,.int .i64 rbt,.int .i64 rbi] 186)).heap.size=w6.heap.size+1+1:=by simp
      rw [hz] at hnew
      refine hnew.grown hb7 (fun e => ?_)
      have h1:=(HV.out.row.lt _ e.symm).2
      have h2:=HB6.out.size
      omega
     have HB7:Hid (Below w.heap.size w w7):=(HB.out.trans ((HX9 _ _ _).out.mono HB.out.size)).trans ((HV.out.below (HX9 _ _ _).out).grown (Nat.le_trans HB.out.size (HX9 _ _ _).out.size) hb7)
     clear hb7 HX9
     have d1:w7.cell? ⟨w6.heap.size+1+1,1,none⟩=some (.int .i64 mn):=HN7.out.cell 1 rfl
     obtain ⟨HJ',hj1,hj2⟩:=HJ.out.step ht (by rw [← HS.out];exact HLAY.out)
     rw [← HS.out] at HJ' hj1 hj2
     simp only at HJ' hj1 hj2
     have HJ2:Hid (JoinS la lb (mn+1) (behindS la' t) (behindS lb' t) out'):=HJ'
     obtain ⟨av',cv',rfl,_⟩:=HV'.out.form
     have HSUB2:Hid ((∀ q∈behindS la' t,q∈la)∧∀ q∈behindS lb' t,q∈lb):=⟨fun q hq=>HSUB.out.1 q (behindS_sub _ _ q hq),fun q hq=>HSUB.out.2 q (behindS_sub _ _ q hq)⟩
     clear HJ' HJ HLAY HS r1 r2 HMN HMX HSUB
     go_wp2
     go_roundw
     case rel=>exact ⟨a2,b2,na2,ca2,nb2,cb2,_,_,out',av',_,cv',mn+1,rfl,rfl,rfl,by go_num,HJ2,HV',HRA3,HRB3,HCA2,HCB2,HSUB2,HB7⟩
     case measure=>simp [intOf];omega
    ·go_wp2
     go_returns
     obtain ⟨z1,z2⟩:=HJ.out.done (by omega) HXA.out HXB.out
     exact ⟨.inr ⟨HXA.out,HXB.out,.slice av nv cv,out,rfl,HV.out,z1,z2⟩,HB.out⟩
end
section
open Go.RowKit
structure MapOk (w:World) (a:Option Addr) (n c:Nat) (l:List Sp):Prop where
 rd:SpsRd w a n l
 lc:n≤c
 cm:c≤maxLen
 right:RightS Sp.zr l
theorem MapOk.below {w w':World} {a:Option Addr} {n c:Nat} {l:List Sp} (h:MapOk w a n c l) (hb:Below w.heap.size w w'):MapOk w' a n c l:=⟨h.rd.below hb,h.lc,h.cm,h.right⟩
theorem MapOk.len {w:World} {a:Option Addr} {n c:Nat} {l:List Sp} (h:MapOk w a n c l):n≤maxLen:=Nat.le_trans h.lc h.cm
theorem Sps.big {w:World} {B:Nat} {a:Option Addr} {n c:Nat} {l:List Sp} (h:Sps w B (.slice a n c) l):n≤c∧c≤maxLen:=by
 rcases h.row.2 with ⟨h1,_⟩ | ⟨g',c',cur,h1,_,_,h4,h5,_⟩
 ·simp only [Value.slice.injEq] at h1
  obtain ⟨_,rfl,rfl⟩:=h1
  exact ⟨Nat.le_refl _,Nat.zero_le _⟩
 ·simp only [Value.slice.injEq] at h1
  obtain ⟨_,rfl,rfl⟩:=h1
  exact ⟨h4,h5⟩
theorem Sps.ok {w:World} {B:Nat} {v:Value} {l:List Sp} (h:Sps w B v l) (hr:RightS Sp.zr l):∃ a n c,v=.slice a n c∧MapOk w a n c l:=by
 obtain ⟨a,c,rfl,_⟩:=h.form
 exact ⟨a,l.length,c,rfl,h.rd,h.big.1,h.big.2,hr⟩
theorem span_Join_new {a b:Option Addr} {na ca nb cb:Nat} {la lb:List Sp} {w:World} (ha:MapOk w a na ca la) (hb:MapOk w b nb cb lb) :
  Calls Tryz.prog 258 #[.slice a na ca,.slice b nb cb] w fun e w'=>(∃ av nv cv l,e=.returned (.tuple #[.slice av nv cv,.int .i64 0])∧Hid (MapOk w' av nv cv l)∧Hid (∀ ad,av=some ad→w.heap.size≤ad.block∧ad.block<w'.heap.size)∧Hid (∀ t,atS l t=max (atS la t) (atS lb t)))∧Below w.heap.size w w':=by
 refine (span_Join a b na ca nb cb la lb w ha.rd hb.rd ha.lc ha.cm hb.lc hb.cm).mono ?_
 rintro e w1 ⟨hj,hb1⟩
 refine ⟨?_,hb1⟩
 rcases hj.out with ⟨hbad,_⟩ | ⟨_,_,v,l,rfl,hv,hr,ht⟩
 ·exfalso
  have h1:=(rightB_iff _ _).2 ha.right
  have h2:=(rightB_iff _ _).2 hb.right
  rcases hbad with h | h
  ·rw [h1] at h;cases h
  ·rw [h2] at h;cases h
 ·obtain ⟨av,nv,cv,rfl,hm⟩:=hv.ok hr
  refine ⟨av,nv,cv,l,rfl,hm,fun ad had => ?_,ht⟩
  subst had
  rcases hv.row.2 with ⟨h1,_⟩ | ⟨g',c',cur,h1,h2,h3,_⟩
  ·simp at h1
  ·simp only [Value.slice.injEq,Option.some.injEq] at h1
   rw [h1.1]
   exact ⟨h2,(Array.getElem?_eq_some_iff.1 h3).1⟩
end
section
open Go.Maps
def heldV (v:Value):Option (DataW Value×List MemPlace):=some (.held v,[])
def tkey (t:Int):Lit:=.int .i64 t
def mapD (X:List (Int×Value)):DataW Value:=.map (X.map fun p=>(tkey p.1,.held p.2))
def insX (x:Int×Value):List (Int×Value)→List (Int×Value)
 | [] => [x]
 | y :: r=>if x.1<y.1 then x :: y :: r else y :: insX x r
def delX (X:List (Int×Value)) (t:Int):List (Int×Value):=X.filter fun p=>decide (p.1≠t)
def putX (X:List (Int×Value)) (t:Int) (v:Value):List (Int×Value):=insX (t,v) (delX X t)
def getX:List (Int×Value)→Int→Option Value
 | [],_=>none
 | y :: r,t=>if y.1=t then some y.2 else getX r t
def RiseX (X:List (Int×Value)):Prop:=X.Pairwise fun p q=>p.1<q.1
theorem sameKey_tkey (a b:Int):(tkey a).sameKey (tkey b)=decide (a=b):=by
 show decide (IntKind.i64=IntKind.i64∧a=b)=_
 simp
theorem insert_map (x:Int×Value):∀ X:List (Int×Value),DataW.insert (tkey x.1,.held x.2) (X.map fun p=>(tkey p.1,(.held p.2:DataW Value)))=(insX x X).map fun p=>(tkey p.1,.held p.2)
 | [] => rfl
 | y :: r=>by
  rw [List.map_cons,DataW.insert,insX]
  have e:(tkey x.1).before (tkey y.1)=decide (x.1<y.1):=rfl
  rw [e]
  by_cases h:x.1<y.1
  ·rw [if_pos h,if_pos (decide_eq_true h)];rfl
  ·rw [if_neg h,if_neg (by simp [h]),insert_map x r];rfl
theorem filter_map (t:Int):∀ X:List (Int×Value),((X.map fun p=>(tkey p.1,(.held p.2:DataW Value))).filter fun p => !p.1.sameKey (tkey t))=(delX X t).map fun p=>(tkey p.1,.held p.2)
 | [] => rfl
 | y :: r=>by
  unfold delX
  rw [List.map_cons,List.filter_cons,List.filter_cons]
  simp only [sameKey_tkey]
  have ih:=filter_map t r
  unfold delX at ih
  by_cases h:y.1=t
  ·simp [h,ih]
  ·simp [h,ih]
theorem mapD_put (X:List (Int×Value)) (t:Int) (v:Value):(mapD X).put (tkey t) (.held v)=mapD (putX X t v):=by
 show DataW.map (DataW.insert _ (List.filter _ _))=_
 rw [filter_map,insert_map (t,v)]
 rfl
theorem mapD_del (X:List (Int×Value)) (t:Int):(mapD X).del (tkey t)=mapD (delX X t):=by
 show DataW.map (List.filter _ _)=_
 rw [filter_map]
 rfl
theorem mapD_at (z:DataW Value) (t:Int):∀ X:List (Int×Value),(mapD X).atKey (tkey t) z=match getX X t with | some v=>.held v | none=>z
 | [] => rfl
 | y :: r=>by
  have ih:=mapD_at z t r
  unfold mapD DataW.atKey at ih ⊢
  simp only [List.map_cons,List.find?_cons,sameKey_tkey] at ih ⊢
  rw [getX]
  by_cases h:y.1=t
  ·simp [h]
  ·rw [if_neg h,← ih,decide_eq_false h]
theorem mapD_has (t:Int):∀ X:List (Int×Value),has (mapD X) (tkey t)=(getX X t).isSome
 | [] => rfl
 | y :: r=>by
  have ih:=mapD_has t r
  unfold mapD at ih ⊢
  rw [has_eq] at ih ⊢
  simp only [List.map_cons,List.any_cons,sameKey_tkey] at ih ⊢
  rw [getX]
  by_cases h:y.1=t
  ·simp [h]
  ·simp [h,ih]
theorem mapD_size (X:List (Int×Value)):size (mapD X)=X.length:=by unfold mapD;rw [size_eq,List.length_map]
theorem mapD_keys (X:List (Int×Value)):intKeys (mapD X)=X.map Prod.fst:=by
 show (List.map _ (List.map _ X))=_
 rw [List.map_map]
 rfl
theorem mapD_sorted {X:List (Int×Value)} (hX:RiseX X) {ss:List Int} (h:ss.Perm (intKeys (mapD X))):ss.mergeSort (fun x y=>decide (x≤y))=X.map Prod.fst:=by
 rw [mapD_keys] at h
 rw [mergeSort_of_perm_i h]
 refine List.mergeSort_of_pairwise ?_
 rw [List.pairwise_map]
 exact List.Pairwise.imp (fun hh=>decide_eq_true (Int.le_of_lt hh)) hX
theorem getX_del (X:List (Int×Value)) (t u:Int):getX (delX X t) u=if u=t then none else getX X u:=by
 induction X with
 | nil=>by_cases h:u=t <;> simp [delX,getX,h]
 | cons y r ih =>
  unfold delX at ih ⊢
  rw [List.filter_cons]
  by_cases h:y.1=t
  ·rw [if_neg (by simp [h]),ih,getX]
   by_cases h2:u=t
   ·rw [if_pos h2,if_pos h2]
   ·rw [if_neg h2,if_neg h2,if_neg (by omega)]
  ·rw [if_pos (by simp [h]),getX,getX,ih]
   by_cases h2:y.1=u
   ·rw [if_pos h2,if_pos h2,if_neg (by omega)]
   ·rw [if_neg h2,if_neg h2]
theorem getX_ins {x:Int×Value}:∀ {X:List (Int×Value)},getX X x.1=none→∀ u,getX (insX x X) u=if u=x.1 then some x.2 else getX X u
 | [],_,u=>by
  rw [insX,getX,getX]
  by_cases h:u=x.1
  ·rw [if_pos h,if_pos h.symm]
  ·rw [if_neg h,if_neg (Ne.symm h)];rfl
 | y :: r,h,u=>by
  rw [getX] at h
  by_cases hy:y.1=x.1
  ·rw [if_pos hy] at h;cases h
  ·rw [if_neg hy] at h
   rw [insX]
   by_cases hlt:x.1<y.1
   ·rw [if_pos hlt,getX]
    by_cases h2:x.1=u
    ·rw [if_pos h2,if_pos h2.symm]
    ·rw [if_neg h2,if_neg (Ne.symm h2)]
   ·rw [if_neg hlt,getX,getX,getX_ins h u]
    by_cases h2:y.1=u
    ·rw [if_pos h2,if_pos h2,if_neg (by omega)]
    ·rw [if_neg h2,if_neg h2]
theorem getX_put (X:List (Int×Value)) (t:Int) (v:Value) (u:Int):getX (putX X t v) u=if u=t then some v else getX X u:=by
 unfold putX
 rw [getX_ins (x:=(t,v)) (by rw [getX_del,if_pos rfl]) u]
 by_cases h:u=t
 ·rw [if_pos h,if_pos h]
 ·rw [if_neg h,if_neg h,getX_del,if_neg h]
theorem rise_del {X:List (Int×Value)} (h:RiseX X) (t:Int):RiseX (delX X t):=h.filter _
theorem mem_ins {x p:Int×Value}:∀ {X:List (Int×Value)},p∈insX x X→p=x∨p∈X
 | [],h=>by rw [insX] at h;exact .inl (List.mem_singleton.1 h)
 | y :: r,h=>by
  rw [insX] at h
  by_cases hlt:x.1<y.1
  ·rw [if_pos hlt] at h
   rcases List.mem_cons.1 h with h | h
   ·exact .inl h
   ·exact .inr h
  ·rw [if_neg hlt] at h
   rcases List.mem_cons.1 h with h | h
   ·exact .inr (h ▸ List.mem_cons_self ..)
   ·rcases mem_ins h with h | h
    ·exact .inl h
    ·exact .inr (List.mem_cons_of_mem _ h)
theorem rise_ins {x:Int×Value}:∀ {X:List (Int×Value)},RiseX X→(∀ p∈X,p.1≠x.1)→RiseX (insX x X)
 | [],_,_=>List.pairwise_singleton _ _
 | y :: r,h,hn=>by
  obtain ⟨h1,h2⟩:=List.pairwise_cons.1 h
  rw [insX]
  by_cases hlt:x.1<y.1
  ·rw [if_pos hlt]
   refine List.pairwise_cons.2 ⟨fun q hq => ?_,h⟩
   rcases List.mem_cons.1 hq with rfl | hq
   ·exact hlt
   ·exact Int.lt_trans hlt (h1 q hq)
  ·rw [if_neg hlt]
   refine List.pairwise_cons.2 ⟨fun q hq => ?_,rise_ins h2 fun p hp=>hn p (List.mem_cons_of_mem _ hp)⟩
   rcases mem_ins hq with rfl | hq
   ·have:=hn y (List.mem_cons_self ..)
    omega
   ·exact h1 q hq
theorem rise_put {X:List (Int×Value)} (h:RiseX X) (t:Int) (v:Value):RiseX (putX X t v):=by
 refine rise_ins (rise_del h t) fun p hp => ?_
 have:=(List.mem_filter.1 hp).2
 simpa using this
theorem mem_get {X:List (Int×Value)} (h:RiseX X) {p:Int×Value} (hp:p∈X):getX X p.1=some p.2:=by
 induction X with
 | nil=>cases hp
 | cons y r ih =>
  obtain ⟨h1,h2⟩:=List.pairwise_cons.1 h
  rw [getX]
  rcases List.mem_cons.1 hp with rfl | hp
  ·rw [if_pos rfl]
  ·rw [if_neg (by have:=h1 p hp;omega),ih h2 hp]
theorem get_mem {t:Int} {v:Value}:∀ {X:List (Int×Value)},getX X t=some v→(t,v)∈X
 | y :: r,h=>by
  rw [getX] at h
  by_cases hy:y.1=t
  ·rw [if_pos hy] at h
   cases h
   rw [← hy]
   exact List.mem_cons_self ..
  ·rw [if_neg hy] at h
   exact List.mem_cons_of_mem _ (get_mem h)
end
end Go.Proofs.YtoiennkfdjnkbaaGreatDoor
namespace Go.Proofs
open Go.Shelf
def Tryz.keysI_ren:Go.Shelf.Ren:=⟨fun | 7=>309 | 10=>338 | n=>n,fun | 23=>182 | 26=>3 | 3=>51 | 28=>409 | 0=>0 | 27=>408 | 33=>230 | 4=>4 | n=>n,fun | n=>n⟩
theorem Tryz.keysI:Go.Proofs.SlLaysZI.n7 Tryz.prog Tryz.keysI_ren:={
 mixed:=by kernel_rfl
 f7:=⟨Tryz.f309.name,by decide,Tryz.func309.trans (congrArg some (by kernel_rfl))⟩
 f10:=⟨Tryz.f338.name,by decide,Tryz.func338.trans (congrArg some (by kernel_rfl))⟩
 t0:=Tryz.underlying0
 a0:=Tryz.isAgg0
 z0:=Tryz.sizeOf0
 v0:=Tryz.zeroValue0
 t4:=Tryz.underlying4
 a4:=Tryz.isAgg4
 z4:=Tryz.sizeOf4
 v4:=Tryz.zeroValue4
 t23:=Tryz.underlying182
 a23:=Tryz.isAgg182
 z23:=Tryz.sizeOf182
 v23:=Tryz.zeroValue182
 t26:=Tryz.underlying3
 a26:=Tryz.isAgg3
 z26:=Tryz.sizeOf3
 v26:=Tryz.zeroValue3
 t27:=Tryz.underlying408
 a27:=Tryz.isAgg408
 z27:=Tryz.sizeOf408
 v27:=Tryz.zeroValue408
 t28:=Tryz.underlying409
 a28:=Tryz.isAgg409
 z28:=Tryz.sizeOf409
 v28:=Tryz.zeroValue409
 t33:=Tryz.underlying230
 a33:=Tryz.isAgg230
 z33:=Tryz.sizeOf230
 v33:=Tryz.zeroValue230 }
def Tryz.sortedI_ren:Go.Shelf.Ren:=⟨fun | 6=>308 | 8=>336 | 9=>337 | 11=>353 | 13=>355 | 12=>354 | 23=>374 | 24=>375 | 14=>365 | 15=>366 | 16=>367 | 17=>368 | 18=>369 | 19=>370 | 20=>371 | 21=>372 | 22=>373 | 25=>384 | 26=>385 | 27=>386 | 28=>387 | 29=>388 | 30=>221 | 31=>396 | n=>n,fun | 26=>3 | 28=>409 | 24=>32 | 0=>0 | 3=>3 | 37=>291 | 48=>49 | 50=>158 | 4=>4 | 40=>474 | 39=>473 | 45=>217 | 5=>5 | 9=>9 | 51=>487 | 55=>491 | 57=>499 | 58=>500 | 33=>230 | n=>n,fun | n=>n⟩
theorem Tryz.sortedI:Go.Proofs.SlLaysZI.n6 Tryz.prog Tryz.sortedI_ren:={
 mixed:=by kernel_rfl
 f6:=⟨Tryz.f308.name,by decide,Tryz.func308.trans (congrArg some (by kernel_rfl))⟩
 f8:=⟨Tryz.f336.name,by decide,Tryz.func336.trans (congrArg some (by kernel_rfl))⟩
 f11:=⟨Tryz.f353.name,by decide,Tryz.func353.trans (congrArg some (by kernel_rfl))⟩
 t0:=Tryz.underlying0
 a0:=Tryz.isAgg0
 z0:=Tryz.sizeOf0
 v0:=Tryz.zeroValue0
 t24:=Tryz.underlying32
 a24:=Tryz.isAgg32
 z24:=Tryz.sizeOf32
 v24:=Tryz.zeroValue32
 t26:=Tryz.underlying3
 a26:=Tryz.isAgg3
 z26:=Tryz.sizeOf3
 v26:=Tryz.zeroValue3
 t28:=Tryz.underlying409
 a28:=Tryz.isAgg409
 z28:=Tryz.sizeOf409
 v28:=Tryz.zeroValue409
 i26:=by kernel_rfl }
def Tryz.sortI_ren:Go.Shelf.Ren:=⟨fun | 5=>337 | 8=>355 | 7=>354 | 19=>374 | 20=>375 | 10=>365 | 11=>366 | 12=>367 | 13=>368 | 14=>369 | 15=>370 | 16=>371 | 17=>372 | 18=>373 | 30=>384 | 31=>385 | 32=>386 | 33=>387 | 34=>388 | 35=>221 | 40=>396 | n=>n,fun | 23=>32 | 25=>3 | 3=>3 | 32=>291 | 22=>32 | 0=>0 | 44=>49 | 46=>158 | 4=>4 | 36=>474 | 35=>473 | 41=>217 | 5=>5 | 9=>9 | 53=>487 | 57=>491 | 63=>499 | 64=>500 | n=>n,fun | n=>n⟩
theorem Tryz.sortI:Go.Proofs.SlLaysM.n5 Tryz.prog Tryz.sortI_ren:={
 mixed:=by kernel_rfl
 f5:=⟨Tryz.f337.name,by decide,Tryz.func337.trans (congrArg some (by kernel_rfl))⟩
 f7:=⟨Tryz.f354.name,by decide,Tryz.func354.trans (congrArg some (by kernel_rfl))⟩
 f8:=Tryz.func355.trans (congrArg some (by kernel_rfl))
 f10:=⟨Tryz.f365.name,by decide,Tryz.func365.trans (congrArg some (by kernel_rfl))⟩
 f11:=⟨Tryz.f366.name,by decide,Tryz.func366.trans (congrArg some (by kernel_rfl))⟩
 f12:=⟨Tryz.f367.name,by decide,Tryz.func367.trans (congrArg some (by kernel_rfl))⟩
 f13:=⟨Tryz.f368.name,by decide,Tryz.func368.trans (congrArg some (by kernel_rfl))⟩
 f14:=⟨Tryz.f369.name,by decide,Tryz.func369.trans (congrArg some (by kernel_rfl))⟩
 f15:=⟨Tryz.f370.name,by decide,Tryz.func370.trans (congrArg some (by kernel_rfl))⟩
 f16:=⟨Tryz.f371.name,by decide,Tryz.func371.trans (congrArg some (by kernel_rfl))⟩
 f17:=⟨Tryz.f372.name,by decide,Tryz.func372.trans (congrArg some (by kernel_rfl))⟩
 f18:=⟨Tryz.f373.name,by decide,Tryz.func373.trans (congrArg some (by kernel_rfl))⟩
 f19:=Tryz.func374.trans (congrArg some (by kernel_rfl))
 f20:=Tryz.func375.trans (congrArg some (by kernel_rfl))
 f30:=⟨Tryz.f384.name,by decide,Tryz.func384.trans (congrArg some (by kernel_rfl))⟩
 f31:=Tryz.func385.trans (congrArg some (by kernel_rfl))
 f32:=Tryz.func386.trans (congrArg some (by kernel_rfl))
 f33:=⟨Tryz.f387.name,by decide,Tryz.func387.trans (congrArg some (by kernel_rfl))⟩
 f34:=⟨Tryz.f388.name,by decide,Tryz.func388.trans (congrArg some (by kernel_rfl))⟩
 f35:=⟨Tryz.f221.name,by decide,Tryz.func221.trans (congrArg some (by kernel_rfl))⟩
 f40:=⟨Tryz.f396.name,by decide,Tryz.func396.trans (congrArg some (by kernel_rfl))⟩
 t0:=Tryz.underlying0
 a0:=Tryz.isAgg0
 z0:=Tryz.sizeOf0
 v0:=Tryz.zeroValue0
 t3:=Tryz.underlying3
 a3:=Tryz.isAgg3
 z3:=Tryz.sizeOf3
 v3:=Tryz.zeroValue3
 t4:=Tryz.underlying4
 a4:=Tryz.isAgg4
 z4:=Tryz.sizeOf4
 v4:=Tryz.zeroValue4
 t5:=Tryz.underlying5
 a5:=Tryz.isAgg5
 z5:=Tryz.sizeOf5
 v5:=Tryz.zeroValue5
 t9:=Tryz.underlying9
 a9:=Tryz.isAgg9
 z9:=Tryz.sizeOf9
 v9:=Tryz.zeroValue9
 t22:=Tryz.underlying32
 a22:=Tryz.isAgg32
 z22:=Tryz.sizeOf32
 v22:=Tryz.zeroValue32
 t23:=Tryz.underlying32
 a23:=Tryz.isAgg32
 z23:=Tryz.sizeOf32
 v23:=Tryz.zeroValue32
 t25:=Tryz.underlying3
 a25:=Tryz.isAgg3
 z25:=Tryz.sizeOf3
 v25:=Tryz.zeroValue3
 t32:=Tryz.underlying291
 a32:=Tryz.isAgg291
 z32:=Tryz.sizeOf291
 v32:=Tryz.zeroValue291
 t35:=Tryz.underlying473
 a35:=Tryz.isAgg473
 z35:=Tryz.sizeOf473
 v35:=Tryz.zeroValue473
 t36:=Tryz.underlying474
 a36:=Tryz.isAgg474
 z36:=Tryz.sizeOf474
 v36:=Tryz.zeroValue474
 t41:=Tryz.underlying217
 a41:=Tryz.isAgg217
 z41:=Tryz.sizeOf217
 v41:=Tryz.zeroValue217
 t44:=Tryz.underlying49
 a44:=Tryz.isAgg49
 z44:=Tryz.sizeOf49
 v44:=Tryz.zeroValue49
 t46:=Tryz.underlying158
 a46:=Tryz.isAgg158
 z46:=Tryz.sizeOf158
 v46:=Tryz.zeroValue158
 t53:=Tryz.underlying487
 a53:=Tryz.isAgg487
 z53:=Tryz.sizeOf487
 v53:=Tryz.zeroValue487
 t57:=Tryz.underlying491
 a57:=Tryz.isAgg491
 z57:=Tryz.sizeOf491
 v57:=Tryz.zeroValue491
 t63:=Tryz.underlying499
 a63:=Tryz.isAgg499
 z63:=Tryz.sizeOf499
 v63:=Tryz.zeroValue499
 t64:=Tryz.underlying500
 a64:=Tryz.isAgg500
 z64:=Tryz.sizeOf500
 v64:=Tryz.zeroValue500 }
def Tryz.cloneI_ren:Go.Shelf.Ren:=⟨fun | 5=>257 | 7=>304 | n=>n,fun | 23=>182 | 25=>3 | 3=>51 | 4=>4 | 20=>20 | n=>n,fun | n=>n⟩
theorem Tryz.cloneI:Go.Proofs.SlLaysW.n5 Tryz.prog Tryz.cloneI_ren:={
 mixed:=by kernel_rfl
 f5:=⟨Tryz.f257.name,by decide,Tryz.func257.trans (congrArg some (by kernel_rfl))⟩
 f7:=Tryz.func304.trans (congrArg some (by kernel_rfl))
 t4:=Tryz.underlying4
 a4:=Tryz.isAgg4
 z4:=Tryz.sizeOf4
 v4:=Tryz.zeroValue4
 t20:=Tryz.underlying20
 a20:=Tryz.isAgg20
 z20:=Tryz.sizeOf20
 v20:=Tryz.zeroValue20
 t23:=Tryz.underlying182
 a23:=Tryz.isAgg182
 z23:=Tryz.sizeOf182
 v23:=Tryz.zeroValue182 }
end Go.Proofs
namespace Go.Proofs.YtoiennkfdjnkbaaGreatDoor
section
set_option maxRecDepth 100000
open Go.RowKit Go.Maps Go.Sort Go.Shelf
variable {Z:Nat→Prop}
theorem tkeyed:Keyed Tryz.prog 3:=int_keyed Tryz.underlying3
theorem tkey_of {t:Int} (h : -9223372036854775808≤t∧t≤9223372036854775807):keyOf Tryz.prog 3 (.int .i64 t)=some (tkey t):=keyOf_int_mk Tryz.underlying3 (by simp [Lit.wf,IntKind.min,IntKind.max,IntKind.signed,IntKind.bits];omega)
theorem owns_tight {w:World} {P:Program} {k:TypeId} {R:Value→Option (DataW Value×List MemPlace)} {b n:Nat} {D:DataW Value} (h:w.ownsMap P k R b n D):w.ownsMap P k R b (size D) D:=by
 obtain ⟨es,clock,hb,F,_,hD⟩:=h
 refine ⟨es,clock,hb,F,?_,hD⟩
 rw [hD]
 show es.size≤List.length _
 rw [length_read]
 exact Nat.le_refl _
structure Two (s m:Nat) (w w':World):Prop where
 os:w'.os=w.os
 tape:w'.tape=w.tape
 output:w'.output=w.output
 size:w.heap.size≤w'.heap.size
 block:∀ k,k<w.heap.size→k≠s→k≠m→w'.heap[k]? = w.heap[k]?
theorem Two.refl (s m:Nat) (w:World):Two s m w w:=⟨rfl,rfl,rfl,Nat.le_refl _,fun _ _ _ _=>rfl⟩
theorem Two.trans {s m:Nat} {w w1 w2:World} (a:Two s m w w1) (b:Two s m w1 w2):Two s m w w2:=⟨b.os.trans a.os,b.tape.trans a.tape,b.output.trans a.output,Nat.le_trans a.size b.size,fun k hk h1 h2=>(b.block k (Nat.lt_of_lt_of_le hk a.size) h1 h2).trans (a.block k hk h1 h2)⟩
theorem Two.of_below (s m:Nat) {w w1:World} (a:Below w.heap.size w w1):Two s m w w1:=⟨a.os,a.tape,a.output,a.size,fun k hk _ _=>a.block k hk⟩
theorem Two.below {s m B:Nat} {w0 w w1:World} (b:Below B w0 w) (a:Two s m w w1) (hs:B≤s) (hm:B≤m) (hB:B≤w.heap.size):Below B w0 w1 :=
 ⟨a.os.trans b.os,a.tape.trans b.tape,a.output.trans b.output,Nat.le_trans b.size a.size,fun k hk=>(a.block k (Nat.lt_of_lt_of_le hk hB) (by omega) (by omega)).trans (b.block k hk)⟩
theorem Two.turned {s m:Nat} {w w1:World} (h:w.mapTurned w1 m):Two s m w w1:=by
 have g:=h.grown
 exact ⟨g.os,g.tape,g.output,g.size,fun k hk _ h2=>g.block k hk (by simpa using h2)⟩
theorem Two.setCell {s m:Nat} {w w1:World} (h:Two s m w w1) (i:Nat) (v:Value):Two s m w (w1.setCell ⟨s,i,none⟩ v) :=
 ⟨h.os,h.tape,h.output,by rw [World.size_setCell];exact h.size,fun k hk h1 h2=>(heap_setCell_other w1 ⟨s,i,none⟩ k v h1).trans (h.block k hk h1 h2)⟩
theorem Two.bk {s m g:Nat} {w w':World} {cs:Array Value} {t:TypeId} (h:Bk w g cs t) (a:Two s m w w') (h1:g≠s) (h2:g≠m):Bk w' g cs t:=(a.block g h.lt h1 h2).trans h
theorem cell_same {w w':World} {g:Nat} (h:w'.heap[g]? = w.heap[g]?) (o:Nat):w'.cell? ⟨g,o,none⟩=w.cell? ⟨g,o,none⟩:=by
 unfold World.cell?
 rw [h]
theorem SpsRd.same {w w':World} {a:Option Addr} {n:Nat} {l:List Sp} (h:SpsRd w a n l) (hs:w.heap.size≤w'.heap.size) (hk:∀ ad,a=some ad→ad.block<w.heap.size→w'.heap[ad.block]? = w.heap[ad.block]?):SpsRd w' a n l:=by
 refine ⟨h.size,?_⟩
 rcases h.cells with h0 | ⟨g,o,ha,hg,hc⟩
 ·exact .inl h0
 ·refine .inr ⟨g,o,ha,Nat.lt_of_lt_of_le hg hs,fun i q hi => ?_⟩
  have e:=hk _ ha hg
  rw [cell_same e,cell_same e,cell_same e]
  exact hc i q hi
structure Stm (Z:Nat→Prop) (w:World) (s m:Nat) (a:Option Addr) (n c:Nat) (l:List Sp) (X:List (Int×Value)):Prop where
 blk:Bk w s #[.slice a n c,.map (some m)] 184
 ok:MapOk w a n c l
 items:w.ownsMap Tryz.prog 3 heldV m X.length (mapD X)
 rise:RiseX X
 apart:∀ ad,a=some ad→ad.block<w.heap.size∧ad.block≠s∧ad.block≠m∧Z ad.block
 zz:∀ k,w.heap.size≤k→Z k
theorem Stm.ne {w:World} {s m:Nat} {a:Option Addr} {n c:Nat} {l:List Sp} {X:List (Int×Value)} (h:Stm Z w s m a n c l X):s≠m:=by
 rintro rfl
 obtain ⟨es,clock,hb,_⟩:=h.items
 have:=h.blk.symm.trans hb
 cases this
theorem Stm.stay {w w':World} {s m:Nat} {a:Option Addr} {n c:Nat} {l:List Sp} {X:List (Int×Value)} (h:Stm Z w s m a n c l X) (hb:Below w.heap.size w w'):Stm Z w' s m a n c l X:=by
 refine ⟨h.blk.stay hb,h.ok.below hb,?_,h.rise,fun ad e=>⟨Nat.lt_of_lt_of_le (h.apart ad e).1 hb.size,(h.apart ad e).2⟩,fun k hk=>h.zz k (Nat.le_trans hb.size hk)⟩
 have hl:=h.items.lt
 obtain ⟨es,clock,hbk,F,r⟩:=h.items
 exact ⟨es,clock,(hb.block m hl).trans hbk,F,r⟩
theorem Stm.two {w w':World} {s m s2 m2:Nat} {a:Option Addr} {n c:Nat} {l:List Sp} {X:List (Int×Value)} (h:Stm Z w s m a n c l X) (hb:Two s2 m2 w w') (h1:s≠s2) (h2:s≠m2) (h3:m≠s2) (h4:m≠m2) (h5:∀ ad,a=some ad→ad.block≠s2∧ad.block≠m2):Stm Z w' s m a n c l X:=by
 refine ⟨Two.bk h.blk hb h1 h2,⟨h.ok.rd.same hb.size fun ad e hlt=>hb.block _ hlt (h5 ad e).1 (h5 ad e).2,h.ok.lc,h.ok.cm,h.ok.right⟩,?_,h.rise,fun ad e=>⟨Nat.lt_of_lt_of_le (h.apart ad e).1 hb.size,(h.apart ad e).2⟩,fun k hk=>h.zz k (Nat.le_trans hb.size hk)⟩
 have hl:=h.items.lt
 obtain ⟨es,clock,hbk,F,r⟩:=h.items
 exact ⟨es,clock,(hb.block m hl h3 h4).trans hbk,F,r⟩
theorem Stm.setKnown {w:World} {s m:Nat} {a:Option Addr} {n c:Nat} {l:List Sp} {X:List (Int×Value)} (h:Stm Z w s m a n c l X) {a':Option Addr} {n' c':Nat} {l':List Sp} (ok:MapOk w a' n' c' l') (hap:∀ ad,a'=some ad→ad.block<w.heap.size∧ad.block≠s∧ad.block≠m∧Z ad.block):Stm Z (w.setCell ⟨s,0,none⟩ (.slice a' n' c')) s m a' n' c' l' X:=by
 refine ⟨h.blk.set 0 _,⟨ok.rd.same (by rw [World.size_setCell];exact Nat.le_refl _) fun ad e _=>heap_setCell_other w ⟨s,0,none⟩ _ _ (hap ad e).2.1,ok.lc,ok.cm,ok.right⟩,h.items.setCell (a:=⟨s,0,none⟩) (Ne.symm h.ne) _,h.rise,fun ad e=>⟨by rw [World.size_setCell];exact (hap ad e).1,(hap ad e).2⟩,fun k hk=>h.zz k (by rw [World.size_setCell] at hk;exact hk)⟩
theorem Stm.setItems {w w':World} {s m:Nat} {a:Option Addr} {n c:Nat} {l:List Sp} {X X':List (Int×Value)} (h:Stm Z w s m a n c l X) (ht:w.mapTurned w' m) {nn:Nat} (hi:w'.ownsMap Tryz.prog 3 heldV m nn (mapD X')) (hr:RiseX X'):Stm Z w' s m a n c l X':=by
 have hb:Two s m w w':=Two.turned ht
 have g:=ht.grown
 refine ⟨h.blk.grown g (by have:=h.ne;simpa using this),⟨h.ok.rd.same g.size fun ad e hlt=>g.block _ hlt (by have:=(h.apart ad e).2.2.1;simpa using this),h.ok.lc,h.ok.cm,h.ok.right⟩,?_,hr,fun ad e=>⟨Nat.lt_of_lt_of_le (h.apart ad e).1 g.size,(h.apart ad e).2⟩,fun k hk=>h.zz k (Nat.le_trans g.size hk)⟩
 have:=owns_tight hi
 rw [mapD_size] at this
 exact this
theorem st_New (w:World) (hZ:∀ k,w.heap.size≤k→Z k):Calls Tryz.prog 77 #[] w fun e w'=>∃ s m,e=.returned (.pointer (some ⟨s,0,none⟩))∧Stm Z w' s m none 0 0 [] [] ∧ (w.heap.size≤s∧w.heap.size≤m)∧Below w.heap.size w w':=by
 have hmk:∀ W,(Instr.makeMap 182 none).run Tryz.prog W=.ok (.map (some W.heap.size)) (W.alloc (.map #[] 0)):=fun W=>run_makeMap _ W
 go_enter Tryz.func77,Tryz.ntmps77
 go_wp2
 go_ret
 have e1:(w.alloc (.map #[] 0)).heap.size=w.heap.size+1:=by simp
 have hb:Below w.heap.size w ((w.alloc (.map #[] 0)).alloc (.cells #[.slice none 0 0,.map (some w.heap.size)] 184)):=(below_new w _).alloc (by omega) _
 refine ⟨w.heap.size+1,w.heap.size,rfl,⟨?_,⟨⟨rfl,.inl rfl⟩,Nat.le_refl _,Nat.zero_le _,trivial⟩,?_,List.Pairwise.nil,fun ad h=>(by cases h),fun k hk=>hZ k (Nat.le_trans hb.size hk)⟩,by omega,hb⟩
 ·rw [← e1];exact Bk.new _ _ _
 ·exact (World.ownsMap_made w _ _ _).alloc _
theorem st_ticks {w:World} {s m:Nat} {a:Option Addr} {n c:Nat} {l:List Sp} {X:List (Int×Value)} (h:Stm Z w s m a n c l X) (hX:X.length≤1000000) :
  Calls Tryz.prog 259 #[.pointer (some ⟨s,0,none⟩)] w fun e w'=>∃ v,e=.returned v∧w'.ownsRow w.heap.size 3 1 v X.length ((X.map Prod.fst).map encZ)∧Below w.heap.size w w':=by
 refine (callsIn_wide (n:=6)).1 ?_
 have hown:=h.items
 have hbl:=hown.lt
 have hsz:size (mapD X)=X.length:=mapD_size X
 have hseq:SeqGives Fence.wide 2 Tryz.prog 338 #[.pointer (some ⟨w.heap.size,0,none⟩)] encZ (fun ss=>ss.Perm (intKeys (mapD X))) (Maps.size (mapD X)) (w.alloc (.cells #[.map (some m)] 182)) :=
  AnyZI.keys_gives (ρ:=Tryz.keysI_ren) { Tryz.keysI with } Fence.wide _ trivial rfl (by omega) w.heap.size m X.length (mapD X) _ (by simp) (by simp) (by
   obtain ⟨es,clock,hb,Ft,hs,hD⟩:=hown
   exact ⟨es,clock,(Below.heap_alloc _ _ m hbl).trans hb,Ft,hs,hD⟩)
 have cK:∀ mb W,CallsIn Fence.wide 5 Tryz.prog 309 #[.map mb] W fun e w'=>e=.returned (.func (.func 338) #[] #[.pointer (some ⟨W.heap.size,0,none⟩)])∧w'=W.alloc (.cells #[.map mb] 182):=fun mb W=>AnyZI.keys_in Tryz.keysI Fence.wide 5 trivial rfl mb W
 have sorts:∀ k:Nat,AnyZI.SortsIn Tryz.prog Tryz.sortedI_ren Fence.wide k:=fun k=>⟨fun blk off cap ss W hH hblk hsz=>callsIn_wide.2 (AnyM.slices_Sort_int Tryz.sortI blk off cap ss W hH hblk hsz),fun p cap W=>callsIn_wide.2 (AnyM.slices_Sort_int_none Tryz.sortI p cap W)⟩
 have cS:=AnyZI.sorted_in Tryz.sortedI Fence.wide 5 trivial trivial trivial trivial rfl (by omega) (sorts _) (enters_of Tryz.func337 (by kernel_rfl) rfl) 338 #[.pointer (some ⟨w.heap.size,0,none⟩)] trivial (enters_of Tryz.func338 (by kernel_rfl) rfl) _ _ (by rw [hsz];unfold maxLen;omega) (by rw [hsz];omega) _ hseq
 change CallsIn _ _ Tryz.prog 308 _ _ _ at cS
 have hfK:Fence.wide.fn 309:=trivial
 have hfS:Fence.wide.fn 308:=trivial
 have c1:w.cell? ⟨s,1,none⟩=some (.map (some m)):=h.blk.cell 1 rfl
 have HR:Hid (RiseX X):=h.rise
 clear h hown hseq sorts
 refine callsIn_of_wp Tryz.func259 rfl trivial ?_ rfl
 simp only [Tryz.ntmps259,List.size_toArray,List.length_cons,List.length_nil,Nat.reduceAdd,Nat.reduceSub,Array.replicate_succ,Array.replicate_zero,List.push_toArray,List.append_toArray,List.nil_append,List.cons_append]
 gi_wp2_with (first
  | (gi_at_call 309;refine (cK _ _).mono ?_;rintro e w' ⟨rfl,rfl⟩)
  | (gi_at_call 308;refine cS.mono ?_;rintro e w' ⟨v,ss,rfl,hS,hrow,hnil,hb⟩))
 go_ret
 have hrow2:=ownsRow_base_a hrow (base':=w.heap.size) (by simp)
 rw [mapD_sorted HR.out hS,show ss.length=X.length from by rw [hS.length_eq,mapD_keys,List.length_map]] at hrow2
 exact ⟨v,rfl,hrow2,((Below.refl _ w).alloc (Nat.le_refl _) _).trans (hb.mono (by simp))⟩
end
end Go.Proofs.YtoiennkfdjnkbaaGreatDoor
