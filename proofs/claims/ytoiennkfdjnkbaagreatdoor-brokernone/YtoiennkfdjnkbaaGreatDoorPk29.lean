import Derived.Test.YtoiennkfdjnkbaaGreatDoorPk27
import Derived.Test.YtoiennkfdjnkbaaGreatDoorPk28
import Derived.Deep.CutRange
set_option maxRecDepth 100000
set_option maxHeartbeats 8000000
namespace Go.Proofs.YtoiennkfdjnkbaaGreatDoor
section
set_option maxRecDepth 100000
open Go.RowKit Go.Maps Go.Sort Go.Shelf
variable {Z:Nat→Prop}
theorem Stm.del {w:World} {s m:Nat} {a:Option Addr} {n c:Nat} {l:List Sp} {X:List (Int×Value)} (hS:Stm Z w s m a n c l X) {t:Int} (hkey:keyOf Tryz.prog 3 (.int .i64 t)=some (tkey t)) :
  ∃ w',(∀ ty,(Builtin.delete_ #[182,3] ty #[.map (some m),.int .i64 t]).run Tryz.prog w=.ok (.tuple #[]) w')∧Hid (Stm Z w' s m a n c l (delX X t))∧Hid (w.mapTurned w' m):=by
 obtain ⟨w',hrun,r1,r2⟩:=hS.items.drop tkeyed Tryz.underlying182 hkey 0
 rw [mapD_del] at r1
 exact ⟨w',fun ty=>hrun,hS.setItems r2 r1 (rise_del hS.rise t),r2⟩
theorem del_head {X:List (Int×Value)} (hX:RiseX X) {j:Nat} {t:Int} {v:Value} (h:X[j]? = some (t,v)):delX (X.drop j) t=X.drop (j+1):=by
 have hj:=(List.getElem?_eq_some_iff.1 h).1
 have e:X[j] = (t,v):=(List.getElem?_eq_some_iff.1 h).2
 rw [List.drop_eq_getElem_cons hj,e]
 unfold delX
 rw [List.filter_cons,if_neg (by simp)]
 refine List.filter_eq_self.2 fun p hp => ?_
 have hr:RiseX (X.drop j):=hX.sublist (List.drop_sublist _ _)
 rw [List.drop_eq_getElem_cons hj,e] at hr
 have:=(List.pairwise_cons.1 hr).1 p hp
 have:t<p.1:=this
 simp
 omega
def Forgot (Z:Nat→Prop) (s m:Nat) (l:List Sp) (X:List (Int×Value)) (w w':World):Prop:=∃ a' n' c' l',Stm Z w' s m a' n' c' l' (X.drop (X.length - 64))∧(∀ t,atS l' t=if t∈(X.take (X.length - 64)).map Prod.fst then 0 else atS l t)∧Two s m w w'
theorem st_forget {w:World} {s m:Nat} {a:Option Addr} {n c:Nat} {l:List Sp} {X:List (Int×Value)} (h:Stm Z w s m a n c l X) (hX:X.length≤1000) (hk:∀ p∈X,1≤p.1∧p.1≤1099511627776) :
  Calls Tryz.prog 198 #[.pointer (some ⟨s,0,none⟩)] w fun e w'=>e=.returned (.tuple #[])∧Forgot Z s m l X w w':=by
 by_cases h64:X.length≤64
 ·refine (st_forget_0 h h64).mono ?_
  rintro e w' ⟨rfl,hb⟩
  refine ⟨rfl,a,n,c,l,?_,fun t => ?_,Two.of_below s m hb⟩
  ·rw [show X.length - 64=0 from by omega]
   exact h.stay hb
  ·rw [show X.length - 64=0 from by omega]
   simp
 ·have HT:=st_ticks h (by omega)
  have HS:Hid (Stm Z w s m a n c l X):=h
  have HK:Hid (∀ p∈X,1≤p.1∧p.1≤1099511627776):=hk
  have HRX:Hid (RiseX X):=h.rise
  have hsl:=h.blk.lt
  have hml:=h.items.lt
  clear h hk
  go_enter Tryz.func198,Tryz.ntmps198
  go_wp2_with fail
  refine HT.mono ?_
  rintro e w3 ⟨v,rfl,hrow,hb3⟩
  rw [show X.length=(X.map Prod.fst).length from (List.length_map _).symm] at hrow
  obtain ⟨ra,rc,rfl,hrd⟩:=IntsRd.of_row hrow
  rw [List.length_map] at hrd ⊢
  obtain ⟨g,rfl,hgB,hg,hcell⟩:∃ g,ra=some ⟨g,0,none⟩∧w.heap.size≤g∧g<w3.heap.size∧∀ i t,(X.map Prod.fst)[i]? = some t→w3.cell? ⟨g,i,none⟩=some (.int .i64 t):=by
   rcases hrd.cells with h0 | h0
   ·exfalso
    have:(X.map Prod.fst).length=0:=by rw [h0];rfl
    rw [List.length_map] at this
    omega
   ·exact h0
  have hrc:X.length≤rc∧rc≤9223372036854775807:=by
   rcases hrow.2 with ⟨hv,_⟩ | ⟨g',c',cur,hv,_,_,hlc,hmx,_⟩
   ·cases hv
   ·simp only [Value.slice.injEq] at hv
    obtain ⟨_,_,rfl⟩:=hv
    unfold maxLen at hmx
    rw [List.length_map] at hlc
    omega
  have HI3:Hid (IntsRd w3 w.heap.size (some ⟨g,0,none⟩) X.length (X.map Prod.fst)):=hrd
  have HS3:Hid (Stm Z w3 s m a n c l (X.drop 0)):=HS.out.stay hb3
  have HB3:Hid (Two s m w w3):=Two.of_below s m hb3
  obtain ⟨N,HNX⟩:∃ N,Hid (X.length=N):=⟨_,rfl⟩
  rw [HNX.out] at HI3 hX hrc h64 ⊢
  clear hrow hrd hb3 hcell HT HS
  go_wp2
  go_loopw [2] (fun t2 wr=>∃ (j:Nat) (aj:Option Addr) (nj cj:Nat) (lj:List Sp),t2=.slice (some ⟨g,j,none⟩) (N - j) (rc - j)∧j+64≤N∧Hid (Stm Z wr s m aj nj cj lj (X.drop j))∧Hid (∀ t,atS lj t=if t∈(X.take j).map Prod.fst then 0 else atS l t)∧Hid (IntsRd wr w.heap.size (some ⟨g,0,none⟩) N (X.map Prod.fst))∧Hid (Two s m w wr)) (fun t2 _=>match t2 with | .slice _ k _=>k | _=>0)
  case atStart=>exact ⟨0,a,n,c,l,rfl,by omega,HS3,(fun t=>by simp),HI3,HB3⟩
  case round =>
   obtain ⟨j,aj,nj,cj,lj,rfl,hj,HSJ,HLJ,HIJ,HTJ⟩:=hrel
   by_cases hlt:64<N - j
   ·have hlt':(64:Int)<((N - j:Nat):Int):=by omega
    have hjl:j<X.length:=by rw [HNX.out];omega
    obtain ⟨t,v,hx⟩:∃ t v,X[j]? = some (t,v):=⟨X[j].1,X[j].2,by rw [List.getElem?_eq_getElem hjl]⟩
    have hxt:=HK.out (t,v) (List.mem_of_getElem? hx)
    have hxt:1≤t∧t≤1099511627776:=hxt
    have HDL:Hid (delX (X.drop j) t=X.drop (j+1)):=del_head HRX.out hx
    have HMB:Hid ((rightB Sp.zr lj && mayB t t)=true):=by
     (show _=_)
     rw [(rightB_iff _ _).2 HSJ.out.ok.right,(mayB_iff t t).2 ⟨hxt.1,Int.le_refl _,hxt.2⟩]
     rfl
    have HTK:Hid ((X.take (j+1)).map Prod.fst=(X.take j).map Prod.fst++[t]):=by
     (show _=_)
     have e:X[j] = (t,v):=(List.getElem?_eq_some_iff.1 hx).2
     rw [List.take_succ_eq_append_getElem hjl,List.map_append,e]
     rfl
    obtain ⟨g',hgg,_,hg',hcell⟩:∃ g',some (⟨g,0,none⟩:Addr)=some ⟨g',0,none⟩∧w.heap.size≤g'∧g'<wr.heap.size∧∀ i t,(X.map Prod.fst)[i]? = some t→wr.cell? ⟨g',i,none⟩=some (.int .i64 t):=by
     rcases HIJ.out.cells with h0 | h0
     ·exfalso
      have:(X.map Prod.fst).length=0:=by rw [h0];rfl
      rw [List.length_map] at this
      omega
     ·exact h0
    cases hgg
    have hkt:(X.map Prod.fst)[j]? = some t:=by rw [List.getElem?_map,hx];rfl
    have r0:wr.drew.cell? ⟨g,j,none⟩=some (.int .i64 t):=hcell j t hkt
    have HSD:Hid (Stm Z wr.drew s m aj nj cj lj (X.drop j)):=HSJ.out.stay (Below.refl _ _).drew
    have c1:wr.drew.cell? ⟨s,1,none⟩=some (.map (some m)):=HSD.out.blk.cell 1 rfl
    obtain ⟨w5,hdel,HS5,HT5⟩:=HSD.out.del (tkey_of (t:=t) (by omega))
    have HTW5:Hid (Two s m wr w5):=(Two.of_below s m (Below.refl wr.heap.size wr).drew).trans (Two.turned HT5.out)
    rw [HDL.out] at HS5
    have HIJ5:Hid (IntsRd w5 w.heap.size (some ⟨g,0,none⟩) N (X.map Prod.fst)):=HIJ.out.two HTW5.out hsl hml
    clear hcell
    have i0:(0:Int)<((N - j:Nat):Int):=by omega
    have i1:0<N - j:=by omega
    go_upto_region 2 with fail
    go_big_region
    clear hdel c1 r0 HSD
    have HSE:Hid (Stm Z w5.drew s m aj nj cj lj (X.drop (j+1))):=HS5.out.stay (Below.refl _ _).drew
    have c0:w5.drew.cell? ⟨s,0,none⟩=some (.slice aj nj cj):=HSE.out.blk.cell 0 rfl
    obtain ⟨g',hgg,_,hg',hcell⟩:∃ g',some (⟨g,0,none⟩:Addr)=some ⟨g',0,none⟩∧w.heap.size≤g'∧g'<w5.heap.size∧∀ i t,(X.map Prod.fst)[i]? = some t→w5.cell? ⟨g',i,none⟩=some (.int .i64 t):=by
     rcases HIJ5.out.cells with h0 | h0
     ·exfalso
      have:(X.map Prod.fst).length=0:=by rw [h0];rfl
      rw [List.length_map] at this
      omega
     ·exact h0
    cases hgg
    have r0:w5.drew.cell? ⟨g,j,none⟩=some (.int .i64 t):=hcell j t hkt
    have HFG:=span_Forget aj nj cj lj t t w5.drew HSE.out.ok.rd HSE.out.ok.lc HSE.out.ok.cm
    have HSL5:Hid (s<w5.heap.size∧m<w5.heap.size):=⟨HS5.out.blk.lt,HS5.out.items.lt⟩
    clear hcell
    go_upto_region 3 with fail
    go_cut [] from 5 to 33 (fun wx=>∃ (a6:Option Addr) (n6 c6:Nat),Hid (Stm Z wx s m a6 n6 c6 (forgetS lj t t) (X.drop (j+1)))∧Hid (Two s m w5 wx))
    case first =>
     rename_i hJ hM
     go_region_law (first
      | (go_simp;go_at_call 261;refine HFG.mono ?_;rintro e w6 ⟨hr6,hb6⟩;obtain ⟨v6,rfl,hs6⟩:∃ v,e=.returned (.tuple #[v,.int .i64 0])∧Sps w6 w5.drew.heap.size v (forgetS lj t t):=(by rcases hr6.out with ⟨h1,_⟩ | ⟨_,h2⟩;(rw [HMB.out] at h1;cases h1);exact h2);have HB6:Hid (Below w5.heap.size w5 w6):=(Below.refl w5.heap.size w5).drew.trans hb6;have d0:w6.cell? ⟨s,0,none⟩=some (.slice aj nj cj):=(HS5.out.stay HB6.out).blk.cell 0 rfl;have f0:=(HS5.out.stay HB6.out).blk.free 0;have HV6:Hid (Sps w6 w5.heap.size v6 (forgetS lj t t)):=hs6;obtain ⟨a6,n6,c6,rfl⟩:∃ a n c,v6=.slice a n c:=(let ⟨a,c,h,_⟩:=hs6.form;⟨a,_,c,h⟩);clear hb6 hs6 hr6))
     all_goals (
      refine hM _ _ ?_
      go_meet
      have hrt:RightS Sp.zr (forgetS lj t t):=forget_right lj Sp.zr Sp.zr t t (Int.le_refl _) HS5.out.ok.right (Int.le_refl _) (fun _=>rfl)
      obtain ⟨a7,n7,c7,hv7,hm7⟩:=HV6.out.ok hrt
      simp only [Value.slice.injEq] at hv7
      obtain ⟨rfl,rfl,rfl⟩:=hv7
      refine ⟨a6,n6,c6,(HS5.out.stay HB6.out).setKnown hm7 (fun ad e => ?_),((Two.of_below s m HB6.out).setCell 0 _)⟩
      subst e
      have hlt:=HV6.out.row.lt ad.block rfl
      have:=HSL5.out
      exact ⟨hlt.2,by omega,by omega,HS5.out.zz _ hlt.1⟩)
    case rest =>
    obtain ⟨a6,n6,c6,HS6,HT6⟩:=hcut
    clear c0 r0 HFG HSE
    have HTW6:Hid (Two s m wr wc):=HTW5.out.trans HT6.out
    have HIJ6:Hid (IntsRd wc w.heap.size (some ⟨g,0,none⟩) N (X.map Prod.fst)):=HIJ.out.two HTW6.out hsl hml
    have q1:(1:Int)≤((N - j:Nat):Int):=by omega
    have q2:((N - j:Nat):Int)≤((rc - j:Nat):Int):=by omega
    have HLN:Hid (∀ u,atS (forgetS lj t t) u=if u∈(X.take (j+1)).map Prod.fst then 0 else atS l u):=by
     intro u
     rw [forget_at lj Sp.zr t t u (Int.le_refl _) (Int.le_refl _) HSJ.out.ok.right,HLJ.out u,HTK.out]
     by_cases e:u=t
     ·rw [if_pos (by omega),if_pos (by rw [e];simp)]
     ·rw [if_neg (by omega)]
      by_cases e2:u∈(X.take j).map Prod.fst
      ·rw [if_pos e2,if_pos (List.mem_append_left _ e2)]
      ·rw [if_neg e2,if_neg (by rw [List.mem_append,List.mem_singleton];exact fun h=>h.elim e2 e)]
    go_wp2
    go_roundw
    case rel =>
     refine ⟨j+1,a6,n6,c6,forgetS lj t t,?_,by omega,HS6,HLN,HIJ6,HTJ.out.trans HTW6.out⟩
     rw [Nat.sub_sub,Nat.sub_sub]
    case measure=>simp;omega
   ·have hlt':¬ (64:Int)<((N - j:Nat):Int):=by omega
    have ej:j=N - 64:=by omega
    have HSF:=HSJ.out
    have HLF:=HLJ.out
    rw [ej,← HNX.out] at HSF HLF
    go_wp2
    exact ⟨rfl,_,results_none rfl _ _ _,rfl,aj,nj,cj,lj,HSF,HLF,HTJ.out⟩
end
section
set_option maxRecDepth 100000
open Go.RowKit Go.Maps Go.Sort Go.Shelf
variable {Z:Nat→Prop}
def Imp (Z:Nat→Prop) (w:World) (s m:Nat) (L:List Sp) (X:List It):Prop:=∃ l,Str Z w s m l (getI X)∧∀ t,atS l t=kk L X t
theorem Imp.stay {w w':World} {s m:Nat} {L:List Sp} {X:List It} (h:Imp Z w s m L X) (hb:Below w.heap.size w w'):Imp Z w' s m L X:=by
 obtain ⟨l,h1,h2⟩:=h
 exact ⟨l,h1.stay hb,h2⟩
theorem rise_ext:∀ (A B:List Int),A.Pairwise (·<·)→B.Pairwise (·<·)→(∀ t,t∈A↔t∈B)→A=B
 | [],[],_,_,_=>rfl
 | [],b :: B,_,_,h=>by have:=(h b).2 (List.mem_cons_self ..);cases this
 | a :: A,[],_,_,h=>by have:=(h a).1 (List.mem_cons_self ..);cases this
 | a :: A,b :: B,ha,hb,h=>by
  obtain ⟨a1,a2⟩:=List.pairwise_cons.1 ha
  obtain ⟨b1,b2⟩:=List.pairwise_cons.1 hb
  have e:a=b:=by
   have h1:=(h a).1 (List.mem_cons_self ..)
   have h2:=(h b).2 (List.mem_cons_self ..)
   rcases List.mem_cons.1 h1 with e | h1
   ·exact e
   ·rcases List.mem_cons.1 h2 with e | h2
    ·exact e.symm
    ·have:=a1 b h2;have:=b1 a h1;omega
  subst e
  rw [rise_ext A B a2 b2 fun t => ?_]
  constructor
  ·intro ht
   rcases List.mem_cons.1 ((h t).1 (List.mem_cons_of_mem _ ht)) with rfl | h1
   ·have:=a1 t ht;omega
   ·exact h1
  ·intro ht
   rcases List.mem_cons.1 ((h t).2 (List.mem_cons_of_mem _ ht)) with rfl | h1
   ·have:=b1 t ht;omega
   ·exact h1
theorem Strm.keys {w:World} {s m:Nat} {l:List Sp} {Y:List It} {a:Option Addr} {n c:Nat} {X:List (Int×Value)} (h:Strm Z w s m l (getI Y) a n c X) (hY:RiseIt Y):X.map Prod.fst=Y.map fun q=>q.tick:=by
 refine rise_ext _ _ (List.pairwise_map.2 h.stm.rise) (List.pairwise_map.2 hY) fun t => ?_
 have hi:=h.its t
 constructor
 ·intro ht
  obtain ⟨p,hp,rfl⟩:=List.mem_map.1 ht
  have hg:=mem_get h.stm.rise hp
  cases ho:getI Y p.1 with
  | none=>rw [ho] at hi;have hi:getX X p.1=none:=hi;rw [hg] at hi;cases hi
  | some q=>have:=getI_tick ho;exact List.mem_map.2 ⟨q,this.2,this.1⟩
 ·intro ht
  obtain ⟨q,hq,rfl⟩:=List.mem_map.1 ht
  rw [getI_mem hY hq] at hi
  obtain ⟨_,_,_,ba,bc,hg,_⟩:=hi
  exact List.mem_map.2 ⟨_,get_mem hg,rfl⟩
theorem getX_none {X:List (Int×Value)} {t:Int} (h:∀ p∈X,p.1≠t):getX X t=none:=by
 cases hg:getX X t with
 | none=>rfl
 | some v=>exact absurd rfl (h _ (get_mem hg))
theorem getX_drop:∀ (X:List (Int×Value)) (k:Nat) (t:Int),RiseX X→getX (X.drop k) t=if t∈(X.take k).map Prod.fst then none else getX X t
 | X,0,t,_=>by simp
 | [],k+1,t,_=>by simp
 | p :: X,k+1,t,h=>by
  obtain ⟨h1,h2⟩:=List.pairwise_cons.1 h
  rw [List.drop_succ_cons,List.take_succ_cons,List.map_cons,getX_drop X k t h2]
  by_cases e:p.1=t
  ·have hn:getX X t=none:=getX_none fun q hq=>by have:=h1 q hq;omega
   rw [hn,ite_self,if_pos (by rw [e];exact List.mem_cons_self ..)]
  ·have hc:getX (p :: X) t=getX X t:=by
    show (if p.1=t then some p.2 else getX X t)=_
    rw [if_neg e]
   rw [hc]
   by_cases e2:t∈(X.take k).map Prod.fst
   ·rw [if_pos e2,if_pos (List.mem_cons_of_mem _ e2)]
   ·rw [if_neg e2,if_neg (fun hm=>(List.mem_cons.1 hm).elim (fun e3=>e e3.symm) e2)]
theorem getI_drop:∀ (X:List It) (k:Nat) (t:Int),RiseIt X→getI (X.drop k) t=if t∈(X.take k).map (fun q=>q.tick) then none else getI X t
 | X,0,t,_=>by simp
 | [],k+1,t,_=>by simp [getI]
 | p :: X,k+1,t,h=>by
  obtain ⟨h1,h2⟩:=List.pairwise_cons.1 h
  rw [List.drop_succ_cons,List.take_succ_cons,List.map_cons,getI_drop X k t h2]
  by_cases e:p.tick=t
  ·have hn:getI X t=none:=getI_none fun q hq=>by have:=h1 q hq;omega
   rw [hn,ite_self,if_pos (by rw [e];exact List.mem_cons_self ..)]
  ·have hc:getI (p :: X) t=getI X t:=by
    show (if p.tick=t then some p else getI X t)=_
    rw [if_neg e]
   rw [hc]
   by_cases e2:t∈(X.take k).map (fun q=>q.tick)
   ·rw [if_pos e2,if_pos (List.mem_cons_of_mem _ e2)]
   ·rw [if_neg e2,if_neg (fun hm=>(List.mem_cons.1 hm).elim (fun e3=>e e3.symm) e2)]
theorem Kn.keysIn {w:World} {s m:Nat} {l L:List Sp} {Y:List It} {a:Option Addr} {n c:Nat} {X:List (Int×Value)} (hK:Kn L Y) (h:Strm Z w s m l (getI Y) a n c X):∀ p∈X,1≤p.1∧p.1≤1099511627776:=by
 intro p hp
 have:p.1∈Y.map fun q=>q.tick:=by rw [← h.keys hK.rise];exact List.mem_map.2 ⟨p,hp,rfl⟩
 obtain ⟨q,hq,e⟩:=List.mem_map.1 this
 rw [← e]
 exact (hK.each q hq).1
theorem Strm.forgot {w w':World} {s m:Nat} {l L:List Sp} {Y:List It} {a:Option Addr} {n c:Nat} {X:List (Int×Value)} (hK:Kn L Y) (h:Strm Z w s m l (getI Y) a n c X) (hl:∀ t,atS l t=kk L Y t) (hf:Forgot Z s m l X w w'):∃ a' n' c' l' X',Strm Z w' s m l' (getI (Y.drop (Y.length - 64))) a' n' c' X'∧(∀ t,atS l' t=kk L (Y.drop (Y.length - 64)) t)∧Two s m w w':=by
 obtain ⟨a',n',c',l',hs,ha,ht⟩:=hf
 have hkeys:=h.keys hK.rise
 have hlen:X.length=Y.length:=by have:=congrArg List.length hkeys;simpa using this
 rw [hlen] at hs ha
 have htk:(X.take (Y.length - 64)).map Prod.fst=(Y.take (Y.length - 64)).map fun q=>q.tick:=by rw [List.map_take,List.map_take,hkeys]
 have hkk:∀ t,atS l' t=kk L (Y.drop (Y.length - 64)) t:=by
  intro t
  rw [ha t,htk,hl t]
  unfold kk
  rw [getI_drop Y _ t hK.rise]
  by_cases e:t∈(Y.take (Y.length - 64)).map fun q=>q.tick
  ·rw [if_pos e,if_pos e]
   obtain ⟨q,hq,rfl⟩:=List.mem_map.1 e
   show (0:Int)=atS L q.tick
   exact (hK.off q (List.mem_of_mem_take hq)).symm
  ·rw [if_neg e,if_neg e]
 refine ⟨a',n',c',l',_,⟨hs,fun t => ?_,fun t => ?_⟩,hkk,ht⟩
 ·rw [getI_drop Y _ t hK.rise,← htk]
  have hi:=ItAt.two h.stm (h.its t) ht
  have hg:=getX_drop X (Y.length - 64) t h.stm.rise
  by_cases e:t∈(X.take (Y.length - 64)).map Prod.fst
  ·rw [if_pos e] at hg ⊢
   exact hg
  ·rw [if_neg e] at hg ⊢
   exact hi.of_get hg
 ·rw [hkk t]
  unfold kk
  cases hg:getI (Y.drop (Y.length - 64)) t with
  | none =>
   have:=(hK.quiet t)
   simp [this]
  | some q=>simp
def tf (X:List It):List (Int×Int):=X.map fun q=>(q.tick,q.for_)
theorem tf_get:∀ {X Y:List It},tf X=tf Y→∀ t,forI (getI X) t=forI (getI Y) t
 | [],[],_,_=>rfl
 | [],_ :: _,h,_=>by cases h
 | _ :: _,[],h,_=>by cases h
 | x :: X,y :: Y,h,t=>by
  unfold tf at h
  rw [List.map_cons,List.map_cons,List.cons.injEq,Prod.mk.injEq] at h
  have ih:=tf_get (X:=X) (Y:=Y) h.2 t
  unfold forI at ih ⊢
  rw [getI,getI,h.1.1]
  split
  ·exact congrArg some h.1.2
  ·exact ih
theorem tf_of_get {X Y:List It} (hX:RiseIt X) (hY:RiseIt Y) (h:∀ t,forI (getI X) t=forI (getI Y) t):tf X=tf Y:=by
 have hs:∀ t,(getI X t).isSome=(getI Y t).isSome:=fun t=>by
  have:=h t
  unfold forI at this
  cases h1:getI X t <;> cases h2:getI Y t <;> rw [h1,h2] at this <;> first | rfl | cases this
 have hmem:∀ {Z:List It},RiseIt Z→∀ t,t∈(Z.map fun q=>q.tick)↔(getI Z t).isSome=true:=by
  intro Z hZ t
  constructor
  ·intro ht
   obtain ⟨q,hq,rfl⟩:=List.mem_map.1 ht
   rw [getI_mem hZ hq]
   rfl
  ·intro ht
   obtain ⟨q,hq⟩:=Option.isSome_iff_exists.1 ht
   have:=getI_tick hq
   exact List.mem_map.2 ⟨q,this.2,this.1⟩
 have hk:X.map (fun q=>q.tick)=Y.map fun q=>q.tick:=rise_ext _ _ (List.pairwise_map.2 hX) (List.pairwise_map.2 hY) fun t=>by rw [hmem hX,hmem hY,hs t]
 have hlen:X.length=Y.length:=by have:=congrArg List.length hk;simpa using this
 unfold tf
 refine List.ext_getElem? fun i => ?_
 rw [List.getElem?_map,List.getElem?_map]
 by_cases hi:i<X.length
 ·have hi2:i<Y.length:=by omega
  rw [List.getElem?_eq_getElem hi,List.getElem?_eq_getElem hi2]
  have ht:X[i].tick=Y[i].tick:=by
   have:=congrArg (fun l=>l[i]?) hk
   simp only [List.getElem?_map,List.getElem?_eq_getElem hi,List.getElem?_eq_getElem hi2,Option.map_some,Option.some.injEq] at this
   exact this
  have h1:=getI_mem hX (List.getElem_mem hi)
  have h2:=getI_mem hY (List.getElem_mem hi2)
  have h3:=h X[i].tick
  unfold forI at h3
  rw [h1,ht,h2] at h3
  have h3:X[i].for_=Y[i].for_:=Option.some.inj h3
  show some (X[i].tick,X[i].for_)=some (Y[i].tick,Y[i].for_)
  rw [ht,h3]
 ·rw [List.getElem?_eq_none (by omega),List.getElem?_eq_none (by omega)]
theorem same_iff {w w2:World} {s m s2 m2:Nat} {l l2:List Sp} {L L2:List Sp} {Y Y2:List It} {a a2:Option Addr} {n c n2 c2:Nat} {X X2:List (Int×Value)} (hK:Kn L Y) (hK2:Kn L2 Y2) (h:Strm Z w s m l (getI Y) a n c X) (h2:Strm Z w2 s2 m2 l2 (getI Y2) a2 n2 c2 X2) (hl:∀ t,atS l t=kk L Y t) (hl2:∀ t,atS l2 t=kk L2 Y2 t):(l=l2∧SameX X X2)↔(L=L2∧tf Y=tf Y2):=by
 have hoff:∀ {L:List Sp} {Y:List It},Kn L Y→∀ t,(getI Y t).isSome=true→atS L t=0:=by
  intro L Y hK t ht
  obtain ⟨q,hq⟩:=Option.isSome_iff_exists.1 ht
  have:=getI_tick hq
  rw [← this.1]
  exact hK.off q this.2
 constructor
 ·rintro ⟨rfl,hS⟩
  have hsup:∀ t,(getI Y t).isSome=(getI Y2 t).isSome:=fun t=>by rw [Bool.eq_iff_iff,← h.data t,← h2.data t]
  have hf:∀ t,forI (getI Y) t=forI (getI Y2) t:=fun t=>by
   rw [← h.forV t,← h2.forV t]
   cases hg:getX X t with
   | none =>
    have hn:getI Y t=none:=by
     have hi:=h.its t
     cases ho:getI Y t with
     | none=>rfl
     | some q=>rw [ho] at hi;obtain ⟨_,_,_,_,_,h4,_⟩:=hi;rw [hg] at h4;cases h4
    have hn2:getI Y2 t=none:=by have:=hsup t;rw [hn] at this;cases h3:getI Y2 t with | none=>rfl | some q=>rw [h3] at this;cases this
    have hi2:=h2.its t
    rw [hn2] at hi2
    have hi2:getX X2 t=none:=hi2
    rw [hi2]
   | some v =>
    obtain ⟨v2,e1,e2⟩:=hS.2 t v hg
    rw [e1]
    exact congrArg some e2
  refine ⟨canonS L L2 _ _ hK.right hK2.right fun t => ?_,tf_of_get hK.rise hK2.rise hf⟩
  have e:=(hl t).symm.trans (hl2 t)
  unfold kk at e
  have hs:=hsup t
  cases h1:(getI Y t).isSome with
  | true=>rw [hoff hK t h1,hoff hK2 t (hs ▸ h1)]
  | false =>
   rw [h1] at hs e
   rw [← hs] at e
   simpa using e
 ·rintro ⟨rfl,ht⟩
  have hf:=tf_get ht
  have hsup:∀ t,(getI Y t).isSome=(getI Y2 t).isSome:=fun t=>by
   have:=hf t
   unfold forI at this
   cases h1:getI Y t <;> cases h2:getI Y2 t <;> rw [h1,h2] at this <;> first | rfl | cases this
  refine ⟨canonS l l2 _ _ h.stm.ok.right h2.stm.ok.right fun t => ?_,same_of h h2 hf⟩
  rw [hl t,hl2 t]
  unfold kk
  rw [hsup t]
end
section
def hasI (L:List It) (t:Int):Int:=if L.any (fun q=>decide (q.tick=t))=true then 1 else 0
def forL (L:List It) (t:Int):Nat:=L.foldl (fun a q=>if q.tick=t then a ||| q.for_.toNat else a) 0
def kOf (p:Pc) (t:Int):Int:=max (atS p.spans t) (hasI p.items t)
theorem hasI_cons (q:It) (L:List It) (t:Int):hasI (q :: L) t=if q.tick=t then 1 else hasI L t:=by
 unfold hasI
 rw [List.any_cons]
 by_cases h:q.tick=t
 ·rw [if_pos h,decide_eq_true h,Bool.true_or,if_pos rfl]
 ·rw [if_neg h,decide_eq_false h,Bool.false_or]
theorem hasI_range (L:List It) (t:Int):0≤hasI L t∧hasI L t≤1:=by
 unfold hasI
 split <;> omega
theorem steps_K:∀ (L:List It) (K:Int→Int) (I:Int→Option It),(∀ t,0≤K t)→∀ t,(steps K I L).1 t=max (K t) (hasI L t)
 | [],K,_,hK,t=>by
  show K t=max (K t) 0
  have:=hK t
  omega
 | q :: L,K,I,hK,t=>by
  have hK':∀ u,0≤keepK K q u:=fun u=>by
   have:=hK u
   unfold keepK
   split <;> omega
  show (steps (keepK K q) (keepI K I q) L).1 t=_
  rw [steps_K L _ _ hK' t,hasI_cons]
  have hr:=hasI_range L t
  unfold keepK
  by_cases h:t=q.tick
  ·rw [if_pos h,if_pos h.symm];omega
  ·rw [if_neg h,if_neg (Ne.symm h)]
structure InvI (bod:Int→List Nat) (K:Int→Int) (I:Int→Option It) (F:Int→Nat):Prop where
 pos:∀ t,0≤K t
 its:∀ t,I t=if K t=1 then some ⟨t,(F t:Int),bod t⟩ else none
 zero:∀ t,K t=0→F t=0
theorem InvI.only {bod:Int→List Nat} {K:Int→Int} {I:Int→Option It} {F:Int→Nat} (h:InvI bod K I F) {S:Int→Int} (hS:∀ t,S t≠1):InvI bod (fun t=>max (K t) (S t)) (onlyI (fun t=>max (K t) (S t)) I) F:=by
 refine ⟨fun t=>by have:=h.pos t;show 0≤max (K t) (S t);omega,fun t => ?_,fun t ht=>h.zero t (by have:=h.pos t;have ht:max (K t) (S t)=0:=ht;omega)⟩
 unfold onlyI
 by_cases h1:max (K t) (S t)=1
 ·have hk:K t=1:=by have:=hS t;have:=h.pos t;omega
  rw [if_pos h1,if_pos h1,h.its t,if_pos hk]
 ·rw [if_neg h1,if_neg h1]
def keepF (F:Int→Nat) (q:It) (t:Int):Nat:=if q.tick=t then F t ||| q.for_.toNat else F t
theorem InvI.keep {bod:Int→List Nat} {K:Int→Int} {I:Int→Option It} {F:Int→Nat} (h:InvI bod K I F) {q:It} (hb:q.body=bod q.tick) (hf:0≤q.for_):InvI bod (keepK K q) (keepI K I q) (keepF F q):=by
 refine ⟨fun t => ?_,fun t => ?_,fun t ht => ?_⟩
 ·have:=h.pos t
  unfold keepK
  split <;> omega
 ·unfold keepK keepI keepF
  by_cases ht:t=q.tick
  ·subst ht
   rw [if_pos rfl,if_pos rfl,if_pos rfl]
   have hp:=h.pos q.tick
   by_cases h0:K q.tick=0
   ·rw [if_pos h0,h0,if_pos (by decide),h.zero _ h0,Nat.zero_or]
    obtain ⟨a,b,c⟩:=q
    simp only at hb hf
    rw [← hb]
    simp only [Option.some.injEq,It.mk.injEq,true_and,and_true]
    omega
   ·rw [if_neg h0,h.its]
    by_cases h1:K q.tick=1
    ·rw [if_pos h1,h1,if_pos (by decide)]
     rfl
    ·rw [if_neg h1,if_neg (by omega)]
     rfl
  ·rw [if_neg ht,if_neg ht,if_neg (Ne.symm ht)]
   exact h.its t
 ·unfold keepK at ht
  unfold keepF
  have hp:=h.pos t
  by_cases h1:t=q.tick
  ·rw [if_pos h1] at ht
   omega
  ·rw [if_neg h1] at ht
   rw [if_neg (Ne.symm h1)]
   exact h.zero t ht
theorem foldF:∀ (L:List It) (t:Int) (a:Nat),L.foldl (fun a q=>if q.tick=t then a ||| q.for_.toNat else a) a=a ||| forL L t
 | [],t,a=>by show a=a ||| 0;rw [Nat.or_zero]
 | q :: L,t,a=>by
  unfold forL
  rw [List.foldl_cons,List.foldl_cons]
  by_cases h:q.tick=t
  ·rw [if_pos h,if_pos h,foldF L t,foldF L t,Nat.zero_or,Nat.or_assoc]
  ·rw [if_neg h,if_neg h,foldF L t,foldF L t,Nat.zero_or]
theorem steps_inv {bod:Int→List Nat}:∀ (L:List It) {K:Int→Int} {I:Int→Option It} {F:Int→Nat},InvI bod K I F→(∀ q∈L,q.body=bod q.tick∧0≤q.for_)→InvI bod (steps K I L).1 (steps K I L).2 (fun t=>F t ||| forL L t)
 | [],_,_,F,h,_=>by
  have e:(fun t=>F t ||| forL [] t)=F:=funext fun t=>Nat.or_zero _
  rw [e]
  exact h
 | q :: L,K,I,F,h,hL=>by
  have hq:=hL q (List.mem_cons_self ..)
  have:=steps_inv L (h.keep hq.1 hq.2) fun p hp=>hL p (List.mem_cons_of_mem _ hp)
  have e:(fun t=>keepF F q t ||| forL L t)=fun t=>F t ||| forL (q :: L) t:=funext fun t=>by
   unfold keepF forL
   rw [List.foldl_cons]
   by_cases h1:q.tick=t
   ·rw [if_pos h1,if_pos h1,foldF L t (0 ||| _),Nat.zero_or,Nat.or_assoc]
    rfl
   ·rw [if_neg h1,if_neg h1]
  rw [e] at this
  exact this
theorem learn_inv {bod:Int→List Nat} {K:Int→Int} {I:Int→Option It} {F:Int→Nat} (h:InvI bod K I F) {p:Pc} (hp:TellOk p) (hb:∀ q∈p.items,q.body=bod q.tick):InvI bod (learnK K I p) (learnI K I p) (fun t=>F t ||| forL p.items t)∧∀ t,learnK K I p t=max (K t) (kOf p t):=by
 have h1:=h.only hp.quiet
 refine ⟨steps_inv p.items h1 fun q hq=>⟨hb q hq,(hp.each q hq).2.1.1⟩,fun t => ?_⟩
 unfold learnK kOf
 rw [steps_K _ _ _ h1.pos t]
 omega
def supK:List Pc→Int→Int
 | [],_=>0
 | p :: r,t=>max (kOf p t) (supK r t)
def supF:List Pc→Int→Nat
 | [],_=>0
 | p :: r,t=>forL p.items t ||| supF r t
theorem supK_le:∀ (P:List Pc) (t k:Int),0<k→(k≤supK P t↔∃ p∈P,k≤kOf p t)
 | [],t,k,hk=>by
  show k≤0↔_
  simp
  omega
 | p :: r,t,k,hk=>by
  show k≤max (kOf p t) (supK r t)↔_
  have ih:=supK_le r t k hk
  constructor
  ·intro h
   by_cases h1:k≤kOf p t
   ·exact ⟨p,List.mem_cons_self ..,h1⟩
   ·obtain ⟨q,hq,h2⟩:=ih.1 (by omega)
    exact ⟨q,List.mem_cons_of_mem _ hq,h2⟩
  ·rintro ⟨q,hq,h2⟩
   rcases List.mem_cons.1 hq with rfl | hq
   ·omega
   ·have:=ih.2 ⟨q,hq,h2⟩
    omega
theorem supK_pos:∀ (P:List Pc) (t:Int),0≤supK P t
 | [],_=>Int.le_refl _
 | p :: r,t=>by
  show 0≤max (kOf p t) (supK r t)
  have:=supK_pos r t
  omega
theorem supF_bit:∀ (P:List Pc) (t:Int) (i:Nat),(supF P t).testBit i=true↔∃ p∈P,(forL p.items t).testBit i=true
 | [],t,i=>by simp [supF]
 | p :: r,t,i=>by
  show ((forL p.items t ||| supF r t).testBit i=true)↔_
  rw [Nat.testBit_or,Bool.or_eq_true,supF_bit r t i]
  constructor
  ·rintro (h | ⟨q,hq,h⟩)
   ·exact ⟨p,List.mem_cons_self ..,h⟩
   ·exact ⟨q,List.mem_cons_of_mem _ hq,h⟩
  ·rintro ⟨q,hq,h⟩
   rcases List.mem_cons.1 hq with rfl | hq
   ·exact .inl h
   ·exact .inr ⟨q,hq,h⟩
theorem supK_same {P Q:List Pc} (h:∀ p,p∈P↔p∈Q) (t:Int):supK P t=supK Q t:=by
 have h1:∀ k,0<k→(k≤supK P t↔k≤supK Q t):=fun k hk=>by
  rw [supK_le P t k hk,supK_le Q t k hk]
  exact ⟨fun ⟨p,hp,h2⟩=>⟨p,(h p).1 hp,h2⟩,fun ⟨p,hp,h2⟩=>⟨p,(h p).2 hp,h2⟩⟩
 have hp:=supK_pos P t
 have hq:=supK_pos Q t
 by_cases a:supK P t=0
 ·by_cases b:supK Q t=0
  ·omega
  ·have:=(h1 (supK Q t) (by omega)).2 (Int.le_refl _)
   omega
 ·have c:=(h1 (supK P t) (by omega)).1 (Int.le_refl _)
  have d:=(h1 (supK Q t) (by omega)).2 (Int.le_refl _)
  omega
theorem supF_same {P Q:List Pc} (h:∀ p,p∈P↔p∈Q) (t:Int):supF P t=supF Q t:=by
 refine Nat.eq_of_testBit_eq fun i => ?_
 rw [Bool.eq_iff_iff,supF_bit P t i,supF_bit Q t i]
 exact ⟨fun ⟨p,hp,h2⟩=>⟨p,(h p).1 hp,h2⟩,fun ⟨p,hp,h2⟩=>⟨p,(h p).2 hp,h2⟩⟩
structure Learnt (bod:Int→List Nat) (P:List Pc) (K:Int→Int) (I:Int→Option It):Prop where
 inv:InvI bod K I (supF P)
 know:∀ t,K t=supK P t
theorem Learnt.none_ (bod:Int→List Nat):Learnt bod [] (fun _=>0) (fun _=>none):=⟨⟨fun _=>Int.le_refl _,fun t=>by rw [if_neg (by decide)],fun _ _=>rfl⟩,fun _=>rfl⟩
theorem Learnt.more {bod:Int→List Nat} {P:List Pc} {K:Int→Int} {I:Int→Option It} (h:Learnt bod P K I) {p:Pc} (hp:TellOk p) (hb:∀ q∈p.items,q.body=bod q.tick):Learnt bod (p :: P) (learnK K I p) (learnI K I p):=by
 obtain ⟨h1,h2⟩:=learn_inv h.inv hp hb
 have e:(fun t=>supF P t ||| forL p.items t)=supF (p :: P):=funext fun t=>Nat.or_comm _ _
 rw [e] at h1
 refine ⟨h1,fun t => ?_⟩
 rw [h2 t,h.know t]
 show max _ _=max (kOf p t) (supK P t)
 omega
theorem Learnt.same {bod:Int→List Nat} {P Q:List Pc} {K K2:Int→Int} {I I2:Int→Option It} (h:Learnt bod P K I) (h2:Learnt bod Q K2 I2) (hm:∀ p,p∈P↔p∈Q):(∀ t,K t=K2 t)∧∀ t,I t=I2 t:=by
 have hk:∀ t,K t=K2 t:=fun t=>by rw [h.know,h2.know,supK_same hm]
 refine ⟨hk,fun t => ?_⟩
 rw [h.inv.its,h2.inv.its,hk,supF_same hm]
theorem Learnt.again {bod:Int→List Nat} {P:List Pc} {K:Int→Int} {I:Int→Option It} (h:Learnt bod P K I) {p:Pc} (hp:TellOk p) (hb:∀ q∈p.items,q.body=bod q.tick) (hm:p∈P):(∀ t,learnK K I p t=K t)∧∀ t,learnI K I p t=I t :=
 (h.more hp hb).same h fun _=>⟨fun hq=>(List.mem_cons.1 hq).elim (fun e=>e ▸ hm) id,fun hq=>List.mem_cons_of_mem _ hq⟩
end
section
theorem chk_tell {p:Pc} (hk:p.kind=1) (hc:chk p=0):numB p false true true=true∧¬ (32<p.spans.length∨8<p.items.length)∧spB p=true∧itE p p.fr p.items=0:=by
 have h1:isB p.kind=true:=by rw [hk];rfl
 have e1:subB p.kind=false:=by rw [hk];rfl
 have e2:fromB p.kind=true:=by rw [hk];rfl
 have e3:toB p.kind=true:=by rw [hk];rfl
 have e4:newsB p.kind=true:=by rw [hk];rfl
 have h2:numB p (subB p.kind) (fromB p.kind) (toB p.kind)=true:=by
  cases hx:numB p (subB p.kind) (fromB p.kind) (toB p.kind) with
  | true=>rfl
  | false=>rw [chk_arg h1 hx] at hc;cases hc
 have h4:¬ (32<p.spans.length∨8<p.items.length):=fun h=>by rw [chk_many h1 h2 e4 h] at hc;cases hc
 have h5:spB p=true:=by
  cases hx:spB p with
  | true=>rfl
  | false=>rw [chk_form h1 h2 e4 h4 hx] at hc;cases hc
 rw [chk_items h1 h2 e4 h4 h5] at hc
 rw [e1,e2,e3] at h2
 exact ⟨h2,h4,h5,hc⟩
def bod (t:Int):List Nat:=[(t % 256).toNat,(t / 256 % 256).toNat]
end
end Go.Proofs.YtoiennkfdjnkbaaGreatDoor
