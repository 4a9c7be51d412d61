import Derived.Test.YtoiennkfdjnkbaaGreatDoorPk36
import Derived.Test.YtoiennkfdjnkbaaGreatDoorPk23
import Derived.WalkMore
import Derived.Test.YtoiennkfdjnkbaaGreatDoorPk25
import Derived.Test.YtoiennkfdjnkbaaGreatDoorPk31
import Derived.Deep.CutBlock
import Derived.Test.YtoiennkfdjnkbaaGreatDoorPk34
import Derived.BigRegion
set_option maxRecDepth 100000
set_option maxHeartbeats 8000000
namespace Go.Proofs.YtoiennkfdjnkbaaGreatDoor
section
set_option maxRecDepth 100000
open Go.RowKit
variable {Z:Nat→Prop}
theorem atS_mem:∀ {L:List Sp} {p:Sp},RightS p L→∀ {q:Sp} {u:Int},q∈L→q.fr≤u→u≤q.to→atS L u=q.is
 | [],_,_,_,_,h,_,_=>by cases h
 | s :: L,p,⟨a,b,c,d,e,f,g⟩,q,u,hq,h1,h2=>by
  rw [atS]
  rcases List.mem_cons.1 hq with rfl | hq
  ·rw [if_pos ⟨h1,h2⟩]
  ·have ih:=atS_mem g hq h1 h2
   by_cases hin:s.fr≤u∧u≤s.to
   ·rw [atS_low g hin.2] at ih
    have hr:1≤q.is:=right_is g hq
    omega
   ·rw [if_neg hin,ih]
 where
 right_is:∀ {L:List Sp} {p:Sp},RightS p L→∀ {q:Sp},q∈L→1≤q.is
 | s :: L,_,⟨_,_,_,d,_,_,g⟩,q,hq=>by
  rcases List.mem_cons.1 hq with rfl | hq
  ·exact d
  ·exact right_is g hq
theorem atS_some:∀ {L:List Sp} {u:Int},atS L u≠0→∃ q∈L,q.fr≤u∧u≤q.to∧q.is=atS L u
 | [],u,h=>absurd rfl h
 | s :: L,u,h=>by
  rw [atS] at h ⊢
  by_cases hin:s.fr≤u∧u≤s.to
  ·rw [if_pos hin]
   exact ⟨s,List.mem_cons_self ..,hin.1,hin.2,rfl⟩
  ·rw [if_neg hin] at h ⊢
   obtain ⟨q,hq,r⟩:=atS_some h
   exact ⟨q,List.mem_cons_of_mem _ hq,r⟩
def Sil (L:List Sp) (u:Int):Prop:=∃ q∈L,q.is=2∧q.fr≤u∧u≤q.to
theorem sil_iff {L:List Sp} (h:RightS Sp.zr L) (u:Int):Sil L u↔atS L u=2:=by
 constructor
 ·rintro ⟨q,hq,h1,h2,h3⟩
  rw [atS_mem h hq h2 h3,h1]
 ·intro h2
  obtain ⟨q,hq,a,b,c⟩:=atS_some (L:=L) (u:=u) (by omega)
  exact ⟨q,hq,by omega,a,b⟩
structure LostUp (L:List Sp) (t:Int) (i:Nat) (P:List Sp):Prop where
 right:RightS Sp.zr P
 in_:∀ u,1≤u∧u≤t→¬ Sil (L.take i) u→atS P u=3
 out:∀ u,¬ (1≤u∧u≤t∧¬ Sil (L.take i) u)→atS P u=0
theorem LostUp.zero (L:List Sp) {t:Int} (ht:0≤t∧t≤1099511627776):LostUp L t 0 (if 0<t then [⟨1,t,3⟩] else []):=by
 have hs:∀ u,¬ Sil (L.take 0) u:=fun u ⟨q,hq,_⟩=>by simp at hq
 by_cases h:0<t
 ·rw [if_pos h]
  refine ⟨⟨by show (0:Int)<1;decide,by show (1:Int)≤t;omega,ht.2,(by decide:(1:Int)≤3),Int.le_refl _,fun h=>(by have:=h.2;cases this),trivial⟩,fun u hu _ => ?_,fun u hu => ?_⟩
  ·show (if 1≤u∧u≤t then (3:Int) else 0)=3
   rw [if_pos hu]
  ·show (if 1≤u∧u≤t then (3:Int) else 0)=0
   rw [if_neg fun h=>hu ⟨h.1,h.2,hs u⟩]
 ·rw [if_neg h]
  exact ⟨trivial,fun u hu=>by omega,fun u _=>rfl⟩
theorem LostUp.last {L:List Sp} {t:Int} {P:List Sp} (h:LostUp L t L.length P) (hL:RightS Sp.zr L) {L1:List Sp} (hr:RightS Sp.zr L1) (ha:∀ u,atS L1 u=max (atS L u) (atS P u)):Lost L t L1:=by
 refine ⟨hr,fun u => ?_⟩
 have hs:=sil_iff hL u
 have hin:=h.in_ u
 have hout:=h.out u
 rw [List.take_length] at hin hout
 have hrg:=atS_range hL u
 rw [ha u]
 unfold loseK
 by_cases hc:1≤u∧u≤t∧atS L u≠2
 ·rw [if_pos hc,hin ⟨hc.1,hc.2.1⟩ (fun hh=>hc.2.2 (hs.1 hh))]
  omega
 ·rw [if_neg hc,hout fun hh=>hc ⟨hh.1,hh.2.1,fun h2=>hh.2.2 (hs.2 h2)⟩]
  omega
end
section
set_option maxRecDepth 100000
open Go.RowKit Go.Maps Go.Sort Go.Shelf
variable {Z:Nat→Prop}
def PiecesTold (L:List Sp) (X:List It) (lk f t:Int) (w:World) (e:Ending) (w':World):Prop:=(∃ a n c P,e=.returned (.slice a n c)∧Pcw w' w.heap.size (.slice a n c) P∧PiecesOf L X lk f t (P.map Prod.fst)∧BodsOk w P)∧Below w.heap.size w w'
structure PWalk (w w1 wr:World) (L:List Sp) (X:List It) (lk f t:Int) (a:Option Addr) (n c:Nat) (P:List Pb) (e:Int):Prop where
 row:Pcw wr w1.heap.size (.slice a n c) P
 up:PUp L X lk f t (P.map Prod.fst) e
 bods:BodsOk w P
 bel:Below w1.heap.size w1 wr
theorem PUp.fwd {L:List Sp} {X:List It} {lk f t:Int} {P:List Pce} {e e':Int} (h:PUp L X lk f t P e) (he:e≤e') (hg:∀ u,e<u→u≤e'→f≤u→u≤t→seeK L X lk u=0∧seeI X lk u=zIt):PUp L X lk f t P e':=by
 refine ⟨h.right,by have:=h.last;omega,fun u => ?_,fun u => ?_⟩
 ·rw [h.k u]
  by_cases h4:f≤u∧u≤t∧u≤e
  ·rw [if_pos h4,if_pos (by omega)]
  ·rw [if_neg h4]
   by_cases h5:f≤u∧u≤t∧u≤e'
   ·rw [if_pos h5,(hg u (by omega) h5.2.2 h5.1 h5.2.1).1]
   ·rw [if_neg h5]
 ·rw [h.i u]
  by_cases h4:f≤u∧u≤t∧u≤e
  ·rw [if_pos h4,if_pos (by omega)]
  ·rw [if_neg h4]
   by_cases h5:f≤u∧u≤t∧u≤e'
   ·rw [if_pos h5,(hg u (by omega) h5.2.2 h5.1 h5.2.1).2]
   ·rw [if_neg h5]
theorem PWalk.below {w w1 wr w':World} {L:List Sp} {X:List It} {lk f t:Int} {a:Option Addr} {n c:Nat} {P:List Pb} {e:Int} (h:PWalk w w1 wr L X lk f t a n c P e) (hb:Below wr.heap.size wr w'):PWalk w w1 w' L X lk f t a n c P e:=⟨h.row.below hb,h.up,h.bods,h.bel.trans (hb.mono h.bel.size)⟩
theorem PWalk.short {w w1 wr:World} {L:List Sp} {X:List It} {lk f t:Int} {a:Option Addr} {n c:Nat} {P:List Pb} {e:Int} (h:PWalk w w1 wr L X lk f t a n c P e):P.length≤2000000000000∧∀ d∈P,0≤d.1.1.to∧d.1.1.to≤1099511627776:=by
 refine ⟨?_,fun d hd => ?_⟩
 ·have:=RightP_len _ _ h.up.right (by decide)
  rw [List.length_map] at this
  have h0:Sp.zr.to=0:=rfl
  omega
 ·have:=RightP_each h.up.right d.1 (List.mem_map.2 ⟨d,hd,rfl⟩)
  have h0:Sp.zr.to=0:=rfl
  omega
theorem PWalk.lay {w w1 wr w':World} {L:List Sp} {X:List It} {lk f t:Int} {a a':Option Addr} {n c n' c':Nat} {P P':List Pb} {e:Int} (h:PWalk w w1 wr L X lk f t a n c P e) {x:Pb} (hw:Well x.1) (h1:e<x.1.1.fr) (h2:f≤x.1.1.fr) (h3:x.1.1.to≤t) (hg:∀ u,e<u→u<x.1.1.fr→f≤u→u≤t→seeK L X lk u=0∧seeI X lk u=zIt) (hin:∀ u,x.1.1.fr≤u→u≤x.1.1.to→seeK L X lk u=x.1.1.is∧seeI X lk u=x.1.2) (hb:x.1.1.is=1→x.2.2.1=x.1.2.body.length∧x.1.2.body.length≤400∧Rd w x.2.1 x.2.2.1 x.1.2.body∧(0≤x.1.2.for_∧x.1.2.for_≤4294967295)) (hr:Pcw w' w1.heap.size (.slice a' n' c') P') (hl:layP (P.map Prod.fst) x.1 (P'.map Prod.fst)) (hm:∀ y∈P',y.1.1.is=1→y∈P∨y=x) (hbe:Below w1.heap.size wr w'):PWalk w w1 w' L X lk f t a' n' c' P' x.1.1.to:=by
 refine ⟨hr,h.up.lay hw h1 h2 h3 hg hin hl,fun y hy hy1 => ?_,h.bel.trans hbe⟩
 rcases hm y hy hy1 with hy | rfl
 ·exact h.bods y hy hy1
 ·exact hb hy1
theorem Pcw.ne_type {w:World} {base g:Nat} {v:Value} {P:List Pb} {cs:Array Value} {t:TypeId} (h:Pcw w base v P) (hk:Bk w g cs t) (ht:t≠400):some g≠v.ownBlock:=fun e=>by
 rcases h.row.2 with ⟨h3,_⟩ | ⟨g',c',cur,h3,_,h4,_⟩
 ·rw [h3] at e;cases e
 ·rw [h3] at e
  simp only [Value.ownBlock,Option.some.injEq] at e
  have h5:w.heap[g]? = some (.cells cs t (0,0)):=hk
  rw [e,h4] at h5
  simp only [Option.some.injEq,Obj.cells.injEq] at h5
  exact ht h5.2.1.symm
set_option maxHeartbeats 16000000 in
theorem st_pieces {w:World} {s m:Nat} {l:List Sp} {L:List Sp} {X:List It} {a:Option Addr} {n c:Nat} {Y:List (Int×Value)} (h:Strm Z w s m l (getI X) a n c Y) (hl:∀ u,atS l u=kk L X u) {f t lk:Int} (hr:1≤f∧f≤t∧t≤1099511627776) :
  Calls Tryz.prog 252 #[.pointer (some ⟨s,0,none⟩),.int .i64 f,.int .i64 t,.int .u32 lk] w fun e w'=>PiecesTold L X lk f t w e w':=by
 have HS:Hid (Strm Z w s m l (getI X) a n c Y):=h
 have HLK:Hid (∀ u,atS l u=kk L X u):=hl
 obtain ⟨r1,r2,r3⟩:=hr
 have c0:w.cell? ⟨s,0,none⟩=some (.slice a n c):=h.stm.blk.cell 0 rfl
 have HRF:Hid (1≤f∧f≤t∧t≤1099511627776):=⟨r1,r2,r3⟩
 have HKP:Hid (Calls Tryz.prog 300 #[.slice a n c,.int .i64 f,.int .i64 t] w fun e w'=>(∃ v,e=.returned (.tuple #[v,.int .i64 0])∧Sps w' w.heap.size v (keepS l f t))∧Below w.heap.size w w'):=by
  refine (span_Keep a n c l f t w h.stm.ok.rd h.stm.ok.lc h.stm.ok.cm).mono ?_
  rintro e w' ⟨hr,hb⟩
  refine ⟨?_,hb⟩
  rcases hr.out with ⟨h1,_⟩ | ⟨_,h3⟩
  ·rw [(rightB_iff _ _).2 h.stm.ok.right,(mayB_iff f t).2 ⟨r1,r2,r3⟩] at h1;cases h1
  ·exact h3
 obtain ⟨l',HL'⟩:∃ l',Hid (keepS l f t=l'):=⟨_,rfl⟩
 have HR':Hid (RightS Sp.zr l'):=by (show RightS _ _);rw [← HL'.out];exact keep_right l Sp.zr Sp.zr f t h.stm.ok.right (Int.le_refl _) (fun _=>rfl)
 have HAT:Hid (∀ u,atS l' u=if f≤u∧u≤t then kk L X u else 0):=fun u=>by rw [← HL'.out,keep_at,hl u]
 obtain ⟨POST,HPO⟩:∃ P:Ending→World→Prop,Hid (P=fun e w'=>PiecesTold L X lk f t w e w'):=⟨_,rfl⟩
 have hpost:(fun e w'=>PiecesTold L X lk f t w e w')=fun e w'=>POST e w':=HPO.out.symm
 rw [hpost]
 have HIN:Hid (∀ u,atS l' u≠0→f≤u∧u≤t):=fun u hu=>by
  have:=HAT.out u
  split at this
  ·assumption
  ·exact absurd this hu
 clear hpost h hl r1 r2 r3
 go_enter Tryz.func252,Tryz.ntmps252
 go_wp2_with fail
 refine HKP.out.mono ?_
 rintro e w1 ⟨⟨v1,rfl,hs1⟩,hb1⟩
 rw [HL'.out] at hs1
 obtain ⟨ka,kc,rfl,hkl⟩:=hs1.form
 obtain ⟨kn,HKN⟩:∃ kn,Hid (l'.length=kn):=⟨_,rfl⟩
 have HKS:Hid (SpsRd w1 ka kn l'):=by (show SpsRd _ _ _ _);rw [← HKN.out];exact hs1.rd
 have hkn:kn≤1099511627776:=by rw [← HKN.out];exact right_short HR'.out
 rw [HKN.out]
 have HB1:Hid (Below w.heap.size w w1):=hb1
 have HW0:Hid (PWalk w w1 w1 L X lk f t none 0 0 [] 0):=⟨Pcw.nil_ _ _,PUp.start L X lk t HRF.out.1,fun x hx=>(by cases hx),Below.refl _ _⟩
 clear hs1 hb1 hkl HKP c0
 go_wp2
 go_loopw [11,27] (fun t11 t27 wr=>∃ (k:Nat) (pa:Option Addr) (pn pc:Nat) (P:List Pb) (p:Sp),t11=.slice pa pn pc∧t27=.int .i64 (k:Int)∧k≤kn∧Hid (RightS p (l'.drop k)∧(∀ u,p.to<u→atS l' u=atS (l'.drop k) u))∧Hid (PWalk w w1 wr L X lk f t pa pn pc P p.to)) (fun _ t27 _=>kn - (intOf t27).toNat)
 case atStart=>exact ⟨0,none,0,0,[],Sp.zr,rfl,rfl,Nat.zero_le _,⟨HR'.out,fun u _=>rfl⟩,HW0⟩
 case round =>
  obtain ⟨k,pa,pn,pc,P,p,rfl,rfl,hk,HPP,HPW⟩:=hrel
  obtain ⟨w2,rfl⟩:∃ w2,w2=wr:=⟨wr,rfl⟩
  have HBW:Hid (Below w.heap.size w w2):=HB1.out.trans (HPW.out.bel.mono HB1.out.size)
  have HSZ:Hid (w1.heap.size≤w2.heap.size):=HPW.out.bel.size
  by_cases hlt:k<kn
  ·have hlt':(k:Int)<(kn:Int):=by omega
   have gk:(0:Int)≤(k:Int):=by omega
   obtain ⟨g,o,rfl,hg,q,hq,d0,d1,d2⟩:=(HKS.out.below HPW.out.bel).at_ k hlt
   have HD:Hid (l'.drop k=q :: l'.drop (k+1)):=drop_at hq
   have hpp:=HPP.out
   rw [HD.out] at hpp
   obtain ⟨⟨a1,a2,a3,a4,a5,a6,a7⟩,hat⟩:=hpp
   have hin:∀ u,q.fr≤u→u≤q.to→atS l' u=q.is:=fun u h1 h2=>by rw [hat u (by omega)];exact atS_in h1 h2
   have hgap:∀ u,p.to<u→u<q.fr→f≤u→u≤t→seeK L X lk u=0∧seeI X lk u=zIt:=fun u h1 h2 h3 h4=>by
    have h5:=hat u h1
    rw [atS_out (by omega),atS_low a7 (by omega),HAT.out u,if_pos ⟨h3,h4⟩] at h5
    exact see_of.1 h5
   have hf1:=HIN.out q.fr (by rw [hin q.fr (Int.le_refl _) a2];omega)
   have hf2:=HIN.out q.to (by rw [hin q.to a2 (Int.le_refl _)];omega)
   have HNX:Hid (RightS q (l'.drop (k+1))∧(∀ u,q.to<u→atS l' u=atS (l'.drop (k+1)) u)):=⟨a7,fun u hu=>by rw [hat u (by omega),atS_out (by omega)]⟩
   have HGAP:Hid (∀ u,p.to<u→u<q.fr→f≤u→u≤t→seeK L X lk u=0∧seeI X lk u=zIt):=hgap
   have HKI:Hid (∀ u,q.fr≤u→u≤q.to→kk L X u=q.is):=fun u h1 h2=>by
    have h5:=hin u h1 h2
    rw [HAT.out u,if_pos (by omega)] at h5
    exact h5
   obtain ⟨qf,qt,qi⟩:=q
   simp only at d0 d1 d2 a1 a2 a3 a4 a5 hf1 hf2 HNX HGAP HKI
   have HA:Hid (p.to<qf∧qf≤qt∧qt≤1099511627776∧1≤qi∧qi≤3∧f≤qf∧qt≤t):=⟨a1,a2,a3,a4,a5,hf1.1,hf2.2⟩
   have b1:1≤qf:=by have:=HRF.out.1;omega
   obtain ⟨W3,HW3⟩:∃ W3,Hid (W3=w2.alloc (.cells #[.int .i64 qf,.int .i64 qt,.int .i64 qi] 186)):=⟨_,rfl⟩
   have HB3:Hid (Below w2.heap.size w2 W3):=by (show Below _ _ _);rw [HW3.out];exact below_new w2 _
   have HK3:Hid (Bk W3 w2.heap.size #[.int .i64 qf,.int .i64 qt,.int .i64 qi] 186):=by (show Bk _ _ _ _);rw [HW3.out];exact Bk.new w2 _ _
   obtain ⟨sv,HSV⟩:∃ sv,Hid (sv=w2.heap.size):=⟨_,rfl⟩
   have HK3:Hid (Bk W3 sv #[.int .i64 qf,.int .i64 qt,.int .i64 qi] 186):=by (show Bk _ _ _ _);rw [HSV.out];exact HK3.out
   have HP3:Hid (PWalk w w1 W3 L X lk f t pa pn pc P p.to):=HPW.out.below HB3.out
   have HS3:Hid (w1.heap.size≤W3.heap.size):=HP3.out.bel.size
   clear hq hg hin hgap hat a1 a4 a5 a6 a7 hf1 hf2
   go_upto_region 6 with fail
   rw [← HW3.out,← HSV.out]
   clear d0 d1 d2
   have e0:W3.cell? ⟨sv,0,none⟩=some (.int .i64 qf):=HK3.out.cell 0 rfl
   have e1:W3.cell? ⟨sv,1,none⟩=some (.int .i64 qt):=HK3.out.cell 1 rfl
   have e2:W3.cell? ⟨sv,2,none⟩=some (.int .i64 qi):=HK3.out.cell 2 rfl
   by_cases h1:qi=1
   ·subst h1
    go_wp2
    go_loopw [11,14] (fun t11 t14 wr=>∃ (tt e:Int) (pa:Option Addr) (pn pc:Nat) (P:List Pb),t11=.slice pa pn pc∧t14=.int .i64 tt∧qf≤tt∧tt≤qt+1∧Hid (e<tt∧∀ u,e<u→u<tt→f≤u→u≤t→seeK L X lk u=0∧seeI X lk u=zIt)∧Hid (PWalk w w1 wr L X lk f t pa pn pc P e)∧Hid (Bk wr sv #[.int .i64 qf,.int .i64 qt,.int .i64 1] 186)) (fun _ t14 _=>(1099511627778 - intOf t14).toNat)
    case atStart=>exact ⟨qf,p.to,pa,pn,pc,P,rfl,rfl,Int.le_refl _,by omega,⟨HA.out.1,HGAP.out⟩,HP3,HK3⟩
    case round =>
     obtain ⟨tt,ee,pa2,pn2,pc2,P2,rfl,rfl,ht1,ht2,HE,HPW2,HKW⟩:=hrel
     obtain ⟨w4,rfl⟩:∃ w4,w4=wr:=⟨wr,rfl⟩
     clear e0 e1 e2
     have e1:w4.cell? ⟨sv,1,none⟩=some (.int .i64 qt):=HKW.out.cell 1 rfl
     by_cases hle:tt≤qt
     ·have hk1:=HKI.out tt ht1 hle
      obtain ⟨q,hq⟩:∃ q,getI X tt=some q:=by
       unfold kk at hk1
       cases hg:getI X tt with
       | some q=>exact ⟨q,rfl⟩
       | none =>
        exfalso
        have:=(HS.out.data tt).1 (by rw [HLK.out tt];unfold kk;rw [hg];rw [hg] at hk1;exact hk1)
        rw [hg] at this
        cases this
      have hi:=HS.out.its tt
      rw [hq] at hi
      obtain ⟨i1,i2,i3,da,dc,i4,i5,_⟩:=hi
      have HBW4:Hid (Below w.heap.size w w4):=HB1.out.trans (HPW2.out.bel.mono HB1.out.size)
      have hst:Stm Z w4 s m a n c l Y:=HS.out.stm.stay HBW4.out
      have c1:w4.cell? ⟨s,1,none⟩=some (.map (some m)):=hst.blk.cell 1 rfl
      have hlk:=hst.look (t:=tt) (by have:=HA.out;omega)
      rw [i4] at hlk
      have HQ:Hid (getI X tt=some q):=hq
      have HBO:Hid (q.tick=tt∧(0≤q.for_∧q.for_≤4294967295)∧q.body.length≤400∧Rd w da q.body.length q.body):=⟨i1,i2,i3,i5⟩
      obtain ⟨N,HN⟩:∃ N,Hid (q.body.length=N):=⟨_,rfl⟩
      rw [HN.out,← i1] at hlk
      have HPO2:Hid (∀ W,Calls Tryz.prog 302 #[.agg #[.int .i64 q.tick,.int .u32 q.for_,.slice da N dc],.int .u32 lk] W fun e w'=>e=.returned (pval (pieceV lk q (da,N,dc)))∧Below W.heap.size W w'):=fun W=>st_pieceOf q da N dc lk W
      have hlk:(Instr.lookup 182 (.map (some m)) (.int .i64 tt) false).run Tryz.prog w4=.ok (.agg #[.int .i64 q.tick,.int .u32 q.for_,.slice da N dc]) w4:=by rw [← i1];exact hlk
      clear hq i1 i2 i3 i4 i5 hst hk1
      go_wp2_with fail
      refine (HPO2.out w4).mono ?_
      rintro e w5 ⟨rfl,hb5⟩
      have HP5:Hid (PWalk w w1 w5 L X lk f t pa2 pn2 pc2 P2 ee):=HPW2.out.below hb5
      have HK5:Hid (Bk w5 sv #[.int .i64 qf,.int .i64 qt,.int .i64 1] 186):=HKW.out.stay hb5
      obtain ⟨x,HX⟩:∃ x,Hid (pieceV lk q (da,N,dc)=x):=⟨_,rfl⟩
      rw [HX.out]
      clear hb5 hlk c1 e1
      have HLY:Hid (Calls Tryz.prog 301 #[.slice pa2 pn2 pc2,pval x] w5 fun e w'=>LayTold w1.heap.size (.slice pa2 pn2 pc2) P2 x w5 e w'):=st_lay HP5.out.row (HP5.out.bel.size) HP5.out.short.1 x HP5.out.short.2
      generalize hpv:pval x=pv at HLY
      have HPV:Hid (pval x=pv):=hpv
      clear hpv
      go_wp2_with fail
      refine HLY.out.mono ?_
      rintro e w6 ⟨hot,⟨a6,n6,c6,P6,rfl,hr6,hl6,hm6⟩,hb6⟩
      have HK6:Hid (Bk w6 sv #[.int .i64 qf,.int .i64 qt,.int .i64 1] 186):=(hot sv HK5.out.lt (HP5.out.row.ne_type HK5.out (by decide))).trans HK5.out
      have HP6:Hid (PWalk w w1 w6 L X lk f t a6 n6 c6 P6 tt):=by
       have hx:=HX.out
       obtain ⟨y1,y2,y3,y4⟩:=HBO.out
       obtain ⟨v1,v2,v3,v4,v5⟩:=pieceV_at (lk:=lk) (q:=q) (b:=(da,N,dc))
       rw [hx,y1] at v1 v2
       rw [hx] at v3 v4 v5
       have hs:=(see_of (L:=L) (X:=X) (lk:=lk) (u:=tt)).2.2 q HQ.out
       have hres:=HP5.out.lay (x:=x) (by rw [← hx];exact pieceV_well (by rw [y1];have:=HA.out;omega)) (by rw [v1];exact HE.out.1) (by rw [v1];have:=HA.out;omega) (by rw [v2];have:=HA.out;omega) (fun u h1 h2=>HE.out.2 u h1 (by rw [v1] at h2;exact h2)) (fun u h1 h2=>by
        rw [v1] at h1
        rw [v2] at h2
        have:u=tt:=by omega
        rw [this,v3,v4]
        exact hs) (fun h1=>by
        rw [v5 h1]
        exact ⟨HN.out.symm,y3,by rw [← HN.out];exact y4,y2⟩) hr6 hl6 hm6 hb6
       rw [v2] at hres
       exact hres
      clear hot hr6 hl6 hm6 hb6
      go_wp2
      go_roundw
      case rel=>exact ⟨tt+1,tt,a6,n6,c6,P6,rfl,by go_num,by omega,by omega,⟨by omega,fun u h1 h2=>by omega⟩,HP6,HK6⟩
      case measure=>simp [intOf];have:=HA.out;omega
     ·have hnle:¬ tt≤qt:=hle
      have HPF:Hid (PWalk w w1 w4 L X lk f t pa2 pn2 pc2 P2 qt):=⟨HPW2.out.row,HPW2.out.up.fwd (by have:=HE.out.1;omega) (fun u h1 h2=>HE.out.2 u h1 (by omega)),HPW2.out.bods,HPW2.out.bel⟩
      go_wp2
      go_roundw
      case rel=>exact ⟨k+1,pa2,pn2,pc2,P2,⟨qf,qt,1⟩,rfl,by go_num,by omega,HNX,HPF⟩
      case measure=>simp [intOf];omega
   ·have hne:(qi != 1)=true:=by rw [bne_iff_ne];exact h1
    have HLY:Hid (Calls Tryz.prog 301 #[.slice pa pn pc,.agg #[.int .i64 qf,.int .i64 qt,.int .i64 qi,.int .i64 0,.int .u32 0,.slice none 0 0]] W3 fun e w'=>LayTold w1.heap.size (.slice pa pn pc) P ((⟨qf,qt,qi⟩,zIt),(none,0,0)) W3 e w'):=st_lay HP3.out.row HS3.out HP3.out.short.1 ((⟨qf,qt,qi⟩,zIt),(none,0,0)) HP3.out.short.2
    have HN1:Hid (qi≠1):=h1
    clear h1
    go_wp2_with fail
    refine HLY.out.mono ?_
    rintro e w6 ⟨hot,⟨a6,n6,c6,P6,rfl,hr6,hl6,hm6⟩,hb6⟩
    have HP6:Hid (PWalk w w1 w6 L X lk f t a6 n6 c6 P6 qt):=HP3.out.lay (x:=((⟨qf,qt,qi⟩,zIt),(none,0,0))) ⟨HA.out.2.1,HA.out.2.2.1,⟨HA.out.2.2.2.1,HA.out.2.2.2.2.1⟩,fun h=>absurd h HN1.out,fun _=>rfl⟩ HA.out.1 HA.out.2.2.2.2.2.1 HA.out.2.2.2.2.2.2 HGAP.out (fun u h1 h2=>by
     have h5:=HKI.out u h1 h2
     have:=(see_of (L:=L) (X:=X) (lk:=lk) (u:=u)).2.1 (by rw [h5];exact HN1.out)
     rw [h5] at this
     exact this) (fun h=>absurd h HN1.out) hr6 hl6 hm6 hb6
    clear hot hr6 hl6 hm6 hb6 e0 e1 e2
    go_wp2
    go_roundw
    case rel=>exact ⟨k+1,a6,n6,c6,P6,⟨qf,qt,qi⟩,rfl,by go_num,by omega,HNX,HP6⟩
    case measure=>simp [intOf];omega
  ·have hnl:¬ (k:Int)<(kn:Int):=by omega
   have HND:Hid (∀ u,p.to<u→f≤u→u≤t→seeK L X lk u=0∧seeI X lk u=zIt):=fun u h1 h2 h3=>by
    have h5:=HPP.out.2 u h1
    rw [List.drop_of_length_le (by rw [HKN.out];omega),HAT.out u,if_pos ⟨h2,h3⟩] at h5
    exact see_of.1 h5
   go_wp2
   rw [HPO.out]
   exact ⟨⟨pa,pn,pc,P,rfl,HPW.out.row.lower HB1.out.size,HPW.out.up.end_ HND.out,HPW.out.bods⟩,HBW.out⟩
end
section
set_option maxRecDepth 100000
open Go.RowKit Go.Maps Go.Sort Go.Shelf
variable {Z Z':Nat→Prop}
theorem Stm.frame {w w':World} {s m:Nat} {a:Option Addr} {n c:Nat} {l:List Sp} {X:List (Int×Value)} (h:Stm Z w s m a n c l X) (hs:w.heap.size≤w'.heap.size) (h1:w'.heap[s]? = w.heap[s]?) (h2:w'.heap[m]? = w.heap[m]?) (hk:∀ k,k<w.heap.size→Z k→HasInt w k→w'.heap[k]? = w.heap[k]?):Stm Z w' s m a n c l X:=by
 refine ⟨h1.trans h.blk,⟨h.ok.rd.frame (fun ad e=>(h.apart ad e).2.2.2) hs hk,h.ok.lc,h.ok.cm,h.ok.right⟩,?_,h.rise,fun ad e=>⟨Nat.lt_of_lt_of_le (h.apart ad e).1 hs,(h.apart ad e).2⟩,fun k hk=>h.zz k (Nat.le_trans hs hk)⟩
 obtain ⟨es,clock,hbk,F,r⟩:=h.items
 exact ⟨es,clock,h2.trans hbk,F,r⟩
theorem ItAt.frame {w w':World} {X:List (Int×Value)} {t:Int} {o:Option It} (h:ItAt Z w X t o) (hs:w.heap.size≤w'.heap.size) (hk:∀ k,k<w.heap.size→Z k→HasInt w k→w'.heap[k]? = w.heap[k]?):ItAt Z w' X t o:=by
 cases o with
 | none=>exact h
 | some q =>
  obtain ⟨h1,h2,h3,ba,bc,h4,h5,h6⟩:=h
  refine ⟨h1,h2,h3,ba,bc,h4,?_,h6⟩
  by_cases hq:q.body=[]
  ·exact ⟨rfl,h5.byte,.inl (by rw [hq];rfl)⟩
  ·refine h5.frame hs fun ad e hlt=>hk _ hlt ((h6 ad e).resolve_left hq) (.inl ?_)
   rcases h5.cells with h0 | ⟨g,o,ha,hg,hc⟩
   ·exact absurd (List.eq_nil_of_length_eq_zero h0) hq
   ·rw [ha] at e
    cases e
    exact ⟨_,_,_,hc 0 (List.length_pos_iff.2 hq)⟩
theorem Strm.frame {w w':World} {s m:Nat} {l:List Sp} {I:Int→Option It} {a:Option Addr} {n c:Nat} {X:List (Int×Value)} (h:Strm Z w s m l I a n c X) (hs:w.heap.size≤w'.heap.size) (h1:w'.heap[s]? = w.heap[s]?) (h2:w'.heap[m]? = w.heap[m]?) (hk:∀ k,k<w.heap.size→Z k→HasInt w k→w'.heap[k]? = w.heap[k]?):Strm Z w' s m l I a n c X:=⟨h.stm.frame hs h1 h2 hk,fun t=>(h.its t).frame hs hk,h.data⟩
theorem Imp.frame {w w':World} {s m:Nat} {L:List Sp} {X:List It} (h:Imp Z w s m L X) (hs:w.heap.size≤w'.heap.size) (h1:w'.heap[s]? = w.heap[s]?) (h2:w'.heap[m]? = w.heap[m]?) (hk:∀ k,k<w.heap.size→Z k→HasInt w k→w'.heap[k]? = w.heap[k]?):Imp Z w' s m L X:=by
 obtain ⟨l,⟨a,n,c,Y,g⟩,e⟩:=h
 exact ⟨l,⟨a,n,c,Y,g.frame hs h1 h2 hk⟩,e⟩
theorem Imp.zz {w:World} {s m:Nat} {L:List Sp} {X:List It} (h:Imp Z w s m L X):∀ k,w.heap.size≤k→Z k:=by
 obtain ⟨l,⟨a,n,c,Y,g⟩,e⟩:=h
 exact g.stm.zz
structure Tri (Z:Nat→Prop) (s m y:Nat) (w w':World):Prop where
 os:w'.os=w.os
 tape:w'.tape=w.tape
 output:w'.output=w.output
 size:w.heap.size≤w'.heap.size
 block:∀ k,k<w.heap.size→Z k→k≠s→k≠m→k≠y→w'.heap[k]? = w.heap[k]?
theorem Tri.refl (s m y:Nat) (w:World):Tri Z s m y w w:=⟨rfl,rfl,rfl,Nat.le_refl _,fun _ _ _ _ _ _=>rfl⟩
theorem Tri.trans {s m y:Nat} {w w1 w2:World} (a:Tri Z s m y w w1) (b:Tri Z s m y w1 w2):Tri Z s m y w w2:=⟨b.os.trans a.os,b.tape.trans a.tape,b.output.trans a.output,Nat.le_trans a.size b.size,fun k hk hz h1 h2 h3=>(b.block k (Nat.lt_of_lt_of_le hk a.size) hz h1 h2 h3).trans (a.block k hk hz h1 h2 h3)⟩
theorem Tri.of_below (s m y:Nat) {w w1:World} (a:Below w.heap.size w w1):Tri Z s m y w w1:=⟨a.os,a.tape,a.output,a.size,fun k hk _ _ _ _=>a.block k hk⟩
theorem Tri.mono {s m y:Nat} {w w1:World} (a:Tri Z s m y w w1) (hz:∀ k,k<w.heap.size→Z' k→Z k):Tri Z' s m y w w1:=⟨a.os,a.tape,a.output,a.size,fun k hk h=>a.block k hk (hz k hk h)⟩
end
section
set_option maxRecDepth 100000
open Go.RowKit
variable {Z:Nat→Prop}
def TyS (B:Nat) (w:World) (a:Option Addr):Prop:=∀ ad,a=some ad→ad.block<w.heap.size∧(ad.block<B∨∃ cs m,w.heap[ad.block]? = some (.cells cs 186 m))
theorem TyS.below {B:Nat} {w w':World} {a:Option Addr} (h:TyS B w a) (hb:Below w.heap.size w w'):TyS B w' a:=fun ad e=>by
 obtain ⟨h1,h2⟩:=h ad e
 refine ⟨Nat.lt_of_lt_of_le h1 hb.size,?_⟩
 rcases h2 with h2 | ⟨cs,m,h2⟩
 ·exact .inl h2
 ·exact .inr ⟨cs,m,by rw [hb.block _ h1];exact h2⟩
theorem wp_append_ro {w:World} {o:Oper} {act:Act} {K:Act→World→Prop} {Q:Exit→Act→World→Prop} (s x:Operand)
  (ho:o.op=.call { callee:=.builtin .append,args:=#[s,x],argTypes:=#[114,114] })
  (base:Nat) (v:Value) (R:List (It×Bd)) (hs:act.eval s=v) (hown:Ros Z w base v R) (ad:Addr) (c:Nat) (q:It×Bd) (hx:act.eval x=.slice (some ad) 1 c) (hnews:∀ j u,(icells q.1 q.2)[j]? = some u→w.cell? (ad.add j)=some u) (hb:BdT Z w q.2 q.1.body) (hq:ItIn q.1) (hl:R.length≤1000000000000) (hbase:base≤w.heap.size)
  (h:∀ v' w',Ros Z w' base v' (R++[q])→w.grownBy w' v.ownBlock→Below base w w'→(v≠.slice none 0 0→v'≠.slice none 0 0)→K (act.put o.dst v') w'):Oper.wp Tryz.prog o act w K Q:=by
 obtain ⟨v',w',hrun,h2,h3,h4,h5⟩:=run_append_ro w o.type base v R hown ad c q hnews hb hq hl hbase
 unfold Oper.wp
 simp only [execOp,ho,resolve,invoke,builtin,Sem.run_bind,Sem.run_pure,Result.andThen_ok,List.map_toArray,List.map_cons,List.map_nil,hs,hx,hrun]
 exact h v' w' h2 h3 h4 h5
theorem step_append_ro {w:World} {ops:Array Oper} {o:Oper} {act:Act} {K:Act→World→Prop} {Q:Exit→Act→World→Prop} {E:Prop} (hgd:o.guard=none) (s x:Operand)
  (ho:o.op=.call { callee:=.builtin .append,args:=#[s,x],argTypes:=#[114,114] })
  (base:Nat) (v:Value) (R:List (It×Bd)) (hs:act.eval s=v) (hown:Ros Z w base v R) (ad:Addr) (c:Nat) (q:It×Bd) (hx:act.eval x=.slice (some ad) 1 c) (hnews:∀ j u,(icells q.1 q.2)[j]? = some u→w.cell? (ad.add j)=some u) (hb:BdT Z w q.2 q.1.body) (hq:ItIn q.1) (hl:R.length≤1000000000000) (hbase:base≤w.heap.size)
  (h:∀ v' w',Ros Z w' base v' (R++[q])→w.grownBy w' v.ownBlock→Below base w w'→(v≠.slice none 0 0→v'≠.slice none 0 0)→K (act.put o.dst v') w'):if Region.wanted o (yielded ops act.tmps)=true then Oper.wp Tryz.prog o act w K Q else E:=by
 rw [if_pos (by simp [Region.wanted,hgd])]
 exact wp_append_ro s x ho base v R hs hown ad c q hx hnews hb hq hl hbase h
end
end Go.Proofs.YtoiennkfdjnkbaaGreatDoor
