import Derived.Test.YtoiennkfdjnkbaaGreatDoorSm4
import Derived.Test.YtoiennkfdjnkbaaGreatDoorPk18
import Derived.Test.YtoiennkfdjnkbaaGreatDoorPk27
set_option maxRecDepth 100000
set_option maxHeartbeats 8000000
namespace Go.Proofs.YtoiennkfdjnkbaaGreatDoor
section
set_option maxRecDepth 100000
open Go.RowKit Go.Maps Go.Sort Go.Shelf
variable {Z:Nat→Prop}
theorem RightS.same {p p':Sp} {l:List Sp} (h:RightS p l) (h1:p'.to=p.to) (h2:p'.is=p.is):RightS p' l:=by
 cases l with
 | nil=>trivial
 | cons s l =>
  obtain ⟨a,b,c,d,e,f,g⟩:=h
  exact ⟨by omega,b,c,d,e,by rw [h1,h2];exact f,g⟩
theorem right_of (K:Int→Int) (h0:∀ u,0≤K u∧K u≤3) (h1:∀ u,u<1→K u=0) (h2:∀ u,1099511627776<u→K u=0):∃ l,RightS Sp.zr l∧∀ u,atS l u=K u:=by
 have key:∀ n:Nat,n≤1099511627776→∃ l,(∀ u,atS l u=if 1099511627777 - (n:Int)≤u then K u else 0)∧(l=[] ∨ ∃ s r,l=s :: r∧1099511627777 - (n:Int)≤s.fr∧s.fr≤s.to∧s.to≤1099511627776∧1≤s.is∧s.is≤3∧RightS s r):=by
  intro n
  induction n with
  | zero =>
   intro _
   refine ⟨[],fun u => ?_,.inl rfl⟩
   show (0:Int)=_
   split
   ·exact (h2 u (by omega)).symm
   ·rfl
  | succ n ih =>
   intro hn
   obtain ⟨l,ha,hl⟩:=ih (by omega)
   obtain ⟨f,hf⟩:∃ f:Int,f=1099511627777 - ((n+1:Nat):Int):=⟨_,rfl⟩
   have hf1:1099511627777 - (n:Int)=f+1:=by omega
   rw [hf1] at ha hl
   rw [← hf]
   have hk:=h0 f
   by_cases hz:K f=0
   ·refine ⟨l,fun u => ?_,?_⟩
    ·rw [ha u]
     by_cases e:u=f
     ·rw [if_neg (by omega),if_pos (by omega),e,hz]
     ·by_cases e2:f≤u
      ·rw [if_pos (by omega),if_pos e2]
      ·rw [if_neg (by omega),if_neg e2]
    ·rcases hl with h | ⟨s,r,h,a,b⟩
     ·exact .inl h
     ·exact .inr ⟨s,r,h,by omega,b⟩
   ·have fresh:(∀ s r,l=s :: r→¬ (s.fr=f+1∧s.is=K f))→∃ l,(∀ u,atS l u=if f≤u then K u else 0)∧(l=[] ∨ ∃ s r,l=s :: r∧f≤s.fr∧s.fr≤s.to∧s.to≤1099511627776∧1≤s.is∧s.is≤3∧RightS s r):=by
     intro hno
     refine ⟨⟨f,f,K f⟩ :: l,fun u => ?_,.inr ⟨⟨f,f,K f⟩,l,rfl,Int.le_refl _,Int.le_refl _,by show f≤_;omega,by show 1≤K f;omega,hk.2,?_⟩⟩
     ·rw [atS,ha u]
      by_cases e:u=f
      ·rw [if_pos ⟨by show f≤u;omega,by show u≤f;omega⟩,if_pos (by omega),e]
      ·have hn:¬ (f≤u∧u≤f):=by omega
       rw [if_neg hn]
       by_cases e2:f≤u
       ·rw [if_pos (by omega),if_pos e2]
       ·rw [if_neg (by omega),if_neg e2]
     ·rcases hl with h | ⟨s,r,h,a,b,c,d,e,g⟩
      ·rw [h];trivial
      ·have:=hno s r h
       rw [h]
       exact ⟨by show f<_;omega,b,c,d,e,this,g⟩
    rcases hl with h | ⟨s,r,h,a,b,c,d,e,g⟩
    ·exact fresh fun s r h'=>by rw [h] at h';cases h'
    ·by_cases hg:s.fr=f+1∧s.is=K f
     ·refine ⟨⟨f,s.to,s.is⟩ :: r,fun u => ?_,.inr ⟨_,_,rfl,Int.le_refl _,by show f≤s.to;omega,c,d,e,g.same rfl rfl⟩⟩
      have hu:=ha u
      rw [h,atS] at hu
      rw [atS]
      by_cases e1:u=f
      ·rw [if_pos ⟨by show f≤u;omega,by show u≤s.to;omega⟩,if_pos (by omega),e1]
       exact hg.2
      ·by_cases e2:s.fr≤u∧u≤s.to
       ·rw [if_pos e2,if_pos (by omega)] at hu
        rw [if_pos ⟨by show f≤u;omega,by show u≤s.to;omega⟩,if_pos (by omega)]
        exact hu
       ·rw [if_neg e2] at hu
        have hn:¬ (f≤u∧u≤s.to):=by omega
        rw [if_neg hn,hu]
        by_cases e3:f≤u
        ·rw [if_pos (by omega),if_pos e3]
        ·rw [if_neg (by omega),if_neg e3]
     ·exact fresh fun s' r' h'=>by rw [h] at h';cases h';exact hg
 obtain ⟨l,ha,hl⟩:=key 1099511627776 (Nat.le_refl _)
 have e1:1099511627777 - ((1099511627776:Nat):Int)=1:=by omega
 rw [e1] at ha hl
 refine ⟨l,?_,fun u => ?_⟩
 ·rcases hl with h | ⟨s,r,h,a,b,c,d,e,g⟩
  ·rw [h];trivial
  ·rw [h]
   exact ⟨by show (0:Int)<_;omega,b,c,d,e,fun hh=>by have:s.is=0:=hh.2;omega,g⟩
 ·rw [ha u]
  by_cases e:1≤u
  ·rw [if_pos e]
  ·rw [if_neg e,h1 u (by omega)]
def endL (t next:Int):List Sp:=if next≤t then [⟨next,t,3⟩] else []
def loudS (t:Int):List Sp→Int→List Sp
 | [],next=>endL t next
 | k :: l,next=>if k.is=1 then loudS t l next else if t<k.fr then endL t next else (if next<k.fr then [⟨next,k.fr - 1,3⟩] else [])++loudS t l (k.to+1)
theorem endL_right {t next:Int} {pp:Sp} (h1:pp.to<next) (h2:next=pp.to+1→pp.is≠3) (ht:t≤1099511627776):RightS pp (endL t next):=by
 unfold endL
 split
 ·exact ⟨h1,by assumption,ht,(by decide:(1:Int)≤3),Int.le_refl _,fun h=>h2 h.1 h.2.symm,trivial⟩
 ·trivial
theorem loud_right {t:Int} (ht:t≤1099511627776):∀ (l:List Sp) (p pp:Sp) (next:Int),RightS p l→next≤p.to+1→pp.to<next→(next=pp.to+1→pp.is≠3)→RightS pp (loudS t l next)
 | [],_,_,_,_,_,h1,h2=>endL_right h1 h2 ht
 | k :: l,p,pp,next,⟨a,b,c,d,e,f,g⟩,hn,h1,h2=>by
  rw [loudS]
  by_cases hd:k.is=1
  ·rw [if_pos hd]
   exact loud_right ht l k pp next g (by omega) h1 h2
  ·rw [if_neg hd]
   by_cases hf:t<k.fr
   ·rw [if_pos hf]
    exact endL_right h1 h2 ht
   ·rw [if_neg hf]
    by_cases hg:next<k.fr
    ·rw [if_pos hg]
     exact ⟨h1,by show next≤k.fr - 1;omega,by show k.fr - 1≤_;omega,(by decide:(1:Int)≤3),Int.le_refl _,fun h=>h2 h.1 h.2.symm,loud_right ht l k _ _ g (Int.le_refl _) (by show k.fr - 1<k.to+1;omega) (fun h=>by have h:k.to+1=k.fr - 1+1:=h;omega)⟩
    ·rw [if_neg hg]
     exact loud_right ht l k pp _ g (Int.le_refl _) (by omega) (fun h=>by omega)
theorem loud_at {t:Int}:∀ (l:List Sp) (p:Sp) (next u:Int),RightS p l→next≤p.to+1→atS (loudS t l next) u=if next≤u∧u≤t∧(atS l u=0∨atS l u=1) then 3 else 0
 | [],_,next,u,_,_=>by
  rw [loudS,endL]
  by_cases h:next≤t
  ·rw [if_pos h]
   show (if next≤u∧u≤t then (3:Int) else 0)=_
   by_cases e:next≤u∧u≤t
   ·rw [if_pos e,if_pos ⟨e.1,e.2,.inl rfl⟩]
   ·rw [if_neg e,if_neg (fun h=>e ⟨h.1,h.2.1⟩)]
  ·rw [if_neg h,if_neg (by omega)]
   rfl
 | k :: l,p,next,u,⟨a,b,c,d,e,f,g⟩,hn=>by
  have hin:∀ v,v≤k.to→atS l v=0:=fun v hv=>atS_low g hv
  rw [loudS]
  by_cases hd:k.is=1
  ·rw [if_pos hd,loud_at l k next u g (by omega),atS]
   by_cases hu:k.fr≤u∧u≤k.to
   ·rw [if_pos hu,hin u hu.2,hd]
    by_cases h3:next≤u∧u≤t
    ·rw [if_pos ⟨h3.1,h3.2,.inl rfl⟩,if_pos ⟨h3.1,h3.2,.inr rfl⟩]
    ·rw [if_neg (fun h=>h3 ⟨h.1,h.2.1⟩),if_neg (fun h=>h3 ⟨h.1,h.2.1⟩)]
   ·rw [if_neg hu]
  ·rw [if_neg hd]
   by_cases hf:t<k.fr
   ·rw [if_pos hf,endL]
    have hz:u≤t→atS (k :: l) u=0:=fun hu=>by rw [atS,if_neg (by omega),hin u (by omega)]
    by_cases h:next≤t
    ·rw [if_pos h]
     show (if next≤u∧u≤t then (3:Int) else 0)=_
     by_cases e:next≤u∧u≤t
     ·rw [if_pos e,if_pos ⟨e.1,e.2,.inl (hz e.2)⟩]
     ·rw [if_neg e,if_neg (fun h=>e ⟨h.1,h.2.1⟩)]
    ·rw [if_neg h,if_neg (by omega)]
     rfl
   ·rw [if_neg hf]
    have ih:=loud_at (t:=t) l k (k.to+1) u g (Int.le_refl _)
    have hres:atS ((if next<k.fr then [(⟨next,k.fr - 1,3⟩:Sp)] else [])++loudS t l (k.to+1)) u=if next≤u∧u<k.fr then 3 else atS (loudS t l (k.to+1)) u:=by
     by_cases hg:next<k.fr
     ·rw [if_pos hg]
      show (if next≤u∧u≤k.fr - 1 then (3:Int) else atS _ u)=_
      by_cases e:next≤u∧u<k.fr
      ·rw [if_pos e,if_pos (by omega)]
      ·rw [if_neg e,if_neg (by omega)]
       rfl
     ·rw [if_neg hg,if_neg (by omega)]
      rfl
    rw [hres,ih,atS]
    by_cases h1:next≤u∧u<k.fr
    ·rw [if_pos h1,if_neg (show ¬ (k.fr≤u∧u≤k.to) by omega),hin u (by omega),if_pos ⟨h1.1,by omega,.inl rfl⟩]
    ·rw [if_neg h1]
     by_cases h2:k.fr≤u∧u≤k.to
     ·rw [if_pos h2,if_neg (fun h=>by omega),if_neg (fun h=>by omega)]
     ·rw [if_neg h2]
      by_cases h3:k.to+1≤u
      ·by_cases h4:u≤t∧(atS l u=0∨atS l u=1)
       ·rw [if_pos ⟨h3,h4⟩,if_pos ⟨by omega,h4⟩]
       ·rw [if_neg (fun h=>h4 h.2),if_neg (fun h=>h4 h.2)]
      ·rw [if_neg (fun h=>h3 h.1),if_neg (fun h=>by omega)]
def loseK (L:List Sp) (t u:Int):Int:=if 1≤u∧u≤t∧atS L u≠2 then 3 else atS L u
structure Lost (L:List Sp) (t:Int) (L1:List Sp):Prop where
 right:RightS Sp.zr L1
 at_:∀ u,atS L1 u=loseK L t u
theorem lostP_ex {L:List Sp} {t:Int} (ht:t≤1099511627776):∃ P,RightS Sp.zr P∧∀ u,atS P u=if 1≤u∧u≤t∧atS L u≠2 then 3 else 0 :=
 right_of _ (fun u=>by split <;> omega) (fun u hu=>if_neg (by omega)) (fun u hu=>if_neg (by omega))
theorem Kn.lose {L L1:List Sp} {X:List It} {t:Int} (h:Kn L X) (ht:t≤1099511627776) (hl:Lost L t L1):Kn L1 (quietX L1 X)∧∀ lo:Int→Int,(∀ u,lo u=if 1≤u∧u≤t∧(kk L X u=0∨kk L X u=1) then 3 else 0)→(fun u=>max (kk L X u) (lo u))=kk L1 (quietX L1 X)∧onlyI (fun u=>max (kk L X u) (lo u)) (getI X)=getI (quietX L1 X):=by
 obtain ⟨P,hP,hat⟩:=lostP_ex (L:=L) ht
 have hj:Joins L P L1:=⟨hl.right,fun u=>by
  have hr:=atS_range h.right u
  rw [hl.at_ u,hat u]
  unfold loseK
  split
  ·omega
  ·omega⟩
 obtain ⟨a,b,c⟩:=h.join hP (fun u=>by rw [hat u];split <;> omega) hj
 refine ⟨a,fun lo hlo => ?_⟩
 have e:(fun u=>max (kk L X u) (lo u))=fun u=>max (kk L X u) (atS P u):=by
  funext u
  have hr:=atS_range h.right u
  have hq:=h.quiet u
  rw [hlo u,hat u]
  by_cases hu:1≤u∧u≤t
  ·cases hg:getI X u with
   | some q =>
    have:=getI_tick hg
    have h0:=h.off q this.2
    rw [this.1] at h0
    have hk:kk L X u=1:=by unfold kk;rw [hg];rfl
    have h2:atS L u≠2:=by omega
    rw [hk,if_pos (show 1≤u∧u≤t∧((1:Int)=0∨(1:Int)=1) from ⟨hu.1,hu.2,.inr rfl⟩),if_pos (show 1≤u∧u≤t∧atS L u≠2 from ⟨hu.1,hu.2,h2⟩)]
   | none =>
    have hk:kk L X u=atS L u:=by unfold kk;rw [hg];rfl
    rw [hk]
    by_cases h2:atS L u=2
    ·have n1:¬ (1≤u∧u≤t∧(atS L u=0∨atS L u=1)):=by omega
     have n2:¬ (1≤u∧u≤t∧atS L u≠2):=fun h=>h.2.2 h2
     rw [if_neg n1,if_neg n2]
    ·have n2:1≤u∧u≤t∧atS L u≠2:=⟨hu.1,hu.2,h2⟩
     rw [if_pos n2]
     by_cases h3:atS L u=3
     ·have n1:¬ (1≤u∧u≤t∧(atS L u=0∨atS L u=1)):=by omega
      rw [if_neg n1,h3];rfl
     ·have n1:1≤u∧u≤t∧(atS L u=0∨atS L u=1):=⟨hu.1,hu.2,by omega⟩
      rw [if_pos n1]
  ·rw [if_neg (fun h=>hu ⟨h.1,h.2.1⟩),if_neg (fun h=>hu ⟨h.1,h.2.1⟩)]
 rw [e]
 exact ⟨b,c⟩
theorem st_loud {w:World} {s m:Nat} {a:Option Addr} {n c:Nat} {l:List Sp} {X:List (Int×Value)} (h:Stm Z w s m a n c l X) {t:Int} (ht:0≤t∧t≤1099511627776) :
  Calls Tryz.prog 297 #[.pointer (some ⟨s,0,none⟩),.int .i64 t] w fun e w'=>(∃ v,e=.returned v∧Sps w' w.heap.size v (loudS t l 1))∧Below w.heap.size w w':=by
 have HS:Hid (Stm Z w s m a n c l X):=h
 have HR:Hid (RightS Sp.zr l):=h.ok.right
 have HRD:Hid (SpsRd w a n l):=h.ok.rd
 have HNL:Hid (l.length=n):=h.ok.rd.size
 have hn:n≤9223372036854775807:=Nat.le_trans h.ok.lc h.ok.cm
 have HSH:Hid ((loudS t l 1).length≤1099511627776):=right_short (loud_right ht.2 l Sp.zr Sp.zr 1 h.ok.right (by decide) (by decide) (fun _=>by decide))
 have c0:w.cell? ⟨s,0,none⟩=some (.slice a n c):=h.blk.cell 0 rfl
 obtain ⟨ht0,ht1⟩:=ht
 clear h
 go_enter Tryz.func297,Tryz.ntmps297
 go_wp2
 clear c0
 go_loopw [5,6,14] (fun t5 t6 t14 wr=>∃ (i:Nat) (av:Option Addr) (nv cv:Nat) (out:List Sp) (next:Int) (p:Sp),t14=.int .i64 (i:Int)∧t5=.slice av nv cv∧t6=.int .i64 next∧i≤n∧1≤next∧next≤1099511627777∧Hid (RightS p (l.drop i)∧next≤p.to+1)∧Hid (Sps wr w.heap.size (.slice av nv cv) out)∧Hid (out++loudS t (l.drop i) next=loudS t l 1)∧Hid (Below w.heap.size w wr)) (fun _ _ t14 _=>n - (intOf t14).toNat)
 case atStart=>exact ⟨0,none,0,0,[],1,Sp.zr,rfl,rfl,rfl,Nat.zero_le _,Int.le_refl _,by omega,⟨HR.out,by decide⟩,Sps.nil_ _ _,rfl,Below.refl _ _⟩
 case round =>
  obtain ⟨i,av,nv,cv,out,next,p,rfl,rfl,rfl,hi,hn1,hn2,HP,HV,HE,HB⟩:=hrel
  have HLO:Hid (out.length≤2000000000000):=by
   (show _≤_)
   have h1:=HSH.out
   rw [← HE.out,List.length_append] at h1
   omega
  by_cases hlt:i<n
  ·have hlt':(i:Int)<(n:Int):=by omega
   have gi:(0:Int)≤(i:Int):=by omega
   obtain ⟨g,o,rfl,hg,q,hq,d0,d1,d2⟩:=(HRD.out.below HB.out).at_ i hlt
   have HD:Hid (l.drop i=q :: l.drop (i+1)):=drop_at hq
   obtain ⟨qf,qt,qi⟩:=q
   simp only at d0 d1 d2
   have HPP:Hid (RightS p (⟨qf,qt,qi⟩ :: l.drop (i+1))∧next≤p.to+1):=by (show _∧_);rw [← HD.out];exact HP.out
   obtain ⟨a1,a2,a3,a4,a5,a6,a7⟩:=HPP.out.1
   have hpn:=HPP.out.2
   simp only at a1 a2 a3 a4 a5 a6 a7
   have HR7:Hid (RightS ⟨qf,qt,qi⟩ (l.drop (i+1))):=a7
   clear a6 a7 hq hg
   obtain ⟨W1,HW1⟩:∃ W1,Hid (W1=wr.alloc (.cells #[.int .i64 qf,.int .i64 qt,.int .i64 qi] 186)):=⟨_,rfl⟩
   have HB1:Hid (Below wr.heap.size wr W1):=by (show Below _ _ _);rw [HW1.out];exact below_new wr _
   have HBB:Hid (Below w.heap.size w W1):=HB.out.trans (HB1.out.mono HB.out.size)
   have HV1:Hid (Sps W1 w.heap.size (.slice av nv cv) out):=HV.out.below HB1.out
   have HK1:Hid (Bk W1 wr.heap.size #[.int .i64 qf,.int .i64 qt,.int .i64 qi] 186):=by (show Bk _ _ _ _);rw [HW1.out];exact Bk.new wr _ _
   have k0:W1.cell? ⟨wr.heap.size,0,none⟩=some (.int .i64 qf):=HK1.out.cell 0 rfl
   have k1:W1.cell? ⟨wr.heap.size,1,none⟩=some (.int .i64 qt):=HK1.out.cell 1 rfl
   have k2:W1.cell? ⟨wr.heap.size,2,none⟩=some (.int .i64 qi):=HK1.out.cell 2 rfl
   go_upto_region 6 with fail
   rw [← HW1.out]
   by_cases hd:qi=1
   ·have HEN:Hid (out++loudS t (l.drop (i+1)) next=loudS t l 1):=by
     (show _=_)
     have he:=HE.out
     rw [HD.out,loudS,if_pos hd] at he
     exact he
    clear d0 d1 d2
    go_wp2
    go_roundw
    case rel=>exact ⟨i+1,av,nv,cv,out,next,⟨qf,qt,qi⟩,by go_num,rfl,rfl,by omega,hn1,hn2,⟨HR7.out,by show next≤qt+1;omega⟩,HV1,HEN,HBB⟩
    case measure=>simp [intOf];omega
   ·by_cases hf:t<qf
    ·clear d0 d1 d2
     have HEL:Hid (out++endL t next=loudS t l 1):=(by (show _=_);have he:=HE.out;rw [HD.out,loudS,if_neg hd,if_pos hf] at he;exact he)
     by_cases hnt:next≤t
     ·have HB2:Hid (Below W1.heap.size W1 (W1.alloc (.cells #[.int .i64 next,.int .i64 t,.int .i64 3] 186))):=below_new _ _
      have HV2:Hid (Sps (W1.alloc (.cells #[.int .i64 next,.int .i64 t,.int .i64 3] 186)) w.heap.size (.slice av nv cv) out):=HV1.out.below HB2.out
      have HT2:Hid (∀ j u,(⟨next,t,3⟩:Sp).cells.toList[j]? = some u→(W1.alloc (.cells #[.int .i64 next,.int .i64 t,.int .i64 3] 186)).cell? ((⟨W1.heap.size,0,none⟩:Addr).add j)=some u):=Sp.told (q:=⟨next,t,3⟩) (Bk.new _ _ _)
      have HS2:Hid (w.heap.size≤(W1.alloc (.cells #[.int .i64 next,.int .i64 t,.int .i64 3] 186)).heap.size):=Nat.le_trans HBB.out.size HB2.out.size
      go_wp2_with (at_builtin;refine wpList_append_sp rfl (.tmp 44) (.tmp 48) rfl w.heap.size (.slice av nv cv) out rfl HV2.out ⟨W1.heap.size,0,none⟩ 1 ⟨next,t,3⟩ rfl HT2.out (Nat.le_trans HLO.out (by decide)) HS2.out ?_)
      intro v' w' ho hg
      have HO:Hid (Sps w' w.heap.size v' (loudS t l 1)):=by
       (show Sps _ _ _ _)
       have he:=HEL.out
       rw [endL,if_pos hnt] at he
       rw [← he]
       exact ho
      have HG:Hid (Below w.heap.size w w'):=(HBB.out.trans (HB2.out.mono HBB.out.size)).trans (HV2.out.grown HS2.out hg)
      clear ho hg
      go_wp2
      go_ret
      exact ⟨⟨v',rfl,HO.out⟩,HG.out⟩
     ·have HO:Hid (Sps W1 w.heap.size (.slice av nv cv) (loudS t l 1)):=by
       (show Sps _ _ _ _)
       have he:=HEL.out
       rw [endL,if_neg hnt,List.append_nil] at he
       rw [← he]
       exact HV1.out
      go_wp2
      go_ret
      exact ⟨⟨_,rfl,HO.out⟩,HBB.out⟩
    ·have HE2:Hid (out++((if next<qf then [(⟨next,qf - 1,3⟩:Sp)] else [])++loudS t (l.drop (i+1)) (qt+1))=loudS t l 1):=by
      (show _=_)
      have he:=HE.out
      rw [HD.out,loudS,if_neg hd,if_neg hf] at he
      exact he
     by_cases hg:next<qf
     ·have HB2:Hid (Below W1.heap.size W1 (W1.alloc (.cells #[.int .i64 next,.int .i64 (qf - 1),.int .i64 3] 186))):=below_new _ _
      have HV2:Hid (Sps (W1.alloc (.cells #[.int .i64 next,.int .i64 (qf - 1),.int .i64 3] 186)) w.heap.size (.slice av nv cv) out):=HV1.out.below HB2.out
      have HT2:Hid (∀ j u,(⟨next,qf - 1,3⟩:Sp).cells.toList[j]? = some u→(W1.alloc (.cells #[.int .i64 next,.int .i64 (qf - 1),.int .i64 3] 186)).cell? ((⟨W1.heap.size,0,none⟩:Addr).add j)=some u):=Sp.told (q:=⟨next,qf - 1,3⟩) (Bk.new _ _ _)
      have HS2:Hid (w.heap.size≤(W1.alloc (.cells #[.int .i64 next,.int .i64 (qf - 1),.int .i64 3] 186)).heap.size):=Nat.le_trans HBB.out.size HB2.out.size
      clear d0 d1 d2
      go_wp2_with (at_builtin;refine wpList_append_sp rfl (.tmp 29) (.tmp 35) rfl w.heap.size (.slice av nv cv) out rfl HV2.out ⟨W1.heap.size,0,none⟩ 1 ⟨next,qf - 1,3⟩ rfl HT2.out (Nat.le_trans HLO.out (by decide)) HS2.out ?_)
      intro v' w' ho hgr
      obtain ⟨av',cv',rfl,_⟩:=ho.form
      have HO:Hid (Sps w' w.heap.size (.slice av' (out++[(⟨next,qf - 1,3⟩:Sp)]).length cv') (out++[(⟨next,qf - 1,3⟩:Sp)])):=ho
      have HG:Hid (Below w.heap.size w w'):=(HBB.out.trans (HB2.out.mono HBB.out.size)).trans (HV2.out.grown HS2.out hgr)
      have HEN:Hid ((out++[(⟨next,qf - 1,3⟩:Sp)])++loudS t (l.drop (i+1)) (qt+1)=loudS t l 1):=by
       (show _=_)
       have he:=HE2.out
       rw [if_pos hg] at he
       rw [List.append_assoc]
       exact he
      have k1:w'.cell? ⟨wr.heap.size,1,none⟩=some (.int .i64 qt):=by
       have h1:=((HK1.out.stay HB2.out).grown hgr ?_).cell 1 rfl
       ·exact h1
       ·intro e
        exact absurd (HV.out.row.lt _ e.symm).2 (Nat.lt_irrefl _)
      generalize (out++[(⟨next,qf - 1,3⟩:Sp)])=out2 at HO HEN
      obtain ⟨n2,hn2⟩:∃ n2,out2.length=n2:=⟨_,rfl⟩
      rw [hn2] at HO ⊢
      clear ho hgr hn2
      go_wp2
      go_roundw
      case rel=>exact ⟨i+1,av',n2,cv',out2,qt+1,⟨qf,qt,qi⟩,by go_num,rfl,rfl,by omega,by omega,by omega,⟨HR7.out,Int.le_refl _⟩,HO,HEN,HG⟩
      case measure=>simp [intOf];omega
     ·have HEN:Hid (out++loudS t (l.drop (i+1)) (qt+1)=loudS t l 1):=by
       (show _=_)
       have he:=HE2.out
       rw [if_neg hg] at he
       exact he
      clear d0 d1 d2
      go_wp2
      go_roundw
      case rel=>exact ⟨i+1,av,nv,cv,out,qt+1,⟨qf,qt,qi⟩,by go_num,rfl,rfl,by omega,by omega,by omega,⟨HR7.out,Int.le_refl _⟩,HV1,HEN,HBB⟩
      case measure=>simp [intOf];omega
  ·have hnl:¬ (i:Int)<(n:Int):=by omega
   have HEL:Hid (out++endL t next=loudS t l 1):=(by (show _=_);have he:=HE.out;rw [List.drop_of_length_le (by rw [HNL.out];omega),loudS] at he;exact he)
   by_cases hnt:next≤t
   ·have HB2:Hid (Below wr.heap.size wr (wr.alloc (.cells #[.int .i64 next,.int .i64 t,.int .i64 3] 186))):=below_new _ _
    have HV2:Hid (Sps (wr.alloc (.cells #[.int .i64 next,.int .i64 t,.int .i64 3] 186)) w.heap.size (.slice av nv cv) out):=HV.out.below HB2.out
    have HT2:Hid (∀ j u,(⟨next,t,3⟩:Sp).cells.toList[j]? = some u→(wr.alloc (.cells #[.int .i64 next,.int .i64 t,.int .i64 3] 186)).cell? ((⟨wr.heap.size,0,none⟩:Addr).add j)=some u):=Sp.told (q:=⟨next,t,3⟩) (Bk.new _ _ _)
    have HS2:Hid (w.heap.size≤(wr.alloc (.cells #[.int .i64 next,.int .i64 t,.int .i64 3] 186)).heap.size):=Nat.le_trans HB.out.size HB2.out.size
    go_wp2_with (at_builtin;refine wpList_append_sp rfl (.tmp 44) (.tmp 48) rfl w.heap.size (.slice av nv cv) out rfl HV2.out ⟨wr.heap.size,0,none⟩ 1 ⟨next,t,3⟩ rfl HT2.out (Nat.le_trans HLO.out (by decide)) HS2.out ?_)
    intro v' w' ho hg
    have HO:Hid (Sps w' w.heap.size v' (loudS t l 1)):=by
     (show Sps _ _ _ _)
     have he:=HEL.out
     rw [endL,if_pos hnt] at he
     rw [← he]
     exact ho
    have HG:Hid (Below w.heap.size w w'):=(HB.out.trans (HB2.out.mono HB.out.size)).trans (HV2.out.grown HS2.out hg)
    clear ho hg
    go_wp2
    go_ret
    exact ⟨⟨v',rfl,HO.out⟩,HG.out⟩
   ·have HO:Hid (Sps wr w.heap.size (.slice av nv cv) (loudS t l 1)):=by
     (show Sps _ _ _ _)
     have he:=HEL.out
     rw [endL,if_neg hnt,List.append_nil] at he
     rw [← he]
     exact HV.out
    go_wp2
    go_ret
    exact ⟨⟨_,rfl,HO.out⟩,HB.out⟩
def LoseTo (Z:Nat→Prop) (s m:Nat) (L1:List Sp) (X:List It) (w:World) (e:Ending) (w':World):Prop:=e=.returned (.int .i64 0)∧Imp Z w' s m L1 (quietX L1 X)∧Two s m w w'
theorem st_Lose {w:World} {s m:Nat} {L L1:List Sp} {X:List It} (h:Imp Z w s m L X) (hK:Kn L X) (hX:X.length≤64) {t:Int} (ht:0≤t∧t≤1099511627776) (hl:Lost L t L1) :
  Calls Tryz.prog 248 #[.pointer (some ⟨s,0,none⟩),.int .i64 t] w fun e w'=>LoseTo Z s m L1 X w e w':=by
 obtain ⟨l,hs,hlk⟩:=h
 obtain ⟨a,n,c,Y,hst⟩:=hs
 obtain ⟨_,hm⟩:=hK.lose ht.2 hl
 have hlo:∀ u,atS (loudS t l 1) u=if 1≤u∧u≤t∧(kk L X u=0∨kk L X u=1) then 3 else 0:=fun u=>by rw [loud_at l Sp.zr 1 u hst.stm.ok.right (by decide),hlk u]
 obtain ⟨m1,m2⟩:=hm _ hlo
 have HM1:Hid ((fun u=>max (atS l u) (atS (loudS t l 1) u))=kk L1 (quietX L1 X)):=by
  (show _=_)
  rw [← m1]
  funext u
  rw [hlk u]
 have HM2:Hid (onlyI (fun u=>max (atS l u) (atS (loudS t l 1) u)) (getI X)=getI (quietX L1 X)):=by
  (show _=_)
  rw [← m2,HM1.out,m1]
 have HLR:Hid (RightS Sp.zr (loudS t l 1)∧∀ u,atS (loudS t l 1) u≠1):=⟨loud_right ht.2 l Sp.zr Sp.zr 1 hst.stm.ok.right (by decide) (by decide) (fun _=>by decide),fun u=>by rw [hlo u];split <;> omega⟩
 have HTT:Hid (∀ u,(getI X u).isSome=true→u∈X.map fun q=>q.tick):=fun u hu=>by
  obtain ⟨q,hq⟩:=Option.isSome_iff_exists.1 hu
  have:=getI_tick hq
  exact List.mem_map.2 ⟨q,this.2,this.1⟩
 have HTL:Hid ((X.map fun q=>q.tick).length≤1000):=by (show _≤_);rw [List.length_map];omega
 have HST:Hid (Strm Z w s m l (getI X) a n c Y):=hst
 obtain ⟨POST,HPO⟩:∃ P:Ending→World→Prop,Hid (P=fun e w'=>LoseTo Z s m L1 X w e w'):=⟨_,rfl⟩
 have hpost:(fun e w'=>LoseTo Z s m L1 X w e w')=fun e w'=>POST e w':=HPO.out.symm
 rw [hpost]
 obtain ⟨ht0,ht1⟩:=ht
 have HT:Hid (0≤t∧t≤1099511627776):=⟨ht0,ht1⟩
 have n0:¬ t<0:=by omega
 have n1:¬ (1099511627776:Int)<t:=by omega
 clear hpost hlk hst hm hlo m1 m2 hK hX hl
 go_enter Tryz.func248,Tryz.ntmps248
 go_wp2_with fail
 refine (st_loud HST.out.stm HT.out).mono ?_
 rintro e w1 ⟨⟨v,rfl,hv⟩,hb1⟩
 obtain ⟨va,vn,vc,rfl,hok⟩:=hv.ok HLR.out.1
 have HOK:Hid (MapOk w1 va vn vc (loudS t l 1)):=hok
 have HS1:Hid (Str Z w1 s m l (getI X)):=⟨a,n,c,Y,HST.out.stay hb1⟩
 have HB1:Hid (Below w.heap.size w w1):=hb1
 clear hv hok hb1
 go_wp2_with fail
 refine (str_join HS1.out HTT.out HTL.out HOK.out HLR.out.2).mono ?_
 rintro e w2 ⟨rfl,⟨l2,hs2,ha2⟩,ht2⟩
 rw [HM2.out] at hs2
 have HI2:Hid (Imp Z w2 s m L1 (quietX L1 X)):=⟨l2,hs2,fun u=>by rw [ha2 u];exact congrFun HM1.out u⟩
 have HT2:Hid (Two s m w w2):=(Two.of_below s m HB1.out).trans ht2
 clear hs2 ha2 ht2
 go_wp2
 rw [HPO.out]
 exact ⟨rfl,HI2.out,HT2.out⟩
end
section
open Go.RowKit
theorem SpsRd.news {w:World} {ad:Addr} {m:Nat} {l:List Sp} (h:SpsRd w (some ad) m l):∀ j u,(l.flatMap fun q=>q.cells.toList)[j]? = some u→w.cell? (ad.add j)=some u:=by
 intro j u hj
 have hlen:∀ l:List Sp,(l.flatMap fun q=>q.cells.toList).length=l.length * 3:=by
  intro l
  induction l with
  | nil=>rfl
  | cons s l ih=>rw [List.flatMap_cons,List.length_append,ih,List.length_cons];simp [Sp.cells];omega
 have hjl:j<l.length * 3:=by rw [← hlen];exact (List.getElem?_eq_some_iff.1 hj).1
 have hi:j / 3<l.length:=by omega
 rcases h.cells with h0 | ⟨g,o,ha,hg,hc⟩
 ·subst h0;simp at hi
 ·simp only [Option.some.injEq] at ha
  subst ha
  obtain ⟨c0,c1,c2⟩:=hc (j / 3) l[j / 3] (List.getElem?_eq_getElem hi)
  have hf:=flat3 l (j / 3) l[j / 3] (List.getElem?_eq_getElem hi) (j % 3) (by omega)
  rw [show j / 3 * 3+j % 3=j from by omega,hj] at hf
  have e:∀ k,(⟨g,o,none⟩:Addr).add k=⟨g,o+k,none⟩:=fun k=>by unfold Addr.add;split <;> simp_all
  rw [e]
  have hm:j % 3=0∨j % 3=1∨j % 3=2:=by omega
  rcases hm with hm | hm | hm
  ·rw [hm] at hf
   rw [show o+j=o+j / 3 * 3 from by omega,c0]
   simpa [Sp.cells] using hf.symm
  ·rw [hm] at hf
   rw [show o+j=o+j / 3 * 3+1 from by omega,c1]
   simpa [Sp.cells] using hf.symm
  ·rw [hm] at hf
   rw [show o+j=o+j / 3 * 3+2 from by omega,c2]
   simpa [Sp.cells] using hf.symm
theorem flat_len (l:List Sp):(l.flatMap fun q=>q.cells.toList).length=l.length * 3:=by
 induction l with
 | nil=>rfl
 | cons s l ih=>rw [List.flatMap_cons,List.length_append,ih,List.length_cons];simp [Sp.cells];omega
theorem run_append_sps (w:World) (ty:TypeId) (base:Nat) (v:Value) (l:List Sp) (hown:Sps w base v l) (b:Option Addr) (m c:Nat) (l2:List Sp) (hr:SpsRd w b m l2) (hmc:b=none→c=0) (hl:l.length+m≤3000000000000) (hbase:base≤w.heap.size) :
  ∃ v' w',(Builtin.append_ #[113,113] ty #[v,.slice b m c]).run Tryz.prog w=.ok v' w'∧Sps w' base v' (l++l2)∧w.grownBy w' v.ownBlock:=by
 obtain ⟨i0,hi,hz0,hz1,hz2⟩:=info_parts infoSpan
 cases b with
 | none =>
  have h0:l2=[]:=by
   rcases hr.cells with h0 | ⟨g,o,ha,_⟩
   ·exact h0
   ·cases ha
  have hm:m=0:=by rw [← hr.size,h0];rfl
  have hc:=hmc rfl
  subst hm hc h0
  exact ⟨v,w,run_append_owned_none (P:=Tryz.prog) (w:=w) base 113 ty 186 i0 3 Tryz.underlying113 hi v l.length _ hown.row,by simpa using hown,⟨rfl,rfl,rfl,Nat.le_refl _,fun _ _ _=>rfl⟩⟩
 | some ad =>
  obtain ⟨v',w',hrun,h2,h3,_⟩:=run_append_own (P:=Tryz.prog) w base 113 ty 186 i0 (.agg #[.int .i64 0,.int .i64 0,.int .i64 0]) 3 24 Tryz.underlying113 hi hz0 hz1 hz2 (by rfl) (by decide) v l.length (l.flatMap fun q=>q.cells.toList) hown.row ad m c (l2.flatMap fun q=>q.cells.toList) (by rw [flat_len,hr.size]) hr.news (by
   intro u hu
   obtain ⟨q,hq,hu⟩:=List.mem_flatMap.1 hu
   exact Sp.one q u hu) (by unfold maxLen;omega) (by omega) hbase
  refine ⟨v',w',hrun,⟨?_⟩,h3⟩
  rw [List.length_append,List.flatMap_append,hr.size]
  exact h2
theorem wpList_append_sps {w:World} {ops:Array Oper} {rest:List Oper} {o:Oper} {act:Act} {Q:Exit→Act→World→Prop} (hgd:o.guard=none) (s x:Operand)
  (ho:o.op=.call { callee:=.builtin .append,args:=#[s,x],argTypes:=#[113,113] })
  (base:Nat) (v:Value) (l:List Sp) (hs:act.eval s=v) (hown:Sps w base v l) (b:Option Addr) (m c:Nat) (l2:List Sp) (hx:act.eval x=.slice b m c) (hr:SpsRd w b m l2) (hmc:b=none→c=0)
  (hl:l.length+m≤3000000000000) (hbase:base≤w.heap.size)
  (h:∀ v' w',Sps w' base v' (l++l2)→w.grownBy w' v.ownBlock→wpList Tryz.prog ops Q rest (act.put o.dst v') w'):wpList Tryz.prog ops Q (o :: rest) act w:=by
 refine wpList_plain hgd fun K hK => ?_
 obtain ⟨v',w',hrun,h2,h3⟩:=run_append_sps w o.type base v l hown b m c l2 hr hmc hl hbase
 unfold Oper.wp
 simp only [execOp,ho,resolve,invoke,builtin,Sem.run_bind,Sem.run_pure,Result.andThen_ok,List.map_toArray,List.map_cons,List.map_nil,hs,hx,hrun]
 exact hK _ _ (h v' w' h2 h3)
theorem Sps.empty (w:World):Sps (w.alloc (.cells #[] 186)) w.heap.size (.slice (some ⟨w.heap.size,0,none⟩) 0 0) [] :=
 ⟨World.ownsRow_lit (base:=w.heap.size) (e:=186) (size:=3) w #[] 0 (Nat.le_refl _) (Nat.zero_le _) rfl⟩
end
section
set_option maxRecDepth 100000
open Go.RowKit Go.Maps Go.Sort Go.Shelf
variable {Z:Nat→Prop}
theorem sp_Clone (a:Option Addr) (n c:Nat) (l:List Sp) (w:World) (h:MapOk w a n c l) (hl:n≤2000000000000):Calls Tryz.prog 217 #[.slice a n c] w fun e w'=>(∃ a' n' c',e=.returned (.slice a' n' c')∧MapOk w' a' n' c' l)∧Below w.heap.size w w':=by
 have HM:Hid (MapOk w a n c l):=h
 cases a with
 | none =>
  have hz:l=[]:=by
   rcases h.rd.cells with h0 | ⟨_,_,h,_⟩
   ·exact h0
   ·cases h
  have hn:n=0:=by have:=h.rd.size;rw [hz] at this;exact this.symm
  subst hn
  have hq:∀ W:World,(binOp .eql 113 (.slice none 0 c) (.slice none 0 0)).run Tryz.prog W=.ok (.bool true) W:=fun W=>by
   simp only [binOp]
   rw [Sem.run_bind,run_equal_slice_nil W _ _ _ _ _ Tryz.underlying113]
   rfl
  have HZ:Hid (l=[]):=hz
  clear h hz
  go_enter Tryz.func217,Tryz.ntmps217
  go_wp2
  go_ret
  exact ⟨⟨none,0,0,rfl,⟨⟨by rw [HZ.out];rfl,.inl HZ.out⟩,Nat.le_refl _,Nat.zero_le _,HM.out.right⟩⟩,Below.refl _ _⟩
 | some ad =>
  have hq:∀ W:World,(binOp .eql 113 (.slice (some ad) n c) (.slice none 0 0)).run Tryz.prog W=.ok (.bool false) W:=fun W=>by
   simp only [binOp]
   rw [Sem.run_bind,run_equal_slice_nil W _ _ _ _ _ Tryz.underlying113]
   rfl
  clear h
  go_enter Tryz.func217,Tryz.ntmps217
  go_wp2_with (at_builtin;refine wpList_append_sps rfl (.tmp 5) (.tmp 6) rfl w.heap.size _ [] rfl (Sps.empty w) (some ad) n c l rfl (HM.out.rd.below (below_alloc w _)) (fun h=>by cases h) (by simp;omega) (by simp) ?_;intro v5 w5 hs5 hg5)
  have HS5:Hid (Sps w5 w.heap.size v5 l):=by (show Sps _ _ _ _);simpa using hs5
  have HB5:Hid (Below w.heap.size w w5):=(below_alloc w (.cells #[] 186)).grown hg5 (by simp) (fun k hk=>by cases hk;exact Nat.le_refl _)
  clear hs5 hg5
  obtain ⟨av,nv,cv,rfl,hok⟩:=HS5.out.ok HM.out.right
  have HOK:Hid (MapOk w5 av nv cv l):=hok
  clear hok
  go_wp2
  go_ret
  exact ⟨⟨av,nv,cv,rfl,HOK.out⟩,HB5.out⟩
theorem st_Map {w:World} {s m:Nat} {a:Option Addr} {n c:Nat} {l:List Sp} {X:List (Int×Value)} (h:Stm Z w s m a n c l X) (hn:l.length≤2000000000000):Calls Tryz.prog 167 #[.pointer (some ⟨s,0,none⟩)] w fun e w'=>(∃ a' n' c',e=.returned (.slice a' n' c')∧MapOk w' a' n' c' l)∧Below w.heap.size w w':=by
 have HC:Hid (Calls Tryz.prog 217 #[.slice a n c] w fun e w'=>(∃ a' n' c',e=.returned (.slice a' n' c')∧MapOk w' a' n' c' l)∧Below w.heap.size w w'):=sp_Clone a n c l w h.ok (by rw [← h.ok.rd.size];exact hn)
 have c0:w.cell? ⟨s,0,none⟩=some (.slice a n c):=h.blk.cell 0 rfl
 clear h
 go_enter Tryz.func167,Tryz.ntmps167
 go_wp2_with fail
 refine HC.out.mono ?_
 rintro e w1 ⟨⟨a1,n1,c1,rfl,h1⟩,hb1⟩
 have H1:Hid (MapOk w1 a1 n1 c1 l):=h1
 have HB1:Hid (Below w.heap.size w w1):=hb1
 clear h1 hb1
 go_wp2
 go_ret
 exact ⟨⟨a1,n1,c1,rfl,H1.out⟩,HB1.out⟩
end
section
set_option maxRecDepth 100000
open Go.RowKit Go.Maps Go.Sort Go.Shelf
variable {Z:Nat→Prop}
theorem Stm.look_ok {w:World} {s m:Nat} {a:Option Addr} {n c:Nat} {l:List Sp} {X:List (Int×Value)} (h:Stm Z w s m a n c l X) {t:Int} (ht : -9223372036854775808≤t∧t≤9223372036854775807) {v:Value} (hg:getX X t=some v):(Instr.lookup 182 (.map (some m)) (.int .i64 t) true).run Tryz.prog w=.ok (.tuple #[v,.bool true]) w:=by
 obtain ⟨v2,ps,hrun,hv⟩:=h.items.look_ok tkeyed Tryz.underlying182 (z:=itemZ) (Tryz.zeroValue51 w) (zd:=.held itemZ) (zp:=[]) rfl (tkey_of ht)
 rw [mapD_at,hg] at hv
 rw [hrun,mapD_has,hg]
 have hv:some (DataW.held v2,([] : List MemPlace))=_:=hv
 simp only [Option.some.injEq,Prod.mk.injEq,DataW.held.injEq] at hv
 rw [hv.1]
 rfl
end
end Go.Proofs.YtoiennkfdjnkbaaGreatDoor
