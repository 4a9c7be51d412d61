import Derived.Test.YtoiennkfdjnkbaaGreatDoorPk31
import Derived.Test.YtoiennkfdjnkbaaGreatDoorSn2
import Derived.Test.YtoiennkfdjnkbaaGreatDoorPk28
import Derived.Test.YtoiennkfdjnkbaaGreatDoorPk27
import Derived.Test.YtoiennkfdjnkbaaGreatDoorPk19
set_option maxRecDepth 100000
set_option maxHeartbeats 8000000
namespace Go.Proofs.YtoiennkfdjnkbaaGreatDoor
section
abbrev Pce:=Sp×It
def zIt:It:=⟨0,0,[]⟩
def RightP (p:Sp):List Pce→Prop
 | [] => True
 | c :: r=>p.to<c.1.fr∧c.1.fr≤c.1.to∧c.1.to≤1099511627776∧1≤c.1.is∧c.1.is≤3∧¬ (c.1.fr=p.to+1∧c.1.is=p.is∧c.1.is≠1)∧(c.1.is=1→c.1.to=c.1.fr∧c.2.tick=c.1.fr)∧(c.1.is≠1→c.2=zIt)∧RightP c.1 r
def kP:List Pce→Int→Int
 | [],_=>0
 | c :: r,u=>if c.1.fr≤u∧u≤c.1.to then c.1.is else kP r u
def iP:List Pce→Int→It
 | [],_=>zIt
 | c :: r,u=>if c.1.fr≤u∧u≤c.1.to then c.2 else iP r u
theorem low_P:∀ {P:List Pce} {p:Sp},RightP p P→∀ {t:Int},t≤p.to→kP P t=0∧iP P t=zIt
 | [],_,_,_,_=>⟨rfl,rfl⟩
 | c :: r,p,⟨a1,a2,a3,a4,a5,a6,a7,a8,a9⟩,t,ht=>by
  rw [kP,iP,if_neg (by omega),if_neg (by omega)]
  exact low_P a9 (by omega)
theorem next_P {P:List Pce} {p:Sp} (h:RightP p P) (h0:p.is≠0) (h1:p.is≠1):kP P (p.to+1)≠p.is:=by
 cases P with
 | nil=>exact Ne.symm h0
 | cons c r =>
  obtain ⟨a1,a2,a3,a4,a5,a6,a7,a8,a9⟩:=h
  rw [kP]
  split
  ·rename_i hc
   intro e
   exact a6 ⟨by omega,e,by omega⟩
  ·rename_i hc
   rw [(low_P a9 (t:=p.to+1) (by omega)).1]
   exact Ne.symm h0
theorem RightP.any {c:Pce} {r:List Pce} {p:Sp} (h:RightP p (c :: r)):RightP ⟨0,c.1.fr - 1,0⟩ (c :: r):=by
 obtain ⟨a1,a2,a3,a4,a5,a6,a7,a8,a9⟩:=h
 exact ⟨by show c.1.fr - 1<_;omega,a2,a3,a4,a5,fun e=>by have:c.1.is=0:=e.2.1;omega,a7,a8,a9⟩
theorem canonP:∀ (P Q:List Pce) (p q:Sp),RightP p P→RightP q Q→(∀ t,kP P t=kP Q t)→(∀ t,iP P t=iP Q t)→P=Q
 | [],[],_,_,_,_,_,_=>rfl
 | [],d :: s,_,_,_,⟨_,b2,_,b4,_⟩,hk,_=>by
  have:=hk d.1.fr
  rw [kP,kP,if_pos ⟨Int.le_refl _,b2⟩] at this
  omega
 | c :: r,[],_,_,⟨_,a2,_,a4,_⟩,_,hk,_=>by
  have:=hk c.1.fr
  rw [kP,kP,if_pos ⟨Int.le_refl _,a2⟩] at this
  omega
 | c :: r,d :: s,p,q,hP,hQ,hk,hi=>by
  have lc:=fun {t} (ht:t<c.1.fr)=>low_P hP.any (t:=t) (by show t≤c.1.fr - 1;omega)
  have ld:=fun {t} (ht:t<d.1.fr)=>low_P hQ.any (t:=t) (by show t≤d.1.fr - 1;omega)
  obtain ⟨a1,a2,a3,a4,a5,a6,a7,a8,a9⟩:=hP
  obtain ⟨b1,b2,b3,b4,b5,b6,b7,b8,b9⟩:=hQ
  have kc:∀ u,c.1.fr≤u→u≤c.1.to→kP (c :: r) u=c.1.is:=fun u h1 h2=>by rw [kP,if_pos ⟨h1,h2⟩]
  have kd:∀ u,d.1.fr≤u→u≤d.1.to→kP (d :: s) u=d.1.is:=fun u h1 h2=>by rw [kP,if_pos ⟨h1,h2⟩]
  have oc:∀ u,¬ (c.1.fr≤u∧u≤c.1.to)→kP (c :: r) u=kP r u∧iP (c :: r) u=iP r u:=fun u h=>⟨by rw [kP,if_neg h],by rw [iP,if_neg h]⟩
  have od:∀ u,¬ (d.1.fr≤u∧u≤d.1.to)→kP (d :: s) u=kP s u∧iP (d :: s) u=iP s u:=fun u h=>⟨by rw [kP,if_neg h],by rw [iP,if_neg h]⟩
  have hfr:c.1.fr=d.1.fr:=by
   rcases Int.lt_trichotomy c.1.fr d.1.fr with h | h | h
   ·have h1:=hk c.1.fr
    rw [kc _ (Int.le_refl _) a2,(ld h).1] at h1
    omega
   ·exact h
   ·have h1:=hk d.1.fr
    rw [kd _ (Int.le_refl _) b2,(lc h).1] at h1
    omega
  have his:c.1.is=d.1.is:=by
   have h1:=hk c.1.fr
   rw [kc _ (Int.le_refl _) a2,kd _ (by omega) (by omega)] at h1
   exact h1
  have hto:c.1.to=d.1.to:=by
   by_cases e1:c.1.is=1
   ·rw [(a7 e1).1,(b7 (by omega)).1,hfr]
   ·rcases Int.lt_trichotomy c.1.to d.1.to with h | h | h
    ·have h1:=hk (c.1.to+1)
     rw [(oc _ (by omega)).1,kd _ (by omega) (by omega),← his] at h1
     exact absurd h1 (next_P a9 (by omega) e1)
    ·exact h
    ·have h1:=hk (d.1.to+1)
     rw [(od _ (by omega)).1,kc _ (by omega) (by omega),his] at h1
     exact absurd h1.symm (next_P b9 (by omega) (by omega))
  have hit:c.2=d.2:=by
   have h1:=hi c.1.fr
   rw [iP,iP,if_pos ⟨Int.le_refl _,a2⟩,if_pos ⟨by omega,by omega⟩] at h1
   exact h1
  have hcd:c=d:=by
   obtain ⟨⟨cf,ct,ci⟩,cq⟩:=c
   obtain ⟨⟨df,dt,di⟩,dq⟩:=d
   simp only at hfr his hto hit
   rw [hfr,his,hto,hit]
  have hrs:∀ t,kP r t=kP s t∧iP r t=iP s t:=by
   intro t
   by_cases ht:t≤c.1.to
   ·have h1:=low_P a9 ht
    have h2:=low_P b9 (t:=t) (by omega)
    rw [h1.1,h1.2,h2.1,h2.2]
    exact ⟨rfl,rfl⟩
   ·have h1:=oc t (by omega)
    have h2:=od t (by omega)
    rw [← h1.1,← h1.2,← h2.1,← h2.2]
    exact ⟨hk t,hi t⟩
  rw [hcd,canonP r s c.1 d.1 a9 b9 (fun t=>(hrs t).1) (fun t=>(hrs t).2)]
theorem RightP_len:∀ (P:List Pce) (p:Sp),RightP p P→p.to≤1099511627776→p.to+P.length≤1099511627776
 | [],p,_,h=>by simpa using h
 | c :: r,p,⟨a1,a2,a3,a4,a5,a6,a7,a8,a9⟩,h=>by
  have:=RightP_len r c.1 a9 a3
  rw [List.length_cons]
  omega
def lastP (p:Sp):List Pce→Sp
 | [] => p
 | c :: r=>lastP c.1 r
theorem lastP_snoc:∀ (A:List Pce) (c:Pce) (p:Sp),lastP p (A++[c])=c.1
 | [],_,_=>rfl
 | _ :: A,c,_=>lastP_snoc A c _
def layP (A:List Pce) (c:Pce) (A':List Pce):Prop :=
 (A=[] ∧ A'=[c])∨∃ i d,A=i++[d] ∧ (((c.1.is=1∨c.1.is≠d.1.is∨c.1.fr≠d.1.to+1)∧A'=A++[c])∨((c.1.is≠1∧c.1.is=d.1.is∧c.1.fr=d.1.to+1)∧A'=i++[(⟨d.1.fr,c.1.to,d.1.is⟩,d.2)]))
structure Well (c:Pce):Prop where
 wa:c.1.fr≤c.1.to
 wb:c.1.to≤1099511627776
 wc:1≤c.1.is∧c.1.is≤3
 wd:c.1.is=1→c.1.to=c.1.fr∧c.2.tick=c.1.fr
 we:c.1.is≠1→c.2=zIt
theorem RightP_snoc:∀ (A:List Pce) (c:Pce) (p:Sp),RightP p A→RightP (lastP p A) [c] → RightP p (A++[c])
 | [],_,_,_,h=>h
 | x :: A,c,_,⟨a1,a2,a3,a4,a5,a6,a7,a8,a9⟩,h=>⟨a1,a2,a3,a4,a5,a6,a7,a8,RightP_snoc A c x.1 a9 h⟩
theorem RightP_init:∀ (A:List Pce) (c:Pce) (p:Sp),RightP p (A++[c])→RightP p A∧RightP (lastP p A) [c]
 | [],_,_,h=>⟨trivial,h⟩
 | x :: A,c,_,⟨a1,a2,a3,a4,a5,a6,a7,a8,a9⟩=>⟨⟨a1,a2,a3,a4,a5,a6,a7,a8,(RightP_init A c x.1 a9).1⟩,(RightP_init A c x.1 a9).2⟩
theorem kP_append:∀ (A:List Pce) (B:List Pce) (u:Int),(kP (A++B) u=if ∃ c∈A,c.1.fr≤u∧u≤c.1.to then kP A u else kP B u)∧(iP (A++B) u=if ∃ c∈A,c.1.fr≤u∧u≤c.1.to then iP A u else iP B u)
 | [],B,u=>by simp
 | x :: A,B,u=>by
  obtain ⟨h1,h2⟩:=kP_append A B u
  rw [List.cons_append,kP,kP,iP,iP]
  by_cases hx:x.1.fr≤u∧u≤x.1.to
  ·have he:∃ c∈x :: A,c.1.fr≤u∧u≤c.1.to:=⟨x,List.mem_cons_self ..,hx⟩
   rw [if_pos hx,if_pos hx,if_pos he,if_pos he,if_pos hx,if_pos hx]
   exact ⟨rfl,rfl⟩
  ·rw [if_neg hx,if_neg hx,if_neg hx,if_neg hx,h1,h2]
   by_cases he:∃ c∈A,c.1.fr≤u∧u≤c.1.to
   ·have he':∃ c∈x :: A,c.1.fr≤u∧u≤c.1.to:=(let ⟨c,hc,h⟩:=he;⟨c,List.mem_cons_of_mem _ hc,h⟩)
    rw [if_pos he,if_pos he,if_pos he',if_pos he']
    exact ⟨rfl,rfl⟩
   ·have he':¬ ∃ c∈x :: A,c.1.fr≤u∧u≤c.1.to:=fun ⟨c,hc,h⟩=>by
     rcases List.mem_cons.1 hc with rfl | hc
     ·exact hx h
     ·exact he ⟨c,hc,h⟩
    rw [if_neg he,if_neg he,if_neg he',if_neg he']
    exact ⟨rfl,rfl⟩
theorem RightP_ends:∀ {A:List Pce} {p:Sp},RightP p A→∀ c∈A,p.to<c.1.fr∧c.1.to≤(lastP p A).to
 | x :: A,p,⟨a1,a2,a3,a4,a5,a6,a7,a8,a9⟩,c,hc=>by
  have ih:=RightP_ends a9
  have hl:x.1.to≤(lastP x.1 A).to:=by
   cases A with
   | nil=>exact Int.le_refl _
   | cons y A =>
    have:=ih y (List.mem_cons_self ..)
    have hy:=a9.2.1
    omega
  rcases List.mem_cons.1 hc with rfl | hc
  ·exact ⟨a1,hl⟩
  ·have:=ih c hc
   exact ⟨by omega,this.2⟩
theorem RightP_at {A:List Pce} {p:Sp} (h:RightP p A) {u:Int} (hu:(lastP p A).to<u):(¬ ∃ c∈A,c.1.fr≤u∧u≤c.1.to)∧kP A u=0∧iP A u=zIt:=by
 have hn:¬ ∃ c∈A,c.1.fr≤u∧u≤c.1.to:=fun ⟨c,hc,h1,h2⟩=>by have:=(RightP_ends h c hc).2;omega
 refine ⟨hn,?_⟩
 have h1:=kP_append A [] u
 rw [if_neg hn,if_neg hn,List.append_nil] at h1
 exact h1
theorem layP_ok {A A':List Pce} {c:Pce} (hA:RightP Sp.zr A) (hc:Well c) (hl:(lastP Sp.zr A).to<c.1.fr) (h:layP A c A'):RightP Sp.zr A'∧(lastP Sp.zr A').to=c.1.to∧(∀ u,kP A' u=if c.1.fr≤u∧u≤c.1.to then c.1.is else kP A u)∧(∀ u,iP A' u=if c.1.fr≤u∧u≤c.1.to then c.2 else iP A u):=by
 have hs:∀ (B:List Pce) (d:Pce),RightP Sp.zr B→(lastP Sp.zr B).to<d.1.fr→∀ u,(kP (B++[d]) u=if d.1.fr≤u∧u≤d.1.to then d.1.is else kP B u)∧(iP (B++[d]) u=if d.1.fr≤u∧u≤d.1.to then d.2 else iP B u):=by
  intro B d hB hd u
  obtain ⟨h1,h2⟩:=kP_append B [d] u
  rw [h1,h2]
  by_cases hu:d.1.fr≤u∧u≤d.1.to
  ·obtain ⟨hn,_⟩:=RightP_at hB (u:=u) (by omega)
   rw [if_neg hn,if_neg hn,if_pos hu,if_pos hu,kP,iP,if_pos hu,if_pos hu]
   exact ⟨rfl,rfl⟩
  ·rw [if_neg hu,if_neg hu,kP,iP,if_neg hu,if_neg hu]
   by_cases he:∃ c∈B,c.1.fr≤u∧u≤c.1.to
   ·rw [if_pos he,if_pos he]
    exact ⟨rfl,rfl⟩
   ·have h3:=kP_append B [] u
    rw [if_neg he,if_neg he,List.append_nil] at h3
    rw [if_neg he,if_neg he,h3.1,h3.2]
    exact ⟨rfl,rfl⟩
 rcases h with ⟨rfl,rfl⟩ | ⟨i,d,rfl,⟨hn,rfl⟩ | ⟨⟨g1,g2,g3⟩,rfl⟩⟩
 ·refine ⟨⟨hl,hc.wa,hc.wb,hc.wc.1,hc.wc.2,fun e=>by have e2:c.1.is=0:=e.2.1;have:=hc.wc.1;omega,hc.wd,hc.we,trivial⟩,rfl,fun u=>rfl,fun u=>rfl⟩
 ·refine ⟨RightP_snoc _ _ _ hA ⟨hl,hc.wa,hc.wb,hc.wc.1,hc.wc.2,fun e => ?_,hc.wd,hc.we,trivial⟩,by rw [lastP_snoc],fun u=>(hs _ c hA hl u).1,fun u=>(hs _ c hA hl u).2⟩
  rw [lastP_snoc] at e
  rcases hn with h | h | h
  ·exact e.2.2 h
  ·exact h e.2.1
  ·exact h e.1
 ·obtain ⟨q1,q2⟩:=RightP_init i d Sp.zr hA
  obtain ⟨b1,b2,b3,b4,b5,b6,b7,b8,_⟩:=q2
  have hd1:d.1.is≠1:=by omega
  have ha:=hc.wa
  have hr2:RightP (lastP Sp.zr i) [((⟨d.1.fr,c.1.to,d.1.is⟩:Sp),d.2)]:=⟨b1,by show d.1.fr≤c.1.to;omega,hc.wb,b4,b5,b6,fun e=>absurd e hd1,b8,trivial⟩
  have hz:=b8 hd1
  have hcz:=hc.we g1
  refine ⟨RightP_snoc _ _ _ q1 hr2,by rw [lastP_snoc],fun u => ?_,fun u => ?_⟩
  ·rw [(hs i (⟨d.1.fr,c.1.to,d.1.is⟩,d.2) q1 b1 u).1,(hs i d q1 b1 u).1]
   show (if d.1.fr≤u∧u≤c.1.to then d.1.is else kP i u)=_
   by_cases e1:c.1.fr≤u∧u≤c.1.to
   ·rw [if_pos e1,if_pos (by omega),g2]
   ·rw [if_neg e1]
    by_cases e2:d.1.fr≤u∧u≤d.1.to
    ·rw [if_pos e2,if_pos (by omega)]
    ·rw [if_neg e2,if_neg (by omega)]
  ·rw [(hs i (⟨d.1.fr,c.1.to,d.1.is⟩,d.2) q1 b1 u).2,(hs i d q1 b1 u).2]
   show (if d.1.fr≤u∧u≤c.1.to then d.2 else iP i u)=_
   by_cases e1:c.1.fr≤u∧u≤c.1.to
   ·rw [if_pos e1,if_pos (by omega),hz,hcz]
   ·rw [if_neg e1]
    by_cases e2:d.1.fr≤u∧u≤d.1.to
    ·rw [if_pos e2,if_pos (by omega)]
    ·rw [if_neg e2,if_neg (by omega)]
end
section
def hitB (lk:Int) (q:It):Bool:=decide (bits .and .u32 q.for_ lk≠0)
def seenX (lk:Int) (X:List It):List It:=X.filter (hitB lk)
def seenK (L:List Sp) (X:List It) (lk u:Int):Int:=match getI X u with | some q=>if hitB lk q=true then atS L u else 2 | none=>atS L u
structure Seen (L:List Sp) (X:List It) (lk:Int) (L1:List Sp):Prop where
 right:RightS Sp.zr L1
 at_:∀ u,atS L1 u=seenK L X lk u
def seeK (L:List Sp) (X:List It) (lk u:Int):Int:=match getI X u with | some q=>if hitB lk q=true then 1 else 2 | none=>atS L u
def seeI (X:List It) (lk u:Int):It:=match getI X u with | some q=>if hitB lk q=true then q else zIt | none=>zIt
theorem Seen.pass {L:List Sp} {X:List It} {lk:Int} {L1:List Sp} (h:Seen L X lk L1) (hK:Kn L X) (u:Int):passU (kk L X) (getI X) lk u↔atS L1 u=2:=by
 rw [h.at_ u]
 unfold passU kk seenK noHit
 cases hx:getI X u with
 | none =>
  simp only [Option.isSome_none,Bool.false_eq_true,if_false]
  have:=hK.quiet u
  constructor
  ·rintro (h | ⟨h,_⟩)
   ·exact h
   ·exact absurd h this
  ·exact .inl
 | some q =>
  simp only [Option.isSome_some,if_true]
  have hm:=getI_tick hx
  have h0:=hK.off q hm.2
  rw [hm.1] at h0
  by_cases hh:hitB lk q=true
  ·rw [if_pos hh,h0]
   have hh':=of_decide_eq_true hh
   constructor
   ·rintro (h | ⟨_,h⟩)
    ·cases h
    ·exact absurd (h q rfl) hh'
   ·intro h;cases h
  ·rw [if_neg hh]
   refine ⟨fun _=>rfl,fun _=>.inr ⟨trivial,fun r hr => ?_⟩⟩
   cases hr
   have:¬ bits .and .u32 q.for_ lk≠0:=fun h=>hh (decide_eq_true h)
   exact Decidable.not_not.1 this
structure PiecesOf (L:List Sp) (X:List It) (lk f t:Int) (P:List Pce):Prop where
 right:RightP Sp.zr P
 k:∀ u,kP P u=if f≤u∧u≤t then seeK L X lk u else 0
 i:∀ u,iP P u=if f≤u∧u≤t then seeI X lk u else zIt
theorem PiecesOf.uniq {L:List Sp} {X:List It} {lk f t:Int} {P Q:List Pce} (h:PiecesOf L X lk f t P) (g:PiecesOf L X lk f t Q):P=Q:=canonP P Q _ _ h.right g.right (fun u=>by rw [h.k,g.k]) (fun u=>by rw [h.i,g.i])
def fullB (p:Pc) (c:Pce):Bool:=if c.1.is=1 then decide (p.items.length=8) else decide (p.spans.length=32)
def addP (p:Pc) (c:Pce):Pc:=if c.1.is=1 then ⟨p.kind,p.pub,p.sub,p.n_,p.fr,p.to_,p.spans,p.items++[c.2]⟩ else ⟨p.kind,p.pub,p.sub,p.n_,p.fr,p.to_,p.spans++[c.1],p.items⟩
def restP (pub t:Int) (c:Pce):Pc:=⟨1,pub,0,0,c.1.fr,t,[],[]⟩
def shutP (p:Pc) (c:Pce):Pc:=⟨p.kind,p.pub,p.sub,p.n_,p.fr,c.1.fr - 1,p.spans,p.items⟩
def cutP (pub t:Int):List Pce→Pc→List Pc
 | [],p=>[p]
 | c :: r,p=>if fullB p c=true then shutP p c :: cutP pub t r (addP (restP pub t c) c) else cutP pub t r (addP p c)
def tellsOf (pub f t:Int):List Pce→List Pc
 | [] => []
 | c :: r=>cutP pub t (c :: r) ⟨1,pub,0,0,f,t,[],[]⟩
end
section
def RiseI (p:Int):List Int→Prop
 | [] => True
 | x :: l=>p<x∧x≤1099511627776∧RiseI x l
def nextI:List Int→Int
 | [] => 1099511627777
 | x :: _=>x
def insI:List Int→Int→List Int
 | [],n=>[n]
 | x :: l,n=>if n≤x then (if n<x then n :: x :: l else x :: l) else x :: insI l n
def putI (l:List Int) (n:Int):List Int:=if 1099511627776<n then l else insI l n
theorem insI_mem:∀ (l:List Int) (n x:Int),x∈insI l n↔x=n∨x∈l
 | [],n,x=>by simp [insI]
 | y :: l,n,x=>by
  rw [insI]
  split
  ·split
   ·simp
   ·have:n=y:=by omega
    subst this
    simp
  ·simp only [List.mem_cons,insI_mem l n x]
   constructor
   ·rintro (h | h | h)
    ·exact .inr (.inl h)
    ·exact .inl h
    ·exact .inr (.inr h)
   ·rintro (h | h | h)
    ·exact .inr (.inl h)
    ·exact .inl h
    ·exact .inr (.inr h)
theorem insI_rise:∀ (l:List Int) (p n:Int),RiseI p l→p<n→n≤1099511627776→RiseI p (insI l n)
 | [],p,n,_,h1,h2=>⟨h1,h2,trivial⟩
 | y :: l,p,n,⟨a1,a2,a3⟩,h1,h2=>by
  rw [insI]
  split
  ·split
   ·exact ⟨h1,h2,by omega,a2,a3⟩
   ·exact ⟨a1,a2,a3⟩
  ·exact ⟨a1,a2,insI_rise l y n a3 (by omega) h2⟩
theorem riseI_low:∀ (l:List Int) (p x:Int),RiseI p l→x∈l→p<x∧x≤1099511627776
 | y :: l,p,x,⟨a1,a2,a3⟩,h=>by
  rcases List.mem_cons.1 h with rfl | h
  ·exact ⟨a1,a2⟩
  ·have:=riseI_low l y x a3 h
   omega
structure EdgeI (E:List Int):Prop where
 one:∃ r,E=1 :: r∧RiseI 1 r
theorem EdgeI.put {E:List Int} (h:EdgeI E) {n:Int} (hn:1≤n):EdgeI (putI E n):=by
 obtain ⟨r,rfl,hr⟩:=h.one
 unfold putI
 split
 ·exact ⟨r,rfl,hr⟩
 ·rw [insI]
  split
  ·rw [if_neg (by omega)]
   exact ⟨r,rfl,hr⟩
  ·exact ⟨_,rfl,insI_rise r 1 n hr (by omega) (by omega)⟩
theorem EdgeI.rise {E:List Int} (h:EdgeI E):RiseI 0 E:=by
 obtain ⟨r,rfl,hr⟩:=h.one
 exact ⟨by omega,by omega,hr⟩
theorem putI_mem {l:List Int} {n x:Int} (h:x∈l):x∈putI l n:=by
 unfold putI
 split
 ·exact h
 ·exact (insI_mem l n x).2 (.inr h)
theorem putI_new (l:List Int) (n:Int):n∈putI l n∨1099511627776<n:=by
 unfold putI
 split
 ·rename_i h;exact .inr h
 ·exact .inl ((insI_mem l n n).2 (.inl rfl))
def CovS (E:List Int) (l:List Sp):Prop:=∀ s∈l,s.fr∈E∧(s.to+1∈E∨1099511627776<s.to+1)
theorem CovS.put {E:List Int} {l:List Sp} (h:CovS E l) (n:Int):CovS (putI E n) l:=fun s hs=>⟨putI_mem (h s hs).1,(h s hs).2.imp putI_mem id⟩
theorem CovS.snoc {E:List Int} {l:List Sp} (h:CovS E l) (s:Sp) (hs:s.fr≤1099511627776):CovS (putI (putI E s.fr) (s.to+1)) (l++[s]):=by
 intro q hq
 rcases List.mem_append.1 hq with hq | hq
 ·exact (h.put _).put _ q hq
 ·obtain rfl:q=s:=by simpa using hq
  refine ⟨putI_mem ((putI_new E q.fr).resolve_right (by omega)),putI_new _ _⟩
theorem riseI_gap:∀ (E:List Int) (p:Int) (i:Nat) (t:Int) (r:List Int),RiseI p E→E.drop i=t :: r→p<t∧t≤1099511627776∧RiseI t r∧∀ x∈E,x≤t∨nextI r≤x
 | [],p,i,t,r,_,h=>by simp at h
 | y :: l,p,0,t,r,⟨a1,a2,a3⟩,h=>by
  simp only [List.drop_zero,List.cons.injEq] at h
  obtain ⟨rfl,rfl⟩:=h
  refine ⟨a1,a2,a3,fun x hx => ?_⟩
  rcases List.mem_cons.1 hx with rfl | hx
  ·exact .inl (Int.le_refl _)
  ·right
   cases l with
   | nil=>cases hx
   | cons z l =>
    rcases List.mem_cons.1 hx with rfl | hx
    ·exact Int.le_refl _
    ·have:=riseI_low l z x a3.2.2 hx
     show z≤x
     omega
 | y :: l,p,i+1,t,r,⟨a1,a2,a3⟩,h=>by
  rw [List.drop_succ_cons] at h
  obtain ⟨b1,b2,b3,b4⟩:=riseI_gap l y i t r a3 h
  refine ⟨by omega,b2,b3,fun x hx => ?_⟩
  rcases List.mem_cons.1 hx with rfl | hx
  ·left;omega
  ·exact b4 x hx
theorem nextI_le {r:List Int} {t:Int} (h:RiseI t r) (ht:t≤1099511627776):t<nextI r∧nextI r≤1099511627777:=by
 cases r with
 | nil=>exact ⟨by show t<1099511627777;omega,Int.le_refl _⟩
 | cons x r=>exact ⟨h.1,by show x≤1099511627777;have:=h.2.1;omega⟩
theorem flatS {E:List Int} {t:Int} {r:List Int} (hg:∀ x∈E,x≤t∨nextI r≤x) (hn:nextI r≤1099511627777):∀ (l:List Sp),CovS E l→∀ u,t≤u→u<nextI r→atS l u=atS l t
 | [],_,_,_,_=>rfl
 | s :: l,hc,u,h1,h2=>by
  obtain ⟨c1,c2⟩:=hc s (by simp)
  have d1:=hg _ c1
  have d2:s.to+1≤t∨nextI r≤s.to+1:=by
   rcases c2 with c2 | c2
   ·exact hg _ c2
   ·right;omega
  rw [atS,atS]
  by_cases h:s.fr≤t∧t≤s.to
  ·rw [if_pos h,if_pos (by omega)]
  ·rw [if_neg h,if_neg (by omega)]
   exact flatS hg hn l (fun q hq=>hc q (by simp [hq])) u h1 h2
def tellF (how:Int) (x y:Int):Int :=
 if how=0 then max x y else if how=1 then (if y=0 then 0 else x) else if how=2 then (if y=0 then x else 0) else (if y=0∨x≠0 then 0 else 1)
theorem tellF_zero (how:Int):tellF how 0 0=0:=by
 unfold tellF
 split
 ·rfl
 ·split
  ·rfl
  ·split
   ·rfl
   ·rfl
theorem tellF_range {how x y:Int} (hx:0≤x∧x≤3) (hy:0≤y∧y≤3):0≤tellF how x y∧tellF how x y≤3:=by
 unfold tellF
 split
 ·omega
 ·split
  ·split <;> omega
  ·split
   ·split <;> omega
   ·split <;> omega
structure MadeS (F:Int→Int) (t:Int) (out:List Sp):Prop where
 ro:RightS Sp.zr out
 lt:(lastS Sp.zr out).to<t
 eo:∀ u,u<t→atS out u=F u
theorem MadeS.step {a b:List Sp} {how:Int} {E:List Int} {i:Nat} {t:Int} {r:List Int} {out out':List Sp} (ha:RightS Sp.zr a) (hb:RightS Sp.zr b) (hE:EdgeI E) (ca:CovS E a) (cb:CovS E b)
  (h:MadeS (fun u=>tellF how (atS a u) (atS b u)) t out) (hd:E.drop i=t :: r) (hl:layS out ⟨t,nextI r - 1,tellF how (atS a t) (atS b t)⟩ out') :
  MadeS (fun u=>tellF how (atS a u) (atS b u)) (nextI r) out':=by
 obtain ⟨g1,g2,g3,g4⟩:=riseI_gap E 0 i t r hE.rise hd
 obtain ⟨n1,n2⟩:=nextI_le g3 g2
 obtain ⟨z1,z2,z3⟩:=layS_ok h.ro (by simpa using h.lt) (by simp only;omega) (by simp only;omega) (by simpa using tellF_range (atS_range ha t) (atS_range hb t)) hl
 simp only at z2 z3
 refine ⟨z1,by omega,fun u hu => ?_⟩
 rw [z3 u]
 split
 ·rename_i hh
  show _=tellF how (atS a u) (atS b u)
  rw [flatS g4 n2 a ca u hh.1 (by omega),flatS g4 n2 b cb u hh.1 (by omega)]
 ·exact h.eo u (by omega)
theorem MadeS.start {a b:List Sp} {how:Int} (ha:RightS Sp.zr a) (hb:RightS Sp.zr b):MadeS (fun u=>tellF how (atS a u) (atS b u)) 1 [] :=
 ⟨trivial,by simp [lastS,Sp.zr],fun u hu=>by
  have:u≤Sp.zr.to:=by simp [Sp.zr];omega
  show _=tellF how (atS a u) (atS b u)
  rw [atS_low ha this,atS_low hb this,tellF_zero];rfl⟩
theorem MadeS.done {a b:List Sp} {how:Int} {out:List Sp} (ha:RightS Sp.zr a) (hb:RightS Sp.zr b) (h:MadeS (fun u=>tellF how (atS a u) (atS b u)) 1099511627777 out):RightS Sp.zr out∧∀ u,atS out u=tellF how (atS a u) (atS b u):=by
 refine ⟨h.ro,fun u => ?_⟩
 by_cases hu:u<1099511627777
 ·exact h.eo u hu
 ·rw [(atS_last _ _ h.ro u (by have:=h.lt;omega)).2,atS_high ha (by omega),atS_high hb (by omega),tellF_zero]
end
section
open Go.RowKit
structure InsRd (w:World) (a:Option Addr) (n:Nat) (l:List Int):Prop where
 size:l.length=n
 cells:l=[] ∨ ∃ g,a=some ⟨g,0,none⟩∧g<w.heap.size∧∀ (i:Nat) (x:Int),l[i]? = some x→w.cell? ⟨g,i,none⟩=some (.int .i64 x)
theorem InsRd.below {w w':World} {a:Option Addr} {n:Nat} {l:List Int} (h:InsRd w a n l) (hb:Below w.heap.size w w'):InsRd w' a n l:=by
 refine ⟨h.size,?_⟩
 rcases h.cells with h0 | ⟨g,ha,hg,hc⟩
 ·exact .inl h0
 ·refine .inr ⟨g,ha,Nat.lt_of_lt_of_le hg hb.size,fun i x hi => ?_⟩
  rw [hb.cell (p:=⟨g,i,none⟩) hg]
  exact hc i x hi
theorem InsRd.at_ {w:World} {a:Option Addr} {n:Nat} {l:List Int} (h:InsRd w a n l) (i:Nat) (hi:i<n):∃ g,a=some ⟨g,0,none⟩∧g<w.heap.size∧∃ x,l[i]? = some x∧w.cell? ⟨g,i,none⟩=some (.int .i64 x):=by
 have hl:i<l.length:=by rw [h.size];exact hi
 rcases h.cells with rfl | ⟨g,ha,hg,hc⟩
 ·simp at hl
 ·exact ⟨g,ha,hg,l[i],List.getElem?_eq_getElem hl,hc i l[i] (List.getElem?_eq_getElem hl)⟩
structure Ins (w:World) (base:Nat) (v:Value) (l:List Int):Prop where
 row:w.ownsRow base 3 1 v l.length (l.map (Value.int .i64))
theorem Ins.below {w w':World} {base:Nat} {v:Value} {l:List Int} (h:Ins w base v l) (hb:Below w.heap.size w w'):Ins w' base v l:=by
 refine ⟨⟨h.row.1,?_⟩⟩
 rcases h.row.2 with hn | ⟨g,c,cur,hv,hbg,hg,r⟩
 ·exact .inl hn
 ·exact .inr ⟨g,c,cur,hv,hbg,by rw [hb.block g (Array.getElem?_eq_some_iff.1 hg).1];exact hg,r⟩
theorem Ins.lower {w:World} {base base':Nat} {v:Value} {l:List Int} (h:Ins w base v l) (hb:base'≤base):Ins w base' v l:=by
 refine ⟨⟨h.row.1,?_⟩⟩
 rcases h.row.2 with hn | ⟨g,c,cur,hv,hbg,r⟩
 ·exact .inl hn
 ·exact .inr ⟨g,c,cur,hv,Nat.le_trans hb hbg,r⟩
theorem Ins.form {w:World} {base:Nat} {v:Value} {l:List Int} (h:Ins w base v l):∃ a c,v=.slice a l.length c∧l.length≤c:=by
 rcases h.row.2 with ⟨hv,hn⟩ | ⟨g,c,cur,hv,_,_,hc,_⟩
 ·exact ⟨none,0,by rw [hv,hn],by omega⟩
 ·exact ⟨_,c,hv,hc⟩
theorem Ins.rd {w:World} {base:Nat} {a:Option Addr} {n c:Nat} {l:List Int} (h:Ins w base (.slice a n c) l):InsRd w a n l:=by
 rcases h.row.2 with ⟨hv,hn⟩ | ⟨g,c',cur,hv,hb,hg,hlc,hm,hs,ht⟩
 ·simp only [Value.slice.injEq] at hv
  exact ⟨by omega,.inl (List.length_eq_zero_iff.1 hn)⟩
 ·have hr:=h.row
  simp only [Value.slice.injEq] at hv
  obtain ⟨rfl,rfl,rfl⟩:=hv
  refine ⟨rfl,.inr ⟨g,rfl,(Array.getElem?_eq_some_iff.1 hg).1,fun i x hi => ?_⟩⟩
  have hil:i<l.length:=(List.getElem?_eq_some_iff.1 hi).1
  rw [hr.cellAt i (by omega),List.getElem?_map,hi]
  rfl
theorem Ins.grown {w w':World} {base:Nat} {v:Value} {l:List Int} (h:Ins w base v l) (hb:base≤w.heap.size) (hg:w.grownBy w' v.ownBlock):Below base w w' :=
 ⟨hg.os,hg.tape,hg.output,hg.size,fun k hk=>hg.block k (by omega) fun e=>by have:=(h.row.lt k e.symm).1;omega⟩
end
section
open Go.RowKit
def CovI (i:Nat) (E:List Int) (la lb:List Sp):Prop:=(1≤i→CovS E la)∧(2≤i→CovS E lb)
theorem CovI.put {i:Nat} {E:List Int} {la lb:List Sp} (h:CovI i E la lb) (n:Int):CovI i (putI E n) la lb:=⟨fun g=>(h.1 g).put n,fun g=>(h.2 g).put n⟩
end
section
open Go.RowKit
theorem Ins.away {w w':World} {base base2:Nat} {v v2:Value} {l:List Int} {m:List Sp} (h:Ins w base v l) (h2:Sps w base2 v2 m) (hg:w.grownBy w' v2.ownBlock):Ins w' base v l:=by
 refine ⟨⟨h.row.1,?_⟩⟩
 rcases h.row.2 with hn | ⟨g,c,cur,hv,hbg,hgg,r⟩
 ·exact .inl hn
 ·refine .inr ⟨g,c,cur,hv,hbg,?_,r⟩
  rw [hg.block g (Array.getElem?_eq_some_iff.1 hgg).1 (fun e => ?_)]
  ·exact hgg
  ·rcases h2.row.2 with ⟨h1,_⟩ | ⟨g2,c2,cur2,h1,_,h3,_⟩
   ·rw [h1] at e;cases e
   ·rw [h1] at e
    simp only [Value.ownBlock,Option.some.injEq] at e
    rw [← e,hgg] at h3
    simp only [Option.some.injEq,Obj.cells.injEq] at h3
    exact absurd h3.2.1 (by decide)
end
end Go.Proofs.YtoiennkfdjnkbaaGreatDoor
