import Derived.KernelRfl
import Derived.Test.YtoiennkfdjnkbaaGreatDoorRows
import Derived.WalkKit
import Derived.WalkLawsBesides
import Derived.WalkSpells
import Derived.Laws.BytesArg
import Derived.Laws.OwnMore
import Derived.Deep.AppendLies
import Derived.Deep.SlicePairs
import Derived.Below
set_option maxRecDepth 100000
set_option maxHeartbeats 8000000
namespace Go.Proofs.YtoiennkfdjnkbaaGreatDoor
section
structure Sp where
 fr:Int
 to:Int
 is:Int
def atS:List Sp→Int→Int
 | [],_=>0
 | s :: l,t=>if s.fr≤t∧t≤s.to then s.is else atS l t
def RightS (p:Sp):List Sp→Prop
 | [] => True
 | s :: l=>p.to<s.fr∧s.fr≤s.to∧s.to≤1099511627776∧1≤s.is∧s.is≤3∧¬ (s.fr=p.to+1∧s.is=p.is)∧RightS s l
def Sp.zr:Sp:=⟨0,0,0⟩
def lastS (p:Sp):List Sp→Sp
 | [] => p
 | s :: l=>lastS s l
theorem atS_low {l:List Sp}:∀ {p:Sp},RightS p l→∀ {t:Int},t≤p.to→atS l t=0:=by
 induction l with
 | nil=>intros;rfl
 | cons s l ih =>
  intro p h t ht
  obtain ⟨h1,h2,h3,h4,h5,h6,h7⟩:=h
  rw [atS,if_neg (by omega)]
  exact ih h7 (by omega)
theorem atS_high {l:List Sp}:∀ {p:Sp},RightS p l→∀ {t:Int},1099511627776<t→atS l t=0:=by
 induction l with
 | nil=>intros;rfl
 | cons s l ih =>
  intro p h t ht
  obtain ⟨h1,h2,h3,h4,h5,h6,h7⟩:=h
  rw [atS,if_neg (by omega)]
  exact ih h7 ht
theorem atS_range {l:List Sp}:∀ {p:Sp},RightS p l→∀ (t:Int),0≤atS l t∧atS l t≤3:=by
 induction l with
 | nil=>intros;simp [atS]
 | cons s l ih =>
  intro p h t
  obtain ⟨h1,h2,h3,h4,h5,h6,h7⟩:=h
  rw [atS]
  split
  ·omega
  ·exact ih h7 t
theorem atS_next {l:List Sp} {p:Sp} (h:RightS p l) (hp:p.is≠0):atS l (p.to+1)≠p.is:=by
 cases l with
 | nil=>exact fun e=>hp e.symm
 | cons s l =>
  obtain ⟨h1,h2,h3,h4,h5,h6,h7⟩:=h
  rw [atS]
  split
  ·rename_i hh
   intro e
   exact h6 ⟨by omega,e⟩
  ·rw [atS_low h7 (by omega)]
   exact fun e=>hp e.symm
theorem canonS:∀ (l m:List Sp) (p q:Sp),RightS p l→RightS q m→(∀ t,atS l t=atS m t)→l=m
 | [],[],_,_,_,_,_=>rfl
 | [],s :: m,_,_,_,hm,h=>by
  obtain ⟨h1,h2,h3,h4,h5,h6,h7⟩:=hm
  have:=h s.fr
  rw [atS,atS,if_pos (by omega)] at this
  omega
 | s :: l,[],_,_,hl,_,h=>by
  obtain ⟨h1,h2,h3,h4,h5,h6,h7⟩:=hl
  have:=h s.fr
  rw [atS,atS,if_pos (by omega)] at this
  omega
 | s :: l,r :: m,p,q,hl,hm,h=>by
  obtain ⟨a1,a2,a3,a4,a5,a6,a7⟩:=hl
  obtain ⟨b1,b2,b3,b4,b5,b6,b7⟩:=hm
  have ef:s.fr=r.fr:=by
   rcases Int.lt_trichotomy s.fr r.fr with hh | hh | hh
   ·have:=h s.fr
    rw [atS,atS,if_pos (by omega),if_neg (by omega),atS_low b7 (by omega)] at this
    omega
   ·exact hh
   ·have:=h r.fr
    rw [atS,atS,if_neg (by omega),if_pos (by omega),atS_low a7 (by omega)] at this
    omega
  have ei:s.is=r.is:=by
   have:=h s.fr
   rw [atS,atS,if_pos (by omega),if_pos (by omega)] at this
   exact this
  have et:s.to=r.to:=by
   rcases Int.lt_trichotomy s.to r.to with hh | hh | hh
   ·have:=h (s.to+1)
    rw [atS,atS,if_neg (by omega),if_pos (by omega)] at this
    exact absurd (this.trans ei.symm) (atS_next a7 (by omega))
   ·exact hh
   ·have:=h (r.to+1)
    rw [atS,atS,if_pos (by omega),if_neg (by omega)] at this
    exact absurd (this.symm.trans ei) (atS_next b7 (by omega))
  have es:s=r:=by
   cases s;cases r
   simp_all
  subst es
  rw [canonS l m s s a7 b7 fun t => ?_]
  by_cases ht:t≤s.to
  ·rw [atS_low a7 ht,atS_low b7 ht]
  ·have:=h t
   rw [atS,atS,if_neg (by omega),if_neg (by omega)] at this
   exact this
theorem atS_append:∀ (l m:List Sp) (p:Sp),RightS p l→∀ t,atS (l++m) t=if atS l t=0 then atS m t else atS l t
 | [],m,_,_,t=>by simp [atS]
 | s :: l,m,p,h,t=>by
  obtain ⟨h1,h2,h3,h4,h5,h6,h7⟩:=h
  rw [List.cons_append,atS,atS]
  split
  ·rw [if_neg (by omega)]
  ·exact atS_append l m s h7 t
theorem lastS_append:∀ (l:List Sp) (s p:Sp),lastS p (l++[s])=s
 | [],_,_=>rfl
 | _ :: l,s,_=>lastS_append l s _
theorem RightS_snoc:∀ (l:List Sp) (s p:Sp),RightS p l→RightS (lastS p l) [s] → RightS p (l++[s])
 | [],_,_,_,h=>h
 | _ :: l,s,_,⟨h1,h2,h3,h4,h5,h6,h7⟩,h=>⟨h1,h2,h3,h4,h5,h6,RightS_snoc l s _ h7 h⟩
theorem RightS_init:∀ (l:List Sp) (s p:Sp),RightS p (l++[s])→RightS p l∧RightS (lastS p l) [s]
 | [],_,_,h=>⟨trivial,h⟩
 | _ :: l,s,_,⟨h1,h2,h3,h4,h5,h6,h7⟩=>⟨⟨h1,h2,h3,h4,h5,h6,(RightS_init l s _ h7).1⟩,(RightS_init l s _ h7).2⟩
theorem atS_last:∀ (l:List Sp) (p:Sp),RightS p l→∀ t,(lastS p l).to<t→p.to<t∧atS l t=0
 | [],_,_,t,h=>⟨h,rfl⟩
 | s :: l,p,⟨h1,h2,h3,h4,h5,h6,h7⟩,t,h=>by
  obtain ⟨a,b⟩:=atS_last l s h7 t h
  refine ⟨by omega,?_⟩
  rw [atS,if_neg (by omega),b]
theorem RightS_len:∀ (l:List Sp) (p:Sp),RightS p l→p.to+l.length≤(lastS p l).to∧(l≠[] → (lastS p l).to≤1099511627776)
 | [],p,_=>⟨by simp [lastS],fun h=>absurd rfl h⟩
 | s :: l,p,⟨h1,h2,h3,h4,h5,h6,h7⟩=>by
  obtain ⟨a,b⟩:=RightS_len l s h7
  refine ⟨by rw [lastS,List.length_cons];omega,fun _ => ?_⟩
  rw [lastS]
  by_cases h0:l=[]
  ·subst h0;exact h3
  ·exact b h0
def layS (l:List Sp) (s:Sp) (l':List Sp):Prop :=
 (s.is=0∧l'=l)∨(s.is≠0∧∃ i q,l=i++[q] ∧ s.fr=q.to+1∧s.is=q.is∧l'=i++[⟨q.fr,s.to,q.is⟩]) ∨
 (s.is≠0∧(∀ i q,l=i++[q] → ¬ (s.fr=q.to+1∧s.is=q.is))∧l'=l++[s])
theorem snocS (l:List Sp):l=[] ∨ ∃ i q,l=i++[q]:=by
 rcases List.eq_nil_or_concat l with h | ⟨i,q,h⟩
 ·exact .inl h
 ·exact .inr ⟨i,q,by simpa using h⟩
theorem layS_ok {l l':List Sp} {s:Sp} (hl:RightS Sp.zr l) (h0:(lastS Sp.zr l).to<s.fr) (h1:s.fr≤s.to) (h2:s.to≤1099511627776) (h3:0≤s.is∧s.is≤3) (h:layS l s l') :
  RightS Sp.zr l'∧(lastS Sp.zr l').to≤s.to∧∀ t,atS l' t=if s.fr≤t∧t≤s.to then s.is else atS l t:=by
 rcases h with ⟨e,rfl⟩ | ⟨e,i,q,rfl,e1,e2,rfl⟩ | ⟨e,hn,rfl⟩
 ·refine ⟨hl,by omega,fun t => ?_⟩
  split
  ·rw [(atS_last _ _ hl t (by omega)).2,e]
  ·rfl
 ·obtain ⟨g1,g2⟩:=RightS_init _ _ _ hl
  obtain ⟨a1,a2,a3,a4,a5,a6,a7⟩:=g2
  refine ⟨RightS_snoc _ _ _ g1 ⟨a1,by show q.fr≤s.to;omega,h2,a4,a5,a6,trivial⟩,by rw [lastS_append];exact Int.le_refl _,fun t => ?_⟩
  rw [atS_append _ _ _ g1,atS_append _ _ _ g1]
  simp only [atS]
  by_cases hlt:(lastS Sp.zr i).to<t
  ·rw [if_pos (atS_last _ _ g1 t hlt).2,if_pos (atS_last _ _ g1 t hlt).2]
   split <;> split <;> (try split) <;> omega
  ·rw [if_neg (by omega:¬ (q.fr≤t∧t≤s.to)),if_neg (by omega:¬ (q.fr≤t∧t≤q.to)),if_neg (by omega:¬ (s.fr≤t∧t≤s.to))]
 ·refine ⟨RightS_snoc _ _ _ hl ⟨h0,h1,h2,by omega,by omega,?_,trivial⟩,by rw [lastS_append];exact Int.le_refl _,fun t => ?_⟩
  ·rcases snocS l with rfl | ⟨i,q,rfl⟩
   ·rintro ⟨_,e2⟩
    exact e e2
   ·rw [lastS_append]
    exact hn i q rfl
  ·rw [atS_append _ _ _ hl]
   simp only [atS]
   by_cases hlt:(lastS Sp.zr l).to<t
   ·rw [if_pos (atS_last _ _ hl t hlt).2,(atS_last _ _ hl t hlt).2]
   ·have hx:¬ (s.fr≤t∧t≤s.to):=by omega
    simp only [hx,if_false]
    split
    ·rename_i h9;exact h9.symm
    ·rfl
def runS (l:List Sp) (at_:Int):Sp :=
 match l with
 | [] => ⟨at_,1099511627776,0⟩
 | s :: _=>if at_<s.fr then ⟨at_,s.fr - 1,0⟩ else ⟨at_,s.to,s.is⟩
def behindS:List Sp→Int→List Sp
 | [],_=>[]
 | s :: l,t=>if s.to<t then behindS l t else s :: l
theorem behindS_right:∀ (l:List Sp) (p:Sp) (t:Int),RightS p l→∃ q,RightS q (behindS l t)
 | [],p,_,h=>⟨p,h⟩
 | s :: l,p,t,h=>by
  rw [behindS]
  split
  ·exact behindS_right l s t h.2.2.2.2.2.2
  ·exact ⟨p,h⟩
theorem behindS_at:∀ (l:List Sp) (t u:Int),t≤u→atS (behindS l t) u=atS l u
 | [],_,_,_=>rfl
 | s :: l,t,u,h=>by
  rw [behindS]
  split
  ·rw [atS,if_neg (by omega),behindS_at l t u h]
  ·rfl
theorem behindS_head:∀ (l:List Sp) (t:Int),behindS l t=[] ∨ ∃ s r,behindS l t=s :: r∧t≤s.to
 | [],_=>.inl rfl
 | s :: l,t=>by
  rw [behindS]
  split
  ·exact behindS_head l t
  ·exact .inr ⟨s,l,rfl,by omega⟩
theorem runS_ok {l:List Sp} {p:Sp} {t:Int} (h:RightS p l) (hh:l=[] ∨ ∃ s r,l=s :: r∧t≤s.to) (ht:t≤1099511627776) :
  t≤(runS l t).to∧(runS l t).to≤1099511627776∧0≤(runS l t).is∧(runS l t).is≤3∧(runS l t).fr=t∧∀ u,t≤u→u≤(runS l t).to→atS l u=(runS l t).is:=by
 rcases hh with rfl | ⟨s,r,rfl,hs⟩
 ·exact ⟨ht,Int.le_refl _,by simp [runS],by simp [runS],rfl,fun _ _ _=>rfl⟩
 ·obtain ⟨a1,a2,a3,a4,a5,a6,a7⟩:=h
  unfold runS
  simp only
  split
  ·refine ⟨by simp only;omega,by simp only;omega,by simp,by simp,rfl,fun u h1 h2 => ?_⟩
   simp only at h2
   rw [atS,if_neg (by omega),atS_low a7 (by omega)]
  ·refine ⟨by simp only;omega,by simp only;omega,by simp only;omega,by simp only;omega,rfl,fun u h1 h2 => ?_⟩
   simp only at h2
   rw [atS,if_pos (by omega)]
structure JoinS (a b:List Sp) (t:Int) (a' b' out:List Sp):Prop where
 lo:1≤t
 hi:t≤1099511627777
 ra:∃ p,RightS p a'
 rb:∃ p,RightS p b'
 ea:∀ u,t≤u→atS a' u=atS a u
 eb:∀ u,t≤u→atS b' u=atS b u
 ro:RightS Sp.zr out
 lt:(lastS Sp.zr out).to<t
 eo:∀ u,u<t→atS out u=max (atS a u) (atS b u)
theorem JoinS.start {a b:List Sp} (ha:RightS Sp.zr a) (hb:RightS Sp.zr b):JoinS a b 1 a b [] :=
 ⟨by omega,by omega,⟨_,ha⟩,⟨_,hb⟩,fun _ _=>rfl,fun _ _=>rfl,trivial,by simp [lastS,Sp.zr],fun u hu=>by
  have:u≤Sp.zr.to:=by simp [Sp.zr];omega
  rw [atS_low ha this,atS_low hb this];rfl⟩
def bothS (a b:List Sp) (t:Int):Sp:=⟨t,min (runS a t).to (runS b t).to,max (runS a t).is (runS b t).is⟩
theorem JoinS.step {a b a' b' out out':List Sp} {t:Int} (h:JoinS a b t a' b' out) (ht:t≤1099511627776) (hl:layS out (bothS (behindS a' t) (behindS b' t) t) out') :
  JoinS a b ((bothS (behindS a' t) (behindS b' t) t).to+1) (behindS a' t) (behindS b' t) out'∧t≤(bothS (behindS a' t) (behindS b' t) t).to∧(bothS (behindS a' t) (behindS b' t) t).to≤1099511627776:=by
 obtain ⟨p,hp⟩:=h.ra
 obtain ⟨q,hq⟩:=h.rb
 obtain ⟨p',hp'⟩:=behindS_right _ _ t hp
 obtain ⟨q',hq'⟩:=behindS_right _ _ t hq
 have ea:=behindS_at a' t
 have eb:=behindS_at b' t
 obtain ⟨x1,x2,x3,x4,x5,x6⟩:=runS_ok hp' (behindS_head a' t) ht
 obtain ⟨y1,y2,y3,y4,y5,y6⟩:=runS_ok hq' (behindS_head b' t) ht
 generalize behindS a' t=a2 at *
 generalize behindS b' t=b2 at *
 have k0:t≤(bothS a2 b2 t).to:=by unfold bothS;simp only;omega
 have k1:(bothS a2 b2 t).to≤1099511627776:=by unfold bothS;simp only;omega
 have k2:(bothS a2 b2 t).to≤(runS a2 t).to:=by unfold bothS;simp only;omega
 have k3:(bothS a2 b2 t).to≤(runS b2 t).to:=by unfold bothS;simp only;omega
 have k4:(bothS a2 b2 t).is=max (runS a2 t).is (runS b2 t).is:=rfl
 have k5:(bothS a2 b2 t).fr=t:=rfl
 obtain ⟨z1,z2,z3⟩:=layS_ok h.ro (by rw [k5];exact h.lt) (by rw [k5];exact k0) k1 (by rw [k4];omega) hl
 rw [k5] at z3
 refine ⟨⟨by have:=h.lo;omega,by omega,⟨_,hp'⟩,⟨_,hq'⟩,fun u hu=>by rw [ea u (by omega),h.ea u (by omega)],fun u hu=>by rw [eb u (by omega),h.eb u (by omega)],z1,by omega,fun u hu => ?_⟩,k0,k1⟩
 rw [z3 u]
 split
 ·rename_i hh
  rw [k4,← h.ea u (by omega),← h.eb u (by omega),← ea u (by omega),← eb u (by omega),x6 u (by omega) (by omega),y6 u (by omega) (by omega)]
 ·exact h.eo u (by omega)
theorem JoinS.done {a b a' b' out:List Sp} {t:Int} (h:JoinS a b t a' b' out) (ht:¬ t≤1099511627776) (ha:RightS Sp.zr a) (hb:RightS Sp.zr b):RightS Sp.zr out∧∀ u,atS out u=max (atS a u) (atS b u):=by
 refine ⟨h.ro,fun u => ?_⟩
 by_cases hu:u<t
 ·exact h.eo u hu
 ·rw [(atS_last _ _ h.ro u (by have:=h.lt;omega)).2,atS_high ha (by omega),atS_high hb (by omega)]
  rfl
end
section
open Go.RowKit
theorem below_new (w:World) (o:Obj):Below w.heap.size w (w.alloc o):=(Below.refl _ _).alloc (Nat.le_refl _) _
theorem below_drew {B:Nat} {w w':World} (h:Below B w w'):Below B w w'.drew:=h.trans ⟨rfl,rfl,rfl,Nat.le_refl _,fun _ _=>rfl⟩
theorem below_drews {B:Nat} {w w':World} (h:Below B w w') (n:Nat):Below B w (w'.drewN n):=h.trans ⟨rfl,rfl,rfl,Nat.le_refl _,fun _ _=>rfl⟩
def Bk (w:World) (g:Nat) (cs:Array Value) (t:TypeId):Prop:=w.heap[g]? = some (.cells cs t (0,0))
theorem Bk.new (w:World) (cs:Array Value) (t:TypeId):Bk (w.alloc (.cells cs t)) w.heap.size cs t:=heap_alloc_new w _
theorem Bk.lt {w:World} {g:Nat} {cs:Array Value} {t:TypeId} (h:Bk w g cs t):g<w.heap.size:=(Array.getElem?_eq_some_iff.1 h).1
theorem Bk.below {w w':World} {B g:Nat} {cs:Array Value} {t:TypeId} (h:Bk w g cs t) (hb:Below B w w') (hg:g<B):Bk w' g cs t:=by
 unfold Bk
 rw [hb.block g hg]
 exact h
theorem Bk.stay {w w':World} {g:Nat} {cs:Array Value} {t:TypeId} (h:Bk w g cs t) (hb:Below w.heap.size w w'):Bk w' g cs t:=h.below hb h.lt
theorem Bk.cell {w:World} {g:Nat} {cs:Array Value} {t:TypeId} (h:Bk w g cs t) (i:Nat) {v:Value} (hv:cs[i]? = some v):w.cell? ⟨g,i,none⟩=some v:=by
 rw [cell_of_row w g i cs _ _ h,hv]
theorem Bk.free {w:World} {g:Nat} {cs:Array Value} {t:TypeId} (h:Bk w g cs t) (i:Nat):w.frozen? ⟨g,i,none⟩=false:=frozen_of_row w g i cs t h
theorem Bk.set {w:World} {g:Nat} {cs:Array Value} {t:TypeId} (h:Bk w g cs t) (i:Nat) (v:Value):Bk (w.setCell ⟨g,i,none⟩ v) g (cs.setIfInBounds i v) t:=heap_setCell_same w g i cs t v h
theorem Bk.other {w:World} {g:Nat} {cs:Array Value} {t:TypeId} (h:Bk w g cs t) (a:Addr) (v:Value) (ha:g≠a.block):Bk (w.setCell a v) g cs t:=by
 unfold Bk
 rw [heap_setCell_other w a g v ha]
 exact h
theorem Bk.grown {w w':World} {g:Nat} {cs:Array Value} {t:TypeId} {row:Option Nat} (h:Bk w g cs t) (hg:w.grownBy w' row) (hn:some g≠row):Bk w' g cs t:=by
 unfold Bk
 rw [hg.block g h.lt hn]
 exact h
def Sp.cells (q:Sp):Array Value:=#[.int .i64 q.fr,.int .i64 q.to,.int .i64 q.is]
structure SpsRd (w:World) (a:Option Addr) (n:Nat) (l:List Sp):Prop where
 size:l.length=n
 cells:l=[] ∨ ∃ g o,a=some ⟨g,o,none⟩∧g<w.heap.size∧∀ i q,l[i]? = some q→w.cell? ⟨g,o+i * 3,none⟩=some (.int .i64 q.fr)∧w.cell? ⟨g,o+i * 3+1,none⟩=some (.int .i64 q.to)∧w.cell? ⟨g,o+i * 3+2,none⟩=some (.int .i64 q.is)
theorem SpsRd.below {w w':World} {a:Option Addr} {n:Nat} {l:List Sp} (h:SpsRd w a n l) (hb:Below w.heap.size w w'):SpsRd w' a n l:=by
 refine ⟨h.size,?_⟩
 rcases h.cells with h0 | ⟨g,o,ha,hg,hc⟩
 ·exact .inl h0
 ·refine .inr ⟨g,o,ha,Nat.lt_of_lt_of_le hg hb.size,fun i q hi => ?_⟩
  rw [hb.cell (p:=⟨g,o+i * 3,none⟩) hg,hb.cell (p:=⟨g,o+i * 3+1,none⟩) hg,hb.cell (p:=⟨g,o+i * 3+2,none⟩) hg]
  exact hc i q hi
theorem SpsRd.at_ {w:World} {a:Option Addr} {n:Nat} {l:List Sp} (h:SpsRd w a n l) (i:Nat) (hi:i<n):∃ g o,a=some ⟨g,o,none⟩∧g<w.heap.size∧∃ q,l[i]? = some q∧w.cell? ⟨g,o+i * 3,none⟩=some (.int .i64 q.fr)∧w.cell? ⟨g,o+i * 3+1,none⟩=some (.int .i64 q.to)∧w.cell? ⟨g,o+i * 3+2,none⟩=some (.int .i64 q.is):=by
 have hl:i<l.length:=by rw [h.size];exact hi
 rcases h.cells with rfl | ⟨g,o,ha,hg,hc⟩
 ·simp at hl
 ·exact ⟨g,o,ha,hg,l[i],List.getElem?_eq_getElem hl,hc i l[i] (List.getElem?_eq_getElem hl)⟩
theorem SpsRd.tail {w:World} {g o n:Nat} {s:Sp} {l:List Sp} (h:SpsRd w (some ⟨g,o,none⟩) n (s :: l)):SpsRd w (some ⟨g,o+3,none⟩) (n - 1) l:=by
 refine ⟨by have:=h.size;simp at this;omega,?_⟩
 rcases h.cells with h0 | ⟨g',o',ha,hg,hc⟩
 ·cases h0
 ·simp only [Option.some.injEq,Addr.mk.injEq] at ha
  obtain ⟨rfl,rfl,_⟩:=ha
  refine .inr ⟨g,o+3,rfl,hg,fun i q hi => ?_⟩
  have:=hc (i+1) q (by simpa using hi)
  rw [show o+(i+1) * 3=o+3+i * 3 from by omega] at this
  exact this
structure Sps (w:World) (base:Nat) (v:Value) (l:List Sp):Prop where
 row:w.ownsRow base 186 3 v l.length (l.flatMap fun q=>q.cells.toList)
theorem Sps.nil_ (w:World) (base:Nat):Sps w base (.slice none 0 0) []:=⟨⟨rfl,.inl ⟨rfl,rfl⟩⟩⟩
theorem Sps.below {w w':World} {base:Nat} {v:Value} {l:List Sp} (h:Sps w base v l) (hb:Below w.heap.size w w'):Sps w' base v l:=by
 refine ⟨⟨h.row.1,?_⟩⟩
 rcases h.row.2 with hn | ⟨g,c,cur,hv,hbg,hg,r⟩
 ·exact .inl hn
 ·exact .inr ⟨g,c,cur,hv,hbg,by rw [hb.block g (Array.getElem?_eq_some_iff.1 hg).1];exact hg,r⟩
theorem Sps.lower {w:World} {base base':Nat} {v:Value} {l:List Sp} (h:Sps w base v l) (hb:base'≤base):Sps w base' v l:=by
 refine ⟨⟨h.row.1,?_⟩⟩
 rcases h.row.2 with hn | ⟨g,c,cur,hv,hbg,r⟩
 ·exact .inl hn
 ·exact .inr ⟨g,c,cur,hv,Nat.le_trans hb hbg,r⟩
theorem Sps.snoc {w':World} {base:Nat} {v':Value} {l:List Sp} (q:Sp) (hrow:w'.ownsRow base 186 3 v' (l.length+1) ((l.flatMap fun q=>q.cells.toList)++q.cells.toList)):Sps w' base v' (l++[q]):=by
 refine ⟨?_⟩
 rw [List.length_append,List.flatMap_append]
 simpa using hrow
theorem Sp.one (q:Sp):∀ u∈q.cells.toList,u.oneCell'=true:=by
 intro u hu
 simp only [Sp.cells,List.mem_cons,List.not_mem_nil,or_false] at hu
 rcases hu with rfl | rfl | rfl <;> rfl
theorem Sps.at_ {w:World} {base:Nat} {v:Value} {l:List Sp} (h:Sps w base v l) {k:Nat} (hk:v.ownBlock=some k):base≤k:=(h.row.lt k hk).1
theorem Sps.form {w:World} {base:Nat} {v:Value} {l:List Sp} (h:Sps w base v l):∃ a c,v=.slice a l.length c∧l.length≤c:=by
 rcases h.row.2 with ⟨hv,hn⟩ | ⟨g,c,cur,hv,_,_,hc,_⟩
 ·exact ⟨none,0,by rw [hv,hn],by omega⟩
 ·exact ⟨_,c,hv,hc⟩
theorem Sps.under {w:World} {base:Nat} {v:Value} {l:List Sp} (h:Sps w base v l) (p:Addr) (u:Value) (hp:p.block<base):Sps (w.setCell p u) base v l:=⟨ownsRow_setCell_below h.row hp u⟩
theorem flat3:∀ (l:List Sp) (i:Nat) (q:Sp),l[i]? = some q→∀ j,j<3→(l.flatMap fun q=>q.cells.toList)[i * 3+j]? = q.cells.toList[j]?
 | [],i,q,h,j,hj=>by simp at h
 | p :: l,0,q,h,j,hj=>by
  simp only [List.getElem?_cons_zero,Option.some.injEq] at h
  subst h
  rw [List.flatMap_cons,Nat.zero_mul,Nat.zero_add,List.getElem?_append_left (by simp [Sp.cells];omega)]
 | p :: l,i+1,q,h,j,hj=>by
  rw [List.getElem?_cons_succ] at h
  have e:p.cells.toList.length=3:=rfl
  rw [List.flatMap_cons,List.getElem?_append_right (by omega),e,show (i+1) * 3+j - 3=i * 3+j from by omega]
  exact flat3 l i q h j hj
theorem Sps.rd {w:World} {base:Nat} {a:Option Addr} {n c:Nat} {l:List Sp} (h:Sps w base (.slice a n c) l):SpsRd w a n l:=by
 rcases h.row.2 with ⟨hv,hn⟩ | ⟨g,c',cur,hv,hb,hg,hlc,hm,hs,ht⟩
 ·simp only [Value.slice.injEq] at hv
  exact ⟨by omega,.inl (List.length_eq_zero_iff.1 hn)⟩
 ·simp only [Value.slice.injEq] at hv
  obtain ⟨rfl,rfl,rfl⟩:=hv
  refine ⟨rfl,.inr ⟨g,0,rfl,(Array.getElem?_eq_some_iff.1 hg).1,fun i q hi => ?_⟩⟩
  have hil:i<l.length:=(List.getElem?_eq_some_iff.1 hi).1
  have key:∀ j,j<3→w.cell? ⟨g,0+i * 3+j,none⟩=q.cells.toList[j]?:=by
   intro j hj
   have h1:=flat3 l i q hi j hj
   rw [← ht,List.getElem?_take_of_lt (by omega),Array.getElem?_toList] at h1
   rw [cell_of_row w g _ cur _ _ hg,Nat.zero_add,h1]
  exact ⟨key 0 (by omega),key 1 (by omega),key 2 (by omega)⟩
theorem Sps.one {w:World} {base g:Nat} {q:Sp} (h:Bk w g q.cells 186) (hb:base≤g):Sps w base (.slice (some ⟨g,0,none⟩) 1 1) [q] :=
 ⟨⟨rfl,.inr ⟨g,1,q.cells,rfl,hb,h,Nat.le_refl _,by unfold maxLen;omega,rfl,by simp [Sp.cells]⟩⟩⟩
theorem infoSpan:(Tryz.prog.info? 186).map (fun i=>(i.zero,i.size,i.bytes))=some (some (.agg #[.int .i64 0,.int .i64 0,.int .i64 0]),3,24):=by kernel_rfl
theorem wp_append_sp {w:World} {o:Oper} {act:Act} {K:Act→World→Prop} {Q:Exit→Act→World→Prop} (s x:Operand)
  (ho:o.op=.call { callee:=.builtin .append,args:=#[s,x],argTypes:=#[113,113] })
  (base:Nat) (v:Value) (l:List Sp) (hs:act.eval s=v) (hown:Sps w base v l) (ad:Addr) (c:Nat) (q:Sp) (hx:act.eval x=.slice (some ad) 1 c) (hnews:∀ j u,q.cells.toList[j]? = some u→w.cell? (ad.add j)=some u)
  (hl:l.length≤3000000000000) (hbase:base≤w.heap.size)
  (h:∀ v' w',Sps w' base v' (l++[q])→w.grownBy w' v.ownBlock→K (act.put o.dst v') w'):o.wp Tryz.prog act w K Q:=by
 obtain ⟨i0,hi,hz0,hz1,hz2⟩:=info_parts infoSpan
 exact wp_append_own w s x 113 ho base 186 i0 (.agg #[.int .i64 0,.int .i64 0,.int .i64 0]) 3 24 Tryz.underlying113 hi hz0 hz1 hz2 (by rfl) (by decide) v l.length (l.flatMap fun q=>q.cells.toList) hs hown.row ad 1 c q.cells.toList hx (by rfl) hnews (Sp.one q) (by unfold maxLen;omega) (by omega) hbase fun v' w' h1 h2 _=>h v' w' (Sps.snoc q h1) h2
theorem wpList_append_sp {w:World} {ops:Array Oper} {rest:List Oper} {o:Oper} {act:Act} {Q:Exit→Act→World→Prop} (hgd:o.guard=none) (s x:Operand)
  (ho:o.op=.call { callee:=.builtin .append,args:=#[s,x],argTypes:=#[113,113] })
  (base:Nat) (v:Value) (l:List Sp) (hs:act.eval s=v) (hown:Sps w base v l) (ad:Addr) (c:Nat) (q:Sp) (hx:act.eval x=.slice (some ad) 1 c) (hnews:∀ j u,q.cells.toList[j]? = some u→w.cell? (ad.add j)=some u)
  (hl:l.length≤3000000000000) (hbase:base≤w.heap.size)
  (h:∀ v' w',Sps w' base v' (l++[q])→w.grownBy w' v.ownBlock→wpList Tryz.prog ops Q rest (act.put o.dst v') w'):wpList Tryz.prog ops Q (o :: rest) act w :=
 wpList_plain hgd fun _ hK=>wp_append_sp s x ho base v l hs hown ad c q hx hnews hl hbase fun v' w' h1 h2=>hK _ _ (h v' w' h1 h2)
theorem Sp.told {w:World} {g:Nat} {q:Sp} {t:TypeId} (h:Bk w g q.cells t):∀ j u,q.cells.toList[j]? = some u→w.cell? ((⟨g,0,none⟩:Addr).add j)=some u:=by
 intro j u hj
 rw [Array.getElem?_toList] at hj
 have:=h.cell j hj
 by_cases h0:j=0
 ·subst h0
  simpa [Addr.add] using this
 ·simpa [Addr.add,h0] using this
theorem Sps.setTo {w:World} {base g n c:Nat} {i:List Sp} {q:Sp} (h:Sps w base (.slice (some ⟨g,0,none⟩) n c) (i++[q])) (x:Int):Sps (w.setCell ⟨g,i.length * 3+1,none⟩ (.int .i64 x)) base (.slice (some ⟨g,0,none⟩) n c) (i++[⟨q.fr,x,q.is⟩]):=by
 have hr:=h.row
 have hn:n=(i++[q]).length:=by
  rcases hr.2 with ⟨hv,_⟩ | ⟨g',c',cur,hv,_⟩
  ·cases hv
  ·simp only [Value.slice.injEq] at hv
   exact hv.2.1
 subst hn
 have h2:=hr.stored (i.length * 3+1) (.int .i64 x)
 refine ⟨?_⟩
 have e:∀ m:List Sp,(m.flatMap fun q=>q.cells.toList).length=m.length * 3:=by
  intro m
  induction m with
  | nil=>rfl
  | cons s m ih=>rw [List.flatMap_cons,List.length_append,ih,List.length_cons];simp [Sp.cells];omega
 have e2:((i++[q]).flatMap fun q=>q.cells.toList).set (i.length * 3+1) (.int .i64 x)=(i++[(⟨q.fr,x,q.is⟩:Sp)]).flatMap fun q=>q.cells.toList:=by
  rw [List.flatMap_append,List.flatMap_append,List.set_append_right _ _ (by rw [e];omega),e]
  simp [Sp.cells]
 rw [← e2,show (i++[(⟨q.fr,x,q.is⟩:Sp)]).length=(i++[q]).length from by simp]
 exact h2.1
section
open Go.ChangeShapes Go.WideShapes
end
end
end Go.Proofs.YtoiennkfdjnkbaaGreatDoor
