import Derived.Test.YtoiennkfdjnkbaaGreatDoorPk26
import Derived.Laws.StructEq
import Derived.Test.YtoiennkfdjnkbaaGreatDoorPk20
set_option maxRecDepth 100000
set_option maxHeartbeats 8000000
namespace Go.Proofs.YtoiennkfdjnkbaaGreatDoor
section
set_option maxRecDepth 100000
open Go.RowKit Go.Maps Go.Sort Go.Shelf
variable {Z:Nat→Prop}
open Go.BigFrame
theorem eq_of_at {l l2:List Sp} (hl:l.length=l2.length) (h:∀ j,j<l.length→l[j]? = l2[j]?):l=l2:=by
 refine List.ext_getElem? fun j => ?_
 by_cases hj:j<l.length
 ·exact h j hj
 ·rw [List.getElem?_eq_none (by omega),List.getElem?_eq_none (by omega)]
theorem sp_stood:Tryz.prog.stoodInHeld 186=false:=by kernel_rfl
theorem sp_guard:Tryz.prog.eqGuardType Tryz.prog.depth 186=false:=by kernel_rfl
theorem sp_fields : (Tryz.prog.fieldsOf 186).toList.map (fun f => (f.name, f.type, f.offset)) = [("From", 3, 0), ("To", 3, 1), ("Is", 48, 2)] := by kernel_rfl
theorem sp_under:Tryz.prog.underlying 186=some (.struct (Tryz.prog.fieldsOf 186)):=by kernel_rfl
theorem sp_neq (a b c a2 b2 c2:Int) (W:World):(binOp .neq 186 (.agg #[.int .i64 a,.int .i64 b,.int .i64 c]) (.agg #[.int .i64 a2,.int .i64 b2,.int .i64 c2])).run Tryz.prog W=.ok (.bool (!decide (a=a2∧b=b2∧c=c2))) W:=by
 rw [run_neq_struct,run_equalIn_agg W 9999 186 _ _ sp_under sp_stood]
 have hf:=sp_fields
 revert hf
 generalize (Tryz.prog.fieldsOf 186).toList=fs
 intro hf
 obtain ⟨f0,f1,f2,rfl⟩:∃ f0 f1 f2,fs=[f0,f1,f2]:=by
  have hl:fs.length=3:=by have:=congrArg List.length hf;simpa using this
  match fs,hl with
  | [f0,f1,f2],_=>exact ⟨f0,f1,f2,rfl⟩
 simp only [List.map_cons,List.map_nil,List.cons.injEq,Prod.mk.injEq,and_true] at hf
 obtain ⟨⟨n0,t0,o0⟩,⟨n1,t1,o1⟩,n2,t2,o2⟩:=hf
 have p0:∀ (x y z:Int) (W:World),(part 3 #[.int .i64 x,.int .i64 y,.int .i64 z] 0).run Tryz.prog W=.ok (.int .i64 x) W:=fun _ _ _ _=>rfl
 have p1:∀ (x y z:Int) (W:World),(part 3 #[.int .i64 x,.int .i64 y,.int .i64 z] 1).run Tryz.prog W=.ok (.int .i64 y) W:=fun _ _ _ _=>rfl
 have p2:∀ (x y z:Int) (W:World),(part 48 #[.int .i64 x,.int .i64 y,.int .i64 z] 2).run Tryz.prog W=.ok (.int .i64 z) W:=fun _ _ _ _=>rfl
 have q0:∀ (x y:Int) (W:World),(Op.equalIn 9999 3 (.int .i64 x) (.int .i64 y)).run Tryz.prog W=.ok (x == y) W:=fun x y W=>run_equalIn_int W 9998 _ .i64 .i64 x y Tryz.underlying3
 have q2:∀ (x y:Int) (W:World),(Op.equalIn 9999 48 (.int .i64 x) (.int .i64 y)).run Tryz.prog W=.ok (x == y) W:=fun x y W=>run_equalIn_int W 9998 _ .i64 .i64 x y Tryz.underlying48
 simp only [Op.eqFields,n0,n1,n2,t0,t1,t2,o0,o1,o2]
 by_cases ha:a=a2
 ·by_cases hb:b=b2
  ·by_cases hc:c=c2
   ·simp [ha,hb,hc,Sem.run_bind,p0,p1,p2,q0,q2,Result.andThen]
   ·simp [ha,hb,hc,Sem.run_bind,p0,p1,p2,q0,q2,Result.andThen]
  ·simp [ha,hb,Sem.run_bind,p0,p1,q0,Result.andThen]
 ·simp [ha,Sem.run_bind,p0,q0,Result.andThen]
def ToldB (P:Prop) (e:Ending):Prop:=∃ r:Bool,e=.returned (.bool r)∧(r=true↔P)
theorem sp_equal (a b:Option Addr) (n c n2 c2:Nat) (l l2:List Sp) (w:World) (h1:SpsRd w a n l) (h2:SpsRd w b n2 l2) (hn:n≤maxLen):Calls Tryz.prog 263 #[.slice a n c,.slice b n2 c2] w fun e w'=>ToldB (l=l2) e∧Below w.heap.size w w':=by
 unfold maxLen at hn
 by_cases hne:n=n2
 ·subst hne
  have H1:Hid (SpsRd w a n l):=h1
  have H2:Hid (SpsRd w b n l2):=h2
  have HL:Hid (l.length=n∧l2.length=n):=⟨h1.size,h2.size⟩
  have k0:((n:Int) != (n:Int))=false:=by simp
  clear h1 h2
  go_enter Tryz.func263,Tryz.ntmps263
  go_wp2
  go_loopw [13] (fun t13 wr=>∃ i:Nat,t13=.int .i64 (i:Int)∧i≤n∧Hid (∀ j,j<i→l[j]? = l2[j]?)∧Hid (Below w.heap.size w wr)) (fun t13 _=>n - (intOf t13).toNat)
  case atStart=>exact ⟨0,rfl,by omega,fun j hj=>by omega,Below.refl _ _⟩
  case round =>
   obtain ⟨i,rfl,hi,HE,HB⟩:=hrel
   by_cases hlt:i<n
   ·have hlt':(i:Int)<(n:Int):=by omega
    have g0:(0:Int)≤(i:Int):=by omega
    obtain ⟨g,o,rfl,hg,q,hq,d0,d1,d2⟩:=(H1.out.below HB.out).at_ i hlt
    obtain ⟨g2,o2,rfl,hg2,q2,hq2,e0,e1,e2⟩:=(H2.out.below HB.out).at_ i hlt
    obtain ⟨qa,qb,qc⟩:=q
    obtain ⟨ra,rb,rc⟩:=q2
    simp only at d0 d1 d2 e0 e1 e2
    have HQ:Hid (l[i]? = some ⟨qa,qb,qc⟩∧l2[i]? = some ⟨ra,rb,rc⟩):=⟨hq,hq2⟩
    clear hq hq2
    have hgd:∀ (W:World) (x y:Operand),(eqGuard .neq 186 x y (.agg #[.int .i64 qa,.int .i64 qb,.int .i64 qc]) (.agg #[.int .i64 ra,.int .i64 rb,.int .i64 rc])).run Tryz.prog W=.ok () W:=fun W x y=>run_eqGuard_agg W .neq _ x y _ _ sp_guard
    by_cases hsp:qa=ra∧qb=rb∧qc=rc
    ·have hnq:∀ W:World,(binOp .neq 186 (.agg #[.int .i64 qa,.int .i64 qb,.int .i64 qc]) (.agg #[.int .i64 ra,.int .i64 rb,.int .i64 rc])).run Tryz.prog W=.ok (.bool false) W:=fun W=>by rw [sp_neq,decide_eq_true hsp];rfl
     have HE2:Hid (∀ j,j<i+1→l[j]? = l2[j]?):=fun j hj=>by
      by_cases hji:j=i
      ·rw [hji,HQ.out.1,HQ.out.2,hsp.1,hsp.2.1,hsp.2.2]
      ·exact HE.out j (by omega)
     clear hsp
     go_upto_region 6 with fail
     go_quiet (fail)
     have HBD:Hid (∀ k,Below w.heap.size w (wr.drewN k)):=fun k=>below_drews HB.out k
     go_wp2
     go_roundw
     case rel=>exact ⟨i+1,by go_num,by omega,HE2,HBD.out _⟩
     case measure=>simp [intOf];omega
    ·have hnq:∀ W:World,(binOp .neq 186 (.agg #[.int .i64 qa,.int .i64 qb,.int .i64 qc]) (.agg #[.int .i64 ra,.int .i64 rb,.int .i64 rc])).run Tryz.prog W=.ok (.bool true) W:=fun W=>by rw [sp_neq,decide_eq_false hsp];rfl
     have HNE:Hid (l≠l2):=fun h=>by
      have h1:=HQ.out.1
      rw [h,HQ.out.2] at h1
      have h2:=Option.some.inj h1
      simp only [Sp.mk.injEq] at h2
      exact hsp ⟨h2.1.symm,h2.2.1.symm,h2.2.2.symm⟩
     clear hsp
     go_upto_region 6 with fail
     go_quiet (fail)
     have HBD:Hid (∀ k,Below w.heap.size w (wr.drewN k)):=fun k=>below_drews HB.out k
     go_wp2
     go_ret
     exact ⟨⟨false,rfl,⟨fun h=>(by cases h),fun h=>absurd h HNE.out⟩⟩,HBD.out _⟩
   ·have hnl:¬ (i:Int)<(n:Int):=by omega
    obtain rfl:i=n:=by omega
    have HEQ:Hid (l=l2):=eq_of_at (HL.out.1.trans HL.out.2.symm) fun j hj=>HE.out j (by rw [← HL.out.1];exact hj)
    go_wp2
    go_ret
    exact ⟨⟨true,rfl,⟨fun _=>HEQ.out,fun _=>rfl⟩⟩,HB.out⟩
 ·refine (sp_equal_len a b n c n2 c2 hne w).mono ?_
  rintro e w' ⟨rfl,rfl⟩
  refine ⟨⟨false,rfl,⟨fun h=>(by cases h),fun h => ?_⟩⟩,Below.refl _ _⟩
  exact absurd (h1.size.symm.trans ((congrArg List.length h).trans h2.size)) hne
structure BlwW (w:World) where
 W:World
 ok:Below w.heap.size w W
theorem wp_region_blw {P:Program} {id:Nat} {Q:Exit→Act→World→Prop} {a:Act} {w:World} {l:List Oper} (hm:P.follows .mixedOrders=true) (hB:Region.lexB .any l.toArray=true)
  (h:wpQuiet P l.toArray (fun w'=>∃ p:BlwW w,w'=p.W) (fun a'=>∀ w',(∃ p:BlwW w,w'=p.W)→Q .normal a' w') l a):(Code.region id l.toArray true).wp P Q a w :=
 wp_region_quiet (C:=fun w'=>∃ p:BlwW w,w'=p.W) hm hB ⟨⟨w.drew,(Below.refl _ _).drew⟩,rfl⟩ (by simpa using h)
theorem Calls.blw_of {P:Program} {f:FuncId} {args:Array Value} {w:World} {p:BlwW w} {v:Value} (h:Calls P f args p.W fun e w'=>e=.returned v∧Below p.W.heap.size p.W w'):Calls P f args p.W fun e w''=>e=.returned v∧∃ q:BlwW w,w''=q.W :=
 h.mono fun _ w' ⟨he,hb⟩=>⟨he,⟨w',p.ok.trans (hb.mono p.ok.size)⟩,rfl⟩
theorem ToldB.yes {P:Prop} {e:Ending} (h:ToldB P e) (hp:P):e=.returned (.bool true):=by
 obtain ⟨r,rfl,hr⟩:=h
 rw [hr.2 hp]
theorem ToldB.no {P:Prop} {e:Ending} (h:ToldB P e) (hp:¬ P):e=.returned (.bool false):=by
 obtain ⟨r,rfl,hr⟩:=h
 cases r with
 | false=>rfl
 | true=>exact absurd (hr.1 rfl) hp
theorem st_same {w:World} {s m s2 m2:Nat} {a a2:Option Addr} {n c n2 c2:Nat} {l l2:List Sp} {X X2:List (Int×Value)} (h:Stm Z w s m a n c l X) (h2:Stm Z w s2 m2 a2 n2 c2 l2 X2) (hX1:∀ p∈X,∃ y,p.2=mkIt y) (hX2:∀ p∈X2,∃ y,p.2=mkIt y) :
  Calls Tryz.prog 199 #[.pointer (some ⟨s,0,none⟩),.pointer (some ⟨s2,0,none⟩)] w fun e w'=>ToldB (l=l2∧SameX X X2) e∧Below w.heap.size w w':=by
 have HQ:Hid (∀ q:BlwW w,Calls Tryz.prog 263 #[.slice a n c,.slice a2 n2 c2] q.W fun e w'=>ToldB (l=l2) e∧Below q.W.heap.size q.W w'):=fun q=>sp_equal a a2 n c n2 c2 l l2 q.W (h.ok.rd.below q.ok) (h2.ok.rd.below q.ok) h.ok.len
 have HF:Hid (∀ q:BlwW w,Calls Tryz.prog 264 #[.map (some m),.map (some m2),.func (.func 262) #[] #[]] q.W fun e w'=>ToldB (SameX X X2) e∧Below q.W.heap.size q.W w'):=fun q=>(st_eqFunc (h.stay q.ok).items (h2.stay q.ok).items hX1 hX2).mono fun e w' ⟨b,h1,h2,h3⟩=>⟨⟨b,h1,h2⟩,h3⟩
 have c0:∀ q:BlwW w,q.W.cell? ⟨s,0,none⟩=some (.slice a n c):=fun q=>(h.stay q.ok).blk.cell 0 rfl
 have d0:∀ q:BlwW w,q.W.cell? ⟨s2,0,none⟩=some (.slice a2 n2 c2):=fun q=>(h2.stay q.ok).blk.cell 0 rfl
 have c1:∀ q:BlwW w,q.W.cell? ⟨s,1,none⟩=some (.map (some m)):=fun q=>(h.stay q.ok).blk.cell 1 rfl
 have d1:∀ q:BlwW w,q.W.cell? ⟨s2,1,none⟩=some (.map (some m2)):=fun q=>(h2.stay q.ok).blk.cell 1 rfl
 have HFA:Hid (SameX X X2→∀ q:BlwW w,Calls Tryz.prog 264 #[.map (some m),.map (some m2),.func (.func 262) #[] #[]] q.W fun e w'=>e=.returned (.bool true)∧Below q.W.heap.size q.W w'):=fun hp q=>(HF.out q).mono fun e w' h=>⟨h.1.yes hp,h.2⟩
 have HFB:Hid (¬ SameX X X2→∀ q:BlwW w,Calls Tryz.prog 264 #[.map (some m),.map (some m2),.func (.func 262) #[] #[]] q.W fun e w'=>e=.returned (.bool false)∧Below q.W.heap.size q.W w'):=fun hp q=>(HF.out q).mono fun e w' h=>⟨h.1.no hp,h.2⟩
 clear h h2 HF hX1 hX2
 have hne:Nonempty (BlwW w):=⟨⟨w,Below.refl _ _⟩⟩
 by_cases hl:l=l2
 ·have HQ1:Hid (∀ q:BlwW w,Calls Tryz.prog 263 #[.slice a n c,.slice a2 n2 c2] q.W fun e w'=>e=.returned (.bool true)∧Below q.W.heap.size q.W w'):=fun q=>(HQ.out q).mono fun e w' h=>⟨h.1.yes hl,h.2⟩
  by_cases hx:SameX X X2
  ·have HF1:Hid (∀ q:BlwW w,Calls Tryz.prog 264 #[.map (some m),.map (some m2),.func (.func 262) #[] #[]] q.W fun e w'=>e=.returned (.bool true)∧Below q.W.heap.size q.W w'):=HFA.out hx
   have HT:Hid (ToldB (l=l2∧SameX X X2) (.returned (.bool true))):=⟨true,rfl,⟨fun _=>⟨hl,hx⟩,fun _=>rfl⟩⟩
   clear HQ HFA HFB hl hx
   go_enter Tryz.func199,Tryz.ntmps199
   go_upto_region 2 with fail
   refine wp_region_blw (by kernel_rfl) (by kernel_rfl) ?_
   repeat (go_big_quiet_step (first
    | (go_at_call 263;exact Calls.blw_of (HQ1.out _))
    | (go_at_call 264;exact Calls.blw_of (HF1.out _))))
   refine wpQuiet_nil ?_
   intro _ hw'
   obtain ⟨p,hw''⟩:=hw'
   subst hw''
   go_wp2
   go_ret
   exact ⟨HT.out,p.ok⟩
  ·have HF1:Hid (∀ q:BlwW w,Calls Tryz.prog 264 #[.map (some m),.map (some m2),.func (.func 262) #[] #[]] q.W fun e w'=>e=.returned (.bool false)∧Below q.W.heap.size q.W w'):=HFB.out hx
   have HT:Hid (ToldB (l=l2∧SameX X X2) (.returned (.bool false))):=⟨false,rfl,⟨fun h=>(by cases h),fun h=>absurd h.2 hx⟩⟩
   clear HQ HFA HFB hl hx
   go_enter Tryz.func199,Tryz.ntmps199
   go_upto_region 2 with fail
   refine wp_region_blw (by kernel_rfl) (by kernel_rfl) ?_
   repeat (go_big_quiet_step (first
    | (go_at_call 263;exact Calls.blw_of (HQ1.out _))
    | (go_at_call 264;exact Calls.blw_of (HF1.out _))))
   refine wpQuiet_nil ?_
   intro _ hw'
   obtain ⟨p,hw''⟩:=hw'
   subst hw''
   go_wp2
   go_ret
   exact ⟨HT.out,p.ok⟩
 ·have HQ1:Hid (∀ q:BlwW w,Calls Tryz.prog 263 #[.slice a n c,.slice a2 n2 c2] q.W fun e w'=>e=.returned (.bool false)∧Below q.W.heap.size q.W w'):=fun q=>(HQ.out q).mono fun e w' h=>⟨h.1.no hl,h.2⟩
  have HT:Hid (ToldB (l=l2∧SameX X X2) (.returned (.bool false))):=⟨false,rfl,⟨fun h=>(by cases h),fun h=>absurd h.1 hl⟩⟩
  clear HQ HFA HFB hl
  go_enter Tryz.func199,Tryz.ntmps199
  go_upto_region 2 with fail
  refine wp_region_blw (by kernel_rfl) (by kernel_rfl) ?_
  repeat (go_big_quiet_step (first
   | (go_at_call 263;exact Calls.blw_of (HQ1.out _))))
  refine wpQuiet_nil ?_
  intro _ hw'
  obtain ⟨p,hw''⟩:=hw'
  subst hw''
  go_wp2
  go_ret
  exact ⟨HT.out,p.ok⟩
end
section
set_option maxRecDepth 100000
open Go.RowKit Go.Maps Go.Sort Go.Shelf
variable {Z:Nat→Prop}
theorem getX_filter (P:Int→Bool):∀ (X:List (Int×Value)) (t:Int),getX (X.filter fun p=>P p.1) t=if P t=true then getX X t else none
 | [],t=>by
  by_cases h:P t=true
  ·rw [if_pos h];rfl
  ·rw [if_neg h];rfl
 | y :: r,t=>by
  rw [List.filter_cons]
  by_cases hy:P y.1=true
  ·rw [if_pos hy,getX,getX,getX_filter P r t]
   by_cases ht:y.1=t
   ·rw [if_pos ht,if_pos ht,if_pos (ht ▸ hy)]
   ·rw [if_neg ht,if_neg ht]
  ·rw [if_neg hy,getX_filter P r t,getX]
   by_cases ht:y.1=t
   ·rw [if_pos ht,if_neg (ht ▸ hy),if_neg (ht ▸ hy)]
   ·rw [if_neg ht]
def onlyI (K:Int→Int) (I:Int→Option It) (t:Int):Option It:=if K t=1 then I t else none
theorem str_join {w:World} {s m:Nat} {l:List Sp} {I:Int→Option It} (h:Str Z w s m l I) {T:List Int} (hT:∀ t,(I t).isSome=true→t∈T) (hTl:T.length≤1000) {b:Option Addr} {nb cb:Nat} {l2:List Sp} (h2:MapOk w b nb cb l2) (hd:∀ t,atS l2 t≠1) :
  Calls Tryz.prog 196 #[.pointer (some ⟨s,0,none⟩),.slice b nb cb] w fun e w'=>e=.returned (.tuple #[])∧(∃ l',Str Z w' s m l' (onlyI (fun t=>max (atS l t) (atS l2 t)) I)∧∀ t,atS l' t=max (atS l t) (atS l2 t))∧Two s m w w':=by
 obtain ⟨a,n,c,X,hs⟩:=h
 have hX:=hs.few hT
 refine (st_join hs.stm (by omega) h2).mono ?_
 rintro e w' ⟨rfl,a',n',c',l',k1,k2,k3⟩
 refine ⟨rfl,⟨l',⟨a',n',c',_,k1,fun t => ?_,fun t => ?_⟩,k2⟩,k3⟩
 ·unfold onlyI
  by_cases h1:max (atS l t) (atS l2 t)=1
  ·rw [if_pos h1]
   refine ((hs.its t).two hs.stm k3).of_get ?_
   rw [getX_filter (fun u=>decide (atS l' u=1)),if_pos (by rw [k2 t,h1];rfl)]
  ·rw [if_neg h1]
   show getX _ t=none
   rw [getX_filter (fun u=>decide (atS l' u=1)),if_neg (by rw [k2 t];simpa using h1)]
 ·unfold onlyI
  rw [k2 t]
  by_cases h1:max (atS l t) (atS l2 t)=1
  ·rw [if_pos h1]
   have:=hd t
   have hr:=(atS_range hs.stm.ok.right t).1
   have hr2:=(atS_range h2.right t).1
   have:atS l t=1:=by omega
   exact ⟨fun _=>(hs.data t).1 this,fun _=>h1⟩
  ·rw [if_neg h1]
   exact ⟨fun h=>absurd h h1,fun h=>by cases h⟩
def steps (K:Int→Int) (I:Int→Option It):List It→(Int→Int)×(Int→Option It)
 | [] => (K,I)
 | q :: r=>steps (keepK K q) (keepI K I q) r
theorem steps_snoc:∀ (L:List It) (K:Int→Int) (I:Int→Option It) (q:It),steps K I (L++[q])=(keepK (steps K I L).1 q,keepI (steps K I L).1 (steps K I L).2 q)
 | [],_,_,_=>rfl
 | _ :: L,_,_,q=>steps_snoc L _ _ q
theorem keepI_in {K:Int→Int} {I:Int→Option It} {q:It} {T:List Int} (hI:∀ t,(I t).isSome=true→t∈T) (hq:q.tick∈T):∀ t,(keepI K I q t).isSome=true→t∈T:=by
 intro t ht
 by_cases h:t=q.tick
 ·rw [h];exact hq
 ·rw [keepI_other h] at ht
  exact hI t ht
theorem steps_in {T:List Int}:∀ (L:List It) (K:Int→Int) (I:Int→Option It),(∀ t,(I t).isSome=true→t∈T)→(∀ q∈L,q.tick∈T)→∀ t,((steps K I L).2 t).isSome=true→t∈T
 | [],_,_,hI,_=>hI
 | q :: L,_,_,hI,hL=>steps_in L _ _ (keepI_in hI (hL q (List.mem_cons_self ..))) fun p hp=>hL p (List.mem_cons_of_mem _ hp)
theorem onlyI_in {K:Int→Int} {I:Int→Option It} {T:List Int} (hI:∀ t,(I t).isSome=true→t∈T):∀ t,(onlyI K I t).isSome=true→t∈T:=by
 intro t ht
 unfold onlyI at ht
 split at ht
 ·exact hI t ht
 ·cases ht
def learnK (K:Int→Int) (I:Int→Option It) (p:Pc):Int→Int:=(steps (fun t=>max (K t) (atS p.spans t)) (onlyI (fun t=>max (K t) (atS p.spans t)) I) p.items).1
def learnI (K:Int→Int) (I:Int→Option It) (p:Pc):Int→Option It:=(steps (fun t=>max (K t) (atS p.spans t)) (onlyI (fun t=>max (K t) (atS p.spans t)) I) p.items).2
theorem Strm.items_ {w:World} {s m:Nat} {l:List Sp} {I:Int→Option It} {a:Option Addr} {n c:Nat} {X:List (Int×Value)} (h:Strm Z w s m l I a n c X):∀ p∈X,∃ y,p.2=mkIt y:=by
 intro p hp
 have hg:=mem_get h.stm.rise hp
 have hi:=h.its p.1
 cases ho:I p.1 with
 | none =>
  rw [ho] at hi
  have hi:getX X p.1=none:=hi
  rw [hg] at hi
  cases hi
 | some q =>
  rw [ho] at hi
  obtain ⟨_,_,_,ba,bc,h4,_⟩:=hi
  rw [hg] at h4
  exact ⟨(p.1,q.for_,ba,q.body.length,bc),Option.some.inj h4⟩
def forI (I:Int→Option It) (t:Int):Option Int:=(I t).map fun q=>q.for_
theorem Strm.forV {w:World} {s m:Nat} {l:List Sp} {I:Int→Option It} {a:Option Addr} {n c:Nat} {X:List (Int×Value)} (h:Strm Z w s m l I a n c X) (t:Int):(getX X t).map Go.Proofs.YtoiennkfdjnkbaaGreatDoor.forV=forI I t:=by
 have hi:=h.its t
 unfold forI
 cases ho:I t with
 | none =>
  rw [ho] at hi
  have hi:getX X t=none:=hi
  rw [hi];rfl
 | some q =>
  rw [ho] at hi
  obtain ⟨_,_,_,ba,bc,h4,_⟩:=hi
  rw [h4];rfl
theorem keys_sub {X X2:List (Int×Value)} (hX:RiseX X) (h:∀ t v,getX X t=some v→∃ v2,getX X2 t=some v2):X.length≤X2.length:=by
 have hn:(X.map Prod.fst).Nodup:=by
  rw [List.nodup_iff_pairwise_ne,List.pairwise_map]
  exact List.Pairwise.imp (fun hh=>by omega) hX
 have:=len_sub (X.map Prod.fst) (X2.map Prod.fst) hn fun t ht=>by
  obtain ⟨p,hp,rfl⟩:=List.mem_map.1 ht
  obtain ⟨v2,hv⟩:=h _ _ (mem_get hX hp)
  exact List.mem_map.2 ⟨_,get_mem hv,rfl⟩
 rwa [List.length_map,List.length_map] at this
theorem same_of {w w2:World} {s m s2 m2:Nat} {l l2:List Sp} {I I2:Int→Option It} {a a2:Option Addr} {n c n2 c2:Nat} {X X2:List (Int×Value)} (h:Strm Z w s m l I a n c X) (h2:Strm Z w2 s2 m2 l2 I2 a2 n2 c2 X2) (hf:∀ t,forI I t=forI I2 t):SameX X X2:=by
 have hx:∀ t,(getX X t).map Go.Proofs.YtoiennkfdjnkbaaGreatDoor.forV=(getX X2 t).map Go.Proofs.YtoiennkfdjnkbaaGreatDoor.forV:=fun t=>by rw [h.forV,h2.forV,hf]
 have h1:∀ t v,getX X t=some v→∃ v2,getX X2 t=some v2∧Go.Proofs.YtoiennkfdjnkbaaGreatDoor.forV v=Go.Proofs.YtoiennkfdjnkbaaGreatDoor.forV v2:=fun t v hv=>by
  have:=hx t
  rw [hv] at this
  cases hg:getX X2 t with
  | none=>rw [hg] at this;cases this
  | some v2=>rw [hg] at this;exact ⟨v2,rfl,Option.some.inj this⟩
 have h3:∀ t v,getX X2 t=some v→∃ v2,getX X t=some v2:=fun t v hv=>by
  have:=hx t
  rw [hv] at this
  cases hg:getX X t with
  | none=>rw [hg] at this;cases this
  | some v2=>exact ⟨v2,rfl⟩
 exact ⟨Nat.le_antisymm (keys_sub h.stm.rise fun t v hv=>let ⟨v2,k,_⟩:=h1 t v hv;⟨v2,k⟩) (keys_sub h2.stm.rise h3),h1⟩
end
section
set_option maxRecDepth 100000
open Go.RowKit Go.Maps Go.Sort Go.Shelf
variable {Z:Nat→Prop}
structure TellOk (p:Pc):Prop where
 kind:p.kind=1
 chk:chk p=0
 right:RightS Sp.zr p.spans
 quiet:∀ t,atS p.spans t≠1
 each:∀ q∈p.items,(1≤q.tick∧q.tick≤1099511627776)∧(0≤q.for_∧q.for_≤4294967295)∧q.body.length≤400
theorem str_keep {w:World} {s m:Nat} {K:Int→Int} {I:Int→Option It} {l:List Sp} (h:Str Z w s m l I) (hK:∀ t,atS l t=K t) {T:List Int} (hT:∀ t,(I t).isSome=true→t∈T) (hTl:T.length≤1000) {q:It} {ba:Option Addr} {bl bc:Nat} (ht:1≤q.tick∧q.tick≤1099511627776) (hf:0≤q.for_∧q.for_≤4294967295) (hq:q.body.length≤400) (hb:Rd w ba bl q.body) :
  Calls Tryz.prog 197 #[.pointer (some ⟨s,0,none⟩),.agg #[.int .i64 q.tick,.int .u32 q.for_,.slice ba bl bc]] w fun e w'=>e=.returned (.tuple #[])∧(∃ l',Str Z w' s m l' (keepI K I q)∧∀ u,atS l' u=keepK K q u)∧Two s m w w':=by
 obtain rfl:atS l=K:=funext hK
 exact st_keep h hT hTl ht hf hq hb
end
section
def getI:List It→Int→Option It
 | [],_=>none
 | q :: X,t=>if q.tick=t then some q else getI X t
def RiseIt (X:List It):Prop:=X.Pairwise fun a b=>a.tick<b.tick
theorem getI_tick:∀ {X:List It} {t:Int} {q:It},getI X t=some q→q.tick=t∧q∈X
 | [],_,_,h=>by cases h
 | x :: X,t,q,h=>by
  rw [getI] at h
  split at h
  ·cases h;exact ⟨by assumption,List.mem_cons_self ..⟩
  ·have:=getI_tick h;exact ⟨this.1,List.mem_cons_of_mem _ this.2⟩
theorem getI_none:∀ {X:List It} {t:Int},(∀ q∈X,q.tick≠t)→getI X t=none
 | [],_,_=>rfl
 | x :: X,t,h=>by rw [getI,if_neg (h x (List.mem_cons_self ..))];exact getI_none fun q hq=>h q (List.mem_cons_of_mem _ hq)
theorem getI_mem:∀ {X:List It},RiseIt X→∀ {q:It},q∈X→getI X q.tick=some q
 | [],_,_,h=>by cases h
 | x :: X,hr,q,h=>by
  obtain ⟨h1,h2⟩:=List.pairwise_cons.1 hr
  rw [getI]
  rcases List.mem_cons.1 h with rfl | h
  ·rw [if_pos rfl]
  ·rw [if_neg (by have:=h1 q h;omega)];exact getI_mem h2 h
theorem getI_filter (P:Int→Bool):∀ (X:List It) (t:Int),getI (X.filter fun q=>P q.tick) t=if P t=true then getI X t else none
 | [],t=>by simp [getI]
 | q :: X,t=>by
  rw [List.filter_cons]
  by_cases hp:P q.tick=true
  ·rw [if_pos hp,getI,getI,getI_filter P X t]
   by_cases e:q.tick=t
   ·rw [if_pos e,if_pos e,if_pos (e ▸ hp)]
   ·rw [if_neg e,if_neg e]
  ·rw [if_neg hp,getI_filter P X t,getI]
   by_cases e:q.tick=t
   ·rw [if_neg (e ▸ hp),if_neg (e ▸ hp)]
   ·rw [if_neg e]
def kk (L:List Sp) (X:List It) (t:Int):Int:=if (getI X t).isSome=true then 1 else atS L t
structure Kn (L:List Sp) (X:List It):Prop where
 right:RightS Sp.zr L
 quiet:∀ t,atS L t≠1
 rise:RiseIt X
 off:∀ q∈X,atS L q.tick=0
 each:∀ q∈X,(1≤q.tick∧q.tick≤1099511627776)∧(0≤q.for_∧q.for_≤4294967295)∧q.body.length≤400
theorem Kn.nil_:Kn [] []:=⟨trivial,fun t=>by show (0:Int)≠1;omega,List.Pairwise.nil,fun _ h=>(by cases h),fun _ h=>(by cases h)⟩
theorem Kn.sub {L:List Sp} {X Y:List It} (h:Kn L X) (hs:Y.Sublist X):Kn L Y:=⟨h.right,h.quiet,h.rise.sublist hs,fun q hq=>h.off q (hs.subset hq),fun q hq=>h.each q (hs.subset hq)⟩
def keepX (L:List Sp) (y:It):List It→List It
 | [] => if atS L y.tick=0 then [y] else []
 | q :: X=>if q.tick<y.tick then q :: keepX L y X else if q.tick=y.tick then ⟨q.tick,orI q.for_ y.for_,q.body⟩ :: X else if atS L y.tick=0 then y :: q :: X else q :: X
theorem keepX_mem (L:List Sp) (y:It):∀ (X:List It),∀ q∈keepX L y X,(q=y∧atS L y.tick=0)∨q∈X∨∃ x∈X,x.tick=y.tick∧q=⟨x.tick,orI x.for_ y.for_,x.body⟩
 | [],q,h=>by
  rw [keepX] at h
  split at h
  ·exact .inl ⟨List.mem_singleton.1 h,by assumption⟩
  ·cases h
 | x :: X,q,h=>by
  rw [keepX] at h
  split at h
  ·rcases List.mem_cons.1 h with rfl | h
   ·exact .inr (.inl (List.mem_cons_self ..))
   ·rcases keepX_mem L y X q h with h | h | ⟨z,hz,h⟩
    ·exact .inl h
    ·exact .inr (.inl (List.mem_cons_of_mem _ h))
    ·exact .inr (.inr ⟨z,List.mem_cons_of_mem _ hz,h⟩)
  ·split at h
   ·rcases List.mem_cons.1 h with rfl | h
    ·exact .inr (.inr ⟨x,List.mem_cons_self ..,by assumption,rfl⟩)
    ·exact .inr (.inl (List.mem_cons_of_mem _ h))
   ·split at h
    ·rcases List.mem_cons.1 h with rfl | h
     ·exact .inl ⟨rfl,by assumption⟩
     ·exact .inr (.inl h)
    ·exact .inr (.inl h)
theorem keepX_ticks (L:List Sp) (y:It) (X:List It):∀ q∈keepX L y X,q.tick=y.tick∨∃ x∈X,x.tick=q.tick:=by
 intro q hq
 rcases keepX_mem L y X q hq with ⟨rfl,_⟩ | h | ⟨x,_,h1,rfl⟩
 ·exact .inl rfl
 ·exact .inr ⟨q,h,rfl⟩
 ·exact .inl h1
theorem keepX_rise (L:List Sp) (y:It):∀ (X:List It),RiseIt X→RiseIt (keepX L y X)
 | [],_=>by
  rw [keepX]
  split
  ·exact List.pairwise_singleton _ _
  ·exact List.Pairwise.nil
 | x :: X,h=>by
  obtain ⟨h1,h2⟩:=List.pairwise_cons.1 h
  rw [keepX]
  split
  ·refine List.pairwise_cons.2 ⟨fun q hq => ?_,keepX_rise L y X h2⟩
   rcases keepX_ticks L y X q hq with e | ⟨z,hz,e⟩
   ·omega
   ·have:=h1 z hz;omega
  ·split
   ·exact List.pairwise_cons.2 ⟨h1,h2⟩
   ·split
    ·refine List.pairwise_cons.2 ⟨fun q hq => ?_,h⟩
     rcases List.mem_cons.1 hq with rfl | hq
     ·omega
     ·have:=h1 q hq;omega
    ·exact h
theorem keepX_get (L:List Sp) (y:It):∀ (X:List It),RiseIt X→∀ t,getI (keepX L y X) t=if t=y.tick then (match getI X t with | some r=>some ⟨r.tick,orI r.for_ y.for_,r.body⟩ | none=>if atS L t=0 then some y else none) else getI X t
 | [],_,t=>by
  rw [keepX]
  by_cases e:t=y.tick
  ·subst e
   rw [if_pos rfl]
   show _=if _ then _ else _
   split
   ·rw [getI,if_pos rfl]
   ·rfl
  ·rw [if_neg e]
   split
   ·show (if y.tick=t then some y else getI [] t)=getI [] t
    rw [if_neg (Ne.symm e)]
   ·rfl
 | x :: X,h,t=>by
  obtain ⟨h1,h2⟩:=List.pairwise_cons.1 h
  rw [keepX]
  by_cases c1:x.tick<y.tick
  ·rw [if_pos c1,getI,getI,keepX_get L y X h2 t]
   by_cases e:x.tick=t
   ·rw [if_pos e,if_pos e,if_neg (by omega)]
   ·rw [if_neg e,if_neg e]
  ·rw [if_neg c1]
   by_cases c2:x.tick=y.tick
   ·rw [if_pos c2,getI,getI]
    by_cases e:x.tick=t
    ·rw [if_pos e,if_pos e,if_pos (by omega)]
    ·rw [if_neg e,if_neg e,if_neg (by omega)]
   ·rw [if_neg c2]
    have hn:getI (x :: X) y.tick=none:=getI_none fun q hq=>by
     rcases List.mem_cons.1 hq with rfl | hq
     ·exact c2
     ·have:=h1 q hq;omega
    by_cases e:t=y.tick
    ·subst e
     rw [if_pos rfl,hn]
     show _=if _ then _ else _
     split
     ·rw [getI,if_pos rfl]
     ·exact hn
    ·rw [if_neg e]
     split
     ·rw [getI,if_neg (Ne.symm e)]
     ·rfl
theorem Kn.keep {L:List Sp} {X:List It} (h:Kn L X) {y:It} (hy:(1≤y.tick∧y.tick≤1099511627776)∧(0≤y.for_∧y.for_≤4294967295)∧y.body.length≤400):Kn L (keepX L y X):=by
 refine ⟨h.right,h.quiet,keepX_rise L y X h.rise,fun q hq => ?_,fun q hq => ?_⟩
 ·rcases keepX_mem L y X q hq with ⟨rfl,h0⟩ | hx | ⟨x,hx,_,rfl⟩
  ·exact h0
  ·exact h.off q hx
  ·exact h.off x hx
 ·rcases keepX_mem L y X q hq with ⟨rfl,_⟩ | hx | ⟨x,hx,_,rfl⟩
  ·exact hy
  ·exact h.each q hx
  ·have:=h.each x hx
   exact ⟨this.1,orI_range this.2.1 hy.2.1,this.2.2⟩
theorem keep_I {L:List Sp} {X:List It} (h:Kn L X) (y:It):keepI (kk L X) (getI X) y=getI (keepX L y X):=by
 funext t
 rw [keepX_get L y X h.rise t]
 unfold keepI
 by_cases e:t=y.tick
 ·rw [if_pos e,if_pos e]
  cases hg:getI X t with
  | none =>
   have:kk L X t=atS L t:=by unfold kk;rw [hg];rfl
   rw [this]
   rfl
  | some r =>
   have:kk L X t=1:=by unfold kk;rw [hg];rfl
   rw [this,if_neg (by decide)]
   rfl
 ·rw [if_neg e,if_neg e]
theorem keep_K {L:List Sp} {X:List It} (h:Kn L X) (y:It):keepK (kk L X) y=kk L (keepX L y X):=by
 funext t
 have hq:=h.quiet t
 have hr:=atS_range h.right t
 unfold keepK kk
 rw [keepX_get L y X h.rise t]
 by_cases e:t=y.tick
 ·rw [if_pos e,if_pos e]
  cases hg:getI X t with
  | none =>
   simp only [Option.isSome_none,Bool.false_eq_true,if_false]
   by_cases h0:atS L t=0
   ·rw [if_pos h0,h0];rfl
   ·rw [if_neg h0]
    simp only [Option.isSome_none,Bool.false_eq_true,if_false]
    omega
  | some r=>simp
 ·rw [if_neg e,if_neg e]
def keepsX (L:List Sp) (X:List It) (ys:List It):List It:=ys.foldl (fun X y=>keepX L y X) X
theorem keepX_len (L:List Sp) (y:It):∀ X:List It,(keepX L y X).length≤X.length+1
 | [] => by
  rw [keepX]
  split <;> simp
 | x :: X=>by
  rw [keepX]
  split
  ·have:=keepX_len L y X;simp only [List.length_cons];omega
  ·split
   ·simp
   ·split <;> simp
theorem keeps_ok:∀ (ys:List It) {L:List Sp} {X:List It},Kn L X→(∀ y∈ys,(1≤y.tick∧y.tick≤1099511627776)∧(0≤y.for_∧y.for_≤4294967295)∧y.body.length≤400)→Kn L (keepsX L X ys)∧steps (kk L X) (getI X) ys=(kk L (keepsX L X ys),getI (keepsX L X ys))∧(keepsX L X ys).length≤X.length+ys.length
 | [],L,X,h,_=>⟨h,rfl,Nat.le_refl _⟩
 | y :: ys,L,X,h,hy=>by
  have hy0:=hy y (List.mem_cons_self ..)
  obtain ⟨a,b,c⟩:=keeps_ok ys (h.keep hy0) fun z hz=>hy z (List.mem_cons_of_mem _ hz)
  refine ⟨a,?_,?_⟩
  ·rw [steps,keep_K h,keep_I h]
   exact b
  ·have:=keepX_len L y X
   rw [List.length_cons]
   have e:keepsX L X (y :: ys)=keepsX L (keepX L y X) ys:=rfl
   rw [e]
   omega
def quietX (L:List Sp) (X:List It):List It:=X.filter fun q=>decide (atS L q.tick=0)
structure Joins (L P L1:List Sp):Prop where
 right:RightS Sp.zr L1
 at_:∀ t,atS L1 t=max (atS L t) (atS P t)
theorem Kn.join {L P L1:List Sp} {X:List It} (h:Kn L X) (hP:RightS Sp.zr P) (hq:∀ t,atS P t≠1) (hj:Joins L P L1):Kn L1 (quietX L1 X)∧(fun t=>max (kk L X t) (atS P t))=kk L1 (quietX L1 X)∧onlyI (fun t=>max (kk L X t) (atS P t)) (getI X)=getI (quietX L1 X):=by
 have hg:∀ t,getI (quietX L1 X) t=if decide (atS L1 t=0)=true then getI X t else none:=getI_filter (fun t=>decide (atS L1 t=0)) X
 have hoff:∀ t q,getI X t=some q→atS L t=0:=fun t q hq=>by
  have:=getI_tick hq
  rw [← this.1]
  exact h.off q this.2
 refine ⟨⟨hj.right,fun t => ?_,h.rise.filter _,fun q hq => ?_,fun q hq=>h.each q (List.mem_filter.1 hq).1⟩,funext fun t => ?_,funext fun t => ?_⟩
 ·rw [hj.at_ t]
  have:=h.quiet t;have:=hq t
  have:=atS_range h.right t;have:=atS_range hP t
  omega
 ·exact of_decide_eq_true (List.mem_filter.1 hq).2
 ·have hp:=atS_range hP t
  have hp1:=hq t
  have ha:=hj.at_ t
  show max (kk L X t) (atS P t)=kk L1 (quietX L1 X) t
  unfold kk
  rw [hg t]
  cases hx:getI X t with
  | none =>
   simp only [ite_self,Option.isSome_none,Bool.false_eq_true,if_false]
   rw [ha]
  | some q =>
   have h0:=hoff t q hx
   rw [h0] at ha
   by_cases hz:atS P t=0
   ·have hz1:atS L1 t=0:=by omega
    rw [if_pos (decide_eq_true hz1),hz]
    rfl
   ·have hz1:atS L1 t=atS P t:=by omega
    have e:(if decide (atS L1 t=0)=true then some q else none)=none:=if_neg (by simp;omega)
    rw [e]
    show max 1 (atS P t)=atS L1 t
    omega
 ·have hp:=atS_range hP t
  have hp1:=hq t
  have ha:=hj.at_ t
  rw [hg t]
  unfold onlyI kk
  cases hx:getI X t with
  | none=>simp
  | some q =>
   have h0:=hoff t q hx
   rw [h0] at ha
   show (if max (if (getI X t).isSome=true then 1 else atS L t) (atS P t)=1 then some q else none)=_
   rw [hx]
   show (if max 1 (atS P t)=1 then some q else none)=_
   by_cases hz:atS P t=0
   ·have hz1:atS L1 t=0:=by omega
    rw [if_pos (by omega),if_pos (decide_eq_true hz1)]
   ·have hz1:atS L1 t=atS P t:=by omega
    rw [if_neg (by omega),if_neg (by simp;omega)]
def learnX (L1:List Sp) (X:List It) (p:Pc):List It :=
 let Y:=keepsX L1 (quietX L1 X) p.items
 Y.drop (Y.length - 64)
end
section
open Go.RowKit
def mayB (f t:Int):Bool:=decide (1≤f∧f≤t∧t≤1099511627776)
theorem mayB_iff (f t:Int):mayB f t=true↔1≤f∧f≤t∧t≤1099511627776:=by simp [mayB]
theorem mayB_not (f t:Int):mayB f t=false↔¬ (1≤f∧f≤t∧t≤1099511627776):=by simp [mayB]
theorem span_mayBe (f t:Int) (w:World):Calls Tryz.prog 219 #[.int .i64 f,.int .i64 t] w fun e w'=>e=.returned (.bool (mayB f t))∧w'=w:=by
 go_enter Tryz.func219,Tryz.ntmps219
 by_cases h1:1≤f
 ·by_cases h2:f≤t
  ·by_cases h3:t≤1099511627776
   ·have HK:Hid (mayB f t=true):=(mayB_iff _ _).2 ⟨h1,h2,h3⟩
    go_wp2
    go_ret
    exact ⟨by rw [HK.out];rfl,rfl⟩
   ·have HK:Hid (mayB f t=false):=(mayB_not _ _).2 (by omega)
    go_wp2
    go_ret
    exact ⟨by rw [HK.out];rfl,rfl⟩
  ·have HK:Hid (mayB f t=false):=(mayB_not _ _).2 (by omega)
   go_wp2
   go_ret
   exact ⟨by rw [HK.out];rfl,rfl⟩
 ·have HK:Hid (mayB f t=false):=(mayB_not _ _).2 (by omega)
  go_wp2
  go_ret
  exact ⟨by rw [HK.out];rfl,rfl⟩
theorem Bk.second (w:World) (o:Obj) (c:Array Value) (t:TypeId):Bk ((w.alloc o).alloc (.cells c t)) (w.heap.size+1) c t:=by
 have h:=Bk.new (w.alloc o) c t
 rwa [show (w.alloc o).heap.size=w.heap.size+1 from by simp] at h
end
end Go.Proofs.YtoiennkfdjnkbaaGreatDoor
