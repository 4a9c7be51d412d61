import Derived.Test.YtoiennkfdjnkbaaGreatDoorPk35
set_option maxRecDepth 100000
set_option maxHeartbeats 8000000
namespace Go.Proofs.YtoiennkfdjnkbaaGreatDoor
section
set_option maxRecDepth 100000
open Go.RowKit Go.Maps Go.Sort Go.Shelf
variable {Z:Nat→Prop}
def LayTold (base:Nat) (v:Value) (P:List Pb) (x:Pb) (w:World) (e:Ending) (w':World):Prop:=(∀ k,k<w.heap.size→some k≠v.ownBlock→w'.heap[k]? = w.heap[k]?)∧(∃ a' n' c' P',e=.returned (.slice a' n' c')∧Pcw w' base (.slice a' n' c') P'∧layP (P.map Prod.fst) x.1 (P'.map Prod.fst)∧(∀ y∈P',y.1.1.is=1→y∈P∨y=x))∧Below base w w'
theorem lay_told_app {P:List Pb} {x:Pb} (h:P=[] ∨ ∃ i d,P=i++[d] ∧ (x.1.1.is=1∨x.1.1.is≠d.1.1.is∨x.1.1.fr≠d.1.1.to+1)):layP (P.map Prod.fst) x.1 ((P++[x]).map Prod.fst)∧(∀ y∈P++[x],y.1.1.is=1→y∈P∨y=x):=by
 refine ⟨?_,fun y hy _ => ?_⟩
 ·rcases h with rfl | ⟨i,d,rfl,h⟩
  ·exact .inl ⟨rfl,rfl⟩
  ·refine .inr ⟨i.map Prod.fst,d.1,by simp,.inl ⟨h,by simp⟩⟩
 ·rcases List.mem_append.1 hy with hy | hy
  ·exact .inl hy
  ·exact .inr (List.mem_singleton.1 hy)
theorem st_lay {w:World} {base:Nat} {a:Option Addr} {n cc:Nat} {P:List Pb} (h:Pcw w base (.slice a n cc) P) (hB:base≤w.heap.size) (hl:P.length≤2000000000000) (x:Pb) (hto:∀ d∈P,0≤d.1.1.to∧d.1.1.to≤1099511627776) :
  Calls Tryz.prog 301 #[.slice a n cc,pval x] w fun e w'=>LayTold base (.slice a n cc) P x w e w':=by
 obtain ⟨⟨⟨xf,xt,xi⟩,⟨xk,xo,xb⟩⟩,⟨ba,bl,bc⟩⟩:=x
 unfold pval
 simp only
 have HP:Hid (Pcw w base (.slice a n cc) P):=h
 have hn:P.length=n:=by
  obtain ⟨a',c',hv,_⟩:=h.form
  simp only [Value.slice.injEq] at hv
  exact hv.2.1.symm
 have HL:Hid (P.length≤2000000000000):=hl
 obtain ⟨POST,HPO⟩:∃ P0:Ending→World→Prop,Hid (P0=fun e w'=>LayTold base (.slice a n cc) P ((⟨xf,xt,xi⟩,⟨xk,xo,xb⟩),ba,bl,bc) w e w'):=⟨_,rfl⟩
 have hpost:(fun e w'=>LayTold base (.slice a n cc) P ((⟨xf,xt,xi⟩,⟨xk,xo,xb⟩),ba,bl,bc) w e w')=fun e w'=>POST e w':=HPO.out.symm
 rw [hpost]
 obtain ⟨W1,HW1⟩:∃ W1,Hid (W1=w.alloc (.cells #[.int .i64 xf,.int .i64 xt,.int .i64 xi,.int .i64 xk,.int .u32 xo,.slice ba bl bc] 400)):=⟨_,rfl⟩
 have HX1:Hid (Below w.heap.size w W1):=by (show Below _ _ _);rw [HW1.out];exact below_new w _
 have HK1:Hid (Bk W1 w.heap.size #[.int .i64 xf,.int .i64 xt,.int .i64 xi,.int .i64 xk,.int .u32 xo,.slice ba bl bc] 400):=by (show Bk _ _ _ _);rw [HW1.out];exact Bk.new w _ _
 have HP1:Hid (Pcw W1 base (.slice a n cc) P):=h.below HX1.out
 have HBB:Hid (base≤w.heap.size):=hB
 have e0:W1.cell? ⟨w.heap.size,0,none⟩=some (.int .i64 xf):=HK1.out.cell 0 rfl
 have e1:W1.cell? ⟨w.heap.size,1,none⟩=some (.int .i64 xt):=HK1.out.cell 1 rfl
 have e2:W1.cell? ⟨w.heap.size,2,none⟩=some (.int .i64 xi):=HK1.out.cell 2 rfl
 have e3:W1.cell? ⟨w.heap.size,3,none⟩=some (.int .i64 xk):=HK1.out.cell 3 rfl
 have e4:W1.cell? ⟨w.heap.size,4,none⟩=some (.int .u32 xo):=HK1.out.cell 4 rfl
 have e5:W1.cell? ⟨w.heap.size,5,none⟩=some (.slice ba bl bc):=HK1.out.cell 5 rfl
 rcases snocL P with hP0 | ⟨i,d,hPd⟩
 ·have hn0:n=0:=by rw [← hn,hP0];rfl
  have HCA:Hid (P=[] ∨ ∃ i d,P=i++[d] ∧ (xi=1∨xi≠d.1.1.is∨xf≠d.1.1.to+1)):=.inl hP0
  subst hn0
  clear hP0 hn hl h hpost hto hB
  go_enter Tryz.func301,Tryz.ntmps301
  go_upto_region 1 with fail
  rw [← HW1.out]
  go_upto_region 2 with fail
  have hd1:decide ((-1:Int)<0)=true:=rfl
  go_quiet (fail)
  obtain ⟨wq,HWQ⟩:∃ W,Hid (W=W1.drewN nq):=⟨_,rfl⟩
  rw [← HWQ.out]
  have HBQ:Hid (Below W1.heap.size W1 wq):=by (show Below _ _ _);rw [HWQ.out];exact below_drews (Below.refl _ _) _
  have hkq:Bk wq w.heap.size #[.int .i64 xf,.int .i64 xt,.int .i64 xi,.int .i64 xk,.int .u32 xo,.slice ba bl bc] 400:=HK1.out.stay HBQ.out
  have q0:wq.cell? ⟨w.heap.size,0,none⟩=some (.int .i64 xf):=hkq.cell 0 rfl
  have q1:wq.cell? ⟨w.heap.size,1,none⟩=some (.int .i64 xt):=hkq.cell 1 rfl
  have q2:wq.cell? ⟨w.heap.size,2,none⟩=some (.int .i64 xi):=hkq.cell 2 rfl
  have q3:wq.cell? ⟨w.heap.size,3,none⟩=some (.int .i64 xk):=hkq.cell 3 rfl
  have q4:wq.cell? ⟨w.heap.size,4,none⟩=some (.int .u32 xo):=hkq.cell 4 rfl
  have q5:wq.cell? ⟨w.heap.size,5,none⟩=some (.slice ba bl bc):=hkq.cell 5 rfl
  have HPQ:Hid (Pcw wq base (.slice a 0 cc) P):=HP1.out.below HBQ.out
  have HBA:Hid (Below wq.heap.size wq (wq.alloc (.cells #[.int .i64 xf,.int .i64 xt,.int .i64 xi,.int .i64 xk,.int .u32 xo,.slice ba bl bc] 400))):=below_new _ _
  have HTD:Hid (∀ j u,(pcel (((⟨xf,xt,xi⟩:Sp),(⟨xk,xo,xb⟩:It)),((ba,bl,bc):Bd)))[j]? = some u→(wq.alloc (.cells #[.int .i64 xf,.int .i64 xt,.int .i64 xi,.int .i64 xk,.int .u32 xo,.slice ba bl bc] 400)).cell? ((⟨wq.heap.size,0,none⟩:Addr).add j)=some u):=pw_told (q:=(((⟨xf,xt,xi⟩:Sp),(⟨xk,xo,xb⟩:It)),((ba,bl,bc):Bd))) (Bk.new _ _ _)
  have HSZ:Hid (base≤(wq.alloc (.cells #[.int .i64 xf,.int .i64 xt,.int .i64 xi,.int .i64 xk,.int .u32 xo,.slice ba bl bc] 400)).heap.size):=Nat.le_trans HBB.out (Nat.le_trans HX1.out.size (Nat.le_trans HBQ.out.size HBA.out.size))
  clear hkq e0 e1 e2 e3 e4 e5
  go_wp2_with (at_builtin;refine wpList_append_pw rfl (.tmp 42) (.tmp 44) rfl base _ P rfl (HPQ.out.below HBA.out) ⟨wq.heap.size,0,none⟩ 1 (((⟨xf,xt,xi⟩:Sp),(⟨xk,xo,xb⟩:It)),((ba,bl,bc):Bd)) rfl HTD.out HL.out HSZ.out ?_;intro v5 w5 hp5 hg5 hb5)
  have HOT:Hid (∀ k,k<w.heap.size→some k≠(Value.slice a 0 cc).ownBlock→w5.heap[k]? = w.heap[k]?):=fun k hk hn=>by rw [hg5.block k (Nat.lt_of_lt_of_le hk (Nat.le_trans HX1.out.size (Nat.le_trans HBQ.out.size HBA.out.size))) hn,HBA.out.block k (Nat.lt_of_lt_of_le hk (Nat.le_trans HX1.out.size HBQ.out.size)),HBQ.out.block k (Nat.lt_of_lt_of_le hk HX1.out.size),HX1.out.block k hk]
  have HP5:Hid (Pcw w5 base v5 (P++[(((⟨xf,xt,xi⟩:Sp),(⟨xk,xo,xb⟩:It)),((ba,bl,bc):Bd))])):=hp5
  have HB5:Hid (Below base w w5):=(((HX1.out.mono HBB.out).trans (HBQ.out.mono (Nat.le_trans HBB.out HX1.out.size))).trans (HBA.out.mono (Nat.le_trans HBB.out (Nat.le_trans HX1.out.size HBQ.out.size)))).trans hb5
  obtain ⟨a5,c5,hv5,_⟩:=hp5.form
  obtain ⟨n5,hn5⟩:∃ n,n=(P++[(((⟨xf,xt,xi⟩:Sp),(⟨xk,xo,xb⟩:It)),((ba,bl,bc):Bd))]).length:=⟨_,rfl⟩
  rw [← hn5] at hv5
  subst hv5
  clear hp5 hg5 hb5 hn5 q0 q1 q2 q3 q4 q5
  go_wp2
  rw [HPO.out]
  exact ⟨HOT.out,⟨a5,n5,c5,_,rfl,HP5.out,(lay_told_app (x:=(((⟨xf,xt,xi⟩:Sp),(⟨xk,xo,xb⟩:It)),((ba,bl,bc):Bd))) HCA.out).1,(lay_told_app (x:=(((⟨xf,xt,xi⟩:Sp),(⟨xk,xo,xb⟩:It)),((ba,bl,bc):Bd))) HCA.out).2⟩,HB5.out⟩
 ·obtain ⟨N,HN⟩:∃ N,Hid (i.length=N):=⟨_,rfl⟩
  have hnN:n=N+1:=by rw [← hn,hPd,List.length_append,HN.out];rfl
  have HPD:Hid (P=i++[d]):=hPd
  have hlast:(n:Int) - 1=(N:Int):=by omega
  have hNl:(N:Int)<(n:Int):=by omega
  have hN0:(0:Int)≤(N:Int):=by omega
  have hN1:¬ (N:Int)<0:=by omega
  have hNn:n≤2000000000000:=by omega
  have hw2:IntKind.i64.wrap (N:Int)=(N:Int):=by rw [IntKind.wrap_i64];omega
  have hPi:P[N]? = some d:=by rw [hPd,← HN.out];simp
  obtain ⟨g,rfl,hgb,hgl,d0,d1,d2,d3,d4,d5⟩:=HP1.out.at_ hPi
  have HDT:Hid (0≤d.1.1.to∧d.1.1.to≤1099511627776):=hto d (by rw [hPd];simp)
  obtain ⟨⟨⟨df,dt,di⟩,⟨dk,do_,db⟩⟩,⟨da,dl,dc⟩⟩:=d
  simp only at d0 d1 d2 d3 d4 d5 HDT
  have hd0:decide ((N:Int)<0)=false:=decide_eq_false hN1
  clear hn hPd hPi hl h hpost hto hB hnN
  by_cases h1:xi=1
  ·have HCA:Hid (P=[] ∨ ∃ i d,P=i++[d] ∧ (xi=1∨xi≠d.1.1.is∨xf≠d.1.1.to+1)):=.inr ⟨i,_,HPD.out,.inl h1⟩
   have k1:(xi == 1)=true:=by rw [beq_iff_eq];exact h1
   clear h1
   go_enter Tryz.func301,Tryz.ntmps301
   go_upto_region 1 with fail
   rw [← HW1.out]
   go_upto_region 2 with fail
   go_quiet (fail)
   obtain ⟨wq,HWQ⟩:∃ W,Hid (W=W1.drewN nq):=⟨_,rfl⟩
   rw [← HWQ.out]
   have HBQ:Hid (Below W1.heap.size W1 wq):=by (show Below _ _ _);rw [HWQ.out];exact below_drews (Below.refl _ _) _
   have hkq:Bk wq w.heap.size #[.int .i64 xf,.int .i64 xt,.int .i64 xi,.int .i64 xk,.int .u32 xo,.slice ba bl bc] 400:=HK1.out.stay HBQ.out
   have q0:wq.cell? ⟨w.heap.size,0,none⟩=some (.int .i64 xf):=hkq.cell 0 rfl
   have q1:wq.cell? ⟨w.heap.size,1,none⟩=some (.int .i64 xt):=hkq.cell 1 rfl
   have q2:wq.cell? ⟨w.heap.size,2,none⟩=some (.int .i64 xi):=hkq.cell 2 rfl
   have q3:wq.cell? ⟨w.heap.size,3,none⟩=some (.int .i64 xk):=hkq.cell 3 rfl
   have q4:wq.cell? ⟨w.heap.size,4,none⟩=some (.int .u32 xo):=hkq.cell 4 rfl
   have q5:wq.cell? ⟨w.heap.size,5,none⟩=some (.slice ba bl bc):=hkq.cell 5 rfl
   have HPQ:Hid (Pcw wq base (.slice (some ⟨g,0,none⟩) n cc) P):=HP1.out.below HBQ.out
   have HBA:Hid (Below wq.heap.size wq (wq.alloc (.cells #[.int .i64 xf,.int .i64 xt,.int .i64 xi,.int .i64 xk,.int .u32 xo,.slice ba bl bc] 400))):=below_new _ _
   have HTD:Hid (∀ j u,(pcel (((⟨xf,xt,xi⟩:Sp),(⟨xk,xo,xb⟩:It)),((ba,bl,bc):Bd)))[j]? = some u→(wq.alloc (.cells #[.int .i64 xf,.int .i64 xt,.int .i64 xi,.int .i64 xk,.int .u32 xo,.slice ba bl bc] 400)).cell? ((⟨wq.heap.size,0,none⟩:Addr).add j)=some u):=pw_told (q:=(((⟨xf,xt,xi⟩:Sp),(⟨xk,xo,xb⟩:It)),((ba,bl,bc):Bd))) (Bk.new _ _ _)
   have HSZ:Hid (base≤(wq.alloc (.cells #[.int .i64 xf,.int .i64 xt,.int .i64 xi,.int .i64 xk,.int .u32 xo,.slice ba bl bc] 400)).heap.size):=Nat.le_trans HBB.out (Nat.le_trans HX1.out.size (Nat.le_trans HBQ.out.size HBA.out.size))
   clear hkq e0 e1 e2 e3 e4 e5
   go_wp2_with (at_builtin;refine wpList_append_pw rfl (.tmp 42) (.tmp 44) rfl base _ P rfl (HPQ.out.below HBA.out) ⟨wq.heap.size,0,none⟩ 1 (((⟨xf,xt,xi⟩:Sp),(⟨xk,xo,xb⟩:It)),((ba,bl,bc):Bd)) rfl HTD.out HL.out HSZ.out ?_;intro v5 w5 hp5 hg5 hb5)
   have HOT:Hid (∀ k,k<w.heap.size→some k≠(Value.slice (some ⟨g,0,none⟩) n cc).ownBlock→w5.heap[k]? = w.heap[k]?):=fun k hk hn=>by rw [hg5.block k (Nat.lt_of_lt_of_le hk (Nat.le_trans HX1.out.size (Nat.le_trans HBQ.out.size HBA.out.size))) hn,HBA.out.block k (Nat.lt_of_lt_of_le hk (Nat.le_trans HX1.out.size HBQ.out.size)),HBQ.out.block k (Nat.lt_of_lt_of_le hk HX1.out.size),HX1.out.block k hk]
   have HP5:Hid (Pcw w5 base v5 (P++[(((⟨xf,xt,xi⟩:Sp),(⟨xk,xo,xb⟩:It)),((ba,bl,bc):Bd))])):=hp5
   have HB5:Hid (Below base w w5):=(((HX1.out.mono HBB.out).trans (HBQ.out.mono (Nat.le_trans HBB.out HX1.out.size))).trans (HBA.out.mono (Nat.le_trans HBB.out (Nat.le_trans HX1.out.size HBQ.out.size)))).trans hb5
   obtain ⟨a5,c5,hv5,_⟩:=hp5.form
   obtain ⟨n5,hn5⟩:∃ n,n=(P++[(((⟨xf,xt,xi⟩:Sp),(⟨xk,xo,xb⟩:It)),((ba,bl,bc):Bd))]).length:=⟨_,rfl⟩
   rw [← hn5] at hv5
   subst hv5
   clear hp5 hg5 hb5 hn5 q0 q1 q2 q3 q4 q5
   go_wp2
   rw [HPO.out]
   exact ⟨HOT.out,⟨a5,n5,c5,_,rfl,HP5.out,(lay_told_app (x:=(((⟨xf,xt,xi⟩:Sp),(⟨xk,xo,xb⟩:It)),((ba,bl,bc):Bd))) HCA.out).1,(lay_told_app (x:=(((⟨xf,xt,xi⟩:Sp),(⟨xk,xo,xb⟩:It)),((ba,bl,bc):Bd))) HCA.out).2⟩,HB5.out⟩
  ·have k1:(xi == 1)=false:=by rw [beq_eq_false_iff_ne];exact h1
   by_cases h2:xi=di
   ·have k2:(xi != di)=false:=by rw [bne_eq_false_iff_eq];exact h2
    have hdt1:0≤dt:=HDT.out.1
    have hdt2:dt≤1099511627776:=HDT.out.2
    have hw3:wrap64 (dt+1)=dt+1:=by have:=IntKind.wrap_i64 (dt+1);unfold wrap64 at *;omega
    by_cases h3:xf=dt+1
    ·have k3:(xf != dt+1)=false:=by rw [bne_eq_false_iff_eq];exact h3
     have HMG:Hid (xi≠1∧xi=di∧xf=dt+1):=⟨h1,h2,h3⟩
     clear h1 h2 h3
     have f1:=(HP1.out.free (N * 6+1)).1
     go_enter Tryz.func301,Tryz.ntmps301
     go_upto_region 1 with fail
     rw [← HW1.out]
     go_upto_region 2 with fail
     go_quiet (fail)
     obtain ⟨wq,HWQ⟩:∃ W,Hid (W=W1.drewN nq):=⟨_,rfl⟩
     rw [← HWQ.out]
     have HBQ:Hid (Below W1.heap.size W1 wq):=by (show Below _ _ _);rw [HWQ.out];exact below_drews (Below.refl _ _) _
     have hkq:Bk wq w.heap.size #[.int .i64 xf,.int .i64 xt,.int .i64 xi,.int .i64 xk,.int .u32 xo,.slice ba bl bc] 400:=HK1.out.stay HBQ.out
     have q1:wq.cell? ⟨w.heap.size,1,none⟩=some (.int .i64 xt):=hkq.cell 1 rfl
     have HPQ:Hid (Pcw wq base (.slice (some ⟨g,0,none⟩) n cc) (i++[(((⟨df,dt,di⟩:Sp),(⟨dk,do_,db⟩:It)),((da,dl,dc):Bd))])):=by have:=HP1.out.below HBQ.out;rw [HPD.out] at this;exact this
     have qd:wq.cell? ⟨g,N * 6+1,none⟩=some (.int .i64 dt):=(HBQ.out.cell (p:=⟨g,N * 6+1,none⟩) hgl).trans d1
     have qf:wq.frozen? ⟨g,N * 6+1,none⟩=false:=(HPQ.out.free (N * 6+1)).1
     have HPS:Hid (Pcw (wq.setCell ⟨g,N * 6+1,none⟩ (.int .i64 xt)) base (.slice (some ⟨g,0,none⟩) n cc) (i++[(((⟨df,xt,di⟩:Sp),(⟨dk,do_,db⟩:It)),((da,dl,dc):Bd))])):=by have:=HPQ.out.setTo xt;rw [HN.out] at this;exact this
     have HOT:Hid (∀ k,k<w.heap.size→some k≠(Value.slice (some ⟨g,0,none⟩) n cc).ownBlock→(wq.setCell ⟨g,N * 6+1,none⟩ (.int .i64 xt)).heap[k]? = w.heap[k]?):=fun k hk hn=>by rw [heap_setCell_other wq ⟨g,N * 6+1,none⟩ k _ (by rintro rfl;exact hn rfl),HBQ.out.block k (Nat.lt_of_lt_of_le hk HX1.out.size),HX1.out.block k hk]
     have HBS:Hid (Below base w (wq.setCell ⟨g,N * 6+1,none⟩ (.int .i64 xt))):=((HX1.out.mono HBB.out).trans (HBQ.out.mono (Nat.le_trans HBB.out HX1.out.size))).setCell hgb _
     clear hkq e0 e1 e2 e3 e4 e5 d0 d1 d2 d3 d4 d5 f1
     go_wp2
     rw [HPO.out]
     refine ⟨HOT.out,⟨_,n,cc,_,rfl,HPS.out,?_,fun y hy h1 => ?_⟩,HBS.out⟩
     ·rw [HPD.out]
      exact .inr ⟨i.map Prod.fst,((⟨df,dt,di⟩:Sp),(⟨dk,do_,db⟩:It)),by simp,.inr ⟨HMG.out,by simp⟩⟩
     ·rcases List.mem_append.1 hy with hy | hy
      ·exact .inl (by rw [HPD.out];exact List.mem_append_left _ hy)
      ·rw [List.mem_singleton.1 hy] at h1
       have h1:di=1:=h1
       exact absurd (HMG.out.2.1.trans h1) HMG.out.1
    ·have k3:(xf != dt+1)=true:=by rw [bne_iff_ne];exact h3
     have HCA:Hid (P=[] ∨ ∃ i d,P=i++[d] ∧ (xi=1∨xi≠d.1.1.is∨xf≠d.1.1.to+1)):=.inr ⟨i,_,HPD.out,.inr (.inr h3)⟩
     clear h1 h2 h3
     go_enter Tryz.func301,Tryz.ntmps301
     go_upto_region 1 with fail
     rw [← HW1.out]
     go_upto_region 2 with fail
     go_quiet (fail)
     obtain ⟨wq,HWQ⟩:∃ W,Hid (W=W1.drewN nq):=⟨_,rfl⟩
     rw [← HWQ.out]
     have HBQ:Hid (Below W1.heap.size W1 wq):=by (show Below _ _ _);rw [HWQ.out];exact below_drews (Below.refl _ _) _
     have hkq:Bk wq w.heap.size #[.int .i64 xf,.int .i64 xt,.int .i64 xi,.int .i64 xk,.int .u32 xo,.slice ba bl bc] 400:=HK1.out.stay HBQ.out
     have q0:wq.cell? ⟨w.heap.size,0,none⟩=some (.int .i64 xf):=hkq.cell 0 rfl
     have q1:wq.cell? ⟨w.heap.size,1,none⟩=some (.int .i64 xt):=hkq.cell 1 rfl
     have q2:wq.cell? ⟨w.heap.size,2,none⟩=some (.int .i64 xi):=hkq.cell 2 rfl
     have q3:wq.cell? ⟨w.heap.size,3,none⟩=some (.int .i64 xk):=hkq.cell 3 rfl
     have q4:wq.cell? ⟨w.heap.size,4,none⟩=some (.int .u32 xo):=hkq.cell 4 rfl
     have q5:wq.cell? ⟨w.heap.size,5,none⟩=some (.slice ba bl bc):=hkq.cell 5 rfl
     have HPQ:Hid (Pcw wq base (.slice (some ⟨g,0,none⟩) n cc) P):=HP1.out.below HBQ.out
     have HBA:Hid (Below wq.heap.size wq (wq.alloc (.cells #[.int .i64 xf,.int .i64 xt,.int .i64 xi,.int .i64 xk,.int .u32 xo,.slice ba bl bc] 400))):=below_new _ _
     have HTD:Hid (∀ j u,(pcel (((⟨xf,xt,xi⟩:Sp),(⟨xk,xo,xb⟩:It)),((ba,bl,bc):Bd)))[j]? = some u→(wq.alloc (.cells #[.int .i64 xf,.int .i64 xt,.int .i64 xi,.int .i64 xk,.int .u32 xo,.slice ba bl bc] 400)).cell? ((⟨wq.heap.size,0,none⟩:Addr).add j)=some u):=pw_told (q:=(((⟨xf,xt,xi⟩:Sp),(⟨xk,xo,xb⟩:It)),((ba,bl,bc):Bd))) (Bk.new _ _ _)
     have HSZ:Hid (base≤(wq.alloc (.cells #[.int .i64 xf,.int .i64 xt,.int .i64 xi,.int .i64 xk,.int .u32 xo,.slice ba bl bc] 400)).heap.size):=Nat.le_trans HBB.out (Nat.le_trans HX1.out.size (Nat.le_trans HBQ.out.size HBA.out.size))
     clear hkq e0 e1 e2 e3 e4 e5
     go_wp2_with (at_builtin;refine wpList_append_pw rfl (.tmp 42) (.tmp 44) rfl base _ P rfl (HPQ.out.below HBA.out) ⟨wq.heap.size,0,none⟩ 1 (((⟨xf,xt,xi⟩:Sp),(⟨xk,xo,xb⟩:It)),((ba,bl,bc):Bd)) rfl HTD.out HL.out HSZ.out ?_;intro v5 w5 hp5 hg5 hb5)
     have HOT:Hid (∀ k,k<w.heap.size→some k≠(Value.slice (some ⟨g,0,none⟩) n cc).ownBlock→w5.heap[k]? = w.heap[k]?):=fun k hk hn=>by rw [hg5.block k (Nat.lt_of_lt_of_le hk (Nat.le_trans HX1.out.size (Nat.le_trans HBQ.out.size HBA.out.size))) hn,HBA.out.block k (Nat.lt_of_lt_of_le hk (Nat.le_trans HX1.out.size HBQ.out.size)),HBQ.out.block k (Nat.lt_of_lt_of_le hk HX1.out.size),HX1.out.block k hk]
     have HP5:Hid (Pcw w5 base v5 (P++[(((⟨xf,xt,xi⟩:Sp),(⟨xk,xo,xb⟩:It)),((ba,bl,bc):Bd))])):=hp5
     have HB5:Hid (Below base w w5):=(((HX1.out.mono HBB.out).trans (HBQ.out.mono (Nat.le_trans HBB.out HX1.out.size))).trans (HBA.out.mono (Nat.le_trans HBB.out (Nat.le_trans HX1.out.size HBQ.out.size)))).trans hb5
     obtain ⟨a5,c5,hv5,_⟩:=hp5.form
     obtain ⟨n5,hn5⟩:∃ n,n=(P++[(((⟨xf,xt,xi⟩:Sp),(⟨xk,xo,xb⟩:It)),((ba,bl,bc):Bd))]).length:=⟨_,rfl⟩
     rw [← hn5] at hv5
     subst hv5
     clear hp5 hg5 hb5 hn5 q0 q1 q2 q3 q4 q5
     go_wp2
     rw [HPO.out]
     exact ⟨HOT.out,⟨a5,n5,c5,_,rfl,HP5.out,(lay_told_app (x:=(((⟨xf,xt,xi⟩:Sp),(⟨xk,xo,xb⟩:It)),((ba,bl,bc):Bd))) HCA.out).1,(lay_told_app (x:=(((⟨xf,xt,xi⟩:Sp),(⟨xk,xo,xb⟩:It)),((ba,bl,bc):Bd))) HCA.out).2⟩,HB5.out⟩
   ·have k2:(xi != di)=true:=by rw [bne_iff_ne];exact h2
    have HCA:Hid (P=[] ∨ ∃ i d,P=i++[d] ∧ (xi=1∨xi≠d.1.1.is∨xf≠d.1.1.to+1)):=.inr ⟨i,_,HPD.out,.inr (.inl h2)⟩
    clear h1 h2
    go_enter Tryz.func301,Tryz.ntmps301
    go_upto_region 1 with fail
    rw [← HW1.out]
    go_upto_region 2 with fail
    go_quiet (fail)
    obtain ⟨wq,HWQ⟩:∃ W,Hid (W=W1.drewN nq):=⟨_,rfl⟩
    rw [← HWQ.out]
    have HBQ:Hid (Below W1.heap.size W1 wq):=by (show Below _ _ _);rw [HWQ.out];exact below_drews (Below.refl _ _) _
    have hkq:Bk wq w.heap.size #[.int .i64 xf,.int .i64 xt,.int .i64 xi,.int .i64 xk,.int .u32 xo,.slice ba bl bc] 400:=HK1.out.stay HBQ.out
    have q0:wq.cell? ⟨w.heap.size,0,none⟩=some (.int .i64 xf):=hkq.cell 0 rfl
    have q1:wq.cell? ⟨w.heap.size,1,none⟩=some (.int .i64 xt):=hkq.cell 1 rfl
    have q2:wq.cell? ⟨w.heap.size,2,none⟩=some (.int .i64 xi):=hkq.cell 2 rfl
    have q3:wq.cell? ⟨w.heap.size,3,none⟩=some (.int .i64 xk):=hkq.cell 3 rfl
    have q4:wq.cell? ⟨w.heap.size,4,none⟩=some (.int .u32 xo):=hkq.cell 4 rfl
    have q5:wq.cell? ⟨w.heap.size,5,none⟩=some (.slice ba bl bc):=hkq.cell 5 rfl
    have HPQ:Hid (Pcw wq base (.slice (some ⟨g,0,none⟩) n cc) P):=HP1.out.below HBQ.out
    have HBA:Hid (Below wq.heap.size wq (wq.alloc (.cells #[.int .i64 xf,.int .i64 xt,.int .i64 xi,.int .i64 xk,.int .u32 xo,.slice ba bl bc] 400))):=below_new _ _
    have HTD:Hid (∀ j u,(pcel (((⟨xf,xt,xi⟩:Sp),(⟨xk,xo,xb⟩:It)),((ba,bl,bc):Bd)))[j]? = some u→(wq.alloc (.cells #[.int .i64 xf,.int .i64 xt,.int .i64 xi,.int .i64 xk,.int .u32 xo,.slice ba bl bc] 400)).cell? ((⟨wq.heap.size,0,none⟩:Addr).add j)=some u):=pw_told (q:=(((⟨xf,xt,xi⟩:Sp),(⟨xk,xo,xb⟩:It)),((ba,bl,bc):Bd))) (Bk.new _ _ _)
    have HSZ:Hid (base≤(wq.alloc (.cells #[.int .i64 xf,.int .i64 xt,.int .i64 xi,.int .i64 xk,.int .u32 xo,.slice ba bl bc] 400)).heap.size):=Nat.le_trans HBB.out (Nat.le_trans HX1.out.size (Nat.le_trans HBQ.out.size HBA.out.size))
    clear hkq e0 e1 e2 e3 e4 e5
    go_wp2_with (at_builtin;refine wpList_append_pw rfl (.tmp 42) (.tmp 44) rfl base _ P rfl (HPQ.out.below HBA.out) ⟨wq.heap.size,0,none⟩ 1 (((⟨xf,xt,xi⟩:Sp),(⟨xk,xo,xb⟩:It)),((ba,bl,bc):Bd)) rfl HTD.out HL.out HSZ.out ?_;intro v5 w5 hp5 hg5 hb5)
    have HOT:Hid (∀ k,k<w.heap.size→some k≠(Value.slice (some ⟨g,0,none⟩) n cc).ownBlock→w5.heap[k]? = w.heap[k]?):=fun k hk hn=>by rw [hg5.block k (Nat.lt_of_lt_of_le hk (Nat.le_trans HX1.out.size (Nat.le_trans HBQ.out.size HBA.out.size))) hn,HBA.out.block k (Nat.lt_of_lt_of_le hk (Nat.le_trans HX1.out.size HBQ.out.size)),HBQ.out.block k (Nat.lt_of_lt_of_le hk HX1.out.size),HX1.out.block k hk]
    have HP5:Hid (Pcw w5 base v5 (P++[(((⟨xf,xt,xi⟩:Sp),(⟨xk,xo,xb⟩:It)),((ba,bl,bc):Bd))])):=hp5
    have HB5:Hid (Below base w w5):=(((HX1.out.mono HBB.out).trans (HBQ.out.mono (Nat.le_trans HBB.out HX1.out.size))).trans (HBA.out.mono (Nat.le_trans HBB.out (Nat.le_trans HX1.out.size HBQ.out.size)))).trans hb5
    obtain ⟨a5,c5,hv5,_⟩:=hp5.form
    obtain ⟨n5,hn5⟩:∃ n,n=(P++[(((⟨xf,xt,xi⟩:Sp),(⟨xk,xo,xb⟩:It)),((ba,bl,bc):Bd))]).length:=⟨_,rfl⟩
    rw [← hn5] at hv5
    subst hv5
    clear hp5 hg5 hb5 hn5 q0 q1 q2 q3 q4 q5
    go_wp2
    rw [HPO.out]
    exact ⟨HOT.out,⟨a5,n5,c5,_,rfl,HP5.out,(lay_told_app (x:=(((⟨xf,xt,xi⟩:Sp),(⟨xk,xo,xb⟩:It)),((ba,bl,bc):Bd))) HCA.out).1,(lay_told_app (x:=(((⟨xf,xt,xi⟩:Sp),(⟨xk,xo,xb⟩:It)),((ba,bl,bc):Bd))) HCA.out).2⟩,HB5.out⟩
 where
 snocL:∀ (l:List Pb),l=[] ∨ ∃ i q,l=i++[q]:=fun l=>by
  rcases List.eq_nil_or_concat l with h | ⟨i,q,h⟩
  ·exact .inl h
  ·exact .inr ⟨i,q,by rw [h];simp⟩
end
section
open Go.RowKit
def set6 (w:World) (g:Nat) (c0 c1 c2 c3 c4 c5:Value):World:=(((((w.setCell ⟨g,0,none⟩ c0).setCell ⟨g,1,none⟩ c1).setCell ⟨g,2,none⟩ c2).setCell ⟨g,3,none⟩ c3).setCell ⟨g,4,none⟩ c4).setCell ⟨g,5,none⟩ c5
theorem Bk.set6 {w:World} {g:Nat} {d0 d1 d2 d3 d4 d5:Value} {t:TypeId} (h:Bk w g #[d0,d1,d2,d3,d4,d5] t) (c0 c1 c2 c3 c4 c5:Value):Bk (set6 w g c0 c1 c2 c3 c4 c5) g #[c0,c1,c2,c3,c4,c5] t:=(((((h.set 0 c0).set 1 c1).set 2 c2).set 3 c3).set 4 c4).set 5 c5
theorem below_set6 {B:Nat} {w0 w:World} {g:Nat} (h:Below B w0 w) (hg:B≤g) (c0 c1 c2 c3 c4 c5:Value):Below B w0 (set6 w g c0 c1 c2 c3 c4 c5):=(((((h.setCell hg _).setCell hg _).setCell hg _).setCell hg _).setCell hg _).setCell hg _
end
section
set_option maxRecDepth 100000
open Go.RowKit Go.Maps Go.Sort Go.Shelf
variable {Z:Nat→Prop}
def pieceV (lk:Int) (q:It) (b:Bd):Pb:=if hitB lk q=true then ((⟨q.tick,q.tick,1⟩,q),b) else ((⟨q.tick,q.tick,2⟩,zIt),(none,0,0))
theorem results_pieceOf {w:World} {tmps:Array Value} {g:Nat} {c0 c1 c2 c3 c4 c5:Value} (h4:tmps[4]?.getD undef=.pointer (some ⟨g,0,none⟩)) (k:Bk w g #[c0,c1,c2,c3,c4,c5] 400):(results Tryz.f302 tmps).run Tryz.prog w=.ok (.agg #[c0,c1,c2,c3,c4,c5]) w:=by
 have k0:w.cell? ⟨g,0,none⟩=some c0:=k.cell 0 rfl
 have k1:w.cell? ⟨g,1,none⟩=some c1:=k.cell 1 rfl
 have k2:w.cell? ⟨g,2,none⟩=some c2:=k.cell 2 rfl
 have k3:w.cell? ⟨g,3,none⟩=some c3:=k.cell 3 rfl
 have k4:w.cell? ⟨g,4,none⟩=some c4:=k.cell 4 rfl
 have k5:w.cell? ⟨g,5,none⟩=some c5:=k.cell 5 rfl
 simp [results,Tryz.results302,go_sem,h4,k0,k1,k2,k3,k4,k5]
theorem st_pieceOf (q:It) (ba:Option Addr) (bl bc:Nat) (lk:Int) (w:World) :
  Calls Tryz.prog 302 #[.agg #[.int .i64 q.tick,.int .u32 q.for_,.slice ba bl bc],.int .u32 lk] w fun e w'=>e=.returned (pval (pieceV lk q (ba,bl,bc)))∧Below w.heap.size w w':=by
 obtain ⟨qt,qf,qb⟩:=q
 simp only
 obtain ⟨W3,HW3⟩:∃ W3,Hid (W3=((w.alloc (.cells #[.int .i64 qt,.int .u32 qf,.slice ba bl bc] 51)).alloc (.cells #[.int .i64 0,.int .i64 0,.int .i64 0,.int .i64 0,.int .u32 0,.slice none 0 0] 400)).alloc (.cells #[.int .i64 qt,.int .i64 qt,.int .i64 1] 186)):=⟨_,rfl⟩
 have s1:(w.alloc (.cells #[.int .i64 qt,.int .u32 qf,.slice ba bl bc] 51)).heap.size=w.heap.size+1:=by simp
 have s2:((w.alloc (.cells #[.int .i64 qt,.int .u32 qf,.slice ba bl bc] 51)).alloc (.cells #[.int .i64 0,.int .i64 0,.int .i64 0,.int .i64 0,.int .u32 0,.slice none 0 0] 400)).heap.size=w.heap.size+2:=by simp
 have HX3:Hid (Below w.heap.size w W3):=by (show Below _ _ _);rw [HW3.out];exact ((below_new w _).alloc (by omega) _).alloc (by omega) _
 have HI3:Hid (Bk W3 w.heap.size #[.int .i64 qt,.int .u32 qf,.slice ba bl bc] 51):=by (show Bk _ _ _ _);rw [HW3.out];exact ((Bk.new w _ _).stay (below_new _ _)).stay (below_new _ _)
 have HP3:Hid (Bk W3 (w.heap.size+1) #[.int .i64 0,.int .i64 0,.int .i64 0,.int .i64 0,.int .u32 0,.slice none 0 0] 400):=by (show Bk _ _ _ _);rw [HW3.out,← s1];exact (Bk.new _ _ _).stay (below_new _ _)
 have HS3:Hid (Bk W3 (w.heap.size+2) #[.int .i64 qt,.int .i64 qt,.int .i64 1] 186):=by (show Bk _ _ _ _);rw [HW3.out,← s2];exact Bk.new _ _ _
 have i0:W3.cell? ⟨w.heap.size,0,none⟩=some (.int .i64 qt):=HI3.out.cell 0 rfl
 have i1:W3.cell? ⟨w.heap.size,1,none⟩=some (.int .u32 qf):=HI3.out.cell 1 rfl
 have i2:W3.cell? ⟨w.heap.size,2,none⟩=some (.slice ba bl bc):=HI3.out.cell 2 rfl
 have p0:W3.cell? ⟨w.heap.size+1,0,none⟩=some (.int .i64 0):=HP3.out.cell 0 rfl
 have p1:W3.cell? ⟨w.heap.size+1,1,none⟩=some (.int .i64 0):=HP3.out.cell 1 rfl
 have p2:W3.cell? ⟨w.heap.size+1,2,none⟩=some (.int .i64 0):=HP3.out.cell 2 rfl
 have p3:W3.cell? ⟨w.heap.size+1,3,none⟩=some (.int .i64 0):=HP3.out.cell 3 rfl
 have p4:W3.cell? ⟨w.heap.size+1,4,none⟩=some (.int .u32 0):=HP3.out.cell 4 rfl
 have p5:W3.cell? ⟨w.heap.size+1,5,none⟩=some (.slice none 0 0):=HP3.out.cell 5 rfl
 have r0:W3.cell? ⟨w.heap.size+2,0,none⟩=some (.int .i64 qt):=HS3.out.cell 0 rfl
 have r1:W3.cell? ⟨w.heap.size+2,1,none⟩=some (.int .i64 qt):=HS3.out.cell 1 rfl
 have r2:W3.cell? ⟨w.heap.size+2,2,none⟩=some (.int .i64 1):=HS3.out.cell 2 rfl
 have pf0:=HP3.out.free 0
 have pf1:=HP3.out.free 1
 have pf2:=HP3.out.free 2
 have pf3:=HP3.out.free 3
 have pf4:=HP3.out.free 4
 have pf5:=HP3.out.free 5
 have rf2:=HS3.out.free 2
 by_cases hh:bits .and .u32 qf lk=0
 ·have HV:Hid (pieceV lk ⟨qt,qf,qb⟩ (ba,bl,bc)=((⟨qt,qt,2⟩,zIt),(none,0,0))):=by
   (show _=_)
   unfold pieceV hitB
   rw [if_neg (by simp [hh])]
  have HG:Hid (Bk (set6 (W3.setCell ⟨w.heap.size+2,2,none⟩ (.int .i64 2)) (w.heap.size+1) (.int .i64 qt) (.int .i64 qt) (.int .i64 2) (.int .i64 0) (.int .u32 0) (.slice none 0 0)) (w.heap.size+1) #[.int .i64 qt,.int .i64 qt,.int .i64 2,.int .i64 0,.int .u32 0,.slice none 0 0] 400):=(HP3.out.other _ _ (by show w.heap.size+1≠w.heap.size+2;omega)).set6 _ _ _ _ _ _
  have HB:Hid (Below w.heap.size w (set6 (W3.setCell ⟨w.heap.size+2,2,none⟩ (.int .i64 2)) (w.heap.size+1) (.int .i64 qt) (.int .i64 qt) (.int .i64 2) (.int .i64 0) (.int .u32 0) (.slice none 0 0))):=below_set6 (HX3.out.setCell (by show w.heap.size≤w.heap.size+2;omega) _) (by omega) _ _ _ _ _ _
  go_enter Tryz.func302,Tryz.ntmps302
  go_upto_region 2 with fail
  rw [← HW3.out]
  go_wp2
  change bodyPost _ _ _ _ _ (set6 (W3.setCell ⟨w.heap.size+2,2,none⟩ (.int .i64 2)) (w.heap.size+1) (.int .i64 qt) (.int .i64 qt) (.int .i64 2) (.int .i64 0) (.int .u32 0) (.slice none 0 0))
  refine bodyPost_ret (results_pieceOf (by rfl) HG.out) rfl ?_
  exact ⟨by rw [HV.out];rfl,HB.out⟩
 ·have HV:Hid (pieceV lk ⟨qt,qf,qb⟩ (ba,bl,bc)=((⟨qt,qt,1⟩,⟨qt,qf,qb⟩),(ba,bl,bc))):=by
   (show _=_)
   unfold pieceV hitB
   rw [if_pos (by simp [hh])]
  have hne:((bits .and .u32 qf lk) != 0)=true:=by rw [bne_iff_ne];exact hh
  have HG:Hid (Bk (set6 W3 (w.heap.size+1) (.int .i64 qt) (.int .i64 qt) (.int .i64 1) (.int .i64 qt) (.int .u32 qf) (.slice ba bl bc)) (w.heap.size+1) #[.int .i64 qt,.int .i64 qt,.int .i64 1,.int .i64 qt,.int .u32 qf,.slice ba bl bc] 400):=HP3.out.set6 _ _ _ _ _ _
  have HB:Hid (Below w.heap.size w (set6 W3 (w.heap.size+1) (.int .i64 qt) (.int .i64 qt) (.int .i64 1) (.int .i64 qt) (.int .u32 qf) (.slice ba bl bc))):=below_set6 HX3.out (by omega) _ _ _ _ _ _
  clear hh
  go_enter Tryz.func302,Tryz.ntmps302
  go_upto_region 2 with fail
  rw [← HW3.out]
  go_wp2
  change bodyPost _ _ _ _ _ (set6 W3 (w.heap.size+1) (.int .i64 qt) (.int .i64 qt) (.int .i64 1) (.int .i64 qt) (.int .u32 qf) (.slice ba bl bc))
  refine bodyPost_ret (results_pieceOf (by rfl) HG.out) rfl ?_
  exact ⟨by rw [HV.out];rfl,HB.out⟩
theorem RightP_each:∀ {A:List Pce} {p:Sp},RightP p A→∀ c∈A,p.to<c.1.fr∧c.1.fr≤c.1.to∧c.1.to≤1099511627776∧1≤c.1.is∧c.1.is≤3∧(c.1.is=1→c.1.to=c.1.fr∧c.2.tick=c.1.fr)∧(c.1.is≠1→c.2=zIt)
 | x :: A,p,⟨a1,a2,a3,a4,a5,a6,a7,a8,a9⟩,c,hc=>by
  rcases List.mem_cons.1 hc with rfl | hc
  ·exact ⟨a1,a2,a3,a4,a5,a7,a8⟩
  ·have:=RightP_each a9 c hc
   exact ⟨by omega,this.2⟩
structure PUp (L:List Sp) (X:List It) (lk f t:Int) (P:List Pce) (e:Int):Prop where
 right:RightP Sp.zr P
 last:(lastP Sp.zr P).to≤e
 k:∀ u,kP P u=if f≤u∧u≤t∧u≤e then seeK L X lk u else 0
 i:∀ u,iP P u=if f≤u∧u≤t∧u≤e then seeI X lk u else zIt
theorem PUp.start (L:List Sp) (X:List It) (lk t:Int) {f:Int} (hf:1≤f):PUp L X lk f t [] 0:=⟨trivial,Int.le_refl _,fun u=>(if_neg (by omega)).symm,fun u=>(if_neg (by omega)).symm⟩
theorem PUp.lay {L:List Sp} {X:List It} {lk f t:Int} {P P':List Pce} {e:Int} (h:PUp L X lk f t P e) {c:Pce} (hw:Well c) (h1:e<c.1.fr) (h2:f≤c.1.fr) (h3:c.1.to≤t) (hg:∀ u,e<u→u<c.1.fr→f≤u→u≤t→seeK L X lk u=0∧seeI X lk u=zIt) (hin:∀ u,c.1.fr≤u→u≤c.1.to→seeK L X lk u=c.1.is∧seeI X lk u=c.2) (hl:layP P c P'):PUp L X lk f t P' c.1.to:=by
 obtain ⟨r1,r2,r3,r4⟩:=layP_ok h.right hw (by have:=h.last;omega) hl
 have hwa:=hw.wa
 refine ⟨r1,by omega,fun u => ?_,fun u => ?_⟩
 ·rw [r3 u,h.k u]
  by_cases hu:c.1.fr≤u∧u≤c.1.to
  ·rw [if_pos hu,if_pos (by omega),(hin u hu.1 hu.2).1]
  ·rw [if_neg hu]
   by_cases h4:f≤u∧u≤t∧u≤e
   ·rw [if_pos h4,if_pos (by omega)]
   ·rw [if_neg h4]
    by_cases h5:f≤u∧u≤t∧u≤c.1.to
    ·rw [if_pos h5,(hg u (by omega) (by omega) h5.1 h5.2.1).1]
    ·rw [if_neg h5]
 ·rw [r4 u,h.i u]
  by_cases hu:c.1.fr≤u∧u≤c.1.to
  ·rw [if_pos hu,if_pos (by omega),(hin u hu.1 hu.2).2]
  ·rw [if_neg hu]
   by_cases h4:f≤u∧u≤t∧u≤e
   ·rw [if_pos h4,if_pos (by omega)]
   ·rw [if_neg h4]
    by_cases h5:f≤u∧u≤t∧u≤c.1.to
    ·rw [if_pos h5,(hg u (by omega) (by omega) h5.1 h5.2.1).2]
    ·rw [if_neg h5]
theorem PUp.end_ {L:List Sp} {X:List It} {lk f t:Int} {P:List Pce} {e:Int} (h:PUp L X lk f t P e) (hg:∀ u,e<u→f≤u→u≤t→seeK L X lk u=0∧seeI X lk u=zIt):PiecesOf L X lk f t P:=by
 refine ⟨h.right,fun u => ?_,fun u => ?_⟩
 ·rw [h.k u]
  by_cases h4:f≤u∧u≤t
  ·rw [if_pos h4]
   by_cases h5:u≤e
   ·rw [if_pos ⟨h4.1,h4.2,h5⟩]
   ·rw [if_neg (by omega),(hg u (by omega) h4.1 h4.2).1]
  ·rw [if_neg h4,if_neg (by omega)]
 ·rw [h.i u]
  by_cases h4:f≤u∧u≤t
  ·rw [if_pos h4]
   by_cases h5:u≤e
   ·rw [if_pos ⟨h4.1,h4.2,h5⟩]
   ·rw [if_neg (by omega),(hg u (by omega) h4.1 h4.2).2]
  ·rw [if_neg h4,if_neg (by omega)]
theorem see_of {L:List Sp} {X:List It} {lk u:Int}:(kk L X u=0→seeK L X lk u=0∧seeI X lk u=zIt)∧(kk L X u≠1→seeK L X lk u=kk L X u∧seeI X lk u=zIt)∧(∀ q,getI X u=some q→seeK L X lk u=(if hitB lk q=true then 1 else 2)∧seeI X lk u=(if hitB lk q=true then q else zIt)):=by
 unfold kk seeK seeI
 cases hg:getI X u with
 | none=>exact ⟨fun h=>⟨h,rfl⟩,fun _=>⟨rfl,rfl⟩,fun q hq=>(by cases hq)⟩
 | some q=>exact ⟨fun h=>(by cases h),fun h=>absurd rfl h,fun r hr=>by cases hr;exact ⟨rfl,rfl⟩⟩
theorem pieceV_well {lk:Int} {q:It} {b:Bd} (ht:q.tick≤1099511627776):Well (pieceV lk q b).1:=by
 unfold pieceV
 split
 ·exact ⟨Int.le_refl _,ht,⟨(by decide:(1:Int)≤1),(by decide:(1:Int)≤3)⟩,fun _=>⟨rfl,rfl⟩,fun h=>absurd rfl h⟩
 ·exact ⟨Int.le_refl _,ht,⟨(by decide:(1:Int)≤2),(by decide:(2:Int)≤3)⟩,fun h=>(by have:(2:Int)=1:=h;cases this),fun _=>rfl⟩
theorem pieceV_at {lk:Int} {q:It} {b:Bd}:(pieceV lk q b).1.1.fr=q.tick∧(pieceV lk q b).1.1.to=q.tick∧(pieceV lk q b).1.1.is=(if hitB lk q=true then 1 else 2)∧(pieceV lk q b).1.2=(if hitB lk q=true then q else zIt)∧((pieceV lk q b).1.1.is=1→pieceV lk q b=((⟨q.tick,q.tick,1⟩,q),b)):=by
 unfold pieceV
 split
 ·exact ⟨rfl,rfl,rfl,rfl,fun _=>rfl⟩
 ·exact ⟨rfl,rfl,rfl,rfl,fun h=>(by have:(2:Int)=1:=h;cases this)⟩
def BodsOk (w:World) (P:List Pb):Prop:=∀ x∈P,x.1.1.is=1→x.2.2.1=x.1.2.body.length∧x.1.2.body.length≤400∧Rd w x.2.1 x.2.2.1 x.1.2.body∧(0≤x.1.2.for_∧x.1.2.for_≤4294967295)
end
section
set_option maxRecDepth 100000
open Go.RowKit
variable {Z:Nat→Prop}
theorem Ros.under {w:World} {base:Nat} {v:Value} {R:List (It×Bd)} (h:Ros Z w base v R) (g i:Nat) (u:Value) (hg:g<base) (hn:¬ HasInt w g):Ros Z (w.setCell ⟨g,i,none⟩ u) base v R:=by
 refine ⟨ownsRow_setCell_below h.row hg u,fun x hx=>(h.bod x hx).frame (by rw [World.size_setCell];exact Nat.le_refl _) fun k _ _ hi=>heap_setCell_other w ⟨g,i,none⟩ k _ (by rintro rfl;exact hn hi),h.each⟩
end
section
set_option maxRecDepth 100000
open Go.RowKit
variable {Z:Nat→Prop}
theorem BdT.typed {w w':World} {b:Bd} {bs:List Nat} (h:BdT Z w b bs) (hs:w.heap.size≤w'.heap.size) (hk:∀ (k:Nat) cs m,w.heap[k]? = some (Obj.cells cs 5 m)→w'.heap[k]? = w.heap[k]?):BdT Z w' b bs:=by
 have e:∀ ad,b.1=some ad→w'.heap[ad.block]? = w.heap[ad.block]?:=fun ad ha=>let ⟨cs,m,hc⟩:=h.ty ad ha;hk _ cs m hc
 refine ⟨h.rd.frame hs fun ad ha _=>e ad ha,h.nil_,h.lc,h.cm,h.z,fun ad ha => ?_,fun ad ha => ?_⟩
 ·obtain ⟨cs,m,hc⟩:=h.ty ad ha
  exact ⟨cs,m,(e ad ha).trans hc⟩
 ·obtain ⟨cs,hc⟩:=h.open_ ad ha
  exact ⟨cs,(e ad ha).trans hc⟩
end
end Go.Proofs.YtoiennkfdjnkbaaGreatDoor
