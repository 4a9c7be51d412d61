import Derived.Test.YtoiennkfdjnkbaaGreatDoorTl6
import Derived.Test.YtoiennkfdjnkbaaGreatDoorPk28
import Derived.Test.YtoiennkfdjnkbaaGreatDoorPk13
import Derived.Test.YtoiennkfdjnkbaaGreatDoorPk21
import Derived.Test.YtoiennkfdjnkbaaGreatDoorPk22
import Derived.Test.YtoiennkfdjnkbaaGreatDoorPk11
import Derived.Test.YtoiennkfdjnkbaaGreatDoorSn2
import Derived.Test.YtoiennkfdjnkbaaGreatDoorPk31
import Derived.Test.YtoiennkfdjnkbaaGreatDoorSm4
import Derived.Deep.RegionHeld3
set_option maxRecDepth 100000
set_option maxHeartbeats 8000000
namespace Go.Proofs.YtoiennkfdjnkbaaGreatDoor
section
set_option maxRecDepth 100000
open Go.RowKit
variable {Z:Nat→Prop}
def mayT (pub f t:Int):Prop:=(0≤pub∧pub≤2)∧1≤f∧f≤t∧t≤1099511627776
def TellTold (Z:Nat→Prop) (L:List Sp) (X:List It) (lk pub f t:Int) (w:World) (e:Ending) (w':World):Prop:=(∃ va vn vc l P,e=.returned (.tuple #[.slice va vn vc,.int .i64 0])∧Tells Z w' w.heap.size (.slice va vn vc) l∧PiecesOf L X lk f t P∧l.map Pa.p=tellsOf pub f t P)∧Below w.heap.size w w'
theorem st_Tell {w:World} {s m:Nat} {L:List Sp} {X:List It} (h:Imp Z w s m L X) {pub f t lk:Int} (hm:mayT pub f t) :
  Calls Tryz.prog 193 #[.pointer (some ⟨s,0,none⟩),.int .i64 pub,.int .i64 f,.int .i64 t,.int .u32 lk] w fun e w'=>TellTold (fun k=>w.heap.size≤k) L X lk pub f t w e w':=by
 obtain ⟨l,⟨a,n,c,Y,hs⟩,hl⟩:=h
 have HPC:Hid (Calls Tryz.prog 252 #[.pointer (some ⟨s,0,none⟩),.int .i64 f,.int .i64 t,.int .u32 lk] w fun e w'=>PiecesTold L X lk f t w e w'):=st_pieces hs hl hm.2
 obtain ⟨POST,HPO⟩:∃ P:Ending→World→Prop,Hid (P=fun e w'=>TellTold (fun k=>w.heap.size≤k) L X lk pub f t w e w'):=⟨_,rfl⟩
 have hpost:(fun e w'=>TellTold (fun k=>w.heap.size≤k) L X lk pub f t w e w')=fun e w'=>POST e w':=HPO.out.symm
 rw [hpost]
 obtain ⟨⟨m1,m2⟩,m3,m4,m5⟩:=hm
 have g1:¬ pub<0:=by omega
 have g2:¬ (3:Int)≤pub:=by omega
 have g3:¬ f<1:=by omega
 have g4:¬ t<f:=by omega
 have g5:¬ (1099511627776:Int)<t:=by omega
 clear hpost hs hl
 go_enter Tryz.func193,Tryz.ntmps193
 go_wp2_with fail
 refine HPC.out.mono ?_
 rintro e w1 ⟨⟨pa,pn,pc,P,rfl,hp,hpo,hbo⟩,hb⟩
 have HPW:Hid (Pcw w1 w.heap.size (.slice pa pn pc) P):=hp
 have HPI:Hid (PiecesOf L X lk f t (P.map Prod.fst)):=hpo
 have HBO:Hid (BodsOk w1 P):=fun x hx h1=>(let ⟨a1,a2,a3,a4⟩:=hbo x hx h1;⟨a1,a2,a3.below hb,a4⟩)
 have HB1:Hid (Below w.heap.size w w1):=hb
 have HPL:Hid (P.length=pn):=by
  obtain ⟨a',c',hv,_⟩:=hp.form
  simp only [Value.slice.injEq] at hv
  exact hv.2.1.symm
 clear hp hpo hbo hb
 by_cases h0:pn=0
 ·have HN:Hid (P=[]):=by
   have h1:=HPL.out
   rw [h0] at h1
   exact List.eq_nil_of_length_eq_zero h1
  subst h0
  go_wp2
  rw [HPO.out]
  exact ⟨⟨none,0,0,[],P.map Prod.fst,rfl,⟨⟨rfl,.inl ⟨rfl,rfl⟩⟩,fun x hx=>(by cases hx)⟩,HPI.out,by rw [HN.out];rfl⟩,HB1.out⟩
 ·have h0':¬ (pn:Int)=0:=by omega
  have k0:((pn:Int) == 0)=false:=by rw [beq_eq_false_iff_ne];exact h0'
  have HNN:Hid (P≠[]):=fun e=>by
   have h1:=HPL.out
   rw [e] at h1
   exact h0 h1.symm
  have HCU:Hid (Calls Tryz.prog 253 #[.slice pa pn pc,.agg #[.int .i64 1,.int .i64 pub,.int .i64 0,.int .i64 0,.int .i64 f,.int .i64 t,.slice none 0 0,.slice none 0 0]] w1 fun e w'=>(∃ va vn vc l,e=.returned (.slice va vn vc)∧Tells (fun k=>w.heap.size≤k) w' w1.heap.size (.slice va vn vc) l∧l.map Pa.p=cutP pub t (P.map Prod.fst) ⟨1,pub,0,0,f,t,[],[]⟩)∧Below w1.heap.size w1 w'):=st_cut HPW.out HPI.out.right HBO.out (fun k hk=>Nat.le_trans HB1.out.size hk)
  clear h0 h0'
  go_wp2_with fail
  refine HCU.out.mono ?_
  rintro e w2 ⟨⟨va,vn,vc,l2,rfl,ht,hm⟩,hb2⟩
  have HT:Hid (Tells (fun k=>w.heap.size≤k) w2 w1.heap.size (.slice va vn vc) l2):=ht
  have HM:Hid (l2.map Pa.p=cutP pub t (P.map Prod.fst) ⟨1,pub,0,0,f,t,[],[]⟩):=hm
  have HB2:Hid (Below w.heap.size w w2):=HB1.out.trans (hb2.mono HB1.out.size)
  clear ht hm hb2
  go_wp2
  rw [HPO.out]
  refine ⟨⟨va,vn,vc,l2,P.map Prod.fst,rfl,HT.out.lower HB1.out.size,HPI.out,?_⟩,HB2.out⟩
  rw [HM.out]
  cases P with
  | nil=>exact absurd rfl HNN.out
  | cons x P=>rfl
theorem st_Tell_bad (w:World) (s:Nat) {pub f t lk:Int} (hm:¬ mayT pub f t):Calls Tryz.prog 193 #[.pointer (some ⟨s,0,none⟩),.int .i64 pub,.int .i64 f,.int .i64 t,.int .u32 lk] w fun e w'=>e=.returned (.tuple #[.slice none 0 0,.int .i64 2])∧Below w.heap.size w w':=by
 by_cases h1:pub<0
 ·clear hm
  go_enter Tryz.func193,Tryz.ntmps193
  go_wp2
  go_returns
  exact ⟨rfl,Below.refl _ _⟩
 ·by_cases h2:(3:Int)≤pub
  ·clear hm
   go_enter Tryz.func193,Tryz.ntmps193
   go_wp2
   go_returns
   exact ⟨rfl,Below.refl _ _⟩
  ·by_cases h3:f<1
   ·clear hm
    go_enter Tryz.func193,Tryz.ntmps193
    go_wp2
    go_returns
    exact ⟨rfl,Below.refl _ _⟩
   ·by_cases h4:t<f
    ·clear hm
     go_enter Tryz.func193,Tryz.ntmps193
     go_wp2
     go_returns
     exact ⟨rfl,Below.refl _ _⟩
    ·have h5:(1099511627776:Int)<t:=by unfold mayT at hm;omega
     clear hm
     go_enter Tryz.func193,Tryz.ntmps193
     go_wp2
     go_returns
     exact ⟨rfl,Below.refl _ _⟩
end
section
open Go.RowKit
theorem part_len (s:Sp) (f t:Int):(partS s f t).length≤1:=by
 by_cases h:min s.to t<max s.fr f
 ·rw [partS_none h];simp
 ·rw [partS_some h];simp
theorem gaps_len:∀ (l:List Sp) (z f t:Int),(gapsS z l f t).length≤l.length+1
 | [],z,f,t=>by rw [gapsS];have:=part_len ⟨z,1099511627776,0⟩ f t;simpa using this
 | s :: l,z,f,t=>by
  rw [gapsS,List.length_append,List.length_cons]
  have h1:=part_len ⟨z,s.fr - 1,0⟩ f t
  have h2:=gaps_len l (s.to+1) f t
  omega
theorem span_Gaps (a:Option Addr) (n cap:Nat) (l:List Sp) (f t:Int) (w:World) (hr:SpsRd w a n l) (hc:n≤cap) (hcm:cap≤maxLen) :
  Calls Tryz.prog 168 #[.slice a n cap,.int .i64 f,.int .i64 t] w fun e w'=>Hid (RangeTold w' w.heap.size (rightB Sp.zr l && mayB f t) (gapsS 1 l f t) e)∧Below w.heap.size w w':=by
 have HR:Hid (SpsRd w a n l):=hr
 have HC:Hid (n≤cap∧cap≤maxLen):=⟨hc,hcm⟩
 have hn:n≤2 ^ 63 - 1:=Nat.le_trans hc hcm
 clear hr hc hcm
 go_enter Tryz.func168,Tryz.ntmps168
 go_wp2_with fail
 refine (span_Right a n cap l w HR.out (Nat.le_trans HC.out.1 HC.out.2)).mono ?_
 rintro e w1 ⟨rfl,hb1⟩
 have HB1:Hid (Below w.heap.size w w1):=hb1
 clear hb1
 cases hrl:rightB Sp.zr l with
 | false =>
  have HOK:Hid ((rightB Sp.zr l && mayB f t)=false):=by show _=_;rw [hrl];rfl
  clear hrl
  go_wp2
  go_returns
  exact ⟨.inl ⟨HOK.out,rfl⟩,HB1.out⟩
 | true =>
  have HRS:Hid (RightS Sp.zr l):=(rightB_iff _ _).1 hrl
  go_wp2_with fail
  refine (span_mayBe f t w1).mono ?_
  rintro e w2 ⟨rfl,rfl⟩
  cases hmb:mayB f t with
  | false =>
   have HOK:Hid ((rightB Sp.zr l && mayB f t)=false):=by show _=_;rw [hrl,hmb];rfl
   clear hmb hrl
   go_wp2
   go_returns
   exact ⟨.inl ⟨HOK.out,rfl⟩,HB1.out⟩
  | true =>
   have HOK:Hid ((rightB Sp.zr l && mayB f t)=true):=by show _=_;rw [hrl,hmb];rfl
   have HMB:Hid (1≤f∧f≤t∧t≤1099511627776):=(mayB_iff _ _).1 hmb
   obtain ⟨hm1,hm2,hm3⟩:=HMB.out
   have HSH:Hid ((gapsS 1 l f t).length≤1099511627777):=by
    have h1:=gaps_len l 1 f t
    have h2:=right_short HRS.out
    show _≤_
    omega
   have HFIT:Hid (∀ q∈l,1≤q.fr∧q.fr≤1099511627776∧q.fr≤q.to∧q.to≤1099511627776∧1≤q.is∧q.is≤3):=RightS_fits l Sp.zr (by decide) HRS.out
   clear hmb hrl
   go_wp2
   go_loopw [8,9,23] (fun t8 t9 t23 wr=>∃ (k:Nat) (av:Option Addr) (nv cv:Nat) (out:List Sp) (z:Int),k≤n∧t23=.int .i64 (k:Int)∧t9=.int .i64 z∧t8=.slice av nv cv∧Hid (Sps wr w.heap.size (.slice av nv cv) out)∧Hid (out++gapsS z (l.drop k) f t=gapsS 1 l f t)∧Hid (Below w.heap.size w wr)) (fun _ _ t23 _=>n - (intOf t23).toNat)
   case atStart=>exact ⟨0,none,0,0,[],1,by omega,rfl,rfl,rfl,Sps.nil_ _ _,rfl,HB1⟩
   case round =>
    obtain ⟨k,av,nv,cv,out,z,hk,rfl,rfl,rfl,HV,HE,HB⟩:=hrel
    have HSZ:Hid (out.length≤2000000000000):=by
     show _≤_
     have h1:=HSH.out
     rw [← HE.out,List.length_append] at h1
     omega
    by_cases hlt:k<n
    ·have hlt':(k:Int)<(n:Int):=by omega
     obtain ⟨g,o,rfl,hg,q,hq,c0,c1,c2⟩:=(HR.out.below HB.out).at_ k hlt
     have HD:Hid (l.drop k=q :: l.drop (k+1)):=drop_at hq
     have hfit:=HFIT.out q (List.mem_of_getElem? hq)
     clear hq hg
     obtain ⟨qf,qt,qi⟩:=q
     simp only at c0 c1 c2 hfit
     obtain ⟨f1,f2,f3,f4,_,_⟩:=hfit
     have HB3:Hid (Below wr.heap.size wr (wr.alloc (.cells #[.int .i64 qf,.int .i64 qt,.int .i64 qi] 186))):=below_new _ _
     go_wp2_with fail
     refine (span_layPart w.heap.size (.slice av nv cv) out z (qf - 1) 0 f t _ (HV.out.below HB3.out) (Nat.le_trans HB.out.size HB3.out.size) HSZ.out).mono ?_
     rintro e w4 ⟨⟨v',rfl,HV'⟩,hb4⟩
     have HB4:Hid (Below w.heap.size w w4):=(HB.out.trans (HB3.out.mono HB.out.size)).trans ((HV.out.below HB3.out).grown (Nat.le_trans HB.out.size HB3.out.size) hb4)
     have HN4:Hid (Bk w4 wr.heap.size #[.int .i64 qf,.int .i64 qt,.int .i64 qi] 186):=by
      refine (Bk.new wr #[.int .i64 qf,.int .i64 qt,.int .i64 qi] 186).grown hb4 (fun e => ?_)
      have h1:=(HV.out.row.lt _ e.symm).2
      omega
     have HE2:Hid (out++partS ⟨z,qf - 1,0⟩ f t++gapsS (qt+1) (l.drop (k+1)) f t=gapsS 1 l f t):=by
      show _=_
      rw [← HE.out,HD.out,gapsS,List.append_assoc]
     obtain ⟨out2,ho2⟩:∃ o,o=out++partS ⟨z,qf - 1,0⟩ f t:=⟨_,rfl⟩
     rw [← ho2] at HV' HE2
     clear ho2
     obtain ⟨av',cv',rfl,_⟩:=HV'.out.form
     have d1:w4.cell? ⟨wr.heap.size,1,none⟩=some (.int .i64 qt):=HN4.out.cell 1 rfl
     clear hb4 c0 c1 c2 HE HB3
     go_wp2
     go_roundw
     case rel=>exact ⟨k+1,av',_,cv',_,qt+1,by omega,by go_num,by go_num,rfl,HV',HE2,HB4⟩
     case measure=>simp [intOf];omega
    ·have hnl:¬ (k:Int)<(n:Int):=by omega
     have HX:Hid (out++partS ⟨z,1099511627776,0⟩ f t=gapsS 1 l f t):=by
      have h1:=HE.out
      rw [List.drop_of_length_le (by rw [HR.out.size];omega),gapsS] at h1
      exact h1
     clear HE
     go_wp2_with fail
     refine (span_layPart w.heap.size (.slice av nv cv) out z 1099511627776 0 f t wr HV.out HB.out.size HSZ.out).mono ?_
     rintro e w4 ⟨⟨v',rfl,HV'⟩,hb4⟩
     have HB4:Hid (Below w.heap.size w w4):=HB.out.trans (HV.out.grown HB.out.size hb4)
     rw [HX.out] at HV'
     clear hb4
     go_wp2
     go_returns
     exact ⟨.inr ⟨HOK.out,_,rfl,HV'.out⟩,HB4.out⟩
end
section
open Go.RowKit
def parC (s mr:Nat) (own:Int) (lg mm:Value):List Value:=[.int .i64 0,.pointer (some ⟨s,0,none⟩),.slice none 0 0,.slice none 0 0,.map (some mr),.int .u32 own,lg,mm,.int .i64 0]
theorem br_isHome (q s mr gl:Nat) (own:Int) (mm:Value) (w:World) (h:Row1 w q 100 (parC s mr own (.pointer (some ⟨gl,0,none⟩)) mm)):Calls Tryz.prog 84 #[.pointer (some ⟨q,0,none⟩)] w fun e w'=>e=.returned (.bool true)∧w'=w:=by
 have c6:w.cell? ⟨q,6,none⟩=some (.pointer (some ⟨gl,0,none⟩)):=h.cell 6 rfl
 clear h
 go_enter Tryz.func84,Tryz.ntmps84
 go_wp2
 go_returns
 exact ⟨rfl,rfl⟩
theorem br_reached (q s mr gl:Nat) (own:Int) (mm:Value) (g gc b m ag hi rel:Nat) (uv rv:Value) (w:World) (h:Row1 w q 100 (parC s mr own (.pointer (some ⟨gl,0,none⟩)) mm)) (hl:Lc w gl g gc b m ag uv hi rel rv):Calls Tryz.prog 35 #[.pointer (some ⟨q,0,none⟩)] w fun e w'=>e=.returned (.int .i64 (hi:Int))∧Below w.heap.size w w':=by
 have HR:Hid (Row1 w q 100 (parC s mr own (.pointer (some ⟨gl,0,none⟩)) mm)):=h
 have HL:Hid (Lc w gl g gc b m ag uv hi rel rv):=hl
 have c6:w.cell? ⟨q,6,none⟩=some (.pointer (some ⟨gl,0,none⟩)):=h.cell 6 rfl
 have c8:w.cell? ⟨q,8,none⟩=some (.int .i64 0):=h.cell 8 rfl
 have HC:Hid (∀ n,Calls Tryz.prog 52 #[.pointer (some ⟨gl,0,none⟩)] (w.drewN n) fun e w'=>e=.returned (.int .i64 (hi:Int))∧w'=w.drewN n):=fun n=>evl_High _ gl g gc b m ag hi rel uv rv (HL.out.stay (below_drewN (Below.refl _ _) n))
 have hm1:max (0:Int) (hi:Int)=(hi:Int):=by omega
 have hm2:¬ (hi:Int)<0:=by omega
 clear h hl
 go_enter Tryz.func35,Tryz.ntmps35
 go_wp2_with fail
 go_quiet (first | (go_at_call 52;exact Calls.quiet_of_same (HC.out _)))
 generalize hnq:w.drewN _=wN
 have HBN:Hid (Below w.heap.size w wN):=by (show Below _ _ _);rw [← hnq];exact below_drewN (Below.refl _ _) _
 clear hnq c6 c8
 go_wp2
 go_returns
 exact ⟨rfl,HBN.out⟩
theorem lost0:Lost [] 0 []:=⟨trivial,fun u=>by unfold loseK;rw [if_neg (by omega)]⟩
theorem Imp.of_new {Z:Nat→Prop} {w:World} {s m:Nat} (h:Stm Z w s m none 0 0 [] []):Imp Z w s m [] []:=by
 exact ⟨[],⟨none,0,0,[],h,fun t=>rfl,fun t=>⟨fun e=>(by cases e),fun e=>(by cases e)⟩⟩,fun t=>rfl⟩
theorem br_known0 (gb q s mr gl:Nat) (own:Int) (mm:Value) (base g gs:Nat) (wv:Value) (D:Dk) (gc b m ag:Nat) (U:List Sg) (uv rv:Value) (w:World) (h:Row1 w q 100 (parC s mr own (.pointer (some ⟨gl,0,none⟩)) mm)) (hl:Lg w base g gs wv D gl gc b m ag U uv 0 0 [] rv):Calls Tryz.prog 192 #[.pointer (some ⟨gb,0,none⟩),.pointer (some ⟨q,0,none⟩),.int .i64 1,.int .i64 0] w fun e w'=>(∃ s' m',e=.returned (.pointer (some ⟨s',0,none⟩))∧Imp (fun k=>w.heap.size≤k) w' s' m' [] [])∧Below w.heap.size w w':=by
 have HR:Hid (Row1 w q 100 (parC s mr own (.pointer (some ⟨gl,0,none⟩)) mm)):=h
 have HL:Hid (Lg w base g gs wv D gl gc b m ag U uv 0 0 [] rv):=hl
 have HIH:=br_isHome q s mr gl own mm w h
 have HNW:=st_New (Z:=fun k=>w.heap.size≤k) w (fun k hk=>hk)
 clear h hl
 go_enter Tryz.func192,Tryz.ntmps192
 go_wp2_with fail
 refine HIH.mono ?_
 rintro e w0 ⟨rfl,hw⟩
 rw [hw]
 clear hw w0 HIH
 go_wp2_with fail
 refine HNW.mono ?_
 rintro e w1 ⟨s1,m1,rfl,hs1,hlo,hb1⟩
 have HB1:Hid (Below w.heap.size w w1):=hb1
 have HI1:Hid (Imp (fun k=>w.heap.size≤k) w1 s1 m1 [] []):=Imp.of_new hs1
 have HSM:Hid (w.heap.size≤s1∧w.heap.size≤m1):=hlo
 have HR1:Hid (Row1 w1 q 100 (parC s mr own (.pointer (some ⟨gl,0,none⟩)) mm)):=HR.out.stay hb1
 have HL1:Hid (Lg w1 base g gs wv D gl gc b m ag U uv 0 0 [] rv):=HL.out.below hb1
 clear hs1 hlo hb1 HNW
 have c6:w1.cell? ⟨q,6,none⟩=some (.pointer (some ⟨gl,0,none⟩)):=HR1.out.cell 6 rfl
 have HRL:=evl_Rel w1 gl g gc b m ag 0 0 uv rv HL1.out.log
 have HLS:=st_Lose HI1.out Kn.nil_ (by decide) (t:=0) (by omega) lost0
 go_wp2_with fail
 refine HRL.mono ?_
 rintro e w0 ⟨rfl,hw⟩
 rw [hw]
 clear hw w0 HRL
 go_wp2_with fail
 refine HLS.mono ?_
 rintro e w2 ⟨rfl,hi2,ht2⟩
 have HI2:Hid (Imp (fun k=>w.heap.size≤k) w2 s1 m1 [] []):=hi2
 have HB2:Hid (Below w.heap.size w w2):=Two.below HB1.out ht2 HSM.out.1 HSM.out.2 HB1.out.size
 have HR2:Hid (Row1 w2 q 100 (parC s mr own (.pointer (some ⟨gl,0,none⟩)) mm)):=HR.out.stay HB2.out
 have HL2:Hid (Lg w2 base g gs wv D gl gc b m ag U uv 0 0 [] rv):=HL.out.below HB2.out
 clear hi2 ht2 HLS c6
 have c6:w2.cell? ⟨q,6,none⟩=some (.pointer (some ⟨gl,0,none⟩)):=HR2.out.cell 6 rfl
 have HRL:=evl_Rel w2 gl g gc b m ag 0 0 uv rv HL2.out.log
 have HRC:=br_reached q s mr gl own mm g gc b m ag 0 0 uv rv w2 HR2.out HL2.out.log
 go_wp2_with fail
 refine HRL.mono ?_
 rintro e w0 ⟨rfl,hw⟩
 rw [hw]
 clear hw w0 HRL
 go_wp2_with fail
 refine HRC.mono ?_
 rintro e w3 ⟨rfl,hb3⟩
 have HI3:Hid (Imp (fun k=>w.heap.size≤k) w3 s1 m1 [] []):=HI2.out.stay hb3
 have HB3:Hid (Below w.heap.size w w3):=HB2.out.trans (hb3.mono HB2.out.size)
 have HL3:Hid (Lg w3 base g gs wv D gl gc b m ag U uv 0 0 [] rv):=HL.out.below HB3.out
 clear c6 hb3 HRC
 have c6:w3.cell? ⟨q,6,none⟩=some (.pointer (some ⟨gl,0,none⟩)):=(HR.out.stay HB3.out).cell 6 rfl
 have HEV:=evl_Events w3 base gl g gc b m ag 0 0 uv rv [] 1 0 HL3.out.log HL3.out.recs (by decide)
 go_wp2_with fail
 refine HEV.mono ?_
 rintro e w4 ⟨ht4,hb4⟩
 obtain ⟨v4,L4,rfl,hL4,hR4⟩:=ht4.out
 obtain rfl:L4=[]:=by cases L4 with | nil=>rfl | cons x y=>cases hL4
 obtain ⟨a4,c4,hv4⟩:=hR4.val
 subst hv4
 have HI4:Hid (Imp (fun k=>w.heap.size≤k) w4 s1 m1 [] []):=HI3.out.stay hb4
 have HB4:Hid (Below w.heap.size w w4):=HB3.out.trans (hb4.mono HB3.out.size)
 clear ht4 hb4 hL4 hR4 HEV c6
 go_wp2_with fail
 refine wp_loop_rounds 1 ?_
 rw [rounds_succ]
 go_wp2
 go_returns
 exact ⟨⟨s1,m1,rfl,HI4.out⟩,HB4.out⟩
end
section
open Go.RowKit
theorem br_tells0 (gb q s mr gl:Nat) (own:Int) (mm:Value) (base g gs:Nat) (wv:Value) (D:Dk) (gc b m ag:Nat) (U:List Sg) (uv rv:Value) (w:World) (h:Row1 w q 100 (parC s mr own (.pointer (some ⟨gl,0,none⟩)) mm)) (hl:Lg w base g gs wv D gl gc b m ag U uv 0 0 [] rv):Calls Tryz.prog 146 #[.pointer (some ⟨gb,0,none⟩),.pointer (some ⟨q,0,none⟩),.int .i64 1,.int .i64 0,.int .u32 own] w fun e w'=>e=.returned (.slice none 0 0)∧Below w.heap.size w w':=by
 have HR:Hid (Row1 w q 100 (parC s mr own (.pointer (some ⟨gl,0,none⟩)) mm)):=h
 have HBD:Hid (Below w.heap.size w w.drew):=(Below.refl _ _).drew
 have HKN:=br_known0 gb q s mr gl own mm base g gs wv D gc b m ag U uv rv w.drew (h.stay HBD.out) (hl.below HBD.out)
 have s0:w.cell? ⟨q,0,none⟩=some (.int .i64 0):=h.cell 0 rfl
 clear h hl
 go_enter Tryz.func146,Tryz.ntmps146
 go_wp2_with fail
 go_region_held3 (fun w'=>w'.cell? ⟨q,0,none⟩=some (.int .i64 0)) (first | exact s0 | exact s1 | exact s2 | fail)
  (first
   | (go_at_call 192;refine HKN.mono ?_;rintro e w1 ⟨⟨s1_,m1,rfl,hi1⟩,hb1⟩;have HB1:Hid (Below w.heap.size w w1):=HBD.out.trans (hb1.mono HBD.out.size);have s1:w1.cell? ⟨q,0,none⟩=some (.int .i64 0):=(HR.out.stay HB1.out).cell 0 rfl;clear hi1 hb1)
   | (go_at_call 193;refine (st_Tell_bad w1 s1_ (pub:=0) (f:=1) (t:=0) (by unfold mayT;omega)).mono ?_;rintro e w2 ⟨rfl,hb2⟩;have HB2:Hid (Below w.heap.size w w2):=HB1.out.trans (hb2.mono HB1.out.size);have s2:w2.cell? ⟨q,0,none⟩=some (.int .i64 0):=(HR.out.stay HB2.out).cell 0 rfl;clear hb2))
 go_wp2
 go_returns
 exact ⟨rfl,HB2.out⟩
theorem br_learnOwn0 (gb q s mr gl:Nat) (own:Int) (mm:Value) (base g gs:Nat) (wv:Value) (D:Dk) (gc b m ag:Nat) (U:List Sg) (uv rv:Value) (w:World) (h:Row1 w q 100 (parC s mr own (.pointer (some ⟨gl,0,none⟩)) mm)) (hl:Lg w base g gs wv D gl gc b m ag U uv 0 0 [] rv):Calls Tryz.prog 99 #[.pointer (some ⟨gb,0,none⟩),.pointer (some ⟨q,0,none⟩),.int .i64 1,.int .i64 0] w fun e w'=>e=.returned (.tuple #[])∧Below w.heap.size w w':=by
 have HTL:=br_tells0 gb q s mr gl own mm base g gs wv D gc b m ag U uv rv w h hl
 have c5:w.cell? ⟨q,5,none⟩=some (.int .u32 own):=h.cell 5 rfl
 clear h hl
 go_enter Tryz.func99,Tryz.ntmps99
 go_wp2_with fail
 refine HTL.mono ?_
 rintro e w1 ⟨rfl,hb1⟩
 have HB1:Hid (Below w.heap.size w w1):=hb1
 clear hb1 HTL
 go_wp2_with fail
 refine wp_loop_rounds 1 ?_
 rw [rounds_succ]
 go_wp2
 go_returns
 exact ⟨rfl,HB1.out⟩
end
section
open Go.RowKit Go.Shelf Go.Maps
attribute [local go_sem] Oper.semAt_some
theorem br_of (gb gp cp gs cs g:Nat) (age:Int) (ml mp ms:Nat) (w:World) (hb:Row1 w gb 79 (broC gp cp gs cs g age ml mp ms)) :
  Calls Tryz.prog 138 #[.pointer (some ⟨gb,0,none⟩),.int .i64 0] w fun e w'=>e=.returned (.func (.func 136) #[] #[.pointer (some ⟨w.heap.size+1,0,none⟩),.pointer (some ⟨w.heap.size+2,0,none⟩)])∧Row1 w' w.heap.size 3 [.int .i64 0] ∧ Row1 w' (w.heap.size+1) 40 (tpC gp cp gs cs)∧Row1 w' (w.heap.size+2) 152 [.func (.func 186) #[] #[.pointer (some ⟨w.heap.size,0,none⟩)]] ∧ Below w.heap.size w w'∧w'.heap.size=w.heap.size+3:=by
 obtain ⟨W1,HW1⟩:∃ W,Hid (W=w.alloc (.cells #[.int .i64 0] 3)):=⟨_,rfl⟩
 have HB1:Hid (Below w.heap.size w W1):=by (show Below _ _ _);rw [HW1.out];exact below_alloc _ _
 have HK1:Hid (Row1 W1 w.heap.size 3 [.int .i64 0]):=by (show Row1 _ _ _ _);rw [HW1.out];exact Row1.of (Blk.new _ _ _)
 have HS1:Hid (W1.heap.size=w.heap.size+1):=by (show _=_);rw [HW1.out];simp
 obtain ⟨t0,t1,t2,t3,t4⟩:=bro_topo (hb.stay HB1.out)
 have HSB:=br_subs gp cp gs cs 186 (.pointer (some ⟨w.heap.size,0,none⟩)) W1
 unfold tpV at HSB
 clear hb
 go_enter Tryz.func138,Tryz.ntmps138
 go_upto_region 1 with fail
 rw [← HW1.out]
 go_wp2_with fail
 refine HSB.mono ?_
 rintro e W2 ⟨rfl,hr1,hr2,hb2,hs2⟩
 have HF:Hid (Row1 W2 w.heap.size 3 [.int .i64 0] ∧ Row1 W2 (w.heap.size+1) 40 (tpC gp cp gs cs)∧Row1 W2 (w.heap.size+2) 152 [.func (.func 186) #[] #[.pointer (some ⟨w.heap.size,0,none⟩)]] ∧ Below w.heap.size w W2∧W2.heap.size=w.heap.size+3):=by
  rw [HS1.out] at hr1 hr2 hs2
  exact ⟨HK1.out.stay hb2,hr1,hr2,HB1.out.trans (hb2.mono HB1.out.size),hs2⟩
 clear hr1 hr2 hb2 hs2 HSB t0 t1 t2 t3 t4
 go_wp2
 go_returns
 refine ⟨?_,HF.out⟩
 rw [HS1.out]
 rfl
theorem one_of {N bo gs cs gt ct gp cp:Nat} (K:Nat→Prop) {w:World} (k0:K bo) (k1:K (bo+1)) (k2:K (bo+2)) (k3:K gs) (hK:∀ k,K k→k<w.heap.size) (hx:Row1 w bo 3 [.int .i64 0]) (ht:Row1 w (bo+1) 40 (tpC gp cp gs cs)) (hf:Row1 w (bo+2) 152 [.func (.func 186) #[] #[.pointer (some ⟨bo,0,none⟩)]]) (hs:Row1 w gs 36 [.int .i64 0,.int .i64 0,.slice (some ⟨gt,0,none⟩) 1 ct]) (hN:3≤N) :
  SeqStopsK Fence.wide N Tryz.prog 136 #[.pointer (some ⟨bo+1,0,none⟩),.pointer (some ⟨bo+2,0,none⟩)] (encS (fun _=>(0,0,gt,ct)) 1) (Kp K) (fun xs=>xs=asF (fun _=>true) 1 1) (fun pre=>pre <+: asF (fun _=>true) 1 1) 1 w :=
 subs_stops N hN K (bo+1) (bo+2) gs 1 cs (fun _=>(0,0,gt,ct)) 186 (.pointer (some ⟨bo,0,none⟩)) (fun _=>true) w k1 k2 k3 hK (ht.cell 3 rfl) (hf.cell 0 rfl) (by decide) (enters_of Tryz.func186 (by kernel_rfl) rfl)
  (fun j hj=>by
   obtain rfl:j=0:=by omega
   exact ⟨hs.cell 0 rfl,hs.cell 1 rfl,hs.cell 2 rfl⟩)
  (fun j hj W hk=>br_askOf bo 0 0 0 gt ct W (hx.kp hk k0))
theorem one_here {N bo gb gs cs gt ct gp cp g ml mp ms:Nat} {age:Int} (K:Nat→Prop) {w:World} (k0:K bo) (k1:K (bo+1)) (k2:K (bo+2)) (k3:K gs) (k4:K gb) (hK:∀ k,K k→k<w.heap.size) (hb:Row1 w gb 79 (broC gp cp gs cs g age ml mp ms)) (hx:Row1 w bo 27 [.pointer (some ⟨gb,0,none⟩)]) (ht:Row1 w (bo+1) 40 (tpC gp cp gs cs)) (hf:Row1 w (bo+2) 152 [.func (.func 122) #[] #[.pointer (some ⟨bo,0,none⟩)]]) (hs:Row1 w gs 36 [.int .i64 0,.int .i64 0,.slice (some ⟨gt,0,none⟩) 1 ct]) (hN:3≤N) :
  SeqStopsK Fence.wide N Tryz.prog 136 #[.pointer (some ⟨bo+1,0,none⟩),.pointer (some ⟨bo+2,0,none⟩)] (encS (fun _=>(0,0,gt,ct)) 1) (Kp K) (fun xs=>xs=asF (fun _=>true) 1 1) (fun pre=>pre <+: asF (fun _=>true) 1 1) 1 w :=
 subs_stops N hN K (bo+1) (bo+2) gs 1 cs (fun _=>(0,0,gt,ct)) 122 (.pointer (some ⟨bo,0,none⟩)) (fun _=>true) w k1 k2 k3 hK (ht.cell 3 rfl) (hf.cell 0 rfl) (by decide) (enters_of Tryz.func122 (by kernel_rfl) rfl)
  (fun j hj=>by
   obtain rfl:j=0:=by omega
   exact ⟨hs.cell 0 rfl,hs.cell 1 rfl,hs.cell 2 rfl⟩)
  (fun j hj W hk=>br_askHere gb bo gp cp gs cs g age ml mp ms 0 0 gt ct W (hb.kp hk k4) (hx.kp hk k0))
end
end Go.Proofs.YtoiennkfdjnkbaaGreatDoor
