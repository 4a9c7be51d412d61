import Derived.Test.YtoiennkfdjnkbaaGreatDoorPk27
set_option maxRecDepth 100000
set_option maxHeartbeats 8000000
namespace Go.Proofs.YtoiennkfdjnkbaaGreatDoor
section
def partS (s:Sp) (f t:Int):List Sp:=if min s.to t<max s.fr f then [] else [⟨max s.fr f,min s.to t,s.is⟩]
theorem partS_none {s:Sp} {f t:Int} (h:min s.to t<max s.fr f):partS s f t=[]:=if_pos h
theorem partS_some {s:Sp} {f t:Int} (h:¬ min s.to t<max s.fr f):partS s f t=[⟨max s.fr f,min s.to t,s.is⟩]:=if_neg h
def keepS:List Sp→Int→Int→List Sp
 | [],_,_=>[]
 | s :: l,f,t=>partS s f t++keepS l f t
def forgetS:List Sp→Int→Int→List Sp
 | [],_,_=>[]
 | s :: l,f,t=>partS s 1 (f - 1)++(partS s (t+1) 1099511627776++forgetS l f t)
def gapsS:Int→List Sp→Int→Int→List Sp
 | z,[],f,t=>partS ⟨z,1099511627776,0⟩ f t
 | z,s :: l,f,t=>partS ⟨z,s.fr - 1,0⟩ f t++gapsS (s.to+1) l f t
theorem keep_right:∀ (l:List Sp) (p p':Sp) (f t:Int),RightS p l→p'.to≤p.to→(p'.to=p.to→p'.is=p.is)→RightS p' (keepS l f t)
 | [],_,_,_,_,_,_,_=>trivial
 | s :: l,p,p',f,t,⟨h1,h2,h3,h4,h5,h6,h7⟩,a,b=>by
  rw [keepS]
  by_cases h:min s.to t<max s.fr f
  ·rw [partS_none h]
   exact keep_right l s p' f t h7 (by omega) (fun e=>by omega)
  ·rw [partS_some h]
   refine ⟨by simp only;omega,by simp only;omega,by simp only;omega,h4,h5,?_,keep_right l s _ f t h7 (by simp only;omega) (fun _=>rfl)⟩
   rintro ⟨e1,e2⟩
   simp only at e1 e2
   have:p'.to=p.to:=by omega
   exact h6 ⟨by omega,by rw [e2,b this]⟩
theorem keep_at:∀ (l:List Sp) (f t u:Int),atS (keepS l f t) u=if f≤u∧u≤t then atS l u else 0
 | [],f,t,u=>by simp [keepS,atS]
 | s :: l,f,t,u=>by
  rw [keepS]
  by_cases h:min s.to t<max s.fr f
  ·rw [partS_none h,List.nil_append,keep_at l f t u,atS]
   split <;> rename_i h1
   ·rw [if_neg (by omega)]
   ·rfl
  ·rw [partS_some h,List.cons_append,List.nil_append,atS,keep_at l f t u,atS]
   simp only
   by_cases h1:f≤u∧u≤t
   ·rw [if_pos h1,if_pos h1]
    by_cases h2:s.fr≤u∧u≤s.to
    ·rw [if_pos h2,if_pos (by omega)]
    ·rw [if_neg h2,if_neg (by omega)]
   ·rw [if_neg h1,if_neg h1,if_neg (by omega)]
theorem forget_right:∀ (l:List Sp) (p p':Sp) (f t:Int),f≤t→RightS p l→p'.to≤p.to→(p'.to=p.to→p'.is=p.is)→RightS p' (forgetS l f t)
 | [],_,_,_,_,_,_,_,_=>trivial
 | s :: l,p,p',f,t,hft,⟨h1,h2,h3,h4,h5,h6,h7⟩,a,b=>by
  rw [forgetS]
  by_cases h:min s.to (f - 1)<max s.fr 1
  ·rw [partS_none h,List.nil_append]
   by_cases h':min s.to 1099511627776<max s.fr (t+1)
   ·rw [partS_none h',List.nil_append]
    exact forget_right l s p' f t hft h7 (by omega) (fun e=>by omega)
   ·rw [partS_some h',List.cons_append,List.nil_append]
    refine ⟨by simp only;omega,by simp only;omega,by simp only;omega,h4,h5,?_,forget_right l s _ f t hft h7 (by simp only;omega) (fun _=>rfl)⟩
    rintro ⟨e1,e2⟩
    simp only at e1 e2
    have:p'.to=p.to:=by omega
    exact h6 ⟨by omega,by rw [e2,b this]⟩
  ·rw [partS_some h,List.cons_append,List.nil_append]
   refine ⟨by simp only;omega,by simp only;omega,by simp only;omega,h4,h5,?_,?_⟩
   ·rintro ⟨e1,e2⟩
    simp only at e1 e2
    have:p'.to=p.to:=by omega
    exact h6 ⟨by omega,by rw [e2,b this]⟩
   ·by_cases h':min s.to 1099511627776<max s.fr (t+1)
    ·rw [partS_none h',List.nil_append]
     exact forget_right l s _ f t hft h7 (by simp only;omega) (fun _=>rfl)
    ·rw [partS_some h',List.cons_append,List.nil_append]
     refine ⟨by simp only;omega,by simp only;omega,by simp only;omega,h4,h5,?_,forget_right l s _ f t hft h7 (by simp only;omega) (fun _=>rfl)⟩
     rintro ⟨e1,e2⟩
     simp only at e1
     omega
theorem forget_at:∀ (l:List Sp) (p:Sp) (f t u:Int),f≤t→0≤p.to→RightS p l→atS (forgetS l f t) u=if f≤u∧u≤t then 0 else atS l u
 | [],_,f,t,u,_,_,_=>by simp [forgetS,atS]
 | s :: l,p,f,t,u,hft,hp,⟨h1,h2,h3,h4,h5,h6,h7⟩=>by
  have ih:=forget_at l s f t u hft (by omega) h7
  rw [forgetS]
  by_cases hin:s.fr≤u∧u≤s.to
  ·have hlow:atS l u=0:=atS_low h7 (by omega)
   rw [hlow] at ih
   have ih0:atS (forgetS l f t) u=0:=by rw [ih];split <;> rfl
   have e:atS (s :: l) u=s.is:=by rw [atS,if_pos hin]
   rw [e]
   by_cases h:min s.to (f - 1)<max s.fr 1
   ·rw [partS_none h,List.nil_append]
    by_cases h':min s.to 1099511627776<max s.fr (t+1)
    ·rw [partS_none h',List.nil_append,ih0,if_pos (by omega)]
    ·rw [partS_some h',List.cons_append,List.nil_append,atS,ih0]
     simp only
     by_cases h9:f≤u∧u≤t
     ·rw [if_pos h9,if_neg (by omega)]
     ·rw [if_neg h9,if_pos (by omega)]
   ·rw [partS_some h,List.cons_append,List.nil_append,atS]
    simp only
    by_cases h8:max s.fr 1≤u∧u≤min s.to (f - 1)
    ·rw [if_pos h8,if_neg (by omega)]
    ·rw [if_neg h8]
     by_cases h':min s.to 1099511627776<max s.fr (t+1)
     ·rw [partS_none h',List.nil_append,ih0,if_pos (by omega)]
     ·rw [partS_some h',List.cons_append,List.nil_append,atS,ih0]
      simp only
      by_cases h9:f≤u∧u≤t
      ·rw [if_pos h9,if_neg (by omega)]
      ·rw [if_neg h9,if_pos (by omega)]
  ·have e:atS (s :: l) u=atS l u:=by rw [atS,if_neg hin]
   rw [e,← ih]
   by_cases h:min s.to (f - 1)<max s.fr 1
   ·rw [partS_none h,List.nil_append]
    by_cases h':min s.to 1099511627776<max s.fr (t+1)
    ·rw [partS_none h',List.nil_append]
    ·rw [partS_some h',List.cons_append,List.nil_append,atS,if_neg (by simp only;omega)]
   ·rw [partS_some h,List.cons_append,List.nil_append,atS,if_neg (by simp only;omega)]
    by_cases h':min s.to 1099511627776<max s.fr (t+1)
    ·rw [partS_none h',List.nil_append]
    ·rw [partS_some h',List.cons_append,List.nil_append,atS,if_neg (by simp only;omega)]
end
section
open Go.RowKit
theorem span_layPart (B:Nat) (v:Value) (l:List Sp) (sf st si f t:Int) (w:World) (hv:Sps w B v l) (hB:B≤w.heap.size) (hl:l.length≤2000000000000) :
  Calls Tryz.prog 220 #[v,.agg #[.int .i64 sf,.int .i64 st,.int .i64 si],.int .i64 f,.int .i64 t] w fun e w'=>(∃ v',e=.returned v'∧Hid (Sps w' B v' (l++partS ⟨sf,st,si⟩ f t)))∧w.grownBy w' v.ownBlock:=by
 obtain ⟨a,c,rfl,hlc⟩:=hv.form
 have HV:Hid (Sps w B (.slice a l.length c) l):=hv
 obtain ⟨n,hn⟩:∃ n,n=l.length:=⟨_,rfl⟩
 rw [← hn] at HV ⊢
 have HL:Hid (l.length≤3000000000000):=by show _≤_;omega
 clear hv hn hl hlc
 obtain ⟨mx,HMX⟩:∃ m,Hid (m=max sf f):=⟨_,rfl⟩
 obtain ⟨mn,HMN⟩:∃ m,Hid (m=min st t):=⟨_,rfl⟩
 have r1:∀ w',(Builtin.min_ #[3,3] 3 #[.int .i64 st,.int .i64 t]).run Tryz.prog w'=.ok (.int .i64 mn) w':=fun w'=>by rw [HMN.out];exact run_min_i _ _ _ _ _
 have r2:∀ w',(Builtin.max_ #[3,3] 3 #[.int .i64 sf,.int .i64 f]).run Tryz.prog w'=.ok (.int .i64 mx) w':=fun w'=>by rw [HMX.out];exact run_max_i _ _ _ _ _
 have HB1:Hid (Below w.heap.size w (w.alloc (.cells #[.int .i64 mx,.int .i64 mn,.int .i64 si] 186))):=below_new _ _
 by_cases h:mn<mx
 ·have HX:Hid (partS ⟨sf,st,si⟩ f t=[]):=partS_none (by simp only;rw [← HMX.out,← HMN.out];exact h)
  go_enter Tryz.func220,Tryz.ntmps220
  go_wp2
  go_ret
  exact ⟨⟨_,rfl,by show Sps _ _ _ _;rw [HX.out,List.append_nil];exact HV.out.below HB1.out⟩,grown_below HB1.out⟩
 ·have HX:Hid (partS ⟨sf,st,si⟩ f t=[⟨mx,mn,si⟩]):=by
   have:=partS_some (s:=⟨sf,st,si⟩) (f:=f) (t:=t) (by simp only;rw [← HMX.out,← HMN.out];exact h)
   simp only at this
   rw [← HMX.out,← HMN.out] at this
   exact this
  have HB2:Hid (Below w.heap.size w ((w.alloc (.cells #[.int .i64 mx,.int .i64 mn,.int .i64 si] 186)).alloc (.cells #[.int .i64 mx,.int .i64 mn,.int .i64 si] 186))):=HB1.out.alloc (by simp) _
  have HV2:Hid (Sps ((w.alloc (.cells #[.int .i64 mx,.int .i64 mn,.int .i64 si] 186)).alloc (.cells #[.int .i64 mx,.int .i64 mn,.int .i64 si] 186)) B (.slice a n c) l):=HV.out.below HB2.out
  have HT2:Hid (∀ j u,(Sp.cells ⟨mx,mn,si⟩).toList[j]? = some u→((w.alloc (.cells #[.int .i64 mx,.int .i64 mn,.int .i64 si] 186)).alloc (.cells #[.int .i64 mx,.int .i64 mn,.int .i64 si] 186)).cell? ((⟨w.heap.size+1,0,none⟩:Addr).add j)=some u):=Sp.told (q:=⟨mx,mn,si⟩) (Bk.second w _ _ _)
  have HS2:Hid (B≤((w.alloc (.cells #[.int .i64 mx,.int .i64 mn,.int .i64 si] 186)).alloc (.cells #[.int .i64 mx,.int .i64 mn,.int .i64 si] 186)).heap.size):=Nat.le_trans hB HB2.out.size
  go_enter Tryz.func220,Tryz.ntmps220
  go_wp2_with (at_builtin;refine wpList_append_sp rfl (.tmp 25) (.tmp 27) rfl B (.slice a n c) l rfl HV2.out ⟨w.heap.size+1,0,none⟩ 1 ⟨mx,mn,si⟩ rfl HT2.out HL.out HS2.out ?_)
  intro v' w' ho hg
  have HO:Hid (Sps w' B v' (l++[⟨mx,mn,si⟩])):=ho
  have HG:=grown_after HB2.out hg
  have HG:Hid (w.grownBy w' _):=HG
  clear ho hg
  go_wp2
  go_ret
  exact ⟨⟨v',rfl,by show Sps _ _ _ _;rw [HX.out];exact HO.out⟩,HG.out⟩
def RangeTold (w:World) (B:Nat) (ok:Bool) (out:List Sp) (e:Ending):Prop :=
 (ok=false∧e=.returned (.tuple #[.slice none 0 0,.int .i64 2]))∨(ok=true∧∃ v,e=.returned (.tuple #[v,.int .i64 0])∧Sps w B v out)
theorem right_short {l:List Sp} (h:RightS Sp.zr l):l.length≤1099511627776:=by
 have h1:=RightS_len l Sp.zr h
 by_cases h0:l=[]
 ·rw [h0];simp
 ·have h2:=h1.2 h0
  have h3:=h1.1
  simp only [Sp.zr] at h2 h3
  omega
theorem span_Keep (a:Option Addr) (n cap:Nat) (l:List Sp) (f t:Int) (w:World) (hr:SpsRd w a n l) (hc:n≤cap) (hcm:cap≤maxLen) :
  Calls Tryz.prog 300 #[.slice a n cap,.int .i64 f,.int .i64 t] w fun e w'=>Hid (RangeTold w' w.heap.size (rightB Sp.zr l && mayB f t) (keepS l f t) e)∧Below w.heap.size w w':=by
 have HR:Hid (SpsRd w a n l):=hr
 have HC:Hid (n≤cap∧cap≤maxLen):=⟨hc,hcm⟩
 have hn:n≤2 ^ 63 - 1:=Nat.le_trans hc hcm
 clear hr hc hcm
 go_enter Tryz.func300,Tryz.ntmps300
 go_wp2_with fail
 refine (span_Right a n cap l w HR.out (Nat.le_trans HC.out.1 HC.out.2)).mono ?_
 rintro e w1 ⟨rfl,hb1⟩
 have HB1:Hid (Below w.heap.size w w1):=hb1
 clear hb1
 cases hrl:rightB Sp.zr l with
 | false =>
  have HOK:Hid ((rightB Sp.zr l && mayB f t)=false):=by show _=_;rw [hrl];rfl
  clear hrl
  go_wp2
  go_returns
  exact ⟨.inl ⟨HOK.out,rfl⟩,HB1.out⟩
 | true =>
  have HRS:Hid (RightS Sp.zr l):=(rightB_iff _ _).1 hrl
  go_wp2_with fail
  refine (span_mayBe f t w1).mono ?_
  rintro e w2 ⟨rfl,rfl⟩
  cases hmb:mayB f t with
  | false =>
   have HOK:Hid ((rightB Sp.zr l && mayB f t)=false):=by show _=_;rw [hrl,hmb];rfl
   clear hmb hrl
   go_wp2
   go_returns
   exact ⟨.inl ⟨HOK.out,rfl⟩,HB1.out⟩
  | true =>
   have HOK:Hid ((rightB Sp.zr l && mayB f t)=true):=by show _=_;rw [hrl,hmb];rfl
   have HMB:Hid (1≤f∧f≤t∧t≤1099511627776):=(mayB_iff _ _).1 hmb
   obtain ⟨hm1,hm2,hm3⟩:=HMB.out
   have HSH:Hid ((keepS l f t).length≤1099511627776):=right_short (keep_right l Sp.zr Sp.zr f t HRS.out (Int.le_refl _) (fun _=>rfl))
   clear hmb hrl
   go_wp2
   go_loopw [8,22] (fun t8 t22 wr=>∃ (k:Nat) (av:Option Addr) (nv cv:Nat) (out:List Sp),k≤n∧t22=.int .i64 (k:Int)∧t8=.slice av nv cv∧Hid (Sps wr w.heap.size (.slice av nv cv) out)∧Hid (out++keepS (l.drop k) f t=keepS l f t)∧Hid (Below w.heap.size w wr)) (fun _ t22 _=>n - (intOf t22).toNat)
   case atStart=>exact ⟨0,none,0,0,[],by omega,rfl,rfl,Sps.nil_ _ _,rfl,HB1⟩
   case round =>
    obtain ⟨k,av,nv,cv,out,hk,rfl,rfl,HV,HE,HB⟩:=hrel
    by_cases hlt:k<n
    ·have hlt':(k:Int)<(n:Int):=by omega
     obtain ⟨g,o,rfl,hg,q,hq,c0,c1,c2⟩:=(HR.out.below HB.out).at_ k hlt
     have HD:Hid (l.drop k=q :: l.drop (k+1)):=drop_at hq
     clear hq hg
     obtain ⟨qf,qt,qi⟩:=q
     simp only at c0 c1 c2
     have HB3:Hid (Below wr.heap.size wr (wr.alloc (.cells #[.int .i64 qf,.int .i64 qt,.int .i64 qi] 186))):=below_new _ _
     have HSZ:Hid (out.length≤2000000000000):=by
      show _≤_
      have h1:=HSH.out
      rw [← HE.out,List.length_append] at h1
      omega
     go_wp2_with fail
     refine (span_layPart w.heap.size (.slice av nv cv) out qf qt qi f t _ (HV.out.below HB3.out) (Nat.le_trans HB.out.size HB3.out.size) HSZ.out).mono ?_
     rintro e w4 ⟨⟨v',rfl,HV'⟩,hb4⟩
     have HB4:Hid (Below w.heap.size w w4):=(HB.out.trans (HB3.out.mono HB.out.size)).trans ((HV.out.below HB3.out).grown (Nat.le_trans HB.out.size HB3.out.size) hb4)
     have HE2:Hid (out++partS ⟨qf,qt,qi⟩ f t++keepS (l.drop (k+1)) f t=keepS l f t):=by
      show _=_
      rw [← HE.out,HD.out,keepS,List.append_assoc]
     obtain ⟨out2,ho2⟩:∃ o,o=out++partS ⟨qf,qt,qi⟩ f t:=⟨_,rfl⟩
     rw [← ho2] at HV' HE2
     clear ho2
     obtain ⟨av',cv',rfl,_⟩:=HV'.out.form
     clear hb4 c0 c1 c2 HE HB3
     go_wp2
     go_roundw
     case rel=>exact ⟨k+1,av',_,cv',_,by omega,by go_num,rfl,HV',HE2,HB4⟩
     case measure=>simp [intOf];omega
    ·have hnl:¬ (k:Int)<(n:Int):=by omega
     have HX:Hid (Sps wr w.heap.size (.slice av nv cv) (keepS l f t)):=by
      have h1:=HE.out
      rw [List.drop_of_length_le (by rw [HR.out.size];omega),keepS,List.append_nil] at h1
      show Sps _ _ _ _
      rw [← h1]
      exact HV.out
     clear HE
     go_wp2
     go_returns
     exact ⟨.inr ⟨HOK.out,_,rfl,HX.out⟩,HB.out⟩
theorem span_Forget (a:Option Addr) (n cap:Nat) (l:List Sp) (f t:Int) (w:World) (hr:SpsRd w a n l) (hc:n≤cap) (hcm:cap≤maxLen) :
  Calls Tryz.prog 261 #[.slice a n cap,.int .i64 f,.int .i64 t] w fun e w'=>Hid (RangeTold w' w.heap.size (rightB Sp.zr l && mayB f t) (forgetS l f t) e)∧Below w.heap.size w w':=by
 have HR:Hid (SpsRd w a n l):=hr
 have HC:Hid (n≤cap∧cap≤maxLen):=⟨hc,hcm⟩
 have hn:n≤2 ^ 63 - 1:=Nat.le_trans hc hcm
 clear hr hc hcm
 go_enter Tryz.func261,Tryz.ntmps261
 go_wp2_with fail
 refine (span_Right a n cap l w HR.out (Nat.le_trans HC.out.1 HC.out.2)).mono ?_
 rintro e w1 ⟨rfl,hb1⟩
 have HB1:Hid (Below w.heap.size w w1):=hb1
 clear hb1
 cases hrl:rightB Sp.zr l with
 | false =>
  have HOK:Hid ((rightB Sp.zr l && mayB f t)=false):=by show _=_;rw [hrl];rfl
  clear hrl
  go_wp2
  go_returns
  exact ⟨.inl ⟨HOK.out,rfl⟩,HB1.out⟩
 | true =>
  have HRS:Hid (RightS Sp.zr l):=(rightB_iff _ _).1 hrl
  go_wp2_with fail
  refine (span_mayBe f t w1).mono ?_
  rintro e w2 ⟨rfl,rfl⟩
  cases hmb:mayB f t with
  | false =>
   have HOK:Hid ((rightB Sp.zr l && mayB f t)=false):=by show _=_;rw [hrl,hmb];rfl
   clear hmb hrl
   go_wp2
   go_returns
   exact ⟨.inl ⟨HOK.out,rfl⟩,HB1.out⟩
  | true =>
   have HOK:Hid ((rightB Sp.zr l && mayB f t)=true):=by show _=_;rw [hrl,hmb];rfl
   have HMB:Hid (1≤f∧f≤t∧t≤1099511627776):=(mayB_iff _ _).1 hmb
   obtain ⟨hm1,hm2,hm3⟩:=HMB.out
   have HSH:Hid ((forgetS l f t).length≤1099511627776):=right_short (forget_right l Sp.zr Sp.zr f t hm2 HRS.out (Int.le_refl _) (fun _=>rfl))
   clear hmb hrl
   go_wp2
   go_loopw [8,22] (fun t8 t22 wr=>∃ (k:Nat) (av:Option Addr) (nv cv:Nat) (out:List Sp),k≤n∧t22=.int .i64 (k:Int)∧t8=.slice av nv cv∧Hid (Sps wr w.heap.size (.slice av nv cv) out)∧Hid (out++forgetS (l.drop k) f t=forgetS l f t)∧Hid (Below w.heap.size w wr)) (fun _ t22 _=>n - (intOf t22).toNat)
   case atStart=>exact ⟨0,none,0,0,[],by omega,rfl,rfl,Sps.nil_ _ _,rfl,HB1⟩
   case round =>
    obtain ⟨k,av,nv,cv,out,hk,rfl,rfl,HV,HE,HB⟩:=hrel
    by_cases hlt:k<n
    ·have hlt':(k:Int)<(n:Int):=by omega
     obtain ⟨g,o,rfl,hg,q,hq,c0,c1,c2⟩:=(HR.out.below HB.out).at_ k hlt
     have HD:Hid (l.drop k=q :: l.drop (k+1)):=drop_at hq
     clear hq hg
     obtain ⟨qf,qt,qi⟩:=q
     simp only at c0 c1 c2
     have HB3:Hid (Below wr.heap.size wr (wr.alloc (.cells #[.int .i64 qf,.int .i64 qt,.int .i64 qi] 186))):=below_new _ _
     have HSZ:Hid (out.length≤2000000000000):=by
      show _≤_
      have h1:=HSH.out
      rw [← HE.out,List.length_append] at h1
      omega
     have hf1:(-9223372036854775808:Int)≤f - 1:=by omega
     go_wp2_with fail
     refine (span_layPart w.heap.size (.slice av nv cv) out qf qt qi 1 (f - 1) _ (HV.out.below HB3.out) (Nat.le_trans HB.out.size HB3.out.size) HSZ.out).mono ?_
     rintro e w4 ⟨⟨v',rfl,HV'⟩,hb4⟩
     have HB4:Hid (Below w.heap.size w w4):=(HB.out.trans (HB3.out.mono HB.out.size)).trans ((HV.out.below HB3.out).grown (Nat.le_trans HB.out.size HB3.out.size) hb4)
     have HN4:Hid (Bk w4 wr.heap.size #[.int .i64 qf,.int .i64 qt,.int .i64 qi] 186):=by
      refine (Bk.new wr #[.int .i64 qf,.int .i64 qt,.int .i64 qi] 186).grown hb4 (fun e => ?_)
      have h1:=(HV.out.row.lt _ e.symm).2
      omega
     have HE1:Hid (out++partS ⟨qf,qt,qi⟩ 1 (f - 1)++(partS ⟨qf,qt,qi⟩ (t+1) 1099511627776++forgetS (l.drop (k+1)) f t)=forgetS l f t):=by
      show _=_
      rw [← HE.out,HD.out,forgetS,List.append_assoc]
     obtain ⟨out1,ho1⟩:∃ o,o=out++partS ⟨qf,qt,qi⟩ 1 (f - 1):=⟨_,rfl⟩
     rw [← ho1] at HV' HE1
     clear ho1
     obtain ⟨av1,cv1,rfl,_⟩:=HV'.out.form
     obtain ⟨nv1,hnv1⟩:∃ n,n=out1.length:=⟨_,rfl⟩
     rw [← hnv1] at HV'
     have HSZ1:Hid (out1.length≤2000000000000):=by
      show _≤_
      have h1:=HSH.out
      rw [← HE1.out,List.length_append] at h1
      omega
     rw [← hnv1]
     clear hnv1
     have d0:w4.cell? ⟨wr.heap.size,0,none⟩=some (.int .i64 qf):=HN4.out.cell 0 rfl
     have d1:w4.cell? ⟨wr.heap.size,1,none⟩=some (.int .i64 qt):=HN4.out.cell 1 rfl
     have d2:w4.cell? ⟨wr.heap.size,2,none⟩=some (.int .i64 qi):=HN4.out.cell 2 rfl
     clear hb4 c0 c1 c2
     go_wp2_with fail
     refine (span_layPart w.heap.size (.slice av1 nv1 cv1) out1 qf qt qi (t+1) 1099511627776 _ HV'.out HB4.out.size HSZ1.out).mono ?_
     rintro e w5 ⟨⟨v5,rfl,HV5⟩,hb5⟩
     have HB5:Hid (Below w.heap.size w w5):=HB4.out.trans (HV'.out.grown HB4.out.size hb5)
     have HE2:Hid (out1++partS ⟨qf,qt,qi⟩ (t+1) 1099511627776++forgetS (l.drop (k+1)) f t=forgetS l f t):=by
      show _=_
      rw [List.append_assoc]
      exact HE1.out
     obtain ⟨out2,ho2⟩:∃ o,o=out1++partS ⟨qf,qt,qi⟩ (t+1) 1099511627776:=⟨_,rfl⟩
     rw [← ho2] at HV5 HE2
     clear ho2
     obtain ⟨av',cv',rfl,_⟩:=HV5.out.form
     clear hb5 d0 d1 d2 HE HB3 HE1
     go_wp2
     go_roundw
     case rel=>exact ⟨k+1,av',_,cv',_,by omega,by go_num,rfl,HV5,HE2,HB5⟩
     case measure=>simp [intOf];omega
    ·have hnl:¬ (k:Int)<(n:Int):=by omega
     have HX:Hid (Sps wr w.heap.size (.slice av nv cv) (forgetS l f t)):=by
      have h1:=HE.out
      rw [List.drop_of_length_le (by rw [HR.out.size];omega),forgetS,List.append_nil] at h1
      show Sps _ _ _ _
      rw [← h1]
      exact HV.out
     clear HE
     go_wp2
     go_returns
     exact ⟨.inr ⟨HOK.out,_,rfl,HX.out⟩,HB.out⟩
end
end Go.Proofs.YtoiennkfdjnkbaaGreatDoor
