import Derived.Test.YtoiennkfdjnkbaaGreatDoorPk29
set_option maxRecDepth 100000
set_option maxHeartbeats 8000000
namespace Go.Proofs.YtoiennkfdjnkbaaGreatDoor
set_option maxRecDepth 100000
open Go.RowKit Go.Maps Go.Sort Go.Shelf
variable {Z:Nat→Prop}
def keptX (L1:List Sp) (X:List It) (p:Pc):List It:=keepsX L1 (quietX L1 X) p.items
theorem learn_ok {L L1:List Sp} {X:List It} {p:Pc} (hK:Kn L X) (hp:TellOk p) (hj:Joins L p.spans L1):Kn L1 (keptX L1 X p)∧steps (fun t=>max (kk L X t) (atS p.spans t)) (onlyI (fun t=>max (kk L X t) (atS p.spans t)) (getI X)) p.items=(kk L1 (keptX L1 X p),getI (keptX L1 X p))∧(keptX L1 X p).length≤X.length+p.items.length:=by
 obtain ⟨h1,h2,h3⟩:=hK.join hp.right hp.quiet hj
 obtain ⟨a,b,c⟩:=keeps_ok p.items h1 hp.each
 refine ⟨a,?_,Nat.le_trans c (Nat.add_le_add_right (List.length_filter_le _ _) _)⟩
 rw [h3,h2]
 exact b
def LearnTo (Z:Nat→Prop) (s m:Nat) (L L1:List Sp) (X:List It) (p:Pc) (w:World) (e:Ending) (w':World):Prop:=(∃ r:Bool,e=.returned (.tuple #[.bool r,.int .i64 0])∧(r=true↔¬ (L1=L∧tf (learnX L1 X p)=tf X)))∧Imp Z w' s m L1 (learnX L1 X p)∧Two s m w w'
theorem st_LearnG {w:World} {s m:Nat} {L L1:List Sp} {X:List It} (h:Imp Z w s m L X) (hK:Kn L X) (hX:X.length≤64) {p:Pc} (hp:TellOk p) (hj:Joins L p.spans L1) {sa:Option Addr} {sn sc:Nat} {ia:Option Addr} {im ic:Nat} (hr:PcRd w p sa sn sc ia im ic) :
  Calls Tryz.prog 147 #[.pointer (some ⟨s,0,none⟩),p.val sa sn sc ia im ic] w fun e w'=>LearnTo Z s m L L1 X p w e w':=by
 obtain ⟨l,h,hlk⟩:=h
 obtain ⟨I,HIX⟩:∃ I,Hid (I=getI X):=⟨_,rfl⟩
 obtain ⟨hm1,hm2,hm3⟩:=learn_ok hK hp hj
 have h8:=(chk_tell hp.kind hp.chk).2.1
 rw [← HIX.out] at h
 obtain ⟨Y,HYE⟩:∃ Y,Hid (Y=keptX L1 X p):=⟨_,rfl⟩
 have HKY:Hid (Kn L1 Y∧Y.length≤1000):=by
  (show _∧_)
  rw [HYE.out]
  exact ⟨hm1,by omega⟩
 have HMM:Hid (steps (fun t=>max (atS l t) (atS p.spans t)) (onlyI (fun t=>max (atS l t) (atS p.spans t)) I) p.items=(kk L1 Y,getI Y)):=by
  (show _=_)
  rw [HYE.out,HIX.out,show (fun t=>max (atS l t) (atS p.spans t))=fun t=>max (kk L X t) (atS p.spans t) from funext fun t=>by rw [hlk t]]
  exact hm2
 have HKX:Hid (Kn L X∧∀ t,atS l t=kk L X t):=⟨hK,hlk⟩
 obtain ⟨T,HTE⟩:∃ T,Hid (T=X.map (fun q=>q.tick)++p.items.map fun q=>q.tick):=⟨_,rfl⟩
 have hT:∀ t,(I t).isSome=true→t∈T:=fun t ht=>by
  rw [HIX.out] at ht
  obtain ⟨q,hq⟩:=Option.isSome_iff_exists.1 ht
  have:=getI_tick hq
  rw [HTE.out]
  exact List.mem_append_left _ (List.mem_map.2 ⟨q,this.2,this.1⟩)
 have hTl:T.length≤1000:=by rw [HTE.out,List.length_append,List.length_map,List.length_map];omega
 have hpT:∀ q∈p.items,q.tick∈T:=fun q hq=>by rw [HTE.out];exact List.mem_append_right _ (List.mem_map.2 ⟨q,hq,rfl⟩)
 have HLTO:Hid (∀ (r:Bool) w',(r=true↔¬ (L1=L∧tf (Y.drop (Y.length - 64))=tf X))→Imp Z w' s m L1 (Y.drop (Y.length - 64))→Two s m w w'→LearnTo Z s m L L1 X p w (.returned (.tuple #[.bool r,.int .i64 0])) w'):=by
  intro r w' a b c
  rw [HYE.out] at a b
  exact ⟨⟨r,rfl,a⟩,b,c⟩
 obtain ⟨POST,HPO⟩:∃ P:Ending→World→Prop,Hid (P=fun e w'=>LearnTo Z s m L L1 X p w e w'):=⟨_,rfl⟩
 have hpost:(fun e w'=>LearnTo Z s m L L1 X p w e w')=fun e w'=>POST e w':=HPO.out.symm
 rw [hpost]
 clear hpost
 have HLTP:Hid (∀ (r:Bool) w',(r=true↔¬ (L1=L∧tf (Y.drop (Y.length - 64))=tf X))→Imp Z w' s m L1 (Y.drop (Y.length - 64))→Two s m w w'→POST (.returned (.tuple #[.bool r,.int .i64 0])) w'):=by rw [HPO.out];exact HLTO.out
 clear hm1 hm2 hm3 h8 hK hX hlk hj HLTO HPO HYE HTE
 have HSTR:Hid (Str Z w s m l I):=h
 obtain ⟨a0,n0,c0,X0,hs0⟩:=h
 have hsl:=hs0.stm.blk.lt
 have hml:=hs0.stm.items.lt
 have HT:Hid (∀ t,(I t).isSome=true→t∈T):=hT
 have HTL:Hid (T.length≤1000):=hTl
 have HPT:Hid (∀ q∈p.items,q.tick∈T):=hpT
 have HE:Hid (∀ q∈p.items,(1≤q.tick∧q.tick≤1099511627776)∧(0≤q.for_∧q.for_≤4294967295)∧q.body.length≤400):=hp.each
 have HRT:Hid (RightS Sp.zr p.spans∧∀ t,atS p.spans t≠1):=⟨hp.right,hp.quiet⟩
 have hkind:=hp.kind
 have HCH:Hid (chk p=0):=hp.chk
 obtain ⟨PL,HPL⟩:∃ PL,Hid (PL=p):=⟨_,rfl⟩
 have HPR:Hid (PcRd w p sa sn sc ia im ic):=hr
 clear hT hTl hpT hr hp
 obtain ⟨pk,pp,ps,pn,pf,pt,pl,pi⟩:=p
 simp only at hkind
 subst hkind
 obtain ⟨W1,HW1⟩:∃ W1,Hid (W1=w.alloc (.cells #[.int .i64 1,.int .i64 pp,.int .i64 ps,.int .i64 pn,.int .i64 pf,.int .i64 pt,.slice sa sn sc,.slice ia im ic] 116)):=⟨_,rfl⟩
 have HX1:Hid (Below w.heap.size w W1):=by (show Below _ _ _);rw [HW1.out];exact below_alloc w _
 have HK1:Hid (Bk W1 w.heap.size #[.int .i64 1,.int .i64 pp,.int .i64 ps,.int .i64 pn,.int .i64 pf,.int .i64 pt,.slice sa sn sc,.slice ia im ic] 116):=by (show Bk _ _ _ _);rw [HW1.out];exact Bk.new w _ _
 have HS1:Hid (Strm Z W1 s m l I a0 n0 c0 X0):=hs0.stay HX1.out
 have HP1:Hid (PcRd W1 ⟨1,pp,ps,pn,pf,pt,pl,pi⟩ sa sn sc ia im ic):=HPR.out.below HX1.out
 have HCK:Hid (Calls Tryz.prog 194 #[.agg #[.int .i64 1,.int .i64 pp,.int .i64 ps,.int .i64 pn,.int .i64 pf,.int .i64 pt,.slice sa sn sc,.slice ia im ic]] W1 fun e w'=>e=.returned (.int .i64 0)∧Below W1.heap.size W1 w'):=by
  have:=pc_Check ⟨1,pp,ps,pn,pf,pt,pl,pi⟩ sa sn sc ia im ic W1 HP1.out
  rw [HCH.out] at this
  exact this
 have k0:W1.cell? ⟨w.heap.size,0,none⟩=some (.int .i64 1):=HK1.out.cell 0 rfl
 have k1:W1.cell? ⟨w.heap.size,1,none⟩=some (.int .i64 pp):=HK1.out.cell 1 rfl
 have k2:W1.cell? ⟨w.heap.size,2,none⟩=some (.int .i64 ps):=HK1.out.cell 2 rfl
 have k3:W1.cell? ⟨w.heap.size,3,none⟩=some (.int .i64 pn):=HK1.out.cell 3 rfl
 have k4:W1.cell? ⟨w.heap.size,4,none⟩=some (.int .i64 pf):=HK1.out.cell 4 rfl
 have k5:W1.cell? ⟨w.heap.size,5,none⟩=some (.int .i64 pt):=HK1.out.cell 5 rfl
 have k6:W1.cell? ⟨w.heap.size,6,none⟩=some (.slice sa sn sc):=HK1.out.cell 6 rfl
 have k7:W1.cell? ⟨w.heap.size,7,none⟩=some (.slice ia im ic):=HK1.out.cell 7 rfl
 have himl:im≤9223372036854775807:=Nat.le_trans HPR.out.il (Nat.le_trans HPR.out.im_ (by decide))
 have HIM:Hid (pi.length=im):=HPR.out.items.size
 clear hs0 HPR HSTR
 unfold Pc.val
 simp only
 go_enter Tryz.func147,Tryz.ntmps147
 go_upto_region 3 with fail
 rw [← HW1.out]
 go_wp2_with fail
 refine HCK.out.mono ?_
 rintro e w2 ⟨rfl,hb2⟩
 have HK2:Hid (Bk w2 w.heap.size #[.int .i64 1,.int .i64 pp,.int .i64 ps,.int .i64 pn,.int .i64 pf,.int .i64 pt,.slice sa sn sc,.slice ia im ic] 116):=HK1.out.stay hb2
 have HS2:Hid (Strm Z w2 s m l I a0 n0 c0 X0):=HS1.out.stay hb2
 have HP2:Hid (PcRd w2 ⟨1,pp,ps,pn,pf,pt,pl,pi⟩ sa sn sc ia im ic):=HP1.out.below hb2
 have HX2:Hid (Below w.heap.size w w2):=HX1.out.trans (hb2.mono HX1.out.size)
 have q0:w2.cell? ⟨w.heap.size,0,none⟩=some (.int .i64 1):=HK2.out.cell 0 rfl
 clear hb2 k0 k1 k2 k3 k4 k5 k6 k7 HK1 HS1 HP1 HX1 HCK HW1
 go_wp2_with fail
 refine (st_Fork HS2.out.stm).mono ?_
 rintro e w3 ⟨s2,m2,rfl,hs3,⟨z1,z2⟩,hb3⟩
 have hszw:=HX2.out.size
 have HF3:Hid (Stm Z w3 s2 m2 a0 n0 c0 l X0):=hs3
 have HK3:Hid (Bk w3 w.heap.size #[.int .i64 1,.int .i64 pp,.int .i64 ps,.int .i64 pn,.int .i64 pf,.int .i64 pt,.slice sa sn sc,.slice ia im ic] 116):=HK2.out.stay hb3
 have HS3:Hid (Strm Z w3 s m l I a0 n0 c0 X0):=HS2.out.stay hb3
 have HP3:Hid (PcRd w3 ⟨1,pp,ps,pn,pf,pt,pl,pi⟩ sa sn sc ia im ic):=HP2.out.below hb3
 have HX3:Hid (Below w.heap.size w w3):=HX2.out.trans (hb3.mono HX2.out.size)
 have q6:w3.cell? ⟨w.heap.size,6,none⟩=some (.slice sa sn sc):=HK3.out.cell 6 rfl
 have HAP:Hid (∀ ad,a0=some ad→ad.block≠s∧ad.block≠m):=fun ad e=>⟨(HS2.out.stm.apart ad e).2.1,(HS2.out.stm.apart ad e).2.2.1⟩
 clear hs3 hb3 HK2 HS2 HP2 HX2 q0
 go_wp2_with fail
 refine (str_join ⟨a0,n0,c0,X0,HS3.out⟩ HT.out (Nat.le_trans HTL.out (by omega)) (b:=sa) (nb:=sn) (cb:=sc) (l2:=pl) ⟨HP3.out.spans,HP3.out.sl,HP3.out.sm,HRT.out.1⟩ HRT.out.2).mono ?_
 rintro e w4 ⟨rfl,⟨l4,hs4,ht4⟩,hb4⟩
 have HS4:Hid (Str Z w4 s m l4 (steps (fun t=>max (atS l t) (atS pl t)) (onlyI (fun t=>max (atS l t) (atS pl t)) I) (pi.take 0)).2):=hs4
 have HL4:Hid (∀ t,atS l4 t=(steps (fun t=>max (atS l t) (atS pl t)) (onlyI (fun t=>max (atS l t) (atS pl t)) I) (pi.take 0)).1 t):=ht4
 have HK4:Hid (Bk w4 w.heap.size #[.int .i64 1,.int .i64 pp,.int .i64 ps,.int .i64 pn,.int .i64 pf,.int .i64 pt,.slice sa sn sc,.slice ia im ic] 116):=Two.bk HK3.out hb4 (by omega) (by omega)
 have HF4:Hid (Stm Z w4 s2 m2 a0 n0 c0 l X0):=HF3.out.two hb4 (by omega) (by omega) (by omega) (by omega) HAP.out
 have HI4:Hid (ItsRd w4 ia im pi):=ItsRd.two HS3.out.stm HP3.out.items hb4
 have HT4:Hid (Two s m w w4):=(Two.of_below s m HX3.out).trans hb4
 have HO3:Hid (Strm Z w3 s m l I a0 n0 c0 X0):=HS3.out
 have q7:w4.cell? ⟨w.heap.size,7,none⟩=some (.slice ia im ic):=HK4.out.cell 7 rfl
 clear hs4 ht4 hb4 HF3 HK3 HS3 HP3 HX3 q6
 go_wp2
 go_loopw [29] (fun t29 wr=>∃ (i:Nat) (li:List Sp),t29=.int .i64 (i:Int)∧i≤im∧Hid (Str Z wr s m li (steps (fun t=>max (atS l t) (atS pl t)) (onlyI (fun t=>max (atS l t) (atS pl t)) I) (pi.take i)).2)∧Hid (∀ t,atS li t=(steps (fun t=>max (atS l t) (atS pl t)) (onlyI (fun t=>max (atS l t) (atS pl t)) I) (pi.take i)).1 t)∧Hid (Stm Z wr s2 m2 a0 n0 c0 l X0)∧Hid (ItsRd wr ia im pi)∧Hid (Two s m w wr)) (fun t29 _=>im - (intOf t29).toNat)
 case atStart=>exact ⟨0,l4,rfl,by omega,HS4,HL4,HF4,HI4,HT4⟩
 case round =>
  obtain ⟨i,li,rfl,hi,HSI,HLI,HFI,HII,HTI⟩:=hrel
  clear HS4 HL4 HF4 HI4 HT4 HK4 q7
  by_cases hlt:i<im
  ·have hlt':(i:Int)<(im:Int):=by omega
   have gi:(0:Int)≤(i:Int):=by omega
   obtain ⟨g,o,rfl,hg,q,hq,d0,d1,ba,bl,bc,d2,hrd,hb0,hlc,hcm⟩:=HII.out.at_ i hlt
   have HQ:Hid (pi[i]? = some q):=hq
   have hqm:q∈pi:=List.mem_of_getElem? hq
   have HEQ:=HE.out q hqm
   have HRD:Hid (Rd wr ba bl q.body):=hrd
   have HTK:Hid (pi.take (i+1)=pi.take i++[q]):=by
    (show _=_)
    have hil:i<pi.length:=by rw [HIM.out];exact hlt
    rw [List.take_succ_eq_append_getElem hil]
    have:=List.getElem?_eq_getElem hil
    rw [this] at hq
    rw [Option.some.inj hq]
   have HKP:Hid (∀ W,Below wr.heap.size wr W→Calls Tryz.prog 197 #[.pointer (some ⟨s,0,none⟩),.agg #[.int .i64 q.tick,.int .u32 q.for_,.slice ba bl bc]] W fun e w'=>e=.returned (.tuple #[])∧(∃ l',Str Z w' s m l' (keepI (steps (fun t=>max (atS l t) (atS pl t)) (onlyI (fun t=>max (atS l t) (atS pl t)) I) (pi.take i)).1 (steps (fun t=>max (atS l t) (atS pl t)) (onlyI (fun t=>max (atS l t) (atS pl t)) I) (pi.take i)).2 q)∧∀ u,atS l' u=keepK (steps (fun t=>max (atS l t) (atS pl t)) (onlyI (fun t=>max (atS l t) (atS pl t)) I) (pi.take i)).1 q u)∧Two s m W w'):=fun W hW=>str_keep (HSI.out.stay hW) HLI.out (steps_in _ _ _ (onlyI_in HT.out) (fun x hx=>HPT.out x (List.mem_of_mem_take hx))) (Nat.le_trans HTL.out (by omega)) HEQ.1 HEQ.2.1 HEQ.2.2 (HRD.out.below hW)
   obtain ⟨qt,qf,qb⟩:=q
   simp only at d0 d1 HKP
   have HBX:Hid (Below wr.heap.size wr (wr.alloc (.cells #[.int .i64 qt,.int .u32 qf,.slice ba bl bc] 51))):=below_alloc wr _
   clear hrd hb0 hlc hcm hq hqm HEQ HRD
   go_wp2_with fail
   refine (HKP.out _ HBX.out).mono ?_
   rintro e w5 ⟨rfl,⟨l5,hs5,ht5⟩,hb5⟩
   have HT5:Hid (Two s m wr w5):=(Two.of_below s m HBX.out).trans hb5
   have HS5:Hid (Str Z w5 s m l5 (steps (fun t=>max (atS l t) (atS pl t)) (onlyI (fun t=>max (atS l t) (atS pl t)) I) (pi.take (i+1))).2):=by (show Str Z _ _ _ _ _);rw [HTK.out,steps_snoc];exact hs5
   have HL5:Hid (∀ t,atS l5 t=(steps (fun t=>max (atS l t) (atS pl t)) (onlyI (fun t=>max (atS l t) (atS pl t)) I) (pi.take (i+1))).1 t):=by (show ∀ _,_);rw [HTK.out,steps_snoc];exact ht5
   have HF5:Hid (Stm Z w5 s2 m2 a0 n0 c0 l X0):=HFI.out.two HT5.out (by omega) (by omega) (by omega) (by omega) HAP.out
   have HI5:Hid (ItsRd w5 (some ⟨g,o,none⟩) im pi):=by
    obtain ⟨a9,n9,c9,X9,h9⟩:=HSI.out
    exact ItsRd.two h9.stm HII.out HT5.out
   clear hs5 ht5 hb5 d0 d1 d2 HKP
   go_wp2
   go_roundw
   case rel=>exact ⟨i+1,l5,by go_num,by omega,HS5,HL5,HF5,HI5,HTI.out.trans HT5.out⟩
   case measure=>simp [intOf];omega
  ·have hnl:¬ (i:Int)<(im:Int):=by omega
   obtain rfl:i=im:=by omega
   have hfin:=HSI.out
   have hlfin:=HLI.out
   rw [← HIM.out,List.take_length] at hfin hlfin
   obtain ⟨a5,n5,c5,X5,hs5⟩:=hfin
   have HS5:Hid (Strm Z wr s m li (steps (fun t=>max (atS l t) (atS pl t)) (onlyI (fun t=>max (atS l t) (atS pl t)) I) pi).2 a5 n5 c5 X5):=hs5
   have HLF:Hid (∀ t,atS li t=(steps (fun t=>max (atS l t) (atS pl t)) (onlyI (fun t=>max (atS l t) (atS pl t)) I) pi).1 t):=hlfin
   have HX5:Hid (X5.length≤1000):=Nat.le_trans (hs5.few (steps_in _ _ _ (onlyI_in HT.out) HPT.out)) HTL.out
   clear hs5 hlfin HSI HLI HII
   have hMM:=HMM.out
   rw [hMM] at HS5 HLF
   have HKI:Hid (∀ p∈X5,1≤p.1∧p.1≤1099511627776):=HKY.out.1.keysIn HS5.out
   clear hMM
   go_wp2_with fail
   refine (st_forget HS5.out.stm HX5.out HKI.out).mono ?_
   rintro e w6 ⟨rfl,hf6⟩
   obtain ⟨a6,n6,c6,l6,X6,hs6,hk6,ht6⟩:=HS5.out.forgot HKY.out.1 HLF.out hf6
   have HS6:Hid (Strm Z w6 s m l6 (getI (Y.drop (Y.length - 64))) a6 n6 c6 X6):=hs6
   have HK6:Hid (∀ t,atS l6 t=kk L1 (Y.drop (Y.length - 64)) t):=hk6
   have HF6:Hid (Stm Z w6 s2 m2 a0 n0 c0 l X0):=HFI.out.two ht6 (by omega) (by omega) (by omega) (by omega) HAP.out
   have HT6:Hid (Two s m wr w6):=ht6
   clear hf6 hs6 hk6 ht6 HS5 HFI
   go_wp2_with fail
   refine (st_same HS6.out.stm HF6.out HS6.out.items_ HO3.out.items_).mono ?_
   rintro e w7 ⟨⟨r,rfl,hr⟩,hb7⟩
   have HR:Hid (r=true↔l6=l∧SameX X6 X0):=hr
   have HT7:Hid (Two s m wr w7):=HT6.out.trans (Two.of_below s m hb7)
   have HS7:Hid (Strm Z w7 s m l6 (getI (Y.drop (Y.length - 64))) a6 n6 c6 X6):=HS6.out.stay hb7
   clear hb7 hr HS6
   go_wp2
   show POST (.returned (.tuple #[.bool (!r),.int .i64 0])) w7
   refine HLTP.out (!r) w7 ?_ ⟨l6,⟨a6,n6,c6,X6,HS7.out⟩,HK6.out⟩ (HTI.out.trans HT7.out)
   have h0:=HO3.out
   rw [HIX.out] at h0
   have hsi:=same_iff (HKY.out.1.sub (List.drop_sublist _ _)) HKX.out.1 HS7.out h0 HK6.out HKX.out.2
   rw [← hsi,← HR.out]
   cases r <;> simp
end Go.Proofs.YtoiennkfdjnkbaaGreatDoor
