import Derived.Test.YtoiennkfdjnkbaaGreatDoorPk07
set_option maxRecDepth 100000
set_option maxHeartbeats 8000000
namespace Go.Proofs.YtoiennkfdjnkbaaGreatDoor
section
open Go.RowKit
def Lc (w:World) (gl g gc b m ag:Nat) (uv:Value) (hi rel:Nat) (rv:Value):Prop:=Blk w gl #[.pointer (some ⟨g,0,none⟩),.pointer (some ⟨gc,0,none⟩),.int .i64 (b:Int),.int .i64 (m:Int),.int .i64 (ag:Int),uv,.int .i64 (hi:Int),.int .i64 (rel:Int),rv] 164
theorem Lc.stay {w w':World} {gl g gc b m ag hi rel:Nat} {uv rv:Value} (h:Lc w gl g gc b m ag uv hi rel rv) (hb:Below w.heap.size w w'):Lc w' gl g gc b m ag uv hi rel rv:=Blk.stay h hb
theorem Lc.ne {w:World} {gl g gc b m ag hi rel base gs:Nat} {uv rv wv:Value} {D:Dk} (h:Lc w gl g gc b m ag uv hi rel rv) (hd:Disk w base g gs wv D):gl≠g∧gl≠gs:=⟨blk_ne h hd.blk (by decide),blk_ne h hd.srow (by decide)⟩
theorem Lc.mv {w w':World} {gl g gc b m ag hi rel base gs:Nat} {uv rv wv:Value} {D:Dk} (h:Lc w gl g gc b m ag uv hi rel rv) (hd:Disk w base g gs wv D) (hm:Mv w w' base g gs):Lc w' gl g gc b m ag uv hi rel rv:=hm.keep h (h.ne hd).1 (h.ne hd).2 (by decide)
theorem disk_Age (w:World) (base g gs:Nat) (wv:Value) (D:Dk) (h:Disk w base g gs wv D):Calls Tryz.prog 28 #[.pointer (some ⟨g,0,none⟩)] w fun e w'=>e=.returned (.int .i64 (D.age:Int))∧w'=w:=by
 have c4:w.cell? ⟨g,4,none⟩=some (.int .i64 (D.age:Int)):=h.blk.cell 4 rfl
 clear h
 go_enter Tryz.func28,Tryz.ntmps28
 go_wp2
 go_ret
 exact ⟨rfl,rfl⟩
theorem evl_place (w:World) (gl g gc b m ag hi rel:Nat) (uv rv:Value) (i:Nat) (h:Lc w gl g gc b m ag uv hi rel rv) (hb:b≤1000) (hi16:i≤1000):Calls Tryz.prog 244 #[.pointer (some ⟨gl,0,none⟩),.int .i64 (i:Int)] w fun e w'=>e=.returned (.int .i64 ((b+2+i * 16:Nat):Int))∧w'=w:=by
 have c2:w.cell? ⟨gl,2,none⟩=some (.int .i64 (b:Int)):=Blk.cell h 2 rfl
 clear h
 go_enter Tryz.func244,Tryz.ntmps244
 go_wp2
 go_ret
 exact ⟨by go_num,rfl⟩
def staleE (D:Dk) (ag:Nat):Int:=if D.age=ag then 0 else 13
theorem evl_stale (w:World) (base g gs:Nat) (wv:Value) (D:Dk) (gl gc b m ag hi rel:Nat) (uv rv:Value) (hd:Disk w base g gs wv D) (h:Lc w gl g gc b m ag uv hi rel rv) :
  Calls Tryz.prog 97 #[.pointer (some ⟨gl,0,none⟩)] w fun e w'=>e=.returned (.int .i64 (staleE D ag))∧∃ n,w'=w.drewN n:=by
 have c0:w.cell? ⟨gl,0,none⟩=some (.pointer (some ⟨g,0,none⟩)):=Blk.cell h 0 rfl
 have c4:w.cell? ⟨gl,4,none⟩=some (.int .i64 (ag:Int)):=Blk.cell h 4 rfl
 obtain ⟨da,hda⟩:∃ da,da=D.age:=⟨_,rfl⟩
 obtain ⟨R,HR⟩:∃ R,Hid (R=staleE D ag):=⟨_,rfl⟩
 rw [← HR.out]
 have HC:Hid (∀ n,Calls Tryz.prog 28 #[.pointer (some ⟨g,0,none⟩)] (w.drewN n) fun e w'=>e=.returned (.int .i64 (da:Int))∧w'=w.drewN n):=fun n=>by
  rw [hda]
  exact disk_Age _ base g gs wv D (hd.stay (below_drewsA (Below.refl _ _) n))
 by_cases ha:da=ag
 ·have HX:Hid (R=0):=by (show _=_);rw [HR.out,staleE,if_pos (by rw [← hda];exact ha)]
  subst ha
  have e1:((da:Int) != (da:Int))=false:=by simp
  clear hda hd h
  go_enter Tryz.func97,Tryz.ntmps97
  go_wp2
  go_quiet ((go_at_call 28;exact Calls.quiet_of_same (HC.out _)))
  go_wp2
  go_ret
  exact ⟨by rw [HX.out];rfl,_,rfl⟩
 ·have HX:Hid (R=13):=by (show _=_);rw [HR.out,staleE,if_neg (by rw [← hda];exact ha)]
  have e1:((da:Int) != (ag:Int))=true:=by rw [bne_iff_ne];omega
  have e2:((da:Int) == (ag:Int))=false:=by rw [beq_eq_false_iff_ne];omega
  clear hda hd h
  go_enter Tryz.func97,Tryz.ntmps97
  go_wp2
  go_quiet ((go_at_call 28;exact Calls.quiet_of_same (HC.out _)))
  go_wp2
  go_ret
  exact ⟨by rw [HX.out];rfl,_,rfl⟩
def shutE (D:Dk) (ag:Nat):Int:=if D.age=ag then (if D.down=true then 10 else 0) else 13
theorem evl_shut (w:World) (base g gs:Nat) (wv:Value) (D:Dk) (gl gc b m ag hi rel:Nat) (uv rv:Value) (hd:Disk w base g gs wv D) (h:Lc w gl g gc b m ag uv hi rel rv) :
  Calls Tryz.prog 89 #[.pointer (some ⟨gl,0,none⟩)] w fun e w'=>e=.returned (.int .i64 (shutE D ag))∧∃ n,w'=w.drewN n:=by
 obtain ⟨R,HR⟩:∃ R,Hid (R=shutE D ag):=⟨_,rfl⟩
 rw [← HR.out]
 have HD:Hid (Disk w base g gs wv D):=hd
 have HL:Hid (Lc w gl g gc b m ag uv hi rel rv):=h
 have HS:=evl_stale w base g gs wv D gl gc b m ag hi rel uv rv hd h
 by_cases ha:D.age=ag
 ·have HX:Hid (R=if D.down=true then 10 else 0):=by (show _=_);rw [HR.out,shutE,if_pos ha]
  rw [show staleE D ag=0 from by rw [staleE,if_pos ha]] at HS
  clear hd h ha
  go_enter Tryz.func89,Tryz.ntmps89
  go_wp2_with fail
  refine HS.mono ?_
  rintro e w1 ⟨rfl,n,hw1⟩
  have HN:Hid (∃ n,w1=w.drewN n):=⟨n,hw1⟩
  have HB1:Hid (Below w.heap.size w w1):=by (show Below _ _ _);rw [hw1];exact below_drewsA (Below.refl _ _) n
  have c0:w1.cell? ⟨gl,0,none⟩=some (.pointer (some ⟨g,0,none⟩)):=Blk.cell (HL.out.stay HB1.out) 0 rfl
  clear hw1 HS
  have HDN:=disk_Down w1 base g gs wv D (HD.out.stay HB1.out)
  cases hdn:D.down with
  | true =>
   rw [hdn] at HDN
   have HF:Hid (R=10):=by (show _=_);rw [HX.out,hdn];rfl
   clear hdn
   go_wp2_with fail
   refine HDN.mono ?_
   rintro e w2 ⟨rfl,hw2⟩
   rw [hw2]
   clear hw2 w2 HDN
   go_wp2
   go_ret
   exact ⟨by rw [HF.out];rfl,HN.out⟩
  | false =>
   rw [hdn] at HDN
   have HF:Hid (R=0):=by (show _=_);rw [HX.out,hdn];rfl
   clear hdn
   go_wp2_with fail
   refine HDN.mono ?_
   rintro e w2 ⟨rfl,hw2⟩
   rw [hw2]
   clear hw2 w2 HDN
   go_wp2
   go_ret
   exact ⟨by rw [HF.out];rfl,HN.out⟩
 ·have HX:Hid (R=13):=by (show _=_);rw [HR.out,shutE,if_neg ha]
  rw [show staleE D ag=13 from by rw [staleE,if_neg ha]] at HS
  clear hd h ha
  go_enter Tryz.func89,Tryz.ntmps89
  go_wp2_with fail
  refine HS.mono ?_
  rintro e w1 ⟨rfl,n,hw1⟩
  have HN:Hid (∃ n,w1=w.drewN n):=⟨n,hw1⟩
  clear hw1 HS
  go_wp2
  go_ret
  exact ⟨by rw [HX.out];rfl,HN.out⟩
def wipeL:Dk→Nat→Nat→Bool→Dk×Bool×Int
 | D,0,_,b=>(D,b,0)
 | D,cnt+1,i,b=>if readE D i≠0 then (D,false,readE D i) else if nowB D i=List.replicate 64 0 then wipeL D cnt (i+1) b else if writeE D i [] ≠ 0 then (writeD D i [],false,writeE D i []) else wipeL (writeD D i []) cnt (i+1) true
theorem write_wl (D:Dk) (i:Int) (bs:List Nat):(writeD D i bs).waits.length≤D.waits.length+1:=by
 unfold writeD
 split
 ·omega
 ·split
  ·omega
  ·split
   ·omega
   ·split
    ·rw [trips_waits];omega
    ·simp
theorem evl_wipe (w:World) (base g gs:Nat) (wv:Value) (D:Dk) (gl gc b m ag hi rel:Nat) (uv rv:Value) (fr to_:Nat) (hd:Disk w base g gs wv D) (h:Lc w gl g gc b m ag uv hi rel rv) (hft:fr≤to_) (hto:to_≤100000) (hw:D.waits.length+(to_ - fr)<1000000000) :
  Calls Tryz.prog 190 #[.pointer (some ⟨gl,0,none⟩),.int .i64 (fr:Int),.int .i64 (to_:Int)] w fun e w'=>e=.returned (.tuple #[.bool (wipeL D (to_ - fr) fr false).2.1,.int .i64 (wipeL D (to_ - fr) fr false).2.2])∧Hid (∃ wv',Disk w' base g gs wv' (wipeL D (to_ - fr) fr false).1)∧Mv w w' base g gs:=by
 obtain ⟨⟨RD,RB,RE⟩,HR⟩:∃ R,Hid (R=wipeL D (to_ - fr) fr false):=⟨_,rfl⟩
 rw [← HR.out]
 have HD:Hid (∃ wv',Disk w base g gs wv' D):=⟨wv,hd⟩
 have HL:Hid (Lc w gl g gc b m ag uv hi rel rv):=h
 have HBS:Hid (base≤w.heap.size):=Nat.le_trans hd.bg (Nat.le_of_lt hd.blk.lt)
 clear hd h
 go_enter Tryz.func190,Tryz.ntmps190
 go_wp2
 go_loopw [8,9] (fun t8 t9 wr=>∃ (i:Nat) (bb:Bool) (D1:Dk),fr≤i∧i≤to_∧t8=.bool bb∧t9=.int .i64 (i:Int)∧Hid (wipeL D1 (to_ - i) i bb=(RD,RB,RE))∧Hid (D1.waits.length+(to_ - i)<1000000000)∧Hid (∃ wv',Disk wr base g gs wv' D1)∧Hid (Lc wr gl g gc b m ag uv hi rel rv)∧Hid (Mv w wr base g gs)) (fun _ t9 _=>to_ - (intOf t9).toNat)
 case atStart=>exact ⟨fr,false,D,Nat.le_refl _,hft,rfl,rfl,HR.out.symm,hw,HD,HL,Mv.refl _ _ _ _⟩
 case round =>
  obtain ⟨i,bb,D1,hi1,hi2,rfl,rfl,HE,HWL,HDr,HLr,HMr⟩:=hrel
  by_cases hlt:i<to_
  ·have hlt':(i:Int)<(to_:Int):=by omega
   have c0:wr.cell? ⟨gl,0,none⟩=some (.pointer (some ⟨g,0,none⟩)):=Blk.cell HLr.out 0 rfl
   have HE2:Hid ((if readE D1 i≠0 then (D1,false,readE D1 i) else if nowB D1 i=List.replicate 64 0 then wipeL D1 (to_ - (i+1)) (i+1) bb else if writeE D1 i [] ≠ 0 then (writeD D1 i [],false,writeE D1 i []) else wipeL (writeD D1 i []) (to_ - (i+1)) (i+1) true)=(RD,RB,RE)):=by
    (show _=_)
    rw [← HE.out,show to_ - i=(to_ - (i+1))+1 from by omega,wipeL]
   obtain ⟨wv1,hd1⟩:=HDr.out
   have HRC:=disk_Read wr base g gs wv1 D1 (i:Int) hd1
   have HD1:Hid (Disk wr base g gs wv1 D1):=hd1
   rw [Int.toNat_natCast] at HRC
   clear HE hd1
   go_wp2_with fail
   refine HRC.mono ?_
   rintro e w2 ⟨ht2,hb2⟩
   have HD2:Hid (Disk w2 base g gs wv1 D1):=HD1.out.stay hb2
   have HL2:Hid (Lc w2 gl g gc b m ag uv hi rel rv):=HLr.out.stay hb2
   have HM2:Hid (Mv w w2 base g gs):=HMr.out.trans (Mv.of_below g gs hb2 (Nat.le_trans HBS.out HMr.out.low.size))
   clear HRC
   rcases ht2.out with ⟨hne,rfl⟩ | ⟨h0,k,rfl,_,hk,hs⟩
   ·obtain ⟨er,her⟩:∃ er,er=readE D1 (i:Int):=⟨_,rfl⟩
    rw [← her] at hne ⊢
    have HX:Hid (RD=D1∧RB=false∧RE=er):=by
     have:=HE2.out
     rw [← her,if_pos hne] at this
     simp only [Prod.mk.injEq] at this
     exact ⟨this.1.symm,this.2.1.symm,this.2.2.symm⟩
    have e1:(er != 0)=true:=by rw [bne_iff_ne];exact hne
    have e2:(er == 0)=false:=by rw [beq_eq_false_iff_ne];exact hne
    clear ht2 hb2 her hne
    go_wp2
    go_returns
    exact ⟨by rw [HX.out.2.1,HX.out.2.2];rfl,by rw [HX.out.1];exact ⟨wv1,HD2.out⟩,HM2.out⟩
   ·have hR:Rd w2 (some ⟨k,0,none⟩) 64 (nowB D1 i):=by
     have:=Rd.of_blk hk hs.byte
     rw [hs.len] at this
     exact this
    have HEM:=evl_empty (some ⟨k,0,none⟩) 64 64 (nowB D1 i) w2 hR
    have HE3:Hid ((if nowB D1 i=List.replicate 64 0 then wipeL D1 (to_ - (i+1)) (i+1) bb else if writeE D1 i [] ≠ 0 then (writeD D1 i [],false,writeE D1 i []) else wipeL (writeD D1 i []) (to_ - (i+1)) (i+1) true)=(RD,RB,RE)):=by
     have:=HE2.out
     rw [if_neg (by rw [h0];simp)] at this
     exact this
    clear ht2 hb2 hk hs hR h0 HE2 c0
    go_wp2_with fail
    refine HEM.mono ?_
    rintro e w3 ⟨he,hb3⟩
    subst he
    have HD3:Hid (Disk w3 base g gs wv1 D1):=HD2.out.stay hb3
    have HL3:Hid (Lc w3 gl g gc b m ag uv hi rel rv):=HL2.out.stay hb3
    have HM3:Hid (Mv w w3 base g gs):=HM2.out.trans (Mv.of_below g gs hb3 (Nat.le_trans HBS.out HM2.out.low.size))
    clear HEM hb3
    by_cases hz:nowB D1 i=List.replicate 64 0
    ·have hzd:decide (nowB D1 i=List.replicate 64 0)=true:=decide_eq_true hz
     have HE4:Hid (wipeL D1 (to_ - (i+1)) (i+1) bb=(RD,RB,RE)):=by
      have:=HE3.out
      rw [if_pos hz] at this
      exact this
     rw [hzd]
     clear hz hzd
     go_wp2
     go_roundw
     case rel=>exact ⟨i+1,bb,D1,by omega,by omega,rfl,by go_num,HE4,by have:=HWL.out;(show _<_);omega,⟨wv1,HD3.out⟩,HL3,HM3⟩
     case measure=>(simp [intOf];omega)
    ·have hzd:decide (nowB D1 i=List.replicate 64 0)=false:=decide_eq_false hz
     have HE4:Hid ((if writeE D1 i [] ≠ 0 then (writeD D1 i [],false,writeE D1 i []) else wipeL (writeD D1 i []) (to_ - (i+1)) (i+1) true)=(RD,RB,RE)):=by
      have:=HE3.out
      rw [if_neg hz] at this
      exact this
     rw [hzd]
     have c0:w3.cell? ⟨gl,0,none⟩=some (.pointer (some ⟨g,0,none⟩)):=Blk.cell HL3.out 0 rfl
     have HWC:=disk_Write w3 base g gs wv1 D1 (i:Int) none 0 0 [] HD3.out (fun _ _=>⟨rfl,fun x hx=>(by cases hx),.inl rfl⟩) (by omega) (by have:=HWL.out;omega)
     obtain ⟨er,her⟩:∃ er,er=writeE D1 (i:Int) []:=⟨_,rfl⟩
     rw [← her] at HWC
     have HER:Hid (er=writeE D1 (i:Int) []):=her
     clear hz hzd her
     go_wp2_with fail
     refine HWC.mono ?_
     rintro e w4 ⟨rfl,hd4,hm4⟩
     have HD4:Hid (∃ wv',Disk w4 base g gs wv' (writeD D1 i [])):=hd4.out
     have HL4:Hid (Lc w4 gl g gc b m ag uv hi rel rv):=HL3.out.mv HD3.out hm4
     have HM4:Hid (Mv w w4 base g gs):=HM3.out.trans hm4
     clear HWC hd4 hm4 c0
     by_cases hwe:er=0
     ·have HE5:Hid (wipeL (writeD D1 i []) (to_ - (i+1)) (i+1) true=(RD,RB,RE)):=by
       have:=HE4.out
       rw [if_neg (by rw [← HER.out,hwe];simp)] at this
       exact this
      have HW5:Hid ((writeD D1 i []).waits.length+(to_ - (i+1))<1000000000):=by
       have:=write_wl D1 i []
       have:=HWL.out
       (show _<_)
       omega
      subst hwe
      go_wp2
      go_roundw
      case rel=>exact ⟨i+1,true,_,by omega,by omega,rfl,by go_num,HE5,HW5,HD4,HL4,HM4⟩
      case measure=>(simp [intOf];omega)
     ·have HX:Hid (RD=writeD D1 i [] ∧ RB=false∧RE=er):=by
       have:=HE4.out
       rw [if_pos (by rw [← HER.out];exact hwe),← HER.out] at this
       simp only [Prod.mk.injEq] at this
       exact ⟨this.1.symm,this.2.1.symm,this.2.2.symm⟩
      have e1:(er != 0)=true:=by rw [bne_iff_ne];exact hwe
      have e2:(er == 0)=false:=by rw [beq_eq_false_iff_ne];exact hwe
      clear hwe
      go_wp2
      go_returns
      exact ⟨by rw [HX.out.2.1,HX.out.2.2];rfl,by rw [HX.out.1];exact HD4,HM4.out⟩
  ·obtain rfl:i=to_:=by omega
   have hlt':¬ (i:Int)<(i:Int):=by omega
   have HX:Hid (RD=D1∧RB=bb∧RE=0):=by
    have:=HE.out
    rw [show i - i=0 from by omega,wipeL] at this
    simp only [Prod.mk.injEq] at this
    exact ⟨this.1.symm,this.2.1.symm,this.2.2.symm⟩
   go_wp2
   go_returns
   exact ⟨by rw [HX.out.2.1,HX.out.2.2];rfl,by rw [HX.out.1];exact HDr,HMr.out⟩
end
section
open Go.RowKit
def tellE (D:Dk) (i:Nat):List Nat:=if readE D i=0 then nowB D i else []
theorem ReadTold.uniE {w:World} {B:Nat} {e:Ending} {er:Int} {s:List Nat} (h:ReadTold w B e er s):∃ a l c,e=.returned (.tuple #[.slice a l c,.int .i64 er])∧Rd w a l (if er=0 then s else [])∧(l=64→64≤c)∧c≤64:=by
 rcases h with ⟨h0,rfl⟩ | ⟨h0,k,rfl,_,hk,hs⟩
 ·exact ⟨none,0,0,rfl,by rw [if_neg h0];exact ⟨rfl,fun x hx=>(by cases hx),.inl rfl⟩,fun h=>(by omega),by omega⟩
 ·refine ⟨_,64,64,by rw [h0],?_,fun _=>Nat.le_refl _,Nat.le_refl _⟩
  rw [if_pos h0]
  have:=Rd.of_blk hk hs.byte
  rw [hs.len] at this
  exact this
def gatherL (D:Dk) (at_:Nat):Nat→Nat→Nat→List Nat→Option (List Nat×Nat)
 | 0,_,_,_=>none
 | cnt+1,i,kd,all=>if goodE (tellE D (at_+i))=true∧(tellE D (at_+i)).getD 1 0=kd then (if lastE (tellE D (at_+i))=true then some (all++payE (tellE D (at_+i)),i+1) else gatherL D at_ cnt (i+1) 3 (all++payE (tellE D (at_+i)))) else none
def GatherTold (w:World) (B:Nat) (e:Ending) (r:Option (List Nat×Nat)):Prop :=
 (r=none∧e=.returned (.tuple #[.slice none 0 0,.int .i64 0]))∨∃ all en a n c,r=some (all,en)∧e=.returned (.tuple #[.slice a n c,.int .i64 ((en:Nat):Int)])∧Own w B a n c all∧n≤944∧en≤16
theorem Own.none0 (w:World) (base:Nat):Own w base Option.none 0 0 []:=⟨World.ownsRow_nil _ _ _ _,fun x hx=>(by cases hx)⟩
theorem Own.lower {w:World} {base base':Nat} {a:Option Addr} {n c:Nat} {bs:List Nat} (h:Own w base a n c bs) (hb:base'≤base):Own w base' a n c bs:=by
 refine ⟨⟨h.row.1,?_⟩,h.byte⟩
 rcases h.row.2 with h1 | ⟨g,cp,cur,a1,a2,r⟩
 ·exact .inl h1
 ·exact .inr ⟨g,cp,cur,a1,Nat.le_trans hb a2,r⟩
theorem evl_gather (w:World) (base g gs:Nat) (wv:Value) (D:Dk) (gl gc b m ag hi rel:Nat) (uv rv:Value) (at_ en:Nat) (num shi:Int) (hd:Disk w base g gs wv D) (h:Lc w gl g gc b m ag uv hi rel rv) (hat:at_≤100000) (hen:en≤16) :
  Calls Tryz.prog 328 #[.pointer (some ⟨gl,0,none⟩),.agg #[.int .i64 (at_:Int),.int .i64 num,.int .i64 shi,.int .i64 (en:Int)]] w fun e w'=>Hid (GatherTold w' w.heap.size e (gatherL D at_ (16 - en) en 2 []))∧Below w.heap.size w w':=by
 obtain ⟨R,HR⟩:∃ R,Hid (R=gatherL D at_ (16 - en) en 2 []):=⟨_,rfl⟩
 rw [← HR.out]
 obtain ⟨W1,HW1⟩:∃ W1,Hid (W1=w.alloc (.cells #[.int .i64 (at_:Int),.int .i64 num,.int .i64 shi,.int .i64 (en:Int)] 169)):=⟨_,rfl⟩
 have HB1:Hid (Below w.heap.size w W1):=by (show Below _ _ _);rw [HW1.out];exact below_alloc _ _
 have HK1:Hid (Blk W1 w.heap.size #[.int .i64 (at_:Int),.int .i64 num,.int .i64 shi,.int .i64 (en:Int)] 169):=by (show Blk _ _ _ _);rw [HW1.out];exact Blk.new _ _ _
 have HD1:Hid (Disk W1 base g gs wv D):=hd.stay HB1.out
 have HL1:Hid (Lc W1 gl g gc b m ag uv hi rel rv):=h.stay HB1.out
 have HSZ:Hid (w.heap.size+1≤W1.heap.size):=HK1.out.lt
 have c3:W1.cell? ⟨w.heap.size,3,none⟩=some (.int .i64 (en:Int)):=HK1.out.cell 3 rfl
 clear hd h
 go_enter Tryz.func328,Tryz.ntmps328
 go_wp2
 rw [← HW1.out]
 clear c3
 go_loopw [6,7,8] (fun t6 t7 t8 wr=>∃ (i kd:Nat) (all:List Nat) (a6:Option Addr) (n6 c6:Nat),en≤i∧i≤16∧t6=.slice a6 n6 c6∧t7=.int .u8 (kd:Int)∧t8=.int .i64 (i:Int)∧Hid (gatherL D at_ (16 - i) i kd all=R)∧Hid (all.length≤59 * i)∧Hid (Own wr W1.heap.size a6 n6 c6 all)∧Hid (Below W1.heap.size W1 wr)) (fun _ _ t8 _=>16 - (intOf t8).toNat)
 case atStart=>exact ⟨en,2,[],none,0,0,by omega,by omega,rfl,rfl,rfl,HR.out.symm,Nat.zero_le _,Own.none0 _ _,Below.refl _ _⟩
 case round =>
  obtain ⟨i,kd,all,a6,n6,c6,hi1,hi2,rfl,rfl,rfl,HE,HAL,HO,HB⟩:=hrel
  have HBW:Hid (Below w.heap.size w wr):=HB1.out.trans (HB.out.mono HB1.out.size)
  by_cases hlt:i<16
  ·have hlt':(i:Int)<16:=by omega
   have HBD:Hid (Below W1.heap.size W1 wr.drew):=HB.out.drew
   have HDr:Hid (Disk wr.drew base g gs wv D):=HD1.out.stay HBD.out
   have HLr:Hid (Lc wr.drew gl g gc b m ag uv hi rel rv):=HL1.out.stay HBD.out
   have HKr:Hid (Blk wr.drew w.heap.size #[.int .i64 (at_:Int),.int .i64 num,.int .i64 shi,.int .i64 (en:Int)] 169):=HK1.out.stay HBD.out
   have s0:wr.drew.cell? ⟨gl,0,none⟩=some (.pointer (some ⟨g,0,none⟩)):=Blk.cell HLr.out 0 rfl
   have s1:wr.drew.cell? ⟨w.heap.size,0,none⟩=some (.int .i64 (at_:Int)):=HKr.out.cell 0 rfl
   obtain ⟨P,hP⟩:∃ P,P=at_+i:=⟨_,rfl⟩
   have q1:(at_:Int)+(i:Int)=(P:Int):=by omega
   have q2:IntKind.i64.wrap (P:Int)=(P:Int):=by rw [IntKind.wrap_i64];omega
   obtain ⟨S,HS⟩:∃ S,Hid (S=tellE D P):=⟨_,rfl⟩
   obtain ⟨er,HER⟩:∃ er,Hid (er=readE D (P:Int)):=⟨_,rfl⟩
   have HE2:Hid ((if goodE S=true∧S.getD 1 0=kd then (if lastE S=true then some (all++payE S,i+1) else gatherL D at_ (16 - (i+1)) (i+1) 3 (all++payE S)) else none)=R):=by
    (show _=_)
    rw [← HE.out,show 16 - i=(16 - (i+1))+1 from by omega,gatherL,← hP,← HS.out]
   have HRC:Hid (∀ W,Disk W base g gs wv D→Calls Tryz.prog 202 #[.pointer (some ⟨g,0,none⟩),.int .i64 (P:Int)] W fun e w'=>(∃ a l c,e=.returned (.tuple #[.slice a l c,.int .i64 er])∧Hid (Rd w' a l S∧(l=64→64≤c)∧c≤64))∧Below W.heap.size W w'):=fun W hW=>by
    refine (disk_Read W base g gs wv D (P:Int) hW).mono ?_
    rintro e w' ⟨ht,hb⟩
    obtain ⟨a,l,c,he,h1,h2,h3⟩:=ht.out.uniE
    refine ⟨⟨a,l,c,by rw [he,HER.out],?_,h2,h3⟩,hb⟩
    rw [HS.out]
    unfold tellE
    rw [Int.toNat_natCast] at h1
    exact h1
   clear hP HE
   go_wp2
   go_region_held3 (fun w'=>w'.cell? ⟨gl,0,none⟩=some (.pointer (some ⟨g,0,none⟩))∧w'.cell? ⟨w.heap.size,0,none⟩=some (.int .i64 (at_:Int))) (first | exact ⟨s0,s1⟩ | exact s3 | fail)
    (first
     | (go_at_call 202;refine (HRC.out _ HDr.out).mono ?_;rintro e w2 ⟨⟨a2,l2,c2,rfl,hr2⟩,hb2⟩;have s3:w2.cell? ⟨gl,0,none⟩=some (.pointer (some ⟨g,0,none⟩))∧w2.cell? ⟨w.heap.size,0,none⟩=some (.int .i64 (at_:Int)):=⟨Blk.cell (HLr.out.stay hb2) 0 rfl,(HKr.out.stay hb2).cell 0 rfl⟩))
   have HB2:Hid (Below W1.heap.size W1 w2):=HBD.out.trans (hb2.mono HBD.out.size)
   have HO2:Hid (Own w2 W1.heap.size a6 n6 c6 all):=(HO.out.below (Below.refl _ _).drew).below hb2
   have HR2:Hid (Rd w2 a2 l2 S∧(l2=64→64≤c2)∧c2≤64):=hr2.out
   clear s0 s1 s3 hb2 hr2 q1 q2
   go_wp2_with fail
   refine (evl_look a2 l2 c2 S w2 HR2.out.1 HR2.out.2.1 (by have:=HR2.out.2.2;omega)).mono ?_
   rintro e w3 ⟨ht3,hb3⟩
   obtain ⟨k3,ls,a3,n3,rfl,hgd⟩:=ht3.out
   obtain ⟨W4,HW4⟩:∃ W4,Hid (W4=w3.alloc (.cells #[.int .u8 (k3:Int),.bool ls,.slice a3 n3 n3] 173)):=⟨_,rfl⟩
   have HBW4:Hid (Below w3.heap.size w3 W4):=by (show Below _ _ _);rw [HW4.out];exact below_alloc _ _
   have HK4:Hid (Blk W4 w3.heap.size #[.int .u8 (k3:Int),.bool ls,.slice a3 n3 n3] 173):=by (show Blk _ _ _ _);rw [HW4.out];exact Blk.new _ _ _
   have HB3:Hid (Below W1.heap.size W1 w3):=HB2.out.trans (hb3.mono HB2.out.size)
   have HB4:Hid (Below W1.heap.size W1 W4):=HB3.out.trans (HBW4.out.mono HB3.out.size)
   have HO4:Hid (Own W4 W1.heap.size a6 n6 c6 all):=(HO2.out.below hb3).below HBW4.out
   have HGD:Hid (goodE S=true→k3=S.getD 1 0∧ls=lastE S∧Rd w3 a3 n3 (payE S)∧n3≤59):=hgd
   have HBF:Hid (Below w.heap.size w W4):=HB1.out.trans (HB4.out.mono HB1.out.size)
   have g0:W4.cell? ⟨w3.heap.size,0,none⟩=some (.int .u8 (k3:Int)):=HK4.out.cell 0 rfl
   have g1:W4.cell? ⟨w3.heap.size,1,none⟩=some (.bool ls):=HK4.out.cell 1 rfl
   have g2:W4.cell? ⟨w3.heap.size,2,none⟩=some (.slice a3 n3 n3):=HK4.out.cell 2 rfl
   clear ht3 hb3 hgd
   go_upto_region 8 with fail
   rw [← HW4.out]
   cases hg:goodE S with
   | false =>
    have HX:Hid (R=none):=by (show _=_);rw [← HE2.out,if_neg (by rw [hg];simp)]
    clear hg
    go_wp2
    go_returns
    exact ⟨.inl ⟨HX.out,rfl⟩,HBF.out⟩
   | true =>
    obtain ⟨j1,j2,j3,j4⟩:=HGD.out hg
    by_cases hkd:k3=kd
    ·have HE3:Hid ((if ls=true then some (all++payE S,i+1) else gatherL D at_ (16 - (i+1)) (i+1) 3 (all++payE S))=R):=by
      (show _=_)
      rw [← HE2.out,j2]
      exact (if_pos ⟨hg,by rw [← j1];exact hkd⟩).symm
     have HRP:Hid (Rd W4 a3 n3 (payE S)):=j3.below HBW4.out
     have HN3:Hid (n3≤59∧(payE S).length=n3):=⟨j4,j3.size⟩
     have HNA:Hid (a3=none→n3=0):=fun h=>by
      rcases j3.cells with h0 | ⟨_,_,e,_⟩
      ·exact h0
      ·rw [h] at e;cases e
     have HN6:Hid (all.length=n6∧n6≤59 * i):=⟨HO.out.size,by rw [← HO.out.size];exact HAL.out⟩
     have ek:((k3:Int) != (kd:Int))=false:=by rw [hkd];simp
     clear hg j1 j2 j3 j4
     subst hkd
     have ek2:((k3:Int) != (k3:Int))=false:=by simp
     go_wp2_with (guard_target =~ wpList _ _ _ (Oper.mk (some 47) _ _ _ _ _ :: _) _ _;refine wpList_append_rd rfl (.tmp 44) (.tmp 46) rfl W1.heap.size a6 n6 c6 all rfl HO4.out a3 n3 n3 (payE S) rfl HRP.out HNA.out (by have:=HN3.out;have:=HN6.out;omega) HB4.out.size ?_)
     intro a7 c7 w7 ho7 hg7 hb7
     have HO7:Hid (Own w7 W1.heap.size a7 (n6+n3) c7 (all++payE S)):=ho7
     have HB7:Hid (Below W1.heap.size W1 w7):=HB4.out.trans hb7
     have HBF7:Hid (Below w.heap.size w w7):=HB1.out.trans (HB7.out.mono HB1.out.size)
     have hk7:Blk w7 w3.heap.size #[.int .u8 (k3:Int),.bool ls,.slice a3 n3 n3] 173:=HK4.out.grown hg7 (own_ne HO4.out.row HK4.out (by decide))
     have g1:w7.cell? ⟨w3.heap.size,1,none⟩=some (.bool ls):=hk7.cell 1 rfl
     clear ho7 hg7 hb7 hk7
     cases ls with
     | true =>
      have HX:Hid (R=some (all++payE S,i+1)):=by (show _=_);rw [← HE3.out,if_pos rfl]
      go_wp2
      go_returns
      exact ⟨.inr ⟨_,i+1,a7,n6+n3,c7,HX.out,rfl,HO7.out.lower (by have:=HSZ.out;omega),by have:=HN3.out;have:=HN6.out;omega,by omega⟩,HBF7.out⟩
     | false =>
      have HE4:Hid (gatherL D at_ (16 - (i+1)) (i+1) 3 (all++payE S)=R):=by (show _=_);rw [← HE3.out,if_neg (by simp)]
      have HAL4:Hid ((all++payE S).length≤59 * (i+1)):=by (show _≤_);rw [List.length_append];have:=HN3.out;have:=HAL.out;omega
      go_wp2
      go_roundw
      case rel=>exact ⟨i+1,3,all++payE S,a7,n6+n3,c7,by omega,by omega,rfl,rfl,by go_num,HE4,HAL4,HO7,HB7⟩
      case measure=>(simp [intOf];omega)
    ·have HX:Hid (R=none):=by (show _=_);rw [← HE2.out,if_neg (fun hh=>hkd (by rw [j1];exact hh.2))]
     have ek:((k3:Int) != (kd:Int))=true:=by rw [bne_iff_ne];omega
     have ek2:((k3:Int) == (kd:Int))=false:=by rw [beq_eq_false_iff_ne];omega
     clear hg j1 j2 j3 j4
     go_wp2
     go_returns
     exact ⟨.inl ⟨HX.out,rfl⟩,HBF.out⟩
  ·obtain rfl:i=16:=by omega
   have hlt':¬ ((16:Nat):Int)<16:=by omega
   have HX:Hid (R=none):=by (show _=_);rw [← HE.out];rfl
   go_wp2
   go_returns
   exact ⟨.inl ⟨HX.out,rfl⟩,HBW.out⟩
end
end Go.Proofs.YtoiennkfdjnkbaaGreatDoor
