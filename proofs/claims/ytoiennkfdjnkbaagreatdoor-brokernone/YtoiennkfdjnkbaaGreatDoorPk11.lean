import Derived.Test.YtoiennkfdjnkbaaGreatDoorPk10
set_option maxRecDepth 100000
set_option maxHeartbeats 8000000
namespace Go.Proofs.YtoiennkfdjnkbaaGreatDoor
section
open Go.RowKit
def readAllF (D:Dk):List Sg→Nat→List (Nat×List Nat)→List Sg×Nat×List (Nat×List Nat)
 | [],hi,acc=>([],hi,acc)
 | s :: U,hi,acc=>(⟨s.at_,s.num,(readF D s.at_ 17 (max hi s.high) s.en acc).1,(readF D s.at_ 17 (max hi s.high) s.en acc).2.1⟩ :: (readAllF D U (readF D s.at_ 17 (max hi s.high) s.en acc).1 (readF D s.at_ 17 (max hi s.high) s.en acc).2.2).1,(readAllF D U (readF D s.at_ 17 (max hi s.high) s.en acc).1 (readF D s.at_ 17 (max hi s.high) s.en acc).2.2).2)
theorem readF_len (D:Dk) (at_:Nat):∀ (f hi en:Nat) (acc:List (Nat×List Nat)),(readF D at_ f hi en acc).2.2.length≤acc.length+f
 | 0,_,_,_=>Nat.le_refl _
 | f+1,hi,en,acc=>by
  rw [readF]
  split
  ·simp only;omega
  ·rename_i v bs e _
   have:=readF_len D at_ f v e (acc++[(v,bs)])
   rw [List.length_append,List.length_singleton] at this
   omega
theorem sgflat_len:∀ L:List Sg,(L.flatMap sgc).length=L.length * 4
 | [] => rfl
 | s :: L=>by rw [List.flatMap_cons,List.length_append,sgflat_len L,List.length_cons];simp [sgc];omega
theorem Sgs.cut {w:World} {base:Nat} {v:Value} {done rest:List Sg} {s:Sg} (h:Sgs w base v (done++s :: rest)):∃ gu c spare,v=.slice (some ⟨gu,0,none⟩) (done++s :: rest).length c∧base≤gu∧Blk w gu (rowS (done.flatMap sgc) s (rest.flatMap sgc++spare)) 169∧∀ (w':World) (s':Sg),Blk w' gu (rowS (done.flatMap sgc) s' (rest.flatMap sgc++spare)) 169→Sgs w' base v (done++s' :: rest):=by
 have hl:∀ s':Sg,(done++s' :: rest).length=done.length+rest.length+1:=fun s'=>by rw [List.length_append,List.length_cons];omega
 have hf:∀ s':Sg,(done++s' :: rest).flatMap sgc=done.flatMap sgc++(sgc s'++rest.flatMap sgc):=fun s'=>by rw [List.flatMap_append,List.flatMap_cons]
 rcases h.2 with ⟨_,h0⟩ | ⟨gu,c,cur,hv,hb,hg,hlc,hcm,hcs,hx⟩
 ·rw [hl] at h0;omega
 ·have hcur:cur.toList=(done++s :: rest).flatMap sgc++cur.toList.drop ((done++s :: rest).length * 4):=by
   rw [← hx]
   exact (List.take_append_drop _ _).symm
  have hrow:∀ s':Sg,rowS (done.flatMap sgc) s' (rest.flatMap sgc++cur.toList.drop ((done++s :: rest).length * 4))=((done++s' :: rest).flatMap sgc++cur.toList.drop ((done++s :: rest).length * 4)).toArray:=fun s'=>by
   unfold rowS
   rw [hf]
   simp only [List.append_assoc]
  refine ⟨gu,c,cur.toList.drop ((done++s :: rest).length * 4),hv,hb,?_,fun w' s' hb' => ?_⟩
  ·rw [hrow,← hcur]
   simpa [Blk] using hg
  ·rw [hrow] at hb'
   have hlen:((done++s' :: rest).flatMap sgc++cur.toList.drop ((done++s :: rest).length * 4)).length=c * 4:=by
    rw [List.length_append,sgflat_len,List.length_drop,hl,hl]
    have h3:cur.toList.length=c * 4:=by simpa using hcs
    rw [h3]
    rw [hl] at hlc
    omega
   refine ⟨by rw [sgflat_len],.inr ⟨gu,c,_,by rw [hv,hl,hl],hb,hb',by rw [hl] at hlc ⊢;exact hlc,hcm,by simpa using hlen,?_⟩⟩
   rw [List.toList_toArray,← sgflat_len]
   exact List.take_left
theorem headsF_ok (D:Dk) (b:Nat):∀ n,∀ s∈headsF D b n,s.at_≤b+2+n * 16∧s.en=1∧s.high≤1099511627776
 | 0,s,hs=>by cases hs
 | n+1,s,hs=>by
  rw [headsF,List.mem_append] at hs
  rcases hs with hs | hs
  ·have:=headsF_ok D b n s hs
   omega
  ·unfold headAt at hs
   split at hs
   ·rename_i hok
    have:=headE_ok _ hok
    rw [List.mem_singleton] at hs
    subst hs
    refine ⟨?_,rfl,?_⟩
    ·show b+2+n * 16≤_
     omega
    ·show (headE (tellE D (b+2+n * 16))).2.1.toNat≤_
     omega
   ·cases hs
theorem evl_read (w:World) (base g gs:Nat) (wv:Value) (D:Dk) (gl gc b m ag:Nat) (U0:List Sg) (uv:Value) (hi rel:Nat) (rv:Value) (r:Nat) (h:Lg w base g gs wv D gl gc b m ag U0 uv hi rel [] rv) (hb:b≤1000) (hm:m≤1000) (hhi:hi≤1099511627776) (hr:(getB D b 1 0).1=(r:Int)) (hone:(headsF D b m).length≤1) (ht:∀ p∈(readAllF D (headsF D b m) hi []).2.2,r<p.1) :
  Calls Tryz.prog 184 #[.pointer (some ⟨gl,0,none⟩)] w fun e w'=>e=.returned (.tuple #[])∧Hid (∃ uv' rv' L',L'.map plR=(readAllF D (headsF D b m) hi []).2.2∧Lg w' base g gs wv D gl gc b m ag (readAllF D (headsF D b m) hi []).1 uv' (max (readAllF D (headsF D b m) hi []).2.1 r) r L' rv')∧Hid (Kt w w')∧Below base w w':=by
 have HG:Hid (Lg w base g gs wv D gl gc b m ag U0 uv hi rel [] rv):=h
 obtain ⟨U,HU⟩:∃ U,Hid (U=headsF D b m):=⟨_,rfl⟩
 have HUK:Hid (∀ s∈U,s.at_≤100000∧s.en=1∧s.high≤1099511627776):=fun s hs=>by
  rw [HU.out] at hs
  have:=headsF_ok D b m s hs
  omega
 have HHD:=evl_heads w base g gs wv D gl gc b m ag hi rel uv rv h.disk h.log hb hm hone
 have HUL:Hid (U.length≤1):=by (show _≤_);rw [HU.out];exact hone
 rw [← HU.out] at HHD ht ⊢
 obtain ⟨⟨RU,RH,RA⟩,HR⟩:∃ R,Hid (R=readAllF D U hi []):=⟨_,rfl⟩
 rw [← HR.out] at ht ⊢
 simp only at ht ⊢
 have HT:Hid (∀ p∈RA,r<p.1):=ht
 clear h ht hone
 go_enter Tryz.func184,Tryz.ntmps184
 go_wp2_with fail
 refine HHD.mono ?_
 rintro e w1 ⟨ht1,hb1⟩
 obtain ⟨au,cu,rfl,hs1⟩:=ht1.out
 have HG1:Hid (Lg w1 base g gs wv D gl gc b m ag U0 uv hi rel [] rv):=HG.out.below hb1
 obtain ⟨p1,p2,p3,p4,p5,p6⟩:=HG1.out.put 5 (.slice au U.length cu)
 have hs1':Sgs w1 base (.slice au U.length cu) U:=by
  refine ⟨hs1.1,?_⟩
  rcases hs1.2 with q | ⟨gg,cp,cur,q1,q2,q3⟩
  ·exact .inl q
  ·exact .inr ⟨gg,cp,cur,q1,Nat.le_trans HG.out.sz q2,q3⟩
 obtain ⟨W2,HW2⟩:∃ W2,Hid (W2=w1.setCell ⟨gl,5,none⟩ (.slice au U.length cu)):=⟨_,rfl⟩
 have HG2:Hid (Lg W2 base g gs wv D gl gc b m ag U (.slice au U.length cu) hi rel [] rv):=by
  (show Lg _ _ _ _ _ _ _ _ _ _ _ _ _ _ _ _ _)
  rw [HW2.out]
  exact ⟨p1,Blk.set HG1.out.log 5 _,p2,row_set hs1' (own_ne hs1' HG1.out.log (by decide)),p4,HG1.out.bl⟩
 have HK2:Hid (Kt w W2):=by (show Kt _ _);rw [HW2.out];exact (Kt.of_below hb1).trans p5
 have HB2:Hid (Below base w W2):=by (show Below _ _ _);rw [HW2.out];exact (hb1.mono HG.out.sz).trans p6
 have c5:w1.cell? ⟨gl,5,none⟩=some uv:=Blk.cell HG1.out.log 5 rfl
 have f5:w1.frozen? ⟨gl,5,none⟩=false:=Blk.free HG1.out.log 5
 clear p1 p2 p3 p4 p5 p6 hs1 hs1' ht1 hb1 HHD
 go_upto_region 1 with fail
 rw [← HW2.out]
 have c5:W2.cell? ⟨gl,5,none⟩=some (.slice au U.length cu):=Blk.cell HG2.out.log 5 rfl
 go_wp2_with fail
 go_loopw [15] (fun t15 wr=>∃ (i:Nat) (done rest:List Sg) (hi1:Nat) (L1:List Rc) (rv1:Value),i≤U.length∧t15=.int .i64 (i:Int)∧i=done.length∧i+rest.length=U.length∧hi1≤1099511627776∧Hid (U.drop i=rest)∧Hid (L1.length≤17 * i)∧Hid (done++(readAllF D rest hi1 (L1.map plR)).1=RU∧(readAllF D rest hi1 (L1.map plR)).2=(RH,RA))∧Hid (Lg wr base g gs wv D gl gc b m ag (done++rest) (.slice au U.length cu) hi1 rel L1 rv1)∧Hid (Kt w wr)∧Hid (Below base w wr)) (fun t15 _=>U.length - (intOf t15).toNat)
 case atStart=>exact ⟨0,[],U,hi,[],rv,Nat.zero_le _,rfl,rfl,by simp,hhi,rfl,Nat.zero_le _,by rw [List.map_nil,← HR.out];exact ⟨rfl,rfl⟩,HG2,HK2,HB2⟩
 case round =>
  obtain ⟨i,done,rest,hi1,L1,rv1,hi2,rfl,hdone,hrest,hhi1,HDR,HL1,HRR,HGr,HKr,HBr⟩:=hrel
  by_cases hlt:i<U.length
  ·obtain ⟨s,rest,rfl⟩:∃ s r,rest=s :: r:=by
    cases rest with
    | nil=>simp at hrest;omega
    | cons s r=>exact ⟨s,r,rfl⟩
   have hsU:s∈U:=List.mem_of_mem_drop (i:=i) (by rw [HDR.out];exact List.mem_cons_self)
   obtain ⟨k1,k2,k3⟩:=HUK.out s hsU
   obtain ⟨gu,c,spare,hv,hbu,hblk,hshut⟩:=HGr.out.used.cut
   have ha:au=some ⟨gu,0,none⟩:=by simp only [Value.slice.injEq] at hv;exact hv.1
   subst ha
   have hul:U.length≤1:=HUL.out
   have hlt':(i:Int)<(U.length:Int):=by omega
   have hge:(0:Int)≤(i:Int):=by omega
   have d5:wr.cell? ⟨gl,5,none⟩=some (.slice (some ⟨gu,0,none⟩) U.length cu):=Blk.cell HGr.out.log 5 rfl
   have HRS:=evl_readSegment wr base g gs wv D gl gc b m ag hi1 rel (.slice (some ⟨gu,0,none⟩) U.length cu) rv1 gu (i * 4) (done.flatMap sgc) (rest.flatMap sgc++spare) s L1 ⟨HGr.out.disk,HGr.out.log,hblk,HGr.out.recs,HGr.out.bl,hbu⟩ (by rw [sgflat_len,← hdone]) k1 (by omega) hhi1 k3 (by have:=HL1.out;have:=HUL.out;omega)
   have HSH:Hid (∀ (w':World) (s':Sg),Blk w' gu (rowS (done.flatMap sgc) s' (rest.flatMap sgc++spare)) 169→Sgs w' base (.slice (some ⟨gu,0,none⟩) U.length cu) (done++s' :: rest)):=hshut
   have HDN:Hid (i=done.length):=hdone
   have HRT:Hid (i+(s :: rest).length=U.length):=hrest
   clear hv hbu hblk hshut hsU k1 k2 k3 c5 hdone hrest
   go_wp2_with fail
   refine HRS.mono ?_
   rintro e w2 ⟨rfl,hh,hk2,hb2⟩
   obtain ⟨rv2,L2,hi3,en3,heq,hhi3,hrd⟩:=hh.out
   have HEQ:Hid (readF D s.at_ 17 (max hi1 s.high) s.en (L1.map plR)=(hi3,en3,L2.map plR)):=heq
   have HL3:Hid (L2.length≤17 * (i+1)):=by
    (show _≤_)
    have:=readF_len D s.at_ 17 (max hi1 s.high) s.en (L1.map plR)
    rw [heq] at this
    simp only [List.length_map] at this
    have:=HL1.out
    omega
   have HG3:Hid (Lg w2 base g gs wv D gl gc b m ag ((done++[⟨s.at_,s.num,hi3,en3⟩])++rest) (.slice (some ⟨gu,0,none⟩) U.length cu) hi3 rel L2 rv2):=by
    (show Lg _ _ _ _ _ _ _ _ _ _ _ _ _ _ _ _ _)
    rw [List.append_assoc]
    exact ⟨hrd.disk,hrd.log,Kt.keep hk2.out HGr.out.cells (by decide) (by decide) (by decide),HSH.out w2 _ hrd.row,hrd.recs,hrd.bl⟩
   have HK3:Hid (Kt w w2):=HKr.out.trans hk2.out
   have HB3:Hid (Below base w w2):=HBr.out.trans hb2
   have HR3:Hid ((done++[⟨s.at_,s.num,hi3,en3⟩])++(readAllF D rest hi3 (L2.map plR)).1=RU∧(readAllF D rest hi3 (L2.map plR)).2=(RH,RA)):=by
    (show _∧_)
    have h1:=HRR.out
    rw [readAllF,HEQ.out] at h1
    simp only at h1
    refine ⟨?_,h1.2⟩
    rw [← h1.1,List.append_assoc]
    rfl
   have HD3:Hid (U.drop (i+1)=rest):=by
    (show _=_)
    rw [← List.drop_drop,HDR.out]
    rfl
   have hr3:i+1+rest.length=U.length:=by have hrest:=HRT.out;rw [List.length_cons] at hrest;omega
   have hd3:i+1=(done++[(⟨s.at_,s.num,hi3,en3⟩:Sg)]).length:=by rw [List.length_append,List.length_singleton,← HDN.out]
   have HD3':Hid (i+1=(done++[(⟨s.at_,s.num,hi3,en3⟩:Sg)]).length∧i+1+rest.length=U.length):=⟨hd3,hr3⟩
   clear hh heq hrd hb2 hk2 HRS hd3 hr3
   go_wp2
   go_roundw
   case rel=>exact ⟨i+1,_,rest,hi3,L2,rv2,by omega,by go_num,HD3'.out.1,HD3'.out.2,hhi3,HD3,HL3,HR3,HG3,HK3,HB3⟩
   case measure=>(simp [intOf];omega)
  ·obtain rfl:i=U.length:=by omega
   obtain rfl:rest=[]:=List.length_eq_zero_iff.1 (by omega)
   have hlt':¬ (U.length:Int)<(U.length:Int):=by omega
   have HE:Hid (done=RU∧hi1=RH∧L1.map plR=RA):=by
    (show _∧_∧_)
    have h1:=HRR.out
    rw [readAllF] at h1
    simp only [List.append_nil,Prod.mk.injEq] at h1
    exact h1
   have HGq:Hid (Lg wr base g gs wv D gl gc b m ag done (.slice au U.length cu) hi1 rel L1 rv1):=by
    have:=HGr.out
    rw [List.append_nil] at this
    exact this
   have d1:wr.cell? ⟨gl,1,none⟩=some (.pointer (some ⟨gc,0,none⟩)):=Blk.cell HGq.out.log 1 rfl
   have HGT:=cells_Get wr base g gs wv D gc b 1 0 HGq.out.disk HGq.out.cells hb (by omega)
   rw [hr] at HGT
   clear c5 hdone hrest
   go_wp2_with fail
   refine HGT.mono ?_
   rintro e w3 ⟨rfl,hb3⟩
   have HG3:Hid (Lg w3 base g gs wv D gl gc b m ag done (.slice au U.length cu) hi1 rel L1 rv1):=HGq.out.below hb3
   have HK3:Hid (Kt w w3):=HKr.out.trans (Kt.of_below hb3)
   have HB3:Hid (Below base w w3):=HBr.out.trans (hb3.mono HGq.out.sz)
   have c6:w3.cell? ⟨gl,6,none⟩=some (.int .i64 (hi1:Int)):=Blk.cell HG3.out.log 6 rfl
   have f6:w3.frozen? ⟨gl,6,none⟩=false:=Blk.free HG3.out.log 6
   clear HGT d1 hb3
   go_upto_region 8 with fail
   obtain ⟨H,HH⟩:∃ H,Hid (H=max hi1 r):=⟨_,rfl⟩
   rw [show (if hi1<r then (r:Int) else (hi1:Int))=((H:Nat):Int) from by rw [HH.out];split <;> omega]
   obtain ⟨p1,p2,p3,p4,p5,p6⟩:=HG3.out.put 6 (.int .i64 (H:Int))
   obtain ⟨W4,HW4⟩:∃ W4,Hid (W4=w3.setCell ⟨gl,6,none⟩ (.int .i64 (H:Int))):=⟨_,rfl⟩
   rw [← HW4.out] at p1 p2 p3 p4 p5 p6 ⊢
   have HG4:Hid (Lg W4 base g gs wv D gl gc b m ag done (.slice au U.length cu) H rel L1 rv1):=⟨p1,by rw [HW4.out];exact Blk.set HG3.out.log 6 _,p2,p3,p4,HG3.out.bl⟩
   have HK4:Hid (Kt w W4):=HK3.out.trans p5
   have HB4:Hid (Below base w W4):=HB3.out.trans p6
   clear p1 p2 p3 p4 p5 p6 c6 f6
   have HRL:=evl_release W4 base g gs wv D gl gc b m ag done (.slice au U.length cu) H rel L1 rv1 r HG4.out (by have:=HL1.out;have:=HUL.out;omega) (fun q hq=>HT.out (plR q) (by rw [← HE.out.2.2];exact List.mem_map_of_mem hq))
   go_wp2_with fail
   refine HRL.mono ?_
   rintro e w5 ⟨rfl,hg5,hk5,hb5⟩
   have HG5:Hid (Lg w5 base g gs wv D gl gc b m ag RU (.slice au U.length cu) (max RH r) r L1 rv1):=by
    have:=hg5.out
    rw [HH.out,HE.out.1,HE.out.2.1] at this
    exact this
   have HK5:Hid (Kt w w5):=HK4.out.trans hk5.out
   have HB5:Hid (Below base w w5):=HB4.out.trans hb5
   clear hg5 hk5 hb5 HRL
   go_wp2
   go_returns
   exact ⟨rfl,⟨_,_,L1,HE.out.2.2,HG5.out⟩,HK5,HB5.out⟩
end
section
open Go.RowKit
theorem Disk.off {w:World} {base g gs k:Nat} {wv:Value} {D:Dk} {cs:Array Value} {t:TypeId} {fr:Nat×Nat} (h:Disk w base g gs wv D) (hk:w.heap[k]? = some (.cells cs t fr)) (h1:t≠70) (h2:t≠244):k≠g∧k≠gs:=by
 constructor
 ·intro e
  subst e
  have:=h.blk
  unfold Blk at this
  rw [this] at hk
  cases hk
  exact h1 rfl
 ·intro e
  subst e
  have:=h.srow
  unfold Blk at this
  rw [this] at hk
  cases hk
  exact h2 rfl
theorem Mv.row {w w':World} {base0 base g gs:Nat} {wv v:Value} {D:Dk} {e:TypeId} {size n:Nat} {xs:List Value} (hm:Mv w w' base g gs) (hd:Disk w base g gs wv D) (h:w.ownsRow base0 e size v n xs) (h1:e≠70) (h2:e≠244) (h3:e≠246):w'.ownsRow base0 e size v n xs:=by
 refine ⟨h.1,?_⟩
 rcases h.2 with q | ⟨gg,cp,cur,q1,q2,q3,q4⟩
 ·exact .inl q
 ·exact .inr ⟨gg,cp,cur,q1,q2,hm.block gg cur e _ (hd.off q3 h1 h2).1 (hd.off q3 h1 h2).2 q3 h3,q4⟩
theorem BdE.mv {w w':World} {B base g gs n:Nat} {wv:Value} {D:Dk} {a:Option Addr} {bs:List Nat} (h:BdE w B a n bs) (hd:Disk w base g gs wv D) (hm:Mv w w' base g gs):BdE w' B a n bs:=by
 rcases h.2 with h0 | ⟨g',off,cs,fr,rfl,hB,hb⟩
 ·exact ⟨⟨h.1.size,h.1.byte,.inl h0⟩,.inl h0⟩
 ·have hb':w'.heap[g']? = some (.cells cs 5 fr):=hm.block g' cs _ _ (hd.off hb (by decide) (by decide)).1 (hd.off hb (by decide) (by decide)).2 hb (by decide)
  refine ⟨⟨h.1.size,h.1.byte,?_⟩,.inr ⟨g',off,cs,fr,rfl,hB,hb'⟩⟩
  rcases h.1.cells with h0 | ⟨g2,o,e,hg,hc⟩
  ·exact .inl h0
  ·cases e
   refine .inr ⟨g',off,rfl,heap_lt hb',fun i hi => ?_⟩
   have:=hc i hi
   rw [cell_of_row w g' (off+i) cs _ _ hb] at this
   rw [cell_of_row w' g' (off+i) cs _ _ hb']
   exact this
theorem Lg.mv {w w':World} {base g gs:Nat} {wv wv':Value} {D D':Dk} {gl gc b m ag:Nat} {U:List Sg} {uv:Value} {hi rel:Nat} {L:List Rc} {rv:Value} (h:Lg w base g gs wv D gl gc b m ag U uv hi rel L rv) (hm:Mv w w' base g gs) (hd:Disk w' base g gs wv' D'):Lg w' base g gs wv' D' gl gc b m ag U uv hi rel L rv :=
 ⟨hd,h.log.mv h.disk hm,hm.keep h.cells (h.disk.off h.cells (by decide) (by decide)).1 (h.disk.off h.cells (by decide) (by decide)).2 (by decide),hm.row h.disk h.used (by decide) (by decide) (by decide),⟨hm.row h.disk h.recs.row (by decide) (by decide) (by decide),fun r hr=>(h.recs.bd r hr).mv h.disk hm⟩,h.bl⟩
theorem evl_tidy0 (w:World) (base g gs:Nat) (wv:Value) (D:Dk) (gl gc b m ag:Nat) (uv:Value) (hi rel:Nat) (L:List Rc) (rv:Value) (h:Lg w base g gs wv D gl gc b m ag [] uv hi rel L rv) :
  Calls Tryz.prog 185 #[.pointer (some ⟨gl,0,none⟩)] w fun e w'=>e=.returned (.int .i64 0)∧w'=w:=by
 obtain ⟨au,cu,hv⟩:=h.used.val
 have hv':uv=.slice au 0 cu:=hv
 subst hv'
 have c5:w.cell? ⟨gl,5,none⟩=some (.slice au 0 cu):=Blk.cell h.log 5 rfl
 clear h hv
 go_enter Tryz.func185,Tryz.ntmps185
 go_wp2
 go_returns
 exact ⟨rfl,rfl⟩
end
section
open Go.RowKit
theorem results_headE {w:World} {tmps:Array Value} {g:Nat} {cs:List Value} (h2:tmps[4]?.getD undef=.pointer (some ⟨g,0,none⟩)) (k:Blk w g cs.toArray 173) (hl:cs.length=3):(results Tryz.f191 tmps).run Tryz.prog w=.ok (.agg cs.toArray) w:=by
 have hr:=run_loadVar_mid (P:=Tryz.prog) w g 0 173 cs _ (k.range 0 cs (fun j v hj=>by simpa using hj)) Tryz.underlying173 rfl (by rw [hl];exact infoPart)
 simp [results,Tryz.results191,h2,hr,asAddr]
theorem evl_head (w:World) (num tick:Int) (hn:(-9223372036854775808:Int)≤num∧num≤9223372036854775807) (ht:(-9223372036854775808:Int)≤tick∧tick≤9223372036854775807) :
  Calls Tryz.prog 191 #[.int .i64 num,.int .i64 tick] w fun e w'=>Hid (∃ a c,e=.returned (.agg #[.int .u8 1,.bool true,.slice a 16 c])∧Own w' w.heap.size a 16 c (KeyM.key (KeyM.up num)++KeyM.key (KeyM.up tick)))∧Below w.heap.size w w':=by
 obtain ⟨W1,HW1⟩:∃ W1,Hid (W1=w.alloc (.cells #[.int .u8 0,.bool false,.slice none 0 0] 173)):=⟨_,rfl⟩
 have HB1:Hid (Below w.heap.size w W1):=by (show Below _ _ _);rw [HW1.out];exact below_alloc _ _
 have HK1:Hid (Blk W1 w.heap.size #[.int .u8 0,.bool false,.slice none 0 0] 173):=by (show Blk _ _ _ _);rw [HW1.out];exact Blk.new _ _ _
 have HSZ:Hid (w.heap.size+1≤W1.heap.size):=HK1.out.lt
 go_enter Tryz.func191,Tryz.ntmps191
 go_upto_region 1 with fail
 rw [← HW1.out]
 go_wp2_with fail
 refine (octet_Key num hn W1).mono ?_
 rintro e w2 ⟨a2,rfl,ho2,hb2⟩
 have HO2:Hid (Own w2 W1.heap.size (some a2) 8 8 (KeyM.key (KeyM.up num))):=ho2
 have HB2:Hid (Below W1.heap.size W1 w2):=hb2
 clear ho2 hb2
 go_wp2_with fail
 refine (octet_Key tick ht w2).mono ?_
 rintro e w3 ⟨a3,rfl,ho3,hb3⟩
 have HO3:Hid (Own w3 W1.heap.size (some a2) 8 8 (KeyM.key (KeyM.up num))):=HO2.out.below hb3
 have HB3:Hid (Below W1.heap.size W1 w3):=HB2.out.trans (hb3.mono HB2.out.size)
 have HR3:Hid (Rd w3 (some a3) 8 (KeyM.key (KeyM.up tick))):=ho3.rd
 clear ho3 hb3
 go_wp2_with (guard_target =~ wpList _ _ _ (Oper.mk (some 9) _ _ _ _ _ :: _) _ _;refine wpList_append_rd rfl (.tmp 6) (.tmp 8) rfl W1.heap.size (some a2) 8 8 _ rfl HO3.out (some a3) 8 8 _ rfl HR3.out (fun h=>by cases h) (by omega) HB3.out.size ?_)
 intro a5 c5 w5 ho5 hg5 hb5
 have HO5:Hid (Own w5 W1.heap.size a5 (8+8) c5 (KeyM.key (KeyM.up num)++KeyM.key (KeyM.up tick))):=ho5
 have HB5:Hid (Below W1.heap.size W1 w5):=HB3.out.trans hb5
 have HK5:Hid (Blk w5 w.heap.size #[.int .u8 0,.bool false,.slice none 0 0] 173):=HK1.out.below HB5.out (by have:=HSZ.out;omega)
 have HBF:Hid (Below w.heap.size w w5):=HB1.out.trans (HB5.out.mono HB1.out.size)
 have k0:w5.cell? ⟨w.heap.size,0,none⟩=some (.int .u8 0):=HK5.out.cell 0 rfl
 have k1:w5.cell? ⟨w.heap.size,1,none⟩=some (.bool false):=HK5.out.cell 1 rfl
 have k2:w5.cell? ⟨w.heap.size,2,none⟩=some (.slice none 0 0):=HK5.out.cell 2 rfl
 have f0:=HK5.out.free 0
 have f1:=HK5.out.free 1
 have f2:=HK5.out.free 2
 clear ho5 hg5 hb5
 go_wp2
 refine bodyPost_ret (results_headE (cs:=[.int .u8 1,.bool true,.slice a5 16 c5]) (by rfl) (((HK5.out.set 0 _).set 1 _).set 2 _) rfl) rfl ?_
 have hne:∀ k,(Value.slice a5 (8+8) c5).ownBlock=some k→w.heap.size≠k:=fun k hk=>by have:=(HO5.out.row.lt k hk).1;have:=HSZ.out;omega
 refine ⟨⟨a5,c5,rfl,?_⟩,((HBF.out.setCell (Nat.le_refl _) _).setCell (Nat.le_refl _) _).setCell (Nat.le_refl _) _⟩
 have hn5:some w.heap.size≠(Value.slice a5 (8+8) c5).ownBlock:=fun e=>hne _ e.symm rfl
 exact (⟨row_set (row_set (row_set HO5.out.row hn5) hn5) hn5,HO5.out.byte⟩:Own _ W1.heap.size a5 (8+8) c5 _).lower (by have:=HSZ.out;omega)
theorem sg_index0 (w:World) (a:Option Addr) (c:Nat) (cv:Value):Calls Tryz.prog 295 #[.slice a 0 c,cv] w fun e w'=>e=.returned (.int .i64 (-1))∧w'=w:=by
 go_enter Tryz.func295,Tryz.ntmps295
 go_wp2_with fail
 refine wp_loop_rounds 1 ?_
 rw [rounds_succ]
 go_wp2
 go_returns
 exact ⟨rfl,rfl⟩
theorem sg_contains0 (w:World) (a:Option Addr) (c:Nat) (cv:Value):Calls Tryz.prog 245 #[.slice a 0 c,cv] w fun e w'=>e=.returned (.bool false)∧w'=w:=by
 have hi:=sg_index0 w a c cv
 go_enter Tryz.func245,Tryz.ntmps245
 go_wp2_with fail
 refine hi.mono ?_
 rintro e w' ⟨rfl,rfl⟩
 clear hi
 go_wp2
 go_returns
 exact ⟨rfl,rfl⟩
theorem evl_unused0 (w:World) (gl g gc b m ag hi rel:Nat) (au:Option Addr) (cu:Nat) (rv:Value) (h:Lc w gl g gc b m ag (.slice au 0 cu) hi rel rv) (hb:b≤1000) (hm1:1≤m) :
  Calls Tryz.prog 189 #[.pointer (some ⟨gl,0,none⟩)] w fun e w'=>e=.returned (.tuple #[.int .i64 ((b+2:Nat):Int),.bool true])∧Below w.heap.size w w':=by
 have HL:Hid (Lc w gl g gc b m ag (.slice au 0 cu) hi rel rv):=h
 have c3:w.cell? ⟨gl,3,none⟩=some (.int .i64 (m:Int)):=Blk.cell h 3 rfl
 have hm':(0:Int)<(m:Int):=by omega
 obtain ⟨P,hP⟩:∃ P,P=b+2:=⟨_,rfl⟩
 rw [← hP]
 have HPL:=evl_place w gl g gc b m ag hi rel (.slice au 0 cu) rv 0 h hb (by omega)
 rw [show b+2+0 * 16=P from by omega] at HPL
 obtain ⟨W1,HW1⟩:∃ W1,Hid (W1=w.alloc (.cells #[.int .i64 (P:Int)] 3)):=⟨_,rfl⟩
 have HB1:Hid (Below w.heap.size w W1):=by (show Below _ _ _);rw [HW1.out];exact below_alloc _ _
 have HK1:Hid (Blk W1 w.heap.size #[.int .i64 (P:Int)] 3):=by (show Blk _ _ _ _);rw [HW1.out];exact Blk.new _ _ _
 have c5:W1.cell? ⟨gl,5,none⟩=some (.slice au 0 cu):=Blk.cell (h.stay HB1.out) 5 rfl
 have k0:W1.cell? ⟨w.heap.size,0,none⟩=some (.int .i64 (P:Int)):=HK1.out.cell 0 rfl
 clear h hP
 go_enter Tryz.func189,Tryz.ntmps189
 go_wp2_with fail
 refine wp_loop_rounds 1 ?_
 rw [rounds_succ]
 go_wp2_with fail
 refine HPL.mono ?_
 rintro e w2 ⟨rfl,hw2⟩
 rw [hw2]
 clear hw2 w2
 go_upto_region 5 with fail
 rw [← HW1.out]
 go_wp2_with fail
 refine (sg_contains0 W1 au cu _).mono ?_
 rintro e w2 ⟨rfl,hw2⟩
 rw [hw2]
 clear hw2 w2
 go_wp2
 go_returns
 exact ⟨rfl,HB1.out⟩
end
section
open Go.RowKit
theorem evl_High (w:World) (gl g gc b m ag hi rel:Nat) (uv rv:Value) (h:Lc w gl g gc b m ag uv hi rel rv):Calls Tryz.prog 52 #[.pointer (some ⟨gl,0,none⟩)] w fun e w'=>e=.returned (.int .i64 (hi:Int))∧w'=w:=by
 have c6:w.cell? ⟨gl,6,none⟩=some (.int .i64 (hi:Int)):=Blk.cell h 6 rfl
 clear h
 go_enter Tryz.func52,Tryz.ntmps52
 go_wp2
 go_returns
 exact ⟨rfl,rfl⟩
theorem evl_Rel (w:World) (gl g gc b m ag hi rel:Nat) (uv rv:Value) (h:Lc w gl g gc b m ag uv hi rel rv):Calls Tryz.prog 53 #[.pointer (some ⟨gl,0,none⟩)] w fun e w'=>e=.returned (.int .i64 (rel:Int))∧w'=w:=by
 have c7:w.cell? ⟨gl,7,none⟩=some (.int .i64 (rel:Int)):=Blk.cell h 7 rfl
 clear h
 go_enter Tryz.func53,Tryz.ntmps53
 go_wp2
 go_returns
 exact ⟨rfl,rfl⟩
end
section
open Go.RowKit
theorem evl_Sync (w:World) (base g gs:Nat) (wv:Value) (D:Dk) (gl gc b m:Nat) (U:List Sg) (uv:Value) (hi rel:Nat) (L:List Rc) (rv:Value) (h:Lg w base g gs wv D gl gc b m D.age U uv hi rel L rv) :
  Calls Tryz.prog 37 #[.pointer (some ⟨gl,0,none⟩)] w fun e w'=>e=.returned (.int .i64 (syncE D))∧Hid (∃ wv',Lg w' base g gs wv' (syncD D) gl gc b m D.age U uv hi rel L rv)∧Below base w w'∧Hid (Ft w w'):=by
 have HG:Hid (Lg w base g gs wv D gl gc b m D.age U uv hi rel L rv):=h
 have HST:=evl_stale w base g gs wv D gl gc b m D.age hi rel uv rv h.disk h.log
 rw [show staleE D D.age=0 from if_pos rfl] at HST
 obtain ⟨R,HR⟩:∃ R,Hid (R=syncE D):=⟨_,rfl⟩
 rw [← HR.out]
 clear h
 go_enter Tryz.func37,Tryz.ntmps37
 go_wp2_with fail
 refine HST.mono ?_
 rintro e w1 ⟨rfl,n,hw1⟩
 have hb1:Below w.heap.size w w1:=by rw [hw1];exact below_drewN (Below.refl _ _) _
 clear hw1
 have HG1:Hid (Lg w1 base g gs wv D gl gc b m D.age U uv hi rel L rv):=HG.out.below hb1
 have HB1:Hid (Below base w w1):=hb1.mono HG.out.sz
 have HF1:Hid (Ft w w1):=Ft.of_below hb1
 have c0:w1.cell? ⟨gl,0,none⟩=some (.pointer (some ⟨g,0,none⟩)):=Blk.cell HG1.out.log 0 rfl
 clear hb1 HST
 go_wp2_with fail
 refine (disk_Sync w1 base g gs wv D HG1.out.disk).mono ?_
 rw [← HR.out]
 rintro e w2 ⟨rfl,hd2,hm2⟩
 obtain ⟨wv2,hd2⟩:=hd2.out
 have HG2:Hid (Lg w2 base g gs wv2 (syncD D) gl gc b m D.age U uv hi rel L rv):=HG1.out.mv hm2 hd2
 have HB2:Hid (Below base w w2):=HB1.out.trans hm2.low
 have HF2:Hid (Ft w w2):=HF1.out.trans (Ft.of_mv HG1.out.disk hm2)
 clear hd2 hm2
 go_wp2
 go_returns
 exact ⟨rfl,⟨wv2,HG2.out⟩,HB2.out,HF2⟩
theorem step_append_sg {w:World} {ops:Array Oper} {o:Oper} {act:Act} {K:Act→World→Prop} {Q:Exit→Act→World→Prop} {E:Prop} (hgd:o.guard=none) (s x:Operand)
  (ho:o.op=.call { callee:=.builtin .append,args:=#[s,x],argTypes:=#[161,161] })
  (base:Nat) (v:Value) (L:List Sg) (hs:act.eval s=v) (hown:Sgs w base v L) (k c:Nat) (p:Sg) (hx:act.eval x=.slice (some ⟨k,0,none⟩) 1 c)
  (hb:Blk w k (sgc p).toArray 169) (hl:L.length≤1000000) (hbase:base≤w.heap.size)
  (h:∀ v' w',Sgs w' base v' (L++[p])→w.grownBy w' v.ownBlock→Below base w w'→K (act.put o.dst v') w'):if Region.wanted o (yielded ops act.tmps)=true then Oper.wp Tryz.prog o act w K Q else E:=by
 rw [if_pos (by simp [Region.wanted,hgd])]
 obtain ⟨i0,hi,hz0,hz1,hz2⟩:=info_parts infoSg
 refine wp_append_own w s x 161 ho base 169 i0 (.agg #[.int .i64 0,.int .i64 0,.int .i64 0,.int .i64 0]) 4 32 Tryz.underlying161 hi hz0 hz1 hz2 (by rfl) (by decide) v L.length (L.flatMap sgc) hs hown ⟨k,0,none⟩ 1 c (sgc p) hx (by rfl) (fun j u hj => ?_) (sgc_one p) (by unfold maxLen;omega) (by omega) hbase fun v' w' h1 h2 _ => ?_
 ·have e:(⟨k,0,none⟩:Addr).add j=⟨k,0+j,none⟩:=by unfold Addr.add;split <;> simp_all
  rw [e,Nat.zero_add]
  exact hb.cell j (by simpa using hj)
 ·refine h v' w' ?_ h2 ((Below.refl _ _).grown h2 hbase (fun k hk=>(hown.lt k hk).1))
  unfold Sgs
  rw [List.length_append,List.flatMap_append]
  simpa using h1
theorem Lg.more {w w5:World} {base g gs:Nat} {wv:Value} {D:Dk} {gl gc b m ag:Nat} {U U5:List Sg} {uv v5:Value} {hi rel:Nat} {L:List Rc} {rv:Value} (h:Lg w base g gs wv D gl gc b m ag U uv hi rel L rv) (hs:Sgs w5 base v5 U5) (hg:w.grownBy w5 uv.ownBlock):Lg (w5.setCell ⟨gl,5,none⟩ v5) base g gs wv D gl gc b m ag U5 v5 hi rel L rv∧Below base w5 (w5.setCell ⟨gl,5,none⟩ v5)∧Lc w5 gl g gc b m ag uv hi rel rv∧Kt w (w5.setCell ⟨gl,5,none⟩ v5) :=
 have hk:Kt w w5:=(Kt.refl w).grown h.used (.inr (.inl rfl)) hg
 have hl:Lc w5 gl g gc b m ag uv hi rel rv:=Blk.grown h.log hg (own_ne h.used h.log (by decide))
 have hk':Kt w5 (w5.setCell ⟨gl,5,none⟩ v5):=(Kt.refl w5).set hl (.inl rfl) 5 _
 have hr:Rcs w5 base rv L:=⟨own_stay h.recs.row (fun k hk2=>by
  have hlt:=(h.recs.row.lt k hk2).2
  refine hg.block k hlt (fun e => ?_)
  rcases h.recs.row.2 with ⟨a1,_⟩ | ⟨gr,cp,cur,a1,_,a3,_⟩
  ·rw [a1] at hk2;cases hk2
  ·rw [a1] at hk2
   simp only [Value.ownBlock,Option.some.injEq] at hk2
   subst hk2
   exact own_ne h.used (show Blk w gr cur 178 from a3) (by decide) e),fun r hr=>(h.recs.bd r hr).kt hk⟩
 ⟨⟨(h.disk.kt hk).kt hk',Blk.set hl 5 _,hk'.keep (hk.keep h.cells (by decide) (by decide) (by decide)) (by decide) (by decide) (by decide),row_set hs (own_ne hs hl (by decide)),hr.set hl (.inl rfl),h.bl⟩,(Below.refl _ _).setCell h.bl _,hl,hk.trans hk'⟩
end
end Go.Proofs.YtoiennkfdjnkbaaGreatDoor
