import Derived.Test.YtoiennkfdjnkbaaGreatDoorPk06
import Derived.BigRegion
set_option maxRecDepth 100000
set_option maxHeartbeats 8000000
namespace Go.Proofs.YtoiennkfdjnkbaaGreatDoor
section
open Go.RowKit
theorem infoPart:(Tryz.prog.info? 173).map (·.size)=some 3:=by kernel_rfl
def LookTold (w:World) (e:Ending) (s:List Nat):Prop:=∃ (kd:Nat) (ls:Bool) (a:Option Addr) (n:Nat),e=.returned (.tuple #[.agg #[.int .u8 (kd:Int),.bool ls,.slice a n n],.bool (goodE s)])∧(goodE s=true→kd=s.getD 1 0∧ls=lastE s∧Rd w a n (payE s)∧n≤59)
theorem results_lookE {w:World} {tmps:Array Value} {g:Nat} {cs:List Value} {v:Value} (h2:tmps[2]?.getD undef=.pointer (some ⟨g,0,none⟩)) (h3:tmps[3]?.getD undef=v) (k:Blk w g cs.toArray 173) (hl:cs.length=3):(results Tryz.f325 tmps).run Tryz.prog w=.ok (.tuple #[.agg cs.toArray,v]) w:=by
 have hr:=run_loadVar_mid (P:=Tryz.prog) w g 0 173 cs _ (k.range 0 cs (fun j v hj=>by simpa using hj)) Tryz.underlying173 rfl (by rw [hl];exact infoPart)
 simp [results,Tryz.results325,h2,h3,hr,asAddr]
theorem Rd.part {w:World} {b off n:Nat} {s:List Nat} (h:Rd w (some ⟨b,off,none⟩) n s) (i m:Nat) (hm:i+m≤n):Rd w (some ⟨b,off+i,none⟩) m ((s.drop i).take m):=by
 refine ⟨by rw [List.length_take,List.length_drop,h.size];omega,fun x hx=>h.byte x (List.mem_of_mem_drop (List.mem_of_mem_take hx)),?_⟩
 rcases h.cells with h0 | ⟨g,o,e,hg,hc⟩
 ·exact .inl (by omega)
 ·cases e
  refine .inr ⟨b,off+i,rfl,hg,fun j hj => ?_⟩
  have:=hc (i+j) (by omega)
  rw [show off+i+j=off+(i+j) from by omega,this]
  congr 3
  rw [List.getD_eq_getElem?_getD,List.getD_eq_getElem?_getD,List.getElem?_take,if_pos hj,List.getElem?_drop]
theorem Rd.at_ {w:World} {b off n:Nat} {s:List Nat} (h:Rd w (some ⟨b,off,none⟩) n s) {i:Nat} (hi:i<n):w.cell? ⟨b,off+i,none⟩=some (.int .u8 ((s.getD i 0:Nat):Int)):=by
 rcases h.cells with h0 | ⟨g,o,e,_,hc⟩
 ·omega
 ·cases e
  exact hc i hi
theorem Rd.far {w:World} {a:Option Addr} {n k i:Nat} {v:Value} {s:List Nat} (h:Rd w a n s) (hne:∀ x,a=some x→x.block≠k):Rd (w.setCell ⟨k,i,none⟩ v) a n s:=by
 refine ⟨h.size,h.byte,?_⟩
 rcases h.cells with h0 | ⟨g,o,e,hg,hc⟩
 ·exact .inl h0
 ·refine .inr ⟨g,o,e,by simpa using hg,fun j hj => ?_⟩
  have hgk:g≠k:=hne _ e
  rw [← hc j hj]
  unfold World.cell?
  simp only
  rw [heap_setCell_other w ⟨k,i,none⟩ g v hgk]
def good4 (x1 x2:Nat) (ls:Bool) (eq:Bool):Bool:=decide (1≤x1) && decide (x1≤3) && (ls || decide (x2=59)) && eq
theorem good_is {s:List Nat} (h:s.length=64) (h2:s.getD 2 0≤59):goodE s=good4 (s.getD 1 0) (s.getD 2 0) (lastE s) (decide (s=layE (s.getD 1 0) (lastE s) (payE s))):=by
 unfold goodE good4
 rw [Bool.eq_iff_iff]
 simp only [Bool.and_eq_true,Bool.or_eq_true,decide_eq_true_eq]
 constructor
 ·rintro ⟨_,_,h3,h4,h5⟩
  exact ⟨⟨⟨h3.1,h3.2⟩,h4⟩,h5⟩
 ·rintro ⟨⟨⟨h3,h4⟩,h5⟩,h6⟩
  exact ⟨h,h2,⟨h3,h4⟩,h5,h6⟩
theorem evl_look (a:Option Addr) (n c:Nat) (s:List Nat) (w:World) (hr:Rd w a n s) (hc:n=64→64≤c) (hcm:c≤9223372036854775807) :
  Calls Tryz.prog 325 #[.slice a n c] w fun e w'=>Hid (LookTold w' e s)∧Below w.heap.size w w':=by
 have HRD:Hid (Rd w a n s):=hr
 have HSZ:Hid (s.length=n):=hr.size
 by_cases h64:n=64
 ·subst h64
  have hc64:64≤c:=hc rfl
  obtain ⟨b,off,rfl⟩:∃ b off,a=some ⟨b,off,none⟩:=by
   rcases hr.cells with h0 | ⟨g,o,e,_⟩
   ·omega
   ·exact ⟨g,o,e⟩
  obtain ⟨W1,HW1⟩:∃ W1,Hid (W1=w.alloc (.cells #[.int .u8 0,.bool false,.slice none 0 0] 173)):=⟨_,rfl⟩
  have HB1:Hid (Below w.heap.size w W1):=by (show Below _ _ _);rw [HW1.out];exact below_alloc _ _
  have HK1:Hid (Blk W1 w.heap.size #[.int .u8 0,.bool false,.slice none 0 0] 173):=by (show Blk _ _ _ _);rw [HW1.out];exact Blk.new _ _ _
  have HR1:Hid (Rd W1 (some ⟨b,off,none⟩) 64 s):=hr.below HB1.out
  obtain ⟨x1,hx1⟩:∃ x,x=s.getD 1 0:=⟨_,rfl⟩
  obtain ⟨x2,hx2⟩:∃ x,x=s.getD 2 0:=⟨_,rfl⟩
  obtain ⟨x3,hx3⟩:∃ x,x=s.getD 3 0:=⟨_,rfl⟩
  have byte:∀ i,i<64→s.getD i 0<256:=fun i hi=>hr.byte _ (by rw [List.getD_eq_getElem?_getD,List.getElem?_eq_getElem (by rw [HSZ.out];exact hi)];exact List.getElem_mem _)
  have b1:x1<256:=by rw [hx1];exact byte 1 (by omega)
  have b2:x2<256:=by rw [hx2];exact byte 2 (by omega)
  have b3:x3<256:=by rw [hx3];exact byte 3 (by omega)
  have c1:W1.cell? ⟨b,off+1,none⟩=some (.int .u8 (x1:Int)):=by rw [hx1];exact HR1.out.at_ (by omega)
  have c2:W1.cell? ⟨b,off+2,none⟩=some (.int .u8 (x2:Int)):=by rw [hx2];exact HR1.out.at_ (by omega)
  have c3:W1.cell? ⟨b,off+3,none⟩=some (.int .u8 (x3:Int)):=by rw [hx3];exact HR1.out.at_ (by omega)
  have HX:Hid (x1=s.getD 1 0∧x2=s.getD 2 0∧x3=s.getD 3 0):=⟨hx1,hx2,hx3⟩
  clear hr hx1 hx2 hx3 byte hc
  by_cases h59:59<x2
  ·have h59':(59:Int)<(x2:Int):=by omega
   have HG:Hid (goodE s=false):=by
    show _=_
    unfold goodE
    exact decide_eq_false (fun h=>by have:=h.2.1;rw [← HX.out.2.1] at this;omega)
   go_enter Tryz.func325,Tryz.ntmps325
   go_upto_region 1 with fail
   rw [← HW1.out]
   have HT:Hid (LookTold W1 (.returned (.tuple #[.agg #[.int .u8 0,.bool false,.slice none 0 0],.bool false])) s):=⟨0,false,none,0,by rw [HG.out];rfl,fun h=>by rw [HG.out] at h;cases h⟩
   have k0:W1.cell? ⟨w.heap.size,0,none⟩=some (.int .u8 0):=HK1.out.cell 0 rfl
   have k1:W1.cell? ⟨w.heap.size,1,none⟩=some (.bool false):=HK1.out.cell 1 rfl
   have k2:W1.cell? ⟨w.heap.size,2,none⟩=some (.slice none 0 0):=HK1.out.cell 2 rfl
   have f0:=HK1.out.free 0
   have f1:=HK1.out.free 1
   have f2:=HK1.out.free 2
   go_wp2
   refine bodyPost_ret (results_lookE (cs:=[.int .u8 0,.bool false,.slice none 0 0]) (by rfl) (by rfl) (((HK1.out.set 0 _).set 1 _).set 2 _) rfl) rfl ?_
   exact ⟨⟨0,false,none,0,by rw [HG.out];rfl,fun h=>by rw [HG.out] at h;cases h⟩,((HB1.out.setCell (Nat.le_refl _) _).setCell (Nat.le_refl _) _).setCell (Nat.le_refl _) _⟩
  ·have h59':¬ (59:Int)<(x2:Int):=by omega
   obtain ⟨E,hE⟩:∃ E,E=4+x2:=⟨_,rfl⟩
   have q1:(4:Int)+(x2:Int)=(E:Int):=by omega
   have q2:IntKind.i64.wrap (E:Int)=(E:Int):=by rw [IntKind.wrap_i64];omega
   have q3:IntKind.i64.wrap (x2:Int)=(x2:Int):=by rw [IntKind.wrap_i64];omega
   go_enter Tryz.func325,Tryz.ntmps325
   go_upto_region 1 with fail
   rw [← HW1.out]
   have HE:Hid (E=4+x2):=hE
   have hE4:4≤E∧E≤63:=by omega
   have e0:(4:Int)≤(E:Int):=by omega
   have e1:(E:Int)≤(c:Int):=by omega
   have e2:(0:Int)≤(E:Int):=by omega
   clear hE
   have hr2:=HR1.out.below (below_alloc W1 (.cells #[.int .u8 0,.bool false,.slice none 0 0] 173))
   have d1:(W1.alloc (.cells #[.int .u8 0,.bool false,.slice none 0 0] 173)).cell? ⟨b,off+1,none⟩=some (.int .u8 (x1:Int)):=by rw [HX.out.1];exact hr2.at_ (by omega)
   have d3:(W1.alloc (.cells #[.int .u8 0,.bool false,.slice none 0 0] 173)).cell? ⟨b,off+3,none⟩=some (.int .u8 (x3:Int)):=by rw [HX.out.2.2];exact hr2.at_ (by omega)
   clear hr2
   go_upto_region 4 with fail
   go_region
   generalize hls:((x3:Int) == 1)=ls
   generalize hpa:(if E=4 then some (⟨b,off,none⟩:Addr) else some ⟨b,off+4,none⟩)=PA
   generalize hm:E - 4=M
   obtain ⟨gp,hgp⟩:∃ gp,gp=W1.heap.size:=⟨_,rfl⟩
   obtain ⟨W2,hw2⟩:∃ W2,W2=(W1.alloc (.cells #[.int .u8 (x1:Int),.bool ls,.slice PA M M] 173)).drew:=⟨_,rfl⟩
   rw [← hw2,← hgp]
   have HGP:Hid (gp≠w.heap.size):=by (show _≠_);rw [hgp];have:=HK1.out.lt;omega
   have HBW:Hid (Below W1.heap.size W1 W2):=by (show Below _ _ _);rw [hw2];exact (below_alloc _ _).drew
   have HP2:Hid (Blk W2 gp #[.int .u8 (x1:Int),.bool ls,.slice PA M M] 173):=by (show Blk _ _ _ _);rw [hw2,hgp];exact Blk.new _ _ _
   have HK2:Hid (Blk W2 w.heap.size #[.int .u8 0,.bool false,.slice none 0 0] 173):=HK1.out.stay HBW.out
   have HR2:Hid (Rd W2 (some ⟨b,off,none⟩) 64 s):=HR1.out.below HBW.out
   have HB2:Hid (Below w.heap.size w W2):=HB1.out.trans (HBW.out.mono HB1.out.size)
   have HM:Hid (M=x2∧M≤59):=by (show _∧_);have:=HE.out;omega
   have HLS:Hid (ls=lastE s):=by
    (show _=_)
    rw [← hls,lastE,← HX.out.2.2]
    by_cases h:x3=1
    ·rw [decide_eq_true h,h];rfl
    ·rw [decide_eq_false h,beq_eq_false_iff_ne];omega
   have HRP:Hid (Rd W2 PA M (payE s)):=by
    (show Rd _ _ _ _)
    have h1:=HR2.out.part 4 M (by omega)
    unfold payE
    rw [← HX.out.2.1,← HM.out.1]
    rw [← hpa]
    by_cases h4:E=4
    ·rw [if_pos h4]
     have h0:M=0:=by omega
     exact ⟨h1.size,h1.byte,.inl h0⟩
    ·rw [if_neg h4]
     exact h1
   have HPB:Hid (∀ x,PA=some x→x.block=b):=fun x hx=>by
    rw [← hpa] at hx
    split at hx <;> (cases hx;rfl)
   have m1:(M:Int)≤59:=by have:=HM.out;omega
   clear hls hpa hm hgp hw2 c1 c2 c3 d1 d3 q1 q2 q3 e0 e1 e2 hE4
   have g0:W2.cell? ⟨gp,0,none⟩=some (.int .u8 (x1:Int)):=HP2.out.cell 0 rfl
   have g1:W2.cell? ⟨gp,1,none⟩=some (.bool ls):=HP2.out.cell 1 rfl
   have g2:W2.cell? ⟨gp,2,none⟩=some (.slice PA M M):=HP2.out.cell 2 rfl
   have HNEP:Hid (b≠w.heap.size):=by
    (show _≠_)
    rcases HRD.out.cells with h0 | ⟨g',o',e',hg',_⟩
    ·omega
    ·cases e';omega
   by_cases r1:x1<1
   ·have r1':¬ (1:Int)≤(x1:Int):=by omega
    have HKF:=HK2
    have HBF:=HB2
    have HRF:=HRP
    have HGB:Hid (goodE s=false):=by
     show _=_
     rw [good_is HSZ.out (by rw [← HX.out.2.1];omega),← HX.out.1,← HX.out.2.1,← HLS.out]
     unfold good4
     rw [decide_eq_false (show ¬ 1≤x1 by omega)]
     rfl
    have k0:W2.cell? ⟨w.heap.size,0,none⟩=some (.int .u8 0):=HKF.out.cell 0 rfl
    have k1:W2.cell? ⟨w.heap.size,1,none⟩=some (.bool false):=HKF.out.cell 1 rfl
    have k2:W2.cell? ⟨w.heap.size,2,none⟩=some (.slice none 0 0):=HKF.out.cell 2 rfl
    have f0:=HKF.out.free 0
    have f1:=HKF.out.free 1
    have f2:=HKF.out.free 2
    go_wp2
    refine bodyPost_ret (results_lookE (cs:=[.int .u8 (x1:Int),.bool ls,.slice PA M M]) (by rfl) (by rfl) (((HKF.out.set 0 _).set 1 _).set 2 _) rfl) rfl ?_
    refine ⟨⟨x1,ls,PA,M,by rw [HGB.out];rfl,fun _=>⟨HX.out.1,HLS.out,?_,HM.out.2⟩⟩,((HBF.out.setCell (Nat.le_refl _) _).setCell (Nat.le_refl _) _).setCell (Nat.le_refl _) _⟩
    exact ((HRF.out.far (fun x hx=>by rw [HPB.out x hx];exact HNEP.out)).far (fun x hx=>by rw [HPB.out x hx];exact HNEP.out)).far (fun x hx=>by rw [HPB.out x hx];exact HNEP.out)
   ·have r1':(1:Int)≤(x1:Int):=by omega
    by_cases r2:3<x1
    ·have r2':¬ (x1:Int)≤3:=by omega
     have HKF:=HK2
     have HBF:=HB2
     have HRF:=HRP
     have HGB:Hid (goodE s=false):=by
      show _=_
      rw [good_is HSZ.out (by rw [← HX.out.2.1];omega),← HX.out.1,← HX.out.2.1,← HLS.out]
      unfold good4
      rw [decide_eq_false (show ¬ x1≤3 by omega),Bool.and_false]
      rfl
     have k0:W2.cell? ⟨w.heap.size,0,none⟩=some (.int .u8 0):=HKF.out.cell 0 rfl
     have k1:W2.cell? ⟨w.heap.size,1,none⟩=some (.bool false):=HKF.out.cell 1 rfl
     have k2:W2.cell? ⟨w.heap.size,2,none⟩=some (.slice none 0 0):=HKF.out.cell 2 rfl
     have f0:=HKF.out.free 0
     have f1:=HKF.out.free 1
     have f2:=HKF.out.free 2
     go_wp2
     refine bodyPost_ret (results_lookE (cs:=[.int .u8 (x1:Int),.bool ls,.slice PA M M]) (by rfl) (by rfl) (((HKF.out.set 0 _).set 1 _).set 2 _) rfl) rfl ?_
     refine ⟨⟨x1,ls,PA,M,by rw [HGB.out];rfl,fun _=>⟨HX.out.1,HLS.out,?_,HM.out.2⟩⟩,((HBF.out.setCell (Nat.le_refl _) _).setCell (Nat.le_refl _) _).setCell (Nat.le_refl _) _⟩
     exact ((HRF.out.far (fun x hx=>by rw [HPB.out x hx];exact HNEP.out)).far (fun x hx=>by rw [HPB.out x hx];exact HNEP.out)).far (fun x hx=>by rw [HPB.out x hx];exact HNEP.out)
    ·have r2':(x1:Int)≤3:=by omega
     by_cases r3:ls=false∧M≠59
     ·obtain ⟨rfl,r3⟩:=r3
      have r3':((M:Int) == 59)=false:=by rw [beq_eq_false_iff_ne];omega
      have HKF:=HK2
      have HBF:=HB2
      have HRF:=HRP
      have HGB:Hid (goodE s=false):=by
       show _=_
       rw [good_is HSZ.out (by rw [← HX.out.2.1];omega),← HX.out.1,← HX.out.2.1,← HLS.out]
       unfold good4
       rw [decide_eq_false (show ¬ x2=59 by have:=HM.out;omega)]
       simp
      have k0:W2.cell? ⟨w.heap.size,0,none⟩=some (.int .u8 0):=HKF.out.cell 0 rfl
      have k1:W2.cell? ⟨w.heap.size,1,none⟩=some (.bool false):=HKF.out.cell 1 rfl
      have k2:W2.cell? ⟨w.heap.size,2,none⟩=some (.slice none 0 0):=HKF.out.cell 2 rfl
      have f0:=HKF.out.free 0
      have f1:=HKF.out.free 1
      have f2:=HKF.out.free 2
      go_wp2
      refine bodyPost_ret (results_lookE (cs:=[.int .u8 (x1:Int),.bool false,.slice PA M M]) (by rfl) (by rfl) (((HKF.out.set 0 _).set 1 _).set 2 _) rfl) rfl ?_
      refine ⟨⟨x1,false,PA,M,by rw [HGB.out];rfl,fun _=>⟨HX.out.1,HLS.out,?_,HM.out.2⟩⟩,((HBF.out.setCell (Nat.le_refl _) _).setCell (Nat.le_refl _) _).setCell (Nat.le_refl _) _⟩
      exact ((HRF.out.far (fun x hx=>by rw [HPB.out x hx];exact HNEP.out)).far (fun x hx=>by rw [HPB.out x hx];exact HNEP.out)).far (fun x hx=>by rw [HPB.out x hx];exact HNEP.out)
     ·have HCL:=evl_lay x1 ls PA M M (payE s) W2 HRP.out HM.out.2
      cases ls with
      | true =>
       go_wp2_with fail
       refine HCL.mono ?_
       rintro e w3 ⟨q,rfl,hq,hk3,hb3⟩
       have HKF:Hid (Blk w3 w.heap.size #[.int .u8 0,.bool false,.slice none 0 0] 173):=HK2.out.stay hb3
       have HP3:Hid (Blk w3 gp #[.int .u8 (x1:Int),.bool true,.slice PA M M] 173):=HP2.out.stay hb3
       have HBF:Hid (Below w.heap.size w w3):=HB2.out.trans (hb3.mono HB2.out.size)
       have HRF:Hid (Rd w3 PA M (payE s)):=HRP.out.below hb3
       have HR3:Hid (Rd w3 (some ⟨b,off,none⟩) 64 s):=HR2.out.below hb3
       have HQ3:Hid (Rd w3 (some ⟨q,0,none⟩) 64 (layE x1 true (payE s))):=by
        have hsec:Sec (layE x1 true (payE s)):=layE_sec b1 (by rw [HRP.out.size];exact HM.out.2) HRP.out.byte
        have:=Rd.of_blk hk3 hsec.byte
        rw [hsec.len] at this
        exact this
       obtain ⟨EQ,HEQ⟩:∃ EQ,Hid (EQ=decide (s=layE x1 true (payE s))):=⟨_,rfl⟩
       clear HCL hq hk3 hb3 g0 g1 g2
       go_wp2_with fail
       refine (bytes_Equal (some ⟨b,off,none⟩) (some ⟨q,0,none⟩) 64 c 64 64 s (layE x1 true (payE s)) w3 HR3.out HQ3.out).mono ?_
       rw [← HEQ.out]
       rintro e w4 ⟨he,hw4⟩
       subst he
       rw [hw4]
       clear hw4 w4
       have g0:w3.cell? ⟨gp,0,none⟩=some (.int .u8 (x1:Int)):=HP3.out.cell 0 rfl
       have g1:w3.cell? ⟨gp,1,none⟩=some (.bool true):=HP3.out.cell 1 rfl
       have g2:w3.cell? ⟨gp,2,none⟩=some (.slice PA M M):=HP3.out.cell 2 rfl
       have HGB:Hid (goodE s=EQ):=by
        show _=_
        rw [good_is HSZ.out (by rw [← HX.out.2.1];omega),← HX.out.1,← HX.out.2.1,← HLS.out]
        unfold good4
        rw [decide_eq_true (show 1≤x1 by omega),decide_eq_true (show x1≤3 by omega),HEQ.out]
        simp
       have k0:w3.cell? ⟨w.heap.size,0,none⟩=some (.int .u8 0):=HKF.out.cell 0 rfl
       have k1:w3.cell? ⟨w.heap.size,1,none⟩=some (.bool false):=HKF.out.cell 1 rfl
       have k2:w3.cell? ⟨w.heap.size,2,none⟩=some (.slice none 0 0):=HKF.out.cell 2 rfl
       have f0:=HKF.out.free 0
       have f1:=HKF.out.free 1
       have f2:=HKF.out.free 2
       go_wp2
       refine bodyPost_ret (results_lookE (cs:=[.int .u8 (x1:Int),.bool true,.slice PA M M]) (by rfl) (by rfl) (((HKF.out.set 0 _).set 1 _).set 2 _) rfl) rfl ?_
       refine ⟨⟨x1,true,PA,M,by rw [HGB.out];rfl,fun _=>⟨HX.out.1,HLS.out,?_,HM.out.2⟩⟩,((HBF.out.setCell (Nat.le_refl _) _).setCell (Nat.le_refl _) _).setCell (Nat.le_refl _) _⟩
       exact ((HRF.out.far (fun x hx=>by rw [HPB.out x hx];exact HNEP.out)).far (fun x hx=>by rw [HPB.out x hx];exact HNEP.out)).far (fun x hx=>by rw [HPB.out x hx];exact HNEP.out)
      | false =>
       obtain rfl:M=59:=by
        refine Classical.byContradiction fun h=>r3 ⟨rfl,h⟩
       go_wp2_with fail
       refine HCL.mono ?_
       rintro e w3 ⟨q,rfl,hq,hk3,hb3⟩
       have HKF:Hid (Blk w3 w.heap.size #[.int .u8 0,.bool false,.slice none 0 0] 173):=HK2.out.stay hb3
       have HP3:Hid (Blk w3 gp #[.int .u8 (x1:Int),.bool false,.slice PA 59 59] 173):=HP2.out.stay hb3
       have HBF:Hid (Below w.heap.size w w3):=HB2.out.trans (hb3.mono HB2.out.size)
       have HRF:Hid (Rd w3 PA 59 (payE s)):=HRP.out.below hb3
       have HR3:Hid (Rd w3 (some ⟨b,off,none⟩) 64 s):=HR2.out.below hb3
       have HQ3:Hid (Rd w3 (some ⟨q,0,none⟩) 64 (layE x1 false (payE s))):=by
        have hsec:Sec (layE x1 false (payE s)):=layE_sec b1 (by rw [HRP.out.size];exact HM.out.2) HRP.out.byte
        have:=Rd.of_blk hk3 hsec.byte
        rw [hsec.len] at this
        exact this
       obtain ⟨EQ,HEQ⟩:∃ EQ,Hid (EQ=decide (s=layE x1 false (payE s))):=⟨_,rfl⟩
       clear HCL hq hk3 hb3 g0 g1 g2
       go_wp2_with fail
       refine (bytes_Equal (some ⟨b,off,none⟩) (some ⟨q,0,none⟩) 64 c 64 64 s (layE x1 false (payE s)) w3 HR3.out HQ3.out).mono ?_
       rw [← HEQ.out]
       rintro e w4 ⟨he,hw4⟩
       subst he
       rw [hw4]
       clear hw4 w4
       have g0:w3.cell? ⟨gp,0,none⟩=some (.int .u8 (x1:Int)):=HP3.out.cell 0 rfl
       have g1:w3.cell? ⟨gp,1,none⟩=some (.bool false):=HP3.out.cell 1 rfl
       have g2:w3.cell? ⟨gp,2,none⟩=some (.slice PA 59 59):=HP3.out.cell 2 rfl
       have HGB:Hid (goodE s=EQ):=by
        show _=_
        rw [good_is HSZ.out (by rw [← HX.out.2.1];omega),← HX.out.1,← HX.out.2.1,← HLS.out]
        unfold good4
        rw [decide_eq_true (show 1≤x1 by omega),decide_eq_true (show x1≤3 by omega),HEQ.out]
        rw [decide_eq_true (show x2=59 by have:=HM.out;omega)]
        simp
       have k0:w3.cell? ⟨w.heap.size,0,none⟩=some (.int .u8 0):=HKF.out.cell 0 rfl
       have k1:w3.cell? ⟨w.heap.size,1,none⟩=some (.bool false):=HKF.out.cell 1 rfl
       have k2:w3.cell? ⟨w.heap.size,2,none⟩=some (.slice none 0 0):=HKF.out.cell 2 rfl
       have f0:=HKF.out.free 0
       have f1:=HKF.out.free 1
       have f2:=HKF.out.free 2
       go_wp2
       refine bodyPost_ret (results_lookE (cs:=[.int .u8 (x1:Int),.bool false,.slice PA 59 59]) (by rfl) (by rfl) (((HKF.out.set 0 _).set 1 _).set 2 _) rfl) rfl ?_
       refine ⟨⟨x1,false,PA,59,by rw [HGB.out];rfl,fun _=>⟨HX.out.1,HLS.out,?_,HM.out.2⟩⟩,((HBF.out.setCell (Nat.le_refl _) _).setCell (Nat.le_refl _) _).setCell (Nat.le_refl _) _⟩
       exact ((HRF.out.far (fun x hx=>by rw [HPB.out x hx];exact HNEP.out)).far (fun x hx=>by rw [HPB.out x hx];exact HNEP.out)).far (fun x hx=>by rw [HPB.out x hx];exact HNEP.out)
 ·have hne:((n:Int) != 64)=true:=by rw [bne_iff_ne];omega
  have HG:Hid (goodE s=false):=by
   show _=_
   unfold goodE
   exact decide_eq_false (fun h=>h64 (by rw [← HSZ.out];exact h.1))
  go_enter Tryz.func325,Tryz.ntmps325
  go_wp2
  go_returns
  exact ⟨⟨0,false,none,0,by rw [HG.out];rfl,fun h=>by rw [HG.out] at h;cases h⟩,below_alloc _ _⟩
end
section
open Go.RowKit
def headP (p:List Nat):Int×Int×Bool :=
 if (KeyM.take p (KeyM.take p 0).2.1).2.2≠0∨(KeyM.take p (KeyM.take p 0).2.1).2.1≠p.length then (0,0,false)
 else if (KeyM.take p 0).1<1∨4611686018427387904<(KeyM.take p 0).1∨(KeyM.take p (KeyM.take p 0).2.1).1<0∨1099511627776<(KeyM.take p (KeyM.take p 0).2.1).1 then (0,0,false)
 else ((KeyM.take p 0).1,(KeyM.take p (KeyM.take p 0).2.1).1,true)
def headE (s:List Nat):Int×Int×Bool:=if goodE s=true∧s.getD 1 0=1∧lastE s=true then headP (payE s) else (0,0,false)
def toldH (r:Int×Int×Bool):Ending:=.returned (.tuple #[.int .i64 r.1,.int .i64 r.2.1,.bool r.2.2])
theorem take_le (bs:List Nat) (x:Int):(KeyM.take bs x).2.1≤bs.length:=by
 unfold KeyM.take
 split
 ·exact Nat.zero_le _
 ·split
  ·exact Nat.zero_le _
  ·simp only
   omega
theorem evl_takeHead (a:Option Addr) (n c:Nat) (s:List Nat) (w:World) (hr:Rd w a n s) (hc:n=64→64≤c) (hcm:c≤9223372036854775807) :
  Calls Tryz.prog 288 #[.slice a n c] w fun e w'=>e=toldH (headE s)∧Below w.heap.size w w':=by
 have HLK:=evl_look a n c s w hr hc hcm
 obtain ⟨R,HR⟩:∃ R,Hid (R=headE s):=⟨_,rfl⟩
 rw [← HR.out]
 clear hr hc hcm
 go_enter Tryz.func288,Tryz.ntmps288
 go_wp2_with fail
 refine HLK.mono ?_
 rintro e w1 ⟨ht1,hb1⟩
 obtain ⟨kd,ls,a1,n1,rfl,hgd⟩:=ht1.out
 have HB1:Hid (Below w.heap.size w w1):=hb1
 have HGD:Hid (goodE s=true→kd=s.getD 1 0∧ls=lastE s∧Rd w1 a1 n1 (payE s)∧n1≤59):=hgd
 obtain ⟨W2,HW2⟩:∃ W2,Hid (W2=w1.alloc (.cells #[.int .u8 (kd:Int),.bool ls,.slice a1 n1 n1] 173)):=⟨_,rfl⟩
 have HBW:Hid (Below w1.heap.size w1 W2):=by (show Below _ _ _);rw [HW2.out];exact below_alloc _ _
 have HK2:Hid (Blk W2 w1.heap.size #[.int .u8 (kd:Int),.bool ls,.slice a1 n1 n1] 173):=by (show Blk _ _ _ _);rw [HW2.out];exact Blk.new _ _ _
 have HB2:Hid (Below w.heap.size w W2):=HB1.out.trans (HBW.out.mono HB1.out.size)
 have g0:W2.cell? ⟨w1.heap.size,0,none⟩=some (.int .u8 (kd:Int)):=HK2.out.cell 0 rfl
 have g1:W2.cell? ⟨w1.heap.size,1,none⟩=some (.bool ls):=HK2.out.cell 1 rfl
 have g2:W2.cell? ⟨w1.heap.size,2,none⟩=some (.slice a1 n1 n1):=HK2.out.cell 2 rfl
 clear HLK ht1 hb1 hgd
 go_upto_region 2 with fail
 rw [← HW2.out]
 cases hg:goodE s with
 | false =>
  have HX:Hid (R=(0,0,false)):=by (show _=_);rw [HR.out,headE,if_neg (by rw [hg];simp)]
  clear hg
  go_wp2
  go_returns
  exact ⟨by rw [HX.out];rfl,HB2.out⟩
 | true =>
  obtain ⟨k1,k2,k3,k4⟩:=HGD.out hg
  by_cases hk:kd=1
  ·subst hk
   cases ls with
   | false =>
    have HX:Hid (R=(0,0,false)):=by (show _=_);rw [HR.out,headE,if_neg (by rw [← k2];simp)]
    clear hg k1 k2 k3 k4
    go_wp2
    go_returns
    exact ⟨by rw [HX.out];rfl,HB2.out⟩
   | true =>
    have HX:Hid (R=headP (payE s)):=by (show _=_);rw [HR.out,headE,if_pos ⟨hg,k1.symm,k2.symm⟩]
    have HRP:Hid (Rd W2 a1 n1 (payE s)):=k3.below HBW.out
    have HPN:Hid ((payE s).length=n1∧n1≤59):=⟨k3.size,k4⟩
    have hn1:n1≤59:=k4
    obtain ⟨⟨v1,p1,r1⟩,HT1⟩:∃ r,Hid (r=KeyM.take (payE s) 0):=⟨_,rfl⟩
    obtain ⟨⟨v2,p2,r2⟩,HT2⟩:∃ r,Hid (r=KeyM.take (payE s) (p1:Int)):=⟨_,rfl⟩
    have HP1:Hid (p1≤59):=by
     have h1:p1≤(payE s).length:=by
      have:=take_le (payE s) 0
      rw [← HT1.out] at this
      exact this
     (show _≤_)
     have:=HPN.out
     omega
    have HV:Hid (R=if r2≠0∨p2≠n1 then (0,0,false) else if v1<1∨4611686018427387904<v1∨v2<0∨1099511627776<v2 then (0,0,false) else (v1,v2,true)):=by
     (show _=_)
     rw [HX.out,headP,← HT1.out]
     simp only
     rw [← HT2.out,HPN.out.1]
    clear hg k1 k2 k3 k4
    go_wp2_with fail
    refine (octet_TakeKey a1 n1 n1 (payE s) 0 W2 HRP.out (Nat.le_refl _) (by omega) (by omega)).mono ?_
    rw [← HT1.out]
    rintro e w3 ⟨he,hw3⟩
    rw [toldK] at he
    subst he
    rw [hw3]
    clear hw3 w3
    go_wp2_with fail
    refine (octet_TakeKey a1 n1 n1 (payE s) (p1:Int) W2 HRP.out (Nat.le_refl _) (by omega) (by have:=HP1.out;omega)).mono ?_
    rw [← HT2.out]
    rintro e w3 ⟨he,hw3⟩
    rw [toldK] at he
    subst he
    rw [hw3]
    clear hw3 w3
    by_cases c1:r2=0
    ·subst c1
     by_cases c2:p2=n1
     ·subst c2
      have c2':((p2:Int) != (p2:Int))=false:=by simp
      by_cases c3:v1<1
      ·have HF:Hid (R=(0,0,false)):=by (show _=_);rw [HV.out,if_neg (by simp),if_pos (.inl c3)]
       go_wp2
       go_returns
       exact ⟨by rw [HF.out];rfl,HB2.out⟩
      ·by_cases c4:4611686018427387904<v1
       ·have HF:Hid (R=(0,0,false)):=by (show _=_);rw [HV.out,if_neg (by simp),if_pos (.inr (.inl c4))]
        go_wp2
        go_returns
        exact ⟨by rw [HF.out];rfl,HB2.out⟩
       ·by_cases c5:v2<0
        ·have HF:Hid (R=(0,0,false)):=by (show _=_);rw [HV.out,if_neg (by simp),if_pos (.inr (.inr (.inl c5)))]
         go_wp2
         go_returns
         exact ⟨by rw [HF.out];rfl,HB2.out⟩
        ·by_cases c6:1099511627776<v2
         ·have HF:Hid (R=(0,0,false)):=by (show _=_);rw [HV.out,if_neg (by simp),if_pos (.inr (.inr (.inr c6)))]
          go_wp2
          go_returns
          exact ⟨by rw [HF.out];rfl,HB2.out⟩
         ·have HF:Hid (R=(v1,v2,true)):=by (show _=_);rw [HV.out,if_neg (by simp),if_neg (by omega)]
          go_wp2
          go_returns
          exact ⟨by rw [HF.out];rfl,HB2.out⟩
     ·have c2':((p2:Int) != (n1:Int))=true:=by rw [bne_iff_ne];omega
      have c2'':((p2:Int) == (n1:Int))=false:=by rw [beq_eq_false_iff_ne];omega
      have HF:Hid (R=(0,0,false)):=by (show _=_);rw [HV.out,if_pos (.inr c2)]
      go_wp2
      go_returns
      exact ⟨by rw [HF.out];rfl,HB2.out⟩
    ·have c1':((r2:Int) != 0)=true:=by rw [bne_iff_ne];omega
     have c1'':((r2:Int) == 0)=false:=by rw [beq_eq_false_iff_ne];omega
     have HF:Hid (R=(0,0,false)):=by (show _=_);rw [HV.out,if_pos (.inl c1)]
     go_wp2
     go_returns
     exact ⟨by rw [HF.out];rfl,HB2.out⟩
  ·have hk1:((kd:Int) != 1)=true:=by rw [bne_iff_ne];omega
   have hk2:((kd:Int) == 1)=false:=by rw [beq_eq_false_iff_ne];omega
   have HX:Hid (R=(0,0,false)):=by (show _=_);rw [HR.out,headE,if_neg (fun h=>hk (by rw [k1];exact h.2.1))]
   clear hg k1 k2 k3 k4
   go_wp2
   go_returns
   exact ⟨by rw [HX.out];rfl,HB2.out⟩
end
end Go.Proofs.YtoiennkfdjnkbaaGreatDoor
