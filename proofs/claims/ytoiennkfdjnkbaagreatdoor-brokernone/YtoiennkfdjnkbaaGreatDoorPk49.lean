import Derived.Test.YtoiennkfdjnkbaaGreatDoorPk00
import Derived.Test.YtoiennkfdjnkbaaGreatDoorPk32
import Derived.Test.YtoiennkfdjnkbaaGreatDoorPk48
import Derived.Test.YtoiennkfdjnkbaaGreatDoorPk22
import Derived.Deep.RegionHeld3
set_option maxRecDepth 100000
set_option maxHeartbeats 8000000
namespace Go.Proofs.YtoiennkfdjnkbaaGreatDoor
section
open Go.RowKit
def told (r:Nat×Nat×Nat):Ending:=.returned (.tuple #[.int .u64 (r.1:Int),.int .i64 (r.2.1:Int),.int .i64 (r.2.2:Int)])
theorem rd_at {w:World} {a:Option Addr} {len:Nat} {bs:List Nat} (h:Rd w a len bs):∀ i,i<len→∃ b off,a=some ⟨b,off,none⟩∧w.cell? ⟨b,off+i,none⟩=some (.int .u8 ((bs.getD i 0:Nat):Int)):=by
 intro i hi
 rcases h.cells with h0 | ⟨b,off,ha,_,hc⟩
 ·omega
 ·exact ⟨b,off,ha,hc i hi⟩
theorem told_eq {r s:Nat×Nat×Nat} (h:r=s) {x y z:Int} (h1:x=(s.1:Int)) (h2:y=(s.2.1:Int)) (h3:z=(s.2.2:Int)):Ending.returned (.tuple #[.int .u64 x,.int .i64 y,.int .i64 z])=told r:=by
 subst h h1 h2 h3;rfl
theorem drop_cons {bs:List Nat} {k:Nat} (h:k<bs.length):bs.drop k=bs.getD k 0 :: bs.drop (k+1):=by
 rw [List.drop_eq_getElem_cons h,List.getD_eq_getElem?_getD,List.getElem?_eq_getElem h];rfl
theorem nat_and128 (c:Nat) (h:c<256):c &&& 128=if 128≤c then 128 else 0:=by
 have:∀ c,c<256→c &&& 128=if 128≤c then 128 else 0:=by decide +kernel
 exact this c h
theorem u8_and128_yes (c:Nat) (h:c<256) (hc:128≤c):bits BinOp.and IntKind.u8 (c:Int) 128=128:=by
 rw [show (128:Int)=((128:Nat):Int) from rfl,u8_and_nat c 128 h (by omega),nat_and128 c h,if_pos hc]
theorem u8_and128_no (c:Nat) (h:c<256) (hc:c<128):bits BinOp.and IntKind.u8 (c:Int) 128=0:=by
 rw [show (128:Int)=((128:Nat):Int) from rfl,u8_and_nat c 128 h (by omega),nat_and128 c h,if_neg (by omega)];rfl
theorem u8_low7 (c:Nat) (h:c<256):bits BinOp.andNot IntKind.u8 (c:Int) 128=((c % 128:Nat):Int):=by
 rw [show (128:Int)=((128:Nat):Int) from rfl,u8_andNot_nat c 128 h (by omega)]
 congr 1
 exact nat_mask7 c
theorem octet_TakeUint (a:Option Addr) (len cap:Nat) (bs:List Nat) (x:Int) (w:World) (hr:Rd w a len bs) (hl:len≤9223372036854775000) (hx:(-9223372036854775808:Int)≤x∧x≤9223372036854775807) :
  Calls Tryz.prog 208 #[.slice a len cap,.int .i64 x] w fun e w'=>e=told (Leb.take bs x)∧w'=w:=by
 have HL:Hid (bs.length=len):=hr.size
 have HBY:Hid (∀ k,bs.getD k 0<256):=getD_lt hr.byte
 have HC:Hid (∀ i,i<len→∃ b off,a=some ⟨b,off,none⟩∧w.cell? ⟨b,off+i,none⟩=some (.int .u8 ((bs.getD i 0:Nat):Int))):=rd_at hr
 clear hr
 by_cases hneg:x<0
 ·have HF:Hid (Leb.take bs x=(0,0,2)):=by show _=_;unfold Leb.take;rw [if_pos (.inl hneg)]
  go_enter Tryz.func208,Tryz.ntmps208
  go_wp2
  go_step3
  go_hide hQ
  have HQQ:Hid _:=hQ
  clear hQ
  go_wp2
  rw [← HQQ.out,Exit.noGoto_ret]
  go_ret3
  exact ⟨told_eq HF.out rfl rfl rfl,rfl⟩
 by_cases hbig:(len:Int)<x
 ·have HF:Hid (Leb.take bs x=(0,0,2)):=by show _=_;unfold Leb.take;rw [if_pos (.inr (by rw [HL.out];exact hbig))]
  go_enter Tryz.func208,Tryz.ntmps208
  go_wp2
  go_step3
  go_hide hQ
  have HQQ:Hid _:=hQ
  clear hQ
  go_wp2
  rw [← HQQ.out,Exit.noGoto_ret]
  go_ret3
  exact ⟨told_eq HF.out rfl rfl rfl,rfl⟩
 obtain ⟨p,rfl⟩:=Int.eq_ofNat_of_zero_le (show 0≤x by omega)
 have hp:p≤len:=by omega
 have HT:Hid (Leb.take bs (p:Int)=Leb.fin p (Leb.tk 0 0 (bs.drop p))):=by show _=_;unfold Leb.take;rw [if_neg (by rw [HL.out];omega)];simp
 clear hneg hbig hx
 go_enter Tryz.func208,Tryz.ntmps208
 go_wp2
 refine wp_scope_via 0 (fun a' w'=>w'=w∧∃ (i n q:Nat) (u4 u5 u6 u9 u10 u11 u12 u13 u14 u15 u16 u17 u18 u19 u20 u21 u22 u23 u24 u25 u26 u27 u28 u29 u30 u31 u32 u33 u34 u35 u36 u37 u38 u39 u40 u41 u42 u43 u44 u45 u46 u47 u48 u49 u50 u51 u52 u53 u54 u55 u56 u57 u58:Value),a'={ tmps:=#[.slice a len cap,.int .i64 (p:Int),undef,undef,u4,u5,u6,.int .u64 (n:Int),.int .i64 (i:Int),u9,u10,u11,u12,u13,u14,u15,u16,u17,u18,u19,u20,u21,u22,u23,u24,u25,u26,u27,u28,u29,u30,u31,u32,u33,u34,u35,u36,u37,u38,u39,u40,u41,u42,u43,u44,u45,u46,u47,u48,u49,u50,u51,u52,u53,u54,u55,u56,u57,u58],defers:=[] }∧i≤9∧q≤9223372036854775808∧n<q∧p+i≤len∧Hid (q=128 ^ i)∧Hid (Leb.tk 0 0 (bs.drop p)=Leb.tk i n (bs.drop (p+i)))) (fun a' _=>10 - (intOf (a'.tmps.getD 8 undef)).toNat) rfl ?_ ?_
 ·rintro a' wr ⟨rfl,i,n,q,u4,u5,u6,u9,u10,u11,u12,u13,u14,u15,u16,u17,u18,u19,u20,u21,u22,u23,u24,u25,u26,u27,u28,u29,u30,u31,u32,u33,u34,u35,u36,u37,u38,u39,u40,u41,u42,u43,u44,u45,u46,u47,u48,u49,u50,u51,u52,u53,u54,u55,u56,u57,u58,rfl,hi,hq,hn,hpi,HQ,HK⟩
  go_hide hQ
  have HQQ:Hid _:=hQ
  clear hQ
  by_cases hs:p+i<len
  ·obtain ⟨b,off,rfl,hcx⟩:=HC.out (p+i) hs
   have hs':((p:Int)+(i:Int) == (len:Int))=false:=by rw [beq_eq_false_iff_ne];omega
   obtain ⟨c,HCE⟩:∃ c,Hid (c=bs.getD (p+i) 0):=⟨_,rfl⟩
   rw [← HCE.out] at hcx
   have hc:c<256:=by rw [HCE.out];exact HBY.out _
   have HD:Hid (bs.drop (p+i)=c :: bs.drop (p+(i+1))):=by
    show _=_
    rw [drop_cons (by rw [HL.out];exact hs),← HCE.out,Nat.add_assoc]
   obtain ⟨l,HLL⟩:∃ l,Hid (l=c % 128):=⟨_,rfl⟩
   have hl7:l<128:=by rw [HLL.out];omega
   have e0:bits BinOp.andNot IntKind.u8 (c:Int) 128=(l:Int):=by rw [HLL.out];exact u8_low7 c hc
   obtain ⟨y,HY⟩:∃ y,Hid (y=c % 128 * q):=⟨_,rfl⟩
   have hyq:y≤127 * q:=by rw [HY.out];exact Nat.mul_le_mul_right q (by omega)
   have HOR:Hid (y<18446744073709551616→bits BinOp.or IntKind.u64 (n:Int) (IntKind.u64.wrap ((l:Int) * 2 ^ (7 * i)))=((n+y:Nat):Int)):=by
    intro hy64
    have ep:(2:Nat) ^ (7 * i)=q:=by rw [HQ.out,show (128:Nat)=2 ^ 7 from rfl,← Nat.pow_mul]
    have e3:(l:Int) * 2 ^ (7 * i)=((y:Nat):Int):=by
     rw [HY.out,← HLL.out,← ep,Int.natCast_mul,Int.natCast_pow]
     rfl
    rw [e3,IntKind.wrap_u64,show ((y:Int) % 18446744073709551616)=(y:Int) from by omega,u64_or_nat n y (by omega) hy64]
    congr 1
    rw [Nat.or_comm,Nat.add_comm]
    refine nat_join (7 * i) y n ?_ (by rw [ep];exact hn)
    rw [HY.out,ep]
    exact Nat.mul_mod_left _ _
   by_cases h9:i=9
   ·subst h9
    have h9':((9:Nat):Int)=9:=rfl
    have hq9:q=9223372036854775808:=by rw [HQ.out]
    by_cases h1:1<c
    ·have HF:Hid (Leb.take bs (p:Int)=(0,0,6)):=by show _=_;rw [HT.out,HK.out,HD.out,Leb.tk_limit 9 n c _ rfl h1];rfl
     clear hq9
     go_wp2
     rw [← HQQ.out]
     simp only [Exit.jump]
     go_ret3
     exact ⟨told_eq HF.out rfl rfl rfl,rfl⟩
    ·have hy1:y≤9223372036854775808:=by
      rw [HY.out,hq9]
      have:c % 128≤1:=by omega
      omega
     have hc1:c<128:=by omega
     have hny:n+y<18446744073709551616:=by omega
     have e1:=HOR.out (by omega)
     rw [show (2:Int) ^ (7 * 9)=9223372036854775808 from by decide] at e1
     have e2:=u8_and128_no c hc hc1
     clear hq9
     by_cases h0:c=0
     ·have HF:Hid (Leb.take bs (p:Int)=(0,0,4)):=by show _=_;rw [HT.out,HK.out,HD.out,Leb.tk_form 9 n c _ (by omega) h0 (by omega)];rfl
      have h0':((c:Int) == 0)=true:=by rw [beq_iff_eq];omega
      have h1':¬ (1:Int)<(c:Int):=by omega
      clear h0 h1
      go_wp2
      rw [← HQQ.out]
      simp only [Exit.jump]
      go_ret3
      exact ⟨told_eq HF.out rfl rfl rfl,rfl⟩
     ·have HF:Hid (Leb.take bs (p:Int)=(n+y,p+10,0)):=by show _=_;rw [HT.out,HK.out,HD.out,Leb.tk_end 9 n c _ (by omega) hc1 (by omega),HY.out,HQ.out,Nat.mod_eq_of_lt hc1];rfl
      have h0':((c:Int) == 0)=false:=by rw [beq_eq_false_iff_ne];omega
      go_wp2
      rw [← HQQ.out]
      simp only [Exit.jump]
      go_ret3
      exact ⟨told_eq HF.out rfl (by first | (simp;done) | (simp;omega)) rfl,rfl⟩
   ·have hq8:q≤72057594037927936:=by
     rw [HQ.out]
     exact Nat.pow_le_pow_right (n:=128) (by omega) (show i≤8 by omega)
    have e1:=HOR.out (by omega)
    have h9':((i:Int) == 9)=false:=by rw [beq_eq_false_iff_ne];omega
    have hi8:i≤8:=by omega
    by_cases hc1:c<128
    ·have e2:=u8_and128_no c hc hc1
     by_cases h0:c=0∧0<i
     ·have HF:Hid (Leb.take bs (p:Int)=(0,0,4)):=by show _=_;rw [HT.out,HK.out,HD.out,Leb.tk_form i n c _ (by omega) h0.1 h0.2];rfl
      have h0':((c:Int) == 0)=true:=by rw [beq_iff_eq];omega
      have hi0:0<i:=h0.2
      clear h0
      go_wp2
      rw [← HQQ.out]
      simp only [Exit.jump]
      go_ret3
      exact ⟨told_eq HF.out rfl rfl rfl,rfl⟩
     ·have HF:Hid (Leb.take bs (p:Int)=(n+y,p+(i+1),0)):=by show _=_;rw [HT.out,HK.out,HD.out,Leb.tk_end i n c _ (by omega) hc1 h0,HY.out,HQ.out,Nat.mod_eq_of_lt hc1];rfl
      by_cases hz:c=0
      ·have h0':((c:Int) == 0)=true:=by rw [beq_iff_eq];omega
       have hi0:¬ 0<i:=fun h=>h0 ⟨hz,h⟩
       clear h0 hz
       go_wp2
       rw [← HQQ.out]
       simp only [Exit.jump]
       go_ret3
       exact ⟨told_eq HF.out rfl (by first | (simp;done) | (simp;omega)) rfl,rfl⟩
      ·have h0':((c:Int) == 0)=false:=by rw [beq_eq_false_iff_ne];omega
       clear h0
       go_wp2
       rw [← HQQ.out]
       simp only [Exit.jump]
       go_ret3
       exact ⟨told_eq HF.out rfl (by first | (simp;done) | (simp;omega)) rfl,rfl⟩
    ·have HF:Hid (Leb.tk 0 0 (bs.drop p)=Leb.tk (i+1) (n+y) (bs.drop (p+(i+1)))):=by show _=_;rw [HK.out,HD.out,Leb.tk_more i n c _ (by omega) (by omega),HY.out,HQ.out]
     have hnq:n+y<q * 128:=by omega
     have HQ':Hid (q * 128=128 ^ (i+1)):=by show _=_;rw [HQ.out,Nat.pow_succ]
     have e2:=u8_and128_yes c hc (by omega)
     go_wp2
     go_step3
     rw [← HQQ.out]
     refine ⟨rfl,⟨rfl,i+1,n+y,q * 128,_,_,_,_,_,_,_,_,_,_,_,_,_,_,_,_,_,_,_,_,_,_,_,_,_,_,_,_,_,_,_,_,_,_,_,_,_,_,_,_,_,_,_,_,_,_,_,_,_,_,_,_,_,rfl,by omega,by omega,hnq,by omega,HQ',HF⟩,?_⟩
     simp [intOf]
     omega
  ·have HF:Hid (Leb.take bs (p:Int)=(0,0,3)):=by show _=_;rw [HT.out,HK.out,List.drop_eq_nil_of_le (by rw [HL.out];omega)];rfl
   have hs':((p:Int)+(i:Int) == (len:Int))=true:=by rw [beq_iff_eq];omega
   go_wp2
   rw [← HQQ.out]
   simp only [Exit.jump]
   go_ret3
   exact ⟨told_eq HF.out rfl rfl rfl,rfl⟩
 ·intro hrest
  go_hide hQ
  have HQQ:Hid _:=hQ
  clear hQ
  go_wp2
  refine wp_label ?_
  rename_i hk
  refine hk _ _ ?_
  have hQ:=HQQ.out
  subst hQ
  exact hrest _ _ ⟨rfl,0,0,1,_,_,_,_,_,_,_,_,_,_,_,_,_,_,_,_,_,_,_,_,_,_,_,_,_,_,_,_,_,_,_,_,_,_,_,_,_,_,_,_,_,_,_,_,_,_,_,_,_,_,_,_,_,rfl,by omega,by omega,by omega,by omega,rfl,rfl⟩
end
section
open Go.RowKit Go.Shelf Go.Maps
theorem be_Check (ca:Option Addr) (n c:Nat) (hn:n≤200) (w:World):Calls Tryz.prog 85 #[.agg #[.slice none 0 0,.slice ca n c]] w fun e w'=>e=.returned (.int .i64 0)∧Below w.heap.size w w':=by
 obtain ⟨W1,HW1⟩:∃ W,Hid (W=w.alloc (.cells #[.slice none 0 0,.slice ca n c] 45)):=⟨_,rfl⟩
 have HX1:Hid (Below w.heap.size w W1):=by (show Below _ _ _);rw [HW1.out];exact below_alloc _ _
 have HK1:Hid (Row1 W1 w.heap.size 45 [.slice none 0 0,.slice ca n c]):=by (show Row1 _ _ _ _);rw [HW1.out];exact Row1.of (Blk.new _ _ _)
 have c0:W1.cell? ⟨w.heap.size,0,none⟩=some (.slice none 0 0):=HK1.out.cell 0 rfl
 have c1:W1.cell? ⟨w.heap.size,1,none⟩=some (.slice ca n c):=HK1.out.cell 1 rfl
 have hn':¬ (200:Int)<(n:Int):=by omega
 go_enter Tryz.func85,Tryz.ntmps85
 go_upto_region 1 with fail
 rw [← HW1.out]
 go_wp2_with fail
 refine wp_loop_rounds 1 ?_
 rw [rounds_succ]
 go_wp2
 go_returns
 exact ⟨rfl,HX1.out⟩
theorem be_Fits (ca:Option Addr) (n c:Nat) (hn:n≤200) (w:World):Calls Tryz.prog 33 #[.slice none 0 0,.agg #[.slice none 0 0,.slice ca n c]] w fun e w'=>e=.returned (.int .i64 0)∧Below w.heap.size w w':=by
 obtain ⟨W1,HW1⟩:∃ W,Hid (W=w.alloc (.cells #[.slice none 0 0,.slice ca n c] 45)):=⟨_,rfl⟩
 have HX1:Hid (Below w.heap.size w W1):=by (show Below _ _ _);rw [HW1.out];exact below_alloc _ _
 have HK1:Hid (Row1 W1 w.heap.size 45 [.slice none 0 0,.slice ca n c]):=by (show Row1 _ _ _ _);rw [HW1.out];exact Row1.of (Blk.new _ _ _)
 have c0:W1.cell? ⟨w.heap.size,0,none⟩=some (.slice none 0 0):=HK1.out.cell 0 rfl
 have c1:W1.cell? ⟨w.heap.size,1,none⟩=some (.slice ca n c):=HK1.out.cell 1 rfl
 have HCK:=be_Check ca n c hn W1
 have HSC:=br_schema0 W1
 go_enter Tryz.func33,Tryz.ntmps33
 go_upto_region 1 with fail
 rw [← HW1.out]
 refine wp_scope_straight ?_
 go_wp2_with fail
 refine HSC.mono ?_
 rintro e w0 ⟨rfl,hw⟩
 rw [hw]
 clear hw w0 HSC
 go_wp2_with fail
 refine HCK.mono ?_
 rintro e w2 ⟨rfl,hb2⟩
 have HX2:Hid (Below w.heap.size w w2):=HX1.out.trans (hb2.mono HX1.out.size)
 have d0:w2.cell? ⟨w.heap.size,0,none⟩=some (.slice none 0 0):=(HK1.out.stay hb2).cell 0 rfl
 clear hb2 HCK c0 c1
 go_wp2_with fail
 refine wp_label ?_
 go_wp2_with fail
 refine wp_loop_rounds 1 ?_
 rw [rounds_succ]
 go_wp2
 try simp only [Exit.noGoto]
 first | go_returns | go_ret
 exact ⟨rfl,HX2.out⟩
theorem be_leb0:Leb.leb 0=[0]:=by unfold Leb.leb;rfl
theorem be_leb1:Leb.leb 1=[1]:=by unfold Leb.leb;rfl
theorem be_Uint0 (w:World):Calls Tryz.prog 86 #[.int .u64 0] w fun e w'=>∃ a cap,e=.returned (.slice a 1 cap)∧a≠none∧Own w' w.heap.size a 1 cap [0] ∧ Below w.heap.size w w':=by
 have h:=octet_Uint 0 (by omega) w
 rw [be_leb0] at h
 exact h
theorem be_Uint1 (w:World):Calls Tryz.prog 86 #[.int .u64 1] w fun e w'=>∃ a cap,e=.returned (.slice a 1 cap)∧a≠none∧Own w' w.heap.size a 1 cap [1] ∧ Below w.heap.size w w':=by
 have h:=octet_Uint 1 (by omega) w
 rw [be_leb1] at h
 exact h
theorem be_Put (g c:Nat) (w:World) (hr:Rd w (some ⟨g,0,none⟩) 1 [7]):Calls Tryz.prog 34 #[.agg #[.slice none 0 0,.slice (some ⟨g,0,none⟩) 1 c]] w fun e w'=>∃ a' c',e=.returned (.tuple #[.slice a' 3 c',.int .i64 0])∧Own w' w.heap.size a' 3 c' [0,1,7] ∧ Below w.heap.size w w':=by
 have HR:Hid (Rd w (some ⟨g,0,none⟩) 1 [7]):=hr
 obtain ⟨W1,HW1⟩:∃ W,Hid (W=w.alloc (.cells #[.slice none 0 0,.slice (some ⟨g,0,none⟩) 1 c] 45)):=⟨_,rfl⟩
 have HX1:Hid (Below w.heap.size w W1):=by (show Below _ _ _);rw [HW1.out];exact below_alloc _ _
 have HK1:Hid (Row1 W1 w.heap.size 45 [.slice none 0 0,.slice (some ⟨g,0,none⟩) 1 c]):=by (show Row1 _ _ _ _);rw [HW1.out];exact Row1.of (Blk.new _ _ _)
 have c0:W1.cell? ⟨w.heap.size,0,none⟩=some (.slice none 0 0):=HK1.out.cell 0 rfl
 have c1:W1.cell? ⟨w.heap.size,1,none⟩=some (.slice (some ⟨g,0,none⟩) 1 c):=HK1.out.cell 1 rfl
 have HCK:=be_Check (some ⟨g,0,none⟩) 1 c (by decide) W1
 clear hr
 go_enter Tryz.func34,Tryz.ntmps34
 go_upto_region 1 with fail
 rw [← HW1.out]
 go_wp2_with fail
 refine HCK.mono ?_
 rintro e w2 ⟨rfl,hb2⟩
 have HX2:Hid (Below w.heap.size w w2):=HX1.out.trans (hb2.mono HX1.out.size)
 have HK2:Hid (Row1 w2 w.heap.size 45 [.slice none 0 0,.slice (some ⟨g,0,none⟩) 1 c]):=HK1.out.stay hb2
 clear hb2 HCK c0 c1
 have c0:w2.cell? ⟨w.heap.size,0,none⟩=some (.slice none 0 0):=HK2.out.cell 0 rfl
 have HU:=be_Uint0 w2
 go_wp2_with fail
 refine HU.mono ?_
 rintro e w3 ⟨a3,n3,rfl,_,ho3,hb3⟩
 have HO3:Hid (Own w3 w2.heap.size a3 1 n3 [0]):=ho3
 have HS23:Hid (w2.heap.size≤w3.heap.size):=hb3.size
 have HX3:Hid (Below w.heap.size w w3):=HX2.out.trans (hb3.mono HX2.out.size)
 have HK3:Hid (Row1 w3 w.heap.size 45 [.slice none 0 0,.slice (some ⟨g,0,none⟩) 1 c]):=HK2.out.stay hb3
 clear ho3 hb3 HU c0
 have c0:w3.cell? ⟨w.heap.size,0,none⟩=some (.slice none 0 0):=HK3.out.cell 0 rfl
 have c1:w3.cell? ⟨w.heap.size,1,none⟩=some (.slice (some ⟨g,0,none⟩) 1 c):=HK3.out.cell 1 rfl
 have HU:=be_Uint1 w3
 go_wp2_with fail
 refine wp_loop_rounds 1 ?_
 rw [rounds_succ]
 go_wp2_with fail
 refine HU.mono ?_
 rintro e w4 ⟨a4,n4,rfl,_,ho4,hb4⟩
 have HO4:Hid (Own w4 w2.heap.size a4 1 n4 [1]):=ho4.lower HS23.out
 have HO34:Hid (Own w4 w2.heap.size a3 1 n3 [0]):=HO3.out.below hb4
 have HX4:Hid (Below w.heap.size w w4):=HX3.out.trans (hb4.mono HX3.out.size)
 have HB24:Hid (w2.heap.size≤w4.heap.size∧w.heap.size≤w2.heap.size):=⟨Nat.le_trans HS23.out hb4.size,HX2.out.size⟩
 have HK4:Hid (Row1 w4 w.heap.size 45 [.slice none 0 0,.slice (some ⟨g,0,none⟩) 1 c]):=HK3.out.stay hb4
 have HR4:Hid (Rd w4 (some ⟨g,0,none⟩) 1 [7]):=HR.out.below HX4.out
 have HSL:Hid (w.heap.size<w2.heap.size):=HK2.out.lt
 clear ho4 hb4 HU c0 c1
 have c1:w4.cell? ⟨w.heap.size,1,none⟩=some (.slice (some ⟨g,0,none⟩) 1 c):=HK4.out.cell 1 rfl
 go_wp2_with (at_builtin;refine wpList_append_rd rfl (.tmp 48) (.tmp 53) rfl w2.heap.size a3 1 n3 [0] rfl HO34.out a4 1 n4 [1] rfl HO4.out.rd HO4.out.nil_cap' (by decide) HB24.out.1 ?_)
 intro a5 n5 w5 ho5 hg5 hb5
 have HO5:Hid (Own w5 w2.heap.size a5 2 n5 [0,1]):=ho5
 have HB5:Hid (Below w2.heap.size w4 w5):=hb5
 have HX5:Hid (Below w.heap.size w w5):=HX4.out.trans (hb5.mono HB24.out.2)
 have d1:w5.cell? ⟨w.heap.size,1,none⟩=some (.slice (some ⟨g,0,none⟩) 1 c):=(hb5.cell (p:=⟨w.heap.size,1,none⟩) HSL.out).trans c1
 have HR5:Hid (Rd w5 (some ⟨g,0,none⟩) 1 [7]):=HR.out.below HX5.out
 clear ho5 hg5 hb5 c1
 go_wp2_with (at_builtin;refine wpList_append_rd rfl (.tmp 55) (.tmp 57) rfl w2.heap.size a5 2 n5 [0,1] rfl HO5.out (some ⟨g,0,none⟩) 1 c [7] rfl HR5.out (fun e=>by cases e) (by decide) (Nat.le_trans HB24.out.1 HB5.out.size) ?_)
 intro a6 n6 w6 ho6 hg6 hb6
 have HO6:Hid (Own w6 w.heap.size a6 3 n6 [0,1,7]):=ho6.lower HB24.out.2
 have HX6:Hid (Below w.heap.size w w6):=HX5.out.trans (hb6.mono HB24.out.2)
 clear ho6 hg6 hb6 d1
 go_wp2
 go_returns
 exact ⟨_,_,rfl,HO6.out,HX6.out⟩
theorem be_take0:Leb.take [0,1,7] 0=(0,1,0):=by kernel_rfl
theorem be_take1:Leb.take [0,1,7] 1=(1,2,0):=by kernel_rfl
theorem be_takeAttrs (a:Option Addr) (c:Nat) (w:World) (hr:Rd w a 3 [0,1,7]):Calls Tryz.prog 333 #[.slice a 3 c,.int .i64 0] w fun e w'=>e=.returned (.tuple #[.slice none 0 0,.int .i64 1,.int .i64 0])∧w'=w:=by
 have HTU:=octet_TakeUint a 3 c [0,1,7] 0 w hr (by decide) (by omega)
 rw [be_take0] at HTU
 unfold told at HTU
 clear hr
 go_enter Tryz.func333,Tryz.ntmps333
 go_wp2_with fail
 refine HTU.mono ?_
 rintro e w0 ⟨rfl,hw⟩
 rw [hw]
 clear hw w0 HTU
 go_wp2_with fail
 refine wp_loop_rounds 1 ?_
 rw [rounds_succ]
 go_wp2
 go_returns
 exact ⟨rfl,rfl⟩
theorem be_takeContent (g c:Nat) (w:World) (hr:Rd w (some ⟨g,0,none⟩) 3 [0,1,7]) (hc:3≤c):Calls Tryz.prog 334 #[.slice (some ⟨g,0,none⟩) 3 c,.int .i64 1] w fun e w'=>∃ a' c',e=.returned (.tuple #[.slice a' 1 c',.int .i64 3,.int .i64 0])∧Own w' w.heap.size a' 1 c' [7] ∧ Below w.heap.size w w':=by
 have HTU:=octet_TakeUint (some ⟨g,0,none⟩) 3 c [0,1,7] 1 w hr (by decide) (by omega)
 rw [be_take1] at HTU
 unfold told at HTU
 have hp:=Rd.part hr 2 1 (by decide)
 have hcl:=bytes_Clone (some ⟨g,0+2,none⟩) 1 (c - 2) [7] w hp (by decide)
 clear hr hp
 go_enter Tryz.func334,Tryz.ntmps334
 go_wp2_with fail
 refine HTU.mono ?_
 rintro e w0 ⟨rfl,hw⟩
 rw [hw]
 clear hw w0 HTU
 go_wp2_with fail
 refine hcl.mono ?_
 rintro e w1 ⟨a1,c1,rfl,ho1,hb1⟩
 have HR:Hid (Own w1 w.heap.size a1 1 c1 [7] ∧ Below w.heap.size w w1):=⟨ho1,hb1⟩
 clear ho1 hb1 hcl
 go_wp2
 go_returns
 exact ⟨_,_,rfl,HR.out.1,HR.out.2⟩
theorem results_evTake {w:World} {tmps:Array Value} {g:Nat} {v0 v1 n f:Value} (h4:tmps[4]?.getD undef=.pointer (some ⟨g,0,none⟩)) (h5:tmps[5]?.getD undef=n) (h6:tmps[6]?.getD undef=f)
  (k0:w.cell? ⟨g,0,none⟩=some v0) (k1:w.cell? ⟨g,1,none⟩=some v1):(results Tryz.f298 tmps).run Tryz.prog w=.ok (.tuple #[.agg #[v0,v1],n,f]) w:=by
 simp [results,Tryz.results298,go_sem,h4,h5,h6,k0,k1]
theorem be_Take (g c:Nat) (w:World) (hr:Rd w (some ⟨g,0,none⟩) 3 [0,1,7]) (hc:3≤c):Calls Tryz.prog 298 #[.slice (some ⟨g,0,none⟩) 3 c,.int .i64 0] w fun e w'=>∃ a' c',e=.returned (.tuple #[.agg #[.slice none 0 0,.slice a' 1 c'],.int .i64 3,.int .i64 0])∧Own w' w.heap.size a' 1 c' [7] ∧ Below w.heap.size w w':=by
 obtain ⟨W1,HW1⟩:∃ W,Hid (W=w.alloc (.cells #[.slice none 0 0,.slice none 0 0] 45)):=⟨_,rfl⟩
 have HX1:Hid (Below w.heap.size w W1):=by (show Below _ _ _);rw [HW1.out];exact below_alloc _ _
 have HK1:Hid (Row1 W1 w.heap.size 45 [.slice none 0 0,.slice none 0 0]):=by (show Row1 _ _ _ _);rw [HW1.out];exact Row1.of (Blk.new _ _ _)
 have HTA:=be_takeAttrs (some ⟨g,0,none⟩) c W1 (hr.below HX1.out)
 have HTC:=be_takeContent g c W1 (hr.below HX1.out) hc
 have HSZ:Hid (w.heap.size≤W1.heap.size):=HX1.out.size
 clear hr
 go_enter Tryz.func298,Tryz.ntmps298
 go_upto_region 1 with fail
 rw [← HW1.out]
 go_wp2_with fail
 refine HTA.mono ?_
 rintro e w0 ⟨rfl,hw⟩
 rw [hw]
 clear hw w0 HTA
 go_wp2_with fail
 refine HTC.mono ?_
 rintro e w2 ⟨a2,c2,rfl,ho2,hb2⟩
 have HX2:Hid (Below w.heap.size w w2):=HX1.out.trans (hb2.mono HX1.out.size)
 have HK2:Hid (Row1 w2 w.heap.size 45 [.slice none 0 0,.slice none 0 0]):=HK1.out.stay hb2
 have HO2:Hid (Own w2 W1.heap.size a2 1 c2 [7]):=ho2
 have HLT:Hid (w.heap.size<W1.heap.size):=HK1.out.lt
 clear ho2 hb2 HTC
 have c0:w2.cell? ⟨w.heap.size,0,none⟩=some (.slice none 0 0):=HK2.out.cell 0 rfl
 have c1:w2.cell? ⟨w.heap.size,1,none⟩=some (.slice none 0 0):=HK2.out.cell 1 rfl
 have f0:w2.frozen? ⟨w.heap.size,0,none⟩=false:=HK2.out.free 0
 have f1:w2.frozen? ⟨w.heap.size,1,none⟩=false:=HK2.out.free 1
 go_wp2
 try simp only [Exit.inBlock,Exit.then]
 have HK3:=(HK2.out.set 0 (.slice none 0 0)).set 1 (.slice a2 1 c2)
 refine bodyPost_ret (results_evTake (by rfl) (by rfl) (by rfl) (HK3.cell 0 rfl) (HK3.cell 1 rfl)) rfl ?_
 have HO3:Own ((w2.setCell ⟨w.heap.size,0,none⟩ (.slice none 0 0)).setCell ⟨w.heap.size,1,none⟩ (.slice a2 1 c2)) W1.heap.size a2 1 c2 [7]:=⟨ownsRow_setCell_below (a:=⟨w.heap.size,1,none⟩) (ownsRow_setCell_below (a:=⟨w.heap.size,0,none⟩) HO2.out.row HLT.out _) HLT.out _,HO2.out.byte⟩
 exact ⟨_,_,rfl,HO3.lower HSZ.out,(HX2.out.setCell (Nat.le_refl _) _).setCell (Nat.le_refl _) _⟩
end
section
open Go.RowKit Go.Shelf Go.Maps
theorem infoBrBool:(Tryz.prog.info? 4).map (fun i=>(i.zero,i.size,i.bytes))=some (some (.bool false),1,1):=by kernel_rfl
theorem be_done (a:Option Addr) (n c:Nat) (w:World):Calls Tryz.prog 335 #[.slice none 0 0,.agg #[.int .i64 1,.string ⟨#[]⟩,.int .i64 0,.int .i64 0,.int .i64 0,.string ⟨#[]⟩,.bool false,.complex .f64 0 0,.int .i64 0],.agg #[.slice none 0 0,.slice a n c]] w fun e w'=>(∃ g c',e=.returned (.slice (some ⟨g,0,none⟩) 1 c')∧1≤c'∧w'.cell? ⟨g,0,none⟩=some (.bool true))∧Below w.heap.size w w':=by
 have hcx:∀ (a:Addr) (m:Mode) (W:World) (x y:Nat),(store a (.complex .f64 x y) m).run Tryz.prog W=stored Tryz.prog W a (.complex .f64 x y) m:=fun a m W x y=>run_store _ _ _ _ _ rfl
 obtain ⟨W1,HW1⟩:∃ W,Hid (W=w.alloc (.cells #[.int .i64 1,.string ⟨#[]⟩,.int .i64 0,.int .i64 0,.int .i64 0,.string ⟨#[]⟩,.bool false,.complex .f64 0 0,.int .i64 0] 88)):=⟨_,rfl⟩
 have HY1:Hid (Below w.heap.size w W1):=by (show Below _ _ _);rw [HW1.out];exact below_alloc _ _
 have HK1:Hid (Row1 W1 w.heap.size 88 [.int .i64 1,.string ⟨#[]⟩,.int .i64 0,.int .i64 0,.int .i64 0,.string ⟨#[]⟩,.bool false,.complex .f64 0 0,.int .i64 0]):=by (show Row1 _ _ _ _);rw [HW1.out];exact Row1.of (Blk.new _ _ _)
 obtain ⟨W2,HW2⟩:∃ W,Hid (W=W1.alloc (.cells #[.slice none 0 0,.slice a n c] 45)):=⟨_,rfl⟩
 have HY2:Hid (Below W1.heap.size W1 W2):=by (show Below _ _ _);rw [HW2.out];exact below_alloc _ _
 obtain ⟨W3,HW3⟩:∃ W,Hid (W=W2.alloc (.cells #[.bool true] 4)):=⟨_,rfl⟩
 have HY3:Hid (Below W2.heap.size W2 W3):=by (show Below _ _ _);rw [HW3.out];exact below_alloc _ _
 have HK3:Hid (Row1 W3 W2.heap.size 4 [.bool true]):=by (show Row1 _ _ _ _);rw [HW3.out];exact Row1.of (Blk.new _ _ _)
 have HX2:Hid (Below w.heap.size w W2):=HY1.out.trans (HY2.out.mono HY1.out.size)
 have HX3:Hid (Below w.heap.size w W3):=HX2.out.trans (HY3.out.mono HX2.out.size)
 have c0:W2.cell? ⟨w.heap.size,0,none⟩=some (.int .i64 1):=(HK1.out.stay HY2.out).cell 0 rfl
 obtain ⟨i0,hi,hz0,hz1,hz2⟩:=info_parts infoBrBool
 have HI:Hid (Tryz.prog.info? 4=some i0∧i0.zero=some (.bool false)∧i0.size=1∧i0.bytes=1):=⟨hi,hz0,hz1,hz2⟩
 have HC:Hid (∀ (j:Nat) (u:Value),[Value.bool true][j]? = some u→W3.cell? ((⟨W2.heap.size,0,none⟩:Addr).add j)=some u):=fun j u hj=>by
  have e:(⟨W2.heap.size,0,none⟩:Addr).add j=⟨W2.heap.size,0+j,none⟩:=by unfold Addr.add;split <;> simp_all
  rw [e,Nat.zero_add]
  exact HK3.out.cell j hj
 clear hi hz0 hz1 hz2
 go_enter Tryz.func335,Tryz.ntmps335
 go_upto_region 1 with fail
 rw [← HW1.out,← HW2.out]
 clear hcx
 go_wp2_with (at_builtin;guard_target =~ wpList _ _ _ (Oper.mk (some 18) _ _ _ _ _ :: _) _ _;rw [← HW3.out];refine wpList_append_own _ rfl (.tmp 13) (.tmp 17) 440 rfl W3.heap.size 4 i0 (.bool false) 1 1 Tryz.underlying440 HI.out.1 HI.out.2.1 HI.out.2.2.1 HI.out.2.2.2 (by rfl) (by decide) _ 0 [] rfl (World.ownsRow_nil _ _ _ _) ⟨W2.heap.size,0,none⟩ 1 1 [.bool true] rfl rfl HC.out (by simp [Value.oneCell']) (by decide) (by decide) (Nat.le_refl _) ?_)
 intro v5 w5 ho5 hg5 _
 obtain ⟨g5,c5,hv,hc5,hB5,hR5⟩:=Row1.of_own (n:=1) (by decide) rfl ho5
 subst hv
 have HB5:Hid (Below W3.heap.size W3 w5):=(Below.refl _ _).grown hg5 (Nat.le_refl _) (fun j hj=>by cases hj)
 have HF:Hid (1≤c5∧w5.cell? ⟨g5,0,none⟩=some (.bool true)):=⟨hc5,hR5.cell 0 rfl⟩
 clear ho5 hg5 hc5 hB5 hR5 c0
 go_wp2
 go_returns
 exact ⟨⟨_,_,rfl,HF.out.1,HF.out.2⟩,HX3.out.trans (HB5.out.mono HX3.out.size)⟩
theorem be_Eval (gt ct:Nat) (a:Option Addr) (n c:Nat) (hn:n≤200) (w:World) (hg:Row1 w gt 88 [.int .i64 1,.string ⟨#[]⟩,.int .i64 0,.int .i64 0,.int .i64 0,.string ⟨#[]⟩,.bool false,.complex .f64 0 0,.int .i64 0]):Calls Tryz.prog 299 #[.slice (some ⟨gt,0,none⟩) 1 ct,.agg #[.slice none 0 0,.slice a n c]] w fun e w'=>e=.returned (.tuple #[.bool true,.int .i64 0])∧Below w.heap.size w w':=by
 have HG:Hid (Row1 w gt 88 [.int .i64 1,.string ⟨#[]⟩,.int .i64 0,.int .i64 0,.int .i64 0,.string ⟨#[]⟩,.bool false,.complex .f64 0 0,.int .i64 0]):=hg
 have hcx:∀ (a:Addr) (m:Mode) (W:World) (x y:Nat),(store a (.complex .f64 x y) m).run Tryz.prog W=stored Tryz.prog W a (.complex .f64 x y) m:=fun a m W x y=>run_store _ _ _ _ _ rfl
 obtain ⟨W1,HW1⟩:∃ W,Hid (W=w.alloc (.cells #[.slice none 0 0,.slice a n c] 45)):=⟨_,rfl⟩
 have HX1:Hid (Below w.heap.size w W1):=by (show Below _ _ _);rw [HW1.out];exact below_alloc _ _
 have HK1:Hid (Row1 W1 w.heap.size 45 [.slice none 0 0,.slice a n c]):=by (show Row1 _ _ _ _);rw [HW1.out];exact Row1.of (Blk.new _ _ _)
 have HPC:=br_predCheckY gt ct W1 (hg.stay HX1.out)
 clear hg
 go_enter Tryz.func299,Tryz.ntmps299
 go_upto_region 1 with fail
 rw [← HW1.out]
 go_wp2_with fail
 refine HPC.mono ?_
 rintro e w2 ⟨rfl,hb2⟩
 have HX2:Hid (Below w.heap.size w w2):=HX1.out.trans (hb2.mono HX1.out.size)
 have HK2:Hid (Row1 w2 w.heap.size 45 [.slice none 0 0,.slice a n c]):=HK1.out.stay hb2
 clear hb2 HPC
 have c0:w2.cell? ⟨w.heap.size,0,none⟩=some (.slice none 0 0):=HK2.out.cell 0 rfl
 have c1:w2.cell? ⟨w.heap.size,1,none⟩=some (.slice a n c):=HK2.out.cell 1 rfl
 have HCK:=be_Check a n c hn w2
 go_wp2_with fail
 refine HCK.mono ?_
 rintro e w3 ⟨rfl,hb3⟩
 have HX3:Hid (Below w.heap.size w w3):=HX2.out.trans (hb3.mono HX2.out.size)
 have HK3:Hid (Row1 w3 w.heap.size 45 [.slice none 0 0,.slice a n c]):=HK2.out.stay hb3
 have HG3:Hid (Row1 w3 gt 88 [.int .i64 1,.string ⟨#[]⟩,.int .i64 0,.int .i64 0,.int .i64 0,.string ⟨#[]⟩,.bool false,.complex .f64 0 0,.int .i64 0]):=HG.out.stay HX3.out
 clear hb3 HCK c0 c1
 obtain ⟨W4,HW4⟩:∃ W,Hid (W=w3.alloc (.cells #[.int .i64 1,.string ⟨#[]⟩,.int .i64 0,.int .i64 0,.int .i64 0,.string ⟨#[]⟩,.bool false,.complex .f64 0 0,.int .i64 0] 88)):=⟨_,rfl⟩
 have HX4:Hid (Below w3.heap.size w3 W4):=by (show Below _ _ _);rw [HW4.out];exact below_alloc _ _
 have HK4:Hid (Row1 W4 w3.heap.size 88 [.int .i64 1,.string ⟨#[]⟩,.int .i64 0,.int .i64 0,.int .i64 0,.string ⟨#[]⟩,.bool false,.complex .f64 0 0,.int .i64 0]):=by (show Row1 _ _ _ _);rw [HW4.out];exact Row1.of (Blk.new _ _ _)
 have c0:W4.cell? ⟨w.heap.size,0,none⟩=some (.slice none 0 0):=(HK3.out.stay HX4.out).cell 0 rfl
 have c1:W4.cell? ⟨w.heap.size,1,none⟩=some (.slice a n c):=(HK3.out.stay HX4.out).cell 1 rfl
 have HDN:=be_done a n c W4
 go_wp2_with fail
 refine wp_loop_rounds 2 ?_
 rw [rounds_succ]
 go_upto_region 11 with (guard_target =~ wpList _ _ _ (Oper.mk (some 26) _ _ _ _ _ :: _) _ _;refine wpList_load_mid rfl 88 (.tmp 25) rfl gt 0 rfl [.int .i64 1,.string ⟨#[]⟩,.int .i64 0,.int .i64 0,.int .i64 0,.string ⟨#[]⟩,.bool false,.complex .f64 0 0,.int .i64 0] _ HG3.out.range Tryz.underlying88 rfl (by rfl) ?_)
 rw [← HW4.out]
 clear hcx
 go_wp2_with (guard_target =~ wpList _ _ _ (Oper.mk (some 28) _ _ _ _ _ :: _) _ _;refine wpList_load_mid rfl 88 (.tmp 10) rfl w3.heap.size 0 rfl [.int .i64 1,.string ⟨#[]⟩,.int .i64 0,.int .i64 0,.int .i64 0,.string ⟨#[]⟩,.bool false,.complex .f64 0 0,.int .i64 0] _ HK4.out.range Tryz.underlying88 rfl (by rfl) ?_)
 refine HDN.mono ?_
 rintro e w5 ⟨⟨g5,c5,rfl,hc5,hk5⟩,hb5⟩
 have HX5:Hid (Below w.heap.size w w5):=HX3.out.trans ((HX4.out.trans (hb5.mono HX4.out.size)).mono HX3.out.size)
 have HK5:Hid (w5.cell? ⟨g5,0,none⟩=some (.bool true)):=hk5
 clear hb5 hk5 HDN c0 c1
 go_wp2_with fail
 rw [rounds_succ]
 have k5:=HK5.out
 go_wp2
 go_returns
 exact ⟨rfl,HX5.out⟩
end
section
open Go.RowKit Go.Shelf Go.Maps
attribute [local go_sem] Oper.semAt_some
theorem br_whose1 (B:Nat) (A:Ad) (w:World) (age:Nat) (D:Dk) (con:Bool) (cur hand:Int) (hc:Core B A w age con cur hand) (wv:Value) (hd:Disk w B A.g A.gsd wv D) (h3:(getB D 32 16 0).1=3) (g c:Nat) (hr:Rd w (some ⟨g,0,none⟩) 3 [0,1,7]) (hcc:3≤c):Calls Tryz.prog 251 #[.pointer (some ⟨A.gb,0,none⟩),.pointer (some ⟨A.q,0,none⟩),.agg #[.int .i64 5,.slice (some ⟨g,0,none⟩) 3 c]] w fun e w'=>e=.returned (.int .u32 1)∧Below w.heap.size w w':=by
 have HC:Hid (Core B A w age con cur hand):=hc
 have HD:Hid (Disk w B A.g A.gsd wv D):=hd
 have HV:Hid ((getB D 32 16 0).1=3):=h3
 obtain ⟨g4,Hg4⟩:∃ n,Hid (n=w.heap.size):=⟨_,rfl⟩
 obtain ⟨g5,Hg5⟩:∃ n,Hid (n=w.heap.size+1):=⟨_,rfl⟩
 obtain ⟨W1,HW1⟩:∃ W,Hid (W=(w.alloc (.cells #[.pointer (some ⟨A.q,0,none⟩)] 89)).alloc (.cells #[.int .i64 5,.slice (some ⟨g,0,none⟩) 3 c] 178)):=⟨_,rfl⟩
 have hba:=below_alloc w (.cells #[.pointer (some ⟨A.q,0,none⟩)] 89)
 have hbb:=below_alloc (w.alloc (.cells #[.pointer (some ⟨A.q,0,none⟩)] 89)) (.cells #[.int .i64 5,.slice (some ⟨g,0,none⟩) 3 c] 178)
 have HX1:Hid (Below w.heap.size w W1):=by (show Below _ _ _);rw [HW1.out];exact hba.trans (hbb.mono hba.size)
 have HK1:Hid (Row1 W1 g4 89 [.pointer (some ⟨A.q,0,none⟩)] ∧ Row1 W1 g5 178 [.int .i64 5,.slice (some ⟨g,0,none⟩) 3 c]):=by
  (show _∧_);rw [HW1.out,Hg4.out,Hg5.out]
  refine ⟨Row1.of ((Blk.new w _ _).stay hbb),?_⟩
  have h1:=Blk.new (w.alloc (.cells #[.pointer (some ⟨A.q,0,none⟩)] 89)) #[.int .i64 5,.slice (some ⟨g,0,none⟩) 3 c] 178
  rw [World.size_alloc] at h1
  exact Row1.of h1
 have c51:W1.cell? ⟨g5,1,none⟩=some (.slice (some ⟨g,0,none⟩) 3 c):=HK1.out.2.cell 1 rfl
 have HTK:=be_Take g c W1 (hr.below HX1.out) hcc
 clear hc hd h3 hr hba hbb
 refine (callsIn_wide (n:=8)).1 ?_
 refine callsIn_of_wp_marks Tryz.func251 rfl trivial ?_ rfl
 simp only [Tryz.ntmps251,List.size_toArray,List.length_cons,List.length_nil,Nat.reduceAdd,Nat.reduceSub,Array.replicate_succ,Array.replicate_zero,List.push_toArray,List.append_toArray,List.nil_append,List.cons_append]
 refine wpIn_wide.2 ?_
 go_upto_region 1 with fail
 rw [← HW1.out,← Hg5.out,← Hg4.out]
 go_wp2_with fail
 refine HTK.mono ?_
 rintro e W2 ⟨a2,c2,rfl,ho2,hb2⟩
 have HX2:Hid (Below w.heap.size w W2):=HX1.out.trans (hb2.mono HX1.out.size)
 have HK2:Hid (Row1 W2 g4 89 [.pointer (some ⟨A.q,0,none⟩)]):=HK1.out.1.stay hb2
 clear ho2 hb2 HTK c51
 obtain ⟨g7,Hg7⟩:∃ n,Hid (n=W2.heap.size):=⟨_,rfl⟩
 obtain ⟨g10,Hg10⟩:∃ n,Hid (n=W2.heap.size+1):=⟨_,rfl⟩
 obtain ⟨W3,HW3⟩:∃ W,Hid (W=W2.alloc (.cells #[.slice none 0 0,.slice a2 1 c2] 45)):=⟨_,rfl⟩
 have HX23:Hid (Below W2.heap.size W2 W3):=by (show Below _ _ _);rw [HW3.out];exact below_alloc _ _
 have HK3:Hid (Row1 W3 g4 89 [.pointer (some ⟨A.q,0,none⟩)] ∧ Row1 W3 g7 45 [.slice none 0 0,.slice a2 1 c2]):=⟨HK2.out.stay HX23.out,by rw [HW3.out,Hg7.out];exact Row1.of (Blk.new _ _ _)⟩
 have HS3:Hid (W3.heap.size=W2.heap.size+1):=by (show _=_);rw [HW3.out];simp
 obtain ⟨W4,HW4⟩:∃ W,Hid (W=W3.alloc (.cells #[.int .u32 0] 49)):=⟨_,rfl⟩
 have HX34:Hid (Below W3.heap.size W3 W4):=by (show Below _ _ _);rw [HW4.out];exact below_alloc _ _
 have HX4:Hid (Below w.heap.size w W4):=(HX2.out.trans (HX23.out.mono HX2.out.size)).trans (HX34.out.mono (Nat.le_trans HX2.out.size HX23.out.size))
 have HK4:Hid ((Row1 W4 g4 89 [.pointer (some ⟨A.q,0,none⟩)] ∧ Row1 W4 g7 45 [.slice none 0 0,.slice a2 1 c2])∧Row1 W4 g10 49 [.int .u32 0]):=⟨⟨HK3.out.1.stay HX34.out,HK3.out.2.stay HX34.out⟩,by rw [HW4.out,Hg10.out,← HS3.out];exact Row1.of (Blk.new _ _ _)⟩
 have HS4:Hid (W4.heap.size=W2.heap.size+2):=by (show _=_);rw [HW4.out,World.size_alloc,HS3.out]
 have HC4:Hid (Core B A W4 age con cur hand):=HC.out.stay HX4.out
 have z4:W4.cell? ⟨g4,0,none⟩=some (.pointer (some ⟨A.q,0,none⟩)):=HK4.out.1.1.cell 0 rfl
 have zq:W4.cell? ⟨A.q,0,none⟩=some (.int .i64 0):=HC4.out.part.cell 0 rfl
 have HOF:=br_of A.gb A.gp A.cp A.gs A.cs A.g (age:Int) A.ml A.mp A.ms W4 HC4.out.bro
 go_upto_region 5 with fail
 rw [← HW3.out,← Hg10.out,← HW4.out,← Hg7.out]
 go_wp2_with fail
 refine HOF.mono ?_
 rintro e W5 ⟨rfl,hx5,ht5,hf5,hb5,hs5⟩
 clear HOF z4 zq
 have HX5:Hid (Below w.heap.size w W5):=HX4.out.trans (hb5.mono HX4.out.size)
 have HK5:Hid ((Row1 W5 g4 89 [.pointer (some ⟨A.q,0,none⟩)] ∧ Row1 W5 g7 45 [.slice none 0 0,.slice a2 1 c2])∧Row1 W5 g10 49 [.int .u32 0]):=⟨⟨HK4.out.1.1.stay hb5,HK4.out.1.2.stay hb5⟩,HK4.out.2.stay hb5⟩
 have HSZ:Hid (W5.heap.size=W4.heap.size+3∧W4.heap.size=W2.heap.size+2∧g4=w.heap.size∧g7=W2.heap.size∧g10=W2.heap.size+1∧w.heap.size<W2.heap.size):=⟨hs5,HS4.out,Hg4.out,Hg7.out,Hg10.out,by have:=HK2.out.lt;have:=Hg4.out;omega⟩
 have HTP5:Hid (Tpo W5 A.gp A.cp A.gs A.cs A.gt A.ct):=(HC.out.stay HX5.out).tpo
 obtain ⟨K,HK⟩:∃ K:Nat→Prop,Hid (K=fun k=>k=W4.heap.size∨k=W4.heap.size+1∨k=W4.heap.size+2∨k=A.gs):=⟨_,rfl⟩
 have HGS:Hid (A.gs<w.heap.size):=HC.out.tpo.subs.lt
 have HKL:Hid (∀ k,K k→k<W5.heap.size):=fun k hk=>by
  rw [HK.out] at hk
  have h1:=HSZ.out;have h2:=HGS.out
  rcases hk with rfl | rfl | rfl | rfl <;> omega
 have HK10:Hid (¬ K g10):=fun hk=>by
  rw [HK.out] at hk
  have h1:=HSZ.out;have h2:=HGS.out
  rcases hk with e | e | e | e <;> omega
 have HST:Hid (SeqStopsK Fence.wide 7 Tryz.prog 136 #[.pointer (some ⟨W4.heap.size+1,0,none⟩),.pointer (some ⟨W4.heap.size+2,0,none⟩)] (encS (fun _=>(0,0,A.gt,A.ct)) 1) (Kp K) (fun xs=>xs=asF (fun _=>true) 1 1) (fun pre=>pre <+: asF (fun _=>true) 1 1) 1 W5) :=
  one_of K (by rw [HK.out];exact .inl rfl) (by rw [HK.out];exact .inr (.inl rfl)) (by rw [HK.out];exact .inr (.inr (.inl rfl))) (by rw [HK.out];exact .inr (.inr (.inr rfl))) HKL.out hx5 ht5 hf5 HTP5.out.subs (by decide)
 clear hx5 ht5 hf5 hb5 hs5
 go_wp2_with fail
 refine (wpIn_wide (n:=8)).1 ?_
 have HW5:Hid (w.heap.size≤W5.heap.size):=HX5.out.size
 refine wpIn_rangeFunc_ownH rfl (by decide) (gf:=136) (lb:=#[.pointer (some ⟨W4.heap.size+1,0,none⟩),.pointer (some ⟨W4.heap.size+2,0,none⟩)]) rfl trivial (enters_of Tryz.func136 (by kernel_rfl) rfl) HST.out Kp.trans (fun W l o o' hl=>Kp.put HKL.out W l o o' hl) (Below.refl _ _) (fun _=>rfl)
  (fun (pre:List (Fin 1)) W=>((((Row1 W g4 89 [.pointer (some ⟨A.q,0,none⟩)] ∧ Row1 W g7 45 [.slice none 0 0,.slice a2 1 c2])∧(pre=[] → Row1 W g10 49 [.int .u32 0])∧(pre≠[] → Row1 W g10 49 [.int .u32 1]))∧W5.heap.size≤W.heap.size)∧Below w.heap.size w W)) (fun _ _ _=>False) (OwnFrom.and (OwnFrom.and (fun s A' B' row hs hg hr=>⟨⟨hs.1.1.grown hg (fun r e2=>(hr r e2).2),hs.1.2.grown hg (fun r e2=>(hr r e2).2)⟩,fun e=>(hs.2.1 e).grown hg (fun r e2=>(hr r e2).2),fun e=>(hs.2.2 e).grown hg (fun r e2=>(hr r e2).2)⟩) (fun s A' B' row hs hg _=>Nat.le_trans hs hg.size)) (ownFrom_below (Nat.le_refl _) HW5.out)) (fun _ _ _ _ _ hs _ _=>hs)
  ⟨⟨⟨HK5.out.1,fun _=>HK5.out.2,fun h=>absurd rfl h⟩,Nat.le_refl _⟩,HX5.out⟩
  (fun (_:Fin 1) a' W=>(∃ Bx,W5.heap.size≤Bx∧Row1 W Bx 36 [.int .i64 0,.int .i64 0,.slice (some ⟨A.gt,0,none⟩) 1 A.ct] ∧ a'={ tmps:=#[.pointer (some ⟨A.gb,0,none⟩),.pointer (some ⟨A.q,0,none⟩),.agg #[.int .i64 5,.slice (some ⟨g,0,none⟩) 3 c],undef,.pointer (some ⟨g4,0,none⟩),.pointer (some ⟨g5,0,none⟩),.int .u32 0,.pointer (some ⟨g7,0,none⟩),.int .i64 3,.int .i64 0,.pointer (some ⟨g10,0,none⟩),.int .i64 1,.pointer (some ⟨Bx,0,none⟩),undef,undef,.tuple #[.agg #[.slice none 0 0,.slice a2 1 c2],.int .i64 3,.int .i64 0],.pointer (some ⟨g5,1,none⟩),.slice (some ⟨g,0,none⟩) 3 c,.tuple #[.agg #[.slice none 0 0,.slice a2 1 c2],.int .i64 3,.int .i64 0],.agg #[.slice none 0 0,.slice a2 1 c2],.int .i64 3,.int .i64 0,.int .i64 0,.bool false,.pointer (some ⟨A.gb,0,none⟩),.pointer (some ⟨A.q,0,none⟩),.pointer (some ⟨A.q,0,none⟩),.pointer (some ⟨A.q,0,none⟩),.int .i64 0,.func (.func 136) #[] #[.pointer (some ⟨W4.heap.size+1,0,none⟩),.pointer (some ⟨W4.heap.size+2,0,none⟩)],.int .i64 1,.agg #[.int .i64 0,.int .i64 0,.slice (some ⟨A.gt,0,none⟩) 1 A.ct],undef,undef,undef,undef,undef,undef,undef,undef,undef,undef,undef,undef,undef,undef,undef,undef,undef,undef,undef,undef,undef,undef],defers:=[] }))
  (fun x a' s A' B' row hs hg hr=>by
   obtain ⟨Bx,h1,h2,h3⟩:=hs
   exact ⟨Bx,h1,h2.grown hg (fun r e2=>(hr r e2).2),h3⟩) ?assign ?body ?done ?stop
 case assign =>
  intro l pre x W K' hi hK'
  obtain rfl:x=0:=Subsingleton.elim _ _
  have HI:Hid ((((Row1 W g4 89 [.pointer (some ⟨A.q,0,none⟩)] ∧ Row1 W g7 45 [.slice none 0 0,.slice a2 1 c2])∧(pre=[] → Row1 W g10 49 [.int .u32 0])∧(pre≠[] → Row1 W g10 49 [.int .u32 1]))∧W5.heap.size≤W.heap.size)∧Below w.heap.size w W):=hi
  have HK':Hid (∀ a' W',KeepsFrom W5.heap.size W W'→Kp K W W'→((((Row1 W' g4 89 [.pointer (some ⟨A.q,0,none⟩)] ∧ Row1 W' g7 45 [.slice none 0 0,.slice a2 1 c2])∧(pre=[] → Row1 W' g10 49 [.int .u32 0])∧(pre≠[] → Row1 W' g10 49 [.int .u32 1]))∧W5.heap.size≤W'.heap.size)∧Below w.heap.size w W')→(∃ Bx,W5.heap.size≤Bx∧Row1 W' Bx 36 [.int .i64 0,.int .i64 0,.slice (some ⟨A.gt,0,none⟩) 1 A.ct] ∧ a'={ tmps:=#[.pointer (some ⟨A.gb,0,none⟩),.pointer (some ⟨A.q,0,none⟩),.agg #[.int .i64 5,.slice (some ⟨g,0,none⟩) 3 c],undef,.pointer (some ⟨g4,0,none⟩),.pointer (some ⟨g5,0,none⟩),.int .u32 0,.pointer (some ⟨g7,0,none⟩),.int .i64 3,.int .i64 0,.pointer (some ⟨g10,0,none⟩),.int .i64 1,.pointer (some ⟨Bx,0,none⟩),undef,undef,.tuple #[.agg #[.slice none 0 0,.slice a2 1 c2],.int .i64 3,.int .i64 0],.pointer (some ⟨g5,1,none⟩),.slice (some ⟨g,0,none⟩) 3 c,.tuple #[.agg #[.slice none 0 0,.slice a2 1 c2],.int .i64 3,.int .i64 0],.agg #[.slice none 0 0,.slice a2 1 c2],.int .i64 3,.int .i64 0,.int .i64 0,.bool false,.pointer (some ⟨A.gb,0,none⟩),.pointer (some ⟨A.q,0,none⟩),.pointer (some ⟨A.q,0,none⟩),.pointer (some ⟨A.q,0,none⟩),.int .i64 0,.func (.func 136) #[] #[.pointer (some ⟨W4.heap.size+1,0,none⟩),.pointer (some ⟨W4.heap.size+2,0,none⟩)],.int .i64 1,.agg #[.int .i64 0,.int .i64 0,.slice (some ⟨A.gt,0,none⟩) 1 A.ct],undef,undef,undef,undef,undef,undef,undef,undef,undef,undef,undef,undef,undef,undef,undef,undef,undef,undef,undef,undef,undef,undef],defers:=[] })→K' a' W'):=hK'
  clear hi hK'
  unfold encS
  gi_wp2
  have hbz:=below_alloc W (.cells #[.int .i64 0,.int .i64 0,.slice (some ⟨A.gt,0,none⟩) 1 A.ct] 36)
  refine HK'.out _ _ ((KeepsOthers.alloc _ _).from _) (Kp.of_below (fun k hk=>Nat.lt_of_lt_of_le (HKL.out k hk) HI.out.1.2) hbz) ?_ ⟨W.heap.size,HI.out.1.2,Row1.of (Blk.new _ _ _),?_⟩
  ·obtain ⟨⟨⟨h1,h2,h3⟩,h4⟩,h5⟩:=HI.out
   exact ⟨⟨⟨⟨h1.1.stay hbz,h1.2.stay hbz⟩,fun e=>(h2 e).stay hbz,fun e=>(h3 e).stay hbz⟩,Nat.le_trans h4 hbz.size⟩,h5.trans (hbz.mono h5.size)⟩
  ·simp
 case body =>
  rintro l pre x a' W hl ⟨r,hr⟩ ⟨⟨⟨⟨hr1,hr2⟩,hi0,_⟩,hsw⟩,hb⟩ ⟨Bx,hBx,hX,rfl⟩ hp
  obtain rfl:pre=[]:=List.eq_nil_of_length_eq_zero (by omega)
  obtain rfl:x=0:=Subsingleton.elim _ _
  have HSW:Hid (W5.heap.size≤W.heap.size):=hsw
  have HR:Hid ((Row1 W g4 89 [.pointer (some ⟨A.q,0,none⟩)] ∧ Row1 W g7 45 [.slice none 0 0,.slice a2 1 c2])∧Row1 W g10 49 [.int .u32 0]):=⟨⟨hr1,hr2⟩,hi0 rfl⟩
  have HBW:Hid (Below w.heap.size w W):=hb
  have HCW:Hid (Core B A W age con cur hand):=HC.out.stay hb
  have hmx:Tryz.prog.follows .mixedOrders=true:=by kernel_rfl
  have k1:W.cell? ⟨Bx,2,none⟩=some (.slice (some ⟨A.gt,0,none⟩) 1 A.ct):=hX.cell 2 rfl
  have k2:W.cell? ⟨g7,0,none⟩=some (.slice none 0 0):=hr2.cell 0 rfl
  have k3:W.cell? ⟨g7,1,none⟩=some (.slice a2 1 c2):=hr2.cell 1 rfl
  have HEV:=be_Eval A.gt A.ct a2 1 c2 (by decide) W HCW.out.tpo.terms
  clear hr1 hr2 hb hp hi0 hsw hr hX
  gi_wp2_with fail
  refine ⟨trivial,?_⟩
  refine (CallsIn.inRound l (callsIn_wide.2 HEV)).mono ?_
  rintro e w6 ⟨rfl,hb6⟩
  have HX6:Hid (Below W.heap.size W w6):=hb6
  have HC6:Hid (Core B A w6 age con cur hand):=HCW.out.stay hb6
  clear hb6 HEV k1 k2 k3
  have k1:w6.cell? ⟨g4,0,none⟩=some (.pointer (some ⟨A.q,0,none⟩)):=(HR.out.1.1.stay HX6.out).cell 0 rfl
  have k2:w6.cell? ⟨A.q,7,none⟩=some (.map (some A.mm)):=HC6.out.part.cell 7 rfl
  have hlk:=look_mem HC6.out.mem (t:=1) (by omega)
  rw [show (getX [(1,Value.agg #[.pointer (some ⟨A.gcm,0,none⟩),.int .i64 1])] (1:Int)).getD (.agg #[.pointer none,.int .i64 0])=.agg #[.pointer (some ⟨A.gcm,0,none⟩),.int .i64 1] from rfl] at hlk
  have HIS:=br_misOn3 w6 B A.g A.gsd wv D A.gcm ((HD.out.stay HBW.out).stay HX6.out) HC6.out.mcells HV.out
  gi_wp2_with fail
  refine ⟨trivial,?_⟩
  refine (CallsIn.inRound l (callsIn_wide.2 HIS)).mono ?_
  rintro e w7 ⟨rfl,hb7⟩
  have HX7:Hid (Below W.heap.size W w7):=HX6.out.trans (hb7.mono HX6.out.size)
  clear hb7 HIS k1 k2 hlk
  have HY7:Hid (Row1 w7 g10 49 [.int .u32 0]):=HR.out.2.stay HX7.out
  have c0:w7.cell? ⟨g10,0,none⟩=some (.int .u32 0):=HY7.out.cell 0 rfl
  have f0:w7.frozen? ⟨g10,0,none⟩=false:=HY7.out.free _
  have HNE:Hid (g4≠g10∧g7≠g10∧w.heap.size≤g10):=by
   have h3:=HSZ.out
   exact ⟨by omega,by omega,by omega⟩
  gi_wp2
  gi_region_with_o (refine ⟨trivial,?_⟩;gi_at_call 135;refine (CallsIn.inRound l (callsIn_wide.2 (br_bit1 _))).mono ?_;rintro e w' ⟨rfl,rfl⟩)
  all_goals gi_wp2
  all_goals (try go_bits)
  all_goals
   refine ⟨(((ko_below HX7.out).trans (KeepsOthers.setCell _ _ _)).trans (KeepsOthers.drew _)).from _,?_,⟨⟨⟨((HR.out.1.1.stay HX7.out).other HNE.out.1).stay (Below.refl _ _).drew,((HR.out.1.2.stay HX7.out).other HNE.out.2.1).stay (Below.refl _ _).drew⟩,fun e=>(by cases e),fun _=>(HY7.out.set 0 _).stay (Below.refl _ _).drew⟩,?_⟩,?_⟩
   ·exact ((Kp.of_below (fun k hk=>Nat.lt_of_lt_of_le (HKL.out k hk) HSW.out) HX7.out).trans (Kp.set HK10.out 0 _)).trans (Kp.of_heap rfl)
   ·show W5.heap.size≤(World.setCell _ _ _).heap.size
    rw [World.size_setCell]
    exact Nat.le_trans HSW.out HX7.out.size
   ·exact ((HBW.out.trans (HX7.out.mono HBW.out.size)).setCell (p:=⟨g10,0,none⟩) HNE.out.2.2 _).drew
 case done =>
  rintro DD xs W hD rfl ⟨⟨⟨⟨hr1,hr2⟩,_,hi1⟩,_⟩,hb⟩ hK
  have HI1:=hi1 (by decide)
  have c10:W.cell? ⟨g10,0,none⟩=some (.int .u32 1):=HI1.cell 0 rfl
  have HBW:Hid (Below w.heap.size w W):=hb
  clear hr1 hr2 hb hi1 HI1
  go_wp2
  refine ⟨by simp,.inl ⟨_,_,rfl,run_takeDeferred hK,?_⟩⟩
  exact ⟨_,results_tmp rfl _ _ _,rfl,HBW.out.trans (belowK_b (w:=w) (Nat.le_refl _) W DD _ _ (Nat.le_trans HW5.out hD) hK rfl rfl)⟩
 case stop =>
  rintro D c pre W _ _ h _
  exact h.elim
end
section
open Go.RowKit Go.Shelf Go.Maps
theorem results_news {w:World} {tmps:Array Value} {g:Nat} {v0 v1 v2 v3 v4 v5 v6 v7:Value} (h8:tmps[8]?.getD undef=.pointer (some ⟨g,0,none⟩)) (h:Row1 w g 116 [v0,v1,v2,v3,v4,v5,v6,v7]):(results Tryz.f250 tmps).run Tryz.prog w=.ok (.agg #[v0,v1,v2,v3,v4,v5,v6,v7]) w:=by
 have k0:=h.cell 0 rfl
 have k1:=h.cell 1 rfl
 have k2:=h.cell 2 rfl
 have k3:=h.cell 3 rfl
 have k4:=h.cell 4 rfl
 have k5:=h.cell 5 rfl
 have k6:=h.cell 6 rfl
 have k7:=h.cell 7 rfl
 simp [results,Tryz.results250,go_sem,h8,k0,k1,k2,k3,k4,k5,k6,k7]
theorem br_news1 (gi:Nat) (w:World):Calls Tryz.prog 250 #[.int .i64 0,.int .i64 1,.int .i64 4,.slice (some ⟨gi,0,none⟩) 1 1] w fun e w'=>e=.returned (.agg #[.int .i64 1,.int .i64 0,.int .i64 0,.int .i64 0,.int .i64 1,.int .i64 5,.slice (some ⟨w.heap.size+2,0,none⟩) 1 1,.slice (some ⟨gi,0,none⟩) 1 1])∧Row1 w' (w.heap.size+2) 186 [.int .i64 1,.int .i64 4,.int .i64 2] ∧ Below w.heap.size w w':=by
 obtain ⟨W1,HW1⟩:∃ W,Hid (W=w.alloc (.cells #[.int .i64 0,.int .i64 0,.int .i64 0,.int .i64 0,.int .i64 0,.int .i64 0,.slice none 0 0,.slice none 0 0] 116)):=⟨_,rfl⟩
 have HX1:Hid (Below w.heap.size w W1):=by (show Below _ _ _);rw [HW1.out];exact below_alloc _ _
 have HS1:Hid (W1.heap.size=w.heap.size+1):=by (show _=_);rw [HW1.out];simp
 have HK1:Hid (Row1 W1 w.heap.size 116 [.int .i64 0,.int .i64 0,.int .i64 0,.int .i64 0,.int .i64 0,.int .i64 0,.slice none 0 0,.slice none 0 0]):=by (show Row1 _ _ _ _);rw [HW1.out];exact Row1.of (Blk.new _ _ _)
 obtain ⟨W2,HW2⟩:∃ W,Hid (W=W1.alloc (.cells #[.int .i64 1,.int .i64 0,.int .i64 0,.int .i64 0,.int .i64 1,.int .i64 5,.slice none 0 0,.slice (some ⟨gi,0,none⟩) 1 1] 116)):=⟨_,rfl⟩
 have HX12:Hid (Below W1.heap.size W1 W2):=by (show Below _ _ _);rw [HW2.out];exact below_alloc _ _
 have HS2:Hid (W2.heap.size=w.heap.size+2):=by (show _=_);rw [HW2.out,World.size_alloc,HS1.out]
 have HK2:Hid (Row1 W2 (w.heap.size+1) 116 [.int .i64 1,.int .i64 0,.int .i64 0,.int .i64 0,.int .i64 1,.int .i64 5,.slice none 0 0,.slice (some ⟨gi,0,none⟩) 1 1]):=by (show Row1 _ _ _ _);rw [HW2.out,← HS1.out];exact Row1.of (Blk.new _ _ _)
 obtain ⟨W3,HW3⟩:∃ W,Hid (W=W2.alloc (.cells #[.int .i64 1,.int .i64 4,.int .i64 2] 186)):=⟨_,rfl⟩
 have HX23:Hid (Below W2.heap.size W2 W3):=by (show Below _ _ _);rw [HW3.out];exact below_alloc _ _
 have HK3:Hid (Row1 W3 (w.heap.size+2) 186 [.int .i64 1,.int .i64 4,.int .i64 2]):=by (show Row1 _ _ _ _);rw [HW3.out,← HS2.out];exact Row1.of (Blk.new _ _ _)
 have HP3:Hid (Row1 W3 (w.heap.size+1) 116 [.int .i64 1,.int .i64 0,.int .i64 0,.int .i64 0,.int .i64 1,.int .i64 5,.slice none 0 0,.slice (some ⟨gi,0,none⟩) 1 1]):=HK2.out.stay HX23.out
 obtain ⟨W4,HW4⟩:∃ W,Hid (W=W3.setCell ⟨w.heap.size+1,6,none⟩ (.slice (some ⟨w.heap.size+2,0,none⟩) 1 1)):=⟨_,rfl⟩
 have HP4:Hid (Row1 W4 (w.heap.size+1) 116 [.int .i64 1,.int .i64 0,.int .i64 0,.int .i64 0,.int .i64 1,.int .i64 5,.slice (some ⟨w.heap.size+2,0,none⟩) 1 1,.slice (some ⟨gi,0,none⟩) 1 1]):=by (show Row1 _ _ _ _);rw [HW4.out];exact HP3.out.set 6 _
 have HX3:Hid (Below w.heap.size w W3):=(HX1.out.trans (HX12.out.mono HX1.out.size)).trans (HX23.out.mono (Nat.le_trans HX1.out.size HX12.out.size))
 have HX5:Hid (Below w.heap.size w W4):=by (show Below _ _ _);rw [HW4.out];exact HX3.out.setCell (p:=⟨w.heap.size+1,6,none⟩) (Nat.le_succ _) _
 have HK4:Hid (Row1 W4 (w.heap.size+2) 186 [.int .i64 1,.int .i64 4,.int .i64 2]):=by (show Row1 _ _ _ _);rw [HW4.out];exact HK3.out.other (by omega)
 have HK8:Hid (Row1 W4 w.heap.size 116 [.int .i64 0,.int .i64 0,.int .i64 0,.int .i64 0,.int .i64 0,.int .i64 0,.slice none 0 0,.slice none 0 0]):=by (show Row1 _ _ _ _);rw [HW4.out];exact ((HK1.out.stay HX12.out).stay HX23.out).other (by omega)
 have f6:W3.frozen? ⟨w.heap.size+1,6,none⟩=false:=HP3.out.free 6
 have c6:W3.cell? ⟨w.heap.size+1,6,none⟩=some (.slice none 0 0):=HP3.out.cell 6 rfl
 go_enter Tryz.func250,Tryz.ntmps250
 go_upto_region 2 with fail
 rw [← HW1.out,← HW2.out]
 go_upto_region 4 with (rw [← HW3.out,HS2.out])
 rw [← HW4.out]
 clear c6 f6
 have k0:=HP4.out.cell 0 rfl
 have k1:=HP4.out.cell 1 rfl
 have k2:=HP4.out.cell 2 rfl
 have k3:=HP4.out.cell 3 rfl
 have k4:=HP4.out.cell 4 rfl
 have k5:=HP4.out.cell 5 rfl
 have k6:=HP4.out.cell 6 rfl
 have k7:=HP4.out.cell 7 rfl
 have m0:=HK8.out.cell 0 rfl
 have m1:=HK8.out.cell 1 rfl
 have m2:=HK8.out.cell 2 rfl
 have m3:=HK8.out.cell 3 rfl
 have m4:=HK8.out.cell 4 rfl
 have m5:=HK8.out.cell 5 rfl
 have m6:=HK8.out.cell 6 rfl
 have m7:=HK8.out.cell 7 rfl
 have f0:=HK8.out.free 0
 have f1:=HK8.out.free 1
 have f2:=HK8.out.free 2
 have f3:=HK8.out.free 3
 have f4:=HK8.out.free 4
 have f5:=HK8.out.free 5
 have f6:=HK8.out.free 6
 have f7:=HK8.out.free 7
 go_wp2
 try simp only [Exit.inBlock,Exit.then]
 refine bodyPost_ret (results_news (by rfl) ((((((((HK8.out.set 0 (.int .i64 1)).set 1 (.int .i64 0)).set 2 (.int .i64 0)).set 3 (.int .i64 0)).set 4 (.int .i64 1)).set 5 (.int .i64 5)).set 6 (.slice (some ⟨w.heap.size+2,0,none⟩) 1 1)).set 7 (.slice (some ⟨gi,0,none⟩) 1 1))) rfl ?_
 refine ⟨rfl,?_,((((((((HX5.out.setCell (p:=⟨w.heap.size,0,none⟩) (Nat.le_refl _) _).setCell (p:=⟨w.heap.size,1,none⟩) (Nat.le_refl _) _).setCell (p:=⟨w.heap.size,2,none⟩) (Nat.le_refl _) _).setCell (p:=⟨w.heap.size,3,none⟩) (Nat.le_refl _) _).setCell (p:=⟨w.heap.size,4,none⟩) (Nat.le_refl _) _).setCell (p:=⟨w.heap.size,5,none⟩) (Nat.le_refl _) _).setCell (p:=⟨w.heap.size,6,none⟩) (Nat.le_refl _) _).setCell (p:=⟨w.heap.size,7,none⟩) (Nat.le_refl _) _)⟩
 exact (((((((HK4.out.other (by omega)).other (by omega)).other (by omega)).other (by omega)).other (by omega)).other (by omega)).other (by omega)).other (by omega)
theorem br_news1w (gi:Nat) (w:World):Calls Tryz.prog 250 #[.int .i64 0,.int .i64 1,.int .i64 (IntKind.i64.wrap 4),.slice (some ⟨gi,0,none⟩) 1 1] w fun e w'=>∃ gs,e=.returned (.agg #[.int .i64 1,.int .i64 0,.int .i64 0,.int .i64 0,.int .i64 1,.int .i64 5,.slice (some ⟨gs,0,none⟩) 1 1,.slice (some ⟨gi,0,none⟩) 1 1])∧Row1 w' gs 186 [.int .i64 1,.int .i64 4,.int .i64 2] ∧ Below w.heap.size w w':=by
 rw [show IntKind.i64.wrap 4=4 from by rw [IntKind.wrap_i64];decide]
 exact (br_news1 gi w).mono fun e w' h=>⟨_,h⟩
end
section
open Go.RowKit Go.Shelf Go.Maps
theorem spsRd_one {w:World} {g:Nat} {a b c:Int} (h:Row1 w g 186 [.int .i64 a,.int .i64 b,.int .i64 c]):SpsRd w (some ⟨g,0,none⟩) 1 [⟨a,b,c⟩]:=by
 refine ⟨rfl,.inr ⟨g,0,rfl,h.lt,fun i q hq => ?_⟩⟩
 match i with
 | 0 =>
  simp only [List.getElem?_cons_zero,Option.some.injEq] at hq
  subst hq
  exact ⟨h.cell 0 rfl,h.cell 1 rfl,h.cell 2 rfl⟩
 | i+1=>simp at hq
theorem itsRd_one {w:World} {g:Nat} {t f:Int} {ba:Option Addr} {bl bc:Nat} {bs:List Nat} (h:Row1 w g 51 [.int .i64 t,.int .u32 f,.slice ba bl bc]) (hr:Rd w ba bl bs) (hn:ba=none→bc=0) (hl:bl≤bc) (hm:bc≤9223372036854775807) (ht : -9223372036854775808≤t∧t≤9223372036854775807) (hf:0≤f∧f≤4294967295):ItsRd w (some ⟨g,0,none⟩) 1 [⟨t,f,bs⟩]:=by
 refine ⟨rfl,.inr ⟨g,0,rfl,h.lt,fun i q hq => ?_⟩,fun q hq => ?_⟩
 ·match i with
  | 0 =>
   simp only [List.getElem?_cons_zero,Option.some.injEq] at hq
   subst hq
   exact ⟨h.cell 0 rfl,h.cell 1 rfl,ba,bl,bc,h.cell 2 rfl,hr,hn,hl,hm⟩
  | i+1=>simp at hq
 ·rw [List.mem_singleton.1 hq]
  exact ⟨ht,hf⟩
theorem Imp.lts {Z:Nat→Prop} {w:World} {s m:Nat} {L:List Sp} {X:List It} (h:Imp Z w s m L X):s<w.heap.size∧m<w.heap.size:=by
 obtain ⟨l,⟨a,n,c,Y,h⟩,_⟩:=h
 exact ⟨heap_lt h.stm.blk,owns_lt h.stm.items⟩
theorem rcs_one {w:World} {B B2:Nat} {v:Value} {L:List Rc} (h:Rcs w B v L) (ho:BodO w B2 L) (hL:L.map plR=[(5,[0,1,7])]):∃ gr cr g3 c3,v=.slice (some ⟨gr,0,none⟩) 1 cr∧Row1 w gr 178 [.int .i64 5,.slice (some ⟨g3,0,none⟩) 3 c3] ∧ Rd w (some ⟨g3,0,none⟩) 3 [0,1,7] ∧ 3≤c3∧c3≤9223372036854775807:=by
 match L,hL with
 | [r],hL =>
  obtain ⟨tk,a,n,c,bs⟩:=r
  simp only [List.map_cons,List.map_nil,plR,List.cons.injEq,Prod.mk.injEq,and_true] at hL
  obtain ⟨rfl,rfl⟩:=hL
  obtain ⟨gr,cr,hv,_,_,hR⟩:=Row1.of_own (n:=1) (by decide) rfl h.row
  have hO:=ho.1 ⟨5,a,n,c,[0,1,7]⟩ (List.mem_singleton.2 rfl)
  have hn:3=n:=hO.rd.size
  subst hn
  obtain ⟨g3,c3,hv3,hc3,_,_⟩:=Row1.of_own (n:=3) (by decide) rfl hO.row
  simp only [Value.slice.injEq] at hv3
  obtain ⟨rfl,_,rfl⟩:=hv3
  have hcl:=hO.cap_le
  unfold maxLen at hcl
  exact ⟨gr,cr,g3,c,hv,hR,hO.rd,hc3,by have h2:c≤_:=hcl.2;omega⟩
 | [],hL=>simp at hL
 | x :: y :: r,hL=>simp at hL
theorem br_known1 (B:Nat) (A:Ad) (w:World) (age:Nat) (D:Dk) (con:Bool) (cur hand:Int) (hc:Core B A w age con cur hand) (wv uv rv:Value) (U:List Sg) (L:List Rc) (hl:Lg w B A.g A.gsd wv D A.gl A.gcl 64 4 age U uv 5 0 L rv) (hL:L.map plR=[(5,[0,1,7])]) (h3:(getB D 32 16 0).1=3):Calls Tryz.prog 192 #[.pointer (some ⟨A.gb,0,none⟩),.pointer (some ⟨A.q,0,none⟩),.int .i64 1,.int .i64 5] w fun e w'=>(∃ s' m',e=.returned (.pointer (some ⟨s',0,none⟩))∧Imp (fun k=>w.heap.size≤k) w' s' m' l5 [q5])∧Below w.heap.size w w':=by
 have HC:Hid (Core B A w age con cur hand):=hc
 have HL:Hid (Lg w B A.g A.gsd wv D A.gl A.gcl 64 4 age U uv 5 0 L rv):=hl
 have HV:Hid ((getB D 32 16 0).1=3∧L.map plR=[(5,[0,1,7])] ∧ L.length≤100000):=⟨h3,hL,by
  have:(L.map plR).length=1:=by rw [hL];rfl
  rw [List.length_map] at this
  omega⟩
 have HIH:=br_isHome A.q A.s A.mr A.gl 1 (.map (some A.mm)) w hc.part
 have HNW:=st_New (Z:=fun k=>w.heap.size≤k) w (fun k hk=>hk)
 clear hc hl h3 hL
 go_enter Tryz.func192,Tryz.ntmps192
 go_wp2_with fail
 refine HIH.mono ?_
 rintro e w0 ⟨rfl,hw⟩
 rw [hw]
 clear hw w0 HIH
 go_wp2_with fail
 refine HNW.mono ?_
 rintro e w1 ⟨s1,m1,rfl,hs1,hlo,hb1⟩
 have HB1:Hid (Below w.heap.size w w1):=hb1
 have HI1:Hid (Imp (fun k=>w.heap.size≤k) w1 s1 m1 [] []):=Imp.of_new hs1
 have HSM:Hid (w.heap.size≤s1∧w.heap.size≤m1):=hlo
 clear hs1 hlo hb1 HNW
 have c6:w1.cell? ⟨A.q,6,none⟩=some (.pointer (some ⟨A.gl,0,none⟩)):=(HC.out.stay HB1.out).part.cell 6 rfl
 have HRL:Calls Tryz.prog 53 #[.pointer (some ⟨A.gl,0,none⟩)] w1 fun e w'=>e=.returned (.int .i64 0)∧w'=w1:=evl_Rel w1 A.gl A.g A.gcl 64 4 age 5 0 uv rv (HL.out.below HB1.out).log
 have HLS:=st_Lose HI1.out Kn.nil_ (by decide) (t:=0) (by omega) lost0
 go_wp2_with fail
 refine HRL.mono ?_
 rintro e w0 ⟨rfl,hw⟩
 rw [hw]
 clear hw w0 HRL
 go_wp2_with fail
 refine HLS.mono ?_
 rintro e w2 ⟨rfl,hi2,ht2⟩
 have HI2:Hid (Imp (fun k=>w.heap.size≤k) w2 s1 m1 [] []):=hi2
 have HB2:Hid (Below w.heap.size w w2):=Two.below HB1.out ht2 HSM.out.1 HSM.out.2 HB1.out.size
 clear hi2 ht2 HLS c6
 have c6:w2.cell? ⟨A.q,6,none⟩=some (.pointer (some ⟨A.gl,0,none⟩)):=(HC.out.stay HB2.out).part.cell 6 rfl
 have HRL:Calls Tryz.prog 53 #[.pointer (some ⟨A.gl,0,none⟩)] w2 fun e w'=>e=.returned (.int .i64 0)∧w'=w2:=evl_Rel w2 A.gl A.g A.gcl 64 4 age 5 0 uv rv (HL.out.below HB2.out).log
 have HRC:Calls Tryz.prog 35 #[.pointer (some ⟨A.q,0,none⟩)] w2 fun e w'=>e=.returned (.int .i64 5)∧Below w2.heap.size w2 w':=br_reached A.q A.s A.mr A.gl 1 (.map (some A.mm)) A.g A.gcl 64 4 age 5 0 uv rv w2 (HC.out.stay HB2.out).part (HL.out.below HB2.out).log
 go_wp2_with fail
 refine HRL.mono ?_
 rintro e w0 ⟨rfl,hw⟩
 rw [hw]
 clear hw w0 HRL
 go_wp2_with fail
 refine HRC.mono ?_
 rintro e w3 ⟨rfl,hb3⟩
 have HI3:Hid (Imp (fun k=>w.heap.size≤k) w3 s1 m1 [] []):=HI2.out.stay hb3
 have HB3:Hid (Below w.heap.size w w3):=HB2.out.trans (hb3.mono HB2.out.size)
 clear c6 hb3 HRC
 have c6:w3.cell? ⟨A.q,6,none⟩=some (.pointer (some ⟨A.gl,0,none⟩)):=(HC.out.stay HB3.out).part.cell 6 rfl
 have HEV:=evl_EventsO w3 B A.gl A.g A.gcl 64 4 age 5 0 uv rv L 1 5 (HL.out.below HB3.out).log (HL.out.below HB3.out).recs HV.out.2.2
 go_wp2_with fail
 refine HEV.mono ?_
 rintro e w4 ⟨ht4,hb4⟩
 obtain ⟨v4,L4,rfl,hL4,hR4,hO4⟩:=ht4.out
 rw [HV.out.2.1] at hL4
 obtain ⟨gr,cr,g3,c3,rfl,hrow,hrd,hc3,hm3⟩:=rcs_one hR4 hO4 hL4
 have HI4:Hid (Imp (fun k=>w.heap.size≤k) w4 s1 m1 [] []):=HI3.out.stay hb4
 have HB4:Hid (Below w.heap.size w w4):=HB3.out.trans (hb4.mono HB3.out.size)
 have HRD4:Hid (Rd w4 (some ⟨g3,0,none⟩) 3 [0,1,7] ∧ 3≤c3∧c3≤9223372036854775807):=⟨hrd,hc3,hm3⟩
 have k0:w4.cell? ⟨gr,0,none⟩=some (.int .i64 5):=hrow.cell 0 rfl
 have k1:w4.cell? ⟨gr,1,none⟩=some (.slice (some ⟨g3,0,none⟩) 3 c3):=hrow.cell 1 rfl
 clear ht4 hb4 hL4 hR4 hO4 HEV c6 hrow hrd hc3 hm3
 obtain ⟨W5,HW5⟩:∃ W,Hid (W=w4.alloc (.cells #[.int .i64 5,.slice (some ⟨g3,0,none⟩) 3 c3] 178)):=⟨_,rfl⟩
 have HX45:Hid (Below w4.heap.size w4 W5):=by (show Below _ _ _);rw [HW5.out];exact below_alloc _ _
 have HB5:Hid (Below w.heap.size w W5):=HB4.out.trans (HX45.out.mono HB4.out.size)
 have HK5:Hid (Row1 W5 w4.heap.size 178 [.int .i64 5,.slice (some ⟨g3,0,none⟩) 3 c3]):=by (show Row1 _ _ _ _);rw [HW5.out];exact Row1.of (Blk.new _ _ _)
 have HSK:Hid (∀ w':World,Below W5.heap.size W5 w'→w'.cell? ⟨A.q,0,none⟩=some (.int .i64 0)∧w'.cell? ⟨w4.heap.size,0,none⟩=some (.int .i64 5)∧w'.cell? ⟨w4.heap.size,1,none⟩=some (.slice (some ⟨g3,0,none⟩) 3 c3)):=fun w' hb=>⟨((HC.out.stay HB5.out).stay hb).part.cell 0 rfl,(HK5.out.stay hb).cell 0 rfl,(HK5.out.stay hb).cell 1 rfl⟩
 have HLT:Hid (s1<w4.heap.size∧m1<w4.heap.size):=Imp.lts HI4.out
 have HXD:Hid (Below W5.heap.size W5 W5.drew):=(Below.refl _ _).drew
 have HXW:Hid (Below w.heap.size w W5.drew):=HB5.out.trans (HXD.out.mono HB5.out.size)
 have HRDD:Hid (Rd W5.drew (some ⟨g3,0,none⟩) 3 [0,1,7]):=(HRD4.out.1.below HX45.out).below HXD.out
 have HWH:=br_whose1 B A W5.drew age D con cur hand (HC.out.stay HXW.out) wv (HL.out.disk.stay HXW.out) HV.out.1 g3 c3 HRDD.out HRD4.out.2.1
 have fz0:=HSK.out W5 (Below.refl _ _)
 have fz1:=HSK.out W5.drew HXD.out
 go_wp2_with fail
 refine wp_loop_rounds 2 ?_
 rw [rounds_succ]
 go_upto_region 10 with fail
 rw [← HW5.out]
 clear k0 k1
 go_region_held3 (fun w'=>w'.cell? ⟨A.q,0,none⟩=some (.int .i64 0)∧w'.cell? ⟨w4.heap.size,0,none⟩=some (.int .i64 5)∧w'.cell? ⟨w4.heap.size,1,none⟩=some (.slice (some ⟨g3,0,none⟩) 3 c3)) (first | with_reducible exact fz0 | with_reducible exact fz1 | with_reducible exact fz2 | with_reducible exact fz3 | with_reducible exact fz4 | with_reducible exact fz5)
  (first
   | (go_at_call 251;(with_reducible refine HWH.mono ?_);rintro e w6 ⟨rfl,hb6⟩;have HX6:Hid (Below W5.heap.size W5 w6):=HXD.out.trans (hb6.mono HXD.out.size);have fz2:=HSK.out w6 HX6.out;have hba:=below_alloc w6 (.cells #[.int .i64 5,.int .u32 1,.slice (some ⟨g3,0,none⟩) 3 c3] 51);have HX7:Hid (Below W5.heap.size W5 (w6.alloc (.cells #[.int .i64 5,.int .u32 1,.slice (some ⟨g3,0,none⟩) 3 c3] 51))):=HX6.out.trans (hba.mono HX6.out.size);have fz3:=HSK.out _ HX7.out;have HK7:Hid (Row1 (w6.alloc (.cells #[.int .i64 5,.int .u32 1,.slice (some ⟨g3,0,none⟩) 3 c3] 51)) w6.heap.size 51 [.int .i64 5,.int .u32 1,.slice (some ⟨g3,0,none⟩) 3 c3]):=Row1.of (Blk.new _ _ _);clear hb6 hba)
   | (go_at_call 250;(have hc:=br_news1w w6.heap.size (w6.alloc (.cells #[.int .i64 5,.int .u32 1,.slice (some ⟨g3,0,none⟩) 3 c3] 51)));(with_reducible refine hc.mono ?_);clear hc;rintro e w8 ⟨gs,rfl,hr8,hb8⟩;have HX8:Hid (Below W5.heap.size W5 w8):=HX7.out.trans (hb8.mono HX7.out.size);have fz4:=HSK.out w8 HX8.out;have HS8:Hid (Row1 w8 gs 186 [.int .i64 1,.int .i64 4,.int .i64 2]):=hr8;have HK8:Hid (Row1 w8 w6.heap.size 51 [.int .i64 5,.int .u32 1,.slice (some ⟨g3,0,none⟩) 3 c3]):=HK7.out.stay hb8;have HX48:Hid (Below w4.heap.size w4 w8):=HX45.out.trans (HX8.out.mono HX45.out.size);clear hr8 hb8)
   | (go_at_call 147;(have hc:Calls Tryz.prog 147 #[.pointer (some ⟨s1,0,none⟩),.agg #[.int .i64 1,.int .i64 0,.int .i64 0,.int .i64 0,.int .i64 1,.int .i64 5,.slice (some ⟨gs,0,none⟩) 1 1,.slice (some ⟨w6.heap.size,0,none⟩) 1 1]] w8 fun e w'=>LearnTo (fun k=>w.heap.size≤k) s1 m1 [] l5 [] p5 w8 e w':=st_LearnG (HI4.out.stay HX48.out) Kn.nil_ (by decide) p5_ok joins5 ⟨spsRd_one HS8.out,itsRd_one HK8.out (HRD4.out.1.below HX48.out) (fun e=>by cases e) HRD4.out.2.1 HRD4.out.2.2 (by decide) (by decide),Nat.le_refl 1,by decide,Nat.le_refl 1,by decide⟩);(with_reducible refine hc.mono ?_);clear hc;rintro e w9 ⟨⟨rb,rfl,_⟩,hi9,ht9⟩;have HI9:Hid (Imp (fun k=>w.heap.size≤k) w9 s1 m1 l5 [q5]):=(by rw [learn5] at hi9;exact hi9);have HB9:Hid (Below w.heap.size w w9):=Two.below (HB5.out.trans (HX8.out.mono HB5.out.size)) ht9 HSM.out.1 HSM.out.2 (Nat.le_trans HB5.out.size HX8.out.size);have hK9:=(HK5.out.stay HX8.out).two ht9 (by have:=HLT.out;omega) (by have:=HLT.out;omega);have fz5:w9.cell? ⟨A.q,0,none⟩=some (.int .i64 0)∧w9.cell? ⟨w4.heap.size,0,none⟩=some (.int .i64 5)∧w9.cell? ⟨w4.heap.size,1,none⟩=some (.slice (some ⟨g3,0,none⟩) 3 c3):=⟨(HC.out.stay HB9.out).part.cell 0 rfl,hK9.cell 0 rfl,hK9.cell 1 rfl⟩;clear hi9 ht9 hK9))
 obtain ⟨_,d0,_⟩:=fz5
 go_wp2_with fail
 rw [rounds_succ]
 go_wp2
 go_returns
 exact ⟨⟨s1,m1,rfl,HI9.out⟩,HB9.out⟩
end
section
open Go.RowKit Go.Shelf Go.Maps
theorem tells_one {Z:Nat→Prop} {w:World} {b:Nat} {v:Value} {l:List Pa} (h:Tells Z w b v l) (hz:∀ k,b≤k→Z k) (he:l.map Pa.p=[p5]):∃ gr cr sa sn sc ia im ic,v=.slice (some ⟨gr,0,none⟩) 1 cr∧Row1 w gr 116 [.int .i64 1,.int .i64 0,.int .i64 0,.int .i64 0,.int .i64 1,.int .i64 5,.slice sa sn sc,.slice ia im ic] ∧ PcRd w p5 sa sn sc ia im ic:=by
 match l,he with
 | [x],he =>
  obtain ⟨p,sa,sn,sc,ia,im,ic⟩:=x
  simp only [List.map_cons,List.map_nil,List.cons.injEq,and_true] at he
  subst he
  obtain ⟨gr,cr,hv,_,_,hR⟩:=Row1.of_own (n:=1) (by decide) rfl h.row
  exact ⟨gr,cr,sa,sn,sc,ia,im,ic,hv,hR,(h.each _ (List.mem_singleton.2 rfl)).rd hz⟩
 | [],he=>simp at he
 | x :: y :: r,he=>simp at he
theorem br_tells1 (B:Nat) (A:Ad) (w:World) (age:Nat) (D:Dk) (con:Bool) (cur hand:Int) (hc:Core B A w age con cur hand) (wv uv rv:Value) (U:List Sg) (L:List Rc) (hl:Lg w B A.g A.gsd wv D A.gl A.gcl 64 4 age U uv 5 0 L rv) (hL:L.map plR=[(5,[0,1,7])]) (h3:(getB D 32 16 0).1=3):Calls Tryz.prog 146 #[.pointer (some ⟨A.gb,0,none⟩),.pointer (some ⟨A.q,0,none⟩),.int .i64 1,.int .i64 5,.int .u32 1] w fun e w'=>(∃ gr cr sa sn sc ia im ic,e=.returned (.slice (some ⟨gr,0,none⟩) 1 cr)∧Row1 w' gr 116 [.int .i64 1,.int .i64 0,.int .i64 0,.int .i64 0,.int .i64 1,.int .i64 5,.slice sa sn sc,.slice ia im ic] ∧ PcRd w' p5 sa sn sc ia im ic)∧Below w.heap.size w w':=by
 have HC:Hid (Core B A w age con cur hand):=hc
 have HBD:Hid (Below w.heap.size w w.drew):=(Below.refl _ _).drew
 have HKN:=br_known1 B A w.drew age D con cur hand (hc.stay HBD.out) wv uv rv U L (hl.below HBD.out) hL h3
 have s0:w.cell? ⟨A.q,0,none⟩=some (.int .i64 0):=hc.part.cell 0 rfl
 clear hc hl hL h3
 go_enter Tryz.func146,Tryz.ntmps146
 go_wp2_with fail
 go_region_held3 (fun w'=>w'.cell? ⟨A.q,0,none⟩=some (.int .i64 0)) (first | with_reducible exact s0 | exact s0 | with_reducible exact s1 | with_reducible exact s2)
  (first
   | (go_at_call 192;(with_reducible refine HKN.mono ?_);rintro e w1 ⟨⟨sx,mx,rfl,hi1⟩,hb1⟩;have HB1:Hid (Below w.heap.size w w1):=HBD.out.trans (hb1.mono HBD.out.size);have HI1:Hid (Imp (fun k=>w.heap.size≤k) w1 sx mx l5 [q5]):=hi1;have s1:w1.cell? ⟨A.q,0,none⟩=some (.int .i64 0):=(HC.out.stay HB1.out).part.cell 0 rfl;clear hi1 hb1)
   | (go_at_call 193;(have hc:=st_Tell HI1.out (pub:=0) (f:=1) (t:=5) (lk:=1) (by unfold mayT;omega));(with_reducible refine hc.mono ?_);clear hc;rintro e w2 ⟨⟨va,vn,vc,lt,P,rfl,ht2,hp2,hm2⟩,hb2⟩;have HB2:Hid (Below w.heap.size w w2):=HB1.out.trans (hb2.mono HB1.out.size);have HT2:Hid (Tells (fun k=>w1.heap.size≤k) w2 w1.heap.size (.slice va vn vc) lt∧lt.map Pa.p=[p5]):=⟨ht2,by rw [hm2,hp2.uniq pieces5,tells5]⟩;have s2:w2.cell? ⟨A.q,0,none⟩=some (.int .i64 0):=(HC.out.stay HB2.out).part.cell 0 rfl;clear ht2 hp2 hm2 hb2))
 go_wp2
 go_returns
 obtain ⟨gr,cr,sa,sn,sc,ia,im,ic,hv,h1,h2⟩:=tells_one HT2.out.1 (fun k hk=>hk) HT2.out.2
 rw [hv]
 exact ⟨⟨gr,cr,sa,sn,sc,ia,im,ic,rfl,h1,h2⟩,HB2.out⟩
def stT:List TypeId:=[184]
theorem stT_br {t:TypeId} (h:t∈stT):t∈brT:=by
 rw [List.mem_singleton.1 h]
 decide
theorem Og.mono {l l2:List TypeId} {w w':World} (h:Og l w w') (hs:∀ t∈l,t∈l2):Og l2 w w':=⟨h.size,fun k cs t fr h0 a=>h.block k cs t fr h0 (fun b=>a (hs t b))⟩
theorem Fm.of_st {Z:Nat→Prop} {w w':World} {s m:Nat} (h:Stm Z w s m none 0 0 [] []) (ht:Two s m w w'):Fm stT m w w':=by
 refine ⟨ht.size,fun k cs t fr h0 a => ?_,fun k o h0 h1 hp => ?_⟩
 ·have hs:k≠s:=by
   rintro rfl
   have h2:=h0.symm.trans h.blk
   simp only [Option.some.injEq,Obj.cells.injEq] at h2
   exact a (by rw [h2.2.1];exact List.mem_singleton.2 rfl)
  have hm:k≠m:=by
   rintro rfl
   obtain ⟨es,clock,hb,_⟩:=h.items
   have h2:=h0.symm.trans hb
   cases h2
  rw [ht.block k (heap_lt h0) hs hm]
  exact h0
 ·have hs:k≠s:=by
   rintro rfl
   exact h1 _ _ _ (Option.some.inj (h0.symm.trans h.blk))
  rw [ht.block k (heap_lt h0) hs hp]
  exact h0
theorem Core.fm {B:Nat} {A:Ad} {w w':World} {age:Nat} {con:Bool} {cur hand:Int} (h:Core B A w age con cur hand) (hf:Fm stT A.m w w'):Core B A w' age con cur hand :=
 ⟨h.bro.og hf.og (by decide),h.tpo.og hf.og (by decide) (by decide) (by decide),owns_fm h.seats hf h.ne.2.2,h.seat.og hf.og (by decide),h.cells.og hf.og (by decide),owns_fm h.parts hf h.ne.2.1,h.part.og hf.og (by decide),owns_fm h.mem hf h.ne.1,h.mcells.og hf.og (by decide),h.low,h.ne,Nat.le_trans h.bw hf.size⟩
theorem Imp.new_at {Z:Nat→Prop} {w:World} {s m:Nat} (h:Stm Z w s m none 0 0 [] []) (b:Nat) (hb:b≤w.heap.size):Imp (fun k=>b≤k) w s m [] [] :=
 Imp.of_new ⟨h.blk,h.ok,h.items,h.rise,fun ad e=>(by cases e),fun k hk=>Nat.le_trans hb hk⟩
theorem br_learnOwn1 (B:Nat) (A:Ad) (w:World) (age:Nat) (D:Dk) (con:Bool) (cur hand:Int) (hc:Core B A w age con cur hand) (wv uv rv:Value) (U:List Sg) (L:List Rc) (hl:Lg w B A.g A.gsd wv D A.gl A.gcl 64 4 age U uv 5 0 L rv) (hL:L.map plR=[(5,[0,1,7])]) (h3:(getB D 32 16 0).1=3) (hs:Stm (fun k=>B≤k) w A.s A.m none 0 0 [] []):Calls Tryz.prog 99 #[.pointer (some ⟨A.gb,0,none⟩),.pointer (some ⟨A.q,0,none⟩),.int .i64 1,.int .i64 5] w fun e w'=>e=.returned (.tuple #[])∧Imp (fun k=>w.heap.size≤k) w' A.s A.m l5 [q5] ∧ Two A.s A.m w w':=by
 have HC:Hid (Core B A w age con cur hand):=hc
 have HS:Hid (Stm (fun k=>B≤k) w A.s A.m none 0 0 [] []):=hs
 have HTL:=br_tells1 B A w age D con cur hand hc wv uv rv U L hl hL h3
 have c5:w.cell? ⟨A.q,5,none⟩=some (.int .u32 1):=hc.part.cell 5 rfl
 clear hc hl hL h3 hs
 go_enter Tryz.func99,Tryz.ntmps99
 go_wp2_with fail
 refine HTL.mono ?_
 rintro e w1 ⟨⟨gr,cr,sa,sn,sc,ia,im,ic,rfl,hrow,hpc⟩,hb1⟩
 have HB1:Hid (Below w.heap.size w w1):=hb1
 have HPC:Hid (PcRd w1 p5 sa sn sc ia im ic):=hpc
 have k0:w1.cell? ⟨gr,0,none⟩=some (.int .i64 1):=hrow.cell 0 rfl
 have k1:w1.cell? ⟨gr,1,none⟩=some (.int .i64 0):=hrow.cell 1 rfl
 have k2:w1.cell? ⟨gr,2,none⟩=some (.int .i64 0):=hrow.cell 2 rfl
 have k3:w1.cell? ⟨gr,3,none⟩=some (.int .i64 0):=hrow.cell 3 rfl
 have k4:w1.cell? ⟨gr,4,none⟩=some (.int .i64 1):=hrow.cell 4 rfl
 have k5:w1.cell? ⟨gr,5,none⟩=some (.int .i64 5):=hrow.cell 5 rfl
 have k6:w1.cell? ⟨gr,6,none⟩=some (.slice sa sn sc):=hrow.cell 6 rfl
 have k7:w1.cell? ⟨gr,7,none⟩=some (.slice ia im ic):=hrow.cell 7 rfl
 clear hb1 HTL c5 hrow hpc
 obtain ⟨W2,HW2⟩:∃ W,Hid (W=w1.alloc (.cells #[.int .i64 1,.int .i64 0,.int .i64 0,.int .i64 0,.int .i64 1,.int .i64 5,.slice sa sn sc,.slice ia im ic] 116)):=⟨_,rfl⟩
 have HX12:Hid (Below w1.heap.size w1 W2):=by (show Below _ _ _);rw [HW2.out];exact below_alloc _ _
 have HB2:Hid (Below w.heap.size w W2):=HB1.out.trans (HX12.out.mono HB1.out.size)
 have HK2:Hid (Row1 W2 w1.heap.size 116 [.int .i64 1,.int .i64 0,.int .i64 0,.int .i64 0,.int .i64 1,.int .i64 5,.slice sa sn sc,.slice ia im ic]):=by (show Row1 _ _ _ _);rw [HW2.out];exact Row1.of (Blk.new _ _ _)
 have HSK:Hid (∀ w':World,Row1 w' w1.heap.size 116 [.int .i64 1,.int .i64 0,.int .i64 0,.int .i64 0,.int .i64 1,.int .i64 5,.slice sa sn sc,.slice ia im ic] → Row1 w' A.q 100 (parC A.s A.mr 1 (.pointer (some ⟨A.gl,0,none⟩)) (.map (some A.mm)))→w'.cell? ⟨A.q,1,none⟩=some (.pointer (some ⟨A.s,0,none⟩))∧w'.cell? ⟨w1.heap.size,0,none⟩=some (.int .i64 1)∧w'.cell? ⟨w1.heap.size,1,none⟩=some (.int .i64 0)∧w'.cell? ⟨w1.heap.size,2,none⟩=some (.int .i64 0)∧w'.cell? ⟨w1.heap.size,3,none⟩=some (.int .i64 0)∧w'.cell? ⟨w1.heap.size,4,none⟩=some (.int .i64 1)∧w'.cell? ⟨w1.heap.size,5,none⟩=some (.int .i64 5)∧w'.cell? ⟨w1.heap.size,6,none⟩=some (.slice sa sn sc)∧w'.cell? ⟨w1.heap.size,7,none⟩=some (.slice ia im ic)):=fun w' h1 h2=>⟨h2.cell 1 rfl,h1.cell 0 rfl,h1.cell 1 rfl,h1.cell 2 rfl,h1.cell 3 rfl,h1.cell 4 rfl,h1.cell 5 rfl,h1.cell 6 rfl,h1.cell 7 rfl⟩
 have HXD:Hid (Below W2.heap.size W2 W2.drew):=(Below.refl _ _).drew
 have HLE:Calls Tryz.prog 147 #[.pointer (some ⟨A.s,0,none⟩),.agg #[.int .i64 1,.int .i64 0,.int .i64 0,.int .i64 0,.int .i64 1,.int .i64 5,.slice sa sn sc,.slice ia im ic]] W2.drew fun e w'=>LearnTo (fun k=>w.heap.size≤k) A.s A.m [] l5 [] p5 W2.drew e w':=st_LearnG ((Imp.new_at HS.out w.heap.size (Nat.le_refl _)).stay (HB2.out.trans (HXD.out.mono HB2.out.size))) Kn.nil_ (by decide) p5_ok joins5 ((HPC.out.below HX12.out).below HXD.out)
 have s0:=HSK.out W2 HK2.out (HC.out.stay HB2.out).part
 have s1:=HSK.out W2.drew (HK2.out.stay HXD.out) ((HC.out.stay HB2.out).stay HXD.out).part
 have HLT:Hid (A.s<w.heap.size∧A.m<w.heap.size∧w.heap.size≤w1.heap.size):=⟨heap_lt HS.out.blk,owns_lt HS.out.items,HB1.out.size⟩
 go_wp2_with fail
 refine wp_loop_rounds 2 ?_
 rw [rounds_succ]
 go_upto_region 3 with fail
 rw [← HW2.out]
 clear k0 k1 k2 k3 k4 k5 k6 k7
 go_region_held3 (fun w'=>w'.cell? ⟨A.q,1,none⟩=some (.pointer (some ⟨A.s,0,none⟩))∧w'.cell? ⟨w1.heap.size,0,none⟩=some (.int .i64 1)∧w'.cell? ⟨w1.heap.size,1,none⟩=some (.int .i64 0)∧w'.cell? ⟨w1.heap.size,2,none⟩=some (.int .i64 0)∧w'.cell? ⟨w1.heap.size,3,none⟩=some (.int .i64 0)∧w'.cell? ⟨w1.heap.size,4,none⟩=some (.int .i64 1)∧w'.cell? ⟨w1.heap.size,5,none⟩=some (.int .i64 5)∧w'.cell? ⟨w1.heap.size,6,none⟩=some (.slice sa sn sc)∧w'.cell? ⟨w1.heap.size,7,none⟩=some (.slice ia im ic)) (first | with_reducible exact s0 | with_reducible exact s1 | with_reducible exact s2)
  (first
   | (go_at_call 147;(with_reducible refine HLE.mono ?_);rintro e w3 ⟨⟨rb,rfl,_⟩,hi3,ht3⟩;have HI3:Hid (Imp (fun k=>w.heap.size≤k) w3 A.s A.m l5 [q5]):=(by rw [learn5] at hi3;exact hi3);have HT3:Hid (Two A.s A.m w w3):=(Two.of_below A.s A.m (HB2.out.trans (HXD.out.mono HB2.out.size))).trans ht3;have hK3:=(HK2.out.stay HXD.out).two ht3 (by have:=HLT.out;omega) (by have:=HLT.out;omega);have s2:=HSK.out w3 hK3 (HC.out.fm (Fm.of_st HS.out HT3.out)).part;clear hi3 ht3 hK3))
 go_wp2_with fail
 rw [rounds_succ]
 go_wp2
 go_returns
 exact ⟨rfl,HI3.out,HT3.out⟩
theorem br_handOn1 (B:Nat) (A:Ad) (w:World) (age:Nat) (D:Dk) (con:Bool) (cur hand:Int) (hc:Core B A w age con cur hand) (wv uv rv:Value) (U:List Sg) (L:List Rc) (hl:Lg w B A.g A.gsd wv D A.gl A.gcl 64 4 age U uv 5 0 L rv) (hL:L.map plR=[(5,[0,1,7])]) (h3:(getB D 32 16 0).1=3) (hs:Stm (fun k=>B≤k) w A.s A.m none 0 0 [] []):Calls Tryz.prog 38 #[.pointer (some ⟨A.gb,0,none⟩),.pointer (some ⟨A.q,0,none⟩),.int .i64 1,.int .i64 5] w fun e w'=>e=.returned (.tuple #[])∧Imp (fun k=>w.heap.size≤k) w' A.s A.m l5 [q5] ∧ Two A.s A.m w w':=by
 have HC:Hid (Core B A w age con cur hand):=hc
 have HS:Hid (Stm (fun k=>B≤k) w A.s A.m none 0 0 [] []):=hs
 have HIH:=br_isHome A.q A.s A.mr A.gl 1 (.map (some A.mm)) w hc.part
 have HLO:=br_learnOwn1 B A w age D con cur hand hc wv uv rv U L hl hL h3 hs
 clear hc hl hL h3 hs
 go_enter Tryz.func38,Tryz.ntmps38
 go_wp2_with fail
 refine HIH.mono ?_
 rintro e w0 ⟨rfl,hw⟩
 rw [hw]
 clear hw w0 HIH
 go_wp2_with fail
 refine HLO.mono ?_
 rintro e w1 ⟨rfl,hi1,ht1⟩
 have HR:Hid (Imp (fun k=>w.heap.size≤k) w1 A.s A.m l5 [q5] ∧ Two A.s A.m w w1):=⟨hi1,ht1⟩
 have c3:w1.cell? ⟨A.q,3,none⟩=some (.slice none 0 0):=(HC.out.fm (Fm.of_st HS.out ht1)).part.cell 3 rfl
 clear hi1 ht1 HLO
 go_wp2_with fail
 refine wp_loop_rounds 1 ?_
 rw [rounds_succ]
 go_wp2
 go_returns
 exact ⟨rfl,HR.out.1,HR.out.2⟩
end
section
open Go.RowKit Go.Shelf Go.Maps
structure PubOk (D D4 D5:Dk):Prop where
 ap:∃ D1 wb D2,wipeL D 16 (64+2) false=(D1,wb,0)∧syncE D1=0∧(syncD D1).waits.length<1000000000∧writeE (syncD D1) ((64+2:Nat):Int) (headL 1 0)=0∧D2=writeD (syncD D1) ((64+2:Nat):Int) (headL 1 0)∧D2.waits.length<1000000000∧writeE D2 ((64+3:Nat):Int) (layE 2 true (KeyM.key (KeyM.up (5:Int))++[0,1,7]))=0∧D4=writeD D2 ((64+3:Nat):Int) (layE 2 true (KeyM.key (KeyM.up (5:Int))++[0,1,7]))
 sh:shutE D D.age=0
 wl:D.waits.length≤900000000
 sy:syncE D4=0
 a4:D4.age=D.age
 d5:D5=syncD D4
 a5:D5.age=D.age
 n5:D5.down=false
 m3:(getB D5 32 16 0).1=3
structure Bk0 (B:Nat) (A:Ad) (w:World) (age:Nat) (D:Dk) (con:Bool) (cur hand:Int):Prop where
 core:Core B A w age con cur hand
 disk:∃ wv,Disk w B A.g A.gsd wv D
 dage:D.age=age
 down:D.down=false
theorem Bk0.stay {B:Nat} {A:Ad} {w w':World} {age:Nat} {D:Dk} {con:Bool} {cur hand:Int} (h:Bk0 B A w age D con cur hand) (hb:Below w.heap.size w w'):Bk0 B A w' age D con cur hand:=by
 obtain ⟨wv,hd⟩:=h.disk
 exact ⟨h.core.stay hb,⟨wv,hd.stay hb⟩,h.dage,h.down⟩
theorem br_Publish1 (B:Nat) (A:Ad) (w:World) (age:Nat) (D:Dk) (con:Bool) (cur hand:Int) (h:Brk B A w age D con cur hand) (D4 D5:Dk) (hp:PubOk D D4 D5) (g c:Nat) (hr:Rd w (some ⟨g,0,none⟩) 1 [7]):Calls Tryz.prog 8 #[.pointer (some ⟨A.gb,0,none⟩),.int .i64 0,.agg #[.slice none 0 0,.slice (some ⟨g,0,none⟩) 1 c],.int .i64 5] w fun e w'=>e=.returned (.tuple #[.int .i64 5,.int .i64 0])∧Bk0 B A w' age D5 con cur hand∧(∃ b,A.gst<b∧Imp (fun k=>b≤k) w' A.s A.m l5 [q5])∧Below B w w':=by
 have HB:Hid (Brk B A w age D con cur hand):=h
 have HP:Hid (PubOk D D4 D5):=hp
 have HR:Hid (Rd w (some ⟨g,0,none⟩) 1 [7]):=hr
 obtain ⟨W1,HW1⟩:∃ W,Hid (W=w.alloc (.cells #[.slice none 0 0,.slice (some ⟨g,0,none⟩) 1 c] 45)):=⟨_,rfl⟩
 have HX1:Hid (Below w.heap.size w W1):=by (show Below _ _ _);rw [HW1.out];exact below_alloc _ _
 have HK1:Hid (Row1 W1 w.heap.size 45 [.slice none 0 0,.slice (some ⟨g,0,none⟩) 1 c]):=by (show Row1 _ _ _ _);rw [HW1.out];exact Row1.of (Blk.new _ _ _)
 have HHO:=br_home0 B A W1 age D con cur hand (h.stay HX1.out)
 clear h hp hr
 go_enter Tryz.func8,Tryz.ntmps8
 go_upto_region 1 with fail
 rw [← HW1.out]
 go_wp2_with fail
 refine HHO.mono ?_
 rintro e w2 ⟨rfl,hb2⟩
 have HX2:Hid (Below w.heap.size w w2):=HX1.out.trans (hb2.mono HX1.out.size)
 have HK2:Hid (Row1 w2 w.heap.size 45 [.slice none 0 0,.slice (some ⟨g,0,none⟩) 1 c]):=HK1.out.stay hb2
 have HB2:Hid (Brk B A w2 age D con cur hand):=HB.out.stay HX2.out
 clear hb2 HHO
 have hne:Nonempty (BlwW w2):=⟨⟨w2,Below.refl _ _⟩⟩
 have c4:∀ p:BlwW w2,p.W.cell? ⟨A.gb,4,none⟩=some (.slice none 0 0):=fun p=>(HB2.out.stay p.ok).core.bro.cell 4 rfl
 have e0:∀ p:BlwW w2,p.W.cell? ⟨w.heap.size,0,none⟩=some (.slice none 0 0):=fun p=>(HK2.out.stay p.ok).cell 0 rfl
 have e1:∀ p:BlwW w2,p.W.cell? ⟨w.heap.size,1,none⟩=some (.slice (some ⟨g,0,none⟩) 1 c):=fun p=>(HK2.out.stay p.ok).cell 1 rfl
 have HFT:Hid (∀ p:BlwW w2,Calls Tryz.prog 33 #[.slice none 0 0,.agg #[.slice none 0 0,.slice (some ⟨g,0,none⟩) 1 c]] p.W fun e w'=>e=.returned (.int .i64 0)∧Below p.W.heap.size p.W w'):=fun p=>be_Fits (some ⟨g,0,none⟩) 1 c (by decide) p.W
 go_wp2_with fail
 refine wp_region_blw (by kernel_rfl) (by kernel_rfl) ?_
 repeat (go_big_quiet_step (first | (go_at_call 33;exact Calls.blw_of (HFT.out _))))
 refine wpQuiet_nil ?_
 intro _ hw'
 obtain ⟨p1,hw''⟩:=hw'
 subst hw''
 clear c4 e0 e1 hne HFT
 obtain ⟨w3,Hw3⟩:∃ W,Hid (W=p1.W):=⟨_,rfl⟩
 have HX23:Hid (Below w2.heap.size w2 w3):=by (show Below _ _ _);rw [Hw3.out];exact p1.ok
 have HX3:Hid (Below w.heap.size w w3):=HX2.out.trans (HX23.out.mono HX2.out.size)
 rw [← Hw3.out]
 have HK3:Hid (Row1 w3 w.heap.size 45 [.slice none 0 0,.slice (some ⟨g,0,none⟩) 1 c]):=HK2.out.stay HX23.out
 have HB3:Hid (Brk B A w3 age D con cur hand):=HB2.out.stay HX23.out
 have e0:w3.cell? ⟨w.heap.size,0,none⟩=some (.slice none 0 0):=HK3.out.cell 0 rfl
 have e1:w3.cell? ⟨w.heap.size,1,none⟩=some (.slice (some ⟨g,0,none⟩) 1 c):=HK3.out.cell 1 rfl
 have HPU:=be_Put g c w3 (HR.out.below HX3.out)
 go_wp2_with fail
 refine HPU.mono ?_
 rintro e w4 ⟨a4,c4,rfl,ho4,hb4⟩
 have HO4:Hid (Own w4 w3.heap.size a4 3 c4 [0,1,7]):=ho4
 have HX4:Hid (Below w.heap.size w w4):=HX3.out.trans (hb4.mono HX3.out.size)
 have HB4:Hid (Brk B A w4 age D con cur hand):=HB3.out.stay hb4
 clear ho4 hb4 HPU e0 e1
 obtain ⟨wv4,uv4,rv4,hl4⟩:=HB4.out.log
 have HRC:Calls Tryz.prog 35 #[.pointer (some ⟨A.q,0,none⟩)] w4 fun e w'=>e=.returned (.int .i64 0)∧Below w4.heap.size w4 w':=br_reached A.q A.s A.mr A.gl 1 (.map (some A.mm)) A.g A.gcl 64 4 age 0 0 uv4 rv4 w4 HB4.out.core.part hl4.log
 clear hl4
 go_wp2_with fail
 refine HRC.mono ?_
 rintro e w5 ⟨rfl,hb5⟩
 have HX5:Hid (Below w.heap.size w w5):=HX4.out.trans (hb5.mono HX4.out.size)
 have HB5:Hid (Brk B A w5 age D con cur hand):=HB4.out.stay hb5
 have HO5:Hid (Own w5 B a4 3 c4 [0,1,7]):=(HO4.out.below hb5).lower (Nat.le_trans HB.out.core.bw HX3.out.size)
 clear hb5 HRC
 have c6:w5.cell? ⟨A.q,6,none⟩=some (.pointer (some ⟨A.gl,0,none⟩)):=HB5.out.core.part.cell 6 rfl
 obtain ⟨wv5,uv5,rv5,hl5⟩:=HB5.out.log
 obtain ⟨D1,wb,D2,p1',p2,p3,p4,p5',p6,p7,p8⟩:=HP.out.ap
 have hcl:=HO5.out.cap_le
 have HAP:Calls Tryz.prog 36 #[.pointer (some ⟨A.gl,0,none⟩),.int .i64 5,.slice a4 3 c4] w5 fun e w'=>e=.returned (.int .i64 0)∧Hid (∃ wv' uv' rv' L',L'.map plR=([] : List Rc).map plR++[(5,[0,1,7])] ∧ Lg w' B A.g A.gsd wv' (writeD D2 ((64+3:Nat):Int) (layE 2 true (KeyM.key (KeyM.up (5:Int))++[0,1,7]))) A.gl A.gcl 64 4 age [⟨64+2,1,5,2⟩] uv' 5 0 L' rv')∧Below B w5 w'∧Hid (Ft w5 w') :=
  evl_Append0 w5 B A.g A.gsd wv5 D A.gl A.gcl 64 4 age uv5 0 0 [] rv5 D1 D2 wb 5 a4 3 c4 [0,1,7] hl5 (by rw [← HB.out.dage];exact HP.out.sh) (by decide) (by decide) (by decide) (by decide) HP.out.wl p1' p2 p3 p4 p5' p6 p7 (HO5.out.bd (by decide)) hcl.1 (by decide) HO5.out.nil_cap' (by decide)
 rw [← p8] at HAP
 clear hl5 p1' p2 p3 p4 p5' p6 p7 p8 hcl
 go_wp2_with fail
 refine HAP.mono ?_
 rintro e w6 ⟨rfl,ht6,hb6,hf6⟩
 have HT6:=ht6
 have HX6:Hid (Below B w w6):=(HX5.out.mono HB.out.core.bw).trans hb6
 have HF6:Hid (Fg lgT w5 w6):=Fg.of_ft hf6.out
 clear ht6 hb6 hf6 HAP c6
 obtain ⟨wv6,uv6,rv6,L6,hL6,hl6⟩:=HT6.out
 have HL6:Hid (L6.map plR=[(5,[0,1,7])]):=hL6
 have c6:w6.cell? ⟨A.q,6,none⟩=some (.pointer (some ⟨A.gl,0,none⟩)):=(HB5.out.core.fg HF6.out).part.cell 6 rfl
 have HAG:Hid (D4.age=age):=HP.out.a4.trans HB.out.dage
 have HSY:=evl_Sync w6 B A.g A.gsd wv6 D4 A.gl A.gcl 64 4 [⟨64+2,1,5,2⟩] uv6 5 0 L6 rv6 (by rw [HAG.out];exact hl6)
 rw [HP.out.sy,HAG.out,← HP.out.d5] at HSY
 clear hL6 hl6 HT6
 go_wp2_with fail
 refine HSY.mono ?_
 rintro e w7 ⟨rfl,ht7,hb7,hf7⟩
 have HX7:Hid (Below B w w7):=HX6.out.trans hb7
 have HF7:Hid (Fg lgT w5 w7):=HF6.out.trans (Fg.of_ft hf7.out)
 obtain ⟨wv7,hl7⟩:=ht7.out
 have HC7:Hid (Core B A w7 age con cur hand):=HB5.out.core.fg HF7.out
 have HS7:Hid (Stm (fun k=>B≤k) w7 A.s A.m none 0 0 [] []):=HB5.out.strm.fm0 (Fm.of_fg (p:=w7.heap.size) HF7.out) (Nat.ne_of_lt (Nat.lt_of_lt_of_le (owns_lt HB5.out.strm.items) HF7.out.size)) (by decide)
 have HD7:Hid (Disk w7 B A.g A.gsd wv7 D5):=hl7.disk
 have HHN:=br_handOn1 B A w7 age D5 con cur hand HC7.out wv7 uv6 rv6 [⟨64+2,1,5,2⟩] L6 hl7 HL6.out HP.out.m3 HS7.out
 clear ht7 hb7 hf7 hl7 HSY c6
 go_wp2_with fail
 refine HHN.mono ?_
 rintro e w8 ⟨rfl,hi8,ht8⟩
 have HFM:Hid (Fm stT A.m w7 w8):=Fm.of_st HS7.out ht8
 have HR8:Hid (Bk0 B A w8 age D5 con cur hand∧(∃ b,A.gst<b∧Imp (fun k=>b≤k) w8 A.s A.m l5 [q5])∧Below B w w8):=⟨⟨HC7.out.fm HFM.out,⟨wv7,HD7.out.og (HFM.out.og.mono fun _ ht=>stT_br ht)⟩,HP.out.a5.trans HB.out.dage,HP.out.n5⟩,⟨w7.heap.size,HC7.out.seat.lt,hi8⟩,Two.below HX7.out ht8 HC7.out.low.2.2.1 HC7.out.low.2.2.2 HC7.out.bw⟩
 clear hi8 ht8 HHN
 go_wp2
 go_returns
 exact ⟨rfl,HR8.out⟩
end
section
open Go.RowKit Go.Shelf Go.Maps
theorem nilB_shut (w:World):Calls Tryz.prog 48 #[.pointer none] w fun e w'=>e=.returned (.int .i64 1)∧w'=w:=by
 go_enter Tryz.func48,Tryz.ntmps48
 go_wp2
 go_returns
 exact ⟨rfl,rfl⟩
theorem nilB_home (x:Int) (w:World):Calls Tryz.prog 32 #[.pointer none,.int .i64 x] w fun e w'=>e=.returned (.tuple #[.pointer none,.int .i64 1])∧w'=w:=by
 have hs:=nilB_shut  w
 go_enter Tryz.func32,Tryz.ntmps32
 go_wp2_with fail
 refine hs.mono ?_
 rintro e w' ⟨rfl,hw⟩
 rw [hw]
 clear hw w' hs
 go_wp2
 go_returns
 exact ⟨rfl,rfl⟩
theorem nilB_seat (x:Int) (w:World):Calls Tryz.prog 39 #[.pointer none,.int .i64 x] w fun e w'=>e=.returned (.tuple #[.pointer none,.int .i64 1])∧w'=w:=by
 have hs:=nilB_shut  w
 go_enter Tryz.func39,Tryz.ntmps39
 go_wp2_with fail
 refine hs.mono ?_
 rintro e w' ⟨rfl,hw⟩
 rw [hw]
 clear hw w' hs
 go_wp2
 go_returns
 exact ⟨rfl,rfl⟩
theorem nilB_linked (x:Int) (w:World):Calls Tryz.prog 42 #[.pointer none,.int .i64 x] w fun e w'=>e=.returned (.tuple #[.pointer none,.int .i64 1])∧w'=w:=by
 have hs:=nilB_seat x w
 go_enter Tryz.func42,Tryz.ntmps42
 go_wp2_with fail
 refine hs.mono ?_
 rintro e w' ⟨rfl,hw⟩
 rw [hw]
 clear hw w' hs
 go_wp2
 go_returns
 exact ⟨rfl,rfl⟩
theorem nilB_Publish (x:Int) (a:Option Addr) (n c:Nat) (y:Int) (w:World):Calls Tryz.prog 8 #[.pointer none,.int .i64 x,.agg #[.slice none 0 0,.slice a n c],.int .i64 y] w fun e w'=>e=.returned (.tuple #[.int .i64 0,.int .i64 1])∧Below w.heap.size w w':=by
 obtain ⟨W1,HW1⟩:∃ W,Hid (W=w.alloc (.cells #[.slice none 0 0,.slice a n c] 45)):=⟨_,rfl⟩
 have HX1:Hid (Below w.heap.size w W1):=by (show Below _ _ _);rw [HW1.out];exact below_alloc _ _
 have hs:=nilB_home x W1
 go_enter Tryz.func8,Tryz.ntmps8
 go_upto_region 1 with fail
 rw [← HW1.out]
 go_wp2_with fail
 refine hs.mono ?_
 rintro e w' ⟨rfl,hw⟩
 rw [hw]
 clear hw w' hs
 go_wp2
 go_returns
 exact ⟨rfl,HX1.out⟩
theorem nilB_Force (x y:Int) (w:World):Calls Tryz.prog 12 #[.pointer none,.int .i64 x,.int .i64 y] w fun e w'=>e=.returned (.int .i64 1)∧w'=w:=by
 have hs:=nilB_home x w
 go_enter Tryz.func12,Tryz.ntmps12
 go_wp2_with fail
 refine hs.mono ?_
 rintro e w' ⟨rfl,hw⟩
 rw [hw]
 clear hw w' hs
 go_wp2
 go_returns
 exact ⟨rfl,rfl⟩
theorem nilB_Log (x:Int) (w:World):Calls Tryz.prog 18 #[.pointer none,.int .i64 x] w fun e w'=>e=.returned (.tuple #[.int .i64 0,.int .i64 0,.int .i64 0])∧w'=w:=by
 have hs:=nilB_home x w
 go_enter Tryz.func18,Tryz.ntmps18
 go_wp2_with fail
 refine hs.mono ?_
 rintro e w' ⟨rfl,hw⟩
 rw [hw]
 clear hw w' hs
 go_wp2
 go_returns
 exact ⟨rfl,rfl⟩
theorem nilB_Pull (x:Int) (w:World):Calls Tryz.prog 19 #[.pointer none,.int .i64 x] w fun e w'=>e=.returned (.tuple #[.slice none 0 0,.bool false])∧w'=w:=by
 have hs:=nilB_shut  w
 go_enter Tryz.func19,Tryz.ntmps19
 go_wp2_with fail
 refine hs.mono ?_
 rintro e w' ⟨rfl,hw⟩
 rw [hw]
 clear hw w' hs
 go_wp2
 go_returns
 exact ⟨rfl,rfl⟩
theorem nilB_Subscribe (x:Int) (w:World):Calls Tryz.prog 16 #[.pointer none,.int .i64 x] w fun e w'=>e=.returned (.int .i64 1)∧w'=w:=by
 have hs:=nilB_seat x w
 go_enter Tryz.func16,Tryz.ntmps16
 go_wp2_with fail
 refine hs.mono ?_
 rintro e w' ⟨rfl,hw⟩
 rw [hw]
 clear hw w' hs
 go_wp2
 go_returns
 exact ⟨rfl,rfl⟩
theorem nilB_Unsubscribe (x:Int) (w:World):Calls Tryz.prog 15 #[.pointer none,.int .i64 x] w fun e w'=>e=.returned (.int .i64 1)∧w'=w:=by
 have hs:=nilB_seat x w
 go_enter Tryz.func15,Tryz.ntmps15
 go_wp2_with fail
 refine hs.mono ?_
 rintro e w' ⟨rfl,hw⟩
 rw [hw]
 clear hw w' hs
 go_wp2
 go_returns
 exact ⟨rfl,rfl⟩
theorem nilB_Connect (x:Int) (w:World):Calls Tryz.prog 10 #[.pointer none,.int .i64 x] w fun e w'=>e=.returned (.tuple #[.int .i64 0,.int .i64 1])∧w'=w:=by
 have hs:=nilB_seat x w
 go_enter Tryz.func10,Tryz.ntmps10
 go_wp2_with fail
 refine hs.mono ?_
 rintro e w' ⟨rfl,hw⟩
 rw [hw]
 clear hw w' hs
 go_wp2
 go_returns
 exact ⟨rfl,rfl⟩
theorem nilB_Disconnect (x:Int) (w:World):Calls Tryz.prog 13 #[.pointer none,.int .i64 x] w fun e w'=>e=.returned (.int .i64 1)∧w'=w:=by
 have hs:=nilB_linked x w
 go_enter Tryz.func13,Tryz.ntmps13
 go_wp2_with fail
 refine hs.mono ?_
 rintro e w' ⟨rfl,hw⟩
 rw [hw]
 clear hw w' hs
 go_wp2
 go_returns
 exact ⟨rfl,rfl⟩
theorem results_Deliver {w:World} {tmps:Array Value} {g:Nat} {v0 v1 v2 v3 v4 v5 f:Value} (h4:tmps[4]?.getD undef=.pointer (some ⟨g,0,none⟩)) (h5:tmps[5]?.getD undef=f) (h:Row1 w g 53 [v0,v1,v2,v3,v4,v5]):(results Tryz.f11 tmps).run Tryz.prog w=.ok (.tuple #[.agg #[v0,v1,v2,v3,v4,v5],f]) w:=by
 have k0:=h.cell 0 rfl
 have k1:=h.cell 1 rfl
 have k2:=h.cell 2 rfl
 have k3:=h.cell 3 rfl
 have k4:=h.cell 4 rfl
 have k5:=h.cell 5 rfl
 simp [results,Tryz.results11,go_sem,h4,h5,k0,k1,k2,k3,k4,k5]
theorem nilB_Deliver (x:Int) (w:World):Calls Tryz.prog 11 #[.pointer none,.int .i64 x] w fun e w'=>e=.returned (.tuple #[.agg #[.int .i64 0,.int .i64 0,.int .i64 0,.int .i64 0,.int .u32 0,.slice none 0 0],.int .i64 1])∧Below w.heap.size w w':=by
 obtain ⟨W1,HW1⟩:∃ W,Hid (W=w.alloc (.cells #[.int .i64 0,.int .i64 0,.int .i64 0,.int .i64 0,.int .u32 0,.slice none 0 0] 53)):=⟨_,rfl⟩
 have HX1:Hid (Below w.heap.size w W1):=by (show Below _ _ _);rw [HW1.out];exact below_alloc _ _
 have HK1:Hid (Row1 W1 w.heap.size 53 [.int .i64 0,.int .i64 0,.int .i64 0,.int .i64 0,.int .u32 0,.slice none 0 0]):=by (show Row1 _ _ _ _);rw [HW1.out];exact Row1.of (Blk.new _ _ _)
 have hs:=nilB_linked x W1
 go_enter Tryz.func11,Tryz.ntmps11
 go_upto_region 1 with fail
 rw [← HW1.out]
 go_wp2_with fail
 refine hs.mono ?_
 rintro e w' ⟨rfl,hw⟩
 rw [hw]
 clear hw w' hs
 have m0:W1.cell? ⟨w.heap.size,0,none⟩=some (.int .i64 0):=HK1.out.cell 0 rfl
 have f0:W1.frozen? ⟨w.heap.size,0,none⟩=false:=HK1.out.free 0
 have m1:W1.cell? ⟨w.heap.size,1,none⟩=some (.int .i64 0):=HK1.out.cell 1 rfl
 have f1:W1.frozen? ⟨w.heap.size,1,none⟩=false:=HK1.out.free 1
 have m2:W1.cell? ⟨w.heap.size,2,none⟩=some (.int .i64 0):=HK1.out.cell 2 rfl
 have f2:W1.frozen? ⟨w.heap.size,2,none⟩=false:=HK1.out.free 2
 have m3:W1.cell? ⟨w.heap.size,3,none⟩=some (.int .i64 0):=HK1.out.cell 3 rfl
 have f3:W1.frozen? ⟨w.heap.size,3,none⟩=false:=HK1.out.free 3
 have m4:W1.cell? ⟨w.heap.size,4,none⟩=some (.int .u32 0):=HK1.out.cell 4 rfl
 have f4:W1.frozen? ⟨w.heap.size,4,none⟩=false:=HK1.out.free 4
 have m5:W1.cell? ⟨w.heap.size,5,none⟩=some (.slice none 0 0):=HK1.out.cell 5 rfl
 have f5:W1.frozen? ⟨w.heap.size,5,none⟩=false:=HK1.out.free 5
 go_wp2
 try simp only [Exit.inBlock,Exit.then]
 refine bodyPost_ret (results_Deliver (by rfl) (by rfl) ((((((HK1.out.set 0 (.int .i64 0)).set 1 (.int .i64 0)).set 2 (.int .i64 0)).set 3 (.int .i64 0)).set 4 (.int .u32 0)).set 5 (.slice none 0 0))) rfl ?_
 exact ⟨rfl,((((((HX1.out.setCell (p:=⟨w.heap.size,0,none⟩) (Nat.le_refl _) _).setCell (p:=⟨w.heap.size,1,none⟩) (Nat.le_refl _) _).setCell (p:=⟨w.heap.size,2,none⟩) (Nat.le_refl _) _).setCell (p:=⟨w.heap.size,3,none⟩) (Nat.le_refl _) _).setCell (p:=⟨w.heap.size,4,none⟩) (Nat.le_refl _) _).setCell (p:=⟨w.heap.size,5,none⟩) (Nat.le_refl _) _)⟩
theorem nilB_Ack (x y:Int) (w:World):Calls Tryz.prog 14 #[.pointer none,.int .i64 x,.int .i64 y] w fun e w'=>e=.returned (.int .i64 1)∧w'=w:=by
 have hs:=nilB_linked x w
 go_enter Tryz.func14,Tryz.ntmps14
 go_wp2_with fail
 refine hs.mono ?_
 rintro e w' ⟨rfl,hw⟩
 rw [hw]
 clear hw w' hs
 go_wp2
 go_returns
 exact ⟨rfl,rfl⟩
theorem nilB_State (x:Int) (w:World):Calls Tryz.prog 22 #[.pointer none,.int .i64 x] w fun e w'=>e=.returned (.tuple #[.bool false,.int .i64 0])∧w'=w:=by
 have hs:=nilB_seat x w
 go_enter Tryz.func22,Tryz.ntmps22
 go_wp2_with fail
 refine hs.mono ?_
 rintro e w' ⟨rfl,hw⟩
 rw [hw]
 clear hw w' hs
 go_wp2
 go_returns
 exact ⟨rfl,rfl⟩
theorem nilB_Take (x:Int) (f:Value) (y:Int) (w:World):Calls Tryz.prog 17 #[.pointer none,.int .i64 x,f,.int .i64 y] w fun e w'=>e=.returned (.int .i64 1)∧w'=w:=by
 have hs:=nilB_shut  w
 go_enter Tryz.func17,Tryz.ntmps17
 go_wp2_with fail
 refine hs.mono ?_
 rintro e w' ⟨rfl,hw⟩
 rw [hw]
 clear hw w' hs
 go_wp2
 go_returns
 exact ⟨rfl,rfl⟩
end
section
open Go.RowKit Go.Shelf Go.Maps
def seT:List TypeId:=[109]
theorem seT_br {t:TypeId} (h:t∈seT):t∈brT:=by
 rw [List.mem_singleton.1 h]
 decide
theorem Core.seT {B:Nat} {A:Ad} {w w':World} {age:Nat} {con con':Bool} {cur hand cur' hand':Int} (h:Core B A w age con cur hand) (hf:Fg seT w w') (hs:Row1 w' A.gst 109 [.pointer (some ⟨A.gc,0,none⟩),.int .i64 1,.int .i64 0,.bool con',.int .i64 cur',.int .i64 hand']):Core B A w' age con' cur' hand' :=
 ⟨h.bro.fg hf (by decide),h.tpo.fg hf (by decide) (by decide) (by decide),owns_fg h.seats hf,hs,h.cells.fg hf (by decide),owns_fg h.parts hf,h.part.fg hf (by decide),owns_fg h.mem hf,h.mcells.fg hf (by decide),h.low,h.ne,Nat.le_trans h.bw hf.size⟩
theorem Brk.seT {B:Nat} {A:Ad} {w w':World} {age:Nat} {D:Dk} {con con':Bool} {cur hand cur' hand':Int} (h:Brk B A w age D con cur hand) (hf:Fg seT w w') (hs:Row1 w' A.gst 109 [.pointer (some ⟨A.gc,0,none⟩),.int .i64 1,.int .i64 0,.bool con',.int .i64 cur',.int .i64 hand']):Brk B A w' age D con' cur' hand':=by
 obtain ⟨wv,uv,rv,hl⟩:=h.log
 exact ⟨h.core.seT hf hs,h.strm.fm0 (Fm.of_fg (p:=w'.heap.size) hf) (Nat.ne_of_lt (Nat.lt_of_lt_of_le (owns_lt h.strm.items) hf.size)) (by decide),⟨wv,uv,rv,hl.og (hf.mono fun _ ht=>seT_br ht).og⟩,h.dage,h.down⟩
theorem br_Connect1 (B:Nat) (A:Ad) (w:World) (age:Nat) (D:Dk) (con:Bool) (cur hand:Int) (h:Brk B A w age D con cur hand) (h6:(getB D 0 16 0).1=6) (h0:(getB D 0 16 8).1=0):Calls Tryz.prog 10 #[.pointer (some ⟨A.gb,0,none⟩),.int .i64 1] w fun e w'=>e=.returned (.tuple #[.int .i64 0,.int .i64 0])∧Brk B A w' age D true 0 hand∧Below B w w':=by
 have HB:Hid (Brk B A w age D con cur hand):=h
 have HV:Hid ((getB D 0 16 0).1=6∧(getB D 0 16 8).1=0):=⟨h6,h0⟩
 have HSE:=br_seat1 B A w age D con cur hand h
 clear h h6 h0
 go_enter Tryz.func10,Tryz.ntmps10
 go_wp2_with fail
 refine HSE.mono ?_
 rintro e w1 ⟨rfl,hb1⟩
 have HX1:Hid (Below w.heap.size w w1):=hb1
 have HB1:Hid (Brk B A w1 age D con cur hand):=HB.out.stay hb1
 clear hb1 HSE
 obtain ⟨wv,hd1⟩:=HB1.out.disk
 have HST:=br_sstate6 w1 B A.g A.gsd wv D A.gst A.gc con cur hand hd1 HB1.out.core.cells HB1.out.core.seat HV.out.1
 clear hd1
 go_wp2_with fail
 refine HST.mono ?_
 rintro e w2 ⟨rfl,hb2⟩
 have HX2:Hid (Below w.heap.size w w2):=HX1.out.trans (hb2.mono HX1.out.size)
 have HB2:Hid (Brk B A w2 age D con cur hand):=HB1.out.stay hb2
 clear hb2 HST
 obtain ⟨wv2,hd2⟩:=HB2.out.disk
 have HSA:=br_sacked w2 B A.g A.gsd wv2 D A.gst A.gc con cur hand hd2 HB2.out.core.cells HB2.out.core.seat 0 HV.out.2
 clear hd2
 go_wp2_with fail
 refine HSA.mono ?_
 rintro e w3 ⟨rfl,hb3⟩
 have HX3:Hid (Below w.heap.size w w3):=HX2.out.trans (hb3.mono HX2.out.size)
 have HB3:Hid (Brk B A w3 age D con cur hand):=HB2.out.stay hb3
 clear hb3 HSA
 obtain ⟨W4,HW4⟩:∃ W,Hid (W=w3.setCell ⟨A.gst,3,none⟩ (.bool true)):=⟨_,rfl⟩
 have HK4:Hid (Row1 W4 A.gst 109 [.pointer (some ⟨A.gc,0,none⟩),.int .i64 1,.int .i64 0,.bool true,.int .i64 cur,.int .i64 hand]):=by (show Row1 _ _ _ _);rw [HW4.out];exact HB3.out.core.seat.set 3 _
 have HF4:Hid (Fg seT w3 W4):=by (show Fg _ _ _);rw [HW4.out];exact Fg.set HB3.out.core.seat (by decide) 3 _
 obtain ⟨W5,HW5⟩:∃ W,Hid (W=W4.setCell ⟨A.gst,4,none⟩ (.int .i64 0)):=⟨_,rfl⟩
 have HK5:Hid (Row1 W5 A.gst 109 [.pointer (some ⟨A.gc,0,none⟩),.int .i64 1,.int .i64 0,.bool true,.int .i64 0,.int .i64 hand]):=by (show Row1 _ _ _ _);rw [HW5.out];exact HK4.out.set 4 _
 have HF5:Hid (Fg seT w3 W5):=by (show Fg _ _ _);rw [HW5.out];exact HF4.out.trans (Fg.set HK4.out (by decide) 4 _)
 have HX5:Hid (Below B w W5):=by
  (show Below _ _ _)
  rw [HW5.out,HW4.out]
  exact ((HX3.out.mono HB.out.core.bw).setCell (p:=⟨A.gst,3,none⟩) HB.out.core.low.1 _).setCell (p:=⟨A.gst,4,none⟩) HB.out.core.low.1 _
 have c3:w3.cell? ⟨A.gst,3,none⟩=some (.bool con):=HB3.out.core.seat.cell 3 rfl
 have f3:w3.frozen? ⟨A.gst,3,none⟩=false:=HB3.out.core.seat.free 3
 have c4:W4.cell? ⟨A.gst,4,none⟩=some (.int .i64 cur):=HK4.out.cell 4 rfl
 have f4:W4.frozen? ⟨A.gst,4,none⟩=false:=HK4.out.free 4
 have d4:W5.cell? ⟨A.gst,4,none⟩=some (.int .i64 0):=HK5.out.cell 4 rfl
 go_upto_region 7 with (rw [← HW4.out])
 rw [← HW5.out]
 go_wp2
 go_returns
 exact ⟨rfl,HB3.out.seT HF5.out HK5.out,HX5.out⟩
theorem br_State1 (B:Nat) (A:Ad) (w:World) (age:Nat) (D:Dk) (con:Bool) (cur hand:Int) (h:Brk B A w age D con cur hand) (h6:(getB D 0 16 0).1=6) (h0:(getB D 0 16 8).1=0):Calls Tryz.prog 22 #[.pointer (some ⟨A.gb,0,none⟩),.int .i64 1] w fun e w'=>e=.returned (.tuple #[.bool true,.int .i64 0])∧Below w.heap.size w w':=by
 have HB:Hid (Brk B A w age D con cur hand):=h
 have HV:Hid ((getB D 0 16 0).1=6∧(getB D 0 16 8).1=0):=⟨h6,h0⟩
 have HSE:=br_seat1 B A w age D con cur hand h
 clear h h6 h0
 go_enter Tryz.func22,Tryz.ntmps22
 go_wp2_with fail
 refine HSE.mono ?_
 rintro e w1 ⟨rfl,hb1⟩
 have HX1:Hid (Below w.heap.size w w1):=hb1
 have HB1:Hid (Brk B A w1 age D con cur hand):=HB.out.stay hb1
 clear hb1 HSE
 obtain ⟨wv,hd1⟩:=HB1.out.disk
 have HST:=br_sisOn6 w1 B A.g A.gsd wv D A.gst A.gc con cur hand hd1 HB1.out.core.cells HB1.out.core.seat HV.out.1
 clear hd1
 go_wp2_with fail
 refine HST.mono ?_
 rintro e w2 ⟨rfl,hb2⟩
 have HX2:Hid (Below w.heap.size w w2):=HX1.out.trans (hb2.mono HX1.out.size)
 have HB2:Hid (Brk B A w2 age D con cur hand):=HB1.out.stay hb2
 clear hb2 HST
 obtain ⟨wv2,hd2⟩:=HB2.out.disk
 have HSA:=br_sacked w2 B A.g A.gsd wv2 D A.gst A.gc con cur hand hd2 HB2.out.core.cells HB2.out.core.seat 0 HV.out.2
 clear hd2
 go_wp2_with fail
 refine HSA.mono ?_
 rintro e w3 ⟨rfl,hb3⟩
 have HX3:Hid (Below w.heap.size w w3):=HX2.out.trans (hb3.mono HX2.out.size)
 clear hb3 HSA
 go_wp2
 go_returns
 exact ⟨rfl,HX3.out⟩
end
section
open Go.RowKit Go.Shelf Go.Maps
theorem bk_seat1 (B:Nat) (A:Ad) (w:World) (age:Nat) (D:Dk) (con:Bool) (cur hand:Int) (h:Bk0 B A w age D con cur hand):Calls Tryz.prog 39 #[.pointer (some ⟨A.gb,0,none⟩),.int .i64 1] w fun e w'=>e=.returned (.tuple #[.pointer (some ⟨A.gst,0,none⟩),.int .i64 0])∧Below w.heap.size w w':=by
 have HB:Hid (Bk0 B A w age D con cur hand):=h
 obtain ⟨wv,hd⟩:=h.disk
 have HSH:=br_shut B A.g A.gsd wv D A.gb A.gp A.cp A.gs A.cs A.ml A.mp A.ms w hd h.down (by have:=h.core.bro;rw [← h.dage] at this;exact this)
 clear h hd
 go_enter Tryz.func39,Tryz.ntmps39
 go_wp2_with fail
 refine HSH.mono ?_
 rintro e w1 ⟨rfl,hb1⟩
 have HB1:Hid (Below w.heap.size w w1):=hb1
 have hc:=(HB.out.stay hb1).core
 have c10:w1.cell? ⟨A.gb,10,none⟩=some (.map (some A.ms)):=hc.bro.cell 10 rfl
 have hlk:=look_seat hc.seats (t:=1) (by omega)
 rw [show (getX [(1,Value.pointer (some ⟨A.gst,0,none⟩))] (1:Int)).getD (.pointer none)=.pointer (some ⟨A.gst,0,none⟩) from rfl] at hlk
 clear hb1 hc HSH
 go_wp2
 go_returns
 exact ⟨rfl,HB1.out⟩
theorem bk_linked1 (B:Nat) (A:Ad) (w:World) (age:Nat) (D:Dk) (cur hand:Int) (h:Bk0 B A w age D true cur hand):Calls Tryz.prog 42 #[.pointer (some ⟨A.gb,0,none⟩),.int .i64 1] w fun e w'=>e=.returned (.tuple #[.pointer (some ⟨A.gst,0,none⟩),.int .i64 0])∧Below w.heap.size w w':=by
 have HB:Hid (Bk0 B A w age D true cur hand):=h
 have HSE:=bk_seat1 B A w age D true cur hand h
 clear h
 go_enter Tryz.func42,Tryz.ntmps42
 go_wp2_with fail
 refine HSE.mono ?_
 rintro e w1 ⟨rfl,hb1⟩
 have HB1:Hid (Below w.heap.size w w1):=hb1
 have c3:w1.cell? ⟨A.gst,3,none⟩=some (.bool true):=(HB.out.stay hb1).core.seat.cell 3 rfl
 clear hb1 HSE
 go_wp2
 go_returns
 exact ⟨rfl,HB1.out⟩
theorem anyL_two {P:Program} {ops:Array Oper} {Q:Exit→Act→World→Prop} {md:Region.Mode} {S:Array Bool→World→Prop} {i j:Nat} {oi oj:Oper} {n:Nat} {lst:Array Bool} {a:Act} {w:World} (hr:Region.ready md ops lst=[i,j]) (hi:ops[i]? = some oi) (hj:ops[j]? = some oj)
  (h:∀ K':Act→World→Prop,Shut (∀ a w,S (lst.setIfInBounds i true) w→(S (lst.setIfInBounds i true) w→anyL P md ops Q S n (lst.setIfInBounds i true) a w)→K' a w)→if Region.wanted oi (yielded ops a.tmps)=true then Oper.wp P oi a w K' Q else K' (a.put oi.dst undef) w)
  (h2:∀ K':Act→World→Prop,Shut (∀ a w,S (lst.setIfInBounds j true) w→(S (lst.setIfInBounds j true) w→anyL P md ops Q S n (lst.setIfInBounds j true) a w)→K' a w)→if Region.wanted oj (yielded ops a.tmps)=true then Oper.wp P oj a w K' Q else K' (a.put oj.dst undef) w):anyL P md ops Q S (n+1) lst a w :=
 anyL_ready hr (by simp) fun k hk=>by
  simp only [List.mem_cons,List.not_mem_nil,or_false] at hk
  rcases hk with rfl | rfl
  ·exact wpOp_step hi (fun K' hK=>h K' (fun a w hS hW=>hK a w ⟨hS,hW hS⟩))
  ·exact wpOp_step hj (fun K' hK=>h2 K' (fun a w hS hW=>hK a w ⟨hS,hW hS⟩))
theorem Bk0.seT {B:Nat} {A:Ad} {w w':World} {age:Nat} {D:Dk} {con con':Bool} {cur hand cur' hand':Int} (h:Bk0 B A w age D con cur hand) (hf:Fg seT w w') (hs:Row1 w' A.gst 109 [.pointer (some ⟨A.gc,0,none⟩),.int .i64 1,.int .i64 0,.bool con',.int .i64 cur',.int .i64 hand']):Bk0 B A w' age D con' cur' hand':=by
 obtain ⟨wv,hd⟩:=h.disk
 exact ⟨h.core.seT hf hs,⟨wv,hd.og (hf.mono fun _ ht=>seT_br ht).og⟩,h.dage,h.down⟩
theorem Imp.setN {Z:Nat→Prop} {w:World} {s m g i:Nat} {v:Value} {e:TypeId} {cs:List Value} {L:List Sp} {X:List It} (h:Imp Z w s m L X) (hg:Row1 w g e cs) (he:e≠184) (hz:¬ Z g):Imp Z (w.setCell ⟨g,i,none⟩ v) s m L X:=by
 obtain ⟨l,⟨a,n,c,Y,hs⟩,hk⟩:=h
 have h1:s≠g:=by
  rintro rfl
  obtain ⟨cur,h2,_⟩:=hg
  have h3:=hs.stm.blk.symm.trans h2
  simp only [Option.some.injEq,Obj.cells.injEq] at h3
  exact he h3.2.1.symm
 have h2:m≠g:=by
  rintro rfl
  obtain ⟨cur,h2,_⟩:=hg
  obtain ⟨es,clock,h3,_⟩:=hs.stm.items
  have h4:=h2.symm.trans h3
  cases h4
 refine Imp.frame ⟨l,⟨a,n,c,Y,hs⟩,hk⟩ (by rw [World.size_setCell];exact Nat.le_refl _) (heap_setCell_other w ⟨g,i,none⟩ s v h1) (heap_setCell_other w ⟨g,i,none⟩ m v h2) fun k _ hz2 _=>heap_setCell_other w ⟨g,i,none⟩ k v ?_
 show k≠g
 rintro rfl
 exact hz hz2
theorem Imp.overB {Z Z':Nat→Prop} {w w2:World} {s m:Nat} {L:List Sp} {X:List It} (h:Imp Z w s m L X) (hb:Below w.heap.size w w2) (hz:∀ k,k<w.heap.size→Z k→Z' k) (hzz:∀ k,w2.heap.size≤k→Z' k):Imp Z' w2 s m L X:=by
 obtain ⟨l,⟨a,n,c,Y,g⟩,e⟩:=h
 have g2:=g.stay hb
 refine ⟨l,⟨a,n,c,Y,⟨g2.stm.blk,g2.stm.ok,g2.stm.items,g2.stm.rise,fun ad e=>(let ⟨x1,x2,x3,x4⟩:=g.stm.apart ad e;⟨Nat.lt_of_lt_of_le x1 hb.size,x2,x3,hz _ x1 x4⟩),hzz⟩,fun t => ?_,g.data⟩,e⟩
 have hi:=g.its t
 cases ho:getI X t with
 | none =>
  rw [ho] at hi
  exact hi
 | some q =>
  rw [ho] at hi
  obtain ⟨h1,h2,h3,ba,bc,h4,h5,h6⟩:=hi
  refine ⟨h1,h2,h3,ba,bc,h4,h5.below hb,fun ad e => ?_⟩
  rcases h6 ad e with h | h
  ·exact .inl h
  ·rcases h5.cells with h0 | ⟨g',o,ha,hg,_⟩
   ·exact .inl (List.eq_nil_of_length_eq_zero h0)
   ·rw [ha] at e
    cases e
    exact .inr (hz _ hg h)
def spT:List TypeId:=[53]
theorem Bk0.spT {B:Nat} {A:Ad} {w w':World} {age:Nat} {D:Dk} {con:Bool} {cur hand:Int} (h:Bk0 B A w age D con cur hand) (hf:Fg spT w w'):Bk0 B A w' age D con cur hand:=by
 obtain ⟨wv,hd⟩:=h.disk
 have hc:=h.core
 exact ⟨⟨hc.bro.fg hf (by decide),hc.tpo.fg hf (by decide) (by decide) (by decide),owns_fg hc.seats hf,hc.seat.fg hf (by decide),hc.cells.fg hf (by decide),owns_fg hc.parts hf,hc.part.fg hf (by decide),owns_fg hc.mem hf,hc.mcells.fg hf (by decide),hc.low,hc.ne,Nat.le_trans hc.bw hf.size⟩,
  ⟨wv,hf.block A.g _ _ _ hd.blk (by decide),hf.block A.gsd _ _ _ hd.srow (by decide),own_og hd.wrow hf.og (by decide),hd.bg,hd.bs,hd.sz,hd.sec,hd.wts,hd.tr,hd.ag,hd.wl⟩,h.dage,h.down⟩
theorem step6 {w:World} {g:Nat} {c0 c1 c2 c3 c4 c5:Value} (v0 v1 v2 v3 v4 v5:Value) (h:Row1 w g 53 [c0,c1,c2,c3,c4,c5]):Row1 ((((((w.setCell ⟨g,0,none⟩ v0).setCell ⟨g,1,none⟩ v1).setCell ⟨g,2,none⟩ v2).setCell ⟨g,3,none⟩ v3).setCell ⟨g,4,none⟩ v4).setCell ⟨g,5,none⟩ v5) g 53 [v0,v1,v2,v3,v4,v5] ∧ Fg spT w ((((((w.setCell ⟨g,0,none⟩ v0).setCell ⟨g,1,none⟩ v1).setCell ⟨g,2,none⟩ v2).setCell ⟨g,3,none⟩ v3).setCell ⟨g,4,none⟩ v4).setCell ⟨g,5,none⟩ v5)∧Below g w ((((((w.setCell ⟨g,0,none⟩ v0).setCell ⟨g,1,none⟩ v1).setCell ⟨g,2,none⟩ v2).setCell ⟨g,3,none⟩ v3).setCell ⟨g,4,none⟩ v4).setCell ⟨g,5,none⟩ v5)∧∀ (Z:Nat→Prop) (s m:Nat) (L:List Sp) (X:List It),Imp Z w s m L X→¬ Z g→Imp Z ((((((w.setCell ⟨g,0,none⟩ v0).setCell ⟨g,1,none⟩ v1).setCell ⟨g,2,none⟩ v2).setCell ⟨g,3,none⟩ v3).setCell ⟨g,4,none⟩ v4).setCell ⟨g,5,none⟩ v5) s m L X :=
 ⟨((((((h.set 0 v0).set 1 v1).set 2 v2).set 3 v3).set 4 v4).set 5 v5),(((((((Fg.refl _ _).trans (Fg.set h (by decide) 0 _)).trans (Fg.set (h.set 0 v0) (by decide) 1 _)).trans (Fg.set ((h.set 0 v0).set 1 v1) (by decide) 2 _)).trans (Fg.set (((h.set 0 v0).set 1 v1).set 2 v2) (by decide) 3 _)).trans (Fg.set ((((h.set 0 v0).set 1 v1).set 2 v2).set 3 v3) (by decide) 4 _)).trans (Fg.set (((((h.set 0 v0).set 1 v1).set 2 v2).set 3 v3).set 4 v4) (by decide) 5 _)),(((((((Below.refl _ _).setCell (p:=⟨g,0,none⟩) (Nat.le_refl _) _).setCell (p:=⟨g,1,none⟩) (Nat.le_refl _) _).setCell (p:=⟨g,2,none⟩) (Nat.le_refl _) _).setCell (p:=⟨g,3,none⟩) (Nat.le_refl _) _).setCell (p:=⟨g,4,none⟩) (Nat.le_refl _) _).setCell (p:=⟨g,5,none⟩) (Nat.le_refl _) _),fun Z s m L X hi hz=>((((((hi.setN h (by decide) hz).setN (h.set 0 v0) (by decide) hz).setN ((h.set 0 v0).set 1 v1) (by decide) hz).setN (((h.set 0 v0).set 1 v1).set 2 v2) (by decide) hz).setN ((((h.set 0 v0).set 1 v1).set 2 v2).set 3 v3) (by decide) hz).setN (((((h.set 0 v0).set 1 v1).set 2 v2).set 3 v3).set 4 v4) (by decide) hz)⟩
theorem br_DeliverG (B:Nat) (A:Ad) (w:World) (age:Nat) (D:Dk) (cur hand is fr to_ cur2 hand2:Int) (q:It) (hcu:0≤cur∧cur≤1099511627776) (hnx:NextIs (kk l5 [q5]) (getI [q5]) 1 cur is fr to_ q) (hmax:max cur to_=cur2) (hbr:(is=1∧hand2=fr)∨(is≠1∧hand2=hand)) (h:Bk0 B A w age D true cur hand) (Z:Nat→Prop) (hz:¬ Z A.gst) (hi:Imp Z w A.s A.m l5 [q5]):Calls Tryz.prog 11 #[.pointer (some ⟨A.gb,0,none⟩),.int .i64 1] w fun e w'=>(∃ ba bc,e=.returned (.tuple #[.agg #[.int .i64 is,.int .i64 fr,.int .i64 to_,.int .i64 q.tick,.int .u32 q.for_,.slice ba q.body.length bc],.int .i64 0]))∧Bk0 B A w' age D true cur2 hand2∧(∃ Z':Nat→Prop,¬ Z' A.gst∧Imp Z' w' A.s A.m l5 [q5])∧Below B w w'∧Fg seT w w':=by
 have HCU:Hid (0≤cur∧cur≤1099511627776):=hcu
 have HNI:Hid (NextIs (kk l5 [q5]) (getI [q5]) 1 cur is fr to_ q):=hnx
 have HMX:Hid (max cur to_=cur2):=hmax
 have HBR:Hid ((is=1∧hand2=fr)∨(is≠1∧hand2=hand)):=hbr
 clear hcu hnx hmax hbr
 have HB:Hid (Bk0 B A w age D true cur hand):=h
 have HI:Hid (Imp Z w A.s A.m l5 [q5]):=hi
 have HGS:Hid (A.gst<w.heap.size):=h.core.seat.lt
 obtain ⟨Z',HZ'⟩:∃ Z':Nat→Prop,Hid (Z'=fun k=>(Z k∧k<w.heap.size)∨w.heap.size<k):=⟨_,rfl⟩
 have HZN:Hid (¬ Z' A.gst∧¬ Z' w.heap.size):=by
  (show _∧_)
  rw [HZ'.out]
  have:=HGS.out
  exact ⟨fun h=>h.elim (fun h=>hz h.1) (fun h=>by omega),fun h=>h.elim (fun h=>by have:=h.2;omega) (fun h=>by omega)⟩
 obtain ⟨W1,HW1⟩:∃ W,Hid (W=w.alloc (.cells #[.int .i64 0,.int .i64 0,.int .i64 0,.int .i64 0,.int .u32 0,.slice none 0 0] 53)):=⟨_,rfl⟩
 have HX1:Hid (Below w.heap.size w W1):=by (show Below _ _ _);rw [HW1.out];exact below_alloc _ _
 have HK1:Hid (Row1 W1 w.heap.size 53 [.int .i64 0,.int .i64 0,.int .i64 0,.int .i64 0,.int .u32 0,.slice none 0 0]):=by (show Row1 _ _ _ _);rw [HW1.out];exact Row1.of (Blk.new _ _ _)
 have HLI:=bk_linked1 B A W1 age D cur hand (h.stay HX1.out)
 have HI1:Hid (Imp Z' W1 A.s A.m l5 [q5]):=hi.overB HX1.out (fun k hk hk2=>by rw [HZ'.out];exact .inl ⟨hk2,hk⟩) (fun k hk=>by rw [HZ'.out];refine .inr ?_;have:=HK1.out.lt;omega)
 clear h hi hz
 go_enter Tryz.func11,Tryz.ntmps11
 go_upto_region 1 with fail
 rw [← HW1.out]
 go_wp2_with fail
 refine HLI.mono ?_
 rintro e w2 ⟨rfl,hb2⟩
 have HX2:Hid (Below w.heap.size w w2):=HX1.out.trans (hb2.mono HX1.out.size)
 have HK2:Hid (Row1 w2 w.heap.size 53 [.int .i64 0,.int .i64 0,.int .i64 0,.int .i64 0,.int .u32 0,.slice none 0 0]):=HK1.out.stay hb2
 have HB2:Hid (Bk0 B A w2 age D true cur hand):=HB.out.stay HX2.out
 have HI2:Hid (Imp Z' w2 A.s A.m l5 [q5]):=HI1.out.stay hb2
 clear hb2 HLI
 have HSK:Hid (∀ w':World,Below w2.heap.size w2 w'→(w'.cell? ⟨A.gb,9,none⟩=some (.map (some A.mp)))∧(w'.cell? ⟨A.gst,2,none⟩=some (.int .i64 0))∧(w'.cell? ⟨A.q,1,none⟩=some (.pointer (some ⟨A.s,0,none⟩)))∧(w'.cell? ⟨A.gst,4,none⟩=some (.int .i64 cur))∧((Instr.lookup 76 (.map (some A.mp)) (.int .i64 0) false).run Tryz.prog w'=.ok (.pointer (some ⟨A.q,0,none⟩)) w')):=fun w' hb=>by
  have hc:=(HB2.out.stay hb).core
  have hlk:=look_part hc.parts (t:=0) (by omega)
  exact ⟨hc.bro.cell 9 rfl,hc.seat.cell 2 rfl,hc.part.cell 1 rfl,hc.seat.cell 4 rfl,hlk⟩
 have hsh:∀ W,(Op.shift BinOp.shl IntKind.u32 1 IntKind.i64 (IntKind.i64.wrap (1 - 1))).run Tryz.prog W=.ok (.int .u32 1) W:=fun W=>rfl
 have HNX:Hid (∀ W:World,Below w2.heap.size w2 W→Calls Tryz.prog 43 #[.pointer (some ⟨A.s,0,none⟩),.int .i64 cur,.int .i64 1] W fun e w'=>∃ ba bc,e=.returned (.tuple #[.agg #[.int .i64 is,.int .i64 fr,.int .i64 to_,.int .i64 q.tick,.int .u32 q.for_,.slice ba q.body.length bc],.int .i64 0])∧Below W.heap.size W w'):=fun W hb=>by
  obtain ⟨l,⟨a,n,c,X,hs⟩,hk⟩:=HI2.out.stay hb
  refine (st_Next hs (t:=cur) (id:=1) (lk:=1) HCU.out (by decide) hsh).mono ?_
  rintro e w' ⟨⟨is',fr',to',q',ba,bc,rfl,hn,_⟩,hbb⟩
  have hk':atS l=kk l5 [q5]:=funext hk
  rw [hk'] at hn
  obtain ⟨rfl,rfl,rfl,rfl⟩:=hn.uniq HNI.out
  exact ⟨ba,bc,rfl,hbb⟩
 clear hsh
 go_upto_region 4 with fail
 go_cut [8,9] from 20 (fun v8 v9 wx=>∃ (g8:Nat) (ba:Option Addr) (bc:Nat),v8=.pointer (some ⟨g8,0,none⟩)∧v9=.int .i64 0∧Hid (w2.heap.size≤g8)∧Hid (Row1 wx g8 53 [.int .i64 is,.int .i64 fr,.int .i64 to_,.int .i64 q.tick,.int .u32 q.for_,.slice ba q.body.length bc])∧Hid (Below w2.heap.size w2 wx))
 case first =>
  rename_i hJ hM
  have HD0:Hid (Below w2.heap.size w2 w2.drew):=(Below.refl _ _).drew
  have HD1:Hid (Below w2.heap.size w2 (w2.alloc (.cells #[.int .i64 0,.int .i64 0,.int .i64 0,.int .i64 0,.int .u32 0,.slice none 0 0] 53)).drew):=(below_alloc w2 _).drew
  have HKZ:Hid (Row1 (w2.alloc (.cells #[.int .i64 0,.int .i64 0,.int .i64 0,.int .i64 0,.int .u32 0,.slice none 0 0] 53)).drew w2.heap.size 53 [.int .i64 0,.int .i64 0,.int .i64 0,.int .i64 0,.int .u32 0,.slice none 0 0]):=(Row1.of (Blk.new w2 _ _)).stay (Below.refl _ _).drew
  have HMM4:Hid (∀ i,i≠22→∀ L w',SL (fun w'=>(w'.cell? ⟨A.gb,9,none⟩=some (.map (some A.mp)))∧(w'.cell? ⟨A.gst,2,none⟩=some (.int .i64 0))∧(w'.cell? ⟨A.q,1,none⟩=some (.pointer (some ⟨A.s,0,none⟩)))∧(w'.cell? ⟨A.gst,4,none⟩=some (.int .i64 cur))∧((Instr.lookup 76 (.map (some A.mp)) (.int .i64 0) false).run Tryz.prog w'=.ok (.pointer (some ⟨A.q,0,none⟩)) w')) 22 (L.setIfInBounds i true) w'↔SL (fun w'=>(w'.cell? ⟨A.gb,9,none⟩=some (.map (some A.mp)))∧(w'.cell? ⟨A.gst,2,none⟩=some (.int .i64 0))∧(w'.cell? ⟨A.q,1,none⟩=some (.pointer (some ⟨A.s,0,none⟩)))∧(w'.cell? ⟨A.gst,4,none⟩=some (.int .i64 cur))∧((Instr.lookup 76 (.map (some A.mp)) (.int .i64 0) false).run Tryz.prog w'=.ok (.pointer (some ⟨A.q,0,none⟩)) w')) 22 L w'):=SL.ind _ 22
  refine wp_region_L (S:=SL (fun w'=>(w'.cell? ⟨A.gb,9,none⟩=some (.map (some A.mp)))∧(w'.cell? ⟨A.gst,2,none⟩=some (.int .i64 0))∧(w'.cell? ⟨A.q,1,none⟩=some (.pointer (some ⟨A.s,0,none⟩)))∧(w'.cell? ⟨A.gst,4,none⟩=some (.int .i64 cur))∧((Instr.lookup 76 (.map (some A.mp)) (.int .i64 0) false).run Tryz.prog w'=.ok (.pointer (some ⟨A.q,0,none⟩)) w')) 22) (by kernel_rfl) (fun _=>(HSK.out _ HD0.out)) (fun hS0 => ?_)
  refine tkL (i:=0) 22 (some 21) (v:=?_) hS0 (HMM4.out 0 (by decide)) ?_ ?_
  rotate_left
  ·(intro wS hSw;obtain ⟨L,hL,hSL⟩:=hSw;obtain ⟨y0,y1,y2,y3,y4⟩:=hSL hL;clear hSL;go_simp;try with_reducible rfl)
  try simp only [Act.put,List.setIfInBounds_toArray,List.set_cons_zero,List.set_cons_succ]
  refine tkL (i:=1) 22 (some 22) (v:=?_) hS0 (HMM4.out 1 (by decide)) ?_ ?_
  rotate_left
  ·(intro wS hSw;obtain ⟨L,hL,hSL⟩:=hSw;obtain ⟨y0,y1,y2,y3,y4⟩:=hSL hL;clear hSL;go_simp;try with_reducible rfl)
  try simp only [Act.put,List.setIfInBounds_toArray,List.set_cons_zero,List.set_cons_succ]
  refine tkL (i:=2) 22 (some 23) (v:=?_) hS0 (HMM4.out 2 (by decide)) ?_ ?_
  rotate_left
  ·(intro wS hSw;obtain ⟨L,hL,hSL⟩:=hSw;obtain ⟨y0,y1,y2,y3,y4⟩:=hSL hL;clear hSL;go_simp;try with_reducible rfl)
  try simp only [Act.put,List.setIfInBounds_toArray,List.set_cons_zero,List.set_cons_succ]
  refine tkL (i:=3) 22 (some 24) (v:=?_) hS0 (HMM4.out 3 (by decide)) ?_ ?_
  rotate_left
  ·(intro wS hSw;obtain ⟨L,hL,hSL⟩:=hSw;obtain ⟨y0,y1,y2,y3,y4⟩:=hSL hL;clear hSL;go_simp;try with_reducible rfl)
  try simp only [Act.put,List.setIfInBounds_toArray,List.set_cons_zero,List.set_cons_succ]
  refine tkL (i:=4) 22 (some 25) (v:=?_) hS0 (HMM4.out 4 (by decide)) ?_ ?_
  rotate_left
  ·(intro wS hSw;obtain ⟨L,hL,hSL⟩:=hSw;obtain ⟨y0,y1,y2,y3,y4⟩:=hSL hL;clear hSL;go_simp;try with_reducible rfl)
  try simp only [Act.put,List.setIfInBounds_toArray,List.set_cons_zero,List.set_cons_succ]
  refine tkL (i:=5) 22 (some 26) (v:=?_) hS0 (HMM4.out 5 (by decide)) ?_ ?_
  rotate_left
  ·(intro wS hSw;obtain ⟨L,hL,hSL⟩:=hSw;obtain ⟨y0,y1,y2,y3,y4⟩:=hSL hL;clear hSL;go_simp;try with_reducible rfl)
  try simp only [Act.put,List.setIfInBounds_toArray,List.set_cons_zero,List.set_cons_succ]
  refine tkL (i:=6) 22 (some 27) (v:=?_) hS0 (HMM4.out 6 (by decide)) ?_ ?_
  rotate_left
  ·(intro wS hSw;obtain ⟨L,hL,hSL⟩:=hSw;obtain ⟨y0,y1,y2,y3,y4⟩:=hSL hL;clear hSL;go_simp;try with_reducible rfl)
  try simp only [Act.put,List.setIfInBounds_toArray,List.set_cons_zero,List.set_cons_succ]
  refine tkL (i:=7) 22 (some 28) (v:=?_) hS0 (HMM4.out 7 (by decide)) ?_ ?_
  rotate_left
  ·(intro wS hSw;obtain ⟨L,hL,hSL⟩:=hSw;obtain ⟨y0,y1,y2,y3,y4⟩:=hSL hL;clear hSL;go_simp;try with_reducible rfl)
  try simp only [Act.put,List.setIfInBounds_toArray,List.set_cons_zero,List.set_cons_succ]
  refine tkL (i:=8) 22 (some 29) (v:=?_) hS0 (HMM4.out 8 (by decide)) ?_ ?_
  rotate_left
  ·(intro wS hSw;obtain ⟨L,hL,hSL⟩:=hSw;obtain ⟨y0,y1,y2,y3,y4⟩:=hSL hL;clear hSL;go_simp;try with_reducible rfl)
  try simp only [Act.put,List.setIfInBounds_toArray,List.set_cons_zero,List.set_cons_succ]
  refine tkL (i:=9) 22 (some 30) (v:=?_) hS0 (HMM4.out 9 (by decide)) ?_ ?_
  rotate_left
  ·(intro wS hSw;obtain ⟨L,hL,hSL⟩:=hSw;obtain ⟨y0,y1,y2,y3,y4⟩:=hSL hL;clear hSL;go_simp;try with_reducible rfl)
  try simp only [Act.put,List.setIfInBounds_toArray,List.set_cons_zero,List.set_cons_succ]
  refine tkL (i:=10) 22 (some 31) (v:=?_) hS0 (HMM4.out 10 (by decide)) ?_ ?_
  rotate_left
  ·(intro wS hSw;obtain ⟨L,hL,hSL⟩:=hSw;obtain ⟨y0,y1,y2,y3,y4⟩:=hSL hL;clear hSL;go_simp;try with_reducible rfl)
  try simp only [Act.put,List.setIfInBounds_toArray,List.set_cons_zero,List.set_cons_succ]
  refine tkL (i:=11) 22 (some 32) (v:=?_) hS0 (HMM4.out 11 (by decide)) ?_ ?_
  rotate_left
  ·(intro wS hSw;obtain ⟨L,hL,hSL⟩:=hSw;obtain ⟨y0,y1,y2,y3,y4⟩:=hSL hL;clear hSL;go_simp;try with_reducible rfl)
  try simp only [Act.put,List.setIfInBounds_toArray,List.set_cons_zero,List.set_cons_succ]
  refine tkL (i:=12) 22 (some 33) (v:=?_) hS0 (HMM4.out 12 (by decide)) ?_ ?_
  rotate_left
  ·(intro wS hSw;obtain ⟨L,hL,hSL⟩:=hSw;obtain ⟨y0,y1,y2,y3,y4⟩:=hSL hL;clear hSL;go_simp;try with_reducible rfl)
  try simp only [Act.put,List.setIfInBounds_toArray,List.set_cons_zero,List.set_cons_succ]
  refine tkL (i:=13) 22 (some 34) (v:=?_) hS0 (HMM4.out 13 (by decide)) ?_ ?_
  rotate_left
  ·(intro wS hSw;obtain ⟨L,hL,hSL⟩:=hSw;obtain ⟨y0,y1,y2,y3,y4⟩:=hSL hL;clear hSL;go_simp;try with_reducible rfl)
  try simp only [Act.put,List.setIfInBounds_toArray,List.set_cons_zero,List.set_cons_succ]
  refine tkL (i:=14) 22 (some 35) (v:=?_) hS0 (HMM4.out 14 (by decide)) ?_ ?_
  rotate_left
  ·(intro wS hSw;obtain ⟨L,hL,hSL⟩:=hSw;obtain ⟨y0,y1,y2,y3,y4⟩:=hSL hL;clear hSL;go_simp;try with_reducible rfl)
  try simp only [Act.put,List.setIfInBounds_toArray,List.set_cons_zero,List.set_cons_succ]
  refine tkL (i:=15) 22 (some 36) (v:=?_) hS0 (HMM4.out 15 (by decide)) ?_ ?_
  rotate_left
  ·(intro wS hSw;obtain ⟨L,hL,hSL⟩:=hSw;obtain ⟨y0,y1,y2,y3,y4⟩:=hSL hL;clear hSL;go_simp;try with_reducible rfl)
  try simp only [Act.put,List.setIfInBounds_toArray,List.set_cons_zero,List.set_cons_succ]
  refine tkL (i:=16) 22 (some 37) (v:=?_) hS0 (HMM4.out 16 (by decide)) ?_ ?_
  rotate_left
  ·(intro wS hSw;obtain ⟨L,hL,hSL⟩:=hSw;obtain ⟨y0,y1,y2,y3,y4⟩:=hSL hL;clear hSL;go_simp;try with_reducible rfl)
  try simp only [Act.put,List.setIfInBounds_toArray,List.set_cons_zero,List.set_cons_succ]
  refine anyL_two (i:=17) (j:=21) (by kernel_rfl) rfl rfl (fun K' hK => ?_) (fun K' hK => ?_)
  ·go_simp
   refine (HNX.out w2.drew HD0.out).mono ?_
   rintro e ya ⟨ba,bc,rfl,hba⟩
   have HXa:Hid (Below w2.heap.size w2 ya):=HD0.out.trans (hba.mono HD0.out.size)
   clear hba
   refine hK.out _ _ (fun _=>HSK.out ya HXa.out) (fun hS17 => ?_)
   clear hK K'
   try simp only [Act.put,List.getElem_toArray,List.getElem_cons_succ,List.getElem_cons_zero,List.setIfInBounds_toArray,List.set_cons_zero,List.set_cons_succ]
   refine tkL (i:=18) 22 (some 20) (v:=?_) hS17 (HMM4.out 18 (by decide)) ?_ ?_
   rotate_left
   ·(intro wS hSw;obtain ⟨L,hL,hSL⟩:=hSw;obtain ⟨y0,y1,y2,y3,y4⟩:=hSL hL;clear hSL;go_simp;try with_reducible rfl)
   try simp only [Act.put,List.setIfInBounds_toArray,List.set_cons_zero,List.set_cons_succ]
   refine tkL (i:=19) 22 (some 39) (v:=?_) hS17 (HMM4.out 19 (by decide)) ?_ ?_
   rotate_left
   ·(intro wS hSw;obtain ⟨L,hL,hSL⟩:=hSw;obtain ⟨y0,y1,y2,y3,y4⟩:=hSL hL;clear hSL;go_simp;try with_reducible rfl)
   try simp only [Act.put,List.setIfInBounds_toArray,List.set_cons_zero,List.set_cons_succ]
   refine tkL (i:=20) 23 (some 40) (v:=?_) hS17 (HMM4.out 20 (by decide)) ?_ ?_
   rotate_left
   ·(intro wS hSw;obtain ⟨L,hL,hSL⟩:=hSw;clear hSL;go_simp;try with_reducible rfl)
   try simp only [Act.put,List.setIfInBounds_toArray,List.set_cons_zero,List.set_cons_succ]
   have HKb:Hid (Row1 (ya.alloc (.cells #[.int .i64 0,.int .i64 0,.int .i64 0,.int .i64 0,.int .u32 0,.slice none 0 0] 53)) ya.heap.size 53 [.int .i64 0,.int .i64 0,.int .i64 0,.int .i64 0,.int .u32 0,.slice none 0 0]):=Row1.of (Blk.new ya _ _)
   have HXb:Hid (Below w2.heap.size w2 (ya.alloc (.cells #[.int .i64 0,.int .i64 0,.int .i64 0,.int .i64 0,.int .u32 0,.slice none 0 0] 53))):=HXa.out.trans ((below_alloc ya _).mono HXa.out.size)
   refine anyL_one (i:=21) (by kernel_rfl) rfl (fun K' hK => ?_)
   go_simp
   refine hK.out _ _ (fun _=>HSK.out _ HXb.out) (fun hS21 => ?_)
   clear hK K'
   try simp only [Act.put,List.getElem_toArray,List.getElem_cons_succ,List.getElem_cons_zero,List.setIfInBounds_toArray,List.set_cons_zero,List.set_cons_succ]
   have m0:(ya.alloc (.cells #[.int .i64 0,.int .i64 0,.int .i64 0,.int .i64 0,.int .u32 0,.slice none 0 0] 53)).cell? ⟨ya.heap.size,0,none⟩=some (.int .i64 0):=HKb.out.cell 0 rfl
   have f0:(ya.alloc (.cells #[.int .i64 0,.int .i64 0,.int .i64 0,.int .i64 0,.int .u32 0,.slice none 0 0] 53)).frozen? ⟨ya.heap.size,0,none⟩=false:=HKb.out.free 0
   have m1:(ya.alloc (.cells #[.int .i64 0,.int .i64 0,.int .i64 0,.int .i64 0,.int .u32 0,.slice none 0 0] 53)).cell? ⟨ya.heap.size,1,none⟩=some (.int .i64 0):=HKb.out.cell 1 rfl
   have f1:(ya.alloc (.cells #[.int .i64 0,.int .i64 0,.int .i64 0,.int .i64 0,.int .u32 0,.slice none 0 0] 53)).frozen? ⟨ya.heap.size,1,none⟩=false:=HKb.out.free 1
   have m2:(ya.alloc (.cells #[.int .i64 0,.int .i64 0,.int .i64 0,.int .i64 0,.int .u32 0,.slice none 0 0] 53)).cell? ⟨ya.heap.size,2,none⟩=some (.int .i64 0):=HKb.out.cell 2 rfl
   have f2:(ya.alloc (.cells #[.int .i64 0,.int .i64 0,.int .i64 0,.int .i64 0,.int .u32 0,.slice none 0 0] 53)).frozen? ⟨ya.heap.size,2,none⟩=false:=HKb.out.free 2
   have m3:(ya.alloc (.cells #[.int .i64 0,.int .i64 0,.int .i64 0,.int .i64 0,.int .u32 0,.slice none 0 0] 53)).cell? ⟨ya.heap.size,3,none⟩=some (.int .i64 0):=HKb.out.cell 3 rfl
   have f3:(ya.alloc (.cells #[.int .i64 0,.int .i64 0,.int .i64 0,.int .i64 0,.int .u32 0,.slice none 0 0] 53)).frozen? ⟨ya.heap.size,3,none⟩=false:=HKb.out.free 3
   have m4:(ya.alloc (.cells #[.int .i64 0,.int .i64 0,.int .i64 0,.int .i64 0,.int .u32 0,.slice none 0 0] 53)).cell? ⟨ya.heap.size,4,none⟩=some (.int .u32 0):=HKb.out.cell 4 rfl
   have f4:(ya.alloc (.cells #[.int .i64 0,.int .i64 0,.int .i64 0,.int .i64 0,.int .u32 0,.slice none 0 0] 53)).frozen? ⟨ya.heap.size,4,none⟩=false:=HKb.out.free 4
   have m5:(ya.alloc (.cells #[.int .i64 0,.int .i64 0,.int .i64 0,.int .i64 0,.int .u32 0,.slice none 0 0] 53)).cell? ⟨ya.heap.size,5,none⟩=some (.slice none 0 0):=HKb.out.cell 5 rfl
   have f5:(ya.alloc (.cells #[.int .i64 0,.int .i64 0,.int .i64 0,.int .i64 0,.int .u32 0,.slice none 0 0] 53)).frozen? ⟨ya.heap.size,5,none⟩=false:=HKb.out.free 5
   have HXs:Hid (Below w2.heap.size w2 (ya.alloc (.cells #[.int .i64 is,.int .i64 fr,.int .i64 to_,.int .i64 q.tick,.int .u32 q.for_,.slice ba q.body.length bc] 53))):=HXa.out.trans ((below_alloc ya _).mono HXa.out.size)
   have HKs:Hid (Row1 (ya.alloc (.cells #[.int .i64 is,.int .i64 fr,.int .i64 to_,.int .i64 q.tick,.int .u32 q.for_,.slice ba q.body.length bc] 53)) ya.heap.size 53 [.int .i64 is,.int .i64 fr,.int .i64 to_,.int .i64 q.tick,.int .u32 q.for_,.slice ba q.body.length bc]):=Row1.of (Blk.new ya _ _)
   have HGs:Hid (w2.heap.size≤ya.heap.size):=HXa.out.size
   refine anyL_one (i:=22) (by kernel_rfl) rfl (fun K' hK => ?_)
   go_simp
   refine hK.out _ _ SL.gone (fun hS22 => ?_)
   clear hK K'
   try simp only [Act.put,List.getElem_toArray,List.getElem_cons_succ,List.getElem_cons_zero,List.setIfInBounds_toArray,List.set_cons_zero,List.set_cons_succ]
   refine anyL_one (i:=23) (by kernel_rfl) rfl (fun K' hK => ?_)
   go_simp
   refine hK.out _ _ SL.gone (fun hS23 => ?_)
   clear hK K'
   try simp only [Act.put,List.getElem_toArray,List.getElem_cons_succ,List.getElem_cons_zero,List.setIfInBounds_toArray,List.set_cons_zero,List.set_cons_succ]
   refine anyL_done (by kernel_rfl) ?_ _
   refine hM _ _ ?_
   go_meet
   exact ⟨_,ba,bc,rfl,rfl,HGs.out,HKs.out,HXs.out⟩
  ·go_simp
   refine hK.out _ _ (fun _=>HSK.out _ HD1.out) (fun hS21 => ?_)
   clear hK K'
   try simp only [Act.put,List.getElem_toArray,List.getElem_cons_succ,List.getElem_cons_zero,List.setIfInBounds_toArray,List.set_cons_zero,List.set_cons_succ]
   refine anyL_one (i:=17) (by kernel_rfl) rfl (fun K' hK => ?_)
   go_simp
   refine (HNX.out _ HD1.out).mono ?_
   rintro e ya ⟨ba,bc,rfl,hba⟩
   have HXa:Hid (Below w2.heap.size w2 ya):=HD1.out.trans (hba.mono HD1.out.size)
   have HKa:Hid (Row1 ya w2.heap.size 53 [.int .i64 0,.int .i64 0,.int .i64 0,.int .i64 0,.int .u32 0,.slice none 0 0]):=HKZ.out.stay hba
   clear hba
   refine hK.out _ _ (fun _=>HSK.out ya HXa.out) (fun hS17 => ?_)
   clear hK K'
   try simp only [Act.put,List.getElem_toArray,List.getElem_cons_succ,List.getElem_cons_zero,List.setIfInBounds_toArray,List.set_cons_zero,List.set_cons_succ]
   refine tkL (i:=18) 22 (some 20) (v:=?_) hS17 (HMM4.out 18 (by decide)) ?_ ?_
   rotate_left
   ·(intro wS hSw;obtain ⟨L,hL,hSL⟩:=hSw;obtain ⟨y0,y1,y2,y3,y4⟩:=hSL hL;clear hSL;go_simp;try with_reducible rfl)
   try simp only [Act.put,List.setIfInBounds_toArray,List.set_cons_zero,List.set_cons_succ]
   refine tkL (i:=19) 22 (some 39) (v:=?_) hS17 (HMM4.out 19 (by decide)) ?_ ?_
   rotate_left
   ·(intro wS hSw;obtain ⟨L,hL,hSL⟩:=hSw;obtain ⟨y0,y1,y2,y3,y4⟩:=hSL hL;clear hSL;go_simp;try with_reducible rfl)
   try simp only [Act.put,List.setIfInBounds_toArray,List.set_cons_zero,List.set_cons_succ]
   refine tkL (i:=20) 23 (some 40) (v:=?_) hS17 (HMM4.out 20 (by decide)) ?_ ?_
   rotate_left
   ·(intro wS hSw;obtain ⟨L,hL,hSL⟩:=hSw;clear hSL;go_simp;try with_reducible rfl)
   try simp only [Act.put,List.setIfInBounds_toArray,List.set_cons_zero,List.set_cons_succ]
   have m0:ya.cell? ⟨w2.heap.size,0,none⟩=some (.int .i64 0):=HKa.out.cell 0 rfl
   have f0:ya.frozen? ⟨w2.heap.size,0,none⟩=false:=HKa.out.free 0
   have m1:ya.cell? ⟨w2.heap.size,1,none⟩=some (.int .i64 0):=HKa.out.cell 1 rfl
   have f1:ya.frozen? ⟨w2.heap.size,1,none⟩=false:=HKa.out.free 1
   have m2:ya.cell? ⟨w2.heap.size,2,none⟩=some (.int .i64 0):=HKa.out.cell 2 rfl
   have f2:ya.frozen? ⟨w2.heap.size,2,none⟩=false:=HKa.out.free 2
   have m3:ya.cell? ⟨w2.heap.size,3,none⟩=some (.int .i64 0):=HKa.out.cell 3 rfl
   have f3:ya.frozen? ⟨w2.heap.size,3,none⟩=false:=HKa.out.free 3
   have m4:ya.cell? ⟨w2.heap.size,4,none⟩=some (.int .u32 0):=HKa.out.cell 4 rfl
   have f4:ya.frozen? ⟨w2.heap.size,4,none⟩=false:=HKa.out.free 4
   have m5:ya.cell? ⟨w2.heap.size,5,none⟩=some (.slice none 0 0):=HKa.out.cell 5 rfl
   have f5:ya.frozen? ⟨w2.heap.size,5,none⟩=false:=HKa.out.free 5
   have h6:=step6 (.int .i64 is) (.int .i64 fr) (.int .i64 to_) (.int .i64 q.tick) (.int .u32 q.for_) (.slice ba q.body.length bc) HKa.out
   have HXs:=(show Hid _ from HXa.out.trans h6.2.2.1)
   have HKs:=(show Hid _ from h6.1)
   have HGs:Hid (w2.heap.size≤w2.heap.size):=Nat.le_refl _;clear h6
   refine anyL_one (i:=22) (by kernel_rfl) rfl (fun K' hK => ?_)
   go_simp
   refine hK.out _ _ SL.gone (fun hS22 => ?_)
   clear hK K'
   try simp only [Act.put,List.getElem_toArray,List.getElem_cons_succ,List.getElem_cons_zero,List.setIfInBounds_toArray,List.set_cons_zero,List.set_cons_succ]
   refine anyL_one (i:=23) (by kernel_rfl) rfl (fun K' hK => ?_)
   go_simp
   refine hK.out _ _ SL.gone (fun hS23 => ?_)
   clear hK K'
   try simp only [Act.put,List.getElem_toArray,List.getElem_cons_succ,List.getElem_cons_zero,List.setIfInBounds_toArray,List.set_cons_zero,List.set_cons_succ]
   refine anyL_done (by kernel_rfl) ?_ _
   refine hM _ _ ?_
   go_meet
   exact ⟨_,ba,bc,rfl,rfl,HGs.out,HKs.out,HXs.out⟩
 case rest =>
 obtain ⟨g8,ba,bc,hv8,hv9,hG,hP,hX⟩:=hcut
 obtain ⟨W4,hW4⟩:∃ W,W=wc:=⟨_,rfl⟩
 subst hW4
 subst hv8
 subst hv9
 have HG8:Hid (w2.heap.size≤g8):=hG
 have HK8:Hid (Row1 W4 g8 53 [.int .i64 is,.int .i64 fr,.int .i64 to_,.int .i64 q.tick,.int .u32 q.for_,.slice ba q.body.length bc]):=hP
 have HX4:Hid (Below w2.heap.size w2 W4):=hX
 clear hG hP hX
 have HB4:Hid (Bk0 B A W4 age D true cur hand):=HB2.out.stay HX4.out
 have HI4:Hid (Imp Z' W4 A.s A.m l5 [q5]):=HI2.out.stay HX4.out
 have c4:W4.cell? ⟨A.gst,4,none⟩=some (.int .i64 cur):=HB4.out.core.seat.cell 4 rfl
 have f4:W4.frozen? ⟨A.gst,4,none⟩=false:=HB4.out.core.seat.free 4
 have k2:W4.cell? ⟨g8,2,none⟩=some (.int .i64 to_):=HK8.out.cell 2 rfl
 have hmax:=HMX.out
 go_wp2_with fail
 have HMM:Hid (∀ i,i≠10→∀ L w',SL (fun w'=>(w'.cell? ⟨A.gst,4,none⟩=some (.int .i64 cur))∧(w'.cell? ⟨g8,2,none⟩=some (.int .i64 to_))) 10 (L.setIfInBounds i true) w'↔SL (fun w'=>(w'.cell? ⟨A.gst,4,none⟩=some (.int .i64 cur))∧(w'.cell? ⟨g8,2,none⟩=some (.int .i64 to_))) 10 L w'):=SL.ind _ 10
 refine wp_region_L (S:=SL (fun w'=>(w'.cell? ⟨A.gst,4,none⟩=some (.int .i64 cur))∧(w'.cell? ⟨g8,2,none⟩=some (.int .i64 to_))) 10) (by kernel_rfl) (fun _=>⟨c4,k2⟩) (fun hS0 => ?_)
 refine tkL (i:=0) 10 (some 41) (v:=?_) hS0 (HMM.out 0 (by decide)) ?_ ?_
 rotate_left
 ·(intro wS hSw;obtain ⟨L,hL,hSL⟩:=hSw;obtain ⟨y0,y1⟩:=hSL hL;clear hSL;go_simp;try with_reducible rfl)
 try simp only [Act.put,List.setIfInBounds_toArray,List.set_cons_zero,List.set_cons_succ]
 refine tkL (i:=1) 10 (some 42) (v:=?_) hS0 (HMM.out 1 (by decide)) ?_ ?_
 rotate_left
 ·(intro wS hSw;obtain ⟨L,hL,hSL⟩:=hSw;obtain ⟨y0,y1⟩:=hSL hL;clear hSL;go_simp;try with_reducible rfl)
 try simp only [Act.put,List.setIfInBounds_toArray,List.set_cons_zero,List.set_cons_succ]
 refine tkL (i:=2) 10 (some 43) (v:=?_) hS0 (HMM.out 2 (by decide)) ?_ ?_
 rotate_left
 ·(intro wS hSw;obtain ⟨L,hL,hSL⟩:=hSw;obtain ⟨y0,y1⟩:=hSL hL;clear hSL;go_simp;try with_reducible rfl)
 try simp only [Act.put,List.setIfInBounds_toArray,List.set_cons_zero,List.set_cons_succ]
 refine tkL (i:=3) 10 (some 44) (v:=?_) hS0 (HMM.out 3 (by decide)) ?_ ?_
 rotate_left
 ·(intro wS hSw;obtain ⟨L,hL,hSL⟩:=hSw;obtain ⟨y0,y1⟩:=hSL hL;clear hSL;go_simp;try with_reducible rfl)
 try simp only [Act.put,List.setIfInBounds_toArray,List.set_cons_zero,List.set_cons_succ]
 refine tkL (i:=4) 10 (some 45) (v:=?_) hS0 (HMM.out 4 (by decide)) ?_ ?_
 rotate_left
 ·(intro wS hSw;obtain ⟨L,hL,hSL⟩:=hSw;obtain ⟨y0,y1⟩:=hSL hL;clear hSL;go_simp;try with_reducible rfl)
 try simp only [Act.put,List.setIfInBounds_toArray,List.set_cons_zero,List.set_cons_succ]
 refine tkL (i:=5) 10 (some 46) (v:=?_) hS0 (HMM.out 5 (by decide)) ?_ ?_
 rotate_left
 ·(intro wS hSw;obtain ⟨L,hL,hSL⟩:=hSw;obtain ⟨y0,y1⟩:=hSL hL;clear hSL;go_simp;try with_reducible rfl)
 try simp only [Act.put,List.setIfInBounds_toArray,List.set_cons_zero,List.set_cons_succ]
 refine tkL (i:=6) 10 (some 47) (v:=?_) hS0 (HMM.out 6 (by decide)) ?_ ?_
 rotate_left
 ·(intro wS hSw;obtain ⟨L,hL,hSL⟩:=hSw;obtain ⟨y0,y1⟩:=hSL hL;clear hSL;go_simp;try with_reducible rfl)
 try simp only [Act.put,List.setIfInBounds_toArray,List.set_cons_zero,List.set_cons_succ]
 refine tkL (i:=7) 10 (some 48) (v:=?_) hS0 (HMM.out 7 (by decide)) ?_ ?_
 rotate_left
 ·(intro wS hSw;obtain ⟨L,hL,hSL⟩:=hSw;obtain ⟨y0,y1⟩:=hSL hL;clear hSL;go_simp;try with_reducible rfl)
 try simp only [Act.put,List.setIfInBounds_toArray,List.set_cons_zero,List.set_cons_succ]
 refine tkL (i:=8) 9 (some 49) (v:=?_) hS0 (HMM.out 8 (by decide)) ?_ ?_
 rotate_left
 ·(intro wS hSw;obtain ⟨L,hL,hSL⟩:=hSw;clear hSL;go_simp;try with_reducible rfl)
 try simp only [Act.put,List.setIfInBounds_toArray,List.set_cons_zero,List.set_cons_succ]
 refine tkL (i:=9) 10 (some 50) (v:=?_) hS0 (HMM.out 9 (by decide)) ?_ ?_
 rotate_left
 ·(intro wS hSw;obtain ⟨L,hL,hSL⟩:=hSw;obtain ⟨y0,y1⟩:=hSL hL;clear hSL;go_simp;try with_reducible rfl)
 try simp only [Act.put,List.setIfInBounds_toArray,List.set_cons_zero,List.set_cons_succ]
 refine anyL_one (i:=10) (by kernel_rfl) rfl (fun K' hK => ?_)
 go_simp
 refine hK.out _ _ SL.gone (fun hSX => ?_)
 clear hK K'
 try simp only [Act.put,List.getElem_toArray,List.getElem_cons_succ,List.getElem_cons_zero,List.setIfInBounds_toArray,List.set_cons_zero,List.set_cons_succ]
 refine anyL_done (by kernel_rfl) ?_ _
 obtain ⟨W5,HW5⟩:∃ W,Hid (W=W4.setCell ⟨A.gst,4,none⟩ (.int .i64 cur2)):=⟨_,rfl⟩
 have HNE:Hid (w.heap.size≠A.gst∧g8≠A.gst∧g8≠w.heap.size):=by
  have h1:=HGS.out;have h2:=HK2.out.lt;have h3:=HG8.out
  exact ⟨by omega,by omega,by omega⟩
 have HS5:Hid (Row1 W5 A.gst 109 [.pointer (some ⟨A.gc,0,none⟩),.int .i64 1,.int .i64 0,.bool true,.int .i64 cur2,.int .i64 hand]):=by (show Row1 _ _ _ _);rw [HW5.out];exact HB4.out.core.seat.set 4 _
 have HF5:Hid (Fg seT W4 W5):=by (show Fg _ _ _);rw [HW5.out];exact Fg.set HB4.out.core.seat (by decide) 4 _
 have HK5:Hid (Row1 W5 g8 53 [.int .i64 is,.int .i64 fr,.int .i64 to_,.int .i64 q.tick,.int .u32 q.for_,.slice ba q.body.length bc]):=by (show Row1 _ _ _ _);rw [HW5.out];exact HK8.out.other HNE.out.2.1
 have HZ5:Hid (Row1 W5 w.heap.size 53 [.int .i64 0,.int .i64 0,.int .i64 0,.int .i64 0,.int .u32 0,.slice none 0 0]):=by (show Row1 _ _ _ _);rw [HW5.out];exact (HK2.out.stay HX4.out).other HNE.out.1
 have HI5:Hid (Imp Z' W5 A.s A.m l5 [q5]):=by (show Imp _ _ _ _ _ _);rw [HW5.out];exact HI4.out.setN HB4.out.core.seat (by decide) HZN.out.1
 have HX5:Hid (Below B w W5):=by (show Below _ _ _);rw [HW5.out];exact ((HX2.out.trans (HX4.out.mono HX2.out.size)).mono HB.out.core.bw).setCell (p:=⟨A.gst,4,none⟩) HB.out.core.low.1 _
 rw [← HW5.out]
 clear c4 f4 k2
 rcases HBR.out with ⟨h1,h2⟩ | ⟨his,h2⟩
 ·subst h1
  subst h2
  have k0:W5.cell? ⟨g8,0,none⟩=some (.int .i64 1):=HK5.out.cell 0 rfl
  have k1:W5.cell? ⟨g8,1,none⟩=some (.int .i64 hand2):=HK5.out.cell 1 rfl
  have c5:W5.cell? ⟨A.gst,5,none⟩=some (.int .i64 hand):=HS5.out.cell 5 rfl
  have f5:W5.frozen? ⟨A.gst,5,none⟩=false:=HS5.out.free 5
  obtain ⟨W6,HW6⟩:∃ W,Hid (W=W5.setCell ⟨A.gst,5,none⟩ (.int .i64 hand2)):=⟨_,rfl⟩
  have HS6:Hid (Row1 W6 A.gst 109 [.pointer (some ⟨A.gc,0,none⟩),.int .i64 1,.int .i64 0,.bool true,.int .i64 cur2,.int .i64 hand2]):=by (show Row1 _ _ _ _);rw [HW6.out];exact HS5.out.set 5 _
  have HF6:Hid (Fg seT W4 W6):=by (show Fg _ _ _);rw [HW6.out];exact HF5.out.trans (Fg.set HS5.out (by decide) 5 _)
  have HK6:Hid (Row1 W6 g8 53 [.int .i64 1,.int .i64 hand2,.int .i64 to_,.int .i64 q.tick,.int .u32 q.for_,.slice ba q.body.length bc]):=by (show Row1 _ _ _ _);rw [HW6.out];exact HK5.out.other HNE.out.2.1
  have HZ6:Hid (Row1 W6 w.heap.size 53 [.int .i64 0,.int .i64 0,.int .i64 0,.int .i64 0,.int .u32 0,.slice none 0 0]):=by (show Row1 _ _ _ _);rw [HW6.out];exact HZ5.out.other HNE.out.1
  have HI6:Hid (Imp Z' W6 A.s A.m l5 [q5]):=by (show Imp _ _ _ _ _ _);rw [HW6.out];exact HI5.out.setN HS5.out (by decide) HZN.out.1
  have HX6:Hid (Below B w W6):=by (show Below _ _ _);rw [HW6.out];exact HX5.out.setCell (p:=⟨A.gst,5,none⟩) HB.out.core.low.1 _
  go_upto_region 8 with fail
  rw [← HW6.out]
  clear k0 k1 c5 f5
  have k0:W6.cell? ⟨g8,0,none⟩=some (.int .i64 1):=HK6.out.cell 0 rfl
  have k1:W6.cell? ⟨g8,1,none⟩=some (.int .i64 hand2):=HK6.out.cell 1 rfl
  have k2:W6.cell? ⟨g8,2,none⟩=some (.int .i64 to_):=HK6.out.cell 2 rfl
  have k3:W6.cell? ⟨g8,3,none⟩=some (.int .i64 q.tick):=HK6.out.cell 3 rfl
  have k4:W6.cell? ⟨g8,4,none⟩=some (.int .u32 q.for_):=HK6.out.cell 4 rfl
  have k5:W6.cell? ⟨g8,5,none⟩=some (.slice ba q.body.length bc):=HK6.out.cell 5 rfl
  have m0:W6.cell? ⟨w.heap.size,0,none⟩=some (.int .i64 0):=HZ6.out.cell 0 rfl
  have f0:W6.frozen? ⟨w.heap.size,0,none⟩=false:=HZ6.out.free 0
  have m1:W6.cell? ⟨w.heap.size,1,none⟩=some (.int .i64 0):=HZ6.out.cell 1 rfl
  have f1:W6.frozen? ⟨w.heap.size,1,none⟩=false:=HZ6.out.free 1
  have m2:W6.cell? ⟨w.heap.size,2,none⟩=some (.int .i64 0):=HZ6.out.cell 2 rfl
  have f2:W6.frozen? ⟨w.heap.size,2,none⟩=false:=HZ6.out.free 2
  have m3:W6.cell? ⟨w.heap.size,3,none⟩=some (.int .i64 0):=HZ6.out.cell 3 rfl
  have f3:W6.frozen? ⟨w.heap.size,3,none⟩=false:=HZ6.out.free 3
  have m4:W6.cell? ⟨w.heap.size,4,none⟩=some (.int .u32 0):=HZ6.out.cell 4 rfl
  have f4:W6.frozen? ⟨w.heap.size,4,none⟩=false:=HZ6.out.free 4
  have m5:W6.cell? ⟨w.heap.size,5,none⟩=some (.slice none 0 0):=HZ6.out.cell 5 rfl
  have f5:W6.frozen? ⟨w.heap.size,5,none⟩=false:=HZ6.out.free 5
  obtain ⟨W7,HW7⟩:∃ W,Hid (W=((((((W6.setCell ⟨w.heap.size,0,none⟩ (.int .i64 1)).setCell ⟨w.heap.size,1,none⟩ (.int .i64 hand2)).setCell ⟨w.heap.size,2,none⟩ (.int .i64 to_)).setCell ⟨w.heap.size,3,none⟩ (.int .i64 q.tick)).setCell ⟨w.heap.size,4,none⟩ (.int .u32 q.for_)).setCell ⟨w.heap.size,5,none⟩ (.slice ba q.body.length bc))):=⟨_,rfl⟩
  have H7:Hid (Row1 W7 w.heap.size 53 [.int .i64 1,.int .i64 hand2,.int .i64 to_,.int .i64 q.tick,.int .u32 q.for_,.slice ba q.body.length bc] ∧ Fg spT W6 W7∧Below w.heap.size W6 W7∧Imp Z' W7 A.s A.m l5 [q5]):=by
   (show _∧_∧_∧_)
   rw [HW7.out]
   have h:=step6 (.int .i64 1) (.int .i64 hand2) (.int .i64 to_) (.int .i64 q.tick) (.int .u32 q.for_) (.slice ba q.body.length bc) HZ6.out
   exact ⟨h.1,h.2.1,h.2.2.1,h.2.2.2 _ _ _ _ _ HI6.out HZN.out.2⟩
  have HX7:Hid (Below B w W7):=HX6.out.trans (H7.out.2.2.1.mono HB.out.core.bw)
  have HB7:Hid (Bk0 B A W7 age D true cur2 hand2):=(HB4.out.seT HF6.out HS6.out).spT H7.out.2.1
  have HX67:Hid (Below w.heap.size W6 W7):=H7.out.2.2.1
  have HF06:Hid (Fg seT w W6):=(Fg.of_below (HX2.out.trans (HX4.out.mono HX2.out.size))).trans HF6.out
  have HFF:Hid (Fg seT w W7):=⟨Nat.le_trans HF06.out.size HX67.out.size,fun k cs t fr h0 a=>by rw [HX67.out.block k (heap_lt h0)];exact HF06.out.block k cs t fr h0 a,fun k o h0 h1=>by rw [HX67.out.block k (heap_lt h0)];exact HF06.out.other k o h0 h1⟩
  go_wp2
  rw [← HW7.out]
  try simp only [Exit.inBlock,Exit.then]
  refine bodyPost_ret (results_Deliver (by rfl) (by rfl) H7.out.1) rfl ?_
  exact ⟨⟨ba,bc,rfl⟩,HB7.out.stay (Below.refl _ _).drew,⟨Z',HZN.out.1,H7.out.2.2.2.stay (Below.refl _ _).drew⟩,HX7.out.drew,HFF.out.trans (Fg.of_below (Below.refl _ _).drew)⟩
 ·subst h2
  have k0:W5.cell? ⟨g8,0,none⟩=some (.int .i64 is):=HK5.out.cell 0 rfl
  obtain ⟨W6,HW6⟩:∃ W,Hid (W=W5):=⟨_,rfl⟩
  rw [← HW6.out] at HS5 HF5 HK5 HZ5 HI5 HX5 k0 ⊢
  have HS6:=HS5
  have HF6:=HF5
  have HK6:=HK5
  have HZ6:=HZ5
  have HI6:=HI5
  have HX6:=HX5
  go_upto_region 8 with fail
  clear k0
  have k0:W6.cell? ⟨g8,0,none⟩=some (.int .i64 is):=HK6.out.cell 0 rfl
  have k1:W6.cell? ⟨g8,1,none⟩=some (.int .i64 fr):=HK6.out.cell 1 rfl
  have k2:W6.cell? ⟨g8,2,none⟩=some (.int .i64 to_):=HK6.out.cell 2 rfl
  have k3:W6.cell? ⟨g8,3,none⟩=some (.int .i64 q.tick):=HK6.out.cell 3 rfl
  have k4:W6.cell? ⟨g8,4,none⟩=some (.int .u32 q.for_):=HK6.out.cell 4 rfl
  have k5:W6.cell? ⟨g8,5,none⟩=some (.slice ba q.body.length bc):=HK6.out.cell 5 rfl
  have m0:W6.cell? ⟨w.heap.size,0,none⟩=some (.int .i64 0):=HZ6.out.cell 0 rfl
  have f0:W6.frozen? ⟨w.heap.size,0,none⟩=false:=HZ6.out.free 0
  have m1:W6.cell? ⟨w.heap.size,1,none⟩=some (.int .i64 0):=HZ6.out.cell 1 rfl
  have f1:W6.frozen? ⟨w.heap.size,1,none⟩=false:=HZ6.out.free 1
  have m2:W6.cell? ⟨w.heap.size,2,none⟩=some (.int .i64 0):=HZ6.out.cell 2 rfl
  have f2:W6.frozen? ⟨w.heap.size,2,none⟩=false:=HZ6.out.free 2
  have m3:W6.cell? ⟨w.heap.size,3,none⟩=some (.int .i64 0):=HZ6.out.cell 3 rfl
  have f3:W6.frozen? ⟨w.heap.size,3,none⟩=false:=HZ6.out.free 3
  have m4:W6.cell? ⟨w.heap.size,4,none⟩=some (.int .u32 0):=HZ6.out.cell 4 rfl
  have f4:W6.frozen? ⟨w.heap.size,4,none⟩=false:=HZ6.out.free 4
  have m5:W6.cell? ⟨w.heap.size,5,none⟩=some (.slice none 0 0):=HZ6.out.cell 5 rfl
  have f5:W6.frozen? ⟨w.heap.size,5,none⟩=false:=HZ6.out.free 5
  obtain ⟨W7,HW7⟩:∃ W,Hid (W=((((((W6.setCell ⟨w.heap.size,0,none⟩ (.int .i64 is)).setCell ⟨w.heap.size,1,none⟩ (.int .i64 fr)).setCell ⟨w.heap.size,2,none⟩ (.int .i64 to_)).setCell ⟨w.heap.size,3,none⟩ (.int .i64 q.tick)).setCell ⟨w.heap.size,4,none⟩ (.int .u32 q.for_)).setCell ⟨w.heap.size,5,none⟩ (.slice ba q.body.length bc))):=⟨_,rfl⟩
  have H7:Hid (Row1 W7 w.heap.size 53 [.int .i64 is,.int .i64 fr,.int .i64 to_,.int .i64 q.tick,.int .u32 q.for_,.slice ba q.body.length bc] ∧ Fg spT W6 W7∧Below w.heap.size W6 W7∧Imp Z' W7 A.s A.m l5 [q5]):=by
   (show _∧_∧_∧_)
   rw [HW7.out]
   have h:=step6 (.int .i64 is) (.int .i64 fr) (.int .i64 to_) (.int .i64 q.tick) (.int .u32 q.for_) (.slice ba q.body.length bc) HZ6.out
   exact ⟨h.1,h.2.1,h.2.2.1,h.2.2.2 _ _ _ _ _ HI6.out HZN.out.2⟩
  have HX7:Hid (Below B w W7):=HX6.out.trans (H7.out.2.2.1.mono HB.out.core.bw)
  have HB7:Hid (Bk0 B A W7 age D true cur2 hand2):=(HB4.out.seT HF6.out HS6.out).spT H7.out.2.1
  have HX67:Hid (Below w.heap.size W6 W7):=H7.out.2.2.1
  have HF06:Hid (Fg seT w W6):=(Fg.of_below (HX2.out.trans (HX4.out.mono HX2.out.size))).trans HF6.out
  have HFF:Hid (Fg seT w W7):=⟨Nat.le_trans HF06.out.size HX67.out.size,fun k cs t fr h0 a=>by rw [HX67.out.block k (heap_lt h0)];exact HF06.out.block k cs t fr h0 a,fun k o h0 h1=>by rw [HX67.out.block k (heap_lt h0)];exact HF06.out.other k o h0 h1⟩
  go_wp2
  rw [← HW7.out]
  try simp only [Exit.inBlock,Exit.then]
  refine bodyPost_ret (results_Deliver (by rfl) (by rfl) H7.out.1) rfl ?_
  exact ⟨⟨ba,bc,rfl⟩,HB7.out.stay (Below.refl _ _).drew,⟨Z',HZN.out.1,H7.out.2.2.2.stay (Below.refl _ _).drew⟩,HX7.out.drew,HFF.out.trans (Fg.of_below (Below.refl _ _).drew)⟩
theorem br_Deliver1 (B:Nat) (A:Ad) (w:World) (age:Nat) (D:Dk) (h:Bk0 B A w age D true 0 0) (Z:Nat→Prop) (hz:¬ Z A.gst) (hi:Imp Z w A.s A.m l5 [q5]):Calls Tryz.prog 11 #[.pointer (some ⟨A.gb,0,none⟩),.int .i64 1] w fun e w'=>(∃ ba bc,e=.returned (.tuple #[.agg #[.int .i64 1,.int .i64 5,.int .i64 5,.int .i64 5,.int .u32 1,.slice ba 3 bc],.int .i64 0]))∧Bk0 B A w' age D true 5 5∧(∃ Z':Nat→Prop,¬ Z' A.gst∧Imp Z' w' A.s A.m l5 [q5])∧Below B w w'∧Fg seT w w' :=
 br_DeliverG B A w age D 0 0 1 5 5 5 5 q5 (by decide) next05 (by decide) (.inl ⟨rfl,rfl⟩) h Z hz hi
theorem br_Deliver2 (B:Nat) (A:Ad) (w:World) (age:Nat) (D:Dk) (h:Bk0 B A w age D true 5 5) (Z:Nat→Prop) (hz:¬ Z A.gst) (hi:Imp Z w A.s A.m l5 [q5]):Calls Tryz.prog 11 #[.pointer (some ⟨A.gb,0,none⟩),.int .i64 1] w fun e w'=>(∃ ba bc,e=.returned (.tuple #[.agg #[.int .i64 0,.int .i64 0,.int .i64 5,.int .i64 0,.int .u32 0,.slice ba 0 bc],.int .i64 0]))∧Bk0 B A w' age D true 5 5∧(∃ Z':Nat→Prop,¬ Z' A.gst∧Imp Z' w' A.s A.m l5 [q5])∧Below B w w'∧Fg seT w w' :=
 br_DeliverG B A w age D 5 5 0 0 5 5 5 ⟨0,0,[]⟩ (by decide) next55 (by decide) (.inr ⟨by decide,rfl⟩) h Z hz hi
end
end Go.Proofs.YtoiennkfdjnkbaaGreatDoor
