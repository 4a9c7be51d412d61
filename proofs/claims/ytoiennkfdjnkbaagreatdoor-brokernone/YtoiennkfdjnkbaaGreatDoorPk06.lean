import Derived.Test.YtoiennkfdjnkbaaGreatDoorPk05
import Derived.Deep.Cut
import Derived.Deep.RegionHeld3
set_option maxRecDepth 100000
set_option maxHeartbeats 8000000
namespace Go.Proofs.YtoiennkfdjnkbaaGreatDoor
section
open Go.RowKit
def nextB (s:List Nat):Nat:=(s.getD 63 0+1) % 256
def replE (D:Dk) (p n v:Int):Int :=
 if readE D p=0 then (if writeE D p (layB (nextB (nowB D p.toNat)) n v)=0 then syncE (writeD D p (layB (nextB (nowB D p.toNat)) n v)) else writeE D p (layB (nextB (nowB D p.toNat)) n v)) else readE D p
def replD (D:Dk) (p n v:Int):Dk :=
 if readE D p=0 then (if writeE D p (layB (nextB (nowB D p.toNat)) n v)=0 then syncD (writeD D p (layB (nextB (nowB D p.toNat)) n v)) else writeD D p (layB (nextB (nowB D p.toNat)) n v)) else D
theorem cells_replace (w:World) (base g gs:Nat) (wv:Value) (D:Dk) (gc b m:Nat) (p n v:Int) (h:Disk w base g gs wv D) (hc:Cs w gc g b m) (hwl:D.waits.length<1000000000) (hn:(-9223372036854775808:Int)≤n∧n≤9223372036854775807) (hv:(-9223372036854775808:Int)≤v∧v≤9223372036854775807) :
  Calls Tryz.prog 152 #[.pointer (some ⟨gc,0,none⟩),.int .i64 p,.agg #[.int .i64 n,.int .i64 v]] w fun e w'=>e=.returned (.int .i64 (replE D p n v))∧Hid (∃ wv',Disk w' base g gs wv' (replD D p n v))∧Mv w w' base g gs:=by
 obtain ⟨R,HR⟩:∃ R,Hid (R=replE D p n v):=⟨_,rfl⟩
 obtain ⟨D',HD'⟩:∃ D',Hid (D'=replD D p n v):=⟨_,rfl⟩
 rw [← HR.out,← HD'.out]
 have HD:Hid (∀ w',Below w.heap.size w w'→Disk w' base g gs wv D):=fun w' hb=>h.stay hb
 have HC:Hid (∀ w',Below w.heap.size w w'→Cs w' gc g b m):=fun w' hb=>hc.stay hb
 have HBS:Hid (base≤w.heap.size):=Nat.le_trans h.bg (Nat.le_of_lt h.blk.lt)
 have HWL:Hid (D.waits.length<1000000000):=hwl
 have HNV:Hid (((-9223372036854775808:Int)≤n∧n≤9223372036854775807)∧((-9223372036854775808:Int)≤v∧v≤9223372036854775807)):=⟨hn,hv⟩
 have HLT:Hid (g<w.heap.size∧gs<w.heap.size∧gc<w.heap.size):=⟨h.blk.lt,h.srow.lt,Blk.lt hc⟩
 have HNE:Hid (gc≠g∧gc≠gs):=⟨blk_ne hc h.blk (by decide),blk_ne hc h.srow (by decide)⟩
 clear h hc hwl hn hv
 go_enter Tryz.func152,Tryz.ntmps152
 have c0:(w.alloc (.cells #[.int .i64 n,.int .i64 v] 253)).cell? ⟨gc,0,none⟩=some (.pointer (some ⟨g,0,none⟩)):=Blk.cell (HC.out _ (below_alloc _ _)) 0 rfl
 go_wp2_with fail
 generalize hw1:World.alloc w _=w1 at *
 have HB1:Hid (Below w.heap.size w w1):=by show Below _ _ _;rw [← hw1];exact below_alloc _ _
 have HE1:Hid (Blk w1 w.heap.size #[.int .i64 n,.int .i64 v] 253):=by show Blk _ _ _ _;rw [← hw1];exact Blk.new _ _ _
 clear hw1 c0
 refine (disk_Read w1 base g gs wv D p (HD.out _ HB1.out)).mono ?_
 rintro e w2 ⟨ht,hb2⟩
 have HB2:Hid (Below w.heap.size w w2):=HB1.out.trans (hb2.mono HB1.out.size)
 have HE2:Hid (Blk w2 w.heap.size #[.int .i64 n,.int .i64 v] 253):=HE1.out.stay hb2
 have HS1:Hid (w.heap.size≤w1.heap.size):=HB1.out.size
 rcases ht.out with ⟨hne,rfl⟩ | ⟨h0,k,rfl,hkw,hk,hs⟩
 ·have HX:Hid (R=readE D p∧D'=D):=by show _∧_;rw [HR.out,HD'.out,replE,replD,if_neg hne,if_neg hne];exact ⟨rfl,rfl⟩
  generalize readE D p=E at *
  clear ht hb2
  go_wp2
  go_ret
  rw [HX.out.1,HX.out.2]
  exact ⟨rfl,⟨wv,HD.out _ HB2.out⟩,Mv.of_below g gs HB2.out HBS.out⟩
 ·obtain ⟨s,HSE⟩:∃ s,Hid (s=nowB D p.toNat):=⟨_,rfl⟩
  rw [← HSE.out] at hk hs
  obtain ⟨x,HXE⟩:∃ x,Hid (x=s.getD 63 0):=⟨_,rfl⟩
  have hx:x<256:=by rw [HXE.out];exact getD_lt hs.byte 63
  obtain ⟨y,HYE⟩:∃ y,Hid (y=(x+1) % 256):=⟨_,rfl⟩
  obtain ⟨L,HL⟩:∃ L,Hid (L=layB y n v):=⟨_,rfl⟩
  have HLS:Hid (Sec L):=by show Sec _;rw [HL.out];exact layB_sec n v (by rw [HYE.out];omega)
  obtain ⟨E,HE⟩:∃ E,Hid (E=writeE D p L):=⟨_,rfl⟩
  obtain ⟨D2,HD2⟩:∃ D2,Hid (D2=writeD D p L):=⟨_,rfl⟩
  have HNX:Hid (nextB (nowB D p.toNat)=y):=by show _=_;rw [HYE.out,HXE.out,HSE.out];rfl
  have HRX:Hid (R=(if E=0 then syncE D2 else E)∧D'=(if E=0 then syncD D2 else D2)):=by
   show _∧_
   rw [HR.out,HD'.out,replE,replD,if_pos h0,if_pos h0,HNX.out,← HL.out,← HE.out,← HD2.out]
   exact ⟨rfl,rfl⟩
  have HK:Hid (Blk w2 k (vb s).toArray 244):=hk
  have HKN:Hid (k≠g∧k≠gs):=by have:=HLT.out;have:=HS1.out;constructor <;> omega
  have HX63:Hid ((vb s).toArray[63]? = some (.int .u8 (x:Int))):=by
   show _=_
   rw [HXE.out,List.getElem?_toArray]
   have h63:63<s.length:=by rw [hs.len];omega
   simp [vb,List.getD_eq_getElem?_getD,List.getElem?_eq_getElem h63]
  have b0:w2.cell? ⟨gc,0,none⟩=some (.pointer (some ⟨g,0,none⟩)):=Blk.cell (HC.out _ HB2.out) 0 rfl
  have b1:w2.cell? ⟨k,63,none⟩=some (.int .u8 (x:Int)):=hk.cell 63 HX63.out
  have b2:w2.cell? ⟨w.heap.size,0,none⟩=some (.int .i64 n):=HE2.out.cell 0 rfl
  have b3:w2.cell? ⟨w.heap.size,1,none⟩=some (.int .i64 v):=HE2.out.cell 1 rfl
  have hy1:((x:Int)+1) % 256=(y:Int):=by rw [HYE.out];omega
  have hy2:IntKind.u8.wrap ((x:Int)+1)=(y:Int):=by rw [IntKind.wrap_u8];exact hy1
  clear ht hb2 hk hs hkw h0
  go_wp2
  have HBd:Hid (Below w2.heap.size w2 w2.drew):=(Below.refl _ _).drew
  have HNW:Hid (w.heap.size≠g∧w.heap.size≠gs):=by have:=HLT.out;constructor <;> omega
  go_region_held3 (fun w'=>w'.cell? ⟨gc,0,none⟩=some (.pointer (some ⟨g,0,none⟩))∧w'.cell? ⟨k,63,none⟩=some (.int .u8 (x:Int))∧w'.cell? ⟨w.heap.size,0,none⟩=some (.int .i64 n)∧w'.cell? ⟨w.heap.size,1,none⟩=some (.int .i64 v)) (first | exact ⟨b0,b1,b2,b3⟩ | exact ⟨e0,e1,e2,e3⟩ | exact ⟨g0,g1,g2,g3⟩ | fail)
   (first
    | (go_at_call 203;refine (mark_lay y n v HNV.out.1 HNV.out.2 _).mono ?_;rw [← HL.out];rintro e w4 ⟨k4,rfl,hk4w,hk4,hb4⟩;have HB24:Hid (Below w2.heap.size w2 w4):=HBd.out.trans hb4;have hk4w':w2.heap.size≤k4:=hk4w;have HK4:Hid (Blk w4 k4 (vb L).toArray 243):=hk4;have HKN4:Hid (k4≠g∧k4≠gs):=(by have:=HLT.out;have:=HB2.out.size;constructor <;> omega);have HC4:Hid (Cs w4 gc g b m):=(HC.out _ HB2.out).stay HB24.out;have HKK4:Hid (Blk w4 k (vb s).toArray 244):=HK.out.stay HB24.out;have HE4:Hid (Blk w4 w.heap.size #[.int .i64 n,.int .i64 v] 253):=HE2.out.stay HB24.out;have e0:w4.cell? ⟨gc,0,none⟩=some (.pointer (some ⟨g,0,none⟩)):=Blk.cell HC4.out 0 rfl;have e1:w4.cell? ⟨k,63,none⟩=some (.int .u8 (x:Int)):=HKK4.out.cell 63 HX63.out;have e2:w4.cell? ⟨w.heap.size,0,none⟩=some (.int .i64 n):=HE4.out.cell 0 rfl;have e3:w4.cell? ⟨w.heap.size,1,none⟩=some (.int .i64 v):=HE4.out.cell 1 rfl;have HB4:Hid (Below w.heap.size w w4):=HB2.out.trans (HB24.out.mono HB2.out.size);clear hk4 hb4 hk4w hk4w')
    | (go_at_call 93;refine (disk_Write w4 base g gs wv D p (some ⟨k4,0,none⟩) 64 64 L (HD.out _ HB4.out) (fun w' hm=>by have:=Rd.of_blk (hm.keep HK4.out HKN4.out.1 HKN4.out.2 (by decide)) HLS.out.byte;rw [HLS.out.len] at this;exact this) (by omega) HWL.out).mono ?_;rw [← HE.out,← HD2.out];rintro e w5 ⟨rfl,hd5,hm5⟩;obtain ⟨wv5,hd5⟩:=hd5.out;have HD5:Hid (Disk w5 base g gs wv5 D2):=hd5;have HM5:Hid (Mv w w5 base g gs):=(Mv.of_below g gs HB4.out HBS.out).trans hm5;have HC5:Hid (Cs w5 gc g b m):=hm5.keep HC4.out HNE.out.1 HNE.out.2 (by decide);have HKK5:Hid (Blk w5 k (vb s).toArray 244):=hm5.keep HKK4.out HKN.out.1 HKN.out.2 (by decide);have HE5:Hid (Blk w5 w.heap.size #[.int .i64 n,.int .i64 v] 253):=hm5.keep HE4.out HNW.out.1 HNW.out.2 (by decide);have g0:w5.cell? ⟨gc,0,none⟩=some (.pointer (some ⟨g,0,none⟩)):=Blk.cell HC5.out 0 rfl;have g1:w5.cell? ⟨k,63,none⟩=some (.int .u8 (x:Int)):=HKK5.out.cell 63 HX63.out;have g2:w5.cell? ⟨w.heap.size,0,none⟩=some (.int .i64 n):=HE5.out.cell 0 rfl;have g3:w5.cell? ⟨w.heap.size,1,none⟩=some (.int .i64 v):=HE5.out.cell 1 rfl;clear hd5 hm5))
  clear b0 b1 b2 b3 e0 e1 e2 e3 g1 g2 g3
  by_cases hE:E=0
  ·have HX:Hid (R=syncE D2∧D'=syncD D2):=by show _∧_;have:=HRX.out;rw [if_pos hE,if_pos hE] at this;exact this
   clear HE
   subst hE
   go_wp2_with fail
   refine (disk_Sync w5 base g gs wv5 D2 HD5.out).mono ?_
   rw [← HX.out.1,← HX.out.2]
   rintro e w6 ⟨rfl,hd6,hm6⟩
   have HD6:Hid (∃ wv',Disk w6 base g gs wv' D'):=hd6.out
   have HM6:Hid (Mv w w6 base g gs):=HM5.out.trans hm6
   clear hd6 hm6
   go_wp2
   go_ret
   exact ⟨rfl,HD6,HM6.out⟩
  ·have HX:Hid (R=E∧D'=D2):=by show _∧_;have:=HRX.out;rw [if_neg hE,if_neg hE] at this;exact this
   have hE':(E == 0)=false:=by rw [beq_eq_false_iff_ne];exact hE
   go_wp2
   go_ret
   rw [HX.out.1,HX.out.2]
   exact ⟨rfl,⟨wv5,HD5.out⟩,HM5.out⟩
end
section
open Go.RowKit
theorem read_range (s:List Nat):0≤(readB s).1∧(readB s).1≤4611686018427387904:=by
 unfold readB
 split
 ·rename_i h
  show 0≤(KeyM.take s 1).1∧_
  exact ⟨by omega,h.1.2⟩
 ·exact ⟨Int.le_refl _,by decide⟩
theorem look_range (D:Dk) (p:Int):0≤(lookB D p).1∧(lookB D p).1≤4611686018427387904:=by
 unfold lookB
 split
 ·exact read_range _
 ·exact ⟨Int.le_refl _,by decide⟩
theorem stand_range (D:Dk) (b i:Nat):(0≤(standB D b i).1∧(standB D b i).1≤1)∧0≤(standB D b i).2.1∧(standB D b i).2.1≤4611686018427387904:=by
 unfold standB
 split
 ·exact ⟨⟨(by decide:(0:Int)≤1),(by decide:(1:Int)≤1)⟩,look_range _ _⟩
 ·exact ⟨⟨(by decide:(0:Int)≤0),(by decide:(0:Int)≤1)⟩,look_range _ _⟩
def putCE (D:Dk) (b m:Nat) (i v:Int):Int :=
 if D.down=true then 10 else if (0≤i∧i<(m:Int))∧0≤v∧v≤1099511627776 then (if (standB D b i.toNat).2.1=4611686018427387904 then 6 else replE D ((b:Int)+2 * (i.toNat:Int)+(1 - (standB D b i.toNat).1)) ((standB D b i.toNat).2.1+1) v) else 2
def putCD (D:Dk) (b m:Nat) (i v:Int):Dk :=
 if D.down=true then D else if (0≤i∧i<(m:Int))∧0≤v∧v≤1099511627776 then (if (standB D b i.toNat).2.1=4611686018427387904 then D else replD D ((b:Int)+2 * (i.toNat:Int)+(1 - (standB D b i.toNat).1)) ((standB D b i.toNat).2.1+1) v) else D
theorem cells_Put (w:World) (base g gs:Nat) (wv:Value) (D:Dk) (gc b m:Nat) (i v:Int) (h:Disk w base g gs wv D) (hc:Cs w gc g b m) (hb:b≤1000) (hm:m≤1000) (hwl:D.waits.length<1000000000) :
  Calls Tryz.prog 106 #[.pointer (some ⟨gc,0,none⟩),.int .i64 i,.int .i64 v] w fun e w'=>e=.returned (.int .i64 (putCE D b m i v))∧Hid (∃ wv',Disk w' base g gs wv' (putCD D b m i v))∧Mv w w' base g gs:=by
 obtain ⟨R,HR⟩:∃ R,Hid (R=putCE D b m i v):=⟨_,rfl⟩
 obtain ⟨D',HD'⟩:∃ D',Hid (D'=putCD D b m i v):=⟨_,rfl⟩
 rw [← HR.out,← HD'.out]
 have HD:Hid (∀ w',Below w.heap.size w w'→Disk w' base g gs wv D):=fun w' hb=>h.stay hb
 have HC:Hid (∀ w',Below w.heap.size w w'→Cs w' gc g b m):=fun w' hb=>hc.stay hb
 have HBS:Hid (base≤w.heap.size):=Nat.le_trans h.bg (Nat.le_of_lt h.blk.lt)
 have HWL:Hid (D.waits.length<1000000000):=hwl
 have HLT:Hid (g<w.heap.size∧gs<w.heap.size):=⟨h.blk.lt,h.srow.lt⟩
 have c0:w.cell? ⟨gc,0,none⟩=some (.pointer (some ⟨g,0,none⟩)):=Blk.cell hc 0 rfl
 have HD0:Hid (Disk w base g gs wv D):=h
 have HC0:Hid (Cs w gc g b m):=hc
 clear h hc hwl
 go_enter Tryz.func106,Tryz.ntmps106
 go_wp2_with fail
 refine (disk_Down w base g gs wv D HD0.out).mono ?_
 cases hd:D.down with
 | true =>
  have HX:Hid (R=10∧D'=D):=by show _∧_;rw [HR.out,HD'.out,putCE,putCD,if_pos hd,if_pos hd];exact ⟨rfl,rfl⟩
  rintro e w' ⟨rfl,hw⟩
  subst w'
  go_wp2
  go_ret
  rw [HX.out.1,HX.out.2]
  exact ⟨rfl,⟨wv,HD0.out⟩,Mv.refl _ _ _ _⟩
 | false =>
  rintro e w' ⟨rfl,hw⟩
  subst w'
  have hdn:¬ D.down=true:=by rw [hd];decide
  have HRX:Hid (R=(if (0≤i∧i<(m:Int))∧0≤v∧v≤1099511627776 then (if (standB D b i.toNat).2.1=4611686018427387904 then 6 else replE D ((b:Int)+2 * (i.toNat:Int)+(1 - (standB D b i.toNat).1)) ((standB D b i.toNat).2.1+1) v) else 2)∧D'=(if (0≤i∧i<(m:Int))∧0≤v∧v≤1099511627776 then (if (standB D b i.toNat).2.1=4611686018427387904 then D else replD D ((b:Int)+2 * (i.toNat:Int)+(1 - (standB D b i.toNat).1)) ((standB D b i.toNat).2.1+1) v) else D)):=by
   show _∧_
   rw [HR.out,HD'.out,putCE,putCD,if_neg hdn,if_neg hdn]
   exact ⟨rfl,rfl⟩
  clear HR HD' hd hdn
  go_wp2_with fail
  refine (cells_has w gc g b m i HC0.out).mono ?_
  by_cases hh:0≤i∧i<(m:Int)
  ·rw [decide_eq_true hh]
   rintro e w' ⟨rfl,hw⟩
   subst w'
   by_cases hv0:v<0
   ·have HX:Hid (R=2∧D'=D):=by show _∧_;have:=HRX.out;rw [if_neg (by omega),if_neg (by omega)] at this;exact this
    go_wp2
    go_ret
    rw [HX.out.1,HX.out.2]
    exact ⟨rfl,⟨wv,HD0.out⟩,Mv.refl _ _ _ _⟩
   by_cases hv1:1099511627776<v
   ·have HX:Hid (R=2∧D'=D):=by show _∧_;have:=HRX.out;rw [if_neg (by omega),if_neg (by omega)] at this;exact this
    go_wp2
    go_ret
    rw [HX.out.1,HX.out.2]
    exact ⟨rfl,⟨wv,HD0.out⟩,Mv.refl _ _ _ _⟩
   obtain ⟨j,rfl⟩:=Int.eq_ofNat_of_zero_le hh.1
   have hj:j≤1000:=by omega
   obtain ⟨sr1,sr2⟩:=stand_range D b j
   obtain ⟨⟨x,n,z⟩,HS⟩:∃ S,Hid (S=standB D b j):=⟨_,rfl⟩
   rw [← HS.out] at sr1 sr2
   simp only at sr1 sr2
   obtain ⟨x0,x1⟩:=sr1
   obtain ⟨n0,n1⟩:=sr2
   have HRY:Hid (R=(if n=4611686018427387904 then 6 else replE D ((b:Int)+2 * (j:Int)+(1 - x)) (n+1) v)∧D'=(if n=4611686018427387904 then D else replD D ((b:Int)+2 * (j:Int)+(1 - x)) (n+1) v)):=by
    show _∧_
    have:=HRX.out
    have hcond:(0≤(j:Int)∧(j:Int)<(m:Int))∧0≤v∧v≤1099511627776:=⟨hh,by omega,by omega⟩
    rw [if_pos hcond,if_pos hcond,Int.toNat_natCast,← HS.out] at this
    exact this
   clear HRX
   go_wp2_with fail
   refine (cells_standing w base g gs wv D gc b m j HD0.out HC0.out hb hj).mono ?_
   rw [← HS.out]
   rintro e w2 ⟨rfl,hb2⟩
   have HB2:Hid (Below w.heap.size w w2):=hb2
   clear hb2
   by_cases hn:n=4611686018427387904
   ·have HX:Hid (R=6∧D'=D):=by show _∧_;have:=HRY.out;rw [if_pos hn,if_pos hn] at this;exact this
    have hn':(n == 4611686018427387904)=true:=by rw [beq_iff_eq];exact hn
    clear hn
    go_wp2
    go_ret
    rw [HX.out.1,HX.out.2]
    exact ⟨rfl,⟨wv,HD.out _ (HB2.out.trans ((below_alloc _ _).mono HB2.out.size))⟩,Mv.of_below g gs (HB2.out.trans ((below_alloc _ _).mono HB2.out.size)) HBS.out⟩
   ·have hn':(n == 4611686018427387904)=false:=by rw [beq_eq_false_iff_ne];exact hn
    obtain ⟨q,HQ⟩:∃ q,Hid (q=1 - x):=⟨_,rfl⟩
    obtain ⟨n',HN'⟩:∃ n',Hid (n'=n+1):=⟨_,rfl⟩
    obtain ⟨p,HP⟩:∃ p,Hid (p=(b:Int)+2 * (j:Int)+q):=⟨_,rfl⟩
    have HX:Hid (R=replE D p n' v∧D'=replD D p n' v):=by show _∧_;have:=HRY.out;rw [if_neg hn,if_neg hn,← HQ.out,← HP.out,← HN'.out] at this;exact this
    have HQR:Hid (0≤q∧q≤1):=by show _∧_;rw [HQ.out];omega
    have HNR:Hid ((-9223372036854775808:Int)≤n'∧n'≤9223372036854775807):=by show _∧_;rw [HN'.out];omega
    have wq:IntKind.i64.wrap (1 - x)=q:=by rw [HQ.out,IntKind.wrap_i64];omega
    have wn:IntKind.i64.wrap (n+1)=n':=by rw [HN'.out,IntKind.wrap_i64];omega
    have n2:n<4611686018427387904:=by omega
    go_wp2
    generalize hw3:World.alloc w2 _=w3
    have HB23:Hid (Below w2.heap.size w2 w3):=by show Below _ _ _;rw [← hw3];exact below_alloc _ _
    have HE3:Hid (Blk w3 w2.heap.size #[.int .i64 n,.int .i64 z] 253):=by show Blk _ _ _ _;rw [← hw3];exact Blk.new _ _ _
    have HB3:Hid (Below w.heap.size w w3):=HB2.out.trans (HB23.out.mono HB2.out.size)
    have HNW:Hid (w2.heap.size≠g∧w2.heap.size≠gs):=by have:=HLT.out;have:=HB2.out.size;constructor <;> omega
    clear hw3
    have b0:w3.cell? ⟨w2.heap.size,0,none⟩=some (.int .i64 n):=HE3.out.cell 0 rfl
    have HB3d:Hid (Below w.heap.size w w3.drew):=HB3.out.drew
    go_region_held3 (fun w'=>w'.cell? ⟨w2.heap.size,0,none⟩=some (.int .i64 n)) (first | exact b0 | exact e0 | fail)
     (first
      | (go_at_call 153;refine (cells_place w3.drew gc g b m j q (HC.out _ HB3d.out) hb hj HQR.out).mono ?_;rw [← HP.out];rintro e w4 ⟨rfl,hw4⟩;subst w4)
      | (go_at_call 152;refine (cells_replace w3.drew base g gs wv D gc b m p n' v (HD.out _ HB3d.out) (HC.out _ HB3d.out) HWL.out HNR.out (by omega)).mono ?_;rw [← HX.out.1,← HX.out.2];rintro e w5 ⟨rfl,hd5,hm5⟩;have HD5:Hid (∃ wv',Disk w5 base g gs wv' D'):=hd5.out;have HM5:Hid (Mv w w5 base g gs):=(Mv.of_below g gs HB3d.out HBS.out).trans hm5;have e0:w5.cell? ⟨w2.heap.size,0,none⟩=some (.int .i64 n):=(hm5.keep (HE3.out.stay (Below.refl _ _).drew) HNW.out.1 HNW.out.2 (by decide)).cell 0 rfl;clear hd5 hm5))
    go_wp2
    go_ret
    exact ⟨rfl,HD5,HM5.out⟩
  ·rw [decide_eq_false hh]
   have HX:Hid (R=2∧D'=D):=by show _∧_;have:=HRX.out;rw [if_neg (fun h=>hh h.1),if_neg (fun h=>hh h.1)] at this;exact this
   rintro e w' ⟨rfl,hw⟩
   subst w'
   go_wp2
   go_ret
   rw [HX.out.1,HX.out.2]
   exact ⟨rfl,⟨wv,HD0.out⟩,Mv.refl _ _ _ _⟩
end
section
open Go.RowKit
def mayC (n:Nat) (b c:Int):Prop:=(1≤c∧c≤32)∧0≤b∧b≤(n:Int) - 2 * c
def OpenTold (w w':World) (g n:Nat) (b c:Int) (e:Ending):Prop :=
 (¬ mayC n b c∧e=.returned (.tuple #[.pointer none,.int .i64 2]))∨(mayC n b c∧e=.returned (.tuple #[.pointer (some ⟨w.heap.size,0,none⟩),.int .i64 0])∧Cs w' w.heap.size g b.toNat c.toNat)
theorem mark_Open (w:World) (base g gs:Nat) (wv:Value) (D:Dk) (b c:Int) (h:Disk w base g gs wv D) :
  Calls Tryz.prog 76 #[.pointer (some ⟨g,0,none⟩),.int .i64 b,.int .i64 c] w fun e w'=>Hid (OpenTold w w' g D.sure.length b c e)∧Below w.heap.size w w':=by
 have HD:Hid (Disk w base g gs wv D):=h
 have hsz:=h.sz
 clear h
 obtain ⟨n,HN⟩:∃ n,Hid (n=D.sure.length):=⟨_,rfl⟩
 rw [← HN.out] at hsz ⊢
 by_cases h1:c<1
 ·go_enter Tryz.func76,Tryz.ntmps76
  go_wp2
  go_returns
  exact ⟨.inl ⟨by unfold mayC;omega,rfl⟩,Below.refl _ _⟩
 by_cases h2:32<c
 ·go_enter Tryz.func76,Tryz.ntmps76
  go_wp2
  go_returns
  exact ⟨.inl ⟨by unfold mayC;omega,rfl⟩,Below.refl _ _⟩
 by_cases h3:b<0
 ·go_enter Tryz.func76,Tryz.ntmps76
  go_wp2
  go_returns
  exact ⟨.inl ⟨by unfold mayC;omega,rfl⟩,Below.refl _ _⟩
 obtain ⟨cn,rfl⟩:=Int.eq_ofNat_of_zero_le (show 0≤c by omega)
 obtain ⟨bn,rfl⟩:=Int.eq_ofNat_of_zero_le (show 0≤b by omega)
 go_enter Tryz.func76,Tryz.ntmps76
 go_wp2_with fail
 refine (disk_Size w base g gs wv D HD.out).mono ?_
 rw [← HN.out]
 rintro e w' ⟨rfl,hw⟩
 subst w'
 by_cases h4:(n:Int) - 2 * (cn:Int)<(bn:Int)
 ·go_wp2
  go_returns
  exact ⟨.inl ⟨by unfold mayC;omega,rfl⟩,Below.refl _ _⟩
 ·go_wp2
  go_returns
  exact ⟨.inr ⟨by unfold mayC;omega,rfl,Blk.new _ _ _⟩,below_alloc _ _⟩
end
section
open Go.RowKit
def layE (k:Nat) (b:Bool) (p:List Nat):List Nat:=231 :: k :: p.length :: (if b=true then 1 else 0) :: (p++(List.replicate (59 - p.length) 0++[231]))
theorem layE_sec {k:Nat} {b:Bool} {p:List Nat} (hk:k<256) (hl:p.length≤59) (hp:∀ x∈p,x<256):Sec (layE k b p):=by
 refine ⟨by simp [layE];omega,fun x hx => ?_⟩
 unfold layE at hx
 simp only [List.mem_cons,List.mem_append,List.mem_replicate,List.not_mem_nil,or_false] at hx
 rcases hx with rfl | rfl | rfl | rfl | h | ⟨_,rfl⟩ | rfl
 ·omega
 ·exact hk
 ·omega
 ·split <;> omega
 ·exact hp x h
 ·omega
 ·omega
def payE (s:List Nat):List Nat:=(s.drop 4).take (s.getD 2 0)
def lastE (s:List Nat):Bool:=decide (s.getD 3 0=1)
def goodE (s:List Nat):Bool:=decide (s.length=64∧s.getD 2 0≤59∧(1≤s.getD 1 0∧s.getD 1 0≤3)∧(lastE s=true∨s.getD 2 0=59)∧s=layE (s.getD 1 0) (lastE s) (payE s))
end
section
open Go.RowKit
theorem layE_row (k:Nat) (b:Bool) (p:List Nat) (hp:p.length≤59) (Y:List Value) (hY:Y=(((((List.replicate 64 (Value.int .u8 0)).set 0 (.int .u8 231)).set 1 (.int .u8 (k:Int))).set 2 (.int .u8 (p.length:Int))).set 3 (.int .u8 (if b=true then 1 else 0)))) :
  (splice Y 4 (vb p)).set 63 (.int .u8 231)=vb (layE k b p):=by
 have e:Y=.int .u8 231 :: .int .u8 (k:Int) :: .int .u8 (p.length:Int) :: .int .u8 (if b=true then 1 else 0) :: List.replicate 60 (Value.int .u8 0):=by rw [hY];rfl
 have hl:(vb p).length=p.length:=vb_length p
 unfold splice
 rw [e,hl]
 have e1:(Value.int .u8 231 :: .int .u8 (k:Int) :: .int .u8 (p.length:Int) :: .int .u8 (if b=true then 1 else 0) :: List.replicate 60 (Value.int .u8 0)).take 4=[.int .u8 231,.int .u8 (k:Int),.int .u8 (p.length:Int),.int .u8 (if b=true then 1 else 0)]:=rfl
 have e2:(Value.int .u8 231 :: .int .u8 (k:Int) :: .int .u8 (p.length:Int) :: .int .u8 (if b=true then 1 else 0) :: List.replicate 60 (Value.int .u8 0)).drop (4+p.length)=List.replicate (59 - p.length) (Value.int .u8 0)++[.int .u8 0]:=by
  rw [Nat.add_comm 4 p.length]
  show (List.replicate 60 (Value.int .u8 0)).drop p.length=_
  rw [List.drop_replicate,← List.replicate_succ']
  congr 1
  omega
 rw [e1,e2,List.set_append_right _ _ (show 4≤63 by omega),List.set_append_right _ _ (by rw [hl];exact hp),List.set_append_right _ _ (by rw [List.length_replicate,hl];exact Nat.le_refl _)]
 have e4:63 - [Value.int .u8 231,.int .u8 (k:Int),.int .u8 (p.length:Int),.int .u8 (if b=true then 1 else 0)].length - (vb p).length - (List.replicate (59 - p.length) (Value.int .u8 0)).length=0:=by
  rw [List.length_replicate,hl]
  show 59 - p.length - (59 - p.length)=0
  omega
 rw [e4]
 unfold layE vb
 cases b <;> simp
theorem evl_lay (k:Nat) (b:Bool) (a:Option Addr) (n c:Nat) (p:List Nat) (w:World) (hr:Rd w a n p) (hn:n≤59) :
  Calls Tryz.prog 94 #[.agg #[.int .u8 (k:Int),.bool b,.slice a n c]] w fun e w'=>∃ q,e=.returned (.slice (some ⟨q,0,none⟩) 64 64)∧w.heap.size≤q∧Blk w' q (vb (layE k b p)).toArray 243∧Below w.heap.size w w':=by
 obtain ⟨Z,HZ⟩:∃ Z:List Value,Hid (Z=List.replicate 64 (Value.int .u8 0)):=⟨_,rfl⟩
 have HZI:Hid ((Tryz.prog.info? 243).map (fun i=>(i.zero,i.size))=some (some (.agg Z.toArray),64)):=by show _=_;rw [HZ.out];exact infoArr
 have HZL:Hid (Z.length=64):=by show _=_;rw [HZ.out];simp
 have HRD:Hid (Rd w a n p):=hr
 have HPL:Hid (p.length=n):=hr.size
 have qn:IntKind.u8.wrap (n:Int)=(n:Int):=by rw [IntKind.wrap_u8];omega
 clear hr
 go_enter Tryz.func94,Tryz.ntmps94
 go_wp2_with (guard_target =~ wpList _ _ _ (Oper.mk (some 3) _ _ _ _ _ :: _) _ _;refine wpList_alloc_row rfl 243 rfl Z 64 HZI.out ?_)
 intro w1 hk1 hb1 hs1
 have HE1:Hid (Blk w1 w.heap.size #[.int .u8 (k:Int),.bool b,.slice a n c] 173):=(Blk.new w _ _).stay (by simpa using hb1)
 have HB1:Hid (Below w.heap.size w w1):=(below_alloc w _).trans (hb1.mono (by simp))
 have HK1:Hid (Blk w1 (w.heap.size+1) Z.toArray 243):=hk1
 have z0:w1.cell? ⟨w.heap.size+1,0,none⟩=some (.int .u8 0):=hk1.cell 0 (by rw [HZ.out];rfl)
 have z1:w1.cell? ⟨w.heap.size+1,1,none⟩=some (.int .u8 0):=hk1.cell 1 (by rw [HZ.out];rfl)
 have z2:w1.cell? ⟨w.heap.size+1,2,none⟩=some (.int .u8 0):=hk1.cell 2 (by rw [HZ.out];rfl)
 have z3:w1.cell? ⟨w.heap.size+1,3,none⟩=some (.int .u8 0):=hk1.cell 3 (by rw [HZ.out];rfl)
 have f0:=hk1.free 0
 have f1:=hk1.free 1
 have f2:=hk1.free 2
 have f3:=hk1.free 3
 have p0:w1.cell? ⟨w.heap.size,0,none⟩=some (.int .u8 (k:Int)):=HE1.out.cell 0 rfl
 have p1:w1.cell? ⟨w.heap.size,1,none⟩=some (.bool b):=HE1.out.cell 1 rfl
 have p2:w1.cell? ⟨w.heap.size,2,none⟩=some (.slice a n c):=HE1.out.cell 2 rfl
 clear hk1 hb1 hs1
 have HEND:Hid (∀ (W:World) (Y:List Value),Y=(((((List.replicate 64 (Value.int .u8 0)).set 0 (.int .u8 231)).set 1 (.int .u8 (k:Int))).set 2 (.int .u8 (p.length:Int))).set 3 (.int .u8 (if b=true then 1 else 0)))→Blk W (w.heap.size+1) ((splice Y 4 (vb p)).set 63 (.int .u8 231)).toArray 243→Blk W (w.heap.size+1) (vb (layE k b p)).toArray 243):=fun W Y hY hk=>by
  rw [layE_row k b p (by rw [HPL.out];exact hn) Y hY] at hk
  exact hk
 cases b with
 | true =>
  go_upto_region 7 with fail
  generalize hw2:World.setCell _ _ _=w2
  obtain ⟨Y,HY⟩:∃ Y:List Value,Hid (Y=(((Z.set 0 (.int .u8 231)).set 1 (.int .u8 (k:Int))).set 2 (.int .u8 (n:Int))).set 3 (.int .u8 1)):=⟨_,rfl⟩
  have HYL:Hid (Y.length=64):=by show _=_;rw [HY.out];simp [HZL.out]
  have HK2:Hid (Blk w2 (w.heap.size+1) Y.toArray 243):=by
   show Blk _ _ _ _
   rw [← hw2,HY.out]
   have:=(((HK1.out.set 0 (.int .u8 231)).set 1 (.int .u8 (k:Int))).set 2 (.int .u8 (n:Int))).set 3 (.int .u8 1)
   simpa using this
  have HE2:Hid (Blk w2 w.heap.size #[.int .u8 (k:Int),.bool true,.slice a n c] 173):=by
   show Blk _ _ _ _
   rw [← hw2]
   exact (((HE1.out.other _ _ (by simp)).other _ _ (by simp)).other _ _ (by simp)).other _ _ (by simp)
  have HB2:Hid (Below w.heap.size w w2):=by
   show Below _ _ _
   rw [← hw2]
   exact (((HB1.out.setCell (Nat.le_succ _) _).setCell (Nat.le_succ _) _).setCell (Nat.le_succ _) _).setCell (Nat.le_succ _) _
  have HYE:Hid (Y=(((((List.replicate 64 (Value.int .u8 0)).set 0 (.int .u8 231)).set 1 (.int .u8 (k:Int))).set 2 (.int .u8 (p.length:Int))).set 3 (.int .u8 (if true=true then 1 else 0)))):=by
   show _=_
   rw [HY.out,HZ.out,HPL.out]
   rfl
  clear hw2 z0 z1 z2 z3 f0 f1 f2 f3 p0 p1 p2 qn HK1 HE1 HB1
  have c2:w2.drew.cell? ⟨w.heap.size,2,none⟩=some (.slice a n c):=HE2.out.cell 2 rfl
  have HKD:Hid (Blk w2.drew (w.heap.size+1) Y.toArray 243):=HK2.out
  have HRD2:Hid (Rd w2.drew a n p):=HRD.out.below (HB2.out.drew)
  have HSRC:Hid (0<(vb p).length→(some (⟨w.heap.size+1,4,none⟩:Addr))=some ⟨w.heap.size+1,4,none⟩∧∃ ad,a=some ad∧∀ j v,(vb p)[j]? = some v→w2.drew.cell? (ad.add j)=some v):=fun h0=>by
   have hn0:0<n:=by rw [vb_length,HPL.out] at h0;exact h0
   refine ⟨rfl,?_⟩
   rcases HRD2.out.cells with h | ⟨bb,off,ha,_⟩
   ·omega
   ·subst ha
    exact ⟨_,rfl,HRD2.out.srcs hn0⟩
  go_region_held3 (fun w'=>w'.cell? ⟨w.heap.size,2,none⟩=some (.slice a n c)) (first | exact c2 | exact c4 | fail)
   (first
    | (guard_target =~ (if Region.wanted (Oper.mk (some 19) _ _ _ _ _) _=true then _ else _);refine step_copy_fr rfl (.tmp 16) (.tmp 18) 22 22 rfl 5 Tryz.underlying22 infoByteSz (some ⟨w.heap.size+1,4,none⟩) a 60 60 n c rfl rfl (w.heap.size+1) 4 Y 243 HKD.out (vb p) (by rw [vb_length,HPL.out];show n=min n 60;omega) HSRC.out (by rw [vb_length,HPL.out,HYL.out];omega) (vb_one' _) ?_;intro w4 hk4 hg4;have c4:w4.cell? ⟨w.heap.size,2,none⟩=some (.slice a n c):=cell_far hg4 c2 (by simp)))
  obtain ⟨X,HX⟩:∃ X:List Value,Hid (X=splice Y 4 (vb p)):=⟨_,rfl⟩
  rw [← HX.out] at hk4
  have HXL:Hid (X.length=64):=by show _=_;rw [HX.out,splice_length _ _ _ (by rw [vb_length,HPL.out,HYL.out];omega),HYL.out]
  have HK4:Hid (Blk w4 (w.heap.size+1) X.toArray 243):=hk4
  have HB4:Hid (Below w.heap.size w w4):=(HB2.out.drew).trans ((Below.refl _ _).grown hg4 HB2.out.size (fun k hk=>by simp only [Option.some.injEq] at hk;omega))
  obtain ⟨z,z6⟩:∃ z,w4.cell? ⟨w.heap.size+1,63,none⟩=some z:=⟨X[63]'(by rw [HXL.out];omega),hk4.cell 63 (by simp)⟩
  have f6:=hk4.free 63
  clear hk4 hg4 c2 c4
  go_wp2
  go_ret
  refine ⟨w.heap.size+1,rfl,by omega,HEND.out _ Y HYE.out ?_,HB4.out.setCell (Nat.le_succ _) _⟩
  rw [← HX.out]
  have:=HK4.out.set 63 (.int .u8 231)
  simpa using this
 | false =>
  go_upto_region 7 with fail
  generalize hw2:World.setCell _ _ _=w2
  obtain ⟨Y,HY⟩:∃ Y:List Value,Hid (Y=((Z.set 0 (.int .u8 231)).set 1 (.int .u8 (k:Int))).set 2 (.int .u8 (n:Int))):=⟨_,rfl⟩
  have HYL:Hid (Y.length=64):=by show _=_;rw [HY.out];simp [HZL.out]
  have HK2:Hid (Blk w2 (w.heap.size+1) Y.toArray 243):=by
   show Blk _ _ _ _
   rw [← hw2,HY.out]
   have:=((HK1.out.set 0 (.int .u8 231)).set 1 (.int .u8 (k:Int))).set 2 (.int .u8 (n:Int))
   simpa using this
  have HE2:Hid (Blk w2 w.heap.size #[.int .u8 (k:Int),.bool false,.slice a n c] 173):=by
   show Blk _ _ _ _
   rw [← hw2]
   exact ((HE1.out.other _ _ (by simp)).other _ _ (by simp)).other _ _ (by simp)
  have HB2:Hid (Below w.heap.size w w2):=by
   show Below _ _ _
   rw [← hw2]
   exact ((HB1.out.setCell (Nat.le_succ _) _).setCell (Nat.le_succ _) _).setCell (Nat.le_succ _) _
  have HYE:Hid (Y=(((((List.replicate 64 (Value.int .u8 0)).set 0 (.int .u8 231)).set 1 (.int .u8 (k:Int))).set 2 (.int .u8 (p.length:Int))).set 3 (.int .u8 (if false=true then 1 else 0)))):=by
   show _=_
   rw [HY.out,HZ.out,HPL.out]
   rfl
  clear hw2 z0 z1 z2 z3 f0 f1 f2 f3 p0 p1 p2 qn HK1 HE1 HB1
  have c2:w2.drew.cell? ⟨w.heap.size,2,none⟩=some (.slice a n c):=HE2.out.cell 2 rfl
  have HKD:Hid (Blk w2.drew (w.heap.size+1) Y.toArray 243):=HK2.out
  have HRD2:Hid (Rd w2.drew a n p):=HRD.out.below (HB2.out.drew)
  have HSRC:Hid (0<(vb p).length→(some (⟨w.heap.size+1,4,none⟩:Addr))=some ⟨w.heap.size+1,4,none⟩∧∃ ad,a=some ad∧∀ j v,(vb p)[j]? = some v→w2.drew.cell? (ad.add j)=some v):=fun h0=>by
   have hn0:0<n:=by rw [vb_length,HPL.out] at h0;exact h0
   refine ⟨rfl,?_⟩
   rcases HRD2.out.cells with h | ⟨bb,off,ha,_⟩
   ·omega
   ·subst ha
    exact ⟨_,rfl,HRD2.out.srcs hn0⟩
  go_region_held3 (fun w'=>w'.cell? ⟨w.heap.size,2,none⟩=some (.slice a n c)) (first | exact c2 | exact c4 | fail)
   (first
    | (guard_target =~ (if Region.wanted (Oper.mk (some 19) _ _ _ _ _) _=true then _ else _);refine step_copy_fr rfl (.tmp 16) (.tmp 18) 22 22 rfl 5 Tryz.underlying22 infoByteSz (some ⟨w.heap.size+1,4,none⟩) a 60 60 n c rfl rfl (w.heap.size+1) 4 Y 243 HKD.out (vb p) (by rw [vb_length,HPL.out];show n=min n 60;omega) HSRC.out (by rw [vb_length,HPL.out,HYL.out];omega) (vb_one' _) ?_;intro w4 hk4 hg4;have c4:w4.cell? ⟨w.heap.size,2,none⟩=some (.slice a n c):=cell_far hg4 c2 (by simp)))
  obtain ⟨X,HX⟩:∃ X:List Value,Hid (X=splice Y 4 (vb p)):=⟨_,rfl⟩
  rw [← HX.out] at hk4
  have HXL:Hid (X.length=64):=by show _=_;rw [HX.out,splice_length _ _ _ (by rw [vb_length,HPL.out,HYL.out];omega),HYL.out]
  have HK4:Hid (Blk w4 (w.heap.size+1) X.toArray 243):=hk4
  have HB4:Hid (Below w.heap.size w w4):=(HB2.out.drew).trans ((Below.refl _ _).grown hg4 HB2.out.size (fun k hk=>by simp only [Option.some.injEq] at hk;omega))
  obtain ⟨z,z6⟩:∃ z,w4.cell? ⟨w.heap.size+1,63,none⟩=some z:=⟨X[63]'(by rw [HXL.out];omega),hk4.cell 63 (by simp)⟩
  have f6:=hk4.free 63
  clear hk4 hg4 c2 c4
  go_wp2
  go_ret
  refine ⟨w.heap.size+1,rfl,by omega,HEND.out _ Y HYE.out ?_,HB4.out.setCell (Nat.le_succ _) _⟩
  rw [← HX.out]
  have:=HK4.out.set 63 (.int .u8 231)
  simpa using this
theorem evl_empty (a:Option Addr) (n c:Nat) (s:List Nat) (w:World) (hr:Rd w a n s):Calls Tryz.prog 247 #[.slice a n c] w fun e w'=>e=.returned (.bool (decide (s=List.replicate 64 0)))∧Below w.heap.size w w':=by
 obtain ⟨w1,HW1⟩:∃ w1,Hid (w1=w.alloc (.cells (vb (List.replicate 64 0)).toArray 5)):=⟨_,rfl⟩
 have HB1:Hid (Below w.heap.size w w1):=by (show Below _ _ _);rw [HW1.out];exact below_alloc _ _
 have HR1:Hid (Rd w1 a n s):=hr.below HB1.out
 have HK1:Hid (Rd w1 (some ⟨w.heap.size,0,none⟩) 64 (List.replicate 64 0)):=by
  have hk:Blk w1 w.heap.size (vb (List.replicate 64 0)).toArray 5:=by rw [HW1.out];exact Blk.new _ _ _
  have:=Rd.of_blk hk (fun b hb=>by rw [List.eq_of_mem_replicate hb];omega)
  rw [List.length_replicate] at this
  exact this
 have HMK:Hid (∀ w':World,(Instr.makeSlice 22 (.int .i64 64) (.int .i64 64)).run Tryz.prog w'=.ok (.slice (some ⟨w'.heap.size,0,none⟩) 64 64) (w'.alloc (.cells (vb (List.replicate 64 0)).toArray 5))):=fun w'=>by kernel_rfl
 have hmk:=HMK.out w
 rw [← HW1.out] at hmk
 clear hr
 go_enter Tryz.func247,Tryz.ntmps247
 go_wp2_with fail
 refine (bytes_Equal a (some ⟨w.heap.size,0,none⟩) n c 64 64 s (List.replicate 64 0) w1 HR1.out HK1.out).mono ?_
 rintro e w2 ⟨he,hw2⟩
 subst he
 rw [hw2]
 clear hw2 w2 hmk
 go_wp2
 go_ret
 exact ⟨rfl,HB1.out⟩
end
end Go.Proofs.YtoiennkfdjnkbaaGreatDoor
