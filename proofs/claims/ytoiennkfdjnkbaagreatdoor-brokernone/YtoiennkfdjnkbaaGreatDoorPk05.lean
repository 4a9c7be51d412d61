import Derived.Test.YtoiennkfdjnkbaaGreatDoorPk04
import Derived.Deep.QuietTactic
import Derived.BigQuiet
set_option maxRecDepth 100000
set_option maxHeartbeats 8000000
namespace Go.Proofs.YtoiennkfdjnkbaaGreatDoor
section
open Go.RowKit
theorem same_str (a b:ByteArray):(a.toList == b.toList)=decide (a=b):=by
 by_cases h:a=b
 ·subst h;simp
 ·rw [decide_eq_false h,beq_eq_false_iff_ne]
  intro e
  rw [ByteArray.toList_eq,ByteArray.toList_eq] at e
  apply h
  cases a;cases b
  simp only [ByteArray.mk.injEq]
  exact Array.toList_inj.1 e
theorem bytes_Equal (a1 a2:Option Addr) (n1 c1 n2 c2:Nat) (x y:List Nat) (w:World) (h1:Rd w a1 n1 x) (h2:Rd w a2 n2 y) :
  Calls Tryz.prog 296 #[.slice a1 n1 c1,.slice a2 n2 c2] w fun e w'=>e=.returned (.bool (decide (x=y)))∧w'=w:=by
 have e1:=conv_rd h1 c1
 have e2:=conv_rd h2 c2
 have HX:Hid (decide (x=y)=((str x).toList == (str y).toList)):=by
  show _=_
  rw [same_str]
  exact decide_eq_decide.2 ⟨fun h=>by rw [h],fun h=>str_inj h1.byte h2.byte h⟩
 rw [HX.out]
 clear HX
 generalize str x=X at *
 generalize str y=Y at *
 clear h1 h2
 go_enter Tryz.func296,Tryz.ntmps296
 go_wp2
 go_ret
 exact ⟨rfl,rfl⟩
theorem below_drewsA {B:Nat} {w w':World} (h:Below B w w') (n:Nat):Below B w (w'.drewN n):=h.trans ⟨rfl,rfl,rfl,Nat.le_refl _,fun _ _=>rfl⟩
theorem infoEntry:(Tryz.prog.info? 253).map (·.size)=some 2:=by kernel_rfl
theorem results_read {w:World} {tmps:Array Value} {g:Nat} {cs:List Value} (h4:tmps[2]?.getD undef=.pointer (some ⟨g,0,none⟩)) (k:Blk w g cs.toArray 253) (hl:cs.length=2):(results Tryz.f266 tmps).run Tryz.prog w=.ok (.agg cs.toArray) w:=by
 have hr:=run_loadVar_mid (P:=Tryz.prog) w g 0 253 cs _ (k.range 0 cs (fun j v hj=>by simpa using hj)) Tryz.underlying253 rfl (by rw [hl];exact infoEntry)
 simp [results,Tryz.results266,h4,hr,asAddr]
def readB (s:List Nat):Int×Int :=
 if (1≤(KeyM.take s 1).1∧(KeyM.take s 1).1≤4611686018427387904)∧(0≤(KeyM.take s 9).1∧(KeyM.take s 9).1≤1099511627776)∧s=layB (s.getD 0 0) (KeyM.take s 1).1 (KeyM.take s 9).1 then ((KeyM.take s 1).1,(KeyM.take s 9).1) else (0,0)
theorem mark_read (k:Nat) (t:TypeId) (s:List Nat) (w:World) (hk:Blk w k (vb s).toArray t) (hs:Sec s) :
  Calls Tryz.prog 266 #[.slice (some ⟨k,0,none⟩) 64 64] w fun e w'=>e=.returned (.agg #[.int .i64 (readB s).1,.int .i64 (readB s).2])∧Below w.heap.size w w':=by
 have HK:Hid (Blk w k (vb s).toArray t):=hk
 have HRD:Hid (∀ w',Below w.heap.size w w'→Rd w' (some ⟨k,0,none⟩) 64 s):=fun w' hb=>by have:=Rd.of_blk (hk.stay hb) hs.byte;rw [hs.len] at this;exact this
 obtain ⟨R,HR⟩:∃ R,Hid (R=readB s):=⟨_,rfl⟩
 rw [← HR.out]
 obtain ⟨⟨n,p1,q1⟩,HT1⟩:∃ r,Hid (r=KeyM.take s 1):=⟨_,rfl⟩
 obtain ⟨⟨v,p9,q9⟩,HT9⟩:∃ r,Hid (r=KeyM.take s 9):=⟨_,rfl⟩
 have HSL:Hid (s.length=64):=hs.len
 have HSB:Hid (∀ b∈s,b<256):=hs.byte
 obtain ⟨x,hx⟩:∃ x,x=s.getD 0 0:=⟨_,rfl⟩
 have HX:Hid (x=s.getD 0 0):=hx
 have HRV:Hid (R=if (1≤n∧n≤4611686018427387904)∧(0≤v∧v≤1099511627776)∧s=layB x n v then (n,v) else (0,0)):=by
  show _=_
  rw [HR.out,readB,← HT1.out,← HT9.out,← hx]
 clear hk hs hx HR
 go_enter Tryz.func266,Tryz.ntmps266
 go_wp2_with fail
 refine (octet_TakeKey (some ⟨k,0,none⟩) 64 64 s 1 _ (HRD.out _ (below_alloc _ _)) (by omega) (by omega) (by omega)).mono ?_
 rw [← HT1.out]
 rintro e w1 ⟨he,hw⟩
 rw [toldK] at he
 subst he hw
 go_wp2_with fail
 refine (octet_TakeKey (some ⟨k,0,none⟩) 64 64 s 9 _ (HRD.out _ (below_alloc _ _)) (by omega) (by omega) (by omega)).mono ?_
 rw [← HT9.out]
 rintro e w1 ⟨he,hw⟩
 rw [toldK] at he
 subst he hw
 go_wp2
 generalize hw2:World.alloc (World.alloc w _) _=w2
 have HZ2:Hid (Blk w2 w.heap.size #[.int .i64 0,.int .i64 0] 253):=by
  show Blk _ _ _ _
  rw [← hw2]
  exact (Blk.new w _ _).stay (below_alloc _ _)
 have HE2:Hid (Blk w2 (w.heap.size+1) #[.int .i64 n,.int .i64 v] 253):=by
  show Blk _ _ _ _
  rw [← hw2]
  have:=Blk.new (w.alloc (.cells #[.int .i64 0,.int .i64 0] 253)) #[.int .i64 n,.int .i64 v] 253
  simpa using this
 have HB2:Hid (Below w.heap.size w w2):=by
  show Below _ _ _
  rw [← hw2]
  exact (below_alloc w _).trans ((below_alloc _ _).mono (by simp))
 clear hw2
 by_cases c1:n<1
 ·have HN0:Hid (R=(0,0)):=by show _=_;rw [HRV.out,if_neg (by omega)]
  have d1:decide (n<1)=true:=decide_eq_true c1
  go_quiet (fail)
  generalize hnq:w2.drewN _=w3
  have HB3:Hid (Below w2.heap.size w2 w3):=by show Below _ _ _;rw [← hnq];exact below_drewsA (Below.refl _ _) _
  clear hnq
  have z0:w3.cell? ⟨w.heap.size,0,none⟩=some (.int .i64 0):=(HZ2.out.stay HB3.out).cell 0 rfl
  have z1:w3.cell? ⟨w.heap.size,1,none⟩=some (.int .i64 0):=(HZ2.out.stay HB3.out).cell 1 rfl
  have f0:=(HZ2.out.stay HB3.out).free 0
  have f1:=(HZ2.out.stay HB3.out).free 1
  have HB4:Hid (Below w.heap.size w w3):=HB2.out.trans (HB3.out.mono HB2.out.size)
  go_wp2
  refine bodyPost_ret (results_read (cs:=[.int .i64 0,.int .i64 0]) (by rfl) (((HZ2.out.stay HB3.out).set 0 _).set 1 _) rfl) rfl ?_
  rw [HN0.out]
  exact ⟨rfl,(HB4.out.setCell (Nat.le_refl _) _).setCell (Nat.le_refl _) _⟩
 have d1:decide (n<1)=false:=decide_eq_false c1
 by_cases c2:4611686018427387904<n
 ·have HN0:Hid (R=(0,0)):=by show _=_;rw [HRV.out,if_neg (by omega)]
  have d2:decide (4611686018427387904<n)=true:=decide_eq_true c2
  go_quiet (fail)
  generalize hnq:w2.drewN _=w3
  have HB3:Hid (Below w2.heap.size w2 w3):=by show Below _ _ _;rw [← hnq];exact below_drewsA (Below.refl _ _) _
  clear hnq
  have z0:w3.cell? ⟨w.heap.size,0,none⟩=some (.int .i64 0):=(HZ2.out.stay HB3.out).cell 0 rfl
  have z1:w3.cell? ⟨w.heap.size,1,none⟩=some (.int .i64 0):=(HZ2.out.stay HB3.out).cell 1 rfl
  have f0:=(HZ2.out.stay HB3.out).free 0
  have f1:=(HZ2.out.stay HB3.out).free 1
  have HB4:Hid (Below w.heap.size w w3):=HB2.out.trans (HB3.out.mono HB2.out.size)
  go_wp2
  refine bodyPost_ret (results_read (cs:=[.int .i64 0,.int .i64 0]) (by rfl) (((HZ2.out.stay HB3.out).set 0 _).set 1 _) rfl) rfl ?_
  rw [HN0.out]
  exact ⟨rfl,(HB4.out.setCell (Nat.le_refl _) _).setCell (Nat.le_refl _) _⟩
 have d2:decide (4611686018427387904<n)=false:=decide_eq_false c2
 by_cases c3:v<0
 ·have HN0:Hid (R=(0,0)):=by show _=_;rw [HRV.out,if_neg (by omega)]
  have d3:decide (v<0)=true:=decide_eq_true c3
  go_quiet (fail)
  generalize hnq:w2.drewN _=w3
  have HB3:Hid (Below w2.heap.size w2 w3):=by show Below _ _ _;rw [← hnq];exact below_drewsA (Below.refl _ _) _
  clear hnq
  have z0:w3.cell? ⟨w.heap.size,0,none⟩=some (.int .i64 0):=(HZ2.out.stay HB3.out).cell 0 rfl
  have z1:w3.cell? ⟨w.heap.size,1,none⟩=some (.int .i64 0):=(HZ2.out.stay HB3.out).cell 1 rfl
  have f0:=(HZ2.out.stay HB3.out).free 0
  have f1:=(HZ2.out.stay HB3.out).free 1
  have HB4:Hid (Below w.heap.size w w3):=HB2.out.trans (HB3.out.mono HB2.out.size)
  go_wp2
  refine bodyPost_ret (results_read (cs:=[.int .i64 0,.int .i64 0]) (by rfl) (((HZ2.out.stay HB3.out).set 0 _).set 1 _) rfl) rfl ?_
  rw [HN0.out]
  exact ⟨rfl,(HB4.out.setCell (Nat.le_refl _) _).setCell (Nat.le_refl _) _⟩
 have d3:decide (v<0)=false:=decide_eq_false c3
 by_cases c4:1099511627776<v
 ·have HN0:Hid (R=(0,0)):=by show _=_;rw [HRV.out,if_neg (by omega)]
  have d4:decide (1099511627776<v)=true:=decide_eq_true c4
  go_quiet (fail)
  generalize hnq:w2.drewN _=w3
  have HB3:Hid (Below w2.heap.size w2 w3):=by show Below _ _ _;rw [← hnq];exact below_drewsA (Below.refl _ _) _
  clear hnq
  have z0:w3.cell? ⟨w.heap.size,0,none⟩=some (.int .i64 0):=(HZ2.out.stay HB3.out).cell 0 rfl
  have z1:w3.cell? ⟨w.heap.size,1,none⟩=some (.int .i64 0):=(HZ2.out.stay HB3.out).cell 1 rfl
  have f0:=(HZ2.out.stay HB3.out).free 0
  have f1:=(HZ2.out.stay HB3.out).free 1
  have HB4:Hid (Below w.heap.size w w3):=HB2.out.trans (HB3.out.mono HB2.out.size)
  go_wp2
  refine bodyPost_ret (results_read (cs:=[.int .i64 0,.int .i64 0]) (by rfl) (((HZ2.out.stay HB3.out).set 0 _).set 1 _) rfl) rfl ?_
  rw [HN0.out]
  exact ⟨rfl,(HB4.out.setCell (Nat.le_refl _) _).setCell (Nat.le_refl _) _⟩
 have d4:decide (1099511627776<v)=false:=decide_eq_false c4
 have HNR:Hid (((-9223372036854775808:Int)≤n∧n≤9223372036854775807)∧((-9223372036854775808:Int)≤v∧v≤9223372036854775807)):=⟨by omega,by omega⟩
 obtain ⟨L,HL⟩:∃ L,Hid (L=layB x n v):=⟨_,rfl⟩
 have HLS:Hid (Sec L):=by
  show Sec _
  rw [HL.out,HX.out]
  exact layB_sec n v (getD_lt HSB.out 0)
 have HX0:Hid ((vb s).toArray[0]? = some (.int .u8 (x:Int))):=by
  show _=_
  rw [HX.out,List.getElem?_toArray]
  have h0:0<s.length:=by rw [HSL.out];omega
  simp [vb,List.getD_eq_getElem?_getD,List.getElem?_eq_getElem h0]
 have HK2:Hid (Blk w2 k (vb s).toArray t):=HK.out.stay HB2.out
 have b0:w2.cell? ⟨k,0,none⟩=some (.int .u8 (x:Int)):=HK2.out.cell 0 HX0.out
 have b1:w2.cell? ⟨w.heap.size+1,0,none⟩=some (.int .i64 n):=HE2.out.cell 0 rfl
 have b2:w2.cell? ⟨w.heap.size+1,1,none⟩=some (.int .i64 v):=HE2.out.cell 1 rfl
 by_cases hq:s=L
 ·have HDQ:Hid (decide (s=L)=true):=decide_eq_true hq
  have HRE:Hid (R=(n,v)):=by show _=_;rw [HRV.out,← HL.out,if_pos ⟨⟨by omega,by omega⟩,⟨by omega,by omega⟩,hq⟩]
  clear hq
  have HBd:Hid (Below w2.heap.size w2 w2.drew):=(Below.refl _ _).drew
  go_region_held3 (fun w'=>w'.cell? ⟨k,0,none⟩=some (.int .u8 (x:Int))∧w'.cell? ⟨w.heap.size+1,0,none⟩=some (.int .i64 n)∧w'.cell? ⟨w.heap.size+1,1,none⟩=some (.int .i64 v)) (first | exact ⟨b0,b1,b2⟩ | exact ⟨e0,e1,e2⟩ | fail)
   (first
    | (go_at_call 203;refine (mark_lay x n v HNR.out.1 HNR.out.2 _).mono ?_;rw [← HL.out];rintro e w4 ⟨k4,rfl,_,hk4,hb4⟩;have HB4':Hid (Below w2.heap.size w2 w4):=HBd.out.trans hb4;have HK4:Hid (Blk w4 k4 (vb L).toArray 243):=hk4;have e0:w4.cell? ⟨k,0,none⟩=some (.int .u8 (x:Int)):=(HK2.out.stay HB4'.out).cell 0 HX0.out;have e1:w4.cell? ⟨w.heap.size+1,0,none⟩=some (.int .i64 n):=(HE2.out.stay HB4'.out).cell 0 rfl;have e2:w4.cell? ⟨w.heap.size+1,1,none⟩=some (.int .i64 v):=(HE2.out.stay HB4'.out).cell 1 rfl;clear hk4 hb4)
    | (go_at_call 296;refine (bytes_Equal (some ⟨k,0,none⟩) (some ⟨k4,0,none⟩) 64 64 64 64 s L _ (HRD.out _ (HB2.out.trans (HB4'.out.mono HB2.out.size))) (by have:=Rd.of_blk HK4.out HLS.out.byte;rw [HLS.out.len] at this;exact this)).mono ?_;rw [HDQ.out];rintro e w5 ⟨rfl,hw5⟩;subst w5))
  have z0:w4.cell? ⟨w.heap.size,0,none⟩=some (.int .i64 0):=(HZ2.out.stay HB4'.out).cell 0 rfl
  have z1:w4.cell? ⟨w.heap.size,1,none⟩=some (.int .i64 0):=(HZ2.out.stay HB4'.out).cell 1 rfl
  have f0:=(HZ2.out.stay HB4'.out).free 0
  have f1:=(HZ2.out.stay HB4'.out).free 1
  have HB4:Hid (Below w.heap.size w w4):=HB2.out.trans (HB4'.out.mono HB2.out.size)
  clear b0 b1 b2
  go_wp2
  refine bodyPost_ret (results_read (cs:=[.int .i64 n,.int .i64 v]) (by rfl) (((HZ2.out.stay HB4'.out).set 0 _).set 1 _) rfl) rfl ?_
  rw [HRE.out]
  exact ⟨rfl,(HB4.out.setCell (Nat.le_refl _) _).setCell (Nat.le_refl _) _⟩
 ·have HDQ:Hid (decide (s=L)=false):=decide_eq_false hq
  have HRE:Hid (R=(0,0)):=by show _=_;rw [HRV.out,← HL.out,if_neg (fun h=>hq h.2.2)]
  clear hq
  have HBd:Hid (Below w2.heap.size w2 w2.drew):=(Below.refl _ _).drew
  go_region_held3 (fun w'=>w'.cell? ⟨k,0,none⟩=some (.int .u8 (x:Int))∧w'.cell? ⟨w.heap.size+1,0,none⟩=some (.int .i64 n)∧w'.cell? ⟨w.heap.size+1,1,none⟩=some (.int .i64 v)) (first | exact ⟨b0,b1,b2⟩ | exact ⟨e0,e1,e2⟩ | fail)
   (first
    | (go_at_call 203;refine (mark_lay x n v HNR.out.1 HNR.out.2 _).mono ?_;rw [← HL.out];rintro e w4 ⟨k4,rfl,_,hk4,hb4⟩;have HB4':Hid (Below w2.heap.size w2 w4):=HBd.out.trans hb4;have HK4:Hid (Blk w4 k4 (vb L).toArray 243):=hk4;have e0:w4.cell? ⟨k,0,none⟩=some (.int .u8 (x:Int)):=(HK2.out.stay HB4'.out).cell 0 HX0.out;have e1:w4.cell? ⟨w.heap.size+1,0,none⟩=some (.int .i64 n):=(HE2.out.stay HB4'.out).cell 0 rfl;have e2:w4.cell? ⟨w.heap.size+1,1,none⟩=some (.int .i64 v):=(HE2.out.stay HB4'.out).cell 1 rfl;clear hk4 hb4)
    | (go_at_call 296;refine (bytes_Equal (some ⟨k,0,none⟩) (some ⟨k4,0,none⟩) 64 64 64 64 s L _ (HRD.out _ (HB2.out.trans (HB4'.out.mono HB2.out.size))) (by have:=Rd.of_blk HK4.out HLS.out.byte;rw [HLS.out.len] at this;exact this)).mono ?_;rw [HDQ.out];rintro e w5 ⟨rfl,hw5⟩;subst w5))
  have z0:w4.cell? ⟨w.heap.size,0,none⟩=some (.int .i64 0):=(HZ2.out.stay HB4'.out).cell 0 rfl
  have z1:w4.cell? ⟨w.heap.size,1,none⟩=some (.int .i64 0):=(HZ2.out.stay HB4'.out).cell 1 rfl
  have f0:=(HZ2.out.stay HB4'.out).free 0
  have f1:=(HZ2.out.stay HB4'.out).free 1
  have HB4:Hid (Below w.heap.size w w4):=HB2.out.trans (HB4'.out.mono HB2.out.size)
  clear b0 b1 b2
  go_wp2
  refine bodyPost_ret (results_read (cs:=[.int .i64 0,.int .i64 0]) (by rfl) (((HZ2.out.stay HB4'.out).set 0 _).set 1 _) rfl) rfl ?_
  rw [HRE.out]
  exact ⟨rfl,(HB4.out.setCell (Nat.le_refl _) _).setCell (Nat.le_refl _) _⟩
end
section
open Go.RowKit
def Cs (w:World) (gc g b m:Nat):Prop:=Blk w gc #[.pointer (some ⟨g,0,none⟩),.int .i64 (b:Int),.int .i64 (m:Int)] 228
theorem Cs.stay {w w':World} {gc g b m:Nat} (h:Cs w gc g b m) (hb:Below w.heap.size w w'):Cs w' gc g b m:=Blk.stay h hb
theorem cells_has (w:World) (gc g b m:Nat) (i:Int) (h:Cs w gc g b m):Calls Tryz.prog 150 #[.pointer (some ⟨gc,0,none⟩),.int .i64 i] w fun e w'=>e=.returned (.bool (decide (0≤i∧i<(m:Int))))∧w'=w:=by
 have c2:w.cell? ⟨gc,2,none⟩=some (.int .i64 (m:Int)):=Blk.cell h 2 rfl
 clear h
 by_cases h0:0≤i
 ·by_cases h1:i<(m:Int)
  ·have HX:Hid (decide (0≤i∧i<(m:Int))=true):=decide_eq_true ⟨h0,h1⟩
   rw [HX.out]
   go_enter Tryz.func150,Tryz.ntmps150
   go_wp2
   go_ret
   exact ⟨rfl,rfl⟩
  ·have HX:Hid (decide (0≤i∧i<(m:Int))=false):=decide_eq_false (fun h=>h1 h.2)
   rw [HX.out]
   go_enter Tryz.func150,Tryz.ntmps150
   go_wp2
   go_ret
   exact ⟨rfl,rfl⟩
 ·have HX:Hid (decide (0≤i∧i<(m:Int))=false):=decide_eq_false (fun h=>h0 h.1)
  rw [HX.out]
  go_enter Tryz.func150,Tryz.ntmps150
  go_wp2
  go_ret
  exact ⟨rfl,rfl⟩
theorem cells_place (w:World) (gc g b m i:Nat) (q:Int) (h:Cs w gc g b m) (hb:b≤1000) (hi:i≤1000) (hq:0≤q∧q≤1):Calls Tryz.prog 153 #[.pointer (some ⟨gc,0,none⟩),.int .i64 (i:Int),.int .i64 q] w fun e w'=>e=.returned (.int .i64 ((b:Int)+2 * (i:Int)+q))∧w'=w:=by
 have c1:w.cell? ⟨gc,1,none⟩=some (.int .i64 (b:Int)):=Blk.cell h 1 rfl
 clear h
 go_enter Tryz.func153,Tryz.ntmps153
 go_wp2
 go_ret
 exact ⟨by go_num,rfl⟩
def lookB (D:Dk) (p:Int):Int×Int:=if readE D p=0 then readB (nowB D p.toNat) else (0,0)
theorem results_look {w:World} {tmps:Array Value} {g:Nat} {cs:List Value} (h4:tmps[4]?.getD undef=.pointer (some ⟨g,0,none⟩)) (k:Blk w g cs.toArray 253) (hl:cs.length=2):(results Tryz.f201 tmps).run Tryz.prog w=.ok (.agg cs.toArray) w:=by
 have hr:=run_loadVar_mid (P:=Tryz.prog) w g 0 253 cs _ (k.range 0 cs (fun j v hj=>by simpa using hj)) Tryz.underlying253 rfl (by rw [hl];exact infoEntry)
 simp [results,Tryz.results201,h4,hr,asAddr]
theorem cells_look (w:World) (base g gs:Nat) (wv:Value) (D:Dk) (gc b m:Nat) (p:Int) (h:Disk w base g gs wv D) (hc:Cs w gc g b m) :
  Calls Tryz.prog 201 #[.pointer (some ⟨gc,0,none⟩),.int .i64 p] w fun e w'=>e=.returned (.agg #[.int .i64 (lookB D p).1,.int .i64 (lookB D p).2])∧Below w.heap.size w w':=by
 obtain ⟨R,HR⟩:∃ R,Hid (R=lookB D p):=⟨_,rfl⟩
 rw [← HR.out]
 have HD:Hid (∀ w',Below w.heap.size w w'→Disk w' base g gs wv D):=fun w' hb=>h.stay hb
 have HC:Hid (Cs w gc g b m):=hc
 clear h hc
 go_enter Tryz.func201,Tryz.ntmps201
 have c0:(w.alloc (.cells #[.int .i64 0,.int .i64 0] 253)).cell? ⟨gc,0,none⟩=some (.pointer (some ⟨g,0,none⟩)):=Blk.cell (HC.out.stay (below_alloc _ _)) 0 rfl
 go_wp2_with fail
 generalize hw1:World.alloc w _=w1 at *
 have HB1:Hid (Below w.heap.size w w1):=by show Below _ _ _;rw [← hw1];exact below_alloc _ _
 have HZ1:Hid (Blk w1 w.heap.size #[.int .i64 0,.int .i64 0] 253):=by show Blk _ _ _ _;rw [← hw1];exact Blk.new _ _ _
 clear hw1 c0
 refine (disk_Read w1 base g gs wv D p (HD.out _ HB1.out)).mono ?_
 rintro e w2 ⟨ht,hb2⟩
 have HB2:Hid (Below w.heap.size w w2):=HB1.out.trans (hb2.mono HB1.out.size)
 have HZ2:Hid (Blk w2 w.heap.size #[.int .i64 0,.int .i64 0] 253):=HZ1.out.stay hb2
 rcases ht.out with ⟨hne,rfl⟩ | ⟨h0,k,rfl,_,hk,hs⟩
 ·have HX:Hid (R=(0,0)):=by show _=_;rw [HR.out,lookB,if_neg hne]
  have z0:w2.cell? ⟨w.heap.size,0,none⟩=some (.int .i64 0):=HZ2.out.cell 0 rfl
  have z1:w2.cell? ⟨w.heap.size,1,none⟩=some (.int .i64 0):=HZ2.out.cell 1 rfl
  have f0:=HZ2.out.free 0
  have f1:=HZ2.out.free 1
  have hne':¬ (readE D p == 0)=true:=by simpa using hne
  generalize readE D p=E at *
  clear ht hb2
  go_wp2
  refine bodyPost_ret (results_look (cs:=[.int .i64 0,.int .i64 0]) (by rfl) ((HZ2.out.set 0 _).set 1 _) rfl) rfl ?_
  rw [HX.out]
  exact ⟨rfl,(HB2.out.setCell (Nat.le_refl _) _).setCell (Nat.le_refl _) _⟩
 ·have HX:Hid (R=readB (nowB D p.toNat)):=by show _=_;rw [HR.out,lookB,if_pos h0]
  have HK:Hid (Blk w2 k (vb (nowB D p.toNat)).toArray 244):=hk
  have HS:Hid (Sec (nowB D p.toNat)):=hs
  clear ht hb2 hk hs h0
  go_wp2_with fail
  refine (mark_read k 244 _ w2 HK.out HS.out).mono ?_
  rw [← HX.out]
  rintro e w3 ⟨rfl,hb3⟩
  have HB3:Hid (Below w.heap.size w w3):=HB2.out.trans (hb3.mono HB2.out.size)
  have HZ3:Hid (Blk w3 w.heap.size #[.int .i64 0,.int .i64 0] 253):=HZ2.out.stay hb3
  have z0:w3.cell? ⟨w.heap.size,0,none⟩=some (.int .i64 0):=HZ3.out.cell 0 rfl
  have z1:w3.cell? ⟨w.heap.size,1,none⟩=some (.int .i64 0):=HZ3.out.cell 1 rfl
  have f0:=HZ3.out.free 0
  have f1:=HZ3.out.free 1
  clear hb3
  go_wp2
  refine bodyPost_ret (results_look (cs:=[.int .i64 R.1,.int .i64 R.2]) (by rfl) ((HZ3.out.set 0 _).set 1 _) rfl) rfl ?_
  exact ⟨rfl,(HB3.out.setCell (Nat.le_refl _) _).setCell (Nat.le_refl _) _⟩
end
section
open Go.RowKit
def standB (D:Dk) (b i:Nat):Int×Int×Int :=
 if (lookB D ((b:Int)+2 * (i:Int)+0)).1=0∨(lookB D ((b:Int)+2 * (i:Int)+0)).1<(lookB D ((b:Int)+2 * (i:Int)+1)).1 then (1,lookB D ((b:Int)+2 * (i:Int)+1)) else (0,lookB D ((b:Int)+2 * (i:Int)+0))
theorem results_standing {w:World} {tmps:Array Value} {g:Nat} {cs:List Value} {v:Value} (h4:tmps[4]?.getD undef=v) (h5:tmps[5]?.getD undef=.pointer (some ⟨g,0,none⟩)) (k:Blk w g cs.toArray 253) (hl:cs.length=2):(results Tryz.f151 tmps).run Tryz.prog w=.ok (.tuple #[v,.agg cs.toArray]) w:=by
 have hr:=run_loadVar_mid (P:=Tryz.prog) w g 0 253 cs _ (k.range 0 cs (fun j v hj=>by simpa using hj)) Tryz.underlying253 rfl (by rw [hl];exact infoEntry)
 simp [results,Tryz.results151,h4,h5,hr,asAddr]
theorem cells_standing (w:World) (base g gs:Nat) (wv:Value) (D:Dk) (gc b m i:Nat) (h:Disk w base g gs wv D) (hc:Cs w gc g b m) (hb:b≤1000) (hi:i≤1000) :
  Calls Tryz.prog 151 #[.pointer (some ⟨gc,0,none⟩),.int .i64 (i:Int)] w fun e w'=>e=.returned (.tuple #[.int .i64 (standB D b i).1,.agg #[.int .i64 (standB D b i).2.1,.int .i64 (standB D b i).2.2]])∧Below w.heap.size w w':=by
 obtain ⟨R,HR⟩:∃ R,Hid (R=standB D b i):=⟨_,rfl⟩
 rw [← HR.out]
 obtain ⟨p,HP⟩:∃ p,Hid (p=(b:Int)+2 * (i:Int)+0):=⟨_,rfl⟩
 obtain ⟨q,HQ⟩:∃ q,Hid (q=(b:Int)+2 * (i:Int)+1):=⟨_,rfl⟩
 obtain ⟨⟨fn,fv⟩,HF⟩:∃ F,Hid (F=lookB D p):=⟨_,rfl⟩
 obtain ⟨⟨sn,sv⟩,HS⟩:∃ F,Hid (F=lookB D q):=⟨_,rfl⟩
 have HRV:Hid (R=if fn=0∨fn<sn then (1,sn,sv) else (0,fn,fv)):=by
  show _=_
  rw [HR.out,standB,← HP.out,← HQ.out,← HF.out,← HS.out]
 have HD:Hid (∀ w',Below w.heap.size w w'→Disk w' base g gs wv D):=fun w' hb=>h.stay hb
 have HC:Hid (∀ w',Below w.heap.size w w'→Cs w' gc g b m):=fun w' hb=>hc.stay hb
 have HBI:Hid (b≤1000∧i≤1000):=⟨hb,hi⟩
 clear h hc HR hb hi
 go_enter Tryz.func151,Tryz.ntmps151
 go_wp2_with fail
 generalize hw1:World.alloc w _=w1 at *
 have HB1:Hid (Below w.heap.size w w1):=by show Below _ _ _;rw [← hw1];exact below_alloc _ _
 have HZ1:Hid (Blk w1 w.heap.size #[.int .i64 0,.int .i64 0] 253):=by show Blk _ _ _ _;rw [← hw1];exact Blk.new _ _ _
 clear hw1
 refine (cells_place w1 gc g b m i 0 (HC.out _ HB1.out) HBI.out.1 HBI.out.2 (by omega)).mono ?_
 rw [← HP.out]
 rintro e w' ⟨rfl,hw⟩
 subst w'
 go_wp2_with fail
 refine (cells_look w1 base g gs wv D gc b m p (HD.out _ HB1.out) (HC.out _ HB1.out)).mono ?_
 rw [← HF.out]
 rintro e w2 ⟨rfl,hb2⟩
 have HB2:Hid (Below w.heap.size w w2):=HB1.out.trans (hb2.mono HB1.out.size)
 have HZ2:Hid (Blk w2 w.heap.size #[.int .i64 0,.int .i64 0] 253):=HZ1.out.stay hb2
 clear hb2
 go_wp2_with fail
 refine (cells_place w2 gc g b m i 1 (HC.out _ HB2.out) HBI.out.1 HBI.out.2 (by omega)).mono ?_
 rw [← HQ.out]
 rintro e w' ⟨rfl,hw⟩
 subst w'
 go_wp2_with fail
 refine (cells_look w2 base g gs wv D gc b m q (HD.out _ HB2.out) (HC.out _ HB2.out)).mono ?_
 rw [← HS.out]
 rintro e w3 ⟨rfl,hb3⟩
 have HB3:Hid (Below w.heap.size w w3):=HB2.out.trans (hb3.mono HB2.out.size)
 have HZ3:Hid (Blk w3 w.heap.size #[.int .i64 0,.int .i64 0] 253):=HZ2.out.stay hb3
 clear hb3
 by_cases h0:fn=0
 ·have HX:Hid (R=(1,sn,sv)):=by show _=_;rw [HRV.out,if_pos (.inl h0)]
  have h0':(fn == 0)=true:=by rw [beq_iff_eq];exact h0
  go_wp2
  generalize hw4:World.alloc (World.alloc w3 _) _=w4
  have HB34:Hid (Below w3.heap.size w3 w4):=by show Below _ _ _;rw [← hw4];exact (below_alloc _ _).trans ((below_alloc _ _).mono (by simp))
  have HE4:Hid (Blk w4 (w3.heap.size+1) #[.int .i64 sn,.int .i64 sv] 253):=by
   show Blk _ _ _ _
   rw [← hw4]
   first
    | exact (Blk.new w3 _ _).stay (below_alloc _ _)
    | (have:=Blk.new (w3.alloc (.cells #[.int .i64 fn,.int .i64 fv] 253)) #[.int .i64 sn,.int .i64 sv] 253;simpa using this)
    | (have:=Blk.new (w3.alloc (.cells #[.int .i64 0,.int .i64 fv] 253)) #[.int .i64 sn,.int .i64 sv] 253;simpa using this)
  have HB4:Hid (Below w.heap.size w w4):=HB3.out.trans (HB34.out.mono HB3.out.size)
  have HZ4:Hid (Blk w4 w.heap.size #[.int .i64 0,.int .i64 0] 253):=HZ3.out.stay HB34.out
  clear hw4
  have e0:w4.cell? ⟨w3.heap.size+1,0,none⟩=some (.int .i64 sn):=HE4.out.cell 0 rfl
  have e1:w4.cell? ⟨w3.heap.size+1,1,none⟩=some (.int .i64 sv):=HE4.out.cell 1 rfl
  have z0:w4.cell? ⟨w.heap.size,0,none⟩=some (.int .i64 0):=HZ4.out.cell 0 rfl
  have z1:w4.cell? ⟨w.heap.size,1,none⟩=some (.int .i64 0):=HZ4.out.cell 1 rfl
  have f0:=HZ4.out.free 0
  have f1:=HZ4.out.free 1
  go_region
  all_goals
   go_wp2
   refine bodyPost_ret (results_standing (cs:=[.int .i64 sn,.int .i64 sv]) (v:=.int .i64 1) (by rfl) (by rfl) (((HZ4.out.stay (Below.refl _ _).drew).set 0 _).set 1 _) rfl) rfl ?_
   rw [HX.out]
   exact ⟨rfl,(HB4.out.drew.setCell (Nat.le_refl _) _).setCell (Nat.le_refl _) _⟩
 have h0':(fn == 0)=false:=by rw [beq_eq_false_iff_ne];exact h0
 by_cases h1:fn<sn
 ·have HX:Hid (R=(1,sn,sv)):=by show _=_;rw [HRV.out,if_pos (.inr h1)]
  go_wp2
  generalize hw4:World.alloc (World.alloc w3 _) _=w4
  have HB34:Hid (Below w3.heap.size w3 w4):=by show Below _ _ _;rw [← hw4];exact (below_alloc _ _).trans ((below_alloc _ _).mono (by simp))
  have HE4:Hid (Blk w4 (w3.heap.size+1) #[.int .i64 sn,.int .i64 sv] 253):=by
   show Blk _ _ _ _
   rw [← hw4]
   first
    | exact (Blk.new w3 _ _).stay (below_alloc _ _)
    | (have:=Blk.new (w3.alloc (.cells #[.int .i64 fn,.int .i64 fv] 253)) #[.int .i64 sn,.int .i64 sv] 253;simpa using this)
    | (have:=Blk.new (w3.alloc (.cells #[.int .i64 0,.int .i64 fv] 253)) #[.int .i64 sn,.int .i64 sv] 253;simpa using this)
  have HB4:Hid (Below w.heap.size w w4):=HB3.out.trans (HB34.out.mono HB3.out.size)
  have HZ4:Hid (Blk w4 w.heap.size #[.int .i64 0,.int .i64 0] 253):=HZ3.out.stay HB34.out
  clear hw4
  have e0:w4.cell? ⟨w3.heap.size+1,0,none⟩=some (.int .i64 sn):=HE4.out.cell 0 rfl
  have e1:w4.cell? ⟨w3.heap.size+1,1,none⟩=some (.int .i64 sv):=HE4.out.cell 1 rfl
  have z0:w4.cell? ⟨w.heap.size,0,none⟩=some (.int .i64 0):=HZ4.out.cell 0 rfl
  have z1:w4.cell? ⟨w.heap.size,1,none⟩=some (.int .i64 0):=HZ4.out.cell 1 rfl
  have f0:=HZ4.out.free 0
  have f1:=HZ4.out.free 1
  go_region
  all_goals
   go_wp2
   refine bodyPost_ret (results_standing (cs:=[.int .i64 sn,.int .i64 sv]) (v:=.int .i64 1) (by rfl) (by rfl) (((HZ4.out.stay (Below.refl _ _).drew).set 0 _).set 1 _) rfl) rfl ?_
   rw [HX.out]
   exact ⟨rfl,(HB4.out.drew.setCell (Nat.le_refl _) _).setCell (Nat.le_refl _) _⟩
 ·have HX:Hid (R=(0,fn,fv)):=by show _=_;rw [HRV.out,if_neg (by omega)]
  go_wp2
  generalize hw4:World.alloc (World.alloc w3 _) _=w4
  have HB34:Hid (Below w3.heap.size w3 w4):=by show Below _ _ _;rw [← hw4];exact (below_alloc _ _).trans ((below_alloc _ _).mono (by simp))
  have HE4:Hid (Blk w4 (w3.heap.size) #[.int .i64 fn,.int .i64 fv] 253):=by
   show Blk _ _ _ _
   rw [← hw4]
   first
    | exact (Blk.new w3 _ _).stay (below_alloc _ _)
    | (have:=Blk.new (w3.alloc (.cells #[.int .i64 fn,.int .i64 fv] 253)) #[.int .i64 sn,.int .i64 sv] 253;simpa using this)
    | (have:=Blk.new (w3.alloc (.cells #[.int .i64 0,.int .i64 fv] 253)) #[.int .i64 sn,.int .i64 sv] 253;simpa using this)
  have HB4:Hid (Below w.heap.size w w4):=HB3.out.trans (HB34.out.mono HB3.out.size)
  have HZ4:Hid (Blk w4 w.heap.size #[.int .i64 0,.int .i64 0] 253):=HZ3.out.stay HB34.out
  clear hw4
  have e0:w4.cell? ⟨w3.heap.size,0,none⟩=some (.int .i64 fn):=HE4.out.cell 0 rfl
  have e1:w4.cell? ⟨w3.heap.size,1,none⟩=some (.int .i64 fv):=HE4.out.cell 1 rfl
  have z0:w4.cell? ⟨w.heap.size,0,none⟩=some (.int .i64 0):=HZ4.out.cell 0 rfl
  have z1:w4.cell? ⟨w.heap.size,1,none⟩=some (.int .i64 0):=HZ4.out.cell 1 rfl
  have f0:=HZ4.out.free 0
  have f1:=HZ4.out.free 1
  go_region
  all_goals
   go_wp2
   refine bodyPost_ret (results_standing (cs:=[.int .i64 fn,.int .i64 fv]) (v:=.int .i64 0) (by rfl) (by rfl) (((HZ4.out.stay (Below.refl _ _).drew).set 0 _).set 1 _) rfl) rfl ?_
   rw [HX.out]
   exact ⟨rfl,(HB4.out.drew.setCell (Nat.le_refl _) _).setCell (Nat.le_refl _) _⟩
def getB (D:Dk) (b m:Nat) (i:Int):Int×Bool:=if 0≤i∧i<(m:Int) then ((standB D b i.toNat).2.2,decide (0<(standB D b i.toNat).2.1)) else (0,false)
theorem cells_Get (w:World) (base g gs:Nat) (wv:Value) (D:Dk) (gc b m:Nat) (i:Int) (h:Disk w base g gs wv D) (hc:Cs w gc g b m) (hb:b≤1000) (hm:m≤1000) :
  Calls Tryz.prog 149 #[.pointer (some ⟨gc,0,none⟩),.int .i64 i] w fun e w'=>e=.returned (.tuple #[.int .i64 (getB D b m i).1,.bool (getB D b m i).2])∧Below w.heap.size w w':=by
 obtain ⟨R,HR⟩:∃ R,Hid (R=getB D b m i):=⟨_,rfl⟩
 rw [← HR.out]
 have HD:Hid (Disk w base g gs wv D):=h
 have HC:Hid (Cs w gc g b m):=hc
 clear h hc
 go_enter Tryz.func149,Tryz.ntmps149
 go_wp2_with fail
 refine (cells_has w gc g b m i HC.out).mono ?_
 by_cases hh:0≤i∧i<(m:Int)
 ·rw [decide_eq_true hh]
  rintro e w' ⟨rfl,hw⟩
  subst w'
  obtain ⟨j,rfl⟩:=Int.eq_ofNat_of_zero_le hh.1
  obtain ⟨⟨x,y,z⟩,HS⟩:∃ S,Hid (S=standB D b j):=⟨_,rfl⟩
  have HX:Hid (R=(z,decide (0<y))):=by show _=_;rw [HR.out,getB,if_pos hh,Int.toNat_natCast,← HS.out]
  go_wp2_with fail
  refine (cells_standing w base g gs wv D gc b m j HD.out HC.out hb (by omega)).mono ?_
  rw [← HS.out]
  rintro e w2 ⟨rfl,hb2⟩
  have HB2:Hid (Below w.heap.size w w2):=hb2
  clear hb2
  go_wp2
  go_quiet (fail)
  generalize hnq:World.drewN _ _=w4
  have HB4:Hid (Below w.heap.size w w4):=by
   show Below _ _ _
   rw [← hnq]
   exact below_drewsA (HB2.out.trans ((below_alloc _ _).mono HB2.out.size)) _
  clear hnq
  go_wp2
  go_returns
  rw [HX.out]
  exact ⟨rfl,HB4.out⟩
 ·rw [decide_eq_false hh]
  have HX:Hid (R=(0,false)):=by show _=_;rw [HR.out,getB,if_neg hh]
  rintro e w' ⟨rfl,hw⟩
  subst w'
  go_wp2
  go_returns
  rw [HX.out]
  exact ⟨rfl,Below.refl _ _⟩
end
end Go.Proofs.YtoiennkfdjnkbaaGreatDoor
