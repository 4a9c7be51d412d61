import Derived.Test.YtoiennkfdjnkbaaGreatDoorPk43
set_option maxRecDepth 100000
set_option maxHeartbeats 8000000
namespace Go.Proofs.YtoiennkfdjnkbaaGreatDoor
section
open Go.RowKit Go.Shelf Go.Maps
theorem Row1.mid {w:World} {g:Nat} {e:TypeId} {cs:List Value} (h:Row1 w g e cs) (o:Nat) (xs:List Value) (hx:∀ j u,xs[j]? = some u→cs[o+j]? = some u):w.rangeAt g o xs:=fun j _ hj=>h.cell (o+j) (hx j _ hj)
theorem Fg.mv {w w':World} {base g gs:Nat} {wv:Value} {D:Dk} (hd:Disk w base g gs wv D) (h:Mv w w' base g gs):Fg lgT w w':=Fg.of_ft (Ft.of_mv hd h)
theorem br_put1 (w:World) (base g gsd:Nat) (wv:Value) (D:Dk) (gc b gr c:Nat) (i v:Int) (hd:Disk w base g gsd wv D) (hc:Cs w gc g b 16) (hb:b≤1000) (hwl:D.waits.length<1000000000) (he:putCE D b 16 i v=0) (hr:Row1 w gr 194 [.int .i64 i,.int .i64 v]) :
  Calls Tryz.prog 109 #[.pointer (some ⟨gc,0,none⟩),.slice (some ⟨gr,0,none⟩) 1 c] w fun e w'=>e=.returned (.int .i64 0)∧Hid (∃ wv',Disk w' base g gsd wv' (putCD D b 16 i v))∧Mv w w' base g gsd:=by
 have HBW:Hid (base≤w.heap.size):=Nat.le_trans hd.bg (Nat.le_of_lt hd.blk.lt)
 obtain ⟨W1,HW1⟩:∃ W,Hid (W=w.alloc (.cells #[.int .i64 i,.int .i64 v] 194)):=⟨_,rfl⟩
 have HX1:Hid (Below w.heap.size w W1):=by (show Below _ _ _);rw [HW1.out];exact below_alloc _ _
 have HK1:Hid (Row1 W1 w.heap.size 194 [.int .i64 i,.int .i64 v]):=by (show Row1 _ _ _ _);rw [HW1.out];exact Row1.of (Blk.new _ _ _)
 have HPU:=cells_Put W1 base g gsd wv D gc b 16 i v (hd.stay HX1.out) (hc.stay HX1.out) hb (by decide) hwl
 rw [he] at HPU
 have HR:Hid (w.rangeAt gr 0 [.int .i64 i,.int .i64 v]):=hr.range
 have k0:W1.cell? ⟨w.heap.size,0,none⟩=some (.int .i64 i):=HK1.out.cell 0 rfl
 have k1:W1.cell? ⟨w.heap.size,1,none⟩=some (.int .i64 v):=HK1.out.cell 1 rfl
 obtain ⟨D',HD'⟩:∃ D',Hid (D'=putCD D b 16 i v):=⟨_,rfl⟩
 rw [← HD'.out] at HPU ⊢
 clear hd hc hb hwl he hr
 go_enter Tryz.func109,Tryz.ntmps109
 go_wp2_with fail
 refine wp_loop_rounds 2 ?_
 rw [rounds_succ]
 go_upto_region 4 with (guard_target =~ wpList _ _ _ (Oper.mk (some 13) _ _ _ _ _ :: _) _ _;refine wpList_load_mid rfl 194 (.tmp 12) rfl gr 0 rfl [.int .i64 i,.int .i64 v] _ HR.out Tryz.underlying194 rfl (by rfl) ?_)
 rw [← HW1.out]
 go_wp2_with fail
 refine HPU.mono ?_
 rintro e w2 ⟨rfl,hd2,hm2⟩
 have HD2:Hid (∃ wv',Disk w2 base g gsd wv' D'):=hd2
 have HM2:Hid (Mv w w2 base g gsd):=(Mv.of_below g gsd HX1.out HBW.out).trans hm2
 clear hd2 hm2 HPU k0 k1
 go_wp2_with fail
 rw [rounds_succ]
 go_wp2
 go_returns
 exact ⟨rfl,HD2.out,HM2.out⟩
theorem br_put2 (w:World) (base g gsd:Nat) (wv:Value) (D:Dk) (gc b gr c:Nat) (i v j u:Int) (hd:Disk w base g gsd wv D) (hc:Cs w gc g b 16) (hb:b≤1000) (hwl:D.waits.length<1000000000) (he:putCE D b 16 i v=0) (hwl2:(putCD D b 16 i v).waits.length<1000000000) (he2:putCE (putCD D b 16 i v) b 16 j u=0) (hr:Row1 w gr 194 [.int .i64 i,.int .i64 v,.int .i64 j,.int .i64 u]) :
  Calls Tryz.prog 109 #[.pointer (some ⟨gc,0,none⟩),.slice (some ⟨gr,0,none⟩) 2 c] w fun e w'=>e=.returned (.int .i64 0)∧Hid (∃ wv',Disk w' base g gsd wv' (putCD (putCD D b 16 i v) b 16 j u))∧Mv w w' base g gsd:=by
 have HBW:Hid (base≤w.heap.size):=Nat.le_trans hd.bg (Nat.le_of_lt hd.blk.lt)
 obtain ⟨W1,HW1⟩:∃ W,Hid (W=w.alloc (.cells #[.int .i64 i,.int .i64 v] 194)):=⟨_,rfl⟩
 have HX1:Hid (Below w.heap.size w W1):=by (show Below _ _ _);rw [HW1.out];exact below_alloc _ _
 have HK1:Hid (Row1 W1 w.heap.size 194 [.int .i64 i,.int .i64 v]):=by (show Row1 _ _ _ _);rw [HW1.out];exact Row1.of (Blk.new _ _ _)
 have HDS:Hid (Disk w base g gsd wv D):=hd
 have HCS:Hid (Cs w gc g b 16):=hc
 have HRW:Hid (Row1 w gr 194 [.int .i64 i,.int .i64 v,.int .i64 j,.int .i64 u]):=hr
 have HPU:=cells_Put W1 base g gsd wv D gc b 16 i v (hd.stay HX1.out) (hc.stay HX1.out) hb (by decide) hwl
 rw [he] at HPU
 have HR:Hid (w.rangeAt gr 0 [.int .i64 i,.int .i64 v]):=hr.mid 0 _ (fun k u hk=>by
  match k,hk with
  | 0,hk=>exact hk
  | 1,hk=>exact hk)
 have k0:W1.cell? ⟨w.heap.size,0,none⟩=some (.int .i64 i):=HK1.out.cell 0 rfl
 have k1:W1.cell? ⟨w.heap.size,1,none⟩=some (.int .i64 v):=HK1.out.cell 1 rfl
 obtain ⟨D',HD'⟩:∃ D',Hid (D'=putCD D b 16 i v):=⟨_,rfl⟩
 rw [← HD'.out] at HPU hwl2 he2 ⊢
 obtain ⟨D'',HD''⟩:∃ D'',Hid (D''=putCD D' b 16 j u):=⟨_,rfl⟩
 rw [← HD''.out]
 have HH:Hid (D'.waits.length<1000000000∧putCE D' b 16 j u=0∧b≤1000):=⟨hwl2,he2,hb⟩
 clear hd hc hb hwl he hr hwl2 he2
 go_enter Tryz.func109,Tryz.ntmps109
 go_wp2_with fail
 refine wp_loop_rounds 3 ?_
 rw [rounds_succ]
 go_upto_region 4 with (guard_target =~ wpList _ _ _ (Oper.mk (some 13) _ _ _ _ _ :: _) _ _;refine wpList_load_mid rfl 194 (.tmp 12) rfl gr 0 rfl [.int .i64 i,.int .i64 v] _ HR.out Tryz.underlying194 rfl (by rfl) ?_)
 rw [← HW1.out]
 go_wp2_with fail
 refine HPU.mono ?_
 rintro e w2 ⟨rfl,hd2,hm2⟩
 have HD2:Hid (∃ wv',Disk w2 base g gsd wv' D'):=hd2
 have HM2:Hid (Mv w w2 base g gsd):=(Mv.of_below g gsd HX1.out HBW.out).trans hm2
 clear hd2 hm2 HPU k0 k1
 obtain ⟨wv2,hd2⟩:=HD2.out
 have HDK2:Hid (Disk w2 base g gsd wv2 D'):=hd2
 have HF2:Hid (Fg lgT w w2):=Fg.mv HDS.out HM2.out
 have HR2:Hid (w2.rangeAt gr 2 [.int .i64 j,.int .i64 u]):=(HRW.out.fg HF2.out (by decide)).mid 2 _ (fun k u hk=>by
  match k,hk with
  | 0,hk=>exact hk
  | 1,hk=>exact hk)
 obtain ⟨W3,HW3⟩:∃ W,Hid (W=w2.alloc (.cells #[.int .i64 j,.int .i64 u] 194)):=⟨_,rfl⟩
 have HX3:Hid (Below w2.heap.size w2 W3):=by (show Below _ _ _);rw [HW3.out];exact below_alloc _ _
 have HK3:Hid (Row1 W3 w2.heap.size 194 [.int .i64 j,.int .i64 u]):=by (show Row1 _ _ _ _);rw [HW3.out];exact Row1.of (Blk.new _ _ _)
 have HBW2:Hid (base≤w2.heap.size):=Nat.le_trans HBW.out HF2.out.size
 have HP2:=cells_Put W3 base g gsd wv2 D' gc b 16 j u (HDK2.out.stay HX3.out) ((HCS.out.fg HF2.out (by decide)).stay HX3.out) HH.out.2.2 (by decide) HH.out.1
 rw [HH.out.2.1,← HD''.out] at HP2
 have k0:W3.cell? ⟨w2.heap.size,0,none⟩=some (.int .i64 j):=HK3.out.cell 0 rfl
 have k1:W3.cell? ⟨w2.heap.size,1,none⟩=some (.int .i64 u):=HK3.out.cell 1 rfl
 clear hd2
 go_wp2_with fail
 rw [rounds_succ]
 go_upto_region 4 with (guard_target =~ wpList _ _ _ (Oper.mk (some 13) _ _ _ _ _ :: _) _ _;refine wpList_load_mid rfl 194 (.tmp 12) rfl gr 2 rfl [.int .i64 j,.int .i64 u] _ HR2.out Tryz.underlying194 rfl (by rfl) ?_)
 rw [← HW3.out]
 go_wp2_with fail
 refine HP2.mono ?_
 rintro e w4 ⟨rfl,hd4,hm4⟩
 have HD4:Hid (∃ wv',Disk w4 base g gsd wv' D''):=hd4
 have HM4:Hid (Mv w w4 base g gsd):=(HM2.out.trans (Mv.of_below g gsd HX3.out HBW2.out)).trans hm4
 clear hd4 hm4 HP2 k0 k1
 go_wp2_with fail
 rw [rounds_succ]
 go_wp2
 go_returns
 exact ⟨rfl,HD4.out,HM4.out⟩
theorem br_stand (w:World) (base g gsd:Nat) (wv:Value) (D:Dk) (gst gc:Nat) (con:Bool) (cur hand:Int) (h:Disk w base g gsd wv D) (hc:Cs w gc g 0 16) (hs:Row1 w gst 109 (seatC gc con cur hand)) (n st x:Int) (hx1:IntKind.i64.wrap (4 * n)+st=x) (hx2:IntKind.i64.wrap x=x) (hwl:D.waits.length<1000000000) (he:putCE D 0 16 0 x=0) :
  Calls Tryz.prog 46 #[.pointer (some ⟨gst,0,none⟩),.int .i64 n,.int .i64 st] w fun e w'=>e=.returned (.int .i64 0)∧Hid (∃ wv',Disk w' base g gsd wv' (putCD D 0 16 0 x))∧Mv w w' base g gsd:=by
 have HBW:Hid (base≤w.heap.size):=Nat.le_trans h.bg (Nat.le_of_lt h.blk.lt)
 have HS:Hid (Row1 w gst 109 (seatC gc con cur hand)):=hs
 obtain ⟨W1,HW1⟩:∃ W,Hid (W=(w.alloc (.cells #[.int .i64 0,.int .i64 x] 194)).drew):=⟨_,rfl⟩
 have HX1:Hid (Below w.heap.size w W1):=by (show Below _ _ _);rw [HW1.out];exact (below_alloc _ _).drew
 have HK1:Hid (Row1 W1 w.heap.size 194 [.int .i64 0,.int .i64 x]):=by (show Row1 _ _ _ _);rw [HW1.out];exact (Row1.of (Blk.new _ _ _)).stay (Below.refl _ _).drew
 have HPU:=br_put1 W1 base g gsd wv D gc 0 w.heap.size 1 0 x (h.stay HX1.out) (hc.stay HX1.out) (by decide) hwl he HK1.out
 have c0:w.cell? ⟨gst,0,none⟩=some (.pointer (some ⟨gc,0,none⟩)):=hs.cell 0 rfl
 have c1:w.cell? ⟨gst,1,none⟩=some (.int .i64 1):=hs.cell 1 rfl
 have s0:w.cell? ⟨gst,0,none⟩=some (.pointer (some ⟨gc,0,none⟩))∧w.cell? ⟨gst,1,none⟩=some (.int .i64 1):=⟨c0,c1⟩
 have s1:W1.cell? ⟨gst,0,none⟩=some (.pointer (some ⟨gc,0,none⟩))∧W1.cell? ⟨gst,1,none⟩=some (.int .i64 1):=⟨(hs.stay HX1.out).cell 0 rfl,(hs.stay HX1.out).cell 1 rfl⟩
 obtain ⟨D',HD'⟩:∃ D',Hid (D'=putCD D 0 16 0 x):=⟨_,rfl⟩
 rw [← HD'.out] at HPU ⊢
 have HDS:Hid (Disk w base g gsd wv D):=h
 clear h hc hs hwl he c0 c1
 go_enter Tryz.func46,Tryz.ntmps46
 go_upto_region 1 with fail
 go_region_held3 (fun w'=>w'.cell? ⟨gst,0,none⟩=some (.pointer (some ⟨gc,0,none⟩))∧w'.cell? ⟨gst,1,none⟩=some (.int .i64 1)) (first | exact s0 | (rw [HW1.out] at s1;exact s1) | exact s2)
  (first
   | (go_at_call 102;refine (br_stateCell _).mono ?_;rintro e w9 ⟨rfl,hw⟩;rw [hw];clear hw w9)
   | (go_at_call 109;rw [← HW1.out];refine HPU.mono ?_;rintro e w2 ⟨rfl,hd2,hm2⟩;have HD2:Hid (∃ wv',Disk w2 base g gsd wv' D'):=hd2;have HM2:Hid (Mv w w2 base g gsd):=(Mv.of_below g gsd HX1.out HBW.out).trans hm2;have s2:w2.cell? ⟨gst,0,none⟩=some (.pointer (some ⟨gc,0,none⟩))∧w2.cell? ⟨gst,1,none⟩=some (.int .i64 1):=⟨(HS.out.fg (Fg.mv HDS.out HM2.out) (by decide)).cell 0 rfl,(HS.out.fg (Fg.mv HDS.out HM2.out) (by decide)).cell 1 rfl⟩;clear hd2 hm2))
 go_wp2
 go_returns
 exact ⟨rfl,HD2.out,HM2.out⟩
theorem br_start (w:World) (base g gsd:Nat) (wv:Value) (D:Dk) (gst gc:Nat) (con:Bool) (cur hand:Int) (h:Disk w base g gsd wv D) (hc:Cs w gc g 0 16) (hs:Row1 w gst 109 (seatC gc con cur hand)) (hv:(getB D 0 16 0).1=5) (hwl:D.waits.length<1000000000) (he:putCE D 0 16 8 0=0) (hwl2:(putCD D 0 16 8 0).waits.length<1000000000) (he2:putCE (putCD D 0 16 8 0) 0 16 0 6=0) :
  Calls Tryz.prog 162 #[.pointer (some ⟨gst,0,none⟩),.int .i64 0] w fun e w'=>e=.returned (.int .i64 0)∧Hid (∃ wv',Disk w' base g gsd wv' (putCD (putCD D 0 16 8 0) 0 16 0 6))∧Mv w w' base g gsd:=by
 have HBW:Hid (base≤w.heap.size):=Nat.le_trans h.bg (Nat.le_of_lt h.blk.lt)
 have HS:Hid (Row1 w gst 109 (seatC gc con cur hand)):=hs
 have HDS:Hid (Disk w base g gsd wv D):=h
 have HCS:Hid (Cs w gc g 0 16):=hc
 have HD0:Hid (Below w.heap.size w w.drew):=(Below.refl _ _).drew
 have HNU:=br_snumber5 w.drew base g gsd wv D gst gc con cur hand (h.stay HD0.out) (hc.stay HD0.out) (hs.stay HD0.out) hv
 have HSK:Hid (∀ w':World,Below w.heap.size w w'→w'.cell? ⟨gst,0,none⟩=some (.pointer (some ⟨gc,0,none⟩))∧w'.cell? ⟨gst,1,none⟩=some (.int .i64 1)):=fun w' hb=>⟨(HS.out.stay hb).cell 0 rfl,(HS.out.stay hb).cell 1 rfl⟩
 have s0:=HSK.out w (Below.refl _ _)
 have HH:Hid (D.waits.length<1000000000∧putCE D 0 16 8 0=0∧(putCD D 0 16 8 0).waits.length<1000000000∧putCE (putCD D 0 16 8 0) 0 16 0 6=0):=⟨hwl,he,hwl2,he2⟩
 obtain ⟨D',HD'⟩:∃ D',Hid (D'=putCD (putCD D 0 16 8 0) 0 16 0 6):=⟨_,rfl⟩
 rw [← HD'.out]
 clear h hc hs hv hwl he hwl2 he2
 go_enter Tryz.func162,Tryz.ntmps162
 go_upto_region 1 with fail
 go_region_held3 (fun w'=>w'.cell? ⟨gst,0,none⟩=some (.pointer (some ⟨gc,0,none⟩))∧w'.cell? ⟨gst,1,none⟩=some (.int .i64 1)) (first | exact s0 | exact HSK.out _ HB1.out | exact HSK.out _ (HB1.out.trans ((below_alloc _ _).mono HB1.out.size)) | exact s2)
  (first
   | (go_at_call 103;refine (br_ackedCell _).mono ?_;rintro e w9 ⟨rfl,hw⟩;rw [hw];clear hw w9)
   | (go_at_call 102;refine (br_stateCell _).mono ?_;rintro e w9 ⟨rfl,hw⟩;rw [hw];clear hw w9)
   | (go_at_call 47;refine HNU.mono ?_;rintro e w1 ⟨rfl,hb1⟩;have HB1:Hid (Below w.heap.size w w1):=HD0.out.trans (hb1.mono HD0.out.size);clear hb1)
   | (go_at_call 109;have hx:=below_alloc w1 (.cells #[.int .i64 8,.int .i64 0,.int .i64 0,.int .i64 6] 194);have HX1:=HB1.out.trans (hx.mono HB1.out.size);refine (br_put2 (w1.alloc (.cells #[.int .i64 8,.int .i64 0,.int .i64 0,.int .i64 6] 194)) base g gsd wv D gc 0 w1.heap.size 2 8 0 0 6 (HDS.out.stay HX1) (HCS.out.stay HX1) (by decide) HH.out.1 HH.out.2.1 HH.out.2.2.1 HH.out.2.2.2 (Row1.of (Blk.new w1 _ _))).mono ?_;rw [← HD'.out];rintro e w2 ⟨rfl,hd2,hm2⟩;have HD2:Hid (∃ wv',Disk w2 base g gsd wv' D'):=hd2;have HM2:Hid (Mv w w2 base g gsd):=(Mv.of_below g gsd HX1 HBW.out).trans hm2;have s2:w2.cell? ⟨gst,0,none⟩=some (.pointer (some ⟨gc,0,none⟩))∧w2.cell? ⟨gst,1,none⟩=some (.int .i64 1):=⟨(HS.out.fg (Fg.mv HDS.out HM2.out) (by decide)).cell 0 rfl,(HS.out.fg (Fg.mv HDS.out HM2.out) (by decide)).cell 1 rfl⟩;clear hd2 hm2 hx HX1))
 go_wp2
 go_returns
 exact ⟨rfl,HD2.out,HM2.out⟩
theorem br_enter (w:World) (base g gsd:Nat) (wv:Value) (D:Dk) (gcm:Nat) (h:Disk w base g gsd wv D) (hc:Cs w gcm g 32 16) (hwl:D.waits.length<1000000000) (he:putCE D 32 16 8 0=0) (hwl2:(putCD D 32 16 8 0).waits.length<1000000000) (he2:putCE (putCD D 32 16 8 0) 32 16 0 3=0) :
  Calls Tryz.prog 272 #[.agg #[.pointer (some ⟨gcm,0,none⟩),.int .i64 1],.int .i64 1,.int .i64 0] w fun e w'=>e=.returned (.int .i64 0)∧Hid (∃ wv',Disk w' base g gsd wv' (putCD (putCD D 32 16 8 0) 32 16 0 3))∧Mv w w' base g gsd:=by
 have HBW:Hid (base≤w.heap.size):=Nat.le_trans h.bg (Nat.le_of_lt h.blk.lt)
 have HDS:Hid (Disk w base g gsd wv D):=h
 have HCS:Hid (Cs w gcm g 32 16):=hc
 obtain ⟨w1,HW1⟩:∃ W,Hid (W=w.alloc (.cells #[.pointer (some ⟨gcm,0,none⟩),.int .i64 1] 237)):=⟨_,rfl⟩
 have HB1:Hid (Below w.heap.size w w1):=by (show Below _ _ _);rw [HW1.out];exact below_alloc _ _
 have HK1:Hid (Row1 w1 w.heap.size 237 [.pointer (some ⟨gcm,0,none⟩),.int .i64 1]):=by (show Row1 _ _ _ _);rw [HW1.out];exact Row1.of (Blk.new _ _ _)
 have HSK:Hid (∀ w':World,Below w1.heap.size w1 w'→w'.cell? ⟨w.heap.size,0,none⟩=some (.pointer (some ⟨gcm,0,none⟩))∧w'.cell? ⟨w.heap.size,1,none⟩=some (.int .i64 1)):=fun w' hb=>⟨(HK1.out.stay hb).cell 0 rfl,(HK1.out.stay hb).cell 1 rfl⟩
 have s0:=HSK.out w1 (Below.refl _ _)
 have HH:Hid (D.waits.length<1000000000∧putCE D 32 16 8 0=0∧(putCD D 32 16 8 0).waits.length<1000000000∧putCE (putCD D 32 16 8 0) 32 16 0 3=0):=⟨hwl,he,hwl2,he2⟩
 obtain ⟨D',HD'⟩:∃ D',Hid (D'=putCD (putCD D 32 16 8 0) 32 16 0 3):=⟨_,rfl⟩
 rw [← HD'.out]
 obtain ⟨W2,HW2⟩:∃ W,Hid (W=(w1.alloc (.cells #[.int .i64 8,.int .i64 0,.int .i64 0,.int .i64 3] 194)).drew):=⟨_,rfl⟩
 have HX2:Hid (Below w1.heap.size w1 W2):=by (show Below _ _ _);rw [HW2.out];exact (below_alloc _ _).drew
 have HR2:Hid (Row1 W2 w1.heap.size 194 [.int .i64 8,.int .i64 0,.int .i64 0,.int .i64 3]):=by (show Row1 _ _ _ _);rw [HW2.out];exact (Row1.of (Blk.new _ _ _)).stay (Below.refl _ _).drew
 have HX02:Hid (Below w.heap.size w W2):=HB1.out.trans (HX2.out.mono HB1.out.size)
 have s1:=HSK.out W2 HX2.out
 clear h hc hwl he hwl2 he2
 go_enter Tryz.func272,Tryz.ntmps272
 go_upto_region 1 with fail
 rw [← HW1.out]
 go_region_held3 (fun w'=>w'.cell? ⟨w.heap.size,0,none⟩=some (.pointer (some ⟨gcm,0,none⟩))∧w'.cell? ⟨w.heap.size,1,none⟩=some (.int .i64 1)) (first | exact s0 | (rw [show IntKind.i64.wrap (IntKind.i64.wrap 2+1)=(3:Int) from rfl,← HW2.out];exact s1) | exact s2)
  (first
   | (go_at_call 103;refine (br_ackedCell _).mono ?_;rintro e w9 ⟨rfl,hw⟩;rw [hw];clear hw w9)
   | (go_at_call 102;refine (br_stateCell _).mono ?_;rintro e w9 ⟨rfl,hw⟩;rw [hw];clear hw w9)
   | (go_at_call 109;rw [show IntKind.i64.wrap (IntKind.i64.wrap 2+1)=(3:Int) from rfl,← HW2.out];refine (br_put2 W2 base g gsd wv D gcm 32 w1.heap.size 2 8 0 0 3 (HDS.out.stay HX02.out) (HCS.out.stay HX02.out) (by decide) HH.out.1 HH.out.2.1 HH.out.2.2.1 HH.out.2.2.2 HR2.out).mono ?_;rw [← HD'.out];rintro e w2 ⟨rfl,hd2,hm2⟩;have HD2:Hid (∃ wv',Disk w2 base g gsd wv' D'):=hd2;have HM2:Hid (Mv w w2 base g gsd):=(Mv.of_below g gsd HX02.out HBW.out).trans hm2;have HMW:Hid (Mv W2 w2 base g gsd):=hm2;have hrw:=(HK1.out.stay HX2.out).fg (Fg.mv (HDS.out.stay HX02.out) HMW.out) (by decide);have s2:w2.cell? ⟨w.heap.size,0,none⟩=some (.pointer (some ⟨gcm,0,none⟩))∧w2.cell? ⟨w.heap.size,1,none⟩=some (.int .i64 1):=⟨hrw.cell 0 rfl,hrw.cell 1 rfl⟩;clear hd2 hm2 hrw))
 go_wp2
 go_returns
 exact ⟨rfl,HD2.out,HM2.out⟩
end
section
open Go.RowKit Go.Shelf Go.Maps
structure Brk (B:Nat) (A:Ad) (w:World) (age:Nat) (D:Dk) (con:Bool) (cur hand:Int):Prop where
 core:Core B A w age con cur hand
 strm:Stm (fun k=>B≤k) w A.s A.m none 0 0 [] []
 log:∃ wv uv rv,Lg w B A.g A.gsd wv D A.gl A.gcl 64 4 age [] uv 0 0 [] rv
 dage:D.age=age
 down:D.down=false
theorem Brk.disk {B:Nat} {A:Ad} {w:World} {age:Nat} {D:Dk} {con:Bool} {cur hand:Int} (h:Brk B A w age D con cur hand):∃ wv,Disk w B A.g A.gsd wv D:=by
 obtain ⟨wv,uv,rv,hl⟩:=h.log
 exact ⟨wv,hl.disk⟩
theorem Brk.stay {B:Nat} {A:Ad} {w w':World} {age:Nat} {D:Dk} {con:Bool} {cur hand:Int} (h:Brk B A w age D con cur hand) (hb:Below w.heap.size w w'):Brk B A w' age D con cur hand:=by
 obtain ⟨wv,uv,rv,hl⟩:=h.log
 exact ⟨h.core.stay hb,h.strm.stay hb,⟨wv,uv,rv,hl.below hb⟩,h.dage,h.down⟩
theorem Brk.mv {B:Nat} {A:Ad} {w w':World} {age:Nat} {D D':Dk} {con:Bool} {cur hand:Int} (h:Brk B A w age D con cur hand) (hm:Mv w w' B A.g A.gsd) (hd:∃ wv',Disk w' B A.g A.gsd wv' D') (ha:D'.age=D.age) (hn:D'.down=false):Brk B A w' age D' con cur hand:=by
 obtain ⟨wv,uv,rv,hl⟩:=h.log
 obtain ⟨wv',hd⟩:=hd
 have hf:Fg lgT w w':=Fg.mv hl.disk hm
 refine ⟨h.core.fg hf,h.strm.fm0 (Fm.of_fg (p:=w'.heap.size) hf) (Nat.ne_of_lt (Nat.lt_of_lt_of_le (owns_lt h.strm.items) hf.size)) (by decide),⟨wv',uv,rv,?_⟩,ha.trans h.dage,hn⟩
 exact hl.mv hm hd
theorem br_seat1 (B:Nat) (A:Ad) (w:World) (age:Nat) (D:Dk) (con:Bool) (cur hand:Int) (h:Brk B A w age D con cur hand):Calls Tryz.prog 39 #[.pointer (some ⟨A.gb,0,none⟩),.int .i64 1] w fun e w'=>e=.returned (.tuple #[.pointer (some ⟨A.gst,0,none⟩),.int .i64 0])∧Below w.heap.size w w':=by
 have HB:Hid (Brk B A w age D con cur hand):=h
 obtain ⟨wv,hd⟩:=h.disk
 have HSH:=br_shut B A.g A.gsd wv D A.gb A.gp A.cp A.gs A.cs A.ml A.mp A.ms w hd h.down (by have:=h.core.bro;rw [← h.dage] at this;exact this)
 clear h hd
 go_enter Tryz.func39,Tryz.ntmps39
 go_wp2_with fail
 refine HSH.mono ?_
 rintro e w1 ⟨rfl,hb1⟩
 have HB1:Hid (Below w.heap.size w w1):=hb1
 have hc:=(HB.out.stay hb1).core
 have c10:w1.cell? ⟨A.gb,10,none⟩=some (.map (some A.ms)):=hc.bro.cell 10 rfl
 have hlk:=look_seat hc.seats (t:=1) (by omega)
 rw [show (getX [(1,Value.pointer (some ⟨A.gst,0,none⟩))] (1:Int)).getD (.pointer none)=.pointer (some ⟨A.gst,0,none⟩) from rfl] at hlk
 clear hb1 hc HSH
 go_wp2
 go_returns
 exact ⟨rfl,HB1.out⟩
theorem br_home0 (B:Nat) (A:Ad) (w:World) (age:Nat) (D:Dk) (con:Bool) (cur hand:Int) (h:Brk B A w age D con cur hand):Calls Tryz.prog 32 #[.pointer (some ⟨A.gb,0,none⟩),.int .i64 0] w fun e w'=>e=.returned (.tuple #[.pointer (some ⟨A.q,0,none⟩),.int .i64 0])∧Below w.heap.size w w':=by
 have HB:Hid (Brk B A w age D con cur hand):=h
 obtain ⟨wv,hd⟩:=h.disk
 have HSH:=br_shut B A.g A.gsd wv D A.gb A.gp A.cp A.gs A.cs A.ml A.mp A.ms w hd h.down (by have:=h.core.bro;rw [← h.dage] at this;exact this)
 clear h hd
 go_enter Tryz.func32,Tryz.ntmps32
 go_wp2_with fail
 refine HSH.mono ?_
 rintro e w1 ⟨rfl,hb1⟩
 have HB1:Hid (Below w.heap.size w w1):=hb1
 have hc:=(HB.out.stay hb1).core
 have c9:w1.cell? ⟨A.gb,9,none⟩=some (.map (some A.mp)):=hc.bro.cell 9 rfl
 have hlk:=look_part hc.parts (t:=0) (by omega)
 rw [show (getX [(0,Value.pointer (some ⟨A.q,0,none⟩))] (0:Int)).getD (.pointer none)=.pointer (some ⟨A.q,0,none⟩) from rfl] at hlk
 have HIH:=br_isHome A.q A.s A.mr A.gl 1 (.map (some A.mm)) w1 hc.part
 clear hb1 hc HSH
 go_wp2_with fail
 refine HIH.mono ?_
 rintro e w0 ⟨rfl,hw⟩
 rw [hw]
 clear hw w0 HIH
 go_wp2
 go_returns
 exact ⟨rfl,HB1.out⟩
theorem br_Subscribe1 (B:Nat) (A:Ad) (w:World) (age:Nat) (D:Dk) (con:Bool) (cur hand:Int) (h:Brk B A w age D con cur hand) (hv:(getB D 0 16 0).1=0) (hwl:D.waits.length<1000000000) (he:putCE D 0 16 0 5=0) (ha:(putCD D 0 16 0 5).age=D.age) (hn:(putCD D 0 16 0 5).down=false):Calls Tryz.prog 16 #[.pointer (some ⟨A.gb,0,none⟩),.int .i64 1] w fun e w'=>e=.returned (.int .i64 0)∧Brk B A w' age (putCD D 0 16 0 5) con cur hand∧Below B w w':=by
 have HB:Hid (Brk B A w age D con cur hand):=h
 have HV:Hid ((getB D 0 16 0).1=0∧D.waits.length<1000000000∧putCE D 0 16 0 5=0):=⟨hv,hwl,he⟩
 have HA:Hid ((putCD D 0 16 0 5).age=D.age∧(putCD D 0 16 0 5).down=false):=⟨ha,hn⟩
 obtain ⟨D',HD'⟩:∃ D',Hid (D'=putCD D 0 16 0 5):=⟨_,rfl⟩
 have HA':Hid (D'.age=D.age∧D'.down=false):=by (show _∧_);rw [HD'.out];exact HA.out
 rw [← HD'.out]
 have HSE:=br_seat1 B A w age D con cur hand h
 clear h hv hwl he ha hn HA
 go_enter Tryz.func16,Tryz.ntmps16
 go_wp2_with fail
 refine HSE.mono ?_
 rintro e w1 ⟨rfl,hb1⟩
 have HX1:Hid (Below w.heap.size w w1):=hb1
 obtain ⟨wv,hd0⟩:=HB.out.disk
 have HD0:Hid (Disk w B A.g A.gsd wv D):=hd0
 have HD1:Hid (Disk w1 B A.g A.gsd wv D):=hd0.stay hb1
 have HB1:Hid (Brk B A w1 age D con cur hand):=HB.out.stay hb1
 have HS1:=br_sstate0 w1 B A.g A.gsd wv D A.gst A.gc con cur hand HD1.out HB1.out.core.cells HB1.out.core.seat HV.out.1
 clear hb1 HSE hd0
 go_wp2_with fail
 refine HS1.mono ?_
 rintro e w2 ⟨rfl,hb2⟩
 have HX2:Hid (Below w.heap.size w w2):=HX1.out.trans (hb2.mono HX1.out.size)
 clear hb2 HS1
 have HN2:=br_snumber0 w2 B A.g A.gsd wv D A.gst A.gc con cur hand (HD0.out.stay HX2.out) (HB.out.stay HX2.out).core.cells (HB.out.stay HX2.out).core.seat HV.out.1
 go_wp2_with fail
 refine HN2.mono ?_
 rintro e w3 ⟨rfl,hb3⟩
 have HX3:Hid (Below w.heap.size w w3):=HX2.out.trans (hb3.mono HX2.out.size)
 clear hb3 HN2
 have HN3:=br_snumber0 w3 B A.g A.gsd wv D A.gst A.gc con cur hand (HD0.out.stay HX3.out) (HB.out.stay HX3.out).core.cells (HB.out.stay HX3.out).core.seat HV.out.1
 go_wp2_with fail
 refine HN3.mono ?_
 rintro e w4 ⟨rfl,hb4⟩
 have HX4:Hid (Below w.heap.size w w4):=HX3.out.trans (hb4.mono HX3.out.size)
 clear hb4 HN3
 have HB4:Hid (Brk B A w4 age D con cur hand):=HB.out.stay HX4.out
 have HST:=br_stand w4 B A.g A.gsd wv D A.gst A.gc con cur hand (HD0.out.stay HX4.out) HB4.out.core.cells HB4.out.core.seat 1 1 5 (by rw [IntKind.wrap_i64];decide) (by rw [IntKind.wrap_i64];decide) HV.out.2.1 HV.out.2.2
 rw [← HD'.out] at HST
 go_wp2_with fail
 refine HST.mono ?_
 rintro e w5 ⟨rfl,hd5,hm5⟩
 have HR:Hid (Brk B A w5 age D' con cur hand∧Below B w w5):=⟨HB4.out.mv hm5 hd5.out HA'.out.1 HA'.out.2,(HX4.out.mono HB.out.core.bw).trans hm5.low⟩
 clear hd5 hm5 HST
 go_wp2
 go_returns
 exact ⟨rfl,HR.out⟩
theorem br_settle0 (B:Nat) (A:Ad) (w:World) (age:Nat) (D:Dk) (cur hand v:Int) (h:Brk B A w age D false cur hand) (hv:(getB D 0 16 8).1=v):Calls Tryz.prog 58 #[.pointer (some ⟨A.gst,0,none⟩)] w fun e w'=>e=.returned (.int .i64 0)∧Below w.heap.size w w':=by
 have HB:Hid (Brk B A w age D false cur hand):=h
 obtain ⟨wv,hd⟩:=h.disk
 have HAK:=br_sacked w B A.g A.gsd wv D A.gst A.gc false cur hand hd h.core.cells h.core.seat v hv
 clear h hv hd
 go_enter Tryz.func58,Tryz.ntmps58
 go_wp2_with fail
 refine HAK.mono ?_
 rintro e w1 ⟨rfl,hb1⟩
 have HB1:Hid (Below w.heap.size w w1):=hb1
 have c3:w1.cell? ⟨A.gst,3,none⟩=some (.bool false):=(HB.out.stay hb1).core.seat.cell 3 rfl
 clear hb1 HAK
 go_wp2
 go_returns
 exact ⟨rfl,HB1.out⟩
end
end Go.Proofs.YtoiennkfdjnkbaaGreatDoor
