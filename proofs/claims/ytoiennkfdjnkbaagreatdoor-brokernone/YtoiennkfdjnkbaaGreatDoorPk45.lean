import Derived.Test.YtoiennkfdjnkbaaGreatDoorPk44
set_option maxRecDepth 100000
set_option maxHeartbeats 8000000
namespace Go.Proofs.YtoiennkfdjnkbaaGreatDoor
section
open Go.RowKit Go.Shelf Go.Maps
theorem br_grant1 (B:Nat) (A:Ad) (w:World) (age:Nat) (D:Dk) (con:Bool) (cur hand:Int) (h:Brk B A w age D con cur hand) (hv:(getB D 0 16 0).1=5) (hwl:D.waits.length<1000000000) (he:putCE D 0 16 8 0=0) (hwl2:(putCD D 0 16 8 0).waits.length<1000000000) (he2:putCE (putCD D 0 16 8 0) 0 16 0 6=0) (ha:(putCD (putCD D 0 16 8 0) 0 16 0 6).age=D.age) (hn:(putCD (putCD D 0 16 8 0) 0 16 0 6).down=false):Calls Tryz.prog 117 #[.pointer (some ⟨A.gb,0,none⟩),.pointer (some ⟨A.q,0,none⟩),.agg #[.int .i64 5,.int .i64 0,.int .i64 1,.int .i64 1,.int .i64 0,.int .i64 0,.slice none 0 0,.slice none 0 0]] w fun e w'=>e=.returned (.int .i64 0)∧Brk B A w' age (putCD (putCD D 0 16 8 0) 0 16 0 6) con cur hand∧Mv w w' B A.g A.gsd:=by
 have HB:Hid (Brk B A w age D con cur hand):=h
 have HV:Hid ((getB D 0 16 0).1=5∧D.waits.length<1000000000∧putCE D 0 16 8 0=0∧(putCD D 0 16 8 0).waits.length<1000000000∧putCE (putCD D 0 16 8 0) 0 16 0 6=0):=⟨hv,hwl,he,hwl2,he2⟩
 obtain ⟨D',HD'⟩:∃ D',Hid (D'=putCD (putCD D 0 16 8 0) 0 16 0 6):=⟨_,rfl⟩
 have HA':Hid (D'.age=D.age∧D'.down=false):=by (show _∧_);rw [HD'.out];exact ⟨ha,hn⟩
 rw [← HD'.out]
 obtain ⟨wv,hd0⟩:=h.disk
 have HD0:Hid (Disk w B A.g A.gsd wv D):=hd0
 obtain ⟨W1,HW1⟩:∃ W,Hid (W=w.alloc (.cells #[.int .i64 5,.int .i64 0,.int .i64 1,.int .i64 1,.int .i64 0,.int .i64 0,.slice none 0 0,.slice none 0 0] 116)):=⟨_,rfl⟩
 have HX1:Hid (Below w.heap.size w W1):=by (show Below _ _ _);rw [HW1.out];exact below_alloc _ _
 have HK1:Hid (Row1 W1 w.heap.size 116 [.int .i64 5,.int .i64 0,.int .i64 1,.int .i64 1,.int .i64 0,.int .i64 0,.slice none 0 0,.slice none 0 0]):=by (show Row1 _ _ _ _);rw [HW1.out];exact Row1.of (Blk.new _ _ _)
 have HB1:Hid (Brk B A W1 age D con cur hand):=h.stay HX1.out
 have hne:Nonempty (BlwW W1):=⟨⟨W1,Below.refl _ _⟩⟩
 have c10:∀ p:BlwW W1,p.W.cell? ⟨A.gb,10,none⟩=some (.map (some A.ms)):=fun p=>(HB1.out.stay p.ok).core.bro.cell 10 rfl
 have k2:∀ p:BlwW W1,p.W.cell? ⟨w.heap.size,2,none⟩=some (.int .i64 1):=fun p=>(HK1.out.stay p.ok).cell 2 rfl
 have hlk:∀ p:BlwW W1,(Instr.lookup 77 (.map (some A.ms)) (.int .i64 1) false).run Tryz.prog p.W=.ok (.pointer (some ⟨A.gst,0,none⟩)) p.W:=fun p=>look_seat (HB1.out.stay p.ok).core.seats (t:=1) (by omega)
 clear h hd0 hv hwl he hwl2 he2 ha hn
 go_enter Tryz.func117,Tryz.ntmps117
 go_upto_region 1 with fail
 rw [← HW1.out]
 refine wp_region_blw (by kernel_rfl) (by kernel_rfl) ?_
 repeat (go_big_quiet_step (first | fail))
 refine wpQuiet_nil ?_
 intro _ hw'
 obtain ⟨p1,hw''⟩:=hw'
 subst hw''
 clear c10 k2 hlk hne
 have HX2:Hid (Below w.heap.size w p1.W):=HX1.out.trans (p1.ok.mono HX1.out.size)
 have HK2:Hid (Row1 p1.W w.heap.size 116 [.int .i64 5,.int .i64 0,.int .i64 1,.int .i64 1,.int .i64 0,.int .i64 0,.slice none 0 0,.slice none 0 0]):=HK1.out.stay p1.ok
 have hne:Nonempty (BlwW p1.W):=⟨⟨p1.W,Below.refl _ _⟩⟩
 have HST:Hid (∀ p:BlwW p1.W,Calls Tryz.prog 40 #[.pointer (some ⟨A.gst,0,none⟩)] p.W fun e w'=>e=.returned (.int .i64 1)∧Below p.W.heap.size p.W w'):=fun p=>br_sstate5 p.W B A.g A.gsd wv D A.gst A.gc con cur hand ((HD0.out.stay HX2.out).stay p.ok) ((HB.out.stay HX2.out).stay p.ok).core.cells ((HB.out.stay HX2.out).stay p.ok).core.seat HV.out.1
 have HNU:Hid (∀ p:BlwW p1.W,Calls Tryz.prog 47 #[.pointer (some ⟨A.gst,0,none⟩)] p.W fun e w'=>e=.returned (.int .i64 1)∧Below p.W.heap.size p.W w'):=fun p=>br_snumber5 p.W B A.g A.gsd wv D A.gst A.gc con cur hand ((HD0.out.stay HX2.out).stay p.ok) ((HB.out.stay HX2.out).stay p.ok).core.cells ((HB.out.stay HX2.out).stay p.ok).core.seat HV.out.1
 have k3:∀ p:BlwW p1.W,p.W.cell? ⟨w.heap.size,3,none⟩=some (.int .i64 1):=fun p=>(HK2.out.stay p.ok).cell 3 rfl
 go_wp2_with fail
 refine wp_region_blw (by kernel_rfl) (by kernel_rfl) ?_
 repeat (go_big_quiet_step (first | (go_at_call 40;exact Calls.blw_of (HST.out _)) | (go_at_call 47;exact Calls.blw_of (HNU.out _))))
 refine wpQuiet_nil ?_
 intro _ hw'
 obtain ⟨p2,hw''⟩:=hw'
 subst hw''
 clear k3 hne HST HNU
 have HX3:Hid (Below w.heap.size w p2.W):=HX2.out.trans (p2.ok.mono HX2.out.size)
 have HB3:Hid (Brk B A p2.W age D con cur hand):=HB.out.stay HX3.out
 have k4:p2.W.cell? ⟨w.heap.size,4,none⟩=some (.int .i64 0):=(HK2.out.stay p2.ok).cell 4 rfl
 have HSA:=br_start p2.W B A.g A.gsd wv D A.gst A.gc con cur hand (HD0.out.stay HX3.out) HB3.out.core.cells HB3.out.core.seat HV.out.1 HV.out.2.1 HV.out.2.2.1 HV.out.2.2.2.1 HV.out.2.2.2.2
 rw [← HD'.out] at HSA
 go_wp2_with fail
 refine HSA.mono ?_
 rintro e w5 ⟨rfl,hd5,hm5⟩
 have HR:Hid (Brk B A w5 age D' con cur hand∧Mv w w5 B A.g A.gsd):=⟨HB3.out.mv hm5 hd5.out HA'.out.1 HA'.out.2,(Mv.of_below _ _ HX3.out HB.out.core.bw).trans hm5⟩
 clear hd5 hm5 HSA k4
 go_wp2
 go_returns
 exact ⟨rfl,HR.out⟩
structure JoinOk (D D2 D3:Dk):Prop where
 n0:(getB D 32 16 0).1=0
 w0:D.waits.length<1000000000
 e1:putCE D 32 16 8 0=0
 w1:(putCD D 32 16 8 0).waits.length<1000000000
 e2:putCE (putCD D 32 16 8 0) 32 16 0 3=0
 d2:D2=putCD (putCD D 32 16 8 0) 32 16 0 3
 a2:D2.age=D.age
 o2:D2.down=false
 m3:(getB D2 32 16 0).1=3
 k0:(getB D2 32 16 8).1=0
 s5:(getB D2 0 16 0).1=5
 w2:D2.waits.length<1000000000
 e3:putCE D2 0 16 8 0=0
 w3:(putCD D2 0 16 8 0).waits.length<1000000000
 e4:putCE (putCD D2 0 16 8 0) 0 16 0 6=0
 d3:D3=putCD (putCD D2 0 16 8 0) 0 16 0 6
 a3:D3.age=D2.age
 o3:D3.down=false
theorem br_join1 (B:Nat) (A:Ad) (w:World) (age:Nat) (D:Dk) (con:Bool) (cur hand:Int) (h:Brk B A w age D con cur hand) (D2 D3:Dk) (hj:JoinOk D D2 D3):Calls Tryz.prog 213 #[.pointer (some ⟨A.gb,0,none⟩),.pointer (some ⟨A.q,0,none⟩),.agg #[.pointer (some ⟨A.gcm,0,none⟩),.int .i64 1],.int .i64 1] w fun e w'=>e=.returned (.int .i64 0)∧Brk B A w' age D3 con cur hand∧Mv w w' B A.g A.gsd:=by
 have HB:Hid (Brk B A w age D con cur hand):=h
 have HJ:Hid (JoinOk D D2 D3):=hj
 obtain ⟨wv,hd0⟩:=h.disk
 have HD0:Hid (Disk w B A.g A.gsd wv D):=hd0
 obtain ⟨W1,HW1⟩:∃ W,Hid (W=w.alloc (.cells #[.pointer (some ⟨A.gcm,0,none⟩),.int .i64 1] 237)):=⟨_,rfl⟩
 have HX1:Hid (Below w.heap.size w W1):=by (show Below _ _ _);rw [HW1.out];exact below_alloc _ _
 have HK1:Hid (Row1 W1 w.heap.size 237 [.pointer (some ⟨A.gcm,0,none⟩),.int .i64 1]):=by (show Row1 _ _ _ _);rw [HW1.out];exact Row1.of (Blk.new _ _ _)
 have HMN:=br_mnumber0 W1 B A.g A.gsd wv D A.gcm (hd0.stay HX1.out) (h.stay HX1.out).core.mcells hj.n0
 have k0:W1.cell? ⟨w.heap.size,0,none⟩=some (.pointer (some ⟨A.gcm,0,none⟩)):=HK1.out.cell 0 rfl
 have k1:W1.cell? ⟨w.heap.size,1,none⟩=some (.int .i64 1):=HK1.out.cell 1 rfl
 clear h hd0 hj
 go_enter Tryz.func213,Tryz.ntmps213
 go_upto_region 1 with fail
 rw [← HW1.out]
 go_wp2_with fail
 refine HMN.mono ?_
 rintro e w2 ⟨rfl,hb2⟩
 have HX2:Hid (Below w.heap.size w w2):=HX1.out.trans (hb2.mono HX1.out.size)
 have HK2:Hid (Row1 w2 w.heap.size 237 [.pointer (some ⟨A.gcm,0,none⟩),.int .i64 1]):=HK1.out.stay hb2
 have HB2:Hid (Brk B A w2 age D con cur hand):=HB.out.stay HX2.out
 clear hb2 HMN k0 k1
 have s0:w2.cell? ⟨w.heap.size,0,none⟩=some (.pointer (some ⟨A.gcm,0,none⟩))∧w2.cell? ⟨w.heap.size,1,none⟩=some (.int .i64 1):=⟨HK2.out.cell 0 rfl,HK2.out.cell 1 rfl⟩
 obtain ⟨wv2,uv2,rv2,hl2⟩:=HB2.out.log
 have HBD:Hid (Below w2.heap.size w2 w2.drew):=(Below.refl _ _).drew
 have HRC:=br_reached A.q A.s A.mr A.gl 1 (.map (some A.mm)) A.g A.gcl 64 4 age 0 0 uv2 rv2 w2.drew (HB2.out.stay HBD.out).core.part (hl2.log.stay HBD.out)
 clear hl2
 go_wp2_with fail
 go_region_held3 (fun w'=>w'.cell? ⟨w.heap.size,0,none⟩=some (.pointer (some ⟨A.gcm,0,none⟩))∧w'.cell? ⟨w.heap.size,1,none⟩=some (.int .i64 1)) (first | exact s0 | exact s3 | exact s4)
  (first
   | (go_at_call 35;refine HRC.mono ?_;rintro e w3 ⟨rfl,hb3⟩;have HX3:Hid (Below w.heap.size w w3):=HX2.out.trans ((HBD.out.trans (hb3.mono HBD.out.size)).mono HX2.out.size);have HK3:Hid (Row1 w3 w.heap.size 237 [.pointer (some ⟨A.gcm,0,none⟩),.int .i64 1]):=(HK2.out.stay HBD.out).stay hb3;have s3:w3.cell? ⟨w.heap.size,0,none⟩=some (.pointer (some ⟨A.gcm,0,none⟩))∧w3.cell? ⟨w.heap.size,1,none⟩=some (.int .i64 1):=⟨HK3.out.cell 0 rfl,HK3.out.cell 1 rfl⟩;clear hb3)
   | (go_at_call 272;refine (br_enter w3 B A.g A.gsd wv D A.gcm (HD0.out.stay HX3.out) (HB.out.stay HX3.out).core.mcells HJ.out.w0 HJ.out.e1 HJ.out.w1 HJ.out.e2).mono ?_;rw [← HJ.out.d2];rintro e w4 ⟨rfl,hd4,hm4⟩;have HB4:Hid (Brk B A w4 age D2 con cur hand):=(HB.out.stay HX3.out).mv hm4 hd4.out HJ.out.a2 HJ.out.o2;have HX4:Hid (Mv w w4 B A.g A.gsd):=(Mv.of_below _ _ HX3.out HB.out.core.bw).trans hm4;have HK4:Hid (Row1 w4 w.heap.size 237 [.pointer (some ⟨A.gcm,0,none⟩),.int .i64 1]):=HK3.out.fg (Fg.mv (HD0.out.stay HX3.out) hm4) (by decide);have s4:w4.cell? ⟨w.heap.size,0,none⟩=some (.pointer (some ⟨A.gcm,0,none⟩))∧w4.cell? ⟨w.heap.size,1,none⟩=some (.int .i64 1):=⟨HK4.out.cell 0 rfl,HK4.out.cell 1 rfl⟩;clear hd4 hm4))
 clear HRC s0 s3
 obtain ⟨q0,q1⟩:=s4
 obtain ⟨wv4,hd4⟩:=HB4.out.disk
 have HD4:Hid (Disk w4 B A.g A.gsd wv4 D2):=hd4
 have HM4:=br_mnumber3 w4 B A.g A.gsd wv4 D2 A.gcm hd4 HB4.out.core.mcells HJ.out.m3
 clear hd4
 go_wp2_with fail
 refine HM4.mono ?_
 rintro e w5 ⟨rfl,hb5⟩
 have HX5:Hid (Below w4.heap.size w4 w5):=hb5
 have HK5:Hid (Row1 w5 w.heap.size 237 [.pointer (some ⟨A.gcm,0,none⟩),.int .i64 1]):=HK4.out.stay hb5
 clear hb5 HM4 q0 q1
 have q0:w5.cell? ⟨w.heap.size,0,none⟩=some (.pointer (some ⟨A.gcm,0,none⟩)):=HK5.out.cell 0 rfl
 have q1:w5.cell? ⟨w.heap.size,1,none⟩=some (.int .i64 1):=HK5.out.cell 1 rfl
 have HM5:=br_misOn3 w5 B A.g A.gsd wv4 D2 A.gcm (HD4.out.stay HX5.out) (HB4.out.stay HX5.out).core.mcells HJ.out.m3
 go_wp2_with fail
 refine HM5.mono ?_
 rintro e w6 ⟨rfl,hb6⟩
 have HX6:Hid (Below w4.heap.size w4 w6):=HX5.out.trans (hb6.mono HX5.out.size)
 have HK6:Hid (Row1 w6 w.heap.size 237 [.pointer (some ⟨A.gcm,0,none⟩),.int .i64 1]):=HK5.out.stay hb6
 clear hb6 HM5 q0 q1
 have HSK:Hid (∀ w',Below w6.heap.size w6 w'→w'.cell? ⟨w.heap.size,0,none⟩=some (.pointer (some ⟨A.gcm,0,none⟩))∧w'.cell? ⟨w.heap.size,1,none⟩=some (.int .i64 1)∧w'.cell? ⟨A.q,0,none⟩=some (.int .i64 0)):=fun w' hb=>⟨(HK6.out.stay hb).cell 0 rfl,(HK6.out.stay hb).cell 1 rfl,((HB4.out.stay HX6.out).stay hb).core.part.cell 0 rfl⟩
 have s0:=HSK.out w6 (Below.refl _ _)
 have HBE:Hid (Below w6.heap.size w6 w6.drew):=(Below.refl _ _).drew
 have HXE:Hid (Below w4.heap.size w4 w6.drew):=HX6.out.trans (HBE.out.mono HX6.out.size)
 have HAK:=br_macked w6.drew B A.g A.gsd wv4 D2 A.gcm (HD4.out.stay HXE.out) (HB4.out.stay HXE.out).core.mcells 0 HJ.out.k0
 go_wp2_with fail
 go_region_held3 (fun w'=>w'.cell? ⟨w.heap.size,0,none⟩=some (.pointer (some ⟨A.gcm,0,none⟩))∧w'.cell? ⟨w.heap.size,1,none⟩=some (.int .i64 1)∧w'.cell? ⟨A.q,0,none⟩=some (.int .i64 0)) (first | exact s0 | exact HSK.out _ HX7.out | exact ⟨HK8.out.cell 0 rfl,HK8.out.cell 1 rfl,HB8.out.core.part.cell 0 rfl⟩)
  (first
   | (go_at_call 166;refine HAK.mono ?_;rintro e w7 ⟨rfl,hb7⟩;have HX7:Hid (Below w6.heap.size w6 w7):=HBE.out.trans (hb7.mono HBE.out.size);have HX47:Hid (Below w4.heap.size w4 w7):=HX6.out.trans (HX7.out.mono HX6.out.size);clear hb7)
   | (go_at_call 117;refine (br_grant1 B A w7 age D2 con cur hand (HB4.out.stay HX47.out) HJ.out.s5 HJ.out.w2 HJ.out.e3 HJ.out.w3 HJ.out.e4 (by rw [← HJ.out.d3];exact HJ.out.a3) (by rw [← HJ.out.d3];exact HJ.out.o3)).mono ?_;rw [← HJ.out.d3];rintro e w8 ⟨rfl,hb8,hx8⟩;have HB8:Hid (Brk B A w8 age D3 con cur hand):=hb8;have HX8:Hid (Mv w w8 B A.g A.gsd):=(HX4.out.trans (Mv.of_below _ _ HX47.out HB4.out.core.bw)).trans hx8;have HK8:Hid (Row1 w8 w.heap.size 237 [.pointer (some ⟨A.gcm,0,none⟩),.int .i64 1]):=(HK6.out.stay HX7.out).fg (Fg.mv (HD4.out.stay HX47.out) hx8) (by decide);clear hb8 hx8))
 clear s0
 go_wp2
 go_returns
 exact ⟨rfl,HB8.out,HX8.out⟩
end
section
open Go.RowKit Go.Shelf Go.Maps
theorem br_do1 (B:Nat) (A:Ad) (w:World) (age:Nat) (D:Dk) (con:Bool) (cur hand:Int) (h:Brk B A w age D con cur hand) (D2 D3:Dk) (hj:JoinOk D D2 D3):Calls Tryz.prog 163 #[.pointer (some ⟨A.gb,0,none⟩),.pointer (some ⟨A.q,0,none⟩),.agg #[.int .i64 4,.int .i64 0,.int .i64 1,.int .i64 1,.int .i64 0,.int .i64 0,.slice none 0 0,.slice none 0 0]] w fun e w'=>e=.returned (.int .i64 0)∧Brk B A w' age D3 con cur hand∧Mv w w' B A.g A.gsd:=by
 have HB:Hid (Brk B A w age D con cur hand):=h
 have HJ:Hid (JoinOk D D2 D3):=hj
 obtain ⟨wv,hd0⟩:=h.disk
 have HD0:Hid (Disk w B A.g A.gsd wv D):=hd0
 obtain ⟨W1,HW1⟩:∃ W,Hid (W=w.alloc (.cells #[.int .i64 4,.int .i64 0,.int .i64 1,.int .i64 1,.int .i64 0,.int .i64 0,.slice none 0 0,.slice none 0 0] 116)):=⟨_,rfl⟩
 have HX1:Hid (Below w.heap.size w W1):=by (show Below _ _ _);rw [HW1.out];exact below_alloc _ _
 have HK1:Hid (Row1 W1 w.heap.size 116 [.int .i64 4,.int .i64 0,.int .i64 1,.int .i64 1,.int .i64 0,.int .i64 0,.slice none 0 0,.slice none 0 0]):=by (show Row1 _ _ _ _);rw [HW1.out];exact Row1.of (Blk.new _ _ _)
 have HB1:Hid (Brk B A W1 age D con cur hand):=h.stay HX1.out
 have HSK:Hid (∀ w',Below W1.heap.size W1 w'→w'.cell? ⟨w.heap.size,2,none⟩=some (.int .i64 1)∧w'.cell? ⟨A.q,7,none⟩=some (.map (some A.mm))∧(Instr.lookup 98 (.map (some A.mm)) (.int .i64 1) false).run Tryz.prog w'=.ok (.agg #[.pointer (some ⟨A.gcm,0,none⟩),.int .i64 1]) w'):=fun w' hb=>⟨(HK1.out.stay hb).cell 2 rfl,(HB1.out.stay hb).core.part.cell 7 rfl,look_mem (HB1.out.stay hb).core.mem (t:=1) (by omega)⟩
 have s0:=HSK.out W1 (Below.refl _ _)
 have HD1:Hid (Below W1.heap.size W1 W1.drew):=(Below.refl _ _).drew
 clear h hd0 hj
 go_enter Tryz.func163,Tryz.ntmps163
 go_upto_region 1 with fail
 rw [← HW1.out]
 obtain ⟨W2,HW2⟩:∃ W,Hid (W=(W1.alloc (.cells #[.pointer (some ⟨A.gcm,0,none⟩),.int .i64 1] 237)).drew):=⟨_,rfl⟩
 have HX2:Hid (Below W1.heap.size W1 W2):=by (show Below _ _ _);rw [HW2.out];exact (below_alloc _ _).drew
 have HK2:Hid (Row1 W2 W1.heap.size 237 [.pointer (some ⟨A.gcm,0,none⟩),.int .i64 1]):=by (show Row1 _ _ _ _);rw [HW2.out];exact (Row1.of (Blk.new _ _ _)).stay (Below.refl _ _).drew
 go_cut [7] from 9 (fun v7 wx=>v7=.pointer (some ⟨W1.heap.size,0,none⟩)∧wx=W2)
 case first =>
  rename_i hJ hM
  go_region_held3 (fun w'=>w'.cell? ⟨w.heap.size,2,none⟩=some (.int .i64 1)∧w'.cell? ⟨A.q,7,none⟩=some (.map (some A.mm))∧(Instr.lookup 98 (.map (some A.mm)) (.int .i64 1) false).run Tryz.prog w'=.ok (.agg #[.pointer (some ⟨A.gcm,0,none⟩),.int .i64 1]) w') (first | exact HSK.out _ HD1.out | exact HSK.out _ (below_alloc W1 _).drew)
   (first | fail | fail)
  all_goals
   refine hM _ _ ?_
   go_meet
   exact ⟨rfl,HW2.out.symm⟩
 case rest =>
 obtain ⟨hv,hw⟩:=hcut
 subst hv
 subst hw
 have HX02:Hid (Below w.heap.size w wc):=HX1.out.trans (HX2.out.mono HX1.out.size)
 have HB2:Hid (Brk B A wc age D con cur hand):=HB.out.stay HX02.out
 have HP2:Hid (Row1 wc w.heap.size 116 [.int .i64 4,.int .i64 0,.int .i64 1,.int .i64 1,.int .i64 0,.int .i64 0,.slice none 0 0,.slice none 0 0]):=HK1.out.stay HX2.out
 have k0:wc.cell? ⟨W1.heap.size,0,none⟩=some (.pointer (some ⟨A.gcm,0,none⟩)):=HK2.out.cell 0 rfl
 have k1:wc.cell? ⟨W1.heap.size,1,none⟩=some (.int .i64 1):=HK2.out.cell 1 rfl
 have HMN:=br_mnumber0 wc B A.g A.gsd wv D A.gcm (HD0.out.stay HX02.out) HB2.out.core.mcells HJ.out.n0
 go_wp2_with fail
 refine HMN.mono ?_
 rintro e w3 ⟨rfl,hb3⟩
 have HX3:Hid (Below w.heap.size w w3):=HX02.out.trans (hb3.mono HX02.out.size)
 have k0:w3.cell? ⟨W1.heap.size,0,none⟩=some (.pointer (some ⟨A.gcm,0,none⟩)):=(HK2.out.stay hb3).cell 0 rfl
 have k1:w3.cell? ⟨W1.heap.size,1,none⟩=some (.int .i64 1):=(HK2.out.stay hb3).cell 1 rfl
 have p0:w3.cell? ⟨w.heap.size,0,none⟩=some (.int .i64 4):=(HP2.out.stay hb3).cell 0 rfl
 have p3:w3.cell? ⟨w.heap.size,3,none⟩=some (.int .i64 1):=(HP2.out.stay hb3).cell 3 rfl
 clear hb3 HMN
 have HJN:=br_join1 B A w3 age D con cur hand (HB.out.stay HX3.out) D2 D3 HJ.out
 go_wp2_with fail
 refine HJN.mono ?_
 rintro e w4 ⟨rfl,hb4,hm4⟩
 have HR:Hid (Brk B A w4 age D3 con cur hand∧Mv w w4 B A.g A.gsd):=⟨hb4,(Mv.of_below _ _ HX3.out HB.out.core.bw).trans hm4⟩
 clear hb4 hm4 HJN k0 k1 p0 p3
 go_wp2
 go_returns
 exact ⟨rfl,HR.out⟩
theorem br_carry1 (B:Nat) (A:Ad) (w:World) (age:Nat) (D:Dk) (con:Bool) (cur hand:Int) (h:Brk B A w age D con cur hand) (D2 D3:Dk) (hj:JoinOk D D2 D3):Calls Tryz.prog 118 #[.pointer (some ⟨A.gb,0,none⟩),.pointer (some ⟨A.q,0,none⟩),.agg #[.int .i64 4,.int .i64 0,.int .i64 1,.int .i64 1,.int .i64 0,.int .i64 0,.slice none 0 0,.slice none 0 0]] w fun e w'=>e=.returned (.int .i64 0)∧Brk B A w' age D3 con cur hand∧Mv w w' B A.g A.gsd:=by
 have HB:Hid (Brk B A w age D con cur hand):=h
 obtain ⟨W1,HW1⟩:∃ W,Hid (W=w.alloc (.cells #[.int .i64 4,.int .i64 0,.int .i64 1,.int .i64 1,.int .i64 0,.int .i64 0,.slice none 0 0,.slice none 0 0] 116)):=⟨_,rfl⟩
 have HX1:Hid (Below w.heap.size w W1):=by (show Below _ _ _);rw [HW1.out];exact below_alloc _ _
 have HK1:Hid (Row1 W1 w.heap.size 116 [.int .i64 4,.int .i64 0,.int .i64 1,.int .i64 1,.int .i64 0,.int .i64 0,.slice none 0 0,.slice none 0 0]):=by (show Row1 _ _ _ _);rw [HW1.out];exact Row1.of (Blk.new _ _ _)
 have HB1:Hid (Brk B A W1 age D con cur hand):=h.stay HX1.out
 have HIH:=br_isHome A.q A.s A.mr A.gl 1 (.map (some A.mm)) W1 HB1.out.core.part
 have HDO:=br_do1 B A W1 age D con cur hand HB1.out D2 D3 hj
 have k0:W1.cell? ⟨w.heap.size,0,none⟩=some (.int .i64 4):=HK1.out.cell 0 rfl
 have k1:W1.cell? ⟨w.heap.size,1,none⟩=some (.int .i64 0):=HK1.out.cell 1 rfl
 have k2:W1.cell? ⟨w.heap.size,2,none⟩=some (.int .i64 1):=HK1.out.cell 2 rfl
 have k3:W1.cell? ⟨w.heap.size,3,none⟩=some (.int .i64 1):=HK1.out.cell 3 rfl
 have k4:W1.cell? ⟨w.heap.size,4,none⟩=some (.int .i64 0):=HK1.out.cell 4 rfl
 have k5:W1.cell? ⟨w.heap.size,5,none⟩=some (.int .i64 0):=HK1.out.cell 5 rfl
 have k6:W1.cell? ⟨w.heap.size,6,none⟩=some (.slice none 0 0):=HK1.out.cell 6 rfl
 have k7:W1.cell? ⟨w.heap.size,7,none⟩=some (.slice none 0 0):=HK1.out.cell 7 rfl
 clear h hj
 go_enter Tryz.func118,Tryz.ntmps118
 go_upto_region 1 with fail
 rw [← HW1.out]
 go_wp2_with fail
 refine HIH.mono ?_
 rintro e w0 ⟨rfl,hw⟩
 rw [hw]
 clear hw w0 HIH
 go_wp2_with fail
 refine HDO.mono ?_
 rintro e w4 ⟨rfl,hb4,hm4⟩
 have HR:Hid (Brk B A w4 age D3 con cur hand∧Mv w w4 B A.g A.gsd):=⟨hb4,(Mv.of_below _ _ HX1.out HB.out.core.bw).trans hm4⟩
 clear hb4 hm4 HDO k0 k1 k2 k3 k4 k5 k6 k7
 go_wp2
 go_returns
 exact ⟨rfl,HR.out⟩
theorem br_speak1 (B:Nat) (A:Ad) (w:World) (age:Nat) (D:Dk) (con:Bool) (cur hand:Int) (h:Brk B A w age D con cur hand) (hs5:(getB D 0 16 0).1=5) (D2 D3:Dk) (hj:JoinOk D D2 D3):Calls Tryz.prog 59 #[.pointer (some ⟨A.gb,0,none⟩),.pointer (some ⟨A.gst,0,none⟩)] w fun e w'=>e=.returned (.int .i64 0)∧Brk B A w' age D3 con cur hand∧Mv w w' B A.g A.gsd:=by
 have HB:Hid (Brk B A w age D con cur hand):=h
 have HJ:Hid (JoinOk D D2 D3∧(getB D 0 16 0).1=5):=⟨hj,hs5⟩
 obtain ⟨wv,hd0⟩:=h.disk
 have HD0:Hid (Disk w B A.g A.gsd wv D):=hd0
 have HSK:Hid (∀ w',Below w.heap.size w w'→w'.cell? ⟨A.gst,1,none⟩=some (.int .i64 1)∧w'.cell? ⟨A.gst,2,none⟩=some (.int .i64 0)):=fun w' hb=>⟨(HB.out.stay hb).core.seat.cell 1 rfl,(HB.out.stay hb).core.seat.cell 2 rfl⟩
 have HE0:Hid (Below w.heap.size w w.drew):=(Below.refl _ _).drew
 have HE1:Hid (Below w.heap.size w (w.alloc (.cells #[.int .i64 0,.int .i64 0,.int .i64 0,.int .i64 0,.int .i64 0,.int .i64 0,.slice none 0 0,.slice none 0 0] 116)).drew):=(below_alloc _ _).drew
 clear h hd0 hj hs5
 go_enter Tryz.func59,Tryz.ntmps59
 go_upto_region 1 with fail
 go_cut [5] from 6 (fun v5 wx=>∃ k5:Nat,v5=.pointer (some ⟨k5,0,none⟩)∧Hid (w.heap.size≤k5∧Row1 wx k5 116 [.int .i64 6,.int .i64 0,.int .i64 1,.int .i64 1,.int .i64 0,.int .i64 0,.slice none 0 0,.slice none 0 0])∧Hid (Below w.heap.size w wx))
 case first =>
  rename_i hJ hM
  have s0:=HSK.out w (Below.refl _ _)
  go_region_held3 (fun w'=>w'.cell? ⟨A.gst,1,none⟩=some (.int .i64 1)∧w'.cell? ⟨A.gst,2,none⟩=some (.int .i64 0)) (first | with_reducible exact HSK.out _ HE0.out | with_reducible exact HSK.out _ HE1.out | with_reducible exact HSK.out _ HX1.out | ((with_reducible refine HSK.out (World.alloc _ _) ?_);exact (HX1.out.trans ((below_alloc _ _).mono HX1.out.size))) | ((with_reducible refine HSK.out (World.setCell _ _ _) ?_);exact ((((((((HX1.out.setCell (p:=⟨w.heap.size,0,none⟩) (Nat.le_refl _) _).setCell (p:=⟨w.heap.size,1,none⟩) (Nat.le_refl _) _).setCell (p:=⟨w.heap.size,2,none⟩) (Nat.le_refl _) _).setCell (p:=⟨w.heap.size,3,none⟩) (Nat.le_refl _) _).setCell (p:=⟨w.heap.size,4,none⟩) (Nat.le_refl _) _).setCell (p:=⟨w.heap.size,5,none⟩) (Nat.le_refl _) _).setCell (p:=⟨w.heap.size,6,none⟩) (Nat.le_refl _) _).setCell (p:=⟨w.heap.size,7,none⟩) (Nat.le_refl _) _)))
   (first
    | (go_at_call 47;first
      | (have hc:=br_snumber5 w.drew B A.g A.gsd wv D A.gst A.gc con cur hand (HD0.out.stay HE0.out) (HB.out.stay HE0.out).core.cells (HB.out.stay HE0.out).core.seat HJ.out.2;(with_reducible refine hc.mono ?_);clear hc;rintro e w1 ⟨rfl,hb1⟩;have HX1:Hid (Below w.heap.size w w1):=HE0.out.trans (hb1.mono HE0.out.size);clear hb1)
      | (have hc:=br_snumber5 (w.alloc (.cells #[.int .i64 0,.int .i64 0,.int .i64 0,.int .i64 0,.int .i64 0,.int .i64 0,.slice none 0 0,.slice none 0 0] 116)).drew B A.g A.gsd wv D A.gst A.gc con cur hand (HD0.out.stay HE1.out) (HB.out.stay HE1.out).core.cells (HB.out.stay HE1.out).core.seat HJ.out.2;(with_reducible refine hc.mono ?_);clear hc;rintro e w1 ⟨rfl,hb1⟩;have HX1:Hid (Below w.heap.size w w1):=HE1.out.trans (hb1.mono HE1.out.size);have HZ1:Hid (Row1 w1 w.heap.size 116 [.int .i64 0,.int .i64 0,.int .i64 0,.int .i64 0,.int .i64 0,.int .i64 0,.slice none 0 0,.slice none 0 0]):=((Row1.of (Blk.new w _ _)).stay (Below.refl _ _).drew).stay hb1;have z0:=HZ1.out.cell 0 rfl;have z1:=HZ1.out.cell 1 rfl;have z2:=HZ1.out.cell 2 rfl;have z3:=HZ1.out.cell 3 rfl;have z4:=HZ1.out.cell 4 rfl;have z5:=HZ1.out.cell 5 rfl;have z6:=HZ1.out.cell 6 rfl;have z7:=HZ1.out.cell 7 rfl;have f0:=HZ1.out.free 0;have f1:=HZ1.out.free 1;have f2:=HZ1.out.free 2;have f3:=HZ1.out.free 3;have f4:=HZ1.out.free 4;have f5:=HZ1.out.free 5;have f6:=HZ1.out.free 6;have f7:=HZ1.out.free 7;clear hb1)))
  all_goals
   refine hM _ _ ?_
   go_meet
   first
    | (refine ⟨w1.heap.size,rfl,⟨HX1.out.size,?_⟩,?_⟩;(with_reducible exact Row1.of (Blk.new w1 _ _));((show Below _ _ _);with_reducible exact HX1.out.trans ((below_alloc w1 _).mono HX1.out.size)))
    | (refine ⟨w.heap.size,rfl,⟨Nat.le_refl _,?_⟩,?_⟩;(exact ((((((((HZ1.out.set 0 _).set 1 _).set 2 _).set 3 _).set 4 _).set 5 _).set 6 _).set 7 _));((show Below _ _ _);exact ((((((((HX1.out.setCell (p:=⟨w.heap.size,0,none⟩) (Nat.le_refl _) _).setCell (p:=⟨w.heap.size,1,none⟩) (Nat.le_refl _) _).setCell (p:=⟨w.heap.size,2,none⟩) (Nat.le_refl _) _).setCell (p:=⟨w.heap.size,3,none⟩) (Nat.le_refl _) _).setCell (p:=⟨w.heap.size,4,none⟩) (Nat.le_refl _) _).setCell (p:=⟨w.heap.size,5,none⟩) (Nat.le_refl _) _).setCell (p:=⟨w.heap.size,6,none⟩) (Nat.le_refl _) _).setCell (p:=⟨w.heap.size,7,none⟩) (Nat.le_refl _) _)))
 case rest =>
 obtain ⟨k5,hv,hk,hx⟩:=hcut
 obtain ⟨W5,hW5⟩:∃ W,W=wc:=⟨_,rfl⟩
 subst hW5
 subst hv
 have HK5:Hid (w.heap.size≤k5∧Row1 W5 k5 116 [.int .i64 6,.int .i64 0,.int .i64 1,.int .i64 1,.int .i64 0,.int .i64 0,.slice none 0 0,.slice none 0 0]):=hk
 have HX5:Hid (Below w.heap.size w W5):=hx
 clear hk hx
 have c3:W5.cell? ⟨k5,3,none⟩=some (.int .i64 1):=HK5.out.2.cell 3 rfl
 have HS5:=br_sstate5 W5 B A.g A.gsd wv D A.gst A.gc con cur hand (HD0.out.stay HX5.out) (HB.out.stay HX5.out).core.cells (HB.out.stay HX5.out).core.seat HJ.out.2
 go_wp2_with fail
 refine HS5.mono ?_
 rintro e w6 ⟨rfl,hb6⟩
 have HX6:Hid (Below w.heap.size w w6):=HX5.out.trans (hb6.mono HX5.out.size)
 have HK6:Hid (Row1 w6 k5 116 [.int .i64 6,.int .i64 0,.int .i64 1,.int .i64 1,.int .i64 0,.int .i64 0,.slice none 0 0,.slice none 0 0]):=HK5.out.2.stay hb6
 clear hb6 HS5 c3
 have c0:w6.cell? ⟨k5,0,none⟩=some (.int .i64 6):=HK6.out.cell 0 rfl
 have f0:w6.frozen? ⟨k5,0,none⟩=false:=HK6.out.free 0
 obtain ⟨W7,HW7⟩:∃ W,Hid (W=w6.setCell ⟨k5,0,none⟩ (.int .i64 4)):=⟨_,rfl⟩
 have HX7:Hid (Below w.heap.size w W7):=by (show Below _ _ _);rw [HW7.out];exact HX6.out.setCell (p:=⟨k5,0,none⟩) HK5.out.1 _
 have HK7:Hid (Row1 W7 k5 116 [.int .i64 4,.int .i64 0,.int .i64 1,.int .i64 1,.int .i64 0,.int .i64 0,.slice none 0 0,.slice none 0 0]):=by (show Row1 _ _ _ _);rw [HW7.out];exact HK6.out.set 0 _
 have HSK:Hid (∀ w',Below W7.heap.size W7 w'→w'.cell? ⟨A.gb,9,none⟩=some (.map (some A.mp))∧w'.cell? ⟨A.gst,2,none⟩=some (.int .i64 0)∧(Instr.lookup 76 (.map (some A.mp)) (.int .i64 0) false).run Tryz.prog w'=.ok (.pointer (some ⟨A.q,0,none⟩)) w'∧w'.cell? ⟨k5,0,none⟩=some (.int .i64 4)∧w'.cell? ⟨k5,1,none⟩=some (.int .i64 0)∧w'.cell? ⟨k5,2,none⟩=some (.int .i64 1)∧w'.cell? ⟨k5,3,none⟩=some (.int .i64 1)∧w'.cell? ⟨k5,4,none⟩=some (.int .i64 0)∧w'.cell? ⟨k5,5,none⟩=some (.int .i64 0)∧w'.cell? ⟨k5,6,none⟩=some (.slice none 0 0)∧w'.cell? ⟨k5,7,none⟩=some (.slice none 0 0)):=fun w' hb=>by
  have h1:=(HB.out.stay HX7.out).stay hb
  have h2:=HK7.out.stay hb
  exact ⟨h1.core.bro.cell 9 rfl,h1.core.seat.cell 2 rfl,look_part h1.core.parts (t:=0) (by omega),h2.cell 0 rfl,h2.cell 1 rfl,h2.cell 2 rfl,h2.cell 3 rfl,h2.cell 4 rfl,h2.cell 5 rfl,h2.cell 6 rfl,h2.cell 7 rfl⟩
 have HE7:Hid (Below W7.heap.size W7 W7.drew):=(Below.refl _ _).drew
 have s0:=HSK.out W7 (Below.refl _ _)
 have HXD:Hid (Below w.heap.size w W7.drew):=HX7.out.drew
 have HCA:=br_carry1 B A W7.drew age D con cur hand (HB.out.stay HXD.out) D2 D3 HJ.out.1
 go_upto_region 9 with fail
 rw [← HW7.out]
 clear c0 f0
 go_region_held3 (fun w'=>w'.cell? ⟨A.gb,9,none⟩=some (.map (some A.mp))∧w'.cell? ⟨A.gst,2,none⟩=some (.int .i64 0)∧(Instr.lookup 76 (.map (some A.mp)) (.int .i64 0) false).run Tryz.prog w'=.ok (.pointer (some ⟨A.q,0,none⟩)) w'∧w'.cell? ⟨k5,0,none⟩=some (.int .i64 4)∧w'.cell? ⟨k5,1,none⟩=some (.int .i64 0)∧w'.cell? ⟨k5,2,none⟩=some (.int .i64 1)∧w'.cell? ⟨k5,3,none⟩=some (.int .i64 1)∧w'.cell? ⟨k5,4,none⟩=some (.int .i64 0)∧w'.cell? ⟨k5,5,none⟩=some (.int .i64 0)∧w'.cell? ⟨k5,6,none⟩=some (.slice none 0 0)∧w'.cell? ⟨k5,7,none⟩=some (.slice none 0 0)) (first | exact HSK.out _ HE7.out | exact s8)
  (first
   | (go_at_call 118;refine HCA.mono ?_;rintro e w8 ⟨rfl,hb8,hm8⟩;have HB8:Hid (Brk B A w8 age D3 con cur hand):=hb8;have HM8:Hid (Mv w w8 B A.g A.gsd):=(Mv.of_below _ _ HXD.out HB.out.core.bw).trans hm8;have h2:=(HK7.out.stay HE7.out).fg (Fg.mv (HD0.out.stay HXD.out) hm8) (by decide);have s8:w8.cell? ⟨A.gb,9,none⟩=some (.map (some A.mp))∧w8.cell? ⟨A.gst,2,none⟩=some (.int .i64 0)∧(Instr.lookup 76 (.map (some A.mp)) (.int .i64 0) false).run Tryz.prog w8=.ok (.pointer (some ⟨A.q,0,none⟩)) w8∧w8.cell? ⟨k5,0,none⟩=some (.int .i64 4)∧w8.cell? ⟨k5,1,none⟩=some (.int .i64 0)∧w8.cell? ⟨k5,2,none⟩=some (.int .i64 1)∧w8.cell? ⟨k5,3,none⟩=some (.int .i64 1)∧w8.cell? ⟨k5,4,none⟩=some (.int .i64 0)∧w8.cell? ⟨k5,5,none⟩=some (.int .i64 0)∧w8.cell? ⟨k5,6,none⟩=some (.slice none 0 0)∧w8.cell? ⟨k5,7,none⟩=some (.slice none 0 0):=⟨hb8.core.bro.cell 9 rfl,hb8.core.seat.cell 2 rfl,look_part hb8.core.parts (t:=0) (by omega),h2.cell 0 rfl,h2.cell 1 rfl,h2.cell 2 rfl,h2.cell 3 rfl,h2.cell 4 rfl,h2.cell 5 rfl,h2.cell 6 rfl,h2.cell 7 rfl⟩;clear hb8 hm8 h2))
 clear s0 s8
 go_wp2
 go_returns
 exact ⟨rfl,HB8.out,HM8.out⟩
end
end Go.Proofs.YtoiennkfdjnkbaaGreatDoor
