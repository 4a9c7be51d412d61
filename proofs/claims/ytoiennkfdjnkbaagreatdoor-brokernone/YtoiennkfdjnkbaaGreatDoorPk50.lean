import Derived.Test.YtoiennkfdjnkbaaGreatDoorPk49
import Derived.Test.YtoiennkfdjnkbaaGreatDoorPk23
import Derived.Test.YtoiennkfdjnkbaaGreatDoorCards
import Derived.Test.YtoiennkfdjnkbaaGreatDoorTie
import Derived.Deep.DeepHandedRow
import Derived.Lib.LaidTab
set_option maxRecDepth 100000
set_option maxHeartbeats 8000000
namespace Go.Proofs.YtoiennkfdjnkbaaGreatDoor
section
open Go.RowKit
def lv0:Dk:=newD 326
def lv1:Dk:=putCD lv0 0 16 0 5
def lv2:Dk:=putCD (putCD lv1 32 16 8 0) 32 16 0 3
def lv3:Dk:=putCD (putCD lv2 0 16 8 0) 0 16 0 6
def lvA:Dk:=writeD (syncD lv3) ((64+2:Nat):Int) (headL 1 0)
def lv4:Dk:=writeD lvA ((64+3:Nat):Int) (layE 2 true (KeyM.key (KeyM.up (5:Int))++[0,1,7]))
def lv5:Dk:=syncD lv4
theorem lv_0:lv0.sure.length=326∧lv0.down=false∧lv0.waits.length<1000000000∧lv0.age=0:=⟨by kernel_rfl,rfl,by decide,rfl⟩
theorem lv_r:(getB lv0 64 1 0).1=0:=by decide +kernel
theorem lv_h:headsF lv0 64 4=[]:=by kernel_rfl
theorem lv_1a:(getB lv0 0 16 0).1=0∧putCE lv0 0 16 0 5=0:=by decide +kernel
theorem lv_1b:lv1.age=0∧lv1.down=false:=by decide +kernel
theorem lv_1c:(getB lv1 0 16 0).1=5∧(getB lv1 0 16 8).1=0∧(getB lv1 32 16 0).1=0∧lv1.waits.length<1000000000:=by decide +kernel
theorem lv_2a:putCE lv1 32 16 8 0=0∧(putCD lv1 32 16 8 0).waits.length<1000000000∧putCE (putCD lv1 32 16 8 0) 32 16 0 3=0:=by decide +kernel
theorem lv_2b:lv2.age=lv1.age∧lv2.down=false∧(getB lv2 32 16 0).1=3∧(getB lv2 32 16 8).1=0∧(getB lv2 0 16 0).1=5∧lv2.waits.length<1000000000:=by decide +kernel
theorem lv_3a:putCE lv2 0 16 8 0=0∧(putCD lv2 0 16 8 0).waits.length<1000000000∧putCE (putCD lv2 0 16 8 0) 0 16 0 6=0∧lv3.age=lv2.age∧lv3.down=false:=by decide +kernel
theorem lv_3b:(getB lv3 32 16 0).1=3∧(getB lv3 32 16 8).1=0∧(getB lv3 0 16 0).1=6∧(getB lv3 0 16 8).1=0∧lv3.waits.length≤900000000∧lv3.age=0:=by decide +kernel
theorem lv_join:JoinOk lv1 lv2 lv3:=⟨lv_1c.2.2.1,lv_1c.2.2.2,lv_2a.1,lv_2a.2.1,lv_2a.2.2,rfl,lv_2b.1,lv_2b.2.1,lv_2b.2.2.1,lv_2b.2.2.2.1,lv_2b.2.2.2.2.1,lv_2b.2.2.2.2.2,lv_3a.1,lv_3a.2.1,lv_3a.2.2.1,rfl,lv_3a.2.2.2.1,lv_3a.2.2.2.2⟩
theorem lv_w:wipeL lv3 16 (64+2) false=(lv3,false,0):=by kernel_rfl
theorem lv_4:syncE lv3=0∧(syncD lv3).waits.length<1000000000∧writeE (syncD lv3) ((64+2:Nat):Int) (headL 1 0)=0∧lvA.waits.length<1000000000∧writeE lvA ((64+3:Nat):Int) (layE 2 true (KeyM.key (KeyM.up (5:Int))++[0,1,7]))=0∧shutE lv3 lv3.age=0:=by decide +kernel
theorem lv_5:syncE lv4=0∧lv4.age=lv3.age∧lv5.age=lv3.age∧lv5.down=false∧(getB lv5 32 16 0).1=3:=by decide +kernel
theorem lv_pub:PubOk lv3 lv4 lv5:=⟨⟨lv3,false,lvA,lv_w,lv_4.1,lv_4.2.1,lv_4.2.2.1,rfl,lv_4.2.2.2.1,lv_4.2.2.2.2.1,rfl⟩,lv_4.2.2.2.2.2,lv_3b.2.2.2.2.1,lv_5.1,lv_5.2.1,rfl,lv_5.2.2.1,lv_5.2.2.2.1,lv_5.2.2.2.2⟩
end
section
open Go.RowKit Go.Shelf Go.Maps
theorem nilB_Tick (x:Int) (w:World):Calls Tryz.prog 21 #[.pointer none,.int .i64 x] w fun e w'=>e=.returned (.int .i64 1)∧Below w.heap.size w w':=by
 obtain ⟨g4,Hg4⟩:∃ n,Hid (n=w.heap.size+1):=⟨_,rfl⟩
 obtain ⟨W1,HW1⟩:∃ W,Hid (W=(w.alloc (.cells #[.pointer none] 27)).alloc (.cells #[.int .i64 0] 24)):=⟨_,rfl⟩
 have hba:=below_alloc w (.cells #[.pointer none] 27)
 have hbb:=below_alloc (w.alloc (.cells #[.pointer none] 27)) (.cells #[.int .i64 0] 24)
 have HX1:Hid (Below w.heap.size w W1):=by (show Below _ _ _);rw [HW1.out];exact hba.trans (hbb.mono hba.size)
 have HK1:Hid (Row1 W1 w.heap.size 27 [.pointer none] ∧ Row1 W1 g4 24 [.int .i64 0]):=by
  (show _∧_);rw [HW1.out,Hg4.out]
  refine ⟨Row1.of ((Blk.new w _ _).stay hbb),?_⟩
  have h1:=Blk.new (w.alloc (.cells #[.pointer none] 27)) #[.int .i64 0] 24
  rw [World.size_alloc] at h1
  exact Row1.of h1
 have HSH:=nilB_shut W1
 have c2:W1.cell? ⟨w.heap.size,0,none⟩=some (.pointer none):=HK1.out.1.cell 0 rfl
 have c4:W1.cell? ⟨g4,0,none⟩=some (.int .i64 0):=HK1.out.2.cell 0 rfl
 have f4:W1.frozen? ⟨g4,0,none⟩=false:=HK1.out.2.free 0
 have HGG:Hid (w.heap.size≤g4):=by rw [Hg4.out];exact Nat.le_succ _
 clear hba hbb
 refine (callsIn_wide (n:=8)).1 ?_
 refine callsIn_of_wp_marks Tryz.func21 rfl trivial ?_ rfl
 simp only [Tryz.ntmps21,List.size_toArray,List.length_cons,List.length_nil,Nat.reduceAdd,Nat.reduceSub,Array.replicate_succ,Array.replicate_zero,List.push_toArray,List.append_toArray,List.nil_append,List.cons_append]
 refine wpIn_wide.2 ?_
 go_upto_region 1 with fail
 rw [← HW1.out,← Hg4.out]
 go_wp2_with fail
 refine HSH.mono ?_
 rintro e w' ⟨rfl,hw⟩
 rw [hw]
 clear hw w' HSH
 go_wp2
 exact ⟨_,results_Tick (by rfl) ((HK1.out.2.set 0 (.int .i64 1)).cell 0 rfl),rfl,HX1.out.setCell (p:=⟨g4,0,none⟩) HGG.out _⟩
theorem results_word {w:World} {tmps:Array Value} {g:Nat} {v0 v1:Value} (h2:tmps[2]?.getD undef=.pointer (some ⟨g,0,none⟩)) (k0:w.cell? ⟨g,0,none⟩=some v0) (k1:w.cell? ⟨g,1,none⟩=some v1):(results Tryz.f9 tmps).run Tryz.prog w=.ok (.agg #[v0,v1]) w:=by
 simp [results,Tryz.results9,go_sem,h2,k0,k1]
theorem law_word7 (w:World):Calls Tryz.prog 9 #[.int .i64 7] w fun e w'=>(∃ g,e=.returned (.agg #[.slice none 0 0,.slice (some ⟨g,0,none⟩) 1 1])∧Rd w' (some ⟨g,0,none⟩) 1 [7])∧Below w.heap.size w w':=by
 obtain ⟨W1,HW1⟩:∃ W,Hid (W=w.alloc (.cells #[.slice none 0 0,.slice none 0 0] 45)):=⟨_,rfl⟩
 have HX1:Hid (Below w.heap.size w W1):=by (show Below _ _ _);rw [HW1.out];exact below_alloc _ _
 have HK1:Hid (Row1 W1 w.heap.size 45 [.slice none 0 0,.slice none 0 0]):=by (show Row1 _ _ _ _);rw [HW1.out];exact Row1.of (Blk.new _ _ _)
 obtain ⟨W2,HW2⟩:∃ W,Hid (W=W1.alloc (.cells #[.int .u8 7] 5)):=⟨_,rfl⟩
 have HX12:Hid (Below W1.heap.size W1 W2):=by (show Below _ _ _);rw [HW2.out];exact below_alloc _ _
 have HX2:Hid (Below w.heap.size w W2):=HX1.out.trans (HX12.out.mono HX1.out.size)
 have HK2:Hid (Row1 W2 w.heap.size 45 [.slice none 0 0,.slice none 0 0]):=HK1.out.stay HX12.out
 have HR2:Hid (Rd W2 (some ⟨W1.heap.size,0,none⟩) 1 [7]):=by (show Rd _ _ _ _);rw [HW2.out];exact rd_one W1 7 7 rfl (by decide) (0,0)
 have c0:W2.cell? ⟨w.heap.size,0,none⟩=some (.slice none 0 0):=HK2.out.cell 0 rfl
 have c1:W2.cell? ⟨w.heap.size,1,none⟩=some (.slice none 0 0):=HK2.out.cell 1 rfl
 have f0:W2.frozen? ⟨w.heap.size,0,none⟩=false:=HK2.out.free 0
 have f1:W2.frozen? ⟨w.heap.size,1,none⟩=false:=HK2.out.free 1
 have HLT:Hid (w.heap.size<W1.heap.size):=HK1.out.lt
 go_enter Tryz.func9,Tryz.ntmps9
 go_upto_region 1 with fail
 rw [← HW1.out]
 go_wp2_with (rw [← HW2.out])
 try simp only [Exit.inBlock,Exit.then]
 have HK3:=(HK2.out.set 0 (.slice none 0 0)).set 1 (.slice (some ⟨W1.heap.size,0,none⟩) 1 1)
 refine bodyPost_ret (results_word (by rfl) (HK3.cell 0 rfl) (HK3.cell 1 rfl)) rfl ?_
 refine ⟨⟨_,rfl,(HR2.out.far fun x hx => ?_).far fun x hx => ?_⟩,(HX2.out.setCell (p:=⟨w.heap.size,0,none⟩) (Nat.le_refl _) _).setCell (p:=⟨w.heap.size,1,none⟩) (Nat.le_refl _) _⟩
 ·cases hx
  exact Nat.ne_of_gt HLT.out
 ·cases hx
  exact Nat.ne_of_gt HLT.out
theorem law_word1 (w:World):Calls Tryz.prog 9 #[.int .i64 1] w fun e w'=>(∃ g,e=.returned (.agg #[.slice none 0 0,.slice (some ⟨g,0,none⟩) 1 1])∧Rd w' (some ⟨g,0,none⟩) 1 [1])∧Below w.heap.size w w':=by
 obtain ⟨W1,HW1⟩:∃ W,Hid (W=w.alloc (.cells #[.slice none 0 0,.slice none 0 0] 45)):=⟨_,rfl⟩
 have HX1:Hid (Below w.heap.size w W1):=by (show Below _ _ _);rw [HW1.out];exact below_alloc _ _
 have HK1:Hid (Row1 W1 w.heap.size 45 [.slice none 0 0,.slice none 0 0]):=by (show Row1 _ _ _ _);rw [HW1.out];exact Row1.of (Blk.new _ _ _)
 obtain ⟨W2,HW2⟩:∃ W,Hid (W=W1.alloc (.cells #[.int .u8 1] 5)):=⟨_,rfl⟩
 have HX12:Hid (Below W1.heap.size W1 W2):=by (show Below _ _ _);rw [HW2.out];exact below_alloc _ _
 have HX2:Hid (Below w.heap.size w W2):=HX1.out.trans (HX12.out.mono HX1.out.size)
 have HK2:Hid (Row1 W2 w.heap.size 45 [.slice none 0 0,.slice none 0 0]):=HK1.out.stay HX12.out
 have HR2:Hid (Rd W2 (some ⟨W1.heap.size,0,none⟩) 1 [1]):=by (show Rd _ _ _ _);rw [HW2.out];exact rd_one W1 1 1 rfl (by decide) (0,0)
 have c0:W2.cell? ⟨w.heap.size,0,none⟩=some (.slice none 0 0):=HK2.out.cell 0 rfl
 have c1:W2.cell? ⟨w.heap.size,1,none⟩=some (.slice none 0 0):=HK2.out.cell 1 rfl
 have f0:W2.frozen? ⟨w.heap.size,0,none⟩=false:=HK2.out.free 0
 have f1:W2.frozen? ⟨w.heap.size,1,none⟩=false:=HK2.out.free 1
 have HLT:Hid (w.heap.size<W1.heap.size):=HK1.out.lt
 go_enter Tryz.func9,Tryz.ntmps9
 go_upto_region 1 with fail
 rw [← HW1.out]
 go_wp2_with (rw [← HW2.out])
 try simp only [Exit.inBlock,Exit.then]
 have HK3:=(HK2.out.set 0 (.slice none 0 0)).set 1 (.slice (some ⟨W1.heap.size,0,none⟩) 1 1)
 refine bodyPost_ret (results_word (by rfl) (HK3.cell 0 rfl) (HK3.cell 1 rfl)) rfl ?_
 refine ⟨⟨_,rfl,(HR2.out.far fun x hx => ?_).far fun x hx => ?_⟩,(HX2.out.setCell (p:=⟨w.heap.size,0,none⟩) (Nat.le_refl _) _).setCell (p:=⟨w.heap.size,1,none⟩) (Nat.le_refl _) _⟩
 ·cases hx
  exact Nat.ne_of_gt HLT.out
 ·cases hx
  exact Nat.ne_of_gt HLT.out
theorem law_all (w:World):Calls Tryz.prog 7 #[] w fun e w'=>(∃ g,e=.returned (.slice (some ⟨g,0,none⟩) 1 1)∧Row1 w' g 88 yesC)∧Below w.heap.size w w':=by
 have hcx:∀ (a:Addr) (m:Mode) (W:World) (x y:Nat),(store a (.complex .f64 x y) m).run Tryz.prog W=stored Tryz.prog W a (.complex .f64 x y) m:=fun a m W x y=>run_store _ _ _ _ _ rfl
 obtain ⟨W1,HW1⟩:∃ W,Hid (W=w.alloc (.cells #[.int .i64 1,.string ⟨#[]⟩,.int .i64 0,.int .i64 0,.int .i64 0,.string ⟨#[]⟩,.bool false,.complex .f64 0 0,.int .i64 0] 88)):=⟨_,rfl⟩
 have HX1:Hid (Below w.heap.size w W1):=by (show Below _ _ _);rw [HW1.out];exact below_alloc _ _
 have HK1:Hid (Row1 W1 w.heap.size 88 yesC):=by (show Row1 _ _ _ _);rw [HW1.out];exact Row1.of (Blk.new _ _ _)
 go_enter Tryz.func7,Tryz.ntmps7
 go_wp2
 rw [← HW1.out]
 go_returns
 exact ⟨⟨_,rfl,HK1.out⟩,HX1.out⟩
end
section
open Go.RowKit Go.Shelf Go.Maps
theorem law_joined (B:Nat) (A:Ad) (w:World) (age:Nat) (D:Dk) (h:Brk B A w age D false 0 0) (h6:(getB D 0 16 0).1=6) (h0:(getB D 0 16 8).1=0):Calls Tryz.prog 121 #[.pointer (some ⟨A.gb,0,none⟩),.int .i64 1] w fun e w'=>e=.returned (.bool true)∧Brk B A w' age D true 0 0∧Below B w w':=by
 have HV:Hid ((getB D 0 16 0).1=6∧(getB D 0 16 8).1=0):=⟨h6,h0⟩
 have HCN:=br_Connect1 B A w age D false 0 0 h h6 h0
 clear h h6 h0
 go_enter Tryz.func121,Tryz.ntmps121
 go_wp2_with fail
 refine wp_loop_rounds 2 ?_
 rw [rounds_succ]
 go_wp2_with fail
 refine HCN.mono ?_
 rintro e w1 ⟨rfl,hk1,hb1⟩
 have HB1:Hid (Brk B A w1 age D true 0 0):=hk1
 have HX1:Hid (Below B w w1):=hb1
 clear hk1 hb1 HCN
 have HST:=br_State1 B A w1 age D true 0 0 HB1.out HV.out.1 HV.out.2
 go_wp2_with fail
 refine HST.mono ?_
 rintro e w2 ⟨rfl,hb2⟩
 have HB2:Hid (Brk B A w2 age D true 0 0):=HB1.out.stay hb2
 have HX2:Hid (Below B w w2):=HX1.out.trans (hb2.mono HB1.out.core.bw)
 clear hb2 HST
 go_wp2_with fail
 rw [rounds_succ]
 go_wp2
 go_returns
 exact ⟨rfl,HB2.out,HX2.out⟩
theorem law_up (gp cp gs cs gt ct:Nat) (w:World) (h:Tpo w gp cp gs cs gt ct):Calls Tryz.prog 56 #[tpV gp cp gs cs] w fun e w'=>(∃ B A dv,e=.returned (.tuple #[dv,.pointer (some ⟨A.gb,0,none⟩),.bool true])∧Brk B A w' lv0.age lv3 true 0 0∧w.heap.size≤B)∧Below w.heap.size w w':=by
 have HTP:Hid (Tpo w gp cp gs cs gt ct):=h
 obtain ⟨W1,HW1⟩:∃ W,Hid (W=w.alloc (.cells #[.int .i64 1,.slice none 0 0,.slice (some ⟨gp,0,none⟩) 1 cp,.slice (some ⟨gs,0,none⟩) 1 cs,.slice none 0 0] 40)):=⟨_,rfl⟩
 have HX1:Hid (Below w.heap.size w W1):=by (show Below _ _ _);rw [HW1.out];exact below_alloc _ _
 have HK1:Hid (Row1 W1 w.heap.size 40 (tpC gp cp gs cs)):=by (show Row1 _ _ _ _);rw [HW1.out];exact Row1.of (Blk.new _ _ _)
 have HLT:Hid (w.heap.size<W1.heap.size):=HK1.out.lt
 have HSN:=sector_New 326 W1
 clear h
 unfold tpV
 go_enter Tryz.func56,Tryz.ntmps56
 go_upto_region 1 with fail
 rw [← HW1.out]
 go_wp2_with fail
 refine HSN.mono ?_
 rintro e w2 ⟨ht,hb2⟩
 rcases ht.out with ⟨h0,_⟩ | ⟨_,g,rfl,hd⟩
 ·exact absurd ⟨by decide,by decide⟩ h0
 have HDk:Hid (Disk w2 W1.heap.size g W1.heap.size (.slice none 0 0) lv0):=hd
 have HX2:Hid (Below w.heap.size w w2):=HX1.out.trans (hb2.mono HX1.out.size)
 have HK2:Hid (Row1 w2 w.heap.size 40 (tpC gp cp gs cs)):=HK1.out.stay hb2
 clear ht hd hb2 HSN
 obtain ⟨t0,t1,t2,t3,t4⟩:=tp_facts HK2.out
 have HNW:=br_New W1.heap.size g W1.heap.size (.slice none 0 0) lv0 gp cp gs cs gt ct w2 HDk.out lv_0.1 lv_0.2.1 lv_r (by rw [lv_h];rfl) (by rw [lv_h];exact Nat.zero_le _) (HTP.out.stay HX2.out)
 unfold tpV at HNW
 go_wp2_with fail
 refine HNW.mono ?_
 rintro e w3 ⟨ht3,hb3⟩
 obtain ⟨A,uv,rv,rfl,hag,hagd,hcore,hstm,hlog⟩:=ht3.out
 subst hag
 have HB3:Hid (Brk W1.heap.size A w3 lv0.age lv0 false 0 0):=⟨hcore,hstm,⟨(.slice none 0 0),uv,rv,by rw [hagd];exact hlog⟩,rfl,lv_0.2.1⟩
 have HX3:Hid (Below w.heap.size w w3):=HX2.out.trans (hb3.mono (Nat.le_of_lt HLT.out))
 have HX23:Hid (Below W1.heap.size w2 w3):=hb3
 have c3:w3.cell? ⟨w.heap.size,3,none⟩=some (.slice (some ⟨gs,0,none⟩) 1 cs):=(hb3.cell (p:=⟨w.heap.size,3,none⟩) HLT.out).trans t3
 clear ht3 hb3 hcore hstm hlog HNW t0 t1 t2 t3 t4 hagd
 have HSU:=br_Subscribe1 W1.heap.size A w3 lv0.age lv0 false 0 0 HB3.out lv_1a.1 lv_0.2.2.1 lv_1a.2 (by rw [show putCD lv0 0 16 0 5=lv1 from rfl,lv_1b.1,lv_0.2.2.2]) lv_1b.2
 rw [show putCD lv0 0 16 0 5=lv1 from rfl] at HSU
 go_wp2_with fail
 refine wp_loop_rounds 2 ?_
 rw [rounds_succ]
 go_wp2_with fail
 refine HSU.mono ?_
 rintro e w4 ⟨rfl,hk4,hb4⟩
 have HB4:Hid (Brk W1.heap.size A w4 lv0.age lv1 false 0 0):=hk4
 have HX4:Hid (Below W1.heap.size w2 w4):=HX23.out.trans hb4
 have c4:w4.cell? ⟨w.heap.size,3,none⟩=some (.slice (some ⟨gs,0,none⟩) 1 cs):=(hb4.cell (p:=⟨w.heap.size,3,none⟩) HLT.out).trans c3
 clear hk4 hb4 HSU c3
 have HTI:=br_Tick1 W1.heap.size A w4 lv0.age lv1 HB4.out lv_1c.1 0 lv_1c.2.1 lv2 lv3 lv_join lv_3b.1 lv_3b.2.1 lv_3b.2.2.1 lv_3b.2.2.2.1
 go_wp2_with fail
 rw [rounds_succ]
 go_wp2_with fail
 refine HTI.mono ?_
 rintro e w5 ⟨rfl,hk5,hb5⟩
 have HX5:Hid (Below W1.heap.size w2 w5):=HX4.out.trans hb5
 have c5:w5.cell? ⟨w.heap.size,3,none⟩=some (.slice (some ⟨gs,0,none⟩) 1 cs):=(hb5.cell (p:=⟨w.heap.size,3,none⟩) HLT.out).trans c4
 have HJO:=law_joined W1.heap.size A w5 lv0.age lv3 hk5 lv_3b.2.2.1 lv_3b.2.2.2.1
 clear hk5 hb5 HTI c4
 go_wp2_with fail
 refine HJO.mono ?_
 rintro e w6 ⟨rfl,hk6,hb6⟩
 have HR:Hid (Brk W1.heap.size A w6 lv0.age lv3 true 0 0∧Below w.heap.size w w6):=⟨hk6,HX2.out.trans ((HX5.out.trans hb6).mono (Nat.le_of_lt HLT.out))⟩
 clear hk6 hb6 HJO c5
 go_wp2
 go_returns
 exact ⟨⟨W1.heap.size,A,_,rfl,HR.out.1,Nat.le_of_lt HLT.out⟩,HR.out.2⟩
theorem law_live16 (w:World):Calls Tryz.prog 20 #[] w fun e w'=>e=.returned (.bool true)∧Below w.heap.size w w':=by
 obtain ⟨W1,HW1⟩:∃ W,Hid (W=w.alloc (.cells #[.int .i64 0] 3)):=⟨_,rfl⟩
 have HX1:Hid (Below w.heap.size w W1):=by (show Below _ _ _);rw [HW1.out];exact below_alloc _ _
 have HK1:Hid (Row1 W1 w.heap.size 3 [.int .i64 0]):=by (show Row1 _ _ _ _);rw [HW1.out];exact Row1.of (Blk.new _ _ _)
 have HAL:=law_all W1
 go_enter Tryz.func20,Tryz.ntmps20
 go_wp2_with fail
 rw [← HW1.out]
 refine HAL.mono ?_
 rintro e w2 ⟨⟨gt,rfl,hr2⟩,hb2⟩
 have HX2:Hid (Below w.heap.size w w2):=HX1.out.trans (hb2.mono HX1.out.size)
 have HK2:Hid (Row1 w2 w.heap.size 3 [.int .i64 0] ∧ Row1 w2 gt 88 yesC):=⟨HK1.out.stay hb2,hr2⟩
 clear hr2 hb2 HAL
 obtain ⟨W3,HW3⟩:∃ W,Hid (W=w2.alloc (.cells #[.int .i64 0,.int .i64 0,.slice (some ⟨gt,0,none⟩) 1 1] 36)):=⟨_,rfl⟩
 have HX23:Hid (Below w2.heap.size w2 W3):=by (show Below _ _ _);rw [HW3.out];exact below_alloc _ _
 have HX3:Hid (Below w.heap.size w W3):=HX2.out.trans (HX23.out.mono HX2.out.size)
 have HT3:Hid (Tpo W3 w.heap.size 1 w2.heap.size 1 gt 1):=⟨HK2.out.1.stay HX23.out,by rw [HW3.out];exact Row1.of (Blk.new _ _ _),HK2.out.2.stay HX23.out,Nat.le_refl _,Nat.le_refl _,Nat.le_refl _⟩
 have HUP:=law_up w.heap.size 1 w2.heap.size 1 gt 1 W3 HT3.out
 unfold tpV at HUP
 go_wp2_with fail
 rw [← HW3.out]
 refine HUP.mono ?_
 rintro e w4 ⟨⟨B,A,dv,rfl,hk4,hB⟩,hb4⟩
 have HB4:Hid (Brk B A w4 lv0.age lv3 true 0 0):=hk4
 have HWB:Hid (w.heap.size≤B):=Nat.le_trans HX3.out.size hB
 have HX4:Hid (Below w.heap.size w w4):=HX3.out.trans (hb4.mono HX3.out.size)
 clear hk4 hB hb4 HUP
 have HWO:=law_word7 w4
 go_wp2_with fail
 refine HWO.mono ?_
 rintro e w5 ⟨⟨gw,rfl,hr5⟩,hb5⟩
 have HB5:Hid (Brk B A w5 lv0.age lv3 true 0 0):=HB4.out.stay hb5
 have HX5:Hid (Below w.heap.size w w5):=HX4.out.trans (hb5.mono HX4.out.size)
 have HPB:=br_Publish1 B A w5 lv0.age lv3 true 0 0 HB5.out lv4 lv5 lv_pub gw 1 hr5
 clear hr5 hb5 HWO
 go_wp2_with fail
 refine HPB.mono ?_
 rintro e w6 ⟨rfl,hk6,⟨b,hgb,hi6⟩,hb6⟩
 have HX6:Hid (Below w.heap.size w w6):=HX5.out.trans (hb6.mono HWB.out)
 have HD1:=br_Deliver1 B A w6 lv0.age lv5 hk6 (fun k=>b≤k) (Nat.not_le_of_lt hgb) hi6
 clear hk6 hgb hi6 hb6 HPB
 go_wp2_with fail
 refine HD1.mono ?_
 rintro e w7 ⟨⟨ba1,bc1,rfl⟩,hk7,⟨Z7,hz7,hi7⟩,hb7,_⟩
 have HX7:Hid (Below w.heap.size w w7):=HX6.out.trans (hb7.mono HWB.out)
 obtain ⟨W8,HW8⟩:∃ W,Hid (W=w7.alloc (.cells #[.int .i64 1,.int .i64 5,.int .i64 5,.int .i64 5,.int .u32 1,.slice ba1 3 bc1] 53)):=⟨_,rfl⟩
 have HX78:Hid (Below w7.heap.size w7 W8):=by (show Below _ _ _);rw [HW8.out];exact below_alloc _ _
 have HX8:Hid (Below w.heap.size w W8):=HX7.out.trans (HX78.out.mono HX7.out.size)
 have HK8:Hid (Row1 W8 w7.heap.size 53 [.int .i64 1,.int .i64 5,.int .i64 5,.int .i64 5,.int .u32 1,.slice ba1 3 bc1]):=by (show Row1 _ _ _ _);rw [HW8.out];exact Row1.of (Blk.new _ _ _)
 have HBW:Hid (B≤w7.heap.size):=hk7.core.bw
 have HD2:=br_Deliver2 B A W8 lv0.age lv5 (hk7.stay HX78.out) Z7 hz7 (hi7.stay HX78.out)
 clear hk7 hz7 hi7 hb7 HD1
 go_upto_region 6 with fail
 rw [← HW8.out]
 go_wp2_with fail
 refine HD2.mono ?_
 rintro e w9 ⟨⟨ba2,bc2,rfl⟩,hk9,_,hb9,hf9⟩
 have HX9:Hid (Below w.heap.size w w9):=HX8.out.trans (hb9.mono HWB.out)
 have HK9:Hid (Row1 w9 w7.heap.size 53 [.int .i64 1,.int .i64 5,.int .i64 5,.int .i64 5,.int .u32 1,.slice ba1 3 bc1]):=HK8.out.fg hf9 (by decide)
 clear hb9 hf9 HD2
 obtain ⟨W10,HW10⟩:∃ W,Hid (W=w9.alloc (.cells #[.int .i64 0,.int .i64 0,.int .i64 5,.int .i64 0,.int .u32 0,.slice ba2 0 bc2] 53)):=⟨_,rfl⟩
 have HX910:Hid (Below w9.heap.size w9 W10):=by (show Below _ _ _);rw [HW10.out];exact below_alloc _ _
 have HX10:Hid (Below w.heap.size w W10):=HX9.out.trans (HX910.out.mono HX9.out.size)
 have HK10:Hid (Row1 W10 w9.heap.size 53 [.int .i64 0,.int .i64 0,.int .i64 5,.int .i64 0,.int .u32 0,.slice ba2 0 bc2]):=by (show Row1 _ _ _ _);rw [HW10.out];exact Row1.of (Blk.new _ _ _)
 have k0:W10.cell? ⟨w7.heap.size,0,none⟩=some (.int .i64 1):=(HK9.out.stay HX910.out).cell 0 rfl
 have k1:W10.cell? ⟨w7.heap.size,1,none⟩=some (.int .i64 5):=(HK9.out.stay HX910.out).cell 1 rfl
 have m0:W10.cell? ⟨w9.heap.size,0,none⟩=some (.int .i64 0):=HK10.out.cell 0 rfl
 have m2:W10.cell? ⟨w9.heap.size,2,none⟩=some (.int .i64 5):=HK10.out.cell 2 rfl
 go_upto_region 7 with fail
 rw [← HW10.out]
 go_wp2
 go_returns
 exact ⟨rfl,HX10.out⟩
end
section
open Go.ChangeShapes Go.WideShapes Go.ChangeAt Go.RowKit
def layTab (w:World):World :=
 { w with heap:=w.heap.modify 1 fun
   | .cells _ t frozen=>.cells #[.int .u32 0,.int .u32 274646895,.int .u32 549293790,.int .u32 820201905,.int .u32 1098587580,.int .u32 1361435347,.int .u32 1640403810,.int .u32 1905808397,.int .u32 2197175160,.int .u32 2460548119,.int .u32 2722870694,.int .u32 2987750089,.int .u32 3280807620,.int .u32 3553878443,.int .u32 3811616794,.int .u32 4084100981] t frozen
   | o=>o }
end
end Go.Proofs.YtoiennkfdjnkbaaGreatDoor
