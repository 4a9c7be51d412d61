import Derived.Test.YtoiennkfdjnkbaaGreatDoorPk14
import Derived.Test.YtoiennkfdjnkbaaGreatDoorPk00
import Derived.Deep.RegionHeld3
set_option maxRecDepth 100000
set_option maxHeartbeats 8000000
namespace Go.Proofs.YtoiennkfdjnkbaaGreatDoor
section
open Go.RowKit
theorem same_below {f:Nat} {vs:Array Value} {w:World} {v:Value} (h:Calls Tryz.prog f vs w fun e w'=>e=.returned v∧w'=w):Calls Tryz.prog f vs w fun e w'=>e=.returned v∧Below w.heap.size w w':=h.mono (by rintro e w' ⟨rfl,rfl⟩;exact ⟨rfl,Below.refl _ _⟩)
theorem br_idxSide0 (w:World):Calls Tryz.prog 238 #[.slice none 0 0,.func (.func 180) #[] #[]] w fun e w'=>e=.returned (.int .i64 (-1))∧w'=w:=by
 go_enter Tryz.func238,Tryz.ntmps238
 go_wp2_with fail
 refine wp_loop_rounds 1 ?_
 rw [rounds_succ]
 go_wp2
 go_returns
 exact ⟨rfl,rfl⟩
theorem br_conSide0 (w:World):Calls Tryz.prog 179 #[.slice none 0 0,.func (.func 180) #[] #[]] w fun e w'=>e=.returned (.bool false)∧Below w.heap.size w w':=by
 have HI:=same_below (br_idxSide0 w)
 go_enter Tryz.func179,Tryz.ntmps179
 go_wp2_with fail
 refine HI.mono ?_
 rintro e w1 ⟨rfl,hb1⟩
 have HB1:Hid (Below w.heap.size w w1):=hb1
 clear hb1 HI
 go_wp2
 go_returns
 exact ⟨rfl,HB1.out⟩
theorem br_crowded0 (w:World):Calls Tryz.prog 178 #[.slice none 0 0] w fun e w'=>e=.returned (.bool false)∧Below w.heap.size w w':=by
 have HI:=br_conSide0 w
 go_enter Tryz.func178,Tryz.ntmps178
 go_wp2_with fail
 refine HI.mono ?_
 rintro e w1 ⟨rfl,hb1⟩
 have HB1:Hid (Below w.heap.size w w1):=hb1
 clear hb1 HI
 go_wp2
 go_returns
 exact ⟨rfl,HB1.out⟩
theorem br_idxBox0 (w:World):Calls Tryz.prog 239 #[.slice none 0 0,.func (.func 178) #[] #[]] w fun e w'=>e=.returned (.int .i64 (-1))∧w'=w:=by
 go_enter Tryz.func239,Tryz.ntmps239
 go_wp2_with fail
 refine wp_loop_rounds 1 ?_
 rw [rounds_succ]
 go_wp2
 go_returns
 exact ⟨rfl,rfl⟩
theorem br_idxBox1 (g c:Nat) (w:World) (h:Row1 w g 280 [.slice none 0 0]):Calls Tryz.prog 239 #[.slice (some ⟨g,0,none⟩) 1 c,.func (.func 178) #[] #[]] w fun e w'=>e=.returned (.int .i64 (-1))∧Below w.heap.size w w':=by
 have c0:w.cell? ⟨g,0,none⟩=some (.slice none 0 0):=h.cell 0 rfl
 have HI:=br_crowded0 w
 clear h
 go_enter Tryz.func239,Tryz.ntmps239
 go_wp2_with fail
 refine wp_loop_rounds 2 ?_
 rw [rounds_succ]
 go_wp2_with fail
 refine HI.mono ?_
 rintro e w1 ⟨rfl,hb1⟩
 have HB1:Hid (Below w.heap.size w w1):=hb1
 clear hb1 HI c0
 go_wp2_with fail
 rw [rounds_succ]
 go_wp2
 go_returns
 exact ⟨rfl,HB1.out⟩
theorem br_conBox0 (w:World):Calls Tryz.prog 182 #[.slice none 0 0,.func (.func 178) #[] #[]] w fun e w'=>e=.returned (.bool false)∧Below w.heap.size w w':=by
 have HI:=same_below (br_idxBox0 w)
 go_enter Tryz.func182,Tryz.ntmps182
 go_wp2_with fail
 refine HI.mono ?_
 rintro e w1 ⟨rfl,hb1⟩
 have HB1:Hid (Below w.heap.size w w1):=hb1
 clear hb1 HI
 go_wp2
 go_returns
 exact ⟨rfl,HB1.out⟩
theorem br_conBox1 (g c:Nat) (w:World) (h:Row1 w g 280 [.slice none 0 0]):Calls Tryz.prog 182 #[.slice (some ⟨g,0,none⟩) 1 c,.func (.func 178) #[] #[]] w fun e w'=>e=.returned (.bool false)∧Below w.heap.size w w':=by
 have HI:=br_idxBox1 g c w h
 go_enter Tryz.func182,Tryz.ntmps182
 go_wp2_with fail
 refine HI.mono ?_
 rintro e w1 ⟨rfl,hb1⟩
 have HB1:Hid (Below w.heap.size w w1):=hb1
 clear hb1 HI
 go_wp2
 go_returns
 exact ⟨rfl,HB1.out⟩
theorem br_over0 (g1:Nat) (w:World) (hf:Row1 w g1 286 [.func (.func 178) #[] #[]]):Calls Tryz.prog 181 #[.slice none 0 0,.pointer (some ⟨g1,0,none⟩)] w fun e w'=>e=.returned (.bool false)∧Below w.heap.size w w':=by
 have c0:w.cell? ⟨g1,0,none⟩=some (.func (.func 178) #[] #[]):=hf.cell 0 rfl
 have HI:=br_conBox0 w
 clear hf
 go_enter Tryz.func181,Tryz.ntmps181
 go_wp2_with fail
 refine HI.mono ?_
 rintro e w1 ⟨rfl,hb1⟩
 have HB1:Hid (Below w.heap.size w w1):=hb1
 clear hb1 HI c0
 go_wp2
 go_returns
 exact ⟨rfl,HB1.out⟩
theorem br_over1 (g c:Nat) (g1:Nat) (w:World) (h:Row1 w g 280 [.slice none 0 0]) (hf:Row1 w g1 286 [.func (.func 178) #[] #[]]):Calls Tryz.prog 181 #[.slice (some ⟨g,0,none⟩) 1 c,.pointer (some ⟨g1,0,none⟩)] w fun e w'=>e=.returned (.bool false)∧Below w.heap.size w w':=by
 have c0:w.cell? ⟨g1,0,none⟩=some (.func (.func 178) #[] #[]):=hf.cell 0 rfl
 have HI:=br_conBox1 g c w h
 clear hf
 go_enter Tryz.func181,Tryz.ntmps181
 go_wp2_with fail
 refine HI.mono ?_
 rintro e w1 ⟨rfl,hb1⟩
 have HB1:Hid (Below w.heap.size w w1):=hb1
 clear hb1 HI c0
 go_wp2
 go_returns
 exact ⟨rfl,HB1.out⟩
theorem br_pastLimitsY (ga:Nat) (w:World) (h:Row1 w ga 280 [.slice none 0 0]):Calls Tryz.prog 131 #[.agg #[.slice (some ⟨ga,0,none⟩) 1 1,.slice none 0 0]] w fun e w'=>e=.returned (.bool false)∧Below w.heap.size w w':=by
 have HV:Hid (Row1 w ga 280 [.slice none 0 0]):=h
 obtain ⟨W1,HW1⟩:∃ W1,Hid (W1=(w.alloc (.cells #[.slice (some ⟨ga,0,none⟩) 1 1,.slice none 0 0] 226)).alloc (.cells #[.func (.func 178) #[] #[]] 286)):=⟨_,rfl⟩
 have hb1:=below_alloc w (.cells #[.slice (some ⟨ga,0,none⟩) 1 1,.slice none 0 0] 226)
 have hb2:=below_alloc (w.alloc (.cells #[.slice (some ⟨ga,0,none⟩) 1 1,.slice none 0 0] 226)) (.cells #[.func (.func 178) #[] #[]] 286)
 have HX1:Hid (Below w.heap.size w W1):=by (show Below _ _ _);rw [HW1.out];exact hb1.trans (hb2.mono hb1.size)
 have HK0:Hid (Blk W1 w.heap.size #[.slice (some ⟨ga,0,none⟩) 1 1,.slice none 0 0] 226):=by (show Blk _ _ _ _);rw [HW1.out];exact (Blk.new w _ _).stay hb2
 have HK1:Hid (Row1 W1 (w.heap.size+1) 286 [.func (.func 178) #[] #[]]):=by
  (show Row1 _ _ _ _);rw [HW1.out]
  have:=Blk.new (w.alloc (.cells #[.slice (some ⟨ga,0,none⟩) 1 1,.slice none 0 0] 226)) #[.func (.func 178) #[] #[]] 286
  exact Row1.of (by simpa using this)
 clear hb1 hb2 h
 have c0:W1.cell? ⟨w.heap.size,0,none⟩=some (.slice (some ⟨ga,0,none⟩) 1 1):=HK0.out.cell 0 rfl
 have HA:=br_over1 ga 1 (w.heap.size+1) W1 (HV.out.stay HX1.out) HK1.out
 have hfx:∀ (a:Addr) (m:Mode) (W:World),(store a (.func (.func 178) #[] #[]) m).run Tryz.prog W=stored Tryz.prog W a (.func (.func 178) #[] #[]) m:=fun a m W=>run_store _ _ _ _ _ rfl
 go_enter Tryz.func131,Tryz.ntmps131
 go_upto_region 2 with fail
 rw [← HW1.out]
 clear hfx
 go_wp2_with fail
 refine HA.mono ?_
 rintro e w2 ⟨rfl,hb2⟩
 have HX2:Hid (Below w.heap.size w w2):=HX1.out.trans (hb2.mono HX1.out.size)
 have c1:w2.cell? ⟨w.heap.size,1,none⟩=some (.slice none 0 0):=(HK0.out.stay hb2).cell 1 rfl
 have HC:=br_over0 (w.heap.size+1) w2 (HK1.out.stay hb2)
 clear hb2 HA c0
 go_wp2_with fail
 refine HC.mono ?_
 rintro e w3 ⟨rfl,hb3⟩
 have HX3:Hid (Below w.heap.size w w3):=HX2.out.trans (hb3.mono HX2.out.size)
 clear hb3 HC c1
 go_wp2
 go_returns
 exact ⟨rfl,HX3.out⟩
theorem br_BoxesY (gt ct:Nat) (w:World) (hg:Row1 w gt 88 [.int .i64 1,.string ⟨#[]⟩,.int .i64 0,.int .i64 0,.int .i64 0,.string ⟨#[]⟩,.bool false,.complex .f64 0 0,.int .i64 0]):Calls Tryz.prog 68 #[.slice none 0 0,.slice (some ⟨gt,0,none⟩) 1 ct] w fun e w'=>(∃ v,e=.returned (.tuple #[v,.int .i64 0]))∧Below w.heap.size w w':=by
 have HG:Hid (Row1 w gt 88 [.int .i64 1,.string ⟨#[]⟩,.int .i64 0,.int .i64 0,.int .i64 0,.string ⟨#[]⟩,.bool false,.complex .f64 0 0,.int .i64 0]):=hg
 have hcx:∀ (a:Addr) (m:Mode) (W:World) (x y:Nat),(store a (.complex .f64 x y) m).run Tryz.prog W=stored Tryz.prog W a (.complex .f64 x y) m:=fun a m W x y=>run_store _ _ _ _ _ rfl
 have HFI:=br_FitsY gt ct w hg
 clear hg
 go_enter Tryz.func68,Tryz.ntmps68
 go_wp2_with fail
 refine HFI.mono ?_
 rintro e w1 ⟨rfl,hb1⟩
 have HX1:Hid (Below w.heap.size w w1):=hb1
 have HG1:Hid (Row1 w1 gt 88 [.int .i64 1,.string ⟨#[]⟩,.int .i64 0,.int .i64 0,.int .i64 0,.string ⟨#[]⟩,.bool false,.complex .f64 0 0,.int .i64 0]):=HG.out.stay hb1
 clear hb1 HFI
 obtain ⟨W2,HW2⟩:∃ W,Hid (W=w1.alloc (.cells #[.int .i64 1,.string ⟨#[]⟩,.int .i64 0,.int .i64 0,.int .i64 0,.string ⟨#[]⟩,.bool false,.complex .f64 0 0,.int .i64 0] 88)):=⟨_,rfl⟩
 have HY2:Hid (Below w1.heap.size w1 W2):=by (show Below _ _ _);rw [HW2.out];exact below_alloc _ _
 have HK2:Hid (Row1 W2 w1.heap.size 88 [.int .i64 1,.string ⟨#[]⟩,.int .i64 0,.int .i64 0,.int .i64 0,.string ⟨#[]⟩,.bool false,.complex .f64 0 0,.int .i64 0]):=by (show Row1 _ _ _ _);rw [HW2.out];exact Row1.of (Blk.new _ _ _)
 have HX2:Hid (Below w.heap.size w W2):=HX1.out.trans (HY2.out.mono HX1.out.size)
 have HDN:=br_doneY W2
 go_wp2_with fail
 refine wp_loop_rounds 2 ?_
 rw [rounds_succ]
 go_upto_region 8 with (guard_target =~ wpList _ _ _ (Oper.mk (some 21) _ _ _ _ _ :: _) _ _;refine wpList_load_mid rfl 88 (.tmp 20) rfl gt 0 rfl [.int .i64 1,.string ⟨#[]⟩,.int .i64 0,.int .i64 0,.int .i64 0,.string ⟨#[]⟩,.bool false,.complex .f64 0 0,.int .i64 0] _ HG1.out.range Tryz.underlying88 rfl (by rfl) ?_)
 rw [← HW2.out]
 clear hcx
 go_wp2_with (guard_target =~ wpList _ _ _ (Oper.mk (some 23) _ _ _ _ _ :: _) _ _;refine wpList_load_mid rfl 88 (.tmp 9) rfl w1.heap.size 0 rfl [.int .i64 1,.string ⟨#[]⟩,.int .i64 0,.int .i64 0,.int .i64 0,.string ⟨#[]⟩,.bool false,.complex .f64 0 0,.int .i64 0] _ HK2.out.range Tryz.underlying88 rfl (by rfl) ?_)
 refine HDN.mono ?_
 rintro e w3 ⟨ht3,hb3⟩
 obtain ⟨v3,rfl,htr⟩:=ht3.out
 obtain ⟨gq,cq,ga,rfl,hq,ha⟩:=htr
 have HX3:Hid (Below w.heap.size w w3):=HX2.out.trans (hb3.mono HX2.out.size)
 have HQ3:Hid (Row1 w3 gq 226 [.slice (some ⟨ga,0,none⟩) 1 1,.slice none 0 0]):=hq
 have HPL:=br_pastLimitsY ga w3 ha
 clear ht3 hb3 hq ha HDN
 have c0:w3.cell? ⟨gq,0,none⟩=some (.slice (some ⟨ga,0,none⟩) 1 1):=HQ3.out.cell 0 rfl
 have c1:w3.cell? ⟨gq,1,none⟩=some (.slice none 0 0):=HQ3.out.cell 1 rfl
 go_wp2_with fail
 refine HPL.mono ?_
 rintro e w4 ⟨rfl,hb4⟩
 have HX4:Hid (Below w.heap.size w w4):=HX3.out.trans (hb4.mono HX3.out.size)
 have d0:w4.cell? ⟨gq,0,none⟩=some (.slice (some ⟨ga,0,none⟩) 1 1):=(HQ3.out.stay hb4).cell 0 rfl
 clear hb4 HPL c0 c1
 go_wp2_with fail
 rw [rounds_succ]
 go_wp2
 go_returns
 exact ⟨⟨_,rfl⟩,HX4.out⟩
end
section
open Go.RowKit
def tpC (gp cp gs cs:Nat):List Value:=[.int .i64 1,.slice none 0 0,.slice (some ⟨gp,0,none⟩) 1 cp,.slice (some ⟨gs,0,none⟩) 1 cs,.slice none 0 0]
theorem br_places (gp cp gs cs gt ct:Nat) (w:World) (h:Tpo w gp cp gs cs gt ct):Calls Tryz.prog 67 #[tpV gp cp gs cs] w fun e w'=>e=.returned (.bool true)∧Below w.heap.size w w':=by
 have HT:Hid (Tpo w gp cp gs cs gt ct):=h
 obtain ⟨W1,HW1⟩:∃ W,Hid (W=w.alloc (.cells #[.int .i64 1,.slice none 0 0,.slice (some ⟨gp,0,none⟩) 1 cp,.slice (some ⟨gs,0,none⟩) 1 cs,.slice none 0 0] 40)):=⟨_,rfl⟩
 have HY1:Hid (Below w.heap.size w W1):=by (show Below _ _ _);rw [HW1.out];exact below_alloc _ _
 have HK1:Hid (Row1 W1 w.heap.size 40 (tpC gp cp gs cs)):=by (show Row1 _ _ _ _);rw [HW1.out];exact Row1.of (Blk.new _ _ _)
 have HT1:Hid (Tpo W1 gp cp gs cs gt ct):=HT.out.stay HY1.out
 have c2:W1.cell? ⟨w.heap.size,2,none⟩=some (.slice (some ⟨gp,0,none⟩) 1 cp):=HK1.out.cell 2 rfl
 have p0:W1.cell? ⟨gp,0,none⟩=some (.int .i64 0):=HT1.out.pubs.cell 0 rfl
 have HB1:=br_isBroker 1 0 (.slice none 0 0) (.slice (some ⟨gp,0,none⟩) 1 cp) (.slice (some ⟨gs,0,none⟩) 1 cs) (.slice none 0 0) (by decide) (by decide) W1
 clear h
 unfold tpV
 go_enter Tryz.func67,Tryz.ntmps67
 go_upto_region 1 with fail
 rw [← HW1.out]
 go_wp2_with fail
 refine wp_loop_rounds 2 ?_
 rw [rounds_succ]
 go_wp2_with (guard_target =~ wpList _ _ _ (Oper.mk (some 14) _ _ _ _ _ :: _) _ _;refine wpList_load_mid rfl 40 (.tmp 1) rfl w.heap.size 0 rfl [.int .i64 1,.slice none 0 0,.slice (some ⟨gp,0,none⟩) 1 cp,.slice (some ⟨gs,0,none⟩) 1 cs,.slice none 0 0] _ HK1.out.range Tryz.underlying40 rfl (by rfl) ?_)
 refine HB1.mono ?_
 rintro e w2 ⟨rfl,hb2⟩
 have HX2:Hid (Below w.heap.size w w2):=HY1.out.trans (hb2.mono HY1.out.size)
 have HK2:Hid (Row1 w2 w.heap.size 40 (tpC gp cp gs cs)):=HK1.out.stay hb2
 have HT2:Hid (Tpo w2 gp cp gs cs gt ct):=HT1.out.stay hb2
 clear hb2 HB1 c2 p0
 have c3:w2.cell? ⟨w.heap.size,3,none⟩=some (.slice (some ⟨gs,0,none⟩) 1 cs):=HK2.out.cell 3 rfl
 obtain ⟨W3,HW3⟩:∃ W,Hid (W=w2.alloc (.cells #[.int .i64 0,.int .i64 0,.slice (some ⟨gt,0,none⟩) 1 ct] 36)):=⟨_,rfl⟩
 have HY3:Hid (Below w2.heap.size w2 W3):=by (show Below _ _ _);rw [HW3.out];exact below_alloc _ _
 have HX3:Hid (Below w.heap.size w W3):=HX2.out.trans (HY3.out.mono HX2.out.size)
 have HK3:Hid (Row1 W3 w2.heap.size 36 [.int .i64 0,.int .i64 0,.slice (some ⟨gt,0,none⟩) 1 ct]):=by (show Row1 _ _ _ _);rw [HW3.out];exact Row1.of (Blk.new _ _ _)
 have HK3t:Hid (Row1 W3 w.heap.size 40 (tpC gp cp gs cs)):=HK2.out.stay HY3.out
 have q0:W3.cell? ⟨w2.heap.size,0,none⟩=some (.int .i64 0):=HK3.out.cell 0 rfl
 have HB3:=br_isBroker 1 0 (.slice none 0 0) (.slice (some ⟨gp,0,none⟩) 1 cp) (.slice (some ⟨gs,0,none⟩) 1 cs) (.slice none 0 0) (by decide) (by decide) W3
 go_wp2_with fail
 rw [rounds_succ]
 go_wp2_with fail
 refine wp_loop_rounds 2 ?_
 rw [rounds_succ]
 go_upto_region 10 with (guard_target =~ wpList _ _ _ (Oper.mk (some 25) _ _ _ _ _ :: _) _ _;refine wpList_load_mid rfl 36 (.tmp 24) rfl gs 0 rfl [.int .i64 0,.int .i64 0,.slice (some ⟨gt,0,none⟩) 1 ct] _ HT2.out.subs.range Tryz.underlying36 rfl (by rfl) ?_)
 rw [← HW3.out]
 clear c3
 go_wp2_with (guard_target =~ wpList _ _ _ (Oper.mk (some 26) _ _ _ _ _ :: _) _ _;refine wpList_load_mid rfl 40 (.tmp 1) rfl w.heap.size 0 rfl [.int .i64 1,.slice none 0 0,.slice (some ⟨gp,0,none⟩) 1 cp,.slice (some ⟨gs,0,none⟩) 1 cs,.slice none 0 0] _ HK3t.out.range Tryz.underlying40 rfl (by rfl) ?_)
 refine HB3.mono ?_
 rintro e w4 ⟨rfl,hb4⟩
 have HX4:Hid (Below w.heap.size w w4):=HX3.out.trans (hb4.mono HX3.out.size)
 have HK4:Hid (Row1 w4 w2.heap.size 36 [.int .i64 0,.int .i64 0,.slice (some ⟨gt,0,none⟩) 1 ct]):=HK3.out.stay hb4
 have HK4t:Hid (Row1 w4 w.heap.size 40 (tpC gp cp gs cs)):=HK3t.out.stay hb4
 clear hb4 HB3 q0
 have q1:w4.cell? ⟨w2.heap.size,1,none⟩=some (.int .i64 0):=HK4.out.cell 1 rfl
 have HP4:=br_isPub 1 0 (some ⟨gp,0,none⟩) 1 cp (.slice none 0 0) (.slice (some ⟨gs,0,none⟩) 1 cs) (.slice none 0 0) (by decide) (by decide) w4
 have t0:w4.cell? ⟨w.heap.size,0,none⟩=some (.int .i64 1):=HK4t.out.cell 0 rfl
 have t1:w4.cell? ⟨w.heap.size,1,none⟩=some (.slice none 0 0):=HK4t.out.cell 1 rfl
 have t2:w4.cell? ⟨w.heap.size,2,none⟩=some (.slice (some ⟨gp,0,none⟩) 1 cp):=HK4t.out.cell 2 rfl
 have t3:w4.cell? ⟨w.heap.size,3,none⟩=some (.slice (some ⟨gs,0,none⟩) 1 cs):=HK4t.out.cell 3 rfl
 have t4:w4.cell? ⟨w.heap.size,4,none⟩=some (.slice none 0 0):=HK4t.out.cell 4 rfl
 go_wp2_with fail
 refine HP4.mono ?_
 rintro e w5 ⟨rfl,hb5⟩
 have HX5:Hid (Below w.heap.size w w5):=HX4.out.trans (hb5.mono HX4.out.size)
 clear hb5 HP4 q1 t0 t1 t2 t3 t4
 go_wp2_with fail
 rw [rounds_succ]
 go_wp2
 go_returns
 exact ⟨rfl,HX5.out⟩
theorem tp_facts {w:World} {g gp cp gs cs:Nat} (h:Row1 w g 40 (tpC gp cp gs cs)):w.cell? ⟨g,0,none⟩=some (.int .i64 1)∧w.cell? ⟨g,1,none⟩=some (.slice none 0 0)∧w.cell? ⟨g,2,none⟩=some (.slice (some ⟨gp,0,none⟩) 1 cp)∧w.cell? ⟨g,3,none⟩=some (.slice (some ⟨gs,0,none⟩) 1 cs)∧w.cell? ⟨g,4,none⟩=some (.slice none 0 0):=⟨h.cell 0 rfl,h.cell 1 rfl,h.cell 2 rfl,h.cell 3 rfl,h.cell 4 rfl⟩
theorem br_Check (gp cp gs cs gt ct:Nat) (w:World) (h:Tpo w gp cp gs cs gt ct):Calls Tryz.prog 23 #[tpV gp cp gs cs] w fun e w'=>e=.returned (.int .i64 0)∧Below w.heap.size w w':=by
 have HT:Hid (Tpo w gp cp gs cs gt ct):=h
 obtain ⟨W1,HW1⟩:∃ W,Hid (W=w.alloc (.cells #[.int .i64 1,.slice none 0 0,.slice (some ⟨gp,0,none⟩) 1 cp,.slice (some ⟨gs,0,none⟩) 1 cs,.slice none 0 0] 40)):=⟨_,rfl⟩
 have HY1:Hid (Below w.heap.size w W1):=by (show Below _ _ _);rw [HW1.out];exact below_alloc _ _
 have HK1:Hid (Row1 W1 w.heap.size 40 (tpC gp cp gs cs)):=by (show Row1 _ _ _ _);rw [HW1.out];exact Row1.of (Blk.new _ _ _)
 have HT1:Hid (Tpo W1 gp cp gs cs gt ct):=HT.out.stay HY1.out
 obtain ⟨t0,t1,t2,t3,t4⟩:=tp_facts HK1.out
 have HSC:=br_schema0 W1
 clear h
 have HLN:=br_lines0 1 (.slice (some ⟨gp,0,none⟩) 1 cp) (.slice (some ⟨gs,0,none⟩) 1 cs) (.slice none 0 0) W1
 unfold tpV
 go_enter Tryz.func23,Tryz.ntmps23
 go_upto_region 1 with fail
 rw [← HW1.out]
 go_wp2_with fail
 refine HSC.mono ?_
 rintro e w0 ⟨rfl,hw⟩
 rw [hw]
 clear hw w0 HSC
 go_wp2_with fail
 refine HLN.mono ?_
 rintro e w2 ⟨rfl,hb2⟩
 have HX2:Hid (Below w.heap.size w w2):=HY1.out.trans (hb2.mono HY1.out.size)
 have HK2:Hid (Row1 w2 w.heap.size 40 (tpC gp cp gs cs)):=HK1.out.stay hb2
 have HT2:Hid (Tpo w2 gp cp gs cs gt ct):=HT1.out.stay hb2
 have HPL:=br_places gp cp gs cs gt ct w2 HT2.out
 unfold tpV at HPL
 clear hb2 HLN t0 t1 t2 t3 t4
 obtain ⟨t0,t1,t2,t3,t4⟩:=tp_facts HK2.out
 go_wp2_with fail
 refine HPL.mono ?_
 rintro e w3 ⟨rfl,hb3⟩
 have HX3:Hid (Below w.heap.size w w3):=HX2.out.trans (hb3.mono HX2.out.size)
 have HK3:Hid (Row1 w3 w.heap.size 40 (tpC gp cp gs cs)):=HK2.out.stay hb3
 have HT3:Hid (Tpo w3 gp cp gs cs gt ct):=HT2.out.stay hb3
 clear hb3 HPL t0 t1 t2 t3 t4
 obtain ⟨W4,HW4⟩:∃ W,Hid (W=w3.alloc (.cells #[.int .i64 0,.int .i64 0,.slice (some ⟨gt,0,none⟩) 1 ct] 36)):=⟨_,rfl⟩
 have HY4:Hid (Below w3.heap.size w3 W4):=by (show Below _ _ _);rw [HW4.out];exact below_alloc _ _
 have HX4:Hid (Below w.heap.size w W4):=HX3.out.trans (HY4.out.mono HX3.out.size)
 have HK4:Hid (Row1 W4 w3.heap.size 36 [.int .i64 0,.int .i64 0,.slice (some ⟨gt,0,none⟩) 1 ct]):=by (show Row1 _ _ _ _);rw [HW4.out];exact Row1.of (Blk.new _ _ _)
 have HT4:Hid (Tpo W4 gp cp gs cs gt ct):=HT3.out.stay HY4.out
 have HK4t:Hid (Row1 W4 w.heap.size 40 (tpC gp cp gs cs)):=HK3.out.stay HY4.out
 have u3:w3.cell? ⟨w.heap.size,3,none⟩=some (.slice (some ⟨gs,0,none⟩) 1 cs):=HK3.out.cell 3 rfl
 have u4:W4.cell? ⟨w.heap.size,4,none⟩=some (.slice none 0 0):=HK4t.out.cell 4 rfl
 have q2:W4.cell? ⟨w3.heap.size,2,none⟩=some (.slice (some ⟨gt,0,none⟩) 1 ct):=HK4.out.cell 2 rfl
 have HBX:=br_BoxesY gt ct W4 HT4.out.terms
 go_wp2_with fail
 refine wp_loop_rounds 2 ?_
 rw [rounds_succ]
 go_upto_region 11 with (guard_target =~ wpList _ _ _ (Oper.mk (some 54) _ _ _ _ _ :: _) _ _;refine wpList_load_mid rfl 36 (.tmp 53) rfl gs 0 rfl [.int .i64 0,.int .i64 0,.slice (some ⟨gt,0,none⟩) 1 ct] _ HT3.out.subs.range Tryz.underlying36 rfl (by rfl) ?_)
 rw [← HW4.out]
 clear u3
 go_wp2_with fail
 refine HBX.mono ?_
 rintro e w5 ⟨⟨v5,rfl⟩,hb5⟩
 have HX5:Hid (Below w.heap.size w w5):=HX4.out.trans (hb5.mono HX4.out.size)
 have HK5:Hid (Row1 w5 w3.heap.size 36 [.int .i64 0,.int .i64 0,.slice (some ⟨gt,0,none⟩) 1 ct]):=HK4.out.stay hb5
 have HK5t:Hid (Row1 w5 w.heap.size 40 (tpC gp cp gs cs)):=HK4t.out.stay hb5
 have HFR:=br_far0 gp cp gs cs gt ct w5 (HT4.out.stay hb5)
 unfold tpV at HFR
 clear hb5 HBX u4 q2
 obtain ⟨t0,t1,t2,t3,t4⟩:=tp_facts HK5t.out
 have q0:w5.cell? ⟨w3.heap.size,0,none⟩=some (.int .i64 0):=HK5.out.cell 0 rfl
 have q1:w5.cell? ⟨w3.heap.size,1,none⟩=some (.int .i64 0):=HK5.out.cell 1 rfl
 go_wp2_with fail
 refine HFR.mono ?_
 rintro e w6 ⟨rfl,hb6⟩
 have HX6:Hid (Below w.heap.size w w6):=HX5.out.trans (hb6.mono HX5.out.size)
 clear hb6 HFR t0 t1 t2 t3 t4 q0 q1
 go_wp2_with fail
 rw [rounds_succ]
 go_wp2
 go_returns
 exact ⟨rfl,HX6.out⟩
end
section
open Go.RowKit
section
variable {P:Program} {ops:Array Oper} {Q:Exit→Act→World→Prop} {md:Region.Mode} {S:Array Bool→World→Prop}
def anyL (P:Program) (md:Region.Mode) (ops:Array Oper) (Q:Exit→Act→World→Prop) (S:Array Bool→World→Prop):Nat→Array Bool→Act→World→Prop
 | 0,lst,a,w=>Region.ready md ops lst=[] ∧ Q .normal a w
 | n+1,lst,a,w=>(Region.ready md ops lst=[] → Q .normal a w) ∧
  ∀ i∈Region.ready md ops lst,wpOp P ops Q i (fun a' w'=>S (lst.setIfInBounds i true) w'∧anyL P md ops Q S n (lst.setIfInBounds i true) a' w') a w
theorem anyL_held:∀ (n:Nat) (lst:Array Bool) (a:Act) (w:World),anyL P md ops Q S n lst a w→wpAnyH P md ops Q (fun _=>True) n lst a w
 | 0,_,_,_,h=>h
 | n+1,_,_,_,h=>⟨h.1,fun i hi=>wpOp_mono (fun a' w' h'=>⟨trivial,anyL_held n _ a' w' h'.2⟩) (h.2 i hi)⟩
def Yet (S:Array Bool→World→Prop) (k:Nat) (w:World):Prop:=∃ L:Array Bool,L.getD k true=false∧S L w
theorem anyL_first {i k:Nat} {oi:Oper} {v:Value} (hi:ops[i]? = some oi) (hsel:∀ (j:Nat) (o:Oper) cs b,ops[j]? = some o→o.op≠.select cs b)
  (hQ:∀ c a w,Q (.panic c) (a.put oi.dst v) w→Q (.panic c) a w) (hk:∀ ok,ops[k]? = some ok→∃ e∈ok.after,Region.binds md e=true∧e.on=i) (hki:k≠i)
  (hm:∀ L w,S (L.setIfInBounds i true) w↔S L w) :
  ∀ (n:Nat) (lst:Array Bool) (a:Act) (w:World),
   (∀ j oj,ops[j]? = some oj→j≠i→lst.getD j true=false→(∀ e∈oj.after,Region.binds md e=true→e.on≠i)→oi.apart ops oj=true) →
   i∈Region.ready md ops lst→lst.getD k true=false→YieldsIf P ops (Yet S k) oi v a→S lst w →
   anyL P md ops Q S n (lst.setIfInBounds i true) (a.put oi.dst v) w→anyL P md ops Q S (n+1) lst a w:=by
 intro n
 induction n with
 | zero =>
  intro lst a w _ hr hlk hy hS H
  refine ⟨fun h=>(by rw [h] at hr;cases hr),fun j hj => ?_⟩
  by_cases hji:j=i
  ·subst hji
   exact hy.wpOp hi ⟨lst,hlk,hS⟩ ⟨(hm _ _).2 hS,H⟩
  ·have h1:=ready_mono hj hji
   rw [H.1] at h1
   cases h1
 | succ n ih =>
  intro lst a w hfree hr hlk hy hS H
  have hun:=(mem_ready.1 hr).1
  refine ⟨fun h=>(by rw [h] at hr;cases hr),fun j hj => ?_⟩
  by_cases hji:j=i
  ·subst hji
   exact hy.wpOp hi ⟨lst,hlk,hS⟩ ⟨(hm _ _).2 hS,H⟩
  ·have h1:=H.2 j (ready_mono hj hji)
   obtain ⟨hjun,oj,hoj,hall⟩:=mem_ready.1 hj
   have hnot:∀ e∈oj.after,Region.binds md e=true→e.on≠i:=fun e he hb heq=>by
    have h2:=hall e he hb
    rw [heq] at h2
    rcases Nat.lt_or_ge i lst.size with h' | h'
    ·simp [h'] at hun h2;rw [hun] at h2;cases h2
    ·simp [Array.getElem?_eq_none h'] at h2
   have hjk:j≠k:=by
    rintro rfl
    obtain ⟨e,he,hb,ho⟩:=hk oj hoj
    exact hnot e he hb ho
   have h2:=wpOp_putIf hoj (hfree j oj hoj hji hjun hnot) (fun cs b=>hsel i oi cs b hi) (fun cs b=>hsel j oj cs b hoj) hQ hy h1
   have hfree':∀ q oq,ops[q]? = some oq→q≠i→(lst.setIfInBounds j true).getD q true=false →
     (∀ e∈oq.after,Region.binds md e=true→e.on≠i)→oi.apart ops oq=true:=fun q oq hq hqi hqu hno=>by
    refine hfree q oq hq hqi ?_ hno
    by_cases hjq:j=q
    ·subst hjq;exact hjun
    ·rw [getD_set_ne true hjq] at hqu;exact hqu
   refine wpOp_mono (fun a' w' h3 => ?_) h2
   have hc:(lst.setIfInBounds i true).setIfInBounds j true=(lst.setIfInBounds j true).setIfInBounds i true:=Array.setIfInBounds_comm _ _ (Ne.symm hji)
   rw [hc] at h3
   have hS':=(hm _ _).1 h3.2.1
   exact ⟨hS',ih _ a' w' hfree' (ready_mono hr (Ne.symm hji)) (by rw [getD_set_ne true hjk];exact hlk) h3.1 hS' h3.2.2⟩
theorem tkL {i:Nat} (k:Nat) {oi:Oper} {v:Value} {n:Nat} {lst:Array Bool} {a:Act} {w:World} (d:Option Nat) (hS:S lst w) (hm:∀ L w,S (L.setIfInBounds i true) w↔S L w)
  (hv:∀ w,Yet S k w→(execOp a.eval oi).run P w=.ok (.value v) w) (h:anyL P md ops Q S n (lst.setIfInBounds i true) (a.put d v) w)
  (hi:ops[i]? = some oi:=by rfl) (hd:oi.dst=d:=by kernel_rfl) (hs:Region.noSelect ops=true:=by kernel_rfl) (hf:Region.free md ops lst i=true:=by kernel_rfl) (hr:(Region.ready md ops lst).contains i=true:=by kernel_rfl)
  (hk:((ops[k]?.map fun ok=>ok.after.any fun e=>Region.binds md e && e.on == i).getD true)=true:=by kernel_rfl) (hki:k≠i:=by decide) (hlk:lst.getD k true=false:=by kernel_rfl)
  (hQ:∀ c a w,Q (.panic c) (a.put d v) w→Q (.panic c) a w:=by exact fun _ _ _ h=>h) (hw:Region.wanted oi (yielded ops a.tmps)=true:=by rfl):anyL P md ops Q S (n+1) lst a w:=by
 subst hd
 refine anyL_first hi (Region.noSelect_spec hs) hQ (fun ok hok => ?_) hki hm n lst a w (Region.free_spec hi hf) (by simpa using hr) hlk (.inl ⟨hw,hv⟩) hS h
 rw [hok] at hk
 simp only [Option.map_some,Option.getD_some,Array.any_eq_true,Bool.and_eq_true,beq_iff_eq] at hk
 obtain ⟨q,hq,h1,h2⟩:=hk
 exact ⟨_,Array.getElem_mem hq,h1,h2⟩
theorem anyL_ready {rs:List Nat} {n:Nat} {lst:Array Bool} {a:Act} {w:World} (hr:Region.ready md ops lst=rs) (hne:rs≠[])
  (h:∀ i∈rs,wpOp P ops Q i (fun a' w'=>S (lst.setIfInBounds i true) w'∧anyL P md ops Q S n (lst.setIfInBounds i true) a' w') a w):anyL P md ops Q S (n+1) lst a w :=
 ⟨fun h0=>absurd (hr ▸ h0) hne,hr ▸ h⟩
theorem anyL_one {i:Nat} {o:Oper} {n:Nat} {lst:Array Bool} {a:Act} {w:World} (hr:Region.ready md ops lst=[i]) (ho:ops[i]? = some o)
  (h:∀ K':Act→World→Prop,Shut (∀ a w,S (lst.setIfInBounds i true) w→(S (lst.setIfInBounds i true) w→anyL P md ops Q S n (lst.setIfInBounds i true) a w)→K' a w)→if Region.wanted o (yielded ops a.tmps)=true then Oper.wp P o a w K' Q else K' (a.put o.dst undef) w):anyL P md ops Q S (n+1) lst a w :=
 anyL_ready hr (by simp) fun j hj=>by
  obtain rfl:j=i:=by simpa using hj
  exact wpOp_step ho (fun K' hK=>h K' (fun a w hS hW=>hK a w ⟨hS,hW hS⟩))
theorem anyL_done {lst:Array Bool} {a:Act} {w:World} (hr:Region.ready md ops lst=[]) (h:Q .normal a w):∀ n,anyL P md ops Q S n lst a w
 | 0=>⟨hr,h⟩
 | _+1=>⟨fun _=>h,by rw [hr];simp⟩
theorem wp_region_L {id:Nat} {a:Act} {w:World} (hm:P.follows .mixedOrders=true) (hS:S (Array.replicate ops.size false) w.drew)
  (h:S (Array.replicate ops.size false) w.drew→anyL P .any ops Q S ops.size (Array.replicate ops.size false) a w.drew):(Code.region id ops true).wp P Q a w :=
 wp_region_held (S:=fun _=>True) hm (anyL_held _ _ _ _ (h hS))
end
end
end Go.Proofs.YtoiennkfdjnkbaaGreatDoor
