import Derived.Test.YtoiennkfdjnkbaaGreatDoorBr17
import Derived.Test.YtoiennkfdjnkbaaGreatDoorPk27
import Derived.Test.YtoiennkfdjnkbaaGreatDoorPk06
set_option maxRecDepth 100000
set_option maxHeartbeats 8000000
namespace Go.Proofs.YtoiennkfdjnkbaaGreatDoor
section
open Go.RowKit Go.Shelf Go.Maps
theorem br_connect0 (gb gp cp gs cs g:Nat) (age life:Int) (ml mp ms:Nat) (w:World) (hb:Row1 w gb 79 (broC gp cp gs cs g age ml mp ms)) :
  Calls Tryz.prog 29 #[.pointer (some ⟨gb,0,none⟩),.int .i64 life] w fun e w'=>e=.returned (.tuple #[])∧Below w.heap.size w w':=by
 have HBR:Hid (Row1 w gb 79 (broC gp cp gs cs g age ml mp ms)):=hb
 have HSK:Hid (∀ w':World,Below w.heap.size w w'→w'.cell? ⟨gb,0,none⟩=some (.int .i64 1)∧w'.cell? ⟨gb,1,none⟩=some (.slice none 0 0)∧w'.cell? ⟨gb,2,none⟩=some (.slice (some ⟨gp,0,none⟩) 1 cp)∧w'.cell? ⟨gb,3,none⟩=some (.slice (some ⟨gs,0,none⟩) 1 cs)∧w'.cell? ⟨gb,4,none⟩=some (.slice none 0 0)∧w'.cell? ⟨gb,5,none⟩=some (.int .i64 0)):=fun w' hb=>by
  have h4:=HBR.out.stay hb
  exact ⟨h4.cell 0 rfl,h4.cell 1 rfl,h4.cell 2 rfl,h4.cell 3 rfl,h4.cell 4 rfl,h4.cell 5 rfl⟩
 have HD0:Hid (Below w.heap.size w w.drew):=(Below.refl _ _).drew
 have hc:=br_neighbours0 1 0 (.slice (some ⟨gp,0,none⟩) 1 cp) (.slice (some ⟨gs,0,none⟩) 1 cs) (.slice none 0 0) w.drew
 have s0:=HSK.out w (Below.refl _ _)
 have s1:=HSK.out w.drew HD0.out
 clear hb
 go_enter Tryz.func29,Tryz.ntmps29
 go_upto_region 0 with fail
 go_region_held3 (fun w'=>w'.cell? ⟨gb,0,none⟩=some (.int .i64 1)∧w'.cell? ⟨gb,1,none⟩=some (.slice none 0 0)∧w'.cell? ⟨gb,2,none⟩=some (.slice (some ⟨gp,0,none⟩) 1 cp)∧w'.cell? ⟨gb,3,none⟩=some (.slice (some ⟨gs,0,none⟩) 1 cs)∧w'.cell? ⟨gb,4,none⟩=some (.slice none 0 0)∧w'.cell? ⟨gb,5,none⟩=some (.int .i64 0)) (first | with_reducible exact s0 | with_reducible exact s1 | exact s2)
  (first
   | (go_at_call 62;refine hc.mono ?_;rintro e w1 ⟨rfl,hb1⟩;have HB1:Hid (Below w.heap.size w w1):=HD0.out.trans (hb1.mono HD0.out.size);have s2:=HSK.out w1 HB1.out;clear hb1))
 go_wp2_with fail
 refine wp_loop_rounds 1 ?_
 rw [rounds_succ]
 go_wp2
 go_returns
 exact ⟨rfl,HB1.out⟩
structure Ad where
 g:Nat
 gsd:Nat
 gb:Nat
 gp:Nat
 cp:Nat
 gs:Nat
 cs:Nat
 gt:Nat
 ct:Nat
 ml:Nat
 mp:Nat
 ms:Nat
 gst:Nat
 gc:Nat
 q:Nat
 s:Nat
 m:Nat
 mr:Nat
 gl:Nat
 gcl:Nat
 mm:Nat
 gcm:Nat
structure Core (B:Nat) (A:Ad) (w:World) (age:Nat) (con:Bool) (cur hand:Int):Prop where
 bro:Row1 w A.gb 79 (broC A.gp A.cp A.gs A.cs A.g (age:Int) A.ml A.mp A.ms)
 tpo:Tpo w A.gp A.cp A.gs A.cs A.gt A.ct
 seats:w.ownsMap Tryz.prog 3 heldV A.ms 1 (mapD [(1,.pointer (some ⟨A.gst,0,none⟩))])
 seat:Row1 w A.gst 109 [.pointer (some ⟨A.gc,0,none⟩),.int .i64 1,.int .i64 0,.bool con,.int .i64 cur,.int .i64 hand]
 cells:Cs w A.gc A.g 0 16
 parts:w.ownsMap Tryz.prog 3 heldV A.mp 1 (mapD [(0,.pointer (some ⟨A.q,0,none⟩))])
 part:Row1 w A.q 100 (parC A.s A.mr 1 (.pointer (some ⟨A.gl,0,none⟩)) (.map (some A.mm)))
 mem:w.ownsMap Tryz.prog 3 heldV A.mm 1 (mapD [(1,.agg #[.pointer (some ⟨A.gcm,0,none⟩),.int .i64 1])])
 mcells:Cs w A.gcm A.g 32 16
 low:B≤A.gst∧B≤A.q∧B≤A.s∧B≤A.m
 ne:A.mm≠A.m∧A.mp≠A.m∧A.ms≠A.m
 bw:B≤w.heap.size
theorem Core.stay {B:Nat} {A:Ad} {w w':World} {age:Nat} {con:Bool} {cur hand:Int} (h:Core B A w age con cur hand) (hb:Below w.heap.size w w'):Core B A w' age con cur hand :=
 ⟨h.bro.stay hb,h.tpo.stay hb,owns_same h.seats (hb.block _ (owns_lt h.seats)),h.seat.stay hb,h.cells.stay hb,owns_same h.parts (hb.block _ (owns_lt h.parts)),h.part.stay hb,owns_same h.mem (hb.block _ (owns_lt h.mem)),h.mcells.stay hb,h.low,h.ne,Nat.le_trans h.bw hb.size⟩
theorem Core.fg {B:Nat} {A:Ad} {w w':World} {age:Nat} {con:Bool} {cur hand:Int} (h:Core B A w age con cur hand) (hf:Fg lgT w w'):Core B A w' age con cur hand :=
 ⟨h.bro.fg hf (by decide),h.tpo.fg hf (by decide) (by decide) (by decide),owns_fg h.seats hf,h.seat.fg hf (by decide),h.cells.fg hf (by decide),owns_fg h.parts hf,h.part.fg hf (by decide),owns_fg h.mem hf,h.mcells.fg hf (by decide),h.low,h.ne,Nat.le_trans h.bw hf.size⟩
theorem br_New (base g gsd:Nat) (wv:Value) (D:Dk) (gp cp gs cs gt ct:Nat) (w:World) (hd:Disk w base g gsd wv D) (hn:D.sure.length=326) (hdn:D.down=false) (hr:(getB D 64 1 0).1=0) (hall:readAllF D (headsF D 64 4) 0 [] = ([],0,[])) (hone:(headsF D 64 4).length≤1) (ht:Tpo w gp cp gs cs gt ct) :
  Calls Tryz.prog 6 #[tpV gp cp gs cs,.int .i64 0,.pointer (some ⟨g,0,none⟩),.int .i64 1] w fun e w'=>Hid (∃ A:Ad,∃ uv rv,e=.returned (.tuple #[.pointer (some ⟨A.gb,0,none⟩),.int .i64 0])∧A.g=g∧A.gsd=gsd∧Core base A w' D.age false 0 0∧Stm (fun k=>base≤k) w' A.s A.m none 0 0 [] [] ∧ Lg w' base g gsd wv D A.gl A.gcl 64 4 D.age [] uv 0 0 [] rv)∧Below base w w':=by
 have HD:Hid (Disk w base g gsd wv D):=hd
 have HTP:Hid (Tpo w gp cp gs cs gt ct):=ht
 have HBS:Hid (base≤w.heap.size):=Nat.le_trans hd.bg (Nat.le_of_lt hd.blk.lt)
 have HN:Hid (D.sure.length=326∧D.down=false∧(getB D 64 1 0).1=0∧readAllF D (headsF D 64 4) 0 [] = ([],0,[])∧(headsF D 64 4).length≤1):=⟨hn,hdn,hr,hall,hone⟩
 obtain ⟨W1,HW1⟩:∃ W,Hid (W=w.alloc (.cells #[.int .i64 1,.slice none 0 0,.slice (some ⟨gp,0,none⟩) 1 cp,.slice (some ⟨gs,0,none⟩) 1 cs,.slice none 0 0] 40)):=⟨_,rfl⟩
 have HX1:Hid (Below w.heap.size w W1):=by (show Below _ _ _);rw [HW1.out];exact below_alloc _ _
 have HK1:Hid (Row1 W1 w.heap.size 40 (tpC gp cp gs cs)):=by (show Row1 _ _ _ _);rw [HW1.out];exact Row1.of (Blk.new _ _ _)
 have HCH:=br_Check gp cp gs cs gt ct W1 (ht.stay HX1.out)
 obtain ⟨t0,t1,t2,t3,t4⟩:=tp_facts HK1.out
 clear hd hn hdn hr hall hone ht
 unfold tpV at HCH ⊢
 go_enter Tryz.func6,Tryz.ntmps6
 go_upto_region 1 with fail
 rw [← HW1.out]
 go_wp2_with fail
 refine HCH.mono ?_
 rintro e w2 ⟨rfl,hb2⟩
 have HX2:Hid (Below w.heap.size w w2):=HX1.out.trans (hb2.mono HX1.out.size)
 have HK2:Hid (Row1 w2 w.heap.size 40 (tpC gp cp gs cs)):=HK1.out.stay hb2
 clear hb2 HCH t0 t1 t2 t3 t4
 obtain ⟨t0,t1,t2,t3,t4⟩:=tp_facts HK2.out
 have HIB:=br_isBroker 1 0 (.slice none 0 0) (.slice (some ⟨gp,0,none⟩) 1 cp) (.slice (some ⟨gs,0,none⟩) 1 cs) (.slice none 0 0) (by decide) (by decide) w2
 go_wp2_with fail
 refine HIB.mono ?_
 rintro e w3 ⟨rfl,hb3⟩
 have HX3:Hid (Below w.heap.size w w3):=HX2.out.trans (hb3.mono HX2.out.size)
 have HK3:Hid (Row1 w3 w.heap.size 40 (tpC gp cp gs cs)):=HK2.out.stay hb3
 have HD3:Hid (Disk w3 base g gsd wv D):=HD.out.stay HX3.out
 have HTP3:Hid (Tpo w3 gp cp gs cs gt ct):=HTP.out.stay HX3.out
 clear hb3 HIB t0 t1 t2 t3 t4
 obtain ⟨t0,t1,t2,t3,t4⟩:=tp_facts HK3.out
 have HSI:=disk_Size w3 base g gsd wv D HD3.out
 have HDW:=disk_Down w3 base g gsd wv D HD3.out
 have HCL:=br_cloned gp cp gs cs gt ct w3 HTP3.out
 rw [HN.out.1] at HSI
 rw [HN.out.2.1] at HDW
 unfold tpV at HCL
 go_wp2_with fail
 refine HSI.mono ?_
 rintro e w0 ⟨rfl,hw⟩
 rw [hw]
 clear hw w0 HSI
 go_wp2_with fail
 refine HDW.mono ?_
 rintro e w0 ⟨rfl,hw⟩
 rw [hw]
 clear hw w0 HDW
 go_wp2_with fail
 refine HCL.mono ?_
 rintro e w4 ⟨⟨gp',cp',gs',cs',gt',ct',rfl,htp,_,_,_⟩,hb4⟩
 have HTP4:Hid (Tpo w4 gp' cp' gs' cs' gt' ct'):=htp
 have HX4:Hid (Below w.heap.size w w4):=HX3.out.trans (hb4.mono HX3.out.size)
 have HK4:Hid (Row1 w4 w.heap.size 40 (tpC gp cp gs cs)):=HK3.out.stay hb4
 have HD4:Hid (Disk w4 base g gsd wv D):=HD3.out.stay hb4
 clear htp hb4 HCL t0 t1 t2 t3 t4
 have HAG:=disk_Age w4 base g gsd wv D HD4.out
 have hmk:∀ W,(Instr.makeMap 75 none).run Tryz.prog W=.ok (.map (some W.heap.size)) (W.alloc (.map #[] 0)):=fun W=>run_makeMap _ W
 have hmk2:∀ W,(Instr.makeMap 76 none).run Tryz.prog W=.ok (.map (some W.heap.size)) (W.alloc (.map #[] 0)):=fun W=>run_makeMap _ W
 have hmk3:∀ W,(Instr.makeMap 77 none).run Tryz.prog W=.ok (.map (some W.heap.size)) (W.alloc (.map #[] 0)):=fun W=>run_makeMap _ W
 go_wp2_with fail
 refine HAG.mono ?_
 rintro e w0 ⟨rfl,hw⟩
 rw [hw]
 clear hw w0 HAG
 go_upto_region 13 with fail
 obtain ⟨ml,Hml⟩:∃ n,Hid (n=w4.heap.size):=⟨_,rfl⟩
 obtain ⟨mp,Hmp⟩:∃ n,Hid (n=w4.heap.size+1):=⟨_,rfl⟩
 obtain ⟨ms,Hms⟩:∃ n,Hid (n=w4.heap.size+1+1):=⟨_,rfl⟩
 obtain ⟨gb,Hgb⟩:∃ n,Hid (n=w4.heap.size+1+1+1):=⟨_,rfl⟩
 rw [← Hgb.out,← Hms.out,← Hmp.out,← Hml.out]
 obtain ⟨W5,HW5⟩:∃ W,Hid (W=(((w4.alloc (.map #[] 0)).alloc (.map #[] 0)).alloc (.map #[] 0)).alloc (.cells #[.int .i64 1,.slice none 0 0,.slice (some ⟨gp',0,none⟩) 1 cp',.slice (some ⟨gs',0,none⟩) 1 cs',.slice none 0 0,.int .i64 0,.pointer (some ⟨g,0,none⟩),.int .i64 (D.age:Int),.map (some ml),.map (some mp),.map (some ms)] 79)):=⟨_,rfl⟩
 have HQ5:Hid (Below w4.heap.size w4 W5∧Row1 W5 gb 79 (broC gp' cp' gs' cs' g (D.age:Int) ml mp ms)∧W5.ownsMap Tryz.prog 3 heldV mp 0 (mapD [])∧W5.ownsMap Tryz.prog 3 heldV ms 0 (mapD [])):=by
  have b1:=below_alloc w4 (.map #[] 0)
  have b2:=below_alloc (w4.alloc (.map #[] 0)) (.map #[] 0)
  have b3:=below_alloc ((w4.alloc (.map #[] 0)).alloc (.map #[] 0)) (.map #[] 0)
  have b4:=below_alloc (((w4.alloc (.map #[] 0)).alloc (.map #[] 0)).alloc (.map #[] 0)) (.cells #[.int .i64 1,.slice none 0 0,.slice (some ⟨gp',0,none⟩) 1 cp',.slice (some ⟨gs',0,none⟩) 1 cs',.slice none 0 0,.int .i64 0,.pointer (some ⟨g,0,none⟩),.int .i64 (D.age:Int),.map (some ml),.map (some mp),.map (some ms)] 79)
  (show _∧_∧_∧_)
  have e1:(w4.alloc (.map #[] 0)).heap.size=w4.heap.size+1:=by simp
  have e2:((w4.alloc (.map #[] 0)).alloc (.map #[] 0)).heap.size=w4.heap.size+1+1:=by simp
  have e3:(((w4.alloc (.map #[] 0)).alloc (.map #[] 0)).alloc (.map #[] 0)).heap.size=w4.heap.size+1+1+1:=by simp
  have o1:=owns_new (w4.alloc (.map #[] 0))
  have o2:=owns_new ((w4.alloc (.map #[] 0)).alloc (.map #[] 0))
  rw [e1,← Hmp.out] at o1
  rw [e2,← Hms.out] at o2
  refine ⟨?_,?_,?_,?_⟩
  ·rw [HW5.out]
   exact ((b1.trans (b2.mono b1.size)).trans (b3.mono (Nat.le_trans b1.size b2.size))).trans (b4.mono (Nat.le_trans (Nat.le_trans b1.size b2.size) b3.size))
  ·have h:=Blk.new (((w4.alloc (.map #[] 0)).alloc (.map #[] 0)).alloc (.map #[] 0)) #[.int .i64 1,.slice none 0 0,.slice (some ⟨gp',0,none⟩) 1 cp',.slice (some ⟨gs',0,none⟩) 1 cs',.slice none 0 0,.int .i64 0,.pointer (some ⟨g,0,none⟩),.int .i64 (D.age:Int),.map (some ml),.map (some mp),.map (some ms)] 79
   rw [e3,← Hgb.out,← HW5.out] at h
   exact Row1.of h
  ·rw [HW5.out]
   exact owns_same (owns_same o1 (b3.block mp (owns_lt o1))) (b4.block mp (Nat.lt_of_lt_of_le (owns_lt o1) b3.size))
  ·rw [HW5.out]
   exact owns_same o2 (b4.block ms (owns_lt o2))
 rw [← HW5.out]
 have HX5:Hid (Below w.heap.size w W5):=HX4.out.trans (HQ5.out.1.mono HX4.out.size)
 have HM4:Hid (w.heap.size≤w4.heap.size∧ml=w4.heap.size∧mp=w4.heap.size+1∧ms=w4.heap.size+1+1∧gb=w4.heap.size+1+1+1):=⟨HX4.out.size,Hml.out,Hmp.out,Hms.out,Hgb.out⟩
 have HK5:Hid (Row1 W5 w.heap.size 40 (tpC gp cp gs cs)):=HK4.out.stay HQ5.out.1
 have HTP5:Hid (Tpo W5 gp' cp' gs' cs' gt' ct'):=HTP4.out.stay HQ5.out.1
 have HD5:Hid (Disk W5 base g gsd wv D):=HD4.out.stay HQ5.out.1
 clear Hml Hmp Hms Hgb hmk hmk2 hmk3
 have HCO:=br_connect0 gb gp' cp' gs' cs' g (D.age:Int) 1 ml mp ms W5 HQ5.out.2.1
 go_wp2_with fail
 refine HCO.mono ?_
 rintro e w6 ⟨rfl,hb6⟩
 have HX6:Hid (Below w.heap.size w w6):=HX5.out.trans (hb6.mono HX5.out.size)
 have HK6:Hid (Row1 w6 w.heap.size 40 (tpC gp cp gs cs)):=HK5.out.stay hb6
 have HTP6:Hid (Tpo w6 gp' cp' gs' cs' gt' ct'):=HTP5.out.stay hb6
 have HD6:Hid (Disk w6 base g gsd wv D):=HD5.out.stay hb6
 have HBR6:Hid (Row1 w6 gb 79 (broC gp' cp' gs' cs' g (D.age:Int) ml mp ms)):=HQ5.out.2.1.stay hb6
 have HMP6:Hid (w6.ownsMap Tryz.prog 3 heldV mp 0 (mapD [])):=owns_same HQ5.out.2.2.1 (hb6.block mp (owns_lt HQ5.out.2.2.1))
 have HMS6:Hid (w6.ownsMap Tryz.prog 3 heldV ms 0 (mapD [])):=owns_same HQ5.out.2.2.2 (hb6.block ms (owns_lt HQ5.out.2.2.2))
 clear hb6 HCO
 have HPL:=br_place base g gsd wv D gb gp' cp' gs' cs' gt' ct' (D.age:Int) ml mp ms w6 HD6.out HN.out.1 HBR6.out HTP6.out HMS6.out
 go_wp2_with fail
 refine HPL.mono ?_
 rintro e w7 ⟨rfl,⟨gc,gst,hgc,hgst,hc7,hs7,hm7⟩,ht7⟩
 have HT7:Hid (Two ms ms w6 w7):=ht7
 have HG7:Hid (w6.heap.size≤gc∧w6.heap.size≤gst):=⟨hgc,hgst⟩
 have HC7:Hid (Cs w7 gc g 0 16):=hc7
 have HS7:Hid (Row1 w7 gst 109 [.pointer (some ⟨gc,0,none⟩),.int .i64 1,.int .i64 0,.bool false,.int .i64 0,.int .i64 0]):=hs7
 have HMS7:Hid (w7.ownsMap Tryz.prog 3 heldV ms 1 (mapD [(1,.pointer (some ⟨gst,0,none⟩))])):=hm7
 clear hgc hgst hc7 hs7 hm7 ht7 HPL
 have HF7:Hid (Og [] w6 w7):=Og.of_two HT7.out HMS6.out
 have HK7:Hid (Row1 w7 w.heap.size 40 (tpC gp cp gs cs)):=HK6.out.og HF7.out (by decide)
 have HTP7:Hid (Tpo w7 gp' cp' gs' cs' gt' ct'):=HTP6.out.og HF7.out (by decide) (by decide) (by decide)
 have HD7:Hid (Disk w7 base g gsd wv D):=HD6.out.og (Og.of_two HT7.out HMS6.out)
 have HBR7:Hid (Row1 w7 gb 79 (broC gp' cp' gs' cs' g (D.age:Int) ml mp ms)):=HBR6.out.og HF7.out (by decide)
 have HMP7:Hid (w7.ownsMap Tryz.prog 3 heldV mp 0 (mapD [])):=owns_same HMP6.out (HT7.out.block mp (owns_lt HMP6.out) (by have:=HM4.out;omega) (by have:=HM4.out;omega))
 have HBL:Hid (base≤mp∧base≤ms∧base≤w6.heap.size):=by
  have h1:=HM4.out;have h2:=HBS.out;have h3:=HX6.out.size
  exact ⟨by omega,by omega,by omega⟩
 have HX7:Hid (Below base w w7):=Two.below (HX6.out.mono HBS.out) HT7.out HBL.out.2.1 HBL.out.2.1 HBL.out.2.2
 obtain ⟨t0,t1,t2,t3,t4⟩:=tp_facts HK7.out
 have HOP:=br_open base g gsd wv D gb gp' cp' gs' cs' gt' ct' (D.age:Int) ml mp ms w7 HD7.out HN.out.1 HN.out.2.1 HN.out.2.2.1 HN.out.2.2.2.1 HN.out.2.2.2.2 HBR7.out HTP7.out HMP7.out HBL.out.1
 go_wp2_with fail
 refine wp_loop_rounds 2 ?_
 rw [rounds_succ]
 go_wp2_with fail
 refine HOP.mono ?_
 rintro e w8 ⟨rfl,hz1,hz2,hz3⟩
 obtain ⟨q,s,m,mr,gl,gcl,uv,rv,mm,gcm,hlo,y1,y2,y3,y4,y5,y6,y7,y8⟩:=hz1.out
 have HX8:Hid (Below base w w8):=HX7.out.trans hz3
 have HE:Hid (∃ A:Ad,∃ uv rv,(Ending.returned (.tuple #[.pointer (some ⟨gb,0,none⟩),.int .i64 0]))=.returned (.tuple #[.pointer (some ⟨A.gb,0,none⟩),.int .i64 0])∧A.g=g∧A.gsd=gsd∧Core base A w8 D.age false 0 0∧Stm (fun k=>base≤k) w8 A.s A.m none 0 0 [] [] ∧ Lg w8 base g gsd wv D A.gl A.gcl 64 4 D.age [] uv 0 0 [] rv):=by
  have g1:=HT7.out.size
  have g2:=HG7.out
  have g3:=HBL.out
  have g4:=owns_lt HMS7.out
  have g5:=owns_lt HMP7.out
  have g6:=hz3.size
  refine ⟨⟨g,gsd,gb,gp',cp',gs',cs',gt',ct',ml,mp,ms,gst,gc,q,s,m,mr,gl,gcl,mm,gcm⟩,uv,rv,rfl,rfl,rfl,⟨HBR7.out.og hz2.out.og (by decide),HTP7.out.og hz2.out.og (by decide) (by decide) (by decide),owns_fm HMS7.out hz2.out (by (show ms≠mp);have:=HM4.out;omega),HS7.out.og hz2.out.og (by decide),HC7.out.og hz2.out.og (by decide),y6,y1,y4,y5,⟨by (show base≤gst);omega,by (show base≤q);omega,by (show base≤s);omega,by (show base≤m);omega⟩,⟨y7,Ne.symm y8,by (show ms≠m);omega⟩,by omega⟩,y2,y3⟩
 clear hz1 hz2 hz3 hlo y1 y2 y3 y4 y5 y6 y7 y8 HOP t0 t1 t2 t3 t4
 go_wp2_with fail
 rw [rounds_succ]
 go_wp2
 go_returns
 exact ⟨HE.out,HX8.out⟩
end
section
open Go.RowKit Go.Shelf Go.Maps
theorem look_seat {W:World} {m n:Nat} {X:List (Int×Value)} (h:W.ownsMap Tryz.prog 3 heldV m n (mapD X)) {t:Int} (ht : -9223372036854775808≤t∧t≤9223372036854775807):(Instr.lookup 77 (.map (some m)) (.int .i64 t) false).run Tryz.prog W=.ok ((getX X t).getD (.pointer none)) W:=by
 obtain ⟨v,ps,hrun,hv⟩:=h.lookup tkeyed Tryz.underlying77 (z:=.pointer none) (Tryz.zeroValue104 W) (zd:=.held (.pointer none)) (zp:=[]) rfl (tkey_of ht)
 rw [mapD_at] at hv
 rw [hrun]
 have hv:some (DataW.held v,([] : List MemPlace))=_:=hv
 simp only [Option.some.injEq,Prod.mk.injEq] at hv
 cases hg:getX X t with
 | none =>
  rw [hg] at hv
  have:=hv.1
  simp only [DataW.held.injEq] at this
  rw [this]
  rfl
 | some x =>
  rw [hg] at hv
  have:=hv.1
  simp only [DataW.held.injEq] at this
  rw [this]
  rfl
theorem look_part {W:World} {m n:Nat} {X:List (Int×Value)} (h:W.ownsMap Tryz.prog 3 heldV m n (mapD X)) {t:Int} (ht : -9223372036854775808≤t∧t≤9223372036854775807):(Instr.lookup 76 (.map (some m)) (.int .i64 t) false).run Tryz.prog W=.ok ((getX X t).getD (.pointer none)) W:=by
 obtain ⟨v,ps,hrun,hv⟩:=h.lookup tkeyed Tryz.underlying76 (z:=.pointer none) (Tryz.zeroValue89 W) (zd:=.held (.pointer none)) (zp:=[]) rfl (tkey_of ht)
 rw [mapD_at] at hv
 rw [hrun]
 have hv:some (DataW.held v,([] : List MemPlace))=_:=hv
 simp only [Option.some.injEq,Prod.mk.injEq] at hv
 cases hg:getX X t with
 | none =>
  rw [hg] at hv
  have:=hv.1
  simp only [DataW.held.injEq] at this
  rw [this]
  rfl
 | some x =>
  rw [hg] at hv
  have:=hv.1
  simp only [DataW.held.injEq] at this
  rw [this]
  rfl
theorem look_mem {W:World} {m n:Nat} {X:List (Int×Value)} (h:W.ownsMap Tryz.prog 3 heldV m n (mapD X)) {t:Int} (ht : -9223372036854775808≤t∧t≤9223372036854775807):(Instr.lookup 98 (.map (some m)) (.int .i64 t) false).run Tryz.prog W=.ok ((getX X t).getD (.agg #[.pointer none,.int .i64 0])) W:=by
 obtain ⟨v,ps,hrun,hv⟩:=h.lookup tkeyed Tryz.underlying98 (z:=.agg #[.pointer none,.int .i64 0]) (Tryz.zeroValue237 W) (zd:=.held (.agg #[.pointer none,.int .i64 0])) (zp:=[]) rfl (tkey_of ht)
 rw [mapD_at] at hv
 rw [hrun]
 have hv:some (DataW.held v,([] : List MemPlace))=_:=hv
 simp only [Option.some.injEq,Prod.mk.injEq] at hv
 cases hg:getX X t with
 | none =>
  rw [hg] at hv
  have:=hv.1
  simp only [DataW.held.injEq] at this
  rw [this]
  rfl
 | some x =>
  rw [hg] at hv
  have:=hv.1
  simp only [DataW.held.injEq] at this
  rw [this]
  rfl
theorem br_shut (base g gsd:Nat) (wv:Value) (D:Dk) (gb gp cp gs cs ml mp ms:Nat) (w:World) (hd:Disk w base g gsd wv D) (hdn:D.down=false) (hb:Row1 w gb 79 (broC gp cp gs cs g (D.age:Int) ml mp ms)) :
  Calls Tryz.prog 48 #[.pointer (some ⟨gb,0,none⟩)] w fun e w'=>e=.returned (.int .i64 0)∧Below w.heap.size w w':=by
 have HD:Hid (Disk w base g gsd wv D):=hd
 obtain ⟨n,hn⟩:∃ n,n=D.age:=⟨_,rfl⟩
 have HDW:Hid (∀ k,Calls Tryz.prog 26 #[.pointer (some ⟨g,0,none⟩)] (w.drewN k) fun e w'=>e=.returned (.bool false)∧w'=w.drewN k):=fun k=>by
  have:=disk_Down (w.drewN k) base g gsd wv D (HD.out.stay (below_drewN (Below.refl _ _) k))
  rw [hdn] at this
  exact this
 have HAG:Hid (∀ k,Calls Tryz.prog 28 #[.pointer (some ⟨g,0,none⟩)] (w.drewN k) fun e w'=>e=.returned (.int .i64 (n:Int))∧w'=w.drewN k):=fun k=>by
  have:=disk_Age (w.drewN k) base g gsd wv D (HD.out.stay (below_drewN (Below.refl _ _) k))
  rw [← hn] at this
  exact this
 rw [← hn] at hb
 have c6:w.cell? ⟨gb,6,none⟩=some (.pointer (some ⟨g,0,none⟩)):=hb.cell 6 rfl
 have c7:w.cell? ⟨gb,7,none⟩=some (.int .i64 (n:Int)):=hb.cell 7 rfl
 clear hd hdn hb hn
 go_enter Tryz.func48,Tryz.ntmps48
 go_wp2_with fail
 go_quiet (first | (go_at_call 26;exact Calls.quiet_of_same (HDW.out _)) | (go_at_call 28;exact Calls.quiet_of_same (HAG.out _)))
 generalize hnq:w.drewN _=wN
 have HBN:Hid (Below w.heap.size w wN):=by (show Below _ _ _);rw [← hnq];exact below_drewN (Below.refl _ _) _
 clear hnq c6 c7
 go_wp2
 go_returns
 exact ⟨rfl,HBN.out⟩
theorem br_get (w:World) (base g gsd:Nat) (wv:Value) (D:Dk) (gc b:Nat) (i v:Int) (h:Disk w base g gsd wv D) (hc:Cs w gc g b 16) (hb:b≤1000) (hv:(getB D b 16 i).1=v) :
  Calls Tryz.prog 101 #[.pointer (some ⟨gc,0,none⟩),.int .i64 i] w fun e w'=>e=.returned (.int .i64 v)∧Below w.heap.size w w':=by
 have HG:=cells_Get w base g gsd wv D gc b 16 i h hc hb (by decide)
 rw [hv] at HG
 obtain ⟨k,hk⟩:∃ k,k=(getB D b 16 i).2:=⟨_,rfl⟩
 rw [← hk] at HG
 clear h hc hv hk
 go_enter Tryz.func101,Tryz.ntmps101
 go_wp2_with fail
 refine HG.mono ?_
 rintro e w1 ⟨rfl,hb1⟩
 have HB:Hid (Below w.heap.size w w1):=hb1
 clear hb1 HG
 go_wp2
 go_returns
 exact ⟨rfl,HB.out⟩
theorem br_stateCell (w:World):Calls Tryz.prog 102 #[.int .i64 1] w fun e w'=>e=.returned (.int .i64 0)∧w'=w:=by
 go_enter Tryz.func102,Tryz.ntmps102
 go_wp2
 go_returns
 exact ⟨rfl,rfl⟩
theorem br_ackedCell (w:World):Calls Tryz.prog 103 #[.int .i64 1] w fun e w'=>e=.returned (.int .i64 8)∧w'=w:=by
 go_enter Tryz.func103,Tryz.ntmps103
 go_wp2
 go_returns
 exact ⟨rfl,rfl⟩
theorem Calls.blw_same {P:Program} {f:FuncId} {args:Array Value} {w:World} {p:BlwW w} {v:Value} (h:Calls P f args p.W fun e w'=>e=.returned v∧w'=p.W):Calls P f args p.W fun e w''=>e=.returned v∧∃ q:BlwW w,w''=q.W:=h.mono fun _ _ ⟨he,hb⟩=>⟨he,p,hb⟩
def seatC (gc:Nat) (con:Bool) (cur hand:Int):List Value:=[.pointer (some ⟨gc,0,none⟩),.int .i64 1,.int .i64 0,.bool con,.int .i64 cur,.int .i64 hand]
theorem br_sacked (w:World) (base g gsd:Nat) (wv:Value) (D:Dk) (gst gc:Nat) (con:Bool) (cur hand:Int) (h:Disk w base g gsd wv D) (hc:Cs w gc g 0 16) (hs:Row1 w gst 109 (seatC gc con cur hand)) (v:Int) (hv:(getB D 0 16 8).1=v) :
  Calls Tryz.prog 41 #[.pointer (some ⟨gst,0,none⟩)] w fun e w'=>e=.returned (.int .i64 v)∧Below w.heap.size w w':=by
 have hne:Nonempty (BlwW w):=⟨⟨w,Below.refl _ _⟩⟩
 have c0:∀ p:BlwW w,p.W.cell? ⟨gst,0,none⟩=some (.pointer (some ⟨gc,0,none⟩)):=fun p=>(hs.stay p.ok).cell 0 rfl
 have c1:∀ p:BlwW w,p.W.cell? ⟨gst,1,none⟩=some (.int .i64 1):=fun p=>(hs.stay p.ok).cell 1 rfl
 have HG:Hid (∀ p:BlwW w,Calls Tryz.prog 101 #[.pointer (some ⟨gc,0,none⟩),.int .i64 8] p.W fun e w'=>e=.returned (.int .i64 v)∧Below p.W.heap.size p.W w'):=fun p=>br_get p.W base g gsd wv D gc 0 8 v (h.stay p.ok) (hc.stay p.ok) (by decide) hv
 clear h hc hs hv
 go_enter Tryz.func41,Tryz.ntmps41
 go_upto_region 1 with fail
 refine wp_region_blw (by kernel_rfl) (by kernel_rfl) ?_
 repeat (go_big_quiet_step (first
  | (go_at_call 103;exact Calls.blw_same (br_ackedCell _))
  | (go_at_call 101;exact Calls.blw_of (HG.out _))))
 refine wpQuiet_nil ?_
 intro _ hw'
 obtain ⟨p,hw''⟩:=hw'
 subst hw''
 go_wp2
 go_returns
 exact ⟨rfl,p.ok⟩
theorem br_macked (w:World) (base g gsd:Nat) (wv:Value) (D:Dk) (gcm:Nat) (h:Disk w base g gsd wv D) (hc:Cs w gcm g 32 16) (v:Int) (hv:(getB D 32 16 8).1=v) :
  Calls Tryz.prog 166 #[.agg #[.pointer (some ⟨gcm,0,none⟩),.int .i64 1]] w fun e w'=>e=.returned (.int .i64 v)∧Below w.heap.size w w':=by
 obtain ⟨W1,HW1⟩:∃ W,Hid (W=w.alloc (.cells #[.pointer (some ⟨gcm,0,none⟩),.int .i64 1] 237)):=⟨_,rfl⟩
 have HX1:Hid (Below w.heap.size w W1):=by (show Below _ _ _);rw [HW1.out];exact below_alloc _ _
 have HK1:Hid (Row1 W1 w.heap.size 237 [.pointer (some ⟨gcm,0,none⟩),.int .i64 1]):=by (show Row1 _ _ _ _);rw [HW1.out];exact Row1.of (Blk.new _ _ _)
 have hne:Nonempty (BlwW W1):=⟨⟨W1,Below.refl _ _⟩⟩
 have c0:∀ p:BlwW W1,p.W.cell? ⟨w.heap.size,0,none⟩=some (.pointer (some ⟨gcm,0,none⟩)):=fun p=>(HK1.out.stay p.ok).cell 0 rfl
 have c1:∀ p:BlwW W1,p.W.cell? ⟨w.heap.size,1,none⟩=some (.int .i64 1):=fun p=>(HK1.out.stay p.ok).cell 1 rfl
 have HG:Hid (∀ p:BlwW W1,Calls Tryz.prog 101 #[.pointer (some ⟨gcm,0,none⟩),.int .i64 8] p.W fun e w'=>e=.returned (.int .i64 v)∧Below p.W.heap.size p.W w'):=fun p=>br_get p.W base g gsd wv D gcm 32 8 v ((h.stay HX1.out).stay p.ok) ((hc.stay HX1.out).stay p.ok) (by decide) hv
 clear h hc hv
 go_enter Tryz.func166,Tryz.ntmps166
 go_upto_region 1 with fail
 rw [← HW1.out]
 refine wp_region_blw (by kernel_rfl) (by kernel_rfl) ?_
 repeat (go_big_quiet_step (first
  | (go_at_call 103;exact Calls.blw_same (br_ackedCell _))
  | (go_at_call 101;exact Calls.blw_of (HG.out _))))
 refine wpQuiet_nil ?_
 intro _ hw'
 obtain ⟨p,hw''⟩:=hw'
 subst hw''
 go_wp2
 go_returns
 exact ⟨rfl,HX1.out.trans (p.ok.mono HX1.out.size)⟩
theorem br_snumber0 (w:World) (base g gsd:Nat) (wv:Value) (D:Dk) (gst gc:Nat) (con:Bool) (cur hand:Int) (h:Disk w base g gsd wv D) (hc:Cs w gc g 0 16) (hs:Row1 w gst 109 (seatC gc con cur hand)) (hv:(getB D 0 16 0).1=0) :
  Calls Tryz.prog 47 #[.pointer (some ⟨gst,0,none⟩)] w fun e w'=>e=.returned (.int .i64 0)∧Below w.heap.size w w':=by
 have hne:Nonempty (BlwW w):=⟨⟨w,Below.refl _ _⟩⟩
 have c0:∀ p:BlwW w,p.W.cell? ⟨gst,0,none⟩=some (.pointer (some ⟨gc,0,none⟩)):=fun p=>(hs.stay p.ok).cell 0 rfl
 have c1:∀ p:BlwW w,p.W.cell? ⟨gst,1,none⟩=some (.int .i64 1):=fun p=>(hs.stay p.ok).cell 1 rfl
 have HG:Hid (∀ p:BlwW w,Calls Tryz.prog 101 #[.pointer (some ⟨gc,0,none⟩),.int .i64 0] p.W fun e w'=>e=.returned (.int .i64 0)∧Below p.W.heap.size p.W w'):=fun p=>br_get p.W base g gsd wv D gc 0 0 0 (h.stay p.ok) (hc.stay p.ok) (by decide) hv
 clear h hc hs hv
 go_enter Tryz.func47,Tryz.ntmps47
 go_upto_region 1 with fail
 refine wp_region_blw (by kernel_rfl) (by kernel_rfl) ?_
 repeat (go_big_quiet_step (first
  | (go_at_call 102;exact Calls.blw_same (br_stateCell _))
  | (go_at_call 101;exact Calls.blw_of (HG.out _))))
 refine wpQuiet_nil ?_
 intro _ hw'
 obtain ⟨p,hw''⟩:=hw'
 subst hw''
 go_wp2
 go_returns
 exact ⟨rfl,p.ok⟩
theorem br_sstate0 (w:World) (base g gsd:Nat) (wv:Value) (D:Dk) (gst gc:Nat) (con:Bool) (cur hand:Int) (h:Disk w base g gsd wv D) (hc:Cs w gc g 0 16) (hs:Row1 w gst 109 (seatC gc con cur hand)) (hv:(getB D 0 16 0).1=0) :
  Calls Tryz.prog 40 #[.pointer (some ⟨gst,0,none⟩)] w fun e w'=>e=.returned (.int .i64 0)∧Below w.heap.size w w':=by
 have hne:Nonempty (BlwW w):=⟨⟨w,Below.refl _ _⟩⟩
 have c0:∀ p:BlwW w,p.W.cell? ⟨gst,0,none⟩=some (.pointer (some ⟨gc,0,none⟩)):=fun p=>(hs.stay p.ok).cell 0 rfl
 have c1:∀ p:BlwW w,p.W.cell? ⟨gst,1,none⟩=some (.int .i64 1):=fun p=>(hs.stay p.ok).cell 1 rfl
 have HG:Hid (∀ p:BlwW w,Calls Tryz.prog 101 #[.pointer (some ⟨gc,0,none⟩),.int .i64 0] p.W fun e w'=>e=.returned (.int .i64 0)∧Below p.W.heap.size p.W w'):=fun p=>br_get p.W base g gsd wv D gc 0 0 0 (h.stay p.ok) (hc.stay p.ok) (by decide) hv
 clear h hc hs hv
 go_enter Tryz.func40,Tryz.ntmps40
 go_upto_region 1 with fail
 refine wp_region_blw (by kernel_rfl) (by kernel_rfl) ?_
 repeat (go_big_quiet_step (first
  | (go_at_call 102;exact Calls.blw_same (br_stateCell _))
  | (go_at_call 101;exact Calls.blw_of (HG.out _))))
 refine wpQuiet_nil ?_
 intro _ hw'
 obtain ⟨p,hw''⟩:=hw'
 subst hw''
 go_wp2
 go_returns
 exact ⟨rfl,p.ok⟩
theorem br_snumber5 (w:World) (base g gsd:Nat) (wv:Value) (D:Dk) (gst gc:Nat) (con:Bool) (cur hand:Int) (h:Disk w base g gsd wv D) (hc:Cs w gc g 0 16) (hs:Row1 w gst 109 (seatC gc con cur hand)) (hv:(getB D 0 16 0).1=5) :
  Calls Tryz.prog 47 #[.pointer (some ⟨gst,0,none⟩)] w fun e w'=>e=.returned (.int .i64 1)∧Below w.heap.size w w':=by
 have hne:Nonempty (BlwW w):=⟨⟨w,Below.refl _ _⟩⟩
 have c0:∀ p:BlwW w,p.W.cell? ⟨gst,0,none⟩=some (.pointer (some ⟨gc,0,none⟩)):=fun p=>(hs.stay p.ok).cell 0 rfl
 have c1:∀ p:BlwW w,p.W.cell? ⟨gst,1,none⟩=some (.int .i64 1):=fun p=>(hs.stay p.ok).cell 1 rfl
 have HG:Hid (∀ p:BlwW w,Calls Tryz.prog 101 #[.pointer (some ⟨gc,0,none⟩),.int .i64 0] p.W fun e w'=>e=.returned (.int .i64 5)∧Below p.W.heap.size p.W w'):=fun p=>br_get p.W base g gsd wv D gc 0 0 5 (h.stay p.ok) (hc.stay p.ok) (by decide) hv
 clear h hc hs hv
 go_enter Tryz.func47,Tryz.ntmps47
 go_upto_region 1 with fail
 refine wp_region_blw (by kernel_rfl) (by kernel_rfl) ?_
 repeat (go_big_quiet_step (first
  | (go_at_call 102;exact Calls.blw_same (br_stateCell _))
  | (go_at_call 101;exact Calls.blw_of (HG.out _))))
 refine wpQuiet_nil ?_
 intro _ hw'
 obtain ⟨p,hw''⟩:=hw'
 subst hw''
 go_wp2
 go_returns
 exact ⟨rfl,p.ok⟩
theorem br_sstate5 (w:World) (base g gsd:Nat) (wv:Value) (D:Dk) (gst gc:Nat) (con:Bool) (cur hand:Int) (h:Disk w base g gsd wv D) (hc:Cs w gc g 0 16) (hs:Row1 w gst 109 (seatC gc con cur hand)) (hv:(getB D 0 16 0).1=5) :
  Calls Tryz.prog 40 #[.pointer (some ⟨gst,0,none⟩)] w fun e w'=>e=.returned (.int .i64 1)∧Below w.heap.size w w':=by
 have hne:Nonempty (BlwW w):=⟨⟨w,Below.refl _ _⟩⟩
 have c0:∀ p:BlwW w,p.W.cell? ⟨gst,0,none⟩=some (.pointer (some ⟨gc,0,none⟩)):=fun p=>(hs.stay p.ok).cell 0 rfl
 have c1:∀ p:BlwW w,p.W.cell? ⟨gst,1,none⟩=some (.int .i64 1):=fun p=>(hs.stay p.ok).cell 1 rfl
 have HG:Hid (∀ p:BlwW w,Calls Tryz.prog 101 #[.pointer (some ⟨gc,0,none⟩),.int .i64 0] p.W fun e w'=>e=.returned (.int .i64 5)∧Below p.W.heap.size p.W w'):=fun p=>br_get p.W base g gsd wv D gc 0 0 5 (h.stay p.ok) (hc.stay p.ok) (by decide) hv
 clear h hc hs hv
 go_enter Tryz.func40,Tryz.ntmps40
 go_upto_region 1 with fail
 refine wp_region_blw (by kernel_rfl) (by kernel_rfl) ?_
 repeat (go_big_quiet_step (first
  | (go_at_call 102;exact Calls.blw_same (br_stateCell _))
  | (go_at_call 101;exact Calls.blw_of (HG.out _))))
 refine wpQuiet_nil ?_
 intro _ hw'
 obtain ⟨p,hw''⟩:=hw'
 subst hw''
 go_wp2
 go_returns
 exact ⟨rfl,p.ok⟩
theorem br_sstate6 (w:World) (base g gsd:Nat) (wv:Value) (D:Dk) (gst gc:Nat) (con:Bool) (cur hand:Int) (h:Disk w base g gsd wv D) (hc:Cs w gc g 0 16) (hs:Row1 w gst 109 (seatC gc con cur hand)) (hv:(getB D 0 16 0).1=6) :
  Calls Tryz.prog 40 #[.pointer (some ⟨gst,0,none⟩)] w fun e w'=>e=.returned (.int .i64 2)∧Below w.heap.size w w':=by
 have hne:Nonempty (BlwW w):=⟨⟨w,Below.refl _ _⟩⟩
 have c0:∀ p:BlwW w,p.W.cell? ⟨gst,0,none⟩=some (.pointer (some ⟨gc,0,none⟩)):=fun p=>(hs.stay p.ok).cell 0 rfl
 have c1:∀ p:BlwW w,p.W.cell? ⟨gst,1,none⟩=some (.int .i64 1):=fun p=>(hs.stay p.ok).cell 1 rfl
 have HG:Hid (∀ p:BlwW w,Calls Tryz.prog 101 #[.pointer (some ⟨gc,0,none⟩),.int .i64 0] p.W fun e w'=>e=.returned (.int .i64 6)∧Below p.W.heap.size p.W w'):=fun p=>br_get p.W base g gsd wv D gc 0 0 6 (h.stay p.ok) (hc.stay p.ok) (by decide) hv
 clear h hc hs hv
 go_enter Tryz.func40,Tryz.ntmps40
 go_upto_region 1 with fail
 refine wp_region_blw (by kernel_rfl) (by kernel_rfl) ?_
 repeat (go_big_quiet_step (first
  | (go_at_call 102;exact Calls.blw_same (br_stateCell _))
  | (go_at_call 101;exact Calls.blw_of (HG.out _))))
 refine wpQuiet_nil ?_
 intro _ hw'
 obtain ⟨p,hw''⟩:=hw'
 subst hw''
 go_wp2
 go_returns
 exact ⟨rfl,p.ok⟩
theorem br_sisOn6 (w:World) (base g gsd:Nat) (wv:Value) (D:Dk) (gst gc:Nat) (con:Bool) (cur hand:Int) (h:Disk w base g gsd wv D) (hc:Cs w gc g 0 16) (hs:Row1 w gst 109 (seatC gc con cur hand)) (hv:(getB D 0 16 0).1=6):Calls Tryz.prog 64 #[.pointer (some ⟨gst,0,none⟩)] w fun e w'=>e=.returned (.bool true)∧Below w.heap.size w w':=by
 have HC:=br_sstate6 w base g gsd wv D gst gc con cur hand h hc hs hv
 clear h hc hs hv
 go_enter Tryz.func64,Tryz.ntmps64
 go_wp2_with fail
 refine HC.mono ?_
 rintro e w1 ⟨rfl,hb1⟩
 have HB:Hid (Below w.heap.size w w1):=hb1
 clear hb1 HC
 go_wp2
 go_returns
 exact ⟨rfl,HB.out⟩
theorem br_mnumber0 (w:World) (base g gsd:Nat) (wv:Value) (D:Dk) (gcm:Nat) (h:Disk w base g gsd wv D) (hc:Cs w gcm g 32 16) (hv:(getB D 32 16 0).1=0) :
  Calls Tryz.prog 212 #[.agg #[.pointer (some ⟨gcm,0,none⟩),.int .i64 1]] w fun e w'=>e=.returned (.int .i64 0)∧Below w.heap.size w w':=by
 obtain ⟨W1,HW1⟩:∃ W,Hid (W=w.alloc (.cells #[.pointer (some ⟨gcm,0,none⟩),.int .i64 1] 237)):=⟨_,rfl⟩
 have HX1:Hid (Below w.heap.size w W1):=by (show Below _ _ _);rw [HW1.out];exact below_alloc _ _
 have HK1:Hid (Row1 W1 w.heap.size 237 [.pointer (some ⟨gcm,0,none⟩),.int .i64 1]):=by (show Row1 _ _ _ _);rw [HW1.out];exact Row1.of (Blk.new _ _ _)
 have hne:Nonempty (BlwW W1):=⟨⟨W1,Below.refl _ _⟩⟩
 have c0:∀ p:BlwW W1,p.W.cell? ⟨w.heap.size,0,none⟩=some (.pointer (some ⟨gcm,0,none⟩)):=fun p=>(HK1.out.stay p.ok).cell 0 rfl
 have c1:∀ p:BlwW W1,p.W.cell? ⟨w.heap.size,1,none⟩=some (.int .i64 1):=fun p=>(HK1.out.stay p.ok).cell 1 rfl
 have HG:Hid (∀ p:BlwW W1,Calls Tryz.prog 101 #[.pointer (some ⟨gcm,0,none⟩),.int .i64 0] p.W fun e w'=>e=.returned (.int .i64 0)∧Below p.W.heap.size p.W w'):=fun p=>br_get p.W base g gsd wv D gcm 32 0 0 ((h.stay HX1.out).stay p.ok) ((hc.stay HX1.out).stay p.ok) (by decide) hv
 clear h hc hv
 go_enter Tryz.func212,Tryz.ntmps212
 go_upto_region 1 with fail
 rw [← HW1.out]
 refine wp_region_blw (by kernel_rfl) (by kernel_rfl) ?_
 repeat (go_big_quiet_step (first
  | (go_at_call 102;exact Calls.blw_same (br_stateCell _))
  | (go_at_call 101;exact Calls.blw_of (HG.out _))))
 refine wpQuiet_nil ?_
 intro _ hw'
 obtain ⟨p,hw''⟩:=hw'
 subst hw''
 go_wp2
 go_returns
 exact ⟨rfl,HX1.out.trans (p.ok.mono HX1.out.size)⟩
theorem br_mnumber3 (w:World) (base g gsd:Nat) (wv:Value) (D:Dk) (gcm:Nat) (h:Disk w base g gsd wv D) (hc:Cs w gcm g 32 16) (hv:(getB D 32 16 0).1=3) :
  Calls Tryz.prog 212 #[.agg #[.pointer (some ⟨gcm,0,none⟩),.int .i64 1]] w fun e w'=>e=.returned (.int .i64 1)∧Below w.heap.size w w':=by
 obtain ⟨W1,HW1⟩:∃ W,Hid (W=w.alloc (.cells #[.pointer (some ⟨gcm,0,none⟩),.int .i64 1] 237)):=⟨_,rfl⟩
 have HX1:Hid (Below w.heap.size w W1):=by (show Below _ _ _);rw [HW1.out];exact below_alloc _ _
 have HK1:Hid (Row1 W1 w.heap.size 237 [.pointer (some ⟨gcm,0,none⟩),.int .i64 1]):=by (show Row1 _ _ _ _);rw [HW1.out];exact Row1.of (Blk.new _ _ _)
 have hne:Nonempty (BlwW W1):=⟨⟨W1,Below.refl _ _⟩⟩
 have c0:∀ p:BlwW W1,p.W.cell? ⟨w.heap.size,0,none⟩=some (.pointer (some ⟨gcm,0,none⟩)):=fun p=>(HK1.out.stay p.ok).cell 0 rfl
 have c1:∀ p:BlwW W1,p.W.cell? ⟨w.heap.size,1,none⟩=some (.int .i64 1):=fun p=>(HK1.out.stay p.ok).cell 1 rfl
 have HG:Hid (∀ p:BlwW W1,Calls Tryz.prog 101 #[.pointer (some ⟨gcm,0,none⟩),.int .i64 0] p.W fun e w'=>e=.returned (.int .i64 3)∧Below p.W.heap.size p.W w'):=fun p=>br_get p.W base g gsd wv D gcm 32 0 3 ((h.stay HX1.out).stay p.ok) ((hc.stay HX1.out).stay p.ok) (by decide) hv
 clear h hc hv
 go_enter Tryz.func212,Tryz.ntmps212
 go_upto_region 1 with fail
 rw [← HW1.out]
 refine wp_region_blw (by kernel_rfl) (by kernel_rfl) ?_
 repeat (go_big_quiet_step (first
  | (go_at_call 102;exact Calls.blw_same (br_stateCell _))
  | (go_at_call 101;exact Calls.blw_of (HG.out _))))
 refine wpQuiet_nil ?_
 intro _ hw'
 obtain ⟨p,hw''⟩:=hw'
 subst hw''
 go_wp2
 go_returns
 exact ⟨rfl,HX1.out.trans (p.ok.mono HX1.out.size)⟩
theorem br_misOn3 (w:World) (base g gsd:Nat) (wv:Value) (D:Dk) (gcm:Nat) (h:Disk w base g gsd wv D) (hc:Cs w gcm g 32 16) (hv:(getB D 32 16 0).1=3) :
  Calls Tryz.prog 165 #[.agg #[.pointer (some ⟨gcm,0,none⟩),.int .i64 1]] w fun e w'=>e=.returned (.bool true)∧Below w.heap.size w w':=by
 obtain ⟨W1,HW1⟩:∃ W,Hid (W=w.alloc (.cells #[.pointer (some ⟨gcm,0,none⟩),.int .i64 1] 237)):=⟨_,rfl⟩
 have HX1:Hid (Below w.heap.size w W1):=by (show Below _ _ _);rw [HW1.out];exact below_alloc _ _
 have HK1:Hid (Row1 W1 w.heap.size 237 [.pointer (some ⟨gcm,0,none⟩),.int .i64 1]):=by (show Row1 _ _ _ _);rw [HW1.out];exact Row1.of (Blk.new _ _ _)
 have hne:Nonempty (BlwW W1):=⟨⟨W1,Below.refl _ _⟩⟩
 have c0:∀ p:BlwW W1,p.W.cell? ⟨w.heap.size,0,none⟩=some (.pointer (some ⟨gcm,0,none⟩)):=fun p=>(HK1.out.stay p.ok).cell 0 rfl
 have c1:∀ p:BlwW W1,p.W.cell? ⟨w.heap.size,1,none⟩=some (.int .i64 1):=fun p=>(HK1.out.stay p.ok).cell 1 rfl
 have HG:Hid (∀ p:BlwW W1,Calls Tryz.prog 101 #[.pointer (some ⟨gcm,0,none⟩),.int .i64 0] p.W fun e w'=>e=.returned (.int .i64 3)∧Below p.W.heap.size p.W w'):=fun p=>br_get p.W base g gsd wv D gcm 32 0 3 ((h.stay HX1.out).stay p.ok) ((hc.stay HX1.out).stay p.ok) (by decide) hv
 clear h hc hv
 go_enter Tryz.func165,Tryz.ntmps165
 go_upto_region 1 with fail
 rw [← HW1.out]
 refine wp_region_blw (by kernel_rfl) (by kernel_rfl) ?_
 repeat (go_big_quiet_step (first
  | (go_at_call 102;exact Calls.blw_same (br_stateCell _))
  | (go_at_call 101;exact Calls.blw_of (HG.out _))))
 refine wpQuiet_nil ?_
 intro _ hw'
 obtain ⟨p,hw''⟩:=hw'
 subst hw''
 go_wp2
 go_returns
 exact ⟨rfl,HX1.out.trans (p.ok.mono HX1.out.size)⟩
end
end Go.Proofs.YtoiennkfdjnkbaaGreatDoor
