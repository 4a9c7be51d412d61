import Derived.Test.YtoiennkfdjnkbaaGreatDoorPk45
set_option maxRecDepth 100000
set_option maxHeartbeats 8000000
namespace Go.Proofs.YtoiennkfdjnkbaaGreatDoor
section
open Go.RowKit Go.Shelf Go.Maps
attribute [local go_sem] Oper.semAt_some
theorem ko_below {W W':World} (h:Below W.heap.size W W'):KeepsOthers W W':=⟨h.size,fun k o hk _=>by rw [h.block k (heap_lt hk)];exact hk⟩
theorem br_free0 (B:Nat) (A:Ad) (w:World) (age:Nat) (D:Dk) (con:Bool) (cur hand:Int) (h:Brk B A w age D con cur hand) (h3:(getB D 32 16 0).1=3) (h0:(getB D 32 16 8).1=0):Calls Tryz.prog 123 #[.pointer (some ⟨A.gb,0,none⟩),.pointer (some ⟨A.q,0,none⟩)] w fun e w'=>e=.returned (.int .i64 0)∧Below w.heap.size w w':=by
 have HB:Hid (Brk B A w age D con cur hand):=h
 have HV:Hid ((getB D 32 16 0).1=3∧(getB D 32 16 8).1=0):=⟨h3,h0⟩
 obtain ⟨wv,uv,rv,hl⟩:=h.log
 have HL:Hid (Lg w B A.g A.gsd wv D A.gl A.gcl 64 4 age [] uv 0 0 [] rv):=hl
 obtain ⟨g3,Hg3⟩:∃ n,Hid (n=w.heap.size):=⟨_,rfl⟩
 obtain ⟨g5,Hg5⟩:∃ n,Hid (n=w.heap.size+1):=⟨_,rfl⟩
 obtain ⟨W1,HW1⟩:∃ W,Hid (W=w.alloc (.cells #[.pointer (some ⟨A.q,0,none⟩)] 89)):=⟨_,rfl⟩
 have HX1:Hid (Below w.heap.size w W1):=by (show Below _ _ _);rw [HW1.out];exact below_alloc _ _
 have HK1:Hid (Row1 W1 g3 89 [.pointer (some ⟨A.q,0,none⟩)]):=by (show Row1 _ _ _ _);rw [HW1.out,Hg3.out];exact Row1.of (Blk.new _ _ _)
 have HS1:Hid (W1.heap.size=w.heap.size+1):=by (show _=_);rw [HW1.out];simp
 have HC1:=(h.stay HX1.out).core
 have c0:W1.cell? ⟨g3,0,none⟩=some (.pointer (some ⟨A.q,0,none⟩)):=HK1.out.cell 0 rfl
 have c6:W1.cell? ⟨A.q,6,none⟩=some (.pointer (some ⟨A.gl,0,none⟩)):=HC1.part.cell 6 rfl
 have HHI:=evl_High W1 A.gl A.g A.gcl 64 4 age 0 0 uv rv (hl.log.stay HX1.out)
 clear h hl h3 h0 HC1
 refine (callsIn_wide (n:=8)).1 ?_
 refine callsIn_of_wp_marks Tryz.func123 rfl trivial ?_ rfl
 simp only [Tryz.ntmps123,List.size_toArray,List.length_cons,List.length_nil,Nat.reduceAdd,Nat.reduceSub,Array.replicate_succ,Array.replicate_zero,List.push_toArray,List.append_toArray,List.nil_append,List.cons_append]
 refine wpIn_wide.2 ?_
 go_upto_region 1 with fail
 rw [← HW1.out,← Hg3.out]
 go_wp2_with fail
 refine HHI.mono ?_
 rintro e w0 ⟨rfl,hw⟩
 rw [hw]
 clear hw w0 HHI
 obtain ⟨W2,HW2⟩:∃ W,Hid (W=W1.alloc (.cells #[.int .i64 0] 3)):=⟨_,rfl⟩
 have HX12:Hid (Below W1.heap.size W1 W2):=by (show Below _ _ _);rw [HW2.out];exact below_alloc _ _
 have HX2:Hid (Below w.heap.size w W2):=HX1.out.trans (HX12.out.mono HX1.out.size)
 have HK2:Hid (Row1 W2 g3 89 [.pointer (some ⟨A.q,0,none⟩)] ∧ Row1 W2 g5 3 [.int .i64 0]):=⟨HK1.out.stay HX12.out,by rw [HW2.out,Hg5.out,← HS1.out];exact Row1.of (Blk.new _ _ _)⟩
 have HC2:=(HB.out.stay HX2.out).core
 go_upto_region 2 with fail
 rw [← HW2.out,HS1.out,← Hg5.out]
 clear c0 c6
 have c0:W2.cell? ⟨g3,0,none⟩=some (.pointer (some ⟨A.q,0,none⟩)):=HK2.out.1.cell 0 rfl
 have c1:W2.cell? ⟨A.q,0,none⟩=some (.int .i64 0):=HC2.part.cell 0 rfl
 have HOF:=br_of A.gb A.gp A.cp A.gs A.cs A.g (age:Int) A.ml A.mp A.ms W2 HC2.bro
 clear HC2
 go_wp2_with fail
 refine HOF.mono ?_
 rintro e W3 ⟨rfl,hx3,ht3,hf3,hb3,hs3⟩
 clear HOF c0 c1
 have HX3:Hid (Below w.heap.size w W3):=HX2.out.trans (hb3.mono HX2.out.size)
 have HK3:Hid (Row1 W3 g3 89 [.pointer (some ⟨A.q,0,none⟩)] ∧ Row1 W3 g5 3 [.int .i64 0]):=⟨HK2.out.1.stay hb3,HK2.out.2.stay hb3⟩
 have HSZ:Hid (W3.heap.size=W2.heap.size+3∧W2.heap.size=w.heap.size+2∧g3=w.heap.size∧g5=w.heap.size+1):=⟨hs3,by rw [HW2.out,World.size_alloc,HS1.out],Hg3.out,Hg5.out⟩
 have HTP3:Hid (Tpo W3 A.gp A.cp A.gs A.cs A.gt A.ct):=(HB.out.stay HX3.out).core.tpo
 obtain ⟨K,HK⟩:∃ K:Nat→Prop,Hid (K=fun k=>k=W2.heap.size∨k=W2.heap.size+1∨k=W2.heap.size+2∨k=A.gs):=⟨_,rfl⟩
 have HGS:Hid (A.gs<w.heap.size):=HB.out.core.tpo.subs.lt
 have HKL:Hid (∀ k,K k→k<W3.heap.size):=fun k hk=>by
  rw [HK.out] at hk
  have h1:=HSZ.out;have h2:=HGS.out
  rcases hk with rfl | rfl | rfl | rfl <;> omega
 have HK5:Hid (¬ K g5):=fun hk=>by
  rw [HK.out] at hk
  have h1:=HSZ.out;have h2:=HGS.out
  rcases hk with e | e | e | e <;> omega
 have HST:Hid (SeqStopsK Fence.wide 7 Tryz.prog 136 #[.pointer (some ⟨W2.heap.size+1,0,none⟩),.pointer (some ⟨W2.heap.size+2,0,none⟩)] (encS (fun _=>(0,0,A.gt,A.ct)) 1) (Kp K) (fun xs=>xs=asF (fun _=>true) 1 1) (fun pre=>pre <+: asF (fun _=>true) 1 1) 1 W3) :=
  one_of K (by rw [HK.out];exact .inl rfl) (by rw [HK.out];exact .inr (.inl rfl)) (by rw [HK.out];exact .inr (.inr (.inl rfl))) (by rw [HK.out];exact .inr (.inr (.inr rfl))) HKL.out hx3 ht3 hf3 HTP3.out.subs (by decide)
 clear hx3 ht3 hf3 hb3 hs3
 go_wp2_with fail
 refine (wpIn_wide (n:=8)).1 ?_
 have HW3:Hid (w.heap.size≤W3.heap.size):=HX3.out.size
 refine' wpIn_rangeFunc_ownG rfl (by decide) (gf:=136) (lb:=#[.pointer (some ⟨W2.heap.size+1,0,none⟩),.pointer (some ⟨W2.heap.size+2,0,none⟩)]) rfl trivial (enters_of Tryz.func136 (by kernel_rfl) rfl) HST.out Kp.trans (fun W l o o' hl=>Kp.put HKL.out W l o o' hl) (Below.refl _ _) (fun _=>rfl)
  (fun (_:List (Fin 1)) W=>((Row1 W g3 89 [.pointer (some ⟨A.q,0,none⟩)] ∧ Row1 W g5 3 [.int .i64 0])∧W3.heap.size≤W.heap.size)∧Below w.heap.size w W) (fun _ _ _=>False) (OwnFrom.and (OwnFrom.and (OwnFrom.and (Own.from (fun s A B row hs hg hr=>hs.grown hg hr) _) (Own.from (fun s A B row hs hg hr=>hs.grown hg hr) _)) (fun s A B row hs hg _=>Nat.le_trans hs hg.size)) (ownFrom_below (Nat.le_refl _) HW3.out)) (fun _ _ _ _ _ hs _ _=>hs)
  ⟨⟨HK3.out,Nat.le_refl _⟩,HX3.out⟩ _ ?assign ?body ?done ?stop
 case assign =>
  intro l x W K hK
  unfold encS
  gi_wp2
  exact hK
 case body =>
  rintro l pre x W ⟨⟨⟨hr1,hr2⟩,hsw⟩,hb⟩ hp
  have HSW:Hid (W3.heap.size≤W.heap.size):=hsw
  have HG35:Hid (g3≠g5):=by have h1:=HSZ.out;(show g3≠g5);omega
  obtain rfl:x=0:=Subsingleton.elim _ _
  have HR:Hid (Row1 W g3 89 [.pointer (some ⟨A.q,0,none⟩)] ∧ Row1 W g5 3 [.int .i64 0]):=⟨hr1,hr2⟩
  have HBW:Hid (Below w.heap.size w W):=hb
  have HBK:Hid (Brk B A W age D con cur hand):=HB.out.stay hb
  have z0:W.cell? ⟨g3,0,none⟩=some (.pointer (some ⟨A.q,0,none⟩)):=hr1.cell 0 rfl
  have z1:W.cell? ⟨A.q,7,none⟩=some (.map (some A.mm)):=HBK.out.core.part.cell 7 rfl
  have hlk:=look_mem HBK.out.core.mem (t:=1) (by omega)
  rw [show (getX [(1,Value.agg #[.pointer (some ⟨A.gcm,0,none⟩),.int .i64 1])] (1:Int)).getD (.agg #[.pointer none,.int .i64 0])=.agg #[.pointer (some ⟨A.gcm,0,none⟩),.int .i64 1] from rfl] at hlk
  have hmx:Tryz.prog.follows .mixedOrders=true:=by kernel_rfl
  clear hr1 hr2 hb hp
  try simp only [Fin.isValue,Fin.val_zero]
  obtain ⟨W5,HW5⟩:∃ W',Hid (W'=W.alloc (.cells #[.pointer (some ⟨A.gcm,0,none⟩),.int .i64 1] 237)):=⟨_,rfl⟩
  have HX5:Hid (Below W.heap.size W W5):=by (show Below _ _ _);rw [HW5.out];exact below_alloc _ _
  have HM5:Hid (Row1 W5 W.heap.size 237 [.pointer (some ⟨A.gcm,0,none⟩),.int .i64 1]):=by (show Row1 _ _ _ _);rw [HW5.out];exact Row1.of (Blk.new _ _ _)
  gi_upto_region 5 with fail
  rw [← HW5.out]
  have k0:W5.cell? ⟨W.heap.size,0,none⟩=some (.pointer (some ⟨A.gcm,0,none⟩)):=HM5.out.cell 0 rfl
  have k1:W5.cell? ⟨W.heap.size,1,none⟩=some (.int .i64 1):=HM5.out.cell 1 rfl
  obtain ⟨wvx,hdx⟩:=HBK.out.disk
  have HDX:Hid (Disk W B A.g A.gsd wvx D):=hdx
  have HIS:=br_misOn3 W5 B A.g A.gsd wvx D A.gcm (hdx.stay HX5.out) (HBK.out.stay HX5.out).core.mcells HV.out.1
  clear hdx z0 z1 hlk
  gi_wp2_with fail
  refine ⟨trivial,?_⟩
  refine (CallsIn.inRound l (callsIn_wide.2 HIS)).mono ?_
  rintro e w6 ⟨rfl,hb6⟩
  have HX6:Hid (Below W.heap.size W w6):=HX5.out.trans (hb6.mono HX5.out.size)
  have HM6:Hid (Row1 w6 W.heap.size 237 [.pointer (some ⟨A.gcm,0,none⟩),.int .i64 1]):=HM5.out.stay hb6
  have HY6:Hid (Row1 w6 g5 3 [.int .i64 0]):=HR.out.2.stay HX6.out
  clear hb6 HIS k0 k1
  have HXD:Hid (Below w6.heap.size w6 w6.drew):=(Below.refl _ _).drew
  have HXW:Hid (Below W.heap.size W w6.drew):=HX6.out.trans (HXD.out.mono HX6.out.size)
  have HAK:=br_macked w6.drew B A.g A.gsd wvx D A.gcm (HDX.out.stay HXW.out) (HBK.out.stay HXW.out).core.mcells 0 HV.out.2
  gi_wp2_with fail
  refine wp_region_R (S:=fun (_:Array Bool) (w':World)=>(w'.cell? ⟨g5,0,none⟩=some (.int .i64 0))∧(w'.cell? ⟨W.heap.size,0,none⟩=some (.pointer (some ⟨A.gcm,0,none⟩)))∧(w'.cell? ⟨W.heap.size,1,none⟩=some (.int .i64 1))) hmx (by kernel_rfl) (fun h=>by obtain ⟨_,_,h⟩:=h;exact h) ⟨HY6.out.cell 0 rfl,HM6.out.cell 0 rfl,HM6.out.cell 1 rfl⟩ (fun hS0 => ?_)
  refine tkL (i:=0) 3 (some 29) (v:=?_) hS0 (fun _ _=>Iff.rfl) ?_ ?_
  rotate_left
  ·(intro wS hSw;obtain ⟨L,hL,hSL⟩:=hSw;obtain ⟨y0,y1,y2⟩:=hSL;go_simp;try with_reducible rfl)
  try simp only [Act.put,List.setIfInBounds_toArray,List.set_cons_zero,List.set_cons_succ]
  refine tkL (i:=1) 2 (some 30) (v:=?_) hS0 (fun _ _=>Iff.rfl) ?_ ?_
  rotate_left
  ·(intro wS hSw;obtain ⟨L,hL,hSL⟩:=hSw;obtain ⟨y0,y1,y2⟩:=hSL;go_simp;try with_reducible rfl)
  try simp only [Act.put,List.setIfInBounds_toArray,List.set_cons_zero,List.set_cons_succ]
  refine anyL_one (i:=2) (by kernel_rfl) rfl (fun K' hK => ?_)
  go_simp
  refine HAK.mono ?_
  rintro e w7 ⟨rfl,hb7⟩
  have HX7:Hid (Below w6.heap.size w6 w7):=HXD.out.trans (hb7.mono HXD.out.size)
  have s7:w7.cell? ⟨g5,0,none⟩=some (.int .i64 0)∧w7.cell? ⟨W.heap.size,0,none⟩=some (.pointer (some ⟨A.gcm,0,none⟩))∧w7.cell? ⟨W.heap.size,1,none⟩=some (.int .i64 1):=⟨(HY6.out.stay HX7.out).cell 0 rfl,(HM6.out.stay HX7.out).cell 0 rfl,(HM6.out.stay HX7.out).cell 1 rfl⟩
  clear hb7 HAK
  refine hK.out _ _ s7 (fun hS1 => ?_)
  clear hK K'
  try simp only [Act.put,List.getElem_toArray,List.getElem_cons_succ,List.getElem_cons_zero,List.setIfInBounds_toArray,List.set_cons_zero,List.set_cons_succ]
  refine anyL_one (i:=3) (by kernel_rfl) rfl (fun K' hK => ?_)
  go_simp
  refine hK.out _ _ hS1 (fun hS2 => ?_)
  clear hK K'
  try simp only [Act.put,List.getElem_toArray,List.getElem_cons_succ,List.getElem_cons_zero,List.setIfInBounds_toArray,List.set_cons_zero,List.set_cons_succ]
  have HRY:Hid (Row1 w7 g5 3 [.int .i64 0]):=HY6.out.stay HX7.out
  have HX07:Hid (Below W.heap.size W w7):=HX6.out.trans (HX7.out.mono HX6.out.size)
  have c5:w7.cell? ⟨g5,0,none⟩=some (.int .i64 0):=HRY.out.cell 0 rfl
  have f5:w7.frozen? ⟨g5,0,none⟩=false:=HRY.out.free 0
  have HG5:Hid (g5<W.heap.size∧w.heap.size≤g5∧g5≠W.heap.size):=by
   have h1:=HSZ.out;have h2:=HR.out.2.lt
   exact ⟨h2,by omega,by omega⟩
  refine anyL_one (i:=4) (by kernel_rfl) rfl (fun K' hK => ?_)
  go_simp
  refine hK.out _ _ ⟨(HRY.out.set 0 _).cell 0 rfl,((HM6.out.stay HX7.out).other (Ne.symm HG5.out.2.2)).cell 0 rfl,((HM6.out.stay HX7.out).other (Ne.symm HG5.out.2.2)).cell 1 rfl⟩ (fun hSX => ?_)
  clear hK K'
  try simp only [Act.put,List.getElem_toArray,List.getElem_cons_succ,List.getElem_cons_zero,List.setIfInBounds_toArray,List.set_cons_zero,List.set_cons_succ]
  refine anyL_done (by kernel_rfl) ?_ _
  refine ⟨(ko_below HX07.out).trans (KeepsOthers.setCell _ _ _) |>.from _,(Kp.of_below (fun k hk=>Nat.lt_of_lt_of_le (HKL.out k hk) HSW.out) HX07.out).trans (Kp.set HK5.out 0 _),⟨⟨(HR.out.1.stay HX07.out).other HG35.out,HRY.out.set 0 _⟩,by rw [World.size_setCell];exact Nat.le_trans HSW.out HX07.out.size⟩,(HBW.out.trans (HX07.out.mono HBW.out.size)).setCell (p:=⟨g5,0,none⟩) HG5.out.2.1 _⟩
 case done =>
  rintro DD xs W hD rfl ⟨⟨⟨hr1,hr2⟩,_⟩,hb⟩ hK
  have c5:W.cell? ⟨g5,0,none⟩=some (.int .i64 0):=hr2.cell 0 rfl
  have HBW:Hid (Below w.heap.size w W):=hb
  clear hr1 hr2 hb
  go_wp2
  refine ⟨by simp,.inl ⟨_,_,rfl,run_takeDeferred hK,?_⟩⟩
  exact ⟨_,results_tmp rfl _ _ _,rfl,HBW.out.trans (belowK_b (w:=w) (Nat.le_refl _) W DD _ _ (Nat.le_trans HW3.out hD) hK rfl rfl)⟩
 case stop =>
  rintro D c pre W _ _ h _
  exact h.elim
end
section
open Go.RowKit Go.Shelf Go.Maps
theorem evl_Chop00 (w:World) (base g gs:Nat) (wv:Value) (D:Dk) (gl gc b m ag:Nat) (U:List Sg) (uv:Value) (L:List Rc) (rv:Value) (h:Lg w base g gs wv D gl gc b m ag U uv 0 0 L rv) (hs:shutE D ag=0) :
  Calls Tryz.prog 44 #[.pointer (some ⟨gl,0,none⟩),.int .i64 0] w fun e w'=>e=.returned (.int .i64 0)∧Below w.heap.size w w':=by
 have HL:Hid (Lg w base g gs wv D gl gc b m ag U uv 0 0 L rv):=h
 have HS:=evl_shut w base g gs wv D gl gc b m ag 0 0 uv rv h.disk h.log
 rw [hs] at HS
 clear h hs
 go_enter Tryz.func44,Tryz.ntmps44
 go_wp2_with fail
 refine HS.mono ?_
 rintro e w1 ⟨rfl,n,hw⟩
 have HB:Hid (Below w.heap.size w w1):=by (show Below _ _ _);rw [hw];exact below_drewN (Below.refl _ _) _
 have hl:=HL.out.log.stay HB.out
 have c6:w1.cell? ⟨gl,6,none⟩=some (.int .i64 0):=Blk.cell hl 6 rfl
 have c7:w1.cell? ⟨gl,7,none⟩=some (.int .i64 0):=Blk.cell hl 7 rfl
 clear hw hl HS
 go_wp2
 go_returns
 exact ⟨rfl,HB.out⟩
theorem br_pass1 (B:Nat) (A:Ad) (w:World) (age:Nat) (D:Dk) (con:Bool) (cur hand:Int) (h:Brk B A w age D con cur hand) (h3:(getB D 32 16 0).1=3) (h0:(getB D 32 16 8).1=0):Calls Tryz.prog 60 #[.pointer (some ⟨A.gb,0,none⟩),.pointer (some ⟨A.q,0,none⟩),.int .i64 1] w fun e w'=>e=.returned (.int .i64 0)∧Below w.heap.size w w':=by
 have HB:Hid (Brk B A w age D con cur hand):=h
 have HV:Hid ((getB D 32 16 0).1=3∧(getB D 32 16 8).1=0):=⟨h3,h0⟩
 have HIH:=br_isHome A.q A.s A.mr A.gl 1 (.map (some A.mm)) w h.core.part
 clear h h3 h0
 go_enter Tryz.func60,Tryz.ntmps60
 go_wp2_with fail
 refine HIH.mono ?_
 rintro e w0 ⟨rfl,hw⟩
 rw [hw]
 clear hw w0 HIH
 obtain ⟨wv,uv,rv,hl⟩:=HB.out.log
 have HL:Hid (Lg w B A.g A.gsd wv D A.gl A.gcl 64 4 age [] uv 0 0 [] rv):=hl
 have HRC:=br_reached A.q A.s A.mr A.gl 1 (.map (some A.mm)) A.g A.gcl 64 4 age 0 0 uv rv w HB.out.core.part hl.log
 clear hl
 go_wp2_with fail
 refine HRC.mono ?_
 rintro e w1 ⟨rfl,hb1⟩
 have HX1:Hid (Below w.heap.size w w1):=hb1
 clear hb1 HRC
 have HD1:Hid (Below w1.heap.size w1 w1.drew):=(Below.refl _ _).drew
 have HXD:Hid (Below w.heap.size w w1.drew):=HX1.out.drew
 have HFR:=br_free0 B A w1.drew age D con cur hand (HB.out.stay HXD.out) HV.out.1 HV.out.2
 have s0:w1.cell? ⟨A.q,6,none⟩=some (.pointer (some ⟨A.gl,0,none⟩)):=(HB.out.stay HX1.out).core.part.cell 6 rfl
 go_wp2_with fail
 go_region_held3 (fun w'=>w'.cell? ⟨A.q,6,none⟩=some (.pointer (some ⟨A.gl,0,none⟩))) (first | exact s0 | exact s2 | exact s3)
  (first
   | (go_at_call 123;refine HFR.mono ?_;rintro e w2 ⟨rfl,hb2⟩;have HX2:Hid (Below w.heap.size w w2):=HXD.out.trans (hb2.mono HXD.out.size);have s2:w2.cell? ⟨A.q,6,none⟩=some (.pointer (some ⟨A.gl,0,none⟩)):=(HB.out.stay HX2.out).core.part.cell 6 rfl;clear hb2)
   | (go_at_call 44;refine (evl_Chop00 w2 B A.g A.gsd wv D A.gl A.gcl 64 4 age [] uv [] rv (HL.out.below HX2.out) (by unfold shutE;rw [if_pos HB.out.dage,if_neg (by rw [HB.out.down];decide)])).mono ?_;rintro e w3 ⟨rfl,hb3⟩;have HX3:Hid (Below w.heap.size w w3):=HX2.out.trans (hb3.mono HX2.out.size);have s3:w3.cell? ⟨A.q,6,none⟩=some (.pointer (some ⟨A.gl,0,none⟩)):=(HB.out.stay HX3.out).core.part.cell 6 rfl;clear hb3))
 go_wp2
 go_returns
 exact ⟨rfl,HX3.out⟩
theorem br_last0 (B:Nat) (A:Ad) (w:World) (age:Nat) (D:Dk) (con:Bool) (cur hand:Int) (h:Brk B A w age D con cur hand):Calls Tryz.prog 124 #[.pointer (some ⟨A.q,0,none⟩)] w fun e w'=>e=.returned (.int .i64 0)∧Below w.heap.size w w':=by
 have HB:Hid (Brk B A w age D con cur hand):=h
 have HM:=st_Map h.strm (by simp)
 have c1:w.cell? ⟨A.q,1,none⟩=some (.pointer (some ⟨A.s,0,none⟩)):=h.core.part.cell 1 rfl
 clear h
 go_enter Tryz.func124,Tryz.ntmps124
 go_wp2_with fail
 refine HM.mono ?_
 rintro e w1 ⟨⟨a,n,c,rfl,hm⟩,hb1⟩
 obtain rfl:n=0:=hm.rd.size.symm
 have HX1:Hid (Below w.heap.size w w1):=hb1
 clear hb1 HM c1 hm
 go_wp2
 go_returns
 exact ⟨rfl,HX1.out⟩
theorem br_seek0 (B:Nat) (A:Ad) (w:World) (age:Nat) (D:Dk) (con:Bool) (cur hand:Int) (h:Brk B A w age D con cur hand):Calls Tryz.prog 126 #[.pointer (some ⟨A.gb,0,none⟩),.pointer (some ⟨A.q,0,none⟩),.int .i64 1,.int .i64 0] w fun e w'=>e=.returned (.tuple #[])∧Below w.heap.size w w':=by
 have HB:Hid (Brk B A w age D con cur hand):=h
 have HM:=st_Map h.strm (by simp)
 have c1:w.cell? ⟨A.q,1,none⟩=some (.pointer (some ⟨A.s,0,none⟩)):=h.core.part.cell 1 rfl
 clear h
 go_enter Tryz.func126,Tryz.ntmps126
 go_wp2_with fail
 refine HM.mono ?_
 rintro e w1 ⟨⟨a,n,c,rfl,hm⟩,hb1⟩
 obtain rfl:n=0:=hm.rd.size.symm
 have HX1:Hid (Below w.heap.size w w1):=hb1
 have HGA:=span_Gaps a 0 c [] 1 0 w1 hm.rd hm.lc hm.cm
 clear hb1 HM c1 hm
 go_wp2_with fail
 refine HGA.mono ?_
 rintro e w2 ⟨ht,hb2⟩
 rcases ht.out with ⟨_,rfl⟩ | ⟨hno,_⟩
 ·have HX2:Hid (Below w.heap.size w w2):=HX1.out.trans (hb2.mono HX1.out.size)
  clear ht hb2 HGA
  go_wp2
  go_returns
  exact ⟨rfl,HX2.out⟩
 ·exact absurd hno (by decide)
end
end Go.Proofs.YtoiennkfdjnkbaaGreatDoor
