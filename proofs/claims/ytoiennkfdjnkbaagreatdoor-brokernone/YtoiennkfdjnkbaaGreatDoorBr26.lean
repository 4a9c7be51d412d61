import Derived.Test.YtoiennkfdjnkbaaGreatDoorPk46
set_option maxRecDepth 100000
set_option maxHeartbeats 8000000
namespace Go.Proofs.YtoiennkfdjnkbaaGreatDoor
open Go.RowKit Go.Shelf Go.Maps
attribute [local go_sem] Oper.semAt_some
theorem four_new (w:World) (c1 c2 c3 c4:List Value) (t1 t2 t3 t4:TypeId):let W:=(((w.alloc (.cells c1.toArray t1)).alloc (.cells c2.toArray t2)).alloc (.cells c3.toArray t3)).alloc (.cells c4.toArray t4);(Row1 W w.heap.size t1 c1∧Row1 W (w.heap.size+1) t2 c2∧Row1 W (w.heap.size+1+1) t3 c3∧Row1 W (w.heap.size+1+1+1) t4 c4)∧Below w.heap.size w W∧W.heap.size=w.heap.size+4:=by
 have b1:=below_alloc w (.cells c1.toArray t1)
 have b2:=below_alloc (w.alloc (.cells c1.toArray t1)) (.cells c2.toArray t2)
 have b3:=below_alloc ((w.alloc (.cells c1.toArray t1)).alloc (.cells c2.toArray t2)) (.cells c3.toArray t3)
 have b4:=below_alloc (((w.alloc (.cells c1.toArray t1)).alloc (.cells c2.toArray t2)).alloc (.cells c3.toArray t3)) (.cells c4.toArray t4)
 have e1:(w.alloc (.cells c1.toArray t1)).heap.size=w.heap.size+1:=World.size_alloc _ _
 have e2:((w.alloc (.cells c1.toArray t1)).alloc (.cells c2.toArray t2)).heap.size=w.heap.size+1+1:=by rw [World.size_alloc,e1]
 have e3:(((w.alloc (.cells c1.toArray t1)).alloc (.cells c2.toArray t2)).alloc (.cells c3.toArray t3)).heap.size=w.heap.size+1+1+1:=by rw [World.size_alloc,e2]
 have r1:Row1 (w.alloc (.cells c1.toArray t1)) w.heap.size t1 c1:=Row1.of (Blk.new _ _ _)
 have r2:Row1 ((w.alloc (.cells c1.toArray t1)).alloc (.cells c2.toArray t2)) (w.heap.size+1) t2 c2:=by rw [← e1];exact Row1.of (Blk.new _ _ _)
 have r3:Row1 (((w.alloc (.cells c1.toArray t1)).alloc (.cells c2.toArray t2)).alloc (.cells c3.toArray t3)) (w.heap.size+1+1) t3 c3:=by rw [← e2];exact Row1.of (Blk.new _ _ _)
 have r4:Row1 ((((w.alloc (.cells c1.toArray t1)).alloc (.cells c2.toArray t2)).alloc (.cells c3.toArray t3)).alloc (.cells c4.toArray t4)) (w.heap.size+1+1+1) t4 c4:=by rw [← e3];exact Row1.of (Blk.new _ _ _)
 refine ⟨⟨((r1.stay b2).stay b3).stay b4,(r2.stay b3).stay b4,r3.stay b4,r4⟩,((b1.trans (b2.mono b1.size)).trans (b3.mono (Nat.le_trans b1.size b2.size))).trans (b4.mono (Nat.le_trans (Nat.le_trans b1.size b2.size) b3.size)),?_⟩
 rw [World.size_alloc,e3]
theorem br_behind0 (B:Nat) (A:Ad) (w:World) (age:Nat) (D:Dk) (con:Bool) (cur hand:Int) (h:Brk B A w age D con cur hand) (h6:(getB D 0 16 0).1=6) (h0:(getB D 0 16 8).1=0):Calls Tryz.prog 125 #[.pointer (some ⟨A.gb,0,none⟩),.int .i64 0] w fun e w'=>e=.returned (.tuple #[.int .i64 0,.bool true])∧Below w.heap.size w w':=by
 have HB:Hid (Brk B A w age D con cur hand):=h
 have HV:Hid ((getB D 0 16 0).1=6∧(getB D 0 16 8).1=0):=⟨h6,h0⟩
 obtain ⟨g2,Hg2⟩:∃ n,Hid (n=w.heap.size):=⟨_,rfl⟩
 obtain ⟨g3,Hg3⟩:∃ n,Hid (n=w.heap.size+1):=⟨_,rfl⟩
 obtain ⟨g6,Hg6⟩:∃ n,Hid (n=w.heap.size+1+1):=⟨_,rfl⟩
 obtain ⟨g7,Hg7⟩:∃ n,Hid (n=w.heap.size+1+1+1):=⟨_,rfl⟩
 obtain ⟨W2,HW2⟩:∃ W,Hid (W=(((w.alloc (.cells #[.pointer (some ⟨A.gb,0,none⟩)] 27)).alloc (.cells #[.int .i64 0] 3)).alloc (.cells #[.int .i64 1099511627776] 3)).alloc (.cells #[.bool false] 4)):=⟨_,rfl⟩
 have HF2:Hid ((Row1 W2 g2 27 [.pointer (some ⟨A.gb,0,none⟩)] ∧ Row1 W2 g3 3 [.int .i64 0] ∧ Row1 W2 g6 3 [.int .i64 1099511627776] ∧ Row1 W2 g7 4 [.bool false])∧Below w.heap.size w W2∧W2.heap.size=w.heap.size+4):=by
  (show _∧_)
  rw [HW2.out,Hg2.out,Hg3.out,Hg6.out,Hg7.out]
  exact four_new w _ _ _ _ _ _ _ _
 have HX2:Hid (Below w.heap.size w W2):=HF2.out.2.1
 have HGG:Hid (g2=w.heap.size∧g3=w.heap.size+1∧g6=w.heap.size+2∧g7=w.heap.size+3):=⟨Hg2.out,Hg3.out,Hg6.out,Hg7.out⟩
 have HC2:=(HB.out.stay HX2.out).core
 have HHR:=br_here A.gb A.gp A.cp A.gs A.cs A.g (age:Int) A.ml A.mp A.ms W2 HC2.bro
 have c0:W2.cell? ⟨g2,0,none⟩=some (.pointer (some ⟨A.gb,0,none⟩)):=HF2.out.1.1.cell 0 rfl
 clear h h6 h0 HC2
 refine (callsIn_wide (n:=8)).1 ?_
 refine callsIn_of_wp_marks Tryz.func125 rfl trivial ?_ rfl
 simp only [Tryz.ntmps125,List.size_toArray,List.length_cons,List.length_nil,Nat.reduceAdd,Nat.reduceSub,Array.replicate_succ,Array.replicate_zero,List.push_toArray,List.append_toArray,List.nil_append,List.cons_append]
 refine wpIn_wide.2 ?_
 go_upto_region 2 with fail
 rw [← HW2.out,← Hg7.out,← Hg6.out,← Hg3.out,← Hg2.out]
 go_wp2_with fail
 refine HHR.mono ?_
 rintro e W3 ⟨rfl,hx3,ht3,hf3,hb3,hs3⟩
 clear HHR c0
 have HX3:Hid (Below w.heap.size w W3):=HX2.out.trans (hb3.mono HX2.out.size)
 have HK3:Hid ((Row1 W3 g2 27 [.pointer (some ⟨A.gb,0,none⟩)] ∧ Row1 W3 g3 3 [.int .i64 0])∧Row1 W3 g6 3 [.int .i64 1099511627776] ∧ Row1 W3 g7 4 [.bool false]):=⟨⟨HF2.out.1.1.stay hb3,HF2.out.1.2.1.stay hb3⟩,HF2.out.1.2.2.1.stay hb3,HF2.out.1.2.2.2.stay hb3⟩
 have HSZ:Hid (W3.heap.size=W2.heap.size+3∧W2.heap.size=w.heap.size+4):=⟨hs3,HF2.out.2.2⟩
 have HTP3:Hid (Tpo W3 A.gp A.cp A.gs A.cs A.gt A.ct):=(HB.out.stay HX3.out).core.tpo
 have HBR3:=(HB.out.stay HX3.out).core.bro
 obtain ⟨K,HK⟩:∃ K:Nat→Prop,Hid (K=fun k=>k=W2.heap.size∨k=W2.heap.size+1∨k=W2.heap.size+2∨k=A.gs∨k=A.gb):=⟨_,rfl⟩
 have HGS:Hid (A.gs<w.heap.size∧A.gb<w.heap.size):=⟨HB.out.core.tpo.subs.lt,HB.out.core.bro.lt⟩
 have HKL:Hid (∀ k,K k→k<W3.heap.size):=fun k hk=>by
  rw [HK.out] at hk
  have h1:=HSZ.out;have h2:=HGS.out
  rcases hk with rfl | rfl | rfl | rfl | rfl <;> omega
 have HK6:Hid (¬ K g6∧¬ K g7):=by
  have h1:=HSZ.out;have h2:=HGS.out;have h3:=HGG.out
  refine ⟨fun hk => ?_,fun hk => ?_⟩
  ·rw [HK.out] at hk
   rcases hk with e | e | e | e | e <;> omega
  ·rw [HK.out] at hk
   rcases hk with e | e | e | e | e <;> omega
 have HST:Hid (SeqStopsK Fence.wide 7 Tryz.prog 136 #[.pointer (some ⟨W2.heap.size+1,0,none⟩),.pointer (some ⟨W2.heap.size+2,0,none⟩)] (encS (fun _=>(0,0,A.gt,A.ct)) 1) (Kp K) (fun xs=>xs=asF (fun _=>true) 1 1) (fun pre=>pre <+: asF (fun _=>true) 1 1) 1 W3) :=
  one_here K (by rw [HK.out];exact .inl rfl) (by rw [HK.out];exact .inr (.inl rfl)) (by rw [HK.out];exact .inr (.inr (.inl rfl))) (by rw [HK.out];exact .inr (.inr (.inr (.inl rfl)))) (by rw [HK.out];exact .inr (.inr (.inr (.inr rfl)))) HKL.out HBR3 hx3 ht3 hf3 HTP3.out.subs (by decide)
 clear hx3 ht3 hf3 hb3 hs3 HBR3
 go_wp2_with fail
 refine (wpIn_wide (n:=8)).1 ?_
 have HW3:Hid (w.heap.size≤W3.heap.size):=HX3.out.size
 refine wpIn_rangeFunc_ownH rfl (by decide) (gf:=136) (lb:=#[.pointer (some ⟨W2.heap.size+1,0,none⟩),.pointer (some ⟨W2.heap.size+2,0,none⟩)]) rfl trivial (enters_of Tryz.func136 (by kernel_rfl) rfl) HST.out Kp.trans (fun W l o o' hl=>Kp.put HKL.out W l o o' hl) (Below.refl _ _) (fun _=>rfl)
  (fun (pre:List (Fin 1)) W=>(((Row1 W g2 27 [.pointer (some ⟨A.gb,0,none⟩)] ∧ Row1 W g3 3 [.int .i64 0])∧(pre=[] → Row1 W g6 3 [.int .i64 1099511627776] ∧ Row1 W g7 4 [.bool false])∧(pre≠[] → Row1 W g6 3 [.int .i64 0] ∧ Row1 W g7 4 [.bool true]))∧W3.heap.size≤W.heap.size)∧Below w.heap.size w W) (fun _ _ _=>False) (OwnFrom.and (OwnFrom.and (fun s A B row hs hg hr=>⟨⟨hs.1.1.grown hg (fun r e2=>(hr r e2).2),hs.1.2.grown hg (fun r e2=>(hr r e2).2)⟩,fun e=>⟨(hs.2.1 e).1.grown hg (fun r e2=>(hr r e2).2),(hs.2.1 e).2.grown hg (fun r e2=>(hr r e2).2)⟩,fun e=>⟨(hs.2.2 e).1.grown hg (fun r e2=>(hr r e2).2),(hs.2.2 e).2.grown hg (fun r e2=>(hr r e2).2)⟩⟩) (fun s A B row hs hg _=>Nat.le_trans hs hg.size)) (ownFrom_below (Nat.le_refl _) HW3.out)) (fun _ _ _ _ _ hs _ _=>hs)
  ⟨⟨⟨HK3.out.1,fun _=>HK3.out.2,fun h=>absurd rfl h⟩,Nat.le_refl _⟩,HX3.out⟩
  (fun (_:Fin 1) a' W=>∃ Bx,W3.heap.size≤Bx∧Row1 W Bx 36 [.int .i64 0,.int .i64 0,.slice (some ⟨A.gt,0,none⟩) 1 A.ct] ∧ a'={ tmps:=#[.pointer (some ⟨A.gb,0,none⟩),.int .i64 0,.pointer (some ⟨g2,0,none⟩),.pointer (some ⟨g3,0,none⟩),.int .i64 0,.bool false,.pointer (some ⟨g6,0,none⟩),.pointer (some ⟨g7,0,none⟩),.int .i64 1,.pointer (some ⟨Bx,0,none⟩),.pointer (some ⟨A.gb,0,none⟩),.func (.func 136) #[] #[.pointer (some ⟨W2.heap.size+1,0,none⟩),.pointer (some ⟨W2.heap.size+2,0,none⟩)],.int .i64 1,.agg #[.int .i64 0,.int .i64 0,.slice (some ⟨A.gt,0,none⟩) 1 A.ct],undef,undef,undef,undef,undef,undef,undef,undef,undef,undef,undef,undef,undef,undef,undef,undef,undef,undef,undef,undef,undef,undef,undef,undef],defers:=[] })
  (fun x a' s A' B' row hs hg hr=>by
   obtain ⟨Bx,h1,h2,h3⟩:=hs
   exact ⟨Bx,h1,h2.grown hg (fun r e2=>(hr r e2).2),h3⟩) ?assign ?body ?done ?stop
 case assign =>
  intro l pre x W K' hi hK'
  obtain rfl:x=0:=Subsingleton.elim _ _
  have HI:Hid ((((Row1 W g2 27 [.pointer (some ⟨A.gb,0,none⟩)] ∧ Row1 W g3 3 [.int .i64 0])∧(pre=[] → Row1 W g6 3 [.int .i64 1099511627776] ∧ Row1 W g7 4 [.bool false])∧(pre≠[] → Row1 W g6 3 [.int .i64 0] ∧ Row1 W g7 4 [.bool true]))∧W3.heap.size≤W.heap.size)∧Below w.heap.size w W):=hi
  have HK':Hid (∀ a' W',KeepsFrom W3.heap.size W W'→Kp K W W'→((((Row1 W' g2 27 [.pointer (some ⟨A.gb,0,none⟩)] ∧ Row1 W' g3 3 [.int .i64 0])∧(pre=[] → Row1 W' g6 3 [.int .i64 1099511627776] ∧ Row1 W' g7 4 [.bool false])∧(pre≠[] → Row1 W' g6 3 [.int .i64 0] ∧ Row1 W' g7 4 [.bool true]))∧W3.heap.size≤W'.heap.size)∧Below w.heap.size w W')→(∃ Bx,W3.heap.size≤Bx∧Row1 W' Bx 36 [.int .i64 0,.int .i64 0,.slice (some ⟨A.gt,0,none⟩) 1 A.ct] ∧ a'={ tmps:=#[.pointer (some ⟨A.gb,0,none⟩),.int .i64 0,.pointer (some ⟨g2,0,none⟩),.pointer (some ⟨g3,0,none⟩),.int .i64 0,.bool false,.pointer (some ⟨g6,0,none⟩),.pointer (some ⟨g7,0,none⟩),.int .i64 1,.pointer (some ⟨Bx,0,none⟩),.pointer (some ⟨A.gb,0,none⟩),.func (.func 136) #[] #[.pointer (some ⟨W2.heap.size+1,0,none⟩),.pointer (some ⟨W2.heap.size+2,0,none⟩)],.int .i64 1,.agg #[.int .i64 0,.int .i64 0,.slice (some ⟨A.gt,0,none⟩) 1 A.ct],undef,undef,undef,undef,undef,undef,undef,undef,undef,undef,undef,undef,undef,undef,undef,undef,undef,undef,undef,undef,undef,undef,undef,undef],defers:=[] })→K' a' W'):=hK'
  clear hi hK'
  unfold encS
  gi_wp2
  have hbz:=below_alloc W (.cells #[.int .i64 0,.int .i64 0,.slice (some ⟨A.gt,0,none⟩) 1 A.ct] 36)
  refine HK'.out _ _ ((KeepsOthers.alloc _ _).from _) (Kp.of_below (fun k hk=>Nat.lt_of_lt_of_le (HKL.out k hk) HI.out.1.2) hbz) ?_ ⟨W.heap.size,HI.out.1.2,Row1.of (Blk.new _ _ _),?_⟩
  ·obtain ⟨⟨⟨h1,h2,h3⟩,h4⟩,h5⟩:=HI.out
   exact ⟨⟨⟨⟨h1.1.stay hbz,h1.2.stay hbz⟩,fun e=>⟨(h2 e).1.stay hbz,(h2 e).2.stay hbz⟩,fun e=>⟨(h3 e).1.stay hbz,(h3 e).2.stay hbz⟩⟩,Nat.le_trans h4 hbz.size⟩,h5.trans (hbz.mono h5.size)⟩
  ·simp
 case body =>
  rintro l pre x a' W hl ⟨r,hr⟩ ⟨⟨⟨⟨hr1,hr2⟩,hi0,_⟩,hsw⟩,hb⟩ ⟨Bx,hBx,hX,rfl⟩ hp
  obtain rfl:pre=[]:=List.eq_nil_of_length_eq_zero (by omega)
  obtain rfl:x=0:=Subsingleton.elim _ _
  have HSW:Hid (W3.heap.size≤W.heap.size):=hsw
  have HR:Hid ((Row1 W g2 27 [.pointer (some ⟨A.gb,0,none⟩)] ∧ Row1 W g3 3 [.int .i64 0])∧Row1 W g6 3 [.int .i64 1099511627776] ∧ Row1 W g7 4 [.bool false]):=⟨⟨hr1,hr2⟩,hi0 rfl⟩
  have HBW:Hid (Below w.heap.size w W):=hb
  have HBK:Hid (Brk B A W age D con cur hand):=HB.out.stay hb
  have hmx:Tryz.prog.follows .mixedOrders=true:=by kernel_rfl
  have HM5:Hid (Row1 W Bx 36 [.int .i64 0,.int .i64 0,.slice (some ⟨A.gt,0,none⟩) 1 A.ct]):=hX
  clear hr1 hr2 hb hp hi0 hsw hr hX
  have k1:W.cell? ⟨Bx,1,none⟩=some (.int .i64 0):=HM5.out.cell 1 rfl
  have k2:W.cell? ⟨g3,0,none⟩=some (.int .i64 0):=HR.out.1.2.cell 0 rfl
  have k3:W.cell? ⟨g2,0,none⟩=some (.pointer (some ⟨A.gb,0,none⟩)):=HR.out.1.1.cell 0 rfl
  have k4:W.cell? ⟨A.gb,10,none⟩=some (.map (some A.ms)):=HBK.out.core.bro.cell 10 rfl
  have hlk:=look_seat HBK.out.core.seats (t:=1) (by omega)
  rw [show (getX [(1,Value.pointer (some ⟨A.gst,0,none⟩))] (1:Int)).getD (.pointer none)=.pointer (some ⟨A.gst,0,none⟩) from rfl] at hlk
  obtain ⟨wvx,hdx⟩:=HBK.out.disk
  have HDX:Hid (Disk W B A.g A.gsd wvx D):=hdx
  have HIS:=br_sisOn6 W B A.g A.gsd wvx D A.gst A.gc con cur hand hdx HBK.out.core.cells HBK.out.core.seat HV.out.1
  clear hdx
  gi_wp2_with fail
  refine ⟨trivial,?_⟩
  refine (CallsIn.inRound l (callsIn_wide.2 HIS)).mono ?_
  rintro e w6 ⟨rfl,hb6⟩
  have HX6:Hid (Below W.heap.size W w6):=hb6
  clear hb6 HIS k1 k2 k3 k4 hlk
  have HXD:Hid (Below w6.heap.size w6 w6.drew):=(Below.refl _ _).drew
  have HXW:Hid (Below W.heap.size W w6.drew):=HX6.out.trans (HXD.out.mono HX6.out.size)
  have HAK:=br_sacked w6.drew B A.g A.gsd wvx D A.gst A.gc con cur hand (HDX.out.stay HXW.out) (HBK.out.stay HXW.out).core.cells (HBK.out.stay HXW.out).core.seat 0 HV.out.2
  have HS6:Hid (∀ w',Below w6.heap.size w6 w'→w'.cell? ⟨g6,0,none⟩=some (.int .i64 1099511627776)∧w'.cell? ⟨g2,0,none⟩=some (.pointer (some ⟨A.gb,0,none⟩))∧w'.cell? ⟨A.gb,10,none⟩=some (.map (some A.ms))∧(Instr.lookup 77 (.map (some A.ms)) (.int .i64 1) false).run Tryz.prog w'=.ok (.pointer (some ⟨A.gst,0,none⟩)) w'):=fun w' hb=>⟨((HR.out.2.1.stay HX6.out).stay hb).cell 0 rfl,((HR.out.1.1.stay HX6.out).stay hb).cell 0 rfl,((HBK.out.stay HX6.out).stay hb).core.bro.cell 10 rfl,look_seat ((HBK.out.stay HX6.out).stay hb).core.seats (t:=1) (by omega)⟩
  gi_wp2_with fail
  have HMM:Hid (∀ i,i≠9→∀ L w',SL (fun w'=>(w'.cell? ⟨g6,0,none⟩=some (.int .i64 1099511627776))∧(w'.cell? ⟨g2,0,none⟩=some (.pointer (some ⟨A.gb,0,none⟩)))∧(w'.cell? ⟨A.gb,10,none⟩=some (.map (some A.ms)))∧((Instr.lookup 77 (.map (some A.ms)) (.int .i64 1) false).run Tryz.prog w'=.ok (.pointer (some ⟨A.gst,0,none⟩)) w')) 9 (L.setIfInBounds i true) w'↔SL (fun w'=>(w'.cell? ⟨g6,0,none⟩=some (.int .i64 1099511627776))∧(w'.cell? ⟨g2,0,none⟩=some (.pointer (some ⟨A.gb,0,none⟩)))∧(w'.cell? ⟨A.gb,10,none⟩=some (.map (some A.ms)))∧((Instr.lookup 77 (.map (some A.ms)) (.int .i64 1) false).run Tryz.prog w'=.ok (.pointer (some ⟨A.gst,0,none⟩)) w')) 9 L w'):=SL.ind _ 9
  refine wp_region_R (S:=SL (fun w'=>(w'.cell? ⟨g6,0,none⟩=some (.int .i64 1099511627776))∧(w'.cell? ⟨g2,0,none⟩=some (.pointer (some ⟨A.gb,0,none⟩)))∧(w'.cell? ⟨A.gb,10,none⟩=some (.map (some A.ms)))∧((Instr.lookup 77 (.map (some A.ms)) (.int .i64 1) false).run Tryz.prog w'=.ok (.pointer (some ⟨A.gst,0,none⟩)) w')) 9) hmx (by kernel_rfl) (fun h=>by obtain ⟨_,_,h⟩:=h;exact h) (fun _=>(HS6.out _ HXD.out)) (fun hS0 => ?_)
  refine tkL (i:=0) 9 (some 27) (v:=?_) hS0 (HMM.out 0 (by decide)) ?_ ?_
  rotate_left
  ·(intro wS hSw;obtain ⟨L,hL,hSL⟩:=hSw;obtain ⟨y0,y1,y2,y3⟩:=hSL hL;clear hSL;go_simp;try with_reducible rfl)
  try simp only [Act.put,List.setIfInBounds_toArray,List.set_cons_zero,List.set_cons_succ]
  refine tkL (i:=1) 9 (some 28) (v:=?_) hS0 (HMM.out 1 (by decide)) ?_ ?_
  rotate_left
  ·(intro wS hSw;obtain ⟨L,hL,hSL⟩:=hSw;obtain ⟨y0,y1,y2,y3⟩:=hSL hL;clear hSL;go_simp;try with_reducible rfl)
  try simp only [Act.put,List.setIfInBounds_toArray,List.set_cons_zero,List.set_cons_succ]
  refine tkL (i:=2) 9 (some 29) (v:=?_) hS0 (HMM.out 2 (by decide)) ?_ ?_
  rotate_left
  ·(intro wS hSw;obtain ⟨L,hL,hSL⟩:=hSw;obtain ⟨y0,y1,y2,y3⟩:=hSL hL;clear hSL;go_simp;try with_reducible rfl)
  try simp only [Act.put,List.setIfInBounds_toArray,List.set_cons_zero,List.set_cons_succ]
  refine tkL (i:=3) 9 (some 30) (v:=?_) hS0 (HMM.out 3 (by decide)) ?_ ?_
  rotate_left
  ·(intro wS hSw;obtain ⟨L,hL,hSL⟩:=hSw;obtain ⟨y0,y1,y2,y3⟩:=hSL hL;clear hSL;go_simp;try with_reducible rfl)
  try simp only [Act.put,List.setIfInBounds_toArray,List.set_cons_zero,List.set_cons_succ]
  refine tkL (i:=4) 9 (some 31) (v:=?_) hS0 (HMM.out 4 (by decide)) ?_ ?_
  rotate_left
  ·(intro wS hSw;obtain ⟨L,hL,hSL⟩:=hSw;obtain ⟨y0,y1,y2,y3⟩:=hSL hL;clear hSL;go_simp;try with_reducible rfl)
  try simp only [Act.put,List.setIfInBounds_toArray,List.set_cons_zero,List.set_cons_succ]
  refine tkL (i:=5) 9 (some 32) (v:=?_) hS0 (HMM.out 5 (by decide)) ?_ ?_
  rotate_left
  ·(intro wS hSw;obtain ⟨L,hL,hSL⟩:=hSw;obtain ⟨y0,y1,y2,y3⟩:=hSL hL;clear hSL;go_simp;try with_reducible rfl)
  try simp only [Act.put,List.setIfInBounds_toArray,List.set_cons_zero,List.set_cons_succ]
  refine tkL (i:=6) 9 (some 33) (v:=?_) hS0 (HMM.out 6 (by decide)) ?_ ?_
  rotate_left
  ·(intro wS hSw;obtain ⟨L,hL,hSL⟩:=hSw;obtain ⟨y0,y1,y2,y3⟩:=hSL hL;clear hSL;go_simp;try with_reducible rfl)
  try simp only [Act.put,List.setIfInBounds_toArray,List.set_cons_zero,List.set_cons_succ]
  refine anyL_one (i:=7) (by kernel_rfl) rfl (fun K' hK => ?_)
  go_simp
  refine HAK.mono ?_
  rintro e w7 ⟨rfl,hb7⟩
  have HX7:Hid (Below w6.heap.size w6 w7):=HXD.out.trans (hb7.mono HXD.out.size)
  have s7:=HS6.out w7 HX7.out
  clear hb7 HAK
  refine hK.out _ _ (fun _=>s7) (fun hS1 => ?_)
  clear hK K'
  try simp only [Act.put,List.getElem_toArray,List.getElem_cons_succ,List.getElem_cons_zero,List.setIfInBounds_toArray,List.set_cons_zero,List.set_cons_succ]
  have hmin:(min 1099511627776 0:Int)=0:=by decide
  refine anyL_one (i:=8) (by kernel_rfl) rfl (fun K' hK => ?_)
  go_simp
  refine hK.out _ _ hS1 (fun hS2 => ?_)
  clear hK K'
  try simp only [Act.put,List.getElem_toArray,List.getElem_cons_succ,List.getElem_cons_zero,List.setIfInBounds_toArray,List.set_cons_zero,List.set_cons_succ]
  have HX07:Hid (Below W.heap.size W w7):=HX6.out.trans (HX7.out.mono HX6.out.size)
  have HR6:Hid (Row1 w7 g6 3 [.int .i64 1099511627776]):=HR.out.2.1.stay HX07.out
  have HR7:Hid (Row1 w7 g7 4 [.bool false]):=HR.out.2.2.stay HX07.out
  have HNE:Hid (g2≠g6∧g2≠g7∧g3≠g6∧g3≠g7∧g6≠g7∧w.heap.size≤g6∧w.heap.size≤g7):=by
   have h3:=HGG.out
   exact ⟨by omega,by omega,by omega,by omega,by omega,by omega,by omega⟩
  have c6:w7.cell? ⟨g6,0,none⟩=some (.int .i64 1099511627776):=HR6.out.cell 0 rfl
  have f6:w7.frozen? ⟨g6,0,none⟩=false:=HR6.out.free 0
  refine anyL_one (i:=9) (by kernel_rfl) rfl (fun K' hK => ?_)
  go_simp
  refine hK.out _ _ SL.gone (fun hS3 => ?_)
  clear hK K' c6 f6
  try simp only [Act.put,List.getElem_toArray,List.getElem_cons_succ,List.getElem_cons_zero,List.setIfInBounds_toArray,List.set_cons_zero,List.set_cons_succ]
  have HR7b:Hid (Row1 (w7.setCell ⟨g6,0,none⟩ (.int .i64 0)) g7 4 [.bool false]):=HR7.out.other (Ne.symm HNE.out.2.2.2.2.1)
  have c7:(w7.setCell ⟨g6,0,none⟩ (.int .i64 0)).cell? ⟨g7,0,none⟩=some (.bool false):=HR7b.out.cell 0 rfl
  have f7:(w7.setCell ⟨g6,0,none⟩ (.int .i64 0)).frozen? ⟨g7,0,none⟩=false:=HR7b.out.free 0
  refine anyL_one (i:=10) (by kernel_rfl) rfl (fun K' hK => ?_)
  go_simp
  refine hK.out _ _ SL.gone (fun hS4 => ?_)
  clear hK K' c7 f7
  try simp only [Act.put,List.getElem_toArray,List.getElem_cons_succ,List.getElem_cons_zero,List.setIfInBounds_toArray,List.set_cons_zero,List.set_cons_succ]
  refine anyL_done (by kernel_rfl) ?_ _
  refine ⟨(((ko_below HX07.out).trans (KeepsOthers.setCell _ _ _)).trans (KeepsOthers.setCell _ _ _)).from _,((Kp.of_below (fun k hk=>Nat.lt_of_lt_of_le (HKL.out k hk) HSW.out) HX07.out).trans (Kp.set HK6.out.1 0 _)).trans (Kp.set HK6.out.2 0 _),⟨⟨⟨((HR.out.1.1.stay HX07.out).other HNE.out.1).other HNE.out.2.1,((HR.out.1.2.stay HX07.out).other HNE.out.2.2.1).other HNE.out.2.2.2.1⟩,fun e=>(by cases e),fun _=>⟨(HR6.out.set 0 _).other HNE.out.2.2.2.2.1,HR7b.out.set 0 _⟩⟩,by rw [World.size_setCell,World.size_setCell];exact Nat.le_trans HSW.out HX07.out.size⟩,((HBW.out.trans (HX07.out.mono HBW.out.size)).setCell (p:=⟨g6,0,none⟩) HNE.out.2.2.2.2.2.1 _).setCell (p:=⟨g7,0,none⟩) HNE.out.2.2.2.2.2.2 _⟩
 case done =>
  rintro DD xs W hD rfl ⟨⟨⟨⟨hr1,hr2⟩,_,hi1⟩,_⟩,hb⟩ hK
  have HI1:=hi1 (by decide)
  have hne:Nonempty (BlwW W):=⟨⟨W,Below.refl _ _⟩⟩
  have c6:∀ p:BlwW W,p.W.cell? ⟨g6,0,none⟩=some (.int .i64 0):=fun p=>(HI1.1.stay p.ok).cell 0 rfl
  have c7:∀ p:BlwW W,p.W.cell? ⟨g7,0,none⟩=some (.bool true):=fun p=>(HI1.2.stay p.ok).cell 0 rfl
  have HBW:Hid (Below w.heap.size w W):=hb
  have HDD:Hid (W.heap[DD]? = some (.deferred (some []))∧w.heap.size≤DD):=⟨hK,Nat.le_trans HW3.out hD⟩
  clear hr1 hr2 hb hi1 HI1 hK hD
  go_wp2_with fail
  refine wp_region_noPanic ?_
  refine wp_region_blw (by kernel_rfl) (by kernel_rfl) ?_
  repeat (go_big_quiet_step (first | fail))
  refine wpQuiet_nil ?_
  intro _ hw'
  obtain ⟨p3,hw''⟩:=hw'
  subst hw''
  refine NoPanic.normal ?_
  have hK3:p3.W.heap[DD]? = some (.deferred (some [])):=(p3.ok.block DD (heap_lt HDD.out.1)).trans HDD.out.1
  clear c6 c7 hne
  go_wp2
  refine ⟨by simp,.inl ⟨_,_,rfl,run_takeDeferred hK3,?_⟩⟩
  exact ⟨_,results_tmp2 rfl _ _ _,rfl,(HBW.out.trans (p3.ok.mono HBW.out.size)).trans (belowK_b (w:=w) (Nat.le_refl _) p3.W DD _ _ HDD.out.2 hK3 rfl rfl)⟩
 case stop =>
  rintro D c pre W _ _ h _
  exact h.elim
end Go.Proofs.YtoiennkfdjnkbaaGreatDoor
