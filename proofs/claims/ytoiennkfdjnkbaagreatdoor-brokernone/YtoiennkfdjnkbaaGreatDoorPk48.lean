import Derived.Test.YtoiennkfdjnkbaaGreatDoorBr26
set_option maxRecDepth 100000
set_option maxHeartbeats 8000000
namespace Go.Proofs.YtoiennkfdjnkbaaGreatDoor
section
open Go.RowKit Go.Shelf Go.Maps
attribute [local go_sem] Oper.semAt_some
theorem br_refresh0 (B:Nat) (A:Ad) (w:World) (age:Nat) (D:Dk) (con:Bool) (cur hand:Int) (h:Brk B A w age D con cur hand) (h6:(getB D 0 16 0).1=6) (h0:(getB D 0 16 8).1=0):Calls Tryz.prog 61 #[.pointer (some ⟨A.gb,0,none⟩),.pointer (some ⟨A.q,0,none⟩),.int .i64 1] w fun e w'=>e=.returned (.tuple #[])∧Below w.heap.size w w':=by
 have HB:Hid (Brk B A w age D con cur hand):=h
 have HV:Hid ((getB D 0 16 0).1=6∧(getB D 0 16 8).1=0):=⟨h6,h0⟩
 have HLA:=br_last0 B A w age D con cur hand h
 clear h h6 h0
 go_enter Tryz.func61,Tryz.ntmps61
 go_wp2_with fail
 refine HLA.mono ?_
 rintro e w1 ⟨rfl,hb1⟩
 have HX1:Hid (Below w.heap.size w w1):=hb1
 have c0:w1.cell? ⟨A.q,0,none⟩=some (.int .i64 0):=(HB.out.stay hb1).core.part.cell 0 rfl
 have HBE:=br_behind0 B A w1 age D con cur hand (HB.out.stay hb1) HV.out.1 HV.out.2
 clear hb1 HLA
 go_wp2_with fail
 refine HBE.mono ?_
 rintro e w2 ⟨rfl,hb2⟩
 have HX2:Hid (Below w.heap.size w w2):=HX1.out.trans (hb2.mono HX1.out.size)
 have HSE:=br_seek0 B A w2 age D con cur hand (HB.out.stay HX2.out)
 clear hb2 HBE c0
 go_wp2_with fail
 refine HSE.mono ?_
 rintro e w3 ⟨rfl,hb3⟩
 have HX3:Hid (Below w.heap.size w w3):=HX2.out.trans (hb3.mono HX2.out.size)
 clear hb3 HSE
 go_wp2
 go_returns
 exact ⟨rfl,HX3.out⟩
theorem Brk.same {B:Nat} {A:Ad} {w w':World} {age:Nat} {D:Dk} {con:Bool} {cur hand:Int} (h:Brk B A w age D con cur hand) (ho:Og [] w w') (h1:w'.heap[A.ms]? = w.heap[A.ms]?) (h2:w'.heap[A.mp]? = w.heap[A.mp]?) (h3:w'.heap[A.mm]? = w.heap[A.mm]?) (h4:w'.heap[A.m]? = w.heap[A.m]?):Brk B A w' age D con cur hand:=by
 obtain ⟨wv,uv,rv,hl⟩:=h.log
 have hc:=h.core
 refine ⟨⟨hc.bro.og ho (by decide),hc.tpo.og ho (by decide) (by decide) (by decide),owns_same hc.seats h1,hc.seat.og ho (by decide),hc.cells.og ho (by decide),owns_same hc.parts h2,hc.part.og ho (by decide),owns_same hc.mem h3,hc.mcells.og ho (by decide),hc.low,hc.ne,Nat.le_trans hc.bw ho.size⟩,h.strm.same0 ho.size ?_ h4,⟨wv,uv,rv,hl.og ⟨ho.size,fun k cs t fr h0 _=>ho.block k cs t fr h0 (by simp)⟩⟩,h.dage,h.down⟩
 rw [show w.heap[A.s]? = _ from h.strm.blk]
 exact ho.block _ _ _ _ h.strm.blk (by simp)
theorem Disk.ogE {w w':World} {base g gs:Nat} {wv:Value} {D:Dk} (h:Disk w base g gs wv D) (ho:Og [24] w w'):Disk w' base g gs wv D:=⟨ho.block g _ _ _ h.blk (by decide),ho.block gs _ _ _ h.srow (by decide),own_og h.wrow ho (by decide),h.bg,h.bs,h.sz,h.sec,h.wts,h.tr,h.ag,h.wl⟩
theorem Lg.ogE {w w':World} {base g gs:Nat} {wv:Value} {D:Dk} {gl gc b m ag:Nat} {U:List Sg} {uv:Value} {hi rel:Nat} {L:List Rc} {rv:Value} (h:Lg w base g gs wv D gl gc b m ag U uv hi rel L rv) (ho:Og [24] w w'):Lg w' base g gs wv D gl gc b m ag U uv hi rel L rv :=
 ⟨h.disk.ogE ho,ho.block gl _ _ _ h.log (by decide),ho.block gc _ _ _ h.cells (by decide),own_og h.used ho (by decide),⟨own_og h.recs.row ho (by decide),fun r hr=>(h.recs.bd r hr).og ho (by decide)⟩,h.bl⟩
theorem Brk.sameE {B:Nat} {A:Ad} {w w':World} {age:Nat} {D:Dk} {con:Bool} {cur hand:Int} (h:Brk B A w age D con cur hand) (ho:Og [24] w w') (h1:w'.heap[A.ms]? = w.heap[A.ms]?) (h2:w'.heap[A.mp]? = w.heap[A.mp]?) (h3:w'.heap[A.mm]? = w.heap[A.mm]?) (h4:w'.heap[A.m]? = w.heap[A.m]?):Brk B A w' age D con cur hand:=by
 obtain ⟨wv,uv,rv,hl⟩:=h.log
 have hc:=h.core
 refine ⟨⟨hc.bro.og ho (by decide),hc.tpo.og ho (by decide) (by decide) (by decide),owns_same hc.seats h1,hc.seat.og ho (by decide),hc.cells.og ho (by decide),owns_same hc.parts h2,hc.part.og ho (by decide),owns_same hc.mem h3,hc.mcells.og ho (by decide),hc.low,hc.ne,Nat.le_trans hc.bw ho.size⟩,h.strm.same0 ho.size ?_ h4,⟨wv,uv,rv,hl.ogE ho⟩,h.dage,h.down⟩
 rw [show w.heap[A.s]? = _ from h.strm.blk]
 exact ho.block _ _ _ _ h.strm.blk (by decide)
theorem results_Tick {w:World} {tmps:Array Value} {g:Nat} {v:Value} (h4:tmps[4]?.getD undef=.pointer (some ⟨g,0,none⟩)) (k:w.cell? ⟨g,0,none⟩=some v):(results Tryz.f21 tmps).run Tryz.prog w=.ok v w:=by
 simp [results,Tryz.results21,go_sem,h4,k]
theorem Row1.heap {l:List TypeId} {w w':World} {g:Nat} {e:TypeId} {cs:List Value} (h:Row1 w g e cs) (hf:Fg l w w') (he:e ∉ l):w'.heap[g]? = w.heap[g]?:=by
 obtain ⟨cur,h1,_⟩:=h
 exact (hf.block g cur e _ h1 he).trans h1.symm
theorem ko_fg {l:List TypeId} {W W':World} (h:Fg l W W'):KeepsOthers W W':=⟨h.size,fun k o hk ho=>h.other k o hk (fun cs t fr e=>by subst e;cases ho)⟩
theorem og_own {W W':World} {row:Option Nat} {N:Nat} (hg:W.grownBy W' row) (hr:∀ r,row=some r→N≤r∧∃ o:Obj,W.heap[r]? = some o∧o.isCells=false):Og [] W W':=⟨hg.size,fun k cs t fr h0 _=>by
 rw [hg.block k (heap_lt h0) (fun e=>by
  obtain ⟨_,o,ho,hc⟩:=hr k e.symm
  cases h0.symm.trans ho
  cases hc)]
 exact h0⟩
theorem br_Tick1 (B:Nat) (A:Ad) (w:World) (age:Nat) (D:Dk) (h:Brk B A w age D false 0 0) (hs5:(getB D 0 16 0).1=5) (vk:Int) (hvk:(getB D 0 16 8).1=vk) (D2 D3:Dk) (hj:JoinOk D D2 D3) (m3:(getB D3 32 16 0).1=3) (k0:(getB D3 32 16 8).1=0) (s6:(getB D3 0 16 0).1=6) (k8:(getB D3 0 16 8).1=0):Calls Tryz.prog 21 #[.pointer (some ⟨A.gb,0,none⟩),.int .i64 1] w fun e w'=>e=.returned (.int .i64 0)∧Brk B A w' age D3 false 0 0∧Below B w w':=by
 have HB:Hid (Brk B A w age D false 0 0):=h
 have HJ:Hid (JoinOk D D2 D3∧(getB D 0 16 0).1=5∧(getB D 0 16 8).1=vk):=⟨hj,hs5,hvk⟩
 have HV3:Hid ((getB D3 32 16 0).1=3∧(getB D3 32 16 8).1=0∧(getB D3 0 16 0).1=6∧(getB D3 0 16 8).1=0):=⟨m3,k0,s6,k8⟩
 obtain ⟨g2,Hg2⟩:∃ n,Hid (n=w.heap.size):=⟨_,rfl⟩
 obtain ⟨g4,Hg4⟩:∃ n,Hid (n=w.heap.size+1):=⟨_,rfl⟩
 obtain ⟨W1,HW1⟩:∃ W,Hid (W=(w.alloc (.cells #[.pointer (some ⟨A.gb,0,none⟩)] 27)).alloc (.cells #[.int .i64 0] 24)):=⟨_,rfl⟩
 have hba:=below_alloc w (.cells #[.pointer (some ⟨A.gb,0,none⟩)] 27)
 have hbb:=below_alloc (w.alloc (.cells #[.pointer (some ⟨A.gb,0,none⟩)] 27)) (.cells #[.int .i64 0] 24)
 have HX1:Hid (Below w.heap.size w W1):=by (show Below _ _ _);rw [HW1.out];exact hba.trans (hbb.mono hba.size)
 have HK1:Hid (Row1 W1 g2 27 [.pointer (some ⟨A.gb,0,none⟩)] ∧ Row1 W1 g4 24 [.int .i64 0]):=by
  (show _∧_);rw [HW1.out,Hg2.out,Hg4.out]
  refine ⟨Row1.of ((Blk.new w _ _).stay hbb),?_⟩
  have h1:=Blk.new (w.alloc (.cells #[.pointer (some ⟨A.gb,0,none⟩)] 27)) #[.int .i64 0] 24
  rw [World.size_alloc] at h1
  exact Row1.of h1
 have HB1:Hid (Brk B A W1 age D false 0 0):=h.stay HX1.out
 obtain ⟨wv,hd⟩:=HB1.out.disk
 have HSH:=br_shut B A.g A.gsd wv D A.gb A.gp A.cp A.gs A.cs A.ml A.mp A.ms W1 hd h.down (by have:=HB1.out.core.bro;rw [← h.dage] at this;exact this)
 have c2:W1.cell? ⟨g2,0,none⟩=some (.pointer (some ⟨A.gb,0,none⟩)):=HK1.out.1.cell 0 rfl
 have HGG:Hid (g2=w.heap.size∧g4=w.heap.size+1):=⟨Hg2.out,Hg4.out⟩
 clear h hd hj hs5 hvk m3 k0 s6 k8 hba hbb
 refine (callsIn_wide (n:=8)).1 ?_
 refine callsIn_of_wp_marks Tryz.func21 rfl trivial ?_ rfl
 simp only [Tryz.ntmps21,List.size_toArray,List.length_cons,List.length_nil,Nat.reduceAdd,Nat.reduceSub,Array.replicate_succ,Array.replicate_zero,List.push_toArray,List.append_toArray,List.nil_append,List.cons_append]
 refine wpIn_wide.2 ?_
 go_upto_region 1 with fail
 rw [← HW1.out,← Hg4.out,← Hg2.out]
 go_wp2_with fail
 refine HSH.mono ?_
 rintro e W2 ⟨rfl,hb2⟩
 have HX2:Hid (Below w.heap.size w W2):=HX1.out.trans (hb2.mono HX1.out.size)
 have HK2:Hid (Row1 W2 g2 27 [.pointer (some ⟨A.gb,0,none⟩)] ∧ Row1 W2 g4 24 [.int .i64 0]):=⟨HK1.out.1.stay hb2,HK1.out.2.stay hb2⟩
 have HB2:Hid (Brk B A W2 age D false 0 0):=HB.out.stay HX2.out
 clear hb2 HSH c2
 have c2:W2.cell? ⟨g2,0,none⟩=some (.pointer (some ⟨A.gb,0,none⟩)):=HK2.out.1.cell 0 rfl
 have HHR:=br_here A.gb A.gp A.cp A.gs A.cs A.g (age:Int) A.ml A.mp A.ms W2 HB2.out.core.bro
 go_wp2_with fail
 refine HHR.mono ?_
 rintro e W3 ⟨rfl,hx3,ht3,hf3,hb3,hs3⟩
 clear HHR c2
 have HX3:Hid (Below w.heap.size w W3):=HX2.out.trans (hb3.mono HX2.out.size)
 have HB3:Hid (Brk B A W3 age D false 0 0):=HB.out.stay HX3.out
 have HK3:Hid ((Row1 W3 g2 27 [.pointer (some ⟨A.gb,0,none⟩)] ∧ Row1 W3 g4 24 [.int .i64 0])∧Row1 W3 W2.heap.size 27 [.pointer (some ⟨A.gb,0,none⟩)] ∧ Row1 W3 (W2.heap.size+1) 40 (tpC A.gp A.cp A.gs A.cs)∧Row1 W3 (W2.heap.size+2) 152 [.func (.func 122) #[] #[.pointer (some ⟨W2.heap.size,0,none⟩)]]):=⟨⟨HK2.out.1.stay hb3,HK2.out.2.stay hb3⟩,hx3,ht3,hf3⟩
 have HSZ:Hid (W3.heap.size=W2.heap.size+3∧w.heap.size≤W3.heap.size∧B≤w.heap.size):=⟨hs3,HX3.out.size,HB.out.core.bw⟩
 obtain ⟨K,HK⟩:∃ K:Nat→Prop,Hid (K=fun k=>k=W2.heap.size∨k=W2.heap.size+1∨k=W2.heap.size+2∨k=A.gs∨k=A.gb):=⟨_,rfl⟩
 have HKL:Hid (∀ k,K k→k<W3.heap.size):=fun k hk=>by
  rw [HK.out] at hk
  have h1:=HSZ.out;have h2:=HB3.out.core.tpo.subs.lt;have h3:=HB3.out.core.bro.lt
  rcases hk with rfl | rfl | rfl | rfl | rfl <;> omega
 have HML:Hid (A.ms<W3.heap.size∧A.mp<W3.heap.size∧A.mm<W3.heap.size∧A.m<W3.heap.size):=⟨owns_lt HB3.out.core.seats,owns_lt HB3.out.core.parts,owns_lt HB3.out.core.mem,owns_lt HB3.out.strm.items⟩
 have HST:Hid (SeqStopsK Fence.wide 7 Tryz.prog 136 #[.pointer (some ⟨W2.heap.size+1,0,none⟩),.pointer (some ⟨W2.heap.size+2,0,none⟩)] (encS (fun _=>(0,0,A.gt,A.ct)) 1) (Kp K) (fun xs=>xs=asF (fun _=>true) 1 1) (fun pre=>pre <+: asF (fun _=>true) 1 1) 1 W3) :=
  one_here K (by rw [HK.out];exact .inl rfl) (by rw [HK.out];exact .inr (.inl rfl)) (by rw [HK.out];exact .inr (.inr (.inl rfl))) (by rw [HK.out];exact .inr (.inr (.inr (.inl rfl)))) (by rw [HK.out];exact .inr (.inr (.inr (.inr rfl)))) HKL.out HB3.out.core.bro hx3 ht3 hf3 HB3.out.core.tpo.subs (by decide)
 have HXB3:Hid (Below B w W3):=HX3.out.mono HB.out.core.bw
 have HSK:Hid (∀ w' age' D',Row1 w' g2 27 [.pointer (some ⟨A.gb,0,none⟩)] → Brk B A w' age' D' false 0 0→w'.cell? ⟨g2,0,none⟩=some (.pointer (some ⟨A.gb,0,none⟩))∧w'.cell? ⟨A.gb,10,none⟩=some (.map (some A.ms))∧(Instr.lookup 77 (.map (some A.ms)) (.int .i64 1) false).run Tryz.prog w'=.ok (.pointer (some ⟨A.gst,0,none⟩)) w'):=fun w' age' D' h1 h2=>⟨h1.cell 0 rfl,h2.core.bro.cell 10 rfl,look_seat h2.core.seats (t:=1) (by omega)⟩
 clear hx3 ht3 hf3 hb3 hs3
 go_wp2_with fail
 refine (wpIn_wide (n:=8)).1 ?_
 refine' wpIn_rangeFunc_ownG rfl (by decide) (gf:=136) (lb:=#[.pointer (some ⟨W2.heap.size+1,0,none⟩),.pointer (some ⟨W2.heap.size+2,0,none⟩)]) rfl trivial (enters_of Tryz.func136 (by kernel_rfl) rfl) HST.out Kp.trans (fun W l o o' hl=>Kp.put HKL.out W l o o' hl) (Below.refl _ _) (fun _=>rfl)
  (fun (pre:List (Fin 1)) W=>((Row1 W g2 27 [.pointer (some ⟨A.gb,0,none⟩)] ∧ Row1 W g4 24 [.int .i64 0])∧Row1 W W2.heap.size 27 [.pointer (some ⟨A.gb,0,none⟩)] ∧ Row1 W (W2.heap.size+1) 40 (tpC A.gp A.cp A.gs A.cs)∧Row1 W (W2.heap.size+2) 152 [.func (.func 122) #[] #[.pointer (some ⟨W2.heap.size,0,none⟩)]])∧((pre=[] → Brk B A W age D false 0 0)∧(pre≠[] → Brk B A W age D3 false 0 0))∧W3.heap.size≤W.heap.size∧Below B w W) (fun _ _ _=>False) (fun s A' B' row hs hg hr => ?own) (fun _ _ _ _ _ hs _ _=>hs)
  ⟨HK3.out,⟨fun _=>HB3.out,fun h=>absurd rfl h⟩,Nat.le_refl _,HXB3.out⟩ _ ?assign ?body ?done ?stop
 case own =>
  have ho:=og_own hg hr
  have hsm:∀ k,k<W3.heap.size→B'.heap[k]? = A'.heap[k]?:=fun k hk=>hg.block k (Nat.lt_of_lt_of_le hk hs.2.2.1) (fun e=>by have:=(hr k e.symm).1;omega)
  refine ⟨⟨⟨hs.1.1.1.og ho (by decide),hs.1.1.2.og ho (by decide)⟩,hs.1.2.1.og ho (by decide),hs.1.2.2.1.og ho (by decide),hs.1.2.2.2.og ho (by decide)⟩,⟨fun e=>(hs.2.1.1 e).same ho (hsm _ HML.out.1) (hsm _ HML.out.2.1) (hsm _ HML.out.2.2.1) (hsm _ HML.out.2.2.2),fun e=>(hs.2.1.2 e).same ho (hsm _ HML.out.1) (hsm _ HML.out.2.1) (hsm _ HML.out.2.2.1) (hsm _ HML.out.2.2.2)⟩,Nat.le_trans hs.2.2.1 hg.size,?_⟩
  exact hs.2.2.2.grown hg (Nat.le_trans HSZ.out.2.2 (Nat.le_trans HSZ.out.2.1 hs.2.2.1)) (fun r e=>Nat.le_trans (Nat.le_trans HSZ.out.2.2 HSZ.out.2.1) (hr r e).1)
 case assign =>
  intro l x W K hK
  unfold encS
  gi_wp2
  exact hK
 case body =>
  rintro l pre x W ⟨hrows,⟨hi0,_⟩,hsw,hb⟩ hp
  obtain rfl:pre=[]:=List.eq_nil_of_length_eq_zero (by omega)
  obtain rfl:x=0:=Subsingleton.elim _ _
  have HR:Hid ((Row1 W g2 27 [.pointer (some ⟨A.gb,0,none⟩)] ∧ Row1 W g4 24 [.int .i64 0])∧Row1 W W2.heap.size 27 [.pointer (some ⟨A.gb,0,none⟩)] ∧ Row1 W (W2.heap.size+1) 40 (tpC A.gp A.cp A.gs A.cs)∧Row1 W (W2.heap.size+2) 152 [.func (.func 122) #[] #[.pointer (some ⟨W2.heap.size,0,none⟩)]]):=hrows
  have HSW:Hid (W3.heap.size≤W.heap.size):=hsw
  have HBW:Hid (Below B w W):=hb
  have HBK:Hid (Brk B A W age D false 0 0):=hi0 rfl
  have hmx:Tryz.prog.follows .mixedOrders=true:=by kernel_rfl
  obtain ⟨z0,z1,hlk⟩:=HSK.out W age D hrows.1.1 (hi0 rfl)
  have HSE:=br_settle0 B A W age D 0 0 vk HBK.out HJ.out.2.2
  clear hrows hi0 hsw hb hp
  try simp only [Fin.isValue,Fin.val_zero]
  gi_wp2_with fail
  refine ⟨trivial,?_⟩
  refine (CallsIn.inRound l (callsIn_wide.2 HSE)).mono ?_
  rintro e w6 ⟨rfl,hb6⟩
  have HX6:Hid (Below W.heap.size W w6):=hb6
  have HBK6:Hid (Brk B A w6 age D false 0 0):=HBK.out.stay hb6
  clear hb6 HSE z0 z1 hlk
  obtain ⟨wv6,hd6⟩:=HBK6.out.disk
  have HD6:Hid (Disk w6 B A.g A.gsd wv6 D):=hd6
  have HXD:Hid (Below w6.heap.size w6 w6.drew):=(Below.refl _ _).drew
  have HSP:=br_speak1 B A w6.drew age D false 0 0 (HBK6.out.stay HXD.out) HJ.out.2.1 D2 D3 HJ.out.1
  have s6:=HSK.out w6.drew age D ((HR.out.1.1.stay HX6.out).stay HXD.out) (HBK6.out.stay HXD.out)
  clear hd6
  gi_wp2_with fail
  refine wp_region_R (S:=fun (_:Array Bool) (w':World)=>(w'.cell? ⟨g2,0,none⟩=some (.pointer (some ⟨A.gb,0,none⟩)))∧(w'.cell? ⟨A.gb,10,none⟩=some (.map (some A.ms)))∧((Instr.lookup 77 (.map (some A.ms)) (.int .i64 1) false).run Tryz.prog w'=.ok (.pointer (some ⟨A.gst,0,none⟩)) w')) hmx (by kernel_rfl) (fun h=>by obtain ⟨_,_,h⟩:=h;exact h) s6 (fun hS0 => ?_)
  refine tkL (i:=0) 7 (some 39) (v:=?_) hS0 (fun _ _=>Iff.rfl) ?_ ?_
  rotate_left
  ·(intro wS hSw;obtain ⟨L,hL,hSL⟩:=hSw;obtain ⟨y0,y1,y2⟩:=hSL;go_simp;try with_reducible rfl)
  try simp only [Act.put,List.setIfInBounds_toArray,List.set_cons_zero,List.set_cons_succ]
  refine tkL (i:=1) 2 (some 40) (v:=?_) hS0 (fun _ _=>Iff.rfl) ?_ ?_
  rotate_left
  ·(intro wS hSw;obtain ⟨L,hL,hSL⟩:=hSw;obtain ⟨y0,y1,y2⟩:=hSL;go_simp;try with_reducible rfl)
  try simp only [Act.put,List.setIfInBounds_toArray,List.set_cons_zero,List.set_cons_succ]
  refine tkL (i:=2) 3 (some 41) (v:=?_) hS0 (fun _ _=>Iff.rfl) ?_ ?_
  rotate_left
  ·(intro wS hSw;obtain ⟨L,hL,hSL⟩:=hSw;obtain ⟨y0,y1,y2⟩:=hSL;go_simp;try with_reducible rfl)
  try simp only [Act.put,List.setIfInBounds_toArray,List.set_cons_zero,List.set_cons_succ]
  refine tkL (i:=3) 4 (some 42) (v:=?_) hS0 (fun _ _=>Iff.rfl) ?_ ?_
  rotate_left
  ·(intro wS hSw;obtain ⟨L,hL,hSL⟩:=hSw;obtain ⟨y0,y1,y2⟩:=hSL;go_simp;try with_reducible rfl)
  try simp only [Act.put,List.setIfInBounds_toArray,List.set_cons_zero,List.set_cons_succ]
  refine tkL (i:=4) 6 (some 43) (v:=?_) hS0 (fun _ _=>Iff.rfl) ?_ ?_
  rotate_left
  ·(intro wS hSw;obtain ⟨L,hL,hSL⟩:=hSw;obtain ⟨y0,y1,y2⟩:=hSL;go_simp;try with_reducible rfl)
  try simp only [Act.put,List.setIfInBounds_toArray,List.set_cons_zero,List.set_cons_succ]
  refine tkL (i:=5) 6 (some 44) (v:=?_) hS0 (fun _ _=>Iff.rfl) ?_ ?_
  rotate_left
  ·(intro wS hSw;obtain ⟨L,hL,hSL⟩:=hSw;obtain ⟨y0,y1,y2⟩:=hSL;go_simp;try with_reducible rfl)
  try simp only [Act.put,List.setIfInBounds_toArray,List.set_cons_zero,List.set_cons_succ]
  refine tkL (i:=6) 7 (some 45) (v:=?_) hS0 (fun _ _=>Iff.rfl) ?_ ?_
  rotate_left
  ·(intro wS hSw;obtain ⟨L,hL,hSL⟩:=hSw;obtain ⟨y0,y1,y2⟩:=hSL;go_simp;try with_reducible rfl)
  try simp only [Act.put,List.setIfInBounds_toArray,List.set_cons_zero,List.set_cons_succ]
  refine anyL_one (i:=7) (by kernel_rfl) rfl (fun K' hK => ?_)
  go_simp
  refine HSP.mono ?_
  rintro e w7 ⟨rfl,hb7,hm7⟩
  have HB7:Hid (Brk B A w7 age D3 false 0 0):=hb7
  have HM7:Hid (Mv w6 w7 B A.g A.gsd):=(Mv.of_below _ _ HXD.out HBK6.out.core.bw).trans hm7
  have HF7:Hid (Fg lgT W w7):=(Fg.of_below HX6.out).trans (Fg.mv HD6.out HM7.out)
  have s7:=HSK.out w7 age D3 (HR.out.1.1.fg HF7.out (by decide)) hb7
  clear hb7 hm7 HSP
  refine hK.out _ _ s7 (fun hS1 => ?_)
  clear hK K'
  try simp only [Act.put,List.getElem_toArray,List.getElem_cons_succ,List.getElem_cons_zero,List.setIfInBounds_toArray,List.set_cons_zero,List.set_cons_succ]
  refine anyL_one (i:=8) (by kernel_rfl) rfl (fun K' hK => ?_)
  go_simp
  refine hK.out _ _ hS1 (fun hS2 => ?_)
  clear hK K'
  try simp only [Act.put,List.getElem_toArray,List.getElem_cons_succ,List.getElem_cons_zero,List.setIfInBounds_toArray,List.set_cons_zero,List.set_cons_succ]
  refine anyL_done (by kernel_rfl) ?_ _
  clear s6 s7
  gi_wp2
  refine ⟨(ko_fg HF7.out).from _,⟨HF7.out.size,fun k hk => ?_⟩,⟨⟨HR.out.1.1.fg HF7.out (by decide),HR.out.1.2.fg HF7.out (by decide)⟩,HR.out.2.1.fg HF7.out (by decide),HR.out.2.2.1.fg HF7.out (by decide),HR.out.2.2.2.fg HF7.out (by decide)⟩,⟨fun e=>(by cases e),fun _=>HB7.out⟩,Nat.le_trans HSW.out HF7.out.size,(HBW.out.trans (HX6.out.mono HBK.out.core.bw)).trans HM7.out.low⟩
  rw [HK.out] at hk
  rcases hk with rfl | rfl | rfl | rfl | rfl
  ·exact HR.out.2.1.heap HF7.out (by decide)
  ·exact HR.out.2.2.1.heap HF7.out (by decide)
  ·exact HR.out.2.2.2.heap HF7.out (by decide)
  ·exact HBK.out.core.tpo.subs.heap HF7.out (by decide)
  ·exact HBK.out.core.bro.heap HF7.out (by decide)
 case done =>
  rintro DD xs W hD rfl ⟨hrows,⟨_,hi1⟩,hsw,hb⟩ hK
  have HBK:Hid (Brk B A W age D3 false 0 0):=hi1 (by decide)
  have HR:Hid ((Row1 W g2 27 [.pointer (some ⟨A.gb,0,none⟩)] ∧ Row1 W g4 24 [.int .i64 0])∧Row1 W W2.heap.size 27 [.pointer (some ⟨A.gb,0,none⟩)] ∧ Row1 W (W2.heap.size+1) 40 (tpC A.gp A.cp A.gs A.cs)∧Row1 W (W2.heap.size+2) 152 [.func (.func 122) #[] #[.pointer (some ⟨W2.heap.size,0,none⟩)]]):=hrows
  have HBW:Hid (Below B w W):=hb
  have HDD:Hid (W.heap[DD]? = some (.deferred (some []))∧W3.heap.size≤DD):=⟨hK,hD⟩
  have c2:W.cell? ⟨g2,0,none⟩=some (.pointer (some ⟨A.gb,0,none⟩)):=hrows.1.1.cell 0 rfl
  have d2:W.cell? ⟨A.gb,2,none⟩=some (.slice (some ⟨A.gp,0,none⟩) 1 A.cp):=HBK.out.core.bro.cell 2 rfl
  clear hrows hi1 hsw hb hK hD
  go_wp2_with fail
  refine wp_loop_rounds 2 ?_
  rw [rounds_succ]
  clear c2 d2
  have hne:Nonempty (BlwW W):=⟨⟨W,Below.refl _ _⟩⟩
  have c2:∀ p:BlwW W,p.W.cell? ⟨g2,0,none⟩=some (.pointer (some ⟨A.gb,0,none⟩)):=fun p=>(HR.out.1.1.stay p.ok).cell 0 rfl
  have d9:∀ p:BlwW W,p.W.cell? ⟨A.gb,9,none⟩=some (.map (some A.mp)):=fun p=>(HBK.out.stay p.ok).core.bro.cell 9 rfl
  have hlk:∀ p:BlwW W,(Instr.lookup 76 (.map (some A.mp)) (.int .i64 0) false).run Tryz.prog p.W=.ok (.pointer (some ⟨A.q,0,none⟩)) p.W:=fun p=>look_part (HBK.out.stay p.ok).core.parts (t:=0) (by omega)
  have HPA:Hid (∀ p:BlwW W,Calls Tryz.prog 60 #[.pointer (some ⟨A.gb,0,none⟩),.pointer (some ⟨A.q,0,none⟩),.int .i64 1] p.W fun e w'=>e=.returned (.int .i64 0)∧Below p.W.heap.size p.W w'):=fun p=>br_pass1 B A p.W age D3 false 0 0 (HBK.out.stay p.ok) HV3.out.1 HV3.out.2.1
  go_wp2_with fail
  refine wp_region_noPanic ?_
  refine wp_region_blw (by kernel_rfl) (by kernel_rfl) ?_
  repeat (go_big_quiet_step (first | (go_at_call 60;exact Calls.blw_of (HPA.out _))))
  refine wpQuiet_nil ?_
  intro _ hw'
  obtain ⟨p4,hw''⟩:=hw'
  subst hw''
  refine NoPanic.normal ?_
  clear c2 d9 hlk hne HPA
  have HBK4:Hid (Brk B A p4.W age D3 false 0 0):=HBK.out.stay p4.ok
  have HR4:Hid (Row1 p4.W g2 27 [.pointer (some ⟨A.gb,0,none⟩)] ∧ Row1 p4.W g4 24 [.int .i64 0]):=⟨HR.out.1.1.stay p4.ok,HR.out.1.2.stay p4.ok⟩
  have c2:p4.W.cell? ⟨g2,0,none⟩=some (.pointer (some ⟨A.gb,0,none⟩)):=HR4.out.1.cell 0 rfl
  have d2:p4.W.cell? ⟨A.gb,2,none⟩=some (.slice (some ⟨A.gp,0,none⟩) 1 A.cp):=HBK4.out.core.bro.cell 2 rfl
  go_wp2_with fail
  rw [rounds_succ]
  go_wp2_with fail
  refine wp_loop_rounds 2 ?_
  rw [rounds_succ]
  clear c2 d2
  have hne:Nonempty (BlwW p4.W):=⟨⟨p4.W,Below.refl _ _⟩⟩
  have c2:∀ p:BlwW p4.W,p.W.cell? ⟨g2,0,none⟩=some (.pointer (some ⟨A.gb,0,none⟩)):=fun p=>(HR4.out.1.stay p.ok).cell 0 rfl
  have d9:∀ p:BlwW p4.W,p.W.cell? ⟨A.gb,9,none⟩=some (.map (some A.mp)):=fun p=>(HBK4.out.stay p.ok).core.bro.cell 9 rfl
  have hlk:∀ p:BlwW p4.W,(Instr.lookup 76 (.map (some A.mp)) (.int .i64 0) false).run Tryz.prog p.W=.ok (.pointer (some ⟨A.q,0,none⟩)) p.W:=fun p=>look_part (HBK4.out.stay p.ok).core.parts (t:=0) (by omega)
  have HRF:Hid (∀ p:BlwW p4.W,Calls Tryz.prog 61 #[.pointer (some ⟨A.gb,0,none⟩),.pointer (some ⟨A.q,0,none⟩),.int .i64 1] p.W fun e w'=>e=.returned (.tuple #[])∧Below p.W.heap.size p.W w'):=fun p=>br_refresh0 B A p.W age D3 false 0 0 (HBK4.out.stay p.ok) HV3.out.2.2.1 HV3.out.2.2.2
  go_wp2_with fail
  refine wp_region_noPanic ?_
  refine wp_region_blw (by kernel_rfl) (by kernel_rfl) ?_
  repeat (go_big_quiet_step (first | (go_at_call 61;exact Calls.blw_of (HRF.out _))))
  refine wpQuiet_nil ?_
  intro _ hw'
  obtain ⟨p5,hw''⟩:=hw'
  subst hw''
  refine NoPanic.normal ?_
  clear c2 d9 hlk hne HRF
  have HBK5:Hid (Brk B A p5.W age D3 false 0 0):=HBK4.out.stay p5.ok
  have HR5:Hid (Row1 p5.W g2 27 [.pointer (some ⟨A.gb,0,none⟩)] ∧ Row1 p5.W g4 24 [.int .i64 0]):=⟨HR4.out.1.stay p5.ok,HR4.out.2.stay p5.ok⟩
  go_wp2_with fail
  rw [rounds_succ]
  have hne:Nonempty (BlwW p5.W):=⟨⟨p5.W,Below.refl _ _⟩⟩
  have c2:∀ p:BlwW p5.W,p.W.cell? ⟨g2,0,none⟩=some (.pointer (some ⟨A.gb,0,none⟩)):=fun p=>(HR5.out.1.stay p.ok).cell 0 rfl
  have b0:∀ p:BlwW p5.W,p.W.cell? ⟨A.gb,0,none⟩=some (.int .i64 1):=fun p=>(HBK5.out.stay p.ok).core.bro.cell 0 rfl
  have b1:∀ p:BlwW p5.W,p.W.cell? ⟨A.gb,1,none⟩=some (.slice none 0 0):=fun p=>(HBK5.out.stay p.ok).core.bro.cell 1 rfl
  have b2:∀ p:BlwW p5.W,p.W.cell? ⟨A.gb,2,none⟩=some (.slice (some ⟨A.gp,0,none⟩) 1 A.cp):=fun p=>(HBK5.out.stay p.ok).core.bro.cell 2 rfl
  have b3:∀ p:BlwW p5.W,p.W.cell? ⟨A.gb,3,none⟩=some (.slice (some ⟨A.gs,0,none⟩) 1 A.cs):=fun p=>(HBK5.out.stay p.ok).core.bro.cell 3 rfl
  have b4:∀ p:BlwW p5.W,p.W.cell? ⟨A.gb,4,none⟩=some (.slice none 0 0):=fun p=>(HBK5.out.stay p.ok).core.bro.cell 4 rfl
  have b5:∀ p:BlwW p5.W,p.W.cell? ⟨A.gb,5,none⟩=some (.int .i64 0):=fun p=>(HBK5.out.stay p.ok).core.bro.cell 5 rfl
  have HNB:Hid (∀ p:BlwW p5.W,Calls Tryz.prog 62 #[.agg #[.int .i64 1,.slice none 0 0,.slice (some ⟨A.gp,0,none⟩) 1 A.cp,.slice (some ⟨A.gs,0,none⟩) 1 A.cs,.slice none 0 0],.int .i64 0] p.W fun e w'=>e=.returned (.slice none 0 0)∧Below p.W.heap.size p.W w'):=fun p=>br_neighbours0 1 0 _ _ _ p.W
  go_wp2_with fail
  refine wp_region_noPanic ?_
  refine wp_region_blw (by kernel_rfl) (by kernel_rfl) ?_
  repeat (go_big_quiet_step (first | (go_at_call 62;exact Calls.blw_of (HNB.out _))))
  refine wpQuiet_nil ?_
  intro _ hw'
  obtain ⟨p6,hw''⟩:=hw'
  subst hw''
  refine NoPanic.normal ?_
  clear c2 b0 b1 b2 b3 b4 b5 hne HNB
  have HBK6:Hid (Brk B A p6.W age D3 false 0 0):=HBK5.out.stay p6.ok
  have HR6:Hid (Row1 p6.W g4 24 [.int .i64 0]):=HR5.out.2.stay p6.ok
  have c4:p6.W.cell? ⟨g4,0,none⟩=some (.int .i64 0):=HR6.out.cell 0 rfl
  have f4:p6.W.frozen? ⟨g4,0,none⟩=false:=HR6.out.free 0
  go_wp2_with fail
  refine wp_loop_rounds 1 ?_
  rw [rounds_succ]
  obtain ⟨W7,HW7⟩:∃ X,Hid (X=p6.W.setCell ⟨g4,0,none⟩ (.int .i64 0)):=⟨_,rfl⟩
  have HBK7:Hid (Brk B A W7 age D3 false 0 0):=by
   have hf:Fg [24] p6.W W7:=by rw [HW7.out];exact Fg.set HR6.out (by decide) 0 _
   have hm:=fun {m n:Nat} {D:DataW Value} (h:p6.W.ownsMap Tryz.prog 3 heldV m n D)=>heap_setCell_other p6.W ⟨g4,0,none⟩ m (.int .i64 0) (fun e=>HR6.out.no_map h e.symm)
   (show Brk _ _ _ _ _ _ _ _)
   refine HBK6.out.sameE hf.og ?_ ?_ ?_ ?_
   all_goals rw [HW7.out]
   ·exact hm HBK6.out.core.seats
   ·exact hm HBK6.out.core.parts
   ·exact hm HBK6.out.core.mem
   ·exact hm HBK6.out.strm.items
  have HR7:Hid (Row1 W7 g4 24 [.int .i64 0]):=by (show Row1 _ _ _ _);rw [HW7.out];exact HR6.out.set 0 _
  have HX6:Hid (Below W.heap.size W p6.W):=(p4.ok.trans (p5.ok.mono p4.ok.size)).trans (p6.ok.mono (Nat.le_trans p4.ok.size p5.ok.size))
  have HBL:Hid (B≤g4∧g4<W3.heap.size):=⟨by have h1:=HGG.out;have h2:=HSZ.out;omega,HK3.out.1.2.lt⟩
  have HX7:Hid (Below B w W7):=by (show Below _ _ _);rw [HW7.out];exact (HBW.out.trans (HX6.out.mono HBK.out.core.bw)).setCell (p:=⟨g4,0,none⟩) HBL.out.1 _
  have hK7:W7.heap[DD]? = some (.deferred (some [])):=by
   rw [HW7.out]
   rw [heap_setCell_other p6.W ⟨g4,0,none⟩ DD _ (by have:=HDD.out.2;have:=HBL.out.2;(show DD≠g4);omega)]
   exact (HX6.out.block DD (heap_lt HDD.out.1)).trans HDD.out.1
  go_wp2
  rw [← HW7.out]
  refine ⟨by simp,.inl ⟨_,_,rfl,run_takeDeferred hK7,?_⟩⟩
  have ho:Og [] W7 (W7.putObj DD (.deferred none)):=Og.putD hK7
  have hne:∀ k,k<W3.heap.size→(W7.putObj DD (.deferred none)).heap[k]? = W7.heap[k]?:=fun k hk=>World.putObj_heap_other (by have:=HDD.out.2;omega)
  refine ⟨_,results_Tick rfl ((HR7.out.og ho (by decide)).cell 0 rfl),rfl,HBK7.out.same ho (hne _ HML.out.1) (hne _ HML.out.2.1) (hne _ HML.out.2.2.1) (hne _ HML.out.2.2.2),HX7.out.trans ((belowK_b (w:=w) (Nat.le_refl _) W7 DD _ _ (Nat.le_trans HSZ.out.2.1 HDD.out.2) hK7 rfl rfl).mono HB.out.core.bw)⟩
 case stop =>
  rintro D c pre W _ _ h _
  exact h.elim
end
section
def q5:It:=⟨5,1,[0,1,7]⟩
def l5:List Sp:=[⟨1,4,2⟩]
def p5:Pc:=⟨1,0,0,0,1,5,[⟨1,4,2⟩],[⟨5,1,[0,1,7]⟩]⟩
theorem at_l5 (u:Int):atS l5 u=if 1≤u∧u≤4 then 2 else 0:=rfl
theorem l5_right:RightS Sp.zr l5:=⟨by decide,by decide,by decide,by decide,by decide,by decide,trivial⟩
theorem l5_quiet (t:Int):atS l5 t≠1:=by
 rw [at_l5]
 split <;> decide
theorem p5_ok:TellOk p5:=⟨rfl,by kernel_rfl,l5_right,l5_quiet,fun q hq=>by
 rw [List.mem_singleton.1 hq]
 exact ⟨⟨by decide,by decide⟩,⟨by decide,by decide⟩,by decide⟩⟩
theorem joins5:Joins [] p5.spans l5:=⟨l5_right,fun t=>by
 show atS l5 t=max 0 (atS l5 t)
 rw [at_l5]
 split <;> rfl⟩
theorem learn5:learnX l5 [] p5=[q5]:=by kernel_rfl
theorem get5 (u:Int) (h:u≠5):getI [q5] u=none:=if_neg (fun e=>h e.symm)
theorem pieces5:PiecesOf l5 [q5] 1 1 5 [(⟨1,4,2⟩,zIt),(⟨5,5,1⟩,q5)]:=by
 refine ⟨⟨by decide,by decide,by decide,by decide,by decide,by decide,fun e=>absurd e (by decide),fun _=>rfl,by decide,by decide,by decide,by decide,by decide,by decide,fun _=>⟨rfl,rfl⟩,fun h=>absurd rfl h,trivial⟩,fun u => ?_,fun u => ?_⟩
 ·by_cases e:u=5
  ·subst e
   kernel_rfl
  ·have e1:seeK l5 [q5] 1 u=atS l5 u:=by
    unfold seeK
    rw [get5 u e]
   rw [e1,at_l5]
   show (if 1≤u∧u≤4 then (2:Int) else if 5≤u∧u≤5 then 1 else 0)=_
   by_cases h1:1≤u∧u≤4
   ·rw [if_pos h1,if_pos (by omega),if_pos h1]
   ·rw [if_neg h1,if_neg (by omega),if_neg h1,ite_self]
 ·by_cases e:u=5
  ·subst e
   kernel_rfl
  ·have e1:seeI [q5] 1 u=zIt:=by
    unfold seeI
    rw [get5 u e]
   rw [e1,ite_self]
   show (if 1≤u∧u≤4 then zIt else if 5≤u∧u≤5 then q5 else zIt)=zIt
   by_cases h1:1≤u∧u≤4
   ·rw [if_pos h1]
   ·rw [if_neg h1,if_neg (by omega)]
theorem tells5:tellsOf 0 1 5 [(⟨1,4,2⟩,zIt),(⟨5,5,1⟩,q5)] = [p5]:=by kernel_rfl
theorem kk5 (u:Int):kk l5 [q5] u=if u=5 then 1 else if 1≤u∧u≤4 then 2 else 0:=by
 unfold kk
 by_cases e:u=5
 ·subst e
  rfl
 ·rw [get5 u e,if_neg e]
  rfl
theorem next05:NextIs (kk l5 [q5]) (getI [q5]) 1 0 1 5 5 q5:=⟨5,by decide,fun v h1 h2=>.inl (by rw [kk5,if_neg (by omega),if_pos (by omega)]),.inl ⟨rfl,rfl,rfl,rfl,by rw [kk5,if_pos rfl],rfl,by decide⟩⟩
theorem next55:NextIs (kk l5 [q5]) (getI [q5]) 1 5 0 0 5 ⟨0,0,[]⟩:=⟨6,by decide,fun v h1 h2=>absurd h1 (by omega),.inr (.inr ⟨rfl,rfl,by decide,by rw [kk5,if_neg (by decide),if_neg (by decide)],rfl⟩)⟩
end
end Go.Proofs.YtoiennkfdjnkbaaGreatDoor
