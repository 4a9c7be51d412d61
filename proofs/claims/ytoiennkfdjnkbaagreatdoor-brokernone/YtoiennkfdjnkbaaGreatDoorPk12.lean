import Derived.Test.YtoiennkfdjnkbaaGreatDoorPk11
set_option maxRecDepth 100000
set_option maxHeartbeats 8000000
namespace Go.Proofs.YtoiennkfdjnkbaaGreatDoor
section
open Go.RowKit
theorem evl_keep0 (w:World) (base g gs:Nat) (wv:Value) (D:Dk) (gl gc b m ag:Nat) (uv:Value) (hi rel:Nat) (L:List Rc) (rv:Value) (s:Sg) (h:Lg w base g gs wv D gl gc b m ag [] uv hi rel L rv) :
  Calls Tryz.prog 95 #[.pointer (some ⟨gl,0,none⟩),.agg (sgc s).toArray] w fun e w'=>e=.returned (.tuple #[])∧Hid (∃ uv',Lg w' base g gs wv D gl gc b m ag [s] uv' hi rel L rv)∧Hid (Kt w w')∧Below base w w':=by
 obtain ⟨au,cu,hv⟩:=h.used.val
 have hv':uv=.slice au 0 cu:=hv
 subst hv'
 have HBS:Hid (base≤w.heap.size):=h.sz
 obtain ⟨at_,num,sh,en⟩:=s
 have hsg:sgc ⟨at_,num,sh,en⟩=[.int .i64 (at_:Int),.int .i64 (num:Int),.int .i64 (sh:Int),.int .i64 (en:Int)]:=rfl
 rw [hsg]
 obtain ⟨W1,HW1⟩:∃ W1,Hid (W1=w.alloc (.cells #[.int .i64 (at_:Int),.int .i64 (num:Int),.int .i64 (sh:Int),.int .i64 (en:Int)] 169)):=⟨_,rfl⟩
 have HB1:Hid (Below w.heap.size w W1):=by (show Below _ _ _);rw [HW1.out];exact below_alloc _ _
 have HK1:Hid (Blk W1 w.heap.size #[.int .i64 (at_:Int),.int .i64 (num:Int),.int .i64 (sh:Int),.int .i64 (en:Int)] 169):=by (show Blk _ _ _ _);rw [HW1.out];exact Blk.new _ _ _
 have HG1:Hid (Lg W1 base g gs wv D gl gc b m ag [] (.slice au 0 cu) hi rel L rv):=h.below HB1.out
 have HBB:Hid (Below base w W1):=HB1.out.mono h.sz
 have c5:W1.cell? ⟨gl,5,none⟩=some (.slice au 0 cu):=Blk.cell HG1.out.log 5 rfl
 have k0:W1.cell? ⟨w.heap.size,0,none⟩=some (.int .i64 (at_:Int)):=HK1.out.cell 0 rfl
 have k1:W1.cell? ⟨w.heap.size,1,none⟩=some (.int .i64 (num:Int)):=HK1.out.cell 1 rfl
 have k2:W1.cell? ⟨w.heap.size,2,none⟩=some (.int .i64 (sh:Int)):=HK1.out.cell 2 rfl
 have k3:W1.cell? ⟨w.heap.size,3,none⟩=some (.int .i64 (en:Int)):=HK1.out.cell 3 rfl
 clear h hv hsg
 go_enter Tryz.func95,Tryz.ntmps95
 go_upto_region 1 with fail
 rw [← HW1.out]
 go_wp2_with fail
 go_region
 all_goals
  obtain ⟨W2,HW2⟩:∃ W2,Hid (W2=W1.drew):=⟨_,rfl⟩
  have HBD:Hid (Below W1.heap.size W1 W2):=by (show Below _ _ _);rw [HW2.out];exact (Below.refl _ _).drew
  have HG2:Hid (Lg W2 base g gs wv D gl gc b m ag [] (.slice au 0 cu) hi rel L rv):=HG1.out.below HBD.out
  have HK2:Hid (Blk W2 w.heap.size #[.int .i64 (at_:Int),.int .i64 (num:Int),.int .i64 (sh:Int),.int .i64 (en:Int)] 169):=HK1.out.stay HBD.out
  have HB2:Hid (Below base w W2):=HBB.out.trans (HBD.out.mono HG1.out.sz)
  rw [← HW2.out]
  clear c5 k0 k1 k2 k3
  have c5:W2.cell? ⟨gl,5,none⟩=some (.slice au 0 cu):=Blk.cell HG2.out.log 5 rfl
  have c5b:(W2.alloc (.cells #[.int .i64 (at_:Int),.int .i64 (num:Int),.int .i64 (sh:Int),.int .i64 (en:Int)] 169)).cell? ⟨gl,5,none⟩=some (.slice au 0 cu):=Blk.cell (HG2.out.log.stay (below_alloc _ _)) 5 rfl
  have k0:W2.cell? ⟨w.heap.size,0,none⟩=some (.int .i64 (at_:Int)):=HK2.out.cell 0 rfl
  have k1:W2.cell? ⟨w.heap.size,1,none⟩=some (.int .i64 (num:Int)):=HK2.out.cell 1 rfl
  have k2:W2.cell? ⟨w.heap.size,2,none⟩=some (.int .i64 (sh:Int)):=HK2.out.cell 2 rfl
  have k3:W2.cell? ⟨w.heap.size,3,none⟩=some (.int .i64 (en:Int)):=HK2.out.cell 3 rfl
  obtain ⟨W4,HW4⟩:∃ W4,Hid (W4=(W2.alloc (.cells #[.int .i64 (at_:Int),.int .i64 (num:Int),.int .i64 (sh:Int),.int .i64 (en:Int)] 169)).drew):=⟨_,rfl⟩
  have HBW4:Hid (Below W2.heap.size W2 W4):=by (show Below _ _ _);rw [HW4.out];exact (below_alloc _ _).drew
  have HG4:Hid (Lg W4 base g gs wv D gl gc b m ag [] (.slice au 0 cu) hi rel L rv):=HG2.out.below HBW4.out
  have HKN:Hid (Blk W4 W2.heap.size #[.int .i64 (at_:Int),.int .i64 (num:Int),.int .i64 (sh:Int),.int .i64 (en:Int)] 169):=by (show Blk _ _ _ _);rw [HW4.out];exact (Blk.new W2 _ _).stay (Below.refl _ _).drew
  have HS4:Hid (base≤W4.heap.size):=HG4.out.sz
  have HKW:Hid (Kt w W4):=((Kt.of_below HB1.out).trans (Kt.of_below HBD.out)).trans (Kt.of_below HBW4.out)
  have HB4:Hid (Below base w W4):=HB2.out.trans (HBW4.out.mono HG2.out.sz)
  go_wp2_with fail
  go_region_law (refine step_append_sg rfl (.tmp 37) (.tmp 39) rfl base _ [] rfl (by rw [← HW4.out];exact HG4.out.used) W2.heap.size 1 ⟨at_,num,sh,en⟩ rfl (by rw [← HW4.out];exact HKN.out) (Nat.zero_le _) (by rw [← HW4.out];exact HS4.out) ?_;rw [← HW4.out];intro v5 w5 hs5 hg5 hb5;obtain ⟨hG5,hB5,hL5,hK5⟩:=HG4.out.more hs5 hg5;have d5:w5.cell? ⟨gl,5,none⟩=some (.slice au 0 cu):=Blk.cell hL5 5 rfl;have f5:w5.frozen? ⟨gl,5,none⟩=false:=Blk.free hL5 5;have HG5:Hid (Lg (w5.setCell ⟨gl,5,none⟩ v5) base g gs wv D gl gc b m ag [⟨at_,num,sh,en⟩] v5 hi rel L rv):=hG5;have HB5:Hid (Below base w (w5.setCell ⟨gl,5,none⟩ v5)):=(HB4.out.trans hb5).trans hB5;have HK5:Hid (Kt w (w5.setCell ⟨gl,5,none⟩ v5)):=HKW.out.trans hK5;obtain ⟨a5,c5',hv5⟩:=hs5.val;have hv5':v5=.slice a5 1 c5':=hv5;subst hv5';clear hs5 hg5 hb5 hG5 hB5 hL5 hK5 hv5)
  all_goals
   go_returns
   exact ⟨rfl,⟨_,HG5.out⟩,HK5,HB5.out⟩
end
section
open Go.RowKit
theorem infoSg4:(Tryz.prog.info? 169).map (·.size)=some 4:=by kernel_rfl
theorem results_beginE {w:World} {tmps:Array Value} {g:Nat} {cs:List Value} {v:Value} (h2:tmps[2]?.getD undef=.pointer (some ⟨g,0,none⟩)) (h3:tmps[3]?.getD undef=v) (k:Blk w g cs.toArray 169) (hl:cs.length=4):(results Tryz.f143 tmps).run Tryz.prog w=.ok (.tuple #[.agg cs.toArray,v]) w:=by
 have hr:=run_loadVar_mid (P:=Tryz.prog) w g 0 169 cs _ (k.range 0 cs (fun j v hj=>by simpa using hj)) Tryz.underlying169 rfl (by rw [hl];exact infoSg4)
 simp [results,Tryz.results143,h2,h3,hr,asAddr]
theorem Mv.fresh {w w':World} {base g gs:Nat} (h:Mv w w' base g gs) (hb:base≤w.heap.size) (i:Nat) (v:Value):Mv w (w'.setCell ⟨w.heap.size,i,none⟩ v) base g gs :=
 ⟨h.low.setCell hb _,fun k cs t fr h1 h2 h3 h4=>by
  rw [heap_setCell_other w' ⟨w.heap.size,i,none⟩ k v (fun e=>by have e':k=w.heap.size:=e;have:=heap_lt h3;omega)]
  exact h.block k cs t fr h1 h2 h3 h4,fun k o h1 h2 h3 h4=>by
  rw [heap_setCell_other w' ⟨w.heap.size,i,none⟩ k v (fun e=>by have e':k=w.heap.size:=e;have:=heap_lt h3;omega)]
  exact h.other k o h1 h2 h3 h4⟩
theorem Lg.aside {w:World} {base g gs:Nat} {wv:Value} {D:Dk} {gl gc b m ag:Nat} {U:List Sg} {uv:Value} {hi rel:Nat} {L:List Rc} {rv:Value} {k:Nat} {cs:Array Value} (h:Lg w base g gs wv D gl gc b m ag U uv hi rel L rv) (hb:Blk w k cs 169) (hne:some k≠uv.ownBlock) (i:Nat) (v:Value):Lg (w.setCell ⟨k,i,none⟩ v) base g gs wv D gl gc b m ag U uv hi rel L rv :=
 have hk:Kt w (w.setCell ⟨k,i,none⟩ v):=(Kt.refl w).set hb (.inr (.inl rfl)) i v
 ⟨h.disk.kt hk,Blk.other h.log _ _ (blk_ne h.log hb (by decide)),hk.keep h.cells (by decide) (by decide) (by decide),row_set h.used hne,h.recs.set hb (.inr rfl),h.bl⟩
def headL (num hi:Nat):List Nat:=layE 1 true (KeyM.key (KeyM.up (num:Int))++KeyM.key (KeyM.up (hi:Int)))
theorem evl_begin0 (w:World) (base g gs:Nat) (wv:Value) (D:Dk) (gl gc b m ag:Nat) (uv:Value) (hi rel:Nat) (L:List Rc) (rv:Value) (D1:Dk) (wb:Bool) (h:Lg w base g gs wv D gl gc b m ag [] uv hi rel L rv) (hb:b≤1000) (hm1:1≤m) (hhi:hi≤1099511627776) (hw:D.waits.length≤900000000) (hwp:wipeL D 16 (b+2) false=(D1,wb,0)) (hsy:syncE D1=0) (hws:(syncD D1).waits.length<1000000000) (hwr:writeE (syncD D1) ((b+2:Nat):Int) (headL 1 hi)=0) :
  Calls Tryz.prog 143 #[.pointer (some ⟨gl,0,none⟩)] w fun e w'=>e=.returned (.tuple #[.agg (sgc ⟨b+2,1,hi,1⟩).toArray,.int .i64 0])∧Hid (∃ wv',Lg w' base g gs wv' (writeD (syncD D1) ((b+2:Nat):Int) (headL 1 hi)) gl gc b m ag [] uv hi rel L rv)∧Mv w w' base g gs:=by
 obtain ⟨au,cu,hv⟩:=h.used.val
 have hv':uv=.slice au 0 cu:=hv
 subst hv'
 have HBS:Hid (base≤w.heap.size):=h.sz
 have HNE:Hid (some w.heap.size≠(Value.slice au 0 cu).ownBlock):=fun e=>by have:=(h.used.lt _ e.symm).2;omega
 obtain ⟨P,hP⟩:∃ P,P=b+2:=⟨_,rfl⟩
 rw [← hP] at hwp hwr ⊢
 obtain ⟨W1,HW1⟩:∃ W1,Hid (W1=w.alloc (.cells #[.int .i64 0,.int .i64 0,.int .i64 0,.int .i64 0] 169)):=⟨_,rfl⟩
 have HB1:Hid (Below w.heap.size w W1):=by (show Below _ _ _);rw [HW1.out];exact below_alloc _ _
 have HK1:Hid (Blk W1 w.heap.size #[.int .i64 0,.int .i64 0,.int .i64 0,.int .i64 0] 169):=by (show Blk _ _ _ _);rw [HW1.out];exact Blk.new _ _ _
 have HG1:Hid (Lg W1 base g gs wv D gl gc b m ag [] (.slice au 0 cu) hi rel L rv):=h.below HB1.out
 have HBB:Hid (Mv w W1 base g gs):=Mv.of_below g gs HB1.out h.sz
 have HUN:=evl_unused0 W1 gl g gc b m ag hi rel au cu rv HG1.out.log hb hm1
 rw [← hP] at HUN
 obtain ⟨Q,hQ⟩:∃ Q,Q=P+16:=⟨_,rfl⟩
 have q1:(P:Int)+16=(Q:Int):=by omega
 have q2:IntKind.i64.wrap (Q:Int)=(Q:Int):=by rw [IntKind.wrap_i64];omega
 have HPQ:Hid (P≤Q∧Q≤100000∧Q - P=16):=by (show _∧_∧_);omega
 have HWP:Hid (wipeL D 16 P false=(D1,wb,0)):=hwp
 have HSY:Hid (syncE D1=0):=hsy
 have HWR:Hid (writeE (syncD D1) (P:Int) (headL 1 hi)=0):=hwr
 have HWS:Hid ((syncD D1).waits.length<1000000000):=hws
 have HWW:Hid (D.waits.length≤900000000):=hw
 clear h hv hwp hsy hwr hws hw hP hQ
 go_enter Tryz.func143,Tryz.ntmps143
 go_upto_region 1 with fail
 rw [← HW1.out]
 go_wp2_with fail
 refine HUN.mono ?_
 rintro e w2 ⟨rfl,hb2⟩
 have HG2:Hid (Lg w2 base g gs wv D gl gc b m ag [] (.slice au 0 cu) hi rel L rv):=HG1.out.below hb2
 have HK2:Hid (Blk w2 w.heap.size #[.int .i64 0,.int .i64 0,.int .i64 0,.int .i64 0] 169):=HK1.out.stay hb2
 have HB2:Hid (Mv w w2 base g gs):=HBB.out.trans (Mv.of_below g gs hb2 HG1.out.sz)
 have c5:w2.cell? ⟨gl,5,none⟩=some (.slice au 0 cu):=Blk.cell HG2.out.log 5 rfl
 have HWI:=evl_wipe w2 base g gs wv D gl gc b m ag hi rel (.slice au 0 cu) rv P Q HG2.out.disk HG2.out.log HPQ.out.1 HPQ.out.2.1 (by have:=HPQ.out;have:=HWW.out;omega)
 rw [HPQ.out.2.2,HWP.out] at HWI
 simp only at HWI
 clear hb2 HUN
 go_wp2_with fail
 refine HWI.mono ?_
 rintro e w3 ⟨rfl,hd3,hm3⟩
 obtain ⟨wv3,hd3⟩:=hd3.out
 have HG3:Hid (Lg w3 base g gs wv3 D1 gl gc b m ag [] (.slice au 0 cu) hi rel L rv):=HG2.out.mv hm3 hd3
 have HK3:Hid (Blk w3 w.heap.size #[.int .i64 0,.int .i64 0,.int .i64 0,.int .i64 0] 169):=hm3.keep HK2.out (HG2.out.disk.off HK2.out (by decide) (by decide)).1 (HG2.out.disk.off HK2.out (by decide) (by decide)).2 (by decide)
 have HB3:Hid (Mv w w3 base g gs):=HB2.out.trans hm3
 have c0:w3.cell? ⟨gl,0,none⟩=some (.pointer (some ⟨g,0,none⟩)):=Blk.cell HG3.out.log 0 rfl
 have HSN:=disk_Sync w3 base g gs wv3 D1 HG3.out.disk
 rw [HSY.out] at HSN
 clear hd3 hm3 HWI c5
 go_wp2_with fail
 refine HSN.mono ?_
 rintro e w4 ⟨rfl,hd4,hm4⟩
 obtain ⟨wv4,hd4⟩:=hd4.out
 have HG4:Hid (Lg w4 base g gs wv4 (syncD D1) gl gc b m ag [] (.slice au 0 cu) hi rel L rv):=HG3.out.mv hm4 hd4
 have HK4:Hid (Blk w4 w.heap.size #[.int .i64 0,.int .i64 0,.int .i64 0,.int .i64 0] 169):=hm4.keep HK3.out (HG3.out.disk.off HK3.out (by decide) (by decide)).1 (HG3.out.disk.off HK3.out (by decide) (by decide)).2 (by decide)
 have HB4:Hid (Mv w w4 base g gs):=HB3.out.trans hm4
 have c0:w4.cell? ⟨gl,0,none⟩=some (.pointer (some ⟨g,0,none⟩)):=Blk.cell HG4.out.log 0 rfl
 have c6:w4.cell? ⟨gl,6,none⟩=some (.int .i64 (hi:Int)):=Blk.cell HG4.out.log 6 rfl
 have HBD:Hid (Below w4.heap.size w4 w4.drew):=(Below.refl _ _).drew
 have HG5:Hid (Lg w4.drew base g gs wv4 (syncD D1) gl gc b m ag [] (.slice au 0 cu) hi rel L rv):=HG4.out.below HBD.out
 have HHI:Hid (hi≤1099511627776):=hhi
 have HRW:Hid (∀ (W W':World) (q:Nat) (v:Value) (E:Dk),Disk W base g gs v E→Blk W q (vb (headL 1 hi)).toArray 243→Mv W W' base g gs→Rd W' (some ⟨q,0,none⟩) 64 (headL 1 hi)):=fun W W' q v E hd hq hM=>by
  have hsec:Sec (headL 1 hi):=layE_sec (by omega) (by simp [KeyM.key]) (fun x hx=>by
   rcases List.mem_append.1 hx with hx | hx
   ·exact KeyM.key_byte _ x hx
   ·exact KeyM.key_byte _ x hx)
  have hb':=hM.keep hq (hd.off hq (by decide) (by decide)).1 (hd.off hq (by decide) (by decide)).2 (by decide)
  have:=Rd.of_blk hb' hsec.byte
  rw [hsec.len] at this
  exact this
 clear hd4 hm4 HSN q1 q2
 go_wp2_with fail
 go_region_held3 (fun w'=>w'.cell? ⟨gl,0,none⟩=some (.pointer (some ⟨g,0,none⟩))∧w'.cell? ⟨gl,6,none⟩=some (.int .i64 (hi:Int))) (first | exact ⟨c0,c6⟩ | exact s6 | exact s7 | exact s8 | fail)
  (first
   | (go_at_call 191;refine (evl_head w4.drew 1 (hi:Int) (by omega) (by have:=HHI.out;omega)).mono ?_;rintro e w6 ⟨ht6,hb6⟩;obtain ⟨a6,c6',rfl,ho6⟩:=ht6.out;have HG6:Hid (Lg w6 base g gs wv4 (syncD D1) gl gc b m ag [] (.slice au 0 cu) hi rel L rv):=HG5.out.below hb6;have HR6:Hid (Rd w6 a6 16 (KeyM.key (KeyM.up 1)++KeyM.key (KeyM.up (hi:Int)))):=ho6.rd;have HB6:Hid (Below w4.heap.size w4 w6):=HBD.out.trans hb6;have s6:w6.cell? ⟨gl,0,none⟩=some (.pointer (some ⟨g,0,none⟩))∧w6.cell? ⟨gl,6,none⟩=some (.int .i64 (hi:Int)):=⟨Blk.cell HG6.out.log 0 rfl,Blk.cell HG6.out.log 6 rfl⟩;clear ht6 ho6 hb6)
   | (go_at_call 94;refine (evl_lay 1 true a6 16 c6' _ w6 HR6.out (by omega)).mono ?_;rintro e w7 ⟨q7,rfl,hq7,hk7,hb7⟩;have HG7:Hid (Lg w7 base g gs wv4 (syncD D1) gl gc b m ag [] (.slice au 0 cu) hi rel L rv):=HG6.out.below hb7;have HQ7:Hid (Blk w7 q7 (vb (headL 1 hi)).toArray 243):=hk7;have HB7:Hid (Below w4.heap.size w4 w7):=HB6.out.trans (hb7.mono HB6.out.size);have s7:w7.cell? ⟨gl,0,none⟩=some (.pointer (some ⟨g,0,none⟩))∧w7.cell? ⟨gl,6,none⟩=some (.int .i64 (hi:Int)):=⟨Blk.cell HG7.out.log 0 rfl,Blk.cell HG7.out.log 6 rfl⟩;clear hq7 hk7 hb7)
   | (go_at_call 93;refine (disk_Write w7 base g gs wv4 (syncD D1) (P:Int) (some ⟨q7,0,none⟩) 64 64 (headL 1 hi) HG7.out.disk (fun W' hM=>HRW.out w7 W' q7 wv4 (syncD D1) HG7.out.disk HQ7.out hM) (by omega) HWS.out).mono ?_;rw [HWR.out];rintro e w8 ⟨rfl,hd8,hm8⟩;have HD8:Hid (∃ wv',Lg w8 base g gs wv' (writeD (syncD D1) (P:Int) (headL 1 hi)) gl gc b m ag [] (.slice au 0 cu) hi rel L rv):=hd8.out.elim fun wv8 hq8=>⟨wv8,HG7.out.mv hm8 hq8⟩;have HM8:Hid (Mv w7 w8 base g gs):=hm8;have s8:w8.cell? ⟨gl,0,none⟩=some (.pointer (some ⟨g,0,none⟩))∧w8.cell? ⟨gl,6,none⟩=some (.int .i64 (hi:Int)):=HD8.out.elim fun wv8 hl8=>⟨Blk.cell hl8.log 0 rfl,Blk.cell hl8.log 6 rfl⟩;clear hd8 hm8))
 have HK8:Hid (Blk w8 w.heap.size #[.int .i64 0,.int .i64 0,.int .i64 0,.int .i64 0] 169):=by
  have hk7:=HK4.out.stay HB7.out
  exact HM8.out.keep hk7 (HG7.out.disk.off hk7 (by decide) (by decide)).1 (HG7.out.disk.off hk7 (by decide) (by decide)).2 (by decide)
 have HB8:Hid (Mv w w8 base g gs):=(HB4.out.trans (Mv.of_below g gs HB7.out HG4.out.sz)).trans HM8.out
 have d6:w8.cell? ⟨gl,6,none⟩=some (.int .i64 (hi:Int)):=s8.2
 have k0:w8.cell? ⟨w.heap.size,0,none⟩=some (.int .i64 0):=HK8.out.cell 0 rfl
 have k1:w8.cell? ⟨w.heap.size,1,none⟩=some (.int .i64 0):=HK8.out.cell 1 rfl
 have k2:w8.cell? ⟨w.heap.size,2,none⟩=some (.int .i64 0):=HK8.out.cell 2 rfl
 have k3:w8.cell? ⟨w.heap.size,3,none⟩=some (.int .i64 0):=HK8.out.cell 3 rfl
 have f0:=HK8.out.free 0
 have f1:=HK8.out.free 1
 have f2:=HK8.out.free 2
 have f3:=HK8.out.free 3
 clear s6 s7 s8 c0 c6
 go_wp2
 refine bodyPost_ret (results_beginE (cs:=[.int .i64 (P:Int),.int .i64 1,.int .i64 (hi:Int),.int .i64 1]) (by rfl) (by rfl) ((((HK8.out.set 0 _).set 1 _).set 2 _).set 3 _) rfl) rfl ?_
 obtain ⟨wv8,hl8⟩:=HD8.out
 have k1':=HK8.out.set 0 (.int .i64 (P:Int))
 have k2':=k1'.set 1 (.int .i64 1)
 have k3':=k2'.set 2 (.int .i64 (hi:Int))
 exact ⟨rfl,⟨wv8,(((hl8.aside HK8.out HNE.out 0 _).aside k1' HNE.out 1 _).aside k2' HNE.out 2 _).aside k3' HNE.out 3 _⟩,(((HB8.out.fresh HBS.out 0 _).fresh HBS.out 1 _).fresh HBS.out 2 _).fresh HBS.out 3 _⟩
end
section
open Go.RowKit
theorem results_segForE {w:World} {tmps:Array Value} {g:Nat} {cs:List Value} {v:Value} (h2:tmps[4]?.getD undef=.pointer (some ⟨g,0,none⟩)) (h3:tmps[5]?.getD undef=v) (k:Blk w g cs.toArray 169) (hl:cs.length=4):(results Tryz.f92 tmps).run Tryz.prog w=.ok (.tuple #[.agg cs.toArray,v]) w:=by
 have hr:=run_loadVar_mid (P:=Tryz.prog) w g 0 169 cs _ (k.range 0 cs (fun j v hj=>by simpa using hj)) Tryz.underlying169 rfl (by rw [hl];exact infoSg4)
 simp [results,Tryz.results92,h2,h3,hr,asAddr]
theorem evl_segFor0 (w:World) (base g gs:Nat) (wv:Value) (D:Dk) (gl gc b m ag:Nat) (uv:Value) (hi rel:Nat) (L:List Rc) (rv:Value) (D1:Dk) (wb:Bool) (n:Int) (h:Lg w base g gs wv D gl gc b m ag [] uv hi rel L rv) (hb:b≤1000) (hm1:1≤m) (hhi:hi≤1099511627776) (hw:D.waits.length≤900000000) (hwp:wipeL D 16 (b+2) false=(D1,wb,0)) (hsy:syncE D1=0) (hws:(syncD D1).waits.length<1000000000) (hwr:writeE (syncD D1) ((b+2:Nat):Int) (headL 1 hi)=0) :
  Calls Tryz.prog 92 #[.pointer (some ⟨gl,0,none⟩),.int .i64 n] w fun e w'=>e=.returned (.tuple #[.agg (sgc ⟨b+2,1,hi,1⟩).toArray,.int .i64 0])∧Hid (∃ wv',Lg w' base g gs wv' (writeD (syncD D1) ((b+2:Nat):Int) (headL 1 hi)) gl gc b m ag [] uv hi rel L rv)∧Mv w w' base g gs:=by
 obtain ⟨au,cu,hv⟩:=h.used.val
 have hv':uv=.slice au 0 cu:=hv
 subst hv'
 have HBS:Hid (base≤w.heap.size):=h.sz
 have HNE:Hid (some w.heap.size≠(Value.slice au 0 cu).ownBlock):=fun e=>by have:=(h.used.lt _ e.symm).2;omega
 obtain ⟨W1,HW1⟩:∃ W1,Hid (W1=w.alloc (.cells #[.int .i64 0,.int .i64 0,.int .i64 0,.int .i64 0] 169)):=⟨_,rfl⟩
 have HB1:Hid (Below w.heap.size w W1):=by (show Below _ _ _);rw [HW1.out];exact below_alloc _ _
 have HK1:Hid (Blk W1 w.heap.size #[.int .i64 0,.int .i64 0,.int .i64 0,.int .i64 0] 169):=by (show Blk _ _ _ _);rw [HW1.out];exact Blk.new _ _ _
 have HG1:Hid (Lg W1 base g gs wv D gl gc b m ag [] (.slice au 0 cu) hi rel L rv):=h.below HB1.out
 have HBB:Hid (Mv w W1 base g gs):=Mv.of_below g gs HB1.out h.sz
 have HBG:=evl_begin0 W1 base g gs wv D gl gc b m ag (.slice au 0 cu) hi rel L rv D1 wb HG1.out hb hm1 hhi hw hwp hsy hws hwr
 have c5:W1.cell? ⟨gl,5,none⟩=some (.slice au 0 cu):=Blk.cell HG1.out.log 5 rfl
 clear h hv hwp hsy hws hwr
 go_enter Tryz.func92,Tryz.ntmps92
 go_upto_region 1 with fail
 rw [← HW1.out]
 go_wp2_with fail
 refine HBG.mono ?_
 rintro e w2 ⟨rfl,hg2,hm2⟩
 have HD2:Hid (∃ wv',Lg w2 base g gs wv' (writeD (syncD D1) ((b+2:Nat):Int) (headL 1 hi)) gl gc b m ag [] (.slice au 0 cu) hi rel L rv):=hg2
 have HK2:Hid (Blk w2 w.heap.size #[.int .i64 0,.int .i64 0,.int .i64 0,.int .i64 0] 169):=hm2.keep HK1.out (HG1.out.disk.off HK1.out (by decide) (by decide)).1 (HG1.out.disk.off HK1.out (by decide) (by decide)).2 (by decide)
 have HM2:Hid (Mv w w2 base g gs):=HBB.out.trans hm2
 obtain ⟨P,HP⟩:∃ P,Hid (P=b+2):=⟨_,rfl⟩
 have hsg:sgc ⟨b+2,1,hi,1⟩=[.int .i64 (P:Int),.int .i64 1,.int .i64 (hi:Int),.int .i64 1]:=by rw [HP.out];rfl
 rw [hsg]
 have k0:w2.cell? ⟨w.heap.size,0,none⟩=some (.int .i64 0):=HK2.out.cell 0 rfl
 have k1:w2.cell? ⟨w.heap.size,1,none⟩=some (.int .i64 0):=HK2.out.cell 1 rfl
 have k2:w2.cell? ⟨w.heap.size,2,none⟩=some (.int .i64 0):=HK2.out.cell 2 rfl
 have k3:w2.cell? ⟨w.heap.size,3,none⟩=some (.int .i64 0):=HK2.out.cell 3 rfl
 have f0:=HK2.out.free 0
 have f1:=HK2.out.free 1
 have f2:=HK2.out.free 2
 have f3:=HK2.out.free 3
 clear hg2 hm2 hsg HBG c5
 go_wp2
 refine bodyPost_ret (results_segForE (cs:=[.int .i64 (P:Int),.int .i64 1,.int .i64 (hi:Int),.int .i64 1]) (by rfl) (by rfl) ((((HK2.out.set 0 _).set 1 _).set 2 _).set 3 _) rfl) rfl ?_
 obtain ⟨wv8,hl8⟩:=HD2.out
 have k1':=HK2.out.set 0 (.int .i64 (P:Int))
 have k2':=k1'.set 1 (.int .i64 1)
 have k3':=k2'.set 2 (.int .i64 (hi:Int))
 exact ⟨by have hp:P=b+2:=HP.out;subst hp;rfl,⟨wv8,(((hl8.aside HK2.out HNE.out 0 _).aside k1' HNE.out 1 _).aside k2' HNE.out 2 _).aside k3' HNE.out 3 _⟩,(((HM2.out.fresh HBS.out 0 _).fresh HBS.out 1 _).fresh HBS.out 2 _).fresh HBS.out 3 _⟩
end
section
open Go.RowKit
theorem infoPartB:(Tryz.prog.info? 173).map (fun i=>(i.zero,i.size,i.bytes))=some (some (.agg #[.int .u8 0,.bool false,.slice none 0 0]),3,32):=by kernel_rfl
theorem wpList_append_pt {w:World} {ops:Array Oper} {rest:List Oper} {o:Oper} {act:Act} {Q:Exit→Act→World→Prop} (hgd:o.guard=none) (s x:Operand)
  (ho:o.op=.call { callee:=.builtin .append,args:=#[s,x],argTypes:=#[165,165] })
  (base:Nat) (v:Value) (hs:act.eval s=v) (hown:w.ownsRow base 173 3 v 0 []) (k c:Nat) (p:List Value) (hp:p.length=3) (h1:∀ u∈p,u.oneCell'=true) (hx:act.eval x=.slice (some ⟨k,0,none⟩) 1 c)
  (hb:Blk w k p.toArray 173) (hbase:base≤w.heap.size)
  (h:∀ v' w',w'.ownsRow base 173 3 v' 1 p→Below base w w'→wpList Tryz.prog ops Q rest (act.put o.dst v') w'):wpList Tryz.prog ops Q (o :: rest) act w:=by
 obtain ⟨i0,hi,hz0,hz1,hz2⟩:=info_parts infoPartB
 refine wpList_plain hgd fun K hK => ?_
 refine wp_append_own w s x 165 ho base 173 i0 (.agg #[.int .u8 0,.bool false,.slice none 0 0]) 3 32 Tryz.underlying165 hi hz0 hz1 hz2 (by rfl) (by decide) v 0 [] hs hown ⟨k,0,none⟩ 1 c p hx (by rw [hp]) (fun j u hj => ?_) h1 (by unfold maxLen;omega) (by omega) hbase fun v' w' h1 h2 _ => ?_
 ·have e:(⟨k,0,none⟩:Addr).add j=⟨k,0+j,none⟩:=by unfold Addr.add;split <;> simp_all
  rw [e,Nat.zero_add]
  exact hb.cell j (by simpa using hj)
 ·exact hK _ _ (h v' w' (by simpa using h1) ((Below.refl _ _).grown h2 hbase (fun k hk=>(hown.lt k hk).1)))
theorem evl_cut1 (w:World) (g0 off n c:Nat) (hn1:1≤n) (hn:n≤59) (hc:n≤c) :
  Calls Tryz.prog 90 #[.slice (some ⟨g0,off,none⟩) n c] w fun e w'=>Hid (∃ v,e=.returned v∧w'.ownsRow w.heap.size 173 3 v 1 [.int .u8 2,.bool true,.slice (some ⟨g0,off,none⟩) n n])∧Below w.heap.size w w':=by
 have a1:(0:Int)<(n:Int):=by omega
 have a2:¬ (59:Int)<(n:Int):=by omega
 have a3:(n:Int)≤(c:Int):=by omega
 have a4:(0:Int)≤(n:Int):=by omega
 have a5:¬ n=0:=by omega
 have e1:((n:Int) == (n:Int))=true:=by simp
 have e2:(if (n:Int)<59 then (n:Int) else 59)=(n:Int):=by split <;> omega
 have HBK:Hid (Blk (w.alloc (.cells #[.int .u8 2,.bool true,.slice (some ⟨g0,off,none⟩) n n] 173)) w.heap.size [.int .u8 2,.bool true,.slice (some ⟨g0,off,none⟩) n n].toArray 173):=Blk.new _ _ _
 have HB:Hid (Below w.heap.size w (w.alloc (.cells #[.int .u8 2,.bool true,.slice (some ⟨g0,off,none⟩) n n] 173))):=below_alloc _ _
 go_enter Tryz.func90,Tryz.ntmps90
 go_wp2_with fail
 refine wp_loop_rounds 2 ?_
 rw [rounds_succ]
 go_wp2_with (guard_target =~ wpList _ _ _ (Oper.mk (some 31) _ _ _ _ _ :: _) _ _;refine wpList_append_pt rfl (.tmp 18) (.tmp 30) rfl w.heap.size _ rfl (World.ownsRow_nil _ _ _ _) w.heap.size 1 [.int .u8 2,.bool true,.slice (some ⟨g0,off,none⟩) n n] rfl (by intro u hu;simp only [List.mem_cons,List.not_mem_nil,or_false] at hu;rcases hu with rfl | rfl | rfl <;> rfl) rfl HBK.out HB.out.size ?_)
 intro v5 w5 ho5 hb5
 have HO5:Hid (w5.ownsRow w.heap.size 173 3 v5 1 [.int .u8 2,.bool true,.slice (some ⟨g0,off,none⟩) n n]):=ho5
 have HB5:Hid (Below w.heap.size w w5):=HB.out.trans hb5
 clear ho5 hb5
 go_wp2_with fail
 rw [rounds_succ]
 go_wp2
 go_returns
 exact ⟨⟨v5,rfl,HO5.out⟩,HB5.out⟩
end
section
open Go.RowKit
theorem evl_bytes_Clone (a:Option Addr) (n c:Nat) (bs:List Nat) (w:World) (hr:Rd w a n bs) (hl:n≤140737488351232) :
  Calls Tryz.prog 96 #[.slice a n c] w fun e w'=>∃ a' c',e=.returned (.slice a' n c')∧Own w' w.heap.size a' n c' bs∧Below w.heap.size w w':=by
 have HR:Hid (Rd w a n bs):=hr
 cases a with
 | none =>
  have hz:n=0:=by
   rcases hr.cells with h0 | ⟨_,_,h,_⟩
   ·exact h0
   ·cases h
  have HB:Hid (bs=[]):=List.eq_nil_of_length_eq_zero (by rw [hr.size];exact hz)
  subst hz
  have hq:∀ W:World,(binOp .eql 22 (.slice none 0 c) (.slice none 0 0)).run Tryz.prog W=.ok (.bool true) W:=fun W=>by
   simp only [binOp]
   rw [Sem.run_bind,run_equal_slice_nil W _ _ _ _ _ Tryz.underlying22]
   rfl
  clear hr
  go_enter Tryz.func96,Tryz.ntmps96
  go_wp2
  go_ret
  rw [HB.out]
  exact ⟨none,0,rfl,Own.none0 _ _,Below.refl _ _⟩
 | some ad =>
  have hq:∀ W:World,(binOp .eql 22 (.slice (some ad) n c) (.slice none 0 0)).run Tryz.prog W=.ok (.bool false) W:=fun W=>by
   simp only [binOp]
   rw [Sem.run_bind,run_equal_slice_nil W _ _ _ _ _ Tryz.underlying22]
   rfl
  clear hr
  go_enter Tryz.func96,Tryz.ntmps96
  go_wp2_with (at_builtin;refine wpList_append_rd rfl (.tmp 5) (.tmp 6) rfl w.heap.size (some ⟨w.heap.size,0,none⟩) 0 0 [] rfl (Own.empty w) (some ad) n c bs rfl (HR.out.below (below_alloc _ _)) (by simp) (by omega) (by simp) ?_)
  intro a5 c5 w5 ho5 hg5 hb5
  have HO5:Hid (Own w5 w.heap.size a5 n c5 bs):=by
   show Own _ _ _ _ _ _
   simpa using ho5
  have HB5:Hid (Below w.heap.size w w5):=(below_alloc w (.cells #[] 5)).trans hb5
  clear ho5 hg5 hb5
  go_wp2
  go_ret
  refine ⟨a5,c5,?_,HO5.out,HB5.out⟩
  simp
end
end Go.Proofs.YtoiennkfdjnkbaaGreatDoor
