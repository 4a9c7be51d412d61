import Derived.Test.YtoiennkfdjnkbaaGreatDoorPk09
import Derived.Deep.LoopGhost
set_option maxRecDepth 100000
set_option maxHeartbeats 8000000
namespace Go.Proofs.YtoiennkfdjnkbaaGreatDoor
section
open Go.RowKit
theorem infoRecB:(Tryz.prog.info? 178).map (fun i=>(i.zero,i.size,i.bytes))=some (some (.agg #[.int .i64 0,.slice none 0 0]),2,32):=by kernel_rfl
theorem wp_append_rc {w:World} {o:Oper} {act:Act} {K:Act→World→Prop} {Q:Exit→Act→World→Prop} (s x:Operand)
  (ho:o.op=.call { callee:=.builtin .append,args:=#[s,x],argTypes:=#[162,162] })
  (base:Nat) (v:Value) (L:List Rc) (hs:act.eval s=v) (hown:Rcs w base v L) (k c:Nat) (p:Rc) (hx:act.eval x=.slice (some ⟨k,0,none⟩) 1 c)
  (hb:Blk w k (rcc p).toArray 178) (hp:BdE w base p.a p.n p.bs) (hl:L.length≤1000000) (hbase:base≤w.heap.size)
  (h:∀ v' w',Rcs w' base v' (L++[p])→w.grownBy w' v.ownBlock→Below base w w'→Kt w w'→K (act.put o.dst v') w'):Oper.wp Tryz.prog o act w K Q:=by
 obtain ⟨i0,hi,hz0,hz1,hz2⟩:=info_parts infoRecB
 refine wp_append_own w s x 162 ho base 178 i0 (.agg #[.int .i64 0,.slice none 0 0]) 2 32 Tryz.underlying162 hi hz0 hz1 hz2 (by rfl) (by decide) v L.length (L.flatMap rcc) hs hown.row ⟨k,0,none⟩ 1 c (rcc p) hx (by rfl) (fun j u hj => ?_) (rcc_one p) (by unfold maxLen;omega) (by omega) hbase fun v' w' h1 h2 _ => ?_
 ·have e:(⟨k,0,none⟩:Addr).add j=⟨k,0+j,none⟩:=by unfold Addr.add;split <;> simp_all
  rw [e,Nat.zero_add]
  exact hb.cell j (by simpa using hj)
 ·have hk:Kt w w':=(Kt.refl w).grown hown.row (.inr (.inr rfl)) h2
  refine h v' w' ⟨?_,fun r hr => ?_⟩ h2 ((Below.refl _ _).grown h2 hbase (fun k hk=>(hown.row.lt k hk).1)) hk
  ·rw [List.length_append,List.flatMap_append]
   simpa using h1
  ·rcases List.mem_append.1 hr with hr | hr
   ·exact (hown.bd r hr).kt hk
   ·rw [List.mem_singleton.1 hr]
    exact hp.kt hk
theorem step_append_rc {w:World} {ops:Array Oper} {o:Oper} {act:Act} {K:Act→World→Prop} {Q:Exit→Act→World→Prop} {E:Prop} (hgd:o.guard=none) (s x:Operand)
  (ho:o.op=.call { callee:=.builtin .append,args:=#[s,x],argTypes:=#[162,162] })
  (base:Nat) (v:Value) (L:List Rc) (hs:act.eval s=v) (hown:Rcs w base v L) (k c:Nat) (p:Rc) (hx:act.eval x=.slice (some ⟨k,0,none⟩) 1 c)
  (hb:Blk w k (rcc p).toArray 178) (hp:BdE w base p.a p.n p.bs) (hl:L.length≤1000000) (hbase:base≤w.heap.size)
  (h:∀ v' w',Rcs w' base v' (L++[p])→w.grownBy w' v.ownBlock→Below base w w'→Kt w w'→K (act.put o.dst v') w'):if Region.wanted o (yielded ops act.tmps)=true then Oper.wp Tryz.prog o act w K Q else E:=by
 rw [if_pos (by simp [Region.wanted,hgd])]
 exact wp_append_rc s x ho base v L hs hown k c p hx hb hp hl hbase h
theorem Rcs.val {w:World} {base:Nat} {v:Value} {L:List Rc} (h:Rcs w base v L):∃ a c,v=.slice a L.length c:=by
 rcases h.row.2 with ⟨h1,h2⟩ | ⟨g,cp,cur,a1,_⟩
 ·exact ⟨none,0,by rw [h1,h2]⟩
 ·exact ⟨_,cp,a1⟩
def plR (r:Rc):Nat×List Nat:=(r.tick,r.bs)
def rowS (pre:List Value) (s:Sg) (post:List Value):Array Value:=(pre++(sgc s++post)).toArray
theorem rowS_at (pre post:List Value) (s:Sg) (j:Nat) (v:Value) (h:(sgc s)[j]? = some v):(rowS pre s post)[pre.length+j]? = some v:=by
 have hj:j<(sgc s).length:=(List.getElem?_eq_some_iff.1 h).1
 unfold rowS
 rw [List.getElem?_toArray,List.getElem?_append_right (by omega),Nat.add_sub_cancel_left,List.getElem?_append_left hj]
 exact h
theorem rowS_set2 (pre post:List Value) (s:Sg) (x:Nat):(rowS pre s post).setIfInBounds (pre.length+2) (.int .i64 (x:Int))=rowS pre { s with high:=x } post:=by
 unfold rowS
 rw [List.setIfInBounds_toArray,List.set_append_right _ _ (by omega),Nat.add_sub_cancel_left]
 rfl
theorem rowS_set3 (pre post:List Value) (s:Sg) (x:Nat):(rowS pre s post).setIfInBounds (pre.length+3) (.int .i64 (x:Int))=rowS pre { s with en:=x } post:=by
 unfold rowS
 rw [List.setIfInBounds_toArray,List.set_append_right _ _ (by omega),Nat.add_sub_cancel_left]
 rfl
theorem Lc.high {w:World} {gl g gc b m ag hi rel:Nat} {uv rv:Value} (h:Lc w gl g gc b m ag uv hi rel rv) (x:Nat):Lc (w.setCell ⟨gl,6,none⟩ (.int .i64 (x:Int))) gl g gc b m ag uv x rel rv:=Blk.set h 6 _
theorem Lc.recs {w:World} {gl g gc b m ag hi rel:Nat} {uv rv:Value} (h:Lc w gl g gc b m ag uv hi rel rv) (v:Value):Lc (w.setCell ⟨gl,8,none⟩ v) gl g gc b m ag uv hi rel v:=Blk.set h 8 _
structure Rdg (w:World) (base g gs:Nat) (wv:Value) (D:Dk) (gl gc b m ag rel:Nat) (uv:Value) (gu:Nat) (pre post:List Value) (s:Sg) (hi:Nat) (rv:Value) (L:List Rc):Prop where
 disk:Disk w base g gs wv D
 log:Lc w gl g gc b m ag uv hi rel rv
 row:Blk w gu (rowS pre s post) 169
 recs:Rcs w base rv L
 bl:base≤gl
 bu:base≤gu
theorem Rdg.below {w w':World} {base g gs:Nat} {wv:Value} {D:Dk} {gl gc b m ag rel:Nat} {uv:Value} {gu:Nat} {pre post:List Value} {s:Sg} {hi:Nat} {rv:Value} {L:List Rc} (h:Rdg w base g gs wv D gl gc b m ag rel uv gu pre post s hi rv L) (hb:Below w.heap.size w w'):Rdg w' base g gs wv D gl gc b m ag rel uv gu pre post s hi rv L :=
 ⟨h.disk.stay hb,h.log.stay hb,h.row.stay hb,h.recs.below hb,h.bl,h.bu⟩
theorem Rdg.high {w:World} {base g gs:Nat} {wv:Value} {D:Dk} {gl gc b m ag rel:Nat} {uv:Value} {gu:Nat} {pre post:List Value} {s:Sg} {hi:Nat} {rv:Value} {L:List Rc} (h:Rdg w base g gs wv D gl gc b m ag rel uv gu pre post s hi rv L) (x:Nat):Rdg (w.setCell ⟨gl,6,none⟩ (.int .i64 (x:Int))) base g gs wv D gl gc b m ag rel uv gu pre post s x rv L∧Kt w (w.setCell ⟨gl,6,none⟩ (.int .i64 (x:Int)))∧Below base w (w.setCell ⟨gl,6,none⟩ (.int .i64 (x:Int))) :=
 have hk:Kt w (w.setCell ⟨gl,6,none⟩ (.int .i64 (x:Int))):=(Kt.refl w).set h.log (.inl rfl) 6 _
 ⟨⟨h.disk.kt hk,h.log.high x,h.row.other _ _ (blk_ne h.row h.log (by decide)),h.recs.set h.log (.inl rfl),h.bl,h.bu⟩,hk,(Below.refl _ _).setCell h.bl _⟩
theorem Rdg.sets {w:World} {base g gs:Nat} {wv:Value} {D:Dk} {gl gc b m ag rel:Nat} {uv:Value} {gu:Nat} {pre post:List Value} {s:Sg} {hi:Nat} {rv:Value} {L:List Rc} (h:Rdg w base g gs wv D gl gc b m ag rel uv gu pre post s hi rv L) (s':Sg) (i:Nat) (v:Value) (hs:(rowS pre s post).setIfInBounds i v=rowS pre s' post):Rdg (w.setCell ⟨gu,i,none⟩ v) base g gs wv D gl gc b m ag rel uv gu pre post s' hi rv L∧Kt w (w.setCell ⟨gu,i,none⟩ v)∧Below base w (w.setCell ⟨gu,i,none⟩ v) :=
 have hk:Kt w (w.setCell ⟨gu,i,none⟩ v):=(Kt.refl w).set h.row (.inr (.inl rfl)) i _
 ⟨⟨h.disk.kt hk,Blk.other h.log _ _ (blk_ne h.log h.row (by decide)),by rw [← hs];exact h.row.set i v,h.recs.set h.row (.inr rfl),h.bl,h.bu⟩,hk,(Below.refl _ _).setCell h.bu _⟩
end
section
open Go.RowKit
theorem Rdg.more {w w5:World} {base g gs:Nat} {wv:Value} {D:Dk} {gl gc b m ag rel:Nat} {uv:Value} {gu:Nat} {pre post:List Value} {s:Sg} {hi:Nat} {rv v5:Value} {L L5:List Rc} (h:Rdg w base g gs wv D gl gc b m ag rel uv gu pre post s hi rv L) (hr:Rcs w5 base v5 L5) (hg:w.grownBy w5 rv.ownBlock) (hk:Kt w w5):Rdg (w5.setCell ⟨gl,8,none⟩ v5) base g gs wv D gl gc b m ag rel uv gu pre post s hi v5 L5∧Kt w (w5.setCell ⟨gl,8,none⟩ v5)∧Below base w5 (w5.setCell ⟨gl,8,none⟩ v5) :=
 have hl:Lc w5 gl g gc b m ag uv hi rel rv:=Blk.grown h.log hg (own_ne h.recs.row h.log (by decide))
 have hu:Blk w5 gu (rowS pre s post) 169:=h.row.grown hg (own_ne h.recs.row h.row (by decide))
 have hk':Kt w5 (w5.setCell ⟨gl,8,none⟩ v5):=(Kt.refl w5).set hl (.inl rfl) 8 _
 ⟨⟨(h.disk.kt hk).kt hk',hl.recs v5,hu.other _ _ (blk_ne hu hl (by decide)),hr.set hl (.inl rfl),h.bl,h.bu⟩,hk.trans hk',(Below.refl _ _).setCell h.bl _⟩
theorem evl_readSegment (w:World) (base g gs:Nat) (wv:Value) (D:Dk) (gl gc b m ag hi rel:Nat) (uv rv:Value) (gu off:Nat) (pre post:List Value) (s:Sg) (L:List Rc) (h:Rdg w base g gs wv D gl gc b m ag rel uv gu pre post s hi rv L) (hoff:off=pre.length) (hat:s.at_≤100000) (hen:s.en≤16) (hhi:hi≤1099511627776) (hsh:s.high≤1099511627776) (hl:L.length≤100000) :
  Calls Tryz.prog 241 #[.pointer (some ⟨gl,0,none⟩),.pointer (some ⟨gu,off,none⟩)] w fun e w'=>e=.returned (.tuple #[])∧Hid (∃ rv' L' hi' en',readF D s.at_ 17 (max hi s.high) s.en (L.map plR)=(hi',en',L'.map plR)∧hi'≤1099511627776∧Rdg w' base g gs wv D gl gc b m ag rel uv gu pre post ⟨s.at_,s.num,hi',en'⟩ hi' rv' L')∧Hid (Kt w w')∧Below base w w':=by
 obtain ⟨R,HR⟩:∃ R,Hid (R=readF D s.at_ 17 (max hi s.high) s.en (L.map plR)):=⟨_,rfl⟩
 rw [← HR.out]
 obtain ⟨at_,num,sh,en⟩:=s
 have HOFF:Hid (off=pre.length):=hoff
 simp only at hat hen hsh HR ⊢
 obtain ⟨h0,HH0⟩:∃ h0,Hid (h0=max hi sh):=⟨_,rfl⟩
 have HG:Hid (Rdg w base g gs wv D gl gc b m ag rel uv gu pre post ⟨at_,num,sh,en⟩ hi rv L):=h
 have c6:w.cell? ⟨gl,6,none⟩=some (.int .i64 (hi:Int)):=Blk.cell h.log 6 rfl
 have f6:w.frozen? ⟨gl,6,none⟩=false:=Blk.free h.log 6
 have u2:w.cell? ⟨gu,off+2,none⟩=some (.int .i64 (sh:Int)):=h.row.cell _ (by rw [hoff];exact rowS_at pre post _ 2 _ rfl)
 clear h hoff
 go_enter Tryz.func241,Tryz.ntmps241
 go_wp2_with fail
 go_region
 rw [show (if hi<sh then (sh:Int) else (hi:Int))=((h0:Nat):Int) from by rw [HH0.out];split <;> omega]
 obtain ⟨hg1,hk1,hb1⟩:=HG.out.high h0
 obtain ⟨W1,HW1⟩:∃ W1,Hid (W1=(w.setCell ⟨gl,6,none⟩ (.int .i64 (h0:Int))).drew):=⟨_,rfl⟩
 have HG1:Hid (Rdg W1 base g gs wv D gl gc b m ag rel uv gu pre post ⟨at_,num,sh,en⟩ h0 rv L):=by (show Rdg _ _ _ _ _ _ _ _ _ _ _ _ _ _ _ _ _ _ _ _);rw [HW1.out];exact hg1.below (Below.refl _ _).drew
 have HK1:Hid (Kt w W1):=by (show Kt _ _);rw [HW1.out];exact hk1.trans (Kt.of_below (Below.refl _ _).drew)
 have HB1:Hid (Below base w W1):=by (show Below _ _ _);rw [HW1.out];exact hb1.drew
 have HH1:Hid (h0≤1099511627776):=by (show _≤_);rw [HH0.out];omega
 have HR1:Hid (readF D at_ 17 h0 en (L.map plR)=R):=by (show _=_);rw [HR.out,HH0.out]
 rw [← HW1.out]
 clear hg1 hk1 hb1 c6 f6 u2 HG HH0
 go_wp2_with fail
 go_loopg [4] 17 (fun k t4 wr=>∃ (hi1 en1:Nat) (rv1:Value) (L1:List Rc),k≤17∧16<en1+k∧en1≤16∧hi1≤1099511627776∧Hid (L1.length+k≤100017)∧Hid (readF D at_ k hi1 en1 (L1.map plR)=R)∧Hid (Rdg wr base g gs wv D gl gc b m ag rel uv gu pre post ⟨at_,num,sh,en1⟩ hi1 rv1 L1)∧Hid (Kt w wr)∧Hid (Below base w wr))
 case atStart=>exact ⟨h0,en,rv,L,by omega,by omega,hen,HH1.out,by (show _≤_);omega,HR1,HG1,HK1,HB1⟩
 case round =>
  obtain ⟨hi1,en1,rv1,L1,hk,hke,hen1,hhi1,HLL,HRR,HGr,HKr,HBr⟩:=hrel
  obtain ⟨j,rfl⟩:∃ j,gk=j+1:=⟨gk - 1,by omega⟩
  have HRG:Hid (wr.rangeAt gu off (sgc ⟨at_,num,sh,en1⟩)):=fun q v hq=>HGr.out.row.cell _ (by rw [HOFF.out];exact rowS_at pre post _ q v hq)
  go_wp2_with (guard_target =~ wpList _ _ _ (Oper.mk (some 23) _ _ _ _ _ :: _) _ _;refine wpList_load_mid rfl 169 (.tmp 22) rfl gu off rfl (sgc ⟨at_,num,sh,en1⟩) _ HRG.out Tryz.underlying169 rfl (by rfl) ?_)
  refine (evl_next wr base g gs wv D gl gc b m ag hi1 rel uv rv1 at_ en1 (num:Int) (sh:Int) HGr.out.disk HGr.out.log hat hen1 hhi1).mono ?_
  rintro e w2 ⟨ht2,hb2⟩
  have HG2:Hid (Rdg w2 base g gs wv D gl gc b m ag rel uv gu pre post ⟨at_,num,sh,en1⟩ hi1 rv1 L1):=HGr.out.below hb2
  have HK2:Hid (Kt w w2):=HKr.out.trans (Kt.of_below hb2)
  have HBS:Hid (base≤wr.heap.size):=Nat.le_trans HGr.out.bl (Nat.le_of_lt (Blk.lt HGr.out.log))
  have HB2:Hid (Below base w w2):=HBr.out.trans (hb2.mono HBS.out)
  rcases ht2.out with ⟨hn,rfl⟩ | ⟨v,bs,e2,a2,n2,c2,hs,rfl,hbd,hn2,he2⟩
  ·have HX:Hid (R=(hi1,en1,L1.map plR)):=by (show _=_);rw [← HRR.out,readF,hn]
   clear ht2 hn HRR HRG
   go_upto_region 2 with fail
   obtain ⟨W3,HW3⟩:∃ W3,Hid (W3=w2.alloc (.cells #[.int .i64 0,.slice none 0 0] 178)):=⟨_,rfl⟩
   have HBW3:Hid (Below w2.heap.size w2 W3):=by (show Below _ _ _);rw [HW3.out];exact below_alloc _ _
   have HG3:Hid (Rdg W3 base g gs wv D gl gc b m ag rel uv gu pre post ⟨at_,num,sh,en1⟩ hi1 rv1 L1):=HG2.out.below HBW3.out
   have HK3:Hid (Kt w W3):=HK2.out.trans (Kt.of_below HBW3.out)
   have HB3:Hid (Below base w W3):=HB2.out.trans (HBW3.out.mono (Nat.le_trans HBS.out (Nat.le_trans hb2.size (Nat.le_refl _))))
   rw [← HW3.out]
   have c6:W3.cell? ⟨gl,6,none⟩=some (.int .i64 (hi1:Int)):=Blk.cell HG3.out.log 6 rfl
   have u2:W3.cell? ⟨gu,off+2,none⟩=some (.int .i64 (sh:Int)):=HG3.out.row.cell _ (by rw [HOFF.out];exact rowS_at pre post _ 2 _ rfl)
   have uf:W3.frozen? ⟨gu,off+2,none⟩=false:=HG3.out.row.free _
   obtain ⟨hg4,hk4,hb4⟩:=HG3.out.sets ⟨at_,num,hi1,en1⟩ (off+2) (.int .i64 (hi1:Int)) (by rw [HOFF.out];exact rowS_set2 pre post _ hi1)
   have HF:Hid (Rdg (W3.setCell ⟨gu,off+2,none⟩ (.int .i64 (hi1:Int))) base g gs wv D gl gc b m ag rel uv gu pre post ⟨at_,num,hi1,en1⟩ hi1 rv1 L1∧Kt w (W3.setCell ⟨gu,off+2,none⟩ (.int .i64 (hi1:Int)))∧Below base w (W3.setCell ⟨gu,off+2,none⟩ (.int .i64 (hi1:Int)))):=⟨hg4,HK3.out.trans hk4,HB3.out.trans hb4⟩
   clear hg4 hk4 hb4 hb2
   go_wp2
   go_returns
   exact ⟨rfl,⟨rv1,L1,hi1,en1,HX.out,hhi1,HF.out.1⟩,HF.out.2.1,HF.out.2.2⟩
  ·have HNX:Hid (en1<e2∧e2≤16∧hi1<v∧v≤1099511627776):=next_gt D at_ en1 hi1 v e2 bs hen1 hs
   have HX:Hid (readF D at_ j v e2 (L1.map plR++[(v,bs)])=R):=by (show _=_);rw [← HRR.out,readF,hs]
   have HBD:Hid (BdE w2 wr.heap.size a2 n2 bs):=hbd
   clear ht2 hb2 hs hbd HRR HRG
   go_upto_region 2 with fail
   obtain ⟨W3,HW3⟩:∃ W3,Hid (W3=w2.alloc (.cells #[.int .i64 (v:Int),.slice a2 n2 c2] 178)):=⟨_,rfl⟩
   have HBW3:Hid (Below w2.heap.size w2 W3):=by (show Below _ _ _);rw [HW3.out];exact below_alloc _ _
   have HG3:Hid (Rdg W3 base g gs wv D gl gc b m ag rel uv gu pre post ⟨at_,num,sh,en1⟩ hi1 rv1 L1):=HG2.out.below HBW3.out
   have HK3:Hid (Kt w W3):=HK2.out.trans (Kt.of_below HBW3.out)
   have HS2:Hid (base≤w2.heap.size):=Nat.le_trans HG2.out.bl (Nat.le_of_lt (Blk.lt HG2.out.log))
   have HB3:Hid (Below base w W3):=HB2.out.trans (HBW3.out.mono HS2.out)
   have HQ3:Hid (Blk W3 w2.heap.size #[.int .i64 (v:Int),.slice a2 n2 c2] 178):=by (show Blk _ _ _ _);rw [HW3.out];exact Blk.new _ _ _
   have HBD3:Hid (BdE W3 base a2 n2 bs):=(HBD.out.kt (Kt.of_below HBW3.out)).lower HBS.out
   rw [← HW3.out]
   obtain ⟨ar,cr,hrv⟩:=HG3.out.recs.val
   subst hrv
   have c8:W3.cell? ⟨gl,8,none⟩=some (.slice ar L1.length cr):=Blk.cell HG3.out.log 8 rfl
   have c8b:(W3.alloc (.cells #[.int .i64 (v:Int),.slice a2 n2 c2] 178)).cell? ⟨gl,8,none⟩=some (.slice ar L1.length cr):=Blk.cell (HG3.out.log.stay (below_alloc _ _)) 8 rfl
   have q0:W3.cell? ⟨w2.heap.size,0,none⟩=some (.int .i64 (v:Int)):=HQ3.out.cell 0 rfl
   have q1:W3.cell? ⟨w2.heap.size,1,none⟩=some (.slice a2 n2 c2):=HQ3.out.cell 1 rfl
   obtain ⟨W4,HW4⟩:∃ W4,Hid (W4=(W3.alloc (.cells #[.int .i64 (v:Int),.slice a2 n2 c2] 178)).drew):=⟨_,rfl⟩
   have HBW4:Hid (Below W3.heap.size W3 W4):=by (show Below _ _ _);rw [HW4.out];exact (below_alloc _ _).drew
   have HG4:Hid (Rdg W4 base g gs wv D gl gc b m ag rel uv gu pre post ⟨at_,num,sh,en1⟩ hi1 (.slice ar L1.length cr) L1):=HG3.out.below HBW4.out
   have HKN:Hid (Blk W4 W3.heap.size #[.int .i64 (v:Int),.slice a2 n2 c2] 178):=by (show Blk _ _ _ _);rw [HW4.out];exact (Blk.new W3 _ _).stay (Below.refl _ _).drew
   have HBD4:Hid (BdE W4 base a2 n2 bs):=HBD3.out.kt (Kt.of_below HBW4.out)
   have HS4:Hid (base≤W4.heap.size):=Nat.le_trans HG4.out.bl (Nat.le_of_lt (Blk.lt HG4.out.log))
   have HQ4:Hid (Blk W4 w2.heap.size #[.int .i64 (v:Int),.slice a2 n2 c2] 178):=HQ3.out.stay HBW4.out
   have HLN:Hid (L1.length≤1000000):=by (show _≤_);have:=HLL.out;omega
   go_wp2_with fail
   go_region_law (refine step_append_rc rfl (.tmp 34) (.tmp 36) rfl base _ L1 rfl (by rw [← HW4.out];exact HG4.out.recs) W3.heap.size 1 ⟨v,a2,n2,c2,bs⟩ rfl (by rw [← HW4.out];exact HKN.out) (by rw [← HW4.out];exact HBD4.out) HLN.out (by rw [← HW4.out];exact HS4.out) ?_;rw [← HW4.out];intro v5 w5 hr5 hg5 hb5 hk5;have HL5:Hid (Lc w5 gl g gc b m ag uv hi1 rel (.slice ar L1.length cr)):=Blk.grown HG4.out.log hg5 (own_ne HG4.out.recs.row HG4.out.log (by decide));have d8:w5.cell? ⟨gl,8,none⟩=some (.slice ar L1.length cr):=Blk.cell HL5.out 8 rfl;have f8:w5.frozen? ⟨gl,8,none⟩=false:=Blk.free HL5.out 8;have HR5:Hid (Rcs w5 base v5 (L1++[⟨v,a2,n2,c2,bs⟩])∧W4.grownBy w5 (Value.slice ar L1.length cr).ownBlock∧Below base W4 w5∧Kt W4 w5):=⟨hr5,hg5,hb5,hk5⟩;obtain ⟨a5,c5,rfl⟩:=hr5.val;clear hr5 hg5 hb5 hk5)
   all_goals
    obtain ⟨hr5,hg5,hb5,hk5⟩:=HR5.out
    rw [show (L1++[(⟨v,a2,n2,c2,bs⟩:Rc)]).length=L1.length+1 from by simp] at hr5
    obtain ⟨hg6,hk6,hb6⟩:=HG4.out.more hr5 hg5 hk5
    obtain ⟨W6,HW6⟩:∃ W6,Hid (W6=w5.setCell ⟨gl,8,none⟩ (.slice a5 (L1.length+1) c5)):=⟨_,rfl⟩
    have HG6:Hid (Rdg W6 base g gs wv D gl gc b m ag rel uv gu pre post ⟨at_,num,sh,en1⟩ hi1 (.slice a5 (L1.length+1) c5) (L1++[⟨v,a2,n2,c2,bs⟩])):=by (show Rdg _ _ _ _ _ _ _ _ _ _ _ _ _ _ _ _ _ _ _ _);rw [HW6.out];exact hg6
    have HK6:Hid (Kt w W6):=by (show Kt _ _);rw [HW6.out];exact (HK3.out.trans (Kt.of_below HBW4.out)).trans hk6
    have HB6:Hid (Below base w W6):=by (show Below _ _ _);rw [HW6.out];exact ((HB3.out.trans (HBW4.out.mono (Nat.le_trans HS2.out HBW3.out.size))).trans hb5).trans hb6
    have q6:W6.cell? ⟨w2.heap.size,0,none⟩=some (.int .i64 (v:Int)):=by
     rw [HW6.out]
     exact ((HQ4.out.grown hg5 (fun e=>by have:=(HG2.out.recs.row.lt _ e.symm).2;omega)).other _ _ (fun e=>by have e':w2.heap.size=gl:=e;have:=Blk.lt HG2.out.log;omega)).cell 0 rfl
    rw [← HW6.out]
    clear hr5 hg5 hb5 hk5 hg6 hk6 hb6 c8 c8b q0 q1 d8 f8
    have c6:W6.cell? ⟨gl,6,none⟩=some (.int .i64 (hi1:Int)):=Blk.cell HG6.out.log 6 rfl
    have f6:W6.frozen? ⟨gl,6,none⟩=false:=Blk.free HG6.out.log 6
    obtain ⟨hg7,hk7,hb7⟩:=HG6.out.high v
    have u3:(W6.setCell ⟨gl,6,none⟩ (.int .i64 (v:Int))).cell? ⟨gu,off+3,none⟩=some (.int .i64 (en1:Int)):=hg7.row.cell _ (by rw [HOFF.out];exact rowS_at pre post _ 3 _ rfl)
    have uf:(W6.setCell ⟨gl,6,none⟩ (.int .i64 (v:Int))).frozen? ⟨gu,off+3,none⟩=false:=hg7.row.free _
    obtain ⟨hg8,hk8,hb8⟩:=hg7.sets ⟨at_,num,sh,e2⟩ (off+3) (.int .i64 (e2:Int)) (by rw [HOFF.out];exact rowS_set3 pre post _ e2)
    have HF:Hid (Rdg ((W6.setCell ⟨gl,6,none⟩ (.int .i64 (v:Int))).setCell ⟨gu,off+3,none⟩ (.int .i64 (e2:Int))) base g gs wv D gl gc b m ag rel uv gu pre post ⟨at_,num,sh,e2⟩ v (.slice a5 (L1.length+1) c5) (L1++[⟨v,a2,n2,c2,bs⟩])):=hg8
    have HFK:Hid (Kt w ((W6.setCell ⟨gl,6,none⟩ (.int .i64 (v:Int))).setCell ⟨gu,off+3,none⟩ (.int .i64 (e2:Int)))):=(HK6.out.trans hk7).trans hk8
    have HFB:Hid (Below base w ((W6.setCell ⟨gl,6,none⟩ (.int .i64 (v:Int))).setCell ⟨gu,off+3,none⟩ (.int .i64 (e2:Int)))):=(HB6.out.trans hb7).trans hb8
    have HX2:Hid (readF D at_ j v e2 ((L1++[(⟨v,a2,n2,c2,bs⟩:Rc)]).map plR)=R):=by (show _=_);rw [← HX.out,List.map_append];rfl
    have HL6:Hid ((L1++[(⟨v,a2,n2,c2,bs⟩:Rc)]).length+j≤100017):=by (show _≤_);rw [List.length_append,List.length_singleton];have:=HLL.out;omega
    clear hg7 hk7 hb7 hg8 hk8 hb8
    go_wp2
    go_roundg j
    case rel=>exact ⟨v,e2,_,_,by omega,by have:=HNX.out;omega,HNX.out.2.1,HNX.out.2.2.2,HL6,HX2,HF,HFK,HFB⟩
    case measure=>omega
end
section
open Go.RowKit
theorem rel_one (w:World) (bx:Nat) (t:Nat) (r:Rc) (hb:Blk w bx #[.int .i64 (t:Int)] 3):Calls Tryz.prog 155 #[.agg (rcc r).toArray,.pointer (some ⟨bx,0,none⟩)] w fun e w'=>e=.returned (.bool (decide (r.tick≤t)))∧Below w.heap.size w w':=by
 have HE:Hid (decide ((r.tick:Int)≤(t:Int))=decide (r.tick≤t)):=by (show _=_);rw [decide_eq_decide];omega
 have k0:(w.alloc (.cells (rcc r).toArray 178)).cell? ⟨w.heap.size,0,none⟩=some (.int .i64 (r.tick:Int)):=(Blk.new w _ _).cell 0 rfl
 have b0:(w.alloc (.cells (rcc r).toArray 178)).cell? ⟨bx,0,none⟩=some (.int .i64 (t:Int)):=(hb.stay (below_alloc _ _)).cell 0 rfl
 have HB:Hid (Below w.heap.size w (w.alloc (.cells (rcc r).toArray 178))):=below_alloc _ _
 unfold rcc at *
 clear hb
 go_enter Tryz.func155,Tryz.ntmps155
 go_wp2
 go_returns
 exact ⟨by rw [← HE.out];simp,HB.out⟩
theorem Rcs.cut {w:World} {base:Nat} {v:Value} {L:List Rc} (h:Rcs w base v L) {i:Nat} {r:Rc} (hr:L[i]? = some r):∃ gr c,v=.slice (some ⟨gr,0,none⟩) L.length c∧gr<w.heap.size∧w.rangeAt gr (i * 2) (rcc r):=by
 have hi:i<L.length:=(List.getElem?_eq_some_iff.1 hr).1
 rcases h.row.2 with ⟨_,h0⟩ | ⟨gr,c,cur,hv,_,hg,hlc,_,hcs,hx⟩
 ·omega
 ·refine ⟨gr,c,hv,heap_lt hg,fun q u hq => ?_⟩
  have hq2:q<2:=(List.getElem?_eq_some_iff.1 hq).1
  rw [cell_of_row w gr (i * 2+q) cur _ _ hg]
  have h2:(L.flatMap rcc)[i * 2+q]? = some u:=by rw [flat_at rcc 2 L (fun _ _=>rfl) i r hr q hq2];exact hq
  rw [← hx,List.getElem?_take] at h2
  split at h2
  ·simpa using h2
  ·cases h2
theorem rc_index_none (w:World) (base:Nat) (a:Option Addr) (n c:Nat) (L:List Rc) (bx t:Nat) (h:Rcs w base (.slice a n c) L) (hb:Blk w bx #[.int .i64 (t:Int)] 3) (hl:L.length≤1000000) (ht:∀ r∈L,t<r.tick) :
  Calls Tryz.prog 204 #[.slice a n c,.func (.func 155) #[] #[.pointer (some ⟨bx,0,none⟩)]] w fun e w'=>e=.returned (.int .i64 (-1))∧Below w.heap.size w w':=by
 have hn:n=L.length:=by obtain ⟨a',c',e⟩:=h.val;cases e;rfl
 have HR:Hid (Rcs w base (.slice a n c) L):=h
 have HB:Hid (Blk w bx #[.int .i64 (t:Int)] 3):=hb
 have HT:Hid (∀ r∈L,t<r.tick):=ht
 have HN:Hid (n=L.length):=hn
 have hn':n≤1000000:=by omega
 clear h hb ht hn hl
 go_enter Tryz.func204,Tryz.ntmps204
 go_wp2
 go_loopw [8] (fun t8 wr=>∃ (i:Nat),i≤n∧t8=.int .i64 (i:Int)∧Hid (Below w.heap.size w wr)) (fun t8 _=>n - (intOf t8).toNat)
 case atStart=>exact ⟨0,Nat.zero_le _,rfl,Below.refl _ _⟩
 case round =>
  obtain ⟨i,hi,rfl,HBr⟩:=hrel
  by_cases hlt:i<n
  ·have hlt':(i:Int)<(n:Int):=by omega
   have hge:(0:Int)≤(i:Int):=by omega
   have HRr:Hid (Rcs wr base (.slice a n c) L):=HR.out.below HBr.out
   obtain ⟨r,hr⟩:∃ r,L[i]? = some r:=⟨_,List.getElem?_eq_getElem (by have:=HN.out;omega)⟩
   obtain ⟨gr,c',hv,hgr,hrg⟩:=HRr.out.cut hr
   have ha:a=some ⟨gr,0,none⟩:=by cases hv;rfl
   subst ha
   have HRG:Hid (wr.rangeAt gr (i * 2) (rcc r)):=hrg
   have HTR:Hid (decide (r.tick≤t)=false):=by (show _=_);rw [decide_eq_false_iff_not];have:=HT.out r (List.mem_of_getElem? hr);omega
   have HCL:Hid (Calls Tryz.prog 155 #[.agg (rcc r).toArray,.pointer (some ⟨bx,0,none⟩)] wr fun e w'=>e=.returned (.bool false)∧Below wr.heap.size wr w'):=by
    have:=rel_one wr bx t r (HB.out.stay HBr.out)
    rw [HTR.out] at this
    exact this
   clear hv hrg hr
   go_wp2_with (first
    | (guard_target =~ wpList _ _ _ (Oper.mk (some 15) _ _ _ _ _ :: _) _ _;refine wpList_load_mid rfl 178 (.tmp 14) rfl gr (i * 2) rfl (rcc r) _ HRG.out Tryz.underlying178 rfl (by rfl) ?_)
    | (go_at_call 155;refine HCL.out.mono ?_;rintro e w2 ⟨rfl,hb2⟩;have HB2:Hid (Below w.heap.size w w2):=HBr.out.trans (hb2.mono HBr.out.size);clear hb2))
   go_roundw
   case rel=>exact ⟨i+1,by omega,by go_num,HB2⟩
   case measure=>(simp [intOf];omega)
  ·obtain rfl:i=n:=by omega
   have hlt':¬ (i:Int)<(i:Int):=by omega
   go_wp2
   go_returns
   exact ⟨rfl,HBr.out⟩
theorem rc_delete_none (w:World) (base:Nat) (a:Option Addr) (n c:Nat) (L:List Rc) (bx t:Nat) (h:Rcs w base (.slice a n c) L) (hb:Blk w bx #[.int .i64 (t:Int)] 3) (hl:L.length≤1000000) (ht:∀ r∈L,t<r.tick) :
  Calls Tryz.prog 154 #[.slice a n c,.func (.func 155) #[] #[.pointer (some ⟨bx,0,none⟩)]] w fun e w'=>e=.returned (.slice a n c)∧Below w.heap.size w w':=by
 have hi:=rc_index_none w base a n c L bx t h hb hl ht
 clear h hb hl ht
 go_enter Tryz.func154,Tryz.ntmps154
 go_wp2_with fail
 refine hi.mono ?_
 rintro e w2 ⟨rfl,hb2⟩
 have HB2:Hid (Below w.heap.size w w2):=hb2
 clear hi hb2
 go_wp2
 go_returns
 exact ⟨rfl,HB2.out⟩
end
section
open Go.RowKit
structure Lg (w:World) (base g gs:Nat) (wv:Value) (D:Dk) (gl gc b m ag:Nat) (U:List Sg) (uv:Value) (hi rel:Nat) (L:List Rc) (rv:Value):Prop where
 disk:Disk w base g gs wv D
 log:Lc w gl g gc b m ag uv hi rel rv
 cells:Cs w gc g b 1
 used:Sgs w base uv U
 recs:Rcs w base rv L
 bl:base≤gl
theorem Lg.below {w w':World} {base g gs:Nat} {wv:Value} {D:Dk} {gl gc b m ag:Nat} {U:List Sg} {uv:Value} {hi rel:Nat} {L:List Rc} {rv:Value} (h:Lg w base g gs wv D gl gc b m ag U uv hi rel L rv) (hb:Below w.heap.size w w'):Lg w' base g gs wv D gl gc b m ag U uv hi rel L rv :=
 ⟨h.disk.stay hb,h.log.stay hb,h.cells.stay hb,h.used.below hb,h.recs.below hb,h.bl⟩
theorem Lg.put {w:World} {base g gs:Nat} {wv:Value} {D:Dk} {gl gc b m ag:Nat} {U:List Sg} {uv:Value} {hi rel:Nat} {L:List Rc} {rv:Value} (h:Lg w base g gs wv D gl gc b m ag U uv hi rel L rv) (i:Nat) (v:Value):Disk (w.setCell ⟨gl,i,none⟩ v) base g gs wv D∧Cs (w.setCell ⟨gl,i,none⟩ v) gc g b 1∧Sgs (w.setCell ⟨gl,i,none⟩ v) base uv U∧Rcs (w.setCell ⟨gl,i,none⟩ v) base rv L∧Kt w (w.setCell ⟨gl,i,none⟩ v)∧Below base w (w.setCell ⟨gl,i,none⟩ v) :=
 have hk:Kt w (w.setCell ⟨gl,i,none⟩ v):=(Kt.refl w).set h.log (.inl rfl) i v
 ⟨h.disk.kt hk,Kt.keep hk h.cells (by decide) (by decide) (by decide),row_set h.used (own_ne h.used h.log (by decide)),h.recs.set h.log (.inl rfl),hk,(Below.refl _ _).setCell h.bl _⟩
theorem Lg.sz {w:World} {base g gs:Nat} {wv:Value} {D:Dk} {gl gc b m ag:Nat} {U:List Sg} {uv:Value} {hi rel:Nat} {L:List Rc} {rv:Value} (h:Lg w base g gs wv D gl gc b m ag U uv hi rel L rv):base≤w.heap.size:=Nat.le_trans h.bl (Nat.le_of_lt (Blk.lt h.log))
theorem evl_release (w:World) (base g gs:Nat) (wv:Value) (D:Dk) (gl gc b m ag:Nat) (U:List Sg) (uv:Value) (hi rel:Nat) (L:List Rc) (rv:Value) (t:Nat) (h:Lg w base g gs wv D gl gc b m ag U uv hi rel L rv) (hl:L.length≤1000000) (ht:∀ r∈L,t<r.tick) :
  Calls Tryz.prog 108 #[.pointer (some ⟨gl,0,none⟩),.int .i64 (t:Int)] w fun e w'=>e=.returned (.tuple #[])∧Hid (Lg w' base g gs wv D gl gc b m ag U uv hi t L rv)∧Hid (Kt w w')∧Below base w w':=by
 obtain ⟨ar,cr,hrv⟩:=h.recs.val
 subst hrv
 have HT:Hid (∀ r∈L,t<r.tick):=ht
 obtain ⟨W1,HW1⟩:∃ W1,Hid (W1=w.alloc (.cells #[.int .i64 (t:Int)] 3)):=⟨_,rfl⟩
 have HBW:Hid (Below w.heap.size w W1):=by (show Below _ _ _);rw [HW1.out];exact below_alloc _ _
 have HX1:Hid (Blk W1 w.heap.size #[.int .i64 (t:Int)] 3):=by (show Blk _ _ _ _);rw [HW1.out];exact Blk.new _ _ _
 have HG1:Hid (Lg W1 base g gs wv D gl gc b m ag U uv hi rel L (.slice ar L.length cr)):=h.below HBW.out
 obtain ⟨p1,p2,p3,p4,p5,p6⟩:=HG1.out.put 7 (.int .i64 (t:Int))
 have HG2:Hid (Lg (W1.setCell ⟨gl,7,none⟩ (.int .i64 (t:Int))) base g gs wv D gl gc b m ag U uv hi t L (.slice ar L.length cr)):=⟨p1,Blk.set HG1.out.log 7 _,p2,p3,p4,HG1.out.bl⟩
 have HK2:Hid (Kt w (W1.setCell ⟨gl,7,none⟩ (.int .i64 (t:Int)))):=(Kt.of_below HBW.out).trans p5
 have HB2:Hid (Below base w (W1.setCell ⟨gl,7,none⟩ (.int .i64 (t:Int)))):=(HBW.out.mono h.sz).trans p6
 have HX2:Hid (Blk (W1.setCell ⟨gl,7,none⟩ (.int .i64 (t:Int))) w.heap.size #[.int .i64 (t:Int)] 3):=p5.keep HX1.out (by decide) (by decide) (by decide)
 have b0:W1.cell? ⟨w.heap.size,0,none⟩=some (.int .i64 (t:Int)):=HX1.out.cell 0 rfl
 have c7:W1.cell? ⟨gl,7,none⟩=some (.int .i64 (rel:Int)):=Blk.cell HG1.out.log 7 rfl
 have f7:W1.frozen? ⟨gl,7,none⟩=false:=Blk.free HG1.out.log 7
 obtain ⟨W2,HW2⟩:∃ W2,Hid (W2=W1.setCell ⟨gl,7,none⟩ (.int .i64 (t:Int))):=⟨_,rfl⟩
 rw [← HW2.out] at HG2 HK2 HB2 HX2
 have c8:W2.cell? ⟨gl,8,none⟩=some (.slice ar L.length cr):=Blk.cell HG2.out.log 8 rfl
 clear p1 p2 p3 p4 p5 p6 h ht
 go_enter Tryz.func108,Tryz.ntmps108
 go_upto_region 1 with fail
 rw [← HW1.out]
 go_upto_region 2 with fail
 rw [← HW2.out]
 go_wp2_with fail
 refine (rc_delete_none W2 base ar L.length cr L w.heap.size t HG2.out.recs HX2.out hl HT.out).mono ?_
 rintro e w3 ⟨rfl,hb3⟩
 have HG3:Hid (Lg w3 base g gs wv D gl gc b m ag U uv hi t L (.slice ar L.length cr)):=HG2.out.below hb3
 have HK3:Hid (Kt w w3):=HK2.out.trans (Kt.of_below hb3)
 have HB3:Hid (Below base w w3):=HB2.out.trans (hb3.mono HG2.out.sz)
 obtain ⟨p1,p2,p3,p4,p5,p6⟩:=HG3.out.put 8 (.slice ar L.length cr)
 have HG4:Hid (Lg (w3.setCell ⟨gl,8,none⟩ (.slice ar L.length cr)) base g gs wv D gl gc b m ag U uv hi t L (.slice ar L.length cr)):=⟨p1,Blk.set HG3.out.log 8 _,p2,p3,p4,HG3.out.bl⟩
 have HK4:Hid (Kt w (w3.setCell ⟨gl,8,none⟩ (.slice ar L.length cr))):=HK3.out.trans p5
 have HB4:Hid (Below base w (w3.setCell ⟨gl,8,none⟩ (.slice ar L.length cr))):=HB3.out.trans p6
 have d8:w3.cell? ⟨gl,8,none⟩=some (.slice ar L.length cr):=Blk.cell HG3.out.log 8 rfl
 have f8:w3.frozen? ⟨gl,8,none⟩=false:=Blk.free HG3.out.log 8
 clear p1 p2 p3 p4 p5 p6 hb3 c8 b0 c7 f7
 go_wp2
 go_returns
 exact ⟨rfl,HG4,HK4,HB4.out⟩
end
end Go.Proofs.YtoiennkfdjnkbaaGreatDoor
