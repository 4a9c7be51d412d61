import Derived.Test.YtoiennkfdjnkbaaGreatDoorPk12
import Derived.Test.YtoiennkfdjnkbaaGreatDoorPk11
import Derived.Test.YtoiennkfdjnkbaaGreatDoorPk00
import Derived.Deep.Cut
import Derived.Deep.RegionHeld3
import Derived.BigRegion
import Derived.Deep.RegionLaw
import Derived.Deep.QuietTactic
import Derived.BigQuiet
import Derived.Test.YtoiennkfdjnkbaaGreatDoorPk01
set_option maxRecDepth 100000
set_option maxHeartbeats 8000000
namespace Go.Proofs.YtoiennkfdjnkbaaGreatDoor
section
open Go.RowKit
theorem Lg.rec_ {w w5:World} {base g gs:Nat} {wv:Value} {D:Dk} {gl gc b m ag:Nat} {U:List Sg} {uv v5:Value} {hi rel:Nat} {L L5:List Rc} {rv:Value} (h:Lg w base g gs wv D gl gc b m ag U uv hi rel L rv) (hr:Rcs w5 base v5 L5) (hg:w.grownBy w5 rv.ownBlock) (hk:Kt w w5):Lg (w5.setCell ⟨gl,8,none⟩ v5) base g gs wv D gl gc b m ag U uv hi rel L5 v5∧Below base w5 (w5.setCell ⟨gl,8,none⟩ v5)∧Lc w5 gl g gc b m ag uv hi rel rv :=
 have hl:Lc w5 gl g gc b m ag uv hi rel rv:=Blk.grown h.log hg (own_ne h.recs.row h.log (by decide))
 have hk':Kt w5 (w5.setCell ⟨gl,8,none⟩ v5):=(Kt.refl w5).set hl (.inl rfl) 8 _
 have hu:Sgs w5 base uv U:=own_stay h.used (fun k hk2=>by
  have hlt:=(h.used.lt k hk2).2
  refine hg.block k hlt (fun e => ?_)
  rcases h.used.2 with ⟨a1,_⟩ | ⟨gr,cp,cur,a1,_,a3,_⟩
  ·rw [a1] at hk2;cases hk2
  ·rw [a1] at hk2
   simp only [Value.ownBlock,Option.some.injEq] at hk2
   subst hk2
   exact own_ne h.recs.row (show Blk w gr cur 169 from a3) (by decide) e)
 ⟨⟨(h.disk.kt hk).kt hk',Blk.set hl 8 _,hk'.keep (hk.keep h.cells (by decide) (by decide) (by decide)) (by decide) (by decide) (by decide),row_set hu (own_ne hu hl (by decide)),hr.set hl (.inl rfl),h.bl⟩,(Below.refl _ _).setCell h.bl _,hl⟩
theorem Own.bd {w:World} {B n c:Nat} {a:Option Addr} {bs:List Nat} (h:Own w B a n c bs) (hn:n≤4096):BdE w B a n bs:=by
 refine ⟨h.rd,?_⟩
 rcases h.row.2 with ⟨_,h0⟩ | ⟨g,cp,cur,hv,hb,hg,_⟩
 ·exact .inl h0
 ·cases hv
  exact .inr ⟨g,0,cur,_,rfl,⟨hb,hn⟩,hg⟩
theorem row_one {w:World} {B size:Nat} {e:TypeId} {v:Value} {xs:List Value} (h:w.ownsRow B e size v 1 xs):∃ gp cp cur,v=.slice (some ⟨gp,0,none⟩) 1 cp∧B≤gp∧Blk w gp cur e∧cur.toList.take size=xs:=by
 rcases h.2 with ⟨_,h0⟩ | ⟨gp,cp,cur,hv,hb,hg,_,_,_,hx⟩
 ·cases h0
 ·exact ⟨gp,cp,cur,hv,hb,hg,by rw [Nat.one_mul] at hx;exact hx⟩
theorem blk_take {w:World} {g n:Nat} {cur:Array Value} {e:TypeId} {xs:List Value} (h:Blk w g cur e) (hx:cur.toList.take n=xs):w.rangeAt g 0 xs:=fun j v hj=>by
 rw [Nat.zero_add]
 refine h.cell j ?_
 rw [← hx] at hj
 rw [List.getElem?_take] at hj
 split at hj
 ·simpa using hj
 ·cases hj
theorem Rd.same {w w':World} {g off n:Nat} {bs:List Nat} {cs:Array Value} {t:TypeId} (h:Rd w (some ⟨g,off,none⟩) n bs) (hb:Blk w g cs t) (hb':Blk w' g cs t):Rd w' (some ⟨g,off,none⟩) n bs:=by
 refine ⟨h.size,h.byte,?_⟩
 rcases h.cells with h0 | ⟨g',o,e,hg,hc⟩
 ·exact .inl h0
 ·cases e
  refine .inr ⟨g,off,rfl,hb'.lt,fun i hi => ?_⟩
  have:=hc i hi
  rw [cell_of_row w g (off+i) cs _ _ hb] at this
  rw [cell_of_row w' g (off+i) cs _ _ hb']
  exact this
theorem evl_Append0 (w:World) (base g gs:Nat) (wv:Value) (D:Dk) (gl gc b m ag:Nat) (uv:Value) (hi rel:Nat) (L:List Rc) (rv:Value) (D1 D2:Dk) (wb:Bool) (t:Nat) (ab:Option Addr) (nb cb:Nat) (bs:List Nat) (h:Lg w base g gs wv D gl gc b m ag [] uv hi rel L rv) (hsh:shutE D ag=0) (hb:b≤1000) (hm1:1≤m) (ht1:hi<t) (ht2:t≤1099511627776) (hw:D.waits.length≤900000000) (hwp:wipeL D 16 (b+2) false=(D1,wb,0)) (hsy:syncE D1=0) (hws:(syncD D1).waits.length<1000000000) (hwr:writeE (syncD D1) ((b+2:Nat):Int) (headL 1 hi)=0) (hD2:D2=writeD (syncD D1) ((b+2:Nat):Int) (headL 1 hi)) (hws2:D2.waits.length<1000000000) (hwr2:writeE D2 ((b+3:Nat):Int) (layE 2 true (KeyM.key (KeyM.up (t:Int))++bs))=0) (hbd:BdE w base ab nb bs) (hnc:nb≤cb) (hn51:nb≤51) (hnn:ab=none→cb=0) (hl:L.length≤100000) :
  Calls Tryz.prog 36 #[.pointer (some ⟨gl,0,none⟩),.int .i64 (t:Int),.slice ab nb cb] w fun e w'=>e=.returned (.int .i64 0)∧Hid (∃ wv' uv' rv' L',L'.map plR=L.map plR++[(t,bs)] ∧ Lg w' base g gs wv' (writeD D2 ((b+3:Nat):Int) (layE 2 true (KeyM.key (KeyM.up (t:Int))++bs))) gl gc b m ag [⟨b+2,1,t,2⟩] uv' t rel L' rv')∧Below base w w'∧Hid (Ft w w'):=by
 obtain ⟨au,cu,hv⟩:=h.used.val
 have hv':uv=.slice au 0 cu:=hv
 subst hv'
 obtain ⟨ar,cr,hrv⟩:=h.recs.val
 subst hrv
 have HG:Hid (Lg w base g gs wv D gl gc b m ag [] (.slice au 0 cu) hi rel L (.slice ar L.length cr)):=h
 have HSZ:Hid (base≤w.heap.size):=h.sz
 have HNE:Hid (∀ k,w.heap.size≤k→some k≠(Value.slice au 0 cu).ownBlock):=fun k hk e=>by have:=(h.used.lt _ e.symm).2;omega
 have HSH:=evl_shut w base g gs wv D gl gc b m ag hi rel (.slice au 0 cu) (.slice ar L.length cr) h.disk h.log
 rw [hsh] at HSH
 have HBD:Hid (BdE w base ab nb bs):=hbd
 have HLL:Hid (L.length≤100000):=hl
 have HW:Hid (D.waits.length≤900000000∧wipeL D 16 (b+2) false=(D1,wb,0)∧syncE D1=0∧(syncD D1).waits.length<1000000000∧writeE (syncD D1) ((b+2:Nat):Int) (headL 1 hi)=0):=⟨hw,hwp,hsy,hws,hwr⟩
 have HB2:Hid (b≤1000∧1≤m∧hi≤1099511627776):=⟨hb,hm1,by omega⟩
 obtain ⟨KB,HKB⟩:∃ KB,Hid (KB=KeyM.key (KeyM.up (t:Int))++bs):=⟨_,rfl⟩
 have HKL:Hid (KB.length=8+nb∧∀ x∈KB,x<256):=by
  (show _∧_)
  rw [HKB.out]
  refine ⟨by rw [List.length_append,hbd.1.size];simp [KeyM.key],fun x hx => ?_⟩
  rcases List.mem_append.1 hx with hx | hx
  ·exact KeyM.key_byte _ x hx
  ·exact hbd.1.byte x hx
 rw [← HKB.out] at hwr2 ⊢
 obtain ⟨P,hP⟩:∃ P,P=b+2:=⟨_,rfl⟩
 obtain ⟨Q,hQ⟩:∃ Q,Q=b+3:=⟨_,rfl⟩
 rw [← hQ] at hwr2 ⊢
 rw [← hP] at hD2 ⊢
 have HD2:Hid (D2=writeD (syncD D1) ((P:Nat):Int) (headL 1 hi)):=hD2
 have HP:Hid (P=b+2∧Q=P+1∧Q≤1003):=by (show _∧_∧_);omega
 have HWR2:Hid (D2.waits.length<1000000000∧writeE D2 (Q:Int) (layE 2 true KB)=0):=⟨hws2,hwr2⟩
 have q1:(P:Int)+1=(Q:Int):=by omega
 have q2:IntKind.i64.wrap (Q:Int)=(Q:Int):=by rw [IntKind.wrap_i64];omega
 have a1:¬ (400:Int)<(nb:Int):=by omega
 have a2:¬ (t:Int)≤(hi:Int):=by omega
 have a3:¬ (1099511627776:Int)<(t:Int):=by omega
 have HT:Hid (t≤1099511627776∧nb≤51∧nb≤cb∧(ab=none→cb=0)):=⟨ht2,hn51,hnc,hnn⟩
 clear h hv hsh hbd hl hw hwp hsy hws hwr hb hm1 hD2 hws2 hwr2 hnc hn51 hnn ht1 ht2 hP hQ
 go_enter Tryz.func36,Tryz.ntmps36
 go_wp2_with fail
 refine HSH.mono ?_
 rintro e w1 ⟨rfl,n1,hw1⟩
 have hb1:Below w.heap.size w w1:=by rw [hw1];exact below_drewN (Below.refl _ _) _
 have HG1:Hid (Lg w1 base g gs wv D gl gc b m ag [] (.slice au 0 cu) hi rel L (.slice ar L.length cr)):=HG.out.below hb1
 have HB1:Hid (Below w.heap.size w w1):=hb1
 have HD1:Hid (BdE w1 base ab nb bs):=HBD.out.kt (Kt.of_below hb1)
 have c6:w1.cell? ⟨gl,6,none⟩=some (.int .i64 (hi:Int)):=Blk.cell HG1.out.log 6 rfl
 clear hw1 hb1 HSH
 go_wp2_with fail
 refine (octet_Key (t:Int) (by have:=HT.out;omega) w1).mono ?_
 rintro e w2 ⟨a2',rfl,ho2,hb2⟩
 have HG2:Hid (Lg w2 base g gs wv D gl gc b m ag [] (.slice au 0 cu) hi rel L (.slice ar L.length cr)):=HG1.out.below hb2
 have HB2':Hid (Below w.heap.size w w2):=HB1.out.trans (hb2.mono HB1.out.size)
 have HD2':Hid (BdE w2 base ab nb bs):=HD1.out.kt (Kt.of_below hb2)
 have HO2:Hid (Own w2 w1.heap.size (some a2') 8 8 (KeyM.key (KeyM.up (t:Int)))):=ho2
 have HS2:Hid (w1.heap.size≤w2.heap.size):=hb2.size
 have HX2:Hid (Below w1.heap.size w1 w2):=hb2
 clear ho2 hb2 c6 a1 a2 a3
 go_wp2_with (at_builtin;refine wpList_append_rd rfl (.tmp 33) (.tmp 34) rfl w1.heap.size (some a2') 8 8 _ rfl HO2.out ab nb cb bs rfl HD2'.out.1 HT.out.2.2.2 (by have:=HT.out;omega) HS2.out ?_)
 intro a3 c3 w3 ho3 hg3 hb3
 have HX3:Hid (Below w1.heap.size w1 w3):=HX2.out.trans hb3
 have HG3:Hid (Lg w3 base g gs wv D gl gc b m ag [] (.slice au 0 cu) hi rel L (.slice ar L.length cr)):=HG1.out.below HX3.out
 have HB3:Hid (Below w.heap.size w w3):=HB1.out.trans (HX3.out.mono HB1.out.size)
 have HD3:Hid (BdE w3 base ab nb bs):=HD1.out.kt (Kt.of_below HX3.out)
 obtain ⟨g3,cur3,HA3⟩:∃ g3 cur3,Hid (a3=some ⟨g3,0,none⟩∧Blk w3 g3 cur3 5∧Rd w3 a3 (8+nb) KB∧8+nb≤c3):=by
  rcases ho3.row.2 with ⟨_,h0⟩ | ⟨gg,cp,cur,hv,hbg,hgg,hlc,_⟩
  ·omega
  ·cases hv
   exact ⟨gg,cur,rfl,hgg,by rw [HKB.out];exact ho3.rd,hlc⟩
 have ha3:=HA3.out.1
 subst ha3
 clear ho3 hg3 hb3
 go_wp2_with fail
 refine (evl_cut1 w3 g3 0 (8+nb) c3 (by omega) (by have:=HT.out;omega) HA3.out.2.2.2).mono ?_
 rintro e w4 ⟨ht4,hb4⟩
 obtain ⟨v4,rfl,ho4⟩:=ht4.out
 obtain ⟨gp,cp,curp,rfl,hgp,hkp,hxp⟩:=row_one ho4
 have HG4:Hid (Lg w4 base g gs wv D gl gc b m ag [] (.slice au 0 cu) hi rel L (.slice ar L.length cr)):=HG3.out.below hb4
 have HB4:Hid (Below w.heap.size w w4):=HB3.out.trans (hb4.mono HB3.out.size)
 have HD4:Hid (BdE w4 base ab nb bs):=HD3.out.kt (Kt.of_below hb4)
 have HK4:Hid (Blk w4 gp curp 173∧Blk w4 g3 cur3 5∧Rd w4 (some ⟨g3,0,none⟩) (8+nb) KB):=⟨hkp,HA3.out.2.1.stay hb4,HA3.out.2.2.1.below hb4⟩
 have HXP:Hid (curp.toList.take 3=[.int .u8 2,.bool true,.slice (some ⟨g3,0,none⟩) (8+nb) (8+nb)]):=hxp
 clear ht4 ho4 hb4 hkp hxp hgp
 have HSG:=evl_segFor0 w4 base g gs wv D gl gc b m ag (.slice au 0 cu) hi rel L (.slice ar L.length cr) D1 wb 1 HG4.out HB2.out.1 HB2.out.2.1 HB2.out.2.2 HW.out.1 HW.out.2.1 HW.out.2.2.1 HW.out.2.2.2.1 HW.out.2.2.2.2
 rw [← HP.out.1,← HD2.out,show sgc ⟨P,1,hi,1⟩=[.int .i64 (P:Int),.int .i64 1,.int .i64 (hi:Int),.int .i64 1] from rfl] at HSG
 go_wp2_with fail
 refine HSG.mono ?_
 rintro e w5 ⟨rfl,hg5,hm5⟩
 obtain ⟨wv5,hg5⟩:=hg5.out
 have HO4:=fun {k:Nat} {cs:Array Value} {ty:TypeId} (hb:Blk w4 k cs ty) (h1:ty≠70) (h2:ty≠244) (h3:ty≠246)=>(hm5.keep hb (HG4.out.disk.off hb h1 h2).1 (HG4.out.disk.off hb h1 h2).2 h3:Blk w5 k cs ty)
 have HK5:Hid (Blk w5 gp curp 173∧Blk w5 g3 cur3 5):=⟨HO4 HK4.out.1 (by decide) (by decide) (by decide),HO4 HK4.out.2.1 (by decide) (by decide) (by decide)⟩
 have HR5:Hid (Rd w5 (some ⟨g3,0,none⟩) (8+nb) KB):=HK4.out.2.2.same HK4.out.2.1 HK5.out.2
 have HF5:Hid (Ft w w5):=(Ft.of_below HB4.out).trans (Ft.of_mv HG4.out.disk hm5)
 have HG5:Hid (Lg w5 base g gs wv5 D2 gl gc b m ag [] (.slice au 0 cu) hi rel L (.slice ar L.length cr)):=hg5
 have HD5:Hid (BdE w5 base ab nb bs):=HD4.out.mv HG4.out.disk hm5
 have HB5:Hid (Below base w w5):=(HB4.out.mono HSZ.out).trans hm5.low
 obtain ⟨W6,HW6⟩:∃ W6,Hid (W6=w5.alloc (.cells #[.int .i64 (P:Int),.int .i64 1,.int .i64 (hi:Int),.int .i64 1] 169)):=⟨_,rfl⟩
 have HBW6:Hid (Below w5.heap.size w5 W6):=by (show Below _ _ _);rw [HW6.out];exact below_alloc _ _
 have HK6:Hid (Blk W6 w5.heap.size #[.int .i64 (P:Int),.int .i64 1,.int .i64 (hi:Int),.int .i64 1] 169):=by (show Blk _ _ _ _);rw [HW6.out];exact Blk.new _ _ _
 have HR6:Hid (W6.rangeAt gp 0 [.int .u8 2,.bool true,.slice (some ⟨g3,0,none⟩) (8+nb) (8+nb)]):=blk_take (HK5.out.1.stay HBW6.out) HXP.out
 obtain ⟨W7,HW7⟩:∃ W7,Hid (W7=W6.alloc (.cells #[.int .u8 2,.bool true,.slice (some ⟨g3,0,none⟩) (8+nb) (8+nb)] 173)):=⟨_,rfl⟩
 have HBW7:Hid (Below W6.heap.size W6 W7):=by (show Below _ _ _);rw [HW7.out];exact below_alloc _ _
 have HB67:Hid (Below w5.heap.size w5 W7):=HBW6.out.trans (HBW7.out.mono HBW6.out.size)
 have HK7:Hid (Blk W7 w5.heap.size #[.int .i64 (P:Int),.int .i64 1,.int .i64 (hi:Int),.int .i64 1] 169):=HK6.out.stay HBW7.out
 have HP7:Hid (Blk W7 W6.heap.size #[.int .u8 2,.bool true,.slice (some ⟨g3,0,none⟩) (8+nb) (8+nb)] 173):=by (show Blk _ _ _ _);rw [HW7.out];exact Blk.new _ _ _
 have HG7:Hid (Lg W7 base g gs wv5 D2 gl gc b m ag [] (.slice au 0 cu) hi rel L (.slice ar L.length cr)):=HG5.out.below HB67.out
 have HB7:Hid (Below base w W7):=HB5.out.trans (HB67.out.mono HG5.out.sz)
 have HD7:Hid (BdE W7 base ab nb bs):=HD5.out.kt (Kt.of_below HB67.out)
 have HR7:Hid (Rd W7 (some ⟨g3,0,none⟩) (8+nb) KB):=HR5.out.below HB67.out
 have HSZ5:Hid (w.heap.size≤w5.heap.size):=Nat.le_trans HB4.out.size hm5.low.size
 clear hg5 hm5 HO4 HSG
 go_upto_region 12 with fail
 rw [← HW6.out]
 go_wp2_with fail
 refine wp_loop_rounds 2 ?_
 rw [rounds_succ]
 go_upto_region 15 with (guard_target =~ wpList _ _ _ (Oper.mk (some 52) _ _ _ _ _ :: _) _ _;refine wpList_load_mid rfl 173 (.tmp 51) rfl gp 0 rfl [.int .u8 2,.bool true,.slice (some ⟨g3,0,none⟩) (8+nb) (8+nb)] _ HR6.out Tryz.underlying173 rfl (by rfl) ?_)
 rw [← HW7.out]
 have HSS:Hid (∀ W':World,Lc W' gl g gc b m ag (.slice au 0 cu) hi rel (.slice ar L.length cr)→Blk W' w5.heap.size #[.int .i64 (P:Int),.int .i64 1,.int .i64 (hi:Int),.int .i64 1] 169→Blk W' W6.heap.size #[.int .u8 2,.bool true,.slice (some ⟨g3,0,none⟩) (8+nb) (8+nb)] 173→W'.cell? ⟨gl,0,none⟩=some (.pointer (some ⟨g,0,none⟩))∧W'.cell? ⟨w5.heap.size,0,none⟩=some (.int .i64 (P:Int))∧W'.cell? ⟨w5.heap.size,3,none⟩=some (.int .i64 1)∧W'.cell? ⟨W6.heap.size,0,none⟩=some (.int .u8 2)∧W'.cell? ⟨W6.heap.size,1,none⟩=some (.bool true)∧W'.cell? ⟨W6.heap.size,2,none⟩=some (.slice (some ⟨g3,0,none⟩) (8+nb) (8+nb))):=fun W' h1 h2 h3=>⟨Blk.cell h1 0 rfl,h2.cell 0 rfl,h2.cell 3 rfl,h3.cell 0 rfl,h3.cell 1 rfl,h3.cell 2 rfl⟩
 have s0:=HSS.out W7 HG7.out.log HK7.out HP7.out
 have HBD7:Hid (Below W7.heap.size W7 W7.drew):=(Below.refl _ _).drew
 have HRW:Hid (∀ (W W':World) (q:Nat),Disk W base g gs wv5 D2→Blk W q (vb (layE 2 true KB)).toArray 243→Mv W W' base g gs→Rd W' (some ⟨q,0,none⟩) 64 (layE 2 true KB)):=fun W W' q hd hq hM=>by
  have hsec:Sec (layE 2 true KB):=layE_sec (by omega) (by have:=HKL.out.1;have:=HT.out;omega) HKL.out.2
  have hb':=hM.keep hq (hd.off hq (by decide) (by decide)).1 (hd.off hq (by decide) (by decide)).2 (by decide)
  have:=Rd.of_blk hb' hsec.byte
  rw [hsec.len] at this
  exact this
 go_region_held3 (fun w'=>w'.cell? ⟨gl,0,none⟩=some (.pointer (some ⟨g,0,none⟩))∧w'.cell? ⟨w5.heap.size,0,none⟩=some (.int .i64 (P:Int))∧w'.cell? ⟨w5.heap.size,3,none⟩=some (.int .i64 1)∧w'.cell? ⟨W6.heap.size,0,none⟩=some (.int .u8 2)∧w'.cell? ⟨W6.heap.size,1,none⟩=some (.bool true)∧w'.cell? ⟨W6.heap.size,2,none⟩=some (.slice (some ⟨g3,0,none⟩) (8+nb) (8+nb))) (first | exact s0 | exact s8 | exact s9 | fail)
  (first
   | (go_at_call 94;refine (evl_lay 2 true (some ⟨g3,0,none⟩) (8+nb) (8+nb) KB W7.drew (HR7.out.below HBD7.out) (by have:=HT.out;omega)).mono ?_;rintro e w8 ⟨q8,rfl,hq8,hk8,hb8⟩;have HX8:Hid (Below W7.heap.size W7 w8):=HBD7.out.trans (hb8.mono HBD7.out.size);have HG8:Hid (Lg w8 base g gs wv5 D2 gl gc b m ag [] (.slice au 0 cu) hi rel L (.slice ar L.length cr)):=HG7.out.below HX8.out;have HQ8:Hid (Blk w8 q8 (vb (layE 2 true KB)).toArray 243):=hk8;have s8:=HSS.out w8 HG8.out.log (HK7.out.stay HX8.out) (HP7.out.stay HX8.out);clear hq8 hk8 hb8)
   | (go_at_call 93;refine (disk_Write w8 base g gs wv5 D2 (Q:Int) (some ⟨q8,0,none⟩) 64 64 (layE 2 true KB) HG8.out.disk (fun W' hM=>HRW.out w8 W' q8 HG8.out.disk HQ8.out hM) (by omega) HWR2.out.1).mono ?_;rw [HWR2.out.2];rintro e w9 ⟨rfl,hd9,hm9⟩;have HM9:Hid (Mv w8 w9 base g gs):=hm9;have HD9:Hid (∃ wv',Lg w9 base g gs wv' (writeD D2 (Q:Int) (layE 2 true KB)) gl gc b m ag [] (.slice au 0 cu) hi rel L (.slice ar L.length cr)):=hd9.out.elim fun wv9 hq9=>⟨wv9,HG8.out.mv hm9 hq9⟩;have HKS9:Hid (Blk w9 w5.heap.size #[.int .i64 (P:Int),.int .i64 1,.int .i64 (hi:Int),.int .i64 1] 169∧Blk w9 W6.heap.size #[.int .u8 2,.bool true,.slice (some ⟨g3,0,none⟩) (8+nb) (8+nb)] 173):=⟨hm9.keep (HK7.out.stay HX8.out) (HG8.out.disk.off (HK7.out.stay HX8.out) (by decide) (by decide)).1 (HG8.out.disk.off (HK7.out.stay HX8.out) (by decide) (by decide)).2 (by decide),hm9.keep (HP7.out.stay HX8.out) (HG8.out.disk.off (HP7.out.stay HX8.out) (by decide) (by decide)).1 (HG8.out.disk.off (HP7.out.stay HX8.out) (by decide) (by decide)).2 (by decide)⟩;have s9:=HD9.out.elim fun wv9 hl9=>HSS.out w9 hl9.log HKS9.out.1 HKS9.out.2;clear hd9 hm9))
 obtain ⟨wv9,hg9⟩:=HD9.out
 have HG9:Hid (Lg w9 base g gs wv9 (writeD D2 (Q:Int) (layE 2 true KB)) gl gc b m ag [] (.slice au 0 cu) hi rel L (.slice ar L.length cr)):=hg9
 have HB9:Hid (Below base w w9):=(HB7.out.trans (HX8.out.mono HG7.out.sz)).trans HM9.out.low
 have HF9:Hid (Ft w w9):=((HF5.out.trans (Ft.of_below HB67.out)).trans (Ft.of_below HX8.out)).trans (Ft.of_mv HG8.out.disk HM9.out)
 have HB9':Hid (BdE w9 base ab nb bs):=(HD7.out.kt (Kt.of_below HX8.out)).mv HG8.out.disk HM9.out
 clear s0 s8 s9 hg9 q1 q2
 have k3:w9.cell? ⟨w5.heap.size,3,none⟩=some (.int .i64 1):=HKS9.out.1.cell 3 rfl
 have f3:w9.frozen? ⟨w5.heap.size,3,none⟩=false:=HKS9.out.1.free 3
 have HKA:Hid (Blk (w9.setCell ⟨w5.heap.size,3,none⟩ (.int .i64 2)) w5.heap.size #[.int .i64 (P:Int),.int .i64 1,.int .i64 (hi:Int),.int .i64 2] 169):=HKS9.out.1.set 3 _
 have HGA:Hid (Lg (w9.setCell ⟨w5.heap.size,3,none⟩ (.int .i64 2)) base g gs wv9 (writeD D2 (Q:Int) (layE 2 true KB)) gl gc b m ag [] (.slice au 0 cu) hi rel L (.slice ar L.length cr)):=HG9.out.aside HKS9.out.1 (HNE.out _ HSZ5.out) 3 _
 have HDA:Hid (BdE (w9.setCell ⟨w5.heap.size,3,none⟩ (.int .i64 2)) base ab nb bs):=HB9'.out.kt ((Kt.refl _).set HKS9.out.1 (.inr (.inl rfl)) 3 _)
 have HSB:Hid (base≤w5.heap.size):=Nat.le_trans HSZ.out HSZ5.out
 have HBA:Hid (Below base w (w9.setCell ⟨w5.heap.size,3,none⟩ (.int .i64 2))):=HB9.out.setCell HSB.out _
 have HFA:Hid (Ft w (w9.setCell ⟨w5.heap.size,3,none⟩ (.int .i64 2))):=HF9.out.trans (Ft.of_kt ((Kt.refl _).set HKS9.out.1 (.inr (.inl rfl)) 3 _))
 obtain ⟨WA,HWA⟩:∃ WA,Hid (WA=w9.setCell ⟨w5.heap.size,3,none⟩ (.int .i64 2)):=⟨_,rfl⟩
 rw [← HWA.out] at HKA HGA HDA HBA HFA
 go_wp2_with fail
 rw [← HWA.out,rounds_succ]
 clear k3 f3
 have k2:WA.cell? ⟨w5.heap.size,2,none⟩=some (.int .i64 (hi:Int)):=HKA.out.cell 2 rfl
 have f2:WA.frozen? ⟨w5.heap.size,2,none⟩=false:=HKA.out.free 2
 obtain ⟨WB,HWB⟩:∃ WB,Hid (WB=WA.setCell ⟨w5.heap.size,2,none⟩ (.int .i64 (t:Int))):=⟨_,rfl⟩
 have HKB2:Hid (Blk WB w5.heap.size #[.int .i64 (P:Int),.int .i64 1,.int .i64 (t:Int),.int .i64 2] 169):=by (show Blk _ _ _ _);rw [HWB.out];exact HKA.out.set 2 _
 have HGB:Hid (Lg WB base g gs wv9 (writeD D2 (Q:Int) (layE 2 true KB)) gl gc b m ag [] (.slice au 0 cu) hi rel L (.slice ar L.length cr)):=by (show Lg _ _ _ _ _ _ _ _ _ _ _ _ _ _ _ _ _);rw [HWB.out];exact HGA.out.aside HKA.out (HNE.out _ HSZ5.out) 2 _
 have HDB:Hid (BdE WB base ab nb bs):=by (show BdE _ _ _ _ _);rw [HWB.out];exact HDA.out.kt ((Kt.refl _).set HKA.out (.inr (.inl rfl)) 2 _)
 have HBB:Hid (Below base w WB):=by (show Below _ _ _);rw [HWB.out];exact HBA.out.setCell HSB.out _
 have HFB:Hid (Ft w WB):=by (show Ft _ _);rw [HWB.out];exact HFA.out.trans (Ft.of_kt ((Kt.refl _).set HKA.out (.inr (.inl rfl)) 2 _))
 have HRB:Hid (WB.rangeAt w5.heap.size 0 [.int .i64 (P:Int),.int .i64 1,.int .i64 (t:Int),.int .i64 2]):=fun j v hj=>by rw [Nat.zero_add];exact HKB2.out.cell j (by simpa using hj)
 have HKP:=evl_keep0 WB base g gs wv9 (writeD D2 (Q:Int) (layE 2 true KB)) gl gc b m ag (.slice au 0 cu) hi rel L (.slice ar L.length cr) ⟨P,1,t,2⟩ HGB.out
 rw [show sgc ⟨P,1,t,2⟩=[.int .i64 (P:Int),.int .i64 1,.int .i64 (t:Int),.int .i64 2] from rfl] at HKP
 go_upto_region 21 with fail
 rw [← HWB.out]
 clear k2 f2
 go_wp2_with (guard_target =~ wpList _ _ _ (Oper.mk (some 76) _ _ _ _ _ :: _) _ _;refine wpList_load_mid rfl 169 (.tmp 9) rfl w5.heap.size 0 rfl [.int .i64 (P:Int),.int .i64 1,.int .i64 (t:Int),.int .i64 2] _ HRB.out Tryz.underlying169 rfl (by rfl) ?_)
 refine HKP.mono ?_
 rintro e wC ⟨rfl,hgC,hkC,hbC⟩
 obtain ⟨uvC,hgC⟩:=hgC.out
 have HGC:Hid (Lg wC base g gs wv9 (writeD D2 (Q:Int) (layE 2 true KB)) gl gc b m ag [⟨P,1,t,2⟩] uvC hi rel L (.slice ar L.length cr)):=hgC
 have HDC:Hid (BdE wC base ab nb bs):=HDB.out.kt hkC.out
 have HBC:Hid (Below base w wC):=HBB.out.trans hbC
 have HFC:Hid (Ft w wC):=HFB.out.trans (Ft.of_kt hkC.out)
 clear hgC hkC hbC HKP
 have c6:wC.cell? ⟨gl,6,none⟩=some (.int .i64 (hi:Int)):=Blk.cell HGC.out.log 6 rfl
 have f6:wC.frozen? ⟨gl,6,none⟩=false:=Blk.free HGC.out.log 6
 obtain ⟨p1,p2,p3,p4,p5,p6⟩:=HGC.out.put 6 (.int .i64 (t:Int))
 obtain ⟨WD,HWD⟩:∃ WD,Hid (WD=wC.setCell ⟨gl,6,none⟩ (.int .i64 (t:Int))):=⟨_,rfl⟩
 rw [← HWD.out] at p1 p2 p3 p4 p5 p6
 have HGD:Hid (Lg WD base g gs wv9 (writeD D2 (Q:Int) (layE 2 true KB)) gl gc b m ag [⟨P,1,t,2⟩] uvC t rel L (.slice ar L.length cr)):=⟨p1,by rw [HWD.out];exact Blk.set HGC.out.log 6 _,p2,p3,p4,HGC.out.bl⟩
 have HDD:Hid (BdE WD base ab nb bs):=HDC.out.kt p5
 have HBDD:Hid (Below base w WD):=HBC.out.trans p6
 have HFD:Hid (Ft w WD):=HFC.out.trans (Ft.of_kt p5)
 clear p1 p2 p3 p4 p5 p6
 go_upto_region 23 with fail
 rw [← HWD.out]
 clear c6 f6
 have c8:WD.cell? ⟨gl,8,none⟩=some (.slice ar L.length cr):=Blk.cell HGD.out.log 8 rfl
 have HXD:Hid (Below WD.heap.size WD WD.drew):=(Below.refl _ _).drew
 have HGD':Hid (Lg WD.drew base g gs wv9 (writeD D2 (Q:Int) (layE 2 true KB)) gl gc b m ag [⟨P,1,t,2⟩] uvC t rel L (.slice ar L.length cr)):=HGD.out.below HXD.out
 have HDD':Hid (BdE WD.drew base ab nb bs):=HDD.out.kt (Kt.of_below HXD.out)
 have HBD':Hid (Below base w WD.drew):=HBDD.out.drew
 have HFD':Hid (Ft w WD.drew):=HFD.out.trans (Ft.of_below HXD.out)
 go_region_law (first
  | (guard_target =~ (if Region.wanted (Oper.mk (some 92) _ _ _ _ _) _=true then _ else _);refine step_append_rc rfl (.tmp 86) (.tmp 91) rfl base _ L rfl (by rw [← HWF.out];exact HGF.out.recs) wE.heap.size 1 ⟨t,aE,nb,cE,bs⟩ rfl (by rw [← HWF.out];exact HKF.out) (by rw [← HWF.out];exact HDF.out) (by have:=HLL.out;omega) (by rw [← HWF.out];exact HGF.out.sz) ?_;rw [← HWF.out];intro vG wG hrG hgG hbG hkG;obtain ⟨hG,hB,hL⟩:=HGF.out.rec_ hrG hgG hkG;have d8:wG.cell? ⟨gl,8,none⟩=some (.slice ar L.length cr):=Blk.cell hL 8 rfl;have f8:wG.frozen? ⟨gl,8,none⟩=false:=Blk.free hL 8;have HFIN:Hid (Lg (wG.setCell ⟨gl,8,none⟩ vG) base g gs wv9 (writeD D2 (Q:Int) (layE 2 true KB)) gl gc b m ag [⟨P,1,t,2⟩] uvC t rel (L++[⟨t,aE,nb,cE,bs⟩]) vG∧Below base w (wG.setCell ⟨gl,8,none⟩ vG)∧Hid (Ft w (wG.setCell ⟨gl,8,none⟩ vG))):=⟨hG,(HBF.out.trans hbG).trans hB,HFF.out.trans (Ft.of_kt (hkG.set hL (.inl rfl) 8 _))⟩;obtain ⟨aG,cG,hvG⟩:=hrG.val;subst hvG;clear hrG hgG hbG hkG hG hB hL)
  | (go_simp;go_at_call 96;refine (evl_bytes_Clone ab nb cb bs WD.drew HDD'.out.1 (by have:=HT.out;omega)).mono ?_;rintro e wE ⟨aE,cE,rfl,hoE,hbE⟩;have HGE:Hid (Lg wE base g gs wv9 (writeD D2 (Q:Int) (layE 2 true KB)) gl gc b m ag [⟨P,1,t,2⟩] uvC t rel L (.slice ar L.length cr)):=HGD'.out.below hbE;have HDE:Hid (BdE wE base aE nb bs):=(hoE.bd (by have:=HT.out;omega)).lower HGD'.out.sz;have HBE:Hid (Below base w wE):=HBD'.out.trans (hbE.mono HGD'.out.sz);obtain ⟨WF,HWF⟩:∃ WF,Hid (WF=wE.alloc (.cells #[.int .i64 (t:Int),.slice aE nb cE] 178)):=⟨_,rfl⟩;have HXF:Hid (Below wE.heap.size wE WF):=(by (show Below _ _ _);rw [HWF.out];exact below_alloc _ _);have HGF:Hid (Lg WF base g gs wv9 (writeD D2 (Q:Int) (layE 2 true KB)) gl gc b m ag [⟨P,1,t,2⟩] uvC t rel L (.slice ar L.length cr)):=HGE.out.below HXF.out;have HKF:Hid (Blk WF wE.heap.size #[.int .i64 (t:Int),.slice aE nb cE] 178):=(by (show Blk _ _ _ _);rw [HWF.out];exact Blk.new _ _ _);have HDF:Hid (BdE WF base aE nb bs):=HDE.out.kt (Kt.of_below HXF.out);have HBF:Hid (Below base w WF):=HBE.out.trans (HXF.out.mono HGE.out.sz);have HFF:Hid (Ft w WF):=(HFD'.out.trans (Ft.of_below hbE)).trans (Ft.of_below HXF.out);have e8:wE.cell? ⟨gl,8,none⟩=some (.slice ar L.length cr):=Blk.cell HGE.out.log 8 rfl;have g8:(wE.alloc (.cells #[.int .i64 (t:Int),.slice aE nb cE] 178)).cell? ⟨gl,8,none⟩=some (.slice ar L.length cr):=Blk.cell (HGE.out.log.stay (below_alloc _ _)) 8 rfl;clear hoE hbE;go_simp))
 all_goals
  rw [show (L++[(⟨t,aE,nb,cE,bs⟩:Rc)]).length=L.length+1 from by simp] at HFIN
  clear d8 f8 c8 e8 g8
  go_wp2
  go_returns
  exact ⟨rfl,⟨wv9,uvC,_,_,by rw [List.map_append];rfl,HFIN.out.1⟩,HFIN.out.2.1,HFIN.out.2.2⟩
end
section
open Go.RowKit
theorem evl_OpenNew (w:World) (base g gs:Nat) (wv:Value) (D:Dk) (b m:Nat) (h:Disk w base g gs wv D) (hdn:D.down=false) (hm2:2≤m) (hm:m≤16) (hb:b+2+m * 16≤D.sure.length) (hr:(getB D b 1 0).1=0) (hall:readAllF D (headsF D b m) 0 [] = ([],0,[])) (hone:(headsF D b m).length≤1) :
  Calls Tryz.prog 137 #[.pointer (some ⟨g,0,none⟩),.int .i64 (b:Int),.int .i64 (m:Int)] w fun e w'=>Hid (∃ gl gc uv' rv',e=.returned (.tuple #[.pointer (some ⟨gl,0,none⟩),.int .i64 0])∧w.heap.size≤gl∧Lg w' base g gs wv D gl gc b m D.age [] uv' 0 0 [] rv')∧Hid (Kt w w')∧Below base w w':=by
 have HD:Hid (Disk w base g gs wv D):=h
 have hsz:=h.sz
 have HBS:Hid (base≤w.heap.size):=Nat.le_trans h.bg (Nat.le_of_lt h.blk.lt)
 have HR:Hid (readAllF D (headsF D b m) 0 [] = ([],0,[])):=hall
 have HDW:Hid (Calls Tryz.prog 26 #[.pointer (some ⟨g,0,none⟩)] w fun e w'=>e=.returned (.bool false)∧w'=w):=by
  have:=disk_Down w base g gs wv D h
  rw [hdn] at this
  exact this
 obtain ⟨n,hn⟩:∃ n,n=D.sure.length:=⟨_,rfl⟩
 have HSI:Hid (Calls Tryz.prog 25 #[.pointer (some ⟨g,0,none⟩)] w fun e w'=>e=.returned (.int .i64 (n:Int))∧w'=w):=by
  have:=disk_Size w base g gs wv D h
  rw [← hn] at this
  exact this
 rw [← hn] at hb hsz
 obtain ⟨P,hP⟩:∃ P,P=n - 2:=⟨_,rfl⟩
 obtain ⟨Q,hQ⟩:∃ Q,Q=m * 16:=⟨_,rfl⟩
 obtain ⟨R,hR⟩:∃ R,R=P - Q:=⟨_,rfl⟩
 have a1:¬ (m:Int)<2:=by omega
 have a2:¬ (16:Int)<(m:Int):=by omega
 have a3:¬ (b:Int)<0:=by omega
 have q1:(n:Int) - 2=(P:Int):=by omega
 have q2:IntKind.i64.wrap (P:Int)=(P:Int):=by rw [IntKind.wrap_i64];omega
 have q3:(m:Int) * 16=(Q:Int):=by omega
 have q4:IntKind.i64.wrap (Q:Int)=(Q:Int):=by rw [IntKind.wrap_i64];omega
 have q5:(P:Int) - (Q:Int)=(R:Int):=by omega
 have q6:IntKind.i64.wrap (R:Int)=(R:Int):=by rw [IntKind.wrap_i64];omega
 have a4:¬ (R:Int)<(b:Int):=by omega
 have HMO:=mark_Open w base g gs wv D (b:Int) 1 h
 have HN:Hid (n=D.sure.length∧b+2+m * 16≤n):=⟨hn,hb⟩
 clear h hdn hn hP hQ hR hb hsz
 go_enter Tryz.func137,Tryz.ntmps137
 go_upto_region 7 with (first
  | (go_at_call 26;refine HDW.out.mono ?_;rintro e w2 ⟨rfl,hw2⟩;rw [hw2];clear hw2 w2)
  | (go_at_call 25;refine HSI.out.mono ?_;rintro e w2 ⟨rfl,hw2⟩;rw [hw2];clear hw2 w2))
 clear a1 a2 a3 a4 q1 q2 q3 q4 q5 q6 HDW HSI
 go_wp2_with fail
 refine HMO.mono ?_
 rintro e w1 ⟨ht1,hb1⟩
 rcases ht1.out with ⟨hno,_⟩ | ⟨_,rfl,hc1⟩
 ·exact absurd (show mayC D.sure.length (b:Int) 1 from ⟨by omega,by omega,by have:=HN.out;omega⟩) hno
 ·rw [Int.toNat_natCast] at hc1
  have HC1:Hid (Cs w1 w.heap.size g b 1):=hc1
  have HD1:Hid (Disk w1 base g gs wv D):=HD.out.stay hb1
  have HB1:Hid (Below base w w1):=hb1.mono HBS.out
  have HSZ:Hid (w.heap.size≤w1.heap.size):=hb1.size
  have HAG:=disk_Age w1 base g gs wv D HD1.out
  obtain ⟨W2,HW2⟩:∃ W2,Hid (W2=w1.alloc (.cells #[.pointer (some ⟨g,0,none⟩),.pointer (some ⟨w.heap.size,0,none⟩),.int .i64 (b:Int),.int .i64 (m:Int),.int .i64 (D.age:Int),.slice none 0 0,.int .i64 0,.int .i64 0,.slice none 0 0] 164)):=⟨_,rfl⟩
  have HBW:Hid (Below w1.heap.size w1 W2):=by (show Below _ _ _);rw [HW2.out];exact below_alloc _ _
  have HG2:Hid (Lg W2 base g gs wv D w1.heap.size w.heap.size b m D.age [] (.slice none 0 0) 0 0 [] (.slice none 0 0)):=by
   (show Lg _ _ _ _ _ _ _ _ _ _ _ _ _ _ _ _ _)
   refine ⟨HD1.out.stay HBW.out,?_,HC1.out.stay HBW.out,Sgs.nil _ _,⟨World.ownsRow_nil _ _ _ _,fun r hr=>by cases hr⟩,Nat.le_trans HBS.out HSZ.out⟩
   rw [HW2.out]
   exact Blk.new _ _ _
  have HB2:Hid (Below base w W2):=HB1.out.trans (HBW.out.mono (Nat.le_trans HBS.out HSZ.out))
  have HRD:=evl_read W2 base g gs wv D w1.heap.size w.heap.size b m D.age [] (.slice none 0 0) 0 0 (.slice none 0 0) 0 HG2.out (by have:=HN.out;have:=HD.out.sz;omega) (by omega) (by omega) hr hone (by rw [HR.out];intro p hp;cases hp)
  rw [HR.out] at HRD
  simp only at HRD
  have HKW:Hid (Kt w W2):=(Kt.of_below hb1).trans (Kt.of_below HBW.out)
  clear HMO ht1 hb1 hc1
  go_upto_region 11 with (go_at_call 28;refine HAG.mono ?_;rintro e w2 ⟨rfl,hw2⟩;rw [hw2];clear hw2 w2)
  rw [← HW2.out]
  clear HAG
  go_wp2_with fail
  refine HRD.mono ?_
  rintro e w3 ⟨rfl,hh3,hk3,hb3⟩
  obtain ⟨uv3,rv3,L3,he3,hg3⟩:=hh3.out
  obtain rfl:L3=[]:=by cases L3 with | nil=>rfl | cons x y=>cases he3
  have HK3:Hid (Kt w w3):=HKW.out.trans hk3.out
  have HB3:Hid (Below base w w3):=HB2.out.trans hb3
  have hg3':Lg w3 base g gs wv D w1.heap.size w.heap.size b m D.age [] uv3 0 0 [] rv3:=by simpa using hg3
  have HG3:Hid (Lg w3 base g gs wv D w1.heap.size w.heap.size b m D.age [] uv3 0 0 [] rv3):=hg3'
  have HTD:=evl_tidy0 w3 base g gs wv D w1.heap.size w.heap.size b m D.age uv3 0 0 [] rv3 hg3'
  clear hh3 hk3 hb3 he3 hg3 hg3' HRD
  go_wp2_with fail
  refine HTD.mono ?_
  rintro e w4 ⟨rfl,hw4⟩
  rw [hw4]
  clear hw4 w4 HTD
  go_wp2
  go_returns
  exact ⟨⟨w1.heap.size,w.heap.size,uv3,rv3,rfl,HSZ.out,HG3.out⟩,HK3.out,HB3.out⟩
end
section
open Go.RowKit
theorem br_isBroker (nb at_:Int) (ln ps ss sc:Value) (h0:0≤at_) (h1:at_<nb) (w:World):Calls Tryz.prog 24 #[.agg #[.int .i64 nb,ln,ps,ss,sc],.int .i64 at_] w fun e w'=>e=.returned (.bool true)∧Below w.heap.size w w':=by
 have c0:(w.alloc (.cells #[.int .i64 nb,ln,ps,ss,sc] 40)).cell? ⟨w.heap.size,0,none⟩=some (.int .i64 nb):=(Blk.new w #[.int .i64 nb,ln,ps,ss,sc] 40).cell 0 rfl
 have HB:Hid (Below w.heap.size w (w.alloc (.cells #[.int .i64 nb,ln,ps,ss,sc] 40))):=below_alloc _ _
 go_enter Tryz.func24,Tryz.ntmps24
 go_wp2
 go_returns
 exact ⟨rfl,HB.out⟩
theorem br_isPub (nb at_:Int) (pa:Option Addr) (n c:Nat) (ln ss sc:Value) (h0:0≤at_) (h1:at_<(n:Int)) (w:World):Calls Tryz.prog 50 #[.agg #[.int .i64 nb,ln,.slice pa n c,ss,sc],.int .i64 at_] w fun e w'=>e=.returned (.bool true)∧Below w.heap.size w w':=by
 have c0:(w.alloc (.cells #[.int .i64 nb,ln,.slice pa n c,ss,sc] 40)).cell? ⟨w.heap.size,2,none⟩=some (.slice pa n c):=(Blk.new w #[.int .i64 nb,ln,.slice pa n c,ss,sc] 40).cell 2 rfl
 have HB:Hid (Below w.heap.size w (w.alloc (.cells #[.int .i64 nb,ln,.slice pa n c,ss,sc] 40))):=below_alloc _ _
 go_enter Tryz.func50,Tryz.ntmps50
 go_wp2
 go_returns
 exact ⟨rfl,HB.out⟩
theorem br_lines0 (nb:Int) (ps ss sc:Value) (w:World):Calls Tryz.prog 66 #[.agg #[.int .i64 nb,.slice none 0 0,ps,ss,sc]] w fun e w'=>e=.returned (.bool true)∧Below w.heap.size w w':=by
 go_enter Tryz.func66,Tryz.ntmps66
 go_wp2_with fail
 refine wp_loop_rounds 1 ?_
 rw [rounds_succ]
 go_wp2
 go_returns
 exact ⟨rfl,(below_alloc _ _).trans ((below_alloc _ _).mono (below_alloc _ _).size)⟩
theorem br_neighbours0 (nb at_:Int) (ps ss sc:Value) (w:World):Calls Tryz.prog 62 #[.agg #[.int .i64 nb,.slice none 0 0,ps,ss,sc],.int .i64 at_] w fun e w'=>e=.returned (.slice none 0 0)∧Below w.heap.size w w':=by
 go_enter Tryz.func62,Tryz.ntmps62
 go_wp2_with fail
 refine wp_loop_rounds 1 ?_
 rw [rounds_succ]
 go_wp2
 go_returns
 exact ⟨rfl,below_alloc _ _⟩
end
end Go.Proofs.YtoiennkfdjnkbaaGreatDoor
