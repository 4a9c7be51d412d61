import Derived.Test.YtoiennkfdjnkbaaGreatDoorPk00
import Derived.ProofKit
import Derived.OpenShut
import Derived.ShutString
import Derived.ChangeOld
import Derived.Below
import Derived.SizedLaws
import Derived.Test.YtoiennkfdjnkbaaGreatDoorPk19
import Derived.Test.YtoiennkfdjnkbaaGreatDoorPk20
import Derived.Test.YtoiennkfdjnkbaaGreatDoorPk22
set_option maxRecDepth 100000
set_option maxHeartbeats 8000000
namespace Go.Proofs.YtoiennkfdjnkbaaGreatDoor
section
open Go.ChangeShapes Go.WideShapes Go.ChangeAt Go.RowKit
theorem own:ownKnob Tryz.prog.godebug=none:=by kernel_rfl
theorem laidOut:laidOutB Tryz.prog=true:=by kernel_rfl
theorem trod_lt' {H:Type} {enc:TypeId×Value→H} {P:Program} {W:World} {t:TypeId} {v:Value} {d:DataW H} {ps:List MemPlace} (h:DataW.Trod enc P W 0 (fun _=>true) true t v d ps) :
  ∀ x∈ps,x.block<W.heap.size:=by
 obtain ⟨m,hm⟩:=h
 exact DataW.trod_lt m _ _ _ hm
theorem trodAll_below {H:Type} {enc:TypeId×Value→H} {P:Program} (hl:laidOutB P=true) {W W':World} (hb:Below W.heap.size W W') :
  ∀ (ts:List TypeId) (vs:List Value) (ds:List (DataW H)) (ps:List MemPlace),ts.all (fun t=>P.readableRec t && decide (t<P.types.size))=true →
   DataW.TrodAll enc P W 0 (fun _=>true) true ts vs ds ps→DataW.TrodAll enc P W' 0 (fun b=>decide (b<W.heap.size)) true ts vs ds ps
 | [],[],[],_,_,h=>h
 | [],_ :: _,_,_,_,h=>h.elim
 | [],[],_ :: _,_,_,h=>h.elim
 | _ :: _,[],_,_,_,h=>by cases h
 | _ :: _,_ :: _,[],_,_,h=>by cases h
 | t :: ts,v :: vs,d :: ds,ps,hr,⟨p,q,h1,h2,e⟩=>by
  simp only [List.all_cons,Bool.and_eq_true,decide_eq_true_eq] at hr
  exact ⟨p,q,Below.trod hl hr.1.1 hr.1.2 h1 hb (trod_lt' h1),trodAll_below hl hb ts vs ds q hr.2 h2,e⟩
end
section
open Go.ChangeShapes Go.WideShapes Go.ChangeAt Go.RowKit
structure It where
 tick:Int
 for_:Int
 body:List Nat
structure Pc where
 kind:Int
 pub:Int
 sub:Int
 n_:Int
 fr:Int
 to_:Int
 spans:List Sp
 items:List It
structure ItsRd (w:World) (a:Option Addr) (n:Nat) (l:List It):Prop where
 size:l.length=n
 cells:l=[] ∨ ∃ g o,a=some ⟨g,o,none⟩∧g<w.heap.size∧∀ (i:Nat) (q:It),l[i]? = some q→w.cell? ⟨g,o+i * 3,none⟩=some (.int .i64 q.tick)∧w.cell? ⟨g,o+i * 3+1,none⟩=some (.int .u32 q.for_)∧∃ ba bl bc,w.cell? ⟨g,o+i * 3+2,none⟩=some (.slice ba bl bc)∧Rd w ba bl q.body∧(ba=none→bc=0)∧bl≤bc∧bc≤9223372036854775807
 each:∀ q∈l,((-9223372036854775808:Int)≤q.tick∧q.tick≤9223372036854775807)∧(0≤q.for_∧q.for_≤4294967295)
theorem ItsRd.below {w w':World} {a:Option Addr} {n:Nat} {l:List It} (h:ItsRd w a n l) (hb:Below w.heap.size w w'):ItsRd w' a n l:=by
 refine ⟨h.size,?_,h.each⟩
 rcases h.cells with h0 | ⟨g,o,ha,hg,hc⟩
 ·exact .inl h0
 ·refine .inr ⟨g,o,ha,Nat.lt_of_lt_of_le hg hb.size,fun i q hi => ?_⟩
  rw [hb.cell (p:=⟨g,o+i * 3,none⟩) hg,hb.cell (p:=⟨g,o+i * 3+1,none⟩) hg,hb.cell (p:=⟨g,o+i * 3+2,none⟩) hg]
  obtain ⟨h1,h2,ba,bl,bc,h3,h4,h5⟩:=hc i q hi
  exact ⟨h1,h2,ba,bl,bc,h3,h4.below hb,h5⟩
theorem ItsRd.at_ {w:World} {a:Option Addr} {n:Nat} {l:List It} (h:ItsRd w a n l) (i:Nat) (hi:i<n):∃ g o,a=some ⟨g,o,none⟩∧g<w.heap.size∧∃ q,l[i]? = some q∧w.cell? ⟨g,o+i * 3,none⟩=some (.int .i64 q.tick)∧w.cell? ⟨g,o+i * 3+1,none⟩=some (.int .u32 q.for_)∧∃ ba bl bc,w.cell? ⟨g,o+i * 3+2,none⟩=some (.slice ba bl bc)∧Rd w ba bl q.body∧(ba=none→bc=0)∧bl≤bc∧bc≤9223372036854775807:=by
 have hl:i<l.length:=by rw [h.size];exact hi
 rcases h.cells with rfl | ⟨g,o,ha,hg,hc⟩
 ·simp at hl
 ·exact ⟨g,o,ha,hg,l[i],List.getElem?_eq_getElem hl,hc i l[i] (List.getElem?_eq_getElem hl)⟩
theorem it_at {l:List It} {k:Nat} {q:It} (hq:l[k]? = some q):l.drop k=q :: l.drop (k+1):=by
 obtain ⟨h1,h2⟩:=List.getElem?_eq_some_iff.1 hq
 rw [List.drop_eq_getElem_cons h1,h2]
structure PcRd (w:World) (p:Pc) (sa:Option Addr) (sn sc:Nat) (ia:Option Addr) (im ic:Nat):Prop where
 spans:SpsRd w sa sn p.spans
 items:ItsRd w ia im p.items
 sl:sn≤sc
 sm:sc≤maxLen
 il:im≤ic
 im_:ic≤maxLen
theorem PcRd.below {w w':World} {p:Pc} {sa:Option Addr} {sn sc:Nat} {ia:Option Addr} {im ic:Nat} (h:PcRd w p sa sn sc ia im ic) (hb:Below w.heap.size w w'):PcRd w' p sa sn sc ia im ic:=⟨h.spans.below hb,h.items.below hb,h.sl,h.sm,h.il,h.im_⟩
abbrev Pc.val (p:Pc) (sa:Option Addr) (sn sc:Nat) (ia:Option Addr) (im ic:Nat):Value:=.agg #[.int .i64 p.kind,.int .i64 p.pub,.int .i64 p.sub,.int .i64 p.n_,.int .i64 p.fr,.int .i64 p.to_,.slice sa sn sc,.slice ia im ic]
def newsB (k:Int):Bool:=decide (k=1)
def toB (k:Int):Bool:=decide (k=1∨k=2)
def fromB (k:Int):Bool:=decide (k=1∨k=2∨k=3∨k=5)
def subB (k:Int):Bool:=decide (k=3∨k=4∨k=5∨k=6)
def isB (k:Int):Bool:=decide (1≤k∧k≤6)
def pubB (p:Pc):Bool:=decide (0≤p.pub∧p.pub<3)
def namB (p:Pc):Bool:=decide (1≤p.sub∧p.sub≤32∧1≤p.n_∧p.n_≤1073741824)
def rngB (p:Pc):Bool:=decide (1≤p.fr∧p.fr≤p.to_∧p.to_≤1099511627776)
def froB (p:Pc):Bool:=decide (0≤p.fr∧p.fr≤1099511627776)
def numB (p:Pc) (su fr to_:Bool):Bool:=pubB p && (!su || namB p) && (if to_ then rngB p else (!fr || froB p))
def inB (p:Pc) (s:Sp):Bool:=decide ((s.is=2∨s.is=3)∧p.fr≤s.fr∧s.to≤p.to_)
def spB (p:Pc):Bool:=p.spans.all (inB p) && rightB Sp.zr p.spans
def itE (p:Pc):Int→List It→Int
 | _,[] => 0
 | least,q :: l=>if q.tick<least∨p.to_<q.tick∨atS p.spans q.tick≠0 then 14 else if 400<q.body.length then 6 else itE p (q.tick+1) l
theorem itE_tick {p:Pc} {least:Int} {q:It} {l:List It} (h:q.tick<least∨p.to_<q.tick∨atS p.spans q.tick≠0):itE p least (q :: l)=14:=by rw [itE,if_pos h]
theorem itE_long {p:Pc} {least:Int} {q:It} {l:List It} (h:¬ (q.tick<least∨p.to_<q.tick∨atS p.spans q.tick≠0)) (h2:400<q.body.length):itE p least (q :: l)=6:=by rw [itE,if_neg h,if_pos h2]
theorem itE_next {p:Pc} {least:Int} {q:It} {l:List It} (h:¬ (q.tick<least∨p.to_<q.tick∨atS p.spans q.tick≠0)) (h2:¬ 400<q.body.length):itE p least (q :: l)=itE p (q.tick+1) l:=by rw [itE,if_neg h,if_neg h2]
def chk (p:Pc):Int :=
 if isB p.kind=true then
  (if numB p (subB p.kind) (fromB p.kind) (toB p.kind)=true then
   (if newsB p.kind=true then (if 32<p.spans.length∨8<p.items.length then 6 else if spB p=true then itE p p.fr p.items else 4) else 0) else 2) else 12
theorem chk_type {p:Pc} (h:isB p.kind=false):chk p=12:=by rw [chk,h];rfl
theorem chk_arg {p:Pc} (h:isB p.kind=true) (h2:numB p (subB p.kind) (fromB p.kind) (toB p.kind)=false):chk p=2:=by rw [chk,if_pos h,h2];rfl
theorem chk_plain {p:Pc} (h:isB p.kind=true) (h2:numB p (subB p.kind) (fromB p.kind) (toB p.kind)=true) (h3:newsB p.kind=false):chk p=0:=by rw [chk,if_pos h,if_pos h2,h3];rfl
theorem chk_many {p:Pc} (h:isB p.kind=true) (h2:numB p (subB p.kind) (fromB p.kind) (toB p.kind)=true) (h3:newsB p.kind=true) (h4:32<p.spans.length∨8<p.items.length):chk p=6:=by rw [chk,if_pos h,if_pos h2,if_pos h3,if_pos h4]
theorem chk_form {p:Pc} (h:isB p.kind=true) (h2:numB p (subB p.kind) (fromB p.kind) (toB p.kind)=true) (h3:newsB p.kind=true) (h4:¬ (32<p.spans.length∨8<p.items.length)) (h5:spB p=false):chk p=4:=by rw [chk,if_pos h,if_pos h2,if_pos h3,if_neg h4,h5];rfl
theorem chk_items {p:Pc} (h:isB p.kind=true) (h2:numB p (subB p.kind) (fromB p.kind) (toB p.kind)=true) (h3:newsB p.kind=true) (h4:¬ (32<p.spans.length∨8<p.items.length)) (h5:spB p=true):chk p=itE p p.fr p.items:=by rw [chk,if_pos h,if_pos h2,if_pos h3,if_neg h4,if_pos h5]
theorem num_to {p:Pc} {su fr:Bool} (h:numB p su fr true=true):rngB p=true:=by
 simp only [numB,if_true,Bool.and_eq_true] at h
 exact h.2
theorem kinds {k:Int} (h:isB k=true):k=1∨k=2∨k=3∨k=4∨k=5∨k=6:=by
 simp only [isB,decide_eq_true_eq] at h
 omega
end
section
set_option maxRecDepth 100000
open Go.RowKit Go.Maps Go.Sort Go.Shelf
variable {Z:Nat→Prop}
theorem st_clone (b:Nat) (es:Array MapEntry) (clock:Nat) (w:World) (hb:w.heap[b]? = some (.map es clock)):Calls Tryz.prog 257 #[.map (some b)] w fun e w'=>e=.returned (.map (some w.heap.size))∧w'=w.alloc (.map es clock):=AnyW.maps_Clone Tryz.cloneI b es clock w hb
theorem st_Fork {w:World} {s m:Nat} {a:Option Addr} {n c:Nat} {l:List Sp} {X:List (Int×Value)} (h:Stm Z w s m a n c l X) :
  Calls Tryz.prog 195 #[.pointer (some ⟨s,0,none⟩)] w fun e w'=>∃ s' m',e=.returned (.pointer (some ⟨s',0,none⟩))∧Stm Z w' s' m' a n c l X∧(w.heap.size≤s'∧w.heap.size≤m')∧Below w.heap.size w w':=by
 have HS:Hid (Stm Z w s m a n c l X):=h
 have hl:=h.items.lt
 obtain ⟨es,clock,hbk,HF,hle,hD⟩:=h.items
 have HCL:Hid (∀ W,Below w.heap.size w W→Calls Tryz.prog 257 #[.map (some m)] W fun e w'=>e=.returned (.map (some W.heap.size))∧w'=W.alloc (.map es clock)):=fun W hW=>st_clone m es clock W ((hW.block m hl).trans hbk)
 have HIT:Hid (∀ W:World,(W.alloc (.map es clock)).ownsMap Tryz.prog 3 heldV W.heap.size X.length (mapD X)):=fun W=>⟨es,clock,(MapKept.heap_alloc W _).1,HF,hle,hD⟩
 have HSK:Hid (∀ W,Below w.heap.size w W→W.cell? ⟨s,0,none⟩=some (.slice a n c)∧W.cell? ⟨s,1,none⟩=some (.map (some m))):=fun W hW=>⟨(HS.out.blk.stay hW).cell 0 rfl,(HS.out.blk.stay hW).cell 1 rfl⟩
 clear h hl hbk HF hle hD
 go_enter Tryz.func195,Tryz.ntmps195
 go_upto_region 3 with fail
 have HB0:Hid (Below w.heap.size w w.drew):=(Below.refl _ _).drew
 go_region_held3 (fun w'=>w'.cell? ⟨s,0,none⟩=some (.slice a n c)∧w'.cell? ⟨s,1,none⟩=some (.map (some m))) (first | with_reducible exact HSK.out _ HB0.out | with_reducible exact HSK.out _ (Below.refl _ _).drew | with_reducible exact HSK.out _ (Below.refl _ _) | exact HSK.out _ ((below_alloc w _).alloc (by simp) _).drew | fail)
  (first
   | (go_at_call 257;refine (HCL.out _ HB0.out).mono ?_;rintro e w3 ⟨rfl,rfl⟩;have HB':Hid (Below w.heap.size w (w.alloc (.map es clock)).drew):=(below_alloc w _).drew;clear HB0;have HB0:=HB';clear HB'))
 all_goals (
  go_wp2
  go_ret
  have e1:(w.alloc (.map es clock)).heap.size=w.heap.size+1:=by simp
  have HBX:Below w.heap.size w ((w.alloc (.map es clock)).alloc (.cells #[.slice a n c,.map (some w.heap.size)] 184)).drew:=((below_alloc w _).alloc (by simp) _).drew
  refine ⟨w.heap.size+1,w.heap.size,rfl,⟨?_,HS.out.ok.below HBX,?_,HS.out.rise,fun ad e => ?_,fun k hk=>HS.out.zz k (Nat.le_trans HBX.size hk)⟩,by omega,HBX⟩
  ·have:=Bk.new (w.alloc (.map es clock)) #[.slice a n c,.map (some w.heap.size)] 184
   rw [e1] at this
   exact this
  ·exact (HIT.out w).alloc _
  ·have h1:=(HS.out.apart ad e).1
   have h2:=HBX.size
   exact ⟨by omega,by omega,by omega,(HS.out.apart ad e).2.2.2⟩)
end
section
set_option maxRecDepth 100000
open Go.RowKit Go.Maps Go.Sort Go.Shelf
theorem results_item {w:World} {tmps:Array Value} {g:Nat} {c0 c1 c2:Value} (h2:tmps[2]?.getD undef=.pointer (some ⟨g,0,none⟩)) (k:Bk w g #[c0,c1,c2] 51):(results Tryz.f105 tmps).run Tryz.prog w=.ok (.agg #[c0,c1,c2]) w:=by
 have k0:w.cell? ⟨g,0,none⟩=some c0:=k.cell 0 rfl
 have k1:w.cell? ⟨g,1,none⟩=some c1:=k.cell 1 rfl
 have k2:w.cell? ⟨g,2,none⟩=some c2:=k.cell 2 rfl
 simp [results,Tryz.results105,go_sem,h2,k0,k1,k2]
theorem st_cloned (t f:Int) (ba:Option Addr) (bl bc:Nat) (bs:List Nat) (w:World) (hr:Rd w ba bl bs) (hl:bl≤140737488351232) :
  Calls Tryz.prog 105 #[.agg #[.int .i64 t,.int .u32 f,.slice ba bl bc]] w fun e w'=>∃ a' c',e=.returned (.agg #[.int .i64 t,.int .u32 f,.slice a' bl c'])∧Own w' w.heap.size a' bl c' bs∧Below w.heap.size w w':=by
 obtain ⟨W1,HW1⟩:∃ W1,Hid (W1=(w.alloc (.cells #[.int .i64 t,.int .u32 f,.slice ba bl bc] 51)).alloc (.cells #[.int .i64 0,.int .u32 0,.slice none 0 0] 51)):=⟨_,rfl⟩
 have e1:(w.alloc (.cells #[.int .i64 t,.int .u32 f,.slice ba bl bc] 51)).heap.size=w.heap.size+1:=by simp
 have HX1:Hid (Below w.heap.size w W1):=by (show Below _ _ _);rw [HW1.out];exact (below_alloc w _).alloc (by omega) _
 have HK0:Hid (Bk W1 w.heap.size #[.int .i64 t,.int .u32 f,.slice ba bl bc] 51):=by (show Bk _ _ _ _);rw [HW1.out];exact (Bk.new w _ _).stay (below_alloc _ _)
 have HK1:Hid (Bk W1 (w.heap.size+1) #[.int .i64 0,.int .u32 0,.slice none 0 0] 51):=by (show Bk _ _ _ _);rw [HW1.out,← e1];exact Bk.new _ _ _
 have HC:Hid (Calls Tryz.prog 96 #[.slice ba bl bc] W1 fun e w'=>∃ a' c',e=.returned (.slice a' bl c')∧Own w' W1.heap.size a' bl c' bs∧Below W1.heap.size W1 w'):=bytes_Clone ba bl bc bs W1 (hr.below HX1.out) hl
 have q2:W1.cell? ⟨w.heap.size,2,none⟩=some (.slice ba bl bc):=HK0.out.cell 2 rfl
 have HSZ:Hid (W1.heap.size=w.heap.size+2):=by (show _=_);rw [HW1.out];simp
 clear hr e1
 go_enter Tryz.func105,Tryz.ntmps105
 go_upto_region 1 with fail
 rw [← HW1.out]
 go_wp2_with fail
 refine HC.out.mono ?_
 rintro e w3 ⟨a',c',rfl,ho,hb3⟩
 have HO:Hid (Own w3 W1.heap.size a' bl c' bs):=ho
 have HB3:Hid (Below W1.heap.size W1 w3):=hb3
 have HL0:=HK0.out.stay hb3
 have HL1:=HK1.out.stay hb3
 have c0:w3.cell? ⟨w.heap.size,0,none⟩=some (.int .i64 t):=HL0.cell 0 rfl
 have c1:w3.cell? ⟨w.heap.size,1,none⟩=some (.int .u32 f):=HL0.cell 1 rfl
 have c2:w3.cell? ⟨w.heap.size,2,none⟩=some (.slice ba bl bc):=HL0.cell 2 rfl
 have d0:w3.cell? ⟨w.heap.size+1,0,none⟩=some (.int .i64 0):=HL1.cell 0 rfl
 have d1:w3.cell? ⟨w.heap.size+1,1,none⟩=some (.int .u32 0):=HL1.cell 1 rfl
 have d2:w3.cell? ⟨w.heap.size+1,2,none⟩=some (.slice none 0 0):=HL1.cell 2 rfl
 have f2:=HL0.free 2
 have g0:=HL1.free 0
 have g1:=HL1.free 1
 have g2:=HL1.free 2
 have HM:=(((HL1.other ⟨w.heap.size,2,none⟩ (.slice a' bl c') (by show w.heap.size+1≠w.heap.size;omega)).set 0 (.int .i64 t)).set 1 (.int .u32 f)).set 2 (.slice a' bl c')
 have HMH:Hid (Bk ((((w3.setCell ⟨w.heap.size,2,none⟩ (.slice a' bl c')).setCell ⟨w.heap.size+1,0,none⟩ (.int .i64 t)).setCell ⟨w.heap.size+1,1,none⟩ (.int .u32 f)).setCell ⟨w.heap.size+1,2,none⟩ (.slice a' bl c')) (w.heap.size+1) #[.int .i64 t,.int .u32 f,.slice a' bl c'] 51):=HM
 clear HM ho hb3 HL0 HL1 HC HK0 HK1
 go_wp2
 refine bodyPost_ret (results_item (by rfl) HMH.out) rfl ?_
 have hb4:Below w.heap.size w ((((w3.setCell ⟨w.heap.size,2,none⟩ (.slice a' bl c')).setCell ⟨w.heap.size+1,0,none⟩ (.int .i64 t)).setCell ⟨w.heap.size+1,1,none⟩ (.int .u32 f)).setCell ⟨w.heap.size+1,2,none⟩ (.slice a' bl c')):=((((HX1.out.trans (HB3.out.mono HX1.out.size)).setCell (Nat.le_refl _) _).setCell (Nat.le_succ _) _).setCell (Nat.le_succ _) _).setCell (Nat.le_succ _) _
 refine ⟨a',c',rfl,⟨?_,HO.out.byte⟩,hb4⟩
 have hr0:World.ownsRow w3 (w.heap.size+2) 5 1 (.slice a' bl c') bl (vb bs):=by rw [← HSZ.out];exact HO.out.row
 exact ownsRow_base_a (base:=w.heap.size+2) (ownsRow_setCell_below (ownsRow_setCell_below (ownsRow_setCell_below (ownsRow_setCell_below hr0 (a:=⟨w.heap.size,2,none⟩) (by show w.heap.size<w.heap.size+2;omega) _) (a:=⟨w.heap.size+1,0,none⟩) (by show w.heap.size+1<w.heap.size+2;omega) _) (a:=⟨w.heap.size+1,1,none⟩) (by show w.heap.size+1<w.heap.size+2;omega) _) (a:=⟨w.heap.size+1,2,none⟩) (by show w.heap.size+1<w.heap.size+2;omega) _) (by omega)
end
section
set_option maxRecDepth 100000
open Go.RowKit Go.Maps Go.Sort Go.Shelf
variable {Z:Nat→Prop}
structure IntsRd (w:World) (B:Nat) (a:Option Addr) (n:Nat) (ts:List Int):Prop where
 size:ts.length=n
 cells:ts=[] ∨ ∃ g,a=some ⟨g,0,none⟩∧B≤g∧g<w.heap.size∧∀ i t,ts[i]? = some t→w.cell? ⟨g,i,none⟩=some (.int .i64 t)
theorem IntsRd.two {w w':World} {B s m:Nat} {a:Option Addr} {n:Nat} {ts:List Int} (h:IntsRd w B a n ts) (ht:Two s m w w') (hs:s<B) (hm:m<B):IntsRd w' B a n ts:=by
 refine ⟨h.size,?_⟩
 rcases h.cells with h0 | ⟨g,ha,hB,hg,hc⟩
 ·exact .inl h0
 ·exact .inr ⟨g,ha,hB,Nat.lt_of_lt_of_le hg ht.size,fun i t hi=>(cell_same (ht.block g hg (by omega) (by omega)) i).trans (hc i t hi)⟩
theorem IntsRd.of_row {w:World} {B:Nat} {v:Value} {ts:List Int} (h:w.ownsRow B 3 1 v ts.length (ts.map encZ)):∃ a c,v=.slice a ts.length c∧IntsRd w B a ts.length ts:=by
 rcases h.2 with ⟨hv,hn⟩ | ⟨g,c',cur,hv,hb,hg,hlc,hm,hs,ht⟩
 ·exact ⟨none,0,by rw [hv,hn],rfl,.inl (List.eq_nil_of_length_eq_zero hn)⟩
 ·refine ⟨_,c',hv,rfl,.inr ⟨g,rfl,hb,(Array.getElem?_eq_some_iff.1 hg).1,fun i t hi => ?_⟩⟩
  have hil:i<ts.length:=(List.getElem?_eq_some_iff.1 hi).1
  rw [cell_of_row w g _ cur _ _ hg]
  have h1:(ts.map encZ)[i]? = some (.int .i64 t):=by rw [List.getElem?_map,hi];rfl
  rw [← ht,List.getElem?_take_of_lt (by omega),Array.getElem?_toList] at h1
  exact h1
def partX (P:Int→Bool) (X:List (Int×Value)) (i:Nat):List (Int×Value):=((X.take i).filter fun p=>P p.1)++X.drop i
theorem partX_all (P:Int→Bool) (X:List (Int×Value)):partX P X X.length=X.filter fun p=>P p.1:=by unfold partX;rw [List.take_length,List.drop_length,List.append_nil]
theorem partX_yes {P:Int→Bool} {X:List (Int×Value)} {i:Nat} (hi:i<X.length) (h:P X[i].1=true):partX P X (i+1)=partX P X i:=by
 unfold partX
 rw [List.take_succ_eq_append_getElem hi,List.filter_append,List.append_assoc,List.drop_eq_getElem_cons hi]
 simp [h]
theorem partX_no {P:Int→Bool} {X:List (Int×Value)} (hX:RiseX X) {i:Nat} (hi:i<X.length) (h:P X[i].1=false):partX P X (i+1)=delX (partX P X i) X[i].1:=by
 have hd:=List.drop_eq_getElem_cons hi
 have hX':RiseX (X.take i++X[i] :: X.drop (i+1)):=by rw [← hd,List.take_append_drop];exact hX
 obtain ⟨r1,r2,r3⟩:=List.pairwise_append.1 hX'
 obtain ⟨r4,r5⟩:=List.pairwise_cons.1 r2
 unfold partX delX
 rw [List.take_succ_eq_append_getElem hi,List.filter_append,hd,List.filter_append,List.filter_cons,List.filter_cons]
 rw [if_neg (by simp [h]),if_neg (by simp),List.filter_nil,List.append_nil]
 congr 1
 ·rw [List.filter_filter]
  refine (List.filter_congr fun p hp => ?_)
  have:=r3 p hp X[i] (List.mem_cons_self ..)
  have:decide (p.1≠X[i].1)=true:=decide_eq_true (by omega)
  rw [this,Bool.true_and]
 ·symm
  refine List.filter_eq_self.2 fun p hp => ?_
  have:=r4 p hp
  exact decide_eq_true (by omega)
theorem rise_part {P:Int→Bool} {X:List (Int×Value)} (hX:RiseX X) (i:Nat):RiseX (partX P X i):=by
 have h:(partX P X i).Sublist X:=by
  unfold partX
  exact (List.Sublist.append List.filter_sublist (List.Sublist.refl _)).trans (by rw [List.take_append_drop];exact List.Sublist.refl _)
 exact hX.sublist h
theorem Stm.wf {w:World} {s m:Nat} {a:Option Addr} {n c:Nat} {l:List Sp} {X:List (Int×Value)} (h:Stm Z w s m a n c l X):∀ p∈X,-9223372036854775808≤p.1∧p.1≤9223372036854775807:=by
 intro p hp
 have:=intKeys_wf h.items Tryz.underlying3 p.1 (by rw [mapD_keys];exact List.mem_map_of_mem hp)
 simpa [Lit.wf,IntKind.min,IntKind.max,IntKind.signed,IntKind.bits] using this
theorem Rd.two {w w':World} {s m:Nat} {a:Option Addr} {n c:Nat} {l:List Sp} {X:List (Int×Value)} (h:Stm Z w s m a n c l X) {ba:Option Addr} {bl:Nat} {bs:List Nat} (hr:Rd w ba bl bs) (ht:Two s m w w'):Rd w' ba bl bs:=by
 refine ⟨hr.size,hr.byte,?_⟩
 rcases hr.cells with h0 | ⟨g,o,ha,hg,hc⟩
 ·exact .inl h0
 ·by_cases hz:bl=0
  ·exact .inl hz
  ·have h1:=hc 0 (by omega)
   have hs:g≠s:=by
    rintro rfl
    have:w.cell? ⟨g,o+0,none⟩=(#[Value.slice a n c,.map (some m)] : Array Value)[o+0]?:=cell_of_row w g _ _ _ _ h.blk
    rw [h1] at this
    match o,this with
    | 0,this=>cases this
    | 1,this=>cases this
    | o+2,this=>cases this
   have hm:g≠m:=by
    rintro rfl
    obtain ⟨es,clock,hb,_⟩:=h.items
    unfold World.cell? at h1
    simp only [hb] at h1
    cases h1
   exact .inr ⟨g,o,ha,Nat.lt_of_lt_of_le hg ht.size,fun i hi=>(cell_same (ht.block g hg hs hm) _).trans (hc i hi)⟩
def Joined (Z:Nat→Prop) (s m:Nat) (l l2:List Sp) (X:List (Int×Value)) (w w':World):Prop:=∃ a' n' c' l',Stm Z w' s m a' n' c' l' (X.filter fun p=>decide (atS l' p.1=1))∧(∀ t,atS l' t=max (atS l t) (atS l2 t))∧Two s m w w'
theorem st_join {w:World} {s m:Nat} {a:Option Addr} {n c:Nat} {l:List Sp} {X:List (Int×Value)} (h:Stm Z w s m a n c l X) (hX:X.length≤1000000) {b:Option Addr} {nb cb:Nat} {l2:List Sp} (h2:MapOk w b nb cb l2) :
  Calls Tryz.prog 196 #[.pointer (some ⟨s,0,none⟩),.slice b nb cb] w fun e w'=>e=.returned (.tuple #[])∧Joined Z s m l l2 X w w':=by
 have HS:Hid (Stm Z w s m a n c l X):=h
 have H2:Hid (MapOk w b nb cb l2):=h2
 have c0:w.cell? ⟨s,0,none⟩=some (.slice a n c):=h.blk.cell 0 rfl
 have hsl:=h.blk.lt
 have hml:=h.items.lt
 have HRX:Hid (RiseX X):=h.rise
 clear h h2
 go_enter Tryz.func196,Tryz.ntmps196
 go_wp2_with fail
 refine (span_Join_new HS.out.ok H2.out).mono ?_
 rintro e w1 ⟨⟨av,nv,cv,lv,rfl,HM1,HA1,HT1⟩,hb1⟩
 have HS1:Hid (Stm Z w1 s m a n c l X):=HS.out.stay hb1
 have HB1:Hid (Two s m w w1):=Two.of_below s m hb1
 have d0:w1.cell? ⟨s,0,none⟩=some (.slice a n c):=HS1.out.blk.cell 0 rfl
 have f0:=HS1.out.blk.free 0
 have HS2:Hid (Stm Z (w1.setCell ⟨s,0,none⟩ (.slice av nv cv)) s m av nv cv lv X):=HS1.out.setKnown HM1.out (fun ad e=>⟨(HA1.out ad e).2,by have:=(HA1.out ad e).1;omega,by have:=(HA1.out ad e).1;omega,HS.out.zz _ (HA1.out ad e).1⟩)
 have HB2:Hid (Two s m w (w1.setCell ⟨s,0,none⟩ (.slice av nv cv))):=HB1.out.setCell 0 _
 clear H2 HS hb1 HM1 HA1 HS1 HB1
 generalize hw2:w1.setCell ⟨s,0,none⟩ (.slice av nv cv)=w2 at HS2 HB2
 have HW2:Hid (w1.setCell ⟨s,0,none⟩ (.slice av nv cv)=w2):=hw2
 clear hw2
 go_wp2_with fail
 rw [HW2.out]
 refine (st_ticks HS2.out hX).mono ?_
 rintro e w3 ⟨v,rfl,hrow,hb3⟩
 rw [show X.length=(X.map Prod.fst).length from (List.length_map _).symm] at hrow
 obtain ⟨ra,rc,rfl,hrd⟩:=IntsRd.of_row hrow
 rw [List.length_map] at hrd ⊢
 have hsz2:w.heap.size≤w2.heap.size:=HB2.out.size
 have HI3:Hid (IntsRd w3 w2.heap.size ra X.length (X.map Prod.fst)):=hrd
 have HS3:Hid (Stm Z w3 s m av nv cv lv (partX (fun t=>decide (atS lv t=1)) X 0)):=HS2.out.stay hb3
 have HB3:Hid (Two s m w w3):=HB2.out.trans (Two.of_below s m hb3)
 obtain ⟨N,HNX⟩:∃ N,Hid (X.length=N):=⟨_,rfl⟩
 rw [HNX.out] at HI3 hX ⊢
 clear hrow hrd hb3 d0 f0 c0
 go_wp2
 go_loopw [21] (fun t21 wr=>∃ (i:Nat),t21=.int .i64 (i:Int)∧i≤N∧Hid (Stm Z wr s m av nv cv lv (partX (fun t=>decide (atS lv t=1)) X i))∧Hid (IntsRd wr w2.heap.size ra N (X.map Prod.fst))∧Hid (Two s m w wr)) (fun t21 _=>N - (intOf t21).toNat)
 case atStart=>exact ⟨0,rfl,by omega,HS3,HI3,HB3⟩
 case round =>
  obtain ⟨i,rfl,hi,HSR,HIR,HBR⟩:=hrel
  by_cases hlt:i<N
  ·have hlt':(i:Int)<(N:Int):=by omega
   have hil:i<X.length:=by rw [HNX.out];exact hlt
   obtain ⟨g,rfl,hgB,hg,hcell⟩:∃ g,ra=some ⟨g,0,none⟩∧w2.heap.size≤g∧g<wr.heap.size∧∀ i t,(X.map Prod.fst)[i]? = some t→wr.cell? ⟨g,i,none⟩=some (.int .i64 t):=by
    rcases HIR.out.cells with h0 | h0
    ·exfalso
     have:(X.map Prod.fst).length=0:=by rw [h0];rfl
     rw [List.length_map] at this
     omega
    ·exact h0
   have r0:wr.cell? ⟨g,i,none⟩=some (.int .i64 X[i].1):=hcell i _ (by rw [List.getElem?_map,List.getElem?_eq_getElem hil];rfl)
   have c0:wr.cell? ⟨s,0,none⟩=some (.slice av nv cv):=HSR.out.blk.cell 0 rfl
   have HAT:Hid (Calls Tryz.prog 260 #[.slice av nv cv,.int .i64 X[i].1] wr fun e w'=>e=.returned (.int .i64 (atS lv X[i].1))∧Below wr.heap.size wr w'):=span_At av nv cv lv X[i].1 wr HSR.out.ok.rd HSR.out.ok.len
   have HY:Hid (decide (atS lv X[i].1=1)=true→partX (fun t=>decide (atS lv t=1)) X (i+1)=partX (fun t=>decide (atS lv t=1)) X i):=fun h=>partX_yes hil h
   have HNO:Hid (decide (atS lv X[i].1=1)=false→partX (fun t=>decide (atS lv t=1)) X (i+1)=delX (partX (fun t=>decide (atS lv t=1)) X i) X[i].1):=fun h=>partX_no HRX.out hil h
   have HMEM:Hid (X[i] ∈ partX (fun t=>decide (atS lv t=1)) X i):=List.mem_append_right _ (by rw [List.drop_eq_getElem_cons hil];exact List.mem_cons_self ..)
   have HKEY:Hid (keyOf Tryz.prog 3 (.int .i64 X[i].1)=some (tkey X[i].1)):=tkey_of (HSR.out.wf X[i] HMEM.out)
   clear hcell HMEM
   generalize X[i].1=t at *
   have HIR2:Hid (∀ W,Two s m wr W→IntsRd W w2.heap.size (some ⟨g,0,none⟩) N (X.map Prod.fst)):=fun W hW=>HIR.out.two hW (by omega) (by omega)
   clear HIR
   go_wp2_with fail
   refine HAT.out.mono ?_
   rintro e w4 ⟨rfl,hb4⟩
   have HS4:Hid (Stm Z w4 s m av nv cv lv (partX (fun t=>decide (atS lv t=1)) X i)):=HSR.out.stay hb4
   have HB4:Hid (Two s m wr w4):=Two.of_below s m hb4
   clear hb4 HAT HSR r0 c0
   by_cases h1:atS lv t=1
   ·have k1:((atS lv t) != 1)=false:=by rw [h1];rfl
    rw [← HY.out (decide_eq_true h1)] at HS4
    clear HY HNO h1
    go_wp2
    go_roundw
    case rel=>exact ⟨i+1,by go_num,by omega,HS4,HIR2.out _ HB4.out,HBR.out.trans HB4.out⟩
    case measure=>simp [intOf];omega
   ·have k1:((atS lv t) != 1)=true:=by rw [bne_iff_ne];exact h1
    have HNO2:=HNO.out (decide_eq_false h1)
    have HR5:Hid (RiseX (partX (fun t=>decide (atS lv t=1)) X (i+1))):=rise_part HRX.out _
    have c1:w4.cell? ⟨s,1,none⟩=some (.map (some m)):=HS4.out.blk.cell 1 rfl
    clear HY HNO h1
    go_wp2_with (at_delete;refine wpList_delete_own _ rfl _ _ 182 3 rfl 51 tkeyed Tryz.underlying182 _ m _ _ rfl HS4.out.items _ _ rfl HKEY.out ?_;intro w5 hown5 hturn5)
    rw [mapD_del,← HNO2] at hown5
    have HS5:Hid (Stm Z w5 s m av nv cv lv (partX (fun t=>decide (atS lv t=1)) X (i+1))):=HS4.out.setItems hturn5 hown5 HR5.out
    have HB5:Hid (Two s m wr w5):=HB4.out.trans (Two.turned hturn5)
    clear hown5 hturn5 c1 HNO2
    go_wp2
    go_roundw
    case rel=>exact ⟨i+1,by go_num,by omega,HS5,HIR2.out _ HB5.out,HBR.out.trans HB5.out⟩
    case measure=>simp [intOf];omega
  ·have hnl:¬ (i:Int)<(N:Int):=by omega
   obtain rfl:i=N:=by omega
   have hfin:=HSR.out
   rw [← HNX.out,partX_all] at hfin
   have HFIN:Hid (Stm Z wr s m av nv cv lv (X.filter fun p=>decide (atS lv p.1=1))):=hfin
   clear hfin
   go_wp2
   exact ⟨rfl,_,results_none rfl _ _ _,rfl,av,nv,cv,lv,HFIN.out,HT1.out,HBR.out⟩
end
end Go.Proofs.YtoiennkfdjnkbaaGreatDoor
