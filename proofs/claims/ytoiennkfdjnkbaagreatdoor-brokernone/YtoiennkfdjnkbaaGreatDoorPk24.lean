import Derived.Test.YtoiennkfdjnkbaaGreatDoorPk23
import Derived.Deep.RegionLaw
set_option maxRecDepth 100000
set_option maxHeartbeats 8000000
namespace Go.Proofs.YtoiennkfdjnkbaaGreatDoor
section
set_option maxRecDepth 100000
open Go.RowKit Go.Maps Go.Sort Go.Shelf
variable {Z:Nat→Prop}
theorem Stm.put {w:World} {s m:Nat} {a:Option Addr} {n c:Nat} {l:List Sp} {X:List (Int×Value)} (hS:Stm Z w s m a n c l X) (hX:X.length≤1000000) {t:Int} (hkey:keyOf Tryz.prog 3 (.int .i64 t)=some (tkey t)) (val:Value) :
  ∃ w',(Instr.mapUpdate 182 (.map (some m)) (.int .i64 t) val).run Tryz.prog w=.ok () w'∧Hid (Stm Z w' s m a n c l (putX X t val))∧Hid (w.mapTurned w' m):=by
 obtain ⟨w',hrun,r1,r2⟩:=hS.items.store tkeyed Tryz.underlying182 (by unfold maxLen;omega) hkey (show heldV val=some (.held val,[]) from rfl)
 rw [mapD_put] at r1
 exact ⟨w',hrun,hS.setItems r2 r1 (rise_put hS.rise t val),r2⟩
theorem Own.turned {w w':World} {B m:Nat} {a:Option Addr} {n c:Nat} {bs:List Nat} (h:Own w B a n c bs) (ht:w.mapTurned w' m) (hm:m<B):Own w' B a n c bs:=by
 refine ⟨⟨h.row.1,?_⟩,h.byte⟩
 rcases h.row.2 with hn | ⟨g,c',cur,hv,hbg,hg,r⟩
 ·exact .inl hn
 ·exact .inr ⟨g,c',cur,hv,hbg,(ht.grown.block g (Array.getElem?_eq_some_iff.1 hg).1 (by intro e;cases e;omega)).trans hg,r⟩
theorem one_right {t:Int} (ht:1≤t∧t≤1099511627776):RightS Sp.zr [⟨t,t,1⟩]:=⟨by simp [Sp.zr];omega,Int.le_refl _,ht.2,by simp,by simp,by simp [Sp.zr],trivial⟩
theorem one_at (t u:Int):atS [⟨t,t,1⟩] u=if u=t then 1 else 0:=by
 show (if t≤u∧u≤t then (1:Int) else 0)=_
 by_cases h:u=t
 ·rw [if_pos h,if_pos (by omega)]
 ·rw [if_neg h,if_neg (by omega)]
def Kept0 (Z:Nat→Prop) (s m:Nat) (l:List Sp) (X:List (Int×Value)) (t f:Int) (bl:Nat) (bs:List Nat) (w w':World):Prop:=∃ a' n' c' l' ba' bc',Stm Z w' s m a' n' c' l' (putX X t (.agg #[.int .i64 t,.int .u32 f,.slice ba' bl bc']))∧Own w' w.heap.size ba' bl bc' bs∧(∀ u,atS l' u=if u=t then 1 else atS l u)∧Two s m w w'
theorem st_keep_0 {w:World} {s m:Nat} {a:Option Addr} {n c:Nat} {l:List Sp} {X:List (Int×Value)} (h:Stm Z w s m a n c l X) (hX:X.length≤1000000) {t f:Int} {ba:Option Addr} {bl bc:Nat} {bs:List Nat} (ht:1≤t∧t≤1099511627776) (hb:Rd w ba bl bs) (hl:bl≤140737488351232) (hat:atS l t=0) :
  Calls Tryz.prog 197 #[.pointer (some ⟨s,0,none⟩),.agg #[.int .i64 t,.int .u32 f,.slice ba bl bc]] w fun e w'=>e=.returned (.tuple #[])∧Kept0 Z s m l X t f bl bs w w':=by
 have hsl:=h.blk.lt
 have hml:=h.items.lt
 obtain ⟨W1,HW1⟩:∃ W1,Hid (W1=w.alloc (.cells #[.int .i64 t,.int .u32 f,.slice ba bl bc] 51)):=⟨_,rfl⟩
 have HX1:Hid (Below w.heap.size w W1):=by (show Below _ _ _);rw [HW1.out];exact below_alloc w _
 have HK1:Hid (Bk W1 w.heap.size #[.int .i64 t,.int .u32 f,.slice ba bl bc] 51):=by (show Bk _ _ _ _);rw [HW1.out];exact Bk.new w _ _
 have HS1:Hid (Stm Z W1 s m a n c l X):=h.stay HX1.out
 have HR1:Hid (Rd W1 ba bl bs):=hb.below HX1.out
 have c0:W1.drew.cell? ⟨s,0,none⟩=some (.slice a n c):=HS1.out.blk.cell 0 rfl
 have g0:W1.drew.cell? ⟨w.heap.size,0,none⟩=some (.int .i64 t):=HK1.out.cell 0 rfl
 have HAT:Hid (∀ W,Below W1.heap.size W1 W→Calls Tryz.prog 260 #[.slice a n c,.int .i64 t] W fun e w'=>e=.returned (.int .i64 0)∧Below W.heap.size W w'):=fun W hW=>by
  have:=span_At a n c l t W (HS1.out.ok.rd.below hW) HS1.out.ok.len
  rw [hat] at this
  exact this
 clear h hb
 go_enter Tryz.func197,Tryz.ntmps197
 go_upto_region 1 with fail
 rw [← HW1.out]
 have HB0:Hid (Below W1.heap.size W1 W1.drew):=(Below.refl _ _).drew
 go_cut [11] from 5 (fun v11 wx=>v11=.int .i64 0∧Hid (Below W1.heap.size W1 wx))
 case first =>
  rename_i hJ hM
  go_region_law (first
   | (go_simp;go_at_call 260;refine (HAT.out _ HB0.out).mono ?_;rintro e w2 ⟨rfl,hb2⟩;have HB2:Hid (Below W1.heap.size W1 w2):=HB0.out.trans (hb2.mono HB0.out.size);clear hb2))
  all_goals (
   refine hM _ _ ?_
   go_meet
   exact ⟨rfl,HB2⟩)
 case rest =>
 obtain ⟨hv,HB2⟩:=hcut
 obtain ⟨w2,hwp⟩:∃ W,W=wc:=⟨_,rfl⟩
 subst hwp
 subst hv
 have HS2:Hid (Stm Z w2 s m a n c l X):=HS1.out.stay HB2.out
 have HK2:Hid (Bk w2 w.heap.size #[.int .i64 t,.int .u32 f,.slice ba bl bc] 51):=HK1.out.stay HB2.out
 have HR2:Hid (Rd w2 ba bl bs):=HR1.out.below HB2.out
 have HX2:Hid (Below w.heap.size w w2):=HX1.out.trans (HB2.out.mono HX1.out.size)
 clear c0 g0 HAT HB0 HB2 HS1 HK1 HR1 HX1 HW1
 obtain ⟨W3,HW3⟩:∃ W3,Hid (W3=(w2.alloc (.cells #[.int .i64 t,.int .i64 t,.int .i64 1] 186)).drew):=⟨_,rfl⟩
 have HB3:Hid (Below w2.heap.size w2 W3):=by (show Below _ _ _);rw [HW3.out];exact (below_alloc w2 _).drew
 have HS3:Hid (Stm Z W3 s m a n c l X):=HS2.out.stay HB3.out
 have HK3:Hid (Bk W3 w.heap.size #[.int .i64 t,.int .u32 f,.slice ba bl bc] 51):=HK2.out.stay HB3.out
 have HR3:Hid (Rd W3 ba bl bs):=HR2.out.below HB3.out
 have HX3:Hid (Below w.heap.size w W3):=HX2.out.trans (HB3.out.mono HX2.out.size)
 have HO3:Hid (MapOk W3 (some ⟨w2.heap.size,0,none⟩) 1 1 [⟨t,t,1⟩]):=by
  (show MapOk _ _ _ _ _)
  have hbk:Bk W3 w2.heap.size (Sp.cells ⟨t,t,1⟩) 186:=by rw [HW3.out];exact Bk.new w2 _ _
  exact ⟨(Sps.one (base:=0) hbk (Nat.zero_le _)).rd,Nat.le_refl _,by decide,one_right ht⟩
 have c0:w2.drew.cell? ⟨s,0,none⟩=some (.slice a n c):=HS2.out.blk.cell 0 rfl
 have g0:w2.drew.cell? ⟨w.heap.size,0,none⟩=some (.int .i64 t):=HK2.out.cell 0 rfl
 have c0b:(w2.alloc (.cells #[.int .i64 t,.int .i64 t,.int .i64 1] 186)).drew.cell? ⟨s,0,none⟩=some (.slice a n c):=by rw [← HW3.out];exact HS3.out.blk.cell 0 rfl
 go_upto_region 3 with fail
 go_cut [14] from 14 (fun _v wx=>∃ (av:Option Addr) (nv cv:Nat) (lv:List Sp),Hid (Stm Z wx s m av nv cv lv X)∧Hid (Bk wx w.heap.size #[.int .i64 t,.int .u32 f,.slice ba bl bc] 51)∧Hid (Rd wx ba bl bs)∧Hid (∀ u,atS lv u=if u=t then 1 else atS l u)∧Hid (Two s m w wx))
 case first =>
  rename_i hJ hM
  go_region_law (first
   | (go_simp;go_at_call 258;rw [← HW3.out];refine (span_Join_new HS3.out.ok HO3.out).mono ?_;rintro e w4 ⟨⟨av,nv,cv,lv,rfl,HM4,HA4,HT4⟩,hb4⟩;have HB4:Hid (Below W3.heap.size W3 w4):=hb4;have d0:w4.cell? ⟨s,0,none⟩=some (.slice a n c):=(HS3.out.stay hb4).blk.cell 0 rfl;have f0:=(HS3.out.stay hb4).blk.free 0;clear hb4))
  all_goals (
   refine hM _ _ ?_
   go_meet
   have hsz3:=HX3.out.size
   refine ⟨av,nv,cv,lv,(HS3.out.stay HB4.out).setKnown HM4.out (fun ad e=>⟨(HA4.out ad e).2,by have:=(HA4.out ad e).1;omega,by have:=(HA4.out ad e).1;omega,HS3.out.zz _ (HA4.out ad e).1⟩),(HK3.out.stay HB4.out).other ⟨s,0,none⟩ _ (by show w.heap.size≠s;omega),?_,fun u => ?_,((Two.of_below s m HX3.out).trans (Two.of_below s m HB4.out)).setCell 0 _⟩
   ·exact Rd.two (HS3.out.stay HB4.out) (HR3.out.below HB4.out) ((Two.refl s m w4).setCell 0 _)
   ·rw [HT4.out u,one_at]
    by_cases hu:u=t
    ·rw [if_pos hu,if_pos hu,hu,hat];rfl
    ·rw [if_neg hu,if_neg hu]
     exact Int.max_eq_left (atS_range HS3.out.ok.right u).1)
 case rest =>
 obtain ⟨av,nv,cv,lv,HS4,HK4,HR4,HT4,HB4⟩:=hcut
 obtain ⟨w4,hwp⟩:∃ W,W=wc:=⟨_,rfl⟩
 subst hwp
 clear HW3 HB3 HS3 HK3 HR3 HX3 HO3 c0 g0 c0b HS2 HK2 HR2 HX2
 have HBD:Hid (Below w4.heap.size w4 w4.drew):=(Below.refl _ _).drew
 have c1:w4.drew.cell? ⟨s,1,none⟩=some (.map (some m)):=HS4.out.blk.cell 1 rfl
 have g0:w4.drew.cell? ⟨w.heap.size,0,none⟩=some (.int .i64 t):=HK4.out.cell 0 rfl
 have g1:w4.drew.cell? ⟨w.heap.size,1,none⟩=some (.int .u32 f):=HK4.out.cell 1 rfl
 have g2:w4.drew.cell? ⟨w.heap.size,2,none⟩=some (.slice ba bl bc):=HK4.out.cell 2 rfl
 have HKEY:Hid (keyOf Tryz.prog 3 (.int .i64 t)=some (tkey t)):=tkey_of (by omega)
 have hms4:m<w4.heap.size:=HS4.out.items.lt
 have hsz4:w.heap.size≤w4.heap.size:=HB4.out.size
 go_upto_region 4 with fail
 go_region_law (first
  | (go_simp;go_at_call 105;refine (st_cloned t f ba bl bc bs w4.drew (HR4.out.below HBD.out) hl).mono ?_;rintro e w5 ⟨ba',bc',rfl,ho,hb5⟩;have HO5:Hid (Own w5 w4.heap.size ba' bl bc' bs):=ho;have HB5:Hid (Below w4.heap.size w4 w5):=HBD.out.trans hb5;have HS5:Hid (Stm Z w5 s m av nv cv lv X):=HS4.out.stay HB5.out;have c15:w5.cell? ⟨s,1,none⟩=some (.map (some m)):=HS5.out.blk.cell 1 rfl;have g05:w5.cell? ⟨w.heap.size,0,none⟩=some (.int .i64 t):=(HK4.out.stay HB5.out).cell 0 rfl;obtain ⟨w6,hput,HS6,HT6⟩:=HS5.out.put hX HKEY.out (.agg #[.int .i64 t,.int .u32 f,.slice ba' bl bc']);clear ho hb5))
 all_goals (
  go_wp2
  refine ⟨rfl,_,results_none rfl _ _ _,rfl,av,nv,cv,lv,ba',bc',HS6.out,?_,HT4.out,(HB4.out.trans (Two.of_below s m HB5.out)).trans (Two.turned HT6.out)⟩
  have:=HO5.out.turned HT6.out hms4
  exact ⟨ownsRow_base_a this.row hsz4,this.byte⟩)
end
section
set_option maxRecDepth 100000
open Go.RowKit Go.Maps Go.Sort Go.Shelf
variable {Z:Nat→Prop}
theorem Stm.away {w:World} {s m:Nat} {a:Option Addr} {n c:Nat} {l:List Sp} {X:List (Int×Value)} (h:Stm Z w s m a n c l X) {g o:Nat} {k:IntKind} {z:Int} (hc:w.cell? ⟨g,o,none⟩=some (.int k z)):g≠s∧g≠m:=by
 constructor
 ·rintro rfl
  have:w.cell? ⟨g,o,none⟩=(#[Value.slice a n c,.map (some m)] : Array Value)[o]?:=cell_of_row w g _ _ _ _ h.blk
  rw [hc] at this
  match o,this with
  | 0,this=>cases this
  | 1,this=>cases this
  | o+2,this=>cases this
 ·rintro rfl
  obtain ⟨es,clock,hb,_⟩:=h.items
  unfold World.cell? at hc
  simp only [hb] at hc
  cases hc
theorem ItsRd.two {w w':World} {s m:Nat} {a:Option Addr} {n c:Nat} {l:List Sp} {X:List (Int×Value)} (h:Stm Z w s m a n c l X) {ia:Option Addr} {im:Nat} {L:List It} (hr:ItsRd w ia im L) (ht:Two s m w w'):ItsRd w' ia im L:=by
 obtain ⟨h1,h2,h3⟩:=hr
 refine ⟨h1,?_,h3⟩
 rcases h2 with h0 | ⟨g,o,ha,hg,hc⟩
 ·exact .inl h0
 ·cases L with
  | nil=>exact .inl rfl
  | cons q0 r0 =>
   have hk:=h.away (hc 0 q0 rfl).1
   have e:∀ p,w'.cell? ⟨g,p,none⟩=w.cell? ⟨g,p,none⟩:=fun p=>cell_same (ht.block g hg hk.1 hk.2) p
   refine .inr ⟨g,o,ha,Nat.lt_of_lt_of_le hg ht.size,fun i q hi => ?_⟩
   obtain ⟨k1,k2,ba,bl,bc,k3,k4⟩:=hc i q hi
   exact ⟨(e _).trans k1,(e _).trans k2,ba,bl,bc,(e _).trans k3,Rd.two h k4.1 ht,k4.2⟩
theorem st_forget_0 {w:World} {s m:Nat} {a:Option Addr} {n c:Nat} {l:List Sp} {X:List (Int×Value)} (h:Stm Z w s m a n c l X) (hX:X.length≤64) :
  Calls Tryz.prog 198 #[.pointer (some ⟨s,0,none⟩)] w fun e w'=>e=.returned (.tuple #[])∧Below w.heap.size w w':=by
 have HT:=st_ticks h (by omega)
 clear h
 go_enter Tryz.func198,Tryz.ntmps198
 go_wp2_with fail
 refine HT.mono ?_
 rintro e w3 ⟨v,rfl,hrow,hb3⟩
 rw [show X.length=(X.map Prod.fst).length from (List.length_map _).symm] at hrow
 obtain ⟨ra,rc,rfl,_⟩:=IntsRd.of_row hrow
 rw [List.length_map]
 have g1:¬ (64:Int)<(X.length:Int):=by omega
 have HB3:Hid (Below w.heap.size w w3):=hb3
 clear hrow hb3 HT
 go_wp2
 go_loopw [2] (fun t2 wr=>t2=.slice ra X.length rc∧wr=w3) (fun _ _=>0)
 case atStart=>exact ⟨rfl,rfl⟩
 case round =>
  obtain ⟨rfl,rfl⟩:=hrel
  go_wp2
  exact ⟨rfl,_,results_none rfl _ _ _,rfl,HB3.out⟩
theorem sp_equal_len (a b:Option Addr) (n c n2 c2:Nat) (hne:n≠n2) (w:World):Calls Tryz.prog 263 #[.slice a n c,.slice b n2 c2] w fun e w'=>e=.returned (.bool false)∧w'=w:=by
 have k:((n:Int) != (n2:Int))=true:=by rw [bne_iff_ne];omega
 go_enter Tryz.func263,Tryz.ntmps263
 go_wp2
 go_ret
 exact ⟨rfl,rfl⟩
end
end Go.Proofs.YtoiennkfdjnkbaaGreatDoor
