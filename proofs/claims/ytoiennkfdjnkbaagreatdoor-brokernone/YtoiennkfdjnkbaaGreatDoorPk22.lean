import Derived.Test.YtoiennkfdjnkbaaGreatDoorPk13
import Derived.Test.YtoiennkfdjnkbaaGreatDoorPk00
set_option maxRecDepth 100000
set_option maxHeartbeats 8000000
namespace Go.Proofs.YtoiennkfdjnkbaaGreatDoor
section
open Go.RowKit
theorem rcflat_len:∀ L:List Rc,(L.flatMap rcc).length=L.length * 2
 | [] => rfl
 | s :: L=>by rw [List.flatMap_cons,List.length_append,rcflat_len L,List.length_cons];simp [rcc];omega
theorem rcflat_at {L:List Rc} {i:Nat} {r:Rc} (h:L[i]? = some r) (j:Nat) (v:Value) (hj:(rcc r)[j]? = some v):(L.flatMap rcc)[i * 2+j]? = some v:=by
 obtain ⟨hi,he⟩:=List.getElem?_eq_some_iff.1 h
 have e:L=L.take i++r :: L.drop (i+1):=by
  rw [← he,List.getElem_cons_drop,List.take_append_drop]
 have hl:((L.take i).flatMap rcc).length=i * 2:=by rw [rcflat_len,List.length_take];omega
 have hj2:j<(rcc r).length:=(List.getElem?_eq_some_iff.1 hj).1
 rw [e,List.flatMap_append,List.flatMap_cons,List.getElem?_append_right (by omega),hl,Nat.add_sub_cancel_left,List.getElem?_append_left hj2]
 exact hj
theorem Rcs.at_ {w:World} {base:Nat} {v:Value} {L:List Rc} (h:Rcs w base v L) {i:Nat} {r:Rc} (hi:L[i]? = some r):∃ gr c,v=.slice (some ⟨gr,0,none⟩) L.length c∧gr<w.heap.size∧w.rangeAt gr (i * 2) (rcc r):=by
 have hlt:=(List.getElem?_eq_some_iff.1 hi).1
 rcases h.row.2 with ⟨_,h2⟩ | ⟨g,c,cur,hv,hb,hg,hlc,hcm,hcs,hx⟩
 ·omega
 ·refine ⟨g,c,hv,heap_lt hg,fun j u hj => ?_⟩
  refine Blk.cell (show Blk w g cur 178 from hg) _ ?_
  have h1:=rcflat_at hi j u hj
  rw [← hx,List.getElem?_take] at h1
  split at h1
  ·simpa using h1
  ·cases h1
def evF (f t:Int) (L:List (Nat×List Nat)):List (Nat×List Nat):=L.filter fun p=>decide (f≤(p.1:Int)) && decide ((p.1:Int)≤t)
theorem BdE.long {w:World} {B n:Nat} {a:Option Addr} {bs:List Nat} (h:BdE w B a n bs):n≤4096:=by
 rcases h.2 with h0 | ⟨g,off,cs,fr,e,hB,r⟩
 ·omega
 ·exact hB.2
theorem own_kt {w w':World} {base size n:Nat} {v:Value} {xs:List Value} (h:w.ownsRow base 5 size v n xs) (hk:Kt w w'):w'.ownsRow base 5 size v n xs:=by
 refine ⟨h.1,?_⟩
 rcases h.2 with h1 | ⟨g,c,cur,h1,h2,h3,r⟩
 ·exact .inl h1
 ·exact .inr ⟨g,c,cur,h1,h2,hk.block g cur _ _ h3 (by decide) (by decide) (by decide),r⟩
def BodO (w:World) (B:Nat) (L:List Rc):Prop:=(∀ x∈L,Own w B x.a x.n x.c x.bs)∧L.Pairwise fun x y=>∀ k,(Value.slice x.a x.n x.c).ownBlock=some k→(Value.slice y.a y.n y.c).ownBlock≠some k
theorem BodO.kt {w w':World} {B:Nat} {L:List Rc} (h:BodO w B L) (hk:Kt w w'):BodO w' B L:=⟨fun x hx=>⟨own_kt (h.1 x hx).row hk,(h.1 x hx).byte⟩,h.2⟩
theorem BodO.snoc {w w2:World} {B B2:Nat} {L:List Rc} (h:BodO w B L) (hk:Kt w w2) (x:Rc) (ho:Own w2 B2 x.a x.n x.c x.bs) (hB:B≤B2) (hw:w.heap.size≤B2):BodO w2 B (L++[x]):=by
 refine ⟨fun y hy => ?_,List.pairwise_append.2 ⟨h.2,List.pairwise_singleton _ _,fun y hy z hz k e1 e2 => ?_⟩⟩
 ·rcases List.mem_append.1 hy with h1 | h1
  ·exact (h.kt hk).1 y h1
  ·rw [List.mem_singleton] at h1
   subst h1
   exact ho.lower hB
 ·rw [List.mem_singleton] at hz
  subst hz
  have h1:=((h.1 y hy).row.lt k e1).2
  have h2:=(ho.row.lt k e2).1
  omega
theorem evl_EventsO (w:World) (base gl g gc b m ag hi rel:Nat) (uv rv:Value) (L:List Rc) (f t:Int) (h:Lc w gl g gc b m ag uv hi rel rv) (hrc:Rcs w base rv L) (hl:L.length≤100000) :
  Calls Tryz.prog 249 #[.pointer (some ⟨gl,0,none⟩),.int .i64 f,.int .i64 t] w fun e w'=>Hid (∃ v L',e=.returned v∧L'.map plR=evF f t (L.map plR)∧Rcs w' w.heap.size v L'∧BodO w' w.heap.size L')∧Below w.heap.size w w':=by
 obtain ⟨ar,cr,hrv⟩:=hrc.val
 subst hrv
 have HR:Hid (Rcs w base (.slice ar L.length cr) L):=hrc
 have c8:w.cell? ⟨gl,8,none⟩=some (.slice ar L.length cr):=Blk.cell h 8 rfl
 obtain ⟨N,HN⟩:∃ N,Hid (N=L.length):=⟨_,rfl⟩
 have hN:N≤100000:=by rw [HN.out];exact hl
 rw [← HN.out] at c8
 clear h hrc hl
 go_enter Tryz.func249,Tryz.ntmps249
 go_wp2_with fail
 go_loopw [7,17] (fun t7 t17 wr=>∃ (i:Nat) (L1:List Rc) (v1:Value),i≤N∧t17=.int .i64 (i:Int)∧t7=v1∧Hid (L1.length≤i)∧Hid (L1.map plR=evF f t ((L.take i).map plR))∧Hid (Rcs wr w.heap.size v1 L1)∧Hid (BodO wr w.heap.size L1)∧Hid (Below w.heap.size w wr)) (fun _ t17 _=>N - (intOf t17).toNat)
 case atStart=>exact ⟨0,[],_,Nat.zero_le _,rfl,rfl,Nat.zero_le _,rfl,⟨World.ownsRow_nil _ _ _ _,fun r hr=>by cases hr⟩,⟨fun r hr=>(by cases hr),List.Pairwise.nil⟩,Below.refl _ _⟩
 case round =>
  obtain ⟨i,L1,v1,hi2,rfl,hv7,HL1,HE1,HR1,HO1,HB1⟩:=hrel
  have hv7':=hv7.symm
  subst hv7'
  by_cases hlt:i<N
  ·obtain ⟨r,hri⟩:∃ r,L[i]? = some r:=⟨_,List.getElem?_eq_getElem (by rw [← HN.out];exact hlt)⟩
   obtain ⟨gr,c,hv,hgr,hrg⟩:=(HR.out.below HB1.out).at_ hri
   have ha:ar=some ⟨gr,0,none⟩:=by simp only [Value.slice.injEq] at hv;exact hv.1
   subst ha
   have HTK:Hid (L.take (i+1)=L.take i++[r]):=by
    (show _=_)
    obtain ⟨hi',he⟩:=List.getElem?_eq_some_iff.1 hri
    rw [List.take_add_one,hri];rfl
   have HBD:Hid (BdE wr base r.a r.n r.bs):=((HR.out.below HB1.out).bd r (List.mem_of_getElem? hri))
   obtain ⟨tk,ra,rn,rc',rbs⟩:=r
   have HRG:Hid (wr.rangeAt gr (i * 2) (rcc ⟨tk,ra,rn,rc',rbs⟩)):=hrg
   simp only at HBD
   have hlt':(i:Int)<(N:Int):=by omega
   have hge:(0:Int)≤(i:Int):=by omega
   obtain ⟨W1,HW1⟩:∃ W1,Hid (W1=wr.alloc (.cells #[.int .i64 (tk:Int),.slice ra rn rc'] 178)):=⟨_,rfl⟩
   have HBW:Hid (Below wr.heap.size wr W1):=by (show Below _ _ _);rw [HW1.out];exact below_alloc _ _
   have HK1:Hid (Blk W1 wr.heap.size #[.int .i64 (tk:Int),.slice ra rn rc'] 178):=by (show Blk _ _ _ _);rw [HW1.out];exact Blk.new _ _ _
   have HB2:Hid (Below w.heap.size w W1):=HB1.out.trans (HBW.out.mono HB1.out.size)
   have HR2:Hid (Rcs W1 w.heap.size v1 L1):=HR1.out.below HBW.out
   have HO2:Hid (BodO W1 w.heap.size L1):=HO1.out.kt (Kt.of_below HBW.out)
   have HBD2:Hid (BdE W1 base ra rn rbs):=HBD.out.kt (Kt.of_below HBW.out)
   have k0:W1.cell? ⟨wr.heap.size,0,none⟩=some (.int .i64 (tk:Int)):=HK1.out.cell 0 rfl
   have HSS:Hid (∀ W':World,Blk W' wr.heap.size #[.int .i64 (tk:Int),.slice ra rn rc'] 178→W'.cell? ⟨wr.heap.size,0,none⟩=some (.int .i64 (tk:Int))∧W'.cell? ⟨wr.heap.size,1,none⟩=some (.slice ra rn rc')):=fun W' h=>⟨h.cell 0 rfl,h.cell 1 rfl⟩
   have HNX:Hid (some wr.heap.size≠v1.ownBlock):=fun e=>by have:=(HR1.out.row.lt _ e.symm).2;omega
   have k1:W1.cell? ⟨wr.heap.size,1,none⟩=some (.slice ra rn rc'):=HK1.out.cell 1 rfl
   clear hv hgr hrg hri c8
   go_upto_region 7 with (guard_target =~ wpList _ _ _ (Oper.mk (some 20) _ _ _ _ _ :: _) _ _;refine wpList_load_mid rfl 178 (.tmp 19) rfl gr (i * 2) rfl [.int .i64 (tk:Int),.slice ra rn rc'] _ HRG.out Tryz.underlying178 rfl (by rfl) ?_)
   rw [← HW1.out]
   have HTK2:Hid ((L.take (i+1)).map plR=(L.take i).map plR++[(tk,rbs)]):=by
    (show _=_)
    rw [HTK.out,List.map_append]
    rfl
   by_cases hin:f≤(tk:Int)∧(tk:Int)≤t
   ·have h1:f≤(tk:Int):=hin.1
    have h2:(tk:Int)≤t:=hin.2
    have HEV:Hid (evF f t ((L.take (i+1)).map plR)=L1.map plR++[(tk,rbs)]):=by
     (show _=_)
     rw [HTK2.out,evF,List.filter_append,HE1.out,evF]
     simp [h1,h2]
    have HBDR:Hid (Below W1.heap.size W1 W1.drew):=(Below.refl _ _).drew
    have s0:W1.cell? ⟨wr.heap.size,0,none⟩=some (.int .i64 (tk:Int))∧W1.cell? ⟨wr.heap.size,1,none⟩=some (.slice ra rn rc'):=⟨k0,k1⟩
    clear hin
    go_wp2_with fail
    clear k0 k1
    go_region_held3 (fun w'=>w'.cell? ⟨wr.heap.size,0,none⟩=some (.int .i64 (tk:Int))∧w'.cell? ⟨wr.heap.size,1,none⟩=some (.slice ra rn rc')) (first | exact s0 | exact s8 | exact s9 | exact s10 | fail)
     (first
      | (guard_target =~ (if Region.wanted (Oper.mk (some 39) _ _ _ _ _) _=true then _ else _);refine step_append_rc rfl (.tmp 31) (.tmp 38) rfl w.heap.size _ L1 rfl (by rw [← HW9.out];exact HR9.out) w8.heap.size 1 ⟨tk,a8,rn,c8,rbs⟩ rfl (by rw [← HW9.out];exact HK9.out) (by rw [← HW9.out];exact HD9.out) (by have:=HL1.out;omega) (by rw [← HW9.out];exact HB9.out.size) ?_;rw [← HW9.out];intro v10 w10 hr10 hg10 hb10 hk10;have HO10:Hid (BodO w10 w.heap.size (L1++[⟨tk,a8,rn,c8,rbs⟩])):=HO9.out.kt hk10;have HR10:Hid (Rcs w10 w.heap.size v10 (L1++[⟨tk,a8,rn,c8,rbs⟩])):=hr10;have HB10:Hid (Below w.heap.size w w10):=HB9.out.trans hb10;have s10:w10.cell? ⟨wr.heap.size,0,none⟩=some (.int .i64 (tk:Int))∧w10.cell? ⟨wr.heap.size,1,none⟩=some (.slice ra rn rc'):=(HSS.out w10 (HKX.out.grown hg10 HNX.out));clear hr10 hg10 hb10 hk10)
      | (go_at_call 96;refine (evl_bytes_Clone ra rn rc' rbs W1.drew (HBD2.out.kt (Kt.of_below HBDR.out)).1 (by have:=HBD2.out.long;omega)).mono ?_;rintro e w8 ⟨a8,c8,rfl,ho8,hb8⟩;have HX8:Hid (Below W1.heap.size W1 w8):=HBDR.out.trans (hb8.mono HBDR.out.size);have HD8:Hid (BdE w8 w.heap.size a8 rn rbs):=(ho8.bd HBD2.out.long).lower (Nat.le_trans HB2.out.size HBDR.out.size);have HK8:Hid (Blk w8 wr.heap.size #[.int .i64 (tk:Int),.slice ra rn rc'] 178):=HK1.out.stay HX8.out;have HR8:Hid (Rcs w8 w.heap.size v1 L1):=HR2.out.below HX8.out;have HB8:Hid (Below w.heap.size w w8):=HB2.out.trans (HX8.out.mono HB2.out.size);obtain ⟨W9,HW9⟩:∃ W9,Hid (W9=w8.alloc (.cells #[.int .i64 (tk:Int),.slice a8 rn c8] 178)):=⟨_,rfl⟩;have HX9:Hid (Below w8.heap.size w8 W9):=(by (show Below _ _ _);rw [HW9.out];exact below_alloc _ _);have HR9:Hid (Rcs W9 w.heap.size v1 L1):=HR8.out.below HX9.out;have HK9:Hid (Blk W9 w8.heap.size #[.int .i64 (tk:Int),.slice a8 rn c8] 178):=(by (show Blk _ _ _ _);rw [HW9.out];exact Blk.new _ _ _);have HO9:Hid (BodO W9 w.heap.size (L1++[⟨tk,a8,rn,c8,rbs⟩])):=(HO2.out.snoc (Kt.of_below HX8.out) ⟨tk,a8,rn,c8,rbs⟩ ho8 (Nat.le_trans HB2.out.size HBDR.out.size) HBDR.out.size).kt (Kt.of_below HX9.out);have HD9:Hid (BdE W9 w.heap.size a8 rn rbs):=HD8.out.kt (Kt.of_below HX9.out);have HB9:Hid (Below w.heap.size w W9):=HB8.out.trans (HX9.out.mono HB8.out.size);have HKX:Hid (Blk W9 wr.heap.size #[.int .i64 (tk:Int),.slice ra rn rc'] 178):=HK8.out.stay HX9.out;have s8:w8.cell? ⟨wr.heap.size,0,none⟩=some (.int .i64 (tk:Int))∧w8.cell? ⟨wr.heap.size,1,none⟩=some (.slice ra rn rc'):=HSS.out w8 HK8.out;have s9:(w8.alloc (.cells #[.int .i64 (tk:Int),.slice a8 rn c8] 178)).cell? ⟨wr.heap.size,0,none⟩=some (.int .i64 (tk:Int))∧(w8.alloc (.cells #[.int .i64 (tk:Int),.slice a8 rn c8] 178)).cell? ⟨wr.heap.size,1,none⟩=some (.slice ra rn rc'):=HSS.out _ (HK8.out.stay (below_alloc _ _));clear ho8 hb8))
    have HLA:Hid ((L1++[(⟨tk,a8,rn,c8,rbs⟩:Rc)]).length≤i+1):=by (show _≤_);rw [List.length_append,List.length_singleton];have:=HL1.out;omega
    have HMA:Hid ((L1++[(⟨tk,a8,rn,c8,rbs⟩:Rc)]).map plR=evF f t ((L.take (i+1)).map plR)):=by (show _=_);rw [HEV.out,List.map_append];rfl
    clear s0 s8 s9 s10
    go_wp2
    go_roundw
    case rel=>exact ⟨i+1,_,v10,by omega,by go_num,rfl,HLA,HMA,HR10,HO10,HB10⟩
    case measure=>(simp [intOf];omega)
   ·have HEV:Hid (evF f t ((L.take (i+1)).map plR)=L1.map plR):=by
     (show _=_)
     rw [HTK2.out,evF,List.filter_append,HE1.out,evF]
     have:(decide (f≤(tk:Int)) && decide ((tk:Int)≤t))=false:=by
      rw [Bool.and_eq_false_iff,decide_eq_false_iff_not,decide_eq_false_iff_not]
      omega
     rw [List.filter_cons,if_neg (by simp only [this];decide)]
     simp
    by_cases h1:f≤(tk:Int)
    ·have h2:¬ (tk:Int)≤t:=fun h=>hin ⟨h1,h⟩
     clear hin
     go_wp2
     go_roundw
     case rel=>exact ⟨i+1,L1,v1,by omega,by go_num,rfl,Nat.le_succ_of_le HL1.out,HEV.out.symm,HR2,HO2,HB2⟩
     case measure=>(simp [intOf];omega)
    ·clear hin
     go_wp2
     go_roundw
     case rel=>exact ⟨i+1,L1,v1,by omega,by go_num,rfl,Nat.le_succ_of_le HL1.out,HEV.out.symm,HR2,HO2,HB2⟩
     case measure=>(simp [intOf];omega)
  ·obtain rfl:i=N:=by omega
   have hlt':¬ (i:Int)<(i:Int):=by omega
   have HF:Hid (L1.map plR=evF f t (L.map plR)):=by
    (show _=_)
    rw [HE1.out,HN.out,List.take_length]
   clear c8
   go_wp2
   go_returns
   exact ⟨⟨v1,rfl,L1,HF.out,HR1.out,HO1.out⟩,HB1.out⟩
theorem evl_Events (w:World) (base gl g gc b m ag hi rel:Nat) (uv rv:Value) (L:List Rc) (f t:Int) (h:Lc w gl g gc b m ag uv hi rel rv) (hrc:Rcs w base rv L) (hl:L.length≤100000) :
  Calls Tryz.prog 249 #[.pointer (some ⟨gl,0,none⟩),.int .i64 f,.int .i64 t] w fun e w'=>Hid (∃ v L',e=.returned v∧L'.map plR=evF f t (L.map plR)∧Rcs w' w.heap.size v L')∧Below w.heap.size w w' :=
 (evl_EventsO w base gl g gc b m ag hi rel uv rv L f t h hrc hl).mono fun _ _ h=>by
  obtain ⟨v,L',h1,h2,h3,_⟩:=h.1.out
  exact ⟨⟨v,L',h1,h2,h3⟩,h.2⟩
end
section
open Go.RowKit
theorem bytes_Clone (a:Option Addr) (n c:Nat) (bs:List Nat) (w:World) (hr:Rd w a n bs) (hl:n≤140737488351232) :
  Calls Tryz.prog 96 #[.slice a n c] w fun e w'=>∃ a' c',e=.returned (.slice a' n c')∧Own w' w.heap.size a' n c' bs∧Below w.heap.size w w':=by
 have HR:Hid (Rd w a n bs):=hr
 cases a with
 | none =>
  have hz:n=0:=by
   rcases hr.cells with h0 | ⟨_,_,h,_⟩
   ·exact h0
   ·cases h
  have HB:Hid (bs=[]):=List.eq_nil_of_length_eq_zero (by rw [hr.size];exact hz)
  subst hz
  have hq:∀ W:World,(binOp .eql 22 (.slice none 0 c) (.slice none 0 0)).run Tryz.prog W=.ok (.bool true) W:=fun W=>by
   simp only [binOp]
   rw [Sem.run_bind,run_equal_slice_nil W _ _ _ _ _ Tryz.underlying22]
   rfl
  clear hr
  go_enter Tryz.func96,Tryz.ntmps96
  go_wp2
  go_ret
  rw [HB.out]
  exact ⟨none,0,rfl,⟨World.ownsRow_nil _ _ _ _,fun x hx=>(by cases hx)⟩,Below.refl _ _⟩
 | some ad =>
  have hq:∀ W:World,(binOp .eql 22 (.slice (some ad) n c) (.slice none 0 0)).run Tryz.prog W=.ok (.bool false) W:=fun W=>by
   simp only [binOp]
   rw [Sem.run_bind,run_equal_slice_nil W _ _ _ _ _ Tryz.underlying22]
   rfl
  clear hr
  go_enter Tryz.func96,Tryz.ntmps96
  go_wp2_with (at_builtin;refine wpList_append_rd rfl (.tmp 5) (.tmp 6) rfl w.heap.size (some ⟨w.heap.size,0,none⟩) 0 0 [] rfl (Own.empty w) (some ad) n c bs rfl (HR.out.below (below_alloc _ _)) (by simp) (by omega) (by simp) ?_)
  intro a5 c5 w5 ho5 hg5 hb5
  have HO5:Hid (Own w5 w.heap.size a5 n c5 bs):=by
   show Own _ _ _ _ _ _
   simpa using ho5
  have HB5:Hid (Below w.heap.size w w5):=(below_alloc w (.cells #[] 5)).trans hb5
  clear ho5 hg5 hb5
  go_wp2
  go_ret
  refine ⟨a5,c5,?_,HO5.out,HB5.out⟩
  simp
end
end Go.Proofs.YtoiennkfdjnkbaaGreatDoor
