import Derived.Test.YtghajmcohdedlaaGreatPk15
import Derived.Test.YtghajmcohdedlaaGreatPk22
namespace Go.Proofs.YtghajmcohdedlaaGreat
open Go.RowKit
theorem rcflat_len : ∀ L : List Rc,(L.flatMap rcc).length = L.length * 2
 | [] => rfl
 | s :: L => by rw [List.flatMap_cons,List.length_append,rcflat_len L,List.length_cons];simp [rcc];omega
theorem rcflat_at {L : List Rc} {i : Nat} {r : Rc} (h : L[i]? = some r) (j : Nat) (v : Value) (hj : (rcc r)[j]? = some v) : (L.flatMap rcc)[i * 2 + j]? = some v:=by
 obtain ⟨hi,he⟩:=List.getElem?_eq_some_iff.1 h
 have e : L = L.take i ++ r :: L.drop (i + 1):=by
  rw [← he,List.getElem_cons_drop,List.take_append_drop]
 have hl : ((L.take i).flatMap rcc).length = i * 2:=by rw [rcflat_len,List.length_take];omega
 have hj2 : j < (rcc r).length:=(List.getElem?_eq_some_iff.1 hj).1
 rw [e,List.flatMap_append,List.flatMap_cons,List.getElem?_append_right (by omega),hl,Nat.add_sub_cancel_left,List.getElem?_append_left hj2]
 exact hj
theorem Rcs.at_ {w : World} {base : Nat} {v : Value} {L : List Rc} (h : Rcs w base v L) {i : Nat} {r : Rc} (hi : L[i]? = some r) : ∃ gr c,v = .slice (some ⟨gr,0,none⟩) L.length c ∧ gr < w.heap.size ∧ w.rangeAt gr (i * 2) (rcc r):=by
 have hlt:=(List.getElem?_eq_some_iff.1 hi).1
 rcases h.row.2 with ⟨_,h2⟩ | ⟨g,c,cur,hv,hb,hg,hlc,hcm,hcs,hx⟩
 ·omega
 ·refine ⟨g,c,hv,heap_lt hg,fun j u hj => ?_⟩
  refine Blk.cell (show Blk w g cur 44 from hg) _ ?_
  have h1:=rcflat_at hi j u hj
  rw [← hx,List.getElem?_take] at h1
  split at h1
  ·simpa using h1
  ·cases h1
def evF (f t : Int) (L : List (Nat × List Nat)) : List (Nat × List Nat):=L.filter fun p => decide (f ≤ (p.1 : Int)) && decide ((p.1 : Int) ≤ t)
theorem Bd.long {w : World} {B n : Nat} {a : Option Addr} {bs : List Nat} (h : Bd w B a n bs) : n ≤ 4096:=by
 rcases h.2 with h0 | ⟨g,off,cs,fr,e,hB,r⟩
 ·omega
 ·exact hB.2
theorem own_kt {w w' : World} {base size n : Nat} {v : Value} {xs : List Value} (h : w.ownsRow base 5 size v n xs) (hk : Kt w w') : w'.ownsRow base 5 size v n xs:=by
 refine ⟨h.1,?_⟩
 rcases h.2 with h1 | ⟨g,c,cur,h1,h2,h3,r⟩
 ·exact .inl h1
 ·exact .inr ⟨g,c,cur,h1,h2,hk.block g cur _ _ h3 (by decide) (by decide) (by decide),r⟩
def BodO (w : World) (B : Nat) (L : List Rc) : Prop:=(∀ x ∈ L,Own w B x.a x.n x.c x.bs) ∧ L.Pairwise fun x y => ∀ k,(Value.slice x.a x.n x.c).ownBlock = some k → (Value.slice y.a y.n y.c).ownBlock ≠ some k
theorem BodO.kt {w w' : World} {B : Nat} {L : List Rc} (h : BodO w B L) (hk : Kt w w') : BodO w' B L:=⟨fun x hx => ⟨own_kt (h.1 x hx).row hk,(h.1 x hx).byte⟩,h.2⟩
theorem BodO.snoc {w w2 : World} {B B2 : Nat} {L : List Rc} (h : BodO w B L) (hk : Kt w w2) (x : Rc) (ho : Own w2 B2 x.a x.n x.c x.bs) (hB : B ≤ B2) (hw : w.heap.size ≤ B2) : BodO w2 B (L ++ [x]):=by
 refine ⟨fun y hy => ?_,List.pairwise_append.2 ⟨h.2,List.pairwise_singleton _ _,fun y hy z hz k e1 e2 => ?_⟩⟩
 ·rcases List.mem_append.1 hy with h1 | h1
  ·exact (h.kt hk).1 y h1
  ·rw [List.mem_singleton] at h1
   subst h1
   exact ho.lower hB
 ·rw [List.mem_singleton] at hz
  subst hz
  have h1:=((h.1 y hy).row.lt k e1).2
  have h2:=(ho.row.lt k e2).1
  omega
set_option maxRecDepth 100000 in
set_option maxHeartbeats 8000000 in
theorem evl_EventsO (w : World) (base gl g gc b m ag hi rel : Nat) (uv rv : Value) (L : List Rc) (f t : Int) (h : Lc w gl g gc b m ag uv hi rel rv) (hrc : Rcs w base rv L) (hl : L.length ≤ 100000) :
  Calls Tryz.prog 15 #[.pointer (some ⟨gl,0,none⟩),.int .i64 f,.int .i64 t] w fun e w' => Hid (∃ v L',e = .returned v ∧ L'.map plR = evF f t (L.map plR) ∧ Rcs w' w.heap.size v L' ∧ BodO w' w.heap.size L') ∧ Below w.heap.size w w':=by
 obtain ⟨ar,cr,hrv⟩:=hrc.val
 subst hrv
 have HR : Hid (Rcs w base (.slice ar L.length cr) L):=hrc
 have c8 : w.cell? ⟨gl,8,none⟩ = some (.slice ar L.length cr):=Blk.cell h 8 rfl
 obtain ⟨N,HN⟩ : ∃ N,Hid (N = L.length):=⟨_,rfl⟩
 have hN : N ≤ 100000:=by rw [HN.out];exact hl
 rw [← HN.out] at c8
 clear h hrc hl
 go_enter Tryz.func15,Tryz.ntmps15
 go_wp2_with fail
 go_loopw [7,17] (fun t7 t17 wr => ∃ (i : Nat) (L1 : List Rc) (v1 : Value),i ≤ N ∧ t17 = .int .i64 (i : Int) ∧ t7 = v1 ∧ Hid (L1.length ≤ i) ∧ Hid (L1.map plR = evF f t ((L.take i).map plR)) ∧ Hid (Rcs wr w.heap.size v1 L1) ∧ Hid (BodO wr w.heap.size L1) ∧ Hid (Below w.heap.size w wr)) (fun _ t17 _ => N - (intOf t17).toNat)
 case atStart => exact ⟨0,[],_,Nat.zero_le _,rfl,rfl,Nat.zero_le _,rfl,⟨World.ownsRow_nil _ _ _ _,fun r hr => by cases hr⟩,⟨fun r hr => (by cases hr),List.Pairwise.nil⟩,Below.refl _ _⟩
 case round =>
  obtain ⟨i,L1,v1,hi2,rfl,hv7,HL1,HE1,HR1,HO1,HB1⟩:=hrel
  have hv7':=hv7.symm
  subst hv7'
  by_cases hlt : i < N
  ·obtain ⟨r,hri⟩ : ∃ r,L[i]? = some r:=⟨_,List.getElem?_eq_getElem (by rw [← HN.out];exact hlt)⟩
   obtain ⟨gr,c,hv,hgr,hrg⟩:=(HR.out.below HB1.out).at_ hri
   have ha : ar = some ⟨gr,0,none⟩:=by simp only [Value.slice.injEq] at hv;exact hv.1
   subst ha
   have HTK : Hid (L.take (i + 1) = L.take i ++ [r]):=by
    (show _ = _)
    obtain ⟨hi',he⟩:=List.getElem?_eq_some_iff.1 hri
    rw [List.take_add_one,hri];rfl
   have HBD : Hid (Bd wr base r.a r.n r.bs):=((HR.out.below HB1.out).bd r (List.mem_of_getElem? hri))
   obtain ⟨tk,ra,rn,rc',rbs⟩:=r
   have HRG : Hid (wr.rangeAt gr (i * 2) (rcc ⟨tk,ra,rn,rc',rbs⟩)):=hrg
   simp only at HBD
   have hlt' : (i : Int) < (N : Int):=by omega
   have hge : (0 : Int) ≤ (i : Int):=by omega
   obtain ⟨W1,HW1⟩ : ∃ W1,Hid (W1 = wr.alloc (.cells #[.int .i64 (tk : Int),.slice ra rn rc'] 44)):=⟨_,rfl⟩
   have HBW : Hid (Below wr.heap.size wr W1):=by (show Below _ _ _);rw [HW1.out];exact below_alloc _ _
   have HK1 : Hid (Blk W1 wr.heap.size #[.int .i64 (tk : Int),.slice ra rn rc'] 44):=by (show Blk _ _ _ _);rw [HW1.out];exact Blk.new _ _ _
   have HB2 : Hid (Below w.heap.size w W1):=HB1.out.trans (HBW.out.mono HB1.out.size)
   have HR2 : Hid (Rcs W1 w.heap.size v1 L1):=HR1.out.below HBW.out
   have HO2 : Hid (BodO W1 w.heap.size L1):=HO1.out.kt (Kt.of_below HBW.out)
   have HBD2 : Hid (Bd W1 base ra rn rbs):=HBD.out.kt (Kt.of_below HBW.out)
   have k0 : W1.cell? ⟨wr.heap.size,0,none⟩ = some (.int .i64 (tk : Int)):=HK1.out.cell 0 rfl
   have HSS : Hid (∀ W' : World,Blk W' wr.heap.size #[.int .i64 (tk : Int),.slice ra rn rc'] 44 → W'.cell? ⟨wr.heap.size,0,none⟩ = some (.int .i64 (tk : Int)) ∧ W'.cell? ⟨wr.heap.size,1,none⟩ = some (.slice ra rn rc')):=fun W' h => ⟨h.cell 0 rfl,h.cell 1 rfl⟩
   have HNX : Hid (some wr.heap.size ≠ v1.ownBlock):=fun e => by have:=(HR1.out.row.lt _ e.symm).2;omega
   have k1 : W1.cell? ⟨wr.heap.size,1,none⟩ = some (.slice ra rn rc'):=HK1.out.cell 1 rfl
   clear hv hgr hrg hri c8
   go_upto_region 7 with (guard_target =~ wpList _ _ _ (Oper.mk (some 20) _ _ _ _ _ :: _) _ _;refine wpList_load_mid rfl 44 (.tmp 19) rfl gr (i * 2) rfl [.int .i64 (tk : Int),.slice ra rn rc'] _ HRG.out Tryz.underlying44 rfl (by rfl) ?_)
   rw [← HW1.out]
   have HTK2 : Hid ((L.take (i + 1)).map plR = (L.take i).map plR ++ [(tk,rbs)]):=by
    (show _ = _)
    rw [HTK.out,List.map_append]
    rfl
   by_cases hin : f ≤ (tk : Int) ∧ (tk : Int) ≤ t
   ·have h1 : f ≤ (tk : Int):=hin.1
    have h2 : (tk : Int) ≤ t:=hin.2
    have HEV : Hid (evF f t ((L.take (i + 1)).map plR) = L1.map plR ++ [(tk,rbs)]):=by
     (show _ = _)
     rw [HTK2.out,evF,List.filter_append,HE1.out,evF]
     simp [h1,h2]
    have HBDR : Hid (Below W1.heap.size W1 W1.drew):=(Below.refl _ _).drew
    have s0 : W1.cell? ⟨wr.heap.size,0,none⟩ = some (.int .i64 (tk : Int)) ∧ W1.cell? ⟨wr.heap.size,1,none⟩ = some (.slice ra rn rc'):=⟨k0,k1⟩
    clear hin
    go_wp2_with fail
    clear k0 k1
    go_region_held3 (fun w' => w'.cell? ⟨wr.heap.size,0,none⟩ = some (.int .i64 (tk : Int)) ∧ w'.cell? ⟨wr.heap.size,1,none⟩ = some (.slice ra rn rc')) (first | exact s0 | exact s8 | exact s9 | exact s10 | fail)
     (first
      | (guard_target =~ (if Region.wanted (Oper.mk (some 39) _ _ _ _ _) _ = true then _ else _);refine step_append_rc rfl (.tmp 31) (.tmp 38) rfl w.heap.size _ L1 rfl (by rw [← HW9.out];exact HR9.out) w8.heap.size 1 ⟨tk,a8,rn,c8,rbs⟩ rfl (by rw [← HW9.out];exact HK9.out) (by rw [← HW9.out];exact HD9.out) (by have:=HL1.out;omega) (by rw [← HW9.out];exact HB9.out.size) ?_;rw [← HW9.out];intro v10 w10 hr10 hg10 hb10 hk10;have HO10 : Hid (BodO w10 w.heap.size (L1 ++ [⟨tk,a8,rn,c8,rbs⟩])):=HO9.out.kt hk10;have HR10 : Hid (Rcs w10 w.heap.size v10 (L1 ++ [⟨tk,a8,rn,c8,rbs⟩])):=hr10;have HB10 : Hid (Below w.heap.size w w10):=HB9.out.trans hb10;have s10 : w10.cell? ⟨wr.heap.size,0,none⟩ = some (.int .i64 (tk : Int)) ∧ w10.cell? ⟨wr.heap.size,1,none⟩ = some (.slice ra rn rc'):=(HSS.out w10 (HKX.out.grown hg10 HNX.out));clear hr10 hg10 hb10 hk10)
      | (go_at_call 42;refine (bytes_Clone ra rn rc' rbs W1.drew (HBD2.out.kt (Kt.of_below HBDR.out)).1 (by have:=HBD2.out.long;omega)).mono ?_;rintro e w8 ⟨a8,c8,rfl,ho8,hb8⟩;have HX8 : Hid (Below W1.heap.size W1 w8):=HBDR.out.trans (hb8.mono HBDR.out.size);have HD8 : Hid (Bd w8 w.heap.size a8 rn rbs):=(ho8.bd HBD2.out.long).lower (Nat.le_trans HB2.out.size HBDR.out.size);have HK8 : Hid (Blk w8 wr.heap.size #[.int .i64 (tk : Int),.slice ra rn rc'] 44):=HK1.out.stay HX8.out;have HR8 : Hid (Rcs w8 w.heap.size v1 L1):=HR2.out.below HX8.out;have HB8 : Hid (Below w.heap.size w w8):=HB2.out.trans (HX8.out.mono HB2.out.size);obtain ⟨W9,HW9⟩ : ∃ W9,Hid (W9 = w8.alloc (.cells #[.int .i64 (tk : Int),.slice a8 rn c8] 44)):=⟨_,rfl⟩;have HX9 : Hid (Below w8.heap.size w8 W9):=(by (show Below _ _ _);rw [HW9.out];exact below_alloc _ _);have HR9 : Hid (Rcs W9 w.heap.size v1 L1):=HR8.out.below HX9.out;have HK9 : Hid (Blk W9 w8.heap.size #[.int .i64 (tk : Int),.slice a8 rn c8] 44):=(by (show Blk _ _ _ _);rw [HW9.out];exact Blk.new _ _ _);have HO9 : Hid (BodO W9 w.heap.size (L1 ++ [⟨tk,a8,rn,c8,rbs⟩])):=(HO2.out.snoc (Kt.of_below HX8.out) ⟨tk,a8,rn,c8,rbs⟩ ho8 (Nat.le_trans HB2.out.size HBDR.out.size) HBDR.out.size).kt (Kt.of_below HX9.out);have HD9 : Hid (Bd W9 w.heap.size a8 rn rbs):=HD8.out.kt (Kt.of_below HX9.out);have HB9 : Hid (Below w.heap.size w W9):=HB8.out.trans (HX9.out.mono HB8.out.size);have HKX : Hid (Blk W9 wr.heap.size #[.int .i64 (tk : Int),.slice ra rn rc'] 44):=HK8.out.stay HX9.out;have s8 : w8.cell? ⟨wr.heap.size,0,none⟩ = some (.int .i64 (tk : Int)) ∧ w8.cell? ⟨wr.heap.size,1,none⟩ = some (.slice ra rn rc'):=HSS.out w8 HK8.out;have s9 : (w8.alloc (.cells #[.int .i64 (tk : Int),.slice a8 rn c8] 44)).cell? ⟨wr.heap.size,0,none⟩ = some (.int .i64 (tk : Int)) ∧ (w8.alloc (.cells #[.int .i64 (tk : Int),.slice a8 rn c8] 44)).cell? ⟨wr.heap.size,1,none⟩ = some (.slice ra rn rc'):=HSS.out _ (HK8.out.stay (below_alloc _ _));clear ho8 hb8))
    have HLA : Hid ((L1 ++ [(⟨tk,a8,rn,c8,rbs⟩ : Rc)]).length ≤ i + 1):=by (show _ ≤ _);rw [List.length_append,List.length_singleton];have:=HL1.out;omega
    have HMA : Hid ((L1 ++ [(⟨tk,a8,rn,c8,rbs⟩ : Rc)]).map plR = evF f t ((L.take (i + 1)).map plR)):=by (show _ = _);rw [HEV.out,List.map_append];rfl
    clear s0 s8 s9 s10
    go_wp2
    go_roundw
    case rel => exact ⟨i + 1,_,v10,by omega,by go_num,rfl,HLA,HMA,HR10,HO10,HB10⟩
    case measure => (simp [intOf];omega)
   ·have HEV : Hid (evF f t ((L.take (i + 1)).map plR) = L1.map plR):=by
     (show _ = _)
     rw [HTK2.out,evF,List.filter_append,HE1.out,evF]
     have : (decide (f ≤ (tk : Int)) && decide ((tk : Int) ≤ t)) = false:=by
      rw [Bool.and_eq_false_iff,decide_eq_false_iff_not,decide_eq_false_iff_not]
      omega
     rw [List.filter_cons,if_neg (by simp only [this];decide)]
     simp
    by_cases h1 : f ≤ (tk : Int)
    ·have h2 : ¬ (tk : Int) ≤ t:=fun h => hin ⟨h1,h⟩
     clear hin
     go_wp2
     go_roundw
     case rel => exact ⟨i + 1,L1,v1,by omega,by go_num,rfl,Nat.le_succ_of_le HL1.out,HEV.out.symm,HR2,HO2,HB2⟩
     case measure => (simp [intOf];omega)
    ·clear hin
     go_wp2
     go_roundw
     case rel => exact ⟨i + 1,L1,v1,by omega,by go_num,rfl,Nat.le_succ_of_le HL1.out,HEV.out.symm,HR2,HO2,HB2⟩
     case measure => (simp [intOf];omega)
  ·obtain rfl : i = N:=by omega
   have hlt' : ¬ (i : Int) < (i : Int):=by omega
   have HF : Hid (L1.map plR = evF f t (L.map plR)):=by
    (show _ = _)
    rw [HE1.out,HN.out,List.take_length]
   clear c8
   go_wp2
   go_returns
   exact ⟨⟨v1,rfl,L1,HF.out,HR1.out,HO1.out⟩,HB1.out⟩
theorem evl_Events (w : World) (base gl g gc b m ag hi rel : Nat) (uv rv : Value) (L : List Rc) (f t : Int) (h : Lc w gl g gc b m ag uv hi rel rv) (hrc : Rcs w base rv L) (hl : L.length ≤ 100000) :
  Calls Tryz.prog 15 #[.pointer (some ⟨gl,0,none⟩),.int .i64 f,.int .i64 t] w fun e w' => Hid (∃ v L',e = .returned v ∧ L'.map plR = evF f t (L.map plR) ∧ Rcs w' w.heap.size v L') ∧ Below w.heap.size w w' :=
 (evl_EventsO w base gl g gc b m ag hi rel uv rv L f t h hrc hl).mono fun _ _ h => by
  obtain ⟨v,L',h1,h2,h3,_⟩:=h.1.out
  exact ⟨⟨v,L',h1,h2,h3⟩,h.2⟩
end Go.Proofs.YtghajmcohdedlaaGreat

namespace Go.Proofs.YtghajmcohdedlaaGreat
open Go.RowKit
set_option maxRecDepth 100000
def chunkL (KB : List Nat) (k : Nat) : List Nat:=(KB.drop (59 * k)).take 59
def partE (KB : List Nat) (k : Nat) : List Nat:=layE (if k = 0 then 2 else 3) (decide (KB.length ≤ 59 * k + 59)) (chunkL KB k)
def writesF (KB : List Nat) : Nat → Nat → Nat → Dk → Int × Dk
 | 0,_,_,D => (0,D)
 | c + 1,k,P,D => if writeE D (P : Int) (partE KB k) ≠ 0 then (writeE D (P : Int) (partE KB k),writeD D (P : Int) (partE KB k)) else writesF KB c (k + 1) (P + 1) (writeD D (P : Int) (partE KB k))
def keyB (t : Nat) (bs : List Nat) : List Nat:=KeyM.key (KeyM.up (t : Int)) ++ bs
def appendG (U : List Sg) (hi t K : Nat) (S : Int × Dk × Sg) (W : Int × Dk) : Int × Dk × List Sg × Nat × Bool :=
 if S.1 ≠ 0 then (S.1,S.2.1,U,hi,false)
 else if W.1 ≠ 0 then (W.1,W.2,U,hi,false)
 else (0,W.2,keepF U ⟨S.2.2.at_,S.2.2.num,t,S.2.2.en + K⟩,t,true)
def appendF (b m ag : Nat) (D : Dk) (U : List Sg) (hi : Nat) (t : Int) (bs : List Nat) : Int × Dk × List Sg × Nat × Bool :=
 if shutE D ag ≠ 0 then (shutE D ag,D,U,hi,false)
 else if 400 < bs.length then (6,D,U,hi,false)
 else if t ≤ (hi : Int) ∨ 1099511627776 < t then (14,D,U,hi,false)
 else appendG U hi t.toNat (((keyB t.toNat bs).length + 58) / 59) (segForF b m D U hi (((keyB t.toNat bs).length + 58) / 59)) (writesF (keyB t.toNat bs) (((keyB t.toNat bs).length + 58) / 59) 0 ((segForF b m D U hi (((keyB t.toNat bs).length + 58) / 59)).2.2.at_ + (segForF b m D U hi (((keyB t.toNat bs).length + 58) / 59)).2.2.en) (segForF b m D U hi (((keyB t.toNat bs).length + 58) / 59)).2.1)
def AppendTold (w : World) (base bd g gs : Nat) (gl gc b m ag : Nat) (uv : Value) (rel : Nat) (L : List Rc) (rv : Value) (t : Int) (bs : List Nat) (R : Int × Dk × List Sg × Nat × Bool) (e : Ending) (w' : World) : Prop :=
 e = .returned (.int .i64 R.1) ∧ Hid (∃ wv' uv' rv' L',LgG w' base bd g gs wv' R.2.1 gl gc b m ag R.2.2.1 uv' R.2.2.2.1 rel L' rv' ∧ L'.map plR = (if R.2.2.2.2 = true then L.map plR ++ [(t.toNat,bs)] else L.map plR) ∧ Oon w uv uv' ∧ Oon w rv rv' ∧ ∀ x ∈ L',x ∈ L ∨ Bd w' w.heap.size x.a x.n x.bs) ∧ Hid (Mvx (fun k => k = gl ∨ some k = uv.ownBlock ∨ some k = rv.ownBlock) w w' bd g gs)
theorem chunk_byte {KB : List Nat} (h : ∀ x ∈ KB,x < 256) (k : Nat) : ∀ x ∈ chunkL KB k,x < 256:=fun x hx => h x (List.mem_of_mem_drop (List.mem_of_mem_take hx))
theorem chunk_len (KB : List Nat) (k : Nat) : (chunkL KB k).length = min KB.length (59 * k + 59) - 59 * k:=by unfold chunkL;rw [List.length_take,List.length_drop];omega
theorem chunk_eq (KB : List Nat) (k : Nat) : (KB.drop (59 * k)).take (min KB.length (59 * k + 59) - 59 * k) = chunkL KB k:=by
 unfold chunkL
 by_cases h : KB.length ≤ 59 * k + 59
 ·rw [List.take_of_length_le (by rw [List.length_drop];omega),List.take_of_length_le (by rw [List.length_drop];omega)]
 ·rw [show min KB.length (59 * k + 59) - 59 * k = 59 from by omega]
theorem partE_sec {KB : List Nat} (h : ∀ x ∈ KB,x < 256) (k : Nat) : Sec (partE KB k):=layE_sec (by split <;> omega) (by rw [chunk_len];omega) (chunk_byte h k)
theorem beginG_wl (P : Nat) (D : Dk) (num hi : Nat) : (beginG P D num hi).2.1.waits.length ≤ D.waits.length + 17:=by
 have h1:=wipe_wl 16 D P false
 have h2:=sync_wl (wipeL D 16 P false).1
 have h3:=write_wl (syncD (wipeL D 16 P false).1) (P : Int) (headL num hi)
 unfold beginG
 split
 ·show D.waits.length ≤ _;omega
 ·split
  ·show (wipeL D 16 P false).1.waits.length ≤ _;omega
  ·split
   ·show (syncD (wipeL D 16 P false).1).waits.length ≤ _;omega
   ·split
    ·show (writeD (syncD (wipeL D 16 P false).1) (P : Int) (headL num hi)).waits.length ≤ _;omega
    ·show (writeD (syncD (wipeL D 16 P false).1) (P : Int) (headL num hi)).waits.length ≤ _;omega
theorem segFor_wl (b m : Nat) (D : Dk) (U : List Sg) (hi n : Nat) : (segForF b m D U hi n).2.1.waits.length ≤ D.waits.length + 17:=by
 unfold segForF
 split
 ·show D.waits.length ≤ _;omega
 ·unfold beginF
  split
  ·show D.waits.length ≤ _;omega
  ·exact beginG_wl _ _ _ _
theorem beginG_at {P : Nat} {D : Dk} {num hi : Nat} : (beginG P D num hi).2.2.at_ ≤ P ∧ (beginG P D num hi).2.2.en ≤ 1:=by
 unfold beginG
 split
 ·exact ⟨Nat.zero_le _,Nat.zero_le _⟩
 ·split
  ·exact ⟨Nat.zero_le _,Nat.zero_le _⟩
  ·split
   ·exact ⟨Nat.zero_le _,Nat.zero_le _⟩
   ·split
    ·exact ⟨Nat.zero_le _,Nat.zero_le _⟩
    ·exact ⟨Nat.le_refl _,Nat.le_refl _⟩
theorem segFor_at {b m : Nat} {D : Dk} {U : List Sg} {hi n : Nat} (hb : b ≤ 1000) (hm : m ≤ 16) (hU : ∀ s ∈ U,s.en ≤ 16 ∧ s.at_ ≤ 100000) : (segForF b m D U hi n).2.2.at_ ≤ 100000 ∧ (segForF b m D U hi n).2.2.en ≤ 16:=by
 unfold segForF
 split
 ·rename_i h
  have hmem : lastG U ∈ U:=by
   have hpos : 0 < U.length:=List.length_pos_iff.2 h.1
   unfold lastG
   rw [List.getD_eq_getElem?_getD,List.getElem?_eq_getElem (by omega : U.length - 1 < U.length)]
   exact List.getElem_mem _
  exact ⟨(hU _ hmem).2,(hU _ hmem).1⟩
 ·unfold beginF
  split
  ·exact ⟨Nat.zero_le _,Nat.zero_le _⟩
  ·rename_i i hi'
   have h1:=unused_lt hi'
   have h2:=@beginG_at (b + 2 + i * 16) D (nextN U) hi
   omega
theorem Mvx.keep {S : Nat → Prop} {w w' : World} {base g gs k : Nat} {wv : Value} {D : Dk} {cs : Array Value} {t : TypeId} (h : Mvx S w w' base g gs) (hd : Disk w base g gs wv D) (hb : Blk w k cs t) (hs : ¬ S k) (h1 : t ≠ 79) (h2 : t ≠ 97) (h3 : t ≠ 99) : Blk w' k cs t:=h.block k cs t _ (hd.off hb h1 h2).1 (hd.off hb h1 h2).2 hs hb h3
theorem Bd.mvx {S : Nat → Prop} {w w' : World} {B base g gs n : Nat} {wv : Value} {D : Dk} {a : Option Addr} {bs : List Nat} (h : Bd w B a n bs) (hd : Disk w base g gs wv D) (hm : Mvx S w w' base g gs) (hs : ∀ k cs fr,w.heap[k]? = some (.cells cs 5 fr) → ¬ S k) : Bd w' B a n bs:=by
 rcases h.2 with h0 | ⟨g',off,cs,fr,rfl,hB,hb⟩
 ·exact ⟨⟨h.1.size,h.1.byte,.inl h0⟩,.inl h0⟩
 ·have hb' : w'.heap[g']? = some (.cells cs 5 fr):=hm.block g' cs _ _ (hd.off hb (by decide) (by decide)).1 (hd.off hb (by decide) (by decide)).2 (hs g' cs fr hb) hb (by decide)
  refine ⟨⟨h.1.size,h.1.byte,?_⟩,.inr ⟨g',off,cs,fr,rfl,hB,hb'⟩⟩
  rcases h.1.cells with h0 | ⟨g2,o,e,hg,hc⟩
  ·exact .inl h0
  ·cases e
   refine .inr ⟨g',off,rfl,heap_lt hb',fun i hi => ?_⟩
   have:=hc i hi
   rw [cell_of_row w g' (off + i) cs _ _ hb] at this
   rw [cell_of_row w' g' (off + i) cs _ _ hb']
   exact this
theorem ptsL_len (g0 n : Nat) : ∀ K,(ptsL g0 n K).length = 3 * K
 | 0 => rfl
 | K + 1 => by rw [ptsL_snoc,List.length_append,ptsL_len g0 n K];simp [ptc];omega
theorem ptsL_at (g0 n : Nat) : ∀ {K k : Nat},k < K → ∀ j v,(ptc g0 n k)[j]? = some v → (ptsL g0 n K)[k * 3 + j]? = some v
 | 0,_,h,_,_,_ => by omega
 | K + 1,k,h,j,v,hv => by
  have hj : j < 3:=by
   have:=(List.getElem?_eq_some_iff.1 hv).1
   simpa [ptc] using this
  rw [ptsL_snoc]
  by_cases h2 : k = K
  ·subst h2
   rw [List.getElem?_append_right (by rw [ptsL_len];omega),ptsL_len,show k * 3 + j - 3 * k = j from by omega]
   exact hv
  ·rw [List.getElem?_append_left (by rw [ptsL_len];omega)]
   exact ptsL_at g0 n (by omega) j v hv
theorem pts_row {w : World} {gp g0 n K k : Nat} {cur : Array Value} {e : TypeId} (h : Blk w gp cur e) (hx : cur.toList.take (K * 3) = ptsL g0 n K) (hk : k < K) : w.rangeAt gp (k * 3) (ptc g0 n k):=fun j v hj => by
 refine h.cell _ ?_
 have h1:=ptsL_at g0 n hk j v hj
 rw [← hx,List.getElem?_take] at h1
 split at h1
 ·simpa using h1
 ·cases h1
end Go.Proofs.YtghajmcohdedlaaGreat
