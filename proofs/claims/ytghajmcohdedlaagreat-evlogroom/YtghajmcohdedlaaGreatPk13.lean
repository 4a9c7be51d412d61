import Derived.Test.YtghajmcohdedlaaGreatPk12
namespace Go.Proofs.YtghajmcohdedlaaGreat
open Go.RowKit
def readAllF (D : Dk) : List Sg → Nat → List (Nat × List Nat) → List Sg × Nat × List (Nat × List Nat)
 | [],hi,acc => ([],hi,acc)
 | s :: U,hi,acc => (⟨s.at_,s.num,(readF D s.at_ 17 (max hi s.high) s.en acc).1,(readF D s.at_ 17 (max hi s.high) s.en acc).2.1⟩ :: (readAllF D U (readF D s.at_ 17 (max hi s.high) s.en acc).1 (readF D s.at_ 17 (max hi s.high) s.en acc).2.2).1,(readAllF D U (readF D s.at_ 17 (max hi s.high) s.en acc).1 (readF D s.at_ 17 (max hi s.high) s.en acc).2.2).2)
theorem readF_len (D : Dk) (at_ : Nat) : ∀ (f hi en : Nat) (acc : List (Nat × List Nat)),(readF D at_ f hi en acc).2.2.length ≤ acc.length + f
 | 0,_,_,_ => Nat.le_refl _
 | f + 1,hi,en,acc => by
  rw [readF]
  split
  ·simp only;omega
  ·rename_i v bs e _
   have:=readF_len D at_ f v e (acc ++ [(v,bs)])
   rw [List.length_append,List.length_singleton] at this
   omega
theorem sgflat_len : ∀ L : List Sg,(L.flatMap sgc).length = L.length * 4
 | [] => rfl
 | s :: L => by rw [List.flatMap_cons,List.length_append,sgflat_len L,List.length_cons];simp [sgc];omega
theorem Sgs.cut {w : World} {base : Nat} {v : Value} {done rest : List Sg} {s : Sg} (h : Sgs w base v (done ++ s :: rest)) : ∃ gu c spare,v = .slice (some ⟨gu,0,none⟩) (done ++ s :: rest).length c ∧ base ≤ gu ∧ Blk w gu (rowS (done.flatMap sgc) s (rest.flatMap sgc ++ spare)) 88 ∧ ∀ (w' : World) (s' : Sg),Blk w' gu (rowS (done.flatMap sgc) s' (rest.flatMap sgc ++ spare)) 88 → Sgs w' base v (done ++ s' :: rest):=by
 have hl : ∀ s' : Sg,(done ++ s' :: rest).length = done.length + rest.length + 1:=fun s' => by rw [List.length_append,List.length_cons];omega
 have hf : ∀ s' : Sg,(done ++ s' :: rest).flatMap sgc = done.flatMap sgc ++ (sgc s' ++ rest.flatMap sgc):=fun s' => by rw [List.flatMap_append,List.flatMap_cons]
 rcases h.2 with ⟨_,h0⟩ | ⟨gu,c,cur,hv,hb,hg,hlc,hcm,hcs,hx⟩
 ·rw [hl] at h0;omega
 ·have hcur : cur.toList = (done ++ s :: rest).flatMap sgc ++ cur.toList.drop ((done ++ s :: rest).length * 4):=by
   rw [← hx]
   exact (List.take_append_drop _ _).symm
  have hrow : ∀ s' : Sg,rowS (done.flatMap sgc) s' (rest.flatMap sgc ++ cur.toList.drop ((done ++ s :: rest).length * 4)) = ((done ++ s' :: rest).flatMap sgc ++ cur.toList.drop ((done ++ s :: rest).length * 4)).toArray:=fun s' => by
   unfold rowS
   rw [hf]
   simp only [List.append_assoc]
  refine ⟨gu,c,cur.toList.drop ((done ++ s :: rest).length * 4),hv,hb,?_,fun w' s' hb' => ?_⟩
  ·rw [hrow,← hcur]
   simpa [Blk] using hg
  ·rw [hrow] at hb'
   have hlen : ((done ++ s' :: rest).flatMap sgc ++ cur.toList.drop ((done ++ s :: rest).length * 4)).length = c * 4:=by
    rw [List.length_append,sgflat_len,List.length_drop,hl,hl]
    have h3 : cur.toList.length = c * 4:=by simpa using hcs
    rw [h3]
    rw [hl] at hlc
    omega
   refine ⟨by rw [sgflat_len],.inr ⟨gu,c,_,by rw [hv,hl,hl],hb,hb',by rw [hl] at hlc ⊢;exact hlc,hcm,by simpa using hlen,?_⟩⟩
   rw [List.toList_toArray,← sgflat_len]
   exact List.take_left
theorem headsF_ok (D : Dk) (b : Nat) : ∀ n,∀ s ∈ headsF D b n,s.at_ ≤ b + 2 + n * 16 ∧ s.en = 1 ∧ s.high ≤ 1099511627776
 | 0,s,hs => by cases hs
 | n + 1,s,hs => by
  rw [headsF,List.mem_append] at hs
  rcases hs with hs | hs
  ·have:=headsF_ok D b n s hs
   omega
  ·unfold headAt at hs
   split at hs
   ·rename_i hok
    have:=headE_ok _ hok
    rw [List.mem_singleton] at hs
    subst hs
    refine ⟨?_,rfl,?_⟩
    ·show b + 2 + n * 16 ≤ _
     omega
    ·show (headE (tellE D (b + 2 + n * 16))).2.1.toNat ≤ _
     omega
   ·cases hs
set_option maxRecDepth 100000 in
set_option maxHeartbeats 8000000 in
theorem evl_read (w : World) (base g gs : Nat) (wv : Value) (D : Dk) (gl gc b m ag : Nat) (U0 : List Sg) (uv : Value) (hi rel : Nat) (rv : Value) (r : Nat) (h : Lg w base g gs wv D gl gc b m ag U0 uv hi rel [] rv) (hb : b ≤ 1000) (hm : m ≤ 1000) (hhi : hi ≤ 1099511627776) (hr : (getB D b 1 0).1 = (r : Int)) (hone : (headsF D b m).length ≤ 1) (ht : ∀ p ∈ (readAllF D (headsF D b m) hi []).2.2,r < p.1) :
  Calls Tryz.prog 74 #[.pointer (some ⟨gl,0,none⟩)] w fun e w' => e = .returned (.tuple #[]) ∧ Hid (∃ uv' rv' L',L'.map plR = (readAllF D (headsF D b m) hi []).2.2 ∧ Lg w' base g gs wv D gl gc b m ag (readAllF D (headsF D b m) hi []).1 uv' (max (readAllF D (headsF D b m) hi []).2.1 r) r L' rv') ∧ Hid (Kt w w') ∧ Below base w w':=by
 have HG : Hid (Lg w base g gs wv D gl gc b m ag U0 uv hi rel [] rv):=h
 obtain ⟨U,HU⟩ : ∃ U,Hid (U = headsF D b m):=⟨_,rfl⟩
 have HUK : Hid (∀ s ∈ U,s.at_ ≤ 100000 ∧ s.en = 1 ∧ s.high ≤ 1099511627776):=fun s hs => by
  rw [HU.out] at hs
  have:=headsF_ok D b m s hs
  omega
 have HHD:=evl_heads w base g gs wv D gl gc b m ag hi rel uv rv h.disk h.log hb hm hone
 have HUL : Hid (U.length ≤ 1):=by (show _ ≤ _);rw [HU.out];exact hone
 rw [← HU.out] at HHD ht ⊢
 obtain ⟨⟨RU,RH,RA⟩,HR⟩ : ∃ R,Hid (R = readAllF D U hi []):=⟨_,rfl⟩
 rw [← HR.out] at ht ⊢
 simp only at ht ⊢
 have HT : Hid (∀ p ∈ RA,r < p.1):=ht
 clear h ht hone
 go_enter Tryz.func74,Tryz.ntmps74
 go_wp2_with fail
 refine HHD.mono ?_
 rintro e w1 ⟨ht1,hb1⟩
 obtain ⟨au,cu,rfl,hs1⟩:=ht1.out
 have HG1 : Hid (Lg w1 base g gs wv D gl gc b m ag U0 uv hi rel [] rv):=HG.out.below hb1
 obtain ⟨p1,p2,p3,p4,p5,p6⟩:=HG1.out.put 5 (.slice au U.length cu)
 have hs1' : Sgs w1 base (.slice au U.length cu) U:=by
  refine ⟨hs1.1,?_⟩
  rcases hs1.2 with q | ⟨gg,cp,cur,q1,q2,q3⟩
  ·exact .inl q
  ·exact .inr ⟨gg,cp,cur,q1,Nat.le_trans HG.out.sz q2,q3⟩
 obtain ⟨W2,HW2⟩ : ∃ W2,Hid (W2 = w1.setCell ⟨gl,5,none⟩ (.slice au U.length cu)):=⟨_,rfl⟩
 have HG2 : Hid (Lg W2 base g gs wv D gl gc b m ag U (.slice au U.length cu) hi rel [] rv):=by
  (show Lg _ _ _ _ _ _ _ _ _ _ _ _ _ _ _ _ _)
  rw [HW2.out]
  exact ⟨p1,Blk.set HG1.out.log 5 _,p2,row_set hs1' (own_ne hs1' HG1.out.log (by decide)),p4,HG1.out.bl⟩
 have HK2 : Hid (Kt w W2):=by (show Kt _ _);rw [HW2.out];exact (Kt.of_below hb1).trans p5
 have HB2 : Hid (Below base w W2):=by (show Below _ _ _);rw [HW2.out];exact (hb1.mono HG.out.sz).trans p6
 have c5 : w1.cell? ⟨gl,5,none⟩ = some uv:=Blk.cell HG1.out.log 5 rfl
 have f5 : w1.frozen? ⟨gl,5,none⟩ = false:=Blk.free HG1.out.log 5
 clear p1 p2 p3 p4 p5 p6 hs1 hs1' ht1 hb1 HHD
 go_upto_region 1 with fail
 rw [← HW2.out]
 have c5 : W2.cell? ⟨gl,5,none⟩ = some (.slice au U.length cu):=Blk.cell HG2.out.log 5 rfl
 go_wp2_with fail
 go_loopw [15] (fun t15 wr => ∃ (i : Nat) (done rest : List Sg) (hi1 : Nat) (L1 : List Rc) (rv1 : Value),i ≤ U.length ∧ t15 = .int .i64 (i : Int) ∧ i = done.length ∧ i + rest.length = U.length ∧ hi1 ≤ 1099511627776 ∧ Hid (U.drop i = rest) ∧ Hid (L1.length ≤ 17 * i) ∧ Hid (done ++ (readAllF D rest hi1 (L1.map plR)).1 = RU ∧ (readAllF D rest hi1 (L1.map plR)).2 = (RH,RA)) ∧ Hid (Lg wr base g gs wv D gl gc b m ag (done ++ rest) (.slice au U.length cu) hi1 rel L1 rv1) ∧ Hid (Kt w wr) ∧ Hid (Below base w wr)) (fun t15 _ => U.length - (intOf t15).toNat)
 case atStart => exact ⟨0,[],U,hi,[],rv,Nat.zero_le _,rfl,rfl,by simp,hhi,rfl,Nat.zero_le _,by rw [List.map_nil,← HR.out];exact ⟨rfl,rfl⟩,HG2,HK2,HB2⟩
 case round =>
  obtain ⟨i,done,rest,hi1,L1,rv1,hi2,rfl,hdone,hrest,hhi1,HDR,HL1,HRR,HGr,HKr,HBr⟩:=hrel
  by_cases hlt : i < U.length
  ·obtain ⟨s,rest,rfl⟩ : ∃ s r,rest = s :: r:=by
    cases rest with
    | nil => simp at hrest;omega
    | cons s r => exact ⟨s,r,rfl⟩
   have hsU : s ∈ U:=List.mem_of_mem_drop (i:=i) (by rw [HDR.out];exact List.mem_cons_self)
   obtain ⟨k1,k2,k3⟩:=HUK.out s hsU
   obtain ⟨gu,c,spare,hv,hbu,hblk,hshut⟩:=HGr.out.used.cut
   have ha : au = some ⟨gu,0,none⟩:=by simp only [Value.slice.injEq] at hv;exact hv.1
   subst ha
   have hul : U.length ≤ 1:=HUL.out
   have hlt' : (i : Int) < (U.length : Int):=by omega
   have hge : (0 : Int) ≤ (i : Int):=by omega
   have d5 : wr.cell? ⟨gl,5,none⟩ = some (.slice (some ⟨gu,0,none⟩) U.length cu):=Blk.cell HGr.out.log 5 rfl
   have HRS:=evl_readSegment wr base g gs wv D gl gc b m ag hi1 rel (.slice (some ⟨gu,0,none⟩) U.length cu) rv1 gu (i * 4) (done.flatMap sgc) (rest.flatMap sgc ++ spare) s L1 ⟨HGr.out.disk,HGr.out.log,hblk,HGr.out.recs,HGr.out.bl,hbu⟩ (by rw [sgflat_len,← hdone]) k1 (by omega) hhi1 k3 (by have:=HL1.out;have:=HUL.out;omega)
   have HSH : Hid (∀ (w' : World) (s' : Sg),Blk w' gu (rowS (done.flatMap sgc) s' (rest.flatMap sgc ++ spare)) 88 → Sgs w' base (.slice (some ⟨gu,0,none⟩) U.length cu) (done ++ s' :: rest)):=hshut
   have HDN : Hid (i = done.length):=hdone
   have HRT : Hid (i + (s :: rest).length = U.length):=hrest
   clear hv hbu hblk hshut hsU k1 k2 k3 c5 hdone hrest
   go_wp2_with fail
   refine HRS.mono ?_
   rintro e w2 ⟨rfl,hh,hk2,hb2⟩
   obtain ⟨rv2,L2,hi3,en3,heq,hhi3,hrd⟩:=hh.out
   have HEQ : Hid (readF D s.at_ 17 (max hi1 s.high) s.en (L1.map plR) = (hi3,en3,L2.map plR)):=heq
   have HL3 : Hid (L2.length ≤ 17 * (i + 1)):=by
    (show _ ≤ _)
    have:=readF_len D s.at_ 17 (max hi1 s.high) s.en (L1.map plR)
    rw [heq] at this
    simp only [List.length_map] at this
    have:=HL1.out
    omega
   have HG3 : Hid (Lg w2 base g gs wv D gl gc b m ag ((done ++ [⟨s.at_,s.num,hi3,en3⟩]) ++ rest) (.slice (some ⟨gu,0,none⟩) U.length cu) hi3 rel L2 rv2):=by
    (show Lg _ _ _ _ _ _ _ _ _ _ _ _ _ _ _ _ _)
    rw [List.append_assoc]
    exact ⟨hrd.disk,hrd.log,Kt.keep hk2.out HGr.out.cells (by decide) (by decide) (by decide),HSH.out w2 _ hrd.row,hrd.recs,hrd.bl⟩
   have HK3 : Hid (Kt w w2):=HKr.out.trans hk2.out
   have HB3 : Hid (Below base w w2):=HBr.out.trans hb2
   have HR3 : Hid ((done ++ [⟨s.at_,s.num,hi3,en3⟩]) ++ (readAllF D rest hi3 (L2.map plR)).1 = RU ∧ (readAllF D rest hi3 (L2.map plR)).2 = (RH,RA)):=by
    (show _ ∧ _)
    have h1:=HRR.out
    rw [readAllF,HEQ.out] at h1
    simp only at h1
    refine ⟨?_,h1.2⟩
    rw [← h1.1,List.append_assoc]
    rfl
   have HD3 : Hid (U.drop (i + 1) = rest):=by
    (show _ = _)
    rw [← List.drop_drop,HDR.out]
    rfl
   have hr3 : i + 1 + rest.length = U.length:=by have hrest:=HRT.out;rw [List.length_cons] at hrest;omega
   have hd3 : i + 1 = (done ++ [(⟨s.at_,s.num,hi3,en3⟩ : Sg)]).length:=by rw [List.length_append,List.length_singleton,← HDN.out]
   have HD3' : Hid (i + 1 = (done ++ [(⟨s.at_,s.num,hi3,en3⟩ : Sg)]).length ∧ i + 1 + rest.length = U.length):=⟨hd3,hr3⟩
   clear hh heq hrd hb2 hk2 HRS hd3 hr3
   go_wp2
   go_roundw
   case rel => exact ⟨i + 1,_,rest,hi3,L2,rv2,by omega,by go_num,HD3'.out.1,HD3'.out.2,hhi3,HD3,HL3,HR3,HG3,HK3,HB3⟩
   case measure => (simp [intOf];omega)
  ·obtain rfl : i = U.length:=by omega
   obtain rfl : rest = []:=List.length_eq_zero_iff.1 (by omega)
   have hlt' : ¬ (U.length : Int) < (U.length : Int):=by omega
   have HE : Hid (done = RU ∧ hi1 = RH ∧ L1.map plR = RA):=by
    (show _ ∧ _ ∧ _)
    have h1:=HRR.out
    rw [readAllF] at h1
    simp only [List.append_nil,Prod.mk.injEq] at h1
    exact h1
   have HGq : Hid (Lg wr base g gs wv D gl gc b m ag done (.slice au U.length cu) hi1 rel L1 rv1):=by
    have:=HGr.out
    rw [List.append_nil] at this
    exact this
   have d1 : wr.cell? ⟨gl,1,none⟩ = some (.pointer (some ⟨gc,0,none⟩)):=Blk.cell HGq.out.log 1 rfl
   have HGT:=cells_Get wr base g gs wv D gc b 1 0 HGq.out.disk HGq.out.cells hb (by omega)
   rw [hr] at HGT
   clear c5 hdone hrest
   go_wp2_with fail
   refine HGT.mono ?_
   rintro e w3 ⟨rfl,hb3⟩
   have HG3 : Hid (Lg w3 base g gs wv D gl gc b m ag done (.slice au U.length cu) hi1 rel L1 rv1):=HGq.out.below hb3
   have HK3 : Hid (Kt w w3):=HKr.out.trans (Kt.of_below hb3)
   have HB3 : Hid (Below base w w3):=HBr.out.trans (hb3.mono HGq.out.sz)
   have c6 : w3.cell? ⟨gl,6,none⟩ = some (.int .i64 (hi1 : Int)):=Blk.cell HG3.out.log 6 rfl
   have f6 : w3.frozen? ⟨gl,6,none⟩ = false:=Blk.free HG3.out.log 6
   clear HGT d1 hb3
   go_upto_region 8 with fail
   obtain ⟨H,HH⟩ : ∃ H,Hid (H = max hi1 r):=⟨_,rfl⟩
   rw [show (if hi1 < r then (r : Int) else (hi1 : Int)) = ((H : Nat) : Int) from by rw [HH.out];split <;> omega]
   obtain ⟨p1,p2,p3,p4,p5,p6⟩:=HG3.out.put 6 (.int .i64 (H : Int))
   obtain ⟨W4,HW4⟩ : ∃ W4,Hid (W4 = w3.setCell ⟨gl,6,none⟩ (.int .i64 (H : Int))):=⟨_,rfl⟩
   rw [← HW4.out] at p1 p2 p3 p4 p5 p6 ⊢
   have HG4 : Hid (Lg W4 base g gs wv D gl gc b m ag done (.slice au U.length cu) H rel L1 rv1):=⟨p1,by rw [HW4.out];exact Blk.set HG3.out.log 6 _,p2,p3,p4,HG3.out.bl⟩
   have HK4 : Hid (Kt w W4):=HK3.out.trans p5
   have HB4 : Hid (Below base w W4):=HB3.out.trans p6
   clear p1 p2 p3 p4 p5 p6 c6 f6
   have HRL:=evl_release W4 base g gs wv D gl gc b m ag done (.slice au U.length cu) H rel L1 rv1 r HG4.out (by have:=HL1.out;have:=HUL.out;omega) (fun q hq => HT.out (plR q) (by rw [← HE.out.2.2];exact List.mem_map_of_mem hq))
   go_wp2_with fail
   refine HRL.mono ?_
   rintro e w5 ⟨rfl,hg5,hk5,hb5⟩
   have HG5 : Hid (Lg w5 base g gs wv D gl gc b m ag RU (.slice au U.length cu) (max RH r) r L1 rv1):=by
    have:=hg5.out
    rw [HH.out,HE.out.1,HE.out.2.1] at this
    exact this
   have HK5 : Hid (Kt w w5):=HK4.out.trans hk5.out
   have HB5 : Hid (Below base w w5):=HB4.out.trans hb5
   clear hg5 hk5 hb5 HRL
   go_wp2
   go_returns
   exact ⟨rfl,⟨_,_,L1,HE.out.2.2,HG5.out⟩,HK5,HB5.out⟩
end Go.Proofs.YtghajmcohdedlaaGreat

namespace Go.Proofs.YtghajmcohdedlaaGreat
open Go.RowKit
set_option maxRecDepth 100000 in
set_option maxHeartbeats 4000000 in
theorem evl_free1 (w : World) (base g gs : Nat) (wv : Value) (D : Dk) (gl gc b m ag : Nat) (s : Sg) (uv : Value) (hi rel : Nat) (L : List Rc) (rv : Value) (t : Int) (h : Lg w base g gs wv D gl gc b m ag [s] uv hi rel L rv) :
  Calls Tryz.prog 45 #[.pointer (some ⟨gl,0,none⟩),.int .i64 t] w fun e w' => Hid (∃ a c,e = .returned (.tuple #[.slice a 1 c,.int .i64 0]) ∧ Sgs w' w.heap.size (.slice a 1 c) [s]) ∧ Below w.heap.size w w':=by
 obtain ⟨gu,c,spare,hv,hbu,hblk,hx⟩:=Sgs.cut (done:=[]) (rest:=[]) h.used
 have hv' : uv = .slice (some ⟨gu,0,none⟩) 1 c:=hv
 subst hv'
 obtain ⟨at_,num,sh,en⟩:=s
 have c5 : w.cell? ⟨gl,5,none⟩ = some (.slice (some ⟨gu,0,none⟩) 1 c):=Blk.cell h.log 5 rfl
 have HRG : Hid (w.rangeAt gu 0 (sgc ⟨at_,num,sh,en⟩)):=fun q v hq => hblk.cell _ (rowS_at [] _ _ q v hq)
 obtain ⟨W1,HW1⟩ : ∃ W1,Hid (W1 = w.alloc (.cells #[.int .i64 (at_ : Int),.int .i64 (num : Int),.int .i64 (sh : Int),.int .i64 (en : Int)] 88)):=⟨_,rfl⟩
 have HBW : Hid (Below w.heap.size w W1):=by (show Below _ _ _);rw [HW1.out];exact below_alloc _ _
 have HX1 : Hid (Blk W1 w.heap.size (sgc ⟨at_,num,sh,en⟩).toArray 88):=by (show Blk _ _ _ _);rw [HW1.out];exact Blk.new _ _ _
 have d5 : W1.cell? ⟨gl,5,none⟩ = some (.slice (some ⟨gu,0,none⟩) 1 c):=Blk.cell (h.log.stay HBW.out) 5 rfl
 have x0 : W1.cell? ⟨w.heap.size,0,none⟩ = some (.int .i64 (at_ : Int)):=HX1.out.cell 0 rfl
 have x1 : W1.cell? ⟨w.heap.size,1,none⟩ = some (.int .i64 (num : Int)):=HX1.out.cell 1 rfl
 have x2 : W1.cell? ⟨w.heap.size,2,none⟩ = some (.int .i64 (sh : Int)):=HX1.out.cell 2 rfl
 have x3 : W1.cell? ⟨w.heap.size,3,none⟩ = some (.int .i64 (en : Int)):=HX1.out.cell 3 rfl
 have HX2 : Hid (Blk (W1.alloc (.cells #[.int .i64 (at_ : Int),.int .i64 (num : Int),.int .i64 (sh : Int),.int .i64 (en : Int)] 88)) W1.heap.size (sgc ⟨at_,num,sh,en⟩).toArray 88):=Blk.new _ _ _
 have HB2 : Hid (Below w.heap.size w (W1.alloc (.cells #[.int .i64 (at_ : Int),.int .i64 (num : Int),.int .i64 (sh : Int),.int .i64 (en : Int)] 88))):=HBW.out.trans ((below_alloc _ _).mono HBW.out.size)
 clear h hv hbu hblk hx
 go_enter Tryz.func45,Tryz.ntmps45
 go_wp2_with fail
 refine wp_loop_rounds 2 ?_
 rw [rounds_succ]
 go_upto_region 5 with (guard_target =~ wpList _ _ _ (Oper.mk (some 19) _ _ _ _ _ :: _) _ _;refine wpList_load_mid rfl 88 (.tmp 18) rfl gu 0 rfl [.int .i64 (at_ : Int),.int .i64 (num : Int),.int .i64 (sh : Int),.int .i64 (en : Int)] _ HRG.out Tryz.underlying88 rfl (by rfl) ?_)
 rw [← HW1.out]
 go_wp2_with (guard_target =~ wpList _ _ _ (Oper.mk (some 37) _ _ _ _ _ :: _) _ _;refine wpList_append_sg rfl (.tmp 34) (.tmp 36) rfl w.heap.size _ [] rfl (Sgs.nil _ _) W1.heap.size 1 ⟨at_,num,sh,en⟩ rfl HX2.out (Nat.zero_le _) HB2.out.size ?_)
 intro v5 w5 hs5 _ hb5
 have HB5 : Hid (Below w.heap.size w w5):=HB2.out.trans hb5
 obtain ⟨a5,c5',hv5⟩:=hs5.val
 have hv5' : v5 = .slice a5 1 c5':=hv5
 subst hv5'
 have HS5 : Hid (Sgs w5 w.heap.size (.slice a5 1 c5') [⟨at_,num,sh,en⟩]):=hs5
 clear hs5 hb5 hv5
 go_wp2_with fail
 rw [rounds_succ]
 go_wp2
 go_returns
 exact ⟨⟨a5,c5',rfl,HS5.out⟩,HB5.out⟩
end Go.Proofs.YtghajmcohdedlaaGreat

namespace Go.Proofs.YtghajmcohdedlaaGreat
open Go.RowKit
theorem Disk.off {w : World} {base g gs k : Nat} {wv : Value} {D : Dk} {cs : Array Value} {t : TypeId} {fr : Nat × Nat} (h : Disk w base g gs wv D) (hk : w.heap[k]? = some (.cells cs t fr)) (h1 : t ≠ 79) (h2 : t ≠ 97) : k ≠ g ∧ k ≠ gs:=by
 constructor
 ·intro e
  subst e
  have:=h.blk
  unfold Blk at this
  rw [this] at hk
  cases hk
  exact h1 rfl
 ·intro e
  subst e
  have:=h.srow
  unfold Blk at this
  rw [this] at hk
  cases hk
  exact h2 rfl
theorem Mv.row {w w' : World} {base0 base g gs : Nat} {wv v : Value} {D : Dk} {e : TypeId} {size n : Nat} {xs : List Value} (hm : Mv w w' base g gs) (hd : Disk w base g gs wv D) (h : w.ownsRow base0 e size v n xs) (h1 : e ≠ 79) (h2 : e ≠ 97) (h3 : e ≠ 99) : w'.ownsRow base0 e size v n xs:=by
 refine ⟨h.1,?_⟩
 rcases h.2 with q | ⟨gg,cp,cur,q1,q2,q3,q4⟩
 ·exact .inl q
 ·exact .inr ⟨gg,cp,cur,q1,q2,hm.block gg cur e _ (hd.off q3 h1 h2).1 (hd.off q3 h1 h2).2 q3 h3,q4⟩
theorem Bd.mv {w w' : World} {B base g gs n : Nat} {wv : Value} {D : Dk} {a : Option Addr} {bs : List Nat} (h : Bd w B a n bs) (hd : Disk w base g gs wv D) (hm : Mv w w' base g gs) : Bd w' B a n bs:=by
 rcases h.2 with h0 | ⟨g',off,cs,fr,rfl,hB,hb⟩
 ·exact ⟨⟨h.1.size,h.1.byte,.inl h0⟩,.inl h0⟩
 ·have hb' : w'.heap[g']? = some (.cells cs 5 fr):=hm.block g' cs _ _ (hd.off hb (by decide) (by decide)).1 (hd.off hb (by decide) (by decide)).2 hb (by decide)
  refine ⟨⟨h.1.size,h.1.byte,?_⟩,.inr ⟨g',off,cs,fr,rfl,hB,hb'⟩⟩
  rcases h.1.cells with h0 | ⟨g2,o,e,hg,hc⟩
  ·exact .inl h0
  ·cases e
   refine .inr ⟨g',off,rfl,heap_lt hb',fun i hi => ?_⟩
   have:=hc i hi
   rw [cell_of_row w g' (off + i) cs _ _ hb] at this
   rw [cell_of_row w' g' (off + i) cs _ _ hb']
   exact this
theorem Lg.mv {w w' : World} {base g gs : Nat} {wv wv' : Value} {D D' : Dk} {gl gc b m ag : Nat} {U : List Sg} {uv : Value} {hi rel : Nat} {L : List Rc} {rv : Value} (h : Lg w base g gs wv D gl gc b m ag U uv hi rel L rv) (hm : Mv w w' base g gs) (hd : Disk w' base g gs wv' D') : Lg w' base g gs wv' D' gl gc b m ag U uv hi rel L rv :=
 ⟨hd,h.log.mv h.disk hm,hm.keep h.cells (h.disk.off h.cells (by decide) (by decide)).1 (h.disk.off h.cells (by decide) (by decide)).2 (by decide),hm.row h.disk h.used (by decide) (by decide) (by decide),⟨hm.row h.disk h.recs.row (by decide) (by decide) (by decide),fun r hr => (h.recs.bd r hr).mv h.disk hm⟩,h.bl⟩
set_option maxRecDepth 100000 in
set_option maxHeartbeats 4000000 in
theorem evl_tidy0 (w : World) (base g gs : Nat) (wv : Value) (D : Dk) (gl gc b m ag : Nat) (uv : Value) (hi rel : Nat) (L : List Rc) (rv : Value) (h : Lg w base g gs wv D gl gc b m ag [] uv hi rel L rv) :
  Calls Tryz.prog 75 #[.pointer (some ⟨gl,0,none⟩)] w fun e w' => e = .returned (.int .i64 0) ∧ w' = w:=by
 obtain ⟨au,cu,hv⟩:=h.used.val
 have hv' : uv = .slice au 0 cu:=hv
 subst hv'
 have c5 : w.cell? ⟨gl,5,none⟩ = some (.slice au 0 cu):=Blk.cell h.log 5 rfl
 clear h hv
 go_enter Tryz.func75,Tryz.ntmps75
 go_wp2
 go_returns
 exact ⟨rfl,rfl⟩
set_option maxRecDepth 100000 in
set_option maxHeartbeats 4000000 in
theorem evl_tidy1 (w : World) (base g gs : Nat) (wv : Value) (D : Dk) (gl gc b m ag : Nat) (s : Sg) (uv : Value) (hi rel : Nat) (L : List Rc) (rv : Value) (h : Lg w base g gs wv D gl gc b m ag [s] uv hi rel L rv) (hat : s.at_ ≤ 50000) (hen : s.en ≤ 16) (hw : D.waits.length ≤ 900000000) (hwp : wipeL D (16 - s.en) (s.at_ + s.en) false = (D,false,0)) :
  Calls Tryz.prog 75 #[.pointer (some ⟨gl,0,none⟩)] w fun e w' => e = .returned (.int .i64 0) ∧ Hid (∃ wv' uv',Lg w' base g gs wv' D gl gc b m ag [s] uv' hi rel L rv) ∧ Below base w w':=by
 have HG : Hid (Lg w base g gs wv D gl gc b m ag [s] uv hi rel L rv):=h
 obtain ⟨au,cu,hv⟩:=h.used.val
 have hv' : uv = .slice au 1 cu:=hv
 subst hv'
 obtain ⟨at_,num,sh,en⟩:=s
 simp only at hat hen hwp
 have HWP : Hid (wipeL D (16 - en) (at_ + en) false = (D,false,0)):=hwp
 have c5 : w.cell? ⟨gl,5,none⟩ = some (.slice au 1 cu):=Blk.cell h.log 5 rfl
 have c7 : w.cell? ⟨gl,7,none⟩ = some (.int .i64 (rel : Int)):=Blk.cell h.log 7 rfl
 have HFR:=evl_free1 w base g gs wv D gl gc b m ag ⟨at_,num,sh,en⟩ (.slice au 1 cu) hi rel L rv (rel : Int) h
 clear h hv hwp
 go_enter Tryz.func75,Tryz.ntmps75
 go_wp2_with fail
 refine HFR.mono ?_
 rintro e w1 ⟨ht1,hb1⟩
 obtain ⟨ak,ck,rfl,hs1⟩:=ht1.out
 have HG1 : Hid (Lg w1 base g gs wv D gl gc b m ag [⟨at_,num,sh,en⟩] (.slice au 1 cu) hi rel L rv):=HG.out.below hb1
 have HB1 : Hid (Below base w w1):=hb1.mono HG.out.sz
 have HS1 : Hid (Sgs w1 w.heap.size (.slice ak 1 ck) [⟨at_,num,sh,en⟩]):=hs1
 obtain ⟨gk,c,spare,hv,hbu,hblk,hx⟩:=Sgs.cut (done:=[]) (rest:=[]) hs1
 have hak : ak = some ⟨gk,0,none⟩:=by simp only [Value.slice.injEq] at hv;exact hv.1
 subst hak
 have HRG : Hid (w1.rangeAt gk 0 (sgc ⟨at_,num,sh,en⟩)):=fun q v hq => hblk.cell _ (rowS_at [] _ _ q v hq)
 obtain ⟨W2,HW2⟩ : ∃ W2,Hid (W2 = w1.alloc (.cells #[.int .i64 (at_ : Int),.int .i64 (num : Int),.int .i64 (sh : Int),.int .i64 (en : Int)] 88)):=⟨_,rfl⟩
 have HBW : Hid (Below w1.heap.size w1 W2):=by (show Below _ _ _);rw [HW2.out];exact below_alloc _ _
 have HX2 : Hid (Blk W2 w1.heap.size #[.int .i64 (at_ : Int),.int .i64 (num : Int),.int .i64 (sh : Int),.int .i64 (en : Int)] 88):=by (show Blk _ _ _ _);rw [HW2.out];exact Blk.new _ _ _
 have HG2 : Hid (Lg W2 base g gs wv D gl gc b m ag [⟨at_,num,sh,en⟩] (.slice au 1 cu) hi rel L rv):=HG1.out.below HBW.out
 have HB2 : Hid (Below base w W2):=HB1.out.trans (HBW.out.mono HG1.out.sz)
 have HS2 : Hid (Sgs W2 base (.slice (some ⟨gk,0,none⟩) 1 ck) [⟨at_,num,sh,en⟩]):=by
  have q:=HS1.out.below HBW.out
  refine ⟨q.1,?_⟩
  rcases q.2 with q0 | ⟨gg,cp,cur,q1,q2,q3⟩
  ·exact .inl q0
  ·exact .inr ⟨gg,cp,cur,q1,Nat.le_trans HG.out.sz q2,q3⟩
 have x0 : W2.cell? ⟨w1.heap.size,0,none⟩ = some (.int .i64 (at_ : Int)):=HX2.out.cell 0 rfl
 have x3 : W2.cell? ⟨w1.heap.size,3,none⟩ = some (.int .i64 (en : Int)):=HX2.out.cell 3 rfl
 have HWI:=evl_wipe W2 base g gs wv D gl gc b m ag hi rel (.slice au 1 cu) rv (at_ + en) (at_ + 16) HG2.out.disk HG2.out.log (by omega) (by omega) (by omega)
 rw [show at_ + 16 - (at_ + en) = 16 - en from by omega,HWP.out] at HWI
 simp only at HWI
 obtain ⟨P,hP⟩ : ∃ P,P = at_ + en:=⟨_,rfl⟩
 obtain ⟨Q,hQ⟩ : ∃ Q,Q = at_ + 16:=⟨_,rfl⟩
 rw [← hP,← hQ] at HWI
 have q1 : (at_ : Int) + (en : Int) = (P : Int):=by omega
 have q2 : IntKind.i64.wrap (P : Int) = (P : Int):=by rw [IntKind.wrap_i64];omega
 have q3 : (at_ : Int) + 16 = (Q : Int):=by omega
 have q4 : IntKind.i64.wrap (Q : Int) = (Q : Int):=by rw [IntKind.wrap_i64];omega
 clear hv hbu hblk hx hs1 ht1 hb1 HFR c5 c7 hP hQ
 go_upto_region 7 with (guard_target =~ wpList _ _ _ (Oper.mk (some 30) _ _ _ _ _ :: _) _ _;refine wpList_load_mid rfl 88 (.tmp 29) rfl gk 0 rfl [.int .i64 (at_ : Int),.int .i64 (num : Int),.int .i64 (sh : Int),.int .i64 (en : Int)] _ HRG.out Tryz.underlying88 rfl (by rfl) ?_)
 rw [← HW2.out]
 go_wp2_with fail
 refine HWI.mono ?_
 rintro e w3 ⟨rfl,hd3,hm3⟩
 obtain ⟨wv3,hd3⟩:=hd3.out
 have HG3 : Hid (Lg w3 base g gs wv3 D gl gc b m ag [⟨at_,num,sh,en⟩] (.slice au 1 cu) hi rel L rv):=HG2.out.mv hm3 hd3
 have HB3 : Hid (Below base w w3):=HB2.out.trans hm3.low
 have HS3 : Hid (Sgs w3 base (.slice (some ⟨gk,0,none⟩) 1 ck) [⟨at_,num,sh,en⟩]):=hm3.row HG2.out.disk HS2.out (by decide) (by decide) (by decide)
 obtain ⟨p1,p2,p3,p4,p5,p6⟩:=HG3.out.put 5 (.slice (some ⟨gk,0,none⟩) 1 ck)
 have HG4 : Hid (Lg (w3.setCell ⟨gl,5,none⟩ (.slice (some ⟨gk,0,none⟩) 1 ck)) base g gs wv3 D gl gc b m ag [⟨at_,num,sh,en⟩] (.slice (some ⟨gk,0,none⟩) 1 ck) hi rel L rv):=⟨p1,Blk.set HG3.out.log 5 _,p2,row_set HS3.out (own_ne HS3.out HG3.out.log (by decide)),p4,HG3.out.bl⟩
 have HB4 : Hid (Below base w (w3.setCell ⟨gl,5,none⟩ (.slice (some ⟨gk,0,none⟩) 1 ck))):=HB3.out.trans p6
 have d5 : w3.cell? ⟨gl,5,none⟩ = some (.slice au 1 cu):=Blk.cell HG3.out.log 5 rfl
 have f5 : w3.frozen? ⟨gl,5,none⟩ = false:=Blk.free HG3.out.log 5
 clear p1 p2 p3 p4 p5 p6 hd3 hm3 HWI x0 x3 q1 q2 q3 q4
 go_wp2
 go_returns
 exact ⟨rfl,⟨wv3,_,HG4.out⟩,HB4.out⟩
end Go.Proofs.YtghajmcohdedlaaGreat

namespace Go.Proofs.YtghajmcohdedlaaGreat
open Go.RowKit
def TidyOk (D : Dk) (U : List Sg) : Prop:=U = [] ∨ ∃ s,U = [s] ∧ s.at_ ≤ 50000 ∧ s.en ≤ 16 ∧ wipeL D (16 - s.en) (s.at_ + s.en) false = (D,false,0)
theorem evl_tidy (w : World) (base g gs : Nat) (wv : Value) (D : Dk) (gl gc b m ag : Nat) (U : List Sg) (uv : Value) (hi rel : Nat) (L : List Rc) (rv : Value) (h : Lg w base g gs wv D gl gc b m ag U uv hi rel L rv) (hw : D.waits.length ≤ 900000000) (ht : TidyOk D U) :
  Calls Tryz.prog 75 #[.pointer (some ⟨gl,0,none⟩)] w fun e w' => e = .returned (.int .i64 0) ∧ Hid (∃ wv' uv',Lg w' base g gs wv' D gl gc b m ag U uv' hi rel L rv) ∧ Below base w w':=by
 rcases ht with rfl | ⟨s,rfl,h1,h2,h3⟩
 ·refine (evl_tidy0 w base g gs wv D gl gc b m ag uv hi rel L rv h).mono ?_
  rintro e w' ⟨rfl,rfl⟩
  exact ⟨rfl,⟨wv,uv,h⟩,Below.refl _ _⟩
 ·exact evl_tidy1 w base g gs wv D gl gc b m ag s uv hi rel L rv h h1 h2 hw h3
set_option maxRecDepth 100000 in
set_option maxHeartbeats 8000000 in
theorem evl_Open (w : World) (base g gs : Nat) (wv : Value) (D : Dk) (b m r : Nat) (h : Disk w base g gs wv D) (hdn : D.down = false) (hm2 : 2 ≤ m) (hm : m ≤ 16) (hb : b + 2 + m * 16 ≤ D.sure.length) (hw : D.waits.length ≤ 900000000) (hr : (getB D b 1 0).1 = (r : Int)) (hone : (headsF D b m).length ≤ 1) (ht : ∀ p ∈ (readAllF D (headsF D b m) 0 []).2.2,r < p.1) (htd : TidyOk D (readAllF D (headsF D b m) 0 []).1) :
  Calls Tryz.prog 37 #[.pointer (some ⟨g,0,none⟩),.int .i64 (b : Int),.int .i64 (m : Int)] w fun e w' => Hid (∃ gl gc wv' uv' rv' L',e = .returned (.tuple #[.pointer (some ⟨gl,0,none⟩),.int .i64 0]) ∧ w.heap.size ≤ gl ∧ L'.map plR = (readAllF D (headsF D b m) 0 []).2.2 ∧ Lg w' base g gs wv' D gl gc b m D.age (readAllF D (headsF D b m) 0 []).1 uv' (max (readAllF D (headsF D b m) 0 []).2.1 r) r L' rv') ∧ Below base w w':=by
 have HD : Hid (Disk w base g gs wv D):=h
 have hsz:=h.sz
 have HBS : Hid (base ≤ w.heap.size):=Nat.le_trans h.bg (Nat.le_of_lt h.blk.lt)
 obtain ⟨⟨RU,RH,RA⟩,HR⟩ : ∃ R,Hid (R = readAllF D (headsF D b m) 0 []):=⟨_,rfl⟩
 rw [← HR.out] at ht htd ⊢
 simp only at ht htd ⊢
 have HDW : Hid (Calls Tryz.prog 16 #[.pointer (some ⟨g,0,none⟩)] w fun e w' => e = .returned (.bool false) ∧ w' = w):=by
  have:=disk_Down w base g gs wv D h
  rw [hdn] at this
  exact this
 obtain ⟨n,hn⟩ : ∃ n,n = D.sure.length:=⟨_,rfl⟩
 have HSI : Hid (Calls Tryz.prog 71 #[.pointer (some ⟨g,0,none⟩)] w fun e w' => e = .returned (.int .i64 (n : Int)) ∧ w' = w):=by
  have:=disk_Size w base g gs wv D h
  rw [← hn] at this
  exact this
 rw [← hn] at hb hsz
 obtain ⟨P,hP⟩ : ∃ P,P = n - 2:=⟨_,rfl⟩
 obtain ⟨Q,hQ⟩ : ∃ Q,Q = m * 16:=⟨_,rfl⟩
 obtain ⟨R,hR⟩ : ∃ R,R = P - Q:=⟨_,rfl⟩
 have a1 : ¬ (m : Int) < 2:=by omega
 have a2 : ¬ (16 : Int) < (m : Int):=by omega
 have a3 : ¬ (b : Int) < 0:=by omega
 have q1 : (n : Int) - 2 = (P : Int):=by omega
 have q2 : IntKind.i64.wrap (P : Int) = (P : Int):=by rw [IntKind.wrap_i64];omega
 have q3 : (m : Int) * 16 = (Q : Int):=by omega
 have q4 : IntKind.i64.wrap (Q : Int) = (Q : Int):=by rw [IntKind.wrap_i64];omega
 have q5 : (P : Int) - (Q : Int) = (R : Int):=by omega
 have q6 : IntKind.i64.wrap (R : Int) = (R : Int):=by rw [IntKind.wrap_i64];omega
 have a4 : ¬ (R : Int) < (b : Int):=by omega
 have HMO:=mark_Open w base g gs wv D (b : Int) 1 h
 have HN : Hid (n = D.sure.length ∧ b + 2 + m * 16 ≤ n):=⟨hn,hb⟩
 clear h hdn hn hP hQ hR hb hsz
 go_enter Tryz.func37,Tryz.ntmps37
 go_upto_region 7 with (first
  | (go_at_call 16;refine HDW.out.mono ?_;rintro e w2 ⟨rfl,hw2⟩;rw [hw2];clear hw2 w2)
  | (go_at_call 71;refine HSI.out.mono ?_;rintro e w2 ⟨rfl,hw2⟩;rw [hw2];clear hw2 w2))
 clear a1 a2 a3 a4 q1 q2 q3 q4 q5 q6 HDW HSI
 go_wp2_with fail
 refine HMO.mono ?_
 rintro e w1 ⟨ht1,hb1⟩
 rcases ht1.out with ⟨hno,_⟩ | ⟨_,rfl,hc1⟩
 ·exact absurd (show mayC D.sure.length (b : Int) 1 from ⟨by omega,by omega,by have:=HN.out;omega⟩) hno
 ·rw [Int.toNat_natCast] at hc1
  have HC1 : Hid (Cs w1 w.heap.size g b 1):=hc1
  have HD1 : Hid (Disk w1 base g gs wv D):=HD.out.stay hb1
  have HB1 : Hid (Below base w w1):=hb1.mono HBS.out
  have HSZ : Hid (w.heap.size ≤ w1.heap.size):=hb1.size
  have HAG:=disk_Age w1 base g gs wv D HD1.out
  obtain ⟨W2,HW2⟩ : ∃ W2,Hid (W2 = w1.alloc (.cells #[.pointer (some ⟨g,0,none⟩),.pointer (some ⟨w.heap.size,0,none⟩),.int .i64 (b : Int),.int .i64 (m : Int),.int .i64 (D.age : Int),.slice none 0 0,.int .i64 0,.int .i64 0,.slice none 0 0] 74)):=⟨_,rfl⟩
  have HBW : Hid (Below w1.heap.size w1 W2):=by (show Below _ _ _);rw [HW2.out];exact below_alloc _ _
  have HG2 : Hid (Lg W2 base g gs wv D w1.heap.size w.heap.size b m D.age [] (.slice none 0 0) 0 0 [] (.slice none 0 0)):=by
   (show Lg _ _ _ _ _ _ _ _ _ _ _ _ _ _ _ _ _)
   refine ⟨HD1.out.stay HBW.out,?_,HC1.out.stay HBW.out,Sgs.nil _ _,⟨World.ownsRow_nil _ _ _ _,fun r hr => by cases hr⟩,Nat.le_trans HBS.out HSZ.out⟩
   rw [HW2.out]
   exact Blk.new _ _ _
  have HB2 : Hid (Below base w W2):=HB1.out.trans (HBW.out.mono (Nat.le_trans HBS.out HSZ.out))
  have HRD:=evl_read W2 base g gs wv D w1.heap.size w.heap.size b m D.age [] (.slice none 0 0) 0 0 (.slice none 0 0) r HG2.out (by have:=HN.out;have:=HD.out.sz;omega) (by omega) (by omega) hr hone (by rw [← HR.out];exact ht)
  rw [← HR.out] at HRD
  simp only at HRD
  clear HMO ht1 hb1 hc1 ht
  go_upto_region 11 with (go_at_call 73;refine HAG.mono ?_;rintro e w2 ⟨rfl,hw2⟩;rw [hw2];clear hw2 w2)
  rw [← HW2.out]
  clear HAG
  go_wp2_with fail
  refine HRD.mono ?_
  rintro e w3 ⟨rfl,hh3,hk3,hb3⟩
  obtain ⟨uv3,rv3,L3,he3,hg3⟩:=hh3.out
  have HE3 : Hid (L3.map plR = RA):=he3
  have HB3 : Hid (Below base w w3):=HB2.out.trans hb3
  have HTD:=evl_tidy w3 base g gs wv D w1.heap.size w.heap.size b m D.age RU uv3 (max RH r) r L3 rv3 hg3 hw htd
  clear hh3 hk3 hb3 he3 hg3 HRD
  go_wp2_with fail
  refine HTD.mono ?_
  rintro e w4 ⟨rfl,hh4,hb4⟩
  obtain ⟨wv4,uv4,hg4⟩:=hh4.out
  have HG4 : Hid (Lg w4 base g gs wv4 D w1.heap.size w.heap.size b m D.age RU uv4 (max RH r) r L3 rv3):=hg4
  have HB4 : Hid (Below base w w4):=HB3.out.trans hb4
  clear hh4 hg4 hb4 HTD
  go_wp2
  go_returns
  exact ⟨⟨w1.heap.size,w.heap.size,wv4,uv4,rv3,L3,rfl,HSZ.out,HE3.out,HG4.out⟩,HB4.out⟩
end Go.Proofs.YtghajmcohdedlaaGreat
