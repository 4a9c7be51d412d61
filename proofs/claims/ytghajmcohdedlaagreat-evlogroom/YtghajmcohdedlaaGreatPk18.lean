import Derived.Test.YtghajmcohdedlaaGreatEvS2
import Derived.Test.YtghajmcohdedlaaGreatPk16
namespace Go.Proofs.YtghajmcohdedlaaGreat
open Go.RowKit
theorem sg_stableAll (w : World) (base kb n c : Nat) (l : List Sg) (hr : Sgs w base (.slice (some ⟨kb,0,none⟩) n c) l) (hn : n ≤ 19) : Calls Tryz.prog 115 #[.slice (some ⟨kb,0,none⟩) n c,.int .i64 (n : Int),.func (.func 104) #[] #[]] w fun e w' => e = .returned (.tuple #[]) ∧ Sgs w' base (.slice (some ⟨kb,0,none⟩) n c) (sortG l) ∧ Below base w w':=by
 have h1 : ¬ (20 : Int) ≤ (n : Int):=by omega
 have h2 : ¬ (20 : Int) < (n : Int):=by omega
 have hi:=sg_ins w base kb n c l hr (by omega)
 clear hn hr
 go_enter Tryz.func115,Tryz.ntmps115
 go_wp2_with fail
 refine wp_loop_rounds 1 ?_
 rw [rounds_succ]
 go_wp2_with fail
 refine hi.mono ?_
 rintro e w' ⟨rfl,hs,hb⟩
 have HS : Hid (Sgs w' base (.slice (some ⟨kb,0,none⟩) n c) (sortG l)):=hs
 have HB : Hid (Below base w w'):=hb
 clear hi hs hb
 go_wp2_with fail
 refine wp_loop_rounds 1 ?_
 rw [rounds_succ]
 go_wp2_with fail
 go_returns
 exact ⟨rfl,HS.out,HB.out⟩
theorem sg_sortSome (w : World) (base kb n c : Nat) (l : List Sg) (hr : Sgs w base (.slice (some ⟨kb,0,none⟩) n c) l) (hn : n ≤ 19) : Calls Tryz.prog 103 #[.slice (some ⟨kb,0,none⟩) n c,.func (.func 104) #[] #[]] w fun e w' => e = .returned (.tuple #[]) ∧ Sgs w' base (.slice (some ⟨kb,0,none⟩) n c) (sortG l) ∧ Below base w w':=by
 have hi:=sg_stableAll w base kb n c l hr hn
 clear hn hr
 go_enter Tryz.func103,Tryz.ntmps103
 go_wp2_with fail
 refine hi.mono ?_
 rintro e w' ⟨rfl,hs,hb⟩
 have HS : Hid (Sgs w' base (.slice (some ⟨kb,0,none⟩) n c) (sortG l)):=hs
 have HB : Hid (Below base w w'):=hb
 clear hi hs hb
 go_wp2_with fail
 go_returns
 exact ⟨rfl,HS.out,HB.out⟩
theorem sg_sortAll (w : World) (base : Nat) (a : Option Addr) (n c : Nat) (l : List Sg) (hr : Sgs w base (.slice a n c) l) (hn : n ≤ 19) (hb : base ≤ w.heap.size) : Calls Tryz.prog 103 #[.slice a n c,.func (.func 104) #[] #[]] w fun e w' => e = .returned (.tuple #[]) ∧ Sgs w' base (.slice a n c) (sortG l) ∧ Below base w w':=by
 by_cases h1 : n ≤ 1
 ·refine (sg_sort1 w a n c _ h1).mono ?_
  rintro e w' ⟨rfl,rfl⟩
  refine ⟨rfl,?_,Below.refl _ _⟩
  have hln : l.length = n:=by obtain ⟨a',c',e⟩:=hr.val;cases e;rfl
  have : sortG l = l:=by
   unfold sortG
   rw [show l.length - 1 = 0 from by omega]
   rfl
  rw [this]
  exact hr
 ·rcases hr.2 with ⟨h2,h3⟩ | ⟨g,c',cur,hv,_⟩
  ·simp only [Value.slice.injEq] at h2
   omega
  ·simp only [Value.slice.injEq] at hv
   obtain ⟨rfl,_⟩:=hv
   exact sg_sortSome w base g n c l hr hn
set_option maxRecDepth 100000 in
set_option maxHeartbeats 8000000 in
theorem evl_heads2 (w : World) (base g gs : Nat) (wv : Value) (D : Dk) (gl gc b m ag hi rel : Nat) (uv rv : Value) (hd : Disk w base g gs wv D) (h : Lc w gl g gc b m ag uv hi rel rv) (hb : b ≤ 1000) (hm : m ≤ 1000) (hm16 : m ≤ 16) :
  Calls Tryz.prog 87 #[.pointer (some ⟨gl,0,none⟩)] w fun e w' => Hid (HeadsTold w' w.heap.size e (sortG (headsF D b m))) ∧ Below w.heap.size w w':=by
 have HD : Hid (Disk w base g gs wv D):=hd
 have HL : Hid (Lc w gl g gc b m ag uv hi rel rv):=h
 have c3 : w.cell? ⟨gl,3,none⟩ = some (.int .i64 (m : Int)):=Blk.cell h 3 rfl
 obtain ⟨R,HR⟩ : ∃ R,Hid (R = headsF D b m):=⟨_,rfl⟩
 rw [← HR.out]
 clear hd h
 go_enter Tryz.func87,Tryz.ntmps87
 go_wp2
 clear c3
 go_loopw [3,15] (fun t3 t15 wr => ∃ (i : Nat) (a3 : Option Addr) (n3 c3 : Nat) (L3 : List Sg),i ≤ m ∧ t3 = .slice a3 n3 c3 ∧ t15 = .int .i64 (i : Int) ∧ Hid (L3 = headsF D b i) ∧ Hid (Sgs wr w.heap.size (.slice a3 n3 c3) L3) ∧ Hid (Below w.heap.size w wr)) (fun _ t15 _ => m - (intOf t15).toNat)
 case atStart => exact ⟨0,none,0,0,[],Nat.zero_le _,rfl,rfl,rfl,Sgs.nil _ _,Below.refl _ _⟩
 case round =>
  obtain ⟨i,a3,n3,c3,L3,hi1,rfl,rfl,HL3,HS3,HB⟩:=hrel
  by_cases hlt : i < m
  ·have hlt' : (i : Int) < (m : Int):=by omega
   have HLr : Hid (Lc wr gl g gc b m ag uv hi rel rv):=HL.out.stay HB.out
   have HDr : Hid (Disk wr base g gs wv D):=HD.out.stay HB.out
   obtain ⟨P,HP⟩ : ∃ P,Hid (P = b + 2 + i * 16):=⟨_,rfl⟩
   have s0 : wr.cell? ⟨gl,0,none⟩ = some (.pointer (some ⟨g,0,none⟩)):=Blk.cell HLr.out 0 rfl
   obtain ⟨S,HS⟩ : ∃ S,Hid (S = tellE D P):=⟨_,rfl⟩
   obtain ⟨er,HER⟩ : ∃ er,Hid (er = readE D (P : Int)):=⟨_,rfl⟩
   go_wp2_with fail
   refine (evl_place wr gl g gc b m ag hi rel uv rv i HLr.out hb (by omega)).mono ?_
   rw [← HP.out]
   rintro e w2 ⟨rfl,hw2⟩
   rw [hw2]
   clear hw2 w2
   go_wp2_with fail
   refine (disk_Read wr base g gs wv D (P : Int) HDr.out).mono ?_
   rintro e w2 ⟨ht2,hb2⟩
   obtain ⟨a2,l2,c2,rfl,h1,h2,h3⟩:=ht2.out.uniE
   rw [← HER.out]
   have HR2 : Hid (Rd w2 a2 l2 S):=by
    (show Rd _ _ _ _)
    rw [HS.out]
    unfold tellE
    rw [Int.toNat_natCast] at h1
    exact h1
   have HB2 : Hid (Below wr.heap.size wr w2):=hb2
   clear ht2 h1 hb2 s0
   go_wp2_with fail
   refine (evl_takeHead a2 l2 c2 S w2 HR2.out h2 (by omega)).mono ?_
   obtain ⟨⟨v1,v2,ok⟩,HT⟩ : ∃ r,Hid (r = headE S):=⟨_,rfl⟩
   rw [← HT.out,toldH]
   rintro e w4 ⟨rfl,hb4⟩
   have HB4 : Hid (Below w.heap.size w w4):=(HB.out.trans (HB2.out.mono HB.out.size)).trans (hb4.mono (Nat.le_trans HB.out.size HB2.out.size))
   have HS4 : Hid (Sgs w4 w.heap.size (.slice a3 n3 c3) L3):=(HS3.out.below HB2.out).below hb4
   clear h2 h3 hb4
   have HAT : Hid (headAt D b i = if ok = true then [⟨P,v1.toNat,v2.toNat,1⟩] else []):=by
    (show _ = _)
    unfold headAt
    rw [← HP.out,← HS.out,← HT.out]
   cases ok with
   | false =>
    have HL4 : Hid (L3 = headsF D b (i + 1)):=by (show _ = _);rw [headsF,HAT.out,← HL3.out];simp
    go_wp2
    go_roundw
    case rel => exact ⟨i + 1,a3,n3,c3,L3,by omega,rfl,by go_num,HL4,HS4,HB4⟩
    case measure => (simp [intOf];omega)
   | true =>
    have hv:=headE_ok S (by rw [← HT.out])
    rw [← HT.out] at hv
    simp only at hv
    have HL4 : Hid (L3 ++ [⟨P,v1.toNat,v2.toNat,1⟩] = headsF D b (i + 1)):=by (show _ = _);rw [headsF,HAT.out,← HL3.out];simp
    have HLN : Hid (L3.length ≤ 1000):=by (show _ ≤ _);rw [HL3.out];have:=headsF_len D b i;omega
    have HEQ : Hid (#[Value.int .i64 (P : Int),.int .i64 v1,.int .i64 v2,.int .i64 1] = (sgc ⟨P,v1.toNat,v2.toNat,1⟩).toArray):=by
     (show _ = _)
     unfold sgc
     simp only
     rw [Int.toNat_of_nonneg (by omega),Int.toNat_of_nonneg (by omega)]
     rfl
    have HBK : Hid (Blk (w4.alloc (.cells #[Value.int .i64 (P : Int),.int .i64 v1,.int .i64 v2,.int .i64 1] 88)) w4.heap.size (sgc ⟨P,v1.toNat,v2.toNat,1⟩).toArray 88):=by
     (show Blk _ _ _ _)
     rw [← HEQ.out]
     exact Blk.new _ _ _
    have HBL : Hid (Below w4.heap.size w4 (w4.alloc (.cells #[Value.int .i64 (P : Int),.int .i64 v1,.int .i64 v2,.int .i64 1] 88))):=below_alloc _ _
    clear hv
    go_wp2_with (guard_target =~ wpList _ _ _ (Oper.mk (some 43) _ _ _ _ _ :: _) _ _;refine wpList_append_sg rfl (.tmp 37) (.tmp 42) rfl w.heap.size _ L3 rfl (HS4.out.below HBL.out) w4.heap.size 1 ⟨P,v1.toNat,v2.toNat,1⟩ rfl HBK.out (by have:=HLN.out;omega) (Nat.le_trans HB4.out.size HBL.out.size) ?_)
    intro v5 w5 hs5 _ hb5
    have HB5 : Hid (Below w.heap.size w w5):=HB4.out.trans ((HBL.out.mono HB4.out.size).trans hb5)
    have HS5 : Hid (Sgs w5 w.heap.size v5 (L3 ++ [⟨P,v1.toNat,v2.toNat,1⟩])):=hs5
    obtain ⟨a5,c5,rfl⟩:=HS5.out.val
    clear hs5 hb5
    go_wp2
    go_roundw
    case rel => exact ⟨i + 1,a5,_,c5,_,by omega,rfl,by go_num,HL4,HS5,HB5⟩
    case measure => (simp [intOf];omega)
  ·obtain rfl : i = m:=by omega
   have hlt' : ¬ (i : Int) < (i : Int):=by omega
   have HE : Hid (L3 = R):=by (show _ = _);rw [HL3.out,HR.out]
   have HN : Hid (n3 = R.length):=by
    (show _ = _)
    obtain ⟨a,c,e⟩:=HS3.out.val
    cases e
    rw [HE.out]
   go_wp2_with fail
   refine (sg_sortAll wr w.heap.size a3 n3 c3 L3 HS3.out (by have h1:=HN.out;have h2:=HR.out;have h3:=headsF_len D b i;rw [← h2] at h3;omega) HB.out.size).mono ?_
   rintro e w2 ⟨rfl,hs2,hb2⟩
   have HS2 : Hid (Sgs w2 w.heap.size (.slice a3 n3 c3) (sortG L3)):=hs2
   have HB2 : Hid (Below w.heap.size w w2):=HB.out.trans hb2
   clear hs2 hb2
   go_wp2
   go_returns
   refine ⟨⟨a3,c3,by rw [sortG_len,HN.out];rfl,?_⟩,HB2.out⟩
   rw [sortG_len,← HN.out,← HE.out]
   exact HS2.out
end Go.Proofs.YtghajmcohdedlaaGreat

namespace Go.Proofs.YtghajmcohdedlaaGreat
open Go.RowKit
def keepP (t : Nat) (l : List (Nat × List Nat)) : List (Nat × List Nat):=l.filter fun p => decide (t < p.1)
theorem keepR_map (t : Nat) : ∀ L : List Rc,(keepR t L).map plR = keepP t (L.map plR)
 | [] => rfl
 | r :: L => by
  have ih:=keepR_map t L
  unfold keepR keepP at ih ⊢
  rw [List.map_cons,List.filter_cons,List.filter_cons]
  by_cases h : t < r.tick
  ·rw [if_pos (decide_eq_true h),if_pos (show decide (t < (plR r).1) = true from decide_eq_true h),List.map_cons,ih]
  ·have e1 : decide (t < r.tick) = false:=decide_eq_false h
   have e2 : decide (t < (plR r).1) = false:=e1
   rw [e1,e2]
   simpa using ih
set_option maxRecDepth 100000 in
set_option maxHeartbeats 8000000 in
theorem evl_readG (w : World) (base bd g gs : Nat) (wv : Value) (D : Dk) (gl gc b m ag : Nat) (U0 : List Sg) (uv : Value) (hi rel : Nat) (rv : Value) (r : Nat) (h : LgG w base bd g gs wv D gl gc b m ag U0 uv hi rel [] rv) (hb : b ≤ 1000) (hm16 : m ≤ 16) (hhi : hi ≤ 1099511627776) (hr : (getB D b 1 0).1 = (r : Int)) :
  Calls Tryz.prog 74 #[.pointer (some ⟨gl,0,none⟩)] w fun e w' => e = .returned (.tuple #[]) ∧ Hid (∃ uv' rv' L',L'.map plR = keepP r (readAllF D (sortG (headsF D b m)) hi []).2.2 ∧ LgG w' base bd g gs wv D gl gc b m ag (readAllF D (sortG (headsF D b m)) hi []).1 uv' (max (readAllF D (sortG (headsF D b m)) hi []).2.1 r) r L' rv') ∧ Below base w w':=by
 have HG : Hid (LgG w base bd g gs wv D gl gc b m ag U0 uv hi rel [] rv):=h
 obtain ⟨U,HU⟩ : ∃ U,Hid (U = sortG (headsF D b m)):=⟨_,rfl⟩
 have HUK : Hid (∀ s ∈ U,s.at_ ≤ 100000 ∧ s.en = 1 ∧ s.high ≤ 1099511627776):=fun s hs => by
  rw [HU.out] at hs
  have:=headsF_ok D b m s (sortG_mem _ s hs)
  omega
 have HHD:=evl_heads2 w bd g gs wv D gl gc b m ag hi rel uv rv h.disk h.log hb (by omega) hm16
 have HUL : Hid (U.length ≤ 16):=by (show _ ≤ _);rw [HU.out,sortG_len];have:=headsF_len D b m;omega
 rw [← HU.out] at HHD ⊢
 obtain ⟨⟨RU,RH,RA⟩,HR⟩ : ∃ R,Hid (R = readAllF D U hi []):=⟨_,rfl⟩
 rw [← HR.out]
 simp only
 clear h
 go_enter Tryz.func74,Tryz.ntmps74
 go_wp2_with fail
 refine HHD.mono ?_
 rintro e w1 ⟨ht1,hb1⟩
 obtain ⟨au,cu,rfl,hs1⟩:=ht1.out
 have HG1 : Hid (LgG w1 base bd g gs wv D gl gc b m ag U0 uv hi rel [] rv):=HG.out.below hb1
 obtain ⟨p1,p2,p3,p4,p5,p6⟩:=HG1.out.put 5 (.slice au U.length cu)
 have hs1' : Sgs w1 base (.slice au U.length cu) U:=by
  refine ⟨hs1.1,?_⟩
  rcases hs1.2 with q | ⟨gg,cp,cur,q1,q2,q3⟩
  ·exact .inl q
  ·exact .inr ⟨gg,cp,cur,q1,Nat.le_trans HG.out.sz q2,q3⟩
 obtain ⟨W2,HW2⟩ : ∃ W2,Hid (W2 = w1.setCell ⟨gl,5,none⟩ (.slice au U.length cu)):=⟨_,rfl⟩
 have HG2 : Hid (LgG W2 base bd g gs wv D gl gc b m ag U (.slice au U.length cu) hi rel [] rv):=by
  (show LgG _ _ _ _ _ _ _ _ _ _ _ _ _ _ _ _ _ _)
  rw [HW2.out]
  exact ⟨p1,Blk.set HG1.out.log 5 _,p2,row_set hs1' (own_ne hs1' HG1.out.log (by decide)),p4,HG1.out.bl⟩
 have HK2 : Hid (Kt w W2):=by (show Kt _ _);rw [HW2.out];exact (Kt.of_below hb1).trans p5
 have HB2 : Hid (Below base w W2):=by (show Below _ _ _);rw [HW2.out];exact (hb1.mono HG.out.sz).trans p6
 have c5 : w1.cell? ⟨gl,5,none⟩ = some uv:=Blk.cell HG1.out.log 5 rfl
 have f5 : w1.frozen? ⟨gl,5,none⟩ = false:=Blk.free HG1.out.log 5
 clear p1 p2 p3 p4 p5 p6 hs1 hs1' ht1 hb1 HHD
 go_upto_region 1 with fail
 rw [← HW2.out]
 have c5 : W2.cell? ⟨gl,5,none⟩ = some (.slice au U.length cu):=Blk.cell HG2.out.log 5 rfl
 go_wp2_with fail
 go_loopw [15] (fun t15 wr => ∃ (i : Nat) (done rest : List Sg) (hi1 : Nat) (L1 : List Rc) (rv1 : Value),i ≤ U.length ∧ t15 = .int .i64 (i : Int) ∧ i = done.length ∧ i + rest.length = U.length ∧ hi1 ≤ 1099511627776 ∧ Hid (U.drop i = rest) ∧ Hid (L1.length ≤ 17 * i) ∧ Hid (done ++ (readAllF D rest hi1 (L1.map plR)).1 = RU ∧ (readAllF D rest hi1 (L1.map plR)).2 = (RH,RA)) ∧ Hid (LgG wr base bd g gs wv D gl gc b m ag (done ++ rest) (.slice au U.length cu) hi1 rel L1 rv1) ∧ Hid (Kt w wr) ∧ Hid (Below base w wr)) (fun t15 _ => U.length - (intOf t15).toNat)
 case atStart => exact ⟨0,[],U,hi,[],rv,Nat.zero_le _,rfl,rfl,by simp,hhi,rfl,Nat.zero_le _,by rw [List.map_nil,← HR.out];exact ⟨rfl,rfl⟩,HG2,HK2,HB2⟩
 case round =>
  obtain ⟨i,done,rest,hi1,L1,rv1,hi2,rfl,hdone,hrest,hhi1,HDR,HL1,HRR,HGr,HKr,HBr⟩:=hrel
  by_cases hlt : i < U.length
  ·obtain ⟨s,rest,rfl⟩ : ∃ s r,rest = s :: r:=by
    cases rest with
    | nil => simp at hrest;omega
    | cons s r => exact ⟨s,r,rfl⟩
   have hsU : s ∈ U:=List.mem_of_mem_drop (i:=i) (by rw [HDR.out];exact List.mem_cons_self)
   obtain ⟨k1,k2,k3⟩:=HUK.out s hsU
   obtain ⟨gu,c,spare,hv,hbu,hblk,hshut⟩:=HGr.out.used.cut
   have ha : au = some ⟨gu,0,none⟩:=by simp only [Value.slice.injEq] at hv;exact hv.1
   subst ha
   have hul : U.length ≤ 16:=HUL.out
   have hlt' : (i : Int) < (U.length : Int):=by omega
   have hge : (0 : Int) ≤ (i : Int):=by omega
   have d5 : wr.cell? ⟨gl,5,none⟩ = some (.slice (some ⟨gu,0,none⟩) U.length cu):=Blk.cell HGr.out.log 5 rfl
   have HRS:=evl_readSegmentG wr base bd g gs wv D gl gc b m ag hi1 rel (.slice (some ⟨gu,0,none⟩) U.length cu) rv1 gu (i * 4) (done.flatMap sgc) (rest.flatMap sgc ++ spare) s L1 ⟨HGr.out.disk,HGr.out.log,hblk,HGr.out.recs,HGr.out.bl,hbu⟩ (by rw [sgflat_len,← hdone]) k1 (by omega) hhi1 k3 (by have:=HL1.out;have:=HUL.out;omega)
   have HSH : Hid (∀ (w' : World) (s' : Sg),Blk w' gu (rowS (done.flatMap sgc) s' (rest.flatMap sgc ++ spare)) 88 → Sgs w' base (.slice (some ⟨gu,0,none⟩) U.length cu) (done ++ s' :: rest)):=hshut
   have HDN : Hid (i = done.length):=hdone
   have HRT : Hid (i + (s :: rest).length = U.length):=hrest
   clear hv hbu hblk hshut hsU k1 k2 k3 c5 hdone hrest
   go_wp2_with fail
   refine HRS.mono ?_
   rintro e w2 ⟨rfl,hh,hk2,hb2⟩
   obtain ⟨rv2,L2,hi3,en3,heq,hhi3,hrd⟩:=hh.out
   have HEQ : Hid (readF D s.at_ 17 (max hi1 s.high) s.en (L1.map plR) = (hi3,en3,L2.map plR)):=heq
   have HL3 : Hid (L2.length ≤ 17 * (i + 1)):=by
    (show _ ≤ _)
    have:=readF_len D s.at_ 17 (max hi1 s.high) s.en (L1.map plR)
    rw [heq] at this
    simp only [List.length_map] at this
    have:=HL1.out
    omega
   have HG3 : Hid (LgG w2 base bd g gs wv D gl gc b m ag ((done ++ [⟨s.at_,s.num,hi3,en3⟩]) ++ rest) (.slice (some ⟨gu,0,none⟩) U.length cu) hi3 rel L2 rv2):=by
    (show LgG _ _ _ _ _ _ _ _ _ _ _ _ _ _ _ _ _ _)
    rw [List.append_assoc]
    exact ⟨hrd.disk,hrd.log,Kt.keep hk2.out HGr.out.cells (by decide) (by decide) (by decide),HSH.out w2 _ hrd.row,hrd.recs,hrd.bl⟩
   have HK3 : Hid (Kt w w2):=HKr.out.trans hk2.out
   have HB3 : Hid (Below base w w2):=HBr.out.trans hb2
   have HR3 : Hid ((done ++ [⟨s.at_,s.num,hi3,en3⟩]) ++ (readAllF D rest hi3 (L2.map plR)).1 = RU ∧ (readAllF D rest hi3 (L2.map plR)).2 = (RH,RA)):=by
    (show _ ∧ _)
    have h1:=HRR.out
    rw [readAllF,HEQ.out] at h1
    simp only at h1
    refine ⟨?_,h1.2⟩
    rw [← h1.1,List.append_assoc]
    rfl
   have HD3 : Hid (U.drop (i + 1) = rest):=by
    (show _ = _)
    rw [← List.drop_drop,HDR.out]
    rfl
   have hr3 : i + 1 + rest.length = U.length:=by have hrest:=HRT.out;rw [List.length_cons] at hrest;omega
   have hd3 : i + 1 = (done ++ [(⟨s.at_,s.num,hi3,en3⟩ : Sg)]).length:=by rw [List.length_append,List.length_singleton,← HDN.out]
   have HD3' : Hid (i + 1 = (done ++ [(⟨s.at_,s.num,hi3,en3⟩ : Sg)]).length ∧ i + 1 + rest.length = U.length):=⟨hd3,hr3⟩
   clear hh heq hrd hb2 hk2 HRS hd3 hr3
   go_wp2
   go_roundw
   case rel => exact ⟨i + 1,_,rest,hi3,L2,rv2,by omega,by go_num,HD3'.out.1,HD3'.out.2,hhi3,HD3,HL3,HR3,HG3,HK3,HB3⟩
   case measure => (simp [intOf];omega)
  ·obtain rfl : i = U.length:=by omega
   obtain rfl : rest = []:=List.length_eq_zero_iff.1 (by omega)
   have hlt' : ¬ (U.length : Int) < (U.length : Int):=by omega
   have HE : Hid (done = RU ∧ hi1 = RH ∧ L1.map plR = RA):=by
    (show _ ∧ _ ∧ _)
    have h1:=HRR.out
    rw [readAllF] at h1
    simp only [List.append_nil,Prod.mk.injEq] at h1
    exact h1
   have HGq : Hid (LgG wr base bd g gs wv D gl gc b m ag done (.slice au U.length cu) hi1 rel L1 rv1):=by
    have:=HGr.out
    rw [List.append_nil] at this
    exact this
   have d1 : wr.cell? ⟨gl,1,none⟩ = some (.pointer (some ⟨gc,0,none⟩)):=Blk.cell HGq.out.log 1 rfl
   have HGT:=cells_Get wr bd g gs wv D gc b 1 0 HGq.out.disk HGq.out.cells hb (by omega)
   rw [hr] at HGT
   clear c5 hdone hrest
   go_wp2_with fail
   refine HGT.mono ?_
   rintro e w3 ⟨rfl,hb3⟩
   have HG3 : Hid (LgG w3 base bd g gs wv D gl gc b m ag done (.slice au U.length cu) hi1 rel L1 rv1):=HGq.out.below hb3
   have HK3 : Hid (Kt w w3):=HKr.out.trans (Kt.of_below hb3)
   have HB3 : Hid (Below base w w3):=HBr.out.trans (hb3.mono HGq.out.sz)
   have c6 : w3.cell? ⟨gl,6,none⟩ = some (.int .i64 (hi1 : Int)):=Blk.cell HG3.out.log 6 rfl
   have f6 : w3.frozen? ⟨gl,6,none⟩ = false:=Blk.free HG3.out.log 6
   clear HGT d1 hb3
   go_upto_region 8 with fail
   obtain ⟨H,HH⟩ : ∃ H,Hid (H = max hi1 r):=⟨_,rfl⟩
   rw [show (if hi1 < r then (r : Int) else (hi1 : Int)) = ((H : Nat) : Int) from by rw [HH.out];split <;> omega]
   obtain ⟨p1,p2,p3,p4,p5,p6⟩:=HG3.out.put 6 (.int .i64 (H : Int))
   obtain ⟨W4,HW4⟩ : ∃ W4,Hid (W4 = w3.setCell ⟨gl,6,none⟩ (.int .i64 (H : Int))):=⟨_,rfl⟩
   rw [← HW4.out] at p1 p2 p3 p4 p5 p6 ⊢
   have HG4 : Hid (LgG W4 base bd g gs wv D gl gc b m ag done (.slice au U.length cu) H rel L1 rv1):=⟨p1,by rw [HW4.out];exact Blk.set HG3.out.log 6 _,p2,p3,p4,HG3.out.bl⟩
   have HK4 : Hid (Kt w W4):=HK3.out.trans p5
   have HB4 : Hid (Below base w W4):=HB3.out.trans p6
   clear p1 p2 p3 p4 p5 p6 c6 f6
   have HRL:=evl_releaseG W4 base bd g gs wv D gl gc b m ag done (.slice au U.length cu) H rel L1 rv1 r HG4.out (by have:=HL1.out;have:=HUL.out;omega)
   go_wp2_with fail
   refine HRL.mono ?_
   rintro e w5 ⟨rfl,hg5,hf5⟩
   obtain ⟨rv5,hg6,_⟩:=hg5.out
   have HG5 : Hid (LgG w5 base bd g gs wv D gl gc b m ag RU (.slice au U.length cu) (max RH r) r (keepR r L1) rv5):=by
    rw [HH.out,HE.out.1,HE.out.2.1] at hg6
    exact hg6
   have HB5 : Hid (Below base w w5):=HB4.out.trans (hf5.out.below HG4.out.sz (fun k hk => by
    rcases hk with rfl | hk
    ·exact HG4.out.bl
    ·exact (HG4.out.recs.row.lt k hk.symm).1))
   clear hg5 hg6 hf5 HRL
   go_wp2
   go_returns
   exact ⟨rfl,⟨_,_,keepR r L1,by rw [keepR_map,HE.out.2.2],HG5.out⟩,HB5.out⟩
end Go.Proofs.YtghajmcohdedlaaGreat
