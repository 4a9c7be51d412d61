import Derived.Test.YtghajmcohdedlaaGreatPk33
import Derived.Test.YtghajmcohdedlaaGreatPk25
namespace Go.Proofs.YtghajmcohdedlaaGreat
open Go.RowKit
set_option maxRecDepth 100000
theorem ref_Bad11 (w : World) (base r q : Nat) (sv wv : Value) (SV WV : List Value) (D : Dk) (gl b m ag : Nat) (hi rel : Int) (uv rv : Value) (hd : Rk w base r q sv wv SV WV D) (h : Lr w gl r b m ag hi rel uv rv) :
  Calls Tryz.prog 58 #[.pointer (some ⟨gl,0,none⟩)] w fun e w' => e = .returned (.int .i64 (shutE D ag)) ∧ Below w.heap.size w w':=by
 obtain ⟨R,HR⟩ : ∃ R,Hid (shutE D ag = R):=⟨_,rfl⟩
 rw [HR.out]
 have c0 : w.cell? ⟨gl,0,none⟩ = some (.pointer (some ⟨r,0,none⟩)):=Blk.cell h 0 rfl
 have c3 : w.cell? ⟨gl,3,none⟩ = some (.int .i64 (ag : Int)):=Blk.cell h 3 rfl
 have d4 : w.cell? ⟨r,4,none⟩ = some (.int .i64 (D.age : Int)):=hd.blk.cell 4 rfl
 have d3 : w.cell? ⟨r,3,none⟩ = some (.bool D.down):=hd.blk.cell 3 rfl
 have HD : Hid (Rk w base r q sv wv SV WV D):=hd
 have HLG : Hid (Lr w gl r b m ag hi rel uv rv):=h
 obtain ⟨da,HDA⟩ : ∃ da,Hid (D.age = da):=⟨_,rfl⟩
 obtain ⟨dn,HDN⟩ : ∃ dn,Hid (D.down = dn):=⟨_,rfl⟩
 rw [HDA.out] at d4
 rw [HDN.out] at d3
 have HRR : Hid (R = if da = ag then (if dn = true then 10 else 0) else 13):=by (show _ = _);rw [← HR.out];unfold shutE;rw [HDA.out,HDN.out]
 clear hd h
 by_cases hag : da = ag
 ·subst hag
  have HR2 : Hid (R = if dn = true then 10 else 0):=by have h1:=HRR.out;rw [if_pos rfl] at h1;exact h1
  go_enter Tryz.func58,Tryz.ntmps58
  go_wp2_with fail
  go_region
  all_goals
   have HBD : Hid (Below w.heap.size w w.drew):=(Below.refl _ _).drew
   cases dn with
   | true =>
    have HX : (10 : Int) = R:=HR2.out.symm
    go_wp2
    go_returns
    exact ⟨by rw [← HX];rfl,HBD.out⟩
   | false =>
    have HX : (0 : Int) = R:=HR2.out.symm
    go_wp2
    go_returns
    exact ⟨by rw [← HX];rfl,HBD.out⟩
 ·have n1 : ((da : Int) != (ag : Int)) = true:=by rw [bne_iff_ne];omega
  have HX : (13 : Int) = R:=by have h1:=HRR.out;rw [if_neg hag] at h1;exact h1.symm
  go_enter Tryz.func58,Tryz.ntmps58
  go_wp2_with fail
  go_region
  all_goals
   have HBD : Hid (Below w.heap.size w w.drew):=(Below.refl _ _).drew
   go_wp2
   go_returns
   exact ⟨by rw [← HX];rfl,HBD.out⟩
end Go.Proofs.YtghajmcohdedlaaGreat

namespace Go.Proofs.YtghajmcohdedlaaGreat
open Go.RowKit
set_option maxRecDepth 100000
theorem Lr.mr {w w' : World} {gl r b m ag base : Nat} {hi rel : Int} {uv rv : Value} (h : Lr w gl r b m ag hi rel uv rv) (hm : Mr w w' base) : Lr w' gl r b m ag hi rel uv rv:=hm.block gl _ _ _ h (by decide) (by decide) (by decide)
def rsyncF (D : Dk) (ag : Nat) : Int × Dk:=if shutE D ag ≠ 0 then (shutE D ag,D) else (syncE D,syncD D)
set_option maxHeartbeats 4000000 in
theorem ref_Sync11 (w : World) (base r q : Nat) (sv wv : Value) (SV WV : List Value) (D : Dk) (gl b m ag : Nat) (hi rel : Int) (uv rv : Value) (hd : Rk w base r q sv wv SV WV D) (hq : q < w.heap.size) (h : Lr w gl r b m ag hi rel uv rv) (hbs : base ≤ w.heap.size) :
  Calls Tryz.prog 31 #[.pointer (some ⟨gl,0,none⟩)] w fun e w' => e = .returned (.int .i64 (rsyncF D ag).1) ∧ Hid (∃ wv' SV' WV',Rk w' base r q sv wv' SV' WV' (rsyncF D ag).2 ∧ Lr w' gl r b m ag hi rel uv rv) ∧ Hid (Mr w w' base):=by
 have HD : Hid (Rk w base r q sv wv SV WV D):=hd
 have HL : Hid (Lr w gl r b m ag hi rel uv rv):=h
 have HBS : Hid (base ≤ w.heap.size):=hbs
 have HQ : Hid (q < w.heap.size):=hq
 have HBA:=ref_Bad11 w base r q sv wv SV WV D gl b m ag hi rel uv rv hd h
 obtain ⟨se,HSE⟩ : ∃ se,Hid (shutE D ag = se):=⟨_,rfl⟩
 rw [HSE.out] at HBA
 obtain ⟨⟨R1,R2⟩,HR⟩ : ∃ R,Hid (rsyncF D ag = R):=⟨_,rfl⟩
 rw [HR.out]
 simp only
 clear hd h hq hbs
 go_enter Tryz.func31,Tryz.ntmps31
 go_wp2_with fail
 refine HBA.mono ?_
 rintro e w1 ⟨rfl,hb1⟩
 have HX1 : Hid (Below w.heap.size w w1):=hb1
 have HD1 : Hid (Rk w1 base r q sv wv SV WV D):=HD.out.stay hb1
 have HL1 : Hid (Lr w1 gl r b m ag hi rel uv rv):=HL.out.stay hb1
 have HM1 : Hid (Mr w w1 base):=Mr.of_below hb1 HBS.out
 clear hb1 HBA
 by_cases hse : se = 0
 ·subst hse
  have HRR : Hid (syncE D = R1 ∧ syncD D = R2):=by
   have h1:=HR.out
   unfold rsyncF at h1
   rw [HSE.out,if_neg (by simp)] at h1
   cases h1
   exact ⟨rfl,rfl⟩
  have c0 : w1.cell? ⟨gl,0,none⟩ = some (.pointer (some ⟨r,0,none⟩)):=Blk.cell HL1.out 0 rfl
  have HSN:=ref_Sync w1 base r q sv wv SV WV D HD1.out (Nat.lt_of_lt_of_le HQ.out HX1.out.size)
  rw [HRR.out.1,HRR.out.2] at HSN
  go_wp2_with fail
  refine HSN.mono ?_
  rintro e w2 ⟨rfl,hd2,hm2⟩
  have HD2 : Hid (∃ wv' SV' WV',Rk w2 base r q sv wv' SV' WV' R2 ∧ Lr w2 gl r b m ag hi rel uv rv):=hd2.out.elim fun a h1 => h1.elim fun b h2 => h2.elim fun c h3 => ⟨a,b,c,h3,HL1.out.mr hm2⟩
  have HM2 : Hid (Mr w w2 base):=HM1.out.trans hm2
  clear hd2 hm2 HSN c0
  go_wp2
  go_returns
  exact ⟨rfl,HD2,HM2⟩
 ·have e5 : (se != 0) = true:=by rw [bne_iff_ne];exact hse
  have HRR : Hid (se = R1 ∧ D = R2):=by
   have h1:=HR.out
   unfold rsyncF at h1
   rw [HSE.out,if_pos hse] at h1
   cases h1
   exact ⟨rfl,rfl⟩
  go_wp2
  go_returns
  exact ⟨by rw [← HRR.out.1];rfl,⟨wv,SV,WV,by rw [← HRR.out.2];exact HD1.out,HL1.out⟩,HM1⟩
theorem rsync_is (D : Dk) (ag : Nat) : rsyncF D ag = syncF D ag:=by
 unfold rsyncF syncF shutE staleE
 by_cases h : D.age = ag
 ·rw [if_pos h,if_pos h]
  by_cases hd : D.down = true
  ·rw [if_pos hd,if_pos (by simp),if_neg (by simp)]
   unfold syncE syncD
   rw [hd]
   rfl
  ·rw [if_neg hd]
 ·rw [if_neg h,if_neg h]
end Go.Proofs.YtghajmcohdedlaaGreat

namespace Go.Proofs.YtghajmcohdedlaaGreat
open Go.RowKit
set_option maxRecDepth 100000
theorem wipe_up {D D2 : Dk} {i : Int} {bs : List Nat} {at_ : Nat} (h : D.down = false ∧ at_ + 16 ≤ D.sure.length) (h2 : writeD D i bs = D2) (he : writeE D i bs = 0) : D2.down = false ∧ at_ + 16 ≤ D2.sure.length:=by
 rw [← h2]
 unfold writeE at he
 unfold writeD
 rw [h.1,if_neg (by simp)] at he
 rw [h.1,if_neg (by simp)]
 by_cases h3 : hasB D i = false
 ·rw [if_pos h3] at he;cases he
 rw [if_neg h3] at he ⊢
 by_cases h4 : 64 < bs.length
 ·rw [if_pos h4] at he;cases he
 rw [if_neg h4] at he ⊢
 by_cases h5 : tripsB D = true
 ·rw [if_pos h5] at he;cases he
 rw [if_neg h5]
 have h6 : ¬ D.trip = 1:=fun e => h5 (decide_eq_true e)
 have h7 : (tripsD D).down = false ∧ (tripsD D).sure = D.sure:=by
  unfold tripsD
  split
  ·exact ⟨h.1,rfl⟩
  ·exact ⟨decide_eq_false h6,rfl⟩
 exact ⟨h7.1,by show at_ + 16 ≤ (tripsD D).sure.length;rw [h7.2];exact h.2⟩
theorem nowS_sec11 {w : World} {base r q : Nat} {sv wv : Value} {SV WV : List Value} {D : Dk} (h : Rk w base r q sv wv SV WV D) {i : Nat} (hi : i < D.sure.length) : ∀ k,k ≤ D.waits.length → Sec (nowS D i k)
 | 0,_ => by
  rw [nowS,List.getD_eq_getElem?_getD,List.getElem?_eq_getElem hi]
  obtain ⟨v,_,hb⟩:=h.each i _ (List.getElem?_eq_getElem hi)
  exact hb.sec
 | k + 1,hk => by
  rw [nowS,List.getD_eq_getElem?_getD,List.getElem?_eq_getElem (by omega : k < D.waits.length)]
  obtain ⟨_,_,v,_,hb⟩:=h.puts k _ (List.getElem?_eq_getElem (by omega : k < D.waits.length))
  by_cases hp : ((some D.waits[k]).getD (0,[])).1 = i
  ·rw [if_pos hp]
   exact hb.sec
  ·rw [if_neg hp]
   exact nowS_sec11 h hi k (by omega)
set_option maxHeartbeats 64000000 in
theorem ref_wipe11 (w : World) (base r q : Nat) (sv wv : Value) (SV WV : List Value) (D : Dk) (gl b m ag : Nat) (hi rel : Int) (uv rv : Value) (pos fr : Nat) (hd : Rk w base r q sv wv SV WV D) (hq : q < w.heap.size) (h : Lr w gl r b m ag hi rel uv rv) (hbs : base ≤ w.heap.size) (hb : b ≤ 1000) (hp : pos ≤ 1000) (hf : fr ≤ 16) (hw : D.waits.length ≤ 900000000) (hup : D.down = false) (hsz : b + 2 + 16 * pos + 16 ≤ D.sure.length) :
  Calls Tryz.prog 85 #[.pointer (some ⟨gl,0,none⟩),.int .i64 (pos : Int),.int .i64 (fr : Int)] w fun e w' => Hid (∃ n : Nat,e = .returned (.tuple #[.int .i64 (n : Int),.int .i64 (wipeL D (16 - fr) (b + 2 + 16 * pos + fr) false).2.2]) ∧ n ≤ 16 ∧ ((wipeL D (16 - fr) (b + 2 + 16 * pos + fr) false).2.2 = 0 → ((wipeL D (16 - fr) (b + 2 + 16 * pos + fr) false).2.1 = true ↔ n ≠ 0))) ∧ Hid (∃ wv' WV',Rk w' base r q sv wv' SV WV' (wipeL D (16 - fr) (b + 2 + 16 * pos + fr) false).1 ∧ Lr w' gl r b m ag hi rel uv rv) ∧ Hid (Mr w w' base):=by
 obtain ⟨at_,HAT⟩ : ∃ at_,Hid (b + 2 + 16 * pos = at_):=⟨_,rfl⟩
 rw [HAT.out]
 obtain ⟨⟨RD,RB,RE⟩,HR⟩ : ∃ R,Hid (wipeL D (16 - fr) (at_ + fr) false = R):=⟨_,rfl⟩
 rw [HR.out]
 simp only
 have HD : Hid (∃ wv' WV',Rk w base r q sv wv' SV WV' D ∧ Lr w gl r b m ag hi rel uv rv):=⟨wv,WV,hd,h⟩
 have HBP : Hid (b ≤ 1000 ∧ pos ≤ 1000 ∧ base ≤ w.heap.size ∧ q < w.heap.size):=⟨hb,hp,hbs,hq⟩
 have HUP : Hid (D.down = false ∧ at_ + 16 ≤ D.sure.length):=⟨hup,by rw [← HAT.out];exact hsz⟩
 clear hd h hq hbs hb hp hup hsz
 go_enter Tryz.func85,Tryz.ntmps85
 go_wp2
 go_loopw [6,7,8,9,10] (fun _ _ t8 t9 _ wr => ∃ (k n : Nat) (bb : Bool) (D1 : Dk),fr ≤ k ∧ k ≤ 16 ∧ n + fr ≤ k ∧ t8 = .int .i64 (n : Int) ∧ t9 = .int .i64 (k : Int) ∧ Hid (wipeL D1 (16 - k) (at_ + k) bb = (RD,RB,RE)) ∧ Hid (D1.waits.length ≤ 900000000 + k) ∧ Hid (bb = true ↔ n ≠ 0) ∧ Hid (D1.down = false ∧ at_ + 16 ≤ D1.sure.length) ∧ Hid (∃ wv' WV',Rk wr base r q sv wv' SV WV' D1 ∧ Lr wr gl r b m ag hi rel uv rv) ∧ Hid (Mr w wr base)) (fun _ _ _ t9 _ _ => 16 - (intOf t9).toNat)
 case atStart => exact ⟨fr,0,false,D,Nat.le_refl _,hf,by omega,rfl,rfl,HR,by (show _ ≤ _);omega,⟨(fun h => absurd h (by simp)),fun h => absurd rfl h⟩,HUP,HD,Mr.refl _ _⟩
 case round =>
  obtain ⟨k,n,bb,D1,hk1,hk2,hnk,rfl,rfl,HE,HWL,HBN,HU1,HDr,HMr⟩:=hrel
  obtain ⟨w3,rfl⟩ : ∃ w3,w3 = wr:=⟨wr,rfl⟩
  obtain ⟨wv1,WV1,hd1,hl1⟩:=HDr.out
  have HD1 : Hid (Rk w3 base r q sv wv1 SV WV1 D1):=hd1
  have HL1 : Hid (Lr w3 gl r b m ag hi rel uv rv):=hl1
  clear hd1 hl1 HDr
  by_cases hlt : k < 16
  ·have hlt' : (k : Int) < 16:=by omega
   have HRE0 : Hid (readE D1 ((at_ + k : Nat) : Int) = 0):=by
    (show _ = _)
    have h1:=HU1.out.2
    have h2 : hasB D1 ((at_ + k : Nat) : Int) = true:=by unfold hasB;simp;omega
    unfold readE
    rw [HU1.out.1,h2]
    rfl
   have HE2 : Hid ((if nowB D1 (at_ + k) = List.replicate 64 0 then wipeL D1 (16 - (k + 1)) (at_ + (k + 1)) bb else if writeE D1 ((at_ + k : Nat) : Int) [] ≠ 0 then (writeD D1 ((at_ + k : Nat) : Int) [],false,writeE D1 ((at_ + k : Nat) : Int) []) else wipeL (writeD D1 ((at_ + k : Nat) : Int) []) (16 - (k + 1)) (at_ + (k + 1)) true) = (RD,RB,RE)):=by
    have h1:=HE.out
    rw [show 16 - k = (16 - (k + 1)) + 1 from by omega,wipeL] at h1
    rw [if_neg (show ¬ readE D1 ((at_ + k : Nat) : Int) ≠ 0 by rw [HRE0.out];simp)] at h1
    exact h1
   obtain ⟨s,HS⟩ : ∃ s,Hid (nowB D1 (at_ + k) = s):=⟨_,rfl⟩
   have HSEC : Hid (∀ W',Below w3.heap.size w3 W' → Calls Tryz.prog 99 #[.pointer (some ⟨gl,0,none⟩),.int .i64 (pos : Int),.int .i64 (k : Int)] W' fun e w'' => Hid (∃ a c,e = .returned (.slice a 64 c) ∧ Rd w'' a 64 s ∧ 64 ≤ c) ∧ Below W'.heap.size W' w''):=fun W' hbw => by
    have:=ref_sector11 W' base r q sv wv1 SV WV1 D1 gl b m ag hi rel uv rv pos k (HD1.out.stay hbw) (HL1.out.stay hbw) HBP.out.1 HBP.out.2.1 (by omega) (by rw [HAT.out];exact HRE0.out)
    rw [HAT.out,HS.out] at this
    exact this
   have HSB : Hid (∀ x ∈ s,x < 256):=fun x hx => by
    rw [← HS.out] at hx
    exact (nowS_sec11 HD1.out (by have:=HU1.out.2;omega) _ (Nat.le_refl _)).byte x hx
   obtain ⟨ZC,HZC⟩ : ∃ ZC,Hid ((vb (List.replicate 64 0)).toArray = ZC):=⟨_,rfl⟩
   obtain ⟨SS,HSS⟩ : ∃ SS,Hid (str s = SS):=⟨_,rfl⟩
   obtain ⟨SZ,HSZ⟩ : ∃ SZ,Hid (str (List.replicate 64 0) = SZ):=⟨_,rfl⟩
   have hmk : ∀ w' : World,(Instr.makeSlice 27 (.int .i64 64) (.int .i64 64)).run Tryz.prog w' = .ok (.slice (some ⟨w'.heap.size,0,none⟩) 64 64) (w'.alloc (.cells ZC 5)):=fun w' => by rw [← HZC.out];kernel_rfl
   have HZR : Hid (∀ W' : World,Rd (W'.alloc (.cells ZC 5)) (some ⟨W'.heap.size,0,none⟩) 64 (List.replicate 64 0)):=fun W' => (Own.new W' 0 ZC (List.replicate 64 0) (by intro x hx;rw [List.eq_of_mem_replicate hx];omega) (by rw [← HZC.out]) (Nat.zero_le _) (by simp [maxLen])).rd
   have hzc : ∀ W' : World,(convert 27 9 (.slice (some ⟨W'.heap.size,0,none⟩) 64 64)).run Tryz.prog (W'.alloc (.cells ZC 5)) = .ok (.string SZ) (W'.alloc (.cells ZC 5)):=fun W' => by rw [conv_rd (HZR.out W') 64,HSZ.out]
   have HZD : Hid (Rd (w3.alloc (.cells ZC 5)).drew (some ⟨w3.heap.size,0,none⟩) 64 (List.replicate 64 0)):=(HZR.out w3).below (Below.refl _ _).drew
   have x23 : (convert 27 9 (.slice (some ⟨w3.heap.size,0,none⟩) 64 64)).run Tryz.prog (w3.alloc (.cells ZC 5)).drew = .ok (.string SZ) (w3.alloc (.cells ZC 5)).drew:=by rw [conv_rd HZD.out 64,HSZ.out]
   have HBDR : Hid (Below w3.heap.size w3 w3.drew):=(Below.refl _ _).drew
   have HBDZ : Hid (Below w3.heap.size w3 (w3.alloc (.cells ZC 5)).drew):=(below_alloc _ _).drew
   by_cases hzero : s = List.replicate 64 0
   ·have HE3 : Hid (wipeL D1 (16 - (k + 1)) (at_ + (k + 1)) bb = (RD,RB,RE)):=by have h1:=HE2.out;rw [HS.out,if_pos hzero] at h1;exact h1
    obtain rfl : SS = SZ:=by rw [← HSS.out,← HSZ.out,hzero]
    clear hzero
    go_upto_region 5 with fail
    go_region_with (first | (go_at_call 99;refine (HSEC.out _ (by first | exact HBDR.out | exact HBDZ.out)).mono ?_;rintro e w4 ⟨ht4,hb4⟩;obtain ⟨a4,c4,rfl,hr4,hc4⟩:=ht4.out;have HX4 : Hid (Below w3.heap.size w3 w4):=(by first | exact HBDR.out.trans (hb4.mono HBDR.out.size) | exact HBDZ.out.trans (hb4.mono HBDZ.out.size));have x20 : (convert 27 9 (.slice a4 64 c4)).run Tryz.prog w4 = .ok (.string SS) w4:=(by rw [conv_rd hr4 c4,HSS.out]);have x21 : (convert 27 9 (.slice a4 64 c4)).run Tryz.prog (w4.alloc (.cells ZC 5)) = .ok (.string SS) (w4.alloc (.cells ZC 5)):=(by rw [conv_rd (hr4.below (below_alloc w4 _)) c4,HSS.out]);try (have x22 : (convert 27 9 (.slice (some ⟨w3.heap.size,0,none⟩) 64 64)).run Tryz.prog w4 = .ok (.string SS) w4:=(by rw [← HSZ.out];exact conv_rd (HZD.out.below hb4) 64));clear ht4 hb4 hr4 hc4))
    all_goals
     clear x20 x21 x23 hzc hmk
     try clear x22
     first
      | (obtain ⟨w5,hw5⟩ : ∃ w5,w5 = w4.alloc (.cells ZC 5):=⟨_,rfl⟩;rw [← hw5];have HX5 : Hid (Below w3.heap.size w3 w5):=(by (show Below _ _ _);rw [hw5];exact HX4.out.trans ((below_alloc w4 _).mono HX4.out.size)))
      | (obtain ⟨w5,hw5⟩ : ∃ w5,w5 = w4:=⟨_,rfl⟩;rw [← hw5];have HX5 : Hid (Below w3.heap.size w3 w5):=(by (show Below _ _ _);rw [hw5];exact HX4.out))
     clear hw5
     have HD5 : Hid (Rk w5 base r q sv wv1 SV WV1 D1):=HD1.out.stay HX5.out
     have HL5 : Hid (Lr w5 gl r b m ag hi rel uv rv):=HL1.out.stay HX5.out
     have HM5 : Hid (Mr w w5 base):=HMr.out.trans (Mr.of_below HX5.out (Nat.le_trans HBP.out.2.2.1 HMr.out.low.size))
     go_wp2
     go_roundw
     case rel => exact ⟨k + 1,n,bb,D1,by omega,by omega,by omega,rfl,by go_num,HE3,by have:=HWL.out;(show _ ≤ _);omega,HBN,HU1,⟨wv1,WV1,HD5.out,HL5.out⟩,HM5⟩
     case measure => simp [intOf];omega
   ·have n1 : (SS.toList == SZ.toList) = false:=by
     rw [same_str]
     exact decide_eq_false (fun h => hzero (str_inj HSB.out (by intro x hx;rw [List.eq_of_mem_replicate hx];omega) (by rw [HSS.out,HSZ.out];exact h)))
    have n2 : (SS.toList != SZ.toList) = true:=by unfold bne;rw [n1];rfl
    obtain ⟨er,HER⟩ : ∃ er,Hid (writeE D1 ((at_ + k : Nat) : Int) [] = er):=⟨_,rfl⟩
    obtain ⟨D2,HD2⟩ : ∃ D2,Hid (writeD D1 ((at_ + k : Nat) : Int) [] = D2):=⟨_,rfl⟩
    have HE3 : Hid ((if er ≠ 0 then (D2,false,er) else wipeL D2 (16 - (k + 1)) (at_ + (k + 1)) true) = (RD,RB,RE)):=by have h1:=HE2.out;rw [HS.out,if_neg hzero,HER.out,HD2.out] at h1;exact h1
    have HU2 : Hid (er = 0 → D2.down = false ∧ at_ + 16 ≤ D2.sure.length):=fun h0 => wipe_up HU1.out HD2.out (by rw [HER.out];exact h0)
    have HWL2 : Hid (D2.waits.length ≤ 900000000 + (k + 1)):=by
     have h1:=HWL.out
     have h2:=write_wl D1 ((at_ + k : Nat) : Int) []
     rw [HD2.out] at h2
     (show _ ≤ _)
     omega
    clear hzero
    go_upto_region 5 with fail
    go_region_with (first | (go_at_call 99;refine (HSEC.out _ (by first | exact HBDR.out | exact HBDZ.out)).mono ?_;rintro e w4 ⟨ht4,hb4⟩;obtain ⟨a4,c4,rfl,hr4,hc4⟩:=ht4.out;have HX4 : Hid (Below w3.heap.size w3 w4):=(by first | exact HBDR.out.trans (hb4.mono HBDR.out.size) | exact HBDZ.out.trans (hb4.mono HBDZ.out.size));have x20 : (convert 27 9 (.slice a4 64 c4)).run Tryz.prog w4 = .ok (.string SS) w4:=(by rw [conv_rd hr4 c4,HSS.out]);have x21 : (convert 27 9 (.slice a4 64 c4)).run Tryz.prog (w4.alloc (.cells ZC 5)) = .ok (.string SS) (w4.alloc (.cells ZC 5)):=(by rw [conv_rd (hr4.below (below_alloc w4 _)) c4,HSS.out]);try (have x22 : (convert 27 9 (.slice (some ⟨w3.heap.size,0,none⟩) 64 64)).run Tryz.prog w4 = .ok (.string SZ) w4:=(by rw [← HSZ.out];exact conv_rd (HZD.out.below hb4) 64));clear ht4 hb4 hr4 hc4))
    all_goals
     clear x20 x21 x23 hzc hmk
     try clear x22
     first
      | (obtain ⟨w5,hw5⟩ : ∃ w5,w5 = w4.alloc (.cells ZC 5):=⟨_,rfl⟩;rw [← hw5];have HX5 : Hid (Below w3.heap.size w3 w5):=(by (show Below _ _ _);rw [hw5];exact HX4.out.trans ((below_alloc w4 _).mono HX4.out.size)))
      | (obtain ⟨w5,hw5⟩ : ∃ w5,w5 = w4:=⟨_,rfl⟩;rw [← hw5];have HX5 : Hid (Below w3.heap.size w3 w5):=(by (show Below _ _ _);rw [hw5];exact HX4.out))
     clear hw5
     have HD5 : Hid (Rk w5 base r q sv wv1 SV WV1 D1):=HD1.out.stay HX5.out
     have HL5 : Hid (Lr w5 gl r b m ag hi rel uv rv):=HL1.out.stay HX5.out
     have HM5 : Hid (Mr w w5 base):=HMr.out.trans (Mr.of_below HX5.out (Nat.le_trans HBP.out.2.2.1 HMr.out.low.size))
     have c0 : w5.cell? ⟨gl,0,none⟩ = some (.pointer (some ⟨r,0,none⟩)):=Blk.cell HL5.out 0 rfl
     have HB6 : Hid (Below w5.heap.size w5 w5.drew):=(Below.refl _ _).drew
     have HPL:=ref_place11 w5.drew gl r b m ag hi rel uv rv pos k (HL5.out.stay HB6.out) HBP.out.1 HBP.out.2.1 (by omega)
     rw [show b + 2 + 16 * pos + k = at_ + k from by rw [HAT.out]] at HPL
     have HWR:=ref_Write w5.drew base r q sv wv1 SV WV1 D1 ((at_ + k : Nat) : Int) none 0 0 [] (HD5.out.stay HB6.out) (Nat.lt_of_lt_of_le HBP.out.2.2.2 (Nat.le_trans HM5.out.low.size HB6.out.size)) (fun w' _ => ⟨rfl,by simp,.inl rfl⟩) (fun _ => rfl) (by omega) (by have:=HWL.out;omega)
     rw [HER.out,HD2.out] at HWR
     go_wp2_with fail
     go_region_held3 (fun w' => w'.cell? ⟨gl,0,none⟩ = some (.pointer (some ⟨r,0,none⟩))) (first | exact c0 | exact d0 | fail)
      (first
       | (go_at_call 61;refine HPL.mono ?_;rintro e w6 ⟨rfl,hw6⟩;rw [hw6];clear hw6 w6)
       | (go_at_call 26;refine HWR.mono ?_;rintro e w6 ⟨rfl,hd6,hm6⟩;have HD6 : Hid (∃ wv' WV',Rk w6 base r q sv wv' SV WV' D2 ∧ Lr w6 gl r b m ag hi rel uv rv):=hd6.out.elim fun a h1 => h1.elim fun c h3 => ⟨a,c,h3,(HL5.out.stay HB6.out).mr hm6⟩;have HM6 : Hid (Mr w w6 base):=(HM5.out.trans (Mr.of_below HB6.out (Nat.le_trans HBP.out.2.2.1 HM5.out.low.size))).trans hm6;have d0 : w6.cell? ⟨gl,0,none⟩ = some (.pointer (some ⟨r,0,none⟩)):=HD6.out.elim fun a h1 => h1.elim fun c h3 => Blk.cell h3.2 0 rfl;clear hd6 hm6))
     clear c0 d0 HPL
     by_cases her : er = 0
     ·subst her
      have HE4 : Hid (wipeL D2 (16 - (k + 1)) (at_ + (k + 1)) true = (RD,RB,RE)):=by have h1:=HE3.out;rw [if_neg (by simp)] at h1;exact h1
      go_wp2
      go_roundw
      case rel => exact ⟨k + 1,n + 1,true,D2,by omega,by omega,by omega,by go_num,by go_num,HE4,HWL2,⟨(fun _ => by omega),fun _ => rfl⟩,HU2.out rfl,HD6,HM6⟩
      case measure => simp [intOf];omega
     ·have e5 : (er != 0) = true:=by rw [bne_iff_ne];exact her
      have HE4 : Hid (D2 = RD ∧ er = RE):=by have h1:=HE3.out;rw [if_pos her] at h1;cases h1;exact ⟨rfl,rfl⟩
      go_wp2
      go_returns
      exact ⟨⟨n,by rw [← HE4.out.2];rfl,by omega,fun h0 => absurd (HE4.out.2.trans h0) her⟩,by rw [← HE4.out.1];exact HD6.out,HM6⟩
  ·obtain rfl : k = 16:=by omega
   have HEE : Hid (D1 = RD ∧ bb = RB ∧ (0 : Int) = RE):=by have h1:=HE.out;rw [Nat.sub_self,wipeL] at h1;cases h1;exact ⟨rfl,rfl,rfl⟩
   go_wp2
   go_returns
   refine ⟨⟨n,by rw [← HEE.out.2.2];rfl,by omega,fun _ => by rw [← HEE.out.2.1];exact HBN.out⟩,⟨wv1,WV1,by rw [← HEE.out.1];exact HD1.out,HL1.out⟩,HMr⟩
end Go.Proofs.YtghajmcohdedlaaGreat

namespace Go.Proofs.YtghajmcohdedlaaGreat
open Go.RowKit
set_option maxRecDepth 100000
def rgc (s : Sg) : List Value:=[.int .i64 (s.at_ : Int),.int .i64 (s.num : Int),.int .i64 (s.en : Int),.int .i64 (s.high : Int)]
def Rgs (w : World) (base : Nat) (v : Value) (L : List Sg) : Prop:=w.ownsRow base 106 4 v L.length (L.flatMap rgc)
theorem Rgs.below {w w' : World} {base : Nat} {v : Value} {L : List Sg} (h : Rgs w base v L) (hb : Below w.heap.size w w') : Rgs w' base v L:=row_belowE h hb
theorem Rgs.val {w : World} {base : Nat} {v : Value} {L : List Sg} (h : Rgs w base v L) : ∃ a c,v = .slice a L.length c:=by
 rcases h.2 with ⟨h1,h2⟩ | ⟨g,cp,cur,a1,_⟩
 ·exact ⟨none,0,by rw [h1,h2]⟩
 ·exact ⟨_,cp,a1⟩
theorem flat_getR : ∀ (L : List Sg) (j k : Nat),j < L.length → k < 4 → (L.flatMap rgc)[j * 4 + k]? = (rgc (L.getD j zSg))[k]?
 | [],j,k,h,_ => by simp at h
 | x :: L,0,k,h,hk => by
  rw [List.flatMap_cons,Nat.zero_mul,Nat.zero_add,List.getElem?_append_left (by show k < 4;exact hk)]
  rfl
 | x :: L,j + 1,k,h,hk => by
  have ih:=flat_getR L j k (by simpa using h) hk
  rw [List.flatMap_cons,List.getElem?_append_right (by show 4 ≤ _;omega),show (j + 1) * 4 + k - (rgc x).length = j * 4 + k from by show _ - 4 = _;omega,ih]
  rfl
theorem Rgs.cellg {w : World} {base kb n c : Nat} {l : List Sg} (h : Rgs w base (.slice (some ⟨kb,0,none⟩) n c) l) {j k : Nat} (hj : j < l.length) (hk : k < 4) : w.cell? ⟨kb,j * 4 + k,none⟩ = (rgc (l.getD j zSg))[k]?:=by
 have hn : n = l.length:=by obtain ⟨a,c',e⟩:=h.val;cases e;rfl
 subst hn
 rw [World.ownsRow.cellAt h (j * 4 + k) (by omega)]
 exact flat_getR l j k hj hk
theorem Rgs.mr {w w' : World} {base B : Nat} {v : Value} {L : List Sg} (h : Rgs w B v L) (hm : Mr w w' base) : Rgs w' B v L:=by
 refine ⟨h.1,?_⟩
 rcases h.2 with h1 | ⟨g,cp,cur,a1,a2,a3,r⟩
 ·exact .inl h1
 ·exact .inr ⟨g,cp,cur,a1,a2,hm.block g cur _ _ a3 (by decide) (by decide) (by decide),r⟩
def freeR (b rel : Nat) : List Sg → Dk → Nat → Dk × Nat × Int
 | [],D,n => (D,n,0)
 | s :: r,D,n => if r = [] ∨ rel < s.high then freeR b rel r D n else if writeE D ((b + 2 + 16 * s.at_ + 0 : Nat) : Int) [] = 0 then freeR b rel r (writeD D ((b + 2 + 16 * s.at_ + 0 : Nat) : Int) []) (n + 1) else (writeD D ((b + 2 + 16 * s.at_ + 0 : Nat) : Int) [],n,writeE D ((b + 2 + 16 * s.at_ + 0 : Nat) : Int) [])
theorem freeR_last {b rel : Nat} {l : List Sg} (D : Dk) (n : Nat) (h : l.length ≤ 1) : freeR b rel l D n = (D,n,0):=by
 rcases l with _ | ⟨s,_ | ⟨s2,r⟩⟩
 ·rfl
 ·rw [freeR,if_pos (.inl rfl)];rfl
 ·simp at h
set_option maxHeartbeats 16000000 in
theorem ref_free11 (w : World) (base B r q : Nat) (sv wv : Value) (SV WV : List Value) (D : Dk) (gl b m ag : Nat) (hi rl : Int) (uv rv : Value) (U : List Sg) (vU : Value) (rel : Nat) (hd : Rk w base r q sv wv SV WV D) (hq : q < w.heap.size) (h : Lr w gl r b m ag hi rl uv rv) (hU : Rgs w B vU U) (hbs : base ≤ w.heap.size) (hb : b ≤ 1000) (hp : ∀ s ∈ U,s.at_ ≤ 1000) (hu : U.length ≤ 16) (hw : D.waits.length ≤ 900000000) :
  Calls Tryz.prog 67 #[.pointer (some ⟨gl,0,none⟩),vU,.int .i64 (rel : Int)] w fun e w' => e = .returned (.tuple #[.int .i64 ((freeR b rel U D 0).2.1 : Int),.int .i64 (freeR b rel U D 0).2.2]) ∧ Hid (∃ wv' WV',Rk w' base r q sv wv' SV WV' (freeR b rel U D 0).1 ∧ Lr w' gl r b m ag hi rl uv rv ∧ Rgs w' B vU U) ∧ Hid (Mr w w' base):=by
 obtain ⟨⟨RD,RN,RE⟩,HR⟩ : ∃ R,Hid (freeR b rel U D 0 = R):=⟨_,rfl⟩
 rw [HR.out]
 simp only
 obtain ⟨au,cu,hv⟩:=hU.val
 obtain ⟨un,HUN⟩ : ∃ un,Hid (U.length = un):=⟨_,rfl⟩
 rw [HUN.out] at hv
 subst hv
 have hu16 : un ≤ 16:=by rw [← HUN.out];exact hu
 have HD : Hid (∃ wv' WV',Rk w base r q sv wv' SV WV' D ∧ Lr w gl r b m ag hi rl uv rv ∧ Rgs w B (.slice au un cu) U):=⟨wv,WV,hd,h,hU⟩
 have HBP : Hid (b ≤ 1000 ∧ base ≤ w.heap.size ∧ q < w.heap.size ∧ ∀ s ∈ U,s.at_ ≤ 1000):=⟨hb,hbs,hq,hp⟩
 clear hd h hq hbs hb hp hU hu
 go_enter Tryz.func67,Tryz.ntmps67
 go_wp2
 go_loopw [6,7,8,9,10] (fun _ _ t8 t9 _ wr => ∃ (i n : Nat) (D1 : Dk),i ≤ un ∧ n ≤ i ∧ t8 = .int .i64 (n : Int) ∧ t9 = .int .i64 (i : Int) ∧ Hid (freeR b rel (U.drop i) D1 n = (RD,RN,RE)) ∧ Hid (D1.waits.length ≤ 900000000 + i) ∧ Hid (∃ wv' WV',Rk wr base r q sv wv' SV WV' D1 ∧ Lr wr gl r b m ag hi rl uv rv ∧ Rgs wr B (.slice au un cu) U) ∧ Hid (Mr w wr base)) (fun _ _ _ t9 _ _ => 16 - (intOf t9).toNat)
 case atStart => exact ⟨0,0,D,Nat.zero_le _,Nat.le_refl _,rfl,rfl,HR,by (show _ ≤ _);omega,HD,Mr.refl _ _⟩
 case round =>
  obtain ⟨i,n,D1,hi1,hn1,rfl,rfl,HE,HWL,HDr,HMr⟩:=hrel
  obtain ⟨w3,rfl⟩ : ∃ w3,w3 = wr:=⟨wr,rfl⟩
  obtain ⟨wv1,WV1,hd1,hl1,hu1⟩:=HDr.out
  have HD1 : Hid (Rk w3 base r q sv wv1 SV WV1 D1):=hd1
  have HL1 : Hid (Lr w3 gl r b m ag hi rl uv rv):=hl1
  have HU1 : Hid (Rgs w3 B (.slice au un cu) U):=hu1
  clear hd1 hl1 hu1 HDr
  have q1 : IntKind.i64.wrap ((i : Int) + 1) = ((i + 1 : Nat) : Int):=by rw [IntKind.wrap_i64];omega
  by_cases hlt : i + 1 < un
  ·obtain ⟨s,HS⟩ : ∃ s,Hid (U.getD i zSg = s ∧ U.drop i = s :: U.drop (i + 1) ∧ U.drop (i + 1) ≠ [] ∧ s ∈ U):=by
    have hi2 : i < U.length:=by rw [HUN.out];omega
    refine ⟨U[i],?_,?_,?_,List.getElem_mem hi2⟩
    ·rw [List.getD_eq_getElem?_getD,List.getElem?_eq_getElem hi2];rfl
    ·exact (List.getElem_cons_drop hi2).symm
    ·intro e
     have:=congrArg List.length e
     rw [List.length_drop,HUN.out] at this
     simp at this
     omega
   obtain ⟨kb,rfl⟩ : ∃ kb,au = some ⟨kb,0,none⟩:=by
    rcases HU1.out.2 with ⟨h1,h2⟩ | ⟨g',c',cur,h1,_⟩
    ·have:=HUN.out;omega
    ·simp only [Value.slice.injEq] at h1
     exact ⟨g',h1.1⟩
   have hiU : i < U.length:=by rw [HUN.out];omega
   have x0 : w3.cell? ⟨kb,i * 4,none⟩ = some (.int .i64 (s.at_ : Int)):=by rw [show i * 4 = i * 4 + 0 from rfl,HU1.out.cellg hiU (by omega),HS.out.1];rfl
   have x3 : w3.cell? ⟨kb,i * 4 + 3,none⟩ = some (.int .i64 (s.high : Int)):=by rw [HU1.out.cellg hiU (by omega),HS.out.1];rfl
   have HPS : Hid (s.at_ ≤ 1000):=HBP.out.2.2.2 s HS.out.2.2.2
   have HE2 : Hid ((if rel < s.high then freeR b rel (U.drop (i + 1)) D1 n else if writeE D1 ((b + 2 + 16 * s.at_ + 0 : Nat) : Int) [] = 0 then freeR b rel (U.drop (i + 1)) (writeD D1 ((b + 2 + 16 * s.at_ + 0 : Nat) : Int) []) (n + 1) else (writeD D1 ((b + 2 + 16 * s.at_ + 0 : Nat) : Int) [],n,writeE D1 ((b + 2 + 16 * s.at_ + 0 : Nat) : Int) [])) = (RD,RN,RE)):=by
    have h1:=HE.out
    rw [HS.out.2.1,freeR] at h1
    by_cases hh : rel < s.high
    ·rw [if_pos (.inr hh)] at h1;rw [if_pos hh];exact h1
    ·rw [if_neg (fun h => h.elim (fun h => HS.out.2.2.1 h) hh)] at h1;rw [if_neg hh];exact h1
   have g0 : (0 : Int) ≤ (i : Int):=by omega
   have g1 : (i : Int) < (un : Int):=by omega
   obtain ⟨P,HP⟩ : ∃ P,Hid (b + 2 + 16 * s.at_ + 0 = P):=⟨_,rfl⟩
   rw [HP.out] at HE2
   obtain ⟨sa,HSA⟩ : ∃ sa,Hid (s.at_ = sa):=⟨_,rfl⟩
   obtain ⟨shh,HSH⟩ : ∃ shh,Hid (s.high = shh):=⟨_,rfl⟩
   rw [HSA.out] at x0
   rw [HSH.out] at x3 HE2
   by_cases hh : rel < shh
   ·have HE3 : Hid (freeR b rel (U.drop (i + 1)) D1 n = (RD,RN,RE)):=by have h1:=HE2.out;rw [if_pos hh] at h1;exact h1
    have d1 : decide ((shh : Int) ≤ (rel : Int)) = false:=decide_eq_false (by omega)
    have d2 : decide (shh ≤ rel) = false:=decide_eq_false (by omega)
    have d3 : ¬ shh ≤ rel:=by omega
    have d4 : ¬ (shh : Int) ≤ (rel : Int):=by omega
    clear hh
    go_wp2
    go_roundw
    case rel => exact ⟨i + 1,n,D1,by omega,by omega,rfl,by go_num,HE3,by have:=HWL.out;(show _ ≤ _);omega,⟨wv1,WV1,HD1.out,HL1.out,HU1.out⟩,HMr⟩
    case measure => simp [intOf];omega
   ·obtain ⟨er,HER⟩ : ∃ er,Hid (writeE D1 (P : Int) [] = er):=⟨_,rfl⟩
    obtain ⟨D2,HD2⟩ : ∃ D2,Hid (writeD D1 (P : Int) [] = D2):=⟨_,rfl⟩
    have HE3 : Hid ((if er = 0 then freeR b rel (U.drop (i + 1)) D2 (n + 1) else (D2,n,er)) = (RD,RN,RE)):=by have h1:=HE2.out;rw [if_neg hh,HER.out,HD2.out] at h1;exact h1
    have d1 : decide ((shh : Int) ≤ (rel : Int)) = true:=decide_eq_true (by omega)
    have d3 : (shh : Int) ≤ (rel : Int):=by omega
    have HWL2 : Hid (D2.waits.length ≤ 900000000 + (i + 1)):=by
     have h1:=HWL.out
     have h2:=write_wl D1 (P : Int) []
     rw [HD2.out] at h2
     (show _ ≤ _)
     omega
    clear hh
    have c0 : w3.cell? ⟨gl,0,none⟩ = some (.pointer (some ⟨r,0,none⟩)):=Blk.cell HL1.out 0 rfl
    have HB6 : Hid (Below w3.heap.size w3 w3.drew):=(Below.refl _ _).drew
    have HPL:=ref_place11 w3.drew gl r b m ag hi rl uv rv sa 0 (HL1.out.stay HB6.out) HBP.out.1 (by rw [← HSA.out];exact HPS.out) (by omega)
    rw [show b + 2 + 16 * sa + 0 = P from by rw [← HSA.out];exact HP.out] at HPL
    have HWR:=ref_Write w3.drew base r q sv wv1 SV WV1 D1 (P : Int) none 0 0 [] (HD1.out.stay HB6.out) (Nat.lt_of_lt_of_le HBP.out.2.2.1 (Nat.le_trans HMr.out.low.size HB6.out.size)) (fun w' _ => ⟨rfl,by simp,.inl rfl⟩) (fun _ => rfl) (by omega) (by have:=HWL.out;omega)
    rw [HER.out,HD2.out] at HWR
    go_wp2_with fail
    go_region_held3 (fun w' => w'.cell? ⟨gl,0,none⟩ = some (.pointer (some ⟨r,0,none⟩)) ∧ w'.cell? ⟨kb,i * 4,none⟩ = some (.int .i64 (sa : Int))) (first | exact ⟨c0,x0⟩ | exact s6 | fail)
     (first
      | (go_at_call 61;refine HPL.mono ?_;rintro e w6 ⟨rfl,hw6⟩;rw [hw6];clear hw6 w6)
      | (go_at_call 26;refine HWR.mono ?_;rintro e w6 ⟨rfl,hd6,hm6⟩;have HD6 : Hid (∃ wv' WV',Rk w6 base r q sv wv' SV WV' D2 ∧ Lr w6 gl r b m ag hi rl uv rv ∧ Rgs w6 B (.slice (some ⟨kb,0,none⟩) un cu) U):=hd6.out.elim fun a h1 => h1.elim fun c h3 => ⟨a,c,h3,(HL1.out.stay HB6.out).mr hm6,(HU1.out.below HB6.out).mr hm6⟩;have HM6 : Hid (Mr w w6 base):=(HMr.out.trans (Mr.of_below HB6.out (Nat.le_trans HBP.out.2.1 HMr.out.low.size))).trans hm6;have s6 : w6.cell? ⟨gl,0,none⟩ = some (.pointer (some ⟨r,0,none⟩)) ∧ w6.cell? ⟨kb,i * 4,none⟩ = some (.int .i64 (sa : Int)):=HD6.out.elim fun a h1 => h1.elim fun c h3 => ⟨Blk.cell h3.2.1 0 rfl,by rw [show i * 4 = i * 4 + 0 from rfl,h3.2.2.cellg hiU (by omega),HS.out.1,← HSA.out];rfl⟩;clear hd6 hm6))
    clear c0 s6 HPL
    by_cases her : er = 0
    ·subst her
     have HE4 : Hid (freeR b rel (U.drop (i + 1)) D2 (n + 1) = (RD,RN,RE)):=by have h1:=HE3.out;rw [if_pos rfl] at h1;exact h1
     go_wp2
     go_roundw
     case rel => exact ⟨i + 1,n + 1,D2,by omega,by omega,by go_num,by go_num,HE4,HWL2,HD6,HM6⟩
     case measure => simp [intOf];omega
    ·have e5 : (er != 0) = true:=by rw [bne_iff_ne];exact her
     have HE4 : Hid (D2 = RD ∧ n = RN ∧ er = RE):=by have h1:=HE3.out;rw [if_neg her] at h1;cases h1;exact ⟨rfl,rfl,rfl⟩
     go_wp2
     go_returns
     exact ⟨by rw [← HE4.out.2.2,← HE4.out.2.1];rfl,by rw [← HE4.out.1];exact HD6.out,HM6⟩
  ·have HE4 : Hid (D1 = RD ∧ n = RN ∧ (0 : Int) = RE):=by
    have h1:=HE.out
    rw [freeR_last D1 n (by rw [List.length_drop,HUN.out];omega)] at h1
    cases h1
    exact ⟨rfl,rfl,rfl⟩
   have d1 : decide (((i + 1 : Nat) : Int) < (un : Int)) = false:=decide_eq_false (by omega)
   have d2 : ¬ ((i : Int) + 1) < (un : Int):=by omega
   have d3 : decide (((i : Int) + 1) < (un : Int)) = false:=decide_eq_false d2
   go_wp2
   go_returns
   have HDX : Rk w3 base r q sv wv1 SV WV1 RD:=by rw [← HE4.out.1];exact HD1.out
   first
    | exact ⟨by rw [← HE4.out.2.2,← HE4.out.2.1];rfl,⟨wv1,WV1,HDX,HL1.out,HU1.out⟩,HMr⟩
    | exact ⟨by rw [← HE4.out.2.2,← HE4.out.2.1];rfl,⟨⟨wv1,WV1,HDX⟩,HL1.out,HU1.out⟩,HMr⟩
end Go.Proofs.YtghajmcohdedlaaGreat
