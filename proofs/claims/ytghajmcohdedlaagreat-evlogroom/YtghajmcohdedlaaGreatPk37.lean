import Derived.Test.YtghajmcohdedlaaGreatEvT12
namespace Go.Proofs.YtghajmcohdedlaaGreat
open Go.RowKit
set_option maxRecDepth 100000
theorem Rcs.mr {w w' : World} {base B : Nat} {v : Value} {L : List Rc} (h : Rcs w B v L) (hm : Mr w w' base) : Rcs w' B v L :=
 ⟨own_type h.row (fun k cs hk => hm.block k cs _ _ hk (by decide) (by decide) (by decide)),fun r hr => (h.bd r hr).stays fun k cs fr hk => hm.block k cs _ _ hk (by decide) (by decide) (by decide)⟩
theorem LrG.mr {w w' : World} {base r q : Nat} {sv wv sv' wv' : Value} {SV WV SV' WV' : List Value} {D D' : Dk} {gl b m ag : Nat} {V : List Sg} {uv : Value} {hi rel : Nat} {L : List Rc} {rv : Value} (h : LrG w base r q sv wv SV WV D gl b m ag V uv hi rel L rv) (hm : Mr w w' base) (hd : Rk w' base r q sv' wv' SV' WV' D') : LrG w' base r q sv' wv' SV' WV' D' gl b m ag V uv hi rel L rv :=
 ⟨hd,h.log.mr hm,h.used.mr hm,h.recs.mr hm,h.bl⟩
theorem hidE {p : Prop} (h : p) : Hid p:=h
def keyV (v : Value) : List Nat:=KeyM.key (KeyM.up (intOf v))
theorem key2 (x y : Int) (hx : (-9223372036854775808 : Int) ≤ x ∧ x ≤ 9223372036854775807) (hy : (-9223372036854775808 : Int) ≤ y ∧ y ≤ 9223372036854775807) (w : World) (v : Value) (hv : v = .int .i64 x ∨ v = .int .i64 y) : Calls Tryz.prog 59 #[v] w fun e w' => ∃ a,e = .returned (.slice (some a) 8 8) ∧ Own w' w.heap.size (some a) 8 8 (keyV v) ∧ Below w.heap.size w w':=by
 rcases hv with rfl | rfl
 ·exact ref_Key x hx w
 ·exact ref_Key y hy w
def begR (b m : Nat) (D : Dk) (V : List Sg) (seq hi : Nat) : Int × Dk:=if m ≤ V.length then (9,D) else ((beginG (b + 2 + posF V V.length 0 * 16) D seq hi).1,(beginG (b + 2 + posF V V.length 0 * 16) D seq hi).2.1)
theorem begR_is (b m : Nat) (D : Dk) (V : List Sg) (hi : Nat) (ha : Apt V) (hm : ∀ s ∈ V,s.at_ < m) : begR b m D V (nextN (V.map (plc b))) hi = ((beginF b m D (V.map (plc b)) hi).1,(beginF b m D (V.map (plc b)) hi).2.1):=by
 unfold begR beginF
 rw [unused_pos b m V ha hm]
 by_cases h : m ≤ V.length
 ·rw [if_pos h,if_pos h]
 ·rw [if_neg h,if_neg h]
theorem beginG_two (A : Nat) (D : Dk) (num hi : Nat) : ((beginG A D num hi).1,(beginG A D num hi).2.1) = if 4611686018427387904 < num then (6,D) else if (wipeL D 16 A false).2.2 ≠ 0 then ((wipeL D 16 A false).2.2,(wipeL D 16 A false).1) else if syncE (wipeL D 16 A false).1 ≠ 0 then (syncE (wipeL D 16 A false).1,syncD (wipeL D 16 A false).1) else (writeE (syncD (wipeL D 16 A false).1) (A : Int) (headL num hi),writeD (syncD (wipeL D 16 A false).1) (A : Int) (headL num hi)):=by
 unfold beginG
 split
 ·rfl
 split
 ·rfl
 split
 ·rfl
 split
 ·rfl
 ·rename_i h
  rw [Classical.not_not.1 h]
theorem hasP_snoc (V : List Sg) (k p : Nat) (s : Sg) (h : V[k]? = some s) : hasP (V.take (k + 1)) p = (hasP (V.take k) p || decide (s.at_ = p)):=by
 unfold hasP
 rw [List.take_add_one,h,List.any_append]
 simp
theorem hasP_at {V : List Sg} {k : Nat} {s : Sg} (h : V[k]? = some s) : hasP V s.at_ = true:=(hasP_iff V _).2 ⟨s,List.mem_of_getElem? h,rfl⟩
set_option maxHeartbeats 32000000 in
theorem ref_begun (w : World) (base r q : Nat) (sv wv : Value) (SV WV : List Value) (D : Dk) (gl b m ag : Nat) (V : List Sg) (uv : Value) (hi rl : Nat) (L : List Rc) (rv : Value) (seq : Nat) (h : LrG w base r q sv wv SV WV D gl b m ag V uv hi rl L rv) (hq : q < w.heap.size) (hb : b ≤ 1000) (hm : m ≤ 16) (hu : V.length ≤ 16) (hseq : seq ≤ 4611686018427387905) (hhi : hi ≤ 1099511627776) (hw : D.waits.length ≤ 800000000) (hup : D.down = false) (hsz : b + 2 + m * 16 ≤ D.sure.length) :
  Calls Tryz.prog 60 #[.pointer (some ⟨gl,0,none⟩),.int .i64 (seq : Int)] w fun e w' => Hid (∃ p : Nat,e = .returned (.tuple #[.int .i64 (p : Int),.int .i64 (begR b m D V seq hi).1]) ∧ ((begR b m D V seq hi).1 = 0 → p = posF V V.length 0)) ∧ Hid (∃ wv' SV' WV',LrG w' base r q sv wv' SV' WV' (begR b m D V seq hi).2 gl b m ag V uv hi rl L rv) ∧ Hid (Mr w w' base):=by
 obtain ⟨⟨RE,RD⟩,HR⟩ : ∃ R,Hid (begR b m D V seq hi = R):=⟨_,rfl⟩
 rw [HR.out]
 simp only
 obtain ⟨un,HUN⟩ : ∃ un,Hid (V.length = un):=⟨_,rfl⟩
 rw [HUN.out]
 obtain ⟨P,HP⟩ : ∃ P,Hid (posF V un 0 = P):=⟨_,rfl⟩
 rw [HP.out]
 obtain ⟨au,cu,hv⟩:=h.used.val
 rw [HUN.out] at hv
 subst hv
 have hu16 : un ≤ 16:=by rw [← HUN.out];exact hu
 have HG : Hid (LrG w base r q sv wv SV WV D gl b m ag V (.slice au un cu) hi rl L rv):=h
 have HBP : Hid (b ≤ 1000 ∧ m ≤ 16 ∧ base ≤ w.heap.size ∧ q < w.heap.size ∧ D.waits.length ≤ 800000000 ∧ D.down = false ∧ b + 2 + m * 16 ≤ D.sure.length ∧ hi ≤ 1099511627776 ∧ seq ≤ 4611686018427387905):=⟨hb,hm,h.sz,hq,hw,hup,hsz,hhi,hseq⟩
 have hs64 : seq ≤ 4611686018427387905:=hseq
 clear h hq hb hm hu hseq hhi hw hup hsz
 go_enter Tryz.func60,Tryz.ntmps60
 go_wp2_with fail
 go_loopw [6,7,8] (fun t6 t7 _ wr => ∃ (i p : Nat),i ≤ un ∧ p ≤ i ∧ t6 = .int .i64 (p : Int) ∧ t7 = .int .i64 (i : Int) ∧ Hid (posF V (un - i) p = P) ∧ Hid (Below w.heap.size w wr)) (fun _ t7 _ _ => 20 - (intOf t7).toNat)
 case atStart => exact ⟨0,0,Nat.zero_le _,Nat.le_refl _,rfl,rfl,HP,Below.refl _ _⟩
 case round =>
  obtain ⟨i,p,hi1,hp1,rfl,rfl,HPO,HB⟩:=hrel
  obtain ⟨w3,rfl⟩ : ∃ w3,w3 = wr:=⟨wr,rfl⟩
  have HGr : Hid (LrG w3 base r q sv wv SV WV D gl b m ag V (.slice au un cu) hi rl L rv):=HG.out.below HB.out
  have c6 : w3.cell? ⟨gl,6,none⟩ = some (.slice au un cu):=Blk.cell HGr.out.log 6 rfl
  by_cases hlt : i < un
  ·have hlt' : (i : Int) < (un : Int):=by omega
   have HPS : Hid (posF V (un - (i + 1)) (if hasP V p = true then p + 1 else p) = P):=by (show _ = _);rw [← HPO.out,show un - i = (un - (i + 1)) + 1 from by omega,posF]
   obtain ⟨kb,rfl⟩:=HGr.out.used.some_ (by intro e;have:=HUN.out;rw [e] at this;simp at this;omega)
   clear c6
   have c6 : w3.cell? ⟨gl,6,none⟩ = some (.slice (some ⟨kb,0,none⟩) un cu):=Blk.cell HGr.out.log 6 rfl
   go_wp2_with fail
   go_loopw [6,8] (fun t6 t8 wq => ∃ (k : Nat),k ≤ un ∧ t6 = .int .i64 (p : Int) ∧ t8 = .int .i64 (k : Int) ∧ Hid (hasP (V.take k) p = false) ∧ Hid (Below w.heap.size w wq)) (fun _ t8 _ => 20 - (intOf t8).toNat)
   case atStart => exact ⟨0,Nat.zero_le _,rfl,rfl,rfl,HB⟩
   case round =>
    obtain ⟨k,hk1,rfl,rfl,HHP,HBq⟩:=hrel
    obtain ⟨w4,rfl⟩ : ∃ w4,w4 = wr:=⟨wr,rfl⟩
    have HG4 : Hid (LrG w4 base r q sv wv SV WV D gl b m ag V (.slice (some ⟨kb,0,none⟩) un cu) hi rl L rv):=HG.out.below HBq.out
    have d6 : w4.cell? ⟨gl,6,none⟩ = some (.slice (some ⟨kb,0,none⟩) un cu):=Blk.cell HG4.out.log 6 rfl
    by_cases hk : k < un
    ·have hk' : (k : Int) < (un : Int):=by omega
     have g0 : (0 : Int) ≤ (k : Int):=by omega
     obtain ⟨s,hs⟩ : ∃ s,V[k]? = some s:=⟨_,List.getElem?_eq_getElem (by have:=HUN.out;omega)⟩
     have hsd : V.getD k zSg = s:=by rw [List.getD_eq_getElem?_getD,hs];rfl
     obtain ⟨x0,x1,x2,x3⟩:=HG4.out.used.facts (J:=k) (by have:=HUN.out;omega) hsd
     have HHS : Hid (hasP (V.take (k + 1)) p = decide (s.at_ = p)):=by (show _ = _);rw [hasP_snoc V k p s hs,HHP.out];rfl
     have HHA : Hid (s.at_ = p → hasP V p = true):=fun e => by rw [← e];exact hasP_at hs
     obtain ⟨sa,HSA⟩ : ∃ sa,Hid (s.at_ = sa):=⟨_,rfl⟩
     rw [HSA.out] at x0
     clear hs hsd x1 x2 x3
     by_cases hat : sa = p
     ·have e1 : ((sa : Int) == (p : Int)) = true:=by rw [hat];simp
      have HPN : Hid (posF V (un - (i + 1)) (p + 1) = P):=by have h1:=HPS.out;rw [if_pos (HHA.out (HSA.out.trans hat))] at h1;exact h1
      clear hat
      go_wp2
      go_roundw
      case rel => exact ⟨i + 1,p + 1,by omega,by omega,by go_num,by go_num,HPN,HBq⟩
      case measure => simp [intOf];omega
     ·have e1 : ((sa : Int) == (p : Int)) = false:=by rw [beq_eq_false_iff_ne];omega
      have HHN : Hid (hasP (V.take (k + 1)) p = false):=by (show _ = _);rw [HHS.out,HSA.out];exact decide_eq_false hat
      clear hat
      go_wp2
      go_roundw
      case rel => exact ⟨k + 1,by omega,rfl,by go_num,HHN,HBq⟩
      case measure => simp [intOf];omega
    ·have hk' : ¬ (k : Int) < (un : Int):=by omega
     have HPN : Hid (posF V (un - (i + 1)) p = P):=by
      have h1:=HPS.out
      have h2:=HHP.out
      rw [List.take_of_length_le (by have:=HUN.out;omega)] at h2
      rw [h2] at h1
      exact h1
     go_wp2
     go_roundw
     case rel => exact ⟨i + 1,p,by omega,by omega,rfl,by go_num,HPN,HBq⟩
     case measure => simp [intOf];omega
  ·have hlt' : ¬ (i : Int) < (un : Int):=by omega
   have hpP : P = p:=by have:=HPO.out;rw [show un - i = 0 from by omega] at this;exact this.symm
   subst hpP
   have c2 : w3.cell? ⟨gl,2,none⟩ = some (.int .i64 (m : Int)):=Blk.cell HGr.out.log 2 rfl
   have HPU : Hid (P ≤ un):=by (show _ ≤ _);omega
   by_cases hfull : m ≤ un
   ·have d1 : decide ((m : Int) ≤ (un : Int)) = true:=decide_eq_true (by omega)
    have d2 : (m : Int) ≤ (un : Int):=by omega
    have d3 : decide (m ≤ un) = true:=decide_eq_true hfull
    have HRR : Hid (RE = 9 ∧ RD = D):=by have h1:=HR.out;unfold begR at h1;rw [HUN.out,if_pos hfull] at h1;cases h1;exact ⟨rfl,rfl⟩
    clear hfull
    go_wp2_with fail
    go_quiet (fail)
    have HBD : Hid (Below w.heap.size w (w3.drewN nq)):=below_drewN HB.out _
    go_wp2
    go_returns
    exact ⟨⟨0,by rw [HRR.out.1];rfl,fun h0 => by rw [HRR.out.1] at h0;cases h0⟩,⟨wv,SV,WV,by rw [HRR.out.2];exact HG.out.below HBD.out⟩,Mr.of_below HBD.out HBP.out.2.2.1⟩
   have d1 : decide ((m : Int) ≤ (un : Int)) = false:=decide_eq_false (by omega)
   have d2 : ¬ (m : Int) ≤ (un : Int):=by omega
   have d3 : decide (m ≤ un) = false:=decide_eq_false hfull
   obtain ⟨A,HA⟩ : ∃ A,Hid (b + 2 + 16 * P + 0 = A):=⟨_,rfl⟩
   have HRG : Hid (((beginG A D seq hi).1,(beginG A D seq hi).2.1) = (RE,RD)):=by
    (show _ = _)
    have h1:=HR.out
    unfold begR at h1
    rw [HUN.out,if_neg hfull,HP.out,show b + 2 + P * 16 = A from by have:=HA.out;omega] at h1
    exact h1
   have HPM : Hid (P < m):=by (show _ < _);have:=HPU.out;omega
   go_wp2_with fail
   go_quiet (fail)
   have HB4 : Hid (Below w.heap.size w (w3.drewN nq)):=below_drewN HB.out _
   obtain ⟨w4,HW4⟩ : ∃ w4,Hid (w4 = w3.drewN nq):=⟨_,rfl⟩
   rw [← HW4.out]
   rw [← HW4.out] at HB4
   clear c2 c6 d1 d2 d3 hfull hlt hlt'
   by_cases hlim : 4611686018427387904 < seq
   ·have e1 : (4611686018427387904 : Int) < (seq : Int):=by omega
    have HRR : Hid (RE = 6 ∧ RD = D):=by have h1:=HRG.out;unfold beginG at h1;rw [if_pos hlim] at h1;cases h1;exact ⟨rfl,rfl⟩
    clear hlim
    go_wp2
    go_returns
    exact ⟨⟨0,by rw [HRR.out.1];rfl,fun h0 => by rw [HRR.out.1] at h0;cases h0⟩,⟨wv,SV,WV,by rw [HRR.out.2];exact HG.out.below HB4.out⟩,Mr.of_below HB4.out HBP.out.2.2.1⟩
   have e1 : ¬ (4611686018427387904 : Int) < (seq : Int):=by omega
   have HG4 : Hid (LrG w4 base r q sv wv SV WV D gl b m ag V (.slice au un cu) hi rl L rv):=HG.out.below HB4.out
   have HWI:=ref_wipe11 w4 base r q sv wv SV WV D gl b m ag (hi : Int) (rl : Int) (.slice au un cu) rv P 0 HG4.out.disk (Nat.lt_of_lt_of_le HBP.out.2.2.2.1 HB4.out.size) HG4.out.log (Nat.le_trans HBP.out.2.2.1 HB4.out.size) HBP.out.1 (by omega) (by omega) (by have:=HBP.out.2.2.2.2.1;omega) HBP.out.2.2.2.2.2.1 (by have:=HBP.out;have:=HPM.out;omega)
   rw [show b + 2 + 16 * P + 0 = A from HA.out,Nat.sub_zero] at HWI
   obtain ⟨⟨D1,B1,E1⟩,HWL⟩ : ∃ R,Hid (wipeL D 16 A false = R):=⟨_,rfl⟩
   rw [HWL.out] at HWI
   simp only at HWI
   have HRW : Hid ((if E1 ≠ 0 then (E1,D1) else if syncE D1 ≠ 0 then (syncE D1,syncD D1) else (writeE (syncD D1) (A : Int) (headL seq hi),writeD (syncD D1) (A : Int) (headL seq hi))) = (RE,RD)):=by
    (show _ = _)
    have h1:=HRG.out
    rw [beginG_two,if_neg hlim,HWL.out] at h1
    exact h1
   have HWW : Hid (D1.waits.length ≤ 800000016):=by
    (show _ ≤ _)
    have h1:=wipe_wl 16 D A false
    rw [HWL.out] at h1
    have:=HBP.out.2.2.2.2.1
    simp only at h1
    omega
   clear hlim
   go_wp2_with fail
   refine HWI.mono ?_
   rintro e w5 ⟨ht5,hd5,hm5⟩
   obtain ⟨n5,rfl,hn5,_⟩:=ht5.out
   obtain ⟨wv5,WV5,hk5,hl5⟩:=hd5.out
   have HM5 : Hid (Mr w w5 base):=(Mr.of_below HB4.out HBP.out.2.2.1).trans hm5.out
   have HG5 : Hid (LrG w5 base r q sv wv5 SV WV5 D1 gl b m ag V (.slice au un cu) hi rl L rv):=HG4.out.mr hm5.out hk5
   clear ht5 hd5 hm5 hk5 hl5 HWI
   by_cases hE1 : E1 = 0
   case neg =>
    have e2 : (E1 == 0) = false:=by rw [beq_eq_false_iff_ne];exact hE1
    have HRR : Hid (E1 = RE ∧ D1 = RD):=by have h1:=HRW.out;rw [if_pos hE1] at h1;cases h1;exact ⟨rfl,rfl⟩
    have HNE : Hid (E1 ≠ 0):=hE1
    clear hE1
    go_wp2
    go_returns
    exact ⟨⟨P,by rw [← HRR.out.1];rfl,fun h0 => absurd (HRR.out.1.trans h0) HNE.out⟩,⟨wv5,SV,WV5,by rw [← HRR.out.2];exact HG5.out⟩,HM5⟩
   subst hE1
   have c0 : w5.cell? ⟨gl,0,none⟩ = some (.pointer (some ⟨r,0,none⟩)):=Blk.cell HG5.out.log 0 rfl
   have HSN:=ref_Sync w5 base r q sv wv5 SV WV5 D1 HG5.out.disk (Nat.lt_of_lt_of_le HBP.out.2.2.2.1 HM5.out.low.size)
   obtain ⟨E2,HE2⟩ : ∃ E2,Hid (syncE D1 = E2):=⟨_,rfl⟩
   obtain ⟨D2,HD2⟩ : ∃ D2,Hid (syncD D1 = D2):=⟨_,rfl⟩
   rw [HE2.out,HD2.out] at HSN
   have HRX : Hid ((if E2 ≠ 0 then (E2,D2) else (writeE D2 (A : Int) (headL seq hi),writeD D2 (A : Int) (headL seq hi))) = (RE,RD)):=by have h1:=HRW.out;rw [if_neg (by simp),HE2.out,HD2.out] at h1;exact h1
   have HWX : Hid (D2.waits.length ≤ 800000016):=by (show _ ≤ _);have h1:=sync_wl D1;rw [HD2.out] at h1;have:=HWW.out;omega
   go_wp2_with fail
   refine HSN.mono ?_
   rintro e w6 ⟨rfl,hd6,hm6⟩
   obtain ⟨wv6,SV6,WV6,hk6⟩:=hd6.out
   have HM6 : Hid (Mr w w6 base):=HM5.out.trans hm6
   have HG6 : Hid (LrG w6 base r q sv wv6 SV6 WV6 D2 gl b m ag V (.slice au un cu) hi rl L rv):=HG5.out.mr hm6 hk6
   clear hd6 hm6 hk6 HSN c0
   by_cases hE2 : E2 = 0
   case neg =>
    have e2 : (E2 == 0) = false:=by rw [beq_eq_false_iff_ne];exact hE2
    have HRR : Hid (E2 = RE ∧ D2 = RD):=by have h1:=HRX.out;rw [if_pos hE2] at h1;cases h1;exact ⟨rfl,rfl⟩
    have HNE : Hid (E2 ≠ 0):=hE2
    clear hE2
    go_wp2
    go_returns
    exact ⟨⟨P,by rw [← HRR.out.1];rfl,fun h0 => absurd (HRR.out.1.trans h0) HNE.out⟩,⟨wv6,SV6,WV6,by rw [← HRR.out.2];exact HG6.out⟩,HM6⟩
   subst hE2
   obtain ⟨E3,HE3⟩ : ∃ E3,Hid (writeE D2 (A : Int) (headL seq hi) = E3):=⟨_,rfl⟩
   obtain ⟨D3,HD3⟩ : ∃ D3,Hid (writeD D2 (A : Int) (headL seq hi) = D3):=⟨_,rfl⟩
   have HRR : Hid (E3 = RE ∧ D3 = RD):=by have h1:=HRX.out;rw [if_neg (by simp),HE3.out,HD3.out] at h1;cases h1;exact ⟨rfl,rfl⟩
   have HQ1 : Hid ((-9223372036854775808 : Int) ≤ (seq : Int) ∧ (seq : Int) ≤ 9223372036854775807):=by have:=HBP.out;(show _ ∧ _);omega
   have HQ2 : Hid ((-9223372036854775808 : Int) ≤ (hi : Int) ∧ (hi : Int) ≤ 9223372036854775807):=by have:=HBP.out;(show _ ∧ _);omega
   have HB7 : Hid (Below w6.heap.size w6 w6.drew):=(Below.refl _ _).drew
   have HCL : Hid (∀ w',Below w6.heap.size w6 w' → w'.cell? ⟨gl,4,none⟩ = some (.int .i64 (hi : Int))):=fun w' hb' => Blk.cell (HG6.out.log.stay hb') 4 rfl
   have s0 : w6.drew.cell? ⟨gl,4,none⟩ = some (.int .i64 (hi : Int)):=HCL.out _ HB7.out
   go_upto_region 18 with fail
   go_region_held3 (fun w' => w'.cell? ⟨gl,4,none⟩ = some (.int .i64 (hi : Int))) (first | exact sA | exact s2 | exact s1 | exact s0 | fail)
    (first
     | (guard_target =~ (if Region.wanted (Oper.mk (some 81) _ _ _ _ _) _ = true then _ else _);(first | (refine step_append_rd rfl (.tmp 74) (.tmp 80) rfl w6.heap.size (some a8) 8 8 (keyV (.int .i64 (seq : Int))) rfl HO89.out (some a9) 8 8 (keyV (.int .i64 (hi : Int))) rfl HO9.out.rd (fun h => by cases h) (by omega) HX9.out.size 16 rfl (keyV (.int .i64 (seq : Int)) ++ keyV (.int .i64 (hi : Int))) rfl ?_) | (refine step_append_rd rfl (.tmp 74) (.tmp 80) rfl w6.heap.size (some a9) 8 8 (keyV (.int .i64 (seq : Int))) rfl HO9.out (some a8) 8 8 (keyV (.int .i64 (hi : Int))) rfl HO89.out.rd (fun h => by cases h) (by omega) HX9.out.size 16 rfl (keyV (.int .i64 (seq : Int)) ++ keyV (.int .i64 (hi : Int))) rfl ?_));intro aA cA wA hoA hgA hbA;have HOA : Hid (Own wA w6.heap.size aA 16 cA (keyV (.int .i64 (seq : Int)) ++ keyV (.int .i64 (hi : Int)))):=hoA;have HXA : Hid (Below w6.heap.size w6 wA):=HX9.out.trans hbA;have sA:=HCL.out _ HXA.out;clear hoA hgA hbA)
     | (go_at_call 59;first
       | (have hx8:=HX8;refine (key2 (seq : Int) (hi : Int) HQ1.out HQ2.out w8 _ (by first | exact Or.inl rfl | exact Or.inr rfl)).mono ?_;rintro e w9 ⟨a9,rfl,ho9,hb9⟩;have HX9 : Hid (Below w6.heap.size w6 w9):=hx8.out.trans (hb9.mono hx8.out.size);have HO9:=hidE (Own.lower ho9 hx8.out.size);have HO89:=hidE (HO8.out.below hb9);have s2:=HCL.out _ HX9.out;clear hx8 ho9 hb9)
       | (refine (key2 (seq : Int) (hi : Int) HQ1.out HQ2.out w6.drew _ (by first | exact Or.inl rfl | exact Or.inr rfl)).mono ?_;rintro e w8 ⟨a8,rfl,ho8,hb8⟩;have HX8 : Hid (Below w6.heap.size w6 w8):=HB7.out.trans (hb8.mono HB7.out.size);have HO8:=hidE (Own.lower ho8 HB7.out.size);have s1:=HCL.out _ HX8.out;clear ho8 hb8)))
   all_goals
    try clear s0
    try clear s1
    try clear s2
    try clear sA
    try clear c4
    have HOB : Hid (Own wA w6.heap.size aA 16 cA (KeyM.key (KeyM.up (seq : Int)) ++ KeyM.key (KeyM.up (hi : Int)))):=HOA.out
    have HGA : Hid (LrG wA base r q sv wv6 SV6 WV6 D2 gl b m ag V (.slice au un cu) hi rl L rv):=HG6.out.below HXA.out
    have HMA : Hid (Mr w wA base):=HM6.out.trans (Mr.of_below HXA.out (Nat.le_trans HBP.out.2.2.1 HM6.out.low.size))
    have HBD2 : Hid (Below wA.heap.size wA wA.drew):=(Below.refl _ _).drew
    have HPL : Hid (∀ w',Below wA.heap.size wA w' → Calls Tryz.prog 61 #[.pointer (some ⟨gl,0,none⟩),.int .i64 (P : Int),.int .i64 0] w' fun e w'' => e = .returned (.int .i64 (A : Int)) ∧ w'' = w'):=fun w' hb' => by
     have:=ref_place11 w' gl r b m ag (hi : Int) (rl : Int) (.slice au un cu) rv P 0 (HGA.out.log.stay hb') HBP.out.1 (by have:=HPU.out;omega) (by omega)
     rw [HA.out] at this
     exact this
    have HLD:=ref_Laid wA.drew 1 aA 16 cA _ true (by omega) (by omega) ((HOB.out.below HBD2.out).rd) HOB.out.nn
    have t0 : wA.drew.cell? ⟨gl,0,none⟩ = some (.pointer (some ⟨r,0,none⟩)):=Blk.cell (HGA.out.log.stay HBD2.out) 0 rfl
    go_upto_region 19 with fail
    go_region_held3 (fun w' => w'.cell? ⟨gl,0,none⟩ = some (.pointer (some ⟨r,0,none⟩))) (first | exact t2 | exact t1 | exact t0 | fail)
     (first
      | (go_at_call 61;refine (HPL.out _ (by first | exact HX10.out | exact HBD2.out)).mono ?_;rintro e wp ⟨rfl,hwp⟩;rw [hwp];clear hwp wp)
      | (go_at_call 62;refine HLD.mono ?_;rintro e w10 ⟨ht10,hb10⟩;obtain ⟨g10,c10,rfl,ho10⟩:=ht10.out;have HX10 : Hid (Below wA.heap.size wA w10):=HBD2.out.trans (hb10.mono HBD2.out.size);have HO10 : Hid (Own w10 wA.heap.size (some ⟨g10,0,none⟩) 64 c10 (headL seq hi)):=(Own.lower ho10 HBD2.out.size);have t1 : w10.cell? ⟨gl,0,none⟩ = some (.pointer (some ⟨r,0,none⟩)):=Blk.cell (HGA.out.log.stay HX10.out) 0 rfl;clear ht10 ho10 hb10)
      | (go_at_call 26;refine (ref_Write w10 base r q sv wv6 SV6 WV6 D2 (A : Int) (some ⟨g10,0,none⟩) 64 c10 (headL seq hi) (HGA.out.disk.stay HX10.out) (Nat.lt_of_lt_of_le HBP.out.2.2.2.1 (Nat.le_trans HMA.out.low.size HX10.out.size)) (fun w' hm => (HO10.out.mr hm).rd) (fun h => by cases h) (by omega) (by have:=HWX.out;omega)).mono ?_;rw [HE3.out,HD3.out];rintro e wF ⟨rfl,hdF,hmF⟩;have HMF : Hid (Mr w wF base):=(HMA.out.trans (Mr.of_below HX10.out (Nat.le_trans HBP.out.2.2.1 HMA.out.low.size))).trans hmF;have HDF : Hid (∃ wv' SV' WV',LrG wF base r q sv wv' SV' WV' RD gl b m ag V (.slice au un cu) hi rl L rv):=(hdF.out.elim fun a h1 => h1.elim fun c h3 => ⟨a,SV6,c,by rw [← HRR.out.2];exact (HGA.out.below HX10.out).mr hmF h3⟩);have t2 : wF.cell? ⟨gl,0,none⟩ = some (.pointer (some ⟨r,0,none⟩)):=(HDF.out.elim fun a h1 => h1.elim fun b h2 => h2.elim fun c h3 => Blk.cell h3.log 0 rfl);clear hdF hmF))
    go_wp2
    go_returns
    exact ⟨⟨P,by rw [← HRR.out.1];rfl,fun _ => rfl⟩,HDF,HMF⟩
end Go.Proofs.YtghajmcohdedlaaGreat

namespace Go.Proofs.YtghajmcohdedlaaGreat
open Go.RowKit
theorem lastG_mem {V : List Sg} (h : V ≠ []) : lastG V ∈ V:=by
 have hpos : 0 < V.length:=List.length_pos_iff.2 h
 unfold lastG
 rw [List.getD_eq_getElem?_getD,List.getElem?_eq_getElem (by omega : V.length - 1 < V.length)]
 exact List.getElem_mem _
theorem lastG_map (f : Sg → Sg) {V : List Sg} (h : V ≠ []) : lastG (V.map f) = f (lastG V):=by
 have hpos : 0 < V.length:=List.length_pos_iff.2 h
 unfold lastG
 rw [List.length_map,getD_mapG f (by omega)]
theorem nextN_map (b : Nat) (V : List Sg) : nextN (V.map (plc b)) = nextN V:=by
 unfold nextN
 by_cases h : V = []
 ·subst h;rfl
 ·rw [if_neg (by rw [List.map_eq_nil_iff];exact h),if_neg h,lastG_map _ h]
  rfl
def endR (V : List Sg) : Nat:=if V = [] then 17 else (lastG V).en
def posR (V : List Sg) : Nat:=if V = [] then 0 else (lastG V).at_
def appendRB (V : List Sg) (hi T K seq pos : Nat) (B W : Int × Dk) : Int × Dk × List Sg × Nat × Bool :=
 if B.1 ≠ 0 then (B.1,B.2,V,hi,false) else if W.1 ≠ 0 then (W.1,W.2,V,hi,false) else (0,W.2,V ++ [⟨pos,seq,T,1 + K⟩],T,true)
def appendRO (V : List Sg) (hi T K : Nat) (W : Int × Dk) : Int × Dk × List Sg × Nat × Bool :=
 if W.1 ≠ 0 then (W.1,W.2,V,hi,false) else (0,W.2,V.set (V.length - 1) ⟨(lastG V).at_,(lastG V).num,T,(lastG V).en + K⟩,T,true)
def appendRG (b m : Nat) (D : Dk) (V : List Sg) (hi T : Nat) (KB : List Nat) (K : Nat) : Int × Dk × List Sg × Nat × Bool :=
 if 16 < endR V + K then appendRB V hi T K (nextN V) (posF V V.length 0) (begR b m D V (nextN V) hi) (writesF KB K 0 (b + 2 + 16 * posF V V.length 0 + 1) (begR b m D V (nextN V) hi).2)
 else appendRO V hi T K (writesF KB K 0 (b + 2 + 16 * (lastG V).at_ + (lastG V).en) D)
def appendRF (b m ag : Nat) (D : Dk) (V : List Sg) (hi : Nat) (t : Int) (bs : List Nat) : Int × Dk × List Sg × Nat × Bool :=
 if shutE D ag ≠ 0 then (shutE D ag,D,V,hi,false)
 else if 400 < bs.length then (6,D,V,hi,false)
 else if t ≤ (hi : Int) ∨ 1099511627776 < t then (14,D,V,hi,false)
 else appendRG b m D V hi t.toNat (keyB t.toNat bs) (((keyB t.toNat bs).length + 58) / 59)
def mpA (b : Nat) (R : Int × Dk × List Sg × Nat × Bool) : Int × Dk × List Sg × Nat × Bool:=(R.1,R.2.1,R.2.2.1.map (plc b),R.2.2.2.1,R.2.2.2.2)
theorem beginG_seg {P : Nat} {D : Dk} {num hi : Nat} (h : (beginG P D num hi).1 = 0) : (beginG P D num hi).2.2 = ⟨P,num,hi,1⟩:=by
 unfold beginG at h ⊢
 split
 ·rename_i h1;rw [if_pos h1] at h;cases h
 rename_i h1;rw [if_neg h1] at h
 split
 ·rename_i h2;rw [if_pos h2] at h;exact absurd h h2
 rename_i h2;rw [if_neg h2] at h
 split
 ·rename_i h3;rw [if_pos h3] at h;exact absurd h h3
 rename_i h3;rw [if_neg h3] at h
 split
 ·rename_i h4;rw [if_pos h4] at h;exact absurd h h4
 ·rfl
theorem appendRG_is (b m : Nat) (D : Dk) (V : List Sg) (hi T : Nat) (KB : List Nat) (K : Nat) (ha : Apt V) (hm : ∀ s ∈ V,s.at_ < m) :
  appendG (V.map (plc b)) hi T K (segForF b m D (V.map (plc b)) hi K) (writesF KB K 0 ((segForF b m D (V.map (plc b)) hi K).2.2.at_ + (segForF b m D (V.map (plc b)) hi K).2.2.en) (segForF b m D (V.map (plc b)) hi K).2.1) = mpA b (appendRG b m D V hi T KB K):=by
 have hne : V.map (plc b) ≠ [] ↔ V ≠ []:=by rw [Ne,List.map_eq_nil_iff]
 unfold appendRG
 by_cases hbg : 16 < endR V + K
 ·rw [if_pos hbg]
  have hsf : segForF b m D (V.map (plc b)) hi K = beginF b m D (V.map (plc b)) hi:=by
   unfold segForF
   rw [if_neg]
   rintro ⟨h1,h2⟩
   have h3:=hne.1 h1
   unfold endR at hbg
   rw [if_neg h3] at hbg
   rw [lastG_map _ h3] at h2
   have : (plc b (lastG V)).en = (lastG V).en:=rfl
   omega
  rw [hsf]
  have hbr:=begR_is b m D V hi ha hm
  rw [nextN_map] at hbr
  have hb1 : (begR b m D V (nextN V) hi).1 = (beginF b m D (V.map (plc b)) hi).1:=by rw [hbr]
  have hb2 : (begR b m D V (nextN V) hi).2 = (beginF b m D (V.map (plc b)) hi).2.1:=by rw [hbr]
  unfold appendRB appendG
  rw [hb1,hb2]
  by_cases h0 : (beginF b m D (V.map (plc b)) hi).1 = 0
  ·have hB : ¬ ((beginF b m D (V.map (plc b)) hi).1 ≠ 0):=fun h => h h0
   rw [if_neg hB,if_neg hB]
   have hfull : ¬ m ≤ V.length:=fun hf => by
    unfold beginF at h0
    rw [unused_pos b m V ha hm,if_pos hf] at h0
    cases h0
   have hseg : (beginF b m D (V.map (plc b)) hi).2.2 = ⟨b + 2 + posF V V.length 0 * 16,nextN V,hi,1⟩:=by
    unfold beginF at h0 ⊢
    rw [unused_pos b m V ha hm,if_neg hfull] at h0 ⊢
    simp only at h0 ⊢
    rw [beginG_seg h0,nextN_map]
   rw [hseg]
   simp only
   rw [show b + 2 + posF V V.length 0 * 16 + 1 = b + 2 + 16 * posF V V.length 0 + 1 from by omega]
   by_cases hw : (writesF KB K 0 (b + 2 + 16 * posF V V.length 0 + 1) (beginF b m D (V.map (plc b)) hi).2.1).1 = 0
   ·have hW : ¬ ((writesF KB K 0 (b + 2 + 16 * posF V V.length 0 + 1) (beginF b m D (V.map (plc b)) hi).2.1).1 ≠ 0):=fun h => h hw
    rw [if_neg hW,if_neg hW]
    unfold mpA keepF
    simp only
    rw [if_neg]
    ·rw [List.map_append,List.map_cons,List.map_nil]
     have e : plc b ⟨posF V V.length 0,nextN V,T,1 + K⟩ = ⟨b + 2 + posF V V.length 0 * 16,nextN V,T,1 + K⟩:=by
      unfold plc
      simp only
      rw [show b + 2 + 16 * posF V V.length 0 + 0 = b + 2 + posF V V.length 0 * 16 from by omega]
     rw [e]
    ·rintro ⟨h1,h2⟩
     have h3:=hne.1 h1
     rw [lastG_map _ h3] at h2
     have h4 : b + 2 + 16 * (lastG V).at_ + 0 = b + 2 + posF V V.length 0 * 16:=h2
     have h5:=pos_new V
     have h6 : hasP V (posF V V.length 0) = true:=(hasP_iff V _).2 ⟨lastG V,lastG_mem h3,by omega⟩
     rw [h5] at h6
     cases h6
   ·have hW : (writesF KB K 0 (b + 2 + 16 * posF V V.length 0 + 1) (beginF b m D (V.map (plc b)) hi).2.1).1 ≠ 0:=hw
    rw [if_pos hW,if_pos hW]
    rfl
  ·have hB : (beginF b m D (V.map (plc b)) hi).1 ≠ 0:=h0
   rw [if_pos hB,if_pos hB]
   rfl
 ·rw [if_neg hbg]
  have h3 : V ≠ []:=fun e => hbg (by unfold endR;rw [if_pos e];omega)
  have hen : (lastG V).en + K ≤ 16:=by unfold endR at hbg;rw [if_neg h3] at hbg;omega
  have hsf : segForF b m D (V.map (plc b)) hi K = (0,D,plc b (lastG V)):=by
   unfold segForF
   rw [lastG_map _ h3,if_pos ⟨hne.2 h3,by (show K + (lastG V).en ≤ 16);omega⟩]
  rw [hsf]
  unfold appendG appendRO
  simp only [ne_eq,not_true_eq_false,if_false]
  have e0 : (plc b (lastG V)).at_ + (plc b (lastG V)).en = b + 2 + 16 * (lastG V).at_ + (lastG V).en:=by
   unfold plc;simp only;omega
  rw [e0]
  by_cases hw : (writesF KB K 0 (b + 2 + 16 * (lastG V).at_ + (lastG V).en) D).1 = 0
  ·have hW : ¬ ((writesF KB K 0 (b + 2 + 16 * (lastG V).at_ + (lastG V).en) D).1 = 0 → False):=fun h => h hw
   rw [hw]
   simp only [not_true_eq_false,if_false]
   unfold mpA keepF
   simp only
   rw [if_pos ⟨hne.2 h3,by rw [lastG_map _ h3]⟩,List.map_set,List.length_map]
   rfl
  ·simp only [if_pos hw]
   rfl
theorem appendR_is (b m ag : Nat) (D : Dk) (V : List Sg) (hi : Nat) (t : Int) (bs : List Nat) (ha : Apt V) (hm : ∀ s ∈ V,s.at_ < m) : appendF b m ag D (V.map (plc b)) hi t bs = mpA b (appendRF b m ag D V hi t bs):=by
 unfold appendF appendRF
 by_cases h1 : shutE D ag ≠ 0
 ·rw [if_pos h1,if_pos h1];rfl
 rw [if_neg h1,if_neg h1]
 by_cases h2 : 400 < bs.length
 ·rw [if_pos h2,if_pos h2];rfl
 rw [if_neg h2,if_neg h2]
 by_cases h3 : t ≤ (hi : Int) ∨ 1099511627776 < t
 ·rw [if_pos h3,if_pos h3];rfl
 rw [if_neg h3,if_neg h3]
 exact appendRG_is b m D V hi t.toNat _ _ ha hm
structure Mrx (S : Nat → Prop) (w w' : World) (base : Nat) : Prop where
 low : Below base w w'
 block : ∀ k cs t fr,¬ S k → w.heap[k]? = some (.cells cs t fr) → t ≠ 66 → t ≠ 27 → t ≠ 101 → w'.heap[k]? = some (.cells cs t fr)
theorem Mrx.of_mr {S : Nat → Prop} {w w' : World} {base : Nat} (h : Mr w w' base) : Mrx S w w' base:=⟨h.low,fun k cs t fr _ h1 h2 h3 h4 => h.block k cs t fr h1 h2 h3 h4⟩
theorem Mrx.trans {S : Nat → Prop} {w w1 w2 : World} {base : Nat} (h : Mrx S w w1 base) (h2 : Mrx S w1 w2 base) : Mrx S w w2 base:=⟨h.low.trans h2.low,fun k cs t fr a1 a2 a3 a4 a5 => h2.block k cs t fr a1 (h.block k cs t fr a1 a2 a3 a4 a5) a3 a4 a5⟩
theorem Mrx.set {S : Nat → Prop} {w w' : World} {base : Nat} (h : Mrx S w w' base) {k : Nat} (hk : S k) (hb : base ≤ k) (i : Nat) (v : Value) : Mrx S w (w'.setCell ⟨k,i,none⟩ v) base :=
 ⟨h.low.setCell hb v,fun j cs t fr a1 a2 a3 a4 a5 => by
  rw [heap_setCell_other w' ⟨k,i,none⟩ j v (fun e => a1 (by have e' : j = k:=e;rw [e'];exact hk))]
  exact h.block j cs t fr a1 a2 a3 a4 a5⟩
theorem Mrx.mono {S S' : Nat → Prop} {w w' : World} {base : Nat} (h : Mrx S w w' base) (hs : ∀ k,k < w.heap.size → S k → S' k) : Mrx S' w w' base:=⟨h.low,fun k cs t fr a1 a2 a3 a4 a5 => h.block k cs t fr (fun h6 => a1 (hs k (heap_lt a2) h6)) a2 a3 a4 a5⟩
theorem Mrx.of_frm {S : Nat → Prop} {w w' : World} {base : Nat} (h : Frm S w w') (hB : base ≤ w.heap.size) (hs : ∀ k,S k → base ≤ k) : Mrx S w w' base:=⟨h.below hB hs,fun k cs t fr h3 h4 _ _ _ => by rw [h.block k (heap_lt h4) h3];exact h4⟩
theorem Mrx.of_below {S : Nat → Prop} {w w' : World} {base : Nat} (h : Below w.heap.size w w') (hb : base ≤ w.heap.size) : Mrx S w w' base:=Mrx.of_mr (Mr.of_below h hb)
theorem Bd.mrx {S : Nat → Prop} {w w' : World} {B n base : Nat} {a : Option Addr} {bs : List Nat} (h : Bd w B a n bs) (hm : Mrx S w w' base) (hs : ∀ k cs fr,w.heap[k]? = some (.cells cs 5 fr) → ¬ S k) : Bd w' B a n bs:=h.stays fun k cs fr hk => hm.block k cs _ fr (hs k cs fr hk) hk (by decide) (by decide) (by decide)
def AppendToldR (w : World) (base r q : Nat) (sv : Value) (gl b m ag : Nat) (uv : Value) (rel : Nat) (L : List Rc) (rv : Value) (t : Int) (bs : List Nat) (R : Int × Dk × List Sg × Nat × Bool) (e : Ending) (w' : World) : Prop :=
 e = .returned (.int .i64 R.1) ∧ Hid (∃ wv' SV' WV' uv' rv' L',LrG w' base r q sv wv' SV' WV' R.2.1 gl b m ag R.2.2.1 uv' R.2.2.2.1 rel L' rv' ∧ L'.map plR = (if R.2.2.2.2 = true then L.map plR ++ [(t.toNat,bs)] else L.map plR) ∧ Oon w uv uv' ∧ Oon w rv rv' ∧ ∀ x ∈ L',x ∈ L ∨ Bd w' w.heap.size x.a x.n x.bs) ∧ Hid (Mrx (fun k => k = gl ∨ some k = uv.ownBlock ∨ some k = rv.ownBlock) w w' base)
theorem LrG.last {w : World} {base r q : Nat} {sv wv : Value} {SV WV : List Value} {D : Dk} {gl b m ag : Nat} {V : List Sg} {gu n c : Nat} {hi rel : Nat} {L : List Rc} {rv : Value} (h : LrG w base r q sv wv SV WV D gl b m ag V (.slice (some ⟨gu,0,none⟩) n c) hi rel L rv) {V' : List Sg} {i : Nat} {v : Value} (hu : Rgs (w.setCell ⟨gu,i,none⟩ v) base (.slice (some ⟨gu,0,none⟩) n c) V') : LrG (w.setCell ⟨gu,i,none⟩ v) base r q sv wv SV WV D gl b m ag V' (.slice (some ⟨gu,0,none⟩) n c) hi rel L rv ∧ Frm (fun k => k = gu) w (w.setCell ⟨gu,i,none⟩ v):=by
 obtain ⟨cur,hk⟩:=h.used.blk
 have hf : Frm (fun k => k = gu) w (w.setCell ⟨gu,i,none⟩ v):=(Frm.refl (fun k => k = gu) w).set rfl i v
 have ht : ∀ (k : Nat) cs t fr,k = gu → w.heap[k]? = some (.cells cs t fr) → t = 106:=fun k cs t fr e h1 => by
  subst e
  have h3:=hk
  unfold Blk at h3
  rw [h1] at h3
  simp only [Option.some.injEq,Obj.cells.injEq] at h3
  exact h3.2.1
 refine ⟨⟨h.disk.frm hf (fun k cs t fr e h1 => by rw [ht k cs t fr e h1];decide),hf.blk h.log (blk_ne h.log hk (by decide)),hu,⟨own_stay h.recs.row (fun k hk2 => hf.block k (h.recs.row.lt k hk2).2 (fun e => ?_)),fun x hx => (h.recs.bd x hx).stays fun k cs fr h1 => ?_⟩,h.bl⟩,hf⟩
 ·subst e
  exact own_ne h.recs.row hk (by decide) hk2.symm
 ·rw [hf.block k (heap_lt h1) (fun e => absurd (ht k cs _ fr e h1) (by decide))]
  exact h1
end Go.Proofs.YtghajmcohdedlaaGreat
