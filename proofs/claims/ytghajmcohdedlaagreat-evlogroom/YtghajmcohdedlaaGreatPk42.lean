import Derived.Test.YtghajmcohdedlaaGreatPk41
namespace Go.Proofs.YtghajmcohdedlaaGreat
open Go.RowKit
set_option maxRecDepth 100000
def chopRG (b : Nat) (D : Dk) (V : List Sg) (rel t : Nat) : Int × Dk × List Sg × Nat :=
 if (freeR b t V D 0).2.2 ≠ 0 then ((freeR b t V D 0).2.2,(freeR b t V D 0).1,V,rel)
 else if 0 < (freeR b t V D 0).2.1 then (if syncE (freeR b t V D 0).1 ≠ 0 then (syncE (freeR b t V D 0).1,syncD (freeR b t V D 0).1,V,rel) else (0,syncD (freeR b t V D 0).1,keptR t V,t))
 else (0,(freeR b t V D 0).1,keptR t V,t)
def chopRF (b : Nat) (D : Dk) (ag : Nat) (V : List Sg) (hi rel : Nat) (t : Int) : Int × Dk × List Sg × Nat :=
 if shutE D ag ≠ 0 then (shutE D ag,D,V,rel) else if t < 0 ∨ (hi : Int) < t then (2,D,V,rel) else if t ≤ (rel : Int) then (0,D,V,rel) else if putCE D b 1 0 t ≠ 0 then (putCE D b 1 0 t,putCD D b 1 0 t,V,rel) else chopRG b (putCD D b 1 0 t) V rel t.toNat
def mpC (b : Nat) (R : Int × Dk × List Sg × Nat) : Int × Dk × List Sg × Nat:=(R.1,R.2.1,R.2.2.1.map (plc b),R.2.2.2)
theorem chopR_is (b : Nat) (D : Dk) (ag : Nat) (V : List Sg) (hi rel : Nat) (t : Int) : chopF b D ag (V.map (plc b)) hi rel t = mpC b (chopRF b D ag V hi rel t):=by
 unfold chopF chopRF
 by_cases h1 : shutE D ag ≠ 0
 ·rw [if_pos h1,if_pos h1];rfl
 rw [if_neg h1,if_neg h1]
 by_cases h2 : t < 0 ∨ (hi : Int) < t
 ·rw [if_pos h2,if_pos h2];rfl
 rw [if_neg h2,if_neg h2]
 by_cases h3 : t ≤ (rel : Int)
 ·rw [if_pos h3,if_pos h3];rfl
 rw [if_neg h3,if_neg h3]
 by_cases h4 : putCE D b 1 0 t ≠ 0
 ·rw [if_pos h4,if_pos h4];rfl
 rw [if_neg h4,if_neg h4]
 unfold chopG chopRG
 obtain ⟨i1,i2,i3⟩:=free_is b t.toNat V (putCD D b 1 0 t) [] 0
 rw [i1,i2]
 by_cases h5 : (freeR b t.toNat V (putCD D b 1 0 t) 0).2.2 ≠ 0
 ·rw [if_pos h5,if_pos h5];rfl
 rw [if_neg h5,if_neg h5]
 have h50 : (freeR b t.toNat V (putCD D b 1 0 t) 0).2.2 = 0:=Classical.not_not.1 h5
 have hk:=free_kept b t.toNat V (putCD D b 1 0 t) [] (by rw [i2];exact h50)
 have hln:=i3 h50
 rw [List.nil_append] at hk
 rw [hk] at hln ⊢
 rw [List.length_map,List.length_map]
 rw [List.length_map] at hln
 simp only [List.length_nil,Nat.zero_add,Nat.add_zero] at hln
 by_cases h6 : 0 < (freeR b t.toNat V (putCD D b 1 0 t) 0).2.1
 ·rw [if_pos h6,if_pos (show (keptR t.toNat V).length < V.length from by omega)]
  by_cases h7 : syncE (freeR b t.toNat V (putCD D b 1 0 t) 0).1 ≠ 0
  ·rw [if_pos h7,if_pos h7];rfl
  ·rw [if_neg h7,if_neg h7];rfl
 ·rw [if_neg h6,if_neg (show ¬ (keptR t.toNat V).length < V.length from by omega)]
  rfl
def ChopToldR (w : World) (base r q : Nat) (sv : Value) (gl b m ag : Nat) (uv : Value) (hi : Nat) (L : List Rc) (rv : Value) (R : Int × Dk × List Sg × Nat) (e : Ending) (w' : World) : Prop :=
 e = .returned (.int .i64 R.1) ∧ Hid (∃ wv' SV' WV' uv' rv',LrG w' base r q sv wv' SV' WV' R.2.1 gl b m ag R.2.2.1 uv' hi R.2.2.2 (keepR R.2.2.2 L) rv' ∧ Oon w uv uv' ∧ Oon w rv rv') ∧ Hid (Mrx (fun k => k = gl) w w' base)
set_option maxHeartbeats 32000000 in
theorem ref_ChopG (w : World) (base r q : Nat) (sv wv : Value) (SV WV : List Value) (D : Dk) (gl b m ag : Nat) (V : List Sg) (uv : Value) (hi rl : Nat) (L : List Rc) (rv : Value) (t : Int) (h : LrG w base r q sv wv SV WV D gl b m ag V uv hi rl L rv) (hq : q < w.heap.size) (hb : b ≤ 1000) (hu : V.length ≤ 16) (hV : ∀ s ∈ V,s.at_ ≤ 16) (hw : D.waits.length ≤ 800000000) (hfit : b + 2 * 1 ≤ D.sure.length) (hL : ∀ r ∈ L,rl < r.tick) (hl : L.length ≤ 100000) :
  Calls Tryz.prog 32 #[.pointer (some ⟨gl,0,none⟩),.int .i64 t] w fun e w' => ChopToldR w base r q sv gl b m ag uv hi L rv (chopRF b D ag V hi rl t) e w':=by
 obtain ⟨R,HR⟩ : ∃ R,Hid (R = chopRF b D ag V hi rl t):=⟨_,rfl⟩
 rw [← HR.out]
 have HG : Hid (LrG w base r q sv wv SV WV D gl b m ag V uv hi rl L rv):=h
 have HKA : Hid (keepR rl L = L):=keepR_all hL
 have HBP : Hid (base ≤ w.heap.size ∧ q < w.heap.size ∧ b ≤ 1000 ∧ V.length ≤ 16 ∧ (∀ s ∈ V,s.at_ ≤ 16) ∧ D.waits.length ≤ 800000000 ∧ b + 2 * 1 ≤ D.sure.length ∧ L.length ≤ 100000 ∧ base ≤ gl):=⟨h.sz,hq,hb,hu,hV,hw,hfit,hl,h.bl⟩
 obtain ⟨POST,HPO⟩ : ∃ P0 : Ending → World → Prop,Hid (P0 = fun e w' => ChopToldR w base r q sv gl b m ag uv hi L rv R e w'):=⟨_,rfl⟩
 have hpost : (fun e w' => ChopToldR w base r q sv gl b m ag uv hi L rv R e w') = fun e w' => POST e w':=HPO.out.symm
 rw [hpost]
 have HNO : Hid (∀ (er : Int) (w' : World) (wv' : Value) (SV' WV' : List Value) (D' : Dk),R = (er,D',V,rl) → LrG w' base r q sv wv' SV' WV' D' gl b m ag V uv hi rl L rv → Mr w w' base → POST (.returned (.int .i64 er)) w'):=fun er w' wv' SV' WV' D' hr hg hm => by
  rw [HPO.out,hr]
  exact ⟨rfl,⟨wv',SV',WV',uv,rv,by rw [HKA.out];exact hg,Oon.refl _ _,Oon.refl _ _⟩,Mrx.of_mr hm⟩
 obtain ⟨sh,HSH⟩ : ∃ sh,Hid (shutE D ag = sh):=⟨_,rfl⟩
 have HST:=ref_Bad11 w base r q sv wv SV WV D gl b m ag (hi : Int) (rl : Int) uv rv h.disk h.log
 rw [HSH.out] at HST
 have HUNF : Hid (R = (if sh ≠ 0 then (sh,D,V,rl) else if t < 0 ∨ (hi : Int) < t then (2,D,V,rl) else if t ≤ (rl : Int) then (0,D,V,rl) else if putCE D b 1 0 t ≠ 0 then (putCE D b 1 0 t,putCD D b 1 0 t,V,rl) else chopRG b (putCD D b 1 0 t) V rl t.toNat)):=by (show _ = _);rw [HR.out];unfold chopRF;rw [HSH.out]
 clear h hq hb hu hV hw hfit hL hl hpost
 go_enter Tryz.func32,Tryz.ntmps32
 go_wp2_with fail
 refine HST.mono ?_
 rintro e w1 ⟨rfl,hb1⟩
 have HG1 : Hid (LrG w1 base r q sv wv SV WV D gl b m ag V uv hi rl L rv):=HG.out.below hb1
 have HX1 : Hid (Below w.heap.size w w1):=hb1
 have HM1 : Hid (Mr w w1 base):=Mr.of_below hb1 HBP.out.1
 clear hb1 HST
 by_cases a1 : sh = 0
 case neg =>
  have e5 : (sh != 0) = true:=by rw [bne_iff_ne];exact a1
  have HX:=HNO.out sh w1 wv SV WV D (by rw [HUNF.out,if_pos a1]) HG1.out HM1.out
  go_wp2
  exact HX
 subst a1
 have c4 : w1.cell? ⟨gl,4,none⟩ = some (.int .i64 (hi : Int)):=Blk.cell HG1.out.log 4 rfl
 have c5 : w1.cell? ⟨gl,5,none⟩ = some (.int .i64 (rl : Int)):=Blk.cell HG1.out.log 5 rfl
 by_cases a2 : t < 0
 ·have HX:=HNO.out 2 w1 wv SV WV D (by rw [HUNF.out,if_neg (by simp),if_pos (.inl a2)]) HG1.out HM1.out
  have hd : decide (t < 0) = true:=decide_eq_true a2
  go_wp2
  exact HX
 have hd2 : decide (t < 0) = false:=decide_eq_false a2
 by_cases a3 : (hi : Int) < t
 ·have HX:=HNO.out 2 w1 wv SV WV D (by rw [HUNF.out,if_neg (by simp),if_pos (.inr a3)]) HG1.out HM1.out
  have hd : decide ((hi : Int) < t) = true:=decide_eq_true a3
  go_wp2
  exact HX
 have hd3 : decide ((hi : Int) < t) = false:=decide_eq_false a3
 by_cases a4 : t ≤ (rl : Int)
 ·have HX:=HNO.out 0 w1 wv SV WV D (by rw [HUNF.out,if_neg (by simp),if_neg (by omega),if_pos a4]) HG1.out HM1.out
  have hd : decide (t ≤ (rl : Int)) = true:=decide_eq_true a4
  go_wp2
  exact HX
 have hd4 : decide (t ≤ (rl : Int)) = false:=decide_eq_false a4
 obtain ⟨tn,rfl⟩ : ∃ tn : Nat,t = (tn : Int):=⟨t.toNat,by omega⟩
 have hd5 : decide (tn ≤ rl) = false:=decide_eq_false (by omega)
 have hd6 : decide (hi < tn) = false:=decide_eq_false (by omega)
 obtain ⟨pe,HPE⟩ : ∃ pe,Hid (putCE D b 1 0 (tn : Int) = pe):=⟨_,rfl⟩
 obtain ⟨D1,HD1⟩ : ∃ D1,Hid (putCD D b 1 0 (tn : Int) = D1):=⟨_,rfl⟩
 have HRC : Hid (R = if pe ≠ 0 then (pe,D1,V,rl) else chopRG b D1 V rl tn):=by
  (show _ = _)
  rw [HUNF.out,if_neg (by simp),if_neg (by omega),if_neg a4,HPE.out,HD1.out,Int.toNat_natCast]
 have HWD : Hid (D1.waits.length ≤ 800000001):=by
  (show _ ≤ _)
  rw [← HD1.out]
  have:=put_wl D b 1 0 (tn : Int)
  have:=HBP.out.2.2.2.2.2.1
  omega
 clear a2 a3 a4
 go_upto_region 8 with fail
 clear c4 c5 hd2 hd3 hd4 hd5 hd6
 have s0 : w1.cell? ⟨gl,0,none⟩ = some (.pointer (some ⟨r,0,none⟩)) ∧ w1.cell? ⟨gl,1,none⟩ = some (.int .i64 (b : Int)):=⟨Blk.cell HG1.out.log 0 rfl,Blk.cell HG1.out.log 1 rfl⟩
 have HXD : Hid (Below w1.heap.size w1 w1.drew):=(Below.refl _ _).drew
 have HOP:=ref_Open10 w1.drew base r q sv wv SV WV D b 1 (HG1.out.disk.stay HXD.out) (by omega) HBP.out.2.2.1 HBP.out.2.2.2.2.2.2.1
 go_region_held3 (fun w' => w'.cell? ⟨gl,0,none⟩ = some (.pointer (some ⟨r,0,none⟩)) ∧ w'.cell? ⟨gl,1,none⟩ = some (.int .i64 (b : Int))) (first | exact s0 | exact s3 | fail)
  (first
   | (go_at_call 65;refine HOP.mono ?_;rintro e w4 ⟨rfl,hc4,hb4⟩;have HX4 : Hid (Below w1.heap.size w1 w4):=HXD.out.trans (hb4.mono HXD.out.size);have HC4 : Hid (Cr w4 w1.drew.heap.size r b 1):=hc4;have HG4 : Hid (LrG w4 base r q sv wv SV WV D gl b m ag V uv hi rl L rv):=HG1.out.below HX4.out;have s3 : w4.cell? ⟨gl,0,none⟩ = some (.pointer (some ⟨r,0,none⟩)) ∧ w4.cell? ⟨gl,1,none⟩ = some (.int .i64 (b : Int)):=⟨Blk.cell HG4.out.log 0 rfl,Blk.cell HG4.out.log 1 rfl⟩;clear hc4 hb4))
 clear s0 s3 HOP
 have HXW4 : Hid (Below w.heap.size w w4):=HX1.out.trans (HX4.out.mono HX1.out.size)
 have HPT:=ref_PutC w4 base r q sv wv SV WV D w1.drew.heap.size b 1 0 (tn : Int) HG4.out.disk (Nat.lt_of_lt_of_le HBP.out.2.1 HXW4.out.size) HC4.out HBP.out.2.2.1 (by omega) HBP.out.2.2.2.2.2.2.1 (by have:=HBP.out.2.2.2.2.2.1;omega)
 rw [HPE.out,HD1.out] at HPT
 go_wp2_with fail
 refine HPT.mono ?_
 rintro e w5 ⟨rfl,hd5,hm5⟩
 obtain ⟨wv5,SV5,WV5,hk5⟩:=hd5.out
 have HG5 : Hid (LrG w5 base r q sv wv5 SV5 WV5 D1 gl b m ag V uv hi rl L rv):=HG4.out.mr hm5 hk5
 have HM5 : Hid (Mr w w5 base):=(Mr.of_below HXW4.out HBP.out.1).trans hm5
 clear hd5 hk5 hm5 HPT
 by_cases hpe : pe = 0
 case neg =>
  have e5 : (pe != 0) = true:=by rw [bne_iff_ne];exact hpe
  have HX:=HNO.out pe w5 wv5 SV5 WV5 D1 (by rw [HRC.out,if_pos hpe]) HG5.out HM5.out
  go_wp2
  exact HX
 subst hpe
 have HRD : Hid (R = chopRG b D1 V rl tn):=by (show _ = _);rw [HRC.out,if_neg (by simp)]
 have c6 : w5.cell? ⟨gl,6,none⟩ = some uv:=Blk.cell HG5.out.log 6 rfl
 obtain ⟨au,cu,hv⟩:=HG5.out.used.val
 have HUV : Hid (uv = .slice au V.length cu):=hv
 have HFR:=ref_free11 w5 base base r q sv wv5 SV5 WV5 D1 gl b m ag (hi : Int) (rl : Int) uv rv V uv tn HG5.out.disk (Nat.lt_of_lt_of_le HBP.out.2.1 HM5.out.low.size) HG5.out.log HG5.out.used (Nat.le_trans HBP.out.1 HM5.out.low.size) HBP.out.2.2.1 (fun s hs => by have:=HBP.out.2.2.2.2.1 s hs;omega) HBP.out.2.2.2.1 (by have:=HWD.out;omega)
 obtain ⟨⟨D2,nf,fe⟩,HF⟩ : ∃ F,Hid (freeR b tn V D1 0 = F):=⟨_,rfl⟩
 rw [HF.out] at HFR
 simp only at HFR
 have HRE : Hid (R = if fe ≠ 0 then (fe,D2,V,rl) else if 0 < nf then (if syncE D2 ≠ 0 then (syncE D2,syncD D2,V,rl) else (0,syncD D2,keptR tn V,tn)) else (0,D2,keptR tn V,tn)):=by (show _ = _);rw [HRD.out];unfold chopRG;rw [HF.out]
 rw [hv] at c6 HFR
 clear hv
 go_wp2_with fail
 refine HFR.mono ?_
 rintro e w6 ⟨rfl,hh6,hm6⟩
 obtain ⟨wv6,WV6,hd6,hl6,hu6⟩:=hh6.out
 have HG6 : Hid (LrG w6 base r q sv wv6 SV5 WV6 D2 gl b m ag V uv hi rl L rv):=HG5.out.mr hm6.out hd6
 have HM6 : Hid (Mr w w6 base):=HM5.out.trans hm6.out
 clear hh6 hd6 hl6 hu6 hm6 HFR c6
 by_cases hfe : fe = 0
 case neg =>
  have e5 : (fe != 0) = true:=by rw [bne_iff_ne];exact hfe
  have e6 : (fe == 0) = false:=by rw [beq_eq_false_iff_ne];exact hfe
  have HX:=HNO.out fe w6 wv6 SV5 WV6 D2 (by rw [HRE.out,if_pos hfe]) HG6.out HM6.out
  go_wp2
  exact HX
 subst hfe
 -- what is left is kept
 have HEND : Hid (∀ (w7 : World) (wv7 : Value) (SV7 WV7 : List Value) (D7 : Dk),R = (0,D7,keptR tn V,tn) → LrG w7 base r q sv wv7 SV7 WV7 D7 gl b m ag V uv hi rl L rv → Mr w w7 base → Calls Tryz.prog 68 #[.pointer (some ⟨gl,0,none⟩),.int .i64 (tn : Int)] w7 fun e w' => e = .returned (.tuple #[]) ∧ POST (.returned (.int .i64 0)) w'):=fun w7 wv7 SV7 WV7 D7 hr hg hm => by
  refine (ref_keepG w7 base r q sv wv7 SV7 WV7 D7 gl b m ag V uv hi rl L rv tn hg HBP.out.2.2.2.1 HBP.out.2.2.2.2.2.2.2.1).mono ?_
  rintro e w8 ⟨rfl,hh8,hf8⟩
  obtain ⟨uv8,rv8,hg8,hn8,hn9⟩:=hh8.out
  refine ⟨rfl,?_⟩
  rw [HPO.out,hr]
  exact ⟨rfl,⟨wv7,SV7,WV7,uv8,rv8,hg8,fun k hk => .inr (Nat.le_trans hm.low.size (hn8 k hk)),fun k hk => .inr (Nat.le_trans hm.low.size (hn9 k hk))⟩,(Mrx.of_mr hm).trans (Mrx.of_frm hf8.out (Nat.le_trans HBP.out.1 hm.low.size) (fun k hk => by rw [hk];exact HBP.out.2.2.2.2.2.2.2.2))⟩
 by_cases hnf : 0 < nf
 ·have d1 : decide ((0 : Int) < (nf : Int)) = true:=decide_eq_true (by omega)
  have d2 : (0 : Int) < (nf : Int):=by omega
  have d3 : decide (0 < nf) = true:=decide_eq_true hnf
  obtain ⟨se,HSE⟩ : ∃ se,Hid (syncE D2 = se):=⟨_,rfl⟩
  obtain ⟨D3,HD3⟩ : ∃ D3,Hid (syncD D2 = D3):=⟨_,rfl⟩
  have HRS : Hid (R = if se ≠ 0 then (se,D3,V,rl) else (0,D3,keptR tn V,tn)):=by (show _ = _);rw [HRE.out,if_neg (by simp),if_pos hnf,HSE.out,HD3.out]
  have c0 : w6.cell? ⟨gl,0,none⟩ = some (.pointer (some ⟨r,0,none⟩)):=Blk.cell HG6.out.log 0 rfl
  have HSN:=ref_Sync w6 base r q sv wv6 SV5 WV6 D2 HG6.out.disk (Nat.lt_of_lt_of_le HBP.out.2.1 HM6.out.low.size)
  rw [HSE.out,HD3.out] at HSN
  clear hnf
  go_wp2_with fail
  refine HSN.mono ?_
  rintro e w7 ⟨rfl,hd7,hm7⟩
  obtain ⟨wv7,SV7,WV7,hk7⟩:=hd7.out
  have HG7 : Hid (LrG w7 base r q sv wv7 SV7 WV7 D3 gl b m ag V uv hi rl L rv):=HG6.out.mr hm7 hk7
  have HM7 : Hid (Mr w w7 base):=HM6.out.trans hm7
  clear hd7 hm7 hk7 HSN c0
  by_cases hse : se = 0
  case neg =>
   have e5 : (se != 0) = true:=by rw [bne_iff_ne];exact hse
   have HX:=HNO.out se w7 wv7 SV7 WV7 D3 (by rw [HRS.out,if_pos hse]) HG7.out HM7.out
   go_wp2
   exact HX
  subst hse
  have HKP:=HEND.out w7 wv7 SV7 WV7 D3 (by rw [HRS.out,if_neg (by simp)]) HG7.out HM7.out
  go_wp2_with fail
  refine HKP.mono ?_
  rintro e w8 ⟨rfl,hp8⟩
  have HP8 : Hid (POST (.returned (.int .i64 0)) w8):=hp8
  clear hp8 HKP
  have HX:=HP8.out
  go_wp2
  exact HX
 ·have d1 : decide ((0 : Int) < (nf : Int)) = false:=decide_eq_false (by omega)
  have d2 : ¬ (0 : Int) < (nf : Int):=by omega
  have d3 : decide (0 < nf) = false:=decide_eq_false hnf
  have HKP:=HEND.out w6 wv6 SV5 WV6 D2 (by rw [HRE.out,if_neg (by simp),if_neg hnf]) HG6.out HM6.out
  clear hnf
  go_wp2_with fail
  refine HKP.mono ?_
  rintro e w8 ⟨rfl,hp8⟩
  have HP8 : Hid (POST (.returned (.int .i64 0)) w8):=hp8
  clear hp8 HKP
  have HX:=HP8.out
  go_wp2
  exact HX
end Go.Proofs.YtghajmcohdedlaaGreat

namespace Go.Proofs.YtghajmcohdedlaaGreat
open Go.RowKit
set_option maxRecDepth 100000
theorem evF_snoc (f t : Int) (l : List (Nat × List Nat)) (p : Nat × List Nat) : evF f t (l ++ [p]) = evF f t l ++ if f ≤ (p.1 : Int) ∧ (p.1 : Int) ≤ t then [p] else []:=by
 unfold evF
 rw [List.filter_append,List.filter_cons]
 by_cases h : f ≤ (p.1 : Int) ∧ (p.1 : Int) ≤ t
 ·rw [if_pos h];simp [h.1,h.2]
 ·rw [if_neg h]
  by_cases h1 : f ≤ (p.1 : Int)
  ·have h2 : ¬ (p.1 : Int) ≤ t:=fun h2 => h ⟨h1,h2⟩
   simp [h1,h2]
  ·simp [h1]
def EventsToldR (w' : World) (base n : Nat) (P : List (Nat × List Nat)) (e : Ending) : Prop:=∃ v L',e = .returned v ∧ L'.map plR = P ∧ Rcs w' base v L' ∧ L'.length ≤ n
set_option maxHeartbeats 16000000 in
theorem ref_EventsG (w : World) (base gl r b m ag : Nat) (hi rl : Int) (uv rv : Value) (L : List Rc) (f t : Int) (h : Lr w gl r b m ag hi rl uv rv) (hrc : Rcs w base rv L) (hbs : base ≤ w.heap.size) (hl : L.length ≤ 100000) :
  Calls Tryz.prog 22 #[.pointer (some ⟨gl,0,none⟩),.int .i64 f,.int .i64 t] w fun e w' => Hid (EventsToldR w' base L.length (evF f t (L.map plR)) e) ∧ Below w.heap.size w w':=by
 obtain ⟨ar,cr,hrv⟩:=hrc.val
 subst hrv
 have HR : Hid (Rcs w base (.slice ar L.length cr) L):=hrc
 obtain ⟨rn,HRN⟩ : ∃ N,Hid (N = L.length):=⟨_,rfl⟩
 have hN : rn ≤ 100000:=by rw [HRN.out];exact hl
 have HL : Hid (Lr w gl r b m ag hi rl uv (.slice ar rn cr)):=by (show Lr _ _ _ _ _ _ _ _ _ _);rw [HRN.out];exact h
 rw [← HRN.out] at HR
 have HBS : Hid (base ≤ w.heap.size):=hbs
 obtain ⟨W4,HW4⟩ : ∃ W4,Hid (W4 = w.alloc (.cells #[] 44)):=⟨_,rfl⟩
 have HX4 : Hid (Below w.heap.size w W4):=by (show Below _ _ _);rw [HW4.out];exact below_alloc _ _
 have HR4 : Hid (Rcs W4 base (.slice (some ⟨w.heap.size,0,none⟩) 0 0) []):=by
  (show Rcs _ _ _ _)
  rw [HW4.out]
  exact ⟨own_lower (own_emptyE w _ 2) hbs,fun r hr => by cases hr⟩
 have HN4 : Hid (NewOwn w (.slice (some ⟨w.heap.size,0,none⟩) 0 0)):=fun k hk => by simp only [Value.ownBlock,Option.some.injEq] at hk;omega
 rw [← HRN.out]
 clear h hrc hl hbs
 go_enter Tryz.func22,Tryz.ntmps22
 go_upto_region 2 with fail
 rw [← HW4.out]
 go_wp2_with fail
 go_loopw [7,8] (fun t6 t7 wr => ∃ (j : Nat) (M : List Rc) (a6 : Option Addr) (n6 c6 : Nat),j ≤ rn ∧ t6 = .slice a6 n6 c6 ∧ t7 = .int .i64 (j : Int) ∧ Hid (M.map plR = evF f t ((L.take j).map plR)) ∧ Hid (M.length ≤ j) ∧ Hid (Rcs wr base (.slice a6 n6 c6) M) ∧ Hid (NewOwn w (.slice a6 n6 c6)) ∧ Hid (Below w.heap.size w wr)) (fun _ t7 _ => 100001 - (intOf t7).toNat)
 case atStart => exact ⟨0,[],_,0,0,Nat.zero_le _,rfl,rfl,rfl,Nat.le_refl _,HR4,HN4,HX4⟩
 case round =>
  obtain ⟨j,M,a6,n6,c6,hj1,rfl,rfl,HME,HMI,HRM,HNW,HBr⟩:=hrel
  obtain ⟨w5,rfl⟩ : ∃ w5,w5 = wr:=⟨wr,rfl⟩
  have HLr : Hid (Lr w5 gl r b m ag hi rl uv (.slice ar rn cr)):=HL.out.stay HBr.out
  have c7 : w5.cell? ⟨gl,7,none⟩ = some (.slice ar rn cr):=Blk.cell HLr.out 7 rfl
  by_cases hlt : j < rn
  ·have hlt' : (j : Int) < (rn : Int):=by omega
   have g0 : (0 : Int) ≤ (j : Int):=by omega
   obtain ⟨x,hx⟩ : ∃ x,L[j]? = some x:=⟨_,List.getElem?_eq_getElem (by have:=HRN.out;omega)⟩
   obtain ⟨gr,c',hv',hgr,hrg⟩:=(HR.out.below HBr.out).at_ hx
   have ha : ar = some ⟨gr,0,none⟩:=by simp only [Value.slice.injEq] at hv';exact hv'.1
   subst ha
   have HBD : Hid (Bd w5 base x.a x.n x.bs):=(HR.out.below HBr.out).bd x (List.mem_of_getElem? hx)
   have HTK : Hid ((L.take (j + 1)).map plR = (L.take j).map plR ++ [(x.tick,x.bs)]):=by (show _ = _);rw [List.take_add_one,hx,List.map_append];rfl
   obtain ⟨tk,xa,xn,xc,xbs⟩:=x
   have HRG : Hid (w5.rangeAt gr (j * 2) [.int .i64 (tk : Int),.slice xa xn xc]):=hrg
   have x0 : w5.cell? ⟨gr,j * 2,none⟩ = some (.int .i64 (tk : Int)):=by have:=hrg 0 _ rfl;rwa [Nat.add_zero] at this
   clear hx hv' hgr hrg
   simp only at HBD HTK
   by_cases h1 : f ≤ (tk : Int)
   ·have d1 : decide (f ≤ (tk : Int)) = true:=decide_eq_true h1
    by_cases h2 : (tk : Int) ≤ t
    ·have d2 : decide ((tk : Int) ≤ t) = true:=decide_eq_true h2
     have HMN : Hid ((M ++ [(⟨tk,xa,xn,xc,xbs⟩ : Rc)]).map plR = evF f t ((L.take (j + 1)).map plR)):=by (show _ = _);rw [HTK.out,evF_snoc,if_pos ⟨h1,h2⟩,List.map_append,HME.out];rfl
     have HX5 : Hid (Blk (w5.alloc (.cells #[.int .i64 (tk : Int),.slice xa xn xc] 44)) w5.heap.size (rcc ⟨tk,xa,xn,xc,xbs⟩).toArray 44):=Blk.new _ _ _
     have HB5 : Hid (Below w5.heap.size w5 (w5.alloc (.cells #[.int .i64 (tk : Int),.slice xa xn xc] 44))):=below_alloc _ _
     have HML : Hid (M.length ≤ 1000000):=by have:=HMI.out;(show _ ≤ _);omega
     go_wp2_with (first | (guard_target =~ wpList _ _ _ (Oper.mk (some 56) _ _ _ _ _ :: _) _ _;refine wpList_load_mid rfl 44 (.tmp 55) rfl gr (j * 2) rfl [.int .i64 (tk : Int),.slice xa xn xc] _ HRG.out Tryz.underlying44 rfl (by rfl) ?_) | (guard_target =~ wpList _ _ _ (Oper.mk (some 58) _ _ _ _ _ :: _) _ _;refine wpList_append_rcA rfl (.tmp 48) (.tmp 57) rfl base _ M rfl (HRM.out.below HB5.out) w5.heap.size 1 ⟨tk,xa,xn,xc,xbs⟩ rfl HX5.out (HBD.out.kt (Kt.of_below HB5.out)) HML.out (Nat.le_trans (Nat.le_trans HBS.out HBr.out.size) HB5.out.size) ?_;intro v7 w7 hs7 hg7 hk7 ho7;revert hs7 hg7 hk7 ho7))
     intro hs7 hg7 hk7 ho7
     have HB7 : Hid (Below w.heap.size w w7):=(HBr.out.trans (HB5.out.mono HBr.out.size)).grown hg7 (Nat.le_trans HBr.out.size HB5.out.size) (fun j hj => HNW.out j hj)
     obtain ⟨a7,c7',hv7⟩:=hs7.val
     subst hv7
     have HN7 : Hid (NewOwn w (.slice a7 (M ++ [(⟨tk,xa,xn,xc,xbs⟩ : Rc)]).length c7')):=HNW.out.oon (Nat.le_trans HBr.out.size HB5.out.size) ho7
     have HR7 : Hid (Rcs w7 base (.slice a7 (M ++ [(⟨tk,xa,xn,xc,xbs⟩ : Rc)]).length c7') (M ++ [⟨tk,xa,xn,xc,xbs⟩])):=hs7
     have HLN : Hid ((M ++ [(⟨tk,xa,xn,xc,xbs⟩ : Rc)]).length ≤ j + 1):=by have:=HMI.out;(show (M ++ [_]).length ≤ _);rw [List.length_append];(show M.length + 1 ≤ _);omega
     clear hs7 hg7 hk7 ho7 c7 x0 d1 d2
     go_wp2
     go_roundw
     case rel => exact ⟨j + 1,M ++ [⟨tk,xa,xn,xc,xbs⟩],a7,_,c7',by omega,rfl,by go_num,HMN,HLN,HR7,HN7,HB7⟩
     case measure => simp [intOf];omega
    ·have d2 : decide ((tk : Int) ≤ t) = false:=decide_eq_false h2
     have HMN : Hid (M.map plR = evF f t ((L.take (j + 1)).map plR)):=by (show _ = _);rw [HTK.out,evF_snoc,if_neg (fun hh => h2 hh.2),List.append_nil,HME.out]
     go_wp2
     go_roundw
     case rel => exact ⟨j + 1,M,a6,n6,c6,by omega,rfl,by go_num,HMN,by have:=HMI.out;(show _ ≤ _);omega,HRM,HNW,HBr⟩
     case measure => simp [intOf];omega
   ·have d1 : decide (f ≤ (tk : Int)) = false:=decide_eq_false h1
    have HMN : Hid (M.map plR = evF f t ((L.take (j + 1)).map plR)):=by (show _ = _);rw [HTK.out,evF_snoc,if_neg (fun hh => h1 hh.1),List.append_nil,HME.out]
    go_wp2
    go_roundw
    case rel => exact ⟨j + 1,M,a6,n6,c6,by omega,rfl,by go_num,HMN,by have:=HMI.out;(show _ ≤ _);omega,HRM,HNW,HBr⟩
    case measure => simp [intOf];omega
  ·have hlt' : ¬ (j : Int) < (rn : Int):=by omega
   have HMN : Hid (M.map plR = evF f t (L.map plR)):=by (show _ = _);rw [HME.out,List.take_of_length_le (by have:=HRN.out;omega)]
   have HFIN : Hid (EventsToldR w5 base rn (evF f t (L.map plR)) (.returned (.slice a6 n6 c6))):=⟨_,M,rfl,HMN.out,HRM.out,by have:=HMI.out;omega⟩
   go_wp2
   go_returns
   exact ⟨HFIN,HBr.out⟩
end Go.Proofs.YtghajmcohdedlaaGreat
