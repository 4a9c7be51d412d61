import Derived.Test.YtghajmcohdedlaaGreatEvT2
namespace Go.Proofs.YtghajmcohdedlaaGreat
open Go.RowKit
set_option maxRecDepth 100000
theorem take_ok {p : List Nat} {i : Nat} (h : i + 8 ≤ p.length) : ∃ v : Int,KeyM.take p (i : Int) = (v,i + 8,0):=by
 unfold KeyM.take
 rw [if_neg (by omega),if_neg (by omega)]
 exact ⟨_,rfl⟩
theorem headP_not {p : List Nat} (h : p.length ≠ 16) : headP p = (0,0,false):=by
 unfold headP
 refine if_pos ?_
 by_cases h1 : p.length < 8
 ·have e : KeyM.take p 0 = (0,0,3):=by unfold KeyM.take;rw [if_neg (by omega),if_pos (by omega)]
  rw [e]
  left
  simp only
  have e2 : KeyM.take p ((0 : Nat) : Int) = (0,0,3):=e
  rw [e2]
  simp
 ·obtain ⟨v,e⟩:=take_ok (p:=p) (i:=0) (by omega)
  have e' : KeyM.take p 0 = (v,8,0):=e
  rw [e']
  simp only
  by_cases h2 : p.length < 16
  ·have e2 : KeyM.take p ((8 : Nat) : Int) = (0,0,3):=by unfold KeyM.take;rw [if_neg (by omega),if_pos (by omega)]
   rw [e2]
   left
   simp
  ·obtain ⟨v2,e2⟩:=take_ok (p:=p) (i:=8) (by omega)
   rw [e2]
   right
   show 16 ≠ p.length
   omega
theorem headP_16 {p : List Nat} (h : p.length = 16) : ∃ n t : Int,KeyM.take p 0 = (n,8,0) ∧ KeyM.take p 8 = (t,16,0) ∧ headP p = (if n < 1 ∨ 4611686018427387904 < n ∨ t < 0 ∨ 1099511627776 < t then (0,0,false) else (n,t,true)):=by
 obtain ⟨n,e1⟩:=take_ok (p:=p) (i:=0) (by omega)
 obtain ⟨t,e2⟩:=take_ok (p:=p) (i:=8) (by omega)
 have e1' : KeyM.take p 0 = (n,8,0):=e1
 refine ⟨n,t,e1',e2,?_⟩
 unfold headP
 rw [e1']
 simp only
 rw [e2]
 simp only
 rw [if_neg (by rw [h];simp)]
def HeadTold (e : Ending) (r : Int × Int × Bool) : Prop:=∃ n t : Int,e = .returned (.tuple #[.int .i64 n,.int .i64 t,.bool r.2.2]) ∧ (r.2.2 = true → n = r.1 ∧ t = r.2.1)
set_option maxHeartbeats 8000000 in
theorem ref_header (w : World) (base r q : Nat) (sv wv : Value) (SV WV : List Value) (D : Dk) (gl b m ag : Nat) (hi rel : Int) (uv rv : Value) (pos : Nat) (hd : Rk w base r q sv wv SV WV D) (h : Lr w gl r b m ag hi rel uv rv) (hb : b ≤ 1000) (hp : pos ≤ 1000) (hre : readE D ((b + 2 + 16 * pos + 0 : Nat) : Int) = 0) :
  Calls Tryz.prog 96 #[.pointer (some ⟨gl,0,none⟩),.int .i64 (pos : Int)] w fun e w' => Hid (HeadTold e (headE (nowB D (b + 2 + 16 * pos + 0)))) ∧ Below w.heap.size w w':=by
 have HS:=ref_sector11 w base r q sv wv SV WV D gl b m ag hi rel uv rv pos 0 hd h hb hp (by omega) hre
 obtain ⟨s,HSS⟩ : ∃ s,Hid (nowB D (b + 2 + 16 * pos + 0) = s):=⟨_,rfl⟩
 rw [HSS.out] at HS ⊢
 have HNO : Hid ((headE s).2.2 = false → HeadTold (.returned (.tuple #[.int .i64 0,.int .i64 0,.bool false])) (headE s)):=fun hh => ⟨0,0,by rw [hh],fun h2 => by rw [hh] at h2;cases h2⟩
 clear hd h hre
 go_enter Tryz.func96,Tryz.ntmps96
 go_wp2_with fail
 refine HS.mono ?_
 rintro e w1 ⟨ht1,hb1⟩
 obtain ⟨a1,c1,rfl,hr1,hc1⟩:=ht1.out
 have HG:=ref_Good w1 a1 64 c1 s hr1 (fun _ => hc1)
 have HB1 : Hid (Below w.heap.size w w1):=hb1
 clear ht1 hr1 hc1 hb1 HS
 go_wp2_with fail
 refine HG.mono ?_
 rintro e w2 ⟨ht2,hb2⟩
 obtain ⟨a2,n2,c2,rfl,hr2,hn2,_,hc2⟩:=ht2.out
 have HB2 : Hid (Below w.heap.size w w2):=HB1.out.trans (hb2.mono HB1.out.size)
 obtain ⟨kd,HKD⟩ : ∃ kd : Nat,Hid ((if goodE s = true then s.getD 1 0 else 0) = kd):=⟨_,rfl⟩
 obtain ⟨ls,HLS⟩ : ∃ ls,Hid ((goodE s && lastE s) = ls):=⟨_,rfl⟩
 rw [HKD.out,HLS.out]
 have HR2 : Hid (Rd w2 a2 n2 (if goodE s = true then payE s else []) ∧ n2 ≤ 59 ∧ n2 ≤ c2):=⟨hr2,hn2,hc2⟩
 clear ht2 hb2 HG hr2 hn2 hc2
 by_cases h1 : kd = 1
 case neg =>
  have k1 : ((kd : Int) != 1) = true:=by rw [bne_iff_ne];omega
  have HX:=HNO.out (by
   unfold headE
   rw [if_neg]
   rintro ⟨g1,g2,_⟩
   have h2:=HKD.out
   rw [if_pos g1,g2] at h2
   exact h1 h2.symm)
  go_wp2
  go_returns
  exact ⟨HX,HB2.out⟩
 have HGD : Hid (goodE s = true ∧ s.getD 1 0 = 1):=by
  have h2:=HKD.out
  by_cases hg : goodE s = true
  ·rw [if_pos hg,h1] at h2;exact ⟨hg,h2⟩
  ·rw [if_neg hg,h1] at h2;omega
 subst h1
 cases ls with
 | false =>
  have HX:=HNO.out (by
   unfold headE
   rw [if_neg]
   rintro ⟨g1,_,g3⟩
   have h2:=HLS.out
   rw [g1,g3] at h2
   cases h2)
  go_wp2
  go_returns
  exact ⟨HX,HB2.out⟩
 | true =>
  have HLT : Hid (lastE s = true):=by (show _ = _);have h2:=HLS.out;rw [HGD.out.1] at h2;simpa using h2
  have HE : Hid (headE s = headP (payE s)):=by (show _ = _);unfold headE;rw [if_pos ⟨HGD.out.1,HGD.out.2,HLT.out⟩]
  have HRP : Hid (Rd w2 a2 n2 (payE s)):=by have h2:=HR2.out.1;rw [if_pos HGD.out.1] at h2;exact h2
  by_cases h16 : n2 = 16
  case neg =>
   have k1 : ((n2 : Int) != 16) = true:=by rw [bne_iff_ne];omega
   have HX:=HNO.out (by rw [HE.out,headP_not (by rw [HRP.out.size];exact h16)])
   go_wp2
   go_returns
   exact ⟨HX,HB2.out⟩
  subst h16
  obtain ⟨n,t,ht0,ht8,hhp⟩:=headP_16 HRP.out.size
  have HT0:=ref_TakeKey a2 16 c2 (payE s) 0 w2 HRP.out HR2.out.2.2 (by omega) (by omega)
  have HHP : Hid (headE s = (if n < 1 ∨ 4611686018427387904 < n ∨ t < 0 ∨ 1099511627776 < t then (0,0,false) else (n,t,true))):=by (show _ = _);rw [HE.out,hhp]
  have HT8E : Hid (KeyM.take (payE s) 8 = (t,16,0)):=ht8
  rw [ht0] at HT0
  clear ht0 ht8 hhp
  go_wp2_with fail
  refine HT0.mono ?_
  rintro e w3 ⟨rfl,hw3⟩
  subst w3
  have HT8:=ref_TakeKey a2 16 c2 (payE s) 8 w2 HRP.out HR2.out.2.2 (by omega) (by omega)
  rw [HT8E.out] at HT8
  simp only [toldK]
  clear HT0
  go_wp2_with fail
  refine HT8.mono ?_
  rintro e w3 ⟨rfl,hw3⟩
  subst w3
  simp only [toldK]
  clear HT8
  by_cases hbad : n < 1 ∨ 4611686018427387904 < n ∨ t < 0 ∨ 1099511627776 < t
  ·have HX : HeadTold (.returned (.tuple #[.int .i64 n,.int .i64 t,.bool false])) (headE s):=by rw [HHP.out,if_pos hbad];exact ⟨n,t,rfl,fun h => by cases h⟩
   by_cases g1 : n < 1
   ·have d1 : decide ((1 : Int) ≤ n) = false:=decide_eq_false (by omega)
    clear hbad
    go_wp2
    go_returns
    exact ⟨HX,HB2.out⟩
   ·have d1 : decide ((1 : Int) ≤ n) = true:=decide_eq_true (by omega)
    by_cases g2 : 4611686018427387904 < n
    ·have d2 : decide (n ≤ (4611686018427387904 : Int)) = false:=decide_eq_false (by omega)
     clear hbad
     go_wp2
     go_returns
     exact ⟨HX,HB2.out⟩
    ·have d2 : decide (n ≤ (4611686018427387904 : Int)) = true:=decide_eq_true (by omega)
     by_cases g3 : t < 0
     ·have d3 : decide ((0 : Int) ≤ t) = false:=decide_eq_false (by omega)
      clear hbad
      go_wp2
      go_returns
      exact ⟨HX,HB2.out⟩
     ·have d3 : decide ((0 : Int) ≤ t) = true:=decide_eq_true (by omega)
      have d4 : decide (t ≤ (1099511627776 : Int)) = false:=decide_eq_false (by omega)
      clear hbad
      go_wp2
      go_returns
      exact ⟨HX,HB2.out⟩
  ·have HX : HeadTold (.returned (.tuple #[.int .i64 n,.int .i64 t,.bool true])) (headE s):=by rw [HHP.out,if_neg hbad];exact ⟨n,t,rfl,fun _ => ⟨rfl,rfl⟩⟩
   have d1 : decide ((1 : Int) ≤ n) = true:=decide_eq_true (by omega)
   have d2 : decide (n ≤ (4611686018427387904 : Int)) = true:=decide_eq_true (by omega)
   have d3 : decide ((0 : Int) ≤ t) = true:=decide_eq_true (by omega)
   have d4 : decide (t ≤ (1099511627776 : Int)) = true:=decide_eq_true (by omega)
   clear hbad
   go_wp2
   go_returns
   exact ⟨HX,HB2.out⟩
end Go.Proofs.YtghajmcohdedlaaGreat

namespace Go.Proofs.YtghajmcohdedlaaGreat
open Go.RowKit
set_option maxRecDepth 100000
def recOf : Option (List Nat × Nat) → Option (Int × List Nat × Nat)
 | none => none
 | some (all,e) => if all.length < 8 then none else some ((KeyM.take all 0).1,all.drop 8,e)
theorem recOf_some (all : List Nat) (e : Nat) : recOf (some (all,e)) = if all.length < 8 then none else some ((KeyM.take all 0).1,all.drop 8,e):=rfl
def recF (D : Dk) (at_ i : Nat) : Option (Int × List Nat × Nat):=recOf (gatherL D at_ (16 - i) i 2 [])
def kdOf (i k : Nat) : Nat:=if k = i then 2 else 3
def RecTold (w : World) (B : Nat) (e : Ending) (r : Option (Int × List Nat × Nat)) : Prop :=
 (r = none ∧ e = .returned (.tuple #[.agg #[.int .i64 0,.slice none 0 0],.int .i64 0,.bool false])) ∨ ∃ v bs en a n c,r = some (v,bs,en) ∧ e = .returned (.tuple #[.agg #[.int .i64 v,.slice a n c],.int .i64 ((en : Nat) : Int),.bool (decide (v ≤ 1099511627776))]) ∧ Bd w B a n bs ∧ n ≤ 944 ∧ en ≤ 16
theorem infoRec11 : (Tryz.prog.info? 44).map (·.size) = some 2:=by kernel_rfl
theorem results_record11 {w : World} {tmps : Array Value} {g : Nat} {cs : List Value} {v v' : Value} (h2 : tmps[6]?.getD undef = .pointer (some ⟨g,0,none⟩)) (h3 : tmps[7]?.getD undef = v) (h4 : tmps[8]?.getD undef = v') (k : Blk w g cs.toArray 44) (hl : cs.length = 2) : (results Tryz.f97 tmps).run Tryz.prog w = .ok (.tuple #[.agg cs.toArray,v,v']) w:=by
 have hr:=run_loadVar_mid (P:=Tryz.prog) w g 0 44 cs _ (k.range 0 cs (fun j v hj => by simpa using hj)) Tryz.underlying44 rfl (by rw [hl];exact infoRec11)
 simp [results,Tryz.results97,h2,h3,h4,hr,asAddr]
set_option maxHeartbeats 16000000 in
theorem ref_record (w : World) (base r q : Nat) (sv wv : Value) (SV WV : List Value) (D : Dk) (gl b m ag : Nat) (hi rel : Int) (uv rv : Value) (pos i : Nat) (hd : Rk w base r q sv wv SV WV D) (h : Lr w gl r b m ag hi rel uv rv) (hb : b ≤ 1000) (hp : pos ≤ 1000) (hi16 : i ≤ 16) (hre : ∀ j : Nat,j < 16 → readE D ((b + 2 + 16 * pos + j : Nat) : Int) = 0) :
  Calls Tryz.prog 97 #[.pointer (some ⟨gl,0,none⟩),.int .i64 (pos : Int),.int .i64 (i : Int)] w fun e w' => Hid (RecTold w' w.heap.size e (recF D (b + 2 + 16 * pos) i)) ∧ Below w.heap.size w w':=by
 obtain ⟨at_,HAT⟩ : ∃ at_,Hid (b + 2 + 16 * pos = at_):=⟨_,rfl⟩
 obtain ⟨R,HR⟩ : ∃ R,Hid (recF D at_ i = R):=⟨_,rfl⟩
 rw [HAT.out,HR.out]
 have HRE : Hid (∀ j : Nat,j < 16 → readE D ((b + 2 + 16 * pos + j : Nat) : Int) = 0):=hre
 have HSEC : Hid (∀ w',Below w.heap.size w w' → ∀ j : Nat,j < 16 → Calls Tryz.prog 99 #[.pointer (some ⟨gl,0,none⟩),.int .i64 (pos : Int),.int .i64 (j : Int)] w' fun e w'' => Hid (∃ a c,e = .returned (.slice a 64 c) ∧ Rd w'' a 64 (tellE D (at_ + j)) ∧ 64 ≤ c) ∧ Below w'.heap.size w' w''):=fun w' hbw j hj => by
  have:=ref_sector11 w' base r q sv wv SV WV D gl b m ag hi rel uv rv pos j (hd.stay hbw) (h.stay hbw) hb hp (by omega) (HRE.out j hj)
  rw [show tellE D (at_ + j) = nowB D (b + 2 + 16 * pos + j) from by unfold tellE;rw [← HAT.out,HRE.out j hj,if_pos rfl]]
  exact this
 have HNO : Hid (R = none → ∀ w' rb,Blk w' rb #[.int .i64 0,.slice none 0 0] 44 → RecTold w' w.heap.size (.returned (.tuple #[.agg #[.int .i64 0,.slice none 0 0],.int .i64 0,.bool false])) R):=fun hr _ _ _ => .inl ⟨hr,rfl⟩
 obtain ⟨rb,HRB⟩ : ∃ rb,Hid (rb = w.heap.size):=⟨_,rfl⟩
 obtain ⟨W1,HW1⟩ : ∃ W,Hid (W = w.alloc (.cells #[.int .i64 0,.slice none 0 0] 44)):=⟨_,rfl⟩
 have HB1 : Hid (Below w.heap.size w W1):=by (show Below _ _ _);rw [HW1.out];exact below_alloc _ _
 have HK1 : Hid (Blk W1 rb #[.int .i64 0,.slice none 0 0] 44):=by (show Blk _ _ _ _);rw [HW1.out,HRB.out];exact Blk.new _ _ _
 obtain ⟨ab,HAB⟩ : ∃ ab,Hid (ab = W1.heap.size):=⟨_,rfl⟩
 obtain ⟨W2,HW2⟩ : ∃ W,Hid (W = W1.alloc (.cells #[] 5)):=⟨_,rfl⟩
 have HB2 : Hid (Below w.heap.size w W2):=by (show Below _ _ _);rw [HW2.out];exact HB1.out.trans ((below_alloc _ _).mono HB1.out.size)
 have HK2 : Hid (Blk W2 rb #[.int .i64 0,.slice none 0 0] 44):=by (show Blk _ _ _ _);rw [HW2.out];exact HK1.out.stay (below_alloc _ _)
 have HO2 : Hid (Own W2 W1.heap.size (some ⟨ab,0,none⟩) 0 0 []):=by (show Own _ _ _ _ _ _);rw [HW2.out,HAB.out];exact Own.empty W1
 have HBW2 : Hid (Below W1.heap.size W1 W2):=by (show Below _ _ _);rw [HW2.out];exact below_alloc _ _
 have HG0 : Hid (R = recOf (gatherL D at_ (16 - i) i (kdOf i i) [])):=by (show _ = _);rw [← HR.out];unfold kdOf;rw [if_pos rfl];rfl
 have hi0 : i ≤ 16:=hi16
 clear hd h hre hb hp hi16
 go_enter Tryz.func97,Tryz.ntmps97
 go_upto_region 1 with fail
 rw [← HW1.out,← HRB.out]
 go_upto_region 2 with fail
 rw [← HW2.out,← HAB.out]
 go_wp2_with fail
 go_loopw [7,8,9,10,11,12,13,14,15,16] (fun _ _ t9 t10 _ _ _ _ _ _ wr => ∃ (k : Nat) (all : List Nat) (a9 : Option Addr) (n9 c9 : Nat),i ≤ k ∧ k ≤ 16 ∧ t9 = .slice a9 n9 c9 ∧ t10 = .int .i64 (k : Int) ∧ Hid (R = recOf (gatherL D at_ (16 - k) k (kdOf i k) all)) ∧ Hid (all.length ≤ 59 * k) ∧ Hid (Own wr W1.heap.size a9 n9 c9 all) ∧ Hid (Below W1.heap.size W1 wr)) (fun _ _ _ t10 _ _ _ _ _ _ _ => 16 - (intOf t10).toNat)
 case atStart => exact ⟨i,[],_,_,_,Nat.le_refl _,hi0,rfl,rfl,HG0,Nat.zero_le _,HO2,HBW2⟩
 case round =>
  obtain ⟨k,all,a9,n9,c9,hk1,hk2,rfl,rfl,HGA,HAL,HO,HB⟩:=hrel
  obtain ⟨w3,rfl⟩ : ∃ w3,w3 = wr:=⟨wr,rfl⟩
  have HBW : Hid (Below w.heap.size w w3):=HB1.out.trans (HB.out.mono HB1.out.size)
  by_cases hlt : k < 16
  ·have hlt' : (k : Int) < 16:=by omega
   obtain ⟨s,HS⟩ : ∃ s,Hid (tellE D (at_ + k) = s):=⟨_,rfl⟩
   have HSC:=HSEC.out w3 HBW.out k hlt
   rw [HS.out] at HSC
   have HGB : Hid (R = recOf (if goodE s = true ∧ s.getD 1 0 = kdOf i k then (if lastE s = true then some (all ++ payE s,k + 1) else gatherL D at_ (16 - (k + 1)) (k + 1) 3 (all ++ payE s)) else none)):=by
    have h1:=HGA.out
    rw [show 16 - k = (16 - (k + 1)) + 1 from by omega,gatherL,HS.out] at h1
    exact h1
   go_wp2_with fail
   refine HSC.mono ?_
   rintro e w4 ⟨ht4,hb4⟩
   obtain ⟨a4,c4,rfl,hr4,hc4⟩:=ht4.out
   have HX4 : Hid (Below W1.heap.size W1 w4):=HB.out.trans (hb4.mono HB.out.size)
   have HO4 : Hid (Own w4 W1.heap.size a9 n9 c9 all):=HO.out.below hb4
   have HGO:=ref_Good w4 a4 64 c4 s hr4 (fun _ => hc4)
   clear ht4 hb4 hr4 hc4 HSC
   go_wp2_with fail
   refine HGO.mono ?_
   rintro e w5 ⟨ht5,hb5⟩
   obtain ⟨a5,n5,c5,rfl,hr5,hn5,hnn5,hc5⟩:=ht5.out
   have HX5 : Hid (Below W1.heap.size W1 w5):=HX4.out.trans (hb5.mono HX4.out.size)
   have HO5 : Hid (Own w5 W1.heap.size a9 n9 c9 all):=HO4.out.below hb5
   have HK5 : Hid (Blk w5 rb #[.int .i64 0,.slice none 0 0] 44):=HK1.out.stay HX5.out
   have HBW5 : Hid (Below w.heap.size w w5):=HB1.out.trans (HX5.out.mono HB1.out.size)
   obtain ⟨kd,HKD⟩ : ∃ kd : Nat,Hid ((if goodE s = true then s.getD 1 0 else 0) = kd):=⟨_,rfl⟩
   obtain ⟨ls,HLS⟩ : ∃ ls,Hid ((goodE s && lastE s) = ls):=⟨_,rfl⟩
   rw [HKD.out,HLS.out]
   have HR5 : Hid (Rd w5 a5 n5 (if goodE s = true then payE s else []) ∧ n5 ≤ 59 ∧ n5 ≤ c5 ∧ (a5 = none → c5 = 0)):=⟨hr5,hn5,hc5,hnn5⟩
   clear ht5 hb5 HGO hr5 hn5 hc5 hnn5
   by_cases hkd : kd = kdOf i k
   case neg =>
    have HRN : Hid (R = none):=by
     have h1:=HGB.out
     rw [if_neg (by
      rintro ⟨g1,g2⟩
      have h2:=HKD.out
      rw [if_pos g1,g2] at h2
      exact hkd h2.symm)] at h1
     exact h1
    have HX:=HNO.out HRN.out
    have k0 : w5.cell? ⟨rb,0,none⟩ = some (.int .i64 0):=HK5.out.cell 0 rfl
    have k1 : w5.cell? ⟨rb,1,none⟩ = some (.slice none 0 0):=HK5.out.cell 1 rfl
    have f0:=HK5.out.free 0
    have f1:=HK5.out.free 1
    by_cases hki : k = i
    ·subst hki
     have m1 : ((kd : Int) != 2) = true:=by rw [bne_iff_ne];unfold kdOf at hkd;rw [if_pos rfl] at hkd;omega
     clear hkd
     go_wp2
     refine bodyPost_ret (results_record11 (cs:=[.int .i64 0,.slice none 0 0]) (by rfl) (by rfl) (by rfl) ((HK5.out.set 0 _).set 1 _) rfl) rfl ?_
     exact ⟨.inl ⟨HRN.out,rfl⟩,(HBW5.out.setCell (Nat.le_of_eq HRB.out.symm) _).setCell (Nat.le_of_eq HRB.out.symm) _⟩
    ·have m0 : ((k : Int) == (i : Int)) = false:=by rw [beq_eq_false_iff_ne];omega
     have m2 : (i : Int) < (k : Int):=by omega
     have m3 : decide ((i : Int) < (k : Int)) = true:=decide_eq_true m2
     have m4 : decide (i < k) = true:=decide_eq_true (by omega)
     have m1 : ((kd : Int) != 3) = true:=by rw [bne_iff_ne];unfold kdOf at hkd;rw [if_neg hki] at hkd;omega
     clear hkd hki m2
     go_wp2
     refine bodyPost_ret (results_record11 (cs:=[.int .i64 0,.slice none 0 0]) (by rfl) (by rfl) (by rfl) ((HK5.out.set 0 _).set 1 _) rfl) rfl ?_
     exact ⟨.inl ⟨HRN.out,rfl⟩,(HBW5.out.setCell (Nat.le_of_eq HRB.out.symm) _).setCell (Nat.le_of_eq HRB.out.symm) _⟩
   have HGD : Hid (goodE s = true ∧ s.getD 1 0 = kdOf i k):=by
    have h2:=HKD.out
    by_cases hg : goodE s = true
    ·rw [if_pos hg,hkd] at h2;exact ⟨hg,h2⟩
    ·rw [if_neg hg,hkd] at h2;unfold kdOf at h2;split at h2 <;> omega
   have HRP : Hid (Rd w5 a5 n5 (payE s)):=by have h2:=HR5.out.1;rw [if_pos HGD.out.1] at h2;exact h2
   have HNL : Hid (n9 + n5 ≤ 140737488355328):=by have h1:=HAL.out;have h2:=HO5.out.size;have h3:=HR5.out.2.1;(show _ ≤ _);omega
   by_cases hki : k = i
   ·obtain rfl : kd = 2:=by rw [hkd];unfold kdOf;rw [if_pos hki]
    have m0 : ((k : Int) == (i : Int)) = true:=by rw [beq_iff_eq];omega
    have m3 : decide ((i : Int) < (k : Int)) = false:=decide_eq_false (by omega)
    have m4 : decide (i < k) = false:=decide_eq_false (by omega)
    clear hkd hki
    go_wp2_with (guard_target =~ wpList _ _ _ (Oper.mk (some 51) _ _ _ _ _ :: _) _ _;refine wpList_append_rd rfl (.tmp 49) (.tmp 50) rfl W1.heap.size a9 n9 c9 all rfl HO5.out a5 n5 c5 (payE s) rfl HRP.out HR5.out.2.2.2 HNL.out HX5.out.size ?_)
    intro a6 c6 w6 ho6 hg6 hb6
    obtain ⟨n6,HN6⟩ : ∃ n6,Hid (n9 + n5 = n6):=⟨_,rfl⟩
    rw [HN6.out] at ho6 ⊢
    obtain ⟨al6,HA6⟩ : ∃ al6,Hid (all ++ payE s = al6):=⟨_,rfl⟩
    rw [HA6.out] at ho6
    have HX6 : Hid (Below W1.heap.size W1 w6):=HX5.out.trans hb6
    have HO6 : Hid (Own w6 W1.heap.size a6 n6 c6 al6):=ho6
    have HK6 : Hid (Blk w6 rb #[.int .i64 0,.slice none 0 0] 44):=HK1.out.stay HX6.out
    have HBW6 : Hid (Below w.heap.size w w6):=HB1.out.trans (HX6.out.mono HB1.out.size)
    have HL6 : Hid (al6.length = n6 ∧ n6 ≤ 59 * (k + 1)):=⟨HO6.out.size,by have:=HN6.out;have:=HAL.out;have:=HO5.out.size;have:=HR5.out.2.1;omega⟩
    have HGC : Hid (R = recOf (if lastE s = true then some (al6,k + 1) else gatherL D at_ (16 - (k + 1)) (k + 1) 3 al6)):=by
     have h1:=HGB.out
     rw [if_pos ⟨HGD.out.1,HGD.out.2⟩,HA6.out] at h1
     exact h1
    clear ho6 hg6 hb6
    cases ls with
    | true =>
     have HLT : Hid (lastE s = true):=by (show _ = _);have h2:=HLS.out;rw [HGD.out.1] at h2;simpa using h2
     have HRV : Hid (R = recOf (some (al6,k + 1))):=by have h1:=HGC.out;rw [if_pos HLT.out] at h1;exact h1
     by_cases h8 : n6 < 8
     ·have h8' : (n6 : Int) < 8:=by omega
      have d8 : decide ((n6 : Int) < 8) = true:=decide_eq_true h8'
      have HRN : Hid (R = none):=by (show _ = _);rw [HRV.out,recOf_some,if_pos (by rw [HL6.out.1];exact h8)]
      have k0 : w6.cell? ⟨rb,0,none⟩ = some (.int .i64 0):=HK6.out.cell 0 rfl
      have k1 : w6.cell? ⟨rb,1,none⟩ = some (.slice none 0 0):=HK6.out.cell 1 rfl
      have f0:=HK6.out.free 0
      have f1:=HK6.out.free 1
      go_wp2
      refine bodyPost_ret (results_record11 (cs:=[.int .i64 0,.slice none 0 0]) (by rfl) (by rfl) (by rfl) ((HK6.out.set 0 _).set 1 _) rfl) rfl ?_
      exact ⟨.inl ⟨HRN.out,rfl⟩,(HBW6.out.setCell (Nat.le_of_eq HRB.out.symm) _).setCell (Nat.le_of_eq HRB.out.symm) _⟩
     ·have h8' : ¬ (n6 : Int) < 8:=by omega
      have d8 : decide ((n6 : Int) < 8) = false:=decide_eq_false h8'
      have d8n : decide (n6 < 8) = false:=decide_eq_false h8
      obtain ⟨v,htk⟩:=take_ok (p:=al6) (i:=0) (by rw [HL6.out.1];omega)
      have HRS : Hid (R = some (v,al6.drop 8,k + 1)):=by
       (show _ = _)
       rw [HRV.out,recOf_some,if_neg (by rw [HL6.out.1];exact h8)]
       have e' : KeyM.take al6 0 = (v,0 + 8,0):=htk
       rw [e']
      obtain ⟨g6,cur,rfl,hgb,hgk,hcn⟩ : ∃ g6 cur,a6 = some ⟨g6,0,none⟩ ∧ W1.heap.size ≤ g6 ∧ Blk w6 g6 cur 5 ∧ n6 ≤ c6:=by
       rcases HO6.out.row.2 with ⟨_,h0⟩ | ⟨gg,cp,cur,hv,hbg,hgg,hlc,_⟩
       ·omega
       ·cases hv;exact ⟨gg,cur,rfl,hbg,hgg,hlc⟩
      obtain ⟨vb,HVB⟩ : ∃ vb,Hid (decide (v ≤ 1099511627776) = vb):=⟨_,rfl⟩
      have hvb:=HVB.out
      have HTK:=ref_TakeKey (some ⟨g6,0,none⟩) n6 c6 al6 0 w6 HO6.out.rd hcn (by have:=HL6.out;omega) (by omega)
      have e' : KeyM.take al6 0 = (v,8,0):=htk
      rw [e'] at HTK
      have HRD8 : Hid (Rd w6 (some ⟨g6,8,none⟩) (n6 - 8) (al6.drop 8)):=by
       have h1:=(HO6.out.rd).part 8 (n6 - 8) (by omega)
       rw [Nat.zero_add,List.take_of_length_le (by rw [List.length_drop,HL6.out.1];omega)] at h1
       exact h1
      have HGK : Hid (W1.heap.size ≤ g6 ∧ Blk w6 g6 cur 5 ∧ n6 ≤ c6 ∧ n6 ≤ 944):=⟨hgb,hgk,hcn,by have:=HL6.out;omega⟩
      have hn944 : n6 ≤ 944:=HGK.out.2.2.2
      clear htk e' hgb hgk
      go_wp2_with fail
      refine HTK.mono ?_
      rintro e w7 ⟨rfl,hw7⟩
      subst w7
      simp only [toldK]
      clear HTK
      have k0 : w6.cell? ⟨rb,0,none⟩ = some (.int .i64 0):=HK6.out.cell 0 rfl
      have k1 : w6.cell? ⟨rb,1,none⟩ = some (.slice none 0 0):=HK6.out.cell 1 rfl
      have f0:=HK6.out.free 0
      have f1:=HK6.out.free 1
      have q1 : IntKind.i64.wrap ((k : Int) + 1) = ((k + 1 : Nat) : Int):=by rw [IntKind.wrap_i64];omega
      have q2 : (8 : Int) ≤ (n6 : Int):=by omega
      have q3 : (n6 : Int) ≤ (c6 : Int):=by omega
      by_cases hc8 : c6 = 8
      ·obtain rfl : n6 = 8:=by omega
       subst hc8
       have HBB : Bd ((w6.setCell ⟨rb,0,none⟩ (.int .i64 v)).setCell ⟨rb,1,none⟩ (.slice (some ⟨g6,0,none⟩) 0 0)) w.heap.size (some ⟨g6,0,none⟩) 0 (al6.drop 8):=by
        have h1 : al6.drop 8 = []:=List.eq_nil_of_length_eq_zero (by rw [List.length_drop,HL6.out.1])
        rw [h1]
        exact ⟨⟨rfl,by simp,.inl rfl⟩,.inl rfl⟩
       go_wp2
       refine bodyPost_ret (results_record11 (cs:=[.int .i64 v,.slice (some ⟨g6,0,none⟩) 0 0]) (by rfl) (by rfl) (by rfl) ((HK6.out.set 0 _).set 1 _) rfl) rfl ?_
       exact ⟨.inr ⟨v,_,k + 1,(some ⟨g6,0,none⟩),0,0,HRS.out,by rw [HVB.out];rfl,HBB,by omega,by omega⟩,(HBW6.out.setCell (Nat.le_of_eq HRB.out.symm) _).setCell (Nat.le_of_eq HRB.out.symm) _⟩
      ·have q4 : ¬ c6 - 8 = 0:=by omega
       have HBB : Bd ((w6.setCell ⟨rb,0,none⟩ (.int .i64 v)).setCell ⟨rb,1,none⟩ (.slice (some ⟨g6,8,none⟩) (n6 - 8) (c6 - 8))) w.heap.size (some ⟨g6,8,none⟩) (n6 - 8) (al6.drop 8):=by
        have hne : g6 ≠ rb:=fun e => by have h1:=HGK.out.1;have h2:=HK1.out.lt;omega
        have hbk : Blk ((w6.setCell ⟨rb,0,none⟩ (.int .i64 v)).setCell ⟨rb,1,none⟩ (.slice (some ⟨g6,8,none⟩) (n6 - 8) (c6 - 8))) g6 cur 5:=(Blk.other HGK.out.2.1 _ _ hne).other _ _ hne
        refine ⟨HRD8.out.same HGK.out.2.1 hbk,.inr ⟨g6,8,cur,_,rfl,⟨Nat.le_trans HB1.out.size HGK.out.1,by omega⟩,hbk⟩⟩
       go_wp2
       refine bodyPost_ret (results_record11 (cs:=[.int .i64 v,.slice (some ⟨g6,8,none⟩) (n6 - 8) (c6 - 8)]) (by rfl) (by rfl) (by rfl) ((HK6.out.set 0 _).set 1 _) rfl) rfl ?_
       exact ⟨.inr ⟨v,_,k + 1,(some ⟨g6,8,none⟩),(n6 - 8),(c6 - 8),HRS.out,by rw [HVB.out];rfl,HBB,by omega,by omega⟩,(HBW6.out.setCell (Nat.le_of_eq HRB.out.symm) _).setCell (Nat.le_of_eq HRB.out.symm) _⟩
    | false =>
     have HLT : Hid (lastE s = false):=by (show _ = _);have h2:=HLS.out;rw [HGD.out.1] at h2;simpa using h2
     have HRV : Hid (R = recOf (gatherL D at_ (16 - (k + 1)) (k + 1) (kdOf i (k + 1)) al6)):=by
      have h1:=HGC.out
      rw [if_neg (by rw [HLT.out];simp)] at h1
      unfold kdOf
      rw [if_neg (by omega)]
      exact h1
     go_wp2
     go_roundw
     case rel => exact ⟨k + 1,al6,a6,n6,c6,by omega,by omega,rfl,by go_num,HRV,by have:=HL6.out;(show _ ≤ _);omega,HO6,HX6⟩
     case measure => simp [intOf];omega
   ·obtain rfl : kd = 3:=by rw [hkd];unfold kdOf;rw [if_neg hki]
    have m0 : ((k : Int) == (i : Int)) = false:=by rw [beq_eq_false_iff_ne];omega
    have m3 : decide ((i : Int) < (k : Int)) = true:=decide_eq_true (by omega)
    have m4 : decide (i < k) = true:=decide_eq_true (by omega)
    clear hkd hki
    go_wp2_with (guard_target =~ wpList _ _ _ (Oper.mk (some 51) _ _ _ _ _ :: _) _ _;refine wpList_append_rd rfl (.tmp 49) (.tmp 50) rfl W1.heap.size a9 n9 c9 all rfl HO5.out a5 n5 c5 (payE s) rfl HRP.out HR5.out.2.2.2 HNL.out HX5.out.size ?_)
    intro a6 c6 w6 ho6 hg6 hb6
    obtain ⟨n6,HN6⟩ : ∃ n6,Hid (n9 + n5 = n6):=⟨_,rfl⟩
    rw [HN6.out] at ho6 ⊢
    obtain ⟨al6,HA6⟩ : ∃ al6,Hid (all ++ payE s = al6):=⟨_,rfl⟩
    rw [HA6.out] at ho6
    have HX6 : Hid (Below W1.heap.size W1 w6):=HX5.out.trans hb6
    have HO6 : Hid (Own w6 W1.heap.size a6 n6 c6 al6):=ho6
    have HK6 : Hid (Blk w6 rb #[.int .i64 0,.slice none 0 0] 44):=HK1.out.stay HX6.out
    have HBW6 : Hid (Below w.heap.size w w6):=HB1.out.trans (HX6.out.mono HB1.out.size)
    have HL6 : Hid (al6.length = n6 ∧ n6 ≤ 59 * (k + 1)):=⟨HO6.out.size,by have:=HN6.out;have:=HAL.out;have:=HO5.out.size;have:=HR5.out.2.1;omega⟩
    have HGC : Hid (R = recOf (if lastE s = true then some (al6,k + 1) else gatherL D at_ (16 - (k + 1)) (k + 1) 3 al6)):=by
     have h1:=HGB.out
     rw [if_pos ⟨HGD.out.1,HGD.out.2⟩,HA6.out] at h1
     exact h1
    clear ho6 hg6 hb6
    cases ls with
    | true =>
     have HLT : Hid (lastE s = true):=by (show _ = _);have h2:=HLS.out;rw [HGD.out.1] at h2;simpa using h2
     have HRV : Hid (R = recOf (some (al6,k + 1))):=by have h1:=HGC.out;rw [if_pos HLT.out] at h1;exact h1
     by_cases h8 : n6 < 8
     ·have h8' : (n6 : Int) < 8:=by omega
      have d8 : decide ((n6 : Int) < 8) = true:=decide_eq_true h8'
      have HRN : Hid (R = none):=by (show _ = _);rw [HRV.out,recOf_some,if_pos (by rw [HL6.out.1];exact h8)]
      have k0 : w6.cell? ⟨rb,0,none⟩ = some (.int .i64 0):=HK6.out.cell 0 rfl
      have k1 : w6.cell? ⟨rb,1,none⟩ = some (.slice none 0 0):=HK6.out.cell 1 rfl
      have f0:=HK6.out.free 0
      have f1:=HK6.out.free 1
      go_wp2
      refine bodyPost_ret (results_record11 (cs:=[.int .i64 0,.slice none 0 0]) (by rfl) (by rfl) (by rfl) ((HK6.out.set 0 _).set 1 _) rfl) rfl ?_
      exact ⟨.inl ⟨HRN.out,rfl⟩,(HBW6.out.setCell (Nat.le_of_eq HRB.out.symm) _).setCell (Nat.le_of_eq HRB.out.symm) _⟩
     ·have h8' : ¬ (n6 : Int) < 8:=by omega
      have d8 : decide ((n6 : Int) < 8) = false:=decide_eq_false h8'
      have d8n : decide (n6 < 8) = false:=decide_eq_false h8
      obtain ⟨v,htk⟩:=take_ok (p:=al6) (i:=0) (by rw [HL6.out.1];omega)
      have HRS : Hid (R = some (v,al6.drop 8,k + 1)):=by
       (show _ = _)
       rw [HRV.out,recOf_some,if_neg (by rw [HL6.out.1];exact h8)]
       have e' : KeyM.take al6 0 = (v,0 + 8,0):=htk
       rw [e']
      obtain ⟨g6,cur,rfl,hgb,hgk,hcn⟩ : ∃ g6 cur,a6 = some ⟨g6,0,none⟩ ∧ W1.heap.size ≤ g6 ∧ Blk w6 g6 cur 5 ∧ n6 ≤ c6:=by
       rcases HO6.out.row.2 with ⟨_,h0⟩ | ⟨gg,cp,cur,hv,hbg,hgg,hlc,_⟩
       ·omega
       ·cases hv;exact ⟨gg,cur,rfl,hbg,hgg,hlc⟩
      obtain ⟨vb,HVB⟩ : ∃ vb,Hid (decide (v ≤ 1099511627776) = vb):=⟨_,rfl⟩
      have hvb:=HVB.out
      have HTK:=ref_TakeKey (some ⟨g6,0,none⟩) n6 c6 al6 0 w6 HO6.out.rd hcn (by have:=HL6.out;omega) (by omega)
      have e' : KeyM.take al6 0 = (v,8,0):=htk
      rw [e'] at HTK
      have HRD8 : Hid (Rd w6 (some ⟨g6,8,none⟩) (n6 - 8) (al6.drop 8)):=by
       have h1:=(HO6.out.rd).part 8 (n6 - 8) (by omega)
       rw [Nat.zero_add,List.take_of_length_le (by rw [List.length_drop,HL6.out.1];omega)] at h1
       exact h1
      have HGK : Hid (W1.heap.size ≤ g6 ∧ Blk w6 g6 cur 5 ∧ n6 ≤ c6 ∧ n6 ≤ 944):=⟨hgb,hgk,hcn,by have:=HL6.out;omega⟩
      have hn944 : n6 ≤ 944:=HGK.out.2.2.2
      clear htk e' hgb hgk
      go_wp2_with fail
      refine HTK.mono ?_
      rintro e w7 ⟨rfl,hw7⟩
      subst w7
      simp only [toldK]
      clear HTK
      have k0 : w6.cell? ⟨rb,0,none⟩ = some (.int .i64 0):=HK6.out.cell 0 rfl
      have k1 : w6.cell? ⟨rb,1,none⟩ = some (.slice none 0 0):=HK6.out.cell 1 rfl
      have f0:=HK6.out.free 0
      have f1:=HK6.out.free 1
      have q1 : IntKind.i64.wrap ((k : Int) + 1) = ((k + 1 : Nat) : Int):=by rw [IntKind.wrap_i64];omega
      have q2 : (8 : Int) ≤ (n6 : Int):=by omega
      have q3 : (n6 : Int) ≤ (c6 : Int):=by omega
      by_cases hc8 : c6 = 8
      ·obtain rfl : n6 = 8:=by omega
       subst hc8
       have HBB : Bd ((w6.setCell ⟨rb,0,none⟩ (.int .i64 v)).setCell ⟨rb,1,none⟩ (.slice (some ⟨g6,0,none⟩) 0 0)) w.heap.size (some ⟨g6,0,none⟩) 0 (al6.drop 8):=by
        have h1 : al6.drop 8 = []:=List.eq_nil_of_length_eq_zero (by rw [List.length_drop,HL6.out.1])
        rw [h1]
        exact ⟨⟨rfl,by simp,.inl rfl⟩,.inl rfl⟩
       go_wp2
       refine bodyPost_ret (results_record11 (cs:=[.int .i64 v,.slice (some ⟨g6,0,none⟩) 0 0]) (by rfl) (by rfl) (by rfl) ((HK6.out.set 0 _).set 1 _) rfl) rfl ?_
       exact ⟨.inr ⟨v,_,k + 1,(some ⟨g6,0,none⟩),0,0,HRS.out,by rw [HVB.out];rfl,HBB,by omega,by omega⟩,(HBW6.out.setCell (Nat.le_of_eq HRB.out.symm) _).setCell (Nat.le_of_eq HRB.out.symm) _⟩
      ·have q4 : ¬ c6 - 8 = 0:=by omega
       have HBB : Bd ((w6.setCell ⟨rb,0,none⟩ (.int .i64 v)).setCell ⟨rb,1,none⟩ (.slice (some ⟨g6,8,none⟩) (n6 - 8) (c6 - 8))) w.heap.size (some ⟨g6,8,none⟩) (n6 - 8) (al6.drop 8):=by
        have hne : g6 ≠ rb:=fun e => by have h1:=HGK.out.1;have h2:=HK1.out.lt;omega
        have hbk : Blk ((w6.setCell ⟨rb,0,none⟩ (.int .i64 v)).setCell ⟨rb,1,none⟩ (.slice (some ⟨g6,8,none⟩) (n6 - 8) (c6 - 8))) g6 cur 5:=(Blk.other HGK.out.2.1 _ _ hne).other _ _ hne
        refine ⟨HRD8.out.same HGK.out.2.1 hbk,.inr ⟨g6,8,cur,_,rfl,⟨Nat.le_trans HB1.out.size HGK.out.1,by omega⟩,hbk⟩⟩
       go_wp2
       refine bodyPost_ret (results_record11 (cs:=[.int .i64 v,.slice (some ⟨g6,8,none⟩) (n6 - 8) (c6 - 8)]) (by rfl) (by rfl) (by rfl) ((HK6.out.set 0 _).set 1 _) rfl) rfl ?_
       exact ⟨.inr ⟨v,_,k + 1,(some ⟨g6,8,none⟩),(n6 - 8),(c6 - 8),HRS.out,by rw [HVB.out];rfl,HBB,by omega,by omega⟩,(HBW6.out.setCell (Nat.le_of_eq HRB.out.symm) _).setCell (Nat.le_of_eq HRB.out.symm) _⟩
    | false =>
     have HLT : Hid (lastE s = false):=by (show _ = _);have h2:=HLS.out;rw [HGD.out.1] at h2;simpa using h2
     have HRV : Hid (R = recOf (gatherL D at_ (16 - (k + 1)) (k + 1) (kdOf i (k + 1)) al6)):=by
      have h1:=HGC.out
      rw [if_neg (by rw [HLT.out];simp)] at h1
      unfold kdOf
      rw [if_neg (by omega)]
      exact h1
     go_wp2
     go_roundw
     case rel => exact ⟨k + 1,al6,a6,n6,c6,by omega,by omega,rfl,by go_num,HRV,by have:=HL6.out;(show _ ≤ _);omega,HO6,HX6⟩
     case measure => simp [intOf];omega
  ·obtain rfl : k = 16:=by omega
   have HRN : Hid (R = none):=by have h1:=HGA.out;rw [Nat.sub_self,gatherL] at h1;exact h1
   have HK3 : Hid (Blk w3 rb #[.int .i64 0,.slice none 0 0] 44):=HK1.out.stay HB.out
   have k0 : w3.cell? ⟨rb,0,none⟩ = some (.int .i64 0):=HK3.out.cell 0 rfl
   have k1 : w3.cell? ⟨rb,1,none⟩ = some (.slice none 0 0):=HK3.out.cell 1 rfl
   have f0:=HK3.out.free 0
   have f1:=HK3.out.free 1
   go_wp2
   refine bodyPost_ret (results_record11 (cs:=[.int .i64 0,.slice none 0 0]) (by rfl) (by rfl) (by rfl) ((HK3.out.set 0 _).set 1 _) rfl) rfl ?_
   exact ⟨.inl ⟨HRN.out,rfl⟩,(HBW.out.setCell (Nat.le_of_eq HRB.out.symm) _).setCell (Nat.le_of_eq HRB.out.symm) _⟩
end Go.Proofs.YtghajmcohdedlaaGreat
