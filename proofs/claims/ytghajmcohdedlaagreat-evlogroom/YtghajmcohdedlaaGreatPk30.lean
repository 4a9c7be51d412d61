import Derived.Test.YtghajmcohdedlaaGreatMr1
import Derived.Test.YtghajmcohdedlaaGreatPk26
import Derived.Deep.Cut
import Derived.BigRegion
import Derived.Test.YtghajmcohdedlaaGreatPk23
import Derived.BigQuiet
import Derived.Test.YtghajmcohdedlaaGreatPk14
namespace Go.Proofs.YtghajmcohdedlaaGreat
open Go.RowKit
theorem run_build_byte (w : World) (x : Nat) : (Instr.buildSlice 27 1 #[(0,.int .u8 (x : Int))]).run Tryz.prog w = .ok (.slice (some ⟨w.heap.size,0,none⟩) 1 1) (w.alloc (.cells #[.int .u8 (x : Int)] 5)):=by
 obtain ⟨i0,hi,hz0,hz1,hz2⟩:=info_parts infoByte
 simp [Instr.buildSlice,run_underlying Tryz.underlying27,sizeOf,typeInfo,hi,hz0,hz1,zeroValue,Value.cells,go_sem]
theorem wpList_build_byte {w : World} {ops : Array Oper} {rest : List Oper} {o : Oper} {a : Act} {Q : Exit → Act → World → Prop} (hgd : o.guard = none) (s : Operand) (ho : o.op = .buildSlice 27 1 #[(0,s)]) (x : Nat) (hx : x < 256) (hs : a.eval s = .int .u8 (x : Int))
  (h : ∀ w',Own w' w.heap.size (some ⟨w.heap.size,0,none⟩) 1 1 [x] → Below w.heap.size w w' → wpList Tryz.prog ops Q rest (a.put o.dst (.slice (some ⟨w.heap.size,0,none⟩) 1 1)) w') : wpList Tryz.prog ops Q (o :: rest) a w:=by
 refine wpList_plain hgd fun K hK => ?_
 unfold Oper.wp
 simp only [execOp,ho,Sem.run_bind,Sem.run_pure,Result.andThen_ok,List.map_toArray,List.map_cons,List.map_nil,hs,run_build_byte w x]
 exact hK _ _ (h _ (Own.new w w.heap.size #[.int .u8 (x : Int)] [x] (by simpa using hx) rfl (Nat.le_refl _) (by unfold maxLen;simp)) (below_alloc _ _))
theorem Own.nn {w : World} {base : Nat} {a : Option Addr} {len cap : Nat} {bs : List Nat} (h : Own w base a len cap bs) : a = none → cap = 0:=by
 intro e
 rcases h.row.2 with ⟨h1,_⟩ | ⟨g,c,cur,h1,_⟩
 ·simp only [Value.slice.injEq] at h1;exact h1.2.2
 ·simp only [Value.slice.injEq] at h1;rw [e] at h1;cases h1.1
theorem Mr.keep {w w' : World} {base k : Nat} {cs : Array Value} {t : TypeId} (h : Mr w w' base) (hb : Blk w k cs t) (h1 : t ≠ 66) (h2 : t ≠ 27) (h3 : t ≠ 101) : Blk w' k cs t:=h.block k cs t _ hb h1 h2 h3
set_option maxRecDepth 100000 in
set_option maxHeartbeats 8000000 in
theorem ref_PutC (w : World) (base r q : Nat) (sv rv : Value) (SV WV : List Value) (D : Dk) (gc b m : Nat) (i v : Int) (h : Rk w base r q sv rv SV WV D) (hq : q < w.heap.size) (hc : Cr w gc r b m) (hb : b ≤ 1000) (hm : m ≤ 1000) (hfit : b + 2 * m ≤ D.sure.length) (hwl : D.waits.length < 1000000000) :
  Calls Tryz.prog 66 #[.pointer (some ⟨gc,0,none⟩),.int .i64 i,.int .i64 v] w fun e w' => e = .returned (.int .i64 (putCE D b m i v)) ∧ Hid (∃ rv' SV' WV',Rk w' base r q sv rv' SV' WV' (putCD D b m i v)) ∧ Mr w w' base:=by
 obtain ⟨R,HR⟩ : ∃ R,Hid (R = putCE D b m i v):=⟨_,rfl⟩
 obtain ⟨D',HD'⟩ : ∃ D',Hid (D' = putCD D b m i v):=⟨_,rfl⟩
 rw [← HR.out,← HD'.out]
 have HRk : Hid (∀ w',Below w.heap.size w w' → Rk w' base r q sv rv SV WV D):=fun w' hb => h.stay hb
 have HCr : Hid (∀ w',Below w.heap.size w w' → Cr w' gc r b m):=fun w' hb => hc.stay hb
 have HBS : Hid (base ≤ w.heap.size):=Nat.le_trans h.br (Nat.le_of_lt h.blk.lt)
 have HWL : Hid (D.waits.length < 1000000000):=hwl
 have HQ : Hid (q < w.heap.size):=hq
 have HFIT : Hid (b + 2 * m ≤ D.sure.length):=hfit
 have c0 : w.cell? ⟨gc,0,none⟩ = some (.pointer (some ⟨r,0,none⟩)):=Blk.cell hc 0 rfl
 have c1 : w.cell? ⟨gc,1,none⟩ = some (.int .i64 (b : Int)):=Blk.cell hc 1 rfl
 have c2 : w.cell? ⟨gc,2,none⟩ = some (.int .i64 (m : Int)):=Blk.cell hc 2 rfl
 have c3 : w.cell? ⟨r,3,none⟩ = some (.bool D.down):=h.blk.cell 3 rfl
 have HD0 : Hid (Rk w base r q sv rv SV WV D):=h
 have HC0 : Hid (Cr w gc r b m):=hc
 clear h hc hq hfit hwl
 cases hd : D.down with
 | true =>
  rw [hd] at c3
  have HX : Hid (R = 10 ∧ D' = D):=by show _ ∧ _;rw [HR.out,HD'.out,putCE,putCD,if_pos hd,if_pos hd];exact ⟨rfl,rfl⟩
  go_enter Tryz.func66,Tryz.ntmps66
  go_wp2
  go_ret
  exact ⟨by rw [HX.out.1];rfl,⟨rv,SV,WV,by rw [HX.out.2];exact HD0.out⟩,Mr.refl _ _⟩
 | false =>
  rw [hd] at c3
  have hdn : ¬ D.down = true:=by rw [hd];decide
  have HDN : Hid (D.down = false):=hd
  have HRX : Hid (R = (if (0 ≤ i ∧ i < (m : Int)) ∧ 0 ≤ v ∧ v ≤ 1099511627776 then (if (standB D b i.toNat).2.1 = 4611686018427387904 then 6 else replE D ((b : Int) + 2 * (i.toNat : Int) + (1 - (standB D b i.toNat).1)) ((standB D b i.toNat).2.1 + 1) v) else 2) ∧ D' = (if (0 ≤ i ∧ i < (m : Int)) ∧ 0 ≤ v ∧ v ≤ 1099511627776 then (if (standB D b i.toNat).2.1 = 4611686018427387904 then D else replD D ((b : Int) + 2 * (i.toNat : Int) + (1 - (standB D b i.toNat).1)) ((standB D b i.toNat).2.1 + 1) v) else D)):=by
   show _ ∧ _
   rw [HR.out,HD'.out,putCE,putCD,if_neg hdn,if_neg hdn]
   exact ⟨rfl,rfl⟩
  clear hd hdn
  by_cases hbad : ¬ ((0 ≤ i ∧ i < (m : Int)) ∧ 0 ≤ v ∧ v ≤ 1099511627776)
  ·have HX : Hid (R = 2 ∧ D' = D):=by show _ ∧ _;have:=HRX.out;rw [if_neg hbad,if_neg hbad] at this;exact this
   have hsplit : i < 0 ∨ (0 ≤ i ∧ (m : Int) ≤ i) ∨ (0 ≤ i ∧ i < (m : Int) ∧ v < 0) ∨ (0 ≤ i ∧ i < (m : Int) ∧ 0 ≤ v ∧ 1099511627776 < v):=by omega
   clear hbad
   rcases hsplit with r1 | ⟨r1,r2⟩ | ⟨r1,r2,r3⟩ | ⟨r1,r2,r3,r4⟩ <;>
   (go_enter Tryz.func66,Tryz.ntmps66
    go_wp2
    go_ret
    exact ⟨by rw [HX.out.1];rfl,⟨rv,SV,WV,by rw [HX.out.2];exact HD0.out⟩,Mr.refl _ _⟩ )
  have hgood : (0 ≤ i ∧ i < (m : Int)) ∧ 0 ≤ v ∧ v ≤ 1099511627776:=Classical.not_not.1 hbad
  clear hbad
  obtain ⟨⟨g1,g2⟩,g3,g4⟩:=hgood
  obtain ⟨j,rfl⟩:=Int.eq_ofNat_of_zero_le g1
  obtain ⟨sr1,sr2⟩:=stand_range D b j
  obtain ⟨cs1,cs2,_,cs4,cs5⟩:=cnt_stand D b j
  obtain ⟨⟨x,n,z⟩,HS⟩ : ∃ S,Hid (S = cntB D b j):=⟨_,rfl⟩
  obtain ⟨st,hst⟩ : ∃ st,st = (standB D b j).1:=⟨_,rfl⟩
  rw [← HS.out] at cs1 cs2 cs4 cs5
  rw [← hst] at cs2 sr1
  have hn : n = (standB D b j).2.1:=by rw [← cs1]
  rw [← hn] at sr2
  simp only at cs2 cs4 cs5
  have HRY : Hid (R = (if n = 4611686018427387904 then 6 else replE D ((b : Int) + 2 * (j : Int) + (1 - st)) (n + 1) v) ∧ D' = (if n = 4611686018427387904 then D else replD D ((b : Int) + 2 * (j : Int) + (1 - st)) (n + 1) v)):=by
   show _ ∧ _
   have:=HRX.out
   have hcond : (0 ≤ (j : Int) ∧ (j : Int) < (m : Int)) ∧ 0 ≤ v ∧ v ≤ 1099511627776:=⟨⟨g1,g2⟩,g3,g4⟩
   rw [if_pos hcond,if_pos hcond,Int.toNat_natCast,← hn,← hst] at this
   exact this
  obtain ⟨n0,n1⟩:=sr2
  clear hn hst cs1 HRX HR HD'
  go_enter Tryz.func66,Tryz.ntmps66
  go_wp2_with fail
  refine (ref_counts w base r q sv rv SV WV D gc b m j HD0.out HC0.out hb (by omega)).mono ?_
  rw [← HS.out]
  rintro e w2 ⟨rfl,hb2⟩
  have HB2 : Hid (Below w.heap.size w w2):=hb2
  clear hb2 c0 c1 c2 c3
  by_cases hnn : n = 4611686018427387904
  ·have HX : Hid (R = 6 ∧ D' = D):=by show _ ∧ _;have:=HRY.out;rw [if_pos hnn,if_pos hnn] at this;exact this
   subst hnn
   go_wp2
   go_ret
   exact ⟨by rw [HX.out.1];rfl,⟨rv,SV,WV,by rw [HX.out.2];exact HRk.out _ HB2.out⟩,Mr.of_below HB2.out HBS.out⟩
  have hnm : ¬ (4611686018427387904 : Int) ≤ n:=by omega
  obtain ⟨p,hp⟩ : ∃ p : Int,p = (b : Int) + 2 * (j : Int) + (1 - st):=⟨_,rfl⟩
  have HRZ : Hid (R = replE D p (n + 1) v ∧ D' = replD D p (n + 1) v):=by show _ ∧ _;have:=HRY.out;rw [if_neg hnn,if_neg hnn,← hp] at this;exact this
  clear HRY hnn
  have HPH : Hid (hasB D p = true):=by show _ = _;rw [hasB_iff];have:=HFIT.out;omega
  have HRE : Hid (readE D p = 0):=by show _ = _;rw [readE,HDN.out,HPH.out];rfl
  have d0 : w2.cell? ⟨gc,0,none⟩ = some (.pointer (some ⟨r,0,none⟩)):=Blk.cell (HCr.out _ HB2.out) 0 rfl
  have d1 : w2.cell? ⟨gc,1,none⟩ = some (.int .i64 (b : Int)):=Blk.cell (HCr.out _ HB2.out) 1 rfl
  have y1 : IntKind.i64.wrap (2 * (j : Int)) = 2 * (j : Int):=by rw [IntKind.wrap_i64];omega
  have hxp : (x = 0 ∧ (b : Int) + 2 * (j : Int) + 1 = p) ∨ (¬ x = 0 ∧ (b : Int) + 2 * (j : Int) = p):=by omega
  have hpb : 0 ≤ p ∧ p ≤ 4000:=by omega
  obtain ⟨S,HSE⟩ : ∃ S,Hid (S = nowB D p.toNat):=⟨_,rfl⟩
  have HN1 : Hid ((-9223372036854775808 : Int) ≤ n + 1 ∧ n + 1 ≤ 9223372036854775807):=by show _ ∧ _;omega
  have HV1 : Hid ((-9223372036854775808 : Int) ≤ v ∧ v ≤ 9223372036854775807):=by show _ ∧ _;omega
  have HCQ : Hid (p = (b : Int) + 2 * (j : Int) + (1 - st)):=hp
  clear hp cs2 sr1
  rcases hxp with ⟨hx0,hxp⟩ | ⟨hx0,hxp⟩ <;>
  (go_wp2_with fail
   refine (ref_Read w2 base r q sv rv SV WV D p (HRk.out _ HB2.out)).mono ?_
   rw [HRE.out,← HSE.out]
   rintro e w3 ⟨ht3,hb3⟩
   rcases ht3.out with ⟨hne,_⟩ | ⟨_,a3,k3,rfl,hr3,hs3,hk3⟩
   ·exact absurd rfl hne
   have HB3 : Hid (Below w.heap.size w w3):=HB2.out.trans (hb3.mono HB2.out.size)
   obtain ⟨ba,off,rfl,hcell⟩:=hr3.atB (by omega)
   obtain ⟨t,ht⟩ : ∃ t,t = S.getD 63 0:=⟨_,rfl⟩
   have c63 : w3.cell? ⟨ba,off + 63,none⟩ = some (.int .u8 (t : Int)):=by rw [ht];exact hcell 63 (by omega)
   have ht256 : t < 256:=by rw [ht];exact getD_lt hs3.byte 63
   obtain ⟨y,hy⟩ : ∃ y,y = (t + 1) % 256:=⟨_,rfl⟩
   have hy256 : y < 256:=by omega
   have z1 : ((t : Int) + 1) % 256 = (y : Int):=by omega
   have z2 : Int.tmod ((t : Int) + 1) 256 = (y : Int):=by rw [Int.tmod_eq_emod_of_nonneg (by omega)];exact z1
   have z3 : IntKind.u8.wrap (y : Int) = (y : Int):=by rw [IntKind.wrap_u8];omega
   have z4 : IntKind.i64.wrap (n + 1) = n + 1:=by rw [IntKind.wrap_i64];omega
   have HNX : Hid (nextB (nowB D p.toNat) = y):=by show _ = _;rw [← HSE.out,nextB,← ht,hy]
   clear ht3 hb3 hr3 hs3 hcell ht hy d0 d1
   obtain ⟨K1,HK1⟩ : ∃ K,Hid (K = KeyM.key (KeyM.up (n + 1))):=⟨_,rfl⟩
   obtain ⟨K2,HK2⟩ : ∃ K,Hid (K = KeyM.key (KeyM.up v)):=⟨_,rfl⟩
   obtain ⟨L,HL⟩ : ∃ L,Hid (L = layB y (n + 1) v):=⟨_,rfl⟩
   have HLE : Hid ((([y] ++ K1) ++ K2) ++ List.replicate 46 0 ++ [y] = L):=by show _ = _;rw [HL.out,HK1.out,HK2.out,layB];simp
   go_wp2_with (guard_target =~ wpList _ _ _ (Oper.mk (some 80) _ _ _ _ _ :: _) _ _;refine wpList_build_byte rfl (.tmp 79) rfl y hy256 rfl ?_)
   intro w4 ho4 hb4
   have HO4 : Hid (Own w4 w3.heap.size (some ⟨w3.heap.size,0,none⟩) 1 1 [y]):=ho4
   have HB34 : Hid (Below w3.heap.size w3 w4):=hb4
   clear ho4 hb4 c63
   go_wp2_with fail
   refine (ref_Key (n + 1) HN1.out w4).mono ?_
   rw [← HK1.out]
   rintro e w5 ⟨a5,rfl,ho5,hb5⟩
   have HO5 : Hid (Own w5 w3.heap.size (some ⟨w3.heap.size,0,none⟩) 1 1 [y]):=HO4.out.below hb5
   have HR5 : Hid (Rd w5 (some a5) 8 K1):=ho5.rd
   have HB35 : Hid (Below w3.heap.size w3 w5):=HB34.out.trans (hb5.mono HB34.out.size)
   clear ho5 hb5
   go_wp2_with (guard_target =~ wpList _ _ _ (Oper.mk (some 84) _ _ _ _ _ :: _) _ _;refine wpList_append_rd rfl (.tmp 80) (.tmp 83) rfl w3.heap.size (some ⟨w3.heap.size,0,none⟩) 1 1 [y] rfl HO5.out (some a5) 8 8 K1 rfl HR5.out (fun e => by cases e) (by omega) HB35.out.size ?_)
   intro a6 c6 w6 ho6 hg6 hb6
   have HO6 : Hid (Own w6 w3.heap.size a6 9 c6 ([y] ++ K1)):=ho6
   have HB36 : Hid (Below w3.heap.size w3 w6):=HB35.out.trans hb6
   clear ho6 hg6 hb6
   go_wp2_with fail
   refine (ref_Key v HV1.out w6).mono ?_
   rw [← HK2.out]
   rintro e w7 ⟨a7,rfl,ho7,hb7⟩
   have HO7 : Hid (Own w7 w3.heap.size a6 9 c6 ([y] ++ K1)):=HO6.out.below hb7
   have HR7 : Hid (Rd w7 (some a7) 8 K2):=ho7.rd
   have HB37 : Hid (Below w3.heap.size w3 w7):=HB36.out.trans (hb7.mono HB36.out.size)
   clear ho7 hb7
   go_wp2_with (guard_target =~ wpList _ _ _ (Oper.mk (some 88) _ _ _ _ _ :: _) _ _;refine wpList_append_rd rfl (.tmp 85) (.tmp 87) rfl w3.heap.size a6 9 c6 ([y] ++ K1) rfl HO7.out (some a7) 8 8 K2 rfl HR7.out (fun e => by cases e) (by omega) HB37.out.size ?_)
   intro a8 c8 w8 ho8 hg8 hb8
   have HO8 : Hid (Own w8 w3.heap.size a8 17 c8 (([y] ++ K1) ++ K2)):=ho8
   have HB38 : Hid (Below w3.heap.size w3 w8):=HB37.out.trans hb8
   clear ho8 hg8 hb8
   go_wp2_with (guard_target =~ wpList _ _ _ (Oper.mk (some 90) _ _ _ _ _ :: _) _ _;refine wpList_append_zeros rfl (.tmp 89) (.const (.int .i64 46)) rfl w3.heap.size a8 17 c8 (([y] ++ K1) ++ K2) rfl HO8.out 46 63 rfl rfl (by omega) HB38.out.size ?_)
   intro a9 c9 w9 ho9 hg9 hb9
   have HO9 : Hid (Own w9 w3.heap.size a9 63 c9 ((([y] ++ K1) ++ K2) ++ List.replicate 46 0)):=by
    show Own _ _ _ _ _ _
    simpa using ho9
   have HB39p : Hid (Below w3.heap.size w3 w9):=HB38.out.trans hb9
   have HB39 : Hid (Below w3.heap.size w3 w9.drew):=HB39p.out.drew
   have HB9 : Hid (Below w.heap.size w w9.drew):=HB3.out.trans (HB39.out.mono HB3.out.size)
   clear ho9 hg9 hb9
   have e0 : w9.drew.cell? ⟨gc,0,none⟩ = some (.pointer (some ⟨r,0,none⟩)):=Blk.cell (HCr.out _ HB9.out) 0 rfl
   have HB9a : Hid (Below w9.heap.size w9 (w9.alloc (.cells #[.int .u8 (y : Int)] 5)).drew):=(below_alloc _ _).drew
   have HB39a : Hid (Below w3.heap.size w3 (w9.alloc (.cells #[.int .u8 (y : Int)] 5)).drew):=HB39p.out.trans (HB9a.out.mono HB39p.out.size)
   have HB10 : Hid (Below w.heap.size w (w9.alloc (.cells #[.int .u8 (y : Int)] 5)).drew):=HB3.out.trans (HB39a.out.mono HB3.out.size)
   have HO10 : Hid (Own (w9.alloc (.cells #[.int .u8 (y : Int)] 5)).drew w3.heap.size a9 63 c9 ((([y] ++ K1) ++ K2) ++ List.replicate 46 0)):=HO9.out.below HB9a.out
   have HN10 : Hid (Own (w9.alloc (.cells #[.int .u8 (y : Int)] 5)).drew w9.heap.size (some ⟨w9.heap.size,0,none⟩) 1 1 [y]):=(Own.new w9 w9.heap.size #[.int .u8 (y : Int)] [y] (by simpa using hy256) rfl (Nat.le_refl _) (by unfold maxLen;simp)).drew
   have e1 : (w9.alloc (.cells #[.int .u8 (y : Int)] 5)).drew.cell? ⟨gc,0,none⟩ = some (.pointer (some ⟨r,0,none⟩)):=Blk.cell (HCr.out _ HB10.out) 0 rfl
   obtain ⟨E,HE⟩ : ∃ E,Hid (E = writeE D p L):=⟨_,rfl⟩
   obtain ⟨D2,HD2⟩ : ∃ D2,Hid (D2 = writeD D p L):=⟨_,rfl⟩
   have HRW : Hid (R = (if E = 0 then syncE D2 else E) ∧ D' = (if E = 0 then syncD D2 else D2)):=by
    show _ ∧ _
    rw [HRZ.out.1,HRZ.out.2,replE,replD,if_pos HRE.out,if_pos HRE.out,HNX.out,← HL.out,← HE.out,← HD2.out]
    exact ⟨rfl,rfl⟩
   go_wp2
   go_region_held3 (fun w' => w'.cell? ⟨gc,0,none⟩ = some (.pointer (some ⟨r,0,none⟩))) (first | exact e0 | exact e1 | exact e2 | exact e3 | fail)
    (first
     | (guard_target =~ (if Region.wanted (Oper.mk (some 99) _ _ _ _ _) _ = true then _ else _);refine step_append_rd rfl (.tmp 96) (.tmp 98) rfl w3.heap.size a9 63 c9 ((([y] ++ K1) ++ K2) ++ List.replicate 46 0) rfl HO10.out (some ⟨w9.heap.size,0,none⟩) 1 1 [y] rfl HN10.out.rd (fun e => by cases e) (by omega) HB39a.out.size 64 rfl L HLE.out ?_;intro a11 c11 w11 ho11 hg11 hb11;have HB11 : Hid (Below w.heap.size w w11):=HB10.out.trans (hb11.mono HB3.out.size);have e2 : w11.cell? ⟨gc,0,none⟩ = some (.pointer (some ⟨r,0,none⟩)):=Blk.cell (HCr.out _ HB11.out) 0 rfl)
     | (go_at_call 26;refine (ref_Write w11 base r q sv rv SV WV D p a11 64 c11 L (HRk.out _ HB11.out) (Nat.lt_of_lt_of_le HQ.out HB11.out.size) (fun w' hm => (ho11.mr hm).rd) ho11.nn (by omega) HWL.out).mono ?_;rw [← HE.out,← HD2.out];rintro e w12 ⟨rfl,hr12,hm12⟩;have e3 : w12.cell? ⟨gc,0,none⟩ = some (.pointer (some ⟨r,0,none⟩)):=Blk.cell (hm12.keep (HCr.out _ HB11.out) (by decide) (by decide) (by decide)) 0 rfl))
   obtain ⟨rv12,WV12,hr12⟩:=hr12.out
   have HR12 : Hid (Rk w12 base r q sv rv12 SV WV12 D2):=hr12
   have HM12 : Hid (Mr w w12 base):=(Mr.of_below HB11.out HBS.out).trans hm12
   have HQ12 : Hid (q < w12.heap.size):=Nat.lt_of_lt_of_le HQ.out HM12.out.low.size
   have f0:=e3
   clear hr12 hm12 ho11 hg11 hb11 e0 e1 e2 e3
   by_cases hE : E = 0
   ·have HX : Hid (R = syncE D2 ∧ D' = syncD D2):=by show _ ∧ _;have:=HRW.out;rw [if_pos hE,if_pos hE] at this;exact this
    subst hE
    go_wp2_with fail
    refine (ref_Sync w12 base r q sv rv12 SV WV12 D2 HR12.out HQ12.out).mono ?_
    rw [← HX.out.1,← HX.out.2]
    rintro e w13 ⟨rfl,hr13,hm13⟩
    have HR13 : Hid (∃ rv' SV' WV',Rk w13 base r q sv rv' SV' WV' D'):=hr13.out
    have HM13 : Hid (Mr w w13 base):=HM12.out.trans hm13
    clear hr13 hm13 f0
    go_wp2
    go_ret
    exact ⟨rfl,HR13,HM13.out⟩
   ·have HX : Hid (R = E ∧ D' = D2):=by show _ ∧ _;have:=HRW.out;rw [if_neg hE,if_neg hE] at this;exact this
    have hE' : (E == 0) = false:=by rw [beq_eq_false_iff_ne];exact hE
    go_wp2
    go_ret
    exact ⟨by rw [HX.out.1];rfl,⟨rv12,SV,WV12,by rw [HX.out.2];exact HR12.out⟩,HM12.out⟩ )
set_option maxRecDepth 100000 in
theorem ref_Open10 (w : World) (base r q : Nat) (sv rv : Value) (SV WV : List Value) (D : Dk) (b m : Nat) (h : Rk w base r q sv rv SV WV D) (hm : 1 ≤ m ∧ m ≤ 32) (hb : b ≤ 1000) (hfit : b + 2 * m ≤ D.sure.length) :
  Calls Tryz.prog 65 #[.pointer (some ⟨r,0,none⟩),.int .i64 (b : Int),.int .i64 (m : Int)] w fun e w' => e = .returned (.tuple #[.pointer (some ⟨w.heap.size,0,none⟩),.int .i64 0]) ∧ Cr w' w.heap.size r b m ∧ Below w.heap.size w w':=by
 obtain ⟨rs,cs,rfl,_⟩:=h.form
 have c0 : w.cell? ⟨r,0,none⟩ = some (.slice (some ⟨rs,0,none⟩) D.sure.length cs):=h.blk.cell 0 rfl
 have hsz:=h.sz
 obtain ⟨ns,hns⟩ : ∃ ns,ns = D.sure.length:=⟨_,rfl⟩
 rw [← hns] at c0 hsz hfit
 have h1 : ¬ (m : Int) < 1:=by omega
 have h2 : ¬ (32 : Int) < (m : Int):=by omega
 have h3 : ¬ (b : Int) < 0:=by omega
 have h4 : ¬ (ns : Int) - 2 * (m : Int) < (b : Int):=by omega
 clear h hns
 go_enter Tryz.func65,Tryz.ntmps65
 go_wp2
 go_returns
 exact ⟨rfl,Blk.new _ _ _,below_alloc _ _⟩
end Go.Proofs.YtghajmcohdedlaaGreat

namespace Go.Proofs.YtghajmcohdedlaaGreat
open Go.RowKit
def Lr (w : World) (gl r b m ag : Nat) (hi rel : Int) (uv rv : Value) : Prop:=Blk w gl #[.pointer (some ⟨r,0,none⟩),.int .i64 (b : Int),.int .i64 (m : Int),.int .i64 (ag : Int),.int .i64 hi,.int .i64 rel,uv,rv] 60
theorem Lr.stay {w w' : World} {gl r b m ag : Nat} {hi rel : Int} {uv rv : Value} (h : Lr w gl r b m ag hi rel uv rv) (hb : Below w.heap.size w w') : Lr w' gl r b m ag hi rel uv rv:=Blk.stay h hb
set_option maxRecDepth 100000 in
theorem ref_place11 (w : World) (gl r b m ag : Nat) (hi rel : Int) (uv rv : Value) (pos i : Nat) (h : Lr w gl r b m ag hi rel uv rv) (hb : b ≤ 1000) (hp : pos ≤ 1000) (hi16 : i ≤ 1000) : Calls Tryz.prog 61 #[.pointer (some ⟨gl,0,none⟩),.int .i64 (pos : Int),.int .i64 (i : Int)] w fun e w' => e = .returned (.int .i64 ((b + 2 + 16 * pos + i : Nat) : Int)) ∧ w' = w:=by
 have c1 : w.cell? ⟨gl,1,none⟩ = some (.int .i64 (b : Int)):=Blk.cell h 1 rfl
 clear h
 go_enter Tryz.func61,Tryz.ntmps61
 go_wp2
 go_ret
 exact ⟨by go_num,rfl⟩
set_option maxRecDepth 100000 in
set_option maxHeartbeats 2000000 in
theorem ref_sector11 (w : World) (base r q : Nat) (sv wv : Value) (SV WV : List Value) (D : Dk) (gl b m ag : Nat) (hi rel : Int) (uv rv : Value) (pos i : Nat) (hd : Rk w base r q sv wv SV WV D) (h : Lr w gl r b m ag hi rel uv rv) (hb : b ≤ 1000) (hp : pos ≤ 1000) (hi16 : i ≤ 1000) (hre : readE D ((b + 2 + 16 * pos + i : Nat) : Int) = 0) :
  Calls Tryz.prog 99 #[.pointer (some ⟨gl,0,none⟩),.int .i64 (pos : Int),.int .i64 (i : Int)] w fun e w' => Hid (∃ a c,e = .returned (.slice a 64 c) ∧ Rd w' a 64 (nowB D (b + 2 + 16 * pos + i)) ∧ 64 ≤ c) ∧ Below w.heap.size w w':=by
 have HD : Hid (Rk w base r q sv wv SV WV D):=hd
 have HL : Hid (Lr w gl r b m ag hi rel uv rv):=h
 have c0 : w.cell? ⟨gl,0,none⟩ = some (.pointer (some ⟨r,0,none⟩)):=Blk.cell h 0 rfl
 have HB0 : Hid (Below w.heap.size w w.drew):=(Below.refl _ _).drew
 have HPL:=ref_place11 w.drew gl r b m ag hi rel uv rv pos i (HL.out.stay HB0.out) hb hp hi16
 obtain ⟨P,HP⟩ : ∃ P,Hid (P = b + 2 + 16 * pos + i):=⟨_,rfl⟩
 rw [← HP.out] at HPL hre ⊢
 have HRD:=ref_Read w.drew base r q sv wv SV WV D (P : Int) (HD.out.stay HB0.out)
 rw [hre,Int.toNat_natCast] at HRD
 clear hd h hre
 go_enter Tryz.func99,Tryz.ntmps99
 go_wp2_with fail
 go_region_held3 (fun w' => w'.cell? ⟨gl,0,none⟩ = some (.pointer (some ⟨r,0,none⟩))) (first | exact c0 | exact d0 | fail)
  (first
   | (go_at_call 61;refine HPL.mono ?_;rintro e w2 ⟨rfl,hw2⟩;rw [hw2];clear hw2 w2)
   | (go_at_call 41;refine HRD.mono ?_;rintro e w2 ⟨ht2,hb2⟩;obtain ⟨a2,c2,rfl,hr2,hc2⟩ : ∃ a c,e = .returned (.tuple #[.slice a 64 c,.int .i64 0]) ∧ Rd w2 a 64 (nowB D P) ∧ 64 ≤ c:=(ht2.out.elim (fun h => absurd rfl h.1) (fun h => h.2.elim fun a h2 => h2.elim fun c h3 => ⟨a,c,h3.1,h3.2.1,h3.2.2.2⟩));have HR2 : Hid (Rd w2 a2 64 (nowB D P) ∧ 64 ≤ c2):=⟨hr2,hc2⟩;have HB2 : Hid (Below w.heap.size w w2):=HB0.out.trans (hb2.mono HB0.out.size);have d0 : w2.cell? ⟨gl,0,none⟩ = some (.pointer (some ⟨r,0,none⟩)):=Blk.cell (HL.out.stay HB2.out) 0 rfl;clear ht2 hb2 hr2 hc2))
 go_wp2
 go_returns
 exact ⟨⟨a2,c2,rfl,HR2.out.1,HR2.out.2⟩,HB2.out⟩
end Go.Proofs.YtghajmcohdedlaaGreat

namespace Go.Proofs.YtghajmcohdedlaaGreat
open Go.RowKit
theorem infoTold : (Tryz.prog.info? 58).map (·.size) = some 4:=by kernel_rfl
theorem results_Read11 {w : World} {tmps : Array Value} {g : Nat} {cs : List Value} (h2 : tmps[2]?.getD undef = .pointer (some ⟨g,0,none⟩)) (k : Blk w g cs.toArray 58) (hl : cs.length = 4) : (results Tryz.f84 tmps).run Tryz.prog w = .ok (.agg cs.toArray) w:=by
 have hr:=run_loadVar_mid (P:=Tryz.prog) w g 0 58 cs _ (k.range 0 cs (fun j v hj => by simpa using hj)) Tryz.underlying58 rfl (by rw [hl];exact infoTold)
 simp [results,Tryz.results84,h2,hr,asAddr]
end Go.Proofs.YtghajmcohdedlaaGreat

namespace Go.Proofs.YtghajmcohdedlaaGreat
open Go.RowKit
set_option maxRecDepth 100000 in
set_option maxHeartbeats 4000000 in
theorem ref_Same11 (w : World) (B B2 : Nat) (v v2 : Value) (La Lb : List Rc) (ha : Rcs w B v La) (hb : Rcs w B2 v2 Lb) (he : La.map plR = Lb.map plR) (hl : La.length ≤ 100000) :
  Calls Tryz.prog 21 #[v,v2] w fun e w' => e = .returned (.bool true) ∧ Below w.heap.size w w':=by
 obtain ⟨aa,ca,hva⟩:=ha.val
 obtain ⟨ab,cb,hvb⟩:=hb.val
 subst hva hvb
 obtain ⟨n,HN⟩ : ∃ n,Hid (n = La.length):=⟨_,rfl⟩
 have HL : Hid (Lb.length = n):=by
  (show _ = _)
  have h1 : (La.map plR).length = (Lb.map plR).length:=by rw [he]
  rw [List.length_map,List.length_map] at h1
  rw [HN.out]
  exact h1.symm
 rw [← HN.out] at ha hl ⊢
 rw [HL.out] at hb ⊢
 have HA : Hid (Rcs w B (.slice aa n ca) La):=ha
 have HBB : Hid (Rcs w B2 (.slice ab n cb) Lb):=hb
 have HE : Hid (La.map plR = Lb.map plR):=he
 have e0 : ((n : Int) != (n : Int)) = false:=by simp
 clear ha hb he
 go_enter Tryz.func21,Tryz.ntmps21
 go_wp2
 go_loopw [5] (fun t5 wr => ∃ k : Nat,k ≤ n ∧ t5 = .int .i64 (k : Int) ∧ Hid (Below w.heap.size w wr)) (fun t5 _ => n - (intOf t5).toNat)
 case atStart => exact ⟨0,by omega,rfl,Below.refl _ _⟩
 case round =>
  obtain ⟨k,hk,rfl,HB⟩:=hrel
  by_cases hlt : k < n
  ·have hlt' : (k : Int) < (n : Int):=by omega
   have h0k : (0 : Int) ≤ (k : Int):=by omega
   obtain ⟨r,hra⟩ : ∃ r,La[k]? = some r:=⟨_,List.getElem?_eq_getElem (by rw [← HN.out];exact hlt)⟩
   obtain ⟨s,hsb⟩ : ∃ s,Lb[k]? = some s:=⟨_,List.getElem?_eq_getElem (by rw [HL.out];exact hlt)⟩
   have hpl : plR r = plR s:=by
    have h1 : (La.map plR)[k]? = some (plR r):=by rw [List.getElem?_map,hra];rfl
    have h2 : (Lb.map plR)[k]? = some (plR s):=by rw [List.getElem?_map,hsb];rfl
    rw [HE.out,h2] at h1
    simp only [Option.some.injEq] at h1
    exact h1.symm
   obtain ⟨g1,c1,hv1,hg1,hr1⟩:=(HA.out.below HB.out).at_ hra
   obtain ⟨g2,c2,hv2,hg2,hr2⟩:=(HBB.out.below HB.out).at_ hsb
   have e1 : aa = some ⟨g1,0,none⟩:=by simp only [Value.slice.injEq] at hv1;exact hv1.1
   have e2 : ab = some ⟨g2,0,none⟩:=by simp only [Value.slice.injEq] at hv2;exact hv2.1
   subst e1 e2
   have hd1:=((HA.out.below HB.out).bd r (List.mem_of_getElem? hra)).1
   have hd2:=((HBB.out.below HB.out).bd s (List.mem_of_getElem? hsb)).1
   obtain ⟨tk,ra,rn,rc',rbs⟩:=r
   obtain ⟨tk2,sa,sn,sc,sbs⟩:=s
   simp only [plR,Prod.mk.injEq] at hpl
   obtain ⟨rfl,rfl⟩:=hpl
   have d0 : wr.cell? ⟨g1,k * 2,none⟩ = some (.int .i64 (tk : Int)):=hr1 0 _ rfl
   have d1 : wr.cell? ⟨g1,k * 2 + 1,none⟩ = some (.slice ra rn rc'):=hr1 1 _ rfl
   have f0 : wr.cell? ⟨g2,k * 2,none⟩ = some (.int .i64 (tk : Int)):=hr2 0 _ rfl
   have f1 : wr.cell? ⟨g2,k * 2 + 1,none⟩ = some (.slice sa sn sc):=hr2 1 _ rfl
   obtain ⟨S,HSS⟩ : ∃ S,Hid (S = str rbs):=⟨_,rfl⟩
   have x1 : ∀ m,(convert 27 9 (.slice ra rn rc')).run Tryz.prog (wr.drewN m) = .ok (.string S) (wr.drewN m):=fun m => by rw [conv_rd (hd1.below (below_drews (Below.refl _ _) m)) rc',HSS.out]
   have x2 : ∀ m,(convert 27 9 (.slice sa sn sc)).run Tryz.prog (wr.drewN m) = .ok (.string S) (wr.drewN m):=fun m => by rw [conv_rd (hd2.below (below_drews (Below.refl _ _) m)) sc,HSS.out]
   have t1 : ((tk : Int) == (tk : Int)) = true:=by simp
   have t2 : ((tk : Int) != (tk : Int)) = false:=by simp
   clear hra hsb hv1 hv2 hg1 hg2 hr1 hr2 hd1 hd2
   go_wp2
   go_quiet (fail)
   generalize hnq : wr.drewN _ = w2
   have HB2 : Hid (Below w.heap.size w w2):=by show Below _ _ _;rw [← hnq];exact below_drews HB.out _
   clear hnq x1 x2 d0 d1 f0 f1
   go_wp2
   go_roundw
   case rel => exact ⟨k + 1,by omega,by go_num,HB2⟩
   case measure => simp [intOf];omega
  ·have hnl : ¬ (k : Int) < (n : Int):=by omega
   go_wp2
   go_ret
   exact ⟨rfl,HB.out⟩
end Go.Proofs.YtghajmcohdedlaaGreat

namespace Go.Proofs.YtghajmcohdedlaaGreat
open Go.RowKit
def live0 : Dk:=newD 52
def live2 : Dk:=writeD (syncD live0) 3 (headL 1 0)
def live3 : Dk:=writeD live2 4 (layE 2 true (KeyM.key (KeyM.up (5 : Int)) ++ [97,98]))
def live5 : Dk:=crashD (syncD live3) []
theorem live11_a : (getB live0 1 1 0).1 = ((0 : Nat) : Int):=by decide +kernel
theorem live11_b : headsF live0 1 3 = []:=by kernel_rfl
theorem live11_c : wipeL live0 16 3 false = (live0,false,0):=by kernel_rfl
theorem live11_d : syncE live0 = 0 ∧ writeE (syncD live0) 3 (headL 1 0) = 0 ∧ (syncD live0).waits.length < 1000000000 ∧ live2.waits.length < 1000000000 ∧ writeE live2 4 (layE 2 true (KeyM.key (KeyM.up (5 : Int)) ++ [97,98])) = 0 ∧ shutE live0 0 = 0 ∧ live0.age = 0 ∧ live3.age = 0 ∧ syncE live3 = 0 ∧ (syncD live3).age < 1000000000 ∧ live5.down = false ∧ live5.sure.length = 52 ∧ live5.waits.length = 0 ∧ live5.age = 1:=by decide +kernel
theorem live11_e : (getB live5 1 1 0).1 = ((0 : Nat) : Int):=by decide +kernel
theorem live11_f : headsF live5 1 3 = [⟨3,1,0,1⟩]:=by kernel_rfl
theorem live11_g : readAllF live5 [⟨3,1,0,1⟩] 0 [] = ([⟨3,1,5,2⟩],5,[(5,[97,98])]):=by kernel_rfl
theorem live11_h : wipeL live5 14 5 false = (live5,false,0):=by kernel_rfl
end Go.Proofs.YtghajmcohdedlaaGreat
