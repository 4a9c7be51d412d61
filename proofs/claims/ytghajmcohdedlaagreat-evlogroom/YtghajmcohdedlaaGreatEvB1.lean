import Derived.Test.YtghajmcohdedlaaGreatPk20
namespace Go.Proofs.YtghajmcohdedlaaGreat
open Go.RowKit
set_option maxRecDepth 100000
def nextN (U : List Sg) : Nat:=if U = [] then 1 else (lastG U).num + 1
def beginG (P : Nat) (D : Dk) (num hi : Nat) : Int × Dk × Sg :=
 if 4611686018427387904 < num then (6,D,zSg)
 else if (wipeL D 16 P false).2.2 ≠ 0 then ((wipeL D 16 P false).2.2,(wipeL D 16 P false).1,zSg)
 else if syncE (wipeL D 16 P false).1 ≠ 0 then (syncE (wipeL D 16 P false).1,syncD (wipeL D 16 P false).1,zSg)
 else if writeE (syncD (wipeL D 16 P false).1) (P : Int) (headL num hi) ≠ 0 then (writeE (syncD (wipeL D 16 P false).1) (P : Int) (headL num hi),writeD (syncD (wipeL D 16 P false).1) (P : Int) (headL num hi),zSg)
 else (0,writeD (syncD (wipeL D 16 P false).1) (P : Int) (headL num hi),⟨P,num,hi,1⟩)
def beginF (b m : Nat) (D : Dk) (U : List Sg) (hi : Nat) : Int × Dk × Sg :=
 match unusedF b U m 0 with
 | none => (9,D,zSg)
 | some i => beginG (b + 2 + i * 16) D (nextN U) hi
def BeginTold (w : World) (base bd g gs : Nat) (gl gc b m ag : Nat) (U : List Sg) (uv : Value) (hi rel : Nat) (L : List Rc) (rv : Value) (R : Int × Dk × Sg) (e : Ending) (w' : World) : Prop :=
 e = .returned (.tuple #[.agg (sgc R.2.2).toArray,.int .i64 R.1]) ∧ Hid (∃ wv',LgG w' base bd g gs wv' R.2.1 gl gc b m ag U uv hi rel L rv) ∧ Mv w w' bd g gs
theorem wipe_wl : ∀ (cnt : Nat) (D : Dk) (i : Nat) (x : Bool),(wipeL D cnt i x).1.waits.length ≤ D.waits.length + cnt
 | 0,D,i,x => by rw [wipeL];exact Nat.le_refl _
 | cnt + 1,D,i,x => by
  rw [wipeL]
  have h1:=write_wl D (i : Int) []
  have h2:=wipe_wl cnt D (i + 1) x
  have h3:=wipe_wl cnt (writeD D (i : Int) []) (i + 1) true
  split
  ·show D.waits.length ≤ _;omega
  ·split
   ·omega
   ·split
    ·show (writeD D (i : Int) []).waits.length ≤ _;omega
    ·omega
theorem LgG.aside4 {w w0 : World} {base bd g gs : Nat} {wv : Value} {D : Dk} {gl gc b m ag : Nat} {U : List Sg} {uv : Value} {hi rel : Nat} {L : List Rc} {rv : Value} {k : Nat} {cs : Array Value} (h : LgG w base bd g gs wv D gl gc b m ag U uv hi rel L rv) (hb : Blk w k cs 88) (hne : some k ≠ uv.ownBlock) (hm : Mv w0 w bd g gs) (hk : k = w0.heap.size) (hB : bd ≤ w0.heap.size) (v0 v1 v2 v3 : Value) :
  LgG ((((w.setCell ⟨k,0,none⟩ v0).setCell ⟨k,1,none⟩ v1).setCell ⟨k,2,none⟩ v2).setCell ⟨k,3,none⟩ v3) base bd g gs wv D gl gc b m ag U uv hi rel L rv ∧ Mv w0 ((((w.setCell ⟨k,0,none⟩ v0).setCell ⟨k,1,none⟩ v1).setCell ⟨k,2,none⟩ v2).setCell ⟨k,3,none⟩ v3) bd g gs:=by
 subst hk
 have k1:=hb.set 0 v0
 have k2:=k1.set 1 v1
 have k3:=k2.set 2 v2
 exact ⟨(((h.aside hb hne 0 _).aside k1 hne 1 _).aside k2 hne 2 _).aside k3 hne 3 _,(((hm.fresh hB 0 _).fresh hB 1 _).fresh hB 2 _).fresh hB 3 _⟩
theorem unused_lt {b : Nat} {U : List Sg} : ∀ {cnt i j : Nat},unusedF b U cnt i = some j → i ≤ j ∧ j < i + cnt
 | 0,_,_,h => by cases h
 | cnt + 1,i,j,h => by
  rw [unusedF] at h
  split at h
  ·have:=unused_lt h
   omega
  ·cases h
   omega
set_option maxHeartbeats 16000000 in
theorem evl_beginG (w : World) (base bd g gs : Nat) (wv : Value) (D : Dk) (gl gc b m ag : Nat) (U : List Sg) (uv : Value) (hi rel : Nat) (L : List Rc) (rv : Value) (h : LgG w base bd g gs wv D gl gc b m ag U uv hi rel L rv) (hb : b ≤ 1000) (hm : m ≤ 16) (hu : U.length ≤ 16) (hnum : ∀ s ∈ U,s.num ≤ 4611686018427387904) (hhi : hi ≤ 1099511627776) (hw : D.waits.length ≤ 800000000) :
  Calls Tryz.prog 83 #[.pointer (some ⟨gl,0,none⟩)] w fun e w' => BeginTold w base bd g gs gl gc b m ag U uv hi rel L rv (beginF b m D U hi) e w':=by
 obtain ⟨R,HR⟩ : ∃ R,Hid (beginF b m D U hi = R):=⟨_,rfl⟩
 rw [HR.out]
 obtain ⟨POST,HPO⟩ : ∃ P0 : Ending → World → Prop,Hid (P0 = fun e w' => BeginTold w base bd g gs gl gc b m ag U uv hi rel L rv R e w'):=⟨_,rfl⟩
 have hpost : (fun e w' => BeginTold w base bd g gs gl gc b m ag U uv hi rel L rv R e w') = fun e w' => POST e w':=HPO.out.symm
 rw [hpost]
 have HBS : Hid (bd ≤ w.heap.size):=Nat.le_trans h.disk.bg (Nat.le_of_lt h.disk.blk.lt)
 obtain ⟨zb,HZB⟩ : ∃ zb,Hid (zb = w.heap.size):=⟨_,rfl⟩
 have HNE : Hid (some zb ≠ uv.ownBlock):=fun e => by have:=(h.used.lt _ e.symm).2;have:=HZB.out;omega
 obtain ⟨W1,HW1⟩ : ∃ W1,Hid (W1 = w.alloc (.cells #[.int .i64 0,.int .i64 0,.int .i64 0,.int .i64 0] 88)):=⟨_,rfl⟩
 have HB1 : Hid (Below w.heap.size w W1):=by (show Below _ _ _);rw [HW1.out];exact below_alloc _ _
 have HK1 : Hid (Blk W1 zb #[.int .i64 0,.int .i64 0,.int .i64 0,.int .i64 0] 88):=by (show Blk _ _ _ _);rw [HW1.out,HZB.out];exact Blk.new _ _ _
 have HG1 : Hid (LgG W1 base bd g gs wv D gl gc b m ag U uv hi rel L rv):=h.below HB1.out
 have HM1 : Hid (Mv w W1 bd g gs):=Mv.of_below g gs HB1.out HBS.out
 have HUN:=evl_unusedG W1 base gl g gc b m ag hi rel U uv rv HG1.out.log HG1.out.used hb hm hu
 obtain ⟨un,HUL⟩ : ∃ un,Hid (U.length = un):=⟨_,rfl⟩
 obtain ⟨au,cu,hv⟩:=h.used.val
 rw [HUL.out] at hv
 have HUV : Hid (uv = .slice au un cu):=hv
 have hu16 : un ≤ 16:=by rw [← HUL.out];exact hu
 have HNUM : Hid (∀ s ∈ U,s.num ≤ 4611686018427387904):=hnum
 have HHI : Hid (hi ≤ 1099511627776):=hhi
 have HWW : Hid (D.waits.length ≤ 800000000):=hw
 have HBM : Hid (b ≤ 1000 ∧ m ≤ 16):=⟨hb,hm⟩
 -- an error: nothing is begun
 have HERR : Hid (∀ er w' wv' D',R = (er,D',zSg) → LgG w' base bd g gs wv' D' gl gc b m ag U uv hi rel L rv → (∃ cs,Blk w' zb cs 88) → Mv w w' bd g gs → POST (.returned (.tuple #[.agg #[.int .i64 0,.int .i64 0,.int .i64 0,.int .i64 0],.int .i64 er])) ((((w'.setCell ⟨zb,0,none⟩ (.int .i64 0)).setCell ⟨zb,1,none⟩ (.int .i64 0)).setCell ⟨zb,2,none⟩ (.int .i64 0)).setCell ⟨zb,3,none⟩ (.int .i64 0))):=fun er w' wv' D' hr hg hk hm => by
  obtain ⟨cs,hk⟩:=hk
  obtain ⟨h1,h2⟩:=hg.aside4 hk HNE.out hm HZB.out HBS.out (.int .i64 0) (.int .i64 0) (.int .i64 0) (.int .i64 0)
  rw [HPO.out,hr]
  exact ⟨rfl,⟨wv',h1⟩,h2⟩
 have HMK : Hid (∀ {w1 w2 : World} {wvx : Value} {Dx : Dk} {cs : Array Value},Blk w1 zb cs 88 → Disk w1 bd g gs wvx Dx → Mv w1 w2 bd g gs → Blk w2 zb cs 88):=fun hk hd hm => hm.keep hk (hd.off hk (by decide) (by decide)).1 (hd.off hk (by decide) (by decide)).2 (by decide)
 clear h hv hpost hnum hu hw hb hm hhi
 go_enter Tryz.func83,Tryz.ntmps83
 go_upto_region 1 with fail
 rw [← HW1.out,← HZB.out]
 cases hun : unusedF b U m 0 with
 | none =>
  rw [hun] at HUN
  have HRE : Hid (R = (9,D,zSg)):=by (show _ = _);rw [← HR.out];unfold beginF;rw [hun]
  simp only [placeE,Option.isSome_none] at HUN
  clear hun
  go_wp2_with fail
  refine HUN.mono ?_
  rintro e w2 ⟨rfl,hb2⟩
  have HK2 : Hid (Blk w2 zb #[.int .i64 0,.int .i64 0,.int .i64 0,.int .i64 0] 88):=HK1.out.stay hb2
  have HX:=HERR.out 9 w2 wv D HRE.out (HG1.out.below hb2) ⟨_,HK2.out⟩ (HM1.out.trans (Mv.of_below g gs hb2 (Nat.le_trans HBS.out HB1.out.size)))
  have k0 : w2.cell? ⟨zb,0,none⟩ = some (.int .i64 0):=HK2.out.cell 0 rfl
  have k1 : w2.cell? ⟨zb,1,none⟩ = some (.int .i64 0):=HK2.out.cell 1 rfl
  have k2 : w2.cell? ⟨zb,2,none⟩ = some (.int .i64 0):=HK2.out.cell 2 rfl
  have k3 : w2.cell? ⟨zb,3,none⟩ = some (.int .i64 0):=HK2.out.cell 3 rfl
  have f0:=HK2.out.free 0
  have f1:=HK2.out.free 1
  have f2:=HK2.out.free 2
  have f3:=HK2.out.free 3
  clear hb2 HUN
  go_wp2
  refine bodyPost_ret (results_beginE (cs:=[.int .i64 0,.int .i64 0,.int .i64 0,.int .i64 0]) (by rfl) (by rfl) ((((HK2.out.set 0 _).set 1 _).set 2 _).set 3 _) rfl) rfl ?_
  exact HX
 | some i0 =>
  rw [hun] at HUN
  obtain ⟨P,HP⟩ : ∃ P,Hid (b + 2 + i0 * 16 = P):=⟨_,rfl⟩
  have hi0 : i0 < m:=by have:=unused_lt hun;omega
  have HPB : Hid (P ≤ 2000):=by have h1:=HBM.out;have h2:=HP.out;(show _ ≤ _);omega
  have HRE : Hid (R = beginG P D (nextN U) hi):=by (show _ = _);rw [← HR.out];unfold beginF;rw [hun];simp only;rw [HP.out]
  simp only [placeE,Option.isSome_some] at HUN
  rw [HP.out] at HUN
  clear hun hi0
-- @MAIN@
  obtain ⟨num,HNU⟩ : ∃ num,Hid (nextN U = num):=⟨_,rfl⟩
  rw [HNU.out] at HRE
  go_wp2_with fail
  refine HUN.mono ?_
  rintro e w2 ⟨rfl,hb2⟩
  have HK2 : Hid (Blk w2 zb #[.int .i64 0,.int .i64 0,.int .i64 0,.int .i64 0] 88):=HK1.out.stay hb2
  have HG2 : Hid (LgG w2 base bd g gs wv D gl gc b m ag U uv hi rel L rv):=HG1.out.below hb2
  have HM2 : Hid (Mv w w2 bd g gs):=HM1.out.trans (Mv.of_below g gs hb2 (Nat.le_trans HBS.out HB1.out.size))
  have c5 : w2.cell? ⟨gl,5,none⟩ = some (.slice au un cu):=by rw [← HUV.out];exact Blk.cell HG2.out.log 5 rfl
  clear hb2 HUN
  have hcase : (un = 0 ∧ num = 1) ∨ ∃ k1 ln gu,(un = k1 + 1 ∧ num = ln + 1 ∧ ln ≤ 4611686018427387904) ∧ au = some ⟨gu,0,none⟩ ∧ w2.cell? ⟨gu,k1 * 4 + 1,none⟩ = some (.int .i64 (ln : Int)):=by
   have hnu:=HNU.out
   unfold nextN at hnu
   by_cases hU : U = []
   ·rw [if_pos hU] at hnu
    refine .inl ⟨?_,hnu.symm⟩
    rw [← HUL.out,hU]
    rfl
   ·rw [if_neg hU] at hnu
    have hpos : 0 < U.length:=List.length_pos_iff.2 hU
    have hul:=HUL.out
    have hs:=HG2.out.used
    rw [HUV.out] at hs
    rcases hs.2 with ⟨h1,h2⟩ | ⟨gu,c',cur,h1,_⟩
    ·omega
    ·simp only [Value.slice.injEq] at h1
     obtain ⟨rfl,_⟩:=h1
     have hf:=hs.facts (J:=U.length - 1) (x:=lastG U) (by omega) rfl
     have hmem : lastG U ∈ U:=by
      unfold lastG
      rw [List.getD_eq_getElem?_getD,List.getElem?_eq_getElem (by omega : U.length - 1 < U.length)]
      exact List.getElem_mem _
     refine .inr ⟨U.length - 1,(lastG U).num,gu,⟨by omega,hnu.symm,HNUM.out _ hmem⟩,rfl,hf.2.1⟩
  have q9 : IntKind.i64.wrap ((P : Int) + 16) = ((P + 16 : Nat) : Int):=by rw [IntKind.wrap_i64];have:=HPB.out;omega
  obtain ⟨Q,HQ⟩ : ∃ Q,Hid (P + 16 = Q):=⟨_,rfl⟩
  rw [HQ.out] at q9
  obtain ⟨⟨D1,wb,we⟩,HWP⟩ : ∃ r,Hid (wipeL D 16 P false = r):=⟨_,rfl⟩
  unfold beginG at HRE
  rw [HWP.out] at HRE
  simp only at HRE
  have HW1 : Hid (D1.waits.length ≤ 800000016):=by
   have h1:=wipe_wl 16 D P false
   rw [HWP.out] at h1
   have h2:=HWW.out
   (show _ ≤ _)
   simp only at h1
   omega
  have HWI : Hid (Calls Tryz.prog 90 #[.pointer (some ⟨gl,0,none⟩),.int .i64 (P : Int),.int .i64 (Q : Int)] w2 fun e w' => e = .returned (.tuple #[.bool wb,.int .i64 we]) ∧ Hid (∃ wv',Disk w' bd g gs wv' D1) ∧ Mv w2 w' bd g gs):=by
   have h1:=HPB.out
   have h2:=HQ.out
   have h3:=HWW.out
   have:=evl_wipe w2 bd g gs wv D gl gc b m ag hi rel uv rv P Q HG2.out.disk HG2.out.log (by omega) (by omega) (by omega)
   rw [show Q - P = 16 from by omega,HWP.out] at this
   exact this
  obtain ⟨se,HSE⟩ : ∃ se,Hid (syncE D1 = se):=⟨_,rfl⟩
  obtain ⟨D2,HD2⟩ : ∃ D2,Hid (syncD D1 = D2):=⟨_,rfl⟩
  rw [HSE.out,HD2.out] at HRE
  have HW2 : Hid (D2.waits.length < 1000000000):=by
   have h1:=sync_wl D1
   have h2:=HW1.out
   (show _ < _)
   rw [← HD2.out]
   omega
  obtain ⟨er,HER⟩ : ∃ er,Hid (writeE D2 (P : Int) (headL num hi) = er):=⟨_,rfl⟩
  obtain ⟨D3,HD3⟩ : ∃ D3,Hid (writeD D2 (P : Int) (headL num hi) = D3):=⟨_,rfl⟩
  rw [HER.out,HD3.out] at HRE
  have HRW : Hid (∀ (W W' : World) (q : Nat) (v : Value) (E : Dk),Disk W bd g gs v E → Blk W q (vb (headL num hi)).toArray 96 → Mv W W' bd g gs → Rd W' (some ⟨q,0,none⟩) 64 (headL num hi)):=fun W W' q v E hd hq hM => by
   have hsec : Sec (headL num hi):=layE_sec (by omega) (by simp [KeyM.key]) (fun x hx => by
    rcases List.mem_append.1 hx with hx | hx
    ·exact KeyM.key_byte _ x hx
    ·exact KeyM.key_byte _ x hx)
   have hb':=hM.keep hq (hd.off hq (by decide) (by decide)).1 (hd.off hq (by decide) (by decide)).2 (by decide)
   have:=Rd.of_blk hb' hsec.byte
   rw [hsec.len] at this
   exact this
  have HNB : Hid (1 ≤ num ∧ num ≤ 4611686018427387905):=by
   rcases hcase with ⟨_,h⟩ | ⟨_,ln,_,⟨_,h,h2⟩,_⟩
   ·(show _ ∧ _);omega
   ·(show _ ∧ _);omega
  have hstep : Hid (∀ (K : Act → World → Prop),True):=fun _ => trivial
  clear hstep
  rcases hcase with ⟨rfl,hn1⟩ | ⟨k1,ln,gu,⟨hun,hln,hlb⟩,rfl,xn⟩
  ·have HNV : Hid (num = 1):=hn1
   clear hn1
   go_upto_region 8 with fail
   obtain rfl : 1 = num:=HNV.out.symm
   clear c5
   by_cases hnb : 4611686018427387904 < 1
   ·exact absurd hnb (by omega)
   ·have hnb2 : ¬ (4611686018427387904 : Int) < (1 : Int):=by omega
    have hd : decide ((4611686018427387904 : Int) < (1 : Int)) = false:=decide_eq_false hnb2
    have HRE : Hid (R = if we ≠ 0 then (we,D1,zSg) else if se ≠ 0 then (se,D2,zSg) else if er ≠ 0 then (er,D3,zSg) else (0,D3,⟨P,1,hi,1⟩)):=by have h1:=HRE.out;rw [if_neg hnb] at h1;exact h1
    clear hnb
    go_wp2_with fail
    refine HWI.out.mono ?_
    rintro e w3 ⟨rfl,hd3,hm3⟩
    obtain ⟨wv3,hd3⟩:=hd3.out
    have HG3 : Hid (LgG w3 base bd g gs wv3 D1 gl gc b m ag U uv hi rel L rv):=HG2.out.mv hm3 hd3
    have HK3 : Hid (Blk w3 zb #[.int .i64 0,.int .i64 0,.int .i64 0,.int .i64 0] 88):=HMK.out HK2.out HG2.out.disk hm3
    have HM3 : Hid (Mv w w3 bd g gs):=HM2.out.trans hm3
    clear hd3 hm3 q9
    by_cases hwe : we = 0
    ·subst hwe
     have HRE : Hid (R = if se ≠ 0 then (se,D2,zSg) else if er ≠ 0 then (er,D3,zSg) else (0,D3,⟨P,1,hi,1⟩)):=by have h1:=HRE.out;rw [if_neg (by simp)] at h1;exact h1
     have c0 : w3.cell? ⟨gl,0,none⟩ = some (.pointer (some ⟨g,0,none⟩)):=Blk.cell HG3.out.log 0 rfl
     have HSN:=disk_Sync w3 bd g gs wv3 D1 HG3.out.disk
     rw [HSE.out,HD2.out] at HSN
     go_wp2_with fail
     refine HSN.mono ?_
     rintro e w4 ⟨rfl,hd4,hm4⟩
     obtain ⟨wv4,hd4⟩:=hd4.out
     have HG4 : Hid (LgG w4 base bd g gs wv4 D2 gl gc b m ag U uv hi rel L rv):=HG3.out.mv hm4 hd4
     have HK4 : Hid (Blk w4 zb #[.int .i64 0,.int .i64 0,.int .i64 0,.int .i64 0] 88):=HMK.out HK3.out HG3.out.disk hm4
     have HM4 : Hid (Mv w w4 bd g gs):=HM3.out.trans hm4
     clear hd4 hm4 c0 HSN
     by_cases hse : se = 0
     ·subst hse
      have HRE : Hid (R = if er ≠ 0 then (er,D3,zSg) else (0,D3,⟨P,1,hi,1⟩)):=by have h1:=HRE.out;rw [if_neg (by simp)] at h1;exact h1
      have c0 : w4.cell? ⟨gl,0,none⟩ = some (.pointer (some ⟨g,0,none⟩)):=Blk.cell HG4.out.log 0 rfl
      have c6 : w4.cell? ⟨gl,6,none⟩ = some (.int .i64 (hi : Int)):=Blk.cell HG4.out.log 6 rfl
      have HBD : Hid (Below w4.heap.size w4 w4.drew):=(Below.refl _ _).drew
      have HG5 : Hid (LgG w4.drew base bd g gs wv4 D2 gl gc b m ag U uv hi rel L rv):=HG4.out.below HBD.out
      go_wp2_with fail
      go_region_held3 (fun w' => w'.cell? ⟨gl,0,none⟩ = some (.pointer (some ⟨g,0,none⟩)) ∧ w'.cell? ⟨gl,6,none⟩ = some (.int .i64 (hi : Int))) (first | exact ⟨c0,c6⟩ | exact s6 | exact s7 | exact s8 | fail)
       (first
        | (go_at_call 95;refine (evl_head w4.drew (1 : Int) (hi : Int) (by have:=HNB.out;omega) (by have:=HHI.out;omega)).mono ?_;rintro e w6 ⟨ht6,hb6⟩;obtain ⟨a6,c6',rfl,ho6⟩:=ht6.out;have HG6 : Hid (LgG w6 base bd g gs wv4 D2 gl gc b m ag U uv hi rel L rv):=HG5.out.below hb6;have HR6 : Hid (Rd w6 a6 16 (KeyM.key (KeyM.up (1 : Int)) ++ KeyM.key (KeyM.up (hi : Int)))):=ho6.rd;have HB6 : Hid (Below w4.heap.size w4 w6):=HBD.out.trans hb6;have s6 : w6.cell? ⟨gl,0,none⟩ = some (.pointer (some ⟨g,0,none⟩)) ∧ w6.cell? ⟨gl,6,none⟩ = some (.int .i64 (hi : Int)):=⟨Blk.cell HG6.out.log 0 rfl,Blk.cell HG6.out.log 6 rfl⟩;clear ht6 ho6 hb6)
        | (go_at_call 51;refine (evl_lay 1 true a6 16 c6' _ w6 HR6.out (by omega)).mono ?_;rintro e w7 ⟨q7,rfl,hq7,hk7,hb7⟩;have HG7 : Hid (LgG w7 base bd g gs wv4 D2 gl gc b m ag U uv hi rel L rv):=HG6.out.below hb7;have HQ7 : Hid (Blk w7 q7 (vb (headL 1 hi)).toArray 96):=hk7;have HB7 : Hid (Below w4.heap.size w4 w7):=HB6.out.trans (hb7.mono HB6.out.size);have s7 : w7.cell? ⟨gl,0,none⟩ = some (.pointer (some ⟨g,0,none⟩)) ∧ w7.cell? ⟨gl,6,none⟩ = some (.int .i64 (hi : Int)):=⟨Blk.cell HG7.out.log 0 rfl,Blk.cell HG7.out.log 6 rfl⟩;clear hq7 hk7 hb7)
        | (go_at_call 25;refine (disk_Write w7 bd g gs wv4 D2 (P : Int) (some ⟨q7,0,none⟩) 64 64 (headL 1 hi) HG7.out.disk (fun W' hM => HRW.out w7 W' q7 wv4 D2 HG7.out.disk HQ7.out hM) (by omega) HW2.out).mono ?_;rw [HER.out,HD3.out];rintro e w8 ⟨rfl,hd8,hm8⟩;have HD8 : Hid (∃ wv',LgG w8 base bd g gs wv' D3 gl gc b m ag U uv hi rel L rv):=hd8.out.elim fun wv8 hq8 => ⟨wv8,HG7.out.mv hm8 hq8⟩;have HM8 : Hid (Mv w7 w8 bd g gs):=hm8;have s8 : w8.cell? ⟨gl,0,none⟩ = some (.pointer (some ⟨g,0,none⟩)) ∧ w8.cell? ⟨gl,6,none⟩ = some (.int .i64 (hi : Int)):=HD8.out.elim fun wv8 hl8 => ⟨Blk.cell hl8.log 0 rfl,Blk.cell hl8.log 6 rfl⟩;clear hd8 hm8))
      have HK8 : Hid (Blk w8 zb #[.int .i64 0,.int .i64 0,.int .i64 0,.int .i64 0] 88):=HMK.out (HK4.out.stay HB7.out) HG7.out.disk HM8.out
      have HB8 : Hid (Mv w w8 bd g gs):=(HM4.out.trans (Mv.of_below g gs HB7.out (Nat.le_trans HBS.out HM4.out.low.size))).trans HM8.out
      obtain ⟨wv8,hl8⟩:=HD8.out
      have HG8 : Hid (LgG w8 base bd g gs wv8 D3 gl gc b m ag U uv hi rel L rv):=hl8
      have d6 : w8.cell? ⟨gl,6,none⟩ = some (.int .i64 (hi : Int)):=s8.2
      clear s6 s7 s8 c0 c6 hl8
      by_cases her : er = 0
      ·subst her
       have HRE : Hid (R = (0,D3,⟨P,1,hi,1⟩)):=by have h1:=HRE.out;rw [if_neg (by simp)] at h1;exact h1
       have k0 : w8.cell? ⟨zb,0,none⟩ = some (.int .i64 0):=HK8.out.cell 0 rfl
       have k1 : w8.cell? ⟨zb,1,none⟩ = some (.int .i64 0):=HK8.out.cell 1 rfl
       have k2 : w8.cell? ⟨zb,2,none⟩ = some (.int .i64 0):=HK8.out.cell 2 rfl
       have k3 : w8.cell? ⟨zb,3,none⟩ = some (.int .i64 0):=HK8.out.cell 3 rfl
       have f0:=HK8.out.free 0
       have f1:=HK8.out.free 1
       have f2:=HK8.out.free 2
       have f3:=HK8.out.free 3
       go_wp2
       refine bodyPost_ret (results_beginE (cs:=[.int .i64 (P : Int),.int .i64 (1 : Int),.int .i64 (hi : Int),.int .i64 1]) (by rfl) (by rfl) ((((HK8.out.set 0 _).set 1 _).set 2 _).set 3 _) rfl) rfl ?_
       obtain ⟨h1,h2⟩:=HG8.out.aside4 HK8.out HNE.out HB8.out HZB.out HBS.out (.int .i64 (P : Int)) (.int .i64 (1 : Int)) (.int .i64 (hi : Int)) (.int .i64 1)
       rw [HPO.out,HRE.out]
       exact ⟨rfl,⟨wv8,h1⟩,h2⟩
      ·have e5 : (er != 0) = true:=by rw [bne_iff_ne];exact her
       have HX:=HERR.out er w8 wv8 D3 (by rw [HRE.out,if_pos her]) HG8.out ⟨_,HK8.out⟩ HB8.out
       have k0 : w8.cell? ⟨zb,0,none⟩ = some (.int .i64 0):=HK8.out.cell 0 rfl
       have k1 : w8.cell? ⟨zb,1,none⟩ = some (.int .i64 0):=HK8.out.cell 1 rfl
       have k2 : w8.cell? ⟨zb,2,none⟩ = some (.int .i64 0):=HK8.out.cell 2 rfl
       have k3 : w8.cell? ⟨zb,3,none⟩ = some (.int .i64 0):=HK8.out.cell 3 rfl
       have f0:=HK8.out.free 0
       have f1:=HK8.out.free 1
       have f2:=HK8.out.free 2
       have f3:=HK8.out.free 3
       go_wp2
       refine bodyPost_ret (results_beginE (cs:=[.int .i64 0,.int .i64 0,.int .i64 0,.int .i64 0]) (by rfl) (by rfl) ((((HK8.out.set 0 _).set 1 _).set 2 _).set 3 _) rfl) rfl ?_
       exact HX
     ·have e5 : (se != 0) = true:=by rw [bne_iff_ne];exact hse
      have HX:=HERR.out se w4 wv4 D2 (by rw [HRE.out,if_pos hse]) HG4.out ⟨_,HK4.out⟩ HM4.out
      have k0 : w4.cell? ⟨zb,0,none⟩ = some (.int .i64 0):=HK4.out.cell 0 rfl
      have k1 : w4.cell? ⟨zb,1,none⟩ = some (.int .i64 0):=HK4.out.cell 1 rfl
      have k2 : w4.cell? ⟨zb,2,none⟩ = some (.int .i64 0):=HK4.out.cell 2 rfl
      have k3 : w4.cell? ⟨zb,3,none⟩ = some (.int .i64 0):=HK4.out.cell 3 rfl
      have f0:=HK4.out.free 0
      have f1:=HK4.out.free 1
      have f2:=HK4.out.free 2
      have f3:=HK4.out.free 3
      go_wp2
      refine bodyPost_ret (results_beginE (cs:=[.int .i64 0,.int .i64 0,.int .i64 0,.int .i64 0]) (by rfl) (by rfl) ((((HK4.out.set 0 _).set 1 _).set 2 _).set 3 _) rfl) rfl ?_
      exact HX
    ·have e5 : (we != 0) = true:=by rw [bne_iff_ne];exact hwe
     have HX:=HERR.out we w3 wv3 D1 (by rw [HRE.out,if_pos hwe]) HG3.out ⟨_,HK3.out⟩ HM3.out
     have k0 : w3.cell? ⟨zb,0,none⟩ = some (.int .i64 0):=HK3.out.cell 0 rfl
     have k1 : w3.cell? ⟨zb,1,none⟩ = some (.int .i64 0):=HK3.out.cell 1 rfl
     have k2 : w3.cell? ⟨zb,2,none⟩ = some (.int .i64 0):=HK3.out.cell 2 rfl
     have k3 : w3.cell? ⟨zb,3,none⟩ = some (.int .i64 0):=HK3.out.cell 3 rfl
     have f0:=HK3.out.free 0
     have f1:=HK3.out.free 1
     have f2:=HK3.out.free 2
     have f3:=HK3.out.free 3
     go_wp2
     refine bodyPost_ret (results_beginE (cs:=[.int .i64 0,.int .i64 0,.int .i64 0,.int .i64 0]) (by rfl) (by rfl) ((((HK3.out.set 0 _).set 1 _).set 2 _).set 3 _) rfl) rfl ?_
     exact HX
  ·have q1 : IntKind.i64.wrap ((un : Int) - 1) = (k1 : Int):=by rw [IntKind.wrap_i64];omega
   have q2 : (0 : Int) ≤ (k1 : Int):=by omega
   have q3 : (k1 : Int) < (un : Int):=by omega
   have q4 : IntKind.i64.wrap ((ln : Int) + 1) = (num : Int):=by rw [IntKind.wrap_i64];omega
   have HUN1 : Hid (un = k1 + 1 ∧ num = ln + 1):=⟨hun,hln⟩
   clear hun hln hlb
   go_upto_region 8 with fail
   clear c5
   by_cases hnb : 4611686018427387904 < num
   ·have hnb2 : (4611686018427387904 : Int) < (num : Int):=by omega
    have hd : decide ((4611686018427387904 : Int) < (num : Int)) = true:=decide_eq_true hnb2
    have HX:=HERR.out 6 w2 wv D (by rw [HRE.out,if_pos hnb]) HG2.out ⟨_,HK2.out⟩ HM2.out
    have k0 : w2.cell? ⟨zb,0,none⟩ = some (.int .i64 0):=HK2.out.cell 0 rfl
    have k1 : w2.cell? ⟨zb,1,none⟩ = some (.int .i64 0):=HK2.out.cell 1 rfl
    have k2 : w2.cell? ⟨zb,2,none⟩ = some (.int .i64 0):=HK2.out.cell 2 rfl
    have k3 : w2.cell? ⟨zb,3,none⟩ = some (.int .i64 0):=HK2.out.cell 3 rfl
    have f0:=HK2.out.free 0
    have f1:=HK2.out.free 1
    have f2:=HK2.out.free 2
    have f3:=HK2.out.free 3
    go_wp2
    refine bodyPost_ret (results_beginE (cs:=[.int .i64 0,.int .i64 0,.int .i64 0,.int .i64 0]) (by rfl) (by rfl) ((((HK2.out.set 0 _).set 1 _).set 2 _).set 3 _) rfl) rfl ?_
    exact HX
   ·have hnb2 : ¬ (4611686018427387904 : Int) < (num : Int):=by omega
    have hd : decide ((4611686018427387904 : Int) < (num : Int)) = false:=decide_eq_false hnb2
    have HRE : Hid (R = if we ≠ 0 then (we,D1,zSg) else if se ≠ 0 then (se,D2,zSg) else if er ≠ 0 then (er,D3,zSg) else (0,D3,⟨P,num,hi,1⟩)):=by have h1:=HRE.out;rw [if_neg hnb] at h1;exact h1
    clear hnb
    go_wp2_with fail
    refine HWI.out.mono ?_
    rintro e w3 ⟨rfl,hd3,hm3⟩
    obtain ⟨wv3,hd3⟩:=hd3.out
    have HG3 : Hid (LgG w3 base bd g gs wv3 D1 gl gc b m ag U uv hi rel L rv):=HG2.out.mv hm3 hd3
    have HK3 : Hid (Blk w3 zb #[.int .i64 0,.int .i64 0,.int .i64 0,.int .i64 0] 88):=HMK.out HK2.out HG2.out.disk hm3
    have HM3 : Hid (Mv w w3 bd g gs):=HM2.out.trans hm3
    clear hd3 hm3 q9
    by_cases hwe : we = 0
    ·subst hwe
     have HRE : Hid (R = if se ≠ 0 then (se,D2,zSg) else if er ≠ 0 then (er,D3,zSg) else (0,D3,⟨P,num,hi,1⟩)):=by have h1:=HRE.out;rw [if_neg (by simp)] at h1;exact h1
     have c0 : w3.cell? ⟨gl,0,none⟩ = some (.pointer (some ⟨g,0,none⟩)):=Blk.cell HG3.out.log 0 rfl
     have HSN:=disk_Sync w3 bd g gs wv3 D1 HG3.out.disk
     rw [HSE.out,HD2.out] at HSN
     go_wp2_with fail
     refine HSN.mono ?_
     rintro e w4 ⟨rfl,hd4,hm4⟩
     obtain ⟨wv4,hd4⟩:=hd4.out
     have HG4 : Hid (LgG w4 base bd g gs wv4 D2 gl gc b m ag U uv hi rel L rv):=HG3.out.mv hm4 hd4
     have HK4 : Hid (Blk w4 zb #[.int .i64 0,.int .i64 0,.int .i64 0,.int .i64 0] 88):=HMK.out HK3.out HG3.out.disk hm4
     have HM4 : Hid (Mv w w4 bd g gs):=HM3.out.trans hm4
     clear hd4 hm4 c0 HSN
     by_cases hse : se = 0
     ·subst hse
      have HRE : Hid (R = if er ≠ 0 then (er,D3,zSg) else (0,D3,⟨P,num,hi,1⟩)):=by have h1:=HRE.out;rw [if_neg (by simp)] at h1;exact h1
      have c0 : w4.cell? ⟨gl,0,none⟩ = some (.pointer (some ⟨g,0,none⟩)):=Blk.cell HG4.out.log 0 rfl
      have c6 : w4.cell? ⟨gl,6,none⟩ = some (.int .i64 (hi : Int)):=Blk.cell HG4.out.log 6 rfl
      have HBD : Hid (Below w4.heap.size w4 w4.drew):=(Below.refl _ _).drew
      have HG5 : Hid (LgG w4.drew base bd g gs wv4 D2 gl gc b m ag U uv hi rel L rv):=HG4.out.below HBD.out
      go_wp2_with fail
      go_region_held3 (fun w' => w'.cell? ⟨gl,0,none⟩ = some (.pointer (some ⟨g,0,none⟩)) ∧ w'.cell? ⟨gl,6,none⟩ = some (.int .i64 (hi : Int))) (first | exact ⟨c0,c6⟩ | exact s6 | exact s7 | exact s8 | fail)
       (first
        | (go_at_call 95;refine (evl_head w4.drew (num : Int) (hi : Int) (by have:=HNB.out;omega) (by have:=HHI.out;omega)).mono ?_;rintro e w6 ⟨ht6,hb6⟩;obtain ⟨a6,c6',rfl,ho6⟩:=ht6.out;have HG6 : Hid (LgG w6 base bd g gs wv4 D2 gl gc b m ag U uv hi rel L rv):=HG5.out.below hb6;have HR6 : Hid (Rd w6 a6 16 (KeyM.key (KeyM.up (num : Int)) ++ KeyM.key (KeyM.up (hi : Int)))):=ho6.rd;have HB6 : Hid (Below w4.heap.size w4 w6):=HBD.out.trans hb6;have s6 : w6.cell? ⟨gl,0,none⟩ = some (.pointer (some ⟨g,0,none⟩)) ∧ w6.cell? ⟨gl,6,none⟩ = some (.int .i64 (hi : Int)):=⟨Blk.cell HG6.out.log 0 rfl,Blk.cell HG6.out.log 6 rfl⟩;clear ht6 ho6 hb6)
        | (go_at_call 51;refine (evl_lay 1 true a6 16 c6' _ w6 HR6.out (by omega)).mono ?_;rintro e w7 ⟨q7,rfl,hq7,hk7,hb7⟩;have HG7 : Hid (LgG w7 base bd g gs wv4 D2 gl gc b m ag U uv hi rel L rv):=HG6.out.below hb7;have HQ7 : Hid (Blk w7 q7 (vb (headL num hi)).toArray 96):=hk7;have HB7 : Hid (Below w4.heap.size w4 w7):=HB6.out.trans (hb7.mono HB6.out.size);have s7 : w7.cell? ⟨gl,0,none⟩ = some (.pointer (some ⟨g,0,none⟩)) ∧ w7.cell? ⟨gl,6,none⟩ = some (.int .i64 (hi : Int)):=⟨Blk.cell HG7.out.log 0 rfl,Blk.cell HG7.out.log 6 rfl⟩;clear hq7 hk7 hb7)
        | (go_at_call 25;refine (disk_Write w7 bd g gs wv4 D2 (P : Int) (some ⟨q7,0,none⟩) 64 64 (headL num hi) HG7.out.disk (fun W' hM => HRW.out w7 W' q7 wv4 D2 HG7.out.disk HQ7.out hM) (by omega) HW2.out).mono ?_;rw [HER.out,HD3.out];rintro e w8 ⟨rfl,hd8,hm8⟩;have HD8 : Hid (∃ wv',LgG w8 base bd g gs wv' D3 gl gc b m ag U uv hi rel L rv):=hd8.out.elim fun wv8 hq8 => ⟨wv8,HG7.out.mv hm8 hq8⟩;have HM8 : Hid (Mv w7 w8 bd g gs):=hm8;have s8 : w8.cell? ⟨gl,0,none⟩ = some (.pointer (some ⟨g,0,none⟩)) ∧ w8.cell? ⟨gl,6,none⟩ = some (.int .i64 (hi : Int)):=HD8.out.elim fun wv8 hl8 => ⟨Blk.cell hl8.log 0 rfl,Blk.cell hl8.log 6 rfl⟩;clear hd8 hm8))
      have HK8 : Hid (Blk w8 zb #[.int .i64 0,.int .i64 0,.int .i64 0,.int .i64 0] 88):=HMK.out (HK4.out.stay HB7.out) HG7.out.disk HM8.out
      have HB8 : Hid (Mv w w8 bd g gs):=(HM4.out.trans (Mv.of_below g gs HB7.out (Nat.le_trans HBS.out HM4.out.low.size))).trans HM8.out
      obtain ⟨wv8,hl8⟩:=HD8.out
      have HG8 : Hid (LgG w8 base bd g gs wv8 D3 gl gc b m ag U uv hi rel L rv):=hl8
      have d6 : w8.cell? ⟨gl,6,none⟩ = some (.int .i64 (hi : Int)):=s8.2
      clear s6 s7 s8 c0 c6 hl8
      by_cases her : er = 0
      ·subst her
       have HRE : Hid (R = (0,D3,⟨P,num,hi,1⟩)):=by have h1:=HRE.out;rw [if_neg (by simp)] at h1;exact h1
       have k0 : w8.cell? ⟨zb,0,none⟩ = some (.int .i64 0):=HK8.out.cell 0 rfl
       have k1 : w8.cell? ⟨zb,1,none⟩ = some (.int .i64 0):=HK8.out.cell 1 rfl
       have k2 : w8.cell? ⟨zb,2,none⟩ = some (.int .i64 0):=HK8.out.cell 2 rfl
       have k3 : w8.cell? ⟨zb,3,none⟩ = some (.int .i64 0):=HK8.out.cell 3 rfl
       have f0:=HK8.out.free 0
       have f1:=HK8.out.free 1
       have f2:=HK8.out.free 2
       have f3:=HK8.out.free 3
       go_wp2
       refine bodyPost_ret (results_beginE (cs:=[.int .i64 (P : Int),.int .i64 (num : Int),.int .i64 (hi : Int),.int .i64 1]) (by rfl) (by rfl) ((((HK8.out.set 0 _).set 1 _).set 2 _).set 3 _) rfl) rfl ?_
       obtain ⟨h1,h2⟩:=HG8.out.aside4 HK8.out HNE.out HB8.out HZB.out HBS.out (.int .i64 (P : Int)) (.int .i64 (num : Int)) (.int .i64 (hi : Int)) (.int .i64 1)
       rw [HPO.out,HRE.out]
       exact ⟨rfl,⟨wv8,h1⟩,h2⟩
      ·have e5 : (er != 0) = true:=by rw [bne_iff_ne];exact her
       have HX:=HERR.out er w8 wv8 D3 (by rw [HRE.out,if_pos her]) HG8.out ⟨_,HK8.out⟩ HB8.out
       have k0 : w8.cell? ⟨zb,0,none⟩ = some (.int .i64 0):=HK8.out.cell 0 rfl
       have k1 : w8.cell? ⟨zb,1,none⟩ = some (.int .i64 0):=HK8.out.cell 1 rfl
       have k2 : w8.cell? ⟨zb,2,none⟩ = some (.int .i64 0):=HK8.out.cell 2 rfl
       have k3 : w8.cell? ⟨zb,3,none⟩ = some (.int .i64 0):=HK8.out.cell 3 rfl
       have f0:=HK8.out.free 0
       have f1:=HK8.out.free 1
       have f2:=HK8.out.free 2
       have f3:=HK8.out.free 3
       go_wp2
       refine bodyPost_ret (results_beginE (cs:=[.int .i64 0,.int .i64 0,.int .i64 0,.int .i64 0]) (by rfl) (by rfl) ((((HK8.out.set 0 _).set 1 _).set 2 _).set 3 _) rfl) rfl ?_
       exact HX
     ·have e5 : (se != 0) = true:=by rw [bne_iff_ne];exact hse
      have HX:=HERR.out se w4 wv4 D2 (by rw [HRE.out,if_pos hse]) HG4.out ⟨_,HK4.out⟩ HM4.out
      have k0 : w4.cell? ⟨zb,0,none⟩ = some (.int .i64 0):=HK4.out.cell 0 rfl
      have k1 : w4.cell? ⟨zb,1,none⟩ = some (.int .i64 0):=HK4.out.cell 1 rfl
      have k2 : w4.cell? ⟨zb,2,none⟩ = some (.int .i64 0):=HK4.out.cell 2 rfl
      have k3 : w4.cell? ⟨zb,3,none⟩ = some (.int .i64 0):=HK4.out.cell 3 rfl
      have f0:=HK4.out.free 0
      have f1:=HK4.out.free 1
      have f2:=HK4.out.free 2
      have f3:=HK4.out.free 3
      go_wp2
      refine bodyPost_ret (results_beginE (cs:=[.int .i64 0,.int .i64 0,.int .i64 0,.int .i64 0]) (by rfl) (by rfl) ((((HK4.out.set 0 _).set 1 _).set 2 _).set 3 _) rfl) rfl ?_
      exact HX
    ·have e5 : (we != 0) = true:=by rw [bne_iff_ne];exact hwe
     have HX:=HERR.out we w3 wv3 D1 (by rw [HRE.out,if_pos hwe]) HG3.out ⟨_,HK3.out⟩ HM3.out
     have k0 : w3.cell? ⟨zb,0,none⟩ = some (.int .i64 0):=HK3.out.cell 0 rfl
     have k1 : w3.cell? ⟨zb,1,none⟩ = some (.int .i64 0):=HK3.out.cell 1 rfl
     have k2 : w3.cell? ⟨zb,2,none⟩ = some (.int .i64 0):=HK3.out.cell 2 rfl
     have k3 : w3.cell? ⟨zb,3,none⟩ = some (.int .i64 0):=HK3.out.cell 3 rfl
     have f0:=HK3.out.free 0
     have f1:=HK3.out.free 1
     have f2:=HK3.out.free 2
     have f3:=HK3.out.free 3
     go_wp2
     refine bodyPost_ret (results_beginE (cs:=[.int .i64 0,.int .i64 0,.int .i64 0,.int .i64 0]) (by rfl) (by rfl) ((((HK3.out.set 0 _).set 1 _).set 2 _).set 3 _) rfl) rfl ?_
     exact HX
-- @END@
end Go.Proofs.YtghajmcohdedlaaGreat
