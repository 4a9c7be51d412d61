import Derived.Test.YtghajmcohdedlaaGreatEvB1
import Derived.Maps.AppendAt
namespace Go.Proofs.YtghajmcohdedlaaGreat
open Go.RowKit
set_option maxRecDepth 100000
def segForF (b m : Nat) (D : Dk) (U : List Sg) (hi n : Nat) : Int × Dk × Sg :=
 if U ≠ [] ∧ n + (lastG U).en ≤ 16 then (0,D,lastG U) else beginF b m D U hi
set_option maxHeartbeats 16000000 in
theorem evl_segForG (w : World) (base bd g gs : Nat) (wv : Value) (D : Dk) (gl gc b m ag : Nat) (U : List Sg) (uv : Value) (hi rel : Nat) (L : List Rc) (rv : Value) (n : Nat) (h : LgG w base bd g gs wv D gl gc b m ag U uv hi rel L rv) (hb : b ≤ 1000) (hm : m ≤ 16) (hu : U.length ≤ 16) (hnum : ∀ s ∈ U,s.num ≤ 4611686018427387904 ∧ s.en ≤ 16) (hhi : hi ≤ 1099511627776) (hw : D.waits.length ≤ 800000000) :
  Calls Tryz.prog 50 #[.pointer (some ⟨gl,0,none⟩),.int .i64 (n : Int)] w fun e w' => BeginTold w base bd g gs gl gc b m ag U uv hi rel L rv (segForF b m D U hi n) e w':=by
 obtain ⟨R,HR⟩ : ∃ R,Hid (segForF b m D U hi n = R):=⟨_,rfl⟩
 rw [HR.out]
 obtain ⟨POST,HPO⟩ : ∃ P0 : Ending → World → Prop,Hid (P0 = fun e w' => BeginTold w base bd g gs gl gc b m ag U uv hi rel L rv R e w'):=⟨_,rfl⟩
 have hpost : (fun e w' => BeginTold w base bd g gs gl gc b m ag U uv hi rel L rv R e w') = fun e w' => POST e w':=HPO.out.symm
 rw [hpost]
 have HBS : Hid (bd ≤ w.heap.size):=Nat.le_trans h.disk.bg (Nat.le_of_lt h.disk.blk.lt)
 obtain ⟨zb,HZB⟩ : ∃ zb,Hid (zb = w.heap.size):=⟨_,rfl⟩
 have HNE : Hid (some zb ≠ uv.ownBlock):=fun e => by have:=(h.used.lt _ e.symm).2;have:=HZB.out;omega
 obtain ⟨W1,HW1⟩ : ∃ W1,Hid (W1 = w.alloc (.cells #[.int .i64 0,.int .i64 0,.int .i64 0,.int .i64 0] 88)):=⟨_,rfl⟩
 have HB1 : Hid (Below w.heap.size w W1):=by (show Below _ _ _);rw [HW1.out];exact below_alloc _ _
 have HK1 : Hid (Blk W1 zb #[.int .i64 0,.int .i64 0,.int .i64 0,.int .i64 0] 88):=by (show Blk _ _ _ _);rw [HW1.out,HZB.out];exact Blk.new _ _ _
 have HG1 : Hid (LgG W1 base bd g gs wv D gl gc b m ag U uv hi rel L rv):=h.below HB1.out
 have HM1 : Hid (Mv w W1 bd g gs):=Mv.of_below g gs HB1.out HBS.out
 have HBG : Hid (Calls Tryz.prog 83 #[.pointer (some ⟨gl,0,none⟩)] W1 fun e w' => BeginTold W1 base bd g gs gl gc b m ag U uv hi rel L rv (beginF b m D U hi) e w'):=evl_beginG W1 base bd g gs wv D gl gc b m ag U uv hi rel L rv HG1.out hb hm hu (fun s hs => (hnum s hs).1) hhi hw
 obtain ⟨un,HUL⟩ : ∃ un,Hid (U.length = un):=⟨_,rfl⟩
 obtain ⟨au,cu,hv⟩:=h.used.val
 rw [HUL.out] at hv
 have HUV : Hid (uv = .slice au un cu):=hv
 have hu16 : un ≤ 16:=by rw [← HUL.out];exact hu
 have HMK : Hid (∀ {w1 w2 : World} {wvx : Value} {Dx : Dk} {cs : Array Value},Blk w1 zb cs 88 → Disk w1 bd g gs wvx Dx → Mv w1 w2 bd g gs → Blk w2 zb cs 88):=fun hk hd hm => hm.keep hk (hd.off hk (by decide) (by decide)).1 (hd.off hk (by decide) (by decide)).2 (by decide)
 have c5 : W1.cell? ⟨gl,5,none⟩ = some (.slice au un cu):=by rw [← HUV.out];exact Blk.cell HG1.out.log 5 rfl
 -- what is answered,once the answer lies in the result's block
 have HFIN : Hid (∀ (w' : World) (wv' : Value) (re : Int) (RD : Dk) (p q s e : Nat),R = (re,RD,⟨p,q,s,e⟩) → LgG w' base bd g gs wv' RD gl gc b m ag U uv hi rel L rv → (∃ cs,Blk w' zb cs 88) → Mv w w' bd g gs → POST (.returned (.tuple #[.agg #[.int .i64 (p : Int),.int .i64 (q : Int),.int .i64 (s : Int),.int .i64 (e : Int)],.int .i64 re])) ((((w'.setCell ⟨zb,0,none⟩ (.int .i64 (p : Int))).setCell ⟨zb,1,none⟩ (.int .i64 (q : Int))).setCell ⟨zb,2,none⟩ (.int .i64 (s : Int))).setCell ⟨zb,3,none⟩ (.int .i64 (e : Int)))):=fun w' wv' re RD p q s e hr hg hk hm => by
  obtain ⟨cs,hk⟩:=hk
  obtain ⟨h1,h2⟩:=hg.aside4 hk HNE.out hm HZB.out HBS.out (.int .i64 (p : Int)) (.int .i64 (q : Int)) (.int .i64 (s : Int)) (.int .i64 (e : Int))
  rw [HPO.out,hr]
  exact ⟨rfl,⟨wv',h1⟩,h2⟩
 have hcase : (un = 0 ∧ R = beginF b m D U hi) ∨ ∃ k1 gu p q s e,(un = k1 + 1 ∧ au = some ⟨gu,0,none⟩ ∧ e ≤ 16 ∧ lastG U = ⟨p,q,s,e⟩) ∧ (W1.cell? ⟨gu,k1 * 4,none⟩ = some (.int .i64 (p : Int)) ∧ W1.cell? ⟨gu,k1 * 4 + 1,none⟩ = some (.int .i64 (q : Int)) ∧ W1.cell? ⟨gu,k1 * 4 + 2,none⟩ = some (.int .i64 (s : Int)) ∧ W1.cell? ⟨gu,k1 * 4 + 3,none⟩ = some (.int .i64 (e : Int))) ∧ R = (if n + e ≤ 16 then (0,D,⟨p,q,s,e⟩) else beginF b m D U hi):=by
  have hr:=HR.out
  unfold segForF at hr
  have hul:=HUL.out
  by_cases hU : U = []
  ·rw [if_neg (by simp [hU])] at hr
   exact .inl ⟨by rw [← hul,hU];rfl,hr.symm⟩
  ·have hpos : 0 < U.length:=List.length_pos_iff.2 hU
   have hs:=HG1.out.used
   rw [HUV.out] at hs
   rcases hs.2 with ⟨h1,h2⟩ | ⟨gu,c',cur,h1,_⟩
   ·omega
   ·simp only [Value.slice.injEq] at h1
    obtain ⟨rfl,_⟩:=h1
    have hf:=hs.facts (J:=U.length - 1) (x:=lastG U) (by omega) rfl
    have hmem : lastG U ∈ U:=by
     unfold lastG
     rw [List.getD_eq_getElem?_getD,List.getElem?_eq_getElem (by omega : U.length - 1 < U.length)]
     exact List.getElem_mem _
    have hen:=(hnum _ hmem).2
    obtain ⟨p,q,s,e,hl⟩ : ∃ p q s e,lastG U = ⟨p,q,s,e⟩:=⟨_,_,_,_,rfl⟩
    rw [hl] at hf hen hr
    refine .inr ⟨U.length - 1,gu,p,q,s,e,⟨by omega,rfl,hen,hl⟩,hf,?_⟩
    rw [← hr]
    by_cases hc : n + e ≤ 16
    ·rw [if_pos ⟨hU,hc⟩,if_pos hc]
    ·rw [if_neg (fun h => hc h.2),if_neg hc]
 clear h hv hpost hnum hu hw hb hm hhi
 -- begin is asked
 have HASK : Hid (R = beginF b m D U hi → ∃ re RD p q s e,Calls Tryz.prog 83 #[.pointer (some ⟨gl,0,none⟩)] W1 fun e' w' => e' = .returned (.tuple #[.agg #[.int .i64 (p : Int),.int .i64 (q : Int),.int .i64 (s : Int),.int .i64 (e : Int)],.int .i64 re]) ∧ Hid (∃ cs0,cs0 = #[.int .i64 0,.int .i64 0,.int .i64 0,.int .i64 0] ∧ Blk w' zb cs0 88) ∧ Hid (POST (.returned (.tuple #[.agg #[.int .i64 (p : Int),.int .i64 (q : Int),.int .i64 (s : Int),.int .i64 (e : Int)],.int .i64 re])) ((((w'.setCell ⟨zb,0,none⟩ (.int .i64 (p : Int))).setCell ⟨zb,1,none⟩ (.int .i64 (q : Int))).setCell ⟨zb,2,none⟩ (.int .i64 (s : Int))).setCell ⟨zb,3,none⟩ (.int .i64 (e : Int))))):=fun hr => by
  obtain ⟨⟨re,RD,p,q,s,e⟩,hB⟩ : ∃ r,beginF b m D U hi = r:=⟨_,rfl⟩
  refine ⟨re,RD,p,q,s,e,?_⟩
  have:=HBG.out
  rw [hB] at this
  refine this.mono ?_
  rintro e' w' ⟨rfl,hg,hm⟩
  obtain ⟨wv',hg⟩:=hg.out
  have hk:=HMK.out HK1.out HG1.out.disk hm
  exact ⟨rfl,⟨_,rfl,hk⟩,HFIN.out w' wv' re RD p q s e (hr.trans hB) hg ⟨_,hk⟩ (HM1.out.trans hm)⟩
 go_enter Tryz.func50,Tryz.ntmps50
 go_upto_region 1 with fail
 rw [← HW1.out,← HZB.out]
 rcases hcase with ⟨rfl,hre⟩ | ⟨k1,gu,p,q,s,e,⟨hun,rfl,hen,hlast⟩,⟨x0,x1,x2,x3⟩,hre⟩
 ·obtain ⟨re,RD,p,q,s,e,hcl⟩:=HASK.out hre
  clear hre
  go_wp2_with fail
  refine hcl.mono ?_
  rintro e' w2 ⟨rfl,hk2,hx⟩
  obtain ⟨cs0,rfl,hk⟩:=hk2.out
  have HK2 : Hid (Blk w2 zb #[.int .i64 0,.int .i64 0,.int .i64 0,.int .i64 0] 88):=hk
  have HX:=hx.out
  have k0 : w2.cell? ⟨zb,0,none⟩ = some (.int .i64 0):=HK2.out.cell 0 rfl
  have k1 : w2.cell? ⟨zb,1,none⟩ = some (.int .i64 0):=HK2.out.cell 1 rfl
  have k2 : w2.cell? ⟨zb,2,none⟩ = some (.int .i64 0):=HK2.out.cell 2 rfl
  have k3 : w2.cell? ⟨zb,3,none⟩ = some (.int .i64 0):=HK2.out.cell 3 rfl
  have f0:=HK2.out.free 0
  have f1:=HK2.out.free 1
  have f2:=HK2.out.free 2
  have f3:=HK2.out.free 3
  clear hcl c5 hk2 hx hk
  go_wp2
  refine bodyPost_ret (results_segForE (cs:=[.int .i64 (p : Int),.int .i64 (q : Int),.int .i64 (s : Int),.int .i64 (e : Int)]) (by rfl) (by rfl) ((((HK2.out.set 0 _).set 1 _).set 2 _).set 3 _) rfl) rfl ?_
  exact HX
 ·have q1 : IntKind.i64.wrap ((un : Int) - 1) = (k1 : Int):=by rw [IntKind.wrap_i64];omega
  have q2 : (0 : Int) ≤ (k1 : Int):=by omega
  have q3 : (k1 : Int) < (un : Int):=by omega
  have q4 : IntKind.i64.wrap (16 - (e : Int)) = ((16 - e : Nat) : Int):=by rw [IntKind.wrap_i64];omega
  obtain ⟨lft,HLF⟩ : ∃ lft,Hid (16 - e = lft):=⟨_,rfl⟩
  rw [HLF.out] at q4
  have HLE : Hid (n + e ≤ 16 ↔ n ≤ lft):=by have h1:=HLF.out;(show _ ↔ _);omega
  have HUN1 : Hid (un = k1 + 1):=hun
  clear hun hlast
  by_cases hc : n ≤ lft
  ·have hc2 : (n : Int) ≤ (lft : Int):=by omega
   have HRE : Hid (R = (0,D,⟨p,q,s,e⟩)):=by rw [if_pos (HLE.out.2 hc)] at hre;exact hre
   have HX:=HFIN.out W1 wv 0 D p q s e HRE.out HG1.out ⟨_,HK1.out⟩ HM1.out
   have k0 : W1.cell? ⟨zb,0,none⟩ = some (.int .i64 0):=HK1.out.cell 0 rfl
   have k1' : W1.cell? ⟨zb,1,none⟩ = some (.int .i64 0):=HK1.out.cell 1 rfl
   have k2 : W1.cell? ⟨zb,2,none⟩ = some (.int .i64 0):=HK1.out.cell 2 rfl
   have k3 : W1.cell? ⟨zb,3,none⟩ = some (.int .i64 0):=HK1.out.cell 3 rfl
   have f0:=HK1.out.free 0
   have f1:=HK1.out.free 1
   have f2:=HK1.out.free 2
   have f3:=HK1.out.free 3
   clear hre hc hen
   go_wp2
   refine bodyPost_ret (results_segForE (cs:=[.int .i64 (p : Int),.int .i64 (q : Int),.int .i64 (s : Int),.int .i64 (e : Int)]) (by rfl) (by rfl) ((((HK1.out.set 0 _).set 1 _).set 2 _).set 3 _) rfl) rfl ?_
   exact HX
  ·have hc2 : ¬ (n : Int) ≤ (lft : Int):=by omega
   obtain ⟨re,RD,p',q',s',e',hcl⟩:=HASK.out (by rw [if_neg (fun h => hc (HLE.out.1 h))] at hre;exact hre)
   clear hre hc hen
   go_wp2_with fail
   refine hcl.mono ?_
   rintro e3 w2 ⟨rfl,hk2,hx⟩
   obtain ⟨cs0,rfl,hk⟩:=hk2.out
   have HK2 : Hid (Blk w2 zb #[.int .i64 0,.int .i64 0,.int .i64 0,.int .i64 0] 88):=hk
   have HX:=hx.out
   have k0 : w2.cell? ⟨zb,0,none⟩ = some (.int .i64 0):=HK2.out.cell 0 rfl
   have k1' : w2.cell? ⟨zb,1,none⟩ = some (.int .i64 0):=HK2.out.cell 1 rfl
   have k2 : w2.cell? ⟨zb,2,none⟩ = some (.int .i64 0):=HK2.out.cell 2 rfl
   have k3 : w2.cell? ⟨zb,3,none⟩ = some (.int .i64 0):=HK2.out.cell 3 rfl
   have f0:=HK2.out.free 0
   have f1:=HK2.out.free 1
   have f2:=HK2.out.free 2
   have f3:=HK2.out.free 3
   clear hcl c5 x0 x1 x2 x3 hk2 hx hk
   go_wp2
   refine bodyPost_ret (results_segForE (cs:=[.int .i64 (p' : Int),.int .i64 (q' : Int),.int .i64 (s' : Int),.int .i64 (e' : Int)]) (by rfl) (by rfl) ((((HK2.out.set 0 _).set 1 _).set 2 _).set 3 _) rfl) rfl ?_
   exact HX
end Go.Proofs.YtghajmcohdedlaaGreat

namespace Go.Proofs.YtghajmcohdedlaaGreat
open Go.RowKit
set_option maxRecDepth 100000
def Oon (w : World) (v v' : Value) : Prop:=∀ k,v'.ownBlock = some k → v.ownBlock = some k ∨ w.heap.size ≤ k
theorem Oon.refl (w : World) (v : Value) : Oon w v v:=fun _ h => .inl h
theorem step_append_sgA {w : World} {ops : Array Oper} {o : Oper} {act : Act} {K : Act → World → Prop} {Q : Exit → Act → World → Prop} {E : Prop} (hgd : o.guard = none) (s x : Operand)
  (ho : o.op = .call { callee:=.builtin .append,args:=#[s,x],argTypes:=#[72,72] })
  (base : Nat) (v : Value) (L : List Sg) (hs : act.eval s = v) (hown : Sgs w base v L) (k c : Nat) (p : Sg) (hx : act.eval x = .slice (some ⟨k,0,none⟩) 1 c)
  (hb : Blk w k (sgc p).toArray 88) (hl : L.length ≤ 1000000) (hbase : base ≤ w.heap.size)
  (h : ∀ v' w',Sgs w' base v' (L ++ [p]) → w.grownBy w' v.ownBlock → Oon w v v' → K (act.put o.dst v') w') : if Region.wanted o (yielded ops act.tmps) = true then Oper.wp Tryz.prog o act w K Q else E:=by
 rw [if_pos (by simp [Region.wanted,hgd])]
 obtain ⟨i0,hi,hz0,hz1,hz2⟩:=info_parts infoSg
 obtain ⟨v',w',hr,h2,h3,_,h5⟩:=run_append_own_at (P:=Tryz.prog) w base 72 o.type 88 i0 (.agg #[.int .i64 0,.int .i64 0,.int .i64 0,.int .i64 0]) 4 32 Tryz.underlying72 hi hz0 hz1 hz2 (by rfl) (by decide) v L.length (L.flatMap sgc) hown ⟨k,0,none⟩ 1 c (sgc p) (by rfl) (fun j u hj => by
  have e : (⟨k,0,none⟩ : Addr).add j = ⟨k,0 + j,none⟩:=by unfold Addr.add;split <;> simp_all
  rw [e,Nat.zero_add]
  exact hb.cell j (by simpa using hj)) (sgc_one p) (by unfold maxLen;omega) (by omega) hbase
 unfold Oper.wp execOp
 simp only [ho,resolve,invoke,builtin,Sem.run_bind,Sem.run_pure,Result.andThen_ok,List.map_toArray,List.map_cons,List.map_nil,hs,hx,hr]
 refine h v' w' ?_ h3 ?_
 ·unfold Sgs
  rw [List.length_append,List.flatMap_append]
  simpa using h2
 ·intro k hk
  rcases h5 with h5 | h5
  ·exact .inl (h5 ▸ hk)
  ·rw [h5] at hk
   cases hk
   exact .inr (Nat.le_refl _)
theorem LgG.setU {w : World} {base bd g gs : Nat} {wv : Value} {D : Dk} {gl gc b m ag : Nat} {U : List Sg} {gu n c : Nat} {hi rel : Nat} {L : List Rc} {rv : Value} (h : LgG w base bd g gs wv D gl gc b m ag U (.slice (some ⟨gu,0,none⟩) n c) hi rel L rv) {j : Nat} (hj : j < U.length) (s : Sg) : LgG (set4 w gu (j * 4) s) base bd g gs wv D gl gc b m ag (U.set j s) (.slice (some ⟨gu,0,none⟩) n c) hi rel L rv ∧ Frm (fun k => k = gu) w (set4 w gu (j * 4) s):=by
 obtain ⟨cur,hk0⟩ : ∃ cur,Blk w gu cur 88:=by
  rcases h.used.2 with ⟨h1,h2⟩ | ⟨g',c',cur,h1,_,h3,_⟩
  ·cases h1
  ·simp only [Value.slice.injEq,Option.some.injEq,Addr.mk.injEq] at h1
   obtain ⟨⟨rfl,_⟩,_⟩:=h1
   exact ⟨cur,h3⟩
 have hus:=h.used.set hj s
 have hne : gl ≠ gu:=blk_ne h.log hk0 (by decide)
 have hk1:=hk0.set (j * 4) (.int .i64 (s.at_ : Int))
 have hk2:=hk1.set (j * 4 + 1) (.int .i64 (s.num : Int))
 have hk3:=hk2.set (j * 4 + 2) (.int .i64 (s.high : Int))
 have hkt:=((((Kt.refl w).set hk0 (.inr (.inl rfl)) (j * 4) (.int .i64 (s.at_ : Int))).set hk1 (.inr (.inl rfl)) (j * 4 + 1) (.int .i64 (s.num : Int))).set hk2 (.inr (.inl rfl)) (j * 4 + 2) (.int .i64 (s.high : Int))).set hk3 (.inr (.inl rfl)) (j * 4 + 3) (.int .i64 (s.en : Int))
 exact ⟨⟨h.disk.kt hkt,(((Blk.other h.log _ _ hne).other _ _ hne).other _ _ hne).other _ _ hne,hkt.keep h.cells (by decide) (by decide) (by decide),hus,(((h.recs.set hk0 (.inr rfl)).set hk1 (.inr rfl)).set hk2 (.inr rfl)).set hk3 (.inr rfl),h.bl⟩,((((Frm.refl (fun k => k = gu) w).set rfl _ _).set rfl _ _).set rfl _ _).set rfl _ _⟩
def keepF (U : List Sg) (s : Sg) : List Sg:=if U ≠ [] ∧ (lastG U).at_ = s.at_ then U.set (U.length - 1) s else U ++ [s]
def KeepTold (w : World) (base bd g gs : Nat) (wv : Value) (D : Dk) (gl gc b m ag : Nat) (U : List Sg) (uv : Value) (hi rel : Nat) (L : List Rc) (rv : Value) (e : Ending) (w' : World) : Prop :=
 e = .returned (.tuple #[]) ∧ Hid (∃ uv',LgG w' base bd g gs wv D gl gc b m ag U uv' hi rel L rv ∧ Oon w uv uv') ∧ Hid (Frm (fun k => k = gl ∨ some k = uv.ownBlock) w w')
set_option maxHeartbeats 16000000 in
theorem evl_keepG (w : World) (base bd g gs : Nat) (wv : Value) (D : Dk) (gl gc b m ag : Nat) (U : List Sg) (uv : Value) (hi rel : Nat) (L : List Rc) (rv : Value) (s : Sg) (h : LgG w base bd g gs wv D gl gc b m ag U uv hi rel L rv) (hu : U.length ≤ 1000) :
  Calls Tryz.prog 52 #[.pointer (some ⟨gl,0,none⟩),.agg (sgc s).toArray] w fun e w' => KeepTold w base bd g gs wv D gl gc b m ag (keepF U s) uv hi rel L rv e w':=by
 obtain ⟨R,HR⟩ : ∃ R,Hid (keepF U s = R):=⟨_,rfl⟩
 rw [HR.out]
 obtain ⟨POST,HPO⟩ : ∃ P0 : Ending → World → Prop,Hid (P0 = fun e w' => KeepTold w base bd g gs wv D gl gc b m ag R uv hi rel L rv e w'):=⟨_,rfl⟩
 have hpost : (fun e w' => KeepTold w base bd g gs wv D gl gc b m ag R uv hi rel L rv e w') = fun e w' => POST e w':=HPO.out.symm
 rw [hpost]
 obtain ⟨at_,num,sh,en⟩:=s
 have hsg : sgc ⟨at_,num,sh,en⟩ = [.int .i64 (at_ : Int),.int .i64 (num : Int),.int .i64 (sh : Int),.int .i64 (en : Int)]:=rfl
 rw [hsg]
 obtain ⟨bx,HBX⟩ : ∃ bx,Hid (bx = w.heap.size):=⟨_,rfl⟩
 obtain ⟨W1,HW1⟩ : ∃ W1,Hid (W1 = w.alloc (.cells #[.int .i64 (at_ : Int),.int .i64 (num : Int),.int .i64 (sh : Int),.int .i64 (en : Int)] 88)):=⟨_,rfl⟩
 have HB1 : Hid (Below w.heap.size w W1):=by (show Below _ _ _);rw [HW1.out];exact below_alloc _ _
 have HK1 : Hid (Blk W1 bx #[.int .i64 (at_ : Int),.int .i64 (num : Int),.int .i64 (sh : Int),.int .i64 (en : Int)] 88):=by (show Blk _ _ _ _);rw [HW1.out,HBX.out];exact Blk.new _ _ _
 have HG1 : Hid (LgG W1 base bd g gs wv D gl gc b m ag U uv hi rel L rv):=h.below HB1.out
 obtain ⟨un,HUL⟩ : ∃ un,Hid (U.length = un):=⟨_,rfl⟩
 obtain ⟨au,cu,hv⟩:=h.used.val
 rw [HUL.out] at hv
 subst hv
 have hu16 : un ≤ 1000:=by rw [← HUL.out];exact hu
 have c5 : W1.cell? ⟨gl,5,none⟩ = some (.slice au un cu):=Blk.cell HG1.out.log 5 rfl
 have k0 : W1.cell? ⟨bx,0,none⟩ = some (.int .i64 (at_ : Int)):=HK1.out.cell 0 rfl
 have k1 : W1.cell? ⟨bx,1,none⟩ = some (.int .i64 (num : Int)):=HK1.out.cell 1 rfl
 have k2 : W1.cell? ⟨bx,2,none⟩ = some (.int .i64 (sh : Int)):=HK1.out.cell 2 rfl
 have k3 : W1.cell? ⟨bx,3,none⟩ = some (.int .i64 (en : Int)):=HK1.out.cell 3 rfl
 have hcase : (un = 0 ∧ R = U ++ [⟨at_,num,sh,en⟩]) ∨ ∃ (j gu p : Nat),(un = j + 1 ∧ au = some ⟨gu,0,none⟩) ∧ (W1.cell? ⟨gu,j * 4,none⟩ = some (.int .i64 (p : Int))) ∧ R = (if p = at_ then U.set j ⟨at_,num,sh,en⟩ else U ++ [⟨at_,num,sh,en⟩]):=by
  have hr:=HR.out
  unfold keepF at hr
  have hul:=HUL.out
  by_cases hU : U = []
  ·rw [if_neg (by simp [hU])] at hr
   exact .inl ⟨by rw [← hul,hU];rfl,hr.symm⟩
  ·have hpos : 0 < U.length:=List.length_pos_iff.2 hU
   have hs:=HG1.out.used
   rcases hs.2 with ⟨h1,h2⟩ | ⟨gu,c',cur,h1,_⟩
   ·omega
   ·simp only [Value.slice.injEq] at h1
    obtain ⟨rfl,_⟩:=h1
    have hf:=hs.facts (J:=U.length - 1) (x:=lastG U) (by omega) rfl
    refine .inr ⟨U.length - 1,gu,(lastG U).at_,⟨by omega,rfl⟩,hf.1,?_⟩
    rw [← hr]
    by_cases hc : (lastG U).at_ = at_
    ·rw [if_pos ⟨hU,hc⟩,if_pos hc]
    ·rw [if_neg (fun h => hc h.2),if_neg hc]
 clear h hsg hu hpost
 go_enter Tryz.func52,Tryz.ntmps52
 go_upto_region 1 with fail
 rw [← HW1.out,← HBX.out]
 rcases hcase with ⟨rfl,hre⟩ | ⟨j,gu,p,⟨hun,rfl⟩,x0,hre⟩
 ·have HRE : Hid (R = U ++ [⟨at_,num,sh,en⟩]):=hre
  clear hre
  go_wp2_with fail
  go_region
  all_goals
   obtain ⟨W2,HW2⟩ : ∃ W2,Hid (W2 = W1.drew):=⟨_,rfl⟩
   have HBD : Hid (Below W1.heap.size W1 W2):=by (show Below _ _ _);rw [HW2.out];exact (Below.refl _ _).drew
   have HG2 : Hid (LgG W2 base bd g gs wv D gl gc b m ag U (.slice au 0 cu) hi rel L rv):=HG1.out.below HBD.out
   have HK2 : Hid (Blk W2 bx #[.int .i64 (at_ : Int),.int .i64 (num : Int),.int .i64 (sh : Int),.int .i64 (en : Int)] 88):=HK1.out.stay HBD.out
   rw [← HW2.out]
   clear c5 k0 k1 k2 k3
   have c5 : W2.cell? ⟨gl,5,none⟩ = some (.slice au 0 cu):=Blk.cell HG2.out.log 5 rfl
   have c5b : (W2.alloc (.cells #[.int .i64 (at_ : Int),.int .i64 (num : Int),.int .i64 (sh : Int),.int .i64 (en : Int)] 88)).cell? ⟨gl,5,none⟩ = some (.slice au 0 cu):=Blk.cell (HG2.out.log.stay (below_alloc _ _)) 5 rfl
   have k0 : W2.cell? ⟨bx,0,none⟩ = some (.int .i64 (at_ : Int)):=HK2.out.cell 0 rfl
   have k1 : W2.cell? ⟨bx,1,none⟩ = some (.int .i64 (num : Int)):=HK2.out.cell 1 rfl
   have k2 : W2.cell? ⟨bx,2,none⟩ = some (.int .i64 (sh : Int)):=HK2.out.cell 2 rfl
   have k3 : W2.cell? ⟨bx,3,none⟩ = some (.int .i64 (en : Int)):=HK2.out.cell 3 rfl
   obtain ⟨W4,HW4⟩ : ∃ W4,Hid (W4 = (W2.alloc (.cells #[.int .i64 (at_ : Int),.int .i64 (num : Int),.int .i64 (sh : Int),.int .i64 (en : Int)] 88)).drew):=⟨_,rfl⟩
   have HBW4 : Hid (Below W2.heap.size W2 W4):=by (show Below _ _ _);rw [HW4.out];exact (below_alloc _ _).drew
   have HG4 : Hid (LgG W4 base bd g gs wv D gl gc b m ag U (.slice au 0 cu) hi rel L rv):=HG2.out.below HBW4.out
   have HKN : Hid (Blk W4 W2.heap.size #[.int .i64 (at_ : Int),.int .i64 (num : Int),.int .i64 (sh : Int),.int .i64 (en : Int)] 88):=by (show Blk _ _ _ _);rw [HW4.out];exact (Blk.new W2 _ _).stay (Below.refl _ _).drew
   have HS4 : Hid (base ≤ W4.heap.size):=HG4.out.sz
   have HF4 : Hid (Frm (fun k => k = gl ∨ some k = (Value.slice au 0 cu).ownBlock) w W4):=((Frm.of_below _ HB1.out).trans (Frm.of_below _ HBD.out)).trans (Frm.of_below _ HBW4.out)
   have HUL4 : Hid (U.length ≤ 1000000):=by have:=HUL.out;(show _ ≤ _);omega
   go_wp2_with fail
   go_region_law (refine step_append_sgA rfl (.tmp 37) (.tmp 39) rfl base _ U rfl (by rw [← HW4.out];exact HG4.out.used) W2.heap.size 1 ⟨at_,num,sh,en⟩ rfl (by rw [← HW4.out];exact HKN.out) HUL4.out (by rw [← HW4.out];exact HS4.out) ?_;rw [← HW4.out];intro v5 w5 hs5 hg5 ho5;obtain ⟨hG5,hB5,hL5,hK5⟩:=HG4.out.more hs5 hg5;have d5 : w5.cell? ⟨gl,5,none⟩ = some (.slice au 0 cu):=Blk.cell hL5 5 rfl;have f5 : w5.frozen? ⟨gl,5,none⟩ = false:=Blk.free hL5 5;have HG5 : Hid (LgG (w5.setCell ⟨gl,5,none⟩ v5) base bd g gs wv D gl gc b m ag (U ++ [⟨at_,num,sh,en⟩]) v5 hi rel L rv):=hG5;have HF5 : Hid (Frm (fun k => k = gl ∨ some k = (Value.slice au 0 cu).ownBlock) w (w5.setCell ⟨gl,5,none⟩ v5)):=(HF4.out.trans (Frm.of_grown hg5 (fun k hk => .inr hk))).set (.inl rfl) 5 v5;have HO5 : Hid (Oon W4 (Value.slice au 0 cu) v5):=ho5;have HX : POST (.returned (.tuple #[])) (w5.setCell ⟨gl,5,none⟩ v5):=(by rw [HPO.out,HRE.out];exact ⟨rfl,⟨v5,HG5.out,fun k hk => (HO5.out k hk).imp id (fun h => Nat.le_trans HF4.out.size h)⟩,HF5.out⟩);obtain ⟨a5,c5',hv5⟩:=hs5.val;rw [List.length_append] at hv5;simp only [List.length_cons,List.length_nil,Nat.zero_add] at hv5;subst hv5;clear hs5 hg5 hG5 hB5 hL5 hK5 ho5)
   all_goals
    go_returns
    exact HX
 ·have q1 : IntKind.i64.wrap ((un : Int) - 1) = (j : Int):=by rw [IntKind.wrap_i64];omega
  have q2 : (0 : Int) ≤ (j : Int):=by omega
  have q3 : (j : Int) < (un : Int):=by omega
  have HUN1 : Hid (un = j + 1):=hun
  clear hun
  by_cases hp : p = at_
  ·have hp2 : ((p : Int) == (at_ : Int)) = true:=by rw [beq_iff_eq];omega
   have HRE : Hid (R = U.set j ⟨at_,num,sh,en⟩):=by rw [if_pos hp] at hre;exact hre
   clear hre hp
   go_wp2_with fail
   go_region
   all_goals
    obtain ⟨W2,HW2⟩ : ∃ W2,Hid (W2 = W1.drew):=⟨_,rfl⟩
    have HBD : Hid (Below W1.heap.size W1 W2):=by (show Below _ _ _);rw [HW2.out];exact (Below.refl _ _).drew
    rw [← HW2.out]
    have HG2 : Hid (LgG W2 base bd g gs wv D gl gc b m ag U (.slice (some ⟨gu,0,none⟩) un cu) hi rel L rv):=HG1.out.below HBD.out
    have HK2 : Hid (Blk W2 bx #[.int .i64 (at_ : Int),.int .i64 (num : Int),.int .i64 (sh : Int),.int .i64 (en : Int)] 88):=HK1.out.stay HBD.out
    have HF2 : Hid (Frm (fun k => k = gl ∨ some k = (Value.slice (some ⟨gu,0,none⟩) un cu).ownBlock) w W2):=(Frm.of_below _ HB1.out).trans (Frm.of_below _ HBD.out)
    obtain ⟨h4,hf4⟩:=HG2.out.setU (j:=j) (by have:=HUL.out;have:=HUN1.out;omega) ⟨at_,num,sh,en⟩
    have HX : POST (.returned (.tuple #[])) (set4 W2 gu (j * 4) ⟨at_,num,sh,en⟩).drew:=by
     rw [HPO.out,HRE.out]
     have hbe : Below (set4 W2 gu (j * 4) ⟨at_,num,sh,en⟩).heap.size (set4 W2 gu (j * 4) ⟨at_,num,sh,en⟩) (set4 W2 gu (j * 4) ⟨at_,num,sh,en⟩).drew:=(Below.refl _ _).drew
     exact ⟨rfl,⟨_,h4.below hbe,Oon.refl _ _⟩,(HF2.out.then_ hf4 (fun k _ hk => .inr (by rw [hk];rfl))).trans (Frm.of_below _ hbe)⟩
    unfold set4 at HX
    simp only at HX
    clear c5 k0 k1 k2 k3 x0 h4 hf4
    have c5 : W2.cell? ⟨gl,5,none⟩ = some (.slice (some ⟨gu,0,none⟩) un cu):=Blk.cell HG2.out.log 5 rfl
    have k0 : W2.cell? ⟨bx,0,none⟩ = some (.int .i64 (at_ : Int)):=HK2.out.cell 0 rfl
    have k1 : W2.cell? ⟨bx,1,none⟩ = some (.int .i64 (num : Int)):=HK2.out.cell 1 rfl
    have k2 : W2.cell? ⟨bx,2,none⟩ = some (.int .i64 (sh : Int)):=HK2.out.cell 2 rfl
    have k3 : W2.cell? ⟨bx,3,none⟩ = some (.int .i64 (en : Int)):=HK2.out.cell 3 rfl
    obtain ⟨y0,y1,y2,y3⟩:=HG2.out.used.facts (J:=j) (by have:=HUL.out;have:=HUN1.out;omega) rfl
    obtain ⟨f0,f1,f2,f3⟩:=HG2.out.used.frz j
    go_wp2_with fail
    go_region
    all_goals
     go_wp2
     go_returns
     exact HX
  ·have hp2 : ((p : Int) == (at_ : Int)) = false:=by rw [beq_eq_false_iff_ne];omega
   have HRE : Hid (R = U ++ [⟨at_,num,sh,en⟩]):=by rw [if_neg hp] at hre;exact hre
   clear hre hp
   go_wp2_with fail
   go_region
   all_goals
    obtain ⟨W2,HW2⟩ : ∃ W2,Hid (W2 = W1.drew):=⟨_,rfl⟩
    have HBD : Hid (Below W1.heap.size W1 W2):=by (show Below _ _ _);rw [HW2.out];exact (Below.refl _ _).drew
    have HG2 : Hid (LgG W2 base bd g gs wv D gl gc b m ag U (.slice (some ⟨gu,0,none⟩) un cu) hi rel L rv):=HG1.out.below HBD.out
    have HK2 : Hid (Blk W2 bx #[.int .i64 (at_ : Int),.int .i64 (num : Int),.int .i64 (sh : Int),.int .i64 (en : Int)] 88):=HK1.out.stay HBD.out
    rw [← HW2.out]
    clear c5 k0 k1 k2 k3 x0
    have c5 : W2.cell? ⟨gl,5,none⟩ = some (.slice (some ⟨gu,0,none⟩) un cu):=Blk.cell HG2.out.log 5 rfl
    have c5b : (W2.alloc (.cells #[.int .i64 (at_ : Int),.int .i64 (num : Int),.int .i64 (sh : Int),.int .i64 (en : Int)] 88)).cell? ⟨gl,5,none⟩ = some (.slice (some ⟨gu,0,none⟩) un cu):=Blk.cell (HG2.out.log.stay (below_alloc _ _)) 5 rfl
    have k0 : W2.cell? ⟨bx,0,none⟩ = some (.int .i64 (at_ : Int)):=HK2.out.cell 0 rfl
    have k1 : W2.cell? ⟨bx,1,none⟩ = some (.int .i64 (num : Int)):=HK2.out.cell 1 rfl
    have k2 : W2.cell? ⟨bx,2,none⟩ = some (.int .i64 (sh : Int)):=HK2.out.cell 2 rfl
    have k3 : W2.cell? ⟨bx,3,none⟩ = some (.int .i64 (en : Int)):=HK2.out.cell 3 rfl
    obtain ⟨W4,HW4⟩ : ∃ W4,Hid (W4 = (W2.alloc (.cells #[.int .i64 (at_ : Int),.int .i64 (num : Int),.int .i64 (sh : Int),.int .i64 (en : Int)] 88)).drew):=⟨_,rfl⟩
    have HBW4 : Hid (Below W2.heap.size W2 W4):=by (show Below _ _ _);rw [HW4.out];exact (below_alloc _ _).drew
    have HG4 : Hid (LgG W4 base bd g gs wv D gl gc b m ag U (.slice (some ⟨gu,0,none⟩) un cu) hi rel L rv):=HG2.out.below HBW4.out
    have HKN : Hid (Blk W4 W2.heap.size #[.int .i64 (at_ : Int),.int .i64 (num : Int),.int .i64 (sh : Int),.int .i64 (en : Int)] 88):=by (show Blk _ _ _ _);rw [HW4.out];exact (Blk.new W2 _ _).stay (Below.refl _ _).drew
    have HS4 : Hid (base ≤ W4.heap.size):=HG4.out.sz
    have HF4 : Hid (Frm (fun k => k = gl ∨ some k = (Value.slice (some ⟨gu,0,none⟩) un cu).ownBlock) w W4):=((Frm.of_below _ HB1.out).trans (Frm.of_below _ HBD.out)).trans (Frm.of_below _ HBW4.out)
    have HUL4 : Hid (U.length ≤ 1000000):=by have:=HUL.out;(show _ ≤ _);omega
    go_wp2_with fail
    go_region_law (refine step_append_sgA rfl (.tmp 37) (.tmp 39) rfl base _ U rfl (by rw [← HW4.out];exact HG4.out.used) W2.heap.size 1 ⟨at_,num,sh,en⟩ rfl (by rw [← HW4.out];exact HKN.out) HUL4.out (by rw [← HW4.out];exact HS4.out) ?_;rw [← HW4.out];intro v5 w5 hs5 hg5 ho5;obtain ⟨hG5,hB5,hL5,hK5⟩:=HG4.out.more hs5 hg5;have d5 : w5.cell? ⟨gl,5,none⟩ = some (.slice (some ⟨gu,0,none⟩) un cu):=Blk.cell hL5 5 rfl;have f5 : w5.frozen? ⟨gl,5,none⟩ = false:=Blk.free hL5 5;have HG5 : Hid (LgG (w5.setCell ⟨gl,5,none⟩ v5) base bd g gs wv D gl gc b m ag (U ++ [⟨at_,num,sh,en⟩]) v5 hi rel L rv):=hG5;have HF5 : Hid (Frm (fun k => k = gl ∨ some k = (Value.slice (some ⟨gu,0,none⟩) un cu).ownBlock) w (w5.setCell ⟨gl,5,none⟩ v5)):=(HF4.out.trans (Frm.of_grown hg5 (fun k hk => .inr hk))).set (.inl rfl) 5 v5;have HO5 : Hid (Oon W4 (Value.slice (some ⟨gu,0,none⟩) un cu) v5):=ho5;have HX : POST (.returned (.tuple #[])) (w5.setCell ⟨gl,5,none⟩ v5):=(by rw [HPO.out,HRE.out];exact ⟨rfl,⟨v5,HG5.out,fun k hk => (HO5.out k hk).imp id (fun h => Nat.le_trans HF4.out.size h)⟩,HF5.out⟩);obtain ⟨a5,c5',hv5⟩:=hs5.val;rw [List.length_append] at hv5;simp only [List.length_cons,List.length_nil,Nat.zero_add] at hv5;subst hv5;clear hs5 hg5 hG5 hB5 hL5 hK5 ho5)
    all_goals
     go_returns
     exact HX
end Go.Proofs.YtghajmcohdedlaaGreat

namespace Go.Proofs.YtghajmcohdedlaaGreat
open Go.RowKit
set_option maxRecDepth 100000
def ptc (g0 n k : Nat) : List Value:=[.int .u8 (if k = 0 then 2 else 3),.bool (decide (n ≤ 59 * k + 59)),.slice (some ⟨g0,59 * k,none⟩) (min n (59 * k + 59) - 59 * k) (min n (59 * k + 59) - 59 * k)]
def ptsL (g0 n K : Nat) : List Value:=(List.range K).flatMap (ptc g0 n)
theorem ptsL_snoc (g0 n k : Nat) : ptsL g0 n (k + 1) = ptsL g0 n k ++ ptc g0 n k:=by simp [ptsL,List.range_succ,List.flatMap_append]
theorem row_belowE {w w' : World} {base : Nat} {e : TypeId} {size n : Nat} {v : Value} {xs : List Value} (h : w.ownsRow base e size v n xs) (hb : Below w.heap.size w w') : w'.ownsRow base e size v n xs:=own_stay h fun k hk => hb.block k (h.lt k hk).2
theorem wpList_append_ptG {w : World} {ops : Array Oper} {rest : List Oper} {o : Oper} {act : Act} {Q : Exit → Act → World → Prop} (hgd : o.guard = none) (s x : Operand)
  (ho : o.op = .call { callee:=.builtin .append,args:=#[s,x],argTypes:=#[84,84] })
  (base : Nat) (v : Value) (m : Nat) (xs : List Value) (hs : act.eval s = v) (hown : w.ownsRow base 92 3 v m xs) (hm : m ≤ 1000) (k c : Nat) (p : List Value) (hp : p.length = 3) (h1 : ∀ u ∈ p,u.oneCell' = true) (hx : act.eval x = .slice (some ⟨k,0,none⟩) 1 c)
  (hb : Blk w k p.toArray 92) (hbase : base ≤ w.heap.size)
  (h : ∀ v' w',w'.ownsRow base 92 3 v' (m + 1) (xs ++ p) → Below base w w' → wpList Tryz.prog ops Q rest (act.put o.dst v') w') : wpList Tryz.prog ops Q (o :: rest) act w:=by
 obtain ⟨i0,hi,hz0,hz1,hz2⟩:=info_parts infoPartB
 refine wpList_plain hgd fun K hK => ?_
 refine wp_append_own w s x 84 ho base 92 i0 (.agg #[.int .u8 0,.bool false,.slice none 0 0]) 3 32 Tryz.underlying84 hi hz0 hz1 hz2 (by rfl) (by decide) v m xs hs hown ⟨k,0,none⟩ 1 c p hx (by rw [hp]) (fun j u hj => ?_) h1 (by unfold maxLen;omega) (by omega) hbase fun v' w' h1 h2 _ => ?_
 ·have e : (⟨k,0,none⟩ : Addr).add j = ⟨k,0 + j,none⟩:=by unfold Addr.add;split <;> simp_all
  rw [e,Nat.zero_add]
  exact hb.cell j (by simpa using hj)
 ·exact hK _ _ (h v' w' h1 ((Below.refl _ _).grown h2 hbase (fun k hk => (hown.lt k hk).1)))
set_option maxHeartbeats 4000000 in
theorem evl_cutG (w : World) (g0 n c : Nat) (hn : n ≤ 1000) (hc : n ≤ c) :
  Calls Tryz.prog 48 #[.slice (some ⟨g0,0,none⟩) n c] w fun e w' => Hid (∃ v,e = .returned v ∧ w'.ownsRow w.heap.size 92 3 v ((n + 58) / 59) (ptsL g0 n ((n + 58) / 59))) ∧ Below w.heap.size w w':=by
 obtain ⟨K,HK⟩ : ∃ K,Hid ((n + 58) / 59 = K):=⟨_,rfl⟩
 rw [HK.out]
 go_enter Tryz.func48,Tryz.ntmps48
 go_wp2
 go_loopw [3,4,5,6] (fun t3 t4 t5 _ wr => ∃ (k A kd : Nat),k ≤ K ∧ t4 = .int .u8 (kd : Int) ∧ t5 = .int .i64 (A : Int) ∧ Hid (A = 59 * k ∧ kd = if k = 0 then 2 else 3) ∧ Hid (wr.ownsRow w.heap.size 92 3 t3 k (ptsL g0 n k)) ∧ Hid (Below w.heap.size w wr)) (fun _ _ t5 _ _ => 2000 - (intOf t5).toNat)
 case atStart => exact ⟨0,0,2,Nat.zero_le _,rfl,rfl,⟨rfl,rfl⟩,World.ownsRow_nil _ _ _ _,Below.refl _ _⟩
 case round =>
  obtain ⟨k,A,kd,hk,rfl,rfl,HA,HO,HB⟩:=hrel
  obtain ⟨w3,rfl⟩ : ∃ w3,w3 = wr:=⟨wr,rfl⟩
  by_cases hlt : A < n
  ·have hlt' : (A : Int) < (n : Int):=by omega
   obtain ⟨B,HBE⟩ : ∃ B,Hid (A + 59 = B):=⟨_,rfl⟩
   obtain ⟨E,HE⟩ : ∃ E,Hid (min n B = E ∧ A < E ∧ E ≤ n ∧ E ≤ c):=⟨_,rfl,by have:=HBE.out;omega,by omega,by omega⟩
   have q1 : IntKind.i64.wrap ((A : Int) + 59) = (B : Int):=by rw [IntKind.wrap_i64];have:=HBE.out;omega
   have e2 : (if n < B then (n : Int) else (B : Int)) = (E : Int):=by have:=HE.out.1;split <;> omega
   obtain ⟨lst,HL⟩ : ∃ lst,Hid (decide (n ≤ B) = lst):=⟨_,rfl⟩
   have e1 : ((E : Int) == (n : Int)) = lst:=by
    rw [← HL.out]
    have:=HE.out.1
    by_cases h : n ≤ B
    ·rw [decide_eq_true h,beq_iff_eq];omega
    ·rw [decide_eq_false h,beq_eq_false_iff_ne];omega
   have a1 : (0 : Int) ≤ (A : Int):=by omega
   have a2 : (A : Int) ≤ (E : Int):=by have:=HE.out;omega
   have a3 : (E : Int) ≤ (c : Int):=by have:=HE.out;omega
   have a5 : ¬ E = A:=by have:=HE.out;omega
   have a6 : ¬ E - A = 0:=by have:=HE.out;omega
   have a7 : ¬ (E : Int) = (A : Int):=by have:=HE.out;omega
   have hfin : k + 1 ≤ K:=by have:=HK.out;have:=HA.out.1;omega
   have hA2 : A + 59 ≤ 2000:=by omega
   have HK1 : Hid (k ≤ 1000):=by have:=HA.out.1;(show _ ≤ _);omega
   have HBK : Hid (Blk (w3.alloc (.cells #[.int .u8 (kd : Int),.bool lst,.slice (some ⟨g0,A,none⟩) (E - A) (E - A)] 92)) w3.heap.size [.int .u8 (kd : Int),.bool lst,.slice (some ⟨g0,A,none⟩) (E - A) (E - A)].toArray 92):=Blk.new _ _ _
   have HBA : Hid (Below w3.heap.size w3 (w3.alloc (.cells #[.int .u8 (kd : Int),.bool lst,.slice (some ⟨g0,A,none⟩) (E - A) (E - A)] 92))):=below_alloc _ _
   have HOA : Hid ((w3.alloc (.cells #[.int .u8 (kd : Int),.bool lst,.slice (some ⟨g0,A,none⟩) (E - A) (E - A)] 92)).ownsRow w.heap.size 92 3 u3 k (ptsL g0 n k)):=row_belowE HO.out HBA.out
   have HPT : Hid (ptsL g0 n (k + 1) = ptsL g0 n k ++ [.int .u8 (kd : Int),.bool lst,.slice (some ⟨g0,A,none⟩) (E - A) (E - A)]):=by
    (show _ = _)
    rw [ptsL_snoc,← HL.out,← HE.out.1,← HBE.out,HA.out.1]
    have h2:=HA.out.2
    rw [h2]
    unfold ptc
    split <;> rfl
   go_wp2_with (guard_target =~ wpList _ _ _ (Oper.mk (some 31) _ _ _ _ _ :: _) _ _;refine wpList_append_ptG rfl (.tmp 18) (.tmp 30) rfl w.heap.size _ k _ rfl HOA.out HK1.out w3.heap.size 1 [.int .u8 (kd : Int),.bool lst,.slice (some ⟨g0,A,none⟩) (E - A) (E - A)] rfl (by intro u hu;simp only [List.mem_cons,List.not_mem_nil,or_false] at hu;rcases hu with rfl | rfl | rfl <;> rfl) rfl HBK.out (Nat.le_trans HB.out.size HBA.out.size) ?_)
   intro v5 w5 ho5 hb5
   have HO5 : Hid (w5.ownsRow w.heap.size 92 3 v5 (k + 1) (ptsL g0 n (k + 1))):=by rw [HPT.out];exact ho5
   have HB5 : Hid (Below w.heap.size w w5):=(HB.out.trans (HBA.out.mono HB.out.size)).trans hb5
   clear ho5 hb5
   go_wp2
   go_roundw
   case rel => exact ⟨k + 1,B,3,hfin,rfl,by go_num,⟨by have:=HBE.out;have:=HA.out.1;omega,by simp⟩,HO5,HB5⟩
   case measure => (simp [intOf];omega)
  ·have hlt' : ¬ (A : Int) < (n : Int):=by omega
   obtain rfl : k = K:=by have:=HK.out;have:=HA.out.1;omega
   go_wp2
   go_returns
   exact ⟨⟨_,rfl,HO.out⟩,HB.out⟩
end Go.Proofs.YtghajmcohdedlaaGreat
