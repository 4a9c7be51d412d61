import Derived.Test.YtghajmcohdedlaaGreatPk23
namespace Go.Proofs.YtghajmcohdedlaaGreat
open Go.RowKit
set_option maxRecDepth 100000
theorem step_append_rcA {w : World} {ops : Array Oper} {o : Oper} {act : Act} {K : Act → World → Prop} {Q : Exit → Act → World → Prop} {E : Prop} (hgd : o.guard = none) (s x : Operand)
  (ho : o.op = .call { callee:=.builtin .append,args:=#[s,x],argTypes:=#[41,41] })
  (base : Nat) (v : Value) (L : List Rc) (hs : act.eval s = v) (hown : Rcs w base v L) (k c : Nat) (p : Rc) (hx : act.eval x = .slice (some ⟨k,0,none⟩) 1 c)
  (hb : Blk w k (rcc p).toArray 44) (hp : Bd w base p.a p.n p.bs) (hl : L.length ≤ 1000000) (hbase : base ≤ w.heap.size)
  (h : ∀ v' w',Rcs w' base v' (L ++ [p]) → w.grownBy w' v.ownBlock → Kt w w' → Oon w v v' → K (act.put o.dst v') w') : if Region.wanted o (yielded ops act.tmps) = true then Oper.wp Tryz.prog o act w K Q else E:=by
 rw [if_pos (by simp [Region.wanted,hgd])]
 obtain ⟨i0,hi,hz0,hz1,hz2⟩:=info_parts infoRecB
 obtain ⟨v',w',hr,h2,h3,_,h5⟩:=run_append_own_at (P:=Tryz.prog) w base 41 o.type 44 i0 (.agg #[.int .i64 0,.slice none 0 0]) 2 32 Tryz.underlying41 hi hz0 hz1 hz2 (by rfl) (by decide) v L.length (L.flatMap rcc) hown.row ⟨k,0,none⟩ 1 c (rcc p) (by rfl) (fun j u hj => by
  have e : (⟨k,0,none⟩ : Addr).add j = ⟨k,0 + j,none⟩:=by unfold Addr.add;split <;> simp_all
  rw [e,Nat.zero_add]
  exact hb.cell j (by simpa using hj)) (rcc_one p) (by unfold maxLen;omega) (by omega) hbase
 have hk : Kt w w':=(Kt.refl w).grown hown.row (.inr (.inr rfl)) h3
 unfold Oper.wp execOp
 simp only [ho,resolve,invoke,builtin,Sem.run_bind,Sem.run_pure,Result.andThen_ok,List.map_toArray,List.map_cons,List.map_nil,hs,hx,hr]
 refine h v' w' ⟨?_,fun r hr => ?_⟩ h3 hk ?_
 ·rw [List.length_append,List.flatMap_append]
  simpa using h2
 ·rcases List.mem_append.1 hr with hr | hr
  ·exact (hown.bd r hr).kt hk
  ·rw [List.mem_singleton.1 hr]
   exact hp.kt hk
 ·intro k hk
  rcases h5 with h5 | h5
  ·exact .inl (h5 ▸ hk)
  ·rw [h5] at hk
   cases hk
   exact .inr (Nat.le_refl _)
theorem row_many {w : World} {B size n : Nat} {e : TypeId} {v : Value} {xs : List Value} (h : w.ownsRow B e size v n xs) (hn : n ≠ 0) : ∃ gp cp cur,v = .slice (some ⟨gp,0,none⟩) n cp ∧ B ≤ gp ∧ Blk w gp cur e ∧ cur.toList.take (n * size) = xs:=by
 rcases h.2 with ⟨_,h0⟩ | ⟨gp,cp,cur,hv,hb,hg,_,_,_,hx⟩
 ·exact absurd h0 hn
 ·exact ⟨gp,cp,cur,hv,hb,hg,hx⟩
set_option maxHeartbeats 32000000 in
theorem evl_AppendG (w : World) (base bd g gs : Nat) (wv : Value) (D : Dk) (gl gc b m ag : Nat) (U : List Sg) (uv : Value) (hi rel : Nat) (L : List Rc) (rv : Value) (t : Int) (ab : Option Addr) (nb cb : Nat) (bs : List Nat) (B0 : Nat) (h : LgG w base bd g gs wv D gl gc b m ag U uv hi rel L rv) (hbb : bd ≤ base) (hb : b ≤ 1000) (hm : m ≤ 16) (hu : U.length ≤ 16) (hU : ∀ s ∈ U,s.num ≤ 4611686018427387904 ∧ s.en ≤ 16 ∧ s.at_ ≤ 100000) (hhi : hi ≤ 1099511627776) (hw : D.waits.length ≤ 800000000) (hbs : bs.length = nb) (hbd : nb ≤ 400 → Bd w B0 ab nb bs ∨ ∀ w',Below bd w w' → Rd w' ab nb bs) (hnn : ab = none → cb = 0) (hl : L.length ≤ 100000) :
  Calls Tryz.prog 20 #[.pointer (some ⟨gl,0,none⟩),.int .i64 t,.slice ab nb cb] w fun e w' => AppendTold w base bd g gs gl gc b m ag uv rel L rv t bs (appendF b m ag D U hi t bs) e w':=by
 obtain ⟨R,HR⟩ : ∃ R,Hid (appendF b m ag D U hi t bs = R):=⟨_,rfl⟩
 rw [HR.out]
 have HG : Hid (LgG w base bd g gs wv D gl gc b m ag U uv hi rel L rv):=h
 have HBD : Hid (bd ≤ w.heap.size ∧ bd ≤ gl):=⟨Nat.le_trans h.disk.bg (Nat.le_of_lt h.disk.blk.lt),Nat.le_trans hbb h.bl⟩
 have HNEU : Hid (∀ k,w.heap.size ≤ k → some k ≠ uv.ownBlock):=fun k hk e => by have:=(h.used.lt _ e.symm).2;omega
 -- the blocks that may turn
 obtain ⟨S1,HS1⟩ : ∃ S1 : Nat → Prop,Hid ((∀ k,w.heap.size ≤ k → S1 k) ∧ S1 gl ∧ (∀ k,some k = uv.ownBlock → S1 k) ∧ (∀ k,some k = rv.ownBlock → S1 k) ∧ (∀ k,S1 k → bd ≤ k) ∧ (∀ k,k < w.heap.size → S1 k → k = gl ∨ some k = uv.ownBlock ∨ some k = rv.ownBlock)) :=
  ⟨fun k => w.heap.size ≤ k ∨ k = gl ∨ some k = uv.ownBlock ∨ some k = rv.ownBlock,fun k hk => .inl hk,.inr (.inl rfl),fun k hk => .inr (.inr (.inl hk)),fun k hk => .inr (.inr (.inr hk)),fun k hk => by
   rcases hk with hk | rfl | hk | hk
   ·exact Nat.le_trans HBD.out.1 hk
   ·exact HBD.out.2
   ·exact Nat.le_trans hbb (h.used.lt k hk.symm).1
   ·exact Nat.le_trans hbb (h.recs.row.lt k hk.symm).1,fun k hk h2 => h2.resolve_left (by omega)⟩
 have HBODY : Hid (nb ≤ 400 → ∀ w',Mvx S1 w w' bd g gs → Rd w' ab nb bs):=fun hn w' hmx => (hbd hn).elim (fun h0 => (h0.mvx h.disk hmx (fun k cs fr hk h1 => by
  rcases HS1.out.2.2.2.2.2 k (heap_lt hk) h1 with rfl | h2 | h2
  ·have h3 : Blk w k _ 74:=h.log
   unfold Blk at h3
   rw [hk] at h3
   simp only [Option.some.injEq,Obj.cells.injEq] at h3
   exact absurd h3.2.1 (by decide)
  ·exact own_ne' h.used hk (by decide) h2
  ·exact own_ne' h.recs.row hk (by decide) h2)).1) (fun h0 => h0 w' hmx.low)
 obtain ⟨POST,HPO⟩ : ∃ P0 : Ending → World → Prop,Hid (P0 = fun e w' => AppendTold w base bd g gs gl gc b m ag uv rel L rv t bs R e w'):=⟨_,rfl⟩
 have hpost : (fun e w' => AppendTold w base bd g gs gl gc b m ag uv rel L rv t bs R e w') = fun e w' => POST e w':=HPO.out.symm
 rw [hpost]
 -- nothing is told
 have HNO : Hid (∀ (er : Int) (w' : World) (wv' : Value) (D' : Dk),R = (er,D',U,hi,false) → LgG w' base bd g gs wv' D' gl gc b m ag U uv hi rel L rv → Mvx S1 w w' bd g gs → POST (.returned (.int .i64 er)) w'):=fun er w' wv' D' hr hg hmx => by
  rw [HPO.out,hr]
  exact ⟨rfl,⟨wv',uv,rv,L,hg,rfl,Oon.refl _ _,Oon.refl _ _,fun x hx => .inl hx⟩,hmx.mono HS1.out.2.2.2.2.2⟩
 -- the record is told
 have HYES : Hid (∀ (w' : World) (wv' uv' rv' : Value) (L' : List Rc) (D' : Dk) (U' : List Sg) (T : Nat),t = (T : Int) → R = (0,D',U',T,true) → LgG w' base bd g gs wv' D' gl gc b m ag U' uv' T rel L' rv' → L'.map plR = L.map plR ++ [(T,bs)] → Oon w uv uv' → Oon w rv rv' → Mvx S1 w w' bd g gs → (∀ x ∈ L',x ∈ L ∨ Bd w' w.heap.size x.a x.n x.bs) → POST (.returned (.int .i64 0)) w'):=fun w' wv' uv' rv' L' D' U' T ht hr hg hL ho1 ho2 hmx hnb => by
  rw [HPO.out,hr]
  exact ⟨rfl,⟨wv',uv',rv',L',hg,by rw [hL,ht];rfl,ho1,ho2,hnb⟩,hmx.mono HS1.out.2.2.2.2.2⟩
 obtain ⟨ar,cr,hrv⟩:=h.recs.val
 obtain ⟨sh,HSH⟩ : ∃ sh,Hid (shutE D ag = sh):=⟨_,rfl⟩
 have HST:=evl_shut w bd g gs wv D gl gc b m ag hi rel uv rv h.disk h.log
 rw [HSH.out] at HST
 have HSEG : Hid (b ≤ 1000 ∧ m ≤ 16 ∧ U.length ≤ 16 ∧ (∀ s ∈ U,s.num ≤ 4611686018427387904 ∧ s.en ≤ 16 ∧ s.at_ ≤ 100000) ∧ hi ≤ 1099511627776 ∧ D.waits.length ≤ 800000000):=⟨hb,hm,hu,hU,hhi,hw⟩
 have HLL : Hid (L.length ≤ 100000):=hl
 have HBS : Hid (bs.length = nb):=hbs
 have HNN : Hid (ab = none → cb = 0):=hnn
 have HBB : Hid (bd ≤ base):=hbb
 have HUN : Hid (shutE D ag = sh → R = (if sh ≠ 0 then (sh,D,U,hi,false) else if 400 < nb then (6,D,U,hi,false) else if t ≤ (hi : Int) ∨ 1099511627776 < t then (14,D,U,hi,false) else appendF b m ag D U hi t bs)):=fun _ => by
  rw [← HR.out]
  have h1:=HSH.out
  have h2:=HBS.out
  by_cases a1 : sh ≠ 0
  ·rw [if_pos a1];unfold appendF;rw [h1,if_pos a1]
  ·rw [if_neg a1]
   by_cases a2 : 400 < nb
   ·rw [if_pos a2];unfold appendF;rw [h1,if_neg a1,h2,if_pos a2]
   ·rw [if_neg a2]
    by_cases a3 : t ≤ (hi : Int) ∨ 1099511627776 < t
    ·rw [if_pos a3];unfold appendF;rw [h1,if_neg a1,h2,if_neg a2,if_pos a3]
    ·rw [if_neg a3]
 clear h hbb hb hm hu hU hhi hw hbs hbd hnn hl hpost
 go_enter Tryz.func20,Tryz.ntmps20
 go_wp2_with fail
 refine HST.mono ?_
 rintro e w1 ⟨rfl,n1,hw1⟩
 have hb1 : Below w.heap.size w w1:=by rw [hw1];exact below_drewN (Below.refl _ _) _
 have HG1 : Hid (LgG w1 base bd g gs wv D gl gc b m ag U uv hi rel L rv):=HG.out.below hb1
 have HB1 : Hid (Below w.heap.size w w1):=hb1
 have HM1 : Hid (Mvx S1 w w1 bd g gs):=Mvx.of_mv (Mv.of_below g gs hb1 HBD.out.1)
 clear hw1 hb1 HST
 by_cases a1 : sh = 0
 case neg =>
  have e5 : (sh != 0) = true:=by rw [bne_iff_ne];exact a1
  have HX:=HNO.out sh w1 wv D (by rw [HUN.out HSH.out,if_pos a1]) HG1.out HM1.out
  go_wp2
  exact HX
 subst a1
 by_cases a2 : 400 < nb
 ·have a2' : (400 : Int) < (nb : Int):=by omega
  have HX:=HNO.out 6 w1 wv D (by rw [HUN.out HSH.out,if_neg (by simp),if_pos a2]) HG1.out HM1.out
  go_wp2
  exact HX
 have c6 : w1.cell? ⟨gl,6,none⟩ = some (.int .i64 (hi : Int)):=Blk.cell HG1.out.log 6 rfl
 have a2' : ¬ (400 : Int) < (nb : Int):=by omega
 by_cases a3 : t ≤ (hi : Int)
 ·have HX:=HNO.out 14 w1 wv D (by rw [HUN.out HSH.out,if_neg (by simp),if_neg a2,if_pos (.inl a3)]) HG1.out HM1.out
  have d3 : decide (t ≤ (hi : Int)) = true:=decide_eq_true a3
  go_wp2
  exact HX
 by_cases a4 : 1099511627776 < t
 ·have HX:=HNO.out 14 w1 wv D (by rw [HUN.out HSH.out,if_neg (by simp),if_neg a2,if_pos (.inr a4)]) HG1.out HM1.out
  have d3 : decide (t ≤ (hi : Int)) = false:=decide_eq_false a3
  have d4 : decide ((1099511627776 : Int) < t) = true:=decide_eq_true a4
  go_wp2
  exact HX
 obtain ⟨T,rfl⟩ : ∃ T : Nat,t = (T : Int):=⟨t.toNat,by omega⟩
 have HT : Hid (T ≤ 1099511627776 ∧ nb ≤ 400):=by (show _ ∧ _);omega
 have d3 : decide ((T : Int) ≤ (hi : Int)) = false:=decide_eq_false a3
 have d4 : decide ((1099511627776 : Int) < (T : Int)) = false:=decide_eq_false a4
 have d5 : decide (T ≤ hi) = false:=decide_eq_false (by omega)
 have d6 : decide (1099511627776 < T) = false:=decide_eq_false (by omega)
 obtain ⟨KB,HKB⟩ : ∃ KB,Hid (keyB T bs = KB):=⟨_,rfl⟩
 obtain ⟨n,HN⟩ : ∃ n,Hid (8 + nb = n):=⟨_,rfl⟩
 have HBD1 : Hid (Rd w1 ab nb bs):=HBODY.out HT.out.2 w1 HM1.out
 have HKL : Hid (KB.length = n ∧ ∀ x ∈ KB,x < 256):=by
  (show _ ∧ _)
  rw [← HKB.out]
  unfold keyB
  refine ⟨by rw [List.length_append,HBS.out,← HN.out];simp [KeyM.key],fun x hx => ?_⟩
  rcases List.mem_append.1 hx with hx | hx
  ·exact KeyM.key_byte _ x hx
  ·exact HBD1.out.byte x hx
 obtain ⟨K,HK⟩ : ∃ K,Hid ((n + 58) / 59 = K ∧ 1 ≤ K ∧ K ≤ 7):=⟨_,rfl,by have:=HN.out;have:=HT.out;omega,by have:=HN.out;have:=HT.out;omega⟩
 obtain ⟨⟨se,D1,P0,num,shh,en⟩,HSR⟩ : ∃ r,Hid (segForF b m D U hi K = r):=⟨_,rfl⟩
 have HSA : Hid (P0 ≤ 100000 ∧ en ≤ 16 ∧ D1.waits.length ≤ 800000017):=by
  have h1:=@segFor_at b m D U hi K HSEG.out.1 HSEG.out.2.1 (fun s hs => (HSEG.out.2.2.2.1 s hs).2)
  have h2:=segFor_wl b m D U hi K
  rw [HSR.out] at h1 h2
  have h3:=HSEG.out.2.2.2.2.2
  simp only at h1 h2
  exact ⟨h1.1,h1.2,by omega⟩
 obtain ⟨⟨rwE,rwD⟩,HRW⟩ : ∃ r,Hid (writesF KB K 0 (P0 + en) D1 = r):=⟨_,rfl⟩
 have HRE : Hid (R = if se ≠ 0 then (se,D1,U,hi,false) else if rwE ≠ 0 then (rwE,rwD,U,hi,false) else (0,rwD,keepF U ⟨P0,num,T,en + K⟩,T,true)):=by
  (show _ = _)
  rw [← HR.out]
  have h1:=HSH.out
  unfold appendF
  rw [h1,if_neg (by simp),HBS.out,if_neg a2,if_neg (by omega),Int.toNat_natCast,HKB.out,HKL.out.1,HK.out.1,HSR.out]
  simp only
  rw [HRW.out]
  rfl
 clear a2 a3 a4
-- @B@
 go_wp2_with fail
 refine (octet_Key (T : Int) (by have:=HT.out;omega) w1).mono ?_
 rintro e w2 ⟨a2,rfl,ho2,hb2⟩
 have HBD2 : Hid (Rd w2 ab nb bs):=HBD1.out.below hb2
 have HO2 : Hid (Own w2 w1.heap.size (some a2) 8 8 (KeyM.key (KeyM.up (T : Int)))):=ho2
 have HX2 : Hid (Below w1.heap.size w1 w2):=hb2
 clear ho2 hb2 c6 a2' d3 d4 d5 d6
 go_wp2_with (at_builtin;refine wpList_append_rd rfl (.tmp 33) (.tmp 34) rfl w1.heap.size (some a2) 8 8 _ rfl HO2.out ab nb cb bs rfl HBD2.out HNN.out (by have:=HT.out;omega) HX2.out.size ?_)
 intro a3 c3 w3 ho3 hg3 hb3
 rw [HN.out] at ho3
 rw [HN.out]
 have HX3 : Hid (Below w1.heap.size w1 w3):=HX2.out.trans hb3
 obtain ⟨g3,cur3,HA3⟩ : ∃ g3 cur3,Hid (a3 = some ⟨g3,0,none⟩ ∧ Blk w3 g3 cur3 5 ∧ Rd w3 a3 n KB ∧ n ≤ c3):=by
  rcases ho3.row.2 with ⟨_,h0⟩ | ⟨gg,cp,cur,hv,hbg,hgg,hlc,_⟩
  ·have:=HN.out;omega
  ·cases hv
   exact ⟨gg,cur,rfl,hgg,by rw [← HKB.out];exact ho3.rd,hlc⟩
 have ha3:=HA3.out.1
 subst ha3
 clear ho3 hg3 hb3
 go_wp2_with fail
 refine (evl_cutG w3 g3 n c3 (by have:=HN.out;have:=HT.out;omega) HA3.out.2.2.2).mono ?_
 rintro e w4 ⟨ht4,hb4⟩
 rw [HK.out.1] at ht4
 obtain ⟨v4,rfl,ho4⟩:=ht4.out
 obtain ⟨gp,cp,curp,rfl,hgp,hkp,hxp⟩:=row_many ho4 (by have:=HK.out;omega)
 have HX4 : Hid (Below w1.heap.size w1 w4):=HX3.out.trans (hb4.mono HX3.out.size)
 have HG4 : Hid (LgG w4 base bd g gs wv D gl gc b m ag U uv hi rel L rv):=HG1.out.below HX4.out
 have HB4 : Hid (Below w.heap.size w w4):=HB1.out.trans (HX4.out.mono HB1.out.size)
 have HK4 : Hid (Blk w4 gp curp 92 ∧ Blk w4 g3 cur3 5 ∧ Rd w4 (some ⟨g3,0,none⟩) n KB):=⟨hkp,HA3.out.2.1.stay hb4,HA3.out.2.2.1.below hb4⟩
 have HXP : Hid (curp.toList.take (K * 3) = ptsL g3 n K):=hxp
 clear ht4 ho4 hb4 hkp hxp hgp
 have HSG : Hid (Calls Tryz.prog 50 #[.pointer (some ⟨gl,0,none⟩),.int .i64 (K : Int)] w4 fun e w' => e = .returned (.tuple #[.agg #[.int .i64 (P0 : Int),.int .i64 (num : Int),.int .i64 (shh : Int),.int .i64 (en : Int)],.int .i64 se]) ∧ Hid (∃ wv',LgG w' base bd g gs wv' D1 gl gc b m ag U uv hi rel L rv) ∧ Mv w4 w' bd g gs):=by
  have:=evl_segForG w4 base bd g gs wv D gl gc b m ag U uv hi rel L rv K HG4.out HSEG.out.1 HSEG.out.2.1 HSEG.out.2.2.1 (fun s hs => ⟨(HSEG.out.2.2.2.1 s hs).1,(HSEG.out.2.2.2.1 s hs).2.1⟩) HSEG.out.2.2.2.2.1 HSEG.out.2.2.2.2.2
  rw [HSR.out] at this
  exact this
 go_wp2_with fail
 refine HSG.out.mono ?_
 rintro e w5 ⟨rfl,hg5,hm5⟩
 obtain ⟨wv5,hg5⟩:=hg5.out
 have HG5 : Hid (LgG w5 base bd g gs wv5 D1 gl gc b m ag U uv hi rel L rv):=hg5
 have HK5 : Hid (Blk w5 gp curp 92 ∧ Blk w5 g3 cur3 5):=⟨hm5.keep HK4.out.1 (HG4.out.disk.off HK4.out.1 (by decide) (by decide)).1 (HG4.out.disk.off HK4.out.1 (by decide) (by decide)).2 (by decide),hm5.keep HK4.out.2.1 (HG4.out.disk.off HK4.out.2.1 (by decide) (by decide)).1 (HG4.out.disk.off HK4.out.2.1 (by decide) (by decide)).2 (by decide)⟩
 have HR5 : Hid (Rd w5 (some ⟨g3,0,none⟩) n KB):=HK4.out.2.2.same HK4.out.2.1 HK5.out.2
 have HM5 : Hid (Mvx S1 w w5 bd g gs):=(Mvx.of_mv (Mv.of_below g gs HB4.out HBD.out.1)).trans (Mvx.of_mv hm5)
 clear hg5 hm5
 obtain ⟨sb,HSB⟩ : ∃ sb,Hid (sb = w5.heap.size):=⟨_,rfl⟩
 have HSB1 : Hid (w.heap.size ≤ sb ∧ bd ≤ sb ∧ S1 sb ∧ some sb ≠ uv.ownBlock):=by
  have h1 : w.heap.size ≤ sb:=by rw [HSB.out];exact HM5.out.low.size
  exact ⟨h1,Nat.le_trans HBD.out.1 h1,HS1.out.1 sb h1,HNEU.out sb h1⟩
 obtain ⟨W6,HW6⟩ : ∃ W6,Hid (W6 = w5.alloc (.cells #[.int .i64 (P0 : Int),.int .i64 (num : Int),.int .i64 (shh : Int),.int .i64 (en : Int)] 88)):=⟨_,rfl⟩
 have HBW6 : Hid (Below w5.heap.size w5 W6):=by (show Below _ _ _);rw [HW6.out];exact below_alloc _ _
 have HK6 : Hid (Blk W6 sb #[.int .i64 (P0 : Int),.int .i64 (num : Int),.int .i64 (shh : Int),.int .i64 (en : Int)] 88):=by (show Blk _ _ _ _);rw [HW6.out,HSB.out];exact Blk.new _ _ _
 have HG6 : Hid (LgG W6 base bd g gs wv5 D1 gl gc b m ag U uv hi rel L rv):=HG5.out.below HBW6.out
 have HM56 : Hid (Mvx (fun q => q = sb) w5 W6 bd g gs):=Mvx.of_mv (Mv.of_below g gs HBW6.out (Nat.le_trans HBD.out.1 HM5.out.low.size))
 have HJ : Hid (∀ w',Mvx (fun q => q = sb) w5 w' bd g gs → Mvx S1 w w' bd g gs):=fun w' hx => HM5.out.trans (hx.mono (fun k _ hk => by rw [hk];exact HSB1.out.2.2.1))
 go_upto_region 10 with fail
 rw [← HW6.out,← HSB.out]
 by_cases hse : se = 0
 case neg =>
  have e5 : (se != 0) = true:=by rw [bne_iff_ne];exact hse
  have HX:=HNO.out se W6 wv5 D1 (by rw [HRE.out,if_pos hse]) HG6.out (HJ.out W6 HM56.out)
  go_wp2
  exact HX
 subst hse
 have HRE2 : Hid (R = if rwE ≠ 0 then (rwE,rwD,U,hi,false) else (0,rwD,keepF U ⟨P0,num,T,en + K⟩,T,true)):=by have h1:=HRE.out;rw [if_neg (by simp)] at h1;exact h1
-- @C@
 go_wp2_with fail
 go_loopw [6,12,13,49] (fun _ _ _ t49 wr => ∃ (k : Nat) (Dk_ : Dk) (E : Nat),k ≤ K ∧ t49 = .int .i64 (k : Int) ∧ Hid (E = en + k) ∧ Hid (writesF KB (K - k) k (P0 + E) Dk_ = (rwE,rwD)) ∧ Hid (Dk_.waits.length ≤ 800000017 + k) ∧ Hid (∃ wv',LgG wr base bd g gs wv' Dk_ gl gc b m ag U uv hi rel L rv) ∧ Hid (Blk wr sb #[.int .i64 (P0 : Int),.int .i64 (num : Int),.int .i64 (shh : Int),.int .i64 (E : Int)] 88) ∧ Hid (Mvx (fun q => q = sb) w5 wr bd g gs)) (fun _ _ _ t49 _ => K - (intOf t49).toNat)
 case atStart => exact ⟨0,D1,en,Nat.zero_le _,rfl,rfl,HRW,HSA.out.2.2,⟨_,HG6.out⟩,HK6,HM56⟩
 case round =>
  obtain ⟨k,Dk_,E,hk,rfl,HE,HWF,HWL,HGr,HKr,HMr⟩:=hrel
  have hk7 : K ≤ 7:=HK.out.2.2
  obtain ⟨w6,rfl⟩ : ∃ w6,w6 = wr:=⟨wr,rfl⟩
  obtain ⟨wv6,hg6⟩:=HGr.out
  have HG7 : Hid (LgG w6 base bd g gs wv6 Dk_ gl gc b m ag U uv hi rel L rv):=hg6
  clear hg6 HGr
  by_cases hlt : k < K
  ·have hlt' : (k : Int) < (K : Int):=by omega
   have hlt2 : (0 : Int) ≤ (k : Int):=by omega
   obtain ⟨o,HO⟩ : ∃ o,Hid (59 * k = o):=⟨_,rfl⟩
   obtain ⟨ln,HLN⟩ : ∃ ln,Hid (min n (59 * k + 59) - 59 * k = ln ∧ ln ≤ 59 ∧ o + ln ≤ n):=⟨_,rfl,by omega,by have:=HO.out;have:=HK.out;omega⟩
   obtain ⟨kd,HKD⟩ : ∃ kd : Nat,Hid (kd = if k = 0 then 2 else 3):=⟨_,rfl⟩
   obtain ⟨lst,HLS⟩ : ∃ lst,Hid (decide (n ≤ 59 * k + 59) = lst):=⟨_,rfl⟩
   obtain ⟨PB,HPB⟩ : ∃ PB,Hid (partE KB k = PB):=⟨_,rfl⟩
   obtain ⟨CB,HCB⟩ : ∃ CB,Hid (chunkL KB k = CB):=⟨_,rfl⟩
   have HPL : Hid (PB = layE kd lst CB):=by (show _ = _);rw [← HPB.out];unfold partE;rw [HKL.out.1,HLS.out,HCB.out,← HKD.out]
   have HPT : Hid (ptc g3 n k = [.int .u8 (kd : Int),.bool lst,.slice (some ⟨g3,o,none⟩) ln ln]):=by
    (show _ = _)
    unfold ptc
    rw [HLS.out,HLN.out.1,HO.out,HKD.out]
    split <;> rfl
   have HSE : Hid (Sec PB):=by (show Sec _);rw [← HPB.out];exact partE_sec HKL.out.2 k
   have HGP : Hid (Blk w6 gp curp 92 ∧ Blk w6 g3 cur3 5):=⟨HMr.out.keep HG5.out.disk HK5.out.1 (by have:=HK5.out.1.lt;have:=HSB.out;omega) (by decide) (by decide) (by decide),HMr.out.keep HG5.out.disk HK5.out.2 (by have:=HK5.out.2.lt;have:=HSB.out;omega) (by decide) (by decide) (by decide)⟩
   have HRR : Hid (Rd w6 (some ⟨g3,o,none⟩) ln CB):=by
    have h1:=(HR5.out.same HK5.out.2 HGP.out.2).part o ln HLN.out.2.2
    rw [Nat.zero_add] at h1
    (show Rd _ _ _ _)
    rw [← HCB.out,← chunk_eq,HKL.out.1,HLN.out.1,HO.out]
    exact h1
   have HRG : Hid (w6.rangeAt gp (k * 3) [.int .u8 (kd : Int),.bool lst,.slice (some ⟨g3,o,none⟩) ln ln]):=by
    have h1:=pts_row HGP.out.1 HXP.out hlt
    rw [HPT.out] at h1
    exact h1
   obtain ⟨pb,HPBB⟩ : ∃ pb,Hid (pb = w6.heap.size):=⟨_,rfl⟩
   obtain ⟨W7,HW7⟩ : ∃ W7,Hid (W7 = w6.alloc (.cells #[.int .u8 (kd : Int),.bool lst,.slice (some ⟨g3,o,none⟩) ln ln] 92)):=⟨_,rfl⟩
   have HBW7 : Hid (Below w6.heap.size w6 W7):=by (show Below _ _ _);rw [HW7.out];exact below_alloc _ _
   have HP7 : Hid (Blk W7 pb #[.int .u8 (kd : Int),.bool lst,.slice (some ⟨g3,o,none⟩) ln ln] 92):=by (show Blk _ _ _ _);rw [HW7.out,HPBB.out];exact Blk.new _ _ _
   have HK7 : Hid (Blk W7 sb #[.int .i64 (P0 : Int),.int .i64 (num : Int),.int .i64 (shh : Int),.int .i64 (E : Int)] 88):=HKr.out.stay HBW7.out
   have HG8 : Hid (LgG W7 base bd g gs wv6 Dk_ gl gc b m ag U uv hi rel L rv):=HG7.out.below HBW7.out
   have HR7 : Hid (Rd W7 (some ⟨g3,o,none⟩) ln CB):=HRR.out.below HBW7.out
   have HBS5 : Hid (bd ≤ w6.heap.size):=Nat.le_trans (Nat.le_trans HBD.out.1 HM5.out.low.size) HMr.out.low.size
   have HM7 : Hid (Mvx (fun q => q = sb) w5 W7 bd g gs):=HMr.out.trans (Mvx.of_mv (Mv.of_below g gs HBW7.out HBS5.out))
   obtain ⟨Q,HQ⟩ : ∃ Q,Hid (P0 + E = Q ∧ Q ≤ 200000):=⟨_,rfl,by have:=HSA.out;have:=HE.out;have:=HK.out;omega⟩
   have q1 : IntKind.i64.wrap ((P0 : Int) + (E : Int)) = (Q : Int):=by rw [IntKind.wrap_i64];have:=HQ.out;omega
   obtain ⟨er,HER⟩ : ∃ er,Hid (writeE Dk_ (Q : Int) PB = er):=⟨_,rfl⟩
   obtain ⟨D9,HD9⟩ : ∃ D9,Hid (writeD Dk_ (Q : Int) PB = D9):=⟨_,rfl⟩
   have HWF2 : Hid ((if er ≠ 0 then (er,D9) else writesF KB (K - (k + 1)) (k + 1) (Q + 1) D9) = (rwE,rwD)):=by
    have h1:=HWF.out
    rw [show K - k = (K - (k + 1)) + 1 from by omega,writesF,HQ.out.1,HPB.out,HER.out,HD9.out] at h1
    exact h1
   have HSS : Hid (∀ W' : World,Lc W' gl g gc b m ag uv hi rel rv → Blk W' sb #[.int .i64 (P0 : Int),.int .i64 (num : Int),.int .i64 (shh : Int),.int .i64 (E : Int)] 88 → Blk W' pb #[.int .u8 (kd : Int),.bool lst,.slice (some ⟨g3,o,none⟩) ln ln] 92 → W'.cell? ⟨gl,0,none⟩ = some (.pointer (some ⟨g,0,none⟩)) ∧ W'.cell? ⟨sb,0,none⟩ = some (.int .i64 (P0 : Int)) ∧ W'.cell? ⟨sb,3,none⟩ = some (.int .i64 (E : Int)) ∧ W'.cell? ⟨pb,0,none⟩ = some (.int .u8 (kd : Int)) ∧ W'.cell? ⟨pb,1,none⟩ = some (.bool lst) ∧ W'.cell? ⟨pb,2,none⟩ = some (.slice (some ⟨g3,o,none⟩) ln ln)):=fun W' h1 h2 h3 => ⟨Blk.cell h1 0 rfl,h2.cell 0 rfl,h2.cell 3 rfl,h3.cell 0 rfl,h3.cell 1 rfl,h3.cell 2 rfl⟩
   have s0:=HSS.out W7 HG8.out.log HK7.out HP7.out
   have HBD7 : Hid (Below W7.heap.size W7 W7.drew):=(Below.refl _ _).drew
   have HRWW : Hid (∀ (W W' : World) (q : Nat),Disk W bd g gs wv6 Dk_ → Blk W q (vb (layE kd lst CB)).toArray 96 → Mv W W' bd g gs → Rd W' (some ⟨q,0,none⟩) 64 PB):=fun W W' q hd hq hM => by
    have hb':=hM.keep hq (hd.off hq (by decide) (by decide)).1 (hd.off hq (by decide) (by decide)).2 (by decide)
    rw [← HPL.out] at hb'
    have:=Rd.of_blk hb' HSE.out.byte
    rw [HSE.out.len] at this
    exact this
   have HLN59 : Hid (ln ≤ 59):=HLN.out.2.1
   have HWLT : Hid (Dk_.waits.length < 1000000000):=by have h1:=HWL.out;have:=HK.out;(show _ < _);omega
   go_upto_region 15 with (guard_target =~ wpList _ _ _ (Oper.mk (some 52) _ _ _ _ _ :: _) _ _;refine wpList_load_mid rfl 92 (.tmp 51) rfl gp (k * 3) rfl [.int .u8 (kd : Int),.bool lst,.slice (some ⟨g3,o,none⟩) ln ln] _ HRG.out Tryz.underlying92 rfl (by rfl) ?_)
   rw [← HW7.out,← HPBB.out]
   go_region_held3 (fun w' => w'.cell? ⟨gl,0,none⟩ = some (.pointer (some ⟨g,0,none⟩)) ∧ w'.cell? ⟨sb,0,none⟩ = some (.int .i64 (P0 : Int)) ∧ w'.cell? ⟨sb,3,none⟩ = some (.int .i64 (E : Int)) ∧ w'.cell? ⟨pb,0,none⟩ = some (.int .u8 (kd : Int)) ∧ w'.cell? ⟨pb,1,none⟩ = some (.bool lst) ∧ w'.cell? ⟨pb,2,none⟩ = some (.slice (some ⟨g3,o,none⟩) ln ln)) (first | exact s0 | exact s8 | exact s9 | fail)
    (first
     | (go_at_call 51;refine (evl_lay kd lst (some ⟨g3,o,none⟩) ln ln CB W7.drew (HR7.out.below HBD7.out) HLN59.out).mono ?_;rintro e w8 ⟨q8,rfl,hq8,hk8,hb8⟩;have HX8 : Hid (Below W7.heap.size W7 w8):=HBD7.out.trans (hb8.mono HBD7.out.size);have HG9 : Hid (LgG w8 base bd g gs wv6 Dk_ gl gc b m ag U uv hi rel L rv):=HG8.out.below HX8.out;have HQ8 : Hid (Blk w8 q8 (vb (layE kd lst CB)).toArray 96):=hk8;have s8:=HSS.out w8 HG9.out.log (HK7.out.stay HX8.out) (HP7.out.stay HX8.out);clear hq8 hk8 hb8)
     | (go_at_call 25;refine (disk_Write w8 bd g gs wv6 Dk_ (Q : Int) (some ⟨q8,0,none⟩) 64 64 PB HG9.out.disk (fun W' hM => HRWW.out w8 W' q8 HG9.out.disk HQ8.out hM) (by omega) HWLT.out).mono ?_;rw [HER.out,HD9.out];rintro e w9 ⟨rfl,hd9,hm9⟩;have HM9 : Hid (Mv w8 w9 bd g gs):=hm9;have HDD9 : Hid (∃ wv',LgG w9 base bd g gs wv' D9 gl gc b m ag U uv hi rel L rv):=hd9.out.elim fun wv9 hq9 => ⟨wv9,HG9.out.mv hm9 hq9⟩;have HKS9 : Hid (Blk w9 sb #[.int .i64 (P0 : Int),.int .i64 (num : Int),.int .i64 (shh : Int),.int .i64 (E : Int)] 88 ∧ Blk w9 pb #[.int .u8 (kd : Int),.bool lst,.slice (some ⟨g3,o,none⟩) ln ln] 92):=⟨hm9.keep (HK7.out.stay HX8.out) (HG9.out.disk.off (HK7.out.stay HX8.out) (by decide) (by decide)).1 (HG9.out.disk.off (HK7.out.stay HX8.out) (by decide) (by decide)).2 (by decide),hm9.keep (HP7.out.stay HX8.out) (HG9.out.disk.off (HP7.out.stay HX8.out) (by decide) (by decide)).1 (HG9.out.disk.off (HP7.out.stay HX8.out) (by decide) (by decide)).2 (by decide)⟩;have s9:=HDD9.out.elim fun wv9 hl9 => HSS.out w9 hl9.log HKS9.out.1 HKS9.out.2;clear hd9 hm9))
   obtain ⟨wv9,hg9⟩:=HDD9.out
   have HG10 : Hid (LgG w9 base bd g gs wv9 D9 gl gc b m ag U uv hi rel L rv):=hg9
   have HM10 : Hid (Mvx (fun q => q = sb) w5 w9 bd g gs):=(HM7.out.trans (Mvx.of_mv (Mv.of_below g gs HX8.out (Nat.le_trans HBS5.out HBW7.out.size)))).trans (Mvx.of_mv HM9.out)
   clear s0 s8 s9 hg9 q1
   by_cases her : er = 0
   ·subst her
    have HWF3 : Hid (writesF KB (K - (k + 1)) (k + 1) (Q + 1) D9 = (rwE,rwD)):=by have h1:=HWF2.out;rw [if_neg (by simp)] at h1;exact h1
    obtain ⟨E2,HE2⟩ : ∃ E2,Hid (E + 1 = E2):=⟨_,rfl⟩
    have q3 : IntKind.i64.wrap ((E : Int) + 1) = (E2 : Int):=by rw [IntKind.wrap_i64];have:=HE2.out;have:=HQ.out;omega
    have k3 : w9.cell? ⟨sb,3,none⟩ = some (.int .i64 (E : Int)):=HKS9.out.1.cell 3 rfl
    have f3 : w9.frozen? ⟨sb,3,none⟩ = false:=HKS9.out.1.free 3
    have HKA : Hid (Blk (w9.setCell ⟨sb,3,none⟩ (.int .i64 (E2 : Int))) sb #[.int .i64 (P0 : Int),.int .i64 (num : Int),.int .i64 (shh : Int),.int .i64 (E2 : Int)] 88):=HKS9.out.1.set 3 _
    have HGA : Hid (LgG (w9.setCell ⟨sb,3,none⟩ (.int .i64 (E2 : Int))) base bd g gs wv9 D9 gl gc b m ag U uv hi rel L rv):=HG10.out.aside HKS9.out.1 HSB1.out.2.2.2 3 _
    have HMA : Hid (Mvx (fun q => q = sb) w5 (w9.setCell ⟨sb,3,none⟩ (.int .i64 (E2 : Int))) bd g gs):=HM10.out.set rfl HSB1.out.2.1 3 _
    have HWLA : Hid (D9.waits.length ≤ 800000017 + (k + 1)):=by
     have h1:=HWL.out
     have h2:=write_wl Dk_ (Q : Int) PB
     rw [HD9.out] at h2
     (show _ ≤ _)
     omega
    obtain ⟨WA,HWA⟩ : ∃ WA,Hid (WA = w9.setCell ⟨sb,3,none⟩ (.int .i64 (E2 : Int))):=⟨_,rfl⟩
    rw [← HWA.out] at HKA HGA HMA
    go_wp2
    rw [← HWA.out]
    go_roundw
    case rel => exact ⟨k + 1,D9,E2,by omega,by go_num,by have h1:=HE.out;have h2:=HE2.out;(show _ = _);omega,by (show _ = _);rw [show P0 + E2 = Q + 1 from by have h1:=HQ.out;have h2:=HE2.out;omega];exact HWF3.out,HWLA,⟨_,HGA.out⟩,HKA,HMA⟩
    case measure => simp [intOf];omega
   ·have e5 : (er != 0) = true:=by rw [bne_iff_ne];exact her
    have HWF3 : Hid (rwE = er ∧ rwD = D9):=by have h1:=HWF2.out;rw [if_pos her] at h1;cases h1;exact ⟨rfl,rfl⟩
    have HX:=HNO.out er w9 wv9 D9 (by rw [HRE2.out,HWF3.out.1,HWF3.out.2,if_pos her]) HG10.out (HJ.out w9 HM10.out)
    go_wp2
    exact HX
  ·obtain rfl : k = K:=by omega
   have hlt' : ¬ (k : Int) < (k : Int):=by omega
   have HWF3 : Hid (rwE = 0 ∧ rwD = Dk_):=by have h1:=HWF.out;rw [Nat.sub_self,writesF] at h1;cases h1;exact ⟨rfl,rfl⟩
   have HRE3 : Hid (R = (0,Dk_,keepF U ⟨P0,num,T,E⟩,T,true)):=by
    have h1:=HRE2.out
    rw [HWF3.out.1,HWF3.out.2,if_neg (by simp),← HE.out] at h1
    exact h1
   have k2 : w6.cell? ⟨sb,2,none⟩ = some (.int .i64 (shh : Int)):=HKr.out.cell 2 rfl
   have f2 : w6.frozen? ⟨sb,2,none⟩ = false:=HKr.out.free 2
   obtain ⟨WB,HWB⟩ : ∃ WB,Hid (WB = w6.setCell ⟨sb,2,none⟩ (.int .i64 (T : Int))):=⟨_,rfl⟩
   have HKB2 : Hid (Blk WB sb #[.int .i64 (P0 : Int),.int .i64 (num : Int),.int .i64 (T : Int),.int .i64 (E : Int)] 88):=by (show Blk _ _ _ _);rw [HWB.out];exact HKr.out.set 2 _
   have HGB : Hid (LgG WB base bd g gs wv6 Dk_ gl gc b m ag U uv hi rel L rv):=by (show LgG _ _ _ _ _ _ _ _ _ _ _ _ _ _ _ _ _ _);rw [HWB.out];exact HG7.out.aside HKr.out HSB1.out.2.2.2 2 _
   have HMB : Hid (Mvx S1 w WB bd g gs):=by (show Mvx _ _ _ _ _ _);rw [HWB.out];exact (HJ.out w6 HMr.out).set HSB1.out.2.2.1 HSB1.out.2.1 2 _
   have HRB : Hid (WB.rangeAt sb 0 [.int .i64 (P0 : Int),.int .i64 (num : Int),.int .i64 (T : Int),.int .i64 (E : Int)]):=fun j v hj => by rw [Nat.zero_add];exact HKB2.out.cell j (by simpa using hj)
   obtain ⟨U2,HU2⟩ : ∃ U2,Hid (keepF U ⟨P0,num,T,E⟩ = U2):=⟨_,rfl⟩
   have HKP : Hid (Calls Tryz.prog 52 #[.pointer (some ⟨gl,0,none⟩),.agg #[.int .i64 (P0 : Int),.int .i64 (num : Int),.int .i64 (T : Int),.int .i64 (E : Int)]] WB fun e w' => KeepTold WB base bd g gs wv6 Dk_ gl gc b m ag U2 uv hi rel L rv e w'):=by
    have:=evl_keepG WB base bd g gs wv6 Dk_ gl gc b m ag U uv hi rel L rv ⟨P0,num,T,E⟩ HGB.out (by have:=HSEG.out.2.2.1;omega)
    rw [HU2.out] at this
    exact this
   have HRE4 : Hid (R = (0,Dk_,U2,T,true)):=by (show _ = _);rw [HRE3.out,HU2.out]
   go_upto_region 21 with fail
   rw [← HWB.out]
   clear k2 f2
   go_wp2_with (guard_target =~ wpList _ _ _ (Oper.mk (some 76) _ _ _ _ _ :: _) _ _;refine wpList_load_mid rfl 88 (.tmp 9) rfl sb 0 rfl [.int .i64 (P0 : Int),.int .i64 (num : Int),.int .i64 (T : Int),.int .i64 (E : Int)] _ HRB.out Tryz.underlying88 rfl (by rfl) ?_)
   refine HKP.out.mono ?_
   rintro e wC ⟨rfl,hgC,hfC⟩
   obtain ⟨uvC,hgC,hoC⟩:=hgC.out
   have HGC : Hid (LgG wC base bd g gs wv6 Dk_ gl gc b m ag U2 uvC hi rel L rv):=hgC
   have HOC : Hid (Oon w uv uvC):=fun q hq => (hoC q hq).imp id (fun h => Nat.le_trans HMB.out.low.size h)
   have HMC : Hid (Mvx S1 w wC bd g gs):=HMB.out.trans ((Mvx.of_frm hfC.out (Nat.le_trans HBD.out.1 HMB.out.low.size) (fun q hq => by
    rcases hq with rfl | hq
    ·exact HBD.out.2
    ·exact HS1.out.2.2.2.2.1 q (HS1.out.2.2.1 q hq))).mono (fun q _ hq => by
    rcases hq with rfl | hq
    ·exact HS1.out.2.1
    ·exact HS1.out.2.2.1 q hq))
   clear hgC hoC hfC
   have c6 : wC.cell? ⟨gl,6,none⟩ = some (.int .i64 (hi : Int)):=Blk.cell HGC.out.log 6 rfl
   have f6 : wC.frozen? ⟨gl,6,none⟩ = false:=Blk.free HGC.out.log 6
   obtain ⟨p1,p2,p3,p4,p5,p6⟩:=HGC.out.put 6 (.int .i64 (T : Int))
   obtain ⟨WD,HWD⟩ : ∃ WD,Hid (WD = wC.setCell ⟨gl,6,none⟩ (.int .i64 (T : Int))):=⟨_,rfl⟩
   rw [← HWD.out] at p1 p2 p3 p4
   have HGD : Hid (LgG WD base bd g gs wv6 Dk_ gl gc b m ag U2 uvC T rel L rv):=⟨p1,by rw [HWD.out];exact Blk.set HGC.out.log 6 _,p2,p3,p4,HGC.out.bl⟩
   have HMD : Hid (Mvx S1 w WD bd g gs):=by (show Mvx _ _ _ _ _ _);rw [HWD.out];exact HMC.out.set HS1.out.2.1 HBD.out.2 6 _
   clear p1 p2 p3 p4 p5 p6
   go_upto_region 23 with fail
   rw [← HWD.out]
   clear c6 f6
   obtain ⟨rn,HRN⟩ : ∃ rn,Hid (L.length = rn):=⟨_,rfl⟩
   have hrv2 : rv = .slice ar rn cr:=by rw [← HRN.out];exact hrv
   have HRV : Hid (rv = .slice ar rn cr):=hrv2
   clear hrv
   have c8 : WD.cell? ⟨gl,8,none⟩ = some (.slice ar rn cr):=by rw [← hrv2];exact Blk.cell HGD.out.log 8 rfl
   have HXD : Hid (Below WD.heap.size WD WD.drew):=(Below.refl _ _).drew
   have HGD' : Hid (LgG WD.drew base bd g gs wv6 Dk_ gl gc b m ag U2 uvC T rel L rv):=HGD.out.below HXD.out
   have HMD' : Hid (Mvx S1 w WD.drew bd g gs):=HMD.out.trans (Mvx.of_mv (Mv.of_below g gs HXD.out (Nat.le_trans HBD.out.1 HMD.out.low.size)))
   have HDD' : Hid (Rd WD.drew ab nb bs):=HBODY.out HT.out.2 WD.drew HMD'.out
   clear hrv2
   go_region_law (first
    | (guard_target =~ (if Region.wanted (Oper.mk (some 92) _ _ _ _ _) _ = true then _ else _);refine step_append_rcA rfl (.tmp 86) (.tmp 91) rfl base _ L rfl (by rw [← HWF_.out,← HRV.out];exact HGF.out.recs) wE.heap.size 1 ⟨T,aE,nb,cE,bs⟩ rfl (by rw [← HWF_.out];exact HKF.out) (by rw [← HWF_.out];exact HDF.out) (by have:=HLL.out;omega) (by rw [← HWF_.out];exact HGF.out.sz) ?_;rw [← HWF_.out,← HRV.out];intro vG wG hrG hgG hkG hoG;obtain ⟨hG,hB,hL⟩:=HGF.out.rec_ hrG hgG hkG;have d8 : wG.cell? ⟨gl,8,none⟩ = some (.slice ar rn cr):=(by rw [← HRV.out];exact Blk.cell hL 8 rfl);have f8 : wG.frozen? ⟨gl,8,none⟩ = false:=Blk.free hL 8;have HFIN : Hid (POST (.returned (.int .i64 0)) (wG.setCell ⟨gl,8,none⟩ vG)):=HYES.out _ _ _ _ _ _ _ T rfl HRE4.out hG (by rw [List.map_append];rfl) HOC.out (fun q hq => (hoG q hq).imp id (fun h => Nat.le_trans HMF.out.low.size h)) ((HMF.out.trans ((Mvx.of_frm (Frm.of_grown (S:=fun q => some q = rv.ownBlock) hgG (fun q hq => hq)) (Nat.le_trans HBD.out.1 HMF.out.low.size) (fun q hq => HS1.out.2.2.2.2.1 q (HS1.out.2.2.2.1 q hq))).mono (fun q _ hq => HS1.out.2.2.2.1 q hq))).set HS1.out.2.1 HBD.out.2 8 vG) (fun x hx => (List.mem_append.1 hx).imp id (fun hx => by rw [List.mem_singleton.1 hx];exact (HDF2.out.kt hkG).kt ((Kt.refl wG).set hL (.inl rfl) 8 vG)));obtain ⟨aG,cG,hvG⟩:=hrG.val;rw [List.length_append] at hvG;simp only [List.length_cons,List.length_nil,Nat.zero_add,HRN.out] at hvG;subst hvG;clear hrG hgG hkG hG hB hL hoG)
    | (go_simp;go_at_call 42;refine (bytes_Clone ab nb cb bs WD.drew HDD'.out (by have:=HT.out;omega)).mono ?_;rintro e wE ⟨aE,cE,rfl,hoE,hbE⟩;have HGE : Hid (LgG wE base bd g gs wv6 Dk_ gl gc b m ag U2 uvC T rel L rv):=HGD'.out.below hbE;have HDE : Hid (Bd wE base aE nb bs):=(hoE.bd (by have:=HT.out;omega)).lower HGD'.out.sz;have HME : Hid (Mvx S1 w wE bd g gs):=HMD'.out.trans (Mvx.of_mv (Mv.of_below g gs hbE (Nat.le_trans HBD.out.1 HMD'.out.low.size)));obtain ⟨WF,HWF_⟩ : ∃ WF,Hid (WF = wE.alloc (.cells #[.int .i64 (T : Int),.slice aE nb cE] 44)):=⟨_,rfl⟩;have HXF : Hid (Below wE.heap.size wE WF):=(by (show Below _ _ _);rw [HWF_.out];exact below_alloc _ _);have HGF : Hid (LgG WF base bd g gs wv6 Dk_ gl gc b m ag U2 uvC T rel L rv):=HGE.out.below HXF.out;have HKF : Hid (Blk WF wE.heap.size #[.int .i64 (T : Int),.slice aE nb cE] 44):=(by (show Blk _ _ _ _);rw [HWF_.out];exact Blk.new _ _ _);have HDF : Hid (Bd WF base aE nb bs):=HDE.out.kt (Kt.of_below HXF.out);have HDF2 : Hid (Bd WF w.heap.size aE nb bs):=((hoE.bd (by have:=HT.out;omega)).lower HMD'.out.low.size).kt (Kt.of_below HXF.out);have HMF : Hid (Mvx S1 w WF bd g gs):=HME.out.trans (Mvx.of_mv (Mv.of_below g gs HXF.out (Nat.le_trans HBD.out.1 HME.out.low.size)));have e8 : wE.cell? ⟨gl,8,none⟩ = some (.slice ar rn cr):=(by rw [← HRV.out];exact Blk.cell HGE.out.log 8 rfl);have g8 : (wE.alloc (.cells #[.int .i64 (T : Int),.slice aE nb cE] 44)).cell? ⟨gl,8,none⟩ = some (.slice ar rn cr):=(by rw [← HRV.out];exact Blk.cell (HGE.out.log.stay (below_alloc _ _)) 8 rfl);clear hoE hbE;go_simp))
   all_goals
    clear d8 f8 c8 e8 g8
    have HX:=HFIN.out
    go_wp2
    exact HX
end Go.Proofs.YtghajmcohdedlaaGreat
