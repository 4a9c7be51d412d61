import Derived.Test.YtghajmcohdedlaaGreatPk18
namespace Go.Proofs.YtghajmcohdedlaaGreat
open Go.RowKit
set_option maxRecDepth 100000
def freeF (t : Nat) : List Sg → Dk → List Sg → Dk × List Sg × Int
 | [],D,K => (D,K,0)
 | s :: r,D,K => if r = [] ∨ t < s.high then freeF t r D (K ++ [s]) else if writeE D (s.at_ : Int) [] = 0 then freeF t r (writeD D (s.at_ : Int) []) K else (writeD D (s.at_ : Int) [],[],writeE D (s.at_ : Int) [])
theorem Mv.then_ {w w1 w2 : World} {base g gs : Nat} (hm : Mv w w1 base g gs) (hb : Below w.heap.size w1 w2) (hB : base ≤ w.heap.size) : Mv w w2 base g gs :=
 ⟨hm.low.trans (hb.mono hB),fun k cs t fr h1 h2 h3 h4 => by rw [hb.block k (heap_lt h3)];exact hm.block k cs t fr h1 h2 h3 h4⟩
theorem LgG.grow_ {w w5 : World} {base bd g gs : Nat} {wv : Value} {D : Dk} {gl gc b m ag : Nat} {U : List Sg} {uv : Value} {hi rel : Nat} {L : List Rc} {rv : Value} (h : LgG w base bd g gs wv D gl gc b m ag U uv hi rel L rv) {B : Nat} {v : Value} {K : List Sg} (hs : Sgs w B v K) (hg : w.grownBy w5 v.ownBlock) (hne : ∀ k,uv.ownBlock = some k → v.ownBlock = some k → False) : LgG w5 base bd g gs wv D gl gc b m ag U uv hi rel L rv :=
 have hk : Kt w w5:=(Kt.refl w).grown hs (.inr (.inl rfl)) hg
 have hr : Rcs w5 base rv L:=⟨own_stay h.recs.row (fun k hk2 => by
  have hlt:=(h.recs.row.lt k hk2).2
  refine hg.block k hlt (fun e => ?_)
  rcases h.recs.row.2 with ⟨a1,_⟩ | ⟨gr,cp,cur,a1,_,a3,_⟩
  ·rw [a1] at hk2;cases hk2
  ·rw [a1] at hk2
   simp only [Value.ownBlock,Option.some.injEq] at hk2
   subst hk2
   exact own_ne hs (show Blk w gr cur 44 from a3) (by decide) e),fun r hr => (h.recs.bd r hr).kt hk⟩
 ⟨h.disk.kt hk,Blk.grown h.log hg (own_ne hs h.log (by decide)),hk.keep h.cells (by decide) (by decide) (by decide),own_stay h.used (fun k hk2 => hg.block k (h.used.lt k hk2).2 (fun e => hne k hk2 e.symm)),hr,h.bl⟩
theorem Mv.front {w w' : World} {base g gs : Nat} {wv v : Value} {D : Dk} {B : Nat} {L : List Sg} (hm : Mv w w' base g gs) (hd : Disk w base g gs wv D) (h : Sgs w B v L) : Sgs w' B v L:=hm.row hd h (by decide) (by decide) (by decide)
set_option maxHeartbeats 8000000 in
theorem evl_freeSome (w : World) (base bd g gs : Nat) (wv : Value) (D : Dk) (gl gc b m ag : Nat) (U : List Sg) (gu n c : Nat) (hi rel : Nat) (L : List Rc) (rv : Value) (t : Nat) (h : LgG w base bd g gs wv D gl gc b m ag U (.slice (some ⟨gu,0,none⟩) n c) hi rel L rv) (hu : U.length ≤ 16) (hw : D.waits.length ≤ 900000000) :
  Calls Tryz.prog 45 #[.pointer (some ⟨gl,0,none⟩),.int .i64 (t : Int)] w fun e w' => Hid (∃ a k c',e = .returned (.tuple #[.slice a k c',.int .i64 (freeF t U D []).2.2]) ∧ Sgs w' w.heap.size (.slice a k c') (freeF t U D []).2.1) ∧ Hid (∃ wv',LgG w' base bd g gs wv' (freeF t U D []).1 gl gc b m ag U (.slice (some ⟨gu,0,none⟩) n c) hi rel L rv) ∧ Mv w w' bd g gs:=by
 obtain ⟨⟨RD,RK,RE⟩,HR⟩ : ∃ R,Hid (R = freeF t U D []):=⟨_,rfl⟩
 rw [← HR.out]
 simp only
 have HG : Hid (LgG w base bd g gs wv D gl gc b m ag U (.slice (some ⟨gu,0,none⟩) n c) hi rel L rv):=h
 have hn : n = U.length:=by obtain ⟨a',c',e⟩:=h.used.val;cases e;rfl
 have HN : Hid (n = U.length):=hn
 have hn16 : n ≤ 16:=by omega
 have HBS : Hid (bd ≤ w.heap.size):=Nat.le_trans h.disk.bg (Nat.le_of_lt h.disk.blk.lt)
 have HW0 : Hid (D.waits.length ≤ 900000000):=hw
 have c5 : w.cell? ⟨gl,5,none⟩ = some (.slice (some ⟨gu,0,none⟩) n c):=Blk.cell h.log 5 rfl
 clear h hn hu hw
 go_enter Tryz.func45,Tryz.ntmps45
 go_wp2
 clear c5
 go_loopw [6,7,8,9,15] (fun t6 _ _ _ t15 wr => ∃ (i : Nat) (a6 : Option Addr) (n6 c6 : Nat) (KL : List Sg) (D1 : Dk) (wv1 : Value),t6 = .slice a6 n6 c6 ∧ t15 = .int .i64 (i : Int) ∧ i ≤ n ∧ Hid (KL.length ≤ i) ∧ Hid (freeF t (U.drop i) D1 KL = (RD,RK,RE)) ∧ Hid (Sgs wr w.heap.size (.slice a6 n6 c6) KL) ∧ Hid (LgG wr base bd g gs wv1 D1 gl gc b m ag U (.slice (some ⟨gu,0,none⟩) n c) hi rel L rv) ∧ Hid (Mv w wr bd g gs) ∧ Hid (D1.waits.length ≤ 900000000 + i)) (fun _ _ _ _ t15 _ => n - (intOf t15).toNat)
 case atStart => exact ⟨0,none,0,0,[],D,wv,rfl,rfl,Nat.zero_le _,Nat.zero_le _,HR.out.symm,Sgs.nil _ _,HG,Mv.refl _ _ _ _,HW0.out⟩
 case round =>
  obtain ⟨i,a6,n6,c6,KL,D1,wv1,rfl,rfl,hin,HKL,HF,HS,HGr,HM,HW⟩:=hrel
  obtain ⟨w3,rfl⟩ : ∃ w3,w3 = wr:=⟨wr,rfl⟩
  by_cases hlt : i < n
  ·have hlt' : (i : Int) < (n : Int):=by omega
   have gi : (0 : Int) ≤ (i : Int):=by omega
   obtain ⟨s,hs⟩ : ∃ s,U[i]? = some s:=⟨_,List.getElem?_eq_getElem (by have:=HN.out;omega)⟩
   have hdr : U.drop i = s :: U.drop (i + 1):=by
    have h1:=List.drop_eq_getElem_cons (l:=U) (i:=i) (by have:=HN.out;omega)
    rw [h1,(List.getElem?_eq_some_iff.1 hs).2]
   have hsd : s = U.getD i zSg:=by rw [List.getD_eq_getElem?_getD,hs];rfl
   obtain ⟨x0,x1,x2,x3⟩:=HGr.out.used.facts (J:=i) (by have:=HN.out;omega) hsd
   have HF' : Hid (freeF t (s :: U.drop (i + 1)) D1 KL = (RD,RK,RE)):=by (show _ = _);rw [← hdr];exact HF.out
   clear HF hs hdr hsd
   obtain ⟨at_,num,sh,en⟩:=s
   simp only at x0 x1 x2 x3
   obtain ⟨W4,HW4⟩ : ∃ W,Hid (W = w3.alloc (.cells #[.int .i64 (at_ : Int),.int .i64 (num : Int),.int .i64 (sh : Int),.int .i64 (en : Int)] 88)):=⟨_,rfl⟩
   obtain ⟨vb,HVB⟩ : ∃ vb,Hid (vb = w3.heap.size):=⟨_,rfl⟩
   have HB4 : Hid (Below w3.heap.size w3 W4):=by (show Below _ _ _);rw [HW4.out];exact below_alloc _ _
   have HV4 : Hid (Blk W4 vb #[.int .i64 (at_ : Int),.int .i64 (num : Int),.int .i64 (sh : Int),.int .i64 (en : Int)] 88):=by (show Blk _ _ _ _);rw [HW4.out,HVB.out];exact Blk.new _ _ _
   have HG4 : Hid (LgG W4 base bd g gs wv1 D1 gl gc b m ag U (.slice (some ⟨gu,0,none⟩) n c) hi rel L rv):=HGr.out.below HB4.out
   have HM4 : Hid (Mv w W4 bd g gs):=HM.out.trans (Mv.of_below g gs HB4.out (Nat.le_trans HBS.out HM.out.low.size))
   have HS4 : Hid (Sgs W4 w.heap.size (.slice a6 n6 c6) KL):=HS.out.below HB4.out
   go_upto_region 5 with fail
   rw [← HW4.out,← HVB.out]
   clear x0 x1 x2 x3
   have v0 : W4.cell? ⟨vb,0,none⟩ = some (.int .i64 (at_ : Int)):=HV4.out.cell 0 rfl
   have v1 : W4.cell? ⟨vb,1,none⟩ = some (.int .i64 (num : Int)):=HV4.out.cell 1 rfl
   have v2 : W4.cell? ⟨vb,2,none⟩ = some (.int .i64 (sh : Int)):=HV4.out.cell 2 rfl
   have v3 : W4.cell? ⟨vb,3,none⟩ = some (.int .i64 (en : Int)):=HV4.out.cell 3 rfl
   have l5 : W4.cell? ⟨gl,5,none⟩ = some (.slice (some ⟨gu,0,none⟩) n c):=Blk.cell HG4.out.log 5 rfl
   have l0 : W4.cell? ⟨gl,0,none⟩ = some (.pointer (some ⟨g,0,none⟩)):=Blk.cell HG4.out.log 0 rfl
   obtain ⟨n1,HN1⟩ : ∃ n1,Hid (n = n1 + 1):=⟨n - 1,by (show _ = _);omega⟩
   have q1 : IntKind.i64.wrap ((n : Int) - 1) = (n1 : Int):=by rw [IntKind.wrap_i64];have:=HN1.out;omega
   have HRE : Hid (U.drop (i + 1) = [] ↔ i = n1):=by
    (show _ ↔ _)
    rw [List.drop_eq_nil_iff]
    have h1:=HN1.out
    have h2:=HN.out
    omega
   have HX5 : Hid (Blk (W4.alloc (.cells #[.int .i64 (at_ : Int),.int .i64 (num : Int),.int .i64 (sh : Int),.int .i64 (en : Int)] 88)) W4.heap.size (sgc ⟨at_,num,sh,en⟩).toArray 88):=Blk.new _ _ _
   have HB5 : Hid (Below W4.heap.size W4 (W4.alloc (.cells #[.int .i64 (at_ : Int),.int .i64 (num : Int),.int .i64 (sh : Int),.int .i64 (en : Int)] 88))):=below_alloc _ _
   have HKL' : Hid (KL.length ≤ 1000000):=by have:=HKL.out;(show _ ≤ _);omega
   -- kept
   have HKEEP : Hid ((i = n1 ∨ t < sh) → freeF t (U.drop (i + 1)) D1 (KL ++ [⟨at_,num,sh,en⟩]) = (RD,RK,RE)):=fun hk => by
    have h1:=HF'.out
    rw [freeF,if_pos (hk.imp (fun e => HRE.out.2 e) id)] at h1
    exact h1
   by_cases hlast : i = n1
   ·have e1 : ((i : Int) == (n1 : Int)) = true:=by rw [hlast];simp
    have hf2:=HKEEP.out (.inl hlast)
    have HF2 : Hid (freeF t (U.drop (i + 1)) D1 (KL ++ [⟨at_,num,sh,en⟩]) = (RD,RK,RE)):=hf2
    clear hlast hf2
    go_wp2_with (guard_target =~ wpList _ _ _ (Oper.mk (some 37) _ _ _ _ _ :: _) _ _;refine wpList_append_sg rfl (.tmp 34) (.tmp 36) rfl w.heap.size _ KL rfl (HS4.out.below HB5.out) W4.heap.size 1 ⟨at_,num,sh,en⟩ rfl HX5.out HKL'.out (Nat.le_trans HM4.out.low.size HB5.out.size) ?_)
    intro v5 w5 hs5 hg5 hb5
    have HG5 : Hid (LgG w5 base bd g gs wv1 D1 gl gc b m ag U (.slice (some ⟨gu,0,none⟩) n c) hi rel L rv):=(HG4.out.below HB5.out).grow_ (HS4.out.below HB5.out) hg5 (fun k hk e => by
     have h1:=(HG.out.used.freeg 0).2.2
     have h2:=(HS4.out.lt k e).1
     have h3 : gu = k:=by simpa [Value.ownBlock] using hk
     omega)
    have HM5 : Hid (Mv w w5 bd g gs):=(HM4.out.trans (Mv.of_below g gs HB5.out (Nat.le_trans HBS.out HM4.out.low.size))).then_ hb5 HBS.out
    obtain ⟨a5,c5',hv5⟩:=hs5.val
    subst hv5
    have HS5 : Hid (Sgs w5 w.heap.size (.slice a5 (KL ++ [(⟨at_,num,sh,en⟩ : Sg)]).length c5') (KL ++ [⟨at_,num,sh,en⟩])):=hs5
    clear hs5 hg5 hb5 v0 v1 v2 v3 l5 l0
    go_wp2
    go_roundw
    case rel => exact ⟨i + 1,a5,_,c5',KL ++ [⟨at_,num,sh,en⟩],D1,wv1,rfl,by go_num,by omega,by have:=HKL.out;(show (KL ++ [_]).length ≤ _);rw [List.length_append];(show KL.length + 1 ≤ _);omega,HF2,HS5,HG5,HM5,by have:=HW.out;(show _ ≤ _);omega⟩
    case measure => simp [intOf];omega
   ·have e1 : ((i : Int) == (n1 : Int)) = false:=by rw [beq_eq_false_iff_ne];omega
    by_cases hth : t < sh
    ·have e2 : (t : Int) < (sh : Int):=by omega
     have e3 : decide ((t : Int) < (sh : Int)) = true:=decide_eq_true e2
     have hf2:=HKEEP.out (.inr hth)
     have HF2 : Hid (freeF t (U.drop (i + 1)) D1 (KL ++ [⟨at_,num,sh,en⟩]) = (RD,RK,RE)):=hf2
     clear hlast hth hf2
     go_wp2_with (guard_target =~ wpList _ _ _ (Oper.mk (some 37) _ _ _ _ _ :: _) _ _;refine wpList_append_sg rfl (.tmp 34) (.tmp 36) rfl w.heap.size _ KL rfl (HS4.out.below HB5.out) W4.heap.size 1 ⟨at_,num,sh,en⟩ rfl HX5.out HKL'.out (Nat.le_trans HM4.out.low.size HB5.out.size) ?_)
     intro v5 w5 hs5 hg5 hb5
     have HG5 : Hid (LgG w5 base bd g gs wv1 D1 gl gc b m ag U (.slice (some ⟨gu,0,none⟩) n c) hi rel L rv):=(HG4.out.below HB5.out).grow_ (HS4.out.below HB5.out) hg5 (fun k hk e => by
      have h1:=(HG.out.used.freeg 0).2.2
      have h2:=(HS4.out.lt k e).1
      have h3 : gu = k:=by simpa [Value.ownBlock] using hk
      omega)
     have HM5 : Hid (Mv w w5 bd g gs):=(HM4.out.trans (Mv.of_below g gs HB5.out (Nat.le_trans HBS.out HM4.out.low.size))).then_ hb5 HBS.out
     obtain ⟨a5,c5',hv5⟩:=hs5.val
     subst hv5
     have HS5 : Hid (Sgs w5 w.heap.size (.slice a5 (KL ++ [(⟨at_,num,sh,en⟩ : Sg)]).length c5') (KL ++ [⟨at_,num,sh,en⟩])):=hs5
     clear hs5 hg5 hb5 v0 v1 v2 v3 l5 l0
     go_wp2
     go_roundw
     case rel => exact ⟨i + 1,a5,_,c5',KL ++ [⟨at_,num,sh,en⟩],D1,wv1,rfl,by go_num,by omega,by have:=HKL.out;(show (KL ++ [_]).length ≤ _);rw [List.length_append];(show KL.length + 1 ≤ _);omega,HF2,HS5,HG5,HM5,by have:=HW.out;(show _ ≤ _);omega⟩
     case measure => simp [intOf];omega
    ·have e2 : ¬ (t : Int) < (sh : Int):=by omega
     have e3 : decide ((t : Int) < (sh : Int)) = false:=decide_eq_false e2
     have HFW : Hid ((if writeE D1 (at_ : Int) [] = 0 then freeF t (U.drop (i + 1)) (writeD D1 (at_ : Int) []) KL else (writeD D1 (at_ : Int) [],[],writeE D1 (at_ : Int) [])) = (RD,RK,RE)):=by
      have h1:=HF'.out
      rw [freeF,if_neg (fun h => h.elim (fun h => hlast (HRE.out.1 h)) hth)] at h1
      exact h1
     obtain ⟨er,HER⟩ : ∃ er,Hid (writeE D1 (at_ : Int) [] = er):=⟨_,rfl⟩
     obtain ⟨D2,HD2⟩ : ∃ D2,Hid (writeD D1 (at_ : Int) [] = D2):=⟨_,rfl⟩
     rw [HER.out,HD2.out] at HFW
     clear hlast hth
     go_upto_region 7 with fail
     refine wp_region_held_drew (S:=fun w' => w'.cell? ⟨gl,0,none⟩ = some (.pointer (some ⟨g,0,none⟩)) ∧ w'.cell? ⟨vb,0,none⟩ = some (.int .i64 (at_ : Int))) (by kernel_rfl) ⟨l0,v0⟩ (fun hHeld => ?_)
     obtain ⟨wd,HWD⟩ : ∃ W,Hid (W = W4.drew):=⟨_,rfl⟩
     rw [← HWD.out] at hHeld ⊢
     have HBD : Hid (Below W4.heap.size W4 wd):=by (show Below _ _ _);rw [HWD.out];exact (Below.refl _ _).drew
     have HGd : Hid (LgG wd base bd g gs wv1 D1 gl gc b m ag U (.slice (some ⟨gu,0,none⟩) n c) hi rel L rv):=HG4.out.below HBD.out
     have HMd : Hid (Mv w wd bd g gs):=HM4.out.trans (Mv.of_below g gs HBD.out (Nat.le_trans HBS.out HM4.out.low.size))
     have HSd : Hid (Sgs wd w.heap.size (.slice a6 n6 c6) KL):=HS4.out.below HBD.out
     have HVd : Hid (Blk wd vb #[.int .i64 (at_ : Int),.int .i64 (num : Int),.int .i64 (sh : Int),.int .i64 (en : Int)] 88):=HV4.out.stay HBD.out
     have HWR : Hid (Calls Tryz.prog 25 #[.pointer (some ⟨g,0,none⟩),.int .i64 (at_ : Int),.slice none 0 0] wd fun e w' => e = .returned (.int .i64 er) ∧ Hid (∃ wv',Disk w' bd g gs wv' D2) ∧ Mv wd w' bd g gs):=by
      have:=disk_Write wd bd g gs wv1 D1 (at_ : Int) none 0 0 [] HGd.out.disk (fun w' _ => ⟨rfl,fun x hx => (by cases hx),.inl rfl⟩) (by omega) (by have:=HW.out;omega)
      rw [HER.out,HD2.out] at this
      exact this
     refine tkH 0 (some 38) (v:=?_) hHeld ?_ ?_
     rotate_left
     ·(intro wS hSw;obtain ⟨z0,z1⟩:=hSw;go_simp;try with_reducible rfl)
     try simp only [Act.put,List.setIfInBounds_toArray,List.set_cons_zero,List.set_cons_succ]
     refine tkH 1 (some 39) (v:=?_) hHeld ?_ ?_
     rotate_left
     ·(intro wS hSw;obtain ⟨z0,z1⟩:=hSw;go_simp;try with_reducible rfl)
     try simp only [Act.put,List.setIfInBounds_toArray,List.set_cons_zero,List.set_cons_succ]
     refine tkH 2 (some 40) (v:=?_) hHeld ?_ ?_
     rotate_left
     ·(intro wS hSw;obtain ⟨z0,z1⟩:=hSw;go_simp;try with_reducible rfl)
     try simp only [Act.put,List.setIfInBounds_toArray,List.set_cons_zero,List.set_cons_succ]
     refine tkH 3 (some 41) (v:=?_) hHeld ?_ ?_
     rotate_left
     ·(intro wS hSw;obtain ⟨z0,z1⟩:=hSw;go_simp;try with_reducible rfl)
     try simp only [Act.put,List.setIfInBounds_toArray,List.set_cons_zero,List.set_cons_succ]
     refine tkH 4 (some 42) (v:=?_) hHeld ?_ ?_
     rotate_left
     ·(intro wS hSw;obtain ⟨z0,z1⟩:=hSw;go_simp;try with_reducible rfl)
     try simp only [Act.put,List.setIfInBounds_toArray,List.set_cons_zero,List.set_cons_succ]
     refine tkH 5 (some 43) (v:=?_) hHeld ?_ ?_
     rotate_left
     ·(intro wS hSw;obtain ⟨z0,z1⟩:=hSw;go_simp;try with_reducible rfl)
     try simp only [Act.put,List.setIfInBounds_toArray,List.set_cons_zero,List.set_cons_succ]
     refine wpAnyH_ready (rs:=[6]) (by kernel_rfl) (by simp) ?_
     refine AllReadyH.cons rfl (fun K hK => ?_) AllReadyH.nil
     go_simp
     refine HWR.out.mono ?_
     rintro e w5 ⟨rfl,hd5,hm5⟩
     obtain ⟨wv5,hdk5⟩:=hd5.out
     have HG5 : Hid (LgG w5 base bd g gs wv5 D2 gl gc b m ag U (.slice (some ⟨gu,0,none⟩) n c) hi rel L rv):=HGd.out.mv hm5 hdk5
     have HM5 : Hid (Mv w w5 bd g gs):=HMd.out.trans hm5
     have HS5 : Hid (Sgs w5 w.heap.size (.slice a6 n6 c6) KL):=hm5.front HGd.out.disk HSd.out
     have hH5 : w5.cell? ⟨gl,0,none⟩ = some (.pointer (some ⟨g,0,none⟩)) ∧ w5.cell? ⟨vb,0,none⟩ = some (.int .i64 (at_ : Int)):=⟨Blk.cell HG5.out.log 0 rfl,(hm5.keep HVd.out (blk_ne HVd.out HGd.out.disk.blk (by decide)) (blk_ne HVd.out HGd.out.disk.srow (by decide)) (by decide)).cell 0 rfl⟩
     have HWL : Hid (D2.waits.length ≤ 900000000 + (i + 1)):=by
      (show _ ≤ _)
      rw [← HD2.out]
      have:=write_wl D1 (at_ : Int) []
      have:=HW.out
      omega
     clear hd5 hdk5 hm5 hHeld v0 v1 v2 v3 l5 l0
     refine hK.out _ _ hH5 (fun _ => ?_)
     clear hK K
     try simp only [Act.put,List.getElem_toArray,List.getElem_cons_succ,List.getElem_cons_zero,List.setIfInBounds_toArray,List.set_cons_zero,List.set_cons_succ]
     refine tkH 7 (some 9) (v:=?_) hH5 ?_ ?_
     rotate_left
     ·(intro wS hSw;obtain ⟨z0,z1⟩:=hSw;go_simp;try with_reducible rfl)
     try simp only [Act.put,List.setIfInBounds_toArray,List.set_cons_zero,List.set_cons_succ]
     refine wpAnyH_done (by kernel_rfl) ?_ _
     clear hH5
     by_cases her : er = 0
     ·subst her
      have HF2 : Hid (freeF t (U.drop (i + 1)) D2 KL = (RD,RK,RE)):=by have h1:=HFW.out;rw [if_pos rfl] at h1;exact h1
      go_wp2
      go_roundw
      case rel => exact ⟨i + 1,a6,n6,c6,KL,D2,wv5,rfl,by go_num,by omega,by have:=HKL.out;(show _ ≤ _);omega,HF2,HS5,HG5,HM5,HWL⟩
      case measure => simp [intOf];omega
     ·have e5 : (er != 0) = true:=by rw [bne_iff_ne];exact her
      have HF2 : Hid (RD = D2 ∧ RK = [] ∧ RE = er):=by
       have h1:=HFW.out
       rw [if_neg her] at h1
       simp only [Prod.mk.injEq] at h1
       exact ⟨h1.1.symm,h1.2.1.symm,h1.2.2.symm⟩
      clear her
      go_wp2
      go_returns
      refine ⟨⟨none,0,0,by rw [HF2.out.2.2];rfl,by rw [HF2.out.2.1];exact Sgs.nil _ _⟩,⟨wv5,by rw [HF2.out.1];exact HG5.out⟩,HM5.out⟩
  ·obtain rfl : i = n:=by omega
   have hnl : ¬ (i : Int) < (i : Int):=by omega
   have HF2 : Hid (RD = D1 ∧ RK = KL ∧ RE = 0):=by
    have h1:=HF.out
    rw [HN.out,List.drop_length,freeF] at h1
    simp only [Prod.mk.injEq] at h1
    exact ⟨h1.1.symm,h1.2.1.symm,h1.2.2.symm⟩
   go_wp2
   go_returns
   refine ⟨⟨a6,n6,c6,by rw [HF2.out.2.2];rfl,by rw [HF2.out.2.1];exact HS.out⟩,⟨wv1,by rw [HF2.out.1];exact HGr.out⟩,HM.out⟩
end Go.Proofs.YtghajmcohdedlaaGreat

namespace Go.Proofs.YtghajmcohdedlaaGreat
open Go.RowKit
set_option maxRecDepth 100000
structure Mvx (S : Nat → Prop) (w w' : World) (base g gs : Nat) : Prop where
 low : Below base w w'
 block : ∀ k cs t fr,k ≠ g → k ≠ gs → ¬ S k → w.heap[k]? = some (.cells cs t fr) → t ≠ 99 → w'.heap[k]? = some (.cells cs t fr)
theorem Mvx.of_mv {S : Nat → Prop} {w w' : World} {base g gs : Nat} (h : Mv w w' base g gs) : Mvx S w w' base g gs:=⟨h.low,fun k cs t fr h1 h2 _ h3 h4 => h.block k cs t fr h1 h2 h3 h4⟩
theorem Mvx.trans {S : Nat → Prop} {w w1 w2 : World} {base g gs : Nat} (h : Mvx S w w1 base g gs) (h2 : Mvx S w1 w2 base g gs) : Mvx S w w2 base g gs:=⟨h.low.trans h2.low,fun k cs t fr a1 a2 a3 a4 a5 => h2.block k cs t fr a1 a2 a3 (h.block k cs t fr a1 a2 a3 a4 a5) a5⟩
theorem Mvx.set {S : Nat → Prop} {w w' : World} {base g gs : Nat} (h : Mvx S w w' base g gs) {k : Nat} (hk : S k) (hb : base ≤ k) (i : Nat) (v : Value) : Mvx S w (w'.setCell ⟨k,i,none⟩ v) base g gs :=
 ⟨h.low.setCell hb v,fun j cs t fr a1 a2 a3 a4 a5 => by
  rw [heap_setCell_other w' ⟨k,i,none⟩ j v (fun e => a3 (by have e' : j = k:=e;rw [e'];exact hk))]
  exact h.block j cs t fr a1 a2 a3 a4 a5⟩
theorem Mvx.mono {S S' : Nat → Prop} {w w' : World} {base g gs : Nat} (h : Mvx S w w' base g gs) (hs : ∀ k,k < w.heap.size → S k → S' k) : Mvx S' w w' base g gs:=⟨h.low,fun k cs t fr a1 a2 a3 a4 a5 => h.block k cs t fr a1 a2 (fun h6 => a3 (hs k (heap_lt a4) h6)) a4 a5⟩
def lastG (K : List Sg) : Sg:=K.getD (K.length - 1) zSg
def tidyF (U : List Sg) (rel : Nat) (D : Dk) : Dk × List Sg :=
 let F:=freeF rel U D []
 let W:=wipeL F.1 (16 - (lastG F.2.1).en) ((lastG F.2.1).at_ + (lastG F.2.1).en) false
 (if W.2.1 = true ∨ F.2.1.length < U.length then syncD W.1 else W.1,F.2.1)
theorem Sgs.low {w : World} {B B' : Nat} {v : Value} {L : List Sg} (h : Sgs w B v L) (hb : B' ≤ B) : Sgs w B' v L:=by
 refine ⟨h.1,?_⟩
 rcases h.2 with q0 | ⟨gg,cp,cur,q1,q2,q3⟩
 ·exact .inl q0
 ·exact .inr ⟨gg,cp,cur,q1,Nat.le_trans hb q2,q3⟩
set_option maxHeartbeats 8000000 in
theorem evl_tidyG (w : World) (base bd g gs : Nat) (wv : Value) (D : Dk) (gl gc b m ag : Nat) (U : List Sg) (uv : Value) (hi rel : Nat) (L : List Rc) (rv : Value) (D1 : Dk) (KL : List Sg) (D2 : Dk) (wb : Bool) (h : LgG w base bd g gs wv D gl gc b m ag U uv hi rel L rv) (hbb : bd ≤ base) (hu : U ≠ [] ∧ U.length ≤ 16) (hw : D.waits.length ≤ 900000000) (hF : freeF rel U D [] = (D1,KL,0)) (hK : KL ≠ [] ∧ KL.length ≤ 16) (hat : (lastG KL).at_ ≤ 50000 ∧ (lastG KL).en ≤ 16) (hw1 : D1.waits.length ≤ 900000100) (hwp : wipeL D1 (16 - (lastG KL).en) ((lastG KL).at_ + (lastG KL).en) false = (D2,wb,0)) (hsy : syncE D2 = 0) :
  Calls Tryz.prog 75 #[.pointer (some ⟨gl,0,none⟩)] w fun e w' => e = .returned (.int .i64 0) ∧ Hid (∃ wv' uv',LgG w' base bd g gs wv' (if wb = true ∨ KL.length < U.length then syncD D2 else D2) gl gc b m ag KL uv' hi rel L rv) ∧ Hid (Mvx (fun k => k = gl) w w' bd g gs):=by
 obtain ⟨D3,HD3⟩ : ∃ D3,Hid ((if wb = true ∨ KL.length < U.length then syncD D2 else D2) = D3):=⟨_,rfl⟩
 rw [HD3.out]
 have HG : Hid (LgG w base bd g gs wv D gl gc b m ag U uv hi rel L rv):=h
 have HBD : Hid (bd ≤ w.heap.size ∧ bd ≤ gl):=⟨Nat.le_trans h.disk.bg (Nat.le_of_lt h.disk.blk.lt),Nat.le_trans hbb h.bl⟩
 obtain ⟨un,HUN⟩ : ∃ un,Hid (U.length = un):=⟨_,rfl⟩
 obtain ⟨gu,cu,hv⟩ : ∃ gu cu,uv = .slice (some ⟨gu,0,none⟩) un cu:=by
  rcases h.used.2 with ⟨h1,h2⟩ | ⟨g',c',cur,h1,_⟩
  ·exact absurd (List.eq_nil_of_length_eq_zero h2) hu.1
  ·exact ⟨g',c',by rw [h1,HUN.out]⟩
 subst hv
 have hun : ¬ un = 0:=fun e => hu.1 (List.eq_nil_of_length_eq_zero (HUN.out.trans e))
 have hun2 : ((un : Int) == 0) = false:=by rw [beq_eq_false_iff_ne];omega
 have hun16 : un ≤ 16:=by rw [← HUN.out];exact hu.2
 have HFR:=evl_freeSome w base bd g gs wv D gl gc b m ag U gu un cu hi rel L rv rel h hu.2 hw
 rw [hF] at HFR
 simp only at HFR
 obtain ⟨kn,HKN⟩ : ∃ kn,Hid (KL.length = kn):=⟨_,rfl⟩
 obtain ⟨k1,HK1⟩ : ∃ k1,Hid (kn = k1 + 1):=⟨kn - 1,by have h1:=HKN.out;have h2 : 0 < KL.length:=List.length_pos_iff.2 hK.1;(show _ = _);omega⟩
 have hkn16 : kn ≤ 16:=by rw [← HKN.out];exact hK.2
 obtain ⟨s,HLS⟩ : ∃ s,Hid (lastG KL = s):=⟨_,rfl⟩
 have HSD : Hid (s = KL.getD k1 zSg ∧ k1 < KL.length):=by
  have h1:=HKN.out
  have h2:=HK1.out
  refine ⟨?_,by omega⟩
  rw [← HLS.out]
  unfold lastG
  rw [h1,h2]
  rfl
 rw [HLS.out] at hat hwp
 obtain ⟨at_,num,sh,en⟩:=s
 simp only at hat hwp
 have HWP : Hid (wipeL D1 (16 - en) (at_ + en) false = (D2,wb,0)):=hwp
 have HW1 : Hid (D1.waits.length ≤ 900000100):=hw1
 have HSY : Hid (syncE D2 = 0):=hsy
 have HAT : Hid (at_ ≤ 50000 ∧ en ≤ 16):=hat
 obtain ⟨P,HP⟩ : ∃ P,Hid (P = at_ + en):=⟨_,rfl⟩
 obtain ⟨Q,HQ⟩ : ∃ Q,Hid (Q = at_ + 16):=⟨_,rfl⟩
 have c5 : w.cell? ⟨gl,5,none⟩ = some (.slice (some ⟨gu,0,none⟩) un cu):=Blk.cell h.log 5 rfl
 have c7 : w.cell? ⟨gl,7,none⟩ = some (.int .i64 (rel : Int)):=Blk.cell h.log 7 rfl
 have HLT : Hid (KL.length < U.length ↔ (kn : Int) < (un : Int)):=by have h1:=HKN.out;have h2:=HUN.out;(show _ ↔ _);omega
 clear h hu hw hF hK hwp hsy hw1 hbb hat hun
 go_enter Tryz.func75,Tryz.ntmps75
 go_wp2_with fail
 refine HFR.mono ?_
 rintro e w1 ⟨ht1,hg1,hm1⟩
 obtain ⟨ak,nk,ck,rfl,hs1⟩:=ht1.out
 obtain ⟨wv1,hg1⟩:=hg1.out
 have hnk : nk = kn:=by obtain ⟨a',c',e⟩:=hs1.val;cases e;exact HKN.out
 subst hnk
 obtain ⟨gk,rfl⟩ : ∃ gk,ak = some ⟨gk,0,none⟩:=by
  rcases hs1.2 with ⟨h1,h2⟩ | ⟨g',c',cur,h1,_⟩
  ·have:=HSD.out.2;omega
  ·simp only [Value.slice.injEq] at h1
   exact ⟨g',h1.1⟩
 have HG1 : Hid (LgG w1 base bd g gs wv1 D1 gl gc b m ag U (.slice (some ⟨gu,0,none⟩) un cu) hi rel L rv):=hg1
 have HM1 : Hid (Mv w w1 bd g gs):=hm1
 have HS1 : Hid (Sgs w1 base (.slice (some ⟨gk,0,none⟩) nk ck) KL):=hs1.low HG.out.sz
 have HKB : Hid (w.heap.size ≤ gk):=(hs1.freeg 0).2.1
 obtain ⟨x0,x1,x2,x3⟩:=hs1.facts HSD.out.2 HSD.out.1
 simp only at x0 x1 x2 x3
 have q1 : IntKind.i64.wrap ((nk : Int) - 1) = (k1 : Int):=by rw [IntKind.wrap_i64];have:=HK1.out;omega
 have q2 : (0 : Int) ≤ (k1 : Int):=by omega
 have q3 : (k1 : Int) < (nk : Int):=by have:=HK1.out;omega
 obtain ⟨W2,HW2⟩ : ∃ W2,Hid (W2 = w1.alloc (.cells #[.int .i64 (at_ : Int),.int .i64 (num : Int),.int .i64 (sh : Int),.int .i64 (en : Int)] 88)):=⟨_,rfl⟩
 obtain ⟨vb,HVB⟩ : ∃ vb,Hid (vb = w1.heap.size):=⟨_,rfl⟩
 have HB2 : Hid (Below w1.heap.size w1 W2):=by (show Below _ _ _);rw [HW2.out];exact below_alloc _ _
 have HV2 : Hid (Blk W2 vb #[.int .i64 (at_ : Int),.int .i64 (num : Int),.int .i64 (sh : Int),.int .i64 (en : Int)] 88):=by (show Blk _ _ _ _);rw [HW2.out,HVB.out];exact Blk.new _ _ _
 have HG2 : Hid (LgG W2 base bd g gs wv1 D1 gl gc b m ag U (.slice (some ⟨gu,0,none⟩) un cu) hi rel L rv):=HG1.out.below HB2.out
 have HM2 : Hid (Mv w W2 bd g gs):=HM1.out.trans (Mv.of_below g gs HB2.out (Nat.le_trans HBD.out.1 HM1.out.low.size))
 have HS2 : Hid (Sgs W2 base (.slice (some ⟨gk,0,none⟩) nk ck) KL):=HS1.out.below HB2.out
 clear hs1 ht1 hg1 hm1 HFR c5 c7
 go_upto_region 7 with fail
 rw [← HW2.out,← HVB.out]
 clear x0 x1 x2 x3
 have v0 : W2.cell? ⟨vb,0,none⟩ = some (.int .i64 (at_ : Int)):=HV2.out.cell 0 rfl
 have v3 : W2.cell? ⟨vb,3,none⟩ = some (.int .i64 (en : Int)):=HV2.out.cell 3 rfl
 have r1 : IntKind.i64.wrap ((at_ : Int) + (en : Int)) = (P : Int):=by rw [IntKind.wrap_i64];have:=HP.out;have:=HAT.out;omega
 have r2 : IntKind.i64.wrap ((at_ : Int) + 16) = (Q : Int):=by rw [IntKind.wrap_i64];have:=HQ.out;have:=HAT.out;omega
 have HWI : Hid (Calls Tryz.prog 90 #[.pointer (some ⟨gl,0,none⟩),.int .i64 (P : Int),.int .i64 (Q : Int)] W2 fun e w' => e = .returned (.tuple #[.bool wb,.int .i64 0]) ∧ Hid (∃ wv',Disk w' bd g gs wv' D2) ∧ Mv W2 w' bd g gs):=by
  have h1:=HAT.out
  have h2:=HP.out
  have h3:=HQ.out
  have h4:=HW1.out
  have:=evl_wipe W2 bd g gs wv1 D1 gl gc b m ag hi rel (.slice (some ⟨gu,0,none⟩) un cu) rv P Q HG2.out.disk HG2.out.log (by omega) (by omega) (by omega)
  rw [show Q - P = 16 - en from by omega,h2,HWP.out] at this
  rw [← h2] at this
  exact this
 go_wp2_with fail
 refine HWI.out.mono ?_
 rintro e w3 ⟨rfl,hd3,hm3⟩
 obtain ⟨wv3,hd3⟩:=hd3.out
 have HG3 : Hid (LgG w3 base bd g gs wv3 D2 gl gc b m ag U (.slice (some ⟨gu,0,none⟩) un cu) hi rel L rv):=HG2.out.mv hm3 hd3
 have HM3 : Hid (Mv w w3 bd g gs):=HM2.out.trans hm3
 have HS3 : Hid (Sgs w3 base (.slice (some ⟨gk,0,none⟩) nk ck) KL):=hm3.front HG2.out.disk HS2.out
 clear hd3 hm3 v0 v3 r1 r2 q1 q2 q3
 have l0 : w3.cell? ⟨gl,0,none⟩ = some (.pointer (some ⟨g,0,none⟩)):=Blk.cell HG3.out.log 0 rfl
 have l5 : w3.cell? ⟨gl,5,none⟩ = some (.slice (some ⟨gu,0,none⟩) un cu):=Blk.cell HG3.out.log 5 rfl
 have f5 : w3.frozen? ⟨gl,5,none⟩ = false:=Blk.free HG3.out.log 5
 have HSYN : Hid (Calls Tryz.prog 46 #[.pointer (some ⟨g,0,none⟩)] w3 fun e w' => e = .returned (.int .i64 0) ∧ Hid (∃ wv',Disk w' bd g gs wv' (syncD D2)) ∧ Mv w3 w' bd g gs):=by
  have:=disk_Sync w3 bd g gs wv3 D2 HG3.out.disk
  rw [HSY.out] at this
  exact this
 -- the kept ones are laid down
 have HEND : Hid (∀ w4 wv4 D4,LgG w4 base bd g gs wv4 D4 gl gc b m ag U (.slice (some ⟨gu,0,none⟩) un cu) hi rel L rv → Sgs w4 base (.slice (some ⟨gk,0,none⟩) nk ck) KL → Mv w w4 bd g gs → LgG (w4.setCell ⟨gl,5,none⟩ (.slice (some ⟨gk,0,none⟩) nk ck)) base bd g gs wv4 D4 gl gc b m ag KL (.slice (some ⟨gk,0,none⟩) nk ck) hi rel L rv ∧ Mvx (fun k => k = gl) w (w4.setCell ⟨gl,5,none⟩ (.slice (some ⟨gk,0,none⟩) nk ck)) bd g gs):=fun w4 wv4 D4 hg hs hm => by
  obtain ⟨p1,p2,p3,p4,p5,p6⟩:=hg.put 5 (.slice (some ⟨gk,0,none⟩) nk ck)
  exact ⟨⟨p1,Blk.set hg.log 5 _,p2,row_set hs (own_ne hs hg.log (by decide)),p4,hg.bl⟩,Mvx.set (S:=fun k => k = gl) (Mvx.of_mv hm) rfl HBD.out.2 5 _⟩
 cases wb with
 | true =>
  go_wp2_with fail
  refine HSYN.out.mono ?_
  rintro e w4 ⟨rfl,hd4,hm4⟩
  obtain ⟨wv4,hd4⟩:=hd4.out
  have HG4 : Hid (LgG w4 base bd g gs wv4 (syncD D2) gl gc b m ag U (.slice (some ⟨gu,0,none⟩) un cu) hi rel L rv):=HG3.out.mv hm4 hd4
  obtain ⟨e1,e2⟩:=HEND.out w4 wv4 (syncD D2) HG4.out (hm4.front HG3.out.disk HS3.out) (HM3.out.trans hm4)
  have HE : Hid (LgG (w4.setCell ⟨gl,5,none⟩ (.slice (some ⟨gk,0,none⟩) nk ck)) base bd g gs wv4 D3 gl gc b m ag KL (.slice (some ⟨gk,0,none⟩) nk ck) hi rel L rv ∧ Mvx (fun k => k = gl) w (w4.setCell ⟨gl,5,none⟩ (.slice (some ⟨gk,0,none⟩) nk ck)) bd g gs):=⟨by rw [← HD3.out,if_pos (by first | exact .inl rfl | exact .inl trivial)];exact e1,e2⟩
  clear hd4 hm4 e1 e2 l0 l5 f5
  have l5 : w4.cell? ⟨gl,5,none⟩ = some (.slice (some ⟨gu,0,none⟩) un cu):=Blk.cell HG4.out.log 5 rfl
  have f5 : w4.frozen? ⟨gl,5,none⟩ = false:=Blk.free HG4.out.log 5
  go_wp2
  go_returns
  exact ⟨rfl,⟨wv4,_,HE.out.1⟩,HE.out.2⟩
 | false =>
  by_cases hlt : (nk : Int) < (un : Int)
  ·have hd : decide ((nk : Int) < (un : Int)) = true:=decide_eq_true hlt
   go_wp2_with fail
   refine HSYN.out.mono ?_
   rintro e w4 ⟨rfl,hd4,hm4⟩
   obtain ⟨wv4,hd4⟩:=hd4.out
   have HG4 : Hid (LgG w4 base bd g gs wv4 (syncD D2) gl gc b m ag U (.slice (some ⟨gu,0,none⟩) un cu) hi rel L rv):=HG3.out.mv hm4 hd4
   obtain ⟨e1,e2⟩:=HEND.out w4 wv4 (syncD D2) HG4.out (hm4.front HG3.out.disk HS3.out) (HM3.out.trans hm4)
   have HE : Hid (LgG (w4.setCell ⟨gl,5,none⟩ (.slice (some ⟨gk,0,none⟩) nk ck)) base bd g gs wv4 D3 gl gc b m ag KL (.slice (some ⟨gk,0,none⟩) nk ck) hi rel L rv ∧ Mvx (fun k => k = gl) w (w4.setCell ⟨gl,5,none⟩ (.slice (some ⟨gk,0,none⟩) nk ck)) bd g gs):=⟨by rw [← HD3.out,if_pos (.inr (HLT.out.2 hlt))];exact e1,e2⟩
   clear hd4 hm4 e1 e2 l0 l5 f5
   have l5 : w4.cell? ⟨gl,5,none⟩ = some (.slice (some ⟨gu,0,none⟩) un cu):=Blk.cell HG4.out.log 5 rfl
   have f5 : w4.frozen? ⟨gl,5,none⟩ = false:=Blk.free HG4.out.log 5
   go_wp2
   go_returns
   exact ⟨rfl,⟨wv4,_,HE.out.1⟩,HE.out.2⟩
  ·have hd : decide ((nk : Int) < (un : Int)) = false:=decide_eq_false hlt
   obtain ⟨e1,e2⟩:=HEND.out w3 wv3 D2 HG3.out HS3.out HM3.out
   have HE : Hid (LgG (w3.setCell ⟨gl,5,none⟩ (.slice (some ⟨gk,0,none⟩) nk ck)) base bd g gs wv3 D3 gl gc b m ag KL (.slice (some ⟨gk,0,none⟩) nk ck) hi rel L rv ∧ Mvx (fun k => k = gl) w (w3.setCell ⟨gl,5,none⟩ (.slice (some ⟨gk,0,none⟩) nk ck)) bd g gs):=⟨by rw [← HD3.out,if_neg (fun h => h.elim (fun h => by cases h) (fun h => hlt (HLT.out.1 h)))];exact e1,e2⟩
   clear e1 e2
   go_wp2
   go_returns
   exact ⟨rfl,⟨wv3,_,HE.out.1⟩,HE.out.2⟩
end Go.Proofs.YtghajmcohdedlaaGreat
