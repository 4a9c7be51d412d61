import Derived.Test.YtghajmcohdedlaaGreatPk16
import Derived.Deep.RegionHeld3
namespace Go.Proofs.YtghajmcohdedlaaGreat
open Go.RowKit
set_option maxRecDepth 100000
theorem tkH {P : Program} {ops : Array Oper} {Q : Exit → Act → World → Prop} {S : World → Prop} {md : Region.Mode} {oi : Oper} {v : Value} {fuel : Nat} {listed : Array Bool} {a : Act} {w : World} (i : Nat) (d : Option Nat) (hS : S w)
  (hv : ∀ w,S w → (execOp a.eval oi).run P w = .ok (.value v) w) (h : wpAnyH P md ops Q S fuel (listed.setIfInBounds i true) (a.put d v) w)
  (hi : ops[i]? = some oi:=by rfl) (hd : oi.dst = d:=by kernel_rfl) (hs : Region.noSelect ops = true:=by kernel_rfl) (hf : Region.free md ops listed i = true:=by kernel_rfl) (hr : (Region.ready md ops listed).contains i = true:=by kernel_rfl)
  (hQ : ∀ c a w,Q (.panic c) (a.put d v) w → Q (.panic c) a w:=by exact fun _ _ _ h => h) (hw : Region.wanted oi (yielded ops a.tmps) = true:=by rfl) : wpAnyH P md ops Q S (fuel + 1) listed a w :=
 take_putH d hi hd hs hf hr hQ (.inl ⟨hw,hv⟩) hS h
theorem tkN {P : Program} {ops : Array Oper} {Q : Exit → Act → World → Prop} {S : World → Prop} {md : Region.Mode} {oi : Oper} {fuel : Nat} {listed : Array Bool} {a : Act} {w : World} (i : Nat) (d : Option Nat) (hS : S w)
  (h : wpAnyH P md ops Q S fuel (listed.setIfInBounds i true) (a.put d undef) w)
  (hi : ops[i]? = some oi:=by rfl) (hd : oi.dst = d:=by kernel_rfl) (hs : Region.noSelect ops = true:=by kernel_rfl) (hf : Region.free md ops listed i = true:=by kernel_rfl) (hr : (Region.ready md ops listed).contains i = true:=by kernel_rfl)
  (hQ : ∀ c a w,Q (.panic c) (a.put d undef) w → Q (.panic c) a w:=by exact fun _ _ _ h => h) (hw : Region.wanted oi (yielded ops a.tmps) = false:=by rfl) : wpAnyH P md ops Q S (fuel + 1) listed a w :=
 take_putH d hi hd hs hf hr hQ (.inr ⟨hw,rfl⟩) hS h
theorem Sgs.facts {w : World} {base kb n c : Nat} {l : List Sg} (h : Sgs w base (.slice (some ⟨kb,0,none⟩) n c) l) {J : Nat} (hJ : J < l.length) {x : Sg} (hx : x = l.getD J zSg) : w.cell? ⟨kb,J * 4,none⟩ = some (.int .i64 (x.at_ : Int)) ∧ w.cell? ⟨kb,J * 4 + 1,none⟩ = some (.int .i64 (x.num : Int)) ∧ w.cell? ⟨kb,J * 4 + 2,none⟩ = some (.int .i64 (x.high : Int)) ∧ w.cell? ⟨kb,J * 4 + 3,none⟩ = some (.int .i64 (x.en : Int)) :=
 ⟨by rw [show J * 4 = J * 4 + 0 from rfl,h.cellg hJ (by omega),← hx];rfl,by rw [h.cellg hJ (by omega),← hx];rfl,by rw [h.cellg hJ (by omega),← hx];rfl,by rw [h.cellg hJ (by omega),← hx];rfl⟩
theorem Sgs.frz {w : World} {base kb n c : Nat} {l : List Sg} (h : Sgs w base (.slice (some ⟨kb,0,none⟩) n c) l) (J : Nat) : w.frozen? ⟨kb,J * 4,none⟩ = false ∧ w.frozen? ⟨kb,J * 4 + 1,none⟩ = false ∧ w.frozen? ⟨kb,J * 4 + 2,none⟩ = false ∧ w.frozen? ⟨kb,J * 4 + 3,none⟩ = false:=⟨(h.freeg _).1,(h.freeg _).1,(h.freeg _).1,(h.freeg _).1⟩
theorem set_getD {l : List Sg} {J q : Nat} (v : Sg) (h : q ≠ J) : (l.set J v).getD q zSg = l.getD q zSg:=by
 rw [List.getD_eq_getElem?_getD,List.getD_eq_getElem?_getD,List.getElem?_set_ne (Ne.symm h)]
set_option maxHeartbeats 16000000 in
theorem sg_ins (w : World) (base kb n c : Nat) (l : List Sg) (hr : Sgs w base (.slice (some ⟨kb,0,none⟩) n c) l) (hn : n ≤ 1000) :
  Calls Tryz.prog 120 #[.slice (some ⟨kb,0,none⟩) n c,.int .i64 0,.int .i64 (n : Int),.func (.func 104) #[] #[]] w fun e w' => e = .returned (.tuple #[]) ∧ Sgs w' base (.slice (some ⟨kb,0,none⟩) n c) (sortG l) ∧ Below base w w':=by
 have hln : l.length = n:=by obtain ⟨a,c',e⟩:=hr.val;cases e;rfl
 have HR0 : Hid (Sgs w base (.slice (some ⟨kb,0,none⟩) n c) l):=hr
 have HBK : Hid (base ≤ kb):=(hr.freeg 0).2.1
 have HBW : Hid (base ≤ w.heap.size):=by have:=hr.freeg 0;(show _ ≤ _);omega
 obtain ⟨R,HR⟩ : ∃ R,Hid (R = sortG l):=⟨_,rfl⟩
 rw [← HR.out]
 have HLN : Hid (l.length = n):=hln
 clear hr hln
 go_enter Tryz.func120,Tryz.ntmps120
 go_wp2
 go_loopw [8] (fun t8 wr => ∃ (i : Nat) (l1 : List Sg),1 ≤ i ∧ i ≤ n + 1 ∧ t8 = .int .i64 (i : Int) ∧ Hid (l1.length = n) ∧ Hid (outG (List.range' i (n - i)) l1 = R) ∧ Hid (Sgs wr base (.slice (some ⟨kb,0,none⟩) n c) l1) ∧ Hid (Below base w wr)) (fun t8 _ => n + 1 - (intOf t8).toNat)
 case atStart => exact ⟨1,l,by omega,by omega,by go_num,HLN,by (show _ = _);rw [HR.out,← HLN.out];rfl,HR0,Below.refl _ _⟩
 case round =>
  obtain ⟨i,l1,hi1,hi2,rfl,HLE,HE,HRW,HG⟩:=hrel
  obtain ⟨w2,rfl⟩ : ∃ w2,w2 = wr:=⟨wr,rfl⟩
  by_cases hib : i < n
  ·have hib' : (i : Int) < (n : Int):=by omega
   have HE2 : Hid (outG (List.range' (i + 1) (n - (i + 1))) (insG i l1) = R):=by
    show _ = _
    rw [← HE.out,show n - i = (n - (i + 1)) + 1 from by omega,List.range'_succ,outG]
   clear HE
   go_wp2
   go_loopw [9] (fun t9 wr => ∃ (J : Nat) (l2 : List Sg),J ≤ i ∧ t9 = .int .i64 (J : Int) ∧ Hid (l2.length = n) ∧ Hid (insG J l2 = insG i l1) ∧ Hid (Sgs wr base (.slice (some ⟨kb,0,none⟩) n c) l2) ∧ Hid (Below base w wr)) (fun t9 _ => (intOf t9).toNat)
   case atStart => exact ⟨i,l1,by omega,rfl,HLE,rfl,HRW,HG⟩
   case round =>
    clear HRW HG
    obtain ⟨J,l2,hj2,rfl,HLJ,HF,HRj,HGj⟩:=hrel
    obtain ⟨w3,rfl⟩ : ∃ w3,w3 = wr:=⟨wr,rfl⟩
    by_cases hja : J = 0
    ·subst hja
     have HX : Hid (insG i l1 = l2):=by (show _ = _);rw [← HF.out];rfl
     go_upto_region 4 with fail
     refine wp_region_held_drew (S:=fun _ => True) (by kernel_rfl) trivial (fun hHeld => ?_)
     obtain ⟨wd,HWD⟩ : ∃ W,Hid (W = w3.drew):=⟨_,rfl⟩
     rw [← HWD.out] at ⊢
     have HBD : Hid (Below w3.heap.size w3 wd):=by (show Below _ _ _);rw [HWD.out];exact (Below.refl _ _).drew
     have HRd : Hid (Sgs wd base (.slice (some ⟨kb,0,none⟩) n c) l2):=HRj.out.below HBD.out
     have HGd : Hid (Below base w wd):=HGj.out.trans (HBD.out.mono (Nat.le_trans HBW.out HGj.out.size))
     refine tkH 0 (some 18) (v:=?_) trivial ?_ ?_
     rotate_left
     ·(intro wS hSw;go_simp;try with_reducible rfl)
     try simp only [Act.put,List.setIfInBounds_toArray,List.set_cons_zero,List.set_cons_succ]
     refine tkH 1 (some 19) (v:=?_) trivial ?_ ?_
     rotate_left
     ·(intro wS hSw;go_simp;try with_reducible rfl)
     try simp only [Act.put,List.setIfInBounds_toArray,List.set_cons_zero,List.set_cons_succ]
     refine tkH 2 (some 20) (v:=?_) trivial ?_ ?_
     rotate_left
     ·(intro wS hSw;go_simp;try with_reducible rfl)
     try simp only [Act.put,List.setIfInBounds_toArray,List.set_cons_zero,List.set_cons_succ]
     refine tkH 3 (some 21) (v:=?_) trivial ?_ ?_
     rotate_left
     ·(intro wS hSw;go_simp;try with_reducible rfl)
     try simp only [Act.put,List.setIfInBounds_toArray,List.set_cons_zero,List.set_cons_succ]
     refine tkN 4 (some 22) trivial ?_
     try simp only [Act.put,List.setIfInBounds_toArray,List.set_cons_zero,List.set_cons_succ]
     refine tkN 5 (some 23) trivial ?_
     try simp only [Act.put,List.setIfInBounds_toArray,List.set_cons_zero,List.set_cons_succ]
     refine tkN 6 (some 24) trivial ?_
     try simp only [Act.put,List.setIfInBounds_toArray,List.set_cons_zero,List.set_cons_succ]
     refine tkN 7 (some 25) trivial ?_
     try simp only [Act.put,List.setIfInBounds_toArray,List.set_cons_zero,List.set_cons_succ]
     refine tkN 8 (some 26) trivial ?_
     try simp only [Act.put,List.setIfInBounds_toArray,List.set_cons_zero,List.set_cons_succ]
     refine tkN 9 (some 27) trivial ?_
     try simp only [Act.put,List.setIfInBounds_toArray,List.set_cons_zero,List.set_cons_succ]
     refine tkN 10 (some 28) trivial ?_
     try simp only [Act.put,List.setIfInBounds_toArray,List.set_cons_zero,List.set_cons_succ]
     refine tkN 11 (some 29) trivial ?_
     try simp only [Act.put,List.setIfInBounds_toArray,List.set_cons_zero,List.set_cons_succ]
     refine tkN 12 (some 30) trivial ?_
     try simp only [Act.put,List.setIfInBounds_toArray,List.set_cons_zero,List.set_cons_succ]
     refine tkN 13 (some 31) trivial ?_
     try simp only [Act.put,List.setIfInBounds_toArray,List.set_cons_zero,List.set_cons_succ]
     refine tkN 14 (some 32) trivial ?_
     try simp only [Act.put,List.setIfInBounds_toArray,List.set_cons_zero,List.set_cons_succ]
     refine tkN 15 (some 33) trivial ?_
     try simp only [Act.put,List.setIfInBounds_toArray,List.set_cons_zero,List.set_cons_succ]
     refine tkH 16 (some 34) (v:=?_) trivial ?_ ?_
     rotate_left
     ·(intro wS hSw;go_simp;try with_reducible rfl)
     try simp only [Act.put,List.setIfInBounds_toArray,List.set_cons_zero,List.set_cons_succ]
     refine wpAnyH_done (by kernel_rfl) ?_ _
     clear hHeld
     go_wp2
     go_roundw
     case rel => exact ⟨i + 1,l2,by omega,by omega,by go_num,HLJ,by (show _ = _);rw [← HE2.out,HX.out],HRd,HGd⟩
     case measure => simp [intOf];omega
    ·obtain ⟨q,HQ⟩ : ∃ q,Hid (J = q + 1):=⟨J - 1,by (show _ = _);omega⟩
     have hqv:=HQ.out
     obtain ⟨x,hx⟩ : ∃ x,x = l2.getD J zSg:=⟨_,rfl⟩
     obtain ⟨y,hy⟩ : ∃ y,y = l2.getD q zSg:=⟨_,rfl⟩
     have HXE : Hid (x = l2.getD J zSg ∧ y = l2.getD q zSg):=⟨hx,hy⟩
     have hJl : J < l2.length:=by rw [HLJ.out];omega
     have hql : q < l2.length:=by rw [HLJ.out];omega
     have HFA : Hid (∀ W,Below w3.heap.size w3 W → W.cell? ⟨kb,J * 4,none⟩ = some (.int .i64 (x.at_ : Int)) ∧ W.cell? ⟨kb,J * 4 + 1,none⟩ = some (.int .i64 (x.num : Int)) ∧ W.cell? ⟨kb,J * 4 + 2,none⟩ = some (.int .i64 (x.high : Int)) ∧ W.cell? ⟨kb,J * 4 + 3,none⟩ = some (.int .i64 (x.en : Int)) ∧ W.cell? ⟨kb,q * 4,none⟩ = some (.int .i64 (y.at_ : Int)) ∧ W.cell? ⟨kb,q * 4 + 1,none⟩ = some (.int .i64 (y.num : Int)) ∧ W.cell? ⟨kb,q * 4 + 2,none⟩ = some (.int .i64 (y.high : Int)) ∧ W.cell? ⟨kb,q * 4 + 3,none⟩ = some (.int .i64 (y.en : Int))):=fun W hW => by
      have hs:=HRj.out.below hW
      obtain ⟨a1,a2,a3,a4⟩:=hs.facts hJl hx
      obtain ⟨b1,b2,b3,b4⟩:=hs.facts hql hy
      exact ⟨a1,a2,a3,a4,b1,b2,b3,b4⟩
     obtain ⟨ev,hev⟩ : ∃ ev,ev = cmpG (x.num : Int) (y.num : Int):=⟨_,rfl⟩
     have HCM : Hid (∀ W,Calls Tryz.prog 104 #[.agg #[.int .i64 (x.at_ : Int),.int .i64 (x.num : Int),.int .i64 (x.high : Int),.int .i64 (x.en : Int)],.agg #[.int .i64 (y.at_ : Int),.int .i64 (y.num : Int),.int .i64 (y.high : Int),.int .i64 (y.en : Int)]] W fun e w' => e = .returned (.int .i64 ev) ∧ Below W.heap.size W w'):=fun W => by rw [hev];exact sg_cmp W x y
     have ha' : (0 : Int) < (J : Int):=by omega
     have hd0 : decide (0 < J) = true:=decide_eq_true (by omega)
     have hJ0 : (0 : Int) ≤ (J : Int):=by omega
     have hJn : (J : Int) < (n : Int):=by omega
     have hq0 : (0 : Int) ≤ (q : Int):=by omega
     have hqn : (q : Int) < (n : Int):=by omega
     have q3 : IntKind.i64.wrap ((J : Int) - 1) = (q : Int):=by rw [IntKind.wrap_i64];omega
     have HIN : Hid (insG i l1 = if ev < 0 then insG q (swapG l2 q) else l2):=by
      (show _ = _)
      rw [← HF.out,HQ.out,insG]
      have e1 : l2.getD (q + 1) zSg = x:=by rw [hx,HQ.out]
      have e2 : l2.getD q zSg = y:=hy.symm
      rw [e1,e2]
      have e3 : (x.num < y.num) ↔ ev < 0:=by
       rw [hev]
       unfold cmpG
       split
       ·constructor
        ·intro;omega
        ·intro;omega
       ·split
        ·constructor <;> intro <;> omega
        ·constructor <;> intro <;> omega
      by_cases h : ev < 0
      ·rw [if_pos h,if_pos (e3.2 h)]
      ·rw [if_neg h,if_neg (fun k => h (e3.1 k))]
     have HJQ : Hid (J = q + 1 ∧ J ≤ i ∧ J < l2.length ∧ q < l2.length):=⟨hqv,hj2,hJl,hql⟩
     clear hev hx hy hqv hja hj2 hJl hql
     go_upto_region 4 with fail
     refine wp_region_held_drew (S:=fun w' => w'.cell? ⟨kb,J * 4,none⟩ = some (.int .i64 (x.at_ : Int)) ∧ w'.cell? ⟨kb,J * 4 + 1,none⟩ = some (.int .i64 (x.num : Int)) ∧ w'.cell? ⟨kb,J * 4 + 2,none⟩ = some (.int .i64 (x.high : Int)) ∧ w'.cell? ⟨kb,J * 4 + 3,none⟩ = some (.int .i64 (x.en : Int)) ∧ w'.cell? ⟨kb,q * 4,none⟩ = some (.int .i64 (y.at_ : Int)) ∧ w'.cell? ⟨kb,q * 4 + 1,none⟩ = some (.int .i64 (y.num : Int)) ∧ w'.cell? ⟨kb,q * 4 + 2,none⟩ = some (.int .i64 (y.high : Int)) ∧ w'.cell? ⟨kb,q * 4 + 3,none⟩ = some (.int .i64 (y.en : Int))) (by kernel_rfl) (HFA.out _ (Below.refl _ _).drew) (fun hHeld => ?_)
     obtain ⟨wd,HWD⟩ : ∃ W,Hid (W = w3.drew):=⟨_,rfl⟩
     rw [← HWD.out] at hHeld ⊢
     have HBD : Hid (Below w3.heap.size w3 wd):=by (show Below _ _ _);rw [HWD.out];exact (Below.refl _ _).drew
     have HCD:=HCM.out wd
     refine tkH 0 (some 18) (v:=?_) hHeld ?_ ?_
     rotate_left
     ·(intro wS hSw;obtain ⟨z0,z1,z2,z3,z4,z5,z6,z7⟩:=hSw;go_simp;try with_reducible rfl)
     try simp only [Act.put,List.setIfInBounds_toArray,List.set_cons_zero,List.set_cons_succ]
     refine tkH 1 (some 19) (v:=?_) hHeld ?_ ?_
     rotate_left
     ·(intro wS hSw;obtain ⟨z0,z1,z2,z3,z4,z5,z6,z7⟩:=hSw;go_simp;try with_reducible rfl)
     try simp only [Act.put,List.setIfInBounds_toArray,List.set_cons_zero,List.set_cons_succ]
     refine tkH 2 (some 20) (v:=?_) hHeld ?_ ?_
     rotate_left
     ·(intro wS hSw;obtain ⟨z0,z1,z2,z3,z4,z5,z6,z7⟩:=hSw;go_simp;try with_reducible rfl)
     try simp only [Act.put,List.setIfInBounds_toArray,List.set_cons_zero,List.set_cons_succ]
     refine tkH 3 (some 21) (v:=?_) hHeld ?_ ?_
     rotate_left
     ·(intro wS hSw;obtain ⟨z0,z1,z2,z3,z4,z5,z6,z7⟩:=hSw;go_simp;try with_reducible rfl)
     try simp only [Act.put,List.setIfInBounds_toArray,List.set_cons_zero,List.set_cons_succ]
     refine tkH 4 (some 22) (v:=?_) hHeld ?_ ?_
     rotate_left
     ·(intro wS hSw;obtain ⟨z0,z1,z2,z3,z4,z5,z6,z7⟩:=hSw;go_simp;try with_reducible rfl)
     try simp only [Act.put,List.setIfInBounds_toArray,List.set_cons_zero,List.set_cons_succ]
     refine tkH 5 (some 23) (v:=?_) hHeld ?_ ?_
     rotate_left
     ·(intro wS hSw;obtain ⟨z0,z1,z2,z3,z4,z5,z6,z7⟩:=hSw;go_simp;try with_reducible rfl)
     try simp only [Act.put,List.setIfInBounds_toArray,List.set_cons_zero,List.set_cons_succ]
     refine tkH 6 (some 24) (v:=?_) hHeld ?_ ?_
     rotate_left
     ·(intro wS hSw;obtain ⟨z0,z1,z2,z3,z4,z5,z6,z7⟩:=hSw;go_simp;try with_reducible rfl)
     try simp only [Act.put,List.setIfInBounds_toArray,List.set_cons_zero,List.set_cons_succ]
     refine tkH 7 (some 25) (v:=?_) hHeld ?_ ?_
     rotate_left
     ·(intro wS hSw;obtain ⟨z0,z1,z2,z3,z4,z5,z6,z7⟩:=hSw;go_simp;try with_reducible rfl)
     try simp only [Act.put,List.setIfInBounds_toArray,List.set_cons_zero,List.set_cons_succ]
     refine tkH 8 (some 26) (v:=?_) hHeld ?_ ?_
     rotate_left
     ·(intro wS hSw;obtain ⟨z0,z1,z2,z3,z4,z5,z6,z7⟩:=hSw;go_simp;try with_reducible rfl)
     try simp only [Act.put,List.setIfInBounds_toArray,List.set_cons_zero,List.set_cons_succ]
     refine tkH 9 (some 27) (v:=?_) hHeld ?_ ?_
     rotate_left
     ·(intro wS hSw;obtain ⟨z0,z1,z2,z3,z4,z5,z6,z7⟩:=hSw;go_simp;try with_reducible rfl)
     try simp only [Act.put,List.setIfInBounds_toArray,List.set_cons_zero,List.set_cons_succ]
     refine tkH 10 (some 28) (v:=?_) hHeld ?_ ?_
     rotate_left
     ·(intro wS hSw;obtain ⟨z0,z1,z2,z3,z4,z5,z6,z7⟩:=hSw;go_simp;try with_reducible rfl)
     try simp only [Act.put,List.setIfInBounds_toArray,List.set_cons_zero,List.set_cons_succ]
     refine tkH 11 (some 29) (v:=?_) hHeld ?_ ?_
     rotate_left
     ·(intro wS hSw;obtain ⟨z0,z1,z2,z3,z4,z5,z6,z7⟩:=hSw;go_simp;try with_reducible rfl)
     try simp only [Act.put,List.setIfInBounds_toArray,List.set_cons_zero,List.set_cons_succ]
     refine tkH 12 (some 30) (v:=?_) hHeld ?_ ?_
     rotate_left
     ·(intro wS hSw;obtain ⟨z0,z1,z2,z3,z4,z5,z6,z7⟩:=hSw;go_simp;try with_reducible rfl)
     try simp only [Act.put,List.setIfInBounds_toArray,List.set_cons_zero,List.set_cons_succ]
     refine tkH 13 (some 31) (v:=?_) hHeld ?_ ?_
     rotate_left
     ·(intro wS hSw;obtain ⟨z0,z1,z2,z3,z4,z5,z6,z7⟩:=hSw;go_simp;try with_reducible rfl)
     try simp only [Act.put,List.setIfInBounds_toArray,List.set_cons_zero,List.set_cons_succ]
     refine wpAnyH_ready (rs:=[14]) (by kernel_rfl) (by simp) ?_
     refine AllReadyH.cons rfl (fun K hK => ?_) AllReadyH.nil
     go_simp
     refine HCD.mono ?_
     rintro e w4 ⟨rfl,hb4⟩
     have HB4 : Hid (Below w3.heap.size w3 w4):=HBD.out.trans (hb4.mono HBD.out.size)
     have hH4:=HFA.out _ HB4.out
     have HR4 : Hid (Sgs w4 base (.slice (some ⟨kb,0,none⟩) n c) l2):=HRj.out.below HB4.out
     have HG4 : Hid (Below base w w4):=HGj.out.trans (HB4.out.mono (Nat.le_trans HBW.out HGj.out.size))
     clear hb4 hHeld HCD
     refine hK.out _ _ hH4 (fun _ => ?_)
     clear hK K
     try simp only [Act.put,List.getElem_toArray,List.getElem_cons_succ,List.getElem_cons_zero,List.setIfInBounds_toArray,List.set_cons_zero,List.set_cons_succ]
     refine tkH 15 (some 33) (v:=?_) hH4 ?_ ?_
     rotate_left
     ·(intro wS hSw;obtain ⟨z0,z1,z2,z3,z4,z5,z6,z7⟩:=hSw;go_simp;try with_reducible rfl)
     try simp only [Act.put,List.setIfInBounds_toArray,List.set_cons_zero,List.set_cons_succ]
     refine tkH 16 (some 34) (v:=?_) hH4 ?_ ?_
     rotate_left
     ·(intro wS hSw;obtain ⟨z0,z1,z2,z3,z4,z5,z6,z7⟩:=hSw;go_simp;try with_reducible rfl)
     try simp only [Act.put,List.setIfInBounds_toArray,List.set_cons_zero,List.set_cons_succ]
     refine wpAnyH_done (by kernel_rfl) ?_ _
     clear hH4 HRj HGj HFA HF HBD HB4 HWD
     by_cases hlt : ev < 0
     ·have hd : decide (ev < 0) = true:=decide_eq_true hlt
      have HIN : Hid (insG i l1 = insG q (swapG l2 q)):=by (show _ = _);rw [HIN.out,if_pos hlt]
      go_upto_region 6 with fail
      refine wp_region_any (by kernel_rfl) ?_
      change wpAny _ _ _ _ _ _ _ (World.drew _)
      obtain ⟨wd,HWD⟩ : ∃ W,Hid (W = w4.drew):=⟨_,rfl⟩
      rw [← HWD.out]
      have HBD : Hid (Below w4.heap.size w4 wd):=by (show Below _ _ _);rw [HWD.out];exact (Below.refl _ _).drew
      have HRd : Hid (Sgs wd base (.slice (some ⟨kb,0,none⟩) n c) l2):=HR4.out.below HBD.out
      have HGd : Hid (Below base w wd):=HG4.out.trans (HBD.out.mono (Nat.le_trans HBW.out HG4.out.size))
      have HX : Hid (wd.cell? ⟨kb,J * 4,none⟩ = some (.int .i64 (x.at_ : Int)) ∧ wd.cell? ⟨kb,J * 4 + 1,none⟩ = some (.int .i64 (x.num : Int)) ∧ wd.cell? ⟨kb,J * 4 + 2,none⟩ = some (.int .i64 (x.high : Int)) ∧ wd.cell? ⟨kb,J * 4 + 3,none⟩ = some (.int .i64 (x.en : Int))):=HRd.out.facts HJQ.out.2.2.1 HXE.out.1
      have HY : Hid (wd.cell? ⟨kb,q * 4,none⟩ = some (.int .i64 (y.at_ : Int)) ∧ wd.cell? ⟨kb,q * 4 + 1,none⟩ = some (.int .i64 (y.num : Int)) ∧ wd.cell? ⟨kb,q * 4 + 2,none⟩ = some (.int .i64 (y.high : Int)) ∧ wd.cell? ⟨kb,q * 4 + 3,none⟩ = some (.int .i64 (y.en : Int))):=HRd.out.facts HJQ.out.2.2.2 HXE.out.2
      have HFX : Hid (wd.frozen? ⟨kb,J * 4,none⟩ = false ∧ wd.frozen? ⟨kb,J * 4 + 1,none⟩ = false ∧ wd.frozen? ⟨kb,J * 4 + 2,none⟩ = false ∧ wd.frozen? ⟨kb,J * 4 + 3,none⟩ = false):=HRd.out.frz J
      obtain ⟨ws,HWS⟩ : ∃ W,Hid (W = set4 wd kb (J * 4) y):=⟨_,rfl⟩
      have HRs : Hid (Sgs ws base (.slice (some ⟨kb,0,none⟩) n c) (l2.set J y)):=by (show Sgs _ _ _ _);rw [HWS.out];exact HRd.out.set HJQ.out.2.2.1 y
      have HGs : Hid (Below base w ws):=by (show Below _ _ _);rw [HWS.out];exact below_set4 HGd.out HBK.out y
      have HYs : Hid (ws.cell? ⟨kb,q * 4,none⟩ = some (.int .i64 (y.at_ : Int)) ∧ ws.cell? ⟨kb,q * 4 + 1,none⟩ = some (.int .i64 (y.num : Int)) ∧ ws.cell? ⟨kb,q * 4 + 2,none⟩ = some (.int .i64 (y.high : Int)) ∧ ws.cell? ⟨kb,q * 4 + 3,none⟩ = some (.int .i64 (y.en : Int))):=HRs.out.facts (by rw [List.length_set];exact HJQ.out.2.2.2) (by rw [set_getD y (by have:=HJQ.out.1;omega)];exact HXE.out.2)
      have HFS : Hid (ws.frozen? ⟨kb,q * 4,none⟩ = false ∧ ws.frozen? ⟨kb,q * 4 + 1,none⟩ = false ∧ ws.frozen? ⟨kb,q * 4 + 2,none⟩ = false ∧ ws.frozen? ⟨kb,q * 4 + 3,none⟩ = false):=HRs.out.frz q
      obtain ⟨we,HWE⟩ : ∃ W,Hid (W = set4 ws kb (q * 4) x):=⟨_,rfl⟩
      have HRe : Hid (Sgs we base (.slice (some ⟨kb,0,none⟩) n c) (swapG l2 q)):=by
       (show Sgs _ _ _ _)
       rw [HWE.out]
       have:=HRs.out.set (j:=q) (by rw [List.length_set];exact HJQ.out.2.2.2) x
       unfold swapG
       rw [← HJQ.out.1,← HXE.out.1,← HXE.out.2]
       exact this
      have HGe : Hid (Below base w we):=by (show Below _ _ _);rw [HWE.out];exact below_set4 HGs.out HBK.out x
      have HLS : Hid ((swapG l2 q).length = n):=by (show _ = _);rw [swapG_len];exact HLJ.out
      unfold set4 at HWS HWE
      refine take_put (i:=0) (v:=?_) (some 37) rfl (by kernel_rfl) (by kernel_rfl) (by kernel_rfl) (by kernel_rfl) (fun _ _ _ h => h) (Or.inl ⟨by rfl,?_⟩) ?_
      rotate_left
      ·(intro w;go_simp;try with_reducible rfl)
      try simp only [Act.put,List.setIfInBounds_toArray,List.set_cons_zero,List.set_cons_succ]
      refine take_put (i:=1) (v:=?_) (some 38) rfl (by kernel_rfl) (by kernel_rfl) (by kernel_rfl) (by kernel_rfl) (fun _ _ _ h => h) (Or.inl ⟨by rfl,?_⟩) ?_
      rotate_left
      ·(intro w;go_simp;try with_reducible rfl)
      try simp only [Act.put,List.setIfInBounds_toArray,List.set_cons_zero,List.set_cons_succ]
      refine take_put (i:=2) (v:=?_) (some 39) rfl (by kernel_rfl) (by kernel_rfl) (by kernel_rfl) (by kernel_rfl) (fun _ _ _ h => h) (Or.inl ⟨by rfl,?_⟩) ?_
      rotate_left
      ·(intro w;go_simp;try with_reducible rfl)
      try simp only [Act.put,List.setIfInBounds_toArray,List.set_cons_zero,List.set_cons_succ]
      refine take_put (i:=3) (v:=?_) (some 40) rfl (by kernel_rfl) (by kernel_rfl) (by kernel_rfl) (by kernel_rfl) (fun _ _ _ h => h) (Or.inl ⟨by rfl,?_⟩) ?_
      rotate_left
      ·(intro w;go_simp;try with_reducible rfl)
      try simp only [Act.put,List.setIfInBounds_toArray,List.set_cons_zero,List.set_cons_succ]
      refine take_put (i:=4) (v:=?_) (some 41) rfl (by kernel_rfl) (by kernel_rfl) (by kernel_rfl) (by kernel_rfl) (fun _ _ _ h => h) (Or.inl ⟨by rfl,?_⟩) ?_
      rotate_left
      ·(intro w;go_simp;try with_reducible rfl)
      try simp only [Act.put,List.setIfInBounds_toArray,List.set_cons_zero,List.set_cons_succ]
      refine take_put (i:=5) (v:=?_) (some 42) rfl (by kernel_rfl) (by kernel_rfl) (by kernel_rfl) (by kernel_rfl) (fun _ _ _ h => h) (Or.inl ⟨by rfl,?_⟩) ?_
      rotate_left
      ·(intro w;go_simp;try with_reducible rfl)
      try simp only [Act.put,List.setIfInBounds_toArray,List.set_cons_zero,List.set_cons_succ]
      refine take_put (i:=6) (v:=?_) (some 43) rfl (by kernel_rfl) (by kernel_rfl) (by kernel_rfl) (by kernel_rfl) (fun _ _ _ h => h) (Or.inl ⟨by rfl,?_⟩) ?_
      rotate_left
      ·(intro w;go_simp;try with_reducible rfl)
      try simp only [Act.put,List.setIfInBounds_toArray,List.set_cons_zero,List.set_cons_succ]
      refine take_put (i:=7) (v:=?_) (some 44) rfl (by kernel_rfl) (by kernel_rfl) (by kernel_rfl) (by kernel_rfl) (fun _ _ _ h => h) (Or.inl ⟨by rfl,?_⟩) ?_
      rotate_left
      ·(intro w;go_simp;try with_reducible rfl)
      try simp only [Act.put,List.setIfInBounds_toArray,List.set_cons_zero,List.set_cons_succ]
      refine take_put (i:=8) (v:=?_) (some 45) rfl (by kernel_rfl) (by kernel_rfl) (by kernel_rfl) (by kernel_rfl) (fun _ _ _ h => h) (Or.inl ⟨by rfl,?_⟩) ?_
      rotate_left
      ·(intro w;go_simp;try with_reducible rfl)
      try simp only [Act.put,List.setIfInBounds_toArray,List.set_cons_zero,List.set_cons_succ]
      refine take_put (i:=10) (v:=?_) (some 47) rfl (by kernel_rfl) (by kernel_rfl) (by kernel_rfl) (by kernel_rfl) (fun _ _ _ h => h) (Or.inl ⟨by rfl,?_⟩) ?_
      rotate_left
      ·(intro w;go_simp;try with_reducible rfl)
      try simp only [Act.put,List.setIfInBounds_toArray,List.set_cons_zero,List.set_cons_succ]
      refine take_put (i:=11) (v:=?_) (some 48) rfl (by kernel_rfl) (by kernel_rfl) (by kernel_rfl) (by kernel_rfl) (fun _ _ _ h => h) (Or.inl ⟨by rfl,?_⟩) ?_
      rotate_left
      ·(intro w;go_simp;try with_reducible rfl)
      try simp only [Act.put,List.setIfInBounds_toArray,List.set_cons_zero,List.set_cons_succ]
      refine take_put (i:=12) (v:=?_) (some 49) rfl (by kernel_rfl) (by kernel_rfl) (by kernel_rfl) (by kernel_rfl) (fun _ _ _ h => h) (Or.inl ⟨by rfl,?_⟩) ?_
      rotate_left
      ·(intro w;go_simp;try with_reducible rfl)
      try simp only [Act.put,List.setIfInBounds_toArray,List.set_cons_zero,List.set_cons_succ]
      refine wpAny_ready (rs:=[9,13]) (by kernel_rfl) (by simp) ?_
      refine AllReady.cons rfl (fun K hK => ?_) (AllReady.cons rfl (fun K hK => ?_) AllReady.nil)
      ·obtain ⟨m0,m1,m2,m3⟩:=HY.out
       go_simp
       clear m0 m1 m2 m3
       refine hK _ _ ?_
       clear hK K
       try simp only [Act.put,List.getElem_toArray,List.getElem_cons_succ,List.getElem_cons_zero,List.setIfInBounds_toArray,List.set_cons_zero,List.set_cons_succ]
       refine wpAny_ready (rs:=[13]) (by kernel_rfl) (by simp) ?_
       refine AllReady.cons rfl (fun K hK => ?_) AllReady.nil
       obtain ⟨m0,m1,m2,m3⟩:=HX.out
       go_simp
       clear m0 m1 m2 m3
       refine hK _ _ ?_
       clear hK K
       try simp only [Act.put,List.getElem_toArray,List.getElem_cons_succ,List.getElem_cons_zero,List.setIfInBounds_toArray,List.set_cons_zero,List.set_cons_succ]
       refine take_put (i:=14) (v:=?_) (some 51) rfl (by kernel_rfl) (by kernel_rfl) (by kernel_rfl) (by kernel_rfl) (fun _ _ _ h => h) (Or.inl ⟨by rfl,?_⟩) ?_
       rotate_left
       ·(intro w;go_simp;try with_reducible rfl)
       try simp only [Act.put,List.setIfInBounds_toArray,List.set_cons_zero,List.set_cons_succ]
       refine wpAny_ready (rs:=[15]) (by kernel_rfl) (by simp) ?_
       refine AllReady.cons rfl (fun K hK => ?_) AllReady.nil
       obtain ⟨m0,m1,m2,m3⟩:=HX.out
       obtain ⟨f0,f1,f2,f3⟩:=HFX.out
       go_simp
       clear m0 m1 m2 m3 f0 f1 f2 f3
       rw [← HWS.out]
       refine hK _ _ ?_
       clear hK K
       try simp only [Act.put,List.getElem_toArray,List.getElem_cons_succ,List.getElem_cons_zero,List.setIfInBounds_toArray,List.set_cons_zero,List.set_cons_succ]
       refine take_put (i:=16) (v:=?_) (some 52) rfl (by kernel_rfl) (by kernel_rfl) (by kernel_rfl) (by kernel_rfl) (fun _ _ _ h => h) (Or.inl ⟨by rfl,?_⟩) ?_
       rotate_left
       ·(intro w;go_simp;try with_reducible rfl)
       try simp only [Act.put,List.setIfInBounds_toArray,List.set_cons_zero,List.set_cons_succ]
       refine wpAny_ready (rs:=[17]) (by kernel_rfl) (by simp) ?_
       refine AllReady.cons rfl (fun K hK => ?_) AllReady.nil
       obtain ⟨m0,m1,m2,m3⟩:=HYs.out
       obtain ⟨f0,f1,f2,f3⟩:=HFS.out
       go_simp
       clear m0 m1 m2 m3 f0 f1 f2 f3
       rw [← HWE.out]
       refine hK _ _ ?_
       clear hK K
       try simp only [Act.put,List.getElem_toArray,List.getElem_cons_succ,List.getElem_cons_zero,List.setIfInBounds_toArray,List.set_cons_zero,List.set_cons_succ]
       refine wpAny_done (by kernel_rfl) ?_ _
       clear HX HY HFX HYs HFS
       go_wp2
       go_roundw
       case rel => exact ⟨q,swapG l2 q,by have:=HJQ.out;omega,rfl,HLS,(by (show _ = _);exact HIN.out.symm),HRe,HGe⟩
       case measure => have:=HJQ.out;simp [intOf];omega
      ·obtain ⟨m0,m1,m2,m3⟩:=HX.out
       go_simp
       clear m0 m1 m2 m3
       refine hK _ _ ?_
       clear hK K
       try simp only [Act.put,List.getElem_toArray,List.getElem_cons_succ,List.getElem_cons_zero,List.setIfInBounds_toArray,List.set_cons_zero,List.set_cons_succ]
       refine wpAny_ready (rs:=[9]) (by kernel_rfl) (by simp) ?_
       refine AllReady.cons rfl (fun K hK => ?_) AllReady.nil
       obtain ⟨m0,m1,m2,m3⟩:=HY.out
       go_simp
       clear m0 m1 m2 m3
       refine hK _ _ ?_
       clear hK K
       try simp only [Act.put,List.getElem_toArray,List.getElem_cons_succ,List.getElem_cons_zero,List.setIfInBounds_toArray,List.set_cons_zero,List.set_cons_succ]
       refine take_put (i:=14) (v:=?_) (some 51) rfl (by kernel_rfl) (by kernel_rfl) (by kernel_rfl) (by kernel_rfl) (fun _ _ _ h => h) (Or.inl ⟨by rfl,?_⟩) ?_
       rotate_left
       ·(intro w;go_simp;try with_reducible rfl)
       try simp only [Act.put,List.setIfInBounds_toArray,List.set_cons_zero,List.set_cons_succ]
       refine wpAny_ready (rs:=[15]) (by kernel_rfl) (by simp) ?_
       refine AllReady.cons rfl (fun K hK => ?_) AllReady.nil
       obtain ⟨m0,m1,m2,m3⟩:=HX.out
       obtain ⟨f0,f1,f2,f3⟩:=HFX.out
       go_simp
       clear m0 m1 m2 m3 f0 f1 f2 f3
       rw [← HWS.out]
       refine hK _ _ ?_
       clear hK K
       try simp only [Act.put,List.getElem_toArray,List.getElem_cons_succ,List.getElem_cons_zero,List.setIfInBounds_toArray,List.set_cons_zero,List.set_cons_succ]
       refine take_put (i:=16) (v:=?_) (some 52) rfl (by kernel_rfl) (by kernel_rfl) (by kernel_rfl) (by kernel_rfl) (fun _ _ _ h => h) (Or.inl ⟨by rfl,?_⟩) ?_
       rotate_left
       ·(intro w;go_simp;try with_reducible rfl)
       try simp only [Act.put,List.setIfInBounds_toArray,List.set_cons_zero,List.set_cons_succ]
       refine wpAny_ready (rs:=[17]) (by kernel_rfl) (by simp) ?_
       refine AllReady.cons rfl (fun K hK => ?_) AllReady.nil
       obtain ⟨m0,m1,m2,m3⟩:=HYs.out
       obtain ⟨f0,f1,f2,f3⟩:=HFS.out
       go_simp
       clear m0 m1 m2 m3 f0 f1 f2 f3
       rw [← HWE.out]
       refine hK _ _ ?_
       clear hK K
       try simp only [Act.put,List.getElem_toArray,List.getElem_cons_succ,List.getElem_cons_zero,List.setIfInBounds_toArray,List.set_cons_zero,List.set_cons_succ]
       refine wpAny_done (by kernel_rfl) ?_ _
       clear HX HY HFX HYs HFS
       go_wp2
       go_roundw
       case rel => exact ⟨q,swapG l2 q,by have:=HJQ.out;omega,rfl,HLS,(by (show _ = _);exact HIN.out.symm),HRe,HGe⟩
       case measure => have:=HJQ.out;simp [intOf];omega
     ·have hd : decide (ev < 0) = false:=decide_eq_false hlt
      have HX : Hid (insG i l1 = l2):=by (show _ = _);rw [HIN.out,if_neg hlt]
      go_wp2
      go_roundw
      case rel => exact ⟨i + 1,l2,by omega,by omega,by go_num,HLJ,by (show _ = _);rw [← HE2.out,HX.out],HR4,HG4⟩
      case measure => simp [intOf];omega
  ·have hib' : ¬ (i : Int) < (n : Int):=by omega
   have HX : Hid (l1 = R):=by
    show _ = _
    rw [← HE.out,show n - i = 0 from by omega]
    rfl
   go_wp2
   go_returns
   exact ⟨rfl,by rw [← HX.out];exact HRW.out,HG.out⟩
end Go.Proofs.YtghajmcohdedlaaGreat
