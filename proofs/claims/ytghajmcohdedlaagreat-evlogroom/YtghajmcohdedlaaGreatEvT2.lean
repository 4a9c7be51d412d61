import Derived.Test.YtghajmcohdedlaaGreatPk31
namespace Go.Proofs.YtghajmcohdedlaaGreat
open Go.RowKit
set_option maxRecDepth 100000
def GoodTold (w : World) (e : Ending) (s : List Nat) : Prop:=∃ (a : Option Addr) (n c : Nat),e = .returned (.tuple #[.int .i64 ((if goodE s = true then s.getD 1 0 else 0 : Nat) : Int),.slice a n c,.bool (goodE s && lastE s)]) ∧ Rd w a n (if goodE s = true then payE s else []) ∧ n ≤ 59 ∧ (a = none → c = 0) ∧ n ≤ c
set_option maxHeartbeats 16000000 in
theorem ref_Good (w : World) (a : Option Addr) (n c : Nat) (s : List Nat) (hr : Rd w a n s) (hc : n = 64 → 64 ≤ c) :
  Calls Tryz.prog 111 #[.slice a n c] w fun e w' => Hid (GoodTold w' e s) ∧ Below w.heap.size w w':=by
 have HRD : Hid (Rd w a n s):=hr
 have HSZ : Hid (s.length = n):=hr.size
 have HBAD : Hid (goodE s = false → ∀ w',GoodTold w' (.returned (.tuple #[.int .i64 0,.slice none 0 0,.bool false])) s):=fun h w' => ⟨none,0,0,by rw [h];rfl,by rw [h];exact ⟨rfl,by simp,.inl rfl⟩,by omega,fun _ => rfl,Nat.le_refl _⟩
 by_cases h64 : n = 64
 case neg =>
  have h1 : ((n : Int) != 64) = true:=by rw [bne_iff_ne];omega
  have HX:=HBAD.out (by unfold goodE;exact decide_eq_false (fun h => h64 (by rw [← HSZ.out];exact h.1)))
  clear hr hc
  go_enter Tryz.func111,Tryz.ntmps111
  go_wp2
  go_returns
  exact ⟨HX _,Below.refl _ _⟩
 subst h64
 have hc64 : 64 ≤ c:=hc rfl
 obtain ⟨g,off,rfl⟩ : ∃ g off,a = some ⟨g,off,none⟩:=by
  rcases hr.cells with h0 | ⟨g,o,e,_⟩
  ·omega
  ·exact ⟨g,o,e⟩
 obtain ⟨x1,HX1⟩ : ∃ x,Hid (s.getD 1 0 = x):=⟨_,rfl⟩
 obtain ⟨x2,HX2⟩ : ∃ x,Hid (s.getD 2 0 = x):=⟨_,rfl⟩
 obtain ⟨x3,HX3⟩ : ∃ x,Hid (s.getD 3 0 = x):=⟨_,rfl⟩
 have hx : ∀ i,i < 64 → s.getD i 0 < 256:=fun i hi => by
  rw [List.getD_eq_getElem?_getD,List.getElem?_eq_getElem (by rw [HSZ.out];exact hi)]
  exact hr.byte _ (List.getElem_mem _)
 have HXB : Hid (x1 < 256 ∧ x2 < 256 ∧ x3 < 256):=⟨by rw [← HX1.out];exact hx 1 (by omega),by rw [← HX2.out];exact hx 2 (by omega),by rw [← HX3.out];exact hx 3 (by omega)⟩
 have c1 : w.cell? ⟨g,off + 1,none⟩ = some (.int .u8 (x1 : Int)):=by rw [← HX1.out];exact hr.at_ (i:=1) (by omega)
 have c2 : w.cell? ⟨g,off + 2,none⟩ = some (.int .u8 (x2 : Int)):=by rw [← HX2.out];exact hr.at_ (i:=2) (by omega)
 have c3 : w.cell? ⟨g,off + 3,none⟩ = some (.int .u8 (x3 : Int)):=by rw [← HX3.out];exact hr.at_ (i:=3) (by omega)
 obtain ⟨lst,HLS⟩ : ∃ lst,Hid (lastE s = lst):=⟨_,rfl⟩
 have e3 : ((x3 : Int) == 1) = lst:=by
  rw [← HLS.out]
  unfold lastE
  rw [HX3.out]
  by_cases h : x3 = 1
  ·rw [decide_eq_true h,h];rfl
  ·rw [decide_eq_false h,beq_eq_false_iff_ne];omega
 clear hr hc hx
 by_cases hbad : x1 < 1 ∨ 3 < x1 ∨ 59 < x2
 ·have HX:=HBAD.out (by
   unfold goodE
   refine decide_eq_false (fun h => ?_)
   have h2:=h.2.1
   have h3:=h.2.2.1
   rw [HX1.out] at h3
   rw [HX2.out] at h2
   omega)
  by_cases b1 : x1 < 1
  ·have d1 : decide ((x1 : Int) < 1) = true:=decide_eq_true (by omega)
   obtain rfl : x1 = 0:=by omega
   go_enter Tryz.func111,Tryz.ntmps111
   go_wp2
   go_returns
   exact ⟨HX _,Below.refl _ _⟩
  ·have d1 : decide ((x1 : Int) < 1) = false:=decide_eq_false (by omega)
   have d1n : decide (x1 = 0) = false:=decide_eq_false (by omega)
   have d1m : ¬ x1 = 0:=by omega
   by_cases b2 : 3 < x1
   ·have d2 : decide ((3 : Int) < (x1 : Int)) = true:=decide_eq_true (by omega)
    have d2n : decide (3 < x1) = true:=decide_eq_true b2
    go_enter Tryz.func111,Tryz.ntmps111
    go_wp2
    go_returns
    exact ⟨HX _,Below.refl _ _⟩
   ·have b3 : 59 < x2:=by omega
    have d2 : decide ((3 : Int) < (x1 : Int)) = false:=decide_eq_false (by omega)
    have d2n : decide (3 < x1) = false:=decide_eq_false b2
    have d3 : decide ((59 : Int) < (x2 : Int)) = true:=decide_eq_true (by omega)
    have d3n : decide (59 < x2) = true:=decide_eq_true b3
    go_enter Tryz.func111,Tryz.ntmps111
    go_wp2
    go_returns
    exact ⟨HX _,Below.refl _ _⟩
 have HB3 : Hid (1 ≤ x1 ∧ x1 ≤ 3 ∧ x2 ≤ 59):=by (show _ ∧ _);omega
 have d1 : decide ((x1 : Int) < 1) = false:=decide_eq_false (by omega)
 have d1n : decide (x1 = 0) = false:=decide_eq_false (by omega)
 have d1m : ¬ x1 = 0:=by omega
 have d2 : decide ((3 : Int) < (x1 : Int)) = false:=decide_eq_false (by omega)
 have d2n : decide (3 < x1) = false:=decide_eq_false (by omega)
 have d3 : decide ((59 : Int) < (x2 : Int)) = false:=decide_eq_false (by omega)
 have d3n : decide (59 < x2) = false:=decide_eq_false (by omega)
 clear hbad
 obtain ⟨E,HE⟩ : ∃ E,Hid (4 + x2 = E):=⟨_,rfl⟩
 have q1 : IntKind.i64.wrap ((x2 : Int)) = (x2 : Int):=by rw [IntKind.wrap_i64];have:=HB3.out;omega
 have q2 : IntKind.i64.wrap (4 + (x2 : Int)) = (E : Int):=by rw [IntKind.wrap_i64];have:=HE.out;have:=HB3.out;omega
 have q3 : (4 : Int) ≤ (E : Int):=by have:=HE.out;omega
 have q4 : (E : Int) ≤ (c : Int):=by have:=HE.out;have:=HB3.out;omega
 have q5 : IntKind.i64.wrap ((x1 : Int)) = (x1 : Int):=by rw [IntKind.wrap_i64];have:=HB3.out;omega
 have q6 : ¬ c = 4:=by omega
 have q7 : ¬ c - 4 = 0:=by omega
 obtain ⟨m,HM⟩ : ∃ m,Hid (E - 4 = m ∧ m = x2 ∧ m ≤ 59):=⟨_,rfl,by have:=HE.out;omega,by have:=HE.out;have:=HB3.out;omega⟩
 obtain ⟨LB,HLB⟩ : ∃ LB,Hid (layE x1 lst (payE s) = LB):=⟨_,rfl⟩
 obtain ⟨SL,HSL⟩ : ∃ SL,Hid (str LB = SL):=⟨_,rfl⟩
 obtain ⟨SS,HSS⟩ : ∃ SS,Hid (str s = SS):=⟨_,rfl⟩
 have HRP : Hid (∀ w',Below w.heap.size w w' → Rd w' (some ⟨g,off + 4,none⟩) m (payE s)):=fun w' hb => by
  have:=(HRD.out.below hb).part 4 m (by have:=HM.out;omega)
  unfold payE
  rw [HX2.out,← HM.out.2.1]
  exact this
 have HGD : Hid (goodE s = decide (LB = s ∧ (lst = true ∨ m = 59))):=by
  (show _ = _)
  unfold goodE
  rw [HX1.out,HX2.out,HLS.out,HLB.out,← HM.out.2.1]
  have h1:=HB3.out
  have h2:=HM.out
  refine decide_eq_decide.2 ⟨fun h => ⟨h.2.2.2.2.symm,h.2.2.2.1⟩,fun h => ⟨HSZ.out,by omega,⟨h1.1,h1.2.1⟩,h.2,h.1.symm⟩⟩
 have HOK : Hid (LB = s → (lst = true ∨ m = 59) → ∀ w',Below w.heap.size w w' → GoodTold w' (.returned (.tuple #[.int .i64 (x1 : Int),.slice (some ⟨g,off + 4,none⟩) m (c - 4),.bool lst])) s):=fun h1 h2 w' hb => by
  have hg : goodE s = true:=by rw [HGD.out];exact decide_eq_true ⟨h1,h2⟩
  refine ⟨some ⟨g,off + 4,none⟩,m,c - 4,?_,?_,HM.out.2.2,(fun h => absurd h (by simp)),by have:=HM.out;omega⟩
  ·rw [hg,HX1.out,HLS.out,if_pos rfl];rfl
  ·rw [hg,if_pos rfl];exact HRP.out w' hb
 have HFA : Hid (∀ w',Below w.heap.size w w' → w'.cell? ⟨g,off + 1,none⟩ = some (.int .u8 (x1 : Int)) ∧ (convert 27 9 (.slice (some ⟨g,off,none⟩) 64 c)).run Tryz.prog w' = .ok (.string SS) w'):=fun w' hb => ⟨by rw [← HX1.out];exact (HRD.out.below hb).at_ (i:=1) (by omega),by rw [conv_rd (HRD.out.below hb) c,HSS.out]⟩
 obtain ⟨wd,HWD⟩ : ∃ W,Hid (W = w.drew):=⟨_,rfl⟩
 have HBD : Hid (Below w.heap.size w wd):=by (show Below _ _ _);rw [HWD.out];exact (Below.refl _ _).drew
 have HLD:=ref_Laid wd x1 (some ⟨g,off + 4,none⟩) m (c - 4) (payE s) lst (by have:=HB3.out;omega) HM.out.2.2 (HRP.out wd HBD.out) (fun h => by cases h)
 rw [HLB.out] at HLD
 go_enter Tryz.func111,Tryz.ntmps111
 go_upto_region 5 with fail
 rw [HM.out.1]
 clear c1 c2 c3 d1 d1n d1m d2 d2n d3 d3n q1 q2 q3 q4 q6 q7 e3
 refine wp_region_held_drew (S:=fun w' => w'.cell? ⟨g,off + 1,none⟩ = some (.int .u8 (x1 : Int)) ∧ (convert 27 9 (.slice (some ⟨g,off,none⟩) 64 c)).run Tryz.prog w' = .ok (.string SS) w') (by kernel_rfl) (HFA.out _ (Below.refl _ _).drew) (fun hHeld => ?_)
 rw [← HWD.out] at hHeld ⊢
 by_cases heq : LB = s
 ·obtain rfl : SL = SS:=by rw [← HSL.out,← HSS.out,heq]
  cases lst with
  | true =>
   have HX:=HOK.out heq (.inl rfl)
   refine tkH 0 (some 39) (v:=?_) hHeld ?_ ?_
   rotate_left
   ·(intro wS hSw;obtain ⟨z0,z1⟩:=hSw;go_simp;try with_reducible rfl)
   try simp only [Act.put,List.setIfInBounds_toArray,List.set_cons_zero,List.set_cons_succ]
   refine tkH 1 (some 40) (v:=?_) hHeld ?_ ?_
   rotate_left
   ·(intro wS hSw;obtain ⟨z0,z1⟩:=hSw;go_simp;try with_reducible rfl)
   try simp only [Act.put,List.setIfInBounds_toArray,List.set_cons_zero,List.set_cons_succ]
   refine tkH 2 (some 41) (v:=?_) hHeld ?_ ?_
   rotate_left
   ·(intro wS hSw;obtain ⟨z0,z1⟩:=hSw;go_simp;try with_reducible rfl)
   try simp only [Act.put,List.setIfInBounds_toArray,List.set_cons_zero,List.set_cons_succ]
   refine tkH 3 (some 42) (v:=?_) hHeld ?_ ?_
   rotate_left
   ·(intro wS hSw;obtain ⟨z0,z1⟩:=hSw;go_simp;try with_reducible rfl)
   try simp only [Act.put,List.setIfInBounds_toArray,List.set_cons_zero,List.set_cons_succ]
   refine tkH 4 (some 43) (v:=?_) hHeld ?_ ?_
   rotate_left
   ·(intro wS hSw;obtain ⟨z0,z1⟩:=hSw;go_simp;try with_reducible rfl)
   try simp only [Act.put,List.setIfInBounds_toArray,List.set_cons_zero,List.set_cons_succ]
   refine tkH 5 (some 44) (v:=?_) hHeld ?_ ?_
   rotate_left
   ·(intro wS hSw;obtain ⟨z0,z1⟩:=hSw;go_simp;try with_reducible rfl)
   try simp only [Act.put,List.setIfInBounds_toArray,List.set_cons_zero,List.set_cons_succ]
   refine tkH 8 (some 47) (v:=?_) hHeld ?_ ?_
   rotate_left
   ·(intro wS hSw;obtain ⟨z0,z1⟩:=hSw;go_simp;try with_reducible rfl)
   try simp only [Act.put,List.setIfInBounds_toArray,List.set_cons_zero,List.set_cons_succ]
   refine tkH 9 (some 48) (v:=?_) hHeld ?_ ?_
   rotate_left
   ·(intro wS hSw;obtain ⟨z0,z1⟩:=hSw;go_simp;try with_reducible rfl)
   try simp only [Act.put,List.setIfInBounds_toArray,List.set_cons_zero,List.set_cons_succ]
   refine wpAnyH_ready (rs:=[6]) (by kernel_rfl) (by simp) ?_
   refine AllReadyH.cons rfl (fun K hK => ?_) AllReadyH.nil
   go_simp
   refine HLD.mono ?_
   rintro e w4 ⟨ht4,hb4⟩
   obtain ⟨g8,c8,rfl,ho8⟩:=ht4.out
   have HB4 : Hid (Below w.heap.size w w4):=HBD.out.trans (hb4.mono HBD.out.size)
   have hH4:=HFA.out _ HB4.out
   have k8 : (convert 27 9 (.slice (some ⟨g8,0,none⟩) 64 c8)).run Tryz.prog w4 = .ok (.string SL) w4:=by rw [conv_rd ho8.rd c8,HSL.out]
   clear ht4 ho8 hb4 hHeld HLD
   refine hK.out _ _ hH4 (fun _ => ?_)
   clear hK K
   try simp only [Act.put,List.getElem_toArray,List.getElem_cons_succ,List.getElem_cons_zero,List.setIfInBounds_toArray,List.set_cons_zero,List.set_cons_succ]
   refine wpAnyH_ready (rs:=[7]) (by kernel_rfl) (by simp) ?_
   refine AllReadyH.cons rfl (fun K hK => ?_) AllReadyH.nil
   go_simp
   refine hK.out _ _ hH4 (fun _ => ?_)
   clear hK K
   try simp only [Act.put,List.getElem_toArray,List.getElem_cons_succ,List.getElem_cons_zero,List.setIfInBounds_toArray,List.set_cons_zero,List.set_cons_succ]
   refine tkH 10 (some 49) (v:=?_) hH4 ?_ ?_
   rotate_left
   ·(intro wS hSw;obtain ⟨z0,z1⟩:=hSw;go_simp;try with_reducible rfl)
   try simp only [Act.put,List.setIfInBounds_toArray,List.set_cons_zero,List.set_cons_succ]
   refine tkH 11 (some 50) (v:=?_) hH4 ?_ ?_
   rotate_left
   ·(intro wS hSw;obtain ⟨z0,z1⟩:=hSw;go_simp;try with_reducible rfl)
   try simp only [Act.put,List.setIfInBounds_toArray,List.set_cons_zero,List.set_cons_succ]
   refine tkH 12 (some 51) (v:=?_) hH4 ?_ ?_
   rotate_left
   ·(intro wS hSw;obtain ⟨z0,z1⟩:=hSw;go_simp;try with_reducible rfl)
   try simp only [Act.put,List.setIfInBounds_toArray,List.set_cons_zero,List.set_cons_succ]
   refine tkH 13 (some 52) (v:=?_) hH4 ?_ ?_
   rotate_left
   ·(intro wS hSw;obtain ⟨z0,z1⟩:=hSw;go_simp;try with_reducible rfl)
   try simp only [Act.put,List.setIfInBounds_toArray,List.set_cons_zero,List.set_cons_succ]
   refine tkH 14 (some 53) (v:=?_) hH4 ?_ ?_
   rotate_left
   ·(intro wS hSw;obtain ⟨z0,z1⟩:=hSw;go_simp;try with_reducible rfl)
   try simp only [Act.put,List.setIfInBounds_toArray,List.set_cons_zero,List.set_cons_succ]
   refine tkN 15 (some 54) hH4 ?_
   try simp only [Act.put,List.setIfInBounds_toArray,List.set_cons_zero,List.set_cons_succ]
   refine tkN 16 (some 55) hH4 ?_
   try simp only [Act.put,List.setIfInBounds_toArray,List.set_cons_zero,List.set_cons_succ]
   refine tkN 17 (some 56) hH4 ?_
   try simp only [Act.put,List.setIfInBounds_toArray,List.set_cons_zero,List.set_cons_succ]
   refine tkH 18 (some 57) (v:=?_) hH4 ?_ ?_
   rotate_left
   ·(intro wS hSw;obtain ⟨z0,z1⟩:=hSw;go_simp;try with_reducible rfl)
   try simp only [Act.put,List.setIfInBounds_toArray,List.set_cons_zero,List.set_cons_succ]
   refine tkH 19 (some 58) (v:=?_) hH4 ?_ ?_
   rotate_left
   ·(intro wS hSw;obtain ⟨z0,z1⟩:=hSw;go_simp;try with_reducible rfl)
   try simp only [Act.put,List.setIfInBounds_toArray,List.set_cons_zero,List.set_cons_succ]
   refine wpAnyH_done (by kernel_rfl) ?_ _
   have c1 : w4.cell? ⟨g,off + 1,none⟩ = some (.int .u8 (x1 : Int)):=hH4.1
   clear hH4 k8
   go_wp2
   go_returns
   exact ⟨HX _ HB4.out,HB4.out⟩
  | false =>
   by_cases h59 : m = 59
   ·have HX:=HOK.out heq (.inr h59)
    have m1 : ((m : Int) != 59) = false:=by rw [h59];rfl
    clear h59
    refine tkH 0 (some 39) (v:=?_) hHeld ?_ ?_
    rotate_left
    ·(intro wS hSw;obtain ⟨z0,z1⟩:=hSw;go_simp;try with_reducible rfl)
    try simp only [Act.put,List.setIfInBounds_toArray,List.set_cons_zero,List.set_cons_succ]
    refine tkH 1 (some 40) (v:=?_) hHeld ?_ ?_
    rotate_left
    ·(intro wS hSw;obtain ⟨z0,z1⟩:=hSw;go_simp;try with_reducible rfl)
    try simp only [Act.put,List.setIfInBounds_toArray,List.set_cons_zero,List.set_cons_succ]
    refine tkH 2 (some 41) (v:=?_) hHeld ?_ ?_
    rotate_left
    ·(intro wS hSw;obtain ⟨z0,z1⟩:=hSw;go_simp;try with_reducible rfl)
    try simp only [Act.put,List.setIfInBounds_toArray,List.set_cons_zero,List.set_cons_succ]
    refine tkH 3 (some 42) (v:=?_) hHeld ?_ ?_
    rotate_left
    ·(intro wS hSw;obtain ⟨z0,z1⟩:=hSw;go_simp;try with_reducible rfl)
    try simp only [Act.put,List.setIfInBounds_toArray,List.set_cons_zero,List.set_cons_succ]
    refine tkH 4 (some 43) (v:=?_) hHeld ?_ ?_
    rotate_left
    ·(intro wS hSw;obtain ⟨z0,z1⟩:=hSw;go_simp;try with_reducible rfl)
    try simp only [Act.put,List.setIfInBounds_toArray,List.set_cons_zero,List.set_cons_succ]
    refine tkH 5 (some 44) (v:=?_) hHeld ?_ ?_
    rotate_left
    ·(intro wS hSw;obtain ⟨z0,z1⟩:=hSw;go_simp;try with_reducible rfl)
    try simp only [Act.put,List.setIfInBounds_toArray,List.set_cons_zero,List.set_cons_succ]
    refine tkH 8 (some 47) (v:=?_) hHeld ?_ ?_
    rotate_left
    ·(intro wS hSw;obtain ⟨z0,z1⟩:=hSw;go_simp;try with_reducible rfl)
    try simp only [Act.put,List.setIfInBounds_toArray,List.set_cons_zero,List.set_cons_succ]
    refine tkH 9 (some 48) (v:=?_) hHeld ?_ ?_
    rotate_left
    ·(intro wS hSw;obtain ⟨z0,z1⟩:=hSw;go_simp;try with_reducible rfl)
    try simp only [Act.put,List.setIfInBounds_toArray,List.set_cons_zero,List.set_cons_succ]
    refine wpAnyH_ready (rs:=[6]) (by kernel_rfl) (by simp) ?_
    refine AllReadyH.cons rfl (fun K hK => ?_) AllReadyH.nil
    go_simp
    refine HLD.mono ?_
    rintro e w4 ⟨ht4,hb4⟩
    obtain ⟨g8,c8,rfl,ho8⟩:=ht4.out
    have HB4 : Hid (Below w.heap.size w w4):=HBD.out.trans (hb4.mono HBD.out.size)
    have hH4:=HFA.out _ HB4.out
    have k8 : (convert 27 9 (.slice (some ⟨g8,0,none⟩) 64 c8)).run Tryz.prog w4 = .ok (.string SL) w4:=by rw [conv_rd ho8.rd c8,HSL.out]
    clear ht4 ho8 hb4 hHeld HLD
    refine hK.out _ _ hH4 (fun _ => ?_)
    clear hK K
    try simp only [Act.put,List.getElem_toArray,List.getElem_cons_succ,List.getElem_cons_zero,List.setIfInBounds_toArray,List.set_cons_zero,List.set_cons_succ]
    refine wpAnyH_ready (rs:=[7]) (by kernel_rfl) (by simp) ?_
    refine AllReadyH.cons rfl (fun K hK => ?_) AllReadyH.nil
    go_simp
    refine hK.out _ _ hH4 (fun _ => ?_)
    clear hK K
    try simp only [Act.put,List.getElem_toArray,List.getElem_cons_succ,List.getElem_cons_zero,List.setIfInBounds_toArray,List.set_cons_zero,List.set_cons_succ]
    refine tkH 10 (some 49) (v:=?_) hH4 ?_ ?_
    rotate_left
    ·(intro wS hSw;obtain ⟨z0,z1⟩:=hSw;go_simp;try with_reducible rfl)
    try simp only [Act.put,List.setIfInBounds_toArray,List.set_cons_zero,List.set_cons_succ]
    refine tkH 11 (some 50) (v:=?_) hH4 ?_ ?_
    rotate_left
    ·(intro wS hSw;obtain ⟨z0,z1⟩:=hSw;go_simp;try with_reducible rfl)
    try simp only [Act.put,List.setIfInBounds_toArray,List.set_cons_zero,List.set_cons_succ]
    refine tkH 12 (some 51) (v:=?_) hH4 ?_ ?_
    rotate_left
    ·(intro wS hSw;obtain ⟨z0,z1⟩:=hSw;go_simp;try with_reducible rfl)
    try simp only [Act.put,List.setIfInBounds_toArray,List.set_cons_zero,List.set_cons_succ]
    refine tkH 13 (some 52) (v:=?_) hH4 ?_ ?_
    rotate_left
    ·(intro wS hSw;obtain ⟨z0,z1⟩:=hSw;go_simp;try with_reducible rfl)
    try simp only [Act.put,List.setIfInBounds_toArray,List.set_cons_zero,List.set_cons_succ]
    refine tkH 14 (some 53) (v:=?_) hH4 ?_ ?_
    rotate_left
    ·(intro wS hSw;obtain ⟨z0,z1⟩:=hSw;go_simp;try with_reducible rfl)
    try simp only [Act.put,List.setIfInBounds_toArray,List.set_cons_zero,List.set_cons_succ]
    refine tkH 15 (some 54) (v:=?_) hH4 ?_ ?_
    rotate_left
    ·(intro wS hSw;obtain ⟨z0,z1⟩:=hSw;go_simp;try with_reducible rfl)
    try simp only [Act.put,List.setIfInBounds_toArray,List.set_cons_zero,List.set_cons_succ]
    refine tkH 16 (some 55) (v:=?_) hH4 ?_ ?_
    rotate_left
    ·(intro wS hSw;obtain ⟨z0,z1⟩:=hSw;go_simp;try with_reducible rfl)
    try simp only [Act.put,List.setIfInBounds_toArray,List.set_cons_zero,List.set_cons_succ]
    refine tkH 17 (some 56) (v:=?_) hH4 ?_ ?_
    rotate_left
    ·(intro wS hSw;obtain ⟨z0,z1⟩:=hSw;go_simp;try with_reducible rfl)
    try simp only [Act.put,List.setIfInBounds_toArray,List.set_cons_zero,List.set_cons_succ]
    refine tkH 18 (some 57) (v:=?_) hH4 ?_ ?_
    rotate_left
    ·(intro wS hSw;obtain ⟨z0,z1⟩:=hSw;go_simp;try with_reducible rfl)
    try simp only [Act.put,List.setIfInBounds_toArray,List.set_cons_zero,List.set_cons_succ]
    refine tkH 19 (some 58) (v:=?_) hH4 ?_ ?_
    rotate_left
    ·(intro wS hSw;obtain ⟨z0,z1⟩:=hSw;go_simp;try with_reducible rfl)
    try simp only [Act.put,List.setIfInBounds_toArray,List.set_cons_zero,List.set_cons_succ]
    refine wpAnyH_done (by kernel_rfl) ?_ _
    have c1 : w4.cell? ⟨g,off + 1,none⟩ = some (.int .u8 (x1 : Int)):=hH4.1
    clear hH4 k8
    go_wp2
    go_returns
    exact ⟨HX _ HB4.out,HB4.out⟩
   ·have HX:=HBAD.out (by rw [HGD.out];exact decide_eq_false (fun h => by rcases h.2 with h | h;cases h;exact h59 h))
    have m1 : ((m : Int) != 59) = true:=by rw [bne_iff_ne];omega
    clear h59
    refine tkH 0 (some 39) (v:=?_) hHeld ?_ ?_
    rotate_left
    ·(intro wS hSw;obtain ⟨z0,z1⟩:=hSw;go_simp;try with_reducible rfl)
    try simp only [Act.put,List.setIfInBounds_toArray,List.set_cons_zero,List.set_cons_succ]
    refine tkH 1 (some 40) (v:=?_) hHeld ?_ ?_
    rotate_left
    ·(intro wS hSw;obtain ⟨z0,z1⟩:=hSw;go_simp;try with_reducible rfl)
    try simp only [Act.put,List.setIfInBounds_toArray,List.set_cons_zero,List.set_cons_succ]
    refine tkH 2 (some 41) (v:=?_) hHeld ?_ ?_
    rotate_left
    ·(intro wS hSw;obtain ⟨z0,z1⟩:=hSw;go_simp;try with_reducible rfl)
    try simp only [Act.put,List.setIfInBounds_toArray,List.set_cons_zero,List.set_cons_succ]
    refine tkH 3 (some 42) (v:=?_) hHeld ?_ ?_
    rotate_left
    ·(intro wS hSw;obtain ⟨z0,z1⟩:=hSw;go_simp;try with_reducible rfl)
    try simp only [Act.put,List.setIfInBounds_toArray,List.set_cons_zero,List.set_cons_succ]
    refine tkH 4 (some 43) (v:=?_) hHeld ?_ ?_
    rotate_left
    ·(intro wS hSw;obtain ⟨z0,z1⟩:=hSw;go_simp;try with_reducible rfl)
    try simp only [Act.put,List.setIfInBounds_toArray,List.set_cons_zero,List.set_cons_succ]
    refine tkH 5 (some 44) (v:=?_) hHeld ?_ ?_
    rotate_left
    ·(intro wS hSw;obtain ⟨z0,z1⟩:=hSw;go_simp;try with_reducible rfl)
    try simp only [Act.put,List.setIfInBounds_toArray,List.set_cons_zero,List.set_cons_succ]
    refine tkH 8 (some 47) (v:=?_) hHeld ?_ ?_
    rotate_left
    ·(intro wS hSw;obtain ⟨z0,z1⟩:=hSw;go_simp;try with_reducible rfl)
    try simp only [Act.put,List.setIfInBounds_toArray,List.set_cons_zero,List.set_cons_succ]
    refine tkH 9 (some 48) (v:=?_) hHeld ?_ ?_
    rotate_left
    ·(intro wS hSw;obtain ⟨z0,z1⟩:=hSw;go_simp;try with_reducible rfl)
    try simp only [Act.put,List.setIfInBounds_toArray,List.set_cons_zero,List.set_cons_succ]
    refine wpAnyH_ready (rs:=[6]) (by kernel_rfl) (by simp) ?_
    refine AllReadyH.cons rfl (fun K hK => ?_) AllReadyH.nil
    go_simp
    refine HLD.mono ?_
    rintro e w4 ⟨ht4,hb4⟩
    obtain ⟨g8,c8,rfl,ho8⟩:=ht4.out
    have HB4 : Hid (Below w.heap.size w w4):=HBD.out.trans (hb4.mono HBD.out.size)
    have hH4:=HFA.out _ HB4.out
    have k8 : (convert 27 9 (.slice (some ⟨g8,0,none⟩) 64 c8)).run Tryz.prog w4 = .ok (.string SL) w4:=by rw [conv_rd ho8.rd c8,HSL.out]
    clear ht4 ho8 hb4 hHeld HLD
    refine hK.out _ _ hH4 (fun _ => ?_)
    clear hK K
    try simp only [Act.put,List.getElem_toArray,List.getElem_cons_succ,List.getElem_cons_zero,List.setIfInBounds_toArray,List.set_cons_zero,List.set_cons_succ]
    refine wpAnyH_ready (rs:=[7]) (by kernel_rfl) (by simp) ?_
    refine AllReadyH.cons rfl (fun K hK => ?_) AllReadyH.nil
    go_simp
    refine hK.out _ _ hH4 (fun _ => ?_)
    clear hK K
    try simp only [Act.put,List.getElem_toArray,List.getElem_cons_succ,List.getElem_cons_zero,List.setIfInBounds_toArray,List.set_cons_zero,List.set_cons_succ]
    refine tkH 10 (some 49) (v:=?_) hH4 ?_ ?_
    rotate_left
    ·(intro wS hSw;obtain ⟨z0,z1⟩:=hSw;go_simp;try with_reducible rfl)
    try simp only [Act.put,List.setIfInBounds_toArray,List.set_cons_zero,List.set_cons_succ]
    refine tkH 11 (some 50) (v:=?_) hH4 ?_ ?_
    rotate_left
    ·(intro wS hSw;obtain ⟨z0,z1⟩:=hSw;go_simp;try with_reducible rfl)
    try simp only [Act.put,List.setIfInBounds_toArray,List.set_cons_zero,List.set_cons_succ]
    refine tkH 12 (some 51) (v:=?_) hH4 ?_ ?_
    rotate_left
    ·(intro wS hSw;obtain ⟨z0,z1⟩:=hSw;go_simp;try with_reducible rfl)
    try simp only [Act.put,List.setIfInBounds_toArray,List.set_cons_zero,List.set_cons_succ]
    refine tkH 13 (some 52) (v:=?_) hH4 ?_ ?_
    rotate_left
    ·(intro wS hSw;obtain ⟨z0,z1⟩:=hSw;go_simp;try with_reducible rfl)
    try simp only [Act.put,List.setIfInBounds_toArray,List.set_cons_zero,List.set_cons_succ]
    refine tkH 14 (some 53) (v:=?_) hH4 ?_ ?_
    rotate_left
    ·(intro wS hSw;obtain ⟨z0,z1⟩:=hSw;go_simp;try with_reducible rfl)
    try simp only [Act.put,List.setIfInBounds_toArray,List.set_cons_zero,List.set_cons_succ]
    refine tkH 15 (some 54) (v:=?_) hH4 ?_ ?_
    rotate_left
    ·(intro wS hSw;obtain ⟨z0,z1⟩:=hSw;go_simp;try with_reducible rfl)
    try simp only [Act.put,List.setIfInBounds_toArray,List.set_cons_zero,List.set_cons_succ]
    refine tkH 16 (some 55) (v:=?_) hH4 ?_ ?_
    rotate_left
    ·(intro wS hSw;obtain ⟨z0,z1⟩:=hSw;go_simp;try with_reducible rfl)
    try simp only [Act.put,List.setIfInBounds_toArray,List.set_cons_zero,List.set_cons_succ]
    refine tkH 17 (some 56) (v:=?_) hH4 ?_ ?_
    rotate_left
    ·(intro wS hSw;obtain ⟨z0,z1⟩:=hSw;go_simp;try with_reducible rfl)
    try simp only [Act.put,List.setIfInBounds_toArray,List.set_cons_zero,List.set_cons_succ]
    refine tkH 18 (some 57) (v:=?_) hH4 ?_ ?_
    rotate_left
    ·(intro wS hSw;obtain ⟨z0,z1⟩:=hSw;go_simp;try with_reducible rfl)
    try simp only [Act.put,List.setIfInBounds_toArray,List.set_cons_zero,List.set_cons_succ]
    refine tkH 19 (some 58) (v:=?_) hH4 ?_ ?_
    rotate_left
    ·(intro wS hSw;obtain ⟨z0,z1⟩:=hSw;go_simp;try with_reducible rfl)
    try simp only [Act.put,List.setIfInBounds_toArray,List.set_cons_zero,List.set_cons_succ]
    refine wpAnyH_done (by kernel_rfl) ?_ _
    have c1 : w4.cell? ⟨g,off + 1,none⟩ = some (.int .u8 (x1 : Int)):=hH4.1
    clear hH4 k8
    go_wp2
    go_returns
    exact ⟨HX _,HB4.out⟩
 ·have HX:=HBAD.out (by rw [HGD.out];exact decide_eq_false (fun h => heq h.1))
  have n0 : ¬ SL = SS:=fun h => heq (str_inj (by
   rw [← HLB.out]
   have:=layE_sec (k:=x1) (b:=lst) (p:=payE s) (by have:=HB3.out;omega) (by rw [(HRP.out w (Below.refl _ _)).size];exact HM.out.2.2) (HRP.out w (Below.refl _ _)).byte
   exact this.byte) HRD.out.byte (by rw [HSL.out,HSS.out];exact h))
  have n1 : (SL.toList == SS.toList) = false:=by rw [same_str];exact decide_eq_false n0
  have n2 : (SL.toList != SS.toList) = true:=by unfold bne;rw [n1];rfl
  refine tkH 0 (some 39) (v:=?_) hHeld ?_ ?_
  rotate_left
  ·(intro wS hSw;obtain ⟨z0,z1⟩:=hSw;go_simp;try with_reducible rfl)
  try simp only [Act.put,List.setIfInBounds_toArray,List.set_cons_zero,List.set_cons_succ]
  refine tkH 1 (some 40) (v:=?_) hHeld ?_ ?_
  rotate_left
  ·(intro wS hSw;obtain ⟨z0,z1⟩:=hSw;go_simp;try with_reducible rfl)
  try simp only [Act.put,List.setIfInBounds_toArray,List.set_cons_zero,List.set_cons_succ]
  refine tkH 2 (some 41) (v:=?_) hHeld ?_ ?_
  rotate_left
  ·(intro wS hSw;obtain ⟨z0,z1⟩:=hSw;go_simp;try with_reducible rfl)
  try simp only [Act.put,List.setIfInBounds_toArray,List.set_cons_zero,List.set_cons_succ]
  refine tkH 3 (some 42) (v:=?_) hHeld ?_ ?_
  rotate_left
  ·(intro wS hSw;obtain ⟨z0,z1⟩:=hSw;go_simp;try with_reducible rfl)
  try simp only [Act.put,List.setIfInBounds_toArray,List.set_cons_zero,List.set_cons_succ]
  refine tkH 4 (some 43) (v:=?_) hHeld ?_ ?_
  rotate_left
  ·(intro wS hSw;obtain ⟨z0,z1⟩:=hSw;go_simp;try with_reducible rfl)
  try simp only [Act.put,List.setIfInBounds_toArray,List.set_cons_zero,List.set_cons_succ]
  refine tkH 5 (some 44) (v:=?_) hHeld ?_ ?_
  rotate_left
  ·(intro wS hSw;obtain ⟨z0,z1⟩:=hSw;go_simp;try with_reducible rfl)
  try simp only [Act.put,List.setIfInBounds_toArray,List.set_cons_zero,List.set_cons_succ]
  refine tkH 8 (some 47) (v:=?_) hHeld ?_ ?_
  rotate_left
  ·(intro wS hSw;obtain ⟨z0,z1⟩:=hSw;go_simp;try with_reducible rfl)
  try simp only [Act.put,List.setIfInBounds_toArray,List.set_cons_zero,List.set_cons_succ]
  refine tkH 9 (some 48) (v:=?_) hHeld ?_ ?_
  rotate_left
  ·(intro wS hSw;obtain ⟨z0,z1⟩:=hSw;go_simp;try with_reducible rfl)
  try simp only [Act.put,List.setIfInBounds_toArray,List.set_cons_zero,List.set_cons_succ]
  refine wpAnyH_ready (rs:=[6]) (by kernel_rfl) (by simp) ?_
  refine AllReadyH.cons rfl (fun K hK => ?_) AllReadyH.nil
  go_simp
  refine HLD.mono ?_
  rintro e w4 ⟨ht4,hb4⟩
  obtain ⟨g8,c8,rfl,ho8⟩:=ht4.out
  have HB4 : Hid (Below w.heap.size w w4):=HBD.out.trans (hb4.mono HBD.out.size)
  have hH4:=HFA.out _ HB4.out
  have k8 : (convert 27 9 (.slice (some ⟨g8,0,none⟩) 64 c8)).run Tryz.prog w4 = .ok (.string SL) w4:=by rw [conv_rd ho8.rd c8,HSL.out]
  clear ht4 ho8 hb4 hHeld HLD
  refine hK.out _ _ hH4 (fun _ => ?_)
  clear hK K
  try simp only [Act.put,List.getElem_toArray,List.getElem_cons_succ,List.getElem_cons_zero,List.setIfInBounds_toArray,List.set_cons_zero,List.set_cons_succ]
  refine wpAnyH_ready (rs:=[7]) (by kernel_rfl) (by simp) ?_
  refine AllReadyH.cons rfl (fun K hK => ?_) AllReadyH.nil
  go_simp
  refine hK.out _ _ hH4 (fun _ => ?_)
  clear hK K
  try simp only [Act.put,List.getElem_toArray,List.getElem_cons_succ,List.getElem_cons_zero,List.setIfInBounds_toArray,List.set_cons_zero,List.set_cons_succ]
  refine tkH 10 (some 49) (v:=?_) hH4 ?_ ?_
  rotate_left
  ·(intro wS hSw;obtain ⟨z0,z1⟩:=hSw;go_simp;try with_reducible rfl)
  try simp only [Act.put,List.setIfInBounds_toArray,List.set_cons_zero,List.set_cons_succ]
  refine tkH 11 (some 50) (v:=?_) hH4 ?_ ?_
  rotate_left
  ·(intro wS hSw;obtain ⟨z0,z1⟩:=hSw;go_simp;try with_reducible rfl)
  try simp only [Act.put,List.setIfInBounds_toArray,List.set_cons_zero,List.set_cons_succ]
  refine tkN 12 (some 51) hH4 ?_
  try simp only [Act.put,List.setIfInBounds_toArray,List.set_cons_zero,List.set_cons_succ]
  refine tkN 13 (some 52) hH4 ?_
  try simp only [Act.put,List.setIfInBounds_toArray,List.set_cons_zero,List.set_cons_succ]
  refine tkN 14 (some 53) hH4 ?_
  try simp only [Act.put,List.setIfInBounds_toArray,List.set_cons_zero,List.set_cons_succ]
  refine tkN 15 (some 54) hH4 ?_
  try simp only [Act.put,List.setIfInBounds_toArray,List.set_cons_zero,List.set_cons_succ]
  refine tkN 16 (some 55) hH4 ?_
  try simp only [Act.put,List.setIfInBounds_toArray,List.set_cons_zero,List.set_cons_succ]
  refine tkN 17 (some 56) hH4 ?_
  try simp only [Act.put,List.setIfInBounds_toArray,List.set_cons_zero,List.set_cons_succ]
  refine tkN 18 (some 57) hH4 ?_
  try simp only [Act.put,List.setIfInBounds_toArray,List.set_cons_zero,List.set_cons_succ]
  refine tkH 19 (some 58) (v:=?_) hH4 ?_ ?_
  rotate_left
  ·(intro wS hSw;obtain ⟨z0,z1⟩:=hSw;go_simp;try with_reducible rfl)
  try simp only [Act.put,List.setIfInBounds_toArray,List.set_cons_zero,List.set_cons_succ]
  refine wpAnyH_done (by kernel_rfl) ?_ _
  have c1 : w4.cell? ⟨g,off + 1,none⟩ = some (.int .u8 (x1 : Int)):=hH4.1
  clear hH4 k8
  go_wp2
  go_returns
  exact ⟨HX _,HB4.out⟩
end Go.Proofs.YtghajmcohdedlaaGreat
