import Derived.Test.YtoiennkfdjnkbaaGreatDoorPk15
set_option maxRecDepth 100000
set_option maxHeartbeats 8000000
namespace Go.Proofs.YtoiennkfdjnkbaaGreatDoor
open Go.RowKit
def SL (T:World→Prop) (k:Nat) (L:Array Bool) (w:World):Prop:=L.getD k true=false→T w
theorem SL.ind (T:World→Prop) (k i:Nat) (h:i≠k):∀ L w,SL T k (L.setIfInBounds i true) w↔SL T k L w:=fun L w=>by
 unfold SL
 rw [getD_set_ne true h]
theorem SL.gone {T:World→Prop} {k:Nat} {L:Array Bool} {w:World} (h:L.getD k true=true:=by kernel_rfl):SL T k L w:=fun h2=>by rw [h] at h2;cases h2
theorem infoTopo5:(Tryz.prog.info? 40).map (·.size)=some 5:=by kernel_rfl
theorem results_cloned {w:World} {tmps:Array Value} {g:Nat} {cs:List Value} (h2:tmps[2]?.getD undef=.pointer (some ⟨g,0,none⟩)) (k:Row1 w g 40 cs) (hl:cs.length=5):(results Tryz.f27 tmps).run Tryz.prog w=.ok (.agg cs.toArray) w:=by
 have hr:=run_loadVar_mid (P:=Tryz.prog) w g 0 40 cs _ k.range Tryz.underlying40 rfl (by rw [hl];exact infoTopo5)
 simp [results,Tryz.results27,h2,hr,asAddr]
theorem br_cloned (gp cp gs cs gt ct:Nat) (w:World) (h:Tpo w gp cp gs cs gt ct):Calls Tryz.prog 27 #[tpV gp cp gs cs] w fun e w'=>(∃ gp' cp' gs' cs' gt' ct',e=.returned (tpV gp' cp' gs' cs')∧Tpo w' gp' cp' gs' cs' gt' ct'∧w.heap.size≤gp'∧w.heap.size≤gs'∧w.heap.size≤gt')∧Below w.heap.size w w':=by
 have HT:Hid (Tpo w gp cp gs cs gt ct):=h
 obtain ⟨W1,HW1⟩:∃ W,Hid (W=(w.alloc (.cells #[.int .i64 1,.slice none 0 0,.slice (some ⟨gp,0,none⟩) 1 cp,.slice (some ⟨gs,0,none⟩) 1 cs,.slice none 0 0] 40)).alloc (.cells #[.int .i64 0,.slice none 0 0,.slice none 0 0,.slice none 0 0,.slice none 0 0] 40)):=⟨_,rfl⟩
 have hb1:=below_alloc w (.cells #[.int .i64 1,.slice none 0 0,.slice (some ⟨gp,0,none⟩) 1 cp,.slice (some ⟨gs,0,none⟩) 1 cs,.slice none 0 0] 40)
 have hb2:=below_alloc (w.alloc (.cells #[.int .i64 1,.slice none 0 0,.slice (some ⟨gp,0,none⟩) 1 cp,.slice (some ⟨gs,0,none⟩) 1 cs,.slice none 0 0] 40)) (.cells #[.int .i64 0,.slice none 0 0,.slice none 0 0,.slice none 0 0,.slice none 0 0] 40)
 have HX1:Hid (Below w.heap.size w W1):=by (show Below _ _ _);rw [HW1.out];exact hb1.trans (hb2.mono hb1.size)
 have HK1:Hid (Row1 W1 w.heap.size 40 (tpC gp cp gs cs)):=by (show Row1 _ _ _ _);rw [HW1.out];exact Row1.of ((Blk.new w _ _).stay hb2)
 have HZ1:Hid (Row1 W1 (w.heap.size+1) 40 [.int .i64 0,.slice none 0 0,.slice none 0 0,.slice none 0 0,.slice none 0 0]):=by
  (show Row1 _ _ _ _);rw [HW1.out]
  have:=Blk.new (w.alloc (.cells #[.int .i64 1,.slice none 0 0,.slice (some ⟨gp,0,none⟩) 1 cp,.slice (some ⟨gs,0,none⟩) 1 cs,.slice none 0 0] 40)) #[.int .i64 0,.slice none 0 0,.slice none 0 0,.slice none 0 0,.slice none 0 0] 40
  exact Row1.of (by simpa using this)
 have HT1:Hid (Tpo W1 gp cp gs cs gt ct):=HT.out.stay HX1.out
 have HSZ:Hid (w.heap.size<W1.heap.size):=HK1.out.lt
 clear hb1 hb2 h
 have HM1:Hid (∀ i,i≠13→∀ L w',SL (fun w'=>Row1 w' w.heap.size 40 (tpC gp cp gs cs)) 13 (L.setIfInBounds i true) w'↔SL (fun w'=>Row1 w' w.heap.size 40 (tpC gp cp gs cs)) 13 L w'):=SL.ind _ 13
 unfold tpV
 go_enter Tryz.func27,Tryz.ntmps27
 go_upto_region 1 with fail
 rw [← HW1.out]
 refine wp_region_L (S:=SL (fun w'=>Row1 w' w.heap.size 40 (tpC gp cp gs cs)) 13) (by kernel_rfl) (fun _=>HK1.out.stay (Below.refl _ _).drew) (fun hS0 => ?_)
 obtain ⟨wd,HWD⟩:∃ W,Hid (W=W1.drew):=⟨_,rfl⟩
 rw [← HWD.out] at hS0 ⊢
 have HXd:Hid (Below W1.heap.size W1 wd):=by (show Below _ _ _);rw [HWD.out];exact (Below.refl _ _).drew
 have HTd:Hid (Tpo wd gp cp gs cs gt ct):=HT1.out.stay HXd.out
 have HKd:Hid (Row1 wd w.heap.size 40 (tpC gp cp gs cs)):=HK1.out.stay HXd.out
 have HZd:Hid (Row1 wd (w.heap.size+1) 40 [.int .i64 0,.slice none 0 0,.slice none 0 0,.slice none 0 0,.slice none 0 0]):=HZ1.out.stay HXd.out
 have HBd:Hid (Below w.heap.size w wd):=HX1.out.trans (HXd.out.mono HX1.out.size)
 refine tkL (i:=0) 13 (some 4) (v:=?_) hS0 (HM1.out 0 (by decide)) ?_ ?_
 rotate_left
 ·(intro wS hSw;(try obtain ⟨L,hL,hSL⟩:=hSw);obtain ⟨z0,z1,z2,z3,z4⟩:=tp_facts (hSL hL);clear hSL;go_simp;try with_reducible rfl)
 try simp only [Act.put,List.setIfInBounds_toArray,List.set_cons_zero,List.set_cons_succ]
 refine tkL (i:=1) 13 (some 5) (v:=?_) hS0 (HM1.out 1 (by decide)) ?_ ?_
 rotate_left
 ·(intro wS hSw;(try obtain ⟨L,hL,hSL⟩:=hSw);obtain ⟨z0,z1,z2,z3,z4⟩:=tp_facts (hSL hL);clear hSL;go_simp;try with_reducible rfl)
 try simp only [Act.put,List.setIfInBounds_toArray,List.set_cons_zero,List.set_cons_succ]
 refine tkL (i:=3) 13 (some 7) (v:=?_) hS0 (HM1.out 3 (by decide)) ?_ ?_
 rotate_left
 ·(intro wS hSw;(try obtain ⟨L,hL,hSL⟩:=hSw);obtain ⟨z0,z1,z2,z3,z4⟩:=tp_facts (hSL hL);clear hSL;go_simp;try with_reducible rfl)
 try simp only [Act.put,List.setIfInBounds_toArray,List.set_cons_zero,List.set_cons_succ]
 refine tkL (i:=4) 13 (some 8) (v:=?_) hS0 (HM1.out 4 (by decide)) ?_ ?_
 rotate_left
 ·(intro wS hSw;(try obtain ⟨L,hL,hSL⟩:=hSw);obtain ⟨z0,z1,z2,z3,z4⟩:=tp_facts (hSL hL);clear hSL;go_simp;try with_reducible rfl)
 try simp only [Act.put,List.setIfInBounds_toArray,List.set_cons_zero,List.set_cons_succ]
 refine tkL (i:=6) 13 (some 10) (v:=?_) hS0 (HM1.out 6 (by decide)) ?_ ?_
 rotate_left
 ·(intro wS hSw;(try obtain ⟨L,hL,hSL⟩:=hSw);obtain ⟨z0,z1,z2,z3,z4⟩:=tp_facts (hSL hL);clear hSL;go_simp;try with_reducible rfl)
 try simp only [Act.put,List.setIfInBounds_toArray,List.set_cons_zero,List.set_cons_succ]
 refine tkL (i:=7) 13 (some 11) (v:=?_) hS0 (HM1.out 7 (by decide)) ?_ ?_
 rotate_left
 ·(intro wS hSw;(try obtain ⟨L,hL,hSL⟩:=hSw);obtain ⟨z0,z1,z2,z3,z4⟩:=tp_facts (hSL hL);clear hSL;go_simp;try with_reducible rfl)
 try simp only [Act.put,List.setIfInBounds_toArray,List.set_cons_zero,List.set_cons_succ]
 refine tkL (i:=9) 13 (some 13) (v:=?_) hS0 (HM1.out 9 (by decide)) ?_ ?_
 rotate_left
 ·(intro wS hSw;(try obtain ⟨L,hL,hSL⟩:=hSw);obtain ⟨z0,z1,z2,z3,z4⟩:=tp_facts (hSL hL);clear hSL;go_simp;try with_reducible rfl)
 try simp only [Act.put,List.setIfInBounds_toArray,List.set_cons_zero,List.set_cons_succ]
 refine tkL (i:=10) 13 (some 14) (v:=?_) hS0 (HM1.out 10 (by decide)) ?_ ?_
 rotate_left
 ·(intro wS hSw;(try obtain ⟨L,hL,hSL⟩:=hSw);obtain ⟨z0,z1,z2,z3,z4⟩:=tp_facts (hSL hL);clear hSL;go_simp;try with_reducible rfl)
 try simp only [Act.put,List.setIfInBounds_toArray,List.set_cons_zero,List.set_cons_succ]
 refine anyL_one (i:=2) (by kernel_rfl) rfl (fun K hK => ?_)
 go_simp
 refine (br_CloneNilLines wd).mono ?_
 rintro e w0 ⟨rfl,hw⟩
 rw [hw]
 clear hw w0
 refine hK.out _ _ (fun _=>HKd.out) (fun hS2 => ?_)
 clear hK K
 try simp only [Act.put,List.getElem_toArray,List.getElem_cons_succ,List.getElem_cons_zero,List.setIfInBounds_toArray,List.set_cons_zero,List.set_cons_succ]
 refine tkL (i:=12) 13 (some 16) (v:=?_) hS2 (HM1.out 12 (by decide)) ?_ ?_
 rotate_left
 ·(intro wS hSw;(try obtain ⟨L,hL,hSL⟩:=hSw);skip;go_simp;try with_reducible rfl)
 try simp only [Act.put,List.setIfInBounds_toArray,List.set_cons_zero,List.set_cons_succ]
 clear hS0
 refine anyL_one (i:=5) (by kernel_rfl) rfl (fun K hK => ?_)
 go_simp
 refine (br_CloneInt gp 1 cp [.int .i64 0] wd HTd.out.pubs rfl (by simp [Value.oneCell']) (by decide) (by decide)).mono ?_
 rintro e w3 ⟨⟨g3,c3,rfl,hc3,hg3,hr3⟩,hb3⟩
 have HT3:Hid (Tpo w3 gp cp gs cs gt ct):=HTd.out.stay hb3
 have HK3:Hid (Row1 w3 w.heap.size 40 (tpC gp cp gs cs)):=HKd.out.stay hb3
 have HZ3:Hid (Row1 w3 (w.heap.size+1) 40 [.int .i64 0,.slice none 0 0,.slice none 0 0,.slice none 0 0,.slice none 0 0]):=HZd.out.stay hb3
 have HB3:Hid (Below w.heap.size w w3):=HBd.out.trans (hb3.mono HBd.out.size)
 have HR3:Hid (Row1 w3 g3 3 [.int .i64 0] ∧ 1≤c3∧wd.heap.size≤g3):=⟨hr3,hc3,hg3⟩
 clear hc3 hg3 hr3 hb3
 refine hK.out _ _ (fun _=>HK3.out) (fun _ => ?_)
 clear hK K
 try simp only [Act.put,List.getElem_toArray,List.getElem_cons_succ,List.getElem_cons_zero,List.setIfInBounds_toArray,List.set_cons_zero,List.set_cons_succ]
 refine anyL_one (i:=8) (by kernel_rfl) rfl (fun K hK => ?_)
 go_simp
 refine (br_CloneSub gs 1 cs [.int .i64 0,.int .i64 0,.slice (some ⟨gt,0,none⟩) 1 ct] w3 HT3.out.subs rfl (by simp [Value.oneCell']) (by decide) (by decide)).mono ?_
 rintro e w4 ⟨⟨g4,c4,rfl,hc4,hg4,hr4⟩,hb4⟩
 have HT4:Hid (Tpo w4 gp cp gs cs gt ct):=HT3.out.stay hb4
 have HK4:Hid (Row1 w4 w.heap.size 40 (tpC gp cp gs cs)):=HK3.out.stay hb4
 have HZ4:Hid (Row1 w4 (w.heap.size+1) 40 [.int .i64 0,.slice none 0 0,.slice none 0 0,.slice none 0 0,.slice none 0 0]):=HZ3.out.stay hb4
 have HB4:Hid (Below w.heap.size w w4):=HB3.out.trans (hb4.mono HB3.out.size)
 have HR4:Hid (Row1 w4 g4 36 [.int .i64 0,.int .i64 0,.slice (some ⟨gt,0,none⟩) 1 ct] ∧ 1≤c4∧w3.heap.size≤g4):=⟨hr4,hc4,hg4⟩
 have HP4:Hid (Row1 w4 g3 3 [.int .i64 0]):=HR3.out.1.stay hb4
 have HLE:Hid (wd.heap.size≤w3.heap.size∧W1.heap.size≤wd.heap.size):=⟨by have:=HR3.out.1.lt;have:=HR3.out.2.2;omega,HXd.out.size⟩
 clear hc4 hg4 hr4 hb4
 refine hK.out _ _ (fun _=>HK4.out) (fun _ => ?_)
 clear hK K
 try simp only [Act.put,List.getElem_toArray,List.getElem_cons_succ,List.getElem_cons_zero,List.setIfInBounds_toArray,List.set_cons_zero,List.set_cons_succ]
 refine anyL_one (i:=11) (by kernel_rfl) rfl (fun K hK => ?_)
 go_simp
 refine (br_CloneNilField w4).mono ?_
 rintro e w0 ⟨rfl,hw⟩
 rw [hw]
 clear hw w0
 refine hK.out _ _ (fun _=>HK4.out) (fun hS4 => ?_)
 clear hK K
 obtain ⟨W5,HW5⟩:∃ W,Hid (W=w4.setCell ⟨w.heap.size,1,none⟩ (.slice none 0 0)):=⟨_,rfl⟩
 have HK5:Hid (Row1 W5 w.heap.size 40 [.int .i64 1,.slice none 0 0,.slice (some ⟨gp,0,none⟩) 1 cp,.slice (some ⟨gs,0,none⟩) 1 cs,.slice none 0 0]):=by (show Row1 _ _ _ _);rw [HW5.out];exact (HK4.out).set 1 _
 have HE5:Hid (∀ (g:Nat) (e:TypeId) (cs':List Value),Row1 w4 g e cs'→g≠w.heap.size→Row1 W5 g e cs'):=fun g e cs' h hn=>by rw [HW5.out];exact h.other hn
 have z5:w4.cell? ⟨w.heap.size,1,none⟩=some (.slice none 0 0):=(HK4.out).cell 1 rfl
 have y5:w4.frozen? ⟨w.heap.size,1,none⟩=false:=(HK4.out).free _
 have HB5:Hid (Below w.heap.size w W5):=by (show Below _ _ _);rw [HW5.out];exact HB4.out.setCell (p:=⟨w.heap.size,1,none⟩) (Nat.le_refl _) _
 refine anyL_one (i:=13) (by kernel_rfl) rfl (fun K hK => ?_)
 go_simp
 rw [← HW5.out]
 clear z5 y5
 refine hK.out _ _ SL.gone (fun hS6 => ?_)
 clear hK K
 try simp only [Act.put,List.getElem_toArray,List.getElem_cons_succ,List.getElem_cons_zero,List.setIfInBounds_toArray,List.set_cons_zero,List.set_cons_succ]
 refine tkL (i:=14) 15 (some 17) (v:=?_) hS6 (HM1.out 14 (by decide)) ?_ ?_
 rotate_left
 ·(intro wS hSw;(try obtain ⟨L,hL,hSL⟩:=hSw);skip;go_simp;try with_reducible rfl)
 try simp only [Act.put,List.setIfInBounds_toArray,List.set_cons_zero,List.set_cons_succ]
 obtain ⟨W6,HW6⟩:∃ W,Hid (W=W5.setCell ⟨w.heap.size,2,none⟩ (.slice (some ⟨g3,0,none⟩) 1 c3)):=⟨_,rfl⟩
 have HK6:Hid (Row1 W6 w.heap.size 40 [.int .i64 1,.slice none 0 0,.slice (some ⟨g3,0,none⟩) 1 c3,.slice (some ⟨gs,0,none⟩) 1 cs,.slice none 0 0]):=by (show Row1 _ _ _ _);rw [HW6.out];exact (HK5.out).set 2 _
 have HE6:Hid (∀ (g:Nat) (e:TypeId) (cs':List Value),Row1 W5 g e cs'→g≠w.heap.size→Row1 W6 g e cs'):=fun g e cs' h hn=>by rw [HW6.out];exact h.other hn
 have z6:W5.cell? ⟨w.heap.size,2,none⟩=some (.slice (some ⟨gp,0,none⟩) 1 cp):=(HK5.out).cell 2 rfl
 have y6:W5.frozen? ⟨w.heap.size,2,none⟩=false:=(HK5.out).free _
 have HB6:Hid (Below w.heap.size w W6):=by (show Below _ _ _);rw [HW6.out];exact HB5.out.setCell (p:=⟨w.heap.size,2,none⟩) (Nat.le_refl _) _
 refine anyL_one (i:=15) (by kernel_rfl) rfl (fun K hK => ?_)
 go_simp
 rw [← HW6.out]
 clear z6 y6
 refine hK.out _ _ SL.gone (fun hS7 => ?_)
 clear hK K
 try simp only [Act.put,List.getElem_toArray,List.getElem_cons_succ,List.getElem_cons_zero,List.setIfInBounds_toArray,List.set_cons_zero,List.set_cons_succ]
 refine tkL (i:=16) 17 (some 18) (v:=?_) hS7 (HM1.out 16 (by decide)) ?_ ?_
 rotate_left
 ·(intro wS hSw;(try obtain ⟨L,hL,hSL⟩:=hSw);skip;go_simp;try with_reducible rfl)
 try simp only [Act.put,List.setIfInBounds_toArray,List.set_cons_zero,List.set_cons_succ]
 obtain ⟨W7,HW7⟩:∃ W,Hid (W=W6.setCell ⟨w.heap.size,3,none⟩ (.slice (some ⟨g4,0,none⟩) 1 c4)):=⟨_,rfl⟩
 have HK7:Hid (Row1 W7 w.heap.size 40 [.int .i64 1,.slice none 0 0,.slice (some ⟨g3,0,none⟩) 1 c3,.slice (some ⟨g4,0,none⟩) 1 c4,.slice none 0 0]):=by (show Row1 _ _ _ _);rw [HW7.out];exact (HK6.out).set 3 _
 have HE7:Hid (∀ (g:Nat) (e:TypeId) (cs':List Value),Row1 W6 g e cs'→g≠w.heap.size→Row1 W7 g e cs'):=fun g e cs' h hn=>by rw [HW7.out];exact h.other hn
 have z7:W6.cell? ⟨w.heap.size,3,none⟩=some (.slice (some ⟨gs,0,none⟩) 1 cs):=(HK6.out).cell 3 rfl
 have y7:W6.frozen? ⟨w.heap.size,3,none⟩=false:=(HK6.out).free _
 have HB7:Hid (Below w.heap.size w W7):=by (show Below _ _ _);rw [HW7.out];exact HB6.out.setCell (p:=⟨w.heap.size,3,none⟩) (Nat.le_refl _) _
 refine anyL_one (i:=17) (by kernel_rfl) rfl (fun K hK => ?_)
 go_simp
 rw [← HW7.out]
 clear z7 y7
 refine hK.out _ _ SL.gone (fun hS8 => ?_)
 clear hK K
 try simp only [Act.put,List.getElem_toArray,List.getElem_cons_succ,List.getElem_cons_zero,List.setIfInBounds_toArray,List.set_cons_zero,List.set_cons_succ]
 refine tkL (i:=18) 19 (some 19) (v:=?_) hS8 (HM1.out 18 (by decide)) ?_ ?_
 rotate_left
 ·(intro wS hSw;(try obtain ⟨L,hL,hSL⟩:=hSw);skip;go_simp;try with_reducible rfl)
 try simp only [Act.put,List.setIfInBounds_toArray,List.set_cons_zero,List.set_cons_succ]
 obtain ⟨W8,HW8⟩:∃ W,Hid (W=W7.setCell ⟨w.heap.size,4,none⟩ (.slice none 0 0)):=⟨_,rfl⟩
 have HK8:Hid (Row1 W8 w.heap.size 40 [.int .i64 1,.slice none 0 0,.slice (some ⟨g3,0,none⟩) 1 c3,.slice (some ⟨g4,0,none⟩) 1 c4,.slice none 0 0]):=by (show Row1 _ _ _ _);rw [HW8.out];exact (HK7.out).set 4 _
 have HE8:Hid (∀ (g:Nat) (e:TypeId) (cs':List Value),Row1 W7 g e cs'→g≠w.heap.size→Row1 W8 g e cs'):=fun g e cs' h hn=>by rw [HW8.out];exact h.other hn
 have z8:W7.cell? ⟨w.heap.size,4,none⟩=some (.slice none 0 0):=(HK7.out).cell 4 rfl
 have y8:W7.frozen? ⟨w.heap.size,4,none⟩=false:=(HK7.out).free _
 have HB8:Hid (Below w.heap.size w W8):=by (show Below _ _ _);rw [HW8.out];exact HB7.out.setCell (p:=⟨w.heap.size,4,none⟩) (Nat.le_refl _) _
 refine anyL_one (i:=19) (by kernel_rfl) rfl (fun K hK => ?_)
 go_simp
 rw [← HW8.out]
 clear z8 y8
 refine hK.out _ _ SL.gone (fun hS9 => ?_)
 clear hK K
 try simp only [Act.put,List.getElem_toArray,List.getElem_cons_succ,List.getElem_cons_zero,List.setIfInBounds_toArray,List.set_cons_zero,List.set_cons_succ]
 refine anyL_done (by kernel_rfl) ?_ _
 have HN:Hid (g3≠w.heap.size∧g4≠w.heap.size∧gt≠w.heap.size∧w.heap.size≤g3∧w.heap.size≤g4∧w.heap.size+1≠w.heap.size∧g3≠w.heap.size+1∧g4≠w.heap.size+1∧g3≠g4):=by
  (show _∧_∧_∧_∧_∧_∧_∧_∧_)
  have a1:=HR3.out.2.2;have a2:=HR4.out.2.2;have a3:=HT.out.terms.lt;have a4:=HSZ.out;have a5:=HLE.out;have a6:=HZ1.out.lt;have a7:=HR3.out.1.lt
  omega
 have HQ8:Hid (Row1 W8 g4 36 [.int .i64 0,.int .i64 0,.slice (some ⟨gt,0,none⟩) 1 ct]):=HE8.out _ _ _ (HE7.out _ _ _ (HE6.out _ _ _ (HE5.out _ _ _ HR4.out.1 HN.out.2.1) HN.out.2.1) HN.out.2.1) HN.out.2.1
 have HP8:Hid (Row1 W8 g3 3 [.int .i64 0]):=HE8.out _ _ _ (HE7.out _ _ _ (HE6.out _ _ _ (HE5.out _ _ _ HP4.out HN.out.1) HN.out.1) HN.out.1) HN.out.1
 have HT8:Hid (Row1 W8 gt 88 yesC):=HE8.out _ _ _ (HE7.out _ _ _ (HE6.out _ _ _ (HE5.out _ _ _ HT4.out.terms HN.out.2.2.1) HN.out.2.2.1) HN.out.2.2.1) HN.out.2.2.1
 have HZ8:Hid (Row1 W8 (w.heap.size+1) 40 [.int .i64 0,.slice none 0 0,.slice none 0 0,.slice none 0 0,.slice none 0 0]):=HE8.out _ _ _ (HE7.out _ _ _ (HE6.out _ _ _ (HE5.out _ _ _ HZ4.out HN.out.2.2.2.2.2.1) HN.out.2.2.2.2.2.1) HN.out.2.2.2.2.2.1) HN.out.2.2.2.2.2.1
 have HKK:Hid (Row1 W8 w.heap.size 40 (tpC g3 c3 g4 c4)):=HK8.out
 clear hS9
 obtain ⟨z0,z1,z2,z3,z4⟩:=tp_facts HKK.out
 have HM2:Hid (∀ i,i≠12→∀ L w',SL (fun w'=>Row1 w' w.heap.size 40 (tpC g3 c3 g4 c4)∧Row1 w' g4 36 [.int .i64 0,.int .i64 0,.slice (some ⟨gt,0,none⟩) 1 ct]) 12 (L.setIfInBounds i true) w'↔SL (fun w'=>Row1 w' w.heap.size 40 (tpC g3 c3 g4 c4)∧Row1 w' g4 36 [.int .i64 0,.int .i64 0,.slice (some ⟨gt,0,none⟩) 1 ct]) 12 L w'):=SL.ind _ 12
 go_wp2_with fail
 refine wp_loop_rounds 2 ?_
 rw [rounds_succ]
 go_upto_region 5 with fail
 clear z0 z1 z2 z3 z4
 refine wp_region_L (S:=SL (fun w'=>Row1 w' w.heap.size 40 (tpC g3 c3 g4 c4)∧Row1 w' g4 36 [.int .i64 0,.int .i64 0,.slice (some ⟨gt,0,none⟩) 1 ct]) 12) (by kernel_rfl) (fun _=>⟨HKK.out.stay (Below.refl _ _).drew,HQ8.out.stay (Below.refl _ _).drew⟩) (fun hT0 => ?_)
 obtain ⟨wp,HWP⟩:∃ W,Hid (W=W8.drew):=⟨_,rfl⟩
 rw [← HWP.out] at hT0 ⊢
 have HXp:Hid (Below W8.heap.size W8 wp):=by (show Below _ _ _);rw [HWP.out];exact (Below.refl _ _).drew
 have HBp:Hid (Below w.heap.size w wp):=HB8.out.trans (HXp.out.mono HB8.out.size)
 have HQp:Hid (Row1 wp g4 36 [.int .i64 0,.int .i64 0,.slice (some ⟨gt,0,none⟩) 1 ct]):=HQ8.out.stay HXp.out
 have HKp:Hid (Row1 wp w.heap.size 40 (tpC g3 c3 g4 c4)):=HKK.out.stay HXp.out
 have HPp:Hid (Row1 wp g3 3 [.int .i64 0]):=HP8.out.stay HXp.out
 have HTp:Hid (Row1 wp gt 88 yesC):=HT8.out.stay HXp.out
 have HZp:Hid (Row1 wp (w.heap.size+1) 40 [.int .i64 0,.slice none 0 0,.slice none 0 0,.slice none 0 0,.slice none 0 0]):=HZ8.out.stay HXp.out
 refine tkL (i:=0) 12 (some 26) (v:=?_) hT0 (HM2.out 0 (by decide)) ?_ ?_
 rotate_left
 ·(intro wS hSw;(try obtain ⟨L,hL,hSL⟩:=hSw);obtain ⟨hA,hB⟩:=hSL hL;obtain ⟨z0,z1,z2,z3,z4⟩:=tp_facts hA;have y2:=hB.cell 2 rfl;clear hSL hA hB;go_simp;try with_reducible rfl)
 try simp only [Act.put,List.setIfInBounds_toArray,List.set_cons_zero,List.set_cons_succ]
 refine tkL (i:=1) 12 (some 27) (v:=?_) hT0 (HM2.out 1 (by decide)) ?_ ?_
 rotate_left
 ·(intro wS hSw;(try obtain ⟨L,hL,hSL⟩:=hSw);obtain ⟨hA,hB⟩:=hSL hL;obtain ⟨z0,z1,z2,z3,z4⟩:=tp_facts hA;have y2:=hB.cell 2 rfl;clear hSL hA hB;go_simp;try with_reducible rfl)
 try simp only [Act.put,List.setIfInBounds_toArray,List.set_cons_zero,List.set_cons_succ]
 refine tkL (i:=2) 12 (some 28) (v:=?_) hT0 (HM2.out 2 (by decide)) ?_ ?_
 rotate_left
 ·(intro wS hSw;(try obtain ⟨L,hL,hSL⟩:=hSw);obtain ⟨hA,hB⟩:=hSL hL;obtain ⟨z0,z1,z2,z3,z4⟩:=tp_facts hA;have y2:=hB.cell 2 rfl;clear hSL hA hB;go_simp;try with_reducible rfl)
 try simp only [Act.put,List.setIfInBounds_toArray,List.set_cons_zero,List.set_cons_succ]
 refine tkL (i:=3) 12 (some 29) (v:=?_) hT0 (HM2.out 3 (by decide)) ?_ ?_
 rotate_left
 ·(intro wS hSw;(try obtain ⟨L,hL,hSL⟩:=hSw);obtain ⟨hA,hB⟩:=hSL hL;obtain ⟨z0,z1,z2,z3,z4⟩:=tp_facts hA;have y2:=hB.cell 2 rfl;clear hSL hA hB;go_simp;try with_reducible rfl)
 try simp only [Act.put,List.setIfInBounds_toArray,List.set_cons_zero,List.set_cons_succ]
 refine tkL (i:=4) 12 (some 30) (v:=?_) hT0 (HM2.out 4 (by decide)) ?_ ?_
 rotate_left
 ·(intro wS hSw;(try obtain ⟨L,hL,hSL⟩:=hSw);obtain ⟨hA,hB⟩:=hSL hL;obtain ⟨z0,z1,z2,z3,z4⟩:=tp_facts hA;have y2:=hB.cell 2 rfl;clear hSL hA hB;go_simp;try with_reducible rfl)
 try simp only [Act.put,List.setIfInBounds_toArray,List.set_cons_zero,List.set_cons_succ]
 refine tkL (i:=5) 12 (some 31) (v:=?_) hT0 (HM2.out 5 (by decide)) ?_ ?_
 rotate_left
 ·(intro wS hSw;(try obtain ⟨L,hL,hSL⟩:=hSw);obtain ⟨hA,hB⟩:=hSL hL;obtain ⟨z0,z1,z2,z3,z4⟩:=tp_facts hA;have y2:=hB.cell 2 rfl;clear hSL hA hB;go_simp;try with_reducible rfl)
 try simp only [Act.put,List.setIfInBounds_toArray,List.set_cons_zero,List.set_cons_succ]
 refine tkL (i:=6) 12 (some 32) (v:=?_) hT0 (HM2.out 6 (by decide)) ?_ ?_
 rotate_left
 ·(intro wS hSw;(try obtain ⟨L,hL,hSL⟩:=hSw);obtain ⟨hA,hB⟩:=hSL hL;obtain ⟨z0,z1,z2,z3,z4⟩:=tp_facts hA;have y2:=hB.cell 2 rfl;clear hSL hA hB;go_simp;try with_reducible rfl)
 try simp only [Act.put,List.setIfInBounds_toArray,List.set_cons_zero,List.set_cons_succ]
 refine tkL (i:=7) 12 (some 33) (v:=?_) hT0 (HM2.out 7 (by decide)) ?_ ?_
 rotate_left
 ·(intro wS hSw;(try obtain ⟨L,hL,hSL⟩:=hSw);obtain ⟨hA,hB⟩:=hSL hL;obtain ⟨z0,z1,z2,z3,z4⟩:=tp_facts hA;have y2:=hB.cell 2 rfl;clear hSL hA hB;go_simp;try with_reducible rfl)
 try simp only [Act.put,List.setIfInBounds_toArray,List.set_cons_zero,List.set_cons_succ]
 refine tkL (i:=8) 12 (some 34) (v:=?_) hT0 (HM2.out 8 (by decide)) ?_ ?_
 rotate_left
 ·(intro wS hSw;(try obtain ⟨L,hL,hSL⟩:=hSw);obtain ⟨hA,hB⟩:=hSL hL;obtain ⟨z0,z1,z2,z3,z4⟩:=tp_facts hA;have y2:=hB.cell 2 rfl;clear hSL hA hB;go_simp;try with_reducible rfl)
 try simp only [Act.put,List.setIfInBounds_toArray,List.set_cons_zero,List.set_cons_succ]
 refine anyL_one (i:=9) (by kernel_rfl) rfl (fun K hK => ?_)
 go_simp
 refine (br_CloneTerm gt 1 ct yesC wp HTp.out rfl (by simp [yesC,Value.oneCell']) (by decide) (by decide)).mono ?_
 rintro e w9 ⟨⟨g6,c6,rfl,hc6,hg6,hr6⟩,hb9⟩
 have HK9:Hid (Row1 w9 w.heap.size 40 (tpC g3 c3 g4 c4)):=HKp.out.stay hb9
 have HQ9:Hid (Row1 w9 g4 36 [.int .i64 0,.int .i64 0,.slice (some ⟨gt,0,none⟩) 1 ct]):=HQp.out.stay hb9
 have HP9:Hid (Row1 w9 g3 3 [.int .i64 0]):=HPp.out.stay hb9
 have HZ9:Hid (Row1 w9 (w.heap.size+1) 40 [.int .i64 0,.slice none 0 0,.slice none 0 0,.slice none 0 0,.slice none 0 0]):=HZp.out.stay hb9
 have HB9:Hid (Below w.heap.size w w9):=HBp.out.trans (hb9.mono HBp.out.size)
 have HR9:Hid (Row1 w9 g6 88 yesC∧1≤c6∧wp.heap.size≤g6):=⟨hr6,hc6,hg6⟩
 clear hc6 hg6 hr6 hb9
 refine hK.out _ _ (fun _=>⟨HK9.out,HQ9.out⟩) (fun hT1 => ?_)
 clear hK K hT0
 try simp only [Act.put,List.getElem_toArray,List.getElem_cons_succ,List.getElem_cons_zero,List.setIfInBounds_toArray,List.set_cons_zero,List.set_cons_succ]
 refine tkL (i:=10) 11 (some 36) (v:=?_) hT1 (HM2.out 10 (by decide)) ?_ ?_
 rotate_left
 ·(intro wS hSw;(try obtain ⟨L,hL,hSL⟩:=hSw);skip;go_simp;try with_reducible rfl)
 try simp only [Act.put,List.setIfInBounds_toArray,List.set_cons_zero,List.set_cons_succ]
 refine tkL (i:=11) 12 (some 37) (v:=?_) hT1 (HM2.out 11 (by decide)) ?_ ?_
 rotate_left
 ·(intro wS hSw;(try obtain ⟨L,hL,hSL⟩:=hSw);skip;go_simp;try with_reducible rfl)
 try simp only [Act.put,List.setIfInBounds_toArray,List.set_cons_zero,List.set_cons_succ]
 obtain ⟨WA,HWA⟩:∃ W,Hid (W=w9.setCell ⟨g4,2,none⟩ (.slice (some ⟨g6,0,none⟩) 1 c6)):=⟨_,rfl⟩
 have HQA:Hid (Row1 WA g4 36 [.int .i64 0,.int .i64 0,.slice (some ⟨g6,0,none⟩) 1 c6]):=by (show Row1 _ _ _ _);rw [HWA.out];exact HQ9.out.set 2 _
 have HEA:Hid (∀ (g:Nat) (e:TypeId) (cs':List Value),Row1 w9 g e cs'→g≠g4→Row1 WA g e cs'):=fun g e cs' h hn=>by rw [HWA.out];exact h.other hn
 have HBA:Hid (Below w.heap.size w WA):=by (show Below _ _ _);rw [HWA.out];exact HB9.out.setCell (p:=⟨g4,2,none⟩) HN.out.2.2.2.2.1 _
 have zA:w9.cell? ⟨g4,2,none⟩=some (.slice (some ⟨gt,0,none⟩) 1 ct):=HQ9.out.cell 2 rfl
 have yA:w9.frozen? ⟨g4,2,none⟩=false:=HQ9.out.free _
 refine anyL_one (i:=12) (by kernel_rfl) rfl (fun K hK => ?_)
 go_simp
 rw [← HWA.out]
 clear zA yA
 refine hK.out _ _ SL.gone (fun hT2 => ?_)
 clear hK K hT1
 try simp only [Act.put,List.getElem_toArray,List.getElem_cons_succ,List.getElem_cons_zero,List.setIfInBounds_toArray,List.set_cons_zero,List.set_cons_succ]
 refine anyL_done (by kernel_rfl) ?_ _
 clear hT2
 have HG6:Hid (g6≠g4):=by (show _≠_);have:=HR9.out.2.2;have:=HQp.out.lt;omega
 have HKA:Hid (Row1 WA w.heap.size 40 (tpC g3 c3 g4 c4)):=HEA.out _ _ _ HK9.out (Ne.symm HN.out.2.1)
 have HPA:Hid (Row1 WA g3 3 [.int .i64 0]):=HEA.out _ _ _ HP9.out HN.out.2.2.2.2.2.2.2.2
 have HRA:Hid (Row1 WA g6 88 yesC):=HEA.out _ _ _ HR9.out.1 HG6.out
 have HZA:Hid (Row1 WA (w.heap.size+1) 40 [.int .i64 0,.slice none 0 0,.slice none 0 0,.slice none 0 0,.slice none 0 0]):=HEA.out _ _ _ HZ9.out (Ne.symm HN.out.2.2.2.2.2.2.2.1)
 obtain ⟨z0,z1,z2,z3,z4⟩:=tp_facts HKA.out
 have y0:WA.cell? ⟨w.heap.size+1,0,none⟩=some (.int .i64 0):=HZA.out.cell 0 rfl
 have y1:WA.cell? ⟨w.heap.size+1,1,none⟩=some (.slice none 0 0):=HZA.out.cell 1 rfl
 have y2:WA.cell? ⟨w.heap.size+1,2,none⟩=some (.slice none 0 0):=HZA.out.cell 2 rfl
 have y3:WA.cell? ⟨w.heap.size+1,3,none⟩=some (.slice none 0 0):=HZA.out.cell 3 rfl
 have y4:WA.cell? ⟨w.heap.size+1,4,none⟩=some (.slice none 0 0):=HZA.out.cell 4 rfl
 have q0:WA.frozen? ⟨w.heap.size+1,0,none⟩=false:=HZA.out.free _
 have q1:WA.frozen? ⟨w.heap.size+1,1,none⟩=false:=HZA.out.free _
 have q2:WA.frozen? ⟨w.heap.size+1,2,none⟩=false:=HZA.out.free _
 have q3:WA.frozen? ⟨w.heap.size+1,3,none⟩=false:=HZA.out.free _
 have q4:WA.frozen? ⟨w.heap.size+1,4,none⟩=false:=HZA.out.free _
 obtain ⟨WB,HWB⟩:∃ W,Hid (W=((((WA.setCell ⟨w.heap.size+1,0,none⟩ (.int .i64 1)).setCell ⟨w.heap.size+1,1,none⟩ (.slice none 0 0)).setCell ⟨w.heap.size+1,2,none⟩ (.slice (some ⟨g3,0,none⟩) 1 c3)).setCell ⟨w.heap.size+1,3,none⟩ (.slice (some ⟨g4,0,none⟩) 1 c4)).setCell ⟨w.heap.size+1,4,none⟩ (.slice none 0 0)):=⟨_,rfl⟩
 have HKB:Hid (Row1 WB (w.heap.size+1) 40 (tpC g3 c3 g4 c4)):=by (show Row1 _ _ _ _);rw [HWB.out];exact ((((HZA.out.set 0 _).set 1 _).set 2 _).set 3 _).set 4 _
 have HEB:Hid (∀ (g:Nat) (e:TypeId) (cs':List Value),Row1 WA g e cs'→g≠w.heap.size+1→Row1 WB g e cs'):=fun g e cs' h hn=>by rw [HWB.out];exact ((((h.other hn).other hn).other hn).other hn).other hn
 have HBB:Hid (Below w.heap.size w WB):=by
  (show Below _ _ _);rw [HWB.out]
  have hl:w.heap.size≤w.heap.size+1:=Nat.le_succ _
  exact ((((HBA.out.setCell (p:=⟨w.heap.size+1,0,none⟩) hl _).setCell (p:=⟨w.heap.size+1,1,none⟩) hl _).setCell (p:=⟨w.heap.size+1,2,none⟩) hl _).setCell (p:=⟨w.heap.size+1,3,none⟩) hl _).setCell (p:=⟨w.heap.size+1,4,none⟩) hl _
 have HN6:Hid (g6≠w.heap.size+1∧w.heap.size≤g6):=by (show _∧_);have:=HR9.out.2.2;have:=HZp.out.lt;omega
 have HFIN:Hid (Tpo WB g3 c3 g4 c4 g6 c6):=⟨HEB.out _ _ _ HPA.out HN.out.2.2.2.2.2.2.1,HEB.out _ _ _ HQA.out HN.out.2.2.2.2.2.2.2.1,HEB.out _ _ _ HRA.out HN6.out.1,HR3.out.2.1,HR4.out.2.1,HR9.out.2.1⟩
 go_wp2_with fail
 rw [rounds_succ]
 go_wp2
 rw [← HWB.out]
 refine bodyPost_ret (results_cloned rfl HKB.out rfl) rfl ?_
 exact ⟨⟨g3,c3,g4,c4,g6,c6,rfl,HFIN.out,HN.out.2.2.2.1,HN.out.2.2.2.2.1,HN6.out.2⟩,HBB.out⟩
end Go.Proofs.YtoiennkfdjnkbaaGreatDoor
