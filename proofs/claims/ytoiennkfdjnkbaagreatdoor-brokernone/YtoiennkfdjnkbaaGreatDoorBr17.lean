import Derived.Test.YtoiennkfdjnkbaaGreatDoorBr16
set_option maxRecDepth 100000
set_option maxHeartbeats 8000000
namespace Go.Proofs.YtoiennkfdjnkbaaGreatDoor
open Go.RowKit Go.Shelf Go.Maps
attribute [local go_sem] Oper.semAt_some
structure Fm (l:List TypeId) (p:Nat) (w w':World):Prop where
 size:w.heap.size≤w'.heap.size
 block:∀ (k:Nat) (cs:Array Value) (t:TypeId) (fr:Nat×Nat),w.heap[k]? = some (.cells cs t fr)→t ∉ l→w'.heap[k]? = some (.cells cs t fr)
 other:∀ (k:Nat) (o:Obj),w.heap[k]? = some o→NoC o→k≠p→w'.heap[k]? = some o
theorem Fm.of_fg {l:List TypeId} {p:Nat} {w w':World} (h:Fg l w w'):Fm l p w w':=⟨h.size,h.block,fun k o h0 h1 _=>h.other k o h0 h1⟩
theorem Fm.of_two {l:List TypeId} {w w':World} {mm n:Nat} {D:DataW Value} (h:Two mm mm w w') (hm:w.ownsMap Tryz.prog 3 heldV mm n D):Fm l mm w w':=⟨h.size,(Og.of_two h hm).block,fun k o h0 _ h2=>by rw [h.block k (heap_lt h0) h2 h2];exact h0⟩
theorem Fm.trans {l:List TypeId} {p:Nat} {w w1 w2:World} (h:Fm l p w w1) (h2:Fm l p w1 w2):Fm l p w w2:=⟨Nat.le_trans h.size h2.size,fun k cs t fr h0 a=>h2.block k cs t fr (h.block k cs t fr h0 a) a,fun k o h0 h1 h3=>h2.other k o (h.other k o h0 h1 h3) h1 h3⟩
theorem Fm.og {l:List TypeId} {p:Nat} {w w':World} (h:Fm l p w w'):Og l w w':=⟨h.size,h.block⟩
theorem owns_fm {l:List TypeId} {p:Nat} {w w':World} {m n:Nat} {D:DataW Value} (hm:w.ownsMap Tryz.prog 3 heldV m n D) (hf:Fm l p w w') (hp:m≠p):w'.ownsMap Tryz.prog 3 heldV m n D:=by
 obtain ⟨es,clock,hb,r⟩:=hm
 exact ⟨es,clock,hf.other m _ hb (fun _ _ _ e=>by cases e) hp,r⟩
theorem Cs.og {l:List TypeId} {w w':World} {gc g b m:Nat} (h:Cs w gc g b m) (hf:Og l w w') (he:228 ∉ l):Cs w' gc g b m:=hf.block gc _ _ _ h he
theorem Tpo.og {l:List TypeId} {w w':World} {gp cp gs cs gt ct:Nat} (h:Tpo w gp cp gs cs gt ct) (hf:Og l w w') (h1:3 ∉ l) (h2:36 ∉ l) (h3:88 ∉ l):Tpo w' gp cp gs cs gt ct:=⟨h.pubs.og hf h1,h.subs.og hf h2,h.terms.og hf h3,h.cp1,h.cs1,h.ct1⟩
theorem Stm.same0 {Z:Nat→Prop} {w w':World} {s m:Nat} (h:Stm Z w s m none 0 0 [] []) (hz:w.heap.size≤w'.heap.size) (hs:w'.heap[s]? = w.heap[s]?) (hm:w'.heap[m]? = w.heap[m]?):Stm Z w' s m none 0 0 [] [] :=
 ⟨hs.trans h.blk,⟨⟨rfl,.inl rfl⟩,Nat.le_refl _,Nat.zero_le _,trivial⟩,owns_same h.items hm,List.Pairwise.nil,fun ad e=>(by cases e),fun k hk=>h.zz k (Nat.le_trans hz hk)⟩
theorem Stm.fm0 {Z:Nat→Prop} {l:List TypeId} {p:Nat} {w w':World} {s m:Nat} (h:Stm Z w s m none 0 0 [] []) (hf:Fm l p w w') (hp:m≠p) (hl:184 ∉ l):Stm Z w' s m none 0 0 [] [] :=
 ⟨hf.block s _ _ _ h.blk hl,⟨⟨rfl,.inl rfl⟩,Nat.le_refl _,Nat.zero_le _,trivial⟩,owns_fm h.items hf hp,List.Pairwise.nil,fun ad e=>(by cases e),fun k hk=>h.zz k (Nat.le_trans hf.size hk)⟩
theorem br_open (base g gsd:Nat) (wv:Value) (D:Dk) (gb gp cp gs cs gt ct:Nat) (age:Int) (ml mp ms:Nat) (w:World) (hd:Disk w base g gsd wv D) (hn:D.sure.length=326) (hdn:D.down=false) (hr:(getB D 64 1 0).1=0) (hall:readAllF D (headsF D 64 4) 0 [] = ([],0,[])) (hone:(headsF D 64 4).length≤1) (hb:Row1 w gb 79 (broC gp cp gs cs g age ml mp ms)) (ht:Tpo w gp cp gs cs gt ct) (hm:w.ownsMap Tryz.prog 3 heldV mp 0 (mapD [])) (hbm:base≤mp) :
  Calls Tryz.prog 31 #[.pointer (some ⟨gb,0,none⟩),.int .i64 0] w fun e w'=>e=.returned (.int .i64 0)∧Hid (∃ q s m mr gl gcl uv rv mm gcm,(w.heap.size≤q∧w.heap.size≤s∧w.heap.size≤m∧w.heap.size≤gl∧w.heap.size≤mm∧w.heap.size≤gcm)∧Row1 w' q 100 (parC s mr 1 (.pointer (some ⟨gl,0,none⟩)) (.map (some mm)))∧Stm (fun k=>base≤k) w' s m none 0 0 [] [] ∧ Lg w' base g gsd wv D gl gcl 64 4 D.age [] uv 0 0 [] rv∧w'.ownsMap Tryz.prog 3 heldV mm 1 (mapD [(1,.agg #[.pointer (some ⟨gcm,0,none⟩),.int .i64 1])])∧Cs w' gcm g 32 16∧w'.ownsMap Tryz.prog 3 heldV mp 1 (mapD [(0,.pointer (some ⟨q,0,none⟩))])∧mm≠m∧m≠mp)∧Hid (Fm ohT mp w w')∧Below base w w':=by
 have HD:Hid (Disk w base g gsd wv D):=hd
 have HBR:Hid (Row1 w gb 79 (broC gp cp gs cs g age ml mp ms)):=hb
 have HTP0:Hid (Tpo w gp cp gs cs gt ct):=ht
 have HMP:Hid (w.ownsMap Tryz.prog 3 heldV mp 0 (mapD [])):=hm
 have HBS0:Hid (base≤w.heap.size∧base≤mp):=⟨Nat.le_trans hd.bg (Nat.le_of_lt hd.blk.lt),hbm⟩
 obtain ⟨W1,HW1⟩:∃ W,Hid (W=(w.alloc (.cells #[.pointer (some ⟨gb,0,none⟩)] 27)).alloc (.cells #[.int .i64 0] 3)):=⟨_,rfl⟩
 have hba:=below_alloc w (.cells #[.pointer (some ⟨gb,0,none⟩)] 27)
 have hbb:=below_alloc (w.alloc (.cells #[.pointer (some ⟨gb,0,none⟩)] 27)) (.cells #[.int .i64 0] 3)
 have HX1:Hid (Below w.heap.size w W1):=by (show Below _ _ _);rw [HW1.out];exact hba.trans (hbb.mono hba.size)
 have HK1:Hid (Row1 W1 w.heap.size 27 [.pointer (some ⟨gb,0,none⟩)]):=by (show Row1 _ _ _ _);rw [HW1.out];exact Row1.of ((Blk.new w _ _).stay hbb)
 have HJ1:Hid (Row1 W1 (w.heap.size+1) 3 [.int .i64 0]):=by
  (show Row1 _ _ _ _);rw [HW1.out]
  have h1:=Blk.new (w.alloc (.cells #[.pointer (some ⟨gb,0,none⟩)] 27)) #[.int .i64 0] 3
  exact Row1.of (by simpa using h1)
 have HS1:Hid (W1.heap.size=w.heap.size+2):=by (show _=_);rw [HW1.out];simp
 obtain ⟨W3,HW3⟩:∃ W,Hid (W=W1.alloc (.cells #[.int .i64 1,.slice none 0 0,.slice (some ⟨gp,0,none⟩) 1 cp,.slice (some ⟨gs,0,none⟩) 1 cs,.slice none 0 0] 40)):=⟨_,rfl⟩
 have HB3:Hid (Below W1.heap.size W1 W3):=by (show Below _ _ _);rw [HW3.out];exact below_alloc _ _
 have HX3:Hid (Below w.heap.size w W3):=HX1.out.trans (HB3.out.mono HX1.out.size)
 have HL3:Hid (Row1 W3 (w.heap.size+2) 40 (tpC gp cp gs cs)):=by
  (show Row1 _ _ _ _);rw [HW3.out,← HS1.out];exact Row1.of (Blk.new _ _ _)
 have HTP:Hid (Tpo W3 gp cp gs cs gt ct):=HTP0.out.stay HX3.out
 have HBS:Hid (base≤W3.heap.size):=Nat.le_trans HBS0.out.1 HX3.out.size
 have HBR3:Hid (Row1 W3 gb 79 (broC gp cp gs cs g age ml mp ms)):=HBR.out.stay HX3.out
 have HKJ3:Hid (Row1 W3 w.heap.size 27 [.pointer (some ⟨gb,0,none⟩)] ∧ Row1 W3 (w.heap.size+1) 3 [.int .i64 0]):=⟨HK1.out.stay HB3.out,HJ1.out.stay HB3.out⟩
 have HSK:Hid (∀ w':World,Below W3.heap.size W3 w'→w'.cell? ⟨w.heap.size,0,none⟩=some (.pointer (some ⟨gb,0,none⟩))∧w'.cell? ⟨w.heap.size+1,0,none⟩=some (.int .i64 0)∧w'.cell? ⟨w.heap.size+2,0,none⟩=some (.int .i64 1)∧w'.cell? ⟨w.heap.size+2,1,none⟩=some (.slice none 0 0)∧w'.cell? ⟨w.heap.size+2,2,none⟩=some (.slice (some ⟨gp,0,none⟩) 1 cp)∧w'.cell? ⟨w.heap.size+2,3,none⟩=some (.slice (some ⟨gs,0,none⟩) 1 cs)∧w'.cell? ⟨w.heap.size+2,4,none⟩=some (.slice none 0 0)∧w'.cell? ⟨gb,5,none⟩=some (.int .i64 0)):=fun w' hb=>by
  have h1:=HKJ3.out.1.stay hb;have h2:=HKJ3.out.2.stay hb;have h3:=HL3.out.stay hb;have h4:=HBR3.out.stay hb
  obtain ⟨t0,t1,t2,t3,t4⟩:=tp_facts h3
  exact ⟨h1.cell 0 rfl,h2.cell 0 rfl,t0,t1,t2,t3,t4,h4.cell 5 rfl⟩
 have HN:Hid (D.sure.length=326∧D.down=false∧(getB D 64 1 0).1=0∧readAllF D (headsF D 64 4) 0 [] = ([],0,[])∧(headsF D 64 4).length≤1):=⟨hn,hdn,hr,hall,hone⟩
 have a0:W1.cell? ⟨w.heap.size,0,none⟩=some (.pointer (some ⟨gb,0,none⟩)):=HK1.out.cell 0 rfl
 obtain ⟨b0,b1,b2,b3,b4⟩:=bro_topo (hb.stay HX1.out)
 clear hd hb ht hm hn hdn hr hall hone hba hbb hbm
 go_enter Tryz.func31,Tryz.ntmps31
 go_upto_region 1 with fail
 rw [← HW1.out]
 go_upto_region 2 with fail
 rw [HS1.out,← HW3.out]
 clear a0 b0 b1 b2 b3 b4
 go_cut [6] from 13 (fun v6 wx=>∃ q s m mr:Nat,v6=.pointer (some ⟨q,0,none⟩)∧Hid (W3.heap.size≤q∧W3.heap.size≤s∧W3.heap.size≤m)∧Hid (Row1 wx q 100 (parC s mr 0 (.pointer none) (.map none)))∧Hid (Stm (fun k=>base≤k) wx s m none 0 0 [] [])∧Hid (Below W3.heap.size W3 wx))
 case first =>
  rename_i hJ hM
  have HD0:Hid (Below W3.heap.size W3 W3.drew):=(Below.refl _ _).drew
  have HD1:Hid (Below W3.heap.size W3 (W3.alloc (.map #[] 0)).drew):=(below_alloc W3 (.map #[] 0)).drew
  have hmk:∀ W,(Instr.makeMap 96 none).run Tryz.prog W=.ok (.map (some W.heap.size)) (W.alloc (.map #[] 0)):=fun W=>run_makeMap _ W
  have s0:=HSK.out W3.drew HD0.out
  have s00:=HSK.out W3 (Below.refl _ _)
  go_region_held3 (fun w'=>w'.cell? ⟨w.heap.size,0,none⟩=some (.pointer (some ⟨gb,0,none⟩))∧w'.cell? ⟨w.heap.size+1,0,none⟩=some (.int .i64 0)∧w'.cell? ⟨w.heap.size+2,0,none⟩=some (.int .i64 1)∧w'.cell? ⟨w.heap.size+2,1,none⟩=some (.slice none 0 0)∧w'.cell? ⟨w.heap.size+2,2,none⟩=some (.slice (some ⟨gp,0,none⟩) 1 cp)∧w'.cell? ⟨w.heap.size+2,3,none⟩=some (.slice (some ⟨gs,0,none⟩) 1 cs)∧w'.cell? ⟨w.heap.size+2,4,none⟩=some (.slice none 0 0)∧w'.cell? ⟨gb,5,none⟩=some (.int .i64 0)) (((with_reducible refine HSK.out _ ?_);first | with_reducible exact HD0.out | with_reducible exact HD1.out | with_reducible exact HXa.out | with_reducible exact HXb.out | with_reducible exact HXc.out | with_reducible exact (HXa.out.trans ((below_alloc _ _).mono HXa.out.size)) | with_reducible exact (HXb.out.trans ((below_alloc _ _).mono HXb.out.size)) | with_reducible exact (HXc.out.trans ((below_alloc _ _).mono HXc.out.size)) | exact ((HXc.out.trans ((below_alloc _ _).mono HXc.out.size)).trans ((below_alloc _ _).mono (Nat.le_trans HXc.out.size (below_alloc _ _).size)))))
   (first
    | (go_at_call 77;first | (have hc:=st_New (Z:=fun k=>base≤k) W3.drew (fun k hk=>Nat.le_trans HBS.out (Nat.le_trans HD0.out.size hk));(with_reducible refine hc.mono ?_);clear hc;rintro e ya ⟨s1,m1,rfl,hs1,hlo,hba⟩;have HXa:Hid (Below W3.heap.size W3 ya):=HD0.out.trans (hba.mono HD0.out.size);have HSa:Hid (Stm (fun k=>base≤k) ya s1 m1 none 0 0 [] []):=hs1;have HLO:Hid (W3.heap.size≤s1∧W3.heap.size≤m1):=⟨Nat.le_trans HD0.out.size hlo.1,Nat.le_trans HD0.out.size hlo.2⟩;clear hs1 hlo hba) | (have hc:=st_New (Z:=fun k=>base≤k) (W3.alloc (.map #[] 0)).drew (fun k hk=>Nat.le_trans HBS.out (Nat.le_trans HD1.out.size hk));(with_reducible refine hc.mono ?_);clear hc;rintro e ya ⟨s1,m1,rfl,hs1,hlo,hba⟩;have HXa:Hid (Below W3.heap.size W3 ya):=HD1.out.trans (hba.mono HD1.out.size);have HSa:Hid (Stm (fun k=>base≤k) ya s1 m1 none 0 0 [] []):=hs1;have HLO:Hid (W3.heap.size≤s1∧W3.heap.size≤m1):=⟨Nat.le_trans HD1.out.size hlo.1,Nat.le_trans HD1.out.size hlo.2⟩;clear hs1 hlo hba))
    | (go_at_call 78;(fail_if_success (clear HSb));first | (have hc:=br_farther0 gp cp gs cs gt ct (-1) ya (HTP.out.stay HXa.out);unfold tpV at hc;(with_reducible refine hc.mono ?_);clear hc;rintro e yb ⟨rfl,hbx⟩;have HXb:Hid (Below W3.heap.size W3 yb):=HXa.out.trans (hbx.mono HXa.out.size);have HSb:Hid (Stm (fun k=>base≤k) yb s1 m1 none 0 0 [] []):=HSa.out.stay hbx;clear hbx) | (have hc:=br_farther0 gp cp gs cs gt ct (-1) (ya.alloc (.map #[] 0)) (HTP.out.stay (HXa.out.trans ((below_alloc ya (.map #[] 0)).mono HXa.out.size)));unfold tpV at hc;(with_reducible refine hc.mono ?_);clear hc;rintro e yb ⟨rfl,hbx⟩;have hbz:=below_alloc ya (.map #[] 0);have HXb:Hid (Below W3.heap.size W3 yb):=(HXa.out.trans (hbz.mono HXa.out.size)).trans (hbx.mono (Nat.le_trans HXa.out.size hbz.size));have HSb:Hid (Stm (fun k=>base≤k) yb s1 m1 none 0 0 [] []):=(HSa.out.stay hbz).stay hbx;clear hbx hbz))
    | (go_at_call 78;(fail_if_success (clear HSc));first | (have hc:=br_farther0 gp cp gs cs gt ct (1) yb (HTP.out.stay HXb.out);unfold tpV at hc;(with_reducible refine hc.mono ?_);clear hc;rintro e yc ⟨rfl,hbx⟩;have HXc:Hid (Below W3.heap.size W3 yc):=HXb.out.trans (hbx.mono HXb.out.size);have HSc:Hid (Stm (fun k=>base≤k) yc s1 m1 none 0 0 [] []):=HSb.out.stay hbx;clear hbx) | (have hc:=br_farther0 gp cp gs cs gt ct (1) (yb.alloc (.map #[] 0)) (HTP.out.stay (HXb.out.trans ((below_alloc yb (.map #[] 0)).mono HXb.out.size)));unfold tpV at hc;(with_reducible refine hc.mono ?_);clear hc;rintro e yc ⟨rfl,hbx⟩;have hbz:=below_alloc yb (.map #[] 0);have HXc:Hid (Below W3.heap.size W3 yc):=(HXb.out.trans (hbz.mono HXb.out.size)).trans (hbx.mono (Nat.le_trans HXb.out.size hbz.size));have HSc:Hid (Stm (fun k=>base≤k) yc s1 m1 none 0 0 [] []):=(HSb.out.stay hbz).stay hbx;clear hbx hbz)))
  all_goals
   refine hM _ _ ?_
   go_meet
   first
    | (refine ⟨_,s1,m1,_,rfl,⟨?_,HLO.out.1,HLO.out.2⟩,Row1.of (Blk.new yc _ _),HSc.out.stay (below_alloc _ _),HXc.out.trans ((below_alloc _ _).mono HXc.out.size)⟩;exact HXc.out.size)
    | (have hbz:=below_alloc yc (.map #[] 0);refine ⟨_,s1,m1,_,rfl,⟨?_,HLO.out.1,HLO.out.2⟩,(by have hk:=Blk.new (yc.alloc (.map #[] 0)) (parC s1 yc.heap.size 0 (.pointer none) (.map none)).toArray 100;rw [World.size_alloc] at hk;exact Row1.of hk),(HSc.out.stay hbz).stay (below_alloc _ _),(HXc.out.trans (hbz.mono HXc.out.size)).trans ((below_alloc _ _).mono (Nat.le_trans HXc.out.size hbz.size))⟩;exact Nat.le_trans HXc.out.size (Nat.le_succ _))
 case rest =>
 obtain ⟨q,s,m,mr,hv,hQ,hP,hS,hX⟩:=hcut
 obtain ⟨W4,hW4⟩:∃ W,W=wc:=⟨_,rfl⟩
 subst hW4
 subst hv
 have HQ:Hid (W3.heap.size≤q∧W3.heap.size≤s∧W3.heap.size≤m):=hQ
 have HP4:Hid (Row1 W4 q 100 (parC s mr 0 (.pointer none) (.map none))):=hP
 have HS4:Hid (Stm (fun k=>base≤k) W4 s m none 0 0 [] []):=hS
 have HX4:Hid (Below W3.heap.size W3 W4):=hX
 clear hQ hP hS hX
 have c3:W4.cell? ⟨q,3,none⟩=some (.slice none 0 0):=HP4.out.cell 3 rfl
 have HSK4:=HSK.out W4 HX4.out
 obtain ⟨a0,a1,a2,a3,a4,a5,a6,a7⟩:=HSK4
 have HSB:=br_subs2 gp cp gs cs 82 (.pointer (some ⟨w.heap.size+1,0,none⟩)) (.pointer (some ⟨w.heap.size,0,none⟩)) W4
 unfold tpV at HSB
 go_wp2_with fail
 refine wp_loop_rounds 1 ?_
 rw [rounds_succ]
 go_wp2_with fail
 refine HSB.mono ?_
 rintro e W5 ⟨rfl,hr1,hr2,hb5,hs5⟩
 clear HSB a0 a1 a2 a3 a4 a5 a6 a7 c3
 have HX5:Hid (Below W3.heap.size W3 W5):=HX4.out.trans (hb5.mono HX4.out.size)
 have HB45:Hid (Below W4.heap.size W4 W5):=hb5
 have HR5:Hid (Row1 W5 W4.heap.size 40 (tpC gp cp gs cs)∧Row1 W5 (W4.heap.size+1) 152 [.func (.func 82) #[] #[.pointer (some ⟨w.heap.size+1,0,none⟩),.pointer (some ⟨w.heap.size,0,none⟩)]] ∧ W5.heap.size=W4.heap.size+2):=⟨hr1,hr2,hs5⟩
 clear hr1 hr2 hb5 hs5
 have HTP5:Hid (Tpo W5 gp cp gs cs gt ct):=HTP.out.stay HX5.out
 have HBR5:Hid (Row1 W5 gb 79 (broC gp cp gs cs g age ml mp ms)):=HBR3.out.stay HX5.out
 have HKJ5:Hid (Row1 W5 w.heap.size 27 [.pointer (some ⟨gb,0,none⟩)] ∧ Row1 W5 (w.heap.size+1) 3 [.int .i64 0]):=⟨HKJ3.out.1.stay HX5.out,HKJ3.out.2.stay HX5.out⟩
 obtain ⟨K,HK⟩:∃ K:Nat→Prop,Hid (K=fun k=>k=W4.heap.size∨k=W4.heap.size+1∨k=gs∨k=gb∨k=w.heap.size∨k=w.heap.size+1):=⟨_,rfl⟩
 have HKL:Hid (∀ k,K k→k<W5.heap.size):=fun k hk=>by
  rw [HK.out] at hk
  have h1:=HTP5.out.subs.lt;have h2:=HBR5.out.lt;have h3:=HR5.out.2.2;have h4:=HKJ5.out.1.lt;have h5:=HKJ5.out.2.lt
  rcases hk with rfl | rfl | rfl | rfl | rfl | rfl <;> omega
 have HBO:=br_bitsOf K 136 #[.pointer (some ⟨W4.heap.size,0,none⟩),.pointer (some ⟨W4.heap.size+1,0,none⟩)] (fun _=>(0,0,gt,ct)) (fun _=>true) W5 HKL.out (enters_of Tryz.func136 (by kernel_rfl) rfl)
  (fun n hn=>subs_stops2 n hn K W4.heap.size (W4.heap.size+1) gs 1 cs (fun _=>(0,0,gt,ct)) 82 (.pointer (some ⟨w.heap.size+1,0,none⟩)) (.pointer (some ⟨w.heap.size,0,none⟩)) (fun _=>true) W5
   (by rw [HK.out];exact .inl rfl) (by rw [HK.out];exact .inr (.inl rfl)) (by rw [HK.out];exact .inr (.inr (.inl rfl))) HKL.out (HR5.out.1.cell 3 rfl) (HR5.out.2.1.cell 0 rfl) (by decide) (enters_of Tryz.func82 (by kernel_rfl) rfl)
   (fun j hj=>by
    obtain rfl:j=0:=by omega
    exact ⟨HTP5.out.subs.cell 0 rfl,HTP5.out.subs.cell 1 rfl,HTP5.out.subs.cell 2 rfl⟩)
   (fun j hj W hk=>br_askOpen gb (w.heap.size+1) w.heap.size gp cp gs cs g age ml mp ms 0 0 0 gt ct W (HBR5.out.kp hk (by rw [HK.out];exact .inr (.inr (.inr (.inl rfl))))) (HKJ5.out.2.kp hk (by rw [HK.out];exact .inr (.inr (.inr (.inr (.inr rfl)))))) (HKJ5.out.1.kp hk (by rw [HK.out];exact .inr (.inr (.inr (.inr (.inl rfl))))))))
 rw [show bitsF (asF (fun _=>true) 1 1)=1 from rfl] at HBO
 go_wp2_with fail
 refine HBO.mono ?_
 rintro e W6 ⟨rfl,hb6⟩
 clear HBO
 have HX6:Hid (Below W3.heap.size W3 W6):=HX5.out.trans (hb6.mono HX5.out.size)
 have HP6:Hid (Row1 W6 q 100 (parC s mr 0 (.pointer none) (.map none))):=(HP4.out.stay HB45.out).stay hb6
 have HS6:Hid (Stm (fun k=>base≤k) W6 s m none 0 0 [] []):=(HS4.out.stay HB45.out).stay hb6
 clear hb6
 obtain ⟨W7,HW7⟩:∃ W,Hid (W=W6.setCell ⟨q,5,none⟩ (.int .u32 1)):=⟨_,rfl⟩
 have HP7:Hid (Row1 W7 q 100 (parC s mr 1 (.pointer none) (.map none))):=by (show Row1 _ _ _ _);rw [HW7.out];exact HP6.out.set 5 _
 have HF67:Hid (Fg ohT W6 W7):=by (show Fg _ _ _);rw [HW7.out];exact Fg.set HP6.out (by decide) 5 _
 have HF7:Hid (Fg ohT W3 W7):=(Fg.of_below HX6.out).trans HF67.out
 have HX7:Hid (Below W3.heap.size W3 W7):=by (show Below _ _ _);rw [HW7.out];exact HX6.out.setCell (p:=⟨q,5,none⟩) HQ.out.1 _
 have HS7:Hid (Stm (fun k=>base≤k) W7 s m none 0 0 [] []):=HS6.out.fm0 (Fm.of_fg (p:=W7.heap.size) HF67.out) (Nat.ne_of_lt (Nat.lt_of_lt_of_le (owns_lt HS6.out.items) HF67.out.size)) (by decide)
 have c5:W6.cell? ⟨q,5,none⟩=some (.int .u32 0):=HP6.out.cell 5 rfl
 have f5:W6.frozen? ⟨q,5,none⟩=false:=HP6.out.free 5
 go_upto_region 9 with fail
 rw [← HW7.out]
 clear c5 f5
 have HMP3:Hid (W3.ownsMap Tryz.prog 3 heldV mp 0 (mapD [])):=owns_same HMP.out (HX3.out.block mp (owns_lt HMP.out))
 have HMP7:Hid (W7.ownsMap Tryz.prog 3 heldV mp 0 (mapD [])):=owns_fg HMP3.out HF7.out
 have hm7:=HMP7.out
 obtain ⟨w8,hrun,r1,r2⟩:=(hm7.drew).update tkeyed Tryz.underlying76 (by unfold maxLen;omega) (tkey_of (t:=0) (by omega)) (show heldV (.pointer (some ⟨q,0,none⟩))=some (.held (.pointer (some ⟨q,0,none⟩)),[]) from rfl)
 rw [mapD_put] at r1
 have HR8:Hid (w8.ownsMap Tryz.prog 3 heldV mp 1 (mapD [(0,.pointer (some ⟨q,0,none⟩))])):=r1
 have HG8:Hid ((W7.drew).grownBy w8 (some mp)):=r2
 clear r1 r2 hm7
 have HSK7:=HSK.out W7 HX7.out
 have HZ9:Hid (W7.drew.cell? ⟨w.heap.size,0,none⟩=some (.pointer (some ⟨gb,0,none⟩))∧W7.drew.cell? ⟨gb,9,none⟩=some (.map (some mp))∧W7.drew.cell? ⟨w.heap.size+1,0,none⟩=some (.int .i64 0)):=⟨HSK7.1,(HBR3.out.stay HX7.out).cell 9 rfl,HSK7.2.1⟩
 clear HSK7
 have HMM:Hid (∀ i,i≠6→∀ L w',SL (fun w'=>(w'.cell? ⟨w.heap.size,0,none⟩=some (.pointer (some ⟨gb,0,none⟩)))∧(w'.cell? ⟨gb,9,none⟩=some (.map (some mp)))∧(w'.cell? ⟨w.heap.size+1,0,none⟩=some (.int .i64 0))) 6 (L.setIfInBounds i true) w'↔SL (fun w'=>(w'.cell? ⟨w.heap.size,0,none⟩=some (.pointer (some ⟨gb,0,none⟩)))∧(w'.cell? ⟨gb,9,none⟩=some (.map (some mp)))∧(w'.cell? ⟨w.heap.size+1,0,none⟩=some (.int .i64 0))) 6 L w'):=SL.ind _ 6
 refine wp_region_L (S:=SL (fun w'=>(w'.cell? ⟨w.heap.size,0,none⟩=some (.pointer (some ⟨gb,0,none⟩)))∧(w'.cell? ⟨gb,9,none⟩=some (.map (some mp)))∧(w'.cell? ⟨w.heap.size+1,0,none⟩=some (.int .i64 0))) 6) (by kernel_rfl) (fun _=>HZ9.out) (fun hS0 => ?_)
 refine tkL (i:=0) 6 (some 58) (v:=?_) hS0 (HMM.out 0 (by decide)) ?_ ?_
 rotate_left
 ·(intro wS hSw;obtain ⟨L,hL,hSL⟩:=hSw;obtain ⟨y0,y1,y2⟩:=hSL hL;clear hSL;go_simp;try with_reducible rfl)
 try simp only [Act.put,List.setIfInBounds_toArray,List.set_cons_zero,List.set_cons_succ]
 refine tkL (i:=1) 6 (some 59) (v:=?_) hS0 (HMM.out 1 (by decide)) ?_ ?_
 rotate_left
 ·(intro wS hSw;obtain ⟨L,hL,hSL⟩:=hSw;obtain ⟨y0,y1,y2⟩:=hSL hL;clear hSL;go_simp;try with_reducible rfl)
 try simp only [Act.put,List.setIfInBounds_toArray,List.set_cons_zero,List.set_cons_succ]
 refine tkL (i:=2) 6 (some 60) (v:=?_) hS0 (HMM.out 2 (by decide)) ?_ ?_
 rotate_left
 ·(intro wS hSw;obtain ⟨L,hL,hSL⟩:=hSw;obtain ⟨y0,y1,y2⟩:=hSL hL;clear hSL;go_simp;try with_reducible rfl)
 try simp only [Act.put,List.setIfInBounds_toArray,List.set_cons_zero,List.set_cons_succ]
 refine tkL (i:=3) 6 (some 61) (v:=?_) hS0 (HMM.out 3 (by decide)) ?_ ?_
 rotate_left
 ·(intro wS hSw;obtain ⟨L,hL,hSL⟩:=hSw;obtain ⟨y0,y1,y2⟩:=hSL hL;clear hSL;go_simp;try with_reducible rfl)
 try simp only [Act.put,List.setIfInBounds_toArray,List.set_cons_zero,List.set_cons_succ]
 refine tkL (i:=4) 6 (some 62) (v:=?_) hS0 (HMM.out 4 (by decide)) ?_ ?_
 rotate_left
 ·(intro wS hSw;obtain ⟨L,hL,hSL⟩:=hSw;obtain ⟨y0,y1,y2⟩:=hSL hL;clear hSL;go_simp;try with_reducible rfl)
 try simp only [Act.put,List.setIfInBounds_toArray,List.set_cons_zero,List.set_cons_succ]
 refine tkL (i:=5) 6 (some 63) (v:=?_) hS0 (HMM.out 5 (by decide)) ?_ ?_
 rotate_left
 ·(intro wS hSw;obtain ⟨L,hL,hSL⟩:=hSw;obtain ⟨y0,y1,y2⟩:=hSL hL;clear hSL;go_simp;try with_reducible rfl)
 try simp only [Act.put,List.setIfInBounds_toArray,List.set_cons_zero,List.set_cons_succ]
 refine anyL_one (i:=6) (by kernel_rfl) rfl (fun K' hK => ?_)
 go_simp
 refine hK.out _ _ SL.gone (fun hS2 => ?_)
 clear hK K'
 try simp only [Act.put,List.getElem_toArray,List.getElem_cons_succ,List.getElem_cons_zero,List.setIfInBounds_toArray,List.set_cons_zero,List.set_cons_succ]
 refine anyL_done (by kernel_rfl) ?_ _
 have HT8:Hid (Two mp mp W7 w8):=(Two.of_below mp mp (Below.refl _ _).drew).trans ⟨HG8.out.os,HG8.out.tape,HG8.out.output,HG8.out.size,fun k hk h1 _=>HG8.out.block k hk (fun e=>h1 (Option.some.inj e))⟩
 have HF8:Hid (Fm ohT mp w w8):=((Fm.of_fg (Fg.of_below HX3.out)).trans (Fm.of_fg HF7.out)).trans (Fm.of_two HT8.out HMP7.out)
 have HF38:Hid (Fm ohT mp W3 w8):=(Fm.of_fg HF7.out).trans (Fm.of_two HT8.out HMP7.out)
 have HLTm:Hid (mp<w.heap.size∧w.heap.size≤W3.heap.size):=⟨owns_lt HMP.out,HX3.out.size⟩
 have HS8:Hid (Stm (fun k=>base≤k) w8 s m none 0 0 [] []):=HS7.out.fm0 (l:=ohT) (Fm.of_two HT8.out HMP7.out) (by have:=HLTm.out;have:=HQ.out;omega) (by decide)
 have HP8:Hid (Row1 w8 q 100 (parC s mr 1 (.pointer none) (.map none))):=HP7.out.og (Og.of_two (l:=[]) HT8.out HMP7.out) (by decide)
 have HX8:Hid (Below base w w8):=((HX3.out.trans (HX7.out.mono HX3.out.size)).mono HBS0.out.1).trans (Two.below (Below.refl _ _) HT8.out HBS0.out.2 HBS0.out.2 (Nat.le_trans HBS.out HX7.out.size))
 have HBR8:Hid (Row1 w8 gb 79 (broC gp cp gs cs g age ml mp ms)):=HBR3.out.og HF38.out.og (by decide)
 have HTP8:Hid (Tpo w8 gp cp gs cs gt ct):=HTP.out.og HF38.out.og (by decide) (by decide) (by decide)
 have HL8:=HL3.out.og HF38.out.og (by decide)
 obtain ⟨t0,t1,t2,t3,t4⟩:=tp_facts HL8
 have p0:w8.cell? ⟨gp,0,none⟩=some (.int .i64 0):=HTP8.out.pubs.cell 0 rfl
 have p1:w8.cell? ⟨w.heap.size,0,none⟩=some (.pointer (some ⟨gb,0,none⟩)):=(HKJ3.out.1.og HF38.out.og (by decide)).cell 0 rfl
 have p2:w8.cell? ⟨w.heap.size+1,0,none⟩=some (.int .i64 0):=(HKJ3.out.2.og HF38.out.og (by decide)).cell 0 rfl
 have p3:w8.cell? ⟨gb,5,none⟩=some (.int .i64 0):=HBR8.out.cell 5 rfl
 clear HL8 t0 t1 t3 t4
 go_wp2_with fail
 go_quiet (fail)
 generalize hnq:w8.drewN _=wN
 have HBN:Hid (Below w8.heap.size w8 wN):=by (show Below _ _ _);rw [← hnq];exact below_drewN (Below.refl _ _) _
 have HKN1:Hid (Row1 wN w.heap.size 27 [.pointer (some ⟨gb,0,none⟩)]):=(HKJ3.out.1.og HF38.out.og (by decide)).stay HBN.out
 clear hnq p0 p1 p2 p3 t2
 have HDN:Hid (Disk wN base g gsd wv D):=((((HD.out.stay HX3.out).stay HX6.out).og (by rw [HW7.out];exact (Fg.set HP6.out (by decide) 5 _).og)).og (Og.of_two HT8.out HMP7.out)).stay HBN.out
 have p1:wN.cell? ⟨w.heap.size,0,none⟩=some (.pointer (some ⟨gb,0,none⟩)):=HKN1.out.cell 0 rfl
 have HOH:=br_openHome base g gsd wv D gb gp cp gs cs gt ct age ml mp ms q s mr wN HDN.out HN.out.1 HN.out.2.1 HN.out.2.2.1 HN.out.2.2.2.1 HN.out.2.2.2.2 (HBR8.out.stay HBN.out) (HTP8.out.stay HBN.out) (HP8.out.stay HBN.out) (Nat.le_trans HBS.out HQ.out.1)
 go_wp2_with fail
 refine HOH.mono ?_
 rintro e wZ ⟨rfl,hz1,hz2,hz3⟩
 obtain ⟨gl,gcl,uv,rv,mm,gcm,⟨l1,l2,l3⟩,y1,y2,y3,y4⟩:=hz1.out
 have HE:Hid (∃ q s m mr gl gcl uv rv mm gcm,(w.heap.size≤q∧w.heap.size≤s∧w.heap.size≤m∧w.heap.size≤gl∧w.heap.size≤mm∧w.heap.size≤gcm)∧Row1 wZ q 100 (parC s mr 1 (.pointer (some ⟨gl,0,none⟩)) (.map (some mm)))∧Stm (fun k=>base≤k) wZ s m none 0 0 [] [] ∧ Lg wZ base g gsd wv D gl gcl 64 4 D.age [] uv 0 0 [] rv∧wZ.ownsMap Tryz.prog 3 heldV mm 1 (mapD [(1,.agg #[.pointer (some ⟨gcm,0,none⟩),.int .i64 1])])∧Cs wZ gcm g 32 16∧wZ.ownsMap Tryz.prog 3 heldV mp 1 (mapD [(0,.pointer (some ⟨q,0,none⟩))])∧mm≠m∧m≠mp):=by
  have g1:=HF8.out.size
  have g2:=HBN.out.size
  have g3:=HQ.out
  have g4:=HLTm.out
  have g5:=owns_lt HS8.out.items
  refine ⟨q,s,m,mr,gl,gcl,uv,rv,mm,gcm,⟨by omega,by omega,by omega,by omega,by omega,by omega⟩,y1,?_,y2,y3,y4,owns_fg (owns_same HR8.out (HBN.out.block mp (owns_lt HR8.out))) hz2.out,by omega,by omega⟩
  exact (HS8.out.stay HBN.out).fm0 (Fm.of_fg (p:=wZ.heap.size) hz2.out) (Nat.ne_of_lt (Nat.lt_of_lt_of_le (Nat.lt_of_lt_of_le g5 g2) hz2.out.size)) (by decide)
 have HFZ:Hid (Fm ohT mp w wZ):=(HF8.out.trans (Fm.of_fg (Fg.of_below HBN.out))).trans (Fm.of_fg hz2.out)
 have HXZ:Hid (Below base w wZ):=(HX8.out.trans (HBN.out.mono (Nat.le_trans HBS0.out.1 HF8.out.size))).trans hz3
 clear hz1 hz2 hz3 l1 l2 l3 y1 y2 y3 y4 HOH p1
 go_wp2
 go_returns
 exact ⟨rfl,HE.out,HFZ.out,HXZ.out⟩
end Go.Proofs.YtoiennkfdjnkbaaGreatDoor
