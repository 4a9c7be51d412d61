import Derived.Test.YtoiennkfdjnkbaaGreatDoorPk17
import Derived.Test.YtoiennkfdjnkbaaGreatDoorPk20
import Derived.Test.YtoiennkfdjnkbaaGreatDoorPk06
import Derived.Maps.OwnIn
set_option maxRecDepth 100000
set_option maxHeartbeats 8000000
namespace Go.Proofs.YtoiennkfdjnkbaaGreatDoor
section
open Go.RowKit Go.Shelf Go.Maps
attribute [local go_sem] Oper.semAt_some
theorem bro_topo {w:World} {gb gp cp gs cs g:Nat} {age:Int} {ml mp ms:Nat} (h:Row1 w gb 79 (broC gp cp gs cs g age ml mp ms)):w.cell? ⟨gb,0,none⟩=some (.int .i64 1)∧w.cell? ⟨gb,1,none⟩=some (.slice none 0 0)∧w.cell? ⟨gb,2,none⟩=some (.slice (some ⟨gp,0,none⟩) 1 cp)∧w.cell? ⟨gb,3,none⟩=some (.slice (some ⟨gs,0,none⟩) 1 cs)∧w.cell? ⟨gb,4,none⟩=some (.slice none 0 0):=⟨h.cell 0 rfl,h.cell 1 rfl,h.cell 2 rfl,h.cell 3 rfl,h.cell 4 rfl⟩
theorem br_here (gb gp cp gs cs g:Nat) (age:Int) (ml mp ms:Nat) (w:World) (hb:Row1 w gb 79 (broC gp cp gs cs g age ml mp ms)) :
  Calls Tryz.prog 57 #[.pointer (some ⟨gb,0,none⟩)] w fun e w'=>e=.returned (.func (.func 136) #[] #[.pointer (some ⟨w.heap.size+1,0,none⟩),.pointer (some ⟨w.heap.size+2,0,none⟩)])∧Row1 w' w.heap.size 27 [.pointer (some ⟨gb,0,none⟩)] ∧ Row1 w' (w.heap.size+1) 40 (tpC gp cp gs cs)∧Row1 w' (w.heap.size+2) 152 [.func (.func 122) #[] #[.pointer (some ⟨w.heap.size,0,none⟩)]] ∧ Below w.heap.size w w'∧w'.heap.size=w.heap.size+3:=by
 obtain ⟨W1,HW1⟩:∃ W,Hid (W=w.alloc (.cells #[.pointer (some ⟨gb,0,none⟩)] 27)):=⟨_,rfl⟩
 have HB1:Hid (Below w.heap.size w W1):=by (show Below _ _ _);rw [HW1.out];exact below_alloc _ _
 have HK1:Hid (Row1 W1 w.heap.size 27 [.pointer (some ⟨gb,0,none⟩)]):=by (show Row1 _ _ _ _);rw [HW1.out];exact Row1.of (Blk.new _ _ _)
 have HS1:Hid (W1.heap.size=w.heap.size+1):=by (show _=_);rw [HW1.out];simp
 have c0:W1.cell? ⟨w.heap.size,0,none⟩=some (.pointer (some ⟨gb,0,none⟩)):=HK1.out.cell 0 rfl
 obtain ⟨t0,t1,t2,t3,t4⟩:=bro_topo (hb.stay HB1.out)
 have HSB:=br_subs gp cp gs cs 122 (.pointer (some ⟨w.heap.size,0,none⟩)) W1
 unfold tpV at HSB
 clear hb
 go_enter Tryz.func57,Tryz.ntmps57
 go_upto_region 1 with fail
 rw [← HW1.out]
 go_wp2_with fail
 refine HSB.mono ?_
 rintro e W2 ⟨rfl,hr1,hr2,hb2,hs2⟩
 have HF:Hid (Row1 W2 w.heap.size 27 [.pointer (some ⟨gb,0,none⟩)] ∧ Row1 W2 (w.heap.size+1) 40 (tpC gp cp gs cs)∧Row1 W2 (w.heap.size+2) 152 [.func (.func 122) #[] #[.pointer (some ⟨w.heap.size,0,none⟩)]] ∧ Below w.heap.size w W2∧W2.heap.size=w.heap.size+3):=by
  rw [HS1.out] at hr1 hr2 hs2
  exact ⟨HK1.out.stay hb2,hr1,hr2,HB1.out.trans (hb2.mono HB1.out.size),hs2⟩
 clear hr1 hr2 hb2 hs2 HSB c0 t0 t1 t2 t3 t4
 go_wp2
 go_returns
 refine ⟨?_,HF.out⟩
 rw [HS1.out]
 rfl
theorem Row1.kp {K:Nat→Prop} {w w':World} {g:Nat} {e:TypeId} {cs:List Value} (h:Row1 w g e cs) (hk:Kp K w w') (hg:K g):Row1 w' g e cs:=by
 obtain ⟨cur,h1,h2⟩:=h
 exact ⟨cur,(hk.2 g hg).trans h1,h2⟩
theorem Row1.two {s m:Nat} {w w':World} {g:Nat} {e:TypeId} {cs:List Value} (h:Row1 w g e cs) (ht:Two s m w w') (h1:g≠s) (h2:g≠m):Row1 w' g e cs:=by
 obtain ⟨cur,h3,h4⟩:=h
 exact ⟨cur,(ht.block g h3.lt h1 h2).trans h3,h4⟩
theorem Row1.no_map {w:World} {g m n:Nat} {e:TypeId} {cs:List Value} {D:DataW Value} (h:Row1 w g e cs) (hm:w.ownsMap Tryz.prog 3 heldV m n D):g≠m:=by
 rintro rfl
 obtain ⟨cur,h1,_⟩:=h
 obtain ⟨es,clock,hb,_⟩:=hm
 have:=h1.symm.trans hb
 cases this
theorem owns_lt {w:World} {m n:Nat} {D:DataW Value} (hm:w.ownsMap Tryz.prog 3 heldV m n D):m<w.heap.size:=by
 obtain ⟨es,clock,hb,_⟩:=hm
 exact heap_lt hb
theorem owns_same {w w':World} {m n:Nat} {D:DataW Value} (hm:w.ownsMap Tryz.prog 3 heldV m n D) (h:w'.heap[m]? = w.heap[m]?):w'.ownsMap Tryz.prog 3 heldV m n D:=by
 obtain ⟨es,clock,hb,r⟩:=hm
 exact ⟨es,clock,h.trans hb,r⟩
def PlI (w W4:World) (ms gc:Nat) (pre:List (Fin 1)) (W:World):Prop:=Two ms ms W4 W∧(pre=[] → W.ownsMap Tryz.prog 3 heldV ms 0 (mapD []))∧(pre≠[] → ∃ gst,w.heap.size≤gst∧Row1 W gst 109 [.pointer (some ⟨gc,0,none⟩),.int .i64 1,.int .i64 0,.bool false,.int .i64 0,.int .i64 0] ∧ W.ownsMap Tryz.prog 3 heldV ms 1 (mapD [(1,.pointer (some ⟨gst,0,none⟩))]))
theorem PlI.own (w W4:World) (ms gc:Nat) (hms:ms<W4.heap.size):OwnFrom W4.heap.size (PlI w W4 ms gc):=fun s A B row hs hg hr=>by
 obtain ⟨h1,h2,h3⟩:=hs
 have hsm:B.heap[ms]? = A.heap[ms]?:=hg.block ms (Nat.lt_of_lt_of_le hms h1.size) (fun e=>by have:=(hr ms e.symm).1;omega)
 refine ⟨⟨hg.os.trans h1.os,hg.tape.trans h1.tape,hg.output.trans h1.output,Nat.le_trans h1.size hg.size,fun k hk a b=>(hg.block k (Nat.lt_of_lt_of_le hk h1.size) (fun e=>by have:=(hr k e.symm).1;omega)).trans (h1.block k hk a b)⟩,fun e=>owns_same (h2 e) hsm,fun e => ?_⟩
 obtain ⟨gst,a,b,c⟩:=h3 e
 exact ⟨gst,a,b.grown hg (fun r e2=>(hr r e2).2),owns_same c hsm⟩
theorem br_place (base g gsd:Nat) (wv:Value) (D:Dk) (gb gp cp gs cs gt ct:Nat) (age:Int) (ml mp ms:Nat) (w:World) (hd:Disk w base g gsd wv D) (hn:D.sure.length=326) (hb:Row1 w gb 79 (broC gp cp gs cs g age ml mp ms)) (ht:Tpo w gp cp gs cs gt ct) (hm:w.ownsMap Tryz.prog 3 heldV ms 0 (mapD [])) :
  Calls Tryz.prog 30 #[.pointer (some ⟨gb,0,none⟩)] w fun e w'=>e=.returned (.tuple #[])∧(∃ gc gst,w.heap.size≤gc∧w.heap.size≤gst∧Cs w' gc g 0 16∧Row1 w' gst 109 [.pointer (some ⟨gc,0,none⟩),.int .i64 1,.int .i64 0,.bool false,.int .i64 0,.int .i64 0] ∧ w'.ownsMap Tryz.prog 3 heldV ms 1 (mapD [(1,.pointer (some ⟨gst,0,none⟩))]))∧Two ms ms w w':=by
 have HD:Hid (Disk w base g gsd wv D):=hd
 have HBR:Hid (Row1 w gb 79 (broC gp cp gs cs g age ml mp ms)):=hb
 have HTP:Hid (Tpo w gp cp gs cs gt ct):=ht
 have HMP:Hid (w.ownsMap Tryz.prog 3 heldV ms 0 (mapD [])):=hm
 obtain ⟨W1,HW1⟩:∃ W,Hid (W=w.alloc (.cells #[.pointer (some ⟨gb,0,none⟩)] 27)):=⟨_,rfl⟩
 have HB1:Hid (Below w.heap.size w W1):=by (show Below _ _ _);rw [HW1.out];exact below_alloc _ _
 have HK1:Hid (Row1 W1 w.heap.size 27 [.pointer (some ⟨gb,0,none⟩)]):=by (show Row1 _ _ _ _);rw [HW1.out];exact Row1.of (Blk.new _ _ _)
 have c0:W1.cell? ⟨w.heap.size,0,none⟩=some (.pointer (some ⟨gb,0,none⟩)):=HK1.out.cell 0 rfl
 have c6:W1.cell? ⟨gb,6,none⟩=some (.pointer (some ⟨g,0,none⟩)):=(hb.stay HB1.out).cell 6 rfl
 have HMO:=mark_Open W1 base g gsd wv D 0 16 (hd.stay HB1.out)
 clear hd hb ht hm
 refine (callsIn_wide (n:=8)).1 ?_
 refine callsIn_of_wp_marks Tryz.func30 rfl trivial ?_ rfl
 simp only [Tryz.ntmps30,List.size_toArray,List.length_cons,List.length_nil,Nat.reduceAdd,Nat.reduceSub,Array.replicate_succ,Array.replicate_zero,List.push_toArray,List.append_toArray,List.nil_append,List.cons_append]
 gi_upto_region 1 with fail
 rw [← HW1.out]
 gi_wp2_with fail
 refine ⟨trivial,?_⟩
 gi_wp2_with fail
 refine (callsIn_wide.2 HMO).mono ?_
 rintro e W2 ⟨ht2,hb2⟩
 rcases ht2.out with ⟨hno,_⟩ | ⟨_,rfl,hc2⟩
 ·exact absurd (show mayC D.sure.length 0 16 from ⟨by omega,by omega,by omega⟩) hno
 have HB2:Hid (Below w.heap.size w W2):=HB1.out.trans (hb2.mono HB1.out.size)
 have HC2:Hid (Cs W2 W1.heap.size g 0 16):=hc2
 have HK2:Hid (Row1 W2 w.heap.size 27 [.pointer (some ⟨gb,0,none⟩)]):=HK1.out.stay hb2
 have HS1:Hid (w.heap.size<W1.heap.size∧W1.heap.size≤W2.heap.size):=⟨HK1.out.lt,hb2.size⟩
 clear ht2 hc2 hb2 HMO c0 c6
 obtain ⟨W3,HW3⟩:∃ W,Hid (W=W2.alloc (.cells #[.pointer (some ⟨W1.heap.size,0,none⟩)] 107)):=⟨_,rfl⟩
 have HB3:Hid (Below W2.heap.size W2 W3):=by (show Below _ _ _);rw [HW3.out];exact below_alloc _ _
 have HX3:Hid (Below w.heap.size w W3):=HB2.out.trans (HB3.out.mono HB2.out.size)
 have HK3:Hid (Row1 W3 W2.heap.size 107 [.pointer (some ⟨W1.heap.size,0,none⟩)]):=by (show Row1 _ _ _ _);rw [HW3.out];exact Row1.of (Blk.new _ _ _)
 have HK3b:Hid (Row1 W3 w.heap.size 27 [.pointer (some ⟨gb,0,none⟩)]):=HK2.out.stay HB3.out
 have HC3:Hid (Cs W3 W1.heap.size g 0 16):=HC2.out.stay HB3.out
 have c3:W3.cell? ⟨w.heap.size,0,none⟩=some (.pointer (some ⟨gb,0,none⟩)):=HK3b.out.cell 0 rfl
 have HHR:=br_here gb gp cp gs cs g age ml mp ms W3 (HBR.out.stay HX3.out)
 gi_upto_region 2 with fail
 rw [← HW3.out]
 gi_wp2_with fail
 refine ⟨trivial,?_⟩
 gi_wp2_with fail
 refine (callsIn_wide.2 HHR).mono ?_
 rintro e W4 ⟨rfl,hx4,ht4,hf4,hb4,hs4⟩
 clear HHR c3
 have HXX:Hid (Below w.heap.size w W4):=HX3.out.trans (hb4.mono HX3.out.size)
 have HSZ:Hid (W4.heap.size=W3.heap.size+3∧W3.heap.size=W2.heap.size+1∧w.heap.size<W2.heap.size):=⟨hs4,by rw [HW3.out];simp,by have:=HS1.out;omega⟩
 have HMS:Hid (ms<w.heap.size):=owns_lt HMP.out
 have HBR4:Hid (Row1 W4 gb 79 (broC gp cp gs cs g age ml mp ms)):=HBR.out.stay HXX.out
 have HTP4:Hid (Tpo W4 gp cp gs cs gt ct):=HTP.out.stay HXX.out
 have HMP4:Hid (W4.ownsMap Tryz.prog 3 heldV ms 0 (mapD [])):=owns_same HMP.out (HXX.out.block ms HMS.out)
 have HKB4:Hid (Row1 W4 w.heap.size 27 [.pointer (some ⟨gb,0,none⟩)] ∧ Row1 W4 W2.heap.size 107 [.pointer (some ⟨W1.heap.size,0,none⟩)] ∧ Cs W4 W1.heap.size g 0 16):=⟨HK3b.out.stay hb4,HK3.out.stay hb4,HC3.out.stay hb4⟩
 have HGB:Hid (gb<w.heap.size∧gs<w.heap.size):=⟨HBR.out.lt,HTP.out.subs.lt⟩
 obtain ⟨K,HK⟩:∃ K:Nat→Prop,Hid (K=fun k=>k=W3.heap.size+1∨k=W3.heap.size+2∨k=gs∨k=gb∨k=W3.heap.size):=⟨_,rfl⟩
 have HKL:Hid (∀ k,K k→k<W4.heap.size):=fun k hk=>by
  rw [HK.out] at hk
  have h1:=HSZ.out;have h2:=HGB.out
  rcases hk with rfl | rfl | rfl | rfl | rfl <;> omega
 have HKN:Hid (∀ k,K k→k≠ms):=fun k hk=>by
  rw [HK.out] at hk
  have h1:=HSZ.out;have h2:=HMS.out
  rcases hk with rfl | rfl | rfl | rfl | rfl
  ·omega
  ·omega
  ·exact HTP.out.subs.no_map HMP.out
  ·exact HBR.out.no_map HMP.out
  ·omega
 have hST:=subs_stops 7 (by decide) K (W3.heap.size+1) (W3.heap.size+2) gs 1 cs (fun _=>(0,0,gt,ct)) 122 (.pointer (some ⟨W3.heap.size,0,none⟩)) (fun _=>true) W4
  (by rw [HK.out];exact .inl rfl) (by rw [HK.out];exact .inr (.inl rfl)) (by rw [HK.out];exact .inr (.inr (.inl rfl))) HKL.out (ht4.cell 3 rfl) (hf4.cell 0 rfl) (by decide) (enters_of Tryz.func122 (by kernel_rfl) rfl)
  (fun j hj=>by
   obtain rfl:j=0:=by omega
   exact ⟨HTP4.out.subs.cell 0 rfl,HTP4.out.subs.cell 1 rfl,HTP4.out.subs.cell 2 rfl⟩)
  (fun j hj W hk=>by
   have h1:=br_askHere gb W3.heap.size gp cp gs cs g age ml mp ms 0 0 gt ct W (HBR4.out.kp hk (by rw [HK.out];exact .inr (.inr (.inr (.inl rfl))))) (hx4.kp hk (by rw [HK.out];exact .inr (.inr (.inr (.inr rfl)))))
   exact h1)
 have HST:Hid (SeqStopsK Fence.wide 7 Tryz.prog 136 #[.pointer (some ⟨W3.heap.size+1,0,none⟩),.pointer (some ⟨W3.heap.size+2,0,none⟩)] (encS (fun _=>(0,0,gt,ct)) 1) (Kp K) (fun xs=>xs=asF (fun _=>true) 1 1) (fun pre=>pre <+: asF (fun _=>true) 1 1) 1 W4):=hST
 have HF4:Hid (Row1 W4 W3.heap.size 27 [.pointer (some ⟨gb,0,none⟩)]):=hx4
 clear hx4 ht4 hf4 hb4 hs4 hST
 gi_wp2_with fail
 refine wpIn_rangeFunc_ownH rfl (by decide) (gf:=136) (lb:=#[.pointer (some ⟨W3.heap.size+1,0,none⟩),.pointer (some ⟨W3.heap.size+2,0,none⟩)]) rfl trivial (enters_of Tryz.func136 (by kernel_rfl) rfl) HST.out Kp.trans (fun W l o o' hl=>Kp.put HKL.out W l o o' hl) (Below.refl _ _) (fun _=>rfl)
  (PlI w W4 ms W1.heap.size) (fun _ _ _=>False) (PlI.own w W4 ms W1.heap.size (Nat.lt_of_lt_of_le HMS.out HXX.out.size)) (fun _ _ _ _ _ hs _ _=>hs)
  ⟨Two.refl _ _ _,fun _=>HMP4.out,fun h=>absurd rfl h⟩
  (fun (x:Fin 1) a' W=>∃ Bx,W4.heap.size≤Bx∧Row1 W Bx 36 [.int .i64 0,.int .i64 0,.slice (some ⟨gt,0,none⟩) 1 ct] ∧ a'={ tmps:=#[.pointer (some ⟨gb,0,none⟩),.pointer (some ⟨w.heap.size,0,none⟩),.pointer (some ⟨W2.heap.size,0,none⟩),.int .i64 0,.int .i64 1,.pointer (some ⟨Bx,0,none⟩),.tuple #[.pointer (some ⟨W1.heap.size,0,none⟩),.int .i64 0],.pointer (some ⟨gb,0,none⟩),.pointer (some ⟨gb,0,none⟩),.pointer (some ⟨gb,6,none⟩),.pointer (some ⟨g,0,none⟩),.tuple #[.pointer (some ⟨W1.heap.size,0,none⟩),.int .i64 0],.pointer (some ⟨W1.heap.size,0,none⟩),.int .i64 0,.pointer (some ⟨gb,0,none⟩),.func (.func 136) #[] #[.pointer (some ⟨W3.heap.size+1,0,none⟩),.pointer (some ⟨W3.heap.size+2,0,none⟩)],.int .i64 1,.agg #[.int .i64 0,.int .i64 0,.slice (some ⟨gt,0,none⟩) 1 ct],undef,undef,undef,undef,undef,undef,undef,undef,undef,undef,undef],defers:=[] })
  (fun x a' s A B row hs hg hr=>by
   obtain ⟨Bx,h1,h2,h3⟩:=hs
   exact ⟨Bx,h1,h2.grown hg (fun r e2=>(hr r e2).2),h3⟩) ?assign ?body ?done ?stop
 case assign =>
  intro l pre x W K' hi hK'
  obtain rfl:x=0:=Subsingleton.elim _ _
  have HI:Hid (PlI w W4 ms W1.heap.size pre W):=hi
  have HK':Hid (∀ a' W',KeepsFrom W4.heap.size W W'→Kp K W W'→PlI w W4 ms W1.heap.size pre W'→(∃ Bx,W4.heap.size≤Bx∧Row1 W' Bx 36 [.int .i64 0,.int .i64 0,.slice (some ⟨gt,0,none⟩) 1 ct] ∧ a'={ tmps:=#[.pointer (some ⟨gb,0,none⟩),.pointer (some ⟨w.heap.size,0,none⟩),.pointer (some ⟨W2.heap.size,0,none⟩),.int .i64 0,.int .i64 1,.pointer (some ⟨Bx,0,none⟩),.tuple #[.pointer (some ⟨W1.heap.size,0,none⟩),.int .i64 0],.pointer (some ⟨gb,0,none⟩),.pointer (some ⟨gb,0,none⟩),.pointer (some ⟨gb,6,none⟩),.pointer (some ⟨g,0,none⟩),.tuple #[.pointer (some ⟨W1.heap.size,0,none⟩),.int .i64 0],.pointer (some ⟨W1.heap.size,0,none⟩),.int .i64 0,.pointer (some ⟨gb,0,none⟩),.func (.func 136) #[] #[.pointer (some ⟨W3.heap.size+1,0,none⟩),.pointer (some ⟨W3.heap.size+2,0,none⟩)],.int .i64 1,.agg #[.int .i64 0,.int .i64 0,.slice (some ⟨gt,0,none⟩) 1 ct],undef,undef,undef,undef,undef,undef,undef,undef,undef,undef,undef],defers:=[] })→K' a' W'):=hK'
  clear hi hK'
  unfold encS
  gi_wp2
  refine HK'.out _ _ ((KeepsOthers.alloc _ _).from _) (Kp.of_below (fun k hk=>Nat.lt_of_lt_of_le (HKL.out k hk) HI.out.1.size) (below_alloc _ _)) ((PlI.own w W4 ms W1.heap.size (Nat.lt_of_lt_of_le HMS.out HXX.out.size)).alloc _ HI.out) ⟨W.heap.size,HI.out.1.size,Row1.of (Blk.new _ _ _),?_⟩
  simp
 case body =>
  rintro l pre x a' W hl ⟨r,hr⟩ hi ⟨Bx,hBx,hX,rfl⟩ hlt
  obtain rfl:pre=[]:=List.eq_nil_of_length_eq_zero (by omega)
  obtain rfl:x=0:=Subsingleton.elim _ _
  have HI:Hid (PlI w W4 ms W1.heap.size [] W):=hi
  have hm0:=hi.2.1 rfl
  have z0:W.cell? ⟨w.heap.size,0,none⟩=some (.pointer (some ⟨gb,0,none⟩)):=(HKB4.out.1.two hi.1 (by have:=HMS.out;omega) (by have:=HMS.out;omega)).cell 0 rfl
  have z1:W.cell? ⟨gb,10,none⟩=some (.map (some ms)):=(HBR4.out.two hi.1 (HBR.out.no_map HMP.out) (HBR.out.no_map HMP.out)).cell 10 rfl
  have z2:W.cell? ⟨W2.heap.size,0,none⟩=some (.pointer (some ⟨W1.heap.size,0,none⟩)):=(HKB4.out.2.1.two hi.1 (by have:=HMS.out;have:=HSZ.out;omega) (by have:=HMS.out;have:=HSZ.out;omega)).cell 0 rfl
  have z3:W.cell? ⟨Bx,1,none⟩=some (.int .i64 0):=hX.cell 1 rfl
  obtain ⟨w5,hrun,r1,r2⟩:=((hm0.alloc (.cells #[.pointer (some ⟨W1.heap.size,0,none⟩),.int .i64 1,.int .i64 0,.bool false,.int .i64 0,.int .i64 0] 109)).drew).update tkeyed Tryz.underlying77 (by unfold maxLen;omega) (tkey_of (t:=1) (by omega)) (show heldV (.pointer (some ⟨W.heap.size,0,none⟩))=some (.held (.pointer (some ⟨W.heap.size,0,none⟩)),[]) from rfl)
  rw [mapD_put] at r1
  have HR5:Hid (w5.ownsMap Tryz.prog 3 heldV ms 1 (mapD [(1,.pointer (some ⟨W.heap.size,0,none⟩))])):=r1
  have HG5:Hid (((W.alloc (.cells #[.pointer (some ⟨W1.heap.size,0,none⟩),.int .i64 1,.int .i64 0,.bool false,.int .i64 0,.int .i64 0] 109)).drew).grownBy w5 (some ms)):=r2
  have hmx:Tryz.prog.follows .mixedOrders=true:=by kernel_rfl
  clear hi hm0 r1 r2 hr
  have HZ:Hid (W.cell? ⟨w.heap.size,0,none⟩=some (.pointer (some ⟨gb,0,none⟩))∧W.cell? ⟨gb,10,none⟩=some (.map (some ms))∧W.cell? ⟨W2.heap.size,0,none⟩=some (.pointer (some ⟨W1.heap.size,0,none⟩))∧W.cell? ⟨Bx,1,none⟩=some (.int .i64 0)):=⟨z0,z1,z2,z3⟩
  have HMM:Hid (∀ i,i≠11→∀ L w',SL (fun w'=>w'.cell? ⟨w.heap.size,0,none⟩=some (.pointer (some ⟨gb,0,none⟩))∧w'.cell? ⟨gb,10,none⟩=some (.map (some ms))∧w'.cell? ⟨W2.heap.size,0,none⟩=some (.pointer (some ⟨W1.heap.size,0,none⟩))∧w'.cell? ⟨Bx,1,none⟩=some (.int .i64 0)) 11 (L.setIfInBounds i true) w'↔SL (fun w'=>w'.cell? ⟨w.heap.size,0,none⟩=some (.pointer (some ⟨gb,0,none⟩))∧w'.cell? ⟨gb,10,none⟩=some (.map (some ms))∧w'.cell? ⟨W2.heap.size,0,none⟩=some (.pointer (some ⟨W1.heap.size,0,none⟩))∧w'.cell? ⟨Bx,1,none⟩=some (.int .i64 0)) 11 L w'):=SL.ind _ 11
  have HWL:Hid (∀ k i,k<W.heap.size→((W.alloc (.cells #[.pointer (some ⟨W1.heap.size,0,none⟩),.int .i64 1,.int .i64 0,.bool false,.int .i64 0,.int .i64 0] 109)).drew).cell? ⟨k,i,none⟩=W.cell? ⟨k,i,none⟩):=fun k i hk=>World.cell?_of_block ((below_alloc W _).drew.block k hk)
  have HLT:Hid (w.heap.size<W.heap.size∧gb<W.heap.size∧W2.heap.size<W.heap.size∧Bx<W.heap.size):=by
   (show _∧_∧_∧_)
   have a1:=HI.out.1.size;have a2:=HSZ.out;have a3:=HGB.out;have a4:=HXX.out.size
   exact ⟨by omega,by omega,by omega,hX.lt⟩
  clear z0 z1 z2 z3 hX
  gi_wp2_with fail
  refine wp_region_R (S:=SL (fun w'=>w'.cell? ⟨w.heap.size,0,none⟩=some (.pointer (some ⟨gb,0,none⟩))∧w'.cell? ⟨gb,10,none⟩=some (.map (some ms))∧w'.cell? ⟨W2.heap.size,0,none⟩=some (.pointer (some ⟨W1.heap.size,0,none⟩))∧w'.cell? ⟨Bx,1,none⟩=some (.int .i64 0)) 11) hmx (by kernel_rfl) (fun h=>by obtain ⟨_,_,h⟩:=h;exact h) (fun _=>HZ.out) (fun hS0 => ?_)
  refine tkL (i:=0) 11 (some 18) (v:=?_) hS0 (HMM.out 0 (by decide)) ?_ ?_
  rotate_left
  ·(intro wS hSw;obtain ⟨L,hL,hSL⟩:=hSw;obtain ⟨y0,y1,y2,y3⟩:=hSL hL;clear hSL;go_simp;try with_reducible rfl)
  try simp only [Act.put,List.setIfInBounds_toArray,List.set_cons_zero,List.set_cons_succ]
  refine tkL (i:=1) 11 (some 19) (v:=?_) hS0 (HMM.out 1 (by decide)) ?_ ?_
  rotate_left
  ·(intro wS hSw;obtain ⟨L,hL,hSL⟩:=hSw;obtain ⟨y0,y1,y2,y3⟩:=hSL hL;clear hSL;go_simp;try with_reducible rfl)
  try simp only [Act.put,List.setIfInBounds_toArray,List.set_cons_zero,List.set_cons_succ]
  refine tkL (i:=2) 11 (some 20) (v:=?_) hS0 (HMM.out 2 (by decide)) ?_ ?_
  rotate_left
  ·(intro wS hSw;obtain ⟨L,hL,hSL⟩:=hSw;obtain ⟨y0,y1,y2,y3⟩:=hSL hL;clear hSL;go_simp;try with_reducible rfl)
  try simp only [Act.put,List.setIfInBounds_toArray,List.set_cons_zero,List.set_cons_succ]
  refine tkL (i:=3) 11 (some 21) (v:=?_) hS0 (HMM.out 3 (by decide)) ?_ ?_
  rotate_left
  ·(intro wS hSw;obtain ⟨L,hL,hSL⟩:=hSw;obtain ⟨y0,y1,y2,y3⟩:=hSL hL;clear hSL;go_simp;try with_reducible rfl)
  try simp only [Act.put,List.setIfInBounds_toArray,List.set_cons_zero,List.set_cons_succ]
  refine tkL (i:=4) 11 (some 22) (v:=?_) hS0 (HMM.out 4 (by decide)) ?_ ?_
  rotate_left
  ·(intro wS hSw;obtain ⟨L,hL,hSL⟩:=hSw;obtain ⟨y0,y1,y2,y3⟩:=hSL hL;clear hSL;go_simp;try with_reducible rfl)
  try simp only [Act.put,List.setIfInBounds_toArray,List.set_cons_zero,List.set_cons_succ]
  refine tkL (i:=5) 11 (some 23) (v:=?_) hS0 (HMM.out 5 (by decide)) ?_ ?_
  rotate_left
  ·(intro wS hSw;obtain ⟨L,hL,hSL⟩:=hSw;obtain ⟨y0,y1,y2,y3⟩:=hSL hL;clear hSL;go_simp;try with_reducible rfl)
  try simp only [Act.put,List.setIfInBounds_toArray,List.set_cons_zero,List.set_cons_succ]
  refine tkL (i:=6) 11 (some 24) (v:=?_) hS0 (HMM.out 6 (by decide)) ?_ ?_
  rotate_left
  ·(intro wS hSw;obtain ⟨L,hL,hSL⟩:=hSw;obtain ⟨y0,y1,y2,y3⟩:=hSL hL;clear hSL;go_simp;try with_reducible rfl)
  try simp only [Act.put,List.setIfInBounds_toArray,List.set_cons_zero,List.set_cons_succ]
  refine tkL (i:=7) 11 (some 25) (v:=?_) hS0 (HMM.out 7 (by decide)) ?_ ?_
  rotate_left
  ·(intro wS hSw;obtain ⟨L,hL,hSL⟩:=hSw;obtain ⟨y0,y1,y2,y3⟩:=hSL hL;clear hSL;go_simp;try with_reducible rfl)
  try simp only [Act.put,List.setIfInBounds_toArray,List.set_cons_zero,List.set_cons_succ]
  refine tkL (i:=8) 11 (some 26) (v:=?_) hS0 (HMM.out 8 (by decide)) ?_ ?_
  rotate_left
  ·(intro wS hSw;obtain ⟨L,hL,hSL⟩:=hSw;obtain ⟨y0,y1,y2,y3⟩:=hSL hL;clear hSL;go_simp;try with_reducible rfl)
  try simp only [Act.put,List.setIfInBounds_toArray,List.set_cons_zero,List.set_cons_succ]
  refine tkL (i:=9) 11 (some 27) (v:=?_) hS0 (HMM.out 9 (by decide)) ?_ ?_
  rotate_left
  ·(intro wS hSw;obtain ⟨L,hL,hSL⟩:=hSw;obtain ⟨y0,y1,y2,y3⟩:=hSL hL;clear hSL;go_simp;try with_reducible rfl)
  try simp only [Act.put,List.setIfInBounds_toArray,List.set_cons_zero,List.set_cons_succ]
  refine anyL_one (i:=10) (by kernel_rfl) rfl (fun K' hK => ?_)
  go_simp
  refine hK.out _ _ (fun _=>⟨(HWL.out _ 0 HLT.out.1).trans HZ.out.1,(HWL.out _ 10 HLT.out.2.1).trans HZ.out.2.1,(HWL.out _ 0 HLT.out.2.2.1).trans HZ.out.2.2.1,(HWL.out _ 1 HLT.out.2.2.2).trans HZ.out.2.2.2⟩) (fun hS1 => ?_)
  clear hK K' hS0
  try simp only [Act.put,List.getElem_toArray,List.getElem_cons_succ,List.getElem_cons_zero,List.setIfInBounds_toArray,List.set_cons_zero,List.set_cons_succ]
  refine anyL_one (i:=11) (by kernel_rfl) rfl (fun K' hK => ?_)
  go_simp
  refine hK.out _ _ SL.gone (fun hS2 => ?_)
  clear hK K'
  try simp only [Act.put,List.getElem_toArray,List.getElem_cons_succ,List.getElem_cons_zero,List.setIfInBounds_toArray,List.set_cons_zero,List.set_cons_succ]
  refine anyL_done (by kernel_rfl) ?_ _
  have HBA:Below W.heap.size W ((W.alloc (.cells #[.pointer (some ⟨W1.heap.size,0,none⟩),.int .i64 1,.int .i64 0,.bool false,.int .i64 0,.int .i64 0] 109)).drew):=(below_alloc _ _).drew
  have HT5:Two ms ms W w5:=(Two.of_below ms ms HBA).trans ⟨HG5.out.os,HG5.out.tape,HG5.out.output,HG5.out.size,fun k hk h1 _=>HG5.out.block k hk (fun e=>h1 (Option.some.inj e))⟩
  have HKW:∀ k,K k→k<W.heap.size:=fun k hk=>Nat.lt_of_lt_of_le (HKL.out k hk) HI.out.1.size
  have HRS:Row1 w5 W.heap.size 109 [.pointer (some ⟨W1.heap.size,0,none⟩),.int .i64 1,.int .i64 0,.bool false,.int .i64 0,.int .i64 0]:=Row1.two (s:=ms) (m:=ms) (g:=W.heap.size) (Row1.of ((Blk.new W _ _).stay (Below.refl _ _).drew)) ⟨HG5.out.os,HG5.out.tape,HG5.out.output,HG5.out.size,fun k hk h1 _=>HG5.out.block k hk (fun e=>h1 (Option.some.inj e))⟩ (by have:=HMS.out;have:=HXX.out.size;have:=HI.out.1.size;omega) (by have:=HMS.out;have:=HXX.out.size;have:=HI.out.1.size;omega)
  refine ⟨(((KeepsOthers.alloc _ _).from _).trans ((KeepsOthers.drew _).from _)).trans (KeepsFrom.of_grownBy HG5.out (fun j e=>by cases e;exact Nat.lt_of_lt_of_le HMS.out HXX.out.size)),⟨HT5.size,fun k hk=>HT5.block k (HKW k hk) (HKN.out k hk) (HKN.out k hk)⟩,HI.out.1.trans HT5,fun e=>(by cases e),fun _=>⟨W.heap.size,Nat.le_trans HXX.out.size HI.out.1.size,HRS,HR5.out⟩⟩
 case done =>
  rintro D xs W hD rfl hi hK
  have HI:Hid (PlI w W4 ms W1.heap.size (asF (fun _=>true) 1 1) W):=hi
  clear hi
  gi_wp2
  refine ⟨by simp,.inl ⟨_,_,rfl,run_takeDeferred hK,?_⟩⟩
  obtain ⟨h1,h2,h3⟩:=HI.out
  obtain ⟨gst,a1,a2,a3⟩:=h3 (by decide)
  have hDW:W4.heap.size≤D:=hD
  have hne:D≠ms:=by have:=HMS.out;have:=HXX.out.size;omega
  have hP:Two ms ms W4 (W.putObj D (.deferred none)):=⟨h1.os,h1.tape,h1.output,by simpa using h1.size,fun k hk e1 e2=>(World.putObj_heap_other (by omega)).trans (h1.block k hk e1 e2)⟩
  refine ⟨_,results_none rfl _ _ _,rfl,⟨W1.heap.size,gst,Nat.le_of_lt HS1.out.1,a1,((hP.block W1.heap.size (Blk.lt HKB4.out.2.2) (by have:=HMS.out;have:=HS1.out;omega) (by have:=HMS.out;have:=HS1.out;omega)).trans HKB4.out.2.2),a2.grown (grownBy_putObj' W D _) (fun r e=>by cases e;exact ⟨_,hK,rfl⟩),owns_same a3 (World.putObj_heap_other (Ne.symm hne))⟩,(Two.of_below ms ms HXX.out).trans hP⟩
 case stop =>
  rintro D c pre W _ _ h _
  exact h.elim
end
section
open Go.RowKit
theorem br_idxNil (fv:Value) (w:World):Calls Tryz.prog 183 #[.slice none 0 0,fv] w fun e w'=>e=.returned (.int .i64 (-1))∧w'=w:=by
 go_enter Tryz.func183,Tryz.ntmps183
 go_wp2_with fail
 refine wp_loop_rounds 1 ?_
 rw [rounds_succ]
 go_wp2
 go_returns
 exact ⟨rfl,rfl⟩
theorem br_deleteNil (fv:Value) (w:World):Calls Tryz.prog 132 #[.slice none 0 0,fv] w fun e w'=>e=.returned (.slice none 0 0)∧w'=w:=by
 have HI:=br_idxNil fv w
 go_enter Tryz.func132,Tryz.ntmps132
 go_wp2_with fail
 refine HI.mono ?_
 rintro e w0 ⟨rfl,hw⟩
 rw [hw]
 clear hw w0 HI
 go_wp2
 go_returns
 exact ⟨rfl,rfl⟩
theorem br_farther0 (gp cp gs cs gt ct:Nat) (by_:Int) (w:World) (h:Tpo w gp cp gs cs gt ct):Calls Tryz.prog 78 #[tpV gp cp gs cs,.int .i64 0,.int .i64 0,.int .i64 by_] w fun e w'=>e=.returned (.slice none 0 0)∧Below w.heap.size w w':=by
 have HT:Hid (Tpo w gp cp gs cs gt ct):=h
 obtain ⟨W1,HW1⟩:∃ W,Hid (W=((w.alloc (.cells #[.int .i64 1,.slice none 0 0,.slice (some ⟨gp,0,none⟩) 1 cp,.slice (some ⟨gs,0,none⟩) 1 cs,.slice none 0 0] 40)).alloc (.cells #[.int .i64 0] 3)).alloc (.cells #[.int .i64 by_] 3)):=⟨_,rfl⟩
 have hb1:=below_alloc w (.cells #[.int .i64 1,.slice none 0 0,.slice (some ⟨gp,0,none⟩) 1 cp,.slice (some ⟨gs,0,none⟩) 1 cs,.slice none 0 0] 40)
 have hb2:=below_alloc (w.alloc (.cells #[.int .i64 1,.slice none 0 0,.slice (some ⟨gp,0,none⟩) 1 cp,.slice (some ⟨gs,0,none⟩) 1 cs,.slice none 0 0] 40)) (.cells #[.int .i64 0] 3)
 have hb3:=below_alloc ((w.alloc (.cells #[.int .i64 1,.slice none 0 0,.slice (some ⟨gp,0,none⟩) 1 cp,.slice (some ⟨gs,0,none⟩) 1 cs,.slice none 0 0] 40)).alloc (.cells #[.int .i64 0] 3)) (.cells #[.int .i64 by_] 3)
 have HX1:Hid (Below w.heap.size w W1):=by (show Below _ _ _);rw [HW1.out];exact (hb1.trans (hb2.mono hb1.size)).trans (hb3.mono (Nat.le_trans hb1.size hb2.size))
 have HK1:Hid (Row1 W1 w.heap.size 40 (tpC gp cp gs cs)):=by (show Row1 _ _ _ _);rw [HW1.out];exact Row1.of (((Blk.new w _ _).stay hb2).stay hb3)
 have HK2:Hid (Row1 W1 (w.heap.size+1) 3 [.int .i64 0]):=by
  (show Row1 _ _ _ _);rw [HW1.out]
  have h1:=Blk.new (w.alloc (.cells #[.int .i64 1,.slice none 0 0,.slice (some ⟨gp,0,none⟩) 1 cp,.slice (some ⟨gs,0,none⟩) 1 cs,.slice none 0 0] 40)) #[.int .i64 0] 3
  have h2:=h1.stay hb3
  exact Row1.of (by simpa using h2)
 clear hb1 hb2 hb3 h
 obtain ⟨t0,t1,t2,t3,t4⟩:=tp_facts HK1.out
 have p0:W1.cell? ⟨w.heap.size+1,0,none⟩=some (.int .i64 0):=HK2.out.cell 0 rfl
 have HFR:=br_far0 gp cp gs cs gt ct W1 (HT.out.stay HX1.out)
 unfold tpV at HFR ⊢
 go_enter Tryz.func78,Tryz.ntmps78
 go_upto_region 1 with fail
 rw [← HW1.out]
 go_wp2_with fail
 refine HFR.mono ?_
 rintro e W2 ⟨rfl,hb2⟩
 have HX2:Hid (Below w.heap.size w W2):=HX1.out.trans (hb2.mono HX1.out.size)
 have HK3:Hid (Row1 W2 w.heap.size 40 (tpC gp cp gs cs)):=HK1.out.stay hb2
 clear hb2 HFR t0 t1 t2 t3 t4 p0
 obtain ⟨W3,HW3⟩:∃ W,Hid (W=W2.alloc (.cells #[.int .i64 0] 3)):=⟨_,rfl⟩
 have HB3:Hid (Below W2.heap.size W2 W3):=by (show Below _ _ _);rw [HW3.out];exact below_alloc _ _
 have HX3:Hid (Below w.heap.size w W3):=HX2.out.trans (HB3.out.mono HX2.out.size)
 have q0:W3.cell? ⟨W2.heap.size,0,none⟩=some (.int .i64 0):=by
  have h1:Row1 W3 W2.heap.size 3 [.int .i64 0]:=by rw [HW3.out];exact Row1.of (Blk.new _ _ _)
  exact h1.cell 0 rfl
 obtain ⟨t0,t1,t2,t3,t4⟩:=tp_facts (HK3.out.stay HB3.out)
 have HNB:=br_neighbours0 1 0 (.slice (some ⟨gp,0,none⟩) 1 cp) (.slice (some ⟨gs,0,none⟩) 1 cs) (.slice none 0 0) W3
 go_upto_region 2 with fail
 rw [← HW3.out]
 go_wp2_with fail
 refine HNB.mono ?_
 rintro e W4 ⟨rfl,hb4⟩
 have HX4:Hid (Below w.heap.size w W4):=HX3.out.trans (hb4.mono HX3.out.size)
 clear hb4 HNB t0 t1 t2 t3 t4 q0
 go_wp2_with fail
 refine (br_deleteNil _ W4).mono ?_
 rintro e w0 ⟨rfl,hw⟩
 rw [hw]
 clear hw w0
 go_wp2
 go_returns
 exact ⟨rfl,HX4.out⟩
end
end Go.Proofs.YtoiennkfdjnkbaaGreatDoor
