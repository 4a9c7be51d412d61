import Derived.Test.YtoiennkfdjnkbaaGreatDoorPk40
import Derived.Deep.RegionHeld3
set_option maxRecDepth 100000
set_option maxHeartbeats 8000000
namespace Go.Proofs.YtoiennkfdjnkbaaGreatDoor
open Go.RowKit Go.Shelf Go.Maps
attribute [local go_sem] Oper.semAt_some
structure Fg (l:List TypeId) (w w':World):Prop where
 size:w.heap.size≤w'.heap.size
 block:∀ (k:Nat) (cs:Array Value) (t:TypeId) (fr:Nat×Nat),w.heap[k]? = some (.cells cs t fr)→t ∉ l→w'.heap[k]? = some (.cells cs t fr)
 other:∀ (k:Nat) (o:Obj),w.heap[k]? = some o→NoC o→w'.heap[k]? = some o
theorem Fg.refl (l:List TypeId) (w:World):Fg l w w:=⟨Nat.le_refl _,fun _ _ _ _ h _=>h,fun _ _ h _=>h⟩
theorem Fg.trans {l:List TypeId} {w w1 w2:World} (h:Fg l w w1) (h2:Fg l w1 w2):Fg l w w2:=⟨Nat.le_trans h.size h2.size,fun k cs t fr h0 a=>h2.block k cs t fr (h.block k cs t fr h0 a) a,fun k o h0 h1=>h2.other k o (h.other k o h0 h1) h1⟩
theorem Fg.mono {l l2:List TypeId} {w w':World} (h:Fg l w w') (hs:∀ t∈l,t∈l2):Fg l2 w w':=⟨h.size,fun k cs t fr h0 a=>h.block k cs t fr h0 (fun b=>a (hs t b)),h.other⟩
theorem Fg.of_below {l:List TypeId} {w w':World} (h:Below w.heap.size w w'):Fg l w w':=⟨h.size,fun k _ _ _ h0 _=>by rw [h.block k (heap_lt h0)];exact h0,fun k _ h0 _=>by rw [h.block k (heap_lt h0)];exact h0⟩
def lgT:List TypeId:=[70,244,246,164,169,178]
theorem Fg.of_ft {w w':World} (h:Ft w w'):Fg lgT w w':=⟨h.size,fun k cs t fr h0 a=>by
  unfold lgT at a
  simp only [List.mem_cons,List.not_mem_nil,or_false,not_or] at a
  exact h.block k cs t fr h0 a.1 a.2.1 a.2.2.1 a.2.2.2.1 a.2.2.2.2.1 a.2.2.2.2.2,h.other⟩
theorem Fg.set {l:List TypeId} {w:World} {g:Nat} {e:TypeId} {cs:List Value} (h:Row1 w g e cs) (he:e∈l) (i:Nat) (v:Value):Fg l w (w.setCell ⟨g,i,none⟩ v):=by
 obtain ⟨cur,hb,_⟩:=h
 refine ⟨by rw [World.size_setCell];exact Nat.le_refl _,fun k cs t fr h0 a => ?_,fun k o h0 h1 => ?_⟩
 ·by_cases hk:k=g
  ·subst hk
   have:=h0.symm.trans hb
   cases this
   exact absurd he a
  ·rw [heap_setCell_other w ⟨g,i,none⟩ k v hk];exact h0
 ·by_cases hk:k=g
  ·subst hk
   exact absurd (Option.some.inj (h0.symm.trans hb)) (h1 _ _ _)
  ·rw [heap_setCell_other w ⟨g,i,none⟩ k v hk];exact h0
theorem Row1.fg {l:List TypeId} {w w':World} {g:Nat} {e:TypeId} {cs:List Value} (h:Row1 w g e cs) (hf:Fg l w w') (he:e ∉ l):Row1 w' g e cs:=by
 obtain ⟨cur,h1,h2⟩:=h
 exact ⟨cur,hf.block g cur e _ h1 he,h2⟩
theorem Cs.fg {l:List TypeId} {w w':World} {gc g b m:Nat} (h:Cs w gc g b m) (hf:Fg l w w') (he:228 ∉ l):Cs w' gc g b m:=hf.block gc _ _ _ h he
theorem owns_fg {l:List TypeId} {w w':World} {m n:Nat} {D:DataW Value} (hm:w.ownsMap Tryz.prog 3 heldV m n D) (hf:Fg l w w'):w'.ownsMap Tryz.prog 3 heldV m n D:=by
 obtain ⟨es,clock,hb,r⟩:=hm
 exact ⟨es,clock,hf.other m _ hb (fun _ _ _ e=>by cases e),r⟩
theorem Tpo.fg {l:List TypeId} {w w':World} {gp cp gs cs gt ct:Nat} (h:Tpo w gp cp gs cs gt ct) (hf:Fg l w w') (h1:3 ∉ l) (h2:36 ∉ l) (h3:88 ∉ l):Tpo w' gp cp gs cs gt ct:=⟨h.pubs.fg hf h1,h.subs.fg hf h2,h.terms.fg hf h3,h.cp1,h.cs1,h.ct1⟩
structure Og (l:List TypeId) (w w':World):Prop where
 size:w.heap.size≤w'.heap.size
 block:∀ (k:Nat) (cs:Array Value) (t:TypeId) (fr:Nat×Nat),w.heap[k]? = some (.cells cs t fr)→t ∉ l→w'.heap[k]? = some (.cells cs t fr)
theorem Fg.og {l:List TypeId} {w w':World} (h:Fg l w w'):Og l w w':=⟨h.size,h.block⟩
theorem Og.trans {l:List TypeId} {w w1 w2:World} (h:Og l w w1) (h2:Og l w1 w2):Og l w w2:=⟨Nat.le_trans h.size h2.size,fun k cs t fr h0 a=>h2.block k cs t fr (h.block k cs t fr h0 a) a⟩
theorem Og.of_two {l:List TypeId} {w w':World} {mm n:Nat} {D:DataW Value} (h:Two mm mm w w') (hm:w.ownsMap Tryz.prog 3 heldV mm n D):Og l w w':=⟨h.size,fun k cs t fr h0 _=>by
 have hk:k≠mm:=by
  rintro rfl
  obtain ⟨es,clock,hb,_⟩:=hm
  cases h0.symm.trans hb
 rw [h.block k (heap_lt h0) hk hk]
 exact h0⟩
theorem Fg.two {l:List TypeId} {w w1 w2:World} {mm n:Nat} {D:DataW Value} (h:Fg l w w1) (ht:Two mm mm w1 w2) (hw:w.heap.size≤mm) (hm:w1.ownsMap Tryz.prog 3 heldV mm n D):Fg l w w2:=⟨Nat.le_trans h.size ht.size,fun k cs t fr h0 a=>(Og.of_two (l:=l) ht hm).block k cs t fr (h.block k cs t fr h0 a) a,fun k o h0 h1=>by
 have hk:k≠mm:=by have:=heap_lt h0;omega
 have h2:=h.other k o h0 h1
 rw [ht.block k (heap_lt h2) hk hk]
 exact h2⟩
theorem cs_no_map {w:World} {gc g b m mm n:Nat} {D:DataW Value} (h:Cs w gc g b m) (hm:w.ownsMap Tryz.prog 3 heldV mm n D):gc≠mm:=by
 rintro rfl
 obtain ⟨es,clock,hb,_⟩:=hm
 have:=Eq.trans (Eq.symm h) hb
 cases this
theorem Fg.putD {l:List TypeId} {w W:World} {D:Nat} {x:Option (List Deferred)} {o:Obj} (h:Fg l w W) (hD:w.heap.size≤D) (hK:W.heap[D]? = some (.deferred x)):Fg l w (W.putObj D o):=⟨by simpa using h.size,fun k cs t fr h0 a=>by
  rw [World.putObj_heap_other (by rintro rfl;have:=heap_lt h0;omega)]
  exact h.block k cs t fr h0 a,fun k o h0 h1=>by
  rw [World.putObj_heap_other (by rintro rfl;have:=heap_lt h0;omega)]
  exact h.other k o h0 h1⟩
theorem Og.putD {l:List TypeId} {W:World} {D:Nat} {x:Option (List Deferred)} {o:Obj} (hK:W.heap[D]? = some (.deferred x)):Og l W (W.putObj D o):=⟨by simp,fun k cs t fr h0 _=>by
  rw [World.putObj_heap_other (by rintro rfl;cases h0.symm.trans hK)]
  exact h0⟩
theorem owns_putD {W:World} {D:Nat} {x:Option (List Deferred)} {o:Obj} {m n:Nat} {DD:DataW Value} (hm:W.ownsMap Tryz.prog 3 heldV m n DD) (hK:W.heap[D]? = some (.deferred x)):(W.putObj D o).ownsMap Tryz.prog 3 heldV m n DD:=by
 refine owns_same hm (World.putObj_heap_other ?_)
 rintro rfl
 obtain ⟨es,clock,hb,_⟩:=hm
 cases hb.symm.trans hK
def brT:List TypeId:=[100,109,184]
theorem Row1.og {l:List TypeId} {w w':World} {g:Nat} {e:TypeId} {cs:List Value} (h:Row1 w g e cs) (ho:Og l w w') (he:e ∉ l):Row1 w' g e cs:=by
 obtain ⟨cur,h1,h2⟩:=h
 exact ⟨cur,ho.block g cur e _ h1 he,h2⟩
theorem own_og {l:List TypeId} {w w':World} {base:Nat} {e:TypeId} {size n:Nat} {v:Value} {xs:List Value} (h:w.ownsRow base e size v n xs) (ho:Og l w w') (he:e ∉ l):w'.ownsRow base e size v n xs:=by
 refine ⟨h.1,?_⟩
 rcases h.2 with h1 | ⟨g,c,cur,a1,a2,a3,r⟩
 ·exact .inl h1
 ·exact .inr ⟨g,c,cur,a1,a2,ho.block g cur e _ a3 he,r⟩
theorem BdE.og {l:List TypeId} {w w':World} {B n:Nat} {a:Option Addr} {bs:List Nat} (h:BdE w B a n bs) (ho:Og l w w') (he:5 ∉ l):BdE w' B a n bs:=by
 rcases h.2 with h0 | ⟨g,off,cs,fr,rfl,hB,hb⟩
 ·exact ⟨⟨h.1.size,h.1.byte,.inl h0⟩,.inl h0⟩
 ·have hb':=ho.block g cs _ fr hb he
  refine ⟨⟨h.1.size,h.1.byte,?_⟩,.inr ⟨g,off,cs,fr,rfl,hB,hb'⟩⟩
  rcases h.1.cells with h0 | ⟨g',o,e,hg,hc⟩
  ·exact .inl h0
  ·cases e
   refine .inr ⟨g,off,rfl,heap_lt hb',fun i hi => ?_⟩
   have:=hc i hi
   rw [cell_of_row w g (off+i) cs _ _ hb] at this
   rw [cell_of_row w' g (off+i) cs _ _ hb']
   exact this
theorem Disk.og {w w':World} {base g gs:Nat} {wv:Value} {D:Dk} (h:Disk w base g gs wv D) (ho:Og brT w w'):Disk w' base g gs wv D:=⟨ho.block g _ _ _ h.blk (by decide),ho.block gs _ _ _ h.srow (by decide),own_og h.wrow ho (by decide),h.bg,h.bs,h.sz,h.sec,h.wts,h.tr,h.ag,h.wl⟩
theorem Lg.og {w w':World} {base g gs:Nat} {wv:Value} {D:Dk} {gl gc b m ag:Nat} {U:List Sg} {uv:Value} {hi rel:Nat} {L:List Rc} {rv:Value} (h:Lg w base g gs wv D gl gc b m ag U uv hi rel L rv) (ho:Og brT w w'):Lg w' base g gs wv D gl gc b m ag U uv hi rel L rv :=
 ⟨h.disk.og ho,ho.block gl _ _ _ h.log (by decide),ho.block gc _ _ _ h.cells (by decide),own_og h.used ho (by decide),⟨own_og h.recs.row ho (by decide),fun r hr=>(h.recs.bd r hr).og ho (by decide)⟩,h.bl⟩
def ohT:List TypeId:=100 :: lgT
theorem ohT_of {t:TypeId} (h:t∈lgT):t∈ohT:=List.mem_cons_of_mem _ h
def OhI (W6:World) (mm gcm:Nat) (pre:List (Fin 1)) (W:World):Prop:=Two mm mm W6 W∧(pre=[] → W.ownsMap Tryz.prog 3 heldV mm 0 (mapD []))∧(pre≠[] → W.ownsMap Tryz.prog 3 heldV mm 1 (mapD [(1,.agg #[.pointer (some ⟨gcm,0,none⟩),.int .i64 1])]))
theorem OhI.own (W6:World) (mm gcm:Nat) (hms:mm<W6.heap.size):OwnFrom W6.heap.size (OhI W6 mm gcm):=fun s A B row hs hg hr=>by
 obtain ⟨h1,h2,h3⟩:=hs
 have hsm:B.heap[mm]? = A.heap[mm]?:=hg.block mm (Nat.lt_of_lt_of_le hms h1.size) (fun e=>by have:=(hr mm e.symm).1;omega)
 exact ⟨⟨hg.os.trans h1.os,hg.tape.trans h1.tape,hg.output.trans h1.output,Nat.le_trans h1.size hg.size,fun k hk a b=>(hg.block k (Nat.lt_of_lt_of_le hk h1.size) (fun e=>by have:=(hr k e.symm).1;omega)).trans (h1.block k hk a b)⟩,fun e=>owns_same (h2 e) hsm,fun e=>owns_same (h3 e) hsm⟩
theorem owns_new (W:World):(W.alloc (.map #[] 0)).ownsMap Tryz.prog 3 heldV W.heap.size 0 (mapD []):=by
 exact World.ownsMap_made W _ _ _
theorem br_openHome (base g gsd:Nat) (wv:Value) (D:Dk) (gb gp cp gs cs gt ct:Nat) (age:Int) (ml mp ms q s mr:Nat) (w:World) (hd:Disk w base g gsd wv D) (hn:D.sure.length=326) (hdn:D.down=false) (hr:(getB D 64 1 0).1=0) (hall:readAllF D (headsF D 64 4) 0 [] = ([],0,[])) (hone:(headsF D 64 4).length≤1) (hb:Row1 w gb 79 (broC gp cp gs cs g age ml mp ms)) (ht:Tpo w gp cp gs cs gt ct) (hq:Row1 w q 100 (parC s mr 1 (.pointer none) (.map none))) (hbq:base≤q) :
  Calls Tryz.prog 83 #[.pointer (some ⟨gb,0,none⟩),.pointer (some ⟨q,0,none⟩)] w fun e w'=>e=.returned (.int .i64 0)∧Hid (∃ gl gcl uv rv mm gcm,(w.heap.size≤gl∧w.heap.size≤mm∧w.heap.size≤gcm)∧Row1 w' q 100 (parC s mr 1 (.pointer (some ⟨gl,0,none⟩)) (.map (some mm)))∧Lg w' base g gsd wv D gl gcl 64 4 D.age [] uv 0 0 [] rv∧w'.ownsMap Tryz.prog 3 heldV mm 1 (mapD [(1,.agg #[.pointer (some ⟨gcm,0,none⟩),.int .i64 1])])∧Cs w' gcm g 32 16)∧Hid (Fg ohT w w')∧Below base w w':=by
 have HD:Hid (Disk w base g gsd wv D):=hd
 have HBR:Hid (Row1 w gb 79 (broC gp cp gs cs g age ml mp ms)):=hb
 have HTP:Hid (Tpo w gp cp gs cs gt ct):=ht
 have HPT:Hid (Row1 w q 100 (parC s mr 1 (.pointer none) (.map none))):=hq
 have HBS:Hid (base≤w.heap.size∧base≤q):=⟨Nat.le_trans hd.bg (Nat.le_of_lt hd.blk.lt),hbq⟩
 obtain ⟨W1,HW1⟩:∃ W,Hid (W=w.alloc (.cells #[.pointer (some ⟨q,0,none⟩)] 89)):=⟨_,rfl⟩
 have HB1:Hid (Below w.heap.size w W1):=by (show Below _ _ _);rw [HW1.out];exact below_alloc _ _
 have HK1:Hid (Row1 W1 w.heap.size 89 [.pointer (some ⟨q,0,none⟩)]):=by (show Row1 _ _ _ _);rw [HW1.out];exact Row1.of (Blk.new _ _ _)
 have c0:W1.cell? ⟨w.heap.size,0,none⟩=some (.pointer (some ⟨q,0,none⟩)):=HK1.out.cell 0 rfl
 have c1:W1.cell? ⟨q,0,none⟩=some (.int .i64 0):=(hq.stay HB1.out).cell 0 rfl
 have c6:W1.cell? ⟨gb,6,none⟩=some (.pointer (some ⟨g,0,none⟩)):=(hb.stay HB1.out).cell 6 rfl
 have HOP:=evl_OpenNew W1 base g gsd wv D 64 4 (hd.stay HB1.out) hdn (by decide) (by decide) (by omega) hr hall hone
 have HN:Hid (D.sure.length=326):=hn
 clear hd hb ht hq hn hdn hr hall hone hbq
 refine (callsIn_wide (n:=8)).1 ?_
 refine callsIn_of_wp_marks Tryz.func83 rfl trivial ?_ rfl
 simp only [Tryz.ntmps83,List.size_toArray,List.length_cons,List.length_nil,Nat.reduceAdd,Nat.reduceSub,Array.replicate_succ,Array.replicate_zero,List.push_toArray,List.append_toArray,List.nil_append,List.cons_append]
 refine wpIn_wide.2 ?_
 go_upto_region 1 with fail
 rw [← HW1.out]
 go_wp2_with fail
 refine HOP.mono ?_
 rintro e w2 ⟨ht2,hk2,hb2⟩
 obtain ⟨gl,gcl,uv,rv,rfl,hgl,hl2⟩:=ht2.out
 have HL2:Hid (Lg w2 base g gsd wv D gl gcl 64 4 D.age [] uv 0 0 [] rv):=hl2
 have HF2:Hid (Fg lgT w w2):=(Fg.of_below HB1.out).trans (Fg.of_ft (Ft.of_kt hk2.out))
 have HB2:Hid (Below base w w2):=(HB1.out.mono HBS.out.1).trans hb2
 have HGL:Hid (w.heap.size≤gl):=Nat.le_trans HB1.out.size hgl
 have HK2:Hid (Row1 w2 w.heap.size 89 [.pointer (some ⟨q,0,none⟩)]):=HK1.out.fg (Fg.of_ft (Ft.of_kt hk2.out)) (by decide)
 clear ht2 hk2 hb2 hgl hl2 HOP c0 c1 c6
 have c6:w2.cell? ⟨gb,6,none⟩=some (.pointer (some ⟨g,0,none⟩)):=(HBR.out.fg HF2.out (by decide)).cell 6 rfl
 have HMO:=mark_Open w2 base g gsd wv D 32 16 HL2.out.disk
 go_wp2_with fail
 refine HMO.mono ?_
 rintro e w3 ⟨ht3,hb3⟩
 rcases ht3.out with ⟨hno,_⟩ | ⟨_,rfl,hc3⟩
 ·exact absurd (show mayC D.sure.length 32 16 from ⟨by omega,by omega,by have:=HN.out;omega⟩) hno
 obtain ⟨gcm,HGM⟩:∃ gcm,Hid (gcm=w2.heap.size):=⟨_,rfl⟩
 rw [← HGM.out] at hc3 ⊢
 have HC3:Hid (Cs w3 gcm g 32 16):=hc3
 have HB23:Hid (Below w2.heap.size w2 w3):=hb3
 clear ht3 hc3 hb3 HMO c6
 obtain ⟨W4,HW4⟩:∃ W,Hid (W=w3.alloc (.cells #[.pointer (some ⟨gcm,0,none⟩)] 107)):=⟨_,rfl⟩
 have HB34:Hid (Below w3.heap.size w3 W4):=by (show Below _ _ _);rw [HW4.out];exact below_alloc _ _
 have HB24:Hid (Below w2.heap.size w2 W4):=HB23.out.trans (HB34.out.mono HB23.out.size)
 have HK4:Hid (Row1 W4 w3.heap.size 107 [.pointer (some ⟨gcm,0,none⟩)]):=by (show Row1 _ _ _ _);rw [HW4.out];exact Row1.of (Blk.new _ _ _)
 have HC4:Hid (Cs W4 gcm g 32 16):=HC3.out.stay HB34.out
 have HKB4:Hid (Row1 W4 w.heap.size 89 [.pointer (some ⟨q,0,none⟩)]):=HK2.out.stay HB24.out
 have HL4:Hid (Lg W4 base g gsd wv D gl gcl 64 4 D.age [] uv 0 0 [] rv):=HL2.out.below HB24.out
 have HF4:Hid (Fg lgT w W4):=HF2.out.trans (Fg.of_below HB24.out)
 have HX4:Hid (Below base w W4):=HB2.out.trans (HB24.out.mono HL2.out.sz)
 have HP4:Hid (Row1 W4 q 100 (parC s mr 1 (.pointer none) (.map none))):=HPT.out.fg HF4.out (by decide)
 obtain ⟨mm,HMM0⟩:∃ mm,Hid (mm=W4.heap.size):=⟨_,rfl⟩
 obtain ⟨W5,HW5⟩:∃ W,Hid (W=(W4.alloc (.map #[] 0)).setCell ⟨q,7,none⟩ (.map (some mm))):=⟨_,rfl⟩
 have HBA:Hid (Below W4.heap.size W4 (W4.alloc (.map #[] 0))):=below_alloc _ _
 have HS5:Hid (W5.heap.size=W4.heap.size+1∧mm=W4.heap.size):=⟨by rw [HW5.out,World.size_setCell];simp,HMM0.out⟩
 have HPA:Hid (Row1 (W4.alloc (.map #[] 0)) q 100 (parC s mr 1 (.pointer none) (.map none))):=HP4.out.stay HBA.out
 have HP5:Hid (Row1 W5 q 100 (parC s mr 1 (.pointer none) (.map (some mm)))):=by (show Row1 _ _ _ _);rw [HW5.out];exact HPA.out.set 7 _
 have HF45:Hid (Fg ohT W4 W5):=by (show Fg _ _ _);rw [HW5.out];exact (Fg.of_below HBA.out).trans (Fg.set HPA.out (by decide) 7 _)
 have HF5:Hid (Fg ohT w W5):=(HF4.out.mono (fun t=>ohT_of)).trans HF45.out
 have HX5:Hid (Below base w W5):=by
  (show Below _ _ _);rw [HW5.out]
  exact (HX4.out.trans (HBA.out.mono HL4.out.sz)).setCell (p:=⟨q,7,none⟩) HBS.out.2 _
 have HM5:Hid (W5.ownsMap Tryz.prog 3 heldV mm 0 (mapD [])):=by
  have h:=owns_new W4
  rw [← HMM0.out] at h
  have hqm:q≠mm:=HPA.out.no_map h
  refine owns_same h ?_
  rw [HW5.out]
  exact heap_setCell_other _ ⟨q,7,none⟩ mm _ (Ne.symm hqm)
 have HL5:Hid (Lg W5 base g gsd wv D gl gcl 64 4 D.age [] uv 0 0 [] rv):=(HL4.out.below HBA.out).og (by rw [HW5.out];exact (Fg.set HPA.out (by decide) 7 _).og)
 have hmk:∀ W,(Instr.makeMap 98 none).run Tryz.prog W=.ok (.map (some W.heap.size)) (W.alloc (.map #[] 0)):=fun W=>run_makeMap _ W
 have a0:W4.cell? ⟨w.heap.size,0,none⟩=some (.pointer (some ⟨q,0,none⟩)):=HKB4.out.cell 0 rfl
 have a1:(W4.alloc (.map #[] 0)).cell? ⟨q,7,none⟩=some (.map none):=HPA.out.cell 7 rfl
 have f1:(W4.alloc (.map #[] 0)).frozen? ⟨q,7,none⟩=false:=HPA.out.free 7
 go_upto_region 6 with fail
 rw [← HW4.out]
 go_upto_region 7 with fail
 rw [← HMM0.out,← HW5.out]
 clear a0 a1 f1 hmk
 have a0:W5.cell? ⟨w.heap.size,0,none⟩=some (.pointer (some ⟨q,0,none⟩)):=(HKB4.out.fg HF45.out (by decide)).cell 0 rfl
 have a1:W5.cell? ⟨q,0,none⟩=some (.int .i64 0):=HP5.out.cell 0 rfl
 have HBR5:Hid (Row1 W5 gb 79 (broC gp cp gs cs g age ml mp ms)):=HBR.out.fg HF5.out (by decide)
 have HOF:=br_of gb gp cp gs cs g age ml mp ms W5 HBR5.out
 go_wp2_with fail
 refine HOF.mono ?_
 rintro e W6 ⟨rfl,hx6,ht6,hf6,hb6,hs6⟩
 clear HOF a0 a1
 have HF6:Hid (Fg ohT w W6):=HF5.out.trans (Fg.of_below hb6)
 have HX6:Hid (Below base w W6):=HX5.out.trans (hb6.mono (HL5.out.sz))
 have HP6:Hid (Row1 W6 q 100 (parC s mr 1 (.pointer none) (.map (some mm)))):=HP5.out.stay hb6
 have HL6:Hid (Lg W6 base g gsd wv D gl gcl 64 4 D.age [] uv 0 0 [] rv):=HL5.out.below hb6
 have HF46:Hid (Fg ohT W4 W6):=HF45.out.trans (Fg.of_below hb6)
 have HKB6:Hid (Row1 W6 w.heap.size 89 [.pointer (some ⟨q,0,none⟩)] ∧ Row1 W6 w3.heap.size 107 [.pointer (some ⟨gcm,0,none⟩)] ∧ Cs W6 gcm g 32 16):=⟨HKB4.out.fg HF46.out (by decide),HK4.out.fg HF46.out (by decide),HC4.out.fg HF46.out (by decide)⟩
 have HM6:Hid (W6.ownsMap Tryz.prog 3 heldV mm 0 (mapD [])):=owns_same HM5.out (hb6.block mm (owns_lt HM5.out))
 have HML:Hid (mm<W5.heap.size):=owns_lt HM5.out
 have HTP6:Hid (Tpo W6 gp cp gs cs gt ct):=HTP.out.fg HF6.out (by decide) (by decide) (by decide)
 obtain ⟨K,HK⟩:∃ K:Nat→Prop,Hid (K=fun k=>k=W5.heap.size∨k=W5.heap.size+1∨k=W5.heap.size+2∨k=gs):=⟨_,rfl⟩
 have HKL:Hid (∀ k,K k→k<W6.heap.size):=fun k hk=>by
  rw [HK.out] at hk
  have h2:=HTP6.out.subs.lt
  rcases hk with rfl | rfl | rfl | rfl <;> omega
 have HKN:Hid (∀ k,K k→k≠mm):=fun k hk=>by
  rw [HK.out] at hk
  have h1:=HML.out
  rcases hk with rfl | rfl | rfl | rfl
  ·omega
  ·omega
  ·omega
  ·exact HTP6.out.subs.no_map HM6.out
 have HST:Hid (SeqStopsK Fence.wide 7 Tryz.prog 136 #[.pointer (some ⟨W5.heap.size+1,0,none⟩),.pointer (some ⟨W5.heap.size+2,0,none⟩)] (encS (fun _=>(0,0,gt,ct)) 1) (Kp K) (fun xs=>xs=asF (fun _=>true) 1 1) (fun pre=>pre <+: asF (fun _=>true) 1 1) 1 W6) :=
  one_of K (by rw [HK.out];exact .inl rfl) (by rw [HK.out];exact .inr (.inl rfl)) (by rw [HK.out];exact .inr (.inr (.inl rfl))) (by rw [HK.out];exact .inr (.inr (.inr rfl))) HKL.out hx6 ht6 hf6 HTP6.out.subs (by decide)
 have HB6:Hid (W5.heap.size≤W6.heap.size):=hb6.size
 clear hx6 ht6 hf6 hb6 hs6
 go_wp2_with fail
 refine (wpIn_wide (n:=8)).1 ?_
 refine' wpIn_rangeFunc_ownG rfl (by decide) (gf:=136) (lb:=#[.pointer (some ⟨W5.heap.size+1,0,none⟩),.pointer (some ⟨W5.heap.size+2,0,none⟩)]) rfl trivial (enters_of Tryz.func136 (by kernel_rfl) rfl) HST.out Kp.trans (fun W l o o' hl=>Kp.put HKL.out W l o o' hl) (Below.refl _ _) (fun _=>rfl)
  (OhI W6 mm gcm) (fun _ _ _=>False) (OhI.own W6 mm gcm (Nat.lt_of_lt_of_le HML.out HB6.out)) (fun _ _ _ _ _ hs _ _=>hs)
  ⟨Two.refl _ _ _,fun _=>HM6.out,fun h=>absurd rfl h⟩ _ ?assign ?body ?done ?stop
 case assign =>
  intro l x W K hK
  unfold encS
  gi_wp2
  exact hK
 case body =>
  rintro l pre x W hi hp
  obtain rfl:pre=[]:=List.eq_nil_of_length_eq_zero (by omega)
  obtain rfl:x=0:=Subsingleton.elim _ _
  have HI:Hid (OhI W6 mm gcm [] W):=hi
  have hm0:=hi.2.1 rfl
  have HT0:Hid (Two mm mm W6 W):=hi.1
  have HNM:Hid (∀ {k:Nat} {e:TypeId} {cs:List Value},Row1 W6 k e cs→k≠mm):=fun h=>h.no_map HM6.out
  have z0:W.cell? ⟨w.heap.size,0,none⟩=some (.pointer (some ⟨q,0,none⟩)):=(HKB6.out.1.two hi.1 (HNM.out HKB6.out.1) (HNM.out HKB6.out.1)).cell 0 rfl
  have z1:W.cell? ⟨q,7,none⟩=some (.map (some mm)):=(HP6.out.two hi.1 (HNM.out HP6.out) (HNM.out HP6.out)).cell 7 rfl
  have z2:W.cell? ⟨w3.heap.size,0,none⟩=some (.pointer (some ⟨gcm,0,none⟩)):=(HKB6.out.2.1.two hi.1 (HNM.out HKB6.out.2.1) (HNM.out HKB6.out.2.1)).cell 0 rfl
  obtain ⟨w5,hrun,r1,r2⟩:=(hm0.drew).update tkeyed Tryz.underlying98 (by unfold maxLen;omega) (tkey_of (t:=1) (by omega)) (show heldV (.agg #[.pointer (some ⟨gcm,0,none⟩),.int .i64 1])=some (.held (.agg #[.pointer (some ⟨gcm,0,none⟩),.int .i64 1]),[]) from rfl)
  rw [mapD_put] at r1
  have HR5:Hid (w5.ownsMap Tryz.prog 3 heldV mm 1 (mapD [(1,.agg #[.pointer (some ⟨gcm,0,none⟩),.int .i64 1])])):=r1
  have HG5:Hid ((W.drew).grownBy w5 (some mm)):=r2
  have hmx:Tryz.prog.follows .mixedOrders=true:=by kernel_rfl
  clear hi hm0 r1 r2 hp
  have HZ:Hid (W.drew.cell? ⟨w.heap.size,0,none⟩=some (.pointer (some ⟨q,0,none⟩))∧W.drew.cell? ⟨q,7,none⟩=some (.map (some mm))∧W.drew.cell? ⟨w3.heap.size,0,none⟩=some (.pointer (some ⟨gcm,0,none⟩))):=⟨z0,z1,z2⟩
  clear z0 z1 z2
  try simp only [Fin.isValue,Fin.val_zero]
  have HMM:Hid (∀ i,i≠8→∀ L w',SL (fun w'=>(w'.cell? ⟨w.heap.size,0,none⟩=some (.pointer (some ⟨q,0,none⟩)))∧(w'.cell? ⟨q,7,none⟩=some (.map (some mm)))∧(w'.cell? ⟨w3.heap.size,0,none⟩=some (.pointer (some ⟨gcm,0,none⟩)))) 8 (L.setIfInBounds i true) w'↔SL (fun w'=>(w'.cell? ⟨w.heap.size,0,none⟩=some (.pointer (some ⟨q,0,none⟩)))∧(w'.cell? ⟨q,7,none⟩=some (.map (some mm)))∧(w'.cell? ⟨w3.heap.size,0,none⟩=some (.pointer (some ⟨gcm,0,none⟩)))) 8 L w'):=SL.ind _ 8
  gi_wp2_with fail
  refine wp_region_R (S:=SL (fun w'=>(w'.cell? ⟨w.heap.size,0,none⟩=some (.pointer (some ⟨q,0,none⟩)))∧(w'.cell? ⟨q,7,none⟩=some (.map (some mm)))∧(w'.cell? ⟨w3.heap.size,0,none⟩=some (.pointer (some ⟨gcm,0,none⟩)))) 8) hmx (by kernel_rfl) (fun h=>by obtain ⟨_,_,h⟩:=h;exact h) (fun _=>HZ.out) (fun hS0 => ?_)
  refine tkL (i:=0) 8 (some 51) (v:=?_) hS0 (HMM.out 0 (by decide)) ?_ ?_
  rotate_left
  ·(intro wS hSw;obtain ⟨L,hL,hSL⟩:=hSw;obtain ⟨y0,y1,y2⟩:=hSL hL;clear hSL;go_simp;try with_reducible rfl)
  try simp only [Act.put,List.setIfInBounds_toArray,List.set_cons_zero,List.set_cons_succ]
  refine tkL (i:=1) 8 (some 52) (v:=?_) hS0 (HMM.out 1 (by decide)) ?_ ?_
  rotate_left
  ·(intro wS hSw;obtain ⟨L,hL,hSL⟩:=hSw;obtain ⟨y0,y1,y2⟩:=hSL hL;clear hSL;go_simp;try with_reducible rfl)
  try simp only [Act.put,List.setIfInBounds_toArray,List.set_cons_zero,List.set_cons_succ]
  refine tkL (i:=2) 8 (some 53) (v:=?_) hS0 (HMM.out 2 (by decide)) ?_ ?_
  rotate_left
  ·(intro wS hSw;obtain ⟨L,hL,hSL⟩:=hSw;obtain ⟨y0,y1,y2⟩:=hSL hL;clear hSL;go_simp;try with_reducible rfl)
  try simp only [Act.put,List.setIfInBounds_toArray,List.set_cons_zero,List.set_cons_succ]
  refine tkL (i:=3) 8 (some 54) (v:=?_) hS0 (HMM.out 3 (by decide)) ?_ ?_
  rotate_left
  ·(intro wS hSw;obtain ⟨L,hL,hSL⟩:=hSw;obtain ⟨y0,y1,y2⟩:=hSL hL;clear hSL;go_simp;try with_reducible rfl)
  try simp only [Act.put,List.setIfInBounds_toArray,List.set_cons_zero,List.set_cons_succ]
  refine tkL (i:=4) 8 (some 55) (v:=?_) hS0 (HMM.out 4 (by decide)) ?_ ?_
  rotate_left
  ·(intro wS hSw;obtain ⟨L,hL,hSL⟩:=hSw;obtain ⟨y0,y1,y2⟩:=hSL hL;clear hSL;go_simp;try with_reducible rfl)
  try simp only [Act.put,List.setIfInBounds_toArray,List.set_cons_zero,List.set_cons_succ]
  refine tkL (i:=5) 8 (some 56) (v:=?_) hS0 (HMM.out 5 (by decide)) ?_ ?_
  rotate_left
  ·(intro wS hSw;obtain ⟨L,hL,hSL⟩:=hSw;obtain ⟨y0,y1,y2⟩:=hSL hL;clear hSL;go_simp;try with_reducible rfl)
  try simp only [Act.put,List.setIfInBounds_toArray,List.set_cons_zero,List.set_cons_succ]
  refine tkL (i:=6) 8 (some 57) (v:=?_) hS0 (HMM.out 6 (by decide)) ?_ ?_
  rotate_left
  ·(intro wS hSw;obtain ⟨L,hL,hSL⟩:=hSw;obtain ⟨y0,y1,y2⟩:=hSL hL;clear hSL;go_simp;try with_reducible rfl)
  try simp only [Act.put,List.setIfInBounds_toArray,List.set_cons_zero,List.set_cons_succ]
  refine tkL (i:=7) 8 (some 58) (v:=?_) hS0 (HMM.out 7 (by decide)) ?_ ?_
  rotate_left
  ·(intro wS hSw;obtain ⟨L,hL,hSL⟩:=hSw;obtain ⟨y0,y1,y2⟩:=hSL hL;clear hSL;go_simp;try with_reducible rfl)
  try simp only [Act.put,List.setIfInBounds_toArray,List.set_cons_zero,List.set_cons_succ]
  refine anyL_one (i:=8) (by kernel_rfl) rfl (fun K' hK => ?_)
  go_simp
  refine hK.out _ _ SL.gone (fun hS2 => ?_)
  clear hK K'
  try simp only [Act.put,List.getElem_toArray,List.getElem_cons_succ,List.getElem_cons_zero,List.setIfInBounds_toArray,List.set_cons_zero,List.set_cons_succ]
  refine anyL_done (by kernel_rfl) ?_ _
  have HT5:Two mm mm W w5:=(Two.of_below mm mm (Below.refl _ _).drew).trans ⟨HG5.out.os,HG5.out.tape,HG5.out.output,HG5.out.size,fun k hk h1 _=>HG5.out.block k hk (fun e=>h1 (Option.some.inj e))⟩
  have HKW:∀ k,K k→k<W.heap.size:=fun k hk=>Nat.lt_of_lt_of_le (HKL.out k hk) HI.out.1.size
  exact ⟨((KeepsOthers.drew _).from _).trans (KeepsFrom.of_grownBy HG5.out (fun j e=>by cases e;exact Nat.lt_of_lt_of_le HML.out HB6.out)),⟨HT5.size,fun k hk=>HT5.block k (HKW k hk) (HKN.out k hk) (HKN.out k hk)⟩,HI.out.1.trans HT5,fun e=>(by cases e),fun _=>HR5.out⟩
 case done =>
  rintro DD xs W hD rfl hi hK
  have HI:Hid (OhI W6 mm gcm (asF (fun _=>true) 1 1) W):=hi
  clear hi
  go_wp2_with fail
  have HP7:Hid (Row1 W q 100 (parC s mr 1 (.pointer none) (.map (some mm)))):=HP6.out.two HI.out.1 (HP6.out.no_map HM6.out) (HP6.out.no_map HM6.out)
  have c0:W.cell? ⟨w.heap.size,0,none⟩=some (.pointer (some ⟨q,0,none⟩)):=(HKB6.out.1.two HI.out.1 (HKB6.out.1.no_map HM6.out) (HKB6.out.1.no_map HM6.out)).cell 0 rfl
  refine wp_region_noPanic ?_
  refine wp_region_L (S:=fun (_:Array Bool) (w':World)=>(w'.cell? ⟨w.heap.size,0,none⟩=some (.pointer (some ⟨q,0,none⟩)))∧(w'.cell? ⟨q,6,none⟩=some (.pointer none)∨True)) (by kernel_rfl) ⟨c0,.inr trivial⟩ (fun hS0 => ?_)
  refine tkL (i:=0) 5 (some 59) (v:=?_) hS0 (fun _ _=>Iff.rfl) ?_ ?_
  rotate_left
  ·(intro wS hSw;obtain ⟨L,hL,hSL⟩:=hSw;obtain ⟨y0,y1⟩:=hSL;go_simp;try with_reducible rfl)
  try simp only [Act.put,List.setIfInBounds_toArray,List.set_cons_zero,List.set_cons_succ]
  refine tkL (i:=1) 8 (some 60) (v:=?_) hS0 (fun _ _=>Iff.rfl) ?_ ?_
  rotate_left
  ·(intro wS hSw;obtain ⟨L,hL,hSL⟩:=hSw;obtain ⟨y0,y1⟩:=hSL;go_simp;try with_reducible rfl)
  try simp only [Act.put,List.setIfInBounds_toArray,List.set_cons_zero,List.set_cons_succ]
  refine tkL (i:=2) 7 (some 61) (v:=?_) hS0 (fun _ _=>Iff.rfl) ?_ ?_
  rotate_left
  ·(intro wS hSw;obtain ⟨L,hL,hSL⟩:=hSw;obtain ⟨y0,y1⟩:=hSL;go_simp;try with_reducible rfl)
  try simp only [Act.put,List.setIfInBounds_toArray,List.set_cons_zero,List.set_cons_succ]
  refine tkL (i:=3) 4 (some 62) (v:=?_) hS0 (fun _ _=>Iff.rfl) ?_ ?_
  rotate_left
  ·(intro wS hSw;obtain ⟨L,hL,hSL⟩:=hSw;obtain ⟨y0,y1⟩:=hSL;go_simp;try with_reducible rfl)
  try simp only [Act.put,List.setIfInBounds_toArray,List.set_cons_zero,List.set_cons_succ]
  have HLW:Hid (Lg W base g gsd wv D gl gcl 64 4 D.age [] uv 0 0 [] rv):=HL6.out.og (Og.of_two HI.out.1 HM6.out)
  have HI7:=evl_High W.drew gl g gcl 64 4 D.age 0 0 uv rv (HLW.out.log.stay (Below.refl _ _).drew)
  refine anyL_one (i:=4) (by kernel_rfl) rfl (fun K' hK => ?_)
  go_simp
  refine HI7.mono ?_
  rintro e w7 ⟨rfl,hw7⟩
  rw [hw7]
  clear hw7 w7
  refine hK.out _ _ ⟨c0,.inr trivial⟩ (fun hS1 => ?_)
  clear hK K'
  try simp only [Act.put,List.getElem_toArray,List.getElem_cons_succ,List.getElem_cons_zero,List.setIfInBounds_toArray,List.set_cons_zero,List.set_cons_succ]
  clear HI7
  have c6:W.cell? ⟨q,6,none⟩=some (.pointer none):=HP7.out.cell 6 rfl
  have f6:W.frozen? ⟨q,6,none⟩=false:=HP7.out.free 6
  obtain ⟨W8,HW8⟩:∃ X,Hid (X=(W.setCell ⟨q,6,none⟩ (.pointer (some ⟨gl,0,none⟩))).drew):=⟨_,rfl⟩
  have HP8:Hid (Row1 W8 q 100 (parC s mr 1 (.pointer (some ⟨gl,0,none⟩)) (.map (some mm)))):=by (show Row1 _ _ _ _);rw [HW8.out];exact (HP7.out.set 6 _).stay (Below.refl _ _).drew
  have HFW8:Hid (Fg ohT W W8):=by (show Fg _ _ _);rw [HW8.out];exact (Fg.set HP7.out (by decide) 6 _).trans (Fg.of_below (Below.refl _ _).drew)
  have HOW8:Hid (Og brT W W8):=by (show Og _ _ _);rw [HW8.out];exact ((Fg.set HP7.out (by decide) 6 _).trans (Fg.of_below (Below.refl _ _).drew)).og
  have HK7:Hid (Row1 W w.heap.size 89 [.pointer (some ⟨q,0,none⟩)]):=HKB6.out.1.two HI.out.1 (HKB6.out.1.no_map HM6.out) (HKB6.out.1.no_map HM6.out)
  have d0:W8.cell? ⟨w.heap.size,0,none⟩=some (.pointer (some ⟨q,0,none⟩)):=(HK7.out.fg HFW8.out (by decide)).cell 0 rfl
  have c8:W8.cell? ⟨q,8,none⟩=some (.int .i64 0):=HP8.out.cell 8 rfl
  have f8:W8.frozen? ⟨q,8,none⟩=false:=HP8.out.free 8
  obtain ⟨W9,HW9⟩:∃ X,Hid (X=W8.setCell ⟨q,8,none⟩ (.int .i64 0)):=⟨_,rfl⟩
  have HP9:Hid (Row1 W9 q 100 (parC s mr 1 (.pointer (some ⟨gl,0,none⟩)) (.map (some mm)))):=by (show Row1 _ _ _ _);rw [HW9.out];exact HP8.out.set 8 _
  have HFW9:Hid (Fg ohT W W9):=by (show Fg _ _ _);rw [HW9.out];exact HFW8.out.trans (Fg.set HP8.out (by decide) 8 _)
  have HOW9:Hid (Og brT W W9):=by (show Og _ _ _);rw [HW9.out];exact HOW8.out.trans (Fg.set HP8.out (by decide) 8 _).og
  have e0:W9.cell? ⟨w.heap.size,0,none⟩=some (.pointer (some ⟨q,0,none⟩)):=(HK7.out.fg HFW9.out (by decide)).cell 0 rfl
  refine anyL_one (i:=5) (by kernel_rfl) rfl (fun K' hK => ?_)
  go_simp
  refine hK.out _ _ ⟨c0,.inr trivial⟩ (fun hS2 => ?_)
  clear hK K'
  try simp only [Act.put,List.getElem_toArray,List.getElem_cons_succ,List.getElem_cons_zero,List.setIfInBounds_toArray,List.set_cons_zero,List.set_cons_succ]
  refine anyL_one (i:=6) (by kernel_rfl) rfl (fun K' hK => ?_)
  go_simp
  refine hK.out _ _ ⟨c0,.inr trivial⟩ (fun hS3 => ?_)
  clear hK K'
  try simp only [Act.put,List.getElem_toArray,List.getElem_cons_succ,List.getElem_cons_zero,List.setIfInBounds_toArray,List.set_cons_zero,List.set_cons_succ]
  refine anyL_one (i:=7) (by kernel_rfl) rfl (fun K' hK => ?_)
  go_simp
  rw [← HW8.out]
  refine hK.out _ _ ⟨d0,.inr trivial⟩ (fun hSA => ?_)
  clear hK K' c6 f6
  try simp only [Act.put,List.getElem_toArray,List.getElem_cons_succ,List.getElem_cons_zero,List.setIfInBounds_toArray,List.set_cons_zero,List.set_cons_succ]
  refine anyL_one (i:=8) (by kernel_rfl) rfl (fun K' hK => ?_)
  go_simp
  refine hK.out _ _ ⟨d0,.inr trivial⟩ (fun hSB => ?_)
  clear hK K'
  try simp only [Act.put,List.getElem_toArray,List.getElem_cons_succ,List.getElem_cons_zero,List.setIfInBounds_toArray,List.set_cons_zero,List.set_cons_succ]
  refine anyL_one (i:=9) (by kernel_rfl) rfl (fun K' hK => ?_)
  go_simp
  refine hK.out _ _ ⟨d0,.inr trivial⟩ (fun hSC => ?_)
  clear hK K'
  try simp only [Act.put,List.getElem_toArray,List.getElem_cons_succ,List.getElem_cons_zero,List.setIfInBounds_toArray,List.set_cons_zero,List.set_cons_succ]
  refine anyL_one (i:=10) (by kernel_rfl) rfl (fun K' hK => ?_)
  go_simp
  rw [← HW9.out]
  refine hK.out _ _ ⟨e0,.inr trivial⟩ (fun hSD => ?_)
  clear hK K' c8 f8 d0 c0
  try simp only [Act.put,List.getElem_toArray,List.getElem_cons_succ,List.getElem_cons_zero,List.setIfInBounds_toArray,List.set_cons_zero,List.set_cons_succ]
  refine anyL_done (by kernel_rfl) (NoPanic.normal ?_) _
  have HL9:Hid (Lg W9 base g gsd wv D gl gcl 64 4 D.age [] uv 0 0 [] rv):=HLW.og HOW9.out
  have HM9:Hid (W9.ownsMap Tryz.prog 3 heldV mm 1 (mapD [(1,.agg #[.pointer (some ⟨gcm,0,none⟩),.int .i64 1])])):=owns_fg (HI.out.2.2 (by decide)) HFW9.out
  have HC9:Hid (Cs W9 gcm g 32 16):=Cs.fg ((HI.out.1.block gcm (Blk.lt HKB6.out.2.2) (cs_no_map HKB6.out.2.2 HM6.out) (cs_no_map HKB6.out.2.2 HM6.out)).trans HKB6.out.2.2) HFW9.out (by decide)
  have HDD:Hid (W9.heap[DD]? = some (.deferred (some []))∧W6.heap.size≤DD):=⟨HFW9.out.other DD _ hK (fun _ _ _ e=>by cases e),hD⟩
  have HMG:Hid (w.heap.size≤mm∧w.heap.size≤gcm):=⟨by rw [HS5.out.2];exact HF4.out.size,by rw [HGM.out];exact HF2.out.size⟩
  have HFX:Hid (Fg ohT w W9):=(Fg.two HF6.out HI.out.1 HMG.out.1 HM6.out).trans HFW9.out
  have HX9:Hid (Below base w W9):=by
   (show Below _ _ _);rw [HW9.out,HW8.out]
   exact (((Two.below HX6.out HI.out.1 (Nat.le_trans HBS.out.1 HMG.out.1) (Nat.le_trans HBS.out.1 HMG.out.1) (HL6.out.sz)).setCell (p:=⟨q,6,none⟩) HBS.out.2 _).drew).setCell (p:=⟨q,8,none⟩) HBS.out.2 _
  clear hK HLW
  have HBD:Hid (Below W9.heap.size W9 W9.drew):=(Below.refl _ _).drew
  have HRC:=br_reached q s mr gl 1 (.map (some mm)) g gcl 64 4 D.age 0 0 uv rv W9.drew (HP9.out.stay HBD.out) (HL9.out.log.stay HBD.out)
  go_wp2_with fail
  refine wp_region_noPanic ?_
  refine wp_region_L (S:=fun (_:Array Bool) (w':World)=>(w'.cell? ⟨w.heap.size,0,none⟩=some (.pointer (some ⟨q,0,none⟩)))) (by kernel_rfl) e0 (fun hS0 => ?_)
  refine tkL (i:=0) 4 (some 68) (v:=?_) hS0 (fun _ _=>Iff.rfl) ?_ ?_
  rotate_left
  ·(intro wS hSw;obtain ⟨L,hL,hSL⟩:=hSw;have y0:=hSL;clear hSL;go_simp;try with_reducible rfl)
  try simp only [Act.put,List.setIfInBounds_toArray,List.set_cons_zero,List.set_cons_succ]
  refine tkL (i:=1) 4 (some 69) (v:=?_) hS0 (fun _ _=>Iff.rfl) ?_ ?_
  rotate_left
  ·(intro wS hSw;obtain ⟨L,hL,hSL⟩:=hSw;have y0:=hSL;clear hSL;go_simp;try with_reducible rfl)
  try simp only [Act.put,List.setIfInBounds_toArray,List.set_cons_zero,List.set_cons_succ]
  refine tkL (i:=2) 3 (some 70) (v:=?_) hS0 (fun _ _=>Iff.rfl) ?_ ?_
  rotate_left
  ·(intro wS hSw;obtain ⟨L,hL,hSL⟩:=hSw;have y0:=hSL;clear hSL;go_simp;try with_reducible rfl)
  try simp only [Act.put,List.setIfInBounds_toArray,List.set_cons_zero,List.set_cons_succ]
  refine anyL_one (i:=3) (by kernel_rfl) rfl (fun K' hK => ?_)
  go_simp
  refine HRC.mono ?_
  rintro e w10 ⟨rfl,hb10⟩
  have HB10:Hid (Below W9.heap.size W9 w10):=HBD.out.trans (hb10.mono HBD.out.size)
  have g0:w10.cell? ⟨w.heap.size,0,none⟩=some (.pointer (some ⟨q,0,none⟩)):=((HK7.out.fg HFW9.out (by decide)).stay HB10.out).cell 0 rfl
  have HLO:=br_learnOwn0 gb q s mr gl 1 (.map (some mm)) base g gsd wv D gcl 64 4 D.age [] uv rv w10 (HP9.out.stay HB10.out) (HL9.out.below HB10.out)
  clear hb10
  refine hK.out _ _ g0 (fun hS1 => ?_)
  clear hK K'
  try simp only [Act.put,List.getElem_toArray,List.getElem_cons_succ,List.getElem_cons_zero,List.setIfInBounds_toArray,List.set_cons_zero,List.set_cons_succ]
  clear HRC
  refine anyL_one (i:=4) (by kernel_rfl) rfl (fun K' hK => ?_)
  go_simp
  refine HLO.mono ?_
  rintro e w11 ⟨rfl,hb11⟩
  have HB11:Hid (Below w10.heap.size w10 w11):=hb11
  have h0:w11.cell? ⟨w.heap.size,0,none⟩=some (.pointer (some ⟨q,0,none⟩)):=(((HK7.out.fg HFW9.out (by decide)).stay HB10.out).stay hb11).cell 0 rfl
  clear hb11
  refine hK.out _ _ h0 (fun hS2 => ?_)
  clear hK K'
  try simp only [Act.put,List.getElem_toArray,List.getElem_cons_succ,List.getElem_cons_zero,List.setIfInBounds_toArray,List.set_cons_zero,List.set_cons_succ]
  clear HLO
  refine anyL_done (by kernel_rfl) (NoPanic.normal ?_) _
  clear e0 g0 h0
  go_wp2
  have HB91:Hid (Below W9.heap.size W9 w11):=HB10.out.trans (HB11.out.mono HB10.out.size)
  have hK11:w11.heap[DD]? = some (.deferred (some [])):=(HB91.out.block DD (heap_lt HDD.out.1)).trans HDD.out.1
  have HF11:Fg ohT w w11:=HFX.out.trans (Fg.of_below HB91.out)
  have HX11:Below base w w11:=HX9.out.trans (HB91.out.mono HL9.out.sz)
  refine ⟨by simp,.inl ⟨_,_,rfl,run_takeDeferred hK11,?_⟩⟩
  have hDw:w.heap.size≤DD:=Nat.le_trans HF6.out.size HDD.out.2
  refine ⟨_,results_tmp rfl _ _ _,rfl,⟨gl,gcl,uv,rv,mm,gcm,⟨HGL.out,HMG.out⟩,?_,(HL9.out.below HB91.out).og (Og.putD hK11),owns_putD (owns_same HM9.out (HB91.out.block mm (owns_lt HM9.out))) hK11,(Og.putD (l:=brT) hK11).block gcm _ _ _ (HC9.out.stay HB91.out) (by decide)⟩,HF11.putD hDw hK11,HX11.trans ((belowK_b (w:=w) (Nat.le_refl _) w11 DD _ _ hDw hK11 rfl rfl).mono HBS.out.1)⟩
  exact (HP9.out.stay HB91.out).og (Og.putD (l:=[]) hK11) (by decide)
 case stop =>
  rintro D c pre W _ _ h _
  exact h.elim
end Go.Proofs.YtoiennkfdjnkbaaGreatDoor
