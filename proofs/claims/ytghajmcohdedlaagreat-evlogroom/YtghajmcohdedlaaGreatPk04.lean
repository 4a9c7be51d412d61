import Derived.Test.YtghajmcohdedlaaGreatPk03
import Derived.WalkKit
namespace Go.Proofs.YtghajmcohdedlaaGreat
open Go.RowKit
def syncL : List (List Nat) → List (Nat × List Nat) → List (List Nat)
 | S,[] => S
 | S,p :: W => syncL (S.set p.1 p.2) W
def syncE (D : Dk) : Int:=if D.down = true then 10 else if tripsB D = true then 10 else 0
def syncD (D : Dk) : Dk:=if D.down = true then D else if tripsB D = true then tripsD D else { tripsD D with sure:=syncL D.sure D.waits,waits:=[] }
theorem take_putH {P : Program} {ops : Array Oper} {Q : Exit → Act → World → Prop} {S : World → Prop} {md : Region.Mode} {i : Nat} {oi : Oper} {v : Value} {fuel : Nat} {listed : Array Bool} {a : Act} {w : World} (d : Option Nat) (hi : ops[i]? = some oi) (hd : oi.dst = d)
  (hs : Region.noSelect ops = true) (hf : Region.free md ops listed i = true) (hr : (Region.ready md ops listed).contains i = true)
  (hQ : ∀ c a w,Q (.panic c) (a.put d v) w → Q (.panic c) a w) (hy : YieldsIf P ops S oi v a) (hS : S w)
  (h : wpAnyH P md ops Q S fuel (listed.setIfInBounds i true) (a.put d v) w) : wpAnyH P md ops Q S (fuel + 1) listed a w:=by
 subst hd
 exact wpAnyH_take hi hs hf hr hQ hy hS h
theorem step_store_row {w : World} {ops : Array Oper} {op : Oper} {a : Act} {K : Act → World → Prop} {Q : Exit → Act → World → Prop} {E : Prop} (hgd : op.guard = none) (ty : TypeId) (x y : Operand) (ho : op.op = .store ty x y)
  (b o : Nat) (cs : List Value) (hx : a.eval x = .pointer (some ⟨b,o,none⟩)) (hy : a.eval y = .agg cs.toArray) (cur : List Value) (t : TypeId) (hb : Blk w b cur.toArray t) (hl : o + cs.length ≤ cur.length)
  (hi : (Tryz.prog.info? ty).map (·.size) = some cs.length) (h1 : ∀ v ∈ cs,v.oneCell' = true)
  (h : ∀ w',Blk w' b (splice cur o cs).toArray t → w.grownBy w' (some b) → K (a.put op.dst undef) w') : if Region.wanted op (yielded ops a.tmps) = true then Oper.wp Tryz.prog op a w K Q else E:=by
 rw [if_pos (by simp [Region.wanted,hgd])]
 exact wp_store_row ty x y ho b o cs hx hy cur t hb hl hi h1 h
theorem Disk.whole {w w' : World} {base g gs : Nat} {wv : Value} {D : Dk} (h : Disk w base g gs wv D) {i : Nat} {t : List Nat} (hi : i < D.sure.length) (ht : Sec t)
  (hb : Blk w' gs (splice (scells D.sure) (i * 64) (vb t)).toArray 97) (hg : w.grownBy w' (some gs)) : Disk w' base g gs wv { D with sure:=D.sure.set i t }:=by
 have hs : D.sure[i]? = some D.sure[i]:=List.getElem?_eq_getElem hi
 have e : t.take 64 ++ D.sure[i].drop 64 = t:=by
  have h1:=(h.sec _ (List.getElem_mem hi)).len
  rw [List.take_of_length_le (by rw [ht.len];omega),List.drop_of_length_le (by rw [h1];omega),List.append_nil]
 have e2 : t.take 64 = t:=List.take_of_length_le (by rw [ht.len];omega)
 have:=h.torn hs ht (m:=64) (Nat.le_refl _) (by rw [e2];exact hb) hg
 rw [e] at this
 exact this
theorem Disk.emptied {w : World} {base g gs : Nat} {wv : Value} {D : Dk} (h : Disk w base g gs wv D) :
  Disk (w.setCell ⟨g,1,none⟩ (.slice none 0 0)) base g gs (.slice none 0 0) { D with waits:=[] } ∧ Mv w (w.setCell ⟨g,1,none⟩ (.slice none 0 0)) base g gs:=by
 obtain ⟨a1,a2,a3⟩:=h.apart
 have hg:=grown_cell w g 1 (.slice none 0 0)
 exact ⟨⟨h.blk.set 1 (.slice none 0 0),h.srow.grown hg (by simpa using a1.symm),World.ownsRow_nil _ _ _ _,h.bg,h.bs,h.sz,h.sec,(fun p hp => by cases hp),h.tr,h.ag,Nat.zero_le _⟩,Mv.of_grown (.inl rfl) h.bg hg (Nat.le_trans h.bg (Nat.le_of_lt h.blk.lt))⟩
set_option maxRecDepth 100000 in
set_option maxHeartbeats 4000000 in
theorem disk_Sync (w : World) (base g gs : Nat) (wv : Value) (D : Dk) (h : Disk w base g gs wv D) :
  Calls Tryz.prog 46 #[.pointer (some ⟨g,0,none⟩)] w fun e w' => e = .returned (.int .i64 (syncE D)) ∧ Hid (∃ wv',Disk w' base g gs wv' (syncD D)) ∧ Mv w w' base g gs:=by
 have HD : Hid (Disk w base g gs wv D):=h
 have c3 : w.cell? ⟨g,3,none⟩ = some (.bool D.down):=h.blk.cell 3 rfl
 obtain ⟨E,HE⟩ : ∃ E,Hid (E = syncE D):=⟨_,rfl⟩
 obtain ⟨D',HY⟩ : ∃ D',Hid (D' = syncD D):=⟨_,rfl⟩
 rw [← HE.out,← HY.out]
 clear h
 cases hd : D.down with
 | true =>
  rw [hd] at c3
  have HX : Hid (E = 10 ∧ D' = D):=⟨by rw [HE.out,syncE,if_pos hd],by rw [HY.out,syncD,if_pos hd]⟩
  clear hd
  go_enter Tryz.func46,Tryz.ntmps46
  go_wp2
  go_ret
  exact ⟨by rw [HX.out.1];rfl,⟨wv,by rw [HX.out.2];exact HD.out⟩,Mv.refl _ _ _ _⟩
 | false =>
  rw [hd] at c3
  have HDN : Hid (D.down = false):=hd
  clear hd
  go_enter Tryz.func46,Tryz.ntmps46
  go_wp2_with fail
  refine (disk_trips w base g gs wv D HD.out HDN.out).mono ?_
  rintro e w1 ⟨rfl,hd1,hm1⟩
  have HD1 : Hid (Disk w1 base g gs wv (tripsD D)):=hd1
  have HM1 : Hid (Mv w w1 base g gs):=hm1
  clear hd1 hm1
  cases ht : tripsB D with
  | true =>
   have HX : Hid (E = 10 ∧ D' = tripsD D):=⟨by rw [HE.out,syncE,HDN.out,if_neg (by decide),if_pos ht],by rw [HY.out,syncD,HDN.out,if_neg (by decide),if_pos ht]⟩
   clear ht
   go_wp2
   go_ret
   exact ⟨by rw [HX.out.1];rfl,⟨wv,by rw [HX.out.2];exact HD1.out⟩,HM1.out⟩
  | false =>
   have HX : Hid (E = 0 ∧ D' = { tripsD D with sure:=syncL (tripsD D).sure (tripsD D).waits,waits:=[] }):=⟨by rw [HE.out,syncE,HDN.out,if_neg (by decide),ht,if_neg (by decide)],by rw [HY.out,syncD,HDN.out,if_neg (by decide),ht,if_neg (by decide),trips_sure,trips_waits]⟩
   clear ht
   obtain ⟨T,hT⟩ : ∃ T,T = tripsD D:=⟨_,rfl⟩
   rw [← hT] at HX HD1
   clear hT
   obtain ⟨aw,nw,cw,rfl⟩:=own_slice HD1.out.wrow
   have HNW : Hid (nw = T.waits.length):=by
    rcases HD1.out.form with ⟨h0,a',c',h1⟩ | ⟨gw,c',h1,_⟩
    ·simp only [Value.slice.injEq] at h1;show _ = _;rw [h0];exact h1.2.1
    ·simp only [Value.slice.injEq] at h1;exact h1.2.1
   have hwl : nw ≤ 1000000000:=by rw [HNW.out];exact HD1.out.wl
   have c1 : w1.cell? ⟨g,1,none⟩ = some (.slice aw nw cw):=HD1.out.blk.cell 1 rfl
   obtain ⟨R,HR⟩ : ∃ R,Hid (R = syncL T.sure T.waits):=⟨_,rfl⟩
   rw [← HR.out] at HX
   go_wp2
   go_loopw [20] (fun t20 wr => ∃ (k : Nat) (S : List (List Nat)),k ≤ nw ∧ t20 = .int .i64 (k : Int) ∧ Hid (R = syncL S (T.waits.drop k)) ∧ Hid (Disk wr base g gs (.slice aw nw cw) { T with sure:=S }) ∧ Hid (Mv w wr base g gs)) (fun t20 _ => nw - (intOf t20).toNat)
   case atStart => exact ⟨0,T.sure,by omega,rfl,HR,HD1,HM1⟩
   case round =>
    obtain ⟨k,S,hk,rfl,HEE,HDr,HM⟩:=hrel
    by_cases hlt : k < nw
    ·have hlt' : (k : Int) < (nw : Int):=by omega
     have hkw : k < T.waits.length:=by have:=HNW.out;omega
     obtain ⟨gw,rfl⟩ : ∃ gw,aw = some ⟨gw,0,none⟩:=by
      rcases HDr.out.form with ⟨h0,_⟩ | ⟨gw,c',h1,_⟩
      ·simp only at h0;rw [h0] at hkw;simp at hkw
      ·simp only [Value.slice.injEq] at h1;exact ⟨gw,h1.1⟩
     obtain ⟨p,hp⟩ : ∃ p,T.waits[k]? = some p:=⟨T.waits[k],List.getElem?_eq_getElem hkw⟩
     have HRG : Hid (wr.rangeAt gw (k * 65) (wcells p)):=HDr.out.wait hp
     have HPW : Hid (p.1 < S.length ∧ Sec p.2):=HDr.out.wts p (List.mem_of_getElem? hp)
     have HWL : Hid ((wcells p).length = 65):=wcells_len HPW.out.2
     have HPD : Hid (T.waits.drop k = p :: T.waits.drop (k + 1)):=by
      show _ = _
      rw [List.drop_eq_getElem_cons hkw]
      congr 1
      rw [List.getElem?_eq_getElem hkw] at hp
      exact Option.some.inj hp
     obtain ⟨Z,HZ⟩ : ∃ Z : List Value,Hid (Z = Value.int .i64 0 :: List.replicate 64 (Value.int .u8 0)):=⟨_,rfl⟩
     have HZL : Hid (Z.length = 65):=by show _ = _;rw [HZ.out];simp
     have HZI : Hid ((Tryz.prog.info? 99).map (fun i => (i.zero,i.size)) = some (some (.agg Z.toArray),65)):=by show _ = _;rw [HZ.out];exact infoWriteZ
     have hk0 : (0 : Int) ≤ (k : Int):=by omega
     clear hp HZ hkw
     go_wp2_with (first
      | (guard_target =~ wpList _ _ _ (Oper.mk (some 23) _ _ _ _ _ :: _) _ _;refine wpList_load_mid rfl 99 (.tmp 22) rfl gw (k * 65) rfl (wcells p) _ HRG.out Tryz.underlying99 rfl (by rw [HWL.out];exact infoWrite) ?_)
      | (guard_target =~ wpList _ _ _ (Oper.mk (some 4) _ _ _ _ _ :: _) _ _;refine wpList_alloc_row rfl 99 rfl Z 65 HZI.out ?_))
     intro w2 hk2 hb2 hs2
     have HBr : Hid (base ≤ wr.heap.size):=Nat.le_trans HDr.out.bg (Nat.le_of_lt HDr.out.blk.lt)
     have HK2 : Hid (Blk w2 wr.heap.size Z.toArray 99):=hk2
     have HB2 : Hid (Below wr.heap.size wr w2):=hb2
     clear hk2 hb2 hs2
     go_wp2_with (guard_target =~ wpList _ _ _ (Oper.mk none _ _ _ _ _ :: _) _ _;refine wpList_store_row rfl 99 (.tmp 4) (.tmp 23) rfl wr.heap.size 0 (wcells p) rfl rfl Z 99 HK2.out (by rw [HWL.out,HZL.out];omega) (by rw [HWL.out];exact infoWrite) (wcells_one p) ?_)
     intro w3 hk3 hg3
     have HK3 : Hid (Blk w3.drew wr.heap.size (wcells p).toArray 99):=by
      rw [splice_all Z (wcells p) (by rw [HZL.out,HWL.out])] at hk3
      exact hk3
     have HB3 : Hid (Below wr.heap.size wr w3.drew):=(HB2.out.trans ((Below.refl _ _).grown hg3 HB2.out.size (fun k hk => by simp only [Option.some.injEq] at hk;omega))).drew
     have HD3 : Hid (Disk w3.drew base g gs (.slice (some ⟨gw,0,none⟩) nw cw) { T with sure:=S }):=HDr.out.stay HB3.out
     have HM3 : Hid (Mv w w3.drew base g gs):=HM.out.trans (Mv.of_below g gs HB3.out HBr.out)
     clear hk3 hg3 HK2 HB2
     obtain ⟨pa,L⟩:=p
     obtain ⟨ns,hns⟩ : ∃ ns,ns = S.length:=⟨_,rfl⟩
     have hpa : pa < S.length:=HPW.out.1
     have HPA : Hid (pa < S.length):=hpa
     have HLS : Hid (Sec L):=HPW.out.2
     have HVL : Hid ((vb L).length = 64):=by show _ = _;rw [vb_length,HLS.out.len]
     obtain ⟨V,hV⟩ : ∃ V,V = vb L:=⟨_,rfl⟩
     have HVV : Hid (V = vb L):=hV
     rw [← hV] at HVL
     have c0 : w3.drew.cell? ⟨g,0,none⟩ = some (.slice (some ⟨gs,0,none⟩) ns ns):=by rw [hns];exact HD3.out.blk.cell 0 rfl
     have ca : w3.drew.cell? ⟨wr.heap.size,0,none⟩ = some (.int .i64 (pa : Int)):=HK3.out.cell 0 rfl
     have cr : w3.drew.rangeAt wr.heap.size 1 V:=HK3.out.range 1 V (fun q v hq => by rw [wcells,Nat.add_comm 1 q,List.getElem?_cons_succ];rw [hV] at hq;exact hq)
     have hnsb : ns ≤ 512:=by rw [hns];exact HD3.out.sz
     have HSL : Hid (pa * 64 + V.length ≤ (scells S).length):=by show _ ≤ _;rw [scells_len S HD3.out.sec,HVL.out];omega
     have HA : Hid (g ≠ gs ∧ wr.heap.size ≠ gs):=⟨HD3.out.apart.1,fun e => by have:=HDr.out.srow.lt;omega⟩
     have HV1 : Hid (∀ v ∈ V,v.oneCell' = true):=by show ∀ v ∈ V,_;rw [hV];exact vb_one _
     rw [← hns] at hpa
     have q1 : (0 : Int) ≤ (pa : Int):=by omega
     have q2 : (pa : Int) < (ns : Int):=by omega
     clear hns hV
     go_wp2
     refine wp_region_held_drew (S:=fun w' => w'.cell? ⟨g,0,none⟩ = some (.slice (some ⟨gs,0,none⟩) ns ns) ∧ w'.cell? ⟨wr.heap.size,0,none⟩ = some (.int .i64 (pa : Int)) ∧ w'.rangeAt wr.heap.size 1 V) (by kernel_rfl) ⟨c0,ca,cr⟩ (fun hHeld => ?_)
     generalize w3.drew = wd at *
     refine take_putH (i:=0) (v:=?_) (some 24) rfl (by kernel_rfl) (by kernel_rfl) (by kernel_rfl) (by kernel_rfl) (fun _ _ _ h => h) (Or.inl ⟨by rfl,?_⟩) hHeld ?_
     rotate_left
     ·(intro w hSw;obtain ⟨z0,z1,z2⟩:=hSw;clear z2;go_simp;try with_reducible rfl)
     try simp only [Act.put,List.setIfInBounds_toArray,List.set_cons_zero,List.set_cons_succ]
     refine take_putH (i:=1) (v:=?_) (some 25) rfl (by kernel_rfl) (by kernel_rfl) (by kernel_rfl) (by kernel_rfl) (fun _ _ _ h => h) (Or.inl ⟨by rfl,?_⟩) hHeld ?_
     rotate_left
     ·(intro w hSw;obtain ⟨z0,z1,z2⟩:=hSw;clear z2;go_simp;try with_reducible rfl)
     try simp only [Act.put,List.setIfInBounds_toArray,List.set_cons_zero,List.set_cons_succ]
     refine take_putH (i:=2) (v:=?_) (some 26) rfl (by kernel_rfl) (by kernel_rfl) (by kernel_rfl) (by kernel_rfl) (fun _ _ _ h => h) (Or.inl ⟨by rfl,?_⟩) hHeld ?_
     rotate_left
     ·(intro w hSw;obtain ⟨z0,z1,z2⟩:=hSw;clear z2;go_simp;try with_reducible rfl)
     try simp only [Act.put,List.setIfInBounds_toArray,List.set_cons_zero,List.set_cons_succ]
     refine take_putH (i:=3) (v:=?_) (some 27) rfl (by kernel_rfl) (by kernel_rfl) (by kernel_rfl) (by kernel_rfl) (fun _ _ _ h => h) (Or.inl ⟨by rfl,?_⟩) hHeld ?_
     rotate_left
     ·(intro w hSw;obtain ⟨z0,z1,z2⟩:=hSw;clear z2;go_simp;try with_reducible rfl)
     try simp only [Act.put,List.setIfInBounds_toArray,List.set_cons_zero,List.set_cons_succ]
     refine take_putH (i:=4) (v:=?_) (some 28) rfl (by kernel_rfl) (by kernel_rfl) (by kernel_rfl) (by kernel_rfl) (fun _ _ _ h => h) (Or.inl ⟨by rfl,?_⟩) hHeld ?_
     rotate_left
     ·(intro w hSw;obtain ⟨z0,z1,z2⟩:=hSw;clear z2;go_simp;try with_reducible rfl)
     try simp only [Act.put,List.setIfInBounds_toArray,List.set_cons_zero,List.set_cons_succ]
     refine take_putH (i:=5) (v:=?_) (some 29) rfl (by kernel_rfl) (by kernel_rfl) (by kernel_rfl) (by kernel_rfl) (fun _ _ _ h => h) (Or.inl ⟨by rfl,?_⟩) hHeld ?_
     rotate_left
     ·(intro w hSw;obtain ⟨z0,z1,z2⟩:=hSw;clear z2;go_simp;try with_reducible rfl)
     try simp only [Act.put,List.setIfInBounds_toArray,List.set_cons_zero,List.set_cons_succ]
     refine take_putH (i:=6) (v:=?_) (some 30) rfl (by kernel_rfl) (by kernel_rfl) (by kernel_rfl) (by kernel_rfl) (fun _ _ _ h => h) (Or.inl ⟨by rfl,?_⟩) hHeld ?_
     rotate_left
     ·(intro w hSw;obtain ⟨z0,z1,z2⟩:=hSw;clear z2;go_simp;try with_reducible rfl)
     try simp only [Act.put,List.setIfInBounds_toArray,List.set_cons_zero,List.set_cons_succ]
     refine take_putH (i:=7) (v:=.agg V.toArray) (some 31) rfl (by kernel_rfl) (by kernel_rfl) (by kernel_rfl) (by kernel_rfl) (fun _ _ _ h => h) (yieldsIf_load_mid (by rfl) 97 (.tmp 30) rfl wr.heap.size 1 rfl V _ (fun w h => h.2.2) Tryz.underlying97 rfl (by rw [HVL.out];exact infoBlock)) hHeld ?_
     try simp only [Act.put,List.setIfInBounds_toArray,List.set_cons_zero,List.set_cons_succ]
     refine take_putH (i:=8) (v:=?_) (some 32) rfl (by kernel_rfl) (by kernel_rfl) (by kernel_rfl) (by kernel_rfl) (fun _ _ _ h => h) (Or.inl ⟨by rfl,?_⟩) hHeld ?_
     rotate_left
     ·(intro w hSw;obtain ⟨z0,z1,z2⟩:=hSw;clear z2;go_simp;try with_reducible rfl)
     try simp only [Act.put,List.setIfInBounds_toArray,List.set_cons_zero,List.set_cons_succ]
     refine wpAnyH_ready (rs:=[9]) (by kernel_rfl) (by simp) ?_
     refine AllReadyH.cons rfl (fun K hK => ?_) AllReadyH.nil
     refine step_store_row rfl 97 (.tmp 32) (.tmp 31) rfl gs (pa * 64) V rfl rfl (scells S) 97 HD3.out.srow HSL.out (by rw [HVL.out];exact infoBlock) HV1.out ?_
     intro w4 hk4 hg4
     have HD4 : Hid (Disk w4 base g gs (.slice (some ⟨gw,0,none⟩) nw cw) { T with sure:=S.set pa L }):=by
      rw [HVV.out] at hk4
      exact HD3.out.whole HPA.out HLS.out hk4 hg4
     have HM4 : Hid (Mv w w4 base g gs):=HM3.out.trans (Mv.of_grown (.inr rfl) HD3.out.bs hg4 (Nat.le_trans HD3.out.bg (Nat.le_of_lt HD3.out.blk.lt)))
     have HE4 : Hid (R = syncL (S.set pa L) (T.waits.drop (k + 1))):=by show _ = _;rw [HEE.out,HPD.out,syncL]
     refine hK.out _ _ ⟨cell_far hg4 c0 HA.out.1,cell_far hg4 ca HA.out.2,fun q v hq => cell_far hg4 (cr q v hq) HA.out.2⟩ (fun _ => ?_)
     clear hK K hHeld hk4 hg4 c0 ca cr
     try simp only [Act.put,List.getElem_toArray,List.getElem_cons_succ,List.getElem_cons_zero]
     refine wpAnyH_done (by kernel_rfl) ?_ _
     go_wp2
     go_roundw
     case rel => exact ⟨k + 1,_,by omega,by go_num,HE4,HD4,HM4⟩
     case measure => simp [intOf];omega
    ·obtain rfl : k = nw:=by omega
     have HRS : Hid (R = S):=by
      show _ = _
      rw [HEE.out,List.drop_of_length_le (by have:=HNW.out;omega)]
      rfl
     obtain ⟨HDF,HMF⟩:=HDr.out.emptied
     have HDF' : Hid (Disk _ base g gs _ _):=HDF
     have HMF' : Hid (Mv _ _ base g gs):=HMF
     have d1 : wr.cell? ⟨g,1,none⟩ = some (.slice aw k cw):=HDr.out.blk.cell 1 rfl
     have f1:=HDr.out.blk.free 1
     clear HDF HMF HEE
     go_wp2
     go_ret
     exact ⟨by rw [HX.out.1];rfl,⟨_,by rw [HX.out.2,HRS.out];exact HDF'.out⟩,HM.out.trans HMF'.out⟩
def sureE (D : Dk) (i : Int) : Int:=if hasB D i = true then 0 else 2
set_option maxRecDepth 100000 in
set_option maxHeartbeats 1000000 in
theorem disk_Sure (w : World) (base g gs : Nat) (wv : Value) (D : Dk) (i : Int) (h : Disk w base g gs wv D) :
  Calls Tryz.prog 38 #[.pointer (some ⟨g,0,none⟩),.int .i64 i] w fun e w' => Hid (ReadTold w' w.heap.size e (sureE D i) (D.sure.getD i.toNat [])) ∧ Below w.heap.size w w':=by
 have HD : Hid (Disk w base g gs wv D):=h
 obtain ⟨R,HR⟩ : ∃ R,Hid (R = sureE D i):=⟨_,rfl⟩
 obtain ⟨T,HT0⟩ : ∃ T,Hid (T = D.sure.getD i.toNat []):=⟨_,rfl⟩
 rw [← HR.out,← HT0.out]
 obtain ⟨ns,hns⟩ : ∃ ns,ns = D.sure.length:=⟨_,rfl⟩
 have HNS : Hid (ns = D.sure.length):=hns
 have c0 : w.cell? ⟨g,0,none⟩ = some (.slice (some ⟨gs,0,none⟩) ns ns):=by rw [hns];exact h.blk.cell 0 rfl
 have hnsb : ns ≤ 512:=by rw [hns];exact h.sz
 clear h hns
 go_enter Tryz.func38,Tryz.ntmps38
 go_wp2_with fail
 refine (disk_has w base g gs wv D i HD.out).mono ?_
 rintro e w1 ⟨he,hw⟩
 subst he
 rw [hw]
 clear hw w1
 cases hh : hasB D i with
 | false =>
  have HX : Hid (R = 2):=by show _ = _;rw [HR.out,sureE,hh];rfl
  clear hh
  go_wp2
  go_returns
  exact ⟨.inl ⟨by rw [HX.out];decide,by rw [HX.out];rfl⟩,Below.refl _ _⟩
 | true =>
  have HX : Hid (R = 0):=by show _ = _;rw [HR.out,sureE,hh];rfl
  obtain ⟨h0,h1⟩:=(hasB_iff D i).1 hh
  obtain ⟨j,rfl⟩:=Int.eq_ofNat_of_zero_le h0
  have hj : j < D.sure.length:=by omega
  have hTj : D.sure[j]? = some T:=by rw [HT0.out,Int.toNat_natCast,List.getD_eq_getElem?_getD,List.getElem?_eq_getElem hj];rfl
  have HTS : Hid (Sec T):=HD.out.sec T (List.mem_of_getElem? hTj)
  have HVL : Hid ((vb T).length = 64):=by show _ = _;rw [vb_length,HTS.out.len]
  have HRG : Hid (w.rangeAt gs (j * 64) (vb T)):=HD.out.sector hTj
  have q1 : (0 : Int) ≤ (j : Int):=by omega
  have q2 : (j : Int) < (ns : Int):=by have:=HNS.out;omega
  obtain ⟨Z,HZ⟩ : ∃ Z : List Value,Hid (Z = List.replicate 64 (Value.int .u8 0)):=⟨_,rfl⟩
  have HZI : Hid ((Tryz.prog.info? 97).map (fun i => (i.zero,i.size)) = some (some (.agg Z.toArray),64)):=by show _ = _;rw [HZ.out];exact infoBlockZ
  have HZL : Hid (Z.length = 64):=by show _ = _;rw [HZ.out];simp
  clear hh h0 h1 HZ hTj hj
  go_wp2_with (first
   | (guard_target =~ wpList _ _ _ (Oper.mk (some 19) _ _ _ _ _ :: _) _ _;refine wpList_load_mid rfl 97 (.tmp 18) rfl gs (j * 64) rfl (vb T) _ HRG.out Tryz.underlying97 rfl (by rw [HVL.out];exact infoBlock) ?_)
   | (guard_target =~ wpList _ _ _ (Oper.mk (some 6) _ _ _ _ _ :: _) _ _;refine wpList_alloc_row rfl 97 rfl Z 64 HZI.out ?_))
  intro w3 hk3 hb3 hs3
  have HK3 : Hid (Blk w3 w.heap.size Z.toArray 97):=hk3
  have HB3 : Hid (Below w.heap.size w w3):=hb3
  clear hk3 hb3 hs3
  go_wp2_with (guard_target =~ wpList _ _ _ (Oper.mk none _ _ _ _ _ :: _) _ _;refine wpList_store_row rfl 97 (.tmp 6) (.tmp 19) rfl w.heap.size 0 (vb T) rfl rfl Z 97 HK3.out (by rw [HVL.out,HZL.out];omega) (by rw [HVL.out];exact infoBlock) (vb_one' T) ?_)
  intro w4 hk4 hg4
  have HK4 : Hid (Blk w4 w.heap.size (vb T).toArray 97):=by
   rw [splice_all Z (vb T) (by rw [HZL.out,HVL.out])] at hk4
   exact hk4
  have HB4 : Hid (Below w.heap.size w w4):=HB3.out.trans ((Below.refl _ _).grown hg4 HB3.out.size (fun k hk => by simp only [Option.some.injEq] at hk;omega))
  clear hk4 hg4
  go_wp2
  go_returns
  exact ⟨.inr ⟨HX.out,w.heap.size,rfl,Nat.le_refl _,HK4.out,HTS.out⟩,HB4.out⟩
def tripE (D : Dk) (n : Int) : Int:=if D.down = true then 10 else if n < 0 then 2 else 0
def tripD (D : Dk) (n : Int) : Dk:=if D.down = true then D else if n < 0 then D else { D with trip:=n.toNat }
set_option maxRecDepth 100000 in
set_option maxHeartbeats 1000000 in
theorem disk_Trip (w : World) (base g gs : Nat) (wv : Value) (D : Dk) (n : Int) (h : Disk w base g gs wv D) (hn : n ≤ 9223372036854775807) :
  Calls Tryz.prog 19 #[.pointer (some ⟨g,0,none⟩),.int .i64 n] w fun e w' => e = .returned (.int .i64 (tripE D n)) ∧ Hid (Disk w' base g gs wv (tripD D n)) ∧ Mv w w' base g gs:=by
 have HD : Hid (Disk w base g gs wv D):=h
 have c3 : w.cell? ⟨g,3,none⟩ = some (.bool D.down):=h.blk.cell 3 rfl
 have c2 : w.cell? ⟨g,2,none⟩ = some (.int .i64 (D.trip : Int)):=h.blk.cell 2 rfl
 have f2:=h.blk.free 2
 obtain ⟨E,HE⟩ : ∃ E,Hid (E = tripE D n):=⟨_,rfl⟩
 obtain ⟨D',HY⟩ : ∃ D',Hid (D' = tripD D n):=⟨_,rfl⟩
 rw [← HE.out,← HY.out]
 clear h
 cases hd : D.down with
 | true =>
  rw [hd] at c3
  have HX : Hid (E = 10 ∧ D' = D):=⟨by rw [HE.out,tripE,if_pos hd],by rw [HY.out,tripD,if_pos hd]⟩
  clear hd
  go_enter Tryz.func19,Tryz.ntmps19
  go_wp2
  go_ret
  exact ⟨by rw [HX.out.1];rfl,by rw [HX.out.2];exact HD.out,Mv.refl _ _ _ _⟩
 | false =>
  rw [hd] at c3
  by_cases h0 : n < 0
  ·have HX : Hid (E = 2 ∧ D' = D):=⟨by rw [HE.out,tripE,hd,if_neg (by decide),if_pos h0],by rw [HY.out,tripD,hd,if_neg (by decide),if_pos h0]⟩
   clear hd
   go_enter Tryz.func19,Tryz.ntmps19
   go_wp2
   go_ret
   exact ⟨by rw [HX.out.1];rfl,by rw [HX.out.2];exact HD.out,Mv.refl _ _ _ _⟩
  ·have HX : Hid (E = 0 ∧ D' = { D with trip:=n.toNat,down:=false }):=⟨by rw [HE.out,tripE,hd,if_neg (by decide),if_neg h0],by rw [HY.out,tripD,hd,if_neg (by decide),if_neg h0]⟩
   have HK3 : Hid (Blk (w.setCell ⟨g,2,none⟩ (.int .i64 n)) g #[.slice (some ⟨gs,0,none⟩) D.sure.length D.sure.length,wv,.int .i64 (n.toNat : Int),.bool false,.int .i64 (D.age : Int)] 79):=by
    have:=HD.out.blk.set 2 (.int .i64 n)
    rw [hd] at this
    rw [show ((n.toNat : Nat) : Int) = n from by omega]
    exact this
   have HG : Hid (w.grownBy (w.setCell ⟨g,2,none⟩ (.int .i64 n)) (some g)):=grown_cell _ _ _ _
   clear hd
   go_enter Tryz.func19,Tryz.ntmps19
   go_wp2
   go_ret
   exact ⟨by rw [HX.out.1];rfl,by rw [HX.out.2];exact HD.out.with3 n.toNat false (by omega) HK3.out HG.out,Mv.of_grown (.inl rfl) HD.out.bg HG.out (Nat.le_trans HD.out.bg (Nat.le_of_lt HD.out.blk.lt))⟩
end Go.Proofs.YtghajmcohdedlaaGreat

namespace Go.Proofs.YtghajmcohdedlaaGreat.KeyM
theorem split_xor (k r : Nat) : r = (r / 2 ^ k * 2 ^ k) ^^^ (r % 2 ^ k):=by
 apply Nat.eq_of_testBit_eq
 intro i
 rw [Nat.testBit_xor,Nat.testBit_mul_two_pow,Nat.testBit_mod_two_pow,Nat.testBit_div_two_pow]
 by_cases h : k ≤ i
 ·have h2 : ¬ i < k:=by omega
  simp [h,h2,show i - k + k = i from by omega]
 ·have h2 : i < k:=by omega
  simp [h,h2]
theorem turn (y : Nat) (h : y < 18446744073709551616) : y ^^^ 9223372036854775808 = (y + 9223372036854775808) % 18446744073709551616:=by
 have add : ∀ z,z < 9223372036854775808 → z + 9223372036854775808 = 9223372036854775808 ^^^ z:=by
  intro z hz
  have:=split_xor 63 (z + 9223372036854775808)
  rw [show (z + 9223372036854775808) / 2 ^ 63 = 1 from by omega,show (z + 9223372036854775808) % 2 ^ 63 = z from by omega] at this
  simpa using this
 by_cases hs : y < 9223372036854775808
 ·rw [Nat.xor_comm,← add y hs];omega
 ·obtain ⟨z,rfl⟩ : ∃ z,y = z + 9223372036854775808:=⟨y - 9223372036854775808,by omega⟩
  rw [add z (by omega),Nat.xor_comm 9223372036854775808 z,Nat.xor_assoc,Nat.xor_self,Nat.xor_zero,Nat.xor_comm,← add z (by omega)]
  omega
def key (u : Nat) : List Nat:=[u / 72057594037927936 % 256,u / 281474976710656 % 256,u / 1099511627776 % 256,u / 4294967296 % 256,u / 16777216 % 256,u / 65536 % 256,u / 256 % 256,u % 256]
def up (n : Int) : Nat:=(n + 9223372036854775808).toNat
def be (l : List Nat) : Nat:=l.foldl (fun u c => 256 * u + c) 0
theorem key_byte (u : Nat) : ∀ x ∈ key u,x < 256:=by
 intro x hx
 simp only [key,List.mem_cons,List.not_mem_nil,or_false] at hx
 rcases hx with rfl | rfl | rfl | rfl | rfl | rfl | rfl | rfl <;> omega
theorem be_snoc (l : List Nat) (c : Nat) : be (l ++ [c]) = 256 * be l + c:=by simp [be]
theorem be_lt (l : List Nat) (h : ∀ x ∈ l,x < 256) : be l < 256 ^ l.length:=by
 unfold be
 have gen : ∀ (l : List Nat) (u k : Nat),(∀ x ∈ l,x < 256) → u < 256 ^ k → l.foldl (fun u c => 256 * u + c) u < 256 ^ (k + l.length):=by
  intro l
  induction l with
  | nil => intro u k _ hu;simpa using hu
  | cons c r ih =>
   intro u k hl hu
   have hc:=hl c (by simp)
   have:=ih (256 * u + c) (k + 1) (fun x hx => hl x (by simp [hx])) (by rw [Nat.pow_succ];omega)
   rw [List.foldl_cons,List.length_cons,show k + (r.length + 1) = k + 1 + r.length from by omega]
   exact this
 have:=gen l 0 0 h (by simp)
 simpa using this
def take (bs : List Nat) (x : Int) : Int × Nat × Nat :=
 if x < 0 ∨ (bs.length : Int) < x then (0,0,2)
 else if (bs.length : Int) - x < 8 then (0,0,3)
 else ((be ((bs.drop x.toNat).take 8) : Int) - 9223372036854775808,x.toNat + 8,0)
end Go.Proofs.YtghajmcohdedlaaGreat.KeyM
