import Derived.Test.YtoiennkfdjnkbaaGreatDoorPk01
import Derived.Great.FillDense
import Derived.Deep.RegionWith
set_option maxRecDepth 100000
set_option maxHeartbeats 8000000
namespace Go.Proofs.YtoiennkfdjnkbaaGreatDoor
open Go.RowKit
theorem run_build_write (w:World) (i:Int):(Instr.build 246 #[(0,.int .i64 i)]).run Tryz.prog w=.ok (.agg (Value.int .i64 i :: List.replicate 64 (Value.int .u8 0)).toArray) w:=by
 kernel_rfl
theorem infoWriteZ:(Tryz.prog.info? 246).map (fun i=>(i.zero,i.size))=some (some (.agg (Value.int .i64 0 :: List.replicate 64 (Value.int .u8 0)).toArray),65):=by kernel_rfl
theorem infoWriteB:(Tryz.prog.info? 246).map (fun i=>(i.zero,i.size,i.bytes))=some (some (.agg (Value.int .i64 0 :: List.replicate 64 (Value.int .u8 0)).toArray),65,72):=by kernel_rfl
theorem run_buildSlice_one (w:World) (cs:List Value) (hl:cs.length=65):(Instr.buildSlice 68 1 #[(0,.agg cs.toArray)]).run Tryz.prog w=.ok (.slice (some ⟨w.heap.size,0,none⟩) 1 1) (w.alloc (.cells cs.toArray 246)):=by
 obtain ⟨z,hz⟩:∃ z,(Tryz.prog.info? 246).map (fun i=>(i.zero,i.size))=some (some (Value.agg z),65):=⟨(Value.int .i64 0 :: List.replicate 64 (Value.int .u8 0)).toArray,infoWriteZ⟩
 obtain ⟨i,hi,hzz⟩:=Option.map_eq_some_iff.1 hz
 simp only [Prod.mk.injEq] at hzz
 have hf:=Go.Great.fill_whole (s:=65) (by omega) [.agg cs.toArray] ((Array.range 65).map (z[· % z.size]!)) (by intro v hv;simp only [List.mem_singleton] at hv;subst hv;simpa [Value.cells] using hl) (by simp)
 simp only [List.zipIdx_cons,List.zipIdx_nil,List.map_cons,List.map_nil,List.flatMap_cons,List.flatMap_nil,List.append_nil] at hf
 have e1:(Value.agg cs.toArray).cells.toList.toArray=cs.toArray:=rfl
 rw [e1] at hf
 have hn:(newRow 246 cs.toArray).run Tryz.prog w=.ok ⟨w.heap.size,0,none⟩ (w.alloc (.cells cs.toArray 246)):=by simp [go_sem]
 simp [Instr.buildSlice,sizeOf,typeInfo,hi,hzz.1,hzz.2,zeroValue,Value.cells,hf,hn]
theorem wpList_build {w:World} {ops:Array Oper} {rest:List Oper} {o:Oper} {a:Act} {Q:Exit→Act→World→Prop} (hgd:o.guard=none) (ty:TypeId) (k:Nat) (x:Operand) (ho:o.op=.build ty #[(k,x)]) (u:Value) (hx:a.eval x=u) (v:Value)
  (hrun:(Instr.build ty #[(k,u)]).run Tryz.prog w=.ok v w) (h:wpList Tryz.prog ops Q rest (a.put o.dst v) w):wpList Tryz.prog ops Q (o :: rest) a w:=by
 refine wpList_plain hgd fun K hK => ?_
 unfold Oper.wp
 simp only [execOp,ho,Sem.run_bind,Sem.run_pure,Result.andThen_ok,List.map_toArray,List.map_cons,List.map_nil,hx,hrun]
 exact hK _ _ h
theorem wcells_one (p:Nat×List Nat):∀ u∈wcells p,u.oneCell'=true:=by
 intro u hu
 rcases List.mem_cons.1 hu with rfl | hu
 ·rfl
 ·exact vb_one _ u hu
theorem step_append_wr {w:World} {ops:Array Oper} {o:Oper} {act:Act} {K:Act→World→Prop} {Q:Exit→Act→World→Prop} {E:Prop} (hgd:o.guard=none) (s x:Operand)
  (ho:o.op=.call { callee:=.builtin .append,args:=#[s,x],argTypes:=#[68,68] })
  (base:Nat) (v:Value) (L:List (Nat×List Nat)) (hs:act.eval s=v) (hown:w.ownsRow base 246 65 v L.length (L.flatMap wcells)) (k c:Nat) (p:Nat×List Nat) (hx:act.eval x=.slice (some ⟨k,0,none⟩) 1 c)
  (hb:Blk w k (wcells p).toArray 246) (hp:Sec p.2) (hl:L.length<1000000000) (hbase:base≤w.heap.size)
  (h:∀ v' w',w'.ownsRow base 246 65 v' (L++[p]).length ((L++[p]).flatMap wcells)→w.grownBy w' v.ownBlock→K (act.put o.dst v') w'):if Region.wanted o (yielded ops act.tmps)=true then Oper.wp Tryz.prog o act w K Q else E:=by
 rw [if_pos (by simp [Region.wanted,hgd])]
 obtain ⟨i0,hi,hz0,hz1,hz2⟩:=info_parts infoWriteB
 refine wp_append_own w s x 68 ho base 246 i0 (.agg (Value.int .i64 0 :: List.replicate 64 (Value.int .u8 0)).toArray) 65 72 Tryz.underlying68 hi hz0 hz1 hz2 (by rfl) (by decide) v L.length (L.flatMap wcells) hs hown ⟨k,0,none⟩ 1 c (wcells p) hx (by rw [wcells_len hp]) (fun j u hj => ?_) (wcells_one p) (by unfold maxLen;omega) (by omega) hbase fun v' w' h1 h2 _=>h v' w' ?_ h2
 ·have e:(⟨k,0,none⟩:Addr).add j=⟨k,0+j,none⟩:=by unfold Addr.add;split <;> simp_all
  rw [e,Nat.zero_add]
  exact hb.cell j (by simpa using hj)
 ·rw [List.length_append,List.flatMap_append]
  simpa using h1
theorem step_build_one {w:World} {ops:Array Oper} {o:Oper} {a:Act} {K:Act→World→Prop} {Q:Exit→Act→World→Prop} {E:Prop} (hgd:o.guard=none) (x:Operand) (ho:o.op=.buildSlice 68 1 #[(0,x)]) (cs:List Value) (hx:a.eval x=.agg cs.toArray) (hl:cs.length=65)
  (h:∀ w',Blk w' w.heap.size cs.toArray 246→Below w.heap.size w w'→K (a.put o.dst (.slice (some ⟨w.heap.size,0,none⟩) 1 1)) w'):if Region.wanted o (yielded ops a.tmps)=true then Oper.wp Tryz.prog o a w K Q else E:=by
 rw [if_pos (by simp [Region.wanted,hgd])]
 unfold Oper.wp
 simp only [execOp,ho,Sem.run_bind,Sem.run_pure,Result.andThen_ok,List.map_toArray,List.map_cons,List.map_nil,hx,run_buildSlice_one w cs hl]
 exact h _ (Blk.new _ _ _) (below_alloc _ _)
theorem step_load_wr {w:World} {ops:Array Oper} {o:Oper} {a:Act} {K:Act→World→Prop} {Q:Exit→Act→World→Prop} {E:Prop} (hgd:o.guard=none) (x:Operand) (ho:o.op=.load 246 x) (b:Nat) (hx:a.eval x=.pointer (some ⟨b,0,none⟩)) (cs:List Value) (hb:Blk w b cs.toArray 246) (hl:cs.length=65)
  (h:K (a.put o.dst (.agg cs.toArray)) w):if Region.wanted o (yielded ops a.tmps)=true then Oper.wp Tryz.prog o a w K Q else E:=by
 rw [if_pos (by simp [Region.wanted,hgd])]
 exact wp_load_mid 246 x ho b 0 hx cs _ (hb.range 0 cs (fun q v hq=>by simpa using hq)) Tryz.underlying246 rfl (by rw [hl];exact infoWrite) h
theorem Disk.wrote {w w':World} {base g gs:Nat} {wv v':Value} {D:Dk} (h:Disk w base g gs wv D) (p:Nat×List Nat) (hp:Sec p.2) (hi:p.1<D.sure.length) (hl:D.waits.length<1000000000)
  (ho:w'.ownsRow base 246 65 v' (D.waits++[p]).length ((D.waits++[p]).flatMap wcells)) (hg:w.grownBy w' wv.ownBlock):Disk (w'.setCell ⟨g,1,none⟩ v') base g gs v' { D with waits:=D.waits++[p] }∧Mv w (w'.setCell ⟨g,1,none⟩ v') base g gs:=by
 obtain ⟨a1,a2,a3⟩:=h.apart
 have hbs:base≤w.heap.size:=Nat.le_trans h.bg (Nat.le_of_lt h.blk.lt)
 have k1:Blk w' g _ 70:=h.blk.grown hg a2
 have k2:Blk w' gs _ 244:=h.srow.grown hg a3
 have hne:=own_ne ho k1 (by decide)
 have hc:=grown_cell w' g 1 v'
 refine ⟨⟨k1.set 1 v',k2.grown hc (by simpa using a1.symm),own_stay ho (fun k hk=>hc.block k (ho.lt k hk).2 (fun e=>hne (by rw [hk,e]))),h.bg,h.bs,h.sz,h.sec,?_,h.tr,h.ag,by simp;omega⟩,(Mv.of_own h.wrow hg hbs).trans (Mv.of_grown (.inl rfl) h.bg hc (Nat.le_trans hbs hg.size))⟩
 intro q hq
 rcases List.mem_append.1 hq with hq | hq
 ·exact h.wts q hq
 ·simp only [List.mem_singleton] at hq
  subst hq
  exact ⟨hi,hp⟩
theorem own_slice {w:World} {base size n:Nat} {e:TypeId} {v:Value} {xs:List Value} (h:w.ownsRow base e size v n xs):∃ a m c,v=.slice a m c:=by
 rcases h.2 with ⟨h1,_⟩ | ⟨g,c,cur,h1,_⟩
 ·exact ⟨_,_,_,h1⟩
 ·exact ⟨_,_,_,h1⟩
theorem trips_waits (D:Dk):(tripsD D).waits=D.waits:=by unfold tripsD;split <;> rfl
theorem trips_sure (D:Dk):(tripsD D).sure=D.sure:=by unfold tripsD;split <;> rfl
def padS (bs:List Nat):List Nat:=bs++List.replicate (64 - bs.length) 0
theorem padS_sec {bs:List Nat} (h:bs.length≤64) (hb:∀ b∈bs,b<256):Sec (padS bs):=by
 refine ⟨by rw [padS,List.length_append,List.length_replicate];omega,fun b hb' => ?_⟩
 rcases List.mem_append.1 hb' with h1 | h1
 ·exact hb b h1
 ·rw [List.eq_of_mem_replicate h1];omega
def writeE (D:Dk) (i:Int) (bs:List Nat):Int :=
 if D.down=true then 10 else if hasB D i=false then 2 else if 64<bs.length then 6 else if tripsB D=true then 10 else 0
def writeD (D:Dk) (i:Int) (bs:List Nat):Dk :=
 if D.down=true then D else if hasB D i=false then D else if 64<bs.length then D else if tripsB D=true then tripsD D else { tripsD D with waits:=D.waits++[(i.toNat,padS bs)] }
theorem disk_Write (w:World) (base g gs:Nat) (wv:Value) (D:Dk) (i:Int) (a:Option Addr) (len cap:Nat) (bs:List Nat) (h:Disk w base g gs wv D) (hr0:∀ w',Mv w w' base g gs→Rd w' a len bs) (hl:len≤9223372036854775807) (hw:D.waits.length<1000000000) :
  Calls Tryz.prog 93 #[.pointer (some ⟨g,0,none⟩),.int .i64 i,.slice a len cap] w fun e w'=>e=.returned (.int .i64 (writeE D i bs))∧Hid (∃ wv',Disk w' base g gs wv' (writeD D i bs))∧Mv w w' base g gs:=by
 have HD:Hid (Disk w base g gs wv D):=h
 have HRR:Hid (∀ w',Mv w w' base g gs→Rd w' a len bs):=hr0
 have hr:=hr0 w (Mv.refl _ _ _ _)
 have HR:Hid (Rd w a len bs):=hr
 have HBS:Hid (base≤w.heap.size):=Nat.le_trans h.bg (Nat.le_of_lt h.blk.lt)
 have c3:w.cell? ⟨g,3,none⟩=some (.bool D.down):=h.blk.cell 3 rfl
 obtain ⟨R,HX⟩:∃ R,Hid (R=writeE D i bs):=⟨_,rfl⟩
 obtain ⟨D',HY⟩:∃ D',Hid (D'=writeD D i bs):=⟨_,rfl⟩
 rw [← HX.out,← HY.out]
 have hsz:=hr.size
 clear h hr hr0
 cases hd:D.down with
 | true =>
  rw [hd] at c3
  have HE:Hid (R=10∧D'=D):=by
   refine ⟨?_,?_⟩
   ·rw [HX.out,writeE,if_pos hd]
   ·rw [HY.out,writeD,if_pos hd]
  clear hd
  go_enter Tryz.func93,Tryz.ntmps93
  go_wp2
  go_ret
  exact ⟨by rw [HE.out.1];rfl,⟨wv,by rw [HE.out.2];exact HD.out⟩,Mv.refl _ _ _ _⟩
 | false =>
  rw [hd] at c3
  have HDN:Hid (D.down=false):=hd
  clear hd
  go_enter Tryz.func93,Tryz.ntmps93
  go_wp2_with fail
  refine (disk_has w base g gs wv D i HD.out).mono ?_
  rintro e w1 ⟨he,hw1⟩
  subst he
  rw [hw1]
  clear hw1 w1
  cases hh:hasB D i with
  | false =>
   have HE:Hid (R=2∧D'=D):=by
    refine ⟨?_,?_⟩
    ·rw [HX.out,writeE,HDN.out,if_neg (by decide),if_pos hh]
    ·rw [HY.out,writeD,HDN.out,if_neg (by decide),if_pos hh]
   clear hh
   go_wp2
   go_ret
   exact ⟨by rw [HE.out.1];rfl,⟨wv,by rw [HE.out.2];exact HD.out⟩,Mv.refl _ _ _ _⟩
  | true =>
   have HHH:Hid (hasB D i=true):=hh
   clear hh
   by_cases h64:64<len
   ·have h64':(64:Int)<(len:Int):=by omega
    have HE:Hid (R=6∧D'=D):=by
     refine ⟨?_,?_⟩
     ·rw [HX.out,writeE,HDN.out,if_neg (by decide),HHH.out,if_neg (by decide),if_pos (by omega)]
     ·rw [HY.out,writeD,HDN.out,if_neg (by decide),HHH.out,if_neg (by decide),if_pos (by omega)]
    go_wp2
    go_ret
    exact ⟨by rw [HE.out.1];rfl,⟨wv,by rw [HE.out.2];exact HD.out⟩,Mv.refl _ _ _ _⟩
   ·have h64':¬ (64:Int)<(len:Int):=by omega
    go_wp2_with fail
    refine (disk_trips w base g gs wv D HD.out HDN.out).mono ?_
    rintro e w2 ⟨rfl,hd2,hm2⟩
    have HD2:Hid (Disk w2 base g gs wv (tripsD D)):=hd2
    have HM2:Hid (Mv w w2 base g gs):=hm2
    clear hd2 hm2
    cases ht:tripsB D with
    | true =>
     have HE:Hid (R=10∧D'=tripsD D):=by
      refine ⟨?_,?_⟩
      ·rw [HX.out,writeE,HDN.out,if_neg (by decide),HHH.out,if_neg (by decide),if_neg (by omega),if_pos ht]
      ·rw [HY.out,writeD,HDN.out,if_neg (by decide),HHH.out,if_neg (by decide),if_neg (by omega),if_pos ht]
     clear ht
     go_wp2
     go_ret
     exact ⟨by rw [HE.out.1];rfl,⟨wv,by rw [HE.out.2];exact HD2.out⟩,HM2.out⟩
    | false =>
     have HE:Hid (R=0∧D'={ tripsD D with waits:=D.waits++[(i.toNat,padS bs)] }):=by
      refine ⟨?_,?_⟩
      ·rw [HX.out,writeE,HDN.out,if_neg (by decide),HHH.out,if_neg (by decide),if_neg (by omega),ht,if_neg (by decide)]
      ·rw [HY.out,writeD,HDN.out,if_neg (by decide),HHH.out,if_neg (by decide),if_neg (by omega),ht,if_neg (by decide)]
     clear ht
     obtain ⟨h0,h1⟩:=(hasB_iff D i).1 HHH.out
     obtain ⟨j,rfl⟩:=Int.eq_ofNat_of_zero_le h0
     have HJ:Hid (j<D.sure.length):=by show _<_;omega
     have hbd:=run_build_write
     obtain ⟨Z,HZ⟩:∃ Z:List Value,Hid (Z=List.replicate 64 (Value.int .u8 0)):=⟨_,rfl⟩
     have HZL:Hid (Z.length=64):=by show _=_;rw [HZ.out];simp
     have hbd:∀ (w:World),(Instr.build 246 #[(0,.int .i64 (j:Int))]).run Tryz.prog w=.ok (.agg (Value.int .i64 (j:Int) :: Z).toArray) w:=fun w=>by rw [HZ.out];exact run_build_write w _
     have HZI:Hid ((Tryz.prog.info? 246).map (fun i=>(i.zero,i.size))=some (some (.agg (Value.int .i64 0 :: Z).toArray),65)):=by show _=_;rw [HZ.out];exact infoWriteZ
     have HZ1:Hid (∀ v∈(Value.int .i64 (j:Int) :: Z),v.oneCell'=true):=by
      intro v hv
      rcases List.mem_cons.1 hv with rfl | hv
      ·rfl
      ·rw [HZ.out] at hv;rw [List.eq_of_mem_replicate hv];rfl
     go_wp2_with (first
      | (guard_target =~ wpList _ _ _ (Oper.mk (some 24) _ _ _ _ _ :: _) _ _;refine wpList_build rfl 246 0 (.tmp 23) rfl (.int .i64 (j:Int)) rfl (.agg (Value.int .i64 (j:Int) :: Z).toArray) (hbd _) ?_)
      | (guard_target =~ wpList _ _ _ (Oper.mk (some 7) _ _ _ _ _ :: _) _ _;refine wpList_alloc_row rfl 246 rfl (Value.int .i64 0 :: Z) 65 HZI.out ?_))
     intro w3 hk3 hb3 hs3
     have HK3:Hid (Blk w3 w2.heap.size (Value.int .i64 0 :: Z).toArray 246):=hk3
     have HD3:Hid (Disk w3 base g gs wv (tripsD D)):=HD2.out.stay hb3
     have HBS2:Hid (base≤w2.heap.size):=Nat.le_trans HD2.out.bg (Nat.le_of_lt HD2.out.blk.lt)
     have HM3:Hid (Mv w w3 base g gs):=HM2.out.trans (Mv.of_below g gs hb3 HBS2.out)
     have HB23:Hid (Below w2.heap.size w2 w3):=hb3
     clear hk3 hb3 hs3 hbd
     go_wp2_with (guard_target =~ wpList _ _ _ (Oper.mk none _ _ _ _ _ :: _) _ _;refine wpList_store_row rfl 246 (.tmp 7) (.tmp 24) rfl w2.heap.size 0 (Value.int .i64 (j:Int) :: Z) rfl rfl (Value.int .i64 0 :: Z) 246 HK3.out (by simp) (by rw [List.length_cons,HZL.out];exact infoWrite) HZ1.out ?_)
     intro w4 hk4 hg4
     have HK4:Hid (Blk w4 w2.heap.size (Value.int .i64 (j:Int) :: Z).toArray 246):=by
      rw [splice_all _ _ (by simp)] at hk4
      exact hk4
     have HG4:Hid (w3.grownBy w4 (some w2.heap.size)):=hg4
     clear hk4 hg4
     have HB24:Hid (Below w2.heap.size w2 w4):=HB23.out.trans ((Below.refl _ _).grown HG4.out HB23.out.size (fun k hk=>by simp only [Option.some.injEq] at hk;omega))
     have HR4:Hid (Rd w4 a len bs):=HRR.out w4 (HM2.out.trans (Mv.of_below g gs HB24.out HBS2.out))
     have HVB:Hid ((vb bs).length=len):=by show _=_;rw [vb_length,hsz]
     obtain ⟨V,HVV⟩:∃ V,Hid (V=vb bs):=⟨_,rfl⟩
     rw [← HVV.out] at HVB
     have HV1:Hid (∀ v∈V,v.oneCell'=true):=by show ∀ v∈V,_;rw [HVV.out];exact vb_one bs
     have HSRC:Hid (0<V.length→((some ⟨w2.heap.size,1,none⟩:Option Addr)=some ⟨w2.heap.size,1,none⟩∧∃ ad,a=some ad∧∀ q v,V[q]? = some v→w4.cell? (ad.add q)=some v)):=by
      intro hp
      rw [HVB.out] at hp
      refine ⟨rfl,?_⟩
      rcases HR4.out.cells with h0 | ⟨b,off,ha,_,hc⟩
      ·omega
      ·refine ⟨_,ha,fun q v hq => ?_⟩
       rw [HVV.out] at hq
       obtain ⟨hq1,rfl⟩:=vb_get hq
       have e:(⟨b,off,none⟩:Addr).add q=⟨b,off+q,none⟩:=by unfold Addr.add;split <;> simp_all
       rw [e]
       exact hc q (by omega)
     go_wp2_with (guard_target =~ wpList _ _ _ (Oper.mk (some 28) _ _ _ _ _ :: _) _ _;refine wpList_copy_fr rfl (.tmp 26) (.tmp 27) 22 22 rfl 5 Tryz.underlying22 infoByteSz (some ⟨w2.heap.size,1,none⟩) a 64 64 len cap rfl rfl w2.heap.size 1 (Value.int .i64 (j:Int) :: Z) 246 HK4.out V (by rw [HVB.out];exact (Nat.min_eq_left (by omega)).symm) HSRC.out (by rw [HVB.out,List.length_cons,HZL.out];omega) HV1.out ?_)
     intro w5 hk5 hg5
     have HB25:Hid (Below w2.heap.size w2 w5):=HB24.out.trans ((Below.refl _ _).grown hg5 HB24.out.size (fun k hk=>by simp only [Option.some.injEq] at hk;omega))
     obtain ⟨P,HP⟩:∃ P:Nat×List Nat,Hid (P=(j,padS bs)):=⟨_,rfl⟩
     have HPS:Hid (Sec P.2):=by show Sec _;rw [HP.out];exact padS_sec (by omega) HR.out.byte
     have HK5:Hid (Blk w5 w2.heap.size (wcells P).toArray 246):=by
      have e:splice (Value.int .i64 (j:Int) :: Z) 1 V=wcells P:=by
       rw [HP.out,HVV.out,HZ.out,wcells,padS,vb_append]
       unfold splice
       rw [vb_length,hsz,Nat.add_comm 1 len,List.drop_succ_cons,List.drop_replicate]
       simp [vb]
      rw [e] at hk5
      exact hk5
     have HD5:Hid (Disk w5 base g gs wv (tripsD D)):=HD2.out.stay HB25.out
     have HM5:Hid (Mv w w5 base g gs):=HM2.out.trans (Mv.of_below g gs HB25.out HBS2.out)
     clear hk5 hg5 HSRC HV1 HR4 HK4 HG4 HB24 HM3 HD3 HK3
     have HWL:(wcells P).length=65:=wcells_len HPS.out
     have HWX:Hid ((tripsD D).waits.length<1000000000):=by show _<_;rw [trips_waits];exact hw
     have HPJ:Hid (P.1<(tripsD D).sure.length):=by show _<_;rw [HP.out,trips_sure];exact HJ.out
     have HDd:Hid (Disk w5.drew base g gs wv (tripsD D)):=HD5.out.stay (Below.refl _ _).drew
     have HKd:Hid (Blk w5.drew w2.heap.size (wcells P).toArray 246):=HK5.out
     have HMd:Hid (Mv w w5.drew base g gs):=HM5.out.trans (Mv.of_below g gs (Below.refl _ _).drew (Nat.le_trans HD5.out.bg (Nat.le_of_lt HD5.out.blk.lt)))
     have HBSd:Hid (base≤w5.drew.heap.size):=Nat.le_trans HDd.out.bg (Nat.le_of_lt HDd.out.blk.lt)
     go_wp2
     refine wp_region_any (by kernel_rfl) ?_
     change wpAny _ _ _ _ _ _ _ (World.drew _)
     generalize w5.drew=wd at *
     refine take_put (i:=0) (v:=?_) (some 29) rfl (by kernel_rfl) (by kernel_rfl) (by kernel_rfl) (by kernel_rfl) (fun _ _ _ h=>h) (Or.inl ⟨by rfl,?_⟩) ?_
     rotate_left
     ·(intro w;go_simp;try with_reducible rfl)
     try simp only [Act.put,List.setIfInBounds_toArray,List.set_cons_zero,List.set_cons_succ]
     refine take_put (i:=1) (v:=?_) (some 30) rfl (by kernel_rfl) (by kernel_rfl) (by kernel_rfl) (by kernel_rfl) (fun _ _ _ h=>h) (Or.inl ⟨by rfl,?_⟩) ?_
     rotate_left
     ·(intro w;go_simp;try with_reducible rfl)
     try simp only [Act.put,List.setIfInBounds_toArray,List.set_cons_zero,List.set_cons_succ]
     refine take_put (i:=2) (v:=?_) (some 31) rfl (by kernel_rfl) (by kernel_rfl) (by kernel_rfl) (by kernel_rfl) (fun _ _ _ h=>h) (Or.inl ⟨by rfl,?_⟩) ?_
     rotate_left
     ·(intro w;go_simp;try with_reducible rfl)
     try simp only [Act.put,List.setIfInBounds_toArray,List.set_cons_zero,List.set_cons_succ]
     refine take_put (i:=3) (v:=?_) (some 32) rfl (by kernel_rfl) (by kernel_rfl) (by kernel_rfl) (by kernel_rfl) (fun _ _ _ h=>h) (Or.inl ⟨by rfl,?_⟩) ?_
     rotate_left
     ·(intro w;go_simp;try with_reducible rfl)
     try simp only [Act.put,List.setIfInBounds_toArray,List.set_cons_zero,List.set_cons_succ]
     refine wpAny_ready (rs:=[4,5]) (by kernel_rfl) (by simp) ?_
     refine AllReady.cons rfl (fun K hK => ?_) (AllReady.cons rfl (fun K hK => ?_) AllReady.nil)
     ·have c1:=(show wd.cell? ⟨g,1,none⟩=some wv from HDd.out.blk.cell 1 rfl)
      go_simp
      clear c1
      refine hK _ _ ?_
      clear hK K
      try simp only [Act.put,List.getElem_toArray,List.getElem_cons_succ,List.getElem_cons_zero,List.setIfInBounds_toArray,List.set_cons_zero,List.set_cons_succ]
      refine wpAny_ready (rs:=[5]) (by kernel_rfl) (by simp) ?_
      refine AllReady.cons rfl (fun K hK => ?_) AllReady.nil
      refine step_load_wr rfl (.tmp 7) rfl w2.heap.size rfl (wcells P) HKd.out HWL ?_
      refine hK _ _ ?_
      clear hK K
      try simp only [Act.put,List.getElem_toArray,List.getElem_cons_succ,List.getElem_cons_zero,List.setIfInBounds_toArray,List.set_cons_zero,List.set_cons_succ]
      refine wpAny_ready (rs:=[6]) (by kernel_rfl) (by simp) ?_
      refine AllReady.cons rfl (fun K hK => ?_) AllReady.nil
      refine step_build_one rfl (.tmp 34) rfl (wcells P) rfl HWL ?_
      intro w6 hk6 hb6
      have HK6:Hid (Blk w6 wd.heap.size (wcells P).toArray 246):=hk6
      have HB6:Hid (Below wd.heap.size wd w6):=hb6
      have HD6:Hid (Disk w6 base g gs wv (tripsD D)):=HDd.out.stay HB6.out
      clear hk6 hb6
      refine hK _ _ ?_
      clear hK K
      try simp only [Act.put,List.getElem_toArray,List.getElem_cons_succ,List.getElem_cons_zero,List.setIfInBounds_toArray,List.set_cons_zero,List.set_cons_succ]
      refine wpAny_ready (rs:=[7]) (by kernel_rfl) (by simp) ?_
      refine AllReady.cons rfl (fun K hK => ?_) AllReady.nil
      refine step_append_wr rfl (.tmp 33) (.tmp 35) rfl base wv (tripsD D).waits rfl HD6.out.wrow wd.heap.size 1 P rfl HK6.out HPS.out HWX.out (Nat.le_trans HDd.out.bg (Nat.le_trans (Nat.le_of_lt HDd.out.blk.lt) HB6.out.size)) ?_
      intro v7 w7 ho7 hg7
      obtain ⟨a7,n7,k7,rfl⟩:=own_slice ho7
      obtain ⟨HD7,HM7⟩:=HD6.out.wrote P HPS.out HPJ.out HWX.out ho7 hg7
      have f7:w7.frozen? ⟨g,1,none⟩=false:=(HD6.out.blk.grown hg7 HD6.out.apart.2.1).free 1
      have c7:w7.cell? ⟨g,1,none⟩=some wv:=(HD6.out.blk.grown hg7 HD6.out.apart.2.1).cell 1 rfl
      have HD8:Hid (Disk (w7.setCell ⟨g,1,none⟩ (.slice a7 n7 k7)) base g gs (.slice a7 n7 k7) { tripsD D with waits:=(tripsD D).waits++[P] }):=HD7
      have HM8:Hid (Mv w6 (w7.setCell ⟨g,1,none⟩ (.slice a7 n7 k7)) base g gs):=HM7
      clear ho7 hg7 HD7 HM7
      refine hK _ _ ?_
      clear hK K
      try simp only [Act.put,List.getElem_toArray,List.getElem_cons_succ,List.getElem_cons_zero,List.setIfInBounds_toArray,List.set_cons_zero,List.set_cons_succ]
      refine take_put (i:=8) (v:=?_) (some 37) rfl (by kernel_rfl) (by kernel_rfl) (by kernel_rfl) (by kernel_rfl) (fun _ _ _ h=>h) (Or.inl ⟨by rfl,?_⟩) ?_
      rotate_left
      ·(intro w;go_simp;try with_reducible rfl)
      try simp only [Act.put,List.setIfInBounds_toArray,List.set_cons_zero,List.set_cons_succ]
      refine take_put (i:=9) (v:=?_) (some 38) rfl (by kernel_rfl) (by kernel_rfl) (by kernel_rfl) (by kernel_rfl) (fun _ _ _ h=>h) (Or.inl ⟨by rfl,?_⟩) ?_
      rotate_left
      ·(intro w;go_simp;try with_reducible rfl)
      try simp only [Act.put,List.setIfInBounds_toArray,List.set_cons_zero,List.set_cons_succ]
      refine wpAny_ready (rs:=[10]) (by kernel_rfl) (by simp) ?_
      refine AllReady.cons rfl (fun K hK => ?_) AllReady.nil
      go_simp
      clear f7 c7
      refine hK _ _ ?_
      clear hK K
      try simp only [Act.put,List.getElem_toArray,List.getElem_cons_succ,List.getElem_cons_zero,List.setIfInBounds_toArray,List.set_cons_zero,List.set_cons_succ]
      refine wpAny_done (by kernel_rfl) ?_ _
      go_wp2
      go_ret
      exact ⟨by rw [HE.out.1];rfl,⟨_,by rw [HE.out.2,Int.toNat_natCast,← HP.out,← trips_waits];exact HD8.out⟩,(HMd.out.trans (Mv.of_below g gs HB6.out HBSd.out)).trans HM8.out⟩
     ·refine step_load_wr rfl (.tmp 7) rfl w2.heap.size rfl (wcells P) HKd.out HWL ?_
      refine hK _ _ ?_
      clear hK K
      try simp only [Act.put,List.getElem_toArray,List.getElem_cons_succ,List.getElem_cons_zero,List.setIfInBounds_toArray,List.set_cons_zero,List.set_cons_succ]
      refine wpAny_ready (rs:=[4,6]) (by kernel_rfl) (by simp) ?_
      refine AllReady.cons rfl (fun K hK => ?_) (AllReady.cons rfl (fun K hK => ?_) AllReady.nil)
      ·have c1:=(show wd.cell? ⟨g,1,none⟩=some wv from HDd.out.blk.cell 1 rfl)
       go_simp
       clear c1
       refine hK _ _ ?_
       clear hK K
       try simp only [Act.put,List.getElem_toArray,List.getElem_cons_succ,List.getElem_cons_zero,List.setIfInBounds_toArray,List.set_cons_zero,List.set_cons_succ]
       refine wpAny_ready (rs:=[6]) (by kernel_rfl) (by simp) ?_
       refine AllReady.cons rfl (fun K hK => ?_) AllReady.nil
       refine step_build_one rfl (.tmp 34) rfl (wcells P) rfl HWL ?_
       intro w6 hk6 hb6
       have HK6:Hid (Blk w6 wd.heap.size (wcells P).toArray 246):=hk6
       have HB6:Hid (Below wd.heap.size wd w6):=hb6
       have HD6:Hid (Disk w6 base g gs wv (tripsD D)):=HDd.out.stay HB6.out
       clear hk6 hb6
       refine hK _ _ ?_
       clear hK K
       try simp only [Act.put,List.getElem_toArray,List.getElem_cons_succ,List.getElem_cons_zero,List.setIfInBounds_toArray,List.set_cons_zero,List.set_cons_succ]
       refine wpAny_ready (rs:=[7]) (by kernel_rfl) (by simp) ?_
       refine AllReady.cons rfl (fun K hK => ?_) AllReady.nil
       refine step_append_wr rfl (.tmp 33) (.tmp 35) rfl base wv (tripsD D).waits rfl HD6.out.wrow wd.heap.size 1 P rfl HK6.out HPS.out HWX.out (Nat.le_trans HDd.out.bg (Nat.le_trans (Nat.le_of_lt HDd.out.blk.lt) HB6.out.size)) ?_
       intro v7 w7 ho7 hg7
       obtain ⟨a7,n7,k7,rfl⟩:=own_slice ho7
       obtain ⟨HD7,HM7⟩:=HD6.out.wrote P HPS.out HPJ.out HWX.out ho7 hg7
       have f7:w7.frozen? ⟨g,1,none⟩=false:=(HD6.out.blk.grown hg7 HD6.out.apart.2.1).free 1
       have c7:w7.cell? ⟨g,1,none⟩=some wv:=(HD6.out.blk.grown hg7 HD6.out.apart.2.1).cell 1 rfl
       have HD8:Hid (Disk (w7.setCell ⟨g,1,none⟩ (.slice a7 n7 k7)) base g gs (.slice a7 n7 k7) { tripsD D with waits:=(tripsD D).waits++[P] }):=HD7
       have HM8:Hid (Mv w6 (w7.setCell ⟨g,1,none⟩ (.slice a7 n7 k7)) base g gs):=HM7
       clear ho7 hg7 HD7 HM7
       refine hK _ _ ?_
       clear hK K
       try simp only [Act.put,List.getElem_toArray,List.getElem_cons_succ,List.getElem_cons_zero,List.setIfInBounds_toArray,List.set_cons_zero,List.set_cons_succ]
       refine take_put (i:=8) (v:=?_) (some 37) rfl (by kernel_rfl) (by kernel_rfl) (by kernel_rfl) (by kernel_rfl) (fun _ _ _ h=>h) (Or.inl ⟨by rfl,?_⟩) ?_
       rotate_left
       ·(intro w;go_simp;try with_reducible rfl)
       try simp only [Act.put,List.setIfInBounds_toArray,List.set_cons_zero,List.set_cons_succ]
       refine take_put (i:=9) (v:=?_) (some 38) rfl (by kernel_rfl) (by kernel_rfl) (by kernel_rfl) (by kernel_rfl) (fun _ _ _ h=>h) (Or.inl ⟨by rfl,?_⟩) ?_
       rotate_left
       ·(intro w;go_simp;try with_reducible rfl)
       try simp only [Act.put,List.setIfInBounds_toArray,List.set_cons_zero,List.set_cons_succ]
       refine wpAny_ready (rs:=[10]) (by kernel_rfl) (by simp) ?_
       refine AllReady.cons rfl (fun K hK => ?_) AllReady.nil
       go_simp
       clear f7 c7
       refine hK _ _ ?_
       clear hK K
       try simp only [Act.put,List.getElem_toArray,List.getElem_cons_succ,List.getElem_cons_zero,List.setIfInBounds_toArray,List.set_cons_zero,List.set_cons_succ]
       refine wpAny_done (by kernel_rfl) ?_ _
       go_wp2
       go_ret
       exact ⟨by rw [HE.out.1];rfl,⟨_,by rw [HE.out.2,Int.toNat_natCast,← HP.out,← trips_waits];exact HD8.out⟩,(HMd.out.trans (Mv.of_below g gs HB6.out HBSd.out)).trans HM8.out⟩
      ·refine step_build_one rfl (.tmp 34) rfl (wcells P) rfl HWL ?_
       intro w6 hk6 hb6
       have HK6:Hid (Blk w6 wd.heap.size (wcells P).toArray 246):=hk6
       have HB6:Hid (Below wd.heap.size wd w6):=hb6
       have HD6:Hid (Disk w6 base g gs wv (tripsD D)):=HDd.out.stay HB6.out
       clear hk6 hb6
       refine hK _ _ ?_
       clear hK K
       try simp only [Act.put,List.getElem_toArray,List.getElem_cons_succ,List.getElem_cons_zero,List.setIfInBounds_toArray,List.set_cons_zero,List.set_cons_succ]
       refine wpAny_ready (rs:=[4]) (by kernel_rfl) (by simp) ?_
       refine AllReady.cons rfl (fun K hK => ?_) AllReady.nil
       have c1:=(show w6.cell? ⟨g,1,none⟩=some wv from HD6.out.blk.cell 1 rfl)
       go_simp
       clear c1
       refine hK _ _ ?_
       clear hK K
       try simp only [Act.put,List.getElem_toArray,List.getElem_cons_succ,List.getElem_cons_zero,List.setIfInBounds_toArray,List.set_cons_zero,List.set_cons_succ]
       refine wpAny_ready (rs:=[7]) (by kernel_rfl) (by simp) ?_
       refine AllReady.cons rfl (fun K hK => ?_) AllReady.nil
       refine step_append_wr rfl (.tmp 33) (.tmp 35) rfl base wv (tripsD D).waits rfl HD6.out.wrow wd.heap.size 1 P rfl HK6.out HPS.out HWX.out (Nat.le_trans HDd.out.bg (Nat.le_trans (Nat.le_of_lt HDd.out.blk.lt) HB6.out.size)) ?_
       intro v7 w7 ho7 hg7
       obtain ⟨a7,n7,k7,rfl⟩:=own_slice ho7
       obtain ⟨HD7,HM7⟩:=HD6.out.wrote P HPS.out HPJ.out HWX.out ho7 hg7
       have f7:w7.frozen? ⟨g,1,none⟩=false:=(HD6.out.blk.grown hg7 HD6.out.apart.2.1).free 1
       have c7:w7.cell? ⟨g,1,none⟩=some wv:=(HD6.out.blk.grown hg7 HD6.out.apart.2.1).cell 1 rfl
       have HD8:Hid (Disk (w7.setCell ⟨g,1,none⟩ (.slice a7 n7 k7)) base g gs (.slice a7 n7 k7) { tripsD D with waits:=(tripsD D).waits++[P] }):=HD7
       have HM8:Hid (Mv w6 (w7.setCell ⟨g,1,none⟩ (.slice a7 n7 k7)) base g gs):=HM7
       clear ho7 hg7 HD7 HM7
       refine hK _ _ ?_
       clear hK K
       try simp only [Act.put,List.getElem_toArray,List.getElem_cons_succ,List.getElem_cons_zero,List.setIfInBounds_toArray,List.set_cons_zero,List.set_cons_succ]
       refine take_put (i:=8) (v:=?_) (some 37) rfl (by kernel_rfl) (by kernel_rfl) (by kernel_rfl) (by kernel_rfl) (fun _ _ _ h=>h) (Or.inl ⟨by rfl,?_⟩) ?_
       rotate_left
       ·(intro w;go_simp;try with_reducible rfl)
       try simp only [Act.put,List.setIfInBounds_toArray,List.set_cons_zero,List.set_cons_succ]
       refine take_put (i:=9) (v:=?_) (some 38) rfl (by kernel_rfl) (by kernel_rfl) (by kernel_rfl) (by kernel_rfl) (fun _ _ _ h=>h) (Or.inl ⟨by rfl,?_⟩) ?_
       rotate_left
       ·(intro w;go_simp;try with_reducible rfl)
       try simp only [Act.put,List.setIfInBounds_toArray,List.set_cons_zero,List.set_cons_succ]
       refine wpAny_ready (rs:=[10]) (by kernel_rfl) (by simp) ?_
       refine AllReady.cons rfl (fun K hK => ?_) AllReady.nil
       go_simp
       clear f7 c7
       refine hK _ _ ?_
       clear hK K
       try simp only [Act.put,List.getElem_toArray,List.getElem_cons_succ,List.getElem_cons_zero,List.setIfInBounds_toArray,List.set_cons_zero,List.set_cons_succ]
       refine wpAny_done (by kernel_rfl) ?_ _
       go_wp2
       go_ret
       exact ⟨by rw [HE.out.1];rfl,⟨_,by rw [HE.out.2,Int.toNat_natCast,← HP.out,← trips_waits];exact HD8.out⟩,(HMd.out.trans (Mv.of_below g gs HB6.out HBSd.out)).trans HM8.out⟩
end Go.Proofs.YtoiennkfdjnkbaaGreatDoor
