import Derived.Test.YtoiennkfdjnkbaaGreatDoorPk00
import Derived.WalkKit
import Derived.Deep.RegionWith
set_option maxRecDepth 100000
set_option maxHeartbeats 8000000
namespace Go.Proofs.YtoiennkfdjnkbaaGreatDoor
section
open Go.RowKit
def nowS (D:Dk) (i:Nat):Nat→List Nat
 | 0=>D.sure.getD i []
 | k+1=>if (D.waits.getD k (0,[])).1=i then (D.waits.getD k (0,[])).2 else nowS D i k
def nowB (D:Dk) (i:Nat):List Nat:=nowS D i D.waits.length
theorem nowS_sec {w:World} {base g gs:Nat} {wv:Value} {D:Dk} (h:Disk w base g gs wv D) {i:Nat} (hi:i<D.sure.length):∀ k,k≤D.waits.length→Sec (nowS D i k)
 | 0,_=>by
  rw [nowS,List.getD_eq_getElem?_getD,List.getElem?_eq_getElem hi]
  exact h.sec _ (List.getElem_mem hi)
 | k+1,hk=>by
  rw [nowS]
  split
  ·rw [List.getD_eq_getElem?_getD,List.getElem?_eq_getElem (by omega)]
   exact (h.wts _ (List.getElem_mem _)).2
  ·exact nowS_sec h hi k (by omega)
theorem infoBlockZ:(Tryz.prog.info? 244).map (fun i=>(i.zero,i.size))=some (some (.agg (List.replicate 64 (Value.int .u8 0)).toArray),64):=by kernel_rfl
theorem run_alloc_row (w:World) (ty:TypeId) (cs:List Value) (n:Nat) (h:(Tryz.prog.info? ty).map (fun i=>(i.zero,i.size))=some (some (.agg cs.toArray),n)):(Instr.alloc ty true (.tuple #[])).run Tryz.prog w=.ok (.pointer (some ⟨w.heap.size,0,none⟩)) (w.alloc (.cells cs.toArray ty)):=by
 obtain ⟨i,hi,hzz⟩:=Option.map_eq_some_iff.1 h
 simp only [Prod.mk.injEq] at hzz
 simp [Instr.alloc,zeroValue,newVar,typeInfo,hi,hzz.1,Value.cells,go_sem]
theorem wpList_alloc_row {w:World} {ops:Array Oper} {rest:List Oper} {o:Oper} {a:Act} {Q:Exit→Act→World→Prop} (hgd:o.guard=none) (ty:TypeId) (ho:o.op=.alloc ty) (cs:List Value) (n:Nat)
  (hi:(Tryz.prog.info? ty).map (fun i=>(i.zero,i.size))=some (some (.agg cs.toArray),n))
  (h:∀ w',Blk w' w.heap.size cs.toArray ty→Below w.heap.size w w'→w'.heap.size=w.heap.size+1→wpList Tryz.prog ops Q rest (a.put o.dst (.pointer (some ⟨w.heap.size,0,none⟩))) w'):wpList Tryz.prog ops Q (o :: rest) a w:=by
 refine wpList_plain hgd fun K hK => ?_
 unfold Oper.wp
 simp only [execOp,ho,Sem.run_bind,Sem.run_pure,Result.andThen_ok,run_alloc_row w ty cs n hi]
 exact hK _ _ (h _ (Blk.new _ _ _) (below_alloc _ _) (by simp))
theorem results_now {w:World} {tmps:Array Value} {g:Nat} {cs:List Value} (h4:tmps[4]?.getD undef=.pointer (some ⟨g,0,none⟩)) (k:Blk w g cs.toArray 244) (hl:cs.length=64):(results Tryz.f267 tmps).run Tryz.prog w=.ok (.agg cs.toArray) w:=by
 have hr:=run_loadVar_mid (P:=Tryz.prog) w g 0 244 cs _ (k.range 0 cs (fun j v hj=>by simpa using hj)) Tryz.underlying244 rfl (by rw [hl];exact infoBlock)
 simp [results,Tryz.results267,h4,hr,asAddr]
theorem splice_all {α:Type} (L cs:List α) (h:L.length=cs.length):splice L 0 cs=cs:=by
 unfold splice
 rw [List.take_zero,List.nil_append,Nat.zero_add,← h,List.drop_length,List.append_nil]
theorem disk_now (w:World) (base g gs:Nat) (wv:Value) (D:Dk) (i:Nat) (h:Disk w base g gs wv D) (hi:i<D.sure.length) :
  Calls Tryz.prog 267 #[.pointer (some ⟨g,0,none⟩),.int .i64 (i:Int)] w fun e w'=>e=.returned (.agg (vb (nowB D i)).toArray)∧Below w.heap.size w w':=by
 have HD:Hid (Disk w base g gs wv D):=h
 have hsz:=h.sz
 have hwl:=h.wl
 obtain ⟨R,HR⟩:∃ R,Hid (R=nowB D i):=⟨_,rfl⟩
 have HRS:Hid (Sec R):=by show Sec _;rw [HR.out];exact nowS_sec h hi _ (Nat.le_refl _)
 rw [← HR.out]
 obtain ⟨a,n,c,rfl⟩:∃ a n c,wv=.slice a n c:=by
  rcases h.form with ⟨_,a,c,h1⟩ | ⟨gw,c,h1,_⟩
  ·exact ⟨a,0,c,h1⟩
  ·exact ⟨_,_,c,h1⟩
 have hn:n=D.waits.length:=by
  rcases h.form with ⟨h0,a',c',h1⟩ | ⟨gw,c',h1,_⟩
  ·simp only [Value.slice.injEq] at h1;rw [h0];exact h1.2.1
  ·simp only [Value.slice.injEq] at h1;exact h1.2.1
 have HN:Hid (n=D.waits.length):=hn
 rw [← hn] at hwl
 have HSL:Hid ((scells D.sure).length=D.sure.length * 64):=scells_len _ h.sec
 obtain ⟨ns,hns⟩:∃ ns,ns=D.sure.length:=⟨_,rfl⟩
 have HNS:Hid (ns=D.sure.length):=hns
 rw [← hns] at hi hsz
 clear h hn hns
 obtain ⟨Z,HZ⟩:∃ Z:List Value,Hid (Z=List.replicate 64 (Value.int .u8 0)):=⟨_,rfl⟩
 have HZI:Hid ((Tryz.prog.info? 244).map (fun i=>(i.zero,i.size))=some (some (.agg Z.toArray),64)):=by show _=_;rw [HZ.out];exact infoBlockZ
 have HZL:Hid (Z.length=64):=by show _=_;rw [HZ.out];simp
 clear HZ
 go_enter Tryz.func267,Tryz.ntmps267
 go_wp2_with (guard_target =~ wpList _ _ _ (Oper.mk (some 4) _ _ _ _ _ :: _) _ _;refine wpList_alloc_row rfl 244 rfl Z 64 HZI.out ?_)
 intro w1 hk1 hb1 hs1
 have HK1:Hid (Blk w1 w.heap.size Z.toArray 244):=hk1
 have HB1:Hid (Below w.heap.size w w1):=hb1
 have HD1:Hid (Disk w1 base g gs (.slice a n c) D):=HD.out.stay hb1
 have c0:w1.cell? ⟨g,0,none⟩=some (.slice (some ⟨gs,0,none⟩) ns ns):=by have:=HD1.out.blk.cell 0 rfl;rw [← HNS.out] at this;exact this
 have c1:w1.cell? ⟨g,1,none⟩=some (.slice a n c):=HD1.out.blk.cell 1 rfl
 clear hk1 hb1 hs1
 go_wp2
 go_loopw [5] (fun t5 wr=>∃ (m:Nat),m≤n∧t5=.int .i64 ((m:Int) - 1)∧Hid (R=nowS D i m)∧wr=w1) (fun t5 _=>(intOf t5+1).toNat)
 case atStart=>exact ⟨n,Nat.le_refl _,by go_num,by show _=_;rw [HR.out,nowB,HN.out],rfl⟩
 case round =>
  obtain ⟨m,hm,rfl,HE,rfl⟩:=hrel
  cases m with
  | zero =>
   have hE:R=D.sure.getD i []:=HE.out
   have hRi:D.sure[i]? = some R:=by
    have hil:i<D.sure.length:=by have:=HNS.out;omega
    rw [hE,List.getD_eq_getElem?_getD,List.getElem?_eq_getElem hil];rfl
   have HRG:Hid (wr.rangeAt gs (i * 64) (vb R)):=HD1.out.sector hRi
   have hin:(i:Int)<(ns:Int):=by omega
   have hi0:(0:Int)≤(i:Int):=by omega
   clear hE hRi HE
   have HVL:Hid ((vb R).length=64):=by show _=_;rw [vb_length,HRS.out.len]
   go_wp2_with (first
    | (guard_target =~ wpList _ _ _ (Oper.mk (some 40) _ _ _ _ _ :: _) _ _;refine wpList_load_mid rfl 244 (.tmp 39) rfl gs (i * 64) rfl (vb R) _ HRG.out Tryz.underlying244 rfl (by rw [HVL.out];exact infoBlock) ?_)
    | (guard_target =~ wpList _ _ _ (Oper.mk none _ _ _ _ _ :: _) _ _;refine wpList_store_row rfl 244 (.tmp 4) (.tmp 40) rfl w.heap.size 0 (vb R) rfl rfl Z 244 HK1.out (by rw [HVL.out,HZL.out];omega) (by rw [HVL.out];exact infoBlock) (vb_one' R) ?_))
   intro w2 hk2 hg2
   have HK2:Hid (Blk w2 w.heap.size (vb R).toArray 244):=by
    rw [splice_all Z (vb R) (by rw [HZL.out,HVL.out])] at hk2
    exact hk2
   have HB2:Hid (Below w.heap.size w w2):=HB1.out.trans ((Below.refl _ _).grown hg2 HB1.out.size (fun k hk=>by simp only [Option.some.injEq] at hk;omega))
   clear hk2 hg2
   go_wp2
   refine bodyPost_ret (results_now (by rfl) HK2.out HVL.out) rfl ?_
   exact ⟨rfl,HB2.out⟩
  | succ j =>
   have hjn:j<n:=by omega
   have hjw:j<D.waits.length:=by have:=HN.out;omega
   obtain ⟨gw,rfl⟩:∃ gw,a=some ⟨gw,0,none⟩:=by
    rcases HD1.out.form with ⟨h0,_⟩ | ⟨gw,c',h1,_⟩
    ·rw [h0] at hjw;simp at hjw
    ·simp only [Value.slice.injEq] at h1;exact ⟨gw,h1.1⟩
   obtain ⟨p,hp⟩:∃ p,D.waits[j]? = some p:=⟨D.waits[j],List.getElem?_eq_getElem hjw⟩
   have hpg:D.waits.getD j (0,[])=p:=by rw [List.getD_eq_getElem?_getD,hp];rfl
   have hrg:=HD1.out.wait hp
   have hp2:=(HD1.out.wts p (List.mem_of_getElem? hp)).2
   obtain ⟨at_,L⟩:=p
   have ca:wr.cell? ⟨gw,j * 65,none⟩=some (.int .i64 (at_:Int)):=hrg 0 _ rfl
   have hHE:=HE.out
   rw [nowS,hpg] at hHE
   simp only at hHE
   have hj1:((j+1:Nat):Int) - 1=(j:Int):=by omega
   have hj2:(j:Int)+1 - 1=(j:Int):=by omega
   have hj0:(0:Int)≤(j:Int):=by omega
   have hjl:(j:Int)<(n:Int):=by omega
   by_cases hat:at_=i
   ·rw [if_pos hat] at hHE
    have HRG:Hid (wr.rangeAt gw (j * 65+1) (vb R)):=by
     intro q v hq
     rw [hHE] at hq
     have:=hrg (q+1) v (by rw [wcells,List.getElem?_cons_succ];exact hq)
     rw [show j * 65+(q+1)=j * 65+1+q from by omega] at this
     exact this
    have HVL:Hid ((vb R).length=64):=by show _=_;rw [vb_length,HRS.out.len]
    have hati:(at_:Int)=(i:Int):=by omega
    have hati':((at_:Int) == (i:Int))=true:=by rw [beq_iff_eq];exact hati
    clear hHE hrg hp hpg HE hp2
    subst hat
    go_wp2_with (first
     | (guard_target =~ wpList _ _ _ (Oper.mk (some 33) _ _ _ _ _ :: _) _ _;refine wpList_load_mid rfl 244 (.tmp 32) rfl gw (j * 65+1) rfl (vb R) _ HRG.out Tryz.underlying244 rfl (by rw [HVL.out];exact infoBlock) ?_)
     | (guard_target =~ wpList _ _ _ (Oper.mk none _ _ _ _ _ :: _) _ _;refine wpList_store_row rfl 244 (.tmp 4) (.tmp 33) rfl w.heap.size 0 (vb R) rfl rfl Z 244 HK1.out (by rw [HVL.out,HZL.out];omega) (by rw [HVL.out];exact infoBlock) (vb_one' R) ?_))
    intro w2 hk2 hg2
    have HK2:Hid (Blk w2 w.heap.size (vb R).toArray 244):=by
     rw [splice_all Z (vb R) (by rw [HZL.out,HVL.out])] at hk2
     exact hk2
    have HB2:Hid (Below w.heap.size w w2):=HB1.out.trans ((Below.refl _ _).grown hg2 HB1.out.size (fun k hk=>by simp only [Option.some.injEq] at hk;omega))
    clear hk2 hg2
    go_wp2
    refine bodyPost_ret (results_now (by rfl) HK2.out HVL.out) rfl ?_
    exact ⟨rfl,HB2.out⟩
   ·rw [if_neg hat] at hHE
    have HE2:Hid (R=nowS D i j):=hHE
    have hati:¬ (at_:Int)=(i:Int):=by omega
    have hati':((at_:Int) == (i:Int))=false:=by rw [beq_eq_false_iff_ne];exact hati
    clear hHE hrg hp hpg HE hp2
    go_wp2
    go_roundw
    case rel=>exact ⟨j,by omega,by go_num,HE2,by trivial⟩
    case measure=>simp [intOf]
def readE (D:Dk) (i:Int):Int:=if D.down=true then 10 else if hasB D i=true then 0 else 2
def ReadTold (w:World) (B:Nat) (e:Ending) (er:Int) (s:List Nat):Prop :=
 (er≠0∧e=.returned (.tuple #[.slice none 0 0,.int .i64 er]))∨(er=0∧∃ k,e=.returned (.tuple #[.slice (some ⟨k,0,none⟩) 64 64,.int .i64 0])∧B≤k∧Blk w k (vb s).toArray 244∧Sec s)
theorem disk_Read (w:World) (base g gs:Nat) (wv:Value) (D:Dk) (i:Int) (h:Disk w base g gs wv D) :
  Calls Tryz.prog 202 #[.pointer (some ⟨g,0,none⟩),.int .i64 i] w fun e w'=>Hid (ReadTold w' w.heap.size e (readE D i) (nowB D i.toNat))∧Below w.heap.size w w':=by
 have HD:Hid (Disk w base g gs wv D):=h
 have c3:w.cell? ⟨g,3,none⟩=some (.bool D.down):=h.blk.cell 3 rfl
 obtain ⟨R,HR⟩:∃ R,Hid (R=readE D i):=⟨_,rfl⟩
 obtain ⟨T,HT0⟩:∃ T,Hid (T=nowB D i.toNat):=⟨_,rfl⟩
 rw [← HR.out,← HT0.out]
 clear h
 cases hd:D.down with
 | true =>
  rw [hd] at c3
  have HX:Hid (R=10):=by show _=_;rw [HR.out,readE,hd];rfl
  clear hd
  go_enter Tryz.func202,Tryz.ntmps202
  go_wp2
  go_returns
  exact ⟨.inl ⟨by rw [HX.out];decide,by rw [HX.out];rfl⟩,Below.refl _ _⟩
 | false =>
  rw [hd] at c3
  have HDN:Hid (D.down=false):=hd
  clear hd
  go_enter Tryz.func202,Tryz.ntmps202
  go_wp2_with fail
  refine (disk_has w base g gs wv D i HD.out).mono ?_
  rintro e w1 ⟨he,hw⟩
  subst he
  rw [hw]
  clear hw w1
  cases hh:hasB D i with
  | false =>
   have HX:Hid (R=2):=by show _=_;rw [HR.out,readE,HDN.out,hh];rfl
   clear hh
   go_wp2
   go_returns
   exact ⟨.inl ⟨by rw [HX.out];decide,by rw [HX.out];rfl⟩,Below.refl _ _⟩
  | true =>
   have HX:Hid (R=0):=by show _=_;rw [HR.out,readE,HDN.out,hh];rfl
   obtain ⟨h0,h1⟩:=(hasB_iff D i).1 hh
   obtain ⟨j,rfl⟩:=Int.eq_ofNat_of_zero_le h0
   have hj:j<D.sure.length:=by omega
   have HT:Hid (T=nowB D j):=by show _=_;rw [HT0.out,Int.toNat_natCast]
   have HTS:Hid (Sec T):=by show Sec _;rw [HT.out];exact nowS_sec HD.out hj _ (Nat.le_refl _)
   have HVL:Hid ((vb T).length=64):=by show _=_;rw [vb_length,HTS.out.len]
   obtain ⟨Z,HZ⟩:∃ Z:List Value,Hid (Z=List.replicate 64 (Value.int .u8 0)):=⟨_,rfl⟩
   have HZI:Hid ((Tryz.prog.info? 244).map (fun i=>(i.zero,i.size))=some (some (.agg Z.toArray),64)):=by show _=_;rw [HZ.out];exact infoBlockZ
   have HZL:Hid (Z.length=64):=by show _=_;rw [HZ.out];simp
   clear hh h0 h1 HZ
   go_wp2_with fail
   refine (disk_now w base g gs wv D j HD.out hj).mono ?_
   rw [← HT.out]
   rintro e w2 ⟨rfl,hb2⟩
   have HB2:Hid (Below w.heap.size w w2):=hb2
   clear hb2
   go_wp2_with (guard_target =~ wpList _ _ _ (Oper.mk (some 6) _ _ _ _ _ :: _) _ _;refine wpList_alloc_row rfl 244 rfl Z 64 HZI.out ?_)
   intro w3 hk3 hb3 hs3
   have HK3:Hid (Blk w3 w2.heap.size Z.toArray 244):=hk3
   have HB3:Hid (Below w.heap.size w w3):=HB2.out.trans (hb3.mono HB2.out.size)
   have HS3:Hid (w.heap.size≤w2.heap.size):=HB2.out.size
   clear hk3 hb3 hs3
   go_wp2_with (guard_target =~ wpList _ _ _ (Oper.mk none _ _ _ _ _ :: _) _ _;refine wpList_store_row rfl 244 (.tmp 6) (.tmp 19) rfl w2.heap.size 0 (vb T) rfl rfl Z 244 HK3.out (by rw [HVL.out,HZL.out];omega) (by rw [HVL.out];exact infoBlock) (vb_one' T) ?_)
   intro w4 hk4 hg4
   have HK4:Hid (Blk w4 w2.heap.size (vb T).toArray 244):=by
    rw [splice_all Z (vb T) (by rw [HZL.out,HVL.out])] at hk4
    exact hk4
   have HB4:Hid (Below w.heap.size w w4):=HB3.out.trans ((Below.refl _ _).grown hg4 HB3.out.size (fun k hk=>by simp only [Option.some.injEq] at hk;have:=HS3.out;omega))
   clear hk4 hg4
   go_wp2
   go_returns
   exact ⟨.inr ⟨HX.out,w2.heap.size,rfl,HS3.out,HK4.out,HTS.out⟩,HB4.out⟩
end
section
theorem take_put {P:Program} {ops:Array Oper} {Q:Exit→Act→World→Prop} {md:Region.Mode} {i:Nat} {oi:Oper} {v:Value} {fuel:Nat} {listed:Array Bool} {a:Act} {w:World} (d:Option Nat) (hi:ops[i]? = some oi) (hd:oi.dst=d)
  (hs:Region.noSelect ops=true) (hf:Region.free md ops listed i=true) (hr:(Region.ready md ops listed).contains i=true)
  (hQ:∀ c a w,Q (.panic c) (a.put d v) w→Q (.panic c) a w) (hy:Yields P ops oi v a)
  (h:wpAny P md ops Q fuel (listed.setIfInBounds i true) (a.put d v) w):wpAny P md ops Q (fuel+1) listed a w:=by
 subst hd
 exact wpAny_take hi hs hf hr hQ hy h
end
end Go.Proofs.YtoiennkfdjnkbaaGreatDoor
