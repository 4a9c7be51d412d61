import Derived.Test.YtghajmcohdedlaaGreatRk5
namespace Go.Proofs.YtghajmcohdedlaaGreat
open Go.RowKit
theorem infoSl : (Tryz.prog.info? 27).map (fun i => (i.zero,i.size,i.bytes)) = some (some (.slice none 0 0),1,24):=by kernel_rfl
theorem step_append_gen {w : World} {ops : Array Oper} {o : Oper} {a : Act} {K : Act → World → Prop} {Q : Exit → Act → World → Prop} {E : Prop} (hgd : o.guard = none) (s x : Operand) (t : TypeId)
  (ho : o.op = .call { callee:=.builtin .append,args:=#[s,x],argTypes:=#[t,t] })
  (base : Nat) (e : TypeId) (i : TypeInfo) (z : Value) (size bytes : Nat) (ht : Tryz.prog.underlying t = some (.slice e)) (hi : Tryz.prog.info? e = some i) (hz : i.zero = some z)
  (hsize : i.size = size) (hby : i.bytes = bytes) (hzs : z.cells.size = size) (hsz : 0 < size)
  (v : Value) (n : Nat) (xs : List Value) (hs : a.eval s = v) (hown : w.ownsRow base e size v n xs)
  (ad : Addr) (m c : Nat) (news : List Value) (hx : a.eval x = .slice (some ad) m c) (hl : news.length = m * size) (hnews : ∀ j u,news[j]? = some u → w.cell? (ad.add j) = some u) (h1 : ∀ u ∈ news,u.oneCell' = true)
  (h63 : n + m ≤ maxLen) (hbytes : (n + m) * bytes ≤ 140737488355328) (hbase : base ≤ w.heap.size)
  (h : ∀ v' w',w'.ownsRow base e size v' (n + m) (xs ++ news) → w.grownBy w' v.ownBlock → K (a.put o.dst v') w') : if Region.wanted o (yielded ops a.tmps) = true then Oper.wp Tryz.prog o a w K Q else E:=by
 rw [if_pos (by simp [Region.wanted,hgd])]
 exact wp_append_own w s x t ho base e i z size bytes ht hi hz hsize hby hzs hsz v n xs hs hown ad m c news hx hl hnews h1 h63 hbytes hbase fun v' w' h2 h3 _ => h v' w' h2 h3
theorem step_make64 {w : World} {ops : Array Oper} {o : Oper} {a : Act} {K : Act → World → Prop} {Q : Exit → Act → World → Prop} {E : Prop} (hgd : o.guard = none) (ho : o.op = .makeSlice 27 (.const (.int .i64 64)) (.const (.int .i64 64)))
  (h : ∀ w',Own w' w.heap.size (some ⟨w.heap.size,0,none⟩) 64 64 (List.replicate 64 0) → Below w.heap.size w w' → K (a.put o.dst (.slice (some ⟨w.heap.size,0,none⟩) 64 64)) w') : if Region.wanted o (yielded ops a.tmps) = true then Oper.wp Tryz.prog o a w K Q else E:=by
 rw [if_pos (by simp [Region.wanted,hgd])]
 obtain ⟨i0,hi,hz0,hz1,hz2⟩:=info_parts infoByte
 obtain ⟨w',hr,h1,h2⟩:=run_make_full (P:=Tryz.prog) w w.heap.size 27 5 i0 (.int .u8 0) 1 Tryz.underlying27 hi hz0 hz1 .i64 .i64 64 (by rw [hz2];omega) (by unfold maxLen;omega) (Nat.le_refl _)
 have e : (madeCells (Value.int .u8 0).cells (64 * 1)).toList = vb (List.replicate 64 0):=by
  rw [show (Value.int .u8 0).cells = #[Value.int .u8 0] from rfl,toList_madeCells_one]
  simp [vb]
 rw [e] at h1
 unfold Oper.wp
 simp only [execOp,ho,Act.eval,Sem.run_bind,Sem.run_pure]
 have hr' : (Instr.makeSlice 27 (.int .i64 64) (.int .i64 64)).run Tryz.prog w = .ok (.slice (some ⟨w.heap.size,0,none⟩) 64 64) w':=hr
 rw [hr']
 exact h w' ⟨h1,fun x hx => by rw [List.eq_of_mem_replicate hx];omega⟩ ((Below.refl _ _).grown h2 (Nat.le_refl _) (fun k hk => by cases hk))
theorem run_build_sl (w : World) (y : Option Addr) (l c : Nat) : (Instr.buildSlice 63 1 #[(0,.slice y l c)]).run Tryz.prog w = .ok (.slice (some ⟨w.heap.size,0,none⟩) 1 1) (w.alloc (.cells #[.slice y l c] 27)):=by
 obtain ⟨i0,hi,hz0,hz1,hz2⟩:=info_parts infoSl
 simp [Instr.buildSlice,run_underlying Tryz.underlying63,sizeOf,typeInfo,hi,hz0,hz1,zeroValue,Value.cells,go_sem]
theorem step_build_sl {w : World} {ops : Array Oper} {o : Oper} {a : Act} {K : Act → World → Prop} {Q : Exit → Act → World → Prop} {E : Prop} (hgd : o.guard = none) (x : Operand) (ho : o.op = .buildSlice 63 1 #[(0,x)]) (y : Option Addr) (l c : Nat) (hx : a.eval x = .slice y l c)
  (h : ∀ w',Blk w' w.heap.size #[.slice y l c] 27 → Below w.heap.size w w' → K (a.put o.dst (.slice (some ⟨w.heap.size,0,none⟩) 1 1)) w') : if Region.wanted o (yielded ops a.tmps) = true then Oper.wp Tryz.prog o a w K Q else E:=by
 rw [if_pos (by simp [Region.wanted,hgd])]
 unfold Oper.wp
 simp only [execOp,ho,Sem.run_bind,Sem.run_pure,Result.andThen_ok,List.map_toArray,List.map_cons,List.map_nil,hx,run_build_sl w y l c]
 exact h _ (Blk.new _ _ _) (below_alloc _ _)
theorem Blk.news_one {w : World} {k : Nat} {v : Value} {t : TypeId} (h : Blk w k #[v] t) : ∀ j u,[v][j]? = some u → w.cell? ((⟨k,0,none⟩ : Addr).add j) = some u:=fun j u hj => by
 have e : (⟨k,0,none⟩ : Addr).add j = ⟨k,0 + j,none⟩:=by unfold Addr.add;split <;> simp_all
 rw [e,Nat.zero_add]
 exact h.cell j (by simpa using hj)
structure NewIn (w : World) (base r q : Nat) (sv : Value) (SV : List Value) (i : Nat) : Prop where
 blk : Blk w r #[sv,.slice none 0 0,.int .i64 0,.bool false,.int .i64 0] 66
 srow : w.ownsRow base 27 1 sv i SV
 br : base ≤ r
 each : ∀ (j : Nat),j < i → ∃ v,SV[j]? = some v ∧ Byt w q v (List.replicate 64 0)
theorem NewIn.stay {w w' : World} {base r q : Nat} {sv : Value} {SV : List Value} {i : Nat} (h : NewIn w base r q sv SV i) (hb : Below w.heap.size w w') : NewIn w' base r q sv SV i :=
 ⟨h.blk.stay hb,own_stay h.srow (fun k hk => hb.block k (h.srow.lt k hk).2),h.br,fun j hj => (h.each j hj).imp fun _ hv => ⟨hv.1,hv.2.move (fun k cur hk _ => by rw [hb.block k (heap_lt hk)];exact hk)⟩⟩
theorem NewIn.apart {w : World} {base r q : Nat} {sv : Value} {SV : List Value} {i : Nat} (h : NewIn w base r q sv SV i) : some r ≠ sv.ownBlock:=own_ne h.srow h.blk (by decide)
theorem NewIn.more {w w' : World} {base r q : Nat} {sv v' bv : Value} {SV : List Value} {i : Nat} (h : NewIn w base r q sv SV i) (hb : Byt w q bv (List.replicate 64 0)) (ho : w'.ownsRow base 27 1 v' (i + 1) (SV ++ [bv])) (hg : w.grownBy w' sv.ownBlock) :
  NewIn (w'.setCell ⟨r,0,none⟩ v') base r q v' (SV ++ [bv]) (i + 1):=by
 have k1 : Blk w' r _ 66:=h.blk.grown hg h.apart
 have hc:=grown_cell w' r 0 v'
 have hmv : ∀ (k : Nat) cur,w.heap[k]? = some (.cells cur 5 (0,0)) → k ≠ q → (w'.setCell ⟨r,0,none⟩ v').heap[k]? = some (.cells cur 5 (0,0)):=fun k cur hk _ => by
  have h1 : w'.heap[k]? = some (.cells cur 5 (0,0)):=by rw [hg.block k (heap_lt hk) (own_ne' h.srow hk (by decide))];exact hk
  rw [hc.block k (heap_lt h1) (fun e => by simp only [Option.some.injEq] at e;exact blk_ne h1 k1 (by decide) e)]
  exact h1
 have hsl : SV.length = i:=by have:=h.srow.1;omega
 refine ⟨k1.set 0 v',own_type ho (fun k cs hk => ?_),h.br,fun j hj => ?_⟩
 ·rw [hc.block k (heap_lt hk) (fun e => by simp only [Option.some.injEq] at e;exact blk_ne hk k1 (by decide) e)]
  exact hk
 ·by_cases hji : j < i
  ·obtain ⟨v,h1,h2⟩:=h.each j hji
   exact ⟨v,by rw [List.getElem?_append_left (by omega)];exact h1,h2.move hmv⟩
  ·obtain rfl : j = i:=by omega
   exact ⟨bv,by rw [List.getElem?_append_right (by omega),hsl,Nat.sub_self];rfl,hb.move hmv⟩
theorem NewIn.done {w : World} {base r q : Nat} {sv : Value} {SV : List Value} {n : Nat} (h : NewIn w base r q sv SV n) (h1 : 1 ≤ n) (h2 : n ≤ 512) : Rk w base r q sv (.slice none 0 0) SV [] (newD n):=by
 refine ⟨h.blk,by simpa [newD] using h.srow,World.ownsRow_nil _ _ _ _,h.br,by simpa [newD] using h1,by simpa [newD] using h2,fun i s hs => ?_,fun i p hp => by simp [newD] at hp,Nat.zero_le _,Nat.zero_le _,Nat.zero_le _⟩
 rw [newD] at hs
 simp only [List.getElem?_replicate] at hs
 split at hs
 ·rename_i hi
  simp only [Option.some.injEq] at hs
  subst hs
  exact h.each i hi
 ·cases hs
set_option maxRecDepth 100000 in
set_option maxHeartbeats 2000000 in
theorem ref_New (n : Nat) (h1 : 1 ≤ n) (h2 : n ≤ 512) (q : Nat) (w : World) (hq : q < w.heap.size) : Calls Tryz.prog 24 #[.int .i64 (n : Int)] w fun e w' => ∃ r,e = .returned (.tuple #[.pointer (some ⟨r,0,none⟩),.int .i64 0]) ∧ Hid (∃ sv SV,Rk w' w.heap.size r q sv (.slice none 0 0) SV [] (newD n)) ∧ Below w.heap.size w w':=by
 obtain ⟨base,hbase⟩ : ∃ base,base = w.heap.size:=⟨_,rfl⟩
 have HBASE : Hid (base = w.heap.size):=hbase
 rw [← hbase]
 have HQ : Hid (q < w.heap.size):=hq
 obtain ⟨i0,hi,hz0,hz1,hz2⟩:=info_parts infoSl
 have hn1 : ¬ (n : Int) < 1:=by omega
 have hn2 : ¬ (512 : Int) < (n : Int):=by omega
 clear hbase hq
 go_enter Tryz.func24,Tryz.ntmps24
 go_wp2
 obtain ⟨r,hr⟩ : ∃ r,r = w.heap.size:=⟨_,rfl⟩
 have HR : Hid (r = w.heap.size):=hr
 rw [← hr]
 have HI0 : Hid (NewIn (w.alloc (.cells #[.slice none 0 0,.slice none 0 0,.int .i64 0,.bool false,.int .i64 0] 66)) base r q (.slice none 0 0) [] 0):=by
  show NewIn _ _ _ _ _ _ _
  rw [hr]
  exact ⟨Blk.new _ _ _,World.ownsRow_nil _ _ _ _,by rw [HBASE.out];exact Nat.le_refl _,fun j hj => by omega⟩
 have HB0 : Hid (Below base w (w.alloc (.cells #[.slice none 0 0,.slice none 0 0,.int .i64 0,.bool false,.int .i64 0] 66))):=by show Below _ _ _;rw [HBASE.out];exact below_alloc _ _
 clear hr
 go_loopw [5] (fun t5 wr => ∃ (i : Nat) (sv : Value) (SV : List Value),i ≤ n ∧ t5 = .int .i64 (i : Int) ∧ Hid (NewIn wr base r q sv SV i) ∧ Hid (Below base w wr)) (fun t5 _ => n - (intOf t5).toNat)
 case atStart => exact ⟨0,_,[],by omega,rfl,HI0,HB0⟩
 case round =>
  obtain ⟨i,sv,SV,hin,rfl,HI,HB⟩:=hrel
  by_cases hlt : i < n
  ·have hlt' : (i : Int) < (n : Int):=by omega
   have HId : Hid (NewIn wr.drew base r q sv SV i):=HI.out.stay (Below.refl _ _).drew
   have HBd : Hid (Below base w wr.drew):=HB.out.drew
   have HBD : Hid (base ≤ wr.drew.heap.size):=Nat.le_trans HId.out.br (Nat.le_of_lt HId.out.blk.lt)
   have HQd : Hid (q < wr.drew.heap.size):=by show _ < _;have:=HQ.out;have:=HBD.out;have:=HBASE.out;omega
   go_wp2
   refine wp_region_any (by kernel_rfl) ?_
   change wpAny _ _ _ _ _ _ _ (World.drew _)
   generalize wr.drew = wd at *
   refine take_put (i:=0) (v:=?_) (some 19) rfl (by kernel_rfl) (by kernel_rfl) (by kernel_rfl) (by kernel_rfl) (fun _ _ _ h => h) (Or.inl ⟨by rfl,?_⟩) ?_
   rotate_left
   ·(intro w;go_simp;try with_reducible rfl)
   try simp only [Act.put,List.setIfInBounds_toArray,List.set_cons_zero,List.set_cons_succ]
   refine take_put (i:=1) (v:=?_) (some 20) rfl (by kernel_rfl) (by kernel_rfl) (by kernel_rfl) (by kernel_rfl) (fun _ _ _ h => h) (Or.inl ⟨by rfl,?_⟩) ?_
   rotate_left
   ·(intro w;go_simp;try with_reducible rfl)
   try simp only [Act.put,List.setIfInBounds_toArray,List.set_cons_zero,List.set_cons_succ]
   refine take_put (i:=2) (v:=?_) (some 21) rfl (by kernel_rfl) (by kernel_rfl) (by kernel_rfl) (by kernel_rfl) (fun _ _ _ h => h) (Or.inl ⟨by rfl,?_⟩) ?_
   rotate_left
   ·(intro w;go_simp;try with_reducible rfl)
   try simp only [Act.put,List.setIfInBounds_toArray,List.set_cons_zero,List.set_cons_succ]
   refine take_put (i:=3) (v:=?_) (some 22) rfl (by kernel_rfl) (by kernel_rfl) (by kernel_rfl) (by kernel_rfl) (fun _ _ _ h => h) (Or.inl ⟨by rfl,?_⟩) ?_
   rotate_left
   ·(intro w;go_simp;try with_reducible rfl)
   try simp only [Act.put,List.setIfInBounds_toArray,List.set_cons_zero,List.set_cons_succ]
   refine wpAny_ready (rs:=[4,5]) (by kernel_rfl) (by simp) ?_
   refine AllReady.cons rfl (fun K hK => ?_) (AllReady.cons rfl (fun K hK => ?_) AllReady.nil)
   ·have c1 : wd.cell? ⟨r,0,none⟩ = some sv:=HId.out.blk.cell 0 rfl
    go_simp
    clear c1
    refine hK _ _ ?_
    clear hK K
    try simp only [Act.put,List.getElem_toArray,List.getElem_cons_succ,List.getElem_cons_zero,List.setIfInBounds_toArray,List.set_cons_zero,List.set_cons_succ]
    refine wpAny_ready (rs:=[5]) (by kernel_rfl) (by simp) ?_
    refine AllReady.cons rfl (fun K hK => ?_) AllReady.nil
    refine step_make64 rfl rfl ?_
    intro w5 ho5 hb5
    have HO5 : Hid (Own w5 wd.heap.size (some ⟨wd.heap.size,0,none⟩) 64 64 (List.replicate 64 0)):=ho5
    have HB5 : Hid (Below wd.heap.size wd w5):=hb5
    clear ho5 hb5
    refine hK _ _ ?_
    clear hK K
    try simp only [Act.put,List.getElem_toArray,List.getElem_cons_succ,List.getElem_cons_zero,List.setIfInBounds_toArray,List.set_cons_zero,List.set_cons_succ]
    refine wpAny_ready (rs:=[6]) (by kernel_rfl) (by simp) ?_
    refine AllReady.cons rfl (fun K hK => ?_) AllReady.nil
    refine step_build_sl rfl (.tmp 24) rfl (some ⟨wd.heap.size,0,none⟩) 64 64 rfl ?_
    intro w6 hk6 hb6
    have HK6 : Hid (Blk w6 w5.heap.size #[.slice (some ⟨wd.heap.size,0,none⟩) 64 64] 27):=hk6
    have HB6 : Hid (Below w5.heap.size w5 w6):=hb6
    clear hk6 hb6
    refine hK _ _ ?_
    clear hK K
    try simp only [Act.put,List.getElem_toArray,List.getElem_cons_succ,List.getElem_cons_zero,List.setIfInBounds_toArray,List.set_cons_zero,List.set_cons_succ]
    have HB06 : Hid (Below wd.heap.size wd w6):=HB5.out.trans (HB6.out.mono HB5.out.size)
    have HI6 : Hid (NewIn w6 base r q sv SV i):=HId.out.stay HB06.out
    refine wpAny_ready (rs:=[7]) (by kernel_rfl) (by simp) ?_
    refine AllReady.cons rfl (fun K hK => ?_) AllReady.nil
    refine step_append_gen rfl (.tmp 23) (.tmp 25) 63 rfl base 27 i0 (.slice none 0 0) 1 24 Tryz.underlying63 hi hz0 hz1 hz2 (by rfl) (by decide) sv i SV rfl HI6.out.srow ⟨w5.heap.size,0,none⟩ 1 1 [.slice (some ⟨wd.heap.size,0,none⟩) 64 64] rfl rfl (HK6.out.news_one) (by simp [Value.oneCell']) (by unfold maxLen;omega) (by omega) (by have:=HB06.out.size;have:=HBD.out;omega) ?_
    intro v7 w7 ho7 hg7
    obtain ⟨a7,n7,k7,rfl⟩:=own_slice ho7
    have f7 : w7.frozen? ⟨r,0,none⟩ = false:=(HI6.out.blk.grown hg7 HI6.out.apart).free 0
    have c7 : w7.cell? ⟨r,0,none⟩ = some sv:=(HI6.out.blk.grown hg7 HI6.out.apart).cell 0 rfl
    have HI8 : Hid (NewIn (w7.setCell ⟨r,0,none⟩ (.slice a7 n7 k7)) base r q (.slice a7 n7 k7) (SV ++ [.slice (some ⟨wd.heap.size,0,none⟩) 64 64]) (i + 1)):=HI6.out.more (Byt.of_own (HO5.out.below HB6.out) HQd.out) ho7 hg7
    have HB8 : Hid (Below base w (w7.setCell ⟨r,0,none⟩ (.slice a7 n7 k7))):=(HBd.out.trans (HB06.out.mono HBD.out)).trans (((Below.refl _ _).grown hg7 (by have:=HB06.out.size;have:=HBD.out;omega) (fun j hj => (HI6.out.srow.lt j hj).1)).trans ((Below.refl _ _).setCell HI6.out.br _))
    clear ho7 hg7
    refine hK _ _ ?_
    clear hK K
    try simp only [Act.put,List.getElem_toArray,List.getElem_cons_succ,List.getElem_cons_zero,List.setIfInBounds_toArray,List.set_cons_zero,List.set_cons_succ]
    refine take_put (i:=8) (v:=?_) (some 27) rfl (by kernel_rfl) (by kernel_rfl) (by kernel_rfl) (by kernel_rfl) (fun _ _ _ h => h) (Or.inl ⟨by rfl,?_⟩) ?_
    rotate_left
    ·(intro w;go_simp;try with_reducible rfl)
    try simp only [Act.put,List.setIfInBounds_toArray,List.set_cons_zero,List.set_cons_succ]
    refine take_put (i:=9) (v:=?_) (some 28) rfl (by kernel_rfl) (by kernel_rfl) (by kernel_rfl) (by kernel_rfl) (fun _ _ _ h => h) (Or.inl ⟨by rfl,?_⟩) ?_
    rotate_left
    ·(intro w;go_simp;try with_reducible rfl)
    try simp only [Act.put,List.setIfInBounds_toArray,List.set_cons_zero,List.set_cons_succ]
    refine wpAny_ready (rs:=[10]) (by kernel_rfl) (by simp) ?_
    refine AllReady.cons rfl (fun K hK => ?_) AllReady.nil
    go_simp
    clear f7 c7
    refine hK _ _ ?_
    clear hK K
    try simp only [Act.put,List.getElem_toArray,List.getElem_cons_succ,List.getElem_cons_zero,List.setIfInBounds_toArray,List.set_cons_zero,List.set_cons_succ]
    refine wpAny_done (by kernel_rfl) ?_ _
    go_wp2
    go_roundw
    case rel => exact ⟨i + 1,_,_,by omega,by go_num,HI8,HB8⟩
    case measure => simp [intOf];omega
   ·refine step_make64 rfl rfl ?_
    intro w5 ho5 hb5
    have HO5 : Hid (Own w5 wd.heap.size (some ⟨wd.heap.size,0,none⟩) 64 64 (List.replicate 64 0)):=ho5
    have HB5 : Hid (Below wd.heap.size wd w5):=hb5
    clear ho5 hb5
    refine hK _ _ ?_
    clear hK K
    try simp only [Act.put,List.getElem_toArray,List.getElem_cons_succ,List.getElem_cons_zero,List.setIfInBounds_toArray,List.set_cons_zero,List.set_cons_succ]
    refine wpAny_ready (rs:=[4,6]) (by kernel_rfl) (by simp) ?_
    refine AllReady.cons rfl (fun K hK => ?_) (AllReady.cons rfl (fun K hK => ?_) AllReady.nil)
    ·have c1 : w5.cell? ⟨r,0,none⟩ = some sv:=(HId.out.stay HB5.out).blk.cell 0 rfl
     go_simp
     clear c1
     refine hK _ _ ?_
     clear hK K
     try simp only [Act.put,List.getElem_toArray,List.getElem_cons_succ,List.getElem_cons_zero,List.setIfInBounds_toArray,List.set_cons_zero,List.set_cons_succ]
     refine wpAny_ready (rs:=[6]) (by kernel_rfl) (by simp) ?_
     refine AllReady.cons rfl (fun K hK => ?_) AllReady.nil
     refine step_build_sl rfl (.tmp 24) rfl (some ⟨wd.heap.size,0,none⟩) 64 64 rfl ?_
     intro w6 hk6 hb6
     have HK6 : Hid (Blk w6 w5.heap.size #[.slice (some ⟨wd.heap.size,0,none⟩) 64 64] 27):=hk6
     have HB6 : Hid (Below w5.heap.size w5 w6):=hb6
     clear hk6 hb6
     refine hK _ _ ?_
     clear hK K
     try simp only [Act.put,List.getElem_toArray,List.getElem_cons_succ,List.getElem_cons_zero,List.setIfInBounds_toArray,List.set_cons_zero,List.set_cons_succ]
     have HB06 : Hid (Below wd.heap.size wd w6):=HB5.out.trans (HB6.out.mono HB5.out.size)
     have HI6 : Hid (NewIn w6 base r q sv SV i):=HId.out.stay HB06.out
     refine wpAny_ready (rs:=[7]) (by kernel_rfl) (by simp) ?_
     refine AllReady.cons rfl (fun K hK => ?_) AllReady.nil
     refine step_append_gen rfl (.tmp 23) (.tmp 25) 63 rfl base 27 i0 (.slice none 0 0) 1 24 Tryz.underlying63 hi hz0 hz1 hz2 (by rfl) (by decide) sv i SV rfl HI6.out.srow ⟨w5.heap.size,0,none⟩ 1 1 [.slice (some ⟨wd.heap.size,0,none⟩) 64 64] rfl rfl (HK6.out.news_one) (by simp [Value.oneCell']) (by unfold maxLen;omega) (by omega) (by have:=HB06.out.size;have:=HBD.out;omega) ?_
     intro v7 w7 ho7 hg7
     obtain ⟨a7,n7,k7,rfl⟩:=own_slice ho7
     have f7 : w7.frozen? ⟨r,0,none⟩ = false:=(HI6.out.blk.grown hg7 HI6.out.apart).free 0
     have c7 : w7.cell? ⟨r,0,none⟩ = some sv:=(HI6.out.blk.grown hg7 HI6.out.apart).cell 0 rfl
     have HI8 : Hid (NewIn (w7.setCell ⟨r,0,none⟩ (.slice a7 n7 k7)) base r q (.slice a7 n7 k7) (SV ++ [.slice (some ⟨wd.heap.size,0,none⟩) 64 64]) (i + 1)):=HI6.out.more (Byt.of_own (HO5.out.below HB6.out) HQd.out) ho7 hg7
     have HB8 : Hid (Below base w (w7.setCell ⟨r,0,none⟩ (.slice a7 n7 k7))):=(HBd.out.trans (HB06.out.mono HBD.out)).trans (((Below.refl _ _).grown hg7 (by have:=HB06.out.size;have:=HBD.out;omega) (fun j hj => (HI6.out.srow.lt j hj).1)).trans ((Below.refl _ _).setCell HI6.out.br _))
     clear ho7 hg7
     refine hK _ _ ?_
     clear hK K
     try simp only [Act.put,List.getElem_toArray,List.getElem_cons_succ,List.getElem_cons_zero,List.setIfInBounds_toArray,List.set_cons_zero,List.set_cons_succ]
     refine take_put (i:=8) (v:=?_) (some 27) rfl (by kernel_rfl) (by kernel_rfl) (by kernel_rfl) (by kernel_rfl) (fun _ _ _ h => h) (Or.inl ⟨by rfl,?_⟩) ?_
     rotate_left
     ·(intro w;go_simp;try with_reducible rfl)
     try simp only [Act.put,List.setIfInBounds_toArray,List.set_cons_zero,List.set_cons_succ]
     refine take_put (i:=9) (v:=?_) (some 28) rfl (by kernel_rfl) (by kernel_rfl) (by kernel_rfl) (by kernel_rfl) (fun _ _ _ h => h) (Or.inl ⟨by rfl,?_⟩) ?_
     rotate_left
     ·(intro w;go_simp;try with_reducible rfl)
     try simp only [Act.put,List.setIfInBounds_toArray,List.set_cons_zero,List.set_cons_succ]
     refine wpAny_ready (rs:=[10]) (by kernel_rfl) (by simp) ?_
     refine AllReady.cons rfl (fun K hK => ?_) AllReady.nil
     go_simp
     clear f7 c7
     refine hK _ _ ?_
     clear hK K
     try simp only [Act.put,List.getElem_toArray,List.getElem_cons_succ,List.getElem_cons_zero,List.setIfInBounds_toArray,List.set_cons_zero,List.set_cons_succ]
     refine wpAny_done (by kernel_rfl) ?_ _
     go_wp2
     go_roundw
     case rel => exact ⟨i + 1,_,_,by omega,by go_num,HI8,HB8⟩
     case measure => simp [intOf];omega
    ·refine step_build_sl rfl (.tmp 24) rfl (some ⟨wd.heap.size,0,none⟩) 64 64 rfl ?_
     intro w6 hk6 hb6
     have HK6 : Hid (Blk w6 w5.heap.size #[.slice (some ⟨wd.heap.size,0,none⟩) 64 64] 27):=hk6
     have HB6 : Hid (Below w5.heap.size w5 w6):=hb6
     clear hk6 hb6
     refine hK _ _ ?_
     clear hK K
     try simp only [Act.put,List.getElem_toArray,List.getElem_cons_succ,List.getElem_cons_zero,List.setIfInBounds_toArray,List.set_cons_zero,List.set_cons_succ]
     refine wpAny_ready (rs:=[4]) (by kernel_rfl) (by simp) ?_
     refine AllReady.cons rfl (fun K hK => ?_) AllReady.nil
     have c1 : w6.cell? ⟨r,0,none⟩ = some sv:=((HId.out.stay HB5.out).stay HB6.out).blk.cell 0 rfl
     go_simp
     clear c1
     refine hK _ _ ?_
     clear hK K
     try simp only [Act.put,List.getElem_toArray,List.getElem_cons_succ,List.getElem_cons_zero,List.setIfInBounds_toArray,List.set_cons_zero,List.set_cons_succ]
     have HB06 : Hid (Below wd.heap.size wd w6):=HB5.out.trans (HB6.out.mono HB5.out.size)
     have HI6 : Hid (NewIn w6 base r q sv SV i):=HId.out.stay HB06.out
     refine wpAny_ready (rs:=[7]) (by kernel_rfl) (by simp) ?_
     refine AllReady.cons rfl (fun K hK => ?_) AllReady.nil
     refine step_append_gen rfl (.tmp 23) (.tmp 25) 63 rfl base 27 i0 (.slice none 0 0) 1 24 Tryz.underlying63 hi hz0 hz1 hz2 (by rfl) (by decide) sv i SV rfl HI6.out.srow ⟨w5.heap.size,0,none⟩ 1 1 [.slice (some ⟨wd.heap.size,0,none⟩) 64 64] rfl rfl (HK6.out.news_one) (by simp [Value.oneCell']) (by unfold maxLen;omega) (by omega) (by have:=HB06.out.size;have:=HBD.out;omega) ?_
     intro v7 w7 ho7 hg7
     obtain ⟨a7,n7,k7,rfl⟩:=own_slice ho7
     have f7 : w7.frozen? ⟨r,0,none⟩ = false:=(HI6.out.blk.grown hg7 HI6.out.apart).free 0
     have c7 : w7.cell? ⟨r,0,none⟩ = some sv:=(HI6.out.blk.grown hg7 HI6.out.apart).cell 0 rfl
     have HI8 : Hid (NewIn (w7.setCell ⟨r,0,none⟩ (.slice a7 n7 k7)) base r q (.slice a7 n7 k7) (SV ++ [.slice (some ⟨wd.heap.size,0,none⟩) 64 64]) (i + 1)):=HI6.out.more (Byt.of_own (HO5.out.below HB6.out) HQd.out) ho7 hg7
     have HB8 : Hid (Below base w (w7.setCell ⟨r,0,none⟩ (.slice a7 n7 k7))):=(HBd.out.trans (HB06.out.mono HBD.out)).trans (((Below.refl _ _).grown hg7 (by have:=HB06.out.size;have:=HBD.out;omega) (fun j hj => (HI6.out.srow.lt j hj).1)).trans ((Below.refl _ _).setCell HI6.out.br _))
     clear ho7 hg7
     refine hK _ _ ?_
     clear hK K
     try simp only [Act.put,List.getElem_toArray,List.getElem_cons_succ,List.getElem_cons_zero,List.setIfInBounds_toArray,List.set_cons_zero,List.set_cons_succ]
     refine take_put (i:=8) (v:=?_) (some 27) rfl (by kernel_rfl) (by kernel_rfl) (by kernel_rfl) (by kernel_rfl) (fun _ _ _ h => h) (Or.inl ⟨by rfl,?_⟩) ?_
     rotate_left
     ·(intro w;go_simp;try with_reducible rfl)
     try simp only [Act.put,List.setIfInBounds_toArray,List.set_cons_zero,List.set_cons_succ]
     refine take_put (i:=9) (v:=?_) (some 28) rfl (by kernel_rfl) (by kernel_rfl) (by kernel_rfl) (by kernel_rfl) (fun _ _ _ h => h) (Or.inl ⟨by rfl,?_⟩) ?_
     rotate_left
     ·(intro w;go_simp;try with_reducible rfl)
     try simp only [Act.put,List.setIfInBounds_toArray,List.set_cons_zero,List.set_cons_succ]
     refine wpAny_ready (rs:=[10]) (by kernel_rfl) (by simp) ?_
     refine AllReady.cons rfl (fun K hK => ?_) AllReady.nil
     go_simp
     clear f7 c7
     refine hK _ _ ?_
     clear hK K
     try simp only [Act.put,List.getElem_toArray,List.getElem_cons_succ,List.getElem_cons_zero,List.setIfInBounds_toArray,List.set_cons_zero,List.set_cons_succ]
     refine wpAny_done (by kernel_rfl) ?_ _
     go_wp2
     go_roundw
     case rel => exact ⟨i + 1,_,_,by omega,by go_num,HI8,HB8⟩
     case measure => simp [intOf];omega
  ·obtain rfl : i = n:=by omega
   have HF : Hid (Rk wr base r q sv (.slice none 0 0) SV [] (newD i)):=HI.out.done h1 h2
   go_wp2
   go_returns
   exact ⟨r,rfl,⟨sv,SV,HF.out⟩,HB.out⟩
end Go.Proofs.YtghajmcohdedlaaGreat

namespace Go.Proofs.YtghajmcohdedlaaGreat
open Go.RowKit
theorem trips_age (D : Dk) : (tripsD D).age = D.age:=by unfold tripsD;split <;> rfl
theorem crashL_len : ∀ (S : List (List Nat)) (W : List (Nat × List Nat)) (F : List Int),(crashL S W F).length = S.length
 | _,[],_ => rfl
 | _,_ :: _,[] => rfl
 | S,p :: W,f :: F => by rw [crashL,crashL_len,List.length_set]
theorem syncL_length : ∀ (S : List (List Nat)) (W : List (Nat × List Nat)),(syncL S W).length = S.length
 | _,[] => rfl
 | S,p :: W => by rw [syncL,syncL_length,List.length_set]
structure Grew (D E : Dk) : Prop where
 wl : E.waits.length ≤ D.waits.length + 1
 ag : E.age ≤ D.age + 1
 sl : E.sure.length = D.sure.length
theorem Grew.same (D : Dk) : Grew D D:=⟨Nat.le_succ _,Nat.le_succ _,rfl⟩
theorem write_grew (D : Dk) (i : Int) (bs : List Nat) : Grew D (writeD D i bs):=by
 unfold writeD
 split
 ·exact Grew.same D
 split
 ·exact Grew.same D
 split
 ·exact Grew.same D
 split
 ·exact ⟨by rw [trips_waits];omega,by rw [trips_age];omega,by rw [trips_sure]⟩
 ·exact ⟨by simp,by simp only [trips_age];omega,by simp only [trips_sure]⟩
theorem sync_grew (D : Dk) : Grew D (syncD D):=by
 unfold syncD
 split
 ·exact Grew.same D
 split
 ·exact ⟨by rw [trips_waits];omega,by rw [trips_age];omega,by rw [trips_sure]⟩
 ·exact ⟨by simp,by simp only [trips_age];omega,by simp only [syncL_length]⟩
theorem trip_grew (D : Dk) (n : Int) : Grew D (tripD D n):=by
 unfold tripD
 split
 ·exact Grew.same D
 split
 ·exact Grew.same D
 ·exact ⟨by simp,by simp,rfl⟩
theorem crash_grew (D : Dk) (F : List Int) : Grew D (crashD D F):=⟨by simp [crashD],by simp [crashD],by simp only [crashD,crashL_len]⟩
def tellB (er : Int) (s : List Nat) : List Nat:=if er = 0 then s else []
theorem ReadTold.uni {w : World} {B : Nat} {e : Ending} {er : Int} {s : List Nat} (h : ReadTold w B e er s) : ∃ a l c,e = .returned (.tuple #[.slice a l c,.int .i64 er]) ∧ Rd w a l (tellB er s):=by
 rcases h with ⟨h1,h2⟩ | ⟨rfl,k,h2,_,h3,h4⟩
 ·refine ⟨none,0,0,h2,?_⟩
  rw [tellB,if_neg h1]
  exact ⟨rfl,fun _ h => (by cases h),.inl rfl⟩
 ·refine ⟨some ⟨k,0,none⟩,64,64,h2,?_⟩
  have:=Rd.of_blk h3 h4.byte
  rw [h4.len] at this
  exact this
theorem RefTold.uni {w : World} {e : Ending} {er : Int} {s : List Nat} (h : RefTold w e er s) : ∃ a l c,e = .returned (.tuple #[.slice a l c,.int .i64 er]) ∧ Rd w a l (tellB er s):=by
 rcases h with ⟨h1,h2⟩ | ⟨rfl,a,c,h2,h3,_⟩
 ·refine ⟨none,0,0,h2,?_⟩
  rw [tellB,if_neg h1]
  exact ⟨rfl,fun _ h => (by cases h),.inl rfl⟩
 ·exact ⟨a,64,c,h2,h3⟩
theorem RefTold.uni2 {w : World} {e : Ending} {er : Int} {s : List Nat} (h : RefTold w e er s) : ∃ a l c,e = .returned (.tuple #[.slice a l c,.int .i64 er]) ∧ Rd w a l (tellB er s) ∧ l ≤ c ∧ (tellB er s = [] ∨ Sec (tellB er s)) ∧ (er = 0 → Sec s):=by
 rcases h with ⟨h1,h2⟩ | ⟨rfl,a,c,h2,h3,h4,h5⟩
 ·refine ⟨none,0,0,h2,?_,Nat.le_refl _,.inl (by rw [tellB,if_neg h1]),fun h => absurd h h1⟩
  rw [tellB,if_neg h1]
  exact ⟨rfl,fun _ h => (by cases h),.inl rfl⟩
 ·exact ⟨a,64,c,h2,h3,h5,.inr h4,fun _ => h4⟩
theorem own_lower {w : World} {base base' : Nat} {e : TypeId} {size n : Nat} {v : Value} {xs : List Value} (h : w.ownsRow base e size v n xs) (hb : base' ≤ base) : w.ownsRow base' e size v n xs:=by
 refine ⟨h.1,?_⟩
 rcases h.2 with h1 | ⟨g,c,cur,h1,h2,r⟩
 ·exact .inl h1
 ·exact .inr ⟨g,c,cur,h1,Nat.le_trans hb h2,r⟩
theorem Rk.lower {w : World} {base base' r q : Nat} {sv wv : Value} {SV WV : List Value} {D : Dk} (h : Rk w base r q sv wv SV WV D) (hb : base' ≤ base) : Rk w base' r q sv wv SV WV D :=
 ⟨h.blk,own_lower h.srow hb,own_lower h.wrow hb,Nat.le_trans hb h.br,h.s1,h.sz,h.each,h.puts,h.tr,h.ag,h.wl⟩
theorem Disk.far {w w' : World} {base g gs : Nat} {wv : Value} {D : Dk} (h : Disk w base g gs wv D) (H : ∀ (k : Nat) cs t fr,w.heap[k]? = some (.cells cs t fr) → t ≠ 5 → w'.heap[k]? = some (.cells cs t fr)) : Disk w' base g gs wv D :=
 ⟨H _ _ _ _ h.blk (by decide),H _ _ _ _ h.srow (by decide),own_type h.wrow (fun k cs hk => H k cs _ _ hk (by decide)),h.bg,h.bs,h.sz,h.sec,h.wts,h.tr,h.ag,h.wl⟩
theorem Own.mv {w w' : World} {base b2 B g gs : Nat} {wv : Value} {D : Dk} {a : Option Addr} {n c : Nat} {bs : List Nat} (h : Own w B a n c bs) (hd : Disk w base g gs wv D) (hm : Mv w w' b2 g gs) : Own w' B a n c bs :=
 ⟨own_type h.row (fun k cs hk => Keep.of_mv hd hm (k + 1) k cs _ _ hk (.inr (.inr (.inr ⟨rfl,by omega⟩)))),h.byte⟩
theorem Own.mr {w w' : World} {base B : Nat} {a : Option Addr} {n c : Nat} {bs : List Nat} (h : Own w B a n c bs) (hm : Mr w w' base) : Own w' B a n c bs :=
 ⟨own_type h.row (fun k cs hk => hm.block k cs _ _ hk (by decide) (by decide) (by decide)),h.byte⟩
theorem Mv.size {w w' : World} {base g gs : Nat} (h : Mv w w' base g gs) : w.heap.size ≤ w'.heap.size:=h.low.size
theorem Own.block {w : World} {B : Nat} {a : Option Addr} {n c : Nat} {bs : List Nat} (h : Own w B a n c bs) : n = 0 ∨ ∃ k,a = some ⟨k,0,none⟩ ∧ B ≤ k ∧ k < w.heap.size ∧ ∃ cs,w.heap[k]? = some (.cells cs 5 (0,0)):=by
 rcases h.row.2 with ⟨_,h0⟩ | ⟨g,c',cur,hv,hb,hg,_⟩
 ·exact .inl h0
 ·simp only [Value.slice.injEq] at hv
  exact .inr ⟨g,hv.1,hb,heap_lt hg,cur,hg⟩
theorem Own.poke {w : World} {B k n c : Nat} {bs : List Nat} (h : Own w B (some ⟨k,0,none⟩) n c bs) (i x : Nat) (hx : x < 256) : Own (w.setCell ⟨k,i,none⟩ (.int .u8 (x : Int))) B (some ⟨k,0,none⟩) n c (bs.set i x):=by
 have h1:=(h.row.stored i (.int .u8 (x : Int))).1
 refine ⟨?_,fun y hy => ?_⟩
 ·have e : vb (bs.set i x) = (vb bs).set i (.int .u8 (x : Int)):=by simp [vb,List.map_set]
  rw [e]
  exact h1
 ·rcases List.mem_or_eq_of_mem_set hy with hy | rfl
  ·exact h.byte y hy
  ·exact hx
end Go.Proofs.YtghajmcohdedlaaGreat
