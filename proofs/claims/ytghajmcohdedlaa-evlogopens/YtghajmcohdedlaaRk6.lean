/- The reference's disk: New. -/
import Derived.Test.YtghajmcohdedlaaRk5
namespace Go.Proofs.Ytghajmcohdedlaa
open Go.RowKit

theorem infoSl : (Try.prog.info? 49).map (fun i => (i.zero, i.size, i.bytes)) = some (some (.slice none 0 0), 1, 24) := by kernel_rfl
/-- append onto a row of one's own, as one step of a region that draws its order. -/
theorem step_append_gen {w : World} {ops : Array Oper} {o : Oper} {a : Act} {K : Act → World → Prop} {Q : Exit → Act → World → Prop} {E : Prop} (hgd : o.guard = none) (s x : Operand) (t : TypeId)
    (ho : o.op = .call { callee := .builtin .append, args := #[s, x], argTypes := #[t, t] })
    (base : Nat) (e : TypeId) (i : TypeInfo) (z : Value) (size bytes : Nat) (ht : Try.prog.underlying t = some (.slice e)) (hi : Try.prog.info? e = some i) (hz : i.zero = some z)
    (hsize : i.size = size) (hby : i.bytes = bytes) (hzs : z.cells.size = size) (hsz : 0 < size)
    (v : Value) (n : Nat) (xs : List Value) (hs : a.eval s = v) (hown : w.ownsRow base e size v n xs)
    (ad : Addr) (m c : Nat) (news : List Value) (hx : a.eval x = .slice (some ad) m c) (hl : news.length = m * size) (hnews : ∀ j u, news[j]? = some u → w.cell? (ad.add j) = some u) (h1 : ∀ u ∈ news, u.oneCell' = true)
    (h63 : n + m ≤ maxLen) (hbytes : (n + m) * bytes ≤ 140737488355328) (hbase : base ≤ w.heap.size)
    (h : ∀ v' w', w'.ownsRow base e size v' (n + m) (xs ++ news) → w.grownBy w' v.ownBlock → K (a.put o.dst v') w') : if Region.wanted o (yielded ops a.tmps) = true then Oper.wp Try.prog o a w K Q else E := by
  rw [if_pos (by simp [Region.wanted, hgd])]
  exact wp_append_own w s x t ho base e i z size bytes ht hi hz hsize hby hzs hsz v n xs hs hown ad m c news hx hl hnews h1 h63 hbytes hbase fun v' w' h2 h3 _ => h v' w' h2 h3
theorem step_make64 {w : World} {ops : Array Oper} {o : Oper} {a : Act} {K : Act → World → Prop} {Q : Exit → Act → World → Prop} {E : Prop} (hgd : o.guard = none) (ho : o.op = .makeSlice 49 (.const (.int .i64 64)) (.const (.int .i64 64)))
    (h : ∀ w', Own w' w.heap.size (some ⟨w.heap.size, 0, none⟩) 64 64 (List.replicate 64 0) → Below w.heap.size w w' → K (a.put o.dst (.slice (some ⟨w.heap.size, 0, none⟩) 64 64)) w') : if Region.wanted o (yielded ops a.tmps) = true then Oper.wp Try.prog o a w K Q else E := by
  rw [if_pos (by simp [Region.wanted, hgd])]
  obtain ⟨i0, hi, hz0, hz1, hz2⟩ := info_parts infoByte
  obtain ⟨w', hr, h1, h2⟩ := run_make_full (P := Try.prog) w w.heap.size 49 5 i0 (.int .u8 0) 1 Try.underlying49 hi hz0 hz1 .i64 .i64 64 (by rw [hz2]; omega) (by unfold maxLen; omega) (Nat.le_refl _)
  have e : (madeCells (Value.int .u8 0).cells (64 * 1)).toList = vb (List.replicate 64 0) := by
    rw [show (Value.int .u8 0).cells = #[Value.int .u8 0] from rfl, toList_madeCells_one]
    simp [vb]
  rw [e] at h1
  unfold Oper.wp
  simp only [execOp, ho, Act.eval, Sem.run_bind, Sem.run_pure]
  have hr' : (Instr.makeSlice 49 (.int .i64 64) (.int .i64 64)).run Try.prog w = .ok (.slice (some ⟨w.heap.size, 0, none⟩) 64 64) w' := hr
  rw [hr']
  exact h w' ⟨h1, fun x hx => by rw [List.eq_of_mem_replicate hx]; omega⟩ ((Below.refl _ _).grown h2 (Nat.le_refl _) (fun k hk => by cases hk))
theorem run_build_sl (w : World) (y : Option Addr) (l c : Nat) : (Instr.buildSlice 45 1 #[(0, .slice y l c)]).run Try.prog w = .ok (.slice (some ⟨w.heap.size, 0, none⟩) 1 1) (w.alloc (.cells #[.slice y l c] 49)) := by
  obtain ⟨i0, hi, hz0, hz1, hz2⟩ := info_parts infoSl
  simp [Instr.buildSlice, run_underlying Try.underlying45, sizeOf, typeInfo, hi, hz0, hz1, zeroValue, Value.cells, go_sem]
theorem step_build_sl {w : World} {ops : Array Oper} {o : Oper} {a : Act} {K : Act → World → Prop} {Q : Exit → Act → World → Prop} {E : Prop} (hgd : o.guard = none) (x : Operand) (ho : o.op = .buildSlice 45 1 #[(0, x)]) (y : Option Addr) (l c : Nat) (hx : a.eval x = .slice y l c)
    (h : ∀ w', Blk w' w.heap.size #[.slice y l c] 49 → Below w.heap.size w w' → K (a.put o.dst (.slice (some ⟨w.heap.size, 0, none⟩) 1 1)) w') : if Region.wanted o (yielded ops a.tmps) = true then Oper.wp Try.prog o a w K Q else E := by
  rw [if_pos (by simp [Region.wanted, hgd])]
  unfold Oper.wp
  simp only [execOp, ho, Sem.run_bind, Sem.run_pure, Result.andThen_ok, List.map_toArray, List.map_cons, List.map_nil, hx, run_build_sl w y l c]
  exact h _ (Blk.new _ _ _) (below_alloc _ _)
theorem Blk.news_one {w : World} {k : Nat} {v : Value} {t : TypeId} (h : Blk w k #[v] t) : ∀ j u, [v][j]? = some u → w.cell? ((⟨k, 0, none⟩ : Addr).add j) = some u := fun j u hj => by
  have e : (⟨k, 0, none⟩ : Addr).add j = ⟨k, 0 + j, none⟩ := by unfold Addr.add; split <;> simp_all
  rw [e, Nat.zero_add]
  exact h.cell j (by simpa using hj)

/-- How far New has come. -/
structure NewIn (w : World) (base r q : Nat) (sv : Value) (SV : List Value) (i : Nat) : Prop where
  blk : Blk w r #[sv, .slice none 0 0, .int .i64 0, .bool false, .int .i64 0] 48
  srow : w.ownsRow base 49 1 sv i SV
  br : base ≤ r
  each : ∀ (j : Nat), j < i → ∃ v, SV[j]? = some v ∧ Byt w q v (List.replicate 64 0)
theorem NewIn.stay {w w' : World} {base r q : Nat} {sv : Value} {SV : List Value} {i : Nat} (h : NewIn w base r q sv SV i) (hb : Below w.heap.size w w') : NewIn w' base r q sv SV i :=
  ⟨h.blk.stay hb, own_stay h.srow (fun k hk => hb.block k (h.srow.lt k hk).2), h.br, fun j hj => (h.each j hj).imp fun _ hv => ⟨hv.1, hv.2.move (fun k cur hk _ => by rw [hb.block k (heap_lt hk)]; exact hk)⟩⟩
theorem NewIn.apart {w : World} {base r q : Nat} {sv : Value} {SV : List Value} {i : Nat} (h : NewIn w base r q sv SV i) : some r ≠ sv.ownBlock := own_ne h.srow h.blk (by decide)
theorem NewIn.more {w w' : World} {base r q : Nat} {sv v' bv : Value} {SV : List Value} {i : Nat} (h : NewIn w base r q sv SV i) (hb : Byt w q bv (List.replicate 64 0)) (ho : w'.ownsRow base 49 1 v' (i + 1) (SV ++ [bv])) (hg : w.grownBy w' sv.ownBlock) :
    NewIn (w'.setCell ⟨r, 0, none⟩ v') base r q v' (SV ++ [bv]) (i + 1) := by
  have k1 : Blk w' r _ 48 := h.blk.grown hg h.apart
  have hc := grown_cell w' r 0 v'
  have hmv : ∀ (k : Nat) cur, w.heap[k]? = some (.cells cur 5 (0, 0)) → k ≠ q → (w'.setCell ⟨r, 0, none⟩ v').heap[k]? = some (.cells cur 5 (0, 0)) := fun k cur hk _ => by
    have h1 : w'.heap[k]? = some (.cells cur 5 (0, 0)) := by rw [hg.block k (heap_lt hk) (own_ne' h.srow hk (by decide))]; exact hk
    rw [hc.block k (heap_lt h1) (fun e => by simp only [Option.some.injEq] at e; exact blk_ne h1 k1 (by decide) e)]
    exact h1
  have hsl : SV.length = i := by have := h.srow.1; omega
  refine ⟨k1.set 0 v', own_type ho (fun k cs hk => ?_), h.br, fun j hj => ?_⟩
  · rw [hc.block k (heap_lt hk) (fun e => by simp only [Option.some.injEq] at e; exact blk_ne hk k1 (by decide) e)]
    exact hk
  · by_cases hji : j < i
    · obtain ⟨v, h1, h2⟩ := h.each j hji
      exact ⟨v, by rw [List.getElem?_append_left (by omega)]; exact h1, h2.move hmv⟩
    · obtain rfl : j = i := by omega
      exact ⟨bv, by rw [List.getElem?_append_right (by omega), hsl, Nat.sub_self]; rfl, hb.move hmv⟩
theorem NewIn.done {w : World} {base r q : Nat} {sv : Value} {SV : List Value} {n : Nat} (h : NewIn w base r q sv SV n) (h1 : 1 ≤ n) (h2 : n ≤ 512) : Rk w base r q sv (.slice none 0 0) SV [] (newD n) := by
  refine ⟨h.blk, by simpa [newD] using h.srow, World.ownsRow_nil _ _ _ _, h.br, by simpa [newD] using h1, by simpa [newD] using h2, fun i s hs => ?_, fun i p hp => by simp [newD] at hp, Nat.zero_le _, Nat.zero_le _, Nat.zero_le _⟩
  rw [newD] at hs
  simp only [List.getElem?_replicate] at hs
  split at hs
  · rename_i hi
    simp only [Option.some.injEq] at hs
    subst hs
    exact h.each i hi
  · cases hs

set_option maxRecDepth 100000 in
set_option maxHeartbeats 2000000 in
theorem ref_New (n : Nat) (h1 : 1 ≤ n) (h2 : n ≤ 512) (q : Nat) (w : World) (hq : q < w.heap.size) : Calls Try.prog 5 #[.int .i64 (n : Int)] w fun e w' => ∃ r, e = .returned (.tuple #[.pointer (some ⟨r, 0, none⟩), .int .i64 0]) ∧ Hid (∃ sv SV, Rk w' w.heap.size r q sv (.slice none 0 0) SV [] (newD n)) ∧ Below w.heap.size w w' := by
  obtain ⟨base, hbase⟩ : ∃ base, base = w.heap.size := ⟨_, rfl⟩
  have HBASE : Hid (base = w.heap.size) := hbase
  rw [← hbase]
  have HQ : Hid (q < w.heap.size) := hq
  obtain ⟨i0, hi, hz0, hz1, hz2⟩ := info_parts infoSl
  have hn1 : ¬ (n : Int) < 1 := by omega
  have hn2 : ¬ (512 : Int) < (n : Int) := by omega
  clear hbase hq
  go_enter Try.func5, Try.ntmps5
  go_wp2
  obtain ⟨r, hr⟩ : ∃ r, r = w.heap.size := ⟨_, rfl⟩
  have HR : Hid (r = w.heap.size) := hr
  rw [← hr]
  have HI0 : Hid (NewIn (w.alloc (.cells #[.slice none 0 0, .slice none 0 0, .int .i64 0, .bool false, .int .i64 0] 48)) base r q (.slice none 0 0) [] 0) := by
    show NewIn _ _ _ _ _ _ _
    rw [hr]
    exact ⟨Blk.new _ _ _, World.ownsRow_nil _ _ _ _, by rw [HBASE.out]; exact Nat.le_refl _, fun j hj => by omega⟩
  have HB0 : Hid (Below base w (w.alloc (.cells #[.slice none 0 0, .slice none 0 0, .int .i64 0, .bool false, .int .i64 0] 48))) := by show Below _ _ _; rw [HBASE.out]; exact below_alloc _ _
  clear hr
  go_loopw [5] (fun t5 wr => ∃ (i : Nat) (sv : Value) (SV : List Value), i ≤ n ∧ t5 = .int .i64 (i : Int) ∧ Hid (NewIn wr base r q sv SV i) ∧ Hid (Below base w wr)) (fun t5 _ => n - (intOf t5).toNat)
  case atStart => exact ⟨0, _, [], by omega, rfl, HI0, HB0⟩
  case round =>
    obtain ⟨i, sv, SV, hin, rfl, HI, HB⟩ := hrel
    by_cases hlt : i < n
    · have hlt' : (i : Int) < (n : Int) := by omega
      have HId : Hid (NewIn wr.drew base r q sv SV i) := HI.out.stay (Below.refl _ _).drew
      have HBd : Hid (Below base w wr.drew) := HB.out.drew
      have HBD : Hid (base ≤ wr.drew.heap.size) := Nat.le_trans HId.out.br (Nat.le_of_lt HId.out.blk.lt)
      have HQd : Hid (q < wr.drew.heap.size) := by show _ < _; have := HQ.out; have := HBD.out; have := HBASE.out; omega
      go_wp2
      refine wp_region_any (by kernel_rfl) ?_
      change wpAny _ _ _ _ _ _ _ (World.drew _)
      generalize wr.drew = wd at *
      refine take_put (i := 0) (v := ?_) (some 19) rfl (by kernel_rfl) (by kernel_rfl) (by kernel_rfl) (by kernel_rfl) (fun _ _ _ h => h) (Or.inl ⟨by rfl, ?_⟩) ?_
      rotate_left
      · (intro w; go_simp; try with_reducible rfl)
      try simp only [Act.put, List.setIfInBounds_toArray, List.set_cons_zero, List.set_cons_succ]
      refine take_put (i := 1) (v := ?_) (some 20) rfl (by kernel_rfl) (by kernel_rfl) (by kernel_rfl) (by kernel_rfl) (fun _ _ _ h => h) (Or.inl ⟨by rfl, ?_⟩) ?_
      rotate_left
      · (intro w; go_simp; try with_reducible rfl)
      try simp only [Act.put, List.setIfInBounds_toArray, List.set_cons_zero, List.set_cons_succ]
      refine take_put (i := 2) (v := ?_) (some 21) rfl (by kernel_rfl) (by kernel_rfl) (by kernel_rfl) (by kernel_rfl) (fun _ _ _ h => h) (Or.inl ⟨by rfl, ?_⟩) ?_
      rotate_left
      · (intro w; go_simp; try with_reducible rfl)
      try simp only [Act.put, List.setIfInBounds_toArray, List.set_cons_zero, List.set_cons_succ]
      refine take_put (i := 3) (v := ?_) (some 22) rfl (by kernel_rfl) (by kernel_rfl) (by kernel_rfl) (by kernel_rfl) (fun _ _ _ h => h) (Or.inl ⟨by rfl, ?_⟩) ?_
      rotate_left
      · (intro w; go_simp; try with_reducible rfl)
      try simp only [Act.put, List.setIfInBounds_toArray, List.set_cons_zero, List.set_cons_succ]
      refine wpAny_ready (rs := [4, 5]) (by kernel_rfl) (by simp) ?_
      refine AllReady.cons rfl (fun K hK => ?_) (AllReady.cons rfl (fun K hK => ?_) AllReady.nil)
      · have c1 : wd.cell? ⟨r, 0, none⟩ = some sv := HId.out.blk.cell 0 rfl
        go_simp
        clear c1
        refine hK _ _ ?_
        clear hK K
        try simp only [Act.put, List.getElem_toArray, List.getElem_cons_succ, List.getElem_cons_zero, List.setIfInBounds_toArray, List.set_cons_zero, List.set_cons_succ]
        refine wpAny_ready (rs := [5]) (by kernel_rfl) (by simp) ?_
        refine AllReady.cons rfl (fun K hK => ?_) AllReady.nil
        refine step_make64 rfl rfl ?_
        intro w5 ho5 hb5
        have HO5 : Hid (Own w5 wd.heap.size (some ⟨wd.heap.size, 0, none⟩) 64 64 (List.replicate 64 0)) := ho5
        have HB5 : Hid (Below wd.heap.size wd w5) := hb5
        clear ho5 hb5
        refine hK _ _ ?_
        clear hK K
        try simp only [Act.put, List.getElem_toArray, List.getElem_cons_succ, List.getElem_cons_zero, List.setIfInBounds_toArray, List.set_cons_zero, List.set_cons_succ]
        refine wpAny_ready (rs := [6]) (by kernel_rfl) (by simp) ?_
        refine AllReady.cons rfl (fun K hK => ?_) AllReady.nil
        refine step_build_sl rfl (.tmp 24) rfl (some ⟨wd.heap.size, 0, none⟩) 64 64 rfl ?_
        intro w6 hk6 hb6
        have HK6 : Hid (Blk w6 w5.heap.size #[.slice (some ⟨wd.heap.size, 0, none⟩) 64 64] 49) := hk6
        have HB6 : Hid (Below w5.heap.size w5 w6) := hb6
        clear hk6 hb6
        refine hK _ _ ?_
        clear hK K
        try simp only [Act.put, List.getElem_toArray, List.getElem_cons_succ, List.getElem_cons_zero, List.setIfInBounds_toArray, List.set_cons_zero, List.set_cons_succ]
        have HB06 : Hid (Below wd.heap.size wd w6) := HB5.out.trans (HB6.out.mono HB5.out.size)
        have HI6 : Hid (NewIn w6 base r q sv SV i) := HId.out.stay HB06.out
        refine wpAny_ready (rs := [7]) (by kernel_rfl) (by simp) ?_
        refine AllReady.cons rfl (fun K hK => ?_) AllReady.nil
        refine step_append_gen rfl (.tmp 23) (.tmp 25) 45 rfl base 49 i0 (.slice none 0 0) 1 24 Try.underlying45 hi hz0 hz1 hz2 (by rfl) (by decide) sv i SV rfl HI6.out.srow ⟨w5.heap.size, 0, none⟩ 1 1 [.slice (some ⟨wd.heap.size, 0, none⟩) 64 64] rfl rfl (HK6.out.news_one) (by simp [Value.oneCell']) (by unfold maxLen; omega) (by omega) (by have := HB06.out.size; have := HBD.out; omega) ?_
        intro v7 w7 ho7 hg7
        obtain ⟨a7, n7, k7, rfl⟩ := own_slice ho7
        have f7 : w7.frozen? ⟨r, 0, none⟩ = false := (HI6.out.blk.grown hg7 HI6.out.apart).free 0
        have c7 : w7.cell? ⟨r, 0, none⟩ = some sv := (HI6.out.blk.grown hg7 HI6.out.apart).cell 0 rfl
        have HI8 : Hid (NewIn (w7.setCell ⟨r, 0, none⟩ (.slice a7 n7 k7)) base r q (.slice a7 n7 k7) (SV ++ [.slice (some ⟨wd.heap.size, 0, none⟩) 64 64]) (i + 1)) := HI6.out.more (Byt.of_own (HO5.out.below HB6.out) HQd.out) ho7 hg7
        have HB8 : Hid (Below base w (w7.setCell ⟨r, 0, none⟩ (.slice a7 n7 k7))) := (HBd.out.trans (HB06.out.mono HBD.out)).trans (((Below.refl _ _).grown hg7 (by have := HB06.out.size; have := HBD.out; omega) (fun j hj => (HI6.out.srow.lt j hj).1)).trans ((Below.refl _ _).setCell HI6.out.br _))
        clear ho7 hg7
        refine hK _ _ ?_
        clear hK K
        try simp only [Act.put, List.getElem_toArray, List.getElem_cons_succ, List.getElem_cons_zero, List.setIfInBounds_toArray, List.set_cons_zero, List.set_cons_succ]
        refine take_put (i := 8) (v := ?_) (some 27) rfl (by kernel_rfl) (by kernel_rfl) (by kernel_rfl) (by kernel_rfl) (fun _ _ _ h => h) (Or.inl ⟨by rfl, ?_⟩) ?_
        rotate_left
        · (intro w; go_simp; try with_reducible rfl)
        try simp only [Act.put, List.setIfInBounds_toArray, List.set_cons_zero, List.set_cons_succ]
        refine take_put (i := 9) (v := ?_) (some 28) rfl (by kernel_rfl) (by kernel_rfl) (by kernel_rfl) (by kernel_rfl) (fun _ _ _ h => h) (Or.inl ⟨by rfl, ?_⟩) ?_
        rotate_left
        · (intro w; go_simp; try with_reducible rfl)
        try simp only [Act.put, List.setIfInBounds_toArray, List.set_cons_zero, List.set_cons_succ]
        refine wpAny_ready (rs := [10]) (by kernel_rfl) (by simp) ?_
        refine AllReady.cons rfl (fun K hK => ?_) AllReady.nil
        go_simp
        clear f7 c7
        refine hK _ _ ?_
        clear hK K
        try simp only [Act.put, List.getElem_toArray, List.getElem_cons_succ, List.getElem_cons_zero, List.setIfInBounds_toArray, List.set_cons_zero, List.set_cons_succ]
        refine wpAny_done (by kernel_rfl) ?_ _
        go_wp2
        go_roundw
        case rel => exact ⟨i + 1, _, _, by omega, by go_num, HI8, HB8⟩
        case measure => simp [intOf]; omega
      · refine step_make64 rfl rfl ?_
        intro w5 ho5 hb5
        have HO5 : Hid (Own w5 wd.heap.size (some ⟨wd.heap.size, 0, none⟩) 64 64 (List.replicate 64 0)) := ho5
        have HB5 : Hid (Below wd.heap.size wd w5) := hb5
        clear ho5 hb5
        refine hK _ _ ?_
        clear hK K
        try simp only [Act.put, List.getElem_toArray, List.getElem_cons_succ, List.getElem_cons_zero, List.setIfInBounds_toArray, List.set_cons_zero, List.set_cons_succ]
        refine wpAny_ready (rs := [4, 6]) (by kernel_rfl) (by simp) ?_
        refine AllReady.cons rfl (fun K hK => ?_) (AllReady.cons rfl (fun K hK => ?_) AllReady.nil)
        · have c1 : w5.cell? ⟨r, 0, none⟩ = some sv := (HId.out.stay HB5.out).blk.cell 0 rfl
          go_simp
          clear c1
          refine hK _ _ ?_
          clear hK K
          try simp only [Act.put, List.getElem_toArray, List.getElem_cons_succ, List.getElem_cons_zero, List.setIfInBounds_toArray, List.set_cons_zero, List.set_cons_succ]
          refine wpAny_ready (rs := [6]) (by kernel_rfl) (by simp) ?_
          refine AllReady.cons rfl (fun K hK => ?_) AllReady.nil
          refine step_build_sl rfl (.tmp 24) rfl (some ⟨wd.heap.size, 0, none⟩) 64 64 rfl ?_
          intro w6 hk6 hb6
          have HK6 : Hid (Blk w6 w5.heap.size #[.slice (some ⟨wd.heap.size, 0, none⟩) 64 64] 49) := hk6
          have HB6 : Hid (Below w5.heap.size w5 w6) := hb6
          clear hk6 hb6
          refine hK _ _ ?_
          clear hK K
          try simp only [Act.put, List.getElem_toArray, List.getElem_cons_succ, List.getElem_cons_zero, List.setIfInBounds_toArray, List.set_cons_zero, List.set_cons_succ]
          have HB06 : Hid (Below wd.heap.size wd w6) := HB5.out.trans (HB6.out.mono HB5.out.size)
          have HI6 : Hid (NewIn w6 base r q sv SV i) := HId.out.stay HB06.out
          refine wpAny_ready (rs := [7]) (by kernel_rfl) (by simp) ?_
          refine AllReady.cons rfl (fun K hK => ?_) AllReady.nil
          refine step_append_gen rfl (.tmp 23) (.tmp 25) 45 rfl base 49 i0 (.slice none 0 0) 1 24 Try.underlying45 hi hz0 hz1 hz2 (by rfl) (by decide) sv i SV rfl HI6.out.srow ⟨w5.heap.size, 0, none⟩ 1 1 [.slice (some ⟨wd.heap.size, 0, none⟩) 64 64] rfl rfl (HK6.out.news_one) (by simp [Value.oneCell']) (by unfold maxLen; omega) (by omega) (by have := HB06.out.size; have := HBD.out; omega) ?_
          intro v7 w7 ho7 hg7
          obtain ⟨a7, n7, k7, rfl⟩ := own_slice ho7
          have f7 : w7.frozen? ⟨r, 0, none⟩ = false := (HI6.out.blk.grown hg7 HI6.out.apart).free 0
          have c7 : w7.cell? ⟨r, 0, none⟩ = some sv := (HI6.out.blk.grown hg7 HI6.out.apart).cell 0 rfl
          have HI8 : Hid (NewIn (w7.setCell ⟨r, 0, none⟩ (.slice a7 n7 k7)) base r q (.slice a7 n7 k7) (SV ++ [.slice (some ⟨wd.heap.size, 0, none⟩) 64 64]) (i + 1)) := HI6.out.more (Byt.of_own (HO5.out.below HB6.out) HQd.out) ho7 hg7
          have HB8 : Hid (Below base w (w7.setCell ⟨r, 0, none⟩ (.slice a7 n7 k7))) := (HBd.out.trans (HB06.out.mono HBD.out)).trans (((Below.refl _ _).grown hg7 (by have := HB06.out.size; have := HBD.out; omega) (fun j hj => (HI6.out.srow.lt j hj).1)).trans ((Below.refl _ _).setCell HI6.out.br _))
          clear ho7 hg7
          refine hK _ _ ?_
          clear hK K
          try simp only [Act.put, List.getElem_toArray, List.getElem_cons_succ, List.getElem_cons_zero, List.setIfInBounds_toArray, List.set_cons_zero, List.set_cons_succ]
          refine take_put (i := 8) (v := ?_) (some 27) rfl (by kernel_rfl) (by kernel_rfl) (by kernel_rfl) (by kernel_rfl) (fun _ _ _ h => h) (Or.inl ⟨by rfl, ?_⟩) ?_
          rotate_left
          · (intro w; go_simp; try with_reducible rfl)
          try simp only [Act.put, List.setIfInBounds_toArray, List.set_cons_zero, List.set_cons_succ]
          refine take_put (i := 9) (v := ?_) (some 28) rfl (by kernel_rfl) (by kernel_rfl) (by kernel_rfl) (by kernel_rfl) (fun _ _ _ h => h) (Or.inl ⟨by rfl, ?_⟩) ?_
          rotate_left
          · (intro w; go_simp; try with_reducible rfl)
          try simp only [Act.put, List.setIfInBounds_toArray, List.set_cons_zero, List.set_cons_succ]
          refine wpAny_ready (rs := [10]) (by kernel_rfl) (by simp) ?_
          refine AllReady.cons rfl (fun K hK => ?_) AllReady.nil
          go_simp
          clear f7 c7
          refine hK _ _ ?_
          clear hK K
          try simp only [Act.put, List.getElem_toArray, List.getElem_cons_succ, List.getElem_cons_zero, List.setIfInBounds_toArray, List.set_cons_zero, List.set_cons_succ]
          refine wpAny_done (by kernel_rfl) ?_ _
          go_wp2
          go_roundw
          case rel => exact ⟨i + 1, _, _, by omega, by go_num, HI8, HB8⟩
          case measure => simp [intOf]; omega
        · refine step_build_sl rfl (.tmp 24) rfl (some ⟨wd.heap.size, 0, none⟩) 64 64 rfl ?_
          intro w6 hk6 hb6
          have HK6 : Hid (Blk w6 w5.heap.size #[.slice (some ⟨wd.heap.size, 0, none⟩) 64 64] 49) := hk6
          have HB6 : Hid (Below w5.heap.size w5 w6) := hb6
          clear hk6 hb6
          refine hK _ _ ?_
          clear hK K
          try simp only [Act.put, List.getElem_toArray, List.getElem_cons_succ, List.getElem_cons_zero, List.setIfInBounds_toArray, List.set_cons_zero, List.set_cons_succ]
          refine wpAny_ready (rs := [4]) (by kernel_rfl) (by simp) ?_
          refine AllReady.cons rfl (fun K hK => ?_) AllReady.nil
          have c1 : w6.cell? ⟨r, 0, none⟩ = some sv := ((HId.out.stay HB5.out).stay HB6.out).blk.cell 0 rfl
          go_simp
          clear c1
          refine hK _ _ ?_
          clear hK K
          try simp only [Act.put, List.getElem_toArray, List.getElem_cons_succ, List.getElem_cons_zero, List.setIfInBounds_toArray, List.set_cons_zero, List.set_cons_succ]
          have HB06 : Hid (Below wd.heap.size wd w6) := HB5.out.trans (HB6.out.mono HB5.out.size)
          have HI6 : Hid (NewIn w6 base r q sv SV i) := HId.out.stay HB06.out
          refine wpAny_ready (rs := [7]) (by kernel_rfl) (by simp) ?_
          refine AllReady.cons rfl (fun K hK => ?_) AllReady.nil
          refine step_append_gen rfl (.tmp 23) (.tmp 25) 45 rfl base 49 i0 (.slice none 0 0) 1 24 Try.underlying45 hi hz0 hz1 hz2 (by rfl) (by decide) sv i SV rfl HI6.out.srow ⟨w5.heap.size, 0, none⟩ 1 1 [.slice (some ⟨wd.heap.size, 0, none⟩) 64 64] rfl rfl (HK6.out.news_one) (by simp [Value.oneCell']) (by unfold maxLen; omega) (by omega) (by have := HB06.out.size; have := HBD.out; omega) ?_
          intro v7 w7 ho7 hg7
          obtain ⟨a7, n7, k7, rfl⟩ := own_slice ho7
          have f7 : w7.frozen? ⟨r, 0, none⟩ = false := (HI6.out.blk.grown hg7 HI6.out.apart).free 0
          have c7 : w7.cell? ⟨r, 0, none⟩ = some sv := (HI6.out.blk.grown hg7 HI6.out.apart).cell 0 rfl
          have HI8 : Hid (NewIn (w7.setCell ⟨r, 0, none⟩ (.slice a7 n7 k7)) base r q (.slice a7 n7 k7) (SV ++ [.slice (some ⟨wd.heap.size, 0, none⟩) 64 64]) (i + 1)) := HI6.out.more (Byt.of_own (HO5.out.below HB6.out) HQd.out) ho7 hg7
          have HB8 : Hid (Below base w (w7.setCell ⟨r, 0, none⟩ (.slice a7 n7 k7))) := (HBd.out.trans (HB06.out.mono HBD.out)).trans (((Below.refl _ _).grown hg7 (by have := HB06.out.size; have := HBD.out; omega) (fun j hj => (HI6.out.srow.lt j hj).1)).trans ((Below.refl _ _).setCell HI6.out.br _))
          clear ho7 hg7
          refine hK _ _ ?_
          clear hK K
          try simp only [Act.put, List.getElem_toArray, List.getElem_cons_succ, List.getElem_cons_zero, List.setIfInBounds_toArray, List.set_cons_zero, List.set_cons_succ]
          refine take_put (i := 8) (v := ?_) (some 27) rfl (by kernel_rfl) (by kernel_rfl) (by kernel_rfl) (by kernel_rfl) (fun _ _ _ h => h) (Or.inl ⟨by rfl, ?_⟩) ?_
          rotate_left
          · (intro w; go_simp; try with_reducible rfl)
          try simp only [Act.put, List.setIfInBounds_toArray, List.set_cons_zero, List.set_cons_succ]
          refine take_put (i := 9) (v := ?_) (some 28) rfl (by kernel_rfl) (by kernel_rfl) (by kernel_rfl) (by kernel_rfl) (fun _ _ _ h => h) (Or.inl ⟨by rfl, ?_⟩) ?_
          rotate_left
          · (intro w; go_simp; try with_reducible rfl)
          try simp only [Act.put, List.setIfInBounds_toArray, List.set_cons_zero, List.set_cons_succ]
          refine wpAny_ready (rs := [10]) (by kernel_rfl) (by simp) ?_
          refine AllReady.cons rfl (fun K hK => ?_) AllReady.nil
          go_simp
          clear f7 c7
          refine hK _ _ ?_
          clear hK K
          try simp only [Act.put, List.getElem_toArray, List.getElem_cons_succ, List.getElem_cons_zero, List.setIfInBounds_toArray, List.set_cons_zero, List.set_cons_succ]
          refine wpAny_done (by kernel_rfl) ?_ _
          go_wp2
          go_roundw
          case rel => exact ⟨i + 1, _, _, by omega, by go_num, HI8, HB8⟩
          case measure => simp [intOf]; omega
    · obtain rfl : i = n := by omega
      have HF : Hid (Rk wr base r q sv (.slice none 0 0) SV [] (newD i)) := HI.out.done h1 h2
      go_wp2
      go_returns
      exact ⟨r, rfl, ⟨sv, SV, HF.out⟩, HB.out⟩
end Go.Proofs.Ytghajmcohdedlaa
