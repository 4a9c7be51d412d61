/- A pack of texts: RkM Rk1 Rk2 Rk3. -/
import Derived.Test.YtghajmcohdedlaaSec6
import Derived.Lib.AppendZerosOnto
/- The reference's disk in memory: a row of slices that are sure, a row of writes that wait; what a call of it leaves as it was. -/
namespace Go.Proofs.Ytghajmcohdedlaa
open Go.RowKit

/-- 64 bytes in a block of their own, which is not q. -/
structure Byt (w : World) (q : Nat) (v : Value) (s : List Nat) : Prop where
  sec : Sec s
  row : ∃ k c cur, v = .slice (some ⟨k, 0, none⟩) 64 c ∧ k ≠ q ∧ w.heap[k]? = some (.cells cur 5 (0, 0)) ∧ 64 ≤ c ∧ c ≤ maxLen ∧ cur.size = c ∧ cur.toList.take 64 = vb s
theorem Byt.of_own {w : World} {base q : Nat} {a : Option Addr} {c : Nat} {s : List Nat} (h : Own w base a 64 c s) (hq : q < base) : Byt w q (.slice a 64 c) s := by
  refine ⟨⟨h.size, h.byte⟩, ?_⟩
  rcases h.row.2 with ⟨_, h0⟩ | ⟨g, c', cur, hv, hb, hg, h1, h2, h3, h4⟩
  · cases h0
  · simp only [Value.slice.injEq] at hv
    obtain ⟨rfl, _, rfl⟩ := hv
    exact ⟨g, c, cur, rfl, by omega, hg, h1, h2, by simpa using h3, by simpa using h4⟩
theorem Byt.move {w w' : World} {q : Nat} {v : Value} {s : List Nat} (h : Byt w q v s) (H : ∀ (k : Nat) cur, w.heap[k]? = some (.cells cur 5 (0, 0)) → k ≠ q → w'.heap[k]? = some (.cells cur 5 (0, 0))) : Byt w' q v s := by
  obtain ⟨k, c, cur, h1, h2, h3, r⟩ := h.row
  exact ⟨h.sec, k, c, cur, h1, h2, H k cur h3 h2, r⟩
theorem Byt.fresh {w : World} {q q' : Nat} {v : Value} {s : List Nat} (h : Byt w q v s) (hq : w.heap.size ≤ q') : Byt w q' v s := by
  obtain ⟨k, c, cur, h1, h2, h3, r⟩ := h.row
  exact ⟨h.sec, k, c, cur, h1, by have := heap_lt h3; omega, h3, r⟩
theorem Byt.slice {w : World} {q : Nat} {v : Value} {s : List Nat} (h : Byt w q v s) : ∃ k c, v = .slice (some ⟨k, 0, none⟩) 64 c ∧ 64 ≤ c ∧ c ≤ maxLen ∧ Rd w (some ⟨k, 0, none⟩) 64 s ∧ ∃ cur, w.heap[k]? = some (.cells cur 5 (0, 0)) := by
  obtain ⟨k, c, cur, h1, h2, h3, h4, h5, h6, h7⟩ := h.row
  refine ⟨k, c, h1, h4, h5, ⟨h.sec.len, h.sec.byte, .inr ⟨k, 0, rfl, heap_lt h3, fun i hi => ?_⟩⟩, cur, h3⟩
  rw [cell_of_row w k (0 + i) cur _ _ h3, Nat.zero_add, ← Array.getElem?_toList]
  have e : (cur.toList.take 64)[i]? = cur.toList[i]? := by rw [List.getElem?_take]; simp [hi]
  rw [← e, h7]
  exact vb_at (by rw [h.sec.len]; exact hi)

structure Rk (w : World) (base r q : Nat) (sv wv : Value) (SV WV : List Value) (D : Dk) : Prop where
  blk : Blk w r #[sv, wv, .int .i64 (D.trip : Int), .bool D.down, .int .i64 (D.age : Int)] 48
  srow : w.ownsRow base 49 1 sv D.sure.length SV
  wrow : w.ownsRow base 103 2 wv D.waits.length WV
  br : base ≤ r
  s1 : 1 ≤ D.sure.length
  sz : D.sure.length ≤ 512
  each : ∀ (i : Nat) (s : List Nat), D.sure[i]? = some s → ∃ v, SV[i]? = some v ∧ Byt w q v s
  puts : ∀ (i : Nat) (p : Nat × List Nat), D.waits[i]? = some p → p.1 < D.sure.length ∧ WV[i * 2]? = some (.int .i64 (p.1 : Int)) ∧ ∃ v, WV[i * 2 + 1]? = some v ∧ Byt w q v p.2
  tr : D.trip ≤ 9223372036854775807
  ag : D.age ≤ 1000000000
  wl : D.waits.length ≤ 1000000000
/-- What keeps the reference's disk as it was. -/
def Keep (w w' : World) (q : Nat) : Prop := ∀ (k : Nat) cs t fr, w.heap[k]? = some (.cells cs t fr) → (t = 48 ∨ t = 49 ∨ t = 103 ∨ (t = 5 ∧ k ≠ q)) → w'.heap[k]? = some (.cells cs t fr)
theorem own_type {w w' : World} {base : Nat} {e : TypeId} {size n : Nat} {v : Value} {xs : List Value} (h : w.ownsRow base e size v n xs) (hk : ∀ (k : Nat) cs, w.heap[k]? = some (.cells cs e (0, 0)) → w'.heap[k]? = some (.cells cs e (0, 0))) : w'.ownsRow base e size v n xs := by
  refine ⟨h.1, ?_⟩
  rcases h.2 with h1 | ⟨g, c, cur, h1, h2, h3, r⟩
  · exact .inl h1
  · exact .inr ⟨g, c, cur, h1, h2, hk g cur h3, r⟩
theorem Rk.move {w w' : World} {base r q : Nat} {sv wv : Value} {SV WV : List Value} {D : Dk} (h : Rk w base r q sv wv SV WV D) (H : Keep w w' q) : Rk w' base r q sv wv SV WV D := by
  have hb : ∀ (k : Nat) cur, w.heap[k]? = some (.cells cur 5 (0, 0)) → k ≠ q → w'.heap[k]? = some (.cells cur 5 (0, 0)) := fun k cur h1 h2 => H k cur _ _ h1 (.inr (.inr (.inr ⟨rfl, h2⟩)))
  refine ⟨H r _ _ _ h.blk (.inl rfl), own_type h.srow (fun k cs h1 => H k cs _ _ h1 (.inr (.inl rfl))), own_type h.wrow (fun k cs h1 => H k cs _ _ h1 (.inr (.inr (.inl rfl)))), h.br, h.s1, h.sz, fun i s hs => ?_, fun i p hp => ?_, h.tr, h.ag, h.wl⟩
  · obtain ⟨v, h1, h2⟩ := h.each i s hs
    exact ⟨v, h1, h2.move hb⟩
  · obtain ⟨h0, h1, v, h2, h3⟩ := h.puts i p hp
    exact ⟨h0, h1, v, h2, h3.move hb⟩
theorem Keep.of_below {w w' : World} (q : Nat) (h : Below w.heap.size w w') : Keep w w' q := fun k cs t fr h1 _ => by rw [h.block k (heap_lt h1)]; exact h1
theorem Rk.stay {w w' : World} {base r q : Nat} {sv wv : Value} {SV WV : List Value} {D : Dk} (h : Rk w base r q sv wv SV WV D) (hb : Below w.heap.size w w') : Rk w' base r q sv wv SV WV D := h.move (Keep.of_below q hb)
theorem Rk.fresh {w : World} {base r q q' : Nat} {sv wv : Value} {SV WV : List Value} {D : Dk} (h : Rk w base r q sv wv SV WV D) (hq : w.heap.size ≤ q') : Rk w base r q' sv wv SV WV D :=
  ⟨h.blk, h.srow, h.wrow, h.br, h.s1, h.sz, fun i s hs => (h.each i s hs).imp fun _ hv => ⟨hv.1, hv.2.fresh hq⟩, fun i p hp => ⟨(h.puts i p hp).1, (h.puts i p hp).2.1, (h.puts i p hp).2.2.imp fun _ hv => ⟨hv.1, hv.2.fresh hq⟩⟩, h.tr, h.ag, h.wl⟩
/-- The code's disk leaves the reference's as it was. -/
theorem Keep.of_mv {w w' : World} {base b2 g gs : Nat} {wv : Value} {D : Dk} (hd : Disk w base g gs wv D) (h : Mv w w' b2 g gs) (q : Nat) : Keep w w' q := by
  intro k cs t fr h1 h2
  have hne : t ≠ 44 ∧ t ≠ 70 ∧ t ≠ 72 := by
    rcases h2 with rfl | rfl | rfl | ⟨rfl, _⟩ <;> decide
  refine h.block k cs t fr ?_ ?_ h1 hne.2.2
  · rintro rfl
    have := hd.blk
    unfold Blk at this
    rw [h1] at this
    simp only [Option.some.injEq, Obj.cells.injEq] at this
    exact hne.1 this.2.1
  · rintro rfl
    have := hd.srow
    unfold Blk at this
    rw [h1] at this
    simp only [Option.some.injEq, Obj.cells.injEq] at this
    exact hne.2.1 this.2.1

/-- What a call of the reference's disk leaves as it was. -/
structure Mr (w w' : World) (base : Nat) : Prop where
  low : Below base w w'
  block : ∀ (k : Nat) cs t fr, w.heap[k]? = some (.cells cs t fr) → t ≠ 48 → t ≠ 49 → t ≠ 103 → w'.heap[k]? = some (.cells cs t fr)
theorem Mr.refl (w : World) (base : Nat) : Mr w w base := ⟨Below.refl _ _, fun _ _ _ _ h _ _ _ => h⟩
theorem Mr.trans {w w1 w2 : World} {base : Nat} (h : Mr w w1 base) (h2 : Mr w1 w2 base) : Mr w w2 base :=
  ⟨h.low.trans h2.low, fun k cs t fr h3 h4 h5 h6 => h2.block k cs t fr (h.block k cs t fr h3 h4 h5 h6) h4 h5 h6⟩
theorem Mr.of_below {w w' : World} {base : Nat} (h : Below w.heap.size w w') (hb : base ≤ w.heap.size) : Mr w w' base := ⟨h.mono hb, fun k _ _ _ h5 _ _ _ => by rw [h.block k (heap_lt h5)]; exact h5⟩
theorem Mr.of_cell {w w' : World} {base r : Nat} {cs : Array Value} (hr : Blk w r cs 48) (hb : base ≤ r) (h : w.grownBy w' (some r)) : Mr w w' base := by
  refine ⟨(Below.refl _ _).grown h (Nat.le_trans hb (Nat.le_of_lt hr.lt)) (fun j hj => by simp only [Option.some.injEq] at hj; omega), fun k cs t fr h1 h2 _ _ => ?_⟩
  rw [h.block k (heap_lt h1) (fun e => ?_)]
  · exact h1
  · simp only [Option.some.injEq] at e
    subst e
    unfold Blk at hr
    rw [h1] at hr
    simp only [Option.some.injEq, Obj.cells.injEq] at hr
    exact h2 hr.2.1
theorem Mr.of_own {w w' : World} {base : Nat} {e : TypeId} {v : Value} {size n : Nat} {xs : List Value} (he : e = 49 ∨ e = 103) (hv : w.ownsRow base e size v n xs) (h : w.grownBy w' v.ownBlock) (hs : base ≤ w.heap.size) : Mr w w' base :=
  ⟨(Below.refl _ _).grown h hs (fun j hj => (hv.lt j hj).1), fun k cs t fr h1 _ h3 h4 => by
    rw [h.block k (heap_lt h1) (own_ne' hv h1 (by rcases he with rfl | rfl <;> assumption))]; exact h1⟩
theorem Disk.stayR {w w' : World} {base b2 g gs : Nat} {wv : Value} {D : Dk} (h : Disk w base g gs wv D) (H : Mr w w' b2) : Disk w' base g gs wv D :=
  ⟨H.block _ _ _ _ h.blk (by decide) (by decide) (by decide), H.block _ _ _ _ h.srow (by decide) (by decide) (by decide), own_type h.wrow (fun k cs hk => H.block k cs _ _ hk (by decide) (by decide) (by decide)), h.bg, h.bs, h.sz, h.sec, h.wts, h.tr, h.ag, h.wl⟩
theorem Rk.apart {w : World} {base r q : Nat} {sv wv : Value} {SV WV : List Value} {D : Dk} (h : Rk w base r q sv wv SV WV D) : some r ≠ sv.ownBlock ∧ some r ≠ wv.ownBlock := ⟨own_ne h.srow h.blk (by decide), own_ne h.wrow h.blk (by decide)⟩
/-- The row of what is sure. -/
theorem Rk.form {w : World} {base r q : Nat} {sv wv : Value} {SV WV : List Value} {D : Dk} (h : Rk w base r q sv wv SV WV D) : ∃ rs c, sv = .slice (some ⟨rs, 0, none⟩) D.sure.length c ∧ D.sure.length ≤ c := by
  rcases h.srow.2 with ⟨_, h0⟩ | ⟨g, c, cur, h1, _, _, h4, _⟩
  · have := h.s1; omega
  · exact ⟨g, c, h1, h4⟩
theorem Rk.wform {w : World} {base r q : Nat} {sv wv : Value} {SV WV : List Value} {D : Dk} (h : Rk w base r q sv wv SV WV D) : ∃ a c, wv = .slice a D.waits.length c ∧ (0 < D.waits.length → ∃ gw, a = some ⟨gw, 0, none⟩) := by
  rcases h.wrow.2 with ⟨h1, h0⟩ | ⟨g, c, cur, h1, _⟩
  · exact ⟨none, 0, by rw [h0]; exact h1, fun h2 => by omega⟩
  · exact ⟨_, c, h1, fun _ => ⟨g, rfl⟩⟩
end Go.Proofs.Ytghajmcohdedlaa
/- append(b, make([]byte, k)...) onto a row of one's own; the reference's disk: has, trips, Trip, Sure, Read. -/
namespace Go.Proofs.Ytghajmcohdedlaa
open Go.RowKit

theorem zero_cells (k : Nat) : (Builtin.zeroCells #[Value.int .u8 0] k).toList = vb (List.replicate k 0) := by
  simp only [Builtin.zeroCells, vb]
  apply List.ext_getElem
  · simp
  · intro i h1 h2
    simp [Nat.mod_one]
theorem run_append_zeros (w : World) (ty : TypeId) (base : Nat) (a : Option Addr) (n cap : Nat) (xs : List Nat) (hown : Own w base a n cap xs) (k : Nat) (hk : n + k ≤ 1000000) (hbase : base ≤ w.heap.size) :
    ∃ a' cap' w', (Builtin.append_ #[49, 3] ty #[.slice a n cap, .int .i64 (k : Int)]).run Try.prog w = .ok (.slice a' (n + k) cap') w' ∧ Own w' base a' (n + k) cap' (xs ++ List.replicate k 0) ∧ w.grownBy w' (Value.ownBlock (.slice a n cap)) ∧ Below base w w' := by
  obtain ⟨i0, hi, hz0, hz1, hz2⟩ := info_parts infoByte
  have hbyte : ∀ x ∈ xs ++ List.replicate k 0, x < 256 := fun x hx => (List.mem_append.1 hx).elim (hown.byte x) (fun h => by rw [List.eq_of_mem_replicate h]; omega)
  have hw : IntKind.i64.wrap (k : Int) = k := by rw [IntKind.wrap_i64]; omega
  have hneg : ¬ ((k : Int) < 0) := by omega
  have h48i : ¬ (281474976710656 < (k : Int) * (i0.bytes : Int)) := by rw [hz2]; omega
  have hzc : (Value.int .u8 0).cells = #[Value.int .u8 0] := rfl
  have low : ∀ w', w.grownBy w' (Value.ownBlock (.slice a n cap)) → Below base w w' := fun w' h3 => (Below.refl _ _).grown h3 hbase (fun j hj => (hown.row.lt j hj).1)
  by_cases hk0 : k = 0
  · subst hk0
    have hg : w.grownBy w (Value.ownBlock (.slice a n cap)) := ⟨rfl, rfl, rfl, Nat.le_refl _, fun _ _ _ => rfl⟩
    refine ⟨a, cap, w, ?_, by simpa using hown, hg, low w hg⟩
    have hnc : n ≤ cap := by
      rcases hown.row.2 with ⟨h1, h0⟩ | ⟨g, c, cur, h1, _, _, h4, _⟩
      · omega
      · simp only [Value.slice.injEq] at h1; omega
    cases a with
    | none => simp [Builtin.append_, run_underlying Try.underlying49, run_underlying Try.underlying3, sizeOf, typeInfo, hi, asInt, asIntOf, hnc, IntKind.wrap_i64]
    | some ad => simp [Builtin.append_, run_underlying Try.underlying49, run_underlying Try.underlying3, sizeOf, typeInfo, hi, asInt, asIntOf, hnc, IntKind.wrap_i64, storeCells]
  · have grown : ∀ (old : Nat), 
        Own (w.drew.alloc (.cells ((vb xs).toArray ++ Builtin.zeroCells #[Value.int .u8 0] k ++ Builtin.zeroCells #[Value.int .u8 0] (grownCap w (n + k) old 5 - (n + k))) 5)) base (some ⟨w.heap.size, 0, none⟩) (n + k) (grownCap w (n + k) old 5) (xs ++ List.replicate k 0) ∧
        w.grownBy (w.drew.alloc (.cells ((vb xs).toArray ++ Builtin.zeroCells #[Value.int .u8 0] k ++ Builtin.zeroCells #[Value.int .u8 0] (grownCap w (n + k) old 5 - (n + k))) 5)) (Value.ownBlock (.slice a n cap)) := by
      intro old
      have hge := grownCap_ge w (n + k) old 5
      have hcm : grownCap w (n + k) old 5 ≤ maxLen := grownCap_le_maxLen w (n + k) old 5 (by unfold maxLen; omega)
      have hxl : (vb xs).length = n := by rw [vb_length]; exact hown.size
      have hlen : (vb (xs ++ List.replicate k 0)).length = (n + k) * 1 := by rw [vb_length, List.length_append, hown.size, List.length_replicate]; omega
      refine ⟨⟨⟨hlen, .inr ⟨w.heap.size, _, _, rfl, hbase, heap_alloc_new w.drew _, hge, hcm, ?_, ?_⟩⟩, hbyte⟩, ⟨rfl, rfl, rfl, by simp, fun j hj _ => heap_alloc_old w.drew _ hj⟩⟩
      · simp only [Array.size_append, List.size_toArray, size_zeroCells, hxl]
        simp
        omega
      · simp only [Array.toList_append, zero_cells]
        rw [← vb_append, ← hlen]
        exact List.take_left
    rcases hown.row.2 with ⟨h1, h0⟩ | ⟨g, c, cur, h1, hbg, hg, hnc, hcm, hcs, htake⟩
    · simp only [Value.slice.injEq] at h1
      obtain ⟨rfl, rfl, rfl⟩ := h1
      have hx : xs = [] := List.eq_nil_of_length_eq_zero hown.size
      subst hx
      have hr := Go.Lib.run_append_nil_zeros (P := Try.prog) w 49 3 ty 5 i0 (.int .u8 0) .i64 .i64 Try.underlying49 Try.underlying3 hi hz0 k (by omega) (by rw [hz1]; omega) (by omega) (by rw [hz2]; omega)
      have hgr := grown 0
      simp only [vb, List.map_nil, Array.empty_append, Nat.zero_add] at hgr
      exact ⟨_, _, _, by rw [Nat.zero_add]; exact hr, by rw [Nat.zero_add]; exact hgr.1, hgr.2, low _ hgr.2⟩
    · simp only [Value.slice.injEq] at h1
      obtain ⟨rfl, _, rfl⟩ := h1
      by_cases hroom : n + k ≤ cap
      · have hzl : (Builtin.zeroCells #[Value.int .u8 0] k).toList.length = k := by rw [zero_cells, vb_length, List.length_replicate]
        have hst := run_storeCells_at Try.prog g n 5 (Builtin.zeroCells #[Value.int .u8 0] k).toList 0 cur w hg (by rw [hzl]; omega) (by rw [zero_cells]; exact vb_one _)
        simp only [Nat.add_zero] at hst
        have hgr : w.grownBy (w.setRow g (cur.toList.take n ++ (Builtin.zeroCells #[Value.int .u8 0] k).toList ++ cur.toList.drop (n + (Builtin.zeroCells #[Value.int .u8 0] k).toList.length)).toArray) (Value.ownBlock (.slice (some ⟨g, 0, none⟩) n cap)) := ⟨rfl, rfl, rfl, by simp, fun j _ hj => setRow_other w g j _ (fun e => hj (by simp [Value.ownBlock, e]))⟩
        refine ⟨some ⟨g, 0, none⟩, cap, w.setRow g (cur.toList.take n ++ (Builtin.zeroCells #[Value.int .u8 0] k).toList ++ cur.toList.drop (n + (Builtin.zeroCells #[Value.int .u8 0] k).toList.length)).toArray, ?_, ⟨⟨?_, .inr ⟨g, cap, _, rfl, hbg, setRow_heap w g cur _ 5 _ hg, hroom, hcm, ?_, ?_⟩⟩, hbyte⟩, hgr, low _ hgr⟩
        · simp [Builtin.append_, run_underlying Try.underlying49, run_underlying Try.underlying3, sizeOf, typeInfo, zeroValue, hi, hz0, hz1, asInt, asIntOf, hw, hneg, h48i, hroom, hk0, hzc, Addr.add_lit, hst]
        · rw [vb_length, List.length_append, hown.size, List.length_replicate]; omega
        · simp only [List.size_toArray, List.length_append, List.length_take, List.length_drop, Array.length_toList, hzl]
          omega
        · have h2 : cur.toList.take n = vb xs := by simpa using htake
          rw [h2, zero_cells, ← vb_append]
          have hlen : (vb (xs ++ List.replicate k 0)).length = (n + k) * 1 := by rw [vb_length, List.length_append, hown.size, List.length_replicate]; omega
          rw [← hlen]
          exact List.take_left
      · have hold : (Builtin.firstCells i0.size n (.slice (some ⟨g, 0, none⟩) n cap)).run Try.prog w.drew = .ok (vb xs).toArray w.drew := by
          exact run_firstCells_some (P := Try.prog) w.drew i0.size n ⟨g, 0, none⟩ n cap (vb xs) (by rw [hz1, vb_length, hown.size]; omega) (fun j u hj => hown.row.cells (g := g) rfl j u hj)
        have hr := Go.Lib.run_append_grow_zeros (P := Try.prog) w 49 3 ty 5 i0 (.int .u8 0) .i64 .i64 Try.underlying49 Try.underlying3 hi hz0 (some ⟨g, 0, none⟩) n cap (vb xs) hold k (by omega) (by rw [hz1]; omega) (by omega) (by omega) (by rw [hz2]; omega) (growslice_fits (by omega) (by rw [hz2]; omega))
        have hgr := grown cap
        exact ⟨_, _, _, hr, hgr.1, hgr.2, low _ hgr.2⟩
theorem wpList_append_zeros {w : World} {ops : Array Oper} {rest : List Oper} {o : Oper} {act : Act} {Q : Exit → Act → World → Prop} (hgd : o.guard = none) (s x : Operand)
    (ho : o.op = .call { callee := .builtin .append, args := #[s, x], argTypes := #[49, 3] })
    (base : Nat) (a : Option Addr) (n cap : Nat) (xs : List Nat) (hs : act.eval s = .slice a n cap) (hown : Own w base a n cap xs) (k m : Nat) (hx : act.eval x = .int .i64 (k : Int)) (hm : n + k = m) (hk : m ≤ 1000000) (hbase : base ≤ w.heap.size)
    (h : ∀ a' cap' w', Own w' base a' m cap' (xs ++ List.replicate k 0) → w.grownBy w' (Value.ownBlock (.slice a n cap)) → Below base w w' → wpList Try.prog ops Q rest (act.put o.dst (.slice a' m cap')) w') : wpList Try.prog ops Q (o :: rest) act w := by
  subst hm
  refine wpList_plain hgd fun K hK => ?_
  obtain ⟨a', cap', w', hrun, h2, h3, h4⟩ := run_append_zeros w o.type base a n cap xs hown k hk hbase
  unfold Oper.wp
  simp only [execOp, ho, resolve, invoke, builtin, Sem.run_bind, Sem.run_pure, Result.andThen_ok, List.map_toArray, List.map_cons, List.map_nil, hs, hx, hrun]
  exact hK _ _ (h a' cap' w' h2 h3 h4)

set_option maxRecDepth 100000 in
theorem ref_has (w : World) (base r q : Nat) (sv wv : Value) (SV WV : List Value) (D : Dk) (i : Int) (h : Rk w base r q sv wv SV WV D) :
    Calls Try.prog 72 #[.pointer (some ⟨r, 0, none⟩), .int .i64 i] w fun e w' => e = .returned (.bool (hasB D i)) ∧ w' = w := by
  obtain ⟨rs, c, rfl, _⟩ := h.form
  have c0 : w.cell? ⟨r, 0, none⟩ = some (.slice (some ⟨rs, 0, none⟩) D.sure.length c) := h.blk.cell 0 rfl
  have hsz := h.sz
  obtain ⟨n, hn⟩ : ∃ n, n = D.sure.length := ⟨_, rfl⟩
  obtain ⟨R, HR⟩ : ∃ R, Hid (R = hasB D i) := ⟨_, rfl⟩
  rw [← HR.out]
  rw [← hn] at c0 hsz
  have HN : Hid (n = D.sure.length) := hn
  clear h hn
  by_cases h0 : 0 ≤ i
  · by_cases h1 : i < (n : Int)
    · have HX : Hid (R = true) := by show _ = _; rw [HR.out, hasB_iff, ← HN.out]; exact ⟨h0, h1⟩
      go_enter Try.func72, Try.ntmps72
      go_wp2
      go_ret
      exact ⟨by rw [HX.out]; rfl, rfl⟩
    · have HX : Hid (R = false) := by show _ = _; rw [HR.out, hasB_not, ← HN.out]; exact fun hh => h1 hh.2
      go_enter Try.func72, Try.ntmps72
      go_wp2
      go_ret
      exact ⟨by rw [HX.out]; rfl, rfl⟩
  · have HX : Hid (R = false) := by show _ = _; rw [HR.out, hasB_not]; exact fun hh => h0 hh.1
    go_enter Try.func72, Try.ntmps72
    go_wp2
    go_ret
    exact ⟨by rw [HX.out]; rfl, rfl⟩

theorem Rk.with3 {w w' : World} {base r q : Nat} {sv wv : Value} {SV WV : List Value} {D : Dk} (h : Rk w base r q sv wv SV WV D) (t : Nat) (d : Bool) (ht : t ≤ 9223372036854775807) (hb : Blk w' r #[sv, wv, .int .i64 (t : Int), .bool d, .int .i64 (D.age : Int)] 48)
    (hg : w.grownBy w' (some r)) : Rk w' base r q sv wv SV WV { D with trip := t, down := d } := by
  obtain ⟨a1, a2⟩ := h.apart
  have hk : ∀ (k : Nat) cur, w.heap[k]? = some (.cells cur 5 (0, 0)) → k ≠ q → w'.heap[k]? = some (.cells cur 5 (0, 0)) := fun k cur h1 _ => by
    rw [hg.block k (heap_lt h1) (fun e => ?_)]
    · exact h1
    · simp only [Option.some.injEq] at e
      exact blk_ne h1 h.blk (by decide) e
  exact ⟨hb, own_stay h.srow (fun k hk => hg.block k (h.srow.lt k hk).2 (fun e => a1 (by rw [← e, hk]))), own_stay h.wrow (fun k hk => hg.block k (h.wrow.lt k hk).2 (fun e => a2 (by rw [← e, hk]))), h.br, h.s1, h.sz, fun i s hs => (h.each i s hs).imp fun _ hv => ⟨hv.1, hv.2.move hk⟩, fun i p hp => ⟨(h.puts i p hp).1, (h.puts i p hp).2.1, (h.puts i p hp).2.2.imp fun _ hv => ⟨hv.1, hv.2.move hk⟩⟩, ht, h.ag, h.wl⟩

set_option maxRecDepth 100000 in
theorem ref_trips (w : World) (base r q : Nat) (sv wv : Value) (SV WV : List Value) (D : Dk) (h : Rk w base r q sv wv SV WV D) (hd : D.down = false) :
    Calls Try.prog 46 #[.pointer (some ⟨r, 0, none⟩)] w fun e w' => e = .returned (.bool (tripsB D)) ∧ Rk w' base r q sv wv SV WV (tripsD D) ∧ Mr w w' base ∧ w'.heap.size = w.heap.size := by
  have HD : Hid (Rk w base r q sv wv SV WV D) := h
  have c2 : w.cell? ⟨r, 2, none⟩ = some (.int .i64 (D.trip : Int)) := h.blk.cell 2 rfl
  have c3 : w.cell? ⟨r, 3, none⟩ = some (.bool false) := by have := h.blk.cell 3 rfl; rw [hd] at this; exact this
  have f2 := h.blk.free 2
  have f3 := h.blk.free 3
  have htr := h.tr
  obtain ⟨t, ht⟩ : ∃ t, t = D.trip := ⟨_, rfl⟩
  have HT : Hid (t = D.trip) := ht
  rw [← ht] at c2 htr
  clear h ht
  by_cases h0 : t = 0
  · subst h0
    have HX : Hid (tripsB D = false ∧ tripsD D = D) := by
      unfold tripsB tripsD
      rw [← HT.out]
      exact ⟨rfl, rfl⟩
    go_enter Try.func46, Try.ntmps46
    go_wp2
    go_ret
    exact ⟨by rw [HX.out.1]; rfl, by rw [HX.out.2]; exact HD.out, Mr.refl _ _, rfl⟩
  · obtain ⟨u, rfl⟩ : ∃ u, t = u + 1 := ⟨t - 1, by omega⟩
    have hu : ((u + 1 : Nat) : Int) - 1 = (u : Int) := by omega
    have hu' : (u : Int) + 1 - 1 = (u : Int) := by omega
    have hn0 : (0 : Int) < (u : Int) + 1 := by omega
    by_cases h1 : u = 0
    · subst h1
      have HX : Hid (tripsB D = true ∧ tripsD D = { D with trip := 0, down := true }) := by
        unfold tripsB tripsD
        rw [← HT.out]
        exact ⟨rfl, rfl⟩
      have HK2 : Hid (Blk ((w.setCell ⟨r, 2, none⟩ (.int .i64 0)).setCell ⟨r, 3, none⟩ (.bool true)) r #[sv, wv, .int .i64 ((0 : Nat) : Int), .bool true, .int .i64 (D.age : Int)] 48) := (HD.out.blk.set 2 (.int .i64 0)).set 3 (.bool true)
      have HG : Hid (w.grownBy ((w.setCell ⟨r, 2, none⟩ (.int .i64 0)).setCell ⟨r, 3, none⟩ (.bool true)) (some r)) := grown_trans (grown_cell _ _ _ _) (grown_cell _ _ _ _)
      go_enter Try.func46, Try.ntmps46
      go_wp2
      go_ret
      exact ⟨by rw [HX.out.1]; rfl, by rw [HX.out.2]; exact HD.out.with3 0 true (by omega) HK2.out HG.out, Mr.of_cell HD.out.blk HD.out.br HG.out, by simp⟩
    · have hun : ¬ ((u : Int) = 0) := by omega
      have hun' : ((u : Int) == 0) = false := by rw [beq_eq_false_iff_ne]; omega
      have HX : Hid (tripsB D = false ∧ tripsD D = { D with trip := u, down := false }) := by
        unfold tripsB tripsD
        rw [← HT.out]
        refine ⟨by simp; omega, ?_⟩
        rw [if_neg (by omega), decide_eq_false (by omega)]
        rfl
      have HK2 : Hid (Blk ((w.setCell ⟨r, 2, none⟩ (.int .i64 (u : Int))).setCell ⟨r, 3, none⟩ (.bool false)) r #[sv, wv, .int .i64 (u : Int), .bool false, .int .i64 (D.age : Int)] 48) := (HD.out.blk.set 2 (.int .i64 (u : Int))).set 3 (.bool false)
      have HG : Hid (w.grownBy ((w.setCell ⟨r, 2, none⟩ (.int .i64 (u : Int))).setCell ⟨r, 3, none⟩ (.bool false)) (some r)) := grown_trans (grown_cell _ _ _ _) (grown_cell _ _ _ _)
      go_enter Try.func46, Try.ntmps46
      go_wp2
      go_ret
      exact ⟨by rw [HX.out.1]; rfl, by rw [HX.out.2]; exact HD.out.with3 u false (by omega) HK2.out HG.out, Mr.of_cell HD.out.blk HD.out.br HG.out, by simp⟩

end Go.Proofs.Ytghajmcohdedlaa
/- The reference's disk: Sure, Read, Write. -/
namespace Go.Proofs.Ytghajmcohdedlaa
open Go.RowKit

/-- What a read of the reference's tells. -/
def RefTold (w : World) (e : Ending) (er : Int) (s : List Nat) : Prop :=
  (er ≠ 0 ∧ e = .returned (.tuple #[.slice none 0 0, .int .i64 er])) ∨ (er = 0 ∧ ∃ a c, e = .returned (.tuple #[.slice a 64 c, .int .i64 0]) ∧ Rd w a 64 s ∧ Sec s ∧ 64 ≤ c)
theorem Own.cap {w : World} {base : Nat} {a : Option Addr} {len cap : Nat} {bs : List Nat} (h : Own w base a len cap bs) : len ≤ cap := by
  rcases h.row.2 with ⟨h1, h0⟩ | ⟨g, c, cur, h1, _, _, h4, _⟩
  · omega
  · simp only [Value.slice.injEq] at h1; omega
theorem Rk.sureAt {w : World} {base r q rs c n : Nat} {wv : Value} {SV WV : List Value} {D : Dk} (h : Rk w base r q (.slice (some ⟨rs, 0, none⟩) n c) wv SV WV D) {i : Nat} {s : List Nat} (hs : D.sure[i]? = some s) : ∃ k c', w.cell? ⟨rs, i, none⟩ = some (.slice (some ⟨k, 0, none⟩) 64 c') ∧ 64 ≤ c' ∧ c' ≤ maxLen ∧ Rd w (some ⟨k, 0, none⟩) 64 s ∧ Sec s ∧ k < w.heap.size := by
  obtain ⟨v, h1, h2⟩ := h.each i s hs
  obtain ⟨k, c', rfl, h4, h5, h6, cur, h7⟩ := h2.slice
  have hi : i < D.sure.length := (List.getElem?_eq_some_iff.1 hs).1
  have hn : n = D.sure.length := by
    obtain ⟨_, _, e, _⟩ := h.form
    simp only [Value.slice.injEq] at e
    exact e.2.1
  subst hn
  refine ⟨k, c', ?_, h4, h5, h6, h2.sec, heap_lt h7⟩
  rw [h.srow.cellAt i (by omega), h1]
theorem Rk.putAt {w : World} {base r q gw c n : Nat} {sv : Value} {SV WV : List Value} {D : Dk} (h : Rk w base r q sv (.slice (some ⟨gw, 0, none⟩) n c) SV WV D) {i : Nat} {p : Nat × List Nat} (hp : D.waits[i]? = some p) : p.1 < D.sure.length ∧ w.cell? ⟨gw, i * 2, none⟩ = some (.int .i64 (p.1 : Int)) ∧ ∃ k c', w.cell? ⟨gw, i * 2 + 1, none⟩ = some (.slice (some ⟨k, 0, none⟩) 64 c') ∧ 64 ≤ c' ∧ c' ≤ maxLen ∧ Byt w q (.slice (some ⟨k, 0, none⟩) 64 c') p.2 ∧ Rd w (some ⟨k, 0, none⟩) 64 p.2 ∧ Sec p.2 ∧ k < w.heap.size := by
  obtain ⟨h0, h1, v, h2, h3⟩ := h.puts i p hp
  have hb := h3
  obtain ⟨k, c', rfl, h4, h5, h6, cur, h7⟩ := h3.slice
  have hi : i < D.waits.length := (List.getElem?_eq_some_iff.1 hp).1
  have hn : n = D.waits.length := by
    obtain ⟨_, _, e, _⟩ := h.wform
    simp only [Value.slice.injEq] at e
    exact e.2.1
  subst hn
  refine ⟨h0, ?_, k, c', ?_, h4, h5, hb, h6, hb.sec, heap_lt h7⟩
  · rw [h.wrow.cellAt (i * 2) (by omega), h1]
  · rw [h.wrow.cellAt (i * 2 + 1) (by omega), h2]

set_option maxRecDepth 100000 in
set_option maxHeartbeats 1000000 in
theorem ref_Read (w : World) (base r q : Nat) (sv wv : Value) (SV WV : List Value) (D : Dk) (i : Int) (h : Rk w base r q sv wv SV WV D) :
    Calls Try.prog 73 #[.pointer (some ⟨r, 0, none⟩), .int .i64 i] w fun e w' => Hid (RefTold w' e (readE D i) (nowB D i.toNat)) ∧ Below w.heap.size w w' := by
  have HD : Hid (Rk w base r q sv wv SV WV D) := h
  have c3 : w.cell? ⟨r, 3, none⟩ = some (.bool D.down) := h.blk.cell 3 rfl
  obtain ⟨R, HR⟩ : ∃ R, Hid (R = readE D i) := ⟨_, rfl⟩
  obtain ⟨T, HT0⟩ : ∃ T, Hid (T = nowB D i.toNat) := ⟨_, rfl⟩
  rw [← HR.out, ← HT0.out]
  obtain ⟨rs, cs, rfl, _⟩ := h.form
  obtain ⟨aw, cw, rfl, haw⟩ := h.wform
  have HAW : Hid (0 < D.waits.length → ∃ gw, aw = some ⟨gw, 0, none⟩) := haw
  obtain ⟨ns, hns⟩ : ∃ ns, ns = D.sure.length := ⟨_, rfl⟩
  obtain ⟨nw, hnw⟩ : ∃ nw, nw = D.waits.length := ⟨_, rfl⟩
  rw [← hns, ← hnw] at HD
  have HNS : Hid (ns = D.sure.length) := hns
  have HNW : Hid (nw = D.waits.length) := hnw
  have hnsb : ns ≤ 512 := by rw [hns]; exact h.sz
  have hnwb : nw ≤ 1000000000 := by rw [hnw]; exact h.wl
  clear h hns hnw haw
  cases hd : D.down with
  | true =>
    rw [hd] at c3
    have HX : Hid (R = 10) := by show _ = _; rw [HR.out, readE, hd]; rfl
    clear hd
    go_enter Try.func73, Try.ntmps73
    go_wp2
    go_returns
    exact ⟨.inl ⟨by rw [HX.out]; decide, by rw [HX.out]; rfl⟩, Below.refl _ _⟩
  | false =>
    rw [hd] at c3
    have HDN : Hid (D.down = false) := hd
    clear hd
    go_enter Try.func73, Try.ntmps73
    go_wp2_with fail
    refine (ref_has w base r q _ _ SV WV D i HD.out).mono ?_
    rintro e w1 ⟨he, hw⟩
    subst he
    rw [hw]
    clear hw w1
    cases hh : hasB D i with
    | false =>
      have HX : Hid (R = 2) := by show _ = _; rw [HR.out, readE, HDN.out, hh]; rfl
      clear hh
      go_wp2
      go_returns
      exact ⟨.inl ⟨by rw [HX.out]; decide, by rw [HX.out]; rfl⟩, Below.refl _ _⟩
    | true =>
      have HX : Hid (R = 0) := by show _ = _; rw [HR.out, readE, HDN.out, hh]; rfl
      obtain ⟨h0, h1⟩ := (hasB_iff D i).1 hh
      obtain ⟨j, rfl⟩ := Int.eq_ofNat_of_zero_le h0
      have hj : j < D.sure.length := by omega
      have HT : Hid (T = nowB D j) := by show _ = _; rw [HT0.out, Int.toNat_natCast]
      obtain ⟨s0, hs0⟩ : ∃ s0, D.sure[j]? = some s0 := ⟨D.sure[j], List.getElem?_eq_getElem hj⟩
      obtain ⟨k0, ck0, cc, h64, hcm, hrd, hsec, hkl⟩ := HD.out.sureAt hs0
      have HS0 : Hid (Rd w (some ⟨k0, 0, none⟩) 64 (nowS D j 0) ∧ Sec (nowS D j 0)) := by
        have e : nowS D j 0 = s0 := by rw [nowS, List.getD_eq_getElem?_getD, hs0]; rfl
        show _ ∧ _
        rw [e]
        exact ⟨hrd, hsec⟩
      have c0 : w.cell? ⟨r, 0, none⟩ = some (.slice (some ⟨rs, 0, none⟩) ns cs) := HD.out.blk.cell 0 rfl
      have c1 : w.cell? ⟨r, 1, none⟩ = some (.slice aw nw cw) := HD.out.blk.cell 1 rfl
      have q1 : (0 : Int) ≤ (j : Int) := by omega
      have q2 : (j : Int) < (ns : Int) := by have := HNS.out; omega
      clear hh h0 h1 hj hs0 hrd hsec hkl c3
      go_wp2
      go_loopw [6, 7] (fun t6 t7 wr => ∃ (k kb cb : Nat), k ≤ nw ∧ t7 = .int .i64 (k : Int) ∧ t6 = .slice (some ⟨kb, 0, none⟩) 64 cb ∧ Hid (Rd w (some ⟨kb, 0, none⟩) 64 (nowS D j k) ∧ Sec (nowS D j k)) ∧ wr = w) (fun _ t7 _ => nw - (intOf t7).toNat)
      case atStart => exact ⟨0, k0, ck0, Nat.zero_le _, rfl, rfl, HS0, rfl⟩
      case round =>
        obtain ⟨k, kb, cb, hk, rfl, rfl, HE, rfl⟩ := hrel
        by_cases hlt : k < nw
        · have hlt' : (k : Int) < (nw : Int) := by omega
          have hkw : k < D.waits.length := by have := HNW.out; omega
          obtain ⟨gw, rfl⟩ := HAW.out (by omega)
          obtain ⟨p, hp⟩ : ∃ p, D.waits[k]? = some p := ⟨D.waits[k], List.getElem?_eq_getElem hkw⟩
          obtain ⟨hp1, ca, k2, c2, cb2, h642, hcm2, _, hrd2, hsec2, hkl2⟩ := HD.out.putAt hp
          have hpg : D.waits.getD k (0, []) = p := by rw [List.getD_eq_getElem?_getD, hp]; rfl
          have HN2 : Hid (nowS D j (k + 1) = if p.1 = j then p.2 else nowS D j k) := by show _ = _; rw [nowS, hpg]
          obtain ⟨pa, L⟩ := p
          simp only at ca hrd2 hsec2 HN2
          have hk0 : (0 : Int) ≤ (k : Int) := by omega
          by_cases hat : pa = j
          · have HE2 : Hid (Rd wr (some ⟨k2, 0, none⟩) 64 (nowS D j (k + 1)) ∧ Sec (nowS D j (k + 1))) := by
              show _ ∧ _
              rw [HN2.out, if_pos hat]
              exact ⟨hrd2, hsec2⟩
            have hati : (pa : Int) = (j : Int) := by omega
            have hati' : ((pa : Int) == (j : Int)) = true := by rw [beq_iff_eq]; exact hati
            subst hat
            clear hp hpg HE hrd2 hsec2 hp1 HN2 hkl2 hkw
            go_wp2
            go_roundw
            case rel => exact ⟨k + 1, k2, c2, by omega, by go_num, rfl, HE2, by trivial⟩
            case measure => simp [intOf]; omega
          · have HE2 : Hid (Rd wr (some ⟨kb, 0, none⟩) 64 (nowS D j (k + 1)) ∧ Sec (nowS D j (k + 1))) := by
              show _ ∧ _
              rw [HN2.out, if_neg hat]
              exact HE.out
            have hati : ¬ (pa : Int) = (j : Int) := by omega
            have hati' : ((pa : Int) == (j : Int)) = false := by rw [beq_eq_false_iff_ne]; exact hati
            clear hp hpg HE hrd2 hsec2 hp1 HN2 hkl2 hkw
            go_wp2
            go_roundw
            case rel => exact ⟨k + 1, kb, cb, by omega, by go_num, rfl, HE2, by trivial⟩
            case measure => simp [intOf]; omega
        · obtain rfl : k = nw := by omega
          have HE2 : Hid (Rd wr (some ⟨kb, 0, none⟩) 64 T ∧ Sec T) := by
            show _ ∧ _
            rw [HT.out, nowB, ← HNW.out]
            exact HE.out
          have HRD : Hid (Rd (wr.alloc (.cells #[] 5)) (some ⟨kb, 0, none⟩) 64 T) := HE2.out.1.below (below_alloc _ _)
          have HOW : Hid (Own (wr.alloc (.cells #[] 5)) wr.heap.size (some ⟨wr.heap.size, 0, none⟩) 0 0 []) := Own.empty wr
          have HBA : Hid (Below wr.heap.size wr (wr.alloc (.cells #[] 5))) := below_alloc _ _
          clear HE hlt
          go_wp2_with (guard_target =~ wpList _ _ _ (Oper.mk (some 54) _ _ _ _ _ :: _) _ _; refine wpList_append_rd rfl (.tmp 52) (.tmp 53) rfl wr.heap.size (some ⟨wr.heap.size, 0, none⟩) 0 0 [] rfl HOW.out (some ⟨kb, 0, none⟩) 64 cb T rfl HRD.out (fun e => by cases e) (by omega) HBA.out.size ?_)
          intro a' c' w2 ho2 hg2 hb2
          have HO2 : Hid (Own w2 wr.heap.size a' 64 c' T) := ho2
          have HB2 : Hid (Below wr.heap.size wr w2) := HBA.out.trans hb2
          clear ho2 hg2 hb2
          go_wp2
          go_returns
          exact ⟨.inr ⟨HX.out, a', c', rfl, HO2.out.rd, HE2.out.2, HO2.out.cap⟩, HB2.out⟩
end Go.Proofs.Ytghajmcohdedlaa
/- The reference's disk: Write. -/
namespace Go.Proofs.Ytghajmcohdedlaa
open Go.RowKit

theorem infoPut : (Try.prog.info? 103).map (fun i => (i.zero, i.size, i.bytes)) = some (some (.agg #[.int .i64 0, .slice none 0 0]), 2, 32) := by kernel_rfl
theorem wpList_append_put {w : World} {ops : Array Oper} {rest : List Oper} {o : Oper} {act : Act} {Q : Exit → Act → World → Prop} (hgd : o.guard = none) (s x : Operand)
    (ho : o.op = .call { callee := .builtin .append, args := #[s, x], argTypes := #[46, 46] })
    (base : Nat) (v : Value) (n : Nat) (WV : List Value) (hs : act.eval s = v) (hown : w.ownsRow base 103 2 v n WV) (k c : Nat) (i : Int) (a : Option Addr) (l cp : Nat) (hx : act.eval x = .slice (some ⟨k, 0, none⟩) 1 c)
    (hb : Blk w k #[.int .i64 i, .slice a l cp] 103) (hl : n < 1000000000) (hbase : base ≤ w.heap.size)
    (h : ∀ v' w', w'.ownsRow base 103 2 v' (n + 1) (WV ++ [.int .i64 i, .slice a l cp]) → w.grownBy w' v.ownBlock → wpList Try.prog ops Q rest (act.put o.dst v') w') : wpList Try.prog ops Q (o :: rest) act w := by
  obtain ⟨i0, hi, hz0, hz1, hz2⟩ := info_parts infoPut
  refine wpList_append_own w hgd s x 46 ho base 103 i0 (.agg #[.int .i64 0, .slice none 0 0]) 2 32 Try.underlying46 hi hz0 hz1 hz2 (by rfl) (by decide) v n WV hs hown ⟨k, 0, none⟩ 1 c [.int .i64 i, .slice a l cp] hx (by rfl) (fun j u hj => ?_) (fun u hu => ?_) (by unfold maxLen; omega) (by omega) hbase fun v' w' h1 h2 _ => h v' w' h1 h2
  · have e : (⟨k, 0, none⟩ : Addr).add j = ⟨k, 0 + j, none⟩ := by unfold Addr.add; split <;> simp_all
    rw [e, Nat.zero_add]
    exact hb.cell j (by simpa using hj)
  · simp only [List.mem_cons, List.not_mem_nil, or_false] at hu
    rcases hu with rfl | rfl <;> rfl
/-- A write more waits. -/
theorem Rk.wrote {w w' : World} {base r q : Nat} {sv wv v' : Value} {SV WV : List Value} {D : Dk} (h : Rk w base r q sv wv SV WV D) (p : Nat × List Nat) {bv : Value} (hp : Byt w q bv p.2) (hi : p.1 < D.sure.length) (hl : D.waits.length < 1000000000)
    (ho : w'.ownsRow base 103 2 v' (D.waits.length + 1) (WV ++ [.int .i64 (p.1 : Int), bv])) (hg : w.grownBy w' wv.ownBlock) : Rk (w'.setCell ⟨r, 1, none⟩ v') base r q sv v' SV (WV ++ [.int .i64 (p.1 : Int), bv]) { D with waits := D.waits ++ [p] } ∧ Mr w (w'.setCell ⟨r, 1, none⟩ v') base := by
  obtain ⟨a1, a2⟩ := h.apart
  have hbs : base ≤ w.heap.size := Nat.le_trans h.br (Nat.le_of_lt h.blk.lt)
  have k1 : Blk w' r _ 48 := h.blk.grown hg a2
  have hc := grown_cell w' r 1 v'
  have m1 := Mr.of_own (.inr rfl) h.wrow hg hbs
  have m2 := Mr.of_cell k1 h.br hc
  have m := m1.trans m2
  have s1 : w'.ownsRow base 49 1 sv D.sure.length SV := own_type h.srow (fun k cs hk => by rw [hg.block k (heap_lt hk) (own_ne' h.wrow hk (by decide))]; exact hk)
  have s2 : (w'.setCell ⟨r, 1, none⟩ v').ownsRow base 49 1 sv D.sure.length SV := own_type s1 (fun k cs hk => by rw [hc.block k (heap_lt hk) (fun e => by simp only [Option.some.injEq] at e; exact blk_ne hk k1 (by decide) e)]; exact hk)
  have s3 : (w'.setCell ⟨r, 1, none⟩ v').ownsRow base 103 2 v' (D.waits.length + 1) (WV ++ [.int .i64 (p.1 : Int), bv]) := own_type ho (fun k cs hk => by rw [hc.block k (heap_lt hk) (fun e => by simp only [Option.some.injEq] at e; exact blk_ne hk k1 (by decide) e)]; exact hk)
  have hmv : ∀ (k : Nat) cur, w.heap[k]? = some (.cells cur 5 (0, 0)) → k ≠ q → (w'.setCell ⟨r, 1, none⟩ v').heap[k]? = some (.cells cur 5 (0, 0)) := fun k cur hk _ => m.block k cur _ _ hk (by decide) (by decide) (by decide)
  have hwl : WV.length = D.waits.length * 2 := h.wrow.1
  refine ⟨⟨k1.set 1 v', s2, by simpa using s3, h.br, h.s1, h.sz, fun i s hs => (h.each i s hs).imp fun _ hv => ⟨hv.1, hv.2.move hmv⟩, fun i p' hp' => ?_, h.tr, h.ag, by simp; omega⟩, m⟩
  simp only at hp'
  by_cases hil : i < D.waits.length
  · rw [List.getElem?_append_left hil] at hp'
    obtain ⟨g0, g1, v, g2, g3⟩ := h.puts i p' hp'
    exact ⟨g0, by rw [List.getElem?_append_left (by omega)]; exact g1, v, by rw [List.getElem?_append_left (by omega)]; exact g2, g3.move hmv⟩
  · have hl2 := (List.getElem?_eq_some_iff.1 hp').1
    rw [List.length_append, List.length_singleton] at hl2
    obtain rfl : i = D.waits.length := by omega
    rw [List.getElem?_append_right (Nat.le_refl _), Nat.sub_self, List.getElem?_cons_zero, Option.some.injEq] at hp'
    subst hp'
    refine ⟨hi, ?_, bv, ?_, hp.move hmv⟩
    · rw [List.getElem?_append_right (by omega), hwl, Nat.sub_self]; rfl
    · rw [List.getElem?_append_right (by omega), hwl, show D.waits.length * 2 + 1 - D.waits.length * 2 = 1 from by omega]; rfl

set_option maxRecDepth 100000 in
set_option maxHeartbeats 2000000 in
theorem ref_Write (w : World) (base r q : Nat) (sv wv : Value) (SV WV : List Value) (D : Dk) (i : Int) (a : Option Addr) (len cap : Nat) (bs : List Nat) (h : Rk w base r q sv wv SV WV D) (hq : q < w.heap.size) (hr0 : ∀ w', Mr w w' base → Rd w' a len bs) (hmc : a = none → cap = 0) (hl : len ≤ 9223372036854775807) (hw : D.waits.length < 1000000000) :
    Calls Try.prog 43 #[.pointer (some ⟨r, 0, none⟩), .int .i64 i, .slice a len cap] w fun e w' => e = .returned (.int .i64 (writeE D i bs)) ∧ Hid (∃ wv' WV', Rk w' base r q sv wv' SV WV' (writeD D i bs)) ∧ Mr w w' base := by
  have HD : Hid (Rk w base r q sv wv SV WV D) := h
  have HRR : Hid (∀ w', Mr w w' base → Rd w' a len bs) := hr0
  have hr := hr0 w (Mr.refl _ _)
  have HBS : Hid (base ≤ w.heap.size) := Nat.le_trans h.br (Nat.le_of_lt h.blk.lt)
  have c3 : w.cell? ⟨r, 3, none⟩ = some (.bool D.down) := h.blk.cell 3 rfl
  obtain ⟨R, HX⟩ : ∃ R, Hid (R = writeE D i bs) := ⟨_, rfl⟩
  obtain ⟨D', HY⟩ : ∃ D', Hid (D' = writeD D i bs) := ⟨_, rfl⟩
  rw [← HX.out, ← HY.out]
  have HSZ : Hid (bs.length = len) := hr.size
  have HBY : Hid (∀ b ∈ bs, b < 256) := hr.byte
  have HQ : Hid (q < w.heap.size) := hq
  have HMC : Hid (a = none → cap = 0) := hmc
  clear h hr hr0 hq hmc
  cases hd : D.down with
  | true =>
    rw [hd] at c3
    have HE : Hid (R = 10 ∧ D' = D) := ⟨by rw [HX.out, writeE, if_pos hd], by rw [HY.out, writeD, if_pos hd]⟩
    clear hd
    go_enter Try.func43, Try.ntmps43
    go_wp2
    go_ret
    exact ⟨by rw [HE.out.1]; rfl, ⟨wv, WV, by rw [HE.out.2]; exact HD.out⟩, Mr.refl _ _⟩
  | false =>
    rw [hd] at c3
    have HDN : Hid (D.down = false) := hd
    clear hd
    go_enter Try.func43, Try.ntmps43
    go_wp2_with fail
    refine (ref_has w base r q _ _ SV WV D i HD.out).mono ?_
    rintro e w1 ⟨he, hw1⟩
    subst he
    rw [hw1]
    clear hw1 w1
    cases hh : hasB D i with
    | false =>
      have HE : Hid (R = 2 ∧ D' = D) := ⟨by rw [HX.out, writeE, HDN.out, if_neg (by decide), if_pos hh], by rw [HY.out, writeD, HDN.out, if_neg (by decide), if_pos hh]⟩
      clear hh
      go_wp2
      go_ret
      exact ⟨by rw [HE.out.1]; rfl, ⟨wv, WV, by rw [HE.out.2]; exact HD.out⟩, Mr.refl _ _⟩
    | true =>
      by_cases h64 : 64 < len
      · have HE : Hid (R = 6 ∧ D' = D) := ⟨by rw [HX.out, writeE, HDN.out, if_neg (by decide), hh, if_neg (by decide), HSZ.out, if_pos h64], by rw [HY.out, writeD, HDN.out, if_neg (by decide), hh, if_neg (by decide), HSZ.out, if_pos h64]⟩
        have h64' : (64 : Int) < (len : Int) := by omega
        clear hh
        go_wp2
        go_ret
        exact ⟨by rw [HE.out.1]; rfl, ⟨wv, WV, by rw [HE.out.2]; exact HD.out⟩, Mr.refl _ _⟩
      · have h64' : ¬ (64 : Int) < (len : Int) := by omega
        obtain ⟨h0, h1⟩ := (hasB_iff D i).1 hh
        obtain ⟨j, rfl⟩ := Int.eq_ofNat_of_zero_le h0
        have HJ : Hid (j < D.sure.length) := by show _ < _; omega
        have HE0 : Hid (R = (if tripsB D = true then 10 else 0) ∧ D' = (if tripsB D = true then tripsD D else { tripsD D with waits := D.waits ++ [(j, padS bs)] })) :=
          ⟨by rw [HX.out, writeE, HDN.out, if_neg (by decide), hh, if_neg (by decide), HSZ.out, if_neg h64], by rw [HY.out, writeD, HDN.out, if_neg (by decide), hh, if_neg (by decide), HSZ.out, if_neg h64, Int.toNat_natCast]⟩
        clear hh h0 h1 HX HY
        go_wp2_with fail
        refine (ref_trips w base r q _ _ SV WV D HD.out HDN.out).mono ?_
        rintro e w2 ⟨rfl, hd2, hm2, hs2⟩
        have HD2 : Hid (Rk w2 base r q sv wv SV WV (tripsD D)) := hd2
        have HM2 : Hid (Mr w w2 base) := hm2
        have HS2 : Hid (w2.heap.size = w.heap.size) := hs2
        clear hd2 hm2 hs2
        cases ht : tripsB D with
        | true =>
          have HE : Hid (R = 10 ∧ D' = tripsD D) := by have := HE0.out; rw [ht] at this; exact this
          clear ht HE0
          go_wp2
          go_ret
          exact ⟨by rw [HE.out.1]; rfl, ⟨wv, WV, by rw [HE.out.2]; exact HD2.out⟩, HM2.out⟩
        | false =>
          have HE : Hid (R = 0 ∧ D' = { tripsD D with waits := (tripsD D).waits ++ [(j, padS bs)] }) := by have := HE0.out; rw [ht] at this; rw [trips_waits]; exact this
          clear ht HE0
          obtain ⟨T, hT⟩ : ∃ T, T = tripsD D := ⟨_, rfl⟩
          have HTS : Hid (T.sure.length = D.sure.length ∧ T.waits.length = D.waits.length) := by show _ ∧ _; rw [hT, trips_sure, trips_waits]; exact ⟨rfl, rfl⟩
          rw [← hT] at HE HD2
          clear hT
          obtain ⟨kk, hkk⟩ : ∃ kk, len + kk = 64 := ⟨64 - len, by omega⟩
          have hkk' : (64 : Int) - (len : Int) = (kk : Int) := by omega
          have HBA : Hid (Below w2.heap.size w2 (w2.alloc (.cells #[] 5))) := below_alloc _ _
          have HBS2 : Hid (base ≤ w2.heap.size) := by show _ ≤ _; rw [HS2.out]; exact HBS.out
          have HMA : Hid (Mr w (w2.alloc (.cells #[] 5)) base) := HM2.out.trans (Mr.of_below HBA.out HBS2.out)
          have HRD : Hid (Rd (w2.alloc (.cells #[] 5)) a len bs) := HRR.out _ HMA.out
          have HOW : Hid (Own (w2.alloc (.cells #[] 5)) w2.heap.size (some ⟨w2.heap.size, 0, none⟩) 0 0 []) := Own.empty w2
          go_wp2_with (guard_target =~ wpList _ _ _ (Oper.mk (some 25) _ _ _ _ _ :: _) _ _; refine wpList_append_rd rfl (.tmp 23) (.tmp 24) rfl w2.heap.size (some ⟨w2.heap.size, 0, none⟩) 0 0 [] rfl HOW.out a len cap bs rfl HRD.out HMC.out (by omega) HBA.out.size ?_)
          intro a3 c3' w3 ho3 hg3 hb3
          have HO3 : Hid (Own w3 w2.heap.size a3 len c3' bs) := ho3
          have HB3 : Hid (Below w2.heap.size w2 w3) := HBA.out.trans hb3
          clear ho3 hg3 hb3 c3
          go_wp2_with (guard_target =~ wpList _ _ _ (Oper.mk (some 29) _ _ _ _ _ :: _) _ _; refine wpList_append_zeros rfl (.tmp 25) (.tmp 28) rfl w2.heap.size a3 len c3' bs rfl HO3.out kk 64 rfl hkk (by omega) HB3.out.size ?_)
          intro a4 c4 w4 ho4 hg4 hb4
          have HO4 : Hid (Own w4 w2.heap.size a4 64 c4 (padS bs)) := by
            have e : padS bs = bs ++ List.replicate kk 0 := by rw [padS, HSZ.out]; congr 2; omega
            show Own _ _ _ _ _ _
            rw [e]
            exact ho4
          have HB4 : Hid (Below w2.heap.size w2 w4) := HB3.out.trans hb4
          clear ho4 hg4 hb4
          have HD4 : Hid (Rk w4 base r q sv wv SV WV T) := HD2.out.stay HB4.out
          have c1 : w4.cell? ⟨r, 1, none⟩ = some wv := HD4.out.blk.cell 1 rfl
          have HWX : Hid (T.waits.length < 1000000000) := by show _ < _; rw [HTS.out.2]; exact hw
          have HBS4 : Hid (base ≤ (w4.alloc (.cells #[.int .i64 (j : Int), .slice a4 64 c4] 103)).heap.size) := by show _ ≤ _; have := HB4.out.size; have := HBS2.out; simp; omega
          have HDA : Hid (Rk (w4.alloc (.cells #[.int .i64 (j : Int), .slice a4 64 c4] 103)) base r q sv wv SV WV T) := HD4.out.stay (below_alloc _ _)
          have HYA : Hid (Byt (w4.alloc (.cells #[.int .i64 (j : Int), .slice a4 64 c4] 103)) q (.slice a4 64 c4) (padS bs)) := Byt.of_own (HO4.out.below (below_alloc _ _)) (by rw [HS2.out]; exact HQ.out)
          have HMA2 : Hid (Mr w (w4.alloc (.cells #[.int .i64 (j : Int), .slice a4 64 c4] 103)) base) := HM2.out.trans (Mr.of_below (HB4.out.trans ((below_alloc _ _).mono HB4.out.size)) HBS2.out)
          go_wp2_with (guard_target =~ wpList _ _ _ (Oper.mk (some 39) _ _ _ _ _ :: _) _ _; refine wpList_append_put rfl (.tmp 34) (.tmp 38) rfl base wv T.waits.length WV rfl HDA.out.wrow w4.heap.size 1 (j : Int) a4 64 c4 rfl (Blk.new _ _ _) HWX.out HBS4.out ?_)
          intro v5 w5 ho5 hg5
          obtain ⟨a5, n5, k5, rfl⟩ := own_slice ho5
          have f1 : w5.frozen? ⟨r, 1, none⟩ = false := (HDA.out.blk.grown hg5 HDA.out.apart.2).free 1
          have d1 : w5.cell? ⟨r, 1, none⟩ = some wv := (HDA.out.blk.grown hg5 HDA.out.apart.2).cell 1 rfl
          obtain ⟨hd6, hm6⟩ := HDA.out.wrote (j, padS bs) HYA.out (by rw [HTS.out.1]; exact HJ.out) HWX.out ho5 hg5
          have HD6 : Hid (Rk (w5.setCell ⟨r, 1, none⟩ (.slice a5 n5 k5)) base r q sv (.slice a5 n5 k5) SV (WV ++ [.int .i64 (j : Int), .slice a4 64 c4]) { T with waits := T.waits ++ [(j, padS bs)] }) := hd6
          have HM6 : Hid (Mr w (w5.setCell ⟨r, 1, none⟩ (.slice a5 n5 k5)) base) := HMA2.out.trans hm6
          clear hd6 hm6 ho5 hg5 c1
          go_wp2
          go_ret
          exact ⟨by rw [HE.out.1]; rfl, ⟨_, _, by rw [HE.out.2]; exact HD6.out⟩, HM6.out⟩
end Go.Proofs.Ytghajmcohdedlaa
