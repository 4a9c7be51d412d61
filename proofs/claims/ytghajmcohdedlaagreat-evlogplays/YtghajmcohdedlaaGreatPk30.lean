import Derived.Test.YtghajmcohdedlaaGreatPk29
import Derived.Lib.AppendZerosOnto
namespace Go.Proofs.YtghajmcohdedlaaGreat
open Go.RowKit
theorem zero_cells (k : Nat) : (Builtin.zeroCells #[Value.int .u8 0] k).toList = vb (List.replicate k 0) := by
 simp only [Builtin.zeroCells, vb]
 apply List.ext_getElem
 ·simp
 ·intro i h1 h2
  simp [Nat.mod_one]
theorem run_append_zeros (w : World) (ty : TypeId) (base : Nat) (a : Option Addr) (n cap : Nat) (xs : List Nat) (hown : Own w base a n cap xs) (k : Nat) (hk : n + k ≤ 1000000) (hbase : base ≤ w.heap.size) :
  ∃ a' cap' w', (Builtin.append_ #[27, 3] ty #[.slice a n cap, .int .i64 (k : Int)]).run Tryz.prog w = .ok (.slice a' (n + k) cap') w' ∧ Own w' base a' (n + k) cap' (xs ++ List.replicate k 0) ∧ w.grownBy w' (Value.ownBlock (.slice a n cap)) ∧ Below base w w' := by
 obtain ⟨i0, hi, hz0, hz1, hz2⟩ := info_parts infoByte
 have hbyte : ∀ x ∈ xs ++ List.replicate k 0, x < 256 := fun x hx => (List.mem_append.1 hx).elim (hown.byte x) (fun h => by rw [List.eq_of_mem_replicate h]; omega)
 have hw : IntKind.i64.wrap (k : Int) = k := by rw [IntKind.wrap_i64]; omega
 have hneg : ¬ ((k : Int) < 0) := by omega
 have h48i : ¬ (281474976710656 < (k : Int) * (i0.bytes : Int)) := by rw [hz2]; omega
 have hzc : (Value.int .u8 0).cells = #[Value.int .u8 0] := rfl
 have low : ∀ w', w.grownBy w' (Value.ownBlock (.slice a n cap)) → Below base w w' := fun w' h3 => (Below.refl _ _).grown h3 hbase (fun j hj => (hown.row.lt j hj).1)
 by_cases hk0 : k = 0
 ·subst hk0
  have hg : w.grownBy w (Value.ownBlock (.slice a n cap)) := ⟨rfl, rfl, rfl, Nat.le_refl _, fun _ _ _ => rfl⟩
  refine ⟨a, cap, w, ?_, by simpa using hown, hg, low w hg⟩
  have hnc : n ≤ cap := by
   rcases hown.row.2 with ⟨h1, h0⟩ | ⟨g, c, cur, h1, _, _, h4, _⟩
   ·omega
   ·simp only [Value.slice.injEq] at h1; omega
  cases a with
  | none => simp [Builtin.append_, run_underlying Tryz.underlying27, run_underlying Tryz.underlying3, sizeOf, typeInfo, hi, asInt, asIntOf, hnc, IntKind.wrap_i64]
  | some ad => simp [Builtin.append_, run_underlying Tryz.underlying27, run_underlying Tryz.underlying3, sizeOf, typeInfo, hi, asInt, asIntOf, hnc, IntKind.wrap_i64, storeCells]
 ·have grown : ∀ (old : Nat), 
    Own (w.drew.alloc (.cells ((vb xs).toArray ++ Builtin.zeroCells #[Value.int .u8 0] k ++ Builtin.zeroCells #[Value.int .u8 0] (grownCap w (n + k) old 5 - (n + k))) 5)) base (some ⟨w.heap.size, 0, none⟩) (n + k) (grownCap w (n + k) old 5) (xs ++ List.replicate k 0) ∧
    w.grownBy (w.drew.alloc (.cells ((vb xs).toArray ++ Builtin.zeroCells #[Value.int .u8 0] k ++ Builtin.zeroCells #[Value.int .u8 0] (grownCap w (n + k) old 5 - (n + k))) 5)) (Value.ownBlock (.slice a n cap)) := by
   intro old
   have hge := grownCap_ge w (n + k) old 5
   have hcm : grownCap w (n + k) old 5 ≤ maxLen := grownCap_le_maxLen w (n + k) old 5 (by unfold maxLen; omega)
   have hxl : (vb xs).length = n := by rw [vb_length]; exact hown.size
   have hlen : (vb (xs ++ List.replicate k 0)).length = (n + k) * 1 := by rw [vb_length, List.length_append, hown.size, List.length_replicate]; omega
   refine ⟨⟨⟨hlen, .inr ⟨w.heap.size, _, _, rfl, hbase, heap_alloc_new w.drew _, hge, hcm, ?_, ?_⟩⟩, hbyte⟩, ⟨rfl, rfl, rfl, by simp, fun j hj _ => heap_alloc_old w.drew _ hj⟩⟩
   ·simp only [Array.size_append, List.size_toArray, size_zeroCells, hxl]
    simp
    omega
   ·simp only [Array.toList_append, zero_cells]
    rw [← vb_append, ← hlen]
    exact List.take_left
  rcases hown.row.2 with ⟨h1, h0⟩ | ⟨g, c, cur, h1, hbg, hg, hnc, hcm, hcs, htake⟩
  ·simp only [Value.slice.injEq] at h1
   obtain ⟨rfl, rfl, rfl⟩ := h1
   have hx : xs = [] := List.eq_nil_of_length_eq_zero hown.size
   subst hx
   have hr := Go.Lib.run_append_nil_zeros (P := Tryz.prog) w 27 3 ty 5 i0 (.int .u8 0) .i64 .i64 Tryz.underlying27 Tryz.underlying3 hi hz0 k (by omega) (by rw [hz1]; omega) (by omega) (by rw [hz2]; omega)
   have hgr := grown 0
   simp only [vb, List.map_nil, Array.empty_append, Nat.zero_add] at hgr
   exact ⟨_, _, _, by rw [Nat.zero_add]; exact hr, by rw [Nat.zero_add]; exact hgr.1, hgr.2, low _ hgr.2⟩
  ·simp only [Value.slice.injEq] at h1
   obtain ⟨rfl, _, rfl⟩ := h1
   by_cases hroom : n + k ≤ cap
   ·have hzl : (Builtin.zeroCells #[Value.int .u8 0] k).toList.length = k := by rw [zero_cells, vb_length, List.length_replicate]
    have hst := run_storeCells_at Tryz.prog g n 5 (Builtin.zeroCells #[Value.int .u8 0] k).toList 0 cur w hg (by rw [hzl]; omega) (by rw [zero_cells]; exact vb_one _)
    simp only [Nat.add_zero] at hst
    have hgr : w.grownBy (w.setRow g (cur.toList.take n ++ (Builtin.zeroCells #[Value.int .u8 0] k).toList ++ cur.toList.drop (n + (Builtin.zeroCells #[Value.int .u8 0] k).toList.length)).toArray) (Value.ownBlock (.slice (some ⟨g, 0, none⟩) n cap)) := ⟨rfl, rfl, rfl, by simp, fun j _ hj => setRow_other w g j _ (fun e => hj (by simp [Value.ownBlock, e]))⟩
    refine ⟨some ⟨g, 0, none⟩, cap, w.setRow g (cur.toList.take n ++ (Builtin.zeroCells #[Value.int .u8 0] k).toList ++ cur.toList.drop (n + (Builtin.zeroCells #[Value.int .u8 0] k).toList.length)).toArray, ?_, ⟨⟨?_, .inr ⟨g, cap, _, rfl, hbg, setRow_heap w g cur _ 5 _ hg, hroom, hcm, ?_, ?_⟩⟩, hbyte⟩, hgr, low _ hgr⟩
    ·simp [Builtin.append_, run_underlying Tryz.underlying27, run_underlying Tryz.underlying3, sizeOf, typeInfo, zeroValue, hi, hz0, hz1, asInt, asIntOf, hw, hneg, h48i, hroom, hk0, hzc, Addr.add_lit, hst]
    ·rw [vb_length, List.length_append, hown.size, List.length_replicate]; omega
    ·simp only [List.size_toArray, List.length_append, List.length_take, List.length_drop, Array.length_toList, hzl]
     omega
    ·have h2 : cur.toList.take n = vb xs := by simpa using htake
     rw [h2, zero_cells, ← vb_append]
     have hlen : (vb (xs ++ List.replicate k 0)).length = (n + k) * 1 := by rw [vb_length, List.length_append, hown.size, List.length_replicate]; omega
     rw [← hlen]
     exact List.take_left
   ·have hold : (Builtin.firstCells i0.size n (.slice (some ⟨g, 0, none⟩) n cap)).run Tryz.prog w.drew = .ok (vb xs).toArray w.drew := by
     exact run_firstCells_some (P := Tryz.prog) w.drew i0.size n ⟨g, 0, none⟩ n cap (vb xs) (by rw [hz1, vb_length, hown.size]; omega) (fun j u hj => hown.row.cells (g := g) rfl j u hj)
    have hr := Go.Lib.run_append_grow_zeros (P := Tryz.prog) w 27 3 ty 5 i0 (.int .u8 0) .i64 .i64 Tryz.underlying27 Tryz.underlying3 hi hz0 (some ⟨g, 0, none⟩) n cap (vb xs) hold k (by omega) (by rw [hz1]; omega) (by omega) (by omega) (by rw [hz2]; omega) (growslice_fits (by omega) (by rw [hz2]; omega))
    have hgr := grown cap
    exact ⟨_, _, _, hr, hgr.1, hgr.2, low _ hgr.2⟩
theorem wpList_append_zeros {w : World} {ops : Array Oper} {rest : List Oper} {o : Oper} {act : Act} {Q : Exit → Act → World → Prop} (hgd : o.guard = none) (s x : Operand)
  (ho : o.op = .call { callee := .builtin .append, args := #[s, x], argTypes := #[27, 3] })
  (base : Nat) (a : Option Addr) (n cap : Nat) (xs : List Nat) (hs : act.eval s = .slice a n cap) (hown : Own w base a n cap xs) (k m : Nat) (hx : act.eval x = .int .i64 (k : Int)) (hm : n + k = m) (hk : m ≤ 1000000) (hbase : base ≤ w.heap.size)
  (h : ∀ a' cap' w', Own w' base a' m cap' (xs ++ List.replicate k 0) → w.grownBy w' (Value.ownBlock (.slice a n cap)) → Below base w w' → wpList Tryz.prog ops Q rest (act.put o.dst (.slice a' m cap')) w') : wpList Tryz.prog ops Q (o :: rest) act w := by
 subst hm
 refine wpList_plain hgd fun K hK => ?_
 obtain ⟨a', cap', w', hrun, h2, h3, h4⟩ := run_append_zeros w o.type base a n cap xs hown k hk hbase
 unfold Oper.wp
 simp only [execOp, ho, resolve, invoke, builtin, Sem.run_bind, Sem.run_pure, Result.andThen_ok, List.map_toArray, List.map_cons, List.map_nil, hs, hx, hrun]
 exact hK _ _ (h a' cap' w' h2 h3 h4)
set_option maxRecDepth 100000 in
theorem ref_has (w : World) (base r q : Nat) (sv wv : Value) (SV WV : List Value) (D : Dk) (i : Int) (h : Rk w base r q sv wv SV WV D) :
  Calls Tryz.prog 55 #[.pointer (some ⟨r, 0, none⟩), .int .i64 i] w fun e w' => e = .returned (.bool (hasB D i)) ∧ w' = w := by
 obtain ⟨rs, c, rfl, _⟩ := h.form
 have c0 : w.cell? ⟨r, 0, none⟩ = some (.slice (some ⟨rs, 0, none⟩) D.sure.length c) := h.blk.cell 0 rfl
 have hsz := h.sz
 obtain ⟨n, hn⟩ : ∃ n, n = D.sure.length := ⟨_, rfl⟩
 obtain ⟨R, HR⟩ : ∃ R, Hid (R = hasB D i) := ⟨_, rfl⟩
 rw [← HR.out]
 rw [← hn] at c0 hsz
 have HN : Hid (n = D.sure.length) := hn
 clear h hn
 by_cases h0 : 0 ≤ i
 ·by_cases h1 : i < (n : Int)
  ·have HX : Hid (R = true) := by show _ = _; rw [HR.out, hasB_iff, ← HN.out]; exact ⟨h0, h1⟩
   go_enter Tryz.func55, Tryz.ntmps55
   go_wp2
   go_ret
   exact ⟨by rw [HX.out]; rfl, rfl⟩
  ·have HX : Hid (R = false) := by show _ = _; rw [HR.out, hasB_not, ← HN.out]; exact fun hh => h1 hh.2
   go_enter Tryz.func55, Tryz.ntmps55
   go_wp2
   go_ret
   exact ⟨by rw [HX.out]; rfl, rfl⟩
 ·have HX : Hid (R = false) := by show _ = _; rw [HR.out, hasB_not]; exact fun hh => h0 hh.1
  go_enter Tryz.func55, Tryz.ntmps55
  go_wp2
  go_ret
  exact ⟨by rw [HX.out]; rfl, rfl⟩
theorem Rk.with3 {w w' : World} {base r q : Nat} {sv wv : Value} {SV WV : List Value} {D : Dk} (h : Rk w base r q sv wv SV WV D) (t : Nat) (d : Bool) (ht : t ≤ 9223372036854775807) (hb : Blk w' r #[sv, wv, .int .i64 (t : Int), .bool d, .int .i64 (D.age : Int)] 66)
  (hg : w.grownBy w' (some r)) : Rk w' base r q sv wv SV WV { D with trip := t, down := d } := by
 obtain ⟨a1, a2⟩ := h.apart
 have hk : ∀ (k : Nat) cur, w.heap[k]? = some (.cells cur 5 (0, 0)) → k ≠ q → w'.heap[k]? = some (.cells cur 5 (0, 0)) := fun k cur h1 _ => by
  rw [hg.block k (heap_lt h1) (fun e => ?_)]
  ·exact h1
  ·simp only [Option.some.injEq] at e
   exact blk_ne h1 h.blk (by decide) e
 exact ⟨hb, own_stay h.srow (fun k hk => hg.block k (h.srow.lt k hk).2 (fun e => a1 (by rw [← e, hk]))), own_stay h.wrow (fun k hk => hg.block k (h.wrow.lt k hk).2 (fun e => a2 (by rw [← e, hk]))), h.br, h.s1, h.sz, fun i s hs => (h.each i s hs).imp fun _ hv => ⟨hv.1, hv.2.move hk⟩, fun i p hp => ⟨(h.puts i p hp).1, (h.puts i p hp).2.1, (h.puts i p hp).2.2.imp fun _ hv => ⟨hv.1, hv.2.move hk⟩⟩, ht, h.ag, h.wl⟩
set_option maxRecDepth 100000 in
theorem ref_trips (w : World) (base r q : Nat) (sv wv : Value) (SV WV : List Value) (D : Dk) (h : Rk w base r q sv wv SV WV D) (hd : D.down = false) :
  Calls Tryz.prog 56 #[.pointer (some ⟨r, 0, none⟩)] w fun e w' => e = .returned (.bool (tripsB D)) ∧ Rk w' base r q sv wv SV WV (tripsD D) ∧ Mr w w' base ∧ w'.heap.size = w.heap.size := by
 have HD : Hid (Rk w base r q sv wv SV WV D) := h
 have c2 : w.cell? ⟨r, 2, none⟩ = some (.int .i64 (D.trip : Int)) := h.blk.cell 2 rfl
 have c3 : w.cell? ⟨r, 3, none⟩ = some (.bool false) := by have := h.blk.cell 3 rfl; rw [hd] at this; exact this
 have f2 := h.blk.free 2
 have f3 := h.blk.free 3
 have htr := h.tr
 obtain ⟨t, ht⟩ : ∃ t, t = D.trip := ⟨_, rfl⟩
 have HT : Hid (t = D.trip) := ht
 rw [← ht] at c2 htr
 clear h ht
 by_cases h0 : t = 0
 ·subst h0
  have HX : Hid (tripsB D = false ∧ tripsD D = D) := by
   unfold tripsB tripsD
   rw [← HT.out]
   exact ⟨rfl, rfl⟩
  go_enter Tryz.func56, Tryz.ntmps56
  go_wp2
  go_ret
  exact ⟨by rw [HX.out.1]; rfl, by rw [HX.out.2]; exact HD.out, Mr.refl _ _, rfl⟩
 ·obtain ⟨u, rfl⟩ : ∃ u, t = u + 1 := ⟨t - 1, by omega⟩
  have hu : ((u + 1 : Nat) : Int) - 1 = (u : Int) := by omega
  have hu' : (u : Int) + 1 - 1 = (u : Int) := by omega
  have hn0 : (0 : Int) < (u : Int) + 1 := by omega
  by_cases h1 : u = 0
  ·subst h1
   have HX : Hid (tripsB D = true ∧ tripsD D = { D with trip := 0, down := true }) := by
    unfold tripsB tripsD
    rw [← HT.out]
    exact ⟨rfl, rfl⟩
   have HK2 : Hid (Blk ((w.setCell ⟨r, 2, none⟩ (.int .i64 0)).setCell ⟨r, 3, none⟩ (.bool true)) r #[sv, wv, .int .i64 ((0 : Nat) : Int), .bool true, .int .i64 (D.age : Int)] 66) := (HD.out.blk.set 2 (.int .i64 0)).set 3 (.bool true)
   have HG : Hid (w.grownBy ((w.setCell ⟨r, 2, none⟩ (.int .i64 0)).setCell ⟨r, 3, none⟩ (.bool true)) (some r)) := grown_trans (grown_cell _ _ _ _) (grown_cell _ _ _ _)
   go_enter Tryz.func56, Tryz.ntmps56
   go_wp2
   go_ret
   exact ⟨by rw [HX.out.1]; rfl, by rw [HX.out.2]; exact HD.out.with3 0 true (by omega) HK2.out HG.out, Mr.of_cell HD.out.blk HD.out.br HG.out, by simp⟩
  ·have hun : ¬ ((u : Int) = 0) := by omega
   have hun' : ((u : Int) == 0) = false := by rw [beq_eq_false_iff_ne]; omega
   have HX : Hid (tripsB D = false ∧ tripsD D = { D with trip := u, down := false }) := by
    unfold tripsB tripsD
    rw [← HT.out]
    refine ⟨by simp; omega, ?_⟩
    rw [if_neg (by omega), decide_eq_false (by omega)]
    rfl
   have HK2 : Hid (Blk ((w.setCell ⟨r, 2, none⟩ (.int .i64 (u : Int))).setCell ⟨r, 3, none⟩ (.bool false)) r #[sv, wv, .int .i64 (u : Int), .bool false, .int .i64 (D.age : Int)] 66) := (HD.out.blk.set 2 (.int .i64 (u : Int))).set 3 (.bool false)
   have HG : Hid (w.grownBy ((w.setCell ⟨r, 2, none⟩ (.int .i64 (u : Int))).setCell ⟨r, 3, none⟩ (.bool false)) (some r)) := grown_trans (grown_cell _ _ _ _) (grown_cell _ _ _ _)
   go_enter Tryz.func56, Tryz.ntmps56
   go_wp2
   go_ret
   exact ⟨by rw [HX.out.1]; rfl, by rw [HX.out.2]; exact HD.out.with3 u false (by omega) HK2.out HG.out, Mr.of_cell HD.out.blk HD.out.br HG.out, by simp⟩
set_option maxRecDepth 100000 in
set_option maxHeartbeats 1000000 in
theorem ref_Trip (w : World) (base r q : Nat) (sv wv : Value) (SV WV : List Value) (D : Dk) (n : Int) (h : Rk w base r q sv wv SV WV D) (hn : n ≤ 9223372036854775807) :
  Calls Tryz.prog 33 #[.pointer (some ⟨r, 0, none⟩), .int .i64 n] w fun e w' => e = .returned (.int .i64 (tripE D n)) ∧ Hid (Rk w' base r q sv wv SV WV (tripD D n)) ∧ Mr w w' base := by
 have HD : Hid (Rk w base r q sv wv SV WV D) := h
 have c3 : w.cell? ⟨r, 3, none⟩ = some (.bool D.down) := h.blk.cell 3 rfl
 have c2 : w.cell? ⟨r, 2, none⟩ = some (.int .i64 (D.trip : Int)) := h.blk.cell 2 rfl
 have f2 := h.blk.free 2
 obtain ⟨E, HE⟩ : ∃ E, Hid (E = tripE D n) := ⟨_, rfl⟩
 obtain ⟨D', HY⟩ : ∃ D', Hid (D' = tripD D n) := ⟨_, rfl⟩
 rw [← HE.out, ← HY.out]
 clear h
 cases hd : D.down with
 | true =>
  rw [hd] at c3
  have HX : Hid (E = 10 ∧ D' = D) := ⟨by rw [HE.out, tripE, if_pos hd], by rw [HY.out, tripD, if_pos hd]⟩
  clear hd
  go_enter Tryz.func33, Tryz.ntmps33
  go_wp2
  go_ret
  exact ⟨by rw [HX.out.1]; rfl, by rw [HX.out.2]; exact HD.out, Mr.refl _ _⟩
 | false =>
  rw [hd] at c3
  by_cases h0 : n < 0
  ·have HX : Hid (E = 2 ∧ D' = D) := ⟨by rw [HE.out, tripE, hd, if_neg (by decide), if_pos h0], by rw [HY.out, tripD, hd, if_neg (by decide), if_pos h0]⟩
   clear hd
   go_enter Tryz.func33, Tryz.ntmps33
   go_wp2
   go_ret
   exact ⟨by rw [HX.out.1]; rfl, by rw [HX.out.2]; exact HD.out, Mr.refl _ _⟩
  ·have HX : Hid (E = 0 ∧ D' = { D with trip := n.toNat, down := false }) := ⟨by rw [HE.out, tripE, hd, if_neg (by decide), if_neg h0], by rw [HY.out, tripD, hd, if_neg (by decide), if_neg h0]⟩
   have HK3 : Hid (Blk (w.setCell ⟨r, 2, none⟩ (.int .i64 n)) r #[sv, wv, .int .i64 (n.toNat : Int), .bool false, .int .i64 (D.age : Int)] 66) := by
    have := HD.out.blk.set 2 (.int .i64 n)
    rw [hd] at this
    rw [show ((n.toNat : Nat) : Int) = n from by omega]
    exact this
   have HG : Hid (w.grownBy (w.setCell ⟨r, 2, none⟩ (.int .i64 n)) (some r)) := grown_cell _ _ _ _
   clear hd
   go_enter Tryz.func33, Tryz.ntmps33
   go_wp2
   go_ret
   exact ⟨by rw [HX.out.1]; rfl, by rw [HX.out.2]; exact HD.out.with3 n.toNat false (by omega) HK3.out HG.out, Mr.of_cell HD.out.blk HD.out.br HG.out⟩
end Go.Proofs.YtghajmcohdedlaaGreat

namespace Go.Proofs.YtghajmcohdedlaaGreat
open Go.RowKit
def RefTold (w : World) (e : Ending) (er : Int) (s : List Nat) : Prop :=
 (er ≠ 0 ∧ e = .returned (.tuple #[.slice none 0 0, .int .i64 er])) ∨ (er = 0 ∧ ∃ a c, e = .returned (.tuple #[.slice a 64 c, .int .i64 0]) ∧ Rd w a 64 s ∧ Sec s ∧ 64 ≤ c)
theorem Own.cap {w : World} {base : Nat} {a : Option Addr} {len cap : Nat} {bs : List Nat} (h : Own w base a len cap bs) : len ≤ cap := by
 rcases h.row.2 with ⟨h1, h0⟩ | ⟨g, c, cur, h1, _, _, h4, _⟩
 ·omega
 ·simp only [Value.slice.injEq] at h1; omega
theorem Rk.sureAt {w : World} {base r q rs c n : Nat} {wv : Value} {SV WV : List Value} {D : Dk} (h : Rk w base r q (.slice (some ⟨rs, 0, none⟩) n c) wv SV WV D) {i : Nat} {s : List Nat} (hs : D.sure[i]? = some s) : ∃ k c', w.cell? ⟨rs, i, none⟩ = some (.slice (some ⟨k, 0, none⟩) 64 c') ∧ 64 ≤ c' ∧ c' ≤ maxLen ∧ Rd w (some ⟨k, 0, none⟩) 64 s ∧ Sec s ∧ k < w.heap.size := by
 obtain ⟨v, h1, h2⟩ := h.each i s hs
 obtain ⟨k, c', rfl, h4, h5, h6, cur, h7⟩ := h2.slice
 have hi : i < D.sure.length := (List.getElem?_eq_some_iff.1 hs).1
 have hn : n = D.sure.length := by
  obtain ⟨_, _, e, _⟩ := h.form
  simp only [Value.slice.injEq] at e
  exact e.2.1
 subst hn
 refine ⟨k, c', ?_, h4, h5, h6, h2.sec, heap_lt h7⟩
 rw [h.srow.cellAt i (by omega), h1]
theorem Rk.putAt {w : World} {base r q gw c n : Nat} {sv : Value} {SV WV : List Value} {D : Dk} (h : Rk w base r q sv (.slice (some ⟨gw, 0, none⟩) n c) SV WV D) {i : Nat} {p : Nat × List Nat} (hp : D.waits[i]? = some p) : p.1 < D.sure.length ∧ w.cell? ⟨gw, i * 2, none⟩ = some (.int .i64 (p.1 : Int)) ∧ ∃ k c', w.cell? ⟨gw, i * 2 + 1, none⟩ = some (.slice (some ⟨k, 0, none⟩) 64 c') ∧ 64 ≤ c' ∧ c' ≤ maxLen ∧ Byt w q (.slice (some ⟨k, 0, none⟩) 64 c') p.2 ∧ Rd w (some ⟨k, 0, none⟩) 64 p.2 ∧ Sec p.2 ∧ k < w.heap.size := by
 obtain ⟨h0, h1, v, h2, h3⟩ := h.puts i p hp
 have hb := h3
 obtain ⟨k, c', rfl, h4, h5, h6, cur, h7⟩ := h3.slice
 have hi : i < D.waits.length := (List.getElem?_eq_some_iff.1 hp).1
 have hn : n = D.waits.length := by
  obtain ⟨_, _, e, _⟩ := h.wform
  simp only [Value.slice.injEq] at e
  exact e.2.1
 subst hn
 refine ⟨h0, ?_, k, c', ?_, h4, h5, hb, h6, hb.sec, heap_lt h7⟩
 ·rw [h.wrow.cellAt (i * 2) (by omega), h1]
 ·rw [h.wrow.cellAt (i * 2 + 1) (by omega), h2]
set_option maxRecDepth 100000 in
set_option maxHeartbeats 1000000 in
theorem ref_Sure (w : World) (base r q : Nat) (sv wv : Value) (SV WV : List Value) (D : Dk) (i : Int) (h : Rk w base r q sv wv SV WV D) :
  Calls Tryz.prog 39 #[.pointer (some ⟨r, 0, none⟩), .int .i64 i] w fun e w' => Hid (RefTold w' e (sureE D i) (D.sure.getD i.toNat [])) ∧ Below w.heap.size w w' := by
 have HD : Hid (Rk w base r q sv wv SV WV D) := h
 obtain ⟨R, HR⟩ : ∃ R, Hid (R = sureE D i) := ⟨_, rfl⟩
 obtain ⟨T, HT0⟩ : ∃ T, Hid (T = D.sure.getD i.toNat []) := ⟨_, rfl⟩
 rw [← HR.out, ← HT0.out]
 obtain ⟨rs, cs, rfl, _⟩ := h.form
 obtain ⟨ns, hns⟩ : ∃ ns, ns = D.sure.length := ⟨_, rfl⟩
 rw [← hns] at HD
 have HNS : Hid (ns = D.sure.length) := hns
 have hnsb : ns ≤ 512 := by rw [hns]; exact h.sz
 clear h hns
 go_enter Tryz.func39, Tryz.ntmps39
 go_wp2_with fail
 refine (ref_has w base r q _ wv SV WV D i HD.out).mono ?_
 rintro e w1 ⟨he, hw⟩
 subst he
 rw [hw]
 clear hw w1
 cases hh : hasB D i with
 | false =>
  have HX : Hid (R = 2) := by show _ = _; rw [HR.out, sureE, hh]; rfl
  clear hh
  go_wp2
  go_returns
  exact ⟨.inl ⟨by rw [HX.out]; decide, by rw [HX.out]; rfl⟩, Below.refl _ _⟩
 | true =>
  have HX : Hid (R = 0) := by show _ = _; rw [HR.out, sureE, hh]; rfl
  obtain ⟨h0, h1⟩ := (hasB_iff D i).1 hh
  obtain ⟨j, rfl⟩ := Int.eq_ofNat_of_zero_le h0
  have hj : j < D.sure.length := by omega
  have hTj : D.sure[j]? = some T := by rw [HT0.out, Int.toNat_natCast, List.getD_eq_getElem?_getD, List.getElem?_eq_getElem hj]; rfl
  have HDa : Hid (Rk (w.alloc (.cells #[] 5)) base r q (.slice (some ⟨rs, 0, none⟩) ns cs) wv SV WV D) := HD.out.stay (below_alloc _ _)
  obtain ⟨k, ck, cc, h64, hcm, hrd, hsec, hkl⟩ := HDa.out.sureAt hTj
  have HRD : Hid (Rd (w.alloc (.cells #[] 5)) (some ⟨k, 0, none⟩) 64 T) := hrd
  have HSE : Hid (Sec T) := hsec
  have c0 : (w.alloc (.cells #[] 5)).cell? ⟨r, 0, none⟩ = some (.slice (some ⟨rs, 0, none⟩) ns cs) := HDa.out.blk.cell 0 rfl
  have q1 : (0 : Int) ≤ (j : Int) := by omega
  have q2 : (j : Int) < (ns : Int) := by have := HNS.out; omega
  have HOW : Hid (Own (w.alloc (.cells #[] 5)) w.heap.size (some ⟨w.heap.size, 0, none⟩) 0 0 []) := Own.empty w
  have HBA : Hid (Below w.heap.size w (w.alloc (.cells #[] 5))) := below_alloc _ _
  clear hh h0 h1 hTj hj hrd hsec hkl
  go_wp2_with (guard_target =~ wpList _ _ _ (Oper.mk (some 20) _ _ _ _ _ :: _) _ _; refine wpList_append_rd rfl (.tmp 12) (.tmp 19) rfl w.heap.size (some ⟨w.heap.size, 0, none⟩) 0 0 [] rfl HOW.out (some ⟨k, 0, none⟩) 64 ck T rfl HRD.out (fun e => by cases e) (by omega) HBA.out.size ?_)
  intro a' c' w2 ho2 hg2 hb2
  have HO2 : Hid (Own w2 w.heap.size a' 64 c' T) := ho2
  have HB2 : Hid (Below w.heap.size w w2) := HBA.out.trans hb2
  clear ho2 hg2 hb2
  go_wp2
  go_returns
  exact ⟨.inr ⟨HX.out, a', c', rfl, HO2.out.rd, HSE.out, HO2.out.cap⟩, HB2.out⟩
set_option maxRecDepth 100000 in
set_option maxHeartbeats 1000000 in
theorem ref_Read (w : World) (base r q : Nat) (sv wv : Value) (SV WV : List Value) (D : Dk) (i : Int) (h : Rk w base r q sv wv SV WV D) :
  Calls Tryz.prog 41 #[.pointer (some ⟨r, 0, none⟩), .int .i64 i] w fun e w' => Hid (RefTold w' e (readE D i) (nowB D i.toNat)) ∧ Below w.heap.size w w' := by
 have HD : Hid (Rk w base r q sv wv SV WV D) := h
 have c3 : w.cell? ⟨r, 3, none⟩ = some (.bool D.down) := h.blk.cell 3 rfl
 obtain ⟨R, HR⟩ : ∃ R, Hid (R = readE D i) := ⟨_, rfl⟩
 obtain ⟨T, HT0⟩ : ∃ T, Hid (T = nowB D i.toNat) := ⟨_, rfl⟩
 rw [← HR.out, ← HT0.out]
 obtain ⟨rs, cs, rfl, _⟩ := h.form
 obtain ⟨aw, cw, rfl, haw⟩ := h.wform
 have HAW : Hid (0 < D.waits.length → ∃ gw, aw = some ⟨gw, 0, none⟩) := haw
 obtain ⟨ns, hns⟩ : ∃ ns, ns = D.sure.length := ⟨_, rfl⟩
 obtain ⟨nw, hnw⟩ : ∃ nw, nw = D.waits.length := ⟨_, rfl⟩
 rw [← hns, ← hnw] at HD
 have HNS : Hid (ns = D.sure.length) := hns
 have HNW : Hid (nw = D.waits.length) := hnw
 have hnsb : ns ≤ 512 := by rw [hns]; exact h.sz
 have hnwb : nw ≤ 1000000000 := by rw [hnw]; exact h.wl
 clear h hns hnw haw
 cases hd : D.down with
 | true =>
  rw [hd] at c3
  have HX : Hid (R = 10) := by show _ = _; rw [HR.out, readE, hd]; rfl
  clear hd
  go_enter Tryz.func41, Tryz.ntmps41
  go_wp2
  go_returns
  exact ⟨.inl ⟨by rw [HX.out]; decide, by rw [HX.out]; rfl⟩, Below.refl _ _⟩
 | false =>
  rw [hd] at c3
  have HDN : Hid (D.down = false) := hd
  clear hd
  go_enter Tryz.func41, Tryz.ntmps41
  go_wp2_with fail
  refine (ref_has w base r q _ _ SV WV D i HD.out).mono ?_
  rintro e w1 ⟨he, hw⟩
  subst he
  rw [hw]
  clear hw w1
  cases hh : hasB D i with
  | false =>
   have HX : Hid (R = 2) := by show _ = _; rw [HR.out, readE, HDN.out, hh]; rfl
   clear hh
   go_wp2
   go_returns
   exact ⟨.inl ⟨by rw [HX.out]; decide, by rw [HX.out]; rfl⟩, Below.refl _ _⟩
  | true =>
   have HX : Hid (R = 0) := by show _ = _; rw [HR.out, readE, HDN.out, hh]; rfl
   obtain ⟨h0, h1⟩ := (hasB_iff D i).1 hh
   obtain ⟨j, rfl⟩ := Int.eq_ofNat_of_zero_le h0
   have hj : j < D.sure.length := by omega
   have HT : Hid (T = nowB D j) := by show _ = _; rw [HT0.out, Int.toNat_natCast]
   obtain ⟨s0, hs0⟩ : ∃ s0, D.sure[j]? = some s0 := ⟨D.sure[j], List.getElem?_eq_getElem hj⟩
   obtain ⟨k0, ck0, cc, h64, hcm, hrd, hsec, hkl⟩ := HD.out.sureAt hs0
   have HS0 : Hid (Rd w (some ⟨k0, 0, none⟩) 64 (nowS D j 0) ∧ Sec (nowS D j 0)) := by
    have e : nowS D j 0 = s0 := by rw [nowS, List.getD_eq_getElem?_getD, hs0]; rfl
    show _ ∧ _
    rw [e]
    exact ⟨hrd, hsec⟩
   have c0 : w.cell? ⟨r, 0, none⟩ = some (.slice (some ⟨rs, 0, none⟩) ns cs) := HD.out.blk.cell 0 rfl
   have c1 : w.cell? ⟨r, 1, none⟩ = some (.slice aw nw cw) := HD.out.blk.cell 1 rfl
   have q1 : (0 : Int) ≤ (j : Int) := by omega
   have q2 : (j : Int) < (ns : Int) := by have := HNS.out; omega
   clear hh h0 h1 hj hs0 hrd hsec hkl c3
   go_wp2
   go_loopw [6, 7] (fun t6 t7 wr => ∃ (k kb cb : Nat), k ≤ nw ∧ t7 = .int .i64 (k : Int) ∧ t6 = .slice (some ⟨kb, 0, none⟩) 64 cb ∧ Hid (Rd w (some ⟨kb, 0, none⟩) 64 (nowS D j k) ∧ Sec (nowS D j k)) ∧ wr = w) (fun _ t7 _ => nw - (intOf t7).toNat)
   case atStart => exact ⟨0, k0, ck0, Nat.zero_le _, rfl, rfl, HS0, rfl⟩
   case round =>
    obtain ⟨k, kb, cb, hk, rfl, rfl, HE, rfl⟩ := hrel
    by_cases hlt : k < nw
    ·have hlt' : (k : Int) < (nw : Int) := by omega
     have hkw : k < D.waits.length := by have := HNW.out; omega
     obtain ⟨gw, rfl⟩ := HAW.out (by omega)
     obtain ⟨p, hp⟩ : ∃ p, D.waits[k]? = some p := ⟨D.waits[k], List.getElem?_eq_getElem hkw⟩
     obtain ⟨hp1, ca, k2, c2, cb2, h642, hcm2, _, hrd2, hsec2, hkl2⟩ := HD.out.putAt hp
     have hpg : D.waits.getD k (0, []) = p := by rw [List.getD_eq_getElem?_getD, hp]; rfl
     have HN2 : Hid (nowS D j (k + 1) = if p.1 = j then p.2 else nowS D j k) := by show _ = _; rw [nowS, hpg]
     obtain ⟨pa, L⟩ := p
     simp only at ca hrd2 hsec2 HN2
     have hk0 : (0 : Int) ≤ (k : Int) := by omega
     by_cases hat : pa = j
     ·have HE2 : Hid (Rd wr (some ⟨k2, 0, none⟩) 64 (nowS D j (k + 1)) ∧ Sec (nowS D j (k + 1))) := by
       show _ ∧ _
       rw [HN2.out, if_pos hat]
       exact ⟨hrd2, hsec2⟩
      have hati : (pa : Int) = (j : Int) := by omega
      have hati' : ((pa : Int) == (j : Int)) = true := by rw [beq_iff_eq]; exact hati
      subst hat
      clear hp hpg HE hrd2 hsec2 hp1 HN2 hkl2 hkw
      go_wp2
      go_roundw
      case rel => exact ⟨k + 1, k2, c2, by omega, by go_num, rfl, HE2, by trivial⟩
      case measure => simp [intOf]; omega
     ·have HE2 : Hid (Rd wr (some ⟨kb, 0, none⟩) 64 (nowS D j (k + 1)) ∧ Sec (nowS D j (k + 1))) := by
       show _ ∧ _
       rw [HN2.out, if_neg hat]
       exact HE.out
      have hati : ¬ (pa : Int) = (j : Int) := by omega
      have hati' : ((pa : Int) == (j : Int)) = false := by rw [beq_eq_false_iff_ne]; exact hati
      clear hp hpg HE hrd2 hsec2 hp1 HN2 hkl2 hkw
      go_wp2
      go_roundw
      case rel => exact ⟨k + 1, kb, cb, by omega, by go_num, rfl, HE2, by trivial⟩
      case measure => simp [intOf]; omega
    ·obtain rfl : k = nw := by omega
     have HE2 : Hid (Rd wr (some ⟨kb, 0, none⟩) 64 T ∧ Sec T) := by
      show _ ∧ _
      rw [HT.out, nowB, ← HNW.out]
      exact HE.out
     have HRD : Hid (Rd (wr.alloc (.cells #[] 5)) (some ⟨kb, 0, none⟩) 64 T) := HE2.out.1.below (below_alloc _ _)
     have HOW : Hid (Own (wr.alloc (.cells #[] 5)) wr.heap.size (some ⟨wr.heap.size, 0, none⟩) 0 0 []) := Own.empty wr
     have HBA : Hid (Below wr.heap.size wr (wr.alloc (.cells #[] 5))) := below_alloc _ _
     clear HE hlt
     go_wp2_with (guard_target =~ wpList _ _ _ (Oper.mk (some 54) _ _ _ _ _ :: _) _ _; refine wpList_append_rd rfl (.tmp 52) (.tmp 53) rfl wr.heap.size (some ⟨wr.heap.size, 0, none⟩) 0 0 [] rfl HOW.out (some ⟨kb, 0, none⟩) 64 cb T rfl HRD.out (fun e => by cases e) (by omega) HBA.out.size ?_)
     intro a' c' w2 ho2 hg2 hb2
     have HO2 : Hid (Own w2 wr.heap.size a' 64 c' T) := ho2
     have HB2 : Hid (Below wr.heap.size wr w2) := HBA.out.trans hb2
     clear ho2 hg2 hb2
     go_wp2
     go_returns
     exact ⟨.inr ⟨HX.out, a', c', rfl, HO2.out.rd, HE2.out.2, HO2.out.cap⟩, HB2.out⟩
end Go.Proofs.YtghajmcohdedlaaGreat
