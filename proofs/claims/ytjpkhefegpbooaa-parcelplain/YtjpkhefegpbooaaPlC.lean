/- slices.Clone of spans and of items; parcel.cloned. -/
import Derived.Test.YtjpkhefegpbooaaPlT
import Derived.Test.YtjpkhefegpbooaaPt2
import Derived.Lib.SliceRun
namespace Go.Proofs.Ytjpkhefegpbooaa
open Go.RowKit

theorem eqlSpans (w : World) (a : Option Addr) (n c n' c' : Nat) : (binOp .eql 23 (.slice a n c) (.slice none n' c')).run Try.prog w = .ok (.bool a.isNone) w := Lib.run_eql_slice_nil w _ _ a n c n' c' Try.underlying23
theorem eqlItems (w : World) (a : Option Addr) (n c n' c' : Nat) : (binOp .eql 24 (.slice a n c) (.slice none n' c')).run Try.prog w = .ok (.bool a.isNone) w := Lib.run_eql_slice_nil w _ _ a n c n' c' Try.underlying24

set_option maxRecDepth 100000 in
set_option maxHeartbeats 1000000 in
theorem clone_spans (w : World) (sa : Option Addr) (sn sc : Nat) (l : List Sp) (hr : SpsRd w sa sn l) (hz : sa = none → sc = 0) (hb : sn * 24 ≤ 140737488355328) :
    Calls Try.prog 28 #[.slice sa sn sc] w fun e w' => (∃ a' c', e = .returned (.slice a' sn c') ∧ Hid (Sps w' w.heap.size (.slice a' sn c') l)) ∧ Below w.heap.size w w' := by
  have HR : Hid (SpsRd w sa sn l) := hr
  cases sa with
  | none =>
    have hn : sn = 0 := by
      rw [← hr.size]
      rcases hr.cells with h0 | ⟨_, _, h0, _⟩
      · rw [h0]; rfl
      · cases h0
    have hc := hz rfl
    subst hn hc
    have hl : l = [] := List.eq_nil_of_length_eq_zero hr.size
    subst hl
    have q1 := eqlSpans w none 0 0 0 0
    clear hr
    go_enter Try.func28, Try.ntmps28
    go_wp2
    go_ret
    exact ⟨⟨none, 0, rfl, Sps.nil_ _ _⟩, Below.refl _ _⟩
  | some ad =>
    obtain ⟨i0, hi, hz0, hz1, hz2⟩ := info_parts infoSpan
    have q1 := eqlSpans w (some ad) sn sc 0 0
    have HOW : Hid ((w.alloc (.cells #[] 39)).ownsRow w.heap.size 39 3 (.slice (some ⟨w.heap.size, 0, none⟩) 0 0) 0 []) := World.ownsRow_made w #[] 0 (Nat.le_refl _) (Nat.zero_le _) rfl
    have HSZ : Hid (w.heap.size ≤ (w.alloc (.cells #[] 39)).heap.size) := by show _ ≤ _; simp
    have HRA : Hid (SpsRd (w.alloc (.cells #[] 39)) (some ad) sn l) := hr.below (below_new _ _)
    have HLN : Hid ((l.flatMap fun q => q.cells.toList).length = sn * 3) := by show _ = _; rw [flat3_len, hr.size]
    clear hr
    go_enter Try.func28, Try.ntmps28
    go_wp2_with (guard_target =~ wpList _ _ _ (Oper.mk (some 7) _ _ _ _ _ :: _) _ _; refine wpList_append_own _ rfl (.tmp 5) (.tmp 6) 23 rfl w.heap.size 39 i0 (.agg #[.int .i64 0, .int .i64 0, .int .i64 0]) 3 24 Try.underlying23 hi hz0 hz1 hz2 (by rfl) (by decide) (.slice (some ⟨w.heap.size, 0, none⟩) 0 0) 0 [] rfl HOW.out ad sn sc (l.flatMap fun q => q.cells.toList) rfl HLN.out HRA.out.flat (Sp.ones l) (by unfold maxLen; omega) (by omega) HSZ.out ?_)
    intro v' w1 ho hg hnn
    rw [← HR.out.size] at ho
    have hS : Sps w1 w.heap.size v' l := ⟨ho⟩
    obtain ⟨a', c', rfl, _⟩ := hS.form
    rw [HR.out.size] at hS ⊢
    have HS : Hid (Sps w1 w.heap.size (.slice a' sn c') l) := hS
    have HB1 : Hid (Below w.heap.size w w1) := (below_new _ _).trans ((Below.refl _ _).grown hg HSZ.out (fun k hk => (HOW.out.lt k hk).1))
    clear ho hg hnn q1 hS
    go_wp2
    go_ret
    exact ⟨⟨a', c', rfl, HS⟩, HB1.out⟩

/-- Items that are read, each with its body's slice. -/
structure ItRow (w : World) (a : Option Addr) (L : List (It × Bd)) : Prop where
  cells : L = [] ∨ ∃ ad, a = some ad ∧ ∀ j u, (irow L)[j]? = some u → w.cell? (ad.add j) = some u
  body : ∀ x ∈ L, Rd w x.2.1 x.2.2.1 x.1.body ∧ (x.2.1 = none → x.2.2.2 = 0)
theorem irow_len : ∀ L : List (It × Bd), (irow L).length = L.length * 3
  | [] => rfl
  | x :: L => by rw [irow, List.length_append, irow_len L, List.length_cons]; simp [icells]; omega
theorem ItsRd.rows {w : World} {a : Option Addr} {n : Nat} {l : List It} (h : ItsRd w a n l) : ∃ L : List (It × Bd), L.map Prod.fst = l ∧ ItRow w a L := by
  rcases h.cells with h0 | ⟨g, o, ha, hg, hc⟩
  · exact ⟨[], by rw [h0]; rfl, .inl rfl, fun x hx => by cases hx⟩
  · have each : ∀ i, i < n → ∃ b : Bd, ∀ q, l[i]? = some q → w.cell? ⟨g, o + i * 3 + 2, none⟩ = some (.slice b.1 b.2.1 b.2.2) ∧ Rd w b.1 b.2.1 q.body ∧ (b.1 = none → b.2.2 = 0) := by
      intro i hi
      have hl : i < l.length := by rw [h.size]; exact hi
      obtain ⟨_, _, ba, bl, bc, h3, h4, h5, _⟩ := hc i l[i] (List.getElem?_eq_getElem hl)
      refine ⟨(ba, bl, bc), fun q hq => ?_⟩
      rw [List.getElem?_eq_getElem hl] at hq
      simp only [Option.some.injEq] at hq
      subst hq
      exact ⟨h3, h4, h5⟩
    haveI : Inhabited Bd := ⟨(none, 0, 0)⟩
    obtain ⟨y, hy⟩ := Go.Deep.choose_lt each
    have hz : ∀ i, (l.mapIdx fun i q => (q, y i))[i]? = (l[i]?).map fun q => (q, y i) := fun i => by rw [List.getElem?_mapIdx]
    refine ⟨l.mapIdx fun i q => (q, y i), ?_, .inr ⟨⟨g, o, none⟩, ha, fun j u hj => ?_⟩, fun x hx => ?_⟩
    · apply List.ext_getElem?
      intro i
      rw [List.getElem?_map, hz]
      cases l[i]? <;> rfl
    · have hlen := (List.getElem?_eq_some_iff.1 hj).1
      rw [irow_len, List.length_mapIdx] at hlen
      have hi : j / 3 < l.length := by omega
      have hq : l[j / 3]? = some l[j / 3] := List.getElem?_eq_getElem hi
      have hr : j % 3 < 3 := Nat.mod_lt _ (by decide)
      have e := irow_at (l.mapIdx fun i q => (q, y i)) (j / 3) (l[j / 3], y (j / 3)) (by rw [hz, hq]; rfl) (j % 3) hr
      rw [show j / 3 * 3 + j % 3 = j from by omega, hj] at e
      obtain ⟨c0, c1, _⟩ := hc (j / 3) _ hq
      have c2 := (hy (j / 3) (by rw [← h.size]; exact hi) _ hq).1
      have ea : (⟨g, o, none⟩ : Addr).add j = ⟨g, o + j, none⟩ := by unfold Addr.add; split <;> simp_all
      rw [ea, show o + j = o + j / 3 * 3 + j % 3 from by omega, e]
      rcases (by omega : j % 3 = 0 ∨ j % 3 = 1 ∨ j % 3 = 2) with h0 | h0 | h0 <;> rw [h0]
      · exact c0
      · exact c1
      · exact c2
    · obtain ⟨i, hi, rfl⟩ := List.getElem_of_mem hx
      have hil : i < l.length := by simpa using hi
      have := hy i (by rw [← h.size]; exact hil) l[i] (List.getElem?_eq_getElem hil)
      rw [List.getElem_mapIdx]
      exact ⟨this.2.1, this.2.2⟩
theorem ItRow.below {w w' : World} {a : Option Addr} {L : List (It × Bd)} (h : ItRow w a L) (hb : Below w.heap.size w w') : ItRow w' a L := by
  refine ⟨?_, fun x hx => ⟨(h.body x hx).1.below hb, (h.body x hx).2⟩⟩
  rcases h.cells with h0 | ⟨ad, ha, hc⟩
  · exact .inl h0
  · refine .inr ⟨ad, ha, fun j u hj => ?_⟩
    have h1 := hc j u hj
    rw [hb.cell (World.block_lt_of_cell? w _ h1)]
    exact h1
theorem icells_ones : ∀ L : List (It × Bd), ∀ u ∈ irow L, u.oneCell' = true
  | [], u, hu => by cases hu
  | x :: L, u, hu => by
    rcases List.mem_append.1 hu with h | h
    · exact icells_one x.1 x.2 u h
    · exact icells_ones L u h

set_option maxRecDepth 100000 in
set_option maxHeartbeats 1000000 in
theorem clone_items (w : World) (ia : Option Addr) (im ic : Nat) (L : List (It × Bd)) (hr : ItRow w ia L) (hn : L.length = im) (hz : ia = none → ic = 0) (hb : im * 40 ≤ 140737488355328) :
    Calls Try.prog 43 #[.slice ia im ic] w fun e w' => (∃ a' c', e = .returned (.slice a' im c') ∧ Hid (w'.ownsRow w.heap.size 36 3 (.slice a' im c') im (irow L))) ∧ Below w.heap.size w w' := by
  have HR : Hid (ItRow w ia L) := hr
  cases ia with
  | none =>
    have hl : L = [] := by
      rcases hr.cells with h0 | ⟨_, h0, _⟩
      · exact h0
      · cases h0
    subst hl
    simp only [List.length_nil] at hn
    subst hn
    have hc := hz rfl
    subst hc
    have q1 := eqlItems w none 0 0 0 0
    clear hr
    go_enter Try.func43, Try.ntmps43
    go_wp2
    go_ret
    exact ⟨⟨none, 0, rfl, World.ownsRow_nil _ _ _ _⟩, Below.refl _ _⟩
  | some ad =>
    obtain ⟨i0, hi, hz0, hz1, hz2⟩ := info_parts infoItem
    have q1 := eqlItems w (some ad) im ic 0 0
    have HOW : Hid ((w.alloc (.cells #[] 36)).ownsRow w.heap.size 36 3 (.slice (some ⟨w.heap.size, 0, none⟩) 0 0) 0 []) := World.ownsRow_made w #[] 0 (Nat.le_refl _) (Nat.zero_le _) rfl
    have HSZ : Hid (w.heap.size ≤ (w.alloc (.cells #[] 36)).heap.size) := by show _ ≤ _; simp
    have HNW : Hid (∀ j u, (irow L)[j]? = some u → (w.alloc (.cells #[] 36)).cell? (ad.add j) = some u) := by
      intro j u hj
      rcases (hr.below (below_new w (.cells #[] 36))).cells with h0 | ⟨ad', h0, h1⟩
      · rw [h0] at hj; cases hj
      · simp only [Option.some.injEq] at h0
        subst h0
        exact h1 j u hj
    have HLN : Hid ((irow L).length = im * 3) := by show _ = _; rw [irow_len, hn]
    clear hr hn
    go_enter Try.func43, Try.ntmps43
    go_wp2_with (guard_target =~ wpList _ _ _ (Oper.mk (some 7) _ _ _ _ _ :: _) _ _; refine wpList_append_own _ rfl (.tmp 5) (.tmp 6) 24 rfl w.heap.size 36 i0 (.agg #[.int .i64 0, .int .u32 0, .slice none 0 0]) 3 40 Try.underlying24 hi hz0 hz1 hz2 (by rfl) (by decide) (.slice (some ⟨w.heap.size, 0, none⟩) 0 0) 0 [] rfl HOW.out ad im ic (irow L) rfl HLN.out HNW.out (icells_ones L) (by unfold maxLen; omega) (by omega) HSZ.out ?_)
    intro v' w1 ho hg hnn
    obtain ⟨a', c', rfl⟩ : ∃ a' c', v' = .slice a' im c' := by
      rcases ho.2 with ⟨h1, h2⟩ | ⟨g', c', cur, h1, _⟩
      · exact ⟨none, 0, by rw [h1, h2]⟩
      · exact ⟨_, c', h1⟩
    have HS : Hid (w1.ownsRow w.heap.size 36 3 (.slice a' im c') im (irow L)) := ho
    have HB1 : Hid (Below w.heap.size w w1) := (below_new _ _).trans ((Below.refl _ _).grown hg HSZ.out (fun k hk => (HOW.out.lt k hk).1))
    clear ho hg hnn q1
    go_wp2
    go_ret
    exact ⟨⟨a', c', rfl, HS⟩, HB1.out⟩
theorem irow_set : ∀ (L : List (It × Bd)) (i : Nat) (x : It × Bd) (b : Bd), L[i]? = some x → (irow L).set (i * 3 + 2) (.slice b.1 b.2.1 b.2.2) = irow (L.set i (x.1, b))
  | [], i, x, b, h => by simp at h
  | y :: L, 0, x, b, h => by
    simp only [List.getElem?_cons_zero, Option.some.injEq] at h
    subst h
    simp [irow, icells]
  | y :: L, i + 1, x, b, h => by
    rw [List.getElem?_cons_succ] at h
    have e : (icells y.1 y.2).length = 3 := rfl
    rw [irow, List.set_cons_succ, irow, List.set_append_right _ _ (by omega), e, show (i + 1) * 3 + 2 - 3 = i * 3 + 2 from by omega, irow_set L i x b h]

set_option maxRecDepth 100000 in
set_option maxHeartbeats 2000000 in
theorem pc_cloned (w : World) (ia : Option Addr) (im ic : Nat) (l : List It) (hr : ItsRd w ia im l) (hz : ia = none → ic = 0) (hb : im * 40 ≤ 140737488355328) (hbb : ∀ q ∈ l, q.body.length ≤ 140737488351232) :
    Calls Try.prog 29 #[.slice ia im ic] w fun e w' => (∃ a' c', e = .returned (.slice a' im c') ∧ Hid (∃ M, Its w' w.heap.size (.slice a' im c') M ∧ M.map Prod.fst = l)) ∧ Below w.heap.size w w' := by
  obtain ⟨L, hLl, hL⟩ := hr.rows
  have HL : Hid (ItRow w ia L) := hL
  have HLL : Hid (L.map Prod.fst = l) := hLl
  have hlen : L.length = im := by rw [← hr.size, ← hLl, List.length_map]
  have HLN : Hid (L.length = im) := hlen
  have HBB : Hid (∀ q ∈ l, q.body.length ≤ 140737488351232) := hbb
  have hcl := clone_items w ia im ic L hL hlen hz hb
  have HCL : Hid (Calls Try.prog 43 #[.slice ia im ic] w fun e w' => (∃ a' c', e = .returned (.slice a' im c') ∧ Hid (w'.ownsRow w.heap.size 36 3 (.slice a' im c') im (irow L))) ∧ Below w.heap.size w w') := hcl
  have him : im ≤ 9223372036854775807 := by omega
  clear hcl hL hlen hLl hr hbb
  go_enter Try.func29, Try.ntmps29
  go_wp2_with fail
  refine HCL.out.mono ?_
  rintro e w1 ⟨⟨a', c', he, hs1⟩, hb1⟩
  subst he
  have HB1 : Hid (Below w.heap.size w w1) := hb1
  clear hb1 HCL
  go_wp2
  go_loopw [9] (fun t9 wr => ∃ (k : Nat) (M : List (It × Bd)), k ≤ im ∧ t9 = .int .i64 (k : Int) ∧ Hid (wr.ownsRow w.heap.size 36 3 (.slice a' im c') im (irow M)) ∧ Hid (M.map Prod.fst = l) ∧ Hid (∀ i x, M[i]? = some x → (i < k → Own wr w.heap.size x.2.1 x.2.2.1 x.2.2.2 x.1.body) ∧ (k ≤ i → L[i]? = some x)) ∧ Hid (Below w.heap.size w wr)) (fun t9 _ => im - (intOf t9).toNat)
  case atStart => exact ⟨0, L, by omega, rfl, hs1, HLL, fun i x hx => ⟨fun h => by omega, fun _ => hx⟩, HB1⟩
  case round =>
    obtain ⟨k, M, hk, rfl, HS, HM, HE, HB⟩ := hrel
    clear HB1
    have HMN : Hid (M.length = im) := by
      have h := congrArg List.length HM.out
      rw [List.length_map, ← HLL.out, List.length_map, HLN.out] at h
      exact h
    by_cases hlt : k < im
    · have hlt' : (k : Int) < (im : Int) := by omega
      have h0k : (0 : Int) ≤ (k : Int) := by omega
      have hkm : k < M.length := by rw [HMN.out]; exact hlt
      obtain ⟨x, hx⟩ : ∃ x, M[k]? = some x := ⟨M[k], List.getElem?_eq_getElem hkm⟩
      have HX : Hid (M[k]? = some x) := hx
      have hxL : L[k]? = some x := (HE.out k x hx).2 (Nat.le_refl _)
      obtain ⟨hxr, hxz⟩ := HL.out.body x (List.mem_of_getElem? hxL)
      have hxb : x.1.body.length ≤ 140737488351232 := HBB.out x.1 (by rw [← HM.out]; exact List.mem_map.2 ⟨x, List.mem_of_getElem? hx, rfl⟩)
      obtain ⟨gr, hgr, hgb⟩ : ∃ g, a' = some ⟨g, 0, none⟩ ∧ w.heap.size ≤ g := by
        rcases HS.out.2 with ⟨h1, h2⟩ | ⟨g', c'', cur, h1, h2, _⟩
        · omega
        · simp only [Value.slice.injEq] at h1
          exact ⟨g', h1.1, h2⟩
      subst hgr
      obtain ⟨⟨qt, qf, qb⟩, ba, bl, bc⟩ := x
      simp only at hxr hxz hxb
      have hbl : bl ≤ 140737488351232 := by rw [← hxr.size]; exact hxb
      have c2 : wr.cell? ⟨gr, k * 3 + 2, none⟩ = some (.slice ba bl bc) := by
        rw [HS.out.cellAt (k * 3 + 2) (by omega), irow_at M k _ HX.out 2 (by omega)]
        rfl
      have hcb := bytes_Clone ba bl bc qb wr (hxr.below HB.out) hxz hbl
      have HCB : Hid (Calls Try.prog 44 #[.slice ba bl bc] wr fun e w' => ∃ a' c', e = .returned (.slice a' bl c') ∧ Own w' wr.heap.size a' bl c' qb ∧ Below wr.heap.size wr w') := hcb
      clear hcb hxr hxz hxb hxL hx hkm
      go_wp2_with fail
      refine HCB.out.mono ?_
      rintro e w2 ⟨ab, cb, he, ho2, hb2⟩
      subst he
      have HS2 : Hid (w2.ownsRow w.heap.size 36 3 (.slice (some ⟨gr, 0, none⟩) im c') im (irow M)) := ⟨HS.out.1, by
        rcases HS.out.2 with hn | ⟨g, c, cur, hv, hbg, hg, r⟩
        · exact .inl hn
        · exact .inr ⟨g, c, cur, hv, hbg, by rw [hb2.block g (Array.getElem?_eq_some_iff.1 hg).1]; exact hg, r⟩⟩
      have HB2 : Hid (Below w.heap.size w w2) := HB.out.trans (hb2.mono HB.out.size)
      have HOB : Hid (Own w2 w.heap.size ab bl cb qb) := ho2.under HB.out.size
      have HE2 : Hid (∀ i x, M[i]? = some x → (i < k → Own w2 w.heap.size x.2.1 x.2.2.1 x.2.2.2 x.1.body) ∧ (k ≤ i → L[i]? = some x)) := fun i x hx => ⟨fun h => ((HE.out i x hx).1 h).below hb2, (HE.out i x hx).2⟩
      have d2 : w2.cell? ⟨gr, k * 3 + 2, none⟩ = some (.slice ba bl bc) := by
        rw [HS2.out.cellAt (k * 3 + 2) (by omega), irow_at M k _ HX.out 2 (by omega)]
        rfl
      have f2 : w2.frozen? ⟨gr, k * 3 + 2, none⟩ = false := HS2.out.frozenAt _
      have hst := (HS2.out.stored (k * 3 + 2) (.slice ab bl cb)).1
      rw [irow_set M k _ (ab, bl, cb) HX.out] at hst
      have HS3 : Hid ((w2.setCell ⟨gr, k * 3 + 2, none⟩ (.slice ab bl cb)).ownsRow w.heap.size 36 3 (.slice (some ⟨gr, 0, none⟩) im c') im (irow (M.set k (⟨qt, qf, qb⟩, (ab, bl, cb))))) := hst
      have HF : Hid (∀ (a : Option Addr) (n c : Nat) (bs : List Nat), Own w2 w.heap.size a n c bs → Own (w2.setCell ⟨gr, k * 3 + 2, none⟩ (.slice ab bl cb)) w.heap.size a n c bs) := by
        intro a n c bs ho
        refine own_frame ho fun j cs m _ hj => ?_
        rw [heap_setCell_other w2 ⟨gr, k * 3 + 2, none⟩ j _ (fun e => ?_)]
        · exact hj
        · rcases HS2.out.2 with ⟨h3, _⟩ | ⟨g, c', cur, h3, _, h4, _⟩
          · simp at h3
          · simp only [Value.slice.injEq, Option.some.injEq, Addr.mk.injEq] at h3
            simp only at e
            rw [e, h3.1.1, h4] at hj
            simp only [Option.some.injEq, Obj.cells.injEq] at hj
            exact absurd hj.2.1 (by decide)
      have HM3 : Hid ((M.set k (⟨qt, qf, qb⟩, (ab, bl, cb))).map Prod.fst = l) := by
        show _ = _
        rw [List.map_set, ← HM.out]
        apply List.ext_getElem?
        intro i
        by_cases hik : k = i
        · subst hik
          rw [List.getElem?_set_self (by rw [List.length_map, HMN.out]; exact hlt), List.getElem?_map, HX.out]
          rfl
        · rw [List.getElem?_set_ne hik]
      have HE3 : Hid (∀ i x, (M.set k (⟨qt, qf, qb⟩, (ab, bl, cb)))[i]? = some x → (i < k + 1 → Own (w2.setCell ⟨gr, k * 3 + 2, none⟩ (.slice ab bl cb)) w.heap.size x.2.1 x.2.2.1 x.2.2.2 x.1.body) ∧ (k + 1 ≤ i → L[i]? = some x)) := by
        intro i x hx
        by_cases hik : k = i
        · subst hik
          rw [List.getElem?_set_self (by rw [HMN.out]; exact hlt)] at hx
          simp only [Option.some.injEq] at hx
          subst hx
          exact ⟨fun _ => HF.out _ _ _ _ HOB.out, fun h => by omega⟩
        · rw [List.getElem?_set_ne hik] at hx
          exact ⟨fun h => HF.out _ _ _ _ ((HE2.out i x hx).1 (by omega)), fun h => (HE2.out i x hx).2 (by omega)⟩
      have HB3 : Hid (Below w.heap.size w (w2.setCell ⟨gr, k * 3 + 2, none⟩ (.slice ab bl cb))) := HB2.out.setCell hgb _
      clear ho2 hb2 hst c2 HE HE2 HS HS2
      go_wp2
      go_roundw
      case rel => exact ⟨k + 1, _, by omega, by go_num, HS3, HM3, HE3, HB3⟩
      case measure => simp [intOf]; omega
    · have hnl : ¬ (k : Int) < (im : Int) := by omega
      go_wp2
      go_ret
      refine ⟨⟨a', c', rfl, M, ⟨?_, fun x hx => ?_⟩, HM.out⟩, HB.out⟩
      · rw [HMN.out]; exact HS.out
      · obtain ⟨i, hi, rfl⟩ := List.getElem_of_mem hx
        exact (HE.out i _ (List.getElem?_eq_getElem hi)).1 (by rw [HMN.out] at hi; omega)
end Go.Proofs.Ytjpkhefegpbooaa
