/- Numbers in memory: a list of ints of one's own; grapevineref08.put. -/
import Derived.Test.YtcgjpkdpemlmbaaSpHor
import Derived.Test.YtcgjpkdpemlmbaaSpMadeM
namespace Go.Proofs.Ytcgjpkdpemlmbaa
open Go.RowKit

/-- A slice reads as those numbers. -/
structure InsRd (w : World) (a : Option Addr) (n : Nat) (l : List Int) : Prop where
  size : l.length = n
  cells : l = [] ∨ ∃ g, a = some ⟨g, 0, none⟩ ∧ g < w.heap.size ∧ ∀ (i : Nat) (x : Int), l[i]? = some x → w.cell? ⟨g, i, none⟩ = some (.int .i64 x)
theorem InsRd.below {w w' : World} {a : Option Addr} {n : Nat} {l : List Int} (h : InsRd w a n l) (hb : Below w.heap.size w w') : InsRd w' a n l := by
  refine ⟨h.size, ?_⟩
  rcases h.cells with h0 | ⟨g, ha, hg, hc⟩
  · exact .inl h0
  · refine .inr ⟨g, ha, Nat.lt_of_lt_of_le hg hb.size, fun i x hi => ?_⟩
    rw [hb.cell (p := ⟨g, i, none⟩) hg]
    exact hc i x hi
theorem InsRd.at_ {w : World} {a : Option Addr} {n : Nat} {l : List Int} (h : InsRd w a n l) (i : Nat) (hi : i < n) : ∃ g, a = some ⟨g, 0, none⟩ ∧ g < w.heap.size ∧ ∃ x, l[i]? = some x ∧ w.cell? ⟨g, i, none⟩ = some (.int .i64 x) := by
  have hl : i < l.length := by rw [h.size]; exact hi
  rcases h.cells with rfl | ⟨g, ha, hg, hc⟩
  · simp at hl
  · exact ⟨g, ha, hg, l[i], List.getElem?_eq_getElem hl, hc i l[i] (List.getElem?_eq_getElem hl)⟩
/-- A list of numbers of one's own. -/
structure Ins (w : World) (base : Nat) (v : Value) (l : List Int) : Prop where
  row : w.ownsRow base 3 1 v l.length (l.map (Value.int .i64))
theorem Ins.below {w w' : World} {base : Nat} {v : Value} {l : List Int} (h : Ins w base v l) (hb : Below w.heap.size w w') : Ins w' base v l := by
  refine ⟨⟨h.row.1, ?_⟩⟩
  rcases h.row.2 with hn | ⟨g, c, cur, hv, hbg, hg, r⟩
  · exact .inl hn
  · exact .inr ⟨g, c, cur, hv, hbg, by rw [hb.block g (Array.getElem?_eq_some_iff.1 hg).1]; exact hg, r⟩
theorem Ins.lower {w : World} {base base' : Nat} {v : Value} {l : List Int} (h : Ins w base v l) (hb : base' ≤ base) : Ins w base' v l := by
  refine ⟨⟨h.row.1, ?_⟩⟩
  rcases h.row.2 with hn | ⟨g, c, cur, hv, hbg, r⟩
  · exact .inl hn
  · exact .inr ⟨g, c, cur, hv, Nat.le_trans hb hbg, r⟩
theorem Ins.form {w : World} {base : Nat} {v : Value} {l : List Int} (h : Ins w base v l) : ∃ a c, v = .slice a l.length c ∧ l.length ≤ c := by
  rcases h.row.2 with ⟨hv, hn⟩ | ⟨g, c, cur, hv, _, _, hc, _⟩
  · exact ⟨none, 0, by rw [hv, hn], by omega⟩
  · exact ⟨_, c, hv, hc⟩
theorem Ins.rd {w : World} {base : Nat} {a : Option Addr} {n c : Nat} {l : List Int} (h : Ins w base (.slice a n c) l) : InsRd w a n l := by
  rcases h.row.2 with ⟨hv, hn⟩ | ⟨g, c', cur, hv, hb, hg, hlc, hm, hs, ht⟩
  · simp only [Value.slice.injEq] at hv
    exact ⟨by omega, .inl (List.length_eq_zero_iff.1 hn)⟩
  · have hr := h.row
    simp only [Value.slice.injEq] at hv
    obtain ⟨rfl, rfl, rfl⟩ := hv
    refine ⟨rfl, .inr ⟨g, rfl, (Array.getElem?_eq_some_iff.1 hg).1, fun i x hi => ?_⟩⟩
    have hil : i < l.length := (List.getElem?_eq_some_iff.1 hi).1
    rw [hr.cellAt i (by omega), List.getElem?_map, hi]
    rfl
/-- The world has grown by what is new, and by one's own list. -/
theorem Ins.grown {w w' : World} {base : Nat} {v : Value} {l : List Int} (h : Ins w base v l) (hb : base ≤ w.heap.size) (hg : w.grownBy w' v.ownBlock) : Below base w w' :=
  ⟨hg.os, hg.tape, hg.output, hg.size, fun k hk => hg.block k (by omega) fun e => by have := (h.row.lt k e.symm).1; omega⟩
theorem Ins.lit (w : World) (base : Nat) (l : List Int) (cs : Array Value) (hcs : cs.toList = l.map (Value.int .i64)) (hb : base ≤ w.heap.size) (hm : l.length ≤ maxLen) : Ins (w.alloc (.cells cs 3)) base (.slice (some ⟨w.heap.size, 0, none⟩) l.length l.length) l := by
  refine ⟨?_⟩
  rw [← hcs]
  exact World.ownsRow_lit w cs l.length hb hm (by rw [← Array.length_toList, hcs, List.length_map, Nat.mul_one])
theorem infoInt : (Try.prog.info? 3).map (fun i => (i.zero, i.size, i.bytes)) = some (some (.int .i64 0), 1, 8) := by kernel_rfl

/-- A number behind a list of one's own. -/
theorem wpList_append_in {w : World} {ops : Array Oper} {rest : List Oper} {o : Oper} {act : Act} {Q : Exit → Act → World → Prop} (hgd : o.guard = none) (s x : Operand)
    (ho : o.op = .call { callee := .builtin .append, args := #[s, x], argTypes := #[60, 60] })
    (base : Nat) (v : Value) (l : List Int) (hs : act.eval s = v) (hown : Ins w base v l) (g : Nat) (c : Nat) (y : Int) (hx : act.eval x = .slice (some ⟨g, 0, none⟩) 1 c) (hnew : w.cell? ⟨g, 0, none⟩ = some (.int .i64 y))
    (hl : l.length ≤ 3000000000000) (hbase : base ≤ w.heap.size)
    (h : ∀ v' w', Ins w' base v' (l ++ [y]) → w.grownBy w' v.ownBlock → wpList Try.prog ops Q rest (act.put o.dst v') w') : wpList Try.prog ops Q (o :: rest) act w := by
  refine wpList_plain hgd fun _ hK => ?_
  obtain ⟨i0, hi, hz0, hz1, hz2⟩ := info_parts infoInt
  exact wp_append_own w s x 60 ho base 3 i0 (.int .i64 0) 1 8 Try.underlying60 hi hz0 hz1 hz2 (by rfl) (by decide) v l.length (l.map (Value.int .i64)) hs hown.row ⟨g, 0, none⟩ 1 c [.int .i64 y] hx (by rfl)
    (fun j u hj => by
      cases j with
      | zero => simp only [List.getElem?_cons_zero, Option.some.injEq] at hj; subst hj; exact hnew
      | succ j => simp at hj)
    (fun u hu => by simp only [List.mem_singleton] at hu; subst hu; rfl) (by unfold maxLen; omega) (by omega) hbase fun v' w' h1 h2 _ => hK _ _ (h v' w' ⟨by simpa using h1⟩ h2)

/-- What is left to be put. -/
def leftI (d : Bool) (l : List Int) (n : Int) : List Int := if d = true then l else insI l n
theorem leftI_start (l : List Int) (n : Int) : leftI (decide (1099511627776 < n)) l n = putI l n := by
  unfold leftI putI
  by_cases h : 1099511627776 < n
  · rw [if_pos h, decide_eq_true h, if_pos rfl]
  · rw [if_neg h, decide_eq_false h, if_neg (by simp)]
theorem drop_atI {l : List Int} {i : Nat} {x : Int} (h : l[i]? = some x) : l.drop i = x :: l.drop (i + 1) := by
  have hl : i < l.length := (List.getElem?_eq_some_iff.1 h).1
  rw [List.drop_eq_getElem_cons hl]
  congr 1
  exact (List.getElem?_eq_some_iff.1 h).2

set_option maxRecDepth 100000 in
set_option maxHeartbeats 1000000 in
theorem ref_put (a : Option Addr) (m cap : Nat) (l : List Int) (n : Int) (w : World) (hr : InsRd w a m l) (hm : m ≤ 100000) :
    Calls Try.prog 45 #[.slice a m cap, .int .i64 n] w fun e w' => (∃ av nv cv, e = .returned (.slice av nv cv) ∧ Hid (Ins w' w.heap.size (.slice av nv cv) (putI l n))) ∧ Below w.heap.size w w' := by
  have HR : Hid (InsRd w a m l) := hr
  obtain ⟨R, HX⟩ : ∃ R, Hid (R = putI l n) := ⟨_, rfl⟩
  have HRL : Hid (R.length ≤ 100001) := by
    show _ ≤ _
    rw [HX.out]
    have h1 := putI_len l n
    have h2 := hr.size
    omega
  rw [← HX.out]
  clear hr
  go_enter Try.func45, Try.ntmps45
  go_wp2
  go_loopw [5, 6, 7] (fun t5 t6 t7 wr => ∃ (k : Nat) (d : Bool) (av : Option Addr) (nv cv : Nat) (out : List Int), k ≤ m ∧ t7 = .int .i64 (k : Int) ∧ t6 = .bool d ∧ t5 = .slice av nv cv ∧ Hid (out ++ leftI d (l.drop k) n = R) ∧ Hid (Ins wr w.heap.size (.slice av nv cv) out) ∧ Hid (Below w.heap.size w wr)) (fun _ _ t7 _ => m - (intOf t7).toNat)
  case atStart => exact ⟨0, _, _, _, _, [], by omega, rfl, rfl, rfl, by show _ = _; rw [HX.out, List.nil_append, List.drop_zero, leftI_start], Ins.lit w w.heap.size [] #[] rfl (Nat.le_refl _) (Nat.zero_le _), below_new _ _⟩
  case round =>
    obtain ⟨k, d, av, nv, cv, out, hk, rfl, rfl, rfl, HE, HV, HB⟩ := hrel
    have HOL : Hid (out.length ≤ 100001) := by
      show _ ≤ _
      have h1 := HRL.out
      rw [← HE.out, List.length_append] at h1
      omega
    by_cases hlt : k < m
    · have hlt' : (k : Int) < (m : Int) := by omega
      obtain ⟨g, rfl, hg, x, hx, c0⟩ := (HR.out.below HB.out).at_ k hlt
      have HD : Hid (l.drop k = x :: l.drop (k + 1)) := drop_atI hx
      have HG : Hid (g < wr.heap.size) := hg
      clear hx hg
      cases d with
      | true =>
        have HE2 : Hid (out ++ [x] ++ leftI true (l.drop (k + 1)) n = R) := by
          show _ = _
          have h1 := HE.out
          rw [HD.out, leftI, if_pos rfl] at h1
          rw [leftI, if_pos rfl, ← h1]
          simp
        have HS1 : Hid (w.heap.size ≤ (wr.alloc (.cells #[.int .i64 x] 3)).heap.size) := Nat.le_trans HB.out.size (below_new _ _).size
        have HC1 : Hid ((wr.alloc (.cells #[.int .i64 x] 3)).cell? ⟨wr.heap.size, 0, none⟩ = some (.int .i64 x)) := (Bk.new wr #[.int .i64 x] 3).cell 0 rfl
        have HV1 : Hid (Ins (wr.alloc (.cells #[.int .i64 x] 3)) w.heap.size (.slice av nv cv) out) := HV.out.below (below_new _ _)
        have HL1 : Hid (out.length ≤ 3000000000000) := by show _ ≤ _; have := HOL.out; omega
        go_wp2_with (at_builtin; refine wpList_append_in rfl (.tmp 37) (.tmp 42) rfl w.heap.size (.slice av nv cv) out rfl HV1.out wr.heap.size 1 x rfl HC1.out HL1.out HS1.out ?_)
        intro v' w' ho hgr
        have HO : Hid (Ins w' w.heap.size v' (out ++ [x])) := ho
        have HB2 : Hid (Below w.heap.size w w') := (HB.out.trans ((below_new wr _).mono HB.out.size)).trans (HV1.out.grown HS1.out hgr)
        obtain ⟨av', cv', rfl, _⟩ := HO.out.form
        clear ho hgr HE HV1 HC1 HS1 HL1 c0
        go_wp2
        go_roundw
        case rel => exact ⟨k + 1, true, av', _, cv', _, by omega, by go_num, rfl, rfl, HE2, HO, HB2⟩
        case measure => simp [intOf]; omega
      | false =>
        by_cases h1 : n ≤ x
        · have h1' : decide (n ≤ x) = true := decide_eq_true h1
          by_cases h2 : n < x
          · have h2' : decide (n < x) = true := decide_eq_true h2
            have HE2 : Hid (out ++ [n] ++ [x] ++ leftI true (l.drop (k + 1)) n = R) := by
              show _ = _
              have h3 := HE.out
              rw [HD.out, leftI, if_neg (by simp), insI, if_pos h1, if_pos h2] at h3
              rw [leftI, if_pos rfl, ← h3]
              simp
            have HS1 : Hid (w.heap.size ≤ (wr.alloc (.cells #[.int .i64 n] 3)).heap.size) := Nat.le_trans HB.out.size (below_new _ _).size
            have HC1 : Hid ((wr.alloc (.cells #[.int .i64 n] 3)).cell? ⟨wr.heap.size, 0, none⟩ = some (.int .i64 n)) := (Bk.new wr #[.int .i64 n] 3).cell 0 rfl
            have HV1 : Hid (Ins (wr.alloc (.cells #[.int .i64 n] 3)) w.heap.size (.slice av nv cv) out) := HV.out.below (below_new _ _)
            have HL1 : Hid (out.length ≤ 3000000000000) := by show _ ≤ _; have := HOL.out; omega
            go_wp2_with (at_builtin; refine wpList_append_in rfl (.tmp 33) (.tmp 35) rfl w.heap.size (.slice av nv cv) out rfl HV1.out wr.heap.size 1 n rfl HC1.out HL1.out HS1.out ?_)
            intro v' w' ho hgr
            have HO : Hid (Ins w' w.heap.size v' (out ++ [n])) := ho
            have HB2 : Hid (Below w.heap.size w w') := (HB.out.trans ((below_new wr _).mono HB.out.size)).trans (HV1.out.grown HS1.out hgr)
            obtain ⟨av', cv', rfl, _⟩ := HO.out.form
            have c1 : w'.cell? ⟨g, k, none⟩ = some (.int .i64 x) := by
              obtain ⟨g', hga, _, x', hx', c'⟩ := (HR.out.below HB2.out).at_ k hlt
              simp only [Option.some.injEq, Addr.mk.injEq, and_true] at hga
              subst hga
              have h9 := HD.out
              rw [drop_atI hx'] at h9
              simp only [List.cons.injEq, and_true] at h9
              rw [← h9]
              exact c'
            clear ho hgr HE HV1 HC1 HS1 HL1 c0
            have HOL2 : Hid ((out ++ [n]).length ≤ 100002) := by show _ ≤ _; have := HOL.out; rw [List.length_append, List.length_singleton]; omega
            obtain ⟨out2, ho2⟩ : ∃ o, o = out ++ [n] := ⟨_, rfl⟩
            rw [← ho2] at HO HE2 HOL2 ⊢
            obtain ⟨nv2, hnv2⟩ : ∃ o, o = out2.length := ⟨_, rfl⟩
            rw [← hnv2] at HO ⊢
            clear ho2 hnv2
            have HS1 : Hid (w.heap.size ≤ (w'.alloc (.cells #[.int .i64 x] 3)).heap.size) := Nat.le_trans HB2.out.size (below_new _ _).size
            have HC1 : Hid ((w'.alloc (.cells #[.int .i64 x] 3)).cell? ⟨w'.heap.size, 0, none⟩ = some (.int .i64 x)) := (Bk.new w' #[.int .i64 x] 3).cell 0 rfl
            have HV1 : Hid (Ins (w'.alloc (.cells #[.int .i64 x] 3)) w.heap.size (.slice av' nv2 cv') out2) := HO.out.below (below_new _ _)
            have HL1 : Hid (out2.length ≤ 3000000000000) := by show _ ≤ _; have := HOL2.out; omega
            go_wp2_with (at_builtin; refine wpList_append_in rfl (.tmp 37) (.tmp 42) rfl w.heap.size (.slice av' nv2 cv') out2 rfl HV1.out w'.heap.size 1 x rfl HC1.out HL1.out HS1.out ?_)
            intro v'' w'' ho hgr
            have HO2 : Hid (Ins w'' w.heap.size v'' (out2 ++ [x])) := ho
            have HB3 : Hid (Below w.heap.size w w'') := (HB2.out.trans ((below_new w' _).mono HB2.out.size)).trans (HV1.out.grown HS1.out hgr)
            obtain ⟨av2, cv2, rfl, _⟩ := HO2.out.form
            clear ho hgr HV1 HC1 HS1 HL1 c1
            go_wp2
            go_roundw
            case rel => exact ⟨k + 1, true, av2, _, cv2, _, by omega, by go_num, rfl, rfl, HE2, HO2, HB3⟩
            case measure => simp [intOf]; omega
          · have h2' : decide (n < x) = false := decide_eq_false h2
            have HE2 : Hid (out ++ [x] ++ leftI true (l.drop (k + 1)) n = R) := by
              show _ = _
              have h3 := HE.out
              rw [HD.out, leftI, if_neg (by simp), insI, if_pos h1, if_neg h2] at h3
              rw [leftI, if_pos rfl, ← h3]
              simp
            have HS1 : Hid (w.heap.size ≤ (wr.alloc (.cells #[.int .i64 x] 3)).heap.size) := Nat.le_trans HB.out.size (below_new _ _).size
            have HC1 : Hid ((wr.alloc (.cells #[.int .i64 x] 3)).cell? ⟨wr.heap.size, 0, none⟩ = some (.int .i64 x)) := (Bk.new wr #[.int .i64 x] 3).cell 0 rfl
            have HV1 : Hid (Ins (wr.alloc (.cells #[.int .i64 x] 3)) w.heap.size (.slice av nv cv) out) := HV.out.below (below_new _ _)
            have HL1 : Hid (out.length ≤ 3000000000000) := by show _ ≤ _; have := HOL.out; omega
            go_wp2_with (at_builtin; refine wpList_append_in rfl (.tmp 37) (.tmp 42) rfl w.heap.size (.slice av nv cv) out rfl HV1.out wr.heap.size 1 x rfl HC1.out HL1.out HS1.out ?_)
            intro v' w' ho hgr
            have HO : Hid (Ins w' w.heap.size v' (out ++ [x])) := ho
            have HB2 : Hid (Below w.heap.size w w') := (HB.out.trans ((below_new wr _).mono HB.out.size)).trans (HV1.out.grown HS1.out hgr)
            obtain ⟨av', cv', rfl, _⟩ := HO.out.form
            clear ho hgr HE HV1 HC1 HS1 HL1 c0
            go_wp2
            go_roundw
            case rel => exact ⟨k + 1, true, av', _, cv', _, by omega, by go_num, rfl, rfl, HE2, HO, HB2⟩
            case measure => simp [intOf]; omega
        · have h1' : decide (n ≤ x) = false := decide_eq_false h1
          have HE2 : Hid (out ++ [x] ++ leftI false (l.drop (k + 1)) n = R) := by
            show _ = _
            have h3 := HE.out
            rw [HD.out, leftI, if_neg (by simp), insI, if_neg h1] at h3
            rw [leftI, if_neg (by simp), ← h3]
            simp
          have HS1 : Hid (w.heap.size ≤ (wr.alloc (.cells #[.int .i64 x] 3)).heap.size) := Nat.le_trans HB.out.size (below_new _ _).size
          have HC1 : Hid ((wr.alloc (.cells #[.int .i64 x] 3)).cell? ⟨wr.heap.size, 0, none⟩ = some (.int .i64 x)) := (Bk.new wr #[.int .i64 x] 3).cell 0 rfl
          have HV1 : Hid (Ins (wr.alloc (.cells #[.int .i64 x] 3)) w.heap.size (.slice av nv cv) out) := HV.out.below (below_new _ _)
          have HL1 : Hid (out.length ≤ 3000000000000) := by show _ ≤ _; have := HOL.out; omega
          go_wp2_with (at_builtin; refine wpList_append_in rfl (.tmp 37) (.tmp 42) rfl w.heap.size (.slice av nv cv) out rfl HV1.out wr.heap.size 1 x rfl HC1.out HL1.out HS1.out ?_)
          intro v' w' ho hgr
          have HO : Hid (Ins w' w.heap.size v' (out ++ [x])) := ho
          have HB2 : Hid (Below w.heap.size w w') := (HB.out.trans ((below_new wr _).mono HB.out.size)).trans (HV1.out.grown HS1.out hgr)
          obtain ⟨av', cv', rfl, _⟩ := HO.out.form
          clear ho hgr HE HV1 HC1 HS1 HL1 c0
          go_wp2
          go_roundw
          case rel => exact ⟨k + 1, false, av', _, cv', _, by omega, by go_num, rfl, rfl, HE2, HO, HB2⟩
          case measure => simp [intOf]; omega
    · have hnl : ¬ (k : Int) < (m : Int) := by omega
      have hdk : l.drop k = [] := List.drop_of_length_le (by rw [HR.out.size]; omega)
      cases d with
      | true =>
        have HX2 : Hid (Ins wr w.heap.size (.slice av nv cv) R) := by
          have h1 := HE.out
          rw [hdk, leftI, if_pos rfl, List.append_nil] at h1
          show Ins _ _ _ _
          rw [← h1]
          exact HV.out
        clear HE hdk
        go_wp2
        go_ret
        exact ⟨⟨av, nv, cv, rfl, HX2⟩, HB.out⟩
      | false =>
        have HE2 : Hid (out ++ [n] = R) := by
          have h1 := HE.out
          rw [hdk, leftI, if_neg (by simp), insI] at h1
          exact h1
        have HS1 : Hid (w.heap.size ≤ (wr.alloc (.cells #[.int .i64 n] 3)).heap.size) := Nat.le_trans HB.out.size (below_new _ _).size
        have HC1 : Hid ((wr.alloc (.cells #[.int .i64 n] 3)).cell? ⟨wr.heap.size, 0, none⟩ = some (.int .i64 n)) := (Bk.new wr #[.int .i64 n] 3).cell 0 rfl
        have HV1 : Hid (Ins (wr.alloc (.cells #[.int .i64 n] 3)) w.heap.size (.slice av nv cv) out) := HV.out.below (below_new _ _)
        have HL1 : Hid (out.length ≤ 3000000000000) := by show _ ≤ _; have := HOL.out; omega
        clear HE hdk
        go_wp2_with (at_builtin; refine wpList_append_in rfl (.tmp 46) (.tmp 48) rfl w.heap.size (.slice av nv cv) out rfl HV1.out wr.heap.size 1 n rfl HC1.out HL1.out HS1.out ?_)
        intro v' w' ho hgr
        have HO : Hid (Ins w' w.heap.size v' R) := by show Ins _ _ _ _; rw [← HE2.out]; exact ho
        have HB2 : Hid (Below w.heap.size w w') := (HB.out.trans ((below_new wr _).mono HB.out.size)).trans (HV1.out.grown HS1.out hgr)
        obtain ⟨av', cv', rfl, _⟩ := HO.out.form
        clear ho hgr HV1 HC1 HS1 HL1
        go_wp2
        go_ret
        exact ⟨⟨av', _, cv', rfl, HO⟩, HB2.out⟩
end Go.Proofs.Ytcgjpkdpemlmbaa
