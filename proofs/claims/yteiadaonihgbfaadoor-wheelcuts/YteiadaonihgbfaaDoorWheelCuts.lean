/- Proved: for every script and two numbers grapevinelaw12.WheelCuts answers true and leaves its arguments as they were, where math/bits.deBruijn64tab holds what its initialiser lays (tied by the card). No other condition. -/
import Derived.Test.YteiadaonihgbfaaDoorWhL2
namespace Go.Proofs.YteiadaonihgbfaaDoor
open Go.ChangeShapes Go.WideShapes Go.ChangeAt Go.RowKit
namespace wheelCuts

/-- Two Advances tell what one does. -/
theorem told_two {T : Nat → Option Nat} {to en : Nat} {L1 L2 : List Nat} (h : to ≤ en) (h1 : Told T to L1) (h2 : Told (advT T to) en L2) : Told T en (L1 ++ L2) := by
  have hT2 : ∀ x d, advT T to x = some d ↔ T x = some d ∧ to < d := fun x d => by
    unfold advT
    cases hT : T x with
    | none => simp
    | some e =>
      simp only
      split
      · constructor
        · intro e; cases e
        · rintro ⟨e1, e2⟩; cases e1; omega
      · constructor
        · intro e; cases e; exact ⟨rfl, by omega⟩
        · rintro ⟨e1, e2⟩; exact e1
  refine ⟨List.pairwise_append.2 ⟨h1.1, h2.1.imp_of_mem (fun {x y} hx hy hxy => ?_), fun x hx y hy => ?_⟩, fun x => ?_⟩
  · obtain ⟨_, _, d, e1, _⟩ := (h2.2 x).1 hx
    obtain ⟨_, _, e, f1, _⟩ := (h2.2 y).1 hy
    unfold ltD dT at hxy ⊢
    rw [e1, f1] at hxy
    rw [((hT2 _ _).1 e1).1, ((hT2 _ _).1 f1).1]
    exact hxy
  · obtain ⟨_, _, d, e1, e2⟩ := (h1.2 x).1 hx
    obtain ⟨_, _, e, f1, _⟩ := (h2.2 y).1 hy
    left
    unfold dT
    rw [e1, ((hT2 _ _).1 f1).1]
    have := ((hT2 _ _).1 f1).2
    show d < e
    omega
  · rw [List.mem_append, h1.2, h2.2]
    constructor
    · rintro (⟨k1, k2, d, k3, k4⟩ | ⟨k1, k2, d, k3, k4⟩)
      · exact ⟨k1, k2, d, k3, by omega⟩
      · exact ⟨k1, k2, d, ((hT2 _ _).1 k3).1, k4⟩
    · rintro ⟨k1, k2, d, k3, k4⟩
      by_cases c : d ≤ to
      · exact .inl ⟨k1, k2, d, k3, c⟩
      · exact .inr ⟨k1, k2, d, (hT2 _ _).2 ⟨k3, by omega⟩, k4⟩
theorem adv_two {T : Nat → Option Nat} {to en : Nat} (h : to ≤ en) : advT (advT T to) en = advT T en := by
  funext i
  unfold advT
  cases T i with
  | none => rfl
  | some d =>
    simp only
    by_cases c : d ≤ to
    · rw [if_pos c, if_pos (by omega)]
    · rw [if_neg c]
theorem WW.below {w w' : World} {g n B : Nat} {T : Nat → Option Nat} (h : WW w g n T) (hb : Below B w w') (hg : g < B) : WW w' g n T := by
  obtain ⟨s, h1, h2, h3⟩ := h
  exact ⟨s, ⟨h1.blk.below hb hg, h1.dl, h1.sl, h1.nw, h1.dw, h1.sw⟩, h2, h3⟩
theorem vi_get {l : List Nat} {j : Nat} {u : Value} (h : (vi l)[j]? = some u) : j < l.length := by
  have := (List.getElem?_eq_some_iff.1 h).1
  simpa [vi] using this
/-- append of one row of numbers of one's own behind another one. -/
theorem run_append_rows (w : World) (base : Nat) (a : Option Addr) (n c : Nat) (l1 : List Nat) (h1 : w.ownsRow base 3 1 (.slice a n c) l1.length (vi l1)) (base2 : Nat) (b : Option Addr) (m c2 : Nat) (l2 : List Nat) (h2 : w.ownsRow base2 3 1 (.slice b m c2) l2.length (vi l2)) (hl1 : l1.length ≤ 64) (hl2 : l2.length ≤ 64) (hbase : base ≤ w.heap.size) :
    ∃ a' n' c' w', (Builtin.append_ #[40, 40] 40 #[.slice a n c, .slice b m c2]).run Tryd.prog w = .ok (.slice a' n' c') w' ∧ w'.ownsRow base 3 1 (.slice a' n' c') (l1 ++ l2).length (vi (l1 ++ l2)) ∧ w.grownBy w' (Value.ownBlock (.slice a n c)) := by
  obtain ⟨i0, hi, hz0, hz1, hz2⟩ := info_parts infoInt
  have hn := own_n h1
  have hm := own_n h2
  have e : vi (l1 ++ l2) = vi l1 ++ vi l2 := by unfold vi; rw [List.map_append]
  rcases h2.2 with ⟨h3, h4⟩ | ⟨k, c3, cur, h3, _⟩
  · simp only [Value.slice.injEq] at h3
    obtain ⟨rfl, rfl, rfl⟩ := h3
    have hl : l2 = [] := List.eq_nil_of_length_eq_zero h4
    subst hl
    have hrun := run_append_owned_none (P := Tryd.prog) (w := w) base 40 40 3 i0 1 Tryd.underlying40 hi (.slice a n c) l1.length (vi l1) h1
    exact ⟨a, n, c, w, hrun, by simpa using h1, ⟨rfl, rfl, rfl, Nat.le_refl _, fun _ _ _ => rfl⟩⟩
  · simp only [Value.slice.injEq] at h3
    obtain ⟨rfl, rfl, rfl⟩ := h3
    have hnews : ∀ j u, (vi l2)[j]? = some u → w.cell? ((⟨k, 0, none⟩ : Addr).add j) = some u := by
      intro j u hu
      have e : (⟨k, 0, none⟩ : Addr).add j = ⟨k, 0 + j, none⟩ := by unfold Addr.add; split <;> simp_all
      rw [e, Nat.zero_add, h2.cellAt j (by have := vi_get hu; omega)]
      exact hu
    obtain ⟨v', w', hrun, h5, h6, _⟩ := run_append_own (P := Tryd.prog) w base 40 40 3 i0 (.int .i64 0) 1 8 Tryd.underlying40 hi hz0 hz1 hz2 rfl (by decide) (.slice a n c) l1.length (vi l1) h1 ⟨k, 0, none⟩ l2.length c2 (vi l2) (by simp [vi]) hnews (vi_one l2) (by unfold maxLen; omega) (by omega) hbase
    obtain ⟨a', n', c', rfl⟩ := own_slice h5
    exact ⟨a', n', c', w', hrun, by rw [e, List.length_append]; exact h5, h6⟩

/-- A guarded append, by what it runs to. -/
theorem wpList_append_run {w w' : World} {ops : Array Oper} {rest : List Oper} {o : Oper} {act : Act} {Q : Exit → Act → World → Prop} {v : Value} (s x : Operand)
    (ho : o.op = .call { callee := .builtin .append, args := #[s, x], argTypes := #[40, 40] }) (hw : Region.wanted o (yielded ops act.tmps) = true) (hrun : (Builtin.append_ #[40, 40] o.type #[act.eval s, act.eval x]).run Tryd.prog w = .ok v w')
    (h : wpList Tryd.prog ops Q rest (act.put o.dst v) w') : wpList Tryd.prog ops Q (o :: rest) act w := by
  refine wpList_step fun K hK => ?_
  rw [if_pos hw]
  unfold Oper.wp
  simp only [execOp, ho, resolve, invoke, builtin, Sem.run_bind, Sem.run_pure, Result.andThen_ok, List.map_toArray, List.map_cons, List.map_nil, hrun]
  exact hK _ _ h

set_option maxRecDepth 100000 in
set_option maxHeartbeats 8000000 in
theorem walk (a : Option Addr) (len cap : Nat) (l : List Dd) (A B : Nat) (hA : A ≤ 65535) (hB : B ≤ 65535) (w : World) (hl : DdsRd w a len l) (hT : Tab w) (hz : 0 < w.heap.size) :
    Calls Tryd.prog 5 #[.slice a len cap, .int .u16 (A : Int), .int .u16 (B : Int)] w fun e w' => e = .returned (.bool true) ∧ Below w.heap.size w w' := by
  have HZ : Hid (0 < w.heap.size) := hz
  have HP := law_play12 w 0 a len cap l hl hT hz
  clear hl hT hz
  go_enter Tryd.func5, Tryd.ntmps5
  go_wp2_with fail
  refine HP.mono ?_
  rintro e w1 ⟨ht1, hb1⟩
  have HB1 : Hid (Below w.heap.size w w1) := hb1
  clear HP hb1
  rcases ht1.out with ⟨h0, _⟩ | ⟨_, g, h, n, T, rfl, hd, hg1, _⟩
  · exact absurd ⟨by omega, by omega⟩ h0
  have HW1 : Hid (WW w1 g n T) := hd.wh
  have HT1 : Hid (Tab w1) := hd.tab
  have HG0 : Hid (g ≠ 0) := hd.g0
  have HGE : Hid (w.heap.size ≤ g) := hg1
  have HNM : Hid (n ≤ 1099511627776) := HW1.out.nle
  clear ht1 hd hg1
  go_wp2_with fail
  refine (ww_Now w1 g n T HW1.out).mono ?_
  rintro e w2 ⟨rfl, hw2⟩
  rw [hw2]
  clear hw2 w2
  go_wp2_with fail
  refine (ww_Advance w1 g n T n HW1.out HT1.out HG0.out (Nat.le_refl _) HNM.out).mono ?_
  rintro e w2 ⟨v2, rfl, hw2, ho2, hg2⟩
  obtain ⟨L0, ho2, _⟩ := ho2.out
  obtain ⟨a0, n0, c0, rfl⟩ := own_slice ho2
  obtain ⟨T1, hT1⟩ : ∃ T1, T1 = advT T n := ⟨_, rfl⟩
  rw [← hT1] at hw2
  have HW2 : Hid (WW w2 g n T1) := hw2.out
  have HT2 : Hid (Tab w2) := HT1.out.grown hg2 HG0.out
  have HB2 : Hid (Below w.heap.size w w2) := Below.of_grown HB1.out hg2 HGE.out HB1.out.size
  clear hw2 ho2 hg2 hT1
  go_wp2_with fail
  refine (ww_Fork w2 g n T1 HW2.out).mono ?_
  rintro e w3 ⟨rfl, hf3, hb3⟩
  obtain ⟨f, hf⟩ : ∃ f, f = w2.heap.size := ⟨_, rfl⟩
  rw [← hf] at hf3 ⊢
  have HF3 : Hid (WW w3 f n T1) := hf3.out
  have HW3 : Hid (WW w3 g n T1) := HW2.out.stay hb3
  have HNE : Hid (g ≠ f ∧ f ≠ 0 ∧ w.heap.size ≤ f ∧ g < w3.heap.size ∧ f < w3.heap.size ∧ 0 < w3.heap.size) := by
    have k1 := HW2.out.lt
    have k2 := HW3.out.lt
    have k3 := HF3.out.lt
    have k4 := HB2.out.size
    (show _ ∧ _)
    omega
  have HT3 : Hid (Tab w3) := HT2.out.below (Nat.lt_of_le_of_lt (Nat.zero_le _) HW2.out.lt) hb3
  have HB3 : Hid (Below w.heap.size w w3) := HB2.out.trans (hb3.mono HB2.out.size)
  clear hf3 hb3 hf
  obtain ⟨to, hto⟩ : ∃ to, to = n + A := ⟨_, rfl⟩
  obtain ⟨en, hen⟩ : ∃ en, en = to + B := ⟨_, rfl⟩
  have HTO : Hid (n ≤ to ∧ to ≤ en) := by (show _ ∧ _); omega
  have q1 : (n : Int) + (A : Int) = (to : Int) := by omega
  have q2 : (to : Int) + (B : Int) = (en : Int) := by omega
  have q3 : IntKind.i64.wrap (to : Int) = (to : Int) := by have := HNM.out; rw [IntKind.wrap_i64]; omega
  have q4 : IntKind.i64.wrap (en : Int) = (en : Int) := by have := HNM.out; rw [IntKind.wrap_i64]; omega
  have q5 : IntKind.i64.wrap (A : Int) = (A : Int) := by rw [IntKind.wrap_i64]; omega
  have q6 : IntKind.i64.wrap (B : Int) = (B : Int) := by rw [IntKind.wrap_i64]; omega
  clear hto hen
  go_wp2_with fail
  refine (ww_Now w3 g n T1 HW3.out).mono ?_
  rintro e w4 ⟨rfl, hw4⟩
  rw [hw4]
  clear hw4 w4
  by_cases hmx : 1099511627776 < en
  · have hmx' : (1099511627776 : Int) < (en : Int) := by omega
    go_wp2_with fail
    refine (law_live12 w3 HT3.out HNE.out.2.2.2.2.2).mono ?_
    rintro e w4 ⟨rfl, hb4⟩
    have HB4 : Hid (Below w.heap.size w w4) := HB3.out.trans (hb4.mono HB3.out.size)
    clear hb4
    go_wp2
    go_ret
    exact ⟨rfl, HB4.out⟩
  · have hmx' : ¬ (1099511627776 : Int) < (en : Int) := by omega
    have HEM : Hid (en ≤ 1099511627776 ∧ to ≤ 1099511627776) := by have := HTO.out; (show _ ∧ _); omega
    clear hmx
    go_wp2_with fail
    refine (ww_Advance w3 g n T1 to HW3.out HT3.out HG0.out HTO.out.1 HEM.out.2).mono ?_
    rintro e w4 ⟨v4, rfl, hw4, ho4, hg4⟩
    obtain ⟨L1, ho4, ht4, hl4⟩ := ho4.out
    obtain ⟨a4, n4, c4, rfl⟩ := own_slice ho4
    have HW4 : Hid (WW w4 g to (advT T1 to)) := hw4.out
    have HF4 : Hid (WW w4 f n T1) := HF3.out.grown hg4 (fun e => HNE.out.1 e.symm)
    have HT4 : Hid (Tab w4) := HT3.out.grown hg4 HG0.out
    have HB4 : Hid (Below w.heap.size w w4) := Below.of_grown HB3.out hg4 HGE.out HB3.out.size
    have HO4 : Hid (w4.ownsRow w3.heap.size 3 1 (.slice a4 n4 c4) L1.length (vi L1)) := ho4
    have HL1 : Hid (Told T1 to L1 ∧ L1.length ≤ 64) := ⟨ht4, hl4⟩
    have HS4 : Hid (w3.heap.size ≤ w4.heap.size) := hg4.size
    clear hw4 ho4 hg4 ht4 hl4
    go_wp2_with fail
    refine (ww_Advance w4 g to (advT T1 to) en HW4.out HT4.out HG0.out HTO.out.2 HEM.out.1).mono ?_
    rintro e w5 ⟨v5, rfl, hw5, ho5, hg5⟩
    obtain ⟨L2, ho5, ht5, hl5⟩ := ho5.out
    obtain ⟨a5, n5, c5, rfl⟩ := own_slice ho5
    have HW5 : Hid (WW w5 g en (advT T1 en)) := by
      have := hw5.out
      rw [adv_two HTO.out.2] at this
      exact this
    have HF5 : Hid (WW w5 f n T1) := HF4.out.grown hg5 (fun e => HNE.out.1 e.symm)
    have HT5 : Hid (Tab w5) := HT4.out.grown hg5 HG0.out
    have HB5 : Hid (Below w.heap.size w w5) := Below.of_grown HB4.out hg5 HGE.out HB4.out.size
    have HO4b : Hid (w5.ownsRow w3.heap.size 3 1 (.slice a4 n4 c4) L1.length (vi L1)) := own_stay HO4.out (fun q hq => hg5.block q (HO4.out.lt q hq).2 (fun e => by have := (HO4.out.lt q hq).1; have := HNE.out; simp only [Option.some.injEq] at e; omega))
    have HO5 : Hid (w5.ownsRow w4.heap.size 3 1 (.slice a5 n5 c5) L2.length (vi L2)) := ho5
    have HL2 : Hid (Told (advT T1 to) en L2 ∧ L2.length ≤ 64) := ⟨ht5, hl5⟩
    have HS5 : Hid (w4.heap.size ≤ w5.heap.size) := hg5.size
    clear hw5 ho5 hg5 ht5 hl5
    go_wp2_with fail
    refine (ww_Advance w5 f n T1 en HF5.out HT5.out HNE.out.2.1 (Nat.le_trans HTO.out.1 HTO.out.2) HEM.out.1).mono ?_
    rintro e w6 ⟨v6, rfl, hw6, ho6, hg6⟩
    obtain ⟨L3, ho6, ht6, hl6⟩ := ho6.out
    obtain ⟨a6, n6, c6, rfl⟩ := own_slice ho6
    have HF6 : Hid (WW w6 f en (advT T1 en)) := hw6.out
    have HW6 : Hid (WW w6 g en (advT T1 en)) := HW5.out.grown hg6 HNE.out.1
    have HT6 : Hid (Tab w6) := HT5.out.grown hg6 HNE.out.2.1
    have HB6 : Hid (Below w.heap.size w w6) := Below.of_grown HB5.out hg6 HNE.out.2.2.1 HB5.out.size
    have HO4c : Hid (w6.ownsRow w3.heap.size 3 1 (.slice a4 n4 c4) L1.length (vi L1)) := own_stay HO4b.out (fun q hq => hg6.block q (HO4b.out.lt q hq).2 (fun e => by have := (HO4b.out.lt q hq).1; have := HNE.out; simp only [Option.some.injEq] at e; omega))
    have HO5b : Hid (w6.ownsRow w4.heap.size 3 1 (.slice a5 n5 c5) L2.length (vi L2)) := own_stay HO5.out (fun q hq => hg6.block q (HO5.out.lt q hq).2 (fun e => by have := (HO5.out.lt q hq).1; have := HNE.out; have := HS4.out; simp only [Option.some.injEq] at e; omega))
    have HO6 : Hid (w6.ownsRow w5.heap.size 3 1 (.slice a6 n6 c6) L3.length (vi L3)) := ho6
    have HL3 : Hid (L1 ++ L2 = L3) := (told_two HTO.out.2 HL1.out.1 HL2.out.1).canon ht6
    have HL3n : Hid (L3.length ≤ 64) := hl6
    have HS6 : Hid (w5.heap.size ≤ w6.heap.size) := hg6.size
    clear hw6 ho6 hg6 ht6 hl6
    have HPB : Hid (∀ k, (Value.slice a4 n4 c4).ownBlock = some k → w3.heap.size ≤ k ∧ k < w5.heap.size) := fun k hk => ⟨(HO4.out.lt k hk).1, Nat.lt_of_lt_of_le (HO4.out.lt k hk).2 HS5.out⟩
    go_wp2_with fail
    refine (law_live12 w6 HT6.out (Nat.lt_of_lt_of_le HZ.out HB6.out.size)).mono ?_
    rintro e w7 ⟨rfl, hb7⟩
    have HB7 : Hid (Below w.heap.size w w7) := HB6.out.trans (hb7.mono HB6.out.size)
    have HF7 : Hid (WW w7 f en (advT T1 en)) := HF6.out.stay hb7
    have HW7 : Hid (WW w7 g en (advT T1 en)) := HW6.out.stay hb7
    have HT7 : Hid (Tab w7) := HT6.out.below (Nat.lt_of_le_of_lt (Nat.zero_le _) HW6.out.lt) hb7
    have ho1 : w7.ownsRow w3.heap.size 3 1 (.slice a4 n4 c4) L1.length (vi L1) := own_stay HO4c.out (fun q hq => hb7.block q (HO4c.out.lt q hq).2)
    have ho2 : w7.ownsRow w4.heap.size 3 1 (.slice a5 n5 c5) L2.length (vi L2) := own_stay HO5b.out (fun q hq => hb7.block q (HO5b.out.lt q hq).2)
    have HO7 : Hid (w7.ownsRow w5.heap.size 3 1 (.slice a6 n6 c6) L3.length (vi L3)) := own_stay HO6.out (fun q hq => hb7.block q (HO6.out.lt q hq).2)
    have HS37 : Hid (w3.heap.size ≤ w7.heap.size ∧ w.heap.size ≤ w3.heap.size) := ⟨Nat.le_trans HS4.out (Nat.le_trans HS5.out (Nat.le_trans HS6.out hb7.size)), HB3.out.size⟩
    obtain ⟨a8, n8, c8, w8, hap, ho8, hg8⟩ := run_append_rows w7 w3.heap.size a4 n4 c4 L1 ho1 w4.heap.size a5 n5 c5 L2 ho2 HL1.out.2 HL2.out.2 HS37.out.1
    have HB8 : Hid (Below w3.heap.size w7 w8) := (Below.refl _ _).grown hg8 HS37.out.1 (fun k hk => (HPB.out k hk).1)
    have HW8 : Hid (WW w8 g en (advT T1 en)) := WW.below HW7.out HB8.out HNE.out.2.2.2.1
    have HF8 : Hid (WW w8 f en (advT T1 en)) := WW.below HF7.out HB8.out HNE.out.2.2.2.2.1
    have HT8 : Hid (Tab w8) := HT7.out.below HNE.out.2.2.2.2.2 HB8.out
    have HBB8 : Hid (Below w.heap.size w w8) := HB7.out.trans (HB8.out.mono HS37.out.2)
    rw [HL3.out] at ho8
    have HR8 : Hid (IsRd w8 a8 n8 L3) := IsRd.of_own ho8
    have HR6 : Hid (IsRd w8 a6 n6 L3) := IsRd.of_own (own_stay HO7.out (fun q hq => hg8.block q (HO7.out.lt q hq).2 (fun e => by have := (HPB.out q e.symm).2; have := (HO7.out.lt q hq).1; omega)))
    obtain rfl : n6 = n8 := HR6.out.size.symm.trans HR8.out.size
    have HAP : Hid ((Builtin.append_ #[40, 40] 40 #[.slice a4 n4 c4, .slice a5 n5 c5]).run Tryd.prog w7 = .ok (.slice a8 n6 c8) w8) := hap
    clear hb7 ho1 ho2 ho8 hg8 hap
    go_wp2_with (guard_target =~ wpList _ _ _ (Oper.mk (some 90) _ _ _ _ _ :: _) _ _; refine wpList_append_run (.tmp 88) (.tmp 89) rfl (by rfl) HAP.out ?_)
    refine (ref_Same_alike w8 a8 a6 n6 c8 c6 L3 HR8.out HR6.out (by have := HR6.out.size; have := HL3n.out; omega)).mono ?_
    rintro e w9 ⟨rfl, m9, hw9⟩
    have HB9 : Hid (Below w8.heap.size w8 w9) := by (show Below _ _ _); rw [hw9]; exact below_drews (Below.refl _ _) m9
    have HW9 : Hid (WW w9 g en (advT T1 en)) := HW8.out.stay HB9.out
    have HF9 : Hid (WW w9 f en (advT T1 en)) := HF8.out.stay HB9.out
    have HT9 : Hid (Tab w9) := HT8.out.below (Nat.lt_of_le_of_lt (Nat.zero_le _) HW8.out.lt) HB9.out
    have HBB9 : Hid (Below w.heap.size w w9) := HBB8.out.trans (HB9.out.mono HBB8.out.size)
    clear hw9
    go_wp2_with fail
    refine (ww_Now w9 g en _ HW9.out).mono ?_
    rintro e w10 ⟨rfl, hw10⟩
    rw [hw10]
    clear hw10 w10
    go_wp2_with fail
    refine (ww_Now w9 f en _ HF9.out).mono ?_
    rintro e w10 ⟨rfl, hw10⟩
    rw [hw10]
    clear hw10 w10
    go_wp2_with fail
    refine (ww_Ids w9 g en _ HW9.out HT9.out).mono ?_
    rintro e w10 ⟨v10, rfl, ho10, hb10⟩
    obtain ⟨a10, n10, c10, rfl⟩ := own_slice ho10.out
    have HF10 : Hid (WW w10 f en (advT T1 en)) := HF9.out.stay hb10
    have HT10 : Hid (Tab w10) := HT9.out.below (Nat.lt_of_le_of_lt (Nat.zero_le _) HW9.out.lt) hb10
    have HR10 : Hid (IsRd w10 a10 n10 (idsT (advT T1 en))) := IsRd.of_own ho10.out
    have HBB10 : Hid (Below w.heap.size w w10) := HBB9.out.trans (hb10.mono HBB9.out.size)
    clear ho10 hb10
    go_wp2_with fail
    refine (ww_Ids w10 f en _ HF10.out HT10.out).mono ?_
    rintro e w11 ⟨v11, rfl, ho11, hb11⟩
    obtain ⟨a11, n11, c11, rfl⟩ := own_slice ho11.out
    have HR11 : Hid (IsRd w11 a11 n11 (idsT (advT T1 en))) := IsRd.of_own ho11.out
    have HR10b : Hid (IsRd w11 a10 n10 (idsT (advT T1 en))) := HR10.out.below hb11
    obtain rfl : n11 = n10 := HR11.out.size.symm.trans HR10b.out.size
    have HBB11 : Hid (Below w.heap.size w w11) := HBB10.out.trans (hb11.mono HBB10.out.size)
    clear ho11 hb11
    go_wp2_with fail
    refine (ref_Same_alike w11 a10 a11 n11 c10 c11 _ HR10b.out HR11.out (by have := HR11.out.size; have := own_len64 (advT T1 en); omega)).mono ?_
    rintro e w12 ⟨rfl, m12, hw12⟩
    have HBF : Hid (Below w.heap.size w w12) := by (show Below _ _ _); rw [hw12]; exact HBB11.out.trans ((below_drews (Below.refl _ _) m12).mono HBB11.out.size)
    clear hw12
    go_wp2
    go_ret
    exact ⟨by simp, HBF.out⟩

set_option maxRecDepth 100000 in
theorem contract (H : Type) (enc : TypeId × Value → H) (W : World) (base : Nat) (args : Array Value) (ds gs : List (DataW H)) (before : List MemPlace)
    (hval : ∀ (j : Nat) t v, Tryd.f5.params[j]? = some t → args[j]? = some v → Value.okWide Tryd.prog W .any base t v)
    (hW : DataW.Whole enc Tryd.prog Tryd.f5.params.toList Rows.wheelCutsSpec.vars false W args.toList ds gs before) (hL : laidMetH Tryd.prog [("math/bits.deBruijn64tab", Rows.laid_math_bits_deBruijn64tab)] W) :
    Calls Tryd.prog 5 args W fun e W' => ∃ v, e = .returned v ∧ Rows.wheelCutsSpec.post enc Tryd.prog Tryd.f5 false true false false W args v W' := by
  have hW' := hW
  obtain ⟨p, q, hA0, hV, rfl, hfz, hnd⟩ := hW
  have hA : DataW.TrodAll enc Tryd.prog W 0 (fun _ => true) true Tryd.f5.params.toList args.toList ds p := hA0
  have hK := hA
  rw [Tryd.params5] at hA hval
  obtain ⟨v0, vs0, d0, ds0, p0, q0, hargs, rfl, rfl, h0, r0⟩ := trodAll_cons hA
  obtain ⟨v1, vs1, d1, ds1, p1, q1, rfl, rfl, rfl, h1, r1⟩ := trodAll_cons r0
  obtain ⟨v2, vs2, d2, ds2, p2, q2, rfl, rfl, rfl, h2, r2⟩ := trodAll_cons r1
  obtain ⟨rfl, rfl, rfl⟩ := trodAll_nil r2
  obtain rfl : args = #[v0, v1, v2] := by cases args; simp_all
  obtain ⟨rfl, rfl⟩ := trodVars_none hV
  obtain ⟨x1, rfl, rfl, rfl, w1⟩ := open_int Tryd.underlying39 (hval 1 39 v1 rfl rfl) h1
  have b1 : (0 : Int) ≤ x1 ∧ x1 ≤ 65535 := by simpa [Lit.wf, IntKind.min, IntKind.max, IntKind.signed, IntKind.bits] using w1
  obtain ⟨n1, rfl⟩ := Int.eq_ofNat_of_zero_le b1.1
  obtain ⟨x2, rfl, rfl, rfl, w2⟩ := open_int Tryd.underlying39 (hval 2 39 v2 rfl rfl) h2
  have b2 : (0 : Int) ≤ x2 ∧ x2 ≤ 65535 := by simpa [Lit.wf, IntKind.min, IntKind.max, IntKind.signed, IntKind.bits] using w2
  obtain ⟨n2, rfl⟩ := Int.eq_ofNat_of_zero_le b2.1
  obtain ⟨a0, len0, cap0, rfl⟩ := okWide_slice Tryd.underlying22 (hval 0 22 v0 rfl rfl)
  obtain ⟨l0, rd0, _, _⟩ := open_deeds12 h0
  have ht := table hL
  have hz : 0 < W.heap.size := World.block_lt_of_cell? W _ (ht 0 (by omega))
  refine (walk a0 len0 cap0 l0 n1 n2 (by omega) (by omega) W rd0 ht hz).mono fun e W' ⟨he, bel⟩ => ?_
  subst he
  exact ⟨_, rfl, _, _, _, [], _, [], hW', trodAll_mk1 (shut_bool Tryd.underlying4 _), trodAll_below laidOut bel _ _ _ _ (by kernel_rfl) hK, rfl, bel.frame _, fun h => by cases h⟩

theorem laid_met (os : Os) : laidMet Tryd.prog Rows.wheelCutsRow.laid ((layTab (World.holding Tryd.prog os ⟨#[], #[], []⟩)).forCall (fun _ _ => 0) ⟨#[], #[.slice none 0 0, .int .u16 0, .int .u16 0], []⟩).memory :=
  laidMet_of_run' 8 (by kernel_rfl) (by kernel_rfl)
theorem reads (os : Os) {H : Type} (enc : TypeId × Value → H) : ∃ places, DataW.whole enc Tryd.prog ((layTab (World.holding Tryd.prog os ⟨#[], #[], []⟩)).forCall (fun _ _ => 0) ⟨#[], #[.slice none 0 0, .int .u16 0, .int .u16 0], []⟩).memory Tryd.f5.params.toList Rows.wheelCutsSpec.vars false (#[.slice none 0 0, .int .u16 0, .int .u16 0] : Array Value).toList 8 = some ([.nil, .lit (.int .u16 0), .lit (.int .u16 0)], [], places) :=
  ⟨[], by kernel_rfl⟩

set_option maxRecDepth 100000 in
theorem lifted (os : Os) (started : os.Started) (H : Type) (enc : TypeId × Value → H) (F : Stop.Interp) :
    ReturnsInHanded {} Tryd.checked os 5 .any ((OpenSpec.ofChange Rows.wheelCutsSpec).preRow enc Tryd.prog Tryd.f5 Rows.wheelCutsRow.domain false Rows.wheelCutsRow.laid) (((OpenSpec.ofChange Rows.wheelCutsSpec).at F).post enc Tryd.prog Tryd.f5 false true false false) := by
  obtain ⟨places, hx⟩ := reads os enc
  refine returnsInHanded_of_row (C := Tryd.checked) (s := OpenSpec.ofChange Rows.wheelCutsSpec) own started (by kernel_rfl) Tryd.func5
    (witness_row_at (enc := enc) (C := Tryd.checked) false (layTab (World.holding Tryd.prog os ⟨#[], #[], []⟩)) #[.slice none 0 0, .int .u16 0, .int .u16 0] rfl (by kernel_rfl) (by kernel_rfl) (by kernel_rfl)
      (OpenSpec.preRow_of_cond 8 hx (by kernel_rfl) (fun k hk => by cases hk) (by kernel_rfl) (laid_met os))) ?_
  intro W base args ds gs before hval hW _ _ _ hL _ _
  exact contract H enc W base args ds gs before hval hW hL

theorem said : Rows.WheelCutsSaid :=
  OpenClaim.holds_of_cond 5 Tryd.f5 rfl rfl rfl rfl rfl rfl rfl ⟨rfl, rfl, rfl, rfl, rfl⟩ rfl rfl rfl rfl rfl (by kernel_rfl) Tryd.func5 (by kernel_rfl)
    (of_decide_eq_true (by kernel_rfl)) (by unfold Func.isWrapper; first | (rw [if_pos (by decide +kernel)]; kernel_rfl) | (rw [if_neg (by decide +kernel)]; exact ⟨rfl, rfl⟩))
    (fun os started H enc _ F => by rw [OpenClaim.pre_eq_preRow]; exact lifted os started H enc F)

theorem plain (f : FuncId) (fn : Func) (hf : Tryd.pinned.checked.prog.funcNamed "grapevine/grapevinelaw12.WheelCuts" = some f) (hfn : Tryd.pinned.checked.prog.funcs[f]? = some fn) :
    false = Tryd.pinned.checked.prog.looks [] ∧ ∀ (j : Nat) t, fn.params[j]? = some t → Tryd.pinned.checked.prog.wantsStandIn t = false := by
  obtain rfl : f = 5 := Option.some.inj ((show Tryd.prog.funcNamed "grapevine/grapevinelaw12.WheelCuts" = some 5 by kernel_rfl).symm.trans hf) |>.symm
  obtain rfl : fn = Tryd.f5 := (Option.some.inj (Tryd.func5.symm.trans hfn)).symm
  refine ⟨by kernel_rfl, fun j t ht => ?_⟩
  rw [Tryd.params5] at ht
  have hall : ∀ t ∈ (#[22, 39, 39] : Array TypeId), Tryd.prog.wantsStandIn t = false := by
    intro t ht
    simp at ht
    rcases ht with rfl | rfl
    · exact (show Tryd.prog.wantsStandIn 22 = false by kernel_rfl)
    · exact (show Tryd.prog.wantsStandIn 39 = false by kernel_rfl)
  exact hall t (Array.mem_of_getElem? ht)

theorem card : Rows.WheelCutsCardSaid :=
  Claim7.holds_tied_plain_at .later [] _ _ _ _ said (fun _ h => by cases h) (by kernel_rfl) (fun _ h => by cases h) wheelCuts_row_tie rfl ⟨rfl, rfl⟩ (by kernel_rfl) rfl plain (by kernel_rfl)
end wheelCuts

theorem wheelCuts_holds : Rows.WheelCutsCardSaid := wheelCuts.card
end Go.Proofs.YteiadaonihgbfaaDoor

