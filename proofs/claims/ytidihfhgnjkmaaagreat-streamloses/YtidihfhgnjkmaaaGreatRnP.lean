/- A pack of texts: Rn1 Rn2. -/
import Derived.Test.YtidihfhgnjkmaaaGreatRmQ
import Derived.Test.YtidihfhgnjkmaaaGreatSnP
import Derived.BigRegion
import Derived.Test.YtidihfhgnjkmaaaGreatRmP
/- grapevineref15: Seen. -/
namespace Go.Proofs.YtidihfhgnjkmaaaGreat
set_option maxRecDepth 100000
open Go.RowKit
variable {Z : Nat → Prop}

/-- Spans that lie below a mark, or in a row of spans. -/
def TyS (B : Nat) (w : World) (a : Option Addr) : Prop := ∀ ad, a = some ad → ad.block < w.heap.size ∧ (ad.block < B ∨ ∃ cs m, w.heap[ad.block]? = some (.cells cs 62 m))
theorem TyS.below {B : Nat} {w w' : World} {a : Option Addr} (h : TyS B w a) (hb : Below w.heap.size w w') : TyS B w' a := fun ad e => by
  obtain ⟨h1, h2⟩ := h ad e
  refine ⟨Nat.lt_of_lt_of_le h1 hb.size, ?_⟩
  rcases h2 with h2 | ⟨cs, m, h2⟩
  · exact .inl h2
  · exact .inr ⟨cs, m, by rw [hb.block _ h1]; exact h2⟩
theorem ref_Join_ty {a b : Option Addr} {na ca nb cb : Nat} {la lb : List Sp} {w : World} (ha : MapOk w a na ca la) (hb : MapOk w b nb cb lb) :
    Calls Tryz.prog 42 #[.slice a na ca, .slice b nb cb] w fun e w' => (∃ av nv cv l, e = .returned (.tuple #[.slice av nv cv, .int .i64 0]) ∧ Hid (MapOk w' av nv cv l) ∧ Hid (∀ ad, av = some ad → w.heap.size ≤ ad.block ∧ ∃ cs m, w'.heap[ad.block]? = some (.cells cs 62 m)) ∧ Hid (∀ t, atS l t = max (atS la t) (atS lb t))) ∧ Below w.heap.size w w' := by
  refine (ref_Join a b na ca nb cb la lb w ha.rd hb.rd (by rw [← ha.rd.size]; exact right_short ha.right) (by rw [← hb.rd.size]; exact right_short hb.right)).mono ?_
  rintro e w1 ⟨hj, hb1⟩
  refine ⟨?_, hb1⟩
  rcases hj.out with ⟨hbad, _⟩ | ⟨_, _, v, l, rfl, hv, hr, ht⟩
  · exfalso
    have h1 := (rightB_iff _ _).2 ha.right
    have h2 := (rightB_iff _ _).2 hb.right
    rcases hbad with h | h
    · rw [h1] at h; cases h
    · rw [h2] at h; cases h
  · obtain ⟨av, nv, cv, rfl, hm⟩ := hv.ok hr
    refine ⟨av, nv, cv, l, rfl, hm, fun ad had => ?_, ht⟩
    subst had
    rcases hv.row.2 with ⟨h1, _⟩ | ⟨g', c', cur, h1, h2, h3, _⟩
    · simp at h1
    · simp only [Value.slice.injEq, Option.some.injEq] at h1
      rw [h1.1]
      exact ⟨h2, _, _, h3⟩
theorem wp_append_ro {w : World} {o : Oper} {act : Act} {K : Act → World → Prop} {Q : Exit → Act → World → Prop} (s x : Operand)
    (ho : o.op = .call { callee := .builtin .append, args := #[s, x], argTypes := #[31, 31] })
    (base : Nat) (v : Value) (R : List (It × Bd)) (hs : act.eval s = v) (hown : Ros Z w base v R) (ad : Addr) (c : Nat) (q : It × Bd) (hx : act.eval x = .slice (some ad) 1 c) (hnews : ∀ j u, (icells q.1 q.2)[j]? = some u → w.cell? (ad.add j) = some u) (hb : BdT Z w q.2 q.1.body) (hq : ItIn q.1) (hl : R.length ≤ 1000000000000) (hbase : base ≤ w.heap.size)
    (h : ∀ v' w', Ros Z w' base v' (R ++ [q]) → w.grownBy w' v.ownBlock → Below base w w' → (v ≠ .slice none 0 0 → v' ≠ .slice none 0 0) → K (act.put o.dst v') w') : Oper.wp Tryz.prog o act w K Q := by
  obtain ⟨v', w', hrun, h2, h3, h4, h5⟩ := run_append_ro w o.type base v R hown ad c q hnews hb hq hl hbase
  unfold Oper.wp
  simp only [execOp, ho, resolve, invoke, builtin, Sem.run_bind, Sem.run_pure, Result.andThen_ok, List.map_toArray, List.map_cons, List.map_nil, hs, hx, hrun]
  exact h v' w' h2 h3 h4 h5
theorem step_append_ro {w : World} {ops : Array Oper} {o : Oper} {act : Act} {K : Act → World → Prop} {Q : Exit → Act → World → Prop} {E : Prop} (hgd : o.guard = none) (s x : Operand)
    (ho : o.op = .call { callee := .builtin .append, args := #[s, x], argTypes := #[31, 31] })
    (base : Nat) (v : Value) (R : List (It × Bd)) (hs : act.eval s = v) (hown : Ros Z w base v R) (ad : Addr) (c : Nat) (q : It × Bd) (hx : act.eval x = .slice (some ad) 1 c) (hnews : ∀ j u, (icells q.1 q.2)[j]? = some u → w.cell? (ad.add j) = some u) (hb : BdT Z w q.2 q.1.body) (hq : ItIn q.1) (hl : R.length ≤ 1000000000000) (hbase : base ≤ w.heap.size)
    (h : ∀ v' w', Ros Z w' base v' (R ++ [q]) → w.grownBy w' v.ownBlock → Below base w w' → (v ≠ .slice none 0 0 → v' ≠ .slice none 0 0) → K (act.put o.dst v') w') : if Region.wanted o (yielded ops act.tmps) = true then Oper.wp Tryz.prog o act w K Q else E := by
  rw [if_pos (by simp [Region.wanted, hgd])]
  exact wp_append_ro s x ho base v R hs hown ad c q hx hnews hb hq hl hbase h
def seenR (lk : Int) (R : List (It × Bd)) : List (It × Bd) := R.filter fun x => hitB lk x.1
theorem seenR_map (lk : Int) : ∀ R : List (It × Bd), (seenR lk R).map Prod.fst = seenX lk (R.map Prod.fst)
  | [] => rfl
  | x :: R => by
    have ih := seenR_map lk R
    unfold seenR seenX at ih ⊢
    rw [List.map_cons, List.filter_cons, List.filter_cons]
    by_cases h : hitB lk x.1 = true
    · rw [if_pos h, if_pos h, List.map_cons, ih]
    · rw [if_neg h, if_neg h, ih]
theorem seenR_snoc (lk : Int) (R : List (It × Bd)) (x : It × Bd) : seenR lk (R ++ [x]) = seenR lk R ++ (if hitB lk x.1 = true then [x] else []) := by
  unfold seenR
  rw [List.filter_append, List.filter_cons]
  split <;> rfl
/-- How far Seen is. -/
structure SeeUp (Z : Nat → Prop) (B z : Nat) (w wr : World) (L : List Sp) (R : List (It × Bd)) (lk : Int) (i : Nat) (a : Option Addr) (n c : Nat) (l : List Sp) (v : Value) : Prop where
  blk : Bk wr z #[.slice a n c, v] 51
  ok : MapOk wr a n c l
  ty : TyS B wr a
  az : ∀ ad, a = some ad → Z ad.block
  its : Ros Z wr B v (seenR lk (R.take i))
  at_ : ∀ u, atS l u = seenK L ((R.map Prod.fst).take i) lk u
  bel : Below w.heap.size w wr
  hB : B ≤ wr.heap.size
  zB : z < B
  zl : w.heap.size ≤ z
theorem SeeUp.noInt {B z : Nat} {w wr : World} {L : List Sp} {R : List (It × Bd)} {lk : Int} {i : Nat} {a : Option Addr} {n c : Nat} {l : List Sp} {v : Value} (h : SeeUp Z B z w wr L R lk i a n c l v) : ¬ HasInt wr z := by
  obtain ⟨a', c', rfl, _⟩ := h.its.form
  exact not_int h.blk (by decide) fun o kd zz => by
    match o with
    | 0 => exact fun h => (by cases h)
    | 1 => exact fun h => (by cases h)
    | o + 2 => exact fun h => (by simp at h)
theorem SeeUp.below {B z : Nat} {w wr w' : World} {L : List Sp} {R : List (It × Bd)} {lk : Int} {i : Nat} {a : Option Addr} {n c : Nat} {l : List Sp} {v : Value} (h : SeeUp Z B z w wr L R lk i a n c l v) (hb : Below wr.heap.size wr w') : SeeUp Z B z w w' L R lk i a n c l v :=
  ⟨h.blk.stay hb, h.ok.below hb, h.ty.below hb, h.az, h.its.below hb, h.at_, h.bel.trans (hb.mono h.bel.size), Nat.le_trans h.hB hb.size, h.zB, h.zl⟩
theorem SeeUp.free {B z : Nat} {w wr : World} {L : List Sp} {R : List (It × Bd)} {lk : Int} {i : Nat} {a : Option Addr} {n c : Nat} {l : List Sp} {v : Value} (h : SeeUp Z B z w wr L R lk i a n c l v) {ad : Addr} (e : a = some ad) : some ad.block ≠ v.ownBlock := fun e2 => by
  rcases (h.ty ad e).2 with h1 | ⟨cs, m, h1⟩
  · have := (h.its.row.lt _ e2.symm).1
    omega
  · rcases h.its.row.2 with ⟨h3, _⟩ | ⟨g, c', cur, h3, _, h4, _⟩
    · rw [h3] at e2; cases e2
    · rw [h3] at e2
      simp only [Value.ownBlock, Option.some.injEq] at e2
      rw [e2, h4] at h1
      simp only [Option.some.injEq, Obj.cells.injEq] at h1
      exact absurd h1.2.1 (by decide)
theorem TyS.other {B z i : Nat} {w : World} {a : Option Addr} {u : Value} {cs : Array Value} (h : TyS B w a) (hk : Bk w z cs 51) : TyS B (w.setCell ⟨z, i, none⟩ u) a := fun ad e => by
  obtain ⟨h1, h2⟩ := h ad e
  refine ⟨by rw [World.size_setCell]; exact h1, ?_⟩
  rcases h2 with h2 | ⟨cs, m, h2⟩
  · exact .inl h2
  · refine .inr ⟨cs, m, ?_⟩
    rw [heap_setCell_other w ⟨z, i, none⟩ _ _ (fun e2 => ?_)]
    · exact h2
    · have e2 : ad.block = z := e2
      have h3 : w.heap[z]? = some (.cells _ 51 (0, 0)) := hk
      rw [e2, h3] at h2
      simp only [Option.some.injEq, Obj.cells.injEq] at h2
      exact absurd h2.2.1 (by decide)
/-- An item more is seen. -/
theorem SeeUp.item {B z : Nat} {w wr w5 : World} {L : List Sp} {R : List (It × Bd)} {lk : Int} {i : Nat} {a : Option Addr} {n c : Nat} {l : List Sp} {v v5 : Value} (h : SeeUp Z B z w wr L R lk i a n c l v) {x : It × Bd} (hx : R[i]? = some x) (hh : hitB lk x.1 = true) (hK : Kn L (R.map Prod.fst)) (hr : Ros Z w5 B v5 (seenR lk (R.take i) ++ [x])) (hg : wr.grownBy w5 v.ownBlock) (hb : Below B wr w5) (hBw : w.heap.size ≤ B) : SeeUp Z B z w (w5.setCell ⟨z, 1, none⟩ v5) L R lk (i + 1) a n c l v5 := by
  have htk : R.take (i + 1) = R.take i ++ [x] := by rw [List.take_add_one, hx]; rfl
  have htm : (R.map Prod.fst).take (i + 1) = (R.map Prod.fst).take i ++ [x.1] := by rw [List.take_add_one, List.getElem?_map, hx]; rfl
  have hzn : some z ≠ v.ownBlock := fun e => by have := (h.its.row.lt z e.symm).1; have := h.zB; omega
  have hk5 : Bk w5 z #[.slice a n c, v] 51 := h.blk.grown hg hzn
  have hni : ¬ HasInt w5 z := by
    obtain ⟨a', c', rfl, _⟩ := h.its.form
    exact not_int hk5 (by decide) fun o kd zz => by
      match o with
      | 0 => exact fun h => (by cases h)
      | 1 => exact fun h => (by cases h)
      | o + 2 => exact fun h => (by simp at h)
  have hsame : ∀ ad, a = some ad → w5.heap[ad.block]? = wr.heap[ad.block]? := fun ad e => hg.block _ (h.ty ad e).1 (h.free e)
  have hok5 : MapOk w5 a n c l := ⟨h.ok.rd.same hg.size fun ad e _ => hsame ad e, h.ok.lc, h.ok.cm, h.ok.right⟩
  have hty5 : TyS B w5 a := fun ad e => by
    obtain ⟨h1, h2⟩ := h.ty ad e
    refine ⟨Nat.lt_of_lt_of_le h1 hg.size, ?_⟩
    rw [hsame ad e]
    exact h2
  have htw : Two z z w5 (w5.setCell ⟨z, 1, none⟩ v5) := (Two.refl z z w5).setCell 1 _
  refine ⟨hk5.set 1 _, hok5.away htw hni, hty5.other hk5, h.az, ?_, fun u => ?_, ?_, by rw [World.size_setCell]; exact Nat.le_trans h.hB hg.size, h.zB, h.zl⟩
  · rw [htk, seenR_snoc, if_pos hh]
    exact hr.under z 1 _ h.zB hni
  · rw [h.at_ u, htm, seenK_snoc (by rw [← htm]; exact hK.sub (List.take_sublist _ _)), if_pos hh]
  · exact (h.bel.trans (hb.mono hBw)).setCell h.zl _
/-- An item that is not seen is silence. -/
theorem SeeUp.hush {B z : Nat} {w wr w4 : World} {L : List Sp} {R : List (It × Bd)} {lk : Int} {i : Nat} {a : Option Addr} {n c : Nat} {l : List Sp} {v : Value} (h : SeeUp Z B z w wr L R lk i a n c l v) {x : It × Bd} (hx : R[i]? = some x) (hh : hitB lk x.1 = false) (hK : Kn L (R.map Prod.fst)) {a4 : Option Addr} {n4 c4 : Nat} {l4 : List Sp} (hm : MapOk w4 a4 n4 c4 l4) (ha : ∀ ad, a4 = some ad → wr.heap.size ≤ ad.block ∧ ∃ cs m, w4.heap[ad.block]? = some (.cells cs 62 m)) (ht : ∀ t, atS l4 t = max (atS l t) (atS [⟨x.1.tick, x.1.tick, 2⟩] t)) (hb : Below wr.heap.size wr w4) (hz : ∀ k, wr.heap.size ≤ k → Z k) : SeeUp Z B z w (w4.setCell ⟨z, 0, none⟩ (.slice a4 n4 c4)) L R lk (i + 1) a4 n4 c4 l4 v := by
  have h4 := h.below hb
  have htk : R.take (i + 1) = R.take i ++ [x] := by rw [List.take_add_one, hx]; rfl
  have htm : (R.map Prod.fst).take (i + 1) = (R.map Prod.fst).take i ++ [x.1] := by rw [List.take_add_one, List.getElem?_map, hx]; rfl
  have htw : Two z z w4 (w4.setCell ⟨z, 0, none⟩ (.slice a4 n4 c4)) := (Two.refl z z w4).setCell 0 _
  have hty : TyS B w4 a4 := fun ad e => by
    obtain ⟨h1, cs, m, h2⟩ := ha ad e
    exact ⟨(Array.getElem?_eq_some_iff.1 h2).1, .inr ⟨cs, m, h2⟩⟩
  have hn : ¬ hitB lk x.1 = true := by rw [hh]; decide
  refine ⟨h4.blk.set 0 _, hm.away htw h4.noInt, hty.other h4.blk, fun ad e => hz _ (ha ad e).1, ?_, fun u => ?_, h4.bel.setCell h.zl _, by rw [World.size_setCell]; exact h4.hB, h.zB, h.zl⟩
  · rw [htk, seenR_snoc, if_neg hn, List.append_nil]
    exact h4.its.under z 0 _ h.zB h4.noInt
  · rw [ht u, h.at_ u, htm, seenK_snoc (by rw [← htm]; exact hK.sub (List.take_sublist _ _)), if_neg hn]
    congr 1
    show (if x.1.tick ≤ u ∧ u ≤ x.1.tick then (2 : Int) else 0) = _
    by_cases e : u = x.1.tick
    · rw [if_pos e, if_pos (by omega)]
    · rw [if_neg e, if_neg (by omega)]
theorem one_right2 {t : Int} (ht : 1 ≤ t ∧ t ≤ 1099511627776) : RightS Sp.zr [⟨t, t, 2⟩] := ⟨by show (0 : Int) < t; omega, Int.le_refl _, ht.2, (by decide : (1 : Int) ≤ 2), (by decide : (2 : Int) ≤ 3), fun h => (by have : (2 : Int) = 0 := h.2; cases this), trivial⟩
/-- What Seen tells. -/
def SeenTold (Z : Nat → Prop) (L : List Sp) (R : List (It × Bd)) (lk : Int) (w : World) (e : Ending) (w' : World) : Prop := ∃ z L1 la ln lc xa xn xc, e = .returned (.pointer (some ⟨z, 0, none⟩)) ∧ Seen L (R.map Prod.fst) lk L1 ∧ Rst Z w' z L1 (seenR lk R) la ln lc xa xn xc ∧ w.heap.size ≤ z ∧ Below w.heap.size w w'
set_option maxHeartbeats 4000000 in
theorem ref_Seen {w : World} {y : Nat} {L : List Sp} {R : List (It × Bd)} {la : Option Addr} {ln lc : Nat} {xa : Option Addr} {xn xc : Nat} (h : Rst Z w y L R la ln lc xa xn xc) (hK : Kn L (R.map Prod.fst)) (hX : xn ≤ 1000000) {lk : Int} (hlk : 0 ≤ lk ∧ lk ≤ 4294967295) :
    Calls Tryz.prog 14 #[.pointer (some ⟨y, 0, none⟩), .int .u32 lk] w fun e w' => SeenTold Z L R lk w e w' := by
  have HS : Hid (Rst Z w y L R la ln lc xa xn xc) := h
  have HK : Hid (Kn L (R.map Prod.fst)) := hK
  have HRL : Hid (R.length = xn) := h.its.size
  have c0 : w.cell? ⟨y, 0, none⟩ = some (.slice la ln lc) := h.blk.cell 0 rfl
  obtain ⟨POST, HPO⟩ : ∃ P : Ending → World → Prop, Hid (P = fun e w' => SeenTold Z L R lk w e w') := ⟨_, rfl⟩
  have hpost : (fun e w' => SeenTold Z L R lk w e w') = fun e w' => POST e w' := HPO.out.symm
  rw [hpost]
  have HL0 : Hid (0 ≤ lk ∧ lk ≤ 4294967295) := hlk
  obtain ⟨W1, HW1⟩ : ∃ W1, Hid (W1 = w.alloc (.cells #[.slice la ln lc, .slice none 0 0] 51)) := ⟨_, rfl⟩
  have HX1 : Hid (Below w.heap.size w W1) := by (show Below _ _ _); rw [HW1.out]; exact below_new w _
  have HK1 : Hid (Bk W1 w.heap.size #[.slice la ln lc, .slice none 0 0] 51) := by (show Bk _ _ _ _); rw [HW1.out]; exact Bk.new w _ _
  have HU0 : Hid (SeeUp Z W1.heap.size w.heap.size w W1 L R lk 0 la ln lc L (.slice none 0 0)) :=
    ⟨HK1.out, h.ok.below HX1.out, fun ad e => ⟨Nat.lt_of_lt_of_le (h.lt ad e) HX1.out.size, .inl (Nat.lt_of_lt_of_le (h.lt ad e) HX1.out.size)⟩, h.lz, Ros.nil_ _ _, fun u => rfl, HX1.out, Nat.le_refl _, HK1.out.lt, Nat.le_refl _⟩
  obtain ⟨z, HZ⟩ : ∃ z, Hid (z = w.heap.size) := ⟨_, rfl⟩
  have HU0 : Hid (SeeUp Z W1.heap.size z w W1 L R lk 0 la ln lc L (.slice none 0 0)) := by (show SeeUp _ _ _ _ _ _ _ _ _ _ _ _ _ _); rw [HZ.out]; exact HU0.out
  clear hpost h hK hlk HK1
  go_enter Tryz.func14, Tryz.ntmps14
  go_upto_region 2 with fail
  rw [← HW1.out, ← HZ.out]
  clear c0
  go_wp2
  go_loopw [6] (fun t6 wr => ∃ (i : Nat) (a : Option Addr) (n c : Nat) (l : List Sp) (v : Value), t6 = .int .i64 (i : Int) ∧ i ≤ xn ∧ Hid (SeeUp Z W1.heap.size z w wr L R lk i a n c l v)) (fun t6 _ => xn - (intOf t6).toNat)
  case atStart => exact ⟨0, la, ln, lc, L, _, rfl, Nat.zero_le _, HU0⟩
  case round =>
    obtain ⟨i, a, n, c, l, v, rfl, hi, HU⟩ := hrel
    have HSR : Hid (Rst Z wr y L R la ln lc xa xn xc) := HS.out.stay HU.out.bel
    have c1 : wr.cell? ⟨y, 1, none⟩ = some (.slice xa xn xc) := HSR.out.blk.cell 1 rfl
    obtain ⟨va, vc, hv, _⟩ := HU.out.its.form
    obtain ⟨vn, HVN⟩ : ∃ vn, Hid ((seenR lk (R.take i)).length = vn) := ⟨_, rfl⟩
    rw [HVN.out] at hv
    subst hv
    have HZ0 : Hid (z < wr.heap.size) := Nat.lt_of_lt_of_le HU.out.zB HU.out.hB
    by_cases hlt : i < xn
    · have hlt' : (i : Int) < (xn : Int) := by omega
      have gi : (0 : Int) ≤ (i : Int) := by omega
      obtain ⟨g, o, rfl, hg, x, hx, d0, d1, d2⟩ := HSR.out.its.at_ i hlt
      have HXI : Hid (R[i]? = some x) := hx
      have HBD : Hid (BdT Z wr x.2 x.1.body ∧ ItIn x.1) := ⟨HSR.out.its.bod x (List.mem_of_getElem? hx), HSR.out.its.each x (List.mem_of_getElem? hx)⟩
      have HET : Hid (1 ≤ x.1.tick ∧ x.1.tick ≤ 1099511627776) := (HK.out.each x.1 (List.mem_map.2 ⟨x, List.mem_of_getElem? hx, rfl⟩)).1
      have HNL : Hid ((seenR lk (R.take i)).length ≤ 1000000000000) := by
        (show _ ≤ _)
        have h1 : (seenR lk (R.take i)).length ≤ (R.take i).length := List.length_filter_le _ _
        rw [List.length_take] at h1
        omega
      have HYZ : Hid (y ≠ z) := by (show _ ≠ _); have := HS.out.blk.lt; have := HU.out.zl; omega
      clear hx
      obtain ⟨⟨qt, qf, qb⟩, ba, bl, bc⟩ := x
      simp only at d0 d1 d2 HET
      by_cases hh : bits .and .u32 qf lk = 0
      · have HH : Hid (hitB lk ⟨qt, qf, qb⟩ = false) := decide_eq_false (by show ¬ bits .and .u32 qf lk ≠ 0; exact fun h => h hh)
        have e1 : wr.drew.cell? ⟨y, 1, none⟩ = some (.slice (some ⟨g, o, none⟩) xn xc) := c1
        have e2 : wr.drew.cell? ⟨g, o + i * 3, none⟩ = some (.int .i64 qt) := d0
        have e3 : wr.drew.cell? ⟨z, 0, none⟩ = some (.slice a n c) := HU.out.blk.cell 0 rfl
        go_upto_region 7 with fail
        clear c1 d0 d1 d2
        refine wp_region_held_drew (S := fun w' => w'.cell? ⟨y, 1, none⟩ = some (.slice (some ⟨g, o, none⟩) xn xc) ∧ w'.cell? ⟨g, o + i * 3, none⟩ = some (.int .i64 qt)) (by kernel_rfl) (⟨e1, e2⟩) (fun hHeld => ?_)
        obtain ⟨wd, HWD⟩ : ∃ W, Hid (W = wr.drew) := ⟨_, rfl⟩
        rw [← HWD.out] at hHeld ⊢
        have HBd : Hid (Below wr.heap.size wr wd) := by (show Below _ _ _); rw [HWD.out]; exact (Below.refl _ _).drew
        have HUd : Hid (SeeUp Z W1.heap.size z w wd L R lk i a n c l (.slice va vn vc)) := HU.out.below HBd.out
        have HSd : Hid (Rst Z wd y L R la ln lc (some ⟨g, o, none⟩) xn xc) := HSR.out.stay HBd.out
        have HGd : Hid (g < wd.heap.size) := Nat.lt_of_lt_of_le hg HBd.out.size
        clear e1 e2 e3
        refine take_putH (i := 0) (v := ?_) (some 50) rfl (by kernel_rfl) (by kernel_rfl) (by kernel_rfl) (by kernel_rfl) (fun _ _ _ h => h) (Or.inl ⟨by rfl, ?_⟩) hHeld ?_
        rotate_left
        · (intro wS hSw; obtain ⟨z0, z1⟩ := hSw; go_simp; try with_reducible rfl)
        try simp only [Act.put, List.setIfInBounds_toArray, List.set_cons_zero, List.set_cons_succ]
        refine take_putH (i := 1) (v := ?_) (some 51) rfl (by kernel_rfl) (by kernel_rfl) (by kernel_rfl) (by kernel_rfl) (fun _ _ _ h => h) (Or.inl ⟨by rfl, ?_⟩) hHeld ?_
        rotate_left
        · (intro wS hSw; obtain ⟨z0, z1⟩ := hSw; go_simp; try with_reducible rfl)
        try simp only [Act.put, List.setIfInBounds_toArray, List.set_cons_zero, List.set_cons_succ]
        refine take_putH (i := 2) (v := ?_) (some 52) rfl (by kernel_rfl) (by kernel_rfl) (by kernel_rfl) (by kernel_rfl) (fun _ _ _ h => h) (Or.inl ⟨by rfl, ?_⟩) hHeld ?_
        rotate_left
        · (intro wS hSw; obtain ⟨z0, z1⟩ := hSw; go_simp; try with_reducible rfl)
        try simp only [Act.put, List.setIfInBounds_toArray, List.set_cons_zero, List.set_cons_succ]
        refine take_putH (i := 3) (v := ?_) (some 53) rfl (by kernel_rfl) (by kernel_rfl) (by kernel_rfl) (by kernel_rfl) (fun _ _ _ h => h) (Or.inl ⟨by rfl, ?_⟩) hHeld ?_
        rotate_left
        · (intro wS hSw; obtain ⟨z0, z1⟩ := hSw; go_simp; try with_reducible rfl)
        try simp only [Act.put, List.setIfInBounds_toArray, List.set_cons_zero, List.set_cons_succ]
        refine take_putH (i := 5) (v := ?_) (some 55) rfl (by kernel_rfl) (by kernel_rfl) (by kernel_rfl) (by kernel_rfl) (fun _ _ _ h => h) (Or.inl ⟨by rfl, ?_⟩) hHeld ?_
        rotate_left
        · (intro wS hSw; obtain ⟨z0, z1⟩ := hSw; go_simp; try with_reducible rfl)
        try simp only [Act.put, List.setIfInBounds_toArray, List.set_cons_zero, List.set_cons_succ]
        refine take_putH (i := 6) (v := ?_) (some 56) rfl (by kernel_rfl) (by kernel_rfl) (by kernel_rfl) (by kernel_rfl) (fun _ _ _ h => h) (Or.inl ⟨by rfl, ?_⟩) hHeld ?_
        rotate_left
        · (intro wS hSw; obtain ⟨z0, z1⟩ := hSw; go_simp; try with_reducible rfl)
        try simp only [Act.put, List.setIfInBounds_toArray, List.set_cons_zero, List.set_cons_succ]
        refine take_putH (i := 7) (v := ?_) (some 57) rfl (by kernel_rfl) (by kernel_rfl) (by kernel_rfl) (by kernel_rfl) (fun _ _ _ h => h) (Or.inl ⟨by rfl, ?_⟩) hHeld ?_
        rotate_left
        · (intro wS hSw; obtain ⟨z0, z1⟩ := hSw; go_simp; try with_reducible rfl)
        try simp only [Act.put, List.setIfInBounds_toArray, List.set_cons_zero, List.set_cons_succ]
        refine take_putH (i := 8) (v := ?_) (some 58) rfl (by kernel_rfl) (by kernel_rfl) (by kernel_rfl) (by kernel_rfl) (fun _ _ _ h => h) (Or.inl ⟨by rfl, ?_⟩) hHeld ?_
        rotate_left
        · (intro wS hSw; obtain ⟨z0, z1⟩ := hSw; go_simp; try with_reducible rfl)
        try simp only [Act.put, List.setIfInBounds_toArray, List.set_cons_zero, List.set_cons_succ]
        refine take_putH (i := 9) (v := ?_) (some 59) rfl (by kernel_rfl) (by kernel_rfl) (by kernel_rfl) (by kernel_rfl) (fun _ _ _ h => h) (Or.inl ⟨by rfl, ?_⟩) hHeld ?_
        rotate_left
        · (intro wS hSw; obtain ⟨z0, z1⟩ := hSw; go_simp; try with_reducible rfl)
        try simp only [Act.put, List.setIfInBounds_toArray, List.set_cons_zero, List.set_cons_succ]
        refine take_putH (i := 10) (v := ?_) (some 60) rfl (by kernel_rfl) (by kernel_rfl) (by kernel_rfl) (by kernel_rfl) (fun _ _ _ h => h) (Or.inl ⟨by rfl, ?_⟩) hHeld ?_
        rotate_left
        · (intro wS hSw; obtain ⟨z0, z1⟩ := hSw; go_simp; try with_reducible rfl)
        try simp only [Act.put, List.setIfInBounds_toArray, List.set_cons_zero, List.set_cons_succ]
        refine take_putH (i := 11) (v := ?_) (some 61) rfl (by kernel_rfl) (by kernel_rfl) (by kernel_rfl) (by kernel_rfl) (fun _ _ _ h => h) (Or.inl ⟨by rfl, ?_⟩) hHeld ?_
        rotate_left
        · (intro wS hSw; obtain ⟨z0, z1⟩ := hSw; go_simp; try with_reducible rfl)
        try simp only [Act.put, List.setIfInBounds_toArray, List.set_cons_zero, List.set_cons_succ]
        refine take_putH (i := 12) (v := ?_) (some 62) rfl (by kernel_rfl) (by kernel_rfl) (by kernel_rfl) (by kernel_rfl) (fun _ _ _ h => h) (Or.inl ⟨by rfl, ?_⟩) hHeld ?_
        rotate_left
        · (intro wS hSw; obtain ⟨z0, z1⟩ := hSw; go_simp; try with_reducible rfl)
        try simp only [Act.put, List.setIfInBounds_toArray, List.set_cons_zero, List.set_cons_succ]
        refine take_putH (i := 13) (v := ?_) (some 63) rfl (by kernel_rfl) (by kernel_rfl) (by kernel_rfl) (by kernel_rfl) (fun _ _ _ h => h) (Or.inl ⟨by rfl, ?_⟩) hHeld ?_
        rotate_left
        · (intro wS hSw; obtain ⟨z0, z1⟩ := hSw; go_simp; try with_reducible rfl)
        try simp only [Act.put, List.setIfInBounds_toArray, List.set_cons_zero, List.set_cons_succ]
        refine take_putH (i := 14) (v := ?_) (some 64) rfl (by kernel_rfl) (by kernel_rfl) (by kernel_rfl) (by kernel_rfl) (fun _ _ _ h => h) (Or.inl ⟨by rfl, ?_⟩) hHeld ?_
        rotate_left
        · (intro wS hSw; obtain ⟨z0, z1⟩ := hSw; go_simp; try with_reducible rfl)
        try simp only [Act.put, List.setIfInBounds_toArray, List.set_cons_zero, List.set_cons_succ]
        refine take_putH (i := 15) (v := ?_) (some 65) rfl (by kernel_rfl) (by kernel_rfl) (by kernel_rfl) (by kernel_rfl) (fun _ _ _ h => h) (Or.inl ⟨by rfl, ?_⟩) hHeld ?_
        rotate_left
        · (intro wS hSw; obtain ⟨z0, z1⟩ := hSw; go_simp; try with_reducible rfl)
        try simp only [Act.put, List.setIfInBounds_toArray, List.set_cons_zero, List.set_cons_succ]
        refine take_putH (i := 16) (v := ?_) (some 66) rfl (by kernel_rfl) (by kernel_rfl) (by kernel_rfl) (by kernel_rfl) (fun _ _ _ h => h) (Or.inl ⟨by rfl, ?_⟩) hHeld ?_
        rotate_left
        · (intro wS hSw; obtain ⟨z0, z1⟩ := hSw; go_simp; try with_reducible rfl)
        try simp only [Act.put, List.setIfInBounds_toArray, List.set_cons_zero, List.set_cons_succ]
        refine take_putH (i := 17) (v := ?_) (some 67) rfl (by kernel_rfl) (by kernel_rfl) (by kernel_rfl) (by kernel_rfl) (fun _ _ _ h => h) (Or.inl ⟨by rfl, ?_⟩) hHeld ?_
        rotate_left
        · (intro wS hSw; obtain ⟨z0, z1⟩ := hSw; go_simp; try with_reducible rfl)
        try simp only [Act.put, List.setIfInBounds_toArray, List.set_cons_zero, List.set_cons_succ]
        refine take_putH (i := 18) (v := ?_) (some 68) rfl (by kernel_rfl) (by kernel_rfl) (by kernel_rfl) (by kernel_rfl) (fun _ _ _ h => h) (Or.inl ⟨by rfl, ?_⟩) hHeld ?_
        rotate_left
        · (intro wS hSw; obtain ⟨z0, z1⟩ := hSw; go_simp; try with_reducible rfl)
        try simp only [Act.put, List.setIfInBounds_toArray, List.set_cons_zero, List.set_cons_succ]
        refine take_putH (i := 19) (v := ?_) (some 69) rfl (by kernel_rfl) (by kernel_rfl) (by kernel_rfl) (by kernel_rfl) (fun _ _ _ h => h) (Or.inl ⟨by rfl, ?_⟩) hHeld ?_
        rotate_left
        · (intro wS hSw; obtain ⟨z0, z1⟩ := hSw; go_simp; try with_reducible rfl)
        try simp only [Act.put, List.setIfInBounds_toArray, List.set_cons_zero, List.set_cons_succ]
        refine take_putH (i := 20) (v := ?_) (some 70) rfl (by kernel_rfl) (by kernel_rfl) (by kernel_rfl) (by kernel_rfl) (fun _ _ _ h => h) (Or.inl ⟨by rfl, ?_⟩) hHeld ?_
        rotate_left
        · (intro wS hSw; obtain ⟨z0, z1⟩ := hSw; go_simp; try with_reducible rfl)
        try simp only [Act.put, List.setIfInBounds_toArray, List.set_cons_zero, List.set_cons_succ]
        refine take_putH (i := 21) (v := ?_) (some 71) rfl (by kernel_rfl) (by kernel_rfl) (by kernel_rfl) (by kernel_rfl) (fun _ _ _ h => h) (Or.inl ⟨by rfl, ?_⟩) hHeld ?_
        rotate_left
        · (intro wS hSw; obtain ⟨z0, z1⟩ := hSw; go_simp; try with_reducible rfl)
        try simp only [Act.put, List.setIfInBounds_toArray, List.set_cons_zero, List.set_cons_succ]
        have hH0 : Hid (wd.cell? ⟨y, 1, none⟩ = some (.slice (some ⟨g, o, none⟩) xn xc) ∧ wd.cell? ⟨g, o + i * 3, none⟩ = some (.int .i64 qt)) := hHeld
        clear hHeld
        obtain ⟨W3, HW3⟩ : ∃ W3, Hid (W3 = wd.alloc (.cells #[.int .i64 qt, .int .i64 qt, .int .i64 2] 62)) := ⟨_, rfl⟩
        have HB3 : Hid (Below wd.heap.size wd W3) := by (show Below _ _ _); rw [HW3.out]; exact below_new wd _
        have HO3 : Hid (MapOk W3 (some ⟨wd.heap.size, 0, none⟩) 1 1 [⟨qt, qt, 2⟩]) := by
          (show MapOk _ _ _ _ _)
          have hbk : Bk W3 wd.heap.size (Sp.cells ⟨qt, qt, 2⟩) 62 := by rw [HW3.out]; exact Bk.new wd _ _
          exact ⟨(Sps.one (base := 0) hbk (Nat.zero_le _)).rd, Nat.le_refl _, by decide, one_right2 HET.out⟩
        have hH3 : Hid (W3.cell? ⟨y, 1, none⟩ = some (.slice (some ⟨g, o, none⟩) xn xc) ∧ W3.cell? ⟨g, o + i * 3, none⟩ = some (.int .i64 qt)) := ⟨(HSd.out.stay HB3.out).blk.cell 1 rfl, (HB3.out.cell (p := ⟨g, o + i * 3, none⟩) HGd.out).trans hH0.out.2⟩
        refine wpAnyH_ready (rs := [4, 22]) (by kernel_rfl) (by simp) ?_
        refine AllReadyH.cons rfl (fun K hK => ?_) (AllReadyH.cons rfl (fun K hK => ?_) AllReadyH.nil)
        · have cl : wd.cell? ⟨z, 0, none⟩ = some (.slice a n c) := HUd.out.blk.cell 0 rfl
          go_simp
          clear cl
          refine hK.out _ _ hH0.out (fun _ => ?_)
          clear hK K
          try simp only [Act.put, List.getElem_toArray, List.getElem_cons_succ, List.getElem_cons_zero, List.setIfInBounds_toArray, List.set_cons_zero, List.set_cons_succ]
          refine wpAnyH_ready (rs := [22]) (by kernel_rfl) (by simp) ?_
          refine AllReadyH.cons rfl (fun K hK => ?_) AllReadyH.nil
          go_simp
          rw [← HW3.out]
          refine hK.out _ _ hH3.out (fun _ => ?_)
          clear hK K
          try simp only [Act.put, List.getElem_toArray, List.getElem_cons_succ, List.getElem_cons_zero, List.setIfInBounds_toArray, List.set_cons_zero, List.set_cons_succ]
          refine wpAnyH_ready (rs := [23]) (by kernel_rfl) (by simp) ?_
          refine AllReadyH.cons rfl (fun K hK => ?_) AllReadyH.nil
          go_simp
          refine (ref_Join_ty (HUd.out.ok.below HB3.out) HO3.out).mono ?_
          rintro e w4 ⟨⟨a4, n4, c4, l4, rfl, HM4, HA4, HT4⟩, hb4⟩
          have HB4 : Hid (Below wd.heap.size wd w4) := HB3.out.trans (hb4.mono HB3.out.size)
          have hH4 : Hid (w4.cell? ⟨y, 1, none⟩ = some (.slice (some ⟨g, o, none⟩) xn xc) ∧ w4.cell? ⟨g, o + i * 3, none⟩ = some (.int .i64 qt)) := ⟨(HSd.out.stay HB4.out).blk.cell 1 rfl, (HB4.out.cell (p := ⟨g, o + i * 3, none⟩) HGd.out).trans hH0.out.2⟩
          clear hb4
          refine hK.out _ _ hH4.out (fun _ => ?_)
          clear hK K
          try simp only [Act.put, List.getElem_toArray, List.getElem_cons_succ, List.getElem_cons_zero, List.setIfInBounds_toArray, List.set_cons_zero, List.set_cons_succ]
          refine take_putH (i := 24) (v := ?_) (some 49) rfl (by kernel_rfl) (by kernel_rfl) (by kernel_rfl) (by kernel_rfl) (fun _ _ _ h => h) (Or.inl ⟨by rfl, ?_⟩) hH4.out ?_
          rotate_left
          · (intro wS hSw; obtain ⟨z0, z1⟩ := hSw; go_simp; try with_reducible rfl)
          try simp only [Act.put, List.setIfInBounds_toArray, List.set_cons_zero, List.set_cons_succ]
          refine take_putH (i := 25) (v := ?_) (some 74) rfl (by kernel_rfl) (by kernel_rfl) (by kernel_rfl) (by kernel_rfl) (fun _ _ _ h => h) (Or.inl ⟨by rfl, ?_⟩) hH4.out ?_
          rotate_left
          · (intro wS hSw; obtain ⟨z0, z1⟩ := hSw; go_simp; try with_reducible rfl)
          try simp only [Act.put, List.setIfInBounds_toArray, List.set_cons_zero, List.set_cons_succ]
          refine take_putH (i := 26) (v := ?_) (some 75) rfl (by kernel_rfl) (by kernel_rfl) (by kernel_rfl) (by kernel_rfl) (fun _ _ _ h => h) (Or.inl ⟨by rfl, ?_⟩) hH4.out ?_
          rotate_left
          · (intro wS hSw; obtain ⟨z0, z1⟩ := hSw; go_simp; try with_reducible rfl)
          try simp only [Act.put, List.setIfInBounds_toArray, List.set_cons_zero, List.set_cons_succ]
          refine take_putH (i := 27) (v := ?_) (some 76) rfl (by kernel_rfl) (by kernel_rfl) (by kernel_rfl) (by kernel_rfl) (fun _ _ _ h => h) (Or.inl ⟨by rfl, ?_⟩) hH4.out ?_
          rotate_left
          · (intro wS hSw; obtain ⟨z0, z1⟩ := hSw; go_simp; try with_reducible rfl)
          try simp only [Act.put, List.setIfInBounds_toArray, List.set_cons_zero, List.set_cons_succ]
          refine take_putH (i := 28) (v := ?_) (some 77) rfl (by kernel_rfl) (by kernel_rfl) (by kernel_rfl) (by kernel_rfl) (fun _ _ _ h => h) (Or.inl ⟨by rfl, ?_⟩) hH4.out ?_
          rotate_left
          · (intro wS hSw; obtain ⟨z0, z1⟩ := hSw; go_simp; try with_reducible rfl)
          try simp only [Act.put, List.setIfInBounds_toArray, List.set_cons_zero, List.set_cons_succ]
          have m0 : w4.cell? ⟨z, 0, none⟩ = some (.slice a n c) := (HUd.out.blk.stay HB4.out).cell 0 rfl
          have mf : w4.frozen? ⟨z, 0, none⟩ = false := (HUd.out.blk.stay HB4.out).free 0
          obtain ⟨w5, HW5⟩ : ∃ W, Hid (W = w4.setCell ⟨z, 0, none⟩ (.slice a4 n4 c4)) := ⟨_, rfl⟩
          have HUN : Hid (SeeUp Z W1.heap.size z w w5 L R lk (i + 1) a4 n4 c4 l4 (.slice va vn vc)) := by (show SeeUp _ _ _ _ _ _ _ _ _ _ _ _ _ _); rw [HW5.out]; exact HUd.out.hush HXI.out HH.out HK.out HM4.out (fun ad e => ⟨Nat.le_trans HB3.out.size (HA4.out ad e).1, (HA4.out ad e).2⟩) HT4.out HB4.out HSd.out.zz
          have hH5 : Hid (w5.cell? ⟨y, 1, none⟩ = some (.slice (some ⟨g, o, none⟩) xn xc) ∧ w5.cell? ⟨g, o + i * 3, none⟩ = some (.int .i64 qt)) := by
            have ht : Two z z w4 w5 := by rw [HW5.out]; exact (Two.refl z z w4).setCell 0 _
            have h5 : Rst Z w5 y L R la ln lc (some ⟨g, o, none⟩) xn xc := (HSd.out.stay HB4.out).away ht (HUd.out.below HB4.out).noInt HYZ.out
            exact ⟨h5.blk.cell 1 rfl, (cell_same (ht.ints (HUd.out.below HB4.out).noInt g (Nat.lt_of_lt_of_le HGd.out HB4.out.size) (.inl ⟨_, _, _, hH4.out.2⟩)) _).trans hH4.out.2⟩
          refine wpAnyH_ready (rs := [29]) (by kernel_rfl) (by simp) ?_
          refine AllReadyH.cons rfl (fun K hK => ?_) AllReadyH.nil
          go_simp
          rw [← HW5.out]
          refine hK.out _ _ hH5.out (fun _ => ?_)
          clear hK K
          try simp only [Act.put, List.getElem_toArray, List.getElem_cons_succ, List.getElem_cons_zero, List.setIfInBounds_toArray, List.set_cons_zero, List.set_cons_succ]
          refine wpAnyH_done (by kernel_rfl) ?_ _
          clear m0 mf hH0 hH3 hH4 hH5
          go_wp2
          go_roundw
          case rel => exact ⟨i + 1, a4, n4, c4, l4, _, by go_num, by omega, HUN⟩
          case measure => simp [intOf]; omega
        · go_simp
          rw [← HW3.out]
          refine hK.out _ _ hH3.out (fun _ => ?_)
          clear hK K
          try simp only [Act.put, List.getElem_toArray, List.getElem_cons_succ, List.getElem_cons_zero, List.setIfInBounds_toArray, List.set_cons_zero, List.set_cons_succ]
          refine wpAnyH_ready (rs := [4]) (by kernel_rfl) (by simp) ?_
          refine AllReadyH.cons rfl (fun K hK => ?_) AllReadyH.nil
          have cl : W3.cell? ⟨z, 0, none⟩ = some (.slice a n c) := (HUd.out.blk.stay HB3.out).cell 0 rfl
          go_simp
          clear cl
          refine hK.out _ _ hH3.out (fun _ => ?_)
          clear hK K
          try simp only [Act.put, List.getElem_toArray, List.getElem_cons_succ, List.getElem_cons_zero, List.setIfInBounds_toArray, List.set_cons_zero, List.set_cons_succ]
          refine wpAnyH_ready (rs := [23]) (by kernel_rfl) (by simp) ?_
          refine AllReadyH.cons rfl (fun K hK => ?_) AllReadyH.nil
          go_simp
          refine (ref_Join_ty (HUd.out.ok.below HB3.out) HO3.out).mono ?_
          rintro e w4 ⟨⟨a4, n4, c4, l4, rfl, HM4, HA4, HT4⟩, hb4⟩
          have HB4 : Hid (Below wd.heap.size wd w4) := HB3.out.trans (hb4.mono HB3.out.size)
          have hH4 : Hid (w4.cell? ⟨y, 1, none⟩ = some (.slice (some ⟨g, o, none⟩) xn xc) ∧ w4.cell? ⟨g, o + i * 3, none⟩ = some (.int .i64 qt)) := ⟨(HSd.out.stay HB4.out).blk.cell 1 rfl, (HB4.out.cell (p := ⟨g, o + i * 3, none⟩) HGd.out).trans hH0.out.2⟩
          clear hb4
          refine hK.out _ _ hH4.out (fun _ => ?_)
          clear hK K
          try simp only [Act.put, List.getElem_toArray, List.getElem_cons_succ, List.getElem_cons_zero, List.setIfInBounds_toArray, List.set_cons_zero, List.set_cons_succ]
          refine take_putH (i := 24) (v := ?_) (some 49) rfl (by kernel_rfl) (by kernel_rfl) (by kernel_rfl) (by kernel_rfl) (fun _ _ _ h => h) (Or.inl ⟨by rfl, ?_⟩) hH4.out ?_
          rotate_left
          · (intro wS hSw; obtain ⟨z0, z1⟩ := hSw; go_simp; try with_reducible rfl)
          try simp only [Act.put, List.setIfInBounds_toArray, List.set_cons_zero, List.set_cons_succ]
          refine take_putH (i := 25) (v := ?_) (some 74) rfl (by kernel_rfl) (by kernel_rfl) (by kernel_rfl) (by kernel_rfl) (fun _ _ _ h => h) (Or.inl ⟨by rfl, ?_⟩) hH4.out ?_
          rotate_left
          · (intro wS hSw; obtain ⟨z0, z1⟩ := hSw; go_simp; try with_reducible rfl)
          try simp only [Act.put, List.setIfInBounds_toArray, List.set_cons_zero, List.set_cons_succ]
          refine take_putH (i := 26) (v := ?_) (some 75) rfl (by kernel_rfl) (by kernel_rfl) (by kernel_rfl) (by kernel_rfl) (fun _ _ _ h => h) (Or.inl ⟨by rfl, ?_⟩) hH4.out ?_
          rotate_left
          · (intro wS hSw; obtain ⟨z0, z1⟩ := hSw; go_simp; try with_reducible rfl)
          try simp only [Act.put, List.setIfInBounds_toArray, List.set_cons_zero, List.set_cons_succ]
          refine take_putH (i := 27) (v := ?_) (some 76) rfl (by kernel_rfl) (by kernel_rfl) (by kernel_rfl) (by kernel_rfl) (fun _ _ _ h => h) (Or.inl ⟨by rfl, ?_⟩) hH4.out ?_
          rotate_left
          · (intro wS hSw; obtain ⟨z0, z1⟩ := hSw; go_simp; try with_reducible rfl)
          try simp only [Act.put, List.setIfInBounds_toArray, List.set_cons_zero, List.set_cons_succ]
          refine take_putH (i := 28) (v := ?_) (some 77) rfl (by kernel_rfl) (by kernel_rfl) (by kernel_rfl) (by kernel_rfl) (fun _ _ _ h => h) (Or.inl ⟨by rfl, ?_⟩) hH4.out ?_
          rotate_left
          · (intro wS hSw; obtain ⟨z0, z1⟩ := hSw; go_simp; try with_reducible rfl)
          try simp only [Act.put, List.setIfInBounds_toArray, List.set_cons_zero, List.set_cons_succ]
          have m0 : w4.cell? ⟨z, 0, none⟩ = some (.slice a n c) := (HUd.out.blk.stay HB4.out).cell 0 rfl
          have mf : w4.frozen? ⟨z, 0, none⟩ = false := (HUd.out.blk.stay HB4.out).free 0
          obtain ⟨w5, HW5⟩ : ∃ W, Hid (W = w4.setCell ⟨z, 0, none⟩ (.slice a4 n4 c4)) := ⟨_, rfl⟩
          have HUN : Hid (SeeUp Z W1.heap.size z w w5 L R lk (i + 1) a4 n4 c4 l4 (.slice va vn vc)) := by (show SeeUp _ _ _ _ _ _ _ _ _ _ _ _ _ _); rw [HW5.out]; exact HUd.out.hush HXI.out HH.out HK.out HM4.out (fun ad e => ⟨Nat.le_trans HB3.out.size (HA4.out ad e).1, (HA4.out ad e).2⟩) HT4.out HB4.out HSd.out.zz
          have hH5 : Hid (w5.cell? ⟨y, 1, none⟩ = some (.slice (some ⟨g, o, none⟩) xn xc) ∧ w5.cell? ⟨g, o + i * 3, none⟩ = some (.int .i64 qt)) := by
            have ht : Two z z w4 w5 := by rw [HW5.out]; exact (Two.refl z z w4).setCell 0 _
            have h5 : Rst Z w5 y L R la ln lc (some ⟨g, o, none⟩) xn xc := (HSd.out.stay HB4.out).away ht (HUd.out.below HB4.out).noInt HYZ.out
            exact ⟨h5.blk.cell 1 rfl, (cell_same (ht.ints (HUd.out.below HB4.out).noInt g (Nat.lt_of_lt_of_le HGd.out HB4.out.size) (.inl ⟨_, _, _, hH4.out.2⟩)) _).trans hH4.out.2⟩
          refine wpAnyH_ready (rs := [29]) (by kernel_rfl) (by simp) ?_
          refine AllReadyH.cons rfl (fun K hK => ?_) AllReadyH.nil
          go_simp
          rw [← HW5.out]
          refine hK.out _ _ hH5.out (fun _ => ?_)
          clear hK K
          try simp only [Act.put, List.getElem_toArray, List.getElem_cons_succ, List.getElem_cons_zero, List.setIfInBounds_toArray, List.set_cons_zero, List.set_cons_succ]
          refine wpAnyH_done (by kernel_rfl) ?_ _
          clear m0 mf hH0 hH3 hH4 hH5
          go_wp2
          go_roundw
          case rel => exact ⟨i + 1, a4, n4, c4, l4, _, by go_num, by omega, HUN⟩
          case measure => simp [intOf]; omega
      · have HH : Hid (hitB lk ⟨qt, qf, qb⟩ = true) := decide_eq_true (by show bits .and .u32 qf lk ≠ 0; exact hh)
        have hne : ((bits .and .u32 qf lk) != 0) = true := by rw [bne_iff_ne]; exact hh
        have v1 : wr.cell? ⟨z, 1, none⟩ = some (.slice va vn vc) := HU.out.blk.cell 1 rfl
        have v1b : (wr.alloc (.cells #[.int .i64 qt, .int .u32 qf, .slice ba bl bc] 54)).cell? ⟨z, 1, none⟩ = some (.slice va vn vc) := (HU.out.blk.stay (below_new wr _)).cell 1 rfl
        obtain ⟨W4, HW4⟩ : ∃ W4, Hid (W4 = (wr.alloc (.cells #[.int .i64 qt, .int .u32 qf, .slice ba bl bc] 54)).drew) := ⟨_, rfl⟩
        have HB4 : Hid (Below wr.heap.size wr W4) := by (show Below _ _ _); rw [HW4.out]; exact (below_new wr _).drew
        have HN4 : Hid (Bk W4 wr.heap.size #[.int .i64 qt, .int .u32 qf, .slice ba bl bc] 54) := by (show Bk _ _ _ _); rw [HW4.out]; exact (Bk.new wr _ _).stay (Below.refl _ _).drew
        have HU4 : Hid (SeeUp Z W1.heap.size z w W4 L R lk i a n c l (.slice va vn vc)) := HU.out.below HB4.out
        have HBD4 : Hid (BdT Z W4 (ba, bl, bc) qb) := HBD.out.1.frame HB4.out.size fun k hk _ _ => HB4.out.block k hk
        clear hh
        go_upto_region 6 with fail
        go_region_law (refine step_append_ro (Z := Z) rfl (.tmp 37) (.tmp 45) rfl W1.heap.size _ (seenR lk (R.take i)) rfl (by rw [← HW4.out]; exact HU4.out.its) ⟨wr.heap.size, 0, none⟩ 1 (⟨qt, qf, qb⟩, ba, bl, bc) rfl (by rw [← HW4.out]; exact item_told HN4.out) (by rw [← HW4.out]; exact HBD4.out) HBD.out.2 HNL.out (by rw [← HW4.out]; exact HU4.out.hB) ?_; rw [← HW4.out]; intro v5 w5 hr5 hg5 hb5 hn5; have hk5 := HU4.out.blk.grown hg5 (fun e => by have := (HU4.out.its.row.lt z e.symm).1; have := HU4.out.zB; omega); have d8 : w5.cell? ⟨z, 1, none⟩ = some (.slice va vn vc) := hk5.cell 1 rfl; have f8 : w5.frozen? ⟨z, 1, none⟩ = false := hk5.free 1; have HR5 : Hid (Ros Z w5 W1.heap.size v5 (seenR lk (R.take i) ++ [(⟨qt, qf, qb⟩, ba, bl, bc)]) ∧ W4.grownBy w5 (Value.slice va vn vc).ownBlock ∧ Below W1.heap.size W4 w5) := ⟨hr5, hg5, hb5⟩; obtain ⟨a5, c5, hv5, _⟩ := hr5.form; obtain ⟨n5, hn5e⟩ : ∃ n, n = (seenR lk (R.take i) ++ [((⟨qt, qf, qb⟩ : It), ((ba, bl, bc) : Bd))]).length := ⟨_, rfl⟩; rw [← hn5e] at hv5; subst hv5; clear hr5 hg5 hb5 hn5 hk5 hn5e)
        all_goals (
          have HUN : Hid (SeeUp Z W1.heap.size z w (w5.setCell ⟨z, 1, none⟩ (.slice a5 n5 c5)) L R lk (i + 1) a n c l (.slice a5 n5 c5)) := HU4.out.item HXI.out HH.out HK.out HR5.out.1 HR5.out.2.1 HR5.out.2.2 HX1.out.size
          clear d8 f8 v1 v1b c1 d0 d1 d2
          go_wp2
          go_roundw
          case rel => exact ⟨i + 1, a, n, c, l, _, by go_num, by omega, HUN⟩
          case measure => simp [intOf]; omega)
    · have hnl : ¬ (i : Int) < (xn : Int) := by omega
      obtain rfl : i = xn := by omega
      go_wp2
      rw [HPO.out]
      have h1 := HU.out.its
      have h2 := HU.out.at_
      rw [← HRL.out, List.take_length] at h1
      have hxr : ((R.map Prod.fst).take i) = R.map Prod.fst := List.take_of_length_le (by rw [List.length_map, HRL.out]; exact Nat.le_refl _)
      rw [hxr] at h2
      obtain ⟨a2, c2, hv2, hl2, hm2, hn2, _⟩ := h1.form
      simp only [Value.slice.injEq] at hv2
      obtain ⟨rfl, hnn, rfl⟩ := hv2
      have hzz : ∀ k, W1.heap.size ≤ k → Z k := fun k hk => HS.out.zz k (Nat.le_trans HX1.out.size hk)
      exact ⟨z, l, a, n, c, va, vn, vc, rfl, ⟨HU.out.ok.right, h2⟩, ⟨HU.out.blk, HU.out.ok, HU.out.az, fun ad e => (HU.out.ty ad e).1, h1.rit hzz, by omega, hm2, hn2, fun k hk => HS.out.zz k (Nat.le_trans HU.out.bel.size hk)⟩, HU.out.zl, HU.out.bel⟩
end Go.Proofs.YtidihfhgnjkmaaaGreat
/- grapevineref15: Next. -/
namespace Go.Proofs.YtidihfhgnjkmaaaGreat
set_option maxRecDepth 100000
open Go.RowKit
variable {Z : Nat → Prop}

/-- The span of a tick. -/
def spanAt : List Sp → Int → Sp → Sp
  | [], _, s => s
  | q :: l, u, s => spanAt l u (if q.fr ≤ u ∧ u ≤ q.to then q else s)
theorem spanAt_none : ∀ (l : List Sp) (u : Int) (s : Sp), (∀ q ∈ l, ¬ (q.fr ≤ u ∧ u ≤ q.to)) → spanAt l u s = s
  | [], _, _, _ => rfl
  | q :: l, u, s, h => by
    rw [spanAt, if_neg (h q (List.mem_cons_self ..))]
    exact spanAt_none l u s fun r hr => h r (List.mem_cons_of_mem _ hr)
theorem spanAt_ok (u : Int) : ∀ (l : List Sp) (p s : Sp), RightS p l → (atS l u = 0 → spanAt l u s = s) ∧ (atS l u ≠ 0 → ∃ q ∈ l, spanAt l u s = q ∧ q.fr ≤ u ∧ u ≤ q.to ∧ q.is = atS l u)
  | [], _, _, _ => ⟨fun _ => rfl, fun h => absurd rfl h⟩
  | q :: l, p, s, ⟨a, b, c, d, e, f, g⟩ => by
    rw [atS, spanAt]
    by_cases hin : q.fr ≤ u ∧ u ≤ q.to
    · rw [if_pos hin, if_pos hin]
      refine ⟨fun h => by omega, fun _ => ⟨q, List.mem_cons_self .., spanAt_none l u q fun r hr hh => ?_, hin.1, hin.2, rfl⟩⟩
      have := right_each g hr
      omega
    · rw [if_neg hin, if_neg hin]
      obtain ⟨h1, h2⟩ := spanAt_ok u l q s g
      exact ⟨h1, fun h => (let ⟨r, hr, x⟩ := h2 h; ⟨r, List.mem_cons_of_mem _ hr, x⟩)⟩
theorem right_next : ∀ {L : List Sp} {p : Sp}, RightS p L → ∀ {q : Sp}, q ∈ L → atS L (q.to + 1) ≠ q.is
  | s :: L, p, ⟨a, b, c, d, e, f, g⟩, q, hq => by
    rw [atS]
    rcases List.mem_cons.1 hq with rfl | hq
    · rw [if_neg (by omega)]
      exact atS_next g (by omega)
    · have := right_each g hq
      rw [if_neg (by omega)]
      exact right_next g hq
theorem results_refNext {w : World} {tmps : Array Value} {g : Nat} {c0 c1 c2 c3 c4 c5 b : Value} (h6 : tmps[6]?.getD undef = .pointer (some ⟨g, 0, none⟩)) (h7 : tmps[7]?.getD undef = b) (k : Bk w g #[c0, c1, c2, c3, c4, c5] 64) : (results Tryz.f55 tmps).run Tryz.prog w = .ok (.tuple #[.agg #[c0, c1, c2, c3, c4, c5], b]) w := by
  have k0 : w.cell? ⟨g, 0, none⟩ = some c0 := k.cell 0 rfl
  have k1 : w.cell? ⟨g, 1, none⟩ = some c1 := k.cell 1 rfl
  have k2 : w.cell? ⟨g, 2, none⟩ = some c2 := k.cell 2 rfl
  have k3 : w.cell? ⟨g, 3, none⟩ = some c3 := k.cell 3 rfl
  have k4 : w.cell? ⟨g, 4, none⟩ = some c4 := k.cell 4 rfl
  have k5 : w.cell? ⟨g, 5, none⟩ = some c5 := k.cell 5 rfl
  simp [results, Tryz.results55, go_sem, h6, h7, k0, k1, k2, k3, k4, k5]
set_option maxHeartbeats 8000000 in
theorem ref_Next {w : World} {y : Nat} {L : List Sp} {R : List (It × Bd)} {la : Option Addr} {ln lc : Nat} {xa : Option Addr} {xn xc : Nat} (h : Rst Z w y L R la ln lc xa xn xc) (hK : Kn L (R.map Prod.fst)) (hX : xn ≤ 1000000) {t id lk : Int} (ht : 0 ≤ t ∧ t ≤ 1099511627776) (hid : 1 ≤ id ∧ id ≤ 32) (hlk : 0 ≤ lk ∧ lk ≤ 4294967295) (hsh : (2 : Int) ^ (id.toNat - 1) % 4294967296 = lk) :
    Calls Tryz.prog 55 #[.pointer (some ⟨y, 0, none⟩), .int .i64 t, .int .i64 id] w fun e w' => StepTold (kk L (R.map Prod.fst)) (getI (R.map Prod.fst)) lk t w.heap.size w e w' := by
  obtain ⟨W1, HW1⟩ : ∃ W1, Hid (W1 = w.alloc (.cells #[.int .i64 0, .int .i64 0, .int .i64 0, .int .i64 0, .int .u32 0, .slice none 0 0] 64)) := ⟨_, rfl⟩
  have HX1 : Hid (Below w.heap.size w W1) := by (show Below _ _ _); rw [HW1.out]; exact below_new w _
  have HK1 : Hid (Bk W1 w.heap.size #[.int .i64 0, .int .i64 0, .int .i64 0, .int .i64 0, .int .u32 0, .slice none 0 0] 64) := by (show Bk _ _ _ _); rw [HW1.out]; exact Bk.new w _ _
  have HS1 : Hid (Rst Z W1 y L R la ln lc xa xn xc) := h.stay HX1.out
  have HK : Hid (Kn L (R.map Prod.fst)) := hK
  have HSH : Hid ((2 : Int) ^ (id.toNat - 1) % 4294967296 = lk) := hsh
  have HLK : Hid (0 ≤ lk ∧ lk ≤ 4294967295) := hlk
  obtain ⟨POST, HPO⟩ : ∃ P : Ending → World → Prop, Hid (P = fun e w' => StepTold (kk L (R.map Prod.fst)) (getI (R.map Prod.fst)) lk t w.heap.size w e w') := ⟨_, rfl⟩
  have hpost : (fun e w' => StepTold (kk L (R.map Prod.fst)) (getI (R.map Prod.fst)) lk t w.heap.size w e w') = fun e w' => POST e w' := HPO.out.symm
  rw [hpost]
  obtain ⟨t0, t1⟩ := ht
  obtain ⟨i0, i1⟩ := hid
  have g1 : ¬ t < 0 := by omega
  have g2 : ¬ (1099511627776 : Int) < t := by omega
  have g3 : ¬ id < 1 := by omega
  have g4 : ¬ (32 : Int) < id := by omega
  clear hpost h hK hlk hsh
  go_enter Tryz.func55, Tryz.ntmps55
  go_upto_region 1 with fail
  rw [← HW1.out]
  go_wp2_with fail
  rw [HSH.out]
  refine (ref_Seen HS1.out HK.out hX HLK.out).mono ?_
  rintro e w2 ⟨z, L1, lb, lbn, lbc, xb, xbn, xbc, rfl, hsn, hst, hz, hb2⟩
  have HSN : Hid (Seen L (R.map Prod.fst) lk L1) := hsn
  have HZ2 : Hid (Rst Z w2 z L1 (seenR lk R) lb lbn lbc xb xbn xbc) := hst
  have HB2 : Hid (Below W1.heap.size W1 w2) := hb2
  have HKZ : Hid (Kn L1 (seenX lk (R.map Prod.fst))) := hsn.kn HK.out
  have HLN : Hid (L1.length = lbn) := hst.ok.rd.size
  have hlbn : lbn ≤ 9223372036854775807 := Nat.le_trans hst.ok.lc hst.ok.cm
  clear hsn hst hz hb2 g1 g2 g3 g4 i0 i1
  go_wp2
  go_loopw [9] (fun t9 wr => ∃ at_ : Int, t9 = .int .i64 at_ ∧ t < at_ ∧ at_ ≤ 1099511627777 ∧ Hid (∀ v, t < v → v < at_ → atS L1 v = 2) ∧ Hid (Below w2.heap.size w2 wr)) (fun t9 _ => (1099511627778 - intOf t9).toNat)
  case atStart => exact ⟨t + 1, by go_num, by omega, by omega, fun v h1 h2 => by omega, Below.refl _ _⟩
  case round =>
    obtain ⟨at_, rfl, ha1, ha2, HPS, HB⟩ := hrel
    obtain ⟨w3, rfl⟩ : ∃ w3, w3 = wr := ⟨wr, rfl⟩
    have HZR : Hid (Rst Z w3 z L1 (seenR lk R) lb lbn lbc xb xbn xbc) := HZ2.out.stay HB.out
    have HBW : Hid (Below w.heap.size w w3) := HX1.out.trans ((HB2.out.trans (HB.out.mono HB2.out.size)).mono HX1.out.size)
    have HKR : Hid (Bk w3 w.heap.size #[.int .i64 0, .int .i64 0, .int .i64 0, .int .i64 0, .int .u32 0, .slice none 0 0] 64) := HK1.out.stay (HB2.out.trans (HB.out.mono HB2.out.size))
    have HPU : Hid (∀ v, t < v → v < at_ → passU (kk L (R.map Prod.fst)) (getI (R.map Prod.fst)) lk v) := fun v h1 h2 => (HSN.out.pass HK.out v).2 (HPS.out v h1 h2)
    obtain ⟨K, HPK⟩ : ∃ K, Hid (placeX (seenX lk (R.map Prod.fst)) at_ = K) := ⟨_, rfl⟩
    obtain ⟨bb, HBB⟩ : ∃ b, Hid (isAtX (seenX lk (R.map Prod.fst)) at_ = b) := ⟨_, rfl⟩
    have HPL : Hid (Calls Tryz.prog 75 #[.pointer (some ⟨z, 0, none⟩), .int .i64 at_] w3 fun e w' => e = .returned (.tuple #[.int .i64 (K : Int), .bool bb]) ∧ Below w3.heap.size w3 w') := by
      have := ref_place HZR.out at_
      rw [seenR_map, HPK.out, HBB.out] at this
      exact this
    go_wp2_with fail
    refine HPL.out.mono ?_
    rintro e w4 ⟨rfl, hb4⟩
    have HB4 : Hid (Below w3.heap.size w3 w4) := hb4
    have HBW4 : Hid (Below w.heap.size w w4) := HBW.out.trans (hb4.mono HBW.out.size)
    have HZ4 : Hid (Rst Z w4 z L1 (seenR lk R) lb lbn lbc xb xbn xbc) := HZR.out.stay hb4
    have HK4 : Hid (Bk w4 w.heap.size #[.int .i64 0, .int .i64 0, .int .i64 0, .int .i64 0, .int .u32 0, .slice none 0 0] 64) := HKR.out.stay hb4
    clear hb4 HPL
    obtain ⟨HIA, HIB⟩ : Hid (isAtX (seenX lk (R.map Prod.fst)) at_ = (getI (seenX lk (R.map Prod.fst)) at_).isSome) ∧ Hid (∀ q, getI (seenX lk (R.map Prod.fst)) at_ = some q → (seenX lk (R.map Prod.fst))[placeX (seenX lk (R.map Prod.fst)) at_]? = some q) := isAt_get HKZ.out.rise
    have n0 : w4.cell? ⟨w.heap.size, 0, none⟩ = some (.int .i64 0) := HK4.out.cell 0 rfl
    have n1 : w4.cell? ⟨w.heap.size, 1, none⟩ = some (.int .i64 0) := HK4.out.cell 1 rfl
    have n2 : w4.cell? ⟨w.heap.size, 2, none⟩ = some (.int .i64 0) := HK4.out.cell 2 rfl
    have n3 : w4.cell? ⟨w.heap.size, 3, none⟩ = some (.int .i64 0) := HK4.out.cell 3 rfl
    have n4 : w4.cell? ⟨w.heap.size, 4, none⟩ = some (.int .u32 0) := HK4.out.cell 4 rfl
    have n5 : w4.cell? ⟨w.heap.size, 5, none⟩ = some (.slice none 0 0) := HK4.out.cell 5 rfl
    have nf0 := HK4.out.free 0
    have nf1 := HK4.out.free 1
    have nf2 := HK4.out.free 2
    have nf3 := HK4.out.free 3
    have nf4 := HK4.out.free 4
    have nf5 := HK4.out.free 5
    cases bb with
    | true =>
      obtain ⟨q, hq⟩ : ∃ q, getI (seenX lk (R.map Prod.fst)) at_ = some q := by
        have h1 := HIA.out
        rw [HBB.out] at h1
        exact Option.isSome_iff_exists.1 h1.symm
      have hpl := HIB.out q hq
      rw [HPK.out, ← seenR_map, List.getElem?_map] at hpl
      obtain ⟨x, hx, hxq⟩ := Option.map_eq_some_iff.1 hpl
      have hKl : K < xbn := by have := (List.getElem?_eq_some_iff.1 hx).1; rw [HZ4.out.its.size] at this; exact this
      have hKl' : (K : Int) < (xbn : Int) := by omega
      have gK : (0 : Int) ≤ (K : Int) := by omega
      obtain ⟨g, o, rfl, hg, x', hx', e0, e1, e2⟩ := HZ4.out.its.at_ K hKl
      rw [hx] at hx'
      cases hx'
      have HBDX : Hid (BdT Z w4 x.2 x.1.body) := HZ4.out.its.bod x (List.mem_of_getElem? hx)
      obtain ⟨h1, h2, h3, h4⟩ := (HSN.out.here HK.out at_).1 q hq
      subst hxq
      have HNX : Hid (NextIs (kk L (R.map Prod.fst)) (getI (R.map Prod.fst)) lk t 1 at_ at_ x.1) := ⟨at_, ha1, HPU.out, .inl ⟨rfl, rfl, rfl, h4, h1, h2, h3⟩⟩
      have c1 : w4.cell? ⟨z, 1, none⟩ = some (.slice (some ⟨g, o, none⟩) xbn xbc) := HZ4.out.blk.cell 1 rfl
      obtain ⟨⟨qt, qf, qb⟩, ba, bl, bc⟩ := x
      simp only at e0 e1 e2
      have HBE : Hid (BdOk (set6 w4 w.heap.size (.int .i64 1) (.int .i64 at_) (.int .i64 at_) (.int .i64 qt) (.int .u32 qf) (.slice ba bl bc)) ba bl bc qb) := by
        have hb := HBDX.out.typed (w' := set6 w4 w.heap.size (.int .i64 1) (.int .i64 at_) (.int .i64 at_) (.int .i64 qt) (.int .u32 qf) (.slice ba bl bc)) (by unfold set6; simp only [World.size_setCell]; exact Nat.le_refl _) (fun k cs mm hk => set6_block _ _ _ _ _ _ (by
          rintro rfl
          have h5 : w4.heap[w.heap.size]? = some (.cells _ 64 (0, 0)) := HK4.out
          rw [h5] at hk
          simp only [Option.some.injEq, Obj.cells.injEq] at hk
          exact absurd hk.2.1 (by decide)))
        exact ⟨hb.rd, hb.nil_, hb.lc, hb.cm⟩
      have HBLE : Hid (qb.length = bl) := HBDX.out.rd.size
      clear hx hpl hq h1 h2 h3 h4
      go_wp2
      change bodyPost _ _ _ _ _ (set6 w4 w.heap.size (.int .i64 1) (.int .i64 at_) (.int .i64 at_) (.int .i64 qt) (.int .u32 qf) (.slice ba bl bc))
      refine bodyPost_ret (results_refNext (by rfl) (by rfl) (HK4.out.set6 _ _ _ _ _ _)) rfl ?_
      rw [HPO.out]
      have hbl := HBLE.out
      subst hbl
      exact ⟨⟨1, at_, at_, ⟨qt, qf, qb⟩, ba, bc, rfl, HNX.out, HBE.out⟩, below_set6 HBW4.out (Nat.le_refl _) _ _ _ _ _ _⟩
    | false =>
      have HNO : Hid (getI (seenX lk (R.map Prod.fst)) at_ = none) := by
        have h1 := HIA.out
        rw [HBB.out] at h1
        (show _ = _)
        cases hg : getI (seenX lk (R.map Prod.fst)) at_ with
        | none => rfl
        | some q => rw [hg] at h1; cases h1
      obtain ⟨F, HF⟩ : ∃ F, Hid (spanAt L1 at_ Sp.zr = F) := ⟨_, rfl⟩
      obtain ⟨W5, HW5⟩ : ∃ W5, Hid (W5 = w4.alloc (.cells #[.int .i64 0, .int .i64 0, .int .i64 0] 62)) := ⟨_, rfl⟩
      have HB5 : Hid (Below w4.heap.size w4 W5) := by (show Below _ _ _); rw [HW5.out]; exact below_new w4 _
      have HQ5 : Hid (Bk W5 w4.heap.size #[.int .i64 0, .int .i64 0, .int .i64 0] 62) := by (show Bk _ _ _ _); rw [HW5.out]; exact Bk.new w4 _ _
      obtain ⟨sp, HSP⟩ : ∃ sp, Hid (sp = w4.heap.size) := ⟨_, rfl⟩
      have HQ5 : Hid (Bk W5 sp #[.int .i64 0, .int .i64 0, .int .i64 0] 62) := by (show Bk _ _ _ _); rw [HSP.out]; exact HQ5.out
      clear n0 n1 n2 n3 n4 n5 nf0 nf1 nf2 nf3 nf4 nf5
      go_upto_region 11 with fail
      rw [← HW5.out, ← HSP.out]
      go_wp2
      go_loopw [13] (fun t13 wr => ∃ (k : Nat) (f t2 s2 : Int), t13 = .int .i64 (k : Int) ∧ k ≤ lbn ∧ Hid (Bk wr sp #[.int .i64 f, .int .i64 t2, .int .i64 s2] 62) ∧ Hid (spanAt (L1.drop k) at_ ⟨f, t2, s2⟩ = F) ∧ Hid (Below w4.heap.size w4 wr)) (fun t13 _ => lbn - (intOf t13).toNat)
      case atStart => exact ⟨0, 0, 0, 0, rfl, Nat.zero_le _, HQ5, HF.out, HB5⟩
      case round =>
        obtain ⟨k, f, t2, s2, rfl, hk, HQ, HFF, HBR⟩ := hrel
        obtain ⟨w6, rfl⟩ : ∃ w6, w6 = wr := ⟨wr, rfl⟩
        have HZ6 : Hid (Rst Z w6 z L1 (seenR lk R) lb lbn lbc xb xbn xbc) := HZ4.out.stay HBR.out
        have c0 : w6.cell? ⟨z, 0, none⟩ = some (.slice lb lbn lbc) := HZ6.out.blk.cell 0 rfl
        have HS4 : Hid (w4.heap.size ≤ sp) := by (show _ ≤ _); rw [HSP.out]; exact Nat.le_refl _
        by_cases hlt : k < lbn
        · have hlt' : (k : Int) < (lbn : Int) := by omega
          have gk : (0 : Int) ≤ (k : Int) := by omega
          obtain ⟨g, o, rfl, hg, q, hq, d0, d1, d2⟩ := HZ6.out.ok.rd.at_ k hlt
          have HD : Hid (L1.drop k = q :: L1.drop (k + 1)) := drop_at hq
          obtain ⟨qf, qt, qi⟩ := q
          simp only at d0 d1 d2
          have q0 : w6.cell? ⟨sp, 0, none⟩ = some (.int .i64 f) := HQ.out.cell 0 rfl
          have q1 : w6.cell? ⟨sp, 1, none⟩ = some (.int .i64 t2) := HQ.out.cell 1 rfl
          have q2 : w6.cell? ⟨sp, 2, none⟩ = some (.int .i64 s2) := HQ.out.cell 2 rfl
          have qf0 := HQ.out.free 0
          have qf1 := HQ.out.free 1
          have qf2 := HQ.out.free 2
          by_cases hin : qf ≤ at_ ∧ at_ ≤ qt
          · obtain ⟨i1, i2⟩ := hin
            have HFN : Hid (spanAt (L1.drop (k + 1)) at_ ⟨qf, qt, qi⟩ = F) := by
              have := HFF.out
              rw [HD.out, spanAt, if_pos ⟨i1, i2⟩] at this
              exact this
            have HQN : Hid (Bk (((w6.setCell ⟨sp, 0, none⟩ (.int .i64 qf)).setCell ⟨sp, 1, none⟩ (.int .i64 qt)).setCell ⟨sp, 2, none⟩ (.int .i64 qi)) sp #[.int .i64 qf, .int .i64 qt, .int .i64 qi] 62) := ((HQ.out.set 0 _).set 1 _).set 2 _
            have HBN : Hid (Below w4.heap.size w4 (((w6.setCell ⟨sp, 0, none⟩ (.int .i64 qf)).setCell ⟨sp, 1, none⟩ (.int .i64 qt)).setCell ⟨sp, 2, none⟩ (.int .i64 qi))) := ((HBR.out.setCell HS4.out _).setCell HS4.out _).setCell HS4.out _
            clear hq hg
            go_wp2
            go_roundw
            case rel => exact ⟨k + 1, qf, qt, qi, by go_num, by omega, HQN, HFN, HBN⟩
            case measure => simp [intOf]; omega
          · have HFN : Hid (spanAt (L1.drop (k + 1)) at_ ⟨f, t2, s2⟩ = F) := by
              have := HFF.out
              rw [HD.out, spanAt, if_neg hin] at this
              exact this
            by_cases h1 : qf ≤ at_
            · have h2 : ¬ at_ ≤ qt := fun h => hin ⟨h1, h⟩
              clear hq hg hin
              go_wp2
              go_roundw
              case rel => exact ⟨k + 1, f, t2, s2, by go_num, by omega, HQ, HFN, HBR⟩
              case measure => simp [intOf]; omega
            · clear hq hg hin
              go_wp2
              go_roundw
              case rel => exact ⟨k + 1, f, t2, s2, by go_num, by omega, HQ, HFN, HBR⟩
              case measure => simp [intOf]; omega
        · have hnl : ¬ (k : Int) < (lbn : Int) := by omega
          have HFE : Hid (F = ⟨f, t2, s2⟩) := by
            have := HFF.out
            rw [List.drop_of_length_le (by rw [HLN.out]; omega)] at this
            exact this.symm
          have HBW6 : Hid (Below w.heap.size w w6) := HBW4.out.trans (HBR.out.mono HBW4.out.size)
          have HK6 : Hid (Bk w6 w.heap.size #[.int .i64 0, .int .i64 0, .int .i64 0, .int .i64 0, .int .u32 0, .slice none 0 0] 64) := HK4.out.stay HBR.out
          have n0 : w6.cell? ⟨w.heap.size, 0, none⟩ = some (.int .i64 0) := HK6.out.cell 0 rfl
          have n1 : w6.cell? ⟨w.heap.size, 1, none⟩ = some (.int .i64 0) := HK6.out.cell 1 rfl
          have n2 : w6.cell? ⟨w.heap.size, 2, none⟩ = some (.int .i64 0) := HK6.out.cell 2 rfl
          have n3 : w6.cell? ⟨w.heap.size, 3, none⟩ = some (.int .i64 0) := HK6.out.cell 3 rfl
          have n4 : w6.cell? ⟨w.heap.size, 4, none⟩ = some (.int .u32 0) := HK6.out.cell 4 rfl
          have n5 : w6.cell? ⟨w.heap.size, 5, none⟩ = some (.slice none 0 0) := HK6.out.cell 5 rfl
          have nf0 := HK6.out.free 0
          have nf1 := HK6.out.free 1
          have nf2 := HK6.out.free 2
          have nf3 := HK6.out.free 3
          have nf4 := HK6.out.free 4
          have nf5 := HK6.out.free 5
          have q1 : w6.cell? ⟨sp, 1, none⟩ = some (.int .i64 t2) := HQ.out.cell 1 rfl
          have q2 : w6.cell? ⟨sp, 2, none⟩ = some (.int .i64 s2) := HQ.out.cell 2 rfl
          obtain ⟨hok1, hok2⟩ := spanAt_ok at_ L1 Sp.zr Sp.zr HSN.out.right
          rw [HF.out, HFE.out] at hok1 hok2
          have hrg := atS_range HSN.out.right at_
          have hqt := HKZ.out.quiet at_
          by_cases h0 : atS L1 at_ = 0
          · have h00 := hok1 h0
            simp only [Sp.zr, Sp.mk.injEq] at h00
            obtain ⟨rfl, rfl, rfl⟩ := h00
            have HNX : Hid (NextIs (kk L (R.map Prod.fst)) (getI (R.map Prod.fst)) lk t 0 0 (at_ - 1) ⟨0, 0, []⟩) := ⟨at_, ha1, HPU.out, .inr (.inr ⟨rfl, rfl, rfl, (HSN.out.here HK.out at_).2.2 HNO.out h0, rfl⟩)⟩
            clear hok1 hok2 h0 hrg hqt
            go_wp2
            change bodyPost _ _ _ _ _ (set6 w6 w.heap.size (.int .i64 0) (.int .i64 0) (.int .i64 (at_ - 1)) (.int .i64 0) (.int .u32 0) (.slice none 0 0))
            refine bodyPost_ret (results_refNext (by rfl) (by rfl) (HK6.out.set6 _ _ _ _ _ _)) rfl ?_
            rw [HPO.out]
            exact ⟨⟨0, 0, at_ - 1, ⟨0, 0, []⟩, none, 0, rfl, HNX.out, BdOk.none_ _⟩, below_set6 HBW6.out (Nat.le_refl _) _ _ _ _ _ _⟩
          · obtain ⟨q, hq, hqe, j1, j2, j3⟩ := hok2 h0
            subst hqe
            simp only at j1 j2 j3
            have hre := right_each HSN.out.right hq
            simp only at hre
            have hin : ∀ v, f ≤ v → v ≤ t2 → atS L1 v = s2 := fun v v1 v2 => atS_mem HSN.out.right hq v1 v2
            have hnx : atS L1 (t2 + 1) ≠ s2 := right_next HSN.out.right hq
            by_cases h3 : s2 = 3
            · subst h3
              have HNX : Hid (NextIs (kk L (R.map Prod.fst)) (getI (R.map Prod.fst)) lk t 3 at_ t2 ⟨0, 0, []⟩) := ⟨at_, ha1, HPU.out, .inr (.inl ⟨rfl, rfl, (HSN.out.here HK.out at_).2.1.1 (by omega), j2, fun v v1 v2 => (HSN.out.here HK.out v).2.1.1 (hin v (by omega) v2), fun hh => hnx ((HSN.out.here HK.out (t2 + 1)).2.1.2 hh), rfl⟩)⟩
              clear hok1 hok2 h0 hrg hqt hin hnx hq hre j1 j2 j3
              go_wp2
              change bodyPost _ _ _ _ _ (set6 w6 w.heap.size (.int .i64 3) (.int .i64 at_) (.int .i64 t2) (.int .i64 0) (.int .u32 0) (.slice none 0 0))
              refine bodyPost_ret (results_refNext (by rfl) (by rfl) (HK6.out.set6 _ _ _ _ _ _)) rfl ?_
              rw [HPO.out]
              exact ⟨⟨3, at_, t2, ⟨0, 0, []⟩, none, 0, rfl, HNX.out, BdOk.none_ _⟩, below_set6 HBW6.out (Nat.le_refl _) _ _ _ _ _ _⟩
            · have h2 : s2 = 2 := by omega
              subst h2
              have HPN : Hid (∀ v, t < v → v < t2 + 1 → atS L1 v = 2) := fun v v1 v2 => by
                by_cases hv : v < at_
                · exact HPS.out v v1 hv
                · exact hin v (by omega) (by omega)
              have HBN : Hid (Below w2.heap.size w2 w6) := HB.out.trans ((HB4.out.trans (HBR.out.mono HB4.out.size)).mono HB.out.size)
              have hto : t2 ≤ 1099511627776 := hre.2.2.1
              clear hok1 hok2 h0 hrg hqt hin hnx hq hre j1 j3
              go_wp2
              go_roundw
              case rel => exact ⟨t2 + 1, by go_num, by omega, by omega, HPN, HBN⟩
              case measure => simp [intOf]; omega
end Go.Proofs.YtidihfhgnjkmaaaGreat
