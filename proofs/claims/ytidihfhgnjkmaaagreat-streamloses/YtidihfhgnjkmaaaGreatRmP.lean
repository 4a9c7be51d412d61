/- A pack of texts: Rm1 Set6 Rm2 Rm3 Rm4 Rm5 Rm6. -/
import Derived.Test.YtidihfhgnjkmaaaGreatSmP
import Derived.Test.YtidihfhgnjkmaaaGreatPcJ
import Derived.Test.YtidihfhgnjkmaaaGreatSpX
import Derived.Test.YtidihfhgnjkmaaaGreatPcP
/- The reference's stream in memory: rows of items whose bodies are bytes somewhere. -/
namespace Go.Proofs.YtidihfhgnjkmaaaGreat
set_option maxRecDepth 100000
open Go.RowKit
variable {Z : Nat → Prop}

/-- A block that has a number, or bytes. -/
def HasInt (w : World) (k : Nat) : Prop := (∃ o kd z, w.cell? ⟨k, o, none⟩ = some (.int kd z)) ∨ ∃ cs m, w.heap[k]? = some (.cells cs 5 m)
/-- Bytes somewhere. -/
structure BdT (Z : Nat → Prop) (w : World) (b : Bd) (bs : List Nat) : Prop where
  rd : Rd w b.1 b.2.1 bs
  nil_ : b.1 = none → b.2.2 = 0
  lc : b.2.1 ≤ b.2.2
  cm : b.2.2 ≤ 9223372036854775807
  z : ∀ ad, b.1 = some ad → Z ad.block
  ty : ∀ ad, b.1 = some ad → ∃ cs m, w.heap[ad.block]? = some (.cells cs 5 m)
  open_ : ∀ ad, b.1 = some ad → ∃ cs, w.heap[ad.block]? = some (.cells cs 5 (0, 0))
theorem Rd.frame {w w' : World} {a : Option Addr} {n : Nat} {bs : List Nat} (h : Rd w a n bs) (hs : w.heap.size ≤ w'.heap.size) (hk : ∀ ad, a = some ad → ad.block < w.heap.size → w'.heap[ad.block]? = w.heap[ad.block]?) : Rd w' a n bs := by
  refine ⟨h.size, h.byte, ?_⟩
  rcases h.cells with h0 | ⟨g, o, ha, hg, hc⟩
  · exact .inl h0
  · exact .inr ⟨g, o, ha, Nat.lt_of_lt_of_le hg hs, fun i hi => (cell_same (hk _ ha hg) _).trans (hc i hi)⟩
theorem BdT.frame {w w' : World} {b : Bd} {bs : List Nat} (h : BdT Z w b bs) (hs : w.heap.size ≤ w'.heap.size) (hk : ∀ k, k < w.heap.size → Z k → HasInt w k → w'.heap[k]? = w.heap[k]?) : BdT Z w' b bs := by
  have e : ∀ ad, b.1 = some ad → ad.block < w.heap.size → w'.heap[ad.block]? = w.heap[ad.block]? := fun ad ha hlt => hk _ hlt (h.z ad ha) (.inr (h.ty ad ha))
  refine ⟨h.rd.frame hs e, h.nil_, h.lc, h.cm, h.z, fun ad ha => ?_, fun ad ha => ?_⟩
  · obtain ⟨cs, m, hc⟩ := h.ty ad ha
    exact ⟨cs, m, (e ad ha (Array.getElem?_eq_some_iff.1 hc).1).trans hc⟩
  · obtain ⟨cs, hc⟩ := h.open_ ad ha
    exact ⟨cs, (e ad ha (Array.getElem?_eq_some_iff.1 hc).1).trans hc⟩
theorem BdT.of_own {w : World} {B : Nat} {a : Option Addr} {n c : Nat} {bs : List Nat} (h : Own w B a n c bs) (hz : ∀ k, B ≤ k → Z k) : BdT Z w (a, n, c) bs := by
  have hcl := h.cap_le
  unfold maxLen at hcl
  refine ⟨h.rd, h.nil_cap', hcl.1, by have := hcl.2; show c ≤ _; omega, fun ad e => hz _ (h.blockLe ad e), fun ad e => ?_, fun ad e => ?_⟩
  all_goals (
    have e : a = some ad := e
    subst e
    rcases h.row.2 with ⟨hv, _⟩ | ⟨g, c', cur, hv, hbg, hg, _⟩
    · cases hv
    · simp only [Value.slice.injEq, Option.some.injEq] at hv
      rw [hv.1]
      first | exact ⟨_, hg⟩ | exact ⟨_, _, hg⟩)
def ItIn (q : It) : Prop := ((-9223372036854775808 : Int) ≤ q.tick ∧ q.tick ≤ 9223372036854775807) ∧ (0 ≤ q.for_ ∧ q.for_ ≤ 4294967295)
/-- Items as they are read, with where their bodies are. -/
structure Rit (Z : Nat → Prop) (w : World) (a : Option Addr) (n : Nat) (R : List (It × Bd)) : Prop where
  size : R.length = n
  cells : R = [] ∨ ∃ g o, a = some ⟨g, o, none⟩ ∧ g < w.heap.size ∧ Z g ∧ ∀ (i : Nat) x, R[i]? = some x → w.cell? ⟨g, o + i * 3, none⟩ = some (.int .i64 x.1.tick) ∧ w.cell? ⟨g, o + i * 3 + 1, none⟩ = some (.int .u32 x.1.for_) ∧ w.cell? ⟨g, o + i * 3 + 2, none⟩ = some (.slice x.2.1 x.2.2.1 x.2.2.2)
  bod : ∀ x ∈ R, BdT Z w x.2 x.1.body
  each : ∀ x ∈ R, ItIn x.1
theorem Rit.frame {w w' : World} {a : Option Addr} {n : Nat} {R : List (It × Bd)} (h : Rit Z w a n R) (hs : w.heap.size ≤ w'.heap.size) (hk : ∀ k, k < w.heap.size → Z k → HasInt w k → w'.heap[k]? = w.heap[k]?) : Rit Z w' a n R := by
  refine ⟨h.size, ?_, fun x hx => (h.bod x hx).frame hs hk, h.each⟩
  rcases h.cells with h0 | ⟨g, o, ha, hg, hz, hc⟩
  · exact .inl h0
  · by_cases hR : R = []
    · exact .inl hR
    · obtain ⟨x0, hx0⟩ : ∃ x, R[0]? = some x := by
        cases R with
        | nil => exact absurd rfl hR
        | cons x r => exact ⟨x, rfl⟩
      have e := hk g hg hz (.inl ⟨_, _, _, (hc 0 x0 hx0).1⟩)
      refine .inr ⟨g, o, ha, Nat.lt_of_lt_of_le hg hs, hz, fun i x hi => ?_⟩
      rw [cell_same e, cell_same e, cell_same e]
      exact hc i x hi
theorem Rit.below {w w' : World} {a : Option Addr} {n : Nat} {R : List (It × Bd)} (h : Rit Z w a n R) (hb : Below w.heap.size w w') : Rit Z w' a n R := h.frame hb.size fun k hk _ _ => hb.block k hk
theorem Rit.rd {w : World} {a : Option Addr} {n : Nat} {R : List (It × Bd)} (h : Rit Z w a n R) : ItsRd w a n (R.map Prod.fst) := by
  refine ⟨by rw [List.length_map]; exact h.size, ?_, fun q hq => ?_⟩
  · rcases h.cells with h0 | ⟨g, o, ha, hg, hz, hc⟩
    · left; rw [h0]; rfl
    · refine .inr ⟨g, o, ha, hg, fun i q hi => ?_⟩
      rw [List.getElem?_map] at hi
      obtain ⟨x, hx, rfl⟩ := Option.map_eq_some_iff.1 hi
      obtain ⟨c0, c1, c2⟩ := hc i x hx
      have hb := h.bod x (List.mem_of_getElem? hx)
      exact ⟨c0, c1, x.2.1, x.2.2.1, x.2.2.2, c2, hb.rd, hb.nil_, hb.lc, hb.cm⟩
  · obtain ⟨x, hx, rfl⟩ := List.mem_map.1 hq
    exact h.each x hx
theorem Rit.at_ {w : World} {a : Option Addr} {n : Nat} {R : List (It × Bd)} (h : Rit Z w a n R) (i : Nat) (hi : i < n) : ∃ g o, a = some ⟨g, o, none⟩ ∧ g < w.heap.size ∧ ∃ x, R[i]? = some x ∧ w.cell? ⟨g, o + i * 3, none⟩ = some (.int .i64 x.1.tick) ∧ w.cell? ⟨g, o + i * 3 + 1, none⟩ = some (.int .u32 x.1.for_) ∧ w.cell? ⟨g, o + i * 3 + 2, none⟩ = some (.slice x.2.1 x.2.2.1 x.2.2.2) := by
  have hl : i < R.length := by rw [h.size]; exact hi
  rcases h.cells with rfl | ⟨g, o, ha, hg, _, hc⟩
  · simp at hl
  · exact ⟨g, o, ha, hg, R[i], List.getElem?_eq_getElem hl, hc i R[i] (List.getElem?_eq_getElem hl)⟩
theorem Rit.nil_ (w : World) (a : Option Addr) : Rit Z w a 0 [] := ⟨rfl, .inl rfl, fun _ h => (by cases h), fun _ h => (by cases h)⟩
/-- Some of them, from a place on. -/
theorem Rit.part {w : World} {g o n : Nat} {R : List (It × Bd)} (h : Rit Z w (some ⟨g, o, none⟩) n R) (i j : Nat) (hij : i ≤ j) (hj : j ≤ n) : Rit Z w (some ⟨g, o + i * 3, none⟩) (j - i) ((R.drop i).take (j - i)) := by
  have hl := h.size
  refine ⟨by rw [List.length_take, List.length_drop]; omega, ?_, fun x hx => h.bod x (List.mem_of_mem_drop (List.mem_of_mem_take hx)), fun x hx => h.each x (List.mem_of_mem_drop (List.mem_of_mem_take hx))⟩
  rcases h.cells with rfl | ⟨g', o', ha, hg, hz, hc⟩
  · left; simp
  · simp only [Option.some.injEq, Addr.mk.injEq, and_true] at ha
    obtain ⟨rfl, rfl⟩ := ha
    refine .inr ⟨g, o + i * 3, rfl, hg, hz, fun k x hk => ?_⟩
    have hkl : k < j - i := by have := (List.getElem?_eq_some_iff.1 hk).1; rw [List.length_take] at this; omega
    rw [List.getElem?_take_of_lt hkl, List.getElem?_drop] at hk
    have := hc (i + k) x hk
    rw [show o + (i + k) * 3 = o + i * 3 + k * 3 from by omega] at this
    exact this
/-- A row of items of one's own. -/
structure Ros (Z : Nat → Prop) (w : World) (base : Nat) (v : Value) (R : List (It × Bd)) : Prop where
  row : w.ownsRow base 54 3 v R.length (irow R)
  bod : ∀ x ∈ R, BdT Z w x.2 x.1.body
  each : ∀ x ∈ R, ItIn x.1
theorem Ros.empty (w : World) : Ros Z (w.alloc (.cells #[] 54)) w.heap.size (.slice (some ⟨w.heap.size, 0, none⟩) 0 0) [] :=
  ⟨World.ownsRow_lit (base := w.heap.size) (e := 54) (size := 3) w #[] 0 (Nat.le_refl _) (Nat.zero_le _) rfl, fun _ h => (by cases h), fun _ h => (by cases h)⟩
theorem Ros.nil_ (w : World) (base : Nat) : Ros Z w base (.slice none 0 0) [] := ⟨⟨rfl, .inl ⟨rfl, rfl⟩⟩, fun _ h => (by cases h), fun _ h => (by cases h)⟩
theorem Ros.form {w : World} {base : Nat} {v : Value} {R : List (It × Bd)} (h : Ros Z w base v R) : ∃ a c, v = .slice a R.length c ∧ R.length ≤ c ∧ c ≤ maxLen ∧ (a = none → c = 0) ∧ ∀ ad, a = some ad → base ≤ ad.block ∧ ad.block < w.heap.size := by
  rcases h.row.2 with ⟨hv, hn⟩ | ⟨g, c, cur, hv, hb, hg, hc, hm, _⟩
  · exact ⟨none, 0, by rw [hv, hn], by omega, by omega, fun _ => rfl, fun _ e => (by cases e)⟩
  · exact ⟨_, c, hv, hc, hm, fun e => (by cases e), fun ad e => by cases e; exact ⟨hb, (Array.getElem?_eq_some_iff.1 hg).1⟩⟩
theorem Ros.lower {w : World} {base base' : Nat} {v : Value} {R : List (It × Bd)} (h : Ros Z w base v R) (hb : base' ≤ base) : Ros Z w base' v R := by
  refine ⟨⟨h.row.1, ?_⟩, h.bod, h.each⟩
  rcases h.row.2 with hn | ⟨g, c, cur, hv, hbg, r⟩
  · exact .inl hn
  · exact .inr ⟨g, c, cur, hv, Nat.le_trans hb hbg, r⟩
theorem Ros.below {w w' : World} {base : Nat} {v : Value} {R : List (It × Bd)} (h : Ros Z w base v R) (hb : Below w.heap.size w w') : Ros Z w' base v R := by
  refine ⟨⟨h.row.1, ?_⟩, fun x hx => (h.bod x hx).frame hb.size fun k hk _ _ => hb.block k hk, h.each⟩
  rcases h.row.2 with hn | ⟨g, c, cur, hv, hbg, hg, r⟩
  · exact .inl hn
  · exact .inr ⟨g, c, cur, hv, hbg, (hb.block g (Array.getElem?_eq_some_iff.1 hg).1).trans hg, r⟩
theorem Ros.rit {w : World} {base : Nat} {a : Option Addr} {n c : Nat} {R : List (It × Bd)} (h : Ros Z w base (.slice a n c) R) (hz : ∀ k, base ≤ k → Z k) : Rit Z w a n R := by
  rcases h.row.2 with ⟨hv, hn⟩ | ⟨g, c', cur, hv, hbb, hg, hlc, hm, hs, ht⟩
  · simp only [Value.slice.injEq] at hv
    have : R = [] := List.length_eq_zero_iff.1 hn
    subst this
    exact ⟨by simp; omega, .inl rfl, fun _ h => (by cases h), fun _ h => (by cases h)⟩
  · simp only [Value.slice.injEq] at hv
    obtain ⟨rfl, rfl, rfl⟩ := hv
    refine ⟨rfl, .inr ⟨g, 0, rfl, (Array.getElem?_eq_some_iff.1 hg).1, hz g hbb, fun i x hx => ?_⟩, h.bod, h.each⟩
    have hil : i < R.length := (List.getElem?_eq_some_iff.1 hx).1
    have key : ∀ j, j < 3 → w.cell? ⟨g, 0 + i * 3 + j, none⟩ = (icells x.1 x.2)[j]? := by
      intro j hj
      have h1 := irow_at R i x hx j hj
      rw [← ht, List.getElem?_take_of_lt (by omega), Array.getElem?_toList] at h1
      rw [cell_of_row w g _ cur _ _ hg, Nat.zero_add, h1]
    exact ⟨key 0 (by omega), key 1 (by omega), key 2 (by omega)⟩
/-- Bodies stay where a row of items grows. -/
theorem bods_grown {w w' : World} {base n : Nat} {v : Value} {cs : List Value} (hrow : w.ownsRow base 54 3 v n cs) (hg : w.grownBy w' v.ownBlock) {b : Bd} {bs : List Nat} (h : BdT Z w b bs) : BdT Z w' b bs := by
  have e : ∀ ad, b.1 = some ad → w'.heap[ad.block]? = w.heap[ad.block]? := fun ad ha => by
    obtain ⟨cs', m, hc⟩ := h.ty ad ha
    refine hg.block _ (Array.getElem?_eq_some_iff.1 hc).1 fun e => ?_
    rcases hrow.2 with ⟨h3, _⟩ | ⟨g, c', cur, h3, _, h4, _⟩
    · rw [h3] at e; cases e
    · rw [h3] at e
      simp only [Value.ownBlock, Option.some.injEq] at e
      rw [e, h4] at hc
      simp only [Option.some.injEq, Obj.cells.injEq] at hc
      exact absurd hc.2.1 (by decide)
  refine ⟨h.rd.frame hg.size fun ad ha _ => e ad ha, h.nil_, h.lc, h.cm, h.z, fun ad ha => ?_, fun ad ha => ?_⟩
  · obtain ⟨cs, m, hc⟩ := h.ty ad ha
    exact ⟨cs, m, (e ad ha).trans hc⟩
  · obtain ⟨cs, hc⟩ := h.open_ ad ha
    exact ⟨cs, (e ad ha).trans hc⟩
/-- An item behind a row of one's own. -/
theorem run_append_ro (w : World) (ty : TypeId) (base : Nat) (v : Value) (R : List (It × Bd)) (hown : Ros Z w base v R) (ad : Addr) (c : Nat) (x : It × Bd) (hnews : ∀ j u, (icells x.1 x.2)[j]? = some u → w.cell? (ad.add j) = some u) (hb : BdT Z w x.2 x.1.body) (hx : ItIn x.1) (hl : R.length ≤ 1000000000000) (hbase : base ≤ w.heap.size) :
    ∃ v' w', (Builtin.append_ #[31, 31] ty #[v, .slice (some ad) 1 c]).run Tryz.prog w = .ok v' w' ∧ Ros Z w' base v' (R ++ [x]) ∧ w.grownBy w' v.ownBlock ∧ Below base w w' ∧ (v ≠ .slice none 0 0 → v' ≠ .slice none 0 0) := by
  obtain ⟨i0, hi, hz0, hz1, hz2⟩ := info_parts infoItem
  obtain ⟨v', w', hrun, h1, h2, hnn⟩ := run_append_own (P := Tryz.prog) w base 31 ty 54 i0 (.agg #[.int .i64 0, .int .u32 0, .slice none 0 0]) 3 40 Tryz.underlying31 hi hz0 hz1 hz2 (by rfl) (by decide) v R.length (irow R) hown.row ad 1 c (icells x.1 x.2) (by rfl) hnews (icells_one x.1 x.2) (by unfold maxLen; omega) (by omega) hbase
  refine ⟨v', w', hrun, ⟨?_, ?_, ?_⟩, h2, (Below.refl _ _).grown h2 hbase (fun k hk => (hown.row.lt k hk).1), fun hv hv' => hv (hnn.1 hv').1⟩
  · rw [List.length_append, irow_snoc]
    simpa using h1
  · intro y hy
    rcases List.mem_append.1 hy with hy | hy
    · exact bods_grown hown.row h2 (hown.bod y hy)
    · obtain rfl := List.mem_singleton.1 hy
      exact bods_grown hown.row h2 hb
  · intro y hy
    rcases List.mem_append.1 hy with hy | hy
    · exact hown.each y hy
    · obtain rfl := List.mem_singleton.1 hy
      exact hx
theorem irow_append : ∀ (l m : List (It × Bd)), irow (l ++ m) = irow l ++ irow m
  | [], m => rfl
  | x :: l, m => by rw [List.cons_append, irow, irow, irow_append l m, List.append_assoc]
theorem irow_len : ∀ (l : List (It × Bd)), (irow l).length = l.length * 3
  | [] => rfl
  | x :: l => by rw [irow, List.length_append, irow_len l, List.length_cons]; simp [icells]; omega
theorem irow_one : ∀ (l : List (It × Bd)), ∀ u ∈ irow l, u.oneCell' = true
  | [], u, h => by cases h
  | x :: l, u, h => by
    rw [irow] at h
    rcases List.mem_append.1 h with h | h
    · exact icells_one _ _ u h
    · exact irow_one l u h
theorem Rit.news {w : World} {ad : Addr} {n : Nat} {R : List (It × Bd)} (h : Rit Z w (some ad) n R) : ∀ j u, (irow R)[j]? = some u → w.cell? (ad.add j) = some u := by
  intro j u hj
  have hjl : j < R.length * 3 := by rw [← irow_len]; exact (List.getElem?_eq_some_iff.1 hj).1
  have hi : j / 3 < R.length := by omega
  rcases h.cells with h0 | ⟨g, o, ha, hg, _, hc⟩
  · subst h0; simp at hi
  · simp only [Option.some.injEq] at ha
    subst ha
    obtain ⟨c0, c1, c2⟩ := hc (j / 3) R[j / 3] (List.getElem?_eq_getElem hi)
    have hf := irow_at R (j / 3) R[j / 3] (List.getElem?_eq_getElem hi) (j % 3) (by omega)
    rw [show j / 3 * 3 + j % 3 = j from by omega, hj] at hf
    have e : ∀ k, (⟨g, o, none⟩ : Addr).add k = ⟨g, o + k, none⟩ := fun k => by unfold Addr.add; split <;> simp_all
    rw [e]
    have hm : j % 3 = 0 ∨ j % 3 = 1 ∨ j % 3 = 2 := by omega
    rcases hm with hm | hm | hm
    · rw [hm] at hf
      rw [show o + j = o + j / 3 * 3 from by omega, c0]
      simpa [icells] using hf.symm
    · rw [hm] at hf
      rw [show o + j = o + j / 3 * 3 + 1 from by omega, c1]
      simpa [icells] using hf.symm
    · rw [hm] at hf
      rw [show o + j = o + j / 3 * 3 + 2 from by omega, c2]
      simpa [icells] using hf.symm
/-- Items behind a row of one's own. -/
theorem run_append_ros (w : World) (ty : TypeId) (base : Nat) (v : Value) (R : List (It × Bd)) (hown : Ros Z w base v R) (b : Option Addr) (m c : Nat) (R2 : List (It × Bd)) (hr : Rit Z w b m R2) (hmc : b = none → c = 0) (hl : R.length + m ≤ 1000000000000) (hbase : base ≤ w.heap.size) :
    ∃ v' w', (Builtin.append_ #[31, 31] ty #[v, .slice b m c]).run Tryz.prog w = .ok v' w' ∧ Ros Z w' base v' (R ++ R2) ∧ w.grownBy w' v.ownBlock ∧ Below base w w' ∧ (v ≠ .slice none 0 0 → v' ≠ .slice none 0 0) := by
  obtain ⟨i0, hi, hz0, hz1, hz2⟩ := info_parts infoItem
  cases b with
  | none =>
    have h0 : R2 = [] := by
      rcases hr.cells with h0 | ⟨g, o, ha, _⟩
      · exact h0
      · cases ha
    have hm : m = 0 := by rw [← hr.size, h0]; rfl
    have hc := hmc rfl
    subst hm hc h0
    exact ⟨v, w, run_append_owned_none (P := Tryz.prog) (w := w) base 31 ty 54 i0 3 Tryz.underlying31 hi v R.length _ hown.row, by simpa using hown, ⟨rfl, rfl, rfl, Nat.le_refl _, fun _ _ _ => rfl⟩, Below.refl _ _, fun h => h⟩
  | some ad =>
    obtain ⟨v', w', hrun, h1, h2, hnn⟩ := run_append_own (P := Tryz.prog) w base 31 ty 54 i0 (.agg #[.int .i64 0, .int .u32 0, .slice none 0 0]) 3 40 Tryz.underlying31 hi hz0 hz1 hz2 (by rfl) (by decide) v R.length (irow R) hown.row ad m c (irow R2) (by rw [irow_len, hr.size]) hr.news (irow_one R2) (by unfold maxLen; omega) (by omega) hbase
    refine ⟨v', w', hrun, ⟨?_, ?_, ?_⟩, h2, (Below.refl _ _).grown h2 hbase (fun k hk => (hown.row.lt k hk).1), fun hv hv' => hv (hnn.1 hv').1⟩
    · rw [List.length_append, irow_append, hr.size]
      exact h1
    · intro y hy
      rcases List.mem_append.1 hy with hy | hy
      · exact bods_grown hown.row h2 (hown.bod y hy)
      · exact bods_grown hown.row h2 (hr.bod y hy)
    · intro y hy
      rcases List.mem_append.1 hy with hy | hy
      · exact hown.each y hy
      · exact hr.each y hy
theorem wpList_append_ro {w : World} {ops : Array Oper} {rest : List Oper} {o : Oper} {act : Act} {Q : Exit → Act → World → Prop} (hgd : o.guard = none) (s x : Operand)
    (ho : o.op = .call { callee := .builtin .append, args := #[s, x], argTypes := #[31, 31] })
    (base : Nat) (v : Value) (R : List (It × Bd)) (hs : act.eval s = v) (hown : Ros Z w base v R) (ad : Addr) (c : Nat) (q : It × Bd) (hx : act.eval x = .slice (some ad) 1 c) (hnews : ∀ j u, (icells q.1 q.2)[j]? = some u → w.cell? (ad.add j) = some u) (hb : BdT Z w q.2 q.1.body) (hq : ItIn q.1) (hl : R.length ≤ 1000000000000) (hbase : base ≤ w.heap.size)
    (h : ∀ v' w', Ros Z w' base v' (R ++ [q]) → w.grownBy w' v.ownBlock → Below base w w' → (v ≠ .slice none 0 0 → v' ≠ .slice none 0 0) → wpList Tryz.prog ops Q rest (act.put o.dst v') w') : wpList Tryz.prog ops Q (o :: rest) act w := by
  refine wpList_plain hgd fun K hK => ?_
  obtain ⟨v', w', hrun, h2, h3, h4, h5⟩ := run_append_ro w o.type base v R hown ad c q hnews hb hq hl hbase
  unfold Oper.wp
  simp only [execOp, ho, resolve, invoke, builtin, Sem.run_bind, Sem.run_pure, Result.andThen_ok, List.map_toArray, List.map_cons, List.map_nil, hs, hx, hrun]
  exact hK _ _ (h v' w' h2 h3 h4 h5)
theorem wpList_append_ros {w : World} {ops : Array Oper} {rest : List Oper} {o : Oper} {act : Act} {Q : Exit → Act → World → Prop} (hgd : o.guard = none) (s x : Operand)
    (ho : o.op = .call { callee := .builtin .append, args := #[s, x], argTypes := #[31, 31] })
    (base : Nat) (v : Value) (R : List (It × Bd)) (hs : act.eval s = v) (hown : Ros Z w base v R) (b : Option Addr) (m c : Nat) (R2 : List (It × Bd)) (hx : act.eval x = .slice b m c) (hr : Rit Z w b m R2) (hmc : b = none → c = 0) (hl : R.length + m ≤ 1000000000000) (hbase : base ≤ w.heap.size)
    (h : ∀ v' w', Ros Z w' base v' (R ++ R2) → w.grownBy w' v.ownBlock → Below base w w' → (v ≠ .slice none 0 0 → v' ≠ .slice none 0 0) → wpList Tryz.prog ops Q rest (act.put o.dst v') w') : wpList Tryz.prog ops Q (o :: rest) act w := by
  refine wpList_plain hgd fun K hK => ?_
  obtain ⟨v', w', hrun, h2, h3, h4, h5⟩ := run_append_ros w o.type base v R hown b m c R2 hr hmc hl hbase
  unfold Oper.wp
  simp only [execOp, ho, resolve, invoke, builtin, Sem.run_bind, Sem.run_pure, Result.andThen_ok, List.map_toArray, List.map_cons, List.map_nil, hs, hx, hrun]
  exact hK _ _ (h v' w' h2 h3 h4 h5)
/-- THE REFERENCE'S STREAM in memory: its block y, its spans L, its items R. -/
structure Rst (Z : Nat → Prop) (w : World) (y : Nat) (L : List Sp) (R : List (It × Bd)) (la : Option Addr) (ln lc : Nat) (xa : Option Addr) (xn xc : Nat) : Prop where
  blk : Bk w y #[.slice la ln lc, .slice xa xn xc] 51
  ok : MapOk w la ln lc L
  lz : ∀ ad, la = some ad → Z ad.block
  lt : ∀ ad, la = some ad → ad.block < w.heap.size
  its : Rit Z w xa xn R
  xl : xn ≤ xc
  xm : xc ≤ maxLen
  xnil : xa = none → xc = 0
  zz : ∀ k, w.heap.size ≤ k → Z k
def Ref (Z : Nat → Prop) (w : World) (y : Nat) (L : List Sp) (X : List It) : Prop := ∃ R la ln lc xa xn xc, Rst Z w y L R la ln lc xa xn xc ∧ R.map Prod.fst = X
theorem SpsRd.frame {w w' : World} {a : Option Addr} {n : Nat} {l : List Sp} (h : SpsRd w a n l) (hz : ∀ ad, a = some ad → Z ad.block) (hs : w.heap.size ≤ w'.heap.size) (hk : ∀ k, k < w.heap.size → Z k → HasInt w k → w'.heap[k]? = w.heap[k]?) : SpsRd w' a n l := by
  by_cases hl : l = []
  · exact ⟨h.size, .inl hl⟩
  · obtain ⟨q, hq⟩ : ∃ q, l[0]? = some q := by
      cases l with
      | nil => exact absurd rfl hl
      | cons q r => exact ⟨q, rfl⟩
    refine h.same hs fun ad e hlt => hk _ hlt (hz ad e) (.inl ?_)
    rcases h.cells with h0 | ⟨g, o, ha, hg, hc⟩
    · exact absurd h0 hl
    · rw [ha] at e
      cases e
      exact ⟨_, _, _, (hc 0 q hq).1⟩
/-- It stays where its block does, and all that has a number. -/
theorem Rst.frame {w w' : World} {y : Nat} {L : List Sp} {R : List (It × Bd)} {la : Option Addr} {ln lc : Nat} {xa : Option Addr} {xn xc : Nat} (h : Rst Z w y L R la ln lc xa xn xc) (hs : w.heap.size ≤ w'.heap.size) (hy : w'.heap[y]? = w.heap[y]?) (hk : ∀ k, k < w.heap.size → Z k → HasInt w k → w'.heap[k]? = w.heap[k]?) : Rst Z w' y L R la ln lc xa xn xc :=
  ⟨hy.trans h.blk, ⟨h.ok.rd.frame h.lz hs hk, h.ok.lc, h.ok.cm, h.ok.right⟩, h.lz, fun ad e => Nat.lt_of_lt_of_le (h.lt ad e) hs, h.its.frame hs hk, h.xl, h.xm, h.xnil, fun k hk => h.zz k (Nat.le_trans hs hk)⟩
theorem Rst.stay {w w' : World} {y : Nat} {L : List Sp} {R : List (It × Bd)} {la : Option Addr} {ln lc : Nat} {xa : Option Addr} {xn xc : Nat} (h : Rst Z w y L R la ln lc xa xn xc) (hb : Below w.heap.size w w') : Rst Z w' y L R la ln lc xa xn xc := h.frame hb.size (hb.block y h.blk.lt) fun k hk _ _ => hb.block k hk
theorem Ref.stay {w w' : World} {y : Nat} {L : List Sp} {X : List It} (h : Ref Z w y L X) (hb : Below w.heap.size w w') : Ref Z w' y L X := by
  obtain ⟨R, la, ln, lc, xa, xn, xc, h1, h2⟩ := h
  exact ⟨R, la, ln, lc, xa, xn, xc, h1.stay hb, h2⟩
/-- A block without a number. -/
theorem not_int {w : World} {g : Nat} {cs : Array Value} {t : TypeId} (h : Bk w g cs t) (ht : t ≠ 5) (hc : ∀ (o : Nat) (kd : IntKind) (z : Int), cs[o]? ≠ some (Value.int kd z)) : ¬ HasInt w g := by
  rintro (⟨o, kd, z, ho⟩ | ⟨cs', m, hm⟩)
  · rw [cell_of_row w g o cs _ _ h] at ho
    exact hc o kd z ho
  · rw [h] at hm
    simp only [Option.some.injEq, Obj.cells.injEq] at hm
    exact ht hm.2.1
theorem Rst.noInt {w : World} {y : Nat} {L : List Sp} {R : List (It × Bd)} {la : Option Addr} {ln lc : Nat} {xa : Option Addr} {xn xc : Nat} (h : Rst Z w y L R la ln lc xa xn xc) : ¬ HasInt w y := not_int h.blk (by decide) fun o kd z => by
  match o with
  | 0 => exact fun h => (by cases h)
  | 1 => exact fun h => (by cases h)
  | o + 2 => exact fun h => (by simp at h)
theorem Stm.noInt {w : World} {s m : Nat} {a : Option Addr} {n c : Nat} {l : List Sp} {X : List (Int × Value)} (h : Stm Z w s m a n c l X) : ¬ HasInt w s ∧ ¬ HasInt w m := by
  refine ⟨not_int h.blk (by decide) fun o kd z => ?_, ?_⟩
  · match o with
    | 0 => exact fun h => (by cases h)
    | 1 => exact fun h => (by cases h)
    | o + 2 => exact fun h => (by simp at h)
  · obtain ⟨es, clock, hb, _⟩ := h.items
    rintro (⟨o, kd, z, ho⟩ | ⟨cs', m', hm⟩)
    · unfold World.cell? at ho
      simp only [hb] at ho
      cases ho
    · rw [hb] at hm
      cases hm
/-- Other spans are laid in. -/
theorem Rst.setL {w : World} {y : Nat} {L : List Sp} {R : List (It × Bd)} {la : Option Addr} {ln lc : Nat} {xa : Option Addr} {xn xc : Nat} (h : Rst Z w y L R la ln lc xa xn xc) {la' : Option Addr} {ln' lc' : Nat} {L' : List Sp} (ok : MapOk w la' ln' lc' L') (hz : ∀ ad, la' = some ad → Z ad.block) (hlt : ∀ ad, la' = some ad → ad.block < w.heap.size) : Rst Z (w.setCell ⟨y, 0, none⟩ (.slice la' ln' lc')) y L' R la' ln' lc' xa xn xc := by
  have hs : w.heap.size ≤ (w.setCell ⟨y, 0, none⟩ (.slice la' ln' lc')).heap.size := by rw [World.size_setCell]; exact Nat.le_refl _
  have hk : ∀ k, k < w.heap.size → Z k → HasInt w k → (w.setCell ⟨y, 0, none⟩ (.slice la' ln' lc')).heap[k]? = w.heap[k]? := fun k _ _ hi => heap_setCell_other w ⟨y, 0, none⟩ k _ (by rintro rfl; exact h.noInt hi)
  exact ⟨h.blk.set 0 _, ⟨ok.rd.frame hz hs hk, ok.lc, ok.cm, ok.right⟩, hz, fun ad e => Nat.lt_of_lt_of_le (hlt ad e) hs, h.its.frame hs hk, h.xl, h.xm, h.xnil, fun k hk => h.zz k (Nat.le_trans hs hk)⟩
theorem Rst.setX {w : World} {y : Nat} {L : List Sp} {R : List (It × Bd)} {la : Option Addr} {ln lc : Nat} {xa : Option Addr} {xn xc : Nat} (h : Rst Z w y L R la ln lc xa xn xc) {xa' : Option Addr} {xn' xc' : Nat} {R' : List (It × Bd)} (hi : Rit Z w xa' xn' R') (h1 : xn' ≤ xc') (h2 : xc' ≤ maxLen) (h3 : xa' = none → xc' = 0) : Rst Z (w.setCell ⟨y, 1, none⟩ (.slice xa' xn' xc')) y L R' la ln lc xa' xn' xc' := by
  have hs : w.heap.size ≤ (w.setCell ⟨y, 1, none⟩ (.slice xa' xn' xc')).heap.size := by rw [World.size_setCell]; exact Nat.le_refl _
  have hk : ∀ k, k < w.heap.size → Z k → HasInt w k → (w.setCell ⟨y, 1, none⟩ (.slice xa' xn' xc')).heap[k]? = w.heap[k]? := fun k _ _ hi => heap_setCell_other w ⟨y, 1, none⟩ k _ (by rintro rfl; exact h.noInt hi)
  exact ⟨h.blk.set 1 _, ⟨h.ok.rd.frame h.lz hs hk, h.ok.lc, h.ok.cm, h.ok.right⟩, h.lz, fun ad e => Nat.lt_of_lt_of_le (h.lt ad e) hs, hi.frame hs hk, h1, h2, h3, fun k hk => h.zz k (Nat.le_trans hs hk)⟩
theorem Ros.nn {w : World} {base : Nat} {v : Value} {R : List (It × Bd)} (h : Ros Z w base v R) (hv : v ≠ .slice none 0 0) : ∃ g c, v = .slice (some ⟨g, 0, none⟩) R.length c := by
  rcases h.row.2 with ⟨hn, _⟩ | ⟨g, c, cur, hn, _⟩
  · exact absurd hn hv
  · exact ⟨g, c, hn⟩
/-- What stays where a block without a number turns. -/
theorem Two.ints {y : Nat} {w w' : World} (ht : Two y y w w') (hy : ¬ HasInt w y) : ∀ k, k < w.heap.size → HasInt w k → w'.heap[k]? = w.heap[k]? := fun k hk hi => ht.block k hk (by rintro rfl; exact hy hi) (by rintro rfl; exact hy hi)
theorem Rit.away {y : Nat} {w w' : World} {a : Option Addr} {n : Nat} {R : List (It × Bd)} (h : Rit Z w a n R) (ht : Two y y w w') (hy : ¬ HasInt w y) : Rit Z w' a n R := h.frame ht.size fun k hk _ hi => ht.ints hy k hk hi
theorem SpsRd.away {y : Nat} {w w' : World} {a : Option Addr} {n : Nat} {l : List Sp} (h : SpsRd w a n l) (ht : Two y y w w') (hy : ¬ HasInt w y) : SpsRd w' a n l := h.frame (Z := fun _ => True) (fun _ _ => trivial) ht.size fun k hk _ hi => ht.ints hy k hk hi
theorem MapOk.away {y : Nat} {w w' : World} {a : Option Addr} {n c : Nat} {l : List Sp} (h : MapOk w a n c l) (ht : Two y y w w') (hy : ¬ HasInt w y) : MapOk w' a n c l := ⟨h.rd.away ht hy, h.lc, h.cm, h.right⟩
theorem Rd.away {y : Nat} {w w' : World} {a : Option Addr} {n : Nat} {bs : List Nat} (h : Rd w a n bs) (ht : Two y y w w') (hy : ¬ HasInt w y) : Rd w' a n bs := by
  by_cases hn : n = 0
  · exact ⟨h.size, h.byte, .inl hn⟩
  · refine h.frame ht.size fun ad e hlt => ht.ints hy _ hlt (.inl ?_)
    rcases h.cells with h0 | ⟨g, o, ha, hg, hc⟩
    · exact absurd h0 hn
    · rw [ha] at e
      cases e
      exact ⟨_, _, _, hc 0 (by omega)⟩
theorem ItsRd.away {y : Nat} {w w' : World} {a : Option Addr} {n : Nat} {l : List It} (h : ItsRd w a n l) (ht : Two y y w w') (hy : ¬ HasInt w y) : ItsRd w' a n l := by
  refine ⟨h.size, ?_, h.each⟩
  rcases h.cells with h0 | ⟨g, o, ha, hg, hc⟩
  · exact .inl h0
  · cases l with
    | nil => exact .inl rfl
    | cons q0 r0 =>
      have e := ht.ints hy g hg (.inl ⟨_, _, _, (hc 0 q0 rfl).1⟩)
      refine .inr ⟨g, o, ha, Nat.lt_of_lt_of_le hg ht.size, fun i q hi => ?_⟩
      obtain ⟨k1, k2, ba, bl, bc, k3, k4, k5⟩ := hc i q hi
      exact ⟨(cell_same e _).trans k1, (cell_same e _).trans k2, ba, bl, bc, (cell_same e _).trans k3, k4.away ht hy, k5⟩
end Go.Proofs.YtidihfhgnjkmaaaGreat
/- Six cells of a block are set. -/
namespace Go.Proofs.YtidihfhgnjkmaaaGreat
open Go.RowKit

/-- A step is laid into its block. -/
def set6 (w : World) (g : Nat) (c0 c1 c2 c3 c4 c5 : Value) : World := (((((w.setCell ⟨g, 0, none⟩ c0).setCell ⟨g, 1, none⟩ c1).setCell ⟨g, 2, none⟩ c2).setCell ⟨g, 3, none⟩ c3).setCell ⟨g, 4, none⟩ c4).setCell ⟨g, 5, none⟩ c5
theorem Bk.set6 {w : World} {g : Nat} {d0 d1 d2 d3 d4 d5 : Value} {t : TypeId} (h : Bk w g #[d0, d1, d2, d3, d4, d5] t) (c0 c1 c2 c3 c4 c5 : Value) : Bk (set6 w g c0 c1 c2 c3 c4 c5) g #[c0, c1, c2, c3, c4, c5] t := (((((h.set 0 c0).set 1 c1).set 2 c2).set 3 c3).set 4 c4).set 5 c5
theorem below_set6 {B : Nat} {w0 w : World} {g : Nat} (h : Below B w0 w) (hg : B ≤ g) (c0 c1 c2 c3 c4 c5 : Value) : Below B w0 (set6 w g c0 c1 c2 c3 c4 c5) := (((((h.setCell hg _).setCell hg _).setCell hg _).setCell hg _).setCell hg _).setCell hg _
theorem set6_block {w : World} {g k : Nat} (c0 c1 c2 c3 c4 c5 : Value) (h : k ≠ g) : (set6 w g c0 c1 c2 c3 c4 c5).heap[k]? = w.heap[k]? := by
  unfold Go.Proofs.YtidihfhgnjkmaaaGreat.set6
  rw [heap_setCell_other _ _ _ _ h, heap_setCell_other _ _ _ _ h, heap_setCell_other _ _ _ _ h, heap_setCell_other _ _ _ _ h, heap_setCell_other _ _ _ _ h, heap_setCell_other _ _ _ _ h]
end Go.Proofs.YtidihfhgnjkmaaaGreat
/- grapevineref15: New, place, quiet. -/
namespace Go.Proofs.YtidihfhgnjkmaaaGreat
set_option maxRecDepth 100000
open Go.RowKit
variable {Z : Nat → Prop}

/-- Where a tick's item is, or would be. -/
def placeX : List It → Int → Nat
  | [], _ => 0
  | q :: X, t => if q.tick < t then placeX X t + 1 else 0
def isAtX (X : List It) (t : Int) : Bool := match X[placeX X t]? with | some q => decide (q.tick = t) | none => false
theorem place_le : ∀ (X : List It) (t : Int), placeX X t ≤ X.length
  | [], _ => Nat.le_refl _
  | q :: X, t => by
    rw [placeX]
    have := place_le X t
    split
    · rw [List.length_cons]; omega
    · exact Nat.zero_le _
theorem place_step : ∀ {X : List It} {t : Int} {i : Nat} {q : It}, i ≤ placeX X t → X[i]? = some q → q.tick < t → i + 1 ≤ placeX X t
  | [], _, _, _, _, h, _ => by cases h
  | x :: X, t, 0, q, _, h, hq => by
    simp only [List.getElem?_cons_zero, Option.some.injEq] at h
    subst h
    rw [placeX, if_pos hq]
    omega
  | x :: X, t, i + 1, q, hi, h, hq => by
    rw [List.getElem?_cons_succ] at h
    rw [placeX] at hi ⊢
    split
    · rename_i c
      rw [if_pos c] at hi
      have := place_step (X := X) (t := t) (i := i) (q := q) (by omega) h hq
      omega
    · rename_i c
      rw [if_neg c] at hi
      omega
theorem place_stop : ∀ {X : List It} {t : Int} {i : Nat}, i ≤ placeX X t → (∀ q, X[i]? = some q → ¬ q.tick < t) → i = placeX X t
  | [], _, i, hi, _ => by rw [placeX] at hi ⊢; omega
  | x :: X, t, 0, _, h => by
    rw [placeX, if_neg (h x rfl)]
  | x :: X, t, i + 1, hi, h => by
    rw [placeX] at hi ⊢
    split
    · rename_i c
      rw [if_pos c] at hi
      rw [← place_stop (X := X) (t := t) (i := i) (by omega) fun q hq => h q (by rw [List.getElem?_cons_succ]; exact hq)]
    · rename_i c
      rw [if_neg c] at hi
      omega
theorem isAt_get : ∀ {X : List It} {t : Int}, RiseIt X → (isAtX X t = (getI X t).isSome) ∧ (∀ q, getI X t = some q → X[placeX X t]? = some q)
  | [], t, _ => ⟨rfl, fun q h => by cases h⟩
  | x :: X, t, hr => by
    obtain ⟨h1, h2⟩ := List.pairwise_cons.1 hr
    obtain ⟨i1, i2⟩ := isAt_get (X := X) (t := t) h2
    unfold isAtX at i1 ⊢
    rw [getI, placeX]
    by_cases c : x.tick < t
    · rw [if_pos c, if_neg (by omega), List.getElem?_cons_succ]
      exact ⟨i1, i2⟩
    · rw [if_neg c, List.getElem?_cons_zero]
      by_cases e : x.tick = t
      · rw [if_pos e]
        exact ⟨by simp [e], fun q h => h⟩
      · rw [if_neg e]
        have hn : getI X t = none := getI_none fun q hq => by have := h1 q hq; omega
        rw [hn]
        exact ⟨by simp [e], fun q h => by cases h⟩
theorem ref15_New (w : World) (hZ : ∀ k, w.heap.size ≤ k → Z k) : Calls Tryz.prog 30 #[] w fun e w' => ∃ y, e = .returned (.pointer (some ⟨y, 0, none⟩)) ∧ Ref Z w' y [] [] ∧ w.heap.size ≤ y ∧ Below w.heap.size w w' := by
  go_enter Tryz.func30, Tryz.ntmps30
  go_wp2
  go_ret
  refine ⟨w.heap.size, rfl, ⟨[], none, 0, 0, none, 0, 0, ⟨Bk.new _ _ _, ⟨⟨rfl, .inl rfl⟩, Nat.le_refl _, Nat.zero_le _, trivial⟩, fun _ h => (by cases h), fun _ h => (by cases h), Rit.nil_ _ _, Nat.le_refl _, Nat.zero_le _, fun _ => rfl, fun k hk => hZ k (Nat.le_trans (below_new w _).size hk)⟩, rfl⟩, Nat.le_refl _, below_new _ _⟩
set_option maxHeartbeats 4000000 in
theorem ref_place {w : World} {y : Nat} {L : List Sp} {R : List (It × Bd)} {la : Option Addr} {ln lc : Nat} {xa : Option Addr} {xn xc : Nat} (h : Rst Z w y L R la ln lc xa xn xc) (t : Int) :
    Calls Tryz.prog 75 #[.pointer (some ⟨y, 0, none⟩), .int .i64 t] w fun e w' => e = .returned (.tuple #[.int .i64 (placeX (R.map Prod.fst) t : Int), .bool (isAtX (R.map Prod.fst) t)]) ∧ Below w.heap.size w w' := by
  have HI : Hid (Rit Z w xa xn R) := h.its
  have c1 : w.cell? ⟨y, 1, none⟩ = some (.slice xa xn xc) := h.blk.cell 1 rfl
  have hxn : xn ≤ 9223372036854775807 := Nat.le_trans h.xl (Nat.le_trans h.xm (by decide))
  have HL : Hid (R.length = xn) := h.its.size
  obtain ⟨P, HP⟩ : ∃ P, Hid (placeX (R.map Prod.fst) t = P) := ⟨_, rfl⟩
  obtain ⟨b, HB⟩ : ∃ b, Hid (isAtX (R.map Prod.fst) t = b) := ⟨_, rfl⟩
  rw [HP.out, HB.out]
  clear h
  go_enter Tryz.func75, Tryz.ntmps75
  go_wp2
  go_loopw [6] (fun t6 wr => ∃ i : Nat, t6 = .int .i64 (i : Int) ∧ i ≤ xn ∧ Hid (i ≤ P) ∧ wr = w) (fun t6 _ => xn - (intOf t6).toNat)
  case atStart => exact ⟨0, rfl, Nat.zero_le _, Nat.zero_le _, rfl⟩
  case round =>
    obtain ⟨i, rfl, hi, HIP, rfl⟩ := hrel
    by_cases hlt : i < xn
    · have hlt' : (i : Int) < (xn : Int) := by omega
      have gi : (0 : Int) ≤ (i : Int) := by omega
      obtain ⟨g, o, rfl, hg, x, hx, d0, d1, d2⟩ := HI.out.at_ i hlt
      have HX : Hid ((R.map Prod.fst)[i]? = some x.1) := by (show _ = _); rw [List.getElem?_map, hx]; rfl
      obtain ⟨⟨qt, qf, qb⟩, bd⟩ := x
      simp only at d0 d1 d2 HX
      clear hx
      by_cases hq : qt < t
      · have HN : Hid (i + 1 ≤ P) := by
          have h1 := HIP.out
          rw [← HP.out] at h1
          (show _ ≤ _)
          rw [← HP.out]
          exact place_step h1 HX.out hq
        clear d1 d2
        go_wp2
        go_roundw
        case rel => exact ⟨i + 1, by go_num, by omega, HN, trivial⟩
        case measure => simp [intOf]; omega
      · have HN : Hid (i = P) := by
          have h1 := HIP.out
          rw [← HP.out] at h1
          (show _ = _)
          rw [← HP.out]
          exact place_stop h1 fun q hq' => by rw [HX.out] at hq'; cases hq'; exact hq
        have HBB : Hid (b = decide (qt = t)) := by
          (show _ = _)
          rw [← HB.out]
          unfold isAtX
          rw [HP.out, ← HN.out, HX.out]
        by_cases hqt : qt = t
        · have k1 : (qt == t) = true := by rw [beq_iff_eq]; exact hqt
          have hd1 : decide ((i : Int) < (xn : Int)) = true := decide_eq_true hlt'
          have HQT : Hid (qt = t) := hqt
          clear hqt d1 d2
          go_upto_region 4 with fail
          go_quiet (fail)
          go_wp2
          go_returns
          exact ⟨by rw [HBB.out, ← HN.out, decide_eq_true HQT.out]; rfl, below_drews (Below.refl _ _) _⟩
        · have k1 : (qt == t) = false := by rw [beq_eq_false_iff_ne]; exact hqt
          have hd1 : decide ((i : Int) < (xn : Int)) = true := decide_eq_true hlt'
          have HQT : Hid (¬ qt = t) := hqt
          clear hqt d1 d2
          go_upto_region 4 with fail
          go_quiet (fail)
          go_wp2
          go_returns
          exact ⟨by rw [HBB.out, ← HN.out, decide_eq_false HQT.out]; rfl, below_drews (Below.refl _ _) _⟩
    · have hnl : ¬ (i : Int) < (xn : Int) := by omega
      have hd1 : decide ((i : Int) < (xn : Int)) = false := decide_eq_false hnl
      have HNO : Hid ((R.map Prod.fst)[i]? = none) := by (show _ = _); rw [List.getElem?_eq_none]; rw [List.length_map, HL.out]; omega
      have HN : Hid (i = P) := by
        have h1 := HIP.out
        rw [← HP.out] at h1
        (show _ = _)
        rw [← HP.out]
        exact place_stop h1 fun q hq' => by rw [HNO.out] at hq'; cases hq'
      have HBB : Hid (b = false) := by
        (show _ = _)
        rw [← HB.out]
        unfold isAtX
        rw [HP.out, ← HN.out, HNO.out]
      go_upto_region 4 with fail
      go_quiet (fail)
      go_wp2
      go_returns
      exact ⟨by rw [HBB.out, ← HN.out]; rfl, below_drews (Below.refl _ _) _⟩
end Go.Proofs.YtidihfhgnjkmaaaGreat
/- grapevineref15: quiet. -/
namespace Go.Proofs.YtidihfhgnjkmaaaGreat
set_option maxRecDepth 100000
open Go.RowKit
variable {Z : Nat → Prop}

def quietR (L : List Sp) (R : List (It × Bd)) : List (It × Bd) := R.filter fun x => decide (atS L x.1.tick = 0)
theorem quietR_map (L : List Sp) : ∀ R : List (It × Bd), (quietR L R).map Prod.fst = quietX L (R.map Prod.fst)
  | [] => rfl
  | x :: R => by
    have ih := quietR_map L R
    unfold quietR quietX at ih ⊢
    rw [List.map_cons, List.filter_cons, List.filter_cons]
    by_cases h : atS L x.1.tick = 0
    · simp [h, ih]
    · simp [h, ih]
theorem quietR_snoc (L : List Sp) (R : List (It × Bd)) (x : It × Bd) : quietR L (R ++ [x]) = quietR L R ++ (if atS L x.1.tick = 0 then [x] else []) := by
  unfold quietR
  rw [List.filter_append]
  by_cases h : atS L x.1.tick = 0
  · simp [h]
  · simp [h]
theorem Ros.under {w : World} {base : Nat} {v : Value} {R : List (It × Bd)} (h : Ros Z w base v R) (g i : Nat) (u : Value) (hg : g < base) (hn : ¬ HasInt w g) : Ros Z (w.setCell ⟨g, i, none⟩ u) base v R := by
  refine ⟨ownsRow_setCell_below h.row hg u, fun x hx => (h.bod x hx).frame (by rw [World.size_setCell]; exact Nat.le_refl _) fun k _ _ hi => heap_setCell_other w ⟨g, i, none⟩ k _ (by rintro rfl; exact hn hi), h.each⟩
/-- What quiet leaves: a row of its own. -/
structure OwnX (Z : Nat → Prop) (B : Nat) (w : World) (y : Nat) (L : List Sp) (R : List (It × Bd)) (la : Option Addr) (ln lc : Nat) (xa : Option Addr) (xn xc : Nat) : Prop where
  st : Rst Z w y L R la ln lc xa xn xc
  own : Ros Z w B (.slice xa xn xc) R
  nn : ∃ g, xa = some ⟨g, 0, none⟩
  lo : ∀ ad, la = some ad → ad.block < B
  yB : y < B
  hB : B ≤ w.heap.size
set_option maxHeartbeats 4000000 in
theorem ref_quiet {w : World} {y : Nat} {L : List Sp} {R : List (It × Bd)} {la : Option Addr} {ln lc : Nat} {xa : Option Addr} {xn xc : Nat} (h : Rst Z w y L R la ln lc xa xn xc) (hxn : xn ≤ 1000000) :
    Calls Tryz.prog 74 #[.pointer (some ⟨y, 0, none⟩)] w fun e w' => e = .returned (.tuple #[]) ∧ (∃ xa' xn' xc', OwnX Z w.heap.size w' y L (quietR L R) la ln lc xa' xn' xc') ∧ Two y y w w' := by
  have HS : Hid (Rst Z w y L R la ln lc xa xn xc) := h
  have hyl := h.blk.lt
  have HLN : Hid (R.length = xn) := h.its.size
  clear h
  have HB1 : Hid (Below w.heap.size w (w.alloc (.cells #[] 54))) := below_new _ _
  go_enter Tryz.func74, Tryz.ntmps74
  go_wp2
  go_loopw [2, 3] (fun t2 t3 wr => ∃ i : Nat, t3 = .int .i64 (i : Int) ∧ i ≤ xn ∧ Hid (Ros Z wr w.heap.size t2 (quietR L (R.take i))) ∧ Hid (Below w.heap.size w wr) ∧ Hid (t2 ≠ .slice none 0 0)) (fun _ t3 _ => xn - (intOf t3).toNat)
  case atStart => exact ⟨0, rfl, Nat.zero_le _, Ros.empty w, HB1, fun h => (by cases h)⟩
  case round =>
    obtain ⟨i, rfl, hi, HO, HB, HNN⟩ := hrel
    have HSR : Hid (Rst Z wr y L R la ln lc xa xn xc) := HS.out.stay HB.out
    have c0 : wr.cell? ⟨y, 0, none⟩ = some (.slice la ln lc) := HSR.out.blk.cell 0 rfl
    have c1 : wr.cell? ⟨y, 1, none⟩ = some (.slice xa xn xc) := HSR.out.blk.cell 1 rfl
    obtain ⟨av, cv, hv, _⟩ := HO.out.form
    obtain ⟨nv, HNV⟩ : ∃ nv, Hid ((quietR L (R.take i)).length = nv) := ⟨_, rfl⟩
    rw [HNV.out] at hv
    subst hv
    by_cases hlt : i < xn
    · have hlt' : (i : Int) < (xn : Int) := by omega
      have gi : (0 : Int) ≤ (i : Int) := by omega
      obtain ⟨g, o, rfl, hg, x, hx, d0, d1, d2⟩ := HSR.out.its.at_ i hlt
      have HTK : Hid (R.take (i + 1) = R.take i ++ [x]) := by
        (show _ = _)
        have hil : i < R.length := by rw [HLN.out]; exact hlt
        rw [List.take_succ_eq_append_getElem hil]
        have := List.getElem?_eq_getElem hil
        rw [this] at hx
        rw [Option.some.inj hx]
      have HQ : Hid (quietR L (R.take (i + 1)) = quietR L (R.take i) ++ (if atS L x.1.tick = 0 then [x] else [])) := by (show _ = _); rw [HTK.out, quietR_snoc]
      have HBD : Hid (BdT Z wr x.2 x.1.body ∧ ItIn x.1) := ⟨HSR.out.its.bod x (List.mem_of_getElem? hx), HSR.out.its.each x (List.mem_of_getElem? hx)⟩
      have HNL : Hid ((quietR L (R.take i)).length ≤ 1000000000000) := by
        (show _ ≤ _)
        have h1 : (quietR L (R.take i)).length ≤ (R.take i).length := List.length_filter_le _ _
        rw [List.length_take] at h1
        omega
      obtain ⟨⟨qt, qf, qb⟩, ba, bl, bc⟩ := x
      simp only at d0 d1 d2
      have HAT : Hid (∀ n, Calls Tryz.prog 24 #[.slice la ln lc, .int .i64 qt] (wr.drewN n) fun e w' => e = .returned (.int .i64 (atS L qt)) ∧ w' = wr.drewN n) := fun n => ref_At la ln lc L qt (wr.drewN n) (HSR.out.ok.rd.below (below_drews (Below.refl _ _) n)) HSR.out.ok.len
      clear hx HTK
      simp only at HQ
      by_cases ha : atS L qt = 0
      · rw [if_pos ha] at HQ
        rw [ha] at HAT
        clear ha
        go_upto_region 4 with fail
        go_quiet ((go_at_call 24; exact Calls.quiet_of_same (HAT.out _)))
        obtain ⟨wq, HWQ⟩ : ∃ W, Hid (W = wr.drewN nq) := ⟨_, rfl⟩
        rw [← HWQ.out]
        have HBQ : Hid (Below wr.heap.size wr wq) := by (show Below _ _ _); rw [HWQ.out]; exact below_drews (Below.refl _ _) _
        have HSQ : Hid (Rst Z wq y L R la ln lc (some ⟨g, o, none⟩) xn xc) := HSR.out.stay HBQ.out
        have HOQ : Hid (Ros Z wq w.heap.size (.slice av nv cv) (quietR L (R.take i))) := HO.out.below HBQ.out
        have e1 : wq.cell? ⟨y, 1, none⟩ = some (.slice (some ⟨g, o, none⟩) xn xc) := HSQ.out.blk.cell 1 rfl
        have q0 : wq.cell? ⟨g, o + i * 3, none⟩ = some (.int .i64 qt) := (HBQ.out.cell (p := ⟨g, o + i * 3, none⟩) hg).trans d0
        have q1 : wq.cell? ⟨g, o + i * 3 + 1, none⟩ = some (.int .u32 qf) := (HBQ.out.cell (p := ⟨g, o + i * 3 + 1, none⟩) hg).trans d1
        have q2 : wq.cell? ⟨g, o + i * 3 + 2, none⟩ = some (.slice ba bl bc) := (HBQ.out.cell (p := ⟨g, o + i * 3 + 2, none⟩) hg).trans d2
        have HBB : Hid (Below wq.heap.size wq (wq.alloc (.cells #[.int .i64 qt, .int .u32 qf, .slice ba bl bc] 54))) := below_new _ _
        have HNW : Hid (Bk (wq.alloc (.cells #[.int .i64 qt, .int .u32 qf, .slice ba bl bc] 54)) wq.heap.size #[.int .i64 qt, .int .u32 qf, .slice ba bl bc] 54) := Bk.new _ _ _
        have HSZ : Hid (w.heap.size ≤ (wq.alloc (.cells #[.int .i64 qt, .int .u32 qf, .slice ba bl bc] 54)).heap.size) := Nat.le_trans HB.out.size (Nat.le_trans HBQ.out.size HBB.out.size)
        clear d0 d1 d2 c0 c1 HAT
        go_wp2_with (at_builtin; refine wpList_append_ro (Z := Z) rfl (.tmp 28) (.tmp 36) rfl w.heap.size _ (quietR L (R.take i)) rfl (HOQ.out.below HBB.out) ⟨wq.heap.size, 0, none⟩ 1 (⟨qt, qf, qb⟩, ba, bl, bc) rfl (item_told HNW.out) (HBD.out.1.frame (Nat.le_trans HBQ.out.size HBB.out.size) fun k hk _ _ => (HBB.out.block k (Nat.lt_of_lt_of_le hk HBQ.out.size)).trans (HBQ.out.block k hk)) HBD.out.2 HNL.out HSZ.out ?_; intro v5 w5 hs5 hg5 hb5 hn5)
        have HN5 : Hid (v5 ≠ .slice none 0 0) := hn5 HNN.out
        have HS5 : Hid (Ros Z w5 w.heap.size v5 (quietR L (R.take (i + 1)))) := by (show Ros _ _ _ _ _); rw [HQ.out]; exact hs5
        have HB5 : Hid (Below w.heap.size w w5) := (HB.out.trans (HBQ.out.mono HB.out.size)).trans ((HBB.out.mono (Nat.le_trans HB.out.size HBQ.out.size)).trans hb5)
        clear hs5 hg5 hb5 hn5 e1 q0 q1 q2
        go_wp2
        go_roundw
        case rel => exact ⟨i + 1, by go_num, by omega, HS5, HB5, HN5⟩
        case measure => simp [intOf]; omega
      · rw [if_neg ha, List.append_nil] at HQ
        have k1 : ((atS L qt) == 0) = false := by rw [beq_eq_false_iff_ne]; exact ha
        clear ha
        go_upto_region 4 with fail
        go_quiet ((go_at_call 24; exact Calls.quiet_of_same (HAT.out _)))
        have HBQ : Hid (Below wr.heap.size wr (wr.drewN nq)) := below_drews (Below.refl _ _) _
        have HS5 : Hid (Ros Z (wr.drewN nq) w.heap.size (.slice av nv cv) (quietR L (R.take (i + 1)))) := by (show Ros _ _ _ _ _); rw [HQ.out]; exact HO.out.below HBQ.out
        have HB5 : Hid (Below w.heap.size w (wr.drewN nq)) := HB.out.trans (HBQ.out.mono HB.out.size)
        go_wp2
        go_roundw
        case rel => exact ⟨i + 1, by go_num, by omega, HS5, HB5, HNN⟩
        case measure => simp [intOf]; omega
    · have hnl : ¬ (i : Int) < (xn : Int) := by omega
      obtain rfl : i = xn := by omega
      have HOF : Hid (Ros Z wr w.heap.size (.slice av nv cv) (quietR L R)) := by
        have h1 := HO.out
        rw [← HLN.out, List.take_length] at h1
        exact h1
      have f1 := HSR.out.blk.free 1
      clear HO
      go_wp2
      refine ⟨rfl, _, results_none rfl _ _ _, rfl, ?_, ?_⟩
      · obtain ⟨a2, c2, hv2, hl2, hm2, hn2, _⟩ := HOF.out.form
        simp only [Value.slice.injEq] at hv2
        obtain ⟨rfl, hnn, rfl⟩ := hv2
        have hrit : Rit Z wr av nv (quietR L R) := HOF.out.rit fun k hk => HS.out.zz k hk
        obtain ⟨g3, c3, hv3⟩ := HOF.out.nn HNN.out
        simp only [Value.slice.injEq] at hv3
        exact ⟨av, nv, cv, HSR.out.setX hrit (by omega) hm2 hn2, HOF.out.under y 1 _ hyl HSR.out.noInt, ⟨g3, hv3.1⟩, HS.out.lt, hyl, by rw [World.size_setCell]; exact HB.out.size⟩
      · exact (Two.of_below y y HB.out).setCell 1 _
end Go.Proofs.YtidihfhgnjkmaaaGreat
/- The reference's Learn: an item more, in a row of one's own. -/
namespace Go.Proofs.YtidihfhgnjkmaaaGreat
set_option maxRecDepth 100000
open Go.RowKit
variable {Z : Nat → Prop}

theorem keepX_there (L : List Sp) (y : It) : ∀ X : List It, isAtX X y.tick = true → ∃ q, X[placeX X y.tick]? = some q ∧ q.tick = y.tick ∧ keepX L y X = X.set (placeX X y.tick) ⟨q.tick, orI q.for_ y.for_, q.body⟩
  | [], h => by cases h
  | x :: X, h => by
    rw [keepX]
    unfold isAtX at h
    rw [placeX] at h ⊢
    by_cases c : x.tick < y.tick
    · rw [if_pos c, List.getElem?_cons_succ] at h
      obtain ⟨q, h1, h2, h3⟩ := keepX_there L y X h
      refine ⟨q, ?_, h2, ?_⟩
      · rw [if_pos c, List.getElem?_cons_succ]; exact h1
      · rw [if_pos c, if_pos c, List.set_cons_succ, h3]
    · rw [if_neg c, List.getElem?_cons_zero] at h
      have e : x.tick = y.tick := of_decide_eq_true h
      refine ⟨x, ?_, e, ?_⟩
      · rw [if_neg c]; rfl
      · rw [if_neg c, if_pos e, if_neg c]; rfl
theorem keepX_new (L : List Sp) (y : It) (h0 : atS L y.tick = 0) : ∀ X : List It, isAtX X y.tick = false → keepX L y X = X.take (placeX X y.tick) ++ y :: X.drop (placeX X y.tick)
  | [], _ => by rw [keepX, if_pos h0]; rfl
  | x :: X, h => by
    rw [keepX]
    unfold isAtX at h
    rw [placeX] at h ⊢
    by_cases c : x.tick < y.tick
    · rw [if_pos c, List.getElem?_cons_succ] at h
      rw [if_pos c, if_pos c, keepX_new L y h0 X h]
      rfl
    · rw [if_neg c, List.getElem?_cons_zero] at h
      have e : ¬ x.tick = y.tick := of_decide_eq_false h
      rw [if_neg c, if_neg c, if_neg e, if_pos h0]
      rfl
theorem keepX_none (L : List Sp) (y : It) (h0 : ¬ atS L y.tick = 0) : ∀ X : List It, isAtX X y.tick = false → keepX L y X = X
  | [], _ => by rw [keepX, if_neg h0]
  | x :: X, h => by
    rw [keepX]
    unfold isAtX at h
    rw [placeX] at h
    by_cases c : x.tick < y.tick
    · rw [if_pos c, List.getElem?_cons_succ] at h
      rw [if_pos c, keepX_none L y h0 X h]
    · rw [if_neg c, List.getElem?_cons_zero] at h
      have e : ¬ x.tick = y.tick := of_decide_eq_false h
      rw [if_neg c, if_neg e, if_neg h0]
/-- The reference's join, in a row of its own. -/
theorem ref_Join_new {a b : Option Addr} {na ca nb cb : Nat} {la lb : List Sp} {w : World} (ha : MapOk w a na ca la) (hb : MapOk w b nb cb lb) :
    Calls Tryz.prog 42 #[.slice a na ca, .slice b nb cb] w fun e w' => (∃ av nv cv l, e = .returned (.tuple #[.slice av nv cv, .int .i64 0]) ∧ Hid (MapOk w' av nv cv l) ∧ Hid (∀ ad, av = some ad → w.heap.size ≤ ad.block ∧ ad.block < w'.heap.size) ∧ Hid (∀ t, atS l t = max (atS la t) (atS lb t))) ∧ Below w.heap.size w w' := by
  refine (ref_Join a b na ca nb cb la lb w ha.rd hb.rd (by rw [← ha.rd.size]; exact right_short ha.right) (by rw [← hb.rd.size]; exact right_short hb.right)).mono ?_
  rintro e w1 ⟨hj, hb1⟩
  refine ⟨?_, hb1⟩
  rcases hj.out with ⟨hbad, _⟩ | ⟨_, _, v, l, rfl, hv, hr, ht⟩
  · exfalso
    have h1 := (rightB_iff _ _).2 ha.right
    have h2 := (rightB_iff _ _).2 hb.right
    rcases hbad with h | h
    · rw [h1] at h; cases h
    · rw [h2] at h; cases h
  · obtain ⟨av, nv, cv, rfl, hm⟩ := hv.ok hr
    refine ⟨av, nv, cv, l, rfl, hm, fun ad had => ?_, ht⟩
    subst had
    rcases hv.row.2 with ⟨h1, _⟩ | ⟨g', c', cur, h1, h2, h3, _⟩
    · simp at h1
    · simp only [Value.slice.injEq, Option.some.injEq] at h1
      rw [h1.1]
      exact ⟨h2, (Array.getElem?_eq_some_iff.1 h3).1⟩
theorem BdT.typed {w w' : World} {b : Bd} {bs : List Nat} (h : BdT Z w b bs) (hs : w.heap.size ≤ w'.heap.size) (hk : ∀ (k : Nat) cs m, w.heap[k]? = some (Obj.cells cs 5 m) → w'.heap[k]? = w.heap[k]?) : BdT Z w' b bs := by
  have e : ∀ ad, b.1 = some ad → w'.heap[ad.block]? = w.heap[ad.block]? := fun ad ha => let ⟨cs, m, hc⟩ := h.ty ad ha; hk _ cs m hc
  refine ⟨h.rd.frame hs fun ad ha _ => e ad ha, h.nil_, h.lc, h.cm, h.z, fun ad ha => ?_, fun ad ha => ?_⟩
  · obtain ⟨cs, m, hc⟩ := h.ty ad ha
    exact ⟨cs, m, (e ad ha).trans hc⟩
  · obtain ⟨cs, hc⟩ := h.open_ ad ha
    exact ⟨cs, (e ad ha).trans hc⟩
theorem irow_set : ∀ (R : List (It × Bd)) (k : Nat) (x : It × Bd) (f : Int), R[k]? = some x → (irow R).set (k * 3 + 1) (.int .u32 f) = irow (R.set k (⟨x.1.tick, f, x.1.body⟩, x.2))
  | [], k, x, f, h => by cases h
  | y :: R, 0, x, f, h => by
    simp only [List.getElem?_cons_zero, Option.some.injEq] at h
    subst h
    rw [irow, List.set_cons_zero, irow]
    rfl
  | y :: R, k + 1, x, f, h => by
    rw [List.getElem?_cons_succ] at h
    have e : (icells y.1 y.2).length = 3 := rfl
    rw [irow, List.set_cons_succ, irow, List.set_append_right _ _ (by rw [e]; omega), e, show (k + 1) * 3 + 1 - 3 = k * 3 + 1 from by omega, irow_set R k x f h]
/-- Those for whom an item is are set. -/
theorem OwnX.setFor {B : Nat} {w : World} {y g : Nat} {L : List Sp} {R : List (It × Bd)} {la : Option Addr} {ln lc xn xc : Nat} (h : OwnX Z B w y L R la ln lc (some ⟨g, 0, none⟩) xn xc) {k : Nat} {x : It × Bd} (hx : R[k]? = some x) (f : Int) (hf : 0 ≤ f ∧ f ≤ 4294967295) (hz : ∀ k, B ≤ k → Z k) :
    OwnX Z B (w.setCell ⟨g, k * 3 + 1, none⟩ (.int .u32 f)) y L (R.set k (⟨x.1.tick, f, x.1.body⟩, x.2)) la ln lc (some ⟨g, 0, none⟩) xn xc ∧ B ≤ g ∧ w.frozen? ⟨g, k * 3 + 1, none⟩ = false := by
  obtain ⟨cur, hcur, hBg⟩ : ∃ cur, w.heap[g]? = some (.cells cur 54 (0, 0)) ∧ B ≤ g := by
    rcases h.own.row.2 with ⟨hn, _⟩ | ⟨g', c, cur, hn, hb, hg, _⟩
    · cases hn
    · simp only [Value.slice.injEq, Option.some.injEq, Addr.mk.injEq, and_true] at hn
      obtain ⟨rfl, _⟩ := hn
      exact ⟨cur, hg, hb⟩
  have hs : w.heap.size ≤ (w.setCell ⟨g, k * 3 + 1, none⟩ (.int .u32 f)).heap.size := by rw [World.size_setCell]; exact Nat.le_refl _
  have hxn : xn = R.length := h.st.its.size.symm
  subst hxn
  have hrow := (h.own.row.stored (k * 3 + 1) (.int .u32 f)).1
  rw [irow_set R k x f hx] at hrow
  have hty : ∀ (j : Nat) cs m, w.heap[j]? = some (Obj.cells cs 5 m) → (w.setCell ⟨g, k * 3 + 1, none⟩ (.int .u32 f)).heap[j]? = w.heap[j]? := fun j cs m hj => heap_setCell_other w ⟨g, k * 3 + 1, none⟩ j _ (by
    rintro rfl
    rw [hcur] at hj
    simp only [Option.some.injEq, Obj.cells.injEq] at hj
    exact absurd hj.2.1 (by decide))
  have hset : ∀ z ∈ R.set k (⟨x.1.tick, f, x.1.body⟩, x.2), z ∈ R ∨ z = (⟨x.1.tick, f, x.1.body⟩, x.2) := fun z hz => List.mem_or_eq_of_mem_set hz
  have hxm := List.mem_of_getElem? hx
  have hros : Ros Z (w.setCell ⟨g, k * 3 + 1, none⟩ (.int .u32 f)) B (.slice (some ⟨g, 0, none⟩) R.length xc) (R.set k (⟨x.1.tick, f, x.1.body⟩, x.2)) := by
    refine ⟨?_, fun z hz => ?_, fun z hz => ?_⟩
    · rw [List.length_set]; exact hrow
    · rcases hset z hz with hz | rfl
      · exact (h.own.bod z hz).typed hs hty
      · exact (h.own.bod x hxm).typed hs hty
    · rcases hset z hz with hz | rfl
      · exact h.own.each z hz
      · exact ⟨(h.own.each x hxm).1, hf⟩
  refine ⟨⟨⟨?_, ?_, h.st.lz, fun ad e => Nat.lt_of_lt_of_le (h.st.lt ad e) hs, hros.rit hz, h.st.xl, h.st.xm, h.st.xnil, fun k hk => h.st.zz k (Nat.le_trans hs hk)⟩, hros, h.nn, h.lo, h.yB, Nat.le_trans h.hB hs⟩, hBg, frozen_of_row w g _ cur _ hcur⟩
  · exact h.st.blk.other ⟨g, k * 3 + 1, none⟩ _ (by have := h.yB; show y ≠ g; omega)
  · exact ⟨h.st.ok.rd.same hs fun ad e _ => heap_setCell_other w ⟨g, k * 3 + 1, none⟩ _ _ (by have := h.lo ad e; show ad.block ≠ g; omega), h.st.ok.lc, h.st.ok.cm, h.st.ok.right⟩
theorem OwnX.below {B : Nat} {w w' : World} {y : Nat} {L : List Sp} {R : List (It × Bd)} {la : Option Addr} {ln lc : Nat} {xa : Option Addr} {xn xc : Nat} (h : OwnX Z B w y L R la ln lc xa xn xc) (hb : Below w.heap.size w w') : OwnX Z B w' y L R la ln lc xa xn xc := ⟨h.st.stay hb, h.own.below hb, h.nn, h.lo, h.yB, Nat.le_trans h.hB hb.size⟩
/-- Another row is laid in. -/
theorem OwnX.setX {B : Nat} {w : World} {y : Nat} {L : List Sp} {R : List (It × Bd)} {la : Option Addr} {ln lc : Nat} {xa : Option Addr} {xn xc : Nat} (h : OwnX Z B w y L R la ln lc xa xn xc) (hz : ∀ k, B ≤ k → Z k) {v : Value} {R' : List (It × Bd)} (hr : Ros Z w B v R') (hv : v ≠ .slice none 0 0) :
    ∃ g c, v = .slice (some ⟨g, 0, none⟩) R'.length c ∧ OwnX Z B (w.setCell ⟨y, 1, none⟩ v) y L R' la ln lc (some ⟨g, 0, none⟩) R'.length c := by
  obtain ⟨g, c, rfl⟩ := hr.nn hv
  obtain ⟨a2, c2, hv2, hl2, hm2, hn2, _⟩ := hr.form
  simp only [Value.slice.injEq, true_and] at hv2
  obtain ⟨rfl, rfl⟩ := hv2
  exact ⟨g, c, rfl, h.st.setX (hr.rit hz) hl2 hm2 hn2, hr.under y 1 _ h.yB h.st.noInt, ⟨g, rfl⟩, h.lo, h.yB, by rw [World.size_setCell]; exact h.hB⟩
theorem map_set {R : List (It × Bd)} {k : Nat} {x : It × Bd} (f : Int) : (R.set k (⟨x.1.tick, f, x.1.body⟩, x.2)).map Prod.fst = (R.map Prod.fst).set k ⟨x.1.tick, f, x.1.body⟩ := by rw [List.map_set]
end Go.Proofs.YtidihfhgnjkmaaaGreat
/- The reference's Learn of any Tell that may be. -/
namespace Go.Proofs.YtidihfhgnjkmaaaGreat
set_option maxRecDepth 100000
open Go.RowKit
variable {Z : Nat → Prop}

/-- What Learn tells. -/
def RefLearn (Z : Nat → Prop) (y : Nat) (L : List Sp) (X : List It) (p : Pc) (w : World) (e : Ending) (w' : World) : Prop := ∃ L1, Joins L p.spans L1 ∧ (∃ r : Bool, e = .returned (.tuple #[.bool r, .int .i64 0]) ∧ (r = true ↔ ¬ (L1 = L ∧ tf (learnX L1 X p) = tf X))) ∧ Ref Z w' y L1 (learnX L1 X p) ∧ Two y y w w'
theorem Rst.away {y2 : Nat} {w w' : World} {y : Nat} {L : List Sp} {R : List (It × Bd)} {la : Option Addr} {ln lc : Nat} {xa : Option Addr} {xn xc : Nat} (h : Rst Z w y L R la ln lc xa xn xc) (ht : Two y2 y2 w w') (hy : ¬ HasInt w y2) (hne : y ≠ y2) : Rst Z w' y L R la ln lc xa xn xc := h.frame ht.size (ht.block y h.blk.lt hne hne) fun k hk _ hi => ht.ints hy k hk hi
/-- An item more. -/
def keepR (L : List Sp) (q : It) (bd : Bd) (R : List (It × Bd)) : List (It × Bd) :=
  match R[placeX (R.map Prod.fst) q.tick]? with
  | some x => if x.1.tick = q.tick then R.set (placeX (R.map Prod.fst) q.tick) (⟨x.1.tick, orI x.1.for_ q.for_, x.1.body⟩, x.2) else if atS L q.tick = 0 then R.take (placeX (R.map Prod.fst) q.tick) ++ (q, bd) :: R.drop (placeX (R.map Prod.fst) q.tick) else R
  | none => if atS L q.tick = 0 then R.take (placeX (R.map Prod.fst) q.tick) ++ (q, bd) :: R.drop (placeX (R.map Prod.fst) q.tick) else R
set_option maxHeartbeats 8000000 in
theorem ref_Learn {w : World} {y : Nat} {L : List Sp} {R : List (It × Bd)} {la : Option Addr} {ln lc : Nat} {xa : Option Addr} {xn xc : Nat} (h : Rst Z w y L R la ln lc xa xn xc) (hX : xn ≤ 64) {p : Pc} (hp : TellOk p) {sa : Option Addr} {sn sc : Nat} {ia : Option Addr} {im ic : Nat} (hr : PcRd w p sa sn sc ia im ic) :
    Calls Tryz.prog 50 #[.pointer (some ⟨y, 0, none⟩), p.val sa sn sc ia im ic] w fun e w' => RefLearn Z y L (R.map Prod.fst) p w e w' := by
  have HS : Hid (Rst Z w y L R la ln lc xa xn xc) := h
  have hyl := h.blk.lt
  have HRL : Hid (R.length = xn) := h.its.size
  have HPR : Hid (PcRd w p sa sn sc ia im ic) := hr
  have h8 := (chk_tell hp.kind hp.chk).2.1
  have HIM : Hid (p.items.length = im ∧ im ≤ 8) := ⟨hr.items.size, by have := hr.items.size; omega⟩
  have him := HIM.out.2
  have HE : Hid (∀ q ∈ p.items, (1 ≤ q.tick ∧ q.tick ≤ 1099511627776) ∧ (0 ≤ q.for_ ∧ q.for_ ≤ 4294967295) ∧ q.body.length ≤ 400) := hp.each
  have HRT : Hid (RightS Sp.zr p.spans) := hp.right
  have hkind := hp.kind
  have HCH : Hid (chk p = 0) := hp.chk
  obtain ⟨POST, HPO⟩ : ∃ P : Ending → World → Prop, Hid (P = fun e w' => RefLearn Z y L (R.map Prod.fst) p w e w') := ⟨_, rfl⟩
  have hpost : (fun e w' => RefLearn Z y L (R.map Prod.fst) p w e w') = fun e w' => POST e w' := HPO.out.symm
  rw [hpost]
  clear hpost h hr hp h8
  obtain ⟨pk, pp, ps, pn, pf, pt, pl, pi⟩ := p
  simp only at hkind HIM HE HRT
  subst hkind
  obtain ⟨W1, HW1⟩ : ∃ W1, Hid (W1 = w.alloc (.cells #[.int .i64 1, .int .i64 pp, .int .i64 ps, .int .i64 pn, .int .i64 pf, .int .i64 pt, .slice sa sn sc, .slice ia im ic] 33)) := ⟨_, rfl⟩
  have HX1 : Hid (Below w.heap.size w W1) := by (show Below _ _ _); rw [HW1.out]; exact below_new w _
  have HK1 : Hid (Bk W1 w.heap.size #[.int .i64 1, .int .i64 pp, .int .i64 ps, .int .i64 pn, .int .i64 pf, .int .i64 pt, .slice sa sn sc, .slice ia im ic] 33) := by (show Bk _ _ _ _); rw [HW1.out]; exact Bk.new w _ _
  have HP1 : Hid (PcRd W1 ⟨1, pp, ps, pn, pf, pt, pl, pi⟩ sa sn sc ia im ic) := HPR.out.below HX1.out
  have HCK : Hid (Calls Tryz.prog 73 #[.agg #[.int .i64 1, .int .i64 pp, .int .i64 ps, .int .i64 pn, .int .i64 pf, .int .i64 pt, .slice sa sn sc, .slice ia im ic]] W1 fun e w' => e = .returned (.int .i64 0) ∧ Below W1.heap.size W1 w') := by
    have := ref_Check ⟨1, pp, ps, pn, pf, pt, pl, pi⟩ sa sn sc ia im ic W1 HP1.out
    rw [HCH.out] at this
    exact this
  have k0 : W1.cell? ⟨w.heap.size, 0, none⟩ = some (.int .i64 1) := HK1.out.cell 0 rfl
  have k1 : W1.cell? ⟨w.heap.size, 1, none⟩ = some (.int .i64 pp) := HK1.out.cell 1 rfl
  have k2 : W1.cell? ⟨w.heap.size, 2, none⟩ = some (.int .i64 ps) := HK1.out.cell 2 rfl
  have k3 : W1.cell? ⟨w.heap.size, 3, none⟩ = some (.int .i64 pn) := HK1.out.cell 3 rfl
  have k4 : W1.cell? ⟨w.heap.size, 4, none⟩ = some (.int .i64 pf) := HK1.out.cell 4 rfl
  have k5 : W1.cell? ⟨w.heap.size, 5, none⟩ = some (.int .i64 pt) := HK1.out.cell 5 rfl
  have k6 : W1.cell? ⟨w.heap.size, 6, none⟩ = some (.slice sa sn sc) := HK1.out.cell 6 rfl
  have k7 : W1.cell? ⟨w.heap.size, 7, none⟩ = some (.slice ia im ic) := HK1.out.cell 7 rfl
  unfold Pc.val
  simp only
  go_enter Tryz.func50, Tryz.ntmps50
  go_upto_region 3 with fail
  rw [← HW1.out]
  go_wp2_with fail
  refine HCK.out.mono ?_
  rintro e w2 ⟨rfl, hb2⟩
  have HX2 : Hid (Below w.heap.size w w2) := HX1.out.trans (hb2.mono HX1.out.size)
  have HK2 : Hid (Bk w2 w.heap.size #[.int .i64 1, .int .i64 pp, .int .i64 ps, .int .i64 pn, .int .i64 pf, .int .i64 pt, .slice sa sn sc, .slice ia im ic] 33) := HK1.out.stay hb2
  have HP2 : Hid (PcRd w2 ⟨1, pp, ps, pn, pf, pt, pl, pi⟩ sa sn sc ia im ic) := HP1.out.below hb2
  have HS2 : Hid (Rst Z w2 y L R la ln lc xa xn xc) := HS.out.stay HX2.out
  have hsz2 : w.heap.size < w2.heap.size := HK2.out.lt
  have q0 : w2.cell? ⟨w.heap.size, 0, none⟩ = some (.int .i64 1) := HK2.out.cell 0 rfl
  have e0 : w2.cell? ⟨y, 0, none⟩ = some (.slice la ln lc) := HS2.out.blk.cell 0 rfl
  have e1 : (w2.alloc (.cells #[] 54)).cell? ⟨y, 1, none⟩ = some (.slice xa xn xc) := (HS2.out.stay (below_new w2 _)).blk.cell 1 rfl
  have HBA : Hid (Below w2.heap.size w2 (w2.alloc (.cells #[] 54))) := below_new w2 _
  clear hb2 k0 k1 k2 k3 k4 k5 k6 k7 HK1 HP1 HX1 HCK HW1
  go_wp2_with (at_builtin; refine wpList_append_ros (Z := Z) rfl (.tmp 30) (.tmp 34) rfl w2.heap.size _ [] rfl (Ros.empty w2) xa xn xc R rfl (HS2.out.its.below HBA.out) HS2.out.xnil (by simp; omega) HBA.out.size ?_; intro v3 w3 hs3 hg3 hb3 hn3)
  have HX3 : Hid (Below w2.heap.size w2 w3) := HBA.out.trans hb3
  obtain ⟨g3, c3, hv3⟩ := hs3.nn (hn3 (fun h => (by cases h)))
  rw [List.nil_append, HRL.out] at hv3
  subst hv3
  have HO3 : Hid (Ros Z w3 w2.heap.size (.slice (some ⟨g3, 0, none⟩) xn c3) R) := by (show Ros _ _ _ _ _); simpa using hs3
  have HK3 : Hid (Bk w3 w.heap.size #[.int .i64 1, .int .i64 pp, .int .i64 ps, .int .i64 pn, .int .i64 pf, .int .i64 pt, .slice sa sn sc, .slice ia im ic] 33) := HK2.out.stay HX3.out
  have HP3 : Hid (PcRd w3 ⟨1, pp, ps, pn, pf, pt, pl, pi⟩ sa sn sc ia im ic) := HP2.out.below HX3.out
  have HS3 : Hid (Rst Z w3 y L R la ln lc xa xn xc) := HS2.out.stay HX3.out
  have HXX3 : Hid (Below w.heap.size w w3) := HX2.out.trans (HX3.out.mono HX2.out.size)
  have HR3 : Hid (Rit Z w3 (some ⟨g3, 0, none⟩) xn R) := HO3.out.rit fun k hk => HS2.out.zz k hk
  have hsz3 : w2.heap.size ≤ w3.heap.size := HX3.out.size
  have q6 : w3.drew.cell? ⟨w.heap.size, 6, none⟩ = some (.slice sa sn sc) := HK3.out.cell 6 rfl
  have e0 : w3.drew.cell? ⟨y, 0, none⟩ = some (.slice la ln lc) := HS3.out.blk.cell 0 rfl
  have HBD : Hid (Below w3.heap.size w3 w3.drew) := (Below.refl _ _).drew
  clear hs3 hg3 hb3 hn3 e1 q0 HBA HO3 HK2 HP2
  go_upto_region 10 with fail
  go_cut [] from 36 (fun wx => ∃ (l1a : Option Addr) (l1n l1c : Nat) (L1 : List Sp), Hid (Rst Z wx y L1 R l1a l1n l1c xa xn xc) ∧ Hid (∀ t, atS L1 t = max (atS L t) (atS pl t)) ∧ Hid (Two y y w3 wx))
  case first =>
    rename_i hJ hM
    go_region_law (first
      | (go_simp; go_at_call 42; refine (ref_Join_new (HS3.out.ok.below HBD.out) (b := sa) (nb := sn) (cb := sc) (lb := pl) ⟨HP3.out.spans.below HBD.out, HP3.out.sl, HP3.out.sm, HRT.out⟩).mono ?_; rintro e w4 ⟨⟨av, nv, cv, lv, rfl, HM4, HA4, HT4⟩, hb4⟩; have HB4 : Hid (Below w3.heap.size w3 w4) := HBD.out.trans hb4; have d0 : w4.cell? ⟨y, 0, none⟩ = some (.slice la ln lc) := (HS3.out.stay HB4.out).blk.cell 0 rfl; have f0 := (HS3.out.stay HB4.out).blk.free 0; clear hb4))
    all_goals (
      refine hM _ _ ?_
      go_meet
      exact ⟨av, nv, cv, lv, (HS3.out.stay HB4.out).setL HM4.out (fun ad e => HS3.out.zz _ (HA4.out ad e).1) (fun ad e => (HA4.out ad e).2), HT4.out, (Two.of_below y y HB4.out).setCell 0 _⟩)
  case rest =>
  obtain ⟨l1a, l1n, l1c, L1, HS4, HL1, HT34⟩ := hcut
  obtain ⟨w4, hwp⟩ : ∃ W, W = wc := ⟨_, rfl⟩
  subst hwp
  have HNY : Hid (¬ HasInt w3 y) := HS3.out.noInt
  have HK4 : Hid (Bk w4 w.heap.size #[.int .i64 1, .int .i64 pp, .int .i64 ps, .int .i64 pn, .int .i64 pf, .int .i64 pt, .slice sa sn sc, .slice ia im ic] 33) := Two.bk HK3.out HT34.out (by omega) (by omega)
  have HI4 : Hid (ItsRd w4 ia im pi) := HP3.out.items.away HT34.out HNY.out
  have HR4 : Hid (Rit Z w4 (some ⟨g3, 0, none⟩) xn R) := HR3.out.away HT34.out HNY.out
  have HM4 : Hid (MapOk w4 la ln lc L) := HS3.out.ok.away HT34.out HNY.out
  have hsz4 : w3.heap.size ≤ w4.heap.size := HT34.out.size
  have HJ1 : Hid (Joins L pl L1) := ⟨HS4.out.ok.right, HL1.out⟩
  have HNY4 : Hid (¬ HasInt w4 y) := HS4.out.noInt
  have HZ4 : Hid (∀ k, w4.heap.size ≤ k → Z k) := HS4.out.zz
  clear q6 e0 HBD HR3 HP3 HK3
  go_wp2_with fail
  refine (ref_quiet HS4.out (by omega)).mono ?_
  rintro e w5 ⟨rfl, ⟨xa5, xn5, xc5, ho5⟩, ht5⟩
  have HO5 : Hid (OwnX Z w4.heap.size w5 y L1 (quietR L1 R) l1a l1n l1c xa5 xn5 xc5) := ho5
  have HT5 : Hid (Two y y w4 w5) := ht5
  have HLQ : Hid ((quietR L1 R).length ≤ 64) := by
    (show _ ≤ _)
    have h1 : (quietR L1 R).length ≤ R.length := List.length_filter_le _ _
    rw [HRL.out] at h1
    omega
  clear ho5 ht5
  go_wp2
  go_loopw [9] (fun t9 wr => ∃ (i : Nat) (Ri : List (It × Bd)) (gi xni xci : Nat), t9 = .int .i64 (i : Int) ∧ i ≤ im ∧ xni ≤ 64 + i ∧ Hid (OwnX Z w4.heap.size wr y L1 Ri l1a l1n l1c (some ⟨gi, 0, none⟩) xni xci) ∧ Hid (Ri.map Prod.fst = keepsX L1 (quietX L1 (R.map Prod.fst)) (pi.take i)) ∧ Hid (Two y y w4 wr)) (fun t9 _ => im - (intOf t9).toNat)
  case atStart =>
    obtain ⟨gi, hgi⟩ := HO5.out.nn
    have ho := HO5.out
    rw [hgi] at ho
    have h1 := ho.st.its.size
    exact ⟨0, quietR L1 R, gi, xn5, xc5, rfl, Nat.zero_le _, by have := HLQ.out; omega, ho, quietR_map L1 R, HT5⟩
  case round =>
    obtain ⟨i, Ri, gi, xni, xci, rfl, hi, hxi, HOI, HMI, HTI⟩ := hrel
    clear HO5 HT5 HLQ
    have HKI : Hid (Bk wr w.heap.size #[.int .i64 1, .int .i64 pp, .int .i64 ps, .int .i64 pn, .int .i64 pf, .int .i64 pt, .slice sa sn sc, .slice ia im ic] 33) := Two.bk HK4.out HTI.out (by omega) (by omega)
    have p7 : wr.cell? ⟨w.heap.size, 7, none⟩ = some (.slice ia im ic) := HKI.out.cell 7 rfl
    have HLI : Hid (Ri.length = xni) := HOI.out.st.its.size
    by_cases hlt : i < im
    · have hlt' : (i : Int) < (im : Int) := by omega
      have gi0 : (0 : Int) ≤ (i : Int) := by omega
      obtain ⟨g, o, rfl, hg, q, hq, d0, d1, ba, bl, bc, d2, hrd, hb0, hlc, hcm⟩ := (HI4.out.away HTI.out HNY4.out).at_ i hlt
      have HEQ : Hid ((1 ≤ q.tick ∧ q.tick ≤ 1099511627776) ∧ (0 ≤ q.for_ ∧ q.for_ ≤ 4294967295) ∧ q.body.length ≤ 400) := HE.out q (List.mem_of_getElem? hq)
      have HRD : Hid (Rd wr ba bl q.body ∧ (ba = none → bc = 0)) := ⟨hrd, hb0⟩
      have HBL : Hid (q.body.length = bl) := hrd.size
      have HTK : Hid (keepsX L1 (quietX L1 (R.map Prod.fst)) (pi.take (i + 1)) = keepX L1 q (Ri.map Prod.fst)) := by
        (show _ = _)
        have hil : i < pi.length := by rw [HIM.out.1]; exact hlt
        rw [List.take_succ_eq_append_getElem hil]
        have := List.getElem?_eq_getElem hil
        rw [this] at hq
        rw [Option.some.inj hq, HMI.out]
        unfold keepsX
        rw [List.foldl_append]
        rfl
      obtain ⟨K, HPK⟩ : ∃ K, Hid (placeX (Ri.map Prod.fst) q.tick = K) := ⟨_, rfl⟩
      obtain ⟨bb, HBB⟩ : ∃ b, Hid (isAtX (Ri.map Prod.fst) q.tick = b) := ⟨_, rfl⟩
      have hKx : K ≤ xni := by have := place_le (Ri.map Prod.fst) q.tick; rw [HPK.out, List.length_map, HLI.out] at this; exact this
      obtain ⟨qt, qf, qb⟩ := q
      simp only at d0 d1 HBB HPK HBL
      have hbl : bl ≤ 400 := by have := HEQ.out.2.2; rw [← HBL.out]; exact this
      have HPL : Hid (∀ W, Below wr.heap.size wr W → Calls Tryz.prog 75 #[.pointer (some ⟨y, 0, none⟩), .int .i64 qt] W fun e w' => e = .returned (.tuple #[.int .i64 (K : Int), .bool bb]) ∧ Below W.heap.size W w') := fun W hW => by
        have := ref_place (HOI.out.st.stay hW) qt
        rw [HPK.out, HBB.out] at this
        exact this
      have HBX : Hid (Below wr.heap.size wr (wr.alloc (.cells #[.int .i64 qt, .int .u32 qf, .slice ba bl bc] 54))) := below_new wr _
      have HKX : Hid (Bk (wr.alloc (.cells #[.int .i64 qt, .int .u32 qf, .slice ba bl bc] 54)) wr.heap.size #[.int .i64 qt, .int .u32 qf, .slice ba bl bc] 54) := Bk.new _ _ _
      have n0 : (wr.alloc (.cells #[.int .i64 qt, .int .u32 qf, .slice ba bl bc] 54)).cell? ⟨wr.heap.size, 0, none⟩ = some (.int .i64 qt) := HKX.out.cell 0 rfl
      clear hrd hb0 hlc hcm hq
      go_wp2_with fail
      refine (HPL.out _ HBX.out).mono ?_
      rintro e w6 ⟨rfl, hb6⟩
      have HB6 : Hid (Below wr.heap.size wr w6) := HBX.out.trans (hb6.mono HBX.out.size)
      have HK6 : Hid (Bk w6 wr.heap.size #[.int .i64 qt, .int .u32 qf, .slice ba bl bc] 54) := HKX.out.stay hb6
      have HO6 : Hid (OwnX Z w4.heap.size w6 y L1 Ri l1a l1n l1c (some ⟨gi, 0, none⟩) xni xci) := HOI.out.below HB6.out
      have hszr : w4.heap.size ≤ wr.heap.size := HTI.out.size
      have hsz6 : wr.heap.size < w6.heap.size := HK6.out.lt
      clear hb6 n0 HPL HKX p7 d0 d1 d2
      cases bb with
      | true =>
        obtain ⟨q', hq', hqt', hkx⟩ := keepX_there L1 ⟨qt, qf, qb⟩ (Ri.map Prod.fst) HBB.out
        rw [HPK.out] at hq' hkx
        rw [List.getElem?_map] at hq'
        obtain ⟨x, hx, rfl⟩ := Option.map_eq_some_iff.1 hq'
        have HX : Hid (Ri[K]? = some x) := hx
        have HKX : Hid (keepX L1 ⟨qt, qf, qb⟩ (Ri.map Prod.fst) = (Ri.set K (⟨x.1.tick, orI x.1.for_ qf, x.1.body⟩, x.2)).map Prod.fst) := by (show _ = _); rw [hkx, map_set]
        have hKl : K < xni := by have := (List.getElem?_eq_some_iff.1 hx).1; rw [HLI.out] at this; exact this
        have hKl' : (K : Int) < (xni : Int) := by omega
        have gK : (0 : Int) ≤ (K : Int) := by omega
        have HXF : Hid (0 ≤ x.1.for_ ∧ x.1.for_ ≤ 4294967295) := (HO6.out.own.each x (List.mem_of_getElem? hx)).2
        have HOD : Hid (OwnX Z w4.heap.size w6.drew y L1 Ri l1a l1n l1c (some ⟨gi, 0, none⟩) xni xci) := HO6.out.below (Below.refl _ _).drew
        have c1 : w6.drew.cell? ⟨y, 1, none⟩ = some (.slice (some ⟨gi, 0, none⟩) xni xci) := HOD.out.st.blk.cell 1 rfl
        have x1 : w6.drew.cell? ⟨gi, K * 3 + 1, none⟩ = some (.int .u32 x.1.for_) := by
          obtain ⟨g', o', ha', _, x', hx', _, h1, _⟩ := HOD.out.st.its.at_ K hKl
          simp only [Option.some.injEq, Addr.mk.injEq, and_true] at ha'
          obtain ⟨rfl, rfl⟩ := ha'
          rw [hx] at hx'
          cases hx'
          rw [Nat.zero_add] at h1
          exact h1
        have n1 : w6.drew.cell? ⟨wr.heap.size, 1, none⟩ = some (.int .u32 qf) := HK6.out.cell 1 rfl
        have HSF : Hid (∀ f, 0 ≤ f ∧ f ≤ 4294967295 → OwnX Z w4.heap.size (w6.drew.setCell ⟨gi, K * 3 + 1, none⟩ (.int .u32 f)) y L1 (Ri.set K (⟨x.1.tick, f, x.1.body⟩, x.2)) l1a l1n l1c (some ⟨gi, 0, none⟩) xni xci) := fun f hf => (HOD.out.setFor hx f hf HZ4.out).1
        have fz : w6.drew.frozen? ⟨gi, K * 3 + 1, none⟩ = false := (HOD.out.setFor hx 0 (by omega) HZ4.out).2.2
        have HGB : Hid (w4.heap.size ≤ gi) := (HOD.out.setFor hx 0 (by omega) HZ4.out).2.1
        have HBO : Hid (bits .or .u32 x.1.for_ qf = orI x.1.for_ qf) := bits_or HXF.out HEQ.out.2.1
        have HOR : Hid (0 ≤ orI x.1.for_ qf ∧ orI x.1.for_ qf ≤ 4294967295) := orI_range HXF.out HEQ.out.2.1
        obtain ⟨⟨xt, xf, xb⟩, xd⟩ := x
        simp only at x1 HBO HOR HSF HKX HX
        clear hq' hkx hqt' hx HXF
        go_upto_region 18 with fail
        go_cut [] from 51 to 128 (fun wx => Hid (OwnX Z w4.heap.size wx y L1 (Ri.set K (⟨xt, orI xf qf, xb⟩, xd)) l1a l1n l1c (some ⟨gi, 0, none⟩) xni xci) ∧ Hid (Two y y w4 wx))
        case first =>
          rename_i hJ hM
          go_region
          all_goals (
            refine hM _ _ ?_
            go_meet
            rw [HBO.out]
            refine ⟨HSF.out _ HOR.out, ?_⟩
            have h1 : Two y y w4 w6 := HTI.out.trans (Two.of_below y y HB6.out)
            exact ⟨h1.os, h1.tape, h1.output, (by show w4.heap.size ≤ (w6.setCell ⟨gi, K * 3 + 1, none⟩ _).heap.size; rw [World.size_setCell]; exact h1.size), fun k hk ha hb => (heap_setCell_other _ ⟨gi, K * 3 + 1, none⟩ k _ (by have := HGB.out; show k ≠ gi; omega)).trans (h1.block k hk ha hb)⟩)
        case rest =>
        obtain ⟨HO8, HT8⟩ := hcut
        clear c1 x1 n1 fz HOD
        go_upto_region 19 with fail
        go_quiet (fail)
        have HB9 : Hid (Below wc.heap.size wc (wc.drewN nq)) := below_drews (Below.refl _ _) _
        have HO9 : Hid (OwnX Z w4.heap.size (wc.drewN nq) y L1 (Ri.set K (⟨xt, orI xf qf, xb⟩, xd)) l1a l1n l1c (some ⟨gi, 0, none⟩) xni xci) := HO8.out.below HB9.out
        have HT9 : Hid (Two y y w4 (wc.drewN nq)) := HT8.out.trans (Two.of_below y y HB9.out)
        go_wp2
        go_roundw
        case rel => exact ⟨i + 1, Ri.set K (⟨xt, orI xf qf, xb⟩, xd), gi, xni, xci, by go_num, by omega, by omega, HO9, by (show _ = _); rw [HTK.out]; exact HKX.out.symm, HT9⟩
        case measure => simp [intOf]; omega
      | false =>
        have HAT : Hid (∀ n, Calls Tryz.prog 24 #[.slice l1a l1n l1c, .int .i64 qt] (w6.drewN n) fun e w' => e = .returned (.int .i64 (atS L1 qt)) ∧ w' = w6.drewN n) := fun n => ref_At l1a l1n l1c L1 qt (w6.drewN n) (HO6.out.st.ok.rd.below (below_drews (Below.refl _ _) n)) HO6.out.st.ok.len
        have c0 : w6.cell? ⟨y, 0, none⟩ = some (.slice l1a l1n l1c) := HO6.out.st.blk.cell 0 rfl
        have n0 : w6.cell? ⟨wr.heap.size, 0, none⟩ = some (.int .i64 qt) := HK6.out.cell 0 rfl
        by_cases ha : atS L1 qt = 0
        · have HKX : Hid (keepX L1 ⟨qt, qf, qb⟩ (Ri.map Prod.fst) = (Ri.map Prod.fst).take K ++ ⟨qt, qf, qb⟩ :: (Ri.map Prod.fst).drop K) := by
            (show _ = _)
            rw [keepX_new L1 ⟨qt, qf, qb⟩ ha (Ri.map Prod.fst) HBB.out, HPK.out]
          rw [ha] at HAT
          clear ha
          go_upto_region 19 with fail
          go_quiet ((go_at_call 24; exact Calls.quiet_of_same (HAT.out _)))
          obtain ⟨wq, HWQ⟩ : ∃ W, Hid (W = w6.drewN nq) := ⟨_, rfl⟩
          rw [← HWQ.out]
          have hbq : Below w6.heap.size w6 wq := by rw [HWQ.out]; exact below_drews (Below.refl _ _) _
          have HBQ : Hid (Below wr.heap.size wr wq) := HB6.out.trans (hbq.mono HB6.out.size)
          have HKQ : Hid (Bk wq wr.heap.size #[.int .i64 qt, .int .u32 qf, .slice ba bl bc] 54) := HK6.out.stay hbq
          have hszq : wr.heap.size < wq.heap.size := HKQ.out.lt
          have HBE : Hid (Below wq.heap.size wq (wq.alloc (.cells #[] 5))) := below_new _ _
          have n2 : (wq.alloc (.cells #[] 5)).cell? ⟨wr.heap.size, 2, none⟩ = some (.slice ba bl bc) := (HKQ.out.stay HBE.out).cell 2 rfl
          have HRE : Hid (Rd (wq.alloc (.cells #[] 5)) ba bl qb) := (HRD.out.1.below HBQ.out).below HBE.out
          clear hbq c0 n0 HAT HBX HB6 HK6 HO6 HWQ
          have HKE : Hid (∀ w7, Below wq.heap.size (wq.alloc (.cells #[] 5)) w7 → Bk w7 wr.heap.size #[.int .i64 qt, .int .u32 qf, .slice ba bl bc] 54) := fun w7 hb7 => HKQ.out.stay (HBE.out.trans hb7)
          go_upto_region 21 with (at_builtin; refine wpList_append_rd rfl (.tmp 101) (.tmp 103) rfl wq.heap.size _ _ _ [] rfl (Own.empty wq) ba bl bc qb rfl HRE.out HRD.out.2 (by omega) HBE.out.size ?_; intro a7 c7 w7 ho7 hg7 hb7; have m2 : w7.cell? ⟨wr.heap.size, 2, none⟩ = some (.slice ba bl bc) := (HKE.out w7 hb7).cell 2 rfl; have f2 := (HKE.out w7 hb7).free 2)
          rw [Nat.zero_add, List.nil_append] at ho7
          have HO7 : Hid (Own w7 wq.heap.size a7 bl c7 qb) := ho7
          have hbq7 : Below wq.heap.size wq w7 := HBE.out.trans hb7
          have HB7 : Hid (Below wr.heap.size wr w7) := HBQ.out.trans (hbq7.mono HBQ.out.size)
          have HK7 : Hid (Bk w7 wr.heap.size #[.int .i64 qt, .int .u32 qf, .slice ba bl bc] 54) := HKQ.out.stay hbq7
          clear ho7 hg7 hb7 hbq7 n2 HRE HBE HBQ HKQ
          obtain ⟨w8, HW8⟩ : ∃ W, Hid (W = w7.setCell ⟨wr.heap.size, 2, none⟩ (.slice a7 bl c7)) := ⟨_, rfl⟩
          have HB8 : Hid (Below wr.heap.size wr w8) := by (show Below _ _ _); rw [HW8.out]; exact HB7.out.setCell (Nat.le_refl _) _
          have HK8 : Hid (Bk w8 wr.heap.size #[.int .i64 qt, .int .u32 qf, .slice a7 bl c7] 54) := by (show Bk _ _ _ _); rw [HW8.out]; exact HK7.out.set 2 _
          have HO8 : Hid (Own w8 wq.heap.size a7 bl c7 qb) := by
            (show Own _ _ _ _ _ _)
            rw [HW8.out]
            exact ⟨ownsRow_setCell_below HO7.out.row (a := ⟨wr.heap.size, 2, none⟩) hszq _, HO7.out.byte⟩
          have HBD8 : Hid (BdT Z w8 (a7, bl, c7) qb) := BdT.of_own HO8.out fun k hk => HZ4.out k (by omega)
          have HX8 : Hid (OwnX Z w4.heap.size w8 y L1 Ri l1a l1n l1c (some ⟨gi, 0, none⟩) xni xci) := HOI.out.below HB8.out
          have hsz8 : w4.heap.size ≤ w8.heap.size := Nat.le_trans hszr HB8.out.size
          have HBF : Hid (Below w8.heap.size w8 (w8.alloc (.cells #[] 54))) := below_new _ _
          have c1 : (w8.alloc (.cells #[] 54)).cell? ⟨y, 1, none⟩ = some (.slice (some ⟨gi, 0, none⟩) xni xci) := (HX8.out.st.stay HBF.out).blk.cell 1 rfl
          have hxc : xni ≤ xci ∧ xci ≤ 9223372036854775807 := ⟨HX8.out.st.xl, Nat.le_trans HX8.out.st.xm (by decide)⟩
          have gK : (0 : Int) ≤ (K : Int) := by omega
          have gK2 : (K : Int) ≤ (xci : Int) := by omega
          have gK3 : (K : Int) ≤ (xni : Int) := by omega
          have gK4 : (xni : Int) ≤ (xci : Int) := by omega
          have HRT1 : Hid (Rit Z (w8.alloc (.cells #[] 54)) (some ⟨gi, 0, none⟩) K (Ri.take K)) := by
            (show Rit _ _ _ _ _)
            have := (HX8.out.st.its.below HBF.out).part 0 K (Nat.zero_le _) hKx
            simpa using this
          clear HO7 HB7 HK7 HO8
          rw [← HW8.out]
          clear m2 f2 HW8 HKE
          go_upto_region 22 with (at_builtin; refine wpList_append_ros (Z := Z) rfl (.tmp 106) (.tmp 112) rfl w8.heap.size _ [] rfl (Ros.empty w8) (some ⟨gi, 0, none⟩) K xci (Ri.take K) rfl HRT1.out (fun h => (by cases h)) (by simp; omega) HBF.out.size ?_; intro v9 w9 hs9 hg9 hb9 hn9)
          have HN9 : Hid (v9 ≠ .slice none 0 0) := hn9 (fun h => (by cases h))
          rw [List.nil_append] at hs9
          have HR9 : Hid (Ros Z w9 w8.heap.size v9 (Ri.take K)) := hs9
          have hb89 : Below w8.heap.size w8 w9 := HBF.out.trans hb9
          have HB89 : Hid (Below w8.heap.size w8 w9) := hb89
          have HK9 : Hid (Bk w9 wr.heap.size #[.int .i64 qt, .int .u32 qf, .slice a7 bl c7] 54) := HK8.out.stay hb89
          have n0 : w9.cell? ⟨wr.heap.size, 0, none⟩ = some (.int .i64 qt) := HK9.out.cell 0 rfl
          have n1 : w9.cell? ⟨wr.heap.size, 1, none⟩ = some (.int .u32 qf) := HK9.out.cell 1 rfl
          have n2 : w9.cell? ⟨wr.heap.size, 2, none⟩ = some (.slice a7 bl c7) := HK9.out.cell 2 rfl
          have HBG : Hid (Below w9.heap.size w9 (w9.alloc (.cells #[.int .i64 qt, .int .u32 qf, .slice a7 bl c7] 54))) := below_new _ _
          have HKG : Hid (Bk (w9.alloc (.cells #[.int .i64 qt, .int .u32 qf, .slice a7 bl c7] 54)) w9.heap.size #[.int .i64 qt, .int .u32 qf, .slice a7 bl c7] 54) := Bk.new _ _ _
          have HBD9 : Hid (BdT Z (w9.alloc (.cells #[.int .i64 qt, .int .u32 qf, .slice a7 bl c7] 54)) (a7, bl, c7) qb) := (HBD8.out.frame hb89.size fun k hk _ _ => hb89.block k hk).frame HBG.out.size fun k hk _ _ => HBG.out.block k hk
          have HSZ9 : Hid (w8.heap.size ≤ (w9.alloc (.cells #[.int .i64 qt, .int .u32 qf, .slice a7 bl c7] 54)).heap.size) := Nat.le_trans hb89.size HBG.out.size
          have HTL : Hid ((Ri.take K).length ≤ 1000000000000) := by (show _ ≤ _); rw [List.length_take]; omega
          have HIN : Hid (ItIn ⟨qt, qf, qb⟩) := ⟨⟨by have := HEQ.out.1.1; show _ ≤ qt; have h1 : 1 ≤ qt := this; omega, by have := HEQ.out.1.2; show qt ≤ _; have h1 : qt ≤ 1099511627776 := this; omega⟩, HEQ.out.2.1⟩
          clear hs9 hg9 hb9 hn9 hb89 c1 HRT1 HBF
          go_upto_region 23 with (at_builtin; refine wpList_append_ro (Z := Z) rfl (.tmp 114) (.tmp 116) rfl w8.heap.size _ (Ri.take K) rfl (HR9.out.below HBG.out) ⟨w9.heap.size, 0, none⟩ 1 (⟨qt, qf, qb⟩, a7, bl, c7) rfl (item_told HKG.out) HBD9.out HIN.out HTL.out HSZ9.out ?_; intro v10 w10 hs10 hg10 hb10 hn10)
          have HN10 : Hid (v10 ≠ .slice none 0 0) := hn10 HN9.out
          have HR10 : Hid (Ros Z w10 w8.heap.size v10 (Ri.take K ++ [(⟨qt, qf, qb⟩, a7, bl, c7)])) := hs10
          have HB810 : Hid (Below w8.heap.size w8 w10) := (HB89.out.trans (HBG.out.mono HB89.out.size)).trans hb10
          have HX10 : Hid (OwnX Z w4.heap.size w10 y L1 Ri l1a l1n l1c (some ⟨gi, 0, none⟩) xni xci) := HX8.out.below HB810.out
          have c1 : w10.cell? ⟨y, 1, none⟩ = some (.slice (some ⟨gi, 0, none⟩) xni xci) := HX10.out.st.blk.cell 1 rfl
          have HSZ10 : Hid (w8.heap.size ≤ w10.heap.size) := HB810.out.size
          have HTL2 : Hid ((Ri.take K ++ [((⟨qt, qf, qb⟩ : It), ((a7, bl, c7) : Bd))]).length + (xni - K) ≤ 1000000000000) := by (show _ ≤ _); rw [List.length_append, List.length_take]; simp; omega
          clear hs10 hg10 hb10 hn10 n0 n1 n2 HR9 HBG HKG HBD9 HSZ9 HTL HK9 HB89
          have HRT2 : Hid (Rit Z w10 (if xci = K then some ⟨gi, 0, none⟩ else some ⟨gi, K * 3, none⟩) (xni - K) (Ri.drop K)) := by
            (show Rit _ _ _ _ _)
            have h1 := HX10.out.st.its.part K xni hKx (Nat.le_refl _)
            rw [List.take_of_length_le (by rw [List.length_drop, HLI.out]; exact Nat.le_refl _), Nat.zero_add] at h1
            by_cases hc : xci = K
            · have hz : xni - K = 0 := by omega
              have hz2 : Ri.drop K = [] := List.drop_eq_nil_of_le (by rw [HLI.out]; omega)
              rw [hz, hz2]
              exact Rit.nil_ _ _
            · rw [if_neg hc]
              exact h1
          have HYE : Hid (∀ w11, Below w8.heap.size w10 w11 → OwnX Z w4.heap.size w11 y L1 Ri l1a l1n l1c (some ⟨gi, 0, none⟩) xni xci) := fun w11 hb => HX8.out.below (HB810.out.trans hb)
          have HLEN : Hid ((Ri.take K ++ [((⟨qt, qf, qb⟩ : It), ((a7, bl, c7) : Bd))] ++ Ri.drop K).length = xni + 1) := by
            (show _ = _)
            rw [List.length_append, List.length_append, List.length_take, List.length_drop, HLI.out]
            simp
            omega
          have HMN : Hid ((Ri.take K ++ [((⟨qt, qf, qb⟩ : It), ((a7, bl, c7) : Bd))] ++ Ri.drop K).map Prod.fst = keepsX L1 (quietX L1 (R.map Prod.fst)) (pi.take (i + 1))) := by
            (show _ = _)
            rw [HTK.out, HKX.out]
            simp
          by_cases hcK : xci = K
          · rw [if_pos hcK] at HRT2
            go_upto_region 14 with (at_builtin; refine wpList_append_ros (Z := Z) rfl (.tmp 119) (.tmp 125) rfl w8.heap.size _ _ rfl HR10.out _ (xni - K) _ (Ri.drop K) rfl HRT2.out (fun h => (by cases h)) HTL2.out HSZ10.out ?_; intro v11 w11 hs11 hg11 hb11 hn11; have z1 : w11.cell? ⟨y, 1, none⟩ = some (.slice (some ⟨gi, 0, none⟩) xni xci) := (HYE.out w11 hb11).st.blk.cell 1 rfl; have z2 := (HYE.out w11 hb11).st.blk.free 1; obtain ⟨g11, c11, hv11, ho11⟩ := (HYE.out w11 hb11).setX HZ4.out (hs11.lower hsz8) (hn11 HN10.out); rw [HLEN.out] at hv11 ho11; subst hv11; have HO11 := show Hid _ from ho11; have HB11 := show Hid _ from hb11; clear ho11 hs11 hg11 hb11 hn11)
            have HT11 : Hid (Two y y w4 (w11.setCell ⟨y, 1, none⟩ (.slice (some ⟨g11, 0, none⟩) (xni + 1) c11))) := (HTI.out.trans (Two.of_below y y (HB8.out.trans ((HB810.out.trans HB11.out).mono HB8.out.size)))).setCell 1 _
            clear z1 z2
            go_wp2
            go_roundw
            case rel => exact ⟨i + 1, _, g11, xni + 1, c11, by go_num, by omega, by omega, HO11, HMN, HT11⟩
            case measure => simp [intOf]; omega
          · rw [if_neg hcK] at HRT2
            go_upto_region 14 with (at_builtin; refine wpList_append_ros (Z := Z) rfl (.tmp 119) (.tmp 125) rfl w8.heap.size _ _ rfl HR10.out _ (xni - K) _ (Ri.drop K) rfl HRT2.out (fun h => (by cases h)) HTL2.out HSZ10.out ?_; intro v11 w11 hs11 hg11 hb11 hn11; have z1 : w11.cell? ⟨y, 1, none⟩ = some (.slice (some ⟨gi, 0, none⟩) xni xci) := (HYE.out w11 hb11).st.blk.cell 1 rfl; have z2 := (HYE.out w11 hb11).st.blk.free 1; obtain ⟨g11, c11, hv11, ho11⟩ := (HYE.out w11 hb11).setX HZ4.out (hs11.lower hsz8) (hn11 HN10.out); rw [HLEN.out] at hv11 ho11; subst hv11; have HO11 := show Hid _ from ho11; have HB11 := show Hid _ from hb11; clear ho11 hs11 hg11 hb11 hn11)
            have HT11 : Hid (Two y y w4 (w11.setCell ⟨y, 1, none⟩ (.slice (some ⟨g11, 0, none⟩) (xni + 1) c11))) := (HTI.out.trans (Two.of_below y y (HB8.out.trans ((HB810.out.trans HB11.out).mono HB8.out.size)))).setCell 1 _
            clear z1 z2
            go_wp2
            go_roundw
            case rel => exact ⟨i + 1, _, g11, xni + 1, c11, by go_num, by omega, by omega, HO11, HMN, HT11⟩
            case measure => simp [intOf]; omega
        · have HKX : Hid (keepX L1 ⟨qt, qf, qb⟩ (Ri.map Prod.fst) = Ri.map Prod.fst) := keepX_none L1 ⟨qt, qf, qb⟩ ha (Ri.map Prod.fst) HBB.out
          have z1 : ((atS L1 qt) == 0) = false := by rw [beq_eq_false_iff_ne]; exact ha
          clear ha
          go_upto_region 19 with fail
          go_quiet ((go_at_call 24; exact Calls.quiet_of_same (HAT.out _)))
          have hbq : Below w6.heap.size w6 (w6.drewN nq) := below_drews (Below.refl _ _) _
          have HO9 : Hid (OwnX Z w4.heap.size (w6.drewN nq) y L1 Ri l1a l1n l1c (some ⟨gi, 0, none⟩) xni xci) := HO6.out.below hbq
          have HT9 : Hid (Two y y w4 (w6.drewN nq)) := HTI.out.trans (Two.of_below y y (HB6.out.trans (hbq.mono HB6.out.size)))
          clear hbq
          go_wp2
          go_roundw
          case rel => exact ⟨i + 1, Ri, gi, xni, xci, by go_num, by omega, by omega, HO9, by (show _ = _); rw [HTK.out]; exact HKX.out.symm, HT9⟩
          case measure => simp [intOf]; omega
    · have hnl : ¬ (i : Int) < (im : Int) := by omega
      obtain rfl : i = im := by omega
      have HMF : Hid (Ri.map Prod.fst = keepsX L1 (quietX L1 (R.map Prod.fst)) pi) := by
        have := HMI.out
        rw [← HIM.out.1, List.take_length] at this
        exact this
      obtain ⟨wl, hwl⟩ : ∃ W, W = wr := ⟨_, rfl⟩
      subst hwl
      clear HMI HKI
      go_wp2
      go_loopw [] (fun wr => ∃ (j gj xnj xcj : Nat), j + xnj = xni ∧ (j = 0 ∨ 64 ≤ xnj) ∧ Hid (OwnX Z w4.heap.size wr y L1 (Ri.drop j) l1a l1n l1c (some ⟨gj, 0, none⟩) xnj xcj) ∧ Hid (Two y y w4 wr)) (fun wr => match wr.cell? ⟨y, 1, none⟩ with | some (.slice _ k _) => k | _ => 0)
      case atStart => exact ⟨0, gi, xni, xci, by omega, .inl rfl, HOI, HTI⟩
      case round =>
        obtain ⟨j, gj, xnj, xcj, hjx, hj0, HOJ, HTJ⟩ := hrel
        clear HOI HTI p7
        have c1 : wr.cell? ⟨y, 1, none⟩ = some (.slice (some ⟨gj, 0, none⟩) xnj xcj) := HOJ.out.st.blk.cell 1 rfl
        have HLJ : Hid ((Ri.drop j).length = xnj) := HOJ.out.st.its.size
        have hxc : xnj ≤ xcj ∧ xcj ≤ 9223372036854775807 := ⟨HOJ.out.st.xl, Nat.le_trans HOJ.out.st.xm (by decide)⟩
        by_cases h64 : 64 < xnj
        · have h64' : (64 : Int) < (xnj : Int) := by omega
          have hc1 : ¬ xcj = 1 := by omega
          have hsz : w4.heap.size ≤ wr.heap.size := HTJ.out.size
          have gK3 : (1 : Int) ≤ (xnj : Int) := by omega
          have gK4 : (xnj : Int) ≤ (xcj : Int) := by omega
          have HBF : Hid (Below wr.heap.size wr (wr.alloc (.cells #[] 54))) := below_new _ _
          have c2 : (wr.alloc (.cells #[] 54)).cell? ⟨y, 1, none⟩ = some (.slice (some ⟨gj, 0, none⟩) xnj xcj) := (HOJ.out.st.stay HBF.out).blk.cell 1 rfl
          have HRT2 : Hid (Rit Z (wr.alloc (.cells #[] 54)) (some ⟨gj, 3, none⟩) (xnj - 1) (Ri.drop (j + 1))) := by
            (show Rit _ _ _ _ _)
            have h1 := (HOJ.out.st.its.below HBF.out).part 1 xnj (by omega) (Nat.le_refl _)
            rw [List.drop_drop] at h1
            rw [List.take_of_length_le (by have := HLJ.out; rw [List.length_drop] at this ⊢; omega)] at h1
            exact h1
          have HYE : Hid (∀ w11, Below wr.heap.size (wr.alloc (.cells #[] 54)) w11 → OwnX Z w4.heap.size w11 y L1 (Ri.drop j) l1a l1n l1c (some ⟨gj, 0, none⟩) xnj xcj) := fun w11 hb => HOJ.out.below (HBF.out.trans hb)
          have HLEN : Hid (([] ++ Ri.drop (j + 1)).length = xnj - 1) := by
            (show _ = _)
            have := HLJ.out
            rw [List.length_drop] at this
            rw [List.nil_append, List.length_drop]
            omega
          go_wp2_with (at_builtin; refine wpList_append_ros (Z := Z) rfl (.tmp 136) (.tmp 141) rfl wr.heap.size _ [] rfl (Ros.empty wr) _ (xnj - 1) _ (Ri.drop (j + 1)) rfl HRT2.out (fun h => (by cases h)) (by simp; omega) HBF.out.size ?_; intro v11 w11 hs11 hg11 hb11 hn11; have z1 : w11.cell? ⟨y, 1, none⟩ = some (.slice (some ⟨gj, 0, none⟩) xnj xcj) := (HYE.out w11 hb11).st.blk.cell 1 rfl; have z2 := (HYE.out w11 hb11).st.blk.free 1; obtain ⟨g11, c11, hv11, ho11⟩ := (HYE.out w11 hb11).setX HZ4.out (hs11.lower hsz) (hn11 (fun h => (by cases h))); rw [HLEN.out] at hv11 ho11; subst hv11; have HO11 := show Hid _ from ho11; have HB11 := show Hid _ from hb11; clear ho11 hs11 hg11 hb11 hn11)
          have HT11 : Hid (Two y y w4 (w11.setCell ⟨y, 1, none⟩ (.slice (some ⟨g11, 0, none⟩) (xnj - 1) c11))) := (HTJ.out.trans (Two.of_below y y (HBF.out.trans HB11.out))).setCell 1 _
          have HC11 : Hid ((w11.setCell ⟨y, 1, none⟩ (.slice (some ⟨g11, 0, none⟩) (xnj - 1) c11)).cell? ⟨y, 1, none⟩ = some (.slice (some ⟨g11, 0, none⟩) (xnj - 1) c11)) := HO11.out.st.blk.cell 1 rfl
          have HC1 : Hid (wr.cell? ⟨y, 1, none⟩ = some (.slice (some ⟨gj, 0, none⟩) xnj xcj)) := c1
          clear z1 z2 c1 c2
          go_roundw
          case rel => exact ⟨j + 1, g11, xnj - 1, c11, by omega, .inr (by omega), HO11, HT11⟩
          case measure =>
            rw [HC11.out, HC1.out]
            show xnj - 1 < xnj
            omega
        · have h64' : ¬ (64 : Int) < (xnj : Int) := by omega
          have HJE : Hid (j = xni - 64) := by (show _ = _); omega
          obtain ⟨Rj, HRJ⟩ : ∃ Rj, Hid (Rj = Ri.drop j) := ⟨_, rfl⟩
          rw [← HRJ.out] at HOJ HLJ
          have HYL : Hid (Rj.map Prod.fst = learnX L1 (R.map Prod.fst) ⟨1, pp, ps, pn, pf, pt, pl, pi⟩) := by
            (show _ = _)
            have e1 : xni = (keepsX L1 (quietX L1 (R.map Prod.fst)) pi).length := by rw [← HMF.out, List.length_map, HLI.out]
            rw [HRJ.out, List.map_drop, HMF.out, HJE.out, e1]
            rfl
          have c0 : wr.cell? ⟨y, 0, none⟩ = some (.slice l1a l1n l1c) := HOJ.out.st.blk.cell 0 rfl
          have HML : Hid (MapOk wr la ln lc L) := HM4.out.away HTJ.out HNY4.out
          have HRX : Hid (Rit Z wr (some ⟨g3, 0, none⟩) xn R) := HR4.out.away HTJ.out HNY4.out
          obtain ⟨sb, HSB⟩ : ∃ sb, Hid (sameB L L1 = sb) := ⟨_, rfl⟩
          have HSM : Hid (Calls Tryz.prog 17 #[.slice la ln lc, .slice l1a l1n l1c] wr fun e w' => e = .returned (.bool sb) ∧ Below wr.heap.size wr w') := by
            have := ref_Same la l1a ln lc l1n l1c L L1 wr HML.out.rd HOJ.out.st.ok.rd HML.out.len
            rw [HSB.out] at this
            exact this
          have HXE : Hid (xn ≤ 9223372036854775807) := by (show _ ≤ _); omega
          go_wp2_with fail
          refine HSM.out.mono ?_
          rintro e w8 ⟨rfl, hb8⟩
          have HB8 : Hid (Below wr.heap.size wr w8) := hb8
          have HO8 : Hid (OwnX Z w4.heap.size w8 y L1 Rj l1a l1n l1c (some ⟨gj, 0, none⟩) xnj xcj) := HOJ.out.below hb8
          have HR8 : Hid (Rit Z w8 (some ⟨g3, 0, none⟩) xn R) := HRX.out.below hb8
          have z1 : w8.cell? ⟨y, 1, none⟩ = some (.slice (some ⟨gj, 0, none⟩) xnj xcj) := HO8.out.st.blk.cell 1 rfl
          have HT8 : Hid (Two y y w w8) := ((Two.of_below y y HXX3.out).trans (HT34.out.trans HTJ.out)).trans (Two.of_below y y hb8)
          have HLRJ : Hid (Rj.length = xnj) := HLJ.out
          have HFIN : Hid (∀ (r : Bool) w', Below w8.heap.size w8 w' → (r = true ↔ ¬ (L1 = L ∧ tf (Rj.map Prod.fst) = tf (R.map Prod.fst))) → POST (.returned (.tuple #[.bool r, .int .i64 0])) w') := by
            intro r w' hb hr
            rw [HYL.out] at hr
            rw [HPO.out]
            exact ⟨L1, HJ1.out, ⟨r, rfl, hr⟩, ⟨Rj, _, _, _, _, _, _, HO8.out.st.stay hb, HYL.out⟩, HT8.out.trans (Two.of_below y y hb)⟩
          have HTL : Hid (∀ A B : List (It × Bd), tf (A.map Prod.fst) = tf (B.map Prod.fst) → A.length = B.length) := by
            intro A B h
            have := congrArg List.length h
            unfold tf at this
            simpa using this
          clear hb8 c0 c1 HSM HOJ HRX HML
          cases sb with
          | false =>
            have HNE : Hid (¬ L1 = L) := by
              intro hh
              have := HSB.out
              rw [hh, sameB_refl] at this
              cases this
            go_wp2
            go_loopw [14, 15] (fun t14 t15 wx => t14 = .bool false ∧ t15 = .int .i64 0 ∧ wx = w8) (fun _ _ _ => 0)
            case atStart => exact ⟨rfl, rfl, rfl⟩
            case round =>
              obtain ⟨rfl, rfl, rfl⟩ := hrel
              go_wp2
              exact HFIN.out true _ (Below.refl _ _) ⟨fun _ h => HNE.out h.1, fun _ => rfl⟩
          | true =>
            have HLE : Hid (L1 = L) := ((sameB_iff _ _).1 HSB.out).symm
            by_cases hxx : xn = xnj
            · subst hxx
              have hz3 : ((xn : Int) == (xn : Int)) = true := by simp
              go_wp2
              go_loopw [14, 15] (fun t14 t15 wx => ∃ (i3 : Nat) (b : Bool), t14 = .bool b ∧ t15 = .int .i64 (i3 : Int) ∧ i3 ≤ xn ∧ Hid (b = true ↔ (tf (Rj.map Prod.fst)).take i3 = (tf (R.map Prod.fst)).take i3) ∧ Hid (Below w8.heap.size w8 wx)) (fun _ t15 _ => xn - (intOf t15).toNat)
              case atStart => exact ⟨0, true, rfl, rfl, Nat.zero_le _, ⟨fun _ => rfl, fun _ => rfl⟩, Below.refl _ _⟩
              case round =>
                obtain ⟨i3, b, rfl, rfl, hi3, HBI, HBW⟩ := hrel
                clear z1
                cases b with
                | false =>
                  have HNE : Hid (¬ tf (Rj.map Prod.fst) = tf (R.map Prod.fst)) := fun hh => by
                    have := HBI.out.2 (by rw [hh])
                    cases this
                  go_wp2
                  exact HFIN.out true _ HBW.out ⟨fun _ h => HNE.out h.2, fun _ => rfl⟩
                | true =>
                  have HTK : Hid ((tf (Rj.map Prod.fst)).take i3 = (tf (R.map Prod.fst)).take i3) := HBI.out.1 rfl
                  by_cases hlt3 : i3 < xn
                  · have hlt3' : (i3 : Int) < (xn : Int) := by omega
                    have gi3 : (0 : Int) ≤ (i3 : Int) := by omega
                    have HO9 : Hid (OwnX Z w4.heap.size wr y L1 Rj l1a l1n l1c (some ⟨gj, 0, none⟩) xn xcj) := HO8.out.below HBW.out
                    have z1 : wr.cell? ⟨y, 1, none⟩ = some (.slice (some ⟨gj, 0, none⟩) xn xcj) := HO9.out.st.blk.cell 1 rfl
                    obtain ⟨g', o', ha', _, a3, ha3, d0, d1, _⟩ := (HR8.out.below HBW.out).at_ i3 hlt3
                    simp only [Option.some.injEq, Addr.mk.injEq, and_true] at ha'
                    obtain ⟨rfl, rfl⟩ := ha'
                    obtain ⟨g', o', ha', _, b3, hb3, e0, e1, _⟩ := HO9.out.st.its.at_ i3 hlt3
                    simp only [Option.some.injEq, Addr.mk.injEq, and_true] at ha'
                    obtain ⟨rfl, rfl⟩ := ha'
                    rw [Nat.zero_add] at d0 d1 e0 e1
                    have HTA : Hid ((tf (R.map Prod.fst))[i3]? = some (a3.1.tick, a3.1.for_)) := by (show _ = _); unfold tf; rw [List.map_map, List.getElem?_map, ha3]; rfl
                    have HTB : Hid ((tf (Rj.map Prod.fst))[i3]? = some (b3.1.tick, b3.1.for_)) := by (show _ = _); unfold tf; rw [List.map_map, List.getElem?_map, hb3]; rfl
                    have HNX : Hid ((tf (Rj.map Prod.fst)).take (i3 + 1) = (tf (R.map Prod.fst)).take (i3 + 1) ↔ (a3.1.tick = b3.1.tick ∧ a3.1.for_ = b3.1.for_)) := by
                      (show _ ↔ _)
                      rw [List.take_add_one, List.take_add_one, HTA.out, HTB.out, HTK.out]
                      simp only [List.append_cancel_left_eq, Option.toList_some, List.cons.injEq, Prod.mk.injEq, and_true]
                      exact ⟨fun h => ⟨h.1.symm, h.2.symm⟩, fun h => ⟨h.1.symm, h.2.symm⟩⟩
                    obtain ⟨⟨at_, af, ab⟩, ad⟩ := a3
                    obtain ⟨⟨bt, bf, bb⟩, bd⟩ := b3
                    simp only at d0 d1 e0 e1 HNX
                    have HBQ : Hid (∀ n, Below w8.heap.size w8 (wr.drewN n)) := fun n => HBW.out.trans ((below_drews (Below.refl _ _) n).mono HBW.out.size)
                    clear ha3 hb3 HTA HTB
                    by_cases ht : at_ = bt
                    · subst ht
                      have t1 : (at_ == at_) = true := by simp
                      by_cases hf : af = bf
                      · subst hf
                        have t2 : (af == af) = true := by simp
                        have HNN : Hid (true = true ↔ (tf (Rj.map Prod.fst)).take (i3 + 1) = (tf (R.map Prod.fst)).take (i3 + 1)) := ⟨fun _ => HNX.out.2 ⟨rfl, rfl⟩, fun _ => rfl⟩
                        go_upto_region 30 with fail
                        go_quiet (fail)
                        go_wp2
                        go_roundw
                        case rel => exact ⟨i3 + 1, true, rfl, by go_num, by omega, HNN, HBQ.out _⟩
                        case measure => simp [intOf]; omega
                      · have t2 : (af == bf) = false := by rw [beq_eq_false_iff_ne]; exact hf
                        have HNN : Hid (false = true ↔ (tf (Rj.map Prod.fst)).take (i3 + 1) = (tf (R.map Prod.fst)).take (i3 + 1)) := ⟨fun h => (by cases h), fun h => absurd (HNX.out.1 h).2 hf⟩
                        go_upto_region 30 with fail
                        go_quiet (fail)
                        go_wp2
                        go_roundw
                        case rel => exact ⟨i3 + 1, false, rfl, by go_num, by omega, HNN, HBQ.out _⟩
                        case measure => simp [intOf]; omega
                    · have t1 : (at_ == bt) = false := by rw [beq_eq_false_iff_ne]; exact ht
                      have HNN : Hid (false = true ↔ (tf (Rj.map Prod.fst)).take (i3 + 1) = (tf (R.map Prod.fst)).take (i3 + 1)) := ⟨fun h => (by cases h), fun h => absurd (HNX.out.1 h).1 ht⟩
                      go_upto_region 30 with fail
                      go_quiet (fail)
                      go_wp2
                      go_roundw
                      case rel => exact ⟨i3 + 1, false, rfl, by go_num, by omega, HNN, HBQ.out _⟩
                      case measure => simp [intOf]; omega
                  · have hnl3 : ¬ (i3 : Int) < (xn : Int) := by omega
                    have HEQ : Hid (tf (Rj.map Prod.fst) = tf (R.map Prod.fst)) := by
                      (show _ = _)
                      have h1 := HTK.out
                      have l1 : (tf (Rj.map Prod.fst)).length = xn := by unfold tf; rw [List.length_map, List.length_map]; exact HLRJ.out
                      have l2 : (tf (R.map Prod.fst)).length = xn := by unfold tf; rw [List.length_map, List.length_map]; exact HRL.out
                      rw [List.take_of_length_le (by omega), List.take_of_length_le (by omega)] at h1
                      exact h1
                    go_wp2
                    exact HFIN.out false _ HBW.out ⟨fun h => (by cases h), fun h => absurd ⟨HLE.out, HEQ.out⟩ h⟩
            · have hz3 : ((xn : Int) == (xnj : Int)) = false := by rw [beq_eq_false_iff_ne]; omega
              have HNE : Hid (¬ tf (Rj.map Prod.fst) = tf (R.map Prod.fst)) := fun hh => by
                have := HTL.out _ _ hh
                rw [HLRJ.out, HRL.out] at this
                exact hxx this.symm
              go_wp2
              go_loopw [14, 15] (fun t14 t15 wx => t14 = .bool false ∧ t15 = .int .i64 0 ∧ wx = w8) (fun _ _ _ => 0)
              case atStart => exact ⟨rfl, rfl, rfl⟩
              case round =>
                obtain ⟨rfl, rfl, rfl⟩ := hrel
                go_wp2
                exact HFIN.out true _ (Below.refl _ _) ⟨fun _ h => HNE.out h.2, fun _ => rfl⟩
end Go.Proofs.YtidihfhgnjkmaaaGreat
/- grapevineref15: Map, Item. -/
namespace Go.Proofs.YtidihfhgnjkmaaaGreat
set_option maxRecDepth 100000
open Go.RowKit
variable {Z : Nat → Prop}

theorem kk_snoc {L : List Sp} {A : List It} {q : It} (h : Kn L (A ++ [q])) (t : Int) : kk L (A ++ [q]) t = max (kk L A t) (if t = q.tick then 1 else 0) := by
  have hq := h.off q (List.mem_append_right _ (List.mem_singleton.2 rfl))
  have hr := atS_range h.right t
  have key : ∀ A : List It, getI (A ++ [q]) t = match getI A t with | some r => some r | none => if q.tick = t then some q else none := by
    intro A
    induction A with
    | nil => rfl
    | cons x A ih =>
      rw [List.cons_append, getI, getI, ih]
      by_cases e : x.tick = t
      · rw [if_pos e, if_pos e]
      · rw [if_neg e, if_neg e]
  unfold kk
  rw [key A]
  cases hg : getI A t with
  | some r =>
    simp only [Option.isSome_some, if_true]
    split <;> omega
  | none =>
    simp only [Option.isSome_none, Bool.false_eq_true, if_false]
    by_cases e : t = q.tick
    · rw [if_pos e, if_pos e.symm, e, hq]
      rfl
    · rw [if_neg e, if_neg (Ne.symm e)]
      simp only [Option.isSome_none, Bool.false_eq_true, if_false]
      omega
/-- What Map tells. -/
def MapTold (B : Nat) (L : List Sp) (X : List It) (w : World) (e : Ending) (w' : World) : Prop := (∃ a n c l, e = .returned (.slice a n c) ∧ MapOk w' a n c l ∧ ∀ t, atS l t = kk L X t) ∧ Below B w w'
set_option maxHeartbeats 4000000 in
theorem ref_Map {w : World} {y : Nat} {L : List Sp} {R : List (It × Bd)} {la : Option Addr} {ln lc : Nat} {xa : Option Addr} {xn xc : Nat} (h : Rst Z w y L R la ln lc xa xn xc) (hK : Kn L (R.map Prod.fst)) (hX : xn ≤ 1000000) :
    Calls Tryz.prog 16 #[.pointer (some ⟨y, 0, none⟩)] w fun e w' => MapTold w.heap.size L (R.map Prod.fst) w e w' := by
  have HS : Hid (Rst Z w y L R la ln lc xa xn xc) := h
  have HK : Hid (Kn L (R.map Prod.fst)) := hK
  have HRL : Hid (R.length = xn) := h.its.size
  have c0 : w.cell? ⟨y, 0, none⟩ = some (.slice la ln lc) := h.blk.cell 0 rfl
  obtain ⟨POST, HPO⟩ : ∃ P : Ending → World → Prop, Hid (P = fun e w' => MapTold w.heap.size L (R.map Prod.fst) w e w') := ⟨_, rfl⟩
  have hpost : (fun e w' => MapTold w.heap.size L (R.map Prod.fst) w e w') = fun e w' => POST e w' := HPO.out.symm
  rw [hpost]
  have HM0 : Hid (MapOk w la ln lc L) := h.ok
  clear hpost h hK
  go_enter Tryz.func16, Tryz.ntmps16
  go_wp2
  clear c0
  go_loopw [3, 4] (fun t3 t4 wr => ∃ (i : Nat) (a : Option Addr) (n c : Nat) (l : List Sp), t3 = .slice a n c ∧ t4 = .int .i64 (i : Int) ∧ i ≤ xn ∧ Hid (MapOk wr a n c l) ∧ Hid (∀ t, atS l t = kk L ((R.map Prod.fst).take i) t) ∧ Hid (Below w.heap.size w wr)) (fun _ t4 _ => xn - (intOf t4).toNat)
  case atStart => exact ⟨0, la, ln, lc, L, rfl, rfl, Nat.zero_le _, HM0, fun t => rfl, Below.refl _ _⟩
  case round =>
    obtain ⟨i, a, n, c, l, rfl, rfl, hi, HM, HL, HB⟩ := hrel
    have HSR : Hid (Rst Z wr y L R la ln lc xa xn xc) := HS.out.stay HB.out
    have c1 : wr.cell? ⟨y, 1, none⟩ = some (.slice xa xn xc) := HSR.out.blk.cell 1 rfl
    by_cases hlt : i < xn
    · have hlt' : (i : Int) < (xn : Int) := by omega
      have gi0 : (0 : Int) ≤ (i : Int) := by omega
      obtain ⟨g, o, rfl, hg, x, hx, d0, _, _⟩ := HSR.out.its.at_ i hlt
      have hxm : x.1 ∈ R.map Prod.fst := List.mem_map.2 ⟨x, List.mem_of_getElem? hx, rfl⟩
      have HTK : Hid ((R.map Prod.fst).take (i + 1) = (R.map Prod.fst).take i ++ [x.1]) := by (show _ = _); rw [List.take_add_one, List.getElem?_map, hx]; rfl
      have HKK : Hid (Kn L ((R.map Prod.fst).take i ++ [x.1])) := by (show Kn _ _); rw [← HTK.out]; exact HK.out.sub (List.take_sublist _ _)
      have HET := (HK.out.each x.1 hxm).1
      obtain ⟨⟨qt, qf, qb⟩, bd⟩ := x
      simp only at d0 HET
      have e1 : wr.drew.cell? ⟨y, 1, none⟩ = some (.slice (some ⟨g, o, none⟩) xn xc) := c1
      have e2 : wr.drew.cell? ⟨g, o + i * 3, none⟩ = some (.int .i64 qt) := d0
      obtain ⟨W3, HW3⟩ : ∃ W3, Hid (W3 = (wr.alloc (.cells #[.int .i64 qt, .int .i64 qt, .int .i64 1] 62)).drew) := ⟨_, rfl⟩
      have HB3 : Hid (Below wr.heap.size wr W3) := by (show Below _ _ _); rw [HW3.out]; exact (below_new wr _).drew
      have HO3 : Hid (MapOk W3 (some ⟨wr.heap.size, 0, none⟩) 1 1 [⟨qt, qt, 1⟩]) := by
        (show MapOk _ _ _ _ _)
        have hbk : Bk W3 wr.heap.size (Sp.cells ⟨qt, qt, 1⟩) 62 := by rw [HW3.out]; exact Bk.new wr _ _
        exact ⟨(Sps.one (base := 0) hbk (Nat.zero_le _)).rd, Nat.le_refl _, by decide, one_right HET⟩
      clear hx hxm
      go_upto_region 7 with fail
      clear c1 d0
      go_region_law (first
        | (go_simp; go_at_call 42; rw [← HW3.out]; refine (ref_Join_new (HM.out.below HB3.out) HO3.out).mono ?_; rintro e w4 ⟨⟨av, nv, cv, lv, rfl, HM4, HA4, HT4⟩, hb4⟩; have HB4 : Hid (Below w.heap.size w w4) := HB.out.trans ((HB3.out.trans (hb4.mono HB3.out.size)).mono HB.out.size); clear hb4))
      all_goals (
        have HLX : Hid (∀ t, atS lv t = kk L ((R.map Prod.fst).take (i + 1)) t) := by
          intro t
          rw [HT4.out t, one_at, HL.out t, HTK.out, kk_snoc HKK.out]
        clear e1 e2
        go_wp2
        go_roundw
        case rel => exact ⟨i + 1, av, nv, cv, lv, rfl, by go_num, by omega, HM4, HLX, HB4⟩
        case measure => simp [intOf]; omega)
    · have hnl : ¬ (i : Int) < (xn : Int) := by omega
      have HLF : Hid (∀ t, atS l t = kk L (R.map Prod.fst) t) := by
        intro t
        rw [HL.out t, List.take_of_length_le (by rw [List.length_map, HRL.out]; omega)]
      go_wp2
      rw [HPO.out]
      exact ⟨⟨a, n, c, l, rfl, HM.out, HLF.out⟩, HB.out⟩
theorem results_refItem {w : World} {tmps : Array Value} {g : Nat} {c0 c1 c2 b : Value} (h4 : tmps[4]?.getD undef = .pointer (some ⟨g, 0, none⟩)) (h5 : tmps[5]?.getD undef = b) (k : Bk w g #[c0, c1, c2] 54) : (results Tryz.f57 tmps).run Tryz.prog w = .ok (.tuple #[.agg #[c0, c1, c2], b]) w := by
  have k0 : w.cell? ⟨g, 0, none⟩ = some c0 := k.cell 0 rfl
  have k1 : w.cell? ⟨g, 1, none⟩ = some c1 := k.cell 1 rfl
  have k2 : w.cell? ⟨g, 2, none⟩ = some c2 := k.cell 2 rfl
  simp [results, Tryz.results57, go_sem, h4, h5, k0, k1, k2]
/-- An item's value. -/
def itV (x : It × Bd) : Value := .agg #[.int .i64 x.1.tick, .int .u32 x.1.for_, .slice x.2.1 x.2.2.1 x.2.2.2]
/-- No item. -/
def noIt : It × Bd := (⟨0, 0, []⟩, none, 0, 0)
/-- What Item tells. -/
def ItemTold (R : List (It × Bd)) (t : Int) : (It × Bd) × Bool := match R[placeX (R.map Prod.fst) t]? with | some x => if x.1.tick = t then (x, true) else (noIt, false) | none => (noIt, false)
set_option maxHeartbeats 4000000 in
theorem ref_Item {w : World} {y : Nat} {L : List Sp} {R : List (It × Bd)} {la : Option Addr} {ln lc : Nat} {xa : Option Addr} {xn xc : Nat} (h : Rst Z w y L R la ln lc xa xn xc) (t : Int) :
    Calls Tryz.prog 57 #[.pointer (some ⟨y, 0, none⟩), .int .i64 t] w fun e w' => e = .returned (.tuple #[itV (ItemTold R t).1, .bool (ItemTold R t).2]) ∧ Below w.heap.size w w' := by
  have HS : Hid (Rst Z w y L R la ln lc xa xn xc) := h
  have HRL : Hid (R.length = xn) := h.its.size
  obtain ⟨W1, HW1⟩ : ∃ W1, Hid (W1 = w.alloc (.cells #[.int .i64 0, .int .u32 0, .slice none 0 0] 54)) := ⟨_, rfl⟩
  have HX1 : Hid (Below w.heap.size w W1) := by (show Below _ _ _); rw [HW1.out]; exact below_new w _
  have HK1 : Hid (Bk W1 w.heap.size #[.int .i64 0, .int .u32 0, .slice none 0 0] 54) := by (show Bk _ _ _ _); rw [HW1.out]; exact Bk.new w _ _
  have HS1 : Hid (Rst Z W1 y L R la ln lc xa xn xc) := h.stay HX1.out
  obtain ⟨K, HPK⟩ : ∃ K, Hid (placeX (R.map Prod.fst) t = K) := ⟨_, rfl⟩
  obtain ⟨bb, HBB⟩ : ∃ b, Hid (isAtX (R.map Prod.fst) t = b) := ⟨_, rfl⟩
  have HPL : Hid (Calls Tryz.prog 75 #[.pointer (some ⟨y, 0, none⟩), .int .i64 t] W1 fun e w' => e = .returned (.tuple #[.int .i64 (K : Int), .bool bb]) ∧ Below W1.heap.size W1 w') := by
    have := ref_place HS1.out t
    rw [HPK.out, HBB.out] at this
    exact this
  obtain ⟨IT, HIT⟩ : ∃ IT, Hid (ItemTold R t = IT) := ⟨_, rfl⟩
  rw [HIT.out]
  clear h
  go_enter Tryz.func57, Tryz.ntmps57
  go_upto_region 3 with fail
  rw [← HW1.out]
  go_wp2_with fail
  refine HPL.out.mono ?_
  rintro e w2 ⟨rfl, hb2⟩
  have HX2 : Hid (Below w.heap.size w w2) := HX1.out.trans (hb2.mono HX1.out.size)
  have hk2 : Bk w2 w.heap.size #[.int .i64 0, .int .u32 0, .slice none 0 0] 54 := HK1.out.stay hb2
  have d0 : w2.cell? ⟨w.heap.size, 0, none⟩ = some (.int .i64 0) := hk2.cell 0 rfl
  have d1 : w2.cell? ⟨w.heap.size, 1, none⟩ = some (.int .u32 0) := hk2.cell 1 rfl
  have d2 : w2.cell? ⟨w.heap.size, 2, none⟩ = some (.slice none 0 0) := hk2.cell 2 rfl
  have f0 := hk2.free 0
  have f1 := hk2.free 1
  have f2 := hk2.free 2
  have HK2 : Hid (∀ v0 v1 v2, Bk (((w2.setCell ⟨w.heap.size, 0, none⟩ v0).setCell ⟨w.heap.size, 1, none⟩ v1).setCell ⟨w.heap.size, 2, none⟩ v2) w.heap.size #[v0, v1, v2] 54) := fun v0 v1 v2 => ((hk2.set 0 v0).set 1 v1).set 2 v2
  have HB2 : Hid (∀ v0 v1 v2, Below w.heap.size w (((w2.setCell ⟨w.heap.size, 0, none⟩ v0).setCell ⟨w.heap.size, 1, none⟩ v1).setCell ⟨w.heap.size, 2, none⟩ v2)) := fun v0 v1 v2 => ((HX2.out.setCell (Nat.le_refl _) _).setCell (Nat.le_refl _) _).setCell (Nat.le_refl _) _
  have HS2 : Hid (Rst Z w2 y L R la ln lc xa xn xc) := HS.out.stay HX2.out
  clear hb2 hk2 HPL HK1 HX1 HW1 HS1
  cases bb with
  | false =>
    have HIE : Hid (IT = (noIt, false)) := by
      (show _ = _)
      rw [← HIT.out]
      have h1 := HBB.out
      unfold isAtX at h1
      unfold ItemTold
      rw [List.getElem?_map] at h1
      cases hx : R[placeX (R.map Prod.fst) t]? with
      | none => rfl
      | some x =>
        rw [hx] at h1
        have h1 : decide (x.1.tick = t) = false := h1
        show (if x.1.tick = t then (x, true) else (noIt, false)) = _
        rw [if_neg (of_decide_eq_false h1)]
    go_wp2
    refine bodyPost_ret (results_refItem (by rfl) (by rfl) (HK2.out _ _ _)) rfl ?_
    exact ⟨by rw [HIE.out]; rfl, HB2.out _ _ _⟩
  | true =>
    obtain ⟨x, hx, ht⟩ : ∃ x, R[K]? = some x ∧ x.1.tick = t := by
      have h1 := HBB.out
      unfold isAtX at h1
      rw [List.getElem?_map, HPK.out] at h1
      cases hx : R[K]? with
      | none => rw [hx] at h1; cases h1
      | some x => rw [hx] at h1; exact ⟨x, rfl, of_decide_eq_true h1⟩
    have HIE : Hid (IT = (x, true)) := by
      (show _ = _)
      rw [← HIT.out]
      unfold ItemTold
      rw [HPK.out, hx]
      show (if x.1.tick = t then (x, true) else (noIt, false)) = _
      rw [if_pos ht]
    have hKl : K < xn := by have := (List.getElem?_eq_some_iff.1 hx).1; rw [HRL.out] at this; exact this
    have hKl' : (K : Int) < (xn : Int) := by omega
    have gK : (0 : Int) ≤ (K : Int) := by omega
    obtain ⟨g, o, rfl, hg, x', hx', e0, e1, e2⟩ := HS2.out.its.at_ K hKl
    rw [hx] at hx'
    cases hx'
    have c1 : w2.cell? ⟨y, 1, none⟩ = some (.slice (some ⟨g, o, none⟩) xn xc) := HS2.out.blk.cell 1 rfl
    obtain ⟨⟨qt, qf, qb⟩, ba, bl, bc⟩ := x
    simp only at e0 e1 e2 ht
    clear hx ht
    go_wp2
    refine bodyPost_ret (results_refItem (by rfl) (by rfl) (HK2.out _ _ _)) rfl ?_
    exact ⟨by rw [HIE.out]; rfl, HB2.out _ _ _⟩
end Go.Proofs.YtidihfhgnjkmaaaGreat
