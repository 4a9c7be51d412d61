/- Spans in memory: a list of spans as it is read, one of one's own, and a span behind it. -/
import Derived.Test.YtidihfhgnjkmaaaGreatRows
import Derived.WalkKit
import Derived.WalkLawsBesides
import Derived.WalkSpells
import Derived.Laws.BytesArg
import Derived.Laws.OwnMore
import Derived.Deep.AppendLies
import Derived.Deep.SlicePairs
import Derived.Below
import Derived.Test.YtidihfhgnjkmaaaGreatSpM
namespace Go.Proofs.YtidihfhgnjkmaaaGreat
open Go.RowKit

theorem below_new (w : World) (o : Obj) : Below w.heap.size w (w.alloc o) := (Below.refl _ _).alloc (Nat.le_refl _) _

theorem below_drew {B : Nat} {w w' : World} (h : Below B w w') : Below B w w'.drew := h.trans ⟨rfl, rfl, rfl, Nat.le_refl _, fun _ _ => rfl⟩
theorem below_drews {B : Nat} {w w' : World} (h : Below B w w') (n : Nat) : Below B w (w'.drewN n) := h.trans ⟨rfl, rfl, rfl, Nat.le_refl _, fun _ _ => rfl⟩

/-- A block whose cells are known. -/
def Bk (w : World) (g : Nat) (cs : Array Value) (t : TypeId) : Prop := w.heap[g]? = some (.cells cs t (0, 0))
theorem Bk.new (w : World) (cs : Array Value) (t : TypeId) : Bk (w.alloc (.cells cs t)) w.heap.size cs t := heap_alloc_new w _
theorem Bk.lt {w : World} {g : Nat} {cs : Array Value} {t : TypeId} (h : Bk w g cs t) : g < w.heap.size := (Array.getElem?_eq_some_iff.1 h).1
theorem Bk.below {w w' : World} {B g : Nat} {cs : Array Value} {t : TypeId} (h : Bk w g cs t) (hb : Below B w w') (hg : g < B) : Bk w' g cs t := by
  unfold Bk
  rw [hb.block g hg]
  exact h
theorem Bk.stay {w w' : World} {g : Nat} {cs : Array Value} {t : TypeId} (h : Bk w g cs t) (hb : Below w.heap.size w w') : Bk w' g cs t := h.below hb h.lt
theorem Bk.cell {w : World} {g : Nat} {cs : Array Value} {t : TypeId} (h : Bk w g cs t) (i : Nat) {v : Value} (hv : cs[i]? = some v) : w.cell? ⟨g, i, none⟩ = some v := by
  rw [cell_of_row w g i cs _ _ h, hv]
theorem Bk.free {w : World} {g : Nat} {cs : Array Value} {t : TypeId} (h : Bk w g cs t) (i : Nat) : w.frozen? ⟨g, i, none⟩ = false := frozen_of_row w g i cs t h
theorem Bk.set {w : World} {g : Nat} {cs : Array Value} {t : TypeId} (h : Bk w g cs t) (i : Nat) (v : Value) : Bk (w.setCell ⟨g, i, none⟩ v) g (cs.setIfInBounds i v) t := heap_setCell_same w g i cs t v h
theorem Bk.other {w : World} {g : Nat} {cs : Array Value} {t : TypeId} (h : Bk w g cs t) (a : Addr) (v : Value) (ha : g ≠ a.block) : Bk (w.setCell a v) g cs t := by
  unfold Bk
  rw [heap_setCell_other w a g v ha]
  exact h
theorem Bk.grown {w w' : World} {g : Nat} {cs : Array Value} {t : TypeId} {row : Option Nat} (h : Bk w g cs t) (hg : w.grownBy w' row) (hn : some g ≠ row) : Bk w' g cs t := by
  unfold Bk
  rw [hg.block g h.lt hn]
  exact h

def Sp.cells (q : Sp) : Array Value := #[.int .i64 q.fr, .int .i64 q.to, .int .i64 q.is]

/-- A slice reads as those spans. -/
structure SpsRd (w : World) (a : Option Addr) (n : Nat) (l : List Sp) : Prop where
  size : l.length = n
  cells : l = [] ∨ ∃ g o, a = some ⟨g, o, none⟩ ∧ g < w.heap.size ∧ ∀ i q, l[i]? = some q → w.cell? ⟨g, o + i * 3, none⟩ = some (.int .i64 q.fr) ∧ w.cell? ⟨g, o + i * 3 + 1, none⟩ = some (.int .i64 q.to) ∧ w.cell? ⟨g, o + i * 3 + 2, none⟩ = some (.int .i64 q.is)
theorem SpsRd.below {w w' : World} {a : Option Addr} {n : Nat} {l : List Sp} (h : SpsRd w a n l) (hb : Below w.heap.size w w') : SpsRd w' a n l := by
  refine ⟨h.size, ?_⟩
  rcases h.cells with h0 | ⟨g, o, ha, hg, hc⟩
  · exact .inl h0
  · refine .inr ⟨g, o, ha, Nat.lt_of_lt_of_le hg hb.size, fun i q hi => ?_⟩
    rw [hb.cell (p := ⟨g, o + i * 3, none⟩) hg, hb.cell (p := ⟨g, o + i * 3 + 1, none⟩) hg, hb.cell (p := ⟨g, o + i * 3 + 2, none⟩) hg]
    exact hc i q hi
/-- One of the spans, cell by cell. -/
theorem SpsRd.at_ {w : World} {a : Option Addr} {n : Nat} {l : List Sp} (h : SpsRd w a n l) (i : Nat) (hi : i < n) : ∃ g o, a = some ⟨g, o, none⟩ ∧ g < w.heap.size ∧ ∃ q, l[i]? = some q ∧ w.cell? ⟨g, o + i * 3, none⟩ = some (.int .i64 q.fr) ∧ w.cell? ⟨g, o + i * 3 + 1, none⟩ = some (.int .i64 q.to) ∧ w.cell? ⟨g, o + i * 3 + 2, none⟩ = some (.int .i64 q.is) := by
  have hl : i < l.length := by rw [h.size]; exact hi
  rcases h.cells with rfl | ⟨g, o, ha, hg, hc⟩
  · simp at hl
  · exact ⟨g, o, ha, hg, l[i], List.getElem?_eq_getElem hl, hc i l[i] (List.getElem?_eq_getElem hl)⟩
theorem SpsRd.tail {w : World} {g o n : Nat} {s : Sp} {l : List Sp} (h : SpsRd w (some ⟨g, o, none⟩) n (s :: l)) : SpsRd w (some ⟨g, o + 3, none⟩) (n - 1) l := by
  refine ⟨by have := h.size; simp at this; omega, ?_⟩
  rcases h.cells with h0 | ⟨g', o', ha, hg, hc⟩
  · cases h0
  · simp only [Option.some.injEq, Addr.mk.injEq] at ha
    obtain ⟨rfl, rfl, _⟩ := ha
    refine .inr ⟨g, o + 3, rfl, hg, fun i q hi => ?_⟩
    have := hc (i + 1) q (by simpa using hi)
    rw [show o + (i + 1) * 3 = o + 3 + i * 3 from by omega] at this
    exact this

/-- A list of spans of one's own. -/
structure Sps (w : World) (base : Nat) (v : Value) (l : List Sp) : Prop where
  row : w.ownsRow base 62 3 v l.length (l.flatMap fun q => q.cells.toList)
theorem Sps.nil_ (w : World) (base : Nat) : Sps w base (.slice none 0 0) [] := ⟨⟨rfl, .inl ⟨rfl, rfl⟩⟩⟩
theorem Sps.below {w w' : World} {base : Nat} {v : Value} {l : List Sp} (h : Sps w base v l) (hb : Below w.heap.size w w') : Sps w' base v l := by
  refine ⟨⟨h.row.1, ?_⟩⟩
  rcases h.row.2 with hn | ⟨g, c, cur, hv, hbg, hg, r⟩
  · exact .inl hn
  · exact .inr ⟨g, c, cur, hv, hbg, by rw [hb.block g (Array.getElem?_eq_some_iff.1 hg).1]; exact hg, r⟩
theorem Sps.lower {w : World} {base base' : Nat} {v : Value} {l : List Sp} (h : Sps w base v l) (hb : base' ≤ base) : Sps w base' v l := by
  refine ⟨⟨h.row.1, ?_⟩⟩
  rcases h.row.2 with hn | ⟨g, c, cur, hv, hbg, r⟩
  · exact .inl hn
  · exact .inr ⟨g, c, cur, hv, Nat.le_trans hb hbg, r⟩
theorem Sps.snoc {w' : World} {base : Nat} {v' : Value} {l : List Sp} (q : Sp) (hrow : w'.ownsRow base 62 3 v' (l.length + 1) ((l.flatMap fun q => q.cells.toList) ++ q.cells.toList)) : Sps w' base v' (l ++ [q]) := by
  refine ⟨?_⟩
  rw [List.length_append, List.flatMap_append]
  simpa using hrow
theorem Sp.one (q : Sp) : ∀ u ∈ q.cells.toList, u.oneCell' = true := by
  intro u hu
  simp only [Sp.cells, List.mem_cons, List.not_mem_nil, or_false] at hu
  rcases hu with rfl | rfl | rfl <;> rfl
theorem Sps.at_ {w : World} {base : Nat} {v : Value} {l : List Sp} (h : Sps w base v l) {k : Nat} (hk : v.ownBlock = some k) : base ≤ k := (h.row.lt k hk).1
theorem Sps.form {w : World} {base : Nat} {v : Value} {l : List Sp} (h : Sps w base v l) : ∃ a c, v = .slice a l.length c ∧ l.length ≤ c := by
  rcases h.row.2 with ⟨hv, hn⟩ | ⟨g, c, cur, hv, _, _, hc, _⟩
  · exact ⟨none, 0, by rw [hv, hn], by omega⟩
  · exact ⟨_, c, hv, hc⟩
theorem Sps.under {w : World} {base : Nat} {v : Value} {l : List Sp} (h : Sps w base v l) (p : Addr) (u : Value) (hp : p.block < base) : Sps (w.setCell p u) base v l := ⟨ownsRow_setCell_below h.row hp u⟩
theorem flat3 : ∀ (l : List Sp) (i : Nat) (q : Sp), l[i]? = some q → ∀ j, j < 3 → (l.flatMap fun q => q.cells.toList)[i * 3 + j]? = q.cells.toList[j]?
  | [], i, q, h, j, hj => by simp at h
  | p :: l, 0, q, h, j, hj => by
    simp only [List.getElem?_cons_zero, Option.some.injEq] at h
    subst h
    rw [List.flatMap_cons, Nat.zero_mul, Nat.zero_add, List.getElem?_append_left (by simp [Sp.cells]; omega)]
  | p :: l, i + 1, q, h, j, hj => by
    rw [List.getElem?_cons_succ] at h
    have e : p.cells.toList.length = 3 := rfl
    rw [List.flatMap_cons, List.getElem?_append_right (by omega), e, show (i + 1) * 3 + j - 3 = i * 3 + j from by omega]
    exact flat3 l i q h j hj
theorem Sps.rd {w : World} {base : Nat} {a : Option Addr} {n c : Nat} {l : List Sp} (h : Sps w base (.slice a n c) l) : SpsRd w a n l := by
  rcases h.row.2 with ⟨hv, hn⟩ | ⟨g, c', cur, hv, hb, hg, hlc, hm, hs, ht⟩
  · simp only [Value.slice.injEq] at hv
    exact ⟨by omega, .inl (List.length_eq_zero_iff.1 hn)⟩
  · simp only [Value.slice.injEq] at hv
    obtain ⟨rfl, rfl, rfl⟩ := hv
    refine ⟨rfl, .inr ⟨g, 0, rfl, (Array.getElem?_eq_some_iff.1 hg).1, fun i q hi => ?_⟩⟩
    have hil : i < l.length := (List.getElem?_eq_some_iff.1 hi).1
    have key : ∀ j, j < 3 → w.cell? ⟨g, 0 + i * 3 + j, none⟩ = q.cells.toList[j]? := by
      intro j hj
      have h1 := flat3 l i q hi j hj
      rw [← ht, List.getElem?_take_of_lt (by omega), Array.getElem?_toList] at h1
      rw [cell_of_row w g _ cur _ _ hg, Nat.zero_add, h1]
    exact ⟨key 0 (by omega), key 1 (by omega), key 2 (by omega)⟩
/-- A block of spans that was just made. -/
theorem Sps.one {w : World} {base g : Nat} {q : Sp} (h : Bk w g q.cells 62) (hb : base ≤ g) : Sps w base (.slice (some ⟨g, 0, none⟩) 1 1) [q] :=
  ⟨⟨rfl, .inr ⟨g, 1, q.cells, rfl, hb, h, Nat.le_refl _, by unfold maxLen; omega, rfl, by simp [Sp.cells]⟩⟩⟩
theorem infoSpan : (Tryz.prog.info? 62).map (fun i => (i.zero, i.size, i.bytes)) = some (some (.agg #[.int .i64 0, .int .i64 0, .int .i64 0]), 3, 24) := by kernel_rfl

/-- A span behind a list of one's own. -/
theorem wp_append_sp {w : World} {o : Oper} {act : Act} {K : Act → World → Prop} {Q : Exit → Act → World → Prop} (s x : Operand)
    (ho : o.op = .call { callee := .builtin .append, args := #[s, x], argTypes := #[30, 30] })
    (base : Nat) (v : Value) (l : List Sp) (hs : act.eval s = v) (hown : Sps w base v l) (ad : Addr) (c : Nat) (q : Sp) (hx : act.eval x = .slice (some ad) 1 c) (hnews : ∀ j u, q.cells.toList[j]? = some u → w.cell? (ad.add j) = some u)
    (hl : l.length ≤ 3000000000000) (hbase : base ≤ w.heap.size)
    (h : ∀ v' w', Sps w' base v' (l ++ [q]) → w.grownBy w' v.ownBlock → K (act.put o.dst v') w') : o.wp Tryz.prog act w K Q := by
  obtain ⟨i0, hi, hz0, hz1, hz2⟩ := info_parts infoSpan
  exact wp_append_own w s x 30 ho base 62 i0 (.agg #[.int .i64 0, .int .i64 0, .int .i64 0]) 3 24 Tryz.underlying30 hi hz0 hz1 hz2 (by rfl) (by decide) v l.length (l.flatMap fun q => q.cells.toList) hs hown.row ad 1 c q.cells.toList hx (by rfl) hnews (Sp.one q) (by unfold maxLen; omega) (by omega) hbase fun v' w' h1 h2 _ => h v' w' (Sps.snoc q h1) h2
theorem wpList_append_sp {w : World} {ops : Array Oper} {rest : List Oper} {o : Oper} {act : Act} {Q : Exit → Act → World → Prop} (hgd : o.guard = none) (s x : Operand)
    (ho : o.op = .call { callee := .builtin .append, args := #[s, x], argTypes := #[30, 30] })
    (base : Nat) (v : Value) (l : List Sp) (hs : act.eval s = v) (hown : Sps w base v l) (ad : Addr) (c : Nat) (q : Sp) (hx : act.eval x = .slice (some ad) 1 c) (hnews : ∀ j u, q.cells.toList[j]? = some u → w.cell? (ad.add j) = some u)
    (hl : l.length ≤ 3000000000000) (hbase : base ≤ w.heap.size)
    (h : ∀ v' w', Sps w' base v' (l ++ [q]) → w.grownBy w' v.ownBlock → wpList Tryz.prog ops Q rest (act.put o.dst v') w') : wpList Tryz.prog ops Q (o :: rest) act w :=
  wpList_plain hgd fun _ hK => wp_append_sp s x ho base v l hs hown ad c q hx hnews hl hbase fun v' w' h1 h2 => hK _ _ (h v' w' h1 h2)
/-- The three cells of a span at a place. -/
theorem Sp.told {w : World} {g : Nat} {q : Sp} {t : TypeId} (h : Bk w g q.cells t) : ∀ j u, q.cells.toList[j]? = some u → w.cell? ((⟨g, 0, none⟩ : Addr).add j) = some u := by
  intro j u hj
  rw [Array.getElem?_toList] at hj
  have := h.cell j hj
  by_cases h0 : j = 0
  · subst h0
    simpa [Addr.add] using this
  · simpa [Addr.add, h0] using this
/-- The last span's end is set. -/
theorem Sps.setTo {w : World} {base g n c : Nat} {i : List Sp} {q : Sp} (h : Sps w base (.slice (some ⟨g, 0, none⟩) n c) (i ++ [q])) (x : Int) : Sps (w.setCell ⟨g, i.length * 3 + 1, none⟩ (.int .i64 x)) base (.slice (some ⟨g, 0, none⟩) n c) (i ++ [⟨q.fr, x, q.is⟩]) := by
  have hr := h.row
  have hn : n = (i ++ [q]).length := by
    rcases hr.2 with ⟨hv, _⟩ | ⟨g', c', cur, hv, _⟩
    · cases hv
    · simp only [Value.slice.injEq] at hv
      exact hv.2.1
  subst hn
  have h2 := hr.stored (i.length * 3 + 1) (.int .i64 x)
  refine ⟨?_⟩
  have e : ∀ m : List Sp, (m.flatMap fun q => q.cells.toList).length = m.length * 3 := by
    intro m
    induction m with
    | nil => rfl
    | cons s m ih => rw [List.flatMap_cons, List.length_append, ih, List.length_cons]; simp [Sp.cells]; omega
  have e2 : ((i ++ [q]).flatMap fun q => q.cells.toList).set (i.length * 3 + 1) (.int .i64 x) = (i ++ [(⟨q.fr, x, q.is⟩ : Sp)]).flatMap fun q => q.cells.toList := by
    rw [List.flatMap_append, List.flatMap_append, List.set_append_right _ _ (by rw [e]; omega), e]
    simp [Sp.cells]
  rw [← e2, show (i ++ [(⟨q.fr, x, q.is⟩ : Sp)]).length = (i ++ [q]).length from by simp]
  exact h2.1

section
open Go.ChangeShapes Go.WideShapes
set_option maxRecDepth 100000 in
/-- A list of spans that came in. -/
theorem open_spans {H : Type} {enc : TypeId × Value → H} {W : World} {a : Option Addr} {n cap : Nat} {d : DataW H} {p : List MemPlace}
    (h : DataW.Trod enc Tryz.prog W 0 (fun _ => true) true 30 (.slice a n cap) d p) : ∃ l, SpsRd W a n l ∧ n ≤ cap ∧ cap ≤ maxLen ∧ ∀ q ∈ l, ((-9223372036854775808 : Int) ≤ q.fr ∧ q.fr ≤ 9223372036854775807) ∧ ((-9223372036854775808 : Int) ≤ q.to ∧ q.to ≤ 9223372036854775807) ∧ ((-9223372036854775808 : Int) ≤ q.is ∧ q.is ≤ 9223372036854775807) := by
  obtain ⟨fuel, hf⟩ := h
  rcases Go.Deep.open_slice Tryz.underlying30 hf with ⟨hcs, hx⟩ | ⟨x, l, c, m, n', D, Pl, hcs, hb, hl, hm, hmm, hx, hr⟩
  · simp [Value.cells] at hcs
    obtain ⟨rfl, rfl, rfl⟩ := hcs
    exact ⟨[], ⟨rfl, .inl rfl⟩, Nat.le_refl _, by omega, fun q hq => by cases hq⟩
  · simp [Value.cells] at hcs
    obtain ⟨rfl, rfl, rfl⟩ := hcs
    simp only [if_true] at hmm
    subst hmm
    have each : ∀ r, r < m → ∃ q : Sp, W.cell? (x.add (r * 3)) = some (.int .i64 q.fr) ∧ W.cell? (x.add (r * 3 + 1)) = some (.int .i64 q.to) ∧ W.cell? (x.add (r * 3 + 2)) = some (.int .i64 q.is) ∧ ((-9223372036854775808 : Int) ≤ q.fr ∧ q.fr ≤ 9223372036854775807) ∧ ((-9223372036854775808 : Int) ≤ q.to ∧ q.to ≤ 9223372036854775807) ∧ ((-9223372036854775808 : Int) ≤ q.is ∧ q.is ≤ 9223372036854775807) := by
      intro r hrc
      obtain ⟨cs', h1, h2⟩ := hr r hrc
      rw [show Tryz.prog.cellsOf 62 = 3 from by kernel_rfl] at h1
      obtain ⟨_, hlen, hcell⟩ := World.cells?_some h1
      obtain ⟨xs, k, hk, hxy, _, hxl, hf⟩ := DataW.trod_struct Tryz.underlying62 h2
      match xs, hxl, cs', hlen with
      | [y0, y1, y2], _, [v0, v1, v2], _ =>
        have g0 := hf 0 _ rfl
        have g1 := hf 1 _ rfl
        have g2 := hf 2 _ rfl
        rw [show Tryz.prog.cellsOf _ = 1 from by kernel_rfl] at g0 g1 g2
        simp only [List.getElem?_cons_zero, List.getElem?_cons_succ] at g0 g1 g2
        have e0 := hcell 0 (by omega)
        have e1 := hcell 1 (by omega)
        have e2 := hcell 2 (by omega)
        rw [Go.Deep.add_add] at e0 e1 e2
        obtain ⟨q0, r0, _, s0⟩ := DataW.trod_int Tryz.underlying3 g0
        obtain ⟨q1, r1, _, s1⟩ := DataW.trod_int Tryz.underlying3 g1
        obtain ⟨q2, r2, _, s2⟩ := DataW.trod_int Tryz.underlying60 g2
        refine ⟨⟨q0, q1, q2⟩, ?_, ?_, ?_, ?_, ?_, ?_⟩
        · simp_all
        · simp_all
        · simp_all
        · simpa [Lit.wf, IntKind.min, IntKind.max, IntKind.signed, IntKind.bits] using s0
        · simpa [Lit.wf, IntKind.min, IntKind.max, IntKind.signed, IntKind.bits] using s1
        · simpa [Lit.wf, IntKind.min, IntKind.max, IntKind.signed, IntKind.bits] using s2
    haveI : Inhabited Sp := ⟨Sp.zr⟩
    obtain ⟨y, hy⟩ := Go.Deep.choose_lt each
    refine ⟨(List.range n).map y, ⟨by simp, ?_⟩, hl, hm, ?_⟩
    · by_cases hn0 : n = 0
      · left; simp [hn0]
      · right
        obtain ⟨b, off, spot⟩ := x
        have hc := (hy 0 (by omega)).1
        have hspot : spot = none := by simpa [Addr.add] using World.cell?_spot hc
        subst hspot
        refine ⟨b, off, rfl, World.block_lt_of_cell? W _ hc, fun i q hi => ?_⟩
        have hin : i < n := by
          have := (List.getElem?_eq_some_iff.1 hi).1
          simpa using this
        have hq : q = y i := by
          rw [List.getElem?_map, List.getElem?_range hin] at hi
          simpa using hi.symm
        subst hq
        have e : ∀ j, (⟨b, off, none⟩ : Addr).add j = ⟨b, off + j, none⟩ := fun j => by unfold Addr.add; split <;> simp_all
        obtain ⟨h2, h3, h4, _⟩ := hy i (by omega)
        rw [e] at h2 h3 h4
        exact ⟨h2, h3, h4⟩
    · intro q hq
      obtain ⟨i, hi, rfl⟩ := List.mem_map.1 hq
      have hin := List.mem_range.1 hi
      exact (hy i (by omega)).2.2.2
end
end Go.Proofs.YtidihfhgnjkmaaaGreat
