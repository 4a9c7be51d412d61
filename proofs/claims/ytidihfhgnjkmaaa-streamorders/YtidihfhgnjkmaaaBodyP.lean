/- A pack of texts: St32 St33. -/
import Derived.Test.YtidihfhgnjkmaaaSt31
import Derived.Test.YtidihfhgnjkmaaaPcR3
import Derived.BigRegion
/- grapevinelaw15.bodies. -/
namespace Go.Proofs.Ytidihfhgnjkmaaa
set_option maxRecDepth 100000
open Go.RowKit Go.Maps Go.Sort Go.Shelf

theorem OwnPc.rd {w : World} {base : Nat} {p : Pc} {ta : Option Addr} {tn tc : Nat} {ja : Option Addr} {jm jc : Nat} (h : OwnPc w base p ta tn tc ja jm jc) (hb : ∀ q ∈ p.items, ((-9223372036854775808 : Int) ≤ q.tick ∧ q.tick ≤ 9223372036854775807) ∧ (0 ≤ q.for_ ∧ q.for_ ≤ 4294967295)) : PcRd w p ta tn tc ja jm jc := by
  obtain ⟨L, hL, e⟩ := h.items
  have hs := h.spans.big
  obtain ⟨a', c', hv, h1, h2⟩ := hL.form
  simp only [Value.slice.injEq] at hv
  obtain ⟨rfl, rfl, rfl⟩ := hv
  have hi := hL.rd (by rw [e]; exact hb)
  rw [e] at hi
  exact ⟨h.spans.rd, hi, hs.1, hs.2, h1, h2⟩
def tot (L : List Pa) : Nat := (L.flatMap fun q => q.p.items).length
theorem tot_snoc (L : List Pa) (q : Pa) : tot (L ++ [q]) = tot L + q.p.items.length := by unfold tot; rw [List.flatMap_append, List.length_append]; simp
/-- What bodies leaves. -/
structure Bodies (w : World) (base : Nat) (v : Value) (L : List Pa) : Prop where
  row : Prow w base v L
  ok : ∀ q ∈ L, TellOk q.p ∧ ∀ x ∈ q.p.items, x.body = bod x.tick
  few : tot L ≤ 64
theorem shr8 (t : Int) (W : World) : (Op.shift BinOp.shr IntKind.i64 t IntKind.u64 8).run Try.prog W = .ok (.int .i64 (t / 256)) W := by
  rw [shift_shr .i64 .u64 t 8 (by decide) (by decide)]
  rfl
theorem bod_own (t : Int) (w : World) (base : Nat) (hb : base ≤ w.heap.size) : Own (w.alloc (.cells #[.int .u8 (IntKind.u8.wrap t), .int .u8 (IntKind.u8.wrap (t / 256))] 5)) base (some ⟨w.heap.size, 0, none⟩) 2 2 (bod t) := by
  refine Own.new w base _ (bod t) (fun x hx => ?_) ?_ hb (by show 2 ≤ maxLen; decide)
  · simp only [bod, List.mem_cons, List.not_mem_nil, or_false] at hx
    rcases hx with rfl | rfl <;> omega
  · have e : ∀ x : Int, IntKind.u8.wrap x = ((x % 256).toNat : Int) := fun x => by
      rw [IntKind.wrap_u8']
      omega
    rw [e, e]
    rfl
end Go.Proofs.Ytidihfhgnjkmaaa
/- grapevinelaw15.bodies: the walk. -/
namespace Go.Proofs.Ytidihfhgnjkmaaa
set_option maxRecDepth 100000
open Go.RowKit Go.Maps Go.Sort Go.Shelf

theorem Its.heapRow {w : World} {base g n c : Nat} {L : List (It × Bd)} (h : Its w base (.slice (some ⟨g, 0, none⟩) n c) L) : ∃ cur mo, w.heap[g]? = some (.cells cur 42 mo) := by
  rcases h.row.2 with ⟨hv, _⟩ | ⟨g', c', cur, hv, _, hg, _⟩
  · cases hv
  · simp only [Value.slice.injEq, Option.some.injEq, Addr.mk.injEq, and_true] at hv
    obtain ⟨rfl, _⟩ := hv
    exact ⟨cur, _, hg⟩
/-- One body is turned: what stays. -/
theorem inner_step {w : World} {B gv g n c : Nat} {ta : Option Addr} {tn tc : Nat} {pl : List Sp} {cs : Array Value} {L M : List (It × Bd)} {q : It} {b : Bd} (hi : Its w B (.slice (some ⟨g, 0, none⟩) n c) (L ++ (q, b) :: M)) (hs : Sps w B (.slice ta tn tc) pl) (hk : Bk w gv cs 33) (hb : B ≤ w.heap.size) :
    let w' := (w.alloc (.cells #[.int .u8 (IntKind.u8.wrap q.tick), .int .u8 (IntKind.u8.wrap (q.tick / 256))] 5)).setCell ⟨g, L.length * 3 + 2, none⟩ (.slice (some ⟨w.heap.size, 0, none⟩) 2 2)
    Its w' B (.slice (some ⟨g, 0, none⟩) n c) (L ++ (turnI q, (some ⟨w.heap.size, 0, none⟩, 2, 2)) :: M) ∧ Sps w' B (.slice ta tn tc) pl ∧ Bk w' gv cs 33 ∧ Below B w w' := by
  intro w'
  have hi1 := hi.below (below_alloc w (.cells #[.int .u8 (IntKind.u8.wrap q.tick), .int .u8 (IntKind.u8.wrap (q.tick / 256))] 5))
  have hs1 := hs.below (below_alloc w (.cells #[.int .u8 (IntKind.u8.wrap q.tick), .int .u8 (IntKind.u8.wrap (q.tick / 256))] 5))
  have hk1 := hk.stay (below_alloc w (.cells #[.int .u8 (IntKind.u8.wrap q.tick), .int .u8 (IntKind.u8.wrap (q.tick / 256))] 5))
  obtain ⟨cur, mo, hg⟩ := hi1.heapRow
  refine ⟨hi1.setBody (bod_own q.tick w B hb), ?_, hk1.other _ _ fun e => ?_, ?_⟩
  · refine ⟨⟨hs1.row.1, ?_⟩⟩
    rcases hs1.row.2 with hn | ⟨g', c', cur', hv, hbg, hg', r⟩
    · exact .inl hn
    · refine .inr ⟨g', c', cur', hv, hbg, ?_, r⟩
      rw [heap_setCell_other _ _ g' _ (fun e => ?_)]
      · exact hg'
      · have e : g' = g := e
        rw [e, hg] at hg'
        simp only [Option.some.injEq, Obj.cells.injEq] at hg'
        exact absurd hg'.2.1 (by decide)
  · have e : gv = g := e
    have hk2 : (w.alloc (.cells #[.int .u8 (IntKind.u8.wrap q.tick), .int .u8 (IntKind.u8.wrap (q.tick / 256))] 5)).heap[gv]? = some (.cells cs 33 (0, 0)) := hk1
    rw [e, hg] at hk2
    simp only [Option.some.injEq, Obj.cells.injEq] at hk2
    exact absurd hk2.2.1 (by decide)
  · exact ((below_alloc w _).mono hb).setCell (hi1.rowFree 0).2.1 _
theorem pa_told {w : World} {g : Nat} {q : Pa} {t : TypeId} (h : Bk w g (pacells q).toArray t) : ∀ j u, (pacells q)[j]? = some u → w.cell? ((⟨g, 0, none⟩ : Addr).add j) = some u := by
  intro j u hj
  have hk : (pacells q).toArray[j]? = some u := by rw [List.getElem?_toArray]; exact hj
  have := h.cell j hk
  have hz : (⟨g, 0, none⟩ : Addr).add j = ⟨g, j, none⟩ := by unfold Addr.add; split <;> simp_all
  rw [hz]
  exact this
theorem list_spot {α : Type} : ∀ (M : List α) (k : Nat), k < M.length → ∃ A x B, M = A ++ x :: B ∧ A.length = k
  | [], k, h => by simp at h
  | x :: M, 0, _ => ⟨[], x, M, rfl, rfl⟩
  | x :: M, k + 1, h => by
    obtain ⟨A, y, B, e, hl⟩ := list_spot M k (by simpa using h)
    exact ⟨x :: A, y, B, by rw [e]; rfl, by rw [List.length_cons, hl]⟩
theorem turn_step {items : List It} {k : Nat} {M1 M2 : List (It × Bd)} {q : It} {b b' : Bd} (hl : M1.length = k) (hk : k < items.length) (h : (M1 ++ (q, b) :: M2).map Prod.fst = (items.take k).map turnI ++ items.drop k) : (M1 ++ (turnI q, b') :: M2).map Prod.fst = (items.take (k + 1)).map turnI ++ items.drop (k + 1) := by
  rw [List.map_append, List.map_cons] at h
  obtain ⟨h1, h2⟩ := List.append_inj h (by rw [List.length_map, List.length_map, List.length_take]; omega)
  rw [List.drop_eq_getElem_cons hk, List.cons.injEq] at h2
  rw [List.map_append, List.map_cons, h1, h2.2, List.take_succ_eq_append_getElem hk, List.map_append, ← h2.1]
  simp
end Go.Proofs.Ytidihfhgnjkmaaa
