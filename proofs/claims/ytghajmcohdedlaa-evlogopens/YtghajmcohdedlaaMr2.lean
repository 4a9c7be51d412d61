/- The reference's cells: Put, Open. -/
import Derived.Test.YtghajmcohdedlaaMr1
import Derived.Test.YtghajmcohdedlaaStep
namespace Go.Proofs.Ytghajmcohdedlaa
open Go.RowKit

theorem run_build_byte (w : World) (x : Nat) : (Instr.buildSlice 49 1 #[(0, .int .u8 (x : Int))]).run Try.prog w = .ok (.slice (some ⟨w.heap.size, 0, none⟩) 1 1) (w.alloc (.cells #[.int .u8 (x : Int)] 5)) := by
  obtain ⟨i0, hi, hz0, hz1, hz2⟩ := info_parts infoByte
  simp [Instr.buildSlice, run_underlying Try.underlying49, sizeOf, typeInfo, hi, hz0, hz1, zeroValue, Value.cells, go_sem]
theorem step_build_byte {w : World} {ops : Array Oper} {o : Oper} {a : Act} {K : Act → World → Prop} {Q : Exit → Act → World → Prop} {E : Prop} (hgd : o.guard = none) (s : Operand) (ho : o.op = .buildSlice 49 1 #[(0, s)]) (x : Nat) (hx : x < 256) (hs : a.eval s = .int .u8 (x : Int))
    (h : ∀ w', Own w' w.heap.size (some ⟨w.heap.size, 0, none⟩) 1 1 [x] → Below w.heap.size w w' → K (a.put o.dst (.slice (some ⟨w.heap.size, 0, none⟩) 1 1)) w') : if Region.wanted o (yielded ops a.tmps) = true then Oper.wp Try.prog o a w K Q else E := by
  rw [if_pos (by simp [Region.wanted, hgd])]
  unfold Oper.wp
  simp only [execOp, ho, Sem.run_bind, Sem.run_pure, Result.andThen_ok, List.map_toArray, List.map_cons, List.map_nil, hs, run_build_byte w x]
  exact h _ (Own.new w w.heap.size #[.int .u8 (x : Int)] [x] (by simpa using hx) rfl (Nat.le_refl _) (by unfold maxLen; simp)) (below_alloc _ _)
theorem wpList_build_byte {w : World} {ops : Array Oper} {rest : List Oper} {o : Oper} {a : Act} {Q : Exit → Act → World → Prop} (hgd : o.guard = none) (s : Operand) (ho : o.op = .buildSlice 49 1 #[(0, s)]) (x : Nat) (hx : x < 256) (hs : a.eval s = .int .u8 (x : Int))
    (h : ∀ w', Own w' w.heap.size (some ⟨w.heap.size, 0, none⟩) 1 1 [x] → Below w.heap.size w w' → wpList Try.prog ops Q rest (a.put o.dst (.slice (some ⟨w.heap.size, 0, none⟩) 1 1)) w') : wpList Try.prog ops Q (o :: rest) a w := by
  refine wpList_plain hgd fun K hK => ?_
  unfold Oper.wp
  simp only [execOp, ho, Sem.run_bind, Sem.run_pure, Result.andThen_ok, List.map_toArray, List.map_cons, List.map_nil, hs, run_build_byte w x]
  exact hK _ _ (h _ (Own.new w w.heap.size #[.int .u8 (x : Int)] [x] (by simpa using hx) rfl (Nat.le_refl _) (by unfold maxLen; simp)) (below_alloc _ _))
theorem Own.nn {w : World} {base : Nat} {a : Option Addr} {len cap : Nat} {bs : List Nat} (h : Own w base a len cap bs) : a = none → cap = 0 := by
  intro e
  rcases h.row.2 with ⟨h1, _⟩ | ⟨g, c, cur, h1, _⟩
  · simp only [Value.slice.injEq] at h1; exact h1.2.2
  · simp only [Value.slice.injEq] at h1; rw [e] at h1; cases h1.1
theorem Mr.keep {w w' : World} {base k : Nat} {cs : Array Value} {t : TypeId} (h : Mr w w' base) (hb : Blk w k cs t) (h1 : t ≠ 48) (h2 : t ≠ 49) (h3 : t ≠ 103) : Blk w' k cs t := h.block k cs t _ hb h1 h2 h3

set_option maxRecDepth 100000 in
theorem ref_Open10 (w : World) (base r q : Nat) (sv rv : Value) (SV WV : List Value) (D : Dk) (b m : Nat) (h : Rk w base r q sv rv SV WV D) (hm : 1 ≤ m ∧ m ≤ 32) (hb : b ≤ 1000) (hfit : b + 2 * m ≤ D.sure.length) :
    Calls Try.prog 41 #[.pointer (some ⟨r, 0, none⟩), .int .i64 (b : Int), .int .i64 (m : Int)] w fun e w' => e = .returned (.tuple #[.pointer (some ⟨w.heap.size, 0, none⟩), .int .i64 0]) ∧ Cr w' w.heap.size r b m ∧ Below w.heap.size w w' := by
  obtain ⟨rs, cs, rfl, _⟩ := h.form
  have c0 : w.cell? ⟨r, 0, none⟩ = some (.slice (some ⟨rs, 0, none⟩) D.sure.length cs) := h.blk.cell 0 rfl
  have hsz := h.sz
  obtain ⟨ns, hns⟩ : ∃ ns, ns = D.sure.length := ⟨_, rfl⟩
  rw [← hns] at c0 hsz hfit
  have h1 : ¬ (m : Int) < 1 := by omega
  have h2 : ¬ (32 : Int) < (m : Int) := by omega
  have h3 : ¬ (b : Int) < 0 := by omega
  have h4 : ¬ (ns : Int) - 2 * (m : Int) < (b : Int) := by omega
  clear h hns
  go_enter Try.func41, Try.ntmps41
  go_wp2
  go_returns
  exact ⟨rfl, Blk.new _ _ _, below_alloc _ _⟩
end Go.Proofs.Ytghajmcohdedlaa
