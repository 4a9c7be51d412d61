/- A nil stream's Item and Next. -/
import Derived.Test.YtidihfhgnjkmaabSt12
namespace Go.Proofs.Ytidihfhgnjkmaab
set_option maxRecDepth 100000
open Go.RowKit Go.Maps Go.Sort Go.Shelf

theorem results_Item {w : World} {tmps : Array Value} {g : Nat} {c0 c1 c2 b : Value} (h4 : tmps[4]?.getD undef = .pointer (some ⟨g, 0, none⟩)) (h5 : tmps[5]?.getD undef = b) (k : Bk w g #[c0, c1, c2] 34) : (results Try.f5 tmps).run Try.prog w = .ok (.tuple #[.agg #[c0, c1, c2], b]) w := by
  have k0 : w.cell? ⟨g, 0, none⟩ = some c0 := k.cell 0 rfl
  have k1 : w.cell? ⟨g, 1, none⟩ = some c1 := k.cell 1 rfl
  have k2 : w.cell? ⟨g, 2, none⟩ = some c2 := k.cell 2 rfl
  simp [results, Try.results5, go_sem, h4, h5, k0, k1, k2]
theorem nil_Item (w : World) (t : Int) : Calls Try.prog 5 #[.pointer none, .int .i64 t] w fun e w' => e = .returned (.tuple #[.agg #[.int .i64 0, .int .u32 0, .slice none 0 0], .bool false]) ∧ Below w.heap.size w w' := by
  go_enter Try.func5, Try.ntmps5
  go_wp2
  refine bodyPost_ret (results_Item (by rfl) (by rfl) (Bk.new w _ _)) rfl ?_
  exact ⟨rfl, below_alloc w _⟩
theorem nil_Next (w : World) (t id : Int) : Calls Try.prog 7 #[.pointer none, .int .i64 t, .int .i64 id] w fun e w' => e = .returned (.tuple #[.agg #[.int .i64 0, .int .i64 0, .int .i64 0, .int .i64 0, .int .u32 0, .slice none 0 0], .int .i64 1]) ∧ Below w.heap.size w w' := by
  go_enter Try.func7, Try.ntmps7
  go_wp2
  refine wp_scope_straight ?_
  go_wp2
  simp only [Exit.noGoto]
  refine bodyPost_ret (results_next (by rfl) (by rfl) (Bk.new w _ _)) rfl ?_
  exact ⟨rfl, below_alloc w _⟩
end Go.Proofs.Ytidihfhgnjkmaab
