/- event.checkName, and event.Check of one event. -/
import Derived.Test.YtigmlhieibejoadEvLive
import Derived.LoopN
import Derived.Lib.MinMaxS
namespace Go.Proofs.Ytigmlhieibejoad
open Go.RowKit

/-- Is the one text not greater than the other, byte by byte? -/
def leB (s t : ByteArray) : Bool := Op.bytesLess s.toList t.toList || s.toList == t.toList
/-- What is wrong with a name behind another one. -/
def NameErr (s t : ByteArray) (f : Int) : Prop := (¬ nameOk s ∧ f = 11) ∨ (nameOk s ∧ leB s t = true ∧ f = 4) ∨ (nameOk s ∧ leB s t = false ∧ f = 0)

theorem event_checkName (s t : ByteArray) (hs : s.size ≤ maxLen) (w : World) :
    Calls Try.prog 32 #[.string s, .string t] w fun e w' => (∃ f, e = .returned (.int .i64 f) ∧ NameErr s t f) ∧ w' = w := by
  go_enter Try.func32, Try.ntmps32
  go_wp2_with fail
  refine (event_Name s hs w).mono ?_
  rintro e w1 ⟨⟨b, rfl, hb⟩, rfl⟩
  cases b with
  | false =>
    have HN : Hid (¬ nameOk s) := fun h => by cases hb.2 h
    clear hb
    go_wp2
    go_ret
    exact ⟨⟨11, rfl, .inl ⟨HN.out, rfl⟩⟩, rfl⟩
  | true =>
    have HN : Hid (nameOk s) := hb.1 rfl
    clear hb
    have HL : Hid ((Op.bytesLess s.toList t.toList || s.toList == t.toList) = leB s t) := rfl
    go_wp2
    · rename_i hh
      go_ret
      refine ⟨⟨4, rfl, .inr (.inl ⟨HN.out, ?_, rfl⟩)⟩, rfl⟩
      rw [← HL.out]; simpa using hh
    · rename_i hh
      go_ret
      refine ⟨⟨0, rfl, .inr (.inr ⟨HN.out, ?_, rfl⟩)⟩, rfl⟩
      rw [← HL.out]; simpa using hh

/-- The attribute of the event that 'live' asks of. -/
def oneAttr : Array Value := #[.string ⟨#[97]⟩, .int .i64 3, .int .i64 0, .string ⟨#[]⟩, .bool true, .complex .f64 0 0]

/-- It stands in a block, read by whoever comes. -/
theorem one_cell {w w' : World} {g : Nat} (hg : w.heap[g]? = some (.cells oneAttr 51 (0, 0))) (hb : Below w.heap.size w w') (i : Nat) (v : Value) (hv : oneAttr[i]? = some v) : w'.cell? ⟨g, i, none⟩ = some v := by
  rw [hb.cell (p := ⟨g, i, none⟩) (Array.getElem?_eq_some_iff.1 hg).1, cell_of_row w g i oneAttr _ _ hg, hv]

theorem one_cells {w : World} (w' : World) {g : Nat} (hg : w.heap[g]? = some (.cells oneAttr 51 (0, 0))) (hb : Below w.heap.size w w') : w'.cell? ⟨g, 0, none⟩ = some (.string ⟨#[97]⟩) ∧ w'.cell? ⟨g, 1, none⟩ = some (.int .i64 3) ∧ w'.cell? ⟨g, 2, none⟩ = some (.int .i64 0) ∧ w'.cell? ⟨g, 3, none⟩ = some (.string ⟨#[]⟩) ∧ w'.cell? ⟨g, 4, none⟩ = some (.bool true) ∧ w'.cell? ⟨g, 5, none⟩ = some (.complex .f64 0 0) :=
  ⟨one_cell hg hb 0 _ rfl, one_cell hg hb 1 _ rfl, one_cell hg hb 2 _ rfl, one_cell hg hb 3 _ rfl, one_cell hg hb 4 _ rfl, one_cell hg hb 5 _ rfl⟩

theorem name_a : nameOk ⟨#[97]⟩ := by
  refine ⟨by decide, by decide, ?_⟩
  intro i hi
  have : i = 0 := by
    have : i < 1 := hi
    omega
  subst this
  exact .inl (by decide)

theorem nameErr_a {f : Int} (h : NameErr ⟨#[97]⟩ ⟨#[]⟩ f) : f = 0 := by
  rcases h with ⟨h, _⟩ | ⟨_, h, _⟩ | ⟨_, _, h⟩
  · exact absurd name_a h
  · simp [leB, Lib.toList_data, Proofs.bytesLess_eq] at h
  · exact h

set_option maxRecDepth 100000 in
theorem event_Check1 (g : Nat) (w : World) (hg : w.heap[g]? = some (.cells oneAttr 51 (0, 0))) : Calls Try.prog 20 #[.agg #[.slice (some ⟨g, 0, none⟩) 1 1, .slice none 0 0]] w fun e w' => e = .returned (.int .i64 0) ∧ Below w.heap.size w w' := by
  have HG : Hid (w.heap[g]? = some (.cells oneAttr 51 (0, 0))) := hg
  clear hg
  obtain ⟨c0, c1, c2, c3, c4, c5⟩ := one_cells (w.alloc (.cells #[.slice (some ⟨g, 0, none⟩) 1 1, .slice none 0 0] 25)) HG.out (below_alloc w _)
  have hcx : ∀ (a : Addr) (m : Mode) (W : World), (store a (.complex .f64 0 0) m).run Try.prog W = stored Try.prog W a (.complex .f64 0 0) m := fun a m W => run_store _ _ _ _ _ rfl
  go_enter Try.func20, Try.ntmps20
  go_wp2
  refine wp_loop_rounds 2 ?_
  rw [rounds_succ]
  go_wp2_with fail
  refine (event_checkName _ _ (by decide) _).mono ?_
  rintro e w1 ⟨⟨f, rfl, hf⟩, rfl⟩
  rw [nameErr_a hf]
  clear hf f
  go_wp2_with fail
  refine (value_Check3 _).mono ?_
  rintro e w2 ⟨rfl, hb2⟩
  have k0 : w2.cell? ⟨w.heap.size + 1, 0, none⟩ = some (.string ⟨#[97]⟩) := (hb2.cell (p := ⟨w.heap.size + 1, 0, none⟩) (by simp)).trans (by simp)
  have HB2 : Hid (Below w.heap.size w w2) := ((below_alloc w _).alloc (by simp) _).trans (hb2.mono (by simp; omega))
  clear hb2
  go_wp2
  rw [rounds_succ]
  go_wp2
  go_ret
  exact ⟨rfl, HB2.out⟩
end Go.Proofs.Ytigmlhieibejoad
