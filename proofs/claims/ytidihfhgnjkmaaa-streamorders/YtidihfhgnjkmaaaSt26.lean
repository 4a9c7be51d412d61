/- Stream.Map, Stream.Item. -/
import Derived.Test.YtidihfhgnjkmaaaSt25
import Derived.Test.YtidihfhgnjkmaaaSpApp
namespace Go.Proofs.Ytidihfhgnjkmaaa
set_option maxRecDepth 100000
open Go.RowKit Go.Maps Go.Sort Go.Shelf

set_option maxHeartbeats 2000000 in
theorem sp_Clone (a : Option Addr) (n c : Nat) (l : List Sp) (w : World) (h : MapOk w a n c l) (hl : n ≤ 2000000000000) : Calls Try.prog 20 #[.slice a n c] w fun e w' => (∃ a' n' c', e = .returned (.slice a' n' c') ∧ MapOk w' a' n' c' l) ∧ Below w.heap.size w w' := by
  have HM : Hid (MapOk w a n c l) := h
  cases a with
  | none =>
    have hz : l = [] := by
      rcases h.rd.cells with h0 | ⟨_, _, h, _⟩
      · exact h0
      · cases h
    have hn : n = 0 := by have := h.rd.size; rw [hz] at this; exact this.symm
    subst hn
    have hq : ∀ W : World, (binOp .eql 30 (.slice none 0 c) (.slice none 0 0)).run Try.prog W = .ok (.bool true) W := fun W => by
      simp only [binOp]
      rw [Sem.run_bind, run_equal_slice_nil W _ _ _ _ _ Try.underlying30]
      rfl
    have HZ : Hid (l = []) := hz
    clear h hz
    go_enter Try.func20, Try.ntmps20
    go_wp2
    go_ret
    exact ⟨⟨none, 0, 0, rfl, ⟨⟨by rw [HZ.out]; rfl, .inl HZ.out⟩, Nat.le_refl _, Nat.zero_le _, HM.out.right⟩⟩, Below.refl _ _⟩
  | some ad =>
    have hq : ∀ W : World, (binOp .eql 30 (.slice (some ad) n c) (.slice none 0 0)).run Try.prog W = .ok (.bool false) W := fun W => by
      simp only [binOp]
      rw [Sem.run_bind, run_equal_slice_nil W _ _ _ _ _ Try.underlying30]
      rfl
    clear h
    go_enter Try.func20, Try.ntmps20
    go_wp2_with (at_builtin; refine wpList_append_sps rfl (.tmp 5) (.tmp 6) rfl w.heap.size _ [] rfl (Sps.empty w) (some ad) n c l rfl (HM.out.rd.below (below_alloc w _)) (fun h => by cases h) (by simp; omega) (by simp) ?_; intro v5 w5 hs5 hg5)
    have HS5 : Hid (Sps w5 w.heap.size v5 l) := by (show Sps _ _ _ _); simpa using hs5
    have HB5 : Hid (Below w.heap.size w w5) := (below_alloc w (.cells #[] 38)).grown hg5 (by simp) (fun k hk => by cases hk; exact Nat.le_refl _)
    clear hs5 hg5
    obtain ⟨av, nv, cv, rfl, hok⟩ := HS5.out.ok HM.out.right
    have HOK : Hid (MapOk w5 av nv cv l) := hok
    clear hok
    go_wp2
    go_ret
    exact ⟨⟨av, nv, cv, rfl, HOK.out⟩, HB5.out⟩
theorem st_Map {w : World} {s m : Nat} {a : Option Addr} {n c : Nat} {l : List Sp} {X : List (Int × Value)} (h : Stm w s m a n c l X) (hn : l.length ≤ 2000000000000) : Calls Try.prog 8 #[.pointer (some ⟨s, 0, none⟩)] w fun e w' => (∃ a' n' c', e = .returned (.slice a' n' c') ∧ MapOk w' a' n' c' l) ∧ Below w.heap.size w w' := by
  have HC : Hid (Calls Try.prog 20 #[.slice a n c] w fun e w' => (∃ a' n' c', e = .returned (.slice a' n' c') ∧ MapOk w' a' n' c' l) ∧ Below w.heap.size w w') := sp_Clone a n c l w h.ok (by rw [← h.ok.rd.size]; exact hn)
  have c0 : w.cell? ⟨s, 0, none⟩ = some (.slice a n c) := h.blk.cell 0 rfl
  clear h
  go_enter Try.func8, Try.ntmps8
  go_wp2_with fail
  refine HC.out.mono ?_
  rintro e w1 ⟨⟨a1, n1, c1, rfl, h1⟩, hb1⟩
  have H1 : Hid (MapOk w1 a1 n1 c1 l) := h1
  have HB1 : Hid (Below w.heap.size w w1) := hb1
  clear h1 hb1
  go_wp2
  go_ret
  exact ⟨⟨a1, n1, c1, rfl, H1.out⟩, HB1.out⟩
end Go.Proofs.Ytidihfhgnjkmaaa
