/- mark: Open, Count, cells that are nil; what is played ahead of the statements. -/
import Derived.Test.YthpjaidgacenoabMk6
namespace Go.Proofs.Ythpjaidgacenoab
open Go.RowKit

/-- May there be such cells? -/
def mayC (n : Nat) (b c : Int) : Prop := (1 ≤ c ∧ c ≤ 32) ∧ 0 ≤ b ∧ b ≤ (n : Int) - 2 * c
/-- What Open tells. -/
def OpenTold (w w' : World) (g n : Nat) (b c : Int) (e : Ending) : Prop :=
  (¬ mayC n b c ∧ e = .returned (.tuple #[.pointer none, .int .i64 2])) ∨ (mayC n b c ∧ e = .returned (.tuple #[.pointer (some ⟨w.heap.size, 0, none⟩), .int .i64 0]) ∧ Cs w' w.heap.size g b.toNat c.toNat)

set_option maxRecDepth 100000 in
set_option maxHeartbeats 1000000 in
theorem mark_Open (w : World) (base g gs : Nat) (wv : Value) (D : Dk) (b c : Int) (h : Disk w base g gs wv D) :
    Calls Try.prog 10 #[.pointer (some ⟨g, 0, none⟩), .int .i64 b, .int .i64 c] w fun e w' => Hid (OpenTold w w' g D.sure.length b c e) ∧ Below w.heap.size w w' := by
  have HD : Hid (Disk w base g gs wv D) := h
  have hsz := h.sz
  clear h
  obtain ⟨n, HN⟩ : ∃ n, Hid (n = D.sure.length) := ⟨_, rfl⟩
  rw [← HN.out] at hsz ⊢
  by_cases h1 : c < 1
  · go_enter Try.func10, Try.ntmps10
    go_wp2
    go_returns
    exact ⟨.inl ⟨by unfold mayC; omega, rfl⟩, Below.refl _ _⟩
  by_cases h2 : 32 < c
  · go_enter Try.func10, Try.ntmps10
    go_wp2
    go_returns
    exact ⟨.inl ⟨by unfold mayC; omega, rfl⟩, Below.refl _ _⟩
  by_cases h3 : b < 0
  · go_enter Try.func10, Try.ntmps10
    go_wp2
    go_returns
    exact ⟨.inl ⟨by unfold mayC; omega, rfl⟩, Below.refl _ _⟩
  obtain ⟨cn, rfl⟩ := Int.eq_ofNat_of_zero_le (show 0 ≤ c by omega)
  obtain ⟨bn, rfl⟩ := Int.eq_ofNat_of_zero_le (show 0 ≤ b by omega)
  go_enter Try.func10, Try.ntmps10
  go_wp2_with fail
  refine (disk_Size w base g gs wv D HD.out).mono ?_
  rw [← HN.out]
  rintro e w' ⟨rfl, hw⟩
  subst w'
  by_cases h4 : (n : Int) - 2 * (cn : Int) < (bn : Int)
  · go_wp2
    go_returns
    exact ⟨.inl ⟨by unfold mayC; omega, rfl⟩, Below.refl _ _⟩
  · go_wp2
    go_returns
    exact ⟨.inr ⟨by unfold mayC; omega, rfl, Blk.new _ _ _⟩, below_alloc _ _⟩
theorem cells_Count (w : World) (gc g b m : Nat) (h : Cs w gc g b m) : Calls Try.prog 32 #[.pointer (some ⟨gc, 0, none⟩)] w fun e w' => e = .returned (.int .i64 (m : Int)) ∧ w' = w := by
  have c2 : w.cell? ⟨gc, 2, none⟩ = some (.int .i64 (m : Int)) := Blk.cell h 2 rfl
  clear h
  go_enter Try.func32, Try.ntmps32
  go_wp2
  go_ret
  exact ⟨rfl, rfl⟩
theorem nilC_Count (w : World) : Calls Try.prog 32 #[.pointer none] w fun e w' => e = .returned (.int .i64 0) ∧ w' = w := by
  go_enter Try.func32, Try.ntmps32
  go_wp2
  go_ret
  exact ⟨rfl, rfl⟩
theorem nilC_Get (i : Int) (w : World) : Calls Try.prog 7 #[.pointer none, .int .i64 i] w fun e w' => e = .returned (.tuple #[.int .i64 0, .bool false]) ∧ w' = w := by
  go_enter Try.func7, Try.ntmps7
  go_wp2
  go_returns
  exact ⟨rfl, rfl⟩
theorem nilC_Put (i v : Int) (w : World) : Calls Try.prog 9 #[.pointer none, .int .i64 i, .int .i64 v] w fun e w' => e = .returned (.int .i64 1) ∧ w' = w := by
  go_enter Try.func9, Try.ntmps9
  go_wp2
  go_ret
  exact ⟨rfl, rfl⟩
theorem nilC_Open (i v : Int) (w : World) : Calls Try.prog 10 #[.pointer none, .int .i64 i, .int .i64 v] w fun e w' => e = .returned (.tuple #[.pointer none, .int .i64 1]) ∧ w' = w := by
  go_enter Try.func10, Try.ntmps10
  go_wp2
  go_returns
  exact ⟨rfl, rfl⟩

set_option maxRecDepth 100000 in
theorem live10_facts : putCE (newD 4) 0 2 1 5 = 0 ∧ (putCD (newD 4) 0 2 1 5).age = 0 ∧ getB (crashD (putCD (newD 4) 0 2 1 5) []) 0 2 1 = (5, true) ∧ getB (crashD (putCD (newD 4) 0 2 1 5) []) 0 2 0 = (0, false) := by decide
set_option maxRecDepth 100000 in
set_option maxHeartbeats 2000000 in
theorem law_live10 (w : World) : Calls Try.prog 11 #[] w fun e w' => e = .returned (.bool true) ∧ Below w.heap.size w w' := by
  obtain ⟨l1, l2, l3, l4⟩ := live10_facts
  obtain ⟨D1, HD1⟩ : ∃ D1, Hid (D1 = putCD (newD 4) 0 2 1 5) := ⟨_, rfl⟩
  rw [← HD1.out] at l2 l3 l4
  obtain ⟨D2, HD2⟩ : ∃ D2, Hid (D2 = crashD D1 []) := ⟨_, rfl⟩
  rw [← HD2.out] at l3 l4
  have HL1 : Hid (putCE (newD 4) 0 2 1 5 = 0) := l1
  have HL2 : Hid (D1.age < 1000000000) := by show _ < _; rw [l2]; decide
  have HL3 : Hid (getB D2 0 2 1 = (5, true)) := l3
  have HL4 : Hid (getB D2 0 2 0 = (0, false)) := l4
  clear l1 l2 l3 l4
  go_enter Try.func11, Try.ntmps11
  go_wp2_with fail
  refine (sector_New 4 w).mono ?_
  rintro e w1 ⟨ht, hb1⟩
  rcases ht.out with ⟨h0, _⟩ | ⟨_, g, rfl, hd⟩
  · exact absurd ⟨by decide, by decide⟩ h0
  have HDk : Hid (Disk w1 w.heap.size g w.heap.size (.slice none 0 0) (newD 4)) := hd
  have HB1 : Hid (Below w.heap.size w w1) := hb1
  clear ht hd hb1
  go_wp2_with fail
  refine (mark_Open w1 w.heap.size g w.heap.size (.slice none 0 0) (newD 4) 0 2 HDk.out).mono ?_
  rintro e w2 ⟨ht, hb2⟩
  rcases ht.out with ⟨h0, _⟩ | ⟨_, rfl, hc⟩
  · exact absurd (show mayC 4 0 2 by unfold mayC; omega) h0
  have HDk2 : Hid (Disk w2 w.heap.size g w.heap.size (.slice none 0 0) (newD 4)) := HDk.out.stay hb2
  have HC2 : Hid (Cs w2 w1.heap.size g 0 2) := hc
  have HB2 : Hid (Below w.heap.size w w2) := HB1.out.trans (hb2.mono HB1.out.size)
  have HNE : Hid (w1.heap.size ≠ g ∧ w1.heap.size ≠ w.heap.size) := by have h1 := HDk.out.blk.lt; have h2 := HDk.out.srow.lt; constructor <;> omega
  clear ht hc hb2
  go_wp2_with fail
  refine (cells_Put w2 w.heap.size g w.heap.size (.slice none 0 0) (newD 4) w1.heap.size 0 2 1 5 HDk2.out HC2.out (by omega) (by omega) (by decide)).mono ?_
  rw [HL1.out, ← HD1.out]
  rintro e w3 ⟨rfl, hd3, hm3⟩
  obtain ⟨wv3, hd3⟩ := hd3.out
  have HDk3 : Hid (Disk w3 w.heap.size g w.heap.size wv3 D1) := hd3
  have HC3 : Hid (Cs w3 w1.heap.size g 0 2) := hm3.keep HC2.out HNE.out.1 HNE.out.2 (by decide)
  have HB3 : Hid (Below w.heap.size w w3) := HB2.out.trans hm3.low
  clear hd3 hm3
  go_wp2_with fail
  refine (disk_Crash w3 w.heap.size g w.heap.size wv3 D1 none 0 0 [] HDk3.out (fun _ _ => ⟨rfl, .inl rfl⟩) (by simp) (by omega) HL2.out).mono ?_
  rw [← HD2.out]
  rintro e w4 ⟨rfl, hd4, hm4⟩
  have HDk4 : Hid (Disk w4 w.heap.size g w.heap.size (.slice none 0 0) D2) := hd4.out
  have HC4 : Hid (Cs w4 w1.heap.size g 0 2) := hm4.keep HC3.out HNE.out.1 HNE.out.2 (by decide)
  have HB4 : Hid (Below w.heap.size w w4) := HB3.out.trans hm4.low
  clear hd4 hm4
  go_wp2_with fail
  refine (cells_Get w4 w.heap.size g w.heap.size (.slice none 0 0) D2 w1.heap.size 0 2 1 HDk4.out HC4.out (by omega) (by omega)).mono ?_
  rw [HL3.out]
  rintro e w5 ⟨rfl, hb5⟩
  have HDk5 : Hid (Disk w5 w.heap.size g w.heap.size (.slice none 0 0) D2) := HDk4.out.stay hb5
  have HC5 : Hid (Cs w5 w1.heap.size g 0 2) := HC4.out.stay hb5
  have HB5 : Hid (Below w.heap.size w w5) := HB4.out.trans (hb5.mono HB4.out.size)
  clear hb5
  go_wp2_with fail
  refine (cells_Get w5 w.heap.size g w.heap.size (.slice none 0 0) D2 w1.heap.size 0 2 0 HDk5.out HC5.out (by omega) (by omega)).mono ?_
  rw [HL4.out]
  rintro e w6 ⟨rfl, hb6⟩
  have HB6 : Hid (Below w.heap.size w w6) := HB5.out.trans (hb6.mono HB5.out.size)
  clear hb6
  go_wp2
  go_ret
  exact ⟨rfl, HB6.out⟩
end Go.Proofs.Ythpjaidgacenoab
