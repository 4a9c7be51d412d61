/- The law's 'lay': bytes with what stands around them, in a row of its own. -/
import Derived.Test.YtbhljlafijdodabStep
import Derived.Test.YtbhljlafijdodabFrame
import Derived.Lib.SmallJoins
import Derived.Deep.RegionHeld3
import Derived.Deep.RegionLaw
namespace Go.Proofs.Ytbhljlafijdodab
open Go.ChangeShapes Go.WideShapes Go.ChangeAt Go.RowKit

set_option maxHeartbeats 400000 in
theorem around_lay (a1 : Option Addr) (l1 c1 : Nat) (xs : List Nat) (a2 : Option Addr) (l2 c2 : Nat) (zs : List Nat) (b : Option Addr) (m c : Nat) (ys : List Nat) (w : World)
    (h1 : Rd w a1 l1 xs) (n1 : a1 = none → c1 = 0) (h2 : Rd w a2 l2 zs) (n2 : a2 = none → c2 = 0) (hb : Rd w b m ys) (nb : b = none → c = 0) (hl : l1 + m + l2 ≤ 140737488355328) :
    Calls Try.prog 12 #[.agg #[.slice a1 l1 c1, .slice a2 l2 c2], .slice b m c] w fun e w' => ∃ a' cap', e = .returned (.slice a' (l1 + m + l2) cap') ∧ Own w' w.heap.size a' (l1 + m + l2) cap' (xs ++ ys ++ zs) ∧ Below w.heap.size w w' := by
  have H1 : Hid (Rd w a1 l1 xs) := h1
  have H2 : Hid (Rd w a2 l2 zs) := h2
  have HB : Hid (Rd w b m ys) := hb
  clear h1 h2 hb
  go_enter Try.func12, Try.ntmps12
  go_wp2
  have hw0 : ∀ o, Below w.heap.size w ((w.alloc o).alloc (.cells #[] 5)) := fun o => ((Below.refl _ _).alloc (Nat.le_refl _) o).alloc (by simp) _
  go_region_held3 (fun w' => w'.cell? ⟨w.heap.size, 0, none⟩ = some (.slice a1 l1 c1) ∧ w'.cell? ⟨w.heap.size, 1, none⟩ = some (.slice a2 l2 c2)) (go_keep)
    (first
      | (refine step_append_rd (by rfl) (.tmp 5) (.tmp 7) (by rfl) (w.heap.size + 1) (some ⟨w.heap.size + 1, 0, none⟩) 0 0 [] (by rfl) (Own.empty2 w _).drew a1 l1 c1 xs (by rfl) (H1.out.below (hw0 _)).drew n1 (by omega) (by simp) l1 (Nat.zero_add _) xs rfl ?_; intro a3 c3 w3 hown3 hgrow3 hbel3; have k30 := hbel3.cell (p := ⟨w.heap.size, 0, none⟩) (by simp); have k31 := hbel3.cell (p := ⟨w.heap.size, 1, none⟩) (by simp); have HO3 : Hid (Own w3 (w.heap.size + 1) a3 l1 c3 xs) := hown3; have HB3 : Hid (Below w.heap.size w w3) := (hw0 _).drew.trans (hbel3.mono (by simp)); have HS3 : Hid (w.heap.size + 1 ≤ w3.heap.size) := (Nat.le_trans (by simp) hbel3.size); clear hown3 hgrow3 hbel3)
      | (refine step_append_rd (by rfl) (.tmp 8) (.tmp 9) (by rfl) (w.heap.size + 1) a3 l1 c3 xs (by rfl) HO3.out b m c ys (by rfl) (HB.out.below HB3.out) nb (by omega) HS3.out (l1 + m) rfl (xs ++ ys) rfl ?_; intro a4 c4 w4 hown4 hgrow4 hbel4; have k40 := hbel4.cell (p := ⟨w.heap.size, 0, none⟩) (by simp); have k41 := hbel4.cell (p := ⟨w.heap.size, 1, none⟩) (by simp); have HO4 : Hid (Own w4 (w.heap.size + 1) a4 (l1 + m) c4 (xs ++ ys)) := hown4; have HB4 : Hid (Below w.heap.size w w4) := HB3.out.trans (hbel4.mono (by simp)); have HS4 : Hid (w.heap.size + 1 ≤ w4.heap.size) := (Nat.le_trans HS3.out hbel4.size); clear hown4 hgrow4 hbel4)
      | (refine step_append_rd (by rfl) (.tmp 10) (.tmp 12) (by rfl) (w.heap.size + 1) a4 (l1 + m) c4 (xs ++ ys) (by rfl) HO4.out a2 l2 c2 zs (by rfl) (H2.out.below HB4.out) n2 (by omega) HS4.out (l1 + m + l2) rfl (xs ++ ys ++ zs) rfl ?_; intro a5 c5 w5 hown5 hgrow5 hbel5; have k50 := hbel5.cell (p := ⟨w.heap.size, 0, none⟩) (by simp); have k51 := hbel5.cell (p := ⟨w.heap.size, 1, none⟩) (by simp); have HO5 : Hid (Own w5 (w.heap.size + 1) a5 (l1 + m + l2) c5 (xs ++ ys ++ zs)) := hown5; have HB5 : Hid (Below w.heap.size w w5) := HB4.out.trans (hbel5.mono (by simp)); clear hown5 hgrow5 hbel5))
  go_wp2
  go_ret
  exact ⟨a5, c5, rfl, HO5.out.lower (by simp), HB5.out⟩
end Go.Proofs.Ytbhljlafijdodab
