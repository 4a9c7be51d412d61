/- grapevineref13: ranged, named, from, Check. -/
import Derived.Test.YtidihfhgnjkmaaaPcM
import Derived.Test.YtidihfhgnjkmaaaSpRefR
import Derived.WalkMore
namespace Go.Proofs.Ytidihfhgnjkmaaa
open Go.RowKit

set_option maxRecDepth 100000 in
theorem ref_ranged (k : Int) (w : World) : Calls Try.prog 24 #[.int .i64 k] w fun e w' => e = .returned (.bool (toB k)) ∧ w' = w := by
  by_cases h1 : k = 1
  · subst h1
    go_enter Try.func24, Try.ntmps24
    go_wp2
    go_ret
    exact ⟨rfl, rfl⟩
  by_cases h2 : k = 2
  · subst h2
    go_enter Try.func24, Try.ntmps24
    go_wp2
    go_ret
    exact ⟨rfl, rfl⟩
  have e3 : toB k = false := by simp [toB, *]
  have h1' : (k == 1) = false := by simpa using h1
  have h2' : (k == 2) = false := by simpa using h2
  rw [e3]
  clear e3
  go_enter Try.func24, Try.ntmps24
  go_wp2
  go_ret
  exact ⟨rfl, rfl⟩
set_option maxRecDepth 100000 in
theorem ref_named (k : Int) (w : World) : Calls Try.prog 25 #[.int .i64 k] w fun e w' => e = .returned (.bool (subB k)) ∧ w' = w := by
  by_cases h1 : k = 3
  · subst h1
    go_enter Try.func25, Try.ntmps25
    go_wp2
    go_ret
    exact ⟨rfl, rfl⟩
  by_cases h2 : k = 4
  · subst h2
    go_enter Try.func25, Try.ntmps25
    go_wp2
    go_ret
    exact ⟨rfl, rfl⟩
  by_cases h3 : k = 5
  · subst h3
    go_enter Try.func25, Try.ntmps25
    go_wp2
    go_ret
    exact ⟨rfl, rfl⟩
  by_cases h4 : k = 6
  · subst h4
    go_enter Try.func25, Try.ntmps25
    go_wp2
    go_ret
    exact ⟨rfl, rfl⟩
  have e3 : subB k = false := by simp [subB, *]
  have h1' : (k == 3) = false := by simpa using h1
  have h2' : (k == 4) = false := by simpa using h2
  have h3' : (k == 5) = false := by simpa using h3
  have h4' : (k == 6) = false := by simpa using h4
  rw [e3]
  clear e3
  go_enter Try.func25, Try.ntmps25
  go_wp2
  go_ret
  exact ⟨rfl, rfl⟩
set_option maxRecDepth 100000 in
theorem ref_from (k : Int) (w : World) : Calls Try.prog 26 #[.int .i64 k] w fun e w' => e = .returned (.bool (fromB k)) ∧ w' = w := by
  obtain ⟨b, HF⟩ : ∃ b, Hid (b = fromB k) := ⟨_, rfl⟩
  rw [← HF.out]
  go_enter Try.func26, Try.ntmps26
  go_wp2_with fail
  refine (ref_ranged k w).mono ?_
  by_cases h1 : k = 1 ∨ k = 2
  · rw [show toB k = true from by simp [toB, h1]]
    have HX : Hid (b = true) := by show _ = _; rw [HF.out]; simp [fromB]; omega
    rintro e w1 ⟨rfl, rfl⟩
    clear HF h1
    go_wp2
    go_ret
    exact ⟨by rw [HX.out]; rfl, rfl⟩
  · rw [show toB k = false from by simp [toB, h1]]
    rintro e w1 ⟨rfl, rfl⟩
    by_cases h3 : k = 3
    · have HX : Hid (b = true) := by show _ = _; rw [HF.out]; simp [fromB]; omega
      clear HF h1
      subst h3
      go_wp2
      go_ret
      exact ⟨by rw [HX.out]; rfl, rfl⟩
    have h3' : (k == 3) = false := by simpa using h3
    by_cases h5 : k = 5
    · have HX : Hid (b = true) := by show _ = _; rw [HF.out]; simp [fromB]; omega
      clear HF h1 h3 h3'
      subst h5
      go_wp2
      go_ret
      exact ⟨by rw [HX.out]; rfl, rfl⟩
    have h5' : (k == 5) = false := by simpa using h5
    have HX : Hid (b = false) := by show _ = _; rw [HF.out]; simp [fromB]; omega
    clear HF h1
    go_wp2
    go_ret
    exact ⟨by rw [HX.out]; rfl, rfl⟩
end Go.Proofs.Ytidihfhgnjkmaaa
