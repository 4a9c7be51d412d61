/- parcel: usedBy, numbersMayBe, spansMayBe, checkItems, Check. -/
import Derived.Test.YtidihfhgnjkmaaaPcM
import Derived.WalkMore
namespace Go.Proofs.Ytidihfhgnjkmaaa
open Go.RowKit

set_option maxRecDepth 100000 in
theorem pc_usedBy (k : Int) (w : World) : Calls Try.prog 29 #[.int .i64 k] w fun e w' => e = .returned (.tuple #[.agg #[.bool (subB k), .bool (fromB k), .bool (toB k), .bool (newsB k)], .bool (isB k)]) ∧ Below w.heap.size w w' := by
  have HB : ∀ o o', Hid (Below w.heap.size w ((w.alloc o).alloc o')) := fun o o' => ((below_new w _).alloc (by simp) _)
  by_cases h1 : k = 1
  · subst h1
    go_enter Try.func29, Try.ntmps29
    go_wp2
    go_returns
    exact ⟨rfl, (HB _ _).out⟩
  by_cases h2 : k = 2
  · subst h2
    go_enter Try.func29, Try.ntmps29
    go_wp2
    go_returns
    exact ⟨rfl, (HB _ _).out⟩
  by_cases h3 : k = 3
  · subst h3
    go_enter Try.func29, Try.ntmps29
    go_wp2
    go_returns
    exact ⟨rfl, (HB _ _).out⟩
  by_cases h4 : k = 4
  · subst h4
    go_enter Try.func29, Try.ntmps29
    go_wp2
    go_returns
    exact ⟨rfl, (HB _ _).out⟩
  by_cases h5 : k = 5
  · subst h5
    go_enter Try.func29, Try.ntmps29
    go_wp2
    go_returns
    exact ⟨rfl, (HB _ _).out⟩
  by_cases h6 : k = 6
  · subst h6
    go_enter Try.func29, Try.ntmps29
    go_wp2
    go_returns
    exact ⟨rfl, (HB _ _).out⟩
  have e1 : subB k = false := by simp [subB, *]
  have e2 : fromB k = false := by simp [fromB, *]
  have e3 : toB k = false := by simp [toB, *]
  have e4 : newsB k = false := by simp [newsB, *]
  have e5 : isB k = false := by simp only [isB, decide_eq_false_iff_not]; omega
  rw [e1, e2, e3, e4, e5]
  clear e1 e2 e3 e4 e5
  go_enter Try.func29, Try.ntmps29
  go_wp2
  go_returns
  exact ⟨rfl, (HB _ _).out⟩

set_option maxRecDepth 100000 in
set_option maxHeartbeats 4000000 in
theorem pc_numbers (p : Pc) (sa : Option Addr) (sn sc : Nat) (ia : Option Addr) (im ic : Nat) (su fr to_ nw : Bool) (w : World) : Calls Try.prog 30 #[p.val sa sn sc ia im ic, .agg #[.bool su, .bool fr, .bool to_, .bool nw]] w fun e w' => e = .returned (.bool (numB p su fr to_)) ∧ Below w.heap.size w w' := by
  have HB : ∀ o o', Hid (Below w.heap.size w ((w.alloc o).alloc o')) := fun o o' => ((below_new w _).alloc (by simp) _)
  obtain ⟨b, HF⟩ : ∃ b, Hid (b = numB p su fr to_) := ⟨_, rfl⟩
  rw [← HF.out]
  obtain ⟨pk, pp, ps, pn, pf, pt, pl, pi⟩ := p
  unfold Pc.val
  simp only [numB, pubB, namB, rngB, froB] at HF
  simp only
  by_cases h1 : 0 ≤ pp
  · by_cases h2 : pp < 3
    · cases su with
      | true =>
        by_cases h3 : 1 ≤ ps
        · by_cases h4 : ps ≤ 32
          · by_cases h5 : 1 ≤ pn
            · by_cases h6 : pn ≤ 1073741824
              · cases to_ with
                | true =>
                  by_cases h7 : 1 ≤ pf
                  · by_cases h8 : pf ≤ pt
                    · by_cases h9 : pt ≤ 1099511627776
                      · have HX : Hid (b = true) := by show _ = _; rw [HF.out]; simp <;> omega
                        clear HF
                        go_enter Try.func30, Try.ntmps30
                        go_wp2
                        go_ret
                        exact ⟨by rw [HX.out]; rfl, (HB _ _).out⟩
                      · have HX : Hid (b = false) := by show _ = _; rw [HF.out]; simp <;> omega
                        clear HF
                        go_enter Try.func30, Try.ntmps30
                        go_wp2
                        go_ret
                        exact ⟨by rw [HX.out]; rfl, (HB _ _).out⟩
                    · have HX : Hid (b = false) := by show _ = _; rw [HF.out]; simp <;> omega
                      clear HF
                      go_enter Try.func30, Try.ntmps30
                      go_wp2
                      go_ret
                      exact ⟨by rw [HX.out]; rfl, (HB _ _).out⟩
                  · have HX : Hid (b = false) := by show _ = _; rw [HF.out]; simp <;> omega
                    clear HF
                    go_enter Try.func30, Try.ntmps30
                    go_wp2
                    go_ret
                    exact ⟨by rw [HX.out]; rfl, (HB _ _).out⟩
                | false =>
                  cases fr with
                  | true =>
                    by_cases h7 : 0 ≤ pf
                    · by_cases h8 : pf ≤ 1099511627776
                      · have HX : Hid (b = true) := by show _ = _; rw [HF.out]; simp <;> omega
                        clear HF
                        go_enter Try.func30, Try.ntmps30
                        go_wp2
                        go_ret
                        exact ⟨by rw [HX.out]; rfl, (HB _ _).out⟩
                      · have HX : Hid (b = false) := by show _ = _; rw [HF.out]; simp <;> omega
                        clear HF
                        go_enter Try.func30, Try.ntmps30
                        go_wp2
                        go_ret
                        exact ⟨by rw [HX.out]; rfl, (HB _ _).out⟩
                    · have HX : Hid (b = false) := by show _ = _; rw [HF.out]; simp <;> omega
                      clear HF
                      go_enter Try.func30, Try.ntmps30
                      go_wp2
                      go_ret
                      exact ⟨by rw [HX.out]; rfl, (HB _ _).out⟩
                  | false =>
                    have HX : Hid (b = true) := by show _ = _; rw [HF.out]; simp <;> omega
                    clear HF
                    go_enter Try.func30, Try.ntmps30
                    go_wp2
                    go_ret
                    exact ⟨by rw [HX.out]; rfl, (HB _ _).out⟩
              · have HX : Hid (b = false) := by show _ = _; rw [HF.out]; simp <;> omega
                clear HF
                go_enter Try.func30, Try.ntmps30
                go_wp2
                go_ret
                exact ⟨by rw [HX.out]; rfl, (HB _ _).out⟩
            · have HX : Hid (b = false) := by show _ = _; rw [HF.out]; simp <;> omega
              clear HF
              go_enter Try.func30, Try.ntmps30
              go_wp2
              go_ret
              exact ⟨by rw [HX.out]; rfl, (HB _ _).out⟩
          · have HX : Hid (b = false) := by show _ = _; rw [HF.out]; simp <;> omega
            clear HF
            go_enter Try.func30, Try.ntmps30
            go_wp2
            go_ret
            exact ⟨by rw [HX.out]; rfl, (HB _ _).out⟩
        · have HX : Hid (b = false) := by show _ = _; rw [HF.out]; simp <;> omega
          clear HF
          go_enter Try.func30, Try.ntmps30
          go_wp2
          go_ret
          exact ⟨by rw [HX.out]; rfl, (HB _ _).out⟩
      | false =>
        cases to_ with
        | true =>
          by_cases h3 : 1 ≤ pf
          · by_cases h4 : pf ≤ pt
            · by_cases h5 : pt ≤ 1099511627776
              · have HX : Hid (b = true) := by show _ = _; rw [HF.out]; simp <;> omega
                clear HF
                go_enter Try.func30, Try.ntmps30
                go_wp2
                go_ret
                exact ⟨by rw [HX.out]; rfl, (HB _ _).out⟩
              · have HX : Hid (b = false) := by show _ = _; rw [HF.out]; simp <;> omega
                clear HF
                go_enter Try.func30, Try.ntmps30
                go_wp2
                go_ret
                exact ⟨by rw [HX.out]; rfl, (HB _ _).out⟩
            · have HX : Hid (b = false) := by show _ = _; rw [HF.out]; simp <;> omega
              clear HF
              go_enter Try.func30, Try.ntmps30
              go_wp2
              go_ret
              exact ⟨by rw [HX.out]; rfl, (HB _ _).out⟩
          · have HX : Hid (b = false) := by show _ = _; rw [HF.out]; simp <;> omega
            clear HF
            go_enter Try.func30, Try.ntmps30
            go_wp2
            go_ret
            exact ⟨by rw [HX.out]; rfl, (HB _ _).out⟩
        | false =>
          cases fr with
          | true =>
            by_cases h3 : 0 ≤ pf
            · by_cases h4 : pf ≤ 1099511627776
              · have HX : Hid (b = true) := by show _ = _; rw [HF.out]; simp <;> omega
                clear HF
                go_enter Try.func30, Try.ntmps30
                go_wp2
                go_ret
                exact ⟨by rw [HX.out]; rfl, (HB _ _).out⟩
              · have HX : Hid (b = false) := by show _ = _; rw [HF.out]; simp <;> omega
                clear HF
                go_enter Try.func30, Try.ntmps30
                go_wp2
                go_ret
                exact ⟨by rw [HX.out]; rfl, (HB _ _).out⟩
            · have HX : Hid (b = false) := by show _ = _; rw [HF.out]; simp <;> omega
              clear HF
              go_enter Try.func30, Try.ntmps30
              go_wp2
              go_ret
              exact ⟨by rw [HX.out]; rfl, (HB _ _).out⟩
          | false =>
            have HX : Hid (b = true) := by show _ = _; rw [HF.out]; simp <;> omega
            clear HF
            go_enter Try.func30, Try.ntmps30
            go_wp2
            go_ret
            exact ⟨by rw [HX.out]; rfl, (HB _ _).out⟩
    · have HX : Hid (b = false) := by show _ = _; rw [HF.out]; simp <;> omega
      clear HF
      go_enter Try.func30, Try.ntmps30
      go_wp2
      go_ret
      exact ⟨by rw [HX.out]; rfl, (HB _ _).out⟩
  · have HX : Hid (b = false) := by show _ = _; rw [HF.out]; simp <;> omega
    clear HF
    go_enter Try.func30, Try.ntmps30
    go_wp2
    go_ret
    exact ⟨by rw [HX.out]; rfl, (HB _ _).out⟩
-- end numbers
end Go.Proofs.Ytidihfhgnjkmaaa
