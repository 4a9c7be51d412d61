/- 'live' of the law's package tells true. -/
import Derived.Test.YtigmlhieibejoadEvPut
namespace Go.Proofs.Ytigmlhieibejoad
open Go.RowKit

theorem name_a1 : nameOk ⟨#[97, 45, 49]⟩ := by
  refine ⟨by decide, by decide, ?_⟩
  intro i hi
  have h3 : i < 3 := hi
  match i, h3 with
  | 0, _ => exact .inl (by decide)
  | 1, _ => exact .inr ⟨by decide, .inr rfl⟩
  | 2, _ => exact .inr ⟨by decide, .inl (by decide)⟩
theorem name_1a : ¬ nameOk ⟨#[49, 97]⟩ := by
  intro h
  have h0 := h.2.2 0 (by decide)
  have e : byteAt ⟨#[49, 97]⟩ 0 = 49 := rfl
  rw [e] at h0
  unfold good at h0
  omega
theorem str_put : str [1, 1, 97, 3, 1, 0] = ⟨#[1, 1, 97, 3, 1, 0]⟩ := rfl

set_option maxRecDepth 100000 in
set_option maxHeartbeats 1000000 in
theorem law_live (w : World) : Calls Try.prog 7 #[] w fun e w' => e = .returned (.bool true) ∧ Below w.heap.size w w' := by
  have hcx : ∀ (a : Addr) (m : Mode) (W : World), (store a (.complex .f64 0 0) m).run Try.prog W = stored Try.prog W a (.complex .f64 0 0) m := fun a m W => run_store _ _ _ _ _ rfl
  go_enter Try.func7, Try.ntmps7
  go_wp2_with fail
  refine (law_some _).mono ?_
  rintro e w1 ⟨g, rfl, hg, hb1⟩
  go_wp2_with fail
  refine (event_Put1 g _ hg).mono ?_
  rintro e w2 ⟨a2, n2, rfl, hr2, hb2⟩
  have HR2 : Hid (Rd w2 a2 6 [1, 1, 97, 3, 1, 0]) := hr2
  have HB2 : Hid (Below w.heap.size w w2) := hb1.trans (hb2.mono hb1.size)
  clear hr2 hb2 hg hb1
  go_wp2_with fail
  refine (law_some _).mono ?_
  rintro e w3 ⟨g3, rfl, hg3, hb3⟩
  go_wp2_with fail
  refine (event_Get1 g3 _ hg3).mono ?_
  rintro e w4 ⟨rfl, hb4⟩
  have HB4 : Hid (Below w.heap.size w w4) := HB2.out.trans ((hb3.trans (hb4.mono hb3.size)).mono HB2.out.size)
  have HR4 : Hid (Rd w4 a2 6 [1, 1, 97, 3, 1, 0]) := HR2.out.below (hb3.trans (hb4.mono hb3.size))
  clear hb3 hb4 HB2 HR2 hg3
  have hcv : (convert 22 9 (.slice a2 6 n2)).run Try.prog (w4.alloc (.cells #[.int .i64 3, .int .i64 0, .string ⟨#[]⟩, .bool true, .complex .f64 0 0] 49)) = .ok (.string ⟨#[1, 1, 97, 3, 1, 0]⟩) (w4.alloc (.cells #[.int .i64 3, .int .i64 0, .string ⟨#[]⟩, .bool true, .complex .f64 0 0] 49)) := by
    rw [conv_rd (HR4.out.below (below_alloc w4 _)) n2, str_put]
  go_wp2_with fail
  refine (event_Name _ (by decide) _).mono ?_
  rintro e w5 ⟨⟨b5, rfl, hb5⟩, rfl⟩
  obtain rfl := hb5.2 name_a1
  clear hb5
  go_wp2_with fail
  refine (event_Name _ (by decide) _).mono ?_
  rintro e w6 ⟨⟨b6, rfl, hb6⟩, rfl⟩
  obtain rfl : b6 = false := by
    cases b6 with
    | false => rfl
    | true => exact absurd (hb6.1 rfl) name_1a
  clear hb6
  go_wp2
  go_ret
  exact ⟨rfl, HB4.out.alloc HB4.out.size _⟩
end Go.Proofs.Ytigmlhieibejoad
