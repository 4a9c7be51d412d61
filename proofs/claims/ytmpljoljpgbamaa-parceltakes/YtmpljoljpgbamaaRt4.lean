/- grapevineref13.Take of bytes that are none, of no kind; of any bytes. -/
import Derived.Test.YtmpljoljpgbamaaRt2
import Derived.Test.YtmpljoljpgbamaaRt2b
import Derived.Test.YtmpljoljpgbamaaRt2c
import Derived.Test.YtmpljoljpgbamaaRt3
namespace Go.Proofs.Ytmpljoljpgbamaa
open Go.RowKit

set_option maxRecDepth 100000 in
set_option maxHeartbeats 2000000 in
theorem ref_Take_none (a : Option Addr) (cap : Nat) (bs : List Nat) (w : World) (hr : Rd w a 0 bs) :
    Calls Try.prog 18 #[.slice a 0 cap] w fun e w' => Hid (TakeP13 w w' (takeP bs) e) ∧ Below w.heap.size w w' := by
  have HBX0 : Hid (Below w.heap.size w (w.alloc (.cells #[.int .i64 0, .int .i64 0, .int .i64 0, .int .i64 0, .int .i64 0, .int .i64 0, .slice none 0 0, .slice none 0 0] 26))) := below_new _ _
  have HTE : Hid (takeP bs = (Pc.zero, 3)) := takeP_none hr.size
  rw [HTE.out]
  clear hr HTE
  go_enter Try.func18, Try.ntmps18
  go_wp2
  go_returns
  exact ⟨TakeP13.bad _ _ _, HBX0.out⟩
set_option maxRecDepth 100000 in
set_option maxHeartbeats 2000000 in
theorem ref_Take_type (g o len cap : Nat) (bs : List Nat) (w : World) (hr : Rd w (some ⟨g, o, none⟩) len bs) (h0 : 0 < len) (hk : isB (bs.getD 0 0 : Nat) = false) :
    Calls Try.prog 18 #[.slice (some ⟨g, o, none⟩) len cap] w fun e w' => Hid (TakeP13 w w' (takeP bs) e) ∧ Below w.heap.size w w' := by
  have HTE : Hid (takeP bs = (Pc.zero, 12)) := takeP_type (by rw [hr.size]; omega) hk
  rw [HTE.out]
  have hb0 : bs.getD 0 0 < 256 := getD_lt hr.byte 0
  obtain ⟨b0, hb0e⟩ : ∃ b0, b0 = bs.getD 0 0 := ⟨_, rfl⟩
  have hc0 : w.cell? ⟨g, o, none⟩ = some (.int .u8 (b0 : Int)) := by
    rcases hr.cells with h1 | ⟨g', o', h1, _, hc⟩
    · omega
    · simp only [Option.some.injEq, Addr.mk.injEq, and_true] at h1
      obtain ⟨rfl, rfl⟩ := h1
      rw [hb0e]
      exact hc 0 h0
  rw [← hb0e] at hk hb0
  have HBD := bad_kind hk
  have HTO : Hid (toB (b0 : Int) = false) := HBD.2.2.1
  have HSU : Hid (subB (b0 : Int) = false) := HBD.1
  have hlen : (0 : Int) < (len : Int) := by omega
  have hlen1 : ¬ (len : Int) = 0 := by omega
  have HB0 : Hid (Below w.heap.size w (w.alloc (.cells #[.int .i64 0, .int .i64 0, .int .i64 0, .int .i64 0, .int .i64 0, .int .i64 0, .slice none 0 0, .slice none 0 0] 26))) := below_new _ _
  have HB1 : Hid (Below w.heap.size w ((w.alloc (.cells #[.int .i64 0, .int .i64 0, .int .i64 0, .int .i64 0, .int .i64 0, .int .i64 0, .slice none 0 0, .slice none 0 0] 26)).alloc (.cells #[.int .i64 (b0 : Int), .int .i64 0, .int .i64 0, .int .i64 0, .int .i64 0, .int .i64 0, .slice none 0 0, .slice none 0 0] 26))) := HB0.out.alloc HB0.out.size _
  have hc1 : (w.alloc (.cells #[.int .i64 0, .int .i64 0, .int .i64 0, .int .i64 0, .int .i64 0, .int .i64 0, .slice none 0 0, .slice none 0 0] 26)).cell? ⟨g, o, none⟩ = some (.int .u8 (b0 : Int)) := (HB0.out.cell (p := ⟨g, o, none⟩) (World.block_lt_of_cell? w _ hc0)).trans hc0
  clear hr hk hb0e hc0 HTE HBD h0
  go_enter Try.func18, Try.ntmps18
  go_wp2_with fail
  refine (ref_ranged (b0 : Int) _).mono ?_
  rw [HTO.out]
  rintro e w' ⟨rfl, rfl⟩
  go_wp2_with fail
  refine (ref_named (b0 : Int) _).mono ?_
  rw [HSU.out]
  rintro e w' ⟨rfl, rfl⟩
  go_wp2
  go_returns
  exact ⟨TakeP13.bad _ _ _, HB1.out⟩
theorem ref_Take13 (a : Option Addr) (len cap : Nat) (bs : List Nat) (w : World) (hr : Rd w a len bs) (hlc : len ≤ cap) (hl : len ≤ 140737488351232) :
    Calls Try.prog 18 #[.slice a len cap] w fun e w' => Hid (TakeP13 w w' (takeP bs) e) ∧ Below w.heap.size w w' := by
  by_cases h0 : len = 0
  · subst h0
    exact ref_Take_none a cap bs w hr
  · obtain ⟨g, o, rfl⟩ : ∃ g o, a = some ⟨g, o, none⟩ := by
      rcases hr.cells with h1 | ⟨g, o, h1, _⟩
      · exact absurd h1 h0
      · exact ⟨g, o, h1⟩
    cases hk : isB (bs.getD 0 0 : Nat) with
    | false => exact ref_Take_type g o len cap bs w hr (by omega) hk
    | true =>
      have hh := kinds hk
      rcases (show bs.getD 0 0 = 1 ∨ bs.getD 0 0 = 2 ∨ bs.getD 0 0 = 3 ∨ bs.getD 0 0 = 4 ∨ bs.getD 0 0 = 5 ∨ bs.getD 0 0 = 6 from by omega) with h | h | h | h | h | h
      · exact ref_Take_1 g o len cap bs w hr hlc hl (by omega) h
      · exact ref_Take_2 g o len cap bs w hr hlc hl (by omega) h
      · exact ref_Take_3 g o len cap bs w hr hlc hl (by omega) h
      · exact ref_Take_4 g o len cap bs w hr hlc hl (by omega) h
      · exact ref_Take_5 g o len cap bs w hr hlc hl (by omega) h
      · exact ref_Take_6 g o len cap bs w hr hlc hl (by omega) h
end Go.Proofs.Ytmpljoljpgbamaa
