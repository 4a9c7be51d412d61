/- Keys of numbers: octet.Key, octet.TakeKey and the reference's, for every number, row of bytes and place. -/
import Derived.Test.YtghajmcohdedlaaBase
import Derived.Test.YtghajmcohdedlaaKeyMath
namespace Go.Proofs.Ytghajmcohdedlaa
open Go.RowKit

theorem Own.cap_ok {w : World} {base : Nat} {a : Option Addr} {len cap : Nat} {bs : List Nat} (h : Own w base a len cap bs) : len ≤ cap := by
  rcases h.row.2 with ⟨hv, h0⟩ | ⟨g, c, cur, hv, _, _, hlc, _⟩
  · omega
  · simp only [Value.slice.injEq] at hv
    omega

theorem make8 : ∀ w, (Instr.makeSlice 49 (.int .i64 8) (.int .i64 8)).run Try.prog w = .ok (.slice (some ⟨w.heap.size, 0, none⟩) 8 8) (w.alloc (.cells #[.int .u8 0, .int .u8 0, .int .u8 0, .int .u8 0, .int .u8 0, .int .u8 0, .int .u8 0, .int .u8 0] 5)) := fun _ => by kernel_rfl

theorem xor_top (n : Int) (hn : (-9223372036854775808 : Int) ≤ n ∧ n ≤ 9223372036854775807) : bits BinOp.xor IntKind.u64 (IntKind.u64.wrap n) 9223372036854775808 = (KeyM.up n : Int) := by
  have e1 : IntKind.u64.wrap n = ((n % 18446744073709551616).toNat : Int) := by rw [IntKind.wrap_u64]; omega
  rw [e1, show (9223372036854775808 : Int) = ((9223372036854775808 : Nat) : Int) from rfl, u64_xor_nat _ _ (by omega) (by omega), KeyM.turn _ (by omega)]
  unfold KeyM.up
  omega

set_option maxHeartbeats 1000000 in
theorem octet_Key (n : Int) (hn : (-9223372036854775808 : Int) ≤ n ∧ n ≤ 9223372036854775807) (w : World) :
    Calls Try.prog 50 #[.int .i64 n] w fun e w' => ∃ a, e = .returned (.slice (some a) 8 8) ∧ Own w' w.heap.size (some a) 8 8 (KeyM.key (KeyM.up n)) ∧ Below w.heap.size w w' := by
  have hx := xor_top n hn
  have hu : KeyM.up n < 18446744073709551616 := by unfold KeyM.up; omega
  obtain ⟨u, HU⟩ : ∃ u, Hid (u = KeyM.up n) := ⟨_, rfl⟩
  rw [← HU.out] at hx hu
  rw [← HU.out]
  have hmk := make8
  clear hn
  go_enter Try.func50, Try.ntmps50
  go_wp2
  refine wp_loop_rounds 9 ?_
  rw [rounds_succ]
  go_wp2
  rw [rounds_succ]
  go_wp2
  rw [rounds_succ]
  go_wp2
  rw [rounds_succ]
  go_wp2
  rw [rounds_succ]
  go_wp2
  rw [rounds_succ]
  go_wp2
  rw [rounds_succ]
  go_wp2
  rw [rounds_succ]
  go_wp2
  rw [rounds_succ]
  go_wp2
  go_ret
  refine ⟨⟨w.heap.size, 0, none⟩, rfl, ?_, below_alloc w _⟩
  refine Own.new w w.heap.size _ (KeyM.key u) (KeyM.key_byte u) ?_ (Nat.le_refl _) (by show 8 ≤ maxLen; unfold maxLen; omega)
  have e : u / 72057594037927936 % 256 = u / 72057594037927936 := Nat.mod_eq_of_lt (by omega)
  simp only [KeyM.key, vb, List.map_cons, List.map_nil, e]
  rfl


/-- What TakeKey tells. -/
def toldK (r : Int × Nat × Nat) : Ending := .returned (.tuple #[.int .i64 r.1, .int .i64 (r.2.1 : Int), .int .i64 (r.2.2 : Int)])
theorem toldK_eq {r s : Int × Nat × Nat} (h : r = s) {x y z : Int} (h1 : x = s.1) (h2 : y = (s.2.1 : Int)) (h3 : z = (s.2.2 : Int)) : Ending.returned (.tuple #[.int .i64 x, .int .i64 y, .int .i64 z]) = toldK r := by
  subst h h1 h2 h3; rfl

set_option maxRecDepth 100000 in
set_option maxHeartbeats 1000000 in
theorem octet_TakeKey (a : Option Addr) (len cap : Nat) (bs : List Nat) (x : Int) (w : World) (hr : Rd w a len bs) (hlc : len ≤ cap) (hl : len ≤ 9223372036854775000) (hx : (-9223372036854775808 : Int) ≤ x ∧ x ≤ 9223372036854775807) :
    Calls Try.prog 78 #[.slice a len cap, .int .i64 x] w fun e w' => e = toldK (KeyM.take bs x) ∧ w' = w := by
  have HL : Hid (bs.length = len) := hr.size
  have HBY : Hid (∀ x ∈ bs, x < 256) := hr.byte
  by_cases hneg : x < 0
  · have HF : Hid (KeyM.take bs x = (0, 0, 2)) := by show _ = _; unfold KeyM.take; rw [if_pos (.inl hneg)]
    clear hr
    go_enter Try.func78, Try.ntmps78
    go_wp2
    go_ret3
    exact ⟨toldK_eq HF.out rfl rfl rfl, rfl⟩
  by_cases hbig : (len : Int) < x
  · have HF : Hid (KeyM.take bs x = (0, 0, 2)) := by show _ = _; unfold KeyM.take; rw [if_pos (.inr (by rw [HL.out]; exact hbig))]
    clear hr
    go_enter Try.func78, Try.ntmps78
    go_wp2
    go_ret3
    exact ⟨toldK_eq HF.out rfl rfl rfl, rfl⟩
  obtain ⟨p, rfl⟩ := Int.eq_ofNat_of_zero_le (show 0 ≤ x by omega)
  by_cases hshort : len < p + 8
  · have HF : Hid (KeyM.take bs (p : Int) = (0, 0, 3)) := by show _ = _; unfold KeyM.take; rw [if_neg (by rw [HL.out]; omega), if_pos (by rw [HL.out]; omega)]
    have hs' : (len : Int) - (p : Int) < 8 := by omega
    clear hr
    go_enter Try.func78, Try.ntmps78
    go_wp2
    go_ret3
    exact ⟨toldK_eq HF.out rfl rfl rfl, rfl⟩
  obtain ⟨l, HLD⟩ : ∃ l, Hid (l = (bs.drop p).take 8) := ⟨_, rfl⟩
  have HLL : Hid (l.length = 8) := by show _ = _; rw [HLD.out, List.length_take, List.length_drop, HL.out]; omega
  have HLB : Hid (∀ x ∈ l, x < 256) := fun x hx => HBY.out x (List.mem_of_mem_drop (List.mem_of_mem_take (by rw [← HLD.out]; exact hx)))
  have HF : Hid (KeyM.take bs (p : Int) = ((KeyM.be l : Int) - 9223372036854775808, p + 8, 0)) := by show _ = _; unfold KeyM.take; rw [if_neg (by rw [HL.out]; omega), if_neg (by rw [HL.out]; omega), HLD.out]; simp
  obtain ⟨b, off, rfl, hblt, hc⟩ : ∃ b off, a = some ⟨b, off, none⟩ ∧ b < w.heap.size ∧ ∀ i, i < len → w.cell? ⟨b, off + i, none⟩ = some (.int .u8 ((bs.getD i 0 : Nat) : Int)) := by
    rcases hr.cells with h0 | h
    · omega
    · exact h
  have HC : Hid (∀ k, k < 8 → w.cell? ⟨b, off + (p + k), none⟩ = some (.int .u8 ((l.getD k 0 : Nat) : Int))) := by
    intro k hk
    rw [hc (p + k) (by omega), HLD.out]
    simp only [List.getD_eq_getElem?_getD, List.getElem?_take_of_lt hk, List.getElem?_drop]
  have hp8 : p + 8 ≤ len := by omega
  have g1 : (0 : Int) ≤ (p : Int) := by omega
  have g2 : (p : Int) ≤ (p : Int) + 8 := by omega
  have g3 : (p : Int) + 8 ≤ (cap : Int) := by omega
  clear hr hc hneg hbig hx
  go_enter Try.func78, Try.ntmps78
  go_wp2
  go_loop [7, 29] (fun t7 t29 => ∃ (k U : Nat), k ≤ 8 ∧ t29 = .int .i64 (k : Int) ∧ t7 = .int .u64 (U : Int) ∧ U < 18446744073709551616 ∧ Hid (U = KeyM.be (l.take k))) (fun _ t29 => 8 - (intOf t29).toNat)
  case atStart => exact ⟨0, 0, by omega, rfl, rfl, by omega, rfl⟩
  case round =>
    obtain ⟨k, U, hk, rfl, rfl, hU, HU⟩ := hrel
    by_cases hk8 : k < 8
    · have hcx := HC.out k hk8
      rw [← Nat.add_assoc] at hcx
      obtain ⟨c, HCE⟩ : ∃ c, Hid (c = l.getD k 0) := ⟨_, rfl⟩
      rw [← HCE.out] at hcx
      have hc : c < 256 := by rw [HCE.out]; exact getD_lt HLB.out k
      have hU7 : U < 72057594037927936 := by
        rw [HU.out]
        refine Nat.lt_of_lt_of_le (KeyM.be_lt _ (fun x hx => HLB.out x (List.mem_of_mem_take hx))) ?_
        refine Nat.pow_le_pow_right (n := 256) (j := 7) (by omega) ?_
        rw [List.length_take]; omega
      have e1 : bits BinOp.or IntKind.u64 ((U : Int) * 256) (c : Int) = ((U * 256 + c : Nat) : Int) := by
        rw [show ((U : Int) * 256) = ((U * 256 : Nat) : Int) from rfl, u64_or_nat _ c (by omega) (by omega), nat_join 8 (U * 256) c (by omega) (by omega)]
      have HR : Hid (U * 256 + c = KeyM.be (l.take (k + 1))) := by
        show _ = _
        rw [take_succ_getD l k (by rw [HLL.out]; exact hk8), KeyM.be_snoc, ← HU.out, ← HCE.out, Nat.mul_comm]
      have hk' : k < p + 8 - p := by omega
      go_wp2
      go_round
      case rel => exact ⟨k + 1, U * 256 + c, by omega, by go_num, rfl, by omega, HR⟩
      case measure => simp [intOf]; omega
    · obtain ⟨V, HV⟩ : ∃ V, Hid (V = (U + 9223372036854775808) % 18446744073709551616) := ⟨_, rfl⟩
      have e2 : bits BinOp.xor IntKind.u64 (U : Int) 9223372036854775808 = (V : Int) := by
        rw [HV.out, show (9223372036854775808 : Int) = ((9223372036854775808 : Nat) : Int) from rfl, u64_xor_nat U _ hU (by omega), KeyM.turn U hU]
      have HUF : Hid (U = KeyM.be l) := by show _ = _; rw [HU.out, List.take_of_length_le (by rw [HLL.out]; omega)]
      have hV : V < 18446744073709551616 := by rw [HV.out]; omega
      go_wp2
      go_ret3
      refine ⟨toldK_eq HF.out ?_ rfl rfl, rfl⟩
      show wrap64 (V : Int) = (KeyM.be l : Int) - 9223372036854775808
      rw [← HUF.out, HV.out]
      simp only [wrap64]
      omega

set_option maxRecDepth 100000 in
set_option maxHeartbeats 1000000 in
theorem ref_TakeKey (a : Option Addr) (len cap : Nat) (bs : List Nat) (x : Int) (w : World) (hr : Rd w a len bs) (hlc : len ≤ cap) (hl : len ≤ 9223372036854775000) (hx : (-9223372036854775808 : Int) ≤ x ∧ x ≤ 9223372036854775807) :
    Calls Try.prog 70 #[.slice a len cap, .int .i64 x] w fun e w' => e = toldK (KeyM.take bs x) ∧ w' = w := by
  have HL : Hid (bs.length = len) := hr.size
  have HBY : Hid (∀ x ∈ bs, x < 256) := hr.byte
  by_cases hneg : x < 0
  · have HF : Hid (KeyM.take bs x = (0, 0, 2)) := by show _ = _; unfold KeyM.take; rw [if_pos (.inl hneg)]
    clear hr
    go_enter Try.func70, Try.ntmps70
    go_wp2
    go_ret3
    exact ⟨toldK_eq HF.out rfl rfl rfl, rfl⟩
  by_cases hbig : (len : Int) < x
  · have HF : Hid (KeyM.take bs x = (0, 0, 2)) := by show _ = _; unfold KeyM.take; rw [if_pos (.inr (by rw [HL.out]; exact hbig))]
    clear hr
    go_enter Try.func70, Try.ntmps70
    go_wp2
    go_ret3
    exact ⟨toldK_eq HF.out rfl rfl rfl, rfl⟩
  obtain ⟨p, rfl⟩ := Int.eq_ofNat_of_zero_le (show 0 ≤ x by omega)
  by_cases hshort : len < p + 8
  · have HF : Hid (KeyM.take bs (p : Int) = (0, 0, 3)) := by show _ = _; unfold KeyM.take; rw [if_neg (by rw [HL.out]; omega), if_pos (by rw [HL.out]; omega)]
    have hs' : (len : Int) - (p : Int) < 8 := by omega
    clear hr
    go_enter Try.func70, Try.ntmps70
    go_wp2
    go_ret3
    exact ⟨toldK_eq HF.out rfl rfl rfl, rfl⟩
  obtain ⟨l, HLD⟩ : ∃ l, Hid (l = (bs.drop p).take 8) := ⟨_, rfl⟩
  have HLL : Hid (l.length = 8) := by show _ = _; rw [HLD.out, List.length_take, List.length_drop, HL.out]; omega
  have HLB : Hid (∀ x ∈ l, x < 256) := fun x hx => HBY.out x (List.mem_of_mem_drop (List.mem_of_mem_take (by rw [← HLD.out]; exact hx)))
  have HF : Hid (KeyM.take bs (p : Int) = ((KeyM.be l : Int) - 9223372036854775808, p + 8, 0)) := by show _ = _; unfold KeyM.take; rw [if_neg (by rw [HL.out]; omega), if_neg (by rw [HL.out]; omega), HLD.out]; simp
  obtain ⟨b, off, rfl, hblt, hc⟩ : ∃ b off, a = some ⟨b, off, none⟩ ∧ b < w.heap.size ∧ ∀ i, i < len → w.cell? ⟨b, off + i, none⟩ = some (.int .u8 ((bs.getD i 0 : Nat) : Int)) := by
    rcases hr.cells with h0 | h
    · omega
    · exact h
  have HC : Hid (∀ k, k < 8 → w.cell? ⟨b, off + (p + k), none⟩ = some (.int .u8 ((l.getD k 0 : Nat) : Int))) := by
    intro k hk
    rw [hc (p + k) (by omega), HLD.out]
    simp only [List.getD_eq_getElem?_getD, List.getElem?_take_of_lt hk, List.getElem?_drop]
  have hp8 : p + 8 ≤ len := by omega
  have g1 : (0 : Int) ≤ (p : Int) := by omega
  have g2 : (p : Int) ≤ (p : Int) + 8 := by omega
  have g3 : (p : Int) + 8 ≤ (cap : Int) := by omega
  clear hr hc hneg hbig hx
  go_enter Try.func70, Try.ntmps70
  go_wp2
  go_loop [7, 8] (fun t7 t8 => ∃ (k U : Nat), k ≤ 8 ∧ t8 = .int .i64 (k : Int) ∧ t7 = .int .u64 (U : Int) ∧ U < 18446744073709551616 ∧ Hid (U = KeyM.be (l.take k))) (fun _ t8 => 8 - (intOf t8).toNat)
  case atStart => exact ⟨0, 0, by omega, rfl, rfl, by omega, rfl⟩
  case round =>
    obtain ⟨k, U, hk, rfl, rfl, hU, HU⟩ := hrel
    by_cases hk8 : k < 8
    · have hcx := HC.out k hk8
      obtain ⟨c, HCE⟩ : ∃ c, Hid (c = l.getD k 0) := ⟨_, rfl⟩
      rw [← HCE.out] at hcx
      have hc : c < 256 := by rw [HCE.out]; exact getD_lt HLB.out k
      have hU7 : U < 72057594037927936 := by
        rw [HU.out]
        refine Nat.lt_of_lt_of_le (KeyM.be_lt _ (fun x hx => HLB.out x (List.mem_of_mem_take hx))) ?_
        refine Nat.pow_le_pow_right (n := 256) (j := 7) (by omega) ?_
        rw [List.length_take]; omega
      have HR : Hid (256 * U + c = KeyM.be (l.take (k + 1))) := by
        show _ = _
        rw [take_succ_getD l k (by rw [HLL.out]; exact hk8), KeyM.be_snoc, ← HU.out, ← HCE.out]
      go_wp2
      go_round
      case rel => exact ⟨k + 1, 256 * U + c, by omega, by go_num, rfl, by omega, HR⟩
      case measure => simp [intOf]; omega
    · have HUF : Hid (U = KeyM.be l) := by show _ = _; rw [HU.out, List.take_of_length_le (by rw [HLL.out]; omega)]
      go_wp2
      go_ret3
      refine ⟨toldK_eq HF.out ?_ rfl rfl, rfl⟩
      show wrap64 (IntKind.u64.wrap ((U : Int) - 9223372036854775808)) = (KeyM.be l : Int) - 9223372036854775808
      rw [IntKind.wrap_u64, ← HUF.out]
      simp only [wrap64]
      omega
end Go.Proofs.Ytghajmcohdedlaa
