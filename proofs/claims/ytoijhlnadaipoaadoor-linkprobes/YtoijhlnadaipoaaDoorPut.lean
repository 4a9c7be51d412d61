/- Numbers are put: octet.putUint, octet.Uint and the reference's Uint, for every number. -/
import Derived.Test.YtoijhlnadaipoaaDoorBase
import Derived.Test.YtoijhlnadaipoaaDoorLeb
import Derived.Test.YtoijhlnadaipoaaDoorJump
namespace Go.Proofs.YtoijhlnadaipoaaDoor
open Go.RowKit

theorem Own.nil (w : World) (base : Nat) : Own w base none 0 0 [] := ⟨World.ownsRow_nil _ _ _ _, by simp⟩

theorem Own.some {w : World} {base : Nat} {a : Option Addr} {len cap : Nat} {bs : List Nat} (h : Own w base a len cap bs) (hl : 0 < len) : a ≠ none := by
  rintro rfl
  rcases h.rd.cells with h0 | ⟨_, _, h, _⟩
  · omega
  · cases h

/-- One byte that was just laid, for an append. -/
theorem rd_one (w : World) (v : Int) (c : Nat) (hv : v = (c : Int)) (hc : c < 256) (m : Nat × Nat) : Rd (w.alloc (.cells #[.int .u8 v] 5 m)) (some ⟨w.heap.size, 0, none⟩) 1 [c] :=
  Rd.new w _ _ _ [c] (by simpa using hc) (fun i hi => by
    subst hv
    have : i = 0 := by simp at hi; omega
    subst this; rfl)

theorem nat_or128 (x : Nat) (h : x < 256) : x ||| 128 = 128 + x % 128 := by
  have : ∀ x, x < 256 → x ||| 128 = 128 + x % 128 := by decide +kernel
  exact this x h

set_option maxHeartbeats 400000 in
theorem ref_Uint (n : Nat) (hn : n < 18446744073709551616) (w : World) :
    Calls Tryd.prog 46 #[.int .u64 (n : Int)] w fun e w' => ∃ a cap, e = .returned (.slice a (Leb.leb n).length cap) ∧ a ≠ none ∧ Own w' w.heap.size a (Leb.leb n).length cap (Leb.leb n) ∧ Below w.heap.size w w' := by
  go_enter Tryd.func46, Tryd.ntmps46
  go_wp2
  go_loopw [0, 3] (fun t0 t3 wr => ∃ (j m : Nat) (a : Option Addr) (len cap : Nat) (xs : List Nat), t0 = .int .u64 (m : Int) ∧ t3 = .slice a len cap ∧ j ≤ 9 ∧ m < 18446744073709551616 ∧ Hid (m < 2 * 128 ^ j) ∧ len + j ≤ 9 ∧ Hid (Leb.leb n = xs ++ Leb.put j m) ∧ Hid (Own wr w.heap.size a len cap xs) ∧ Hid (Below w.heap.size w wr)) (fun t0 _ _ => (intOf t0).toNat)
  case atStart => exact ⟨9, n, _, 0, 0, [], rfl, rfl, Nat.le_refl _, hn, by simpa [Hid] using hn, Nat.le_refl _, rfl, Own.empty w, below_alloc w _⟩
  case round =>
    obtain ⟨j, m, a, len, cap, xs, rfl, rfl, hj, hm, HM, hlj, HX, HO, HB⟩ := hrel
    by_cases hbig : 127 < m
    · have hbs := HB.out.size
      go_wp2_with (at_builtin; refine wpList_append_rd (by rfl) (.tmp 7) (.tmp 12) (by rfl) w.heap.size a len cap xs (by rfl) (HO.out.below (below_alloc wr _)) (some ⟨wr.heap.size, 0, none⟩) 1 1 [128 + m % 128] (by rfl) (rd_one wr _ (128 + m % 128) (by omega) (by omega) _) (fun h => by cases h) (by omega) (by simp; omega) ?_; intro a1 c1 w1 hown1 hgrow1 hbel1; have HO1 : Hid (Own w1 w.heap.size a1 (len + 1) c1 (xs ++ [128 + m % 128])) := hown1; have HB1 : Hid (Below w.heap.size w w1) := (HB.out.trans ((below_alloc wr _).mono hbs)).trans hbel1; clear hown1 hgrow1 hbel1)
      obtain ⟨i, rfl⟩ : ∃ i, j = i + 1 := by
        cases j with
        | zero => have := HM.out; simp at this; omega
        | succ i => exact ⟨i, rfl⟩
      have hm' := HM.out
      rw [Nat.pow_succ] at hm'
      go_roundw
      case rel => exact ⟨i, m / 128, a1, len + 1, c1, xs ++ [128 + m % 128], rfl, rfl, by omega, by omega, (by show m / 128 < 2 * 128 ^ i; omega), by omega, (by show _ = _; rw [HX.out, Leb.put_big i m (by omega)]; simp), HO1, HB1⟩
      case measure => simp [intOf]; omega
    · have hbs := HB.out.size
      go_wp2_with (at_builtin; refine wpList_append_rd (by rfl) (.tmp 16) (.tmp 19) (by rfl) w.heap.size a len cap xs (by rfl) (HO.out.below (below_alloc wr _)) (some ⟨wr.heap.size, 0, none⟩) 1 1 [m] (by rfl) (rd_one wr _ m (by omega) (by omega) _) (fun h => by cases h) (by omega) (by simp; omega) ?_; intro a1 c1 w1 hown1 hgrow1 hbel1; have HO1 : Hid (Own w1 w.heap.size a1 (len + 1) c1 (xs ++ [m])) := hown1; have HB1 : Hid (Below w.heap.size w w1) := (HB.out.trans ((below_alloc wr _).mono hbs)).trans hbel1; clear hown1 hgrow1 hbel1)
      have e : Leb.leb n = xs ++ [m] := by rw [HX.out, Leb.put_small j m (by omega)]
      have el : (Leb.leb n).length = len + 1 := by rw [e, List.length_append, HO.out.size]; rfl
      go_ret
      rw [el, e]
      exact ⟨a1, c1, rfl, HO1.out.some (by omega), HO1.out, HB1.out⟩

set_option maxRecDepth 100000 in
set_option maxHeartbeats 400000 in
theorem octet_putUint (n : Nat) (hn : n < 18446744073709551616) (base : Nat) (a : Option Addr) (len cap : Nat) (xs : List Nat) (w : World) (ho : Own w base a len cap xs) (hB : base ≤ w.heap.size) (hl : len ≤ 140737488355000) :
    Calls Tryd.prog 55 #[.slice a len cap, .int .u64 (n : Int)] w fun e w' => ∃ a' cap', e = .returned (.slice a' (len + (Leb.leb n).length) cap') ∧ a' ≠ none ∧ Own w' base a' (len + (Leb.leb n).length) cap' (xs ++ Leb.leb n) ∧ Below base w w' := by
  have HO' : Hid (Own w base a len cap xs) := ho
  have HN : Hid (n < 2 * 128 ^ 9) := by simpa [Hid] using hn
  clear ho
  go_enter Tryd.func55, Tryd.ntmps55
  go_wp2
  refine wp_scope_via 0 (fun a' w' => ∃ (j m : Nat) (b : Option Addr) (lb cb : Nat) (ys : List Nat) (u5 u6 u7 u8 u9 u10 u11 u12 u13 u14 : Value), a' = { tmps := #[.slice b lb cb, .int .u64 (m : Int), undef, undef, .slice none 0 0, u5, u6, u7, u8, u9, u10, u11, u12, u13, u14, undef, undef, undef, undef, undef], defers := [] } ∧ j ≤ 9 ∧ m < 18446744073709551616 ∧ Hid (m < 2 * 128 ^ j) ∧ lb + j ≤ len + 9 ∧ Hid (xs ++ Leb.leb n = ys ++ Leb.put j m) ∧ Hid (Own w' base b lb cb ys) ∧ Hid (Below base w w')) (fun a' _ => (intOf (a'.tmps.getD 1 undef)).toNat) rfl ?_ ?_
  · rintro a' wr ⟨j, m, b, lb, cb, ys, u5, u6, u7, u8, u9, u10, u11, u12, u13, u14, rfl, hj, hm, HM, hlj, HX, HO, HB⟩
    have hbs := HB.out.size
    go_hide hQ
    have HQ : Hid _ := hQ
    clear hQ
    by_cases hbig : 128 ≤ m
    · have eor : bits BinOp.or IntKind.u8 ((m : Int) % 256) 128 = ((128 + m % 128 : Nat) : Int) := by
        rw [show ((m : Int) % 256) = ((m % 256 : Nat) : Int) from rfl, show (128 : Int) = ((128 : Nat) : Int) from rfl, u8_or_nat _ 128 (by omega) (by omega)]
        congr 1
        have h := nat_or128 (m % 256) (by omega)
        rw [h]
        omega
      go_wp2_with (at_builtin; refine wpList_append_rd (by rfl) (.tmp 7) (.tmp 11) (by rfl) base b lb cb ys (by rfl) (HO.out.below (below_alloc wr _)) (some ⟨wr.heap.size, 0, none⟩) 1 1 [128 + m % 128] (by rfl) (rd_one wr _ (128 + m % 128) (by omega) (by omega) _) (fun h => by cases h) (by omega) (by simp; omega) ?_; intro a1 c1 w1 hown1 hgrow1 hbel1; have HO1 : Hid (Own w1 base a1 (lb + 1) c1 (ys ++ [128 + m % 128])) := hown1; have HB1 : Hid (Below base w w1) := (HB.out.trans ((below_alloc wr _).mono (by omega))).trans hbel1; clear hown1 hgrow1 hbel1)
      obtain ⟨i, rfl⟩ : ∃ i, j = i + 1 := by
        cases j with
        | zero => have := HM.out; simp at this; omega
        | succ i => exact ⟨i, rfl⟩
      have hm' := HM.out
      rw [Nat.pow_succ] at hm'
      go_step3
      rw [← HQ.out]
      refine ⟨rfl, ⟨i, m / 128, a1, lb + 1, c1, ys ++ [128 + m % 128], _, _, _, _, _, _, _, _, _, _, rfl, by omega, by omega, (by show m / 128 < 2 * 128 ^ i; omega), by omega, (by show _ = _; rw [HX.out, Leb.put_big i m (by omega)]; simp), HO1, HB1⟩, ?_⟩
      simp [intOf]
      omega
    · go_wp2_with (at_builtin; refine wpList_append_rd (by rfl) (.tmp 15) (.tmp 18) (by rfl) base b lb cb ys (by rfl) (HO.out.below (below_alloc wr _)) (some ⟨wr.heap.size, 0, none⟩) 1 1 [m] (by rfl) (rd_one wr _ m (by omega) (by omega) _) (fun h => by cases h) (by omega) (by simp; omega) ?_; intro a1 c1 w1 hown1 hgrow1 hbel1; have HO1 : Hid (Own w1 base a1 (lb + 1) c1 (ys ++ [m])) := hown1; have HB1 : Hid (Below base w w1) := (HB.out.trans ((below_alloc wr _).mono (by omega))).trans hbel1; clear hown1 hgrow1 hbel1)
      have e : xs ++ Leb.leb n = ys ++ [m] := by rw [HX.out, Leb.put_small j m (by omega)]
      have el : len + (Leb.leb n).length = lb + 1 := by
        have := congrArg List.length e
        rw [List.length_append, List.length_append, HO'.out.size, HO.out.size] at this
        exact this
      rw [← HQ.out]
      simp only [Exit.jump]
      go_ret
      rw [el, e]
      exact ⟨a1, c1, rfl, HO1.out.some (by omega), HO1.out, HB1.out⟩
  · intro hrest
    exact wp_seq (wp_label (hrest _ _ ⟨9, n, a, len, cap, xs, undef, undef, undef, undef, undef, undef, undef, undef, undef, undef, rfl, Nat.le_refl _, hn, HN, Nat.le_refl _, rfl, HO', Below.refl _ _⟩))

theorem octet_Uint (n : Nat) (hn : n < 18446744073709551616) (w : World) :
    Calls Tryd.prog 39 #[.int .u64 (n : Int)] w fun e w' => ∃ a cap, e = .returned (.slice a (Leb.leb n).length cap) ∧ a ≠ none ∧ Own w' w.heap.size a (Leb.leb n).length cap (Leb.leb n) ∧ Below w.heap.size w w' := by
  go_enter Tryd.func39, Tryd.ntmps39
  go_wp2_with fail
  refine (octet_putUint n hn w.heap.size none 0 0 [] w (Own.nil _ _) (Nat.le_refl _) (by omega)).mono ?_
  rintro e w' ⟨a', cap', rfl, h1, h2, h3⟩
  simp only [Nat.zero_add, List.nil_append] at h2
  have H1 : Hid (a' ≠ none) := h1
  have H2 : Hid (Own w' w.heap.size a' (Leb.leb n).length cap' (Leb.leb n)) := h2
  have H3 : Hid (Below w.heap.size w w') := h3
  clear h1 h2 h3
  go_wp2
  go_ret
  exact ⟨a', cap', rfl, H1.out, H2.out, H3.out⟩
end Go.Proofs.YtoijhlnadaipoaaDoor
