/- event.takeContent and event.Take: the event at a place. -/
import Derived.Test.YtigmlhieibejoadEvAttrs
namespace Go.Proofs.Ytigmlhieibejoad
open Go.RowKit

theorem bytes_Clone (p : Addr) (n c : Nat) (bs : List Nat) (w : World) (hr : Rd w (some p) n bs) (hn : n ≤ 1000) :
    Calls Try.prog 26 #[.slice (some p) n c] w fun e w' => ∃ a' c', e = .returned (.slice a' n c') ∧ Own w' w.heap.size a' n c' bs ∧ Below w.heap.size w w' := by
  have hq : ∀ W : World, (binOp .eql 22 (.slice (some p) n c) (.slice none 0 0)).run Try.prog W = .ok (.bool false) W := fun W => by
    simp only [binOp]
    rw [Sem.run_bind, run_equal_slice_nil W _ _ _ _ _ Try.underlying22]
    rfl
  have HR : Hid (Rd (w.alloc (.cells #[] 5)) (some p) n bs) := hr.below (below_alloc w _)
  have HB : Hid (Below w.heap.size w (w.alloc (.cells #[] 5))) := below_alloc w _
  clear hr
  go_enter Try.func26, Try.ntmps26
  go_wp2_with (at_builtin; refine wpList_append_rd rfl (.tmp 5) (.tmp 6) rfl w.heap.size (some ⟨w.heap.size, 0, none⟩) 0 0 [] rfl (Own.empty w) (some p) n c bs rfl HR.out (by simp) (by omega) HB.out.size ?_)
  intro a' c' w1 ho hg hb1
  have HO1 : Hid (Own w1 w.heap.size a' n c' bs) := by
    show Own _ _ _ _ _ _
    simpa using ho
  have HB1 : Hid (Below w.heap.size w w1) := HB.out.trans hb1
  clear ho hg hb1
  go_wp2
  go_ret
  refine ⟨a', c', ?_, HO1.out, HB1.out⟩
  simp

/-- A row of bytes of one's own, as a value. -/
def Row (w : World) (base : Nat) (v : Value) (c : List Nat) : Prop := ∃ a n cap, v = .slice a n cap ∧ Own w base a n cap c

theorem Rd.part {w : World} {b off len : Nat} {bs : List Nat} (hr : Rd w (some ⟨b, off, none⟩) len bs) (p n off' : Nat) (hpn : p + n ≤ len) (ho : n = 0 ∨ off' = off + p) : Rd w (some ⟨b, off', none⟩) n ((bs.drop p).take n) := by
  refine ⟨by rw [List.length_take, List.length_drop, hr.size]; omega, fun y hy => hr.byte y (List.mem_of_mem_drop (List.mem_of_mem_take hy)), ?_⟩
  by_cases hn : n = 0
  · exact .inl hn
  · obtain rfl : off' = off + p := by omega
    rcases hr.cells with h0 | ⟨b', off'', he, hblt, hc⟩
    · omega
    · cases he
      refine .inr ⟨b, off + p, rfl, hblt, fun i hi => ?_⟩
      rw [Nat.add_assoc, hc (p + i) (by omega)]
      simp only [List.getD_eq_getElem?_getD, List.getElem?_take_of_lt hi, List.getElem?_drop]

theorem textAt_take {bs : List Nat} {x : Int} {n k f : Nat} (h : Leb.take bs x = (n, k, f)) (hf : f ≠ 0) : textAt bs x = ([], 0, f) := by
  unfold textAt
  rw [range_def, h, rng_err _ _ _ _ _ hf]
  cases f with
  | zero => exact absurd rfl hf
  | succ f => rfl
theorem textAt_limit {bs : List Nat} {x : Int} {n k : Nat} (h : Leb.take bs x = (n, k, 0)) (hn : 200 < n) : textAt bs x = ([], 0, 6) := by
  unfold textAt
  rw [range_def, h, rng, if_pos hn]
  rfl
theorem textAt_short {bs : List Nat} {x : Int} {n k : Nat} (h : Leb.take bs x = (n, k, 0)) (hn : ¬ 200 < n) (hs : bs.length - k < n) : textAt bs x = ([], 0, 3) := by
  unfold textAt
  rw [range_def, h, rng, if_neg hn, if_pos hs]
  rfl
theorem textAt_ok {bs : List Nat} {x : Int} {n k : Nat} (h : Leb.take bs x = (n, k, 0)) (hn : ¬ 200 < n) (hs : ¬ bs.length - k < n) : textAt bs x = ((bs.drop k).take n, k + n, 0) := by
  unfold textAt
  rw [range_def, h, rng, if_neg hn, if_neg hs]
  show ((bs.drop k).take (k + n - k), k + n, 0) = _
  rw [Nat.add_sub_cancel_left]

set_option maxRecDepth 100000 in
set_option maxHeartbeats 1000000 in
theorem event_takeContent (a : Option Addr) (len cap : Nat) (bs : List Nat) (x : Int) (w : World) (hr : Rd w a len bs) (hlc : len ≤ cap) (hl : len ≤ 9223372036854775000) (hx : (-9223372036854775808 : Int) ≤ x ∧ x ≤ 9223372036854775807) (C : List Nat) (K F : Nat) (hS : textAt bs x = (C, K, F)) :
    Calls Try.prog 11 #[.slice a len cap, .int .i64 x] w fun e w' => ∃ v, e = .returned (.tuple #[v, .int .i64 (K : Int), .int .i64 (F : Int)]) ∧ Row w' w.heap.size v C ∧ Below w.heap.size w w' := by
  have HR : Hid (Rd w a len bs) := hr
  have HX : Hid ((-9223372036854775808 : Int) ≤ x ∧ x ≤ 9223372036854775807) := hx
  have HBL : Hid (bs.length = len) := hr.size
  have hsm := take_small bs x hr.byte
  obtain ⟨n, k, f, hT⟩ : ∃ n k f, Leb.take bs x = (n, k, f) := ⟨_, _, _, rfl⟩
  rw [hT] at hsm
  have HT : Hid (Leb.take bs x = (n, k, f)) := hT
  have HS : Hid (textAt bs x = (C, K, F)) := hS
  have HCC : Hid (Calls Try.prog 24 #[.slice a len cap, .int .i64 x] w fun e w' => e = .returned (.tuple #[.int .u64 (n : Int), .int .i64 (k : Int), .int .i64 (f : Int)]) ∧ w' = w) := by
    have h := octet_TakeUint a len cap bs x w hr hl hx
    rw [hT] at h
    exact h
  clear hr hx hT hS
  have hN : ∀ W : World, Row W w.heap.size (.slice none 0 0) [] := fun W => ⟨none, 0, 0, rfl, Own.nil W _⟩
  have HN : Hid (∀ W : World, Row W w.heap.size (.slice none 0 0) []) := hN
  clear hN
  by_cases hf : f = 0
  · subst hf
    have hkl : k ≤ len := by
      obtain ⟨_, _, _, h, _, _, _⟩ := Leb.take_once bs x HR.out.byte n k HT.out
      rw [← HBL.out]; exact h
    have hk0 : 0 < k := by
      obtain ⟨p, _, h, _, _, _, _⟩ := Leb.take_once bs x HR.out.byte n k HT.out
      omega
    by_cases h2 : 200 < n
    · have HE : Hid (C = [] ∧ K = 0 ∧ F = 6) := by
        have := HS.out
        rw [textAt_limit HT.out h2] at this
        simp only [Prod.mk.injEq] at this
        exact ⟨this.1.symm, this.2.1.symm, this.2.2.symm⟩
      have h2' : (200 : Int) < (n : Int) := by omega
      go_enter Try.func11, Try.ntmps11
      go_wp2_with fail
      refine HCC.out.mono ?_
      rintro e w1 ⟨rfl, rfl⟩
      go_wp2
      go_ret3
      obtain ⟨rfl, rfl, rfl⟩ := HE.out
      exact ⟨_, rfl, HN.out _, Below.refl _ _⟩
    · have h2' : ¬ (200 : Int) < (n : Int) := by omega
      by_cases h3 : len - k < n
      · have HE : Hid (C = [] ∧ K = 0 ∧ F = 3) := by
          have := HS.out
          rw [textAt_short HT.out h2 (by rw [HBL.out]; exact h3)] at this
          simp only [Prod.mk.injEq] at this
          exact ⟨this.1.symm, this.2.1.symm, this.2.2.symm⟩
        have h3' : (len : Int) - (k : Int) < (n : Int) := by omega
        clear hsm
        go_enter Try.func11, Try.ntmps11
        go_wp2_with fail
        refine HCC.out.mono ?_
        rintro e w1 ⟨rfl, rfl⟩
        go_wp2
        go_ret3
        obtain ⟨rfl, rfl, rfl⟩ := HE.out
        exact ⟨_, rfl, HN.out _, Below.refl _ _⟩
      · have HE : Hid (C = (bs.drop k).take n ∧ K = k + n ∧ F = 0) := by
          have := HS.out
          rw [textAt_ok HT.out h2 (by rw [HBL.out]; exact h3)] at this
          simp only [Prod.mk.injEq] at this
          exact ⟨this.1.symm, this.2.1.symm, this.2.2.symm⟩
        have h3' : ¬ (len : Int) - (k : Int) < (n : Int) := by omega
        obtain ⟨b, off, rfl⟩ : ∃ b off, a = some ⟨b, off, none⟩ := by
          rcases HR.out.cells with h0 | ⟨b, off, e, _⟩
          · omega
          · exact ⟨b, off, e⟩
        obtain ⟨q, hq⟩ : ∃ q, q = k + n := ⟨_, rfl⟩
        have hqi : (k : Int) + (n : Int) = (q : Int) := by omega
        have hqn : q - k = n := by omega
        have g1 : (0 : Int) ≤ (k : Int) := by omega
        have g2 : (k : Int) ≤ (q : Int) := by omega
        have g3 : (q : Int) ≤ (cap : Int) := by omega
        have HQ : Hid (q = k + n) := hq
        clear hsm hq
        by_cases hcp : cap = k
        · have HP : Hid (Rd w (some ⟨b, off, none⟩) n ((bs.drop k).take n)) := HR.out.part k n off (by omega) (.inl (by omega))
          subst hcp
          go_enter Try.func11, Try.ntmps11
          go_wp2_with fail
          refine HCC.out.mono ?_
          rintro e w1 ⟨rfl, rfl⟩
          go_wp2_with fail
          refine (bytes_Clone _ n _ _ _ HP.out (by omega)).mono ?_
          rintro e w2 ⟨a', c', rfl, ho, hb2⟩
          have HO : Hid (Own w2 w1.heap.size a' n c' ((bs.drop cap).take n)) := ho
          have HB2 : Hid (Below w1.heap.size w1 w2) := hb2
          clear ho hb2
          go_wp2
          go_ret3
          obtain ⟨rfl, rfl, rfl⟩ := HE.out
          exact ⟨_, by rw [HQ.out]; rfl, ⟨a', n, c', rfl, HO.out⟩, HB2.out⟩
        · have HP : Hid (Rd w (some ⟨b, off + k, none⟩) n ((bs.drop k).take n)) := HR.out.part k n (off + k) (by omega) (.inr rfl)
          go_enter Try.func11, Try.ntmps11
          go_wp2_with fail
          refine HCC.out.mono ?_
          rintro e w1 ⟨rfl, rfl⟩
          go_wp2_with fail
          refine (bytes_Clone _ n _ _ _ HP.out (by omega)).mono ?_
          rintro e w2 ⟨a', c', rfl, ho, hb2⟩
          have HO : Hid (Own w2 w1.heap.size a' n c' ((bs.drop k).take n)) := ho
          have HB2 : Hid (Below w1.heap.size w1 w2) := hb2
          clear ho hb2
          go_wp2
          go_ret3
          obtain ⟨rfl, rfl, rfl⟩ := HE.out
          exact ⟨_, by rw [HQ.out]; rfl, ⟨a', n, c', rfl, HO.out⟩, HB2.out⟩
  · have hf' : (f : Int) ≠ 0 := by omega
    have HE : Hid (C = [] ∧ K = 0 ∧ F = f) := by
      have := HS.out
      rw [textAt_take HT.out hf] at this
      simp only [Prod.mk.injEq] at this
      exact ⟨this.1.symm, this.2.1.symm, this.2.2.symm⟩
    go_enter Try.func11, Try.ntmps11
    go_wp2_with fail
    refine HCC.out.mono ?_
    rintro e w1 ⟨rfl, rfl⟩
    go_wp2
    go_ret3
    obtain ⟨rfl, rfl, rfl⟩ := HE.out
    exact ⟨_, rfl, HN.out _, Below.refl _ _⟩
end Go.Proofs.Ytigmlhieibejoad
