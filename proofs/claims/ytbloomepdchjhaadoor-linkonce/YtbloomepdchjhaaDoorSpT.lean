/- A pack of texts: SpTake SpTakeL. -/
import Derived.Test.YtbloomepdchjhaaDoorSpanP
import Derived.Test.YtbloomepdchjhaaDoorTakeP
/- span.placed, span.takeSpan: the span at a place. -/
namespace Go.Proofs.YtbloomepdchjhaaDoor
open Go.RowKit
theorem Bk.second (w : World) (o : Obj) (c : Array Value) (t : TypeId) : Bk ((w.alloc o).alloc (.cells c t)) (w.heap.size + 1) c t := by
  have h := Bk.new (w.alloc o) c t
  rwa [show (w.alloc o).heap.size = w.heap.size + 1 from by simp] at h

set_option maxRecDepth 100000 in
theorem span_placed (pf pt pi : Int) (b m : Nat) (w : World) (h0 : 0 ≤ pt) (h1 : pt ≤ 1099511627776) (hb : b < 18446744073709551616) (hm : m < 18446744073709551616) :
    Calls Tryd.prog 74 #[.agg #[.int .i64 pf, .int .i64 pt, .int .i64 pi], .int .u64 (b : Int), .int .u64 (m : Int)] w fun e w' =>
      ((pt + 1 + b + m ≤ 1099511627776 ∧ e = .returned (.tuple #[.agg #[.int .i64 (pt + 1 + b), .int .i64 (pt + 1 + b + m), .int .i64 0], .bool true])) ∨
       (¬ pt + 1 + b + m ≤ 1099511627776 ∧ e = .returned (.tuple #[.agg #[.int .i64 0, .int .i64 0, .int .i64 0], .bool false]))) ∧ Below w.heap.size w w' := by
  have HB : ∀ c c', Hid (Below w.heap.size w ((w.alloc (.cells c 105)).alloc (.cells c' 105))) := fun c c' => (below_new w _).alloc (by simp) _
  obtain ⟨L, hL⟩ : ∃ L : Nat, 1099511627776 - pt = (L : Int) := ⟨(1099511627776 - pt).toNat, by omega⟩
  by_cases c1 : L ≤ b
  · have c1' : (L : Int) ≤ (b : Int) := by omega
    go_enter Tryd.func74, Tryd.ntmps74
    go_wp2
    go_returns
    exact ⟨.inr ⟨by omega, rfl⟩, (HB _ _).out⟩
  · have c1' : ¬ (L : Int) ≤ (b : Int) := by omega
    obtain ⟨M, hM⟩ : ∃ M : Nat, (L : Int) - (b : Int) = (M : Int) := ⟨L - b, by omega⟩
    by_cases c2 : M ≤ m
    · have c2' : (M : Int) ≤ (m : Int) := by omega
      go_enter Tryd.func74, Tryd.ntmps74
      go_wp2
      go_returns
      exact ⟨.inr ⟨by omega, rfl⟩, (HB _ _).out⟩
    · have c2' : ¬ (M : Int) ≤ (m : Int) := by omega
      have hbi : (b : Int) ≤ 9223372036854775807 := by omega
      have hmi : (m : Int) ≤ 9223372036854775807 := by omega
      go_enter Tryd.func74, Tryd.ntmps74
      go_wp2
      go_returns
      exact ⟨.inl ⟨by omega, rfl⟩, (HB _ _).out⟩

/-- The span at a place behind another one: the span, the place behind it, the error. -/
def takeOne (bs : List Nat) (x : Int) (a : Sp) : Sp × Int × Int :=
  if (Leb.take bs x).2.2 ≠ 0 then (Sp.zr, 0, ((Leb.take bs x).2.2 : Int)) else
  if (Leb.take bs ((Leb.take bs x).2.1 : Int)).2.2 ≠ 0 then (Sp.zr, 0, ((Leb.take bs ((Leb.take bs x).2.1 : Int)).2.2 : Int)) else
  if (Leb.take bs ((Leb.take bs x).2.1 : Int)).2.1 = bs.length then (Sp.zr, 0, 3) else
  if a.to + 1 + (Leb.take bs x).1 + (Leb.take bs ((Leb.take bs x).2.1 : Int)).1 ≤ 1099511627776 ∧ (1 ≤ bs.getD (Leb.take bs ((Leb.take bs x).2.1 : Int)).2.1 0 ∧ bs.getD (Leb.take bs ((Leb.take bs x).2.1 : Int)).2.1 0 ≤ 3) ∧
      ¬ ((Leb.take bs x).1 = 0 ∧ (bs.getD (Leb.take bs ((Leb.take bs x).2.1 : Int)).2.1 0 : Int) = a.is) then
    (⟨a.to + 1 + (Leb.take bs x).1, a.to + 1 + (Leb.take bs x).1 + (Leb.take bs ((Leb.take bs x).2.1 : Int)).1, (bs.getD (Leb.take bs ((Leb.take bs x).2.1 : Int)).2.1 0 : Int)⟩, ((Leb.take bs ((Leb.take bs x).2.1 : Int)).2.1 : Int) + 1, 0)
  else (Sp.zr, 0, 4)
theorem one_1 {bs : List Nat} {x : Int} {a : Sp} {n k e : Nat} (h : Leb.take bs x = (n, k, e)) (he : e ≠ 0) : takeOne bs x a = (Sp.zr, 0, (e : Int)) := by
  unfold takeOne
  rw [h]
  rw [if_pos he]
theorem one_2 {bs : List Nat} {x : Int} {a : Sp} {n k n2 k2 e2 : Nat} (h : Leb.take bs x = (n, k, 0)) (h2 : Leb.take bs (k : Int) = (n2, k2, e2)) (he : e2 ≠ 0) : takeOne bs x a = (Sp.zr, 0, (e2 : Int)) := by
  unfold takeOne
  rw [h]
  simp only
  rw [h2, if_neg (by simp), if_pos he]
theorem one_3 {bs : List Nat} {x : Int} {a : Sp} {n k n2 k2 : Nat} (h : Leb.take bs x = (n, k, 0)) (h2 : Leb.take bs (k : Int) = (n2, k2, 0)) (he : k2 = bs.length) : takeOne bs x a = (Sp.zr, 0, 3) := by
  unfold takeOne
  rw [h]
  simp only
  rw [h2]
  simp only
  rw [if_neg (by simp), if_neg (by simp), if_pos he]
theorem one_bad {bs : List Nat} {x : Int} {a : Sp} {n k n2 k2 : Nat} (h : Leb.take bs x = (n, k, 0)) (h2 : Leb.take bs (k : Int) = (n2, k2, 0)) (he : k2 ≠ bs.length)
    (hc : ¬ (a.to + 1 + n + n2 ≤ 1099511627776 ∧ (1 ≤ bs.getD k2 0 ∧ bs.getD k2 0 ≤ 3) ∧ ¬ (n = 0 ∧ (bs.getD k2 0 : Int) = a.is))) : takeOne bs x a = (Sp.zr, 0, 4) := by
  unfold takeOne
  rw [h]
  simp only
  rw [h2]
  simp only
  rw [if_neg (by simp), if_neg (by simp), if_neg he, if_neg hc]
theorem one_ok {bs : List Nat} {x : Int} {a : Sp} {n k n2 k2 : Nat} (h : Leb.take bs x = (n, k, 0)) (h2 : Leb.take bs (k : Int) = (n2, k2, 0)) (he : k2 ≠ bs.length)
    (hc : a.to + 1 + n + n2 ≤ 1099511627776 ∧ (1 ≤ bs.getD k2 0 ∧ bs.getD k2 0 ≤ 3) ∧ ¬ (n = 0 ∧ (bs.getD k2 0 : Int) = a.is)) : takeOne bs x a = (⟨a.to + 1 + n, a.to + 1 + n + n2, (bs.getD k2 0 : Int)⟩, (k2 : Int) + 1, 0) := by
  unfold takeOne
  rw [h]
  simp only
  rw [h2]
  simp only
  rw [if_neg (by simp), if_neg (by simp), if_neg he, if_pos hc]
def toldOne (r : Sp × Int × Int) : Ending := .returned (.tuple #[.agg #[.int .i64 r.1.fr, .int .i64 r.1.to, .int .i64 r.1.is], .int .i64 r.2.1, .int .i64 r.2.2])
theorem results_one {w : World} {tmps : Array Value} {g : Nat} {v0 v1 v2 n f : Value} (h4 : tmps[6]?.getD undef = .pointer (some ⟨g, 0, none⟩)) (h5 : tmps[7]?.getD undef = n) (h6 : tmps[8]?.getD undef = f)
    (k : Bk w g #[v0, v1, v2] 105) : (results Tryd.f72 tmps).run Tryd.prog w = .ok (.tuple #[.agg #[v0, v1, v2], n, f]) w := by
  have k0 : w.cell? ⟨g, 0, none⟩ = some v0 := k.cell 0 rfl
  have k1 : w.cell? ⟨g, 1, none⟩ = some v1 := k.cell 1 rfl
  have k2 : w.cell? ⟨g, 2, none⟩ = some v2 := k.cell 2 rfl
  simp [results, Tryd.results72, go_sem, h4, h5, h6, k0, k1, k2]
theorem rd_byte {w : World} {a : Option Addr} {len : Nat} {bs : List Nat} (h : Rd w a len bs) {i : Nat} (hi : i < len) : ∃ b off, a = some ⟨b, off, none⟩ ∧ b < w.heap.size ∧ w.cell? ⟨b, off + i, none⟩ = some (.int .u8 ((bs.getD i 0 : Nat) : Int)) := by
  rcases h.cells with h0 | ⟨b, off, ha, hb, hc⟩
  · omega
  · exact ⟨b, off, ha, hb, hc i hi⟩

set_option maxRecDepth 100000 in
set_option maxHeartbeats 1000000 in
theorem span_takeSpan (a : Option Addr) (len cap : Nat) (bs : List Nat) (x pf pt pi : Int) (w : World) (hr : Rd w a len bs) (hl : len ≤ 9223372036854775000) (hx : (-9223372036854775808 : Int) ≤ x ∧ x ≤ 9223372036854775807) (h0 : 0 ≤ pt) (h1 : pt ≤ 1099511627776) :
    Calls Tryd.prog 72 #[.slice a len cap, .int .i64 x, .agg #[.int .i64 pf, .int .i64 pt, .int .i64 pi]] w fun e w' => e = toldOne (takeOne bs x ⟨pf, pt, pi⟩) ∧ Below w.heap.size w w' := by
  have HR : Hid (Rd w a len bs) := hr
  have HX : Hid ((-9223372036854775808 : Int) ≤ x ∧ x ≤ 9223372036854775807) := hx
  obtain ⟨W0, HW0⟩ : ∃ W0, Hid (W0 = (w.alloc (.cells #[.int .i64 pf, .int .i64 pt, .int .i64 pi] 105)).alloc (.cells #[.int .i64 0, .int .i64 0, .int .i64 0] 105)) := ⟨_, rfl⟩
  have HB0 : Hid (Below w.heap.size w W0) := by show Below _ _ _; rw [HW0.out]; exact (below_new w _).alloc (by simp) _
  have HK0 : Hid (Bk W0 w.heap.size #[.int .i64 pf, .int .i64 pt, .int .i64 pi] 105) := by show Bk _ _ _ _; rw [HW0.out]; exact (Bk.new w _ _).stay (below_new _ _)
  have HZ0 : Hid (Bk W0 (w.heap.size + 1) #[.int .i64 0, .int .i64 0, .int .i64 0] 105) := by show Bk _ _ _ _; rw [HW0.out]; exact Bk.second _ _ _ _
  obtain ⟨n1, k1, e1, HT1⟩ : ∃ n k e, Hid (Leb.take bs x = (n, k, e)) := ⟨_, _, _, rfl⟩
  obtain ⟨R, HRR⟩ : ∃ R, Hid (takeOne bs x ⟨pf, pt, pi⟩ = R) := ⟨_, rfl⟩
  rw [HRR.out]
  clear hr hx
  go_enter Tryd.func72, Tryd.ntmps72
  go_wp2_with fail
  rw [← HW0.out]
  refine (octet_TakeUint a len cap bs x W0 (HR.out.below HB0.out) hl HX.out).mono ?_
  rw [HT1.out, show told (n1, k1, e1) = .returned (.tuple #[.int .u64 (n1 : Int), .int .i64 (k1 : Int), .int .i64 (e1 : Int)]) from rfl]
  rintro e w1 ⟨he, hw1⟩
  subst he
  rw [hw1]
  clear hw1 w1
  have HZ : Hid (Bk W0 (w.heap.size + 1) #[.int .i64 0, .int .i64 0, .int .i64 0] 105) := HZ0
  by_cases he1 : e1 = 0
  · subst he1
    obtain ⟨p1, hp1, hp2, hp3, hp4, hp5, hp6⟩ := Leb.take_once bs x HR.out.byte n1 k1 HT1.out
    have hsz := HR.out.size
    obtain ⟨n2, k2, e2, HT2⟩ : ∃ n k e, Hid (Leb.take bs (k1 : Int) = (n, k, e)) := ⟨_, _, _, rfl⟩
    clear hp1 hp2 hp5 hp6
    go_wp2_with fail
    refine (octet_TakeUint a len cap bs (k1 : Int) W0 (HR.out.below HB0.out) hl ⟨by omega, by omega⟩).mono ?_
    rw [HT2.out, show told (n2, k2, e2) = .returned (.tuple #[.int .u64 (n2 : Int), .int .i64 (k2 : Int), .int .i64 (e2 : Int)]) from rfl]
    rintro e w1 ⟨he, hw1⟩
    subst he
    rw [hw1]
    clear hw1 w1
    by_cases he2 : e2 = 0
    · subst he2
      obtain ⟨p2, hq1, hq2, hq3, hq4, hq5, hq6⟩ := Leb.take_once bs (k1 : Int) HR.out.byte n2 k2 HT2.out
      clear hq1 hq2 hq5 hq6
      by_cases hk2 : k2 = len
      · have hk2' : ((k2 : Int) == (len : Int)) = true := by rw [hk2]; simp
        have HRX : Hid (R = (Sp.zr, 0, 3)) := by show _ = _; rw [← HRR.out, one_3 HT1.out HT2.out (by omega)]
        have z0 : W0.cell? ⟨w.heap.size + 1, 0, none⟩ = some (.int .i64 0) := HZ.out.cell 0 rfl
        have z1 : W0.cell? ⟨w.heap.size + 1, 1, none⟩ = some (.int .i64 0) := HZ.out.cell 1 rfl
        have z2 : W0.cell? ⟨w.heap.size + 1, 2, none⟩ = some (.int .i64 0) := HZ.out.cell 2 rfl
        have f0 := HZ.out.free 0
        have f1 := HZ.out.free 1
        have f2 := HZ.out.free 2
        go_wp2
        refine bodyPost_ret (results_one (by rfl) (by rfl) (by rfl) (((HZ.out.set 0 _).set 1 _).set 2 _)) rfl ?_
        exact ⟨by rw [HRX.out]; rfl, ((HB0.out.setCell (by simp) _).setCell (by simp) _).setCell (by simp) _⟩
      · have hk2' : ((k2 : Int) == (len : Int)) = false := by rw [beq_eq_false_iff_ne]; omega
        have hk2n : ¬ ((k2 : Int) = (len : Int)) := by omega
        have hk2l : (k2 : Int) < (len : Int) := by omega
        obtain ⟨y, HY⟩ : ∃ y, Hid (y = bs.getD k2 0) := ⟨_, rfl⟩
        have hy : y < 256 := by rw [HY.out]; exact getD_lt HR.out.byte k2
        obtain ⟨bb, off, rfl, hbb, hcb⟩ := rd_byte (HR.out.below HB0.out) (i := k2) (by omega)
        rw [← HY.out] at hcb
        have a0 : W0.cell? ⟨w.heap.size, 0, none⟩ = some (.int .i64 pf) := HK0.out.cell 0 rfl
        have a1 : W0.cell? ⟨w.heap.size, 1, none⟩ = some (.int .i64 pt) := HK0.out.cell 1 rfl
        have a2 : W0.cell? ⟨w.heap.size, 2, none⟩ = some (.int .i64 pi) := HK0.out.cell 2 rfl
        go_wp2_with fail
        refine (span_placed pf pt pi n1 n2 W0 h0 h1 hp4 hq4).mono ?_
        rintro e w3 ⟨hpl, hb3⟩
        have HB3 : Hid (Below w.heap.size w w3) := HB0.out.trans (hb3.mono HB0.out.size)
        have HBX : ∀ c, Hid (Below W0.heap.size W0 (w3.alloc (.cells c 105))) := fun c => hb3.alloc hb3.size _
        clear hb3 a0 a1 a2 HZ
        rcases hpl with ⟨hfit, rfl⟩ | ⟨hfit, rfl⟩
        · have HC : ∀ c, (w3.alloc (.cells c 105)).cell? ⟨bb, off + k2, none⟩ = some (.int .u8 (y : Int)) := fun c => ((HBX c).out.cell (p := ⟨bb, off + k2, none⟩) hbb).trans hcb
          have hc1 := HC #[.int .i64 (pt + 1 + n1), .int .i64 (pt + 1 + n1 + n2), .int .i64 0]
          clear HC
          obtain ⟨W4, HW4⟩ : ∃ W4, Hid (W4 = w3.alloc (.cells #[.int .i64 (pt + 1 + n1), .int .i64 (pt + 1 + n1 + n2), .int .i64 (y : Int)] 105)) := ⟨_, rfl⟩
          have HB4 : Hid (Below W0.heap.size W0 W4) := by show Below _ _ _; rw [HW4.out]; exact (HBX _).out
          have HN4 : Hid (Bk W4 w3.heap.size #[.int .i64 (pt + 1 + n1), .int .i64 (pt + 1 + n1 + n2), .int .i64 (y : Int)] 105) := by show Bk _ _ _ _; rw [HW4.out]; exact Bk.new _ _ _
          have HBW4 : Hid (Below w.heap.size w W4) := HB0.out.trans (HB4.out.mono HB0.out.size)
          go_wp2_with fail
          rw [← HW4.out]
          refine (span_isKnown (y : Int) W4).mono ?_
          rintro e w5 ⟨he, hw5⟩
          subst he
          rw [hw5]
          clear hw5 w5
          have HZ : Hid (Bk W4 (w.heap.size + 1) #[.int .i64 0, .int .i64 0, .int .i64 0] 105) := HZ0.out.stay HB4.out
          have HK4 : Hid (Bk W4 w.heap.size #[.int .i64 pf, .int .i64 pt, .int .i64 pi] 105) := HK0.out.stay HB4.out
          cases hkn : knownB (y : Int) with
          | false =>
            have HRX : Hid (R = (Sp.zr, 0, 4)) := by
              show _ = _
              have := (knownB_not _).1 hkn
              rw [← HRR.out, one_bad HT1.out HT2.out (by omega) (by rw [← HY.out]; omega)]
            clear hkn
            have z0 : W4.cell? ⟨w.heap.size + 1, 0, none⟩ = some (.int .i64 0) := HZ.out.cell 0 rfl
            have z1 : W4.cell? ⟨w.heap.size + 1, 1, none⟩ = some (.int .i64 0) := HZ.out.cell 1 rfl
            have z2 : W4.cell? ⟨w.heap.size + 1, 2, none⟩ = some (.int .i64 0) := HZ.out.cell 2 rfl
            have f0 := HZ.out.free 0
            have f1 := HZ.out.free 1
            have f2 := HZ.out.free 2
            go_wp2
            refine bodyPost_ret (results_one (by rfl) (by rfl) (by rfl) (((HZ.out.set 0 _).set 1 _).set 2 _)) rfl ?_
            exact ⟨by rw [HRX.out]; rfl, ((HBW4.out.setCell (by simp) _).setCell (by simp) _).setCell (by simp) _⟩
          | true =>
            have HKN : Hid (1 ≤ y ∧ y ≤ 3) := by have := (knownB_iff _).1 hkn; exact ⟨by omega, by omega⟩
            clear hkn
            have a0 : W4.cell? ⟨w.heap.size, 0, none⟩ = some (.int .i64 pf) := HK4.out.cell 0 rfl
            have a1 : W4.cell? ⟨w.heap.size, 1, none⟩ = some (.int .i64 pt) := HK4.out.cell 1 rfl
            have a2 : W4.cell? ⟨w.heap.size, 2, none⟩ = some (.int .i64 pi) := HK4.out.cell 2 rfl
            have b0 : W4.cell? ⟨w3.heap.size, 0, none⟩ = some (.int .i64 (pt + 1 + n1)) := HN4.out.cell 0 rfl
            have b1 : W4.cell? ⟨w3.heap.size, 1, none⟩ = some (.int .i64 (pt + 1 + n1 + n2)) := HN4.out.cell 1 rfl
            have b2 : W4.cell? ⟨w3.heap.size, 2, none⟩ = some (.int .i64 (y : Int)) := HN4.out.cell 2 rfl
            go_wp2_with fail
            refine (span_goesOn pf pt pi (pt + 1 + n1) (pt + 1 + n1 + n2) (y : Int) (by omega) (by omega) W4).mono ?_
            rintro e w6 ⟨rfl, hb6⟩
            have HB6 : Hid (Below w.heap.size w w6) := HBW4.out.trans (hb6.mono HBW4.out.size)
            have HZ6 : Hid (Bk w6 (w.heap.size + 1) #[.int .i64 0, .int .i64 0, .int .i64 0] 105) := HZ.out.stay hb6
            have HN6 : Hid (Bk w6 w3.heap.size #[.int .i64 (pt + 1 + n1), .int .i64 (pt + 1 + n1 + n2), .int .i64 (y : Int)] 105) := HN4.out.stay hb6
            clear hb6 a0 a1 a2 b0 b1 b2 HZ
            have HZ := HZ6
            clear HZ6
            cases hgo : goesB ⟨pf, pt, pi⟩ ⟨pt + 1 + n1, pt + 1 + n1 + n2, (y : Int)⟩ with
            | true =>
              have HRX : Hid (R = (Sp.zr, 0, 4)) := by
                show _ = _
                have h9 := (goesB_iff _ _).1 hgo
                simp only at h9
                rw [← HRR.out, one_bad HT1.out HT2.out (by omega) (fun hh => hh.2.2 ⟨by omega, by rw [← HY.out]; exact h9.2⟩)]
              clear hgo
              have z0 : w6.cell? ⟨w.heap.size + 1, 0, none⟩ = some (.int .i64 0) := HZ.out.cell 0 rfl
              have z1 : w6.cell? ⟨w.heap.size + 1, 1, none⟩ = some (.int .i64 0) := HZ.out.cell 1 rfl
              have z2 : w6.cell? ⟨w.heap.size + 1, 2, none⟩ = some (.int .i64 0) := HZ.out.cell 2 rfl
              have f0 := HZ.out.free 0
              have f1 := HZ.out.free 1
              have f2 := HZ.out.free 2
              go_wp2
              refine bodyPost_ret (results_one (by rfl) (by rfl) (by rfl) (((HZ.out.set 0 _).set 1 _).set 2 _)) rfl ?_
              exact ⟨by rw [HRX.out]; rfl, ((HB6.out.setCell (by simp) _).setCell (by simp) _).setCell (by simp) _⟩
            | false =>
              have HRX : Hid (R = (⟨pt + 1 + n1, pt + 1 + n1 + n2, (y : Int)⟩, (k2 : Int) + 1, 0)) := by
                show _ = _
                have h9 := (goesB_not _ _).1 hgo
                simp only at h9
                rw [← HRR.out, one_ok HT1.out HT2.out (by omega) ⟨hfit, by rw [← HY.out]; exact HKN.out, fun hh => h9 ⟨by omega, by rw [HY.out]; exact hh.2⟩⟩, ← HY.out]
              clear hgo
              have b0 : w6.cell? ⟨w3.heap.size, 0, none⟩ = some (.int .i64 (pt + 1 + n1)) := HN6.out.cell 0 rfl
              have b1 : w6.cell? ⟨w3.heap.size, 1, none⟩ = some (.int .i64 (pt + 1 + n1 + n2)) := HN6.out.cell 1 rfl
              have b2 : w6.cell? ⟨w3.heap.size, 2, none⟩ = some (.int .i64 (y : Int)) := HN6.out.cell 2 rfl
              have z0 : w6.cell? ⟨w.heap.size + 1, 0, none⟩ = some (.int .i64 0) := HZ.out.cell 0 rfl
              have z1 : w6.cell? ⟨w.heap.size + 1, 1, none⟩ = some (.int .i64 0) := HZ.out.cell 1 rfl
              have z2 : w6.cell? ⟨w.heap.size + 1, 2, none⟩ = some (.int .i64 0) := HZ.out.cell 2 rfl
              have f0 := HZ.out.free 0
              have f1 := HZ.out.free 1
              have f2 := HZ.out.free 2
              go_wp2
              refine bodyPost_ret (results_one (by rfl) (by rfl) (by rfl) (((HZ.out.set 0 _).set 1 _).set 2 _)) rfl ?_
              exact ⟨by rw [HRX.out]; rfl, ((HB6.out.setCell (by simp) _).setCell (by simp) _).setCell (by simp) _⟩
        · have HC : ∀ c, (w3.alloc (.cells c 105)).cell? ⟨bb, off + k2, none⟩ = some (.int .u8 (y : Int)) := fun c => ((HBX c).out.cell (p := ⟨bb, off + k2, none⟩) hbb).trans hcb
          have hc1 := HC #[.int .i64 0, .int .i64 0, .int .i64 0]
          clear HC
          have HRX : Hid (R = (Sp.zr, 0, 4)) := by show _ = _; rw [← HRR.out, one_bad HT1.out HT2.out (by omega) (fun hh => hfit hh.1)]
          obtain ⟨W4, HW4⟩ : ∃ W4, Hid (W4 = w3.alloc (.cells #[.int .i64 0, .int .i64 0, .int .i64 (y : Int)] 105)) := ⟨_, rfl⟩
          have HB4 : Hid (Below W0.heap.size W0 W4) := by show Below _ _ _; rw [HW4.out]; exact (HBX _).out
          have HBW4 : Hid (Below w.heap.size w W4) := HB0.out.trans (HB4.out.mono HB0.out.size)
          have HZ : Hid (Bk W4 (w.heap.size + 1) #[.int .i64 0, .int .i64 0, .int .i64 0] 105) := HZ0.out.stay HB4.out
          have z0 : W4.cell? ⟨w.heap.size + 1, 0, none⟩ = some (.int .i64 0) := HZ.out.cell 0 rfl
          have z1 : W4.cell? ⟨w.heap.size + 1, 1, none⟩ = some (.int .i64 0) := HZ.out.cell 1 rfl
          have z2 : W4.cell? ⟨w.heap.size + 1, 2, none⟩ = some (.int .i64 0) := HZ.out.cell 2 rfl
          have f0 := HZ.out.free 0
          have f1 := HZ.out.free 1
          have f2 := HZ.out.free 2
          rw [HW4.out] at z0 z1 z2 f0 f1 f2
          go_wp2
          rw [← HW4.out]
          refine bodyPost_ret (results_one (by rfl) (by rfl) (by rfl) (((HZ.out.set 0 _).set 1 _).set 2 _)) rfl ?_
          exact ⟨by rw [HRX.out]; rfl, ((HBW4.out.setCell (by simp) _).setCell (by simp) _).setCell (by simp) _⟩
    · have he2' : ((e2 : Int) == 0) = false := by rw [beq_eq_false_iff_ne]; omega
      have he2n : ¬ ((e2 : Int) = 0) := by omega
      have HRX : Hid (R = (Sp.zr, 0, (e2 : Int))) := by show _ = _; rw [← HRR.out, one_2 HT1.out HT2.out he2]
      have z0 : W0.cell? ⟨w.heap.size + 1, 0, none⟩ = some (.int .i64 0) := HZ.out.cell 0 rfl
      have z1 : W0.cell? ⟨w.heap.size + 1, 1, none⟩ = some (.int .i64 0) := HZ.out.cell 1 rfl
      have z2 : W0.cell? ⟨w.heap.size + 1, 2, none⟩ = some (.int .i64 0) := HZ.out.cell 2 rfl
      have f0 := HZ.out.free 0
      have f1 := HZ.out.free 1
      have f2 := HZ.out.free 2
      go_wp2
      refine bodyPost_ret (results_one (by rfl) (by rfl) (by rfl) (((HZ.out.set 0 _).set 1 _).set 2 _)) rfl ?_
      exact ⟨by rw [HRX.out]; rfl, ((HB0.out.setCell (by simp) _).setCell (by simp) _).setCell (by simp) _⟩
  · have he1' : ((e1 : Int) == 0) = false := by rw [beq_eq_false_iff_ne]; omega
    have he1n : ¬ ((e1 : Int) = 0) := by omega
    have HRX : Hid (R = (Sp.zr, 0, (e1 : Int))) := by show _ = _; rw [← HRR.out, one_1 HT1.out he1]
    have z0 : W0.cell? ⟨w.heap.size + 1, 0, none⟩ = some (.int .i64 0) := HZ.out.cell 0 rfl
    have z1 : W0.cell? ⟨w.heap.size + 1, 1, none⟩ = some (.int .i64 0) := HZ.out.cell 1 rfl
    have z2 : W0.cell? ⟨w.heap.size + 1, 2, none⟩ = some (.int .i64 0) := HZ.out.cell 2 rfl
    have f0 := HZ.out.free 0
    have f1 := HZ.out.free 1
    have f2 := HZ.out.free 2
    go_wp2
    refine bodyPost_ret (results_one (by rfl) (by rfl) (by rfl) (((HZ.out.set 0 _).set 1 _).set 2 _)) rfl ?_
    exact ⟨by rw [HRX.out]; rfl, ((HB0.out.setCell (by simp) _).setCell (by simp) _).setCell (by simp) _⟩
end Go.Proofs.YtbloomepdchjhaaDoor
/- span.Take: the map at a place. -/
namespace Go.Proofs.YtbloomepdchjhaaDoor
open Go.RowKit

/-- So many spans, one behind the other: the spans, the place behind them, the error. -/
def takeL (bs : List Nat) : Nat → Int → Sp → List Sp → List Sp × Int × Int
  | 0, x, _, acc => (acc, x, 0)
  | k + 1, x, a, acc => if (takeOne bs x a).2.2 ≠ 0 then ([], 0, (takeOne bs x a).2.2) else takeL bs k (takeOne bs x a).2.1 (takeOne bs x a).1 (acc ++ [(takeOne bs x a).1])
def takeM (bs : List Nat) (x : Int) : List Sp × Int × Int :=
  if (Leb.take bs x).2.2 ≠ 0 then ([], 0, ((Leb.take bs x).2.2 : Int)) else if 256 < (Leb.take bs x).1 then ([], 0, 6) else takeL bs (Leb.take bs x).1 ((Leb.take bs x).2.1 : Int) Sp.zr []
theorem takeM_1 {bs : List Nat} {x : Int} {n k e : Nat} (h : Leb.take bs x = (n, k, e)) (he : e ≠ 0) : takeM bs x = ([], 0, (e : Int)) := by
  unfold takeM
  rw [h, if_pos he]
theorem takeM_2 {bs : List Nat} {x : Int} {n k : Nat} (h : Leb.take bs x = (n, k, 0)) (hn : 256 < n) : takeM bs x = ([], 0, 6) := by
  unfold takeM
  rw [h]
  simp only
  rw [if_neg (by simp), if_pos hn]
theorem takeM_3 {bs : List Nat} {x : Int} {n k : Nat} (h : Leb.take bs x = (n, k, 0)) (hn : ¬ 256 < n) : takeM bs x = takeL bs n (k : Int) Sp.zr [] := by
  unfold takeM
  rw [h]
  simp only
  rw [if_neg (by simp), if_neg hn]
theorem takeL_bad {bs : List Nat} {k : Nat} {x : Int} {a s : Sp} {acc : List Sp} {y e : Int} (h : takeOne bs x a = (s, y, e)) (he : e ≠ 0) : takeL bs (k + 1) x a acc = ([], 0, e) := by
  rw [takeL, h, if_pos he]
theorem takeL_ok {bs : List Nat} {k : Nat} {x : Int} {a s : Sp} {acc : List Sp} {y : Int} (h : takeOne bs x a = (s, y, 0)) : takeL bs (k + 1) x a acc = takeL bs k y s (acc ++ [s]) := by
  rw [takeL, h, if_neg (by simp)]
/-- What a span that is told is. -/
theorem takeOne_fit {bs : List Nat} {x : Int} {a s : Sp} {y : Int} (hb : ∀ z ∈ bs, z < 256) (h : takeOne bs x a = (s, y, 0)) :
    ∃ (p n k n2 k2 : Nat), x = (p : Int) ∧ Leb.take bs x = (n, k, 0) ∧ Leb.take bs (k : Int) = (n2, k2, 0) ∧ k2 < bs.length ∧ y = (k2 : Int) + 1 ∧ s = ⟨a.to + 1 + n, a.to + 1 + n + n2, (bs.getD k2 0 : Int)⟩ ∧
      a.to + 1 + n + n2 ≤ 1099511627776 ∧ (1 ≤ bs.getD k2 0 ∧ bs.getD k2 0 ≤ 3) ∧ ¬ (n = 0 ∧ (bs.getD k2 0 : Int) = a.is) := by
  obtain ⟨n, k, e, h1⟩ : ∃ n k e, Leb.take bs x = (n, k, e) := ⟨_, _, _, rfl⟩
  by_cases he : e = 0
  · subst he
    obtain ⟨n2, k2, e2, h2⟩ : ∃ n k' e, Leb.take bs (k : Int) = (n, k', e) := ⟨_, _, _, rfl⟩
    by_cases he2 : e2 = 0
    · subst he2
      by_cases hk : k2 = bs.length
      · rw [one_3 h1 h2 hk] at h
        simp at h
      · by_cases hc : a.to + 1 + n + n2 ≤ 1099511627776 ∧ (1 ≤ bs.getD k2 0 ∧ bs.getD k2 0 ≤ 3) ∧ ¬ (n = 0 ∧ (bs.getD k2 0 : Int) = a.is)
        · rw [one_ok h1 h2 hk hc] at h
          simp only [Prod.mk.injEq, and_true] at h
          obtain ⟨p, hp, _⟩ := Leb.take_once bs x hb n k h1
          obtain ⟨_, _, _, hl, _⟩ := Leb.take_once bs (k : Int) hb n2 k2 h2
          exact ⟨p, n, k, n2, k2, hp, h1, h2, by omega, h.2.symm, h.1.symm, hc⟩
        · rw [one_bad h1 h2 hk hc] at h
          simp at h
    · rw [one_2 h1 h2 he2] at h
      simp only [Prod.mk.injEq] at h
      omega
  · rw [one_1 h1 he] at h
    simp only [Prod.mk.injEq] at h
    omega
/-- What Take tells. -/
def TakeTold (w : World) (B : Nat) (r : List Sp × Int × Int) (e : Ending) : Prop := ∃ v, e = .returned (.tuple #[v, .int .i64 r.2.1, .int .i64 r.2.2]) ∧ Sps w B v r.1

set_option maxRecDepth 100000 in
set_option maxHeartbeats 2000000 in
theorem span_Take (a : Option Addr) (len cap : Nat) (bs : List Nat) (x : Int) (w : World) (hr : Rd w a len bs) (hl : len ≤ 9223372036854775000) (hx : (-9223372036854775808 : Int) ≤ x ∧ x ≤ 9223372036854775807) :
    Calls Tryd.prog 70 #[.slice a len cap, .int .i64 x] w fun e w' => Hid (TakeTold w' w.heap.size (takeM bs x) e) ∧ Below w.heap.size w w' := by
  have HR : Hid (Rd w a len bs) := hr
  have HX : Hid ((-9223372036854775808 : Int) ≤ x ∧ x ≤ 9223372036854775807) := hx
  obtain ⟨n1, k1, e1, HT1⟩ : ∃ n k e, Hid (Leb.take bs x = (n, k, e)) := ⟨_, _, _, rfl⟩
  obtain ⟨R, HRR⟩ : ∃ R, Hid (takeM bs x = R) := ⟨_, rfl⟩
  rw [HRR.out]
  clear hr hx
  go_enter Tryd.func70, Tryd.ntmps70
  go_wp2_with fail
  refine (octet_TakeUint a len cap bs x w HR.out hl HX.out).mono ?_
  rw [HT1.out, show told (n1, k1, e1) = .returned (.tuple #[.int .u64 (n1 : Int), .int .i64 (k1 : Int), .int .i64 (e1 : Int)]) from rfl]
  rintro e w1 ⟨he, hw1⟩
  subst he
  rw [hw1]
  clear hw1 w1
  by_cases he1 : e1 = 0
  · subst he1
    obtain ⟨p1, hp1, hp2, hp3, hp4, hp5, hp6⟩ := Leb.take_once bs x HR.out.byte n1 k1 HT1.out
    have hsz := HR.out.size
    clear hp1 hp2 hp5 hp6
    by_cases h256 : 256 < n1
    · have h256' : (256 : Int) < (n1 : Int) := by omega
      have HRX : Hid (R = ([], 0, 6)) := by show _ = _; rw [← HRR.out, takeM_2 HT1.out h256]
      go_wp2
      go_returns
      exact ⟨⟨_, by rw [HRX.out]; rfl, by rw [HRX.out]; exact Sps.nil_ _ _⟩, Below.refl _ _⟩
    · have h256' : ¬ (256 : Int) < (n1 : Int) := by omega
      have HRX : Hid (R = takeL bs n1 (k1 : Int) Sp.zr []) := by show _ = _; rw [← HRR.out, takeM_3 HT1.out h256]
      go_wp2
      go_loopw [8, 9, 10, 25] (fun t8 t9 t10 t25 wr => ∃ (k : Nat) (y : Int) (p : Sp) (av : Option Addr) (nv cv : Nat) (out : List Sp), k ≤ n1 ∧ t25 = .int .u64 (k : Int) ∧ t8 = .int .i64 y ∧ t9 = .int .i64 0 ∧ t10 = .slice av nv cv ∧ Hid (R = takeL bs (n1 - k) y p out) ∧ Hid (0 ≤ p.to ∧ p.to ≤ 1099511627776) ∧ Hid (0 ≤ y ∧ y ≤ (bs.length : Int)) ∧ Hid (out.length = k) ∧ Hid (Bk wr w.heap.size p.cells 105) ∧ Hid (Sps wr (w.heap.size + 1) (.slice av nv cv) out) ∧ Hid (Below w.heap.size w wr)) (fun _ _ _ t25 _ => n1 - (intOf t25).toNat)
      case atStart => exact ⟨0, (k1 : Int), Sp.zr, none, 0, 0, [], by omega, rfl, rfl, rfl, rfl, HRX, ⟨by decide, by decide⟩, ⟨by omega, by omega⟩, rfl, Bk.new _ _ _, Sps.nil_ _ _, below_new _ _⟩
      case round =>
        obtain ⟨k, y, p, av, nv, cv, out, hk, rfl, rfl, rfl, rfl, HE, HP, HY, HO, HK, HV, HB⟩ := hrel
        by_cases hlt : k < n1
        · have hlt' : (k : Int) < (n1 : Int) := by omega
          obtain ⟨pf, pt, pi⟩ := p
          have a0 : wr.cell? ⟨w.heap.size, 0, none⟩ = some (.int .i64 pf) := HK.out.cell 0 rfl
          have a1 : wr.cell? ⟨w.heap.size, 1, none⟩ = some (.int .i64 pt) := HK.out.cell 1 rfl
          have a2 : wr.cell? ⟨w.heap.size, 2, none⟩ = some (.int .i64 pi) := HK.out.cell 2 rfl
          obtain ⟨s, y2, e2, HS⟩ : ∃ s yy ee, Hid (takeOne bs y ⟨pf, pt, pi⟩ = (s, yy, ee)) := ⟨_, _, _, rfl⟩
          have hyr := HY.out
          have hpr := HP.out
          simp only at hpr
          go_wp2_with fail
          refine (span_takeSpan a len cap bs y pf pt pi wr (HR.out.below HB.out) hl ⟨by omega, by omega⟩ hpr.1 hpr.2).mono ?_
          rw [HS.out, show toldOne (s, y2, e2) = .returned (.tuple #[.agg #[.int .i64 s.fr, .int .i64 s.to, .int .i64 s.is], .int .i64 y2, .int .i64 e2]) from rfl]
          rintro e w3 ⟨rfl, hb3⟩
          have HB3 : Hid (Below w.heap.size w w3) := HB.out.trans (hb3.mono HB.out.size)
          have HK3 : Hid (Bk w3 w.heap.size #[.int .i64 pf, .int .i64 pt, .int .i64 pi] 105) := HK.out.stay hb3
          have HV3 : Hid (Sps w3 (w.heap.size + 1) (.slice av nv cv) out) := HV.out.below hb3
          clear hb3 a0 a1 a2 HK HV
          obtain ⟨sf, st, si⟩ := s
          simp only
          have b0 : w3.cell? ⟨w.heap.size, 0, none⟩ = some (.int .i64 pf) := HK3.out.cell 0 rfl
          have b1 : w3.cell? ⟨w.heap.size, 1, none⟩ = some (.int .i64 pt) := HK3.out.cell 1 rfl
          have b2 : w3.cell? ⟨w.heap.size, 2, none⟩ = some (.int .i64 pi) := HK3.out.cell 2 rfl
          have f0 := HK3.out.free 0
          have f1 := HK3.out.free 1
          have f2 := HK3.out.free 2
          obtain ⟨W4, HW4⟩ : ∃ W4, Hid (W4 = ((w3.setCell ⟨w.heap.size, 0, none⟩ (.int .i64 sf)).setCell ⟨w.heap.size, 1, none⟩ (.int .i64 st)).setCell ⟨w.heap.size, 2, none⟩ (.int .i64 si)) := ⟨_, rfl⟩
          have HB4 : Hid (Below w.heap.size w W4) := by show Below _ _ _; rw [HW4.out]; exact ((HB3.out.setCell (by simp) _).setCell (by simp) _).setCell (by simp) _
          have HK4 : Hid (Bk W4 w.heap.size #[.int .i64 sf, .int .i64 st, .int .i64 si] 105) := by show Bk _ _ _ _; rw [HW4.out]; exact ((HK3.out.set 0 _).set 1 _).set 2 _
          have HV4 : Hid (Sps W4 (w.heap.size + 1) (.slice av nv cv) out) := by show Sps _ _ _ _; rw [HW4.out]; exact ((HV3.out.under _ _ (by simp)).under _ _ (by simp)).under _ _ (by simp)
          have hnk : n1 - k = (n1 - (k + 1)) + 1 := by omega
          by_cases he2 : e2 = 0
          · subst he2
            obtain ⟨_, n5, k5, n6, k6, _, _, _, hk6, hy2, hs5, hfit, _, _⟩ := takeOne_fit HR.out.byte HS.out
            simp only [Sp.mk.injEq] at hs5
            simp only at hfit
            have HP2 : Hid (0 ≤ st ∧ st ≤ 1099511627776) := ⟨by omega, by omega⟩
            have HY2 : Hid (0 ≤ y2 ∧ y2 ≤ (bs.length : Int)) := ⟨by omega, by omega⟩
            have HE2 : Hid (R = takeL bs (n1 - (k + 1)) y2 ⟨sf, st, si⟩ (out ++ [⟨sf, st, si⟩])) := by show _ = _; rw [HE.out, hnk, takeL_ok HS.out]
            have HO2 : Hid ((out ++ [(⟨sf, st, si⟩ : Sp)]).length = k + 1) := by show _ = _; rw [List.length_append, HO.out]; rfl
            clear hk6 hy2 hs5 hfit hnk HE
            have HSZ4 : Hid (W4.heap.size = w3.heap.size) := by show _ = _; rw [HW4.out]; simp [World.setCell]
            have HT5 : Hid (∀ j u, (Sp.cells ⟨sf, st, si⟩).toList[j]? = some u → (W4.alloc (.cells #[.int .i64 sf, .int .i64 st, .int .i64 si] 105)).cell? ((⟨w3.heap.size, 0, none⟩ : Addr).add j) = some u) := by rw [← HSZ4.out]; exact Sp.told (Bk.new W4 _ _)
            have HV5 : Hid (Sps (W4.alloc (.cells #[.int .i64 sf, .int .i64 st, .int .i64 si] 105)) (w.heap.size + 1) (.slice av nv cv) out) := HV4.out.below (below_new _ _)
            have HS5 : Hid (w.heap.size + 1 ≤ (W4.alloc (.cells #[.int .i64 sf, .int .i64 st, .int .i64 si] 105)).heap.size) := by
              show _ ≤ _
              have := HB4.out.size
              simp
              omega
            have HL5 : Hid (out.length ≤ 3000000000000) := by show _ ≤ _; rw [HO.out]; omega
            have HB5 : Hid (Below w.heap.size w (W4.alloc (.cells #[.int .i64 sf, .int .i64 st, .int .i64 si] 105))) := HB4.out.alloc HB4.out.size _
            have HK5 : Hid (Bk (W4.alloc (.cells #[.int .i64 sf, .int .i64 st, .int .i64 si] 105)) w.heap.size #[.int .i64 sf, .int .i64 st, .int .i64 si] 105) := HK4.out.stay (below_new _ _)
            have hW4 := HW4.out
            have d0 : W4.cell? ⟨w.heap.size, 0, none⟩ = some (.int .i64 sf) := HK4.out.cell 0 rfl
            have d1 : W4.cell? ⟨w.heap.size, 1, none⟩ = some (.int .i64 st) := HK4.out.cell 1 rfl
            have d2 : W4.cell? ⟨w.heap.size, 2, none⟩ = some (.int .i64 si) := HK4.out.cell 2 rfl
            rw [hW4] at HT5 HV5 HS5
            clear hW4 d0 d1 d2
            go_wp2_with (at_builtin; refine wpList_append_sp rfl (.tmp 38) (.tmp 40) rfl (w.heap.size + 1) (.slice av nv cv) out rfl HV5.out ⟨w3.heap.size, 0, none⟩ 1 ⟨sf, st, si⟩ rfl HT5.out HL5.out HS5.out ?_)
            intro v' w6 ho hg
            rw [← HW4.out] at hg
            have HO6 : Hid (Sps w6 (w.heap.size + 1) v' (out ++ [⟨sf, st, si⟩])) := ho
            have HK6 : Hid (Bk w6 w.heap.size #[.int .i64 sf, .int .i64 st, .int .i64 si] 105) := HK5.out.grown hg (fun e => by have := HV4.out.at_ e.symm; omega)
            have HB6 : Hid (Below w.heap.size w w6) := HB5.out.trans ⟨hg.os, hg.tape, hg.output, hg.size, fun k' hk' => hg.block k' (Nat.lt_of_lt_of_le hk' HB5.out.size) fun e => by have := HV4.out.at_ e.symm; omega⟩
            obtain ⟨av', cv', rfl, _⟩ := HO6.out.form
            rw [HO2.out] at HO6 ⊢
            clear ho hg HT5 HV5 HS5 HL5 HB5 HK5
            go_wp2
            go_roundw
            case rel => exact ⟨k + 1, y2, ⟨sf, st, si⟩, av', _, cv', _, by omega, by go_num, rfl, rfl, rfl, HE2, HP2, HY2, HO2, HK6, HO6, HB6⟩
            case measure => simp [intOf]; omega
          · have he2' : (e2 == 0) = false := by rw [beq_eq_false_iff_ne]; exact he2
            have HRX2 : Hid (R = ([], 0, e2)) := by show _ = _; rw [HE.out, hnk, takeL_bad HS.out he2]
            clear HE hnk
            go_wp2
            rw [← HW4.out]
            go_returns
            exact ⟨⟨_, by rw [HRX2.out]; rfl, by rw [HRX2.out]; exact Sps.nil_ _ _⟩, HB4.out⟩
        · have hnl : ¬ (k : Int) < (n1 : Int) := by omega
          have HX2 : Hid (R = (out, y, 0)) := by show _ = _; rw [HE.out, show n1 - k = 0 from by omega, takeL]
          clear HE
          go_wp2
          go_returns
          exact ⟨⟨_, by rw [HX2.out]; rfl, by rw [HX2.out]; exact HV.out.lower (by omega)⟩, HB.out⟩
  · have he1' : ((e1 : Int) == 0) = false := by rw [beq_eq_false_iff_ne]; omega
    have he1n : ¬ ((e1 : Int) = 0) := by omega
    have HRX : Hid (R = ([], 0, (e1 : Int))) := by show _ = _; rw [← HRR.out, takeM_1 HT1.out he1]
    go_wp2
    go_returns
    exact ⟨⟨_, by rw [HRX.out]; rfl, by rw [HRX.out]; exact Sps.nil_ _ _⟩, Below.refl _ _⟩
end Go.Proofs.YtbloomepdchjhaaDoor
