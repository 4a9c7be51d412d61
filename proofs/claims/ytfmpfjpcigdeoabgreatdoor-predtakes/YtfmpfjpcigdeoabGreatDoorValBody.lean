/- value.takeBody and value.Take. -/
import Derived.Test.YtfmpfjpcigdeoabGreatDoorValTake
namespace Go.Proofs.YtfmpfjpcigdeoabGreatDoor
set_option maxRecDepth 100000
open Go.RowKit

set_option maxRecDepth 100000 in
set_option maxHeartbeats 1000000 in
theorem value_body1 (a : Option Addr) (len cap : Nat) (bs : List Nat) (x : Int) (w : World) (hr : Rd w a len bs) (hl : len ≤ 9223372036854775000) (hx : (-9223372036854775808 : Int) ≤ x ∧ x ≤ 9223372036854775807) (n : Int) (k f : Nat) (ht : toldI (Leb.take bs x) = .returned (.tuple #[.int .i64 n, .int .i64 (k : Int), .int .i64 (f : Int)])) :
    Calls Tryz.prog 109 #[.int .i64 1, .slice a len cap, .int .i64 x] w fun e w' => e = .returned (.tuple #[.agg (Val.cells ⟨1, n, ⟨#[]⟩, false, 0, 0⟩), .int .i64 (k : Int), .int .i64 (f : Int)]) ∧ Below w.heap.size w w' := by
  have HR : Hid (Rd w a len bs) := hr
  have HX : Hid ((-9223372036854775808 : Int) ≤ x ∧ x ≤ 9223372036854775807) := hx
  have HT : Hid (toldI (Leb.take bs x) = .returned (.tuple #[.int .i64 n, .int .i64 (k : Int), .int .i64 (f : Int)])) := ht
  clear hr hx ht
  have hcx : ∀ (a : Addr) (m : Mode) (W : World) (x y : Nat), (store a (.complex .f64 x y) m).run Tryz.prog W = stored Tryz.prog W a (.complex .f64 x y) m := fun a m W x y => run_store _ _ _ _ _ rfl
  go_enter Tryz.func109, Tryz.ntmps109
  go_wp2_with fail
  refine (octet_TakeInt a len cap bs x _ (HR.out.below ((below_alloc w _).alloc (by simp) _)) hl HX.out).mono ?_
  rw [HT.out]
  rintro e w1 ⟨rfl, rfl⟩
  go_wp2
  go_returns
  exact ⟨rfl, (below_alloc w _).alloc (by simp) _⟩

set_option maxRecDepth 100000 in
set_option maxHeartbeats 1000000 in
theorem value_body2 (a : Option Addr) (len cap : Nat) (bs : List Nat) (x : Int) (w : World) (hr : Rd w a len bs) (hl : len ≤ 9223372036854775000) (hx : (-9223372036854775808 : Int) ≤ x ∧ x ≤ 9223372036854775807) (s : ByteArray) (hlc : len ≤ cap) (k f : Nat) (ht : toldT (textAt bs x) = .returned (.tuple #[.string s, .int .i64 (k : Int), .int .i64 (f : Int)])) :
    Calls Tryz.prog 109 #[.int .i64 2, .slice a len cap, .int .i64 x] w fun e w' => e = .returned (.tuple #[.agg (Val.cells ⟨2, 0, s, false, 0, 0⟩), .int .i64 (k : Int), .int .i64 (f : Int)]) ∧ Below w.heap.size w w' := by
  have HR : Hid (Rd w a len bs) := hr
  have HX : Hid ((-9223372036854775808 : Int) ≤ x ∧ x ≤ 9223372036854775807) := hx
  have HT : Hid (toldT (textAt bs x) = .returned (.tuple #[.string s, .int .i64 (k : Int), .int .i64 (f : Int)])) := ht
  clear hr hx ht
  have hcx : ∀ (a : Addr) (m : Mode) (W : World) (x y : Nat), (store a (.complex .f64 x y) m).run Tryz.prog W = stored Tryz.prog W a (.complex .f64 x y) m := fun a m W x y => run_store _ _ _ _ _ rfl
  go_enter Tryz.func109, Tryz.ntmps109
  go_wp2_with fail
  refine (octet_TakeText a len cap bs x _ (HR.out.below ((below_alloc w _).alloc (by simp) _)) hlc hl HX.out).mono ?_
  rw [HT.out]
  rintro e w1 ⟨rfl, rfl⟩
  go_wp2
  go_returns
  exact ⟨rfl, (below_alloc w _).alloc (by simp) _⟩

set_option maxRecDepth 100000 in
set_option maxHeartbeats 1000000 in
theorem value_body3 (a : Option Addr) (len cap : Nat) (bs : List Nat) (p : Nat) (w : World) (hr : Rd w a len bs) (hl : len ≤ 9223372036854775000) (hx : p ≤ len) (t : Bool) (k f : Nat) (ht : toldTruth (truthAt bs p) = .returned (.tuple #[.bool t, .int .i64 (k : Int), .int .i64 (f : Int)])) :
    Calls Tryz.prog 109 #[.int .i64 3, .slice a len cap, .int .i64 (p : Int)] w fun e w' => e = .returned (.tuple #[.agg (Val.cells ⟨3, 0, ⟨#[]⟩, t, 0, 0⟩), .int .i64 (k : Int), .int .i64 (f : Int)]) ∧ Below w.heap.size w w' := by
  have HR : Hid (Rd w a len bs) := hr
  have HX : Hid (p ≤ len) := hx
  have HT : Hid (toldTruth (truthAt bs p) = .returned (.tuple #[.bool t, .int .i64 (k : Int), .int .i64 (f : Int)])) := ht
  clear hr hx ht
  have hcx : ∀ (a : Addr) (m : Mode) (W : World) (x y : Nat), (store a (.complex .f64 x y) m).run Tryz.prog W = stored Tryz.prog W a (.complex .f64 x y) m := fun a m W x y => run_store _ _ _ _ _ rfl
  go_enter Tryz.func109, Tryz.ntmps109
  go_wp2_with fail
  refine (value_takeTruth a len cap bs p _ (HR.out.below ((below_alloc w _).alloc (by simp) _)) hl HX.out).mono ?_
  rw [HT.out]
  rintro e w1 ⟨rfl, rfl⟩
  go_wp2
  go_returns
  exact ⟨rfl, (below_alloc w _).alloc (by simp) _⟩

set_option maxRecDepth 100000 in
set_option maxHeartbeats 1000000 in
theorem value_body4 (a : Option Addr) (len cap : Nat) (bs : List Nat) (x : Int) (w : World) (hr : Rd w a len bs) (hl : len ≤ 9223372036854775000) (hx : (-9223372036854775808 : Int) ≤ x ∧ x ≤ 9223372036854775807) (n m : Nat) (k f : Nat) (ht : toldPoint (pointAt bs x) = .returned (.tuple #[.complex .f64 n m, .int .i64 (k : Int), .int .i64 (f : Int)])) :
    Calls Tryz.prog 109 #[.int .i64 4, .slice a len cap, .int .i64 x] w fun e w' => e = .returned (.tuple #[.agg (Val.cells ⟨4, 0, ⟨#[]⟩, false, n, m⟩), .int .i64 (k : Int), .int .i64 (f : Int)]) ∧ Below w.heap.size w w' := by
  have HR : Hid (Rd w a len bs) := hr
  have HX : Hid ((-9223372036854775808 : Int) ≤ x ∧ x ≤ 9223372036854775807) := hx
  have HT : Hid (toldPoint (pointAt bs x) = .returned (.tuple #[.complex .f64 n m, .int .i64 (k : Int), .int .i64 (f : Int)])) := ht
  clear hr hx ht
  have hcx : ∀ (a : Addr) (m : Mode) (W : World) (x y : Nat), (store a (.complex .f64 x y) m).run Tryz.prog W = stored Tryz.prog W a (.complex .f64 x y) m := fun a m W x y => run_store _ _ _ _ _ rfl
  go_enter Tryz.func109, Tryz.ntmps109
  go_wp2_with fail
  refine (value_takePoint a len cap bs x _ (HR.out.below ((below_alloc w _).alloc (by simp) _)) hl HX.out).mono ?_
  rw [HT.out]
  rintro e w1 ⟨rfl, rfl⟩
  go_wp2
  go_returns
  exact ⟨rfl, (below_alloc w _).alloc (by simp) _⟩

set_option maxRecDepth 100000 in
set_option maxHeartbeats 1000000 in
theorem value_body0 (c : Nat) (hc : c < 1 ∨ 4 < c) (a : Option Addr) (len cap : Nat) (x : Int) (w : World) :
    Calls Tryz.prog 109 #[.int .i64 (c : Int), .slice a len cap, .int .i64 x] w fun e w' => e = .returned (.tuple #[.agg (Val.cells ⟨c, 0, ⟨#[]⟩, false, 0, 0⟩), .int .i64 x, .int .i64 12]) ∧ Below w.heap.size w w' := by
  have hcx : ∀ (a : Addr) (m : Mode) (W : World) (x y : Nat), (store a (.complex .f64 x y) m).run Tryz.prog W = stored Tryz.prog W a (.complex .f64 x y) m := fun a m W x y => run_store _ _ _ _ _ rfl
  have e1 : ((c : Int) == 1) = false := by rw [beq_eq_false_iff_ne]; omega
  have e2 : ((c : Int) == 2) = false := by rw [beq_eq_false_iff_ne]; omega
  have e3 : ((c : Int) == 3) = false := by rw [beq_eq_false_iff_ne]; omega
  have e4 : ((c : Int) == 4) = false := by rw [beq_eq_false_iff_ne]; omega
  go_enter Tryz.func109, Tryz.ntmps109
  go_wp2
  go_returns
  exact ⟨rfl, (below_alloc w _).alloc (by simp) _⟩

/-- What stands behind a kind's byte. -/
def bodyAt (c : Nat) (bs : List Nat) (p : Nat) : Val × Nat × Nat :=
  if c = 1 then (match Leb.take bs (p : Int) with
    | (n, k, 0) => (⟨1, unfold n, ⟨#[]⟩, false, 0, 0⟩, k, 0)
    | (_, _, f) => (Val.zero, 0, f))
  else if c = 2 then (match textAt bs (p : Int) with
    | (l, k, 0) => (⟨2, 0, str l, false, 0, 0⟩, k, 0)
    | (_, _, f) => (Val.zero, 0, f))
  else if c = 3 then (match truthAt bs p with
    | (t, k, 0) => (⟨3, 0, ⟨#[]⟩, t, 0, 0⟩, k, 0)
    | (_, _, f) => (Val.zero, 0, f))
  else if c = 4 then (match pointAt bs (p : Int) with
    | (n, m, k, 0) => (⟨4, 0, ⟨#[]⟩, false, floatOfInt .f64 n, floatOfInt .f64 m⟩, k, 0)
    | (_, _, _, f) => (Val.zero, 0, f))
  else (Val.zero, 0, 12)

/-- The value at a place, the place behind it, the error. -/
def valAt (bs : List Nat) (x : Int) : Val × Nat × Nat :=
  if x < 0 ∨ (bs.length : Int) < x then (Val.zero, 0, 2) else if x = (bs.length : Int) then (Val.zero, 0, 3) else bodyAt (bs.getD x.toNat 0) bs (x.toNat + 1)
def toldV (r : Val × Nat × Nat) : Ending := .returned (.tuple #[.agg r.1.cells, .int .i64 (r.2.1 : Int), .int .i64 (r.2.2 : Int)])

/-- What value.takeBody tells: where there is an error, the rest may be anything. -/
def BodyTold (r : Val × Nat × Nat) (e : Ending) : Prop :=
  ∃ (v : Val) (k : Int) (f : Nat), e = .returned (.tuple #[.agg v.cells, .int .i64 k, .int .i64 (f : Int)]) ∧ ((f = 0 ∧ ∃ j : Nat, k = (j : Int) ∧ r = (v, j, 0)) ∨ (f ≠ 0 ∧ r = (Val.zero, 0, f)))

theorem value_takeBody (c : Nat) (a : Option Addr) (len cap : Nat) (bs : List Nat) (p : Nat) (w : World) (hr : Rd w a len bs) (hlc : len ≤ cap) (hl : len ≤ 9223372036854775000) (hp : p ≤ len) :
    Calls Tryz.prog 109 #[.int .i64 (c : Int), .slice a len cap, .int .i64 (p : Int)] w fun e w' => BodyTold (bodyAt c bs p) e ∧ Below w.heap.size w w' := by
  have hx : (-9223372036854775808 : Int) ≤ (p : Int) ∧ (p : Int) ≤ 9223372036854775807 := by omega
  by_cases h1 : c = 1
  · subst h1
    rcases hT : Leb.take bs (p : Int) with ⟨n, k, f⟩
    by_cases hf : f = 0
    · subst hf
      refine (value_body1 a len cap bs (p : Int) w hr hl hx (unfold n) k 0 (by rw [hT]; rfl)).mono ?_
      rintro e w' ⟨rfl, hb⟩
      exact ⟨⟨_, _, 0, rfl, .inl ⟨rfl, k, rfl, by unfold bodyAt; rw [hT]; rfl⟩⟩, hb⟩
    · refine (value_body1 a len cap bs (p : Int) w hr hl hx 0 k f (by rw [hT, toldI_err n k f hf])).mono ?_
      rintro e w' ⟨rfl, hb⟩
      exact ⟨⟨_, _, f, rfl, .inr ⟨hf, by unfold bodyAt; rw [hT]; cases f with | zero => exact absurd rfl hf | succ f => rfl⟩⟩, hb⟩
  by_cases h2 : c = 2
  · subst h2
    rcases hT : textAt bs (p : Int) with ⟨l, k, f⟩
    refine (value_body2 a len cap bs (p : Int) w hr hl hx (str l) hlc k f (by rw [hT]; rfl)).mono ?_
    rintro e w' ⟨rfl, hb⟩
    by_cases hf : f = 0
    · subst hf
      exact ⟨⟨_, _, 0, rfl, .inl ⟨rfl, k, rfl, by unfold bodyAt; rw [hT]; rfl⟩⟩, hb⟩
    · exact ⟨⟨_, _, f, rfl, .inr ⟨hf, by unfold bodyAt; rw [hT]; cases f with | zero => exact absurd rfl hf | succ f => rfl⟩⟩, hb⟩
  by_cases h3 : c = 3
  · subst h3
    rcases hT : truthAt bs p with ⟨t, k, f⟩
    refine (value_body3 a len cap bs p w hr hl hp t k f (by rw [hT]; rfl)).mono ?_
    rintro e w' ⟨rfl, hb⟩
    by_cases hf : f = 0
    · subst hf
      exact ⟨⟨_, _, 0, rfl, .inl ⟨rfl, k, rfl, by unfold bodyAt; rw [hT]; rfl⟩⟩, hb⟩
    · exact ⟨⟨_, _, f, rfl, .inr ⟨hf, by unfold bodyAt; rw [hT]; cases f with | zero => exact absurd rfl hf | succ f => rfl⟩⟩, hb⟩
  by_cases h4 : c = 4
  · subst h4
    rcases hT : pointAt bs (p : Int) with ⟨n, m, k, f⟩
    refine (value_body4 a len cap bs (p : Int) w hr hl hx (floatOfInt .f64 n) (floatOfInt .f64 m) k f (by rw [hT]; rfl)).mono ?_
    rintro e w' ⟨rfl, hb⟩
    by_cases hf : f = 0
    · subst hf
      exact ⟨⟨_, _, 0, rfl, .inl ⟨rfl, k, rfl, by unfold bodyAt; rw [hT]; rfl⟩⟩, hb⟩
    · exact ⟨⟨_, _, f, rfl, .inr ⟨hf, by unfold bodyAt; rw [hT]; cases f with | zero => exact absurd rfl hf | succ f => rfl⟩⟩, hb⟩
  · refine (value_body0 c (by omega) a len cap (p : Int) w).mono ?_
    rintro e w' ⟨rfl, hb⟩
    exact ⟨⟨_, _, 12, rfl, .inr ⟨by decide, by unfold bodyAt; rw [if_neg h1, if_neg h2, if_neg h3, if_neg h4]⟩⟩, hb⟩

end Go.Proofs.YtfmpfjpcigdeoabGreatDoor
