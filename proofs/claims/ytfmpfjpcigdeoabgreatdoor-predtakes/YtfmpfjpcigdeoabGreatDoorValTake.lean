/- value.Take: the value at a place, for every bytes and place. -/
import Derived.Test.YtfmpfjpcigdeoabGreatDoorInts
import Derived.Test.YtfmpfjpcigdeoabGreatDoorTexts
import Derived.Test.YtfmpfjpcigdeoabGreatDoorFlt
import Derived.Laws.Cover3
import Derived.Handy
namespace Go.Proofs.YtfmpfjpcigdeoabGreatDoor
set_option maxRecDepth 100000
open Go.RowKit

/-- A value in memory: its five cells. -/
structure Val where
  kind : Int
  whole : Int
  words : ByteArray
  truth : Bool
  re : Nat
  im : Nat
def Val.cells (v : Val) : Array Value := #[.int .i64 v.kind, .int .i64 v.whole, .string v.words, .bool v.truth, .complex .f64 v.re v.im]
def Val.zero : Val := ⟨0, 0, ⟨#[]⟩, false, 0, 0⟩

/-- A point's part at a place. -/
def partAt (bs : List Nat) (x : Int) : Int × Nat × Nat :=
  match Leb.take bs x with
  | (n, k, 0) => if unfold n < -1048576 ∨ 1048576 < unfold n then (0, 0, 6) else (unfold n, k, 0)
  | (_, _, f) => (0, 0, f)
theorem partAt_err {bs : List Nat} {x : Int} {n k f : Nat} (h : Leb.take bs x = (n, k, f)) (hf : f ≠ 0) : partAt bs x = (0, 0, f) := by
  unfold partAt
  rw [h]
  cases f with
  | zero => exact absurd rfl hf
  | succ f => rfl
theorem partAt_limit {bs : List Nat} {x : Int} {n k : Nat} (h : Leb.take bs x = (n, k, 0)) (hn : unfold n < -1048576 ∨ 1048576 < unfold n) : partAt bs x = (0, 0, 6) := by
  unfold partAt
  rw [h]
  exact if_pos hn
theorem partAt_ok {bs : List Nat} {x : Int} {n k : Nat} (h : Leb.take bs x = (n, k, 0)) (hn : ¬ (unfold n < -1048576 ∨ 1048576 < unfold n)) : partAt bs x = (unfold n, k, 0) := by
  unfold partAt
  rw [h]
  exact if_neg hn
def toldPart (r : Int × Nat × Nat) : Ending := .returned (.tuple #[.float .f64 (floatOfInt .f64 r.1), .int .i64 (r.2.1 : Int), .int .i64 (r.2.2 : Int)])

theorem toldI_ok (n k : Nat) : toldI (n, k, 0) = .returned (.tuple #[.int .i64 (unfold n), .int .i64 (k : Int), .int .i64 0]) := rfl
theorem toldI_err (n k f : Nat) (h : f ≠ 0) : toldI (n, k, f) = .returned (.tuple #[.int .i64 0, .int .i64 (k : Int), .int .i64 (f : Int)]) := by
  unfold toldI
  rw [if_neg h]

theorem value_takePart (a : Option Addr) (len cap : Nat) (bs : List Nat) (x : Int) (w : World) (hr : Rd w a len bs) (hl : len ≤ 9223372036854775000) (hx : (-9223372036854775808 : Int) ≤ x ∧ x ≤ 9223372036854775807) :
    Calls Tryz.prog 150 #[.slice a len cap, .int .i64 x] w fun e w' => e = toldPart (partAt bs x) ∧ w' = w := by
  have HR : Hid (Rd w a len bs) := hr
  have HX : Hid ((-9223372036854775808 : Int) ≤ x ∧ x ≤ 9223372036854775807) := hx
  have hsm := take_small bs x hr.byte
  obtain ⟨n, k, f, hT⟩ : ∃ n k f, Leb.take bs x = (n, k, f) := ⟨_, _, _, rfl⟩
  rw [hT] at hsm
  have HT : Hid (Leb.take bs x = (n, k, f)) := hT
  clear hr hx hT
  go_enter Tryz.func150, Tryz.ntmps150
  go_wp2_with fail
  refine (octet_TakeInt a len cap bs x w HR.out hl HX.out).mono ?_
  rw [HT.out]
  by_cases hf : f = 0
  · subst hf
    rw [toldI_ok]
    rintro e w1 ⟨rfl, rfl⟩
    by_cases h1 : unfold n < -1048576
    · have HP : Hid (partAt bs x = (0, 0, 6)) := partAt_limit HT.out (.inl h1)
      go_wp2
      go_ret3
      exact ⟨by rw [HP.out]; rfl, rfl⟩
    · by_cases h2 : 1048576 < unfold n
      · have HP : Hid (partAt bs x = (0, 0, 6)) := partAt_limit HT.out (.inr h2)
        go_wp2
        go_ret3
        exact ⟨by rw [HP.out]; rfl, rfl⟩
      · have HP : Hid (partAt bs x = (unfold n, k, 0)) := partAt_ok HT.out (by omega)
        go_wp2
        go_ret3
        exact ⟨by rw [HP.out]; rfl, rfl⟩
  · rw [toldI_err n k f hf]
    rintro e w1 ⟨rfl, rfl⟩
    have hf' : (f : Int) ≠ 0 := by omega
    have HP : Hid (partAt bs x = (0, 0, f)) := partAt_err HT.out hf
    go_wp2
    go_ret3
    exact ⟨by rw [HP.out]; rfl, rfl⟩

theorem partAt_place {bs : List Nat} {x : Int} {n : Int} {k : Nat} (hb : ∀ y ∈ bs, y < 256) (h : partAt bs x = (n, k, 0)) : k ≤ bs.length ∧ -1048576 ≤ n ∧ n ≤ 1048576 := by
  rcases hT : Leb.take bs x with ⟨m, j, f⟩
  by_cases hf : f = 0
  · subst hf
    by_cases hn : unfold m < -1048576 ∨ 1048576 < unfold m
    · rw [partAt_limit hT hn] at h; simp at h
    · rw [partAt_ok hT hn] at h
      obtain ⟨p, _, _, h3, _⟩ := Leb.take_once bs x hb m j hT
      simp only [Prod.mk.injEq] at h
      obtain ⟨rfl, rfl, _⟩ := h
      exact ⟨h3, by omega, by omega⟩
  · rw [partAt_err hT hf] at h
    simp only [Prod.mk.injEq] at h
    exact absurd h.2.2 hf
theorem partAt_bad {bs : List Nat} {x : Int} {n : Int} {k f : Nat} (h : partAt bs x = (n, k, f)) (hf : f ≠ 0) : n = 0 ∧ k = 0 := by
  rcases hT : Leb.take bs x with ⟨m, j, g⟩
  by_cases hg : g = 0
  · subst hg
    by_cases hn : unfold m < -1048576 ∨ 1048576 < unfold m
    · rw [partAt_limit hT hn] at h; simp only [Prod.mk.injEq] at h; exact ⟨h.1.symm, h.2.1.symm⟩
    · rw [partAt_ok hT hn] at h
      simp only [Prod.mk.injEq] at h
      exact absurd h.2.2.symm hf
  · rw [partAt_err hT hg] at h
    simp only [Prod.mk.injEq] at h
    exact ⟨h.1.symm, h.2.1.symm⟩

/-- The two parts of a point at a place. -/
def pointAt (bs : List Nat) (x : Int) : Int × Int × Nat × Nat :=
  match partAt bs x with
  | (n, k, 0) => match partAt bs (k : Int) with
    | (m, j, 0) => (n, m, j, 0)
    | (_, _, f) => (0, 0, 0, f)
  | (_, _, f) => (0, 0, 0, f)
theorem pointAt_err1 {bs : List Nat} {x : Int} {n : Int} {k f : Nat} (h : partAt bs x = (n, k, f)) (hf : f ≠ 0) : pointAt bs x = (0, 0, 0, f) := by
  unfold pointAt
  rw [h]
  cases f with
  | zero => exact absurd rfl hf
  | succ f => rfl
theorem pointAt_err2 {bs : List Nat} {x : Int} {n m : Int} {k j f : Nat} (h : partAt bs x = (n, k, 0)) (h2 : partAt bs (k : Int) = (m, j, f)) (hf : f ≠ 0) : pointAt bs x = (0, 0, 0, f) := by
  unfold pointAt
  rw [h]
  simp only [h2]
theorem pointAt_ok {bs : List Nat} {x : Int} {n m : Int} {k j : Nat} (h : partAt bs x = (n, k, 0)) (h2 : partAt bs (k : Int) = (m, j, 0)) : pointAt bs x = (n, m, j, 0) := by
  unfold pointAt
  rw [h]
  simp only [h2]
def toldPoint (r : Int × Int × Nat × Nat) : Ending := .returned (.tuple #[.complex .f64 (floatOfInt .f64 r.1) (floatOfInt .f64 r.2.1), .int .i64 (r.2.2.1 : Int), .int .i64 (r.2.2.2 : Int)])

theorem value_takePoint (a : Option Addr) (len cap : Nat) (bs : List Nat) (x : Int) (w : World) (hr : Rd w a len bs) (hl : len ≤ 9223372036854775000) (hx : (-9223372036854775808 : Int) ≤ x ∧ x ≤ 9223372036854775807) :
    Calls Tryz.prog 132 #[.slice a len cap, .int .i64 x] w fun e w' => e = toldPoint (pointAt bs x) ∧ w' = w := by
  have HR : Hid (Rd w a len bs) := hr
  have HX : Hid ((-9223372036854775808 : Int) ≤ x ∧ x ≤ 9223372036854775807) := hx
  obtain ⟨n, k, f, hT⟩ : ∃ n k f, partAt bs x = (n, k, f) := ⟨_, _, _, rfl⟩
  have HT : Hid (partAt bs x = (n, k, f)) := hT
  clear hr hx hT
  by_cases hf : f = 0
  · subst hf
    obtain ⟨hk, _, _⟩ := partAt_place HR.out.byte HT.out
    rw [HR.out.size] at hk
    obtain ⟨m, j, g, hS⟩ : ∃ m j g, partAt bs (k : Int) = (m, j, g) := ⟨_, _, _, rfl⟩
    have HS : Hid (partAt bs (k : Int) = (m, j, g)) := hS
    clear hS
    obtain ⟨N, HN⟩ : ∃ N, Hid (floatOfInt .f64 n = N) := ⟨_, rfl⟩
    obtain ⟨M, HM⟩ : ∃ M, Hid (floatOfInt .f64 m = M) := ⟨_, rfl⟩
    go_enter Tryz.func132, Tryz.ntmps132
    go_wp2_with fail
    refine (value_takePart a len cap bs x w HR.out hl HX.out).mono ?_
    rw [HT.out, toldPart, HN.out]
    rintro e w1 ⟨rfl, rfl⟩
    go_wp2_with fail
    refine (value_takePart a len cap bs (k : Int) _ HR.out hl (by omega)).mono ?_
    rw [HS.out, toldPart, HM.out]
    rintro e w2 ⟨rfl, rfl⟩
    by_cases hg : g = 0
    · subst hg
      have HP : Hid (pointAt bs x = (n, m, j, 0)) := pointAt_ok HT.out HS.out
      go_wp2
      go_ret3
      exact ⟨by rw [HP.out, toldPoint, HN.out, HM.out]; rfl, rfl⟩
    · have hg' : (g : Int) ≠ 0 := by omega
      have HP : Hid (pointAt bs x = (0, 0, 0, g)) := pointAt_err2 HT.out HS.out hg
      go_wp2
      go_ret3
      exact ⟨by rw [HP.out]; rfl, rfl⟩
  · have hf' : (f : Int) ≠ 0 := by omega
    have HP : Hid (pointAt bs x = (0, 0, 0, f)) := pointAt_err1 HT.out hf
    obtain ⟨N, HN⟩ : ∃ N, Hid (floatOfInt .f64 n = N) := ⟨_, rfl⟩
    go_enter Tryz.func132, Tryz.ntmps132
    go_wp2_with fail
    refine (value_takePart a len cap bs x w HR.out hl HX.out).mono ?_
    rw [HT.out, toldPart, HN.out]
    rintro e w1 ⟨rfl, rfl⟩
    go_wp2
    go_ret3
    exact ⟨by rw [HP.out]; rfl, rfl⟩

/-- A truth at a place. -/
def truthAt (bs : List Nat) (p : Nat) : Bool × Nat × Nat :=
  if p = bs.length then (false, 0, 3) else if 1 < bs.getD p 0 then (false, 0, 4) else (decide (bs.getD p 0 = 1), p + 1, 0)
def toldTruth (r : Bool × Nat × Nat) : Ending := .returned (.tuple #[.bool r.1, .int .i64 (r.2.1 : Int), .int .i64 (r.2.2 : Int)])

theorem value_takeTruth (a : Option Addr) (len cap : Nat) (bs : List Nat) (p : Nat) (w : World) (hr : Rd w a len bs) (hl : len ≤ 9223372036854775000) (hp : p ≤ len) :
    Calls Tryz.prog 131 #[.slice a len cap, .int .i64 (p : Int)] w fun e w' => e = toldTruth (truthAt bs p) ∧ w' = w := by
  have hsz := hr.size
  by_cases h0 : p = len
  · have HP : Hid (truthAt bs p = (false, 0, 3)) := by show _ = _; unfold truthAt; rw [if_pos (by omega)]
    subst h0
    clear hr
    go_enter Tryz.func131, Tryz.ntmps131
    go_wp2
    go_ret3
    exact ⟨by rw [HP.out]; rfl, rfl⟩
  · have e0 : ((p : Int) == (len : Int)) = false := by rw [beq_eq_false_iff_ne]; omega
    have hlt : (p : Int) < (len : Int) := by omega
    obtain ⟨b, off, rfl, hc⟩ := rd_at hr p (by omega)
    have hb := getD_lt hr.byte p
    have HTR : Hid (truthAt bs p = if 1 < bs.getD p 0 then (false, 0, 4) else (decide (bs.getD p 0 = 1), p + 1, 0)) := by show _ = _; unfold truthAt; rw [if_neg (by omega)]
    generalize bs.getD p 0 = c at *
    clear hr
    by_cases h1 : 1 < c
    · have h1' : (1 : Int) < (c : Int) := by omega
      go_enter Tryz.func131, Tryz.ntmps131
      go_wp2
      go_ret3
      exact ⟨by rw [HTR.out, if_pos h1]; rfl, rfl⟩
    · have h1' : ¬ (1 : Int) < (c : Int) := by omega
      by_cases h2 : c = 1
      · subst h2
        go_enter Tryz.func131, Tryz.ntmps131
        go_wp2
        go_ret3
        exact ⟨by rw [HTR.out, if_neg h1]; rfl, rfl⟩
      · obtain rfl : c = 0 := by omega
        go_enter Tryz.func131, Tryz.ntmps131
        go_wp2
        go_ret3
        exact ⟨by rw [HTR.out, if_neg h1]; rfl, rfl⟩
end Go.Proofs.YtfmpfjpcigdeoabGreatDoor
