/- How a disk stands behind so many writes and syncs that count. -/
import Derived.Test.YtfkephohdfmnlaaSecDeed
namespace Go.Proofs.Ytfkephohdfmnlaa
open Go.ChangeShapes Go.WideShapes Go.ChangeAt Go.RowKit
namespace sectorTrips

/-- How a disk stands behind so many writes and syncs that count. -/
structure Inv (N d : Nat) (D : Dk) : Prop where
  four : D.sure.length = 4
  age : D.age = 0
  st : (N = 0 ∧ D.trip = 0 ∧ D.down = false) ∨ (0 < N ∧ d < N ∧ D.trip = N - d ∧ D.down = false) ∨ (0 < N ∧ N ≤ d ∧ D.down = true)
def overB (N d : Nat) : Bool := decide (0 < N ∧ N ≤ d)
theorem Inv.down {N d : Nat} {D : Dk} (h : Inv N d D) : D.down = overB N d := by
  unfold overB
  rcases h.st with ⟨h1, _, h3⟩ | ⟨h1, h2, _, h3⟩ | ⟨h1, h2, h3⟩
  · rw [h3, decide_eq_false (by omega)]
  · rw [h3, decide_eq_false (by omega)]
  · rw [h3, decide_eq_true ⟨h1, h2⟩]
/-- One that counts. -/
theorem Inv.trips {N d : Nat} {D : Dk} (h : Inv N d D) (hd : D.down = false) : tripsB D = overB N (d + 1) ∧ Inv N (d + 1) (tripsD D) := by
  unfold tripsB tripsD overB
  rcases h.st with ⟨h1, h2, h3⟩ | ⟨h1, h2, h4, h3⟩ | ⟨_, _, h3⟩
  · rw [decide_eq_false (by omega), decide_eq_false (by omega), if_pos h2]
    exact ⟨rfl, h.four, h.age, .inl ⟨h1, h2, h3⟩⟩
  · rw [if_neg (by omega)]
    by_cases h1' : D.trip = 1
    · rw [decide_eq_true h1', decide_eq_true (by omega)]
      exact ⟨rfl, h.four, h.age, .inr (.inr ⟨h1, by omega, rfl⟩)⟩
    · rw [decide_eq_false h1', decide_eq_false (by omega)]
      exact ⟨rfl, h.four, h.age, .inr (.inl ⟨h1, by omega, by show D.trip - 1 = _; omega, rfl⟩)⟩
  · rw [h3] at hd; cases hd
theorem Inv.same {N d : Nat} {D D' : Dk} (h : Inv N d D) (h1 : D'.sure.length = D.sure.length) (h2 : D'.age = D.age) (h3 : D'.trip = D.trip) (h4 : D'.down = D.down) : Inv N d D' := ⟨by rw [h1]; exact h.four, by rw [h2]; exact h.age, by rw [h3, h4]; exact h.st⟩
theorem Inv.later {N d : Nat} {D : Dk} (h : Inv N d D) (hd : D.down = true) : Inv N (d + 1) D ∧ overB N (d + 1) = true := by
  rcases h.st with ⟨_, _, h3⟩ | ⟨_, _, _, h3⟩ | ⟨h1, h2, h3⟩
  · rw [h3] at hd; cases hd
  · rw [h3] at hd; cases hd
  · exact ⟨⟨h.four, h.age, .inr (.inr ⟨h1, by omega, h3⟩)⟩, by unfold overB; exact decide_eq_true ⟨h1, by omega⟩⟩
def countsB (i : Int) (bs : List Nat) : Bool := decide ((0 ≤ i ∧ i < 4) ∧ bs.length ≤ 64)
theorem sync_len : ∀ (W : List (Nat × List Nat)) (S : List (List Nat)), (syncL S W).length = S.length
  | [], _ => rfl
  | _ :: W, S => by rw [syncL, sync_len W, List.length_set]
/-- A write of a script. -/
theorem Inv.write {N d : Nat} {D : Dk} (h : Inv N d D) (i : Int) (bs : List Nat) :
    (countsB i bs = true → Inv N (d + 1) (writeD D i bs) ∧ (writeE D i bs = 10 ↔ overB N (d + 1) = true)) ∧ (countsB i bs = false → Inv N d (writeD D i bs)) ∧ (writeD D i bs).waits.length ≤ D.waits.length + 1 := by
  have hh : hasB D i = decide (0 ≤ i ∧ i < 4) := by unfold hasB; rw [h.four]; rfl
  cases hd : D.down with
  | true =>
    have e1 : writeE D i bs = 10 := by unfold writeE; rw [if_pos hd]
    have e2 : writeD D i bs = D := by unfold writeD; rw [if_pos hd]
    rw [e1, e2]
    exact ⟨fun _ => ⟨(h.later hd).1, by simp [(h.later hd).2]⟩, fun _ => h, by omega⟩
  | false =>
    by_cases hi : 0 ≤ i ∧ i < 4
    · rw [decide_eq_true hi] at hh
      by_cases hl : 64 < bs.length
      · have e2 : writeD D i bs = D := by unfold writeD; rw [if_neg (by rw [hd]; decide), if_neg (by rw [hh]; decide), if_pos hl]
        rw [e2]
        exact ⟨fun hc => by unfold countsB at hc; have := of_decide_eq_true hc; omega, fun _ => h, by omega⟩
      · obtain ⟨t1, t2⟩ := h.trips hd
        have hc : countsB i bs = true := by unfold countsB; exact decide_eq_true ⟨hi, by omega⟩
        rw [hc]
        cases ht : tripsB D with
        | true =>
          have e1 : writeE D i bs = 10 := by unfold writeE; rw [if_neg (by rw [hd]; decide), if_neg (by rw [hh]; decide), if_neg hl, if_pos ht]
          have e2 : writeD D i bs = tripsD D := by unfold writeD; rw [if_neg (by rw [hd]; decide), if_neg (by rw [hh]; decide), if_neg hl, if_pos ht]
          rw [e1, e2, trips_waits]
          exact ⟨fun _ => ⟨t2, by rw [← t1, ht]; simp⟩, (fun h => by cases h), by omega⟩
        | false =>
          have e1 : writeE D i bs = 0 := by unfold writeE; rw [if_neg (by rw [hd]; decide), if_neg (by rw [hh]; decide), if_neg hl, ht, if_neg (by decide)]
          have e2 : writeD D i bs = { tripsD D with waits := D.waits ++ [(i.toNat, padS bs)] } := by unfold writeD; rw [if_neg (by rw [hd]; decide), if_neg (by rw [hh]; decide), if_neg hl, ht, if_neg (by decide)]
          rw [e1, e2]
          exact ⟨fun _ => ⟨t2.same rfl rfl rfl rfl, by rw [← t1, ht]; simp⟩, (fun h => by cases h), by simp⟩
    · rw [decide_eq_false hi] at hh
      have e2 : writeD D i bs = D := by unfold writeD; rw [if_neg (by rw [hd]; decide), if_pos hh]
      rw [e2]
      exact ⟨fun hc => by unfold countsB at hc; have := of_decide_eq_true hc; exact absurd this.1 hi, fun _ => h, by omega⟩
theorem Inv.sync {N d : Nat} {D : Dk} (h : Inv N d D) : Inv N (d + 1) (syncD D) ∧ (syncE D = 10 ↔ overB N (d + 1) = true) ∧ (syncD D).waits.length ≤ D.waits.length + 1 := by
  cases hd : D.down with
  | true =>
    have e1 : syncE D = 10 := by unfold syncE; rw [if_pos hd]
    have e2 : syncD D = D := by unfold syncD; rw [if_pos hd]
    rw [e1, e2]
    exact ⟨(h.later hd).1, by simp [(h.later hd).2], by omega⟩
  | false =>
    obtain ⟨t1, t2⟩ := h.trips hd
    cases ht : tripsB D with
    | true =>
      have e1 : syncE D = 10 := by unfold syncE; rw [if_neg (by rw [hd]; decide), if_pos ht]
      have e2 : syncD D = tripsD D := by unfold syncD; rw [if_neg (by rw [hd]; decide), if_pos ht]
      rw [e1, e2, trips_waits]
      exact ⟨t2, by rw [← t1, ht]; simp, by omega⟩
    | false =>
      have e1 : syncE D = 0 := by unfold syncE; rw [if_neg (by rw [hd]; decide), ht, if_neg (by decide)]
      have e2 : syncD D = { tripsD D with sure := syncL D.sure D.waits, waits := [] } := by unfold syncD; rw [if_neg (by rw [hd]; decide), ht, if_neg (by decide)]
      rw [e1, e2]
      exact ⟨t2.same (by show (syncL D.sure D.waits).length = _; rw [sync_len, trips_sure]) rfl rfl rfl, by rw [← t1, ht]; simp, by simp⟩
theorem start_inv (N : Nat) (hN : N ≤ 255) : tripE (newD 4) (N : Int) = 0 ∧ Inv N 0 (tripD (newD 4) (N : Int)) ∧ (tripD (newD 4) (N : Int)).waits = [] := by
  have e : tripD (newD 4) (N : Int) = { newD 4 with trip := N } := by unfold tripD; rw [if_neg (by decide), if_neg (by omega), Int.toNat_natCast]
  rw [e]
  refine ⟨by unfold tripE; rw [if_neg (by decide), if_neg (by omega)], ⟨rfl, rfl, ?_⟩, rfl⟩
  by_cases h : N = 0
  · exact .inl ⟨h, h, rfl⟩
  · exact .inr (.inl ⟨by omega, by omega, by show N = N - 0; omega, rfl⟩)
theorem end_inv (D : Dk) (F : List Int) : (crashD D F).down = false ∧ syncE (crashD D F) = 0 := ⟨rfl, rfl⟩
end sectorTrips
end Go.Proofs.Ytfkephohdfmnlaa
