/- Cells: what lasts, whatever is put in other cells. Plain mathematics. -/
import Derived.Test.YthpjaidgacenoabMkLastM
namespace Go.Proofs.Ythpjaidgacenoab

/-- A sector is as it was, and nothing waits for it. -/
structure Still (D : Dk) (q N : Nat) (s : List Nat) : Prop where
  sure : D.sure.getD q [] = s
  far : ∀ p ∈ D.waits, p.1 ≠ q
  len : D.sure.length = N
theorem sync_far : ∀ (W : List (Nat × List Nat)) (S : List (List Nat)) (q : Nat), (∀ p ∈ W, p.1 ≠ q) → (syncL S W).getD q [] = S.getD q []
  | [], _, _, _ => rfl
  | p :: W, S, q, h => by
    rw [syncL, sync_far W _ q (fun r hr => h r (by simp [hr])), List.getD_eq_getElem?_getD, List.getElem?_set, if_neg (h p (by simp)), List.getD_eq_getElem?_getD]
theorem Still.trips {D : Dk} {q N : Nat} {s : List Nat} (h : Still D q N s) : Still (tripsD D) q N s := ⟨by rw [trips_sure]; exact h.sure, by rw [trips_waits]; exact h.far, by rw [trips_sure]; exact h.len⟩
theorem Still.write {D : Dk} {q N : Nat} {s : List Nat} (h : Still D q N s) {i : Int} (hi : i ≠ (q : Int)) (bs : List Nat) : Still (writeD D i bs) q N s := by
  unfold writeD
  split
  · exact h
  split
  · exact h
  rename_i hh
  split
  · exact h
  split
  · exact h.trips
  · refine ⟨h.trips.sure, fun p hp => ?_, h.trips.len⟩
    rcases List.mem_append.1 hp with hp | hp
    · exact h.far p hp
    · simp only [List.mem_singleton] at hp
      subst hp
      have hb : hasB D i = true := by simpa using hh
      have := (hasB_iff D i).1 hb
      show i.toNat ≠ q
      omega
theorem Still.sync {D : Dk} {q N : Nat} {s : List Nat} (h : Still D q N s) : Still (syncD D) q N s := by
  unfold syncD
  split
  · exact h
  split
  · exact h.trips
  · refine ⟨?_, fun p hp => (by cases hp), ?_⟩
    · show (syncL D.sure D.waits).getD q [] = s
      rw [sync_far _ _ _ h.far]
      exact h.sure
    · show (syncL D.sure D.waits).length = N
      rw [syncL_len]
      exact h.len
theorem Still.trip {D : Dk} {q N : Nat} {s : List Nat} (h : Still D q N s) (n : Int) : Still (tripD D n) q N s := by
  unfold tripD
  split
  · exact h
  split
  · exact h
  · exact ⟨h.sure, h.far, h.len⟩
theorem crash_len : ∀ (W : List (Nat × List Nat)) (S : List (List Nat)) (F : List Int), (crashL S W F).length = S.length
  | [], _, _ => rfl
  | _ :: _, _, [] => rfl
  | p :: W, S, f :: F => by rw [crashL, crash_len W, List.length_set]
theorem Still.crash {D : Dk} {q N : Nat} {s : List Nat} (h : Still D q N s) (F : List Int) : Still (crashD D F) q N s := by
  refine ⟨?_, fun p hp => (by cases hp), ?_⟩
  · show (crashL D.sure D.waits F).getD q [] = s
    rw [crash_far _ _ _ _ h.far]
    exact h.sure
  · show (crashL D.sure D.waits F).length = N
    rw [crash_len]
    exact h.len
theorem Still.repl {D : Dk} {q N : Nat} {s : List Nat} (h : Still D q N s) {p : Int} (hp : p ≠ (q : Int)) (n v : Int) : Still (replD D p n v) q N s := by
  unfold replD
  split
  · split
    · exact (h.write hp _).sync
    · exact h.write hp _
  · exact h
theorem Still.put {D : Dk} {q N : Nat} {s : List Nat} (h : Still D q N s) (b m : Nat) (i v : Int) (hq : (0 ≤ i ∧ i < (m : Int)) → ∀ x : Int, 0 ≤ x → x ≤ 1 → (b : Int) + 2 * (i.toNat : Int) + (1 - x) ≠ (q : Int)) : Still (putCD D b m i v) q N s := by
  unfold putCD
  split
  · exact h
  split
  · rename_i hc
    split
    · exact h
    · obtain ⟨⟨x0, x1⟩, _⟩ := stand_range D b i.toNat
      exact h.repl (hq hc.1 _ x0 x1) _ _
  · exact h
/-- Behind a Put that is OK. -/
theorem put_up (D : Dk) (b m : Nat) (i v : Int) (h : putCE D b m i v = 0) : (putCD D b m i v).waits = [] ∧ (putCD D b m i v).down = false := by
  unfold putCE at h
  by_cases hd : D.down = true
  · rw [if_pos hd] at h; cases h
  rw [if_neg hd] at h
  by_cases hc : (0 ≤ i ∧ i < (m : Int)) ∧ 0 ≤ v ∧ v ≤ 1099511627776
  · rw [if_pos hc] at h
    by_cases hn : (standB D b i.toNat).2.1 = 4611686018427387904
    · rw [if_pos hn] at h; cases h
    rw [if_neg hn] at h
    have e : putCD D b m i v = replD D ((b : Int) + 2 * (i.toNat : Int) + (1 - (standB D b i.toNat).1)) ((standB D b i.toNat).2.1 + 1) v := by unfold putCD; rw [if_neg hd, if_pos hc, if_neg hn]
    obtain ⟨_, r1, _, r3⟩ := repl_ok D _ _ _ h
    obtain ⟨s0, s1, s2⟩ := sync_ok _ r3
    rw [e, r1, s2]
    exact ⟨rfl, trips_down _ s1 s0⟩
  · rw [if_neg hc] at h; cases h
/-- A cell both of whose sectors are as they were behind a Put that was OK tells its value behind a crash. -/
theorem get_stays (D E : Dk) (b m : Nat) (i v : Int) (F : List Int) (h : putCE D b m i v = 0)
    (h0 : Still E (b + 2 * i.toNat) (putCD D b m i v).sure.length ((putCD D b m i v).sure.getD (b + 2 * i.toNat) []))
    (h1 : Still E (b + 2 * i.toNat + 1) (putCD D b m i v).sure.length ((putCD D b m i v).sure.getD (b + 2 * i.toNat + 1) [])) : getB (crashD E F) b m i = (v, true) := by
  have hg : getB (putCD D b m i v) b m i = (v, true) := by rw [(get_put D b m i v h).2 i, if_pos rfl]
  rw [← hg]
  obtain ⟨w1, w2⟩ := put_up D b m i v h
  refine get_same _ _ b m i fun _ => ?_
  have c0 := h0.crash F
  have c1 := h1.crash F
  have e : ∀ (q : Nat), Still (crashD E F) q (putCD D b m i v).sure.length ((putCD D b m i v).sure.getD q []) → lookB (crashD E F) (q : Int) = lookB (putCD D b m i v) (q : Int) := fun q hq => by
    have hh : hasB (crashD E F) (q : Int) = hasB (putCD D b m i v) (q : Int) := by unfold hasB; rw [hq.len]
    cases hx : hasB (putCD D b m i v) (q : Int) with
    | true => rw [look_sure (crashD E F) rfl rfl q (by rw [hh]; exact hx), look_sure _ w2 w1 q hx, Int.toNat_natCast, hq.sure]
    | false =>
      have r1 : readE (crashD E F) (q : Int) = 2 := by
        unfold readE
        rw [hh, hx, if_neg (by show ¬ false = true; decide), if_neg (by decide)]
      have r2 : readE (putCD D b m i v) (q : Int) = 2 := by
        unfold readE
        rw [w2, hx, if_neg (by decide), if_neg (by decide)]
      unfold lookB
      rw [r1, r2, if_neg (by decide), if_neg (by decide)]
  have a0 := e _ c0
  have a1 := e _ c1
  have e0 : ((b + 2 * i.toNat : Nat) : Int) = (b : Int) + 2 * (i.toNat : Int) + 0 := by omega
  have e1 : ((b + 2 * i.toNat + 1 : Nat) : Int) = (b : Int) + 2 * (i.toNat : Int) + 1 := by omega
  rw [e0] at a0
  rw [e1] at a1
  exact ⟨a0, a1⟩
end Go.Proofs.Ythpjaidgacenoab
