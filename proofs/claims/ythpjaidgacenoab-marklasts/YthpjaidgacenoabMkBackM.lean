/- Cells: what is told behind a Put. Plain mathematics. -/
import Derived.Test.YthpjaidgacenoabMk6
namespace Go.Proofs.Ythpjaidgacenoab

theorem take_lay1 (x : Nat) (n v : Int) (hn : (-9223372036854775808 : Int) ≤ n ∧ n ≤ 9223372036854775807) : (KeyM.take (layB x n v) 1).1 = n := by
  have h := KeyM.take_key n hn [x] (KeyM.key (KeyM.up v) ++ (List.replicate 46 0 ++ [x]))
  have e : layB x n v = [x] ++ KeyM.key (KeyM.up n) ++ (KeyM.key (KeyM.up v) ++ (List.replicate 46 0 ++ [x])) := by unfold layB; simp
  rw [e]
  exact congrArg (fun r => r.1) h
theorem take_lay9 (x : Nat) (n v : Int) (hv : (-9223372036854775808 : Int) ≤ v ∧ v ≤ 9223372036854775807) : (KeyM.take (layB x n v) 9).1 = v := by
  have h := KeyM.take_key v hv (x :: KeyM.key (KeyM.up n)) (List.replicate 46 0 ++ [x])
  have e : layB x n v = (x :: KeyM.key (KeyM.up n)) ++ KeyM.key (KeyM.up v) ++ (List.replicate 46 0 ++ [x]) := by unfold layB; simp
  rw [e]
  exact congrArg (fun r => r.1) h
/-- A whole sector tells what was laid. -/
theorem read_lay (x : Nat) (n v : Int) (hn : 1 ≤ n ∧ n ≤ 4611686018427387904) (hv : 0 ≤ v ∧ v ≤ 1099511627776) : readB (layB x n v) = (n, v) := by
  unfold readB
  rw [take_lay1 x n v (by omega), take_lay9 x n v (by omega), if_pos]
  exact ⟨hn, hv, rfl⟩
theorem sync_snoc : ∀ (W : List (Nat × List Nat)) (S : List (List Nat)) (p : Nat × List Nat), syncL S (W ++ [p]) = (syncL S W).set p.1 p.2
  | [], _, _ => rfl
  | q :: W, S, p => by rw [List.cons_append, syncL, syncL, sync_snoc W]
theorem syncL_len : ∀ (W : List (Nat × List Nat)) (S : List (List Nat)), (syncL S W).length = S.length
  | [], _ => rfl
  | _ :: W, S => by rw [syncL, syncL_len W, List.length_set]
/-- What there is of a sector is what is sure behind a sync. -/
theorem now_sync (D : Dk) (q : Nat) (hq : q < D.sure.length) : ∀ k, k ≤ D.waits.length → nowS D q k = (syncL D.sure (D.waits.take k)).getD q []
  | 0, _ => by rw [List.take_zero, syncL, nowS]
  | k + 1, hk => by
    have ih := now_sync D q hq k (by omega)
    have hk' : k < D.waits.length := by omega
    have hl : q < (syncL D.sure (D.waits.take k)).length := by rw [syncL_len]; exact hq
    rw [nowS, List.take_add_one, List.getElem?_eq_getElem hk', Option.toList_some, sync_snoc]
    have e : D.waits.getD k (0, []) = D.waits[k] := by rw [List.getD_eq_getElem?_getD, List.getElem?_eq_getElem hk']; rfl
    rw [e, List.getD_eq_getElem?_getD, List.getElem?_set]
    by_cases h : (D.waits[k]).1 = q
    · rw [if_pos h, if_pos h, if_pos (by rw [h]; exact hl)]
      rfl
    · rw [if_neg h, if_neg h, ih, List.getD_eq_getElem?_getD]
theorem nowB_sync (D : Dk) (q : Nat) (hq : q < D.sure.length) : nowB D q = (syncL D.sure D.waits).getD q [] := by
  have := now_sync D q hq D.waits.length (Nat.le_refl _)
  rw [List.take_length] at this
  exact this
/-- A sector that is laid anew, and lasts. -/
theorem repl_ok (D : Dk) (p n v : Int) (h : replE D p n v = 0) : readE D p = 0 ∧ replD D p n v = syncD (writeD D p (layB (nextB (nowB D p.toNat)) n v)) ∧ writeE D p (layB (nextB (nowB D p.toNat)) n v) = 0 ∧ syncE (writeD D p (layB (nextB (nowB D p.toNat)) n v)) = 0 := by
  unfold replE at h
  by_cases h0 : readE D p = 0
  · rw [if_pos h0] at h
    by_cases h1 : writeE D p (layB (nextB (nowB D p.toNat)) n v) = 0
    · rw [if_pos h1] at h
      refine ⟨h0, ?_, h1, h⟩
      unfold replD
      rw [if_pos h0, if_pos h1]
    · rw [if_neg h1] at h
      exact absurd h h1
  · rw [if_neg h0] at h
    exact absurd h h0
theorem pad_lay (x : Nat) (n v : Int) : padS (layB x n v) = layB x n v := by
  have e : (layB x n v).length = 64 := by simp [layB, key_len]
  unfold padS
  rw [e]
  simp
theorem write_ok (D : Dk) (p : Int) (bs : List Nat) (h : writeE D p bs = 0) : D.down = false ∧ hasB D p = true ∧ writeD D p bs = { tripsD D with waits := D.waits ++ [(p.toNat, padS bs)] } ∧ tripsB D = false := by
  unfold writeE at h
  cases hd : D.down with
  | true => rw [if_pos hd] at h; cases h
  | false =>
    rw [if_neg (by rw [hd]; decide)] at h
    cases hh : hasB D p with
    | false => rw [if_pos hh] at h; cases h
    | true =>
      rw [if_neg (by rw [hh]; decide)] at h
      by_cases hl : 64 < bs.length
      · rw [if_pos hl] at h; cases h
      rw [if_neg hl] at h
      cases ht : tripsB D with
      | true => rw [if_pos ht] at h; cases h
      | false =>
        refine ⟨rfl, rfl, ?_, rfl⟩
        unfold writeD
        rw [if_neg (by rw [hd]; decide), if_neg (by rw [hh]; decide), if_neg hl, if_neg (by rw [ht]; decide)]
theorem trips_down (D : Dk) (h : tripsB D = false) (hd : D.down = false) : (tripsD D).down = false := by
  unfold tripsD
  unfold tripsB at h
  split
  · exact hd
  · exact h
theorem sync_ok (D : Dk) (h : syncE D = 0) : D.down = false ∧ tripsB D = false ∧ syncD D = { tripsD D with sure := syncL D.sure D.waits, waits := [] } := by
  unfold syncE at h
  cases hd : D.down with
  | true => rw [if_pos hd] at h; cases h
  | false =>
    rw [if_neg (by rw [hd]; decide)] at h
    cases ht : tripsB D with
    | true => rw [if_pos ht] at h; cases h
    | false =>
      refine ⟨rfl, rfl, ?_⟩
      unfold syncD
      rw [if_neg (by rw [hd]; decide), if_neg (by rw [ht]; decide)]
/-- What is told behind it: of the sector what was laid, of all others what was told. -/
theorem look_repl (D : Dk) (p n v : Int) (h : replE D p n v = 0) (hn : 1 ≤ n ∧ n ≤ 4611686018427387904) (hv : 0 ≤ v ∧ v ≤ 1099511627776) (q : Int) : lookB (replD D p n v) q = if q = p then (n, v) else lookB D q := by
  obtain ⟨r0, r1, r2, r3⟩ := repl_ok D p n v h
  obtain ⟨d0, hp, w1, t0⟩ := write_ok D p _ r2
  obtain ⟨s0, s1, s2⟩ := sync_ok _ r3
  obtain ⟨L, hL⟩ : ∃ L, L = layB (nextB (nowB D p.toNat)) n v := ⟨_, rfl⟩
  have hLr : readB L = (n, v) := by rw [hL]; exact read_lay _ n v hn hv
  rw [← hL] at r1 r2 r3 w1 s0 s1 s2
  rw [hL, pad_lay, ← hL] at w1
  obtain ⟨E, hE⟩ : ∃ E, E = replD D p n v := ⟨_, rfl⟩
  have eS : E.sure = syncL D.sure (D.waits ++ [(p.toNat, L)]) := by
    rw [hE, r1, s2, w1]
    show syncL (tripsD D).sure (D.waits ++ [(p.toNat, L)]) = _
    rw [trips_sure]
  have eW : E.waits = [] := by rw [hE, r1, s2]
  have eD : E.down = false := by
    rw [hE, r1, s2]
    exact trips_down _ s1 s0
  have eL : E.sure.length = D.sure.length := by rw [eS, syncL_len]
  have eR : ∀ q, readE E q = readE D q := fun q => by
    unfold readE hasB
    rw [eD, d0, eL]
  have eN : ∀ k, nowB E k = E.sure.getD k [] := fun k => by unfold nowB; rw [eW]; rfl
  rw [← hE]
  unfold lookB
  rw [eR q]
  obtain ⟨p0, p1⟩ := (hasB_iff D p).1 hp
  by_cases hq : q = p
  · subst hq
    rw [if_pos rfl, if_pos r0, eN, eS, sync_snoc, List.getD_eq_getElem?_getD, List.getElem?_set, if_pos rfl, if_pos (by show q.toNat < _; rw [syncL_len]; omega)]
    exact hLr
  · rw [if_neg hq]
    by_cases h0 : readE D q = 0
    · rw [if_pos h0, if_pos h0]
      have hh : hasB D q = true := by
        unfold readE at h0
        rw [if_neg (by rw [d0]; decide)] at h0
        cases hx : hasB D q with
        | true => rfl
        | false => rw [hx, if_neg (by decide)] at h0; cases h0
      obtain ⟨q0, q1⟩ := (hasB_iff D q).1 hh
      rw [eN, eS, sync_snoc, List.getD_eq_getElem?_getD, List.getElem?_set, if_neg (by show ¬ p.toNat = q.toNat; omega), nowB_sync D q.toNat (by omega), List.getD_eq_getElem?_getD]
    · rw [if_neg h0, if_neg h0]
/-- Behind a Put that is OK its cell tells its value, and all others what they told. -/
theorem get_put (D : Dk) (b m : Nat) (i v : Int) (h : putCE D b m i v = 0) : ((0 ≤ i ∧ i < (m : Int)) ∧ 0 ≤ v ∧ v ≤ 1099511627776) ∧ ∀ k, getB (putCD D b m i v) b m k = if k = i then (v, true) else getB D b m k := by
  unfold putCE at h
  by_cases hd : D.down = true
  · rw [if_pos hd] at h; cases h
  rw [if_neg hd] at h
  by_cases hc : (0 ≤ i ∧ i < (m : Int)) ∧ 0 ≤ v ∧ v ≤ 1099511627776
  · refine ⟨hc, ?_⟩
    rw [if_pos hc] at h
    have hP : putCD D b m i v = if (standB D b i.toNat).2.1 = 4611686018427387904 then D else replD D ((b : Int) + 2 * (i.toNat : Int) + (1 - (standB D b i.toNat).1)) ((standB D b i.toNat).2.1 + 1) v := by
      unfold putCD
      rw [if_neg hd, if_pos hc]
    obtain ⟨⟨x0, x1⟩, n0, n1⟩ := stand_range D b i.toNat
    have hS : standB D b i.toNat = if (lookB D ((b : Int) + 2 * (i.toNat : Int) + 0)).1 = 0 ∨ (lookB D ((b : Int) + 2 * (i.toNat : Int) + 0)).1 < (lookB D ((b : Int) + 2 * (i.toNat : Int) + 1)).1 then (1, lookB D ((b : Int) + 2 * (i.toNat : Int) + 1)) else (0, lookB D ((b : Int) + 2 * (i.toNat : Int) + 0)) := rfl
    generalize hSS : standB D b i.toNat = S at *
    obtain ⟨x, n, z⟩ := S
    simp only at h hP x0 x1 n0 n1
    by_cases hn : n = 4611686018427387904
    · rw [if_pos hn] at h; cases h
    rw [if_neg hn] at h hP
    rw [hP]
    have HL := look_repl D _ (n + 1) v h ⟨by omega, by omega⟩ hc.2
    generalize replD D ((b : Int) + 2 * (i.toNat : Int) + (1 - x)) (n + 1) v = E at *
    intro k
    by_cases hk : 0 ≤ k ∧ k < (m : Int)
    · have g1 : getB E b m k = ((standB E b k.toNat).2.2, decide (0 < (standB E b k.toNat).2.1)) := by unfold getB; rw [if_pos hk]
      have g2 : getB D b m k = ((standB D b k.toNat).2.2, decide (0 < (standB D b k.toNat).2.1)) := by unfold getB; rw [if_pos hk]
      by_cases hki : k = i
      · subst hki
        rw [if_pos rfl, g1]
        have hx : x = 0 ∨ x = 1 := by omega
        rcases hx with rfl | rfl
        · have e1 : lookB E ((b : Int) + 2 * (k.toNat : Int) + 0) = lookB D ((b : Int) + 2 * (k.toNat : Int) + 0) := by rw [HL, if_neg (by omega)]
          have e2 : lookB E ((b : Int) + 2 * (k.toNat : Int) + 1) = (n + 1, v) := by rw [HL, if_pos (by omega)]
          have hf : (lookB D ((b : Int) + 2 * (k.toNat : Int) + 0)).1 = n := by
            split at hS
            · simp at hS
            · simp only [Prod.mk.injEq] at hS
              rw [← hS.2]
          have e3 : standB E b k.toNat = (1, n + 1, v) := by
            unfold standB
            rw [e1, e2, hf, if_pos (.inr (by show n < n + 1; omega))]
          rw [e3]
          have e4 : decide (0 < n + 1) = true := decide_eq_true (by omega)
          show (v, decide (0 < n + 1)) = _
          rw [e4]
        · have e1 : lookB E ((b : Int) + 2 * (k.toNat : Int) + 0) = (n + 1, v) := by rw [HL, if_pos (by omega)]
          have e2 : lookB E ((b : Int) + 2 * (k.toNat : Int) + 1) = lookB D ((b : Int) + 2 * (k.toNat : Int) + 1) := by rw [HL, if_neg (by omega)]
          have hf : (lookB D ((b : Int) + 2 * (k.toNat : Int) + 1)).1 = n := by
            split at hS
            · simp only [Prod.mk.injEq] at hS
              rw [← hS.2]
            · simp at hS
          have e3 : standB E b k.toNat = (0, n + 1, v) := by
            unfold standB
            rw [e1, e2, hf, if_neg (by show ¬ (n + 1 = 0 ∨ n + 1 < n); omega)]
          rw [e3]
          have e4 : decide (0 < n + 1) = true := decide_eq_true (by omega)
          show (v, decide (0 < n + 1)) = _
          rw [e4]
      · rw [if_neg hki, g1, g2]
        have e : standB E b k.toNat = standB D b k.toNat := by
          have e1 : lookB E ((b : Int) + 2 * (k.toNat : Int) + 0) = lookB D ((b : Int) + 2 * (k.toNat : Int) + 0) := by rw [HL, if_neg (by omega)]
          have e2 : lookB E ((b : Int) + 2 * (k.toNat : Int) + 1) = lookB D ((b : Int) + 2 * (k.toNat : Int) + 1) := by rw [HL, if_neg (by omega)]
          unfold standB
          rw [e1, e2]
        rw [e]
    · rw [if_neg (by rintro rfl; exact hk hc.1)]
      unfold getB
      rw [if_neg hk, if_neg hk]
  · rw [if_neg hc] at h; cases h
end Go.Proofs.Ythpjaidgacenoab
