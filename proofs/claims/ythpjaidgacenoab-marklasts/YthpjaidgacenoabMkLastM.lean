/- Cells: what a Put that is broken off leaves; what lasts. Plain mathematics. -/
import Derived.Test.YthpjaidgacenoabMkTornM
import Derived.Test.YthpjaidgacenoabSecLastM
namespace Go.Proofs.Ythpjaidgacenoab

/-- Of a disk that is up, and for which nothing waits, a sector tells what is sure. -/
theorem look_sure (D : Dk) (hd : D.down = false) (hw : D.waits = []) (p : Int) (hp : hasB D p = true) : lookB D p = readB (D.sure.getD p.toNat []) := by
  unfold lookB readE nowB
  rw [hd, hp, hw]
  rfl
theorem get_same (D E : Dk) (b m : Nat) (i : Int) (h : (0 ≤ i ∧ i < (m : Int)) → lookB E ((b : Int) + 2 * (i.toNat : Int) + 0) = lookB D ((b : Int) + 2 * (i.toNat : Int) + 0) ∧ lookB E ((b : Int) + 2 * (i.toNat : Int) + 1) = lookB D ((b : Int) + 2 * (i.toNat : Int) + 1)) : getB E b m i = getB D b m i := by
  unfold getB
  by_cases hc : 0 ≤ i ∧ i < (m : Int)
  · rw [if_pos hc, if_pos hc]
    obtain ⟨h1, h2⟩ := h hc
    unfold standB
    rw [h1, h2]
  · rw [if_neg hc, if_neg hc]
/-- Two disks that are up, without writes that wait, with the same sectors, tell the same of cells. -/
theorem get_alike (D E : Dk) (b m : Nat) (i : Int) (h1 : D.down = false) (h2 : E.down = false) (h3 : D.waits = []) (h4 : E.waits = []) (h5 : E.sure = D.sure) : getB E b m i = getB D b m i := by
  refine get_same D E b m i fun _ => ?_
  have e : ∀ p, lookB E p = lookB D p := fun p => by
    unfold lookB readE hasB
    have hn : ∀ k, nowB E k = nowB D k := fun k => by unfold nowB; rw [h3, h4]; show E.sure.getD k [] = D.sure.getD k []; rw [h5]
    rw [h1, h2, h5, hn]
  exact ⟨e _, e _⟩
theorem crash_quiet (D : Dk) (F : List Int) (h : D.waits = []) : (crashD D F).sure = D.sure ∧ (crashD D F).waits = [] ∧ (crashD D F).down = false := by
  unfold crashD
  rw [h]
  exact ⟨by cases F <;> rfl, rfl, rfl⟩
/-- Where one sector of a cell, which does not count, tells what it told, nothing, or a greater number with a value. -/
theorem get_torn (D E : Dk) (b m : Nat) (i v : Int) (hc : 0 ≤ i ∧ i < (m : Int)) (hn : 0 ≤ (standB D b i.toNat).2.1)
    (h1 : lookB E ((b : Int) + 2 * (i.toNat : Int) + (standB D b i.toNat).1) = lookB D ((b : Int) + 2 * (i.toNat : Int) + (standB D b i.toNat).1))
    (h2 : lookB E ((b : Int) + 2 * (i.toNat : Int) + (1 - (standB D b i.toNat).1)) = lookB D ((b : Int) + 2 * (i.toNat : Int) + (1 - (standB D b i.toNat).1)) ∨ lookB E ((b : Int) + 2 * (i.toNat : Int) + (1 - (standB D b i.toNat).1)) = (0, 0) ∨ lookB E ((b : Int) + 2 * (i.toNat : Int) + (1 - (standB D b i.toNat).1)) = ((standB D b i.toNat).2.1 + 1, v)) :
    getB E b m i = getB D b m i ∨ getB E b m i = (v, true) := by
  have rf := look_range D ((b : Int) + 2 * (i.toNat : Int) + 0)
  have rs := look_range D ((b : Int) + 2 * (i.toNat : Int) + 1)
  have g1 : getB E b m i = ((standB E b i.toNat).2.2, decide (0 < (standB E b i.toNat).2.1)) := by unfold getB; rw [if_pos hc]
  have g2 : getB D b m i = ((standB D b i.toNat).2.2, decide (0 < (standB D b i.toNat).2.1)) := by unfold getB; rw [if_pos hc]
  rw [g1, g2]
  have hS : standB D b i.toNat = if (lookB D ((b : Int) + 2 * (i.toNat : Int) + 0)).1 = 0 ∨ (lookB D ((b : Int) + 2 * (i.toNat : Int) + 0)).1 < (lookB D ((b : Int) + 2 * (i.toNat : Int) + 1)).1 then (1, lookB D ((b : Int) + 2 * (i.toNat : Int) + 1)) else (0, lookB D ((b : Int) + 2 * (i.toNat : Int) + 0)) := rfl
  have hT : standB E b i.toNat = if (lookB E ((b : Int) + 2 * (i.toNat : Int) + 0)).1 = 0 ∨ (lookB E ((b : Int) + 2 * (i.toNat : Int) + 0)).1 < (lookB E ((b : Int) + 2 * (i.toNat : Int) + 1)).1 then (1, lookB E ((b : Int) + 2 * (i.toNat : Int) + 1)) else (0, lookB E ((b : Int) + 2 * (i.toNat : Int) + 0)) := rfl
  generalize hf : lookB D ((b : Int) + 2 * (i.toNat : Int) + 0) = f at *
  generalize hs : lookB D ((b : Int) + 2 * (i.toNat : Int) + 1) = s at *
  generalize hf' : lookB E ((b : Int) + 2 * (i.toNat : Int) + 0) = f' at *
  generalize hs' : lookB E ((b : Int) + 2 * (i.toNat : Int) + 1) = s' at *
  by_cases hcase : f.1 = 0 ∨ f.1 < s.1
  · rw [if_pos hcase] at hS
    rw [hS] at h1 h2 hn ⊢
    simp only at h1 h2 hn ⊢
    rw [hs, hs'] at h1
    rw [show (1 : Int) - 1 = 0 from rfl, hf, hf'] at h2
    subst h1
    rcases h2 with h2 | h2 | h2
    · left
      rw [hT, h2, if_pos hcase]
    · left
      rw [hT, h2, if_pos (.inl rfl)]
    · right
      have hno : ¬ (f'.1 = 0 ∨ f'.1 < s'.1) := by rw [h2]; show ¬ (s'.1 + 1 = 0 ∨ s'.1 + 1 < s'.1); omega
      rw [hT, if_neg hno, h2]
      show (v, decide (0 < s'.1 + 1)) = (v, true)
      rw [decide_eq_true (by omega)]
  · rw [if_neg hcase] at hS
    rw [hS] at h1 h2 hn ⊢
    simp only at h1 h2 hn ⊢
    rw [hf, hf'] at h1
    rw [show (1 : Int) - 0 = 1 from rfl, hs, hs'] at h2
    subst h1
    rcases h2 with h2 | h2 | h2
    · left
      rw [hT, h2, if_neg hcase]
    · left
      have hno : ¬ (f'.1 = 0 ∨ f'.1 < s'.1) := by rw [h2]; show ¬ (f'.1 = 0 ∨ f'.1 < 0); omega
      rw [hT, if_neg hno]
    · right
      have hyes : f'.1 = 0 ∨ f'.1 < s'.1 := by rw [h2]; right; show f'.1 < f'.1 + 1; omega
      rw [hT, if_pos hyes, h2]
      show (v, decide (0 < f'.1 + 1)) = (v, true)
      rw [decide_eq_true (by omega)]

/-- A Put that is broken off anywhere leaves its value, or what was told ahead. -/
theorem put_torn (D : Dk) (b m : Nat) (i v : Int) (F : List Int) (hd : D.down = false) (hw : D.waits = []) (hs : ∀ s ∈ D.sure, Sec s) (hfit : b + 2 * m ≤ D.sure.length) :
    (putCE D b m i v = 0 → getB (crashD (putCD D b m i v) F) b m i = (v, true)) ∧ (getB (crashD (putCD D b m i v) F) b m i = getB D b m i ∨ getB (crashD (putCD D b m i v) F) b m i = (v, true)) := by
  have quiet : ∀ E : Dk, E.waits = [] → E.sure = D.sure → getB (crashD E F) b m i = getB D b m i := fun E h1 h2 => by
    obtain ⟨q1, q2, q3⟩ := crash_quiet E F h1
    exact get_alike D _ b m i hd q3 hw q2 (by rw [q1, h2])
  have hdn : ¬ D.down = true := by rw [hd]; decide
  by_cases hbad : ¬ ((0 ≤ i ∧ i < (m : Int)) ∧ 0 ≤ v ∧ v ≤ 1099511627776)
  · have e1 : putCE D b m i v = 2 := by unfold putCE; rw [if_neg hdn, if_neg hbad]
    have e2 : putCD D b m i v = D := by unfold putCD; rw [if_neg hdn, if_neg hbad]
    rw [e1, e2]
    exact ⟨fun h => (by cases h), .inl (quiet D hw rfl)⟩
  have hc := Classical.not_not.1 hbad
  clear hbad
  by_cases hn : (standB D b i.toNat).2.1 = 4611686018427387904
  · have e1 : putCE D b m i v = 6 := by unfold putCE; rw [if_neg hdn, if_pos hc, if_pos hn]
    have e2 : putCD D b m i v = D := by unfold putCD; rw [if_neg hdn, if_pos hc, if_pos hn]
    rw [e1, e2]
    exact ⟨fun h => (by cases h), .inl (quiet D hw rfl)⟩
  obtain ⟨⟨x0, x1⟩, n0, n1⟩ := stand_range D b i.toNat
  have e1 : putCE D b m i v = replE D ((b : Int) + 2 * (i.toNat : Int) + (1 - (standB D b i.toNat).1)) ((standB D b i.toNat).2.1 + 1) v := by unfold putCE; rw [if_neg hdn, if_pos hc, if_neg hn]
  have e2 : putCD D b m i v = replD D ((b : Int) + 2 * (i.toNat : Int) + (1 - (standB D b i.toNat).1)) ((standB D b i.toNat).2.1 + 1) v := by unfold putCD; rw [if_neg hdn, if_pos hc, if_neg hn]
  have hok : putCE D b m i v = 0 → getB (putCD D b m i v) b m i = (v, true) := fun h => by rw [(get_put D b m i v h).2 i, if_pos rfl]
  obtain ⟨st, hst⟩ : ∃ st, st = (standB D b i.toNat).1 := ⟨_, rfl⟩
  obtain ⟨n, hnn⟩ : ∃ n, n = (standB D b i.toNat).2.1 := ⟨_, rfl⟩
  obtain ⟨p, hp⟩ : ∃ p : Int, p = (b : Int) + 2 * (i.toNat : Int) + (1 - st) := ⟨_, rfl⟩
  have hph : hasB D p = true := by rw [hasB_iff]; omega
  have hre : readE D p = 0 := by unfold readE; rw [hd, hph]; rfl
  obtain ⟨L, hL⟩ : ∃ L, L = layB (nextB (nowB D p.toNat)) (n + 1) v := ⟨_, rfl⟩
  have hnow : nowB D p.toNat = D.sure.getD p.toNat [] := by unfold nowB; rw [hw]; rfl
  have hpl : p.toNat < D.sure.length := by have := (hasB_iff D p).1 hph; omega
  have hLl : L.length = 64 := by rw [hL]; simp [layB, key_len]
  have hLp : padS L = L := by rw [hL]; exact pad_lay _ _ _
  have hLr : readB L = (n + 1, v) := by rw [hL]; exact read_lay _ _ _ (by omega) hc.2
  rw [← hst, ← hnn, ← hp] at e1 e2
  have hwE : writeE D p L = if tripsB D = true then 10 else 0 := by unfold writeE; rw [if_neg hdn, hph, if_neg (by decide), if_neg (by omega)]
  have hwD : writeD D p L = if tripsB D = true then tripsD D else { tripsD D with waits := [(p.toNat, L)] } := by unfold writeD; rw [if_neg hdn, hph, if_neg (by decide), if_neg (by omega), hw, hLp, List.nil_append]
  have r1 : replE D p (n + 1) v = if writeE D p L = 0 then syncE (writeD D p L) else writeE D p L := by unfold replE; rw [if_pos hre, ← hL]
  have r2 : replD D p (n + 1) v = if writeE D p L = 0 then syncD (writeD D p L) else writeD D p L := by unfold replD; rw [if_pos hre, ← hL]
  cases ht : tripsB D with
  | true =>
    rw [ht, if_pos rfl] at hwE hwD
    rw [hwE, if_neg (by decide)] at r1 r2
    rw [hwD] at r2
    rw [e1, r1, e2, r2]
    refine ⟨fun h => (by cases h), .inl (quiet _ ?_ ?_)⟩
    · rw [trips_waits]; exact hw
    · rw [trips_sure]
  | false =>
    rw [ht, if_neg (by decide)] at hwE hwD
    rw [hwE, if_pos rfl] at r1 r2
    obtain ⟨D2, hD2⟩ : ∃ D2, D2 = writeD D p L := ⟨_, rfl⟩
    rw [← hD2] at r1 r2 hwD
    have d2s : D2.sure = D.sure := by rw [hwD]; exact trips_sure D
    have d2w : D2.waits = [(p.toNat, L)] := by rw [hwD]
    have d2d : D2.down = false := by rw [hwD]; exact trips_down D ht hd
    have d2n : ¬ D2.down = true := by rw [d2d]; decide
    cases ht2 : tripsB D2 with
    | true =>
      have s1 : syncE D2 = 10 := by unfold syncE; rw [if_neg d2n, if_pos ht2]
      have s2 : syncD D2 = tripsD D2 := by unfold syncD; rw [if_neg d2n, if_pos ht2]
      rw [s1] at r1
      rw [s2] at r2
      rw [e1, r1, e2, r2]
      refine ⟨fun h => (by cases h), ?_⟩
      obtain ⟨E, hE⟩ : ∃ E, E = crashD (tripsD D2) F := ⟨_, rfl⟩
      rw [← hE]
      have eD : E.down = false := by rw [hE]; rfl
      have eW : E.waits = [] := by rw [hE]; rfl
      have eS : E.sure = D.sure ∨ ∃ k, E.sure = D.sure.set p.toNat (L.take k ++ (D.sure.getD p.toNat []).drop k) := by
        rw [hE]
        show crashL (tripsD D2).sure (tripsD D2).waits F = _ ∨ ∃ k, crashL (tripsD D2).sure (tripsD D2).waits F = _
        rw [trips_sure, trips_waits, d2s, d2w]
        cases F with
        | nil => exact .inl rfl
        | cons f F => exact .inr ⟨doneN (fateU f), by show crashL (D.sure.set p.toNat (L.take (doneN (fateU f)) ++ (D.sure.getD p.toNat []).drop (doneN (fateU f)))) [] F = _; cases F <;> rfl⟩
      rcases eS with eS | ⟨k, eS⟩
      · exact .inl (get_alike D E b m i hd eD hw eW eS)
      have eL : E.sure.length = D.sure.length := by rw [eS, List.length_set]
      have eH : ∀ q, hasB E q = hasB D q := fun q => by unfold hasB; rw [eL]
      have far : ∀ q : Int, q ≠ p → hasB D q = true → lookB E q = lookB D q := fun q hq hh => by
        rw [look_sure E eD eW q (by rw [eH]; exact hh), look_sure D hd hw q hh, eS, List.getD_eq_getElem?_getD, List.getElem?_set, if_neg (by have := (hasB_iff D q).1 hh; have := (hasB_iff D p).1 hph; omega), List.getD_eq_getElem?_getD]
      have near : lookB E p = readB (L.take k ++ (D.sure.getD p.toNat []).drop k) := by
        rw [look_sure E eD eW p (by rw [eH]; exact hph), eS, List.getD_eq_getElem?_getD, List.getElem?_set_self hpl]
        rfl
      have hsp : Sec (D.sure.getD p.toNat []) := by
        rw [List.getD_eq_getElem?_getD, List.getElem?_eq_getElem hpl]
        exact hs _ (List.getElem_mem hpl)
      have torn := torn_read (D.sure.getD p.toNat []) hsp (n + 1) v k
      rw [← hnow, ← hL, hnow] at torn
      refine get_torn D E b m i v hc.1 (by rw [← hnn]; omega) ?_ ?_
      · rw [← hst]
        refine far _ (by omega) ?_
        rw [hasB_iff]; omega
      · rw [← hst, ← hp, ← hnn, near, look_sure D hd hw p hph]
        rcases torn with h | h | h
        · exact .inl h
        · exact .inr (.inl h)
        · exact .inr (.inr (by rw [h, hLr]))
    | false =>
      have s1 : syncE D2 = 0 := by unfold syncE; rw [if_neg d2n, ht2, if_neg (by decide)]
      have s2 : syncD D2 = { tripsD D2 with sure := syncL D2.sure D2.waits, waits := [] } := by unfold syncD; rw [if_neg d2n, ht2, if_neg (by decide)]
      rw [s1] at r1
      rw [s2] at r2
      have hz : putCE D b m i v = 0 := by rw [e1, r1]
      have hg := hok hz
      have hq : getB (crashD (putCD D b m i v) F) b m i = getB (putCD D b m i v) b m i := by
        have w1 : (putCD D b m i v).waits = [] := by rw [e2, r2]
        have w2 : (putCD D b m i v).down = false := by rw [e2, r2]; exact trips_down D2 ht2 d2d
        obtain ⟨q1, q2, q3⟩ := crash_quiet _ F w1
        exact get_alike _ _ b m i w2 q3 w1 q2 q1
      rw [hq, hg]
      exact ⟨fun _ => rfl, .inr rfl⟩
end Go.Proofs.Ythpjaidgacenoab
