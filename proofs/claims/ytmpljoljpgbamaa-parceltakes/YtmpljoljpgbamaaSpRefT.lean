/- grapevineref08.Take: the map at a place. -/
import Derived.Test.YtmpljoljpgbamaaSpTakeL
import Derived.Test.YtmpljoljpgbamaaSpRef
namespace Go.Proofs.Ytmpljoljpgbamaa
open Go.RowKit
theorem Sps.grown {w w' : World} {base : Nat} {v : Value} {l : List Sp} (h : Sps w base v l) (hb : base ≤ w.heap.size) (hg : w.grownBy w' v.ownBlock) : Below base w w' :=
  ⟨hg.os, hg.tape, hg.output, hg.size, fun k hk => hg.block k (by omega) fun e => by have := h.at_ e.symm; omega⟩
theorem Sps.spot {w : World} {base : Nat} {v : Value} {i : List Sp} {q : Sp} (h : Sps w base v (i ++ [q])) : ∃ g c, v = .slice (some ⟨g, 0, none⟩) (i.length + 1) c ∧ base ≤ g ∧ g < w.heap.size ∧ i.length + 1 ≤ c ∧ w.cell? ⟨g, i.length * 3, none⟩ = some (.int .i64 q.fr) ∧ w.cell? ⟨g, i.length * 3 + 1, none⟩ = some (.int .i64 q.to) ∧ w.cell? ⟨g, i.length * 3 + 2, none⟩ = some (.int .i64 q.is) ∧ w.frozen? ⟨g, i.length * 3 + 1, none⟩ = false := by
  obtain ⟨a, c, hv, hc⟩ := h.form
  rw [hv] at h
  have hr := h.rd
  obtain ⟨g, o, ha, hg, q', hq, c0, c1, c2⟩ := hr.at_ i.length (by simp)
  rw [List.getElem?_append_right (Nat.le_refl _), Nat.sub_self] at hq
  simp only [List.getElem?_cons_zero, Option.some.injEq] at hq
  subst hq
  rcases h.row.2 with ⟨h1, _⟩ | ⟨g', c', cur, h1, h2, h3, h4, h5, h6, h7⟩
  · simp only [Value.slice.injEq] at h1
    rw [h1.1] at ha
    cases ha
  · simp only [Value.slice.injEq] at h1
    obtain ⟨e1, _, e3⟩ := h1
    rw [e1] at ha
    simp only [Option.some.injEq, Addr.mk.injEq] at ha
    obtain ⟨rfl, rfl, _⟩ := ha
    simp only [Nat.zero_add] at c0 c1 c2
    refine ⟨g', c, by rw [hv, e1]; simp, h2, hg, by simpa using hc, c0, c1, c2, frozen_of_row w g' _ cur _ h3⟩

theorem takeL_form {bs : List Nat} {k : Nat} {x : Int} {a : Sp} {acc : List Sp} {n q n2 q2 : Nat} (h : Leb.take bs x = (n, q, 0)) (h2 : Leb.take bs (q : Int) = (n2, q2, 0)) (he : q2 ≠ bs.length)
    (hc : ¬ (a.to + 1 + n + n2 ≤ 1099511627776 ∧ (1 ≤ bs.getD q2 0 ∧ bs.getD q2 0 ≤ 3) ∧ ¬ (n = 0 ∧ (bs.getD q2 0 : Int) = a.is))) : takeL bs (k + 1) x a acc = ([], 0, 4) := takeL_bad (one_bad h h2 he hc) (by decide)

set_option maxRecDepth 100000 in
set_option maxHeartbeats 4000000 in
theorem ref_Take (a : Option Addr) (len cap : Nat) (bs : List Nat) (x : Int) (w : World) (hr : Rd w a len bs) (hl : len ≤ 9223372036854775000) (hx : (-9223372036854775808 : Int) ≤ x ∧ x ≤ 9223372036854775807) :
    Calls Try.prog 39 #[.slice a len cap, .int .i64 x] w fun e w' => Hid (TakeTold w' w.heap.size (takeM bs x) e) ∧ Below w.heap.size w w' := by
  have HR : Hid (Rd w a len bs) := hr
  have HX : Hid ((-9223372036854775808 : Int) ≤ x ∧ x ≤ 9223372036854775807) := hx
  obtain ⟨n1, k1, e1, HT1⟩ : ∃ n k e, Hid (Leb.take bs x = (n, k, e)) := ⟨_, _, _, rfl⟩
  obtain ⟨R, HRR⟩ : ∃ R, Hid (takeM bs x = R) := ⟨_, rfl⟩
  rw [HRR.out]
  clear hr hx
  go_enter Try.func39, Try.ntmps39
  go_wp2_with fail
  refine (ref_TakeUint a len cap bs x w HR.out hl HX.out).mono ?_
  rw [HT1.out, show told (n1, k1, e1) = .returned (.tuple #[.int .u64 (n1 : Int), .int .i64 (k1 : Int), .int .i64 (e1 : Int)]) from rfl]
  rintro e w1 ⟨he, hw1⟩
  subst he
  rw [hw1]
  clear hw1 w1
  by_cases he1 : e1 = 0
  · subst he1
    obtain ⟨p1, hp1, hp2, hp3, hp4, hp5, hp6⟩ := Leb.take_once bs x HR.out.byte n1 k1 HT1.out
    have hsz := HR.out.size
    clear hp1 hp2 hp5 hp6
    by_cases h256 : 256 < n1
    · have h256' : (256 : Int) < (n1 : Int) := by omega
      have HRX : Hid (R = ([], 0, 6)) := by show _ = _; rw [← HRR.out, takeM_2 HT1.out h256]
      go_wp2
      go_returns
      exact ⟨⟨_, by rw [HRX.out]; rfl, by rw [HRX.out]; exact Sps.nil_ _ _⟩, Below.refl _ _⟩
    · have h256' : ¬ (256 : Int) < (n1 : Int) := by omega
      have HRX : Hid (R = takeL bs n1 (k1 : Int) Sp.zr []) := by show _ = _; rw [← HRR.out, takeM_3 HT1.out h256]
      have HE0 : Hid (Sps (w.alloc (.cells #[] 39)) w.heap.size (.slice (some ⟨w.heap.size, 0, none⟩) 0 0) []) := ⟨World.ownsRow_lit (base := w.heap.size) (e := 39) (size := 3) w #[] 0 (Nat.le_refl _) (Nat.zero_le _) rfl⟩
      go_wp2
      go_loopw [8, 10, 11, 12] (fun t8 t10 t11 t12 wr => ∃ (k : Nat) (y : Int) (p : Sp) (av : Option Addr) (nv cv : Nat) (out : List Sp), k ≤ n1 ∧ t12 = .int .i64 (k : Int) ∧ t8 = .int .i64 y ∧ t11 = .int .i64 p.to ∧ t10 = .slice av nv cv ∧ Hid (R = takeL bs (n1 - k) y p out) ∧ Hid (0 ≤ p.to ∧ p.to ≤ 1099511627776) ∧ Hid (0 ≤ y ∧ y ≤ (bs.length : Int)) ∧ Hid (out.length = k) ∧ Hid ((k = 0 ∧ p = Sp.zr) ∨ ∃ ini, out = ini ++ [p]) ∧ Hid (Sps wr w.heap.size (.slice av nv cv) out) ∧ Hid (Below w.heap.size w wr)) (fun _ _ _ t12 _ => n1 - (intOf t12).toNat)
      case atStart => exact ⟨0, (k1 : Int), Sp.zr, _, _, _, [], by omega, rfl, rfl, rfl, rfl, HRX, ⟨by decide, by decide⟩, ⟨by omega, by omega⟩, rfl, .inl ⟨rfl, rfl⟩, HE0, below_new _ _⟩
      case round =>
        obtain ⟨k, y, p, av, nv, cv, out, hk, rfl, rfl, rfl, rfl, HE, HP, HY, HO, HJ, HV, HB⟩ := hrel
        by_cases hlt : k < n1
        · have hlt' : (k : Int) < (n1 : Int) := by omega
          have hyr := HY.out
          have hnk : n1 - k = (n1 - (k + 1)) + 1 := by omega
          have HE1 : Hid (R = takeL bs (n1 - (k + 1) + 1) y p out) := by show _ = _; rw [← hnk]; exact HE.out
          clear HE hnk
          obtain ⟨m1, q1, f1, HU1⟩ : ∃ n k e, Hid (Leb.take bs y = (n, k, e)) := ⟨_, _, _, rfl⟩
          go_wp2_with fail
          refine (ref_TakeUint a len cap bs y wr (HR.out.below HB.out) hl ⟨by omega, by omega⟩).mono ?_
          rw [HU1.out, show told (m1, q1, f1) = .returned (.tuple #[.int .u64 (m1 : Int), .int .i64 (q1 : Int), .int .i64 (f1 : Int)]) from rfl]
          rintro e w1 ⟨he, hw1⟩
          subst he
          rw [hw1]
          clear hw1 w1
          by_cases hf1 : f1 = 0
          · subst hf1
            obtain ⟨s1, hs1, hs2, hs3, hs4, hs5, hs6⟩ := Leb.take_once bs y HR.out.byte m1 q1 HU1.out
            clear hs1 hs2 hs5 hs6
            obtain ⟨m2, q2, f2, HU2⟩ : ∃ n k e, Hid (Leb.take bs (q1 : Int) = (n, k, e)) := ⟨_, _, _, rfl⟩
            go_wp2_with fail
            refine (ref_TakeUint a len cap bs (q1 : Int) wr (HR.out.below HB.out) hl ⟨by omega, by omega⟩).mono ?_
            rw [HU2.out, show told (m2, q2, f2) = .returned (.tuple #[.int .u64 (m2 : Int), .int .i64 (q2 : Int), .int .i64 (f2 : Int)]) from rfl]
            rintro e w1 ⟨he, hw1⟩
            subst he
            rw [hw1]
            clear hw1 w1
            by_cases hf2 : f2 = 0
            · subst hf2
              obtain ⟨s2, hu1, hu2, hu3, hu4, hu5, hu6⟩ := Leb.take_once bs (q1 : Int) HR.out.byte m2 q2 HU2.out
              clear hu1 hu2 hu5 hu6
              by_cases hq : q2 = len
              · have HRX2 : Hid (R = ([], 0, 3)) := by show _ = _; rw [HE1.out, takeL_bad (one_3 HU1.out HU2.out (by omega)) (by decide)]
                have hq' : (q2 : Int) = (len : Int) := by omega
                go_wp2
                go_returns
                exact ⟨⟨_, by rw [HRX2.out]; rfl, by rw [HRX2.out]; exact Sps.nil_ _ _⟩, HB.out⟩
              · have hqn : ¬ (q2 : Int) = (len : Int) := by omega
                have hqlt : (q2 : Int) < (len : Int) := by omega
                have HQB : Hid (q2 ≠ bs.length) := by show _ ≠ _; omega
                have hpr := HP.out
                by_cases hg1 : 1099511627776 < m1
                · have hg1' : (1099511627776 : Int) < (m1 : Int) := by omega
                  have HRX2 : Hid (R = ([], 0, 4)) := by show _ = _; rw [HE1.out, takeL_form HU1.out HU2.out HQB.out (by omega)]
                  go_wp2
                  go_returns
                  exact ⟨⟨_, by rw [HRX2.out]; rfl, by rw [HRX2.out]; exact Sps.nil_ _ _⟩, HB.out⟩
                · have hg1' : ¬ (1099511627776 : Int) < (m1 : Int) := by omega
                  by_cases hg2 : 1099511627776 < m2
                  · have hg2' : (1099511627776 : Int) < (m2 : Int) := by omega
                    have HRX2 : Hid (R = ([], 0, 4)) := by show _ = _; rw [HE1.out, takeL_form HU1.out HU2.out HQB.out (by omega)]
                    go_wp2
                    go_returns
                    exact ⟨⟨_, by rw [HRX2.out]; rfl, by rw [HRX2.out]; exact Sps.nil_ _ _⟩, HB.out⟩
                  · have hg2' : ¬ (1099511627776 : Int) < (m2 : Int) := by omega
                    obtain ⟨bb, off, hab, hcb⟩ := rd_at (HR.out.below HB.out) q2 (by omega)
                    subst hab
                    obtain ⟨I, hI⟩ : ∃ I, I = bs.getD q2 0 := ⟨_, rfl⟩
                    have HI : Hid (I = bs.getD q2 0) := hI
                    have hI256 : I < 256 := by
                      rw [hI, List.getD_eq_getElem?_getD, List.getElem?_eq_getElem (by omega)]
                      exact HR.out.byte _ (List.getElem_mem _)
                    rw [← hI] at hcb
                    clear hI
                    obtain ⟨pf, pt, pi⟩ := p
                    simp only at hpr
                    obtain ⟨hp0, hp9⟩ := hpr
                    have HFORM : Hid (¬ (pt + 1 + m1 + m2 ≤ 1099511627776 ∧ (1 ≤ I ∧ I ≤ 3) ∧ ¬ (m1 = 0 ∧ (I : Int) = pi)) → R = ([], 0, 4)) := by
                      intro hc
                      rw [HI.out] at hc
                      rw [HE1.out, takeL_form HU1.out HU2.out HQB.out hc]
                    have HGOOD : Hid (pt + 1 + m1 + m2 ≤ 1099511627776 ∧ (1 ≤ I ∧ I ≤ 3) ∧ ¬ (m1 = 0 ∧ (I : Int) = pi) → R = takeL bs (n1 - (k + 1)) ((q2 : Int) + 1) ⟨pt + 1 + m1, pt + 1 + m1 + m2, (I : Int)⟩ (out ++ [⟨pt + 1 + m1, pt + 1 + m1 + m2, (I : Int)⟩])) := by
                      intro hc
                      rw [HI.out] at hc ⊢
                      rw [HE1.out, takeL_ok (one_ok HU1.out HU2.out HQB.out hc)]
                    obtain ⟨sf, hsf⟩ : ∃ sf : Int, pt + 1 + (m1 : Int) = sf := ⟨_, rfl⟩
                    rw [hsf] at HFORM HGOOD
                    obtain ⟨st, hst⟩ : ∃ st : Int, sf + (m2 : Int) = st := ⟨_, rfl⟩
                    rw [hst] at HFORM HGOOD
                    have hsfb : 1 ≤ sf ∧ sf ≤ 2199023255553 := by omega
                    have hstb : sf ≤ st ∧ st ≤ 3298534883329 := by omega
                    obtain ⟨W4, HW4⟩ : ∃ W4, Hid (W4 = wr.alloc (.cells #[.int .i64 sf, .int .i64 st, .int .i64 (I : Int)] 39)) := ⟨_, rfl⟩
                    have HB4 : Hid (Below wr.heap.size wr W4) := by show Below _ _ _; rw [HW4.out]; exact below_new _ _
                    have HBW4 : Hid (Below w.heap.size w W4) := HB.out.trans (HB4.out.mono HB.out.size)
                    have HN4 : Hid (Bk W4 wr.heap.size #[.int .i64 sf, .int .i64 st, .int .i64 (I : Int)] 39) := by show Bk _ _ _ _; rw [HW4.out]; exact Bk.new _ _ _
                    have HV4 : Hid (Sps W4 w.heap.size (.slice av nv cv) out) := HV.out.below HB4.out
                    have s0 : W4.cell? ⟨wr.heap.size, 0, none⟩ = some (.int .i64 sf) := HN4.out.cell 0 rfl
                    have s1 : W4.cell? ⟨wr.heap.size, 1, none⟩ = some (.int .i64 st) := HN4.out.cell 1 rfl
                    have s2 : W4.cell? ⟨wr.heap.size, 2, none⟩ = some (.int .i64 (I : Int)) := HN4.out.cell 2 rfl
                    go_wp2
                    rw [← HW4.out]
                    by_cases h1 : 1099511627776 < st
                    · have d1 : decide (1099511627776 < st) = true := decide_eq_true h1
                      have HRX2 : Hid (R = ([], 0, 4)) := HFORM.out (by omega)
                      go_quiet (fail)
                      generalize hnq : W4.drewN _ = w5
                      have HB5 : Hid (Below w.heap.size w w5) := by show Below _ _ _; rw [← hnq]; exact below_drews HBW4.out _
                      clear hnq
                      go_wp2
                      go_returns
                      exact ⟨⟨_, by rw [HRX2.out]; rfl, by rw [HRX2.out]; exact Sps.nil_ _ _⟩, HB5.out⟩
                    have d1 : decide (1099511627776 < st) = false := decide_eq_false h1
                    by_cases h2 : (I : Int) < 1
                    · have d2 : decide ((I : Int) < 1) = true := decide_eq_true h2
                      have HRX2 : Hid (R = ([], 0, 4)) := HFORM.out (by omega)
                      go_quiet (fail)
                      generalize hnq : W4.drewN _ = w5
                      have HB5 : Hid (Below w.heap.size w w5) := by show Below _ _ _; rw [← hnq]; exact below_drews HBW4.out _
                      clear hnq
                      go_wp2
                      go_returns
                      exact ⟨⟨_, by rw [HRX2.out]; rfl, by rw [HRX2.out]; exact Sps.nil_ _ _⟩, HB5.out⟩
                    have d2 : decide ((I : Int) < 1) = false := decide_eq_false h2
                    by_cases h3 : 3 < (I : Int)
                    · have d3 : decide (3 < (I : Int)) = true := decide_eq_true h3
                      have HRX2 : Hid (R = ([], 0, 4)) := HFORM.out (by omega)
                      go_quiet (fail)
                      generalize hnq : W4.drewN _ = w5
                      have HB5 : Hid (Below w.heap.size w w5) := by show Below _ _ _; rw [← hnq]; exact below_drews HBW4.out _
                      clear hnq
                      go_wp2
                      go_returns
                      exact ⟨⟨_, by rw [HRX2.out]; rfl, by rw [HRX2.out]; exact Sps.nil_ _ _⟩, HB5.out⟩
                    have d3 : decide (3 < (I : Int)) = false := decide_eq_false h3
                    rcases HJ.out with ⟨hk0, hpz⟩ | ⟨ini, hini⟩
                    · have d4 : decide ((0 : Int) < (k : Int)) = false := decide_eq_false (by omega)
                      have d4' : decide (0 < k) = false := decide_eq_false (by omega)
                      simp only [Sp.zr, Sp.mk.injEq] at hpz
                      have HGR : Hid (R = takeL bs (n1 - (k + 1)) ((q2 : Int) + 1) ⟨sf, st, (I : Int)⟩ (out ++ [⟨sf, st, (I : Int)⟩])) := HGOOD.out ⟨by omega, by omega, by omega⟩
                      clear hk0 hpz HJ
                      go_quiet (fail)
                      generalize hnq : W4.drewN _ = w5
                      have hbw : Below W4.heap.size W4 w5 := by rw [← hnq]; exact below_drews (Below.refl _ _) _
                      have HB5 : Hid (Below w.heap.size w w5) := HBW4.out.trans (hbw.mono HBW4.out.size)
                      have HN5 : Hid (Bk w5 wr.heap.size #[.int .i64 sf, .int .i64 st, .int .i64 (I : Int)] 39) := HN4.out.stay hbw
                      have HV5 : Hid (Sps w5 w.heap.size (.slice av nv cv) out) := HV4.out.below hbw
                      have r0 : w5.cell? ⟨wr.heap.size, 0, none⟩ = some (.int .i64 sf) := HN5.out.cell 0 rfl
                      have r1 : w5.cell? ⟨wr.heap.size, 1, none⟩ = some (.int .i64 st) := HN5.out.cell 1 rfl
                      have r2 : w5.cell? ⟨wr.heap.size, 2, none⟩ = some (.int .i64 (I : Int)) := HN5.out.cell 2 rfl
                      clear hnq hbw s0 s1 s2 
                      have HV6 : Hid (Sps (w5.alloc (.cells #[.int .i64 sf, .int .i64 st, .int .i64 (I : Int)] 39)) w.heap.size (.slice av nv cv) out) := HV5.out.below (below_new _ _)
                      have HT6 : Hid (∀ j u, (Sp.cells ⟨sf, st, (I : Int)⟩).toList[j]? = some u → (w5.alloc (.cells #[.int .i64 sf, .int .i64 st, .int .i64 (I : Int)] 39)).cell? ((⟨w5.heap.size, 0, none⟩ : Addr).add j) = some u) := Sp.told (Bk.new w5 _ _)
                      have HS6 : Hid (w.heap.size ≤ (w5.alloc (.cells #[.int .i64 sf, .int .i64 st, .int .i64 (I : Int)] 39)).heap.size) := Nat.le_trans HB5.out.size (below_new _ _).size
                      have HL6 : Hid ((out).length ≤ 3000000000000) := by show _ ≤ _; have := HO.out; omega
                      go_wp2_with (at_builtin; refine wpList_append_sp rfl (.tmp 120) (.tmp 122) rfl w.heap.size (.slice av nv cv) out rfl HV6.out ⟨w5.heap.size, 0, none⟩ 1 ⟨sf, st, (I : Int)⟩ rfl HT6.out HL6.out HS6.out ?_)
                      intro v' w7 ho hg
                      have HO7 : Hid (Sps w7 w.heap.size v' (out ++ [⟨sf, st, (I : Int)⟩])) := by show Sps _ _ _ _; simpa using ho
                      have HK7 : Hid (Bk w7 wr.heap.size #[.int .i64 sf, .int .i64 st, .int .i64 (I : Int)] 39) := (HN5.out.stay (below_new _ _)).grown hg (fun e => by have := (HV.out.row.lt _ e.symm).2; omega)
                      have HB7 : Hid (Below w.heap.size w w7) := (HB5.out.trans ((below_new w5 _).mono HB5.out.size)).trans (HV6.out.grown HS6.out hg)
                      have HLN7 : Hid ((out ++ [(⟨sf, st, (I : Int)⟩ : Sp)]).length = k + 1) := by show _ = _; rw [List.length_append, HO.out]; rfl
                      obtain ⟨av', cv', rfl, _⟩ := HO7.out.form
                      have r1 : w7.cell? ⟨wr.heap.size, 1, none⟩ = some (.int .i64 st) := HK7.out.cell 1 rfl
                      clear ho hg HV6 HT6 HS6 HL6 r0 r2
                      go_wp2
                      go_roundw
                      case rel => exact ⟨k + 1, (q2 : Int) + 1, ⟨sf, st, (I : Int)⟩, av', _, cv', _, by omega, by go_num, by go_num, rfl, rfl, HGR, ⟨by simp only; omega, by simp only; omega⟩, ⟨by omega, by omega⟩, HLN7, .inr ⟨_, rfl⟩, HO7, HB7⟩
                      case measure => simp [intOf]; omega
                    · subst hini
                      obtain ⟨g, c, hv, hBg, hgl, hc, b0, b1, b2, fz⟩ := HV4.out.spot
                      simp only [Value.slice.injEq] at hv
                      obtain ⟨rfl, rfl, rfl⟩ := hv
                      obtain ⟨kk, hkk⟩ : ∃ kk, kk = ini.length := ⟨_, rfl⟩
                      have hkl := HO.out
                      rw [List.length_append, List.length_singleton, ← hkk] at hkl
                      rw [← hkk] at b2 hc HV HV4 ⊢
                      have d4 : decide ((0 : Int) < (k : Int)) = true := decide_eq_true (by omega)
                      have d4' : decide (0 < k) = true := decide_eq_true (by omega)
                      have d4n : 0 < k := by omega
                      have e1 : ((k : Int) - 1) = kk := by omega
                      have e2 : ¬ ((kk : Int) < 0) := by omega
                      have e3 : (kk : Int) < (kk : Int) + 1 := by omega
                      clear b0 b1 fz hkk HJ
                      simp only at b2
                      by_cases hm1 : m1 = 0
                      · have d5 : ((m1 : Int) == 0) = true := by rw [beq_iff_eq]; omega
                        have d5' : (m1 == 0) = true := by rw [beq_iff_eq]; omega
                        by_cases hIp : (I : Int) = pi
                        · have d6 : ((I : Int) == pi) = true := by simpa using hIp
                          have HRX2 : Hid (R = ([], 0, 4)) := HFORM.out (fun h => h.2.2 ⟨hm1, hIp⟩)
                          clear hkl hIp
                          go_quiet (fail)
                          generalize hnq : W4.drewN _ = w5
                          have HB5 : Hid (Below w.heap.size w w5) := by show Below _ _ _; rw [← hnq]; exact below_drews HBW4.out _
                          clear hnq
                          go_wp2
                          go_returns
                          exact ⟨⟨_, by rw [HRX2.out]; rfl, by rw [HRX2.out]; exact Sps.nil_ _ _⟩, HB5.out⟩
                        · have d6 : ((I : Int) == pi) = false := by simpa using hIp
                          have HGR : Hid (R = takeL bs (n1 - (k + 1)) ((q2 : Int) + 1) ⟨sf, st, (I : Int)⟩ (ini ++ [⟨pf, pt, pi⟩] ++ [⟨sf, st, (I : Int)⟩])) := HGOOD.out ⟨by omega, by omega, fun h => hIp h.2⟩
                          go_quiet (fail)
                          generalize hnq : W4.drewN _ = w5
                          have hbw : Below W4.heap.size W4 w5 := by rw [← hnq]; exact below_drews (Below.refl _ _) _
                          have HB5 : Hid (Below w.heap.size w w5) := HBW4.out.trans (hbw.mono HBW4.out.size)
                          have HN5 : Hid (Bk w5 wr.heap.size #[.int .i64 sf, .int .i64 st, .int .i64 (I : Int)] 39) := HN4.out.stay hbw
                          have HV5 : Hid (Sps w5 w.heap.size (.slice (some ⟨g, 0, none⟩) (kk + 1) cv) (ini ++ [(⟨pf, pt, pi⟩ : Sp)])) := HV4.out.below hbw
                          have r0 : w5.cell? ⟨wr.heap.size, 0, none⟩ = some (.int .i64 sf) := HN5.out.cell 0 rfl
                          have r1 : w5.cell? ⟨wr.heap.size, 1, none⟩ = some (.int .i64 st) := HN5.out.cell 1 rfl
                          have r2 : w5.cell? ⟨wr.heap.size, 2, none⟩ = some (.int .i64 (I : Int)) := HN5.out.cell 2 rfl
                          clear hnq hbw s0 s1 s2 b2 e1
                          have HV6 : Hid (Sps (w5.alloc (.cells #[.int .i64 sf, .int .i64 st, .int .i64 (I : Int)] 39)) w.heap.size (.slice (some ⟨g, 0, none⟩) (kk + 1) cv) (ini ++ [(⟨pf, pt, pi⟩ : Sp)])) := HV5.out.below (below_new _ _)
                          have HT6 : Hid (∀ j u, (Sp.cells ⟨sf, st, (I : Int)⟩).toList[j]? = some u → (w5.alloc (.cells #[.int .i64 sf, .int .i64 st, .int .i64 (I : Int)] 39)).cell? ((⟨w5.heap.size, 0, none⟩ : Addr).add j) = some u) := Sp.told (Bk.new w5 _ _)
                          have HS6 : Hid (w.heap.size ≤ (w5.alloc (.cells #[.int .i64 sf, .int .i64 st, .int .i64 (I : Int)] 39)).heap.size) := Nat.le_trans HB5.out.size (below_new _ _).size
                          have HL6 : Hid (((ini ++ [(⟨pf, pt, pi⟩ : Sp)])).length ≤ 3000000000000) := by show _ ≤ _; have := HO.out; omega
                          go_wp2_with (at_builtin; refine wpList_append_sp rfl (.tmp 120) (.tmp 122) rfl w.heap.size (.slice (some ⟨g, 0, none⟩) (kk + 1) cv) (ini ++ [(⟨pf, pt, pi⟩ : Sp)]) rfl HV6.out ⟨w5.heap.size, 0, none⟩ 1 ⟨sf, st, (I : Int)⟩ rfl HT6.out HL6.out HS6.out ?_)
                          intro v' w7 ho hg
                          have HO7 : Hid (Sps w7 w.heap.size v' ((ini ++ [(⟨pf, pt, pi⟩ : Sp)]) ++ [⟨sf, st, (I : Int)⟩])) := by show Sps _ _ _ _; simpa using ho
                          have HK7 : Hid (Bk w7 wr.heap.size #[.int .i64 sf, .int .i64 st, .int .i64 (I : Int)] 39) := (HN5.out.stay (below_new _ _)).grown hg (fun e => by have := (HV.out.row.lt _ e.symm).2; omega)
                          have HB7 : Hid (Below w.heap.size w w7) := (HB5.out.trans ((below_new w5 _).mono HB5.out.size)).trans (HV6.out.grown HS6.out hg)
                          have HLN7 : Hid (((ini ++ [(⟨pf, pt, pi⟩ : Sp)]) ++ [(⟨sf, st, (I : Int)⟩ : Sp)]).length = k + 1) := by show _ = _; rw [List.length_append, HO.out]; rfl
                          obtain ⟨av', cv', rfl, _⟩ := HO7.out.form
                          have r1 : w7.cell? ⟨wr.heap.size, 1, none⟩ = some (.int .i64 st) := HK7.out.cell 1 rfl
                          clear ho hg HV6 HT6 HS6 HL6 r0 r2
                          go_wp2
                          go_roundw
                          case rel => exact ⟨k + 1, (q2 : Int) + 1, ⟨sf, st, (I : Int)⟩, av', _, cv', _, by omega, by go_num, by go_num, rfl, rfl, HGR, ⟨by simp only; omega, by simp only; omega⟩, ⟨by omega, by omega⟩, HLN7, .inr ⟨_, rfl⟩, HO7, HB7⟩
                          case measure => simp [intOf]; omega
                      · have d5 : ((m1 : Int) == 0) = false := by rw [beq_eq_false_iff_ne]; omega
                        have d5' : (m1 == 0) = false := by rw [beq_eq_false_iff_ne]; omega
                        have HGR : Hid (R = takeL bs (n1 - (k + 1)) ((q2 : Int) + 1) ⟨sf, st, (I : Int)⟩ (ini ++ [⟨pf, pt, pi⟩] ++ [⟨sf, st, (I : Int)⟩])) := HGOOD.out ⟨by omega, by omega, fun h => hm1 h.1⟩
                        go_quiet (fail)
                        generalize hnq : W4.drewN _ = w5
                        have hbw : Below W4.heap.size W4 w5 := by rw [← hnq]; exact below_drews (Below.refl _ _) _
                        have HB5 : Hid (Below w.heap.size w w5) := HBW4.out.trans (hbw.mono HBW4.out.size)
                        have HN5 : Hid (Bk w5 wr.heap.size #[.int .i64 sf, .int .i64 st, .int .i64 (I : Int)] 39) := HN4.out.stay hbw
                        have HV5 : Hid (Sps w5 w.heap.size (.slice (some ⟨g, 0, none⟩) (kk + 1) cv) (ini ++ [(⟨pf, pt, pi⟩ : Sp)])) := HV4.out.below hbw
                        have r0 : w5.cell? ⟨wr.heap.size, 0, none⟩ = some (.int .i64 sf) := HN5.out.cell 0 rfl
                        have r1 : w5.cell? ⟨wr.heap.size, 1, none⟩ = some (.int .i64 st) := HN5.out.cell 1 rfl
                        have r2 : w5.cell? ⟨wr.heap.size, 2, none⟩ = some (.int .i64 (I : Int)) := HN5.out.cell 2 rfl
                        clear hnq hbw s0 s1 s2 b2 e1
                        have HV6 : Hid (Sps (w5.alloc (.cells #[.int .i64 sf, .int .i64 st, .int .i64 (I : Int)] 39)) w.heap.size (.slice (some ⟨g, 0, none⟩) (kk + 1) cv) (ini ++ [(⟨pf, pt, pi⟩ : Sp)])) := HV5.out.below (below_new _ _)
                        have HT6 : Hid (∀ j u, (Sp.cells ⟨sf, st, (I : Int)⟩).toList[j]? = some u → (w5.alloc (.cells #[.int .i64 sf, .int .i64 st, .int .i64 (I : Int)] 39)).cell? ((⟨w5.heap.size, 0, none⟩ : Addr).add j) = some u) := Sp.told (Bk.new w5 _ _)
                        have HS6 : Hid (w.heap.size ≤ (w5.alloc (.cells #[.int .i64 sf, .int .i64 st, .int .i64 (I : Int)] 39)).heap.size) := Nat.le_trans HB5.out.size (below_new _ _).size
                        have HL6 : Hid (((ini ++ [(⟨pf, pt, pi⟩ : Sp)])).length ≤ 3000000000000) := by show _ ≤ _; have := HO.out; omega
                        go_wp2_with (at_builtin; refine wpList_append_sp rfl (.tmp 120) (.tmp 122) rfl w.heap.size (.slice (some ⟨g, 0, none⟩) (kk + 1) cv) (ini ++ [(⟨pf, pt, pi⟩ : Sp)]) rfl HV6.out ⟨w5.heap.size, 0, none⟩ 1 ⟨sf, st, (I : Int)⟩ rfl HT6.out HL6.out HS6.out ?_)
                        intro v' w7 ho hg
                        have HO7 : Hid (Sps w7 w.heap.size v' ((ini ++ [(⟨pf, pt, pi⟩ : Sp)]) ++ [⟨sf, st, (I : Int)⟩])) := by show Sps _ _ _ _; simpa using ho
                        have HK7 : Hid (Bk w7 wr.heap.size #[.int .i64 sf, .int .i64 st, .int .i64 (I : Int)] 39) := (HN5.out.stay (below_new _ _)).grown hg (fun e => by have := (HV.out.row.lt _ e.symm).2; omega)
                        have HB7 : Hid (Below w.heap.size w w7) := (HB5.out.trans ((below_new w5 _).mono HB5.out.size)).trans (HV6.out.grown HS6.out hg)
                        have HLN7 : Hid (((ini ++ [(⟨pf, pt, pi⟩ : Sp)]) ++ [(⟨sf, st, (I : Int)⟩ : Sp)]).length = k + 1) := by show _ = _; rw [List.length_append, HO.out]; rfl
                        obtain ⟨av', cv', rfl, _⟩ := HO7.out.form
                        have r1 : w7.cell? ⟨wr.heap.size, 1, none⟩ = some (.int .i64 st) := HK7.out.cell 1 rfl
                        clear ho hg HV6 HT6 HS6 HL6 r0 r2
                        go_wp2
                        go_roundw
                        case rel => exact ⟨k + 1, (q2 : Int) + 1, ⟨sf, st, (I : Int)⟩, av', _, cv', _, by omega, by go_num, by go_num, rfl, rfl, HGR, ⟨by simp only; omega, by simp only; omega⟩, ⟨by omega, by omega⟩, HLN7, .inr ⟨_, rfl⟩, HO7, HB7⟩
                        case measure => simp [intOf]; omega
            · have hf2' : ((f2 : Int) == 0) = false := by rw [beq_eq_false_iff_ne]; omega
              have hf2n : ¬ ((f2 : Int) = 0) := by omega
              have HRX2 : Hid (R = ([], 0, (f2 : Int))) := by show _ = _; rw [HE1.out, takeL_bad (one_2 HU1.out HU2.out hf2) (by omega)]
              go_wp2
              go_returns
              exact ⟨⟨_, by rw [HRX2.out]; rfl, by rw [HRX2.out]; exact Sps.nil_ _ _⟩, HB.out⟩
          · have hf1' : ((f1 : Int) == 0) = false := by rw [beq_eq_false_iff_ne]; omega
            have hf1n : ¬ ((f1 : Int) = 0) := by omega
            have HRX2 : Hid (R = ([], 0, (f1 : Int))) := by show _ = _; rw [HE1.out, takeL_bad (one_1 HU1.out hf1) (by omega)]
            go_wp2
            go_returns
            exact ⟨⟨_, by rw [HRX2.out]; rfl, by rw [HRX2.out]; exact Sps.nil_ _ _⟩, HB.out⟩
        · have hnl : ¬ (k : Int) < (n1 : Int) := by omega
          have HX2 : Hid (R = (out, y, 0)) := by show _ = _; rw [HE.out, show n1 - k = 0 from by omega, takeL]
          clear HE
          go_wp2
          go_returns
          exact ⟨⟨_, by rw [HX2.out]; rfl, by rw [HX2.out]; exact HV.out⟩, HB.out⟩
  · have he1' : ((e1 : Int) == 0) = false := by rw [beq_eq_false_iff_ne]; omega
    have he1n : ¬ ((e1 : Int) = 0) := by omega
    have HRX : Hid (R = ([], 0, (e1 : Int))) := by show _ = _; rw [← HRR.out, takeM_1 HT1.out he1]
    go_wp2
    go_returns
    exact ⟨⟨_, by rw [HRX.out]; rfl, by rw [HRX.out]; exact Sps.nil_ _ _⟩, Below.refl _ _⟩
end Go.Proofs.Ytmpljoljpgbamaa
