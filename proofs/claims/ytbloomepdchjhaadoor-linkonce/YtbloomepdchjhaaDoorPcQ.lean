/- A pack of texts: PcR1 PcR2 PlM PtB2 PtL Lk18 Lk19. -/
import Derived.Test.YtbloomepdchjhaaDoorSpanP
import Derived.Test.YtbloomepdchjhaaDoorSpR
import Derived.WalkMore
import Derived.Test.YtbloomepdchjhaaDoorPcP
import Derived.Test.YtbloomepdchjhaaDoorPtS
import Derived.Test.YtbloomepdchjhaaDoorLk17
/- grapevineref13: ranged, named, from, Check. -/
namespace Go.Proofs.YtbloomepdchjhaaDoor
open Go.RowKit

set_option maxRecDepth 100000 in
theorem ref_ranged (k : Int) (w : World) : Calls Tryd.prog 18 #[.int .i64 k] w fun e w' => e = .returned (.bool (toB k)) ∧ w' = w := by
  by_cases h1 : k = 1
  · subst h1
    go_enter Tryd.func18, Tryd.ntmps18
    go_wp2
    go_ret
    exact ⟨rfl, rfl⟩
  by_cases h2 : k = 2
  · subst h2
    go_enter Tryd.func18, Tryd.ntmps18
    go_wp2
    go_ret
    exact ⟨rfl, rfl⟩
  have e3 : toB k = false := by simp [toB, *]
  have h1' : (k == 1) = false := by simpa using h1
  have h2' : (k == 2) = false := by simpa using h2
  rw [e3]
  clear e3
  go_enter Tryd.func18, Tryd.ntmps18
  go_wp2
  go_ret
  exact ⟨rfl, rfl⟩
set_option maxRecDepth 100000 in
theorem ref_named (k : Int) (w : World) : Calls Tryd.prog 19 #[.int .i64 k] w fun e w' => e = .returned (.bool (subB k)) ∧ w' = w := by
  by_cases h1 : k = 3
  · subst h1
    go_enter Tryd.func19, Tryd.ntmps19
    go_wp2
    go_ret
    exact ⟨rfl, rfl⟩
  by_cases h2 : k = 4
  · subst h2
    go_enter Tryd.func19, Tryd.ntmps19
    go_wp2
    go_ret
    exact ⟨rfl, rfl⟩
  by_cases h3 : k = 5
  · subst h3
    go_enter Tryd.func19, Tryd.ntmps19
    go_wp2
    go_ret
    exact ⟨rfl, rfl⟩
  by_cases h4 : k = 6
  · subst h4
    go_enter Tryd.func19, Tryd.ntmps19
    go_wp2
    go_ret
    exact ⟨rfl, rfl⟩
  have e3 : subB k = false := by simp [subB, *]
  have h1' : (k == 3) = false := by simpa using h1
  have h2' : (k == 4) = false := by simpa using h2
  have h3' : (k == 5) = false := by simpa using h3
  have h4' : (k == 6) = false := by simpa using h4
  rw [e3]
  clear e3
  go_enter Tryd.func19, Tryd.ntmps19
  go_wp2
  go_ret
  exact ⟨rfl, rfl⟩
set_option maxRecDepth 100000 in
theorem ref_from (k : Int) (w : World) : Calls Tryd.prog 20 #[.int .i64 k] w fun e w' => e = .returned (.bool (fromB k)) ∧ w' = w := by
  obtain ⟨b, HF⟩ : ∃ b, Hid (b = fromB k) := ⟨_, rfl⟩
  rw [← HF.out]
  go_enter Tryd.func20, Tryd.ntmps20
  go_wp2_with fail
  refine (ref_ranged k w).mono ?_
  by_cases h1 : k = 1 ∨ k = 2
  · rw [show toB k = true from by simp [toB, h1]]
    have HX : Hid (b = true) := by show _ = _; rw [HF.out]; simp [fromB]; omega
    rintro e w1 ⟨rfl, rfl⟩
    clear HF h1
    go_wp2
    go_ret
    exact ⟨by rw [HX.out]; rfl, rfl⟩
  · rw [show toB k = false from by simp [toB, h1]]
    rintro e w1 ⟨rfl, rfl⟩
    by_cases h3 : k = 3
    · have HX : Hid (b = true) := by show _ = _; rw [HF.out]; simp [fromB]; omega
      clear HF h1
      subst h3
      go_wp2
      go_ret
      exact ⟨by rw [HX.out]; rfl, rfl⟩
    have h3' : (k == 3) = false := by simpa using h3
    by_cases h5 : k = 5
    · have HX : Hid (b = true) := by show _ = _; rw [HF.out]; simp [fromB]; omega
      clear HF h1 h3 h3'
      subst h5
      go_wp2
      go_ret
      exact ⟨by rw [HX.out]; rfl, rfl⟩
    have h5' : (k == 5) = false := by simpa using h5
    have HX : Hid (b = false) := by show _ = _; rw [HF.out]; simp [fromB]; omega
    clear HF h1
    go_wp2
    go_ret
    exact ⟨by rw [HX.out]; rfl, rfl⟩
end Go.Proofs.YtbloomepdchjhaaDoor
/- grapevineref13.Check. -/
namespace Go.Proofs.YtbloomepdchjhaaDoor
open Go.RowKit

theorem chk_num {p : Pc} (h : isB p.kind = true) (h2 : numB p (subB p.kind) (fromB p.kind) (toB p.kind) = false) : chk p = 2 := chk_arg h h2
theorem tell_kind {k : Int} (h : k = 1) : isB k = true ∧ subB k = false ∧ fromB k = true ∧ toB k = true ∧ newsB k = true := by subst h; decide
theorem want_kind {k : Int} (h : k = 2) : isB k = true ∧ subB k = false ∧ fromB k = true ∧ toB k = true ∧ newsB k = false := by subst h; decide
theorem ack_kind {k : Int} (h : k = 3 ∨ k = 5) : isB k = true ∧ subB k = true ∧ fromB k = true ∧ toB k = false ∧ newsB k = false := by rcases h with rfl | rfl <;> decide
theorem join_kind {k : Int} (h : k = 4 ∨ k = 6) : isB k = true ∧ subB k = true ∧ fromB k = false ∧ toB k = false ∧ newsB k = false := by rcases h with rfl | rfl <;> decide
theorem bad_kind {k : Int} (h : isB k = false) : subB k = false ∧ fromB k = false ∧ toB k = false ∧ newsB k = false := by
  simp only [isB, decide_eq_false_iff_not] at h
  refine ⟨?_, ?_, ?_, ?_⟩
  · simp only [subB, decide_eq_false_iff_not]; omega
  · simp only [fromB, decide_eq_false_iff_not]; omega
  · simp only [toB, decide_eq_false_iff_not]; omega
  · simp only [newsB, decide_eq_false_iff_not]; omega

set_option maxRecDepth 100000 in
set_option maxHeartbeats 4000000 in
theorem ref_Check_bad (pk pp ps pn pf pt : Int) (pl : List Sp) (pi : List It) (sa : Option Addr) (sn sc : Nat) (ia : Option Addr) (im ic : Nat) (w : World) (hk : isB pk = false) : Calls Tryd.prog 42 #[Pc.val ⟨pk, pp, ps, pn, pf, pt, pl, pi⟩ sa sn sc ia im ic] w fun e w' => e = .returned (.int .i64 (chk ⟨pk, pp, ps, pn, pf, pt, pl, pi⟩)) ∧ Below w.heap.size w w' := by
  have HB : Hid (Below w.heap.size w (w.alloc (.cells #[.int .i64 pk, .int .i64 pp, .int .i64 ps, .int .i64 pn, .int .i64 pf, .int .i64 pt, .slice sa sn sc, .slice ia im ic] 37))) := below_new _ _
  obtain ⟨b, HF⟩ : ∃ b, Hid (b = chk ⟨pk, pp, ps, pn, pf, pt, pl, pi⟩) := ⟨_, rfl⟩
  rw [← HF.out]
  unfold Pc.val
  simp only
  have HX : Hid (b = 12) := by show _ = _; rw [HF.out, chk_type hk]
  have HR : Hid (toB pk = false) := (bad_kind hk).2.2.1
  have HN : Hid (subB pk = false) := (bad_kind hk).1
  clear HF hk
  go_enter Tryd.func42, Tryd.ntmps42
  go_wp2_with fail
  refine (ref_ranged pk _).mono ?_
  rw [HR.out]
  rintro e w1 ⟨rfl, rfl⟩
  go_wp2_with fail
  refine (ref_named pk _).mono ?_
  rw [HN.out]
  rintro e w1 ⟨rfl, rfl⟩
  go_wp2
  go_ret
  exact ⟨by rw [HX.out]; rfl, HB.out⟩

set_option maxRecDepth 100000 in
set_option maxHeartbeats 4000000 in
theorem ref_Check_want (pk pp ps pn pf pt : Int) (pl : List Sp) (pi : List It) (sa : Option Addr) (sn sc : Nat) (ia : Option Addr) (im ic : Nat) (w : World) (hk : pk = 2) : Calls Tryd.prog 42 #[Pc.val ⟨pk, pp, ps, pn, pf, pt, pl, pi⟩ sa sn sc ia im ic] w fun e w' => e = .returned (.int .i64 (chk ⟨pk, pp, ps, pn, pf, pt, pl, pi⟩)) ∧ Below w.heap.size w w' := by
  have HB : Hid (Below w.heap.size w (w.alloc (.cells #[.int .i64 pk, .int .i64 pp, .int .i64 ps, .int .i64 pn, .int .i64 pf, .int .i64 pt, .slice sa sn sc, .slice ia im ic] 37))) := below_new _ _
  obtain ⟨b, HF⟩ : ∃ b, Hid (b = chk ⟨pk, pp, ps, pn, pf, pt, pl, pi⟩) := ⟨_, rfl⟩
  rw [← HF.out]
  unfold Pc.val
  simp only
  have HK : Hid (isB pk = true ∧ subB pk = false ∧ fromB pk = true ∧ toB pk = true ∧ newsB pk = false) := want_kind hk
  have HR : Hid (toB pk = true) := HK.out.2.2.2.1
  have HN : Hid (subB pk = false) := HK.out.2.1
  have HO : Hid (fromB pk = true) := HK.out.2.2.1
  have hk1 : ¬ pk = 1 := by omega
  have hk1' : (pk == 1) = false := by simpa using hk1
  clear hk
  go_enter Tryd.func42, Tryd.ntmps42
  go_wp2_with fail
  refine (ref_ranged pk _).mono ?_
  rw [HR.out]
  rintro e w1 ⟨rfl, rfl⟩
  by_cases h1 : ¬ (0 ≤ pp)
  · have HX : Hid (b = 2) := by show _ = _; rw [HF.out, chk_num HK.out.1 (by simp only [HK.out.2.1, HK.out.2.2.1, HK.out.2.2.2.1, numB, pubB, namB, rngB, froB]; simp; omega)]
    clear HF
    go_wp2
    go_ret
    exact ⟨by rw [HX.out]; rfl, HB.out⟩
  replace h1 := Decidable.not_not.1 h1
  by_cases h2 : ¬ (pp < 3)
  · have HX : Hid (b = 2) := by show _ = _; rw [HF.out, chk_num HK.out.1 (by simp only [HK.out.2.1, HK.out.2.2.1, HK.out.2.2.2.1, numB, pubB, namB, rngB, froB]; simp; omega)]
    clear HF
    go_wp2
    go_ret
    exact ⟨by rw [HX.out]; rfl, HB.out⟩
  replace h2 := Decidable.not_not.1 h2
  go_wp2_with fail
  refine (ref_named pk _).mono ?_
  rw [HN.out]
  rintro e w1 ⟨rfl, rfl⟩
  go_wp2_with fail
  refine (ref_ranged pk _).mono ?_
  rw [HR.out]
  rintro e w1 ⟨rfl, rfl⟩
  by_cases h3 : ¬ (1 ≤ pf)
  · have HX : Hid (b = 2) := by show _ = _; rw [HF.out, chk_num HK.out.1 (by simp only [HK.out.2.1, HK.out.2.2.1, HK.out.2.2.2.1, numB, pubB, namB, rngB, froB]; simp; omega)]
    clear HF
    go_wp2
    go_ret
    exact ⟨by rw [HX.out]; rfl, HB.out⟩
  replace h3 := Decidable.not_not.1 h3
  by_cases h4 : ¬ (pf ≤ pt)
  · have HX : Hid (b = 2) := by show _ = _; rw [HF.out, chk_num HK.out.1 (by simp only [HK.out.2.1, HK.out.2.2.1, HK.out.2.2.2.1, numB, pubB, namB, rngB, froB]; simp; omega)]
    clear HF
    go_wp2
    go_ret
    exact ⟨by rw [HX.out]; rfl, HB.out⟩
  replace h4 := Decidable.not_not.1 h4
  by_cases h5 : ¬ (pt ≤ 1099511627776)
  · have HX : Hid (b = 2) := by show _ = _; rw [HF.out, chk_num HK.out.1 (by simp only [HK.out.2.1, HK.out.2.2.1, HK.out.2.2.2.1, numB, pubB, namB, rngB, froB]; simp; omega)]
    clear HF
    go_wp2
    go_ret
    exact ⟨by rw [HX.out]; rfl, HB.out⟩
  replace h5 := Decidable.not_not.1 h5
  go_wp2_with fail
  refine (ref_named pk _).mono ?_
  rw [HN.out]
  rintro e w1 ⟨rfl, rfl⟩
  have HX : Hid (b = 0) := by show _ = _; rw [HF.out, chk_plain HK.out.1 (by simp only [HK.out.2.1, HK.out.2.2.1, HK.out.2.2.2.1, numB, pubB, namB, rngB, froB]; simp; omega) HK.out.2.2.2.2]
  clear HF
  go_wp2
  go_ret
  exact ⟨by rw [HX.out]; rfl, HB.out⟩

set_option maxRecDepth 100000 in
set_option maxHeartbeats 4000000 in
theorem ref_Check_ack (pk pp ps pn pf pt : Int) (pl : List Sp) (pi : List It) (sa : Option Addr) (sn sc : Nat) (ia : Option Addr) (im ic : Nat) (w : World) (hk : pk = 3 ∨ pk = 5) : Calls Tryd.prog 42 #[Pc.val ⟨pk, pp, ps, pn, pf, pt, pl, pi⟩ sa sn sc ia im ic] w fun e w' => e = .returned (.int .i64 (chk ⟨pk, pp, ps, pn, pf, pt, pl, pi⟩)) ∧ Below w.heap.size w w' := by
  have HB : Hid (Below w.heap.size w (w.alloc (.cells #[.int .i64 pk, .int .i64 pp, .int .i64 ps, .int .i64 pn, .int .i64 pf, .int .i64 pt, .slice sa sn sc, .slice ia im ic] 37))) := below_new _ _
  obtain ⟨b, HF⟩ : ∃ b, Hid (b = chk ⟨pk, pp, ps, pn, pf, pt, pl, pi⟩) := ⟨_, rfl⟩
  rw [← HF.out]
  unfold Pc.val
  simp only
  have HK : Hid (isB pk = true ∧ subB pk = true ∧ fromB pk = true ∧ toB pk = false ∧ newsB pk = false) := ack_kind hk
  have HR : Hid (toB pk = false) := HK.out.2.2.2.1
  have HN : Hid (subB pk = true) := HK.out.2.1
  have HO : Hid (fromB pk = true) := HK.out.2.2.1
  have hk1 : ¬ pk = 1 := by omega
  have hk1' : (pk == 1) = false := by simpa using hk1
  clear hk
  go_enter Tryd.func42, Tryd.ntmps42
  go_wp2_with fail
  refine (ref_ranged pk _).mono ?_
  rw [HR.out]
  rintro e w1 ⟨rfl, rfl⟩
  go_wp2_with fail
  refine (ref_named pk _).mono ?_
  rw [HN.out]
  rintro e w1 ⟨rfl, rfl⟩
  by_cases h1 : ¬ (0 ≤ pp)
  · have HX : Hid (b = 2) := by show _ = _; rw [HF.out, chk_num HK.out.1 (by simp only [HK.out.2.1, HK.out.2.2.1, HK.out.2.2.2.1, numB, pubB, namB, rngB, froB]; simp; omega)]
    clear HF
    go_wp2
    go_ret
    exact ⟨by rw [HX.out]; rfl, HB.out⟩
  replace h1 := Decidable.not_not.1 h1
  by_cases h2 : ¬ (pp < 3)
  · have HX : Hid (b = 2) := by show _ = _; rw [HF.out, chk_num HK.out.1 (by simp only [HK.out.2.1, HK.out.2.2.1, HK.out.2.2.2.1, numB, pubB, namB, rngB, froB]; simp; omega)]
    clear HF
    go_wp2
    go_ret
    exact ⟨by rw [HX.out]; rfl, HB.out⟩
  replace h2 := Decidable.not_not.1 h2
  go_wp2_with fail
  refine (ref_named pk _).mono ?_
  rw [HN.out]
  rintro e w1 ⟨rfl, rfl⟩
  by_cases h3 : ¬ (1 ≤ ps)
  · have HX : Hid (b = 2) := by show _ = _; rw [HF.out, chk_num HK.out.1 (by simp only [HK.out.2.1, HK.out.2.2.1, HK.out.2.2.2.1, numB, pubB, namB, rngB, froB]; simp; omega)]
    clear HF
    go_wp2
    go_ret
    exact ⟨by rw [HX.out]; rfl, HB.out⟩
  replace h3 := Decidable.not_not.1 h3
  by_cases h4 : ¬ (ps ≤ 32)
  · have HX : Hid (b = 2) := by show _ = _; rw [HF.out, chk_num HK.out.1 (by simp only [HK.out.2.1, HK.out.2.2.1, HK.out.2.2.2.1, numB, pubB, namB, rngB, froB]; simp; omega)]
    clear HF
    go_wp2
    go_ret
    exact ⟨by rw [HX.out]; rfl, HB.out⟩
  replace h4 := Decidable.not_not.1 h4
  by_cases h5 : ¬ (1 ≤ pn)
  · have HX : Hid (b = 2) := by show _ = _; rw [HF.out, chk_num HK.out.1 (by simp only [HK.out.2.1, HK.out.2.2.1, HK.out.2.2.2.1, numB, pubB, namB, rngB, froB]; simp; omega)]
    clear HF
    go_wp2
    go_ret
    exact ⟨by rw [HX.out]; rfl, HB.out⟩
  replace h5 := Decidable.not_not.1 h5
  by_cases h6 : ¬ (pn ≤ 1073741824)
  · have HX : Hid (b = 2) := by show _ = _; rw [HF.out, chk_num HK.out.1 (by simp only [HK.out.2.1, HK.out.2.2.1, HK.out.2.2.2.1, numB, pubB, namB, rngB, froB]; simp; omega)]
    clear HF
    go_wp2
    go_ret
    exact ⟨by rw [HX.out]; rfl, HB.out⟩
  replace h6 := Decidable.not_not.1 h6
  go_wp2_with fail
  refine (ref_ranged pk _).mono ?_
  rw [HR.out]
  rintro e w1 ⟨rfl, rfl⟩
  go_wp2_with fail
  refine (ref_named pk _).mono ?_
  rw [HN.out]
  rintro e w1 ⟨rfl, rfl⟩
  go_wp2_with fail
  refine (ref_from pk _).mono ?_
  rw [HO.out]
  rintro e w1 ⟨rfl, rfl⟩
  by_cases h7 : ¬ (0 ≤ pf)
  · have HX : Hid (b = 2) := by show _ = _; rw [HF.out, chk_num HK.out.1 (by simp only [HK.out.2.1, HK.out.2.2.1, HK.out.2.2.2.1, numB, pubB, namB, rngB, froB]; simp; omega)]
    clear HF
    go_wp2
    go_ret
    exact ⟨by rw [HX.out]; rfl, HB.out⟩
  replace h7 := Decidable.not_not.1 h7
  by_cases h8 : ¬ (pf ≤ 1099511627776)
  · have HX : Hid (b = 2) := by show _ = _; rw [HF.out, chk_num HK.out.1 (by simp only [HK.out.2.1, HK.out.2.2.1, HK.out.2.2.2.1, numB, pubB, namB, rngB, froB]; simp; omega)]
    clear HF
    go_wp2
    go_ret
    exact ⟨by rw [HX.out]; rfl, HB.out⟩
  replace h8 := Decidable.not_not.1 h8
  have HX : Hid (b = 0) := by show _ = _; rw [HF.out, chk_plain HK.out.1 (by simp only [HK.out.2.1, HK.out.2.2.1, HK.out.2.2.2.1, numB, pubB, namB, rngB, froB]; simp; omega) HK.out.2.2.2.2]
  clear HF
  go_wp2
  go_ret
  exact ⟨by rw [HX.out]; rfl, HB.out⟩

set_option maxRecDepth 100000 in
set_option maxHeartbeats 4000000 in
theorem ref_Check_join (pk pp ps pn pf pt : Int) (pl : List Sp) (pi : List It) (sa : Option Addr) (sn sc : Nat) (ia : Option Addr) (im ic : Nat) (w : World) (hk : pk = 4 ∨ pk = 6) : Calls Tryd.prog 42 #[Pc.val ⟨pk, pp, ps, pn, pf, pt, pl, pi⟩ sa sn sc ia im ic] w fun e w' => e = .returned (.int .i64 (chk ⟨pk, pp, ps, pn, pf, pt, pl, pi⟩)) ∧ Below w.heap.size w w' := by
  have HB : Hid (Below w.heap.size w (w.alloc (.cells #[.int .i64 pk, .int .i64 pp, .int .i64 ps, .int .i64 pn, .int .i64 pf, .int .i64 pt, .slice sa sn sc, .slice ia im ic] 37))) := below_new _ _
  obtain ⟨b, HF⟩ : ∃ b, Hid (b = chk ⟨pk, pp, ps, pn, pf, pt, pl, pi⟩) := ⟨_, rfl⟩
  rw [← HF.out]
  unfold Pc.val
  simp only
  have HK : Hid (isB pk = true ∧ subB pk = true ∧ fromB pk = false ∧ toB pk = false ∧ newsB pk = false) := join_kind hk
  have HR : Hid (toB pk = false) := HK.out.2.2.2.1
  have HN : Hid (subB pk = true) := HK.out.2.1
  have HO : Hid (fromB pk = false) := HK.out.2.2.1
  have hk1 : ¬ pk = 1 := by omega
  have hk1' : (pk == 1) = false := by simpa using hk1
  clear hk
  go_enter Tryd.func42, Tryd.ntmps42
  go_wp2_with fail
  refine (ref_ranged pk _).mono ?_
  rw [HR.out]
  rintro e w1 ⟨rfl, rfl⟩
  go_wp2_with fail
  refine (ref_named pk _).mono ?_
  rw [HN.out]
  rintro e w1 ⟨rfl, rfl⟩
  by_cases h1 : ¬ (0 ≤ pp)
  · have HX : Hid (b = 2) := by show _ = _; rw [HF.out, chk_num HK.out.1 (by simp only [HK.out.2.1, HK.out.2.2.1, HK.out.2.2.2.1, numB, pubB, namB, rngB, froB]; simp; omega)]
    clear HF
    go_wp2
    go_ret
    exact ⟨by rw [HX.out]; rfl, HB.out⟩
  replace h1 := Decidable.not_not.1 h1
  by_cases h2 : ¬ (pp < 3)
  · have HX : Hid (b = 2) := by show _ = _; rw [HF.out, chk_num HK.out.1 (by simp only [HK.out.2.1, HK.out.2.2.1, HK.out.2.2.2.1, numB, pubB, namB, rngB, froB]; simp; omega)]
    clear HF
    go_wp2
    go_ret
    exact ⟨by rw [HX.out]; rfl, HB.out⟩
  replace h2 := Decidable.not_not.1 h2
  go_wp2_with fail
  refine (ref_named pk _).mono ?_
  rw [HN.out]
  rintro e w1 ⟨rfl, rfl⟩
  by_cases h3 : ¬ (1 ≤ ps)
  · have HX : Hid (b = 2) := by show _ = _; rw [HF.out, chk_num HK.out.1 (by simp only [HK.out.2.1, HK.out.2.2.1, HK.out.2.2.2.1, numB, pubB, namB, rngB, froB]; simp; omega)]
    clear HF
    go_wp2
    go_ret
    exact ⟨by rw [HX.out]; rfl, HB.out⟩
  replace h3 := Decidable.not_not.1 h3
  by_cases h4 : ¬ (ps ≤ 32)
  · have HX : Hid (b = 2) := by show _ = _; rw [HF.out, chk_num HK.out.1 (by simp only [HK.out.2.1, HK.out.2.2.1, HK.out.2.2.2.1, numB, pubB, namB, rngB, froB]; simp; omega)]
    clear HF
    go_wp2
    go_ret
    exact ⟨by rw [HX.out]; rfl, HB.out⟩
  replace h4 := Decidable.not_not.1 h4
  by_cases h5 : ¬ (1 ≤ pn)
  · have HX : Hid (b = 2) := by show _ = _; rw [HF.out, chk_num HK.out.1 (by simp only [HK.out.2.1, HK.out.2.2.1, HK.out.2.2.2.1, numB, pubB, namB, rngB, froB]; simp; omega)]
    clear HF
    go_wp2
    go_ret
    exact ⟨by rw [HX.out]; rfl, HB.out⟩
  replace h5 := Decidable.not_not.1 h5
  by_cases h6 : ¬ (pn ≤ 1073741824)
  · have HX : Hid (b = 2) := by show _ = _; rw [HF.out, chk_num HK.out.1 (by simp only [HK.out.2.1, HK.out.2.2.1, HK.out.2.2.2.1, numB, pubB, namB, rngB, froB]; simp; omega)]
    clear HF
    go_wp2
    go_ret
    exact ⟨by rw [HX.out]; rfl, HB.out⟩
  replace h6 := Decidable.not_not.1 h6
  go_wp2_with fail
  refine (ref_ranged pk _).mono ?_
  rw [HR.out]
  rintro e w1 ⟨rfl, rfl⟩
  go_wp2_with fail
  refine (ref_named pk _).mono ?_
  rw [HN.out]
  rintro e w1 ⟨rfl, rfl⟩
  go_wp2_with fail
  refine (ref_from pk _).mono ?_
  rw [HO.out]
  rintro e w1 ⟨rfl, rfl⟩
  have HX : Hid (b = 0) := by show _ = _; rw [HF.out, chk_plain HK.out.1 (by simp only [HK.out.2.1, HK.out.2.2.1, HK.out.2.2.2.1, numB, pubB, namB, rngB, froB]; simp; omega) HK.out.2.2.2.2]
  clear HF
  go_wp2
  go_ret
  exact ⟨by rw [HX.out]; rfl, HB.out⟩

end Go.Proofs.YtbloomepdchjhaaDoor
/- Plain parcels. -/
namespace Go.Proofs.YtbloomepdchjhaaDoor

/-- A parcel with zero in what its kind does not use. -/
def plainP (p : Pc) : Pc := ⟨p.kind, p.pub, if subB p.kind = true then p.sub else 0, if subB p.kind = true then p.n_ else 0, if fromB p.kind = true then p.fr else 0, if toB p.kind = true then p.to_ else 0, if newsB p.kind = true then p.spans else [], if newsB p.kind = true then p.items else []⟩
/-- So of every kind. -/
def plainQ (p : Pc) : Pc := if isB p.kind = true then plainP p else ⟨p.kind, 0, 0, 0, 0, 0, [], []⟩
theorem plainQ_is {p : Pc} (h : isB p.kind = true) : plainQ p = plainP p := if_pos h
theorem plainQ_bad {p : Pc} (h : isB p.kind = false) : plainQ p = ⟨p.kind, 0, 0, 0, 0, 0, [], []⟩ := by rw [plainQ, h]; rfl
end Go.Proofs.YtbloomepdchjhaaDoor
/- Take of put: the whole parcel. -/
namespace Go.Proofs.YtbloomepdchjhaaDoor

theorem optF_put {b : Bool} {n : Nat} (hn : b = true → n ≤ 1099511627776) (xs zs : List Nat) : optF b (xs ++ (if b = true then lebs [n] else []) ++ zs) ⟨(xs.length : Int), 0⟩ = (if b = true then n else 0, ⟨((xs ++ (if b = true then lebs [n] else [])).length : Int), 0⟩) := by
  cases b with
  | true => exact numF_put (hn rfl) (by omega) xs zs
  | false => simp [optF]
theorem toNat_in {x : Int} {l : Nat} (h0 : 0 ≤ x) (h1 : x ≤ l) : x.toNat ≤ l ∧ ((x.toNat : Nat) : Int) = x := by omega
theorem news_put {b : Bool} {l : List Sp} {m : List It} (h1 : b = true → rightB Sp.zr l = true) (h2 : b = true → ¬ 256 < l.length) (h3 : b = true → m.length ≤ 8) (h4 : b = true → ∀ q ∈ m, ItFit q) (xs : List Nat) :
    (if b = true then spF (xs ++ (if b = true then putT l ++ (lebs [m.length] ++ putIs m) else [])) ⟨(xs.length : Int), 0⟩ else ([], ⟨(xs.length : Int), 0⟩)).1 = (if b = true then l else []) ∧
    (if b = true then itemsF (xs ++ (if b = true then putT l ++ (lebs [m.length] ++ putIs m) else [])) (if b = true then spF (xs ++ (if b = true then putT l ++ (lebs [m.length] ++ putIs m) else [])) ⟨(xs.length : Int), 0⟩ else ([], ⟨(xs.length : Int), 0⟩)).2 else ([], (if b = true then spF (xs ++ (if b = true then putT l ++ (lebs [m.length] ++ putIs m) else [])) ⟨(xs.length : Int), 0⟩ else ([], ⟨(xs.length : Int), 0⟩)).2)) = (if b = true then m else [], ⟨((xs ++ (if b = true then putT l ++ (lebs [m.length] ++ putIs m) else [])).length : Int), 0⟩) := by
  cases b with
  | false => simp
  | true =>
    have a1 := spF_put (h1 rfl) (h2 rfl) xs (lebs [m.length] ++ putIs m)
    have a2 := itemsF_put (h3 rfl) (h4 rfl) (xs ++ putT l) []
    simp only [if_true, List.append_assoc, List.append_nil] at a1 a2 ⊢
    rw [a1]
    simp only
    rw [a2]
    exact ⟨trivial, rfl⟩
theorem chk_facts {p : Pc} (h : chk p = 0) : isB p.kind = true ∧ (0 ≤ p.pub ∧ p.pub ≤ 1099511627776) ∧ (subB p.kind = true → (0 ≤ p.sub ∧ p.sub ≤ 1099511627776) ∧ (0 ≤ p.n_ ∧ p.n_ ≤ 1099511627776)) ∧ (fromB p.kind = true → 0 ≤ p.fr ∧ p.fr ≤ 1099511627776) ∧ (toB p.kind = true → 0 ≤ p.to_ ∧ p.to_ ≤ 1099511627776) := by
  obtain ⟨h1, h2, _⟩ := chk_zero h
  refine ⟨h1, ?_⟩
  obtain ⟨pk, pp, ps, pn, pf, pt, pl, pi⟩ := p
  simp only at h1 h2 ⊢
  rcases kinds h1 with rfl | rfl | rfl | rfl | rfl | rfl <;> simp [numB, pubB, namB, rngB, froB, subB, fromB, toB] at h2 ⊢ <;> omega
theorem parF_put {p : Pc} (h : chk p = 0) (hi : newsB p.kind = true → ∀ q ∈ p.items, ItFit q) : parF (putP p) p.kind ⟨1, 0⟩ = (plainP p, ⟨((putP p).length : Int), 0⟩) := by
  obtain ⟨h1, ⟨ha, ha'⟩, hb, hd, he⟩ := chk_facts h
  have hz := (chk_zero h).2.2
  obtain ⟨pa, pa'⟩ := toNat_in (l := 1099511627776) ha ha'
  have e : putP p = [p.kind.toNat] ++ (lebs [p.pub.toNat] ++ ((if subB p.kind = true then lebs [p.sub.toNat] else []) ++ ((if subB p.kind = true then lebs [p.n_.toNat] else []) ++ ((if fromB p.kind = true then lebs [p.fr.toNat] else []) ++ ((if toB p.kind = true then lebs [p.to_.toNat] else []) ++ (if newsB p.kind = true then putT p.spans ++ (lebs [p.items.length] ++ putIs p.items) else [])))))) := by
    unfold putP
    cases subB p.kind <;> simp [lebs]
  obtain ⟨A, hA⟩ : ∃ A, A = lebs [p.pub.toNat] := ⟨_, rfl⟩
  obtain ⟨S1, hS1⟩ : ∃ A, A = if subB p.kind = true then lebs [p.sub.toNat] else [] := ⟨_, rfl⟩
  obtain ⟨S2, hS2⟩ : ∃ A, A = if subB p.kind = true then lebs [p.n_.toNat] else [] := ⟨_, rfl⟩
  obtain ⟨S3, hS3⟩ : ∃ A, A = if fromB p.kind = true then lebs [p.fr.toNat] else [] := ⟨_, rfl⟩
  obtain ⟨S4, hS4⟩ : ∃ A, A = if toB p.kind = true then lebs [p.to_.toNat] else [] := ⟨_, rfl⟩
  obtain ⟨S5, hS5⟩ : ∃ A, A = if newsB p.kind = true then putT p.spans ++ (lebs [p.items.length] ++ putIs p.items) else [] := ⟨_, rfl⟩
  have a1 := numF_put (n := p.pub.toNat) (lim := 1099511627776) (by omega) (by omega) [p.kind.toNat] (S1 ++ (S2 ++ (S3 ++ (S4 ++ S5))))
  have a2 := optF_put (b := subB p.kind) (n := p.sub.toNat) (fun hx => by have := (hb hx).1; omega) ([p.kind.toNat] ++ A) (S2 ++ (S3 ++ (S4 ++ S5)))
  have a3 := optF_put (b := subB p.kind) (n := p.n_.toNat) (fun hx => by have := (hb hx).2; omega) ([p.kind.toNat] ++ A ++ S1) (S3 ++ (S4 ++ S5))
  have a4 := optF_put (b := fromB p.kind) (n := p.fr.toNat) (fun hx => by have := hd hx; omega) ([p.kind.toNat] ++ A ++ S1 ++ S2) (S4 ++ S5)
  have a5 := optF_put (b := toB p.kind) (n := p.to_.toNat) (fun hx => by have := he hx; omega) ([p.kind.toNat] ++ A ++ S1 ++ S2 ++ S3) S5
  have hsp : newsB p.kind = true → rightB Sp.zr p.spans = true := fun hx => by
    have h2 := (hz hx).2.1
    unfold spB at h2
    exact (Bool.and_eq_true _ _ ▸ h2).2
  obtain ⟨a6, a7⟩ := news_put (b := newsB p.kind) (l := p.spans) (m := p.items) hsp (fun hx => by have := (hz hx).1; omega) (fun hx => by have := (hz hx).1; omega) hi ([p.kind.toNat] ++ A ++ S1 ++ S2 ++ S3 ++ S4)
  rw [← hA] at a1
  rw [← hS1] at a2
  rw [← hS2] at a3
  rw [← hS3] at a4
  rw [← hS4] at a5
  rw [← hS5] at a6 a7
  rw [← hA, ← hS1, ← hS2, ← hS3, ← hS4, ← hS5] at e
  have l1 : (([p.kind.toNat].length : Nat) : Int) = 1 := rfl
  rw [l1] at a1
  simp only [List.append_assoc] at a1 a2 a3 a4 a5 a6 a7
  rw [e]
  have q2 : subB p.kind = true → ((p.sub.toNat : Nat) : Int) = p.sub := fun hx => by have := (hb hx).1; omega
  have q3 : subB p.kind = true → ((p.n_.toNat : Nat) : Int) = p.n_ := fun hx => by have := (hb hx).2; omega
  have q4 : fromB p.kind = true → ((p.fr.toNat : Nat) : Int) = p.fr := fun hx => by have := hd hx; omega
  have q5 : toB p.kind = true → ((p.to_.toNat : Nat) : Int) = p.to_ := fun hx => by have := he hx; omega
  simp only [parF]
  rw [a1]
  simp only
  rw [a2]
  simp only
  rw [a3]
  simp only
  rw [a4]
  simp only
  rw [a5]
  simp only
  rw [a6, a7]
  simp only [plainP, pa', Prod.mk.injEq, Pc.mk.injEq, true_and, and_true]
  refine ⟨?_, ?_, ?_, ?_⟩
  · split <;> simp_all
  · split <;> simp_all
  · split <;> simp_all
  · split <;> simp_all
theorem chk_plainP {p : Pc} (h : chk p = 0) : chk (plainP p) = 0 := by
  obtain ⟨h1, h2, h3⟩ := chk_zero h
  obtain ⟨pk, pp, ps, pn, pf, pt, pl, pi⟩ := p
  simp only at h1 h2 h3
  rcases kinds h1 with rfl | rfl | rfl | rfl | rfl | rfl
  · have e : plainP ⟨1, pp, ps, pn, pf, pt, pl, pi⟩ = ⟨1, pp, 0, 0, pf, pt, pl, pi⟩ := by simp [plainP, subB, fromB, toB, newsB]
    rw [e]
    obtain ⟨h4, h5, h6⟩ := h3 rfl
    have n1 : numB ⟨1, pp, 0, 0, pf, pt, pl, pi⟩ (subB 1) (fromB 1) (toB 1) = true := by
      simp [numB, pubB, namB, rngB, subB, toB] at h2 ⊢
      exact h2
    have s1 : spB ⟨1, pp, 0, 0, pf, pt, pl, pi⟩ = true := by
      have e2 : inB ⟨1, pp, 0, 0, pf, pt, pl, pi⟩ = inB ⟨1, pp, ps, pn, pf, pt, pl, pi⟩ := by funext s; rfl
      unfold spB at h5 ⊢
      rw [e2]
      exact h5
    rw [chk_items rfl n1 rfl h4 s1]
    have e3 : ∀ (l : List It) (le : Int), itE ⟨1, pp, 0, 0, pf, pt, pl, pi⟩ le l = itE ⟨1, pp, ps, pn, pf, pt, pl, pi⟩ le l := by
      intro l
      induction l with
      | nil => intro le; rfl
      | cons q l ih => intro le; simp only [itE, ih]
    rw [e3]
    exact h6
  all_goals
    refine chk_plain rfl ?_ rfl
    simp [plainP, numB, pubB, namB, rngB, froB, subB, fromB, toB] at h2 ⊢
    exact h2
theorem takeP_put {p : Pc} (h : chk p = 0) (hi : newsB p.kind = true → ∀ q ∈ p.items, ItFit q) : takeP (putD p) = (plainP p, 0) := by
  have h1 := parF_put h hi
  have hk := (chk_zero h).1
  have e : putD p = putP p := if_pos h
  rw [e]
  have hg : (putP p).getD 0 0 = p.kind.toNat := by simp [putP]
  have hk2 : ((p.kind.toNat : Nat) : Int) = p.kind := by
    have := kinds hk
    omega
  have hl : ¬ (putP p).length = 0 := by simp [putP]
  rw [takeP_ok (r := (plainP p, ⟨((putP p).length : Int), 0⟩)) hl (by rw [hg, hk2]; exact hk) (by rw [hg, hk2]; exact h1.symm) (by rw [endE, if_neg (by simp)]) (chk_plainP h)]
end Go.Proofs.YtbloomepdchjhaaDoor
/- How many bytes a right parcel has. -/
namespace Go.Proofs.YtbloomepdchjhaaDoor

theorem leb_short : ∀ (k j n : Nat), n < 128 ^ (k + 1) → (Leb.put j n).length ≤ k + 1
  | 0, j, n, h => by
    rw [Leb.put_small j n (by simpa using h)]
    simp
  | k + 1, j, n, h => by
    by_cases h2 : n < 128
    · rw [Leb.put_small j n h2]
      simp
    · cases j with
      | zero =>
        have := (Leb.put_length 0 n).2
        omega
      | succ j =>
        rw [Leb.put_big j n (by omega), List.length_cons]
        have := leb_short k j (n / 128) (by rw [Nat.pow_succ] at h; omega)
        omega
theorem leb_6 {n : Nat} (h : n ≤ 1099511627776) : (Leb.leb n).length ≤ 6 := leb_short 5 9 n (by omega)
theorem leb_5 {n : Nat} (h : n ≤ 4294967295) : (Leb.leb n).length ≤ 5 := leb_short 4 9 n (by omega)
theorem leb_2 {n : Nat} (h : n ≤ 400) : (Leb.leb n).length ≤ 2 := leb_short 1 9 n (by omega)
theorem lebs_6 {n : Nat} (h : n ≤ 1099511627776) : (lebs [n]).length ≤ 6 := by rw [show lebs [n] = Leb.leb n from by simp [lebs]]; exact leb_6 h
theorem putS_13 : ∀ (l : List Sp) (p : Sp), RightS p l → 0 ≤ p.to → (putS p.to l).length ≤ 13 * l.length
  | [], _, _, _ => by simp [putS]
  | s :: l, p, h, h0 => by
    obtain ⟨h1, h2, h3, h4, h5, _, h7⟩ := h
    have h8 := putS_13 l s h7 (by omega)
    have a := leb_6 (n := (s.fr - p.to - 1).toNat) (by omega)
    have b := leb_6 (n := (s.to - s.fr).toNat) (by omega)
    rw [putS, List.length_append, oneS, List.length_append, List.length_append, List.length_cons]
    simp only [List.length_cons, List.length_nil]
    omega
theorem putI_413 {q : It} (h : ItFit q) : (putI q).length ≤ 413 := by
  have a := leb_6 (n := q.tick.toNat) (by have := h.1; omega)
  have b := leb_5 (n := q.for_.toNat) (by have := h.2.1; omega)
  have c := leb_2 h.2.2
  have e : (putI q).length = (Leb.leb q.tick.toNat).length + (Leb.leb q.for_.toNat).length + (Leb.leb q.body.length).length + q.body.length := by simp [putI, lebs]; omega
  have := h.2.2
  omega
theorem putIs_413 : ∀ (l : List It), (∀ q ∈ l, ItFit q) → (putIs l).length ≤ 413 * l.length
  | [], _ => by simp [putIs]
  | q :: l, h => by
    rw [putIs_cons', List.length_append, List.length_cons]
    have h1 := putI_413 (h q (by simp))
    have h2 := putIs_413 l fun x hx => h x (by simp [hx])
    omega
theorem putP_short {p : Pc} (h : chk p = 0) (hi : newsB p.kind = true → ∀ q ∈ p.items, ItFit q) : (putP p).length ≤ 3831 := by
  obtain ⟨h1, ha, hb, hd, he⟩ := chk_facts h
  have hz := (chk_zero h).2.2
  have e : putP p = [p.kind.toNat] ++ (lebs [p.pub.toNat] ++ ((if subB p.kind = true then lebs [p.sub.toNat] ++ lebs [p.n_.toNat] else []) ++ ((if fromB p.kind = true then lebs [p.fr.toNat] else []) ++ ((if toB p.kind = true then lebs [p.to_.toNat] else []) ++ (if newsB p.kind = true then putT p.spans ++ (lebs [p.items.length] ++ putIs p.items) else []))))) := by
    unfold putP
    cases subB p.kind <;> simp [lebs]
  have k1 := lebs_6 (n := p.pub.toNat) (by omega)
  have k2 : (if subB p.kind = true then lebs [p.sub.toNat] ++ lebs [p.n_.toNat] else []).length ≤ 12 := by
    split
    · rename_i hx
      have a := lebs_6 (n := p.sub.toNat) (by have := (hb hx).1; omega)
      have b := lebs_6 (n := p.n_.toNat) (by have := (hb hx).2; omega)
      rw [List.length_append]
      omega
    · simp
  have k3 : (if fromB p.kind = true then lebs [p.fr.toNat] else []).length ≤ 6 := by
    split
    · rename_i hx
      exact lebs_6 (by have := hd hx; omega)
    · simp
  have k4 : (if toB p.kind = true then lebs [p.to_.toNat] else []).length ≤ 6 := by
    split
    · rename_i hx
      exact lebs_6 (by have := he hx; omega)
    · simp
  have k5 : (if newsB p.kind = true then putT p.spans ++ (lebs [p.items.length] ++ putIs p.items) else []).length ≤ 3800 := by
    split
    · rename_i hx
      obtain ⟨z1, z2, _⟩ := hz hx
      have hr : rightB Sp.zr p.spans = true := by
        unfold spB at z2
        exact (Bool.and_eq_true _ _ ▸ z2).2
      have t1 := (put_ok hr (by omega)).2
      have t2 := putS_13 p.spans Sp.zr ((rightB_iff _ _).1 hr) (by decide)
      have t3 := leb_2 (n := p.spans.length) (by omega)
      have t4 := lebs_6 (n := p.items.length) (by omega)
      have t5 := putIs_413 p.items (hi hx)
      rw [t1, List.length_append, List.length_append, List.length_append]
      have t6 : (putS 0 p.spans).length ≤ 13 * p.spans.length := t2
      omega
    · simp
  rw [e]
  simp only [List.length_append, List.length_cons, List.length_nil] at k2 ⊢
  omega
theorem putP_len {p : Pc} (h : chk p = 0) (hi : newsB p.kind = true → ∀ q ∈ p.items, ItFit q) : (putP p).length ≤ 4096 := Nat.le_trans (putP_short h hi) (by omega)
end Go.Proofs.YtbloomepdchjhaaDoor
/- What a frame tells, as Take wants it: a parcel, a probe, an answer. -/
namespace Go.Proofs.YtbloomepdchjhaaDoor
open Go.RowKit

/-- A value is a parcel of one's own. -/
def Par (B : Nat) (p : Pc) (w : World) (v : Value) : Prop := ∃ sa sn sc ia im ic M, v = p.val sa sn sc ia im ic ∧ Sps w B (.slice sa sn sc) p.spans ∧ Its w B (.slice ia im ic) M ∧ M.map Prod.fst = p.items
theorem Par.stay {B : Nat} {p : Pc} (w1 w2 : World) (v : Value) (hf : ∀ j, B < j → j < w1.heap.size → w2.heap[j]? = w1.heap[j]?) (h : Par (B + 1) p w1 v) : Par (B + 1) p w2 v := by
  obtain ⟨sa, sn, sc, ia, im, ic, M, hv, h1, h2, h3⟩ := h
  exact ⟨sa, sn, sc, ia, im, ic, M, hv, h1.frame fun k hk hk2 => hf k (by omega) hk2, h2.frame fun k hk hk2 => hf k (by omega) hk2, h3⟩
theorem told_1 {w W : World} (hB : Below w.heap.size w W) (hs : w.heap.size + 1 ≤ W.heap.size) (a : Option Addr) (n c : Nat) (bs rest : List Nat) (x0 x1 x2 : Nat) (hr : Rd w a n bs) (hbs : bs = SealM.sealed 1 (lebs [x0, x1, x2] ++ rest)) (hlen : (lebs [x0, x1, x2]).length + rest.length ≤ 4096) (hrb : ∀ y ∈ rest, y < 256) (hnc : n ≤ c) (h0 : 1 ≤ x0 ∧ x0 ≤ 1073741824) (h1 : x1 ≤ 1073741824) (h2 : 1 ≤ x2 ∧ x2 ≤ 1099511627776) (ht : Tab w) (hw0 : 0 < w.heap.size) (p : Pc) (hp : takeP rest = (p, 0)) :
    Calls Tryd.prog 23 #[.slice a n c] W fun e w' => ReadTold 1 x0 x1 x2 W (Par (w.heap.size + 1) p) e w' := by
  refine (lk_read_1 a n c bs rest x0 x1 x2 W (hr.below hB) hbs hlen hrb hnc h0 h1 h2 (ht.below hw0 hB) (Nat.lt_of_lt_of_le hw0 hB.size) p hp).mono ?_
  rintro e w' ⟨⟨sa, sn, sc, ia, im, ic, he, H⟩, hb⟩
  obtain ⟨hsp, M, hit, hM⟩ := H.out
  exact ⟨⟨p.kind, p.pub, p.sub, p.n_, p.fr, p.to_, sa, sn, sc, ia, im, ic, he, ⟨sa, sn, sc, ia, im, ic, M, rfl, hsp.lower hs, hit.lower hs, hM⟩⟩, hb⟩
theorem par_zero (B : Nat) (w : World) : Par B Pc.zero w (Pc.zero.val none 0 0 none 0 0) := ⟨none, 0, 0, none, 0, 0, [], rfl, Sps.nil_ _ _, Its.nil_ _ _, rfl⟩
theorem told_2 {w W : World} (hB : Below w.heap.size w W) (a : Option Addr) (n c : Nat) (bs : List Nat) (x0 x1 x2 : Nat) (hr : Rd w a n bs) (hbs : bs = SealM.sealed 2 (lebs [x0, x1, x2])) (hnc : n ≤ c) (h0 : 1 ≤ x0 ∧ x0 ≤ 1073741824) (h1 : x1 ≤ 1073741824) (h2 : 1 ≤ x2 ∧ x2 ≤ 1099511627776) (ht : Tab w) (hw0 : 0 < w.heap.size) :
    Calls Tryd.prog 23 #[.slice a n c] W fun e w' => ReadTold 2 x0 x1 x2 W (Par (w.heap.size + 1) Pc.zero) e w' := by
  refine (lk_read_2 a n c bs x0 x1 x2 W (hr.below hB) hbs hnc h0 h1 h2 (ht.below hw0 hB) (Nat.lt_of_lt_of_le hw0 hB.size)).mono ?_
  rintro e w' ⟨he, hb⟩
  exact ⟨⟨0, 0, 0, 0, 0, 0, none, 0, 0, none, 0, 0, he, par_zero _ _⟩, hb⟩
theorem told_3 {w W : World} (hB : Below w.heap.size w W) (a : Option Addr) (n c : Nat) (bs : List Nat) (x0 x1 x2 : Nat) (hr : Rd w a n bs) (hbs : bs = SealM.sealed 3 (lebs [x0, x1, x2])) (hnc : n ≤ c) (h0 : 1 ≤ x0 ∧ x0 ≤ 1073741824) (h1 : x1 ≤ 1073741824) (h2 : 1 ≤ x2 ∧ x2 ≤ 1099511627776) (ht : Tab w) (hw0 : 0 < w.heap.size) :
    Calls Tryd.prog 23 #[.slice a n c] W fun e w' => ReadTold 3 x0 x1 x2 W (Par (w.heap.size + 1) Pc.zero) e w' := by
  refine (lk_read_3 a n c bs x0 x1 x2 W (hr.below hB) hbs hnc h0 h1 h2 (ht.below hw0 hB) (Nat.lt_of_lt_of_le hw0 hB.size)).mono ?_
  rintro e w' ⟨he, hb⟩
  exact ⟨⟨0, 0, 0, 0, 0, 0, none, 0, 0, none, 0, 0, he, par_zero _ _⟩, hb⟩
/-- A right parcel and three numbers are never more than a seal may have. -/
theorem frame_len {p : Pc} (h : chk p = 0) (hi : newsB p.kind = true → ∀ q ∈ p.items, ItFit q) {x0 x1 x2 : Nat} (h0 : x0 ≤ 1099511627776) (h1 : x1 ≤ 1099511627776) (h2 : x2 ≤ 1099511627776) : (lebs [x0, x1, x2]).length + (putD p).length ≤ 4096 := by
  have a := leb_6 h0
  have b := leb_6 h1
  have c := leb_6 h2
  have d := putP_short h hi
  have e : putD p = putP p := if_pos h
  have f : (lebs [x0, x1, x2]).length = (Leb.leb x0).length + (Leb.leb x1).length + (Leb.leb x2).length := by simp [lebs]; omega
  rw [e, f]
  omega
end Go.Proofs.YtbloomepdchjhaaDoor
/- What accept makes of a link, as mathematics: what was taken stays taken, and is taken once. -/
namespace Go.Proofs.YtbloomepdchjhaaDoor

/-- A frame's life and number that a link takes no more. -/
def Tkn (ot gr b x0 x2 : Nat) : Prop := x0 < ot ∨ (x0 = ot ∧ hasW gr b x2 = true)
/-- A link's numbers, as they must be. -/
structure Nums (l : Lk) (ot gr : Nat) : Prop where
  o : l.other = (ot : Int)
  g : l.great = (gr : Int)
  gb : gr ≤ 1099511627776
  b : l.bits_ < 18446744073709551616
theorem accM_nums {l : Lk} {ot gr : Nat} (h : Nums l ot gr) (x0 : Nat) (hs : ¬ x0 < ot) : Nums (accM l ot gr x0).1 x0 (accM l ot gr x0).2 ∧ (∀ y0 y2, Tkn ot gr l.bits_ y0 y2 → Tkn x0 (accM l ot gr x0).2 (accM l ot gr x0).1.bits_ y0 y2) := by
  by_cases hn : ot < x0
  · rw [accM_new hn]
    refine ⟨⟨rfl, rfl, by simp, by simp⟩, fun y0 y2 hy => ?_⟩
    rcases hy with hy | ⟨hy, _⟩
    · exact .inl (by omega)
    · exact .inl (by omega)
  · rw [accM_old hn]
    have e : x0 = ot := by omega
    subst e
    exact ⟨h, fun _ _ hy => hy⟩
theorem accM_rest (l : Lk) (ot gr x0 : Nat) : (accM l ot gr x0).1.life = l.life ∧ (accM l ot gr x0).1.last = l.last ∧ (accM l ot gr x0).1.queue = l.queue ∧ (accM l ot gr x0).1.heard = l.heard := by
  by_cases hn : ot < x0
  · rw [accM_new hn]; exact ⟨rfl, rfl, rfl, rfl⟩
  · rw [accM_old hn]; exact ⟨rfl, rfl, rfl, rfl⟩
theorem accR_rest (l : Lk) (ot gr x0 x1 x2 : Nat) : (accR l ot gr x0 x1 x2).2.life = l.life ∧ (accR l ot gr x0 x1 x2).2.last = l.last ∧ (accR l ot gr x0 x1 x2).2.queue = l.queue ∧ (accR l ot gr x0 x1 x2).2.heard = l.heard := by
  have h := accM_rest l ot gr x0
  unfold accR
  split
  · exact ⟨rfl, rfl, rfl, rfl⟩
  · split
    · exact h
    · split
      · exact h
      · exact h
/-- What accept does, in one. -/
theorem accR_law {l : Lk} {ot gr : Nat} (h : Nums l ot gr) (x0 x1 x2 : Nat) (hx2 : x2 ≤ 1099511627776) : ∃ ot' gr', Nums (accR l ot gr x0 x1 x2).2 ot' gr' ∧ ot' = max ot x0 ∧
    (∀ y0 y2, Tkn ot gr l.bits_ y0 y2 → Tkn ot' gr' (accR l ot gr x0 x1 x2).2.bits_ y0 y2) ∧ ((accR l ot gr x0 x1 x2).1 = 0 → Tkn ot' gr' (accR l ot gr x0 x1 x2).2.bits_ x0 x2 ∧ ¬ Tkn ot gr l.bits_ x0 x2) ∧ ((accR l ot gr x0 x1 x2).1 = 0 ∨ (accR l ot gr x0 x1 x2).1 = 7 ∨ (accR l ot gr x0 x1 x2).1 = 13) := by
  by_cases hs : x0 < ot
  · have e : accR l ot gr x0 x1 x2 = (13, l) := if_pos hs
    rw [e]
    exact ⟨ot, gr, h, by omega, fun _ _ hy => hy, fun hc => absurd (show (13 : Int) = 0 from hc) (by decide), .inr (.inr rfl)⟩
  · obtain ⟨hm, hk⟩ := accM_nums h x0 hs
    have ho : x0 = max ot x0 := by omega
    obtain ⟨⟨m, gm⟩, hM⟩ : ∃ d, accM l ot gr x0 = d := ⟨_, rfl⟩
    rw [hM] at hm hk
    simp only at hm hk
    by_cases hx : x1 ≠ 0 ∧ (x1 : Int) ≠ l.life
    · rw [accR_other hs hM hx]
      exact ⟨x0, gm, hm, ho, hk, fun hc => absurd (show (13 : Int) = 0 from hc) (by decide), .inr (.inr rfl)⟩
    · cases hh : hasW gm m.bits_ x2 with
      | true =>
        rw [accR_known hs hM hx hh]
        exact ⟨x0, gm, hm, ho, hk, fun hc => absurd (show (7 : Int) = 0 from hc) (by decide), .inr (.inl rfl)⟩
      | false =>
        rw [accR_new hs hM hx hh]
        refine ⟨x0, addG gm x2, ⟨hm.o, rfl, ?_, addB_lt hm.b hh⟩, ho, fun y0 y2 hy => ?_, fun _ => ⟨.inr ⟨rfl, hasW_add_self _ _ _⟩, fun hy => ?_⟩, .inl rfl⟩
        · have := hm.gb
          unfold addG
          split <;> omega
        · rcases hk y0 y2 hy with h1 | ⟨h1, h2⟩
          · exact .inl h1
          · exact .inr ⟨h1, hasW_add_keeps _ _ _ _ h2⟩
        · rcases hk x0 x2 hy with h1 | ⟨_, h2⟩
          · omega
          · rw [hh] at h2
            cases h2
end Go.Proofs.YtbloomepdchjhaaDoor
