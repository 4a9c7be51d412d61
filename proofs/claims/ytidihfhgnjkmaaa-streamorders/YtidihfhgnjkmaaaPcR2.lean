/- grapevineref13.Check. -/
import Derived.Test.YtidihfhgnjkmaaaPcR1
import Derived.Test.YtidihfhgnjkmaaaPcP
namespace Go.Proofs.Ytidihfhgnjkmaaa
open Go.RowKit

theorem chk_num {p : Pc} (h : isB p.kind = true) (h2 : numB p (subB p.kind) (fromB p.kind) (toB p.kind) = false) : chk p = 2 := chk_arg h h2
theorem tell_kind {k : Int} (h : k = 1) : isB k = true ∧ subB k = false ∧ fromB k = true ∧ toB k = true ∧ newsB k = true := by subst h; decide
theorem want_kind {k : Int} (h : k = 2) : isB k = true ∧ subB k = false ∧ fromB k = true ∧ toB k = true ∧ newsB k = false := by subst h; decide
theorem ack_kind {k : Int} (h : k = 3 ∨ k = 5) : isB k = true ∧ subB k = true ∧ fromB k = true ∧ toB k = false ∧ newsB k = false := by rcases h with rfl | rfl <;> decide
theorem join_kind {k : Int} (h : k = 4 ∨ k = 6) : isB k = true ∧ subB k = true ∧ fromB k = false ∧ toB k = false ∧ newsB k = false := by rcases h with rfl | rfl <;> decide
theorem bad_kind {k : Int} (h : isB k = false) : subB k = false ∧ fromB k = false ∧ toB k = false ∧ newsB k = false := by
  simp only [isB, decide_eq_false_iff_not] at h
  refine ⟨?_, ?_, ?_, ?_⟩
  · simp only [subB, decide_eq_false_iff_not]; omega
  · simp only [fromB, decide_eq_false_iff_not]; omega
  · simp only [toB, decide_eq_false_iff_not]; omega
  · simp only [newsB, decide_eq_false_iff_not]; omega

set_option maxRecDepth 100000 in
set_option maxHeartbeats 4000000 in
theorem ref_Check_bad (pk pp ps pn pf pt : Int) (pl : List Sp) (pi : List It) (sa : Option Addr) (sn sc : Nat) (ia : Option Addr) (im ic : Nat) (w : World) (hk : isB pk = false) : Calls Try.prog 13 #[Pc.val ⟨pk, pp, ps, pn, pf, pt, pl, pi⟩ sa sn sc ia im ic] w fun e w' => e = .returned (.int .i64 (chk ⟨pk, pp, ps, pn, pf, pt, pl, pi⟩)) ∧ Below w.heap.size w w' := by
  have HB : Hid (Below w.heap.size w (w.alloc (.cells #[.int .i64 pk, .int .i64 pp, .int .i64 ps, .int .i64 pn, .int .i64 pf, .int .i64 pt, .slice sa sn sc, .slice ia im ic] 33))) := below_new _ _
  obtain ⟨b, HF⟩ : ∃ b, Hid (b = chk ⟨pk, pp, ps, pn, pf, pt, pl, pi⟩) := ⟨_, rfl⟩
  rw [← HF.out]
  unfold Pc.val
  simp only
  have HX : Hid (b = 12) := by show _ = _; rw [HF.out, chk_type hk]
  have HR : Hid (toB pk = false) := (bad_kind hk).2.2.1
  have HN : Hid (subB pk = false) := (bad_kind hk).1
  clear HF hk
  go_enter Try.func13, Try.ntmps13
  go_wp2_with fail
  refine (ref_ranged pk _).mono ?_
  rw [HR.out]
  rintro e w1 ⟨rfl, rfl⟩
  go_wp2_with fail
  refine (ref_named pk _).mono ?_
  rw [HN.out]
  rintro e w1 ⟨rfl, rfl⟩
  go_wp2
  go_ret
  exact ⟨by rw [HX.out]; rfl, HB.out⟩

set_option maxRecDepth 100000 in
set_option maxHeartbeats 4000000 in
theorem ref_Check_want (pk pp ps pn pf pt : Int) (pl : List Sp) (pi : List It) (sa : Option Addr) (sn sc : Nat) (ia : Option Addr) (im ic : Nat) (w : World) (hk : pk = 2) : Calls Try.prog 13 #[Pc.val ⟨pk, pp, ps, pn, pf, pt, pl, pi⟩ sa sn sc ia im ic] w fun e w' => e = .returned (.int .i64 (chk ⟨pk, pp, ps, pn, pf, pt, pl, pi⟩)) ∧ Below w.heap.size w w' := by
  have HB : Hid (Below w.heap.size w (w.alloc (.cells #[.int .i64 pk, .int .i64 pp, .int .i64 ps, .int .i64 pn, .int .i64 pf, .int .i64 pt, .slice sa sn sc, .slice ia im ic] 33))) := below_new _ _
  obtain ⟨b, HF⟩ : ∃ b, Hid (b = chk ⟨pk, pp, ps, pn, pf, pt, pl, pi⟩) := ⟨_, rfl⟩
  rw [← HF.out]
  unfold Pc.val
  simp only
  have HK : Hid (isB pk = true ∧ subB pk = false ∧ fromB pk = true ∧ toB pk = true ∧ newsB pk = false) := want_kind hk
  have HR : Hid (toB pk = true) := HK.out.2.2.2.1
  have HN : Hid (subB pk = false) := HK.out.2.1
  have HO : Hid (fromB pk = true) := HK.out.2.2.1
  have hk1 : ¬ pk = 1 := by omega
  have hk1' : (pk == 1) = false := by simpa using hk1
  clear hk
  go_enter Try.func13, Try.ntmps13
  go_wp2_with fail
  refine (ref_ranged pk _).mono ?_
  rw [HR.out]
  rintro e w1 ⟨rfl, rfl⟩
  by_cases h1 : ¬ (0 ≤ pp)
  · have HX : Hid (b = 2) := by show _ = _; rw [HF.out, chk_num HK.out.1 (by simp only [HK.out.2.1, HK.out.2.2.1, HK.out.2.2.2.1, numB, pubB, namB, rngB, froB]; simp; omega)]
    clear HF
    go_wp2
    go_ret
    exact ⟨by rw [HX.out]; rfl, HB.out⟩
  replace h1 := Decidable.not_not.1 h1
  by_cases h2 : ¬ (pp < 3)
  · have HX : Hid (b = 2) := by show _ = _; rw [HF.out, chk_num HK.out.1 (by simp only [HK.out.2.1, HK.out.2.2.1, HK.out.2.2.2.1, numB, pubB, namB, rngB, froB]; simp; omega)]
    clear HF
    go_wp2
    go_ret
    exact ⟨by rw [HX.out]; rfl, HB.out⟩
  replace h2 := Decidable.not_not.1 h2
  go_wp2_with fail
  refine (ref_named pk _).mono ?_
  rw [HN.out]
  rintro e w1 ⟨rfl, rfl⟩
  go_wp2_with fail
  refine (ref_ranged pk _).mono ?_
  rw [HR.out]
  rintro e w1 ⟨rfl, rfl⟩
  by_cases h3 : ¬ (1 ≤ pf)
  · have HX : Hid (b = 2) := by show _ = _; rw [HF.out, chk_num HK.out.1 (by simp only [HK.out.2.1, HK.out.2.2.1, HK.out.2.2.2.1, numB, pubB, namB, rngB, froB]; simp; omega)]
    clear HF
    go_wp2
    go_ret
    exact ⟨by rw [HX.out]; rfl, HB.out⟩
  replace h3 := Decidable.not_not.1 h3
  by_cases h4 : ¬ (pf ≤ pt)
  · have HX : Hid (b = 2) := by show _ = _; rw [HF.out, chk_num HK.out.1 (by simp only [HK.out.2.1, HK.out.2.2.1, HK.out.2.2.2.1, numB, pubB, namB, rngB, froB]; simp; omega)]
    clear HF
    go_wp2
    go_ret
    exact ⟨by rw [HX.out]; rfl, HB.out⟩
  replace h4 := Decidable.not_not.1 h4
  by_cases h5 : ¬ (pt ≤ 1099511627776)
  · have HX : Hid (b = 2) := by show _ = _; rw [HF.out, chk_num HK.out.1 (by simp only [HK.out.2.1, HK.out.2.2.1, HK.out.2.2.2.1, numB, pubB, namB, rngB, froB]; simp; omega)]
    clear HF
    go_wp2
    go_ret
    exact ⟨by rw [HX.out]; rfl, HB.out⟩
  replace h5 := Decidable.not_not.1 h5
  go_wp2_with fail
  refine (ref_named pk _).mono ?_
  rw [HN.out]
  rintro e w1 ⟨rfl, rfl⟩
  have HX : Hid (b = 0) := by show _ = _; rw [HF.out, chk_plain HK.out.1 (by simp only [HK.out.2.1, HK.out.2.2.1, HK.out.2.2.2.1, numB, pubB, namB, rngB, froB]; simp; omega) HK.out.2.2.2.2]
  clear HF
  go_wp2
  go_ret
  exact ⟨by rw [HX.out]; rfl, HB.out⟩

set_option maxRecDepth 100000 in
set_option maxHeartbeats 4000000 in
theorem ref_Check_ack (pk pp ps pn pf pt : Int) (pl : List Sp) (pi : List It) (sa : Option Addr) (sn sc : Nat) (ia : Option Addr) (im ic : Nat) (w : World) (hk : pk = 3 ∨ pk = 5) : Calls Try.prog 13 #[Pc.val ⟨pk, pp, ps, pn, pf, pt, pl, pi⟩ sa sn sc ia im ic] w fun e w' => e = .returned (.int .i64 (chk ⟨pk, pp, ps, pn, pf, pt, pl, pi⟩)) ∧ Below w.heap.size w w' := by
  have HB : Hid (Below w.heap.size w (w.alloc (.cells #[.int .i64 pk, .int .i64 pp, .int .i64 ps, .int .i64 pn, .int .i64 pf, .int .i64 pt, .slice sa sn sc, .slice ia im ic] 33))) := below_new _ _
  obtain ⟨b, HF⟩ : ∃ b, Hid (b = chk ⟨pk, pp, ps, pn, pf, pt, pl, pi⟩) := ⟨_, rfl⟩
  rw [← HF.out]
  unfold Pc.val
  simp only
  have HK : Hid (isB pk = true ∧ subB pk = true ∧ fromB pk = true ∧ toB pk = false ∧ newsB pk = false) := ack_kind hk
  have HR : Hid (toB pk = false) := HK.out.2.2.2.1
  have HN : Hid (subB pk = true) := HK.out.2.1
  have HO : Hid (fromB pk = true) := HK.out.2.2.1
  have hk1 : ¬ pk = 1 := by omega
  have hk1' : (pk == 1) = false := by simpa using hk1
  clear hk
  go_enter Try.func13, Try.ntmps13
  go_wp2_with fail
  refine (ref_ranged pk _).mono ?_
  rw [HR.out]
  rintro e w1 ⟨rfl, rfl⟩
  go_wp2_with fail
  refine (ref_named pk _).mono ?_
  rw [HN.out]
  rintro e w1 ⟨rfl, rfl⟩
  by_cases h1 : ¬ (0 ≤ pp)
  · have HX : Hid (b = 2) := by show _ = _; rw [HF.out, chk_num HK.out.1 (by simp only [HK.out.2.1, HK.out.2.2.1, HK.out.2.2.2.1, numB, pubB, namB, rngB, froB]; simp; omega)]
    clear HF
    go_wp2
    go_ret
    exact ⟨by rw [HX.out]; rfl, HB.out⟩
  replace h1 := Decidable.not_not.1 h1
  by_cases h2 : ¬ (pp < 3)
  · have HX : Hid (b = 2) := by show _ = _; rw [HF.out, chk_num HK.out.1 (by simp only [HK.out.2.1, HK.out.2.2.1, HK.out.2.2.2.1, numB, pubB, namB, rngB, froB]; simp; omega)]
    clear HF
    go_wp2
    go_ret
    exact ⟨by rw [HX.out]; rfl, HB.out⟩
  replace h2 := Decidable.not_not.1 h2
  go_wp2_with fail
  refine (ref_named pk _).mono ?_
  rw [HN.out]
  rintro e w1 ⟨rfl, rfl⟩
  by_cases h3 : ¬ (1 ≤ ps)
  · have HX : Hid (b = 2) := by show _ = _; rw [HF.out, chk_num HK.out.1 (by simp only [HK.out.2.1, HK.out.2.2.1, HK.out.2.2.2.1, numB, pubB, namB, rngB, froB]; simp; omega)]
    clear HF
    go_wp2
    go_ret
    exact ⟨by rw [HX.out]; rfl, HB.out⟩
  replace h3 := Decidable.not_not.1 h3
  by_cases h4 : ¬ (ps ≤ 32)
  · have HX : Hid (b = 2) := by show _ = _; rw [HF.out, chk_num HK.out.1 (by simp only [HK.out.2.1, HK.out.2.2.1, HK.out.2.2.2.1, numB, pubB, namB, rngB, froB]; simp; omega)]
    clear HF
    go_wp2
    go_ret
    exact ⟨by rw [HX.out]; rfl, HB.out⟩
  replace h4 := Decidable.not_not.1 h4
  by_cases h5 : ¬ (1 ≤ pn)
  · have HX : Hid (b = 2) := by show _ = _; rw [HF.out, chk_num HK.out.1 (by simp only [HK.out.2.1, HK.out.2.2.1, HK.out.2.2.2.1, numB, pubB, namB, rngB, froB]; simp; omega)]
    clear HF
    go_wp2
    go_ret
    exact ⟨by rw [HX.out]; rfl, HB.out⟩
  replace h5 := Decidable.not_not.1 h5
  by_cases h6 : ¬ (pn ≤ 1073741824)
  · have HX : Hid (b = 2) := by show _ = _; rw [HF.out, chk_num HK.out.1 (by simp only [HK.out.2.1, HK.out.2.2.1, HK.out.2.2.2.1, numB, pubB, namB, rngB, froB]; simp; omega)]
    clear HF
    go_wp2
    go_ret
    exact ⟨by rw [HX.out]; rfl, HB.out⟩
  replace h6 := Decidable.not_not.1 h6
  go_wp2_with fail
  refine (ref_ranged pk _).mono ?_
  rw [HR.out]
  rintro e w1 ⟨rfl, rfl⟩
  go_wp2_with fail
  refine (ref_named pk _).mono ?_
  rw [HN.out]
  rintro e w1 ⟨rfl, rfl⟩
  go_wp2_with fail
  refine (ref_from pk _).mono ?_
  rw [HO.out]
  rintro e w1 ⟨rfl, rfl⟩
  by_cases h7 : ¬ (0 ≤ pf)
  · have HX : Hid (b = 2) := by show _ = _; rw [HF.out, chk_num HK.out.1 (by simp only [HK.out.2.1, HK.out.2.2.1, HK.out.2.2.2.1, numB, pubB, namB, rngB, froB]; simp; omega)]
    clear HF
    go_wp2
    go_ret
    exact ⟨by rw [HX.out]; rfl, HB.out⟩
  replace h7 := Decidable.not_not.1 h7
  by_cases h8 : ¬ (pf ≤ 1099511627776)
  · have HX : Hid (b = 2) := by show _ = _; rw [HF.out, chk_num HK.out.1 (by simp only [HK.out.2.1, HK.out.2.2.1, HK.out.2.2.2.1, numB, pubB, namB, rngB, froB]; simp; omega)]
    clear HF
    go_wp2
    go_ret
    exact ⟨by rw [HX.out]; rfl, HB.out⟩
  replace h8 := Decidable.not_not.1 h8
  have HX : Hid (b = 0) := by show _ = _; rw [HF.out, chk_plain HK.out.1 (by simp only [HK.out.2.1, HK.out.2.2.1, HK.out.2.2.2.1, numB, pubB, namB, rngB, froB]; simp; omega) HK.out.2.2.2.2]
  clear HF
  go_wp2
  go_ret
  exact ⟨by rw [HX.out]; rfl, HB.out⟩

set_option maxRecDepth 100000 in
set_option maxHeartbeats 4000000 in
theorem ref_Check_join (pk pp ps pn pf pt : Int) (pl : List Sp) (pi : List It) (sa : Option Addr) (sn sc : Nat) (ia : Option Addr) (im ic : Nat) (w : World) (hk : pk = 4 ∨ pk = 6) : Calls Try.prog 13 #[Pc.val ⟨pk, pp, ps, pn, pf, pt, pl, pi⟩ sa sn sc ia im ic] w fun e w' => e = .returned (.int .i64 (chk ⟨pk, pp, ps, pn, pf, pt, pl, pi⟩)) ∧ Below w.heap.size w w' := by
  have HB : Hid (Below w.heap.size w (w.alloc (.cells #[.int .i64 pk, .int .i64 pp, .int .i64 ps, .int .i64 pn, .int .i64 pf, .int .i64 pt, .slice sa sn sc, .slice ia im ic] 33))) := below_new _ _
  obtain ⟨b, HF⟩ : ∃ b, Hid (b = chk ⟨pk, pp, ps, pn, pf, pt, pl, pi⟩) := ⟨_, rfl⟩
  rw [← HF.out]
  unfold Pc.val
  simp only
  have HK : Hid (isB pk = true ∧ subB pk = true ∧ fromB pk = false ∧ toB pk = false ∧ newsB pk = false) := join_kind hk
  have HR : Hid (toB pk = false) := HK.out.2.2.2.1
  have HN : Hid (subB pk = true) := HK.out.2.1
  have HO : Hid (fromB pk = false) := HK.out.2.2.1
  have hk1 : ¬ pk = 1 := by omega
  have hk1' : (pk == 1) = false := by simpa using hk1
  clear hk
  go_enter Try.func13, Try.ntmps13
  go_wp2_with fail
  refine (ref_ranged pk _).mono ?_
  rw [HR.out]
  rintro e w1 ⟨rfl, rfl⟩
  go_wp2_with fail
  refine (ref_named pk _).mono ?_
  rw [HN.out]
  rintro e w1 ⟨rfl, rfl⟩
  by_cases h1 : ¬ (0 ≤ pp)
  · have HX : Hid (b = 2) := by show _ = _; rw [HF.out, chk_num HK.out.1 (by simp only [HK.out.2.1, HK.out.2.2.1, HK.out.2.2.2.1, numB, pubB, namB, rngB, froB]; simp; omega)]
    clear HF
    go_wp2
    go_ret
    exact ⟨by rw [HX.out]; rfl, HB.out⟩
  replace h1 := Decidable.not_not.1 h1
  by_cases h2 : ¬ (pp < 3)
  · have HX : Hid (b = 2) := by show _ = _; rw [HF.out, chk_num HK.out.1 (by simp only [HK.out.2.1, HK.out.2.2.1, HK.out.2.2.2.1, numB, pubB, namB, rngB, froB]; simp; omega)]
    clear HF
    go_wp2
    go_ret
    exact ⟨by rw [HX.out]; rfl, HB.out⟩
  replace h2 := Decidable.not_not.1 h2
  go_wp2_with fail
  refine (ref_named pk _).mono ?_
  rw [HN.out]
  rintro e w1 ⟨rfl, rfl⟩
  by_cases h3 : ¬ (1 ≤ ps)
  · have HX : Hid (b = 2) := by show _ = _; rw [HF.out, chk_num HK.out.1 (by simp only [HK.out.2.1, HK.out.2.2.1, HK.out.2.2.2.1, numB, pubB, namB, rngB, froB]; simp; omega)]
    clear HF
    go_wp2
    go_ret
    exact ⟨by rw [HX.out]; rfl, HB.out⟩
  replace h3 := Decidable.not_not.1 h3
  by_cases h4 : ¬ (ps ≤ 32)
  · have HX : Hid (b = 2) := by show _ = _; rw [HF.out, chk_num HK.out.1 (by simp only [HK.out.2.1, HK.out.2.2.1, HK.out.2.2.2.1, numB, pubB, namB, rngB, froB]; simp; omega)]
    clear HF
    go_wp2
    go_ret
    exact ⟨by rw [HX.out]; rfl, HB.out⟩
  replace h4 := Decidable.not_not.1 h4
  by_cases h5 : ¬ (1 ≤ pn)
  · have HX : Hid (b = 2) := by show _ = _; rw [HF.out, chk_num HK.out.1 (by simp only [HK.out.2.1, HK.out.2.2.1, HK.out.2.2.2.1, numB, pubB, namB, rngB, froB]; simp; omega)]
    clear HF
    go_wp2
    go_ret
    exact ⟨by rw [HX.out]; rfl, HB.out⟩
  replace h5 := Decidable.not_not.1 h5
  by_cases h6 : ¬ (pn ≤ 1073741824)
  · have HX : Hid (b = 2) := by show _ = _; rw [HF.out, chk_num HK.out.1 (by simp only [HK.out.2.1, HK.out.2.2.1, HK.out.2.2.2.1, numB, pubB, namB, rngB, froB]; simp; omega)]
    clear HF
    go_wp2
    go_ret
    exact ⟨by rw [HX.out]; rfl, HB.out⟩
  replace h6 := Decidable.not_not.1 h6
  go_wp2_with fail
  refine (ref_ranged pk _).mono ?_
  rw [HR.out]
  rintro e w1 ⟨rfl, rfl⟩
  go_wp2_with fail
  refine (ref_named pk _).mono ?_
  rw [HN.out]
  rintro e w1 ⟨rfl, rfl⟩
  go_wp2_with fail
  refine (ref_from pk _).mono ?_
  rw [HO.out]
  rintro e w1 ⟨rfl, rfl⟩
  have HX : Hid (b = 0) := by show _ = _; rw [HF.out, chk_plain HK.out.1 (by simp only [HK.out.2.1, HK.out.2.2.1, HK.out.2.2.2.1, numB, pubB, namB, rngB, froB]; simp; omega) HK.out.2.2.2.2]
  clear HF
  go_wp2
  go_ret
  exact ⟨by rw [HX.out]; rfl, HB.out⟩

end Go.Proofs.Ytidihfhgnjkmaaa
