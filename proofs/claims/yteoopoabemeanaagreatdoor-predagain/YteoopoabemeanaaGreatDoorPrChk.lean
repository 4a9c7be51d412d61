/- pred.Check of right terms. -/
import Derived.Test.YteoopoabemeanaaGreatDoorPrM
import Derived.Test.YteoopoabemeanaaGreatDoorValP2
import Derived.Deep.LoopGhost
namespace Go.Proofs.YteoopoabemeanaaGreatDoor
set_option maxRecDepth 100000
open Go.RowKit

theorem may_be (c : Nat) (hc : 1 ≤ c ∧ c ≤ 10) (k : Int) (w : World) : Calls Tryz.prog 41 #[.int .i64 (c : Int), .int .i64 k] w fun e w' => e = .returned (.bool (mayB c k)) ∧ w' = w := by
  obtain ⟨h1, h10⟩ := hc
  have : c = 1 ∨ c = 2 ∨ c = 3 ∨ c = 4 ∨ c = 5 ∨ c = 6 ∨ c = 7 ∨ c = 8 ∨ c = 9 ∨ c = 10 := by omega
  by_cases k1 : k = 1
  · subst k1
    rcases this with rfl | rfl | rfl | rfl | rfl | rfl | rfl | rfl | rfl | rfl
    all_goals
      go_enter Tryz.func41, Tryz.ntmps41
      go_wp2
      go_ret
      exact ⟨rfl, rfl⟩
  · by_cases k2 : k = 2
    · subst k2
      rcases this with rfl | rfl | rfl | rfl | rfl | rfl | rfl | rfl | rfl | rfl
      all_goals
        go_enter Tryz.func41, Tryz.ntmps41
        go_wp2
        go_ret
        exact ⟨rfl, rfl⟩
    · have e1 : (k == 1) = false := by rw [beq_eq_false_iff_ne]; exact k1
      have e2 : (k == 2) = false := by rw [beq_eq_false_iff_ne]; exact k2
      by_cases k4 : k = 4
      · subst k4
        rcases this with rfl | rfl | rfl | rfl | rfl | rfl | rfl | rfl | rfl | rfl
        all_goals
          go_enter Tryz.func41, Tryz.ntmps41
          go_wp2
          go_ret
          exact ⟨rfl, rfl⟩
      · have e4 : (k == 4) = false := by rw [beq_eq_false_iff_ne]; exact k4
        rcases this with rfl | rfl | rfl | rfl | rfl | rfl | rfl | rfl | rfl | rfl
        all_goals
          go_enter Tryz.func41, Tryz.ntmps41
          go_wp2
          go_ret
          exact ⟨by simp [mayB, k1, k2, k4], rfl⟩
theorem is_cmp (c : Nat) (w : World) : Calls Tryz.prog 39 #[.int .i64 (c : Int)] w fun e w' => e = .returned (.bool (decide (1 ≤ c ∧ c ≤ 10))) ∧ w' = w := by
  by_cases h1 : 1 ≤ c
  · by_cases h2 : c ≤ 10
    · have k1 : (1 : Int) ≤ (c : Int) := by omega
      have k2 : (c : Int) ≤ 10 := by omega
      go_enter Tryz.func39, Tryz.ntmps39
      go_wp2
      go_ret
      exact ⟨by simp [h1, h2], rfl⟩
    · have k1 : (1 : Int) ≤ (c : Int) := by omega
      have k2 : ¬ (c : Int) ≤ 10 := by omega
      go_enter Tryz.func39, Tryz.ntmps39
      go_wp2
      go_ret
      exact ⟨rfl, rfl⟩
  · have k1 : ¬ (1 : Int) ≤ (c : Int) := by omega
    go_enter Tryz.func39, Tryz.ntmps39
    go_wp2
    go_ret
    exact ⟨rfl, rfl⟩
theorem has_value (c : Nat) (w : World) : Calls Tryz.prog 40 #[.int .i64 (c : Int)] w fun e w' => e = .returned (.bool (decide (c ≠ 1 ∧ c ≠ 2))) ∧ w' = w := by
  by_cases h1 : c = 1
  · subst h1
    go_enter Tryz.func40, Tryz.ntmps40
    go_wp2
    go_ret
    exact ⟨rfl, rfl⟩
  · have k1 : ((c : Int) != 1) = true := by rw [bne_iff_ne]; omega
    by_cases h2 : c = 2
    · subst h2
      go_enter Tryz.func40, Tryz.ntmps40
      go_wp2
      go_ret
      exact ⟨rfl, rfl⟩
    · have k2 : ((c : Int) != 2) = true := by rw [bne_iff_ne]; omega
      go_enter Tryz.func40, Tryz.ntmps40
      go_wp2
      go_ret
      exact ⟨by simp [h1, h2], rfl⟩

/-- A right atom. -/
def AtomRight (q : Tm) : Prop := nameOk q.name ∧ (1 ≤ q.cmp ∧ q.cmp ≤ 10) ∧ (3 ≤ q.cmp → q.val.Right ∧ mayB q.cmp q.val.kind = true ∧ (q.cmp = 10 → q.radius ≤ 1048576))

set_option maxHeartbeats 1000000 in
theorem check_atom (q : Tm) (h : AtomRight q) (w : World) : Calls Tryz.prog 24 #[.agg q.cells] w fun e w' => e = .returned (.int .i64 0) ∧ Below w.heap.size w w' := by
  have hcx : ∀ (a : Addr) (m : Mode) (W : World) (x y : Nat), (store a (.complex .f64 x y) m).run Tryz.prog W = stored Tryz.prog W a (.complex .f64 x y) m := fun a m W x y => run_store _ _ _ _ _ rfl
  obtain ⟨op, nm, c, v, r⟩ := q
  obtain ⟨hn, hc, hv⟩ := h
  have HN : Hid (nameOk nm) := hn
  have HSZ : Hid (nm.size ≤ maxLen) := by have := hn.2.1; show _ ≤ _; unfold maxLen; dsimp only at this; omega
  have HC : Hid (1 ≤ c ∧ c ≤ 10) := hc
  simp only at hv hc
  by_cases h3 : 3 ≤ c
  · obtain ⟨hr, hm, hx⟩ := hv h3
    have HV : Hid (∀ w, Calls Tryz.prog 33 #[.agg v.cells] w fun e w' => e = .returned (.int .i64 0) ∧ Below w.heap.size w w') := value_Check v hr
    have HM : Hid (mayB c v.kind = true) := hm
    obtain ⟨vk, vw, vs, vt, vx, vy⟩ := v
    simp only [Tm.cells, Val.cells] at *
    have HD1 : Hid (decide (c ≠ 1 ∧ c ≠ 2) = true) := by show _ = _; simp; omega
    have HD2 : Hid (decide (1 ≤ c ∧ c ≤ 10) = true) := by show _ = _; simp; omega
    clear hn hc hv hr hm
    by_cases h10 : c = 10
    · have k10 : ((c : Int) == 10) = true := by rw [h10]; rfl
      have kr1 : decide ((r : Int) < 0) = false := by simp
      have kr2 : decide ((1048576 : Int) < (r : Int)) = false := by have := hx h10; simp; omega
      clear hx h10 h3
      go_enter Tryz.func24, Tryz.ntmps24
      go_wp2_with fail
      refine (event_Name nm HSZ.out _).mono ?_
      rintro e w1 ⟨⟨b1, rfl, hb1⟩, rfl⟩
      obtain rfl := hb1.2 HN.out
      clear hb1
      go_wp2_with fail
      refine (is_cmp c _).mono ?_
      rw [HD2.out]
      rintro e w1 ⟨rfl, rfl⟩
      go_wp2_with fail
      refine (has_value c _).mono ?_
      rw [HD1.out]
      rintro e w1 ⟨rfl, rfl⟩
      go_wp2_with fail
      refine (HV.out _).mono ?_
      rintro e w2 ⟨rfl, hb2⟩
      have HK : Hid (Blk w2 w.heap.size #[.int .i64 (op : Int), .string nm, .int .i64 (c : Int), .int .i64 vk, .int .i64 vw, .string vs, .bool vt, .complex .f64 vx vy, .int .i64 (r : Int)] 52) := (Blk.new w _ _).stay hb2
      have HB2 : Hid (Below w.heap.size w w2) := (below_alloc w _).trans (hb2.mono (by simp))
      have c2 : w2.cell? ⟨w.heap.size, 2, none⟩ = some (.int .i64 (c : Int)) := HK.out.cell 2 rfl
      have c3 : w2.cell? ⟨w.heap.size, 3, none⟩ = some (.int .i64 vk) := HK.out.cell 3 rfl
      have c8 : w2.cell? ⟨w.heap.size, 8, none⟩ = some (.int .i64 (r : Int)) := HK.out.cell 8 rfl
      clear hb2
      go_wp2_with fail
      refine (may_be c HC.out vk _).mono ?_
      rw [HM.out]
      rintro e w3 ⟨rfl, rfl⟩
      go_wp2
      go_ret
      exact ⟨rfl, HB2.out⟩
    · have k10 : ((c : Int) == 10) = false := by rw [beq_eq_false_iff_ne]; omega
      clear hx h10 h3
      go_enter Tryz.func24, Tryz.ntmps24
      go_wp2_with fail
      refine (event_Name nm HSZ.out _).mono ?_
      rintro e w1 ⟨⟨b1, rfl, hb1⟩, rfl⟩
      obtain rfl := hb1.2 HN.out
      clear hb1
      go_wp2_with fail
      refine (is_cmp c _).mono ?_
      rw [HD2.out]
      rintro e w1 ⟨rfl, rfl⟩
      go_wp2_with fail
      refine (has_value c _).mono ?_
      rw [HD1.out]
      rintro e w1 ⟨rfl, rfl⟩
      go_wp2_with fail
      refine (HV.out _).mono ?_
      rintro e w2 ⟨rfl, hb2⟩
      have HK : Hid (Blk w2 w.heap.size #[.int .i64 (op : Int), .string nm, .int .i64 (c : Int), .int .i64 vk, .int .i64 vw, .string vs, .bool vt, .complex .f64 vx vy, .int .i64 (r : Int)] 52) := (Blk.new w _ _).stay hb2
      have HB2 : Hid (Below w.heap.size w w2) := (below_alloc w _).trans (hb2.mono (by simp))
      have c2 : w2.cell? ⟨w.heap.size, 2, none⟩ = some (.int .i64 (c : Int)) := HK.out.cell 2 rfl
      have c3 : w2.cell? ⟨w.heap.size, 3, none⟩ = some (.int .i64 vk) := HK.out.cell 3 rfl
      clear hb2
      go_wp2_with fail
      refine (may_be c HC.out vk _).mono ?_
      rw [HM.out]
      rintro e w3 ⟨rfl, rfl⟩
      go_wp2
      go_ret
      exact ⟨rfl, HB2.out⟩
  · have HD1 : Hid (decide (c ≠ 1 ∧ c ≠ 2) = false) := by show _ = _; simp; omega
    have HD2 : Hid (decide (1 ≤ c ∧ c ≤ 10) = true) := by show _ = _; simp; omega
    obtain ⟨vk, vw, vs, vt, vx, vy⟩ := v
    simp only [Tm.cells] at *
    clear hn hc hv h3
    go_enter Tryz.func24, Tryz.ntmps24
    go_wp2_with fail
    refine (event_Name nm HSZ.out _).mono ?_
    rintro e w1 ⟨⟨b1, rfl, hb1⟩, rfl⟩
    obtain rfl := hb1.2 HN.out
    clear hb1
    go_wp2_with fail
    refine (is_cmp c _).mono ?_
    rw [HD2.out]
    rintro e w1 ⟨rfl, rfl⟩
    go_wp2_with fail
    refine (has_value c _).mono ?_
    rw [HD1.out]
    rintro e w1 ⟨rfl, rfl⟩
    go_wp2
    go_ret
    exact ⟨rfl, below_alloc w _⟩

theorem enough_any (st k : Nat) (w : World) : Calls Tryz.prog 25 #[.int .i64 (st : Int), .int .i64 (k : Int)] w fun e w' => e = .returned (.int .i64 ((if st < k then 4 else 0 : Nat) : Int)) ∧ w' = w := by
  by_cases h : st < k
  · have h' : (st : Int) < (k : Int) := by omega
    go_enter Tryz.func25, Tryz.ntmps25
    go_wp2
    go_ret
    exact ⟨rfl, rfl⟩
  · have h' : ¬ (st : Int) < (k : Int) := by omega
    go_enter Tryz.func25, Tryz.ntmps25
    go_wp2
    go_ret
    exact ⟨rfl, rfl⟩
/-- By how many truths a term grows the stack. -/
def growthOf (op : Nat) : Int := if op = 4 then 0 else if op = 5 ∨ op = 6 then -1 else 1
theorem growth_any (op : Nat) (ho : 1 ≤ op ∧ op ≤ 6) (w : World) : Calls Tryz.prog 14 #[.int .i64 (op : Int)] w fun e w' => e = .returned (.int .i64 (growthOf op)) ∧ w' = w := by
  have : op = 1 ∨ op = 2 ∨ op = 3 ∨ op = 4 ∨ op = 5 ∨ op = 6 := by omega
  rcases this with rfl | rfl | rfl | rfl | rfl | rfl
  all_goals
    go_enter Tryz.func14, Tryz.ntmps14
    go_wp2
    go_ret
    exact ⟨rfl, rfl⟩
/-- What a right term finds wrong. -/
def termBad (st op : Nat) : Nat := if op = 4 then (if st < 1 then 4 else 0) else if op = 5 ∨ op = 6 then (if st < 2 then 4 else 0) else 0
theorem check_term (q : Tm) (h : TmRight q) (st : Nat) (w : World) : Calls Tryz.prog 13 #[.agg q.cells, .int .i64 (st : Int)] w fun e w' => e = .returned (.int .i64 (termBad st q.op : Int)) ∧ Below w.heap.size w w' := by
  have hcx : ∀ (a : Addr) (m : Mode) (W : World) (x y : Nat), (store a (.complex .f64 x y) m).run Tryz.prog W = stored Tryz.prog W a (.complex .f64 x y) m := fun a m W x y => run_store _ _ _ _ _ rfl
  obtain ⟨ho, ha⟩ := h
  have hA : q.op = 3 → ∀ w, Calls Tryz.prog 24 #[.agg q.cells] w fun e w' => e = .returned (.int .i64 0) ∧ Below w.heap.size w w' := fun h3 => check_atom q (ha h3)
  obtain ⟨op, nm, c, ⟨vk, vw, vs, vt, vx, vy⟩, r⟩ := q
  simp only [Tm.cells] at *
  clear ha
  have : op = 1 ∨ op = 2 ∨ op = 3 ∨ op = 4 ∨ op = 5 ∨ op = 6 := by omega
  rcases this with rfl | rfl | rfl | rfl | rfl | rfl
  · go_enter Tryz.func13, Tryz.ntmps13
    go_wp2
    go_ret
    exact ⟨rfl, below_alloc w _⟩
  · go_enter Tryz.func13, Tryz.ntmps13
    go_wp2
    go_ret
    exact ⟨rfl, below_alloc w _⟩
  · have HA : Hid (∀ w, Calls Tryz.prog 24 #[.agg #[.int .i64 ((3 : Nat) : Int), .string nm, .int .i64 (c : Int), .int .i64 vk, .int .i64 vw, .string vs, .bool vt, .complex .f64 vx vy, .int .i64 (r : Int)]] w fun e w' => e = .returned (.int .i64 0) ∧ Below w.heap.size w w') := hA rfl
    clear hA
    go_enter Tryz.func13, Tryz.ntmps13
    go_wp2_with fail
    refine (HA.out _).mono ?_
    rintro e w1 ⟨rfl, hb1⟩
    have HB1 : Hid (Below w.heap.size w w1) := (below_alloc w _).trans (hb1.mono (by simp))
    clear hb1
    go_wp2
    go_ret
    exact ⟨rfl, HB1.out⟩
  · clear hA
    obtain ⟨x, hx⟩ : ∃ x, termBad st 4 = x := ⟨_, rfl⟩
    have HEN : Hid (∀ w, Calls Tryz.prog 25 #[.int .i64 (st : Int), .int .i64 ((1 : Nat) : Int)] w fun e w' => e = .returned (.int .i64 (x : Int)) ∧ w' = w) := by rw [← hx]; exact enough_any st 1
    rw [hx]
    clear hx
    go_enter Tryz.func13, Tryz.ntmps13
    go_wp2_with fail
    refine (HEN.out _).mono ?_
    rintro e w1 ⟨rfl, rfl⟩
    go_wp2
    go_ret
    exact ⟨rfl, below_alloc w _⟩
  · clear hA
    obtain ⟨x, hx⟩ : ∃ x, termBad st 5 = x := ⟨_, rfl⟩
    have HEN : Hid (∀ w, Calls Tryz.prog 25 #[.int .i64 (st : Int), .int .i64 ((2 : Nat) : Int)] w fun e w' => e = .returned (.int .i64 (x : Int)) ∧ w' = w) := by rw [← hx]; exact enough_any st 2
    rw [hx]
    clear hx
    go_enter Tryz.func13, Tryz.ntmps13
    go_wp2_with fail
    refine (HEN.out _).mono ?_
    rintro e w1 ⟨rfl, rfl⟩
    go_wp2
    go_ret
    exact ⟨rfl, below_alloc w _⟩
  · clear hA
    obtain ⟨x, hx⟩ : ∃ x, termBad st 6 = x := ⟨_, rfl⟩
    have HEN : Hid (∀ w, Calls Tryz.prog 25 #[.int .i64 (st : Int), .int .i64 ((2 : Nat) : Int)] w fun e w' => e = .returned (.int .i64 (x : Int)) ∧ w' = w) := by rw [← hx]; exact enough_any st 2
    rw [hx]
    clear hx
    go_enter Tryz.func13, Tryz.ntmps13
    go_wp2_with fail
    refine (HEN.out _).mono ?_
    rintro e w1 ⟨rfl, rfl⟩
    go_wp2
    go_ret
    exact ⟨rfl, below_alloc w _⟩

theorem checkGo_bad {st : Nat} {q : Tm} {r : List Tm} (h : termBad st q.op ≠ 0) : checkGo st (q :: r) = termBad st q.op := by
  unfold termBad at h ⊢
  rw [checkGo]
  by_cases h4 : q.op = 4
  · rw [if_pos h4] at h ⊢
    rw [if_pos h4]
    by_cases hs : st < 1
    · rw [if_pos hs, if_pos hs]
    · rw [if_neg hs] at h; exact absurd rfl h
  · rw [if_neg h4] at h ⊢
    rw [if_neg h4]
    by_cases h5 : q.op = 5 ∨ q.op = 6
    · rw [if_pos h5] at h ⊢
      rw [if_pos h5]
      by_cases hs : st < 2
      · rw [if_pos hs, if_pos hs]
      · rw [if_neg hs] at h; exact absurd rfl h
    · rw [if_neg h5] at h; exact absurd rfl h
theorem checkGo_next {st st' : Nat} {q : Tm} {r : List Tm} (h : termBad st q.op = 0) (hs : (st : Int) + growthOf q.op = (st' : Int)) (h16 : st ≤ 16) : checkGo st (q :: r) = if 16 < st' then 6 else checkGo st' r := by
  unfold termBad at h
  unfold growthOf at hs
  rw [checkGo]
  by_cases h4 : q.op = 4
  · rw [if_pos h4] at h hs ⊢
    obtain rfl : st' = st := by omega
    rw [if_neg (show ¬ 16 < st' by omega)]
    by_cases hs1 : st' < 1
    · rw [if_pos hs1] at h; cases h
    · rw [if_neg hs1]
  · rw [if_neg h4] at h hs ⊢
    by_cases h5 : q.op = 5 ∨ q.op = 6
    · rw [if_pos h5] at h hs ⊢
      by_cases hs2 : st < 2
      · rw [if_pos hs2] at h; cases h
      · rw [if_neg hs2]
        obtain rfl : st' = st - 1 := by omega
        rw [if_neg (show ¬ 16 < st - 1 by omega)]
    · rw [if_neg h5] at hs ⊢
      obtain rfl : st' = st + 1 := by omega
      rfl

set_option maxHeartbeats 1000000 in
theorem pred_Check (a : Option Addr) (n cap : Nat) (l : List Tm) (w : World) (hr : TmsRd w a l) (hn : l.length = n) (hn2 : n ≤ 1000000) (hl : ∀ q ∈ l, TmRight q) :
    Calls Tryz.prog 8 #[.slice a n cap] w fun e w' => e = .returned (.int .i64 (checkT l : Int)) ∧ Below w.heap.size w w' := by
  have hcx : ∀ (a : Addr) (m : Mode) (W : World) (x y : Nat), (store a (.complex .f64 x y) m).run Tryz.prog W = stored Tryz.prog W a (.complex .f64 x y) m := fun a m W x y => run_store _ _ _ _ _ rfl
  have HR : Hid (TmsRd w a l) := hr
  have HN : Hid (l.length = n) := hn
  have HL : Hid (∀ q ∈ l, TmRight q) := hl
  clear hr hl
  by_cases h48 : 48 < n
  · have k : (48 : Int) < (n : Int) := by omega
    have HE : Hid (checkT l = 6) := by show _ = _; unfold checkT; rw [hn, if_pos h48]
    clear hn
    go_enter Tryz.func8, Tryz.ntmps8
    go_wp2
    go_ret
    exact ⟨by rw [HE.out]; rfl, Below.refl _ _⟩
  · have k : ¬ (48 : Int) < (n : Int) := by omega
    have HE : Hid (checkGo 0 (l.drop 0) = checkT l) := by show _ = _; unfold checkT; rw [hn, if_neg h48]; rfl
    clear hn
    go_enter Tryz.func8, Tryz.ntmps8
    go_wp2
    go_loopw [3, 12] (fun t3 t12 wr => ∃ (st i : Nat), t3 = .int .i64 (st : Int) ∧ t12 = .int .i64 (i : Int) ∧ i ≤ n ∧ st ≤ 16 ∧ Hid (checkGo st (l.drop i) = checkT l) ∧ Hid (Below w.heap.size w wr)) (fun _ t12 _ => n - (intOf t12).toNat)
    case atStart => exact ⟨0, 0, rfl, rfl, by omega, by omega, HE, Below.refl _ _⟩
    case round =>
      obtain ⟨st, i, rfl, rfl, hi, hst, HG, HB⟩ := hrel
      by_cases hlt : i < n
      · have hlt' : (i : Int) < (n : Int) := by omega
        have hil : i < l.length := by rw [HN.out]; exact hlt
        obtain ⟨g, rfl, hg, hc⟩ := (HR.out.below HB.out).at_ i hil
        have HD : l.drop i = l[i] :: l.drop (i + 1) := List.drop_eq_getElem_cons hil
        have HT : Hid (TmRight l[i]) := HL.out _ (List.getElem_mem hil)
        rw [HD] at HG
        clear HD
        generalize l[i] = q at *
        have HCT : Hid (∀ w, Calls Tryz.prog 13 #[.agg q.cells, .int .i64 (st : Int)] w fun e w' => e = .returned (.int .i64 (termBad st q.op : Int)) ∧ Below w.heap.size w w') := check_term q HT.out st
        have HGR : Hid (∀ w, Calls Tryz.prog 14 #[.int .i64 (q.op : Int)] w fun e w' => e = .returned (.int .i64 (growthOf q.op)) ∧ w' = w) := growth_any q.op HT.out.1
        have hgo : growthOf q.op = 0 ∨ growthOf q.op = -1 ∨ growthOf q.op = 1 := by unfold growthOf; split; exact .inl rfl; split; exact .inr (.inl rfl); exact .inr (.inr rfl)
        have HBAD : Hid (termBad st q.op ≠ 0 → checkT l = termBad st q.op) := fun h => by rw [← HG.out]; exact checkGo_bad h
        have HNX : Hid (∀ st' : Nat, termBad st q.op = 0 → (st : Int) + growthOf q.op = (st' : Int) → checkT l = if 16 < st' then 6 else checkGo st' (l.drop (i + 1))) := fun st' h1 h2 => by rw [← HG.out]; exact checkGo_next h1 h2 hst
        have HPOS : Hid (termBad st q.op = 0 → 0 ≤ (st : Int) + growthOf q.op) := by
          intro h
          unfold termBad at h
          unfold growthOf
          split
          · omega
          · rename_i h4
            rw [if_neg h4] at h
            split
            · rename_i h5
              rw [if_pos h5] at h
              split at h
              · cases h
              · omega
            · omega
        obtain ⟨tb, htb⟩ : ∃ tb, termBad st q.op = tb := ⟨_, rfl⟩
        obtain ⟨go, hgo2⟩ : ∃ go, growthOf q.op = go := ⟨_, rfl⟩
        rw [htb] at HCT HBAD HNX HPOS
        rw [hgo2] at HGR HNX HPOS hgo
        clear htb hgo2 HT HG
        obtain ⟨op, nm, c, ⟨vk, vw, vs, vt, vx, vy⟩, r⟩ := q
        have c0 : wr.cell? ⟨g, i * 9, none⟩ = some (.int .i64 (op : Int)) := hc 0 _ rfl
        have c1 : wr.cell? ⟨g, i * 9 + 1, none⟩ = some (.string nm) := hc 1 _ rfl
        have c2 : wr.cell? ⟨g, i * 9 + 2, none⟩ = some (.int .i64 (c : Int)) := hc 2 _ rfl
        have c3 : wr.cell? ⟨g, i * 9 + 3, none⟩ = some (.int .i64 vk) := hc 3 _ rfl
        have c4 : wr.cell? ⟨g, i * 9 + 4, none⟩ = some (.int .i64 vw) := hc 4 _ rfl
        have c5 : wr.cell? ⟨g, i * 9 + 5, none⟩ = some (.string vs) := hc 5 _ rfl
        have c6 : wr.cell? ⟨g, i * 9 + 6, none⟩ = some (.bool vt) := hc 6 _ rfl
        have c7 : wr.cell? ⟨g, i * 9 + 7, none⟩ = some (.complex .f64 vx vy) := hc 7 _ rfl
        have c8 : wr.cell? ⟨g, i * 9 + 8, none⟩ = some (.int .i64 (r : Int)) := hc 8 _ rfl
        simp only [Tm.cells] at *
        clear hc
        go_wp2_with fail
        refine (HCT.out _).mono ?_
        rintro e w1 ⟨rfl, hb1⟩
        have HB1 : Hid (Below w.heap.size w w1) := (HB.out.alloc HB.out.size _).trans (hb1.mono (HB.out.alloc HB.out.size _).size)
        have d0 : w1.cell? ⟨wr.heap.size, 0, none⟩ = some (.int .i64 (op : Int)) := ((Blk.new wr _ _).stay hb1).cell 0 rfl
        clear hb1 c0 c1 c2 c3 c4 c5 c6 c7 c8 HB
        by_cases hb0 : tb = 0
        · subst hb0
          go_wp2_with fail
          refine (HGR.out _).mono ?_
          rintro e w2 ⟨rfl, rfl⟩
          have hpos := HPOS.out (by trivial)
          obtain ⟨st', hst'⟩ := Int.eq_ofNat_of_zero_le hpos
          have HNX2 : Hid (checkT l = if 16 < st' then 6 else checkGo st' (l.drop (i + 1))) := HNX.out st' (by trivial) hst'
          clear HNX HPOS hpos
          by_cases h16 : 16 < st'
          · have k16 : (16 : Int) < (st' : Int) := by omega
            have HE2 : Hid (checkT l = 6) := by have h := HNX2.out; rw [if_pos h16] at h; exact h
            go_wp2
            go_ret
            exact ⟨by rw [HE2.out]; rfl, HB1.out⟩
          · have k16 : ¬ (16 : Int) < (st' : Int) := by omega
            have HE2 : Hid (checkGo st' (l.drop (i + 1)) = checkT l) := by have h := HNX2.out; rw [if_neg h16] at h; exact h.symm
            go_wp2
            go_roundw
            case rel => exact ⟨st', i + 1, by simp, by go_num, by omega, by omega, HE2, HB1⟩
            case measure => simp [intOf]; omega
        · have hb0' : ((tb : Int) != 0) = true := by rw [bne_iff_ne]; omega
          have HE2 : Hid (checkT l = tb) := HBAD.out hb0
          go_wp2
          go_ret
          exact ⟨by rw [HE2.out]; rfl, HB1.out⟩
      · have hnl : ¬ (i : Int) < (n : Int) := by omega
        have HG2 : Hid ((if st = 1 then 0 else 4) = checkT l) := by have h := HG.out; rw [List.drop_of_length_le (by rw [HN.out]; omega), checkGo] at h; exact h
        by_cases h1 : st = 1
        · have k1 : ((st : Int) != 1) = false := by rw [h1]; rfl
          have HE2 : Hid (checkT l = 0) := by have h := HG2.out; rw [if_pos h1] at h; exact h.symm
          clear h1
          go_wp2
          go_ret
          exact ⟨by rw [HE2.out]; rfl, HB.out⟩
        · have k1 : ((st : Int) != 1) = true := by rw [bne_iff_ne]; omega
          have HE2 : Hid (checkT l = 4) := by have h := HG2.out; rw [if_neg h1] at h; exact h.symm
          clear h1
          go_wp2
          go_ret
          exact ⟨by rw [HE2.out]; rfl, HB.out⟩
end Go.Proofs.YteoopoabemeanaaGreatDoor
