/- pred.readNumber of whatever digits. -/
import Derived.Test.YteoopoabemeanaaGreatDoorWrd3
import Derived.Test.YteoopoabemeanaaGreatDoorShelf
namespace Go.Proofs.YteoopoabemeanaaGreatDoor
set_option maxRecDepth 100000
open Go.RowKit

/-- Are digits, behind a - or not, the one way in which their number is written? -/
def oneB (d : ByteArray) (below : Bool) : Bool := if d.size = 0 then false else if byteAt d 0 = 48 then decide (d.size = 1) && !below else true
theorem one_wayG (d : ByteArray) (below : Bool) (hd : d.size ≤ 300) (w : World) : Calls Tryz.prog 59 #[.string d, .bool below] w fun e w' => e = .returned (.bool (oneB d below)) ∧ w' = w := by
  by_cases h0 : d.size = 0
  · have e0 : d = ⟨#[]⟩ := by
      apply ByteArray.ext
      exact Array.eq_empty_of_size_eq_zero h0
    subst e0
    go_enter Tryz.func59, Tryz.ntmps59
    go_wp2
    go_ret
    exact ⟨rfl, rfl⟩
  · have e0 : d ≠ ⟨#[]⟩ := fun h => h0 (by rw [h]; rfl)
    have e1 : (d.toList == (⟨#[]⟩ : ByteArray).toList) = false := by rw [str_beq]; exact decide_eq_false e0
    have e2 : (d.toList == []) = false := by
      rw [ByteArray.toList_eq, beq_eq_false_iff_ne]
      intro h
      apply h0
      show d.data.size = 0
      have h3 := congrArg List.length h
      rwa [Array.length_toList] at h3
    have hp : 0 < d.size := by omega
    have HB : Hid (byteAt d 0 = d[0].toNat) := byteAt_eq d 0 hp
    obtain ⟨c, hc⟩ : ∃ c, d[0].toNat = c := ⟨_, rfl⟩
    have HR : Hid (oneB d below = if c = 48 then decide (d.size = 1) && !below else true) := by (show _ = _); rw [oneB, if_neg h0, HB.out, hc]
    rw [HR.out]
    have g1 : (0 : Int) < (d.size : Int) := by omega
    clear HB
    by_cases h48 : c = 48
    · rw [if_pos h48]
      have k1 : ((c : Int) != 48) = false := by rw [h48]; rfl
      have k2 : ((c : Int) == 48) = true := by rw [h48]; rfl
      clear h48
      by_cases h1 : d.size = 1
      · have k3 : ((d.size : Int) == 1) = true := by rw [h1]; rfl
        rw [decide_eq_true h1]
        clear h1
        cases below with
        | true =>
          go_enter Tryz.func59, Tryz.ntmps59
          go_wp2
          go_ret
          exact ⟨rfl, rfl⟩
        | false =>
          go_enter Tryz.func59, Tryz.ntmps59
          go_wp2
          go_ret
          exact ⟨rfl, rfl⟩
      · have k3 : ((d.size : Int) == 1) = false := by rw [beq_eq_false_iff_ne]; omega
        rw [decide_eq_false h1]
        clear h1
        go_enter Tryz.func59, Tryz.ntmps59
        go_wp2
        go_ret
        exact ⟨rfl, rfl⟩
    · rw [if_neg h48]
      have k1 : ((c : Int) != 48) = true := by rw [bne_iff_ne]; omega
      have k2 : ((c : Int) == 48) = false := by rw [beq_eq_false_iff_ne]; omega
      clear h48
      go_enter Tryz.func59, Tryz.ntmps59
      go_wp2
      go_ret
      exact ⟨rfl, rfl⟩
/-- A number, and what is wrong with it. -/
def numV (t : ByteArray) : Int × Nat := match Lib.parseIntB 64 t.data.toList with
  | .ok v => (v, 0)
  | .range => (Lib.intSat 64 t.data.toList, 6)
  | _ => (0, 6)
/-- What ParseInt tells. -/
def ToldI (t : ByteArray) (e : Ending) : Prop := ((numV t).2 = 0 ∧ e = .returned (.tuple #[.int .i64 (numV t).1, .nilIface])) ∨ ((numV t).2 = 6 ∧ ∃ ty p, e = .returned (.tuple #[.int .i64 (numV t).1, .iface ty p]))
theorem parse_int (t : ByteArray) (ht : t.size ≤ 300) (w : World) (hv : Vars w) : Calls Tryz.prog 60 #[.string t, .int .i64 10, .int .i64 64] w fun e w' => ToldI t e ∧ Below w.heap.size w w' := by
  obtain ⟨⟨v2, h2, k2⟩, v3, h3, k3⟩ := hv
  unfold ToldI numV
  cases h : Lib.parseIntB 64 t.data.toList with
  | ok v =>
    refine (Tryz.strconv_ParseInt_10_at64_ok t (by omega) v h w).mono ?_
    rintro e w' ⟨rfl, hw⟩
    refine ⟨.inl ⟨rfl, rfl⟩, ?_⟩
    rcases hw with rfl | ⟨t, rfl⟩
    · exact Below.refl _ _
    · exact Lib.bytesWorld_below _ _ _
  | range =>
    refine (Tryz.strconv_ParseInt_10_at64_range t (by omega) h v3 w h3 k3).mono ?_
    rintro e w' ⟨N, rfl, _, _, hb⟩
    exact ⟨.inr ⟨rfl, _, _, rfl⟩, hb⟩
  | _ =>
    refine (Tryz.strconv_ParseInt_10_at64_syntax t (by omega) (fun v hx => by rw [h] at hx; cases hx) (fun hx => by rw [h] at hx; cases hx) v2 w h2 k2).mono ?_
    rintro e w' ⟨N, rfl, _, _, hb⟩
    exact ⟨.inr ⟨rfl, _, _, rfl⟩, hb⟩
def numF (T : ByteArray) (p : Nat) : Nat := if byteAt T p = 45 then p + 1 else p
def numE (T : ByteArray) (p : Nat) : Nat := runTo T digB (numF T p)
/-- The number at a place. -/
def numAt (T : ByteArray) (p : Nat) : Except (Nat × Nat) (Wd × Nat) := if oneB (subT T (numF T p) (numE T p)) (decide (p < numF T p)) = true then .ok (⟨3, p, ⟨#[]⟩, (numV (subT T p (numE T p))).1, (numV (subT T p (numE T p))).2⟩, numE T p) else .error (p, 4)
theorem subT_size (T : ByteArray) (p q : Nat) (hq : q ≤ T.size) : (subT T p q).size = q - p := by
  unfold subT
  rw [ByteArray.size_extract, Nat.min_eq_left hq]
theorem Blk.setW5 {w : World} {g : Nat} {t : TypeId} {c0 c1 c2 c3 c4 : Value} (h : Blk w g #[c0, c1, c2, c3, c4] t) (d0 d1 d2 d3 d4 : Value) : Blk (((((w.setCell ⟨g, 0, none⟩ d0).setCell ⟨g, 1, none⟩ d1).setCell ⟨g, 2, none⟩ d2).setCell ⟨g, 3, none⟩ d3).setCell ⟨g, 4, none⟩ d4) g #[d0, d1, d2, d3, d4] t :=
  ((((h.set 0 d0).set 1 d1).set 2 d2).set 3 d3).set 4 d4
set_option maxHeartbeats 4000000 in
theorem read_num (T : ByteArray) (p : Nat) (hp : p < T.size) (hT : T.size ≤ 300) (w : World) (hv : Vars w) :
    Calls Tryz.prog 45 #[.string T, .int .i64 (p : Int)] w fun e w' => e = toldS (numAt T p) ∧ Below w.heap.size w w' := by
  have HBY : Hid (byteAt T p = T[p].toNat) := byteAt_eq T p hp
  obtain ⟨c, hc⟩ : ∃ c, T[p].toNat = c := ⟨_, rfl⟩
  have HC : Hid (byteAt T p = c) := by rw [← hc]; exact HBY
  have HVB : Hid (Vars ((w.alloc (.cells #[.int .i64 0, .int .i64 0, .string ⟨#[]⟩, .int .i64 0, .int .i64 0] 63)).alloc (.cells #[.int .i64 3, .int .i64 (p : Int), .string ⟨#[]⟩, .int .i64 0, .int .i64 0] 63))) := (hv.stay (below_alloc _ _)).stay (below_alloc _ _)
  have g1 : (0 : Int) ≤ (p : Int) := by omega
  have g4 : (p : Int) < (T.size : Int) := by omega
  obtain ⟨R, HR⟩ : ∃ R, Hid (R = numAt T p) := ⟨_, rfl⟩
  rw [← HR.out]
  obtain ⟨E, HEE⟩ : ∃ E, Hid (E = numE T p) := ⟨_, rfl⟩
  have HNV : Hid (R = if oneB (subT T (numF T p) E) (decide (p < numF T p)) = true then .ok (⟨3, p, ⟨#[]⟩, (numV (subT T p E)).1, (numV (subT T p E)).2⟩, E) else .error (p, 4)) := by (show _ = _); rw [HR.out, HEE.out]; rfl
  clear hv HBY HR
  by_cases h45 : c = 45
  · have hF : numF T p = p + 1 := by rw [numF, HC.out, if_pos h45]
    rw [hF] at HNV
    have k45 : ((c : Int) == 45) = true := by rw [h45]; rfl
    have HBD : Hid (∀ w, Calls Tryz.prog 57 #[.string T, .int .i64 ((p : Int) + 1), .func (.func 44) #[] #[]] w fun e w' => e = .returned (.int .i64 (E : Int)) ∧ w' = w) := by
      intro w
      have h := behind_digits T (p + 1) (by omega) hT w
      rw [show runTo T digB (p + 1) = E from by rw [← hF]; exact HEE.out.symm] at h
      exact h
    have hle : p + 1 ≤ E ∧ E ≤ T.size := by
      have h := runTo_le (T := T) (ok := digB) (p := p + 1) (by omega)
      rw [show runTo T digB (p + 1) = E from by rw [← hF]; exact HEE.out.symm] at h
      exact h
    have gt1 : (p : Int) < (p : Int) + 1 := by omega
    have g2 : ((p : Int) + 1) ≤ (E : Int) := by omega
    have g3 : (E : Int) ≤ (T.size : Int) := by omega
    have g5 : (p : Int) ≤ (E : Int) := by omega
    have g6 : (0 : Int) ≤ ((p : Int) + 1) := by omega
    have HOW := fun w => one_wayG (subT T (p + 1) E) true (by rw [subT_size _ _ _ hle.2]; omega) w
    have HOW2 : Hid (∀ w, Calls Tryz.prog 59 #[.string (T.extract (p + 1) E), .bool true] w fun e w' => e = .returned (.bool (oneB (subT T (p + 1) E) true)) ∧ w' = w) := HOW
    obtain ⟨O, HO⟩ : ∃ O, Hid (O = oneB (subT T (p + 1) E) true) := ⟨_, rfl⟩
    rw [← HO.out] at HOW2
    rw [show oneB (subT T (p + 1) E) (decide (p < p + 1)) = O from by rw [HO.out]; congr 1; simp] at HNV
    have HPI : Hid (∀ w, Vars w → Calls Tryz.prog 60 #[.string (T.extract p E), .int .i64 10, .int .i64 64] w fun e w' => ToldI (subT T p E) e ∧ Below w.heap.size w w') := fun w hv => parse_int (subT T p E) (by rw [subT_size _ _ _ hle.2]; omega) w hv
    clear HOW hF hle HO
    cases O with
    | false =>
      have HRT : Hid (R = .error (p, 4)) := by (show _ = _); rw [HNV.out]; rfl
      clear HNV HPI
      go_enter Tryz.func45, Tryz.ntmps45
      go_wp2_with fail
      refine (HBD.out _).mono ?_
      rintro e w1 ⟨rfl, rfl⟩
      go_wp2_with fail
      refine (HOW2.out _).mono ?_
      rintro e w1 ⟨rfl, rfl⟩
      go_wp2
      exact ⟨rfl, by rw [HRT.out]; rfl, below_alloc w _⟩
    | true =>
      have HRV : Hid (R = .ok (⟨3, p, ⟨#[]⟩, (numV (subT T p E)).1, (numV (subT T p E)).2⟩, E)) := by (show _ = _); rw [HNV.out]; rfl
      clear HNV
      go_enter Tryz.func45, Tryz.ntmps45
      go_wp2_with fail
      refine (HBD.out _).mono ?_
      rintro e w1 ⟨rfl, rfl⟩
      go_wp2_with fail
      refine (HOW2.out _).mono ?_
      rintro e w1 ⟨rfl, rfl⟩
      go_wp2_with fail
      refine (HPI.out _ HVB.out).mono ?_
      rintro e w2 ⟨ht2, hb2⟩
      have e1 : (w.alloc (.cells #[.int .i64 0, .int .i64 0, .string ⟨#[]⟩, .int .i64 0, .int .i64 0] 63)).heap.size = w.heap.size + 1 := by simp
      have HL0 : Hid (Blk w2 w.heap.size #[.int .i64 0, .int .i64 0, .string ⟨#[]⟩, .int .i64 0, .int .i64 0] 63) := ((Blk.new w _ _).stay (below_alloc _ _)).stay hb2
      have HL1 : Hid (Blk w2 (w.heap.size + 1) #[.int .i64 3, .int .i64 (p : Int), .string ⟨#[]⟩, .int .i64 0, .int .i64 0] 63) := by
        have := (Blk.new (w.alloc (.cells #[.int .i64 0, .int .i64 0, .string ⟨#[]⟩, .int .i64 0, .int .i64 0] 63)) #[.int .i64 3, .int .i64 (p : Int), .string ⟨#[]⟩, .int .i64 0, .int .i64 0] 63).stay hb2
        rw [e1] at this
        exact this
      have HB2 : Hid (Below w.heap.size w w2) := ((below_alloc w _).alloc (by simp) _).trans (hb2.mono (by simp; omega))
      have HT2 : Hid (ToldI (subT T p E) e) := ht2
      clear hb2 e1 ht2 HPI
      have d0 : w2.cell? ⟨w.heap.size, 0, none⟩ = some (.int .i64 0) := HL0.out.cell 0 rfl
      have d1 : w2.cell? ⟨w.heap.size, 1, none⟩ = some (.int .i64 0) := HL0.out.cell 1 rfl
      have d2 : w2.cell? ⟨w.heap.size, 2, none⟩ = some (.string ⟨#[]⟩) := HL0.out.cell 2 rfl
      have d3 : w2.cell? ⟨w.heap.size, 3, none⟩ = some (.int .i64 0) := HL0.out.cell 3 rfl
      have d4 : w2.cell? ⟨w.heap.size, 4, none⟩ = some (.int .i64 0) := HL0.out.cell 4 rfl
      have f0 := HL0.out.free 0
      have f1 := HL0.out.free 1
      have f2 := HL0.out.free 2
      have f3 := HL0.out.free 3
      have f4 := HL0.out.free 4
      have x0 : w2.cell? ⟨w.heap.size + 1, 0, none⟩ = some (.int .i64 3) := HL1.out.cell 0 rfl
      have x1 : w2.cell? ⟨w.heap.size + 1, 1, none⟩ = some (.int .i64 (p : Int)) := HL1.out.cell 1 rfl
      have x2 : w2.cell? ⟨w.heap.size + 1, 2, none⟩ = some (.string ⟨#[]⟩) := HL1.out.cell 2 rfl
      have x3 : w2.cell? ⟨w.heap.size + 1, 3, none⟩ = some (.int .i64 0) := HL1.out.cell 3 rfl
      have x4 : w2.cell? ⟨w.heap.size + 1, 4, none⟩ = some (.int .i64 0) := HL1.out.cell 4 rfl
      have y3 := HL1.out.free 3
      have y4 := HL1.out.free 4
      obtain ⟨N, HN⟩ : ∃ N, Hid (N = (numV (subT T p E)).1) := ⟨_, rfl⟩
      rcases HT2.out with ⟨hz, he⟩ | ⟨hz, ty, pp, he⟩
      · have HRT : Hid (R = .ok (⟨3, p, ⟨#[]⟩, N, 0⟩, E)) := by (show _ = _); rw [HRV.out, hz, HN.out]
        rw [← HN.out] at he
        subst he
        clear hz HT2 HRV
        go_wp2
        try simp only [Exit.inBlock, Exit.then]
        refine bodyPost_ret (results_word2 (wd := ⟨3, p, ⟨#[]⟩, N, 0⟩) rfl (by rfl) (by rfl) ((HL0.out.other _ _ (by simp)).setW _ _ _ _ _)) rfl ?_
        exact ⟨by rw [HRT.out]; rfl, (((((HB2.out.setCell (by simp) _).setCell (Nat.le_refl _) _).setCell (Nat.le_refl _) _).setCell (Nat.le_refl _) _).setCell (Nat.le_refl _) _).setCell (Nat.le_refl _) _⟩
      · have HRT : Hid (R = .ok (⟨3, p, ⟨#[]⟩, N, 6⟩, E)) := by (show _ = _); rw [HRV.out, hz, HN.out]
        rw [← HN.out] at he
        subst he
        clear hz HT2 HRV
        go_wp2
        try simp only [Exit.inBlock, Exit.then]
        refine bodyPost_ret (results_word2 (wd := ⟨3, p, ⟨#[]⟩, N, 6⟩) rfl (by rfl) (by rfl) (((HL0.out.other _ _ (by simp)).other _ _ (by simp)).setW _ _ _ _ _)) rfl ?_
        exact ⟨by rw [HRT.out]; rfl, ((((((HB2.out.setCell (by simp) _).setCell (by simp) _).setCell (Nat.le_refl _) _).setCell (Nat.le_refl _) _).setCell (Nat.le_refl _) _).setCell (Nat.le_refl _) _).setCell (Nat.le_refl _) _⟩
  · have hF : numF T p = p := by rw [numF, HC.out, if_neg h45]
    rw [hF] at HNV
    have k45 : ((c : Int) == 45) = false := by rw [beq_eq_false_iff_ne]; omega
    have HBD : Hid (∀ w, Calls Tryz.prog 57 #[.string T, .int .i64 (p : Int), .func (.func 44) #[] #[]] w fun e w' => e = .returned (.int .i64 (E : Int)) ∧ w' = w) := by
      intro w
      have h := behind_digits T (p) (by omega) hT w
      rw [show runTo T digB (p) = E from by rw [← hF]; exact HEE.out.symm] at h
      exact h
    have hle : p ≤ E ∧ E ≤ T.size := by
      have h := runTo_le (T := T) (ok := digB) (p := p) (by omega)
      rw [show runTo T digB (p) = E from by rw [← hF]; exact HEE.out.symm] at h
      exact h
    have gt1 : ¬ (p : Int) < (p : Int) := by omega
    have g2 : (p : Int) ≤ (E : Int) := by omega
    have g3 : (E : Int) ≤ (T.size : Int) := by omega
    have g5 : (p : Int) ≤ (E : Int) := by omega
    have g6 : (0 : Int) ≤ (p : Int) := by omega
    have HOW := fun w => one_wayG (subT T (p) E) false (by rw [subT_size _ _ _ hle.2]; omega) w
    have HOW2 : Hid (∀ w, Calls Tryz.prog 59 #[.string (T.extract (p) E), .bool false] w fun e w' => e = .returned (.bool (oneB (subT T (p) E) false)) ∧ w' = w) := HOW
    obtain ⟨O, HO⟩ : ∃ O, Hid (O = oneB (subT T (p) E) false) := ⟨_, rfl⟩
    rw [← HO.out] at HOW2
    rw [show oneB (subT T (p) E) (decide (p < p)) = O from by rw [HO.out]; congr 1; simp] at HNV
    have HPI : Hid (∀ w, Vars w → Calls Tryz.prog 60 #[.string (T.extract p E), .int .i64 10, .int .i64 64] w fun e w' => ToldI (subT T p E) e ∧ Below w.heap.size w w') := fun w hv => parse_int (subT T p E) (by rw [subT_size _ _ _ hle.2]; omega) w hv
    clear HOW hF hle HO
    cases O with
    | false =>
      have HRT : Hid (R = .error (p, 4)) := by (show _ = _); rw [HNV.out]; rfl
      clear HNV HPI
      go_enter Tryz.func45, Tryz.ntmps45
      go_wp2_with fail
      refine (HBD.out _).mono ?_
      rintro e w1 ⟨rfl, rfl⟩
      go_wp2_with fail
      refine (HOW2.out _).mono ?_
      rintro e w1 ⟨rfl, rfl⟩
      go_wp2
      exact ⟨rfl, by rw [HRT.out]; rfl, below_alloc w _⟩
    | true =>
      have HRV : Hid (R = .ok (⟨3, p, ⟨#[]⟩, (numV (subT T p E)).1, (numV (subT T p E)).2⟩, E)) := by (show _ = _); rw [HNV.out]; rfl
      clear HNV
      go_enter Tryz.func45, Tryz.ntmps45
      go_wp2_with fail
      refine (HBD.out _).mono ?_
      rintro e w1 ⟨rfl, rfl⟩
      go_wp2_with fail
      refine (HOW2.out _).mono ?_
      rintro e w1 ⟨rfl, rfl⟩
      go_wp2_with fail
      refine (HPI.out _ HVB.out).mono ?_
      rintro e w2 ⟨ht2, hb2⟩
      have e1 : (w.alloc (.cells #[.int .i64 0, .int .i64 0, .string ⟨#[]⟩, .int .i64 0, .int .i64 0] 63)).heap.size = w.heap.size + 1 := by simp
      have HL0 : Hid (Blk w2 w.heap.size #[.int .i64 0, .int .i64 0, .string ⟨#[]⟩, .int .i64 0, .int .i64 0] 63) := ((Blk.new w _ _).stay (below_alloc _ _)).stay hb2
      have HL1 : Hid (Blk w2 (w.heap.size + 1) #[.int .i64 3, .int .i64 (p : Int), .string ⟨#[]⟩, .int .i64 0, .int .i64 0] 63) := by
        have := (Blk.new (w.alloc (.cells #[.int .i64 0, .int .i64 0, .string ⟨#[]⟩, .int .i64 0, .int .i64 0] 63)) #[.int .i64 3, .int .i64 (p : Int), .string ⟨#[]⟩, .int .i64 0, .int .i64 0] 63).stay hb2
        rw [e1] at this
        exact this
      have HB2 : Hid (Below w.heap.size w w2) := ((below_alloc w _).alloc (by simp) _).trans (hb2.mono (by simp; omega))
      have HT2 : Hid (ToldI (subT T p E) e) := ht2
      clear hb2 e1 ht2 HPI
      have d0 : w2.cell? ⟨w.heap.size, 0, none⟩ = some (.int .i64 0) := HL0.out.cell 0 rfl
      have d1 : w2.cell? ⟨w.heap.size, 1, none⟩ = some (.int .i64 0) := HL0.out.cell 1 rfl
      have d2 : w2.cell? ⟨w.heap.size, 2, none⟩ = some (.string ⟨#[]⟩) := HL0.out.cell 2 rfl
      have d3 : w2.cell? ⟨w.heap.size, 3, none⟩ = some (.int .i64 0) := HL0.out.cell 3 rfl
      have d4 : w2.cell? ⟨w.heap.size, 4, none⟩ = some (.int .i64 0) := HL0.out.cell 4 rfl
      have f0 := HL0.out.free 0
      have f1 := HL0.out.free 1
      have f2 := HL0.out.free 2
      have f3 := HL0.out.free 3
      have f4 := HL0.out.free 4
      have x0 : w2.cell? ⟨w.heap.size + 1, 0, none⟩ = some (.int .i64 3) := HL1.out.cell 0 rfl
      have x1 : w2.cell? ⟨w.heap.size + 1, 1, none⟩ = some (.int .i64 (p : Int)) := HL1.out.cell 1 rfl
      have x2 : w2.cell? ⟨w.heap.size + 1, 2, none⟩ = some (.string ⟨#[]⟩) := HL1.out.cell 2 rfl
      have x3 : w2.cell? ⟨w.heap.size + 1, 3, none⟩ = some (.int .i64 0) := HL1.out.cell 3 rfl
      have x4 : w2.cell? ⟨w.heap.size + 1, 4, none⟩ = some (.int .i64 0) := HL1.out.cell 4 rfl
      have y3 := HL1.out.free 3
      have y4 := HL1.out.free 4
      obtain ⟨N, HN⟩ : ∃ N, Hid (N = (numV (subT T p E)).1) := ⟨_, rfl⟩
      rcases HT2.out with ⟨hz, he⟩ | ⟨hz, ty, pp, he⟩
      · have HRT : Hid (R = .ok (⟨3, p, ⟨#[]⟩, N, 0⟩, E)) := by (show _ = _); rw [HRV.out, hz, HN.out]
        rw [← HN.out] at he
        subst he
        clear hz HT2 HRV
        go_wp2
        try simp only [Exit.inBlock, Exit.then]
        refine bodyPost_ret (results_word2 (wd := ⟨3, p, ⟨#[]⟩, N, 0⟩) rfl (by rfl) (by rfl) ((HL0.out.other _ _ (by simp)).setW _ _ _ _ _)) rfl ?_
        exact ⟨by rw [HRT.out]; rfl, (((((HB2.out.setCell (by simp) _).setCell (Nat.le_refl _) _).setCell (Nat.le_refl _) _).setCell (Nat.le_refl _) _).setCell (Nat.le_refl _) _).setCell (Nat.le_refl _) _⟩
      · have HRT : Hid (R = .ok (⟨3, p, ⟨#[]⟩, N, 6⟩, E)) := by (show _ = _); rw [HRV.out, hz, HN.out]
        rw [← HN.out] at he
        subst he
        clear hz HT2 HRV
        go_wp2
        try simp only [Exit.inBlock, Exit.then]
        refine bodyPost_ret (results_word2 (wd := ⟨3, p, ⟨#[]⟩, N, 6⟩) rfl (by rfl) (by rfl) (((HL0.out.other _ _ (by simp)).other _ _ (by simp)).setW _ _ _ _ _)) rfl ?_
        exact ⟨by rw [HRT.out]; rfl, ((((((HB2.out.setCell (by simp) _).setCell (by simp) _).setCell (Nat.le_refl _) _).setCell (Nat.le_refl _) _).setCell (Nat.le_refl _) _).setCell (Nat.le_refl _) _).setCell (Nat.le_refl _) _⟩
end Go.Proofs.YteoopoabemeanaaGreatDoor
