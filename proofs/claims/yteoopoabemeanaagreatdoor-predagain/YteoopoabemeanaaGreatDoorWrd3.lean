/- pred.readWord: the word at a place. -/
import Derived.Test.YteoopoabemeanaaGreatDoorWrd2
namespace Go.Proofs.YteoopoabemeanaaGreatDoor
set_option maxRecDepth 100000
open Go.RowKit

def blaB (c : Nat) : Bool := decide (c = 32)
/-- The word from a place on; numbers and strings as they are told. -/
def wordF (T : ByteArray) (numAt strAt : Nat → Except (Nat × Nat) (Wd × Nat)) (p : Nat) : Except (Nat × Nat) (Wd × Nat) :=
  if runTo T blaB p = T.size then .ok (⟨0, T.size, ⟨#[]⟩, 0, 0⟩, T.size)
  else if letB (byteAt T (runTo T blaB p)) = true then .ok (nameAt T (runTo T blaB p))
  else if byteAt T (runTo T blaB p) = 45 ∨ digB (byteAt T (runTo T blaB p)) = true then numAt (runTo T blaB p)
  else if byteAt T (runTo T blaB p) = 34 then strAt (runTo T blaB p)
  else signAt T (runTo T blaB p)
def headF (T : ByteArray) (numAt strAt : Nat → Except (Nat × Nat) (Wd × Nat)) (q : Nat) : Except (Nat × Nat) (Wd × Nat) :=
  if letB (byteAt T q) = true then .ok (nameAt T q)
  else if byteAt T q = 45 ∨ digB (byteAt T q) = true then numAt q
  else if byteAt T q = 34 then strAt q
  else signAt T q
theorem wordF_end {T : ByteArray} {numAt strAt : Nat → Except (Nat × Nat) (Wd × Nat)} {p : Nat} (h : runTo T blaB p = T.size) : wordF T numAt strAt p = .ok (⟨0, T.size, ⟨#[]⟩, 0, 0⟩, T.size) := by
  unfold wordF
  rw [if_pos h]
theorem wordF_head {T : ByteArray} {numAt strAt : Nat → Except (Nat × Nat) (Wd × Nat)} {p q : Nat} (h : runTo T blaB p = q) (hq : q < T.size) : wordF T numAt strAt p = headF T numAt strAt q := by
  unfold wordF headF
  rw [h, if_neg (by omega)]

/-- readSign. -/
theorem read_sign_ok (T : ByteArray) (p : Nat) (hp : p < T.size) (hT : T.size ≤ 300) (r : Wd × Nat) (h : signAt T p = .ok r) (w : World) :
    Calls Tryz.prog 47 #[.string T, .int .i64 (p : Int)] w fun e w' => e = toldW r ∧ Below w.heap.size w w' := by
  unfold signAt signLen at h
  by_cases h1 : byteAt T p = 33 ∨ byteAt T p = 60 ∨ byteAt T p = 62
  · rw [if_pos h1] at h
    by_cases h2 : p + 1 < T.size ∧ byteAt T (p + 1) = 61
    · rw [if_pos h2] at h
      cases h
      exact sign_two T p h2.1 hT w h1 h2.2
    · rw [if_neg h2] at h
      cases h
      exact sign_first T p hp hT w h1 h2
  · rw [if_neg h1] at h
    by_cases h2 : byteAt T p ∈ [40, 41, 44, 47, 38, 124, 63, 42, 35, 61, 94, 126]
    · rw [if_pos h2] at h
      cases h
      exact sign_one T p hp hT w h2
    · rw [if_neg h2] at h
      cases h
set_option maxHeartbeats 2000000 in
theorem read_sign_bad (T : ByteArray) (p : Nat) (hp : p < T.size) (m : Nat × Nat) (h : signAt T p = .error m) (w : World) :
    Calls Tryz.prog 47 #[.string T, .int .i64 (p : Int)] w fun e w' => e = thrown m ∧ Below w.heap.size w w' := by
  unfold signAt signLen at h
  by_cases h1 : byteAt T p = 33 ∨ byteAt T p = 60 ∨ byteAt T p = 62
  · rw [if_pos h1] at h
    by_cases h2 : p + 1 < T.size ∧ byteAt T (p + 1) = 61
    · rw [if_pos h2] at h
      cases h
    · rw [if_neg h2] at h
      cases h
  · rw [if_neg h1] at h
    by_cases h2 : byteAt T p ∈ [40, 41, 44, 47, 38, 124, 63, 42, 35, 61, 94, 126]
    · rw [if_pos h2] at h
      cases h
    · rw [if_neg h2, if_pos rfl] at h
      cases h
      rw [byteAt_eq T p hp] at h1 h2
      obtain ⟨c, hc⟩ : ∃ c, T[p].toNat = c := ⟨_, rfl⟩
      rw [hc] at h1 h2
      have HC : Hid (¬ (c = 33 ∨ c = 60 ∨ c = 62) ∧ c ∉ [40, 41, 44, 47, 38, 124, 63, 42, 35, 61, 94, 126]) := ⟨h1, h2⟩
      have g1 : (0 : Int) ≤ (p : Int) := by omega
      have g4 : (p : Int) < (T.size : Int) := by omega
      have nb : ∀ k : Nat, c ≠ k → ((c : Int) == (k : Int)) = false := fun k h => by rw [beq_eq_false_iff_ne]; omega
      simp only [not_or, List.mem_cons, List.not_mem_nil, or_false] at h1 h2
      have n33 : ((c : Int) == 33) = false := nb 33 (by omega)
      have n60 : ((c : Int) == 60) = false := nb 60 (by omega)
      have n62 : ((c : Int) == 62) = false := nb 62 (by omega)
      have n40 : ((c : Int) == 40) = false := nb 40 (by omega)
      have n41 : ((c : Int) == 41) = false := nb 41 (by omega)
      have n44 : ((c : Int) == 44) = false := nb 44 (by omega)
      have n47 : ((c : Int) == 47) = false := nb 47 (by omega)
      have n38 : ((c : Int) == 38) = false := nb 38 (by omega)
      have n124 : ((c : Int) == 124) = false := nb 124 (by omega)
      have n63 : ((c : Int) == 63) = false := nb 63 (by omega)
      have n42 : ((c : Int) == 42) = false := nb 42 (by omega)
      have n35 : ((c : Int) == 35) = false := nb 35 (by omega)
      have n61 : ((c : Int) == 61) = false := nb 61 (by omega)
      have n94 : ((c : Int) == 94) = false := nb 94 (by omega)
      have n126 : ((c : Int) == 126) = false := nb 126 (by omega)
      clear nb h1 h2
      go_enter Tryz.func47, Tryz.ntmps47
      go_wp2
      exact ⟨rfl, rfl, below_alloc w _⟩

set_option maxHeartbeats 4000000 in
theorem read_word (T : ByteArray) (hT : T.size ≤ 300) (numAt strAt : Nat → Except (Nat × Nat) (Wd × Nat))
    (numC : ∀ q w, Vars w → q < T.size → (byteAt T q = 45 ∨ digB (byteAt T q) = true) → Calls Tryz.prog 45 #[.string T, .int .i64 (q : Int)] w fun e w' => e = toldS (numAt q) ∧ Below w.heap.size w w')
    (strC : ∀ q w, q < T.size → byteAt T q = 34 → Calls Tryz.prog 46 #[.string T, .int .i64 (q : Int)] w fun e w' => e = toldS (strAt q) ∧ Below w.heap.size w w') (p : Nat) (hp : p ≤ T.size) (w : World) (hv : Vars w) :
    Calls Tryz.prog 26 #[.string T, .int .i64 (p : Int)] w fun e w' => e = toldS (wordF T numAt strAt p) ∧ Below w.heap.size w w' := by
  have HVA : Hid (Vars (w.alloc (.cells #[.int .i64 0, .int .i64 0, .string ⟨#[]⟩, .int .i64 0, .int .i64 0] 63))) := hv.stay (below_alloc _ _)
  clear hv
  have HNC : Hid (∀ q w, Vars w → q < T.size → (byteAt T q = 45 ∨ digB (byteAt T q) = true) → Calls Tryz.prog 45 #[.string T, .int .i64 (q : Int)] w fun e w' => e = toldS (numAt q) ∧ Below w.heap.size w w') := numC
  have HSC : Hid (∀ q w, q < T.size → byteAt T q = 34 → Calls Tryz.prog 46 #[.string T, .int .i64 (q : Int)] w fun e w' => e = toldS (strAt q) ∧ Below w.heap.size w w') := strC
  clear numC strC
  go_enter Tryz.func26, Tryz.ntmps26
  go_wp2
  refine wp_scope_via 0 (fun a' w' => w' = w.alloc (.cells #[.int .i64 0, .int .i64 0, .string ⟨#[]⟩, .int .i64 0, .int .i64 0] 63) ∧ ∃ (q : Nat) (u6 u7 u8 u9 u10 u11 u12 u13 u14 u15 u16 u17 u18 u19 u20 u21 u22 u23 u24 u25 u26 u27 u28 u29 u30 u31 u32 u33 u34 u35 u36 u37 u38 u39 u40 u41 u42 u43 u44 u45 u46 u47 u48 u49 u50 u51 u52 u53 u54 : Value), a' = { tmps := #[.string T, .int .i64 (q : Int), undef, undef, .pointer (some ⟨w.heap.size, 0, none⟩), .int .i64 0, u6, u7, u8, u9, u10, u11, u12, u13, u14, u15, u16, u17, u18, u19, u20, u21, u22, u23, u24, u25, u26, u27, u28, u29, u30, u31, u32, u33, u34, u35, u36, u37, u38, u39, u40, u41, u42, u43, u44, u45, u46, u47, u48, u49, u50, u51, u52, u53, u54], defers := [] } ∧ p ≤ q ∧ q ≤ T.size ∧ Hid (runTo T blaB q = runTo T blaB p)) (fun a' _ => T.size - (intOf (a'.tmps.getD 1 undef)).toNat) rfl ?_ ?_
  · rintro a' w' ⟨rfl, q, u6, u7, u8, u9, u10, u11, u12, u13, u14, u15, u16, u17, u18, u19, u20, u21, u22, u23, u24, u25, u26, u27, u28, u29, u30, u31, u32, u33, u34, u35, u36, u37, u38, u39, u40, u41, u42, u43, u44, u45, u46, u47, u48, u49, u50, u51, u52, u53, u54, rfl, hpq, hq, HE⟩
    go_hide hQ
    have HQ : Hid _ := hQ
    clear hQ
    by_cases hlt : q < T.size
    · have k0 : ((q : Int) == (T.size : Int)) = false := by rw [beq_eq_false_iff_ne]; omega
      have k1 : (q : Int) < (T.size : Int) := by omega
      have HBY : Hid (byteAt T q = T[q].toNat) := byteAt_eq T q hlt
      obtain ⟨c, hc⟩ : ∃ c, T[q].toNat = c := ⟨_, rfl⟩
      have HC : Hid (byteAt T q = c) := by rw [← hc]; exact HBY
      clear HBY
      by_cases h32 : c = 32
      · have k2 : ((c : Int) == 32) = true := by rw [h32]; rfl
        have HE3 : Hid (runTo T blaB (q + 1) = runTo T blaB p) := by show _ = _; rw [← HE.out, runTo_step hlt (by rw [HC.out, h32]; rfl)]
        clear h32
        go_wp2
        go_step3
        rw [← HQ.out]
        refine ⟨rfl, ⟨rfl, q + 1, _, _, _, _, _, _, _, _, _, _, _, _, _, _, _, _, _, _, _, _, _, _, _, _, _, _, _, _, _, _, _, _, _, _, _, _, _, _, _, _, _, _, _, _, _, _, _, _, _, rfl, by omega, by omega, HE3⟩, ?_⟩
        simp [intOf]
        omega
      · have k2 : ((c : Int) == 32) = false := by rw [beq_eq_false_iff_ne]; omega
        have HE1 : Hid (wordF T numAt strAt p = headF T numAt strAt q) := wordF_head (by rw [← HE.out, runTo_stop hlt (by rw [HC.out]; exact decide_eq_false h32)]) hlt
        unfold headF at HE1
        rw [HC.out] at HE1
        clear h32 HE
        cases hl : letB c with
        | true =>
          have HE2 : Hid (wordF T numAt strAt p = .ok (nameAt T q)) := by have h := HE1.out; rw [hl, if_pos rfl] at h; exact h
          have HL : Hid (letB c = true) := hl
          obtain ⟨r, hr⟩ : ∃ r, nameAt T q = r := ⟨_, rfl⟩
          rw [hr] at HE2
          have HN : Hid (∀ w, Calls Tryz.prog 43 #[.string T, .int .i64 (q : Int)] w fun e w' => e = toldW r ∧ Below w.heap.size w w') := fun w => by rw [← hr]; exact read_name T q hlt hT w
          clear HE1 hl hr
          obtain ⟨WD, K⟩ := r
          simp only [toldW] at HN
          go_wp2_with fail
          refine (is_letter c _).mono ?_
          rw [HL.out]
          rintro e w0 ⟨rfl, rfl⟩
          go_wp2_with fail
          refine (HN.out _).mono ?_
          rintro e w1 ⟨rfl, hb1⟩
          have HL1 : Hid (Blk w1 w.heap.size #[.int .i64 0, .int .i64 0, .string ⟨#[]⟩, .int .i64 0, .int .i64 0] 63) := (Blk.new w _ _).stay hb1
          have HB1 : Hid (Below w.heap.size w w1) := (below_alloc w _).trans (hb1.mono (by simp))
          clear hb1
          have d0 : w1.cell? ⟨w.heap.size, 0, none⟩ = some (.int .i64 0) := HL1.out.cell 0 rfl
          have d1 : w1.cell? ⟨w.heap.size, 1, none⟩ = some (.int .i64 0) := HL1.out.cell 1 rfl
          have d2 : w1.cell? ⟨w.heap.size, 2, none⟩ = some (.string ⟨#[]⟩) := HL1.out.cell 2 rfl
          have d3 : w1.cell? ⟨w.heap.size, 3, none⟩ = some (.int .i64 0) := HL1.out.cell 3 rfl
          have d4 : w1.cell? ⟨w.heap.size, 4, none⟩ = some (.int .i64 0) := HL1.out.cell 4 rfl
          have f0 := HL1.out.free 0
          have f1 := HL1.out.free 1
          have f2 := HL1.out.free 2
          have f3 := HL1.out.free 3
          have f4 := HL1.out.free 4
          simp only [Wd.cells]
          go_wp2
          rw [← HQ.out]
          simp only [Exit.jump]
          try simp only [Exit.inBlock, Exit.then]
          refine bodyPost_ret (results_word2 (wd := WD) rfl (by rfl) (by rfl) (HL1.out.setW _ _ _ _ _)) rfl ?_
          refine ⟨?_, ((((HB1.out.setCell (Nat.le_refl _) _).setCell (Nat.le_refl _) _).setCell (Nat.le_refl _) _).setCell (Nat.le_refl _) _).setCell (Nat.le_refl _) _⟩
          rw [HE2.out]
          rfl
        | false =>
          have HL : Hid (letB c = false) := hl
          have HE3 : Hid (wordF T numAt strAt p = (if c = 45 ∨ digB c = true then numAt q else if c = 34 then strAt q else signAt T q)) := by have h := HE1.out; rw [hl, if_neg (by simp)] at h; exact h
          clear HE1 hl
          by_cases hd : c = 45 ∨ digB c = true
          · have HE4 : Hid (wordF T numAt strAt p = numAt q) := by have h := HE3.out; rw [if_pos hd] at h; exact h
            have HN : Hid (∀ w, Vars w → Calls Tryz.prog 45 #[.string T, .int .i64 (q : Int)] w fun e w' => e = toldS (numAt q) ∧ Below w.heap.size w w') := fun w hv => HNC.out q w hv hlt (by rw [HC.out]; exact hd)
            have HDG : Hid (c = 45 ∨ digB c = true) := hd
            clear HE3 hd
            by_cases h45 : c = 45
            · have k3 : ((c : Int) == 45) = true := by rw [h45]; rfl
              clear h45
              rcases hr : numAt q with m | ⟨WD, K⟩
              · have HE2 : Hid (wordF T numAt strAt p = .error m) := by show _ = _; rw [HE4.out, hr]
                rw [hr] at HN
                clear HE4 hr
                simp only [toldS, thrown] at HN
                go_wp2_with fail
                refine (is_letter c _).mono ?_
                rw [HL.out]
                rintro e w0 ⟨rfl, rfl⟩
                go_wp2_with fail
                refine (HN.out _ HVA.out).mono ?_
                rintro e w1 ⟨rfl, hb1⟩
                rw [← HQ.out]
                refine ⟨rfl, ?_, (below_alloc w _).trans (hb1.mono (by simp))⟩
                rw [HE2.out]
                rfl
              · have HE2 : Hid (wordF T numAt strAt p = .ok (WD, K)) := by show _ = _; rw [HE4.out, hr]
                rw [hr] at HN
                clear HE4 hr
                simp only [toldS, toldW] at HN
                go_wp2_with fail
                refine (is_letter c _).mono ?_
                rw [HL.out]
                rintro e w0 ⟨rfl, rfl⟩
                go_wp2_with fail
                refine (HN.out _ HVA.out).mono ?_
                rintro e w1 ⟨rfl, hb1⟩
                have HL1 : Hid (Blk w1 w.heap.size #[.int .i64 0, .int .i64 0, .string ⟨#[]⟩, .int .i64 0, .int .i64 0] 63) := (Blk.new w _ _).stay hb1
                have HB1 : Hid (Below w.heap.size w w1) := (below_alloc w _).trans (hb1.mono (by simp))
                clear hb1
                have d0 : w1.cell? ⟨w.heap.size, 0, none⟩ = some (.int .i64 0) := HL1.out.cell 0 rfl
                have d1 : w1.cell? ⟨w.heap.size, 1, none⟩ = some (.int .i64 0) := HL1.out.cell 1 rfl
                have d2 : w1.cell? ⟨w.heap.size, 2, none⟩ = some (.string ⟨#[]⟩) := HL1.out.cell 2 rfl
                have d3 : w1.cell? ⟨w.heap.size, 3, none⟩ = some (.int .i64 0) := HL1.out.cell 3 rfl
                have d4 : w1.cell? ⟨w.heap.size, 4, none⟩ = some (.int .i64 0) := HL1.out.cell 4 rfl
                have f0 := HL1.out.free 0
                have f1 := HL1.out.free 1
                have f2 := HL1.out.free 2
                have f3 := HL1.out.free 3
                have f4 := HL1.out.free 4
                simp only [Wd.cells]
                go_wp2
                rw [← HQ.out]
                simp only [Exit.jump]
                try simp only [Exit.inBlock, Exit.then]
                refine bodyPost_ret (results_word2 (wd := WD) rfl (by rfl) (by rfl) (HL1.out.setW _ _ _ _ _)) rfl ?_
                refine ⟨?_, ((((HB1.out.setCell (Nat.le_refl _) _).setCell (Nat.le_refl _) _).setCell (Nat.le_refl _) _).setCell (Nat.le_refl _) _).setCell (Nat.le_refl _) _⟩
                rw [HE2.out]
                rfl
            · have k3 : ((c : Int) == 45) = false := by rw [beq_eq_false_iff_ne]; omega
              have HD : Hid (digB c = true) := by rcases HDG.out with h | h; exact absurd h h45; exact h
              clear h45
              rcases hr : numAt q with m | ⟨WD, K⟩
              · have HE2 : Hid (wordF T numAt strAt p = .error m) := by show _ = _; rw [HE4.out, hr]
                rw [hr] at HN
                clear HE4 hr
                simp only [toldS, thrown] at HN
                go_wp2_with fail
                refine (is_letter c _).mono ?_
                rw [HL.out]
                rintro e w0 ⟨rfl, rfl⟩
                go_wp2_with fail
                refine (is_digit c _).mono ?_
                rw [HD.out]
                rintro e w0 ⟨rfl, rfl⟩
                go_wp2_with fail
                refine (HN.out _ HVA.out).mono ?_
                rintro e w1 ⟨rfl, hb1⟩
                rw [← HQ.out]
                refine ⟨rfl, ?_, (below_alloc w _).trans (hb1.mono (by simp))⟩
                rw [HE2.out]
                rfl
              · have HE2 : Hid (wordF T numAt strAt p = .ok (WD, K)) := by show _ = _; rw [HE4.out, hr]
                rw [hr] at HN
                clear HE4 hr
                simp only [toldS, toldW] at HN
                go_wp2_with fail
                refine (is_letter c _).mono ?_
                rw [HL.out]
                rintro e w0 ⟨rfl, rfl⟩
                go_wp2_with fail
                refine (is_digit c _).mono ?_
                rw [HD.out]
                rintro e w0 ⟨rfl, rfl⟩
                go_wp2_with fail
                refine (HN.out _ HVA.out).mono ?_
                rintro e w1 ⟨rfl, hb1⟩
                have HL1 : Hid (Blk w1 w.heap.size #[.int .i64 0, .int .i64 0, .string ⟨#[]⟩, .int .i64 0, .int .i64 0] 63) := (Blk.new w _ _).stay hb1
                have HB1 : Hid (Below w.heap.size w w1) := (below_alloc w _).trans (hb1.mono (by simp))
                clear hb1
                have d0 : w1.cell? ⟨w.heap.size, 0, none⟩ = some (.int .i64 0) := HL1.out.cell 0 rfl
                have d1 : w1.cell? ⟨w.heap.size, 1, none⟩ = some (.int .i64 0) := HL1.out.cell 1 rfl
                have d2 : w1.cell? ⟨w.heap.size, 2, none⟩ = some (.string ⟨#[]⟩) := HL1.out.cell 2 rfl
                have d3 : w1.cell? ⟨w.heap.size, 3, none⟩ = some (.int .i64 0) := HL1.out.cell 3 rfl
                have d4 : w1.cell? ⟨w.heap.size, 4, none⟩ = some (.int .i64 0) := HL1.out.cell 4 rfl
                have f0 := HL1.out.free 0
                have f1 := HL1.out.free 1
                have f2 := HL1.out.free 2
                have f3 := HL1.out.free 3
                have f4 := HL1.out.free 4
                simp only [Wd.cells]
                go_wp2
                rw [← HQ.out]
                simp only [Exit.jump]
                try simp only [Exit.inBlock, Exit.then]
                refine bodyPost_ret (results_word2 (wd := WD) rfl (by rfl) (by rfl) (HL1.out.setW _ _ _ _ _)) rfl ?_
                refine ⟨?_, ((((HB1.out.setCell (Nat.le_refl _) _).setCell (Nat.le_refl _) _).setCell (Nat.le_refl _) _).setCell (Nat.le_refl _) _).setCell (Nat.le_refl _) _⟩
                rw [HE2.out]
                rfl
          · have HD : Hid (digB c = false) := by cases h : digB c with
              | true => exact absurd (.inr h) hd
              | false => exact rfl
            have k3 : ((c : Int) == 45) = false := by rw [beq_eq_false_iff_ne]; intro h; exact hd (.inl (by omega))
            have HE4 : Hid (wordF T numAt strAt p = (if c = 34 then strAt q else signAt T q)) := by have h := HE3.out; rw [if_neg hd] at h; exact h
            clear HE3 hd
            by_cases h34 : c = 34
            · have k4 : ((c : Int) == 34) = true := by rw [h34]; rfl
              have HE5 : Hid (wordF T numAt strAt p = strAt q) := by have h := HE4.out; rw [if_pos h34] at h; exact h
              have HN : Hid (∀ w, Calls Tryz.prog 46 #[.string T, .int .i64 (q : Int)] w fun e w' => e = toldS (strAt q) ∧ Below w.heap.size w w') := fun w => HSC.out q w hlt (by rw [HC.out]; exact h34)
              clear HE4 h34
              rcases hr : strAt q with m | ⟨WD, K⟩
              · have HE2 : Hid (wordF T numAt strAt p = .error m) := by show _ = _; rw [HE5.out, hr]
                rw [hr] at HN
                clear HE5 hr
                simp only [toldS, thrown] at HN
                go_wp2_with fail
                refine (is_letter c _).mono ?_
                rw [HL.out]
                rintro e w0 ⟨rfl, rfl⟩
                go_wp2_with fail
                refine (is_digit c _).mono ?_
                rw [HD.out]
                rintro e w0 ⟨rfl, rfl⟩
                go_wp2_with fail
                refine (HN.out _).mono ?_
                rintro e w1 ⟨rfl, hb1⟩
                rw [← HQ.out]
                refine ⟨rfl, ?_, (below_alloc w _).trans (hb1.mono (by simp))⟩
                rw [HE2.out]
                rfl
              · have HE2 : Hid (wordF T numAt strAt p = .ok (WD, K)) := by show _ = _; rw [HE5.out, hr]
                rw [hr] at HN
                clear HE5 hr
                simp only [toldS, toldW] at HN
                go_wp2_with fail
                refine (is_letter c _).mono ?_
                rw [HL.out]
                rintro e w0 ⟨rfl, rfl⟩
                go_wp2_with fail
                refine (is_digit c _).mono ?_
                rw [HD.out]
                rintro e w0 ⟨rfl, rfl⟩
                go_wp2_with fail
                refine (HN.out _).mono ?_
                rintro e w1 ⟨rfl, hb1⟩
                have HL1 : Hid (Blk w1 w.heap.size #[.int .i64 0, .int .i64 0, .string ⟨#[]⟩, .int .i64 0, .int .i64 0] 63) := (Blk.new w _ _).stay hb1
                have HB1 : Hid (Below w.heap.size w w1) := (below_alloc w _).trans (hb1.mono (by simp))
                clear hb1
                have d0 : w1.cell? ⟨w.heap.size, 0, none⟩ = some (.int .i64 0) := HL1.out.cell 0 rfl
                have d1 : w1.cell? ⟨w.heap.size, 1, none⟩ = some (.int .i64 0) := HL1.out.cell 1 rfl
                have d2 : w1.cell? ⟨w.heap.size, 2, none⟩ = some (.string ⟨#[]⟩) := HL1.out.cell 2 rfl
                have d3 : w1.cell? ⟨w.heap.size, 3, none⟩ = some (.int .i64 0) := HL1.out.cell 3 rfl
                have d4 : w1.cell? ⟨w.heap.size, 4, none⟩ = some (.int .i64 0) := HL1.out.cell 4 rfl
                have f0 := HL1.out.free 0
                have f1 := HL1.out.free 1
                have f2 := HL1.out.free 2
                have f3 := HL1.out.free 3
                have f4 := HL1.out.free 4
                simp only [Wd.cells]
                go_wp2
                rw [← HQ.out]
                simp only [Exit.jump]
                try simp only [Exit.inBlock, Exit.then]
                refine bodyPost_ret (results_word2 (wd := WD) rfl (by rfl) (by rfl) (HL1.out.setW _ _ _ _ _)) rfl ?_
                refine ⟨?_, ((((HB1.out.setCell (Nat.le_refl _) _).setCell (Nat.le_refl _) _).setCell (Nat.le_refl _) _).setCell (Nat.le_refl _) _).setCell (Nat.le_refl _) _⟩
                rw [HE2.out]
                rfl
            · have k4 : ((c : Int) == 34) = false := by rw [beq_eq_false_iff_ne]; omega
              have HE5 : Hid (wordF T numAt strAt p = signAt T q) := by have h := HE4.out; rw [if_neg h34] at h; exact h
              clear HE4 h34
              rcases hr : signAt T q with m | ⟨WD, K⟩
              · have HE2 : Hid (wordF T numAt strAt p = .error m) := by show _ = _; rw [HE5.out, hr]
                have HN : Hid (∀ w, Calls Tryz.prog 47 #[.string T, .int .i64 (q : Int)] w fun e w' => e = thrown m ∧ Below w.heap.size w w') := read_sign_bad T q hlt m hr
                clear HE5 hr
                simp only [thrown] at HN
                go_wp2_with fail
                refine (is_letter c _).mono ?_
                rw [HL.out]
                rintro e w0 ⟨rfl, rfl⟩
                go_wp2_with fail
                refine (is_digit c _).mono ?_
                rw [HD.out]
                rintro e w0 ⟨rfl, rfl⟩
                go_wp2_with fail
                refine (HN.out _).mono ?_
                rintro e w1 ⟨rfl, hb1⟩
                rw [← HQ.out]
                refine ⟨rfl, ?_, (below_alloc w _).trans (hb1.mono (by simp))⟩
                rw [HE2.out]
                rfl
              · have HE2 : Hid (wordF T numAt strAt p = .ok (WD, K)) := by show _ = _; rw [HE5.out, hr]
                have HN : Hid (∀ w, Calls Tryz.prog 47 #[.string T, .int .i64 (q : Int)] w fun e w' => e = toldW (WD, K) ∧ Below w.heap.size w w') := read_sign_ok T q hlt hT (WD, K) hr
                clear HE5 hr
                simp only [toldW] at HN
                go_wp2_with fail
                refine (is_letter c _).mono ?_
                rw [HL.out]
                rintro e w0 ⟨rfl, rfl⟩
                go_wp2_with fail
                refine (is_digit c _).mono ?_
                rw [HD.out]
                rintro e w0 ⟨rfl, rfl⟩
                go_wp2_with fail
                refine (HN.out _).mono ?_
                rintro e w1 ⟨rfl, hb1⟩
                have HL1 : Hid (Blk w1 w.heap.size #[.int .i64 0, .int .i64 0, .string ⟨#[]⟩, .int .i64 0, .int .i64 0] 63) := (Blk.new w _ _).stay hb1
                have HB1 : Hid (Below w.heap.size w w1) := (below_alloc w _).trans (hb1.mono (by simp))
                clear hb1
                have d0 : w1.cell? ⟨w.heap.size, 0, none⟩ = some (.int .i64 0) := HL1.out.cell 0 rfl
                have d1 : w1.cell? ⟨w.heap.size, 1, none⟩ = some (.int .i64 0) := HL1.out.cell 1 rfl
                have d2 : w1.cell? ⟨w.heap.size, 2, none⟩ = some (.string ⟨#[]⟩) := HL1.out.cell 2 rfl
                have d3 : w1.cell? ⟨w.heap.size, 3, none⟩ = some (.int .i64 0) := HL1.out.cell 3 rfl
                have d4 : w1.cell? ⟨w.heap.size, 4, none⟩ = some (.int .i64 0) := HL1.out.cell 4 rfl
                have f0 := HL1.out.free 0
                have f1 := HL1.out.free 1
                have f2 := HL1.out.free 2
                have f3 := HL1.out.free 3
                have f4 := HL1.out.free 4
                simp only [Wd.cells]
                go_wp2
                rw [← HQ.out]
                simp only [Exit.jump]
                try simp only [Exit.inBlock, Exit.then]
                refine bodyPost_ret (results_word2 (wd := WD) rfl (by rfl) (by rfl) (HL1.out.setW _ _ _ _ _)) rfl ?_
                refine ⟨?_, ((((HB1.out.setCell (Nat.le_refl _) _).setCell (Nat.le_refl _) _).setCell (Nat.le_refl _) _).setCell (Nat.le_refl _) _).setCell (Nat.le_refl _) _⟩
                rw [HE2.out]
                rfl
    · obtain rfl : q = T.size := by omega
      have k0 : ((T.size : Int) == (T.size : Int)) = true := by simp
      have HE2 : Hid (wordF T numAt strAt p = .ok (⟨0, T.size, ⟨#[]⟩, 0, 0⟩, T.size)) := wordF_end (by rw [← HE.out, runTo_end])
      go_wp2
      rw [← HQ.out]
      simp only [Exit.jump]
      try simp only [Exit.inBlock, Exit.then]
      refine bodyPost_ret (results_word2 (wd := ⟨0, T.size, ⟨#[]⟩, 0, 0⟩) rfl (by rfl) (by rfl) (Blk.new w _ _)) rfl ?_
      refine ⟨?_, below_alloc w _⟩
      rw [HE2.out]
      rfl
  · intro hrest
    exact wp_seq (wp_label (hrest _ _ ⟨rfl, p, undef, undef, undef, undef, undef, undef, undef, undef, undef, undef, undef, undef, undef, undef, undef, undef, undef, undef, undef, undef, undef, undef, undef, undef, undef, undef, undef, undef, undef, undef, undef, undef, undef, undef, undef, undef, undef, undef, undef, undef, undef, undef, undef, undef, undef, undef, undef, undef, undef, rfl, Nat.le_refl _, hp, rfl⟩))
end Go.Proofs.YteoopoabemeanaaGreatDoor
