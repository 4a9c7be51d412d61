/- Bytes of a word: the small tests, and how far a run goes. -/
import Derived.Test.YteoopoabemeanaaGreatDoorPaDo
import Derived.Test.YteoopoabemeanaaGreatDoorJump
import Derived.Test.YteoopoabemeanaaGreatDoorEvName
import Derived.Test.YteoopoabemeanaaGreatDoorPutTextP
import Derived.Scope
import Derived.ScopeJumps
import Derived.WalkMore
namespace Go.Proofs.YteoopoabemeanaaGreatDoor
set_option maxRecDepth 100000
open Go.RowKit

def letB (c : Nat) : Bool := decide (97 ≤ c) && decide (c ≤ 122)
def digB (c : Nat) : Bool := decide (48 ≤ c) && decide (c ≤ 57)
def namB (c : Nat) : Bool := letB c || digB c || decide (c = 45)

theorem is_letter (c : Nat) (w : World) : Calls Tryz.prog 42 #[.int .u8 (c : Int)] w fun e w' => e = .returned (.bool (letB c)) ∧ w' = w := by
  by_cases h1 : 97 ≤ c
  · by_cases h2 : c ≤ 122
    · have k1 : (97 : Int) ≤ (c : Int) := by omega
      have k2 : (c : Int) ≤ 122 := by omega
      go_enter Tryz.func42, Tryz.ntmps42
      go_wp2
      go_ret
      exact ⟨by simp [letB, h1, h2], rfl⟩
    · have k1 : (97 : Int) ≤ (c : Int) := by omega
      have k2 : ¬ (c : Int) ≤ 122 := by omega
      go_enter Tryz.func42, Tryz.ntmps42
      go_wp2
      go_ret
      exact ⟨by simp [letB, h2], rfl⟩
  · have k1 : ¬ (97 : Int) ≤ (c : Int) := by omega
    go_enter Tryz.func42, Tryz.ntmps42
    go_wp2
    go_ret
    exact ⟨by simp [letB, h1], rfl⟩
theorem is_digit (c : Nat) (w : World) : Calls Tryz.prog 44 #[.int .u8 (c : Int)] w fun e w' => e = .returned (.bool (digB c)) ∧ w' = w := by
  by_cases h1 : 48 ≤ c
  · by_cases h2 : c ≤ 57
    · have k1 : (48 : Int) ≤ (c : Int) := by omega
      have k2 : (c : Int) ≤ 57 := by omega
      go_enter Tryz.func44, Tryz.ntmps44
      go_wp2
      go_ret
      exact ⟨by simp [digB, h1, h2], rfl⟩
    · have k1 : (48 : Int) ≤ (c : Int) := by omega
      have k2 : ¬ (c : Int) ≤ 57 := by omega
      go_enter Tryz.func44, Tryz.ntmps44
      go_wp2
      go_ret
      exact ⟨by simp [digB, h2], rfl⟩
  · have k1 : ¬ (48 : Int) ≤ (c : Int) := by omega
    go_enter Tryz.func44, Tryz.ntmps44
    go_wp2
    go_ret
    exact ⟨by simp [digB, h1], rfl⟩
theorem is_nameByte (c : Nat) (w : World) : Calls Tryz.prog 58 #[.int .u8 (c : Int)] w fun e w' => e = .returned (.bool (namB c)) ∧ w' = w := by
  go_enter Tryz.func58, Tryz.ntmps58
  go_wp2_with fail
  refine (is_letter c _).mono ?_
  rintro e w1 ⟨rfl, rfl⟩
  cases hl : letB c with
  | true =>
    go_wp2
    go_ret
    exact ⟨by simp [namB, hl], rfl⟩
  | false =>
    go_wp2_with fail
    refine (is_digit c _).mono ?_
    rintro e w2 ⟨rfl, rfl⟩
    cases hd : digB c with
    | true =>
      go_wp2
      go_ret
      exact ⟨by simp [namB, hl, hd], rfl⟩
    | false =>
      by_cases h : c = 45
      · have k : ((c : Int) == 45) = true := by rw [h]; rfl
        go_wp2
        go_ret
        exact ⟨by simp [namB, h], rfl⟩
      · have k : ((c : Int) == 45) = false := by rw [beq_eq_false_iff_ne]; omega
        go_wp2
        go_ret
        exact ⟨by simp [namB, hl, hd, h], rfl⟩

/-- Where a run of such bytes ends. -/
def runTo (T : ByteArray) (ok : Nat → Bool) (p : Nat) : Nat := p + (((bytesOf T).drop p).takeWhile ok).length
theorem bytesOf_at (T : ByteArray) (p : Nat) (h : p < T.size) : (bytesOf T).drop p = byteAt T p :: (bytesOf T).drop (p + 1) := by
  have hl : p < (bytesOf T).length := by rw [bytesOf_length]; exact h
  rw [List.drop_eq_getElem_cons hl]
  congr 1
  rw [byteAt_eq T p h]
  simp only [bytesOf, List.getElem_map]
  rfl
theorem runTo_step {T : ByteArray} {ok : Nat → Bool} {p : Nat} (h : p < T.size) (hk : ok (byteAt T p) = true) : runTo T ok p = runTo T ok (p + 1) := by
  unfold runTo
  rw [bytesOf_at T p h, List.takeWhile_cons, if_pos hk, List.length_cons]
  omega
theorem runTo_stop {T : ByteArray} {ok : Nat → Bool} {p : Nat} (h : p < T.size) (hk : ok (byteAt T p) = false) : runTo T ok p = p := by
  unfold runTo
  rw [bytesOf_at T p h, List.takeWhile_cons, if_neg (by rw [hk]; simp)]
  rfl
theorem runTo_end {T : ByteArray} {ok : Nat → Bool} : runTo T ok T.size = T.size := by
  unfold runTo
  rw [List.drop_of_length_le (by rw [bytesOf_length]; omega)]
  rfl
theorem runTo_le {T : ByteArray} {ok : Nat → Bool} {p : Nat} (h : p ≤ T.size) : p ≤ runTo T ok p ∧ runTo T ok p ≤ T.size := by
  unfold runTo
  have := (List.takeWhile_prefix ok (l := (bytesOf T).drop p)).length_le
  rw [List.length_drop, bytesOf_length] at this
  omega

set_option maxHeartbeats 1000000 in
theorem behind_name (T : ByteArray) (p : Nat) (hp : p ≤ T.size) (hT : T.size ≤ 300) (w : World) :
    Calls Tryz.prog 57 #[.string T, .int .i64 (p : Int), .func (.func 58) #[] #[]] w fun e w' => e = .returned (.int .i64 (runTo T namB p : Int)) ∧ w' = w := by
  go_enter Tryz.func57, Tryz.ntmps57
  go_wp2
  refine wp_scope_via 0 (fun a' w' => w' = w ∧ ∃ (q : Nat) (u7 u8 u9 u10 u11 u12 u13 u14 u15 u16 u17 u18 u19 u20 : Value), a' = { tmps := #[.string T, .int .i64 (q : Int), .func (.func 58) #[] #[], undef, undef, undef, .int .i64 0, u7, u8, u9, u10, u11, u12, u13, u14, u15, u16, u17, u18, u19, u20], defers := [] } ∧ p ≤ q ∧ q ≤ T.size ∧ Hid (runTo T namB q = runTo T namB p)) (fun a' _ => T.size - (intOf (a'.tmps.getD 1 undef)).toNat) rfl ?_ ?_
  · rintro a' w' ⟨rfl, q, u7, u8, u9, u10, u11, u12, u13, u14, u15, u16, u17, u18, u19, u20, rfl, hpq, hq, HE⟩
    go_hide hQ
    have HQ : Hid _ := hQ
    clear hQ
    by_cases hlt : q < T.size
    · have k1 : (q : Int) < (T.size : Int) := by omega
      have HBY : Hid (byteAt T q = T[q].toNat) := byteAt_eq T q hlt
      obtain ⟨c, hc⟩ : ∃ c, T[q].toNat = c := ⟨_, rfl⟩
      have HC : Hid (byteAt T q = c) := by rw [← hc]; exact HBY
      clear HBY
      go_wp2_with fail
      refine (is_nameByte c _).mono ?_
      rintro e w1 ⟨rfl, rfl⟩
      cases hk : namB c with
      | true =>
        have HE2 : Hid (runTo T namB (q + 1) = runTo T namB p) := by show _ = _; rw [← HE.out, runTo_step hlt (by rw [HC.out]; exact hk)]
        clear hk
        go_wp2
        go_step3
        rw [← HQ.out]
        refine ⟨rfl, ⟨rfl, q + 1, _, _, _, _, _, _, _, _, _, _, _, _, _, _, rfl, by omega, by omega, HE2⟩, ?_⟩
        simp [intOf]
        omega
      | false =>
        have HE2 : Hid (runTo T namB p = q) := by show _ = _; rw [← HE.out, runTo_stop hlt (by rw [HC.out]; exact hk)]
        clear hk
        go_wp2
        rw [← HQ.out]
        simp only [Exit.jump]
        go_ret
        rw [HE2.out]
        exact ⟨rfl, rfl⟩
    · have k1 : ¬ (q : Int) < (T.size : Int) := by omega
      obtain rfl : q = T.size := by omega
      have HE2 : Hid (runTo T namB p = T.size) := by show _ = _; rw [← HE.out, runTo_end]
      go_wp2
      rw [← HQ.out]
      simp only [Exit.jump]
      go_ret
      rw [HE2.out]
      exact ⟨rfl, rfl⟩
  · intro hrest
    exact wp_seq (wp_label (hrest _ _ ⟨rfl, p, undef, undef, undef, undef, undef, undef, undef, undef, undef, undef, undef, undef, undef, undef, rfl, Nat.le_refl _, hp, rfl⟩))

set_option maxHeartbeats 1000000 in
theorem behind_digits (T : ByteArray) (p : Nat) (hp : p ≤ T.size) (hT : T.size ≤ 300) (w : World) :
    Calls Tryz.prog 57 #[.string T, .int .i64 (p : Int), .func (.func 44) #[] #[]] w fun e w' => e = .returned (.int .i64 (runTo T digB p : Int)) ∧ w' = w := by
  go_enter Tryz.func57, Tryz.ntmps57
  go_wp2
  refine wp_scope_via 0 (fun a' w' => w' = w ∧ ∃ (q : Nat) (u7 u8 u9 u10 u11 u12 u13 u14 u15 u16 u17 u18 u19 u20 : Value), a' = { tmps := #[.string T, .int .i64 (q : Int), .func (.func 44) #[] #[], undef, undef, undef, .int .i64 0, u7, u8, u9, u10, u11, u12, u13, u14, u15, u16, u17, u18, u19, u20], defers := [] } ∧ p ≤ q ∧ q ≤ T.size ∧ Hid (runTo T digB q = runTo T digB p)) (fun a' _ => T.size - (intOf (a'.tmps.getD 1 undef)).toNat) rfl ?_ ?_
  · rintro a' w' ⟨rfl, q, u7, u8, u9, u10, u11, u12, u13, u14, u15, u16, u17, u18, u19, u20, rfl, hpq, hq, HE⟩
    go_hide hQ
    have HQ : Hid _ := hQ
    clear hQ
    by_cases hlt : q < T.size
    · have k1 : (q : Int) < (T.size : Int) := by omega
      have HBY : Hid (byteAt T q = T[q].toNat) := byteAt_eq T q hlt
      obtain ⟨c, hc⟩ : ∃ c, T[q].toNat = c := ⟨_, rfl⟩
      have HC : Hid (byteAt T q = c) := by rw [← hc]; exact HBY
      clear HBY
      go_wp2_with fail
      refine (is_digit c _).mono ?_
      rintro e w1 ⟨rfl, rfl⟩
      cases hk : digB c with
      | true =>
        have HE2 : Hid (runTo T digB (q + 1) = runTo T digB p) := by show _ = _; rw [← HE.out, runTo_step hlt (by rw [HC.out]; exact hk)]
        clear hk
        go_wp2
        go_step3
        rw [← HQ.out]
        refine ⟨rfl, ⟨rfl, q + 1, _, _, _, _, _, _, _, _, _, _, _, _, _, _, rfl, by omega, by omega, HE2⟩, ?_⟩
        simp [intOf]
        omega
      | false =>
        have HE2 : Hid (runTo T digB p = q) := by show _ = _; rw [← HE.out, runTo_stop hlt (by rw [HC.out]; exact hk)]
        clear hk
        go_wp2
        rw [← HQ.out]
        simp only [Exit.jump]
        go_ret
        rw [HE2.out]
        exact ⟨rfl, rfl⟩
    · have k1 : ¬ (q : Int) < (T.size : Int) := by omega
      obtain rfl : q = T.size := by omega
      have HE2 : Hid (runTo T digB p = T.size) := by show _ = _; rw [← HE.out, runTo_end]
      go_wp2
      rw [← HQ.out]
      simp only [Exit.jump]
      go_ret
      rw [HE2.out]
      exact ⟨rfl, rfl⟩
  · intro hrest
    exact wp_seq (wp_label (hrest _ _ ⟨rfl, p, undef, undef, undef, undef, undef, undef, undef, undef, undef, undef, undef, undef, undef, undef, rfl, Nat.le_refl _, hp, rfl⟩))

end Go.Proofs.YteoopoabemeanaaGreatDoor
