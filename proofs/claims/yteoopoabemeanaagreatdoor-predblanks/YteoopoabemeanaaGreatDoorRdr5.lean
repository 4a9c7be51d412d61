/- The reader's readCmp. -/
import Derived.Test.YteoopoabemeanaaGreatDoorRdr4
namespace Go.Proofs.YteoopoabemeanaaGreatDoor
set_option maxRecDepth 100000
open Go.RowKit

def AfterC (g : Nat) (T : ByteArray) (v : Value) (w : World) (R : ResV Nat) (e : Ending) (w' : World) : Prop := match R with
  | .ok (c, s') => e = .returned (.int .i64 (c : Int)) ∧ Rdr w' g T s' v ∧ Kept g v w v w'
  | .error m => e = thrown m ∧ Below w.heap.size w w'

set_option maxHeartbeats 1000000 in
theorem cmp_any {F : Lex} {T : ByteArray} (HW : Words F T) {g : Nat} {s : St} {v : Value} (w : World) (h : Rdr w g T s v) (hs : s.here ≤ T.size) (R : ResV Nat) (hR : cmpM F s = R) :
    Calls Tryz.prog 78 #[.pointer (some ⟨g, 0, none⟩)] w fun e w' => AfterC g T v w R e w' := by
  have HR : Hid (Rdr w g T s v) := h
  have HX : Hid (Words F T) := HW
  have HRR : Hid (cmpFrom F s 8 = R) := hR
  clear h HW hR
  go_enter Tryz.func78, Tryz.ntmps78
  go_wp2
  go_loopw [3] (fun t3 wr => wr = w ∧ ∃ k : Nat, k ≤ 8 ∧ t3 = .int .i64 ((11 - k : Nat) : Int) ∧ Hid (cmpFrom F s k = R)) (fun t3 _ => 11 - (intOf t3).toNat)
  case atStart => exact ⟨rfl, 8, by omega, rfl, HRR⟩
  case round =>
    obtain ⟨rfl, k, hk, rfl, HC⟩ := hrel
    cases k with
    | zero =>
      have HE : Hid (R = .ok (2, s)) := by have := HC.out; rw [cmpFrom] at this; exact this.symm
      go_wp2
      go_ret
      show AfterC _ _ _ _ _ _ _
      rw [HE.out]
      exact ⟨rfl, HR.out, Kept.of v (Nat.le_of_lt HR.out.lt) (Below.refl _ _)⟩
    | succ j =>
      obtain ⟨c, hc⟩ : ∃ c : Nat, 11 - (j + 1) = c := ⟨_, rfl⟩
      have hc10 : c ≤ 10 ∧ 3 ≤ c := by omega
      have hcj : 10 - j = c := by omega
      rw [hc]
      have hle : (c : Int) ≤ 10 := by omega
      have HC2 : Hid ((if isS (cmpText c) s = true then withV c (passM F s) else cmpFrom F s j) = R) := by have := HC.out; rw [cmpFrom, hcj] at this; exact this
      have HCJ : Hid (11 - (j + 1) = c) := hc
      clear HC hc hcj
      obtain ⟨tx, HTX⟩ : ∃ tx, Hid (cmpText c = tx) := ⟨_, rfl⟩
      have HCT : Hid (∀ w : World, Calls Tryz.prog 35 #[.int .i64 (c : Int)] w fun e w' => e = .returned (.string tx) ∧ w' = w) := by
        intro w
        rw [← HTX.out]
        exact cmpSign_text c ⟨hc10.2, hc10.1⟩ w
      rw [HTX.out] at HC2
      go_wp2_with fail
      refine (HCT.out _).mono ?_
      rintro e w1 ⟨rfl, rfl⟩
      go_wp2_with fail
      refine (reader_isSign g T tx s v _ HR.out).mono ?_
      cases hi : isS tx s with
      | true =>
        have HI : Hid (withV c (passM F s) = R) := by have := HC2.out; rw [hi, if_pos rfl] at this; exact this
        clear hi HC2
        rintro e w2 ⟨rfl, rfl⟩
        rcases hp : passM F s with m | s'
        · have HP : Hid (passM F s = .error m) := hp
          have HE : Hid (R = .error m) := by have := HI.out; rw [hp] at this; exact this.symm
          clear hp HI
          go_wp2_with fail
          refine (pass_bad HX.out _ HR.out hs HP.out).mono ?_
          rintro e w3 ⟨rfl, hb3⟩
          refine ⟨rfl, ?_⟩
          show AfterC _ _ _ _ _ _ _
          rw [HE.out]
          exact ⟨rfl, hb3⟩
        · have HP : Hid (passM F s = .ok s') := hp
          have HE : Hid (R = .ok (c, s')) := by have := HI.out; rw [hp] at this; exact this.symm
          clear hp HI
          go_wp2_with fail
          refine (pass_ok HX.out _ HR.out hs HP.out).mono ?_
          rintro e w3 ⟨rfl, hr3, hk3⟩
          have HR3 : Hid (Rdr w3 g T s' v) := hr3
          have HK3 : Hid (Kept g v w2 v w3) := hk3
          clear hr3 hk3
          go_wp2
          go_ret
          show AfterC _ _ _ _ _ _ _
          rw [HE.out]
          exact ⟨rfl, HR3.out, HK3.out⟩
      | false =>
        have HI : Hid (cmpFrom F s j = R) := by have := HC2.out; rw [hi, if_neg (by simp)] at this; exact this
        clear hi HC2
        rintro e w2 ⟨rfl, rfl⟩
        go_wp2
        go_roundw
        case rel =>
          have := HCJ.out
          exact ⟨by trivial, j, by omega, by go_num, HI⟩
        case measure =>
          have := HCJ.out
          simp [intOf]
          omega
end Go.Proofs.YteoopoabemeanaaGreatDoor
