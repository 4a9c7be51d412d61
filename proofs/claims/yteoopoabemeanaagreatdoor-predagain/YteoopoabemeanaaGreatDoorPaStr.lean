/- pred.stringByte. -/
import Derived.Test.YteoopoabemeanaaGreatDoorWrd3
import Derived.Test.YteoopoabemeanaaGreatDoorShelf
import Derived.Deep.QuietTactic
import Derived.Deep.Cut
namespace Go.Proofs.YteoopoabemeanaaGreatDoor
set_option maxRecDepth 100000
open Go.RowKit

def plainB (c : Nat) : Bool := decide (32 ≤ c) && decide (c ≤ 126)
theorem is_plain (c : Nat) (w : World) : Calls Tryz.prog 72 #[.int .u8 (c : Int)] w fun e w' => e = .returned (.bool (plainB c)) ∧ w' = w := by
  by_cases h1 : 32 ≤ c
  · have k1 : (32 : Int) ≤ (c : Int) := by omega
    by_cases h2 : c ≤ 126
    · have k2 : (c : Int) ≤ 126 := by omega
      go_enter Tryz.func72, Tryz.ntmps72
      go_wp2
      go_ret
      exact ⟨by simp [plainB, h1, h2], rfl⟩
    · have k2 : ¬ (c : Int) ≤ 126 := by omega
      go_enter Tryz.func72, Tryz.ntmps72
      go_wp2
      go_ret
      exact ⟨by simp [plainB, h2], rfl⟩
  · have k1 : ¬ (32 : Int) ≤ (c : Int) := by omega
    go_enter Tryz.func72, Tryz.ntmps72
    go_wp2
    go_ret
    exact ⟨by simp [plainB, h1], rfl⟩
/-- The hexadecimal digit that a byte is; -1: none. -/
def hexI (c : Nat) : Int := Lib.indexByte [48, 49, 50, 51, 52, 53, 54, 55, 56, 57, 97, 98, 99, 100, 101, 102] c.toUInt8
theorem hex_fin : ∀ c : Fin 256, -1 ≤ hexI c.val ∧ hexI c.val ≤ 15 := by decide +kernel
theorem hex_bound (c : Nat) (h : c < 256) : -1 ≤ hexI c ∧ hexI c ≤ 15 := hex_fin ⟨c, h⟩
theorem hex_at (c : Nat) (w : World) : Calls Tryz.prog 77 #[.string ⟨#[48, 49, 50, 51, 52, 53, 54, 55, 56, 57, 97, 98, 99, 100, 101, 102]⟩, .int .u8 (c : Int)] w fun e w' => e = .returned (.int .i64 (hexI c)) ∧ w' = w :=
  Tryz.strings_IndexByte ⟨#[48, 49, 50, 51, 52, 53, 54, 55, 56, 57, 97, 98, 99, 100, 101, 102]⟩ (c : Int) w
/-- The byte for which the first bytes of a rest stand, and how many these are. -/
def sbyte (d : ByteArray) : Nat × Nat :=
  if d.size = 0 then (0, 0)
  else if byteAt d 0 ≠ 92 then (if plainB (byteAt d 0) = true then (byteAt d 0, 1) else (0, 0))
  else if 2 ≤ d.size ∧ (byteAt d 1 = 34 ∨ byteAt d 1 = 92) then (byteAt d 1, 2)
  else if (4 ≤ d.size ∧ byteAt d 1 = 120) ∧ 0 ≤ hexI (byteAt d 2) ∧ 0 ≤ hexI (byteAt d 3) then ((hexI (byteAt d 2) * 16 + hexI (byteAt d 3)).toNat, 4)
  else (0, 0)
theorem hex_or_fin : ∀ a : Fin 16, ∀ b : Fin 16, bits BinOp.or IntKind.i64 (wrap64 (((a.val : Nat) : Int) * 16)) ((b.val : Nat) : Int) % 256 = ((a.val : Nat) : Int) * 16 + ((b.val : Nat) : Int) := by decide +kernel
theorem hex_or (a b : Int) (ha : 0 ≤ a ∧ a ≤ 15) (hb : 0 ≤ b ∧ b ≤ 15) : bits BinOp.or IntKind.i64 (wrap64 (a * 16)) b % 256 = ((a * 16 + b).toNat : Int) := by
  obtain ⟨n, rfl⟩ := Int.eq_ofNat_of_zero_le ha.1
  obtain ⟨m, rfl⟩ := Int.eq_ofNat_of_zero_le hb.1
  have h := hex_or_fin ⟨n, by omega⟩ ⟨m, by omega⟩
  simp only at h
  rw [h]
  omega
def toldB (r : Nat × Nat) : Ending := .returned (.tuple #[.int .u8 (r.1 : Int), .int .i64 (r.2 : Int)])
set_option maxHeartbeats 4000000 in
theorem string_byte (d : ByteArray) (hd : d.size ≤ 300) (w : World) : Calls Tryz.prog 61 #[.string d] w fun e w' => e = toldB (sbyte d) ∧ Below w.heap.size w w' := by
  by_cases h0 : d.size = 0
  · have e0 : d = ⟨#[]⟩ := by
      apply ByteArray.ext
      exact Array.eq_empty_of_size_eq_zero h0
    subst e0
    go_enter Tryz.func61, Tryz.ntmps61
    go_wp2
    go_returns
    exact ⟨rfl, Below.refl _ _⟩
  · have e0 : d ≠ ⟨#[]⟩ := fun h => h0 (by rw [h]; rfl)
    have e1 : (d.toList == (⟨#[]⟩ : ByteArray).toList) = false := by rw [str_beq]; exact decide_eq_false e0
    have e2 : (d.toList == []) = false := by
      rw [ByteArray.toList_eq, beq_eq_false_iff_ne]
      intro h
      apply h0
      show d.data.size = 0
      have h3 := congrArg List.length h
      rwa [Array.length_toList] at h3
    have hp : 0 < d.size := by omega
    have HB0 : Hid (byteAt d 0 = d[0].toNat) := byteAt_eq d 0 hp
    obtain ⟨c0, hc0⟩ : ∃ c, d[0].toNat = c := ⟨_, rfl⟩
    have HC0 : Hid (byteAt d 0 = c0) := by (show _ = _); rw [HB0.out, hc0]
    have g0 : (0 : Int) < (d.size : Int) := by omega
    obtain ⟨R, HR⟩ : ∃ R, Hid (R = sbyte d) := ⟨_, rfl⟩
    rw [← HR.out]
    unfold sbyte at HR
    rw [if_neg h0, HC0.out] at HR
    clear e0 HB0
    by_cases h92 : c0 = 92
    · rw [if_neg (by simp [h92])] at HR
      have k0 : ((c0 : Int) != 92) = false := by rw [h92]; rfl
      have k0' : ((c0 : Int) == 92) = true := by rw [h92]; rfl
      clear h92
      by_cases hl2 : 2 ≤ d.size
      · have g2 : (2 : Int) ≤ (d.size : Int) := by omega
        have g2' : (1 : Int) < (d.size : Int) := by omega
        have hp1 : 1 < d.size := by omega
        have HB1 : Hid (byteAt d 1 = d[1].toNat) := byteAt_eq d 1 hp1
        obtain ⟨c1, hc1⟩ : ∃ c, d[1].toNat = c := ⟨_, rfl⟩
        have HC1 : Hid (byteAt d 1 = c1) := by (show _ = _); rw [HB1.out, hc1]
        rw [HC1.out] at HR
        clear HB1
        by_cases h34 : c1 = 34
        · have HRE : Hid (R = (c1, 2)) := by (show _ = _); rw [HR.out, if_pos ⟨hl2, .inl h34⟩]
          have k1 : ((c1 : Int) == 34) = true := by rw [h34]; rfl
          clear h34 HR
          go_enter Tryz.func61, Tryz.ntmps61
          go_wp2
          go_returns
          exact ⟨by rw [HRE.out]; rfl, Below.refl _ _⟩
        · have k1 : ((c1 : Int) == 34) = false := by rw [beq_eq_false_iff_ne]; omega
          by_cases h92 : c1 = 92
          · have HRE : Hid (R = (c1, 2)) := by (show _ = _); rw [HR.out, if_pos ⟨hl2, .inr h92⟩]
            have k2 : ((c1 : Int) == 92) = true := by rw [h92]; rfl
            clear h92 h34 HR
            go_enter Tryz.func61, Tryz.ntmps61
            go_wp2
            go_returns
            exact ⟨by rw [HRE.out]; rfl, Below.refl _ _⟩
          · have k2 : ((c1 : Int) == 92) = false := by rw [beq_eq_false_iff_ne]; omega
            rw [if_neg (by omega)] at HR
            clear h92 h34
            by_cases hl4 : 4 ≤ d.size
            · have g4 : (4 : Int) ≤ (d.size : Int) := by omega
              by_cases h120 : c1 = 120
              · have k3 : ((c1 : Int) == 120) = true := by rw [h120]; rfl
                have H120 : Hid (c1 = 120) := h120
                have hp2 : 2 < d.size := by omega
                have hp3 : 3 < d.size := by omega
                have g22 : (2 : Int) < (d.size : Int) := by omega
                have g33 : (3 : Int) < (d.size : Int) := by omega
                have HB2 : Hid (byteAt d 2 = d[2].toNat) := byteAt_eq d 2 hp2
                have HB3 : Hid (byteAt d 3 = d[3].toNat) := byteAt_eq d 3 hp3
                obtain ⟨c2, hc2⟩ : ∃ c, d[2].toNat = c := ⟨_, rfl⟩
                obtain ⟨c3, hc3⟩ : ∃ c, d[3].toNat = c := ⟨_, rfl⟩
                have HC2 : Hid (byteAt d 2 = c2) := by (show _ = _); rw [HB2.out, hc2]
                have HC3 : Hid (byteAt d 3 = c3) := by (show _ = _); rw [HB3.out, hc3]
                rw [HC2.out, HC3.out] at HR
                have hb2 := hex_bound c2 (by rw [← hc2]; exact d[2].toNat_lt)
                have hb3 := hex_bound c3 (by rw [← hc3]; exact d[3].toNat_lt)
                clear HB2 HB3 h120
                by_cases hA : 0 ≤ hexI c2
                · by_cases hB : 0 ≤ hexI c3
                  · have HRE : Hid (R = ((hexI c2 * 16 + hexI c3).toNat, 4)) := by (show _ = _); rw [HR.out, if_pos ⟨⟨hl4, H120.out⟩, hA, hB⟩]
                    have HBD : Hid ((0 ≤ hexI c2 ∧ hexI c2 ≤ 15) ∧ 0 ≤ hexI c3 ∧ hexI c3 ≤ 15) := ⟨⟨hA, hb2.2⟩, hB, hb3.2⟩
                    clear HR hb2 hb3
                    go_enter Tryz.func61, Tryz.ntmps61
                    go_upto_region 10 with fail
                    go_region_held3 (fun _ => True) (first | trivial | fail)
                      (first
                        | (go_at_call 77; refine (hex_at _ _).mono ?_; rintro e w3 ⟨he3, hw3⟩; subst he3; rw [hw3]; clear hw3 w3))
                    all_goals (
                      go_wp2
                      go_returns
                      refine ⟨?_, (Below.refl _ _).drew⟩
                      rw [HRE.out, toldB]
                      simp only
                      rw [← hex_or _ _ HBD.out.1 HBD.out.2]
                      rfl)
                  · have HRE : Hid (R = (0, 0)) := by (show _ = _); rw [HR.out, if_neg (by omega)]
                    clear HR hb2 hb3
                    go_enter Tryz.func61, Tryz.ntmps61
                    go_upto_region 10 with fail
                    go_region_held3 (fun _ => True) (first | trivial | fail)
                      (first
                        | (go_at_call 77; refine (hex_at _ _).mono ?_; rintro e w3 ⟨he3, hw3⟩; subst he3; rw [hw3]; clear hw3 w3))
                    all_goals (
                      go_wp2
                      go_returns
                      exact ⟨by rw [HRE.out]; rfl, (Below.refl _ _).drew⟩)
                · have HRE : Hid (R = (0, 0)) := by (show _ = _); rw [HR.out, if_neg (by omega)]
                  clear HR hb2 hb3
                  go_enter Tryz.func61, Tryz.ntmps61
                  go_upto_region 10 with fail
                  go_region_held3 (fun _ => True) (first | trivial | fail)
                    (first
                      | (go_at_call 77; refine (hex_at _ _).mono ?_; rintro e w3 ⟨he3, hw3⟩; subst he3; rw [hw3]; clear hw3 w3))
                  all_goals (
                    go_wp2
                    go_returns
                    exact ⟨by rw [HRE.out]; rfl, (Below.refl _ _).drew⟩)
              · have HRE : Hid (R = (0, 0)) := by (show _ = _); rw [HR.out, if_neg (by omega)]
                have k3 : ((c1 : Int) == 120) = false := by rw [beq_eq_false_iff_ne]; omega
                clear HR h120
                go_enter Tryz.func61, Tryz.ntmps61
                go_wp2
                go_returns
                exact ⟨by rw [HRE.out]; rfl, Below.refl _ _⟩
            · have HRE : Hid (R = (0, 0)) := by (show _ = _); rw [HR.out, if_neg (by omega)]
              have g4 : ¬ (4 : Int) ≤ (d.size : Int) := by omega
              clear HR hl4
              go_enter Tryz.func61, Tryz.ntmps61
              go_wp2
              go_returns
              exact ⟨by rw [HRE.out]; rfl, Below.refl _ _⟩
      · have HRE : Hid (R = (0, 0)) := by (show _ = _); rw [HR.out, if_neg (by omega), if_neg (by omega)]
        have g2 : ¬ (2 : Int) ≤ (d.size : Int) := by omega
        have g4 : ¬ (4 : Int) ≤ (d.size : Int) := by omega
        clear HR hl2
        go_enter Tryz.func61, Tryz.ntmps61
        go_wp2
        go_returns
        exact ⟨by rw [HRE.out]; rfl, Below.refl _ _⟩
    · rw [if_pos h92] at HR
      have k0 : ((c0 : Int) != 92) = true := by rw [bne_iff_ne]; omega
      have k0' : ((c0 : Int) == 92) = false := by rw [beq_eq_false_iff_ne]; omega
      have HPL := is_plain c0 w
      obtain ⟨b, hb⟩ : ∃ b, b = plainB c0 := ⟨_, rfl⟩
      rw [← hb] at HPL HR
      clear h92 hb
      cases b with
      | true =>
        have HRE : Hid (R = (c0, 1)) := by (show _ = _); rw [HR.out]; rfl
        clear HR
        go_enter Tryz.func61, Tryz.ntmps61
        go_wp2_with fail
        refine HPL.mono ?_
        rintro e w1 ⟨rfl, rfl⟩
        go_wp2
        go_returns
        exact ⟨by rw [HRE.out]; rfl, Below.refl _ _⟩
      | false =>
        have HRE : Hid (R = (0, 0)) := by (show _ = _); rw [HR.out]; rfl
        clear HR
        go_enter Tryz.func61, Tryz.ntmps61
        go_wp2_with fail
        refine HPL.mono ?_
        rintro e w1 ⟨rfl, rfl⟩
        go_wp2
        go_returns
        exact ⟨by rw [HRE.out]; rfl, Below.refl _ _⟩
end Go.Proofs.YteoopoabemeanaaGreatDoor
