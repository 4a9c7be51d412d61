/- event.Name and the reference's: which names are right, for every text. -/
import Derived.Test.YteoopoabemeanaaGreatDoorBase
import Derived.Scope
import Derived.ScopeJumps
import Derived.WalkMore
import Derived.Handy
namespace Go.Proofs.YteoopoabemeanaaGreatDoor
set_option maxRecDepth 100000
open Go.RowKit

/-- May this byte stand at that place of a name? -/
def good (i c : Nat) : Prop := (97 ≤ c ∧ c ≤ 122) ∨ (0 < i ∧ ((48 ≤ c ∧ c ≤ 57) ∨ c = 45))
/-- The byte at a place of a text. -/
def byteAt (s : ByteArray) (i : Nat) : Nat := (s.data.toList.getD i 0).toNat
theorem byteAt_eq (s : ByteArray) (i : Nat) (h : i < s.size) : byteAt s i = s[i].toNat := by
  unfold byteAt
  have h2 : i < s.data.toList.length := by rw [Array.length_toList]; exact h
  rw [List.getD_eq_getElem?_getD, List.getElem?_eq_getElem h2]
  rfl
def nameOk (s : ByteArray) : Prop := 0 < s.size ∧ s.size ≤ 16 ∧ ∀ i, i < s.size → good i (byteAt s i)
/-- The same as a Bool. -/
def goodB (i c : Nat) : Bool := (decide (97 ≤ c) && decide (c ≤ 122)) || (decide (0 < i) && ((decide (48 ≤ c) && decide (c ≤ 57)) || decide (c = 45)))
def nameB (s : ByteArray) : Bool := decide (0 < s.size) && decide (s.size ≤ 16) && (List.range s.size).all fun i => goodB i (byteAt s i)
theorem goodB_iff (i c : Nat) : goodB i c = true ↔ good i c := by
  unfold goodB good
  simp only [Bool.or_eq_true, Bool.and_eq_true, decide_eq_true_eq]
theorem nameB_iff (s : ByteArray) : nameB s = true ↔ nameOk s := by
  unfold nameB nameOk
  simp only [Bool.and_eq_true, decide_eq_true_eq, List.all_eq_true, List.mem_range, goodB_iff, and_assoc]

/-- What is told of a name. -/
def ToldName (s : ByteArray) (e : Ending) : Prop := ∃ b, e = .returned (.bool b) ∧ (b = true ↔ nameOk s)

set_option maxHeartbeats 2000000 in
theorem event_Name (s : ByteArray) (hs : s.size ≤ maxLen) (w : World) :
    Calls Tryz.prog 38 #[.string s] w fun e w' => ToldName s e ∧ w' = w := by
  unfold maxLen at hs
  by_cases h0 : s.size = 0
  · have e0 : ((s.size : Int) == 0) = true := by rw [beq_iff_eq]; omega
    go_enter Tryz.func38, Tryz.ntmps38
    go_wp2
    refine wp_scope_straight ?_
    go_wp2
    simp only [Exit.noGoto]
    go_ret
    exact ⟨⟨false, rfl, ⟨fun h => (by cases h), fun h => (by have := h.1; omega)⟩⟩, rfl⟩
  · have e0 : ((s.size : Int) == 0) = false := by rw [beq_eq_false_iff_ne]; omega
    by_cases h16 : 16 < s.size
    · have e1 : 16 < (s.size : Int) := by omega
      go_enter Tryz.func38, Tryz.ntmps38
      go_wp2
      refine wp_scope_straight ?_
      go_wp2
      simp only [Exit.noGoto]
      go_ret
      exact ⟨⟨false, rfl, ⟨fun h => (by cases h), fun h => (by have := h.2.1; omega)⟩⟩, rfl⟩
    · have e1 : ¬ 16 < (s.size : Int) := by omega
      go_enter Tryz.func38, Tryz.ntmps38
      go_wp2
      refine wp_scope_straight ?_
      go_wp2
      refine wp_label ?_
      go_wp2
      go_loop [3, 16] (fun t3 t16 => ∃ k : Nat, k ≤ s.size ∧ t16 = .int .i64 (k : Int) ∧ t3 = .bool true ∧ Hid (∀ i, i < k → good i (byteAt s i))) (fun _ t16 => s.size - (intOf t16).toNat)
      case atStart => exact ⟨0, by omega, rfl, rfl, fun i hi => by omega⟩
      case round =>
        obtain ⟨k, hk, rfl, rfl, HG⟩ := hrel
        by_cases hlt : k < s.size
        · have hlt' : (k : Int) < (s.size : Int) := by omega
          have hb3 : s[k].toNat < 256 := s[k].toNat_lt
          by_cases hA : 97 ≤ s[k].toNat
          · by_cases hB : s[k].toNat ≤ 122
            · have c1 :  (97 ≤ ((s[k].toNat : Nat) : Int)) := by omega
              have c2 :  (((s[k].toNat : Nat) : Int) ≤ 122) := by omega
              have c3 :  (48 ≤ ((s[k].toNat : Nat) : Int)) := by omega
              have c4 : ¬ (((s[k].toNat : Nat) : Int) ≤ 57) := by omega
              have c45 : (((s[k].toNat : Nat) : Int) == 45) = false := by rw [beq_eq_false_iff_ne]; omega
              by_cases hz : k = 0
              · subst hz
                have HGD : Hid (good 0 (byteAt s 0)) := by show good _ _; rw [byteAt_eq s 0 hlt]; unfold good; omega
                clear hb3
                go_wp2
                go_round
                case rel =>
                  refine ⟨1, by omega, rfl, rfl, ?_⟩
                  intro i hi
                  by_cases he : i = 0
                  · subst he
                    exact HGD.out
                  · exact HG.out i (by omega)
                case measure => simp [intOf]; omega
              · have k0 : ((k : Int) == 0) = false := by rw [beq_eq_false_iff_ne]; omega
                have k1 : (0 : Int) < (k : Int) := by omega
                have HGD : Hid (good k (byteAt s k)) := by show good _ _; rw [byteAt_eq s k hlt]; unfold good; omega
                clear hb3
                go_wp2
                go_round
                case rel =>
                  refine ⟨k + 1, by omega, by go_num, rfl, ?_⟩
                  intro i hi
                  by_cases he : i = k
                  · subst he
                    exact HGD.out
                  · exact HG.out i (by omega)
                case measure => simp [intOf]; omega
            · have c1 :  (97 ≤ ((s[k].toNat : Nat) : Int)) := by omega
              have c2 : ¬ (((s[k].toNat : Nat) : Int) ≤ 122) := by omega
              have c3 :  (48 ≤ ((s[k].toNat : Nat) : Int)) := by omega
              have c4 : ¬ (((s[k].toNat : Nat) : Int) ≤ 57) := by omega
              have c45 : (((s[k].toNat : Nat) : Int) == 45) = false := by rw [beq_eq_false_iff_ne]; omega
              by_cases hz : k = 0
              · subst hz
                have HBD : Hid (¬ good 0 (byteAt s 0)) := by show ¬ good _ _; rw [byteAt_eq s 0 hlt]; unfold good; omega
                clear hb3
                go_wp2
                try simp only [Exit.noGoto]
                go_ret
                exact ⟨⟨false, rfl, ⟨fun h => (by cases h), fun h => absurd (h.2.2 0 hlt) HBD.out⟩⟩, rfl⟩
              · have k0 : ((k : Int) == 0) = false := by rw [beq_eq_false_iff_ne]; omega
                have k1 : (0 : Int) < (k : Int) := by omega
                have HBD : Hid (¬ good k (byteAt s k)) := by show ¬ good _ _; rw [byteAt_eq s k hlt]; unfold good; omega
                clear hb3
                go_wp2
                try simp only [Exit.noGoto]
                go_ret
                exact ⟨⟨false, rfl, ⟨fun h => (by cases h), fun h => absurd (h.2.2 k hlt) HBD.out⟩⟩, rfl⟩
          · by_cases hC : 48 ≤ s[k].toNat
            · by_cases hD : s[k].toNat ≤ 57
              · have c1 : ¬ (97 ≤ ((s[k].toNat : Nat) : Int)) := by omega
                have c2 :  (((s[k].toNat : Nat) : Int) ≤ 122) := by omega
                have c3 :  (48 ≤ ((s[k].toNat : Nat) : Int)) := by omega
                have c4 :  (((s[k].toNat : Nat) : Int) ≤ 57) := by omega
                have c45 : (((s[k].toNat : Nat) : Int) == 45) = false := by rw [beq_eq_false_iff_ne]; omega
                by_cases hz : k = 0
                · subst hz
                  have HBD : Hid (¬ good 0 (byteAt s 0)) := by show ¬ good _ _; rw [byteAt_eq s 0 hlt]; unfold good; omega
                  clear hb3
                  go_wp2
                  try simp only [Exit.noGoto]
                  go_ret
                  exact ⟨⟨false, rfl, ⟨fun h => (by cases h), fun h => absurd (h.2.2 0 hlt) HBD.out⟩⟩, rfl⟩
                · have k0 : ((k : Int) == 0) = false := by rw [beq_eq_false_iff_ne]; omega
                  have k1 : (0 : Int) < (k : Int) := by omega
                  have HGD : Hid (good k (byteAt s k)) := by show good _ _; rw [byteAt_eq s k hlt]; unfold good; omega
                  clear hb3
                  go_wp2
                  go_round
                  case rel =>
                    refine ⟨k + 1, by omega, by go_num, rfl, ?_⟩
                    intro i hi
                    by_cases he : i = k
                    · subst he
                      exact HGD.out
                    · exact HG.out i (by omega)
                  case measure => simp [intOf]; omega
              · have c1 : ¬ (97 ≤ ((s[k].toNat : Nat) : Int)) := by omega
                have c2 :  (((s[k].toNat : Nat) : Int) ≤ 122) := by omega
                have c3 :  (48 ≤ ((s[k].toNat : Nat) : Int)) := by omega
                have c4 : ¬ (((s[k].toNat : Nat) : Int) ≤ 57) := by omega
                have c45 : (((s[k].toNat : Nat) : Int) == 45) = false := by rw [beq_eq_false_iff_ne]; omega
                by_cases hz : k = 0
                · subst hz
                  have HBD : Hid (¬ good 0 (byteAt s 0)) := by show ¬ good _ _; rw [byteAt_eq s 0 hlt]; unfold good; omega
                  clear hb3
                  go_wp2
                  try simp only [Exit.noGoto]
                  go_ret
                  exact ⟨⟨false, rfl, ⟨fun h => (by cases h), fun h => absurd (h.2.2 0 hlt) HBD.out⟩⟩, rfl⟩
                · have k0 : ((k : Int) == 0) = false := by rw [beq_eq_false_iff_ne]; omega
                  have k1 : (0 : Int) < (k : Int) := by omega
                  have HBD : Hid (¬ good k (byteAt s k)) := by show ¬ good _ _; rw [byteAt_eq s k hlt]; unfold good; omega
                  clear hb3
                  go_wp2
                  try simp only [Exit.noGoto]
                  go_ret
                  exact ⟨⟨false, rfl, ⟨fun h => (by cases h), fun h => absurd (h.2.2 k hlt) HBD.out⟩⟩, rfl⟩
            · by_cases hE : s[k].toNat = 45
              · have c1 : ¬ (97 ≤ ((s[k].toNat : Nat) : Int)) := by omega
                have c2 :  (((s[k].toNat : Nat) : Int) ≤ 122) := by omega
                have c3 : ¬ (48 ≤ ((s[k].toNat : Nat) : Int)) := by omega
                have c4 :  (((s[k].toNat : Nat) : Int) ≤ 57) := by omega
                have c45 : (((s[k].toNat : Nat) : Int) == 45) = true := by rw [beq_iff_eq]; omega
                by_cases hz : k = 0
                · subst hz
                  have HBD : Hid (¬ good 0 (byteAt s 0)) := by show ¬ good _ _; rw [byteAt_eq s 0 hlt]; unfold good; omega
                  clear hb3
                  go_wp2
                  try simp only [Exit.noGoto]
                  go_ret
                  exact ⟨⟨false, rfl, ⟨fun h => (by cases h), fun h => absurd (h.2.2 0 hlt) HBD.out⟩⟩, rfl⟩
                · have k0 : ((k : Int) == 0) = false := by rw [beq_eq_false_iff_ne]; omega
                  have k1 : (0 : Int) < (k : Int) := by omega
                  have HGD : Hid (good k (byteAt s k)) := by show good _ _; rw [byteAt_eq s k hlt]; unfold good; omega
                  clear hb3
                  go_wp2
                  go_round
                  case rel =>
                    refine ⟨k + 1, by omega, by go_num, rfl, ?_⟩
                    intro i hi
                    by_cases he : i = k
                    · subst he
                      exact HGD.out
                    · exact HG.out i (by omega)
                  case measure => simp [intOf]; omega
              · have c1 : ¬ (97 ≤ ((s[k].toNat : Nat) : Int)) := by omega
                have c2 :  (((s[k].toNat : Nat) : Int) ≤ 122) := by omega
                have c3 : ¬ (48 ≤ ((s[k].toNat : Nat) : Int)) := by omega
                have c4 :  (((s[k].toNat : Nat) : Int) ≤ 57) := by omega
                have c45 : (((s[k].toNat : Nat) : Int) == 45) = false := by rw [beq_eq_false_iff_ne]; omega
                by_cases hz : k = 0
                · subst hz
                  have HBD : Hid (¬ good 0 (byteAt s 0)) := by show ¬ good _ _; rw [byteAt_eq s 0 hlt]; unfold good; omega
                  clear hb3
                  go_wp2
                  try simp only [Exit.noGoto]
                  go_ret
                  exact ⟨⟨false, rfl, ⟨fun h => (by cases h), fun h => absurd (h.2.2 0 hlt) HBD.out⟩⟩, rfl⟩
                · have k0 : ((k : Int) == 0) = false := by rw [beq_eq_false_iff_ne]; omega
                  have k1 : (0 : Int) < (k : Int) := by omega
                  have HBD : Hid (¬ good k (byteAt s k)) := by show ¬ good _ _; rw [byteAt_eq s k hlt]; unfold good; omega
                  clear hb3
                  go_wp2
                  try simp only [Exit.noGoto]
                  go_ret
                  exact ⟨⟨false, rfl, ⟨fun h => (by cases h), fun h => absurd (h.2.2 k hlt) HBD.out⟩⟩, rfl⟩
        · have hnl : ¬ (k : Int) < (s.size : Int) := by omega
          go_wp2
          try simp only [Exit.noGoto]
          go_ret
          exact ⟨⟨true, rfl, ⟨fun _ => ⟨by omega, by omega, fun i hi => HG.out i (by omega)⟩, fun _ => rfl⟩⟩, rfl⟩

end Go.Proofs.YteoopoabemeanaaGreatDoor
