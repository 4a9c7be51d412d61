/- The words of one text: what parse tells of it. -/
import Derived.Test.YteoopoabemeanaaGreatDoorPaNum
import Derived.Test.YteoopoabemeanaaGreatDoorPrChk
namespace Go.Proofs.YteoopoabemeanaaGreatDoor
set_option maxRecDepth 100000
open Go.RowKit

def liveT : ByteArray := ⟨#[97, 60, 53, 32, 38, 32, 33, 63, 98]⟩
def liveNum (p : Nat) : Except (Nat × Nat) (Wd × Nat) := .ok (⟨3, p, ⟨#[]⟩, 5, 0⟩, p + 1)
def liveStr (_ : Nat) : Except (Nat × Nat) (Wd × Nat) := .error (0, 0)
def liveF : Lex := wordF liveT liveNum liveStr
theorem live_bytes : bytesOf liveT = [97, 60, 53, 32, 38, 32, 33, 63, 98] := rfl
theorem live_size : liveT.size = 9 := rfl
theorem live_words : Words liveF liveT := by
  intro p w hv hp
  have numC : ∀ q w, Vars w → q < liveT.size → (byteAt liveT q = 45 ∨ digB (byteAt liveT q) = true) → Calls Tryz.prog 45 #[.string liveT, .int .i64 (q : Int)] w fun e w' => e = toldS (liveNum q) ∧ Below w.heap.size w w' := by
    intro q w _ hq hd
    rw [live_size] at hq
    have h2 : q = 2 := by
      have : q = 0 ∨ q = 1 ∨ q = 2 ∨ q = 3 ∨ q = 4 ∨ q = 5 ∨ q = 6 ∨ q = 7 ∨ q = 8 := by omega
      rcases this with rfl | rfl | rfl | rfl | rfl | rfl | rfl | rfl | rfl <;> first | rfl | (exfalso; revert hd; decide)
    subst h2
    exact read_number_5 liveT 2 (by rw [live_size]; omega) (by rw [live_size]; omega) rfl (by decide) (by rfl) w
  have strC : ∀ q w, q < liveT.size → byteAt liveT q = 34 → Calls Tryz.prog 46 #[.string liveT, .int .i64 (q : Int)] w fun e w' => e = toldS (liveStr q) ∧ Below w.heap.size w w' := by
    intro q w hq hd
    rw [live_size] at hq
    have : q = 0 ∨ q = 1 ∨ q = 2 ∨ q = 3 ∨ q = 4 ∨ q = 5 ∨ q = 6 ∨ q = 7 ∨ q = 8 := by omega
    exfalso
    rcases this with rfl | rfl | rfl | rfl | rfl | rfl | rfl | rfl | rfl <;> (revert hd; decide)
  refine (read_word liveT (by rw [live_size]; omega) liveNum liveStr numC strC p hp w hv).mono ?_
  rintro e w' ⟨rfl, hb⟩
  refine ⟨?_, hb⟩
  show match liveF p with
    | .ok (wd, k) => _
    | .error m => _
  unfold liveF
  rcases wordF liveT liveNum liveStr p with m | ⟨wd, k⟩
  · rfl
  · rfl
theorem live_lex : LexOk liveF liveT.size := by
  refine ⟨fun p w k hp h => ?_⟩
  rw [live_size] at hp ⊢
  have : p = 0 ∨ p = 1 ∨ p = 2 ∨ p = 3 ∨ p = 4 ∨ p = 5 ∨ p = 6 ∨ p = 7 ∨ p = 8 ∨ p = 9 := by omega
  rcases this with rfl | rfl | rfl | rfl | rfl | rfl | rfl | rfl | rfl | rfl
  · have e : liveF 0 = .ok (⟨2, 0, ⟨#[97]⟩, 0, 0⟩, 1) := by rfl
    rw [e] at h; cases h; omega
  · have e : liveF 1 = .ok (⟨1, 1, ⟨#[60]⟩, 0, 0⟩, 2) := by rfl
    rw [e] at h; cases h; omega
  · have e : liveF 2 = .ok (⟨3, 2, ⟨#[]⟩, 5, 0⟩, 3) := by rfl
    rw [e] at h; cases h; omega
  · have e : liveF 3 = .ok (⟨1, 4, ⟨#[38]⟩, 0, 0⟩, 5) := by rfl
    rw [e] at h; cases h; omega
  · have e : liveF 4 = .ok (⟨1, 4, ⟨#[38]⟩, 0, 0⟩, 5) := by rfl
    rw [e] at h; cases h; omega
  · have e : liveF 5 = .ok (⟨1, 6, ⟨#[33]⟩, 0, 0⟩, 7) := by rfl
    rw [e] at h; cases h; omega
  · have e : liveF 6 = .ok (⟨1, 6, ⟨#[33]⟩, 0, 0⟩, 7) := by rfl
    rw [e] at h; cases h; omega
  · have e : liveF 7 = .ok (⟨1, 7, ⟨#[63]⟩, 0, 0⟩, 8) := by rfl
    rw [e] at h; cases h; omega
  · have e : liveF 8 = .ok (⟨2, 8, ⟨#[98]⟩, 0, 0⟩, 9) := by rfl
    rw [e] at h; cases h; omega
  · have e : liveF 9 = .ok (⟨0, 9, ⟨#[]⟩, 0, 0⟩, 9) := by rfl
    rw [e] at h; cases h; exact ⟨by omega, by omega, fun h => absurd rfl h⟩

def q0 : Tm := ⟨3, ⟨#[97]⟩, 5, ⟨1, 5, ⟨#[]⟩, false, 0, 0⟩, 0⟩
def q1 : Tm := ⟨3, ⟨#[98]⟩, 1, Val.zero, 0⟩
def liveL : List Tm := [q0, q1, Tm.plain 4, Tm.plain 5]
theorem live_parse : parseM liveF (fuel liveT) = .ok ⟨9, ⟨0, 9, ⟨#[]⟩, 0, 0⟩, liveL⟩ := by kernel_rfl

theorem parse_live (w : World) (hv : Vars w) : Calls Tryz.prog 10 #[.string liveT] w fun e w' => ∃ v, e = .returned (.tuple #[v, .agg #[.int .i64 0, .int .i64 0]]) ∧ Tms w' w.heap.size v liveL ∧ Below w.heap.size w w' := by
  have h := parse_any live_words live_lex (by rw [live_size]; omega) (fuel liveT) (Nat.le_refl _) w hv
  rw [live_parse] at h
  exact h

theorem name_a : nameOk ⟨#[97]⟩ := (nameB_iff _).1 (by decide)
theorem name_b : nameOk ⟨#[98]⟩ := (nameB_iff _).1 (by decide)
theorem live_right : ∀ q ∈ liveL, TmRight q := by
  intro q hq
  simp only [liveL, List.mem_cons, List.not_mem_nil, or_false] at hq
  rcases hq with rfl | rfl | rfl | rfl
  · exact ⟨by decide, fun _ => ⟨name_a, by decide, fun _ => ⟨.whole _ _ _ _ _ (by decide), by decide, fun h => by cases h⟩⟩⟩
  · exact ⟨by decide, fun _ => ⟨name_b, by decide, fun h => absurd h (by decide)⟩⟩
  · exact ⟨by decide, fun h => by cases h⟩
  · exact ⟨by decide, fun h => by cases h⟩
theorem live_check : checkT liveL = 0 := by rfl

theorem Parse_live (w : World) (hv : Vars w) : Calls Tryz.prog 5 #[.string liveT] w fun e w' => ∃ a c, e = .returned (.tuple #[.slice a 4 c, .int .i64 0, .int .i64 0]) ∧ Tms w' w.heap.size (.slice a 4 c) liveL ∧ Below w.heap.size w w' := by
  have HV : Hid (Vars w) := hv
  clear hv
  have HP : Hid (∀ w, Vars w → Calls Tryz.prog 10 #[.string liveT] w fun e w' => ∃ v, e = .returned (.tuple #[v, .agg #[.int .i64 0, .int .i64 0]]) ∧ Tms w' w.heap.size v liveL ∧ Below w.heap.size w w') := parse_live
  unfold liveT at *
  go_enter Tryz.func5, Tryz.ntmps5
  go_wp2_with fail
  refine (HP.out _ HV.out).mono ?_
  rintro e w1 ⟨v, rfl, ht, hb1⟩
  obtain ⟨a, c, rfl⟩ := ht.form
  have HT : Hid (Tms w1 w.heap.size (.slice a liveL.length c) liveL) := ht
  have HB1 : Hid (Below w.heap.size w w1) := hb1
  clear ht hb1
  have hlen : liveL.length = 4 := rfl
  rw [hlen] at HT ⊢
  clear hlen
  go_wp2_with fail
  refine (pred_Check a 4 c liveL _ (HT.out.rd.2.below (below_alloc w1 _)) rfl (by omega) live_right).mono ?_
  rw [live_check]
  rintro e w2 ⟨rfl, hb2⟩
  have HB2 : Hid (Below w1.heap.size w1 w2) := (below_alloc w1 _).trans (hb2.mono (by simp))
  clear hb2
  go_wp2
  go_ret3
  exact ⟨a, c, rfl, HT.out.below HB2.out, HB1.out.trans (HB2.out.mono HB1.out.size)⟩
end Go.Proofs.YteoopoabemeanaaGreatDoor
