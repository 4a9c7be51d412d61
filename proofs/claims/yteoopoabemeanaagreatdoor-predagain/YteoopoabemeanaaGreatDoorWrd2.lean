/- pred.readName, pred.readSign. -/
import Derived.Test.YteoopoabemeanaaGreatDoorWrd
namespace Go.Proofs.YteoopoabemeanaaGreatDoor
set_option maxRecDepth 100000
open Go.RowKit

def subT (T : ByteArray) (p q : Nat) : ByteArray := T.extract p q
/-- The name at a place. -/
def nameAt (T : ByteArray) (p : Nat) : Wd × Nat := (⟨2, p, subT T p (runTo T namB p), 0, if 16 < runTo T namB p - p then 11 else 0⟩, runTo T namB p)
def toldW (r : Wd × Nat) : Ending := .returned (.tuple #[.agg r.1.cells, .int .i64 (r.2 : Int)])

theorem results_word2 {f : Func} {w : World} {tmps : Array Value} {g : Nat} {t : TypeId} {wd : Wd} {v : Value} (hf : f.results = #[.cell 4 63, .tmp 5]) (h4 : tmps[4]?.getD undef = .pointer (some ⟨g, 0, none⟩)) (h5 : tmps[5]?.getD undef = v)
    (k : Blk w g wd.cells t) : (results f tmps).run Tryz.prog w = .ok (.tuple #[.agg wd.cells, v]) w := by
  have k0 : w.cell? ⟨g, 0, none⟩ = some (.int .i64 (wd.kind : Int)) := k.cell 0 rfl
  have k1 : w.cell? ⟨g, 1, none⟩ = some (.int .i64 (wd.place : Int)) := k.cell 1 rfl
  have k2 : w.cell? ⟨g, 2, none⟩ = some (.string wd.text) := k.cell 2 rfl
  have k3 : w.cell? ⟨g, 3, none⟩ = some (.int .i64 wd.n) := k.cell 3 rfl
  have k4 : w.cell? ⟨g, 4, none⟩ = some (.int .i64 (wd.late : Int)) := k.cell 4 rfl
  simp [results, hf, go_sem, h4, h5, k0, k1, k2, k3, k4, Wd.cells]

theorem read_name (T : ByteArray) (p : Nat) (hp : p < T.size) (hT : T.size ≤ 300) (w : World) :
    Calls Tryz.prog 43 #[.string T, .int .i64 (p : Int)] w fun e w' => e = toldW (nameAt T p) ∧ Below w.heap.size w w' := by
  obtain ⟨r1, r2⟩ := runTo_le (ok := namB) (Nat.le_of_lt hp)
  have HB : Hid (∀ w, Calls Tryz.prog 57 #[.string T, .int .i64 (p : Int), .func (.func 58) #[] #[]] w fun e w' => e = .returned (.int .i64 (runTo T namB p : Int)) ∧ w' = w) := behind_name T p (Nat.le_of_lt hp) hT
  have HN : Hid (nameAt T p = (⟨2, p, subT T p (runTo T namB p), 0, if 16 < runTo T namB p - p then 11 else 0⟩, runTo T namB p)) := rfl
  obtain ⟨q, hq⟩ : ∃ q, runTo T namB p = q := ⟨_, rfl⟩
  rw [hq] at r1 r2 HB HN
  clear hq
  have g1 : (0 : Int) ≤ (p : Int) := by omega
  have g2 : (p : Int) ≤ (q : Int) := by omega
  have g3 : (q : Int) ≤ (T.size : Int) := by omega
  by_cases h16 : 16 < q - p
  · have k : (16 : Int) < (q : Int) - (p : Int) := by omega
    rw [if_pos h16] at HN
    go_enter Tryz.func43, Tryz.ntmps43
    go_wp2_with fail
    refine (HB.out _).mono ?_
    rintro e w1 ⟨rfl, rfl⟩
    go_wp2
    go_returns
    refine ⟨?_, ?_⟩
    · rw [HN.out]; rfl
    · exact ((below_alloc _ _).alloc (by simp) _)
  · have k : ¬ (16 : Int) < (q : Int) - (p : Int) := by omega
    rw [if_neg h16] at HN
    go_enter Tryz.func43, Tryz.ntmps43
    go_wp2_with fail
    refine (HB.out _).mono ?_
    rintro e w1 ⟨rfl, rfl⟩
    go_wp2
    go_returns
    refine ⟨?_, ?_⟩
    · rw [HN.out]; rfl
    · exact ((below_alloc _ _).alloc (by simp) _)

/-- The sign at a place: how many bytes it has; 0: none. -/
def signLen (T : ByteArray) (p : Nat) : Nat :=
  if byteAt T p = 33 ∨ byteAt T p = 60 ∨ byteAt T p = 62 then (if p + 1 < T.size ∧ byteAt T (p + 1) = 61 then 2 else 1)
  else if byteAt T p ∈ [40, 41, 44, 47, 38, 124, 63, 42, 35, 61, 94, 126] then 1 else 0
def signAt (T : ByteArray) (p : Nat) : Except (Nat × Nat) (Wd × Nat) := if signLen T p = 0 then .error (p, 4) else .ok (⟨1, p, subT T p (p + signLen T p), 0, 0⟩, p + signLen T p)

theorem byte_lt (T : ByteArray) (p : Nat) (h : p < T.size) : T[p].toNat < 256 := T[p].toNat_lt
def toldS (r : Except (Nat × Nat) (Wd × Nat)) : Ending := match r with
  | .ok r => toldW r
  | .error m => thrown m
set_option maxHeartbeats 4000000 in
theorem sign_one (T : ByteArray) (p : Nat) (hp : p < T.size) (hT : T.size ≤ 300) (w : World) (hc : byteAt T p ∈ [40, 41, 44, 47, 38, 124, 63, 42, 35, 61, 94, 126]) :
    Calls Tryz.prog 47 #[.string T, .int .i64 (p : Int)] w fun e w' => e = toldW (⟨1, p, subT T p (p + 1), 0, 0⟩, p + 1) ∧ Below w.heap.size w w' := by
  rw [byteAt_eq T p hp] at hc
  have g1 : (0 : Int) ≤ (p : Int) := by omega
  have g2 : (p : Int) ≤ (p : Int) + 1 := by omega
  have g3 : (p : Int) + 1 ≤ (T.size : Int) := by omega
  have g4 : (p : Int) < (T.size : Int) := by omega
  simp only [List.mem_cons, List.not_mem_nil, or_false] at hc
  rcases hc with hc | hc | hc | hc | hc | hc | hc | hc | hc | hc | hc | hc
  all_goals
    go_enter Tryz.func47, Tryz.ntmps47
    go_wp2
    go_returns
    exact ⟨rfl, below_alloc w _⟩
set_option maxHeartbeats 4000000 in
theorem sign_two (T : ByteArray) (p : Nat) (hp : p + 1 < T.size) (hT : T.size ≤ 300) (w : World) (hc : byteAt T p = 33 ∨ byteAt T p = 60 ∨ byteAt T p = 62) (h2 : byteAt T (p + 1) = 61) :
    Calls Tryz.prog 47 #[.string T, .int .i64 (p : Int)] w fun e w' => e = toldW (⟨1, p, subT T p (p + 2), 0, 0⟩, p + 2) ∧ Below w.heap.size w w' := by
  rw [byteAt_eq T p (by omega)] at hc
  rw [byteAt_eq T (p + 1) hp] at h2
  have g1 : (0 : Int) ≤ (p : Int) := by omega
  have g2 : (p : Int) ≤ (p : Int) + 1 + 1 := by omega
  have g3 : (p : Int) + 1 + 1 ≤ (T.size : Int) := by omega
  have g4 : (p : Int) < (T.size : Int) := by omega
  have g5 : (p : Int) + 1 < (T.size : Int) := by omega
  rcases hc with hc | hc | hc
  all_goals
    go_enter Tryz.func47, Tryz.ntmps47
    go_wp2
    go_returns
    exact ⟨rfl, below_alloc w _⟩
set_option maxHeartbeats 4000000 in
theorem sign_first (T : ByteArray) (p : Nat) (hp : p < T.size) (hT : T.size ≤ 300) (w : World) (hc : byteAt T p = 33 ∨ byteAt T p = 60 ∨ byteAt T p = 62) (h2 : ¬ (p + 1 < T.size ∧ byteAt T (p + 1) = 61)) :
    Calls Tryz.prog 47 #[.string T, .int .i64 (p : Int)] w fun e w' => e = toldW (⟨1, p, subT T p (p + 1), 0, 0⟩, p + 1) ∧ Below w.heap.size w w' := by
  rw [byteAt_eq T p hp] at hc
  have g1 : (0 : Int) ≤ (p : Int) := by omega
  have g2 : (p : Int) ≤ (p : Int) + 1 := by omega
  have g3 : (p : Int) + 1 ≤ (T.size : Int) := by omega
  have g4 : (p : Int) < (T.size : Int) := by omega
  by_cases h3 : p + 1 < T.size
  · have g5 : (p : Int) + 1 < (T.size : Int) := by omega
    have h4 : ((T[p + 1].toNat : Int) == 61) = false := by
      rw [beq_eq_false_iff_ne]
      intro e
      exact h2 ⟨h3, by rw [byteAt_eq T (p + 1) h3]; omega⟩
    clear h2
    rcases hc with hc | hc | hc
    all_goals
      go_enter Tryz.func47, Tryz.ntmps47
      go_wp2
      go_returns
      exact ⟨rfl, below_alloc w _⟩
  · have g5 : ¬ (p : Int) + 1 < (T.size : Int) := by omega
    clear h2
    rcases hc with hc | hc | hc
    all_goals
      go_enter Tryz.func47, Tryz.ntmps47
      go_wp2
      go_returns
      exact ⟨rfl, below_alloc w _⟩
end Go.Proofs.YteoopoabemeanaaGreatDoor
