/- mark: has, place, look, standing, Get. -/
import Derived.Test.YtghajmcohdedlaaMk2
namespace Go.Proofs.Ytghajmcohdedlaa
open Go.RowKit

/-- Cells in memory. -/
def Cs (w : World) (gc g b m : Nat) : Prop := Blk w gc #[.pointer (some ⟨g, 0, none⟩), .int .i64 (b : Int), .int .i64 (m : Int)] 80
theorem Cs.stay {w w' : World} {gc g b m : Nat} (h : Cs w gc g b m) (hb : Below w.heap.size w w') : Cs w' gc g b m := Blk.stay h hb
theorem cells_has (w : World) (gc g b m : Nat) (i : Int) (h : Cs w gc g b m) : Calls Try.prog 64 #[.pointer (some ⟨gc, 0, none⟩), .int .i64 i] w fun e w' => e = .returned (.bool (decide (0 ≤ i ∧ i < (m : Int)))) ∧ w' = w := by
  have c2 : w.cell? ⟨gc, 2, none⟩ = some (.int .i64 (m : Int)) := Blk.cell h 2 rfl
  clear h
  by_cases h0 : 0 ≤ i
  · by_cases h1 : i < (m : Int)
    · have HX : Hid (decide (0 ≤ i ∧ i < (m : Int)) = true) := decide_eq_true ⟨h0, h1⟩
      rw [HX.out]
      go_enter Try.func64, Try.ntmps64
      go_wp2
      go_ret
      exact ⟨rfl, rfl⟩
    · have HX : Hid (decide (0 ≤ i ∧ i < (m : Int)) = false) := decide_eq_false (fun h => h1 h.2)
      rw [HX.out]
      go_enter Try.func64, Try.ntmps64
      go_wp2
      go_ret
      exact ⟨rfl, rfl⟩
  · have HX : Hid (decide (0 ≤ i ∧ i < (m : Int)) = false) := decide_eq_false (fun h => h0 h.1)
    rw [HX.out]
    go_enter Try.func64, Try.ntmps64
    go_wp2
    go_ret
    exact ⟨rfl, rfl⟩
theorem cells_place (w : World) (gc g b m i : Nat) (q : Int) (h : Cs w gc g b m) (hb : b ≤ 1000) (hi : i ≤ 1000) (hq : 0 ≤ q ∧ q ≤ 1) : Calls Try.prog 83 #[.pointer (some ⟨gc, 0, none⟩), .int .i64 (i : Int), .int .i64 q] w fun e w' => e = .returned (.int .i64 ((b : Int) + 2 * (i : Int) + q)) ∧ w' = w := by
  have c1 : w.cell? ⟨gc, 1, none⟩ = some (.int .i64 (b : Int)) := Blk.cell h 1 rfl
  clear h
  go_enter Try.func83, Try.ntmps83
  go_wp2
  go_ret
  exact ⟨by go_num, rfl⟩

/-- What a sector of the disk tells. -/
def lookB (D : Dk) (p : Int) : Int × Int := if readE D p = 0 then readB (nowB D p.toNat) else (0, 0)
theorem results_look {w : World} {tmps : Array Value} {g : Nat} {cs : List Value} (h4 : tmps[4]?.getD undef = .pointer (some ⟨g, 0, none⟩)) (k : Blk w g cs.toArray 127) (hl : cs.length = 2) : (results Try.f82 tmps).run Try.prog w = .ok (.agg cs.toArray) w := by
  have hr := run_loadVar_mid (P := Try.prog) w g 0 127 cs _ (k.range 0 cs (fun j v hj => by simpa using hj)) Try.underlying127 rfl (by rw [hl]; exact infoEntry)
  simp [results, Try.results82, h4, hr, asAddr]
set_option maxRecDepth 100000 in
set_option maxHeartbeats 1000000 in
theorem cells_look (w : World) (base g gs : Nat) (wv : Value) (D : Dk) (gc b m : Nat) (p : Int) (h : Disk w base g gs wv D) (hc : Cs w gc g b m) :
    Calls Try.prog 82 #[.pointer (some ⟨gc, 0, none⟩), .int .i64 p] w fun e w' => e = .returned (.agg #[.int .i64 (lookB D p).1, .int .i64 (lookB D p).2]) ∧ Below w.heap.size w w' := by
  obtain ⟨R, HR⟩ : ∃ R, Hid (R = lookB D p) := ⟨_, rfl⟩
  rw [← HR.out]
  have HD : Hid (∀ w', Below w.heap.size w w' → Disk w' base g gs wv D) := fun w' hb => h.stay hb
  have HC : Hid (Cs w gc g b m) := hc
  clear h hc
  go_enter Try.func82, Try.ntmps82
  have c0 : (w.alloc (.cells #[.int .i64 0, .int .i64 0] 127)).cell? ⟨gc, 0, none⟩ = some (.pointer (some ⟨g, 0, none⟩)) := Blk.cell (HC.out.stay (below_alloc _ _)) 0 rfl
  go_wp2_with fail
  generalize hw1 : World.alloc w _ = w1 at *
  have HB1 : Hid (Below w.heap.size w w1) := by show Below _ _ _; rw [← hw1]; exact below_alloc _ _
  have HZ1 : Hid (Blk w1 w.heap.size #[.int .i64 0, .int .i64 0] 127) := by show Blk _ _ _ _; rw [← hw1]; exact Blk.new _ _ _
  clear hw1 c0
  refine (disk_Read w1 base g gs wv D p (HD.out _ HB1.out)).mono ?_
  rintro e w2 ⟨ht, hb2⟩
  have HB2 : Hid (Below w.heap.size w w2) := HB1.out.trans (hb2.mono HB1.out.size)
  have HZ2 : Hid (Blk w2 w.heap.size #[.int .i64 0, .int .i64 0] 127) := HZ1.out.stay hb2
  rcases ht.out with ⟨hne, rfl⟩ | ⟨h0, k, rfl, _, hk, hs⟩
  · have HX : Hid (R = (0, 0)) := by show _ = _; rw [HR.out, lookB, if_neg hne]
    have z0 : w2.cell? ⟨w.heap.size, 0, none⟩ = some (.int .i64 0) := HZ2.out.cell 0 rfl
    have z1 : w2.cell? ⟨w.heap.size, 1, none⟩ = some (.int .i64 0) := HZ2.out.cell 1 rfl
    have f0 := HZ2.out.free 0
    have f1 := HZ2.out.free 1
    have hne' : ¬ (readE D p == 0) = true := by simpa using hne
    generalize readE D p = E at *
    clear ht hb2
    go_wp2
    refine bodyPost_ret (results_look (cs := [.int .i64 0, .int .i64 0]) (by rfl) ((HZ2.out.set 0 _).set 1 _) rfl) rfl ?_
    rw [HX.out]
    exact ⟨rfl, (HB2.out.setCell (Nat.le_refl _) _).setCell (Nat.le_refl _) _⟩
  · have HX : Hid (R = readB (nowB D p.toNat)) := by show _ = _; rw [HR.out, lookB, if_pos h0]
    have HK : Hid (Blk w2 k (vb (nowB D p.toNat)).toArray 70) := hk
    have HS : Hid (Sec (nowB D p.toNat)) := hs
    clear ht hb2 hk hs h0
    go_wp2_with fail
    refine (mark_read k 70 _ w2 HK.out HS.out).mono ?_
    rw [← HX.out]
    rintro e w3 ⟨rfl, hb3⟩
    have HB3 : Hid (Below w.heap.size w w3) := HB2.out.trans (hb3.mono HB2.out.size)
    have HZ3 : Hid (Blk w3 w.heap.size #[.int .i64 0, .int .i64 0] 127) := HZ2.out.stay hb3
    have z0 : w3.cell? ⟨w.heap.size, 0, none⟩ = some (.int .i64 0) := HZ3.out.cell 0 rfl
    have z1 : w3.cell? ⟨w.heap.size, 1, none⟩ = some (.int .i64 0) := HZ3.out.cell 1 rfl
    have f0 := HZ3.out.free 0
    have f1 := HZ3.out.free 1
    clear hb3
    go_wp2
    refine bodyPost_ret (results_look (cs := [.int .i64 R.1, .int .i64 R.2]) (by rfl) ((HZ3.out.set 0 _).set 1 _) rfl) rfl ?_
    exact ⟨rfl, (HB3.out.setCell (Nat.le_refl _) _).setCell (Nat.le_refl _) _⟩
end Go.Proofs.Ytghajmcohdedlaa
