/- mark: standing, Get. -/
import Derived.Test.YtghajmcohdedlaaMk3
namespace Go.Proofs.Ytghajmcohdedlaa
open Go.RowKit

/-- Which sector of a cell counts, and what it tells. -/
def standB (D : Dk) (b i : Nat) : Int × Int × Int :=
  if (lookB D ((b : Int) + 2 * (i : Int) + 0)).1 = 0 ∨ (lookB D ((b : Int) + 2 * (i : Int) + 0)).1 < (lookB D ((b : Int) + 2 * (i : Int) + 1)).1 then (1, lookB D ((b : Int) + 2 * (i : Int) + 1)) else (0, lookB D ((b : Int) + 2 * (i : Int) + 0))
theorem results_standing {w : World} {tmps : Array Value} {g : Nat} {cs : List Value} {v : Value} (h4 : tmps[4]?.getD undef = v) (h5 : tmps[5]?.getD undef = .pointer (some ⟨g, 0, none⟩)) (k : Blk w g cs.toArray 127) (hl : cs.length = 2) : (results Try.f65 tmps).run Try.prog w = .ok (.tuple #[v, .agg cs.toArray]) w := by
  have hr := run_loadVar_mid (P := Try.prog) w g 0 127 cs _ (k.range 0 cs (fun j v hj => by simpa using hj)) Try.underlying127 rfl (by rw [hl]; exact infoEntry)
  simp [results, Try.results65, h4, h5, hr, asAddr]
set_option maxRecDepth 100000 in
set_option maxHeartbeats 1000000 in
theorem cells_standing (w : World) (base g gs : Nat) (wv : Value) (D : Dk) (gc b m i : Nat) (h : Disk w base g gs wv D) (hc : Cs w gc g b m) (hb : b ≤ 1000) (hi : i ≤ 1000) :
    Calls Try.prog 65 #[.pointer (some ⟨gc, 0, none⟩), .int .i64 (i : Int)] w fun e w' => e = .returned (.tuple #[.int .i64 (standB D b i).1, .agg #[.int .i64 (standB D b i).2.1, .int .i64 (standB D b i).2.2]]) ∧ Below w.heap.size w w' := by
  obtain ⟨R, HR⟩ : ∃ R, Hid (R = standB D b i) := ⟨_, rfl⟩
  rw [← HR.out]
  obtain ⟨p, HP⟩ : ∃ p, Hid (p = (b : Int) + 2 * (i : Int) + 0) := ⟨_, rfl⟩
  obtain ⟨q, HQ⟩ : ∃ q, Hid (q = (b : Int) + 2 * (i : Int) + 1) := ⟨_, rfl⟩
  obtain ⟨⟨fn, fv⟩, HF⟩ : ∃ F, Hid (F = lookB D p) := ⟨_, rfl⟩
  obtain ⟨⟨sn, sv⟩, HS⟩ : ∃ F, Hid (F = lookB D q) := ⟨_, rfl⟩
  have HRV : Hid (R = if fn = 0 ∨ fn < sn then (1, sn, sv) else (0, fn, fv)) := by
    show _ = _
    rw [HR.out, standB, ← HP.out, ← HQ.out, ← HF.out, ← HS.out]
  have HD : Hid (∀ w', Below w.heap.size w w' → Disk w' base g gs wv D) := fun w' hb => h.stay hb
  have HC : Hid (∀ w', Below w.heap.size w w' → Cs w' gc g b m) := fun w' hb => hc.stay hb
  have HBI : Hid (b ≤ 1000 ∧ i ≤ 1000) := ⟨hb, hi⟩
  clear h hc HR hb hi
  go_enter Try.func65, Try.ntmps65
  go_wp2_with fail
  generalize hw1 : World.alloc w _ = w1 at *
  have HB1 : Hid (Below w.heap.size w w1) := by show Below _ _ _; rw [← hw1]; exact below_alloc _ _
  have HZ1 : Hid (Blk w1 w.heap.size #[.int .i64 0, .int .i64 0] 127) := by show Blk _ _ _ _; rw [← hw1]; exact Blk.new _ _ _
  clear hw1
  refine (cells_place w1 gc g b m i 0 (HC.out _ HB1.out) HBI.out.1 HBI.out.2 (by omega)).mono ?_
  rw [← HP.out]
  rintro e w' ⟨rfl, hw⟩
  subst w'
  go_wp2_with fail
  refine (cells_look w1 base g gs wv D gc b m p (HD.out _ HB1.out) (HC.out _ HB1.out)).mono ?_
  rw [← HF.out]
  rintro e w2 ⟨rfl, hb2⟩
  have HB2 : Hid (Below w.heap.size w w2) := HB1.out.trans (hb2.mono HB1.out.size)
  have HZ2 : Hid (Blk w2 w.heap.size #[.int .i64 0, .int .i64 0] 127) := HZ1.out.stay hb2
  clear hb2
  go_wp2_with fail
  refine (cells_place w2 gc g b m i 1 (HC.out _ HB2.out) HBI.out.1 HBI.out.2 (by omega)).mono ?_
  rw [← HQ.out]
  rintro e w' ⟨rfl, hw⟩
  subst w'
  go_wp2_with fail
  refine (cells_look w2 base g gs wv D gc b m q (HD.out _ HB2.out) (HC.out _ HB2.out)).mono ?_
  rw [← HS.out]
  rintro e w3 ⟨rfl, hb3⟩
  have HB3 : Hid (Below w.heap.size w w3) := HB2.out.trans (hb3.mono HB2.out.size)
  have HZ3 : Hid (Blk w3 w.heap.size #[.int .i64 0, .int .i64 0] 127) := HZ2.out.stay hb3
  clear hb3
  by_cases h0 : fn = 0
  · have HX : Hid (R = (1, sn, sv)) := by show _ = _; rw [HRV.out, if_pos (.inl h0)]
    have h0' : (fn == 0) = true := by rw [beq_iff_eq]; exact h0
    go_wp2
    generalize hw4 : World.alloc (World.alloc w3 _) _ = w4
    have HB34 : Hid (Below w3.heap.size w3 w4) := by show Below _ _ _; rw [← hw4]; exact (below_alloc _ _).trans ((below_alloc _ _).mono (by simp))
    have HE4 : Hid (Blk w4 (w3.heap.size + 1) #[.int .i64 sn, .int .i64 sv] 127) := by
      show Blk _ _ _ _
      rw [← hw4]
      first
        | exact (Blk.new w3 _ _).stay (below_alloc _ _)
        | (have := Blk.new (w3.alloc (.cells #[.int .i64 fn, .int .i64 fv] 127)) #[.int .i64 sn, .int .i64 sv] 127; simpa using this)
        | (have := Blk.new (w3.alloc (.cells #[.int .i64 0, .int .i64 fv] 127)) #[.int .i64 sn, .int .i64 sv] 127; simpa using this)
    have HB4 : Hid (Below w.heap.size w w4) := HB3.out.trans (HB34.out.mono HB3.out.size)
    have HZ4 : Hid (Blk w4 w.heap.size #[.int .i64 0, .int .i64 0] 127) := HZ3.out.stay HB34.out
    clear hw4
    have e0 : w4.cell? ⟨w3.heap.size + 1, 0, none⟩ = some (.int .i64 sn) := HE4.out.cell 0 rfl
    have e1 : w4.cell? ⟨w3.heap.size + 1, 1, none⟩ = some (.int .i64 sv) := HE4.out.cell 1 rfl
    have z0 : w4.cell? ⟨w.heap.size, 0, none⟩ = some (.int .i64 0) := HZ4.out.cell 0 rfl
    have z1 : w4.cell? ⟨w.heap.size, 1, none⟩ = some (.int .i64 0) := HZ4.out.cell 1 rfl
    have f0 := HZ4.out.free 0
    have f1 := HZ4.out.free 1
    go_region
    all_goals
      go_wp2
      refine bodyPost_ret (results_standing (cs := [.int .i64 sn, .int .i64 sv]) (v := .int .i64 1) (by rfl) (by rfl) (((HZ4.out.stay (Below.refl _ _).drew).set 0 _).set 1 _) rfl) rfl ?_
      rw [HX.out]
      exact ⟨rfl, (HB4.out.drew.setCell (Nat.le_refl _) _).setCell (Nat.le_refl _) _⟩
  have h0' : (fn == 0) = false := by rw [beq_eq_false_iff_ne]; exact h0
  by_cases h1 : fn < sn
  · have HX : Hid (R = (1, sn, sv)) := by show _ = _; rw [HRV.out, if_pos (.inr h1)]
    go_wp2
    generalize hw4 : World.alloc (World.alloc w3 _) _ = w4
    have HB34 : Hid (Below w3.heap.size w3 w4) := by show Below _ _ _; rw [← hw4]; exact (below_alloc _ _).trans ((below_alloc _ _).mono (by simp))
    have HE4 : Hid (Blk w4 (w3.heap.size + 1) #[.int .i64 sn, .int .i64 sv] 127) := by
      show Blk _ _ _ _
      rw [← hw4]
      first
        | exact (Blk.new w3 _ _).stay (below_alloc _ _)
        | (have := Blk.new (w3.alloc (.cells #[.int .i64 fn, .int .i64 fv] 127)) #[.int .i64 sn, .int .i64 sv] 127; simpa using this)
        | (have := Blk.new (w3.alloc (.cells #[.int .i64 0, .int .i64 fv] 127)) #[.int .i64 sn, .int .i64 sv] 127; simpa using this)
    have HB4 : Hid (Below w.heap.size w w4) := HB3.out.trans (HB34.out.mono HB3.out.size)
    have HZ4 : Hid (Blk w4 w.heap.size #[.int .i64 0, .int .i64 0] 127) := HZ3.out.stay HB34.out
    clear hw4
    have e0 : w4.cell? ⟨w3.heap.size + 1, 0, none⟩ = some (.int .i64 sn) := HE4.out.cell 0 rfl
    have e1 : w4.cell? ⟨w3.heap.size + 1, 1, none⟩ = some (.int .i64 sv) := HE4.out.cell 1 rfl
    have z0 : w4.cell? ⟨w.heap.size, 0, none⟩ = some (.int .i64 0) := HZ4.out.cell 0 rfl
    have z1 : w4.cell? ⟨w.heap.size, 1, none⟩ = some (.int .i64 0) := HZ4.out.cell 1 rfl
    have f0 := HZ4.out.free 0
    have f1 := HZ4.out.free 1
    go_region
    all_goals
      go_wp2
      refine bodyPost_ret (results_standing (cs := [.int .i64 sn, .int .i64 sv]) (v := .int .i64 1) (by rfl) (by rfl) (((HZ4.out.stay (Below.refl _ _).drew).set 0 _).set 1 _) rfl) rfl ?_
      rw [HX.out]
      exact ⟨rfl, (HB4.out.drew.setCell (Nat.le_refl _) _).setCell (Nat.le_refl _) _⟩
  · have HX : Hid (R = (0, fn, fv)) := by show _ = _; rw [HRV.out, if_neg (by omega)]
    go_wp2
    generalize hw4 : World.alloc (World.alloc w3 _) _ = w4
    have HB34 : Hid (Below w3.heap.size w3 w4) := by show Below _ _ _; rw [← hw4]; exact (below_alloc _ _).trans ((below_alloc _ _).mono (by simp))
    have HE4 : Hid (Blk w4 (w3.heap.size) #[.int .i64 fn, .int .i64 fv] 127) := by
      show Blk _ _ _ _
      rw [← hw4]
      first
        | exact (Blk.new w3 _ _).stay (below_alloc _ _)
        | (have := Blk.new (w3.alloc (.cells #[.int .i64 fn, .int .i64 fv] 127)) #[.int .i64 sn, .int .i64 sv] 127; simpa using this)
        | (have := Blk.new (w3.alloc (.cells #[.int .i64 0, .int .i64 fv] 127)) #[.int .i64 sn, .int .i64 sv] 127; simpa using this)
    have HB4 : Hid (Below w.heap.size w w4) := HB3.out.trans (HB34.out.mono HB3.out.size)
    have HZ4 : Hid (Blk w4 w.heap.size #[.int .i64 0, .int .i64 0] 127) := HZ3.out.stay HB34.out
    clear hw4
    have e0 : w4.cell? ⟨w3.heap.size, 0, none⟩ = some (.int .i64 fn) := HE4.out.cell 0 rfl
    have e1 : w4.cell? ⟨w3.heap.size, 1, none⟩ = some (.int .i64 fv) := HE4.out.cell 1 rfl
    have z0 : w4.cell? ⟨w.heap.size, 0, none⟩ = some (.int .i64 0) := HZ4.out.cell 0 rfl
    have z1 : w4.cell? ⟨w.heap.size, 1, none⟩ = some (.int .i64 0) := HZ4.out.cell 1 rfl
    have f0 := HZ4.out.free 0
    have f1 := HZ4.out.free 1
    go_region
    all_goals
      go_wp2
      refine bodyPost_ret (results_standing (cs := [.int .i64 fn, .int .i64 fv]) (v := .int .i64 0) (by rfl) (by rfl) (((HZ4.out.stay (Below.refl _ _).drew).set 0 _).set 1 _) rfl) rfl ?_
      rw [HX.out]
      exact ⟨rfl, (HB4.out.drew.setCell (Nat.le_refl _) _).setCell (Nat.le_refl _) _⟩

/-- A cell's value. -/
def getB (D : Dk) (b m : Nat) (i : Int) : Int × Bool := if 0 ≤ i ∧ i < (m : Int) then ((standB D b i.toNat).2.2, decide (0 < (standB D b i.toNat).2.1)) else (0, false)
set_option maxRecDepth 100000 in
set_option maxHeartbeats 1000000 in
theorem cells_Get (w : World) (base g gs : Nat) (wv : Value) (D : Dk) (gc b m : Nat) (i : Int) (h : Disk w base g gs wv D) (hc : Cs w gc g b m) (hb : b ≤ 1000) (hm : m ≤ 1000) :
    Calls Try.prog 35 #[.pointer (some ⟨gc, 0, none⟩), .int .i64 i] w fun e w' => e = .returned (.tuple #[.int .i64 (getB D b m i).1, .bool (getB D b m i).2]) ∧ Below w.heap.size w w' := by
  obtain ⟨R, HR⟩ : ∃ R, Hid (R = getB D b m i) := ⟨_, rfl⟩
  rw [← HR.out]
  have HD : Hid (Disk w base g gs wv D) := h
  have HC : Hid (Cs w gc g b m) := hc
  clear h hc
  go_enter Try.func35, Try.ntmps35
  go_wp2_with fail
  refine (cells_has w gc g b m i HC.out).mono ?_
  by_cases hh : 0 ≤ i ∧ i < (m : Int)
  · rw [decide_eq_true hh]
    rintro e w' ⟨rfl, hw⟩
    subst w'
    obtain ⟨j, rfl⟩ := Int.eq_ofNat_of_zero_le hh.1
    obtain ⟨⟨x, y, z⟩, HS⟩ : ∃ S, Hid (S = standB D b j) := ⟨_, rfl⟩
    have HX : Hid (R = (z, decide (0 < y))) := by show _ = _; rw [HR.out, getB, if_pos hh, Int.toNat_natCast, ← HS.out]
    go_wp2_with fail
    refine (cells_standing w base g gs wv D gc b m j HD.out HC.out hb (by omega)).mono ?_
    rw [← HS.out]
    rintro e w2 ⟨rfl, hb2⟩
    have HB2 : Hid (Below w.heap.size w w2) := hb2
    clear hb2
    go_wp2
    go_quiet (fail)
    generalize hnq : World.drewN _ _ = w4
    have HB4 : Hid (Below w.heap.size w w4) := by
      show Below _ _ _
      rw [← hnq]
      exact below_drews (HB2.out.trans ((below_alloc _ _).mono HB2.out.size)) _
    clear hnq
    go_wp2
    go_returns
    rw [HX.out]
    exact ⟨rfl, HB4.out⟩
  · rw [decide_eq_false hh]
    have HX : Hid (R = (0, false)) := by show _ = _; rw [HR.out, getB, if_neg hh]
    rintro e w' ⟨rfl, hw⟩
    subst w'
    go_wp2
    go_returns
    rw [HX.out]
    exact ⟨rfl, Below.refl _ _⟩
end Go.Proofs.Ytghajmcohdedlaa
