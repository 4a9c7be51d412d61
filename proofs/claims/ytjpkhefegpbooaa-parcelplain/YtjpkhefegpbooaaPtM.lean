/- parcel's reader: what it tells, as functions. -/
import Derived.Test.YtjpkhefegpbooaaPcM
import Derived.Test.YtjpkhefegpbooaaSpTakeL
import Derived.BigQuiet
namespace Go.Proofs.Ytjpkhefegpbooaa
open Go.RowKit

theorem take_small (bs : List Nat) (x : Int) (hb : ∀ y ∈ bs, y < 256) : (Leb.take bs x).1 < 18446744073709551616 ∧ ((Leb.take bs x).2.2 ≠ 0 → (Leb.take bs x).1 = 0 ∧ (Leb.take bs x).2.1 = 0) := by
  rcases h : Leb.take bs x with ⟨n, k, e⟩
  by_cases he : e = 0
  · subst he
    obtain ⟨p, _, _, _, hn, _⟩ := Leb.take_once bs x hb n k h
    exact ⟨hn, fun h => absurd rfl h⟩
  · have hz : n = 0 ∧ k = 0 := by
      unfold Leb.take at h
      split at h
      · simp only [Prod.mk.injEq] at h; omega
      · have ht := Leb.tk_zero (bs.drop x.toNat) 0 0
        rcases htk : Leb.tk 0 0 (bs.drop x.toNat) with ⟨a, u, f⟩
        rw [htk] at h ht
        simp only [Leb.fin, Prod.mk.injEq] at h
        obtain ⟨rfl, hk, rfl⟩ := h
        have := ht he
        rw [if_neg he] at hk
        exact ⟨this, hk.symm⟩
    exact ⟨by omega, fun _ => hz⟩
/-- Where a reader stands, and its fault. -/
structure Rs where
  at_ : Int
  ft : Int
def numF (bs : List Nat) (lim : Nat) (s : Rs) : Nat × Rs :=
  if s.ft = 0 then (if (Leb.take bs s.at_).2.2 ≠ 0 then (0, ⟨s.at_, ((Leb.take bs s.at_).2.2 : Int)⟩) else if lim < (Leb.take bs s.at_).1 then (0, ⟨s.at_, 6⟩) else ((Leb.take bs s.at_).1, ⟨((Leb.take bs s.at_).2.1 : Int), 0⟩)) else (0, s)
def spF (bs : List Nat) (s : Rs) : List Sp × Rs := if s.ft = 0 then ((takeM bs s.at_).1, ⟨(takeM bs s.at_).2.1, (takeM bs s.at_).2.2⟩) else ([], s)
def byF (bs : List Nat) (c : Nat) (s : Rs) : List Nat × Rs :=
  if s.ft = 0 then (if (bs.length : Int) - s.at_ < c then ([], ⟨s.at_, 3⟩) else ((bs.drop s.at_.toNat).take c, ⟨s.at_ + c, 0⟩)) else ([], s)
def itF (bs : List Nat) (s : Rs) : It × Rs :=
  let x := numF bs 1099511627776 s
  let y := numF bs 4294967295 x.2
  let z := numF bs 400 y.2
  let b := byF bs z.1 z.2
  (⟨x.1, y.1, b.1⟩, b.2)
def itsF (bs : List Nat) : Nat → List It → Rs → List It × Rs
  | 0, acc, s => (acc, s)
  | k + 1, acc, s => itsF bs k (acc ++ [(itF bs s).1]) (itF bs s).2
def itemsF (bs : List Nat) (s : Rs) : List It × Rs := itsF bs (numF bs 8 s).1 [] (numF bs 8 s).2
/-- A reader that has no fault stands within its bytes. -/
def Rs.fine (s : Rs) (bs : List Nat) : Prop := s.ft = 0 → 0 ≤ s.at_ ∧ s.at_ ≤ bs.length

/-- A reader in memory. -/
def Rdr (w : World) (R : Nat) (a : Option Addr) (len cap : Nat) (s : Rs) : Prop := Bk w R #[.slice a len cap, .int .i64 s.at_, .int .i64 s.ft] 64
theorem Rd.grown {w w' : World} {a : Option Addr} {len : Nat} {bs : List Nat} {R : Nat} {b : Option Addr} {l c : Nat} {s : Rs} (h : Rd w a len bs) (hk : Rdr w R b l c s) (hg : w.grownBy w' (some R)) : Rd w' a len bs := by
  refine ⟨h.size, h.byte, ?_⟩
  rcases h.cells with h0 | ⟨g, off, ha, hgs, hc⟩
  · exact .inl h0
  · refine .inr ⟨g, off, ha, Nat.lt_of_lt_of_le hgs hg.size, fun i hi => ?_⟩
    refine hg.cell (hc i hi) ?_
    intro e
    simp only [Option.some.injEq] at e
    subst e
    have h1 := hc i hi
    rw [cell_of_row w g (off + i) _ _ _ hk] at h1
    rcases Nat.lt_or_ge (off + i) 3 with h3 | h3
    · rcases (show off + i = 0 ∨ off + i = 1 ∨ off + i = 2 from by omega) with h4 | h4 | h4 <;> (rw [h4] at h1; simp at h1)
    · rw [Array.getElem?_eq_none (by simpa using h3)] at h1
      cases h1
theorem numF_no {bs : List Nat} {lim : Nat} {s : Rs} (h : s.ft ≠ 0) : numF bs lim s = (0, s) := if_neg h
theorem numF_bad {bs : List Nat} {lim : Nat} {s : Rs} {n k e : Nat} (h : s.ft = 0) (ht : Leb.take bs s.at_ = (n, k, e)) (he : e ≠ 0) : numF bs lim s = (0, ⟨s.at_, (e : Int)⟩) := by
  rw [numF, if_pos h, ht, if_pos he]
theorem numF_lim {bs : List Nat} {lim : Nat} {s : Rs} {n k : Nat} (h : s.ft = 0) (ht : Leb.take bs s.at_ = (n, k, 0)) (hn : lim < n) : numF bs lim s = (0, ⟨s.at_, 6⟩) := by
  rw [numF, if_pos h, ht, if_neg (by simp), if_pos hn]
theorem numF_ok {bs : List Nat} {lim : Nat} {s : Rs} {n k : Nat} (h : s.ft = 0) (ht : Leb.take bs s.at_ = (n, k, 0)) (hn : ¬ lim < n) : numF bs lim s = (n, ⟨(k : Int), 0⟩) := by
  rw [numF, if_pos h, ht, if_neg (by simp), if_neg hn]
theorem grown_refl (w : World) (row : Option Nat) : w.grownBy w row := ⟨rfl, rfl, rfl, Nat.le_refl _, fun _ _ _ => rfl⟩
theorem grown_set1 (w : World) (R i : Nat) (v : Value) : w.grownBy (w.setCell ⟨R, i, none⟩ v) (some R) := by
  have h0 : Below 0 w (w.setCell ⟨R, i, none⟩ v) := (Below.refl 0 w).setCell (Nat.zero_le _) v
  exact ⟨h0.os, h0.tape, h0.output, h0.size, fun k hk hn => heap_setCell_other w ⟨R, i, none⟩ k v (fun e => hn (by rw [e]))⟩
theorem grown_trans {w w1 w2 : World} {row : Option Nat} (h : w.grownBy w1 row) (h2 : w1.grownBy w2 row) : w.grownBy w2 row :=
  ⟨h2.os.trans h.os, h2.tape.trans h.tape, h2.output.trans h.output, Nat.le_trans h.size h2.size, fun k hk hn => (h2.block k (Nat.lt_of_lt_of_le hk h.size) hn).trans (h.block k hk hn)⟩
theorem grown_of_below {w w' : World} {row : Option Nat} (hb : Below w.heap.size w w') : w.grownBy w' row := ⟨hb.os, hb.tape, hb.output, hb.size, fun k hk _ => hb.block k hk⟩
theorem grown_drews {w w' : World} {row : Option Nat} (h : w.grownBy w' row) (n : Nat) : w.grownBy (w'.drewN n) row := grown_trans h (grown_of_below (below_drews (Below.refl _ _) n))

set_option maxRecDepth 100000 in
set_option maxHeartbeats 4000000 in
theorem rd_number (R : Nat) (a : Option Addr) (len cap : Nat) (bs : List Nat) (s : Rs) (lim : Nat) (w : World) (hk : Rdr w R a len cap s) (hr : Rd w a len bs) (hl : len ≤ 140737488351232) (hx : s.fine bs) (hm : lim ≤ 1099511627776) :
    Calls Try.prog 48 #[.pointer (some ⟨R, 0, none⟩), .int .u64 (lim : Int)] w fun e w' => e = .returned (.int .i64 ((numF bs lim s).1 : Int)) ∧ Hid (Rdr w' R a len cap (numF bs lim s).2) ∧ w.grownBy w' (some R) := by
  have HR : Hid (Rd w a len bs) := hr
  have HK : Hid (Rdr w R a len cap s) := hk
  have HX : Hid (s.fine bs) := hx
  have HSZ : Hid (bs.length = len) := hr.size
  obtain ⟨F, HF⟩ : ∃ F, Hid (F = numF bs lim s) := ⟨_, rfl⟩
  rw [← HF.out]
  obtain ⟨x, t⟩ := s
  have c0 : w.cell? ⟨R, 0, none⟩ = some (.slice a len cap) := hk.cell 0 rfl
  have c1 : w.cell? ⟨R, 1, none⟩ = some (.int .i64 x) := hk.cell 1 rfl
  have c2 : w.cell? ⟨R, 2, none⟩ = some (.int .i64 t) := hk.cell 2 rfl
  have f1 : w.frozen? ⟨R, 1, none⟩ = false := hk.free 1
  have f2 : w.frozen? ⟨R, 2, none⟩ = false := hk.free 2
  clear hr hk hx
  by_cases ht : t = 0
  · subst ht
    have HXX : Hid (0 ≤ x ∧ x ≤ len) := by have h := HX.out rfl; simp only at h; rw [HSZ.out] at h; exact h
    obtain ⟨n, k, e, hT⟩ : ∃ n k e, Leb.take bs x = (n, k, e) := ⟨_, _, _, rfl⟩
    have HT : Hid (Leb.take bs x = (n, k, e)) := hT
    have hsm := take_small bs x HR.out.byte
    rw [hT] at hsm
    have HC : Hid (∀ m, Calls Try.prog 55 #[.slice a len cap, .int .i64 x] (w.drewN m) fun e' w' => e' = .returned (.tuple #[.int .u64 (n : Int), .int .i64 (k : Int), .int .i64 (e : Int)]) ∧ w' = w.drewN m) := fun m => by
      have h := octet_TakeUint a len cap bs x (w.drewN m) (HR.out.below (below_drews (Below.refl _ _) m)) (by omega) (by have := HXX.out; omega)
      rw [hT] at h
      exact h
    clear hT
    by_cases he : e = 0
    · subst he
      by_cases hn : lim < n
      · have HX2 : Hid (F = (0, ⟨x, 6⟩)) := HF.out.trans (numF_lim rfl HT.out hn)
        have hn' : (lim : Int) < (n : Int) := by omega
        clear HF
        go_enter Try.func48, Try.ntmps48
        go_wp2
        go_quiet ((go_at_call 55; exact Calls.quiet_of_same (HC.out _)))
        generalize hnq : w.drewN _ = w2
        have hbw : Below w.heap.size w w2 := by rw [← hnq]; exact below_drews (Below.refl _ _) _
        have HG2 : Hid (w.grownBy w2 (some R)) := grown_of_below hbw
        have HK2 : Hid (Rdr w2 R a len cap ⟨x, 0⟩) := Bk.stay HK.out hbw
        have g1 : w2.cell? ⟨R, 1, none⟩ = some (.int .i64 x) := HK2.out.cell 1 rfl
        have g2 : w2.cell? ⟨R, 2, none⟩ = some (.int .i64 0) := HK2.out.cell 2 rfl
        have q1 : w2.frozen? ⟨R, 1, none⟩ = false := HK2.out.free 1
        have q2 : w2.frozen? ⟨R, 2, none⟩ = false := HK2.out.free 2
        clear hnq hbw c0 c1 c2 f1 f2
        go_wp2
        go_ret
        rw [HX2.out]
        exact ⟨rfl, HK2.out.set 2 _, grown_trans HG2.out (grown_set1 _ _ _ _)⟩
      · have HX2 : Hid (F = (n, ⟨(k : Int), 0⟩)) := HF.out.trans (numF_ok rfl HT.out hn)
        have hn' : ¬ (lim : Int) < (n : Int) := by omega
        clear HF
        go_enter Try.func48, Try.ntmps48
        go_wp2
        go_quiet ((go_at_call 55; exact Calls.quiet_of_same (HC.out _)))
        generalize hnq : w.drewN _ = w2
        have hbw : Below w.heap.size w w2 := by rw [← hnq]; exact below_drews (Below.refl _ _) _
        have HG2 : Hid (w.grownBy w2 (some R)) := grown_of_below hbw
        have HK2 : Hid (Rdr w2 R a len cap ⟨x, 0⟩) := Bk.stay HK.out hbw
        have g1 : w2.cell? ⟨R, 1, none⟩ = some (.int .i64 x) := HK2.out.cell 1 rfl
        have g2 : w2.cell? ⟨R, 2, none⟩ = some (.int .i64 0) := HK2.out.cell 2 rfl
        have q1 : w2.frozen? ⟨R, 1, none⟩ = false := HK2.out.free 1
        have q2 : w2.frozen? ⟨R, 2, none⟩ = false := HK2.out.free 2
        clear hnq hbw c0 c1 c2 f1 f2
        go_wp2
        go_ret
        rw [HX2.out]
        exact ⟨rfl, HK2.out.set 1 _, grown_trans HG2.out (grown_set1 _ _ _ _)⟩
    · have HX2 : Hid (F = (0, ⟨x, (e : Int)⟩)) := HF.out.trans (numF_bad rfl HT.out he)
      have he' : ((e : Int) == 0) = false := by rw [beq_eq_false_iff_ne]; omega
      have he2 : ¬ (e : Int) = 0 := by omega
      clear HF
      go_enter Try.func48, Try.ntmps48
      go_wp2
      go_quiet ((go_at_call 55; exact Calls.quiet_of_same (HC.out _)))
      generalize hnq : w.drewN _ = w2
      have hbw : Below w.heap.size w w2 := by rw [← hnq]; exact below_drews (Below.refl _ _) _
      have HG2 : Hid (w.grownBy w2 (some R)) := grown_of_below hbw
      have HK2 : Hid (Rdr w2 R a len cap ⟨x, 0⟩) := Bk.stay HK.out hbw
      have g1 : w2.cell? ⟨R, 1, none⟩ = some (.int .i64 x) := HK2.out.cell 1 rfl
      have g2 : w2.cell? ⟨R, 2, none⟩ = some (.int .i64 0) := HK2.out.cell 2 rfl
      have q1 : w2.frozen? ⟨R, 1, none⟩ = false := HK2.out.free 1
      have q2 : w2.frozen? ⟨R, 2, none⟩ = false := HK2.out.free 2
      clear hnq hbw c0 c1 c2 f1 f2
      go_wp2
      go_ret
      rw [HX2.out]
      exact ⟨rfl, HK2.out.set 2 _, grown_trans HG2.out (grown_set1 _ _ _ _)⟩
  · have HX2 : Hid (F = (0, ⟨x, t⟩)) := HF.out.trans (numF_no ht)
    have ht' : (t == 0) = false := by simpa using ht
    clear HF
    go_enter Try.func48, Try.ntmps48
    go_wp2
    go_ret
    rw [HX2.out]
    exact ⟨rfl, HK.out, grown_refl _ _⟩
end Go.Proofs.Ytjpkhefegpbooaa
