/- A pack of texts: PtM Pt2 Pt3 Pt4. -/
import Derived.Test.YtbloomepdchjhaaDoorSpanP
import Derived.Test.YtbloomepdchjhaaDoorSpT
import Derived.BigQuiet
import Derived.Test.YtbloomepdchjhaaDoorSealP
import Derived.Test.YtbloomepdchjhaaDoorLebP
import Derived.Deep.RegionHeld3
import Derived.Test.YtbloomepdchjhaaDoorLkA
/- parcel's reader: what it tells, as functions. -/
namespace Go.Proofs.YtbloomepdchjhaaDoor
open Go.RowKit

theorem take_small (bs : List Nat) (x : Int) (hb : ∀ y ∈ bs, y < 256) : (Leb.take bs x).1 < 18446744073709551616 ∧ ((Leb.take bs x).2.2 ≠ 0 → (Leb.take bs x).1 = 0 ∧ (Leb.take bs x).2.1 = 0) := by
  rcases h : Leb.take bs x with ⟨n, k, e⟩
  by_cases he : e = 0
  · subst he
    obtain ⟨p, _, _, _, hn, _⟩ := Leb.take_once bs x hb n k h
    exact ⟨hn, fun h => absurd rfl h⟩
  · have hz : n = 0 ∧ k = 0 := by
      unfold Leb.take at h
      split at h
      · simp only [Prod.mk.injEq] at h; omega
      · have ht := Leb.tk_zero (bs.drop x.toNat) 0 0
        rcases htk : Leb.tk 0 0 (bs.drop x.toNat) with ⟨a, u, f⟩
        rw [htk] at h ht
        simp only [Leb.fin, Prod.mk.injEq] at h
        obtain ⟨rfl, hk, rfl⟩ := h
        have := ht he
        rw [if_neg he] at hk
        exact ⟨this, hk.symm⟩
    exact ⟨by omega, fun _ => hz⟩
/-- Where a reader stands, and its fault. -/
structure Rs where
  at_ : Int
  ft : Int
def numF (bs : List Nat) (lim : Nat) (s : Rs) : Nat × Rs :=
  if s.ft = 0 then (if (Leb.take bs s.at_).2.2 ≠ 0 then (0, ⟨s.at_, ((Leb.take bs s.at_).2.2 : Int)⟩) else if lim < (Leb.take bs s.at_).1 then (0, ⟨s.at_, 6⟩) else ((Leb.take bs s.at_).1, ⟨((Leb.take bs s.at_).2.1 : Int), 0⟩)) else (0, s)
def spF (bs : List Nat) (s : Rs) : List Sp × Rs := if s.ft = 0 then ((takeM bs s.at_).1, ⟨(takeM bs s.at_).2.1, (takeM bs s.at_).2.2⟩) else ([], s)
def byF (bs : List Nat) (c : Nat) (s : Rs) : List Nat × Rs :=
  if s.ft = 0 then (if (bs.length : Int) - s.at_ < c then ([], ⟨s.at_, 3⟩) else ((bs.drop s.at_.toNat).take c, ⟨s.at_ + c, 0⟩)) else ([], s)
def itF (bs : List Nat) (s : Rs) : It × Rs :=
  let x := numF bs 1099511627776 s
  let y := numF bs 4294967295 x.2
  let z := numF bs 400 y.2
  let b := byF bs z.1 z.2
  (⟨x.1, y.1, b.1⟩, b.2)
def itsF (bs : List Nat) : Nat → List It → Rs → List It × Rs
  | 0, acc, s => (acc, s)
  | k + 1, acc, s => itsF bs k (acc ++ [(itF bs s).1]) (itF bs s).2
def itemsF (bs : List Nat) (s : Rs) : List It × Rs := itsF bs (numF bs 8 s).1 [] (numF bs 8 s).2
/-- A reader that has no fault stands within its bytes. -/
def Rs.fine (s : Rs) (bs : List Nat) : Prop := s.ft = 0 → 0 ≤ s.at_ ∧ s.at_ ≤ bs.length

/-- A reader in memory. -/
def Rdr (w : World) (R : Nat) (a : Option Addr) (len cap : Nat) (s : Rs) : Prop := Bk w R #[.slice a len cap, .int .i64 s.at_, .int .i64 s.ft] 121
theorem Rd.grown {w w' : World} {a : Option Addr} {len : Nat} {bs : List Nat} {R : Nat} {b : Option Addr} {l c : Nat} {s : Rs} (h : Rd w a len bs) (hk : Rdr w R b l c s) (hg : w.grownBy w' (some R)) : Rd w' a len bs := by
  refine ⟨h.size, h.byte, ?_⟩
  rcases h.cells with h0 | ⟨g, off, ha, hgs, hc⟩
  · exact .inl h0
  · refine .inr ⟨g, off, ha, Nat.lt_of_lt_of_le hgs hg.size, fun i hi => ?_⟩
    refine hg.cell (hc i hi) ?_
    intro e
    simp only [Option.some.injEq] at e
    subst e
    have h1 := hc i hi
    rw [cell_of_row w g (off + i) _ _ _ hk] at h1
    rcases Nat.lt_or_ge (off + i) 3 with h3 | h3
    · rcases (show off + i = 0 ∨ off + i = 1 ∨ off + i = 2 from by omega) with h4 | h4 | h4 <;> (rw [h4] at h1; simp at h1)
    · rw [Array.getElem?_eq_none (by simpa using h3)] at h1
      cases h1
theorem numF_no {bs : List Nat} {lim : Nat} {s : Rs} (h : s.ft ≠ 0) : numF bs lim s = (0, s) := if_neg h
theorem numF_bad {bs : List Nat} {lim : Nat} {s : Rs} {n k e : Nat} (h : s.ft = 0) (ht : Leb.take bs s.at_ = (n, k, e)) (he : e ≠ 0) : numF bs lim s = (0, ⟨s.at_, (e : Int)⟩) := by
  rw [numF, if_pos h, ht, if_pos he]
theorem numF_lim {bs : List Nat} {lim : Nat} {s : Rs} {n k : Nat} (h : s.ft = 0) (ht : Leb.take bs s.at_ = (n, k, 0)) (hn : lim < n) : numF bs lim s = (0, ⟨s.at_, 6⟩) := by
  rw [numF, if_pos h, ht, if_neg (by simp), if_pos hn]
theorem numF_ok {bs : List Nat} {lim : Nat} {s : Rs} {n k : Nat} (h : s.ft = 0) (ht : Leb.take bs s.at_ = (n, k, 0)) (hn : ¬ lim < n) : numF bs lim s = (n, ⟨(k : Int), 0⟩) := by
  rw [numF, if_pos h, ht, if_neg (by simp), if_neg hn]
theorem grown_refl (w : World) (row : Option Nat) : w.grownBy w row := ⟨rfl, rfl, rfl, Nat.le_refl _, fun _ _ _ => rfl⟩
theorem grown_set1 (w : World) (R i : Nat) (v : Value) : w.grownBy (w.setCell ⟨R, i, none⟩ v) (some R) := by
  have h0 : Below 0 w (w.setCell ⟨R, i, none⟩ v) := (Below.refl 0 w).setCell (Nat.zero_le _) v
  exact ⟨h0.os, h0.tape, h0.output, h0.size, fun k hk hn => heap_setCell_other w ⟨R, i, none⟩ k v (fun e => hn (by rw [e]))⟩
theorem grown_trans {w w1 w2 : World} {row : Option Nat} (h : w.grownBy w1 row) (h2 : w1.grownBy w2 row) : w.grownBy w2 row :=
  ⟨h2.os.trans h.os, h2.tape.trans h.tape, h2.output.trans h.output, Nat.le_trans h.size h2.size, fun k hk hn => (h2.block k (Nat.lt_of_lt_of_le hk h.size) hn).trans (h.block k hk hn)⟩
theorem grown_of_below {w w' : World} {row : Option Nat} (hb : Below w.heap.size w w') : w.grownBy w' row := ⟨hb.os, hb.tape, hb.output, hb.size, fun k hk _ => hb.block k hk⟩
theorem grown_drews {w w' : World} {row : Option Nat} (h : w.grownBy w' row) (n : Nat) : w.grownBy (w'.drewN n) row := grown_trans h (grown_of_below (below_drews (Below.refl _ _) n))

set_option maxRecDepth 100000 in
set_option maxHeartbeats 4000000 in
theorem rd_number (R : Nat) (a : Option Addr) (len cap : Nat) (bs : List Nat) (s : Rs) (lim : Nat) (w : World) (hk : Rdr w R a len cap s) (hr : Rd w a len bs) (hl : len ≤ 140737488351232) (hx : s.fine bs) (hm : lim ≤ 1099511627776) :
    Calls Tryd.prog 64 #[.pointer (some ⟨R, 0, none⟩), .int .u64 (lim : Int)] w fun e w' => e = .returned (.int .i64 ((numF bs lim s).1 : Int)) ∧ Hid (Rdr w' R a len cap (numF bs lim s).2) ∧ w.grownBy w' (some R) := by
  have HR : Hid (Rd w a len bs) := hr
  have HK : Hid (Rdr w R a len cap s) := hk
  have HX : Hid (s.fine bs) := hx
  have HSZ : Hid (bs.length = len) := hr.size
  obtain ⟨F, HF⟩ : ∃ F, Hid (F = numF bs lim s) := ⟨_, rfl⟩
  rw [← HF.out]
  obtain ⟨x, t⟩ := s
  have c0 : w.cell? ⟨R, 0, none⟩ = some (.slice a len cap) := hk.cell 0 rfl
  have c1 : w.cell? ⟨R, 1, none⟩ = some (.int .i64 x) := hk.cell 1 rfl
  have c2 : w.cell? ⟨R, 2, none⟩ = some (.int .i64 t) := hk.cell 2 rfl
  have f1 : w.frozen? ⟨R, 1, none⟩ = false := hk.free 1
  have f2 : w.frozen? ⟨R, 2, none⟩ = false := hk.free 2
  clear hr hk hx
  by_cases ht : t = 0
  · subst ht
    have HXX : Hid (0 ≤ x ∧ x ≤ len) := by have h := HX.out rfl; simp only at h; rw [HSZ.out] at h; exact h
    obtain ⟨n, k, e, hT⟩ : ∃ n k e, Leb.take bs x = (n, k, e) := ⟨_, _, _, rfl⟩
    have HT : Hid (Leb.take bs x = (n, k, e)) := hT
    have hsm := take_small bs x HR.out.byte
    rw [hT] at hsm
    have HC : Hid (∀ m, Calls Tryd.prog 54 #[.slice a len cap, .int .i64 x] (w.drewN m) fun e' w' => e' = .returned (.tuple #[.int .u64 (n : Int), .int .i64 (k : Int), .int .i64 (e : Int)]) ∧ w' = w.drewN m) := fun m => by
      have h := octet_TakeUint a len cap bs x (w.drewN m) (HR.out.below (below_drews (Below.refl _ _) m)) (by omega) (by have := HXX.out; omega)
      rw [hT] at h
      exact h
    clear hT
    by_cases he : e = 0
    · subst he
      by_cases hn : lim < n
      · have HX2 : Hid (F = (0, ⟨x, 6⟩)) := HF.out.trans (numF_lim rfl HT.out hn)
        have hn' : (lim : Int) < (n : Int) := by omega
        clear HF
        go_enter Tryd.func64, Tryd.ntmps64
        go_wp2
        go_quiet ((go_at_call 54; exact Calls.quiet_of_same (HC.out _)))
        generalize hnq : w.drewN _ = w2
        have hbw : Below w.heap.size w w2 := by rw [← hnq]; exact below_drews (Below.refl _ _) _
        have HG2 : Hid (w.grownBy w2 (some R)) := grown_of_below hbw
        have HK2 : Hid (Rdr w2 R a len cap ⟨x, 0⟩) := Bk.stay HK.out hbw
        have g1 : w2.cell? ⟨R, 1, none⟩ = some (.int .i64 x) := HK2.out.cell 1 rfl
        have g2 : w2.cell? ⟨R, 2, none⟩ = some (.int .i64 0) := HK2.out.cell 2 rfl
        have q1 : w2.frozen? ⟨R, 1, none⟩ = false := HK2.out.free 1
        have q2 : w2.frozen? ⟨R, 2, none⟩ = false := HK2.out.free 2
        clear hnq hbw c0 c1 c2 f1 f2
        go_wp2
        go_ret
        rw [HX2.out]
        exact ⟨rfl, HK2.out.set 2 _, grown_trans HG2.out (grown_set1 _ _ _ _)⟩
      · have HX2 : Hid (F = (n, ⟨(k : Int), 0⟩)) := HF.out.trans (numF_ok rfl HT.out hn)
        have hn' : ¬ (lim : Int) < (n : Int) := by omega
        clear HF
        go_enter Tryd.func64, Tryd.ntmps64
        go_wp2
        go_quiet ((go_at_call 54; exact Calls.quiet_of_same (HC.out _)))
        generalize hnq : w.drewN _ = w2
        have hbw : Below w.heap.size w w2 := by rw [← hnq]; exact below_drews (Below.refl _ _) _
        have HG2 : Hid (w.grownBy w2 (some R)) := grown_of_below hbw
        have HK2 : Hid (Rdr w2 R a len cap ⟨x, 0⟩) := Bk.stay HK.out hbw
        have g1 : w2.cell? ⟨R, 1, none⟩ = some (.int .i64 x) := HK2.out.cell 1 rfl
        have g2 : w2.cell? ⟨R, 2, none⟩ = some (.int .i64 0) := HK2.out.cell 2 rfl
        have q1 : w2.frozen? ⟨R, 1, none⟩ = false := HK2.out.free 1
        have q2 : w2.frozen? ⟨R, 2, none⟩ = false := HK2.out.free 2
        clear hnq hbw c0 c1 c2 f1 f2
        go_wp2
        go_ret
        rw [HX2.out]
        exact ⟨rfl, HK2.out.set 1 _, grown_trans HG2.out (grown_set1 _ _ _ _)⟩
    · have HX2 : Hid (F = (0, ⟨x, (e : Int)⟩)) := HF.out.trans (numF_bad rfl HT.out he)
      have he' : ((e : Int) == 0) = false := by rw [beq_eq_false_iff_ne]; omega
      have he2 : ¬ (e : Int) = 0 := by omega
      clear HF
      go_enter Tryd.func64, Tryd.ntmps64
      go_wp2
      go_quiet ((go_at_call 54; exact Calls.quiet_of_same (HC.out _)))
      generalize hnq : w.drewN _ = w2
      have hbw : Below w.heap.size w w2 := by rw [← hnq]; exact below_drews (Below.refl _ _) _
      have HG2 : Hid (w.grownBy w2 (some R)) := grown_of_below hbw
      have HK2 : Hid (Rdr w2 R a len cap ⟨x, 0⟩) := Bk.stay HK.out hbw
      have g1 : w2.cell? ⟨R, 1, none⟩ = some (.int .i64 x) := HK2.out.cell 1 rfl
      have g2 : w2.cell? ⟨R, 2, none⟩ = some (.int .i64 0) := HK2.out.cell 2 rfl
      have q1 : w2.frozen? ⟨R, 1, none⟩ = false := HK2.out.free 1
      have q2 : w2.frozen? ⟨R, 2, none⟩ = false := HK2.out.free 2
      clear hnq hbw c0 c1 c2 f1 f2
      go_wp2
      go_ret
      rw [HX2.out]
      exact ⟨rfl, HK2.out.set 2 _, grown_trans HG2.out (grown_set1 _ _ _ _)⟩
  · have HX2 : Hid (F = (0, ⟨x, t⟩)) := HF.out.trans (numF_no ht)
    have ht' : (t == 0) = false := by simpa using ht
    clear HF
    go_enter Tryd.func64, Tryd.ntmps64
    go_wp2
    go_ret
    rw [HX2.out]
    exact ⟨rfl, HK.out, grown_refl _ _⟩
end Go.Proofs.YtbloomepdchjhaaDoor
/- parcel's reader: spans, bytes, end; bytes.Clone. -/
namespace Go.Proofs.YtbloomepdchjhaaDoor
open Go.RowKit

theorem spF_no {bs : List Nat} {s : Rs} (h : s.ft ≠ 0) : spF bs s = ([], s) := if_neg h
theorem spF_ok {bs : List Nat} {s : Rs} (h : s.ft = 0) : spF bs s = ((takeM bs s.at_).1, ⟨(takeM bs s.at_).2.1, (takeM bs s.at_).2.2⟩) := if_pos h

set_option maxRecDepth 100000 in
set_option maxHeartbeats 4000000 in
theorem rd_spans (R : Nat) (a : Option Addr) (len cap : Nat) (bs : List Nat) (s : Rs) (w : World) (hk : Rdr w R a len cap s) (hr : Rd w a len bs) (hl : len ≤ 140737488351232) (hx : s.fine bs) :
    Calls Tryd.prog 65 #[.pointer (some ⟨R, 0, none⟩)] w fun e w' => (∃ v, e = .returned v ∧ Hid (Sps w' w.heap.size v (spF bs s).1)) ∧ Hid (Rdr w' R a len cap (spF bs s).2) ∧ w.grownBy w' (some R) := by
  have HR : Hid (Rd w a len bs) := hr
  have HK : Hid (Rdr w R a len cap s) := hk
  have HX : Hid (s.fine bs) := hx
  have HSZ : Hid (bs.length = len) := hr.size
  obtain ⟨F, HF⟩ : ∃ F, Hid (F = spF bs s) := ⟨_, rfl⟩
  rw [← HF.out]
  obtain ⟨x, t⟩ := s
  have c0 : w.cell? ⟨R, 0, none⟩ = some (.slice a len cap) := hk.cell 0 rfl
  have c1 : w.cell? ⟨R, 1, none⟩ = some (.int .i64 x) := hk.cell 1 rfl
  have c2 : w.cell? ⟨R, 2, none⟩ = some (.int .i64 t) := hk.cell 2 rfl
  clear hr hk hx
  by_cases ht : t = 0
  · subst ht
    have HXX : Hid (0 ≤ x ∧ x ≤ len) := by have h := HX.out rfl; simp only at h; rw [HSZ.out] at h; exact h
    obtain ⟨l, y, f, hT⟩ : ∃ l y f, takeM bs x = (l, y, f) := ⟨_, _, _, rfl⟩
    have HX2 : Hid (F = (l, ⟨y, f⟩)) := by show _ = _; rw [HF.out, spF_ok rfl]; simp only [hT]
    have HC : Hid (∀ w', Below w.heap.size w w' → Calls Tryd.prog 70 #[.slice a len cap, .int .i64 x] w' fun e w'' => Hid (TakeTold w'' w'.heap.size (l, y, f) e) ∧ Below w'.heap.size w' w'') := fun w' hb => by
      have h := span_Take a len cap bs x w' (HR.out.below hb) (by omega) (by have := HXX.out; omega)
      rw [hT] at h
      exact h
    have HSK : Hid (∀ w', Below w.heap.size w w' → w'.cell? ⟨R, 0, none⟩ = some (.slice a len cap) ∧ w'.cell? ⟨R, 1, none⟩ = some (.int .i64 x)) := fun w' hb => ⟨(Bk.stay HK.out hb).cell 0 rfl, (Bk.stay HK.out hb).cell 1 rfl⟩
    clear hT HF
    have HLT : Hid (R < w.heap.size) := Bk.lt HK.out
    go_enter Tryd.func65, Tryd.ntmps65
    go_wp2
    have HBN : Hid (Below w.heap.size w w.drew) := (Below.refl _ _).drew
    go_region_held3 (fun w' => w'.cell? ⟨R, 0, none⟩ = some (.slice a len cap) ∧ w'.cell? ⟨R, 1, none⟩ = some (.int .i64 x)) (first | exact HSK.out _ HBN.out | exact HSK.out _ (Below.refl _ _) | fail)
      (first
        | (go_at_call 70; refine (HC.out _ HBN.out).mono ?_; rintro e w2 ⟨htk, hb2⟩; obtain ⟨v, he2, hs2⟩ := htk.out; subst he2; have HV : Hid (Sps w2 w.heap.size v l) := hs2; have HB2 : Hid (Below w.heap.size w w2) := HBN.out.trans hb2; clear HBN; have HBN := HB2; clear hb2 htk hs2))
    have HK2 : Hid (Rdr w2 R a len cap ⟨x, 0⟩) := Bk.stay HK.out HB2.out
    have g1 : w2.cell? ⟨R, 1, none⟩ = some (.int .i64 x) := HK2.out.cell 1 rfl
    have g2 : w2.cell? ⟨R, 2, none⟩ = some (.int .i64 0) := HK2.out.cell 2 rfl
    have q1 : w2.frozen? ⟨R, 1, none⟩ = false := HK2.out.free 1
    have q2 : w2.frozen? ⟨R, 2, none⟩ = false := HK2.out.free 2
    clear HBN c0 c1 c2 HSK HC
    go_wp2
    go_ret
    rw [HX2.out]
    refine ⟨⟨v, rfl, ?_⟩, (HK2.out.set 1 _).set 2 _, grown_trans (grown_of_below HB2.out) (grown_trans (grown_set1 _ _ _ _) (grown_set1 _ _ _ _))⟩
    exact (HV.out.under _ _ HLT.out).under _ _ HLT.out
  · have HX2 : Hid (F = ([], ⟨x, t⟩)) := HF.out.trans (spF_no ht)
    have ht' : (t == 0) = false := by simpa using ht
    clear HF
    go_enter Tryd.func65, Tryd.ntmps65
    go_wp2
    go_ret
    rw [HX2.out]
    exact ⟨⟨_, rfl, Sps.nil_ _ _⟩, HK.out, grown_refl _ _⟩

set_option maxRecDepth 100000 in
theorem bytes_Clone (a : Option Addr) (n c : Nat) (bs : List Nat) (w : World) (hr : Rd w a n bs) (hn : a = none → c = 0) (hl : n ≤ 140737488351232) :
    Calls Tryd.prog 73 #[.slice a n c] w fun e w' => ∃ a' c', e = .returned (.slice a' n c') ∧ Own w' w.heap.size a' n c' bs ∧ Below w.heap.size w w' := by
  have HR : Hid (Rd w a n bs) := hr
  cases a with
  | none =>
    have hc := hn rfl
    have hz : n = 0 := by
      rcases hr.cells with h0 | ⟨_, _, h, _⟩
      · exact h0
      · cases h
    have HB : Hid (bs = []) := List.eq_nil_of_length_eq_zero (by rw [hr.size]; exact hz)
    subst hc hz
    have hq : ∀ W : World, (binOp .eql 42 (.slice none 0 0) (.slice none 0 0)).run Tryd.prog W = .ok (.bool true) W := fun W => by
      simp only [binOp]
      rw [Sem.run_bind, run_equal_slice_nil W _ _ _ _ _ Tryd.underlying42]
      rfl
    clear hr hn
    go_enter Tryd.func73, Tryd.ntmps73
    go_wp2
    go_ret
    rw [HB.out]
    exact ⟨none, 0, rfl, Own.none_ _ _, Below.refl _ _⟩
  | some ad =>
    have hq : ∀ W : World, (binOp .eql 42 (.slice (some ad) n c) (.slice none 0 0)).run Tryd.prog W = .ok (.bool false) W := fun W => by
      simp only [binOp]
      rw [Sem.run_bind, run_equal_slice_nil W _ _ _ _ _ Tryd.underlying42]
      rfl
    clear hr hn
    go_enter Tryd.func73, Tryd.ntmps73
    go_wp2_with (at_builtin; refine wpList_append_rd rfl (.tmp 5) (.tmp 6) rfl w.heap.size (some ⟨w.heap.size, 0, none⟩) 0 0 [] rfl (Own.empty w) (some ad) n c bs rfl (HR.out.below (below_new _ _)) (by simp) (by omega) (by simp) ?_)
    intro a5 c5 w5 ho5 hg5 hb5
    have HO5 : Hid (Own w5 w.heap.size a5 n c5 bs) := by
      show Own _ _ _ _ _ _
      simpa using ho5
    have HB5 : Hid (Below w.heap.size w w5) := (below_new w (.cells #[] 5)).trans hb5
    clear ho5 hg5 hb5
    go_wp2
    go_ret
    refine ⟨a5, c5, ?_, HO5.out, HB5.out⟩
    simp

theorem Rd.part {w : World} {b off len : Nat} {bs : List Nat} (hr : Rd w (some ⟨b, off, none⟩) len bs) (p n off' : Nat) (hpn : p + n ≤ len) (ho : n = 0 ∨ off' = off + p) : Rd w (some ⟨b, off', none⟩) n ((bs.drop p).take n) := by
  refine ⟨by rw [List.length_take, List.length_drop, hr.size]; omega, fun y hy => hr.byte y (List.mem_of_mem_drop (List.mem_of_mem_take hy)), ?_⟩
  by_cases hn : n = 0
  · exact .inl hn
  · obtain rfl : off' = off + p := by omega
    rcases hr.cells with h0 | ⟨b', off'', he, hblt, hc⟩
    · omega
    · cases he
      refine .inr ⟨b, off + p, rfl, hblt, fun i hi => ?_⟩
      rw [Nat.add_assoc, hc (p + i) (by omega)]
      simp only [List.getD_eq_getElem?_getD, List.getElem?_take_of_lt hi, List.getElem?_drop]

set_option maxRecDepth 100000 in
set_option maxHeartbeats 4000000 in
theorem rd_end (R : Nat) (a : Option Addr) (len cap : Nat) (bs : List Nat) (s : Rs) (w : World) (hk : Rdr w R a len cap s) (hr : Rd w a len bs) :
    Calls Tryd.prog 56 #[.pointer (some ⟨R, 0, none⟩)] w fun e w' => e = .returned (.int .i64 (if s.ft = 0 ∧ s.at_ ≠ bs.length then 4 else s.ft)) ∧ ∃ m, w' = w.drewN m := by
  have HSZ : Hid (bs.length = len) := hr.size
  obtain ⟨b, HF⟩ : ∃ b, Hid (b = if s.ft = 0 ∧ s.at_ ≠ bs.length then 4 else s.ft) := ⟨_, rfl⟩
  rw [← HF.out]
  obtain ⟨x, t⟩ := s
  have c0 : w.cell? ⟨R, 0, none⟩ = some (.slice a len cap) := hk.cell 0 rfl
  have c1 : w.cell? ⟨R, 1, none⟩ = some (.int .i64 x) := hk.cell 1 rfl
  have c2 : w.cell? ⟨R, 2, none⟩ = some (.int .i64 t) := hk.cell 2 rfl
  have HK : Hid (Rdr w R a len cap ⟨x, t⟩) := hk
  clear hr hk
  by_cases ht : t = 0
  · subst ht
    by_cases hx : x = (len : Int)
    · have HX : Hid (b = 0) := by show _ = _; rw [HF.out, if_neg (by simp only; rw [HSZ.out]; simp [hx])]
      have hx' : (x == (len : Int)) = true := by simpa using hx
      clear HF
      subst hx
      go_enter Tryd.func56, Tryd.ntmps56
      go_wp2
      go_quiet (fail)
      go_wp2
      go_ret
      exact ⟨by rw [HX.out]; rfl, _, rfl⟩
    · have HX : Hid (b = 4) := by show _ = _; rw [HF.out, if_pos ⟨rfl, by simp only; rw [HSZ.out]; exact hx⟩]
      have hx' : (x == (len : Int)) = false := by simpa using hx
      have hx2 : (x != (len : Int)) = true := by simpa using hx
      clear HF
      go_enter Tryd.func56, Tryd.ntmps56
      go_wp2
      go_quiet (fail)
      go_wp2
      go_ret
      exact ⟨by rw [HX.out]; rfl, _, rfl⟩
  · have HX : Hid (b = t) := by show _ = _; rw [HF.out, if_neg (fun h => ht h.1)]
    have ht' : (t == 0) = false := by simpa using ht
    clear HF
    go_enter Tryd.func56, Tryd.ntmps56
    go_wp2
    go_quiet (fail)
    generalize hnq : w.drewN _ = w2
    have hbw : Below w.heap.size w w2 := by rw [← hnq]; exact below_drews (Below.refl _ _) _
    have g2 : w2.cell? ⟨R, 2, none⟩ = some (.int .i64 t) := (Bk.stay HK.out hbw).cell 2 rfl
    have HNQ : Hid (∃ m, w2 = w.drewN m) := ⟨_, hnq.symm⟩
    clear hbw hnq c0 c1 c2
    go_wp2
    go_ret
    exact ⟨by rw [HX.out]; rfl, HNQ.out⟩
end Go.Proofs.YtbloomepdchjhaaDoor
/- parcel's reader: bytes. -/
namespace Go.Proofs.YtbloomepdchjhaaDoor
open Go.RowKit

theorem byF_no {bs : List Nat} {c : Nat} {s : Rs} (h : s.ft ≠ 0) : byF bs c s = ([], s) := if_neg h
theorem byF_short {bs : List Nat} {c : Nat} {s : Rs} (h : s.ft = 0) (h2 : (bs.length : Int) - s.at_ < c) : byF bs c s = ([], ⟨s.at_, 3⟩) := by rw [byF, if_pos h, if_pos h2]
theorem byF_ok {bs : List Nat} {c : Nat} {s : Rs} (h : s.ft = 0) (h2 : ¬ (bs.length : Int) - s.at_ < c) : byF bs c s = ((bs.drop s.at_.toNat).take c, ⟨s.at_ + c, 0⟩) := by rw [byF, if_pos h, if_neg h2]

set_option maxRecDepth 100000 in
set_option maxHeartbeats 4000000 in
theorem rd_bytes (R g o len cap : Nat) (bs : List Nat) (s : Rs) (c : Nat) (w : World) (hk : Rdr w R (some ⟨g, o, none⟩) len cap s) (hr : Rd w (some ⟨g, o, none⟩) len bs) (hlc : len ≤ cap) (hl : len ≤ 140737488351232) (hx : s.fine bs) (hc : c ≤ 400) :
    Calls Tryd.prog 71 #[.pointer (some ⟨R, 0, none⟩), .int .i64 (c : Int)] w fun e w' => (∃ a' n' c', e = .returned (.slice a' n' c') ∧ Hid (Own w' w.heap.size a' n' c' (byF bs c s).1)) ∧ Hid (Rdr w' R (some ⟨g, o, none⟩) len cap (byF bs c s).2) ∧ w.grownBy w' (some R) := by
  have HR : Hid (Rd w (some ⟨g, o, none⟩) len bs) := hr
  have HK : Hid (Rdr w R (some ⟨g, o, none⟩) len cap s) := hk
  have HX : Hid (s.fine bs) := hx
  have HSZ : Hid (bs.length = len) := hr.size
  obtain ⟨F, HF⟩ : ∃ F, Hid (F = byF bs c s) := ⟨_, rfl⟩
  rw [← HF.out]
  obtain ⟨x, t⟩ := s
  have c0 : w.cell? ⟨R, 0, none⟩ = some (.slice (some ⟨g, o, none⟩) len cap) := hk.cell 0 rfl
  have c1 : w.cell? ⟨R, 1, none⟩ = some (.int .i64 x) := hk.cell 1 rfl
  have c2 : w.cell? ⟨R, 2, none⟩ = some (.int .i64 t) := hk.cell 2 rfl
  clear hr hk hx
  by_cases ht : t = 0
  · subst ht
    obtain ⟨hx0, hx1⟩ : 0 ≤ x ∧ x ≤ len := by have h := HX.out rfl; simp only at h; rw [HSZ.out] at h; exact h
    obtain ⟨p, rfl⟩ := Int.eq_ofNat_of_zero_le hx0
    have hp : p ≤ len := by omega
    by_cases hs : len - p < c
    · have HX2 : Hid (F = ([], ⟨(p : Int), 3⟩)) := HF.out.trans (byF_short rfl (by simp only; rw [HSZ.out]; omega))
      have hs' : (len : Int) - (p : Int) < (c : Int) := by omega
      clear HF
      go_enter Tryd.func71, Tryd.ntmps71
      go_wp2
      go_quiet (fail)
      generalize hnq : w.drewN _ = w2
      have hbw : Below w.heap.size w w2 := by rw [← hnq]; exact below_drews (Below.refl _ _) _
      have HG2 : Hid (w.grownBy w2 (some R)) := grown_of_below hbw
      have HK2 : Hid (Rdr w2 R (some ⟨g, o, none⟩) len cap ⟨(p : Int), 0⟩) := Bk.stay HK.out hbw
      have g2 : w2.cell? ⟨R, 2, none⟩ = some (.int .i64 0) := HK2.out.cell 2 rfl
      have q2 : w2.frozen? ⟨R, 2, none⟩ = false := HK2.out.free 2
      clear hnq hbw c0 c1 c2
      go_wp2
      go_ret
      rw [HX2.out]
      exact ⟨⟨none, 0, 0, rfl, Own.none_ _ _⟩, HK2.out.set 2 _, grown_trans HG2.out (grown_set1 _ _ _ _)⟩
    · have HX2 : Hid (F = ((bs.drop p).take c, ⟨((p + c : Nat) : Int), 0⟩)) := by
        show _ = _
        rw [HF.out, byF_ok rfl (by simp only; rw [HSZ.out]; omega)]
        simp
      have hs' : ¬ (len : Int) - (p : Int) < (c : Int) := by omega
      obtain ⟨q, hq⟩ : ∃ q, q = p + c := ⟨_, rfl⟩
      have HQ : Hid (q = p + c) := hq
      have hpc : q ≤ len := by omega
      have hpq : p ≤ q := by omega
      rw [← hq] at HX2
      clear HF
      go_enter Tryd.func71, Tryd.ntmps71
      go_wp2
      go_quiet (fail)
      generalize hnq : w.drewN _ = w2
      have hbw : Below w.heap.size w w2 := by rw [← hnq]; exact below_drews (Below.refl _ _) _
      have HG2 : Hid (w.grownBy w2 (some R)) := grown_of_below hbw
      have HK2 : Hid (Rdr w2 R (some ⟨g, o, none⟩) len cap ⟨(p : Int), 0⟩) := Bk.stay HK.out hbw
      have g0 : w2.cell? ⟨R, 0, none⟩ = some (.slice (some ⟨g, o, none⟩) len cap) := HK2.out.cell 0 rfl
      have g1 : w2.cell? ⟨R, 1, none⟩ = some (.int .i64 (p : Int)) := HK2.out.cell 1 rfl
      have q1 : w2.frozen? ⟨R, 1, none⟩ = false := HK2.out.free 1
      have HR2 : Hid (Rd w2 (some ⟨g, o, none⟩) len bs) := HR.out.below hbw
      clear hnq hbw c0 c1 c2
      go_wp2
      rw [show (p : Int) + (c : Int) = (q : Int) from by omega]
      clear hq
      obtain ⟨w3, HW3⟩ : ∃ w3, Hid (w3 = w2.setCell ⟨R, 1, none⟩ (.int .i64 (q : Int))) := ⟨_, rfl⟩
      rw [← HW3.out]
      have HG3 : Hid (w.grownBy w3 (some R)) := by rw [HW3.out]; exact grown_trans HG2.out (grown_set1 _ _ _ _)
      have HK3 : Hid (Rdr w3 R (some ⟨g, o, none⟩) len cap ⟨(q : Int), 0⟩) := by rw [HW3.out]; exact HK2.out.set 1 _
      have HR3 : Hid (Rd w3 (some ⟨g, o, none⟩) len bs) := by rw [HW3.out]; exact HR2.out.grown HK2.out (grown_set1 _ _ _ _)
      clear g0 g1 q1 HK2 HG2 HR2 HW3
      have HSK : Hid (∀ w', Below w3.heap.size w3 w' → w'.cell? ⟨R, 0, none⟩ = some (.slice (some ⟨g, o, none⟩) len cap) ∧ w'.cell? ⟨R, 1, none⟩ = some (.int .i64 (q : Int))) := fun w' hb => ⟨(Bk.stay HK3.out hb).cell 0 rfl, (Bk.stay HK3.out hb).cell 1 rfl⟩
      have HBN : Hid (Below w3.heap.size w3 w3.drew) := (Below.refl _ _).drew
      have b1 : ((p : Nat) : Int) ≤ (q : Int) := by omega
      have b2 : (q : Int) ≤ (cap : Int) := by omega
      have b3 : (0 : Int) ≤ ((p : Nat) : Int) := by omega
      by_cases hcp : cap = p
      · have e1 : len = p := by omega
        have e2 : len = q := by omega
        have e3 : len = cap := by omega
        have e4 : 0 = c := by have := HQ.out; omega
        clear hcp HQ hpq hpc hlc hp hs hs' hx0 hx1 hc b1 b2 b3
        subst e1 e2 e3 e4
        have b1 : ((len : Nat) : Int) ≤ ((len : Nat) : Int) := Int.le_refl _
        have b3 : (0 : Int) ≤ ((len : Nat) : Int) := by omega
        have HCL : Hid (∀ w', Below w3.heap.size w3 w' → Calls Tryd.prog 73 #[.slice (some ⟨g, o, none⟩) 0 0] w' fun e w'' => ∃ a' c', e = .returned (.slice a' 0 c') ∧ Own w'' w'.heap.size a' 0 c' [] ∧ Below w'.heap.size w' w'') := fun w' hb => bytes_Clone (some ⟨g, o, none⟩) 0 0 [] w' ⟨rfl, by simp, .inl rfl⟩ (fun h => by cases h) (by omega)
        go_region_held3 (fun w' => w'.cell? ⟨R, 0, none⟩ = some (.slice (some ⟨g, o, none⟩) len len) ∧ w'.cell? ⟨R, 1, none⟩ = some (.int .i64 (len : Int))) (first | exact HSK.out _ HBN.out | exact HSK.out _ (Below.refl _ _) | fail)
          (first
            | (go_at_call 73; refine (HCL.out _ HBN.out).mono ?_; rintro e w4 ⟨a4, c4, he4, ho4, hb4⟩; subst he4; have HO4 : Hid (Own w4 w3.heap.size a4 0 c4 []) := ho4; have HB4 : Hid (Below w3.heap.size w3 w4) := HBN.out.trans hb4; clear HBN; have HBN := HB4; clear ho4 hb4))
        clear HCL HSK HBN
        go_wp2
        go_ret
        rw [HX2.out]
        exact ⟨⟨a4, 0, c4, rfl, HO4.out.under HG3.out.size⟩, Bk.stay HK3.out HB4.out, grown_trans HG3.out (grown_of_below HB4.out)⟩
      · have HCL : Hid (∀ w', Below w3.heap.size w3 w' → Calls Tryd.prog 73 #[.slice (some ⟨g, o + p, none⟩) (q - p) (cap - p)] w' fun e w'' => ∃ a' c', e = .returned (.slice a' (q - p) c') ∧ Own w'' w'.heap.size a' (q - p) c' ((bs.drop p).take c) ∧ Below w'.heap.size w' w'') := by
          intro w' hb
          have e2 : q - p = c := by have := HQ.out; omega
          have h2 := Rd.part (HR3.out.below hb) p c (o + p) (by have := HQ.out; omega) (.inr rfl)
          rw [← e2] at h2
          have h3 := bytes_Clone (some ⟨g, o + p, none⟩) (q - p) (cap - p) _ w' h2 (fun h => by cases h) (by omega)
          rw [e2] at h3 ⊢
          exact h3
        go_region_held3 (fun w' => w'.cell? ⟨R, 0, none⟩ = some (.slice (some ⟨g, o, none⟩) len cap) ∧ w'.cell? ⟨R, 1, none⟩ = some (.int .i64 (q : Int))) (first | exact HSK.out _ HBN.out | exact HSK.out _ (Below.refl _ _) | fail)
          (first
            | (go_at_call 73; refine (HCL.out _ HBN.out).mono ?_; rintro e w4 ⟨a4, c4, he4, ho4, hb4⟩; subst he4; have HO4 : Hid (Own w4 w3.heap.size a4 (q - p) c4 ((bs.drop p).take c)) := ho4; have HB4 : Hid (Below w3.heap.size w3 w4) := HBN.out.trans hb4; clear HBN; have HBN := HB4; clear ho4 hb4))
        clear HCL HSK HBN
        go_wp2
        go_ret
        rw [HX2.out]
        exact ⟨⟨a4, q - p, c4, rfl, HO4.out.under HG3.out.size⟩, Bk.stay HK3.out HB4.out, grown_trans HG3.out (grown_of_below HB4.out)⟩
  · have HX2 : Hid (F = ([], ⟨x, t⟩)) := HF.out.trans (byF_no ht)
    have ht' : (t == 0) = false := by simpa using ht
    clear HF
    go_enter Tryd.func71, Tryd.ntmps71
    go_wp2
    go_ret
    rw [HX2.out]
    exact ⟨⟨none, 0, 0, rfl, Own.none_ _ _⟩, HK.out, grown_refl _ _⟩
end Go.Proofs.YtbloomepdchjhaaDoor
/- parcel's reader: items (what they are: ItM). -/
namespace Go.Proofs.YtbloomepdchjhaaDoor
end Go.Proofs.YtbloomepdchjhaaDoor
