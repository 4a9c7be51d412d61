/- parcel's reader: spans, bytes, end; bytes.Clone. -/
import Derived.Test.YtjpkhefegpbooaaPtM
import Derived.Test.YtjpkhefegpbooaaStep
import Derived.Test.YtjpkhefegpbooaaSpPutM
import Derived.Deep.RegionHeld3
namespace Go.Proofs.Ytjpkhefegpbooaa
open Go.RowKit

theorem spF_no {bs : List Nat} {s : Rs} (h : s.ft ≠ 0) : spF bs s = ([], s) := if_neg h
theorem spF_ok {bs : List Nat} {s : Rs} (h : s.ft = 0) : spF bs s = ((takeM bs s.at_).1, ⟨(takeM bs s.at_).2.1, (takeM bs s.at_).2.2⟩) := if_pos h

set_option maxRecDepth 100000 in
set_option maxHeartbeats 4000000 in
theorem rd_spans (R : Nat) (a : Option Addr) (len cap : Nat) (bs : List Nat) (s : Rs) (w : World) (hk : Rdr w R a len cap s) (hr : Rd w a len bs) (hl : len ≤ 140737488351232) (hx : s.fine bs) :
    Calls Try.prog 49 #[.pointer (some ⟨R, 0, none⟩)] w fun e w' => (∃ v, e = .returned v ∧ Hid (Sps w' w.heap.size v (spF bs s).1)) ∧ Hid (Rdr w' R a len cap (spF bs s).2) ∧ w.grownBy w' (some R) := by
  have HR : Hid (Rd w a len bs) := hr
  have HK : Hid (Rdr w R a len cap s) := hk
  have HX : Hid (s.fine bs) := hx
  have HSZ : Hid (bs.length = len) := hr.size
  obtain ⟨F, HF⟩ : ∃ F, Hid (F = spF bs s) := ⟨_, rfl⟩
  rw [← HF.out]
  obtain ⟨x, t⟩ := s
  have c0 : w.cell? ⟨R, 0, none⟩ = some (.slice a len cap) := hk.cell 0 rfl
  have c1 : w.cell? ⟨R, 1, none⟩ = some (.int .i64 x) := hk.cell 1 rfl
  have c2 : w.cell? ⟨R, 2, none⟩ = some (.int .i64 t) := hk.cell 2 rfl
  clear hr hk hx
  by_cases ht : t = 0
  · subst ht
    have HXX : Hid (0 ≤ x ∧ x ≤ len) := by have h := HX.out rfl; simp only at h; rw [HSZ.out] at h; exact h
    obtain ⟨l, y, f, hT⟩ : ∃ l y f, takeM bs x = (l, y, f) := ⟨_, _, _, rfl⟩
    have HX2 : Hid (F = (l, ⟨y, f⟩)) := by show _ = _; rw [HF.out, spF_ok rfl]; simp only [hT]
    have HC : Hid (∀ w', Below w.heap.size w w' → Calls Try.prog 56 #[.slice a len cap, .int .i64 x] w' fun e w'' => Hid (TakeTold w'' w'.heap.size (l, y, f) e) ∧ Below w'.heap.size w' w'') := fun w' hb => by
      have h := span_Take a len cap bs x w' (HR.out.below hb) (by omega) (by have := HXX.out; omega)
      rw [hT] at h
      exact h
    have HSK : Hid (∀ w', Below w.heap.size w w' → w'.cell? ⟨R, 0, none⟩ = some (.slice a len cap) ∧ w'.cell? ⟨R, 1, none⟩ = some (.int .i64 x)) := fun w' hb => ⟨(Bk.stay HK.out hb).cell 0 rfl, (Bk.stay HK.out hb).cell 1 rfl⟩
    clear hT HF
    have HLT : Hid (R < w.heap.size) := Bk.lt HK.out
    go_enter Try.func49, Try.ntmps49
    go_wp2
    have HBN : Hid (Below w.heap.size w w.drew) := (Below.refl _ _).drew
    go_region_held3 (fun w' => w'.cell? ⟨R, 0, none⟩ = some (.slice a len cap) ∧ w'.cell? ⟨R, 1, none⟩ = some (.int .i64 x)) (first | exact HSK.out _ HBN.out | exact HSK.out _ (Below.refl _ _) | fail)
      (first
        | (go_at_call 56; refine (HC.out _ HBN.out).mono ?_; rintro e w2 ⟨htk, hb2⟩; obtain ⟨v, he2, hs2⟩ := htk.out; subst he2; have HV : Hid (Sps w2 w.heap.size v l) := hs2; have HB2 : Hid (Below w.heap.size w w2) := HBN.out.trans hb2; clear HBN; have HBN := HB2; clear hb2 htk hs2))
    have HK2 : Hid (Rdr w2 R a len cap ⟨x, 0⟩) := Bk.stay HK.out HB2.out
    have g1 : w2.cell? ⟨R, 1, none⟩ = some (.int .i64 x) := HK2.out.cell 1 rfl
    have g2 : w2.cell? ⟨R, 2, none⟩ = some (.int .i64 0) := HK2.out.cell 2 rfl
    have q1 : w2.frozen? ⟨R, 1, none⟩ = false := HK2.out.free 1
    have q2 : w2.frozen? ⟨R, 2, none⟩ = false := HK2.out.free 2
    clear HBN c0 c1 c2 HSK HC
    go_wp2
    go_ret
    rw [HX2.out]
    refine ⟨⟨v, rfl, ?_⟩, (HK2.out.set 1 _).set 2 _, grown_trans (grown_of_below HB2.out) (grown_trans (grown_set1 _ _ _ _) (grown_set1 _ _ _ _))⟩
    exact (HV.out.under _ _ HLT.out).under _ _ HLT.out
  · have HX2 : Hid (F = ([], ⟨x, t⟩)) := HF.out.trans (spF_no ht)
    have ht' : (t == 0) = false := by simpa using ht
    clear HF
    go_enter Try.func49, Try.ntmps49
    go_wp2
    go_ret
    rw [HX2.out]
    exact ⟨⟨_, rfl, Sps.nil_ _ _⟩, HK.out, grown_refl _ _⟩

set_option maxRecDepth 100000 in
theorem bytes_Clone (a : Option Addr) (n c : Nat) (bs : List Nat) (w : World) (hr : Rd w a n bs) (hn : a = none → c = 0) (hl : n ≤ 140737488351232) :
    Calls Try.prog 44 #[.slice a n c] w fun e w' => ∃ a' c', e = .returned (.slice a' n c') ∧ Own w' w.heap.size a' n c' bs ∧ Below w.heap.size w w' := by
  have HR : Hid (Rd w a n bs) := hr
  cases a with
  | none =>
    have hc := hn rfl
    have hz : n = 0 := by
      rcases hr.cells with h0 | ⟨_, _, h, _⟩
      · exact h0
      · cases h
    have HB : Hid (bs = []) := List.eq_nil_of_length_eq_zero (by rw [hr.size]; exact hz)
    subst hc hz
    have hq : ∀ W : World, (binOp .eql 34 (.slice none 0 0) (.slice none 0 0)).run Try.prog W = .ok (.bool true) W := fun W => by
      simp only [binOp]
      rw [Sem.run_bind, run_equal_slice_nil W _ _ _ _ _ Try.underlying34]
      rfl
    clear hr hn
    go_enter Try.func44, Try.ntmps44
    go_wp2
    go_ret
    rw [HB.out]
    exact ⟨none, 0, rfl, Own.none_ _ _, Below.refl _ _⟩
  | some ad =>
    have hq : ∀ W : World, (binOp .eql 34 (.slice (some ad) n c) (.slice none 0 0)).run Try.prog W = .ok (.bool false) W := fun W => by
      simp only [binOp]
      rw [Sem.run_bind, run_equal_slice_nil W _ _ _ _ _ Try.underlying34]
      rfl
    clear hr hn
    go_enter Try.func44, Try.ntmps44
    go_wp2_with (at_builtin; refine wpList_append_rd rfl (.tmp 5) (.tmp 6) rfl w.heap.size (some ⟨w.heap.size, 0, none⟩) 0 0 [] rfl (Own.empty w) (some ad) n c bs rfl (HR.out.below (below_new _ _)) (by simp) (by omega) (by simp) ?_)
    intro a5 c5 w5 ho5 hg5 hb5
    have HO5 : Hid (Own w5 w.heap.size a5 n c5 bs) := by
      show Own _ _ _ _ _ _
      simpa using ho5
    have HB5 : Hid (Below w.heap.size w w5) := (below_new w (.cells #[] 5)).trans hb5
    clear ho5 hg5 hb5
    go_wp2
    go_ret
    refine ⟨a5, c5, ?_, HO5.out, HB5.out⟩
    simp

theorem Rd.part {w : World} {b off len : Nat} {bs : List Nat} (hr : Rd w (some ⟨b, off, none⟩) len bs) (p n off' : Nat) (hpn : p + n ≤ len) (ho : n = 0 ∨ off' = off + p) : Rd w (some ⟨b, off', none⟩) n ((bs.drop p).take n) := by
  refine ⟨by rw [List.length_take, List.length_drop, hr.size]; omega, fun y hy => hr.byte y (List.mem_of_mem_drop (List.mem_of_mem_take hy)), ?_⟩
  by_cases hn : n = 0
  · exact .inl hn
  · obtain rfl : off' = off + p := by omega
    rcases hr.cells with h0 | ⟨b', off'', he, hblt, hc⟩
    · omega
    · cases he
      refine .inr ⟨b, off + p, rfl, hblt, fun i hi => ?_⟩
      rw [Nat.add_assoc, hc (p + i) (by omega)]
      simp only [List.getD_eq_getElem?_getD, List.getElem?_take_of_lt hi, List.getElem?_drop]

set_option maxRecDepth 100000 in
set_option maxHeartbeats 4000000 in
theorem rd_end (R : Nat) (a : Option Addr) (len cap : Nat) (bs : List Nat) (s : Rs) (w : World) (hk : Rdr w R a len cap s) (hr : Rd w a len bs) :
    Calls Try.prog 37 #[.pointer (some ⟨R, 0, none⟩)] w fun e w' => e = .returned (.int .i64 (if s.ft = 0 ∧ s.at_ ≠ bs.length then 4 else s.ft)) ∧ ∃ m, w' = w.drewN m := by
  have HSZ : Hid (bs.length = len) := hr.size
  obtain ⟨b, HF⟩ : ∃ b, Hid (b = if s.ft = 0 ∧ s.at_ ≠ bs.length then 4 else s.ft) := ⟨_, rfl⟩
  rw [← HF.out]
  obtain ⟨x, t⟩ := s
  have c0 : w.cell? ⟨R, 0, none⟩ = some (.slice a len cap) := hk.cell 0 rfl
  have c1 : w.cell? ⟨R, 1, none⟩ = some (.int .i64 x) := hk.cell 1 rfl
  have c2 : w.cell? ⟨R, 2, none⟩ = some (.int .i64 t) := hk.cell 2 rfl
  have HK : Hid (Rdr w R a len cap ⟨x, t⟩) := hk
  clear hr hk
  by_cases ht : t = 0
  · subst ht
    by_cases hx : x = (len : Int)
    · have HX : Hid (b = 0) := by show _ = _; rw [HF.out, if_neg (by simp only; rw [HSZ.out]; simp [hx])]
      have hx' : (x == (len : Int)) = true := by simpa using hx
      clear HF
      subst hx
      go_enter Try.func37, Try.ntmps37
      go_wp2
      go_quiet (fail)
      go_wp2
      go_ret
      exact ⟨by rw [HX.out]; rfl, _, rfl⟩
    · have HX : Hid (b = 4) := by show _ = _; rw [HF.out, if_pos ⟨rfl, by simp only; rw [HSZ.out]; exact hx⟩]
      have hx' : (x == (len : Int)) = false := by simpa using hx
      have hx2 : (x != (len : Int)) = true := by simpa using hx
      clear HF
      go_enter Try.func37, Try.ntmps37
      go_wp2
      go_quiet (fail)
      go_wp2
      go_ret
      exact ⟨by rw [HX.out]; rfl, _, rfl⟩
  · have HX : Hid (b = t) := by show _ = _; rw [HF.out, if_neg (fun h => ht h.1)]
    have ht' : (t == 0) = false := by simpa using ht
    clear HF
    go_enter Try.func37, Try.ntmps37
    go_wp2
    go_quiet (fail)
    generalize hnq : w.drewN _ = w2
    have hbw : Below w.heap.size w w2 := by rw [← hnq]; exact below_drews (Below.refl _ _) _
    have g2 : w2.cell? ⟨R, 2, none⟩ = some (.int .i64 t) := (Bk.stay HK.out hbw).cell 2 rfl
    have HNQ : Hid (∃ m, w2 = w.drewN m) := ⟨_, hnq.symm⟩
    clear hbw hnq c0 c1 c2
    go_wp2
    go_ret
    exact ⟨by rw [HX.out]; rfl, HNQ.out⟩
end Go.Proofs.Ytjpkhefegpbooaa
