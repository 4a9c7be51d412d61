/- evlog: release, where nothing is released. -/
import Derived.Test.YtghajmcohdedlabEvL10
namespace Go.Proofs.Ytghajmcohdedlab
open Go.RowKit

theorem rel_one (w : World) (bx : Nat) (t : Nat) (r : Rc) (hb : Blk w bx #[.int .i64 (t : Int)] 3) : Calls Try.prog 48 #[.agg (rcc r).toArray, .pointer (some ⟨bx, 0, none⟩)] w fun e w' => e = .returned (.bool (decide (r.tick ≤ t))) ∧ Below w.heap.size w w' := by
  have HE : Hid (decide ((r.tick : Int) ≤ (t : Int)) = decide (r.tick ≤ t)) := by (show _ = _); rw [decide_eq_decide]; omega
  have k0 : (w.alloc (.cells (rcc r).toArray 47)).cell? ⟨w.heap.size, 0, none⟩ = some (.int .i64 (r.tick : Int)) := (Blk.new w _ _).cell 0 rfl
  have b0 : (w.alloc (.cells (rcc r).toArray 47)).cell? ⟨bx, 0, none⟩ = some (.int .i64 (t : Int)) := (hb.stay (below_alloc _ _)).cell 0 rfl
  have HB : Hid (Below w.heap.size w (w.alloc (.cells (rcc r).toArray 47))) := below_alloc _ _
  unfold rcc at *
  clear hb
  go_enter Try.func48, Try.ntmps48
  go_wp2
  go_returns
  exact ⟨by rw [← HE.out]; simp, HB.out⟩
theorem Rcs.cut {w : World} {base : Nat} {v : Value} {L : List Rc} (h : Rcs w base v L) {i : Nat} {r : Rc} (hr : L[i]? = some r) : ∃ gr c, v = .slice (some ⟨gr, 0, none⟩) L.length c ∧ gr < w.heap.size ∧ w.rangeAt gr (i * 2) (rcc r) := by
  have hi : i < L.length := (List.getElem?_eq_some_iff.1 hr).1
  rcases h.row.2 with ⟨_, h0⟩ | ⟨gr, c, cur, hv, _, hg, hlc, _, hcs, hx⟩
  · omega
  · refine ⟨gr, c, hv, heap_lt hg, fun q u hq => ?_⟩
    have hq2 : q < 2 := (List.getElem?_eq_some_iff.1 hq).1
    rw [cell_of_row w gr (i * 2 + q) cur _ _ hg]
    have h2 : (L.flatMap rcc)[i * 2 + q]? = some u := by rw [flat_at rcc 2 L (fun _ _ => rfl) i r hr q hq2]; exact hq
    rw [← hx, List.getElem?_take] at h2
    split at h2
    · simpa using h2
    · cases h2
set_option maxRecDepth 100000 in
set_option maxHeartbeats 4000000 in
theorem rc_index_none (w : World) (base : Nat) (a : Option Addr) (n c : Nat) (L : List Rc) (bx t : Nat) (h : Rcs w base (.slice a n c) L) (hb : Blk w bx #[.int .i64 (t : Int)] 3) (hl : L.length ≤ 1000000) (ht : ∀ r ∈ L, t < r.tick) :
    Calls Try.prog 61 #[.slice a n c, .func (.func 48) #[] #[.pointer (some ⟨bx, 0, none⟩)]] w fun e w' => e = .returned (.int .i64 (-1)) ∧ Below w.heap.size w w' := by
  have hn : n = L.length := by obtain ⟨a', c', e⟩ := h.val; cases e; rfl
  have HR : Hid (Rcs w base (.slice a n c) L) := h
  have HB : Hid (Blk w bx #[.int .i64 (t : Int)] 3) := hb
  have HT : Hid (∀ r ∈ L, t < r.tick) := ht
  have HN : Hid (n = L.length) := hn
  have hn' : n ≤ 1000000 := by omega
  clear h hb ht hn hl
  go_enter Try.func61, Try.ntmps61
  go_wp2
  go_loopw [8] (fun t8 wr => ∃ (i : Nat), i ≤ n ∧ t8 = .int .i64 (i : Int) ∧ Hid (Below w.heap.size w wr)) (fun t8 _ => n - (intOf t8).toNat)
  case atStart => exact ⟨0, Nat.zero_le _, rfl, Below.refl _ _⟩
  case round =>
    obtain ⟨i, hi, rfl, HBr⟩ := hrel
    by_cases hlt : i < n
    · have hlt' : (i : Int) < (n : Int) := by omega
      have hge : (0 : Int) ≤ (i : Int) := by omega
      have HRr : Hid (Rcs wr base (.slice a n c) L) := HR.out.below HBr.out
      obtain ⟨r, hr⟩ : ∃ r, L[i]? = some r := ⟨_, List.getElem?_eq_getElem (by have := HN.out; omega)⟩
      obtain ⟨gr, c', hv, hgr, hrg⟩ := HRr.out.cut hr
      have ha : a = some ⟨gr, 0, none⟩ := by cases hv; rfl
      subst ha
      have HRG : Hid (wr.rangeAt gr (i * 2) (rcc r)) := hrg
      have HTR : Hid (decide (r.tick ≤ t) = false) := by (show _ = _); rw [decide_eq_false_iff_not]; have := HT.out r (List.mem_of_getElem? hr); omega
      have HCL : Hid (Calls Try.prog 48 #[.agg (rcc r).toArray, .pointer (some ⟨bx, 0, none⟩)] wr fun e w' => e = .returned (.bool false) ∧ Below wr.heap.size wr w') := by
        have := rel_one wr bx t r (HB.out.stay HBr.out)
        rw [HTR.out] at this
        exact this
      clear hv hrg hr
      go_wp2_with (first
        | (guard_target =~ wpList _ _ _ (Oper.mk (some 15) _ _ _ _ _ :: _) _ _; refine wpList_load_mid rfl 47 (.tmp 14) rfl gr (i * 2) rfl (rcc r) _ HRG.out Try.underlying47 rfl (by rfl) ?_)
        | (go_at_call 48; refine HCL.out.mono ?_; rintro e w2 ⟨rfl, hb2⟩; have HB2 : Hid (Below w.heap.size w w2) := HBr.out.trans (hb2.mono HBr.out.size); clear hb2))
      go_roundw
      case rel => exact ⟨i + 1, by omega, by go_num, HB2⟩
      case measure => (simp [intOf]; omega)
    · obtain rfl : i = n := by omega
      have hlt' : ¬ (i : Int) < (i : Int) := by omega
      go_wp2
      go_returns
      exact ⟨rfl, HBr.out⟩
theorem rc_delete_none (w : World) (base : Nat) (a : Option Addr) (n c : Nat) (L : List Rc) (bx t : Nat) (h : Rcs w base (.slice a n c) L) (hb : Blk w bx #[.int .i64 (t : Int)] 3) (hl : L.length ≤ 1000000) (ht : ∀ r ∈ L, t < r.tick) :
    Calls Try.prog 47 #[.slice a n c, .func (.func 48) #[] #[.pointer (some ⟨bx, 0, none⟩)]] w fun e w' => e = .returned (.slice a n c) ∧ Below w.heap.size w w' := by
  have hi := rc_index_none w base a n c L bx t h hb hl ht
  clear h hb hl ht
  go_enter Try.func47, Try.ntmps47
  go_wp2_with fail
  refine hi.mono ?_
  rintro e w2 ⟨rfl, hb2⟩
  have HB2 : Hid (Below w.heap.size w w2) := hb2
  clear hi hb2
  go_wp2
  go_returns
  exact ⟨rfl, HB2.out⟩
end Go.Proofs.Ytghajmcohdedlab
