/- Two disks side by side; what there is of a sector is what is sure behind a sync. -/
import Derived.Test.YthpjaidgacenoaaQSecFork
import Derived.Test.YthpjaidgacenoaaQSecLastM
namespace Go.Proofs.Ythpjaidgacenoaa
open Go.RowKit

theorem sync_snoc : ∀ (W : List (Nat × List Nat)) (S : List (List Nat)) (p : Nat × List Nat), syncL S (W ++ [p]) = (syncL S W).set p.1 p.2
  | [], _, _ => rfl
  | q :: W, S, p => by rw [List.cons_append, syncL, syncL, sync_snoc W]
theorem syncL_len : ∀ (W : List (Nat × List Nat)) (S : List (List Nat)), (syncL S W).length = S.length
  | [], _ => rfl
  | _ :: W, S => by rw [syncL, syncL_len W, List.length_set]
/-- What there is of a sector is what is sure behind a sync. -/
theorem now_sync (D : Dk) (q : Nat) (hq : q < D.sure.length) : ∀ k, k ≤ D.waits.length → nowS D q k = (syncL D.sure (D.waits.take k)).getD q []
  | 0, _ => by rw [List.take_zero, syncL, nowS]
  | k + 1, hk => by
    have ih := now_sync D q hq k (by omega)
    have hk' : k < D.waits.length := by omega
    have hl : q < (syncL D.sure (D.waits.take k)).length := by rw [syncL_len]; exact hq
    rw [nowS, List.take_add_one, List.getElem?_eq_getElem hk', Option.toList_some, sync_snoc]
    have e : D.waits.getD k (0, []) = D.waits[k] := by rw [List.getD_eq_getElem?_getD, List.getElem?_eq_getElem hk']; rfl
    rw [e, List.getD_eq_getElem?_getD, List.getElem?_set]
    by_cases h : (D.waits[k]).1 = q
    · rw [if_pos h, if_pos h, if_pos (by rw [h]; exact hl)]
      rfl
    · rw [if_neg h, if_neg h, ih, List.getD_eq_getElem?_getD]
theorem nowB_sync (D : Dk) (q : Nat) (hq : q < D.sure.length) : nowB D q = (syncL D.sure D.waits).getD q [] := by
  have := now_sync D q hq D.waits.length (Nat.le_refl _)
  rw [List.take_length] at this
  exact this

/-- Another disk stays behind a crash. -/
theorem Disk.away {w w' : World} {base g gs b base2 g2 gs2 : Nat} {wv wv2 : Value} {D D2 : Dk} (h : Disk w base g gs wv D) (h2 : Disk w base2 g2 gs2 wv2 D2) (hg : g ≠ g2) (hs : gs ≠ gs2) (hm : Mc w w' b g2 gs2) : Disk w' base g gs wv D := by
  refine ⟨?_, ?_, own_stay h.wrow (fun k hk => hm.block k (h.wrow.lt k hk).2 ?_ ?_), h.bg, h.bs, h.sz, h.sec, h.wts, h.tr, h.ag, h.wl⟩
  · unfold Blk
    rw [hm.block g h.blk.lt hg (blk_ne h.blk h2.srow (by decide))]
    exact h.blk
  · unfold Blk
    rw [hm.block gs h.srow.lt (blk_ne h.srow h2.blk (by decide)) hs]
    exact h.srow
  · rintro rfl
    exact own_ne h.wrow h2.blk (by decide) hk.symm
  · rintro rfl
    exact own_ne h.wrow h2.srow (by decide) hk.symm
theorem infoIntB : (Try.prog.info? 3).map (fun i => (i.zero, i.size, i.bytes)) = some (some (.int .i64 0), 1, 8) := by kernel_rfl
/-- So many ones. -/
def onesV (n : Nat) : List Value := List.replicate n (.int .i64 1)
theorem ones_ft {w : World} {base n : Nat} {a : Option Addr} {l c : Nat} (h : w.ownsRow base 3 1 (.slice a l c) n (onesV n)) : l = n ∧ FtRd w a n (List.replicate n 1) := by
  rcases h.2 with ⟨h1, h2⟩ | ⟨g, c', cur, h1, _, _, _⟩
  · simp only [Value.slice.injEq] at h1
    exact ⟨by omega, by simp, .inl h2⟩
  · simp only [Value.slice.injEq] at h1
    obtain ⟨rfl, rfl, rfl⟩ := h1
    refine ⟨rfl, by simp, .inr ⟨g, 0, rfl, fun i hi => ?_⟩⟩
    rw [Nat.zero_add]
    have e := h.cellAt i (by omega)
    rw [e, onesV, List.getElem?_replicate_of_lt hi, List.getD_eq_getElem?_getD, List.getElem?_replicate_of_lt hi]
    rfl
end Go.Proofs.Ythpjaidgacenoaa
