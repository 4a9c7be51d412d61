/- Stream.Fork, cloned. -/
import Derived.Test.YtidihfhgnjkmaaaSt1
import Derived.Test.YtidihfhgnjkmaaaBClone
import Derived.Test.YtidihfhgnjkmaaaPcM
namespace Go.Proofs.Ytidihfhgnjkmaaa
set_option maxRecDepth 100000
open Go.RowKit Go.Maps Go.Sort Go.Shelf

theorem st_clone (b : Nat) (es : Array MapEntry) (clock : Nat) (w : World) (hb : w.heap[b]? = some (.map es clock)) : Calls Try.prog 33 #[.map (some b)] w fun e w' => e = .returned (.map (some w.heap.size)) ∧ w' = w.alloc (.map es clock) := AnyW.maps_Clone Try.cloneI b es clock w hb
set_option maxHeartbeats 4000000 in
theorem st_Fork {w : World} {s m : Nat} {a : Option Addr} {n c : Nat} {l : List Sp} {X : List (Int × Value)} (h : Stm w s m a n c l X) :
    Calls Try.prog 15 #[.pointer (some ⟨s, 0, none⟩)] w fun e w' => ∃ s' m', e = .returned (.pointer (some ⟨s', 0, none⟩)) ∧ Stm w' s' m' a n c l X ∧ (w.heap.size ≤ s' ∧ w.heap.size ≤ m') ∧ Below w.heap.size w w' := by
  have HS : Hid (Stm w s m a n c l X) := h
  have hl := h.items.lt
  obtain ⟨es, clock, hbk, HF, hle, hD⟩ := h.items
  have HCL : Hid (∀ W, Below w.heap.size w W → Calls Try.prog 33 #[.map (some m)] W fun e w' => e = .returned (.map (some W.heap.size)) ∧ w' = W.alloc (.map es clock)) := fun W hW => st_clone m es clock W ((hW.block m hl).trans hbk)
  have HIT : Hid (∀ W : World, (W.alloc (.map es clock)).ownsMap Try.prog 3 heldV W.heap.size X.length (mapD X)) := fun W => ⟨es, clock, (MapKept.heap_alloc W _).1, HF, hle, hD⟩
  have HSK : Hid (∀ W, Below w.heap.size w W → W.cell? ⟨s, 0, none⟩ = some (.slice a n c) ∧ W.cell? ⟨s, 1, none⟩ = some (.map (some m))) := fun W hW => ⟨(HS.out.blk.stay hW).cell 0 rfl, (HS.out.blk.stay hW).cell 1 rfl⟩
  clear h hl hbk HF hle hD
  go_enter Try.func15, Try.ntmps15
  go_upto_region 3 with fail
  have HB0 : Hid (Below w.heap.size w w.drew) := (Below.refl _ _).drew
  go_region_held3 (fun w' => w'.cell? ⟨s, 0, none⟩ = some (.slice a n c) ∧ w'.cell? ⟨s, 1, none⟩ = some (.map (some m))) (first | with_reducible exact HSK.out _ HB0.out | with_reducible exact HSK.out _ (Below.refl _ _).drew | with_reducible exact HSK.out _ (Below.refl _ _) | exact HSK.out _ ((below_alloc w _).alloc (by simp) _).drew | fail)
    (first
      | (go_at_call 33; refine (HCL.out _ HB0.out).mono ?_; rintro e w3 ⟨rfl, rfl⟩; have HB' : Hid (Below w.heap.size w (w.alloc (.map es clock)).drew) := (below_alloc w _).drew; clear HB0; have HB0 := HB'; clear HB'))
  all_goals (
    go_wp2
    go_ret
    have e1 : (w.alloc (.map es clock)).heap.size = w.heap.size + 1 := by simp
    have HBX : Below w.heap.size w ((w.alloc (.map es clock)).alloc (.cells #[.slice a n c, .map (some w.heap.size)] 53)).drew := ((below_alloc w _).alloc (by simp) _).drew
    refine ⟨w.heap.size + 1, w.heap.size, rfl, ⟨?_, HS.out.ok.below HBX, ?_, HS.out.rise, fun ad e => ?_⟩, by omega, HBX⟩
    · have := Bk.new (w.alloc (.map es clock)) #[.slice a n c, .map (some w.heap.size)] 53
      rw [e1] at this
      exact this
    · exact (HIT.out w).alloc _
    · have := (HS.out.apart ad e).1
      have := HBX.size
      omega)
end Go.Proofs.Ytidihfhgnjkmaaa
