/- A stream in memory; stream.New, ticks, Fork. -/
import Derived.Test.YtidihfhgnjkmaaaGreatSpX
import Derived.Test.YtidihfhgnjkmaaaGreatSt0
import Derived.Test.YtidihfhgnjkmaaaGreatStShelf
import Derived.Shelf.AbstractIn
import Derived.Deep.RegionHeld3
import Derived.Deep.QuietTactic
import Derived.Deep.Cut
import Derived.BigQuiet
namespace Go.Proofs.YtidihfhgnjkmaaaGreat
set_option maxRecDepth 100000
open Go.RowKit Go.Maps Go.Sort Go.Shelf
variable {Z : Nat → Prop}

theorem tkeyed : Keyed Tryz.prog 3 := int_keyed Tryz.underlying3
theorem tkey_of {t : Int} (h : -9223372036854775808 ≤ t ∧ t ≤ 9223372036854775807) : keyOf Tryz.prog 3 (.int .i64 t) = some (tkey t) := keyOf_int_mk Tryz.underlying3 (by simp [Lit.wf, IntKind.min, IntKind.max, IntKind.signed, IntKind.bits]; omega)
theorem owns_tight {w : World} {P : Program} {k : TypeId} {R : Value → Option (DataW Value × List MemPlace)} {b n : Nat} {D : DataW Value} (h : w.ownsMap P k R b n D) : w.ownsMap P k R b (size D) D := by
  obtain ⟨es, clock, hb, F, _, hD⟩ := h
  refine ⟨es, clock, hb, F, ?_, hD⟩
  rw [hD]
  show es.size ≤ List.length _
  rw [length_read]
  exact Nat.le_refl _
/-- Two blocks alone turn. -/
structure Two (s m : Nat) (w w' : World) : Prop where
  os : w'.os = w.os
  tape : w'.tape = w.tape
  output : w'.output = w.output
  size : w.heap.size ≤ w'.heap.size
  block : ∀ k, k < w.heap.size → k ≠ s → k ≠ m → w'.heap[k]? = w.heap[k]?
theorem Two.refl (s m : Nat) (w : World) : Two s m w w := ⟨rfl, rfl, rfl, Nat.le_refl _, fun _ _ _ _ => rfl⟩
theorem Two.trans {s m : Nat} {w w1 w2 : World} (a : Two s m w w1) (b : Two s m w1 w2) : Two s m w w2 := ⟨b.os.trans a.os, b.tape.trans a.tape, b.output.trans a.output, Nat.le_trans a.size b.size, fun k hk h1 h2 => (b.block k (Nat.lt_of_lt_of_le hk a.size) h1 h2).trans (a.block k hk h1 h2)⟩
theorem Two.of_below (s m : Nat) {w w1 : World} (a : Below w.heap.size w w1) : Two s m w w1 := ⟨a.os, a.tape, a.output, a.size, fun k hk _ _ => a.block k hk⟩
theorem Two.below {s m B : Nat} {w0 w w1 : World} (b : Below B w0 w) (a : Two s m w w1) (hs : B ≤ s) (hm : B ≤ m) (hB : B ≤ w.heap.size) : Below B w0 w1 :=
  ⟨a.os.trans b.os, a.tape.trans b.tape, a.output.trans b.output, Nat.le_trans b.size a.size, fun k hk => (a.block k (Nat.lt_of_lt_of_le hk hB) (by omega) (by omega)).trans (b.block k hk)⟩
theorem Two.turned {s m : Nat} {w w1 : World} (h : w.mapTurned w1 m) : Two s m w w1 := by
  have g := h.grown
  exact ⟨g.os, g.tape, g.output, g.size, fun k hk _ h2 => g.block k hk (by simpa using h2)⟩
theorem Two.setCell {s m : Nat} {w w1 : World} (h : Two s m w w1) (i : Nat) (v : Value) : Two s m w (w1.setCell ⟨s, i, none⟩ v) :=
  ⟨h.os, h.tape, h.output, by rw [World.size_setCell]; exact h.size, fun k hk h1 h2 => (heap_setCell_other w1 ⟨s, i, none⟩ k v h1).trans (h.block k hk h1 h2)⟩
theorem Two.bk {s m g : Nat} {w w' : World} {cs : Array Value} {t : TypeId} (h : Bk w g cs t) (a : Two s m w w') (h1 : g ≠ s) (h2 : g ≠ m) : Bk w' g cs t := (a.block g h.lt h1 h2).trans h
theorem cell_same {w w' : World} {g : Nat} (h : w'.heap[g]? = w.heap[g]?) (o : Nat) : w'.cell? ⟨g, o, none⟩ = w.cell? ⟨g, o, none⟩ := by
  unfold World.cell?
  rw [h]
theorem SpsRd.same {w w' : World} {a : Option Addr} {n : Nat} {l : List Sp} (h : SpsRd w a n l) (hs : w.heap.size ≤ w'.heap.size) (hk : ∀ ad, a = some ad → ad.block < w.heap.size → w'.heap[ad.block]? = w.heap[ad.block]?) : SpsRd w' a n l := by
  refine ⟨h.size, ?_⟩
  rcases h.cells with h0 | ⟨g, o, ha, hg, hc⟩
  · exact .inl h0
  · refine .inr ⟨g, o, ha, Nat.lt_of_lt_of_le hg hs, fun i q hi => ?_⟩
    have e := hk _ ha hg
    rw [cell_same e, cell_same e, cell_same e]
    exact hc i q hi
/-- A STREAM IN MEMORY: its block s, its map's block m, its spans l, its items X. -/
structure Stm (Z : Nat → Prop) (w : World) (s m : Nat) (a : Option Addr) (n c : Nat) (l : List Sp) (X : List (Int × Value)) : Prop where
  blk : Bk w s #[.slice a n c, .map (some m)] 83
  ok : MapOk w a n c l
  items : w.ownsMap Tryz.prog 3 heldV m X.length (mapD X)
  rise : RiseX X
  apart : ∀ ad, a = some ad → ad.block < w.heap.size ∧ ad.block ≠ s ∧ ad.block ≠ m ∧ Z ad.block
  zz : ∀ k, w.heap.size ≤ k → Z k
theorem Stm.ne {w : World} {s m : Nat} {a : Option Addr} {n c : Nat} {l : List Sp} {X : List (Int × Value)} (h : Stm Z w s m a n c l X) : s ≠ m := by
  rintro rfl
  obtain ⟨es, clock, hb, _⟩ := h.items
  have := h.blk.symm.trans hb
  cases this
theorem Stm.stay {w w' : World} {s m : Nat} {a : Option Addr} {n c : Nat} {l : List Sp} {X : List (Int × Value)} (h : Stm Z w s m a n c l X) (hb : Below w.heap.size w w') : Stm Z w' s m a n c l X := by
  refine ⟨h.blk.stay hb, h.ok.below hb, ?_, h.rise, fun ad e => ⟨Nat.lt_of_lt_of_le (h.apart ad e).1 hb.size, (h.apart ad e).2⟩, fun k hk => h.zz k (Nat.le_trans hb.size hk)⟩
  have hl := h.items.lt
  obtain ⟨es, clock, hbk, F, r⟩ := h.items
  exact ⟨es, clock, (hb.block m hl).trans hbk, F, r⟩
/-- It stays where two other blocks turn. -/
theorem Stm.two {w w' : World} {s m s2 m2 : Nat} {a : Option Addr} {n c : Nat} {l : List Sp} {X : List (Int × Value)} (h : Stm Z w s m a n c l X) (hb : Two s2 m2 w w') (h1 : s ≠ s2) (h2 : s ≠ m2) (h3 : m ≠ s2) (h4 : m ≠ m2) (h5 : ∀ ad, a = some ad → ad.block ≠ s2 ∧ ad.block ≠ m2) : Stm Z w' s m a n c l X := by
  refine ⟨Two.bk h.blk hb h1 h2, ⟨h.ok.rd.same hb.size fun ad e hlt => hb.block _ hlt (h5 ad e).1 (h5 ad e).2, h.ok.lc, h.ok.cm, h.ok.right⟩, ?_, h.rise, fun ad e => ⟨Nat.lt_of_lt_of_le (h.apart ad e).1 hb.size, (h.apart ad e).2⟩, fun k hk => h.zz k (Nat.le_trans hb.size hk)⟩
  have hl := h.items.lt
  obtain ⟨es, clock, hbk, F, r⟩ := h.items
  exact ⟨es, clock, (hb.block m hl h3 h4).trans hbk, F, r⟩
/-- Other spans are laid in. -/
theorem Stm.setKnown {w : World} {s m : Nat} {a : Option Addr} {n c : Nat} {l : List Sp} {X : List (Int × Value)} (h : Stm Z w s m a n c l X) {a' : Option Addr} {n' c' : Nat} {l' : List Sp} (ok : MapOk w a' n' c' l') (hap : ∀ ad, a' = some ad → ad.block < w.heap.size ∧ ad.block ≠ s ∧ ad.block ≠ m ∧ Z ad.block) : Stm Z (w.setCell ⟨s, 0, none⟩ (.slice a' n' c')) s m a' n' c' l' X := by
  refine ⟨h.blk.set 0 _, ⟨ok.rd.same (by rw [World.size_setCell]; exact Nat.le_refl _) fun ad e _ => heap_setCell_other w ⟨s, 0, none⟩ _ _ (hap ad e).2.1, ok.lc, ok.cm, ok.right⟩, h.items.setCell (a := ⟨s, 0, none⟩) (Ne.symm h.ne) _, h.rise, fun ad e => ⟨by rw [World.size_setCell]; exact (hap ad e).1, (hap ad e).2⟩, fun k hk => h.zz k (by rw [World.size_setCell] at hk; exact hk)⟩
/-- The map of items turns. -/
theorem Stm.setItems {w w' : World} {s m : Nat} {a : Option Addr} {n c : Nat} {l : List Sp} {X X' : List (Int × Value)} (h : Stm Z w s m a n c l X) (ht : w.mapTurned w' m) {nn : Nat} (hi : w'.ownsMap Tryz.prog 3 heldV m nn (mapD X')) (hr : RiseX X') : Stm Z w' s m a n c l X' := by
  have hb : Two s m w w' := Two.turned ht
  have g := ht.grown
  refine ⟨h.blk.grown g (by have := h.ne; simpa using this), ⟨h.ok.rd.same g.size fun ad e hlt => g.block _ hlt (by have := (h.apart ad e).2.2.1; simpa using this), h.ok.lc, h.ok.cm, h.ok.right⟩, ?_, hr, fun ad e => ⟨Nat.lt_of_lt_of_le (h.apart ad e).1 g.size, (h.apart ad e).2⟩, fun k hk => h.zz k (Nat.le_trans g.size hk)⟩
  have := owns_tight hi
  rw [mapD_size] at this
  exact this
theorem st_New (w : World) (hZ : ∀ k, w.heap.size ≤ k → Z k) : Calls Tryz.prog 11 #[] w fun e w' => ∃ s m, e = .returned (.pointer (some ⟨s, 0, none⟩)) ∧ Stm Z w' s m none 0 0 [] [] ∧ (w.heap.size ≤ s ∧ w.heap.size ≤ m) ∧ Below w.heap.size w w' := by
  have hmk : ∀ W, (Instr.makeMap 81 none).run Tryz.prog W = .ok (.map (some W.heap.size)) (W.alloc (.map #[] 0)) := fun W => run_makeMap _ W
  go_enter Tryz.func11, Tryz.ntmps11
  go_wp2
  go_ret
  have e1 : (w.alloc (.map #[] 0)).heap.size = w.heap.size + 1 := by simp
  have hb : Below w.heap.size w ((w.alloc (.map #[] 0)).alloc (.cells #[.slice none 0 0, .map (some w.heap.size)] 83)) := (below_new w _).alloc (by omega) _
  refine ⟨w.heap.size + 1, w.heap.size, rfl, ⟨?_, ⟨⟨rfl, .inl rfl⟩, Nat.le_refl _, Nat.zero_le _, trivial⟩, ?_, List.Pairwise.nil, fun ad h => (by cases h), fun k hk => hZ k (Nat.le_trans hb.size hk)⟩, by omega, hb⟩
  · rw [← e1]; exact Bk.new _ _ _
  · exact (World.ownsMap_made w _ _ _).alloc _
set_option maxHeartbeats 2000000 in
/-- The ticks of the items, rising. -/
theorem st_ticks {w : World} {s m : Nat} {a : Option Addr} {n c : Nat} {l : List Sp} {X : List (Int × Value)} (h : Stm Z w s m a n c l X) (hX : X.length ≤ 1000000) :
    Calls Tryz.prog 63 #[.pointer (some ⟨s, 0, none⟩)] w fun e w' => ∃ v, e = .returned v ∧ w'.ownsRow w.heap.size 3 1 v X.length ((X.map Prod.fst).map encZ) ∧ Below w.heap.size w w' := by
  refine (callsIn_wide (n := 6)).1 ?_
  have hown := h.items
  have hbl := hown.lt
  have hsz : size (mapD X) = X.length := mapD_size X
  have hseq : SeqGives Fence.wide 2 Tryz.prog 94 #[.pointer (some ⟨w.heap.size, 0, none⟩)] encZ (fun ss => ss.Perm (intKeys (mapD X))) (Maps.size (mapD X)) (w.alloc (.cells #[.map (some m)] 81)) :=
    AnyZI.keys_gives (ρ := Tryz.keysI_ren) { Tryz.keysI with } Fence.wide _ trivial rfl (by omega) w.heap.size m X.length (mapD X) _ (by simp) (by simp) (by
      obtain ⟨es, clock, hb, Ft, hs, hD⟩ := hown
      exact ⟨es, clock, (Below.heap_alloc _ _ m hbl).trans hb, Ft, hs, hD⟩)
  have cK : ∀ mb W, CallsIn Fence.wide 5 Tryz.prog 84 #[.map mb] W fun e w' => e = .returned (.func (.func 94) #[] #[.pointer (some ⟨W.heap.size, 0, none⟩)]) ∧ w' = W.alloc (.cells #[.map mb] 81) := fun mb W => AnyZI.keys_in Tryz.keysI Fence.wide 5 trivial rfl mb W
  have sorts : ∀ k : Nat, AnyZI.SortsIn Tryz.prog Tryz.sortedI_ren Fence.wide k := fun k => ⟨fun blk off cap ss W hH hblk hsz => callsIn_wide.2 (AnyM.slices_Sort_int Tryz.sortI blk off cap ss W hH hblk hsz), fun p cap W => callsIn_wide.2 (AnyM.slices_Sort_int_none Tryz.sortI p cap W)⟩
  have cS := AnyZI.sorted_in Tryz.sortedI Fence.wide 5 trivial trivial trivial trivial rfl (by omega) (sorts _) (enters_of Tryz.func93 (by kernel_rfl) rfl) 94 #[.pointer (some ⟨w.heap.size, 0, none⟩)] trivial (enters_of Tryz.func94 (by kernel_rfl) rfl) _ _ (by rw [hsz]; unfold maxLen; omega) (by rw [hsz]; omega) _ hseq
  change CallsIn _ _ Tryz.prog 83 _ _ _ at cS
  have hfK : Fence.wide.fn 84 := trivial
  have hfS : Fence.wide.fn 83 := trivial
  have c1 : w.cell? ⟨s, 1, none⟩ = some (.map (some m)) := h.blk.cell 1 rfl
  have HR : Hid (RiseX X) := h.rise
  clear h hown hseq sorts
  refine callsIn_of_wp Tryz.func63 rfl trivial ?_ rfl
  simp only [Tryz.ntmps63, List.size_toArray, List.length_cons, List.length_nil, Nat.reduceAdd, Nat.reduceSub, Array.replicate_succ, Array.replicate_zero, List.push_toArray, List.append_toArray, List.nil_append, List.cons_append]
  gi_wp2_with (first
    | (gi_at_call 84; refine (cK _ _).mono ?_; rintro e w' ⟨rfl, rfl⟩)
    | (gi_at_call 83; refine cS.mono ?_; rintro e w' ⟨v, ss, rfl, hS, hrow, hnil, hb⟩))
  go_ret
  have hrow2 := ownsRow_base_a hrow (base' := w.heap.size) (by simp)
  rw [mapD_sorted HR.out hS, show ss.length = X.length from by rw [hS.length_eq, mapD_keys, List.length_map]] at hrow2
  exact ⟨v, rfl, hrow2, ((Below.refl _ w).alloc (Nat.le_refl _) _).trans (hb.mono (by simp))⟩
end Go.Proofs.YtidihfhgnjkmaaaGreat
