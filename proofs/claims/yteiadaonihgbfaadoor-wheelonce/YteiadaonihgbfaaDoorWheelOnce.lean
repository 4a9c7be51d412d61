/- Proved: for every script and steps grapevinelaw12.WheelOnce answers true and leaves its arguments as they were, where math/bits.deBruijn64tab holds what its initialiser lays (tied by the card). No other condition. -/
import Derived.Test.YteiadaonihgbfaaDoorWhL2
import Derived.Deep.CutBlock
import Derived.Deep.LoopGhost
namespace Go.Proofs.YteiadaonihgbfaaDoor
open Go.ChangeShapes Go.WideShapes Go.ChangeAt Go.RowKit
namespace wheelOnce

/-- The law's own array in memory. -/
structure Du (w : World) (d : Nat) (D : List Int) : Prop where
  blk : Blk w d (D.map fun (z : Int) => Value.int .i64 z).toArray 34
  len : D.length = 65
theorem Du.cell {w : World} {d : Nat} {D : List Int} (h : Du w d D) {i : Nat} (hi : i < 65) : w.cell? ⟨d, i, none⟩ = some (.int .i64 (D.getD i 0)) := by
  have hl : i < D.length := by rw [h.len]; exact hi
  refine h.blk.cell i ?_
  rw [List.getElem?_toArray, List.getElem?_map, List.getD_eq_getElem?_getD, List.getElem?_eq_getElem hl]
  rfl
theorem Du.set {w : World} {d : Nat} {D : List Int} (h : Du w d D) (i : Nat) (z : Int) : Du (w.setCell ⟨d, i, none⟩ (.int .i64 z)) d (D.set i z) := by
  refine ⟨?_, by rw [List.length_set]; exact h.len⟩
  have := h.blk.set i (.int .i64 z)
  rw [List.setIfInBounds_toArray, ← List.map_set] at this
  exact this
theorem Du.grown {w w' : World} {d k : Nat} {D : List Int} (h : Du w d D) (hg : w.grownBy w' (some k)) (hne : d ≠ k) : Du w' d D := ⟨h.blk.grown hg (by simpa using hne), h.len⟩
theorem Du.stay {w w' : World} {d : Nat} {D : List Int} (h : Du w d D) (hb : Below w.heap.size w w') : Du w' d D := ⟨h.blk.stay hb, h.len⟩
theorem Du.free {w : World} {d : Nat} {D : List Int} (h : Du w d D) (i : Nat) : w.frozen? ⟨d, i, none⟩ = false := h.blk.free i
theorem getDi_set (l : List Int) (i : Nat) (x : Int) (k : Nat) (hi : i < l.length) : (l.set i x).getD k 0 = if k = i then x else l.getD k 0 := by
  rw [List.getD_eq_getElem?_getD, List.getElem?_set]
  by_cases h : k = i
  · subst h
    rw [if_pos rfl, if_pos hi, if_pos rfl]
    rfl
  · rw [if_neg (fun e => h e.symm), if_neg h, List.getD_eq_getElem?_getD]
def dueO (o : Option Nat) : Int := match o with
  | some x => (x : Int)
  | none => -1
/-- The array says when each timer is due, -1 of those that are not there. -/
def DT (D : List Int) (T : Nat → Option Nat) : Prop := ∀ i, i < 64 → D.getD (i + 1) 0 = dueO (T i)
theorem DT.upd {D : List Int} {T : Nat → Option Nat} (h : DT D T) (hl : D.length = 65) {x : Nat} (hx : 1 ≤ x ∧ x ≤ 64) (o : Option Nat) : DT (D.set x (dueO o)) (upd T (x - 1) o) := fun i hi => by
  rw [getDi_set _ _ _ _ (by omega)]
  unfold Go.Proofs.YteiadaonihgbfaaDoor.upd
  by_cases c : i = x - 1
  · have c2 : i + 1 = x := by omega
    rw [if_pos c, if_pos c2]
  · have c2 : ¬ i + 1 = x := by omega
    rw [if_neg c, if_neg c2]
    exact h i hi
theorem infoArrZ : (Tryd.prog.info? 34).map (fun i => (i.zero, i.size)) = some (some (.agg (List.replicate 65 (Value.int .i64 0)).toArray), 65) := by kernel_rfl
/-- Steps, as they are read. -/
structure UsRd (w : World) (a : Option Addr) (n : Nat) (l : List Nat) : Prop where
  size : l.length = n
  num : ∀ x ∈ l, x ≤ 65535
  cells : l = [] ∨ ∃ g o, a = some ⟨g, o, none⟩ ∧ g < w.heap.size ∧ ∀ (i : Nat) (q : Nat), l[i]? = some q → w.cell? ⟨g, o + i, none⟩ = some (.int .u16 (q : Int))
theorem UsRd.below {w w' : World} {a : Option Addr} {n : Nat} {l : List Nat} (h : UsRd w a n l) (hb : Below w.heap.size w w') : UsRd w' a n l := by
  refine ⟨h.size, h.num, ?_⟩
  rcases h.cells with h0 | ⟨g, o, ha, hg, hc⟩
  · exact .inl h0
  · refine .inr ⟨g, o, ha, Nat.lt_of_lt_of_le hg hb.size, fun i q hi => ?_⟩
    rw [hb.cell (p := ⟨g, o + i, none⟩) hg]
    exact hc i q hi
theorem UsRd.spot {w : World} {a : Option Addr} {n : Nat} {l : List Nat} (h : UsRd w a n l) (i : Nat) (hi : i < n) : ∃ g o, a = some ⟨g, o, none⟩ ∧ ∃ q, q ≤ 65535 ∧ w.cell? ⟨g, o + i, none⟩ = some (.int .u16 ((q : Nat) : Int)) := by
  have hl : i < l.length := by rw [h.size]; exact hi
  rcases h.cells with rfl | ⟨g, o, ha, hg, hc⟩
  · simp at hl
  · exact ⟨g, o, ha, l[i], h.num _ (List.getElem_mem hl), hc i l[i] (List.getElem?_eq_getElem hl)⟩
theorem open_steps {H : Type} {enc : TypeId × Value → H} {W : World} {a : Option Addr} {n cap : Nat} {d : DataW H} {p : List MemPlace}
    (h : DataW.Trod enc Tryd.prog W 0 (fun _ => true) true 30 (.slice a n cap) d p) : ∃ l, UsRd W a n l ∧ n ≤ maxLen := by
  obtain ⟨fuel, hf⟩ := h
  rcases open_ints Tryd.underlying30 Tryd.underlying39 (by kernel_rfl) hf with ⟨hcs, hx⟩ | ⟨x, l, c, zs, hcs, hb, hl, hm, hlen, hx, hc, hw⟩
  · simp [Value.cells] at hcs
    obtain ⟨rfl, rfl, rfl⟩ := hcs
    exact ⟨[], ⟨rfl, fun x hx => (by cases hx), .inl rfl⟩, by omega⟩
  · simp [Value.cells] at hcs
    obtain ⟨rfl, rfl, rfl⟩ := hcs
    simp only [if_true] at hlen
    have hz : ∀ z ∈ zs, 0 ≤ z ∧ z ≤ 65535 := fun z hz => by simpa [Lit.wf, IntKind.min, IntKind.max, IntKind.signed, IntKind.bits] using hw z hz
    refine ⟨(zs.take n).map Int.toNat, ⟨by rw [List.length_map, List.length_take, hlen]; omega, fun y hy => ?_, ?_⟩, by omega⟩
    · obtain ⟨z, hz1, rfl⟩ := List.mem_map.1 hy
      have := hz z (List.mem_of_mem_take hz1)
      omega
    · by_cases hn0 : n = 0
      · left; simp [hn0]
      · right
        obtain ⟨b, off, spot⟩ := x
        have h0 := hc 0 (by omega)
        have hspot : spot = none := by simpa [Addr.add] using World.cell?_spot h0
        subst hspot
        refine ⟨b, off, rfl, World.block_lt_of_cell? W _ h0, fun i q hi => ?_⟩
        have e : ∀ j, (⟨b, off, none⟩ : Addr).add j = ⟨b, off + j, none⟩ := fun j => by unfold Addr.add; split <;> simp_all
        rw [List.getElem?_map] at hi
        obtain ⟨z, hz1, rfl⟩ := Option.map_eq_some_iff.1 hi
        have hin : i < zs.length := by
          have := (List.getElem?_eq_some_iff.1 hz1).1
          rw [List.length_take] at this
          omega
        have hzi : zs[i]? = some z := by
          rw [List.getElem?_take] at hz1
          split at hz1
          · exact hz1
          · cases hz1
        have hcell := hc i hin
        rw [e, List.getD_eq_getElem?_getD, hzi] at hcell
        have := hz z (List.mem_of_getElem? hzi)
        rw [hcell, Option.getD_some, Int.toNat_of_nonneg this.1]
/-- One that is told. -/
theorem told_at {T : Nat → Option Nat} {D : List Int} {tt : Nat} {L : List Nat} (h : Told T tt L) (hd : DT D T) {k : Nat} (hk : k < L.length) : 1 ≤ L.getD k 0 ∧ L.getD k 0 ≤ 64 ∧ ∃ d, T (L.getD k 0 - 1) = some d ∧ d ≤ tt ∧ D.getD (L.getD k 0) 0 = (d : Int) := by
  obtain ⟨h1, h2, d, h3, h4⟩ := (h.2 (L.getD k 0)).1 (mem_at.2 ⟨k, hk, rfl⟩)
  refine ⟨h1, h2, d, h3, h4, ?_⟩
  have := hd (L.getD k 0 - 1) (by omega)
  rw [show L.getD k 0 - 1 + 1 = L.getD k 0 from by omega, h3] at this
  exact this
theorem told_rise {T : Nat → Option Nat} {tt : Nat} {L : List Nat} (h : Told T tt L) {k : Nat} (hk : k + 1 < L.length) {d e : Nat} (hd : T (L.getD k 0 - 1) = some d) (he : T (L.getD (k + 1) 0 - 1) = some e) : d ≤ e := by
  have := List.pairwise_iff_getElem.1 h.1 k (k + 1) (by omega) hk (by omega)
  rw [List.getD_eq_getElem?_getD, List.getElem?_eq_getElem (by omega), Option.getD_some] at hd
  rw [List.getD_eq_getElem?_getD, List.getElem?_eq_getElem hk, Option.getD_some] at he
  unfold ltD dT at this
  rw [hd, he, Option.getD_some, Option.getD_some] at this
  omega
theorem WW.due {w : World} {g n : Nat} {T : Nat → Option Nat} (h : WW w g n T) {i d : Nat} (hi : i < 64) (hd : T i = some d) : d ≤ 1099511627776 := by
  obtain ⟨s, h1, h2, h3⟩ := h
  rw [← h3.ps.due i d hi hd]
  exact h3.dm i
theorem ids_none {T : Nat → Option Nat} (h : ∀ i, i < 64 → T i = none) : idsT T = [] := by
  unfold idsT
  rw [List.filter_eq_nil_iff.2 (fun i hi => by rw [h i (List.mem_range.1 hi)]; simp)]
  rfl
/-- What is left behind an Advance. -/
theorem adv_some {T : Nat → Option Nat} {tt i d : Nat} (h : advT T tt i = some d) : T i = some d ∧ tt < d := by
  unfold advT at h
  cases hT : T i with
  | none => rw [hT] at h; cases h
  | some e =>
    rw [hT] at h
    simp only at h
    split at h
    · cases h
    · cases h; exact ⟨rfl, by omega⟩
theorem DT.adv {D D' : List Int} {T : Nat → Option Nat} {tt : Nat} {L : List Nat} (h : DT D T) (ht : Told T tt L) (hd : ∀ j, 1 ≤ j → j ≤ 64 → D'.getD j 0 = if j ∈ L then -1 else D.getD j 0) : DT D' (advT T tt) := fun i hi => by
  rw [hd (i + 1) (by omega) (by omega)]
  by_cases c : i + 1 ∈ L
  · obtain ⟨_, _, d, h3, h4⟩ := (ht.2 _).1 c
    rw [show i + 1 - 1 = i from by omega] at h3
    rw [if_pos c]
    unfold advT
    rw [h3]
    simp only [if_pos h4]
    rfl
  · rw [if_neg c, h i hi]
    congr 1
    unfold advT
    cases hT : T i with
    | none => rfl
    | some d =>
      by_cases c2 : d ≤ tt
      · exact absurd ((ht.2 _).2 ⟨by omega, by omega, d, by rw [show i + 1 - 1 = i from by omega]; exact hT, c2⟩) c
      · simp only [if_neg c2]
/-- All that WheelOnce holds in memory. -/
structure On (w0 w : World) (g d A : Nat) (T : Nat → Option Nat) (D : List Int) : Prop where
  wh : WW w g A T
  du : Du w d D
  dt : DT D T
  tab : Tab w
  low : Below w0.heap.size w0 w
theorem On.stay {w0 w w' : World} {g d A : Nat} {T : Nat → Option Nat} {D : List Int} (h : On w0 w g d A T D) (hb : Below w.heap.size w w') : On w0 w' g d A T D := ⟨h.wh.stay hb, h.du.stay hb, h.dt, h.tab.below (Nat.lt_of_le_of_lt (Nat.zero_le _) h.wh.lt) hb, h.low.trans (hb.mono h.low.size)⟩
/-- The array is written. -/
theorem On.put {w0 w : World} {g d A : Nat} {T T' : Nat → Option Nat} {D : List Int} (h : On w0 w g d A T D) (i : Nat) (z : Int) (hne : g ≠ d) (h0 : d ≠ 0) (hd : w0.heap.size ≤ d) (ht : DT (D.set i z) T') (hw : T' = T) : On w0 (w.setCell ⟨d, i, none⟩ (.int .i64 z)) g d A T' (D.set i z) := by
  subst hw
  exact ⟨h.wh.grown (grown_cell _ _ _ _) hne, h.du.set i z, ht, h.tab.grown (grown_cell _ _ _ _) h0, h.low.setCell hd _⟩

set_option maxRecDepth 100000 in
set_option maxHeartbeats 16000000 in
theorem walk (a : Option Addr) (len cap : Nat) (l : List Dd) (a2 : Option Addr) (len2 cap2 : Nat) (l2 : List Nat) (w : World) (hl : DdsRd w a len l) (hl2 : UsRd w a2 len2 l2) (hlm : len2 ≤ maxLen) (hT : Tab w) (hz : 0 < w.heap.size) :
    Calls Tryd.prog 4 #[.slice a len cap, .slice a2 len2 cap2] w fun e w' => e = .returned (.bool true) ∧ Below w.heap.size w w' := by
  have HL : Hid (DdsRd w a len l) := hl
  have HL2 : Hid (UsRd w a2 len2 l2) := hl2
  have HT : Hid (Tab w) := hT
  have HZ : Hid (0 < w.heap.size) := hz
  obtain ⟨Z, HZZ⟩ : ∃ Z : List Value, Hid (Z = List.replicate 65 (Value.int .i64 0)) := ⟨_, rfl⟩
  have HZI : Hid ((Tryd.prog.info? 34).map (fun i => (i.zero, i.size)) = some (some (.agg Z.toArray), 65)) := by show _ = _; rw [HZZ.out]; exact infoArrZ
  have hlm2 : len2 ≤ 9223372036854775807 := by unfold maxLen at hlm; omega
  clear hl hl2 hT hz hlm
  go_enter Tryd.func4, Tryd.ntmps4
  go_wp2_with fail
  refine (wh_New w 0).mono ?_
  rintro e w1 ⟨ht1, hb1⟩
  rcases ht1.out with ⟨h0, _⟩ | ⟨_, rfl, hw1⟩
  · exact absurd ⟨by omega, by omega⟩ h0
  obtain ⟨g, hg⟩ : ∃ g, g = w.heap.size := ⟨_, rfl⟩
  rw [← hg] at hw1 ⊢
  have HGE : Hid (g = w.heap.size) := hg
  have HW1 : Hid (WW w1 g 0 (fun _ => none)) := ⟨_, hw1, rfl, ST.fresh 0 (by omega)⟩
  have HB1 : Hid (Below w.heap.size w w1) := hb1
  clear ht1 hb1 hw1 hg
  go_wp2_with (guard_target =~ wpList _ _ _ (Oper.mk (some 7) _ _ _ _ _ :: _) _ _; refine wpList_alloc_row rfl 34 rfl Z 65 HZI.out ?_)
  intro w2 hk2 hb2 _
  obtain ⟨d, hd⟩ : ∃ d, d = w1.heap.size := ⟨_, rfl⟩
  rw [← hd] at hk2 ⊢
  have HNE : Hid (g ≠ d ∧ g ≠ 0 ∧ d ≠ 0 ∧ w.heap.size ≤ d ∧ w.heap.size ≤ g) := by
    have k1 := HW1.out.lt
    have k2 := HZ.out
    have k3 := HGE.out
    (show _ ∧ _)
    omega
  have HU2 : Hid (Du w2 d (List.replicate 65 0)) := by
    refine ⟨?_, by simp⟩
    rw [HZZ.out] at hk2
    rw [List.map_replicate]
    exact hk2
  have HW2 : Hid (WW w2 g 0 (fun _ => none)) := HW1.out.stay hb2
  have HB2 : Hid (Below w.heap.size w w2) := HB1.out.trans (hb2.mono HB1.out.size)
  have HT2 : Hid (Tab w2) := HT.out.below HZ.out HB2.out
  clear hk2 hb2 hd
  go_wp2
  go_loopw [8] (fun t8 wr => ∃ (x : Nat) (D : List Int), 1 ≤ x ∧ x ≤ 65 ∧ t8 = .int .i64 (x : Int) ∧ Hid (∀ j, 1 ≤ j → j < x → D.getD j 0 = -1) ∧ Hid (Du wr d D) ∧ Hid (WW wr g 0 (fun _ => none)) ∧ Hid (Tab wr) ∧ Hid (Below w.heap.size w wr)) (fun t8 _ => 65 - (intOf t8).toNat)
  case atStart => exact ⟨1, _, by omega, by omega, rfl, fun j h1 h2 => by omega, HU2, HW2, HT2, HB2⟩
  case round =>
    obtain ⟨x, D, hx1, hx2, rfl, HDJ, HU, HW, HTr, HB⟩ := hrel
    by_cases hx : x ≤ 64
    · have hx' : (x : Int) ≤ 64 := by omega
      have p0 : (0 : Int) ≤ (x : Int) := by omega
      have p1 : (x : Int) < 65 := by omega
      have c1 := HU.out.cell (i := x) (by omega)
      have f1 : wr.frozen? ⟨d, x, none⟩ = false := HU.out.free _
      have HU3 : Hid (Du (wr.setCell ⟨d, x, none⟩ (.int .i64 (-1))) d (D.set x (-1))) := HU.out.set x (-1)
      have HW3 : Hid (WW (wr.setCell ⟨d, x, none⟩ (.int .i64 (-1))) g 0 (fun _ => none)) := HW.out.grown (grown_cell _ _ _ _) HNE.out.1
      have HT3 : Hid (Tab (wr.setCell ⟨d, x, none⟩ (.int .i64 (-1)))) := HTr.out.grown (grown_cell _ _ _ _) HNE.out.2.2.1
      have HB3 : Hid (Below w.heap.size w (wr.setCell ⟨d, x, none⟩ (.int .i64 (-1)))) := HB.out.setCell HNE.out.2.2.2.1 _
      have HDJ3 : Hid (∀ j, 1 ≤ j → j < x + 1 → (D.set x (-1)).getD j 0 = -1) := fun j h1 h2 => by
        rw [getDi_set _ _ _ _ (by rw [HU.out.len]; omega)]
        by_cases c : j = x
        · rw [if_pos c]
        · rw [if_neg c]; exact HDJ.out j h1 (by omega)
      go_wp2
      go_roundw
      case rel => exact ⟨x + 1, _, by omega, by omega, by go_num, HDJ3, HU3, HW3, HT3, HB3⟩
      case measure => simp [intOf]; omega
    · obtain rfl : x = 65 := by omega
      have hx' : ¬ ((65 : Nat) : Int) ≤ 64 := by omega
      have HON : Hid (On w wr g d 0 (fun _ => none) D) := ⟨HW.out, HU.out, fun i hi => HDJ.out (i + 1) (by omega) (by omega), HTr.out, HB.out⟩
      clear HDJ HU HW HTr HB
      go_upto_block 2 with fail
      go_cut [9] from 35 to 91 (fun _v9 wx => ∃ (T : Nat → Option Nat) (D : List Int), Hid (On w wx g d 0 T D))
      case first =>
        go_wp2_with fail
        go_loopw [9] (fun t9 wr => ∃ (i : Nat) (T : Nat → Option Nat) (D : List Int), i ≤ len ∧ i ≤ 300 ∧ t9 = .int .i64 (i : Int) ∧ Hid (On w wr g d 0 T D)) (fun t9 _ => len - (intOf t9).toNat)
        case atStart => exact ⟨0, _, _, by omega, by omega, rfl, HON⟩
        case round =>
          obtain ⟨i, T, D, hi, hi3, rfl, HO⟩ := hrel
          have hor : (i < len ∧ i < 300) ∨ ¬ i < len ∨ (i < len ∧ ¬ i < 300) := by omega
          rcases hor with ⟨hlt, h300⟩ | hstop
          · have hlt' : (i : Int) < (len : Int) := by omega
            have h300' : (i : Int) < 300 := by omega
            obtain ⟨gl, o, rfl, hgl, q, hq, c0, c1, c2⟩ := (HL.out.below HO.out.low).spot i hlt
            obtain ⟨kd, id, at_⟩ := q
            simp only at c0 c1 c2
            have HGL : Hid (gl < w.heap.size) := by
              obtain ⟨g2, o2, e2, hg2, _⟩ := HL.out.spot i hlt
              cases e2
              exact hg2
            have hi0 : (0 : Int) ≤ (i : Int) := by omega
            have HC0 : Hid (∀ w', w.heap.size ≤ w'.heap.size → Below w.heap.size wr w' → w'.cell? ⟨gl, o + i * 3, none⟩ = some (.int .i64 kd) ∧ w'.cell? ⟨gl, o + i * 3 + 1, none⟩ = some (.int .i64 id) ∧ w'.cell? ⟨gl, o + i * 3 + 2, none⟩ = some (.int .i64 at_)) := fun w' _ hb' => by
              rw [hb'.cell (p := ⟨gl, o + i * 3, none⟩) HGL.out, hb'.cell (p := ⟨gl, o + i * 3 + 1, none⟩) HGL.out, hb'.cell (p := ⟨gl, o + i * 3 + 2, none⟩) HGL.out]
              exact ⟨c0, c1, c2⟩
            clear hq hgl
            by_cases hk0 : kd = 0
            · subst hk0
              obtain ⟨E, HE⟩ : ∃ E, Hid (E = setE id at_) := ⟨_, rfl⟩
              have HSC : Hid (Calls Tryd.prog 13 #[.pointer (some ⟨g, 0, none⟩), .int .i64 id, .int .i64 at_] wr.drew fun e w' => e = .returned (.int .i64 E) ∧ Hid (WW w' g 0 (setT T id at_)) ∧ wr.drew.grownBy w' (some g)) := by
                rw [HE.out]
                exact ww_Set wr.drew g 0 T id at_ (HO.out.wh.stay (below_drew (Below.refl _ _)))
              have HOD : Hid (On w wr.drew g d 0 T D) := HO.out.stay (below_drew (Below.refl _ _))
              have d1 : wr.drew.cell? ⟨gl, o + i * 3 + 1, none⟩ = some (.int .i64 id) := c1
              have d2 : wr.drew.cell? ⟨gl, o + i * 3 + 2, none⟩ = some (.int .i64 at_) := c2
              go_wp2
              refine wp_region_any (by kernel_rfl) ?_
              change wpAny _ _ _ _ _ _ _ (World.drew _)
              refine take_put (i := 0) (v := ?_) (some 52) rfl (by kernel_rfl) (by kernel_rfl) (by kernel_rfl) (by kernel_rfl) (fun _ _ _ h => h) (Or.inl ⟨by rfl, ?_⟩) ?_
              rotate_left
              · (intro w; go_simp; try with_reducible rfl)
              try simp only [Act.put, List.setIfInBounds_toArray, List.set_cons_zero, List.set_cons_succ]
              refine take_put (i := 1) (v := ?_) (some 53) rfl (by kernel_rfl) (by kernel_rfl) (by kernel_rfl) (by kernel_rfl) (fun _ _ _ h => h) (Or.inl ⟨by rfl, ?_⟩) ?_
              rotate_left
              · (intro w; go_simp; try with_reducible rfl)
              try simp only [Act.put, List.setIfInBounds_toArray, List.set_cons_zero, List.set_cons_succ]
              refine take_put (i := 2) (v := ?_) (some 54) rfl (by kernel_rfl) (by kernel_rfl) (by kernel_rfl) (by kernel_rfl) (fun _ _ _ h => h) (Or.inl ⟨by rfl, ?_⟩) ?_
              rotate_left
              · (intro w; go_simp; try with_reducible rfl)
              try simp only [Act.put, List.setIfInBounds_toArray, List.set_cons_zero, List.set_cons_succ]
              refine take_put (i := 3) (v := ?_) (some 55) rfl (by kernel_rfl) (by kernel_rfl) (by kernel_rfl) (by kernel_rfl) (fun _ _ _ h => h) (Or.inl ⟨by rfl, ?_⟩) ?_
              rotate_left
              · (intro w; go_simp; try with_reducible rfl)
              try simp only [Act.put, List.setIfInBounds_toArray, List.set_cons_zero, List.set_cons_succ]
              refine take_put (i := 4) (v := ?_) (some 56) rfl (by kernel_rfl) (by kernel_rfl) (by kernel_rfl) (by kernel_rfl) (fun _ _ _ h => h) (Or.inl ⟨by rfl, ?_⟩) ?_
              rotate_left
              · (intro w; go_simp; try with_reducible rfl)
              try simp only [Act.put, List.setIfInBounds_toArray, List.set_cons_zero, List.set_cons_succ]
              refine take_put (i := 6) (v := ?_) (some 58) rfl (by kernel_rfl) (by kernel_rfl) (by kernel_rfl) (by kernel_rfl) (fun _ _ _ h => h) (Or.inl ⟨by rfl, ?_⟩) ?_
              rotate_left
              · (intro w; go_simp; try with_reducible rfl)
              try simp only [Act.put, List.setIfInBounds_toArray, List.set_cons_zero, List.set_cons_succ]
              refine take_put (i := 7) (v := ?_) (some 59) rfl (by kernel_rfl) (by kernel_rfl) (by kernel_rfl) (by kernel_rfl) (fun _ _ _ h => h) (Or.inl ⟨by rfl, ?_⟩) ?_
              rotate_left
              · (intro w; go_simp; try with_reducible rfl)
              try simp only [Act.put, List.setIfInBounds_toArray, List.set_cons_zero, List.set_cons_succ]
              refine take_put (i := 8) (v := ?_) (some 60) rfl (by kernel_rfl) (by kernel_rfl) (by kernel_rfl) (by kernel_rfl) (fun _ _ _ h => h) (Or.inl ⟨by rfl, ?_⟩) ?_
              rotate_left
              · (intro w; go_simp; try with_reducible rfl)
              try simp only [Act.put, List.setIfInBounds_toArray, List.set_cons_zero, List.set_cons_succ]
              refine take_put (i := 9) (v := ?_) (some 61) rfl (by kernel_rfl) (by kernel_rfl) (by kernel_rfl) (by kernel_rfl) (fun _ _ _ h => h) (Or.inl ⟨by rfl, ?_⟩) ?_
              rotate_left
              · (intro w; go_simp; try with_reducible rfl)
              try simp only [Act.put, List.setIfInBounds_toArray, List.set_cons_zero, List.set_cons_succ]
              refine wpAny_ready (rs := [5, 10]) (by kernel_rfl) (by simp) ?_
              refine AllReady.cons rfl (fun K hK => ?_) (AllReady.cons rfl (fun K hK => ?_) AllReady.nil)
              · have cl := d1
                go_simp
                clear cl
                refine hK _ _ ?_
                clear hK K
                try simp only [Act.put, List.getElem_toArray, List.getElem_cons_succ, List.getElem_cons_zero, List.setIfInBounds_toArray, List.set_cons_zero, List.set_cons_succ]
                refine wpAny_ready (rs := [10]) (by kernel_rfl) (by simp) ?_
                refine AllReady.cons rfl (fun K hK => ?_) AllReady.nil
                have cl := d2
                go_simp
                clear cl
                refine hK _ _ ?_
                clear hK K
                try simp only [Act.put, List.getElem_toArray, List.getElem_cons_succ, List.getElem_cons_zero, List.setIfInBounds_toArray, List.set_cons_zero, List.set_cons_succ]
                refine wpAny_ready (rs := [11]) (by kernel_rfl) (by simp) ?_
                refine AllReady.cons rfl (fun K hK => ?_) AllReady.nil
                go_simp
                refine Calls.mono HSC.out ?_
                rintro e w3 ⟨he, hw3, hg3⟩
                subst he
                have hU3 : Du w3 d D := HOD.out.du.grown hg3 (fun e => HNE.out.1 e.symm)
                have hB3 : Below w.heap.size w w3 := Below.of_grown HOD.out.low hg3 HNE.out.2.2.2.2 HOD.out.low.size
                have hT3 : Tab w3 := HOD.out.tab.grown hg3 HNE.out.2.1
                have hbw : Below w.heap.size wr w3 := (below_drew (Below.refl _ _)).trans ((Below.refl _ _).grown hg3 HOD.out.low.size (fun k hk => by simp only [Option.some.injEq] at hk; have := HNE.out; omega))
                obtain ⟨k0, k1, k2⟩ := HC0.out w3 hB3.size hbw
                have HW3 : Hid (WW w3 g 0 (setT T id at_)) := hw3.out
                have HU3 : Hid (Du w3 d D) := hU3
                have HB3 : Hid (Below w.heap.size w w3) := hB3
                have HT3 : Hid (Tab w3) := hT3
                clear hw3 hg3 hU3 hB3 hT3 hbw c0 c1 c2
                refine hK _ _ ?_
                clear hK K
                try simp only [Act.put, List.getElem_toArray, List.getElem_cons_succ, List.getElem_cons_zero, List.setIfInBounds_toArray, List.set_cons_zero, List.set_cons_succ]
                refine take_put (i := 12) (v := ?_) (some 64) rfl (by kernel_rfl) (by kernel_rfl) (by kernel_rfl) (by kernel_rfl) (fun _ _ _ h => h) (Or.inl ⟨by rfl, ?_⟩) ?_
                rotate_left
                · (intro w; go_simp; try with_reducible rfl)
                try simp only [Act.put, List.setIfInBounds_toArray, List.set_cons_zero, List.set_cons_succ]
                refine wpAny_done (by kernel_rfl) ?_ _
                by_cases hc : namedB id = true ∧ 0 ≤ at_ ∧ at_ ≤ 1099511627776
                · have hE : E = 0 := by rw [HE.out, setE_good hc]
                  subst hE
                  obtain ⟨hid1, hid2⟩ := (named_iff id).1 hc.1
                  have HST : Hid (setT T id at_ = upd T (id.toNat - 1) (some at_.toNat)) := by (show _ = _); unfold setT; rw [if_pos hc, show (id - 1).toNat = id.toNat - 1 from by omega]
                  obtain ⟨x, rfl⟩ : ∃ x : Nat, id = (x : Int) := ⟨id.toNat, by omega⟩
                  obtain ⟨t, rfl⟩ : ∃ t : Nat, at_ = (t : Int) := ⟨at_.toNat, by omega⟩
                  rw [Int.toNat_natCast, Int.toNat_natCast] at HST
                  have p0 : (0 : Int) ≤ (x : Int) := by omega
                  have p1 : (x : Int) < 65 := by omega
                  have HO4 : Hid (On w (w3.drew.setCell ⟨d, x, none⟩ (.int .i64 (t : Int))) g d 0 (upd T (x - 1) (some t)) (D.set x (t : Int))) := by
                    have := HW3.out
                    rw [HST.out] at this
                    have hw3 : WW w3.drew g 0 (upd T (x - 1) (some t)) := this.stay (below_drew (Below.refl _ _))
                    have hu3 : Du w3.drew d D := HU3.out.stay (below_drew (Below.refl _ _))
                    exact ⟨hw3.grown (grown_cell _ _ _ _) HNE.out.1, hu3.set x (t : Int), HOD.out.dt.upd HOD.out.du.len (by omega) (some t), (HT3.out.below (Nat.lt_of_le_of_lt (Nat.zero_le _) HW3.out.lt) (below_drew (Below.refl _ _))).grown (grown_cell _ _ _ _) HNE.out.2.2.1, (below_drew HB3.out).setCell HNE.out.2.2.2.1 _⟩
                  have x1 : w3.drew.cell? ⟨gl, o + i * 3 + 1, none⟩ = some (.int .i64 (x : Int)) := k1
                  have x2 : w3.drew.cell? ⟨gl, o + i * 3 + 2, none⟩ = some (.int .i64 (t : Int)) := k2
                  have x3 : w3.drew.cell? ⟨d, x, none⟩ = some (.int .i64 (D.getD x 0)) := HU3.out.cell (i := x) (by omega)
                  have f3 : w3.drew.frozen? ⟨d, x, none⟩ = false := HU3.out.free _
                  clear hc k0 k1 k2 d1 d2 HSC
                  go_wp2
                  refine wp_region_any (by kernel_rfl) ?_
                  change wpAny _ _ _ _ _ _ _ (World.drew _)
                  refine take_put (i := 0) (v := ?_) (some 65) rfl (by kernel_rfl) (by kernel_rfl) (by kernel_rfl) (by kernel_rfl) (fun _ _ _ h => h) (Or.inl ⟨by rfl, ?_⟩) ?_
                  rotate_left
                  · (intro w; go_simp; try with_reducible rfl)
                  try simp only [Act.put, List.setIfInBounds_toArray, List.set_cons_zero, List.set_cons_succ]
                  refine take_put (i := 1) (v := ?_) (some 66) rfl (by kernel_rfl) (by kernel_rfl) (by kernel_rfl) (by kernel_rfl) (fun _ _ _ h => h) (Or.inl ⟨by rfl, ?_⟩) ?_
                  rotate_left
                  · (intro w; go_simp; try with_reducible rfl)
                  try simp only [Act.put, List.setIfInBounds_toArray, List.set_cons_zero, List.set_cons_succ]
                  refine take_put (i := 2) (v := ?_) (some 67) rfl (by kernel_rfl) (by kernel_rfl) (by kernel_rfl) (by kernel_rfl) (fun _ _ _ h => h) (Or.inl ⟨by rfl, ?_⟩) ?_
                  rotate_left
                  · (intro w; go_simp; try with_reducible rfl)
                  try simp only [Act.put, List.setIfInBounds_toArray, List.set_cons_zero, List.set_cons_succ]
                  refine take_put (i := 3) (v := ?_) (some 68) rfl (by kernel_rfl) (by kernel_rfl) (by kernel_rfl) (by kernel_rfl) (fun _ _ _ h => h) (Or.inl ⟨by rfl, ?_⟩) ?_
                  rotate_left
                  · (intro w; go_simp; try with_reducible rfl)
                  try simp only [Act.put, List.setIfInBounds_toArray, List.set_cons_zero, List.set_cons_succ]
                  refine take_put (i := 5) (v := ?_) (some 70) rfl (by kernel_rfl) (by kernel_rfl) (by kernel_rfl) (by kernel_rfl) (fun _ _ _ h => h) (Or.inl ⟨by rfl, ?_⟩) ?_
                  rotate_left
                  · (intro w; go_simp; try with_reducible rfl)
                  try simp only [Act.put, List.setIfInBounds_toArray, List.set_cons_zero, List.set_cons_succ]
                  refine take_put (i := 6) (v := ?_) (some 71) rfl (by kernel_rfl) (by kernel_rfl) (by kernel_rfl) (by kernel_rfl) (fun _ _ _ h => h) (Or.inl ⟨by rfl, ?_⟩) ?_
                  rotate_left
                  · (intro w; go_simp; try with_reducible rfl)
                  try simp only [Act.put, List.setIfInBounds_toArray, List.set_cons_zero, List.set_cons_succ]
                  refine take_put (i := 7) (v := ?_) (some 72) rfl (by kernel_rfl) (by kernel_rfl) (by kernel_rfl) (by kernel_rfl) (fun _ _ _ h => h) (Or.inl ⟨by rfl, ?_⟩) ?_
                  rotate_left
                  · (intro w; go_simp; try with_reducible rfl)
                  try simp only [Act.put, List.setIfInBounds_toArray, List.set_cons_zero, List.set_cons_succ]
                  refine take_put (i := 8) (v := ?_) (some 73) rfl (by kernel_rfl) (by kernel_rfl) (by kernel_rfl) (by kernel_rfl) (fun _ _ _ h => h) (Or.inl ⟨by rfl, ?_⟩) ?_
                  rotate_left
                  · (intro w; go_simp; try with_reducible rfl)
                  try simp only [Act.put, List.setIfInBounds_toArray, List.set_cons_zero, List.set_cons_succ]
                  refine wpAny_ready (rs := [4, 9]) (by kernel_rfl) (by simp) ?_
                  refine AllReady.cons rfl (fun K hK => ?_) (AllReady.cons rfl (fun K hK => ?_) AllReady.nil)
                  · have cl := x1
                    go_simp
                    clear cl
                    refine hK _ _ ?_
                    clear hK K
                    try simp only [Act.put, List.getElem_toArray, List.getElem_cons_succ, List.getElem_cons_zero, List.setIfInBounds_toArray, List.set_cons_zero, List.set_cons_succ]
                    refine wpAny_ready (rs := [9]) (by kernel_rfl) (by simp) ?_
                    refine AllReady.cons rfl (fun K hK => ?_) AllReady.nil
                    have cl := x2
                    go_simp
                    clear cl
                    refine hK _ _ ?_
                    clear hK K
                    try simp only [Act.put, List.getElem_toArray, List.getElem_cons_succ, List.getElem_cons_zero, List.setIfInBounds_toArray, List.set_cons_zero, List.set_cons_succ]
                    refine take_put (i := 10) (v := ?_) (some 75) rfl (by kernel_rfl) (by kernel_rfl) (by kernel_rfl) (by kernel_rfl) (fun _ _ _ h => h) (Or.inl ⟨by rfl, ?_⟩) ?_
                    rotate_left
                    · (intro w; go_simp; try with_reducible rfl)
                    try simp only [Act.put, List.setIfInBounds_toArray, List.set_cons_zero, List.set_cons_succ]
                    refine wpAny_ready (rs := [11]) (by kernel_rfl) (by simp) ?_
                    refine AllReady.cons rfl (fun K hK => ?_) AllReady.nil
                    have cl := x3
                    have fl := f3
                    go_simp
                    clear cl fl
                    refine hK _ _ ?_
                    clear hK K
                    try simp only [Act.put, List.getElem_toArray, List.getElem_cons_succ, List.getElem_cons_zero, List.setIfInBounds_toArray, List.set_cons_zero, List.set_cons_succ]
                    refine wpAny_done (by kernel_rfl) ?_ _
                    go_wp2
                    go_roundw
                    case rel => exact ⟨i + 1, _, _, by omega, by omega, by go_num, HO4⟩
                    case measure => (simp [intOf]; omega)
                  · have cl := x2
                    go_simp
                    clear cl
                    refine hK _ _ ?_
                    clear hK K
                    try simp only [Act.put, List.getElem_toArray, List.getElem_cons_succ, List.getElem_cons_zero, List.setIfInBounds_toArray, List.set_cons_zero, List.set_cons_succ]
                    refine wpAny_ready (rs := [4]) (by kernel_rfl) (by simp) ?_
                    refine AllReady.cons rfl (fun K hK => ?_) AllReady.nil
                    have cl := x1
                    go_simp
                    clear cl
                    refine hK _ _ ?_
                    clear hK K
                    try simp only [Act.put, List.getElem_toArray, List.getElem_cons_succ, List.getElem_cons_zero, List.setIfInBounds_toArray, List.set_cons_zero, List.set_cons_succ]
                    refine take_put (i := 10) (v := ?_) (some 75) rfl (by kernel_rfl) (by kernel_rfl) (by kernel_rfl) (by kernel_rfl) (fun _ _ _ h => h) (Or.inl ⟨by rfl, ?_⟩) ?_
                    rotate_left
                    · (intro w; go_simp; try with_reducible rfl)
                    try simp only [Act.put, List.setIfInBounds_toArray, List.set_cons_zero, List.set_cons_succ]
                    refine wpAny_ready (rs := [11]) (by kernel_rfl) (by simp) ?_
                    refine AllReady.cons rfl (fun K hK => ?_) AllReady.nil
                    have cl := x3
                    have fl := f3
                    go_simp
                    clear cl fl
                    refine hK _ _ ?_
                    clear hK K
                    try simp only [Act.put, List.getElem_toArray, List.getElem_cons_succ, List.getElem_cons_zero, List.setIfInBounds_toArray, List.set_cons_zero, List.set_cons_succ]
                    refine wpAny_done (by kernel_rfl) ?_ _
                    go_wp2
                    go_roundw
                    case rel => exact ⟨i + 1, _, _, by omega, by omega, by go_num, HO4⟩
                    case measure => (simp [intOf]; omega)
                · have hE : E = 2 := by rw [HE.out, setE_bad hc]
                  subst hE
                  have HST : Hid (setT T id at_ = T) := by (show _ = _); unfold setT; rw [if_neg hc]
                  have HO4 : Hid (On w w3 g d 0 T D) := by
                    have := HW3.out
                    rw [HST.out] at this
                    exact ⟨this, HU3.out, HOD.out.dt, HT3.out, HB3.out⟩
                  clear hc k0 k1 k2 d1 d2 HSC
                  go_wp2
                  go_roundw
                  case rel => exact ⟨i + 1, T, D, by omega, by omega, by go_num, HO4⟩
                  case measure => (simp [intOf]; omega)
              · have cl := d2
                go_simp
                clear cl
                refine hK _ _ ?_
                clear hK K
                try simp only [Act.put, List.getElem_toArray, List.getElem_cons_succ, List.getElem_cons_zero, List.setIfInBounds_toArray, List.set_cons_zero, List.set_cons_succ]
                refine wpAny_ready (rs := [5]) (by kernel_rfl) (by simp) ?_
                refine AllReady.cons rfl (fun K hK => ?_) AllReady.nil
                have cl := d1
                go_simp
                clear cl
                refine hK _ _ ?_
                clear hK K
                try simp only [Act.put, List.getElem_toArray, List.getElem_cons_succ, List.getElem_cons_zero, List.setIfInBounds_toArray, List.set_cons_zero, List.set_cons_succ]
                refine wpAny_ready (rs := [11]) (by kernel_rfl) (by simp) ?_
                refine AllReady.cons rfl (fun K hK => ?_) AllReady.nil
                go_simp
                refine Calls.mono HSC.out ?_
                rintro e w3 ⟨he, hw3, hg3⟩
                subst he
                have hU3 : Du w3 d D := HOD.out.du.grown hg3 (fun e => HNE.out.1 e.symm)
                have hB3 : Below w.heap.size w w3 := Below.of_grown HOD.out.low hg3 HNE.out.2.2.2.2 HOD.out.low.size
                have hT3 : Tab w3 := HOD.out.tab.grown hg3 HNE.out.2.1
                have hbw : Below w.heap.size wr w3 := (below_drew (Below.refl _ _)).trans ((Below.refl _ _).grown hg3 HOD.out.low.size (fun k hk => by simp only [Option.some.injEq] at hk; have := HNE.out; omega))
                obtain ⟨k0, k1, k2⟩ := HC0.out w3 hB3.size hbw
                have HW3 : Hid (WW w3 g 0 (setT T id at_)) := hw3.out
                have HU3 : Hid (Du w3 d D) := hU3
                have HB3 : Hid (Below w.heap.size w w3) := hB3
                have HT3 : Hid (Tab w3) := hT3
                clear hw3 hg3 hU3 hB3 hT3 hbw c0 c1 c2
                refine hK _ _ ?_
                clear hK K
                try simp only [Act.put, List.getElem_toArray, List.getElem_cons_succ, List.getElem_cons_zero, List.setIfInBounds_toArray, List.set_cons_zero, List.set_cons_succ]
                refine take_put (i := 12) (v := ?_) (some 64) rfl (by kernel_rfl) (by kernel_rfl) (by kernel_rfl) (by kernel_rfl) (fun _ _ _ h => h) (Or.inl ⟨by rfl, ?_⟩) ?_
                rotate_left
                · (intro w; go_simp; try with_reducible rfl)
                try simp only [Act.put, List.setIfInBounds_toArray, List.set_cons_zero, List.set_cons_succ]
                refine wpAny_done (by kernel_rfl) ?_ _
                by_cases hc : namedB id = true ∧ 0 ≤ at_ ∧ at_ ≤ 1099511627776
                · have hE : E = 0 := by rw [HE.out, setE_good hc]
                  subst hE
                  obtain ⟨hid1, hid2⟩ := (named_iff id).1 hc.1
                  have HST : Hid (setT T id at_ = upd T (id.toNat - 1) (some at_.toNat)) := by (show _ = _); unfold setT; rw [if_pos hc, show (id - 1).toNat = id.toNat - 1 from by omega]
                  obtain ⟨x, rfl⟩ : ∃ x : Nat, id = (x : Int) := ⟨id.toNat, by omega⟩
                  obtain ⟨t, rfl⟩ : ∃ t : Nat, at_ = (t : Int) := ⟨at_.toNat, by omega⟩
                  rw [Int.toNat_natCast, Int.toNat_natCast] at HST
                  have p0 : (0 : Int) ≤ (x : Int) := by omega
                  have p1 : (x : Int) < 65 := by omega
                  have HO4 : Hid (On w (w3.drew.setCell ⟨d, x, none⟩ (.int .i64 (t : Int))) g d 0 (upd T (x - 1) (some t)) (D.set x (t : Int))) := by
                    have := HW3.out
                    rw [HST.out] at this
                    have hw3 : WW w3.drew g 0 (upd T (x - 1) (some t)) := this.stay (below_drew (Below.refl _ _))
                    have hu3 : Du w3.drew d D := HU3.out.stay (below_drew (Below.refl _ _))
                    exact ⟨hw3.grown (grown_cell _ _ _ _) HNE.out.1, hu3.set x (t : Int), HOD.out.dt.upd HOD.out.du.len (by omega) (some t), (HT3.out.below (Nat.lt_of_le_of_lt (Nat.zero_le _) HW3.out.lt) (below_drew (Below.refl _ _))).grown (grown_cell _ _ _ _) HNE.out.2.2.1, (below_drew HB3.out).setCell HNE.out.2.2.2.1 _⟩
                  have x1 : w3.drew.cell? ⟨gl, o + i * 3 + 1, none⟩ = some (.int .i64 (x : Int)) := k1
                  have x2 : w3.drew.cell? ⟨gl, o + i * 3 + 2, none⟩ = some (.int .i64 (t : Int)) := k2
                  have x3 : w3.drew.cell? ⟨d, x, none⟩ = some (.int .i64 (D.getD x 0)) := HU3.out.cell (i := x) (by omega)
                  have f3 : w3.drew.frozen? ⟨d, x, none⟩ = false := HU3.out.free _
                  clear hc k0 k1 k2 d1 d2 HSC
                  go_wp2
                  refine wp_region_any (by kernel_rfl) ?_
                  change wpAny _ _ _ _ _ _ _ (World.drew _)
                  refine take_put (i := 0) (v := ?_) (some 65) rfl (by kernel_rfl) (by kernel_rfl) (by kernel_rfl) (by kernel_rfl) (fun _ _ _ h => h) (Or.inl ⟨by rfl, ?_⟩) ?_
                  rotate_left
                  · (intro w; go_simp; try with_reducible rfl)
                  try simp only [Act.put, List.setIfInBounds_toArray, List.set_cons_zero, List.set_cons_succ]
                  refine take_put (i := 1) (v := ?_) (some 66) rfl (by kernel_rfl) (by kernel_rfl) (by kernel_rfl) (by kernel_rfl) (fun _ _ _ h => h) (Or.inl ⟨by rfl, ?_⟩) ?_
                  rotate_left
                  · (intro w; go_simp; try with_reducible rfl)
                  try simp only [Act.put, List.setIfInBounds_toArray, List.set_cons_zero, List.set_cons_succ]
                  refine take_put (i := 2) (v := ?_) (some 67) rfl (by kernel_rfl) (by kernel_rfl) (by kernel_rfl) (by kernel_rfl) (fun _ _ _ h => h) (Or.inl ⟨by rfl, ?_⟩) ?_
                  rotate_left
                  · (intro w; go_simp; try with_reducible rfl)
                  try simp only [Act.put, List.setIfInBounds_toArray, List.set_cons_zero, List.set_cons_succ]
                  refine take_put (i := 3) (v := ?_) (some 68) rfl (by kernel_rfl) (by kernel_rfl) (by kernel_rfl) (by kernel_rfl) (fun _ _ _ h => h) (Or.inl ⟨by rfl, ?_⟩) ?_
                  rotate_left
                  · (intro w; go_simp; try with_reducible rfl)
                  try simp only [Act.put, List.setIfInBounds_toArray, List.set_cons_zero, List.set_cons_succ]
                  refine take_put (i := 5) (v := ?_) (some 70) rfl (by kernel_rfl) (by kernel_rfl) (by kernel_rfl) (by kernel_rfl) (fun _ _ _ h => h) (Or.inl ⟨by rfl, ?_⟩) ?_
                  rotate_left
                  · (intro w; go_simp; try with_reducible rfl)
                  try simp only [Act.put, List.setIfInBounds_toArray, List.set_cons_zero, List.set_cons_succ]
                  refine take_put (i := 6) (v := ?_) (some 71) rfl (by kernel_rfl) (by kernel_rfl) (by kernel_rfl) (by kernel_rfl) (fun _ _ _ h => h) (Or.inl ⟨by rfl, ?_⟩) ?_
                  rotate_left
                  · (intro w; go_simp; try with_reducible rfl)
                  try simp only [Act.put, List.setIfInBounds_toArray, List.set_cons_zero, List.set_cons_succ]
                  refine take_put (i := 7) (v := ?_) (some 72) rfl (by kernel_rfl) (by kernel_rfl) (by kernel_rfl) (by kernel_rfl) (fun _ _ _ h => h) (Or.inl ⟨by rfl, ?_⟩) ?_
                  rotate_left
                  · (intro w; go_simp; try with_reducible rfl)
                  try simp only [Act.put, List.setIfInBounds_toArray, List.set_cons_zero, List.set_cons_succ]
                  refine take_put (i := 8) (v := ?_) (some 73) rfl (by kernel_rfl) (by kernel_rfl) (by kernel_rfl) (by kernel_rfl) (fun _ _ _ h => h) (Or.inl ⟨by rfl, ?_⟩) ?_
                  rotate_left
                  · (intro w; go_simp; try with_reducible rfl)
                  try simp only [Act.put, List.setIfInBounds_toArray, List.set_cons_zero, List.set_cons_succ]
                  refine wpAny_ready (rs := [4, 9]) (by kernel_rfl) (by simp) ?_
                  refine AllReady.cons rfl (fun K hK => ?_) (AllReady.cons rfl (fun K hK => ?_) AllReady.nil)
                  · have cl := x1
                    go_simp
                    clear cl
                    refine hK _ _ ?_
                    clear hK K
                    try simp only [Act.put, List.getElem_toArray, List.getElem_cons_succ, List.getElem_cons_zero, List.setIfInBounds_toArray, List.set_cons_zero, List.set_cons_succ]
                    refine wpAny_ready (rs := [9]) (by kernel_rfl) (by simp) ?_
                    refine AllReady.cons rfl (fun K hK => ?_) AllReady.nil
                    have cl := x2
                    go_simp
                    clear cl
                    refine hK _ _ ?_
                    clear hK K
                    try simp only [Act.put, List.getElem_toArray, List.getElem_cons_succ, List.getElem_cons_zero, List.setIfInBounds_toArray, List.set_cons_zero, List.set_cons_succ]
                    refine take_put (i := 10) (v := ?_) (some 75) rfl (by kernel_rfl) (by kernel_rfl) (by kernel_rfl) (by kernel_rfl) (fun _ _ _ h => h) (Or.inl ⟨by rfl, ?_⟩) ?_
                    rotate_left
                    · (intro w; go_simp; try with_reducible rfl)
                    try simp only [Act.put, List.setIfInBounds_toArray, List.set_cons_zero, List.set_cons_succ]
                    refine wpAny_ready (rs := [11]) (by kernel_rfl) (by simp) ?_
                    refine AllReady.cons rfl (fun K hK => ?_) AllReady.nil
                    have cl := x3
                    have fl := f3
                    go_simp
                    clear cl fl
                    refine hK _ _ ?_
                    clear hK K
                    try simp only [Act.put, List.getElem_toArray, List.getElem_cons_succ, List.getElem_cons_zero, List.setIfInBounds_toArray, List.set_cons_zero, List.set_cons_succ]
                    refine wpAny_done (by kernel_rfl) ?_ _
                    go_wp2
                    go_roundw
                    case rel => exact ⟨i + 1, _, _, by omega, by omega, by go_num, HO4⟩
                    case measure => (simp [intOf]; omega)
                  · have cl := x2
                    go_simp
                    clear cl
                    refine hK _ _ ?_
                    clear hK K
                    try simp only [Act.put, List.getElem_toArray, List.getElem_cons_succ, List.getElem_cons_zero, List.setIfInBounds_toArray, List.set_cons_zero, List.set_cons_succ]
                    refine wpAny_ready (rs := [4]) (by kernel_rfl) (by simp) ?_
                    refine AllReady.cons rfl (fun K hK => ?_) AllReady.nil
                    have cl := x1
                    go_simp
                    clear cl
                    refine hK _ _ ?_
                    clear hK K
                    try simp only [Act.put, List.getElem_toArray, List.getElem_cons_succ, List.getElem_cons_zero, List.setIfInBounds_toArray, List.set_cons_zero, List.set_cons_succ]
                    refine take_put (i := 10) (v := ?_) (some 75) rfl (by kernel_rfl) (by kernel_rfl) (by kernel_rfl) (by kernel_rfl) (fun _ _ _ h => h) (Or.inl ⟨by rfl, ?_⟩) ?_
                    rotate_left
                    · (intro w; go_simp; try with_reducible rfl)
                    try simp only [Act.put, List.setIfInBounds_toArray, List.set_cons_zero, List.set_cons_succ]
                    refine wpAny_ready (rs := [11]) (by kernel_rfl) (by simp) ?_
                    refine AllReady.cons rfl (fun K hK => ?_) AllReady.nil
                    have cl := x3
                    have fl := f3
                    go_simp
                    clear cl fl
                    refine hK _ _ ?_
                    clear hK K
                    try simp only [Act.put, List.getElem_toArray, List.getElem_cons_succ, List.getElem_cons_zero, List.setIfInBounds_toArray, List.set_cons_zero, List.set_cons_succ]
                    refine wpAny_done (by kernel_rfl) ?_ _
                    go_wp2
                    go_roundw
                    case rel => exact ⟨i + 1, _, _, by omega, by omega, by go_num, HO4⟩
                    case measure => (simp [intOf]; omega)
                · have hE : E = 2 := by rw [HE.out, setE_bad hc]
                  subst hE
                  have HST : Hid (setT T id at_ = T) := by (show _ = _); unfold setT; rw [if_neg hc]
                  have HO4 : Hid (On w w3 g d 0 T D) := by
                    have := HW3.out
                    rw [HST.out] at this
                    exact ⟨this, HU3.out, HOD.out.dt, HT3.out, HB3.out⟩
                  clear hc k0 k1 k2 d1 d2 HSC
                  go_wp2
                  go_roundw
                  case rel => exact ⟨i + 1, T, D, by omega, by omega, by go_num, HO4⟩
                  case measure => (simp [intOf]; omega)
            · have e0 : (kd == 0) = false := by rw [beq_eq_false_iff_ne]; exact hk0
              by_cases hk1 : kd = 1
              · subst hk1
                have HDC := ww_Drop wr g 0 T id HO.out.wh
                cases hh : hasT T id with
                | false =>
                  rw [hh] at HDC
                  have HDT : Hid (dropT T id = T) := by (show _ = _); unfold dropT; rw [hh]; rfl
                  clear hh
                  go_wp2_with fail
                  refine HDC.mono ?_
                  rintro e w3 ⟨rfl, hw3, hg3⟩
                  have HO3 : Hid (On w w3 g d 0 T D) := by
                    have := hw3.out
                    rw [HDT.out] at this
                    exact ⟨this, HO.out.du.grown hg3 (fun e => HNE.out.1 e.symm), HO.out.dt, HO.out.tab.grown hg3 HNE.out.2.1, Below.of_grown HO.out.low hg3 HNE.out.2.2.2.2 HO.out.low.size⟩
                  clear HDC hw3 hg3 c0 c1 c2
                  go_wp2
                  go_roundw
                  case rel => exact ⟨i + 1, T, D, by omega, by omega, by go_num, HO3⟩
                  case measure => simp [intOf]; omega
                | true =>
                  rw [hh] at HDC
                  have hn : namedB id = true := by unfold hasT at hh; rw [Bool.and_eq_true] at hh; exact hh.1
                  obtain ⟨hid1, hid2⟩ := (named_iff id).1 hn
                  obtain ⟨x, rfl⟩ : ∃ x : Nat, id = (x : Int) := ⟨id.toNat, by omega⟩
                  have HDT : Hid (dropT T (x : Int) = upd T (x - 1) none) := by (show _ = _); unfold dropT; rw [hh, if_pos rfl, show ((x : Int) - 1).toNat = x - 1 from by omega]
                  have p0 : (0 : Int) ≤ (x : Int) := by omega
                  have p1 : (x : Int) < 65 := by omega
                  clear hh hn
                  go_wp2_with fail
                  refine HDC.mono ?_
                  rintro e w3 ⟨rfl, hw3, hg3⟩
                  have hU3 : Du w3 d D := HO.out.du.grown hg3 (fun e => HNE.out.1 e.symm)
                  have hB3 : Below w.heap.size w w3 := Below.of_grown HO.out.low hg3 HNE.out.2.2.2.2 HO.out.low.size
                  have k1 := hU3.cell (i := x) (by omega)
                  have f1 : w3.frozen? ⟨d, x, none⟩ = false := hU3.free _
                  have hbw : Below w.heap.size wr w3 := (Below.refl _ _).grown hg3 HO.out.low.size (fun k hk => by simp only [Option.some.injEq] at hk; have := HNE.out; omega)
                  obtain ⟨_, k3, _⟩ := HC0.out w3 hB3.size hbw
                  have HO3 : Hid (On w (w3.setCell ⟨d, x, none⟩ (.int .i64 (-1))) g d 0 (upd T (x - 1) none) (D.set x (-1))) := by
                    have := hw3.out
                    rw [HDT.out] at this
                    exact ⟨this.grown (grown_cell _ _ _ _) HNE.out.1, hU3.set x (-1), HO.out.dt.upd HO.out.du.len (by omega) none, (HO.out.tab.grown hg3 HNE.out.2.1).grown (grown_cell _ _ _ _) HNE.out.2.2.1, hB3.setCell HNE.out.2.2.2.1 _⟩
                  clear HDC hw3 hg3 hU3 hB3 hbw c0 c1 c2
                  go_wp2
                  go_roundw
                  case rel => exact ⟨i + 1, _, _, by omega, by omega, by go_num, HO3⟩
                  case measure => simp [intOf]; omega
              · have e1 : (kd == 1) = false := by rw [beq_eq_false_iff_ne]; exact hk1
                go_wp2
                go_roundw
                case rel => exact ⟨i + 1, T, D, by omega, by omega, by go_num, HO⟩
                case measure => simp [intOf]; omega
          · rcases hstop with hs | ⟨hs, hs2⟩
            · have hlt' : ¬ (i : Int) < (len : Int) := by omega
              clear hs
              go_wp2
              go_meet
              exact ⟨T, D, HO⟩
            · have hlt' : (i : Int) < (len : Int) := by omega
              have h300' : ¬ (i : Int) < 300 := by omega
              clear hs hs2
              go_wp2
              go_meet
              exact ⟨T, D, HO⟩
      case rest =>
        obtain ⟨T, D, HO⟩ := hcut
        go_wp2
        go_loopg [10, 11] 202 (fun k t10 t11 wr => ∃ (i A : Nat) (T : Nat → Option Nat) (D : List Int), i ≤ len2 + 1 ∧ i ≤ 201 ∧ k + i = 202 ∧ t10 = .int .i64 (A : Int) ∧ t11 = .int .i64 (i : Int) ∧ Hid ((i ≤ len2 ∧ i ≤ 200 → A ≤ i * 65535) ∧ (¬ (i ≤ len2 ∧ i ≤ 200) → A = 1099511627776)) ∧ Hid (i = 0 ∨ ∀ q e, q < 64 → T q = some e → A < e) ∧ Hid (On w wr g d A T D))
        case atStart => exact ⟨0, 0, T, D, by omega, by omega, by omega, rfl, rfl, ⟨fun _ => by omega, fun h => absurd ⟨by omega, by omega⟩ h⟩, .inl rfl, HO⟩
        case round =>
          obtain ⟨i, A, T, D, hi1, hi2, hgk, rfl, rfl, HAB, HLF, HOr⟩ := hrel
          obtain ⟨W, hW⟩ : ∃ W, W = wr := ⟨_, rfl⟩
          rw [← hW] at HOr ⊢
          have HOW := HOr
          clear hW HOr
          by_cases hgo : i ≤ len2 ∧ i ≤ 200
          · have g1 : (i : Int) ≤ (len2 : Int) := by omega
            have g2 : (i : Int) ≤ 200 := by omega
            have hA : A ≤ i * 65535 := HAB.out.1 hgo
            have hor : (i < len2 ∧ i < 200) ∨ ¬ i < len2 ∨ (i < len2 ∧ ¬ i < 200) := by omega
            obtain ⟨bb, hbb⟩ : ∃ bb : Bool, bb = decide (i < len2 ∧ i < 200) := ⟨_, rfl⟩
            have HBB : Hid (bb = decide (i < len2 ∧ i < 200)) := hbb
            clear hbb
            go_upto_region 24 with fail
            go_cut [110] from 92 to 194 (fun v110 wx => v110 = .bool bb ∧ wx = W)
            case first =>
              rcases hor with ⟨s1, s2⟩ | s1 | ⟨s1, s2⟩
              · have s1' : (i : Int) < (len2 : Int) := by omega
                have s2' : (i : Int) < 200 := by omega
                go_wp2
                go_meet
                exact ⟨congrArg Value.bool ((decide_eq_true (p := i < len2 ∧ i < 200) ⟨s1, s2⟩).symm.trans HBB.out.symm), rfl⟩
              · have s1' : ¬ (i : Int) < (len2 : Int) := by omega
                go_wp2
                go_meet
                exact ⟨congrArg Value.bool ((decide_eq_false (p := i < len2 ∧ i < 200) (fun h => s1 h.1)).symm.trans HBB.out.symm), rfl⟩
              · have s1' : (i : Int) < (len2 : Int) := by omega
                have s2' : ¬ (i : Int) < 200 := by omega
                go_wp2
                go_meet
                exact ⟨congrArg Value.bool ((decide_eq_false (p := i < len2 ∧ i < 200) (fun h => s2 h.2)).symm.trans HBB.out.symm), rfl⟩
            case rest =>
            obtain ⟨rfl, hwc⟩ := hcut
            rw [hwc]
            clear hwc
            go_upto_if 110 with fail
            go_cut [10] from 92 to 194 (fun v10 wx => ∃ AT : Nat, v10 = .int .i64 (AT : Int) ∧ Hid (A ≤ AT ∧ AT ≤ 1099511627776) ∧ Hid ((i + 1 ≤ len2 ∧ i + 1 ≤ 200 → AT ≤ (i + 1) * 65535) ∧ (¬ (i + 1 ≤ len2 ∧ i + 1 ≤ 200) → AT = 1099511627776)) ∧ wx = W)
            case first =>
              cases bb with
              | true =>
                have hs : i < len2 ∧ i < 200 := of_decide_eq_true HBB.out.symm
                have s1' : (i : Int) < (len2 : Int) := by omega
                have i00 : (0 : Int) ≤ (i : Int) := by omega
                obtain ⟨gs, os, rfl, st, hst, c0⟩ := (HL2.out.below HOW.out.low).spot i hs.1
                obtain ⟨AT, hAT⟩ : ∃ AT, AT = A + st := ⟨_, rfl⟩
                have q1 : (A : Int) + (st : Int) = (AT : Int) := by omega
                have q2 : IntKind.i64.wrap (AT : Int) = (AT : Int) := by rw [IntKind.wrap_i64]; omega
                have q3 : IntKind.i64.wrap (st : Int) = (st : Int) := by rw [IntKind.wrap_i64]; omega
                have HAT : Hid (A ≤ AT ∧ AT ≤ 1099511627776) := by (show _ ∧ _); omega
                have HBD : Hid ((i + 1 ≤ len2 ∧ i + 1 ≤ 200 → AT ≤ (i + 1) * 65535) ∧ (¬ (i + 1 ≤ len2 ∧ i + 1 ≤ 200) → AT = 1099511627776)) := ⟨fun _ => by omega, fun h => absurd ⟨by omega, by omega⟩ h⟩
                clear hAT hst hs
                go_wp2
                go_meet
                exact ⟨AT, rfl, HAT, HBD, rfl⟩
              | false =>
                have hs : ¬ (i < len2 ∧ i < 200) := of_decide_eq_false HBB.out.symm
                have HAT : Hid (A ≤ 1099511627776 ∧ 1099511627776 ≤ 1099511627776) := ⟨by omega, Nat.le_refl _⟩
                have HS : Hid (¬ (i < len2 ∧ i < 200)) := hs
                clear hs
                go_wp2
                go_meet
                exact ⟨1099511627776, rfl, HAT, ⟨fun h => absurd h (fun h => HS.out ⟨by omega, by omega⟩), fun _ => rfl⟩, rfl⟩
            case rest =>
            obtain ⟨AT, rfl, HAT, HBD, hwc⟩ := hcut
            rw [hwc]
            clear hwc
            have HAD := ww_Advance W g A T AT HOW.out.wh HOW.out.tab HNE.out.2.1 HAT.out.1 HAT.out.2
            go_wp2_with fail
            refine HAD.mono ?_
            rintro e w3 ⟨v3, rfl, hw3, ho3, hg3⟩
            obtain ⟨L, ho3, ht3, hl3⟩ := ho3.out
            obtain ⟨a3, n3, c3, rfl⟩ := own_slice ho3
            obtain ⟨BS, hBS⟩ : ∃ BS, BS = W.heap.size := ⟨_, rfl⟩
            rw [← hBS] at ho3
            have HBS : Hid (g < BS ∧ d < BS ∧ w.heap.size ≤ BS) := by (show _ ∧ _); rw [hBS]; exact ⟨HOW.out.wh.lt, HOW.out.du.blk.lt, HOW.out.low.size⟩
            have HW3 : Hid (WW w3 g AT (advT T AT)) := hw3.out
            have HU3 : Hid (Du w3 d D) := HOW.out.du.grown hg3 (fun e => HNE.out.1 e.symm)
            have HT3 : Hid (Tab w3) := HOW.out.tab.grown hg3 HNE.out.2.1
            have HB3 : Hid (Below w.heap.size w w3) := Below.of_grown HOW.out.low hg3 HNE.out.2.2.2.2 HOW.out.low.size
            have HO3 : Hid (w3.ownsRow BS 3 1 (.slice a3 n3 c3) L.length (vi L)) := ho3
            have HTL : Hid (Told T AT L) := ht3
            have HDT : Hid (DT D T) := HOW.out.dt
            have hn3 := own_n ho3
            have HN3 : Hid (n3 = L.length) := hn3
            have hn64 : n3 ≤ 64 := by omega
            have HCE : Hid (∀ w' : World, w'.ownsRow BS 3 1 (.slice a3 n3 c3) L.length (vi L) → ∀ k, k < n3 → ∃ ka, a3 = some ⟨ka, 0, none⟩ ∧ BS ≤ ka ∧ w'.cell? ⟨ka, k, none⟩ = some (.int .i64 ((L.getD k 0 : Nat) : Int))) := fun w' ho k hk => by
              have hkl : k < L.length := by have := HN3.out; omega
              rcases ho.2 with ⟨h3, h4⟩ | ⟨ka, c', cur, h3, h4, _⟩
              · omega
              · simp only [Value.slice.injEq] at h3
                obtain ⟨rfl, _, _⟩ := h3
                refine ⟨ka, rfl, h4, ?_⟩
                rw [HN3.out] at ho
                rw [ho.cellAt k (by rw [Nat.mul_one]; exact hkl), vi, List.getElem?_map, List.getD_eq_getElem?_getD, List.getElem?_eq_getElem hkl]
                rfl
            clear HAD hw3 ho3 hg3 ht3 hl3 hBS hn3
            go_wp2
            go_loopw [15] (fun t15 wr => ∃ (k : Nat), k ≤ n3 ∧ t15 = .int .i64 (k : Int) ∧ wr = w3) (fun t15 _ => n3 - (intOf t15).toNat)
            case atStart => exact ⟨0, by omega, rfl, rfl⟩
            case round =>
              obtain ⟨k, hk, rfl, hwr⟩ := hrel
              rw [hwr]
              clear hwr
              by_cases hkn : k < n3
              · have hkn' : (k : Int) < (n3 : Int) := by omega
                have k0 : (0 : Int) ≤ (k : Int) := by omega
                obtain ⟨ka, rfl, _, e1⟩ := HCE.out w3 HO3.out k hkn
                obtain ⟨x1, x2, dx, x3, x4, x5⟩ := told_at (k := k) HTL.out HDT.out (by have := HN3.out; omega)
                obtain ⟨x, hx⟩ : ∃ x, x = L.getD k 0 := ⟨_, rfl⟩
                rw [← hx] at e1 x1 x2 x3 x5
                have HX3 : Hid (T (x - 1) = some dx) := x3
                have HXL : Hid (x = L.getD k 0) := hx
                have p0 : (0 : Int) ≤ (x : Int) := by omega
                have p1 : (x : Int) < 65 := by omega
                have e2 : w3.cell? ⟨d, x, none⟩ = some (.int .i64 (dx : Int)) := by rw [← x5]; exact HU3.out.cell (i := x) (by omega)
                have r1 : ¬ (dx : Int) < 0 := by omega
                have r2 : ¬ (AT : Int) < (dx : Int) := by omega
                have HII : Hid (0 < i → A < dx) := fun hpi => by
                  rcases HLF.out with h | h
                  · omega
                  · exact h _ _ (by omega) HX3.out
                have HPV : Hid (k = 0 ∨ ∃ y dy, 1 ≤ y ∧ y ≤ 64 ∧ k - 1 + 1 = k ∧ w3.cell? ⟨ka, k - 1, none⟩ = some (.int .i64 ((y : Nat) : Int)) ∧ w3.cell? ⟨d, y, none⟩ = some (.int .i64 ((dy : Nat) : Int)) ∧ dy ≤ dx) := by
                  by_cases c : k = 0
                  · exact .inl c
                  · right
                    obtain ⟨ka2, e, _, f1⟩ := HCE.out w3 HO3.out (k - 1) (by omega)
                    cases e
                    obtain ⟨y1, y2, dy, y3, y4, y5⟩ := told_at (k := k - 1) HTL.out HDT.out (by have := HN3.out; omega)
                    refine ⟨_, dy, y1, y2, by omega, f1, by rw [← y5]; exact HU3.out.cell (i := L.getD (k - 1) 0) (by omega), ?_⟩
                    refine told_rise (k := k - 1) HTL.out (by have := HN3.out; omega) y3 ?_
                    rw [show k - 1 + 1 = k from by omega, ← HXL.out]
                    exact HX3.out
                clear x3 x5 hx
                by_cases hi0 : 0 < i
                · have i0 : (0 : Int) < (i : Int) := by omega
                  have i1 : ¬ (dx : Int) ≤ (A : Int) := by have := HII.out hi0; omega
                  clear hi0
                  by_cases hk0 : k = 0
                  · have z0 : ¬ (0 : Int) < (k : Int) := by omega
                    clear hk0
                    go_wp2
                    go_roundw
                    case rel => exact ⟨k + 1, by omega, by go_num, by trivial⟩
                    case measure => (simp [intOf]; omega)
                  · obtain ⟨y, dy, y1, y2, _, f1, f2, f3⟩ := HPV.out.resolve_left hk0
                    obtain ⟨km, hkm⟩ : ∃ km, km = k - 1 := ⟨_, rfl⟩
                    rw [← hkm] at f1
                    have z0 : (0 : Int) < (k : Int) := by omega
                    have q1 : (k : Int) - 1 = (km : Int) := by omega
                    have q2 : IntKind.i64.wrap (km : Int) = (km : Int) := by rw [IntKind.wrap_i64]; omega
                    have q3 : (0 : Int) ≤ (km : Int) := by omega
                    have q4 : (km : Int) < (n3 : Int) := by omega
                    have q5 : (0 : Int) ≤ (y : Int) := by omega
                    have q6 : (y : Int) < 65 := by omega
                    have q7 : ¬ (dx : Int) < (dy : Int) := by omega
                    clear hkm
                    clear hk0
                    go_wp2
                    go_roundw
                    case rel => exact ⟨k + 1, by omega, by go_num, by trivial⟩
                    case measure => (simp [intOf]; omega)
                · have i0 : ¬ (0 : Int) < (i : Int) := by omega
                  clear hi0
                  by_cases hk0 : k = 0
                  · have z0 : ¬ (0 : Int) < (k : Int) := by omega
                    clear hk0
                    go_wp2
                    go_roundw
                    case rel => exact ⟨k + 1, by omega, by go_num, by trivial⟩
                    case measure => (simp [intOf]; omega)
                  · obtain ⟨y, dy, y1, y2, _, f1, f2, f3⟩ := HPV.out.resolve_left hk0
                    obtain ⟨km, hkm⟩ : ∃ km, km = k - 1 := ⟨_, rfl⟩
                    rw [← hkm] at f1
                    have z0 : (0 : Int) < (k : Int) := by omega
                    have q1 : (k : Int) - 1 = (km : Int) := by omega
                    have q2 : IntKind.i64.wrap (km : Int) = (km : Int) := by rw [IntKind.wrap_i64]; omega
                    have q3 : (0 : Int) ≤ (km : Int) := by omega
                    have q4 : (km : Int) < (n3 : Int) := by omega
                    have q5 : (0 : Int) ≤ (y : Int) := by omega
                    have q6 : (y : Int) < 65 := by omega
                    have q7 : ¬ (dx : Int) < (dy : Int) := by omega
                    clear hkm
                    clear hk0
                    go_wp2
                    go_roundw
                    case rel => exact ⟨k + 1, by omega, by go_num, by trivial⟩
                    case measure => (simp [intOf]; omega)
              · obtain rfl : k = n3 := by omega
                have hkn' : ¬ (k : Int) < (k : Int) := by omega
                go_wp2
                go_loopw [17] (fun t17 wr => ∃ (j : Nat) (D' : List Int), j ≤ k ∧ t17 = .int .i64 (j : Int) ∧ Hid (∀ y, 1 ≤ y → y ≤ 64 → D'.getD y 0 = if y ∈ L.take j then -1 else D.getD y 0) ∧ Hid (Du wr d D') ∧ Hid (WW wr g AT (advT T AT)) ∧ Hid (Tab wr) ∧ Hid (wr.ownsRow BS 3 1 (.slice a3 k c3) L.length (vi L)) ∧ Hid (Below w.heap.size w wr)) (fun t17 _ => k - (intOf t17).toNat)
                case atStart => exact ⟨0, D, by omega, rfl, fun y h1 h2 => by simp, HU3, HW3, HT3, HO3, HB3⟩
                case round =>
                  obtain ⟨j, D', hj, rfl, HDJ, HUr, HWr, HTr, HOr, HBr⟩ := hrel
                  by_cases hjk : j < k
                  · have hjk' : (j : Int) < (k : Int) := by omega
                    have j0 : (0 : Int) ≤ (j : Int) := by omega
                    obtain ⟨ka, rfl, hka, e1⟩ := HCE.out wr HOr.out j hjk
                    obtain ⟨x1, x2, _⟩ := told_at (k := j) HTL.out HDT.out (by have := HN3.out; omega)
                    obtain ⟨x, hx⟩ : ∃ x, x = L.getD j 0 := ⟨_, rfl⟩
                    rw [← hx] at e1 x1 x2
                    have HXL : Hid (x = L.getD j 0) := hx
                    have p0 : (0 : Int) ≤ (x : Int) := by omega
                    have p1 : (x : Int) < 65 := by omega
                    have e2 := HUr.out.cell (i := x) (by omega)
                    have f2 : wr.frozen? ⟨d, x, none⟩ = false := HUr.out.free _
                    have HU4 : Hid (Du (wr.setCell ⟨d, x, none⟩ (.int .i64 (-1))) d (D'.set x (-1))) := HUr.out.set x (-1)
                    have HW4 : Hid (WW (wr.setCell ⟨d, x, none⟩ (.int .i64 (-1))) g AT (advT T AT)) := HWr.out.grown (grown_cell _ _ _ _) HNE.out.1
                    have HT4 : Hid (Tab (wr.setCell ⟨d, x, none⟩ (.int .i64 (-1)))) := HTr.out.grown (grown_cell _ _ _ _) HNE.out.2.2.1
                    have HO4 : Hid ((wr.setCell ⟨d, x, none⟩ (.int .i64 (-1))).ownsRow BS 3 1 (.slice (some ⟨ka, 0, none⟩) k c3) L.length (vi L)) := own_stay HOr.out (fun q hq => heap_setCell_other _ _ _ _ (by have := (HOr.out.lt q hq).1; have := HBS.out; show q ≠ d; omega))
                    have HB4 : Hid (Below w.heap.size w (wr.setCell ⟨d, x, none⟩ (.int .i64 (-1)))) := HBr.out.setCell HNE.out.2.2.2.1 _
                    have HDJ4 : Hid (∀ y, 1 ≤ y → y ≤ 64 → (D'.set x (-1)).getD y 0 = if y ∈ L.take (j + 1) then -1 else D.getD y 0) := fun y h1 h2 => by
                      have hjl : j < L.length := by have := HN3.out; omega
                      have ht : L.take (j + 1) = L.take j ++ [x] := by
                        rw [List.take_add_one, List.getElem?_eq_getElem hjl, HXL.out, List.getD_eq_getElem?_getD, List.getElem?_eq_getElem hjl]
                        rfl
                      rw [getDi_set _ _ _ _ (by rw [HUr.out.len]; omega), ht]
                      by_cases c : y = x
                      · rw [if_pos c, if_pos (by rw [c]; simp)]
                      · rw [if_neg c, HDJ.out y h1 h2]
                        by_cases c2 : y ∈ L.take j
                        · rw [if_pos c2, if_pos (by simp [c2])]
                        · rw [if_neg c2, if_neg (by simp only [List.mem_append, List.mem_singleton, not_or]; exact ⟨c2, c⟩)]
                    clear hx
                    go_wp2
                    go_roundw
                    case rel => exact ⟨j + 1, _, by omega, by go_num, HDJ4, HU4, HW4, HT4, HO4, HB4⟩
                    case measure => (simp [intOf]; omega)
                  · obtain rfl : j = k := by omega
                    have hjk' : ¬ (j : Int) < (j : Int) := by omega
                    have HON : Hid (On w wr g d AT (advT T AT) D') := ⟨HWr.out, HUr.out, HDT.out.adv HTL.out (fun y h1 h2 => by rw [HDJ.out y h1 h2, List.take_of_length_le (by have := HN3.out; omega)]), HTr.out, HBr.out⟩
                    obtain ⟨W5, hW5⟩ : ∃ W5, W5 = wr := ⟨_, rfl⟩
                    rw [← hW5] at HON ⊢
                    clear hW5 HDJ HUr HWr HTr HOr HBr
                    go_wp2
                    go_loopw [18] (fun t18 wr => ∃ (x : Nat), 1 ≤ x ∧ x ≤ 65 ∧ t18 = .int .i64 (x : Int) ∧ wr = W5) (fun t18 _ => 65 - (intOf t18).toNat)
                    case atStart => exact ⟨1, by omega, by omega, rfl, rfl⟩
                    case round =>
                      obtain ⟨x, hx1, hx2, rfl, hwr⟩ := hrel
                      rw [hwr]
                      clear hwr
                      by_cases hx : x ≤ 64
                      · have hx' : (x : Int) ≤ 64 := by omega
                        have p0 : (0 : Int) ≤ (x : Int) := by omega
                        have p1 : (x : Int) < 65 := by omega
                        have e2 := HON.out.du.cell (i := x) (by omega)
                        have hdx := HON.out.dt (x - 1) (by omega)
                        rw [show x - 1 + 1 = x from by omega] at hdx
                        rw [hdx] at e2
                        cases hTx : advT T AT (x - 1) with
                        | none =>
                          rw [hTx] at e2
                          have e3 : W5.cell? ⟨d, x, none⟩ = some (.int .i64 (-1)) := e2
                          clear e2 hdx hTx
                          go_wp2
                          go_roundw
                          case rel => exact ⟨x + 1, by omega, by omega, by go_num, by trivial⟩
                          case measure => (simp [intOf]; omega)
                        | some dx =>
                          rw [hTx] at e2
                          have e3 : W5.cell? ⟨d, x, none⟩ = some (.int .i64 (dx : Int)) := e2
                          have hlt := (adv_some hTx).2
                          have r1 : (0 : Int) ≤ (dx : Int) := by omega
                          have r2 : ¬ (dx : Int) ≤ (AT : Int) := by omega
                          clear e2 hdx hTx
                          go_wp2
                          go_roundw
                          case rel => exact ⟨x + 1, by omega, by omega, by go_num, by trivial⟩
                          case measure => (simp [intOf]; omega)
                      · obtain rfl : x = 65 := by omega
                        have hx' : ¬ ((65 : Nat) : Int) ≤ 64 := by omega
                        go_wp2
                        go_roundg (202 - (i + 1))
                        case measure => omega
                        case rel => exact ⟨i + 1, AT, _, _, by omega, by omega, by omega, by go_num, by go_num, HBD.out, .inr (fun q e hq hqe => (adv_some hqe).2), HON⟩
          · have HAM : Hid (A = 1099511627776) := HAB.out.2 hgo
            have HNO : Hid (∀ q, q < 64 → T q = none) := fun q hq => by
              cases hT : T q with
              | none => rfl
              | some e =>
                have h1 := WW.due HOW.out.wh hq hT
                rcases HLF.out with h2 | h2
                · omega
                · have := h2 q e hq hT
                  have := HAM.out
                  omega
            have hor : ¬ i ≤ len2 ∨ (i ≤ len2 ∧ ¬ i ≤ 200) := by omega
            rcases hor with s1 | ⟨s1, s2⟩
            · have s1' : ¬ (i : Int) ≤ (len2 : Int) := by omega
              go_wp2_with fail
              refine (law_live12 W HOW.out.tab (Nat.lt_of_lt_of_le HZ.out HOW.out.low.size)).mono ?_
              rintro e w5 ⟨rfl, hb5⟩
              have HO5 : Hid (On w w5 g d A T D) := HOW.out.stay hb5
              clear hb5
              have HI := ww_Ids w5 g A T HO5.out.wh HO5.out.tab
              rw [ids_none HNO.out] at HI
              go_wp2_with fail
              refine HI.mono ?_
              rintro e w6 ⟨v6, rfl, ho6, hb6⟩
              obtain ⟨a6, n6, c6, rfl⟩ := own_slice ho6.out
              obtain rfl : n6 = 0 := own_n (l := []) ho6.out
              have HB6 : Hid (Below w.heap.size w w6) := HO5.out.low.trans (hb6.mono HO5.out.low.size)
              clear HI ho6 hb6
              go_wp2
              go_ret
              exact ⟨rfl, HB6.out⟩
            · have s1' : (i : Int) ≤ (len2 : Int) := by omega
              have s2' : ¬ (i : Int) ≤ 200 := by omega
              go_wp2_with fail
              refine (law_live12 W HOW.out.tab (Nat.lt_of_lt_of_le HZ.out HOW.out.low.size)).mono ?_
              rintro e w5 ⟨rfl, hb5⟩
              have HO5 : Hid (On w w5 g d A T D) := HOW.out.stay hb5
              clear hb5
              have HI := ww_Ids w5 g A T HO5.out.wh HO5.out.tab
              rw [ids_none HNO.out] at HI
              go_wp2_with fail
              refine HI.mono ?_
              rintro e w6 ⟨v6, rfl, ho6, hb6⟩
              obtain ⟨a6, n6, c6, rfl⟩ := own_slice ho6.out
              obtain rfl : n6 = 0 := own_n (l := []) ho6.out
              have HB6 : Hid (Below w.heap.size w w6) := HO5.out.low.trans (hb6.mono HO5.out.low.size)
              clear HI ho6 hb6
              go_wp2
              go_ret
              exact ⟨rfl, HB6.out⟩

set_option maxRecDepth 100000 in
theorem contract (H : Type) (enc : TypeId × Value → H) (W : World) (base : Nat) (args : Array Value) (ds gs : List (DataW H)) (before : List MemPlace)
    (hval : ∀ (j : Nat) t v, Tryd.f4.params[j]? = some t → args[j]? = some v → Value.okWide Tryd.prog W .any base t v)
    (hW : DataW.Whole enc Tryd.prog Tryd.f4.params.toList Rows.wheelOnceSpec.vars false W args.toList ds gs before) (hL : laidMetH Tryd.prog [("math/bits.deBruijn64tab", Rows.laid_math_bits_deBruijn64tab)] W) :
    Calls Tryd.prog 4 args W fun e W' => ∃ v, e = .returned v ∧ Rows.wheelOnceSpec.post enc Tryd.prog Tryd.f4 false true false false W args v W' := by
  have hW' := hW
  obtain ⟨p, q, hA0, hV, rfl, hfz, hnd⟩ := hW
  have hA : DataW.TrodAll enc Tryd.prog W 0 (fun _ => true) true Tryd.f4.params.toList args.toList ds p := hA0
  have hK := hA
  rw [Tryd.params4] at hA hval
  obtain ⟨v0, vs0, d0, ds0, p0, q0, hargs, rfl, rfl, h0, r0⟩ := trodAll_cons hA
  obtain ⟨v1, vs1, d1, ds1, p1, q1, rfl, rfl, rfl, h1, r1⟩ := trodAll_cons r0
  obtain ⟨rfl, rfl, rfl⟩ := trodAll_nil r1
  obtain rfl : args = #[v0, v1] := by cases args; simp_all
  obtain ⟨rfl, rfl⟩ := trodVars_none hV
  obtain ⟨a0, len0, cap0, rfl⟩ := okWide_slice Tryd.underlying22 (hval 0 22 v0 rfl rfl)
  obtain ⟨l0, rd0, _, _⟩ := open_deeds12 h0
  obtain ⟨a1, len1, cap1, rfl⟩ := okWide_slice Tryd.underlying30 (hval 1 30 v1 rfl rfl)
  obtain ⟨l1, rd1, lm1⟩ := open_steps h1
  have ht := table hL
  have hz : 0 < W.heap.size := World.block_lt_of_cell? W _ (ht 0 (by omega))
  refine (walk a0 len0 cap0 l0 a1 len1 cap1 l1 W rd0 rd1 lm1 ht hz).mono fun e W' ⟨he, bel⟩ => ?_
  subst he
  exact ⟨_, rfl, _, _, _, [], _, [], hW', trodAll_mk1 (shut_bool Tryd.underlying4 _), trodAll_below laidOut bel _ _ _ _ (by kernel_rfl) hK, rfl, bel.frame _, fun h => by cases h⟩

theorem laid_met (os : Os) : laidMet Tryd.prog Rows.wheelOnceRow.laid ((layTab (World.holding Tryd.prog os ⟨#[], #[], []⟩)).forCall (fun _ _ => 0) ⟨#[], #[.slice none 0 0, .slice none 0 0], []⟩).memory :=
  laidMet_of_run' 8 (by kernel_rfl) (by kernel_rfl)
theorem reads (os : Os) {H : Type} (enc : TypeId × Value → H) : ∃ places, DataW.whole enc Tryd.prog ((layTab (World.holding Tryd.prog os ⟨#[], #[], []⟩)).forCall (fun _ _ => 0) ⟨#[], #[.slice none 0 0, .slice none 0 0], []⟩).memory Tryd.f4.params.toList Rows.wheelOnceSpec.vars false (#[.slice none 0 0, .slice none 0 0] : Array Value).toList 8 = some ([.nil, .nil], [], places) :=
  ⟨[], by kernel_rfl⟩

set_option maxRecDepth 100000 in
theorem lifted (os : Os) (started : os.Started) (H : Type) (enc : TypeId × Value → H) (F : Stop.Interp) :
    ReturnsInHanded {} Tryd.checked os 4 .any ((OpenSpec.ofChange Rows.wheelOnceSpec).preRow enc Tryd.prog Tryd.f4 Rows.wheelOnceRow.domain false Rows.wheelOnceRow.laid) (((OpenSpec.ofChange Rows.wheelOnceSpec).at F).post enc Tryd.prog Tryd.f4 false true false false) := by
  obtain ⟨places, hx⟩ := reads os enc
  refine returnsInHanded_of_row (C := Tryd.checked) (s := OpenSpec.ofChange Rows.wheelOnceSpec) own started (by kernel_rfl) Tryd.func4
    (witness_row_at (enc := enc) (C := Tryd.checked) false (layTab (World.holding Tryd.prog os ⟨#[], #[], []⟩)) #[.slice none 0 0, .slice none 0 0] rfl (by kernel_rfl) (by kernel_rfl) (by kernel_rfl)
      (OpenSpec.preRow_of_cond 8 hx (by kernel_rfl) (fun k hk => by cases hk) (by kernel_rfl) (laid_met os))) ?_
  intro W base args ds gs before hval hW _ _ _ hL _ _
  exact contract H enc W base args ds gs before hval hW hL

theorem said : Rows.WheelOnceSaid :=
  OpenClaim.holds_of_cond 4 Tryd.f4 rfl rfl rfl rfl rfl rfl rfl ⟨rfl, rfl, rfl, rfl, rfl⟩ rfl rfl rfl rfl rfl (by kernel_rfl) Tryd.func4 (by kernel_rfl)
    (of_decide_eq_true (by kernel_rfl)) (by unfold Func.isWrapper; first | (rw [if_pos (by decide +kernel)]; kernel_rfl) | (rw [if_neg (by decide +kernel)]; exact ⟨rfl, rfl⟩))
    (fun os started H enc _ F => by rw [OpenClaim.pre_eq_preRow]; exact lifted os started H enc F)

theorem plain (f : FuncId) (fn : Func) (hf : Tryd.pinned.checked.prog.funcNamed "grapevine/grapevinelaw12.WheelOnce" = some f) (hfn : Tryd.pinned.checked.prog.funcs[f]? = some fn) :
    false = Tryd.pinned.checked.prog.looks [] ∧ ∀ (j : Nat) t, fn.params[j]? = some t → Tryd.pinned.checked.prog.wantsStandIn t = false := by
  obtain rfl : f = 4 := Option.some.inj ((show Tryd.prog.funcNamed "grapevine/grapevinelaw12.WheelOnce" = some 4 by kernel_rfl).symm.trans hf) |>.symm
  obtain rfl : fn = Tryd.f4 := (Option.some.inj (Tryd.func4.symm.trans hfn)).symm
  refine ⟨by kernel_rfl, fun j t ht => ?_⟩
  rw [Tryd.params4] at ht
  have hall : ∀ t ∈ (#[22, 30] : Array TypeId), Tryd.prog.wantsStandIn t = false := by
    intro t ht
    simp at ht
    rcases ht with rfl | rfl
    · exact (show Tryd.prog.wantsStandIn 22 = false by kernel_rfl)
    · exact (show Tryd.prog.wantsStandIn 30 = false by kernel_rfl)
  exact hall t (Array.mem_of_getElem? ht)

theorem card : Rows.WheelOnceCardSaid :=
  Claim7.holds_tied_plain_at .later [] _ _ _ _ said (fun _ h => by cases h) (by kernel_rfl) (fun _ h => by cases h) wheelOnce_row_tie rfl ⟨rfl, rfl⟩ (by kernel_rfl) rfl plain (by kernel_rfl)
end wheelOnce

theorem wheelOnce_holds : Rows.WheelOnceCardSaid := wheelOnce.card
end Go.Proofs.YteiadaonihgbfaaDoor


