/- event.Take: the event at a place, and the place behind it. -/
import Derived.Test.YtigmlhieibejoadEvWhole
import Derived.Test.YtigmlhieibejoadStep
namespace Go.Proofs.Ytigmlhieibejoad
open Go.RowKit

theorem Ats.under {w : World} {base : Nat} {v : Value} {l : List At} (h : Ats w base v l) (p : Addr) (u : Value) (hp : p.block < base) : Ats (w.setCell p u) base v l := ⟨ownsRow_setCell_below h.row hp u⟩
theorem Row.under {w : World} {base : Nat} {v : Value} {c : List Nat} (h : Row w base v c) (p : Addr) (u : Value) (hp : p.block < base) : Row (w.setCell p u) base v c := by
  obtain ⟨a, n, cap, rfl, ho⟩ := h
  exact ⟨a, n, cap, rfl, ⟨ownsRow_setCell_below ho.row hp u, ho.byte⟩⟩
theorem Row.lower {w : World} {base base' : Nat} {v : Value} {c : List Nat} (h : Row w base v c) (hb : base' ≤ base) : Row w base' v c := by
  obtain ⟨a, n, cap, rfl, ho⟩ := h
  exact ⟨a, n, cap, rfl, ho.lower hb⟩
theorem Row.below {w w' : World} {base : Nat} {v : Value} {c : List Nat} (h : Row w base v c) (hb : Below w.heap.size w w') : Row w' base v c := by
  obtain ⟨a, n, cap, rfl, ho⟩ := h
  exact ⟨a, n, cap, rfl, ho.below hb⟩
theorem Row.nil_ (w : World) (base : Nat) : Row w base (.slice none 0 0) [] := ⟨none, 0, 0, rfl, Own.nil w base⟩

theorem results_event {w : World} {tmps : Array Value} {g : Nat} {t : TypeId} {v0 v1 n f : Value} (h4 : tmps[4]?.getD undef = .pointer (some ⟨g, 0, none⟩)) (h5 : tmps[5]?.getD undef = n) (h6 : tmps[6]?.getD undef = f)
    (k : Blk w g #[v0, v1] t) : (results Try.f5 tmps).run Try.prog w = .ok (.tuple #[.agg #[v0, v1], n, f]) w := by
  have k0 := k.cell 0 rfl
  have k1 := k.cell 1 rfl
  simp [results, Try.results5, go_sem, h4, h5, h6, k0, k1]
theorem Blk.set2 {w : World} {g : Nat} {t : TypeId} {u0 u1 : Value} (h : Blk w g #[u0, u1] t) (v0 v1 : Value) : Blk ((w.setCell ⟨g, 0, none⟩ v0).setCell ⟨g, 1, none⟩ v1) g #[v0, v1] t := (h.set 0 v0).set 1 v1

theorem attrsAt_place {bs : List Nat} {x : Int} {l : List At} {k : Nat} (hb : ∀ y ∈ bs, y < 256) (h : attrsAt bs x = (l, k, 0)) : k ≤ bs.length := by
  have go : ∀ n p t acc, p ≤ bs.length → ∀ l k, goAt bs n p t acc = (l, k, 0) → k ≤ bs.length := by
    intro n
    induction n with
    | zero =>
      intro p t acc hp l k h
      rw [goAt] at h
      simp only [Prod.mk.injEq] at h
      omega
    | succ n ih =>
      intro p t acc hp l k h
      rcases attrAt_cases bs p t with ⟨g, h1, h2⟩ | ⟨l1, k1, v, j, h1, h2, h3, h4, h5⟩
      · rw [goAt_err h1 h2] at h
        simp only [Prod.mk.injEq] at h
        exact absurd h.2.2 h2
      · rw [goAt_ok h5] at h
        obtain ⟨_, _, h6, _⟩ := valAt_once hb h4
        exact ih j _ _ h6 l k h
  rcases hT : Leb.take bs x with ⟨n, j, f⟩
  by_cases hf : f = 0
  · subst hf
    obtain ⟨_, _, _, hj, _⟩ := Leb.take_once bs x hb n j hT
    by_cases h8 : 8 < n
    · rw [attrsAt_limit hT h8] at h
      simp at h
    · rw [attrsAt_go hT h8] at h
      exact go _ _ _ _ hj _ _ h
  · rw [attrsAt_err hT hf] at h
    simp only [Prod.mk.injEq] at h
    exact absurd h.2.2 hf

set_option maxRecDepth 100000 in
set_option maxHeartbeats 1000000 in
theorem event_Take (a : Option Addr) (len cap : Nat) (bs : List Nat) (x : Int) (w : World) (hr : Rd w a len bs) (hlc : len ≤ cap) (hl : len ≤ 9223372036854775000) (hx : (-9223372036854775808 : Int) ≤ x ∧ x ≤ 9223372036854775807) (L : List At) (C : List Nat) (K F : Nat) (hS : evAt bs x = ((L, C), K, F)) :
    Calls Try.prog 5 #[.slice a len cap, .int .i64 x] w fun e w' => ∃ va vc, e = .returned (.tuple #[.agg #[va, vc], .int .i64 (K : Int), .int .i64 (F : Int)]) ∧ Ats w' w.heap.size va L ∧ Row w' w.heap.size vc C ∧ Below w.heap.size w w' := by
  have HR : Hid (Rd w a len bs) := hr
  have HX : Hid ((-9223372036854775808 : Int) ≤ x ∧ x ≤ 9223372036854775807) := hx
  obtain ⟨l, k, f, hT⟩ : ∃ l k f, attrsAt bs x = (l, k, f) := ⟨_, _, _, rfl⟩
  have HT : Hid (attrsAt bs x = (l, k, f)) := hT
  have HS : Hid (evAt bs x = ((L, C), K, F)) := hS
  have HW : Hid ((w.alloc (.cells #[.slice none 0 0, .slice none 0 0] 25)).heap.size = w.heap.size + 1) := by show _ = _; simp
  clear hr hx hT hS
  go_enter Try.func5, Try.ntmps5
  go_wp2_with fail
  refine (event_takeAttrs a len cap bs x _ (HR.out.below (below_alloc w _)) hlc hl HX.out l k f HT.out).mono ?_
  rw [HW.out]
  rintro e w1 ⟨va, rfl, ha1, hb1⟩
  have HA1 : Hid (Ats w1 (w.heap.size + 1) va l) := ha1
  have HK1 : Hid (Blk w1 w.heap.size #[.slice none 0 0, .slice none 0 0] 25) := (Blk.new w _ _).below hb1 (by omega)
  have HB1 : Hid (Below w.heap.size w w1) := (below_alloc w _).trans (hb1.mono (by omega))
  have HS1 : Hid (w.heap.size + 1 ≤ w1.heap.size) := by have := hb1.size; rw [HW.out] at this; exact this
  clear ha1 hb1
  by_cases hf : f = 0
  · subst hf
    have hk : k ≤ len := by rw [← HR.out.size]; exact attrsAt_place HR.out.byte HT.out
    obtain ⟨c, j, g, hC⟩ : ∃ c j g, textAt bs (k : Int) = (c, j, g) := ⟨_, _, _, rfl⟩
    have HC : Hid (textAt bs (k : Int) = (c, j, g)) := hC
    clear hC
    go_wp2_with fail
    refine (event_takeContent a len cap bs (k : Int) _ (HR.out.below HB1.out) hlc hl (by omega) c j g HC.out).mono ?_
    rintro e w2 ⟨vc, rfl, hr2, hb2⟩
    have HA2 : Hid (Ats w2 (w.heap.size + 1) va l) := HA1.out.below hb2
    have HR2 : Hid (Row w2 (w.heap.size + 1) vc c) := hr2.lower HS1.out
    have HK2 : Hid (Blk w2 w.heap.size #[.slice none 0 0, .slice none 0 0] 25) := HK1.out.stay hb2
    have HB2 : Hid (Below w.heap.size w w2) := HB1.out.trans (hb2.mono HB1.out.size)
    clear hr2 hb2
    obtain ⟨ga, gn, gc, rfl, _⟩ := HR2.out
    obtain ⟨aa, ac, rfl⟩ := HA2.out.form
    have c0 := HK2.out.cell 0 rfl
    have c1 := HK2.out.cell 1 rfl
    have f0 := HK2.out.free 0
    have f1 := HK2.out.free 1
    by_cases hg : g = 0
    · subst hg
      have HE : Hid (L = l ∧ C = c ∧ K = j ∧ F = 0) := by
        have := HS.out
        rw [evAt_ok HT.out HC.out] at this
        simp only [Prod.mk.injEq] at this
        exact ⟨this.1.1.symm, this.1.2.symm, this.2.1.symm, this.2.2.symm⟩
      go_wp2
      try simp only [Exit.inBlock, Exit.then]
      refine bodyPost_ret (results_event (by rfl) (by rfl) (by rfl) (HK2.out.set2 _ _)) rfl ?_
      obtain ⟨rfl, rfl, rfl, rfl⟩ := HE.out
      exact ⟨_, _, rfl, ((HA2.out.under _ _ (by simp)).under _ _ (by simp)).lower (by omega), ((HR2.out.under _ _ (by simp)).under _ _ (by simp)).lower (by omega), (HB2.out.setCell (Nat.le_refl _) _).setCell (Nat.le_refl _) _⟩
    · have hg' : (g : Int) ≠ 0 := by omega
      have HE : Hid (L = [] ∧ C = [] ∧ K = 0 ∧ F = g) := by
        have := HS.out
        rw [evAt_err2 HT.out HC.out hg] at this
        simp only [Prod.mk.injEq] at this
        exact ⟨this.1.1.symm, this.1.2.symm, this.2.1.symm, this.2.2.symm⟩
      go_wp2
      try simp only [Exit.inBlock, Exit.then]
      refine bodyPost_ret (results_event (by rfl) (by rfl) (by rfl) (HK2.out.set2 _ _)) rfl ?_
      obtain ⟨rfl, rfl, rfl, rfl⟩ := HE.out
      exact ⟨_, _, rfl, Ats.nil_ _ _, Row.nil_ _ _, (HB2.out.setCell (Nat.le_refl _) _).setCell (Nat.le_refl _) _⟩
  · have hf' : (f : Int) ≠ 0 := by omega
    have HE : Hid (L = [] ∧ C = [] ∧ K = 0 ∧ F = f) := by
      have := HS.out
      rw [evAt_err1 HT.out hf] at this
      simp only [Prod.mk.injEq] at this
      exact ⟨this.1.1.symm, this.1.2.symm, this.2.1.symm, this.2.2.symm⟩
    have c0 := HK1.out.cell 0 rfl
    have c1 := HK1.out.cell 1 rfl
    have f0 := HK1.out.free 0
    have f1 := HK1.out.free 1
    go_wp2
    try simp only [Exit.inBlock, Exit.then]
    refine bodyPost_ret (results_event (by rfl) (by rfl) (by rfl) (HK1.out.set2 _ _)) rfl ?_
    obtain ⟨rfl, rfl, rfl, rfl⟩ := HE.out
    exact ⟨_, _, rfl, Ats.nil_ _ _, Row.nil_ _ _, (HB1.out.setCell (Nat.le_refl _) _).setCell (Nat.le_refl _) _⟩
end Go.Proofs.Ytigmlhieibejoad
