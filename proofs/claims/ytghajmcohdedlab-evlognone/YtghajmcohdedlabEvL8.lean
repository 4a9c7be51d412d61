/- evlog: records of one's own; readSegment. -/
import Derived.Test.YtghajmcohdedlabEvL7
import Derived.Deep.RegionLaw
import Derived.BigRegion
namespace Go.Proofs.Ytghajmcohdedlab
open Go.RowKit

/-- A record: its tick, its bytes, and the slice that they lie in. -/
structure Rc where
  tick : Nat
  a : Option Addr
  n : Nat
  c : Nat
  bs : List Nat
def rcc (r : Rc) : List Value := [.int .i64 (r.tick : Int), .slice r.a r.n r.c]
theorem rcc_one (r : Rc) : ∀ u ∈ rcc r, u.oneCell' = true := by
  intro u hu
  simp only [rcc, List.mem_cons, List.not_mem_nil, or_false] at hu
  rcases hu with rfl | rfl <;> rfl
/-- Records of one's own. -/
structure Rcs (w : World) (base : Nat) (v : Value) (L : List Rc) : Prop where
  row : w.ownsRow base 47 2 v L.length (L.flatMap rcc)
  bd : ∀ r ∈ L, Bd w base r.a r.n r.bs
/-- All blocks stay but those of logs, segments and records. -/
structure Kt (w w' : World) : Prop where
  size : w.heap.size ≤ w'.heap.size
  block : ∀ (k : Nat) (cs : Array Value) (t : TypeId) (fr : Nat × Nat), w.heap[k]? = some (.cells cs t fr) → t ≠ 41 → t ≠ 52 → t ≠ 47 → w'.heap[k]? = some (.cells cs t fr)
theorem Kt.refl (w : World) : Kt w w := ⟨Nat.le_refl _, fun _ _ _ _ h _ _ _ => h⟩
theorem Kt.trans {w w1 w2 : World} (h : Kt w w1) (h2 : Kt w1 w2) : Kt w w2 := ⟨Nat.le_trans h.size h2.size, fun k cs t fr h0 h1 h3 h4 => h2.block k cs t fr (h.block k cs t fr h0 h1 h3 h4) h1 h3 h4⟩
theorem Kt.of_below {w w' : World} (h : Below w.heap.size w w') : Kt w w' := ⟨h.size, fun k _ _ _ h0 _ _ _ => by rw [h.block k (heap_lt h0)]; exact h0⟩
theorem Kt.keep {w w' : World} {k : Nat} {cs : Array Value} {t : TypeId} (h : Kt w w') (hb : Blk w k cs t) (h1 : t ≠ 41) (h2 : t ≠ 52) (h3 : t ≠ 47) : Blk w' k cs t := h.block k cs t _ hb h1 h2 h3
theorem Kt.set {w w' : World} {k : Nat} {cs : Array Value} {t : TypeId} (h : Kt w w') (hb : Blk w' k cs t) (ht : t = 41 ∨ t = 52 ∨ t = 47) (i : Nat) (v : Value) : Kt w (w'.setCell ⟨k, i, none⟩ v) :=
  ⟨by rw [World.size_setCell]; exact h.size, fun j cs' t' fr h0 h1 h2 h3 => by
    have h4 := h.block j cs' t' fr h0 h1 h2 h3
    by_cases hj : j = k
    · subst hj
      unfold Blk at hb
      rw [hb] at h4
      cases h4
      rcases ht with rfl | rfl | rfl
      · exact absurd rfl h1
      · exact absurd rfl h2
      · exact absurd rfl h3
    · rw [heap_setCell_other w' ⟨k, i, none⟩ j v hj]
      exact h4⟩
theorem Kt.grown {w w' w2 : World} {base size n : Nat} {e : TypeId} {v : Value} {xs : List Value} (h : Kt w w') (ho : w'.ownsRow base e size v n xs) (he : e = 41 ∨ e = 52 ∨ e = 47) (hg : w'.grownBy w2 v.ownBlock) : Kt w w2 :=
  ⟨Nat.le_trans h.size hg.size, fun j cs' t' fr h0 h1 h2 h3 => by
    have h4 := h.block j cs' t' fr h0 h1 h2 h3
    rw [hg.block j (heap_lt h4) (fun hj => ?_)]
    · exact h4
    · rcases ho.2 with ⟨a1, _⟩ | ⟨g, cp, cur, a1, _, a3, _⟩
      · rw [a1] at hj; cases hj
      · rw [a1] at hj
        simp only [Value.ownBlock, Option.some.injEq] at hj
        subst hj
        rw [a3] at h4
        cases h4
        rcases he with rfl | rfl | rfl
        · exact absurd rfl h1
        · exact absurd rfl h2
        · exact absurd rfl h3⟩
theorem Bd.kt {w w' : World} {B n : Nat} {a : Option Addr} {bs : List Nat} (h : Bd w B a n bs) (hk : Kt w w') : Bd w' B a n bs := by
  rcases h.2 with h0 | ⟨g, off, cs, fr, rfl, hB, hb⟩
  · exact ⟨⟨h.1.size, h.1.byte, .inl h0⟩, .inl h0⟩
  · have hb' := hk.block g cs _ fr hb (by decide) (by decide) (by decide)
    refine ⟨⟨h.1.size, h.1.byte, ?_⟩, .inr ⟨g, off, cs, fr, rfl, hB, hb'⟩⟩
    rcases h.1.cells with h0 | ⟨g', o, e, hg, hc⟩
    · exact .inl h0
    · cases e
      refine .inr ⟨g, off, rfl, heap_lt hb', fun i hi => ?_⟩
      have := hc i hi
      rw [cell_of_row w g (off + i) cs _ _ hb] at this
      rw [cell_of_row w' g (off + i) cs _ _ hb']
      exact this
theorem Disk.kt {w w' : World} {base g gs : Nat} {wv : Value} {D : Dk} (h : Disk w base g gs wv D) (hk : Kt w w') : Disk w' base g gs wv D := by
  refine ⟨hk.keep h.blk (by decide) (by decide) (by decide), hk.keep h.srow (by decide) (by decide) (by decide), ⟨h.wrow.1, ?_⟩, h.bg, h.bs, h.sz, h.sec, h.wts, h.tr, h.ag, h.wl⟩
  rcases h.wrow.2 with h1 | ⟨g', c, cur, a1, a2, a3, r⟩
  · exact .inl h1
  · exact .inr ⟨g', c, cur, a1, a2, hk.block g' cur _ _ a3 (by decide) (by decide) (by decide), r⟩
theorem Bd.lower {w : World} {B B' n : Nat} {a : Option Addr} {bs : List Nat} (h : Bd w B a n bs) (hb : B' ≤ B) : Bd w B' a n bs := by
  rcases h.2 with h0 | ⟨g, off, cs, fr, e, hB, r⟩
  · exact ⟨h.1, .inl h0⟩
  · exact ⟨h.1, .inr ⟨g, off, cs, fr, e, ⟨Nat.le_trans hb hB.1, hB.2⟩, r⟩⟩
theorem row_set {w : World} {base size n k i : Nat} {e : TypeId} {v u : Value} {xs : List Value} (h : w.ownsRow base e size v n xs) (hk : some k ≠ v.ownBlock) : (w.setCell ⟨k, i, none⟩ u).ownsRow base e size v n xs :=
  own_stay h (fun j hj => heap_setCell_other w ⟨k, i, none⟩ j u (fun e => hk (by have e' : j = k := e; rw [← e']; exact hj.symm)))
theorem Rcs.set {w : World} {base k i : Nat} {v u : Value} {L : List Rc} {cs : Array Value} {t : TypeId} (h : Rcs w base v L) (hb : Blk w k cs t) (ht : t = 41 ∨ t = 52) : Rcs (w.setCell ⟨k, i, none⟩ u) base v L :=
  ⟨row_set h.row (own_ne h.row hb (by rcases ht with rfl | rfl <;> decide)), fun r hr => (h.bd r hr).kt ((Kt.refl w).set hb (by rcases ht with h | h; exact .inl h; exact .inr (.inl h)) i u)⟩
theorem Rcs.below {w w' : World} {base : Nat} {v : Value} {L : List Rc} (h : Rcs w base v L) (hb : Below w.heap.size w w') : Rcs w' base v L :=
  ⟨own_stay h.row (fun k hk => hb.block k (h.row.lt k hk).2), fun r hr => (h.bd r hr).kt (Kt.of_below hb)⟩

/-- What a segment's records are from an end on. -/
def readF (D : Dk) (at_ : Nat) : Nat → Nat → Nat → List (Nat × List Nat) → Nat × Nat × List (Nat × List Nat)
  | 0, hi, en, acc => (hi, en, acc)
  | f + 1, hi, en, acc => match nextF D at_ en hi with
    | none => (hi, en, acc)
    | some (v, bs, e) => readF D at_ f v e (acc ++ [(v, bs)])
theorem gather_gt (D : Dk) (at_ : Nat) : ∀ (cnt i kd : Nat) (all al : List Nat) (e : Nat), gatherL D at_ cnt i kd all = some (al, e) → i < e ∧ e ≤ i + cnt
  | 0, i, kd, all, al, e, h => by cases h
  | cnt + 1, i, kd, all, al, e, h => by
    rw [gatherL] at h
    split at h
    · split at h
      · simp only [Option.some.injEq, Prod.mk.injEq] at h
        omega
      · have := gather_gt D at_ cnt (i + 1) 3 _ al e h
        omega
    · cases h
theorem next_gt (D : Dk) (at_ en hi v e : Nat) (bs : List Nat) (hen : en ≤ 16) (h : nextF D at_ en hi = some (v, bs, e)) : en < e ∧ e ≤ 16 ∧ hi < v ∧ v ≤ 1099511627776 := by
  unfold nextF at h
  split at h
  · cases h
  · rename_i all e' hg
    split at h
    · cases h
    · rename_i hc
      simp only [Option.some.injEq, Prod.mk.injEq] at h
      obtain ⟨h1, h2, h3⟩ := h
      have := gather_gt D at_ _ _ _ _ _ _ hg
      omega
end Go.Proofs.Ytghajmcohdedlab
