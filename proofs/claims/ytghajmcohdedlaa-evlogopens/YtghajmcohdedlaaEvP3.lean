/- A pack of texts: EvL8 EvL9. -/
import Derived.Test.YtghajmcohdedlaaEvL7
import Derived.Deep.RegionLaw
import Derived.BigRegion
import Derived.Deep.LoopGhost
/- evlog: records of one's own; readSegment. -/
namespace Go.Proofs.Ytghajmcohdedlaa
open Go.RowKit

/-- A record: its tick, its bytes, and the slice that they lie in. -/
structure Rc where
  tick : Nat
  a : Option Addr
  n : Nat
  c : Nat
  bs : List Nat
def rcc (r : Rc) : List Value := [.int .i64 (r.tick : Int), .slice r.a r.n r.c]
theorem rcc_one (r : Rc) : ∀ u ∈ rcc r, u.oneCell' = true := by
  intro u hu
  simp only [rcc, List.mem_cons, List.not_mem_nil, or_false] at hu
  rcases hu with rfl | rfl <;> rfl
/-- Records of one's own. -/
structure Rcs (w : World) (base : Nat) (v : Value) (L : List Rc) : Prop where
  row : w.ownsRow base 78 2 v L.length (L.flatMap rcc)
  bd : ∀ r ∈ L, Bd w base r.a r.n r.bs
/-- All blocks stay but those of logs, segments and records. -/
structure Kt (w w' : World) : Prop where
  size : w.heap.size ≤ w'.heap.size
  block : ∀ (k : Nat) (cs : Array Value) (t : TypeId) (fr : Nat × Nat), w.heap[k]? = some (.cells cs t fr) → t ≠ 56 → t ≠ 85 → t ≠ 78 → w'.heap[k]? = some (.cells cs t fr)
theorem Kt.refl (w : World) : Kt w w := ⟨Nat.le_refl _, fun _ _ _ _ h _ _ _ => h⟩
theorem Kt.trans {w w1 w2 : World} (h : Kt w w1) (h2 : Kt w1 w2) : Kt w w2 := ⟨Nat.le_trans h.size h2.size, fun k cs t fr h0 h1 h3 h4 => h2.block k cs t fr (h.block k cs t fr h0 h1 h3 h4) h1 h3 h4⟩
theorem Kt.of_below {w w' : World} (h : Below w.heap.size w w') : Kt w w' := ⟨h.size, fun k _ _ _ h0 _ _ _ => by rw [h.block k (heap_lt h0)]; exact h0⟩
theorem Kt.keep {w w' : World} {k : Nat} {cs : Array Value} {t : TypeId} (h : Kt w w') (hb : Blk w k cs t) (h1 : t ≠ 56) (h2 : t ≠ 85) (h3 : t ≠ 78) : Blk w' k cs t := h.block k cs t _ hb h1 h2 h3
theorem Kt.set {w w' : World} {k : Nat} {cs : Array Value} {t : TypeId} (h : Kt w w') (hb : Blk w' k cs t) (ht : t = 56 ∨ t = 85 ∨ t = 78) (i : Nat) (v : Value) : Kt w (w'.setCell ⟨k, i, none⟩ v) :=
  ⟨by rw [World.size_setCell]; exact h.size, fun j cs' t' fr h0 h1 h2 h3 => by
    have h4 := h.block j cs' t' fr h0 h1 h2 h3
    by_cases hj : j = k
    · subst hj
      unfold Blk at hb
      rw [hb] at h4
      cases h4
      rcases ht with rfl | rfl | rfl
      · exact absurd rfl h1
      · exact absurd rfl h2
      · exact absurd rfl h3
    · rw [heap_setCell_other w' ⟨k, i, none⟩ j v hj]
      exact h4⟩
theorem Kt.grown {w w' w2 : World} {base size n : Nat} {e : TypeId} {v : Value} {xs : List Value} (h : Kt w w') (ho : w'.ownsRow base e size v n xs) (he : e = 56 ∨ e = 85 ∨ e = 78) (hg : w'.grownBy w2 v.ownBlock) : Kt w w2 :=
  ⟨Nat.le_trans h.size hg.size, fun j cs' t' fr h0 h1 h2 h3 => by
    have h4 := h.block j cs' t' fr h0 h1 h2 h3
    rw [hg.block j (heap_lt h4) (fun hj => ?_)]
    · exact h4
    · rcases ho.2 with ⟨a1, _⟩ | ⟨g, cp, cur, a1, _, a3, _⟩
      · rw [a1] at hj; cases hj
      · rw [a1] at hj
        simp only [Value.ownBlock, Option.some.injEq] at hj
        subst hj
        rw [a3] at h4
        cases h4
        rcases he with rfl | rfl | rfl
        · exact absurd rfl h1
        · exact absurd rfl h2
        · exact absurd rfl h3⟩
theorem Bd.kt {w w' : World} {B n : Nat} {a : Option Addr} {bs : List Nat} (h : Bd w B a n bs) (hk : Kt w w') : Bd w' B a n bs := by
  rcases h.2 with h0 | ⟨g, off, cs, fr, rfl, hB, hb⟩
  · exact ⟨⟨h.1.size, h.1.byte, .inl h0⟩, .inl h0⟩
  · have hb' := hk.block g cs _ fr hb (by decide) (by decide) (by decide)
    refine ⟨⟨h.1.size, h.1.byte, ?_⟩, .inr ⟨g, off, cs, fr, rfl, hB, hb'⟩⟩
    rcases h.1.cells with h0 | ⟨g', o, e, hg, hc⟩
    · exact .inl h0
    · cases e
      refine .inr ⟨g, off, rfl, heap_lt hb', fun i hi => ?_⟩
      have := hc i hi
      rw [cell_of_row w g (off + i) cs _ _ hb] at this
      rw [cell_of_row w' g (off + i) cs _ _ hb']
      exact this
theorem Disk.kt {w w' : World} {base g gs : Nat} {wv : Value} {D : Dk} (h : Disk w base g gs wv D) (hk : Kt w w') : Disk w' base g gs wv D := by
  refine ⟨hk.keep h.blk (by decide) (by decide) (by decide), hk.keep h.srow (by decide) (by decide) (by decide), ⟨h.wrow.1, ?_⟩, h.bg, h.bs, h.sz, h.sec, h.wts, h.tr, h.ag, h.wl⟩
  rcases h.wrow.2 with h1 | ⟨g', c, cur, a1, a2, a3, r⟩
  · exact .inl h1
  · exact .inr ⟨g', c, cur, a1, a2, hk.block g' cur _ _ a3 (by decide) (by decide) (by decide), r⟩
theorem Bd.lower {w : World} {B B' n : Nat} {a : Option Addr} {bs : List Nat} (h : Bd w B a n bs) (hb : B' ≤ B) : Bd w B' a n bs := by
  rcases h.2 with h0 | ⟨g, off, cs, fr, e, hB, r⟩
  · exact ⟨h.1, .inl h0⟩
  · exact ⟨h.1, .inr ⟨g, off, cs, fr, e, ⟨Nat.le_trans hb hB.1, hB.2⟩, r⟩⟩
theorem row_set {w : World} {base size n k i : Nat} {e : TypeId} {v u : Value} {xs : List Value} (h : w.ownsRow base e size v n xs) (hk : some k ≠ v.ownBlock) : (w.setCell ⟨k, i, none⟩ u).ownsRow base e size v n xs :=
  own_stay h (fun j hj => heap_setCell_other w ⟨k, i, none⟩ j u (fun e => hk (by have e' : j = k := e; rw [← e']; exact hj.symm)))
theorem Rcs.set {w : World} {base k i : Nat} {v u : Value} {L : List Rc} {cs : Array Value} {t : TypeId} (h : Rcs w base v L) (hb : Blk w k cs t) (ht : t = 56 ∨ t = 85) : Rcs (w.setCell ⟨k, i, none⟩ u) base v L :=
  ⟨row_set h.row (own_ne h.row hb (by rcases ht with rfl | rfl <;> decide)), fun r hr => (h.bd r hr).kt ((Kt.refl w).set hb (by rcases ht with h | h; exact .inl h; exact .inr (.inl h)) i u)⟩
theorem Rcs.below {w w' : World} {base : Nat} {v : Value} {L : List Rc} (h : Rcs w base v L) (hb : Below w.heap.size w w') : Rcs w' base v L :=
  ⟨own_stay h.row (fun k hk => hb.block k (h.row.lt k hk).2), fun r hr => (h.bd r hr).kt (Kt.of_below hb)⟩

/-- What a segment's records are from an end on. -/
def readF (D : Dk) (at_ : Nat) : Nat → Nat → Nat → List (Nat × List Nat) → Nat × Nat × List (Nat × List Nat)
  | 0, hi, en, acc => (hi, en, acc)
  | f + 1, hi, en, acc => match nextF D at_ en hi with
    | none => (hi, en, acc)
    | some (v, bs, e) => readF D at_ f v e (acc ++ [(v, bs)])
theorem gather_gt (D : Dk) (at_ : Nat) : ∀ (cnt i kd : Nat) (all al : List Nat) (e : Nat), gatherL D at_ cnt i kd all = some (al, e) → i < e ∧ e ≤ i + cnt
  | 0, i, kd, all, al, e, h => by cases h
  | cnt + 1, i, kd, all, al, e, h => by
    rw [gatherL] at h
    split at h
    · split at h
      · simp only [Option.some.injEq, Prod.mk.injEq] at h
        omega
      · have := gather_gt D at_ cnt (i + 1) 3 _ al e h
        omega
    · cases h
theorem next_gt (D : Dk) (at_ en hi v e : Nat) (bs : List Nat) (hen : en ≤ 16) (h : nextF D at_ en hi = some (v, bs, e)) : en < e ∧ e ≤ 16 ∧ hi < v ∧ v ≤ 1099511627776 := by
  unfold nextF at h
  split at h
  · cases h
  · rename_i all e' hg
    split at h
    · cases h
    · rename_i hc
      simp only [Option.some.injEq, Prod.mk.injEq] at h
      obtain ⟨h1, h2, h3⟩ := h
      have := gather_gt D at_ _ _ _ _ _ _ hg
      omega
end Go.Proofs.Ytghajmcohdedlaa
/- evlog: readSegment. -/
namespace Go.Proofs.Ytghajmcohdedlaa
open Go.RowKit

theorem infoRecB : (Try.prog.info? 78).map (fun i => (i.zero, i.size, i.bytes)) = some (some (.agg #[.int .i64 0, .slice none 0 0]), 2, 32) := by kernel_rfl
theorem wp_append_rc {w : World} {o : Oper} {act : Act} {K : Act → World → Prop} {Q : Exit → Act → World → Prop} (s x : Operand)
    (ho : o.op = .call { callee := .builtin .append, args := #[s, x], argTypes := #[54, 54] })
    (base : Nat) (v : Value) (L : List Rc) (hs : act.eval s = v) (hown : Rcs w base v L) (k c : Nat) (p : Rc) (hx : act.eval x = .slice (some ⟨k, 0, none⟩) 1 c)
    (hb : Blk w k (rcc p).toArray 78) (hp : Bd w base p.a p.n p.bs) (hl : L.length ≤ 1000000) (hbase : base ≤ w.heap.size)
    (h : ∀ v' w', Rcs w' base v' (L ++ [p]) → w.grownBy w' v.ownBlock → Below base w w' → Kt w w' → K (act.put o.dst v') w') : Oper.wp Try.prog o act w K Q := by
  obtain ⟨i0, hi, hz0, hz1, hz2⟩ := info_parts infoRecB
  refine wp_append_own w s x 54 ho base 78 i0 (.agg #[.int .i64 0, .slice none 0 0]) 2 32 Try.underlying54 hi hz0 hz1 hz2 (by rfl) (by decide) v L.length (L.flatMap rcc) hs hown.row ⟨k, 0, none⟩ 1 c (rcc p) hx (by rfl) (fun j u hj => ?_) (rcc_one p) (by unfold maxLen; omega) (by omega) hbase fun v' w' h1 h2 _ => ?_
  · have e : (⟨k, 0, none⟩ : Addr).add j = ⟨k, 0 + j, none⟩ := by unfold Addr.add; split <;> simp_all
    rw [e, Nat.zero_add]
    exact hb.cell j (by simpa using hj)
  · have hk : Kt w w' := (Kt.refl w).grown hown.row (.inr (.inr rfl)) h2
    refine h v' w' ⟨?_, fun r hr => ?_⟩ h2 ((Below.refl _ _).grown h2 hbase (fun k hk => (hown.row.lt k hk).1)) hk
    · rw [List.length_append, List.flatMap_append]
      simpa using h1
    · rcases List.mem_append.1 hr with hr | hr
      · exact (hown.bd r hr).kt hk
      · rw [List.mem_singleton.1 hr]
        exact hp.kt hk
theorem step_append_rc {w : World} {ops : Array Oper} {o : Oper} {act : Act} {K : Act → World → Prop} {Q : Exit → Act → World → Prop} {E : Prop} (hgd : o.guard = none) (s x : Operand)
    (ho : o.op = .call { callee := .builtin .append, args := #[s, x], argTypes := #[54, 54] })
    (base : Nat) (v : Value) (L : List Rc) (hs : act.eval s = v) (hown : Rcs w base v L) (k c : Nat) (p : Rc) (hx : act.eval x = .slice (some ⟨k, 0, none⟩) 1 c)
    (hb : Blk w k (rcc p).toArray 78) (hp : Bd w base p.a p.n p.bs) (hl : L.length ≤ 1000000) (hbase : base ≤ w.heap.size)
    (h : ∀ v' w', Rcs w' base v' (L ++ [p]) → w.grownBy w' v.ownBlock → Below base w w' → Kt w w' → K (act.put o.dst v') w') : if Region.wanted o (yielded ops act.tmps) = true then Oper.wp Try.prog o act w K Q else E := by
  rw [if_pos (by simp [Region.wanted, hgd])]
  exact wp_append_rc s x ho base v L hs hown k c p hx hb hp hl hbase h
theorem Rcs.val {w : World} {base : Nat} {v : Value} {L : List Rc} (h : Rcs w base v L) : ∃ a c, v = .slice a L.length c := by
  rcases h.row.2 with ⟨h1, h2⟩ | ⟨g, cp, cur, a1, _⟩
  · exact ⟨none, 0, by rw [h1, h2]⟩
  · exact ⟨_, cp, a1⟩
def plR (r : Rc) : Nat × List Nat := (r.tick, r.bs)
/-- The cells of a segment within a row. -/
def rowS (pre : List Value) (s : Sg) (post : List Value) : Array Value := (pre ++ (sgc s ++ post)).toArray
theorem rowS_at (pre post : List Value) (s : Sg) (j : Nat) (v : Value) (h : (sgc s)[j]? = some v) : (rowS pre s post)[pre.length + j]? = some v := by
  have hj : j < (sgc s).length := (List.getElem?_eq_some_iff.1 h).1
  unfold rowS
  rw [List.getElem?_toArray, List.getElem?_append_right (by omega), Nat.add_sub_cancel_left, List.getElem?_append_left hj]
  exact h
theorem rowS_set2 (pre post : List Value) (s : Sg) (x : Nat) : (rowS pre s post).setIfInBounds (pre.length + 2) (.int .i64 (x : Int)) = rowS pre { s with high := x } post := by
  unfold rowS
  rw [List.setIfInBounds_toArray, List.set_append_right _ _ (by omega), Nat.add_sub_cancel_left]
  rfl
theorem rowS_set3 (pre post : List Value) (s : Sg) (x : Nat) : (rowS pre s post).setIfInBounds (pre.length + 3) (.int .i64 (x : Int)) = rowS pre { s with en := x } post := by
  unfold rowS
  rw [List.setIfInBounds_toArray, List.set_append_right _ _ (by omega), Nat.add_sub_cancel_left]
  rfl
theorem Lc.high {w : World} {gl g gc b m ag hi rel : Nat} {uv rv : Value} (h : Lc w gl g gc b m ag uv hi rel rv) (x : Nat) : Lc (w.setCell ⟨gl, 6, none⟩ (.int .i64 (x : Int))) gl g gc b m ag uv x rel rv := Blk.set h 6 _
theorem Lc.recs {w : World} {gl g gc b m ag hi rel : Nat} {uv rv : Value} (h : Lc w gl g gc b m ag uv hi rel rv) (v : Value) : Lc (w.setCell ⟨gl, 8, none⟩ v) gl g gc b m ag uv hi rel v := Blk.set h 8 _
/-- How a log stands while a segment is read. -/
structure Rdg (w : World) (base g gs : Nat) (wv : Value) (D : Dk) (gl gc b m ag rel : Nat) (uv : Value) (gu : Nat) (pre post : List Value) (s : Sg) (hi : Nat) (rv : Value) (L : List Rc) : Prop where
  disk : Disk w base g gs wv D
  log : Lc w gl g gc b m ag uv hi rel rv
  row : Blk w gu (rowS pre s post) 85
  recs : Rcs w base rv L
  bl : base ≤ gl
  bu : base ≤ gu
theorem Rdg.below {w w' : World} {base g gs : Nat} {wv : Value} {D : Dk} {gl gc b m ag rel : Nat} {uv : Value} {gu : Nat} {pre post : List Value} {s : Sg} {hi : Nat} {rv : Value} {L : List Rc} (h : Rdg w base g gs wv D gl gc b m ag rel uv gu pre post s hi rv L) (hb : Below w.heap.size w w') : Rdg w' base g gs wv D gl gc b m ag rel uv gu pre post s hi rv L :=
  ⟨h.disk.stay hb, h.log.stay hb, h.row.stay hb, h.recs.below hb, h.bl, h.bu⟩
theorem Rdg.high {w : World} {base g gs : Nat} {wv : Value} {D : Dk} {gl gc b m ag rel : Nat} {uv : Value} {gu : Nat} {pre post : List Value} {s : Sg} {hi : Nat} {rv : Value} {L : List Rc} (h : Rdg w base g gs wv D gl gc b m ag rel uv gu pre post s hi rv L) (x : Nat) : Rdg (w.setCell ⟨gl, 6, none⟩ (.int .i64 (x : Int))) base g gs wv D gl gc b m ag rel uv gu pre post s x rv L ∧ Kt w (w.setCell ⟨gl, 6, none⟩ (.int .i64 (x : Int))) ∧ Below base w (w.setCell ⟨gl, 6, none⟩ (.int .i64 (x : Int))) :=
  have hk : Kt w (w.setCell ⟨gl, 6, none⟩ (.int .i64 (x : Int))) := (Kt.refl w).set h.log (.inl rfl) 6 _
  ⟨⟨h.disk.kt hk, h.log.high x, h.row.other _ _ (blk_ne h.row h.log (by decide)), h.recs.set h.log (.inl rfl), h.bl, h.bu⟩, hk, (Below.refl _ _).setCell h.bl _⟩
theorem Rdg.sets {w : World} {base g gs : Nat} {wv : Value} {D : Dk} {gl gc b m ag rel : Nat} {uv : Value} {gu : Nat} {pre post : List Value} {s : Sg} {hi : Nat} {rv : Value} {L : List Rc} (h : Rdg w base g gs wv D gl gc b m ag rel uv gu pre post s hi rv L) (s' : Sg) (i : Nat) (v : Value) (hs : (rowS pre s post).setIfInBounds i v = rowS pre s' post) : Rdg (w.setCell ⟨gu, i, none⟩ v) base g gs wv D gl gc b m ag rel uv gu pre post s' hi rv L ∧ Kt w (w.setCell ⟨gu, i, none⟩ v) ∧ Below base w (w.setCell ⟨gu, i, none⟩ v) :=
  have hk : Kt w (w.setCell ⟨gu, i, none⟩ v) := (Kt.refl w).set h.row (.inr (.inl rfl)) i _
  ⟨⟨h.disk.kt hk, Blk.other h.log _ _ (blk_ne h.log h.row (by decide)), by rw [← hs]; exact h.row.set i v, h.recs.set h.row (.inr rfl), h.bl, h.bu⟩, hk, (Below.refl _ _).setCell h.bu _⟩
end Go.Proofs.Ytghajmcohdedlaa
