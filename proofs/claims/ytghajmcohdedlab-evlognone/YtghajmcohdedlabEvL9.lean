/- evlog: readSegment. -/
import Derived.Test.YtghajmcohdedlabEvL8
import Derived.Deep.LoopGhost
namespace Go.Proofs.Ytghajmcohdedlab
open Go.RowKit

theorem infoRecB : (Try.prog.info? 47).map (fun i => (i.zero, i.size, i.bytes)) = some (some (.agg #[.int .i64 0, .slice none 0 0]), 2, 32) := by kernel_rfl
theorem wp_append_rc {w : World} {o : Oper} {act : Act} {K : Act → World → Prop} {Q : Exit → Act → World → Prop} (s x : Operand)
    (ho : o.op = .call { callee := .builtin .append, args := #[s, x], argTypes := #[32, 32] })
    (base : Nat) (v : Value) (L : List Rc) (hs : act.eval s = v) (hown : Rcs w base v L) (k c : Nat) (p : Rc) (hx : act.eval x = .slice (some ⟨k, 0, none⟩) 1 c)
    (hb : Blk w k (rcc p).toArray 47) (hp : Bd w base p.a p.n p.bs) (hl : L.length ≤ 1000000) (hbase : base ≤ w.heap.size)
    (h : ∀ v' w', Rcs w' base v' (L ++ [p]) → w.grownBy w' v.ownBlock → Below base w w' → Kt w w' → K (act.put o.dst v') w') : Oper.wp Try.prog o act w K Q := by
  obtain ⟨i0, hi, hz0, hz1, hz2⟩ := info_parts infoRecB
  refine wp_append_own w s x 32 ho base 47 i0 (.agg #[.int .i64 0, .slice none 0 0]) 2 32 Try.underlying32 hi hz0 hz1 hz2 (by rfl) (by decide) v L.length (L.flatMap rcc) hs hown.row ⟨k, 0, none⟩ 1 c (rcc p) hx (by rfl) (fun j u hj => ?_) (rcc_one p) (by unfold maxLen; omega) (by omega) hbase fun v' w' h1 h2 _ => ?_
  · have e : (⟨k, 0, none⟩ : Addr).add j = ⟨k, 0 + j, none⟩ := by unfold Addr.add; split <;> simp_all
    rw [e, Nat.zero_add]
    exact hb.cell j (by simpa using hj)
  · have hk : Kt w w' := (Kt.refl w).grown hown.row (.inr (.inr rfl)) h2
    refine h v' w' ⟨?_, fun r hr => ?_⟩ h2 ((Below.refl _ _).grown h2 hbase (fun k hk => (hown.row.lt k hk).1)) hk
    · rw [List.length_append, List.flatMap_append]
      simpa using h1
    · rcases List.mem_append.1 hr with hr | hr
      · exact (hown.bd r hr).kt hk
      · rw [List.mem_singleton.1 hr]
        exact hp.kt hk
theorem step_append_rc {w : World} {ops : Array Oper} {o : Oper} {act : Act} {K : Act → World → Prop} {Q : Exit → Act → World → Prop} {E : Prop} (hgd : o.guard = none) (s x : Operand)
    (ho : o.op = .call { callee := .builtin .append, args := #[s, x], argTypes := #[32, 32] })
    (base : Nat) (v : Value) (L : List Rc) (hs : act.eval s = v) (hown : Rcs w base v L) (k c : Nat) (p : Rc) (hx : act.eval x = .slice (some ⟨k, 0, none⟩) 1 c)
    (hb : Blk w k (rcc p).toArray 47) (hp : Bd w base p.a p.n p.bs) (hl : L.length ≤ 1000000) (hbase : base ≤ w.heap.size)
    (h : ∀ v' w', Rcs w' base v' (L ++ [p]) → w.grownBy w' v.ownBlock → Below base w w' → Kt w w' → K (act.put o.dst v') w') : if Region.wanted o (yielded ops act.tmps) = true then Oper.wp Try.prog o act w K Q else E := by
  rw [if_pos (by simp [Region.wanted, hgd])]
  exact wp_append_rc s x ho base v L hs hown k c p hx hb hp hl hbase h
theorem Rcs.val {w : World} {base : Nat} {v : Value} {L : List Rc} (h : Rcs w base v L) : ∃ a c, v = .slice a L.length c := by
  rcases h.row.2 with ⟨h1, h2⟩ | ⟨g, cp, cur, a1, _⟩
  · exact ⟨none, 0, by rw [h1, h2]⟩
  · exact ⟨_, cp, a1⟩
def plR (r : Rc) : Nat × List Nat := (r.tick, r.bs)
/-- The cells of a segment within a row. -/
def rowS (pre : List Value) (s : Sg) (post : List Value) : Array Value := (pre ++ (sgc s ++ post)).toArray
theorem rowS_at (pre post : List Value) (s : Sg) (j : Nat) (v : Value) (h : (sgc s)[j]? = some v) : (rowS pre s post)[pre.length + j]? = some v := by
  have hj : j < (sgc s).length := (List.getElem?_eq_some_iff.1 h).1
  unfold rowS
  rw [List.getElem?_toArray, List.getElem?_append_right (by omega), Nat.add_sub_cancel_left, List.getElem?_append_left hj]
  exact h
theorem rowS_set2 (pre post : List Value) (s : Sg) (x : Nat) : (rowS pre s post).setIfInBounds (pre.length + 2) (.int .i64 (x : Int)) = rowS pre { s with high := x } post := by
  unfold rowS
  rw [List.setIfInBounds_toArray, List.set_append_right _ _ (by omega), Nat.add_sub_cancel_left]
  rfl
theorem rowS_set3 (pre post : List Value) (s : Sg) (x : Nat) : (rowS pre s post).setIfInBounds (pre.length + 3) (.int .i64 (x : Int)) = rowS pre { s with en := x } post := by
  unfold rowS
  rw [List.setIfInBounds_toArray, List.set_append_right _ _ (by omega), Nat.add_sub_cancel_left]
  rfl
theorem Lc.high {w : World} {gl g gc b m ag hi rel : Nat} {uv rv : Value} (h : Lc w gl g gc b m ag uv hi rel rv) (x : Nat) : Lc (w.setCell ⟨gl, 6, none⟩ (.int .i64 (x : Int))) gl g gc b m ag uv x rel rv := Blk.set h 6 _
theorem Lc.recs {w : World} {gl g gc b m ag hi rel : Nat} {uv rv : Value} (h : Lc w gl g gc b m ag uv hi rel rv) (v : Value) : Lc (w.setCell ⟨gl, 8, none⟩ v) gl g gc b m ag uv hi rel v := Blk.set h 8 _
/-- How a log stands while a segment is read. -/
structure Rdg (w : World) (base g gs : Nat) (wv : Value) (D : Dk) (gl gc b m ag rel : Nat) (uv : Value) (gu : Nat) (pre post : List Value) (s : Sg) (hi : Nat) (rv : Value) (L : List Rc) : Prop where
  disk : Disk w base g gs wv D
  log : Lc w gl g gc b m ag uv hi rel rv
  row : Blk w gu (rowS pre s post) 52
  recs : Rcs w base rv L
  bl : base ≤ gl
  bu : base ≤ gu
theorem Rdg.below {w w' : World} {base g gs : Nat} {wv : Value} {D : Dk} {gl gc b m ag rel : Nat} {uv : Value} {gu : Nat} {pre post : List Value} {s : Sg} {hi : Nat} {rv : Value} {L : List Rc} (h : Rdg w base g gs wv D gl gc b m ag rel uv gu pre post s hi rv L) (hb : Below w.heap.size w w') : Rdg w' base g gs wv D gl gc b m ag rel uv gu pre post s hi rv L :=
  ⟨h.disk.stay hb, h.log.stay hb, h.row.stay hb, h.recs.below hb, h.bl, h.bu⟩
theorem Rdg.high {w : World} {base g gs : Nat} {wv : Value} {D : Dk} {gl gc b m ag rel : Nat} {uv : Value} {gu : Nat} {pre post : List Value} {s : Sg} {hi : Nat} {rv : Value} {L : List Rc} (h : Rdg w base g gs wv D gl gc b m ag rel uv gu pre post s hi rv L) (x : Nat) : Rdg (w.setCell ⟨gl, 6, none⟩ (.int .i64 (x : Int))) base g gs wv D gl gc b m ag rel uv gu pre post s x rv L ∧ Kt w (w.setCell ⟨gl, 6, none⟩ (.int .i64 (x : Int))) ∧ Below base w (w.setCell ⟨gl, 6, none⟩ (.int .i64 (x : Int))) :=
  have hk : Kt w (w.setCell ⟨gl, 6, none⟩ (.int .i64 (x : Int))) := (Kt.refl w).set h.log (.inl rfl) 6 _
  ⟨⟨h.disk.kt hk, h.log.high x, h.row.other _ _ (blk_ne h.row h.log (by decide)), h.recs.set h.log (.inl rfl), h.bl, h.bu⟩, hk, (Below.refl _ _).setCell h.bl _⟩
theorem Rdg.sets {w : World} {base g gs : Nat} {wv : Value} {D : Dk} {gl gc b m ag rel : Nat} {uv : Value} {gu : Nat} {pre post : List Value} {s : Sg} {hi : Nat} {rv : Value} {L : List Rc} (h : Rdg w base g gs wv D gl gc b m ag rel uv gu pre post s hi rv L) (s' : Sg) (i : Nat) (v : Value) (hs : (rowS pre s post).setIfInBounds i v = rowS pre s' post) : Rdg (w.setCell ⟨gu, i, none⟩ v) base g gs wv D gl gc b m ag rel uv gu pre post s' hi rv L ∧ Kt w (w.setCell ⟨gu, i, none⟩ v) ∧ Below base w (w.setCell ⟨gu, i, none⟩ v) :=
  have hk : Kt w (w.setCell ⟨gu, i, none⟩ v) := (Kt.refl w).set h.row (.inr (.inl rfl)) i _
  ⟨⟨h.disk.kt hk, Blk.other h.log _ _ (blk_ne h.log h.row (by decide)), by rw [← hs]; exact h.row.set i v, h.recs.set h.row (.inr rfl), h.bl, h.bu⟩, hk, (Below.refl _ _).setCell h.bu _⟩
end Go.Proofs.Ytghajmcohdedlab
