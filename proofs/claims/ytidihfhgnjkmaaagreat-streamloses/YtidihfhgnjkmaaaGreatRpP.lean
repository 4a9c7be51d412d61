/- A pack of texts: Rp2 Tl5 Tl6 Tl7 Rn3. -/
import Derived.Test.YtidihfhgnjkmaaaGreatRnP
import Derived.Test.YtidihfhgnjkmaaaGreatPcA
import Derived.Test.YtidihfhgnjkmaaaGreatTl4
import Derived.Deep.CutBlock
/- Tells as they are cut: a row of parcels, each with rows of its own, and the one that is being made. -/
namespace Go.Proofs.YtidihfhgnjkmaaaGreat
set_option maxRecDepth 100000
open Go.RowKit
variable {Z : Nat → Prop}

def pacel (q : Pa) : List Value := [.int .i64 q.p.kind, .int .i64 q.p.pub, .int .i64 q.p.sub, .int .i64 q.p.n_, .int .i64 q.p.fr, .int .i64 q.p.to_, .slice q.sa q.sn q.sc, .slice q.ia q.im q.ic]
/-- A parcel whose rows are one's own, and whose items' bodies are bytes somewhere. -/
structure PcR (Z : Nat → Prop) (w : World) (base : Nat) (q : Pa) : Prop where
  spans : Sps w base (.slice q.sa q.sn q.sc) q.p.spans
  items : ∃ R, Ros Z w base (.slice q.ia q.im q.ic) R ∧ R.map Prod.fst = q.p.items
def PcLt (B : Nat) (q : Pa) : Prop := (∀ ad, q.sa = some ad → ad.block < B) ∧ (∀ ad, q.ia = some ad → ad.block < B)
theorem row_frame {w w' : World} {base : Nat} {e : TypeId} {sz n : Nat} {v : Value} {cs : List Value} (h : w.ownsRow base e sz v n cs) (hk : ∀ (g : Nat) c m, v.ownBlock = some g → w.heap[g]? = some (.cells c e m) → w'.heap[g]? = w.heap[g]?) : w'.ownsRow base e sz v n cs := by
  refine ⟨h.1, ?_⟩
  rcases h.2 with hn | ⟨g, c, cur, hv, hbg, hg, r⟩
  · exact .inl hn
  · exact .inr ⟨g, c, cur, hv, hbg, (hk g _ _ (by rw [hv]; rfl) hg).trans hg, r⟩
theorem row_type {w : World} {base : Nat} {e : TypeId} {sz n : Nat} {v : Value} {cs : List Value} (h : w.ownsRow base e sz v n cs) {g : Nat} (hg : v.ownBlock = some g) : ∃ c m, w.heap[g]? = some (.cells c e m) := by
  rcases h.2 with ⟨hn, _⟩ | ⟨g', c, cur, hv, hbg, hg', r⟩
  · rw [hn] at hg; cases hg
  · rw [hv] at hg
    simp only [Value.ownBlock, Option.some.injEq] at hg
    subst hg
    exact ⟨_, _, hg'⟩
theorem row_ne {w : World} {b1 b2 : Nat} {e1 e2 : TypeId} {s1 s2 n1 n2 : Nat} {v1 v2 : Value} {c1 c2 : List Value} (h1 : w.ownsRow b1 e1 s1 v1 n1 c1) (h2 : w.ownsRow b2 e2 s2 v2 n2 c2) (hne : e1 ≠ e2) {g : Nat} (hg : v1.ownBlock = some g) : some g ≠ v2.ownBlock := fun e => by
  obtain ⟨c, m, k1⟩ := row_type h1 hg
  obtain ⟨c', m', k2⟩ := row_type h2 e.symm
  rw [k1] at k2
  simp only [Option.some.injEq, Obj.cells.injEq] at k2
  exact hne k2.2.1
theorem PcR.frame {w w' : World} {base : Nat} {q : Pa} (h : PcR Z w base q) (hs : w.heap.size ≤ w'.heap.size) (hk : ∀ (g : Nat) t c m, ((Value.slice q.sa q.sn q.sc).ownBlock = some g ∧ t = 62 ∨ (Value.slice q.ia q.im q.ic).ownBlock = some g ∧ t = 54) → w.heap[g]? = some (.cells c t m) → w'.heap[g]? = w.heap[g]?) (h2 : ∀ (k : Nat) cs m, w.heap[k]? = some (Obj.cells cs 5 m) → w'.heap[k]? = w.heap[k]?) : PcR Z w' base q := by
  obtain ⟨R, hR, e⟩ := h.items
  exact ⟨⟨row_frame h.spans.row fun g c m hg hc => hk g _ c m (.inl ⟨hg, rfl⟩) hc⟩, R, ⟨row_frame hR.row fun g c m hg hc => hk g _ c m (.inr ⟨hg, rfl⟩) hc, fun x hx => (hR.bod x hx).typed hs h2, hR.each⟩, e⟩
theorem PcR.below {w w' : World} {base : Nat} {q : Pa} (h : PcR Z w base q) (hb : Below w.heap.size w w') : PcR Z w' base q := h.frame hb.size (fun g _ _ _ _ hc => hb.block g (Array.getElem?_eq_some_iff.1 hc).1) (fun k _ _ hc => hb.block k (Array.getElem?_eq_some_iff.1 hc).1)
theorem PcR.lower {w : World} {base base' : Nat} {q : Pa} (h : PcR Z w base q) (hb : base' ≤ base) : PcR Z w base' q := by
  obtain ⟨R, hR, e⟩ := h.items
  exact ⟨h.spans.lower hb, R, hR.lower hb, e⟩
theorem own_lt {w : World} {base : Nat} {e : TypeId} {sz n : Nat} {a : Option Addr} {k c : Nat} {cs : List Value} (h : w.ownsRow base e sz (.slice a k c) n cs) : ∀ ad, a = some ad → ad.block < w.heap.size ∧ (Value.slice a k c).ownBlock = some ad.block := by
  intro ad ha
  subst ha
  rcases h.2 with ⟨hn, _⟩ | ⟨g', c', cur, hv, hbg, hg', r⟩
  · cases hn
  · simp only [Value.slice.injEq, Option.some.injEq] at hv
    obtain ⟨rfl, _⟩ := hv
    exact ⟨(Array.getElem?_eq_some_iff.1 hg').1, rfl⟩
theorem own_addr {a : Option Addr} {k c g : Nat} (h : (Value.slice a k c).ownBlock = some g) : ∃ ad, a = some ad ∧ ad.block = g := by
  cases a with
  | none => cases h
  | some ad => simp only [Value.ownBlock, Option.some.injEq] at h; exact ⟨ad, rfl, h⟩
theorem PcR.lt {w : World} {base : Nat} {q : Pa} (h : PcR Z w base q) : PcLt w.heap.size q := by
  obtain ⟨R, hR, e⟩ := h.items
  exact ⟨fun ad ha => (own_lt h.spans.row ad ha).1, fun ad ha => (own_lt hR.row ad ha).1⟩
theorem PcR.rd {w : World} {base : Nat} {q : Pa} (h : PcR Z w base q) (hz : ∀ k, base ≤ k → Z k) : PcRd w q.p q.sa q.sn q.sc q.ia q.im q.ic := by
  obtain ⟨R, hR, e⟩ := h.items
  have hs := h.spans.big
  obtain ⟨a', c', hv, h1, h2, _⟩ := hR.form
  simp only [Value.slice.injEq] at hv
  obtain ⟨_, hv2, hv3⟩ := hv
  have hi := (hR.rit hz).rd
  rw [e] at hi
  exact ⟨h.spans.rd, hi, hs.1, hs.2, by omega, by omega⟩
/-- THE TELL THAT IS BEING MADE, at tb, and those that are done, in the row v. -/
structure Making (Z : Nat → Prop) (B0 tb : Nat) (w1 wr : World) (v : Value) (l : List Pa) (q : Pa) (B : Nat) : Prop where
  tbk : Bk wr tb (pacel q).toArray 33
  row : wr.ownsRow B0 33 8 v l.length (l.flatMap pacel)
  each : ∀ x ∈ l, PcR Z wr B0 x ∧ PcLt B x
  cur : PcR Z wr B q
  tn : some tb ≠ v.ownBlock
  b0 : w1.heap.size ≤ B0
  h0 : B0 ≤ B
  hB : B ≤ wr.heap.size
  bel : Below w1.heap.size w1 wr
  tl : w1.heap.size ≤ tb
theorem Making.below {B0 tb B : Nat} {w1 wr w' : World} {v : Value} {l : List Pa} {q : Pa} (h : Making Z B0 tb w1 wr v l q B) (hb : Below wr.heap.size wr w') : Making Z B0 tb w1 w' v l q B :=
  ⟨h.tbk.stay hb, row_frame h.row fun g _ _ _ hc => hb.block g (Array.getElem?_eq_some_iff.1 hc).1, fun x hx => ⟨(h.each x hx).1.below hb, (h.each x hx).2⟩, h.cur.below hb, h.tn, h.b0, h.h0, Nat.le_trans h.hB hb.size, h.bel.trans (hb.mono h.bel.size), h.tl⟩
theorem bk_type {w : World} {g : Nat} {cs c : Array Value} {t t' : TypeId} {m : Nat × Nat} (h : Bk w g cs t) (hc : w.heap[g]? = some (.cells c t' m)) : t' = t := by
  have h1 : w.heap[g]? = some (.cells cs t (0, 0)) := h
  rw [h1] at hc
  simp only [Option.some.injEq, Obj.cells.injEq] at hc
  exact hc.2.1.symm
/-- A cell of the Tell is set. -/
theorem Making.cell {B0 tb B : Nat} {w1 wr : World} {v : Value} {l : List Pa} {q q' : Pa} (h : Making Z B0 tb w1 wr v l q B) (i : Nat) (u : Value) (hq : (pacel q).toArray.setIfInBounds i u = (pacel q').toArray) (hc : PcR Z wr B q') : Making Z B0 tb w1 (wr.setCell ⟨tb, i, none⟩ u) v l q' B := by
  have hne : ∀ (g : Nat) t c m, wr.heap[g]? = some (.cells c t m) → t ≠ 33 → (wr.setCell ⟨tb, i, none⟩ u).heap[g]? = wr.heap[g]? := fun g t c m hc ht => heap_setCell_other wr ⟨tb, i, none⟩ g u (by rintro rfl; exact ht (bk_type h.tbk hc))
  have hfr : ∀ (b : Nat) (x : Pa), PcR Z wr b x → PcR Z (wr.setCell ⟨tb, i, none⟩ u) b x := fun b x hx => hx.frame (by rw [World.size_setCell]; exact Nat.le_refl _) (fun g t c m ht hc => hne g t c m hc (by rcases ht with ⟨_, rfl⟩ | ⟨_, rfl⟩ <;> decide)) (fun k cs m hc => hne k _ cs m hc (by decide))
  refine ⟨?_, row_frame h.row fun g _ _ hg _ => heap_setCell_other wr ⟨tb, i, none⟩ g u (by rintro rfl; exact h.tn hg.symm), fun x hx => ⟨hfr _ _ (h.each x hx).1, (h.each x hx).2⟩, hfr _ _ hc, h.tn, h.b0, h.h0, by rw [World.size_setCell]; exact h.hB, h.bel.setCell h.tl _, h.tl⟩
  have := h.tbk.set i u
  rw [hq] at this
  exact this
/-- A row of the Tell grows, and is laid in. -/
theorem Making.put {B0 tb B : Nat} {w1 wr w5 : World} {v : Value} {l : List Pa} {q q' : Pa} (h : Making Z B0 tb w1 wr v l q B) {own : Option Nat} (hg : wr.grownBy w5 own) (ho : ∀ k, own = some k → B ≤ k ∧ ∃ c t m, wr.heap[k]? = some (.cells c t m) ∧ t ≠ 33 ∧ t ≠ 5) (hb : Below B wr w5) (i : Nat) (u : Value) (hq : (pacel q).toArray.setIfInBounds i u = (pacel q').toArray) (hc : PcR Z w5 B q') : Making Z B0 tb w1 (w5.setCell ⟨tb, i, none⟩ u) v l q' B := by
  have hne : ∀ (g : Nat) t c m, wr.heap[g]? = some (.cells c t m) → (t = 33 ∨ t = 5 ∨ g < B) → w5.heap[g]? = wr.heap[g]? := fun g t c m hc ht => hg.block g (Array.getElem?_eq_some_iff.1 hc).1 fun e => by
    obtain ⟨h1, c', t', m', h2, h3, h4⟩ := ho g e.symm
    rw [hc] at h2
    simp only [Option.some.injEq, Obj.cells.injEq] at h2
    obtain ⟨_, rfl, _⟩ := h2
    rcases ht with h | h | h
    · exact h3 h
    · exact h4 h
    · omega
  have htb : Bk w5 tb (pacel q).toArray 33 := (hne tb _ _ _ h.tbk (.inl rfl)).trans h.tbk
  have hst : ∀ (g : Nat) t c m, w5.heap[g]? = some (.cells c t m) → t ≠ 33 → (w5.setCell ⟨tb, i, none⟩ u).heap[g]? = w5.heap[g]? := fun g t c m hc ht => heap_setCell_other w5 ⟨tb, i, none⟩ g u (by rintro rfl; exact ht (bk_type htb hc))
  have hfr : ∀ (b : Nat) (x : Pa), PcR Z w5 b x → PcR Z (w5.setCell ⟨tb, i, none⟩ u) b x := fun b x hx => hx.frame (by rw [World.size_setCell]; exact Nat.le_refl _) (fun g t c m ht hc => hst g t c m hc (by rcases ht with ⟨_, rfl⟩ | ⟨_, rfl⟩ <;> decide)) (fun k cs m hc => hst k _ cs m hc (by decide))
  have hr5 : w5.ownsRow B0 33 8 v l.length (l.flatMap pacel) := row_frame h.row fun g c m _ hc => hne g _ c m hc (.inl rfl)
  refine ⟨?_, row_frame hr5 fun g _ _ hg _ => heap_setCell_other w5 ⟨tb, i, none⟩ g u (by rintro rfl; exact h.tn hg.symm), fun x hx => ⟨hfr _ _ ((h.each x hx).1.frame hg.size (fun g t c m ht hc => hne g t c m hc (.inr (.inr ?_))) (fun k cs m hc => hne k _ cs m hc (.inr (.inl rfl)))), (h.each x hx).2⟩, hfr _ _ hc, h.tn, h.b0, h.h0, by rw [World.size_setCell]; exact Nat.le_trans h.hB hg.size, (h.bel.trans (hb.mono (Nat.le_trans h.b0 h.h0))).setCell h.tl _, h.tl⟩
  · have := htb.set i u
    rw [hq] at this
    exact this
  · rcases ht with ⟨h1, _⟩ | ⟨h1, _⟩
    · obtain ⟨ad, ha, rfl⟩ := own_addr h1
      exact (h.each x hx).2.1 ad ha
    · obtain ⟨ad, ha, rfl⟩ := own_addr h1
      exact (h.each x hx).2.2 ad ha
/-- Which row it is that grows. -/
theorem row_own {w : World} {base : Nat} {e : TypeId} {sz n : Nat} {v : Value} {cs : List Value} (h : w.ownsRow base e sz v n cs) (h1 : e ≠ 33) (h2 : e ≠ 5) : ∀ k, v.ownBlock = some k → base ≤ k ∧ ∃ c t m, w.heap[k]? = some (.cells c t m) ∧ t ≠ 33 ∧ t ≠ 5 := fun k hk => by
  obtain ⟨c, m, hc⟩ := row_type h hk
  exact ⟨(h.lt k hk).1, c, e, m, hc, h1, h2⟩
theorem row_stays {w w5 : World} {b1 b2 : Nat} {e1 e2 : TypeId} {s1 s2 n1 n2 : Nat} {v1 v2 : Value} {c1 c2 : List Value} (h1 : w.ownsRow b1 e1 s1 v1 n1 c1) (h2 : w.ownsRow b2 e2 s2 v2 n2 c2) (hne : e1 ≠ e2) (hg : w.grownBy w5 v2.ownBlock) : w5.ownsRow b1 e1 s1 v1 n1 c1 := row_frame h1 fun g _ _ hg1 hc => hg.block g (Array.getElem?_eq_some_iff.1 hc).1 (row_ne h1 h2 hne hg1)
theorem infoParcel8 : (Tryz.prog.info? 33).map (fun i => (i.zero, i.size, i.bytes)) = some (some (.agg #[.int .i64 0, .int .i64 0, .int .i64 0, .int .i64 0, .int .i64 0, .int .i64 0, .slice none 0 0, .slice none 0 0]), 8, 96) := by kernel_rfl
theorem pacel_one (q : Pa) : ∀ u ∈ pacel q, u.oneCell' = true := by
  intro u hu
  simp only [pacel, List.mem_cons, List.not_mem_nil, or_false] at hu
  rcases hu with rfl | rfl | rfl | rfl | rfl | rfl | rfl | rfl <;> rfl
/-- A slice lies in the block it lay in, or in a new one. -/
def Sn (w : World) (v v' : Value) : Prop := v'.ownBlock = v.ownBlock ∨ ∃ k, v'.ownBlock = some k ∧ w.heap.size ≤ k
theorem run_append_where {P : Program} (w : World) (base : Nat) (t ty e : TypeId) (i : TypeInfo) (z : Value) (size bytes : Nat) (ht : P.underlying t = some (.slice e)) (hi : P.info? e = some i) (hz : i.zero = some z)
    (hsize : i.size = size) (hby : i.bytes = bytes) (v : Value) (n : Nat) (xs : List Value) (hown : w.ownsRow base e size v n xs)
    (a : Addr) (c : Nat) (news : List Value) (hl : news.length = 1 * size) (hnews : ∀ j u, news[j]? = some u → w.cell? (a.add j) = some u) (h1 : ∀ u ∈ news, u.oneCell' = true)
    (h63 : n + 1 ≤ maxLen) (hbytes : (n + 1) * bytes ≤ 140737488355328) (v' : Value) (w' : World) (hr : (Builtin.append_ #[t, t] ty #[v, .slice (some a) 1 c]).run P w = .ok v' w') : Sn w v v' := by
  subst hsize
  subst hby
  have hsmall : n + 1 ≤ 9223372036854775807 := by simp only [maxLen] at h63; omega
  rcases hown.2 with ⟨rfl, rfl⟩ | ⟨g, cap, cur, rfl, hbg, hg, hnc, hcm, hcs, htake⟩
  · have hr2 := run_append_nil (P := P) w t ty e i z ht hi hz a 1 c news hl hnews (by omega) (by omega) (by have hb := hbytes; simp only [Nat.zero_add] at hb; omega)
    rw [hr2] at hr
    simp only [Result.ok.injEq] at hr
    rw [← hr.1]
    exact .inr ⟨_, rfl, Nat.le_refl _⟩
  · by_cases hroom : n + 1 ≤ cap
    · have hfit : n * i.size + news.length ≤ cur.size := by rw [hl, hcs, ← Nat.add_mul]; exact Nat.mul_le_mul_right _ hroom
      have hr2 := run_append_room (P := P) w t ty e i ht hi g n cap cur hg a 1 c news hl hnews h1 hroom hfit
      rw [hr2] at hr
      simp only [Result.ok.injEq] at hr
      rw [← hr.1]
      exact .inl rfl
    · have holds : ∀ j u, xs[j]? = some u → w.cell? ((⟨g, 0, none⟩ : Addr).add j) = some u := hown.cells (g := g) rfl
      have hr2 := run_append_grow (P := P) w t ty e i z ht hi hz ⟨g, 0, none⟩ n cap xs hown.1 holds a 1 c news hl hnews (by omega) (by omega) (growslice_fits (by omega) hbytes)
      rw [hr2] at hr
      simp only [Result.ok.injEq] at hr
      rw [← hr.1]
      exact .inr ⟨_, rfl, Nat.le_refl _⟩
/-- A row of parcels of one's own. -/
structure PRow (w : World) (base : Nat) (v : Value) (l : List Pa) : Prop where
  row : w.ownsRow base 33 8 v l.length (l.flatMap pacel)
/-- The Tell is laid behind those that are done. -/
theorem wpList_append_tell {w : World} {ops : Array Oper} {rest : List Oper} {o : Oper} {act : Act} {Q : Exit → Act → World → Prop} (hgd : o.guard = none) (s x : Operand)
    (ho : o.op = .call { callee := .builtin .append, args := #[s, x], argTypes := #[37, 37] })
    (base : Nat) (v : Value) (l : List Pa) (hs : act.eval s = v) (hown : w.ownsRow base 33 8 v l.length (l.flatMap pacel)) (ad : Addr) (c : Nat) (q : Pa) (hx : act.eval x = .slice (some ad) 1 c) (hnews : ∀ j u, (pacel q)[j]? = some u → w.cell? (ad.add j) = some u)
    (hl : l.length ≤ 1099511627776) (hbase : base ≤ w.heap.size)
    (h : ∀ v' w', PRow w' base v' (l ++ [q]) → w.grownBy w' v.ownBlock → Below base w w' → Sn w v v' → wpList Tryz.prog ops Q rest (act.put o.dst v') w') : wpList Tryz.prog ops Q (o :: rest) act w := by
  obtain ⟨i0, hi, hz0, hz1, hz2⟩ := info_parts infoParcel8
  refine wpList_plain hgd fun K hK => ?_
  obtain ⟨v', w', hr, h1, h2, _⟩ := run_append_own (P := Tryz.prog) w base 37 o.type 33 i0 (.agg #[.int .i64 0, .int .i64 0, .int .i64 0, .int .i64 0, .int .i64 0, .int .i64 0, .slice none 0 0, .slice none 0 0]) 8 96 Tryz.underlying37 hi hz0 hz1 hz2 (by rfl) (by decide) v l.length (l.flatMap pacel) hown ad 1 c (pacel q) (by rfl) hnews (pacel_one q) (by unfold maxLen; omega) (by omega) hbase
  have h5 := run_append_where (P := Tryz.prog) w base 37 o.type 33 i0 (.agg #[.int .i64 0, .int .i64 0, .int .i64 0, .int .i64 0, .int .i64 0, .int .i64 0, .slice none 0 0, .slice none 0 0]) 8 96 Tryz.underlying37 hi hz0 hz1 hz2 v l.length (l.flatMap pacel) hown ad c (pacel q) (by rfl) hnews (pacel_one q) (by unfold maxLen; omega) (by omega) v' w' hr
  have hbel : Below base w w' := (Below.refl _ _).grown h2 hbase (fun k hk => (hown.lt k hk).1)
  unfold Oper.wp execOp
  simp only [ho, resolve, invoke, builtin, Sem.run_bind, Sem.run_pure, Result.andThen_ok, List.map_toArray, List.map_cons, List.map_nil, hs, hx, hr]
  refine hK _ _ (h v' w' ⟨?_⟩ h2 hbel h5)
  rw [List.length_append, List.flatMap_append]
  simpa using h1
theorem tell_told {w : World} {g : Nat} {q : Pa} {t : TypeId} (h : Bk w g (pacel q).toArray t) : ∀ j u, (pacel q)[j]? = some u → w.cell? ((⟨g, 0, none⟩ : Addr).add j) = some u := by
  intro j u hj
  have hk : (pacel q).toArray[j]? = some u := by rw [List.getElem?_toArray]; exact hj
  have := h.cell j hk
  have hz : (⟨g, 0, none⟩ : Addr).add j = ⟨g, j, none⟩ := by unfold Addr.add; split <;> simp_all
  rw [hz]
  exact this
/-- What stays where the row of Tells grows. -/
theorem Making.done {B0 tb B : Nat} {w1 wr w5 : World} {v : Value} {l : List Pa} {q : Pa} (h : Making Z B0 tb w1 wr v l q B) (hg : wr.grownBy w5 v.ownBlock) (hb : Below B0 wr w5) : Bk w5 tb (pacel q).toArray 33 ∧ (∀ x ∈ l ++ [q], PcR Z w5 B0 x ∧ PcLt w5.heap.size x) ∧ Below w1.heap.size w1 w5 ∧ B0 ≤ w5.heap.size := by
  have hne : ∀ (g : Nat) t c m, wr.heap[g]? = some (.cells c t m) → t ≠ 33 → w5.heap[g]? = wr.heap[g]? := fun g t c m hc ht => hg.block g (Array.getElem?_eq_some_iff.1 hc).1 fun e => by
    obtain ⟨c', m', k⟩ := row_type h.row e.symm
    rw [hc] at k
    simp only [Option.some.injEq, Obj.cells.injEq] at k
    exact ht k.2.1
  have hfr : ∀ (b : Nat) (x : Pa), PcR Z wr b x → PcR Z w5 b x := fun b x hx => hx.frame hg.size (fun g t c m ht hc => hne g t c m hc (by rcases ht with ⟨_, rfl⟩ | ⟨_, rfl⟩ <;> decide)) (fun k cs m hc => hne k _ cs m hc (by decide))
  refine ⟨h.tbk.grown hg h.tn, fun x hx => ?_, h.bel.trans (hb.mono h.b0), Nat.le_trans (Nat.le_trans h.h0 h.hB) hg.size⟩
  rcases List.mem_append.1 hx with hx | hx
  · have := hfr _ _ (h.each x hx).1
    exact ⟨this, this.lt⟩
  · rw [List.mem_singleton.1 hx]
    have := (hfr _ _ h.cur).lower h.h0
    exact ⟨this, this.lt⟩
/-- What Tell leaves. -/
structure Tells (Z : Nat → Prop) (w : World) (base : Nat) (v : Value) (l : List Pa) : Prop where
  row : w.ownsRow base 33 8 v l.length (l.flatMap pacel)
  each : ∀ x ∈ l, PcR Z w base x
theorem Tells.lower {w : World} {base base' : Nat} {v : Value} {l : List Pa} (h : Tells Z w base v l) (hb : base' ≤ base) : Tells Z w base' v l := by
  refine ⟨⟨h.row.1, ?_⟩, fun x hx => (h.each x hx).lower hb⟩
  rcases h.row.2 with hn | ⟨g8, c8, cur, hv, hbg, r⟩
  · exact .inl hn
  · exact .inr ⟨g8, c8, cur, hv, Nat.le_trans hb hbg, r⟩
theorem Tells.below {w w' : World} {base : Nat} {v : Value} {l : List Pa} (h : Tells Z w base v l) (hb : Below w.heap.size w w') : Tells Z w' base v l := ⟨row_frame h.row fun g _ _ _ hc => hb.block g (Array.getElem?_eq_some_iff.1 hc).1, fun x hx => (h.each x hx).below hb⟩
end Go.Proofs.YtidihfhgnjkmaaaGreat
/- stream.isFull, stream.cut. -/
namespace Go.Proofs.YtidihfhgnjkmaaaGreat
set_option maxRecDepth 100000
open Go.RowKit
variable {Z : Nat → Prop}

set_option maxHeartbeats 4000000 in
theorem st_isFull (c0 c1 c2 c3 c4 c5 : Value) (sa : Option Addr) (sn sc : Nat) (ia : Option Addr) (im ic : Nat) (p : Pc) (x : Pce) (b : Bd) (w : World) (hs : p.spans.length = sn) (hi : p.items.length = im) :
    Calls Tryz.prog 61 #[.agg #[c0, c1, c2, c3, c4, c5, .slice sa sn sc, .slice ia im ic], pval (x, b)] w fun e w' => e = .returned (.bool (fullB p x)) ∧ Below w.heap.size w w' := by
  obtain ⟨⟨xf, xt, xi⟩, ⟨xk, xo, xb⟩⟩ := x
  obtain ⟨ba, bl, bc⟩ := b
  unfold pval
  simp only
  obtain ⟨fb, HF⟩ : ∃ fb, Hid (fullB p (⟨xf, xt, xi⟩, ⟨xk, xo, xb⟩) = fb) := ⟨_, rfl⟩
  rw [HF.out]
  have HB : Hid (Below w.heap.size w ((w.alloc (.cells #[c0, c1, c2, c3, c4, c5, .slice sa sn sc, .slice ia im ic] 33)).alloc (.cells #[.int .i64 xf, .int .i64 xt, .int .i64 xi, .int .i64 xk, .int .u32 xo, .slice ba bl bc] 106))) := (below_new w _).alloc (by simp) _
  by_cases h1 : xi = 1
  · have HFB : Hid (fb = decide ((im : Int) = 8)) := by
      (show _ = _)
      rw [← HF.out]
      unfold fullB
      simp only
      rw [if_pos h1, hi]
      exact decide_eq_decide.2 (by omega)
    subst h1
    clear hs hi
    go_enter Tryz.func61, Tryz.ntmps61
    go_wp2
    go_ret
    exact ⟨by rw [HFB.out]; rfl, HB.out⟩
  · have HFB : Hid (fb = decide ((sn : Int) = 32)) := by
      (show _ = _)
      rw [← HF.out]
      unfold fullB
      simp only
      rw [if_neg h1, hs]
      exact decide_eq_decide.2 (by omega)
    have k1 : (xi == 1) = false := by rw [beq_eq_false_iff_ne]; exact h1
    clear hs hi
    go_enter Tryz.func61, Tryz.ntmps61
    go_wp2
    go_ret
    exact ⟨by rw [HFB.out]; rfl, HB.out⟩
end Go.Proofs.YtidihfhgnjkmaaaGreat
/- stream.cut. -/
namespace Go.Proofs.YtidihfhgnjkmaaaGreat
set_option maxRecDepth 100000
open Go.RowKit
variable {Z : Nat → Prop}

/-- A new Tell is begun. -/
theorem Making.again {B0 tb : Nat} {w1 w7 w8 : World} {v : Value} {l : List Pa} {q : Pa} {cs : Array Value} (ht : Bk w7 tb cs 33) (hr : w7.ownsRow B0 33 8 v l.length (l.flatMap pacel)) (he : ∀ x ∈ l, PcR Z w7 B0 x ∧ PcLt w7.heap.size x) (tn : some tb ≠ v.ownBlock) (b0 : w1.heap.size ≤ B0) (hB : B0 ≤ w7.heap.size) (tl : w1.heap.size ≤ tb) (hk : Bk w8 tb (pacel q).toArray 33) (hs : ∀ k, k ≠ tb → w8.heap[k]? = w7.heap[k]?) (hz : w8.heap.size = w7.heap.size) (hb : Below w1.heap.size w1 w8) (hq : q.sa = none ∧ q.sn = 0 ∧ q.sc = 0 ∧ q.ia = none ∧ q.im = 0 ∧ q.ic = 0 ∧ q.p.spans = [] ∧ q.p.items = []) : Making Z B0 tb w1 w8 v l q w7.heap.size := by
  have hne : ∀ (g : Nat) t c m, w7.heap[g]? = some (.cells c t m) → t ≠ 33 → w8.heap[g]? = w7.heap[g]? := fun g t c m hc hp => hs g (by rintro rfl; exact hp (bk_type ht hc))
  refine ⟨hk, row_frame hr fun g _ _ hg _ => hs g (by rintro rfl; exact tn hg.symm), fun x hx => ⟨(he x hx).1.frame (by omega) (fun g t c m h1 hc => hne g t c m hc (by rcases h1 with ⟨_, rfl⟩ | ⟨_, rfl⟩ <;> decide)) (fun k cs m hc => hne k _ cs m hc (by decide)), (he x hx).2⟩, ?_, tn, b0, hB, by omega, hb, tl⟩
  obtain ⟨q1, q2, q3, q4, q5, q6, q7, q8⟩ := hq
  refine ⟨?_, [], ?_, by rw [q8]; rfl⟩
  · rw [q1, q2, q3, q7]
    exact Sps.nil_ _ _
  · rw [q4, q5, q6]
    exact Ros.nil_ _ _
theorem PcR.lens {w : World} {base : Nat} {q : Pa} (h : PcR Z w base q) : q.p.spans.length = q.sn ∧ q.p.items.length = q.im := by
  obtain ⟨a, c, hv, _⟩ := h.spans.form
  obtain ⟨R, hR, e⟩ := h.items
  obtain ⟨a', c', hv', _⟩ := hR.form
  simp only [Value.slice.injEq] at hv hv'
  rw [← e, List.length_map]
  exact ⟨hv.2.1.symm, hv'.2.1.symm⟩
/-- How far the cutting is. -/
structure CutUp (Z : Nat → Prop) (pub t : Int) (B0 tb : Nat) (w1 wr : World) (v : Value) (l : List Pa) (q : Pa) (B : Nat) (r : List Pce) (TOT : List Pc) (i : Nat) : Prop where
  mk_ : Making Z B0 tb w1 wr v l q B
  tot : l.map Pa.p ++ cutP pub t r q.p = TOT
  few : l.length ≤ i
set_option maxHeartbeats 16000000 in
theorem st_cut {w : World} {b0 : Nat} {a : Option Addr} {n c : Nat} {P : List Pb} (h : Pcw w b0 (.slice a n c) P) (hR : RightP Sp.zr (P.map Prod.fst)) (hbo : BodsOk w P) (hz : ∀ k, w.heap.size ≤ k → Z k) {pub f t : Int} :
    Calls Tryz.prog 33 #[.slice a n c, .agg #[.int .i64 1, .int .i64 pub, .int .i64 0, .int .i64 0, .int .i64 f, .int .i64 t, .slice none 0 0, .slice none 0 0]] w fun e w' => (∃ va vn vc l, e = .returned (.slice va vn vc) ∧ Tells Z w' w.heap.size (.slice va vn vc) l ∧ l.map Pa.p = cutP pub t (P.map Prod.fst) ⟨1, pub, 0, 0, f, t, [], []⟩) ∧ Below w.heap.size w w' := by
  have HP : Hid (Pcw w b0 (.slice a n c) P) := h
  have HBO : Hid (BodsOk w P) := hbo
  have HRP : Hid (RightP Sp.zr (P.map Prod.fst)) := hR
  have HZ : Hid (∀ k, w.heap.size ≤ k → Z k) := hz
  have HPN : Hid (P.length = n) := by
    obtain ⟨a', c', hv, _⟩ := h.form
    simp only [Value.slice.injEq] at hv
    exact hv.2.1.symm
  have hn : n ≤ 1099511627776 := by
    have := RightP_len _ _ hR (by decide)
    rw [List.length_map, HPN.out] at this
    have h0 : Sp.zr.to = 0 := rfl
    omega
  obtain ⟨TOT, HTOT⟩ : ∃ T, Hid (cutP pub t (P.map Prod.fst) ⟨1, pub, 0, 0, f, t, [], []⟩ = T) := ⟨_, rfl⟩
  obtain ⟨W1, HW1⟩ : ∃ W1, Hid (W1 = w.alloc (.cells #[.int .i64 1, .int .i64 pub, .int .i64 0, .int .i64 0, .int .i64 f, .int .i64 t, .slice none 0 0, .slice none 0 0] 33)) := ⟨_, rfl⟩
  have HX1 : Hid (Below w.heap.size w W1) := by (show Below _ _ _); rw [HW1.out]; exact below_new w _
  have HK1 : Hid (Bk W1 w.heap.size #[.int .i64 1, .int .i64 pub, .int .i64 0, .int .i64 0, .int .i64 f, .int .i64 t, .slice none 0 0, .slice none 0 0] 33) := by (show Bk _ _ _ _); rw [HW1.out]; exact Bk.new w _ _
  obtain ⟨tb, HTB⟩ : ∃ tb, Hid (tb = w.heap.size) := ⟨_, rfl⟩
  have HU0 : Hid (CutUp Z pub t W1.heap.size tb w W1 (.slice none 0 0) [] (⟨⟨1, pub, 0, 0, f, t, [], []⟩, none, 0, 0, none, 0, 0⟩ : Pa) W1.heap.size (P.map Prod.fst) TOT 0) := by
    refine ⟨⟨?_, ⟨rfl, .inl ⟨rfl, rfl⟩⟩, fun x hx => (by cases hx), ⟨Sps.nil_ _ _, [], Ros.nil_ _ _, rfl⟩, fun e => (by cases e), HX1.out.size, Nat.le_refl _, Nat.le_refl _, HX1.out, ?_⟩, HTOT.out, Nat.le_refl _⟩
    · rw [HTB.out]; exact HK1.out
    · rw [HTB.out]; exact Nat.le_refl _
  obtain ⟨POST, HPO⟩ : ∃ P0 : Ending → World → Prop, Hid (P0 = fun e w' => (∃ va vn vc l, e = .returned (.slice va vn vc) ∧ Tells Z w' w.heap.size (.slice va vn vc) l ∧ l.map Pa.p = cutP pub t (P.map Prod.fst) ⟨1, pub, 0, 0, f, t, [], []⟩) ∧ Below w.heap.size w w') := ⟨_, rfl⟩
  have hpost : (fun e w' => (∃ va vn vc l, e = .returned (.slice va vn vc) ∧ Tells Z w' w.heap.size (.slice va vn vc) l ∧ l.map Pa.p = cutP pub t (P.map Prod.fst) ⟨1, pub, 0, 0, f, t, [], []⟩) ∧ Below w.heap.size w w') = fun e w' => POST e w' := HPO.out.symm
  rw [hpost]
  clear hpost h hR hbo hz
  go_enter Tryz.func33, Tryz.ntmps33
  go_upto_region 1 with fail
  rw [← HW1.out, ← HTB.out]
  go_wp2
  go_loopw [5, 8, 11] (fun t5 _t8 t11 wr => ∃ (i : Nat) (va : Option Addr) (vn vc : Nat) (l : List Pa) (fr : Int) (sps : List Sp) (its : List It) (sa : Option Addr) (sn sc : Nat) (ia : Option Addr) (im ic : Nat) (B : Nat), t5 = .slice va vn vc ∧ t11 = .int .i64 (i : Int) ∧ i ≤ n ∧ sn ≤ 32 ∧ im ≤ 8 ∧ Hid (CutUp Z pub t W1.heap.size tb w wr (.slice va vn vc) l (⟨⟨1, pub, 0, 0, fr, t, sps, its⟩, sa, sn, sc, ia, im, ic⟩ : Pa) B ((P.map Prod.fst).drop i) TOT i)) (fun _ _ t11 _ => n - (intOf t11).toNat)
  case atStart => exact ⟨0, none, 0, 0, [], f, [], [], none, 0, 0, none, 0, 0, W1.heap.size, rfl, rfl, Nat.zero_le _, by omega, by omega, HU0⟩
  case round =>
    obtain ⟨i, va, vn, vc, l, fr, sps, its, sa, sn, sc, ia, im, ic, B, rfl, rfl, hi, hsn, him, HU⟩ := hrel
    obtain ⟨w2, rfl⟩ : ∃ w2, w2 = wr := ⟨wr, rfl⟩
    have HLL : Hid (l.length ≤ 1099511627776) := by (show _ ≤ _); have := HU.out.few; omega
    by_cases hlt : i < n
    · have hlt' : (i : Int) < (n : Int) := by omega
      have gi : (0 : Int) ≤ (i : Int) := by omega
      obtain ⟨x, hx⟩ : ∃ x, P[i]? = some x := ⟨P[i]'(by rw [HPN.out]; exact hlt), List.getElem?_eq_getElem _⟩
      obtain ⟨g, rfl, hgb, hgl, d0, d1, d2, d3, d4, d5⟩ := (HP.out.below HU.out.mk_.bel).at_ hx
      have HD : Hid ((P.map Prod.fst).drop i = x.1 :: (P.map Prod.fst).drop (i + 1)) := by
        (show _ = _)
        have hil : i < (P.map Prod.fst).length := by rw [List.length_map, HPN.out]; exact hlt
        rw [List.drop_eq_getElem_cons hil]
        congr 1
        have := List.getElem?_eq_getElem hil
        rw [List.getElem?_map, hx] at this
        exact (Option.some.inj this).symm
      have HXB : Hid (x.1.1.is = 1 → x.2.2.1 = x.1.2.body.length ∧ x.1.2.body.length ≤ 400 ∧ Rd w x.2.1 x.2.2.1 x.1.2.body ∧ (0 ≤ x.1.2.for_ ∧ x.1.2.for_ ≤ 4294967295)) := HBO.out x (List.mem_of_getElem? hx)
      have HXE := RightP_each HRP.out x.1 (List.mem_map.2 ⟨x, List.mem_of_getElem? hx, rfl⟩)
      clear hx
      obtain ⟨⟨⟨cf, ct, ci⟩, ⟨ck, co, cb⟩⟩, ⟨ba, bl, bc⟩⟩ := x
      simp only at d0 d1 d2 d3 d4 d5 HXE HXB HD
      obtain ⟨x1, x2, x3, x4, x5, x6, x7⟩ := HXE
      have x1 : (0 : Int) < cf := x1
      have HX6 : Hid (ci = 1 → ct = cf ∧ ck = cf) := x6
      have HLN := HU.out.mk_.cur.lens
      simp only at HLN
      have HLN : Hid (sps.length = sn ∧ its.length = im) := HLN
      have HCP : Hid (cutP pub t ((P.map Prod.fst).drop i) ⟨1, pub, 0, 0, fr, t, sps, its⟩ = if fullB ⟨1, pub, 0, 0, fr, t, sps, its⟩ ((⟨cf, ct, ci⟩ : Sp), (⟨ck, co, cb⟩ : It)) = true then shutP ⟨1, pub, 0, 0, fr, t, sps, its⟩ ((⟨cf, ct, ci⟩ : Sp), (⟨ck, co, cb⟩ : It)) :: cutP pub t ((P.map Prod.fst).drop (i + 1)) (addP (restP pub t ((⟨cf, ct, ci⟩ : Sp), (⟨ck, co, cb⟩ : It))) ((⟨cf, ct, ci⟩ : Sp), (⟨ck, co, cb⟩ : It))) else cutP pub t ((P.map Prod.fst).drop (i + 1)) (addP ⟨1, pub, 0, 0, fr, t, sps, its⟩ ((⟨cf, ct, ci⟩ : Sp), (⟨ck, co, cb⟩ : It)))) := by (show _ = _); rw [HD.out, cutP]
      obtain ⟨W3, HW3⟩ : ∃ W3, Hid (W3 = w2.alloc (.cells #[.int .i64 cf, .int .i64 ct, .int .i64 ci, .int .i64 ck, .int .u32 co, .slice ba bl bc] 106)) := ⟨_, rfl⟩
      have HB3 : Hid (Below w2.heap.size w2 W3) := by (show Below _ _ _); rw [HW3.out]; exact below_new w2 _
      obtain ⟨pv, HPV⟩ : ∃ pv, Hid (pv = w2.heap.size) := ⟨_, rfl⟩
      have HK3 : Hid (Bk W3 pv #[.int .i64 cf, .int .i64 ct, .int .i64 ci, .int .i64 ck, .int .u32 co, .slice ba bl bc] 106) := by (show Bk _ _ _ _); rw [HW3.out, HPV.out]; exact Bk.new w2 _ _
      have HM3 : Hid (Making Z W1.heap.size tb w W3 (.slice va vn vc) l (⟨⟨1, pub, 0, 0, fr, t, sps, its⟩, sa, sn, sc, ia, im, ic⟩ : Pa) B) := HU.out.mk_.below HB3.out
      clear x5 x6 x7
      go_upto_region 5 with fail
      rw [← HW3.out, ← HPV.out]
      clear d0 d1 d2 d3 d4 d5
      have t0 : W3.cell? ⟨tb, 0, none⟩ = some (.int .i64 1) := HM3.out.tbk.cell 0 rfl
      have t1 : W3.cell? ⟨tb, 1, none⟩ = some (.int .i64 pub) := HM3.out.tbk.cell 1 rfl
      have t2 : W3.cell? ⟨tb, 2, none⟩ = some (.int .i64 0) := HM3.out.tbk.cell 2 rfl
      have t3 : W3.cell? ⟨tb, 3, none⟩ = some (.int .i64 0) := HM3.out.tbk.cell 3 rfl
      have t4 : W3.cell? ⟨tb, 4, none⟩ = some (.int .i64 fr) := HM3.out.tbk.cell 4 rfl
      have t5 : W3.cell? ⟨tb, 5, none⟩ = some (.int .i64 t) := HM3.out.tbk.cell 5 rfl
      have t6 : W3.cell? ⟨tb, 6, none⟩ = some (.slice sa sn sc) := HM3.out.tbk.cell 6 rfl
      have t7 : W3.cell? ⟨tb, 7, none⟩ = some (.slice ia im ic) := HM3.out.tbk.cell 7 rfl
      have e0 : W3.cell? ⟨pv, 0, none⟩ = some (.int .i64 cf) := HK3.out.cell 0 rfl
      have e1 : W3.cell? ⟨pv, 1, none⟩ = some (.int .i64 ct) := HK3.out.cell 1 rfl
      have e2 : W3.cell? ⟨pv, 2, none⟩ = some (.int .i64 ci) := HK3.out.cell 2 rfl
      have e3 : W3.cell? ⟨pv, 3, none⟩ = some (.int .i64 ck) := HK3.out.cell 3 rfl
      have e4 : W3.cell? ⟨pv, 4, none⟩ = some (.int .u32 co) := HK3.out.cell 4 rfl
      have e5 : W3.cell? ⟨pv, 5, none⟩ = some (.slice ba bl bc) := HK3.out.cell 5 rfl
      have HIF : Hid (Calls Tryz.prog 61 #[.agg #[.int .i64 1, .int .i64 pub, .int .i64 0, .int .i64 0, .int .i64 fr, .int .i64 t, .slice sa sn sc, .slice ia im ic], .agg #[.int .i64 cf, .int .i64 ct, .int .i64 ci, .int .i64 ck, .int .u32 co, .slice ba bl bc]] W3 fun e w' => e = .returned (.bool (fullB ⟨1, pub, 0, 0, fr, t, sps, its⟩ ((⟨cf, ct, ci⟩ : Sp), (⟨ck, co, cb⟩ : It)))) ∧ Below W3.heap.size W3 w') := st_isFull _ _ _ _ _ _ sa sn sc ia im ic ⟨1, pub, 0, 0, fr, t, sps, its⟩ ((⟨cf, ct, ci⟩ : Sp), (⟨ck, co, cb⟩ : It)) (ba, bl, bc) W3 HLN.out.1 HLN.out.2
      go_wp2_with fail
      refine HIF.out.mono ?_
      rintro e w4 ⟨rfl, hb4⟩
      have HM4 : Hid (Making Z W1.heap.size tb w w4 (.slice va vn vc) l (⟨⟨1, pub, 0, 0, fr, t, sps, its⟩, sa, sn, sc, ia, im, ic⟩ : Pa) B) := HM3.out.below hb4
      have HK4 : Hid (Bk w4 pv #[.int .i64 cf, .int .i64 ct, .int .i64 ci, .int .i64 ck, .int .u32 co, .slice ba bl bc] 106) := HK3.out.stay hb4
      clear hb4 HIF t0 t1 t2 t3 t4 t5 t6 t7 e0 e1 e2 e3 e4 e5
      generalize hfb : fullB ⟨1, pub, 0, 0, fr, t, sps, its⟩ ((⟨cf, ct, ci⟩ : Sp), (⟨ck, co, cb⟩ : It)) = fb
      have HFB : Hid (fullB ⟨1, pub, 0, 0, fr, t, sps, its⟩ ((⟨cf, ct, ci⟩ : Sp), (⟨ck, co, cb⟩ : It)) = fb) := hfb
      clear hfb
      go_upto_if 17 with fail
      go_cut [5, 8] from 18 to 37 (fun v5 _v8 wx => ∃ (va : Option Addr) (vn vc : Nat) (l : List Pa) (fr : Int) (sps : List Sp) (its : List It) (sa : Option Addr) (sn sc : Nat) (ia : Option Addr) (im ic : Nat) (B : Nat), v5 = .slice va vn vc ∧ sn ≤ 32 ∧ im ≤ 8 ∧ (ci = 1 → im ≠ 8) ∧ (ci ≠ 1 → sn ≠ 32) ∧ Hid (Making Z W1.heap.size tb w wx (.slice va vn vc) l (⟨⟨1, pub, 0, 0, fr, t, sps, its⟩, sa, sn, sc, ia, im, ic⟩ : Pa) B) ∧ Hid (l.map Pa.p ++ cutP pub t ((P.map Prod.fst).drop (i + 1)) (addP ⟨1, pub, 0, 0, fr, t, sps, its⟩ ((⟨cf, ct, ci⟩ : Sp), (⟨ck, co, cb⟩ : It))) = TOT) ∧ Hid (l.length ≤ i + 1) ∧ Hid (Bk wx pv #[.int .i64 cf, .int .i64 ct, .int .i64 ci, .int .i64 ck, .int .u32 co, .slice ba bl bc] 106))
      case first =>
        cases fb with
        | false =>
          have HT : Hid (l.map Pa.p ++ cutP pub t ((P.map Prod.fst).drop (i + 1)) (addP ⟨1, pub, 0, 0, fr, t, sps, its⟩ ((⟨cf, ct, ci⟩ : Sp), (⟨ck, co, cb⟩ : It))) = TOT) := by
            have h1 := HU.out.tot
            have h2 : cutP pub t ((P.map Prod.fst).drop i) ⟨1, pub, 0, 0, fr, t, sps, its⟩ = _ := HCP.out
            rw [HFB.out, if_neg (by decide)] at h2
            simp only at h1
            rw [h2] at h1
            exact h1
          have HNF : Hid ((ci = 1 → im ≠ 8) ∧ (ci ≠ 1 → sn ≠ 32)) := by
            have h1 := HFB.out
            unfold fullB at h1
            simp only at h1
            constructor
            · intro hc e
              rw [if_pos hc, HLN.out.2, e] at h1
              cases h1
            · intro hc e
              rw [if_neg hc, HLN.out.1, e] at h1
              cases h1
          go_wp2
          go_meet
          exact ⟨va, vn, vc, l, fr, sps, its, sa, sn, sc, ia, im, ic, B, rfl, hsn, him, HNF.out.1, HNF.out.2, HM4, HT, Nat.le_succ_of_le HU.out.few, HK4⟩
        | true =>
          have HT : Hid (l.map Pa.p ++ shutP ⟨1, pub, 0, 0, fr, t, sps, its⟩ ((⟨cf, ct, ci⟩ : Sp), (⟨ck, co, cb⟩ : It)) :: cutP pub t ((P.map Prod.fst).drop (i + 1)) (addP (restP pub t ((⟨cf, ct, ci⟩ : Sp), (⟨ck, co, cb⟩ : It))) ((⟨cf, ct, ci⟩ : Sp), (⟨ck, co, cb⟩ : It))) = TOT) := by
            have h1 := HU.out.tot
            have h2 : cutP pub t ((P.map Prod.fst).drop i) ⟨1, pub, 0, 0, fr, t, sps, its⟩ = _ := HCP.out
            rw [HFB.out, if_pos rfl] at h2
            simp only at h1
            rw [h2] at h1
            exact h1
          obtain ⟨W5, HW5⟩ : ∃ W5, Hid (W5 = w4.alloc (.cells #[.int .i64 1, .int .i64 pub, .int .i64 0, .int .i64 0, .int .i64 cf, .int .i64 t, .slice none 0 0, .slice none 0 0] 33)) := ⟨_, rfl⟩
          have HB5 : Hid (Below w4.heap.size w4 W5) := by (show Below _ _ _); rw [HW5.out]; exact below_new w4 _
          obtain ⟨rv, HRV⟩ : ∃ rv, Hid (rv = w4.heap.size) := ⟨_, rfl⟩
          have HR5 : Hid (Bk W5 rv #[.int .i64 1, .int .i64 pub, .int .i64 0, .int .i64 0, .int .i64 cf, .int .i64 t, .slice none 0 0, .slice none 0 0] 33) := by (show Bk _ _ _ _); rw [HW5.out, HRV.out]; exact Bk.new w4 _ _
          have HM5 : Hid (Making Z W1.heap.size tb w W5 (.slice va vn vc) l (⟨⟨1, pub, 0, 0, fr, t, sps, its⟩, sa, sn, sc, ia, im, ic⟩ : Pa) B) := HM4.out.below HB5.out
          have HK5 : Hid (Bk W5 pv #[.int .i64 cf, .int .i64 ct, .int .i64 ci, .int .i64 ck, .int .u32 co, .slice ba bl bc] 106) := HK4.out.stay HB5.out
          have t0 : w4.cell? ⟨tb, 0, none⟩ = some (.int .i64 1) := HM4.out.tbk.cell 0 rfl
          have t1 : w4.cell? ⟨tb, 1, none⟩ = some (.int .i64 pub) := HM4.out.tbk.cell 1 rfl
          have t2 : w4.cell? ⟨tb, 2, none⟩ = some (.int .i64 0) := HM4.out.tbk.cell 2 rfl
          have t3 : w4.cell? ⟨tb, 3, none⟩ = some (.int .i64 0) := HM4.out.tbk.cell 3 rfl
          have t4 : w4.cell? ⟨tb, 4, none⟩ = some (.int .i64 fr) := HM4.out.tbk.cell 4 rfl
          have t5 : w4.cell? ⟨tb, 5, none⟩ = some (.int .i64 t) := HM4.out.tbk.cell 5 rfl
          have t6 : w4.cell? ⟨tb, 6, none⟩ = some (.slice sa sn sc) := HM4.out.tbk.cell 6 rfl
          have t7 : w4.cell? ⟨tb, 7, none⟩ = some (.slice ia im ic) := HM4.out.tbk.cell 7 rfl
          have e0 : w4.cell? ⟨pv, 0, none⟩ = some (.int .i64 cf) := HK4.out.cell 0 rfl
          have e1 : w4.cell? ⟨pv, 1, none⟩ = some (.int .i64 ct) := HK4.out.cell 1 rfl
          have e2 : w4.cell? ⟨pv, 2, none⟩ = some (.int .i64 ci) := HK4.out.cell 2 rfl
          have e3 : w4.cell? ⟨pv, 3, none⟩ = some (.int .i64 ck) := HK4.out.cell 3 rfl
          have e4 : w4.cell? ⟨pv, 4, none⟩ = some (.int .u32 co) := HK4.out.cell 4 rfl
          have e5 : w4.cell? ⟨pv, 5, none⟩ = some (.slice ba bl bc) := HK4.out.cell 5 rfl
          go_upto_region 7 with fail
          rw [← HW5.out, ← HRV.out]
          clear t0 t1 t2 t3 t4 t5 t6 t7 e0 e1 e2 e3 e4 e5
          have t0 : W5.cell? ⟨tb, 0, none⟩ = some (.int .i64 1) := HM5.out.tbk.cell 0 rfl
          have t1 : W5.cell? ⟨tb, 1, none⟩ = some (.int .i64 pub) := HM5.out.tbk.cell 1 rfl
          have t2 : W5.cell? ⟨tb, 2, none⟩ = some (.int .i64 0) := HM5.out.tbk.cell 2 rfl
          have t3 : W5.cell? ⟨tb, 3, none⟩ = some (.int .i64 0) := HM5.out.tbk.cell 3 rfl
          have t4 : W5.cell? ⟨tb, 4, none⟩ = some (.int .i64 fr) := HM5.out.tbk.cell 4 rfl
          have t5 : W5.cell? ⟨tb, 5, none⟩ = some (.int .i64 t) := HM5.out.tbk.cell 5 rfl
          have t6 : W5.cell? ⟨tb, 6, none⟩ = some (.slice sa sn sc) := HM5.out.tbk.cell 6 rfl
          have t7 : W5.cell? ⟨tb, 7, none⟩ = some (.slice ia im ic) := HM5.out.tbk.cell 7 rfl
          have e0 : W5.cell? ⟨pv, 0, none⟩ = some (.int .i64 cf) := HK5.out.cell 0 rfl
          have tf5 := HM5.out.tbk.free 5
          obtain ⟨W6, HW6⟩ : ∃ W6, Hid (W6 = W5.setCell ⟨tb, 5, none⟩ (.int .i64 (cf - 1))) := ⟨_, rfl⟩
          have HM6 : Hid (Making Z W1.heap.size tb w W6 (.slice va vn vc) l (⟨shutP ⟨1, pub, 0, 0, fr, t, sps, its⟩ ((⟨cf, ct, ci⟩ : Sp), (⟨ck, co, cb⟩ : It)), sa, sn, sc, ia, im, ic⟩ : Pa) B) := by
            (show Making _ _ _ _ _ _ _ _ _)
            rw [HW6.out]
            exact HM5.out.cell 5 _ rfl ⟨HM5.out.cur.spans, HM5.out.cur.items⟩
          have HNT : Hid (rv ≠ tb) := by (show _ ≠ _); have h1 := HM4.out.tbk.lt; have h2 := HRV.out; omega
          have HR6 : Hid (Bk W6 rv #[.int .i64 1, .int .i64 pub, .int .i64 0, .int .i64 0, .int .i64 cf, .int .i64 t, .slice none 0 0, .slice none 0 0] 33) := by (show Bk _ _ _ _); rw [HW6.out]; exact HR5.out.other _ _ HNT.out
          have HK6 : Hid (Bk W6 pv #[.int .i64 cf, .int .i64 ct, .int .i64 ci, .int .i64 ck, .int .u32 co, .slice ba bl bc] 106) := by
            (show Bk _ _ _ _)
            rw [HW6.out]
            refine HK5.out.other _ _ ?_
            rintro rfl
            have := bk_type HK5.out HM5.out.tbk
            exact absurd this (by decide)
          go_upto_region 8 with fail
          rw [← HW6.out]
          clear t0 t1 t2 t3 t4 t5 t6 t7 e0 tf5
          have t0 : W6.cell? ⟨tb, 0, none⟩ = some (.int .i64 1) := HM6.out.tbk.cell 0 rfl
          have t1 : W6.cell? ⟨tb, 1, none⟩ = some (.int .i64 pub) := HM6.out.tbk.cell 1 rfl
          have t2 : W6.cell? ⟨tb, 2, none⟩ = some (.int .i64 0) := HM6.out.tbk.cell 2 rfl
          have t3 : W6.cell? ⟨tb, 3, none⟩ = some (.int .i64 0) := HM6.out.tbk.cell 3 rfl
          have t4 : W6.cell? ⟨tb, 4, none⟩ = some (.int .i64 fr) := HM6.out.tbk.cell 4 rfl
          have t5 : W6.cell? ⟨tb, 5, none⟩ = some (.int .i64 (cf - 1)) := HM6.out.tbk.cell 5 rfl
          have t6 : W6.cell? ⟨tb, 6, none⟩ = some (.slice sa sn sc) := HM6.out.tbk.cell 6 rfl
          have t7 : W6.cell? ⟨tb, 7, none⟩ = some (.slice ia im ic) := HM6.out.tbk.cell 7 rfl
          have HB7 : Hid (Below W6.heap.size W6 (W6.alloc (.cells #[.int .i64 1, .int .i64 pub, .int .i64 0, .int .i64 0, .int .i64 fr, .int .i64 (cf - 1), .slice sa sn sc, .slice ia im ic] 33))) := below_new _ _
          have HM7 := HM6.out.below HB7.out
          have HTD : Hid (∀ j u, (pacel (⟨shutP ⟨1, pub, 0, 0, fr, t, sps, its⟩ ((⟨cf, ct, ci⟩ : Sp), (⟨ck, co, cb⟩ : It)), sa, sn, sc, ia, im, ic⟩ : Pa))[j]? = some u → (W6.alloc (.cells #[.int .i64 1, .int .i64 pub, .int .i64 0, .int .i64 0, .int .i64 fr, .int .i64 (cf - 1), .slice sa sn sc, .slice ia im ic] 33)).cell? ((⟨W6.heap.size, 0, none⟩ : Addr).add j) = some u) := tell_told (q := (⟨shutP ⟨1, pub, 0, 0, fr, t, sps, its⟩ ((⟨cf, ct, ci⟩ : Sp), (⟨ck, co, cb⟩ : It)), sa, sn, sc, ia, im, ic⟩ : Pa)) (Bk.new _ _ _)
          have HM7 : Hid (Making Z W1.heap.size tb w (W6.alloc (.cells #[.int .i64 1, .int .i64 pub, .int .i64 0, .int .i64 0, .int .i64 fr, .int .i64 (cf - 1), .slice sa sn sc, .slice ia im ic] 33)) (.slice va vn vc) l (⟨shutP ⟨1, pub, 0, 0, fr, t, sps, its⟩ ((⟨cf, ct, ci⟩ : Sp), (⟨ck, co, cb⟩ : It)), sa, sn, sc, ia, im, ic⟩ : Pa) B) := HM7
          go_wp2_with (at_builtin; refine wpList_append_tell rfl (.tmp 33) (.tmp 35) rfl W1.heap.size _ l rfl HM7.out.row ⟨W6.heap.size, 0, none⟩ 1 (⟨shutP ⟨1, pub, 0, 0, fr, t, sps, its⟩ ((⟨cf, ct, ci⟩ : Sp), (⟨ck, co, cb⟩ : It)), sa, sn, sc, ia, im, ic⟩ : Pa) rfl HTD.out HLL.out (Nat.le_trans HM7.out.h0 HM7.out.hB) ?_)
          intro v8 w8 hr8 hg8 hb8 hsn8
          have HSN8 : Hid (some tb ≠ v8.ownBlock) := fun e => by
            rcases hsn8 with h1 | ⟨k, h1, h2⟩
            · exact HM7.out.tn (e.trans h1)
            · rw [h1] at e
              have h3 := HM7.out.tbk.lt
              simp only [Option.some.injEq] at e
              omega
          obtain ⟨q1, q2, q3, q4⟩ := HM7.out.done hg8 hb8
          have HRW : Hid (w8.ownsRow W1.heap.size 33 8 v8 (l ++ [(⟨shutP ⟨1, pub, 0, 0, fr, t, sps, its⟩ ((⟨cf, ct, ci⟩ : Sp), (⟨ck, co, cb⟩ : It)), sa, sn, sc, ia, im, ic⟩ : Pa)]).length ((l ++ [(⟨shutP ⟨1, pub, 0, 0, fr, t, sps, its⟩ ((⟨cf, ct, ci⟩ : Sp), (⟨ck, co, cb⟩ : It)), sa, sn, sc, ia, im, ic⟩ : Pa)]).flatMap pacel)) := hr8.row
          have HTK : Hid (Bk w8 tb (pacel (⟨shutP ⟨1, pub, 0, 0, fr, t, sps, its⟩ ((⟨cf, ct, ci⟩ : Sp), (⟨ck, co, cb⟩ : It)), sa, sn, sc, ia, im, ic⟩ : Pa)).toArray 33) := q1
          have HEA : Hid (∀ x ∈ l ++ [(⟨shutP ⟨1, pub, 0, 0, fr, t, sps, its⟩ ((⟨cf, ct, ci⟩ : Sp), (⟨ck, co, cb⟩ : It)), sa, sn, sc, ia, im, ic⟩ : Pa)], PcR Z w8 W1.heap.size x ∧ PcLt w8.heap.size x) := q2
          have HBE : Hid (Below w.heap.size w w8 ∧ W1.heap.size ≤ w8.heap.size) := ⟨q3, q4⟩
          have HR8 : Hid (Bk w8 rv #[.int .i64 1, .int .i64 pub, .int .i64 0, .int .i64 0, .int .i64 cf, .int .i64 t, .slice none 0 0, .slice none 0 0] 33) := (HR6.out.stay HB7.out).grown hg8 (fun e => by have h1 := (HM4.out.row.lt rv e.symm).2; have h2 := HRV.out; omega)
          have HK8 : Hid (Bk w8 pv #[.int .i64 cf, .int .i64 ct, .int .i64 ci, .int .i64 ck, .int .u32 co, .slice ba bl bc] 106) := (HK6.out.stay HB7.out).grown hg8 (fun e => by
            obtain ⟨c', m', k⟩ := row_type HM7.out.row e.symm
            exact absurd (bk_type (HK6.out.stay HB7.out) k) (by decide))
          obtain ⟨v8a, v8n, v8c, hv8⟩ : ∃ a n c, v8 = .slice a n c := by
            rcases hr8.row.2 with ⟨hv, _⟩ | ⟨g8, c8, cur, hv, _⟩
            · exact ⟨_, _, _, hv⟩
            · exact ⟨_, _, _, hv⟩
          subst hv8
          clear q1 q2 q3 q4 hr8 hg8 hb8 hsn8 t0 t1 t2 t3 t4 t5 t6 t7
          have t0 : w8.cell? ⟨tb, 0, none⟩ = some (.int .i64 1) := HTK.out.cell 0 rfl
          have t1 : w8.cell? ⟨tb, 1, none⟩ = some (.int .i64 pub) := HTK.out.cell 1 rfl
          have t2 : w8.cell? ⟨tb, 2, none⟩ = some (.int .i64 0) := HTK.out.cell 2 rfl
          have t3 : w8.cell? ⟨tb, 3, none⟩ = some (.int .i64 0) := HTK.out.cell 3 rfl
          have t4 : w8.cell? ⟨tb, 4, none⟩ = some (.int .i64 fr) := HTK.out.cell 4 rfl
          have t5 : w8.cell? ⟨tb, 5, none⟩ = some (.int .i64 (cf - 1)) := HTK.out.cell 5 rfl
          have t6 : w8.cell? ⟨tb, 6, none⟩ = some (.slice sa sn sc) := HTK.out.cell 6 rfl
          have t7 : w8.cell? ⟨tb, 7, none⟩ = some (.slice ia im ic) := HTK.out.cell 7 rfl
          have tf0 := HTK.out.free 0
          have tf1 := HTK.out.free 1
          have tf2 := HTK.out.free 2
          have tf3 := HTK.out.free 3
          have tf4 := HTK.out.free 4
          have tf5 := HTK.out.free 5
          have tf6 := HTK.out.free 6
          have tf7 := HTK.out.free 7
          have r0 : w8.cell? ⟨rv, 0, none⟩ = some (.int .i64 1) := HR8.out.cell 0 rfl
          have r1 : w8.cell? ⟨rv, 1, none⟩ = some (.int .i64 pub) := HR8.out.cell 1 rfl
          have r2 : w8.cell? ⟨rv, 2, none⟩ = some (.int .i64 0) := HR8.out.cell 2 rfl
          have r3 : w8.cell? ⟨rv, 3, none⟩ = some (.int .i64 0) := HR8.out.cell 3 rfl
          have r4 : w8.cell? ⟨rv, 4, none⟩ = some (.int .i64 cf) := HR8.out.cell 4 rfl
          have r5 : w8.cell? ⟨rv, 5, none⟩ = some (.int .i64 t) := HR8.out.cell 5 rfl
          have r6 : w8.cell? ⟨rv, 6, none⟩ = some (.slice none 0 0) := HR8.out.cell 6 rfl
          have r7 : w8.cell? ⟨rv, 7, none⟩ = some (.slice none 0 0) := HR8.out.cell 7 rfl
          obtain ⟨w9, HW9⟩ : ∃ W, Hid (W = set8 w8 tb (.int .i64 1) (.int .i64 pub) (.int .i64 0) (.int .i64 0) (.int .i64 cf) (.int .i64 t) (.slice none 0 0) (.slice none 0 0)) := ⟨_, rfl⟩
          have HM9 : Hid (Making Z W1.heap.size tb w w9 (.slice v8a v8n v8c) (l ++ [(⟨shutP ⟨1, pub, 0, 0, fr, t, sps, its⟩ ((⟨cf, ct, ci⟩ : Sp), (⟨ck, co, cb⟩ : It)), sa, sn, sc, ia, im, ic⟩ : Pa)]) (⟨⟨1, pub, 0, 0, cf, t, [], []⟩, none, 0, 0, none, 0, 0⟩ : Pa) w8.heap.size) := by
            (show Making _ _ _ _ _ _ _ _ _)
            refine Making.again HTK.out HRW.out HEA.out HSN8.out HM4.out.b0 HBE.out.2 HM4.out.tl ?_ ?_ ?_ ?_ ⟨rfl, rfl, rfl, rfl, rfl, rfl, rfl, rfl⟩
            · rw [HW9.out]; exact Bk.set8 HTK.out _ _ _ _ _ _ _ _
            · intro k hk; rw [HW9.out]; exact set8_other _ _ _ _ _ _ _ _ _ _ k hk
            · rw [HW9.out]; unfold set8; simp only [World.size_setCell]
            · rw [HW9.out]; exact set8_below HBE.out.1 tb HM4.out.tl _ _ _ _ _ _ _ _
          have HK9 : Hid (Bk w9 pv #[.int .i64 cf, .int .i64 ct, .int .i64 ci, .int .i64 ck, .int .u32 co, .slice ba bl bc] 106) := by
            (show Bk _ _ _ _)
            rw [HW9.out]
            refine (set8_other _ _ _ _ _ _ _ _ _ _ pv ?_).trans HK8.out
            rintro rfl
            exact absurd (bk_type HK8.out HTK.out) (by decide)
          have HT9 : Hid ((l ++ [(⟨shutP ⟨1, pub, 0, 0, fr, t, sps, its⟩ ((⟨cf, ct, ci⟩ : Sp), (⟨ck, co, cb⟩ : It)), sa, sn, sc, ia, im, ic⟩ : Pa)]).map Pa.p ++ cutP pub t ((P.map Prod.fst).drop (i + 1)) (addP ⟨1, pub, 0, 0, cf, t, [], []⟩ ((⟨cf, ct, ci⟩ : Sp), (⟨ck, co, cb⟩ : It))) = TOT) := by
            (show _ = _)
            rw [← HT.out, List.map_append, List.append_assoc]
            rfl
          have HL9 : Hid ((l ++ [(⟨shutP ⟨1, pub, 0, 0, fr, t, sps, its⟩ ((⟨cf, ct, ci⟩ : Sp), (⟨ck, co, cb⟩ : It)), sa, sn, sc, ia, im, ic⟩ : Pa)]).length ≤ i + 1) := by (show _ ≤ _); rw [List.length_append]; have := HU.out.few; simp; exact this
          go_wp2
          go_meet
          change ∃ (va : Option Addr) (vn vc : Nat) (l : List Pa) (fr : Int) (sps : List Sp) (its : List It) (sa : Option Addr) (sn sc : Nat) (ia : Option Addr) (im ic : Nat) (B : Nat), _ = Value.slice va vn vc ∧ _ ∧ _ ∧ _ ∧ _ ∧ Hid (Making Z W1.heap.size tb w (set8 w8 tb (.int .i64 1) (.int .i64 pub) (.int .i64 0) (.int .i64 0) (.int .i64 cf) (.int .i64 t) (.slice none 0 0) (.slice none 0 0)) (.slice va vn vc) l (⟨⟨1, pub, 0, 0, fr, t, sps, its⟩, sa, sn, sc, ia, im, ic⟩ : Pa) B) ∧ _ ∧ _ ∧ Hid (Bk (set8 w8 tb (.int .i64 1) (.int .i64 pub) (.int .i64 0) (.int .i64 0) (.int .i64 cf) (.int .i64 t) (.slice none 0 0) (.slice none 0 0)) pv #[.int .i64 cf, .int .i64 ct, .int .i64 ci, .int .i64 ck, .int .u32 co, .slice ba bl bc] 106)
          rw [← HW9.out]
          exact ⟨v8a, v8n, v8c, _, cf, [], [], none, 0, 0, none, 0, 0, w8.heap.size, rfl, by omega, by omega, fun _ => by omega, fun _ => by omega, HM9, HT9, HL9, HK9⟩
      case rest =>
      clear HM3 HM4 HK3 HK4 HU HLL HCP HFB HLN hsn him HB3 HW3
      obtain ⟨va, vn, vc, l, fr, sps, its, sa, sn, sc, ia, im, ic, B, hv5, hsn, him, hf1, hf2, HM, HT, HL, HK⟩ := hcut
      obtain ⟨w5, hwp⟩ : ∃ W, W = wc := ⟨_, rfl⟩
      subst hwp
      subst hv5
      have HLM := HM.out.cur.lens
      simp only at HLM
      have HLM : Hid (sps.length = sn ∧ its.length = im) := HLM
      have e0 : w5.cell? ⟨pv, 0, none⟩ = some (.int .i64 cf) := HK.out.cell 0 rfl
      have e1 : w5.cell? ⟨pv, 1, none⟩ = some (.int .i64 ct) := HK.out.cell 1 rfl
      have e2 : w5.cell? ⟨pv, 2, none⟩ = some (.int .i64 ci) := HK.out.cell 2 rfl
      have e3 : w5.cell? ⟨pv, 3, none⟩ = some (.int .i64 ck) := HK.out.cell 3 rfl
      have e4 : w5.cell? ⟨pv, 4, none⟩ = some (.int .u32 co) := HK.out.cell 4 rfl
      have e5 : w5.cell? ⟨pv, 5, none⟩ = some (.slice ba bl bc) := HK.out.cell 5 rfl
      by_cases hc : ci = 1
      · have k1 : (ci == 1) = true := by rw [beq_iff_eq]; exact hc
        have hc8 : im ≠ 8 := hf1 hc
        obtain ⟨y1, y2, y3, y4⟩ := HXB.out hc
        have hbl : bl ≤ 400 := by omega
        have HRB : Hid (Rd w5 ba bl cb) := y3.below HM.out.bel
        have HII : Hid (ItIn ⟨ck, co, cb⟩) := ⟨by have h1 := (HX6.out hc).2; have h2 := (HX6.out hc).1; show (-9223372036854775808 : Int) ≤ ck ∧ ck ≤ 9223372036854775807; omega, y4⟩
        have HTI : Hid (l.map Pa.p ++ cutP pub t ((P.map Prod.fst).drop (i + 1)) ⟨1, pub, 0, 0, fr, t, sps, its ++ [⟨ck, co, cb⟩]⟩ = TOT) := by have := HT.out; unfold addP at this; rw [if_pos hc] at this; exact this
        clear y1 y2 y3 y4 hf1 hf2 HT hc
        go_upto_region 11 with fail
        refine wp_region_held_drew (S := fun w' => w'.cell? ⟨pv, 3, none⟩ = some (.int .i64 ck) ∧ w'.cell? ⟨pv, 4, none⟩ = some (.int .u32 co) ∧ w'.cell? ⟨pv, 5, none⟩ = some (.slice ba bl bc)) (by kernel_rfl) (⟨e3, e4, e5⟩) (fun hHeld => ?_)
        obtain ⟨wd, HWD⟩ : ∃ W, Hid (W = w5.drew) := ⟨_, rfl⟩
        rw [← HWD.out] at hHeld ⊢
        have HBd : Hid (Below w5.heap.size w5 wd) := by (show Below _ _ _); rw [HWD.out]; exact (Below.refl _ _).drew
        have HMd : Hid (Making Z W1.heap.size tb w wd (.slice va vn vc) l (⟨⟨1, pub, 0, 0, fr, t, sps, its⟩, sa, sn, sc, ia, im, ic⟩ : Pa) B) := HM.out.below HBd.out
        have HKd : Hid (Bk wd pv #[.int .i64 cf, .int .i64 ct, .int .i64 ci, .int .i64 ck, .int .u32 co, .slice ba bl bc] 106) := HK.out.stay HBd.out
        have HRd : Hid (Rd wd ba bl cb) := HRB.out.below HBd.out
        clear e0 e1 e2 e3 e4 e5
        refine take_putH (i := 0) (v := ?_) (some 42) rfl (by kernel_rfl) (by kernel_rfl) (by kernel_rfl) (by kernel_rfl) (fun _ _ _ h => h) (Or.inl ⟨by rfl, ?_⟩) hHeld ?_
        rotate_left
        · (intro wS hSw; obtain ⟨z0, z1, z2⟩ := hSw; go_simp; try with_reducible rfl)
        try simp only [Act.put, List.setIfInBounds_toArray, List.set_cons_zero, List.set_cons_succ]
        refine take_putH (i := 2) (v := ?_) (some 44) rfl (by kernel_rfl) (by kernel_rfl) (by kernel_rfl) (by kernel_rfl) (fun _ _ _ h => h) (Or.inl ⟨by rfl, ?_⟩) hHeld ?_
        rotate_left
        · (intro wS hSw; obtain ⟨z0, z1, z2⟩ := hSw; go_simp; try with_reducible rfl)
        try simp only [Act.put, List.setIfInBounds_toArray, List.set_cons_zero, List.set_cons_succ]
        refine take_putH (i := 3) (v := ?_) (some 45) rfl (by kernel_rfl) (by kernel_rfl) (by kernel_rfl) (by kernel_rfl) (fun _ _ _ h => h) (Or.inl ⟨by rfl, ?_⟩) hHeld ?_
        rotate_left
        · (intro wS hSw; obtain ⟨z0, z1, z2⟩ := hSw; go_simp; try with_reducible rfl)
        try simp only [Act.put, List.setIfInBounds_toArray, List.set_cons_zero, List.set_cons_succ]
        have hH0 : Hid (wd.cell? ⟨pv, 3, none⟩ = some (.int .i64 ck) ∧ wd.cell? ⟨pv, 4, none⟩ = some (.int .u32 co) ∧ wd.cell? ⟨pv, 5, none⟩ = some (.slice ba bl bc)) := hHeld
        clear hHeld
        refine wpAnyH_ready (rs := [1, 4]) (by kernel_rfl) (by simp) ?_
        refine AllReadyH.cons rfl (fun K hK => ?_) (AllReadyH.cons rfl (fun K hK => ?_) AllReadyH.nil)
        · have cl : wd.cell? ⟨tb, 7, none⟩ = some (.slice ia im ic) := HMd.out.tbk.cell 7 rfl
          go_simp
          clear cl
          refine hK.out _ _ hH0.out (fun _ => ?_)
          clear hK K
          try simp only [Act.put, List.getElem_toArray, List.getElem_cons_succ, List.getElem_cons_zero, List.setIfInBounds_toArray, List.set_cons_zero, List.set_cons_succ]
          refine wpAnyH_ready (rs := [4]) (by kernel_rfl) (by simp) ?_
          refine AllReadyH.cons rfl (fun K hK => ?_) AllReadyH.nil
          go_simp
          refine (st_cloned ck co ba bl bc cb wd HRd.out (by omega)).mono ?_
          rintro e w6 ⟨a6, c6, rfl, ho6, hb6⟩
          have HO6 : Hid (Own w6 wd.heap.size a6 bl c6 cb) := ho6
          have HB6 : Hid (Below wd.heap.size wd w6) := hb6
          have hH6 : Hid (w6.cell? ⟨pv, 3, none⟩ = some (.int .i64 ck) ∧ w6.cell? ⟨pv, 4, none⟩ = some (.int .u32 co) ∧ w6.cell? ⟨pv, 5, none⟩ = some (.slice ba bl bc)) := ⟨(HKd.out.stay HB6.out).cell 3 rfl, (HKd.out.stay HB6.out).cell 4 rfl, (HKd.out.stay HB6.out).cell 5 rfl⟩
          clear ho6 hb6
          refine hK.out _ _ hH6.out (fun _ => ?_)
          clear hK K
          try simp only [Act.put, List.getElem_toArray, List.getElem_cons_succ, List.getElem_cons_zero, List.setIfInBounds_toArray, List.set_cons_zero, List.set_cons_succ]
          refine wpAnyH_ready (rs := [5]) (by kernel_rfl) (by simp) ?_
          refine AllReadyH.cons rfl (fun K hK => ?_) AllReadyH.nil
          go_simp
          obtain ⟨W7, HW7⟩ : ∃ W7, Hid (W7 = w6.alloc (.cells #[.int .i64 ck, .int .u32 co, .slice a6 bl c6] 54)) := ⟨_, rfl⟩
          rw [← HW7.out]
          have HB7 : Hid (Below w6.heap.size w6 W7) := by (show Below _ _ _); rw [HW7.out]; exact below_new _ _
          have HN7 : Hid (Bk W7 w6.heap.size #[.int .i64 ck, .int .u32 co, .slice a6 bl c6] 54) := by (show Bk _ _ _ _); rw [HW7.out]; exact Bk.new _ _ _
          have HM7 : Hid (Making Z W1.heap.size tb w W7 (.slice va vn vc) l (⟨⟨1, pub, 0, 0, fr, t, sps, its⟩, sa, sn, sc, ia, im, ic⟩ : Pa) B) := (HMd.out.below HB6.out).below HB7.out
          have HK7 : Hid (Bk W7 pv #[.int .i64 cf, .int .i64 ct, .int .i64 ci, .int .i64 ck, .int .u32 co, .slice ba bl bc] 106) := (HKd.out.stay HB6.out).stay HB7.out
          have hH7 : Hid (W7.cell? ⟨pv, 3, none⟩ = some (.int .i64 ck) ∧ W7.cell? ⟨pv, 4, none⟩ = some (.int .u32 co) ∧ W7.cell? ⟨pv, 5, none⟩ = some (.slice ba bl bc)) := ⟨HK7.out.cell 3 rfl, HK7.out.cell 4 rfl, HK7.out.cell 5 rfl⟩
          refine hK.out _ _ hH7.out (fun _ => ?_)
          clear hK K
          try simp only [Act.put, List.getElem_toArray, List.getElem_cons_succ, List.getElem_cons_zero, List.setIfInBounds_toArray, List.set_cons_zero, List.set_cons_succ]
          obtain ⟨R, hR, hRe⟩ := HM7.out.cur.items
          have HRO : Hid (Ros Z W7 B (.slice ia im ic) R) := hR
          have HRE : Hid (R.map Prod.fst = its) := hRe
          have HBT : Hid (BdT Z W7 (a6, bl, c6) cb) := (BdT.of_own HO6.out (fun k hk => HZ.out k (Nat.le_trans (Nat.le_trans HM.out.bel.size HBd.out.size) hk))).frame HB7.out.size fun k hk _ _ => HB7.out.block k hk
          have HRL : Hid (R.length ≤ 1000000000000) := by (show _ ≤ _); have h1 := congrArg List.length HRE.out; rw [List.length_map] at h1; have h2 := HLM.out.2; omega
          clear hR hRe
          refine wpAnyH_ready (rs := [6]) (by kernel_rfl) (by simp) ?_
          refine AllReadyH.cons rfl (fun K hK => ?_) AllReadyH.nil
          refine step_append_ro (Z := Z) rfl (.tmp 43) (.tmp 47) rfl B (.slice ia im ic) R rfl HRO.out ⟨w6.heap.size, 0, none⟩ 1 (⟨ck, co, cb⟩, a6, bl, c6) rfl (item_told HN7.out) HBT.out HII.out HRL.out HM7.out.hB ?_
          intro v8 w8 hr8 hg8 hb8 hn8
          obtain ⟨a8, c8, hv8, _⟩ := hr8.form
          obtain ⟨n8, hn8e⟩ : ∃ n, n = (R ++ [((⟨ck, co, cb⟩ : It), ((a6, bl, c6) : Bd))]).length := ⟨_, rfl⟩
          rw [← hn8e] at hv8
          subst hv8
          have HN8 : Hid (n8 = im + 1) := by (show _ = _); rw [hn8e, List.length_append]; have h1 := congrArg List.length HRE.out; rw [List.length_map] at h1; have h2 := HLM.out.2; simp; omega
          have HR8 : Hid (Ros Z w8 B (.slice a8 n8 c8) (R ++ [(⟨ck, co, cb⟩, a6, bl, c6)])) := hr8
          have HG8 : Hid (W7.grownBy w8 (Value.slice ia im ic).ownBlock) := hg8
          have HB8 : Hid (Below B W7 w8) := hb8
          have HK8 : Hid (Bk w8 pv #[.int .i64 cf, .int .i64 ct, .int .i64 ci, .int .i64 ck, .int .u32 co, .slice ba bl bc] 106) := HK7.out.grown hg8 (fun e => by obtain ⟨c9, m9, k9⟩ := row_type HRO.out.row e.symm; exact absurd (bk_type HK7.out k9) (by decide))
          have HTK : Hid (Bk w8 tb #[.int .i64 1, .int .i64 pub, .int .i64 0, .int .i64 0, .int .i64 fr, .int .i64 t, .slice sa sn sc, .slice ia im ic] 33) := HM7.out.tbk.grown hg8 (fun e => by obtain ⟨c9, m9, k9⟩ := row_type HRO.out.row e.symm; exact absurd (bk_type HM7.out.tbk k9) (by decide))
          have hH8 : Hid (w8.cell? ⟨pv, 3, none⟩ = some (.int .i64 ck) ∧ w8.cell? ⟨pv, 4, none⟩ = some (.int .u32 co) ∧ w8.cell? ⟨pv, 5, none⟩ = some (.slice ba bl bc)) := ⟨HK8.out.cell 3 rfl, HK8.out.cell 4 rfl, HK8.out.cell 5 rfl⟩
          clear hr8 hg8 hb8 hn8 hn8e
          refine hK.out _ _ hH8.out (fun _ => ?_)
          clear hK K
          try simp only [Act.put, List.getElem_toArray, List.getElem_cons_succ, List.getElem_cons_zero, List.setIfInBounds_toArray, List.set_cons_zero, List.set_cons_succ]
          refine take_putH (i := 7) (v := ?_) (some 49) rfl (by kernel_rfl) (by kernel_rfl) (by kernel_rfl) (by kernel_rfl) (fun _ _ _ h => h) (Or.inl ⟨by rfl, ?_⟩) hH8.out ?_
          rotate_left
          · (intro wS hSw; obtain ⟨z0, z1, z2⟩ := hSw; go_simp; try with_reducible rfl)
          try simp only [Act.put, List.setIfInBounds_toArray, List.set_cons_zero, List.set_cons_succ]
          have m7 : w8.cell? ⟨tb, 7, none⟩ = some (.slice ia im ic) := HTK.out.cell 7 rfl
          have mf : w8.frozen? ⟨tb, 7, none⟩ = false := HTK.out.free 7
          obtain ⟨w9, HW9⟩ : ∃ W, Hid (W = w8.setCell ⟨tb, 7, none⟩ (.slice a8 n8 c8)) := ⟨_, rfl⟩
          have HM9 : Hid (Making Z W1.heap.size tb w w9 (.slice va vn vc) l (⟨⟨1, pub, 0, 0, fr, t, sps, (its ++ [⟨ck, co, cb⟩])⟩, sa, sn, sc, a8, n8, c8⟩ : Pa) B) := by
            (show Making _ _ _ _ _ _ _ _ _)
            rw [HW9.out]
            refine HM7.out.put HG8.out (row_own HRO.out.row (by decide) (by decide)) HB8.out 7 _ rfl ⟨⟨row_stays HM7.out.cur.spans.row HRO.out.row (by decide) HG8.out⟩, _, HR8.out, ?_⟩
            rw [List.map_append, HRE.out]
            rfl
          have hkz : Bk w9 pv #[.int .i64 cf, .int .i64 ct, .int .i64 ci, .int .i64 ck, .int .u32 co, .slice ba bl bc] 106 := by
            rw [HW9.out]
            refine HK8.out.other _ _ ?_
            rintro rfl
            exact absurd (bk_type HK8.out HTK.out) (by decide)
          have hH9 : Hid (w9.cell? ⟨pv, 3, none⟩ = some (.int .i64 ck) ∧ w9.cell? ⟨pv, 4, none⟩ = some (.int .u32 co) ∧ w9.cell? ⟨pv, 5, none⟩ = some (.slice ba bl bc)) := ⟨hkz.cell 3 rfl, hkz.cell 4 rfl, hkz.cell 5 rfl⟩
          clear hkz
          refine wpAnyH_ready (rs := [8]) (by kernel_rfl) (by simp) ?_
          refine AllReadyH.cons rfl (fun K hK => ?_) AllReadyH.nil
          go_simp
          rw [← HW9.out]
          refine hK.out _ _ hH9.out (fun _ => ?_)
          clear hK K
          try simp only [Act.put, List.getElem_toArray, List.getElem_cons_succ, List.getElem_cons_zero, List.setIfInBounds_toArray, List.set_cons_zero, List.set_cons_succ]
          refine wpAnyH_done (by kernel_rfl) ?_ _
          clear m7 mf
          have hnn := HN8.out
          go_wp2
          go_roundw
          case rel => exact ⟨i + 1, va, vn, vc, l, fr, sps, its ++ [⟨ck, co, cb⟩], sa, sn, sc, a8, n8, c8, B, rfl, by go_num, by omega, by omega, by omega, ⟨HM9.out, HTI.out, HL.out⟩⟩
          case measure => simp [intOf]; omega
        · go_simp
          refine (st_cloned ck co ba bl bc cb wd HRd.out (by omega)).mono ?_
          rintro e w6 ⟨a6, c6, rfl, ho6, hb6⟩
          have HO6 : Hid (Own w6 wd.heap.size a6 bl c6 cb) := ho6
          have HB6 : Hid (Below wd.heap.size wd w6) := hb6
          have hH6 : Hid (w6.cell? ⟨pv, 3, none⟩ = some (.int .i64 ck) ∧ w6.cell? ⟨pv, 4, none⟩ = some (.int .u32 co) ∧ w6.cell? ⟨pv, 5, none⟩ = some (.slice ba bl bc)) := ⟨(HKd.out.stay HB6.out).cell 3 rfl, (HKd.out.stay HB6.out).cell 4 rfl, (HKd.out.stay HB6.out).cell 5 rfl⟩
          clear ho6 hb6
          refine hK.out _ _ hH6.out (fun _ => ?_)
          clear hK K
          try simp only [Act.put, List.getElem_toArray, List.getElem_cons_succ, List.getElem_cons_zero, List.setIfInBounds_toArray, List.set_cons_zero, List.set_cons_succ]
          refine wpAnyH_ready (rs := [1, 5]) (by kernel_rfl) (by simp) ?_
          refine AllReadyH.cons rfl (fun K hK => ?_) (AllReadyH.cons rfl (fun K hK => ?_) AllReadyH.nil)
          · have cl : w6.cell? ⟨tb, 7, none⟩ = some (.slice ia im ic) := (HMd.out.below HB6.out).tbk.cell 7 rfl
            go_simp
            clear cl
            refine hK.out _ _ hH6.out (fun _ => ?_)
            clear hK K
            try simp only [Act.put, List.getElem_toArray, List.getElem_cons_succ, List.getElem_cons_zero, List.setIfInBounds_toArray, List.set_cons_zero, List.set_cons_succ]
            refine wpAnyH_ready (rs := [5]) (by kernel_rfl) (by simp) ?_
            refine AllReadyH.cons rfl (fun K hK => ?_) AllReadyH.nil
            go_simp
            obtain ⟨W7, HW7⟩ : ∃ W7, Hid (W7 = w6.alloc (.cells #[.int .i64 ck, .int .u32 co, .slice a6 bl c6] 54)) := ⟨_, rfl⟩
            rw [← HW7.out]
            have HB7 : Hid (Below w6.heap.size w6 W7) := by (show Below _ _ _); rw [HW7.out]; exact below_new _ _
            have HN7 : Hid (Bk W7 w6.heap.size #[.int .i64 ck, .int .u32 co, .slice a6 bl c6] 54) := by (show Bk _ _ _ _); rw [HW7.out]; exact Bk.new _ _ _
            have HM7 : Hid (Making Z W1.heap.size tb w W7 (.slice va vn vc) l (⟨⟨1, pub, 0, 0, fr, t, sps, its⟩, sa, sn, sc, ia, im, ic⟩ : Pa) B) := (HMd.out.below HB6.out).below HB7.out
            have HK7 : Hid (Bk W7 pv #[.int .i64 cf, .int .i64 ct, .int .i64 ci, .int .i64 ck, .int .u32 co, .slice ba bl bc] 106) := (HKd.out.stay HB6.out).stay HB7.out
            have hH7 : Hid (W7.cell? ⟨pv, 3, none⟩ = some (.int .i64 ck) ∧ W7.cell? ⟨pv, 4, none⟩ = some (.int .u32 co) ∧ W7.cell? ⟨pv, 5, none⟩ = some (.slice ba bl bc)) := ⟨HK7.out.cell 3 rfl, HK7.out.cell 4 rfl, HK7.out.cell 5 rfl⟩
            refine hK.out _ _ hH7.out (fun _ => ?_)
            clear hK K
            try simp only [Act.put, List.getElem_toArray, List.getElem_cons_succ, List.getElem_cons_zero, List.setIfInBounds_toArray, List.set_cons_zero, List.set_cons_succ]
            obtain ⟨R, hR, hRe⟩ := HM7.out.cur.items
            have HRO : Hid (Ros Z W7 B (.slice ia im ic) R) := hR
            have HRE : Hid (R.map Prod.fst = its) := hRe
            have HBT : Hid (BdT Z W7 (a6, bl, c6) cb) := (BdT.of_own HO6.out (fun k hk => HZ.out k (Nat.le_trans (Nat.le_trans HM.out.bel.size HBd.out.size) hk))).frame HB7.out.size fun k hk _ _ => HB7.out.block k hk
            have HRL : Hid (R.length ≤ 1000000000000) := by (show _ ≤ _); have h1 := congrArg List.length HRE.out; rw [List.length_map] at h1; have h2 := HLM.out.2; omega
            clear hR hRe
            refine wpAnyH_ready (rs := [6]) (by kernel_rfl) (by simp) ?_
            refine AllReadyH.cons rfl (fun K hK => ?_) AllReadyH.nil
            refine step_append_ro (Z := Z) rfl (.tmp 43) (.tmp 47) rfl B (.slice ia im ic) R rfl HRO.out ⟨w6.heap.size, 0, none⟩ 1 (⟨ck, co, cb⟩, a6, bl, c6) rfl (item_told HN7.out) HBT.out HII.out HRL.out HM7.out.hB ?_
            intro v8 w8 hr8 hg8 hb8 hn8
            obtain ⟨a8, c8, hv8, _⟩ := hr8.form
            obtain ⟨n8, hn8e⟩ : ∃ n, n = (R ++ [((⟨ck, co, cb⟩ : It), ((a6, bl, c6) : Bd))]).length := ⟨_, rfl⟩
            rw [← hn8e] at hv8
            subst hv8
            have HN8 : Hid (n8 = im + 1) := by (show _ = _); rw [hn8e, List.length_append]; have h1 := congrArg List.length HRE.out; rw [List.length_map] at h1; have h2 := HLM.out.2; simp; omega
            have HR8 : Hid (Ros Z w8 B (.slice a8 n8 c8) (R ++ [(⟨ck, co, cb⟩, a6, bl, c6)])) := hr8
            have HG8 : Hid (W7.grownBy w8 (Value.slice ia im ic).ownBlock) := hg8
            have HB8 : Hid (Below B W7 w8) := hb8
            have HK8 : Hid (Bk w8 pv #[.int .i64 cf, .int .i64 ct, .int .i64 ci, .int .i64 ck, .int .u32 co, .slice ba bl bc] 106) := HK7.out.grown hg8 (fun e => by obtain ⟨c9, m9, k9⟩ := row_type HRO.out.row e.symm; exact absurd (bk_type HK7.out k9) (by decide))
            have HTK : Hid (Bk w8 tb #[.int .i64 1, .int .i64 pub, .int .i64 0, .int .i64 0, .int .i64 fr, .int .i64 t, .slice sa sn sc, .slice ia im ic] 33) := HM7.out.tbk.grown hg8 (fun e => by obtain ⟨c9, m9, k9⟩ := row_type HRO.out.row e.symm; exact absurd (bk_type HM7.out.tbk k9) (by decide))
            have hH8 : Hid (w8.cell? ⟨pv, 3, none⟩ = some (.int .i64 ck) ∧ w8.cell? ⟨pv, 4, none⟩ = some (.int .u32 co) ∧ w8.cell? ⟨pv, 5, none⟩ = some (.slice ba bl bc)) := ⟨HK8.out.cell 3 rfl, HK8.out.cell 4 rfl, HK8.out.cell 5 rfl⟩
            clear hr8 hg8 hb8 hn8 hn8e
            refine hK.out _ _ hH8.out (fun _ => ?_)
            clear hK K
            try simp only [Act.put, List.getElem_toArray, List.getElem_cons_succ, List.getElem_cons_zero, List.setIfInBounds_toArray, List.set_cons_zero, List.set_cons_succ]
            refine take_putH (i := 7) (v := ?_) (some 49) rfl (by kernel_rfl) (by kernel_rfl) (by kernel_rfl) (by kernel_rfl) (fun _ _ _ h => h) (Or.inl ⟨by rfl, ?_⟩) hH8.out ?_
            rotate_left
            · (intro wS hSw; obtain ⟨z0, z1, z2⟩ := hSw; go_simp; try with_reducible rfl)
            try simp only [Act.put, List.setIfInBounds_toArray, List.set_cons_zero, List.set_cons_succ]
            have m7 : w8.cell? ⟨tb, 7, none⟩ = some (.slice ia im ic) := HTK.out.cell 7 rfl
            have mf : w8.frozen? ⟨tb, 7, none⟩ = false := HTK.out.free 7
            obtain ⟨w9, HW9⟩ : ∃ W, Hid (W = w8.setCell ⟨tb, 7, none⟩ (.slice a8 n8 c8)) := ⟨_, rfl⟩
            have HM9 : Hid (Making Z W1.heap.size tb w w9 (.slice va vn vc) l (⟨⟨1, pub, 0, 0, fr, t, sps, (its ++ [⟨ck, co, cb⟩])⟩, sa, sn, sc, a8, n8, c8⟩ : Pa) B) := by
              (show Making _ _ _ _ _ _ _ _ _)
              rw [HW9.out]
              refine HM7.out.put HG8.out (row_own HRO.out.row (by decide) (by decide)) HB8.out 7 _ rfl ⟨⟨row_stays HM7.out.cur.spans.row HRO.out.row (by decide) HG8.out⟩, _, HR8.out, ?_⟩
              rw [List.map_append, HRE.out]
              rfl
            have hkz : Bk w9 pv #[.int .i64 cf, .int .i64 ct, .int .i64 ci, .int .i64 ck, .int .u32 co, .slice ba bl bc] 106 := by
              rw [HW9.out]
              refine HK8.out.other _ _ ?_
              rintro rfl
              exact absurd (bk_type HK8.out HTK.out) (by decide)
            have hH9 : Hid (w9.cell? ⟨pv, 3, none⟩ = some (.int .i64 ck) ∧ w9.cell? ⟨pv, 4, none⟩ = some (.int .u32 co) ∧ w9.cell? ⟨pv, 5, none⟩ = some (.slice ba bl bc)) := ⟨hkz.cell 3 rfl, hkz.cell 4 rfl, hkz.cell 5 rfl⟩
            clear hkz
            refine wpAnyH_ready (rs := [8]) (by kernel_rfl) (by simp) ?_
            refine AllReadyH.cons rfl (fun K hK => ?_) AllReadyH.nil
            go_simp
            rw [← HW9.out]
            refine hK.out _ _ hH9.out (fun _ => ?_)
            clear hK K
            try simp only [Act.put, List.getElem_toArray, List.getElem_cons_succ, List.getElem_cons_zero, List.setIfInBounds_toArray, List.set_cons_zero, List.set_cons_succ]
            refine wpAnyH_done (by kernel_rfl) ?_ _
            clear m7 mf
            have hnn := HN8.out
            go_wp2
            go_roundw
            case rel => exact ⟨i + 1, va, vn, vc, l, fr, sps, its ++ [⟨ck, co, cb⟩], sa, sn, sc, a8, n8, c8, B, rfl, by go_num, by omega, by omega, by omega, ⟨HM9.out, HTI.out, HL.out⟩⟩
            case measure => simp [intOf]; omega
          · go_simp
            obtain ⟨W7, HW7⟩ : ∃ W7, Hid (W7 = w6.alloc (.cells #[.int .i64 ck, .int .u32 co, .slice a6 bl c6] 54)) := ⟨_, rfl⟩
            rw [← HW7.out]
            have HB7 : Hid (Below w6.heap.size w6 W7) := by (show Below _ _ _); rw [HW7.out]; exact below_new _ _
            have HN7 : Hid (Bk W7 w6.heap.size #[.int .i64 ck, .int .u32 co, .slice a6 bl c6] 54) := by (show Bk _ _ _ _); rw [HW7.out]; exact Bk.new _ _ _
            have HM7 : Hid (Making Z W1.heap.size tb w W7 (.slice va vn vc) l (⟨⟨1, pub, 0, 0, fr, t, sps, its⟩, sa, sn, sc, ia, im, ic⟩ : Pa) B) := (HMd.out.below HB6.out).below HB7.out
            have HK7 : Hid (Bk W7 pv #[.int .i64 cf, .int .i64 ct, .int .i64 ci, .int .i64 ck, .int .u32 co, .slice ba bl bc] 106) := (HKd.out.stay HB6.out).stay HB7.out
            have hH7 : Hid (W7.cell? ⟨pv, 3, none⟩ = some (.int .i64 ck) ∧ W7.cell? ⟨pv, 4, none⟩ = some (.int .u32 co) ∧ W7.cell? ⟨pv, 5, none⟩ = some (.slice ba bl bc)) := ⟨HK7.out.cell 3 rfl, HK7.out.cell 4 rfl, HK7.out.cell 5 rfl⟩
            refine hK.out _ _ hH7.out (fun _ => ?_)
            clear hK K
            try simp only [Act.put, List.getElem_toArray, List.getElem_cons_succ, List.getElem_cons_zero, List.setIfInBounds_toArray, List.set_cons_zero, List.set_cons_succ]
            refine wpAnyH_ready (rs := [1]) (by kernel_rfl) (by simp) ?_
            refine AllReadyH.cons rfl (fun K hK => ?_) AllReadyH.nil
            have cl : W7.cell? ⟨tb, 7, none⟩ = some (.slice ia im ic) := HM7.out.tbk.cell 7 rfl
            go_simp
            clear cl
            refine hK.out _ _ hH7.out (fun _ => ?_)
            clear hK K
            try simp only [Act.put, List.getElem_toArray, List.getElem_cons_succ, List.getElem_cons_zero, List.setIfInBounds_toArray, List.set_cons_zero, List.set_cons_succ]
            obtain ⟨R, hR, hRe⟩ := HM7.out.cur.items
            have HRO : Hid (Ros Z W7 B (.slice ia im ic) R) := hR
            have HRE : Hid (R.map Prod.fst = its) := hRe
            have HBT : Hid (BdT Z W7 (a6, bl, c6) cb) := (BdT.of_own HO6.out (fun k hk => HZ.out k (Nat.le_trans (Nat.le_trans HM.out.bel.size HBd.out.size) hk))).frame HB7.out.size fun k hk _ _ => HB7.out.block k hk
            have HRL : Hid (R.length ≤ 1000000000000) := by (show _ ≤ _); have h1 := congrArg List.length HRE.out; rw [List.length_map] at h1; have h2 := HLM.out.2; omega
            clear hR hRe
            refine wpAnyH_ready (rs := [6]) (by kernel_rfl) (by simp) ?_
            refine AllReadyH.cons rfl (fun K hK => ?_) AllReadyH.nil
            refine step_append_ro (Z := Z) rfl (.tmp 43) (.tmp 47) rfl B (.slice ia im ic) R rfl HRO.out ⟨w6.heap.size, 0, none⟩ 1 (⟨ck, co, cb⟩, a6, bl, c6) rfl (item_told HN7.out) HBT.out HII.out HRL.out HM7.out.hB ?_
            intro v8 w8 hr8 hg8 hb8 hn8
            obtain ⟨a8, c8, hv8, _⟩ := hr8.form
            obtain ⟨n8, hn8e⟩ : ∃ n, n = (R ++ [((⟨ck, co, cb⟩ : It), ((a6, bl, c6) : Bd))]).length := ⟨_, rfl⟩
            rw [← hn8e] at hv8
            subst hv8
            have HN8 : Hid (n8 = im + 1) := by (show _ = _); rw [hn8e, List.length_append]; have h1 := congrArg List.length HRE.out; rw [List.length_map] at h1; have h2 := HLM.out.2; simp; omega
            have HR8 : Hid (Ros Z w8 B (.slice a8 n8 c8) (R ++ [(⟨ck, co, cb⟩, a6, bl, c6)])) := hr8
            have HG8 : Hid (W7.grownBy w8 (Value.slice ia im ic).ownBlock) := hg8
            have HB8 : Hid (Below B W7 w8) := hb8
            have HK8 : Hid (Bk w8 pv #[.int .i64 cf, .int .i64 ct, .int .i64 ci, .int .i64 ck, .int .u32 co, .slice ba bl bc] 106) := HK7.out.grown hg8 (fun e => by obtain ⟨c9, m9, k9⟩ := row_type HRO.out.row e.symm; exact absurd (bk_type HK7.out k9) (by decide))
            have HTK : Hid (Bk w8 tb #[.int .i64 1, .int .i64 pub, .int .i64 0, .int .i64 0, .int .i64 fr, .int .i64 t, .slice sa sn sc, .slice ia im ic] 33) := HM7.out.tbk.grown hg8 (fun e => by obtain ⟨c9, m9, k9⟩ := row_type HRO.out.row e.symm; exact absurd (bk_type HM7.out.tbk k9) (by decide))
            have hH8 : Hid (w8.cell? ⟨pv, 3, none⟩ = some (.int .i64 ck) ∧ w8.cell? ⟨pv, 4, none⟩ = some (.int .u32 co) ∧ w8.cell? ⟨pv, 5, none⟩ = some (.slice ba bl bc)) := ⟨HK8.out.cell 3 rfl, HK8.out.cell 4 rfl, HK8.out.cell 5 rfl⟩
            clear hr8 hg8 hb8 hn8 hn8e
            refine hK.out _ _ hH8.out (fun _ => ?_)
            clear hK K
            try simp only [Act.put, List.getElem_toArray, List.getElem_cons_succ, List.getElem_cons_zero, List.setIfInBounds_toArray, List.set_cons_zero, List.set_cons_succ]
            refine take_putH (i := 7) (v := ?_) (some 49) rfl (by kernel_rfl) (by kernel_rfl) (by kernel_rfl) (by kernel_rfl) (fun _ _ _ h => h) (Or.inl ⟨by rfl, ?_⟩) hH8.out ?_
            rotate_left
            · (intro wS hSw; obtain ⟨z0, z1, z2⟩ := hSw; go_simp; try with_reducible rfl)
            try simp only [Act.put, List.setIfInBounds_toArray, List.set_cons_zero, List.set_cons_succ]
            have m7 : w8.cell? ⟨tb, 7, none⟩ = some (.slice ia im ic) := HTK.out.cell 7 rfl
            have mf : w8.frozen? ⟨tb, 7, none⟩ = false := HTK.out.free 7
            obtain ⟨w9, HW9⟩ : ∃ W, Hid (W = w8.setCell ⟨tb, 7, none⟩ (.slice a8 n8 c8)) := ⟨_, rfl⟩
            have HM9 : Hid (Making Z W1.heap.size tb w w9 (.slice va vn vc) l (⟨⟨1, pub, 0, 0, fr, t, sps, (its ++ [⟨ck, co, cb⟩])⟩, sa, sn, sc, a8, n8, c8⟩ : Pa) B) := by
              (show Making _ _ _ _ _ _ _ _ _)
              rw [HW9.out]
              refine HM7.out.put HG8.out (row_own HRO.out.row (by decide) (by decide)) HB8.out 7 _ rfl ⟨⟨row_stays HM7.out.cur.spans.row HRO.out.row (by decide) HG8.out⟩, _, HR8.out, ?_⟩
              rw [List.map_append, HRE.out]
              rfl
            have hkz : Bk w9 pv #[.int .i64 cf, .int .i64 ct, .int .i64 ci, .int .i64 ck, .int .u32 co, .slice ba bl bc] 106 := by
              rw [HW9.out]
              refine HK8.out.other _ _ ?_
              rintro rfl
              exact absurd (bk_type HK8.out HTK.out) (by decide)
            have hH9 : Hid (w9.cell? ⟨pv, 3, none⟩ = some (.int .i64 ck) ∧ w9.cell? ⟨pv, 4, none⟩ = some (.int .u32 co) ∧ w9.cell? ⟨pv, 5, none⟩ = some (.slice ba bl bc)) := ⟨hkz.cell 3 rfl, hkz.cell 4 rfl, hkz.cell 5 rfl⟩
            clear hkz
            refine wpAnyH_ready (rs := [8]) (by kernel_rfl) (by simp) ?_
            refine AllReadyH.cons rfl (fun K hK => ?_) AllReadyH.nil
            go_simp
            rw [← HW9.out]
            refine hK.out _ _ hH9.out (fun _ => ?_)
            clear hK K
            try simp only [Act.put, List.getElem_toArray, List.getElem_cons_succ, List.getElem_cons_zero, List.setIfInBounds_toArray, List.set_cons_zero, List.set_cons_succ]
            refine wpAnyH_done (by kernel_rfl) ?_ _
            clear m7 mf
            have hnn := HN8.out
            go_wp2
            go_roundw
            case rel => exact ⟨i + 1, va, vn, vc, l, fr, sps, its ++ [⟨ck, co, cb⟩], sa, sn, sc, a8, n8, c8, B, rfl, by go_num, by omega, by omega, by omega, ⟨HM9.out, HTI.out, HL.out⟩⟩
            case measure => simp [intOf]; omega
      · have k1 : (ci == 1) = false := by rw [beq_eq_false_iff_ne]; exact hc
        have hc8 : sn ≠ 32 := hf2 hc
        have HTI : Hid (l.map Pa.p ++ cutP pub t ((P.map Prod.fst).drop (i + 1)) ⟨1, pub, 0, 0, fr, t, sps ++ [⟨cf, ct, ci⟩], its⟩ = TOT) := by have := HT.out; unfold addP at this; rw [if_neg hc] at this; exact this
        have t0 : w5.cell? ⟨tb, 0, none⟩ = some (.int .i64 1) := HM.out.tbk.cell 0 rfl
        have t1 : w5.cell? ⟨tb, 1, none⟩ = some (.int .i64 pub) := HM.out.tbk.cell 1 rfl
        have t2 : w5.cell? ⟨tb, 2, none⟩ = some (.int .i64 0) := HM.out.tbk.cell 2 rfl
        have t3 : w5.cell? ⟨tb, 3, none⟩ = some (.int .i64 0) := HM.out.tbk.cell 3 rfl
        have t4 : w5.cell? ⟨tb, 4, none⟩ = some (.int .i64 fr) := HM.out.tbk.cell 4 rfl
        have t5 : w5.cell? ⟨tb, 5, none⟩ = some (.int .i64 t) := HM.out.tbk.cell 5 rfl
        have t6 : w5.cell? ⟨tb, 6, none⟩ = some (.slice sa sn sc) := HM.out.tbk.cell 6 rfl
        have t7 : w5.cell? ⟨tb, 7, none⟩ = some (.slice ia im ic) := HM.out.tbk.cell 7 rfl
        have HB6 : Hid (Below w5.heap.size w5 (w5.alloc (.cells #[.int .i64 cf, .int .i64 ct, .int .i64 ci] 62))) := below_new _ _
        have HM6 : Hid (Making Z W1.heap.size tb w (w5.alloc (.cells #[.int .i64 cf, .int .i64 ct, .int .i64 ci] 62)) (.slice va vn vc) l (⟨⟨1, pub, 0, 0, fr, t, sps, its⟩, sa, sn, sc, ia, im, ic⟩ : Pa) B) := HM.out.below HB6.out
        have HT6 : Hid (∀ j u, (⟨cf, ct, ci⟩ : Sp).cells.toList[j]? = some u → (w5.alloc (.cells #[.int .i64 cf, .int .i64 ct, .int .i64 ci] 62)).cell? ((⟨w5.heap.size, 0, none⟩ : Addr).add j) = some u) := Sp.told (q := ⟨cf, ct, ci⟩) (Bk.new _ _ _)
        have HSL : Hid (sps.length ≤ 3000000000000) := by (show _ ≤ _); have := HLM.out.1; omega
        clear hf1 hf2 HT hc
        go_wp2_with (at_builtin; refine wpList_append_sp rfl (.tmp 51) (.tmp 54) rfl B (.slice sa sn sc) sps rfl HM6.out.cur.spans ⟨w5.heap.size, 0, none⟩ 1 ⟨cf, ct, ci⟩ rfl HT6.out HSL.out HM6.out.hB ?_)
        intro v8 w8 hs8 hg8
        obtain ⟨a8, c8, hv8, _⟩ := hs8.form
        obtain ⟨n8, hn8e⟩ : ∃ n, n = (sps ++ [(⟨cf, ct, ci⟩ : Sp)]).length := ⟨_, rfl⟩
        rw [← hn8e] at hv8
        subst hv8
        have HNN : Hid (n8 = sn + 1) := by (show _ = _); rw [hn8e, List.length_append, HLM.out.1]; rfl
        have HTK : Hid (Bk w8 tb #[.int .i64 1, .int .i64 pub, .int .i64 0, .int .i64 0, .int .i64 fr, .int .i64 t, .slice sa sn sc, .slice ia im ic] 33) := HM6.out.tbk.grown hg8 (fun e => by obtain ⟨c9, m9, k9⟩ := row_type HM6.out.cur.spans.row e.symm; exact absurd (bk_type HM6.out.tbk k9) (by decide))
        have m6 : w8.cell? ⟨tb, 6, none⟩ = some (.slice sa sn sc) := HTK.out.cell 6 rfl
        have mf : w8.frozen? ⟨tb, 6, none⟩ = false := HTK.out.free 6
        obtain ⟨R, hR, hRe⟩ := HM6.out.cur.items
        have HM9 : Hid (Making Z W1.heap.size tb w (w8.setCell ⟨tb, 6, none⟩ (.slice a8 n8 c8)) (.slice va vn vc) l (⟨⟨1, pub, 0, 0, fr, t, (sps ++ [⟨cf, ct, ci⟩]), its⟩, a8, n8, c8, ia, im, ic⟩ : Pa) B) := HM6.out.put hg8 (row_own HM6.out.cur.spans.row (by decide) (by decide)) ((Below.refl _ _).grown hg8 HM6.out.hB (fun k hk => (HM6.out.cur.spans.row.lt k hk).1)) 6 _ rfl ⟨hs8, R, ⟨row_stays hR.row HM6.out.cur.spans.row (by decide) hg8, fun x hx => (hR.bod x hx).typed hg8.size (fun k cs m hc => hg8.block k (Array.getElem?_eq_some_iff.1 hc).1 (fun e => by
          obtain ⟨c9, m9, k9⟩ := row_type HM6.out.cur.spans.row e.symm
          rw [hc] at k9
          simp only [Option.some.injEq, Obj.cells.injEq] at k9
          exact absurd k9.2.1 (by decide))), hR.each⟩, hRe⟩
        clear hs8 hg8 hR hRe hn8e
        go_wp2
        go_roundw
        case rel => have hnn := HNN.out; exact ⟨i + 1, va, vn, vc, l, fr, sps ++ [⟨cf, ct, ci⟩], its, a8, n8, c8, ia, im, ic, B, rfl, by go_num, by omega, by omega, by omega, ⟨HM9.out, HTI.out, HL.out⟩⟩
        case measure => simp [intOf]; omega
    · have hnl : ¬ (i : Int) < (n : Int) := by omega
      have HM := HU.out.mk_
      have HM : Hid (Making Z W1.heap.size tb w w2 (.slice va vn vc) l (⟨⟨1, pub, 0, 0, fr, t, sps, its⟩, sa, sn, sc, ia, im, ic⟩ : Pa) B) := HM
      have t0 : w2.cell? ⟨tb, 0, none⟩ = some (.int .i64 1) := HM.out.tbk.cell 0 rfl
      have t1 : w2.cell? ⟨tb, 1, none⟩ = some (.int .i64 pub) := HM.out.tbk.cell 1 rfl
      have t2 : w2.cell? ⟨tb, 2, none⟩ = some (.int .i64 0) := HM.out.tbk.cell 2 rfl
      have t3 : w2.cell? ⟨tb, 3, none⟩ = some (.int .i64 0) := HM.out.tbk.cell 3 rfl
      have t4 : w2.cell? ⟨tb, 4, none⟩ = some (.int .i64 fr) := HM.out.tbk.cell 4 rfl
      have t5 : w2.cell? ⟨tb, 5, none⟩ = some (.int .i64 t) := HM.out.tbk.cell 5 rfl
      have t6 : w2.cell? ⟨tb, 6, none⟩ = some (.slice sa sn sc) := HM.out.tbk.cell 6 rfl
      have t7 : w2.cell? ⟨tb, 7, none⟩ = some (.slice ia im ic) := HM.out.tbk.cell 7 rfl
      have HB3 : Hid (Below w2.heap.size w2 (w2.alloc (.cells #[.int .i64 1, .int .i64 pub, .int .i64 0, .int .i64 0, .int .i64 fr, .int .i64 t, .slice sa sn sc, .slice ia im ic] 33))) := below_new _ _
      have HM3 : Hid (Making Z W1.heap.size tb w (w2.alloc (.cells #[.int .i64 1, .int .i64 pub, .int .i64 0, .int .i64 0, .int .i64 fr, .int .i64 t, .slice sa sn sc, .slice ia im ic] 33)) (.slice va vn vc) l (⟨⟨1, pub, 0, 0, fr, t, sps, its⟩, sa, sn, sc, ia, im, ic⟩ : Pa) B) := HM.out.below HB3.out
      have HTD : Hid (∀ j u, (pacel (⟨⟨1, pub, 0, 0, fr, t, sps, its⟩, sa, sn, sc, ia, im, ic⟩ : Pa))[j]? = some u → (w2.alloc (.cells #[.int .i64 1, .int .i64 pub, .int .i64 0, .int .i64 0, .int .i64 fr, .int .i64 t, .slice sa sn sc, .slice ia im ic] 33)).cell? ((⟨w2.heap.size, 0, none⟩ : Addr).add j) = some u) := tell_told (q := (⟨⟨1, pub, 0, 0, fr, t, sps, its⟩, sa, sn, sc, ia, im, ic⟩ : Pa)) (Bk.new _ _ _)
      go_wp2_with (at_builtin; refine wpList_append_tell rfl (.tmp 58) (.tmp 60) rfl W1.heap.size _ l rfl HM3.out.row ⟨w2.heap.size, 0, none⟩ 1 (⟨⟨1, pub, 0, 0, fr, t, sps, its⟩, sa, sn, sc, ia, im, ic⟩ : Pa) rfl HTD.out HLL.out (Nat.le_trans HM3.out.h0 HM3.out.hB) ?_)
      intro v8 w8 hr8 hg8 hb8 _
      obtain ⟨q1, q2, q3, q4⟩ := HM3.out.done hg8 hb8
      have HEA : Hid (∀ x ∈ l ++ [(⟨⟨1, pub, 0, 0, fr, t, sps, its⟩, sa, sn, sc, ia, im, ic⟩ : Pa)], PcR Z w8 W1.heap.size x ∧ PcLt w8.heap.size x) := q2
      have HRW : Hid (PRow w8 W1.heap.size v8 (l ++ [(⟨⟨1, pub, 0, 0, fr, t, sps, its⟩, sa, sn, sc, ia, im, ic⟩ : Pa)])) := hr8
      have HBE : Hid (Below w.heap.size w w8) := q3
      have HTT : Hid ((l ++ [(⟨⟨1, pub, 0, 0, fr, t, sps, its⟩, sa, sn, sc, ia, im, ic⟩ : Pa)]).map Pa.p = TOT) := by
        have h1 := HU.out.tot
        rw [List.drop_of_length_le (by rw [List.length_map, HPN.out]; omega)] at h1
        (show _ = _)
        rw [List.map_append]
        exact h1
      obtain ⟨v8a, v8n, v8c, hv8⟩ : ∃ a n c, v8 = .slice a n c := by
        rcases hr8.row.2 with ⟨hv, _⟩ | ⟨g8, c8, cur, hv, _⟩
        · exact ⟨_, _, _, hv⟩
        · exact ⟨_, _, _, hv⟩
      subst hv8
      clear q1 q2 q3 q4 hr8 hg8 hb8 t0 t1 t2 t3 t4 t5 t6 t7
      go_wp2
      rw [HPO.out]
      refine ⟨⟨v8a, v8n, v8c, _, rfl, ⟨?_, fun x hx => (HEA.out x hx).1.lower HX1.out.size⟩, by rw [HTT.out, HTOT.out]⟩, HBE.out⟩
      refine ⟨HRW.out.row.1, ?_⟩
      rcases HRW.out.row.2 with hn | ⟨g8, c8, cur, hv, hbg, r⟩
      · exact .inl hn
      · exact .inr ⟨g8, c8, cur, hv, Nat.le_trans HX1.out.size hbg, r⟩
end Go.Proofs.YtidihfhgnjkmaaaGreat
/- Stream.Tell. -/
namespace Go.Proofs.YtidihfhgnjkmaaaGreat
set_option maxRecDepth 100000
open Go.RowKit
variable {Z : Nat → Prop}

def mayT (pub f t : Int) : Prop := (0 ≤ pub ∧ pub ≤ 2) ∧ 1 ≤ f ∧ f ≤ t ∧ t ≤ 1099511627776
/-- What Tell tells. -/
def TellTold (Z : Nat → Prop) (L : List Sp) (X : List It) (lk pub f t : Int) (w : World) (e : Ending) (w' : World) : Prop := (∃ va vn vc l P, e = .returned (.tuple #[.slice va vn vc, .int .i64 0]) ∧ Tells Z w' w.heap.size (.slice va vn vc) l ∧ PiecesOf L X lk f t P ∧ l.map Pa.p = tellsOf pub f t P) ∧ Below w.heap.size w w'
set_option maxHeartbeats 4000000 in
theorem st_Tell {w : World} {s m : Nat} {L : List Sp} {X : List It} (h : Imp Z w s m L X) {pub f t lk : Int} (hm : mayT pub f t) :
    Calls Tryz.prog 10 #[.pointer (some ⟨s, 0, none⟩), .int .i64 pub, .int .i64 f, .int .i64 t, .int .u32 lk] w fun e w' => TellTold (fun k => w.heap.size ≤ k) L X lk pub f t w e w' := by
  obtain ⟨l, ⟨a, n, c, Y, hs⟩, hl⟩ := h
  have HPC : Hid (Calls Tryz.prog 32 #[.pointer (some ⟨s, 0, none⟩), .int .i64 f, .int .i64 t, .int .u32 lk] w fun e w' => PiecesTold L X lk f t w e w') := st_pieces hs hl hm.2
  obtain ⟨POST, HPO⟩ : ∃ P : Ending → World → Prop, Hid (P = fun e w' => TellTold (fun k => w.heap.size ≤ k) L X lk pub f t w e w') := ⟨_, rfl⟩
  have hpost : (fun e w' => TellTold (fun k => w.heap.size ≤ k) L X lk pub f t w e w') = fun e w' => POST e w' := HPO.out.symm
  rw [hpost]
  obtain ⟨⟨m1, m2⟩, m3, m4, m5⟩ := hm
  have g1 : ¬ pub < 0 := by omega
  have g2 : ¬ (3 : Int) ≤ pub := by omega
  have g3 : ¬ f < 1 := by omega
  have g4 : ¬ t < f := by omega
  have g5 : ¬ (1099511627776 : Int) < t := by omega
  clear hpost hs hl
  go_enter Tryz.func10, Tryz.ntmps10
  go_wp2_with fail
  refine HPC.out.mono ?_
  rintro e w1 ⟨⟨pa, pn, pc, P, rfl, hp, hpo, hbo⟩, hb⟩
  have HPW : Hid (Pcw w1 w.heap.size (.slice pa pn pc) P) := hp
  have HPI : Hid (PiecesOf L X lk f t (P.map Prod.fst)) := hpo
  have HBO : Hid (BodsOk w1 P) := fun x hx h1 => (let ⟨a1, a2, a3, a4⟩ := hbo x hx h1; ⟨a1, a2, a3.below hb, a4⟩)
  have HB1 : Hid (Below w.heap.size w w1) := hb
  have HPL : Hid (P.length = pn) := by
    obtain ⟨a', c', hv, _⟩ := hp.form
    simp only [Value.slice.injEq] at hv
    exact hv.2.1.symm
  clear hp hpo hbo hb
  by_cases h0 : pn = 0
  · have HN : Hid (P = []) := by
      have h1 := HPL.out
      rw [h0] at h1
      exact List.eq_nil_of_length_eq_zero h1
    subst h0
    go_wp2
    rw [HPO.out]
    exact ⟨⟨none, 0, 0, [], P.map Prod.fst, rfl, ⟨⟨rfl, .inl ⟨rfl, rfl⟩⟩, fun x hx => (by cases hx)⟩, HPI.out, by rw [HN.out]; rfl⟩, HB1.out⟩
  · have h0' : ¬ (pn : Int) = 0 := by omega
    have k0 : ((pn : Int) == 0) = false := by rw [beq_eq_false_iff_ne]; exact h0'
    have HNN : Hid (P ≠ []) := fun e => by
      have h1 := HPL.out
      rw [e] at h1
      exact h0 h1.symm
    have HCU : Hid (Calls Tryz.prog 33 #[.slice pa pn pc, .agg #[.int .i64 1, .int .i64 pub, .int .i64 0, .int .i64 0, .int .i64 f, .int .i64 t, .slice none 0 0, .slice none 0 0]] w1 fun e w' => (∃ va vn vc l, e = .returned (.slice va vn vc) ∧ Tells (fun k => w.heap.size ≤ k) w' w1.heap.size (.slice va vn vc) l ∧ l.map Pa.p = cutP pub t (P.map Prod.fst) ⟨1, pub, 0, 0, f, t, [], []⟩) ∧ Below w1.heap.size w1 w') := st_cut HPW.out HPI.out.right HBO.out (fun k hk => Nat.le_trans HB1.out.size hk)
    clear h0 h0'
    go_wp2_with fail
    refine HCU.out.mono ?_
    rintro e w2 ⟨⟨va, vn, vc, l2, rfl, ht, hm⟩, hb2⟩
    have HT : Hid (Tells (fun k => w.heap.size ≤ k) w2 w1.heap.size (.slice va vn vc) l2) := ht
    have HM : Hid (l2.map Pa.p = cutP pub t (P.map Prod.fst) ⟨1, pub, 0, 0, f, t, [], []⟩) := hm
    have HB2 : Hid (Below w.heap.size w w2) := HB1.out.trans (hb2.mono HB1.out.size)
    clear ht hm hb2
    go_wp2
    rw [HPO.out]
    refine ⟨⟨va, vn, vc, l2, P.map Prod.fst, rfl, HT.out.lower HB1.out.size, HPI.out, ?_⟩, HB2.out⟩
    rw [HM.out]
    cases P with
    | nil => exact absurd rfl HNN.out
    | cons x P => rfl
theorem st_Tell_bad (w : World) (s : Nat) {pub f t lk : Int} (hm : ¬ mayT pub f t) : Calls Tryz.prog 10 #[.pointer (some ⟨s, 0, none⟩), .int .i64 pub, .int .i64 f, .int .i64 t, .int .u32 lk] w fun e w' => e = .returned (.tuple #[.slice none 0 0, .int .i64 2]) ∧ Below w.heap.size w w' := by
  by_cases h1 : pub < 0
  · clear hm
    go_enter Tryz.func10, Tryz.ntmps10
    go_wp2
    go_returns
    exact ⟨rfl, Below.refl _ _⟩
  · by_cases h2 : (3 : Int) ≤ pub
    · clear hm
      go_enter Tryz.func10, Tryz.ntmps10
      go_wp2
      go_returns
      exact ⟨rfl, Below.refl _ _⟩
    · by_cases h3 : f < 1
      · clear hm
        go_enter Tryz.func10, Tryz.ntmps10
        go_wp2
        go_returns
        exact ⟨rfl, Below.refl _ _⟩
      · by_cases h4 : t < f
        · clear hm
          go_enter Tryz.func10, Tryz.ntmps10
          go_wp2
          go_returns
          exact ⟨rfl, Below.refl _ _⟩
        · have h5 : (1099511627776 : Int) < t := by unfold mayT at hm; omega
          clear hm
          go_enter Tryz.func10, Tryz.ntmps10
          go_wp2
          go_returns
          exact ⟨rfl, Below.refl _ _⟩
end Go.Proofs.YtidihfhgnjkmaaaGreat
/- For the reference's Tell: items of a range, what is left of two lists. -/
namespace Go.Proofs.YtidihfhgnjkmaaaGreat
set_option maxRecDepth 100000
open Go.RowKit
variable {Z : Nat → Prop}

def inR (f t : Int) (R : List (It × Bd)) : List (It × Bd) := R.filter fun x => decide (f ≤ x.1.tick ∧ x.1.tick ≤ t)
theorem inR_map (f t : Int) : ∀ R : List (It × Bd), (inR f t R).map Prod.fst = inX f t (R.map Prod.fst)
  | [] => rfl
  | x :: R => by
    have ih := inR_map f t R
    unfold inR inX at ih ⊢
    rw [List.map_cons, List.filter_cons, List.filter_cons]
    by_cases h : decide (f ≤ x.1.tick ∧ x.1.tick ≤ t) = true
    · rw [if_pos h, if_pos h, List.map_cons, ih]
    · rw [if_neg h, if_neg h, ih]
theorem inR_snoc (f t : Int) (R : List (It × Bd)) (x : It × Bd) : inR f t (R ++ [x]) = inR f t R ++ (if f ≤ x.1.tick ∧ x.1.tick ≤ t then [x] else []) := by
  unfold inR
  rw [List.filter_append, List.filter_cons]
  by_cases h : f ≤ x.1.tick ∧ x.1.tick ≤ t
  · rw [if_pos h, if_pos (decide_eq_true h)]; rfl
  · rw [if_neg h, if_neg (by rw [decide_eq_true_eq]; exact h)]; rfl
theorem mrg_span {l : List Sp} {s : Sp} {x : List It} (h : ∀ q y, x = q :: y → s.fr < q.tick) : mrg ((s :: l).length + x.length) (s :: l) x = (s, zIt) :: mrg (l.length + x.length) l x := by
  rw [show (s :: l).length + x.length = (l.length + x.length) + 1 from by rw [List.length_cons]; omega]
  cases x with
  | nil => rfl
  | cons q x => rw [mrg, if_pos (h q x rfl)]
theorem mrg_item {l : List Sp} {q : It} {x : List It} (h : ∀ s r, l = s :: r → ¬ s.fr < q.tick) : mrg (l.length + (q :: x).length) l (q :: x) = (⟨q.tick, q.tick, 1⟩, q) :: mrg (l.length + x.length) l x := by
  rw [show l.length + (q :: x).length = (l.length + x.length) + 1 from by rw [List.length_cons]; omega]
  cases l with
  | nil => rfl
  | cons s l => rw [mrg, if_neg (h s l rfl)]
theorem mrg_len : ∀ (n : Nat) (l : List Sp) (x : List It), l.length + x.length ≤ n → (mrg n l x).length = l.length + x.length
  | 0, [], [], _ => rfl
  | n + 1, [], [], _ => rfl
  | n + 1, s :: l, [], h => by rw [mrg, List.length_cons, mrg_len n l [] (by simp at h ⊢; omega)]; simp
  | n + 1, [], q :: x, h => by rw [mrg, List.length_cons, mrg_len n [] x (by simp at h ⊢; omega)]; simp
  | n + 1, s :: l, q :: x, h => by
    rw [mrg]
    split
    · rw [List.length_cons, mrg_len n l (q :: x) (by simp at h ⊢; omega)]; simp; omega
    · rw [List.length_cons, mrg_len n (s :: l) x (by simp at h ⊢; omega)]; simp; omega
  | 0, s :: l, _, h => by simp at h
  | 0, [], q :: x, h => by simp at h
theorem wp_step_append_sp {w : World} {ops : Array Oper} {o : Oper} {act : Act} {K : Act → World → Prop} {Q : Exit → Act → World → Prop} {E : Prop} (hgd : o.guard = none) (s x : Operand)
    (ho : o.op = .call { callee := .builtin .append, args := #[s, x], argTypes := #[30, 30] })
    (base : Nat) (v : Value) (l : List Sp) (hs : act.eval s = v) (hown : Sps w base v l) (ad : Addr) (c : Nat) (q : Sp) (hx : act.eval x = .slice (some ad) 1 c) (hnews : ∀ j u, q.cells.toList[j]? = some u → w.cell? (ad.add j) = some u)
    (hl : l.length ≤ 3000000000000) (hbase : base ≤ w.heap.size)
    (h : ∀ v' w', Sps w' base v' (l ++ [q]) → w.grownBy w' v.ownBlock → K (act.put o.dst v') w') : if Region.wanted o (yielded ops act.tmps) = true then Oper.wp Tryz.prog o act w K Q else E := by
  rw [if_pos (by simp [Region.wanted, hgd])]
  exact wp_append_sp s x ho base v l hs hown ad c q hx hnews hl hbase h
def lenOf : Value → Nat
  | .slice _ n _ => n
  | _ => 0
/-- A list of spans that is left. -/
structure Lr (w : World) (a : Option Addr) (n c : Nat) (l : List Sp) : Prop where
  rd : SpsRd w a n l
  lc : n ≤ c
  cm : c ≤ maxLen
theorem Lr.below {w w' : World} {a : Option Addr} {n c : Nat} {l : List Sp} (h : Lr w a n c l) (hb : Below w.heap.size w w') : Lr w' a n c l := ⟨h.rd.below hb, h.lc, h.cm⟩
theorem Lr.tail {w : World} {g o n c : Nat} {s : Sp} {l : List Sp} (h : Lr w (some ⟨g, o, none⟩) n c (s :: l)) : Lr w (some ⟨g, o + 3, none⟩) (n - 1) (c - 1) l := ⟨h.rd.tail, by have := h.lc; omega, by have := h.cm; omega⟩
theorem Lr.end_ {w : World} {g o n c : Nat} {s : Sp} {l : List Sp} (h : Lr w (some ⟨g, o, none⟩) n c (s :: l)) (hc : c = 1) : n = 1 ∧ l = [] ∧ ∀ a, Lr w a 0 0 l := by
  have h1 := h.rd.size
  have h2 := h.lc
  rw [List.length_cons] at h1
  have hl : l = [] := List.eq_nil_of_length_eq_zero (by omega)
  refine ⟨by omega, hl, fun a => ⟨⟨by rw [hl]; rfl, .inl hl⟩, Nat.le_refl _, Nat.zero_le _⟩⟩
/-- A list of items that is left. -/
structure Xr (Z : Nat → Prop) (w : World) (a : Option Addr) (n c : Nat) (R : List (It × Bd)) : Prop where
  rd : Rit Z w a n R
  lc : n ≤ c
  cm : c ≤ maxLen
theorem Xr.below {w w' : World} {a : Option Addr} {n c : Nat} {R : List (It × Bd)} (h : Xr Z w a n c R) (hb : Below w.heap.size w w') : Xr Z w' a n c R := ⟨h.rd.below hb, h.lc, h.cm⟩
theorem Xr.tail {w : World} {g o n c : Nat} {x : It × Bd} {R : List (It × Bd)} (h : Xr Z w (some ⟨g, o, none⟩) n c (x :: R)) : Xr Z w (some ⟨g, o + 3, none⟩) (n - 1) (c - 1) R := by
  have h1 := h.rd.size
  have h2 := h.lc
  rw [List.length_cons] at h1
  have := h.rd.part 1 n (by omega) (Nat.le_refl _)
  rw [List.drop_one, List.tail_cons, List.take_of_length_le (by omega)] at this
  exact ⟨this, by omega, by have := h.cm; omega⟩
theorem Xr.end_ {w : World} {g o n c : Nat} {x : It × Bd} {R : List (It × Bd)} (h : Xr Z w (some ⟨g, o, none⟩) n c (x :: R)) (hc : c = 1) : n = 1 ∧ R = [] ∧ ∀ a, Xr Z w a 0 0 R := by
  have h1 := h.rd.size
  have h2 := h.lc
  rw [List.length_cons] at h1
  have hl : R = [] := List.eq_nil_of_length_eq_zero (by omega)
  refine ⟨by omega, hl, fun a => ⟨by rw [hl]; exact Rit.nil_ _ _, Nat.le_refl _, Nat.zero_le _⟩⟩
/-- What is left may be told. -/
structure Left (l : List Sp) (R : List (It × Bd)) : Prop where
  sp : ∀ s ∈ l, (1 ≤ s.fr ∧ s.fr ≤ 1099511627776) ∧ s.is ≠ 1
  it : ∀ x ∈ R, 1 ≤ x.1.tick ∧ x.1.tick ≤ 1099511627776
/-- How far the reference's cutting is. -/
structure RefCut (Z : Nat → Prop) (pub t : Int) (B0 tb : Nat) (w3 wr : World) (v : Value) (lo : List Pa) (q : Pa) (B : Nat) (l : List Sp) (R : List (It × Bd)) (PP : List Pce) (TOT : List Pc) (N : Nat) : Prop where
  mk_ : Making Z B0 tb w3 wr v lo q B
  tot : lo.map Pa.p ++ cutP pub t (mrg (l.length + R.length) l (R.map Prod.fst)) q.p = TOT
  few : lo.length + (l.length + R.length) ≤ N
  some_ : (0 < q.sn ∨ 0 < q.im) ∨ (mrg (l.length + R.length) l (R.map Prod.fst) = PP ∧ lo = [])
  left : Left l R
end Go.Proofs.YtidihfhgnjkmaaaGreat
