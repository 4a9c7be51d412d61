/- The reference's disk in memory: a row of slices that are sure, a row of writes that wait; what a call of it leaves as it was. -/
import Derived.Test.YthpjaidgacenoaaQSec6
namespace Go.Proofs.Ythpjaidgacenoaa
open Go.RowKit

/-- 64 bytes in a block of their own, which is not q. -/
structure Byt (w : World) (q : Nat) (v : Value) (s : List Nat) : Prop where
  sec : Sec s
  row : ∃ k c cur, v = .slice (some ⟨k, 0, none⟩) 64 c ∧ k ≠ q ∧ w.heap[k]? = some (.cells cur 5 (0, 0)) ∧ 64 ≤ c ∧ c ≤ maxLen ∧ cur.size = c ∧ cur.toList.take 64 = vb s
theorem Byt.of_own {w : World} {base q : Nat} {a : Option Addr} {c : Nat} {s : List Nat} (h : Own w base a 64 c s) (hq : q < base) : Byt w q (.slice a 64 c) s := by
  refine ⟨⟨h.size, h.byte⟩, ?_⟩
  rcases h.row.2 with ⟨_, h0⟩ | ⟨g, c', cur, hv, hb, hg, h1, h2, h3, h4⟩
  · cases h0
  · simp only [Value.slice.injEq] at hv
    obtain ⟨rfl, _, rfl⟩ := hv
    exact ⟨g, c, cur, rfl, by omega, hg, h1, h2, by simpa using h3, by simpa using h4⟩
theorem Byt.move {w w' : World} {q : Nat} {v : Value} {s : List Nat} (h : Byt w q v s) (H : ∀ (k : Nat) cur, w.heap[k]? = some (.cells cur 5 (0, 0)) → k ≠ q → w'.heap[k]? = some (.cells cur 5 (0, 0))) : Byt w' q v s := by
  obtain ⟨k, c, cur, h1, h2, h3, r⟩ := h.row
  exact ⟨h.sec, k, c, cur, h1, h2, H k cur h3 h2, r⟩
theorem Byt.fresh {w : World} {q q' : Nat} {v : Value} {s : List Nat} (h : Byt w q v s) (hq : w.heap.size ≤ q') : Byt w q' v s := by
  obtain ⟨k, c, cur, h1, h2, h3, r⟩ := h.row
  exact ⟨h.sec, k, c, cur, h1, by have := heap_lt h3; omega, h3, r⟩
theorem Byt.slice {w : World} {q : Nat} {v : Value} {s : List Nat} (h : Byt w q v s) : ∃ k c, v = .slice (some ⟨k, 0, none⟩) 64 c ∧ 64 ≤ c ∧ c ≤ maxLen ∧ Rd w (some ⟨k, 0, none⟩) 64 s ∧ ∃ cur, w.heap[k]? = some (.cells cur 5 (0, 0)) := by
  obtain ⟨k, c, cur, h1, h2, h3, h4, h5, h6, h7⟩ := h.row
  refine ⟨k, c, h1, h4, h5, ⟨h.sec.len, h.sec.byte, .inr ⟨k, 0, rfl, heap_lt h3, fun i hi => ?_⟩⟩, cur, h3⟩
  rw [cell_of_row w k (0 + i) cur _ _ h3, Nat.zero_add, ← Array.getElem?_toList]
  have e : (cur.toList.take 64)[i]? = cur.toList[i]? := by rw [List.getElem?_take]; simp [hi]
  rw [← e, h7]
  exact vb_at (by rw [h.sec.len]; exact hi)

structure Rk (w : World) (base r q : Nat) (sv wv : Value) (SV WV : List Value) (D : Dk) : Prop where
  blk : Blk w r #[sv, wv, .int .i64 (D.trip : Int), .bool D.down, .int .i64 (D.age : Int)] 74
  srow : w.ownsRow base 30 1 sv D.sure.length SV
  wrow : w.ownsRow base 104 2 wv D.waits.length WV
  br : base ≤ r
  s1 : 1 ≤ D.sure.length
  sz : D.sure.length ≤ 512
  each : ∀ (i : Nat) (s : List Nat), D.sure[i]? = some s → ∃ v, SV[i]? = some v ∧ Byt w q v s
  puts : ∀ (i : Nat) (p : Nat × List Nat), D.waits[i]? = some p → p.1 < D.sure.length ∧ WV[i * 2]? = some (.int .i64 (p.1 : Int)) ∧ ∃ v, WV[i * 2 + 1]? = some v ∧ Byt w q v p.2
  tr : D.trip ≤ 9223372036854775807
  ag : D.age ≤ 1000000000
  wl : D.waits.length ≤ 1000000000
/-- What keeps the reference's disk as it was. -/
def Keep (w w' : World) (q : Nat) : Prop := ∀ (k : Nat) cs t fr, w.heap[k]? = some (.cells cs t fr) → (t = 74 ∨ t = 30 ∨ t = 104 ∨ (t = 5 ∧ k ≠ q)) → w'.heap[k]? = some (.cells cs t fr)
theorem own_type {w w' : World} {base : Nat} {e : TypeId} {size n : Nat} {v : Value} {xs : List Value} (h : w.ownsRow base e size v n xs) (hk : ∀ (k : Nat) cs, w.heap[k]? = some (.cells cs e (0, 0)) → w'.heap[k]? = some (.cells cs e (0, 0))) : w'.ownsRow base e size v n xs := by
  refine ⟨h.1, ?_⟩
  rcases h.2 with h1 | ⟨g, c, cur, h1, h2, h3, r⟩
  · exact .inl h1
  · exact .inr ⟨g, c, cur, h1, h2, hk g cur h3, r⟩
theorem Rk.move {w w' : World} {base r q : Nat} {sv wv : Value} {SV WV : List Value} {D : Dk} (h : Rk w base r q sv wv SV WV D) (H : Keep w w' q) : Rk w' base r q sv wv SV WV D := by
  have hb : ∀ (k : Nat) cur, w.heap[k]? = some (.cells cur 5 (0, 0)) → k ≠ q → w'.heap[k]? = some (.cells cur 5 (0, 0)) := fun k cur h1 h2 => H k cur _ _ h1 (.inr (.inr (.inr ⟨rfl, h2⟩)))
  refine ⟨H r _ _ _ h.blk (.inl rfl), own_type h.srow (fun k cs h1 => H k cs _ _ h1 (.inr (.inl rfl))), own_type h.wrow (fun k cs h1 => H k cs _ _ h1 (.inr (.inr (.inl rfl)))), h.br, h.s1, h.sz, fun i s hs => ?_, fun i p hp => ?_, h.tr, h.ag, h.wl⟩
  · obtain ⟨v, h1, h2⟩ := h.each i s hs
    exact ⟨v, h1, h2.move hb⟩
  · obtain ⟨h0, h1, v, h2, h3⟩ := h.puts i p hp
    exact ⟨h0, h1, v, h2, h3.move hb⟩
theorem Keep.of_below {w w' : World} (q : Nat) (h : Below w.heap.size w w') : Keep w w' q := fun k cs t fr h1 _ => by rw [h.block k (heap_lt h1)]; exact h1
theorem Rk.stay {w w' : World} {base r q : Nat} {sv wv : Value} {SV WV : List Value} {D : Dk} (h : Rk w base r q sv wv SV WV D) (hb : Below w.heap.size w w') : Rk w' base r q sv wv SV WV D := h.move (Keep.of_below q hb)
theorem Rk.fresh {w : World} {base r q q' : Nat} {sv wv : Value} {SV WV : List Value} {D : Dk} (h : Rk w base r q sv wv SV WV D) (hq : w.heap.size ≤ q') : Rk w base r q' sv wv SV WV D :=
  ⟨h.blk, h.srow, h.wrow, h.br, h.s1, h.sz, fun i s hs => (h.each i s hs).imp fun _ hv => ⟨hv.1, hv.2.fresh hq⟩, fun i p hp => ⟨(h.puts i p hp).1, (h.puts i p hp).2.1, (h.puts i p hp).2.2.imp fun _ hv => ⟨hv.1, hv.2.fresh hq⟩⟩, h.tr, h.ag, h.wl⟩
/-- The code's disk leaves the reference's as it was. -/
theorem Keep.of_mv {w w' : World} {base b2 g gs : Nat} {wv : Value} {D : Dk} (hd : Disk w base g gs wv D) (h : Mv w w' b2 g gs) (q : Nat) : Keep w w' q := by
  intro k cs t fr h1 h2
  have hne : t ≠ 78 ∧ t ≠ 80 ∧ t ≠ 82 := by
    rcases h2 with rfl | rfl | rfl | ⟨rfl, _⟩ <;> decide
  refine h.block k cs t fr ?_ ?_ h1 hne.2.2
  · rintro rfl
    have := hd.blk
    unfold Blk at this
    rw [h1] at this
    simp only [Option.some.injEq, Obj.cells.injEq] at this
    exact hne.1 this.2.1
  · rintro rfl
    have := hd.srow
    unfold Blk at this
    rw [h1] at this
    simp only [Option.some.injEq, Obj.cells.injEq] at this
    exact hne.2.1 this.2.1

/-- What a call of the reference's disk leaves as it was. -/
structure Mr (w w' : World) (base : Nat) : Prop where
  low : Below base w w'
  block : ∀ (k : Nat) cs t fr, w.heap[k]? = some (.cells cs t fr) → t ≠ 74 → t ≠ 30 → t ≠ 104 → w'.heap[k]? = some (.cells cs t fr)
theorem Mr.refl (w : World) (base : Nat) : Mr w w base := ⟨Below.refl _ _, fun _ _ _ _ h _ _ _ => h⟩
theorem Mr.trans {w w1 w2 : World} {base : Nat} (h : Mr w w1 base) (h2 : Mr w1 w2 base) : Mr w w2 base :=
  ⟨h.low.trans h2.low, fun k cs t fr h3 h4 h5 h6 => h2.block k cs t fr (h.block k cs t fr h3 h4 h5 h6) h4 h5 h6⟩
theorem Mr.of_below {w w' : World} {base : Nat} (h : Below w.heap.size w w') (hb : base ≤ w.heap.size) : Mr w w' base := ⟨h.mono hb, fun k _ _ _ h5 _ _ _ => by rw [h.block k (heap_lt h5)]; exact h5⟩
theorem Mr.of_cell {w w' : World} {base r : Nat} {cs : Array Value} (hr : Blk w r cs 74) (hb : base ≤ r) (h : w.grownBy w' (some r)) : Mr w w' base := by
  refine ⟨(Below.refl _ _).grown h (Nat.le_trans hb (Nat.le_of_lt hr.lt)) (fun j hj => by simp only [Option.some.injEq] at hj; omega), fun k cs t fr h1 h2 _ _ => ?_⟩
  rw [h.block k (heap_lt h1) (fun e => ?_)]
  · exact h1
  · simp only [Option.some.injEq] at e
    subst e
    unfold Blk at hr
    rw [h1] at hr
    simp only [Option.some.injEq, Obj.cells.injEq] at hr
    exact h2 hr.2.1
theorem Mr.of_own {w w' : World} {base : Nat} {e : TypeId} {v : Value} {size n : Nat} {xs : List Value} (he : e = 30 ∨ e = 104) (hv : w.ownsRow base e size v n xs) (h : w.grownBy w' v.ownBlock) (hs : base ≤ w.heap.size) : Mr w w' base :=
  ⟨(Below.refl _ _).grown h hs (fun j hj => (hv.lt j hj).1), fun k cs t fr h1 _ h3 h4 => by
    rw [h.block k (heap_lt h1) (own_ne' hv h1 (by rcases he with rfl | rfl <;> assumption))]; exact h1⟩
theorem Disk.stayR {w w' : World} {base b2 g gs : Nat} {wv : Value} {D : Dk} (h : Disk w base g gs wv D) (H : Mr w w' b2) : Disk w' base g gs wv D :=
  ⟨H.block _ _ _ _ h.blk (by decide) (by decide) (by decide), H.block _ _ _ _ h.srow (by decide) (by decide) (by decide), own_type h.wrow (fun k cs hk => H.block k cs _ _ hk (by decide) (by decide) (by decide)), h.bg, h.bs, h.sz, h.sec, h.wts, h.tr, h.ag, h.wl⟩
theorem Rk.apart {w : World} {base r q : Nat} {sv wv : Value} {SV WV : List Value} {D : Dk} (h : Rk w base r q sv wv SV WV D) : some r ≠ sv.ownBlock ∧ some r ≠ wv.ownBlock := ⟨own_ne h.srow h.blk (by decide), own_ne h.wrow h.blk (by decide)⟩
/-- The row of what is sure. -/
theorem Rk.form {w : World} {base r q : Nat} {sv wv : Value} {SV WV : List Value} {D : Dk} (h : Rk w base r q sv wv SV WV D) : ∃ rs c, sv = .slice (some ⟨rs, 0, none⟩) D.sure.length c ∧ D.sure.length ≤ c := by
  rcases h.srow.2 with ⟨_, h0⟩ | ⟨g, c, cur, h1, _, _, h4, _⟩
  · have := h.s1; omega
  · exact ⟨g, c, h1, h4⟩
theorem Rk.wform {w : World} {base r q : Nat} {sv wv : Value} {SV WV : List Value} {D : Dk} (h : Rk w base r q sv wv SV WV D) : ∃ a c, wv = .slice a D.waits.length c ∧ (0 < D.waits.length → ∃ gw, a = some ⟨gw, 0, none⟩) := by
  rcases h.wrow.2 with ⟨h1, h0⟩ | ⟨g, c, cur, h1, _⟩
  · exact ⟨none, 0, by rw [h0]; exact h1, fun h2 => by omega⟩
  · exact ⟨_, c, h1, fun _ => ⟨g, rfl⟩⟩
end Go.Proofs.Ythpjaidgacenoaa
