import Derived.Test.YtghajmcohdedlaaGreatRows
import Derived.WalkKit
import Derived.WalkLawsBesides
import Derived.WalkSpells
import Derived.Laws.BytesArg
import Derived.Deep.AppendLies
import Derived.Lib.SlBytesConst
namespace Go.Proofs.YtghajmcohdedlaaGreat
open Go.RowKit
structure Rd (w : World) (a : Option Addr) (len : Nat) (bs : List Nat) : Prop where
 size : bs.length = len
 byte : ∀ x ∈ bs, x < 256
 cells : len = 0 ∨ ∃ b off, a = some ⟨b, off, none⟩ ∧ b < w.heap.size ∧ ∀ i, i < len → w.cell? ⟨b, off + i, none⟩ = some (.int .u8 ((bs.getD i 0 : Nat) : Int))
theorem Rd.below {w w' : World} {a : Option Addr} {len : Nat} {bs : List Nat} (h : Rd w a len bs) (hb : Below w.heap.size w w') : Rd w' a len bs := by
 refine ⟨h.size, h.byte, ?_⟩
 rcases h.cells with h0 | ⟨b, off, ha, hlt, hc⟩
 ·exact .inl h0
 ·refine .inr ⟨b, off, ha, Nat.lt_of_lt_of_le hlt hb.size, fun i hi => ?_⟩
  rw [hb.cell (p := ⟨b, off + i, none⟩) hlt]
  exact hc i hi
theorem getD_lt {bs : List Nat} (h : ∀ x ∈ bs, x < 256) (i : Nat) : bs.getD i 0 < 256 := by
 rw [List.getD_eq_getElem?_getD]
 by_cases hi : i < bs.length
 ·rw [List.getElem?_eq_getElem hi]; exact h _ (List.getElem_mem hi)
 ·rw [List.getElem?_eq_none (by omega)]; simp
theorem take_succ_getD (bs : List Nat) (k : Nat) (h : k < bs.length) : bs.take (k + 1) = bs.take k ++ [bs.getD k 0] := by
 rw [List.take_succ_eq_append_getElem h, List.getD_eq_getElem?_getD, List.getElem?_eq_getElem h]; rfl
theorem ret_int {k : IntKind} {a b : Int} (h : a = b) : Ending.returned (.int k a) = .returned (.int k b) := by rw [h]
theorem Rd.new (w : World) (C : Array Value) (e : TypeId) (m : Nat × Nat) (bs : List Nat) (hb : ∀ x ∈ bs, x < 256) (hC : ∀ i, i < bs.length → C[i]? = some (.int .u8 ((bs.getD i 0 : Nat) : Int))) :
  Rd (w.alloc (.cells C e m)) (some ⟨w.heap.size, 0, none⟩) bs.length bs := by
 refine ⟨rfl, hb, .inr ⟨w.heap.size, 0, rfl, by simp, fun i hi => ?_⟩⟩
 have hh : (w.alloc (.cells C e m)).heap[w.heap.size]? = some (.cells C e m) := by
  show (w.heap.push _)[w.heap.size]? = _
  simp
 rw [cell_of_row (w.alloc (.cells C e m)) w.heap.size (0 + i) C e m hh, Nat.zero_add]
 exact hC i hi
def vb (bs : List Nat) : List Value := bs.map fun (n : Nat) => .int .u8 (n : Int)
theorem vb_length (bs : List Nat) : (vb bs).length = bs.length := by simp [vb]
theorem vb_append (xs bs : List Nat) : vb (xs ++ bs) = vb xs ++ vb bs := by simp [vb]
theorem vb_one (bs : List Nat) : ∀ u ∈ vb bs, u.oneCell' = true := by
 intro u hu
 obtain ⟨n, _, rfl⟩ := List.mem_map.1 hu
 rfl
theorem vb_get {bs : List Nat} {i : Nat} {u : Value} (h : (vb bs)[i]? = some u) : i < bs.length ∧ u = .int .u8 ((bs.getD i 0 : Nat) : Int) := by
 unfold vb at h
 rw [List.getElem?_map] at h
 by_cases hi : i < bs.length
 ·rw [List.getElem?_eq_getElem hi] at h
  simp only [Option.map_some, Option.some.injEq] at h
  exact ⟨hi, by rw [← h, List.getD_eq_getElem?_getD, List.getElem?_eq_getElem hi]; rfl⟩
 ·rw [List.getElem?_eq_none (by omega)] at h
  cases h
theorem vb_at {bs : List Nat} {i : Nat} (hi : i < bs.length) : (vb bs)[i]? = some (.int .u8 ((bs.getD i 0 : Nat) : Int)) := by
 unfold vb
 rw [List.getElem?_map, List.getElem?_eq_getElem hi, List.getD_eq_getElem?_getD, List.getElem?_eq_getElem hi]
 rfl
structure Own (w : World) (base : Nat) (a : Option Addr) (len cap : Nat) (bs : List Nat) : Prop where
 row : w.ownsRow base 5 1 (.slice a len cap) len (vb bs)
 byte : ∀ x ∈ bs, x < 256
theorem Own.size {w : World} {base : Nat} {a : Option Addr} {len cap : Nat} {bs : List Nat} (h : Own w base a len cap bs) : bs.length = len := by
 have := h.row.1
 rw [vb_length] at this
 omega
theorem Own.rd {w : World} {base : Nat} {a : Option Addr} {len cap : Nat} {bs : List Nat} (h : Own w base a len cap bs) : Rd w a len bs := by
 refine ⟨h.size, h.byte, ?_⟩
 rcases h.row.2 with ⟨_, h0⟩ | ⟨g, c, cur, hv, _, hg, _⟩
 ·exact .inl h0
 ·right
  simp only [Value.slice.injEq] at hv
  obtain ⟨rfl, _, rfl⟩ := hv
  refine ⟨g, 0, rfl, (Array.getElem?_eq_some_iff.1 hg).1, fun i hi => ?_⟩
  have hc := h.row.cells (g := g) rfl i _ (vb_at (by rw [h.size]; exact hi))
  have e : (⟨g, 0, none⟩ : Addr).add i = ⟨g, 0 + i, none⟩ := by unfold Addr.add; split <;> simp_all
  rw [e] at hc
  exact hc
theorem Own.below {w w' : World} {base : Nat} {a : Option Addr} {len cap : Nat} {bs : List Nat} (h : Own w base a len cap bs) (hb : Below w.heap.size w w') : Own w' base a len cap bs := by
 refine ⟨⟨h.row.1, ?_⟩, h.byte⟩
 rcases h.row.2 with hn | ⟨g, c, cur, hv, hbg, hg, r⟩
 ·exact .inl hn
 ·exact .inr ⟨g, c, cur, hv, hbg, by rw [hb.block g (Array.getElem?_eq_some_iff.1 hg).1]; exact hg, r⟩
theorem Own.new (w : World) (base : Nat) (C : Array Value) (bs : List Nat) (hb : ∀ x ∈ bs, x < 256) (hC : C.toList = vb bs) (hB : base ≤ w.heap.size) (hm : bs.length ≤ maxLen) :
  Own (w.alloc (.cells C 5)) base (some ⟨w.heap.size, 0, none⟩) bs.length bs.length bs := by
 have hs : C.size = bs.length := by rw [← Array.length_toList, hC, vb_length]
 refine ⟨⟨by simp [vb_length], .inr ⟨w.heap.size, bs.length, C, rfl, hB, heap_alloc_new w _, Nat.le_refl _, hm, by omega, ?_⟩⟩, hb⟩
 rw [hC, Nat.mul_one, ← vb_length bs, List.take_length]
theorem Own.empty (w : World) : Own (w.alloc (.cells #[] 5)) w.heap.size (some ⟨w.heap.size, 0, none⟩) 0 0 [] :=
 Own.new w w.heap.size #[] [] (by simp) rfl (Nat.le_refl _) (Nat.zero_le _)
theorem below_alloc (w : World) (o : Obj) : Below w.heap.size w (w.alloc o) := (Below.refl _ _).alloc (Nat.le_refl _) _
theorem infoByte : (Tryz.prog.info? 5).map (fun i => (i.zero, i.size, i.bytes)) = some (some (.int .u8 0), 1, 1) := by kernel_rfl
theorem run_append_rd (w : World) (ty : TypeId) (base : Nat) (a : Option Addr) (n cap : Nat) (xs : List Nat) (hown : Own w base a n cap xs) (b : Option Addr) (m c : Nat) (ys : List Nat) (hr : Rd w b m ys) (hmc : b = none → c = 0)
  (hbytes : n + m ≤ 140737488355328) (hbase : base ≤ w.heap.size) :
  ∃ a' cap' w', (Builtin.append_ #[27, 27] ty #[.slice a n cap, .slice b m c]).run Tryz.prog w = .ok (.slice a' (n + m) cap') w' ∧ Own w' base a' (n + m) cap' (xs ++ ys) ∧ w.grownBy w' (Value.ownBlock (.slice a n cap)) ∧ Below base w w' := by
 obtain ⟨i0, hi, hz0, hz1, hz2⟩ := info_parts infoByte
 have hbyte : ∀ x ∈ xs ++ ys, x < 256 := fun x hx => (List.mem_append.1 hx).elim (hown.byte x) (hr.byte x)
 cases b with
 | none =>
  have hm : m = 0 := by
   rcases hr.cells with h0 | ⟨_, _, h, _⟩
   ·exact h0
   ·cases h
  have hc := hmc rfl
  subst hm hc
  have hy : ys = [] := List.eq_nil_of_length_eq_zero hr.size
  subst hy
  have hrun := run_append_owned_none (P := Tryz.prog) (w := w) base 27 ty 5 i0 1 Tryz.underlying27 hi (.slice a n cap) n (vb xs) hown.row
  refine ⟨a, cap, w, hrun, ⟨by simpa using hown.row, hbyte⟩, ⟨rfl, rfl, rfl, Nat.le_refl _, fun _ _ _ => rfl⟩, Below.refl _ _⟩
 | some ad =>
  have hnews : ∀ j u, (vb ys)[j]? = some u → w.cell? (ad.add j) = some u := by
   intro j u hu
   obtain ⟨hj, rfl⟩ := vb_get hu
   rcases hr.cells with h0 | ⟨g, off, h, _, hc⟩
   ·rw [hr.size, h0] at hj; omega
   ·cases h
    have e : (⟨g, off, none⟩ : Addr).add j = ⟨g, off + j, none⟩ := by unfold Addr.add; split <;> simp_all
    rw [e]
    exact hc j (by rw [← hr.size]; exact hj)
  obtain ⟨v', w', hrun, h2, h3, _⟩ := run_append_own (P := Tryz.prog) w base 27 ty 5 i0 (.int .u8 0) 1 1 Tryz.underlying27 hi hz0 hz1 hz2 rfl (by decide) (.slice a n cap) n (vb xs) hown.row ad m c (vb ys) (by rw [vb_length, hr.size]; omega) hnews (vb_one ys) (by unfold maxLen; omega) (by omega) hbase
  have hbel : Below base w w' := (Below.refl _ _).grown h3 hbase (fun k hk => (hown.row.lt k hk).1)
  rcases h2.2 with ⟨rfl, h0⟩ | ⟨g, c', cur, rfl, r⟩
  ·refine ⟨none, 0, w', by rw [h0]; exact hrun, ⟨?_, hbyte⟩, h3, hbel⟩
   rw [vb_append, h0]
   rw [h0] at h2
   exact h2
  ·exact ⟨_, c', w', hrun, ⟨by rw [vb_append]; exact h2, hbyte⟩, h3, hbel⟩
theorem wpList_append_rd {w : World} {ops : Array Oper} {rest : List Oper} {o : Oper} {act : Act} {Q : Exit → Act → World → Prop} (hgd : o.guard = none) (s x : Operand)
  (ho : o.op = .call { callee := .builtin .append, args := #[s, x], argTypes := #[27, 27] })
  (base : Nat) (a : Option Addr) (n cap : Nat) (xs : List Nat) (hs : act.eval s = .slice a n cap) (hown : Own w base a n cap xs) (b : Option Addr) (m c : Nat) (ys : List Nat) (hx : act.eval x = .slice b m c) (hr : Rd w b m ys) (hmc : b = none → c = 0)
  (hbytes : n + m ≤ 140737488355328) (hbase : base ≤ w.heap.size)
  (h : ∀ a' cap' w', Own w' base a' (n + m) cap' (xs ++ ys) → w.grownBy w' (Value.ownBlock (.slice a n cap)) → Below base w w' → wpList Tryz.prog ops Q rest (act.put o.dst (.slice a' (n + m) cap')) w') : wpList Tryz.prog ops Q (o :: rest) act w := by
 refine wpList_plain hgd fun K hK => ?_
 obtain ⟨a', cap', w', hrun, h2, h3, h4⟩ := run_append_rd w o.type base a n cap xs hown b m c ys hr hmc hbytes hbase
 unfold Oper.wp
 simp only [execOp, ho, resolve, invoke, builtin, Sem.run_bind, Sem.run_pure, Result.andThen_ok, List.map_toArray, List.map_cons, List.map_nil, hs, hx, hrun]
 exact hK _ _ (h a' cap' w' h2 h3 h4)
def str (bs : List Nat) : ByteArray := ⟨(bs.map fun n => UInt8.ofNat n).toArray⟩
theorem conv_rd {w : World} {a : Option Addr} {len : Nat} {bs : List Nat} (h : Rd w a len bs) (cap : Nat) : (convert 27 9 (.slice a len cap)).run Tryz.prog w = .ok (.string (str bs)) w := by
 have hs : ∀ xs : List Nat, strOfNums (xs.map fun (n : Nat) => (n : Int)) = str xs := by
  intro xs
  simp only [strOfNums, str, List.map_map]
  congr 2
 rcases h.cells with h0 | ⟨b, off, rfl, _, hc⟩
 ·have hnil : bs = [] := List.eq_nil_of_length_eq_zero (by rw [h.size, h0])
  subst hnil h0
  cases a with
  | none => exact run_convert_bytes_nil w 27 5 Tryz.underlying27 Tryz.underlying5 0 cap 9 Tryz.underlying9
  | some ad =>
   have hl : (loadCells ad 0).run Tryz.prog w = .ok (([] : List Int).map (Value.int .u8)).toArray w := by
    have := run_loadCells_list (P := Tryz.prog) w ad [] (fun j v hj => by simp at hj)
    simpa using this
   rw [run_convert_bytes_string w 27 9 5 _ 0 cap Tryz.underlying27 Tryz.underlying5 Tryz.underlying9, run_bytesToString w ad 0 cap [] hl]
   rfl
 ·have := run_convert_bytes_arg (P := Tryz.prog) w 27 5 Tryz.underlying27 Tryz.underlying5 b off len cap (bs.map fun (n : Nat) => (n : Int)) (by simpa using h.size) (fun i hi => by
   rw [hc i hi]
   have hib : i < bs.length := by rw [h.size]; exact hi
   simp [List.getD_eq_getElem?_getD, List.getElem?_map, List.getElem?_eq_getElem hib]) 9 Tryz.underlying9
  rw [this, hs]
theorem str_inj {xs ys : List Nat} (hx : ∀ x ∈ xs, x < 256) (hy : ∀ y ∈ ys, y < 256) (h : str xs = str ys) : xs = ys := by
 have h1 : (xs.map fun n => UInt8.ofNat n) = ys.map fun n => UInt8.ofNat n := by
  have := congrArg (fun b : ByteArray => b.data.toList) h
  simpa [str] using this
 have h2 := congrArg (List.map fun u : UInt8 => u.toNat) h1
 simp only [List.map_map] at h2
 have e : ∀ l : List Nat, (∀ x ∈ l, x < 256) → l.map ((fun u : UInt8 => u.toNat) ∘ fun n => UInt8.ofNat n) = l := by
  intro l hl
  conv => rhs; rw [← List.map_id l]
  apply List.map_congr_left
  intro x hx
  have := hl x hx
  simp only [Function.comp, id, UInt8.toNat_ofNat']
  exact Nat.mod_eq_of_lt this
 rwa [e xs hx, e ys hy] at h2
end Go.Proofs.YtghajmcohdedlaaGreat

namespace Go.Proofs.YtghajmcohdedlaaGreat
open Go.RowKit
def Blk (w : World) (g : Nat) (cs : Array Value) (t : TypeId) : Prop := w.heap[g]? = some (.cells cs t (0, 0))
theorem Blk.new (w : World) (cs : Array Value) (t : TypeId) : Blk (w.alloc (.cells cs t)) w.heap.size cs t := heap_alloc_new w _
theorem Blk.lt {w : World} {g : Nat} {cs : Array Value} {t : TypeId} (h : Blk w g cs t) : g < w.heap.size := (Array.getElem?_eq_some_iff.1 h).1
theorem Blk.below {w w' : World} {B g : Nat} {cs : Array Value} {t : TypeId} (h : Blk w g cs t) (hb : Below B w w') (hg : g < B) : Blk w' g cs t := by
 unfold Blk
 rw [hb.block g hg]
 exact h
theorem Blk.stay {w w' : World} {g : Nat} {cs : Array Value} {t : TypeId} (h : Blk w g cs t) (hb : Below w.heap.size w w') : Blk w' g cs t := h.below hb h.lt
theorem Blk.cell {w : World} {g : Nat} {cs : Array Value} {t : TypeId} (h : Blk w g cs t) (i : Nat) {v : Value} (hv : cs[i]? = some v) : w.cell? ⟨g, i, none⟩ = some v := by
 rw [cell_of_row w g i cs _ _ h, hv]
theorem Blk.free {w : World} {g : Nat} {cs : Array Value} {t : TypeId} (h : Blk w g cs t) (i : Nat) : w.frozen? ⟨g, i, none⟩ = false := frozen_of_row w g i cs t h
theorem Blk.set {w : World} {g : Nat} {cs : Array Value} {t : TypeId} (h : Blk w g cs t) (i : Nat) (v : Value) : Blk (w.setCell ⟨g, i, none⟩ v) g (cs.setIfInBounds i v) t := heap_setCell_same w g i cs t v h
theorem Blk.other {w : World} {g : Nat} {cs : Array Value} {t : TypeId} (h : Blk w g cs t) (a : Addr) (v : Value) (ha : g ≠ a.block) : Blk (w.setCell a v) g cs t := by
 unfold Blk
 rw [heap_setCell_other w a g v ha]
 exact h
theorem Blk.grown {w w' : World} {g : Nat} {cs : Array Value} {t : TypeId} {row : Option Nat} (h : Blk w g cs t) (hg : w.grownBy w' row) (hn : some g ≠ row) : Blk w' g cs t := by
 unfold Blk
 rw [hg.block g h.lt hn]
 exact h
end Go.Proofs.YtghajmcohdedlaaGreat
