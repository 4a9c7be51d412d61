/- Seals one behind the other are all found, behind bytes that are no mark: plain mathematics. Parts that came in; lists of seals that are the same. -/
import Derived.Test.YtbhljlafijdodabDoorSealScan
import Derived.Test.YtbhljlafijdodabDoorFrame
import Derived.Lib.SmallJoins
import Derived.Deep.Matrix
import Derived.Deep.RegionHeld3
namespace Go.Proofs.YtbhljlafijdodabDoor
open Go.ChangeShapes Go.WideShapes Go.ChangeAt Go.RowKit Go.Joins

namespace SealM
def seals (l : List (Nat × List Nat)) : List Nat := l.flatMap fun p => sealed p.1 p.2
def place : List (Nat × List Nat) → Nat → List (Nat × Nat × List Nat)
  | [], _ => []
  | x :: l, p => (x.1, p, x.2) :: place l (p + x.2.length + 8)
theorem seals_snoc (l : List (Nat × List Nat)) (x : Nat × List Nat) : seals (l ++ [x]) = seals l ++ sealed x.1 x.2 := by simp [seals]
theorem place_snoc : ∀ (l : List (Nat × List Nat)) (p : Nat) (x : Nat × List Nat), place (l ++ [x]) p = place l p ++ [(x.1, p + (seals l).length, x.2)]
  | [], p, x => by simp [place, seals]
  | y :: l, p, x => by
    simp only [List.cons_append, place, place_snoc l, List.cons.injEq, true_and]
    have : (seals (y :: l)).length = y.2.length + 8 + (seals l).length := by simp [seals, sealed_length]
    rw [this]
    congr 4
    omega

theorem scan_items : ∀ (items : List (Nat × List Nat)) (pre tail : List Nat) (f : Nat), (∀ x ∈ items, x.1 < 256 ∧ (∀ y ∈ x.2, y < 256) ∧ x.2.length ≤ 4096) → (tail = [] ∨ tail = [167]) → (pre ++ seals items ++ tail).length ≤ f + pre.length → scan f (pre ++ seals items ++ tail) pre.length = (place items pre.length, tail.length)
  | [], pre, tail, f, _, ht, hf => by
    rcases ht with rfl | rfl
    · rw [scan_end _ _ _ (by simp [seals])]
      rfl
    · obtain ⟨g, rfl⟩ : ∃ g, f = g + 1 := ⟨f - 1, by simp [seals] at hf; omega⟩
      have hd : (pre ++ seals [] ++ [167]).drop pre.length = [167] := by simp [seals]
      rw [scan_bad g _ _ (by simp [seals]) (by rw [hd]; decide), scan_end g _ _ (by simp [seals])]
      rfl
  | x :: items, pre, tail, f, h, ht, hf => by
    have hx := h x (by simp)
    have e : pre ++ seals (x :: items) ++ tail = pre ++ (sealed x.1 x.2 ++ (seals items ++ tail)) := by simp [seals]
    have e2 : pre ++ seals (x :: items) ++ tail = (pre ++ sealed x.1 x.2) ++ seals items ++ tail := by simp [seals]
    have hs := sealed_length x.1 x.2
    obtain ⟨g, rfl⟩ : ∃ g, f = g + 1 := ⟨f - 1, by rw [e] at hf; simp only [List.length_append] at hf; omega⟩
    have hd : (pre ++ seals (x :: items) ++ tail).drop pre.length = sealed x.1 x.2 ++ (seals items ++ tail) := by rw [e, List.drop_left]
    rw [scan_ok g _ _ (by rw [e]; simp only [List.length_append]; omega) (by rw [hd]; exact opn_sealed _ _ _ hx.1 hx.2.1 hx.2.2), hd, blen_sealed, body_sealed, kind_sealed]
    have hp : pre.length + x.2.length + 8 = (pre ++ sealed x.1 x.2).length := by rw [List.length_append, hs]; omega
    have ih := scan_items items (pre ++ sealed x.1 x.2) tail g (fun y hy => h y (by simp [hy])) ht (by rw [← e2, ← hp]; rw [e] at hf ⊢; simp only [List.length_append] at hf ⊢; omega)
    rw [hp, e2, ih]
    simp only [place, hp]

theorem scan_noise (bs : List Nat) (m : Nat) (h : ∀ i, i < m → bs.getD i 0 ≠ 167) (hm : m ≤ bs.length) : ∀ (d j f : Nat), j + d = m → bs.length ≤ f + j → scan f bs j = ((scan (f - d) bs m).1, (scan (f - d) bs m).2 + d)
  | 0, j, f, hj, _ => by
    obtain rfl : j = m := by omega
    simp
  | d + 1, j, f, hj, hf => by
    obtain ⟨g, rfl⟩ : ∃ g, f = g + 1 := ⟨f - 1, by omega⟩
    have hlt : j < bs.length := by omega
    have hne : (bs.drop j).getD 0 0 ≠ 167 := by
      have := h j (by omega)
      simpa only [List.getD_eq_getElem?_getD, List.getElem?_drop, Nat.add_zero] using this
    have hop : opn (bs.drop j) = 4 := by
      refine opn_err (n := 0) ?_ (by omega)
      unfold bend
      rw [if_neg (by rw [List.length_drop]; omega), if_pos hne]
    rw [scan_bad g bs j hlt (by rw [hop]; omega), scan_noise bs m h hm d (j + 1) g (by omega) (by omega), show g + 1 - (d + 1) = g - d from by omega]
    rfl

theorem scan_all (pre : List Nat) (items : List (Nat × List Nat)) (tail : List Nat) (hp : ∀ x ∈ pre, x ≠ 167) (h : ∀ x ∈ items, x.1 < 256 ∧ (∀ y ∈ x.2, y < 256) ∧ x.2.length ≤ 4096) (ht : tail = [] ∨ tail = [167]) :
    scan (pre ++ seals items ++ tail).length (pre ++ seals items ++ tail) 0 = (place items pre.length, pre.length + tail.length) := by
  have hn := scan_noise (pre ++ seals items ++ tail) pre.length (fun i hi => by
    have e : (pre ++ seals items ++ tail).getD i 0 = pre[i] := by
      rw [List.append_assoc, List.getD_eq_getElem?_getD, List.getElem?_append_left hi, List.getElem?_eq_getElem hi]
      rfl
    rw [e]
    exact hp _ (List.getElem_mem hi)) (by simp) pre.length 0 (pre ++ seals items ++ tail).length (by omega) (by omega)
  rw [hn, scan_items items pre tail _ h ht (by simp only [List.length_append]; omega)]
  simp only [Prod.mk.injEq, true_and]
  omega
end SealM

/-- A list of seals that can be read. -/
structure Seen (w : World) (v : Value) (ts : List It) : Prop where
  form : ∃ a c, v = .slice a ts.length c ∧ (0 < ts.length → ∃ g, a = some ⟨g, 0, none⟩ ∧ g < w.heap.size ∧ ∀ i t, ts[i]? = some t → w.cell? ⟨g, i * 3, none⟩ = some (.int .u8 (t.k : Int)) ∧ w.cell? ⟨g, i * 3 + 1, none⟩ = some (.int .i64 (t.p : Int)) ∧ w.cell? ⟨g, i * 3 + 2, none⟩ = some (.slice t.a t.q t.c))
  body : ∀ t ∈ ts, Rd w t.a t.q t.body

theorem cells_at (ts : List It) : ∀ (i j : Nat) (t : It), ts[i]? = some t → j < 3 → (ts.flatMap It.cells)[i * 3 + j]? = t.cells[j]? := by
  induction ts with
  | nil => intro i j t h; simp at h
  | cons u ts ih =>
    intro i j t h hj
    rw [List.flatMap_cons]
    have hl : u.cells.length = 3 := rfl
    cases i with
    | zero =>
      simp only [List.getElem?_cons_zero, Option.some.injEq] at h
      subst h
      rw [Nat.zero_mul, Nat.zero_add, List.getElem?_append_left (by omega)]
    | succ i =>
      rw [List.getElem?_cons_succ] at h
      rw [List.getElem?_append_right (by omega), hl, show (i + 1) * 3 + j - 3 = i * 3 + j from by omega]
      exact ih i j t h hj

theorem row_form {w : World} {base : Nat} {v : Value} {ts : List It} (h : w.ownsRow base 32 3 v ts.length (ts.flatMap It.cells)) : ∃ a c, v = .slice a ts.length c ∧ (0 < ts.length → ∃ g, a = some ⟨g, 0, none⟩ ∧ g < w.heap.size ∧ ∀ i t, ts[i]? = some t → w.cell? ⟨g, i * 3, none⟩ = some (.int .u8 (t.k : Int)) ∧ w.cell? ⟨g, i * 3 + 1, none⟩ = some (.int .i64 (t.p : Int)) ∧ w.cell? ⟨g, i * 3 + 2, none⟩ = some (.slice t.a t.q t.c)) := by
  rcases h.2 with ⟨hv, h0⟩ | ⟨g, c, cur, hv, hb, hg, hlc, hm, hs, ht⟩
  · exact ⟨none, 0, by rw [hv, h0], fun hp => by omega⟩
  · refine ⟨some ⟨g, 0, none⟩, c, hv, fun _ => ⟨g, rfl, (Array.getElem?_eq_some_iff.1 hg).1, fun i t hi => ?_⟩⟩
    have hil : i < ts.length := (List.getElem?_eq_some_iff.1 hi).1
    have hcell : ∀ j, j < 3 → w.cell? ⟨g, i * 3 + j, none⟩ = t.cells[j]? := by
      intro j hj
      rw [cell_of_row w g (i * 3 + j) cur 32 (0, 0) hg, ← cells_at ts i j t hi hj, ← ht, List.getElem?_take_of_lt (by omega), Array.getElem?_toList]
    exact ⟨hcell 0 (by omega), hcell 1 (by omega), hcell 2 (by omega)⟩
theorem Found.seen {w : World} {base : Nat} {v : Value} {ts : List It} (h : Found w base v ts) : Seen w v ts := ⟨row_form h.row, fun t ht => (h.body t ht).rd⟩

/-- A list of seals stays where a row of bytes grows, and where nothing below is turned. -/
theorem row_beside {w w' : World} {base b2 : Nat} {v : Value} {n : Nat} {xs : List Value} {a : Option Addr} {len cap : Nat} {bs : List Nat} (h : w.ownsRow base 32 3 v n xs) (ho : Own w b2 a len cap bs) (hg : w.grownBy w' (Value.ownBlock (.slice a len cap))) : w'.ownsRow base 32 3 v n xs := by
  refine ⟨h.1, ?_⟩
  rcases h.2 with hn | ⟨g, c, cur, hv, hbg, hgb, r⟩
  · exact .inl hn
  · refine .inr ⟨g, c, cur, hv, hbg, ?_, r⟩
    have hlt := (Array.getElem?_eq_some_iff.1 hgb).1
    rw [hg.block g hlt ?_]
    · exact hgb
    · intro he
      rcases ho.row.2 with ⟨hv2, _⟩ | ⟨g2, c2, cur2, hv2, _, hg2, _⟩
      · rw [hv2] at he
        cases he
      · rw [hv2] at he
        have : g = g2 := by simpa [Value.ownBlock] using he
        subst this
        rw [hgb] at hg2
        simp at hg2
theorem row_below {w w' : World} {base : Nat} {v : Value} {n : Nat} {xs : List Value} (h : w.ownsRow base 32 3 v n xs) (hb : Below w.heap.size w w') : w'.ownsRow base 32 3 v n xs := by
  refine ⟨h.1, ?_⟩
  rcases h.2 with hn | ⟨g, c, cur, hv, hbg, hg, r⟩
  · exact .inl hn
  · exact .inr ⟨g, c, cur, hv, hbg, by rw [hb.block g (Array.getElem?_eq_some_iff.1 hg).1]; exact hg, r⟩

set_option maxHeartbeats 1000000 in
theorem ref_Same (k : Nat) (x : Int) (a1 : Option Addr) (l1 c1 : Nat) (a2 : Option Addr) (l2 c2 : Nat) (bs : List Nat) (w : World) (h1 : Rd w a1 l1 bs) (h2 : Rd w a2 l2 bs) :
    Calls Tryd.prog 12 #[.agg #[.int .u8 (k : Int), .int .i64 x, .slice a1 l1 c1], .agg #[.int .u8 (k : Int), .int .i64 x, .slice a2 l2 c2]] w fun e w' => e = .returned (.bool true) ∧ Below w.heap.size w w' := by
  have hb : ∀ o o', Below w.heap.size w ((w.alloc o).alloc o') := fun o o' => ((Below.refl _ _).alloc (Nat.le_refl _) o).alloc (by simp) o'
  have HB : Hid (∀ o o', Below w.heap.size w ((w.alloc o).alloc o')) := hb
  have m1 := fun o o' => conv_rd (h1.below (hb o o')) c1
  have m2 := fun o o' => conv_rd (h2.below (hb o o')) c2
  clear h1 h2 hb
  go_enter Tryd.func12, Tryd.ntmps12
  go_wp2
  go_ret
  exact ⟨by simp, HB.out _ _⟩

set_option maxRecDepth 100000 in
set_option maxHeartbeats 1000000 in
theorem ref_SameAll (v1 v2 : Value) (xs ys : List It) (w : World) (h1 : Seen w v1 xs) (h2 : Seen w v2 ys) (hd : xs.map It.dat = ys.map It.dat) (hl : xs.length ≤ 1000000) :
    Calls Tryd.prog 8 #[v1, v2] w fun e w' => e = .returned (.bool true) ∧ Below w.heap.size w w' := by
  have hlen : ys.length = xs.length := by have := congrArg List.length hd; simpa using this.symm
  obtain ⟨a1, c1, rfl, f1⟩ := h1.form
  obtain ⟨a2, c2, rfl, f2⟩ := h2.form
  rw [hlen] at f2 ⊢
  obtain ⟨n, HN⟩ : ∃ n, Hid (n = xs.length) := ⟨_, rfl⟩
  rw [← HN.out] at f1 f2 hl ⊢
  by_cases hn0 : n = 0
  · subst hn0
    clear f1 f2 h1 h2 hd hlen
    go_enter Tryd.func8, Tryd.ntmps8
    go_wp2
    refine wp_loop_rounds 1 ?_
    rw [rounds_succ]
    go_wp2
    go_ret
    exact ⟨rfl, Below.refl _ _⟩
  · obtain ⟨g1, rfl, hg1, k1⟩ := f1 (by omega)
    obtain ⟨g2, rfl, hg2, k2⟩ := f2 (by omega)
    have HK1 : Hid (∀ i t, xs[i]? = some t → w.cell? ⟨g1, i * 3, none⟩ = some (.int .u8 (t.k : Int)) ∧ w.cell? ⟨g1, i * 3 + 1, none⟩ = some (.int .i64 (t.p : Int)) ∧ w.cell? ⟨g1, i * 3 + 2, none⟩ = some (.slice t.a t.q t.c)) := k1
    have HK2 : Hid (∀ i t, ys[i]? = some t → w.cell? ⟨g2, i * 3, none⟩ = some (.int .u8 (t.k : Int)) ∧ w.cell? ⟨g2, i * 3 + 1, none⟩ = some (.int .i64 (t.p : Int)) ∧ w.cell? ⟨g2, i * 3 + 2, none⟩ = some (.slice t.a t.q t.c)) := k2
    have HF1 : Hid (Seen w _ xs) := h1
    have HF2 : Hid (Seen w _ ys) := h2
    have HD : Hid (xs.map It.dat = ys.map It.dat) := hd
    have HYL : Hid (ys.length = n) := hlen.trans HN.out.symm
    clear f1 f2 h1 h2 hd hlen k1 k2
    go_enter Tryd.func8, Tryd.ntmps8
    go_wp2
    go_loopw [5] (fun t5 wr => ∃ (i : Nat), i ≤ n ∧ t5 = .int .i64 (i : Int) ∧ Hid (Below w.heap.size w wr)) (fun t5 _ => n - (intOf t5).toNat)
    case atStart => exact ⟨0, by omega, rfl, Below.refl _ _⟩
    case round =>
      obtain ⟨i, hi, rfl, HB⟩ := hrel
      by_cases hlt : i < n
      · have hlt' : (i : Int) < (n : Int) := by omega
        obtain ⟨t, ht⟩ : ∃ t, xs[i]? = some t := ⟨_, List.getElem?_eq_getElem (by rw [← HN.out]; exact hlt)⟩
        obtain ⟨u, hu⟩ : ∃ u, ys[i]? = some u := ⟨_, List.getElem?_eq_getElem (by rw [HYL.out]; exact hlt)⟩
        have hdat : t.dat = u.dat := by
          have e1 : (xs.map It.dat)[i]? = some t.dat := by rw [List.getElem?_map, ht]; rfl
          have e2 : (ys.map It.dat)[i]? = some u.dat := by rw [List.getElem?_map, hu]; rfl
          rw [HD.out, e2] at e1
          exact (Option.some.inj e1).symm
        have hk : t.k = u.k := congrArg (·.1) hdat
        have hp : t.p = u.p := congrArg (·.2.1) hdat
        have hb : t.body = u.body := congrArg (·.2.2) hdat
        have HR1 : Hid (Rd wr t.a t.q t.body) := (HF1.out.body t (List.mem_of_getElem? ht)).below HB.out
        have HR2 : Hid (Rd wr u.a u.q t.body) := by rw [hb]; exact (HF2.out.body u (List.mem_of_getElem? hu)).below HB.out
        obtain ⟨ka, kb, kc⟩ := HK1.out i t ht
        obtain ⟨la, lb, lc⟩ := HK2.out i u hu
        rw [← HB.out.cell (p := ⟨g1, i * 3, none⟩) hg1] at ka
        rw [← HB.out.cell (p := ⟨g1, i * 3 + 1, none⟩) hg1] at kb
        rw [← HB.out.cell (p := ⟨g1, i * 3 + 2, none⟩) hg1] at kc
        rw [← HB.out.cell (p := ⟨g2, i * 3, none⟩) hg2, ← hk] at la
        rw [← HB.out.cell (p := ⟨g2, i * 3 + 1, none⟩) hg2, ← hp] at lb
        rw [← HB.out.cell (p := ⟨g2, i * 3 + 2, none⟩) hg2] at lc
        obtain ⟨tk, tp, ta, tq, tc, tb⟩ := t
        obtain ⟨uk, up, ua, uq, uc, ub⟩ := u
        simp only at ka kb kc la lb lc HR1 HR2
        clear hk hp hb hdat ht hu
        have hz1 : g1 < wr.drew.heap.size := Nat.lt_of_lt_of_le hg1 HB.out.size
        have hz2 : g2 < wr.drew.heap.size := Nat.lt_of_lt_of_le hg2 HB.out.size
        go_wp2
        go_region_held3 (fun w' => w'.cell? ⟨g1, i * 3, none⟩ = some (.int .u8 (tk : Int)) ∧ w'.cell? ⟨g1, i * 3 + 1, none⟩ = some (.int .i64 (tp : Int)) ∧ w'.cell? ⟨g1, i * 3 + 2, none⟩ = some (.slice ta tq tc) ∧ w'.cell? ⟨g2, i * 3, none⟩ = some (.int .u8 (tk : Int)) ∧ w'.cell? ⟨g2, i * 3 + 1, none⟩ = some (.int .i64 (tp : Int)) ∧ w'.cell? ⟨g2, i * 3 + 2, none⟩ = some (.slice ua uq uc)) (go_keep)
          (first
            | (go_at_call 12; refine (ref_Same tk (tp : Int) ta tq tc ua uq uc tb _ HR1.out.drew HR2.out.drew).mono ?_; rintro e w3 ⟨rfl, hb3⟩; have q1 := hb3.cell (p := ⟨g1, i * 3, none⟩) hz1; have q2 := hb3.cell (p := ⟨g1, i * 3 + 1, none⟩) hz1; have q3 := hb3.cell (p := ⟨g1, i * 3 + 2, none⟩) hz1; have q4 := hb3.cell (p := ⟨g2, i * 3, none⟩) hz2; have q5 := hb3.cell (p := ⟨g2, i * 3 + 1, none⟩) hz2; have q6 := hb3.cell (p := ⟨g2, i * 3 + 2, none⟩) hz2; have HB3 : Hid (Below w.heap.size w w3) := HB.out.drew.trans (hb3.mono HB.out.size); clear hb3))
        go_wp2
        go_roundw
        case rel => exact ⟨i + 1, by omega, by go_num, HB3⟩
        case measure => simp [intOf]; omega
      · have hn : ¬ (i : Int) < (n : Int) := by omega
        go_wp2
        go_ret
        exact ⟨rfl, HB.out⟩

/-- A part: where it lies, and what it is. -/
structure Pt where
  a : Option Addr
  l : Nat
  c : Nat
  bs : List Nat
/-- A slice of slices of bytes, by its address and length. -/
structure Parts (w : World) (a : Option Addr) (n : Nat) (ps : List Pt) : Prop where
  size : ps.length = n
  cells : n = 0 ∨ ∃ b off, a = some ⟨b, off, none⟩ ∧ b < w.heap.size ∧ ∀ i p, ps[i]? = some p → w.cell? ⟨b, off + i, none⟩ = some (.slice p.a p.l p.c)
  body : ∀ p ∈ ps, Rd w p.a p.l p.bs ∧ (p.a = none → p.c = 0)
theorem cellsSlice : Tryd.prog.cellsOf 22 = 1 := by kernel_rfl
/-- A slice of bytes in a cell that came in. -/
theorem rd_cell {H : Type} {enc : TypeId × Value → H} {W : World} {fuel : Nat} {v : Value} {x : DataW H × List MemPlace}
    (h : DataW.trod enc Tryd.prog W 0 (fun _ => true) true fuel 22 [v] = some x) : ∃ a len cap bs, v = .slice a len cap ∧ Rd W a len bs ∧ len ≤ cap ∧ cap ≤ 9223372036854775807 ∧ len + 1 ≤ Rows.uptoBulk x.1 ∧ (a = none → cap = 0) ∧ Form x.1 len cap := by
  rcases open_ints Tryd.underlying22 Tryd.underlying5 (by kernel_rfl) h with ⟨hcs, hx⟩ | ⟨y, l, c, zs, hcs, hrest⟩
  · have hv : v = .slice none 0 0 := by simpa using hcs
    subst hv
    obtain ⟨bs, hb⟩ := rd_of (W := W) (enc := enc) (a := none) (len := 0) (cap := 0) (d := x.1) (p := x.2) ⟨fuel, h⟩
    exact ⟨none, 0, 0, bs, rfl, hb⟩
  · have hv : v = .slice (some y) l c := by simpa using hcs
    subst hv
    obtain ⟨bs, hb⟩ := rd_of (W := W) (enc := enc) (a := some y) (len := l) (cap := c) (d := x.1) (p := x.2) ⟨fuel, h⟩
    exact ⟨some y, l, c, bs, rfl, hb⟩
/-- Parts that came in. -/
theorem open_parts {H : Type} {enc : TypeId × Value → H} {W : World} {a : Option Addr} {n cap : Nat} {d : DataW H} {p : List MemPlace}
    (h : DataW.Trod enc Tryd.prog W 0 (fun _ => true) true 23 (.slice a n cap) d p) : ∃ ps, Parts W a n ps ∧ n ≤ cap ∧ cap ≤ 9223372036854775807 ∧ ∀ p ∈ ps, p.l ≤ 9223372036854775807 := by
  obtain ⟨fuel, hf⟩ := h
  rcases Go.Deep.open_slice1 Tryd.underlying23 cellsSlice hf with ⟨hcs, hx⟩ | ⟨x, l, c, m, n', V, D, Pl, hcs, hb, hl, hm, hmm, hx, hr⟩
  · simp [Value.cells] at hcs
    obtain ⟨rfl, rfl, rfl⟩ := hcs
    exact ⟨[], ⟨rfl, .inl rfl, fun p hp => by cases hp⟩, Nat.le_refl _, by omega, fun p hp => by cases hp⟩
  · simp [Value.cells] at hcs
    obtain ⟨rfl, rfl, rfl⟩ := hcs
    simp only [if_true] at hmm
    subst hmm
    unfold maxLen at hm
    have each : ∀ r, r < m → ∃ y : Pt, V r = .slice y.a y.l y.c ∧ Rd W y.a y.l y.bs ∧ (y.a = none → y.c = 0) ∧ y.l ≤ 9223372036854775807 := by
      intro r hrc
      obtain ⟨ya, yl, yc, yb, e1, e2, e3, e4, _, e6, _⟩ := rd_cell (hr r hrc).2
      exact ⟨⟨ya, yl, yc, yb⟩, e1, e2, e6, by show yl ≤ _; omega⟩
    haveI : Inhabited Pt := ⟨⟨none, 0, 0, []⟩⟩
    obtain ⟨y, hy⟩ := Go.Deep.choose_lt each
    refine ⟨(List.range n).map y, ⟨by simp, ?_, ?_⟩, hl, by omega, ?_⟩
    · by_cases hn0 : n = 0
      · exact .inl hn0
      · right
        obtain ⟨b, off, spot⟩ := x
        have hc := (hr 0 (by omega)).1
        have hspot : spot = none := by simpa [Addr.add] using World.cell?_spot hc
        subst hspot
        refine ⟨b, off, rfl, World.block_lt_of_cell? W _ hc, fun i q hi => ?_⟩
        have hin : i < n := by
          have := (List.getElem?_eq_some_iff.1 hi).1
          simpa using this
        have hq : q = y i := by
          rw [List.getElem?_map, List.getElem?_range hin] at hi
          simpa using hi.symm
        subst hq
        have e : (⟨b, off, none⟩ : Addr).add i = ⟨b, off + i, none⟩ := by unfold Addr.add; split <;> simp_all
        have h2 := (hr i (by omega)).1
        rw [e] at h2
        rw [h2, (hy i (by omega)).1]
    · intro q hq
      obtain ⟨i, hi, rfl⟩ := List.mem_map.1 hq
      have hin := List.mem_range.1 hi
      exact ⟨(hy i (by omega)).2.1, (hy i (by omega)).2.2.1⟩
    · intro q hq
      obtain ⟨i, hi, rfl⟩ := List.mem_map.1 hq
      have hin := List.mem_range.1 hi
      exact (hy i (by omega)).2.2.2
end Go.Proofs.YtbhljlafijdodabDoor
