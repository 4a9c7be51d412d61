import Derived.Test.YtghajmcohdedlaaGreatPk14
import Derived.Test.YtghajmcohdedlaaGreatPk05
namespace Go.Proofs.YtghajmcohdedlaaGreat
open Go.RowKit
def zSg : Sg := ⟨0, 0, 0, 0⟩
def swapG (l : List Sg) (j : Nat) : List Sg := (l.set (j + 1) (l.getD j zSg)).set j (l.getD (j + 1) zSg)
def insG : Nat → List Sg → List Sg
 | 0, l => l
 | j + 1, l => if (l.getD (j + 1) zSg).num < (l.getD j zSg).num then insG j (swapG l j) else l
def outG : List Nat → List Sg → List Sg
 | [], l => l
 | i :: is, l => outG is (insG i l)
def sortG (l : List Sg) : List Sg := outG (List.range' 1 (l.length - 1)) l
theorem swapG_len (l : List Sg) (j : Nat) : (swapG l j).length = l.length := by unfold swapG; rw [List.length_set, List.length_set]
theorem insG_len : ∀ (j : Nat) (l : List Sg), (insG j l).length = l.length
 | 0, l => rfl
 | j + 1, l => by
  rw [insG]
  split
  ·rw [insG_len j, swapG_len]
  ·rfl
theorem outG_len : ∀ (is : List Nat) (l : List Sg), (outG is l).length = l.length
 | [], l => rfl
 | i :: is, l => by rw [outG, outG_len is, insG_len]
theorem sortG_len (l : List Sg) : (sortG l).length = l.length := outG_len _ _
theorem swapG_mem {l : List Sg} {j : Nat} (hj : j + 1 < l.length) : ∀ x ∈ swapG l j, x ∈ l := by
 intro x hx
 have g1 : l.getD j zSg ∈ l := by rw [List.getD_eq_getElem?_getD, List.getElem?_eq_getElem (by omega : j < l.length)]; exact List.getElem_mem _
 have g2 : l.getD (j + 1) zSg ∈ l := by rw [List.getD_eq_getElem?_getD, List.getElem?_eq_getElem hj]; exact List.getElem_mem _
 rcases List.mem_or_eq_of_mem_set hx with hx | rfl
 ·rcases List.mem_or_eq_of_mem_set hx with hx | rfl
  ·exact hx
  ·exact g1
 ·exact g2
theorem insG_mem : ∀ (j : Nat) (l : List Sg), j < l.length → ∀ x ∈ insG j l, x ∈ l
 | 0, l, _, x, hx => hx
 | j + 1, l, hj, x, hx => by
  rw [insG] at hx
  split at hx
  ·exact swapG_mem hj x (insG_mem j _ (by rw [swapG_len]; omega) x hx)
  ·exact hx
theorem outG_mem : ∀ (is : List Nat) (l : List Sg), (∀ i ∈ is, i < l.length) → ∀ x ∈ outG is l, x ∈ l
 | [], l, _, x, hx => hx
 | i :: is, l, h, x, hx => insG_mem i l (h i (List.mem_cons_self ..)) x (outG_mem is _ (fun k hk => by rw [insG_len]; exact h k (List.mem_cons_of_mem _ hk)) x hx)
theorem sortG_mem (l : List Sg) : ∀ x ∈ sortG l, x ∈ l := outG_mem _ l fun i hi => by
 obtain ⟨h1, h2⟩ := List.mem_range'_1.1 hi
 omega
theorem getD_app {l : List Sg} (r : List Sg) {j : Nat} (h : j < l.length) : (l ++ r).getD j zSg = l.getD j zSg := by
 rw [List.getD_eq_getElem?_getD, List.getD_eq_getElem?_getD, List.getElem?_append_left h]
theorem swapG_app (l r : List Sg) {j : Nat} (h : j + 1 < l.length) : swapG (l ++ r) j = swapG l j ++ r := by
 unfold swapG
 rw [getD_app r h, getD_app r (by omega : j < l.length), List.set_append_left _ _ (by omega), List.set_append_left _ _ (by rw [List.length_set]; omega)]
theorem insG_app : ∀ (j : Nat) (l r : List Sg), j < l.length → insG j (l ++ r) = insG j l ++ r
 | 0, l, r, _ => rfl
 | j + 1, l, r, h => by
  rw [insG, insG, getD_app r h, getD_app r (by omega : j < l.length), swapG_app l r h]
  split
  ·exact insG_app j _ r (by rw [swapG_len]; omega)
  ·rfl
theorem outG_app : ∀ (is : List Nat) (l r : List Sg), (∀ i ∈ is, i < l.length) → outG is (l ++ r) = outG is l ++ r
 | [], l, r, _ => rfl
 | i :: is, l, r, h => by
  rw [outG, outG, insG_app i l r (h i (List.mem_cons_self ..))]
  exact outG_app is _ r fun k hk => by rw [insG_len]; exact h k (List.mem_cons_of_mem _ hk)
theorem outG_snoc : ∀ (is : List Nat) (k : Nat) (l : List Sg), outG (is ++ [k]) l = insG k (outG is l)
 | [], k, l => rfl
 | i :: is, k, l => by rw [List.cons_append, outG, outG, outG_snoc is k]
theorem sortG_snoc (l : List Sg) (s : Sg) : sortG (l ++ [s]) = insG l.length (sortG l ++ [s]) := by
 unfold sortG
 rw [List.length_append]
 cases l with
 | nil => rfl
 | cons x l =>
  have e : List.range' 1 ((x :: l).length + [s].length - 1) = List.range' 1 ((x :: l).length - 1) ++ [(x :: l).length] := by
   have h := List.range'_concat (s := 1) (n := (x :: l).length - 1) (step := 1)
   rw [show (x :: l).length + [s].length - 1 = (x :: l).length - 1 + 1 from by simp, h]
   simp
   omega
  rw [e, outG_snoc, outG_app]
  intro i hi
  obtain ⟨h1, h2⟩ := List.mem_range'_1.1 hi
  omega
theorem flat_set4 : ∀ (L : List Sg) (j : Nat) (s : Sg), j < L.length → ((((L.flatMap sgc).set (j * 4) (.int .i64 (s.at_ : Int))).set (j * 4 + 1) (.int .i64 (s.num : Int))).set (j * 4 + 2) (.int .i64 (s.high : Int))).set (j * 4 + 3) (.int .i64 (s.en : Int)) = (L.set j s).flatMap sgc
 | [], j, s, h => by simp at h
 | x :: L, 0, s, h => by simp [sgc]
 | x :: L, j + 1, s, h => by
  have ih := flat_set4 L j s (by simpa using h)
  rw [List.flatMap_cons, List.set_cons_succ, List.flatMap_cons, ← ih]
  have hl : (sgc x).length = 4 := rfl
  rw [List.set_append_right _ _ (by rw [hl]; omega), List.set_append_right _ _ (by rw [hl]; omega), List.set_append_right _ _ (by rw [hl]; omega), List.set_append_right _ _ (by rw [hl]; omega), hl]
  rw [show (j + 1) * 4 - 4 = j * 4 from by omega, show (j + 1) * 4 + 1 - 4 = j * 4 + 1 from by omega, show (j + 1) * 4 + 2 - 4 = j * 4 + 2 from by omega, show (j + 1) * 4 + 3 - 4 = j * 4 + 3 from by omega]
theorem flat_get4 : ∀ (L : List Sg) (j k : Nat), j < L.length → k < 4 → (L.flatMap sgc)[j * 4 + k]? = (sgc (L.getD j zSg))[k]?
 | [], j, k, h, _ => by simp at h
 | x :: L, 0, k, h, hk => by
  rw [List.flatMap_cons, Nat.zero_mul, Nat.zero_add, List.getElem?_append_left (by show k < 4; exact hk)]
  rfl
 | x :: L, j + 1, k, h, hk => by
  have ih := flat_get4 L j k (by simpa using h) hk
  rw [List.flatMap_cons, List.getElem?_append_right (by show 4 ≤ _; omega), show (j + 1) * 4 + k - (sgc x).length = j * 4 + k from by show _ - 4 = _; omega, ih]
  rfl
def set4 (w : World) (g o : Nat) (s : Sg) : World := (((w.setCell ⟨g, o, none⟩ (.int .i64 (s.at_ : Int))).setCell ⟨g, o + 1, none⟩ (.int .i64 (s.num : Int))).setCell ⟨g, o + 2, none⟩ (.int .i64 (s.high : Int))).setCell ⟨g, o + 3, none⟩ (.int .i64 (s.en : Int))
theorem Sgs.set {w : World} {base kb n c : Nat} {l : List Sg} (h : Sgs w base (.slice (some ⟨kb, 0, none⟩) n c) l) {j : Nat} (hj : j < l.length) (s : Sg) : Sgs (set4 w kb (j * 4) s) base (.slice (some ⟨kb, 0, none⟩) n c) (l.set j s) := by
 have hn : n = l.length := by obtain ⟨a, c', e⟩ := h.val; cases e; rfl
 subst hn
 have h1 := (World.ownsRow.stored h (j * 4) (.int .i64 (s.at_ : Int))).1
 have h2 := (h1.stored (j * 4 + 1) (.int .i64 (s.num : Int))).1
 have h3 := (h2.stored (j * 4 + 2) (.int .i64 (s.high : Int))).1
 have h4 := (h3.stored (j * 4 + 3) (.int .i64 (s.en : Int))).1
 rw [flat_set4 l j s hj] at h4
 unfold Sgs
 rw [List.length_set]
 exact h4
theorem Sgs.cellg {w : World} {base kb n c : Nat} {l : List Sg} (h : Sgs w base (.slice (some ⟨kb, 0, none⟩) n c) l) {j k : Nat} (hj : j < l.length) (hk : k < 4) : w.cell? ⟨kb, j * 4 + k, none⟩ = (sgc (l.getD j zSg))[k]? := by
 have hn : n = l.length := by obtain ⟨a, c', e⟩ := h.val; cases e; rfl
 subst hn
 rw [World.ownsRow.cellAt h (j * 4 + k) (by omega)]
 exact flat_get4 l j k hj hk
theorem Sgs.freeg {w : World} {base kb n c : Nat} {l : List Sg} (h : Sgs w base (.slice (some ⟨kb, 0, none⟩) n c) l) (i : Nat) : w.frozen? ⟨kb, i, none⟩ = false ∧ base ≤ kb ∧ kb < w.heap.size := by
 rcases h.2 with ⟨h1, _⟩ | ⟨k, c', cur, h1, hb, h3, _⟩
 ·cases h1
 ·simp only [Value.slice.injEq, Option.some.injEq, Addr.mk.injEq, and_true] at h1
  rw [h1.1]
  exact ⟨frozen_of_row w k i cur _ h3, hb, heap_lt h3⟩
theorem below_set4 {B : Nat} {w w' : World} (h : Below B w w') {g o : Nat} (hg : B ≤ g) (s : Sg) : Below B w (set4 w' g o s) := (((h.setCell (p := ⟨g, o, none⟩) hg _).setCell (p := ⟨g, o + 1, none⟩) hg _).setCell (p := ⟨g, o + 2, none⟩) hg _).setCell (p := ⟨g, o + 3, none⟩) hg _
def cmpG (x y : Int) : Int := if x < y then -1 else if y < x then 1 else 0
theorem cmp_nan64 (w : World) (x : Int) : Calls Tryz.prog 116 #[.int .i64 x] w fun e w' => e = .returned (.bool false) ∧ w' = w := by
 have q : (x != x) = false := by simp
 go_enter Tryz.func116, Tryz.ntmps116
 go_wp2
 go_ret
 exact ⟨by simp, rfl⟩
set_option maxHeartbeats 2000000 in
theorem cmp_Compare64 (w : World) (x y : Int) : Calls Tryz.prog 105 #[.int .i64 x, .int .i64 y] w fun e w' => e = .returned (.int .i64 (cmpG x y)) ∧ w' = w := by
 obtain ⟨R, HR⟩ : ∃ R, Hid (R = cmpG x y) := ⟨_, rfl⟩
 rw [← HR.out]
 go_enter Tryz.func105, Tryz.ntmps105
 go_wp2_with fail
 refine (cmp_nan64 w x).mono ?_
 rintro e w1 ⟨he, hw1⟩
 subst he
 rw [hw1]
 clear hw1 w1
 go_wp2_with fail
 refine (cmp_nan64 w y).mono ?_
 rintro e w1 ⟨he, hw1⟩
 subst he
 rw [hw1]
 clear hw1 w1
 by_cases h1 : x < y
 ·have HE : Hid (R = -1) := by (show _ = _); rw [HR.out]; unfold cmpG; rw [if_pos h1]
  go_wp2
  go_ret
  exact ⟨by rw [HE.out]; rfl, rfl⟩
 ·by_cases h2 : y < x
  ·have HE : Hid (R = 1) := by (show _ = _); rw [HR.out]; unfold cmpG; rw [if_neg h1, if_pos h2]
   go_wp2
   go_ret
   exact ⟨by rw [HE.out]; rfl, rfl⟩
  ·have HE : Hid (R = 0) := by (show _ = _); rw [HR.out]; unfold cmpG; rw [if_neg h1, if_neg h2]
   go_wp2
   go_ret
   exact ⟨by rw [HE.out]; rfl, rfl⟩
set_option maxHeartbeats 2000000 in
theorem sg_cmp (w : World) (x y : Sg) : Calls Tryz.prog 104 #[.agg #[.int .i64 (x.at_ : Int), .int .i64 (x.num : Int), .int .i64 (x.high : Int), .int .i64 (x.en : Int)], .agg #[.int .i64 (y.at_ : Int), .int .i64 (y.num : Int), .int .i64 (y.high : Int), .int .i64 (y.en : Int)]] w fun e w' => e = .returned (.int .i64 (cmpG (x.num : Int) (y.num : Int))) ∧ Below w.heap.size w w' := by
 obtain ⟨R, HR⟩ : ∃ R, Hid (cmpG (x.num : Int) (y.num : Int) = R) := ⟨_, rfl⟩
 rw [HR.out]
 obtain ⟨W1, HW1⟩ : ∃ W, Hid (W = (w.alloc (.cells #[.int .i64 (x.at_ : Int), .int .i64 (x.num : Int), .int .i64 (x.high : Int), .int .i64 (x.en : Int)] 88)).alloc (.cells #[.int .i64 (y.at_ : Int), .int .i64 (y.num : Int), .int .i64 (y.high : Int), .int .i64 (y.en : Int)] 88)) := ⟨_, rfl⟩
 have HC : Hid (Calls Tryz.prog 105 #[.int .i64 (x.num : Int), .int .i64 (y.num : Int)] W1 fun e w' => e = .returned (.int .i64 R) ∧ w' = W1) := by
  have := cmp_Compare64 W1 (x.num : Int) (y.num : Int)
  rw [HR.out] at this
  exact this
 have hs1 : (w.alloc (.cells #[.int .i64 (x.at_ : Int), .int .i64 (x.num : Int), .int .i64 (x.high : Int), .int .i64 (x.en : Int)] 88)).heap.size = w.heap.size + 1 := by simp
 have HB : Hid (Below w.heap.size w W1) := by (show Below _ _ _); rw [HW1.out]; exact (below_alloc w _).alloc (by omega) _
 have c1 : W1.cell? ⟨w.heap.size, 1, none⟩ = some (.int .i64 (x.num : Int)) := by rw [HW1.out]; exact ((Blk.new w _ _).stay (below_alloc _ _)).cell 1 rfl
 have c2 : W1.cell? ⟨w.heap.size + 1, 1, none⟩ = some (.int .i64 (y.num : Int)) := by rw [HW1.out, ← hs1]; exact (Blk.new _ _ _).cell 1 rfl
 clear hs1
 go_enter Tryz.func104, Tryz.ntmps104
 go_upto_region 1 with fail
 rw [← HW1.out]
 go_wp2_with fail
 refine HC.out.mono ?_
 rintro e w2 ⟨he, hw2⟩
 subst he
 rw [hw2]
 clear hw2 w2
 go_wp2
 go_ret
 exact ⟨rfl, HB.out⟩
end Go.Proofs.YtghajmcohdedlaaGreat
