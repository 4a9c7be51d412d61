/- slices: a merge of any two sorted rows; the insertion sort sorts; blocks. Mathematics, and the induction. -/
import Derived.Test.YteiadaonihgbfaaDoorWhS6
namespace Go.Proofs.YteiadaonihgbfaaDoor
open Go.RowKit

theorem wh_mrg (base kb n c g bx : Nat) (s : St) (hn : n ≤ 64) : ∀ (F : Nat) (w : World) (l : List Nat) (a m b : Nat), Row w base kb n c l → Cx w kb g bx s → a < m → m < b → b ≤ n → b - a ≤ F → Srt (dW s) l a m → Srt (dW s) l m b → Agr (dW s) l a m b →
    Calls Tryd.prog 49 #[.slice (some ⟨kb, 0, none⟩) n c, .int .i64 (a : Int), .int .i64 (m : Int), .int .i64 (b : Int), .func (.func 41) #[] #[.pointer (some ⟨bx, 0, none⟩)]] w fun e w' => e = .returned (.tuple #[]) ∧ Hid (Mg w' base kb n c s l a b) ∧ w.grownBy w' (some kb)
  | 0, _, _, a, m, b, _, _, h1, h2, _, h3, _, _, _ => by omega
  | F + 1, w, l, a, m, b, hr, hc, h1, h2, hb, hF, hs, ht, hg => by
    by_cases c1 : m = a + 1
    · exact wh_mrg1 w base kb n c g bx s l a b hr hc (by omega) hb hn (by rw [← c1]; exact ht) (by rw [← c1]; exact hg) m c1
    · by_cases c2 : b = m + 1
      · exact wh_mrg2 w base kb n c g bx s l a b hr hc m (by omega) hb hn hs (by rw [← c2]; exact hg) c2
      · exact wh_mrg3 base kb n c g bx s hn F (wh_mrg base kb n c g bx s hn F) w l a m b hr hc (by omega) (by omega) hb hF hs ht hg

/-- The insertion sort's inner loop puts one where it belongs. -/
theorem insIn_by (s : St) (a : Nat) : ∀ (j : Nat) (l : List Nat), a ≤ j → j < l.length → ∃ p, a ≤ p ∧ p ≤ j ∧ By l (insIn (cfW s) a j l) (rotF p j (j + 1)) ∧ (p = a ∨ ¬ dW s (l.getD j 0) < dW s (l.getD (p - 1) 0)) ∧ (p = j ∨ dW s (l.getD j 0) < dW s (l.getD p 0))
  | 0, l, ha, _ => ⟨0, by omega, by omega, (By.refl l).congr (rot_last 0), .inl (by omega), .inl rfl⟩
  | j + 1, l, ha, hj => by
    by_cases hc : a < j + 1 ∧ cfW s (l.getD (j + 1) 0) (l.getD j 0) < 0
    · have hb := by_swapL l j hj
      obtain ⟨p, h1, h2, h3, h4, h5⟩ := insIn_by s a j (swapL l j) (by omega) (by rw [swap_len]; omega)
      have ej : (swapL l j).getD j 0 = l.getD (j + 1) 0 := by rw [hb.2, swpF, if_pos (by omega)]; congr 1; omega
      have eo : ∀ k, k < j → (swapL l j).getD k 0 = l.getD k 0 := fun k hk => by rw [hb.2, swpF, if_neg (by omega), if_neg (by omega)]
      refine ⟨p, h1, by omega, ?_, ?_, .inr ?_⟩
      · rw [insIn, if_pos hc]
        refine (hb.trans h3).congr (fun k => ?_)
        unfold swpF rotF
        repeat' split
        all_goals omega
      · by_cases hp : p = a
        · exact .inl hp
        · rcases h4 with h4 | h4
          · exact .inl h4
          · rw [ej, eo (p - 1) (by omega)] at h4
            exact .inr h4
      · by_cases hp : p = j
        · subst hp; exact (cf_lt _ _ _).1 hc.2
        · rcases h5 with h5 | h5
          · exact absurd h5 hp
          · rw [ej, eo p (by omega)] at h5
            exact h5
    · refine ⟨j + 1, ha, Nat.le_refl _, ?_, ?_, .inl rfl⟩
      · rw [insIn, if_neg hc]
        exact (By.refl l).congr (rot_last (j + 1))
      · by_cases h : a < j + 1
        · exact .inr (fun h2 => hc ⟨h, (cf_lt _ _ _).2 h2⟩)
        · exact .inl (by omega)
def Ris (l : List Nat) (a b : Nat) : Prop := ∀ i j, a ≤ i → i < j → j < b → l.getD i 0 < l.getD j 0
theorem insOut_ok (s : St) (a b : Nat) (l0 : List Nat) (hb : b ≤ l0.length) (hris : Ris l0 a b) : ∀ (cnt i : Nat) (l : List Nat), i + cnt = b → a ≤ i → Re l0 l a i → Srt (dW s) l a i → Re l0 (insOut (cfW s) a (List.range' i cnt) l) a b ∧ Srt (dW s) (insOut (cfW s) a (List.range' i cnt) l) a b
  | 0, i, l, h, _, hr, hs => by
    obtain rfl : i = b := by omega
    exact ⟨hr, hs⟩
  | cnt + 1, i, l, h, ha, hr, hs => by
    rw [List.range'_succ, insOut]
    obtain ⟨p, h1, h2, h3, h4, h5⟩ := insIn_by s a i l ha (by rw [hr.len]; omega)
    refine insOut_ok s a b l0 hb hris cnt (i + 1) _ (by omega) (by omega) ((hr.mono (Nat.le_refl _) (Nat.le_succ i)).trans ((Re.of_rot h3 (by omega) (by omega)).mono h1 (Nat.le_refl _))) (ins_back hs (fun q k q1 q2 k1 k2 _ => ?_) h1 h2 h4 h5 h3)
    obtain rfl : k = i := by omega
    obtain ⟨q', r1, r2, e⟩ := hr.inn q1 q2
    rw [e, hr.out (k := k) (.inr (Nat.le_refl _))]
    exact hris _ _ r1 r2 (by omega)
theorem insS_ok (s : St) (a b : Nat) (l : List Nat) (hb : b ≤ l.length) (hab : a ≤ b) (hris : Ris l a b) : Re l (insS (cfW s) a b l) a b ∧ Srt (dW s) (insS (cfW s) a b l) a b := by
  by_cases h : a = b
  · subst h
    rw [insS, show a - (a + 1) = 0 from by omega]
    exact ⟨Re.refl _ _ _, fun i j i1 i2 j1 => by omega⟩
  · exact insOut_ok s a b l hb hris (b - (a + 1)) (a + 1) l (by omega) (by omega) (Re.refl _ _ _) (fun i j i1 i2 j1 => by omega)

/-- Blocks that are sorted, and of which each has lesser numbers than those behind it. -/
def Bs (d : Nat → Nat) (l : List Nat) (n : Nat) (E : Nat → Nat → Prop) : Prop := ∀ i j, i < j → j < n → (E i j → ltD d (l.getD i 0) (l.getD j 0)) ∧ (¬ E i j → l.getD i 0 < l.getD j 0)
theorem Bs.congr {d : Nat → Nat} {l : List Nat} {n : Nat} {E E' : Nat → Nat → Prop} (h : Bs d l n E) (he : ∀ i j, i < j → j < n → (E i j ↔ E' i j)) : Bs d l n E' := fun i j hi hj => ⟨fun e => (h i j hi hj).1 ((he i j hi hj).2 e), fun e => (h i j hi hj).2 (fun e2 => e ((he i j hi hj).1 e2))⟩
theorem Bs.step {d : Nat → Nat} {l l' : List Nat} {n a b : Nat} {E E' : Nat → Nat → Prop} (h : Bs d l n E) (hr : Re l l' a b) (hs : Srt d l' a b)
    (h1 : ∀ i j, i < j → j < n → E' i j → (a ≤ i ∧ j < b) ∨ (E i j ∧ (i < a ∨ b ≤ i) ∧ (j < a ∨ b ≤ j)))
    (h2 : ∀ i j, i < j → j < n → ¬ E' i j → ∀ i' j', (i' = i ∧ (i < a ∨ b ≤ i) ∨ a ≤ i ∧ i < b ∧ a ≤ i' ∧ i' < b) → (j' = j ∧ (j < a ∨ b ≤ j) ∨ a ≤ j ∧ j < b ∧ a ≤ j' ∧ j' < b) → i' < j' ∧ j' < n ∧ ¬ E i' j') : Bs d l' n E' := by
  intro i j hij hjn
  refine ⟨fun e => ?_, fun e => ?_⟩
  · rcases h1 i j hij hjn e with ⟨k1, k2⟩ | ⟨k1, k2, k3⟩
    · exact hs i j k1 hij k2
    · rw [hr.out k2, hr.out k3]
      exact (h i j hij hjn).1 k1
  · have hi : ∃ i', (i' = i ∧ (i < a ∨ b ≤ i) ∨ a ≤ i ∧ i < b ∧ a ≤ i' ∧ i' < b) ∧ l'.getD i 0 = l.getD i' 0 := by
      by_cases c : a ≤ i ∧ i < b
      · obtain ⟨i', k1, k2, k3⟩ := hr.inn c.1 c.2
        exact ⟨i', .inr ⟨c.1, c.2, k1, k2⟩, k3⟩
      · exact ⟨i, .inl ⟨rfl, by omega⟩, hr.out (by omega)⟩
    have hj : ∃ j', (j' = j ∧ (j < a ∨ b ≤ j) ∨ a ≤ j ∧ j < b ∧ a ≤ j' ∧ j' < b) ∧ l'.getD j 0 = l.getD j' 0 := by
      by_cases c : a ≤ j ∧ j < b
      · obtain ⟨j', k1, k2, k3⟩ := hr.inn c.1 c.2
        exact ⟨j', .inr ⟨c.1, c.2, k1, k2⟩, k3⟩
      · exact ⟨j, .inl ⟨rfl, by omega⟩, hr.out (by omega)⟩
    obtain ⟨i', k1, k2⟩ := hi
    obtain ⟨j', k3, k4⟩ := hj
    obtain ⟨k5, k6, k7⟩ := h2 i j hij hjn e i' j' k1 k3
    rw [k2, k4]
    exact (h i' j' k5 k6).2 k7
def E1 (A i j : Nat) : Prop := i / 20 = j / 20 ∧ j < A
def E20 (i j : Nat) : Prop := i / 20 = j / 20
def E40 (i j : Nat) : Prop := i / 40 = j / 40
def E80 (i j : Nat) : Prop := i / 80 = j / 80
def F20 (A i j : Nat) : Prop := (j < A ∧ i / 40 = j / 40) ∨ (A ≤ i ∧ i / 20 = j / 20)
def F40 (A i j : Nat) : Prop := (j < A ∧ i / 80 = j / 80) ∨ (A ≤ i ∧ i / 40 = j / 40)
theorem bs_1 {d : Nat → Nat} {l l' : List Nat} {n A : Nat} (h : Bs d l n (E1 A)) (hA : A % 20 = 0) (hb : A + 20 ≤ n) (hr : Re l l' A (A + 20)) (hs : Srt d l' A (A + 20)) : Bs d l' n (E1 (A + 20)) :=
  h.step hr hs (fun i j h1 h2 => by unfold E1; omega) (fun i j h1 h2 h3 i' j' => by unfold E1 at *; omega)
theorem bs_1e {d : Nat → Nat} {l l' : List Nat} {n A : Nat} (h : Bs d l n (E1 A)) (hA : A % 20 = 0) (h0 : A ≤ n) (hb : n < A + 20) (hr : Re l l' A n) (hs : Srt d l' A n) : Bs d l' n E20 :=
  h.step hr hs (fun i j h1 h2 => by unfold E1 E20; omega) (fun i j h1 h2 h3 i' j' => by unfold E1 E20 at *; omega)
theorem bs_20 {d : Nat → Nat} {l l' : List Nat} {n A : Nat} (h : Bs d l n (F20 A)) (hA : A % 40 = 0) (hb : A + 40 ≤ n) (hr : Re l l' A (A + 40)) (hs : Srt d l' A (A + 40)) : Bs d l' n (F20 (A + 40)) :=
  h.step hr hs (fun i j h1 h2 => by unfold F20; omega) (fun i j h1 h2 h3 i' j' => by unfold F20 at *; omega)
theorem bs_20e {d : Nat → Nat} {l l' : List Nat} {n A : Nat} (h : Bs d l n (F20 A)) (hA : A % 40 = 0) (h0 : A ≤ n) (hb : n < A + 40) (hr : Re l l' A n) (hs : Srt d l' A n) : Bs d l' n E40 :=
  h.step hr hs (fun i j h1 h2 => by unfold F20 E40; omega) (fun i j h1 h2 h3 i' j' => by unfold F20 E40 at *; omega)
theorem bs_20n {d : Nat → Nat} {l : List Nat} {n A : Nat} (h : Bs d l n (F20 A)) (hA : A % 40 = 0) (hb : n ≤ A + 20) : Bs d l n E40 :=
  h.congr (fun i j h1 h2 => by unfold F20 E40; omega)
theorem bs_20s {d : Nat → Nat} {l : List Nat} {n : Nat} (h : Bs d l n E20) : Bs d l n (F20 0) := h.congr (fun i j h1 h2 => by unfold F20 E20; omega)
theorem bs_40 {d : Nat → Nat} {l l' : List Nat} {n A : Nat} (h : Bs d l n (F40 A)) (hA : A % 80 = 0) (hb : A + 80 ≤ n) (hr : Re l l' A (A + 80)) (hs : Srt d l' A (A + 80)) : Bs d l' n (F40 (A + 80)) :=
  h.step hr hs (fun i j h1 h2 => by unfold F40; omega) (fun i j h1 h2 h3 i' j' => by unfold F40 at *; omega)
theorem bs_40e {d : Nat → Nat} {l l' : List Nat} {n A : Nat} (h : Bs d l n (F40 A)) (hA : A % 80 = 0) (h0 : A ≤ n) (hb : n < A + 80) (hr : Re l l' A n) (hs : Srt d l' A n) : Bs d l' n E80 :=
  h.step hr hs (fun i j h1 h2 => by unfold F40 E80; omega) (fun i j h1 h2 h3 i' j' => by unfold F40 E80 at *; omega)
theorem bs_40n {d : Nat → Nat} {l : List Nat} {n A : Nat} (h : Bs d l n (F40 A)) (hA : A % 80 = 0) (hb : n ≤ A + 40) : Bs d l n E80 :=
  h.congr (fun i j h1 h2 => by unfold F40 E80; omega)
theorem bs_40s {d : Nat → Nat} {l : List Nat} {n : Nat} (h : Bs d l n E40) : Bs d l n (F40 0) := h.congr (fun i j h1 h2 => by unfold F40 E40; omega)
theorem agr_20 {d : Nat → Nat} {l : List Nat} {n A b : Nat} (h : Bs d l n (F20 A)) (hA : A % 40 = 0) (h1 : A + 20 < b) (h2 : b ≤ A + 40) (h3 : b ≤ n) : Srt d l A (A + 20) ∧ Srt d l (A + 20) b ∧ Agr d l A (A + 20) b :=
  ⟨fun i j i1 ij j1 => (h i j ij (by omega)).1 (by unfold F20; omega), fun i j i1 ij j1 => (h i j ij (by omega)).1 (by unfold F20; omega), fun i j i1 i2 j1 j2 _ => (h i j (by omega) (by omega)).2 (by unfold F20; omega)⟩
theorem agr_40 {d : Nat → Nat} {l : List Nat} {n A b : Nat} (h : Bs d l n (F40 A)) (hA : A % 80 = 0) (h1 : A + 40 < b) (h2 : b ≤ A + 80) (h3 : b ≤ n) : Srt d l A (A + 40) ∧ Srt d l (A + 40) b ∧ Agr d l A (A + 40) b :=
  ⟨fun i j i1 ij j1 => (h i j ij (by omega)).1 (by unfold F40; omega), fun i j i1 ij j1 => (h i j ij (by omega)).1 (by unfold F40; omega), fun i j i1 i2 j1 j2 _ => (h i j (by omega) (by omega)).2 (by unfold F40; omega)⟩
theorem ris_1 {d : Nat → Nat} {l : List Nat} {n A b : Nat} (h : Bs d l n (E1 A)) (h3 : b ≤ n) : Ris l A b := fun i j i1 ij j1 => (h i j ij (by omega)).2 (by unfold E1; omega)
theorem bs_0 {d : Nat → Nat} {l : List Nat} {n : Nat} (h : Ris l 0 n) : Bs d l n (E1 0) := fun i j ij jn => ⟨fun e => by unfold E1 at e; omega, fun _ => h i j (by omega) ij jn⟩
theorem bs_end {d : Nat → Nat} {l : List Nat} {n : Nat} (E : Nat → Nat → Prop) (h : Bs d l n E) (he : ∀ i j, i < j → j < n → E i j) : Srt d l 0 n := fun i j _ ij jn => (h i j ij jn).1 (he i j ij jn)

theorem srt_pw {d : Nat → Nat} {l : List Nat} (h : Srt d l 0 l.length) : l.Pairwise (ltD d) := by
  rw [List.pairwise_iff_getElem]
  intro i j hi hj hij
  have := h i j (Nat.zero_le _) hij hj
  rwa [List.getD_eq_getElem?_getD, List.getElem?_eq_getElem hi, List.getD_eq_getElem?_getD, List.getElem?_eq_getElem hj] at this
/-- Two sorted rows of the same numbers are one. -/
theorem canonP {d : Nat → Nat} : ∀ (l1 l2 : List Nat), l1.Pairwise (ltD d) → l2.Pairwise (ltD d) → (∀ x, x ∈ l1 ↔ x ∈ l2) → l1 = l2
  | [], [], _, _, _ => rfl
  | [], y :: t, _, _, h => absurd ((h y).2 (by simp)) (by simp)
  | x :: t, [], _, _, h => absurd ((h x).1 (by simp)) (by simp)
  | x :: t, y :: u, h1, h2, h => by
    rw [List.pairwise_cons] at h1 h2
    have irr : ∀ z, ¬ ltD d z z := fun z => by unfold ltD; omega
    have exy : x = y := by
      rcases List.mem_cons.1 ((h x).1 (by simp)) with e | hx
      · exact e
      · rcases List.mem_cons.1 ((h y).2 (by simp)) with e | hy
        · exact e.symm
        · have k1 := h2.1 x hx
          have k2 := h1.1 y hy
          unfold ltD at k1 k2
          omega
    subst exy
    rw [canonP t u h1.2 h2.2 (fun z => ⟨fun hz => ?_, fun hz => ?_⟩)]
    · rcases List.mem_cons.1 ((h z).1 (by simp [hz])) with e | hz2
      · subst e; exact absurd (h1.1 z hz) (irr z)
      · exact hz2
    · rcases List.mem_cons.1 ((h z).2 (by simp [hz])) with e | hz2
      · subst e; exact absurd (h2.1 z hz) (irr z)
      · exact hz2
theorem ids_pw (z : Nat) : (idsS z).Pairwise (· < ·) := by
  rw [idsS, List.pairwise_map]
  exact ((List.pairwise_lt_range (n := 64)).filter _).imp (fun h => by omega)
theorem ids_ris (z : Nat) : Ris (idsS z) 0 (idsS z).length := fun i j _ hij hj => by
  have := List.pairwise_iff_getElem.1 (ids_pw z) i j (by omega) hj hij
  rwa [List.getD_eq_getElem?_getD, List.getElem?_eq_getElem (by omega), List.getD_eq_getElem?_getD, List.getElem?_eq_getElem hj]
theorem mem_ids {z x : Nat} : x ∈ idsS z ↔ 1 ≤ x ∧ x ≤ 64 ∧ z.testBit (x - 1) = true := by
  refine ⟨ids_mem, fun h => ?_⟩
  rw [idsS, List.mem_map]
  exact ⟨x - 1, by rw [List.mem_filter, List.mem_range]; exact ⟨by omega, h.2.2⟩, by omega⟩
end Go.Proofs.YteiadaonihgbfaaDoor
