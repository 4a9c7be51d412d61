/- Maps from ticks to items, as rising lists: plain mathematics. -/
import Derived.Test.YtidihfhgnjkmaaaGreatSpM
import Derived.Maps.OwnSet
import Derived.Lib.SlKeysI
namespace Go.Proofs.YtidihfhgnjkmaaaGreat
open Go.Maps

/-- How an element reads: as itself. -/
def heldV (v : Value) : Option (DataW Value × List MemPlace) := some (.held v, [])
def tkey (t : Int) : Lit := .int .i64 t
def mapD (X : List (Int × Value)) : DataW Value := .map (X.map fun p => (tkey p.1, .held p.2))
def insX (x : Int × Value) : List (Int × Value) → List (Int × Value)
  | [] => [x]
  | y :: r => if x.1 < y.1 then x :: y :: r else y :: insX x r
def delX (X : List (Int × Value)) (t : Int) : List (Int × Value) := X.filter fun p => decide (p.1 ≠ t)
def putX (X : List (Int × Value)) (t : Int) (v : Value) : List (Int × Value) := insX (t, v) (delX X t)
def getX : List (Int × Value) → Int → Option Value
  | [], _ => none
  | y :: r, t => if y.1 = t then some y.2 else getX r t
def RiseX (X : List (Int × Value)) : Prop := X.Pairwise fun p q => p.1 < q.1
theorem sameKey_tkey (a b : Int) : (tkey a).sameKey (tkey b) = decide (a = b) := by
  show decide (IntKind.i64 = IntKind.i64 ∧ a = b) = _
  simp
theorem insert_map (x : Int × Value) : ∀ X : List (Int × Value), DataW.insert (tkey x.1, .held x.2) (X.map fun p => (tkey p.1, (.held p.2 : DataW Value))) = (insX x X).map fun p => (tkey p.1, .held p.2)
  | [] => rfl
  | y :: r => by
    rw [List.map_cons, DataW.insert, insX]
    have e : (tkey x.1).before (tkey y.1) = decide (x.1 < y.1) := rfl
    rw [e]
    by_cases h : x.1 < y.1
    · rw [if_pos h, if_pos (decide_eq_true h)]; rfl
    · rw [if_neg h, if_neg (by simp [h]), insert_map x r]; rfl
theorem filter_map (t : Int) : ∀ X : List (Int × Value), ((X.map fun p => (tkey p.1, (.held p.2 : DataW Value))).filter fun p => !p.1.sameKey (tkey t)) = (delX X t).map fun p => (tkey p.1, .held p.2)
  | [] => rfl
  | y :: r => by
    unfold delX
    rw [List.map_cons, List.filter_cons, List.filter_cons]
    simp only [sameKey_tkey]
    have ih := filter_map t r
    unfold delX at ih
    by_cases h : y.1 = t
    · simp [h, ih]
    · simp [h, ih]
theorem mapD_put (X : List (Int × Value)) (t : Int) (v : Value) : (mapD X).put (tkey t) (.held v) = mapD (putX X t v) := by
  show DataW.map (DataW.insert _ (List.filter _ _)) = _
  rw [filter_map, insert_map (t, v)]
  rfl
theorem mapD_del (X : List (Int × Value)) (t : Int) : (mapD X).del (tkey t) = mapD (delX X t) := by
  show DataW.map (List.filter _ _) = _
  rw [filter_map]
  rfl
theorem mapD_at (z : DataW Value) (t : Int) : ∀ X : List (Int × Value), (mapD X).atKey (tkey t) z = match getX X t with | some v => .held v | none => z
  | [] => rfl
  | y :: r => by
    have ih := mapD_at z t r
    unfold mapD DataW.atKey at ih ⊢
    simp only [List.map_cons, List.find?_cons, sameKey_tkey] at ih ⊢
    rw [getX]
    by_cases h : y.1 = t
    · simp [h]
    · rw [if_neg h, ← ih, decide_eq_false h]
theorem mapD_has (t : Int) : ∀ X : List (Int × Value), has (mapD X) (tkey t) = (getX X t).isSome
  | [] => rfl
  | y :: r => by
    have ih := mapD_has t r
    unfold mapD at ih ⊢
    rw [has_eq] at ih ⊢
    simp only [List.map_cons, List.any_cons, sameKey_tkey] at ih ⊢
    rw [getX]
    by_cases h : y.1 = t
    · simp [h]
    · simp [h, ih]
theorem mapD_size (X : List (Int × Value)) : size (mapD X) = X.length := by unfold mapD; rw [size_eq, List.length_map]
theorem mapD_keys (X : List (Int × Value)) : intKeys (mapD X) = X.map Prod.fst := by
  show (List.map _ (List.map _ X)) = _
  rw [List.map_map]
  rfl
/-- The keys, sorted. -/
theorem mapD_sorted {X : List (Int × Value)} (hX : RiseX X) {ss : List Int} (h : ss.Perm (intKeys (mapD X))) : ss.mergeSort (fun x y => decide (x ≤ y)) = X.map Prod.fst := by
  rw [mapD_keys] at h
  rw [mergeSort_of_perm_i h]
  refine List.mergeSort_of_pairwise ?_
  rw [List.pairwise_map]
  exact List.Pairwise.imp (fun hh => decide_eq_true (Int.le_of_lt hh)) hX
theorem getX_del (X : List (Int × Value)) (t u : Int) : getX (delX X t) u = if u = t then none else getX X u := by
  induction X with
  | nil => by_cases h : u = t <;> simp [delX, getX, h]
  | cons y r ih =>
    unfold delX at ih ⊢
    rw [List.filter_cons]
    by_cases h : y.1 = t
    · rw [if_neg (by simp [h]), ih, getX]
      by_cases h2 : u = t
      · rw [if_pos h2, if_pos h2]
      · rw [if_neg h2, if_neg h2, if_neg (by omega)]
    · rw [if_pos (by simp [h]), getX, getX, ih]
      by_cases h2 : y.1 = u
      · rw [if_pos h2, if_pos h2, if_neg (by omega)]
      · rw [if_neg h2, if_neg h2]
theorem getX_ins {x : Int × Value} : ∀ {X : List (Int × Value)}, getX X x.1 = none → ∀ u, getX (insX x X) u = if u = x.1 then some x.2 else getX X u
  | [], _, u => by
    rw [insX, getX, getX]
    by_cases h : u = x.1
    · rw [if_pos h, if_pos h.symm]
    · rw [if_neg h, if_neg (Ne.symm h)]; rfl
  | y :: r, h, u => by
    rw [getX] at h
    by_cases hy : y.1 = x.1
    · rw [if_pos hy] at h; cases h
    · rw [if_neg hy] at h
      rw [insX]
      by_cases hlt : x.1 < y.1
      · rw [if_pos hlt, getX]
        by_cases h2 : x.1 = u
        · rw [if_pos h2, if_pos h2.symm]
        · rw [if_neg h2, if_neg (Ne.symm h2)]
      · rw [if_neg hlt, getX, getX, getX_ins h u]
        by_cases h2 : y.1 = u
        · rw [if_pos h2, if_pos h2, if_neg (by omega)]
        · rw [if_neg h2, if_neg h2]
theorem getX_put (X : List (Int × Value)) (t : Int) (v : Value) (u : Int) : getX (putX X t v) u = if u = t then some v else getX X u := by
  unfold putX
  rw [getX_ins (x := (t, v)) (by rw [getX_del, if_pos rfl]) u]
  by_cases h : u = t
  · rw [if_pos h, if_pos h]
  · rw [if_neg h, if_neg h, getX_del, if_neg h]
theorem rise_del {X : List (Int × Value)} (h : RiseX X) (t : Int) : RiseX (delX X t) := h.filter _
theorem mem_ins {x p : Int × Value} : ∀ {X : List (Int × Value)}, p ∈ insX x X → p = x ∨ p ∈ X
  | [], h => by rw [insX] at h; exact .inl (List.mem_singleton.1 h)
  | y :: r, h => by
    rw [insX] at h
    by_cases hlt : x.1 < y.1
    · rw [if_pos hlt] at h
      rcases List.mem_cons.1 h with h | h
      · exact .inl h
      · exact .inr h
    · rw [if_neg hlt] at h
      rcases List.mem_cons.1 h with h | h
      · exact .inr (h ▸ List.mem_cons_self ..)
      · rcases mem_ins h with h | h
        · exact .inl h
        · exact .inr (List.mem_cons_of_mem _ h)
theorem rise_ins {x : Int × Value} : ∀ {X : List (Int × Value)}, RiseX X → (∀ p ∈ X, p.1 ≠ x.1) → RiseX (insX x X)
  | [], _, _ => List.pairwise_singleton _ _
  | y :: r, h, hn => by
    obtain ⟨h1, h2⟩ := List.pairwise_cons.1 h
    rw [insX]
    by_cases hlt : x.1 < y.1
    · rw [if_pos hlt]
      refine List.pairwise_cons.2 ⟨fun q hq => ?_, h⟩
      rcases List.mem_cons.1 hq with rfl | hq
      · exact hlt
      · exact Int.lt_trans hlt (h1 q hq)
    · rw [if_neg hlt]
      refine List.pairwise_cons.2 ⟨fun q hq => ?_, rise_ins h2 fun p hp => hn p (List.mem_cons_of_mem _ hp)⟩
      rcases mem_ins hq with rfl | hq
      · have := hn y (List.mem_cons_self ..)
        omega
      · exact h1 q hq
theorem rise_put {X : List (Int × Value)} (h : RiseX X) (t : Int) (v : Value) : RiseX (putX X t v) := by
  refine rise_ins (rise_del h t) fun p hp => ?_
  have := (List.mem_filter.1 hp).2
  simpa using this
theorem len_del (X : List (Int × Value)) (t : Int) : (delX X t).length ≤ X.length := List.length_filter_le _ _
theorem len_ins (x : Int × Value) : ∀ X : List (Int × Value), (insX x X).length = X.length + 1
  | [] => rfl
  | y :: r => by
    rw [insX]
    by_cases hlt : x.1 < y.1
    · rw [if_pos hlt]; rfl
    · rw [if_neg hlt, List.length_cons, len_ins x r]; rfl
theorem len_put (X : List (Int × Value)) (t : Int) (v : Value) : (putX X t v).length ≤ X.length + 1 := by
  unfold putX
  rw [len_ins]
  have := len_del X t
  omega
theorem mem_get {X : List (Int × Value)} (h : RiseX X) {p : Int × Value} (hp : p ∈ X) : getX X p.1 = some p.2 := by
  induction X with
  | nil => cases hp
  | cons y r ih =>
    obtain ⟨h1, h2⟩ := List.pairwise_cons.1 h
    rw [getX]
    rcases List.mem_cons.1 hp with rfl | hp
    · rw [if_pos rfl]
    · rw [if_neg (by have := h1 p hp; omega), ih h2 hp]
theorem get_mem {t : Int} {v : Value} : ∀ {X : List (Int × Value)}, getX X t = some v → (t, v) ∈ X
  | y :: r, h => by
    rw [getX] at h
    by_cases hy : y.1 = t
    · rw [if_pos hy] at h
      cases h
      rw [← hy]
      exact List.mem_cons_self ..
    · rw [if_neg hy] at h
      exact List.mem_cons_of_mem _ (get_mem h)
end Go.Proofs.YtidihfhgnjkmaaaGreat
