/- join by what is known; items one behind the other; when streams are alike. -/
import Derived.Test.YtidihfhgnjkmaaaSt23
namespace Go.Proofs.Ytidihfhgnjkmaaa
set_option maxRecDepth 100000
open Go.RowKit Go.Maps Go.Sort Go.Shelf

theorem getX_filter (P : Int → Bool) : ∀ (X : List (Int × Value)) (t : Int), getX (X.filter fun p => P p.1) t = if P t = true then getX X t else none
  | [], t => by
    by_cases h : P t = true
    · rw [if_pos h]; rfl
    · rw [if_neg h]; rfl
  | y :: r, t => by
    rw [List.filter_cons]
    by_cases hy : P y.1 = true
    · rw [if_pos hy, getX, getX, getX_filter P r t]
      by_cases ht : y.1 = t
      · rw [if_pos ht, if_pos ht, if_pos (ht ▸ hy)]
      · rw [if_neg ht, if_neg ht]
    · rw [if_neg hy, getX_filter P r t, getX]
      by_cases ht : y.1 = t
      · rw [if_pos ht, if_neg (ht ▸ hy), if_neg (ht ▸ hy)]
      · rw [if_neg ht]
/-- What is kept where no more is known than that there is an item. -/
def onlyI (K : Int → Int) (I : Int → Option It) (t : Int) : Option It := if K t = 1 then I t else none
theorem str_join {w : World} {s m : Nat} {l : List Sp} {I : Int → Option It} (h : Str w s m l I) {T : List Int} (hT : ∀ t, (I t).isSome = true → t ∈ T) (hTl : T.length ≤ 1000) {b : Option Addr} {nb cb : Nat} {l2 : List Sp} (h2 : MapOk w b nb cb l2) (hd : ∀ t, atS l2 t ≠ 1) :
    Calls Try.prog 16 #[.pointer (some ⟨s, 0, none⟩), .slice b nb cb] w fun e w' => e = .returned (.tuple #[]) ∧ (∃ l', Str w' s m l' (onlyI (fun t => max (atS l t) (atS l2 t)) I) ∧ ∀ t, atS l' t = max (atS l t) (atS l2 t)) ∧ Two s m w w' := by
  obtain ⟨a, n, c, X, hs⟩ := h
  have hX := hs.few hT
  refine (st_join hs.stm (by omega) h2).mono ?_
  rintro e w' ⟨rfl, a', n', c', l', k1, k2, k3⟩
  refine ⟨rfl, ⟨l', ⟨a', n', c', _, k1, fun t => ?_, fun t => ?_⟩, k2⟩, k3⟩
  · unfold onlyI
    by_cases h1 : max (atS l t) (atS l2 t) = 1
    · rw [if_pos h1]
      refine ((hs.its t).two hs.stm k3).of_get ?_
      rw [getX_filter (fun u => decide (atS l' u = 1)), if_pos (by rw [k2 t, h1]; rfl)]
    · rw [if_neg h1]
      show getX _ t = none
      rw [getX_filter (fun u => decide (atS l' u = 1)), if_neg (by rw [k2 t]; simpa using h1)]
  · unfold onlyI
    rw [k2 t]
    by_cases h1 : max (atS l t) (atS l2 t) = 1
    · rw [if_pos h1]
      have := hd t
      have hr := (atS_range hs.stm.ok.right t).1
      have hr2 := (atS_range h2.right t).1
      have : atS l t = 1 := by omega
      exact ⟨fun _ => (hs.data t).1 this, fun _ => h1⟩
    · rw [if_neg h1]
      exact ⟨fun h => absurd h h1, fun h => by cases h⟩
/-- Items, one behind the other. -/
def steps (K : Int → Int) (I : Int → Option It) : List It → (Int → Int) × (Int → Option It)
  | [] => (K, I)
  | q :: r => steps (keepK K q) (keepI K I q) r
theorem steps_snoc : ∀ (L : List It) (K : Int → Int) (I : Int → Option It) (q : It), steps K I (L ++ [q]) = (keepK (steps K I L).1 q, keepI (steps K I L).1 (steps K I L).2 q)
  | [], _, _, _ => rfl
  | _ :: L, _, _, q => steps_snoc L _ _ q
theorem keepI_in {K : Int → Int} {I : Int → Option It} {q : It} {T : List Int} (hI : ∀ t, (I t).isSome = true → t ∈ T) (hq : q.tick ∈ T) : ∀ t, (keepI K I q t).isSome = true → t ∈ T := by
  intro t ht
  by_cases h : t = q.tick
  · rw [h]; exact hq
  · rw [keepI_other h] at ht
    exact hI t ht
theorem steps_in {T : List Int} : ∀ (L : List It) (K : Int → Int) (I : Int → Option It), (∀ t, (I t).isSome = true → t ∈ T) → (∀ q ∈ L, q.tick ∈ T) → ∀ t, ((steps K I L).2 t).isSome = true → t ∈ T
  | [], _, _, hI, _ => hI
  | q :: L, _, _, hI, hL => steps_in L _ _ (keepI_in hI (hL q (List.mem_cons_self ..))) fun p hp => hL p (List.mem_cons_of_mem _ hp)
theorem onlyI_in {K : Int → Int} {I : Int → Option It} {T : List Int} (hI : ∀ t, (I t).isSome = true → t ∈ T) : ∀ t, (onlyI K I t).isSome = true → t ∈ T := by
  intro t ht
  unfold onlyI at ht
  split at ht
  · exact hI t ht
  · cases ht
/-- What a parcel makes of a stream. -/
def learnK (K : Int → Int) (I : Int → Option It) (p : Pc) : Int → Int := (steps (fun t => max (K t) (atS p.spans t)) (onlyI (fun t => max (K t) (atS p.spans t)) I) p.items).1
def learnI (K : Int → Int) (I : Int → Option It) (p : Pc) : Int → Option It := (steps (fun t => max (K t) (atS p.spans t)) (onlyI (fun t => max (K t) (atS p.spans t)) I) p.items).2
/-- Each value is an item. -/
theorem Strm.items_ {w : World} {s m : Nat} {l : List Sp} {I : Int → Option It} {a : Option Addr} {n c : Nat} {X : List (Int × Value)} (h : Strm w s m l I a n c X) : ∀ p ∈ X, ∃ y, p.2 = mkIt y := by
  intro p hp
  have hg := mem_get h.stm.rise hp
  have hi := h.its p.1
  cases ho : I p.1 with
  | none =>
    rw [ho] at hi
    have hi : getX X p.1 = none := hi
    rw [hg] at hi
    cases hi
  | some q =>
    rw [ho] at hi
    obtain ⟨_, _, _, ba, bc, h4, _⟩ := hi
    rw [hg] at h4
    exact ⟨(p.1, q.for_, ba, q.body.length, bc), Option.some.inj h4⟩
def forI (I : Int → Option It) (t : Int) : Option Int := (I t).map fun q => q.for_
theorem Strm.forV {w : World} {s m : Nat} {l : List Sp} {I : Int → Option It} {a : Option Addr} {n c : Nat} {X : List (Int × Value)} (h : Strm w s m l I a n c X) (t : Int) : (getX X t).map Go.Proofs.Ytidihfhgnjkmaaa.forV = forI I t := by
  have hi := h.its t
  unfold forI
  cases ho : I t with
  | none =>
    rw [ho] at hi
    have hi : getX X t = none := hi
    rw [hi]; rfl
  | some q =>
    rw [ho] at hi
    obtain ⟨_, _, _, ba, bc, h4, _⟩ := hi
    rw [h4]; rfl
theorem keys_sub {X X2 : List (Int × Value)} (hX : RiseX X) (h : ∀ t v, getX X t = some v → ∃ v2, getX X2 t = some v2) : X.length ≤ X2.length := by
  have hn : (X.map Prod.fst).Nodup := by
    rw [List.nodup_iff_pairwise_ne, List.pairwise_map]
    exact List.Pairwise.imp (fun hh => by omega) hX
  have := len_sub (X.map Prod.fst) (X2.map Prod.fst) hn fun t ht => by
    obtain ⟨p, hp, rfl⟩ := List.mem_map.1 ht
    obtain ⟨v2, hv⟩ := h _ _ (mem_get hX hp)
    exact List.mem_map.2 ⟨_, get_mem hv, rfl⟩
  rwa [List.length_map, List.length_map] at this
/-- Streams whose items are for the same are alike. -/
theorem same_of {w w2 : World} {s m s2 m2 : Nat} {l l2 : List Sp} {I I2 : Int → Option It} {a a2 : Option Addr} {n c n2 c2 : Nat} {X X2 : List (Int × Value)} (h : Strm w s m l I a n c X) (h2 : Strm w2 s2 m2 l2 I2 a2 n2 c2 X2) (hf : ∀ t, forI I t = forI I2 t) : SameX X X2 := by
  have hx : ∀ t, (getX X t).map Go.Proofs.Ytidihfhgnjkmaaa.forV = (getX X2 t).map Go.Proofs.Ytidihfhgnjkmaaa.forV := fun t => by rw [h.forV, h2.forV, hf]
  have h1 : ∀ t v, getX X t = some v → ∃ v2, getX X2 t = some v2 ∧ Go.Proofs.Ytidihfhgnjkmaaa.forV v = Go.Proofs.Ytidihfhgnjkmaaa.forV v2 := fun t v hv => by
    have := hx t
    rw [hv] at this
    cases hg : getX X2 t with
    | none => rw [hg] at this; cases this
    | some v2 => rw [hg] at this; exact ⟨v2, rfl, Option.some.inj this⟩
  have h3 : ∀ t v, getX X2 t = some v → ∃ v2, getX X t = some v2 := fun t v hv => by
    have := hx t
    rw [hv] at this
    cases hg : getX X t with
    | none => rw [hg] at this; cases this
    | some v2 => exact ⟨v2, rfl⟩
  exact ⟨Nat.le_antisymm (keys_sub h.stm.rise fun t v hv => let ⟨v2, k, _⟩ := h1 t v hv; ⟨v2, k⟩) (keys_sub h2.stm.rise h3), h1⟩
end Go.Proofs.Ytidihfhgnjkmaaa
