/- A stream by what it knows and what it keeps; keep, whatever is known of the tick. -/
import Derived.Test.YtidihfhgnjkmaaaGreatStA7
import Derived.Laws.BitsAllLaws
namespace Go.Proofs.YtidihfhgnjkmaaaGreat
set_option maxRecDepth 100000
open Go.RowKit Go.Maps Go.Sort Go.Shelf
variable {Z : Nat → Prop}

/-- Those for whom either is. -/
def orI (a b : Int) : Int := ((a.toNat ||| b.toNat : Nat) : Int)
theorem orI_range {a b : Int} (ha : 0 ≤ a ∧ a ≤ 4294967295) (hb : 0 ≤ b ∧ b ≤ 4294967295) : 0 ≤ orI a b ∧ orI a b ≤ 4294967295 := by
  have h : a.toNat ||| b.toNat < 2 ^ 32 := Nat.or_lt_two_pow (by omega) (by omega)
  unfold orI
  omega
theorem bits_or {a b : Int} (ha : 0 ≤ a ∧ a ≤ 4294967295) (hb : 0 ≤ b ∧ b ≤ 4294967295) : bits .or .u32 a b = orI a b := by
  obtain ⟨A, rfl⟩ := Int.eq_ofNat_of_zero_le ha.1
  obtain ⟨B, rfl⟩ := Int.eq_ofNat_of_zero_le hb.1
  have hx : A ||| B < 2 ^ 32 := Nat.or_lt_two_pow (by omega) (by omega)
  have e : ∀ n : Nat, n < 2 ^ 32 → (BitVec.ofInt 32 (n : Int)).toNat = n := fun n hn => by
    rw [BitVec.ofInt_natCast, BitVec.toNat_ofNat]
    exact Nat.mod_eq_of_lt hn
  show IntKind.u32.wrap ((BitVec.ofInt 32 (A : Int) ||| BitVec.ofInt 32 (B : Int)).toNat : Int) = ((A ||| B : Nat) : Int)
  rw [BitVec.toNat_or, e A (by omega), e B (by omega), IntKind.wrap_u32']
  omega
theorem Own.blockLe {w : World} {B : Nat} {a : Option Addr} {n c : Nat} {bs : List Nat} (h : Own w B a n c bs) : ∀ ad, a = some ad → B ≤ ad.block := by
  intro ad e
  subst e
  rcases h.row.2 with ⟨hv, _⟩ | ⟨g, c', cur, hv, hbg, _⟩
  · cases hv
  · simp only [Value.slice.injEq, Option.some.injEq] at hv
    rw [hv.1]
    exact hbg
/-- What is kept at a tick. -/
def ItAt (Z : Nat → Prop) (w : World) (X : List (Int × Value)) (t : Int) : Option It → Prop
  | none => getX X t = none
  | some q => q.tick = t ∧ (0 ≤ q.for_ ∧ q.for_ ≤ 4294967295) ∧ q.body.length ≤ 400 ∧ ∃ ba bc, getX X t = some (.agg #[.int .i64 t, .int .u32 q.for_, .slice ba q.body.length bc]) ∧ Rd w ba q.body.length q.body ∧ ∀ ad, ba = some ad → q.body = [] ∨ Z ad.block
/-- A STREAM by its spans l and its items I. -/
structure Strm (Z : Nat → Prop) (w : World) (s m : Nat) (l : List Sp) (I : Int → Option It) (a : Option Addr) (n c : Nat) (X : List (Int × Value)) : Prop where
  stm : Stm Z w s m a n c l X
  its : ∀ t, ItAt Z w X t (I t)
  data : ∀ t, atS l t = 1 ↔ (I t).isSome = true
def Str (Z : Nat → Prop) (w : World) (s m : Nat) (l : List Sp) (I : Int → Option It) : Prop := ∃ a n c X, Strm Z w s m l I a n c X
theorem ItAt.two {w w' : World} {s m : Nat} {a : Option Addr} {n c : Nat} {l : List Sp} {X : List (Int × Value)} (h : Stm Z w s m a n c l X) {t : Int} {o : Option It} (hi : ItAt Z w X t o) (ht : Two s m w w') : ItAt Z w' X t o := by
  cases o with
  | none => exact hi
  | some q =>
    obtain ⟨h1, h2, h3, ba, bc, h4, h5, h6⟩ := hi
    exact ⟨h1, h2, h3, ba, bc, h4, Rd.two h h5 ht, h6⟩
/-- It stays where two other blocks turn, and where blocks are made. -/
theorem ItAt.of_get {w : World} {X X' : List (Int × Value)} {t : Int} {o : Option It} (h : ItAt Z w X t o) (e : getX X' t = getX X t) : ItAt Z w X' t o := by
  cases o with
  | none => exact e.trans h
  | some q =>
    obtain ⟨h1, h2, h3, ba, bc, h4, h5⟩ := h
    exact ⟨h1, h2, h3, ba, bc, e.trans h4, h5⟩
theorem ItAt.below {w w' : World} {X : List (Int × Value)} {t : Int} {o : Option It} (h : ItAt Z w X t o) (hb : Below w.heap.size w w') : ItAt Z w' X t o := by
  cases o with
  | none => exact h
  | some q =>
    obtain ⟨h1, h2, h3, ba, bc, h4, h5, h6⟩ := h
    exact ⟨h1, h2, h3, ba, bc, h4, h5.below hb, h6⟩
theorem Strm.stay {w w' : World} {s m : Nat} {l : List Sp} {I : Int → Option It} {a : Option Addr} {n c : Nat} {X : List (Int × Value)} (h : Strm Z w s m l I a n c X) (hb : Below w.heap.size w w') : Strm Z w' s m l I a n c X := ⟨h.stm.stay hb, fun t => (h.its t).below hb, h.data⟩
theorem Str.stay {w w' : World} {s m : Nat} {l : List Sp} {I : Int → Option It} (h : Str Z w s m l I) (hb : Below w.heap.size w w') : Str Z w' s m l I := by
  obtain ⟨a, n, c, X, h⟩ := h
  exact ⟨a, n, c, X, h.stay hb⟩
theorem len_sub {α : Type} [DecidableEq α] : ∀ (l T : List α), l.Nodup → (∀ x ∈ l, x ∈ T) → l.length ≤ T.length
  | [], _, _, _ => Nat.zero_le _
  | x :: l, T, hn, hs => by
    obtain ⟨h1, h2⟩ := List.nodup_cons.1 hn
    have hx := hs x (List.mem_cons_self ..)
    have := len_sub l (T.erase x) h2 fun y hy => (List.mem_erase_of_ne (by rintro rfl; exact h1 hy)).2 (hs y (List.mem_cons_of_mem _ hy))
    rw [List.length_erase_of_mem hx] at this
    have := List.length_pos_of_mem hx
    rw [List.length_cons]
    omega
/-- How many items there are, by where they may be. -/
theorem Strm.few {w : World} {s m : Nat} {l : List Sp} {I : Int → Option It} {a : Option Addr} {n c : Nat} {X : List (Int × Value)} (h : Strm Z w s m l I a n c X) {T : List Int} (hT : ∀ t, (I t).isSome = true → t ∈ T) : X.length ≤ T.length := by
  have hn : (X.map Prod.fst).Nodup := by
    rw [List.nodup_iff_pairwise_ne, List.pairwise_map]
    exact List.Pairwise.imp (fun hh => by omega) h.stm.rise
  have := len_sub (X.map Prod.fst) T hn fun t ht => by
    obtain ⟨p, hp, rfl⟩ := List.mem_map.1 ht
    refine hT _ ?_
    have hg := mem_get h.stm.rise hp
    have hi := h.its p.1
    cases ho : I p.1 with
    | none =>
      rw [ho] at hi
      have hi : getX X p.1 = none := hi
      rw [hg] at hi
      cases hi
    | some q => rfl
  rwa [List.length_map] at this
/-- What is kept behind one item more. -/
def keepI (K : Int → Int) (I : Int → Option It) (q : It) (u : Int) : Option It :=
  if u = q.tick then (if K u = 0 then some q else (I u).map fun r => ⟨r.tick, orI r.for_ q.for_, r.body⟩) else I u
def keepK (K : Int → Int) (q : It) (u : Int) : Int := if u = q.tick then max (K u) 1 else K u
theorem keepI_other {K : Int → Int} {I : Int → Option It} {q : It} {u : Int} (h : u ≠ q.tick) : keepI K I q u = I u := if_neg h
theorem keepI_new {K : Int → Int} {I : Int → Option It} {q : It} (h : K q.tick = 0) : keepI K I q q.tick = some q := by unfold keepI; rw [if_pos rfl, if_pos h]
theorem keepI_old {K : Int → Int} {I : Int → Option It} {q : It} (h : K q.tick ≠ 0) : keepI K I q q.tick = (I q.tick).map fun r => ⟨r.tick, orI r.for_ q.for_, r.body⟩ := by unfold keepI; rw [if_pos rfl, if_neg h]
/-- Stream.keep. -/
theorem st_keep {w : World} {s m : Nat} {l : List Sp} {I : Int → Option It} (h : Str Z w s m l I) {T : List Int} (hT : ∀ t, (I t).isSome = true → t ∈ T) (hTl : T.length ≤ 1000) {q : It} {ba : Option Addr} {bl bc : Nat} (ht : 1 ≤ q.tick ∧ q.tick ≤ 1099511627776) (hf : 0 ≤ q.for_ ∧ q.for_ ≤ 4294967295) (hq : q.body.length ≤ 400) (hb : Rd w ba bl q.body) :
    Calls Tryz.prog 35 #[.pointer (some ⟨s, 0, none⟩), .agg #[.int .i64 q.tick, .int .u32 q.for_, .slice ba bl bc]] w fun e w' => e = .returned (.tuple #[]) ∧ (∃ l', Str Z w' s m l' (keepI (atS l) I q) ∧ ∀ u, atS l' u = keepK (atS l) q u) ∧ Two s m w w' := by
  obtain ⟨a, n, c, X, hs⟩ := h
  have hX := hs.few hT
  have hbl : q.body.length = bl := hb.size
  have hrg := atS_range hs.stm.ok.right q.tick
  rcases (show atS l q.tick = 0 ∨ atS l q.tick = 1 ∨ 2 ≤ atS l q.tick by omega) with hat | hat | hat
  · refine (st_keep_0 hs.stm (by omega) ht hb (by omega) hat).mono ?_
    rintro e w' ⟨rfl, a', n', c', l', ba', bc', k1, k2, k3, k4⟩
    refine ⟨rfl, ⟨l', ⟨a', n', c', _, k1, fun u => ?_, fun u => ?_⟩, fun u => ?_⟩, k4⟩
    · by_cases hu : u = q.tick
      · subst hu
        rw [keepI_new hat]
        exact ⟨rfl, hf, hq, ba', bc', by rw [getX_put, if_pos rfl, hbl], by rw [hbl]; exact k2.rd, fun ad e => .inr (hs.stm.zz _ (k2.blockLe ad e))⟩
      · rw [keepI_other hu]
        exact ((hs.its u).two hs.stm k4).of_get (by rw [getX_put, if_neg hu])
    · rw [k3 u]
      by_cases hu : u = q.tick
      · subst hu
        rw [if_pos rfl, keepI_new hat]
        simp
      · rw [if_neg hu, keepI_other hu]
        exact hs.data u
    · rw [k3 u]
      unfold keepK
      by_cases hu : u = q.tick
      · rw [if_pos hu, if_pos hu, hu, hat]; rfl
      · rw [if_neg hu, if_neg hu]
  · have hsome := (hs.data q.tick).1 hat
    obtain ⟨r, hr⟩ := Option.isSome_iff_exists.1 hsome
    have hi := hs.its q.tick
    rw [hr] at hi
    obtain ⟨h1, h2, h3, da, dc, h4, h5, h6⟩ := hi
    refine (st_keep_1 hs.stm (by omega) ht hat h4).mono ?_
    rintro e w' ⟨rfl, k1, k2⟩
    rw [bits_or h2 hf] at k1
    refine ⟨rfl, ⟨l, ⟨a, n, c, _, k1, fun u => ?_, fun u => ?_⟩, fun u => ?_⟩, k2⟩
    · by_cases hu : u = q.tick
      · subst hu
        rw [keepI_old (by omega), hr]
        exact ⟨h1, orI_range h2 hf, h3, da, dc, by rw [getX_put, if_pos rfl], Rd.two hs.stm h5 k2, h6⟩
      · rw [keepI_other hu]
        exact ((hs.its u).two hs.stm k2).of_get (by rw [getX_put, if_neg hu])
    · by_cases hu : u = q.tick
      · subst hu
        rw [keepI_old (by omega), hr, hat]
        simp
      · rw [keepI_other hu]
        exact hs.data u
    · unfold keepK
      by_cases hu : u = q.tick
      · rw [if_pos hu, hu, hat]; rfl
      · rw [if_neg hu]
  · refine (st_keep_2 hs.stm hat).mono ?_
    rintro e w' ⟨rfl, hb'⟩
    have hnone : I q.tick = none := by
      cases ho : I q.tick with
      | none => rfl
      | some r =>
        have := (hs.data q.tick).2 (by rw [ho]; rfl)
        omega
    have hI : keepI (atS l) I q = I := funext fun u => by
      by_cases hu : u = q.tick
      · subst hu
        rw [keepI_old (by omega), hnone]; rfl
      · exact keepI_other hu
    rw [hI]
    refine ⟨rfl, ⟨l, ⟨a, n, c, X, hs.stay hb'⟩, fun u => ?_⟩, Two.of_below s m hb'⟩
    unfold keepK
    by_cases hu : u = q.tick
    · rw [if_pos hu, hu]; exact (Int.max_eq_left (by omega)).symm
    · rw [if_neg hu]
end Go.Proofs.YtidihfhgnjkmaaaGreat
