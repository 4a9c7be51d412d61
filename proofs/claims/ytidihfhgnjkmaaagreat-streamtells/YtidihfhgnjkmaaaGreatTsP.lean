/- A pack of texts: TsM TsM2 TsM3. -/
import Derived.Test.YtidihfhgnjkmaaaGreatSnP
import Derived.Test.YtidihfhgnjkmaaaGreatStB
import Derived.Test.YtidihfhgnjkmaaaGreatSmP
/- Pieces cut into Tells: each may be, they follow each other, and together they say what the pieces say. -/
namespace Go.Proofs.YtidihfhgnjkmaaaGreat

def spansOf (A : List Pce) : List Sp := (A.filter fun c => decide (c.1.is ≠ 1)).map Prod.fst
def itemsOf (A : List Pce) : List It := (A.filter fun c => decide (c.1.is = 1)).map Prod.snd
theorem spansOf_cons (c : Pce) (A : List Pce) : spansOf (c :: A) = if c.1.is = 1 then spansOf A else c.1 :: spansOf A := by
  unfold spansOf
  rw [List.filter_cons]
  by_cases h : c.1.is = 1 <;> simp [h]
theorem itemsOf_cons (c : Pce) (A : List Pce) : itemsOf (c :: A) = if c.1.is = 1 then c.2 :: itemsOf A else itemsOf A := by
  unfold itemsOf
  rw [List.filter_cons]
  by_cases h : c.1.is = 1 <;> simp [h]
theorem spansOf_app (A B : List Pce) : spansOf (A ++ B) = spansOf A ++ spansOf B := by unfold spansOf; rw [List.filter_append, List.map_append]
theorem itemsOf_app (A B : List Pce) : itemsOf (A ++ B) = itemsOf A ++ itemsOf B := by unfold itemsOf; rw [List.filter_append, List.map_append]
theorem spansOf_mem {A : List Pce} {s : Sp} (h : s ∈ spansOf A) : ∃ c ∈ A, c.1 = s ∧ c.1.is ≠ 1 := by
  obtain ⟨c, hc, e⟩ := List.mem_map.1 h
  obtain ⟨h1, h2⟩ := List.mem_filter.1 hc
  exact ⟨c, h1, e, of_decide_eq_true h2⟩
theorem itemsOf_mem {A : List Pce} {q : It} (h : q ∈ itemsOf A) : ∃ c ∈ A, c.2 = q ∧ c.1.is = 1 := by
  obtain ⟨c, hc, e⟩ := List.mem_map.1 h
  obtain ⟨h1, h2⟩ := List.mem_filter.1 hc
  exact ⟨c, h1, e, of_decide_eq_true h2⟩
theorem RightP_every : ∀ {A : List Pce} {p : Sp}, RightP p A → ∀ c ∈ A, p.to < c.1.fr ∧ c.1.fr ≤ c.1.to ∧ c.1.to ≤ 1099511627776 ∧ 1 ≤ c.1.is ∧ c.1.is ≤ 3 ∧ (c.1.is = 1 → c.1.to = c.1.fr ∧ c.2.tick = c.1.fr) ∧ (c.1.is ≠ 1 → c.2 = zIt)
  | x :: A, p, ⟨a1, a2, a3, a4, a5, a6, a7, a8, a9⟩, c, hc => by
    rcases List.mem_cons.1 hc with rfl | hc
    · exact ⟨a1, a2, a3, a4, a5, a7, a8⟩
    · obtain ⟨b1, b2⟩ := RightP_every a9 c hc
      exact ⟨by omega, b2⟩
theorem spansOf_right : ∀ (A : List Pce) (p p' : Sp), RightP p A → p'.to ≤ p.to → (p'.to = p.to → p'.is = p.is) → RightS p' (spansOf A)
  | [], _, _, _, _, _ => trivial
  | c :: A, p, p', ⟨a1, a2, a3, a4, a5, a6, a7, a8, a9⟩, h1, h2 => by
    rw [spansOf_cons]
    by_cases h : c.1.is = 1
    · rw [if_pos h]
      exact spansOf_right A c.1 p' a9 (by omega) (fun e => by omega)
    · rw [if_neg h]
      refine ⟨by omega, a2, a3, a4, a5, fun e => ?_, spansOf_right A c.1 c.1 a9 (Int.le_refl _) (fun _ => rfl)⟩
      by_cases e2 : p'.to = p.to
      · exact a6 ⟨by omega, by have := h2 e2; omega, h⟩
      · omega
theorem kP_range : ∀ {A : List Pce} {p : Sp}, RightP p A → ∀ u, 0 ≤ kP A u ∧ kP A u ≤ 3
  | [], _, _, u => by show 0 ≤ (0 : Int) ∧ (0 : Int) ≤ 3; omega
  | c :: A, p, ⟨a1, a2, a3, a4, a5, a6, a7, a8, a9⟩, u => by
    have := kP_range a9 u
    rw [kP]
    split <;> omega
theorem spansOf_at : ∀ {A : List Pce} {p : Sp}, RightP p A → ∀ u, atS (spansOf A) u = if kP A u = 1 then 0 else kP A u
  | [], _, _, u => rfl
  | c :: A, p, ⟨a1, a2, a3, a4, a5, a6, a7, a8, a9⟩, u => by
    have ih := spansOf_at a9 u
    rw [spansOf_cons, kP]
    by_cases hu : c.1.fr ≤ u ∧ u ≤ c.1.to
    · rw [if_pos hu]
      by_cases h : c.1.is = 1
      · rw [if_pos h, if_pos h, ih, (low_P a9 hu.2).1]
        rfl
      · rw [if_neg h, if_neg h, atS, if_pos hu]
    · rw [if_neg hu]
      by_cases h : c.1.is = 1
      · rw [if_pos h, ih]
      · rw [if_neg h, atS, if_neg hu, ih]
theorem forL_cons (q : It) (L : List It) (t : Int) : forL (q :: L) t = (if q.tick = t then q.for_.toNat else 0) ||| forL L t := by
  unfold forL
  rw [List.foldl_cons]
  by_cases h : q.tick = t
  · rw [if_pos h, if_pos h, foldF L t (0 ||| _), Nat.zero_or]
    rfl
  · rw [if_neg h, if_neg h, Nat.zero_or]
theorem itemsOf_has : ∀ {A : List Pce} {p : Sp}, RightP p A → ∀ u, hasI (itemsOf A) u = (if kP A u = 1 then 1 else 0) ∧ forL (itemsOf A) u = if kP A u = 1 then (iP A u).for_.toNat else 0
  | [], _, _, u => ⟨rfl, rfl⟩
  | c :: A, p, ⟨a1, a2, a3, a4, a5, a6, a7, a8, a9⟩, u => by
    obtain ⟨i1, i2⟩ := itemsOf_has a9 u
    rw [itemsOf_cons, kP, iP]
    by_cases hu : c.1.fr ≤ u ∧ u ≤ c.1.to
    · have hl := (low_P a9 hu.2).1
      rw [hl] at i1 i2
      rw [if_pos hu, if_pos hu]
      by_cases h : c.1.is = 1
      · have ht := a7 h
        have e : c.2.tick = u := by omega
        rw [if_pos h, if_pos h, if_pos h, hasI_cons, if_pos e, forL_cons, if_pos e, i2]
        exact ⟨rfl, by rw [if_neg (by decide), Nat.or_zero]⟩
      · rw [if_neg h, if_neg h, if_neg h, i1, i2]
        exact ⟨by rw [if_neg (by decide)], by rw [if_neg (by decide)]⟩
    · rw [if_neg hu, if_neg hu]
      by_cases h : c.1.is = 1
      · have ht := a7 h
        have e : ¬ c.2.tick = u := by omega
        rw [if_pos h, hasI_cons, if_neg e, forL_cons, if_neg e, Nat.zero_or]
        exact ⟨i1, i2⟩
      · rw [if_neg h]
        exact ⟨i1, i2⟩
/-- Its items may be. -/
theorem itE_of : ∀ (A : List Pce) (p : Sp) (P : Pc) (least : Int), RightP p A → least ≤ p.to + 1 ∨ (∀ c ∈ A, least ≤ c.1.fr) → (∀ c ∈ A, c.1.to ≤ P.to_) → (∀ q ∈ itemsOf A, atS P.spans q.tick = 0 ∧ q.body.length ≤ 400) → itE P least (itemsOf A) = 0
  | [], _, _, _, _, _, _, _ => rfl
  | c :: A, p, P, least, ⟨a1, a2, a3, a4, a5, a6, a7, a8, a9⟩, h1, h2, h3 => by
    have hc := h2 c (List.mem_cons_self ..)
    have h2' : ∀ d ∈ A, d.1.to ≤ P.to_ := fun d hd => h2 d (List.mem_cons_of_mem _ hd)
    have hcl : least ≤ c.1.fr := by
      rcases h1 with h1 | h1
      · omega
      · exact h1 c (List.mem_cons_self ..)
    rw [itemsOf_cons] at h3 ⊢
    by_cases h : c.1.is = 1
    · rw [if_pos h] at h3 ⊢
      have ht := a7 h
      obtain ⟨k1, k2⟩ := h3 c.2 (List.mem_cons_self ..)
      rw [itE_next (by omega) (by omega)]
      exact itE_of A c.1 P (c.2.tick + 1) a9 (.inl (by omega)) h2' fun q hq => h3 q (List.mem_cons_of_mem _ hq)
    · rw [if_neg h] at h3 ⊢
      exact itE_of A c.1 P least a9 (.inl (by omega)) h2' h3
/-- A Tell that holds pieces. -/
structure Holds (pub : Int) (p : Pc) (A : List Pce) : Prop where
  kind : p.kind = 1
  pub_ : p.pub = pub
  spans : p.spans = spansOf A
  items : p.items = itemsOf A
  few : p.spans.length ≤ 32 ∧ p.items.length ≤ 8
  fr : ∀ c ∈ A, p.fr ≤ c.1.fr
theorem tellOk_holds {pub : Int} {p : Pc} {A : List Pce} (h : Holds pub p A) (hpub : 0 ≤ pub ∧ pub ≤ 2) (hA : RightP Sp.zr A) (h1 : 1 ≤ p.fr ∧ p.fr ≤ p.to_ ∧ p.to_ ≤ 1099511627776) (ht : ∀ c ∈ A, c.1.to ≤ p.to_) (hq : ∀ q ∈ itemsOf A, (0 ≤ q.for_ ∧ q.for_ ≤ 4294967295) ∧ q.body.length ≤ 400) : TellOk p := by
  have hk := h.kind
  have e1 : isB p.kind = true := by rw [hk]; rfl
  have e2 : newsB p.kind = true := by rw [hk]; rfl
  have hn : numB p (subB p.kind) (fromB p.kind) (toB p.kind) = true := by
    rw [hk]
    show (pubB p && (!false || namB p) && (if true = true then rngB p else _)) = true
    have hp : pubB p = true := by unfold pubB; rw [h.pub_]; exact decide_eq_true (by omega)
    have hr : rngB p = true := by unfold rngB; exact decide_eq_true h1
    rw [hp, hr]
    rfl
  have hm : ¬ (32 < p.spans.length ∨ 8 < p.items.length) := by have := h.few; omega
  have hs : spB p = true := by
    unfold spB
    rw [Bool.and_eq_true, h.spans]
    refine ⟨List.all_eq_true.2 fun s hs => ?_, (rightB_iff _ _).2 (spansOf_right A Sp.zr Sp.zr hA (Int.le_refl _) fun _ => rfl)⟩
    obtain ⟨c, hc, rfl, hi⟩ := spansOf_mem hs
    have b := RightP_every hA c hc
    have := ht c hc
    have := h.fr c hc
    unfold inB
    exact decide_eq_true (by omega)
  have hi : itE p p.fr p.items = 0 := by
    rw [h.items]
    refine itE_of A Sp.zr p p.fr hA (.inr h.fr) ht fun q hm => ⟨?_, (hq q hm).2⟩
    obtain ⟨c, hc, rfl, hi⟩ := itemsOf_mem hm
    obtain ⟨b1, b2, b3, b4, b5, b6, b7⟩ := RightP_every hA c hc
    rw [h.spans, spansOf_at hA, if_pos]
    have hb := (itemsOf_has hA c.2.tick).1
    have hin : hasI (itemsOf A) c.2.tick = 1 := by
      unfold hasI
      rw [if_pos (List.any_eq_true.2 ⟨c.2, hm, decide_eq_true rfl⟩)]
    rw [hin] at hb
    by_cases hx : kP A c.2.tick = 1
    · exact hx
    · rw [if_neg hx] at hb
      cases hb
  refine tellOk_of hk ?_ fun q hm => (hq q (by rw [← h.items]; exact hm)).1
  rw [chk_items e1 hn e2 hm hs]
  exact hi
theorem kOf_holds {pub : Int} {p : Pc} {A : List Pce} (h : Holds pub p A) (hA : RightP Sp.zr A) (u : Int) : kOf p u = kP A u ∧ forL p.items u = if kP A u = 1 then (iP A u).for_.toNat else 0 := by
  have h1 := itemsOf_has hA u
  have h2 := kP_range hA u
  unfold kOf
  rw [h.spans, h.items, spansOf_at hA, h1.1]
  refine ⟨?_, h1.2⟩
  split <;> omega
/-- Tells one behind the other, from a tick to a tick. -/
def ChainP : Int → List Pc → Int → Prop
  | at_, [], t => at_ = t + 1
  | at_, p :: T, t => p.fr = at_ ∧ at_ ≤ p.to_ ∧ ChainP (p.to_ + 1) T t
def manyI : List Pc → Nat
  | [] => 0
  | p :: T => p.items.length + manyI T
structure CutOk (pub f t : Int) (P : List Pce) (T : List Pc) : Prop where
  chain : ChainP f T t
  each : ∀ p ∈ T, TellOk p ∧ p.pub = pub
  k : ∀ u, supK T u = kP P u
  f_ : ∀ u, supF T u = if kP P u = 1 then (iP P u).for_.toNat else 0
  from_ : ∀ p ∈ T, ∀ q ∈ p.items, q ∈ itemsOf P
  many : manyI T = (itemsOf P).length
theorem RightP_split : ∀ (A B : List Pce) (p : Sp), RightP p (A ++ B) → RightP p A ∧ RightP (lastP p A) B
  | [], _, _, h => ⟨trivial, h⟩
  | x :: A, B, _, ⟨a1, a2, a3, a4, a5, a6, a7, a8, a9⟩ => ⟨⟨a1, a2, a3, a4, a5, a6, a7, a8, (RightP_split A B x.1 a9).1⟩, (RightP_split A B x.1 a9).2⟩
theorem RightP.zr {c : Pce} {r : List Pce} {p : Sp} (h : RightP p (c :: r)) (h0 : 0 < c.1.fr) : RightP Sp.zr (c :: r) := by
  obtain ⟨a1, a2, a3, a4, a5, a6, a7, a8, a9⟩ := h
  exact ⟨h0, a2, a3, a4, a5, fun e => by have : c.1.is = 0 := e.2.1; omega, a7, a8, a9⟩
theorem cut_ok {pub t : Int} (hpub : 0 ≤ pub ∧ pub ≤ 2) (ht : t ≤ 1099511627776) : ∀ (r : List Pce) (p : Pc) (A : List Pce), Holds pub p A → p.to_ = t → 1 ≤ p.fr → p.fr ≤ t → RightP Sp.zr (A ++ r) → (∀ c ∈ A ++ r, p.fr ≤ c.1.fr ∧ c.1.to ≤ t) → (∀ q ∈ itemsOf (A ++ r), (0 ≤ q.for_ ∧ q.for_ ≤ 4294967295) ∧ q.body.length ≤ 400) → CutOk pub p.fr t (A ++ r) (cutP pub t r p)
  | [], p, A, h, h1, h2, h3, hR, hc, hq => by
    rw [List.append_nil] at *
    rw [cutP]
    have hk := tellOk_holds h hpub hR (by omega) (fun c hm => by rw [h1]; exact (hc c hm).2) hq
    refine ⟨⟨rfl, by omega, by rw [h1]; rfl⟩, fun x hx => by rw [List.mem_singleton.1 hx]; exact ⟨hk, h.pub_⟩, fun u => ?_, fun u => ?_, fun x hx q hq => ?_, ?_⟩
    · have := kOf_holds h hR u
      have := kP_range hR u
      show max (kOf p u) 0 = _
      omega
    · show forL p.items u ||| 0 = _
      rw [Nat.or_zero]
      exact (kOf_holds h hR u).2
    · rw [List.mem_singleton.1 hx, h.items] at hq
      exact hq
    · show p.items.length + 0 = _
      rw [h.items, Nat.add_zero]
  | c :: r, p, A, h, h1, h2, h3, hR, hc, hq => by
    rw [cutP]
    have hcc := hc c (List.mem_append_right _ (List.mem_cons_self ..))
    have eA : A ++ c :: r = (A ++ [c]) ++ r := by rw [List.append_assoc]; rfl
    by_cases hf : fullB p c = true
    · rw [if_pos hf]
      obtain ⟨rA, rB⟩ := RightP_split A (c :: r) _ hR
      have hne : A ≠ [] := by
        rintro rfl
        unfold fullB at hf
        have k1 := h.spans
        have k2 := h.items
        split at hf
        · have := of_decide_eq_true hf; rw [k2] at this; cases this
        · have := of_decide_eq_true hf; rw [k1] at this; cases this
      have hends : ∀ d ∈ A, p.fr ≤ d.1.fr ∧ d.1.fr ≤ d.1.to ∧ d.1.to < c.1.fr := fun d hd => by
        have b1 := (RightP_ends rA d hd).2
        have b2 := rB.1
        have b3 := (RightP_every rA d hd).2.1
        exact ⟨h.fr d hd, b3, by omega⟩
      obtain ⟨a0, A', rfl⟩ := List.exists_cons_of_ne_nil hne
      have h0 := hends a0 (List.mem_cons_self ..)
      have hzr : RightP Sp.zr (c :: r) := rB.zr (by omega)
      have hS : Holds pub (shutP p c) (a0 :: A') := ⟨h.kind, h.pub_, h.spans, h.items, h.few, h.fr⟩
      have hkS := tellOk_holds hS hpub rA (by show 1 ≤ p.fr ∧ p.fr ≤ c.1.fr - 1 ∧ c.1.fr - 1 ≤ 1099511627776; have := hzr.2.1; omega) (fun d hd => by have := (hends d hd).2.2; show _ ≤ c.1.fr - 1; omega) (fun q hm => hq q (by rw [itemsOf_app]; exact List.mem_append_left _ hm))
      have hB : Holds pub (addP (restP pub t c) c) [c] := by
        unfold addP
        by_cases hi : c.1.is = 1
        · rw [if_pos hi]
          refine ⟨rfl, rfl, ?_, ?_, by show 0 ≤ 32 ∧ 1 ≤ 8; omega, fun d hd => by rw [List.mem_singleton.1 hd]; exact Int.le_refl _⟩
          · rw [spansOf_cons, if_pos hi]; rfl
          · rw [itemsOf_cons, if_pos hi]; rfl
        · rw [if_neg hi]
          refine ⟨rfl, rfl, ?_, ?_, by show 1 ≤ 32 ∧ 0 ≤ 8; omega, fun d hd => by rw [List.mem_singleton.1 hd]; exact Int.le_refl _⟩
          · rw [spansOf_cons, if_neg hi]; rfl
          · rw [itemsOf_cons, if_neg hi]; rfl
      have ef : (addP (restP pub t c) c).fr = c.1.fr := by unfold addP; split <;> rfl
      have et : (addP (restP pub t c) c).to_ = t := by unfold addP; split <;> rfl
      have hce := RightP_every hzr c (List.mem_cons_self ..)
      have ih := cut_ok hpub ht r (addP (restP pub t c) c) [c] hB et (by rw [ef]; omega) (by rw [ef]; omega) hzr (fun d hd => by
        rw [ef]
        refine ⟨?_, (hc d (List.mem_append_right _ hd)).2⟩
        rcases List.mem_cons.1 hd with rfl | hd
        · exact Int.le_refl _
        · have := (RightP_every hzr.2.2.2.2.2.2.2.2 d hd).1
          omega) (fun q hm => hq q (by rw [itemsOf_app]; exact List.mem_append_right _ hm))
      rw [ef] at ih
      have hx := fun u => kP_append (a0 :: A') (c :: r) u
      have hcase : ∀ u, ((∃ d ∈ a0 :: A', d.1.fr ≤ u ∧ u ≤ d.1.to) ∧ kP (c :: r) u = 0) ∨ ((¬ ∃ d ∈ a0 :: A', d.1.fr ≤ u ∧ u ≤ d.1.to) ∧ kP (a0 :: A') u = 0) := by
        intro u
        by_cases he : ∃ d ∈ a0 :: A', d.1.fr ≤ u ∧ u ≤ d.1.to
        · refine .inl ⟨he, ?_⟩
          obtain ⟨d, hd, g1, g2⟩ := he
          have := (hends d hd).2.2
          exact (low_P hzr.any (by show u ≤ c.1.fr - 1; omega)).1
        · refine .inr ⟨he, ?_⟩
          have := (kP_append (a0 :: A') [] u).1
          rw [List.append_nil, if_neg he] at this
          exact this
      refine ⟨⟨rfl, by show p.fr ≤ c.1.fr - 1; omega, by show ChainP (c.1.fr - 1 + 1) _ t; rw [Int.sub_add_cancel]; exact ih.chain⟩, fun x hx => ?_, fun u => ?_, fun u => ?_, fun x hx q hm => ?_, ?_⟩
      · rcases List.mem_cons.1 hx with rfl | hx
        · exact ⟨hkS, h.pub_⟩
        · exact ih.each x hx
      · have g1 := (kOf_holds hS rA u).1
        have g2 := kP_range rA u
        have g3 := kP_range hzr u
        have g4 := ih.k u
        show max (kOf (shutP p c) u) (supK _ u) = _
        rw [g1, g4, (hx u).1]
        show max (kP (a0 :: A') u) (kP (c :: r) u) = _
        rcases hcase u with ⟨k1, k2⟩ | ⟨k1, k2⟩
        · rw [if_pos k1]; omega
        · rw [if_neg k1]; omega
      · have g1 := (kOf_holds hS rA u).2
        have g4 := ih.f_ u
        show forL (shutP p c).items u ||| supF _ u = _
        rw [g1, g4, (hx u).1, (hx u).2]
        show (if kP (a0 :: A') u = 1 then _ else _) ||| (if kP (c :: r) u = 1 then (iP (c :: r) u).for_.toNat else 0) = _
        rcases hcase u with ⟨k1, k2⟩ | ⟨k1, k2⟩
        · rw [if_pos k1, if_pos k1, k2, if_neg (by decide : ¬ (0 : Int) = 1), Nat.or_zero]
        · rw [if_neg k1, if_neg k1, k2, if_neg (by decide : ¬ (0 : Int) = 1), Nat.zero_or]
      · rw [itemsOf_app]
        rcases List.mem_cons.1 hx with rfl | hx
        · have : q ∈ p.items := hm
          rw [h.items] at this
          exact List.mem_append_left _ this
        · exact List.mem_append_right _ (ih.from_ x hx q hm)
      · show p.items.length + manyI _ = _
        have e : (itemsOf (a0 :: A' ++ c :: r)).length = (itemsOf (a0 :: A')).length + (itemsOf (c :: r)).length := by rw [itemsOf_app, List.length_append]
        rw [ih.many, h.items, e]
        rfl
    · rw [if_neg hf]
      have hB : Holds pub (addP p c) (A ++ [c]) := by
        have hfew := h.few
        unfold fullB at hf
        unfold addP
        have hfr : ∀ d ∈ A ++ [c], p.fr ≤ d.1.fr := fun d hd => by
          rcases List.mem_append.1 hd with hd | hd
          · exact h.fr d hd
          · rw [List.mem_singleton.1 hd]; exact hcc.1
        by_cases hi : c.1.is = 1
        · rw [if_pos hi] at hf ⊢
          have hf2 : ¬ p.items.length = 8 := fun e => hf (decide_eq_true e)
          refine ⟨h.kind, h.pub_, ?_, ?_, ⟨hfew.1, by show (p.items ++ [c.2]).length ≤ 8; rw [List.length_append]; show p.items.length + 1 ≤ 8; omega⟩, hfr⟩
          · rw [spansOf_app, spansOf_cons, if_pos hi]
            show p.spans = spansOf A ++ []
            rw [List.append_nil, h.spans]
          · rw [itemsOf_app, itemsOf_cons, if_pos hi]
            show p.items ++ [c.2] = itemsOf A ++ [c.2]
            rw [h.items]
        · rw [if_neg hi] at hf ⊢
          have hf2 : ¬ p.spans.length = 32 := fun e => hf (decide_eq_true e)
          refine ⟨h.kind, h.pub_, ?_, ?_, ⟨by show (p.spans ++ [c.1]).length ≤ 32; rw [List.length_append]; show p.spans.length + 1 ≤ 32; omega, hfew.2⟩, hfr⟩
          · rw [spansOf_app, spansOf_cons, if_neg hi]
            show p.spans ++ [c.1] = spansOf A ++ [c.1]
            rw [h.spans]
          · rw [itemsOf_app, itemsOf_cons, if_neg hi]
            show p.items = itemsOf A ++ []
            rw [List.append_nil, h.items]
      have ef : (addP p c).fr = p.fr := by unfold addP; split <;> rfl
      have et : (addP p c).to_ = t := by rw [← h1]; unfold addP; split <;> rfl
      rw [eA] at hR hc hq ⊢
      have ih := cut_ok hpub ht r (addP p c) (A ++ [c]) hB et (by rw [ef]; exact h2) (by rw [ef]; exact h3) hR (fun d hd => by rw [ef]; exact hc d hd) hq
      rw [ef] at ih
      exact ih
/-- All that is told of pieces. -/
theorem tells_ok {pub f t : Int} (hm : (0 ≤ pub ∧ pub ≤ 2) ∧ 1 ≤ f ∧ f ≤ t ∧ t ≤ 1099511627776) {P : List Pce} (hR : RightP Sp.zr P) (hc : ∀ c ∈ P, f ≤ c.1.fr ∧ c.1.to ≤ t) (hq : ∀ q ∈ itemsOf P, (0 ≤ q.for_ ∧ q.for_ ≤ 4294967295) ∧ q.body.length ≤ 400) (hne : P ≠ []) : CutOk pub f t P (tellsOf pub f t P) := by
  obtain ⟨c, r, rfl⟩ := List.exists_cons_of_ne_nil hne
  rw [tellsOf]
  exact cut_ok hm.1 hm.2.2.2 (c :: r) ⟨1, pub, 0, 0, f, t, [], []⟩ [] ⟨rfl, rfl, rfl, rfl, by show 0 ≤ 32 ∧ 0 ≤ 8; omega, fun d hd => by cases hd⟩ rfl hm.2.1 hm.2.2.1 hR hc hq
end Go.Proofs.YtidihfhgnjkmaaaGreat
/- One that knows nothing learns what was told of a range: it knows just that. -/
namespace Go.Proofs.YtidihfhgnjkmaaaGreat

theorem part_len (f : It → Bool) : ∀ X : List It, (X.filter f).length + (X.filter fun q => !f q).length = X.length
  | [] => rfl
  | q :: X => by
    have := part_len f X
    rw [List.filter_cons, List.filter_cons]
    cases f q <;> simp <;> omega
theorem piece_at : ∀ {P : List Pce} {p : Sp}, RightP p P → ∀ c ∈ P, ∀ u, c.1.fr ≤ u → u ≤ c.1.to → kP P u = c.1.is ∧ iP P u = c.2
  | x :: P, p, ⟨a1, a2, a3, a4, a5, a6, a7, a8, a9⟩, c, hc, u, h1, h2 => by
    rw [kP, iP]
    rcases List.mem_cons.1 hc with rfl | hc
    · rw [if_pos ⟨h1, h2⟩, if_pos ⟨h1, h2⟩]
      exact ⟨rfl, rfl⟩
    · have := (RightP_every a9 c hc).1
      rw [if_neg (by omega), if_neg (by omega)]
      exact piece_at a9 c hc u h1 h2
theorem itemsOf_rise : ∀ {P : List Pce} {p : Sp}, RightP p P → RiseIt (itemsOf P) ∧ ∀ q ∈ itemsOf P, p.to < q.tick
  | [], _, _ => ⟨List.Pairwise.nil, fun q hq => by cases hq⟩
  | c :: P, p, ⟨a1, a2, a3, a4, a5, a6, a7, a8, a9⟩ => by
    obtain ⟨i1, i2⟩ := itemsOf_rise a9
    rw [itemsOf_cons]
    by_cases h : c.1.is = 1
    · have ht := a7 h
      rw [if_pos h]
      refine ⟨List.pairwise_cons.2 ⟨fun q hq => by have := i2 q hq; omega, i1⟩, fun q hq => ?_⟩
      rcases List.mem_cons.1 hq with rfl | hq
      · omega
      · have := i2 q hq; omega
    · rw [if_neg h]
      exact ⟨i1, fun q hq => by have := i2 q hq; omega⟩
theorem sub_len : ∀ (A X : List It), RiseIt A → (∀ q ∈ A, q ∈ X) → A.length ≤ X.length
  | [], _, _, _ => Nat.zero_le _
  | a :: A, X, hr, hs => by
    obtain ⟨r1, r2⟩ := List.pairwise_cons.1 hr
    have ih := sub_len A (X.filter fun q => !decide (q.tick = a.tick)) r2 fun q hq => List.mem_filter.2 ⟨hs q (List.mem_cons_of_mem _ hq), by have := r1 q hq; simp; omega⟩
    have hp := part_len (fun q => decide (q.tick = a.tick)) X
    have h1 : 0 < (X.filter fun q => decide (q.tick = a.tick)).length := List.length_pos_of_mem (List.mem_filter.2 ⟨hs a (List.mem_cons_self ..), by simp⟩)
    rw [List.length_cons]
    omega
/-- What the pieces of a range are. -/
theorem pieces_in {L : List Sp} {X : List It} {lk f t : Int} {P : List Pce} (h : PiecesOf L X lk f t P) (hK : Kn L X) : (∀ c ∈ P, f ≤ c.1.fr ∧ c.1.to ≤ t) ∧ (∀ q ∈ itemsOf P, q ∈ X) ∧ (∀ q ∈ itemsOf P, (0 ≤ q.for_ ∧ q.for_ ≤ 4294967295) ∧ q.body.length ≤ 400) ∧ (itemsOf P).length ≤ X.length := by
  have hin : ∀ q ∈ itemsOf P, q ∈ X := fun q hq => by
    obtain ⟨c, hc, rfl, hi⟩ := itemsOf_mem hq
    obtain ⟨b1, b2, b3, b4, b5, b6, b7⟩ := RightP_every h.right c hc
    obtain ⟨k1, k2⟩ := piece_at h.right c hc c.1.fr (Int.le_refl _) b2
    rw [h.k] at k1
    rw [h.i] at k2
    by_cases hr : f ≤ c.1.fr ∧ c.1.fr ≤ t
    · rw [if_pos hr] at k1 k2
      unfold seeI at k2
      unfold seeK at k1
      cases hg : getI X c.1.fr with
      | none =>
        rw [hg] at k1
        exact absurd (k1.trans hi) (hK.quiet _)
      | some r =>
        rw [hg] at k1 k2
        simp only at k1 k2
        by_cases hh : hitB lk r = true
        · rw [if_pos hh] at k2
          rw [← k2]
          exact (getI_tick hg).2
        · rw [if_neg hh] at k1
          omega
    · rw [if_neg hr] at k1
      omega
  refine ⟨fun c hc => ?_, hin, fun q hq => (hK.each q (hin q hq)).2, sub_len _ _ (itemsOf_rise h.right).1 hin⟩
  obtain ⟨b1, b2, b3, b4, b5, b6, b7⟩ := RightP_every h.right c hc
  have k1 := (piece_at h.right c hc c.1.fr (Int.le_refl _) b2).1
  have k2 := (piece_at h.right c hc c.1.to b2 (Int.le_refl _)).1
  rw [h.k] at k1 k2
  constructor
  · by_cases hr : f ≤ c.1.fr ∧ c.1.fr ≤ t
    · exact hr.1
    · rw [if_neg hr] at k1; omega
  · by_cases hr : f ≤ c.1.to ∧ c.1.to ≤ t
    · exact hr.2
    · rw [if_neg hr] at k2; omega
/-- How far one has learnt. -/
structure Lrn (bod : Int → List Nat) (P : List Pc) (N : Nat) (L : List Sp) (X : List It) : Prop where
  kn : Kn L X
  learnt : Learnt bod P (kk L X) (getI X)
  few : X.length ≤ N
theorem Lrn.none_ (bod : Int → List Nat) : Lrn bod [] 0 [] [] := ⟨Kn.nil_, Learnt.none_ bod, Nat.le_refl _⟩
theorem Lrn.more {bod : Int → List Nat} {P : List Pc} {N : Nat} {L L1 : List Sp} {X : List It} (h : Lrn bod P N L X) {p : Pc} (hp : TellOk p) (hb : ∀ q ∈ p.items, q.body = bod q.tick) (hj : Joins L p.spans L1) (hN : N + p.items.length ≤ 64) : Lrn bod (p :: P) (N + p.items.length) L1 (learnX L1 X p) := by
  obtain ⟨h1, h2, h3⟩ := learn_ok h.kn hp hj
  have hf := h.few
  have e : learnX L1 X p = keptX L1 X p := by
    show (keptX L1 X p).drop ((keptX L1 X p).length - 64) = _
    rw [show (keptX L1 X p).length - 64 = 0 by omega]
    rfl
  rw [e]
  have hm := h.learnt.more hp hb
  have e1 : learnK (kk L X) (getI X) p = kk L1 (keptX L1 X p) := congrArg Prod.fst h2
  have e2 : learnI (kk L X) (getI X) p = getI (keptX L1 X p) := congrArg Prod.snd h2
  rw [e1, e2] at hm
  exact ⟨h1, hm, by omega⟩
def bodP (P : List Pce) (u : Int) : List Nat := (iP P u).body
/-- It knows just that. -/
theorem Lrn.all {L : List Sp} {X : List It} {lk f t pub : Int} {P : List Pce} (hm : (0 ≤ pub ∧ pub ≤ 2) ∧ 1 ≤ f ∧ f ≤ t ∧ t ≤ 1099511627776) (hP : PiecesOf L X lk f t P) (hK : Kn L X) {N : Nat} {T : List Pc} {Lz : List Sp} {Xz : List It} (h : Lrn (bodP P) T N Lz Xz) (hT : ∀ p, p ∈ T ↔ p ∈ tellsOf pub f t P) : (∀ u, kk Lz Xz u = if f ≤ u ∧ u ≤ t then seeK L X lk u else 0) ∧ ∀ u, f ≤ u → u ≤ t → ∀ q, getI (seenX lk X) u = some q → getI Xz u = some q := by
  obtain ⟨c1, c2, c3, c4⟩ := pieces_in hP hK
  have hk : ∀ u, kk Lz Xz u = kP P u := by
    intro u
    rw [h.learnt.know u, supK_same hT u]
    cases P with
    | nil => rfl
    | cons c r => exact (tells_ok hm hP.right c1 c3 (by simp)).k u
  refine ⟨fun u => (hk u).trans (hP.k u), fun u h1 h2 q hq => ?_⟩
  have hg := seenX_get lk u hK.rise
  rw [hq] at hg
  have hx : getI X u = some q ∧ hitB lk q = true := by
    cases hx : getI X u with
    | none => rw [hx] at hg; cases hg
    | some r =>
      rw [hx] at hg
      simp only at hg
      by_cases hh : hitB lk r = true
      · rw [if_pos hh] at hg
        cases hg
        exact ⟨rfl, hh⟩
      · rw [if_neg hh] at hg
        cases hg
  have k1 : kP P u = 1 := by
    rw [hP.k u, if_pos ⟨h1, h2⟩]
    unfold seeK
    rw [hx.1]
    simp only
    rw [if_pos hx.2]
  have k2 : iP P u = q := by
    rw [hP.i u, if_pos ⟨h1, h2⟩]
    unfold seeI
    rw [hx.1]
    simp only
    rw [if_pos hx.2]
  have hF : supF T u = q.for_.toNat := by
    rw [supF_same hT u]
    cases P with
    | nil => cases k1
    | cons c r => rw [(tells_ok hm hP.right c1 c3 (by simp)).f_ u, if_pos k1, k2]
  rw [h.learnt.inv.its u, hk u, if_pos k1, hF]
  have ht := getI_tick hx.1
  have he := hK.each q ht.2
  have e3 : ((q.for_.toNat : Nat) : Int) = q.for_ := Int.toNat_of_nonneg he.2.1.1
  rw [e3]
  unfold bodP
  rw [k2, ← ht.1]
end Go.Proofs.YtidihfhgnjkmaaaGreat
/- How far one that knows nothing has learnt of what was told, parcel by parcel. -/
namespace Go.Proofs.YtidihfhgnjkmaaaGreat

/-- Where the next of them begins. -/
def atC : Int → List Pc → Nat → Int
  | a, _, 0 => a
  | a, [], _ + 1 => a
  | _, p :: T, i + 1 => atC (p.to_ + 1) T i
theorem atC_zero (a : Int) (T : List Pc) : atC a T 0 = a := by cases T <;> rfl
theorem chain_at : ∀ {T : List Pc} {a t : Int}, ChainP a T t → ∀ {i : Nat} {p : Pc}, T[i]? = some p → p.fr = atC a T i ∧ p.fr ≤ p.to_ ∧ atC a T (i + 1) = p.to_ + 1
  | [], _, _, _, _, _, h => by simp at h
  | x :: T, a, t, ⟨h1, h2, h3⟩, 0, p, h => by
    simp only [List.getElem?_cons_zero, Option.some.injEq] at h
    subst h
    exact ⟨h1, by omega, by cases T <;> rfl⟩
  | x :: T, a, t, ⟨h1, h2, h3⟩, i + 1, p, h => by
    have := chain_at h3 (i := i) (p := p) (by simpa using h)
    exact this
theorem chain_end : ∀ {T : List Pc} {a t : Int}, ChainP a T t → atC a T T.length = t + 1
  | [], _, _, h => h
  | x :: T, a, t, h => by
    obtain ⟨_, _, h3⟩ := h
    have := chain_end h3
    exact this
theorem many_take : ∀ {T : List Pc} {i : Nat} {p : Pc}, T[i]? = some p → manyI (T.take (i + 1)) = manyI (T.take i) + p.items.length ∧ manyI (T.take (i + 1)) ≤ manyI T
  | [], _, _, h => by simp at h
  | x :: T, 0, p, h => by
    simp only [List.getElem?_cons_zero, Option.some.injEq] at h
    subst h
    simp [manyI]
  | x :: T, i + 1, p, h => by
    obtain ⟨h1, h2⟩ := many_take (T := T) (i := i) (p := p) (by simpa using h)
    rw [List.take_succ_cons, List.take_succ_cons, manyI, manyI, manyI]
    omega
theorem tells_nil (pub f t : Int) : tellsOf pub f t [] = [] := rfl
/-- What is told of a place. -/
theorem told_at {L : List Sp} {X : List It} {lk f t pub : Int} {P : List Pce} (hm : (0 ≤ pub ∧ pub ≤ 2) ∧ 1 ≤ f ∧ f ≤ t ∧ t ≤ 1099511627776) (hP : PiecesOf L X lk f t P) (hK : Kn L X) {i : Nat} {p : Pc} (h : (tellsOf pub f t P)[i]? = some p) :
    TellOk p ∧ p.pub = pub ∧ p.fr = atC f (tellsOf pub f t P) i ∧ p.fr ≤ p.to_ ∧ atC f (tellsOf pub f t P) (i + 1) = p.to_ + 1 ∧ 1 ≤ p.fr ∧ p.to_ ≤ 1099511627776 := by
  have hne : P ≠ [] := by
    rintro rfl
    rw [tells_nil] at h
    simp at h
  obtain ⟨c1, c2, c3, c4⟩ := pieces_in hP hK
  have hc := tells_ok hm hP.right c1 c3 hne
  obtain ⟨e1, e2⟩ := hc.each p (List.mem_of_getElem? h)
  obtain ⟨a1, a2, a3⟩ := chain_at hc.chain h
  obtain ⟨h2, h4, h5, h6⟩ := chk_tell e1.kind e1.chk
  have hr := num_to h2
  unfold rngB at hr
  simp only [decide_eq_true_eq] at hr
  exact ⟨e1, e2, a1, a2, a3, hr.1, hr.2.2⟩
theorem told_end {L : List Sp} {X : List It} {lk f t pub : Int} {P : List Pce} (hm : (0 ≤ pub ∧ pub ≤ 2) ∧ 1 ≤ f ∧ f ≤ t ∧ t ≤ 1099511627776) (hP : PiecesOf L X lk f t P) (hK : Kn L X) {n : Nat} (hn : (tellsOf pub f t P).length = n) : 0 < n → atC f (tellsOf pub f t P) n = t + 1 := by
  intro h0
  have hne : P ≠ [] := by
    rintro rfl
    rw [tells_nil] at hn
    simp at hn
    omega
  obtain ⟨c1, c2, c3, c4⟩ := pieces_in hP hK
  have hc := tells_ok hm hP.right c1 c3 hne
  rw [← hn]
  exact chain_end hc.chain
theorem Lrn.step {L : List Sp} {X : List It} {lk f t pub : Int} {P : List Pce} (hm : (0 ≤ pub ∧ pub ≤ 2) ∧ 1 ≤ f ∧ f ≤ t ∧ t ≤ 1099511627776) (hP : PiecesOf L X lk f t P) (hK : Kn L X) (hX : X.length ≤ 64) {i : Nat} {p : Pc} (h : (tellsOf pub f t P)[i]? = some p) {Lz L1 : List Sp} {Xz : List It}
    (hl : Lrn (bodP P) ((tellsOf pub f t P).take i).reverse (manyI ((tellsOf pub f t P).take i)) Lz Xz) (hj : Joins Lz p.spans L1) : Lrn (bodP P) ((tellsOf pub f t P).take (i + 1)).reverse (manyI ((tellsOf pub f t P).take (i + 1))) L1 (learnX L1 Xz p) := by
  have hne : P ≠ [] := by
    rintro rfl
    rw [tells_nil] at h
    simp at h
  obtain ⟨c1, c2, c3, c4⟩ := pieces_in hP hK
  have hc := tells_ok hm hP.right c1 c3 hne
  obtain ⟨m1, m2⟩ := many_take h
  have hmany := hc.many
  have e1 : ((tellsOf pub f t P).take (i + 1)).reverse = p :: ((tellsOf pub f t P).take i).reverse := by
    rw [List.take_add_one, h]
    simp
  rw [e1, m1]
  refine hl.more (hc.each p (List.mem_of_getElem? h)).1 (fun q hq => ?_) hj (by omega)
  obtain ⟨c, hcm, rfl, hi⟩ := itemsOf_mem (hc.from_ p (List.mem_of_getElem? h) q hq)
  obtain ⟨b1, b2, b3, b4, b5, b6, b7⟩ := RightP_every hP.right c hcm
  have ht := (b6 hi)
  unfold bodP
  rw [(piece_at hP.right c hcm c.2.tick (by omega) (by omega)).2]
theorem Lrn.zero {f t pub : Int} (P : List Pce) : Lrn (bodP P) ((tellsOf pub f t P).take 0).reverse (manyI ((tellsOf pub f t P).take 0)) [] [] := Lrn.none_ _
theorem Lrn.end_ {L : List Sp} {X : List It} {lk f t pub : Int} {P : List Pce} (hm : (0 ≤ pub ∧ pub ≤ 2) ∧ 1 ≤ f ∧ f ≤ t ∧ t ≤ 1099511627776) (hP : PiecesOf L X lk f t P) (hK : Kn L X) {N n : Nat} {Lz : List Sp} {Xz : List It} (hn : (tellsOf pub f t P).length = n) (h : Lrn (bodP P) ((tellsOf pub f t P).take n).reverse N Lz Xz) : (∀ u, kk Lz Xz u = if f ≤ u ∧ u ≤ t then seeK L X lk u else 0) ∧ ∀ u, f ≤ u → u ≤ t → ∀ q, getI (seenX lk X) u = some q → getI Xz u = some q := by
  refine Lrn.all hm hP hK h (fun p => ?_)
  rw [← hn, List.take_length, List.mem_reverse]
end Go.Proofs.YtidihfhgnjkmaaaGreat
