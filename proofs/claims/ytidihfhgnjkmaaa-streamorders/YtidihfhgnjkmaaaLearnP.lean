/- A pack of texts: St29 St30. -/
import Derived.Test.YtidihfhgnjkmaaaSt25
/- In which order parcels are learnt plays no part: plain mathematics. -/
namespace Go.Proofs.Ytidihfhgnjkmaaa

/-- What an item at a tick makes known. -/
def hasI (L : List It) (t : Int) : Int := if L.any (fun q => decide (q.tick = t)) = true then 1 else 0
/-- For whom the items of a tick are. -/
def forL (L : List It) (t : Int) : Nat := L.foldl (fun a q => if q.tick = t then a ||| q.for_.toNat else a) 0
def kOf (p : Pc) (t : Int) : Int := max (atS p.spans t) (hasI p.items t)
theorem hasI_cons (q : It) (L : List It) (t : Int) : hasI (q :: L) t = if q.tick = t then 1 else hasI L t := by
  unfold hasI
  rw [List.any_cons]
  by_cases h : q.tick = t
  · rw [if_pos h, decide_eq_true h, Bool.true_or, if_pos rfl]
  · rw [if_neg h, decide_eq_false h, Bool.false_or]
theorem hasI_range (L : List It) (t : Int) : 0 ≤ hasI L t ∧ hasI L t ≤ 1 := by
  unfold hasI
  split <;> omega
theorem steps_K : ∀ (L : List It) (K : Int → Int) (I : Int → Option It), (∀ t, 0 ≤ K t) → ∀ t, (steps K I L).1 t = max (K t) (hasI L t)
  | [], K, _, hK, t => by
    show K t = max (K t) 0
    have := hK t
    omega
  | q :: L, K, I, hK, t => by
    have hK' : ∀ u, 0 ≤ keepK K q u := fun u => by
      have := hK u
      unfold keepK
      split <;> omega
    show (steps (keepK K q) (keepI K I q) L).1 t = _
    rw [steps_K L _ _ hK' t, hasI_cons]
    have hr := hasI_range L t
    unfold keepK
    by_cases h : t = q.tick
    · rw [if_pos h, if_pos h.symm]; omega
    · rw [if_neg h, if_neg (Ne.symm h)]
/-- Items, by what is known, for whom they are, and what a tick's item says. -/
structure InvI (bod : Int → List Nat) (K : Int → Int) (I : Int → Option It) (F : Int → Nat) : Prop where
  pos : ∀ t, 0 ≤ K t
  its : ∀ t, I t = if K t = 1 then some ⟨t, (F t : Int), bod t⟩ else none
  zero : ∀ t, K t = 0 → F t = 0
theorem InvI.only {bod : Int → List Nat} {K : Int → Int} {I : Int → Option It} {F : Int → Nat} (h : InvI bod K I F) {S : Int → Int} (hS : ∀ t, S t ≠ 1) : InvI bod (fun t => max (K t) (S t)) (onlyI (fun t => max (K t) (S t)) I) F := by
  refine ⟨fun t => by have := h.pos t; show 0 ≤ max (K t) (S t); omega, fun t => ?_, fun t ht => h.zero t (by have := h.pos t; have ht : max (K t) (S t) = 0 := ht; omega)⟩
  unfold onlyI
  by_cases h1 : max (K t) (S t) = 1
  · have hk : K t = 1 := by have := hS t; have := h.pos t; omega
    rw [if_pos h1, if_pos h1, h.its t, if_pos hk]
  · rw [if_neg h1, if_neg h1]
def keepF (F : Int → Nat) (q : It) (t : Int) : Nat := if q.tick = t then F t ||| q.for_.toNat else F t
theorem InvI.keep {bod : Int → List Nat} {K : Int → Int} {I : Int → Option It} {F : Int → Nat} (h : InvI bod K I F) {q : It} (hb : q.body = bod q.tick) (hf : 0 ≤ q.for_) : InvI bod (keepK K q) (keepI K I q) (keepF F q) := by
  refine ⟨fun t => ?_, fun t => ?_, fun t ht => ?_⟩
  · have := h.pos t
    unfold keepK
    split <;> omega
  · unfold keepK keepI keepF
    by_cases ht : t = q.tick
    · subst ht
      rw [if_pos rfl, if_pos rfl, if_pos rfl]
      have hp := h.pos q.tick
      by_cases h0 : K q.tick = 0
      · rw [if_pos h0, h0, if_pos (by decide), h.zero _ h0, Nat.zero_or]
        obtain ⟨a, b, c⟩ := q
        simp only at hb hf
        rw [← hb]
        simp only [Option.some.injEq, It.mk.injEq, true_and, and_true]
        omega
      · rw [if_neg h0, h.its]
        by_cases h1 : K q.tick = 1
        · rw [if_pos h1, h1, if_pos (by decide)]
          rfl
        · rw [if_neg h1, if_neg (by omega)]
          rfl
    · rw [if_neg ht, if_neg ht, if_neg (Ne.symm ht)]
      exact h.its t
  · unfold keepK at ht
    unfold keepF
    have hp := h.pos t
    by_cases h1 : t = q.tick
    · rw [if_pos h1] at ht
      omega
    · rw [if_neg h1] at ht
      rw [if_neg (Ne.symm h1)]
      exact h.zero t ht
theorem foldF : ∀ (L : List It) (t : Int) (a : Nat), L.foldl (fun a q => if q.tick = t then a ||| q.for_.toNat else a) a = a ||| forL L t
  | [], t, a => by show a = a ||| 0; rw [Nat.or_zero]
  | q :: L, t, a => by
    unfold forL
    rw [List.foldl_cons, List.foldl_cons]
    by_cases h : q.tick = t
    · rw [if_pos h, if_pos h, foldF L t, foldF L t, Nat.zero_or, Nat.or_assoc]
    · rw [if_neg h, if_neg h, foldF L t, foldF L t, Nat.zero_or]
theorem steps_inv {bod : Int → List Nat} : ∀ (L : List It) {K : Int → Int} {I : Int → Option It} {F : Int → Nat}, InvI bod K I F → (∀ q ∈ L, q.body = bod q.tick ∧ 0 ≤ q.for_) → InvI bod (steps K I L).1 (steps K I L).2 (fun t => F t ||| forL L t)
  | [], _, _, F, h, _ => by
    have e : (fun t => F t ||| forL [] t) = F := funext fun t => Nat.or_zero _
    rw [e]
    exact h
  | q :: L, K, I, F, h, hL => by
    have hq := hL q (List.mem_cons_self ..)
    have := steps_inv L (h.keep hq.1 hq.2) fun p hp => hL p (List.mem_cons_of_mem _ hp)
    have e : (fun t => keepF F q t ||| forL L t) = fun t => F t ||| forL (q :: L) t := funext fun t => by
      unfold keepF forL
      rw [List.foldl_cons]
      by_cases h1 : q.tick = t
      · rw [if_pos h1, if_pos h1, foldF L t (0 ||| _), Nat.zero_or, Nat.or_assoc]
        rfl
      · rw [if_neg h1, if_neg h1]
    rw [e] at this
    exact this
/-- A parcel more. -/
theorem learn_inv {bod : Int → List Nat} {K : Int → Int} {I : Int → Option It} {F : Int → Nat} (h : InvI bod K I F) {p : Pc} (hp : TellOk p) (hb : ∀ q ∈ p.items, q.body = bod q.tick) : InvI bod (learnK K I p) (learnI K I p) (fun t => F t ||| forL p.items t) ∧ ∀ t, learnK K I p t = max (K t) (kOf p t) := by
  have h1 := h.only hp.quiet
  refine ⟨steps_inv p.items h1 fun q hq => ⟨hb q hq, (hp.each q hq).2.1.1⟩, fun t => ?_⟩
  unfold learnK kOf
  rw [steps_K _ _ _ h1.pos t]
  omega
/-- What parcels make known, and for whom they have items. -/
def supK : List Pc → Int → Int
  | [], _ => 0
  | p :: r, t => max (kOf p t) (supK r t)
def supF : List Pc → Int → Nat
  | [], _ => 0
  | p :: r, t => forL p.items t ||| supF r t
theorem supK_le : ∀ (P : List Pc) (t k : Int), 0 < k → (k ≤ supK P t ↔ ∃ p ∈ P, k ≤ kOf p t)
  | [], t, k, hk => by
    show k ≤ 0 ↔ _
    simp
    omega
  | p :: r, t, k, hk => by
    show k ≤ max (kOf p t) (supK r t) ↔ _
    have ih := supK_le r t k hk
    constructor
    · intro h
      by_cases h1 : k ≤ kOf p t
      · exact ⟨p, List.mem_cons_self .., h1⟩
      · obtain ⟨q, hq, h2⟩ := ih.1 (by omega)
        exact ⟨q, List.mem_cons_of_mem _ hq, h2⟩
    · rintro ⟨q, hq, h2⟩
      rcases List.mem_cons.1 hq with rfl | hq
      · omega
      · have := ih.2 ⟨q, hq, h2⟩
        omega
theorem supK_pos : ∀ (P : List Pc) (t : Int), 0 ≤ supK P t
  | [], _ => Int.le_refl _
  | p :: r, t => by
    show 0 ≤ max (kOf p t) (supK r t)
    have := supK_pos r t
    omega
theorem supF_bit : ∀ (P : List Pc) (t : Int) (i : Nat), (supF P t).testBit i = true ↔ ∃ p ∈ P, (forL p.items t).testBit i = true
  | [], t, i => by simp [supF]
  | p :: r, t, i => by
    show ((forL p.items t ||| supF r t).testBit i = true) ↔ _
    rw [Nat.testBit_or, Bool.or_eq_true, supF_bit r t i]
    constructor
    · rintro (h | ⟨q, hq, h⟩)
      · exact ⟨p, List.mem_cons_self .., h⟩
      · exact ⟨q, List.mem_cons_of_mem _ hq, h⟩
    · rintro ⟨q, hq, h⟩
      rcases List.mem_cons.1 hq with rfl | hq
      · exact .inl h
      · exact .inr ⟨q, hq, h⟩
/-- Which parcels there are is all. -/
theorem supK_same {P Q : List Pc} (h : ∀ p, p ∈ P ↔ p ∈ Q) (t : Int) : supK P t = supK Q t := by
  have h1 : ∀ k, 0 < k → (k ≤ supK P t ↔ k ≤ supK Q t) := fun k hk => by
    rw [supK_le P t k hk, supK_le Q t k hk]
    exact ⟨fun ⟨p, hp, h2⟩ => ⟨p, (h p).1 hp, h2⟩, fun ⟨p, hp, h2⟩ => ⟨p, (h p).2 hp, h2⟩⟩
  have hp := supK_pos P t
  have hq := supK_pos Q t
  by_cases a : supK P t = 0
  · by_cases b : supK Q t = 0
    · omega
    · have := (h1 (supK Q t) (by omega)).2 (Int.le_refl _)
      omega
  · have c := (h1 (supK P t) (by omega)).1 (Int.le_refl _)
    have d := (h1 (supK Q t) (by omega)).2 (Int.le_refl _)
    omega
theorem supF_same {P Q : List Pc} (h : ∀ p, p ∈ P ↔ p ∈ Q) (t : Int) : supF P t = supF Q t := by
  refine Nat.eq_of_testBit_eq fun i => ?_
  rw [Bool.eq_iff_iff, supF_bit P t i, supF_bit Q t i]
  exact ⟨fun ⟨p, hp, h2⟩ => ⟨p, (h p).1 hp, h2⟩, fun ⟨p, hp, h2⟩ => ⟨p, (h p).2 hp, h2⟩⟩
/-- A stream that has learnt these parcels, in whatever order. -/
structure Learnt (bod : Int → List Nat) (P : List Pc) (K : Int → Int) (I : Int → Option It) : Prop where
  inv : InvI bod K I (supF P)
  know : ∀ t, K t = supK P t
theorem Learnt.none_ (bod : Int → List Nat) : Learnt bod [] (fun _ => 0) (fun _ => none) := ⟨⟨fun _ => Int.le_refl _, fun t => by rw [if_neg (by decide)], fun _ _ => rfl⟩, fun _ => rfl⟩
theorem Learnt.more {bod : Int → List Nat} {P : List Pc} {K : Int → Int} {I : Int → Option It} (h : Learnt bod P K I) {p : Pc} (hp : TellOk p) (hb : ∀ q ∈ p.items, q.body = bod q.tick) : Learnt bod (p :: P) (learnK K I p) (learnI K I p) := by
  obtain ⟨h1, h2⟩ := learn_inv h.inv hp hb
  have e : (fun t => supF P t ||| forL p.items t) = supF (p :: P) := funext fun t => Nat.or_comm _ _
  rw [e] at h1
  refine ⟨h1, fun t => ?_⟩
  rw [h2 t, h.know t]
  show max _ _ = max (kOf p t) (supK P t)
  omega
/-- Two streams that have learnt the same know the same. -/
theorem Learnt.same {bod : Int → List Nat} {P Q : List Pc} {K K2 : Int → Int} {I I2 : Int → Option It} (h : Learnt bod P K I) (h2 : Learnt bod Q K2 I2) (hm : ∀ p, p ∈ P ↔ p ∈ Q) : (∀ t, K t = K2 t) ∧ ∀ t, I t = I2 t := by
  have hk : ∀ t, K t = K2 t := fun t => by rw [h.know, h2.know, supK_same hm]
  refine ⟨hk, fun t => ?_⟩
  rw [h.inv.its, h2.inv.its, hk, supF_same hm]
/-- What has been learnt already changes nothing. -/
theorem Learnt.again {bod : Int → List Nat} {P : List Pc} {K : Int → Int} {I : Int → Option It} (h : Learnt bod P K I) {p : Pc} (hp : TellOk p) (hb : ∀ q ∈ p.items, q.body = bod q.tick) (hm : p ∈ P) : (∀ t, learnK K I p t = K t) ∧ ∀ t, learnI K I p t = I t :=
  (h.more hp hb).same h fun _ => ⟨fun hq => (List.mem_cons.1 hq).elim (fun e => e ▸ hm) id, fun hq => List.mem_cons_of_mem _ hq⟩
end Go.Proofs.Ytidihfhgnjkmaaa
/- Tells that may be; their bodies turned. -/
namespace Go.Proofs.Ytidihfhgnjkmaaa

theorem atS_no1 : ∀ (l : List Sp), (∀ s ∈ l, s.is ≠ 1) → ∀ t, atS l t ≠ 1
  | [], _, _ => by show (0 : Int) ≠ 1; omega
  | s :: l, h, t => by
    rw [atS]
    split
    · exact h s (List.mem_cons_self ..)
    · exact atS_no1 l (fun x hx => h x (List.mem_cons_of_mem _ hx)) t
theorem itE_each {p : Pc} : ∀ (L : List It) (least : Int), itE p least L = 0 → ∀ q ∈ L, (least ≤ q.tick ∧ q.tick ≤ p.to_) ∧ q.body.length ≤ 400
  | [], _, _, q, hq => by cases hq
  | x :: L, least, h, q, hq => by
    by_cases h1 : x.tick < least ∨ p.to_ < x.tick ∨ atS p.spans x.tick ≠ 0
    · rw [itE_tick h1] at h; cases h
    · by_cases h2 : 400 < x.body.length
      · rw [itE_long h1 h2] at h; cases h
      · rw [itE_next h1 h2] at h
        rcases List.mem_cons.1 hq with rfl | hq
        · exact ⟨⟨by omega, by omega⟩, by omega⟩
        · have := itE_each L (x.tick + 1) h q hq
          exact ⟨⟨by omega, this.1.2⟩, this.2⟩
/-- What a Tell that may be is. -/
theorem chk_tell {p : Pc} (hk : p.kind = 1) (hc : chk p = 0) : numB p false true true = true ∧ ¬ (32 < p.spans.length ∨ 8 < p.items.length) ∧ spB p = true ∧ itE p p.fr p.items = 0 := by
  have h1 : isB p.kind = true := by rw [hk]; rfl
  have e1 : subB p.kind = false := by rw [hk]; rfl
  have e2 : fromB p.kind = true := by rw [hk]; rfl
  have e3 : toB p.kind = true := by rw [hk]; rfl
  have e4 : newsB p.kind = true := by rw [hk]; rfl
  have h2 : numB p (subB p.kind) (fromB p.kind) (toB p.kind) = true := by
    cases hx : numB p (subB p.kind) (fromB p.kind) (toB p.kind) with
    | true => rfl
    | false => rw [chk_arg h1 hx] at hc; cases hc
  have h4 : ¬ (32 < p.spans.length ∨ 8 < p.items.length) := fun h => by rw [chk_many h1 h2 e4 h] at hc; cases hc
  have h5 : spB p = true := by
    cases hx : spB p with
    | true => rfl
    | false => rw [chk_form h1 h2 e4 h4 hx] at hc; cases hc
  rw [chk_items h1 h2 e4 h4 h5] at hc
  rw [e1, e2, e3] at h2
  exact ⟨h2, h4, h5, hc⟩
theorem tellOk_of {p : Pc} (hk : p.kind = 1) (hc : chk p = 0) (hf : ∀ q ∈ p.items, 0 ≤ q.for_ ∧ q.for_ ≤ 4294967295) : TellOk p := by
  obtain ⟨h2, h4, h5, h6⟩ := chk_tell hk hc
  have hr := num_to h2
  unfold rngB at hr
  simp only [decide_eq_true_eq] at hr
  unfold spB at h5
  rw [Bool.and_eq_true] at h5
  refine ⟨hk, hc, (rightB_iff _ _).1 h5.2, atS_no1 _ fun s hs => ?_, fun q hq => ?_⟩
  · have := List.all_eq_true.1 h5.1 s hs
    unfold inB at this
    simp only [decide_eq_true_eq] at this
    omega
  · have := itE_each _ _ h6 q hq
    exact ⟨by omega, hf q hq, this.2⟩
/-- What an item of a tick says. -/
def bod (t : Int) : List Nat := [(t % 256).toNat, (t / 256 % 256).toNat]
def turnI (q : It) : It := ⟨q.tick, q.for_, bod q.tick⟩
def turnP (p : Pc) : Pc := ⟨p.kind, p.pub, p.sub, p.n_, p.fr, p.to_, p.spans, p.items.map turnI⟩
theorem itE_turn {p : Pc} : ∀ (L : List It) (least : Int), itE p least L = 0 → itE (turnP p) least (L.map turnI) = 0
  | [], _, h => h
  | x :: L, least, h => by
    by_cases h1 : x.tick < least ∨ p.to_ < x.tick ∨ atS p.spans x.tick ≠ 0
    · rw [itE_tick h1] at h; cases h
    · by_cases h2 : 400 < x.body.length
      · rw [itE_long h1 h2] at h; cases h
      · rw [itE_next h1 h2] at h
        rw [List.map_cons, itE_next (p := turnP p) (q := turnI x) h1 (by show ¬ 400 < 2; omega)]
        exact itE_turn L (x.tick + 1) h
theorem turn_chk {p : Pc} (hk : p.kind = 1) (hc : chk p = 0) : chk (turnP p) = 0 := by
  obtain ⟨h2, h4, h5, h6⟩ := chk_tell hk hc
  have h1 : isB (turnP p).kind = true := by show isB p.kind = true; rw [hk]; rfl
  have e4 : newsB (turnP p).kind = true := by show newsB p.kind = true; rw [hk]; rfl
  have h2' : numB (turnP p) (subB (turnP p).kind) (fromB (turnP p).kind) (toB (turnP p).kind) = true := by
    show numB p (subB p.kind) (fromB p.kind) (toB p.kind) = true
    rw [hk]
    exact h2
  have h4' : ¬ (32 < (turnP p).spans.length ∨ 8 < (turnP p).items.length) := by
    show ¬ (32 < p.spans.length ∨ 8 < (p.items.map turnI).length)
    rw [List.length_map]
    exact h4
  rw [chk_items h1 h2' e4 h4' h5]
  exact itE_turn p.items p.fr h6
theorem turn_ok {p : Pc} (hk : p.kind = 1) (hc : chk p = 0) (hf : ∀ q ∈ p.items, 0 ≤ q.for_ ∧ q.for_ ≤ 4294967295) : TellOk (turnP p) ∧ ∀ q ∈ (turnP p).items, q.body = bod q.tick := by
  refine ⟨tellOk_of hk (turn_chk hk hc) fun q hq => ?_, fun q hq => ?_⟩
  · obtain ⟨x, hx, rfl⟩ := List.mem_map.1 hq
    exact hf x hx
  · obtain ⟨x, hx, rfl⟩ := List.mem_map.1 hq
    rfl
end Go.Proofs.Ytidihfhgnjkmaaa
