/- grapevineref12: Advance. -/
import Derived.Test.YteiadaonihgbfaaDoorWhR2
import Derived.Deep.Cut
namespace Go.Proofs.YteiadaonihgbfaaDoor
open Go.RowKit

/-- What has been told so far: sorted, due, and ahead of all others that are due. -/
structure AdvI (T : Nat → Option Nat) (to : Nat) (L : List Nat) : Prop where
  pw : L.Pairwise (ltD (dT T))
  sub : ∀ x ∈ L, Due T to x
  low : ∀ x ∈ L, ∀ y, Due T to y → y ∉ L → ltD (dT T) x y
/-- Timers but for those that were told. -/
def lessT (T : Nat → Option Nat) (L : List Nat) (i : Nat) : Option Nat := if i + 1 ∈ L then none else T i
/-- The first one of those above a number, 0 if there is none. -/
def Best (T : Nat → Option Nat) (to : Nat) (L : List Nat) (id f : Nat) : Prop := (f = 0 ∧ ∀ y, id < y → Due T to y → y ∈ L) ∨ (id < f ∧ Due T to f ∧ f ∉ L ∧ ∀ y, id < y → Due T to y → y ∉ L → y = f ∨ ltD (dT T) f y)
theorem Best.no {T : Nat → Option Nat} {to : Nat} {L : List Nat} {x f : Nat} (h : Best T to L (x + 1) f) (hx : ¬ Due T to (x + 1) ∨ x + 1 ∈ L ∨ (1 ≤ f ∧ dT T f < dT T (x + 1))) : Best T to L x f := by
  rcases h with ⟨h1, h2⟩ | ⟨h1, h2, h3, h4⟩
  · refine .inl ⟨h1, fun y hy hd => ?_⟩
    by_cases c : y = x + 1
    · subst c
      rcases hx with hx | hx | hx
      · exact absurd hd hx
      · exact hx
      · omega
    · exact h2 y (by omega) hd
  · refine .inr ⟨by omega, h2, h3, fun y hy hd hn => ?_⟩
    by_cases c : y = x + 1
    · subst c
      rcases hx with hx | hx | hx
      · exact absurd hd hx
      · exact absurd hx hn
      · exact .inr (.inl hx.2)
    · exact h4 y (by omega) hd hn
theorem Best.yes {T : Nat → Option Nat} {to : Nat} {L : List Nat} {x f : Nat} (h : Best T to L (x + 1) f) (hd : Due T to (x + 1)) (hn : x + 1 ∉ L) (hf : f = 0 ∨ dT T (x + 1) ≤ dT T f) : Best T to L x (x + 1) := by
  refine .inr ⟨by omega, hd, hn, fun y hy hd2 hn2 => ?_⟩
  by_cases c : y = x + 1
  · exact .inl c
  · right
    rcases h with ⟨h1, h2⟩ | ⟨h1, h2, h3, h4⟩
    · exact absurd (h2 y (by omega) hd2) hn2
    · have hf2 : dT T (x + 1) ≤ dT T f := by
        rcases hf with hf | hf
        · have := h2.1; omega
        · exact hf
      have k1 : ltD (dT T) (x + 1) f := by unfold ltD; omega
      rcases h4 y (by omega) hd2 hn2 with rfl | k2
      · exact k1
      · unfold ltD at k1 k2 ⊢
        omega
theorem AdvI.more {T : Nat → Option Nat} {to : Nat} {L : List Nat} {f : Nat} (h : AdvI T to L) (hd : Due T to f) (hn : f ∉ L) (hb : ∀ y, Due T to y → y ∉ L → y = f ∨ ltD (dT T) f y) : AdvI T to (L ++ [f]) := by
  refine ⟨List.pairwise_append.2 ⟨h.pw, by simp, fun a ha b hb2 => ?_⟩, fun x hx => ?_, fun x hx y hy hny => ?_⟩
  · rw [List.mem_singleton] at hb2
    subst hb2
    exact h.low a ha _ hd hn
  · rcases List.mem_append.1 hx with hx | hx
    · exact h.sub x hx
    · rw [List.mem_singleton] at hx; subst hx; exact hd
  · rw [List.mem_append, List.mem_singleton, not_or] at hny
    rcases List.mem_append.1 hx with hx | hx
    · exact h.low x hx y hy hny.1
    · rw [List.mem_singleton] at hx
      subst hx
      exact (hb y hy hny.1).resolve_left hny.2
theorem filter_lt {l : List Nat} {p q : Nat → Bool} (hpq : ∀ x, q x = true → p x = true) {x0 : Nat} (h0 : x0 ∈ l) (hp : p x0 = true) (hq : q x0 = false) : (l.filter q).length < (l.filter p).length := by
  have le : ∀ l : List Nat, (l.filter q).length ≤ (l.filter p).length := fun l => by
    induction l with
    | nil => exact Nat.le_refl _
    | cons a t ih =>
      rw [List.filter_cons, List.filter_cons]
      cases hqa : q a with
      | true => rw [if_pos rfl, if_pos (hpq a hqa), List.length_cons, List.length_cons]; omega
      | false =>
        rw [if_neg (by decide)]
        split
        · rw [List.length_cons]; omega
        · exact ih
  induction l with
  | nil => cases h0
  | cons a t ih =>
    rw [List.filter_cons, List.filter_cons]
    by_cases ha : x0 = a
    · subst ha
      rw [hq, if_neg (by decide), if_pos hp, List.length_cons]
      have := le t
      omega
    · have hx : x0 ∈ t := by
        rcases List.mem_cons.1 h0 with e | e
        · exact absurd e ha
        · exact e
      have := ih hx
      cases hqa : q a with
      | true => rw [if_pos rfl, if_pos (hpq a hqa), List.length_cons, List.length_cons]; omega
      | false =>
        rw [if_neg (by decide)]
        split
        · rw [List.length_cons]; omega
        · exact this
theorem ids_fewer {T T' : Nat → Option Nat} {k : Nat} (hk : k < 64) (h1 : (T k).isSome = true) (h2 : T' k = none) (h3 : ∀ i, (T' i).isSome = true → (T i).isSome = true) : (idsT T').length < (idsT T).length := by
  unfold idsT
  rw [List.length_map, List.length_map]
  exact filter_lt h3 (List.mem_range.2 hk) h1 (by rw [h2]; rfl)
theorem ids_le (T : Nat → Option Nat) : (idsT T).length ≤ 64 := by
  unfold idsT
  rw [List.length_map]
  have := List.length_filter_le (fun i => (T i).isSome) (List.range 64)
  rw [List.length_range] at this
  exact this
def lenV : Value → Nat
  | .slice _ n _ => n
  | _ => 0
theorem own_n {w : World} {base n c : Nat} {a : Option Addr} {l : List Nat} (h : w.ownsRow base 3 1 (.slice a n c) l.length (vi l)) : n = l.length := by
  rcases h.2 with ⟨h3, h4⟩ | ⟨_, _, _, h3, _⟩
  · simp only [Value.slice.injEq] at h3; omega
  · simp only [Value.slice.injEq] at h3; exact h3.2.1
theorem due_at {T : Nat → Option Nat} {r : Rf} {L : List Nat} {to y : Nat} (hT : ∀ i, i < 64 → lessT T L i = tR r i) (hy : 1 ≤ y ∧ y ≤ 64) : (r.there.getD y false = true → y ∉ L ∧ T (y - 1) = some (r.whn.getD y 0)) ∧ (r.there.getD y false = false → ¬ Due T to y ∨ y ∈ L) := by
  have h := hT (y - 1) (by omega)
  unfold lessT tR at h
  rw [show y - 1 + 1 = y from by omega] at h
  constructor
  · intro e
    rw [if_pos e] at h
    split at h
    · cases h
    · rename_i hn; exact ⟨hn, h⟩
  · intro e
    have e' : ¬ r.there.getD y false = true := by rw [e]; decide
    rw [if_neg e'] at h
    split at h
    · rename_i hin; exact .inr hin
    · left
      rintro ⟨_, _, d, hd, _⟩
      rw [h] at hd
      cases hd

set_option maxRecDepth 100000 in
set_option maxHeartbeats 16000000 in
theorem ref_Advance (w : World) (h n : Nat) (T : Nat → Option Nat) (to : Nat) (hr : RW w h n T) (h1 : n ≤ to) (h2 : to ≤ 1099511627776) :
    Calls Tryd.prog 38 #[.pointer (some ⟨h, 0, none⟩), .int .i64 (to : Int)] w fun e w' => ∃ v, e = .returned (.tuple #[v, .int .i64 0]) ∧ Hid (RW w' h to (advT T to)) ∧ Hid (∃ L, w'.ownsRow w.heap.size 3 1 v L.length (vi L) ∧ Told T to L) ∧ w.grownBy w' (some h) := by
  obtain ⟨r, r1, r2, r3⟩ := hr
  have c0 := r1.now_cell
  rw [r2] at c0
  have f0 : w.frozen? ⟨h, 0, none⟩ = false := r1.free 0
  have g1 : ¬ (to : Int) < (n : Int) := by omega
  have g2 : ¬ (1099511627776 : Int) < (to : Int) := by omega
  obtain ⟨w1, HW1⟩ : ∃ w1, Hid (w1 = w.setCell ⟨h, 0, none⟩ (.int .i64 (to : Int))) := ⟨_, rfl⟩
  obtain ⟨w2, HW2⟩ : ∃ w2, Hid (w2 = w1.alloc (.cells #[] 3)) := ⟨_, rfl⟩
  have HSZ : Hid (w1.heap.size = w.heap.size) := by (show _ = _); rw [HW1.out]; simp
  have HG1 : Hid (w.grownBy w1 (some h)) := by (show World.grownBy _ _ _); rw [HW1.out]; exact grown_cell _ _ _ _
  have HG2 : Hid (w.grownBy w2 (some h)) := by (show World.grownBy _ _ _); rw [HW2.out]; exact grown_trans HG1.out (grown_below h (below_alloc _ _))
  have HR2 : Hid (Rw w2 h { r with now := to }) := by
    (show Rw _ _ _)
    rw [HW2.out, HW1.out]
    exact (r1.set_now h2).stay (below_alloc _ _)
  have HO2 : Hid (w2.ownsRow w.heap.size 3 1 (.slice (some ⟨w.heap.size, 0, none⟩) 0 0) ([] : List Nat).length (vi [])) := by
    rw [HW2.out]
    have h3 := own_none w1 w.heap.size (by rw [HSZ.out]; exact Nat.le_refl _)
    rw [HSZ.out] at h3
    exact h3
  have HT0 : Hid (∀ i, i < 64 → lessT T [] i = tR { r with now := to } i) := fun i hi => by unfold lessT; rw [if_neg (by simp)]; exact r3 i hi
  have HHL : Hid (h < w.heap.size) := r1.blk.lt
  clear r1 r2 r3
  go_enter Tryd.func38, Tryd.ntmps38
  go_wp2
  rw [← HW1.out, ← HW2.out]
  clear c0 f0
  go_loopw [6] (fun t6 wr => ∃ (v6 : Value) (L : List Nat) (r' : Rf), v6 = t6 ∧ Hid (lenV v6 = L.length) ∧ Hid (wr.ownsRow w.heap.size 3 1 v6 L.length (vi L)) ∧ Hid (Rw wr h r' ∧ r'.now = to ∧ ∀ i, i < 64 → lessT T L i = tR r' i) ∧ Hid (AdvI T to L ∧ L.length + (idsT (lessT T L)).length ≤ 64) ∧ Hid (w.grownBy wr (some h))) (fun t6 _ => 64 - lenV t6)
  case atStart => exact ⟨_, [], _, rfl, rfl, HO2, ⟨HR2.out, rfl, HT0.out⟩, ⟨⟨List.Pairwise.nil, fun x hx => (by cases hx), fun x hx => (by cases hx)⟩, by have := ids_le (lessT T []); simpa using this⟩, HG2⟩
  case round =>
    obtain ⟨v6, L, r', rfl, HLV, HO, HR, HA, HG⟩ := hrel
    obtain ⟨W, hW⟩ : ∃ W, W = wr := ⟨_, rfl⟩
    rw [← hW] at HO HR HG ⊢
    clear hW
    obtain ⟨a6, n6, c6, rfl⟩ := own_slice HO.out
    go_wp2
    go_loopw [7, 8] (fun t7 t8 wr => ∃ (f x q : Nat), f ≤ 64 ∧ x ≤ 64 ∧ t7 = .int .i64 (f : Int) ∧ t8 = .int .i64 (x : Int) ∧ Hid (Best T to L x f) ∧ wr = W.drewN q) (fun _ t8 _ => (intOf t8).toNat)
    case atStart => exact ⟨0, 64, 0, by omega, by omega, rfl, rfl, .inl ⟨rfl, fun y hy hd => (by have := hd.2.1; omega)⟩, rfl⟩
    case round =>
      obtain ⟨f, x, q, hf64, hx64, rfl, rfl, HB, hwr⟩ := hrel
      have HWR : Hid (wr = W.drewN q) := hwr
      have HRr : Hid (Rw wr h r') := by (show Rw _ _ _); rw [hwr]; exact HR.out.1.stay (below_drews (Below.refl _ _) q)
      clear hwr
      by_cases hx0 : x = 0
      · subst hx0
        by_cases hf0 : f = 0
        · subst hf0
          have HF : Hid (RW wr h to (advT T to)) := by
            refine ⟨r', HRr.out, HR.out.2.1, fun i hi => ?_⟩
            rw [← HR.out.2.2 i hi]
            unfold lessT advT
            have hb : ∀ y, Due T to y → y ∈ L := fun y hd => by
              rcases HB.out with ⟨_, hb⟩ | ⟨hb, _⟩
              · exact hb y (by have := hd.1; omega) hd
              · omega
            by_cases hin : i + 1 ∈ L
            · obtain ⟨_, _, d, hd1, hd2⟩ := HA.out.1.sub _ hin
              rw [show i + 1 - 1 = i from by omega] at hd1
              rw [if_pos hin, hd1]
              simp only [if_pos hd2]
            · rw [if_neg hin]
              cases hTi : T i with
              | none => rfl
              | some d =>
                by_cases c2 : d ≤ to
                · exact absurd (hb (i + 1) ⟨by omega, by omega, d, by rw [show i + 1 - 1 = i from by omega]; exact hTi, c2⟩) hin
                · simp only [if_neg c2]
          have HL : Hid (∃ L, wr.ownsRow w.heap.size 3 1 (.slice a6 n6 c6) L.length (vi L) ∧ Told T to L) := by
            refine ⟨L, by rw [HWR.out]; exact own_stay HO.out (fun _ _ => rfl), HA.out.1.pw, fun y => ⟨HA.out.1.sub y, fun hd => ?_⟩⟩
            rcases HB.out with ⟨_, hb⟩ | ⟨hb, _⟩
            · exact hb y (by have := hd.1; omega) hd
            · omega
          have HGF : Hid (w.grownBy wr (some h)) := by (show World.grownBy _ _ _); rw [HWR.out]; exact grown_drews HG.out q
          go_wp2
          go_returns
          exact ⟨_, rfl, HF, HL, HGF.out⟩
        · have hf0' : ((f : Int) == 0) = false := by rw [beq_eq_false_iff_ne]; omega
          have hbf : Due T to f ∧ f ∉ L ∧ ∀ y, Due T to y → y ∉ L → y = f ∨ ltD (dT T) f y := by
            rcases HB.out with ⟨hb, _⟩ | ⟨_, hb2, hb3, hb4⟩
            · exact absurd hb hf0
            · exact ⟨hb2, hb3, fun y hy hn => hb4 y (by have := hy.1; omega) hy hn⟩
          have HBF : Hid (Due T to f ∧ f ∉ L ∧ ∀ y, Due T to y → y ∉ L → y = f ∨ ltD (dT T) f y) := hbf
          have h5 : (0 : Int) ≤ (f : Int) := by omega
          have h6 : (f : Int) < 65 := by omega
          have c1 := HRr.out.there_cell (i := f) (by omega)
          have f1 : wr.frozen? ⟨h, 1 + f, none⟩ = false := HRr.out.free _
          obtain ⟨w3, HW3⟩ : ∃ w3, Hid (w3 = wr.setCell ⟨h, 1 + f, none⟩ (.bool false)) := ⟨_, rfl⟩
          have HG3 : Hid (w.grownBy w3 (some h)) := by (show World.grownBy _ _ _); rw [HW3.out, HWR.out]; exact grown_trans (grown_drews HG.out q) (grown_cell _ _ _ _)
          have HR3 : Hid (Rw w3 h { r' with there := r'.there.set f false }) := by (show Rw _ _ _); rw [HW3.out]; exact HRr.out.set_there (by omega) false
          have HO3 : Hid (w3.ownsRow w.heap.size 3 1 (.slice a6 n6 c6) L.length (vi L)) := by
            refine own_stay HO.out (fun k hk => ?_)
            rw [HW3.out, heap_setCell_other _ _ _ _ (by have := (HO.out.lt k hk).1; have := HHL.out; show k ≠ h; omega), HWR.out]
            rfl
          have hlt3 : ∀ i, lessT T (L ++ [f]) i = if i = f - 1 then none else lessT T L i := fun i => by
            have := HBF.out.1.1
            unfold lessT
            by_cases c : i = f - 1
            · rw [if_pos c, if_pos (by rw [List.mem_append, List.mem_singleton]; right; omega)]
            · rw [if_neg c]
              by_cases c2 : i + 1 ∈ L
              · rw [if_pos c2, if_pos (by simp [c2])]
              · rw [if_neg c2, if_neg (by rw [List.mem_append, List.mem_singleton, not_or]; exact ⟨c2, by omega⟩)]
          have HT3 : Hid (∀ i, i < 64 → lessT T (L ++ [f]) i = tR { r' with there := r'.there.set f false } i) := fun i hi => by
            have h01 := HBF.out.1.1
            rw [hlt3]
            unfold tR
            show _ = if (r'.there.set f false).getD (i + 1) false = true then some (r'.whn.getD (i + 1) 0) else none
            rw [getDb_set _ _ _ _ (by rw [HRr.out.tl]; omega)]
            by_cases c : i = f - 1
            · have c' : i + 1 = f := by omega
              rw [if_pos c, if_pos c']
              rfl
            · have c' : ¬ (i + 1 = f) := by omega
              rw [if_neg c, if_neg c', HR.out.2.2 i hi]
              rfl
          have HA3 : Hid (AdvI T to (L ++ [f]) ∧ (L ++ [f]).length + (idsT (lessT T (L ++ [f]))).length ≤ 64) := by
            obtain ⟨q1, q2, d, q3, q4⟩ := HBF.out.1
            refine ⟨HA.out.1.more HBF.out.1 HBF.out.2.1 HBF.out.2.2, ?_⟩
            have := ids_fewer (T := lessT T L) (T' := lessT T (L ++ [f])) (k := f - 1) (by omega) (by unfold lessT; rw [show f - 1 + 1 = f from by omega, if_neg HBF.out.2.1, q3]; rfl) (by rw [hlt3, if_pos rfl]) (fun i hi => by
              rw [hlt3] at hi
              split at hi
              · cases hi
              · exact hi)
            have h64 := HA.out.2
            rw [List.length_append, List.length_singleton]
            omega
          have HLN : Hid (L.length < 64) := by
            have := HA3.out.2
            rw [List.length_append, List.length_singleton] at this
            (show _ < _)
            omega
          obtain ⟨i0, hi0, hz0, hz1, hz2⟩ := info_parts infoInt
          have HOA : Hid ((w3.alloc (.cells #[.int .i64 (f : Int)] 3)).ownsRow w.heap.size 3 1 (.slice a6 n6 c6) L.length (vi L)) := own_stay HO3.out (fun j hj => (below_alloc w3 (.cells #[.int .i64 (f : Int)] 3)).block j (HO3.out.lt j hj).2)
          have HGA : Hid (w.grownBy (w3.alloc (.cells #[.int .i64 (f : Int)] 3)) (some h)) := grown_trans HG3.out (grown_below h (below_alloc _ _))
          have HRA : Hid (Rw (w3.alloc (.cells #[.int .i64 (f : Int)] 3)) h { r' with there := r'.there.set f false }) := HR3.out.stay (below_alloc _ _)
          have HNEW : Hid (∀ j u, [Value.int .i64 (f : Int)][j]? = some u → (w3.alloc (.cells #[.int .i64 (f : Int)] 3)).cell? ((⟨w3.heap.size, 0, none⟩ : Addr).add j) = some u) := fun j u hj => by
            have e : (⟨w3.heap.size, 0, none⟩ : Addr).add j = ⟨w3.heap.size, 0 + j, none⟩ := by unfold Addr.add; split <;> simp_all
            rw [e, Nat.zero_add]
            exact (Blk.new w3 #[.int .i64 (f : Int)] 3).cell j (by simpa using hj)
          clear hbf hlt3
          go_upto_region 16 with fail
          rw [← HW3.out]
          clear c1 f1
          go_wp2_with (guard_target =~ wpList _ _ _ (Oper.mk (some 77) _ _ _ _ _ :: _) _ _; refine wpList_append_own _ rfl (.tmp 74) (.tmp 76) 40 rfl w.heap.size 3 i0 (.int .i64 0) 1 8 Tryd.underlying40 hi0 hz0 hz1 hz2 (by rfl) (by decide) (.slice a6 n6 c6) L.length (vi L) rfl HOA.out ⟨w3.heap.size, 0, none⟩ 1 1 [.int .i64 (f : Int)] rfl rfl HNEW.out (by simp [Value.oneCell']) (by have := HLN.out; unfold maxLen; omega) (by have := HLN.out; omega) HGA.out.size ?_)
          intro v' w5 ho hg hnn
          obtain ⟨a5, n5, c5, rfl⟩ := own_slice ho
          have HO5 : Hid (w5.ownsRow w.heap.size 3 1 (.slice a5 n5 c5) (L ++ [f]).length (vi (L ++ [f]))) := by
            show w5.ownsRow _ _ _ _ _ _
            have e : vi (L ++ [f]) = vi L ++ [.int .i64 (f : Int)] := by
              unfold vi
              rw [List.map_append, List.map_cons, List.map_nil]
            rw [e, List.length_append, List.length_singleton]
            exact ho
          have hnl := own_n HO5.out
          have HLV5 : Hid (lenV (.slice a5 n5 c5) = (L ++ [f]).length) := hnl
          have HROW : Hid (∀ k, (Value.slice a6 n6 c6).ownBlock = some k → h ≠ k) := fun k hk => by have := (HOA.out.lt k hk).1; have := HHL.out; omega
          have HR5 : Hid (Rw w5 h { r' with there := r'.there.set f false } ∧ ({ r' with there := r'.there.set f false } : Rf).now = to ∧ ∀ i, i < 64 → lessT T (L ++ [f]) i = tR { r' with there := r'.there.set f false } i) :=
            ⟨⟨HRA.out.blk.grown hg (fun e => HROW.out h e.symm rfl), HRA.out.tl, HRA.out.wl, HRA.out.nw, HRA.out.ww⟩, HR.out.2.1, HT3.out⟩
          have HG5 : Hid (w.grownBy w5 (some h)) := ⟨hg.os.trans HGA.out.os, hg.tape.trans HGA.out.tape, hg.output.trans HGA.out.output, Nat.le_trans HGA.out.size hg.size, fun k hk hn => (hg.block k (Nat.lt_of_lt_of_le hk HGA.out.size) (fun e => by have := (HOA.out.lt k e.symm).1; omega)).trans (HGA.out.block k hk hn)⟩
          have HLV0 : Hid (n6 = L.length ∧ n5 = L.length + 1) := ⟨own_n HO.out, by rw [hnl, List.length_append, List.length_singleton]⟩
          clear ho hg hnn hi0 hz0 hz1 hz2 hnl
          go_wp2
          go_roundw
          case rel => exact ⟨_, L ++ [f], _, rfl, HLV5, HO5, HR5, HA3, HG5⟩
          case measure => (have := HLV0.out; have := HLN.out; simp [lenV]; omega)
      · obtain ⟨y, rfl⟩ : ∃ y, x = y + 1 := ⟨x - 1, by omega⟩
        have hge : (1 : Int) ≤ ((y + 1 : Nat) : Int) := by omega
        obtain ⟨X, hX⟩ : ∃ X, X = y + 1 := ⟨_, rfl⟩
        have HXY : Hid (X = y + 1) := hX
        rw [← hX] at hge HB hx64 ⊢
        have q0 : (X : Int) - 1 = (y : Int) := by omega
        have h5 : (0 : Int) ≤ (X : Int) := by omega
        have h6 : (X : Int) < 65 := by omega
        have c1 := HRr.out.there_cell (i := X) (by omega)
        have c2 := HRr.out.whn_cell (i := X) (by omega)
        have hda := due_at (to := to) (y := X) HR.out.2.2 (by omega)
        have hym : y < X := by omega
        generalize hd : r'.whn.getD X 0 = d at c2
        have HDA : Hid ((r'.there.getD X false = true → X ∉ L ∧ T (X - 1) = some d) ∧ (r'.there.getD X false = false → ¬ Due T to X ∨ X ∈ L)) := by rw [hd] at hda; exact hda
        have HB' : Hid (Best T to L (y + 1) f) := by rw [← HXY.out]; exact HB.out
        clear hda hd hX hx0
        cases hb : r'.there.getD X false with
        | false =>
          rw [hb] at c1
          have hno := HDA.out.2 hb
          rw [HXY.out] at hno
          have HNO : Hid (¬ Due T to (y + 1) ∨ y + 1 ∈ L) := hno
          clear hb hno
          have HB2 : Hid (Best T to L y f) := HB'.out.no (HNO.out.elim .inl (fun e => .inr (.inl e)))
          go_wp2
          go_quiet (fail)
          generalize hnq : World.drewN _ _ = wq
          have HWQ : Hid (∃ m, wq = W.drewN m) := by rw [← hnq, HWR.out]; exact ⟨_, World.drewN_drewN _ _ _⟩
          clear hnq
          go_wp2
          go_roundw
          case rel => (obtain ⟨m, hm⟩ := HWQ.out; exact ⟨f, y, m, by omega, by omega, by go_num, by go_num, HB2, hm⟩)
          case measure => (simp [intOf]; omega)
        | true =>
          rw [hb] at c1
          have hyes := HDA.out.1 hb
          have HY : Hid (y + 1 ∉ L ∧ T (y + 1 - 1) = some d) := by rw [HXY.out] at hyes; exact hyes
          clear hb hyes
          by_cases hdt : d ≤ to
          · have hdt' : decide ((d : Int) ≤ (to : Int)) = true := by simpa using hdt
            have HDU : Hid (Due T to (y + 1)) := by (show Due _ _ _); exact ⟨by omega, by have := HXY.out; omega, d, HY.out.2, hdt⟩
            have HDT : Hid (dT T (y + 1) = d) := by (show _ = _); unfold dT; rw [HY.out.2]; rfl
            by_cases hf0 : f = 0
            · subst hf0
              have hfz : ((0 : Int) == 0) = true := rfl
              have HB2 : Hid (Best T to L y X) := by rw [HXY.out]; exact HB'.out.yes HDU.out HY.out.1 (.inl rfl)
              go_wp2
              go_quiet (fail)
              generalize hnq : World.drewN _ _ = wq
              have HWQ : Hid (∃ m, wq = W.drewN m) := by rw [← hnq, HWR.out]; exact ⟨_, World.drewN_drewN _ _ _⟩
              clear hnq
              go_wp2
              go_roundw
              case rel => (obtain ⟨m, hm⟩ := HWQ.out; exact ⟨X, y, m, by omega, by omega, by go_num, by go_num, HB2, hm⟩)
              case measure => (simp [intOf]; omega)
            · have hf0' : ((f : Int) == 0) = false := by rw [beq_eq_false_iff_ne]; omega
              have h7 : (0 : Int) ≤ (f : Int) := by omega
              have h8 : (f : Int) < 65 := by omega
              have c3 := HRr.out.whn_cell (i := f) (by omega)
              have hdf : T (f - 1) = some (r'.whn.getD f 0) := by
                rcases HB'.out with ⟨e, _⟩ | ⟨_, e2, e3, _⟩
                · exact absurd e hf0
                · have k1 := e2.1
                  have k2 := e2.2.1
                  have k := due_at (to := to) (y := f) HR.out.2.2 (by omega)
                  cases hbf : r'.there.getD f false with
                  | true => exact (k.1 hbf).2
                  | false => exact (k.2 hbf).elim (fun e => absurd e2 e) (fun e => absurd e e3)
              have HDF : Hid (dT T f = r'.whn.getD f 0) := by (show _ = _); unfold dT; rw [hdf]; rfl
              generalize r'.whn.getD f 0 = d2 at c3 HDF hdf
              clear hdf
              by_cases hle : d ≤ d2
              · have hle' : decide ((d : Int) ≤ (d2 : Int)) = true := by simpa using hle
                have HB2 : Hid (Best T to L y X) := by rw [HXY.out]; exact HB'.out.yes HDU.out HY.out.1 (.inr (by rw [HDT.out, HDF.out]; exact hle))
                go_wp2
                go_quiet (fail)
                generalize hnq : World.drewN _ _ = wq
                have HWQ : Hid (∃ m, wq = W.drewN m) := by rw [← hnq, HWR.out]; exact ⟨_, World.drewN_drewN _ _ _⟩
                clear hnq
                go_wp2
                go_roundw
                case rel => (obtain ⟨m, hm⟩ := HWQ.out; exact ⟨X, y, m, by omega, by omega, by go_num, by go_num, HB2, hm⟩)
                case measure => (simp [intOf]; omega)
              · have hle' : decide ((d : Int) ≤ (d2 : Int)) = false := by simpa using hle
                have HB2 : Hid (Best T to L y f) := HB'.out.no (.inr (.inr ⟨by omega, by rw [HDT.out, HDF.out]; omega⟩))
                go_wp2
                go_quiet (fail)
                generalize hnq : World.drewN _ _ = wq
                have HWQ : Hid (∃ m, wq = W.drewN m) := by rw [← hnq, HWR.out]; exact ⟨_, World.drewN_drewN _ _ _⟩
                clear hnq
                go_wp2
                go_roundw
                case rel => (obtain ⟨m, hm⟩ := HWQ.out; exact ⟨f, y, m, by omega, by omega, by go_num, by go_num, HB2, hm⟩)
                case measure => (simp [intOf]; omega)
          · have hdt' : decide ((d : Int) ≤ (to : Int)) = false := by simpa using hdt
            have HB2 : Hid (Best T to L y f) := HB'.out.no (.inl (fun hdue => by obtain ⟨_, _, e, e1, e2⟩ := hdue; rw [HY.out.2] at e1; cases e1; exact hdt e2))
            go_wp2
            go_quiet (fail)
            generalize hnq : World.drewN _ _ = wq
            have HWQ : Hid (∃ m, wq = W.drewN m) := by rw [← hnq, HWR.out]; exact ⟨_, World.drewN_drewN _ _ _⟩
            clear hnq
            go_wp2
            go_roundw
            case rel => (obtain ⟨m, hm⟩ := HWQ.out; exact ⟨f, y, m, by omega, by omega, by go_num, by go_num, HB2, hm⟩)
            case measure => (simp [intOf]; omega)
end Go.Proofs.YteiadaonihgbfaaDoor
