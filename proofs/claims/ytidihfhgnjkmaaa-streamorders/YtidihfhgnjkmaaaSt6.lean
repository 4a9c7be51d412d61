/- Stream.forget where nothing is too much; Stream.same where the spans are not as many. -/
import Derived.Test.YtidihfhgnjkmaaaSt5
namespace Go.Proofs.Ytidihfhgnjkmaaa
set_option maxRecDepth 100000
open Go.RowKit Go.Maps Go.Sort Go.Shelf

theorem Stm.away {w : World} {s m : Nat} {a : Option Addr} {n c : Nat} {l : List Sp} {X : List (Int × Value)} (h : Stm w s m a n c l X) {g o : Nat} {k : IntKind} {z : Int} (hc : w.cell? ⟨g, o, none⟩ = some (.int k z)) : g ≠ s ∧ g ≠ m := by
  constructor
  · rintro rfl
    have : w.cell? ⟨g, o, none⟩ = (#[Value.slice a n c, .map (some m)] : Array Value)[o]? := cell_of_row w g _ _ _ _ h.blk
    rw [hc] at this
    match o, this with
    | 0, this => cases this
    | 1, this => cases this
    | o + 2, this => cases this
  · rintro rfl
    obtain ⟨es, clock, hb, _⟩ := h.items
    unfold World.cell? at hc
    simp only [hb] at hc
    cases hc
theorem ItsRd.two {w w' : World} {s m : Nat} {a : Option Addr} {n c : Nat} {l : List Sp} {X : List (Int × Value)} (h : Stm w s m a n c l X) {ia : Option Addr} {im : Nat} {L : List It} (hr : ItsRd w ia im L) (ht : Two s m w w') : ItsRd w' ia im L := by
  obtain ⟨h1, h2, h3⟩ := hr
  refine ⟨h1, ?_, h3⟩
  rcases h2 with h0 | ⟨g, o, ha, hg, hc⟩
  · exact .inl h0
  · cases L with
    | nil => exact .inl rfl
    | cons q0 r0 =>
      have hk := h.away (hc 0 q0 rfl).1
      have e : ∀ p, w'.cell? ⟨g, p, none⟩ = w.cell? ⟨g, p, none⟩ := fun p => cell_same (ht.block g hg hk.1 hk.2) p
      refine .inr ⟨g, o, ha, Nat.lt_of_lt_of_le hg ht.size, fun i q hi => ?_⟩
      obtain ⟨k1, k2, ba, bl, bc, k3, k4⟩ := hc i q hi
      exact ⟨(e _).trans k1, (e _).trans k2, ba, bl, bc, (e _).trans k3, Rd.two h k4.1 ht, k4.2⟩
set_option maxHeartbeats 2000000 in
theorem st_forget_0 {w : World} {s m : Nat} {a : Option Addr} {n c : Nat} {l : List Sp} {X : List (Int × Value)} (h : Stm w s m a n c l X) (hX : X.length ≤ 64) :
    Calls Try.prog 18 #[.pointer (some ⟨s, 0, none⟩)] w fun e w' => e = .returned (.tuple #[]) ∧ Below w.heap.size w w' := by
  have HT := st_ticks h (by omega)
  clear h
  go_enter Try.func18, Try.ntmps18
  go_wp2_with fail
  refine HT.mono ?_
  rintro e w3 ⟨v, rfl, hrow, hb3⟩
  rw [show X.length = (X.map Prod.fst).length from (List.length_map _).symm] at hrow
  obtain ⟨ra, rc, rfl, _⟩ := IntsRd.of_row hrow
  rw [List.length_map]
  have g1 : ¬ (64 : Int) < (X.length : Int) := by omega
  have HB3 : Hid (Below w.heap.size w w3) := hb3
  clear hrow hb3 HT
  go_wp2
  go_loopw [2] (fun t2 wr => t2 = .slice ra X.length rc ∧ wr = w3) (fun _ _ => 0)
  case atStart => exact ⟨rfl, rfl⟩
  case round =>
    obtain ⟨rfl, rfl⟩ := hrel
    go_wp2
    exact ⟨rfl, _, results_none rfl _ _ _, rfl, HB3.out⟩
theorem sp_equal_len (a b : Option Addr) (n c n2 c2 : Nat) (hne : n ≠ n2) (w : World) : Calls Try.prog 39 #[.slice a n c, .slice b n2 c2] w fun e w' => e = .returned (.bool false) ∧ w' = w := by
  have k : ((n : Int) != (n2 : Int)) = true := by rw [bne_iff_ne]; omega
  go_enter Try.func39, Try.ntmps39
  go_wp2
  go_ret
  exact ⟨rfl, rfl⟩
set_option maxHeartbeats 4000000 in
theorem st_same_len {w : World} {s m s2 m2 : Nat} {a a2 : Option Addr} {n c n2 c2 : Nat} {l l2 : List Sp} {X X2 : List (Int × Value)} (h : Stm w s m a n c l X) (h2 : Stm w s2 m2 a2 n2 c2 l2 X2) (hne : n ≠ n2) :
    Calls Try.prog 19 #[.pointer (some ⟨s, 0, none⟩), .pointer (some ⟨s2, 0, none⟩)] w fun e w' => e = .returned (.bool false) ∧ Below w.heap.size w w' := by
  have c0 : w.cell? ⟨s, 0, none⟩ = some (.slice a n c) := h.blk.cell 0 rfl
  have d0 : w.cell? ⟨s2, 0, none⟩ = some (.slice a2 n2 c2) := h2.blk.cell 0 rfl
  have HE : Hid (∀ W, Calls Try.prog 39 #[.slice a n c, .slice a2 n2 c2] W fun e w' => e = .returned (.bool false) ∧ w' = W) := fun W => sp_equal_len a a2 n c n2 c2 hne W
  clear h h2
  go_enter Try.func19, Try.ntmps19
  go_upto_region 2 with fail
  go_quiet (first | (go_at_call 39; exact Calls.quiet_of_same (HE.out _)))
  go_wp2
  go_ret
  exact ⟨rfl, below_drews (Below.refl _ _) _⟩
end Go.Proofs.Ytidihfhgnjkmaaa
