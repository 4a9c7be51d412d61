/- slices.SortStableFunc of fewer than 20; wheel: ordered, of fewer than 20. -/
import Derived.Test.YteiadaonihgbfaaDoorWh13
namespace Go.Proofs.YteiadaonihgbfaaDoor
open Go.RowKit

set_option maxRecDepth 100000 in
set_option maxHeartbeats 4000000 in
theorem sort_small (w : World) (a : Option Addr) (n c : Nat) (f : Value) (hn : n < 20) (Q : World → Prop) (h : Calls Tryd.prog 48 #[.slice a n c, .int .i64 0, .int .i64 (n : Int), f] w fun e w' => e = .returned (.tuple #[]) ∧ Q w') :
    Calls Tryd.prog 40 #[.slice a n c, f] w fun e w' => e = .returned (.tuple #[]) ∧ Q w' := by
  have HS : Hid (Calls Tryd.prog 46 #[.slice a n c, .int .i64 (n : Int), f] w fun e w' => e = .returned (.tuple #[]) ∧ Q w') := stable_small w _ f n hn Q h
  clear h
  go_enter Tryd.func40, Tryd.ntmps40
  go_wp2_with fail
  refine HS.out.mono ?_
  rintro e w1 ⟨rfl, hq⟩
  have HQ1 : Hid (Q w1) := hq
  clear hq
  go_wp2
  go_returns
  exact ⟨rfl, HQ1.out⟩

/-- The timers of a set in the order of when they are due. -/
def ordS (s : St) (z : Nat) : List Nat := insS (cfW s) 0 (idsS z).length (idsS z)
set_option maxRecDepth 100000 in
set_option maxHeartbeats 4000000 in
theorem wh_ordered (w : World) (g : Nat) (s : St) (z : Nat) (h : Wh w g s) (hT : Tab w) (hg0 : 0 < w.heap.size) (hz : z < 18446744073709551616) (h20 : (idsS z).length < 20) :
    Calls Tryd.prog 34 #[.pointer (some ⟨g, 0, none⟩), .int .u64 (z : Int)] w fun e w' => ∃ v, e = .returned v ∧ Hid (w'.ownsRow w.heap.size 3 1 v (idsS z).length (vi (ordS s z))) ∧ Below w.heap.size w w' := by
  obtain ⟨W1, HW1⟩ : ∃ W1, Hid (W1 = w.alloc (.cells #[.pointer (some ⟨g, 0, none⟩)] 23)) := ⟨_, rfl⟩
  have HB1 : Hid (Below w.heap.size w W1) := by show Below _ _ _; rw [HW1.out]; exact below_alloc _ _
  have HK1 : Hid (Blk W1 w.heap.size #[.pointer (some ⟨g, 0, none⟩)] 23) := by show Blk _ _ _ _; rw [HW1.out]; exact Blk.new _ _ _
  have HWh1 : Hid (Wh W1 g s) := h.stay HB1.out
  have HT1 : Hid (Tab W1) := hT.below hg0 HB1.out
  have HGL : Hid (g < w.heap.size) := h.blk.lt
  have HLEN : Hid ((idsS z).length < 20) := h20
  have HNUM : Hid (∀ x ∈ idsS z, 1 ≤ x ∧ x ≤ 64) := fun x hx => ⟨(ids_mem hx).1, (ids_mem hx).2.1⟩
  clear h hT hg0 h20
  go_enter Tryd.func34, Tryd.ntmps34
  go_wp2_with fail
  rw [← HW1.out]
  refine (wh_ids W1 z hz HT1.out (Nat.lt_of_le_of_lt (Nat.zero_le _) HK1.out.lt)).mono ?_
  rintro e w2 ⟨v, rfl, ho, hb⟩
  have HO : Hid (w2.ownsRow W1.heap.size 3 1 v (idsS z).length (vi (idsS z))) := ho.out
  have HB2 : Hid (Below w.heap.size w w2) := HB1.out.trans (hb.mono HB1.out.size)
  have HWh2 : Hid (Wh w2 g s) := HWh1.out.stay hb
  have HK2 : Hid (Blk w2 w.heap.size #[.pointer (some ⟨g, 0, none⟩)] 23) := HK1.out.stay hb
  have HL1 : Hid (w.heap.size < W1.heap.size) := HK1.out.lt
  clear ho hb
  rcases HO.out.2 with ⟨rfl, h0⟩ | ⟨kb, c, cur, rfl, hbase, _⟩
  · have HNIL : Hid (idsS z = []) := List.length_eq_zero_iff.1 h0
    have HF : Hid (w2.ownsRow w.heap.size 3 1 (.slice none 0 0) (idsS z).length (vi (ordS s z))) := by
      show w2.ownsRow _ _ _ _ _ _
      rw [ordS, HNIL.out]
      exact World.ownsRow_nil _ _ _ _
    clear h0
    go_wp2_with fail
    refine (sort_small w2 none 0 0 _ (by omega) (fun w' => w' = w2) (ins_nil w2 _)).mono ?_
    rintro e w3 ⟨he, hw3⟩
    subst he
    rw [hw3]
    clear hw3 w3
    go_wp2
    go_ret
    exact ⟨_, rfl, HF, HB2.out⟩
  · obtain ⟨n, hn⟩ : ∃ n, n = (idsS z).length := ⟨_, rfl⟩
    have HN : Hid (n = (idsS z).length) := hn
    have hn20 : n < 20 := by rw [hn]; exact HLEN.out
    rw [← hn] at HO ⊢
    have HROW : Hid (Row w2 W1.heap.size kb n c (idsS z)) := ⟨HO.out, HNUM.out, hn.symm⟩
    have HORD : Hid (insS (cfW s) 0 n (idsS z) = ordS s z) := by show _ = _; rw [ordS, ← hn]
    clear hbase hn
    go_wp2_with fail
    refine (sort_small w2 (some ⟨kb, 0, none⟩) n c _ hn20 (fun w' => Hid (Row w' W1.heap.size kb n c (insS (cfW s) 0 n (idsS z))) ∧ w2.grownBy w' (some kb)) (wh_ins w2 W1.heap.size kb n c g w.heap.size s (idsS z) 0 n HROW.out HWh2.out (HK2.out.cell 0 rfl) (by have := HGL.out; have := HL1.out; omega) HL1.out (by omega) (Nat.le_refl _) (by omega))).mono ?_
    rintro e w3 ⟨rfl, hr3, hg3⟩
    have HF : Hid (w3.ownsRow w.heap.size 3 1 (.slice (some ⟨kb, 0, none⟩) n c) n (vi (ordS s z))) := by
      have h1 := hr3.out.own
      rw [HORD.out] at h1
      refine ⟨h1.1, ?_⟩
      rcases h1.2 with h2 | ⟨g', c', cur', a1, a2, r⟩
      · exact .inl h2
      · exact .inr ⟨g', c', cur', a1, by have := HL1.out; omega, r⟩
    have HB3 : Hid (Below w.heap.size w w3) := HB2.out.trans ((Below.refl _ _).grown hg3 HB2.out.size (fun k hk => by simp only [Option.some.injEq] at hk; have := HROW.out.base.1; have := HL1.out; omega))
    clear hr3 hg3
    go_wp2
    go_ret
    exact ⟨_, rfl, by rw [← HN.out]; exact HF, HB3.out⟩
end Go.Proofs.YteiadaonihgbfaaDoor
