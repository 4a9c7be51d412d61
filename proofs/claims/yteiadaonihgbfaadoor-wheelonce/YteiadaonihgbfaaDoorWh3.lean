/- math/bits.TrailingZeros64; wheel: a set's numbers. -/
import Derived.Test.YteiadaonihgbfaaDoorWh2
import Derived.Test.YteiadaonihgbfaaDoorWhIds
namespace Go.Proofs.YteiadaonihgbfaaDoor
open Go.RowKit

/-- The library's table, as its initialiser lays it. -/
def Tab (w : World) : Prop := ∀ i, i < 64 → w.cell? ⟨0, i, none⟩ = some (.int .u8 ((Lib.deBruijn64tab.getD i 0 : Nat) : Int))
theorem Tab.below {w w' : World} {B : Nat} (h : Tab w) (hB : 0 < B) (hb : Below B w w') : Tab w' := fun i hi => by
  rw [hb.cell (p := ⟨0, i, none⟩) hB]
  exact h i hi
theorem low_key (x : Nat) (hx : x < 18446744073709551616) (h0 : x ≠ 0) : IntKind.u64.wrap (bits BinOp.and IntKind.u64 (x : Int) (IntKind.u64.wrap (-(x : Int))) * 285870213051353865) / 288230376151711744 = ((2 ^ Lib.ctz 64 x * 285870213051353865 % 18446744073709551616 / 288230376151711744 : Nat) : Int) := by
  have e1 : IntKind.u64.wrap (-(x : Int)) = ((18446744073709551616 - x : Nat) : Int) := by rw [IntKind.wrap_u64]; omega
  have e2 := (Lib.lowest_bit 64 x h0 hx).1
  rw [show (2 : Nat) ^ 64 = 18446744073709551616 from rfl] at e2
  rw [e1, bits_and_u64_nat x _ hx (by omega), e2]
  generalize 2 ^ Lib.ctz 64 x = a
  rw [IntKind.wrap_u64]
  omega

set_option maxHeartbeats 2000000 in
theorem tz_core (x k idx : Nat) (w : World) (hx0 : ((x : Int) == 0) = false)
    (key : IntKind.u64.wrap (bits BinOp.and IntKind.u64 (x : Int) (IntKind.u64.wrap (-(x : Int))) * 285870213051353865) / 288230376151711744 = (idx : Int)) (hi : idx < 64) (hk : k < 64) (c1 : w.cell? ⟨0, idx, none⟩ = some (.int .u8 (k : Int))) :
    Calls Tryd.prog 43 #[.int .u64 (x : Int)] w fun e w' => e = .returned (.int .i64 (k : Int)) ∧ w' = w := by
  go_enter Tryd.func43, Tryd.ntmps43
  go_wp2_with (simp only [key])
  go_ret
  exact ⟨rfl, rfl⟩
theorem tz_64 (x : Nat) (hx : x < 18446744073709551616) (h0 : x ≠ 0) (w : World) (hT : Tab w) : Calls Tryd.prog 43 #[.int .u64 (x : Int)] w fun e w' => e = .returned (.int .i64 (Lib.ctz 64 x : Int)) ∧ w' = w := by
  have hk := (Lib.lowest_bit 64 x h0 hx).2
  obtain ⟨d1, d2⟩ := Lib.deBruijn64_at _ hk
  have c1 := hT _ d1
  rw [d2] at c1
  exact tz_core x _ _ w (by rw [beq_eq_false_iff_ne]; omega) (low_key x hx h0) d1 hk c1

def vi (l : List Nat) : List Value := l.map fun (n : Nat) => .int .i64 (n : Int)
theorem vi_one (l : List Nat) : ∀ u ∈ vi l, u.oneCell' = true := by
  intro u hu
  obtain ⟨n, _, rfl⟩ := List.mem_map.1 hu
  rfl
theorem own_slice {w : World} {base : Nat} {e : TypeId} {size n : Nat} {v : Value} {xs : List Value} (h : w.ownsRow base e size v n xs) : ∃ a l c, v = .slice a l c := by
  rcases h.2 with ⟨h1, _⟩ | ⟨g, c, cur, h1, _⟩
  · exact ⟨_, _, _, h1⟩
  · exact ⟨_, _, _, h1⟩
theorem own_stay {w w' : World} {base : Nat} {e : TypeId} {size n : Nat} {v : Value} {xs : List Value} (h : w.ownsRow base e size v n xs) (hk : ∀ k, v.ownBlock = some k → w'.heap[k]? = w.heap[k]?) : w'.ownsRow base e size v n xs := by
  refine ⟨h.1, ?_⟩
  rcases h.2 with h1 | ⟨g, c, cur, h1, h2, h3, r⟩
  · exact .inl h1
  · refine .inr ⟨g, c, cur, h1, h2, ?_, r⟩
    rw [hk g (by rw [h1]; rfl)]
    exact h3
theorem infoInt : (Tryd.prog.info? 3).map (fun i => (i.zero, i.size, i.bytes)) = some (some (.int .i64 0), 1, 8) := by kernel_rfl
theorem info_parts {α β γ : Type} {o : Option TypeInfo} {f : TypeInfo → α} {g : TypeInfo → β} {h : TypeInfo → γ} {a : α} {b : β} {c : γ} (e : o.map (fun i => (f i, g i, h i)) = some (a, b, c)) : ∃ i, o = some i ∧ f i = a ∧ g i = b ∧ h i = c := by
  obtain ⟨i, hi, he⟩ := Option.map_eq_some_iff.1 e
  simp only [Prod.mk.injEq] at he
  exact ⟨i, hi, he.1, he.2.1, he.2.2⟩

set_option maxRecDepth 100000 in
set_option maxHeartbeats 4000000 in
theorem wh_ids (w : World) (s : Nat) (hs : s < 18446744073709551616) (hT : Tab w) (hw : 0 < w.heap.size) :
    Calls Tryd.prog 35 #[.int .u64 (s : Int)] w fun e w' => ∃ v, e = .returned v ∧ Hid (w'.ownsRow w.heap.size 3 1 v (idsS s).length (vi (idsS s))) ∧ Below w.heap.size w w' := by
  have HT : Hid (Tab w) := hT
  have HW : Hid (0 < w.heap.size) := hw
  obtain ⟨L, HL⟩ : ∃ L, Hid (L = idsS s) := ⟨_, rfl⟩
  rw [← HL.out]
  have HLL : Hid (L.length ≤ 64) := by show _ ≤ _; rw [HL.out]; exact ids_len s
  clear hT hw
  go_enter Tryd.func35, Tryd.ntmps35
  go_wp2
  go_loopw [0, 3] (fun t0 t3 wr => ∃ (x : Nat) (l : List Nat) (v3 : Value), t0 = .int .u64 (x : Int) ∧ v3 = t3 ∧ x < 18446744073709551616 ∧ Hid (l ++ idsS x = L) ∧ Hid (wr.ownsRow w.heap.size 3 1 v3 l.length (vi l)) ∧ Hid (Below w.heap.size w wr)) (fun t0 _ _ => (intOf t0).toNat)
  case atStart => exact ⟨s, [], _, rfl, rfl, hs, by show _ = _; rw [HL.out]; rfl, World.ownsRow_nil _ _ _ _, Below.refl _ _⟩
  case round =>
    obtain ⟨x, l, v3, rfl, rfl, hx, HE, HO, HB⟩ := hrel
    by_cases h0 : x = 0
    · subst h0
      have HX : Hid (l = L) := by show _ = _; rw [← HE.out, ids_zero, List.append_nil]
      obtain ⟨a3, n3, c3, rfl⟩ := own_slice HO.out
      go_wp2
      go_ret
      exact ⟨_, rfl, by rw [← HX.out]; exact HO, HB.out⟩
    · have hx0 : ((x : Int) == 0) = false := by rw [beq_eq_false_iff_ne]; omega
      obtain ⟨k, hk⟩ : ∃ k, k = Lib.ctz 64 x := ⟨_, rfl⟩
      have HK : Hid (k = Lib.ctz 64 x) := hk
      have hk64 : k < 64 := by rw [hk]; exact (Lib.lowest_bit 64 x h0 hx).2
      have HE2 : Hid ((l ++ [1 + k]) ++ idsS (x &&& (x - 1)) = L) := by show _ = _; rw [← HE.out, ids_step x h0 hx, ← hk, List.append_assoc]; rfl
      have HLN : Hid (l.length < 64) := by show _ < _; have := congrArg List.length HE2.out; simp only [List.length_append, List.length_singleton] at this; have := HLL.out; omega
      obtain ⟨y, hy⟩ : ∃ y, y = x - 1 := ⟨_, rfl⟩
      have HLT : Hid (x &&& y < x) := by show _ < _; rw [hy]; exact and_pred_lt x h0
      rw [← hy] at HE2
      have q1 : IntKind.u64.wrap ((x : Int) - 1) = (y : Int) := by rw [IntKind.wrap_u64]; omega
      have q2 : bits .and .u64 (x : Int) (y : Int) = ((x &&& y : Nat) : Int) := u64_and_nat x y hx (by omega)
      have q3 : (x : Int) - 1 = (y : Int) := by omega
      have HXL : Hid (x &&& y < 18446744073709551616) := by show _ < _; have := HLT.out; omega
      have HTZ : Hid (Calls Tryd.prog 43 #[.int .u64 (x : Int)] wr fun e w' => e = .returned (.int .i64 (k : Int)) ∧ w' = wr) := by
        have := tz_64 x hx h0 wr (HT.out.below HW.out HB.out)
        rw [← HK.out] at this
        exact this
      obtain ⟨i0, hi0, hz0, hz1, hz2⟩ := info_parts infoInt
      have HOA : Hid ((wr.alloc (.cells #[.int .i64 (1 + (k : Int))] 3)).ownsRow w.heap.size 3 1 v3 l.length (vi l)) := own_stay HO.out (fun j hj => (below_alloc wr (.cells #[.int .i64 (1 + (k : Int))] 3)).block j (HO.out.lt j hj).2)
      have HBA : Hid (Below w.heap.size w (wr.alloc (.cells #[.int .i64 (1 + (k : Int))] 3))) := HB.out.alloc HB.out.size _
      have HNEW : Hid (∀ j u, [Value.int .i64 (1 + (k : Int))][j]? = some u → (wr.alloc (.cells #[.int .i64 (1 + (k : Int))] 3)).cell? ((⟨wr.heap.size, 0, none⟩ : Addr).add j) = some u) := fun j u hj => by
        have e : (⟨wr.heap.size, 0, none⟩ : Addr).add j = ⟨wr.heap.size, 0 + j, none⟩ := by unfold Addr.add; split <;> simp_all
        rw [e, Nat.zero_add]
        exact (Blk.new wr #[.int .i64 (1 + (k : Int))] 3).cell j (by simpa using hj)
      clear hk hy
      go_wp2_with fail
      refine HTZ.out.mono ?_
      rintro e w4 ⟨he, hw4⟩
      subst he
      rw [hw4]
      clear hw4 w4
      go_wp2_with (guard_target =~ wpList _ _ _ (Oper.mk (some 15) _ _ _ _ _ :: _) _ _; refine wpList_append_own _ rfl (.tmp 10) (.tmp 14) 40 rfl w.heap.size 3 i0 (.int .i64 0) 1 8 Tryd.underlying40 hi0 hz0 hz1 hz2 (by rfl) (by decide) v3 l.length (vi l) rfl HOA.out ⟨wr.heap.size, 0, none⟩ 1 1 [.int .i64 (1 + (k : Int))] rfl rfl HNEW.out (by simp [Value.oneCell']) (by have := HLN.out; unfold maxLen; omega) (by have := HLN.out; omega) HBA.out.size ?_)
      intro v' w5 ho hg hnn
      obtain ⟨a5, n5, c5, rfl⟩ := own_slice ho
      have HO5 : Hid (w5.ownsRow w.heap.size 3 1 (.slice a5 n5 c5) (l ++ [1 + k]).length (vi (l ++ [1 + k]))) := by
        show w5.ownsRow _ _ _ _ _ _
        have e : vi (l ++ [1 + k]) = vi l ++ [.int .i64 (1 + (k : Int))] := by
          unfold vi
          rw [List.map_append, List.map_cons, List.map_nil]
          congr 3
        rw [e, List.length_append, List.length_singleton]
        exact ho
      have HB5 : Hid (Below w.heap.size w w5) := HBA.out.trans ((Below.refl _ _).grown hg HBA.out.size (fun j hj => (HOA.out.lt j hj).1))
      clear ho hg hnn hi0 hz0 hz1 hz2
      go_wp2
      go_roundw
      case rel => exact ⟨x &&& y, l ++ [1 + k], _, rfl, rfl, HXL.out, HE2, HO5, HB5⟩
      case measure => (have := HLT.out; simp only [intOf, Int.toNat_natCast]; omega)
end Go.Proofs.YteiadaonihgbfaaDoor
