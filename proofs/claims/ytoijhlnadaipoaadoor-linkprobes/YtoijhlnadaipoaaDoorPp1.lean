/- parcel.putNumbers; a frame by types: all blocks but those of bytes stay. -/
import Derived.Test.YtoijhlnadaipoaaDoorPcM
import Derived.Test.YtoijhlnadaipoaaDoorSpPutM
namespace Go.Proofs.YtoijhlnadaipoaaDoor
open Go.RowKit

/-- Nothing below base has turned, nor a block that is none of bytes. -/
structure Kb (base : Nat) (w w' : World) : Prop where
  below : Below base w w'
  other : ∀ (k : Nat) (cs : Array Value) (t : TypeId) (m : Nat × Nat), w.heap[k]? = some (.cells cs t m) → t ≠ 5 → w'.heap[k]? = some (.cells cs t m)
theorem Kb.refl (base : Nat) (w : World) : Kb base w w := ⟨Below.refl _ _, fun _ _ _ _ h _ => h⟩
theorem Kb.trans {base : Nat} {w w1 w2 : World} (h : Kb base w w1) (h2 : Kb base w1 w2) : Kb base w w2 := ⟨h.below.trans h2.below, fun k cs t m hk ht => h2.other k cs t m (h.other k cs t m hk ht) ht⟩
theorem Kb.of {base : Nat} {w w' : World} (h : Below w.heap.size w w') (hb : base ≤ w.heap.size) : Kb base w w' := ⟨h.mono hb, fun k cs t m hk _ => by rw [h.block k (Array.getElem?_eq_some_iff.1 hk).1]; exact hk⟩
theorem Kb.mono {base base' : Nat} {w w' : World} (h : Kb base w w') (hb : base' ≤ base) : Kb base' w w' := ⟨h.below.mono hb, h.other⟩
theorem Kb.grown {base : Nat} {w w' : World} {a : Option Addr} {len cap : Nat} {xs : List Nat} (ho : Own w base a len cap xs) (hb : Below base w w') (hg : w.grownBy w' (Value.ownBlock (.slice a len cap))) : Kb base w w' := by
  refine ⟨hb, fun k cs t m hk ht => ?_⟩
  rw [hg.block k (Array.getElem?_eq_some_iff.1 hk).1 (fun e => ?_)]
  · exact hk
  · rcases ho.row.2 with ⟨h1, _⟩ | ⟨g5, c5', cur, h1, _, h3, _⟩
    · simp only [Value.slice.injEq] at h1
      rw [h1.1] at e
      cases e
    · simp only [Value.slice.injEq] at h1
      rw [h1.1] at e
      simp only [Value.ownBlock, Option.some.injEq] at e
      rw [e, h3] at hk
      simp only [Option.some.injEq, Obj.cells.injEq] at hk
      exact ht hk.2.1.symm
theorem Bk.kept {base : Nat} {w w' : World} {g : Nat} {cs : Array Value} {t : TypeId} (h : Bk w g cs t) (hk : Kb base w w') (ht : t ≠ 5) : Bk w' g cs t := hk.other g cs t (0, 0) h ht

/-- Numbers, one behind the other. -/
def lebs (ns : List Nat) : List Nat := ns.flatMap Leb.leb
theorem lebs_nil : lebs [] = [] := rfl
theorem lebs_cons (n : Nat) (ns : List Nat) : lebs (n :: ns) = Leb.leb n ++ lebs ns := rfl
def nvs (ns : List Nat) : Array Value := (ns.map fun (n : Nat) => Value.int .i64 (n : Int)).toArray
theorem nvs_at {ns : List Nat} {k : Nat} {n : Nat} (h : ns[k]? = some n) : (nvs ns)[k]? = some (.int .i64 (n : Int)) := by
  simp [nvs, h]
theorem lebs_len : ∀ ns : List Nat, (lebs ns).length ≤ 10 * ns.length
  | [] => by simp [lebs]
  | n :: ns => by
    rw [lebs_cons, List.length_append, List.length_cons]
    have h1 := Leb.leb_length n
    have h2 := lebs_len ns
    omega

set_option maxRecDepth 100000 in
set_option maxHeartbeats 4000000 in
theorem pc_putNumbers (base : Nat) (a : Option Addr) (len cap : Nat) (xs : List Nat) (g : Nat) (ns : List Nat) (w : World) (ho : Own w base a len cap xs) (hB : base ≤ w.heap.size) (hl : len ≤ 1000000) (hg : Bk w g (nvs ns) 3) (hn : ∀ n ∈ ns, n < 9223372036854775808) (hnl : ns.length ≤ 10) :
    Calls Tryd.prog 37 #[.slice a len cap, .slice (some ⟨g, 0, none⟩) ns.length ns.length] w fun e w' => (∃ a' cap', e = .returned (.slice a' (len + (lebs ns).length) cap') ∧ Hid (Own w' base a' (len + (lebs ns).length) cap' (xs ++ lebs ns))) ∧ Kb base w w' := by
  have HO : Hid (Own w base a len cap xs) := ho
  have HBS : Hid (base ≤ w.heap.size) := hB
  have HG : Hid (Bk w g (nvs ns) 3) := hg
  have HN : Hid (∀ n ∈ ns, n < 9223372036854775808) := hn
  have HT : Hid ((lebs ns).length ≤ 100) := by have := lebs_len ns; show _ ≤ _; omega
  obtain ⟨T, HTE⟩ : ∃ T, Hid (T = lebs ns) := ⟨_, rfl⟩
  obtain ⟨N, hN⟩ : ∃ N, N = ns.length := ⟨_, rfl⟩
  have HNE : Hid (N = ns.length) := hN
  rw [← HTE.out] at HT ⊢
  rw [← hN] at hnl ⊢
  clear ho hB hg hn hN
  go_enter Tryd.func37, Tryd.ntmps37
  go_wp2
  go_loopw [0, 9] (fun t0 t9 wr => ∃ (k : Nat) (ax : Option Addr) (x cx : Nat) (X : List Nat), k ≤ N ∧ t9 = .int .i64 (k : Int) ∧ t0 = .slice ax x cx ∧ Hid (Own wr base ax x cx (xs ++ X)) ∧ Hid (X ++ lebs (ns.drop k) = T) ∧ Hid (Kb base w wr)) (fun _ t9 _ => N - (intOf t9).toNat)
  case atStart => exact ⟨0, a, len, cap, [], by omega, rfl, rfl, by show Own _ _ _ _ _ _; rw [List.append_nil]; exact HO.out, by show _ = _; rw [HTE.out]; rfl, Kb.refl _ _⟩
  case round =>
    obtain ⟨k, ax, x, cx, X, hk, rfl, rfl, HOX, HE, HK⟩ := hrel
    have HXL : Hid (x = len + X.length ∧ X.length ≤ 100) := by
      have h1 := HT.out
      rw [← HE.out, List.length_append] at h1
      have h2 := HOX.out.size
      have h3 := HO.out.size
      rw [List.length_append] at h2
      exact ⟨by omega, by omega⟩
    have hx6 : x ≤ 1000100 := by have := HXL.out; omega
    by_cases hlt : k < N
    · have hlt' : (k : Int) < (N : Int) := by omega
      obtain ⟨n, hn⟩ : ∃ n, ns[k]? = some n := ⟨_, List.getElem?_eq_getElem (by rw [← HNE.out]; exact hlt)⟩
      have hnb : n < 9223372036854775808 := HN.out n (List.mem_of_getElem? hn)
      have HD : Hid (ns.drop k = n :: ns.drop (k + 1)) := by
        show _ = _
        obtain ⟨h1, h2⟩ := List.getElem?_eq_some_iff.1 hn
        rw [List.drop_eq_getElem_cons h1, h2]
      have c0 : wr.cell? ⟨g, k, none⟩ = some (.int .i64 (n : Int)) := (HG.out.kept HK.out (by decide)).cell k (nvs_at hn)
      clear hn
      go_wp2_with fail
      refine (octet_Uint n (by omega) _).mono ?_
      rintro e w3 ⟨a3, c3, rfl, _, ho3, hb3⟩
      have hm1 := Leb.leb_length n
      obtain ⟨m1, hm1e⟩ : ∃ m, m = (Leb.leb n).length := ⟨_, rfl⟩
      have HM1 : Hid (m1 = (Leb.leb n).length) := hm1e
      rw [← hm1e] at ho3 hm1 ⊢
      have HO3 : Hid (Own w3 wr.heap.size a3 m1 c3 (Leb.leb n)) := ho3
      have HOX3 : Hid (Own w3 base ax x cx (xs ++ X)) := HOX.out.below hb3
      have HS : Hid (base ≤ wr.heap.size) := Nat.le_trans HBS.out HK.out.below.size
      have HK3 : Hid (Kb base w w3) := HK.out.trans (Kb.of hb3 HS.out)
      have HS3 : Hid (base ≤ w3.heap.size) := Nat.le_trans HBS.out HK3.out.below.size
      clear ho3 hb3 hm1e c0 HOX
      go_wp2_with (at_builtin; refine wpList_append_rd rfl (.tmp 13) (.tmp 16) rfl base ax x cx (xs ++ X) rfl HOX3.out a3 m1 c3 (Leb.leb n) rfl HO3.out.rd HO3.out.nil_cap' (by omega) HS3.out ?_)
      intro a5 c5 w5 ho5 hg5 hb5
      have HO5 : Hid (Own w5 base a5 (x + m1) c5 (xs ++ (X ++ Leb.leb n))) := ho5
      have HK5 : Hid (Kb base w w5) := HK3.out.trans (Kb.grown HOX3.out hb5 hg5)
      have HE5 : Hid ((X ++ Leb.leb n) ++ lebs (ns.drop (k + 1)) = T) := by show _ = _; rw [← HE.out, HD.out, lebs_cons, List.append_assoc]
      clear ho5 hg5 hb5 HOX3 HO3 HE HK HK3
      go_wp2
      go_roundw
      case rel => exact ⟨k + 1, a5, x + m1, c5, _, by omega, by go_num, rfl, HO5, HE5, HK5⟩
      case measure => simp [intOf]; omega
    · have hnl' : ¬ (k : Int) < (N : Int) := by omega
      have HX : Hid (X = T) := by
        show _ = _
        rw [← HE.out, List.drop_of_length_le (by rw [← HNE.out]; omega), lebs_nil, List.append_nil]
      have HXL2 : Hid (x = len + T.length) := by show _ = _; rw [← HX.out]; exact HXL.out.1
      clear HE
      go_wp2
      go_ret
      refine ⟨⟨ax, cx, by rw [← HXL2.out]; rfl, ?_⟩, HK.out⟩
      show Own _ _ _ _ _ _
      rw [← HXL2.out, ← HX.out]
      exact HOX.out
end Go.Proofs.YtoijhlnadaipoaaDoor
