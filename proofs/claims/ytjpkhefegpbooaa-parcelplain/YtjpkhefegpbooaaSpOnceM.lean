/- Bytes that are taken for spans are just their bytes, and the spans are right. -/
import Derived.Test.YtjpkhefegpbooaaSpTakeL
import Derived.Test.YtjpkhefegpbooaaSpPutM
namespace Go.Proofs.Ytjpkhefegpbooaa

/-- The bytes from one place to another. -/
def cutB (bs : List Nat) (i j : Nat) : List Nat := (bs.drop i).take (j - i)
theorem cutB_join (bs : List Nat) {i j k : Nat} (h1 : i ≤ j) (h2 : j ≤ k) : cutB bs i j ++ cutB bs j k = cutB bs i k := by
  unfold cutB
  have e : bs.drop j = (bs.drop i).drop (j - i) := by rw [List.drop_drop]; congr 1; omega
  rw [e, show k - i = (j - i) + (k - j) from by omega, List.take_add]
theorem cutB_one (bs : List Nat) {i : Nat} (h : i < bs.length) : cutB bs i (i + 1) = [bs.getD i 0] := by
  unfold cutB
  rw [List.drop_eq_getElem_cons h, show i + 1 - i = 1 from by omega, List.getD_eq_getElem?_getD, List.getElem?_eq_getElem h]
  rfl
theorem takeL_once (bs : List Nat) (hb : ∀ z ∈ bs, z < 256) : ∀ (n y : Nat) (p : Sp) (acc l : List Sp) (z : Int), 0 ≤ p.to → y ≤ bs.length → takeL bs n (y : Int) p acc = (l, z, 0) →
    ∃ (m : List Sp) (zn : Nat), l = acc ++ m ∧ m.length = n ∧ RightS p m ∧ z = (zn : Int) ∧ y ≤ zn ∧ zn ≤ bs.length ∧ cutB bs y zn = putS p.to m
  | 0, y, p, acc, l, z, _, hy, h => by
    rw [takeL] at h
    simp only [Prod.mk.injEq, and_true] at h
    refine ⟨[], y, by rw [List.append_nil]; exact h.1.symm, rfl, trivial, h.2.symm, Nat.le_refl _, hy, ?_⟩
    rw [putS, cutB, Nat.sub_self, List.take_zero]
  | n + 1, y, p, acc, l, z, hp, hy, h => by
    obtain ⟨s, y2, e, hs⟩ : ∃ s y2 e, takeOne bs (y : Int) p = (s, y2, e) := ⟨_, _, _, rfl⟩
    by_cases he : e = 0
    · subst he
      rw [takeL_ok hs] at h
      obtain ⟨py, n1, k1, n2, k2, e0, h1, h2, hk2, hy2, hse, hfit, hkn, hgo⟩ := takeOne_fit hb hs
      obtain ⟨q1, a1, a2, a3, a4, a5, a6⟩ := Leb.take_once bs (y : Int) hb n1 k1 h1
      obtain ⟨q2, b1, b2, b3, b4, b5, b6⟩ := Leb.take_once bs (k1 : Int) hb n2 k2 h2
      have eq1 : q1 = y := by omega
      have eq2 : q2 = k1 := by omega
      subst eq1
      subst eq2
      rw [show y2 = ((k2 + 1 : Nat) : Int) from by omega] at h
      subst hse
      obtain ⟨m, zn, hl, hm, hr, hz, hz1, hz2, hc⟩ := takeL_once bs hb n (k2 + 1) _ _ l z (by simp only; omega) (by omega) h
      refine ⟨⟨p.to + 1 + n1, p.to + 1 + n1 + n2, (bs.getD k2 0 : Int)⟩ :: m, zn, by rw [hl]; simp, by simp [hm], ⟨by simp only; omega, by simp only; omega, by simp only; omega, by simp only; omega, by simp only; omega, ?_, hr⟩, hz, by omega, hz2, ?_⟩
      · rintro ⟨g1, g2⟩
        simp only at g1 g2
        exact hgo ⟨by omega, g2⟩
      · rw [putS, oneS]
        simp only
        rw [show (p.to + 1 + (n1 : Int) - p.to - 1).toNat = n1 from by omega, show (p.to + 1 + (n1 : Int) + n2 - (p.to + 1 + n1)).toNat = n2 from by omega, show ((bs.getD k2 0 : Nat) : Int).toNat = bs.getD k2 0 from by omega, ← hc,
          ← cutB_one bs hk2, ← a5, ← b5]
        show cutB bs q1 zn = cutB bs q1 q2 ++ cutB bs q2 k2 ++ cutB bs k2 (k2 + 1) ++ cutB bs (k2 + 1) zn
        rw [cutB_join bs (by omega) (by omega), cutB_join bs (by omega) (by omega), cutB_join bs (by omega) (by omega)]
    · rw [takeL_bad hs he] at h
      simp only [Prod.mk.injEq] at h
      exact absurd h.2.2 he
end Go.Proofs.Ytjpkhefegpbooaa
