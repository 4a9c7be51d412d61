/- grapevineref11: Same of records that read alike. -/
import Derived.Test.YtghajmcohdedlaaEvL26
import Derived.BigQuiet
namespace Go.Proofs.Ytghajmcohdedlaa
open Go.RowKit

set_option maxRecDepth 100000 in
set_option maxHeartbeats 4000000 in
theorem ref_Same11 (w : World) (B B2 : Nat) (v v2 : Value) (La Lb : List Rc) (ha : Rcs w B v La) (hb : Rcs w B2 v2 Lb) (he : La.map plR = Lb.map plR) (hl : La.length ≤ 100000) :
    Calls Try.prog 30 #[v, v2] w fun e w' => e = .returned (.bool true) ∧ Below w.heap.size w w' := by
  obtain ⟨aa, ca, hva⟩ := ha.val
  obtain ⟨ab, cb, hvb⟩ := hb.val
  subst hva hvb
  obtain ⟨n, HN⟩ : ∃ n, Hid (n = La.length) := ⟨_, rfl⟩
  have HL : Hid (Lb.length = n) := by
    (show _ = _)
    have h1 : (La.map plR).length = (Lb.map plR).length := by rw [he]
    rw [List.length_map, List.length_map] at h1
    rw [HN.out]
    exact h1.symm
  rw [← HN.out] at ha hl ⊢
  rw [HL.out] at hb ⊢
  have HA : Hid (Rcs w B (.slice aa n ca) La) := ha
  have HBB : Hid (Rcs w B2 (.slice ab n cb) Lb) := hb
  have HE : Hid (La.map plR = Lb.map plR) := he
  have e0 : ((n : Int) != (n : Int)) = false := by simp
  clear ha hb he
  go_enter Try.func30, Try.ntmps30
  go_wp2
  go_loopw [5] (fun t5 wr => ∃ k : Nat, k ≤ n ∧ t5 = .int .i64 (k : Int) ∧ Hid (Below w.heap.size w wr)) (fun t5 _ => n - (intOf t5).toNat)
  case atStart => exact ⟨0, by omega, rfl, Below.refl _ _⟩
  case round =>
    obtain ⟨k, hk, rfl, HB⟩ := hrel
    by_cases hlt : k < n
    · have hlt' : (k : Int) < (n : Int) := by omega
      have h0k : (0 : Int) ≤ (k : Int) := by omega
      obtain ⟨r, hra⟩ : ∃ r, La[k]? = some r := ⟨_, List.getElem?_eq_getElem (by rw [← HN.out]; exact hlt)⟩
      obtain ⟨s, hsb⟩ : ∃ s, Lb[k]? = some s := ⟨_, List.getElem?_eq_getElem (by rw [HL.out]; exact hlt)⟩
      have hpl : plR r = plR s := by
        have h1 : (La.map plR)[k]? = some (plR r) := by rw [List.getElem?_map, hra]; rfl
        have h2 : (Lb.map plR)[k]? = some (plR s) := by rw [List.getElem?_map, hsb]; rfl
        rw [HE.out, h2] at h1
        simp only [Option.some.injEq] at h1
        exact h1.symm
      obtain ⟨g1, c1, hv1, hg1, hr1⟩ := (HA.out.below HB.out).at_ hra
      obtain ⟨g2, c2, hv2, hg2, hr2⟩ := (HBB.out.below HB.out).at_ hsb
      have e1 : aa = some ⟨g1, 0, none⟩ := by simp only [Value.slice.injEq] at hv1; exact hv1.1
      have e2 : ab = some ⟨g2, 0, none⟩ := by simp only [Value.slice.injEq] at hv2; exact hv2.1
      subst e1 e2
      have hd1 := ((HA.out.below HB.out).bd r (List.mem_of_getElem? hra)).1
      have hd2 := ((HBB.out.below HB.out).bd s (List.mem_of_getElem? hsb)).1
      obtain ⟨tk, ra, rn, rc', rbs⟩ := r
      obtain ⟨tk2, sa, sn, sc, sbs⟩ := s
      simp only [plR, Prod.mk.injEq] at hpl
      obtain ⟨rfl, rfl⟩ := hpl
      have d0 : wr.cell? ⟨g1, k * 2, none⟩ = some (.int .i64 (tk : Int)) := hr1 0 _ rfl
      have d1 : wr.cell? ⟨g1, k * 2 + 1, none⟩ = some (.slice ra rn rc') := hr1 1 _ rfl
      have f0 : wr.cell? ⟨g2, k * 2, none⟩ = some (.int .i64 (tk : Int)) := hr2 0 _ rfl
      have f1 : wr.cell? ⟨g2, k * 2 + 1, none⟩ = some (.slice sa sn sc) := hr2 1 _ rfl
      obtain ⟨S, HSS⟩ : ∃ S, Hid (S = str rbs) := ⟨_, rfl⟩
      have x1 : ∀ m, (convert 49 9 (.slice ra rn rc')).run Try.prog (wr.drewN m) = .ok (.string S) (wr.drewN m) := fun m => by rw [conv_rd (hd1.below (below_drews (Below.refl _ _) m)) rc', HSS.out]
      have x2 : ∀ m, (convert 49 9 (.slice sa sn sc)).run Try.prog (wr.drewN m) = .ok (.string S) (wr.drewN m) := fun m => by rw [conv_rd (hd2.below (below_drews (Below.refl _ _) m)) sc, HSS.out]
      have t1 : ((tk : Int) == (tk : Int)) = true := by simp
      have t2 : ((tk : Int) != (tk : Int)) = false := by simp
      clear hra hsb hv1 hv2 hg1 hg2 hr1 hr2 hd1 hd2
      go_wp2
      go_quiet (fail)
      generalize hnq : wr.drewN _ = w2
      have HB2 : Hid (Below w.heap.size w w2) := by show Below _ _ _; rw [← hnq]; exact below_drews HB.out _
      clear hnq x1 x2 d0 d1 f0 f1
      go_wp2
      go_roundw
      case rel => exact ⟨k + 1, by omega, by go_num, HB2⟩
      case measure => simp [intOf]; omega
    · have hnl : ¬ (k : Int) < (n : Int) := by omega
      go_wp2
      go_ret
      exact ⟨rfl, HB.out⟩
end Go.Proofs.Ytghajmcohdedlaa
