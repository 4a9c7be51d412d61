/- grapevineref08.edges: where something may begin. -/
import Derived.Test.YtcgjpkdpemlmbaaSpIns
namespace Go.Proofs.Ytcgjpkdpemlmbaa
open Go.RowKit

/-- How many of two maps are gone through. -/
def CovI (i : Nat) (E : List Int) (la lb : List Sp) : Prop := (1 ≤ i → CovS E la) ∧ (2 ≤ i → CovS E lb)
theorem CovI.put {i : Nat} {E : List Int} {la lb : List Sp} (h : CovI i E la lb) (n : Int) : CovI i (putI E n) la lb := ⟨fun g => (h.1 g).put n, fun g => (h.2 g).put n⟩

set_option maxRecDepth 100000 in
set_option maxHeartbeats 2000000 in
theorem ref_edges (g : Nat) (a b : Option Addr) (na ca nb cb : Nat) (la lb : List Sp) (w : World) (hg : Bk w g #[.slice a na ca, .slice b nb cb] 22) (ha : SpsRd w a na la) (hb : SpsRd w b nb lb) (hna : na ≤ 400) (hnb : nb ≤ 400) (ra : RightS Sp.zr la) (rb : RightS Sp.zr lb) :
    Calls Try.prog 41 #[.slice (some ⟨g, 0, none⟩) 2 2] w fun e w' => (∃ av nv cv E, e = .returned (.slice av nv cv) ∧ Hid (Ins w' w.heap.size (.slice av nv cv) E) ∧ Hid (EdgeI E ∧ CovS E la ∧ CovS E lb ∧ E.length ≤ 1601)) ∧ Below w.heap.size w w' := by
  have HG : Hid (Bk w g #[.slice a na ca, .slice b nb cb] 22) := hg
  have HA : Hid (SpsRd w a na la) := ha
  have HBB : Hid (SpsRd w b nb lb) := hb
  have HRA : Hid (RightS Sp.zr la) := ra
  have HRB : Hid (RightS Sp.zr lb) := rb
  have HNN : Hid (na ≤ 400 ∧ nb ≤ 400) := ⟨hna, hnb⟩
  clear hg ha hb ra rb hna hnb
  go_enter Try.func41, Try.ntmps41
  go_wp2
  go_loopw [3, 4] (fun t3 t4 wr => ∃ (i : Nat) (av : Option Addr) (nv cv : Nat) (E : List Int), i ≤ 2 ∧ t4 = .int .i64 (i : Int) ∧ t3 = .slice av nv cv ∧ Hid (Ins wr w.heap.size (.slice av nv cv) E) ∧ Hid (EdgeI E) ∧ Hid (CovI i E la lb) ∧ Hid (E.length ≤ 1 + 800 * i) ∧ Hid (Below w.heap.size w wr)) (fun _ t4 _ => 2 - (intOf t4).toNat)
  case atStart => exact ⟨0, _, _, _, [1], by omega, rfl, rfl, Ins.lit w w.heap.size [1] #[.int .i64 1] rfl (Nat.le_refl _) (by unfold maxLen; simp), ⟨[], rfl, trivial⟩, ⟨fun h => by omega, fun h => by omega⟩, by show _ ≤ _; simp, below_new _ _⟩
  case round =>
    obtain ⟨i, av, nv, cv, E, hi, rfl, rfl, HV, HED, HCOV, HLEN, HB⟩ := hrel
    by_cases hlt : i < 2
    · have hlt' : (i : Int) < 2 := by omega
      obtain ⟨x, nx, cx, lx, HCELL, HX, HNX, HRX, HNEXT⟩ : ∃ (x : Option Addr) (nx cx : Nat) (lx : List Sp), Hid (∀ w', Below w.heap.size w w' → w'.cell? ⟨g, i, none⟩ = some (.slice x nx cx)) ∧ Hid (SpsRd w x nx lx) ∧ Hid (nx ≤ 400) ∧ Hid (RightS Sp.zr lx) ∧ Hid (∀ E, CovS E lx → CovI i E la lb → CovI (i + 1) E la lb) := by
        by_cases h0 : i = 0
        · subst h0
          exact ⟨a, na, ca, la, fun w' hb' => (HG.out.stay hb').cell 0 rfl, HA, HNN.out.1, HRA, fun E h1 h2 => ⟨fun _ => h1, fun h => by omega⟩⟩
        · obtain rfl : i = 1 := by omega
          exact ⟨b, nb, cb, lb, fun w' hb' => (HG.out.stay hb').cell 1 rfl, HBB, HNN.out.2, HRB, fun E h1 h2 => ⟨fun _ => h2.1 (by omega), fun _ => h1⟩⟩
      have hnx := HNX.out
      go_wp2
      go_loopw [3, 5] (fun t3 t5 w2 => ∃ (k : Nat) (av2 : Option Addr) (nv2 cv2 : Nat) (E2 : List Int), k ≤ nx ∧ t5 = .int .i64 (k : Int) ∧ t3 = .slice av2 nv2 cv2 ∧ Hid (Ins w2 w.heap.size (.slice av2 nv2 cv2) E2) ∧ Hid (EdgeI E2) ∧ Hid (CovI i E2 la lb) ∧ Hid (CovS E2 (lx.take k)) ∧ Hid (E2.length ≤ 1 + 800 * i + 2 * k) ∧ Hid (Below w.heap.size w w2)) (fun _ t5 _ => nx - (intOf t5).toNat)
      case atStart => exact ⟨0, av, nv, cv, E, by omega, rfl, rfl, HV, HED, HCOV, fun s hs => by simp at hs, HLEN, HB⟩
      case round =>
        obtain ⟨k, av2, nv2, cv2, E2, hk, rfl, rfl, HV2, HED2, HCOV2, HCX, HLEN2, HB2⟩ := hrel
        have e1 := HCELL.out _ HB2.out
        by_cases hltk : k < nx
        · have hltk' : (k : Int) < (nx : Int) := by omega
          obtain ⟨g3, o3, rfl, hg3, q, hq, c0, c1, c2⟩ := (HX.out.below HB2.out).at_ k hltk
          have hfit := RightS_fits lx Sp.zr (by decide) HRX.out q (List.mem_of_getElem? hq)
          have HQ : Hid (lx.take (k + 1) = lx.take k ++ [q]) := by show _ = _; rw [List.take_add_one, hq]; rfl
          have HQ2 : Hid (lx[k]? = some q) := hq
          clear hq hg3 c2
          obtain ⟨qf, qt, qi⟩ := q
          simp only at c0 c1 hfit
          obtain ⟨f1, f2, f3, f4, f5, f6⟩ := hfit
          have hE2 : nv2 ≤ 100000 := by
            have h1 := HV2.out.rd.size
            have h2 := HLEN2.out
            omega
          go_wp2_with fail
          refine (ref_put av2 nv2 cv2 E2 qf _ HV2.out.rd hE2).mono ?_
          rintro e w3 ⟨⟨av3, nv3, cv3, rfl, HV3⟩, hb3⟩
          have HB3 : Hid (Below w.heap.size w w3) := HB2.out.trans (hb3.mono HB2.out.size)
          have HLEN3 : Hid ((putI E2 qf).length ≤ 1 + 800 * i + 2 * k + 1) := by
            show _ ≤ _
            have h1 := putI_len E2 qf
            have h2 := HLEN2.out
            omega
          have HED3 : Hid (EdgeI (putI E2 qf)) := HED2.out.put f1
          have e3 := HCELL.out _ HB3.out
          have d1 : w3.cell? ⟨g3, o3 + k * 3 + 1, none⟩ = some (.int .i64 qt) := by
            obtain ⟨g', o', hga, _, q', hq', _, c', _⟩ := (HX.out.below HB3.out).at_ k hltk
            simp only [Option.some.injEq, Addr.mk.injEq, and_true] at hga
            obtain ⟨rfl, rfl⟩ := hga
            rw [HQ2.out] at hq'
            simp only [Option.some.injEq] at hq'
            subst hq'
            exact c'
          have hE3 : nv3 ≤ 100000 := by
            have h1 := HV3.out.rd.size
            have h2 := HLEN3.out
            omega
          clear hb3 c0 c1 e1
          go_wp2_with fail
          refine (ref_put av3 nv3 cv3 (putI E2 qf) (qt + 1) w3 HV3.out.rd hE3).mono ?_
          rintro e w4 ⟨⟨av4, nv4, cv4, rfl, HV4⟩, hb4⟩
          have HB4 : Hid (Below w.heap.size w w4) := HB3.out.trans (hb4.mono HB3.out.size)
          have HLEN4 : Hid ((putI (putI E2 qf) (qt + 1)).length ≤ 1 + 800 * i + 2 * (k + 1)) := by
            show _ ≤ _
            have h1 := putI_len (putI E2 qf) (qt + 1)
            have h2 := HLEN3.out
            omega
          have HED4 : Hid (EdgeI (putI (putI E2 qf) (qt + 1))) := HED3.out.put (by omega)
          have HCX4 : Hid (CovS (putI (putI E2 qf) (qt + 1)) (lx.take (k + 1))) := by
            show CovS _ _
            rw [HQ.out]
            exact HCX.out.snoc ⟨qf, qt, qi⟩ f2
          have HCOV4 : Hid (CovI i (putI (putI E2 qf) (qt + 1)) la lb) := (HCOV2.out.put _).put _
          have HV5 : Hid (Ins w4 w.heap.size (.slice av4 nv4 cv4) (putI (putI E2 qf) (qt + 1))) := HV4.out.lower HB3.out.size
          generalize putI (putI E2 qf) (qt + 1) = E4 at *
          clear hb4 d1 e3
          go_wp2
          go_roundw
          case rel => exact ⟨k + 1, av4, nv4, cv4, E4, by omega, by go_num, rfl, HV5, HED4, HCOV4, HCX4, HLEN4, HB4⟩
          case measure => simp [intOf]; omega
        · have hnl : ¬ (k : Int) < (nx : Int) := by omega
          have HCX2 : Hid (CovI (i + 1) E2 la lb) := by
            have h1 := HCX.out
            rw [List.take_of_length_le (by rw [HX.out.size]; omega)] at h1
            exact HNEXT.out E2 h1 HCOV2.out
          have HLEN3 : Hid (E2.length ≤ 1 + 800 * (i + 1)) := by
            show _ ≤ _
            have := HLEN2.out
            omega
          go_wp2
          go_roundw
          case rel => exact ⟨i + 1, av2, nv2, cv2, E2, by omega, by go_num, rfl, HV2, HED2, HCX2, HLEN3, HB2⟩
          case measure => simp [intOf]; omega
    · obtain rfl : i = 2 := by omega
      go_wp2
      go_ret
      exact ⟨⟨av, nv, cv, E, rfl, HV, HED.out, HCOV.out.1 (by omega), HCOV.out.2 (by omega), by have := HLEN.out; omega⟩, HB.out⟩
end Go.Proofs.Ytcgjpkdpemlmbaa
