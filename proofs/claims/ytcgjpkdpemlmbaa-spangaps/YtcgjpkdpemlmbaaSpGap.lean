/- span.Gaps. -/
import Derived.Test.YtcgjpkdpemlmbaaSpPart
namespace Go.Proofs.Ytcgjpkdpemlmbaa
open Go.RowKit

theorem part_len (s : Sp) (f t : Int) : (partS s f t).length ≤ 1 := by
  by_cases h : min s.to t < max s.fr f
  · rw [partS_none h]; simp
  · rw [partS_some h]; simp
theorem gaps_len : ∀ (l : List Sp) (z f t : Int), (gapsS z l f t).length ≤ l.length + 1
  | [], z, f, t => by rw [gapsS]; have := part_len ⟨z, 1099511627776, 0⟩ f t; simpa using this
  | s :: l, z, f, t => by
    rw [gapsS, List.length_append, List.length_cons]
    have h1 := part_len ⟨z, s.fr - 1, 0⟩ f t
    have h2 := gaps_len l (s.to + 1) f t
    omega

set_option maxRecDepth 100000 in
set_option maxHeartbeats 1000000 in
theorem span_Gaps (a : Option Addr) (n cap : Nat) (l : List Sp) (f t : Int) (w : World) (hr : SpsRd w a n l) (hc : n ≤ cap) (hcm : cap ≤ maxLen) :
    Calls Try.prog 18 #[.slice a n cap, .int .i64 f, .int .i64 t] w fun e w' => Hid (RangeTold w' w.heap.size (rightB Sp.zr l && mayB f t) (gapsS 1 l f t) e) ∧ Below w.heap.size w w' := by
  have HR : Hid (SpsRd w a n l) := hr
  have HC : Hid (n ≤ cap ∧ cap ≤ maxLen) := ⟨hc, hcm⟩
  have hn : n ≤ 2 ^ 63 - 1 := Nat.le_trans hc hcm
  clear hr hc hcm
  go_enter Try.func18, Try.ntmps18
  go_wp2_with fail
  refine (span_Right a n cap l w HR.out (Nat.le_trans HC.out.1 HC.out.2)).mono ?_
  rintro e w1 ⟨rfl, hb1⟩
  have HB1 : Hid (Below w.heap.size w w1) := hb1
  clear hb1
  cases hrl : rightB Sp.zr l with
  | false =>
    have HOK : Hid ((rightB Sp.zr l && mayB f t) = false) := by show _ = _; rw [hrl]; rfl
    clear hrl
    go_wp2
    go_returns
    exact ⟨.inl ⟨HOK.out, rfl⟩, HB1.out⟩
  | true =>
    have HRS : Hid (RightS Sp.zr l) := (rightB_iff _ _).1 hrl
    go_wp2_with fail
    refine (span_mayBe f t w1).mono ?_
    rintro e w2 ⟨rfl, rfl⟩
    cases hmb : mayB f t with
    | false =>
      have HOK : Hid ((rightB Sp.zr l && mayB f t) = false) := by show _ = _; rw [hrl, hmb]; rfl
      clear hmb hrl
      go_wp2
      go_returns
      exact ⟨.inl ⟨HOK.out, rfl⟩, HB1.out⟩
    | true =>
      have HOK : Hid ((rightB Sp.zr l && mayB f t) = true) := by show _ = _; rw [hrl, hmb]; rfl
      have HMB : Hid (1 ≤ f ∧ f ≤ t ∧ t ≤ 1099511627776) := (mayB_iff _ _).1 hmb
      obtain ⟨hm1, hm2, hm3⟩ := HMB.out
      have HSH : Hid ((gapsS 1 l f t).length ≤ 1099511627777) := by
        have h1 := gaps_len l 1 f t
        have h2 := right_short HRS.out
        show _ ≤ _
        omega
      have HFIT : Hid (∀ q ∈ l, 1 ≤ q.fr ∧ q.fr ≤ 1099511627776 ∧ q.fr ≤ q.to ∧ q.to ≤ 1099511627776 ∧ 1 ≤ q.is ∧ q.is ≤ 3) := RightS_fits l Sp.zr (by decide) HRS.out
      clear hmb hrl
      go_wp2
      go_loopw [8, 9, 23] (fun t8 t9 t23 wr => ∃ (k : Nat) (av : Option Addr) (nv cv : Nat) (out : List Sp) (z : Int), k ≤ n ∧ t23 = .int .i64 (k : Int) ∧ t9 = .int .i64 z ∧ t8 = .slice av nv cv ∧ Hid (Sps wr w.heap.size (.slice av nv cv) out) ∧ Hid (out ++ gapsS z (l.drop k) f t = gapsS 1 l f t) ∧ Hid (Below w.heap.size w wr)) (fun _ _ t23 _ => n - (intOf t23).toNat)
      case atStart => exact ⟨0, none, 0, 0, [], 1, by omega, rfl, rfl, rfl, Sps.nil_ _ _, rfl, HB1⟩
      case round =>
        obtain ⟨k, av, nv, cv, out, z, hk, rfl, rfl, rfl, HV, HE, HB⟩ := hrel
        have HSZ : Hid (out.length ≤ 2000000000000) := by
          show _ ≤ _
          have h1 := HSH.out
          rw [← HE.out, List.length_append] at h1
          omega
        by_cases hlt : k < n
        · have hlt' : (k : Int) < (n : Int) := by omega
          obtain ⟨g, o, rfl, hg, q, hq, c0, c1, c2⟩ := (HR.out.below HB.out).at_ k hlt
          have HD : Hid (l.drop k = q :: l.drop (k + 1)) := drop_at hq
          have hfit := HFIT.out q (List.mem_of_getElem? hq)
          clear hq hg
          obtain ⟨qf, qt, qi⟩ := q
          simp only at c0 c1 c2 hfit
          obtain ⟨f1, f2, f3, f4, _, _⟩ := hfit
          have HB3 : Hid (Below wr.heap.size wr (wr.alloc (.cells #[.int .i64 qf, .int .i64 qt, .int .i64 qi] 42))) := below_new _ _
          go_wp2_with fail
          refine (span_layPart w.heap.size (.slice av nv cv) out z (qf - 1) 0 f t _ (HV.out.below HB3.out) (Nat.le_trans HB.out.size HB3.out.size) HSZ.out).mono ?_
          rintro e w4 ⟨⟨v', rfl, HV'⟩, hb4⟩
          have HB4 : Hid (Below w.heap.size w w4) := (HB.out.trans (HB3.out.mono HB.out.size)).trans ((HV.out.below HB3.out).grown (Nat.le_trans HB.out.size HB3.out.size) hb4)
          have HN4 : Hid (Bk w4 wr.heap.size #[.int .i64 qf, .int .i64 qt, .int .i64 qi] 42) := by
            refine (Bk.new wr #[.int .i64 qf, .int .i64 qt, .int .i64 qi] 42).grown hb4 (fun e => ?_)
            have h1 := (HV.out.row.lt _ e.symm).2
            omega
          have HE2 : Hid (out ++ partS ⟨z, qf - 1, 0⟩ f t ++ gapsS (qt + 1) (l.drop (k + 1)) f t = gapsS 1 l f t) := by
            show _ = _
            rw [← HE.out, HD.out, gapsS, List.append_assoc]
          obtain ⟨out2, ho2⟩ : ∃ o, o = out ++ partS ⟨z, qf - 1, 0⟩ f t := ⟨_, rfl⟩
          rw [← ho2] at HV' HE2
          clear ho2
          obtain ⟨av', cv', rfl, _⟩ := HV'.out.form
          have d1 : w4.cell? ⟨wr.heap.size, 1, none⟩ = some (.int .i64 qt) := HN4.out.cell 1 rfl
          clear hb4 c0 c1 c2 HE HB3
          go_wp2
          go_roundw
          case rel => exact ⟨k + 1, av', _, cv', _, qt + 1, by omega, by go_num, by go_num, rfl, HV', HE2, HB4⟩
          case measure => simp [intOf]; omega
        · have hnl : ¬ (k : Int) < (n : Int) := by omega
          have HX : Hid (out ++ partS ⟨z, 1099511627776, 0⟩ f t = gapsS 1 l f t) := by
            have h1 := HE.out
            rw [List.drop_of_length_le (by rw [HR.out.size]; omega), gapsS] at h1
            exact h1
          clear HE
          go_wp2_with fail
          refine (span_layPart w.heap.size (.slice av nv cv) out z 1099511627776 0 f t wr HV.out HB.out.size HSZ.out).mono ?_
          rintro e w4 ⟨⟨v', rfl, HV'⟩, hb4⟩
          have HB4 : Hid (Below w.heap.size w w4) := HB.out.trans (HV.out.grown HB.out.size hb4)
          rw [HX.out] at HV'
          clear hb4
          go_wp2
          go_returns
          exact ⟨.inr ⟨HOK.out, _, rfl, HV'.out⟩, HB4.out⟩
end Go.Proofs.Ytcgjpkdpemlmbaa
