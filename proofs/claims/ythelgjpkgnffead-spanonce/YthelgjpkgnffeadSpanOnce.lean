/- Proved: for every bytes grapevinelaw08.SpanOnce answers true and leaves its argument as it was. No condition. -/
import Derived.Test.YthelgjpkgnffeadSpOnceM
import Derived.Test.YthelgjpkgnffeadSpFrame
import Derived.Deep.RegionHeld3
namespace Go.Proofs.Ythelgjpkgnffead
open Go.ChangeShapes Go.WideShapes Go.ChangeAt Go.RowKit
namespace spanOnce

theorem takeL_err (bs : List Nat) : ∀ (n : Nat) (y : Int) (p : Sp) (acc : List Sp), (takeL bs n y p acc).2.2 ≠ 0 → (takeL bs n y p acc).1 = [] ∧ (takeL bs n y p acc).2.1 = 0
  | 0, y, p, acc, h => absurd rfl h
  | n + 1, y, p, acc, h => by
    obtain ⟨s, y2, e, hs⟩ : ∃ s y2 e, takeOne bs y p = (s, y2, e) := ⟨_, _, _, rfl⟩
    by_cases he : e = 0
    · subst he
      rw [takeL_ok hs] at h ⊢
      exact takeL_err bs n _ _ _ h
    · rw [takeL_bad hs he]
      exact ⟨rfl, rfl⟩
theorem takeM_err (bs : List Nat) (x : Int) (h : (takeM bs x).2.2 ≠ 0) : (takeM bs x).1 = [] ∧ (takeM bs x).2.1 = 0 := by
  obtain ⟨n, k, e, h1⟩ : ∃ n k e, Leb.take bs x = (n, k, e) := ⟨_, _, _, rfl⟩
  by_cases he : e = 0
  · subst he
    by_cases hn : 256 < n
    · rw [takeM_2 h1 hn]; exact ⟨rfl, rfl⟩
    · rw [takeM_3 h1 hn] at h ⊢
      exact takeL_err bs _ _ _ _ h
  · rw [takeM_1 h1 he]; exact ⟨rfl, rfl⟩
theorem takeM_once (bs : List Nat) (hb : ∀ z ∈ bs, z < 256) {l : List Sp} {z : Int} (h : takeM bs 0 = (l, z, 0)) : ∃ zn : Nat, z = (zn : Int) ∧ zn ≤ bs.length ∧ rightB Sp.zr l = true ∧ putE l = 0 ∧ putT l = bs.take zn := by
  obtain ⟨n, k, e, h1⟩ : ∃ n k e, Leb.take bs 0 = (n, k, e) := ⟨_, _, _, rfl⟩
  by_cases he : e = 0
  · subst he
    by_cases hn : 256 < n
    · rw [takeM_2 h1 hn] at h; simp at h
    · rw [takeM_3 h1 hn] at h
      obtain ⟨q, a1, a2, a3, a4, a5, a6⟩ := Leb.take_once bs 0 hb n k h1
      obtain rfl : q = 0 := by omega
      obtain ⟨m, zn, hl, hm, hr, hz, hz1, hz2, hc⟩ := takeL_once bs hb n k Sp.zr [] l z (by decide) (by omega) h
      rw [List.nil_append] at hl
      subst hl
      have hrb := (rightB_iff l Sp.zr).2 hr
      have hp := put_ok hrb (by omega)
      refine ⟨zn, hz, hz2, hrb, hp.1, ?_⟩
      rw [hp.2, hm, ← a5, show (0 : Int) = Sp.zr.to from rfl, ← hc]
      show cutB bs 0 k ++ cutB bs k zn = bs.take zn
      rw [cutB_join bs (by omega) hz1, cutB, List.drop_zero, Nat.sub_zero]
  · rw [takeM_1 h1 he] at h
    simp only [Prod.mk.injEq] at h
    omega
theorem rd_take {w : World} {a : Option Addr} {len : Nat} {bs : List Nat} (h : Rd w a len bs) (k : Nat) (hk : k ≤ len) : Rd w a k (bs.take k) := by
  refine ⟨by rw [List.length_take, h.size]; omega, fun x hx => h.byte x (List.mem_of_mem_take hx), ?_⟩
  rcases h.cells with h0 | ⟨b, off, ha, hb, hc⟩
  · left; omega
  · refine .inr ⟨b, off, ha, hb, fun i hi => ?_⟩
    rw [hc i (by omega)]
    simp only [List.getD_eq_getElem?_getD, List.getElem?_take_of_lt hi]

set_option maxRecDepth 100000 in
set_option maxHeartbeats 2000000 in
theorem walk (a : Option Addr) (len cap : Nat) (bs : List Nat) (w : World) (hr : Rd w a len bs) (hlc : len ≤ cap) (hl : len ≤ 9223372036854775000) :
    Calls Try.prog 4 #[.slice a len cap] w fun e w' => e = .returned (.bool true) ∧ Below w.heap.size w w' := by
  have HR : Hid (Rd w a len bs) := hr
  obtain ⟨l, z, e0, HT⟩ : ∃ l z e, Hid (takeM bs 0 = (l, z, e)) := ⟨_, _, _, rfl⟩
  clear hr
  go_enter Try.func4, Try.ntmps4
  go_wp2_with fail
  refine (span_Take a len cap bs 0 w HR.out hl ⟨by omega, by omega⟩).mono ?_
  rw [HT.out]
  rintro e w1 ⟨ht, hb1⟩
  have HB1 : Hid (Below w.heap.size w w1) := hb1
  clear hb1
  obtain ⟨v, rfl, hv⟩ := ht.out
  simp only at hv
  by_cases he : e0 = 0
  · subst he
    obtain ⟨zn, hz, hzl, hrb, hpe, hpt⟩ := takeM_once bs HR.out.byte HT.out
    subst hz
    have hsz := HR.out.size
    obtain ⟨av, cv, rfl, hlc1⟩ := hv.form
    have HV : Hid (SpsRd w1 av l.length l) := hv.rd
    obtain ⟨n1, hn1⟩ : ∃ n, n = l.length := ⟨_, rfl⟩
    rw [← hn1] at HV ⊢
    have HRS : Hid (RightS Sp.zr l) := (rightB_iff _ _).1 hrb
    have HN1 : Hid (n1 ≤ maxLen) := by
      have h1 := (RightS_len l Sp.zr HRS.out)
      show _ ≤ _
      by_cases h0 : l = []
      · rw [hn1, h0]; exact Nat.zero_le _
      · have h2 := h1.2 h0
        have h3 := h1.1
        simp only [Sp.zr] at h2 h3
        unfold maxLen
        omega
    clear ht hv hlc1 hn1
    simp only
    go_wp2_with fail
    refine (span_Put av n1 cv l w1 HV.out HN1.out).mono ?_
    rw [hpe, hpt]
    rintro e w2 ⟨⟨b2, m2, c2, rfl, ho2⟩, hb2⟩
    have hm2 : m2 = zn := by
      have := ho2.out.size
      rw [List.length_take] at this
      omega
    subst hm2
    have HB2 : Hid (Below w.heap.size w w2) := HB1.out.trans (hb2.mono HB1.out.size)
    have HV2 : Hid (SpsRd w2 av n1 l) := HV.out.below hb2
    have HO2 : Hid (Rd w2 b2 m2 (bs.take m2)) := ho2.out.rd
    have HRT : Hid (Rd w2 a m2 (bs.take m2)) := rd_take (HR.out.below HB2.out) m2 (by omega)
    have HRB : Hid (rightB Sp.zr l = true) := hrb
    obtain ⟨S, HSS⟩ : ∃ S, Hid (S = str (bs.take m2)) := ⟨_, rfl⟩
    have HCV : Hid (∀ w', Below w2.heap.size w2 w' → (convert 23 9 (.slice b2 m2 c2)).run Try.prog w' = .ok (.string S) w' ∧ (convert 23 9 (.slice a m2 cap)).run Try.prog w' = .ok (.string S) w') := fun w' hb' => by
      rw [conv_rd (HO2.out.below hb') c2, conv_rd (HRT.out.below hb') cap, HSS.out]
      exact ⟨rfl, rfl⟩
    have g1 : (0 : Int) ≤ (m2 : Int) := by omega
    have g2 : (m2 : Int) ≤ (cap : Int) := by omega
    clear ho2 hb2 hpe hpt hrb
    go_wp2
    have HB : Hid (Below w2.heap.size w2 w2.drew) := (Below.refl _ _).drew
    obtain ⟨x1, x2⟩ := HCV.out _ HB.out
    go_region_held (fun _ => True) (trivial)
      (first
        | (go_at_call 6; refine (law_live _).mono ?_; rintro e w3 ⟨rfl, hb3⟩; have HB' : Hid (Below w2.heap.size w2 w3) := HB.out.trans (hb3.mono HB.out.size); clear hb3 HB x1 x2; have HB := HB'; clear HB'; obtain ⟨x1, x2⟩ := HCV.out _ HB.out)
        | (go_at_call 7; refine (span_Right av n1 cv l _ (HV2.out.below HB.out) HN1.out).mono ?_; rw [HRB.out]; rintro e w4 ⟨rfl, hb4⟩; have HB' : Hid (Below w2.heap.size w2 w4) := HB.out.trans (hb4.mono HB.out.size); clear hb4 HB x1 x2; have HB := HB'; clear HB'; obtain ⟨x1, x2⟩ := HCV.out _ HB.out))
    all_goals go_wp2
    all_goals go_ret
    all_goals exact ⟨rfl, HB2.out.trans (HB.out.mono HB2.out.size)⟩
  · have hbad := takeM_err bs 0 (by rw [HT.out]; exact he)
    rw [HT.out] at hbad
    simp only at hbad
    obtain ⟨rfl, rfl⟩ := hbad
    obtain ⟨av, cv, rfl, _⟩ := hv.form
    have he' : (e0 == 0) = false := by rw [beq_eq_false_iff_ne]; exact he
    clear ht hv
    simp only [List.length_nil]
    go_wp2_with fail
    refine (law_live _).mono ?_
    rintro e w2 ⟨rfl, hb2⟩
    have HB2 : Hid (Below w.heap.size w w2) := HB1.out.trans (hb2.mono HB1.out.size)
    clear hb2
    go_wp2
    go_ret
    exact ⟨rfl, HB2.out⟩

theorem contract (H : Type) (enc : TypeId × Value → H) (W : World) (base : Nat) (args : Array Value) (ds gs : List (DataW H)) (before : List MemPlace)
    (hval : ∀ (j : Nat) t v, Try.f4.params[j]? = some t → args[j]? = some v → Value.okWide Try.prog W .any base t v)
    (hW : DataW.Whole enc Try.prog Try.f4.params.toList Rows.spanOnceSpec.vars false W args.toList ds gs before) (hsz0 : (DataW.weightsEach Try.prog (Try.f4.params.toList ++ Rows.spanOnceSpec.plain.varTypes Try.prog) (ds ++ gs)).all (· ≤ reachBytes) = true) :
    Calls Try.prog 4 args W fun e W' => ∃ v, e = .returned v ∧ Rows.spanOnceSpec.post enc Try.prog Try.f4 false true false false W args v W' := by
  have hW' := hW
  obtain ⟨p, q, hA0, hV, rfl, hfz, hnd⟩ := hW
  have hA : DataW.TrodAll enc Try.prog W 0 (fun _ => true) true Try.f4.params.toList args.toList ds p := hA0
  have hK := hA
  have hsz := hsz0
  rw [Try.params4] at hA hval hsz
  obtain ⟨v0, vs0, d0, ds0, p0, q0, hargs, rfl, rfl, h0, r0⟩ := trodAll_cons hA
  obtain ⟨rfl, rfl, rfl⟩ := trodAll_nil r0
  obtain rfl : args = #[v0] := by cases args; simp_all
  obtain ⟨rfl, rfl⟩ := trodVars_none hV
  obtain ⟨a0, len0, cap0, rfl⟩ := okWide_slice Try.underlying23 (hval 0 23 v0 rfl rfl)
  obtain ⟨bs0, rd0, lc0, cm0, bk0, nc0, fm0⟩ := rd_of h0
  have sz0 := reach_of hsz (j := 0) fm0 rfl rfl
  refine (walk a0 len0 cap0 bs0 W rd0 lc0 (by omega)).mono fun e W' ⟨he, bel⟩ => ?_
  subst he
  exact ⟨_, rfl, _, _, _, [], _, [], hW', trodAll_mk1 (shut_bool Try.underlying4 _), trodAll_below laidOut bel _ _ _ _ (by kernel_rfl) hK, rfl, bel.frame _, fun h => by cases h⟩

set_option maxRecDepth 100000 in
theorem lifted (os : Os) (started : os.Started) (H : Type) (enc : TypeId × Value → H) :
    ReturnsInHanded {} Try.checked os 4 .any (Rows.spanOnceSpec.pre6 enc Try.prog Try.f4 Rows.spanOnceRow.domain false) (Rows.spanOnceSpec.post enc Try.prog Try.f4 false true false false) := by
  refine returnsInHanded_of_change_sized (C := Try.checked) own started (by kernel_rfl) Try.func4
    (ChangeSpec.witness6 (enc := enc) (C := Try.checked) false ⟨#[], #[.slice none 0 0], []⟩ 8 (by kernel_rfl) (by kernel_rfl) (by kernel_rfl) (by kernel_rfl)) ?_
  intro W base args ds gs before hval hW _ hsz _
  exact contract H enc W base args ds gs before hval hW hsz

theorem said : Rows.SpanOnceSaid :=
  OpenClaim.holds_of_wide 4 Try.f4 rfl rfl rfl rfl rfl rfl rfl ⟨rfl, rfl, rfl, rfl, rfl⟩ rfl rfl rfl rfl rfl (by kernel_rfl) Try.func4 (by kernel_rfl)
    (of_decide_eq_true (by kernel_rfl)) (by unfold Func.isWrapper; first | (rw [if_pos (by decide +kernel)]; kernel_rfl) | (rw [if_neg (by decide +kernel)]; exact ⟨rfl, rfl⟩))
    (fun os started H enc _ => lifted os started H enc)
end spanOnce

theorem spanOnce_holds : Rows.SpanOnceSaid := spanOnce.said
end Go.Proofs.Ythelgjpkgnffead

