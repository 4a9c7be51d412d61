/- Proved: for every bytes and number grapevinelaw13.ParcelOnce answers true and leaves its arguments as they were. No condition. -/
import Derived.Test.YtmpljoljpgbamaaPcSame0
import Derived.Test.YtmpljoljpgbamaaPtD
import Derived.Test.YtmpljoljpgbamaaPt8
import Derived.Test.YtmpljoljpgbamaaPp4
import Derived.Test.YtmpljoljpgbamaaPcLive
namespace Go.Proofs.Ytmpljoljpgbamaa
open Go.ChangeShapes Go.WideShapes Go.ChangeAt Go.RowKit
namespace parcelOnce

theorem takeP_bad {bs : List Nat} (h : (takeP bs).2 ≠ 0) : (takeP bs).1 = Pc.zero := by
  unfold takeP at h ⊢
  split
  · rfl
  · rename_i h1
    rw [if_neg h1] at h
    split
    · rename_i h2
      rw [if_pos h2] at h
      split
      · rename_i h3
        rw [if_pos h3] at h
        split
        · rename_i h4
          rw [if_pos h4] at h
          exact absurd rfl h
        · rfl
      · rfl
    · rfl
theorem rd_take {w : World} {a : Option Addr} {len : Nat} {bs : List Nat} (h : Rd w a len bs) (k : Nat) (hk : k ≤ len) : Rd w a k (bs.take k) := by
  refine ⟨by rw [List.length_take, h.size]; omega, fun x hx => h.byte x (List.mem_of_mem_take hx), ?_⟩
  rcases h.cells with h0 | ⟨b, off, ha, hb, hc⟩
  · left; omega
  · refine .inr ⟨b, off, ha, hb, fun i hi => ?_⟩
    rw [hc i (by omega)]
    simp only [List.getD_eq_getElem?_getD, List.getElem?_take_of_lt hi]

set_option maxRecDepth 100000 in
set_option maxHeartbeats 2000000 in
theorem walk (a : Option Addr) (len cap : Nat) (bs : List Nat) (k : Nat) (w : World) (hr : Rd w a len bs) (hlc : len ≤ cap) (hl : cap ≤ 140737488351232) (hk : k < 65536) :
    Calls Try.prog 8 #[.slice a len cap, .int .u16 (k : Int)] w fun e w' => e = .returned (.bool true) ∧ Below w.heap.size w w' := by
  have HR : Hid (Rd w a len bs) := hr
  have HBY : Hid (∀ z ∈ bs, z < 256) := hr.byte
  have HSZ : Hid (bs.length = len) := hr.size
  obtain ⟨p, F, hT⟩ : ∃ p F, takeP bs = (p, F) := ⟨_, _, rfl⟩
  have HT : Hid (takeP bs = (p, F)) := hT
  have hct := pc_Take a len cap bs w hr hlc (by omega)
  rw [hT] at hct
  have HCT : Hid (Calls Try.prog 17 #[.slice a len cap] w fun e w' => Hid (TakeP13 w w' (p, F) e) ∧ Below w.heap.size w w') := hct
  have hll : len ≤ 140737488351232 := by omega
  clear hr hct hT hlc hl
  go_enter Try.func8, Try.ntmps8
  go_wp2_with fail
  refine HCT.out.mono ?_
  rintro e w1 ⟨ht, hb1⟩
  obtain ⟨sa, sn, sc, ia, im, ic, L, he, hs1, hi1, hm1⟩ := ht.out
  simp only at he hs1 hm1
  subst he
  have HB1 : Hid (Below w.heap.size w w1) := hb1
  clear ht hb1 HCT
  by_cases hF : F = 0
  · subst hF
    obtain ⟨h1, h2, h3, h4, h5, h6⟩ := takeP_once HBY.out HT.out
    have HPC : Hid (chk p = 0 ∧ putD p = bs) := ⟨h1, h2⟩
    have HL0 : Hid (0 < len) := by rw [← HSZ.out]; exact h3
    have hl0 : 0 < len := HL0.out
    have HFT : Hid (∀ q ∈ p.items, ItFit q) := by rw [h5]; exact parF_fit _ _ _
    have HPR : Hid (PcRd w1 p sa sn sc ia im ic) := by
      obtain ⟨sa', sc', e1, _⟩ := hs1.form
      simp only [Value.slice.injEq] at e1
      obtain ⟨ia', ic', e2, e3, e4⟩ := hi1.form
      simp only [Value.slice.injEq] at e2
      have hsm : sn ≤ sc ∧ sc ≤ maxLen := by
        rcases hs1.row.2 with ⟨g1, g2⟩ | ⟨g', c', cur, g1, _, _, g4, g5, _⟩
        · simp only [Value.slice.injEq] at g1
          exact ⟨by omega, by omega⟩
        · simp only [Value.slice.injEq] at g1
          obtain ⟨_, g6, rfl⟩ := g1
          exact ⟨by omega, g5⟩
      have hir := hi1.rd (fun q hq => (HFT.out q (by rw [← hm1]; exact hq)).wide)
      rw [hm1] at hir
      exact ⟨hs1.rd, hir, hsm.1, hsm.2, by omega, by omega⟩
    clear h1 h2 h3 h4 h5 h6 hs1 hi1 hm1 HFT
    obtain ⟨p0, HP0⟩ : ∃ p0, Hid (p0 = p) := ⟨_, rfl⟩
    have HV : Hid (p0.val sa sn sc ia im ic = p.val sa sn sc ia im ic) := by show _ = _; rw [HP0.out]
    rw [← HP0.out] at HPR HPC
    have HTP : Hid (takeP bs = (p0, 0)) := by rw [HP0.out]; exact HT.out
    clear HT
    obtain ⟨pk, pp, ps, pn, pf, pt, pl, pi⟩ := p
    unfold Pc.val
    simp only
    have HBX : Hid (Below w1.heap.size w1 (w1.alloc (.cells #[.int .i64 pk, .int .i64 pp, .int .i64 ps, .int .i64 pn, .int .i64 pf, .int .i64 pt, .slice sa sn sc, .slice ia im ic] 26))) := below_new _ _
    have hcp := pc_Put p0 sa sn sc ia im ic _ (HPR.out.below HBX.out)
    rw [HV.out] at hcp
    have HCP : Hid (Calls Try.prog 15 #[Pc.val ⟨pk, pp, ps, pn, pf, pt, pl, pi⟩ sa sn sc ia im ic] (w1.alloc (.cells #[.int .i64 pk, .int .i64 pp, .int .i64 ps, .int .i64 pn, .int .i64 pf, .int .i64 pt, .slice sa sn sc, .slice ia im ic] 26)) fun e w' => PutTold w' (w1.alloc (.cells #[.int .i64 pk, .int .i64 pp, .int .i64 ps, .int .i64 pn, .int .i64 pf, .int .i64 pt, .slice sa sn sc, .slice ia im ic] 26)).heap.size p0 e ∧ Below (w1.alloc (.cells #[.int .i64 pk, .int .i64 pp, .int .i64 ps, .int .i64 pn, .int .i64 pf, .int .i64 pt, .slice sa sn sc, .slice ia im ic] 26)).heap.size (w1.alloc (.cells #[.int .i64 pk, .int .i64 pp, .int .i64 ps, .int .i64 pn, .int .i64 pf, .int .i64 pt, .slice sa sn sc, .slice ia im ic] 26)) w') := hcp
    clear hcp HV HP0
    go_wp2_with fail
    refine HCP.out.mono ?_
    rintro e w2 ⟨⟨b2, m2, c2, he, ho2⟩, hb2⟩
    subst he
    rw [HPC.out.1]
    rw [HPC.out.2] at ho2
    have HB2 : Hid (Below w.heap.size w w2) := (HB1.out.trans (HBX.out.mono HB1.out.size)).trans (hb2.mono (Nat.le_trans HB1.out.size HBX.out.size))
    have hm2 : m2 = len := by have h1 := ho2.size; rw [HSZ.out] at h1; exact h1.symm
    subst hm2
    have HO2 : Hid (Rd w2 b2 m2 bs) := ho2.rd
    have HC2 : Hid (m2 ≤ c2 ∧ c2 ≤ maxLen) := ho2.cap_le
    obtain ⟨ad2, rfl⟩ : ∃ ad, b2 = some ad := by
      cases b2 with
      | none =>
        rcases ho2.rd.cells with h0 | ⟨_, _, h, _⟩
        · omega
        · cases h
      | some ad => exact ⟨ad, rfl⟩
    have HRW : Hid (Rd w2 a m2 bs) := HR.out.below HB2.out
    obtain ⟨S, HSS⟩ : ∃ S, Hid (S = str bs) := ⟨_, rfl⟩
    have x1 : (convert 34 9 (.slice (some ad2) m2 c2)).run Try.prog w2 = .ok (.string S) w2 := by rw [conv_rd HO2.out c2, HSS.out]
    have x2 : (convert 34 9 (.slice a m2 cap)).run Try.prog w2 = .ok (.string S) w2 := by rw [conv_rd HRW.out cap, HSS.out]
    clear ho2 hb2 HCP HBX HRW
    obtain ⟨j, hj⟩ : ∃ j, j = k % m2 := ⟨_, rfl⟩
    have hjl : j < m2 := by rw [hj]; exact Nat.mod_lt _ hl0
    have HJ : Hid (j = k % m2) := hj
    have ej : Int.tmod (k : Int) (m2 : Int) = (j : Int) := by rw [hj]; rfl
    have hm0 : ¬ (m2 : Int) = 0 := by omega
    have hmp : (0 : Int) < (m2 : Int) := by omega
    have bj0 : (0 : Int) ≤ (j : Int) := by omega
    have bj1 : (j : Int) ≤ (c2 : Int) := by have := HC2.out.1; omega
    have hck := pc_Take (some ad2) j c2 (bs.take j) w2 (rd_take HO2.out j (by omega)) (by have := HC2.out.1; omega) (by omega)
    rw [takeP_cut HBY.out HTP.out (by rw [HSZ.out]; exact hjl)] at hck
    have HCK : Hid (Calls Try.prog 17 #[.slice (some ad2) j c2] w2 fun e w' => Hid (TakeP13 w2 w' (Pc.zero, 3) e) ∧ Below w2.heap.size w2 w') := hck
    have hc2m : c2 ≤ 9223372036854775807 := by have := HC2.out.2; unfold maxLen at this; exact this
    clear hck hj
    go_wp2_with fail
    refine HCK.out.mono ?_
    rintro e w3 ⟨ht3, hb3⟩
    obtain ⟨sa3, sn3, sc3, ia3, im3, ic3, L3, he3, _, _, _⟩ := ht3.out
    simp only at he3
    subst he3
    have HB3 : Hid (Below w.heap.size w w3) := HB2.out.trans (hb3.mono HB2.out.size)
    clear ht3 hb3 HCK x1 x2
    unfold Pc.zero Pc.val
    simp only
    have HB4 : Hid (Below w.heap.size w (w3.alloc (.cells #[.int .i64 0, .int .i64 0, .int .i64 0, .int .i64 0, .int .i64 0, .int .i64 0, .slice sa3 sn3 sc3, .slice ia3 im3 ic3] 26))) := HB3.out.alloc HB3.out.size _
    go_wp2_with fail
    refine (law_live13 _).mono ?_
    rintro e w5 ⟨rfl, hb5⟩
    have HB5 : Hid (Below w.heap.size w w5) := HB4.out.trans (hb5.mono HB4.out.size)
    clear hb5
    go_wp2
    go_ret
    exact ⟨rfl, HB5.out⟩
  · have hpz : p = Pc.zero := by
      have h := takeP_bad (bs := bs) (by rw [HT.out]; exact hF)
      rw [HT.out] at h
      exact h
    subst hpz
    have hsn : sn = 0 := by
      obtain ⟨sa', sc', e1, _⟩ := hs1.form
      simp only [Value.slice.injEq] at e1
      exact e1.2.1
    have him : im = 0 := by
      have hL : L = [] := by
        have := congrArg List.length hm1
        simpa [Pc.zero] using this
      obtain ⟨ia', ic', e2, e3, e4⟩ := hi1.form
      simp only [Value.slice.injEq] at e2
      rw [hL] at e2
      exact e2.2.1
    subst hsn him
    have hF' : (F == 0) = false := by simpa using hF
    clear hs1 hi1 hm1 HT
    unfold Pc.zero Pc.val
    simp only
    have HB2 : Hid (Below w.heap.size w (w1.alloc (.cells #[.int .i64 0, .int .i64 0, .int .i64 0, .int .i64 0, .int .i64 0, .int .i64 0, .slice sa 0 sc, .slice ia 0 ic] 26))) := HB1.out.alloc HB1.out.size _
    have HK2 : Hid (Bk (w1.alloc (.cells #[.int .i64 0, .int .i64 0, .int .i64 0, .int .i64 0, .int .i64 0, .int .i64 0, .slice sa 0 sc, .slice ia 0 ic] 26)) w1.heap.size #[.int .i64 0, .int .i64 0, .int .i64 0, .int .i64 0, .int .i64 0, .int .i64 0, .slice sa 0 sc, .slice ia 0 ic] 26) := Bk.new _ _ _
    go_wp2_with fail
    refine (law_live13 _).mono ?_
    rintro e w3 ⟨rfl, hb3⟩
    have k3 := HK2.out.stay hb3
    have d0 : w3.cell? ⟨w1.heap.size, 0, none⟩ = some (.int .i64 0) := k3.cell 0 rfl
    have d1 : w3.cell? ⟨w1.heap.size, 1, none⟩ = some (.int .i64 0) := k3.cell 1 rfl
    have d2 : w3.cell? ⟨w1.heap.size, 2, none⟩ = some (.int .i64 0) := k3.cell 2 rfl
    have d3 : w3.cell? ⟨w1.heap.size, 3, none⟩ = some (.int .i64 0) := k3.cell 3 rfl
    have d4 : w3.cell? ⟨w1.heap.size, 4, none⟩ = some (.int .i64 0) := k3.cell 4 rfl
    have d5 : w3.cell? ⟨w1.heap.size, 5, none⟩ = some (.int .i64 0) := k3.cell 5 rfl
    have d6 : w3.cell? ⟨w1.heap.size, 6, none⟩ = some (.slice sa 0 sc) := k3.cell 6 rfl
    have d7 : w3.cell? ⟨w1.heap.size, 7, none⟩ = some (.slice ia 0 ic) := k3.cell 7 rfl
    have HB3 : Hid (Below w.heap.size w w3) := HB2.out.trans (hb3.mono HB2.out.size)
    clear hb3 k3 HK2 HB2
    go_wp2_with fail
    refine (ref_Same13_zero sa ia sc ic w3).mono ?_
    rintro e w4 ⟨rfl, hb4⟩
    have HB4 : Hid (Below w.heap.size w w4) := HB3.out.trans (hb4.mono HB3.out.size)
    clear hb4
    go_wp2
    go_ret
    exact ⟨rfl, HB4.out⟩

set_option maxRecDepth 100000 in
theorem contract (H : Type) (enc : TypeId × Value → H) (W : World) (base : Nat) (args : Array Value) (ds gs : List (DataW H)) (before : List MemPlace)
    (hval : ∀ (j : Nat) t v, Try.f8.params[j]? = some t → args[j]? = some v → Value.okWide Try.prog W .any base t v)
    (hW : DataW.Whole enc Try.prog Try.f8.params.toList Rows.parcelOnceSpec.vars false W args.toList ds gs before) (hsz0 : (DataW.weightsEach Try.prog (Try.f8.params.toList ++ Rows.parcelOnceSpec.plain.varTypes Try.prog) (ds ++ gs)).all (· ≤ reachBytes) = true) :
    Calls Try.prog 8 args W fun e W' => ∃ v, e = .returned v ∧ Rows.parcelOnceSpec.post enc Try.prog Try.f8 false true false false W args v W' := by
  have hW' := hW
  obtain ⟨p, q, hA0, hV, rfl, hfz, hnd⟩ := hW
  have hA : DataW.TrodAll enc Try.prog W 0 (fun _ => true) true Try.f8.params.toList args.toList ds p := hA0
  have hK := hA
  have hsz := hsz0
  rw [Try.params8] at hA hval hsz
  obtain ⟨v0, vs0, d0, ds0, p0, q0, hargs, rfl, rfl, h0, r0⟩ := trodAll_cons hA
  obtain ⟨v1, vs1, d1, ds1, p1, q1, rfl, rfl, rfl, h1, r1⟩ := trodAll_cons r0
  obtain ⟨rfl, rfl, rfl⟩ := trodAll_nil r1
  obtain rfl : args = #[v0, v1] := by cases args; simp_all
  obtain ⟨rfl, rfl⟩ := trodVars_none hV
  obtain ⟨a0, len0, cap0, rfl⟩ := okWide_slice Try.underlying34 (hval 0 34 v0 rfl rfl)
  obtain ⟨bs0, rd0, lc0, cm0, bk0, nc0, fm0⟩ := rd_of h0
  have sz0 := reach_of hsz (j := 0) fm0 rfl rfl
  obtain ⟨x1, rfl, rfl, rfl, w1⟩ := open_int Try.underlying45 (hval 1 45 v1 rfl rfl) h1
  have b1 : (0 : Int) ≤ x1 ∧ x1 ≤ 65535 := by simpa [Lit.wf, IntKind.min, IntKind.max, IntKind.signed, IntKind.bits] using w1
  obtain ⟨n1, rfl⟩ := Int.eq_ofNat_of_zero_le b1.1
  refine (walk a0 len0 cap0 bs0 n1 W rd0 lc0 sz0 (by omega)).mono fun e W' ⟨he, bel⟩ => ?_
  subst he
  exact ⟨_, rfl, _, _, _, [], _, [], hW', trodAll_mk1 (shut_bool Try.underlying4 _), trodAll_below laidOut bel _ _ _ _ (by kernel_rfl) hK, rfl, bel.frame _, fun h => by cases h⟩

set_option maxRecDepth 100000 in
theorem lifted (os : Os) (started : os.Started) (H : Type) (enc : TypeId × Value → H) :
    ReturnsInHanded {} Try.checked os 8 .any (Rows.parcelOnceSpec.pre6 enc Try.prog Try.f8 Rows.parcelOnceRow.domain false) (Rows.parcelOnceSpec.post enc Try.prog Try.f8 false true false false) := by
  refine returnsInHanded_of_change_sized (C := Try.checked) own started (by kernel_rfl) Try.func8
    (ChangeSpec.witness6 (enc := enc) (C := Try.checked) false ⟨#[], #[.slice none 0 0, .int .u16 0], []⟩ 8 (by kernel_rfl) (by kernel_rfl) (by kernel_rfl) (by kernel_rfl)) ?_
  intro W base args ds gs before hval hW _ hsz _
  exact contract H enc W base args ds gs before hval hW hsz

theorem said : Rows.ParcelOnceSaid :=
  OpenClaim.holds_of_wide 8 Try.f8 rfl rfl rfl rfl rfl rfl rfl ⟨rfl, rfl, rfl, rfl, rfl⟩ rfl rfl rfl rfl rfl (by kernel_rfl) Try.func8 (by kernel_rfl)
    (of_decide_eq_true (by kernel_rfl)) (by unfold Func.isWrapper; first | (rw [if_pos (by decide +kernel)]; kernel_rfl) | (rw [if_neg (by decide +kernel)]; exact ⟨rfl, rfl⟩))
    (fun os started H enc _ => lifted os started H enc)
end parcelOnce

theorem parcelOnce_holds : Rows.ParcelOnceSaid := parcelOnce.said
end Go.Proofs.Ytmpljoljpgbamaa

