/- Proved: for every text, row of bytes and place grapevinelaw02.OctetTexts answers true and leaves its arguments as they were. No condition. -/
import Derived.Test.YtpkhkhoajaobkadRefTexts
import Derived.Test.YtpkhkhoajaobkadFrame
namespace Go.Proofs.Ytpkhkhoajaobkad
open Go.ChangeShapes Go.WideShapes Go.ChangeAt Go.RowKit
open Go.ChangeMaps (open_string shut_string)
namespace octetTexts

theorem leb1 : (Leb.leb 1).length = 1 := by decide

set_option maxHeartbeats 2000000 in
theorem walk (s : ByteArray) (hs : s.size ≤ maxLen) (a : Option Addr) (len cap : Nat) (bs : List Nat) (x : Int) (w : World) (hr : Rd w a len bs) (hlc : len ≤ cap) (hl : len ≤ 9223372036854775000) (hx : (-9223372036854775808 : Int) ≤ x ∧ x ≤ 9223372036854775807) :
    Calls Try.prog 3 #[.string s, .slice a len cap, .int .i64 x] w fun e w' => e = .returned (.bool true) ∧ Below w.heap.size w w' := by
  have HR : Hid (Rd w a len bs) := hr
  have HX : Hid ((-9223372036854775808 : Int) ≤ x ∧ x ≤ 9223372036854775807) := hx
  have HS : Hid (s.size ≤ maxLen) := hs
  obtain ⟨u, k, f, HT⟩ : ∃ (u : ByteArray) (k f : Int), Hid (toldT (textAt bs x) = .returned (.tuple #[.string u, .int .i64 k, .int .i64 f])) := ⟨_, _, _, rfl⟩
  clear hr hx hs
  by_cases hlong : 200 < s.size
  · go_enter Try.func3, Try.ntmps3
    go_wp2_with fail
    refine (octet_Text_long s hlong HS.out _).mono ?_
    rintro e w1 ⟨rfl, hw1⟩
    subst hw1
    go_wp2_with fail
    refine (ref_Text_long s hlong HS.out _).mono ?_
    rintro e w2 ⟨rfl, hw2⟩
    subst hw2
    go_wp2_with fail
    refine (octet_TakeText a len cap bs x _ HR.out hlc hl HX.out).mono ?_
    rw [HT.out]
    rintro e w3 ⟨rfl, hw3⟩
    subst hw3
    go_wp2_with fail
    refine (ref_TakeText a len cap bs x _ HR.out hlc hl HX.out).mono ?_
    rw [HT.out]
    rintro e w4 ⟨rfl, hb4⟩
    have HB4 : Hid (Below w3.heap.size w3 w4) := hb4
    have k1 := conv_rd (w := w4) (a := none) (len := 0) (bs := []) ⟨rfl, by simp, .inl rfl⟩ 0
    clear hb4
    go_wp2_with fail
    refine (octet_Uint 1 (by omega) _).mono ?_
    rw [leb1]
    rintro e w5 ⟨a5, c5, rfl, _, _, hb5⟩
    have HB5 : Hid (Below w3.heap.size w3 w5) := HB4.out.trans (hb5.mono HB4.out.size)
    clear hb5
    go_wp2
    go_ret
    exact ⟨rfl, HB5.out⟩
  · go_enter Try.func3, Try.ntmps3
    go_wp2_with fail
    refine (octet_Text s (by omega) _).mono ?_
    rintro e w1 ⟨a1, c1, rfl, _, ho1, hb1⟩
    have HB1 : Hid (Below w.heap.size w w1) := hb1
    have HO1 : Hid (Rd w1 a1 ((Leb.leb s.size).length + s.size) (Leb.leb s.size ++ bytesOf s)) := ho1.rd
    clear ho1 hb1
    obtain ⟨m, HM⟩ : ∃ m, Hid (m = (Leb.leb s.size).length + s.size) := ⟨_, rfl⟩
    rw [← HM.out] at HO1
    rw [← HM.out]
    go_wp2_with fail
    refine (ref_Text s (by omega) _).mono ?_
    rw [← HM.out]
    rintro e w2 ⟨a2, c2, rfl, ho2, hb2⟩
    have HB2 : Hid (Below w.heap.size w w2) := HB1.out.trans (hb2.mono HB1.out.size)
    have HO1' : Hid (Rd w2 a1 m (Leb.leb s.size ++ bytesOf s)) := HO1.out.below hb2
    have HO2 : Hid (Rd w2 a2 m (Leb.leb s.size ++ bytesOf s)) := ho2.rd
    clear ho2 hb2
    go_wp2_with fail
    refine (octet_TakeText a len cap bs x _ (HR.out.below HB2.out) hlc hl HX.out).mono ?_
    rw [HT.out]
    rintro e w3 ⟨rfl, hw3⟩
    subst hw3
    go_wp2_with fail
    refine (ref_TakeText a len cap bs x _ (HR.out.below HB2.out) hlc hl HX.out).mono ?_
    rw [HT.out]
    rintro e w4 ⟨rfl, hb4⟩
    have HB4 : Hid (Below w.heap.size w w4) := HB2.out.trans (hb4.mono HB2.out.size)
    have k1 := conv_rd (HO1'.out.below hb4) c1
    have k2 := conv_rd (HO2.out.below hb4) c2
    clear hb4
    go_wp2_with fail
    refine (octet_Uint 1 (by omega) _).mono ?_
    rw [leb1]
    rintro e w5 ⟨a5, c5, rfl, _, _, hb5⟩
    have HB5 : Hid (Below w.heap.size w w5) := HB4.out.trans (hb5.mono HB4.out.size)
    clear hb5
    go_wp2
    go_ret
    exact ⟨rfl, HB5.out⟩

theorem contract (H : Type) (enc : TypeId × Value → H) (W : World) (base : Nat) (args : Array Value) (ds gs : List (DataW H)) (before : List MemPlace)
    (hval : ∀ (j : Nat) t v, Try.f3.params[j]? = some t → args[j]? = some v → Value.okWide Try.prog W .any base t v)
    (hW : DataW.Whole enc Try.prog Try.f3.params.toList Rows.octetTextsSpec.vars false W args.toList ds gs before) (hsz0 : (DataW.weightsEach Try.prog (Try.f3.params.toList ++ Rows.octetTextsSpec.plain.varTypes Try.prog) (ds ++ gs)).all (· ≤ reachBytes) = true) :
    Calls Try.prog 3 args W fun e W' => ∃ v, e = .returned v ∧ Rows.octetTextsSpec.post enc Try.prog Try.f3 false true false false W args v W' := by
  have hW' := hW
  obtain ⟨p, q, hA0, hV, rfl, hfz, hnd⟩ := hW
  have hA : DataW.TrodAll enc Try.prog W 0 (fun _ => true) true Try.f3.params.toList args.toList ds p := hA0
  have hK := hA
  have hsz := hsz0
  rw [Try.params3] at hA hval hsz
  obtain ⟨v0, vs0, d0, ds0, p0, q0, hargs, rfl, rfl, h0, r0⟩ := trodAll_cons hA
  obtain ⟨v1, vs1, d1, ds1, p1, q1, rfl, rfl, rfl, h1, r1⟩ := trodAll_cons r0
  obtain ⟨v2, vs2, d2, ds2, p2, q2, rfl, rfl, rfl, h2, r2⟩ := trodAll_cons r1
  obtain ⟨rfl, rfl, rfl⟩ := trodAll_nil r2
  obtain rfl : args = #[v0, v1, v2] := by cases args; simp_all
  obtain ⟨rfl, rfl⟩ := trodVars_none hV
  obtain ⟨s0, rfl, rfl, rfl, hs0⟩ := open_string Try.underlying9 (hval 0 9 v0 rfl rfl) h0
  obtain ⟨a1, len1, cap1, rfl⟩ := okWide_slice Try.underlying22 (hval 1 22 v1 rfl rfl)
  obtain ⟨bs1, rd1, lc1, cm1, bk1, nc1, fm1⟩ := rd_of h1
  have sz1 := reach_of hsz (j := 1) fm1 rfl rfl
  obtain ⟨x2, rfl, rfl, rfl, w2⟩ := open_int Try.underlying3 (hval 2 3 v2 rfl rfl) h2
  have b2 : (-9223372036854775808 : Int) ≤ x2 ∧ x2 ≤ 9223372036854775807 := by simpa [Lit.wf, IntKind.min, IntKind.max, IntKind.signed, IntKind.bits] using w2
  refine (walk s0 hs0 a1 len1 cap1 bs1 x2 W rd1 lc1 (by omega) b2).mono fun e W' ⟨he, bel⟩ => ?_
  subst he
  exact ⟨_, rfl, _, _, _, [], _, [], hW', trodAll_mk1 (shut_bool Try.underlying4 _), trodAll_below laidOut bel _ _ _ _ (by kernel_rfl) hK, rfl, bel.frame _, fun h => by cases h⟩

set_option maxRecDepth 100000 in
theorem lifted (os : Os) (started : os.Started) (H : Type) (enc : TypeId × Value → H) :
    ReturnsInHanded {} Try.checked os 3 .any (Rows.octetTextsSpec.pre6 enc Try.prog Try.f3 Rows.octetTextsRow.domain false) (Rows.octetTextsSpec.post enc Try.prog Try.f3 false true false false) := by
  refine returnsInHanded_of_change_sized (C := Try.checked) own started (by kernel_rfl) Try.func3
    (ChangeSpec.witness6 (enc := enc) (C := Try.checked) false ⟨#[], #[.string .empty, .slice none 0 0, .int .i64 0], []⟩ 8 (by kernel_rfl) (by kernel_rfl) (by kernel_rfl) (by kernel_rfl)) ?_
  intro W base args ds gs before hval hW _ hsz _
  exact contract H enc W base args ds gs before hval hW hsz

theorem said : Rows.OctetTextsSaid :=
  OpenClaim.holds_of_wide 3 Try.f3 rfl rfl rfl rfl rfl rfl rfl ⟨rfl, rfl, rfl, rfl, rfl⟩ rfl rfl rfl rfl rfl (by kernel_rfl) Try.func3 (by kernel_rfl)
    (of_decide_eq_true (by kernel_rfl)) (by unfold Func.isWrapper; first | (rw [if_pos (by decide +kernel)]; kernel_rfl) | (rw [if_neg (by decide +kernel)]; exact ⟨rfl, rfl⟩))
    (fun os started H enc _ => lifted os started H enc)
end octetTexts

theorem octetTexts_holds : Rows.OctetTextsSaid := octetTexts.said
end Go.Proofs.Ytpkhkhoajaobkad

