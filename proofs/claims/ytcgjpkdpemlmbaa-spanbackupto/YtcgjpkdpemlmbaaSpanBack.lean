/- Proved: for every map and bytes around, of bulk at most 1048576 together, grapevinelaw08.SpanBack answers true and leaves its arguments as they were. Its condition: that bound. -/
import Derived.Test.YtcgjpkdpemlmbaaSpBackM
import Derived.Test.YtcgjpkdpemlmbaaSpFrame
import Derived.Test.YtcgjpkdpemlmbaaSpRef
namespace Go.Proofs.Ytcgjpkdpemlmbaa
open Go.ChangeShapes Go.WideShapes Go.ChangeAt Go.RowKit
namespace spanBack

set_option maxRecDepth 100000 in
set_option maxHeartbeats 2000000 in
theorem walk (a : Option Addr) (n c : Nat) (l : List Sp) (a1 : Option Addr) (l1 c1 : Nat) (xs : List Nat) (a2 : Option Addr) (l2 c2 : Nat) (zs : List Nat) (w : World)
    (hr : SpsRd w a n l) (hn : n ≤ maxLen) (h1 : Rd w a1 l1 xs) (n1 : a1 = none → c1 = 0) (h2 : Rd w a2 l2 zs) (n2 : a2 = none → c2 = 0) (hl : l1 + l2 ≤ 1048576) :
    Calls Try.prog 8 #[.slice a n c, .slice a1 l1 c1, .slice a2 l2 c2] w fun e w' => e = .returned (.bool true) ∧ Below w.heap.size w w' := by
  have HR : Hid (SpsRd w a n l) := hr
  have HN : Hid (n ≤ maxLen) := hn
  have H1 : Hid (Rd w a1 l1 xs) := h1
  have H2 : Hid (Rd w a2 l2 zs) := h2
  clear hr h1 h2 hn
  go_enter Try.func8, Try.ntmps8
  go_wp2_with fail
  refine (span_Put a n c l w HR.out HN.out).mono ?_
  by_cases hbad : rightB Sp.zr l = false ∨ 256 < l.length
  · have hp : (putE l = 2 ∧ rightB Sp.zr l = false ∨ putE l = 6 ∧ rightB Sp.zr l = true) ∧ putT l = [] := by
      cases hrb : rightB Sp.zr l with
      | false => exact ⟨.inl ⟨(put_bad hrb).1, rfl⟩, (put_bad hrb).2⟩
      | true =>
        rcases hbad with h | h
        · rw [hrb] at h; cases h
        · exact ⟨.inr ⟨(put_long hrb h).1, rfl⟩, (put_long hrb h).2⟩
    rw [hp.2]
    have HP := hp.1
    clear hp hbad
    rintro e w1 ⟨⟨b, m, cb, rfl, ho⟩, hb1⟩
    have hm : m = 0 := by have := ho.out.size; simpa using this.symm
    subst hm
    have HB1 : Hid (Below w.heap.size w w1) := hb1
    clear hb1 ho
    rcases HP with ⟨hE, hR⟩ | ⟨hE, hR⟩
    · rw [hE]
      have HRB : Hid (rightB Sp.zr l = false) := hR
      clear hE hR
      go_wp2_with fail
      refine (law_live _).mono ?_
      rintro e w2 ⟨rfl, hb2⟩
      have HB2 : Hid (Below w.heap.size w w2) := HB1.out.trans (hb2.mono HB1.out.size)
      clear hb2
      go_wp2_with fail
      refine (span_Right a n c l w2 (HR.out.below HB2.out) HN.out).mono ?_
      rw [HRB.out]
      rintro e w3 ⟨rfl, hb3⟩
      have HB3 : Hid (Below w.heap.size w w3) := HB2.out.trans (hb3.mono HB2.out.size)
      clear hb3
      go_wp2
      go_ret
      exact ⟨rfl, HB3.out⟩
    · rw [hE]
      have HRB : Hid (rightB Sp.zr l = true) := hR
      clear hE hR
      go_wp2_with fail
      refine (law_live _).mono ?_
      rintro e w2 ⟨rfl, hb2⟩
      have HB2 : Hid (Below w.heap.size w w2) := HB1.out.trans (hb2.mono HB1.out.size)
      clear hb2
      go_wp2_with fail
      refine (span_Right a n c l w2 (HR.out.below HB2.out) HN.out).mono ?_
      rw [HRB.out]
      rintro e w3 ⟨rfl, hb3⟩
      have HB3 : Hid (Below w.heap.size w w3) := HB2.out.trans (hb3.mono HB2.out.size)
      clear hb3
      go_wp2
      go_ret
      exact ⟨rfl, HB3.out⟩
  · have hrb : rightB Sp.zr l = true := by
      cases h : rightB Sp.zr l with
      | false => exact absurd (.inl h) hbad
      | true => rfl
    have h256 : ¬ 256 < l.length := fun h => hbad (.inr h)
    have hp := put_ok hrb h256
    have HT0 := takeM_put xs zs hrb h256
    have hTl : (putT l).length ≤ 6000 := by
      rw [hp.2, List.length_append]
      have g1 := Leb.leb_length l.length
      have g2 := putS_len l 0
      omega
    have HRS : Hid (RightS Sp.zr l) := (rightB_iff _ _).1 hrb
    rw [hp.1]
    obtain ⟨T, hT⟩ : ∃ T, T = putT l := ⟨_, rfl⟩
    rw [← hT] at HT0 hTl ⊢
    clear hbad hp hrb h256 hT
    rintro e w1 ⟨⟨b, m, cb, rfl, ho⟩, hb1⟩
    have hm : T.length = m := ho.out.size
    have HT : Hid (takeM (xs ++ T ++ zs) (l1 : Int) = (l, ((l1 + m : Nat) : Int), 0)) := by
      show _ = _
      rw [H1.out.size, hm] at HT0
      exact HT0
    rw [hm] at hTl
    have HO : Hid (Own w1 w.heap.size b m cb T) := ho.out
    have HB1 : Hid (Below w.heap.size w w1) := hb1
    clear hb1 ho hm HT0
    have HX0 : Hid (Below w1.heap.size w1 (w1.alloc (.cells #[] 5))) := below_alloc _ _
    have HE0 : Hid (Own (w1.alloc (.cells #[] 5)) w1.heap.size (some ⟨w1.heap.size, 0, none⟩) 0 0 []) := Own.empty w1
    have HR1 : Hid (Rd (w1.alloc (.cells #[] 5)) a1 l1 xs) := (H1.out.below HB1.out).below HX0.out
    go_wp2_with (at_builtin; refine wpList_append_rd rfl (.tmp 34) (.tmp 35) rfl w1.heap.size (some ⟨w1.heap.size, 0, none⟩) 0 0 [] rfl HE0.out a1 l1 c1 xs rfl HR1.out n1 (by omega) HX0.out.size ?_)
    intro a3 c3 w3 ho3 hg3 hb3
    have HB3 : Hid (Below w1.heap.size w1 w3) := HX0.out.trans hb3
    have HO3 : Hid (Own w3 w1.heap.size a3 l1 c3 xs) := ho3
    have HR3 : Hid (Rd w3 b m T) := HO.out.rd.below HB3.out
    have HNB : b = none → cb = 0 := HO.out.nil_cap'
    clear ho3 hg3 hb3 HR1 HE0
    go_wp2_with (at_builtin; refine wpList_append_rd rfl (.tmp 36) (.tmp 37) rfl w1.heap.size a3 l1 c3 xs rfl HO3.out b m cb T rfl HR3.out HNB (by omega) HB3.out.size ?_)
    intro a4 c4 w4 ho4 hg4 hb4
    have HB4 : Hid (Below w1.heap.size w1 w4) := HB3.out.trans hb4
    have HO4 : Hid (Own w4 w1.heap.size a4 (l1 + m) c4 (xs ++ T)) := ho4
    have HR4 : Hid (Rd w4 a2 l2 zs) := (H2.out.below HB1.out).below HB4.out
    clear ho4 hg4 hb4 HR3
    go_wp2_with (at_builtin; refine wpList_append_rd rfl (.tmp 38) (.tmp 39) rfl w1.heap.size a4 (l1 + m) c4 (xs ++ T) rfl HO4.out a2 l2 c2 zs rfl HR4.out n2 (by omega) HB4.out.size ?_)
    intro a5 c5 w5 ho5 hg5 hb5
    have HB5 : Hid (Below w1.heap.size w1 w5) := HB4.out.trans hb5
    have HO5 : Hid (Rd w5 a5 (l1 + m + l2) (xs ++ T ++ zs)) := by show Rd _ _ _ _; rw [List.append_assoc]; exact ho5.rd
    clear ho5 hg5 hb5 HR4
    go_wp2_with fail
    refine (span_Take a5 (l1 + m + l2) c5 (xs ++ T ++ zs) (l1 : Int) w5 HO5.out (by omega) ⟨by omega, by omega⟩).mono ?_
    rw [HT.out]
    rintro e w6 ⟨ht, hb6⟩
    obtain ⟨v, rfl, hv⟩ := ht.out
    simp only at hv
    obtain ⟨av, cv, rfl, hlc⟩ := hv.form
    have HV : Hid (SpsRd w6 av l.length l) := hv.rd
    have HB6 : Hid (Below w.heap.size w w6) := (HB1.out.trans (HB5.out.mono HB1.out.size)).trans (hb6.mono (Nat.le_trans HB1.out.size HB5.out.size))
    have hln : l.length = n := HR.out.size
    rw [hln] at HV ⊢
    clear ht hv hlc hb6 hln
    simp only
    go_wp2_with fail
    refine (law_live _).mono ?_
    rintro e w7 ⟨rfl, hb7⟩
    have HB7 : Hid (Below w.heap.size w w7) := HB6.out.trans (hb7.mono HB6.out.size)
    have HV7 : Hid (SpsRd w7 av n l) := HV.out.below hb7
    clear hb7 HV
    go_wp2_with fail
    refine (ref_Same av a n cv n c l l w7 HV7.out (HR.out.below HB7.out) HN.out).mono ?_
    rw [sameB_refl]
    rintro e w8 ⟨rfl, hb8⟩
    have HB8 : Hid (Below w.heap.size w w8) := HB7.out.trans (hb8.mono HB7.out.size)
    clear hb8
    go_wp2
    go_ret
    exact ⟨rfl, HB8.out⟩

theorem contract (H : Type) (enc : TypeId × Value → H) (W : World) (base : Nat) (args : Array Value) (ds gs : List (DataW H)) (before : List MemPlace)
    (hval : ∀ (j : Nat) t v, Try.f8.params[j]? = some t → args[j]? = some v → Value.okWide Try.prog W .any base t v)
    (hW : DataW.Whole enc Try.prog Try.f8.params.toList Rows.spanBackSpec.vars false W args.toList ds gs before) (hk : Rows.uptoSmall H (ds ++ gs) = true) :
    Calls Try.prog 8 args W fun e W' => ∃ v, e = .returned v ∧ Rows.spanBackSpec.post enc Try.prog Try.f8 false true false false W args v W' := by
  have hW' := hW
  obtain ⟨p, q, hA0, hV, rfl, hfz, hnd⟩ := hW
  have hA : DataW.TrodAll enc Try.prog W 0 (fun _ => true) true Try.f8.params.toList args.toList ds p := hA0
  have hK := hA
  rw [Try.params8] at hA hval
  obtain ⟨v0, vs0, d0, ds0, p0, q0, hargs, rfl, rfl, h0, r0⟩ := trodAll_cons hA
  obtain ⟨v1, vs1, d1, ds1, p1, q1, rfl, rfl, rfl, h1, r1⟩ := trodAll_cons r0
  obtain ⟨v2, vs2, d2, ds2, p2, q2, rfl, rfl, rfl, h2, r2⟩ := trodAll_cons r1
  obtain ⟨rfl, rfl, rfl⟩ := trodAll_nil r2
  obtain rfl : args = #[v0, v1, v2] := by cases args; simp_all
  obtain ⟨rfl, rfl⟩ := trodVars_none hV
  have hbulk := bulk_bound hk
  simp only [List.cons_append, List.nil_append, Rows.uptoBulkAll] at hbulk
  obtain ⟨a0, len0, cap0, rfl⟩ := okWide_slice Try.underlying22 (hval 0 22 v0 rfl rfl)
  obtain ⟨l0, rd0, lc0, cm0, ft0⟩ := open_spans h0
  obtain ⟨a1, len1, cap1, rfl⟩ := okWide_slice Try.underlying33 (hval 1 33 v1 rfl rfl)
  obtain ⟨bs1, rd1, lc1, cm1, bk1, nc1, fm1⟩ := rd_of h1
  obtain ⟨a2, len2, cap2, rfl⟩ := okWide_slice Try.underlying33 (hval 2 33 v2 rfl rfl)
  obtain ⟨bs2, rd2, lc2, cm2, bk2, nc2, fm2⟩ := rd_of h2
  refine (walk a0 len0 cap0 l0 a1 len1 cap1 bs1 a2 len2 cap2 bs2 W rd0 (Nat.le_trans lc0 cm0) rd1 nc1 rd2 nc2 (by omega)).mono fun e W' ⟨he, bel⟩ => ?_
  subst he
  exact ⟨_, rfl, _, _, _, [], _, [], hW', trodAll_mk1 (shut_bool Try.underlying4 _), trodAll_below laidOut bel _ _ _ _ (by kernel_rfl) hK, rfl, bel.frame _, fun h => by cases h⟩

set_option maxRecDepth 100000 in
theorem lifted (os : Os) (started : os.Started) (H : Type) (enc : TypeId × Value → H) (F : Stop.Interp) :
    ReturnsInHanded {} Try.checked os 8 .any ((Rows.OpenSpec.upto Rows.spanBackSpec).pre6 enc Try.prog Try.f8 Rows.spanBackUptoRow.domain false) (((Rows.OpenSpec.upto Rows.spanBackSpec).at F).post enc Try.prog Try.f8 false true false false) := by
  refine returnsInHanded_of_cond (C := Try.checked) (s := Rows.OpenSpec.upto Rows.spanBackSpec) (k := Rows.uptoSmall) rfl own started (by kernel_rfl) Try.func8
    (OpenSpec.witness (enc := enc) (C := Try.checked) (s := Rows.OpenSpec.upto Rows.spanBackSpec) (k := Rows.uptoSmall) rfl false ⟨#[], #[.slice none 0 0, .slice none 0 0, .slice none 0 0], []⟩ 8 (by kernel_rfl) (by kernel_rfl) (by kernel_rfl)
      (x := ([.nil, .nil, .nil], [], [])) (by kernel_rfl) rfl (by kernel_rfl)) ?_
  intro W base args ds gs before hval hW _ hk _
  exact contract H enc W base args ds gs before hval hW hk

theorem said : Rows.SpanBackUptoSaid :=
  OpenClaim.holds_of_cond 8 Try.f8 rfl rfl rfl rfl rfl rfl rfl ⟨rfl, rfl, rfl, rfl, rfl⟩ rfl rfl rfl rfl rfl (by kernel_rfl) Try.func8 (by kernel_rfl)
    (of_decide_eq_true (by kernel_rfl)) (by unfold Func.isWrapper; first | (rw [if_pos (by decide +kernel)]; kernel_rfl) | (rw [if_neg (by decide +kernel)]; exact ⟨rfl, rfl⟩))
    (fun os started H enc _ F => lifted os started H enc F)
end spanBack

theorem spanBackUpto_holds : Rows.SpanBackUptoSaid := spanBack.said
end Go.Proofs.Ytcgjpkdpemlmbaa

