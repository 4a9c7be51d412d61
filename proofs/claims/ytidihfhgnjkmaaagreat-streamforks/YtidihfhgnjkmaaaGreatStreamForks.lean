/- Proved: for every two scripts grapevinelaw15.StreamForks answers true and leaves its arguments as they were. No condition. -/
import Derived.Test.YtidihfhgnjkmaaaGreatLwQ
import Derived.Test.YtidihfhgnjkmaaaGreatLw5f
import Derived.Test.YtidihfhgnjkmaaaGreatStA2
import Derived.Test.YtidihfhgnjkmaaaGreatStL
import Derived.Test.YtidihfhgnjkmaaaGreatFrame
namespace Go.Proofs.YtidihfhgnjkmaaaGreat
open Go.ChangeShapes Go.WideShapes Go.ChangeAt Go.RowKit
set_option maxRecDepth 100000
namespace streamForks

theorem imp_Fork {Z : Nat → Prop} {w : World} {s m : Nat} {L : List Sp} {X : List It} (h : Imp Z w s m L X) :
    Calls Tryz.prog 26 #[.pointer (some ⟨s, 0, none⟩)] w fun e w' => ∃ s' m', e = .returned (.pointer (some ⟨s', 0, none⟩)) ∧ Imp Z w' s' m' L X ∧ (w.heap.size ≤ s' ∧ w.heap.size ≤ m') ∧ Below w.heap.size w w' := by
  obtain ⟨l, ⟨a, n, c, Y, hs⟩, he⟩ := h
  refine (st_Fork hs.stm).mono ?_
  rintro e w' ⟨s', m', h1, h2, h3, h4⟩
  exact ⟨s', m', h1, ⟨l, ⟨a, n, c, Y, h2, fun t => (hs.its t).below h4, hs.data⟩, he⟩, h3, h4⟩
theorem duo_Fork {Z : Nat → Prop} {w : World} {y : Nat} {L : List Sp} {X : List It} (h : Ref Z w y L X) (hX : X.length ≤ 64) :
    Calls Tryz.prog 27 #[.pointer (some ⟨y, 0, none⟩)] w fun e w' => ∃ z, e = .returned (.pointer (some ⟨z, 0, none⟩)) ∧ Ref Z w' z L X ∧ w.heap.size ≤ z ∧ Below w.heap.size w w' := by
  obtain ⟨R, la, ln, lc, xa, xn, xc, hst, hRX⟩ := h
  have h64 := Ref.short hst hRX hX
  have := ref_Fork hst (by omega)
  rw [hRX] at this
  exact this
set_option maxHeartbeats 8000000 in
theorem walk {w : World} {a : Option Addr} {n c : Nat} {l : List De} (hl : DesRd w a n l) (hn : n ≤ c ∧ c ≤ maxLen) {a2 : Option Addr} {n2 c2 : Nat} {l2 : List De} (hl2 : DesRd w a2 n2 l2) (hn2 : n2 ≤ c2 ∧ c2 ≤ maxLen) :
    Calls Tryz.prog 7 #[.slice a n c, .slice a2 n2 c2] w fun e w' => e = .returned (.bool true) ∧ Below w.heap.size w w' := by
  have HPL : Hid (Calls Tryz.prog 8 #[.slice a n c] w fun e w' => PlayTold w e w') := law_play hl (Nat.le_trans hn.1 hn.2)
  have HL2 : Hid (DesRd w a2 n2 l2) := hl2
  have hn2 : n2 ≤ 9223372036854775807 := by unfold maxLen at hn2; omega
  clear hl hn hl2
  go_enter Tryz.func7, Tryz.ntmps7
  go_wp2_with fail
  refine HPL.out.mono ?_
  rintro e w2 ⟨s, m, y, L, X, rfl, hd, hs, hb2⟩
  have HB2 : Hid (Below w.heap.size w w2) := hb2
  have HDU2 : Hid (Duo ZT w2 s m y L X) := hd
  have HLO : Hid (w.heap.size ≤ s ∧ w.heap.size ≤ m ∧ w.heap.size ≤ y) := hs
  clear hd hs hb2
  have HF1 : Hid (Calls Tryz.prog 26 #[.pointer (some ⟨s, 0, none⟩)] w2 fun e w' => ∃ s' m', e = .returned (.pointer (some ⟨s', 0, none⟩)) ∧ Imp ZT w' s' m' L X ∧ (w2.heap.size ≤ s' ∧ w2.heap.size ≤ m') ∧ Below w2.heap.size w2 w') := imp_Fork HDU2.out.imp
  go_wp2_with fail
  refine HF1.out.mono ?_
  rintro e w3 ⟨f, fm, rfl, him, hfl, hb3⟩
  have HIM : Hid (Imp ZT w3 f fm L X) := him
  have HFL : Hid (w2.heap.size ≤ f ∧ w2.heap.size ≤ fm) := hfl
  have HDU3 : Hid (Duo ZT w3 s m y L X) := HDU2.out.stay hb3
  have HB3 : Hid (Below w2.heap.size w2 w3) := hb3
  clear him hfl hb3
  have HF2 : Hid (Calls Tryz.prog 27 #[.pointer (some ⟨y, 0, none⟩)] w3 fun e w' => ∃ z, e = .returned (.pointer (some ⟨z, 0, none⟩)) ∧ Ref ZT w' z L X ∧ w3.heap.size ≤ z ∧ Below w3.heap.size w3 w') := duo_Fork HDU3.out.ref HDU3.out.few
  go_wp2_with fail
  refine HF2.out.mono ?_
  rintro e w4 ⟨g, rfl, hrf, hgl, hb4⟩
  have HDF4 : Hid (Duo ZT w4 f fm g L X) := ⟨HIM.out.stay hb4, hrf, HDU3.out.kn, HDU3.out.few, fun e => by have h1 := HIM.out.noInt.2.1; omega⟩
  have HDU4 : Hid (Duo ZT w4 s m y L X) := HDU3.out.stay hb4
  have HGL : Hid (w2.heap.size ≤ f ∧ w2.heap.size ≤ fm ∧ w2.heap.size ≤ g) := ⟨HFL.out.1, HFL.out.2, Nat.le_trans HB3.out.size hgl⟩
  have HB4 : Hid (Below w.heap.size w w4) := HB2.out.trans ((HB3.out.mono HB2.out.size).trans (hb4.mono (Nat.le_trans HB2.out.size HB3.out.size)))
  have HSL : Hid (s < w2.heap.size ∧ m < w2.heap.size ∧ y < w2.heap.size) := ⟨HDU2.out.imp.noInt.2.1, HDU2.out.imp.noInt.2.2.1, HDU2.out.ref.noInt.2⟩
  clear hrf hgl hb4
  go_wp2
  go_loopw [10] (fun t10 wr => ∃ (i : Nat) (L2 : List Sp) (X2 : List It), t10 = .int .i64 (i : Int) ∧ i ≤ n2 ∧ Hid (Duo ZT wr s m y L X) ∧ Hid (Duo ZT wr f fm g L2 X2) ∧ Hid (Below w.heap.size w wr)) (fun t10 _ => n2 - (intOf t10).toNat)
  case atStart => exact ⟨0, L, X, rfl, Nat.zero_le _, HDU4, HDF4, HB4⟩
  case round =>
    clear HDU2 HDU3 HIM HDF4 HDU4 HB4 HB3 HF1 HF2
    obtain ⟨i, L2, X2, rfl, hi, HDU, HDF, HB⟩ := hrel
    obtain ⟨w5, rfl⟩ : ∃ w5, w5 = wr := ⟨wr, rfl⟩
    by_cases hlt : i < n2 ∧ i < 60
    · have hlt1 : (i : Int) < (n2 : Int) := by omega
      have hlt2 : (i : Int) < 60 := by omega
      have gi : (0 : Int) ≤ (i : Int) := by omega
      have HLT : Hid (i < n2) := hlt.1
      obtain ⟨gg, o, rfl, hg, q, hq, hok, hc⟩ := (HL2.out.below HB.out).spot i hlt.1
      have HDO : Hid (Calls Tryz.prog 28 #[.pointer (some ⟨f, 0, none⟩), .pointer (some ⟨g, 0, none⟩), .agg #[.int .i64 q.do_, .int .i64 q.p.kind, .int .i64 q.p.pub, .int .i64 q.p.sub, .int .i64 q.p.n_, .int .i64 q.p.fr, .int .i64 q.p.to_, .slice q.sa q.sn q.sc, .slice q.ia q.im q.ic, .int .i64 q.t_, .int .i64 q.id, .int .u32 q.lk]] w5 fun e w' => DoTold f fm g w5 e w') := law_do HDF.out hok
      have e0 : w5.cell? ⟨gg, o + i * 12, none⟩ = some (.int .i64 q.do_) := hc 0 _ rfl
      have e1 : w5.cell? ⟨gg, o + i * 12 + 1, none⟩ = some (.int .i64 q.p.kind) := hc 1 _ rfl
      have e2 : w5.cell? ⟨gg, o + i * 12 + 2, none⟩ = some (.int .i64 q.p.pub) := hc 2 _ rfl
      have e3 : w5.cell? ⟨gg, o + i * 12 + 3, none⟩ = some (.int .i64 q.p.sub) := hc 3 _ rfl
      have e4 : w5.cell? ⟨gg, o + i * 12 + 4, none⟩ = some (.int .i64 q.p.n_) := hc 4 _ rfl
      have e5 : w5.cell? ⟨gg, o + i * 12 + 5, none⟩ = some (.int .i64 q.p.fr) := hc 5 _ rfl
      have e6 : w5.cell? ⟨gg, o + i * 12 + 6, none⟩ = some (.int .i64 q.p.to_) := hc 6 _ rfl
      have e7 : w5.cell? ⟨gg, o + i * 12 + 7, none⟩ = some (.slice q.sa q.sn q.sc) := hc 7 _ rfl
      have e8 : w5.cell? ⟨gg, o + i * 12 + 8, none⟩ = some (.slice q.ia q.im q.ic) := hc 8 _ rfl
      have e9 : w5.cell? ⟨gg, o + i * 12 + 9, none⟩ = some (.int .i64 q.t_) := hc 9 _ rfl
      have e10 : w5.cell? ⟨gg, o + i * 12 + 10, none⟩ = some (.int .i64 q.id) := hc 10 _ rfl
      have e11 : w5.cell? ⟨gg, o + i * 12 + 11, none⟩ = some (.int .u32 q.lk) := hc 11 _ rfl
      clear hc hok hq hg hlt
      go_wp2_with fail
      refine HDO.out.mono ?_
      rintro e w6 ⟨rfl, ⟨L', X', hd⟩, ht⟩
      have HDF6 : Hid (Duo ZT w6 f fm g L' X') := hd
      have HDU6 : Hid (Duo ZT w6 s m y L X) := by
        have h1 := HSL.out
        have h2 := HGL.out
        exact HDU.out.tri HDF.out ⟨trivial, trivial, trivial⟩ (by omega) ht
      have HB6 : Hid (Below w.heap.size w w6) := by
        have h0 := HB2.out.size
        have h2 := HGL.out
        exact HB.out.trans (ht.below (by omega) (by omega) (by omega) HB.out.size)
      clear hd ht e0 e1 e2 e3 e4 e5 e6 e7 e8 e9 e10 e11
      go_wp2
      go_roundw
      case rel => exact ⟨i + 1, L', X', by go_num, HLT.out, HDU6, HDF6, HB6⟩
      case measure => have := HLT.out; simp [intOf]; omega
    · have HSAME : Hid (∀ W, Below w5.heap.size w5 W → (Calls Tryz.prog 29 #[.pointer (some ⟨s, 0, none⟩), .pointer (some ⟨y, 0, none⟩)] W fun e w' => e = .returned (.bool true) ∧ Below W.heap.size W w') ∧ (Calls Tryz.prog 29 #[.pointer (some ⟨f, 0, none⟩), .pointer (some ⟨g, 0, none⟩)] W fun e w' => e = .returned (.bool true) ∧ Below W.heap.size W w')) := fun W hW => ⟨law_same (HDU.out.stay hW), law_same (HDF.out.stay hW)⟩
      by_cases h1 : i < n2
      · have hlt1 : (i : Int) < (n2 : Int) := by omega
        have hlt2 : ¬ (i : Int) < 60 := by omega
        clear hlt
        go_wp2_with fail
        refine (law_live15 w5).mono ?_
        rintro e w6 ⟨rfl, hb6⟩
        have HB6 : Hid (Below w5.heap.size w5 w6) := hb6
        have HS6 := (HSAME.out w6 hb6).1
        clear hb6
        go_wp2_with fail
        refine HS6.mono ?_
        rintro e w7 ⟨rfl, hb7⟩
        have HB7 : Hid (Below w5.heap.size w5 w7) := HB6.out.trans (hb7.mono HB6.out.size)
        clear hb7 HS6
        have HS7 := (HSAME.out w7 HB7.out).2
        go_wp2_with fail
        refine HS7.mono ?_
        rintro e w8 ⟨rfl, hb8⟩
        have HB8 : Hid (Below w.heap.size w w8) := HB.out.trans ((HB7.out.trans (hb8.mono HB7.out.size)).mono HB.out.size)
        clear hb8 HS7
        go_wp2
        go_ret
        exact ⟨rfl, HB8.out⟩
      · have hlt1 : ¬ (i : Int) < (n2 : Int) := by omega
        clear hlt
        go_wp2_with fail
        refine (law_live15 w5).mono ?_
        rintro e w6 ⟨rfl, hb6⟩
        have HB6 : Hid (Below w5.heap.size w5 w6) := hb6
        have HS6 := (HSAME.out w6 hb6).1
        clear hb6
        go_wp2_with fail
        refine HS6.mono ?_
        rintro e w7 ⟨rfl, hb7⟩
        have HB7 : Hid (Below w5.heap.size w5 w7) := HB6.out.trans (hb7.mono HB6.out.size)
        clear hb7 HS6
        have HS7 := (HSAME.out w7 HB7.out).2
        go_wp2_with fail
        refine HS7.mono ?_
        rintro e w8 ⟨rfl, hb8⟩
        have HB8 : Hid (Below w.heap.size w w8) := HB.out.trans ((HB7.out.trans (hb8.mono HB7.out.size)).mono HB.out.size)
        clear hb8 HS7
        go_wp2
        go_ret
        exact ⟨rfl, HB8.out⟩

set_option maxRecDepth 100000 in
theorem contract (H : Type) (enc : TypeId × Value → H) (W : World) (base : Nat) (args : Array Value) (ds gs : List (DataW H)) (before : List MemPlace)
    (hval : ∀ (j : Nat) t v, Tryz.f7.params[j]? = some t → args[j]? = some v → Value.okWide Tryz.prog W .any base t v)
    (hW : DataW.Whole enc Tryz.prog Tryz.f7.params.toList Rows.streamForksSpec.vars false W args.toList ds gs before) (hsz0 : (DataW.weightsEach Tryz.prog (Tryz.f7.params.toList ++ Rows.streamForksSpec.plain.varTypes Tryz.prog) (ds ++ gs)).all (· ≤ reachBytes) = true) :
    Calls Tryz.prog 7 args W fun e W' => ∃ v, e = .returned v ∧ Rows.streamForksSpec.post enc Tryz.prog Tryz.f7 false true false false W args v W' := by
  have hW' := hW
  obtain ⟨p, q, hA0, hV, rfl, hfz, hnd⟩ := hW
  have hA : DataW.TrodAll enc Tryz.prog W 0 (fun _ => true) true Tryz.f7.params.toList args.toList ds p := hA0
  have hK := hA
  have hsz := hsz0
  rw [Tryz.params7] at hA hval hsz
  obtain ⟨v0, vs0, d0, ds0, p0, q0, hargs, rfl, rfl, h0, r0⟩ := trodAll_cons hA
  obtain ⟨v1, vs1, d1, ds1, p1, q1, rfl, rfl, rfl, h1, r1⟩ := trodAll_cons r0
  obtain ⟨rfl, rfl, rfl⟩ := trodAll_nil r1
  obtain rfl : args = #[v0, v1] := by cases args; simp_all
  obtain ⟨rfl, rfl⟩ := trodVars_none hV
  have hw0 : ∀ y ∈ DataW.weights Tryz.prog 22 d0, y ≤ reachBytes := fun y hy => by have := List.all_eq_true.1 hsz _ (DataW.weights_mem_each (j := 0) rfl rfl y hy); simpa using this
  obtain ⟨a0, len0, cap0, rfl⟩ := okWide_slice Tryz.underlying22 (hval 0 22 v0 rfl rfl)
  obtain ⟨fuel0, hf0⟩ := h0
  obtain ⟨l0, pr0, hn0⟩ := open_des hf0 hw0
  have hw1 : ∀ y ∈ DataW.weights Tryz.prog 22 d1, y ≤ reachBytes := fun y hy => by have := List.all_eq_true.1 hsz _ (DataW.weights_mem_each (j := 1) rfl rfl y hy); simpa using this
  obtain ⟨a1, len1, cap1, rfl⟩ := okWide_slice Tryz.underlying22 (hval 1 22 v1 rfl rfl)
  obtain ⟨fuel1, hf1⟩ := h1
  obtain ⟨l1, pr1, hn1⟩ := open_des hf1 hw1
  refine (walk pr0 hn0 pr1 hn1).mono fun e W' ⟨he, bel⟩ => ?_
  subst he
  exact ⟨_, rfl, _, _, _, [], _, [], hW', trodAll_mk1 (shut_bool Tryz.underlying4 _), trodAll_below laidOut bel _ _ _ _ (by kernel_rfl) hK, rfl, bel.frame _, fun h => by cases h⟩

set_option maxRecDepth 100000 in
theorem lifted (os : Os) (started : os.Started) (H : Type) (enc : TypeId × Value → H) :
    ReturnsInHanded {} Tryz.checked os 7 .any (Rows.streamForksSpec.pre6 enc Tryz.prog Tryz.f7 Rows.streamForksRow.domain false) (Rows.streamForksSpec.post enc Tryz.prog Tryz.f7 false true false false) := by
  refine returnsInHanded_of_change_sized (C := Tryz.checked) own started (by kernel_rfl) Tryz.func7
    (ChangeSpec.witness6 (enc := enc) (C := Tryz.checked) false ⟨#[], #[.slice none 0 0, .slice none 0 0], []⟩ 8 (by kernel_rfl) (by kernel_rfl) (by kernel_rfl) (by kernel_rfl)) ?_
  intro W base args ds gs before hval hW _ hsz _
  exact contract H enc W base args ds gs before hval hW hsz

theorem said : Rows.StreamForksSaid :=
  OpenClaim.holds_of_wide 7 Tryz.f7 rfl rfl rfl rfl rfl rfl rfl ⟨rfl, rfl, rfl, rfl, rfl⟩ rfl rfl rfl rfl rfl (by kernel_rfl) Tryz.func7 (by kernel_rfl)
    (of_decide_eq_true (by kernel_rfl)) (by unfold Func.isWrapper; first | (rw [if_pos (by decide +kernel)]; kernel_rfl) | (rw [if_neg (by decide +kernel)]; exact ⟨rfl, rfl⟩))
    (fun os started H enc _ => lifted os started H enc)
end streamForks

theorem streamForks_holds : Rows.StreamForksSaid := streamForks.said
end Go.Proofs.YtidihfhgnjkmaaaGreat

