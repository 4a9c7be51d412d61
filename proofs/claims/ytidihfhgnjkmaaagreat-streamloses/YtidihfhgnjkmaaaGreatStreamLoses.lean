/- Proved: for every script and tick grapevinelaw15.StreamLoses answers true and leaves its arguments as they were. No condition. -/
import Derived.Test.YtidihfhgnjkmaaaGreatLwQ
import Derived.Test.YtidihfhgnjkmaaaGreatLsM
import Derived.Test.YtidihfhgnjkmaaaGreatSpY
import Derived.Test.YtidihfhgnjkmaaaGreatStL
import Derived.Test.YtidihfhgnjkmaaaGreatFrame
import Derived.BigRegion
namespace Go.Proofs.YtidihfhgnjkmaaaGreat
open Go.ChangeShapes Go.WideShapes Go.ChangeAt Go.RowKit
set_option maxRecDepth 100000
namespace streamLoses

theorem MapOk.two {Z : Nat → Prop} {w w' : World} {s m : Nat} {L : List Sp} {X : List It} (h : Imp Z w s m L X) {a : Option Addr} {n c : Nat} {l : List Sp} (hl : MapOk w a n c l) (ht : Two s m w w') : MapOk w' a n c l :=
  ⟨hl.rd.frame (Z := fun _ => True) (fun _ _ => trivial) ht.size (fun k hk _ hi => ht.block k hk (by rintro rfl; exact h.noInt.1.1 hi) (by rintro rfl; exact h.noInt.1.2 hi)), hl.lc, hl.cm, hl.right⟩
set_option maxHeartbeats 8000000 in
theorem walk {w : World} {a : Option Addr} {n c : Nat} {l : List De} (hl : DesRd w a n l) (hn : n ≤ c ∧ c ≤ maxLen) (t : Int) (hti : -9223372036854775808 ≤ t ∧ t ≤ 9223372036854775807) :
    Calls Tryz.prog 6 #[.slice a n c, .int .i64 t] w fun e w' => e = .returned (.bool true) ∧ Below w.heap.size w w' := by
  have HPL : Hid (Calls Tryz.prog 8 #[.slice a n c] w fun e w' => PlayTold w e w') := law_play hl (Nat.le_trans hn.1 hn.2)
  clear hl hn
  go_enter Tryz.func6, Tryz.ntmps6
  go_wp2_with fail
  refine HPL.out.mono ?_
  rintro e w2 ⟨s, m, y, L, X, rfl, hd, hs, hb2⟩
  have HB2 : Hid (Below w.heap.size w w2) := hb2
  have HDU2 : Hid (Duo ZT w2 s m y L X) := hd
  have HLO : Hid (w.heap.size ≤ s ∧ w.heap.size ≤ m ∧ w.heap.size ≤ y) := hs
  have HM1 : Hid (Calls Tryz.prog 18 #[.pointer (some ⟨s, 0, none⟩)] w2 fun e w' => MapTold w2.heap.size L X w2 e w') := imp_Map hd.imp
  clear hd hs hb2
  go_wp2_with fail
  refine HM1.out.mono ?_
  rintro e w3 ⟨⟨a1, n1, c1, l1, rfl, hm1, hk1⟩, hb3⟩
  have HO1 : Hid (MapOk w3 a1 n1 c1 l1 ∧ ∀ u, atS l1 u = kk L X u) := ⟨hm1, hk1⟩
  have HDU3 : Hid (Duo ZT w3 s m y L X) := HDU2.out.stay hb3
  have HB3 : Hid (Below w.heap.size w w3) := HB2.out.trans (hb3.mono HB2.out.size)
  clear hm1 hk1 hb3
  by_cases hT : 0 ≤ t ∧ t ≤ 1099511627776
  · have HT : Hid (0 ≤ t ∧ t ≤ 1099511627776) := hT
    obtain ⟨L1, hl1⟩ := lost_ex HDU3.out.kn.right hT.2
    have HLL : Hid (Lost L t L1) := hl1
    have HL1 : Hid (Calls Tryz.prog 23 #[.pointer (some ⟨s, 0, none⟩), .int .i64 t] w3 fun e w' => LoseTo ZT s m L1 X w3 e w') := st_Lose HDU3.out.imp HDU3.out.kn HDU3.out.few hT hl1
    clear hl1 hT
    go_wp2_with fail
    refine HL1.out.mono ?_
    rintro e w4 ⟨rfl, him, htw⟩
    have HIM : Hid (Imp ZT w4 s m L1 (quietX L1 X)) := him
    have HO4 : Hid (MapOk w4 a1 n1 c1 l1) := MapOk.two HDU3.out.imp HO1.out.1 htw
    have HK4 : Hid (Kn L1 (quietX L1 X)) := (HDU3.out.kn.lose HT.out.2 HLL.out).1
    have HB4 : Hid (Below w.heap.size w w4) := HB3.out.trans ((Tri.of_imp (Z := ZT) y htw).below HLO.out.1 HLO.out.2.1 HLO.out.2.2 HB3.out.size)
    have HM2 : Hid (Calls Tryz.prog 18 #[.pointer (some ⟨s, 0, none⟩)] w4 fun e w' => MapTold w4.heap.size L1 (quietX L1 X) w4 e w') := imp_Map him
    clear him htw
    go_wp2_with fail
    refine HM2.out.mono ?_
    rintro e w5 ⟨⟨a2, n2, c2, l2, rfl, hm2, hk2⟩, hb5⟩
    have HO2 : Hid (MapOk w5 a2 n2 c2 l2 ∧ ∀ u, atS l2 u = kk L1 (quietX L1 X) u) := ⟨hm2, hk2⟩
    have HO5 : Hid (MapOk w5 a1 n1 c1 l1) := HO4.out.below hb5
    have HB5 : Hid (Below w.heap.size w w5) := HB4.out.trans (hb5.mono HB4.out.size)
    have hn2 : n2 ≤ 9223372036854775807 := by have := hm2.len; unfold maxLen at this; omega
    have hn1 : n1 ≤ 9223372036854775807 := by have := HO1.out.1.len; unfold maxLen at this; omega
    have HDF : Hid (dataN l2 ≤ 64) := by
      have h1 := data_few l2 Sp.zr hm2.right (quietX L1 X) fun u hu => kk_data HK4.out (by rw [← hk2]; exact hu)
      have h2 : (quietX L1 X).length ≤ 64 := Nat.le_trans (List.length_filter_le _ _) HDU3.out.few
      (show _ ≤ _)
      omega
    clear hm2 hk2 hb5
    go_wp2
    go_loopw [10, 11] (fun t10 t11 wr => ∃ (i : Nat) (d : Int), t10 = .int .i64 d ∧ t11 = .int .i64 (i : Int) ∧ i ≤ n2 ∧ Hid (d = dataN (l2.take i)) ∧ Hid (Below w5.heap.size w5 wr)) (fun _ t11 _ => n2 - (intOf t11).toNat)
    case atStart => exact ⟨0, 0, rfl, rfl, Nat.zero_le _, rfl, Below.refl _ _⟩
    case round =>
      obtain ⟨i, d, rfl, rfl, hi, HD, HB⟩ := hrel
      obtain ⟨w6, rfl⟩ : ∃ w6, w6 = wr := ⟨wr, rfl⟩
      by_cases hlt : i < n2
      · have hlt' : (i : Int) < (n2 : Int) := by omega
        have gi : (0 : Int) ≤ (i : Int) := by omega
        obtain ⟨g, o, rfl, hg, q, hq, s0, s1, s2⟩ := (HO2.out.1.rd.below HB.out).at_ i hlt
        obtain ⟨k1, k2, k3⟩ := dataN_step HO2.out.1.right hq
        obtain ⟨b1, b2, b3, b4, b5⟩ := right_each HO2.out.1.right (List.mem_of_getElem? hq)
        have hat := atS_mem HO2.out.1.right (List.mem_of_getElem? hq) (Int.le_refl _) b2
        rw [HO2.out.2] at hat
        have hz : (Sp.zr).to = 0 := rfl
        have hdf := HDF.out
        obtain ⟨fr, tt, is⟩ := q
        simp only at *
        by_cases h1 : is = 1
        · subst h1
          have hlow := lose_data HK4.out HLL.out hat
          rw [if_pos rfl] at k1
          obtain ⟨d2, HD2⟩ : ∃ d2, Hid (dataN (l2.take (i + 1)) = d2) := ⟨_, rfl⟩
          have HDD := HD.out
          have HD2' := HD2.out
          have w1 : IntKind.i64.wrap (tt - fr) = tt - fr := i64_in _ ⟨by omega, by omega⟩
          have w2 : IntKind.i64.wrap (tt - fr + 1) = tt - fr + 1 := i64_in _ ⟨by omega, by omega⟩
          have w3 : IntKind.i64.wrap (d + (tt - fr + 1)) = d2 := by
            rw [show d + (tt - fr + 1) = d2 from by omega]
            exact i64_in _ ⟨by omega, by omega⟩
          have hnl : ¬ fr ≤ t := by omega
          clear k1 k2 k3 hat hq HDD HD2' hdf hlow b1 b2 b3 b4 b5 hz
          go_wp2_with (first | (go_region) | fail)
          go_wp2
          go_roundw
          case rel => exact ⟨i + 1, d2, rfl, by go_num, by omega, HD2.out.symm, HB.out.drew⟩
          case measure => simp [intOf]; omega
        · have hbe : (is == 1) = false := by simp [h1]
          rw [if_neg h1] at k1
          have HD2 : Hid (d = dataN (l2.take (i + 1))) := by have := HD.out; (show _ = _); omega
          clear k1 k2 k3 hat hq hdf b1 b2 b3 b4 b5 hz
          go_wp2
          go_roundw
          case rel => exact ⟨i + 1, d, rfl, by go_num, by omega, HD2, HB⟩
          case measure => simp [intOf]; omega
      · have hnl : ¬ (i : Int) < (n2 : Int) := by omega
        have hin : i = n2 := by omega
        have HDE : Hid (d ≤ 64) := by
          have h1 := HD.out
          have h2 := HO2.out.1.rd.size
          have h3 := HDF.out
          rw [hin, ← h2, List.take_length] at h1
          (show _ ≤ _)
          omega
        clear hin hlt
        go_wp2
        go_loopw [12, 13] (fun t12 _ wr => ∃ (i : Nat), t12 = .int .i64 (i : Int) ∧ i ≤ n1 ∧ Hid (Below w5.heap.size w5 wr)) (fun t12 _ _ => n1 - (intOf t12).toNat)
        case atStart => exact ⟨0, rfl, Nat.zero_le _, HB⟩
        case round =>
          clear HB
          obtain ⟨j, rfl, hj, HB⟩ := hrel
          obtain ⟨w8, rfl⟩ : ∃ w8, w8 = wr := ⟨wr, rfl⟩
          by_cases hlt : j < n1
          · have hlt' : (j : Int) < (n1 : Int) := by omega
            have gi : (0 : Int) ≤ (j : Int) := by omega
            obtain ⟨g, o, rfl, hg, q, hq, s0, s1, s2⟩ := (HO5.out.rd.below HB.out).at_ j hlt
            obtain ⟨b1, b2, b3, b4, b5⟩ := right_each HO1.out.1.right (List.mem_of_getElem? hq)
            have hat := atS_mem HO1.out.1.right (List.mem_of_getElem? hq) (Int.le_refl _) b2
            rw [HO1.out.2] at hat
            obtain ⟨fr, tt, is⟩ := q
            simp only at *
            obtain ⟨kv, HKV⟩ : ∃ kv, Hid (atS l2 fr = kv) := ⟨_, rfl⟩
            have hst : (is = 2 ∨ is = 3) → kv = is := fun h => by
              have := lose_stays HDU3.out.kn HLL.out (u := fr) (by omega)
              rw [← HKV.out, HO2.out.2, this, hat]
            have HAT : Hid (Calls Tryz.prog 24 #[.slice a2 n2 c2, .int .i64 fr] w8 fun e w' => e = .returned (.int .i64 kv) ∧ w' = w8) := by
              have := ref_At a2 n2 c2 l2 fr w8 (HO2.out.1.rd.below HB.out) HO2.out.1.len
              rw [HKV.out] at this
              exact this
            clear hat hq b1 b2 b3
            have h3 : is = 1 ∨ is = 2 ∨ is = 3 := by omega
            clear b4 b5
            go_wp2_with fail
            refine HAT.out.mono ?_
            rintro e w9 ⟨rfl, rfl⟩
            rcases h3 with rfl | rfl | rfl
            · clear hst
              go_wp2
              go_roundw
              case rel => exact ⟨j + 1, by go_num, by omega, HB⟩
              case measure => simp [intOf]; omega
            · obtain rfl : kv = 2 := hst (.inl rfl)
              clear hst
              go_wp2
              go_roundw
              case rel => exact ⟨j + 1, by go_num, by omega, HB⟩
              case measure => simp [intOf]; omega
            · obtain rfl : kv = 3 := hst (.inr rfl)
              clear hst
              go_wp2
              go_roundw
              case rel => exact ⟨j + 1, by go_num, by omega, HB⟩
              case measure => simp [intOf]; omega
          · have hnl : ¬ (j : Int) < (n1 : Int) := by omega
            obtain ⟨mx, HMX⟩ : ∃ mx, Hid (max 1 t = mx) := ⟨_, rfl⟩
            have r2 : ∀ w', (Builtin.max_ #[3, 3] 3 #[.int .i64 1, .int .i64 t]).run Tryz.prog w' = .ok (.int .i64 mx) w' := fun w' => by rw [← HMX.out]; exact run_max_i _ _ _ _ _
            obtain ⟨hv, HHV⟩ : ∃ hv, Hid (atS l2 mx = hv) := ⟨_, rfl⟩
            have HAT : Hid (Calls Tryz.prog 24 #[.slice a2 n2 c2, .int .i64 mx] w8 fun e w' => e = .returned (.int .i64 hv) ∧ w' = w8) := by
              have := ref_At a2 n2 c2 l2 mx w8 (HO2.out.1.rd.below HB.out) HO2.out.1.len
              rw [HHV.out] at this
              exact this
            have hend : t < 1 ∨ (¬ t < 1 ∧ (hv = 3 ∨ hv = 2)) := by
              by_cases h1 : t < 1
              · exact .inl h1
              · refine .inr ⟨h1, ?_⟩
                have e1 : mx = t := by have := HMX.out; omega
                have := lose_top HK4.out HLL.out (by omega)
                rw [← HHV.out, HO2.out.2, e1]
                exact this
            have hde := HDE.out
            go_wp2_with fail
            refine HAT.out.mono ?_
            rintro e w9 ⟨rfl, rfl⟩
            go_wp2_with fail
            refine (law_live15 w9).mono ?_
            rintro e w7 ⟨rfl, hb7⟩
            have HRT : Hid (Calls Tryz.prog 25 #[.slice a2 n2 c2] w7 fun e w' => e = .returned (.bool true) ∧ Below w7.heap.size w7 w') := by
              have := ref_Right a2 n2 c2 l2 w7 (HO2.out.1.rd.below (HB.out.trans (hb7.mono HB.out.size))) HO2.out.1.len
              rw [(rightB_iff _ _).2 HO2.out.1.right] at this
              exact this
            have HB7 : Hid (Below w.heap.size w w7) := HB5.out.trans ((HB.out.trans (hb7.mono HB.out.size)).mono HB5.out.size)
            clear hb7
            go_wp2_with fail
            refine HRT.out.mono ?_
            rintro e w8 ⟨rfl, hb8⟩
            have HB8 : Hid (Below w.heap.size w w8) := HB7.out.trans (hb8.mono HB7.out.size)
            clear hb8
            rcases hend with h1 | ⟨h1, rfl | rfl⟩
            · go_wp2
              go_ret
              exact ⟨rfl, HB8.out⟩
            · go_wp2
              go_ret
              exact ⟨rfl, HB8.out⟩
            · go_wp2
              go_ret
              exact ⟨rfl, HB8.out⟩
  · have HLB : Hid (Calls Tryz.prog 23 #[.pointer (some ⟨s, 0, none⟩), .int .i64 t] w3 fun e w' => e = .returned (.int .i64 2) ∧ Below w3.heap.size w3 w') := st_Lose_bad w3 s hT
    have h2 : t < 0 ∨ (¬ t < 0 ∧ 1099511627776 < t) := by omega
    clear hT
    go_wp2_with fail
    refine HLB.out.mono ?_
    rintro e w4 ⟨rfl, hb4⟩
    have HB4 : Hid (Below w3.heap.size w3 w4) := hb4
    clear hb4
    go_wp2_with fail
    refine (law_live15 w4).mono ?_
    rintro e w5 ⟨rfl, hb5⟩
    have HB5 : Hid (Below w3.heap.size w3 w5) := HB4.out.trans (hb5.mono HB4.out.size)
    have HM2 : Hid (Calls Tryz.prog 18 #[.pointer (some ⟨s, 0, none⟩)] w5 fun e w' => MapTold w5.heap.size L X w5 e w') := imp_Map (HDU3.out.imp.stay HB5.out)
    clear hb5
    have HREST : Hid (∀ w6 a2 n2 c2 l2, MapOk w6 a2 n2 c2 l2 → (∀ u, atS l2 u = kk L X u) → Below w5.heap.size w5 w6 → Calls Tryz.prog 17 #[.slice a2 n2 c2, .slice a1 n1 c1] w6 fun e w' => e = .returned (.bool true) ∧ Below w.heap.size w w') := by
      intro w6 a2 n2 c2 l2 hm2 hk2 hb6
      have hb36 := HB5.out.trans (hb6.mono HB5.out.size)
      refine (ref_Same_ok hm2 (HO1.out.1.below hb36) (fun u => (hk2 u).trans (HO1.out.2 u).symm)).mono ?_
      rintro e w7 ⟨rfl, hb7⟩
      exact ⟨rfl, HB3.out.trans ((hb36.trans (hb7.mono hb36.size)).mono HB3.out.size)⟩
    rcases h2 with h2 | ⟨h2, h3⟩
    · go_wp2_with fail
      refine HM2.out.mono ?_
      rintro e w6 ⟨⟨a2, n2, c2, l2, rfl, hm2, hk2⟩, hb6⟩
      have HS := HREST.out w6 a2 n2 c2 l2 hm2 hk2 hb6
      clear hm2 hk2 hb6
      go_wp2_with fail
      refine HS.mono ?_
      rintro e w7 ⟨rfl, hb7⟩
      have HB7 : Hid (Below w.heap.size w w7) := hb7
      clear hb7 HS
      go_wp2
      go_ret
      exact ⟨rfl, HB7.out⟩
    · go_wp2_with fail
      refine HM2.out.mono ?_
      rintro e w6 ⟨⟨a2, n2, c2, l2, rfl, hm2, hk2⟩, hb6⟩
      have HS := HREST.out w6 a2 n2 c2 l2 hm2 hk2 hb6
      clear hm2 hk2 hb6
      go_wp2_with fail
      refine HS.mono ?_
      rintro e w7 ⟨rfl, hb7⟩
      have HB7 : Hid (Below w.heap.size w w7) := hb7
      clear hb7 HS
      go_wp2
      go_ret
      exact ⟨rfl, HB7.out⟩

set_option maxRecDepth 100000 in
theorem contract (H : Type) (enc : TypeId × Value → H) (W : World) (base : Nat) (args : Array Value) (ds gs : List (DataW H)) (before : List MemPlace)
    (hval : ∀ (j : Nat) t v, Tryz.f6.params[j]? = some t → args[j]? = some v → Value.okWide Tryz.prog W .any base t v)
    (hW : DataW.Whole enc Tryz.prog Tryz.f6.params.toList Rows.streamLosesSpec.vars false W args.toList ds gs before) (hsz0 : (DataW.weightsEach Tryz.prog (Tryz.f6.params.toList ++ Rows.streamLosesSpec.plain.varTypes Tryz.prog) (ds ++ gs)).all (· ≤ reachBytes) = true) :
    Calls Tryz.prog 6 args W fun e W' => ∃ v, e = .returned v ∧ Rows.streamLosesSpec.post enc Tryz.prog Tryz.f6 false true false false W args v W' := by
  have hW' := hW
  obtain ⟨p, q, hA0, hV, rfl, hfz, hnd⟩ := hW
  have hA : DataW.TrodAll enc Tryz.prog W 0 (fun _ => true) true Tryz.f6.params.toList args.toList ds p := hA0
  have hK := hA
  have hsz := hsz0
  rw [Tryz.params6] at hA hval hsz
  obtain ⟨v0, vs0, d0, ds0, p0, q0, hargs, rfl, rfl, h0, r0⟩ := trodAll_cons hA
  obtain ⟨v1, vs1, d1, ds1, p1, q1, rfl, rfl, rfl, h1, r1⟩ := trodAll_cons r0
  obtain ⟨rfl, rfl, rfl⟩ := trodAll_nil r1
  obtain rfl : args = #[v0, v1] := by cases args; simp_all
  obtain ⟨rfl, rfl⟩ := trodVars_none hV
  obtain ⟨x1, rfl, rfl, rfl, w1⟩ := open_int Tryz.underlying3 (hval 1 3 v1 rfl rfl) h1
  have b1 : (-9223372036854775808 : Int) ≤ x1 ∧ x1 ≤ 9223372036854775807 := by simpa [Lit.wf, IntKind.min, IntKind.max, IntKind.signed, IntKind.bits] using w1
  have hw0 : ∀ y ∈ DataW.weights Tryz.prog 22 d0, y ≤ reachBytes := fun y hy => by have := List.all_eq_true.1 hsz _ (DataW.weights_mem_each (j := 0) rfl rfl y hy); simpa using this
  obtain ⟨a0, len0, cap0, rfl⟩ := okWide_slice Tryz.underlying22 (hval 0 22 v0 rfl rfl)
  obtain ⟨fuel0, hf0⟩ := h0
  obtain ⟨l0, pr0, hn0⟩ := open_des hf0 hw0
  refine (walk pr0 hn0 x1 b1).mono fun e W' ⟨he, bel⟩ => ?_
  subst he
  exact ⟨_, rfl, _, _, _, [], _, [], hW', trodAll_mk1 (shut_bool Tryz.underlying4 _), trodAll_below laidOut bel _ _ _ _ (by kernel_rfl) hK, rfl, bel.frame _, fun h => by cases h⟩

set_option maxRecDepth 100000 in
theorem lifted (os : Os) (started : os.Started) (H : Type) (enc : TypeId × Value → H) :
    ReturnsInHanded {} Tryz.checked os 6 .any (Rows.streamLosesSpec.pre6 enc Tryz.prog Tryz.f6 Rows.streamLosesRow.domain false) (Rows.streamLosesSpec.post enc Tryz.prog Tryz.f6 false true false false) := by
  refine returnsInHanded_of_change_sized (C := Tryz.checked) own started (by kernel_rfl) Tryz.func6
    (ChangeSpec.witness6 (enc := enc) (C := Tryz.checked) false ⟨#[], #[.slice none 0 0, .int .i64 0], []⟩ 8 (by kernel_rfl) (by kernel_rfl) (by kernel_rfl) (by kernel_rfl)) ?_
  intro W base args ds gs before hval hW _ hsz _
  exact contract H enc W base args ds gs before hval hW hsz

theorem said : Rows.StreamLosesSaid :=
  OpenClaim.holds_of_wide 6 Tryz.f6 rfl rfl rfl rfl rfl rfl rfl ⟨rfl, rfl, rfl, rfl, rfl⟩ rfl rfl rfl rfl rfl (by kernel_rfl) Tryz.func6 (by kernel_rfl)
    (of_decide_eq_true (by kernel_rfl)) (by unfold Func.isWrapper; first | (rw [if_pos (by decide +kernel)]; kernel_rfl) | (rw [if_neg (by decide +kernel)]; exact ⟨rfl, rfl⟩))
    (fun os started H enc _ => lifted os started H enc)
end streamLoses

theorem streamLoses_holds : Rows.StreamLosesSaid := streamLoses.said
end Go.Proofs.YtidihfhgnjkmaaaGreat

