/- grapevineref08: told, made. -/
import Derived.Test.YtcgjpkdpemlmbaaSpEdge
import Derived.Test.YtcgjpkdpemlmbaaSpRef
import Derived.Test.YtcgjpkdpemlmbaaSpPart
namespace Go.Proofs.Ytcgjpkdpemlmbaa
open Go.RowKit

theorem tellF_0 (x y : Int) : tellF 0 x y = max x y := rfl
theorem tellF_1 (x y : Int) : tellF 1 x y = if y = 0 then 0 else x := rfl
theorem tellF_2 (x y : Int) : tellF 2 x y = if y = 0 then x else 0 := rfl
theorem tellF_3 (x y : Int) : tellF 3 x y = if y = 0 ∨ x ≠ 0 then 0 else 1 := rfl

set_option maxRecDepth 100000 in
set_option maxHeartbeats 1000000 in
theorem ref_told (a b : Option Addr) (na ca nb cb : Nat) (la lb : List Sp) (t how : Int) (w : World) (ha : SpsRd w a na la) (hb : SpsRd w b nb lb) (hna : na ≤ 400) (hnb : nb ≤ 400) (hh : how = 0 ∨ how = 1 ∨ how = 2 ∨ how = 3) :
    Calls Try.prog 42 #[.slice a na ca, .slice b nb cb, .int .i64 t, .int .i64 how] w fun e w' => e = .returned (.int .i64 (tellF how (atS la t) (atS lb t))) ∧ w' = w := by
  have HA : Hid (SpsRd w a na la) := ha
  have HBB : Hid (SpsRd w b nb lb) := hb
  obtain ⟨R, HR⟩ : ∃ R, Hid (R = tellF how (atS la t) (atS lb t)) := ⟨_, rfl⟩
  obtain ⟨x, HX⟩ : ∃ x, Hid (x = atS la t) := ⟨_, rfl⟩
  obtain ⟨y, HY⟩ : ∃ y, Hid (y = atS lb t) := ⟨_, rfl⟩
  rw [← HR.out]
  have HF : Hid (R = tellF how x y) := by show _ = _; rw [HR.out, HX.out, HY.out]
  clear ha hb
  go_enter Try.func42, Try.ntmps42
  go_wp2_with fail
  refine (ref_At a na ca la t w HA.out (by unfold maxLen; omega)).mono ?_
  rw [← HX.out]
  rintro e w1 ⟨rfl, rfl⟩
  go_wp2_with fail
  refine (ref_At b nb cb lb t w1 HBB.out (by unfold maxLen; omega)).mono ?_
  rw [← HY.out]
  rintro e w2 ⟨rfl, rfl⟩
  clear HX HY HR
  rcases hh with rfl | rfl | rfl | rfl
  · by_cases h : x < y
    · have HZ : Hid (R = y) := by show _ = _; rw [HF.out, tellF_0]; omega
      clear HF
      go_wp2
      go_ret
      exact ⟨by rw [HZ.out]; rfl, rfl⟩
    · have HZ : Hid (R = x) := by show _ = _; rw [HF.out, tellF_0]; omega
      clear HF
      go_wp2
      go_ret
      exact ⟨by rw [HZ.out]; rfl, rfl⟩
  · by_cases h : y = 0
    · have HZ : Hid (R = 0) := by show _ = _; rw [HF.out, tellF_1, if_pos h]
      clear HF
      subst h
      go_wp2
      go_ret
      exact ⟨by rw [HZ.out]; rfl, rfl⟩
    · have HZ : Hid (R = x) := by show _ = _; rw [HF.out, tellF_1, if_neg h]
      have h' : (y == 0) = false := by simpa using h
      clear HF
      go_wp2
      go_ret
      exact ⟨by rw [HZ.out]; rfl, rfl⟩
  · by_cases h : y = 0
    · have HZ : Hid (R = x) := by show _ = _; rw [HF.out, tellF_2, if_pos h]
      clear HF
      subst h
      go_wp2
      go_ret
      exact ⟨by rw [HZ.out]; rfl, rfl⟩
    · have HZ : Hid (R = 0) := by show _ = _; rw [HF.out, tellF_2, if_neg h]
      have h' : (y == 0) = false := by simpa using h
      clear HF
      go_wp2
      go_ret
      exact ⟨by rw [HZ.out]; rfl, rfl⟩
  · by_cases h : y = 0
    · have HZ : Hid (R = 0) := by show _ = _; rw [HF.out, tellF_3, if_pos (.inl h)]
      clear HF
      subst h
      go_wp2
      go_ret
      exact ⟨by rw [HZ.out]; rfl, rfl⟩
    · have h' : (y == 0) = false := by simpa using h
      by_cases h2 : x = 0
      · have HZ : Hid (R = 1) := by show _ = _; rw [HF.out, tellF_3, if_neg (by omega)]
        clear HF
        subst h2
        go_wp2
        go_ret
        exact ⟨by rw [HZ.out]; rfl, rfl⟩
      · have HZ : Hid (R = 0) := by show _ = _; rw [HF.out, tellF_3, if_pos (.inr h2)]
        have h2' : (x == 0) = false := by simpa using h2
        clear HF
        go_wp2
        go_ret
        exact ⟨by rw [HZ.out]; rfl, rfl⟩

/-- A list of numbers is no list of spans: one's own list of spans may grow. -/
theorem Ins.away {w w' : World} {base base2 : Nat} {v v2 : Value} {l : List Int} {m : List Sp} (h : Ins w base v l) (h2 : Sps w base2 v2 m) (hg : w.grownBy w' v2.ownBlock) : Ins w' base v l := by
  refine ⟨⟨h.row.1, ?_⟩⟩
  rcases h.row.2 with hn | ⟨g, c, cur, hv, hbg, hgg, r⟩
  · exact .inl hn
  · refine .inr ⟨g, c, cur, hv, hbg, ?_, r⟩
    rw [hg.block g (Array.getElem?_eq_some_iff.1 hgg).1 (fun e => ?_)]
    · exact hgg
    · rcases h2.row.2 with ⟨h1, _⟩ | ⟨g2, c2, cur2, h1, _, h3, _⟩
      · rw [h1] at e; cases e
      · rw [h1] at e
        simp only [Value.ownBlock, Option.some.injEq] at e
        rw [← e, hgg] at h3
        simp only [Option.some.injEq, Obj.cells.injEq] at h3
        exact absurd h3.2.1 (by decide)

set_option maxRecDepth 100000 in
set_option maxHeartbeats 4000000 in
theorem ref_made (a b : Option Addr) (na ca nb cb : Nat) (la lb : List Sp) (how : Int) (w : World) (ha : SpsRd w a na la) (hb : SpsRd w b nb lb) (hna : na ≤ 400) (hnb : nb ≤ 400) (ra : RightS Sp.zr la) (rb : RightS Sp.zr lb) (hh : how = 0 ∨ how = 1 ∨ how = 2 ∨ how = 3) :
    Calls Try.prog 30 #[.slice a na ca, .slice b nb cb, .int .i64 how] w fun e w' => (∃ av nv cv l, e = .returned (.slice av nv cv) ∧ Hid (Sps w' w.heap.size (.slice av nv cv) l) ∧ Hid (RightS Sp.zr l ∧ ∀ u, atS l u = tellF how (atS la u) (atS lb u))) ∧ Below w.heap.size w w' := by
  have HA : Hid (SpsRd w a na la) := ha
  have HBB : Hid (SpsRd w b nb lb) := hb
  have HRA : Hid (RightS Sp.zr la) := ra
  have HRB : Hid (RightS Sp.zr lb) := rb
  have HNN : Hid (na ≤ 400 ∧ nb ≤ 400) := ⟨hna, hnb⟩
  have HHH : Hid (how = 0 ∨ how = 1 ∨ how = 2 ∨ how = 3) := hh
  clear ha hb ra rb hna hnb hh
  obtain ⟨W0, HW0⟩ : ∃ W0, Hid (W0 = w.alloc (.cells #[] 42)) := ⟨_, rfl⟩
  obtain ⟨W1, HW1⟩ : ∃ W1, Hid (W1 = W0.alloc (.cells #[.slice a na ca, .slice b nb cb] 22)) := ⟨_, rfl⟩
  have HBW0 : Hid (Below w.heap.size w W0) := by show Below _ _ _; rw [HW0.out]; exact below_new _ _
  have HBW1 : Hid (Below w.heap.size w W1) := by show Below _ _ _; rw [HW1.out]; exact HBW0.out.alloc HBW0.out.size _
  have HS0 : Hid (W0.heap.size = w.heap.size + 1) := by show _ = _; rw [HW0.out]; simp
  have HG1 : Hid (Bk W1 (w.heap.size + 1) #[.slice a na ca, .slice b nb cb] 22) := by
    show Bk _ _ _ _
    rw [HW1.out, ← HS0.out]
    exact Bk.new _ _ _
  have HV0 : Hid (Sps W1 w.heap.size (.slice (some ⟨w.heap.size, 0, none⟩) 0 0) []) := by
    show Sps _ _ _ _
    have h1 : Sps W0 w.heap.size (.slice (some ⟨w.heap.size, 0, none⟩) 0 0) [] := ⟨by
      have h2 := World.ownsRow_lit (base := w.heap.size) (e := 42) (size := 3) w #[] 0 (Nat.le_refl _) (Nat.zero_le _) rfl
      rw [HW0.out]
      exact h2⟩
    rw [HW1.out]
    exact h1.below (below_new _ _)
  go_enter Try.func30, Try.ntmps30
  go_wp2_with fail
  rw [← HW0.out, ← HW1.out]
  refine (ref_edges (w.heap.size + 1) a b na ca nb cb la lb W1 HG1.out (HA.out.below HBW1.out) (HBB.out.below HBW1.out) HNN.out.1 HNN.out.2 HRA.out HRB.out).mono ?_
  rintro e w2 ⟨⟨ae, ne, ce, E, rfl, HIE, HEE⟩, hb2⟩
  have HB2 : Hid (Below w.heap.size w w2) := HBW1.out.trans (hb2.mono HBW1.out.size)
  have HV2 : Hid (Sps w2 w.heap.size (.slice (some ⟨w.heap.size, 0, none⟩) 0 0) []) := HV0.out.below hb2
  have HIR : Hid (InsRd w2 ae ne E) := HIE.out.rd
  have hne : ne ≤ 1601 := by
    have h1 := HIR.out.size
    have h2 := HEE.out.2.2.2
    omega
  have HIL : Hid (Ins w2 w.heap.size (.slice ae ne ce) E) := HIE.out.lower (by have := HS0.out; rw [HW1.out]; simp; omega)
  clear hb2 HIE HV0 HG1 HBW1 HBW0 HIR
  go_wp2
  go_loopw [7, 9] (fun t7 t9 wr => ∃ (i : Nat) (av : Option Addr) (nv cv : Nat) (out : List Sp), i ≤ ne ∧ t9 = .int .i64 (i : Int) ∧ t7 = .slice av nv cv ∧ Hid (Sps wr w.heap.size (.slice av nv cv) out) ∧ Hid (MadeS (fun u => tellF how (atS la u) (atS lb u)) (nextI (E.drop i)) out) ∧ Hid (Ins wr w.heap.size (.slice ae ne ce) E) ∧ Hid (Below w.heap.size w wr)) (fun _ t9 _ => ne - (intOf t9).toNat)
  case atStart =>
    refine ⟨0, _, _, _, [], by omega, rfl, rfl, HV2, ?_, HIL, HB2⟩
    obtain ⟨r, hr, _⟩ := HEE.out.1.one
    show MadeS _ _ _
    rw [hr]
    exact MadeS.start HRA.out HRB.out
  case round =>
    obtain ⟨i, av, nv, cv, out, hi, rfl, rfl, HV, HM, HI, HB⟩ := hrel
    by_cases hlt : i < ne
    · have hlt' : (i : Int) < (ne : Int) := by omega
      obtain ⟨ge, rfl, hge, t, ht, c0⟩ := HI.out.rd.at_ i hlt
      have HGE : Hid (ge < wr.heap.size) := hge
      have HD : Hid (E.drop i = t :: E.drop (i + 1)) := drop_atI ht
      obtain ⟨g1, g2, g3, g4⟩ := riseI_gap E 0 i t _ HEE.out.1.rise HD.out
      obtain ⟨n1, n2⟩ := nextI_le g3 g2
      obtain ⟨en, hen⟩ : ∃ en, en = nextI (E.drop (i + 1)) - 1 := ⟨_, rfl⟩
      have HEN : Hid (en = nextI (E.drop (i + 1)) - 1) := hen
      have hen1 : t ≤ en := by omega
      have hen2 : en ≤ 1099511627776 := by omega
      have HM1 : Hid (MadeS (fun u => tellF how (atS la u) (atS lb u)) t out) := by
        have := HM.out
        rw [HD.out] at this
        exact this
      obtain ⟨K, HK⟩ : ∃ K, Hid (K = tellF how (atS la t) (atS lb t)) := ⟨_, rfl⟩
      have HSTEP : Hid (∀ out', layS out ⟨t, en, K⟩ out' → MadeS (fun u => tellF how (atS la u) (atS lb u)) (nextI (E.drop (i + 1))) out') := fun out' hl => MadeS.step HRA.out HRB.out HEE.out.1 HEE.out.2.1 HEE.out.2.2.1 HM1.out HD.out (by rw [← HK.out, ← hen]; exact hl)
      have HNX : Hid ((i + 1 < ne ∧ ∃ y, wr.cell? ⟨ge, i + 1, none⟩ = some (.int .i64 y) ∧ en = y - 1) ∨ (¬ i + 1 < ne ∧ en = 1099511627776)) := by
        by_cases h : i + 1 < ne
        · left
          refine ⟨h, ?_⟩
          obtain ⟨g', hg', _, y, hy, cy⟩ := HI.out.rd.at_ (i + 1) h
          simp only [Option.some.injEq, Addr.mk.injEq, and_true] at hg'
          subst hg'
          refine ⟨y, cy, ?_⟩
          rw [hen, drop_atI hy]
          rfl
        · right
          refine ⟨h, ?_⟩
          rw [hen, List.drop_of_length_le (by rw [HI.out.rd.size]; omega)]
          rfl
      clear g3 g4 n1 n2 hen HM hge ht
      rcases HNX.out with ⟨hnx, y, cy, hey⟩ | ⟨hnx, hey⟩
      · have hnx' : (i : Int) + 1 < (ne : Int) := by omega
        have hyb : y = en + 1 := by omega
        subst hyb
        clear hey HNX
        go_wp2_with fail
        refine (ref_told a b na ca nb cb la lb t how wr (HA.out.below HB.out) (HBB.out.below HB.out) HNN.out.1 HNN.out.2 HHH.out).mono ?_
        rw [← HK.out]
        rintro e w3 ⟨he, hw3⟩
        subst he
        rw [hw3]
        clear hw3 w3 cy
        by_cases hK0 : K = 0
        · have HMN : Hid (MadeS (fun u => tellF how (atS la u) (atS lb u)) (nextI (E.drop (i + 1))) out) := HSTEP.out out (.inl ⟨hK0, rfl⟩)
          subst hK0
          go_wp2
          go_roundw
          case rel => exact ⟨i + 1, av, nv, cv, out, by omega, by go_num, rfl, HV, HMN, HI, HB⟩
          case measure => simp [intOf]; omega
        · have hK' : (K == 0) = false := by simpa using hK0
          rcases snocS out with rfl | ⟨ini, q, rfl⟩
          · have hnv : nv = 0 := by have := HV.out.rd.size; simpa using this.symm
            subst hnv
            have HMN : Hid (MadeS (fun u => tellF how (atS la u) (atS lb u)) (nextI (E.drop (i + 1))) [⟨t, en, K⟩]) := HSTEP.out _ (.inr (.inr ⟨hK0, fun j q e => by simp at e, rfl⟩))
            go_wp2
            go_quiet (fail)
            generalize hnq : wr.drewN _ = w4
            have hbw : Below wr.heap.size wr w4 := by rw [← hnq]; exact below_drews (Below.refl _ _) _
            have HB4 : Hid (Below w.heap.size w w4) := HB.out.trans (hbw.mono HB.out.size)
            have HV4 : Hid (Sps w4 w.heap.size (.slice av 0 cv) []) := HV.out.below hbw
            have HI4 : Hid (Ins w4 w.heap.size (.slice (some ⟨ge, 0, none⟩) ne ce) E) := HI.out.below hbw
            have d0 : w4.cell? ⟨ge, i, none⟩ = some (.int .i64 t) := (hbw.cell (p := ⟨ge, i, none⟩) HGE.out).trans c0
            clear hnq hbw c0
            have HV5 : Hid (Sps (w4.alloc (.cells #[.int .i64 t, .int .i64 en, .int .i64 K] 42)) w.heap.size (.slice av 0 cv) []) := HV4.out.below (below_new _ _)
            have HT5 : Hid (∀ j u, (Sp.cells ⟨t, en, K⟩).toList[j]? = some u → (w4.alloc (.cells #[.int .i64 t, .int .i64 en, .int .i64 K] 42)).cell? ((⟨w4.heap.size, 0, none⟩ : Addr).add j) = some u) := Sp.told (Bk.new w4 _ _)
            have HS5 : Hid (w.heap.size ≤ (w4.alloc (.cells #[.int .i64 t, .int .i64 en, .int .i64 K] 42)).heap.size) := Nat.le_trans HB4.out.size (below_new _ _).size
            go_wp2_with (at_builtin; refine wpList_append_sp rfl (.tmp 79) (.tmp 87) rfl w.heap.size (.slice av 0 cv) [] rfl HV5.out ⟨w4.heap.size, 0, none⟩ 1 ⟨t, en, K⟩ rfl HT5.out (by simp) HS5.out ?_)
            intro v' w' ho hg
            have HO : Hid (Sps w' w.heap.size v' [⟨t, en, K⟩]) := ho
            have HI5 : Hid (Ins w' w.heap.size (.slice (some ⟨ge, 0, none⟩) ne ce) E) := (HI4.out.below (below_new _ _)).away HV5.out hg
            have HB5 : Hid (Below w.heap.size w w') := (HB4.out.trans ((below_new w4 _).mono HB4.out.size)).trans (HV5.out.grown HS5.out hg)
            obtain ⟨av', cv', rfl, _⟩ := HO.out.form
            clear ho hg HV5 HT5 HS5 d0
            go_wp2
            go_roundw
            case rel => exact ⟨i + 1, av', _, cv', _, by omega, by go_num, rfl, HO, HMN, HI5, HB5⟩
            case measure => simp [intOf]; omega
          · obtain ⟨g, c, hv, hBg, hgl, hc, k0, k1, k2, fz⟩ := HV.out.spot
            simp only [Value.slice.injEq] at hv
            obtain ⟨rfl, rfl, rfl⟩ := hv
            have HLN := right_short HM1.out.ro
            rw [List.length_append, List.length_singleton] at HLN
            obtain ⟨k, hki⟩ : ∃ k, k = ini.length := ⟨_, rfl⟩
            have HKI : Hid (k = ini.length) := hki
            rw [← hki] at hc k1 k2 fz HV HLN ⊢
            obtain ⟨qf, qt, qi⟩ := q
            simp only at k1 k2
            have HGL : Hid (g < wr.heap.size) := hgl
            clear k0 hki hgl
            have hkk : ((k : Int) + 1 - 1) = k := by omega
            have hk0 : ¬ ((k : Int) < 0) := by omega
            have hk2 : (k : Int) < (k : Int) + 1 := by omega
            have hk3 : decide ((0 : Int) < (k : Int) + 1) = true := decide_eq_true (by omega)
            by_cases hA : qt = t - 1 ∧ qi = K
            · obtain ⟨rfl, rfl⟩ := hA
              have HMN : Hid (MadeS (fun u => tellF how (atS la u) (atS lb u)) (nextI (E.drop (i + 1))) (ini ++ [⟨qf, en, qi⟩])) := HSTEP.out _ (.inr (.inl ⟨hK0, ini, ⟨qf, t - 1, qi⟩, rfl, by simp only; omega, rfl, rfl⟩))
              go_wp2
              go_quiet (fail)
              generalize hnq : wr.drewN _ = w4
              have hbw : Below wr.heap.size wr w4 := by rw [← hnq]; exact below_drews (Below.refl _ _) _
              have HB4 : Hid (Below w.heap.size w w4) := HB.out.trans (hbw.mono HB.out.size)
              have HV4 : Hid (Sps w4 w.heap.size (.slice (some ⟨g, 0, none⟩) (k + 1) cv) (ini ++ [⟨qf, t - 1, qi⟩])) := HV.out.below hbw
              have HI4 : Hid (Ins w4 w.heap.size (.slice (some ⟨ge, 0, none⟩) ne ce) E) := HI.out.below hbw
              have d1 : w4.cell? ⟨g, k * 3 + 1, none⟩ = some (.int .i64 (t - 1)) := (hbw.cell (p := ⟨g, k * 3 + 1, none⟩) HGL.out).trans k1
              have fz4 : w4.frozen? ⟨g, k * 3 + 1, none⟩ = false := by
                rw [World.frozen?_of_block (a := ⟨g, k * 3 + 1, none⟩) (hbw.block g HGL.out)]
                exact fz
              have HO : Hid (Sps (w4.setCell ⟨g, k * 3 + 1, none⟩ (.int .i64 en)) w.heap.size (.slice (some ⟨g, 0, none⟩) (k + 1) cv) (ini ++ [⟨qf, en, qi⟩])) := by
                have := HV4.out.setTo en
                rw [← HKI.out] at this
                exact this
              have HI5 : Hid (Ins (w4.setCell ⟨g, k * 3 + 1, none⟩ (.int .i64 en)) w.heap.size (.slice (some ⟨ge, 0, none⟩) ne ce) E) := HI4.out.away HV4.out (grown_set (a := ⟨g, k * 3 + 1, none⟩) (Below.refl _ _))
              have HB5 : Hid (Below w.heap.size w (w4.setCell ⟨g, k * 3 + 1, none⟩ (.int .i64 en))) := HB4.out.setCell (by simpa using hBg) _
              clear hnq hbw c0 k1 k2 fz
              go_wp2
              go_roundw
              case rel => exact ⟨i + 1, _, _, _, _, by omega, by go_num, rfl, HO, HMN, HI5, HB5⟩
              case measure => simp [intOf]; omega
            · have HMN : Hid (MadeS (fun u => tellF how (atS la u) (atS lb u)) (nextI (E.drop (i + 1))) (ini ++ [⟨qf, qt, qi⟩] ++ [⟨t, en, K⟩])) := HSTEP.out _ (.inr (.inr ⟨hK0, fun j q e => by
                obtain ⟨rfl, e2⟩ := List.append_inj' e rfl
                simp only [List.cons.injEq, and_true] at e2
                subst e2
                rintro ⟨h1, h2⟩
                simp only at h1 h2
                exact hA ⟨by omega, h2.symm⟩, rfl⟩))
              have HLO : Hid ((ini ++ [(⟨qf, qt, qi⟩ : Sp)]).length ≤ 3000000000000) := by show _ ≤ _; rw [List.length_append, ← HKI.out]; simp; omega
              obtain ⟨out2, ho2⟩ : ∃ o, o = ini ++ [(⟨qf, qt, qi⟩ : Sp)] := ⟨_, rfl⟩
              rw [← ho2] at HMN HLO HV
              clear ho2
              have rest : (qt == t - 1) = false ∨ ((qt == t - 1) = true ∧ (qi == K) = false) := by
                by_cases h1 : qt = t - 1
                · right
                  exact ⟨by simpa using h1, by simpa using fun h2 => hA ⟨h1, h2⟩⟩
                · left
                  simpa using h1
              clear hA
              rcases rest with r1 | ⟨r1, r2⟩
              · go_wp2
                go_quiet (fail)
                generalize hnq : wr.drewN _ = w4
                have hbw : Below wr.heap.size wr w4 := by rw [← hnq]; exact below_drews (Below.refl _ _) _
                have HB4 : Hid (Below w.heap.size w w4) := HB.out.trans (hbw.mono HB.out.size)
                have HV4 : Hid (Sps w4 w.heap.size (.slice (some ⟨g, 0, none⟩) (k + 1) cv) out2) := HV.out.below hbw
                have HI4 : Hid (Ins w4 w.heap.size (.slice (some ⟨ge, 0, none⟩) ne ce) E) := HI.out.below hbw
                have d0 : w4.cell? ⟨ge, i, none⟩ = some (.int .i64 t) := (hbw.cell (p := ⟨ge, i, none⟩) HGE.out).trans c0
                clear hnq hbw c0 k1 k2 fz
                have HV5 : Hid (Sps (w4.alloc (.cells #[.int .i64 t, .int .i64 en, .int .i64 K] 42)) w.heap.size (.slice (some ⟨g, 0, none⟩) (k + 1) cv) out2) := HV4.out.below (below_new _ _)
                have HT5 : Hid (∀ j u, (Sp.cells ⟨t, en, K⟩).toList[j]? = some u → (w4.alloc (.cells #[.int .i64 t, .int .i64 en, .int .i64 K] 42)).cell? ((⟨w4.heap.size, 0, none⟩ : Addr).add j) = some u) := Sp.told (Bk.new w4 _ _)
                have HS5 : Hid (w.heap.size ≤ (w4.alloc (.cells #[.int .i64 t, .int .i64 en, .int .i64 K] 42)).heap.size) := Nat.le_trans HB4.out.size (below_new _ _).size
                go_wp2_with (at_builtin; refine wpList_append_sp rfl (.tmp 79) (.tmp 87) rfl w.heap.size (.slice (some ⟨g, 0, none⟩) (k + 1) cv) out2 rfl HV5.out ⟨w4.heap.size, 0, none⟩ 1 ⟨t, en, K⟩ rfl HT5.out HLO.out HS5.out ?_)
                intro v' w' ho hg
                have HO : Hid (Sps w' w.heap.size v' (out2 ++ [⟨t, en, K⟩])) := ho
                have HI5 : Hid (Ins w' w.heap.size (.slice (some ⟨ge, 0, none⟩) ne ce) E) := (HI4.out.below (below_new _ _)).away HV5.out hg
                have HB5 : Hid (Below w.heap.size w w') := (HB4.out.trans ((below_new w4 _).mono HB4.out.size)).trans (HV5.out.grown HS5.out hg)
                obtain ⟨av', cv', rfl, _⟩ := HO.out.form
                clear ho hg HV5 HT5 HS5 d0
                go_wp2
                go_roundw
                case rel => exact ⟨i + 1, av', _, cv', _, by omega, by go_num, rfl, HO, HMN, HI5, HB5⟩
                case measure => simp [intOf]; omega
              · go_wp2
                go_quiet (fail)
                generalize hnq : wr.drewN _ = w4
                have hbw : Below wr.heap.size wr w4 := by rw [← hnq]; exact below_drews (Below.refl _ _) _
                have HB4 : Hid (Below w.heap.size w w4) := HB.out.trans (hbw.mono HB.out.size)
                have HV4 : Hid (Sps w4 w.heap.size (.slice (some ⟨g, 0, none⟩) (k + 1) cv) out2) := HV.out.below hbw
                have HI4 : Hid (Ins w4 w.heap.size (.slice (some ⟨ge, 0, none⟩) ne ce) E) := HI.out.below hbw
                have d0 : w4.cell? ⟨ge, i, none⟩ = some (.int .i64 t) := (hbw.cell (p := ⟨ge, i, none⟩) HGE.out).trans c0
                clear hnq hbw c0 k1 k2 fz
                have HV5 : Hid (Sps (w4.alloc (.cells #[.int .i64 t, .int .i64 en, .int .i64 K] 42)) w.heap.size (.slice (some ⟨g, 0, none⟩) (k + 1) cv) out2) := HV4.out.below (below_new _ _)
                have HT5 : Hid (∀ j u, (Sp.cells ⟨t, en, K⟩).toList[j]? = some u → (w4.alloc (.cells #[.int .i64 t, .int .i64 en, .int .i64 K] 42)).cell? ((⟨w4.heap.size, 0, none⟩ : Addr).add j) = some u) := Sp.told (Bk.new w4 _ _)
                have HS5 : Hid (w.heap.size ≤ (w4.alloc (.cells #[.int .i64 t, .int .i64 en, .int .i64 K] 42)).heap.size) := Nat.le_trans HB4.out.size (below_new _ _).size
                go_wp2_with (at_builtin; refine wpList_append_sp rfl (.tmp 79) (.tmp 87) rfl w.heap.size (.slice (some ⟨g, 0, none⟩) (k + 1) cv) out2 rfl HV5.out ⟨w4.heap.size, 0, none⟩ 1 ⟨t, en, K⟩ rfl HT5.out HLO.out HS5.out ?_)
                intro v' w' ho hg
                have HO : Hid (Sps w' w.heap.size v' (out2 ++ [⟨t, en, K⟩])) := ho
                have HI5 : Hid (Ins w' w.heap.size (.slice (some ⟨ge, 0, none⟩) ne ce) E) := (HI4.out.below (below_new _ _)).away HV5.out hg
                have HB5 : Hid (Below w.heap.size w w') := (HB4.out.trans ((below_new w4 _).mono HB4.out.size)).trans (HV5.out.grown HS5.out hg)
                obtain ⟨av', cv', rfl, _⟩ := HO.out.form
                clear ho hg HV5 HT5 HS5 d0
                go_wp2
                go_roundw
                case rel => exact ⟨i + 1, av', _, cv', _, by omega, by go_num, rfl, HO, HMN, HI5, HB5⟩
                case measure => simp [intOf]; omega
      · have hnx' : ¬ (i : Int) + 1 < (ne : Int) := by omega
        subst hey
        clear HNX
        go_wp2_with fail
        refine (ref_told a b na ca nb cb la lb t how wr (HA.out.below HB.out) (HBB.out.below HB.out) HNN.out.1 HNN.out.2 HHH.out).mono ?_
        rw [← HK.out]
        rintro e w3 ⟨he, hw3⟩
        subst he
        rw [hw3]
        clear hw3 w3 
        by_cases hK0 : K = 0
        · have HMN : Hid (MadeS (fun u => tellF how (atS la u) (atS lb u)) (nextI (E.drop (i + 1))) out) := HSTEP.out out (.inl ⟨hK0, rfl⟩)
          subst hK0
          go_wp2
          go_roundw
          case rel => exact ⟨i + 1, av, nv, cv, out, by omega, by go_num, rfl, HV, HMN, HI, HB⟩
          case measure => simp [intOf]; omega
        · have hK' : (K == 0) = false := by simpa using hK0
          rcases snocS out with rfl | ⟨ini, q, rfl⟩
          · have hnv : nv = 0 := by have := HV.out.rd.size; simpa using this.symm
            subst hnv
            have HMN : Hid (MadeS (fun u => tellF how (atS la u) (atS lb u)) (nextI (E.drop (i + 1))) [⟨t, 1099511627776, K⟩]) := HSTEP.out _ (.inr (.inr ⟨hK0, fun j q e => by simp at e, rfl⟩))
            go_wp2
            go_quiet (fail)
            generalize hnq : wr.drewN _ = w4
            have hbw : Below wr.heap.size wr w4 := by rw [← hnq]; exact below_drews (Below.refl _ _) _
            have HB4 : Hid (Below w.heap.size w w4) := HB.out.trans (hbw.mono HB.out.size)
            have HV4 : Hid (Sps w4 w.heap.size (.slice av 0 cv) []) := HV.out.below hbw
            have HI4 : Hid (Ins w4 w.heap.size (.slice (some ⟨ge, 0, none⟩) ne ce) E) := HI.out.below hbw
            have d0 : w4.cell? ⟨ge, i, none⟩ = some (.int .i64 t) := (hbw.cell (p := ⟨ge, i, none⟩) HGE.out).trans c0
            clear hnq hbw c0
            have HV5 : Hid (Sps (w4.alloc (.cells #[.int .i64 t, .int .i64 1099511627776, .int .i64 K] 42)) w.heap.size (.slice av 0 cv) []) := HV4.out.below (below_new _ _)
            have HT5 : Hid (∀ j u, (Sp.cells ⟨t, 1099511627776, K⟩).toList[j]? = some u → (w4.alloc (.cells #[.int .i64 t, .int .i64 1099511627776, .int .i64 K] 42)).cell? ((⟨w4.heap.size, 0, none⟩ : Addr).add j) = some u) := Sp.told (Bk.new w4 _ _)
            have HS5 : Hid (w.heap.size ≤ (w4.alloc (.cells #[.int .i64 t, .int .i64 1099511627776, .int .i64 K] 42)).heap.size) := Nat.le_trans HB4.out.size (below_new _ _).size
            go_wp2_with (at_builtin; refine wpList_append_sp rfl (.tmp 79) (.tmp 87) rfl w.heap.size (.slice av 0 cv) [] rfl HV5.out ⟨w4.heap.size, 0, none⟩ 1 ⟨t, 1099511627776, K⟩ rfl HT5.out (by simp) HS5.out ?_)
            intro v' w' ho hg
            have HO : Hid (Sps w' w.heap.size v' [⟨t, 1099511627776, K⟩]) := ho
            have HI5 : Hid (Ins w' w.heap.size (.slice (some ⟨ge, 0, none⟩) ne ce) E) := (HI4.out.below (below_new _ _)).away HV5.out hg
            have HB5 : Hid (Below w.heap.size w w') := (HB4.out.trans ((below_new w4 _).mono HB4.out.size)).trans (HV5.out.grown HS5.out hg)
            obtain ⟨av', cv', rfl, _⟩ := HO.out.form
            clear ho hg HV5 HT5 HS5 d0
            go_wp2
            go_roundw
            case rel => exact ⟨i + 1, av', _, cv', _, by omega, by go_num, rfl, HO, HMN, HI5, HB5⟩
            case measure => simp [intOf]; omega
          · obtain ⟨g, c, hv, hBg, hgl, hc, k0, k1, k2, fz⟩ := HV.out.spot
            simp only [Value.slice.injEq] at hv
            obtain ⟨rfl, rfl, rfl⟩ := hv
            have HLN := right_short HM1.out.ro
            rw [List.length_append, List.length_singleton] at HLN
            obtain ⟨k, hki⟩ : ∃ k, k = ini.length := ⟨_, rfl⟩
            have HKI : Hid (k = ini.length) := hki
            rw [← hki] at hc k1 k2 fz HV HLN ⊢
            obtain ⟨qf, qt, qi⟩ := q
            simp only at k1 k2
            have HGL : Hid (g < wr.heap.size) := hgl
            clear k0 hki hgl
            have hkk : ((k : Int) + 1 - 1) = k := by omega
            have hk0 : ¬ ((k : Int) < 0) := by omega
            have hk2 : (k : Int) < (k : Int) + 1 := by omega
            have hk3 : decide ((0 : Int) < (k : Int) + 1) = true := decide_eq_true (by omega)
            by_cases hA : qt = t - 1 ∧ qi = K
            · obtain ⟨rfl, rfl⟩ := hA
              have HMN : Hid (MadeS (fun u => tellF how (atS la u) (atS lb u)) (nextI (E.drop (i + 1))) (ini ++ [⟨qf, 1099511627776, qi⟩])) := HSTEP.out _ (.inr (.inl ⟨hK0, ini, ⟨qf, t - 1, qi⟩, rfl, by simp only; omega, rfl, rfl⟩))
              go_wp2
              go_quiet (fail)
              generalize hnq : wr.drewN _ = w4
              have hbw : Below wr.heap.size wr w4 := by rw [← hnq]; exact below_drews (Below.refl _ _) _
              have HB4 : Hid (Below w.heap.size w w4) := HB.out.trans (hbw.mono HB.out.size)
              have HV4 : Hid (Sps w4 w.heap.size (.slice (some ⟨g, 0, none⟩) (k + 1) cv) (ini ++ [⟨qf, t - 1, qi⟩])) := HV.out.below hbw
              have HI4 : Hid (Ins w4 w.heap.size (.slice (some ⟨ge, 0, none⟩) ne ce) E) := HI.out.below hbw
              have d1 : w4.cell? ⟨g, k * 3 + 1, none⟩ = some (.int .i64 (t - 1)) := (hbw.cell (p := ⟨g, k * 3 + 1, none⟩) HGL.out).trans k1
              have fz4 : w4.frozen? ⟨g, k * 3 + 1, none⟩ = false := by
                rw [World.frozen?_of_block (a := ⟨g, k * 3 + 1, none⟩) (hbw.block g HGL.out)]
                exact fz
              have HO : Hid (Sps (w4.setCell ⟨g, k * 3 + 1, none⟩ (.int .i64 1099511627776)) w.heap.size (.slice (some ⟨g, 0, none⟩) (k + 1) cv) (ini ++ [⟨qf, 1099511627776, qi⟩])) := by
                have := HV4.out.setTo 1099511627776
                rw [← HKI.out] at this
                exact this
              have HI5 : Hid (Ins (w4.setCell ⟨g, k * 3 + 1, none⟩ (.int .i64 1099511627776)) w.heap.size (.slice (some ⟨ge, 0, none⟩) ne ce) E) := HI4.out.away HV4.out (grown_set (a := ⟨g, k * 3 + 1, none⟩) (Below.refl _ _))
              have HB5 : Hid (Below w.heap.size w (w4.setCell ⟨g, k * 3 + 1, none⟩ (.int .i64 1099511627776))) := HB4.out.setCell (by simpa using hBg) _
              clear hnq hbw c0 k1 k2 fz
              go_wp2
              go_roundw
              case rel => exact ⟨i + 1, _, _, _, _, by omega, by go_num, rfl, HO, HMN, HI5, HB5⟩
              case measure => simp [intOf]; omega
            · have HMN : Hid (MadeS (fun u => tellF how (atS la u) (atS lb u)) (nextI (E.drop (i + 1))) (ini ++ [⟨qf, qt, qi⟩] ++ [⟨t, 1099511627776, K⟩])) := HSTEP.out _ (.inr (.inr ⟨hK0, fun j q e => by
                obtain ⟨rfl, e2⟩ := List.append_inj' e rfl
                simp only [List.cons.injEq, and_true] at e2
                subst e2
                rintro ⟨h1, h2⟩
                simp only at h1 h2
                exact hA ⟨by omega, h2.symm⟩, rfl⟩))
              have HLO : Hid ((ini ++ [(⟨qf, qt, qi⟩ : Sp)]).length ≤ 3000000000000) := by show _ ≤ _; rw [List.length_append, ← HKI.out]; simp; omega
              obtain ⟨out2, ho2⟩ : ∃ o, o = ini ++ [(⟨qf, qt, qi⟩ : Sp)] := ⟨_, rfl⟩
              rw [← ho2] at HMN HLO HV
              clear ho2
              have rest : (qt == t - 1) = false ∨ ((qt == t - 1) = true ∧ (qi == K) = false) := by
                by_cases h1 : qt = t - 1
                · right
                  exact ⟨by simpa using h1, by simpa using fun h2 => hA ⟨h1, h2⟩⟩
                · left
                  simpa using h1
              clear hA
              rcases rest with r1 | ⟨r1, r2⟩
              · go_wp2
                go_quiet (fail)
                generalize hnq : wr.drewN _ = w4
                have hbw : Below wr.heap.size wr w4 := by rw [← hnq]; exact below_drews (Below.refl _ _) _
                have HB4 : Hid (Below w.heap.size w w4) := HB.out.trans (hbw.mono HB.out.size)
                have HV4 : Hid (Sps w4 w.heap.size (.slice (some ⟨g, 0, none⟩) (k + 1) cv) out2) := HV.out.below hbw
                have HI4 : Hid (Ins w4 w.heap.size (.slice (some ⟨ge, 0, none⟩) ne ce) E) := HI.out.below hbw
                have d0 : w4.cell? ⟨ge, i, none⟩ = some (.int .i64 t) := (hbw.cell (p := ⟨ge, i, none⟩) HGE.out).trans c0
                clear hnq hbw c0 k1 k2 fz
                have HV5 : Hid (Sps (w4.alloc (.cells #[.int .i64 t, .int .i64 1099511627776, .int .i64 K] 42)) w.heap.size (.slice (some ⟨g, 0, none⟩) (k + 1) cv) out2) := HV4.out.below (below_new _ _)
                have HT5 : Hid (∀ j u, (Sp.cells ⟨t, 1099511627776, K⟩).toList[j]? = some u → (w4.alloc (.cells #[.int .i64 t, .int .i64 1099511627776, .int .i64 K] 42)).cell? ((⟨w4.heap.size, 0, none⟩ : Addr).add j) = some u) := Sp.told (Bk.new w4 _ _)
                have HS5 : Hid (w.heap.size ≤ (w4.alloc (.cells #[.int .i64 t, .int .i64 1099511627776, .int .i64 K] 42)).heap.size) := Nat.le_trans HB4.out.size (below_new _ _).size
                go_wp2_with (at_builtin; refine wpList_append_sp rfl (.tmp 79) (.tmp 87) rfl w.heap.size (.slice (some ⟨g, 0, none⟩) (k + 1) cv) out2 rfl HV5.out ⟨w4.heap.size, 0, none⟩ 1 ⟨t, 1099511627776, K⟩ rfl HT5.out HLO.out HS5.out ?_)
                intro v' w' ho hg
                have HO : Hid (Sps w' w.heap.size v' (out2 ++ [⟨t, 1099511627776, K⟩])) := ho
                have HI5 : Hid (Ins w' w.heap.size (.slice (some ⟨ge, 0, none⟩) ne ce) E) := (HI4.out.below (below_new _ _)).away HV5.out hg
                have HB5 : Hid (Below w.heap.size w w') := (HB4.out.trans ((below_new w4 _).mono HB4.out.size)).trans (HV5.out.grown HS5.out hg)
                obtain ⟨av', cv', rfl, _⟩ := HO.out.form
                clear ho hg HV5 HT5 HS5 d0
                go_wp2
                go_roundw
                case rel => exact ⟨i + 1, av', _, cv', _, by omega, by go_num, rfl, HO, HMN, HI5, HB5⟩
                case measure => simp [intOf]; omega
              · go_wp2
                go_quiet (fail)
                generalize hnq : wr.drewN _ = w4
                have hbw : Below wr.heap.size wr w4 := by rw [← hnq]; exact below_drews (Below.refl _ _) _
                have HB4 : Hid (Below w.heap.size w w4) := HB.out.trans (hbw.mono HB.out.size)
                have HV4 : Hid (Sps w4 w.heap.size (.slice (some ⟨g, 0, none⟩) (k + 1) cv) out2) := HV.out.below hbw
                have HI4 : Hid (Ins w4 w.heap.size (.slice (some ⟨ge, 0, none⟩) ne ce) E) := HI.out.below hbw
                have d0 : w4.cell? ⟨ge, i, none⟩ = some (.int .i64 t) := (hbw.cell (p := ⟨ge, i, none⟩) HGE.out).trans c0
                clear hnq hbw c0 k1 k2 fz
                have HV5 : Hid (Sps (w4.alloc (.cells #[.int .i64 t, .int .i64 1099511627776, .int .i64 K] 42)) w.heap.size (.slice (some ⟨g, 0, none⟩) (k + 1) cv) out2) := HV4.out.below (below_new _ _)
                have HT5 : Hid (∀ j u, (Sp.cells ⟨t, 1099511627776, K⟩).toList[j]? = some u → (w4.alloc (.cells #[.int .i64 t, .int .i64 1099511627776, .int .i64 K] 42)).cell? ((⟨w4.heap.size, 0, none⟩ : Addr).add j) = some u) := Sp.told (Bk.new w4 _ _)
                have HS5 : Hid (w.heap.size ≤ (w4.alloc (.cells #[.int .i64 t, .int .i64 1099511627776, .int .i64 K] 42)).heap.size) := Nat.le_trans HB4.out.size (below_new _ _).size
                go_wp2_with (at_builtin; refine wpList_append_sp rfl (.tmp 79) (.tmp 87) rfl w.heap.size (.slice (some ⟨g, 0, none⟩) (k + 1) cv) out2 rfl HV5.out ⟨w4.heap.size, 0, none⟩ 1 ⟨t, 1099511627776, K⟩ rfl HT5.out HLO.out HS5.out ?_)
                intro v' w' ho hg
                have HO : Hid (Sps w' w.heap.size v' (out2 ++ [⟨t, 1099511627776, K⟩])) := ho
                have HI5 : Hid (Ins w' w.heap.size (.slice (some ⟨ge, 0, none⟩) ne ce) E) := (HI4.out.below (below_new _ _)).away HV5.out hg
                have HB5 : Hid (Below w.heap.size w w') := (HB4.out.trans ((below_new w4 _).mono HB4.out.size)).trans (HV5.out.grown HS5.out hg)
                obtain ⟨av', cv', rfl, _⟩ := HO.out.form
                clear ho hg HV5 HT5 HS5 d0
                go_wp2
                go_roundw
                case rel => exact ⟨i + 1, av', _, cv', _, by omega, by go_num, rfl, HO, HMN, HI5, HB5⟩
                case measure => simp [intOf]; omega
    · obtain rfl : i = ne := by omega
      have HX : Hid (RightS Sp.zr out ∧ ∀ u, atS out u = tellF how (atS la u) (atS lb u)) := by
        have h1 := HM.out
        rw [List.drop_of_length_le (by rw [HI.out.rd.size]; omega)] at h1
        exact MadeS.done HRA.out HRB.out h1
      clear HM
      go_wp2
      go_ret
      exact ⟨⟨av, nv, cv, out, rfl, HV, HX⟩, HB.out⟩
end Go.Proofs.Ytcgjpkdpemlmbaa
