/- span.Join: the right map in which of each tick the greater one is known. -/
import Derived.Test.YtidihfhgnjkmaaaSpLay
namespace Go.Proofs.Ytidihfhgnjkmaaa
open Go.RowKit

theorem RightS_fits : ∀ (l : List Sp) (p : Sp), 0 ≤ p.to → RightS p l → ∀ q ∈ l, 1 ≤ q.fr ∧ q.fr ≤ 1099511627776 ∧ q.fr ≤ q.to ∧ q.to ≤ 1099511627776 ∧ 1 ≤ q.is ∧ q.is ≤ 3
  | [], _, _, _, q, hq => by cases hq
  | s :: l, p, hp, ⟨h1, h2, h3, h4, h5, h6, h7⟩, q, hq => by
    rcases List.mem_cons.1 hq with rfl | hq
    · exact ⟨by omega, by omega, h2, h3, h4, h5⟩
    · exact RightS_fits l s (by omega) h7 q hq
theorem behindS_sub : ∀ (l : List Sp) (t : Int), ∀ q ∈ behindS l t, q ∈ l
  | [], _, _, h => h
  | s :: l, t, q, h => by
    rw [behindS] at h
    split at h
    · exact List.mem_cons_of_mem _ (behindS_sub l t q h)
    · exact h
/-- What a join tells: ErrArg, unless both are right. -/
def JoinTold (w : World) (B : Nat) (a b : List Sp) (e : Ending) : Prop :=
  ((rightB Sp.zr a = false ∨ rightB Sp.zr b = false) ∧ e = .returned (.tuple #[.slice none 0 0, .int .i64 2])) ∨
  (RightS Sp.zr a ∧ RightS Sp.zr b ∧ ∃ v l, e = .returned (.tuple #[v, .int .i64 0]) ∧ Sps w B v l ∧ RightS Sp.zr l ∧ ∀ t, atS l t = max (atS a t) (atS b t))

theorem run_min_i (w : World) (ts : Array TypeId) (t : TypeId) (x y : Int) : (Builtin.min_ ts t #[.int .i64 x, .int .i64 y]).run Try.prog w = .ok (.int .i64 (min x y)) w := by
  by_cases h : y < x
  · rw [show min x y = y from by omega]
    simp [Builtin.min_, Builtin.min2, go_sem]
    omega
  · rw [show min x y = x from by omega]
    simp [Builtin.min_, Builtin.min2, go_sem]
    omega
theorem run_max_i (w : World) (ts : Array TypeId) (t : TypeId) (x y : Int) : (Builtin.max_ ts t #[.int .i64 x, .int .i64 y]).run Try.prog w = .ok (.int .i64 (max x y)) w := by
  by_cases h : x < y
  · rw [show max x y = y from by omega]
    simp [Builtin.max_, Builtin.max2, go_sem]
    omega
  · rw [show max x y = x from by omega]
    simp [Builtin.max_, Builtin.max2, go_sem]
    omega

set_option maxRecDepth 100000 in
set_option maxHeartbeats 1000000 in
theorem span_Join (a b : Option Addr) (na ca nb cb : Nat) (la lb : List Sp) (w : World) (ha : SpsRd w a na la) (hb : SpsRd w b nb lb) (hca : na ≤ ca) (hcma : ca ≤ maxLen) (hcb : nb ≤ cb) (hcmb : cb ≤ maxLen) :
    Calls Try.prog 34 #[.slice a na ca, .slice b nb cb] w fun e w' => Hid (JoinTold w' w.heap.size la lb e) ∧ Below w.heap.size w w' := by
  have HA : Hid (SpsRd w a na la) := ha
  have HBB : Hid (SpsRd w b nb lb) := hb
  have HCA : Hid (na ≤ ca ∧ ca ≤ maxLen) := ⟨hca, hcma⟩
  have HCB : Hid (nb ≤ cb ∧ cb ≤ maxLen) := ⟨hcb, hcmb⟩
  clear ha hb hca hcma hcb hcmb
  go_enter Try.func34, Try.ntmps34
  go_wp2_with fail
  refine (span_Right a na ca la w HA.out (Nat.le_trans HCA.out.1 HCA.out.2)).mono ?_
  rintro e w1 ⟨rfl, hb1⟩
  have HB1 : Hid (Below w.heap.size w w1) := hb1
  clear hb1
  cases hra : rightB Sp.zr la with
  | false =>
    have HX : Hid (rightB Sp.zr la = false) := hra
    clear hra
    go_wp2
    go_returns
    exact ⟨.inl ⟨.inl HX.out, rfl⟩, HB1.out⟩
  | true =>
    have HXA : Hid (RightS Sp.zr la) := (rightB_iff _ _).1 hra
    clear hra
    go_wp2_with fail
    refine (span_Right b nb cb lb w1 (HBB.out.below HB1.out) (Nat.le_trans HCB.out.1 HCB.out.2)).mono ?_
    rintro e w2 ⟨rfl, hb2⟩
    have HB2 : Hid (Below w.heap.size w w2) := HB1.out.trans (hb2.mono HB1.out.size)
    clear hb2
    cases hrb : rightB Sp.zr lb with
    | false =>
      have HX : Hid (rightB Sp.zr lb = false) := hrb
      clear hrb
      go_wp2
      go_returns
      exact ⟨.inl ⟨.inr HX.out, rfl⟩, HB2.out⟩
    | true =>
      have HXB : Hid (RightS Sp.zr lb) := (rightB_iff _ _).1 hrb
      clear hrb
      go_wp2
      go_loopw [0, 1, 6, 7] (fun t0 t1 t6 t7 wr => ∃ (a' b' : Option Addr) (na' ca' nb' cb' : Nat) (la' lb' out : List Sp) (av : Option Addr) (nv cv : Nat) (t : Int), t0 = .slice a' na' ca' ∧ t1 = .slice b' nb' cb' ∧ t6 = .slice av nv cv ∧ t7 = .int .i64 t ∧
          Hid (JoinS la lb t la' lb' out) ∧ Hid (Sps wr w.heap.size (.slice av nv cv) out) ∧ Hid (SpsRd w a' na' la') ∧ Hid (SpsRd w b' nb' lb') ∧ Hid (na' ≤ ca' ∧ ca' ≤ maxLen) ∧ Hid (nb' ≤ cb' ∧ cb' ≤ maxLen) ∧ Hid ((∀ q ∈ la', q ∈ la) ∧ ∀ q ∈ lb', q ∈ lb) ∧ Hid (Below w.heap.size w wr)) (fun _ _ _ t7 _ => (1099511627777 - intOf t7).toNat)
      case atStart => exact ⟨a, b, na, ca, nb, cb, la, lb, [], none, 0, 0, 1, rfl, rfl, rfl, rfl, JoinS.start HXA.out HXB.out, Sps.nil_ _ _, HA, HBB, HCA, HCB, ⟨fun _ h => h, fun _ h => h⟩, HB2⟩
      case round =>
        obtain ⟨a', b', na', ca', nb', cb', la', lb', out, av, nv, cv, t, rfl, rfl, rfl, rfl, HJ, HV, HRA, HRB, HCA', HCB', HSUB, HB⟩ := hrel
        have hlo := HJ.out.lo
        have hhi := HJ.out.hi
        by_cases ht : t ≤ 1099511627776
        · go_wp2_with fail
          refine (span_behind a' na' ca' la' t wr w (HRA.out.below HB.out) HRA.out HCA'.out.1 HCA'.out.2).mono ?_
          rintro e w3 ⟨⟨a2, na2, ca2, rfl, HRA2, HRA3, HCA2⟩, rfl⟩
          go_wp2_with fail
          refine (span_behind b' nb' cb' lb' t w3 w (HRB.out.below HB.out) HRB.out HCB'.out.1 HCB'.out.2).mono ?_
          rintro e w4 ⟨⟨b2, nb2, cb2, rfl, HRB2, HRB3, HCB2⟩, rfl⟩
          go_wp2_with fail
          refine (span_run a2 na2 ca2 (behindS la' t) t w4 HRA2.out (Nat.le_trans HCA2.out.1 HCA2.out.2) (fun q hq => by have := RightS_fits la Sp.zr (by decide) HXA.out q (HSUB.out.1 q (behindS_sub _ _ q hq)); exact ⟨this.1, this.2.1⟩)).mono ?_
          rintro e w5 ⟨⟨⟨raf, rat, rai⟩, rfl, HRUA⟩, hb5⟩
          simp only
          have HB5 : Hid (Below w4.heap.size w4 w5) := hb5
          clear hb5
          go_wp2_with fail
          refine (span_run b2 nb2 cb2 (behindS lb' t) t w5 (HRB2.out.below HB5.out) (Nat.le_trans HCB2.out.1 HCB2.out.2) (fun q hq => by have := RightS_fits lb Sp.zr (by decide) HXB.out q (HSUB.out.2 q (behindS_sub _ _ q hq)); exact ⟨this.1, this.2.1⟩)).mono ?_
          rintro e w6 ⟨⟨⟨rbf, rbt, rbi⟩, rfl, HRUB⟩, hb6⟩
          simp only
          obtain ⟨mn, HMN⟩ : ∃ m, Hid (m = min rat rbt) := ⟨_, rfl⟩
          obtain ⟨mx, HMX⟩ : ∃ m, Hid (m = max rai rbi) := ⟨_, rfl⟩
          have r1 : ∀ w', (Builtin.min_ #[3, 3] 3 #[.int .i64 rat, .int .i64 rbt]).run Try.prog w' = .ok (.int .i64 mn) w' := fun w' => by rw [HMN.out]; exact run_min_i _ _ _ _ _
          have r2 : ∀ w', (Builtin.max_ #[36, 36] 36 #[.int .i64 rai, .int .i64 rbi]).run Try.prog w' = .ok (.int .i64 mx) w' := fun w' => by rw [HMX.out]; exact run_max_i _ _ _ _ _
          have HS : Hid ((⟨t, mn, mx⟩ : Sp) = bothS (behindS la' t) (behindS lb' t) t) := by
            show _ = _
            rw [HMN.out, HMX.out, bothS, ← HRUA.out, ← HRUB.out]
          have HB6 : Hid (Below w4.heap.size w4 w6) := HB5.out.trans (hb6.mono HB5.out.size)
          clear hb6
          have HX9 : ∀ c1 c2 c3, Hid (Below w4.heap.size w4 (((w6.alloc (.cells c1 38)).alloc (.cells c2 38)).alloc (.cells c3 38))) := fun c1 c2 c3 => ((HB6.out.alloc HB6.out.size _).alloc (by have := HB6.out.size; simp; omega) _).alloc (by have := HB6.out.size; simp; omega) _
          have HLN : Hid (out.length ≤ 2000000000000) := by
            show _ ≤ _
            have h1 := RightS_len out Sp.zr HJ.out.ro
            by_cases h0 : out = []
            · rw [h0]; simp
            · have h2 := h1.2 h0
              have h3 := h1.1
              simp only [Sp.zr] at h2 h3
              omega
          have HLT : Hid (∀ i q, out = i ++ [q] → -9223372036854775808 ≤ q.to ∧ q.to < 9223372036854775807) := by
            intro i q e
            have := RightS_fits out Sp.zr (by decide) HJ.out.ro q (by rw [e]; simp)
            omega
          go_wp2_with fail
          refine (span_lay w.heap.size (.slice av nv cv) out t mn mx _ (HV.out.below (HX9 _ _ _).out) (Nat.le_trans HB.out.size (HX9 _ _ _).out.size) HLN.out HLT.out).mono ?_
          rintro e w7 ⟨⟨v', out', rfl, HV', HLAY⟩, hb7⟩
          have HN7 : Hid (Bk w7 (w6.heap.size + 1 + 1) #[.int .i64 t, .int .i64 mn, .int .i64 mx] 38) := by
            have hnew := Bk.new ((w6.alloc (.cells #[.int .i64 t, .int .i64 rat, .int .i64 rai] 38)).alloc (.cells #[.int .i64 t, .int .i64 rbt, .int .i64 rbi] 38)) #[.int .i64 t, .int .i64 mn, .int .i64 mx] 38
            have hz : ((w6.alloc (.cells #[.int .i64 t, .int .i64 rat, .int .i64 rai] 38)).alloc (.cells #[.int .i64 t, .int .i64 rbt, .int .i64 rbi] 38)).heap.size = w6.heap.size + 1 + 1 := by simp
            rw [hz] at hnew
            refine hnew.grown hb7 (fun e => ?_)
            have h1 := (HV.out.row.lt _ e.symm).2
            have h2 := HB6.out.size
            omega
          have HB7 : Hid (Below w.heap.size w w7) := (HB.out.trans ((HX9 _ _ _).out.mono HB.out.size)).trans ((HV.out.below (HX9 _ _ _).out).grown (Nat.le_trans HB.out.size (HX9 _ _ _).out.size) hb7)
          clear hb7 HX9
          have d1 : w7.cell? ⟨w6.heap.size + 1 + 1, 1, none⟩ = some (.int .i64 mn) := HN7.out.cell 1 rfl
          obtain ⟨HJ', hj1, hj2⟩ := HJ.out.step ht (by rw [← HS.out]; exact HLAY.out)
          rw [← HS.out] at HJ' hj1 hj2
          simp only at HJ' hj1 hj2
          have HJ2 : Hid (JoinS la lb (mn + 1) (behindS la' t) (behindS lb' t) out') := HJ'
          obtain ⟨av', cv', rfl, _⟩ := HV'.out.form
          have HSUB2 : Hid ((∀ q ∈ behindS la' t, q ∈ la) ∧ ∀ q ∈ behindS lb' t, q ∈ lb) := ⟨fun q hq => HSUB.out.1 q (behindS_sub _ _ q hq), fun q hq => HSUB.out.2 q (behindS_sub _ _ q hq)⟩
          clear HJ' HJ HLAY HS r1 r2 HMN HMX HSUB
          go_wp2
          go_roundw
          case rel => exact ⟨a2, b2, na2, ca2, nb2, cb2, _, _, out', av', _, cv', mn + 1, rfl, rfl, rfl, by go_num, HJ2, HV', HRA3, HRB3, HCA2, HCB2, HSUB2, HB7⟩
          case measure => simp [intOf]; omega
        · go_wp2
          go_returns
          obtain ⟨z1, z2⟩ := HJ.out.done (by omega) HXA.out HXB.out
          exact ⟨.inr ⟨HXA.out, HXB.out, .slice av nv cv, out, rfl, HV.out, z1, z2⟩, HB.out⟩
end Go.Proofs.Ytidihfhgnjkmaaa
