/- cover: nothingWithin, sideInside of whatever sides. -/
import Derived.Test.YtnfeklebfnlgkaaGreatCvF3
namespace Go.Proofs.YtnfeklebfnlgkaaGreat
set_option maxRecDepth 100000
open Go.RowKit

theorem bits3_fin : ∀ n : Fin 256, (bits BinOp.and IntKind.u8 ((n.val : Nat) : Int) 3 == 0) = decide (((n.val : Nat) : Int) % 4 = 0) := by decide +kernel
theorem bits3 (t : Int) (h : 0 ≤ t ∧ t ≤ 255) : (bits BinOp.and IntKind.u8 t 3 == 0) = decide (t % 4 = 0) := by
  obtain ⟨n, rfl⟩ := Int.eq_ofNat_of_zero_le h.1
  exact bits3_fin ⟨n, by omega⟩
/-- Are the bits of the one among the other's? -/
def truthU (a b : Int) : Bool := (decide (a % 2 = 0) || decide (b % 2 = 1)) && (decide (a / 2 % 2 = 0) || decide (b / 2 % 2 = 1))
theorem bits3_mod : ∀ n : Fin 256, bits BinOp.and IntKind.u8 ((n.val : Nat) : Int) 3 = ((n.val % 4 : Nat) : Int) := by decide +kernel
theorem bitsU_fin : ∀ m : Fin 4, ∀ n : Fin 256, (bits BinOp.andNot IntKind.u8 ((m.val : Nat) : Int) ((n.val : Nat) : Int) == 0) = truthU ((m.val : Nat) : Int) ((n.val : Nat) : Int) := by decide +kernel
theorem bitsU (a b : Int) (ha : 0 ≤ a ∧ a ≤ 255) (hb : 0 ≤ b ∧ b ≤ 255) : (bits BinOp.andNot IntKind.u8 (bits BinOp.and IntKind.u8 a 3) b == 0) = truthU a b := by
  obtain ⟨n, rfl⟩ := Int.eq_ofNat_of_zero_le ha.1
  obtain ⟨m, rfl⟩ := Int.eq_ofNat_of_zero_le hb.1
  have h1 := bits3_mod ⟨n, by omega⟩
  simp only at h1
  have h2 := bitsU_fin ⟨n % 4, by omega⟩ ⟨m, by omega⟩
  simp only at h2
  rw [show bits BinOp.and IntKind.u8 ((n : Nat) : Int) 3 = ((n % 4 : Nat) : Int) from h1]
  rw [show (bits BinOp.andNot IntKind.u8 ((n % 4 : Nat) : Int) ((m : Nat) : Int) == 0) = truthU ((n % 4 : Nat) : Int) ((m : Nat) : Int) from h2]
  unfold truthU
  have e1 : (((n % 4 : Nat) : Int) % 2 = 0) ↔ (((n : Nat) : Int) % 2 = 0) := by omega
  have e2 : (((n % 4 : Nat) : Int) / 2 % 2 = 0) ↔ (((n : Nat) : Int) / 2 % 2 = 0) := by omega
  rw [decide_eq_decide.2 e1, decide_eq_decide.2 e2]
/-- Has a side nothing within? -/
def nothS (s : Sq) : Bool := if s.kd = 1 then decide (s.hi < s.lo) else if s.kd = 2 then !s.op && !Op.bytesLess s.fr.toList s.to.toList else if s.kd = 3 then decide (s.tr % 4 = 0) else s.no
/-- Does a side let nothing through that another one of its kind does not? -/
def sideB (s q : Sq) : Bool := if s.kd = 1 then decide (q.lo ≤ s.lo) && decide (s.hi ≤ q.hi) else if s.kd = 2 then leB q.fr s.fr && (q.op || (!s.op && leB s.to q.to)) else if s.kd = 3 then truthU s.tr q.tr else !q.no && insU s.ins q.ins && outsU s.ins s.outs q.outs
def sideIn (s q : Sq) : Bool := !(s.ab && !q.ab) && (nothS s || sideB s q)
set_option maxHeartbeats 4000000 in
theorem cv_noth (s : Sq) (w : World) (hk : 1 ≤ s.kd ∧ s.kd ≤ 4) (ht : 0 ≤ s.tr ∧ s.tr ≤ 255) : Calls Tryz.prog 36 #[.agg (sqc s).toArray] w fun e w' => e = .returned (.bool (nothS s)) ∧ Below w.heap.size w w' := by
  have HB : Hid (Below w.heap.size w (w.alloc (.cells (sqc s).toArray 40))) := below_alloc w _
  have HK : Hid (Blk (w.alloc (.cells (sqc s).toArray 40)) w.heap.size (sqc s).toArray 40) := Blk.new w _ _
  obtain ⟨W1, HW1⟩ : ∃ W1, Hid (W1 = w.alloc (.cells (sqc s).toArray 40)) := ⟨_, rfl⟩
  rw [← HW1.out] at HB HK
  have HT3 : Hid ((bits BinOp.and IntKind.u8 s.tr 3 == 0) = decide (s.tr % 4 = 0)) := bits3 _ ht
  have c1 : W1.cell? ⟨w.heap.size, 1, none⟩ = some (.int .i64 s.kd) := HK.out.cell 1 rfl
  have h4 : s.kd = 1 ∨ s.kd = 2 ∨ s.kd = 3 ∨ s.kd = 4 := by omega
  clear hk ht
  rcases h4 with h4 | h4 | h4 | h4
  · have HN : Hid (nothS s = decide (s.hi < s.lo)) := by (show _ = _); rw [nothS, if_pos h4]
    rw [HN.out]
    rw [h4] at c1
    clear h4
    have c3 : W1.cell? ⟨w.heap.size, 3, none⟩ = some (.int .i64 s.lo) := HK.out.cell 3 rfl
    have c4 : W1.cell? ⟨w.heap.size, 4, none⟩ = some (.int .i64 s.hi) := HK.out.cell 4 rfl
    go_enter Tryz.func36, Tryz.ntmps36
    go_upto_region 1 with fail
    rw [← HW1.out]
    go_wp2
    go_returns
    exact ⟨rfl, HB.out⟩
  · have HN : Hid (nothS s = (!s.op && !Op.bytesLess s.fr.toList s.to.toList)) := by (show _ = _); rw [nothS, if_neg (by omega), if_pos h4]
    rw [HN.out]
    rw [h4] at c1
    clear h4
    have c5 : W1.cell? ⟨w.heap.size, 5, none⟩ = some (.string s.fr) := HK.out.cell 5 rfl
    have c6 : W1.cell? ⟨w.heap.size, 6, none⟩ = some (.string s.to) := HK.out.cell 6 rfl
    have c7 : W1.cell? ⟨w.heap.size, 7, none⟩ = some (.bool s.op) := HK.out.cell 7 rfl
    obtain ⟨op, HOP⟩ : ∃ b, Hid (b = s.op) := ⟨_, rfl⟩
    rw [← HOP.out] at c7 ⊢
    cases op with
    | true =>
      go_enter Tryz.func36, Tryz.ntmps36
      go_upto_region 1 with fail
      rw [← HW1.out]
      go_wp2
      go_returns
      exact ⟨rfl, HB.out⟩
    | false =>
      go_enter Tryz.func36, Tryz.ntmps36
      go_upto_region 1 with fail
      rw [← HW1.out]
      go_wp2
      go_returns
      exact ⟨rfl, HB.out⟩
  · have HN : Hid (nothS s = decide (s.tr % 4 = 0)) := by (show _ = _); rw [nothS, if_neg (by omega), if_neg (by omega), if_pos h4]
    rw [HN.out, ← HT3.out]
    rw [h4] at c1
    clear h4
    have c8 : W1.cell? ⟨w.heap.size, 8, none⟩ = some (.int .u8 s.tr) := HK.out.cell 8 rfl
    go_enter Tryz.func36, Tryz.ntmps36
    go_upto_region 1 with fail
    rw [← HW1.out]
    go_wp2
    go_returns
    exact ⟨rfl, HB.out⟩
  · have HN : Hid (nothS s = s.no) := by (show _ = _); rw [nothS, if_neg (by omega), if_neg (by omega), if_neg (by omega)]
    rw [HN.out]
    rw [h4] at c1
    clear h4
    have c9 : W1.cell? ⟨w.heap.size, 9, none⟩ = some (.bool s.no) := HK.out.cell 9 rfl
    go_enter Tryz.func36, Tryz.ntmps36
    go_upto_region 1 with fail
    rw [← HW1.out]
    go_wp2
    go_returns
    exact ⟨rfl, HB.out⟩
/-- What sideInside needs to know of its two sides. -/
structure SideOk (w : World) (s : Sq) : Prop where
  kd : 1 ≤ s.kd ∧ s.kd ≤ 4
  tr : 0 ≤ s.tr ∧ s.tr ≤ 255
  ins : DcsRd w s.ia s.il s.ins
  outs : DcsRd w s.oa s.ol s.outs
  small : s.kd = 4 → s.il ≤ 4 ∧ s.ol ≤ 4
  ok : s.kd = 4 → (∀ t ∈ s.ins, OkD t) ∧ ∀ t ∈ s.outs, OkD t
theorem SideOk.below {w w' : World} {s : Sq} (h : SideOk w s) (hb : Below w.heap.size w w') : SideOk w' s := ⟨h.kd, h.tr, h.ins.below hb, h.outs.below hb, h.small, h.ok⟩
set_option maxHeartbeats 8000000 in
theorem cv_sideIn (s q : Sq) (w : World) (hs : SideOk w s) (hq : SideOk w q) (hkq : q.kd = s.kd) : Calls Tryz.prog 25 #[.agg (sqc s).toArray, .agg (sqc q).toArray] w fun e w' => e = .returned (.bool (sideIn s q)) ∧ Below w.heap.size w w' := by
  obtain ⟨W1, HW1⟩ : ∃ W1, Hid (W1 = (w.alloc (.cells (sqc s).toArray 40)).alloc (.cells (sqc q).toArray 40)) := ⟨_, rfl⟩
  have HX1 : Hid (Below w.heap.size w W1) := by (show Below _ _ _); rw [HW1.out]; exact below_two _ _ _
  have HK0 : Hid (Blk W1 w.heap.size (sqc s).toArray 40) := by (show Blk _ _ _ _); rw [HW1.out]; exact blk_two0 _ _ _ _
  have HK1 : Hid (Blk W1 (w.heap.size + 1) (sqc q).toArray 40) := by (show Blk _ _ _ _); rw [HW1.out]; exact blk_two1 _ _ _ _
  have HSO : Hid (SideOk w s) := hs
  have HQO : Hid (SideOk w q) := hq
  have HKQ : Hid (q.kd = s.kd) := hkq
  have HTU : Hid ((bits BinOp.andNot IntKind.u8 (bits BinOp.and IntKind.u8 s.tr 3) q.tr == 0) = truthU s.tr q.tr) := bitsU _ _ hs.tr hq.tr
  have HN := cv_noth s W1 hs.kd hs.tr
  obtain ⟨N, hN⟩ : ∃ N, N = nothS s := ⟨_, rfl⟩
  obtain ⟨E, HE⟩ : ∃ E, Hid (E = sideIn s q) := ⟨_, rfl⟩
  have HEV : Hid (E = (!(s.ab && !q.ab) && (N || sideB s q))) := by (show _ = _); rw [HE.out, sideIn, hN]
  rw [← hN] at HN
  rw [← HE.out]
  have k2 : W1.cell? ⟨w.heap.size, 2, none⟩ = some (.bool s.ab) := HK0.out.cell 2 rfl
  have m2 : W1.cell? ⟨w.heap.size + 1, 2, none⟩ = some (.bool q.ab) := HK1.out.cell 2 rfl
  obtain ⟨sab, hsab⟩ : ∃ b, b = s.ab := ⟨_, rfl⟩
  obtain ⟨qab, hqab⟩ : ∃ b, b = q.ab := ⟨_, rfl⟩
  rw [← hsab] at k2
  rw [← hqab] at m2
  rw [← hsab, ← hqab] at HEV
  have h4 : s.kd = 1 ∨ s.kd = 2 ∨ s.kd = 3 ∨ s.kd = 4 := by have := hs.kd; omega
  clear hs hq hkq hN HE hsab hqab
  cases sab with
  | false =>
    have HNE : Hid (E = (N || sideB s q)) := HEV.out
    go_enter Tryz.func25, Tryz.ntmps25
    go_upto_region 1 with fail
    rw [← HW1.out]
    go_wp2_with (guard_target =~ wpList _ _ _ (Oper.mk (some 12) _ _ _ _ _ :: _) _ _; refine wpList_load_mid rfl 40 (.tmp 2) rfl w.heap.size 0 rfl (sqc s) _ HK0.out.all Tryz.underlying40 rfl (by rfl) ?_)
    refine HN.mono ?_
    rintro e w2 ⟨rfl, hb2⟩
    have HX2 : Hid (Below w.heap.size w w2) := HX1.out.trans (hb2.mono HX1.out.size)
    have HK2 : Hid (Blk w2 w.heap.size (sqc s).toArray 40) := HK0.out.stay hb2
    have HK3 : Hid (Blk w2 (w.heap.size + 1) (sqc q).toArray 40) := HK1.out.stay hb2
    clear hb2 HN k2 m2
    cases N with
    | true =>
      have HRT : Hid (E = true) := by (show _ = _); rw [HNE.out]; rfl
      go_wp2
      go_returns
      exact ⟨by rw [HRT.out]; rfl, HX2.out⟩
    | false =>
      have HRS : Hid (sideB s q = E) := by (show _ = _); rw [HNE.out]; rfl
      rcases h4 with h4 | h4 | h4 | h4
      · have HSB : Hid (sideB s q = (decide (q.lo ≤ s.lo) && decide (s.hi ≤ q.hi))) := by (show _ = _); rw [sideB, if_pos h4]
        rw [HSB.out] at HRS
        have z1 : w2.cell? ⟨w.heap.size, 1, none⟩ = some (.int .i64 s.kd) := HK2.out.cell 1 rfl
        rw [h4] at z1
        have z3 : w2.cell? ⟨w.heap.size, 3, none⟩ = some (.int .i64 s.lo) := HK2.out.cell 3 rfl
        have z4 : w2.cell? ⟨w.heap.size, 4, none⟩ = some (.int .i64 s.hi) := HK2.out.cell 4 rfl
        have y3 : w2.cell? ⟨w.heap.size + 1, 3, none⟩ = some (.int .i64 q.lo) := HK3.out.cell 3 rfl
        have y4 : w2.cell? ⟨w.heap.size + 1, 4, none⟩ = some (.int .i64 q.hi) := HK3.out.cell 4 rfl
        clear h4
        by_cases hlo : q.lo ≤ s.lo
        · rw [decide_eq_true hlo, Bool.true_and] at HRS
          go_wp2
          go_returns
          exact ⟨by rw [← HRS.out]; rfl, HX2.out⟩
        · rw [decide_eq_false hlo, Bool.false_and] at HRS
          go_wp2
          go_returns
          exact ⟨by rw [← HRS.out]; rfl, HX2.out⟩
      · have HSB : Hid (sideB s q = (leB q.fr s.fr && (q.op || (!s.op && leB s.to q.to)))) := by (show _ = _); rw [sideB, if_neg (by omega), if_pos h4]
        rw [HSB.out] at HRS
        have z1 : w2.cell? ⟨w.heap.size, 1, none⟩ = some (.int .i64 s.kd) := HK2.out.cell 1 rfl
        rw [h4] at z1
        have z5 : w2.cell? ⟨w.heap.size, 5, none⟩ = some (.string s.fr) := HK2.out.cell 5 rfl
        have z6 : w2.cell? ⟨w.heap.size, 6, none⟩ = some (.string s.to) := HK2.out.cell 6 rfl
        have z7 : w2.cell? ⟨w.heap.size, 7, none⟩ = some (.bool s.op) := HK2.out.cell 7 rfl
        have y5 : w2.cell? ⟨w.heap.size + 1, 5, none⟩ = some (.string q.fr) := HK3.out.cell 5 rfl
        have y6 : w2.cell? ⟨w.heap.size + 1, 6, none⟩ = some (.string q.to) := HK3.out.cell 6 rfl
        have y7 : w2.cell? ⟨w.heap.size + 1, 7, none⟩ = some (.bool q.op) := HK3.out.cell 7 rfl
        clear h4
        obtain ⟨sop, hsop⟩ : ∃ b, b = s.op := ⟨_, rfl⟩
        obtain ⟨qop, hqop⟩ : ∃ b, b = q.op := ⟨_, rfl⟩
        rw [← hsop] at z7
        rw [← hqop] at y7
        rw [← hsop, ← hqop] at HRS
        clear hsop hqop
        obtain ⟨L1, HL1⟩ : ∃ L, Hid (L = leB q.fr s.fr) := ⟨_, rfl⟩
        rw [← HL1.out] at HRS
        have e1 : (Op.bytesLess q.fr.toList s.fr.toList || q.fr.toList == s.fr.toList) = L1 := HL1.out.symm
        cases L1 with
        | false =>
          rw [Bool.false_and] at HRS
          have e2 : Op.bytesLess q.fr.toList s.fr.toList = false := (Bool.or_eq_false_iff.1 e1).1
          have e3 : (q.fr.toList == s.fr.toList) = false := (Bool.or_eq_false_iff.1 e1).2
          go_wp2
          go_returns
          exact ⟨by rw [← HRS.out]; rfl, HX2.out⟩
        | true =>
          rw [Bool.true_and] at HRS
          cases qop with
          | true =>
            go_wp2
            all_goals (
              go_returns
              exact ⟨by rw [← HRS.out]; rfl, HX2.out⟩)
          | false =>
            cases sop with
            | true =>
              go_wp2
              all_goals (
                go_returns
                exact ⟨by rw [← HRS.out]; rfl, HX2.out⟩)
            | false =>
              go_wp2
              all_goals (
                go_returns
                exact ⟨by rw [← HRS.out]; rfl, HX2.out⟩)
      · have HSB : Hid (sideB s q = truthU s.tr q.tr) := by (show _ = _); rw [sideB, if_neg (by omega), if_neg (by omega), if_pos h4]
        rw [HSB.out, ← HTU.out] at HRS
        have z1 : w2.cell? ⟨w.heap.size, 1, none⟩ = some (.int .i64 s.kd) := HK2.out.cell 1 rfl
        rw [h4] at z1
        have z8 : w2.cell? ⟨w.heap.size, 8, none⟩ = some (.int .u8 s.tr) := HK2.out.cell 8 rfl
        have y8 : w2.cell? ⟨w.heap.size + 1, 8, none⟩ = some (.int .u8 q.tr) := HK3.out.cell 8 rfl
        clear h4
        go_wp2
        go_returns
        exact ⟨by rw [← HRS.out]; rfl, HX2.out⟩
      · have HSB : Hid (sideB s q = (!q.no && insU s.ins q.ins && outsU s.ins s.outs q.outs)) := by (show _ = _); rw [sideB, if_neg (by omega), if_neg (by omega), if_neg (by omega)]
        rw [HSB.out] at HRS
        have hsq : (sqc s).toArray = #[.string s.nm, .int .i64 4, .bool s.ab, .int .i64 s.lo, .int .i64 s.hi, .string s.fr, .string s.to, .bool s.op, .int .u8 s.tr, .bool s.no, .slice s.ia s.il s.ic, .slice s.oa s.ol s.oc] := by unfold sqc; rw [h4]
        have HS2 := HSO.out.below HX2.out
        have HQ2 := HQO.out.below HX2.out
        have HIU := cv_insUnder s q w2 HS2.ins HS2.outs HQ2.ins (HS2.small h4) (HQ2.small (HKQ.out.trans h4)).1 (HS2.ok h4).1 (HS2.ok h4).2 (HQ2.ok (HKQ.out.trans h4)).1
        have HOU : Hid (∀ w', Below w2.heap.size w2 w' → Calls Tryz.prog 38 #[.agg (sqc s).toArray, .agg (sqc q).toArray] w' fun e w'' => e = .returned (.bool (outsU s.ins s.outs q.outs)) ∧ Below w'.heap.size w' w'') := fun w' hb => cv_outsUnder s q w' (HS2.ins.below hb) (HS2.outs.below hb) (HQ2.outs.below hb) (HS2.small h4) (HQ2.small (HKQ.out.trans h4)).2 (HS2.ok h4).1 (HS2.ok h4).2 (HQ2.ok (HKQ.out.trans h4)).2
        rw [hsq] at HIU HOU HK2
        have HSQ : Hid (Blk w2 w.heap.size #[.string s.nm, .int .i64 4, .bool s.ab, .int .i64 s.lo, .int .i64 s.hi, .string s.fr, .string s.to, .bool s.op, .int .u8 s.tr, .bool s.no, .slice s.ia s.il s.ic, .slice s.oa s.ol s.oc] 40) := HK2
        have HQQ : Hid (Blk w2 (w.heap.size + 1) #[.string q.nm, .int .i64 q.kd, .bool q.ab, .int .i64 q.lo, .int .i64 q.hi, .string q.fr, .string q.to, .bool q.op, .int .u8 q.tr, .bool q.no, .slice q.ia q.il q.ic, .slice q.oa q.ol q.oc] 40) := HK3
        obtain ⟨qno, hqno⟩ : ∃ b, b = q.no := ⟨_, rfl⟩
        have HQE : Hid ((sqc q).toArray = #[.string q.nm, .int .i64 q.kd, .bool q.ab, .int .i64 q.lo, .int .i64 q.hi, .string q.fr, .string q.to, .bool q.op, .int .u8 q.tr, .bool qno, .slice q.ia q.il q.ic, .slice q.oa q.ol q.oc]) := by (show _ = _); rw [hqno]; rfl
        rw [HQE.out] at HIU HOU
        rw [← hqno] at HRS HQQ
        obtain ⟨z0, z1, z2, z3, z4, z5, z6, z7, z8, z9, z10, z11⟩ := side_cells HSQ.out
        obtain ⟨y0, y1, y2, y3, y4, y5, y6, y7, y8, y9, y10, y11⟩ := side_cells HQQ.out
        obtain ⟨B1, HB1⟩ : ∃ B, Hid (B = insU s.ins q.ins) := ⟨_, rfl⟩
        rw [← HB1.out] at HIU HRS
        clear h4 hqno HS2 HQ2 hsq
        cases qno with
        | true =>
          have HRF : Hid (E = false) := by (show _ = _); rw [← HRS.out]; rfl
          clear HIU
          go_wp2
          go_returns
          exact ⟨by rw [HRF.out]; rfl, HX2.out⟩
        | false =>
          cases B1 with
          | false =>
            have HRF : Hid (E = false) := by (show _ = _); rw [← HRS.out]; rfl
            go_wp2_with fail
            refine HIU.mono ?_
            rintro e w3 ⟨rfl, hb3⟩
            have HX3 : Hid (Below w.heap.size w w3) := HX2.out.trans (hb3.mono HX2.out.size)
            clear hb3 HIU
            go_wp2
            go_returns
            exact ⟨by rw [HRF.out]; rfl, HX3.out⟩
          | true =>
            have HRF : Hid (outsU s.ins s.outs q.outs = E) := by (show _ = _); rw [← HRS.out]; rfl
            go_wp2_with fail
            refine HIU.mono ?_
            rintro e w3 ⟨rfl, hb3⟩
            have HX3 : Hid (Below w.heap.size w w3) := HX2.out.trans (hb3.mono HX2.out.size)
            have HO3 := HOU.out w3 hb3
            have hk4 := HSQ.out.stay hb3
            have hk5 := HQQ.out.stay hb3
            clear HIU z0 z1 z2 z3 z4 z5 z6 z7 z8 z9 z10 z11 y0 y1 y2 y3 y4 y5 y6 y7 y8 y9 y10 y11
            obtain ⟨z0, z1, z2, z3, z4, z5, z6, z7, z8, z9, z10, z11⟩ := side_cells hk4
            obtain ⟨y0, y1, y2, y3, y4, y5, y6, y7, y8, y9, y10, y11⟩ := side_cells hk5
            clear hb3 hk4 hk5
            rw [HRF.out] at HO3
            go_wp2_with fail
            refine HO3.mono ?_
            rintro e w4 ⟨rfl, hb4⟩
            have HX4 : Hid (Below w.heap.size w w4) := HX3.out.trans (hb4.mono HX3.out.size)
            clear hb4 HO3
            go_wp2
            go_returns
            exact ⟨rfl, HX4.out⟩
  | true =>
    cases qab with
    | false =>
      have HRF : Hid (E = false) := HEV.out
      clear HN h4
      go_enter Tryz.func25, Tryz.ntmps25
      go_upto_region 1 with fail
      rw [← HW1.out]
      go_wp2
      go_returns
      exact ⟨by rw [HRF.out]; rfl, HX1.out⟩
    | true =>
      have HNE : Hid (E = (N || sideB s q)) := HEV.out
      go_enter Tryz.func25, Tryz.ntmps25
      go_upto_region 1 with fail
      rw [← HW1.out]
      go_wp2_with (guard_target =~ wpList _ _ _ (Oper.mk (some 12) _ _ _ _ _ :: _) _ _; refine wpList_load_mid rfl 40 (.tmp 2) rfl w.heap.size 0 rfl (sqc s) _ HK0.out.all Tryz.underlying40 rfl (by rfl) ?_)
      refine HN.mono ?_
      rintro e w2 ⟨rfl, hb2⟩
      have HX2 : Hid (Below w.heap.size w w2) := HX1.out.trans (hb2.mono HX1.out.size)
      have HK2 : Hid (Blk w2 w.heap.size (sqc s).toArray 40) := HK0.out.stay hb2
      have HK3 : Hid (Blk w2 (w.heap.size + 1) (sqc q).toArray 40) := HK1.out.stay hb2
      clear hb2 HN k2 m2
      cases N with
      | true =>
        have HRT : Hid (E = true) := by (show _ = _); rw [HNE.out]; rfl
        go_wp2
        go_returns
        exact ⟨by rw [HRT.out]; rfl, HX2.out⟩
      | false =>
        have HRS : Hid (sideB s q = E) := by (show _ = _); rw [HNE.out]; rfl
        rcases h4 with h4 | h4 | h4 | h4
        · have HSB : Hid (sideB s q = (decide (q.lo ≤ s.lo) && decide (s.hi ≤ q.hi))) := by (show _ = _); rw [sideB, if_pos h4]
          rw [HSB.out] at HRS
          have z1 : w2.cell? ⟨w.heap.size, 1, none⟩ = some (.int .i64 s.kd) := HK2.out.cell 1 rfl
          rw [h4] at z1
          have z3 : w2.cell? ⟨w.heap.size, 3, none⟩ = some (.int .i64 s.lo) := HK2.out.cell 3 rfl
          have z4 : w2.cell? ⟨w.heap.size, 4, none⟩ = some (.int .i64 s.hi) := HK2.out.cell 4 rfl
          have y3 : w2.cell? ⟨w.heap.size + 1, 3, none⟩ = some (.int .i64 q.lo) := HK3.out.cell 3 rfl
          have y4 : w2.cell? ⟨w.heap.size + 1, 4, none⟩ = some (.int .i64 q.hi) := HK3.out.cell 4 rfl
          clear h4
          by_cases hlo : q.lo ≤ s.lo
          · rw [decide_eq_true hlo, Bool.true_and] at HRS
            go_wp2
            go_returns
            exact ⟨by rw [← HRS.out]; rfl, HX2.out⟩
          · rw [decide_eq_false hlo, Bool.false_and] at HRS
            go_wp2
            go_returns
            exact ⟨by rw [← HRS.out]; rfl, HX2.out⟩
        · have HSB : Hid (sideB s q = (leB q.fr s.fr && (q.op || (!s.op && leB s.to q.to)))) := by (show _ = _); rw [sideB, if_neg (by omega), if_pos h4]
          rw [HSB.out] at HRS
          have z1 : w2.cell? ⟨w.heap.size, 1, none⟩ = some (.int .i64 s.kd) := HK2.out.cell 1 rfl
          rw [h4] at z1
          have z5 : w2.cell? ⟨w.heap.size, 5, none⟩ = some (.string s.fr) := HK2.out.cell 5 rfl
          have z6 : w2.cell? ⟨w.heap.size, 6, none⟩ = some (.string s.to) := HK2.out.cell 6 rfl
          have z7 : w2.cell? ⟨w.heap.size, 7, none⟩ = some (.bool s.op) := HK2.out.cell 7 rfl
          have y5 : w2.cell? ⟨w.heap.size + 1, 5, none⟩ = some (.string q.fr) := HK3.out.cell 5 rfl
          have y6 : w2.cell? ⟨w.heap.size + 1, 6, none⟩ = some (.string q.to) := HK3.out.cell 6 rfl
          have y7 : w2.cell? ⟨w.heap.size + 1, 7, none⟩ = some (.bool q.op) := HK3.out.cell 7 rfl
          clear h4
          obtain ⟨sop, hsop⟩ : ∃ b, b = s.op := ⟨_, rfl⟩
          obtain ⟨qop, hqop⟩ : ∃ b, b = q.op := ⟨_, rfl⟩
          rw [← hsop] at z7
          rw [← hqop] at y7
          rw [← hsop, ← hqop] at HRS
          clear hsop hqop
          obtain ⟨L1, HL1⟩ : ∃ L, Hid (L = leB q.fr s.fr) := ⟨_, rfl⟩
          rw [← HL1.out] at HRS
          have e1 : (Op.bytesLess q.fr.toList s.fr.toList || q.fr.toList == s.fr.toList) = L1 := HL1.out.symm
          cases L1 with
          | false =>
            rw [Bool.false_and] at HRS
            have e2 : Op.bytesLess q.fr.toList s.fr.toList = false := (Bool.or_eq_false_iff.1 e1).1
            have e3 : (q.fr.toList == s.fr.toList) = false := (Bool.or_eq_false_iff.1 e1).2
            go_wp2
            go_returns
            exact ⟨by rw [← HRS.out]; rfl, HX2.out⟩
          | true =>
            rw [Bool.true_and] at HRS
            cases qop with
            | true =>
              go_wp2
              all_goals (
                go_returns
                exact ⟨by rw [← HRS.out]; rfl, HX2.out⟩)
            | false =>
              cases sop with
              | true =>
                go_wp2
                all_goals (
                  go_returns
                  exact ⟨by rw [← HRS.out]; rfl, HX2.out⟩)
              | false =>
                go_wp2
                all_goals (
                  go_returns
                  exact ⟨by rw [← HRS.out]; rfl, HX2.out⟩)
        · have HSB : Hid (sideB s q = truthU s.tr q.tr) := by (show _ = _); rw [sideB, if_neg (by omega), if_neg (by omega), if_pos h4]
          rw [HSB.out, ← HTU.out] at HRS
          have z1 : w2.cell? ⟨w.heap.size, 1, none⟩ = some (.int .i64 s.kd) := HK2.out.cell 1 rfl
          rw [h4] at z1
          have z8 : w2.cell? ⟨w.heap.size, 8, none⟩ = some (.int .u8 s.tr) := HK2.out.cell 8 rfl
          have y8 : w2.cell? ⟨w.heap.size + 1, 8, none⟩ = some (.int .u8 q.tr) := HK3.out.cell 8 rfl
          clear h4
          go_wp2
          go_returns
          exact ⟨by rw [← HRS.out]; rfl, HX2.out⟩
        · have HSB : Hid (sideB s q = (!q.no && insU s.ins q.ins && outsU s.ins s.outs q.outs)) := by (show _ = _); rw [sideB, if_neg (by omega), if_neg (by omega), if_neg (by omega)]
          rw [HSB.out] at HRS
          have hsq : (sqc s).toArray = #[.string s.nm, .int .i64 4, .bool s.ab, .int .i64 s.lo, .int .i64 s.hi, .string s.fr, .string s.to, .bool s.op, .int .u8 s.tr, .bool s.no, .slice s.ia s.il s.ic, .slice s.oa s.ol s.oc] := by unfold sqc; rw [h4]
          have HS2 := HSO.out.below HX2.out
          have HQ2 := HQO.out.below HX2.out
          have HIU := cv_insUnder s q w2 HS2.ins HS2.outs HQ2.ins (HS2.small h4) (HQ2.small (HKQ.out.trans h4)).1 (HS2.ok h4).1 (HS2.ok h4).2 (HQ2.ok (HKQ.out.trans h4)).1
          have HOU : Hid (∀ w', Below w2.heap.size w2 w' → Calls Tryz.prog 38 #[.agg (sqc s).toArray, .agg (sqc q).toArray] w' fun e w'' => e = .returned (.bool (outsU s.ins s.outs q.outs)) ∧ Below w'.heap.size w' w'') := fun w' hb => cv_outsUnder s q w' (HS2.ins.below hb) (HS2.outs.below hb) (HQ2.outs.below hb) (HS2.small h4) (HQ2.small (HKQ.out.trans h4)).2 (HS2.ok h4).1 (HS2.ok h4).2 (HQ2.ok (HKQ.out.trans h4)).2
          rw [hsq] at HIU HOU HK2
          have HSQ : Hid (Blk w2 w.heap.size #[.string s.nm, .int .i64 4, .bool s.ab, .int .i64 s.lo, .int .i64 s.hi, .string s.fr, .string s.to, .bool s.op, .int .u8 s.tr, .bool s.no, .slice s.ia s.il s.ic, .slice s.oa s.ol s.oc] 40) := HK2
          have HQQ : Hid (Blk w2 (w.heap.size + 1) #[.string q.nm, .int .i64 q.kd, .bool q.ab, .int .i64 q.lo, .int .i64 q.hi, .string q.fr, .string q.to, .bool q.op, .int .u8 q.tr, .bool q.no, .slice q.ia q.il q.ic, .slice q.oa q.ol q.oc] 40) := HK3
          obtain ⟨qno, hqno⟩ : ∃ b, b = q.no := ⟨_, rfl⟩
          have HQE : Hid ((sqc q).toArray = #[.string q.nm, .int .i64 q.kd, .bool q.ab, .int .i64 q.lo, .int .i64 q.hi, .string q.fr, .string q.to, .bool q.op, .int .u8 q.tr, .bool qno, .slice q.ia q.il q.ic, .slice q.oa q.ol q.oc]) := by (show _ = _); rw [hqno]; rfl
          rw [HQE.out] at HIU HOU
          rw [← hqno] at HRS HQQ
          obtain ⟨z0, z1, z2, z3, z4, z5, z6, z7, z8, z9, z10, z11⟩ := side_cells HSQ.out
          obtain ⟨y0, y1, y2, y3, y4, y5, y6, y7, y8, y9, y10, y11⟩ := side_cells HQQ.out
          obtain ⟨B1, HB1⟩ : ∃ B, Hid (B = insU s.ins q.ins) := ⟨_, rfl⟩
          rw [← HB1.out] at HIU HRS
          clear h4 hqno HS2 HQ2 hsq
          cases qno with
          | true =>
            have HRF : Hid (E = false) := by (show _ = _); rw [← HRS.out]; rfl
            clear HIU
            go_wp2
            go_returns
            exact ⟨by rw [HRF.out]; rfl, HX2.out⟩
          | false =>
            cases B1 with
            | false =>
              have HRF : Hid (E = false) := by (show _ = _); rw [← HRS.out]; rfl
              go_wp2_with fail
              refine HIU.mono ?_
              rintro e w3 ⟨rfl, hb3⟩
              have HX3 : Hid (Below w.heap.size w w3) := HX2.out.trans (hb3.mono HX2.out.size)
              clear hb3 HIU
              go_wp2
              go_returns
              exact ⟨by rw [HRF.out]; rfl, HX3.out⟩
            | true =>
              have HRF : Hid (outsU s.ins s.outs q.outs = E) := by (show _ = _); rw [← HRS.out]; rfl
              go_wp2_with fail
              refine HIU.mono ?_
              rintro e w3 ⟨rfl, hb3⟩
              have HX3 : Hid (Below w.heap.size w w3) := HX2.out.trans (hb3.mono HX2.out.size)
              have HO3 := HOU.out w3 hb3
              have hk4 := HSQ.out.stay hb3
              have hk5 := HQQ.out.stay hb3
              clear HIU z0 z1 z2 z3 z4 z5 z6 z7 z8 z9 z10 z11 y0 y1 y2 y3 y4 y5 y6 y7 y8 y9 y10 y11
              obtain ⟨z0, z1, z2, z3, z4, z5, z6, z7, z8, z9, z10, z11⟩ := side_cells hk4
              obtain ⟨y0, y1, y2, y3, y4, y5, y6, y7, y8, y9, y10, y11⟩ := side_cells hk5
              clear hb3 hk4 hk5
              rw [HRF.out] at HO3
              go_wp2_with fail
              refine HO3.mono ?_
              rintro e w4 ⟨rfl, hb4⟩
              have HX4 : Hid (Below w.heap.size w w4) := HX3.out.trans (hb4.mono HX3.out.size)
              clear hb4 HO3
              go_wp2
              go_returns
              exact ⟨rfl, HX4.out⟩
end Go.Proofs.YtnfeklebfnlgkaaGreat
