/- cover: inside, Inside of whatever boxes. -/
import Derived.Test.YtnfeklebfnlgkaaGreatCvF4
namespace Go.Proofs.YtnfeklebfnlgkaaGreat
set_option maxRecDepth 100000
open Go.RowKit

def eqB (s t : ByteArray) : Bool := s.toList == t.toList
def holdsB (s q : Sq) : Bool := eqB s.nm q.nm && (s.kd == q.kd) && sideIn s q
def inB (la lb : List Sq) : Bool := lb.all fun q => la.any fun s => holdsB s q
set_option maxHeartbeats 4000000 in
theorem cv_holdsG (s q : Sq) (bx : Nat) (w : World) (hk : Blk w bx (sqc q).toArray 40) (hs : SideOk w s) (hq : SideOk w q) : Calls Tryz.prog 24 #[.agg (sqc s).toArray, .pointer (some ⟨bx, 0, none⟩)] w fun e w' => e = .returned (.bool (holdsB s q)) ∧ Below w.heap.size w w' := by
  obtain ⟨W1, HW1⟩ : ∃ W1, Hid (W1 = w.alloc (.cells (sqc s).toArray 40)) := ⟨_, rfl⟩
  have HX1 : Hid (Below w.heap.size w W1) := by (show Below _ _ _); rw [HW1.out]; exact below_alloc _ _
  have HK0 : Hid (Blk W1 w.heap.size #[.string s.nm, .int .i64 s.kd, .bool s.ab, .int .i64 s.lo, .int .i64 s.hi, .string s.fr, .string s.to, .bool s.op, .int .u8 s.tr, .bool s.no, .slice s.ia s.il s.ic, .slice s.oa s.ol s.oc] 40) := by (show Blk _ _ _ _); rw [HW1.out]; exact Blk.new _ _ _
  have HK1 : Hid (Blk W1 bx #[.string q.nm, .int .i64 q.kd, .bool q.ab, .int .i64 q.lo, .int .i64 q.hi, .string q.fr, .string q.to, .bool q.op, .int .u8 q.tr, .bool q.no, .slice q.ia q.il q.ic, .slice q.oa q.ol q.oc] 40) := hk.stay HX1.out
  obtain ⟨z0, z1, z2, z3, z4, z5, z6, z7, z8, z9, z10, z11⟩ := side_cells HK0.out
  obtain ⟨y0, y1, y2, y3, y4, y5, y6, y7, y8, y9, y10, y11⟩ := side_cells HK1.out
  obtain ⟨n1, hn1⟩ : ∃ b, b = eqB s.nm q.nm := ⟨_, rfl⟩
  have e1 : (s.nm.toList == q.nm.toList) = n1 := hn1.symm
  cases n1 with
  | false =>
    have HR : Hid (holdsB s q = false) := by (show _ = _); rw [holdsB, ← hn1]; rfl
    rw [HR.out]
    clear hn1 hk hs hq
    go_enter Tryz.func24, Tryz.ntmps24
    go_upto_region 1 with fail
    rw [← HW1.out]
    go_wp2
    go_returns
    exact ⟨rfl, HX1.out⟩
  | true =>
    by_cases h2 : s.kd = q.kd
    · have e2 : (s.kd == q.kd) = true := by rw [beq_iff_eq]; exact h2
      have HR : Hid (holdsB s q = sideIn s q) := by (show _ = _); rw [holdsB, ← hn1, e2]; rfl
      rw [HR.out]
      have HS : Calls Tryz.prog 25 #[.agg #[.string s.nm, .int .i64 s.kd, .bool s.ab, .int .i64 s.lo, .int .i64 s.hi, .string s.fr, .string s.to, .bool s.op, .int .u8 s.tr, .bool s.no, .slice s.ia s.il s.ic, .slice s.oa s.ol s.oc], .agg #[.string q.nm, .int .i64 q.kd, .bool q.ab, .int .i64 q.lo, .int .i64 q.hi, .string q.fr, .string q.to, .bool q.op, .int .u8 q.tr, .bool q.no, .slice q.ia q.il q.ic, .slice q.oa q.ol q.oc]] W1 fun e w' => e = .returned (.bool (sideIn s q)) ∧ Below W1.heap.size W1 w' := cv_sideIn s q W1 (hs.below HX1.out) (hq.below HX1.out) h2.symm
      obtain ⟨E, HE⟩ : ∃ E, Hid (E = sideIn s q) := ⟨_, rfl⟩
      rw [← HE.out] at HS ⊢
      clear hn1 hk hs hq h2
      go_enter Tryz.func24, Tryz.ntmps24
      go_upto_region 1 with fail
      rw [← HW1.out]
      go_wp2_with fail
      refine HS.mono ?_
      rintro e w2 ⟨rfl, hb2⟩
      have HX2 : Hid (Below w.heap.size w w2) := HX1.out.trans (hb2.mono HX1.out.size)
      clear hb2 HS z0 z1 z2 z3 z4 z5 z6 z7 z8 z9 z10 z11 y0 y1 y2 y3 y4 y5 y6 y7 y8 y9 y10 y11
      go_wp2
      go_returns
      exact ⟨rfl, HX2.out⟩
    · have e2 : (s.kd == q.kd) = false := by rw [beq_eq_false_iff_ne]; exact h2
      have HR : Hid (holdsB s q = false) := by (show _ = _); rw [holdsB, ← hn1, e2]; rfl
      rw [HR.out]
      clear hn1 hk hs hq h2
      go_enter Tryz.func24, Tryz.ntmps24
      go_upto_region 1 with fail
      rw [← HW1.out]
      go_wp2
      go_returns
      exact ⟨rfl, HX1.out⟩
set_option maxHeartbeats 4000000 in
theorem cv_idxS (bx : Nat) (p : Sq → Bool) (a : Option Addr) (n c : Nat) (l : List Sq) (w : World) (h : SqsRd w a n l) (hn : n ≤ 8) (hf : ∀ w' s, Below w.heap.size w w' → s ∈ l → Calls Tryz.prog 24 #[.agg (sqc s).toArray, .pointer (some ⟨bx, 0, none⟩)] w' fun e w'' => e = .returned (.bool (p s)) ∧ Below w'.heap.size w' w'') : Calls Tryz.prog 39 #[.slice a n c, .func (.func 24) #[] #[.pointer (some ⟨bx, 0, none⟩)]] w fun e w' => Hid (∃ r : Int, e = .returned (.int .i64 r) ∧ decide (0 ≤ r) = l.any p) ∧ Below w.heap.size w w' := by
  have HR : Hid (SqsRd w a n l) := h
  have HFF : Hid (∀ w' s, Below w.heap.size w w' → s ∈ l → Calls Tryz.prog 24 #[.agg (sqc s).toArray, .pointer (some ⟨bx, 0, none⟩)] w' fun e w'' => e = .returned (.bool (p s)) ∧ Below w'.heap.size w' w'') := hf
  clear h hf
  go_enter Tryz.func39, Tryz.ntmps39
  go_wp2
  go_loopw [8] (fun t8 wr => ∃ (i : Nat), i ≤ n ∧ t8 = .int .i64 (i : Int) ∧ Hid ((l.take i).any p = false) ∧ Hid (Below w.heap.size w wr)) (fun t8 _ => n - (intOf t8).toNat)
  case atStart => exact ⟨0, Nat.zero_le _, rfl, rfl, Below.refl _ _⟩
  case round =>
    obtain ⟨i, hi, rfl, HT, HBr⟩ := hrel
    by_cases hlt : i < n
    · have hlt' : (i : Int) < (n : Int) := by omega
      have hge : (0 : Int) ≤ (i : Int) := by omega
      have hrd := HR.out.below HBr.out
      obtain ⟨s, hs⟩ : ∃ s, l[i]? = some s := ⟨_, List.getElem?_eq_getElem (by rw [HR.out.size]; exact hlt)⟩
      obtain ⟨g, off, rfl, hc⟩ : ∃ g off, a = some ⟨g, off, none⟩ ∧ wr.rangeAt g (off + i * 12) (sqc s) := by
        rcases hrd.cells with h0 | ⟨g, off, ha, _, hc⟩
        · omega
        · exact ⟨g, off, ha, hc i s hs⟩
      have HC : Hid (wr.rangeAt g (off + i * 12) (sqc s)) := hc
      have HLI : Hid (l[i]? = some s) := hs
      have HM := HFF.out wr s HBr.out (List.mem_of_getElem? hs)
      obtain ⟨B, HBB⟩ : ∃ B, Hid (B = p s) := ⟨_, rfl⟩
      rw [← HBB.out] at HM
      have HTK : Hid ((l.take (i + 1)).any p = B) := by
        (show _ = _)
        rw [List.take_add_one, HLI.out, List.any_append, HT.out, HBB.out]
        simp
      clear hrd hs hc
      cases B with
      | true =>
        have HAN : Hid (l.any p = true) := by
          (show _ = _)
          rw [List.any_eq_true]
          exact ⟨s, List.mem_of_getElem? HLI.out, HBB.out.symm⟩
        go_wp2_with (guard_target =~ wpList _ _ _ (Oper.mk (some 15) _ _ _ _ _ :: _) _ _; refine wpList_load_mid rfl 40 (.tmp 14) rfl g (off + i * 12) rfl (sqc s) _ HC.out Tryz.underlying40 rfl (by rfl) ?_)
        refine HM.mono ?_
        rintro e w2 ⟨rfl, hb2⟩
        have HB2 : Hid (Below w.heap.size w w2) := HBr.out.trans (hb2.mono HBr.out.size)
        clear hb2 HM
        go_wp2
        go_returns
        exact ⟨⟨_, rfl, by rw [HAN.out]; simp⟩, HB2.out⟩
      | false =>
        go_wp2_with (guard_target =~ wpList _ _ _ (Oper.mk (some 15) _ _ _ _ _ :: _) _ _; refine wpList_load_mid rfl 40 (.tmp 14) rfl g (off + i * 12) rfl (sqc s) _ HC.out Tryz.underlying40 rfl (by rfl) ?_)
        refine HM.mono ?_
        rintro e w2 ⟨rfl, hb2⟩
        have HB2 : Hid (Below w.heap.size w w2) := HBr.out.trans (hb2.mono HBr.out.size)
        clear hb2 HM
        go_wp2
        go_roundw
        case rel => exact ⟨i + 1, by omega, by go_num, HTK, HB2⟩
        case measure => (simp [intOf]; omega)
    · have hnl : ¬ (i : Int) < (n : Int) := by omega
      have HAN : Hid (l.any p = false) := by
        (show _ = _)
        have h1 := HT.out
        rw [List.take_of_length_le (by rw [HR.out.size]; omega)] at h1
        exact h1
      go_wp2
      go_returns
      exact ⟨⟨_, rfl, by rw [HAN.out]; rfl⟩, HBr.out⟩
theorem cv_conS (bx : Nat) (p : Sq → Bool) (a : Option Addr) (n c : Nat) (l : List Sq) (w : World) (h : SqsRd w a n l) (hn : n ≤ 8) (hf : ∀ w' s, Below w.heap.size w w' → s ∈ l → Calls Tryz.prog 24 #[.agg (sqc s).toArray, .pointer (some ⟨bx, 0, none⟩)] w' fun e w'' => e = .returned (.bool (p s)) ∧ Below w'.heap.size w' w'') : Calls Tryz.prog 26 #[.slice a n c, .func (.func 24) #[] #[.pointer (some ⟨bx, 0, none⟩)]] w fun e w' => e = .returned (.bool (l.any p)) ∧ Below w.heap.size w w' := by
  have HI := cv_idxS bx p a n c l w h hn hf
  clear h hn hf
  go_enter Tryz.func26, Tryz.ntmps26
  go_wp2_with fail
  refine HI.mono ?_
  rintro e w1 ⟨ht1, hb1⟩
  obtain ⟨r, rfl, hr⟩ := ht1.out
  have HB1 : Hid (Below w.heap.size w w1) := hb1
  have HRR : Hid (decide (0 ≤ r) = l.any p) := hr
  clear hb1 ht1 HI hr
  go_wp2
  go_returns
  exact ⟨by rw [← HRR.out]; rfl, HB1.out⟩
set_option maxHeartbeats 4000000 in
theorem cv_insideG (a : Option Addr) (n c : Nat) (la : List Sq) (b : Option Addr) (m d : Nat) (lb : List Sq) (w : World) (ha : SqsRd w a n la) (hb : SqsRd w b m lb) (hn : n ≤ 8) (hm : m ≤ 8) (hoa : ∀ s ∈ la, SideOk w s) (hob : ∀ s ∈ lb, SideOk w s) : Calls Tryz.prog 17 #[.slice a n c, .slice b m d] w fun e w' => e = .returned (.bool (inB la lb)) ∧ Below w.heap.size w w' := by
  have HA : Hid (SqsRd w a n la) := ha
  have HBB : Hid (SqsRd w b m lb) := hb
  have HOA : Hid (∀ s ∈ la, SideOk w s) := hoa
  have HOB : Hid (∀ s ∈ lb, SideOk w s) := hob
  have HN8 : Hid (n ≤ 8) := hn
  obtain ⟨E, HE⟩ : ∃ E, Hid (E = lb.all fun q => la.any fun s => holdsB s q) := ⟨_, rfl⟩
  have HEE : Hid (inB la lb = E) := HE.out.symm
  rw [HEE.out]
  clear ha hb hoa hob HEE hn
  go_enter Tryz.func17, Tryz.ntmps17
  go_wp2_with fail
  go_loopw [10] (fun t10 wr => ∃ (i : Nat), i ≤ m ∧ t10 = .int .i64 (i : Int) ∧ Hid (((lb.take i).all fun q => la.any fun s => holdsB s q) = true) ∧ Hid (Below w.heap.size w wr)) (fun t10 _ => m - (intOf t10).toNat)
  case atStart => exact ⟨0, Nat.zero_le _, rfl, rfl, Below.refl _ _⟩
  case round =>
    obtain ⟨i, hi, rfl, HT, HBr⟩ := hrel
    by_cases hlt : i < m
    · have hlt' : (i : Int) < (m : Int) := by omega
      have hge : (0 : Int) ≤ (i : Int) := by omega
      have hrd := HBB.out.below HBr.out
      obtain ⟨q, hq⟩ : ∃ q, lb[i]? = some q := ⟨_, List.getElem?_eq_getElem (by rw [HBB.out.size]; exact hlt)⟩
      obtain ⟨g, off, rfl, hc⟩ : ∃ g off, b = some ⟨g, off, none⟩ ∧ wr.rangeAt g (off + i * 12) (sqc q) := by
        rcases hrd.cells with h0 | ⟨g, off, ha, _, hc⟩
        · omega
        · exact ⟨g, off, ha, hc i q hq⟩
      have HC : Hid (wr.rangeAt g (off + i * 12) [.string q.nm, .int .i64 q.kd, .bool q.ab, .int .i64 q.lo, .int .i64 q.hi, .string q.fr, .string q.to, .bool q.op, .int .u8 q.tr, .bool q.no, .slice q.ia q.il q.ic, .slice q.oa q.ol q.oc]) := hc
      have HLI : Hid (lb[i]? = some q) := hq
      have HQO : Hid (SideOk w q) := HOB.out q (List.mem_of_getElem? hq)
      obtain ⟨B, HB⟩ : ∃ B, Hid (B = la.any fun s => holdsB s q) := ⟨_, rfl⟩
      have HTK : Hid (((lb.take (i + 1)).all fun q => la.any fun s => holdsB s q) = B) := by
        (show _ = _)
        rw [List.take_add_one, HLI.out, List.all_append, HT.out, HB.out]
        simp
      have HAN : Hid (B = false → E = false) := by
        intro hB
        rw [HE.out, List.all_eq_false]
        exact ⟨q, List.mem_of_getElem? HLI.out, by rw [← HB.out, hB]; simp⟩
      obtain ⟨W2, HW2⟩ : ∃ W2, Hid (W2 = wr.alloc (.cells #[.string q.nm, .int .i64 q.kd, .bool q.ab, .int .i64 q.lo, .int .i64 q.hi, .string q.fr, .string q.to, .bool q.op, .int .u8 q.tr, .bool q.no, .slice q.ia q.il q.ic, .slice q.oa q.ol q.oc] 40)) := ⟨_, rfl⟩
      have HY2 : Hid (Below wr.heap.size wr W2) := by (show Below _ _ _); rw [HW2.out]; exact below_alloc _ _
      have HX2 : Hid (Below w.heap.size w W2) := HBr.out.trans (HY2.out.mono HBr.out.size)
      have HKB : Hid (Blk W2 wr.heap.size (sqc q).toArray 40) := by (show Blk _ _ _ _); rw [HW2.out]; exact Blk.new _ _ _
      have HCN := cv_conS wr.heap.size (fun s => holdsB s q) a n c la W2 (HA.out.below HX2.out) HN8.out (fun w' s hb hm => cv_holdsG s q wr.heap.size w' (HKB.out.stay hb) ((HOA.out s hm).below (HX2.out.trans (hb.mono HX2.out.size))) (HQO.out.below (HX2.out.trans (hb.mono HX2.out.size))))
      rw [← HB.out] at HCN
      clear hrd hq hc
      go_upto_region 4 with (guard_target =~ wpList _ _ _ (Oper.mk (some 13) _ _ _ _ _ :: _) _ _; refine wpList_load_mid rfl 40 (.tmp 12) rfl g (off + i * 12) rfl [.string q.nm, .int .i64 q.kd, .bool q.ab, .int .i64 q.lo, .int .i64 q.hi, .string q.fr, .string q.to, .bool q.op, .int .u8 q.tr, .bool q.no, .slice q.ia q.il q.ic, .slice q.oa q.ol q.oc] _ HC.out Tryz.underlying40 rfl (by rfl) ?_)
      rw [← HW2.out]
      go_wp2_with fail
      refine HCN.mono ?_
      rintro e w3 ⟨rfl, hb3⟩
      have HX3 : Hid (Below w.heap.size w w3) := HX2.out.trans (hb3.mono HX2.out.size)
      clear hb3 HCN
      cases B with
      | true =>
        go_wp2
        go_roundw
        case rel => exact ⟨i + 1, by omega, by go_num, HTK, HX3⟩
        case measure => (simp [intOf]; omega)
      | false =>
        have HEF : Hid (E = false) := HAN.out rfl
        go_wp2
        go_returns
        exact ⟨by rw [HEF.out]; rfl, HX3.out⟩
    · have hnl : ¬ (i : Int) < (m : Int) := by omega
      have HAN : Hid (E = true) := by
        (show _ = _)
        have h1 := HT.out
        rw [List.take_of_length_le (by rw [HBB.out.size]; omega)] at h1
        rw [HE.out]
        exact h1
      go_wp2
      go_returns
      exact ⟨by rw [HAN.out]; rfl, HBr.out⟩
/-- What is wrong with a box. -/
def chkB (n : Nat) (l : List Sq) : Int := if 8 < n then 6 else boxE l ⟨#[]⟩
theorem cv_chk (a : Option Addr) (n c : Nat) (l : List Sq) (w : World) (h : SqsRd w a n l) : Calls Tryz.prog 7 #[.slice a n c] w fun e w' => e = .returned (.int .i64 (chkB n l)) ∧ Below w.heap.size w w' := by
  unfold chkB
  by_cases h8 : 8 < n
  · rw [if_pos h8]
    refine (cv_CheckBox_long a n c w h8).mono ?_
    rintro e w2 ⟨rfl, rfl⟩
    exact ⟨rfl, Below.refl _ _⟩
  · rw [if_neg h8]
    exact cv_CheckBox a n c l w h (by omega)
theorem boxE_ok : ∀ (l : List Sq) (t : ByteArray), boxE l t = 0 → ∀ s ∈ l, (1 ≤ s.kd ∧ s.kd ≤ 4) ∧ nameB s.nm = true ∧ discE s.kd s.il s.ol s.ins s.outs = 0
  | [], t, h, s, hs => by cases hs
  | x :: l, t, h, s, hs => by
    rw [boxE] at h
    by_cases h1 : nameB x.nm = false
    · rw [if_pos h1] at h; cases h
    · rw [if_neg h1] at h
      by_cases h2 : leB x.nm t = true
      · rw [if_pos h2] at h; cases h
      · rw [if_neg h2] at h
        by_cases h3 : x.kd < 1 ∨ 4 < x.kd
        · rw [if_pos h3] at h; cases h
        · rw [if_neg h3] at h
          by_cases h4 : discE x.kd x.il x.ol x.ins x.outs ≠ 0
          · rw [if_pos h4] at h; exact absurd h h4
          · rw [if_neg h4] at h
            rcases List.mem_cons.1 hs with rfl | hs
            · exact ⟨by omega, by simpa using h1, by simpa using h4⟩
            · exact boxE_ok l x.nm h s hs
theorem discE_ok {kd : Int} {il ol : Nat} {ins outs : List (Int × Int × Int)} (h : discE kd il ol ins outs = 0) (hk : kd = 4) : (il ≤ 4 ∧ ol ≤ 4) ∧ (∀ t ∈ ins, OkD t) ∧ ∀ t ∈ outs, OkD t := by
  rw [discE, if_neg (by omega)] at h
  by_cases h1 : 4 < il ∨ 4 < ol
  · rw [if_pos h1] at h; cases h
  · rw [if_neg h1] at h
    by_cases h2 : ins.any badD = true ∨ outs.any badD = true
    · rw [if_pos h2] at h; cases h
    · refine ⟨by omega, fun t ht => ?_, fun t ht => ?_⟩
      · exact okD_of (Bool.eq_false_iff.2 fun hb => h2 (.inl (List.any_eq_true.2 ⟨t, ht, hb⟩)))
      · exact okD_of (Bool.eq_false_iff.2 fun hb => h2 (.inr (List.any_eq_true.2 ⟨t, ht, hb⟩)))
theorem chkB_ok {w : World} {a : Option Addr} {n : Nat} {l : List Sq} (hr : SqsRd w a n l) (ht : ∀ s ∈ l, 0 ≤ s.tr ∧ s.tr ≤ 255) (h : chkB n l = 0) : n ≤ 8 ∧ ∀ s ∈ l, SideOk w s := by
  unfold chkB at h
  by_cases h8 : 8 < n
  · rw [if_pos h8] at h; cases h
  · rw [if_neg h8] at h
    refine ⟨by omega, fun s hs => ?_⟩
    obtain ⟨h1, _, h3⟩ := boxE_ok l _ h s hs
    exact ⟨h1, ht s hs, (hr.discs s hs).1, (hr.discs s hs).2, fun hk => (discE_ok h3 hk).1, fun hk => (discE_ok h3 hk).2⟩
/-- What Inside tells. -/
def insE (n : Nat) (la : List Sq) (m : Nat) (lb : List Sq) : Bool × Int := if chkB n la ≠ 0 then (false, chkB n la) else if chkB m lb ≠ 0 then (false, chkB m lb) else (inB la lb, 0)
set_option maxHeartbeats 4000000 in
theorem cv_Inside (a : Option Addr) (n c : Nat) (la : List Sq) (b : Option Addr) (m d : Nat) (lb : List Sq) (w : World) (ha : SqsRd w a n la) (hb : SqsRd w b m lb) (hta : ∀ s ∈ la, 0 ≤ s.tr ∧ s.tr ≤ 255) (htb : ∀ s ∈ lb, 0 ≤ s.tr ∧ s.tr ≤ 255) : Calls Tryz.prog 9 #[.slice a n c, .slice b m d] w fun e w' => e = .returned (.tuple #[.bool (insE n la m lb).1, .int .i64 (insE n la m lb).2]) ∧ Below w.heap.size w w' := by
  have HA : Hid (SqsRd w a n la) := ha
  have HBB : Hid (SqsRd w b m lb) := hb
  have HTA : Hid (∀ s ∈ la, 0 ≤ s.tr ∧ s.tr ≤ 255) := hta
  have HTB : Hid (∀ s ∈ lb, 0 ≤ s.tr ∧ s.tr ≤ 255) := htb
  have HCA := cv_chk a n c la w ha
  obtain ⟨R, HR⟩ : ∃ R, Hid (R = insE n la m lb) := ⟨_, rfl⟩
  rw [← HR.out]
  obtain ⟨ea, HEA⟩ : ∃ x, Hid (x = chkB n la) := ⟨_, rfl⟩
  obtain ⟨eb, HEB⟩ : ∃ x, Hid (x = chkB m lb) := ⟨_, rfl⟩
  have HRV : Hid (R = if ea ≠ 0 then (false, ea) else if eb ≠ 0 then (false, eb) else (inB la lb, 0)) := by (show _ = _); rw [HR.out, insE, HEA.out, HEB.out]
  rw [← HEA.out] at HCA
  clear ha hb hta htb HR
  by_cases h1 : ea = 0
  · subst h1
    go_enter Tryz.func9, Tryz.ntmps9
    go_wp2_with fail
    refine HCA.mono ?_
    rintro e w1 ⟨rfl, hb1⟩
    have HX1 : Hid (Below w.heap.size w w1) := hb1
    have HCB := cv_chk b m d lb w1 (HBB.out.below hb1)
    rw [← HEB.out] at HCB
    clear hb1 HCA
    by_cases h2 : eb = 0
    · subst h2
      have HRE : Hid (R = (inB la lb, 0)) := by (show _ = _); rw [HRV.out, if_neg (by simp), if_neg (by simp)]
      go_wp2_with fail
      refine HCB.mono ?_
      rintro e w2 ⟨rfl, hb2⟩
      have HX2 : Hid (Below w.heap.size w w2) := HX1.out.trans (hb2.mono HX1.out.size)
      have h3 := chkB_ok (HA.out.below HX2.out) HTA.out HEA.out.symm
      have h4 := chkB_ok (HBB.out.below HX2.out) HTB.out HEB.out.symm
      have HIN := cv_insideG a n c la b m d lb w2 (HA.out.below HX2.out) (HBB.out.below HX2.out) h3.1 h4.1 h3.2 h4.2
      obtain ⟨I, HI⟩ : ∃ I, Hid (I = inB la lb) := ⟨_, rfl⟩
      rw [← HI.out] at HIN HRE
      clear hb2 HCB h3 h4
      go_wp2_with fail
      refine HIN.mono ?_
      rintro e w3 ⟨rfl, hb3⟩
      have HX3 : Hid (Below w.heap.size w w3) := HX2.out.trans (hb3.mono HX2.out.size)
      clear hb3 HIN
      go_wp2
      go_returns
      exact ⟨by rw [HRE.out]; rfl, HX3.out⟩
    · have e1 : (eb != 0) = true := by rw [bne_iff_ne]; exact h2
      have e2 : (eb == 0) = false := by rw [beq_eq_false_iff_ne]; exact h2
      have HRE : Hid (R = (false, eb)) := by (show _ = _); rw [HRV.out, if_neg (by simp), if_pos h2]
      go_wp2_with fail
      refine HCB.mono ?_
      rintro e w2 ⟨rfl, hb2⟩
      have HX2 : Hid (Below w.heap.size w w2) := HX1.out.trans (hb2.mono HX1.out.size)
      clear hb2 HCB
      go_wp2
      go_returns
      exact ⟨by rw [HRE.out]; rfl, HX2.out⟩
  · have e1 : (ea != 0) = true := by rw [bne_iff_ne]; exact h1
    have e2 : (ea == 0) = false := by rw [beq_eq_false_iff_ne]; exact h1
    have HRE : Hid (R = (false, ea)) := by (show _ = _); rw [HRV.out, if_pos h1]
    rw [HRE.out]
    go_enter Tryz.func9, Tryz.ntmps9
    go_wp2_with fail
    refine HCA.mono ?_
    rintro e w1 ⟨rfl, hb1⟩
    have HX1 : Hid (Below w.heap.size w w1) := hb1
    clear hb1 HCA
    go_wp2
    go_returns
    exact ⟨rfl, HX1.out⟩
end Go.Proofs.YtnfeklebfnlgkaaGreat
