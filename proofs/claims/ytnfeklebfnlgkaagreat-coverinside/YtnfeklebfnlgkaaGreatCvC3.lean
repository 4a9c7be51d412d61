/- cover: boxes as they are read; CheckBox. -/
import Derived.Test.YtnfeklebfnlgkaaGreatCvC2
namespace Go.Proofs.YtnfeklebfnlgkaaGreat
open Go.RowKit

/-- Is the one text not greater than the other, byte by byte? -/
def leB (s t : ByteArray) : Bool := Op.bytesLess s.toList t.toList || s.toList == t.toList
/-- A side as it is read, with its discs. -/
structure Sq where
  nm : ByteArray
  kd : Int
  ab : Bool
  lo : Int
  hi : Int
  fr : ByteArray
  to : ByteArray
  op : Bool
  tr : Int
  no : Bool
  ia : Option Addr
  il : Nat
  ic : Nat
  oa : Option Addr
  ol : Nat
  oc : Nat
  ins : List (Int × Int × Int)
  outs : List (Int × Int × Int)
def sqc (s : Sq) : List Value := [.string s.nm, .int .i64 s.kd, .bool s.ab, .int .i64 s.lo, .int .i64 s.hi, .string s.fr, .string s.to, .bool s.op, .int .u8 s.tr, .bool s.no, .slice s.ia s.il s.ic, .slice s.oa s.ol s.oc]
/-- A box as it is read. -/
structure SqsRd (w : World) (a : Option Addr) (n : Nat) (l : List Sq) : Prop where
  size : l.length = n
  cells : n = 0 ∨ ∃ g off, a = some ⟨g, off, none⟩ ∧ g < w.heap.size ∧ ∀ i s, l[i]? = some s → w.rangeAt g (off + i * 12) (sqc s)
  discs : ∀ s ∈ l, DcsRd w s.ia s.il s.ins ∧ DcsRd w s.oa s.ol s.outs
  small : ∀ s ∈ l, s.nm.size ≤ maxLen
theorem SqsRd.below {w w' : World} {a : Option Addr} {n : Nat} {l : List Sq} (h : SqsRd w a n l) (hb : Below w.heap.size w w') : SqsRd w' a n l := by
  refine ⟨h.size, ?_, fun s hs => ⟨(h.discs s hs).1.below hb, (h.discs s hs).2.below hb⟩, h.small⟩
  rcases h.cells with h0 | ⟨g, off, ha, hg, hc⟩
  · exact .inl h0
  · exact .inr ⟨g, off, ha, Nat.lt_of_lt_of_le hg hb.size, fun i s hi j v hj => by rw [hb.cell hg]; exact hc i s hi j v hj⟩
/-- What is wrong with a box behind a name. -/
def boxE : List Sq → ByteArray → Int
  | [], _ => 0
  | s :: r, t => if nameB s.nm = false then 11 else if leB s.nm t = true then 4 else if s.kd < 1 ∨ 4 < s.kd then 12 else if discE s.kd s.il s.ol s.ins s.outs ≠ 0 then discE s.kd s.il s.ol s.ins s.outs else boxE r s.nm
theorem boxE_form {s : Sq} {r : List Sq} {t : ByteArray} {E : Int} (h : boxE (s :: r) t = E) (h1 : nameB s.nm = true) (h2 : leB s.nm t = true) : E = 4 := by
  rw [← h, boxE, if_neg (by rw [h1]; simp), if_pos h2]
theorem boxE_type {s : Sq} {r : List Sq} {t : ByteArray} {E : Int} (h : boxE (s :: r) t = E) (h1 : nameB s.nm = true) (h2 : leB s.nm t = false) (h3 : s.kd < 1 ∨ 4 < s.kd) : E = 12 := by
  rw [← h, boxE, if_neg (by rw [h1]; simp), if_neg (by rw [h2]; simp), if_pos h3]
theorem boxE_next {s : Sq} {r : List Sq} {t : ByteArray} {E : Int} (h : boxE (s :: r) t = E) (h1 : nameB s.nm = true) (h2 : leB s.nm t = false) (h3 : ¬ (s.kd < 1 ∨ 4 < s.kd)) : (if discE s.kd s.il s.ol s.ins s.outs ≠ 0 then discE s.kd s.il s.ol s.ins s.outs else boxE r s.nm) = E := by
  rw [boxE, if_neg (by rw [h1]; simp), if_neg (by rw [h2]; simp), if_neg h3] at h
  exact h
set_option maxRecDepth 100000 in
theorem cv_CheckBox_long (a : Option Addr) (n c : Nat) (w : World) (h8 : 8 < n) : Calls Tryz.prog 7 #[.slice a n c] w fun e w' => e = .returned (.int .i64 6) ∧ w' = w := by
  have h8' : (8 : Int) < (n : Int) := by omega
  go_enter Tryz.func7, Tryz.ntmps7
  go_wp2
  go_returns
  exact ⟨rfl, rfl⟩
set_option maxRecDepth 100000 in
set_option maxHeartbeats 4000000 in
theorem cv_CheckBox (a : Option Addr) (n c : Nat) (l : List Sq) (w : World) (h : SqsRd w a n l) (h8 : n ≤ 8) : Calls Tryz.prog 7 #[.slice a n c] w fun e w' => e = .returned (.int .i64 (boxE l ⟨#[]⟩)) ∧ Below w.heap.size w w' := by
  have HR : Hid (SqsRd w a n l) := h
  obtain ⟨E, HE⟩ : ∃ E, Hid (E = boxE l ⟨#[]⟩) := ⟨_, rfl⟩
  rw [← HE.out]
  have h8' : ¬ (8 : Int) < (n : Int) := by omega
  clear h
  go_enter Tryz.func7, Tryz.ntmps7
  go_wp2_with fail
  go_loopw [3, 12] (fun t3 t12 wr => ∃ (i : Nat) (t : ByteArray), i ≤ n ∧ t12 = .int .i64 (i : Int) ∧ t3 = .string t ∧ Hid (boxE (l.drop i) t = E) ∧ Hid (Below w.heap.size w wr)) (fun _ t12 _ => n - (intOf t12).toNat)
  case atStart => exact ⟨0, ⟨#[]⟩, Nat.zero_le _, rfl, rfl, by (show _ = _); rw [HE.out]; rfl, Below.refl _ _⟩
  case round =>
    obtain ⟨i, t, hi, rfl, rfl, HT, HBr⟩ := hrel
    by_cases hlt : i < n
    · have hlt' : (i : Int) < (n : Int) := by omega
      have hge : (0 : Int) ≤ (i : Int) := by omega
      have hrd := HR.out.below HBr.out
      obtain ⟨s, hs⟩ : ∃ s, l[i]? = some s := ⟨_, List.getElem?_eq_getElem (by rw [HR.out.size]; exact hlt)⟩
      have hsm := HR.out.small s (List.mem_of_getElem? hs)
      obtain ⟨hd1, hd2⟩ := hrd.discs s (List.mem_of_getElem? hs)
      obtain ⟨g, off, rfl, hc⟩ : ∃ g off, a = some ⟨g, off, none⟩ ∧ wr.rangeAt g (off + i * 12) (sqc s) := by
        rcases hrd.cells with h0 | ⟨g, off, ha, _, hc⟩
        · omega
        · exact ⟨g, off, ha, hc i s hs⟩
      have HDR : Hid (boxE (s :: l.drop (i + 1)) t = E) := by
        (show _ = _)
        rw [← HT.out]
        obtain ⟨hi', he⟩ := List.getElem?_eq_some_iff.1 hs
        rw [← he, List.getElem_cons_drop]
      obtain ⟨nm, kd, ab, lo, hi2, fr, to, op, tr, no, ia, il, ic, oa, ol, oc, ins, outs⟩ := s
      simp only at hd1 hd2 hsm
      have HC : Hid (wr.rangeAt g (off + i * 12) [.string nm, .int .i64 kd, .bool ab, .int .i64 lo, .int .i64 hi2, .string fr, .string to, .bool op, .int .u8 tr, .bool no, .slice ia il ic, .slice oa ol oc]) := hc
      obtain ⟨W1, HW1⟩ : ∃ W1, Hid (W1 = wr.alloc (.cells #[.string nm, .int .i64 kd, .bool ab, .int .i64 lo, .int .i64 hi2, .string fr, .string to, .bool op, .int .u8 tr, .bool no, .slice ia il ic, .slice oa ol oc] 40)) := ⟨_, rfl⟩
      have HY1 : Hid (Below wr.heap.size wr W1) := by (show Below _ _ _); rw [HW1.out]; exact below_alloc _ _
      have HX1 : Hid (Below w.heap.size w W1) := HBr.out.trans (HY1.out.mono HBr.out.size)
      have HK1 : Hid (Blk W1 wr.heap.size [.string nm, .int .i64 kd, .bool ab, .int .i64 lo, .int .i64 hi2, .string fr, .string to, .bool op, .int .u8 tr, .bool no, .slice ia il ic, .slice oa ol oc].toArray 40) := by (show Blk _ _ _ _); rw [HW1.out]; exact Blk.new _ _ _
      have k0 : W1.cell? ⟨wr.heap.size, 0, none⟩ = some (.string nm) := HK1.out.cell 0 rfl
      have k1 : W1.cell? ⟨wr.heap.size, 1, none⟩ = some (.int .i64 kd) := HK1.out.cell 1 rfl
      have HNM := event_Name nm hsm W1
      have HDC := cv_checkDiscs nm kd ab lo hi2 fr to op tr no ia il ic oa ol oc ins outs W1 (hd1.below HY1.out) (hd2.below HY1.out)
      clear hrd hs hsm hd1 hd2 hc
      go_upto_region 7 with (guard_target =~ wpList _ _ _ (Oper.mk (some 15) _ _ _ _ _ :: _) _ _; refine wpList_load_mid rfl 40 (.tmp 14) rfl g (off + i * 12) rfl [.string nm, .int .i64 kd, .bool ab, .int .i64 lo, .int .i64 hi2, .string fr, .string to, .bool op, .int .u8 tr, .bool no, .slice ia il ic, .slice oa ol oc] _ HC.out Tryz.underlying40 rfl (by rfl) ?_)
      rw [← HW1.out]
      go_wp2_with fail
      refine HNM.mono ?_
      rintro e w0 ⟨⟨b, rfl, hbn⟩, hw⟩
      rw [hw]
      clear hw w0 HNM
      cases b with
      | false =>
        have HEE : Hid (E = 11) := by
          (show _ = _)
          rw [← HDR.out, boxE, if_pos]
          exact Bool.eq_false_iff.2 fun h2 => by have := hbn.2 ((nameB_iff _).1 h2); cases this
        clear hbn HDC
        go_wp2
        go_returns
        exact ⟨by rw [HEE.out]; rfl, HX1.out⟩
      | true =>
        have HNB : Hid (nameB nm = true) := (nameB_iff _).2 (hbn.1 rfl)
        have HL : Hid ((Op.bytesLess nm.toList t.toList || nm.toList == t.toList) = leB nm t) := rfl
        clear hbn
        by_cases hk : kd < 1 ∨ 4 < kd
        · have HKK : Hid (kd < 1 ∨ 4 < kd) := hk
          by_cases hk1 : kd < 1
          · clear hk HDC
            go_wp2
            · rename_i hh
              go_returns
              exact ⟨by rw [boxE_form HDR.out HNB.out (by rw [← HL.out]; simpa using hh)]; rfl, HX1.out⟩
            · go_returns
              exact ⟨by rw [boxE_type HDR.out HNB.out (by rw [← HL.out]; simpa using ‹Op.bytesLess nm.toList t.toList = false ∧ (nm.toList == t.toList) = false›) HKK.out]; rfl, HX1.out⟩
          · have hk2 : 4 < kd := by omega
            clear hk HDC
            go_wp2
            · rename_i hh
              go_returns
              exact ⟨by rw [boxE_form HDR.out HNB.out (by rw [← HL.out]; simpa using hh)]; rfl, HX1.out⟩
            · go_returns
              exact ⟨by rw [boxE_type HDR.out HNB.out (by rw [← HL.out]; simpa using ‹Op.bytesLess nm.toList t.toList = false ∧ (nm.toList == t.toList) = false›) HKK.out]; rfl, HX1.out⟩
        · have hk1 : ¬ kd < 1 := by omega
          have hk2 : ¬ 4 < kd := by omega
          have HKK : Hid (¬ (kd < 1 ∨ 4 < kd)) := hk
          clear hk
          go_wp2_with (guard_target =~ wpList _ _ _ (Oper.mk (some 32) _ _ _ _ _ :: _) _ _; refine wpList_load_mid rfl 40 (.tmp 5) rfl wr.heap.size 0 rfl [.string nm, .int .i64 kd, .bool ab, .int .i64 lo, .int .i64 hi2, .string fr, .string to, .bool op, .int .u8 tr, .bool no, .slice ia il ic, .slice oa ol oc] _ HK1.out.all Tryz.underlying40 rfl (by rfl) ?_)
          · rename_i hh
            go_returns
            exact ⟨by rw [boxE_form HDR.out HNB.out (by rw [← HL.out]; simpa using hh)]; rfl, HX1.out⟩
          · have HLF : Hid (leB nm t = false) := by (show _ = _); rw [← HL.out]; simpa using ‹Op.bytesLess nm.toList t.toList = false ∧ (nm.toList == t.toList) = false›
            obtain ⟨D, HDD⟩ : ∃ D, Hid (D = discE kd il ol ins outs) := ⟨_, rfl⟩
            rw [← HDD.out] at HDC
            have HNX : Hid ((if D ≠ 0 then D else boxE (l.drop (i + 1)) nm) = E) := by
              have h := boxE_next HDR.out HNB.out HLF.out HKK.out
              simp only at h
              rw [← HDD.out] at h
              exact h
            by_cases hD : D = 0
            · subst hD
              have HNE : Hid (boxE (l.drop (i + 1)) nm = E) := by
                have h := HNX.out
                rw [if_neg (by simp)] at h
                exact h
              refine HDC.mono ?_
              rintro e w2 ⟨rfl, hb2⟩
              have HX2 : Hid (Below w.heap.size w w2) := HX1.out.trans (hb2.mono HX1.out.size)
              have d0 : w2.cell? ⟨wr.heap.size, 0, none⟩ = some (.string nm) := (HK1.out.stay hb2).cell 0 rfl
              clear hb2 HDC k0 k1
              go_wp2
              go_roundw
              case rel => exact ⟨i + 1, nm, by omega, by go_num, rfl, HNE, HX2⟩
              case measure => (simp [intOf]; omega)
            · have hD1 : (D != 0) = true := by rw [bne_iff_ne]; exact hD
              have hD2 : (D == 0) = false := by rw [beq_eq_false_iff_ne]; exact hD
              have HNE : Hid (D = E) := by
                have h := HNX.out
                rw [if_pos hD] at h
                exact h
              refine HDC.mono ?_
              rintro e w2 ⟨rfl, hb2⟩
              have HX2 : Hid (Below w.heap.size w w2) := HX1.out.trans (hb2.mono HX1.out.size)
              clear hb2 HDC k0 k1
              go_wp2
              go_returns
              exact ⟨by rw [← HNE.out]; rfl, HX2.out⟩
    · have hnl : ¬ (i : Int) < (n : Int) := by omega
      have HEE : Hid (E = 0) := by
        (show _ = _)
        rw [← HT.out, List.drop_of_length_le (by rw [HR.out.size]; omega), boxE]
      go_wp2
      go_returns
      exact ⟨by rw [HEE.out]; rfl, HBr.out⟩
end Go.Proofs.YtnfeklebfnlgkaaGreat
