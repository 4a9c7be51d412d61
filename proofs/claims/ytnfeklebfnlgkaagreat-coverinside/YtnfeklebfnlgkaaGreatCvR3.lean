/- cover: the reference's find, Lies, Inside. -/
import Derived.Test.YtnfeklebfnlgkaaGreatCvR2
import Derived.Test.YtnfeklebfnlgkaaGreatCvC5
namespace Go.Proofs.YtnfeklebfnlgkaaGreat
set_option maxRecDepth 100000
open Go.RowKit

/-- The first side of a name: its place. -/
def findF : List Sq → ByteArray → Option Nat
  | [], _ => none
  | s :: l, t => if eqB s.nm t = true then some 0 else (findF l t).map (· + 1)
theorem findF_none : ∀ (l : List Sq) (t : ByteArray), (∀ s ∈ l, eqB s.nm t = false) → findF l t = none
  | [], _, _ => rfl
  | s :: l, t, h => by rw [findF, if_neg (by rw [h s (by simp)]; simp), findF_none l t (fun x hx => h x (by simp [hx]))]; rfl
theorem findF_some : ∀ (l : List Sq) (t : ByteArray) (k : Nat) (s : Sq), l[k]? = some s → eqB s.nm t = true → (∀ j s', j < k → l[j]? = some s' → eqB s'.nm t = false) → findF l t = some k
  | [], _, k, s, h, _, _ => by simp at h
  | x :: l, t, 0, s, h, he, _ => by
    simp only [List.getElem?_cons_zero, Option.some.injEq] at h
    subst h
    rw [findF, if_pos he]
  | x :: l, t, k + 1, s, h, he, hn => by
    rw [findF, if_neg (by rw [hn 0 x (by omega) rfl]; simp), findF_some l t k s (by simpa using h) he (fun j s' hj hs => hn (j + 1) s' (by omega) (by simpa using hs))]
    rfl
def findI (l : List Sq) (t : ByteArray) : Int := match findF l t with
  | some k => (k : Int)
  | none => -1
set_option maxHeartbeats 4000000 in
theorem ref_find (a : Option Addr) (n c : Nat) (l : List Sq) (t : ByteArray) (w : World) (h : SqsRd w a n l) (hn : n ≤ 8) : Calls Tryz.prog 27 #[.slice a n c, .string t] w fun e w' => e = .returned (.int .i64 (findI l t)) ∧ w' = w := by
  have HR : Hid (SqsRd w a n l) := h
  clear h
  go_enter Tryz.func27, Tryz.ntmps27
  go_wp2_with fail
  go_loopw [5] (fun t5 wr => ∃ (k : Nat), k ≤ n ∧ t5 = .int .i64 (k : Int) ∧ Hid (∀ j s, j < k → l[j]? = some s → eqB s.nm t = false) ∧ wr = w) (fun t5 _ => n - (intOf t5).toNat)
  case atStart => exact ⟨0, Nat.zero_le _, rfl, fun j s hj => by omega, rfl⟩
  case round =>
    obtain ⟨k, hk, rfl, HT, hwr⟩ := hrel
    subst hwr
    by_cases hlt : k < n
    · have hlt' : (k : Int) < (n : Int) := by omega
      have hge : (0 : Int) ≤ (k : Int) := by omega
      obtain ⟨s, hs⟩ : ∃ s, l[k]? = some s := ⟨_, List.getElem?_eq_getElem (by rw [HR.out.size]; exact hlt)⟩
      obtain ⟨g, off, rfl, c0⟩ : ∃ g off, a = some ⟨g, off, none⟩ ∧ wr.cell? ⟨g, off + k * 12, none⟩ = some (.string s.nm) := by
        rcases HR.out.cells with h0 | ⟨g, off, ha, _, hc⟩
        · omega
        · exact ⟨g, off, ha, hc k s hs 0 _ rfl⟩
      have HLI : Hid (l[k]? = some s) := hs
      obtain ⟨B, HB⟩ : ∃ B, Hid (B = eqB s.nm t) := ⟨_, rfl⟩
      have e1 : (s.nm.toList == t.toList) = B := HB.out.symm
      clear hs
      cases B with
      | true =>
        have HF : Hid (findI l t = (k : Int)) := by (show _ = _); rw [findI, findF_some l t k s HLI.out HB.out.symm HT.out]
        go_wp2
        go_returns
        exact ⟨by rw [HF.out]; rfl, rfl⟩
      | false =>
        have HTK : Hid (∀ j s, j < k + 1 → l[j]? = some s → eqB s.nm t = false) := by
          intro j x hj hx
          by_cases h : j = k
          · subst h
            rw [HLI.out] at hx
            cases hx
            exact HB.out.symm
          · exact HT.out j x (by omega) hx
        go_wp2
        go_roundw
        case rel => exact ⟨k + 1, by omega, by go_num, HTK, by first | rfl | trivial⟩
        case measure => (simp [intOf]; omega)
    · have hnl : ¬ (k : Int) < (n : Int) := by omega
      have HF : Hid (findI l t = -1) := by
        (show _ = _)
        rw [findI, findF_none l t]
        intro s hs
        obtain ⟨j, hj⟩ := List.getElem?_of_mem hs
        have hjl := (List.getElem?_eq_some_iff.1 hj).1
        have := HR.out.size
        exact HT.out j s (by omega) hj
      go_wp2
      go_returns
      exact ⟨by rw [HF.out]; rfl, rfl⟩
/-- Is a box inside another one, as the reference has it? -/
def liesB (la lb : List Sq) : Bool := lb.all fun q => match findF la q.nm with
  | some k => match la[k]? with
    | some s => sideR s q
    | none => false
  | none => false
theorem findF_lt : ∀ (l : List Sq) (t : ByteArray) (k : Nat), findF l t = some k → ∃ s, l[k]? = some s ∧ eqB s.nm t = true
  | [], t, k, h => by cases h
  | x :: l, t, k, h => by
    rw [findF] at h
    by_cases he : eqB x.nm t = true
    · rw [if_pos he] at h
      cases h
      exact ⟨x, rfl, he⟩
    · rw [if_neg he] at h
      obtain ⟨j, hj, rfl⟩ := Option.map_eq_some_iff.1 h
      obtain ⟨s, hs, hn⟩ := findF_lt l t j hj
      exact ⟨s, by simpa using hs, hn⟩
set_option maxHeartbeats 8000000 in
theorem ref_Lies (a : Option Addr) (n c : Nat) (la : List Sq) (b : Option Addr) (m d : Nat) (lb : List Sq) (w : World) (ha : SqsRd w a n la) (hb : SqsRd w b m lb) (hn : n ≤ 8) (hm : m ≤ 8) (hoa : ∀ s ∈ la, SideOk w s) (hob : ∀ s ∈ lb, SideOk w s) : Calls Tryz.prog 18 #[.slice a n c, .slice b m d] w fun e w' => e = .returned (.bool (liesB la lb)) ∧ Below w.heap.size w w' := by
  have HA : Hid (SqsRd w a n la) := ha
  have HBB : Hid (SqsRd w b m lb) := hb
  have HOA : Hid (∀ s ∈ la, SideOk w s) := hoa
  have HOB : Hid (∀ s ∈ lb, SideOk w s) := hob
  obtain ⟨P, HP⟩ : ∃ P : Sq → Bool, Hid (P = fun q => match findF la q.nm with | some k => (match la[k]? with | some s => sideR s q | none => false) | none => false) := ⟨_, rfl⟩
  obtain ⟨E, HE⟩ : ∃ E, Hid (E = lb.all P) := ⟨_, rfl⟩
  have HEE : Hid (liesB la lb = E) := by (show _ = _); rw [HE.out, HP.out]; rfl
  rw [HEE.out]
  clear ha hb hoa hob HEE
  go_enter Tryz.func18, Tryz.ntmps18
  go_wp2_with fail
  go_loopw [5] (fun t5 wr => ∃ (i : Nat), i ≤ m ∧ t5 = .int .i64 (i : Int) ∧ Hid ((lb.take i).all P = true) ∧ Hid (Below w.heap.size w wr)) (fun t5 _ => m - (intOf t5).toNat)
  case atStart => exact ⟨0, Nat.zero_le _, rfl, rfl, Below.refl _ _⟩
  case round =>
    obtain ⟨i, hi, rfl, HT, HBr⟩ := hrel
    by_cases hlt : i < m
    · have hlt' : (i : Int) < (m : Int) := by omega
      have hge : (0 : Int) ≤ (i : Int) := by omega
      have hrd := HBB.out.below HBr.out
      obtain ⟨q, hq⟩ : ∃ q, lb[i]? = some q := ⟨_, List.getElem?_eq_getElem (by rw [HBB.out.size]; exact hlt)⟩
      obtain ⟨g1, o1, rfl, hg1, hc⟩ : ∃ g off, b = some ⟨g, off, none⟩ ∧ g < wr.heap.size ∧ wr.rangeAt g (off + i * 12) (sqc q) := by
        rcases hrd.cells with h0 | ⟨g, off, ha, hg, hc⟩
        · omega
        · exact ⟨g, off, ha, hg, hc i q hq⟩
      have HLI : Hid (lb[i]? = some q) := hq
      have HQO : Hid (SideOk w q) := HOB.out q (List.mem_of_getElem? hq)
      have c0 : wr.cell? ⟨g1, o1 + i * 12, none⟩ = some (.string q.nm) := hc 0 _ rfl
      have HFI := ref_find a n c la q.nm wr (HA.out.below HBr.out) hn
      obtain ⟨B, HB⟩ : ∃ B, Hid (B = P q) := ⟨_, rfl⟩
      have HTK : Hid ((lb.take (i + 1)).all P = B) := by
        (show _ = _)
        rw [List.take_add_one, HLI.out, List.all_append, HT.out, HB.out]
        simp
      have HAN : Hid (B = false → E = false) := by
        intro hB
        rw [HE.out, List.all_eq_false]
        exact ⟨q, List.mem_of_getElem? HLI.out, by rw [← HB.out, hB]; simp⟩
      have HCQ : Hid (wr.rangeAt g1 (o1 + i * 12) (sqc q)) := hc
      have HG1 : Hid (g1 < wr.heap.size) := hg1
      clear hrd hq hc hg1
      cases hf : findF la q.nm with
      | none =>
        have HRF : Hid (E = false) := HAN.out (by rw [HB.out, HP.out]; simp only; rw [hf])
        rw [show findI la q.nm = -1 from by rw [findI, hf]] at HFI
        clear hf
        go_wp2_with fail
        refine HFI.mono ?_
        rintro e w2 ⟨rfl, hw⟩
        rw [hw]
        clear hw w2 HFI c0
        go_wp2_with fail
        go_quiet (fail)
        generalize hnq : wr.drewN _ = w2
        have HX2 : Hid (Below w.heap.size w w2) := by (show Below _ _ _); rw [← hnq]; exact HBr.out.trans ((below_drewN2 wr _).mono HBr.out.size)
        clear hnq
        go_wp2
        go_returns
        exact ⟨by rw [HRF.out]; rfl, HX2.out⟩
      | some k =>
        obtain ⟨s, hs, _⟩ := findF_lt la q.nm k hf
        rw [show findI la q.nm = (k : Int) from by rw [findI, hf]] at HFI
        have hkl : k < n := by
          have h1 := (List.getElem?_eq_some_iff.1 hs).1
          rw [HA.out.size] at h1
          exact h1
        have HBV : Hid (B = sideR s q) := by (show _ = _); rw [HB.out, HP.out]; simp only; rw [hf]; simp only; rw [hs]
        have hrda := HA.out.below HBr.out
        obtain ⟨g2, o2, rfl, hg2, hca⟩ : ∃ g off, a = some ⟨g, off, none⟩ ∧ g < wr.heap.size ∧ wr.rangeAt g (off + k * 12) (sqc s) := by
          rcases hrda.cells with h0 | ⟨g, off, ha, hg, hc⟩
          · omega
          · exact ⟨g, off, ha, hg, hc k s hs⟩
        have HSO : Hid (SideOk w s) := HOA.out s (List.mem_of_getElem? hs)
        have hk1 : (k : Int) < (n : Int) := by omega
        have hk0 : (0 : Int) ≤ (k : Int) := by omega
        have hkn : ¬ (k : Int) < 0 := by omega
        have hkd : decide ((k : Int) < 0) = false := decide_eq_false hkn
        have HSK : Hid (∀ w', Below wr.heap.size wr w' → w'.cell? ⟨g2, o2 + k * 12, none⟩ = some (.string s.nm) ∧ w'.cell? ⟨g2, o2 + k * 12 + 1, none⟩ = some (.int .i64 s.kd) ∧ w'.cell? ⟨g2, o2 + k * 12 + 2, none⟩ = some (.bool s.ab) ∧ w'.cell? ⟨g2, o2 + k * 12 + 3, none⟩ = some (.int .i64 s.lo) ∧ w'.cell? ⟨g2, o2 + k * 12 + 4, none⟩ = some (.int .i64 s.hi) ∧ w'.cell? ⟨g2, o2 + k * 12 + 5, none⟩ = some (.string s.fr) ∧ w'.cell? ⟨g2, o2 + k * 12 + 6, none⟩ = some (.string s.to) ∧ w'.cell? ⟨g2, o2 + k * 12 + 7, none⟩ = some (.bool s.op) ∧ w'.cell? ⟨g2, o2 + k * 12 + 8, none⟩ = some (.int .u8 s.tr) ∧ w'.cell? ⟨g2, o2 + k * 12 + 9, none⟩ = some (.bool s.no) ∧ w'.cell? ⟨g2, o2 + k * 12 + 10, none⟩ = some (.slice s.ia s.il s.ic) ∧ w'.cell? ⟨g2, o2 + k * 12 + 11, none⟩ = some (.slice s.oa s.ol s.oc) ∧ w'.cell? ⟨g1, o1 + i * 12, none⟩ = some (.string q.nm) ∧ w'.cell? ⟨g1, o1 + i * 12 + 1, none⟩ = some (.int .i64 q.kd) ∧ w'.cell? ⟨g1, o1 + i * 12 + 2, none⟩ = some (.bool q.ab) ∧ w'.cell? ⟨g1, o1 + i * 12 + 3, none⟩ = some (.int .i64 q.lo) ∧ w'.cell? ⟨g1, o1 + i * 12 + 4, none⟩ = some (.int .i64 q.hi) ∧ w'.cell? ⟨g1, o1 + i * 12 + 5, none⟩ = some (.string q.fr) ∧ w'.cell? ⟨g1, o1 + i * 12 + 6, none⟩ = some (.string q.to) ∧ w'.cell? ⟨g1, o1 + i * 12 + 7, none⟩ = some (.bool q.op) ∧ w'.cell? ⟨g1, o1 + i * 12 + 8, none⟩ = some (.int .u8 q.tr) ∧ w'.cell? ⟨g1, o1 + i * 12 + 9, none⟩ = some (.bool q.no) ∧ w'.cell? ⟨g1, o1 + i * 12 + 10, none⟩ = some (.slice q.ia q.il q.ic) ∧ w'.cell? ⟨g1, o1 + i * 12 + 11, none⟩ = some (.slice q.oa q.ol q.oc)) := by
          intro w' hb
          have x : ∀ j v, (sqc s)[j]? = some v → w'.cell? ⟨g2, o2 + k * 12 + j, none⟩ = some v := fun j v hj => by
            rw [hb.cell (p := ⟨g2, o2 + k * 12 + j, none⟩) hg2]; exact hca j v hj
          have y : ∀ j v, (sqc q)[j]? = some v → w'.cell? ⟨g1, o1 + i * 12 + j, none⟩ = some v := fun j v hj => by
            rw [hb.cell (p := ⟨g1, o1 + i * 12 + j, none⟩) HG1.out]; exact HCQ.out j v hj
          exact ⟨x 0 _ rfl, x 1 _ rfl, x 2 _ rfl, x 3 _ rfl, x 4 _ rfl, x 5 _ rfl, x 6 _ rfl, x 7 _ rfl, x 8 _ rfl, x 9 _ rfl, x 10 _ rfl, x 11 _ rfl, y 0 _ rfl, y 1 _ rfl, y 2 _ rfl, y 3 _ rfl, y 4 _ rfl, y 5 _ rfl, y 6 _ rfl, y 7 _ rfl, y 8 _ rfl, y 9 _ rfl, y 10 _ rfl, y 11 _ rfl⟩
        have HCL : Hid (∀ w', Below wr.heap.size wr w' → Calls Tryz.prog 28 #[.agg #[.string s.nm, .int .i64 s.kd, .bool s.ab, .int .i64 s.lo, .int .i64 s.hi, .string s.fr, .string s.to, .bool s.op, .int .u8 s.tr, .bool s.no, .slice s.ia s.il s.ic, .slice s.oa s.ol s.oc], .agg #[.string q.nm, .int .i64 q.kd, .bool q.ab, .int .i64 q.lo, .int .i64 q.hi, .string q.fr, .string q.to, .bool q.op, .int .u8 q.tr, .bool q.no, .slice q.ia q.il q.ic, .slice q.oa q.ol q.oc]] w' fun e w'' => e = .returned (.bool B) ∧ Below w'.heap.size w' w'') := by
          intro w' hb
          have hb1 := HBr.out.trans (hb.mono HBr.out.size)
          rw [HBV.out]
          exact ref_side s q w' (HSO.out.below hb1) (HQO.out.below hb1)
        clear hf hs hrda hca hg2 HBV HCQ HG1
        go_wp2_with fail
        refine HFI.mono ?_
        rintro e w2 ⟨rfl, hw⟩
        rw [hw]
        clear hw w2 HFI c0
        go_upto_region 5 with fail
        have HB : Hid (Below wr.heap.size wr wr.drew) := (Below.refl _ _).drew
        go_region_held3 (fun w' => w'.cell? ⟨g2, o2 + k * 12, none⟩ = some (.string s.nm) ∧ w'.cell? ⟨g2, o2 + k * 12 + 1, none⟩ = some (.int .i64 s.kd) ∧ w'.cell? ⟨g2, o2 + k * 12 + 2, none⟩ = some (.bool s.ab) ∧ w'.cell? ⟨g2, o2 + k * 12 + 3, none⟩ = some (.int .i64 s.lo) ∧ w'.cell? ⟨g2, o2 + k * 12 + 4, none⟩ = some (.int .i64 s.hi) ∧ w'.cell? ⟨g2, o2 + k * 12 + 5, none⟩ = some (.string s.fr) ∧ w'.cell? ⟨g2, o2 + k * 12 + 6, none⟩ = some (.string s.to) ∧ w'.cell? ⟨g2, o2 + k * 12 + 7, none⟩ = some (.bool s.op) ∧ w'.cell? ⟨g2, o2 + k * 12 + 8, none⟩ = some (.int .u8 s.tr) ∧ w'.cell? ⟨g2, o2 + k * 12 + 9, none⟩ = some (.bool s.no) ∧ w'.cell? ⟨g2, o2 + k * 12 + 10, none⟩ = some (.slice s.ia s.il s.ic) ∧ w'.cell? ⟨g2, o2 + k * 12 + 11, none⟩ = some (.slice s.oa s.ol s.oc) ∧ w'.cell? ⟨g1, o1 + i * 12, none⟩ = some (.string q.nm) ∧ w'.cell? ⟨g1, o1 + i * 12 + 1, none⟩ = some (.int .i64 q.kd) ∧ w'.cell? ⟨g1, o1 + i * 12 + 2, none⟩ = some (.bool q.ab) ∧ w'.cell? ⟨g1, o1 + i * 12 + 3, none⟩ = some (.int .i64 q.lo) ∧ w'.cell? ⟨g1, o1 + i * 12 + 4, none⟩ = some (.int .i64 q.hi) ∧ w'.cell? ⟨g1, o1 + i * 12 + 5, none⟩ = some (.string q.fr) ∧ w'.cell? ⟨g1, o1 + i * 12 + 6, none⟩ = some (.string q.to) ∧ w'.cell? ⟨g1, o1 + i * 12 + 7, none⟩ = some (.bool q.op) ∧ w'.cell? ⟨g1, o1 + i * 12 + 8, none⟩ = some (.int .u8 q.tr) ∧ w'.cell? ⟨g1, o1 + i * 12 + 9, none⟩ = some (.bool q.no) ∧ w'.cell? ⟨g1, o1 + i * 12 + 10, none⟩ = some (.slice q.ia q.il q.ic) ∧ w'.cell? ⟨g1, o1 + i * 12 + 11, none⟩ = some (.slice q.oa q.ol q.oc)) (first | exact HSK.out _ HB.out | exact HSK.out _ (Below.refl _ _).drew | exact HSK.out _ (Below.refl _ _) | fail)
          (first
            | (go_at_call 28; refine (HCL.out _ HB.out).mono ?_; rintro e w5 ⟨rfl, hb5⟩; have HB' : Hid (Below wr.heap.size wr w5) := HB.out.trans (hb5.mono HB.out.size); clear hb5 HB; have HB := HB'; clear HB'))
        all_goals (
          have HX5 : Hid (Below w.heap.size w w5) := HBr.out.trans (HB.out.mono HBr.out.size)
          clear HB HSK HCL hkd
          cases B with
          | true =>
            go_wp2
            go_roundw
            case rel => exact ⟨i + 1, by omega, by go_num, HTK, HX5⟩
            case measure => (simp [intOf]; omega)
          | false =>
            have HRF : Hid (E = false) := HAN.out rfl
            go_wp2
            go_returns
            exact ⟨by rw [HRF.out]; rfl, HX5.out⟩)
    · have hnl : ¬ (i : Int) < (m : Int) := by omega
      have HRT : Hid (E = true) := by
        (show _ = _)
        have h1 := HT.out
        rw [List.take_of_length_le (by rw [HBB.out.size]; omega)] at h1
        rw [HE.out]
        exact h1
      go_wp2
      go_returns
      exact ⟨by rw [HRT.out]; rfl, HBr.out⟩
theorem ref_chk (a : Option Addr) (n c : Nat) (l : List Sq) (w : World) (h : SqsRd w a n l) (hnc : ∀ s ∈ l, (s.ia = none → s.ic = 0) ∧ (s.oa = none → s.oc = 0)) : Calls Tryz.prog 8 #[.slice a n c] w fun e w' => e = .returned (.int .i64 (chkB n l)) ∧ Below w.heap.size w w' := by
  unfold chkB
  by_cases h8 : 8 < n
  · rw [if_pos h8]
    refine (ref_CheckBox_long a n c w h8).mono ?_
    rintro e w2 ⟨rfl, rfl⟩
    exact ⟨rfl, Below.refl _ _⟩
  · rw [if_neg h8]
    exact ref_CheckBox a n c l w h hnc (by omega)
/-- Names rise in a right box. -/
theorem box_rise : ∀ (l : List Sq) (t : ByteArray), boxE l t = 0 → (∀ s ∈ l, t.toList < s.nm.toList) ∧ l.Pairwise (fun s q => s.nm.toList < q.nm.toList)
  | [], t, _ => ⟨fun s hs => (by cases hs), List.Pairwise.nil⟩
  | x :: l, t, h => by
    rw [boxE] at h
    by_cases h1 : nameB x.nm = false
    · rw [if_pos h1] at h; cases h
    · rw [if_neg h1] at h
      by_cases h2 : leB x.nm t = true
      · rw [if_pos h2] at h; cases h
      · rw [if_neg h2] at h
        by_cases h3 : x.kd < 1 ∨ 4 < x.kd
        · rw [if_pos h3] at h; cases h
        · rw [if_neg h3] at h
          by_cases h4 : discE x.kd x.il x.ol x.ins x.outs ≠ 0
          · rw [if_pos h4] at h; exact absurd h h4
          · rw [if_neg h4] at h
            obtain ⟨h5, h6⟩ := box_rise l x.nm h
            have h7 : t.toList < x.nm.toList := by
              rw [leB_iff] at h2
              have h8 : ¬ x.nm.toList < t.toList := fun h => h2 (.inl h)
              have h9 : x.nm.toList ≠ t.toList := fun h => h2 (.inr h)
              rcases List.le_iff_lt_or_eq.1 (List.not_lt.1 h8) with h | h
              · exact h
              · exact absurd h.symm h9
            refine ⟨fun s hs => ?_, List.pairwise_cons.2 ⟨h5, h6⟩⟩
            rcases List.mem_cons.1 hs with rfl | hs
            · exact h7
            · exact bytes_lt_trans h7 (h5 s hs)
theorem bytes_irrefl (a : List UInt8) : ¬ a < a := by
  haveI : Std.Irrefl (α := UInt8) (· < ·) := ⟨fun x => UInt8.lt_irrefl x⟩
  exact List.lt_irrefl a
theorem lies_in {la lb : List Sq} (h : la.Pairwise (fun s q => s.nm.toList < q.nm.toList)) : liesB la lb = inB la lb := by
  unfold liesB inB
  congr 1
  funext q
  cases hf : findF la q.nm with
  | none =>
    simp only
    symm
    rw [List.any_eq_false]
    intro s hs
    have hn : ∀ (l : List Sq), findF l q.nm = none → ∀ s ∈ l, eqB s.nm q.nm = false := by
      intro l
      induction l with
      | nil => intro _ s hs; cases hs
      | cons x l ih =>
        intro hx s hs
        rw [findF] at hx
        by_cases he : eqB x.nm q.nm = true
        · rw [if_pos he] at hx; cases hx
        · rw [if_neg he] at hx
          rcases List.mem_cons.1 hs with rfl | hs
          · simpa using he
          · exact ih (Option.map_eq_none_iff.1 hx) s hs
    rw [holdsB, hn la hf s hs]
    simp
  | some k =>
    obtain ⟨s, hs, he⟩ := findF_lt la q.nm k hf
    simp only [hs]
    have key : ∀ s' ∈ la, eqB s'.nm q.nm = true → s' = s := by
      intro s' hs' he'
      obtain ⟨j, hj⟩ := List.getElem?_of_mem hs'
      obtain ⟨hjl, hje⟩ := List.getElem?_eq_some_iff.1 hj
      obtain ⟨hkl, hke⟩ := List.getElem?_eq_some_iff.1 hs
      have hnm : s'.nm.toList = s.nm.toList := by
        unfold eqB at he he'
        rw [beq_iff_eq] at he he'
        rw [he, he']
      rw [List.pairwise_iff_getElem] at h
      rcases Nat.lt_trichotomy j k with hlt | heq | hgt
      · have := h j k hjl hkl hlt
        rw [hje, hke, hnm] at this
        exact absurd this (bytes_irrefl _)
      · subst heq
        rw [← hje, ← hke]
      · have := h k j hkl hjl hgt
        rw [hje, hke, hnm] at this
        exact absurd this (bytes_irrefl _)
    cases hR : sideR s q with
    | true =>
      symm
      rw [List.any_eq_true]
      refine ⟨s, List.mem_of_getElem? hs, ?_⟩
      unfold holdsB
      unfold sideR at hR
      rw [he, Bool.true_and]
      exact hR
    | false =>
      symm
      rw [List.any_eq_false]
      intro s' hs' hh
      unfold holdsB at hh
      rw [Bool.and_eq_true, Bool.and_eq_true] at hh
      have := key s' hs' hh.1.1
      subst this
      unfold sideR at hR
      rw [hh.1.2, hh.2] at hR
      cases hR
set_option maxHeartbeats 4000000 in
theorem ref_Inside (a : Option Addr) (n c : Nat) (la : List Sq) (b : Option Addr) (m d : Nat) (lb : List Sq) (w : World) (ha : SqsRd w a n la) (hb : SqsRd w b m lb) (hta : ∀ s ∈ la, 0 ≤ s.tr ∧ s.tr ≤ 255) (htb : ∀ s ∈ lb, 0 ≤ s.tr ∧ s.tr ≤ 255) (hna : ∀ s ∈ la, (s.ia = none → s.ic = 0) ∧ (s.oa = none → s.oc = 0)) (hnb : ∀ s ∈ lb, (s.ia = none → s.ic = 0) ∧ (s.oa = none → s.oc = 0)) : Calls Tryz.prog 10 #[.slice a n c, .slice b m d] w fun e w' => e = .returned (.tuple #[.bool (insE n la m lb).1, .int .i64 (insE n la m lb).2]) ∧ Below w.heap.size w w' := by
  have HA : Hid (SqsRd w a n la) := ha
  have HBB : Hid (SqsRd w b m lb) := hb
  have HTA : Hid (∀ s ∈ la, 0 ≤ s.tr ∧ s.tr ≤ 255) := hta
  have HTB : Hid (∀ s ∈ lb, 0 ≤ s.tr ∧ s.tr ≤ 255) := htb
  have HNB : Hid (∀ s ∈ lb, (s.ia = none → s.ic = 0) ∧ (s.oa = none → s.oc = 0)) := hnb
  have HCA := ref_chk a n c la w ha hna
  obtain ⟨R, HR⟩ : ∃ R, Hid (R = insE n la m lb) := ⟨_, rfl⟩
  rw [← HR.out]
  obtain ⟨ea, HEA⟩ : ∃ x, Hid (x = chkB n la) := ⟨_, rfl⟩
  obtain ⟨eb, HEB⟩ : ∃ x, Hid (x = chkB m lb) := ⟨_, rfl⟩
  have HRV : Hid (R = if ea ≠ 0 then (false, ea) else if eb ≠ 0 then (false, eb) else (inB la lb, 0)) := by (show _ = _); rw [HR.out, insE, HEA.out, HEB.out]
  rw [← HEA.out] at HCA
  clear ha hb hta htb HR hna hnb
  by_cases h1 : ea = 0
  · subst h1
    go_enter Tryz.func10, Tryz.ntmps10
    go_wp2_with fail
    refine HCA.mono ?_
    rintro e w1 ⟨rfl, hb1⟩
    have HX1 : Hid (Below w.heap.size w w1) := hb1
    have HCB := ref_chk b m d lb w1 (HBB.out.below hb1) HNB.out
    rw [← HEB.out] at HCB
    clear hb1 HCA
    by_cases h2 : eb = 0
    · subst h2
      have HRE : Hid (R = (inB la lb, 0)) := by (show _ = _); rw [HRV.out, if_neg (by simp), if_neg (by simp)]
      go_wp2_with fail
      refine HCB.mono ?_
      rintro e w2 ⟨rfl, hb2⟩
      have HX2 : Hid (Below w.heap.size w w2) := HX1.out.trans (hb2.mono HX1.out.size)
      have h3 := chkB_ok (HA.out.below HX2.out) HTA.out HEA.out.symm
      have h4 := chkB_ok (HBB.out.below HX2.out) HTB.out HEB.out.symm
      have HIN := ref_Lies a n c la b m d lb w2 (HA.out.below HX2.out) (HBB.out.below HX2.out) h3.1 h4.1 h3.2 h4.2
      have hri : la.Pairwise (fun s q => s.nm.toList < q.nm.toList) := by
        have h := HEA.out.symm
        unfold chkB at h
        rw [if_neg (by omega)] at h
        exact (box_rise la _ h).2
      rw [lies_in hri] at HIN
      obtain ⟨I, HI⟩ : ∃ I, Hid (I = inB la lb) := ⟨_, rfl⟩
      rw [← HI.out] at HIN HRE
      clear hb2 HCB h3 h4 hri
      go_wp2_with fail
      refine HIN.mono ?_
      rintro e w3 ⟨rfl, hb3⟩
      have HX3 : Hid (Below w.heap.size w w3) := HX2.out.trans (hb3.mono HX2.out.size)
      clear hb3 HIN
      go_wp2
      go_returns
      exact ⟨by rw [HRE.out]; rfl, HX3.out⟩
    · have e1 : (eb != 0) = true := by rw [bne_iff_ne]; exact h2
      have e2 : (eb == 0) = false := by rw [beq_eq_false_iff_ne]; exact h2
      have HRE : Hid (R = (false, eb)) := by (show _ = _); rw [HRV.out, if_neg (by simp), if_pos h2]
      go_wp2_with fail
      refine HCB.mono ?_
      rintro e w2 ⟨rfl, hb2⟩
      have HX2 : Hid (Below w.heap.size w w2) := HX1.out.trans (hb2.mono HX1.out.size)
      clear hb2 HCB
      go_wp2
      go_returns
      exact ⟨by rw [HRE.out]; rfl, HX2.out⟩
  · have e1 : (ea != 0) = true := by rw [bne_iff_ne]; exact h1
    have e2 : (ea == 0) = false := by rw [beq_eq_false_iff_ne]; exact h1
    have HRE : Hid (R = (false, ea)) := by (show _ = _); rw [HRV.out, if_pos h1]
    rw [HRE.out]
    go_enter Tryz.func10, Tryz.ntmps10
    go_wp2_with fail
    refine HCA.mono ?_
    rintro e w1 ⟨rfl, hb1⟩
    have HX1 : Hid (Below w.heap.size w w1) := hb1
    clear hb1 HCA
    go_wp2
    go_returns
    exact ⟨rfl, HX1.out⟩
end Go.Proofs.YtnfeklebfnlgkaaGreat
