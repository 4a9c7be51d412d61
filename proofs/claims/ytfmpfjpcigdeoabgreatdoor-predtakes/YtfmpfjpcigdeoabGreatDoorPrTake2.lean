/- pred.takeAtom, takeTerm. -/
import Derived.Test.YtfmpfjpcigdeoabGreatDoorPrTake
namespace Go.Proofs.YtfmpfjpcigdeoabGreatDoor
set_option maxRecDepth 100000
open Go.RowKit

theorem results_term {f : Func} {w : World} {tmps : Array Value} {g : Nat} {t : TypeId} {v0 v1 v2 v3 v4 v5 v6 v7 v8 n e : Value} (hf : f.results = #[.cell 4 58, .tmp 5, .tmp 6]) (h4 : tmps[4]?.getD undef = .pointer (some ⟨g, 0, none⟩)) (h5 : tmps[5]?.getD undef = n) (h6 : tmps[6]?.getD undef = e)
    (k : Blk w g #[v0, v1, v2, v3, v4, v5, v6, v7, v8] t) : (results f tmps).run Tryz.prog w = .ok (.tuple #[.agg #[v0, v1, v2, v3, v4, v5, v6, v7, v8], n, e]) w := by
  have k0 := k.cell 0 rfl
  have k1 := k.cell 1 rfl
  have k2 := k.cell 2 rfl
  have k3 := k.cell 3 rfl
  have k4 := k.cell 4 rfl
  have k5 := k.cell 5 rfl
  have k6 := k.cell 6 rfl
  have k7 := k.cell 7 rfl
  have k8 := k.cell 8 rfl
  simp [results, hf, go_sem, h4, h5, h6, k0, k1, k2, k3, k4, k5, k6, k7, k8]
theorem Blk.set9 {w : World} {g : Nat} {t : TypeId} {u0 u1 u2 u3 u4 u5 u6 u7 u8 : Value} (h : Blk w g #[u0, u1, u2, u3, u4, u5, u6, u7, u8] t) (v0 v1 v2 v3 v4 v5 v6 v7 v8 : Value) : Blk (((((((((w.setCell ⟨g, 0, none⟩ v0).setCell ⟨g, 1, none⟩ v1).setCell ⟨g, 2, none⟩ v2).setCell ⟨g, 3, none⟩ v3).setCell ⟨g, 4, none⟩ v4).setCell ⟨g, 5, none⟩ v5).setCell ⟨g, 6, none⟩ v6).setCell ⟨g, 7, none⟩ v7).setCell ⟨g, 8, none⟩ v8) g #[v0, v1, v2, v3, v4, v5, v6, v7, v8] t := by
  have h0 : Blk (w.setCell ⟨g, 0, none⟩ v0) g #[v0, u1, u2, u3, u4, u5, u6, u7, u8] t := h.set 0 v0
  generalize w.setCell ⟨g, 0, none⟩ v0 = w0 at *
  have h1 : Blk (w0.setCell ⟨g, 1, none⟩ v1) g #[v0, v1, u2, u3, u4, u5, u6, u7, u8] t := h0.set 1 v1
  generalize w0.setCell ⟨g, 1, none⟩ v1 = w1 at *
  have h2 : Blk (w1.setCell ⟨g, 2, none⟩ v2) g #[v0, v1, v2, u3, u4, u5, u6, u7, u8] t := h1.set 2 v2
  generalize w1.setCell ⟨g, 2, none⟩ v2 = w2 at *
  have h3 : Blk (w2.setCell ⟨g, 3, none⟩ v3) g #[v0, v1, v2, v3, u4, u5, u6, u7, u8] t := h2.set 3 v3
  generalize w2.setCell ⟨g, 3, none⟩ v3 = w3 at *
  have h4 : Blk (w3.setCell ⟨g, 4, none⟩ v4) g #[v0, v1, v2, v3, v4, u5, u6, u7, u8] t := h3.set 4 v4
  generalize w3.setCell ⟨g, 4, none⟩ v4 = w4 at *
  have h5 : Blk (w4.setCell ⟨g, 5, none⟩ v5) g #[v0, v1, v2, v3, v4, v5, u6, u7, u8] t := h4.set 5 v5
  generalize w4.setCell ⟨g, 5, none⟩ v5 = w5 at *
  have h6 : Blk (w5.setCell ⟨g, 6, none⟩ v6) g #[v0, v1, v2, v3, v4, v5, v6, u7, u8] t := h5.set 6 v6
  generalize w5.setCell ⟨g, 6, none⟩ v6 = w6 at *
  have h7 : Blk (w6.setCell ⟨g, 7, none⟩ v7) g #[v0, v1, v2, v3, v4, v5, v6, v7, u8] t := h6.set 7 v7
  generalize w6.setCell ⟨g, 7, none⟩ v7 = w7 at *
  exact h7.set 8 v8
theorem Blk.setV3 {w : World} {g : Nat} {t : TypeId} {a0 a1 a2 u0 u1 u2 u3 u4 a8 : Value} (h : Blk w g #[a0, a1, a2, u0, u1, u2, u3, u4, a8] t) (v0 v1 v2 v3 v4 : Value) : Blk (((((w.setCell ⟨g, 3, none⟩ v0).setCell ⟨g, 4, none⟩ v1).setCell ⟨g, 5, none⟩ v2).setCell ⟨g, 6, none⟩ v3).setCell ⟨g, 7, none⟩ v4) g #[a0, a1, a2, v0, v1, v2, v3, v4, a8] t :=
  ((((h.set 3 v0).set 4 v1).set 5 v2).set 6 v3).set 7 v4
theorem Blk.other5 {w : World} {g b : Nat} {cs : Array Value} {t : TypeId} (h : Blk w b cs t) (hb : b ≠ g) (v0 v1 v2 v3 v4 : Value) : Blk (((((w.setCell ⟨g, 3, none⟩ v0).setCell ⟨g, 4, none⟩ v1).setCell ⟨g, 5, none⟩ v2).setCell ⟨g, 6, none⟩ v3).setCell ⟨g, 7, none⟩ v4) b cs t :=
  ((((h.other _ _ hb).other _ _ hb).other _ _ hb).other _ _ hb).other _ _ hb

/-- How an atom comes out, behind its name. -/
theorem atomAt_text {bs : List Nat} {p : Nat} {l : List Nat} {k f : Nat} (h : textAt bs (p : Int) = (l, k, f)) (hf : f ≠ 0) : atomAt bs p = (Tm.zero, 0, f) := by
  unfold atomAt
  rw [h]
  cases f with
  | zero => exact absurd rfl hf
  | succ f => rfl
theorem atomAt_name {bs : List Nat} {p : Nat} {l : List Nat} {k : Nat} (h : textAt bs (p : Int) = (l, k, 0)) (hn : ¬ nameOk (str l)) : atomAt bs p = (Tm.zero, 0, 11) := by
  unfold atomAt
  rw [h]
  exact if_neg fun h => hn ((nameB_iff _).1 h)
theorem atomAt_on {bs : List Nat} {p : Nat} {l : List Nat} {k : Nat} (h : textAt bs (p : Int) = (l, k, 0)) (hn : nameOk (str l)) : atomAt bs p = (if k = bs.length then (Tm.zero, 0, 3) else if bs.getD k 0 < 1 ∨ 10 < bs.getD k 0 then (Tm.zero, 0, 2) else if bs.getD k 0 ≤ 2 then (⟨3, str l, bs.getD k 0, Val.zero, 0⟩, k + 1, 0) else restAt bs (str l) (bs.getD k 0) (k + 1)) := by
  unfold atomAt
  rw [h]
  exact if_pos ((nameB_iff _).2 hn)
theorem restAt_err {bs : List Nat} {nm : ByteArray} {c p : Nat} {v : Val} {j f : Nat} (h : valFor bs p c = (v, j, f)) (hf : f ≠ 0) : restAt bs nm c p = (Tm.zero, 0, f) := by
  unfold restAt
  rw [h]
  cases f with
  | zero => exact absurd rfl hf
  | succ f => rfl
theorem restAt_plain {bs : List Nat} {nm : ByteArray} {c p : Nat} {v : Val} {j : Nat} (h : valFor bs p c = (v, j, 0)) (hc : c ≠ 10) : restAt bs nm c p = (⟨3, nm, c, v, 0⟩, j, 0) := by
  unfold restAt
  rw [h]
  exact if_neg hc
theorem restAt_near {bs : List Nat} {nm : ByteArray} {c p : Nat} {v : Val} {j r i f : Nat} (h : valFor bs p c = (v, j, 0)) (hc : c = 10) (hr : radAt bs j = (r, i, f)) : restAt bs nm c p = if f = 0 then (⟨3, nm, c, v, r⟩, i, 0) else (Tm.zero, 0, f) := by
  unfold restAt
  rw [h]
  refine (if_pos hc).trans ?_
  rw [hr]
  cases f with
  | zero => rfl
  | succ f => rfl
theorem valAt_place {bs : List Nat} {p : Nat} {v : Val} {k : Nat} (hb : ∀ y ∈ bs, y < 256) (h : valAt bs (p : Int) = (v, k, 0)) : k ≤ bs.length := (valAt_once hb h).choose_spec.2.1
theorem valFor_place {bs : List Nat} {p c : Nat} {v : Val} {k : Nat} (hb : ∀ y ∈ bs, y < 256) (h : valFor bs p c = (v, k, 0)) : k ≤ bs.length ∧ valAt bs (p : Int) = (v, k, 0) ∧ mayB c v.kind = true := by
  unfold valFor at h
  rcases hV : valAt bs (p : Int) with ⟨u, j, f⟩
  rw [hV] at h
  cases f with
  | succ f => simp at h
  | zero =>
    cases hm : mayB c u.kind with
    | false => simp [hm] at h
    | true =>
      simp only [hm, if_true, Prod.mk.injEq] at h
      obtain ⟨rfl, rfl, _⟩ := h
      exact ⟨valAt_place hb hV, rfl, hm⟩

set_option maxHeartbeats 16000000 in
theorem take_atom (a : Option Addr) (len cap : Nat) (bs : List Nat) (p : Nat) (w : World) (hr : Rd w a len bs) (hlc : len ≤ cap) (hl : len ≤ 9223372036854775000) (hp : p ≤ len) :
    Calls Tryz.prog 38 #[.slice a len cap, .int .i64 (p : Int)] w fun e w' => e = toldTm (atomAt bs p) ∧ Below w.heap.size w w' := by
  have hcx : ∀ (a : Addr) (m : Mode) (W : World) (x y : Nat), (store a (.complex .f64 x y) m).run Tryz.prog W = stored Tryz.prog W a (.complex .f64 x y) m := fun a m W x y => run_store _ _ _ _ _ rfl
  have HR : Hid (Rd w a len bs) := hr
  obtain ⟨l, k, f, hT⟩ : ∃ l k f, textAt bs (p : Int) = (l, k, f) := ⟨_, _, _, rfl⟩
  have HT : Hid (textAt bs (p : Int) = (l, k, f)) := hT
  obtain ⟨S, HSS⟩ : ∃ S, Hid (str l = S) := ⟨_, rfl⟩
  have HB0 : Hid (Below w.heap.size w (w.alloc (.cells #[.int .i64 0, .string ⟨#[]⟩, .int .i64 0, .int .i64 0, .int .i64 0, .string ⟨#[]⟩, .bool false, .complex .f64 0 0, .int .i64 0] 58))) := below_alloc w _
  have HCT : Hid (Calls Tryz.prog 63 #[.slice a len cap, .int .i64 (p : Int)] (w.alloc (.cells #[.int .i64 0, .string ⟨#[]⟩, .int .i64 0, .int .i64 0, .int .i64 0, .string ⟨#[]⟩, .bool false, .complex .f64 0 0, .int .i64 0] 58)) fun e w' => e = .returned (.tuple #[.string S, .int .i64 (k : Int), .int .i64 (f : Int)]) ∧ w' = w.alloc (.cells #[.int .i64 0, .string ⟨#[]⟩, .int .i64 0, .int .i64 0, .int .i64 0, .string ⟨#[]⟩, .bool false, .complex .f64 0 0, .int .i64 0] 58)) := by
    have h := octet_TakeText a len cap bs (p : Int) (w.alloc (.cells #[.int .i64 0, .string ⟨#[]⟩, .int .i64 0, .int .i64 0, .int .i64 0, .string ⟨#[]⟩, .bool false, .complex .f64 0 0, .int .i64 0] 58)) (HR.out.below HB0.out) hlc hl (by omega)
    rw [hT, toldT, HSS.out] at h
    exact h
  clear hr hT
  by_cases hf : f = 0
  · subst hf
    obtain ⟨hsl, hkl⟩ := textAt_once HR.out.byte HT.out |> fun h => (⟨h.1, h.2.2.1⟩ : l.length ≤ 200 ∧ k ≤ bs.length)
    have hbl := HR.out.size
    rw [hbl] at hkl
    have HSZ : Hid (S.size ≤ maxLen) := by show _ ≤ _; rw [← HSS.out, str_size]; unfold maxLen; omega
    by_cases hn : nameOk S
    · have HN : Hid (nameOk S) := hn
      have HON := atomAt_on HT.out (by rw [HSS.out]; exact hn)
      rw [hbl, HSS.out] at HON
      clear hn
      by_cases hk : k = len
      · have hk' : ((k : Int) == (len : Int)) = true := by rw [hk]; simp
        have HE : Hid (atomAt bs p = (Tm.zero, 0, 3)) := by rw [if_pos hk] at HON; exact HON
        clear HON hk
        go_enter Tryz.func38, Tryz.ntmps38
        go_wp2_with fail
        refine HCT.out.mono ?_
        rintro e w1 ⟨rfl, rfl⟩
        go_wp2_with fail
        refine (event_Name S HSZ.out _).mono ?_
        rintro e w1 ⟨⟨b1, rfl, hb1⟩, rfl⟩
        obtain rfl := hb1.2 HN.out
        clear hb1
        go_wp2
        go_returns
        exact ⟨by rw [HE.out]; rfl, HB0.out⟩
      · have hk' : ((k : Int) == (len : Int)) = false := by rw [beq_eq_false_iff_ne]; omega
        rw [if_neg hk] at HON
        obtain ⟨b, off, rfl, hcell⟩ : ∃ b off, a = some ⟨b, off, none⟩ ∧ w.cell? ⟨b, off + k, none⟩ = some (.int .u8 ((bs.getD k 0 : Nat) : Int)) := by
          rcases HR.out.cells with h0 | ⟨b, off, e, _, hc⟩
          · omega
          · exact ⟨b, off, e, hc k (by omega)⟩
        have hblt : b < w.heap.size := by
          have := World.block_lt_of_cell? w _ hcell
          exact this
        have hcell2 : (w.alloc (.cells #[.int .i64 0, .string ⟨#[]⟩, .int .i64 0, .int .i64 0, .int .i64 0, .string ⟨#[]⟩, .bool false, .complex .f64 0 0, .int .i64 0] 58)).cell? ⟨b, off + k, none⟩ = some (.int .u8 ((bs.getD k 0 : Nat) : Int)) := (HB0.out.cell (p := ⟨b, off + k, none⟩) hblt).trans hcell
        have hb256 : bs.getD k 0 < 256 := getD_lt HR.out.byte k
        obtain ⟨c, hc⟩ : ∃ c, bs.getD k 0 = c := ⟨_, rfl⟩
        rw [hc] at HON hcell2 hb256
        have hki : (k : Int) < (len : Int) := by omega
        clear hc hcell hk
        by_cases hcb : c < 1 ∨ 10 < c
        · have HE : Hid (atomAt bs p = (Tm.zero, 0, 2)) := by rw [if_pos hcb] at HON; exact HON
          have HD2 : Hid (decide (1 ≤ c ∧ c ≤ 10) = false) := decide_eq_false (by omega)
          clear HON hcb
          go_enter Tryz.func38, Tryz.ntmps38
          go_wp2_with fail
          refine HCT.out.mono ?_
          rintro e w1 ⟨rfl, rfl⟩
          go_wp2_with fail
          refine (event_Name S HSZ.out _).mono ?_
          rintro e w1 ⟨⟨b1, rfl, hb1⟩, rfl⟩
          obtain rfl := hb1.2 HN.out
          clear hb1
          go_wp2_with fail
          refine (is_cmp c _).mono ?_
          rw [HD2.out]
          rintro e w1 ⟨rfl, rfl⟩
          go_wp2
          go_returns
          exact ⟨by rw [HE.out]; rfl, HB0.out.alloc HB0.out.size _⟩
        · rw [if_neg hcb] at HON
          have HCC : Hid (1 ≤ c ∧ c ≤ 10) := by constructor <;> omega
          have HD2 : Hid (decide (1 ≤ c ∧ c ≤ 10) = true) := decide_eq_true (by omega)
          by_cases hc2 : c ≤ 2
          · have HE : Hid (atomAt bs p = (⟨3, S, c, Val.zero, 0⟩, k + 1, 0)) := by rw [if_pos hc2] at HON; exact HON
            have HD1 : Hid (decide (c ≠ 1 ∧ c ≠ 2) = false) := decide_eq_false (by omega)
            have h10 : ((c : Int) == 10) = false := by rw [beq_eq_false_iff_ne]; omega
            clear HON hcb hc2
            go_enter Tryz.func38, Tryz.ntmps38
            go_wp2_with fail
            refine HCT.out.mono ?_
            rintro e w1 ⟨rfl, rfl⟩
            go_wp2_with fail
            refine (event_Name S HSZ.out _).mono ?_
            rintro e w1 ⟨⟨b1, rfl, hb1⟩, rfl⟩
            obtain rfl := hb1.2 HN.out
            clear hb1
            go_wp2_with fail
            refine (is_cmp c _).mono ?_
            rw [HD2.out]
            rintro e w1 ⟨rfl, rfl⟩
            go_wp2_with fail
            refine (has_value c _).mono ?_
            rw [HD1.out]
            rintro e w1 ⟨rfl, rfl⟩
            go_wp2
            go_returns
            exact ⟨by rw [HE.out]; rfl, (below_alloc w _).alloc (by simp) _⟩
          · rw [if_neg hc2] at HON
            have HON2 : Hid (atomAt bs p = restAt bs S c (k + 1)) := HON
            have HD1 : Hid (decide (c ≠ 1 ∧ c ≠ 2) = true) := decide_eq_true (by omega)
            have hk1 : k + 1 ≤ len := by omega
            obtain ⟨v, j, g, hV⟩ : ∃ v j g, valFor bs (k + 1) c = (v, j, g) := ⟨_, _, _, rfl⟩
            have HV : Hid (valFor bs (k + 1) c = (v, j, g)) := hV
            have HVC : Hid (∀ w, Rd w (some ⟨b, off, none⟩) len bs → Calls Tryz.prog 64 #[.slice (some ⟨b, off, none⟩) len cap, .int .i64 ((k : Int) + 1), .int .i64 (c : Int)] w fun e w' => e = .returned (.tuple #[.agg v.cells, .int .i64 (j : Int), .int .i64 (g : Int)]) ∧ Below w.heap.size w w') := fun w h => take_value (some ⟨b, off, none⟩) len cap bs (k + 1) c HCC.out w h hlc hl hk1 v j g hV
            clear HON hcb hc2 hV
            obtain ⟨W, HW⟩ : ∃ W, Hid (W = (w.alloc (.cells #[.int .i64 0, .string ⟨#[]⟩, .int .i64 0, .int .i64 0, .int .i64 0, .string ⟨#[]⟩, .bool false, .complex .f64 0 0, .int .i64 0] 58)).alloc (.cells #[.int .i64 3, .string S, .int .i64 (c : Int), .int .i64 0, .int .i64 0, .string ⟨#[]⟩, .bool false, .complex .f64 0 0, .int .i64 0] 58)) := ⟨_, rfl⟩
            have e1 : (w.alloc (.cells #[.int .i64 0, .string ⟨#[]⟩, .int .i64 0, .int .i64 0, .int .i64 0, .string ⟨#[]⟩, .bool false, .complex .f64 0 0, .int .i64 0] 58)).heap.size = w.heap.size + 1 := by simp
            have HBW : Hid (Below w.heap.size w W) := by show Below _ _ _; rw [HW.out]; exact HB0.out.alloc HB0.out.size _
            have HKR : Hid (Blk W w.heap.size #[.int .i64 0, .string ⟨#[]⟩, .int .i64 0, .int .i64 0, .int .i64 0, .string ⟨#[]⟩, .bool false, .complex .f64 0 0, .int .i64 0] 58) := by show Blk _ _ _ _; rw [HW.out]; exact (Blk.new w _ _).stay (below_alloc _ _)
            have HKL : Hid (Blk W (w.heap.size + 1) #[.int .i64 3, .string S, .int .i64 (c : Int), .int .i64 0, .int .i64 0, .string ⟨#[]⟩, .bool false, .complex .f64 0 0, .int .i64 0] 58) := by
              show Blk _ _ _ _
              rw [HW.out]
              have := Blk.new (w.alloc (.cells #[.int .i64 0, .string ⟨#[]⟩, .int .i64 0, .int .i64 0, .int .i64 0, .string ⟨#[]⟩, .bool false, .complex .f64 0 0, .int .i64 0] 58)) #[.int .i64 3, .string S, .int .i64 (c : Int), .int .i64 0, .int .i64 0, .string ⟨#[]⟩, .bool false, .complex .f64 0 0, .int .i64 0] 58
              rw [e1] at this
              exact this
            clear e1
            by_cases hg : g = 0
            · subst hg
              have hj : j ≤ len := by have := (valFor_place HR.out.byte HV.out).1; rw [hbl] at this; exact this
              by_cases h10 : c = 10
              · have h10' : ((c : Int) == 10) = true := by rw [h10]; rfl
                obtain ⟨r, i, g2, hR⟩ : ∃ r i g, radAt bs j = (r, i, g) := ⟨_, _, _, rfl⟩
                have HNE := restAt_near (nm := S) HV.out h10 hR
                have HRC : Hid (∀ w, Rd w (some ⟨b, off, none⟩) len bs → Calls Tryz.prog 65 #[.slice (some ⟨b, off, none⟩) len cap, .int .i64 (j : Int)] w fun e w' => e = .returned (.tuple #[.int .i64 (r : Int), .int .i64 (i : Int), .int .i64 (g2 : Int)]) ∧ w' = w) := fun w h => take_radius (some ⟨b, off, none⟩) len cap bs j w h hl hj r i g2 hR
                clear hR h10
                by_cases hg2 : g2 = 0
                · subst hg2
                  have HE : Hid (atomAt bs p = (⟨3, S, c, v, r⟩, i, 0)) := by show _ = _; rw [HON2.out, HNE]; rfl
                  clear HNE
                  go_enter Tryz.func38, Tryz.ntmps38
                  go_wp2_with fail
                  refine HCT.out.mono ?_
                  rintro e w1 ⟨rfl, rfl⟩
                  go_wp2_with fail
                  refine (event_Name S HSZ.out _).mono ?_
                  rintro e w1 ⟨⟨b1, rfl, hb1⟩, rfl⟩
                  obtain rfl := hb1.2 HN.out
                  clear hb1
                  go_wp2_with fail
                  refine (is_cmp c _).mono ?_
                  rw [HD2.out]
                  rintro e w1 ⟨rfl, rfl⟩
                  go_wp2_with fail
                  refine (has_value c _).mono ?_
                  rw [HD1.out]
                  rintro e w1 ⟨rfl, rfl⟩
                  go_wp2_with fail
                  rw [← HW.out]
                  refine (HVC.out _ (HR.out.below HBW.out)).mono ?_
                  rintro e w2 ⟨rfl, hb2⟩
                  have HB2 : Hid (Below w.heap.size w w2) := HBW.out.trans (hb2.mono HBW.out.size)
                  have HKR2 : Hid (Blk w2 w.heap.size #[.int .i64 0, .string ⟨#[]⟩, .int .i64 0, .int .i64 0, .int .i64 0, .string ⟨#[]⟩, .bool false, .complex .f64 0 0, .int .i64 0] 58) := HKR.out.stay hb2
                  have HKL2 : Hid (Blk w2 (w.heap.size + 1) #[.int .i64 3, .string S, .int .i64 (c : Int), .int .i64 0, .int .i64 0, .string ⟨#[]⟩, .bool false, .complex .f64 0 0, .int .i64 0] 58) := HKL.out.stay hb2
                  clear hb2 hcell2 HW HKR HKL
                  obtain ⟨vk, vw, vs, vt, vx, vy⟩ := v
                  simp only [Val.cells]
                  have r0 : w2.cell? ⟨w.heap.size, 0, none⟩ = some (.int .i64 0) := HKR2.out.cell 0 rfl
                  have r1 : w2.cell? ⟨w.heap.size, 1, none⟩ = some (.string ⟨#[]⟩) := HKR2.out.cell 1 rfl
                  have r2 : w2.cell? ⟨w.heap.size, 2, none⟩ = some (.int .i64 0) := HKR2.out.cell 2 rfl
                  have r3 : w2.cell? ⟨w.heap.size, 3, none⟩ = some (.int .i64 0) := HKR2.out.cell 3 rfl
                  have r4 : w2.cell? ⟨w.heap.size, 4, none⟩ = some (.int .i64 0) := HKR2.out.cell 4 rfl
                  have r5 : w2.cell? ⟨w.heap.size, 5, none⟩ = some (.string ⟨#[]⟩) := HKR2.out.cell 5 rfl
                  have r6 : w2.cell? ⟨w.heap.size, 6, none⟩ = some (.bool false) := HKR2.out.cell 6 rfl
                  have r7 : w2.cell? ⟨w.heap.size, 7, none⟩ = some (.complex .f64 0 0) := HKR2.out.cell 7 rfl
                  have r8 : w2.cell? ⟨w.heap.size, 8, none⟩ = some (.int .i64 0) := HKR2.out.cell 8 rfl
                  have rf0 := HKR2.out.free 0
                  have rf1 := HKR2.out.free 1
                  have rf2 := HKR2.out.free 2
                  have rf3 := HKR2.out.free 3
                  have rf4 := HKR2.out.free 4
                  have rf5 := HKR2.out.free 5
                  have rf6 := HKR2.out.free 6
                  have rf7 := HKR2.out.free 7
                  have rf8 := HKR2.out.free 8
                  have l0 : w2.cell? ⟨w.heap.size + 1, 0, none⟩ = some (.int .i64 3) := HKL2.out.cell 0 rfl
                  have l1 : w2.cell? ⟨w.heap.size + 1, 1, none⟩ = some (.string S) := HKL2.out.cell 1 rfl
                  have l2 : w2.cell? ⟨w.heap.size + 1, 2, none⟩ = some (.int .i64 (c : Int)) := HKL2.out.cell 2 rfl
                  have l3 : w2.cell? ⟨w.heap.size + 1, 3, none⟩ = some (.int .i64 0) := HKL2.out.cell 3 rfl
                  have l4 : w2.cell? ⟨w.heap.size + 1, 4, none⟩ = some (.int .i64 0) := HKL2.out.cell 4 rfl
                  have l5 : w2.cell? ⟨w.heap.size + 1, 5, none⟩ = some (.string ⟨#[]⟩) := HKL2.out.cell 5 rfl
                  have l6 : w2.cell? ⟨w.heap.size + 1, 6, none⟩ = some (.bool false) := HKL2.out.cell 6 rfl
                  have l7 : w2.cell? ⟨w.heap.size + 1, 7, none⟩ = some (.complex .f64 0 0) := HKL2.out.cell 7 rfl
                  have l8 : w2.cell? ⟨w.heap.size + 1, 8, none⟩ = some (.int .i64 0) := HKL2.out.cell 8 rfl
                  have lf0 := HKL2.out.free 0
                  have lf1 := HKL2.out.free 1
                  have lf2 := HKL2.out.free 2
                  have lf3 := HKL2.out.free 3
                  have lf4 := HKL2.out.free 4
                  have lf5 := HKL2.out.free 5
                  have lf6 := HKL2.out.free 6
                  have lf7 := HKL2.out.free 7
                  have lf8 := HKL2.out.free 8
                  obtain ⟨W3, HW3⟩ : ∃ W3, Hid (W3 = ((((w2.setCell ⟨w.heap.size + 1, 3, none⟩ (.int .i64 vk)).setCell ⟨w.heap.size + 1, 4, none⟩ (.int .i64 vw)).setCell ⟨w.heap.size + 1, 5, none⟩ (.string vs)).setCell ⟨w.heap.size + 1, 6, none⟩ (.bool vt)).setCell ⟨w.heap.size + 1, 7, none⟩ (.complex .f64 vx vy)) := ⟨_, rfl⟩
                  have HB3 : Hid (Below w.heap.size w W3) := by show Below _ _ _; rw [HW3.out]; exact (((((HB2.out.setCell (by simp) _).setCell (by simp) _).setCell (by simp) _).setCell (by simp) _).setCell (by simp) _)
                  have HKR3 : Hid (Blk W3 w.heap.size #[.int .i64 0, .string ⟨#[]⟩, .int .i64 0, .int .i64 0, .int .i64 0, .string ⟨#[]⟩, .bool false, .complex .f64 0 0, .int .i64 0] 58) := by show Blk _ _ _ _; rw [HW3.out]; exact (HKR2.out.other5 (by omega) _ _ _ _ _)
                  have HKL3 : Hid (Blk W3 (w.heap.size + 1) #[.int .i64 3, .string S, .int .i64 (c : Int), .int .i64 vk, .int .i64 vw, .string vs, .bool vt, .complex .f64 vx vy, .int .i64 0] 58) := by show Blk _ _ _ _; rw [HW3.out]; exact HKL2.out.setV3 _ _ _ _ _
                  go_wp2_with fail
                  rw [← HW3.out]
                  refine (HRC.out _ (HR.out.below HB3.out)).mono ?_
                  rintro e w4 ⟨rfl, rfl⟩
                  clear HW3 r0 r1 r2 r3 r4 r5 r6 r7 r8 rf0 rf1 rf2 rf3 rf4 rf5 rf6 rf7 rf8 l0 l1 l2 l3 l4 l5 l6 l7 l8 lf0 lf1 lf2 lf3 lf4 lf5 lf6 lf7 lf8 HKR2 HKL2
                  have r0 : w4.cell? ⟨w.heap.size, 0, none⟩ = some (.int .i64 0) := HKR3.out.cell 0 rfl
                  have r1 : w4.cell? ⟨w.heap.size, 1, none⟩ = some (.string ⟨#[]⟩) := HKR3.out.cell 1 rfl
                  have r2 : w4.cell? ⟨w.heap.size, 2, none⟩ = some (.int .i64 0) := HKR3.out.cell 2 rfl
                  have r3 : w4.cell? ⟨w.heap.size, 3, none⟩ = some (.int .i64 0) := HKR3.out.cell 3 rfl
                  have r4 : w4.cell? ⟨w.heap.size, 4, none⟩ = some (.int .i64 0) := HKR3.out.cell 4 rfl
                  have r5 : w4.cell? ⟨w.heap.size, 5, none⟩ = some (.string ⟨#[]⟩) := HKR3.out.cell 5 rfl
                  have r6 : w4.cell? ⟨w.heap.size, 6, none⟩ = some (.bool false) := HKR3.out.cell 6 rfl
                  have r7 : w4.cell? ⟨w.heap.size, 7, none⟩ = some (.complex .f64 0 0) := HKR3.out.cell 7 rfl
                  have r8 : w4.cell? ⟨w.heap.size, 8, none⟩ = some (.int .i64 0) := HKR3.out.cell 8 rfl
                  have rf0 := HKR3.out.free 0
                  have rf1 := HKR3.out.free 1
                  have rf2 := HKR3.out.free 2
                  have rf3 := HKR3.out.free 3
                  have rf4 := HKR3.out.free 4
                  have rf5 := HKR3.out.free 5
                  have rf6 := HKR3.out.free 6
                  have rf7 := HKR3.out.free 7
                  have rf8 := HKR3.out.free 8
                  have l0 : w4.cell? ⟨w.heap.size + 1, 0, none⟩ = some (.int .i64 3) := HKL3.out.cell 0 rfl
                  have l1 : w4.cell? ⟨w.heap.size + 1, 1, none⟩ = some (.string S) := HKL3.out.cell 1 rfl
                  have l2 : w4.cell? ⟨w.heap.size + 1, 2, none⟩ = some (.int .i64 (c : Int)) := HKL3.out.cell 2 rfl
                  have l3 : w4.cell? ⟨w.heap.size + 1, 3, none⟩ = some (.int .i64 vk) := HKL3.out.cell 3 rfl
                  have l4 : w4.cell? ⟨w.heap.size + 1, 4, none⟩ = some (.int .i64 vw) := HKL3.out.cell 4 rfl
                  have l5 : w4.cell? ⟨w.heap.size + 1, 5, none⟩ = some (.string vs) := HKL3.out.cell 5 rfl
                  have l6 : w4.cell? ⟨w.heap.size + 1, 6, none⟩ = some (.bool vt) := HKL3.out.cell 6 rfl
                  have l7 : w4.cell? ⟨w.heap.size + 1, 7, none⟩ = some (.complex .f64 vx vy) := HKL3.out.cell 7 rfl
                  have l8 : w4.cell? ⟨w.heap.size + 1, 8, none⟩ = some (.int .i64 0) := HKL3.out.cell 8 rfl
                  have lf0 := HKL3.out.free 0
                  have lf1 := HKL3.out.free 1
                  have lf2 := HKL3.out.free 2
                  have lf3 := HKL3.out.free 3
                  have lf4 := HKL3.out.free 4
                  have lf5 := HKL3.out.free 5
                  have lf6 := HKL3.out.free 6
                  have lf7 := HKL3.out.free 7
                  have lf8 := HKL3.out.free 8
                  go_wp2
                  try simp only [Exit.inBlock, Exit.then]
                  refine bodyPost_ret (results_term rfl (by rfl) (by rfl) (by rfl) (Blk.set9 (HKR3.out.other _ _ (by simp)) _ _ _ _ _ _ _ _ _)) rfl ?_
                  exact ⟨by rw [HE.out]; rfl, ((((((((((HB3.out.setCell (by simp) _).setCell (Nat.le_refl _) _).setCell (Nat.le_refl _) _).setCell (Nat.le_refl _) _).setCell (Nat.le_refl _) _).setCell (Nat.le_refl _) _).setCell (Nat.le_refl _) _).setCell (Nat.le_refl _) _).setCell (Nat.le_refl _) _).setCell (Nat.le_refl _) _)⟩
                · have hg2' : (g2 : Int) ≠ 0 := by omega
                  have HE : Hid (atomAt bs p = (Tm.zero, 0, g2)) := by show _ = _; rw [HON2.out, HNE, if_neg hg2]
                  clear HNE
                  go_enter Tryz.func38, Tryz.ntmps38
                  go_wp2_with fail
                  refine HCT.out.mono ?_
                  rintro e w1 ⟨rfl, rfl⟩
                  go_wp2_with fail
                  refine (event_Name S HSZ.out _).mono ?_
                  rintro e w1 ⟨⟨b1, rfl, hb1⟩, rfl⟩
                  obtain rfl := hb1.2 HN.out
                  clear hb1
                  go_wp2_with fail
                  refine (is_cmp c _).mono ?_
                  rw [HD2.out]
                  rintro e w1 ⟨rfl, rfl⟩
                  go_wp2_with fail
                  refine (has_value c _).mono ?_
                  rw [HD1.out]
                  rintro e w1 ⟨rfl, rfl⟩
                  go_wp2_with fail
                  rw [← HW.out]
                  refine (HVC.out _ (HR.out.below HBW.out)).mono ?_
                  rintro e w2 ⟨rfl, hb2⟩
                  have HB2 : Hid (Below w.heap.size w w2) := HBW.out.trans (hb2.mono HBW.out.size)
                  have HKR2 : Hid (Blk w2 w.heap.size #[.int .i64 0, .string ⟨#[]⟩, .int .i64 0, .int .i64 0, .int .i64 0, .string ⟨#[]⟩, .bool false, .complex .f64 0 0, .int .i64 0] 58) := HKR.out.stay hb2
                  have HKL2 : Hid (Blk w2 (w.heap.size + 1) #[.int .i64 3, .string S, .int .i64 (c : Int), .int .i64 0, .int .i64 0, .string ⟨#[]⟩, .bool false, .complex .f64 0 0, .int .i64 0] 58) := HKL.out.stay hb2
                  clear hb2 hcell2 HW HKR HKL
                  obtain ⟨vk, vw, vs, vt, vx, vy⟩ := v
                  simp only [Val.cells]
                  have r0 : w2.cell? ⟨w.heap.size, 0, none⟩ = some (.int .i64 0) := HKR2.out.cell 0 rfl
                  have r1 : w2.cell? ⟨w.heap.size, 1, none⟩ = some (.string ⟨#[]⟩) := HKR2.out.cell 1 rfl
                  have r2 : w2.cell? ⟨w.heap.size, 2, none⟩ = some (.int .i64 0) := HKR2.out.cell 2 rfl
                  have r3 : w2.cell? ⟨w.heap.size, 3, none⟩ = some (.int .i64 0) := HKR2.out.cell 3 rfl
                  have r4 : w2.cell? ⟨w.heap.size, 4, none⟩ = some (.int .i64 0) := HKR2.out.cell 4 rfl
                  have r5 : w2.cell? ⟨w.heap.size, 5, none⟩ = some (.string ⟨#[]⟩) := HKR2.out.cell 5 rfl
                  have r6 : w2.cell? ⟨w.heap.size, 6, none⟩ = some (.bool false) := HKR2.out.cell 6 rfl
                  have r7 : w2.cell? ⟨w.heap.size, 7, none⟩ = some (.complex .f64 0 0) := HKR2.out.cell 7 rfl
                  have r8 : w2.cell? ⟨w.heap.size, 8, none⟩ = some (.int .i64 0) := HKR2.out.cell 8 rfl
                  have rf0 := HKR2.out.free 0
                  have rf1 := HKR2.out.free 1
                  have rf2 := HKR2.out.free 2
                  have rf3 := HKR2.out.free 3
                  have rf4 := HKR2.out.free 4
                  have rf5 := HKR2.out.free 5
                  have rf6 := HKR2.out.free 6
                  have rf7 := HKR2.out.free 7
                  have rf8 := HKR2.out.free 8
                  have l0 : w2.cell? ⟨w.heap.size + 1, 0, none⟩ = some (.int .i64 3) := HKL2.out.cell 0 rfl
                  have l1 : w2.cell? ⟨w.heap.size + 1, 1, none⟩ = some (.string S) := HKL2.out.cell 1 rfl
                  have l2 : w2.cell? ⟨w.heap.size + 1, 2, none⟩ = some (.int .i64 (c : Int)) := HKL2.out.cell 2 rfl
                  have l3 : w2.cell? ⟨w.heap.size + 1, 3, none⟩ = some (.int .i64 0) := HKL2.out.cell 3 rfl
                  have l4 : w2.cell? ⟨w.heap.size + 1, 4, none⟩ = some (.int .i64 0) := HKL2.out.cell 4 rfl
                  have l5 : w2.cell? ⟨w.heap.size + 1, 5, none⟩ = some (.string ⟨#[]⟩) := HKL2.out.cell 5 rfl
                  have l6 : w2.cell? ⟨w.heap.size + 1, 6, none⟩ = some (.bool false) := HKL2.out.cell 6 rfl
                  have l7 : w2.cell? ⟨w.heap.size + 1, 7, none⟩ = some (.complex .f64 0 0) := HKL2.out.cell 7 rfl
                  have l8 : w2.cell? ⟨w.heap.size + 1, 8, none⟩ = some (.int .i64 0) := HKL2.out.cell 8 rfl
                  have lf0 := HKL2.out.free 0
                  have lf1 := HKL2.out.free 1
                  have lf2 := HKL2.out.free 2
                  have lf3 := HKL2.out.free 3
                  have lf4 := HKL2.out.free 4
                  have lf5 := HKL2.out.free 5
                  have lf6 := HKL2.out.free 6
                  have lf7 := HKL2.out.free 7
                  have lf8 := HKL2.out.free 8
                  obtain ⟨W3, HW3⟩ : ∃ W3, Hid (W3 = ((((w2.setCell ⟨w.heap.size + 1, 3, none⟩ (.int .i64 vk)).setCell ⟨w.heap.size + 1, 4, none⟩ (.int .i64 vw)).setCell ⟨w.heap.size + 1, 5, none⟩ (.string vs)).setCell ⟨w.heap.size + 1, 6, none⟩ (.bool vt)).setCell ⟨w.heap.size + 1, 7, none⟩ (.complex .f64 vx vy)) := ⟨_, rfl⟩
                  have HB3 : Hid (Below w.heap.size w W3) := by show Below _ _ _; rw [HW3.out]; exact (((((HB2.out.setCell (by simp) _).setCell (by simp) _).setCell (by simp) _).setCell (by simp) _).setCell (by simp) _)
                  have HKR3 : Hid (Blk W3 w.heap.size #[.int .i64 0, .string ⟨#[]⟩, .int .i64 0, .int .i64 0, .int .i64 0, .string ⟨#[]⟩, .bool false, .complex .f64 0 0, .int .i64 0] 58) := by show Blk _ _ _ _; rw [HW3.out]; exact (HKR2.out.other5 (by omega) _ _ _ _ _)
                  have HKL3 : Hid (Blk W3 (w.heap.size + 1) #[.int .i64 3, .string S, .int .i64 (c : Int), .int .i64 vk, .int .i64 vw, .string vs, .bool vt, .complex .f64 vx vy, .int .i64 0] 58) := by show Blk _ _ _ _; rw [HW3.out]; exact HKL2.out.setV3 _ _ _ _ _
                  go_wp2_with fail
                  rw [← HW3.out]
                  refine (HRC.out _ (HR.out.below HB3.out)).mono ?_
                  rintro e w4 ⟨rfl, rfl⟩
                  clear HW3 r0 r1 r2 r3 r4 r5 r6 r7 r8 rf0 rf1 rf2 rf3 rf4 rf5 rf6 rf7 rf8 l0 l1 l2 l3 l4 l5 l6 l7 l8 lf0 lf1 lf2 lf3 lf4 lf5 lf6 lf7 lf8 HKR2 HKL2
                  have r0 : w4.cell? ⟨w.heap.size, 0, none⟩ = some (.int .i64 0) := HKR3.out.cell 0 rfl
                  have r1 : w4.cell? ⟨w.heap.size, 1, none⟩ = some (.string ⟨#[]⟩) := HKR3.out.cell 1 rfl
                  have r2 : w4.cell? ⟨w.heap.size, 2, none⟩ = some (.int .i64 0) := HKR3.out.cell 2 rfl
                  have r3 : w4.cell? ⟨w.heap.size, 3, none⟩ = some (.int .i64 0) := HKR3.out.cell 3 rfl
                  have r4 : w4.cell? ⟨w.heap.size, 4, none⟩ = some (.int .i64 0) := HKR3.out.cell 4 rfl
                  have r5 : w4.cell? ⟨w.heap.size, 5, none⟩ = some (.string ⟨#[]⟩) := HKR3.out.cell 5 rfl
                  have r6 : w4.cell? ⟨w.heap.size, 6, none⟩ = some (.bool false) := HKR3.out.cell 6 rfl
                  have r7 : w4.cell? ⟨w.heap.size, 7, none⟩ = some (.complex .f64 0 0) := HKR3.out.cell 7 rfl
                  have r8 : w4.cell? ⟨w.heap.size, 8, none⟩ = some (.int .i64 0) := HKR3.out.cell 8 rfl
                  have rf0 := HKR3.out.free 0
                  have rf1 := HKR3.out.free 1
                  have rf2 := HKR3.out.free 2
                  have rf3 := HKR3.out.free 3
                  have rf4 := HKR3.out.free 4
                  have rf5 := HKR3.out.free 5
                  have rf6 := HKR3.out.free 6
                  have rf7 := HKR3.out.free 7
                  have rf8 := HKR3.out.free 8
                  have l0 : w4.cell? ⟨w.heap.size + 1, 0, none⟩ = some (.int .i64 3) := HKL3.out.cell 0 rfl
                  have l1 : w4.cell? ⟨w.heap.size + 1, 1, none⟩ = some (.string S) := HKL3.out.cell 1 rfl
                  have l2 : w4.cell? ⟨w.heap.size + 1, 2, none⟩ = some (.int .i64 (c : Int)) := HKL3.out.cell 2 rfl
                  have l3 : w4.cell? ⟨w.heap.size + 1, 3, none⟩ = some (.int .i64 vk) := HKL3.out.cell 3 rfl
                  have l4 : w4.cell? ⟨w.heap.size + 1, 4, none⟩ = some (.int .i64 vw) := HKL3.out.cell 4 rfl
                  have l5 : w4.cell? ⟨w.heap.size + 1, 5, none⟩ = some (.string vs) := HKL3.out.cell 5 rfl
                  have l6 : w4.cell? ⟨w.heap.size + 1, 6, none⟩ = some (.bool vt) := HKL3.out.cell 6 rfl
                  have l7 : w4.cell? ⟨w.heap.size + 1, 7, none⟩ = some (.complex .f64 vx vy) := HKL3.out.cell 7 rfl
                  have l8 : w4.cell? ⟨w.heap.size + 1, 8, none⟩ = some (.int .i64 0) := HKL3.out.cell 8 rfl
                  have lf0 := HKL3.out.free 0
                  have lf1 := HKL3.out.free 1
                  have lf2 := HKL3.out.free 2
                  have lf3 := HKL3.out.free 3
                  have lf4 := HKL3.out.free 4
                  have lf5 := HKL3.out.free 5
                  have lf6 := HKL3.out.free 6
                  have lf7 := HKL3.out.free 7
                  have lf8 := HKL3.out.free 8
                  go_wp2
                  try simp only [Exit.inBlock, Exit.then]
                  refine bodyPost_ret (results_term rfl (by rfl) (by rfl) (by rfl) (Blk.set9 (HKR3.out.other _ _ (by simp)) _ _ _ _ _ _ _ _ _)) rfl ?_
                  exact ⟨by rw [HE.out]; rfl, ((((((((((HB3.out.setCell (by simp) _).setCell (Nat.le_refl _) _).setCell (Nat.le_refl _) _).setCell (Nat.le_refl _) _).setCell (Nat.le_refl _) _).setCell (Nat.le_refl _) _).setCell (Nat.le_refl _) _).setCell (Nat.le_refl _) _).setCell (Nat.le_refl _) _).setCell (Nat.le_refl _) _)⟩
              · have h10' : ((c : Int) == 10) = false := by rw [beq_eq_false_iff_ne]; omega
                have HE : Hid (atomAt bs p = (⟨3, S, c, v, 0⟩, j, 0)) := by show _ = _; rw [HON2.out, restAt_plain HV.out h10]
                clear h10
                go_enter Tryz.func38, Tryz.ntmps38
                go_wp2_with fail
                refine HCT.out.mono ?_
                rintro e w1 ⟨rfl, rfl⟩
                go_wp2_with fail
                refine (event_Name S HSZ.out _).mono ?_
                rintro e w1 ⟨⟨b1, rfl, hb1⟩, rfl⟩
                obtain rfl := hb1.2 HN.out
                clear hb1
                go_wp2_with fail
                refine (is_cmp c _).mono ?_
                rw [HD2.out]
                rintro e w1 ⟨rfl, rfl⟩
                go_wp2_with fail
                refine (has_value c _).mono ?_
                rw [HD1.out]
                rintro e w1 ⟨rfl, rfl⟩
                go_wp2_with fail
                rw [← HW.out]
                refine (HVC.out _ (HR.out.below HBW.out)).mono ?_
                rintro e w2 ⟨rfl, hb2⟩
                have HB2 : Hid (Below w.heap.size w w2) := HBW.out.trans (hb2.mono HBW.out.size)
                have HKR2 : Hid (Blk w2 w.heap.size #[.int .i64 0, .string ⟨#[]⟩, .int .i64 0, .int .i64 0, .int .i64 0, .string ⟨#[]⟩, .bool false, .complex .f64 0 0, .int .i64 0] 58) := HKR.out.stay hb2
                have HKL2 : Hid (Blk w2 (w.heap.size + 1) #[.int .i64 3, .string S, .int .i64 (c : Int), .int .i64 0, .int .i64 0, .string ⟨#[]⟩, .bool false, .complex .f64 0 0, .int .i64 0] 58) := HKL.out.stay hb2
                clear hb2 hcell2 HW HKR HKL
                obtain ⟨vk, vw, vs, vt, vx, vy⟩ := v
                simp only [Val.cells]
                have r0 : w2.cell? ⟨w.heap.size, 0, none⟩ = some (.int .i64 0) := HKR2.out.cell 0 rfl
                have r1 : w2.cell? ⟨w.heap.size, 1, none⟩ = some (.string ⟨#[]⟩) := HKR2.out.cell 1 rfl
                have r2 : w2.cell? ⟨w.heap.size, 2, none⟩ = some (.int .i64 0) := HKR2.out.cell 2 rfl
                have r3 : w2.cell? ⟨w.heap.size, 3, none⟩ = some (.int .i64 0) := HKR2.out.cell 3 rfl
                have r4 : w2.cell? ⟨w.heap.size, 4, none⟩ = some (.int .i64 0) := HKR2.out.cell 4 rfl
                have r5 : w2.cell? ⟨w.heap.size, 5, none⟩ = some (.string ⟨#[]⟩) := HKR2.out.cell 5 rfl
                have r6 : w2.cell? ⟨w.heap.size, 6, none⟩ = some (.bool false) := HKR2.out.cell 6 rfl
                have r7 : w2.cell? ⟨w.heap.size, 7, none⟩ = some (.complex .f64 0 0) := HKR2.out.cell 7 rfl
                have r8 : w2.cell? ⟨w.heap.size, 8, none⟩ = some (.int .i64 0) := HKR2.out.cell 8 rfl
                have rf0 := HKR2.out.free 0
                have rf1 := HKR2.out.free 1
                have rf2 := HKR2.out.free 2
                have rf3 := HKR2.out.free 3
                have rf4 := HKR2.out.free 4
                have rf5 := HKR2.out.free 5
                have rf6 := HKR2.out.free 6
                have rf7 := HKR2.out.free 7
                have rf8 := HKR2.out.free 8
                have l0 : w2.cell? ⟨w.heap.size + 1, 0, none⟩ = some (.int .i64 3) := HKL2.out.cell 0 rfl
                have l1 : w2.cell? ⟨w.heap.size + 1, 1, none⟩ = some (.string S) := HKL2.out.cell 1 rfl
                have l2 : w2.cell? ⟨w.heap.size + 1, 2, none⟩ = some (.int .i64 (c : Int)) := HKL2.out.cell 2 rfl
                have l3 : w2.cell? ⟨w.heap.size + 1, 3, none⟩ = some (.int .i64 0) := HKL2.out.cell 3 rfl
                have l4 : w2.cell? ⟨w.heap.size + 1, 4, none⟩ = some (.int .i64 0) := HKL2.out.cell 4 rfl
                have l5 : w2.cell? ⟨w.heap.size + 1, 5, none⟩ = some (.string ⟨#[]⟩) := HKL2.out.cell 5 rfl
                have l6 : w2.cell? ⟨w.heap.size + 1, 6, none⟩ = some (.bool false) := HKL2.out.cell 6 rfl
                have l7 : w2.cell? ⟨w.heap.size + 1, 7, none⟩ = some (.complex .f64 0 0) := HKL2.out.cell 7 rfl
                have l8 : w2.cell? ⟨w.heap.size + 1, 8, none⟩ = some (.int .i64 0) := HKL2.out.cell 8 rfl
                have lf0 := HKL2.out.free 0
                have lf1 := HKL2.out.free 1
                have lf2 := HKL2.out.free 2
                have lf3 := HKL2.out.free 3
                have lf4 := HKL2.out.free 4
                have lf5 := HKL2.out.free 5
                have lf6 := HKL2.out.free 6
                have lf7 := HKL2.out.free 7
                have lf8 := HKL2.out.free 8
                go_wp2
                try simp only [Exit.inBlock, Exit.then]
                refine bodyPost_ret (results_term rfl (by rfl) (by rfl) (by rfl) ((HKR2.out.other5 (by omega) _ _ _ _ _).set9 _ _ _ _ _ _ _ _ _)) rfl ?_
                exact ⟨by rw [HE.out]; rfl, ((((((((((((((HB2.out.setCell (by simp) _).setCell (by simp) _).setCell (by simp) _).setCell (by simp) _).setCell (by simp) _).setCell (Nat.le_refl _) _).setCell (Nat.le_refl _) _).setCell (Nat.le_refl _) _).setCell (Nat.le_refl _) _).setCell (Nat.le_refl _) _).setCell (Nat.le_refl _) _).setCell (Nat.le_refl _) _).setCell (Nat.le_refl _) _).setCell (Nat.le_refl _) _)⟩
            · have hg' : (g : Int) ≠ 0 := by omega
              have HE : Hid (atomAt bs p = (Tm.zero, 0, g)) := by show _ = _; rw [HON2.out, restAt_err HV.out hg]
              go_enter Tryz.func38, Tryz.ntmps38
              go_wp2_with fail
              refine HCT.out.mono ?_
              rintro e w1 ⟨rfl, rfl⟩
              go_wp2_with fail
              refine (event_Name S HSZ.out _).mono ?_
              rintro e w1 ⟨⟨b1, rfl, hb1⟩, rfl⟩
              obtain rfl := hb1.2 HN.out
              clear hb1
              go_wp2_with fail
              refine (is_cmp c _).mono ?_
              rw [HD2.out]
              rintro e w1 ⟨rfl, rfl⟩
              go_wp2_with fail
              refine (has_value c _).mono ?_
              rw [HD1.out]
              rintro e w1 ⟨rfl, rfl⟩
              go_wp2_with fail
              rw [← HW.out]
              refine (HVC.out _ (HR.out.below HBW.out)).mono ?_
              rintro e w2 ⟨rfl, hb2⟩
              have HB2 : Hid (Below w.heap.size w w2) := HBW.out.trans (hb2.mono HBW.out.size)
              have HKR2 : Hid (Blk w2 w.heap.size #[.int .i64 0, .string ⟨#[]⟩, .int .i64 0, .int .i64 0, .int .i64 0, .string ⟨#[]⟩, .bool false, .complex .f64 0 0, .int .i64 0] 58) := HKR.out.stay hb2
              have HKL2 : Hid (Blk w2 (w.heap.size + 1) #[.int .i64 3, .string S, .int .i64 (c : Int), .int .i64 0, .int .i64 0, .string ⟨#[]⟩, .bool false, .complex .f64 0 0, .int .i64 0] 58) := HKL.out.stay hb2
              clear hb2 hcell2 HW HKR HKL
              obtain ⟨vk, vw, vs, vt, vx, vy⟩ := v
              simp only [Val.cells]
              have r0 : w2.cell? ⟨w.heap.size, 0, none⟩ = some (.int .i64 0) := HKR2.out.cell 0 rfl
              have r1 : w2.cell? ⟨w.heap.size, 1, none⟩ = some (.string ⟨#[]⟩) := HKR2.out.cell 1 rfl
              have r2 : w2.cell? ⟨w.heap.size, 2, none⟩ = some (.int .i64 0) := HKR2.out.cell 2 rfl
              have r3 : w2.cell? ⟨w.heap.size, 3, none⟩ = some (.int .i64 0) := HKR2.out.cell 3 rfl
              have r4 : w2.cell? ⟨w.heap.size, 4, none⟩ = some (.int .i64 0) := HKR2.out.cell 4 rfl
              have r5 : w2.cell? ⟨w.heap.size, 5, none⟩ = some (.string ⟨#[]⟩) := HKR2.out.cell 5 rfl
              have r6 : w2.cell? ⟨w.heap.size, 6, none⟩ = some (.bool false) := HKR2.out.cell 6 rfl
              have r7 : w2.cell? ⟨w.heap.size, 7, none⟩ = some (.complex .f64 0 0) := HKR2.out.cell 7 rfl
              have r8 : w2.cell? ⟨w.heap.size, 8, none⟩ = some (.int .i64 0) := HKR2.out.cell 8 rfl
              have rf0 := HKR2.out.free 0
              have rf1 := HKR2.out.free 1
              have rf2 := HKR2.out.free 2
              have rf3 := HKR2.out.free 3
              have rf4 := HKR2.out.free 4
              have rf5 := HKR2.out.free 5
              have rf6 := HKR2.out.free 6
              have rf7 := HKR2.out.free 7
              have rf8 := HKR2.out.free 8
              have l0 : w2.cell? ⟨w.heap.size + 1, 0, none⟩ = some (.int .i64 3) := HKL2.out.cell 0 rfl
              have l1 : w2.cell? ⟨w.heap.size + 1, 1, none⟩ = some (.string S) := HKL2.out.cell 1 rfl
              have l2 : w2.cell? ⟨w.heap.size + 1, 2, none⟩ = some (.int .i64 (c : Int)) := HKL2.out.cell 2 rfl
              have l3 : w2.cell? ⟨w.heap.size + 1, 3, none⟩ = some (.int .i64 0) := HKL2.out.cell 3 rfl
              have l4 : w2.cell? ⟨w.heap.size + 1, 4, none⟩ = some (.int .i64 0) := HKL2.out.cell 4 rfl
              have l5 : w2.cell? ⟨w.heap.size + 1, 5, none⟩ = some (.string ⟨#[]⟩) := HKL2.out.cell 5 rfl
              have l6 : w2.cell? ⟨w.heap.size + 1, 6, none⟩ = some (.bool false) := HKL2.out.cell 6 rfl
              have l7 : w2.cell? ⟨w.heap.size + 1, 7, none⟩ = some (.complex .f64 0 0) := HKL2.out.cell 7 rfl
              have l8 : w2.cell? ⟨w.heap.size + 1, 8, none⟩ = some (.int .i64 0) := HKL2.out.cell 8 rfl
              have lf0 := HKL2.out.free 0
              have lf1 := HKL2.out.free 1
              have lf2 := HKL2.out.free 2
              have lf3 := HKL2.out.free 3
              have lf4 := HKL2.out.free 4
              have lf5 := HKL2.out.free 5
              have lf6 := HKL2.out.free 6
              have lf7 := HKL2.out.free 7
              have lf8 := HKL2.out.free 8
              go_wp2
              try simp only [Exit.inBlock, Exit.then]
              refine bodyPost_ret (results_term rfl (by rfl) (by rfl) (by rfl) ((HKR2.out.other5 (by omega) _ _ _ _ _).set9 _ _ _ _ _ _ _ _ _)) rfl ?_
              exact ⟨by rw [HE.out]; rfl, ((((((((((((((HB2.out.setCell (by simp) _).setCell (by simp) _).setCell (by simp) _).setCell (by simp) _).setCell (by simp) _).setCell (Nat.le_refl _) _).setCell (Nat.le_refl _) _).setCell (Nat.le_refl _) _).setCell (Nat.le_refl _) _).setCell (Nat.le_refl _) _).setCell (Nat.le_refl _) _).setCell (Nat.le_refl _) _).setCell (Nat.le_refl _) _).setCell (Nat.le_refl _) _)⟩
    · have HN : Hid (¬ nameOk S) := hn
      have HE : Hid (atomAt bs p = (Tm.zero, 0, 11)) := atomAt_name HT.out (by rw [HSS.out]; exact hn)
      clear hn
      go_enter Tryz.func38, Tryz.ntmps38
      go_wp2_with fail
      refine HCT.out.mono ?_
      rintro e w1 ⟨rfl, rfl⟩
      go_wp2_with fail
      refine (event_Name S HSZ.out _).mono ?_
      rintro e w1 ⟨⟨b1, rfl, hb1⟩, rfl⟩
      obtain rfl : b1 = false := by
        cases b1 with
        | false => rfl
        | true => exact absurd (hb1.1 rfl) HN.out
      clear hb1
      go_wp2
      go_returns
      exact ⟨by rw [HE.out]; rfl, HB0.out⟩
  · have hf' : (f : Int) ≠ 0 := by omega
    have HE : Hid (atomAt bs p = (Tm.zero, 0, f)) := atomAt_text HT.out hf
    go_enter Tryz.func38, Tryz.ntmps38
    go_wp2_with fail
    refine HCT.out.mono ?_
    rintro e w1 ⟨rfl, rfl⟩
    go_wp2
    go_returns
    exact ⟨by rw [HE.out]; rfl, HB0.out⟩
end Go.Proofs.YtfmpfjpcigdeoabGreatDoor
