/- The reference's Scan and SameAll. -/
import Derived.Test.YtbhljlafijdodaaDoorSealScan
import Derived.Test.YtbhljlafijdodaaDoorSealRefAll
namespace Go.Proofs.YtbhljlafijdodaaDoor
open Go.RowKit

theorem Found.fresh (w : World) : Found (w.alloc (.cells #[] 29)) w.heap.size (.slice (some ⟨w.heap.size, 0, none⟩) 0 0) [] :=
  ⟨⟨rfl, .inr ⟨w.heap.size, 0, #[], rfl, Nat.le_refl _, heap_alloc_new w _, Nat.le_refl _, by unfold maxLen; omega, rfl, rfl⟩⟩, fun t ht => by cases ht⟩

theorem ref_Scan_long (a : Option Addr) (len cap : Nat) (w : World) (hl : 16384 < len) (hm : len ≤ 9223372036854775807) :
    Calls Tryd.prog 16 #[.slice a len cap] w fun e w' => e = .returned (.tuple #[.slice none 0 0, .int .i64 0, .int .i64 6]) ∧ w' = w := by
  go_enter Tryd.func16, Tryd.ntmps16
  go_wp2
  go_ret3
  exact ⟨rfl, rfl⟩

set_option maxRecDepth 100000 in
set_option maxHeartbeats 2000000 in
theorem ref_Scan (a : Option Addr) (len cap : Nat) (bs : List Nat) (w : World) (hr : Rd w a len bs) (hlc : len ≤ cap) (hl : len ≤ 16384) :
    Calls Tryd.prog 16 #[.slice a len cap] w fun e w' => ∃ v ts n, e = .returned (.tuple #[v, .int .i64 ((n : Nat) : Int), .int .i64 0]) ∧ Found w' w.heap.size v ts ∧ (ts.map It.dat, n) = SealM.scan len bs 0 ∧ Below w.heap.size w w' := by
  have HR : Hid (Rd w a len bs) := hr
  have HBL : Hid (bs.length = len) := hr.size
  obtain ⟨i0, hi, hz0, hz1, hz2⟩ := info_parts infoSealed
  clear hr
  go_enter Tryd.func16, Tryd.ntmps16
  go_wp2
  go_loopw [5, 6, 7] (fun t5 t6 t7 wr => ∃ (ts : List It) (s p f : Nat), p ≤ len ∧ s ≤ p ∧ ts.length ≤ p ∧ len ≤ f + p ∧ t6 = .int .i64 (s : Int) ∧ t7 = .int .i64 (p : Int) ∧ Hid (Found wr w.heap.size t5 ts) ∧ Hid (Below w.heap.size w wr) ∧ Hid ((ts.map It.dat ++ (SealM.scan f bs p).1, s + (SealM.scan f bs p).2) = SealM.scan len bs 0)) (fun _ _ t7 _ => len - (intOf t7).toNat)
  case atStart => exact ⟨[], 0, 0, len, by omega, by omega, by simp, by omega, rfl, rfl, Found.fresh w, below_alloc w _, by show _ = _; simp⟩
  case round =>
    obtain ⟨ts, s, p, f, hp, hsp, htl, hfp, rfl, rfl, HF, HB, HSC⟩ := hrel
    by_cases hlt : p < len
    · have hlt' : (p : Int) < (len : Int) := by omega
      obtain ⟨f, rfl⟩ : ∃ f', f = f' + 1 := ⟨f - 1, by omega⟩
      by_cases hok : SealM.opn (bs.drop p) = 0
      · obtain ⟨k, HKK⟩ : ∃ k, Hid ((bs.drop p).getD 1 0 = k) := ⟨_, rfl⟩
        obtain ⟨q, HQ⟩ : ∃ q, Hid (SealM.blen (bs.drop p) = q) := ⟨_, rfl⟩
        obtain ⟨B, HBD⟩ : ∃ B, Hid (((bs.drop p).drop 4).take q = B) := ⟨_, rfl⟩
        have hfit := SealM.opn_fits hok
        rw [HQ.out, List.length_drop, HBL.out] at hfit
        have hq1 : p + q + 8 ≤ len := by omega
        have HSC' : Hid ((ts.map It.dat ++ ((k, p, B) :: (SealM.scan f bs (p + q + 8)).1), s + (SealM.scan f bs (p + q + 8)).2) = SealM.scan len bs 0) := by
          have h := HSC.out
          rw [SealM.scan_ok f bs p (by rw [HBL.out]; exact hlt) hok, HKK.out, HQ.out, HBD.out] at h
          exact h
        have HOK : Hid (SealM.opn (bs.drop p) = 0) := hok
        clear hfit hok HSC
        go_wp2_with fail
        refine (ref_Open_good a len cap bs p wr (HR.out.below HB.out) hlc (by omega) HOK.out k q HKK.out HQ.out B HBD.out).mono ?_
        rintro e w1 ⟨ga, gc, rfl, ho1, hb1⟩
        have HB1 : Hid (Below w.heap.size w w1) := HB.out.trans (hb1.mono HB.out.size)
        have HF1 : Hid (Found w1 w.heap.size u5 ts) := HF.out.below hb1
        have HO1 : Hid (Own w1 0 ga q gc B) := ho1.lower (Nat.zero_le _)
        clear ho1 hb1
        have HA1 : Hid (Below w1.heap.size w1 ((w1.alloc (.cells #[.int .u8 (k : Int), .int .i64 (p : Int), .slice ga q gc] 29)).alloc (.cells #[.int .u8 (k : Int), .int .i64 (p : Int), .slice ga q gc] 29))) := ((Below.refl _ _).alloc (Nat.le_refl _) _).alloc (by simp) _
        have hnx : ((p + q + 8 : Nat) : Int) = (p : Int) + (q : Int) + 8 := by omega
        go_wp2_with (at_builtin; refine wpList_append_own _ (by rfl) (.tmp 28) (.tmp 30) 43 (by rfl) w.heap.size 29 i0 (.agg #[.int .u8 0, .int .i64 0, .slice none 0 0]) 3 40 Tryd.underlying43 hi hz0 hz1 hz2 (by rfl) (by decide) u5 ts.length (ts.flatMap It.cells) (by rfl) (HF1.out.below HA1.out).row ⟨w1.heap.size + 1, 0, none⟩ 1 1 (It.cells ⟨k, p, ga, q, gc, B⟩) (by rfl) (by rfl) ?_ ?_ (by unfold maxLen; omega) (by omega) (Nat.le_trans HB1.out.size HA1.out.size) ?_)
        · intro j u hj
          match j with
          | 0 => simp [It.cells] at hj; subst hj; simp [Addr.add]
          | 1 => simp [It.cells] at hj; subst hj; simp [Addr.add]
          | 2 => simp [It.cells] at hj; subst hj; simp [Addr.add]
          | j + 3 => simp [It.cells] at hj
        · exact It.one _
        intro v' w2 hrow hgrow _
        have HF2 : Hid (Found w2 w.heap.size v' (ts ++ [⟨k, p, ga, q, gc, B⟩])) := (HF1.out.below HA1.out).snoc ⟨k, p, ga, q, gc, B⟩ (HO1.out.below HA1.out) hgrow hrow
        have HB2 : Hid (Below w.heap.size w w2) := (HB1.out.trans (HA1.out.mono HB1.out.size)).trans ((Below.refl _ _).grown hgrow (Nat.le_trans HB1.out.size HA1.out.size) (fun k hk => Found.at_ (HF1.out.below HA1.out) hk))
        clear hrow hgrow
        go_wp2
        go_roundw
        case rel => exact ⟨ts ++ [⟨k, p, ga, q, gc, B⟩], s, p + q + 8, f, hq1, by omega, by simp; omega, by omega, rfl, by go_num, HF2, HB2, by show _ = _; rw [← HSC'.out]; simp [It.dat]⟩
        case measure => simp [intOf]; omega
      · have HBAD : Hid (openErr bs (p : Int) = SealM.opn (bs.drop p)) := openErr_nat bs p (by rw [HBL.out]; omega)
        obtain ⟨e0, HE⟩ : ∃ e0, Hid (SealM.opn (bs.drop p) = e0) := ⟨_, rfl⟩
        have he0 : e0 ≠ 0 := by rw [← HE.out]; exact hok
        have he1 : ((e0 : Int) == 0) = false := by rw [beq_eq_false_iff_ne]; omega
        have HSC' : Hid ((ts.map It.dat ++ (SealM.scan f bs (p + 1)).1, s + ((SealM.scan f bs (p + 1)).2 + 1)) = SealM.scan len bs 0) := by
          have h := HSC.out
          rw [SealM.scan_bad f bs p (by rw [HBL.out]; exact hlt) hok] at h
          exact h
        clear hok HSC
        go_wp2_with fail
        refine (ref_Open_bad a len cap bs (p : Int) wr (HR.out.below HB.out) hlc (by omega) (by omega) e0 (HBAD.out.trans HE.out) he0).mono ?_
        unfold toldBad
        rintro e w1 ⟨rfl, hb1⟩
        have HA1 : Hid (Below w1.heap.size w1 (w1.alloc (.cells #[.int .u8 0, .int .i64 0, .slice none 0 0] 29))) := below_alloc w1 _
        have HB1 : Hid (Below w.heap.size w w1) := HB.out.trans (hb1.mono HB.out.size)
        have HB2 : Hid (Below w.heap.size w (w1.alloc (.cells #[.int .u8 0, .int .i64 0, .slice none 0 0] 29))) := HB1.out.trans (HA1.out.mono HB1.out.size)
        have HF2 : Hid (Found (w1.alloc (.cells #[.int .u8 0, .int .i64 0, .slice none 0 0] 29)) w.heap.size u5 ts) := (HF.out.below hb1).below HA1.out
        clear hb1
        go_wp2
        go_roundw
        case rel => exact ⟨ts, s + 1, p + 1, f, by omega, by omega, by omega, by omega, by go_num, by go_num, HF2, HB2, by show _ = _; rw [← HSC'.out]; congr 1; omega⟩
        case measure => simp [intOf]; omega
    · have HEND : Hid (SealM.scan f bs p = ([], 0)) := SealM.scan_end f bs p (by rw [HBL.out]; omega)
      have hnl : ¬ (p : Int) < (len : Int) := by omega
      go_wp2
      go_ret3
      refine ⟨_, ts, s, rfl, HF.out, ?_, HB.out⟩
      have h := HSC.out
      rw [HEND.out] at h
      simpa using h

theorem cells_at (ts : List It) : ∀ (i j : Nat) (t : It), ts[i]? = some t → j < 3 → (ts.flatMap It.cells)[i * 3 + j]? = t.cells[j]? := by
  induction ts with
  | nil => intro i j t h; simp at h
  | cons u ts ih =>
    intro i j t h hj
    rw [List.flatMap_cons]
    have hl : u.cells.length = 3 := rfl
    cases i with
    | zero =>
      simp only [List.getElem?_cons_zero, Option.some.injEq] at h
      subst h
      rw [Nat.zero_mul, Nat.zero_add, List.getElem?_append_left (by omega)]
    | succ i =>
      rw [List.getElem?_cons_succ] at h
      rw [List.getElem?_append_right (by omega), hl, show (i + 1) * 3 + j - 3 = i * 3 + j from by omega]
      exact ih i j t h hj

theorem Found.form {w : World} {base : Nat} {v : Value} {ts : List It} (h : Found w base v ts) : ∃ a c, v = .slice a ts.length c ∧ (0 < ts.length → ∃ g, a = some ⟨g, 0, none⟩ ∧ g < w.heap.size ∧ ∀ i t, ts[i]? = some t → w.cell? ⟨g, i * 3, none⟩ = some (.int .u8 (t.k : Int)) ∧ w.cell? ⟨g, i * 3 + 1, none⟩ = some (.int .i64 (t.p : Int)) ∧ w.cell? ⟨g, i * 3 + 2, none⟩ = some (.slice t.a t.q t.c)) := by
  rcases h.row.2 with ⟨hv, h0⟩ | ⟨g, c, cur, hv, hb, hg, hlc, hm, hs, ht⟩
  · exact ⟨none, 0, by rw [hv, h0], fun hp => by omega⟩
  · refine ⟨some ⟨g, 0, none⟩, c, hv, fun _ => ⟨g, rfl, (Array.getElem?_eq_some_iff.1 hg).1, fun i t hi => ?_⟩⟩
    have hil : i < ts.length := (List.getElem?_eq_some_iff.1 hi).1
    have hcell : ∀ j, j < 3 → w.cell? ⟨g, i * 3 + j, none⟩ = t.cells[j]? := by
      intro j hj
      rw [cell_of_row w g (i * 3 + j) cur 29 (0, 0) hg, ← cells_at ts i j t hi hj, ← ht, List.getElem?_take_of_lt (by omega), Array.getElem?_toList]
    exact ⟨hcell 0 (by omega), hcell 1 (by omega), hcell 2 (by omega)⟩

set_option maxRecDepth 100000 in
set_option maxHeartbeats 1000000 in
theorem ref_SameAll (v1 v2 : Value) (xs ys : List It) (w : World) (b1 b2 : Nat) (h1 : Found w b1 v1 xs) (h2 : Found w b2 v2 ys) (hd : xs.map It.dat = ys.map It.dat) (hl : xs.length ≤ 1000000) :
    Calls Tryd.prog 17 #[v1, v2] w fun e w' => e = .returned (.bool true) ∧ Below w.heap.size w w' := by
  have hlen : ys.length = xs.length := by have := congrArg List.length hd; simpa using this.symm
  obtain ⟨a1, c1, rfl, f1⟩ := h1.form
  obtain ⟨a2, c2, rfl, f2⟩ := h2.form
  rw [hlen] at f2 ⊢
  obtain ⟨n, HN⟩ : ∃ n, Hid (n = xs.length) := ⟨_, rfl⟩
  rw [← HN.out] at f1 f2 hl ⊢
  by_cases hn0 : n = 0
  · subst hn0
    clear f1 f2 h1 h2 hd hlen
    go_enter Tryd.func17, Tryd.ntmps17
    go_wp2
    refine wp_loop_rounds 1 ?_
    rw [rounds_succ]
    go_wp2
    go_ret
    exact ⟨rfl, Below.refl _ _⟩
  · obtain ⟨g1, rfl, hg1, k1⟩ := f1 (by omega)
    obtain ⟨g2, rfl, hg2, k2⟩ := f2 (by omega)
    have HK1 : Hid (∀ i t, xs[i]? = some t → w.cell? ⟨g1, i * 3, none⟩ = some (.int .u8 (t.k : Int)) ∧ w.cell? ⟨g1, i * 3 + 1, none⟩ = some (.int .i64 (t.p : Int)) ∧ w.cell? ⟨g1, i * 3 + 2, none⟩ = some (.slice t.a t.q t.c)) := k1
    have HK2 : Hid (∀ i t, ys[i]? = some t → w.cell? ⟨g2, i * 3, none⟩ = some (.int .u8 (t.k : Int)) ∧ w.cell? ⟨g2, i * 3 + 1, none⟩ = some (.int .i64 (t.p : Int)) ∧ w.cell? ⟨g2, i * 3 + 2, none⟩ = some (.slice t.a t.q t.c)) := k2
    have HF1 : Hid (Found w b1 _ xs) := h1
    have HF2 : Hid (Found w b2 _ ys) := h2
    have HD : Hid (xs.map It.dat = ys.map It.dat) := hd
    have HYL : Hid (ys.length = n) := hlen.trans HN.out.symm
    clear f1 f2 h1 h2 hd hlen k1 k2
    go_enter Tryd.func17, Tryd.ntmps17
    go_wp2
    go_loopw [5] (fun t5 wr => ∃ (i : Nat), i ≤ n ∧ t5 = .int .i64 (i : Int) ∧ Hid (Below w.heap.size w wr)) (fun t5 _ => n - (intOf t5).toNat)
    case atStart => exact ⟨0, by omega, rfl, Below.refl _ _⟩
    case round =>
      obtain ⟨i, hi, rfl, HB⟩ := hrel
      by_cases hlt : i < n
      · have hlt' : (i : Int) < (n : Int) := by omega
        obtain ⟨t, ht⟩ : ∃ t, xs[i]? = some t := ⟨_, List.getElem?_eq_getElem (by rw [← HN.out]; exact hlt)⟩
        obtain ⟨u, hu⟩ : ∃ u, ys[i]? = some u := ⟨_, List.getElem?_eq_getElem (by rw [HYL.out]; exact hlt)⟩
        have hdat : t.dat = u.dat := by
          have e1 : (xs.map It.dat)[i]? = some t.dat := by rw [List.getElem?_map, ht]; rfl
          have e2 : (ys.map It.dat)[i]? = some u.dat := by rw [List.getElem?_map, hu]; rfl
          rw [HD.out, e2] at e1
          exact (Option.some.inj e1).symm
        have hk : t.k = u.k := congrArg (·.1) hdat
        have hp : t.p = u.p := congrArg (·.2.1) hdat
        have hb : t.body = u.body := congrArg (·.2.2) hdat
        have HR1 : Hid (Rd wr t.a t.q t.body) := ((HF1.out.body t (List.mem_of_getElem? ht)).rd).below HB.out
        have HR2 : Hid (Rd wr u.a u.q t.body) := by rw [hb]; exact ((HF2.out.body u (List.mem_of_getElem? hu)).rd).below HB.out
        obtain ⟨ka, kb, kc⟩ := HK1.out i t ht
        obtain ⟨la, lb, lc⟩ := HK2.out i u hu
        rw [← HB.out.cell (p := ⟨g1, i * 3, none⟩) hg1] at ka
        rw [← HB.out.cell (p := ⟨g1, i * 3 + 1, none⟩) hg1] at kb
        rw [← HB.out.cell (p := ⟨g1, i * 3 + 2, none⟩) hg1] at kc
        rw [← HB.out.cell (p := ⟨g2, i * 3, none⟩) hg2, ← hk] at la
        rw [← HB.out.cell (p := ⟨g2, i * 3 + 1, none⟩) hg2, ← hp] at lb
        rw [← HB.out.cell (p := ⟨g2, i * 3 + 2, none⟩) hg2] at lc
        obtain ⟨tk, tp, ta, tq, tc, tb⟩ := t
        obtain ⟨uk, up, ua, uq, uc, ub⟩ := u
        simp only at ka kb kc la lb lc HR1 HR2
        clear hk hp hb hdat ht hu
        have hz1 : g1 < wr.drew.heap.size := Nat.lt_of_lt_of_le hg1 HB.out.size
        have hz2 : g2 < wr.drew.heap.size := Nat.lt_of_lt_of_le hg2 HB.out.size
        go_wp2
        go_region_held3 (fun w' => w'.cell? ⟨g1, i * 3, none⟩ = some (.int .u8 (tk : Int)) ∧ w'.cell? ⟨g1, i * 3 + 1, none⟩ = some (.int .i64 (tp : Int)) ∧ w'.cell? ⟨g1, i * 3 + 2, none⟩ = some (.slice ta tq tc) ∧ w'.cell? ⟨g2, i * 3, none⟩ = some (.int .u8 (tk : Int)) ∧ w'.cell? ⟨g2, i * 3 + 1, none⟩ = some (.int .i64 (tp : Int)) ∧ w'.cell? ⟨g2, i * 3 + 2, none⟩ = some (.slice ua uq uc)) (go_keep)
          (first
            | (go_at_call 14; refine (ref_Same tk (tp : Int) ta tq tc ua uq uc tb _ HR1.out.drew HR2.out.drew).mono ?_; rintro e w3 ⟨rfl, hb3⟩; have q1 := hb3.cell (p := ⟨g1, i * 3, none⟩) hz1; have q2 := hb3.cell (p := ⟨g1, i * 3 + 1, none⟩) hz1; have q3 := hb3.cell (p := ⟨g1, i * 3 + 2, none⟩) hz1; have q4 := hb3.cell (p := ⟨g2, i * 3, none⟩) hz2; have q5 := hb3.cell (p := ⟨g2, i * 3 + 1, none⟩) hz2; have q6 := hb3.cell (p := ⟨g2, i * 3 + 2, none⟩) hz2; have HB3 : Hid (Below w.heap.size w w3) := HB.out.drew.trans (hb3.mono HB.out.size); clear hb3))
        go_wp2
        go_roundw
        case rel => exact ⟨i + 1, by omega, by go_num, HB3⟩
        case measure => simp [intOf]; omega
      · have hn : ¬ (i : Int) < (n : Int) := by omega
        go_wp2
        go_ret
        exact ⟨rfl, HB.out⟩
end Go.Proofs.YtbhljlafijdodaaDoor
