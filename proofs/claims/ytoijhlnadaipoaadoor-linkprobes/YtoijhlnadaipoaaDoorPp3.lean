/- parcel.putNews. -/
import Derived.Test.YtoijhlnadaipoaaDoorPp2
import Derived.Test.YtoijhlnadaipoaaDoorStep
import Derived.Deep.RegionHeld3
namespace Go.Proofs.YtoijhlnadaipoaaDoor
open Go.RowKit

theorem putT_len {l : List Sp} (h : l.length ≤ 32) : (putT l).length ≤ 700 := by
  unfold putT
  split
  · split
    · simp
    · rw [List.length_append]
      have h1 := Leb.leb_length l.length
      have h2 := putS_len l 0
      omega
  · simp
theorem putI_len {q : It} (h : q.body.length ≤ 400) : (putI q).length ≤ 430 := by
  unfold putI
  rw [List.length_append]
  have := lebs_len [q.tick.toNat, q.for_.toNat, q.body.length]
  simp at this
  omega
theorem putIs_len : ∀ (l : List It), (∀ q ∈ l, q.body.length ≤ 400) → (putIs l).length ≤ 430 * l.length
  | [], _ => by simp [putIs]
  | q :: l, h => by
    rw [putIs, List.flatMap_cons, List.length_append, List.length_cons]
    have h1 := putI_len (h q (by simp))
    have h2 := putIs_len l fun x hx => h x (by simp [hx])
    rw [putIs] at h2
    omega
theorem putIs_cons (q : It) (l : List It) : putIs (q :: l) = putI q ++ putIs l := rfl

/-- An item, as it is read in all worlds that hold what was there. -/
theorem ItsRd.far {w : World} {a : Option Addr} {n : Nat} {l : List It} (h : ItsRd w a n l) (i : Nat) (hi : i < n) : ∃ g o, a = some ⟨g, o, none⟩ ∧ ∃ q ba bl bc, l[i]? = some q ∧ (ba = none → bc = 0) ∧ bl ≤ bc ∧ bc ≤ 9223372036854775807 ∧ q.body.length = bl ∧ ∀ w', Below w.heap.size w w' → w'.cell? ⟨g, o + i * 3, none⟩ = some (.int .i64 q.tick) ∧ w'.cell? ⟨g, o + i * 3 + 1, none⟩ = some (.int .u32 q.for_) ∧ w'.cell? ⟨g, o + i * 3 + 2, none⟩ = some (.slice ba bl bc) ∧ Rd w' ba bl q.body := by
  obtain ⟨g, o, ha, hg, q, hq, c0, c1, ba, bl, bc, c2, hrd, hnc, hbl, hbc⟩ := h.at_ i hi
  refine ⟨g, o, ha, q, ba, bl, bc, hq, hnc, hbl, hbc, hrd.size, fun w' hb => ?_⟩
  rw [hb.cell (p := ⟨g, o + i * 3, none⟩) hg, hb.cell (p := ⟨g, o + i * 3 + 1, none⟩) hg, hb.cell (p := ⟨g, o + i * 3 + 2, none⟩) hg]
  exact ⟨c0, c1, c2, hrd.below hb⟩

set_option maxRecDepth 100000 in
set_option maxHeartbeats 4000000 in
theorem pc_putNews (base : Nat) (a : Option Addr) (len cap : Nat) (xs : List Nat) (p : Pc) (sa : Option Addr) (sn sc : Nat) (ia : Option Addr) (im ic : Nat) (w : World) (ho : Own w base a len cap xs) (hB : base ≤ w.heap.size) (hl : len ≤ 1000) (w0 : World) (hw0 : Below w0.heap.size w0 w) (hwb : w0.heap.size ≤ base) (hp : PcRd w0 p sa sn sc ia im ic) (hs : sn ≤ 32) (hm : im ≤ 8) (hi : ∀ q ∈ p.items, 0 ≤ q.tick ∧ q.tick ≤ 1099511627776 ∧ q.body.length ≤ 400) :
    Calls Tryd.prog 38 #[.slice a len cap, p.val sa sn sc ia im ic] w fun e w' => (∃ a' m' c', e = .returned (.slice a' m' c') ∧ Hid (Own w' base a' m' c' (xs ++ (putT p.spans ++ (lebs [p.items.length] ++ putIs p.items))))) ∧ Below base w w' := by
  have HO : Hid (Own w base a len cap xs) := ho
  have HBS : Hid (base ≤ w.heap.size) := hB
  have HPI : Hid (PcRd w0 p sa sn sc ia im ic) := hp
  have HP : Hid (∀ w', Below base w w' → PcRd w' p sa sn sc ia im ic) := fun w' hb => hp.below (hw0.trans (hb.mono hwb))
  have HW0 : Hid (∀ w', Below base w w' → Below w0.heap.size w0 w') := fun w' hb => hw0.trans (hb.mono hwb)
  have HI : Hid (∀ q ∈ p.items, 0 ≤ q.tick ∧ q.tick ≤ 1099511627776 ∧ q.body.length ≤ 400) := hi
  have hpr := hp
  have HTL : Hid ((putT p.spans).length ≤ 700) := putT_len (by rw [hpr.spans.size]; exact hs)
  have HIM : Hid (p.items.length = im) := hpr.items.size
  clear ho hB hp hi hpr hw0 hwb
  obtain ⟨pk, pp, ps, pn, pf, pt, pl, pi⟩ := p
  unfold Pc.val
  simp only at HP HI HTL HIM HPI ⊢
  obtain ⟨T, HT⟩ : ∃ T, Hid (T = putT pl ++ (lebs [im] ++ putIs pi)) := ⟨_, rfl⟩
  rw [HIM.out, ← HT.out]
  have HTT : Hid (T.length ≤ 5000) := by
    show _ ≤ _
    rw [HT.out, List.length_append, List.length_append]
    have h1 := HTL.out
    have h2 := lebs_len [im]
    have h3 := putIs_len pi fun q hq => (HI.out q hq).2.2
    rw [HIM.out] at h3
    simp at h2
    omega
  have HK0 : Hid (Bk (w.alloc (.cells #[.int .i64 pk, .int .i64 pp, .int .i64 ps, .int .i64 pn, .int .i64 pf, .int .i64 pt, .slice sa sn sc, .slice ia im ic] 37)) w.heap.size #[.int .i64 pk, .int .i64 pp, .int .i64 ps, .int .i64 pn, .int .i64 pf, .int .i64 pt, .slice sa sn sc, .slice ia im ic] 37) := Bk.new _ _ _
  have HB0 : Hid (Below w.heap.size w (w.alloc (.cells #[.int .i64 pk, .int .i64 pp, .int .i64 ps, .int .i64 pn, .int .i64 pf, .int .i64 pt, .slice sa sn sc, .slice ia im ic] 37))) := below_new _ _
  go_enter Tryd.func38, Tryd.ntmps38
  go_wp2_with fail
  have hpr := HP.out _ (HB0.out.mono HBS.out)
  refine (span_Put sa sn sc pl _ hpr.spans (Nat.le_trans hpr.sl hpr.sm)).mono ?_
  clear hpr
  rintro e w1 ⟨⟨b1, m1, c1, rfl, ho1⟩, hb1⟩
  have hm1 : m1 ≤ 700 := by have h1 := ho1.out.size; have h2 := HTL.out; omega
  have HB1 : Hid (Below w.heap.size w w1) := HB0.out.trans (hb1.mono HB0.out.size)
  have HK1 : Hid (Bk w1 w.heap.size #[.int .i64 pk, .int .i64 pp, .int .i64 ps, .int .i64 pn, .int .i64 pf, .int .i64 pt, .slice sa sn sc, .slice ia im ic] 37) := HK0.out.stay hb1
  have HO1 : Hid (Own w1 base a len cap xs) := HO.out.below HB1.out
  have HT1 : Hid (Rd w1 b1 m1 (putT pl) ∧ (b1 = none → c1 = 0)) := ⟨ho1.out.rd, ho1.out.nil_cap'⟩
  have HS1 : Hid (base ≤ w1.heap.size) := Nat.le_trans HBS.out HB1.out.size
  clear ho1 hb1 HK0 HB0
  go_wp2
  have s1 : w1.cell? ⟨w.heap.size, 7, none⟩ = some (.slice ia im ic) := HK1.out.cell 7 rfl
  have HSK : Hid (∀ w', Kb base w1 w' → w'.cell? ⟨w.heap.size, 7, none⟩ = some (.slice ia im ic)) := fun w' hk => (HK1.out.kept hk (by decide)).cell 7 rfl
  have HKN : Hid (Kb base w1 w1.drew) := Kb.of (Below.refl _ _).drew HS1.out
  go_region_held3 (fun w' => w'.cell? ⟨w.heap.size, 7, none⟩ = some (.slice ia im ic)) (first | exact HSK.out _ HKN.out | exact HSK.out _ (Kb.refl _ _) | exact HSK.out _ (HKN.out.trans (Kb.of (below_new _ _) (Nat.le_trans HS1.out HKN.out.below.size))) | exact HSK.out _ (HKN.out.trans (Kb.of (below_new _ _).drew (Nat.le_trans HS1.out HKN.out.below.size))) | fail)
    (first
      | (refine step_append_rd (by rfl) (.tmp 15) (.tmp 16) (by rfl) base a len cap xs (by rfl) (by first | with_reducible exact HO1.out | with_reducible exact HO1.out.drew | with_reducible exact HO1.out.below (below_new _ _) | with_reducible exact (HO1.out.below (below_new _ _)).drew | (trace_state; fail)) b1 m1 c1 (putT pl) (by rfl) (by first | with_reducible exact HT1.out.1 | with_reducible exact HT1.out.1.drew | with_reducible exact HT1.out.1.below (below_new _ _) | with_reducible exact (HT1.out.1.below (below_new _ _)).drew) HT1.out.2 (by omega) (by first | exact HS1.out | exact (Nat.le_trans HS1.out (by simp))) (len + m1) rfl (xs ++ putT pl) rfl ?_; intro a5 c5 w5 ho5 hg5 hb5; have HO5 : Hid (Own w5 base a5 (len + m1) c5 (xs ++ putT pl)) := ho5; first
        | (have h5t : Below base w1.drew w5 := (by with_reducible exact hb5); clear h5t; have hkv : Kb base w1 w5 := (HKN.out.trans (Kb.grown HO1.out.drew hb5 hg5)); have HKV : Hid (Kb base w1 w5) := hkv; have HS5 : Hid (base ≤ w5.heap.size) := Nat.le_trans HS1.out HKV.out.below.size; clear HKN; have HKN := HKV; clear ho5 hg5 hb5 hkv)
        | (have hkg : Kb base (w1.alloc (.cells #[.int .i64 (im : Int)] 3)).drew w5 := Kb.grown (Own.drew (HO1.out.below (below_new w1 (.cells #[.int .i64 (im : Int)] 3)))) hb5 hg5; have hkv : Kb base w1 w5 := (Kb.of (below_drew (below_new w1 (.cells #[.int .i64 (im : Int)] 3))) HS1.out).trans hkg; have HKV : Hid (Kb base w1 w5) := hkv; have HS5 : Hid (base ≤ w5.heap.size) := Nat.le_trans HS1.out HKV.out.below.size; have HG5 : Hid (Bk w5 w1.heap.size #[.int .i64 (im : Int)] 3) := Bk.kept (show Bk (w1.alloc (.cells #[.int .i64 (im : Int)] 3)).drew w1.heap.size #[.int .i64 (im : Int)] 3 from Bk.new w1 #[.int .i64 (im : Int)] 3) hkg (by decide); clear HKN; have HKN := HKV; clear ho5 hg5 hb5 hkv hkg)
        | (trace_state; fail))
      | (go_at_call 37; first
        | (have HG6 := HG5; refine (pc_putNumbers base a5 (len + m1) c5 (xs ++ putT pl) w1.heap.size [im] _ (by with_reducible exact HO5.out) HS5.out (by omega) HG5.out (by simp; omega) (by simp)).mono ?_; rintro e w7 ⟨⟨a7, c7, he7, ho7⟩, hk7⟩; obtain ⟨l7, hl7⟩ : ∃ l, l = len + m1 + (lebs [im]).length := ⟨_, rfl⟩; have HL7 : Hid (l7 = len + m1 + (lebs [im]).length) := hl7; rw [← hl7] at ho7 he7; clear hl7; subst he7; have HKW : Hid (Kb base w1 w7) := HKV.out.trans hk7; clear HKN; have HKN := HKW; clear hk7 HG5 HG6)
        | (refine (pc_putNumbers base a5 (len + m1) c5 (xs ++ putT pl) w5.heap.size [im] _ (by with_reducible exact HO5.out.below (below_new _ _)) (by have := HS5.out; simp; omega) (by omega) (by exact Bk.new w5 (nvs [im]) 3) (by simp; omega) (by simp)).mono ?_; rintro e w7 ⟨⟨a7, c7, he7, ho7⟩, hk7⟩; obtain ⟨l7, hl7⟩ : ∃ l, l = len + m1 + (lebs [im]).length := ⟨_, rfl⟩; have HL7 : Hid (l7 = len + m1 + (lebs [im]).length) := hl7; rw [← hl7] at ho7 he7; clear hl7; subst he7; have HKW : Hid (Kb base w1 w7) := (HKV.out.trans ((Kb.of (below_new _ _) HS5.out).trans hk7)); clear HKN; have HKN := HKW; clear hk7)))
  all_goals (
    have ho7' := ho7.out
    have h7l : l7 ≤ 1710 := by have := lebs_len [im]; have h2 := HL7.out; simp at this; omega
    have HO7 : Hid (Own w7 base a7 l7 c7 (xs ++ (putT pl ++ lebs [im]))) := by show Own _ _ _ _ _ _; rw [← List.append_assoc]; exact ho7'
    have HK7 : Hid (Bk w7 w.heap.size #[.int .i64 pk, .int .i64 pp, .int .i64 ps, .int .i64 pn, .int .i64 pf, .int .i64 pt, .slice sa sn sc, .slice ia im ic] 37) := HK1.out.kept HKW.out (by decide)
    have HB7 : Hid (Below base w w7) := (HB1.out.mono HBS.out).trans HKW.out.below
    clear ho7 ho7' HL7 HKN HKW HKV HO5 HS5 HO1 HT1 HS1 HB1 HK1 s1 HSK
    have d7 : w7.cell? ⟨w.heap.size, 7, none⟩ = some (.slice ia im ic) := HK7.out.cell 7 rfl
    go_wp2
    clear d7
    go_loopw [0, 26] (fun t0 t26 wr => ∃ (k : Nat) (ax : Option Addr) (x cx : Nat) (X : List Nat), k ≤ im ∧ t26 = .int .i64 (k : Int) ∧ t0 = .slice ax x cx ∧ Hid (Own wr base ax x cx (xs ++ X)) ∧ Hid (X ++ putIs (pi.drop k) = T) ∧ Hid (Below base w wr)) (fun _ t26 _ => im - (intOf t26).toNat)
    case atStart => exact ⟨0, a7, l7, c7, _, by omega, rfl, rfl, HO7, by show _ = _; rw [HT.out, List.append_assoc]; rfl, HB7⟩
    case round =>
      obtain ⟨k, ax, x, cx, X, hk, rfl, rfl, HOX, HE, HBr⟩ := hrel
      clear HO7 HB7 HK7
      have HXL : Hid (x ≤ 6000) := by
        have h1 := HTT.out
        rw [← HE.out, List.length_append] at h1
        have h2 := HOX.out.size
        have h3 := HO.out.size
        rw [List.length_append] at h2
        show _ ≤ _
        omega
      have hx6 : x ≤ 6000 := HXL.out
      have HSr : Hid (base ≤ wr.heap.size) := Nat.le_trans HBS.out HBr.out.size
      by_cases hlt : k < im
      · have hlt' : (k : Int) < (im : Int) := by omega
        obtain ⟨g, o, rfl, q, ba, bl, bc, hq, hnc, hbl, hbc, hqb, hall⟩ := HPI.out.items.far k hlt
        have HD : Hid (pi.drop k = q :: pi.drop (k + 1)) := it_at hq
        have hq4 := HI.out q (List.mem_of_getElem? hq)
        have hq5 := (HPI.out.items.each q (List.mem_of_getElem? hq)).2
        obtain ⟨c0, c1, c2, hrd⟩ := hall wr (HW0.out wr HBr.out)
        have HRDW : Hid (∀ w', Below base w w' → Rd w' ba bl q.body) := fun w' hb => (hall w' (HW0.out w' hb)).2.2.2
        obtain ⟨qt, qf, qb⟩ := q
        simp only at c0 c1 c2 hq4 hq5 hqb hrd HRDW
        obtain ⟨tn, rfl⟩ := Int.eq_ofNat_of_zero_le hq4.1
        obtain ⟨fn, rfl⟩ := Int.eq_ofNat_of_zero_le hq5.1
        have ht5 : tn ≤ 1099511627776 := by omega
        have hf5 : fn ≤ 4294967295 := by omega
        have hb4 : bl ≤ 400 := by omega
        have HRD : Hid (Rd wr ba bl qb ∧ (ba = none → bc = 0)) := ⟨hrd, hnc⟩
        have HQB : Hid (qb.length = bl) := hqb
        clear hq hrd hnc hbl hbc hq4 hq5 hqb hall
        have HN1 : Hid (Bk (wr.alloc (.cells #[.int .i64 (tn : Int), .int .u32 (fn : Int), .slice ba bl bc] 81)) wr.heap.size #[.int .i64 (tn : Int), .int .u32 (fn : Int), .slice ba bl bc] 81) := Bk.new _ _ _
        have HNX : Hid (Bk ((wr.alloc (.cells #[.int .i64 (tn : Int), .int .u32 (fn : Int), .slice ba bl bc] 81)).alloc (.cells (nvs [tn, fn, bl]) 3)) (wr.heap.size + 1) (nvs [tn, fn, bl]) 3) := by
          have h := Bk.new (wr.alloc (.cells #[.int .i64 (tn : Int), .int .u32 (fn : Int), .slice ba bl bc] 81)) (nvs [tn, fn, bl]) 3
          rw [show (wr.alloc (.cells #[.int .i64 (tn : Int), .int .u32 (fn : Int), .slice ba bl bc] 81)).heap.size = wr.heap.size + 1 from by simp] at h
          exact h
        have HBX : Hid (Below wr.heap.size wr ((wr.alloc (.cells #[.int .i64 (tn : Int), .int .u32 (fn : Int), .slice ba bl bc] 81)).alloc (.cells (nvs [tn, fn, bl]) 3))) := (below_new _ _).alloc (by simp) _
        have HN2 : Hid (Bk ((wr.alloc (.cells #[.int .i64 (tn : Int), .int .u32 (fn : Int), .slice ba bl bc] 81)).alloc (.cells (nvs [tn, fn, bl]) 3)) wr.heap.size #[.int .i64 (tn : Int), .int .u32 (fn : Int), .slice ba bl bc] 81) := HN1.out.stay (below_new _ _)
        go_wp2_with fail
        refine (pc_putNumbers base ax x cx (xs ++ X) (wr.heap.size + 1) [tn, fn, bl] _ (HOX.out.below HBX.out) (Nat.le_trans HSr.out HBX.out.size) (by omega) HNX.out (by simp; omega) (by simp)).mono ?_
        rintro e w8 ⟨⟨a8, c8, rfl, ho8⟩, hk8⟩
        have ho8' := ho8.out
        obtain ⟨l8, hl8⟩ : ∃ l, l = x + (lebs [tn, fn, bl]).length := ⟨_, rfl⟩
        have h8l : l8 ≤ 7000 := by have := lebs_len [tn, fn, bl]; simp at this; omega
        rw [← hl8] at ho8' ⊢
        have HO8 : Hid (Own w8 base a8 l8 c8 (xs ++ (X ++ lebs [tn, fn, bl]))) := by show Own _ _ _ _ _ _; rw [← List.append_assoc]; exact ho8'
        have HKb : Kb base wr w8 := (Kb.of HBX.out HSr.out).trans hk8
        have HN8 : Hid (Bk w8 wr.heap.size #[.int .i64 (tn : Int), .int .u32 (fn : Int), .slice ba bl bc] 81) := HN2.out.kept hk8 (by decide)
        have HB8 : Hid (Below base w w8) := HBr.out.trans HKb.below
        have HS8 : Hid (base ≤ w8.heap.size) := Nat.le_trans HBS.out HB8.out.size
        have d2 : w8.cell? ⟨wr.heap.size, 2, none⟩ = some (.slice ba bl bc) := HN8.out.cell 2 rfl
        have HRD8 : Hid (Rd w8 ba bl qb) := HRDW.out w8 HB8.out
        have HNC : Hid (ba = none → bc = 0) := HRD.out.2
        clear ho8 ho8' hl8 hk8 HKb HN8 HN2 HNX HN1 HBX c0 c1 c2
        go_wp2_with (at_builtin; refine wpList_append_rd rfl (.tmp 41) (.tmp 43) rfl base a8 l8 c8 (xs ++ (X ++ lebs [tn, fn, bl])) rfl HO8.out ba bl bc qb rfl HRD8.out HNC.out (by omega) HS8.out ?_)
        intro a9 c9 w9 ho9 hg9 hb9
        have HO9 : Hid (Own w9 base a9 (l8 + bl) c9 (xs ++ ((X ++ lebs [tn, fn, bl]) ++ qb))) := by show Own _ _ _ _ _ _; simpa [List.append_assoc] using ho9
        have HB9 : Hid (Below base w w9) := HB8.out.trans hb9
        have HE9 : Hid (((X ++ lebs [tn, fn, bl]) ++ qb) ++ putIs (pi.drop (k + 1)) = T) := by
          show _ = _
          rw [← HE.out, HD.out, putIs_cons, putI]
          simp only [Int.toNat_natCast, HQB.out, List.append_assoc]
        clear ho9 hg9 hb9 HO8 HB8 HE HOX d2
        go_wp2
        go_roundw
        case rel => exact ⟨k + 1, a9, l8 + bl, c9, _, by omega, by go_num, rfl, HO9, HE9, HB9⟩
        case measure => simp [intOf]; omega
      · have hnl' : ¬ (k : Int) < (im : Int) := by omega
        have HX : Hid (X = T) := by
          show _ = _
          rw [← HE.out, List.drop_of_length_le (by rw [HIM.out]; omega)]
          simp [putIs]
        clear HE
        go_wp2
        go_ret
        refine ⟨⟨ax, x, cx, rfl, ?_⟩, HBr.out⟩
        show Own _ _ _ _ _ _
        rw [← HX.out]
        exact HOX.out)
end Go.Proofs.YtoijhlnadaipoaaDoor
