/- A pack of texts: Pp3 Pp4. -/
import Derived.Test.YtbloomepdchjhaaDoorPp2
import Derived.Test.YtbloomepdchjhaaDoorSealP
import Derived.Deep.RegionHeld3
/- parcel.putNews. -/
namespace Go.Proofs.YtbloomepdchjhaaDoor
open Go.RowKit

theorem putT_len {l : List Sp} (h : l.length ≤ 32) : (putT l).length ≤ 700 := by
  unfold putT
  split
  · split
    · simp
    · rw [List.length_append]
      have h1 := Leb.leb_length l.length
      have h2 := putS_len l 0
      omega
  · simp
theorem putI_len {q : It} (h : q.body.length ≤ 400) : (putI q).length ≤ 430 := by
  unfold putI
  rw [List.length_append]
  have := lebs_len [q.tick.toNat, q.for_.toNat, q.body.length]
  simp at this
  omega
theorem putIs_len : ∀ (l : List It), (∀ q ∈ l, q.body.length ≤ 400) → (putIs l).length ≤ 430 * l.length
  | [], _ => by simp [putIs]
  | q :: l, h => by
    rw [putIs, List.flatMap_cons, List.length_append, List.length_cons]
    have h1 := putI_len (h q (by simp))
    have h2 := putIs_len l fun x hx => h x (by simp [hx])
    rw [putIs] at h2
    omega
theorem putIs_cons (q : It) (l : List It) : putIs (q :: l) = putI q ++ putIs l := rfl

/-- An item, as it is read in all worlds that hold what was there. -/
theorem ItsRd.far {w : World} {a : Option Addr} {n : Nat} {l : List It} (h : ItsRd w a n l) (i : Nat) (hi : i < n) : ∃ g o, a = some ⟨g, o, none⟩ ∧ ∃ q ba bl bc, l[i]? = some q ∧ (ba = none → bc = 0) ∧ bl ≤ bc ∧ bc ≤ 9223372036854775807 ∧ q.body.length = bl ∧ ∀ w', Below w.heap.size w w' → w'.cell? ⟨g, o + i * 3, none⟩ = some (.int .i64 q.tick) ∧ w'.cell? ⟨g, o + i * 3 + 1, none⟩ = some (.int .u32 q.for_) ∧ w'.cell? ⟨g, o + i * 3 + 2, none⟩ = some (.slice ba bl bc) ∧ Rd w' ba bl q.body := by
  obtain ⟨g, o, ha, hg, q, hq, c0, c1, ba, bl, bc, c2, hrd, hnc, hbl, hbc⟩ := h.at_ i hi
  refine ⟨g, o, ha, q, ba, bl, bc, hq, hnc, hbl, hbc, hrd.size, fun w' hb => ?_⟩
  rw [hb.cell (p := ⟨g, o + i * 3, none⟩) hg, hb.cell (p := ⟨g, o + i * 3 + 1, none⟩) hg, hb.cell (p := ⟨g, o + i * 3 + 2, none⟩) hg]
  exact ⟨c0, c1, c2, hrd.below hb⟩

set_option maxRecDepth 100000 in
set_option maxHeartbeats 4000000 in
theorem pc_putNews (base : Nat) (a : Option Addr) (len cap : Nat) (xs : List Nat) (p : Pc) (sa : Option Addr) (sn sc : Nat) (ia : Option Addr) (im ic : Nat) (w : World) (ho : Own w base a len cap xs) (hB : base ≤ w.heap.size) (hl : len ≤ 1000) (w0 : World) (hw0 : Below w0.heap.size w0 w) (hwb : w0.heap.size ≤ base) (hp : PcRd w0 p sa sn sc ia im ic) (hs : sn ≤ 32) (hm : im ≤ 8) (hi : ∀ q ∈ p.items, 0 ≤ q.tick ∧ q.tick ≤ 1099511627776 ∧ q.body.length ≤ 400) :
    Calls Tryd.prog 32 #[.slice a len cap, p.val sa sn sc ia im ic] w fun e w' => (∃ a' m' c', e = .returned (.slice a' m' c') ∧ Hid (Own w' base a' m' c' (xs ++ (putT p.spans ++ (lebs [p.items.length] ++ putIs p.items))))) ∧ Below base w w' := by
  have HO : Hid (Own w base a len cap xs) := ho
  have HBS : Hid (base ≤ w.heap.size) := hB
  have HPI : Hid (PcRd w0 p sa sn sc ia im ic) := hp
  have HP : Hid (∀ w', Below base w w' → PcRd w' p sa sn sc ia im ic) := fun w' hb => hp.below (hw0.trans (hb.mono hwb))
  have HW0 : Hid (∀ w', Below base w w' → Below w0.heap.size w0 w') := fun w' hb => hw0.trans (hb.mono hwb)
  have HI : Hid (∀ q ∈ p.items, 0 ≤ q.tick ∧ q.tick ≤ 1099511627776 ∧ q.body.length ≤ 400) := hi
  have hpr := hp
  have HTL : Hid ((putT p.spans).length ≤ 700) := putT_len (by rw [hpr.spans.size]; exact hs)
  have HIM : Hid (p.items.length = im) := hpr.items.size
  clear ho hB hp hi hpr hw0 hwb
  obtain ⟨pk, pp, ps, pn, pf, pt, pl, pi⟩ := p
  unfold Pc.val
  simp only at HP HI HTL HIM HPI ⊢
  obtain ⟨T, HT⟩ : ∃ T, Hid (T = putT pl ++ (lebs [im] ++ putIs pi)) := ⟨_, rfl⟩
  rw [HIM.out, ← HT.out]
  have HTT : Hid (T.length ≤ 5000) := by
    show _ ≤ _
    rw [HT.out, List.length_append, List.length_append]
    have h1 := HTL.out
    have h2 := lebs_len [im]
    have h3 := putIs_len pi fun q hq => (HI.out q hq).2.2
    rw [HIM.out] at h3
    simp at h2
    omega
  have HK0 : Hid (Bk (w.alloc (.cells #[.int .i64 pk, .int .i64 pp, .int .i64 ps, .int .i64 pn, .int .i64 pf, .int .i64 pt, .slice sa sn sc, .slice ia im ic] 37)) w.heap.size #[.int .i64 pk, .int .i64 pp, .int .i64 ps, .int .i64 pn, .int .i64 pf, .int .i64 pt, .slice sa sn sc, .slice ia im ic] 37) := Bk.new _ _ _
  have HB0 : Hid (Below w.heap.size w (w.alloc (.cells #[.int .i64 pk, .int .i64 pp, .int .i64 ps, .int .i64 pn, .int .i64 pf, .int .i64 pt, .slice sa sn sc, .slice ia im ic] 37))) := below_new _ _
  go_enter Tryd.func32, Tryd.ntmps32
  go_wp2_with fail
  have hpr := HP.out _ (HB0.out.mono HBS.out)
  refine (span_Put sa sn sc pl _ hpr.spans (Nat.le_trans hpr.sl hpr.sm)).mono ?_
  clear hpr
  rintro e w1 ⟨⟨b1, m1, c1, rfl, ho1⟩, hb1⟩
  have hm1 : m1 ≤ 700 := by have h1 := ho1.out.size; have h2 := HTL.out; omega
  have HB1 : Hid (Below w.heap.size w w1) := HB0.out.trans (hb1.mono HB0.out.size)
  have HK1 : Hid (Bk w1 w.heap.size #[.int .i64 pk, .int .i64 pp, .int .i64 ps, .int .i64 pn, .int .i64 pf, .int .i64 pt, .slice sa sn sc, .slice ia im ic] 37) := HK0.out.stay hb1
  have HO1 : Hid (Own w1 base a len cap xs) := HO.out.below HB1.out
  have HT1 : Hid (Rd w1 b1 m1 (putT pl) ∧ (b1 = none → c1 = 0)) := ⟨ho1.out.rd, ho1.out.nil_cap'⟩
  have HS1 : Hid (base ≤ w1.heap.size) := Nat.le_trans HBS.out HB1.out.size
  clear ho1 hb1 HK0 HB0
  go_wp2
  have s1 : w1.cell? ⟨w.heap.size, 7, none⟩ = some (.slice ia im ic) := HK1.out.cell 7 rfl
  have HSK : Hid (∀ w', Kb base w1 w' → w'.cell? ⟨w.heap.size, 7, none⟩ = some (.slice ia im ic)) := fun w' hk => (HK1.out.kept hk (by decide)).cell 7 rfl
  have HKN : Hid (Kb base w1 w1.drew) := Kb.of (Below.refl _ _).drew HS1.out
  go_region_held3 (fun w' => w'.cell? ⟨w.heap.size, 7, none⟩ = some (.slice ia im ic)) (first | exact HSK.out _ HKN.out | exact HSK.out _ (Kb.refl _ _) | exact HSK.out _ (HKN.out.trans (Kb.of (below_new _ _) (Nat.le_trans HS1.out HKN.out.below.size))) | exact HSK.out _ (HKN.out.trans (Kb.of (below_new _ _).drew (Nat.le_trans HS1.out HKN.out.below.size))) | fail)
    (first
      | (refine step_append_rd (by rfl) (.tmp 15) (.tmp 16) (by rfl) base a len cap xs (by rfl) (by first | with_reducible exact HO1.out | with_reducible exact HO1.out.drew | with_reducible exact HO1.out.below (below_new _ _) | with_reducible exact (HO1.out.below (below_new _ _)).drew | (trace_state; fail)) b1 m1 c1 (putT pl) (by rfl) (by first | with_reducible exact HT1.out.1 | with_reducible exact HT1.out.1.drew | with_reducible exact HT1.out.1.below (below_new _ _) | with_reducible exact (HT1.out.1.below (below_new _ _)).drew) HT1.out.2 (by omega) (by first | exact HS1.out | exact (Nat.le_trans HS1.out (by simp))) (len + m1) rfl (xs ++ putT pl) rfl ?_; intro a5 c5 w5 ho5 hg5 hb5; have HO5 : Hid (Own w5 base a5 (len + m1) c5 (xs ++ putT pl)) := ho5; first
        | (have h5t : Below base w1.drew w5 := (by with_reducible exact hb5); clear h5t; have hkv : Kb base w1 w5 := (HKN.out.trans (Kb.grown HO1.out.drew hb5 hg5)); have HKV : Hid (Kb base w1 w5) := hkv; have HS5 : Hid (base ≤ w5.heap.size) := Nat.le_trans HS1.out HKV.out.below.size; clear HKN; have HKN := HKV; clear ho5 hg5 hb5 hkv)
        | (have hkg : Kb base (w1.alloc (.cells #[.int .i64 (im : Int)] 3)).drew w5 := Kb.grown (Own.drew (HO1.out.below (below_new w1 (.cells #[.int .i64 (im : Int)] 3)))) hb5 hg5; have hkv : Kb base w1 w5 := (Kb.of (below_drew (below_new w1 (.cells #[.int .i64 (im : Int)] 3))) HS1.out).trans hkg; have HKV : Hid (Kb base w1 w5) := hkv; have HS5 : Hid (base ≤ w5.heap.size) := Nat.le_trans HS1.out HKV.out.below.size; have HG5 : Hid (Bk w5 w1.heap.size #[.int .i64 (im : Int)] 3) := Bk.kept (show Bk (w1.alloc (.cells #[.int .i64 (im : Int)] 3)).drew w1.heap.size #[.int .i64 (im : Int)] 3 from Bk.new w1 #[.int .i64 (im : Int)] 3) hkg (by decide); clear HKN; have HKN := HKV; clear ho5 hg5 hb5 hkv hkg)
        | (trace_state; fail))
      | (go_at_call 31; first
        | (have HG6 := HG5; refine (pc_putNumbers base a5 (len + m1) c5 (xs ++ putT pl) w1.heap.size [im] _ (by with_reducible exact HO5.out) HS5.out (by omega) HG5.out (by simp; omega) (by simp)).mono ?_; rintro e w7 ⟨⟨a7, c7, he7, ho7⟩, hk7⟩; obtain ⟨l7, hl7⟩ : ∃ l, l = len + m1 + (lebs [im]).length := ⟨_, rfl⟩; have HL7 : Hid (l7 = len + m1 + (lebs [im]).length) := hl7; rw [← hl7] at ho7 he7; clear hl7; subst he7; have HKW : Hid (Kb base w1 w7) := HKV.out.trans hk7; clear HKN; have HKN := HKW; clear hk7 HG5 HG6)
        | (refine (pc_putNumbers base a5 (len + m1) c5 (xs ++ putT pl) w5.heap.size [im] _ (by with_reducible exact HO5.out.below (below_new _ _)) (by have := HS5.out; simp; omega) (by omega) (by exact Bk.new w5 (nvs [im]) 3) (by simp; omega) (by simp)).mono ?_; rintro e w7 ⟨⟨a7, c7, he7, ho7⟩, hk7⟩; obtain ⟨l7, hl7⟩ : ∃ l, l = len + m1 + (lebs [im]).length := ⟨_, rfl⟩; have HL7 : Hid (l7 = len + m1 + (lebs [im]).length) := hl7; rw [← hl7] at ho7 he7; clear hl7; subst he7; have HKW : Hid (Kb base w1 w7) := (HKV.out.trans ((Kb.of (below_new _ _) HS5.out).trans hk7)); clear HKN; have HKN := HKW; clear hk7)))
  all_goals (
    have ho7' := ho7.out
    have h7l : l7 ≤ 1710 := by have := lebs_len [im]; have h2 := HL7.out; simp at this; omega
    have HO7 : Hid (Own w7 base a7 l7 c7 (xs ++ (putT pl ++ lebs [im]))) := by show Own _ _ _ _ _ _; rw [← List.append_assoc]; exact ho7'
    have HK7 : Hid (Bk w7 w.heap.size #[.int .i64 pk, .int .i64 pp, .int .i64 ps, .int .i64 pn, .int .i64 pf, .int .i64 pt, .slice sa sn sc, .slice ia im ic] 37) := HK1.out.kept HKW.out (by decide)
    have HB7 : Hid (Below base w w7) := (HB1.out.mono HBS.out).trans HKW.out.below
    clear ho7 ho7' HL7 HKN HKW HKV HO5 HS5 HO1 HT1 HS1 HB1 HK1 s1 HSK
    have d7 : w7.cell? ⟨w.heap.size, 7, none⟩ = some (.slice ia im ic) := HK7.out.cell 7 rfl
    go_wp2
    clear d7
    go_loopw [0, 26] (fun t0 t26 wr => ∃ (k : Nat) (ax : Option Addr) (x cx : Nat) (X : List Nat), k ≤ im ∧ t26 = .int .i64 (k : Int) ∧ t0 = .slice ax x cx ∧ Hid (Own wr base ax x cx (xs ++ X)) ∧ Hid (X ++ putIs (pi.drop k) = T) ∧ Hid (Below base w wr)) (fun _ t26 _ => im - (intOf t26).toNat)
    case atStart => exact ⟨0, a7, l7, c7, _, by omega, rfl, rfl, HO7, by show _ = _; rw [HT.out, List.append_assoc]; rfl, HB7⟩
    case round =>
      obtain ⟨k, ax, x, cx, X, hk, rfl, rfl, HOX, HE, HBr⟩ := hrel
      clear HO7 HB7 HK7
      have HXL : Hid (x ≤ 6000) := by
        have h1 := HTT.out
        rw [← HE.out, List.length_append] at h1
        have h2 := HOX.out.size
        have h3 := HO.out.size
        rw [List.length_append] at h2
        show _ ≤ _
        omega
      have hx6 : x ≤ 6000 := HXL.out
      have HSr : Hid (base ≤ wr.heap.size) := Nat.le_trans HBS.out HBr.out.size
      by_cases hlt : k < im
      · have hlt' : (k : Int) < (im : Int) := by omega
        obtain ⟨g, o, rfl, q, ba, bl, bc, hq, hnc, hbl, hbc, hqb, hall⟩ := HPI.out.items.far k hlt
        have HD : Hid (pi.drop k = q :: pi.drop (k + 1)) := it_at hq
        have hq4 := HI.out q (List.mem_of_getElem? hq)
        have hq5 := (HPI.out.items.each q (List.mem_of_getElem? hq)).2
        obtain ⟨c0, c1, c2, hrd⟩ := hall wr (HW0.out wr HBr.out)
        have HRDW : Hid (∀ w', Below base w w' → Rd w' ba bl q.body) := fun w' hb => (hall w' (HW0.out w' hb)).2.2.2
        obtain ⟨qt, qf, qb⟩ := q
        simp only at c0 c1 c2 hq4 hq5 hqb hrd HRDW
        obtain ⟨tn, rfl⟩ := Int.eq_ofNat_of_zero_le hq4.1
        obtain ⟨fn, rfl⟩ := Int.eq_ofNat_of_zero_le hq5.1
        have ht5 : tn ≤ 1099511627776 := by omega
        have hf5 : fn ≤ 4294967295 := by omega
        have hb4 : bl ≤ 400 := by omega
        have HRD : Hid (Rd wr ba bl qb ∧ (ba = none → bc = 0)) := ⟨hrd, hnc⟩
        have HQB : Hid (qb.length = bl) := hqb
        clear hq hrd hnc hbl hbc hq4 hq5 hqb hall
        have HN1 : Hid (Bk (wr.alloc (.cells #[.int .i64 (tn : Int), .int .u32 (fn : Int), .slice ba bl bc] 74)) wr.heap.size #[.int .i64 (tn : Int), .int .u32 (fn : Int), .slice ba bl bc] 74) := Bk.new _ _ _
        have HNX : Hid (Bk ((wr.alloc (.cells #[.int .i64 (tn : Int), .int .u32 (fn : Int), .slice ba bl bc] 74)).alloc (.cells (nvs [tn, fn, bl]) 3)) (wr.heap.size + 1) (nvs [tn, fn, bl]) 3) := by
          have h := Bk.new (wr.alloc (.cells #[.int .i64 (tn : Int), .int .u32 (fn : Int), .slice ba bl bc] 74)) (nvs [tn, fn, bl]) 3
          rw [show (wr.alloc (.cells #[.int .i64 (tn : Int), .int .u32 (fn : Int), .slice ba bl bc] 74)).heap.size = wr.heap.size + 1 from by simp] at h
          exact h
        have HBX : Hid (Below wr.heap.size wr ((wr.alloc (.cells #[.int .i64 (tn : Int), .int .u32 (fn : Int), .slice ba bl bc] 74)).alloc (.cells (nvs [tn, fn, bl]) 3))) := (below_new _ _).alloc (by simp) _
        have HN2 : Hid (Bk ((wr.alloc (.cells #[.int .i64 (tn : Int), .int .u32 (fn : Int), .slice ba bl bc] 74)).alloc (.cells (nvs [tn, fn, bl]) 3)) wr.heap.size #[.int .i64 (tn : Int), .int .u32 (fn : Int), .slice ba bl bc] 74) := HN1.out.stay (below_new _ _)
        go_wp2_with fail
        refine (pc_putNumbers base ax x cx (xs ++ X) (wr.heap.size + 1) [tn, fn, bl] _ (HOX.out.below HBX.out) (Nat.le_trans HSr.out HBX.out.size) (by omega) HNX.out (by simp; omega) (by simp)).mono ?_
        rintro e w8 ⟨⟨a8, c8, rfl, ho8⟩, hk8⟩
        have ho8' := ho8.out
        obtain ⟨l8, hl8⟩ : ∃ l, l = x + (lebs [tn, fn, bl]).length := ⟨_, rfl⟩
        have h8l : l8 ≤ 7000 := by have := lebs_len [tn, fn, bl]; simp at this; omega
        rw [← hl8] at ho8' ⊢
        have HO8 : Hid (Own w8 base a8 l8 c8 (xs ++ (X ++ lebs [tn, fn, bl]))) := by show Own _ _ _ _ _ _; rw [← List.append_assoc]; exact ho8'
        have HKb : Kb base wr w8 := (Kb.of HBX.out HSr.out).trans hk8
        have HN8 : Hid (Bk w8 wr.heap.size #[.int .i64 (tn : Int), .int .u32 (fn : Int), .slice ba bl bc] 74) := HN2.out.kept hk8 (by decide)
        have HB8 : Hid (Below base w w8) := HBr.out.trans HKb.below
        have HS8 : Hid (base ≤ w8.heap.size) := Nat.le_trans HBS.out HB8.out.size
        have d2 : w8.cell? ⟨wr.heap.size, 2, none⟩ = some (.slice ba bl bc) := HN8.out.cell 2 rfl
        have HRD8 : Hid (Rd w8 ba bl qb) := HRDW.out w8 HB8.out
        have HNC : Hid (ba = none → bc = 0) := HRD.out.2
        clear ho8 ho8' hl8 hk8 HKb HN8 HN2 HNX HN1 HBX c0 c1 c2
        go_wp2_with (at_builtin; refine wpList_append_rd rfl (.tmp 41) (.tmp 43) rfl base a8 l8 c8 (xs ++ (X ++ lebs [tn, fn, bl])) rfl HO8.out ba bl bc qb rfl HRD8.out HNC.out (by omega) HS8.out ?_)
        intro a9 c9 w9 ho9 hg9 hb9
        have HO9 : Hid (Own w9 base a9 (l8 + bl) c9 (xs ++ ((X ++ lebs [tn, fn, bl]) ++ qb))) := by show Own _ _ _ _ _ _; simpa [List.append_assoc] using ho9
        have HB9 : Hid (Below base w w9) := HB8.out.trans hb9
        have HE9 : Hid (((X ++ lebs [tn, fn, bl]) ++ qb) ++ putIs (pi.drop (k + 1)) = T) := by
          show _ = _
          rw [← HE.out, HD.out, putIs_cons, putI]
          simp only [Int.toNat_natCast, HQB.out, List.append_assoc]
        clear ho9 hg9 hb9 HO8 HB8 HE HOX d2
        go_wp2
        go_roundw
        case rel => exact ⟨k + 1, a9, l8 + bl, c9, _, by omega, by go_num, rfl, HO9, HE9, HB9⟩
        case measure => simp [intOf]; omega
      · have hnl' : ¬ (k : Int) < (im : Int) := by omega
        have HX : Hid (X = T) := by
          show _ = _
          rw [← HE.out, List.drop_of_length_le (by rw [HIM.out]; omega)]
          simp [putIs]
        clear HE
        go_wp2
        go_ret
        refine ⟨⟨ax, x, cx, rfl, ?_⟩, HBr.out⟩
        show Own _ _ _ _ _ _
        rw [← HX.out]
        exact HOX.out)
end Go.Proofs.YtbloomepdchjhaaDoor
/- parcel.Put of a Tell; of any parcel. -/
namespace Go.Proofs.YtbloomepdchjhaaDoor
open Go.RowKit

theorem itE_zero {p : Pc} : ∀ (l : List It) (least : Int), itE p least l = 0 → ∀ q ∈ l, least ≤ q.tick ∧ q.tick ≤ p.to_ ∧ q.body.length ≤ 400
  | [], _, _, _, hq => by cases hq
  | q :: l, least, h, x, hx => by
    by_cases h1 : q.tick < least ∨ p.to_ < q.tick ∨ atS p.spans q.tick ≠ 0
    · rw [itE_tick h1] at h; cases h
    · by_cases h2 : 400 < q.body.length
      · rw [itE_long h1 h2] at h; cases h
      · rw [itE_next h1 h2] at h
        rcases List.mem_cons.1 hx with rfl | hx
        · exact ⟨by omega, by omega, by omega⟩
        · have := itE_zero l _ h x hx
          exact ⟨by omega, this.2.1, this.2.2⟩

set_option maxRecDepth 100000 in
set_option maxHeartbeats 4000000 in
theorem pc_Put_1 (pp ps pn pf pt : Int) (pl : List Sp) (pi : List It) (sa : Option Addr) (sn sc : Nat) (ia : Option Addr) (im ic : Nat) (w : World) (hp : PcRd w ⟨1, pp, ps, pn, pf, pt, pl, pi⟩ sa sn sc ia im ic) (hc : chk ⟨1, pp, ps, pn, pf, pt, pl, pi⟩ = 0) : Calls Tryd.prog 16 #[Pc.val ⟨1, pp, ps, pn, pf, pt, pl, pi⟩ sa sn sc ia im ic] w fun e w' => PutTold w' w.heap.size ⟨1, pp, ps, pn, pf, pt, pl, pi⟩ e ∧ Below w.heap.size w w' := by
  have HC0 : Hid (chk ⟨1, pp, ps, pn, pf, pt, pl, pi⟩ = 0) := hc
  obtain ⟨_, hnum, hnews⟩ := chk_zero hc
  have HNW : Hid (newsB 1 = true → ¬ (32 < pl.length ∨ 8 < pi.length) ∧ spB ⟨1, pp, ps, pn, pf, pt, pl, pi⟩ = true ∧ itE ⟨1, pp, ps, pn, pf, pt, pl, pi⟩ pf pi = 0) := hnews
  have hx_pub : 0 ≤ pp ∧ pp < 3 := by
    simp only [numB, pubB, namB, rngB, froB, subB, fromB, toB] at hnum
    simp at hnum
    omega
  obtain ⟨npp, hn_pub⟩ := Int.eq_ofNat_of_zero_le hx_pub.1
  have hl_pub : npp < 3 := by omega
  have hx_fr : 0 ≤ pf ∧ pf < 1099511627777 := by
    simp only [numB, pubB, namB, rngB, froB, subB, fromB, toB] at hnum
    simp at hnum
    omega
  obtain ⟨npf, hn_fr⟩ := Int.eq_ofNat_of_zero_le hx_fr.1
  have hl_fr : npf < 1099511627777 := by omega
  have hx_to_ : 0 ≤ pt ∧ pt < 1099511627777 := by
    simp only [numB, pubB, namB, rngB, froB, subB, fromB, toB] at hnum
    simp at hnum
    omega
  obtain ⟨npt, hn_to_⟩ := Int.eq_ofNat_of_zero_le hx_to_.1
  have hl_to_ : npt < 1099511627777 := by omega
  clear hx_pub hx_fr hx_to_ hnum hnews hc
  subst hn_pub hn_fr hn_to_
  have HPD : Hid (putD ⟨1, (npp : Int), ps, pn, (npf : Int), (npt : Int), pl, pi⟩ = [1] ++ (lebs [npp] ++ lebs [npf] ++ lebs [npt] ++ (putT pl ++ (lebs [pi.length] ++ putIs pi)))) := by
    show _ = _
    rw [putD, if_pos HC0.out]
    simp [putP, subB, fromB, toB, newsB]
  have HP : Hid (PcRd w ⟨1, (npp : Int), ps, pn, (npf : Int), (npt : Int), pl, pi⟩ sa sn sc ia im ic) := hp
  clear hp
  unfold Pc.val
  simp only
  have HBx : Hid (Below w.heap.size w (w.alloc (.cells #[.int .i64 1, .int .i64 (npp : Int), .int .i64 ps, .int .i64 pn, .int .i64 (npf : Int), .int .i64 (npt : Int), .slice sa sn sc, .slice ia im ic] 37))) := below_new _ _
  have HKx : Hid (Bk (w.alloc (.cells #[.int .i64 1, .int .i64 (npp : Int), .int .i64 ps, .int .i64 pn, .int .i64 (npf : Int), .int .i64 (npt : Int), .slice sa sn sc, .slice ia im ic] 37)) w.heap.size #[.int .i64 1, .int .i64 (npp : Int), .int .i64 ps, .int .i64 pn, .int .i64 (npf : Int), .int .i64 (npt : Int), .slice sa sn sc, .slice ia im ic] 37) := Bk.new _ _ _
  have hcs := pc_Check ⟨1, (npp : Int), ps, pn, (npf : Int), (npt : Int), pl, pi⟩ sa sn sc ia im ic _ (HP.out.below HBx.out)
  rw [HC0.out] at hcs
  have HCS : Hid (Calls Tryd.prog 29 #[Pc.val ⟨1, (npp : Int), ps, pn, (npf : Int), (npt : Int), pl, pi⟩ sa sn sc ia im ic] (w.alloc (.cells #[.int .i64 1, .int .i64 (npp : Int), .int .i64 ps, .int .i64 pn, .int .i64 (npf : Int), .int .i64 (npt : Int), .slice sa sn sc, .slice ia im ic] 37)) fun e w' => e = .returned (.int .i64 0) ∧ Below (w.alloc (.cells #[.int .i64 1, .int .i64 (npp : Int), .int .i64 ps, .int .i64 pn, .int .i64 (npf : Int), .int .i64 (npt : Int), .slice sa sn sc, .slice ia im ic] 37)).heap.size (w.alloc (.cells #[.int .i64 1, .int .i64 (npp : Int), .int .i64 ps, .int .i64 pn, .int .i64 (npf : Int), .int .i64 (npt : Int), .slice sa sn sc, .slice ia im ic] 37)) w') := hcs
  clear hcs
  go_enter Tryd.func16, Tryd.ntmps16
  go_wp2_with fail
  refine HCS.out.mono ?_
  rintro e w1 ⟨rfl, hb1⟩
  have HB1 : Hid (Below w.heap.size w w1) := HBx.out.trans (hb1.mono HBx.out.size)
  have HK1 : Hid (Bk w1 w.heap.size #[.int .i64 1, .int .i64 (npp : Int), .int .i64 ps, .int .i64 pn, .int .i64 (npf : Int), .int .i64 (npt : Int), .slice sa sn sc, .slice ia im ic] 37) := HKx.out.stay hb1
  clear hb1 HKx HBx HCS
  have a0 : w1.cell? ⟨w.heap.size, 0, none⟩ = some (.int .i64 1) := HK1.out.cell 0 rfl
  go_wp2_with fail
  refine (pc_usedBy 1 _).mono ?_
  rw [show subB 1 = false from rfl, show fromB 1 = true from rfl, show toB 1 = true from rfl, show newsB 1 = true from rfl, show isB 1 = true from rfl]
  rintro e w2 ⟨rfl, hb2⟩
  have HB2 : Hid (Below w.heap.size w w2) := HB1.out.trans (hb2.mono HB1.out.size)
  have HK2 : Hid (Bk w2 w.heap.size #[.int .i64 1, .int .i64 (npp : Int), .int .i64 ps, .int .i64 pn, .int .i64 (npf : Int), .int .i64 (npt : Int), .slice sa sn sc, .slice ia im ic] 37) := HK1.out.stay hb2
  clear hb2 a0 HK1
  have HBX : Below w2.heap.size w2 (w2.alloc (.cells #[.bool false, .bool true, .bool true, .bool true] 86)) := below_new _ _
  have HBX1 : Below w2.heap.size w2 ((w2.alloc (.cells #[.bool false, .bool true, .bool true, .bool true] 86)).alloc (.cells #[.int .u8 1] 5)) := HBX.alloc (by simp) _
  have HBX2 : Below w2.heap.size w2 (((w2.alloc (.cells #[.bool false, .bool true, .bool true, .bool true] 86)).alloc (.cells #[.int .u8 1] 5)).alloc (.cells #[.int .i64 (npp : Int)] 3)) := HBX1.alloc (by simp; omega) _
  have d0 : (w2.alloc (.cells #[.bool false, .bool true, .bool true, .bool true] 86)).cell? ⟨w.heap.size, 0, none⟩ = some (.int .i64 1) := (HK2.out.stay HBX).cell 0 rfl
  have d1 : ((w2.alloc (.cells #[.bool false, .bool true, .bool true, .bool true] 86)).alloc (.cells #[.int .u8 1] 5)).cell? ⟨w.heap.size, 1, none⟩ = some (.int .i64 (npp : Int)) := (HK2.out.stay HBX1).cell 1 rfl
  have HLT : Hid (w.heap.size < w2.heap.size) := HK2.out.lt
  have HK3 : Hid (Bk (((w2.alloc (.cells #[.bool false, .bool true, .bool true, .bool true] 86)).alloc (.cells #[.int .u8 1] 5)).alloc (.cells #[.int .i64 (npp : Int)] 3)) w.heap.size #[.int .i64 1, .int .i64 (npp : Int), .int .i64 ps, .int .i64 pn, .int .i64 (npf : Int), .int .i64 (npt : Int), .slice sa sn sc, .slice ia im ic] 37) := HK2.out.stay HBX2
  have HU3 : Hid (Bk (((w2.alloc (.cells #[.bool false, .bool true, .bool true, .bool true] 86)).alloc (.cells #[.int .u8 1] 5)).alloc (.cells #[.int .i64 (npp : Int)] 3)) w2.heap.size #[.bool false, .bool true, .bool true, .bool true] 86) := (Bk.new w2 #[.bool false, .bool true, .bool true, .bool true] 86).stay ((below_new (w2.alloc (.cells #[.bool false, .bool true, .bool true, .bool true] 86)) _).trans ((below_new ((w2.alloc (.cells #[.bool false, .bool true, .bool true, .bool true] 86)).alloc (.cells #[.int .u8 1] 5)) _).mono (by simp)))
  have HO3 : Hid (Own (((w2.alloc (.cells #[.bool false, .bool true, .bool true, .bool true] 86)).alloc (.cells #[.int .u8 1] 5)).alloc (.cells #[.int .i64 (npp : Int)] 3)) (w2.heap.size + 1) (some ⟨w2.heap.size + 1, 0, none⟩) 1 1 [1]) := by
    have h := Own.new (w2.alloc (.cells #[.bool false, .bool true, .bool true, .bool true] 86)) (w2.heap.size + 1) #[.int .u8 1] [1] (by simp) rfl (by simp) (by unfold maxLen; simp)
    have h2 := h.below (below_new ((w2.alloc (.cells #[.bool false, .bool true, .bool true, .bool true] 86)).alloc (.cells #[.int .u8 1] 5)) (.cells #[.int .i64 (npp : Int)] 3))
    show Own _ _ _ _ _ _
    simpa using h2
  have HG3 : Hid (Bk (((w2.alloc (.cells #[.bool false, .bool true, .bool true, .bool true] 86)).alloc (.cells #[.int .u8 1] 5)).alloc (.cells #[.int .i64 (npp : Int)] 3)) (w2.heap.size + 2) (nvs [npp]) 3) := by
    have h := Bk.new ((w2.alloc (.cells #[.bool false, .bool true, .bool true, .bool true] 86)).alloc (.cells #[.int .u8 1] 5)) (nvs [npp]) 3
    rw [show ((w2.alloc (.cells #[.bool false, .bool true, .bool true, .bool true] 86)).alloc (.cells #[.int .u8 1] 5)).heap.size = w2.heap.size + 2 from by simp] at h
    exact h
  have HB3 : Hid (Below w.heap.size w (((w2.alloc (.cells #[.bool false, .bool true, .bool true, .bool true] 86)).alloc (.cells #[.int .u8 1] 5)).alloc (.cells #[.int .i64 (npp : Int)] 3))) := HB2.out.trans (HBX2.mono HB2.out.size)
  clear HBX HBX1 HBX2 HK2
  go_wp2_with fail
  refine (pc_putNumbers (w2.heap.size + 1) (some ⟨w2.heap.size + 1, 0, none⟩) 1 1 [1] (w2.heap.size + 2) [npp] _ HO3.out (by simp) (by omega) HG3.out (by simp; omega) (by simp)).mono ?_
  rintro e w4 ⟨⟨a4, c4, rfl, ho4⟩, hk4⟩
  obtain ⟨l4, hl4⟩ : ∃ l, l = 1 + (lebs [npp]).length := ⟨_, rfl⟩
  have h4l : l4 ≤ 1 + 10 := by have := lebs_len [npp]; simp at this; omega
  have ho4' := ho4.out
  rw [← hl4] at ho4' ⊢
  have HO4 : Hid (Own w4 (w2.heap.size + 1) a4 l4 c4 ([1] ++ lebs [npp])) := ho4'
  have HK4 : Hid (Bk w4 w.heap.size #[.int .i64 1, .int .i64 (npp : Int), .int .i64 ps, .int .i64 pn, .int .i64 (npf : Int), .int .i64 (npt : Int), .slice sa sn sc, .slice ia im ic] 37) := HK3.out.kept hk4 (by decide)
  have HU4 : Hid (Bk w4 w2.heap.size #[.bool false, .bool true, .bool true, .bool true] 86) := HU3.out.kept hk4 (by decide)
  have HB4 : Hid (Below w.heap.size w w4) := HB3.out.trans (hk4.below.mono (by have := HLT.out; omega))
  have HS4 : Hid (w2.heap.size + 1 ≤ w4.heap.size) := Nat.le_trans (by simp) hk4.below.size
  clear hl4 ho4 ho4' hk4 d0 d1 HK3 HU3 HO3 HG3 HB3
  have u4_0 : w4.cell? ⟨w2.heap.size, 0, none⟩ = some (.bool false) := HU4.out.cell 0 rfl
  have u4_1 : w4.cell? ⟨w2.heap.size, 1, none⟩ = some (.bool true) := HU4.out.cell 1 rfl
  have d4 : w4.cell? ⟨w.heap.size, 4, none⟩ = some (.int .i64 (npf : Int)) := HK4.out.cell 4 rfl
  have HO5x : Hid (Own (w4.alloc (.cells #[.int .i64 (npf : Int)] 3)) (w2.heap.size + 1) a4 l4 c4 ([1] ++ lebs [npp])) := HO4.out.below (below_new _ _)
  have HG5x : Hid (Bk (w4.alloc (.cells #[.int .i64 (npf : Int)] 3)) w4.heap.size (nvs [npf]) 3) := Bk.new _ _ _
  go_wp2_with fail
  refine (pc_putNumbers (w2.heap.size + 1) a4 l4 c4 ([1] ++ lebs [npp]) w4.heap.size [npf] _ HO5x.out (by have := HS4.out; simp; omega) (by omega) HG5x.out (by simp; omega) (by simp)).mono ?_
  rintro e w5 ⟨⟨a5, c5, rfl, ho5⟩, hk5⟩
  obtain ⟨l5, hl5⟩ : ∃ l, l = l4 + (lebs [npf]).length := ⟨_, rfl⟩
  have h5l : l5 ≤ 21 := by have := lebs_len [npf]; simp at this; omega
  have ho5' := ho5.out
  rw [← hl5] at ho5' ⊢
  have HO5 : Hid (Own w5 (w2.heap.size + 1) a5 l5 c5 ([1] ++ lebs [npp] ++ lebs [npf])) := ho5'
  have HKb5 : Kb (w2.heap.size + 1) w4 w5 := (Kb.of (below_new _ _) HS4.out).trans hk5
  have HK5 : Hid (Bk w5 w.heap.size #[.int .i64 1, .int .i64 (npp : Int), .int .i64 ps, .int .i64 pn, .int .i64 (npf : Int), .int .i64 (npt : Int), .slice sa sn sc, .slice ia im ic] 37) := HK4.out.kept HKb5 (by decide)
  have HU5 : Hid (Bk w5 w2.heap.size #[.bool false, .bool true, .bool true, .bool true] 86) := HU4.out.kept HKb5 (by decide)
  have HB5 : Hid (Below w.heap.size w w5) := HB4.out.trans (HKb5.below.mono (by have := HLT.out; omega))
  have HS5 : Hid (w2.heap.size + 1 ≤ w5.heap.size) := Nat.le_trans HS4.out HKb5.below.size
  clear hl5 ho5 ho5' hk5 HKb5 HO5x HG5x HK4 HU4 HO4 u4_0 u4_1 d4
  have u5_2 : w5.cell? ⟨w2.heap.size, 2, none⟩ = some (.bool true) := HU5.out.cell 2 rfl
  have d5 : w5.cell? ⟨w.heap.size, 5, none⟩ = some (.int .i64 (npt : Int)) := HK5.out.cell 5 rfl
  have HO6x : Hid (Own (w5.alloc (.cells #[.int .i64 (npt : Int)] 3)) (w2.heap.size + 1) a5 l5 c5 ([1] ++ lebs [npp] ++ lebs [npf])) := HO5.out.below (below_new _ _)
  have HG6x : Hid (Bk (w5.alloc (.cells #[.int .i64 (npt : Int)] 3)) w5.heap.size (nvs [npt]) 3) := Bk.new _ _ _
  go_wp2_with fail
  refine (pc_putNumbers (w2.heap.size + 1) a5 l5 c5 ([1] ++ lebs [npp] ++ lebs [npf]) w5.heap.size [npt] _ HO6x.out (by have := HS5.out; simp; omega) (by omega) HG6x.out (by simp; omega) (by simp)).mono ?_
  rintro e w6 ⟨⟨a6, c6, rfl, ho6⟩, hk6⟩
  obtain ⟨l6, hl6⟩ : ∃ l, l = l5 + (lebs [npt]).length := ⟨_, rfl⟩
  have h6l : l6 ≤ 31 := by have := lebs_len [npt]; simp at this; omega
  have ho6' := ho6.out
  rw [← hl6] at ho6' ⊢
  have HO6 : Hid (Own w6 (w2.heap.size + 1) a6 l6 c6 ([1] ++ lebs [npp] ++ lebs [npf] ++ lebs [npt])) := ho6'
  have HKb6 : Kb (w2.heap.size + 1) w5 w6 := (Kb.of (below_new _ _) HS5.out).trans hk6
  have HK6 : Hid (Bk w6 w.heap.size #[.int .i64 1, .int .i64 (npp : Int), .int .i64 ps, .int .i64 pn, .int .i64 (npf : Int), .int .i64 (npt : Int), .slice sa sn sc, .slice ia im ic] 37) := HK5.out.kept HKb6 (by decide)
  have HU6 : Hid (Bk w6 w2.heap.size #[.bool false, .bool true, .bool true, .bool true] 86) := HU5.out.kept HKb6 (by decide)
  have HB6 : Hid (Below w.heap.size w w6) := HB5.out.trans (HKb6.below.mono (by have := HLT.out; omega))
  have HS6 : Hid (w2.heap.size + 1 ≤ w6.heap.size) := Nat.le_trans HS5.out HKb6.below.size
  clear hl6 ho6 ho6' hk6 HKb6 HO6x HG6x HK5 HU5 HO5 u5_2 d5
  have u6_3 : w6.cell? ⟨w2.heap.size, 3, none⟩ = some (.bool true) := HU6.out.cell 3 rfl
  have k0 : w6.cell? ⟨w.heap.size, 0, none⟩ = some (.int .i64 1) := HK6.out.cell 0 rfl
  have k1 : w6.cell? ⟨w.heap.size, 1, none⟩ = some (.int .i64 (npp : Int)) := HK6.out.cell 1 rfl
  have k2 : w6.cell? ⟨w.heap.size, 2, none⟩ = some (.int .i64 ps) := HK6.out.cell 2 rfl
  have k3 : w6.cell? ⟨w.heap.size, 3, none⟩ = some (.int .i64 pn) := HK6.out.cell 3 rfl
  have k4 : w6.cell? ⟨w.heap.size, 4, none⟩ = some (.int .i64 (npf : Int)) := HK6.out.cell 4 rfl
  have k5 : w6.cell? ⟨w.heap.size, 5, none⟩ = some (.int .i64 (npt : Int)) := HK6.out.cell 5 rfl
  have k6 : w6.cell? ⟨w.heap.size, 6, none⟩ = some (.slice sa sn sc) := HK6.out.cell 6 rfl
  have k7 : w6.cell? ⟨w.heap.size, 7, none⟩ = some (.slice ia im ic) := HK6.out.cell 7 rfl
  have HNF : Hid (sn ≤ 32 ∧ im ≤ 8 ∧ ∀ q ∈ pi, 0 ≤ q.tick ∧ q.tick ≤ 1099511627776 ∧ q.body.length ≤ 400) := by
    obtain ⟨h1, h2, h3⟩ := HNW.out rfl
    have e1 : pl.length = sn := HP.out.spans.size
    have e2 : pi.length = im := HP.out.items.size
    refine ⟨by omega, by omega, fun q hq => ?_⟩
    have h4 := itE_zero pi _ h3 q hq
    simp only at h4
    exact ⟨by omega, by omega, h4.2.2⟩
  have hc := pc_putNews (w2.heap.size + 1) a6 l6 c6 ([1] ++ lebs [npp] ++ lebs [npf] ++ lebs [npt]) ⟨1, (npp : Int), ps, pn, (npf : Int), (npt : Int), pl, pi⟩ sa sn sc ia im ic w6 HO6.out HS6.out (by omega) w HB6.out (by have := HLT.out; omega) HP.out HNF.out.1 HNF.out.2.1 HNF.out.2.2
  have HCN : Hid (Calls Tryd.prog 32 #[.slice a6 l6 c6, Pc.val ⟨1, (npp : Int), ps, pn, (npf : Int), (npt : Int), pl, pi⟩ sa sn sc ia im ic] w6 fun e w' => (∃ a' m' c', e = .returned (.slice a' m' c') ∧ Hid (Own w' (w2.heap.size + 1) a' m' c' (([1] ++ lebs [npp] ++ lebs [npf] ++ lebs [npt]) ++ (putT pl ++ (lebs [pi.length] ++ putIs pi))))) ∧ Below (w2.heap.size + 1) w6 w') := hc
  clear hc
  go_wp2_with fail
  refine HCN.out.mono ?_
  rintro e w9 ⟨⟨a9, m9, c9, rfl, ho9⟩, hb9⟩
  have HO9 : Hid (Own w9 (w2.heap.size + 1) a9 m9 c9 (([1] ++ lebs [npp] ++ lebs [npf] ++ lebs [npt]) ++ (putT pl ++ (lebs [pi.length] ++ putIs pi)))) := ho9
  have HB9 : Hid (Below w.heap.size w w9) := HB6.out.trans (hb9.mono (by have := HLT.out; omega))
  clear ho9 hb9 HCN k0 k1 k2 k3 k4 k5 k6 k7
  go_wp2
  go_returns
  refine ⟨⟨a9, m9, c9, by rw [HC0.out]; rfl, ?_⟩, HB9.out⟩
  rw [HPD.out]
  have h := HO9.out.under (show w.heap.size ≤ w2.heap.size + 1 by have := HLT.out; omega)
  simpa [List.append_assoc] using h

theorem pc_Put (p : Pc) (sa : Option Addr) (sn sc : Nat) (ia : Option Addr) (im ic : Nat) (w : World) (hp : PcRd w p sa sn sc ia im ic) : Calls Tryd.prog 16 #[p.val sa sn sc ia im ic] w fun e w' => PutTold w' w.heap.size p e ∧ Below w.heap.size w w' := by
  by_cases hc : chk p = 0
  · obtain ⟨pk, pp, ps, pn, pf, pt, pl, pi⟩ := p
    rcases kinds (chk_zero hc).1 with h | h | h | h | h | h <;> (simp only at h; subst h)
    · exact pc_Put_1 pp ps pn pf pt pl pi sa sn sc ia im ic w hp hc
    · exact pc_Put_2 pp ps pn pf pt pl pi sa sn sc ia im ic w hp hc
    · exact pc_Put_3 pp ps pn pf pt pl pi sa sn sc ia im ic w hp hc
    · exact pc_Put_4 pp ps pn pf pt pl pi sa sn sc ia im ic w hp hc
    · exact pc_Put_5 pp ps pn pf pt pl pi sa sn sc ia im ic w hp hc
    · exact pc_Put_6 pp ps pn pf pt pl pi sa sn sc ia im ic w hp hc
  · exact pc_Put_err p sa sn sc ia im ic w hp hc
end Go.Proofs.YtbloomepdchjhaaDoor
