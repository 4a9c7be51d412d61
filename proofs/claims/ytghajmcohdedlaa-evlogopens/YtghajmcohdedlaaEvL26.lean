/- evlog: Events. -/
import Derived.Test.YtghajmcohdedlaaEvL25
namespace Go.Proofs.Ytghajmcohdedlaa
open Go.RowKit

theorem rcflat_len : ∀ L : List Rc, (L.flatMap rcc).length = L.length * 2
  | [] => rfl
  | s :: L => by rw [List.flatMap_cons, List.length_append, rcflat_len L, List.length_cons]; simp [rcc]; omega
theorem rcflat_at {L : List Rc} {i : Nat} {r : Rc} (h : L[i]? = some r) (j : Nat) (v : Value) (hj : (rcc r)[j]? = some v) : (L.flatMap rcc)[i * 2 + j]? = some v := by
  obtain ⟨hi, he⟩ := List.getElem?_eq_some_iff.1 h
  have e : L = L.take i ++ r :: L.drop (i + 1) := by
    rw [← he, List.getElem_cons_drop, List.take_append_drop]
  have hl : ((L.take i).flatMap rcc).length = i * 2 := by rw [rcflat_len, List.length_take]; omega
  have hj2 : j < (rcc r).length := (List.getElem?_eq_some_iff.1 hj).1
  rw [e, List.flatMap_append, List.flatMap_cons, List.getElem?_append_right (by omega), hl, Nat.add_sub_cancel_left, List.getElem?_append_left hj2]
  exact hj
theorem Rcs.at_ {w : World} {base : Nat} {v : Value} {L : List Rc} (h : Rcs w base v L) {i : Nat} {r : Rc} (hi : L[i]? = some r) : ∃ gr c, v = .slice (some ⟨gr, 0, none⟩) L.length c ∧ gr < w.heap.size ∧ w.rangeAt gr (i * 2) (rcc r) := by
  have hlt := (List.getElem?_eq_some_iff.1 hi).1
  rcases h.row.2 with ⟨_, h2⟩ | ⟨g, c, cur, hv, hb, hg, hlc, hcm, hcs, hx⟩
  · omega
  · refine ⟨g, c, hv, heap_lt hg, fun j u hj => ?_⟩
    refine Blk.cell (show Blk w g cur 78 from hg) _ ?_
    have h1 := rcflat_at hi j u hj
    rw [← hx, List.getElem?_take] at h1
    split at h1
    · simpa using h1
    · cases h1
/-- The records of a range. -/
def evF (f t : Int) (L : List (Nat × List Nat)) : List (Nat × List Nat) := L.filter fun p => decide (f ≤ (p.1 : Int)) && decide ((p.1 : Int) ≤ t)
theorem Bd.long {w : World} {B n : Nat} {a : Option Addr} {bs : List Nat} (h : Bd w B a n bs) : n ≤ 4096 := by
  rcases h.2 with h0 | ⟨g, off, cs, fr, e, hB, r⟩
  · omega
  · exact hB.2
set_option maxRecDepth 100000 in
set_option maxHeartbeats 8000000 in
theorem evl_Events (w : World) (base gl g gc b m ag hi rel : Nat) (uv rv : Value) (L : List Rc) (f t : Int) (h : Lc w gl g gc b m ag uv hi rel rv) (hrc : Rcs w base rv L) (hl : L.length ≤ 100000) :
    Calls Try.prog 31 #[.pointer (some ⟨gl, 0, none⟩), .int .i64 f, .int .i64 t] w fun e w' => Hid (∃ v L', e = .returned v ∧ L'.map plR = evF f t (L.map plR) ∧ Rcs w' w.heap.size v L') ∧ Below w.heap.size w w' := by
  obtain ⟨ar, cr, hrv⟩ := hrc.val
  subst hrv
  have HR : Hid (Rcs w base (.slice ar L.length cr) L) := hrc
  have c8 : w.cell? ⟨gl, 8, none⟩ = some (.slice ar L.length cr) := Blk.cell h 8 rfl
  obtain ⟨N, HN⟩ : ∃ N, Hid (N = L.length) := ⟨_, rfl⟩
  have hN : N ≤ 100000 := by rw [HN.out]; exact hl
  rw [← HN.out] at c8
  clear h hrc hl
  go_enter Try.func31, Try.ntmps31
  go_wp2_with fail
  go_loopw [7, 17] (fun t7 t17 wr => ∃ (i : Nat) (L1 : List Rc) (v1 : Value), i ≤ N ∧ t17 = .int .i64 (i : Int) ∧ t7 = v1 ∧ Hid (L1.length ≤ i) ∧ Hid (L1.map plR = evF f t ((L.take i).map plR)) ∧ Hid (Rcs wr w.heap.size v1 L1) ∧ Hid (Below w.heap.size w wr)) (fun _ t17 _ => N - (intOf t17).toNat)
  case atStart => exact ⟨0, [], _, Nat.zero_le _, rfl, rfl, Nat.zero_le _, rfl, ⟨World.ownsRow_nil _ _ _ _, fun r hr => by cases hr⟩, Below.refl _ _⟩
  case round =>
    obtain ⟨i, L1, v1, hi2, rfl, hv7, HL1, HE1, HR1, HB1⟩ := hrel
    have hv7' := hv7.symm
    subst hv7'
    by_cases hlt : i < N
    · obtain ⟨r, hri⟩ : ∃ r, L[i]? = some r := ⟨_, List.getElem?_eq_getElem (by rw [← HN.out]; exact hlt)⟩
      obtain ⟨gr, c, hv, hgr, hrg⟩ := (HR.out.below HB1.out).at_ hri
      have ha : ar = some ⟨gr, 0, none⟩ := by simp only [Value.slice.injEq] at hv; exact hv.1
      subst ha
      have HTK : Hid (L.take (i + 1) = L.take i ++ [r]) := by
        (show _ = _)
        obtain ⟨hi', he⟩ := List.getElem?_eq_some_iff.1 hri
        rw [List.take_add_one, hri]; rfl
      have HBD : Hid (Bd wr base r.a r.n r.bs) := ((HR.out.below HB1.out).bd r (List.mem_of_getElem? hri))
      obtain ⟨tk, ra, rn, rc', rbs⟩ := r
      have HRG : Hid (wr.rangeAt gr (i * 2) (rcc ⟨tk, ra, rn, rc', rbs⟩)) := hrg
      simp only at HBD
      have hlt' : (i : Int) < (N : Int) := by omega
      have hge : (0 : Int) ≤ (i : Int) := by omega
      obtain ⟨W1, HW1⟩ : ∃ W1, Hid (W1 = wr.alloc (.cells #[.int .i64 (tk : Int), .slice ra rn rc'] 78)) := ⟨_, rfl⟩
      have HBW : Hid (Below wr.heap.size wr W1) := by (show Below _ _ _); rw [HW1.out]; exact below_alloc _ _
      have HK1 : Hid (Blk W1 wr.heap.size #[.int .i64 (tk : Int), .slice ra rn rc'] 78) := by (show Blk _ _ _ _); rw [HW1.out]; exact Blk.new _ _ _
      have HB2 : Hid (Below w.heap.size w W1) := HB1.out.trans (HBW.out.mono HB1.out.size)
      have HR2 : Hid (Rcs W1 w.heap.size v1 L1) := HR1.out.below HBW.out
      have HBD2 : Hid (Bd W1 base ra rn rbs) := HBD.out.kt (Kt.of_below HBW.out)
      have k0 : W1.cell? ⟨wr.heap.size, 0, none⟩ = some (.int .i64 (tk : Int)) := HK1.out.cell 0 rfl
      have HSS : Hid (∀ W' : World, Blk W' wr.heap.size #[.int .i64 (tk : Int), .slice ra rn rc'] 78 → W'.cell? ⟨wr.heap.size, 0, none⟩ = some (.int .i64 (tk : Int)) ∧ W'.cell? ⟨wr.heap.size, 1, none⟩ = some (.slice ra rn rc')) := fun W' h => ⟨h.cell 0 rfl, h.cell 1 rfl⟩
      have HNX : Hid (some wr.heap.size ≠ v1.ownBlock) := fun e => by have := (HR1.out.row.lt _ e.symm).2; omega
      have k1 : W1.cell? ⟨wr.heap.size, 1, none⟩ = some (.slice ra rn rc') := HK1.out.cell 1 rfl
      clear hv hgr hrg hri c8
      go_upto_region 7 with (guard_target =~ wpList _ _ _ (Oper.mk (some 20) _ _ _ _ _ :: _) _ _; refine wpList_load_mid rfl 78 (.tmp 19) rfl gr (i * 2) rfl [.int .i64 (tk : Int), .slice ra rn rc'] _ HRG.out Try.underlying78 rfl (by rfl) ?_)
      rw [← HW1.out]
      have HTK2 : Hid ((L.take (i + 1)).map plR = (L.take i).map plR ++ [(tk, rbs)]) := by
        (show _ = _)
        rw [HTK.out, List.map_append]
        rfl
      by_cases hin : f ≤ (tk : Int) ∧ (tk : Int) ≤ t
      · have h1 : f ≤ (tk : Int) := hin.1
        have h2 : (tk : Int) ≤ t := hin.2
        have HEV : Hid (evF f t ((L.take (i + 1)).map plR) = L1.map plR ++ [(tk, rbs)]) := by
          (show _ = _)
          rw [HTK2.out, evF, List.filter_append, HE1.out, evF]
          simp [h1, h2]
        have HBDR : Hid (Below W1.heap.size W1 W1.drew) := (Below.refl _ _).drew
        have s0 : W1.cell? ⟨wr.heap.size, 0, none⟩ = some (.int .i64 (tk : Int)) ∧ W1.cell? ⟨wr.heap.size, 1, none⟩ = some (.slice ra rn rc') := ⟨k0, k1⟩
        clear hin
        go_wp2_with fail
        clear k0 k1
        go_region_held3 (fun w' => w'.cell? ⟨wr.heap.size, 0, none⟩ = some (.int .i64 (tk : Int)) ∧ w'.cell? ⟨wr.heap.size, 1, none⟩ = some (.slice ra rn rc')) (first | exact s0 | exact s8 | exact s9 | exact s10 | fail)
          (first
            | (guard_target =~ (if Region.wanted (Oper.mk (some 39) _ _ _ _ _) _ = true then _ else _); refine step_append_rc rfl (.tmp 31) (.tmp 38) rfl w.heap.size _ L1 rfl (by rw [← HW9.out]; exact HR9.out) w8.heap.size 1 ⟨tk, a8, rn, c8, rbs⟩ rfl (by rw [← HW9.out]; exact HK9.out) (by rw [← HW9.out]; exact HD9.out) (by have := HL1.out; omega) (by rw [← HW9.out]; exact HB9.out.size) ?_; rw [← HW9.out]; intro v10 w10 hr10 hg10 hb10 hk10; have HR10 : Hid (Rcs w10 w.heap.size v10 (L1 ++ [⟨tk, a8, rn, c8, rbs⟩])) := hr10; have HB10 : Hid (Below w.heap.size w w10) := HB9.out.trans hb10; have s10 : w10.cell? ⟨wr.heap.size, 0, none⟩ = some (.int .i64 (tk : Int)) ∧ w10.cell? ⟨wr.heap.size, 1, none⟩ = some (.slice ra rn rc') := (HSS.out w10 (HKX.out.grown hg10 HNX.out)); clear hr10 hg10 hb10 hk10)
            | (go_at_call 55; refine (bytes_Clone ra rn rc' rbs W1.drew (HBD2.out.kt (Kt.of_below HBDR.out)).1 (by have := HBD2.out.long; omega)).mono ?_; rintro e w8 ⟨a8, c8, rfl, ho8, hb8⟩; have HX8 : Hid (Below W1.heap.size W1 w8) := HBDR.out.trans (hb8.mono HBDR.out.size); have HD8 : Hid (Bd w8 w.heap.size a8 rn rbs) := (ho8.bd HBD2.out.long).lower (Nat.le_trans HB2.out.size HBDR.out.size); have HK8 : Hid (Blk w8 wr.heap.size #[.int .i64 (tk : Int), .slice ra rn rc'] 78) := HK1.out.stay HX8.out; have HR8 : Hid (Rcs w8 w.heap.size v1 L1) := HR2.out.below HX8.out; have HB8 : Hid (Below w.heap.size w w8) := HB2.out.trans (HX8.out.mono HB2.out.size); obtain ⟨W9, HW9⟩ : ∃ W9, Hid (W9 = w8.alloc (.cells #[.int .i64 (tk : Int), .slice a8 rn c8] 78)) := ⟨_, rfl⟩; have HX9 : Hid (Below w8.heap.size w8 W9) := (by (show Below _ _ _); rw [HW9.out]; exact below_alloc _ _); have HR9 : Hid (Rcs W9 w.heap.size v1 L1) := HR8.out.below HX9.out; have HK9 : Hid (Blk W9 w8.heap.size #[.int .i64 (tk : Int), .slice a8 rn c8] 78) := (by (show Blk _ _ _ _); rw [HW9.out]; exact Blk.new _ _ _); have HD9 : Hid (Bd W9 w.heap.size a8 rn rbs) := HD8.out.kt (Kt.of_below HX9.out); have HB9 : Hid (Below w.heap.size w W9) := HB8.out.trans (HX9.out.mono HB8.out.size); have HKX : Hid (Blk W9 wr.heap.size #[.int .i64 (tk : Int), .slice ra rn rc'] 78) := HK8.out.stay HX9.out; have s8 : w8.cell? ⟨wr.heap.size, 0, none⟩ = some (.int .i64 (tk : Int)) ∧ w8.cell? ⟨wr.heap.size, 1, none⟩ = some (.slice ra rn rc') := HSS.out w8 HK8.out; have s9 : (w8.alloc (.cells #[.int .i64 (tk : Int), .slice a8 rn c8] 78)).cell? ⟨wr.heap.size, 0, none⟩ = some (.int .i64 (tk : Int)) ∧ (w8.alloc (.cells #[.int .i64 (tk : Int), .slice a8 rn c8] 78)).cell? ⟨wr.heap.size, 1, none⟩ = some (.slice ra rn rc') := HSS.out _ (HK8.out.stay (below_alloc _ _)); clear ho8 hb8))
        have HLA : Hid ((L1 ++ [(⟨tk, a8, rn, c8, rbs⟩ : Rc)]).length ≤ i + 1) := by (show _ ≤ _); rw [List.length_append, List.length_singleton]; have := HL1.out; omega
        have HMA : Hid ((L1 ++ [(⟨tk, a8, rn, c8, rbs⟩ : Rc)]).map plR = evF f t ((L.take (i + 1)).map plR)) := by (show _ = _); rw [HEV.out, List.map_append]; rfl
        clear s0 s8 s9 s10
        go_wp2
        go_roundw
        case rel => exact ⟨i + 1, _, v10, by omega, by go_num, rfl, HLA, HMA, HR10, HB10⟩
        case measure => (simp [intOf]; omega)
      · have HEV : Hid (evF f t ((L.take (i + 1)).map plR) = L1.map plR) := by
          (show _ = _)
          rw [HTK2.out, evF, List.filter_append, HE1.out, evF]
          have : (decide (f ≤ (tk : Int)) && decide ((tk : Int) ≤ t)) = false := by
            rw [Bool.and_eq_false_iff, decide_eq_false_iff_not, decide_eq_false_iff_not]
            omega
          rw [List.filter_cons, if_neg (by simp only [this]; decide)]
          simp
        by_cases h1 : f ≤ (tk : Int)
        · have h2 : ¬ (tk : Int) ≤ t := fun h => hin ⟨h1, h⟩
          clear hin
          go_wp2
          go_roundw
          case rel => exact ⟨i + 1, L1, v1, by omega, by go_num, rfl, Nat.le_succ_of_le HL1.out, HEV.out.symm, HR2, HB2⟩
          case measure => (simp [intOf]; omega)
        · clear hin
          go_wp2
          go_roundw
          case rel => exact ⟨i + 1, L1, v1, by omega, by go_num, rfl, Nat.le_succ_of_le HL1.out, HEV.out.symm, HR2, HB2⟩
          case measure => (simp [intOf]; omega)
    · obtain rfl : i = N := by omega
      have hlt' : ¬ (i : Int) < (i : Int) := by omega
      have HF : Hid (L1.map plR = evF f t (L.map plR)) := by
        (show _ = _)
        rw [HE1.out, HN.out, List.take_length]
      clear c8
      go_wp2
      go_returns
      exact ⟨⟨v1, rfl, L1, HF.out, HR1.out⟩, HB1.out⟩
end Go.Proofs.Ytghajmcohdedlaa
