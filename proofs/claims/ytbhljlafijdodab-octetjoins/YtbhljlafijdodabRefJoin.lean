/- The reference's some, Join and TakeJoin, for every parts, bytes and place. -/
import Derived.Test.YtbhljlafijdodabJoinBackM
namespace Go.Proofs.Ytbhljlafijdodab
open Go.RowKit

/-- Bytes that a range leaves, where it ends, and the error. -/
def sub (bs : List Nat) : Nat × Nat × Nat → List Nat × Nat × Nat
  | (p, q, 0) => ((bs.drop p).take (q - p), q, 0)
  | (_, _, f) => ([], 0, f)
theorem sub_err (bs : List Nat) (p q f : Nat) (h : ¬ f = 0) : sub bs (p, q, f) = ([], 0, f) := by
  cases f with
  | zero => exact absurd rfl h
  | succ f => rfl

set_option maxHeartbeats 1000000 in
/-- The reference's 'some': as many bytes as the number at a place says, in memory of their own. -/
theorem ref_some (a : Option Addr) (len cap : Nat) (bs : List Nat) (x : Int) (limit : Nat) (hlim : limit ≤ 100000) (w : World) (hr : Rd w a len bs) (hlc : len ≤ cap) (hl : len ≤ 9223372036854775000) (hx : (-9223372036854775808 : Int) ≤ x ∧ x ≤ 9223372036854775807) (l : List Nat) (q f : Nat) (hT : sub bs (range bs x limit) = (l, q, f)) :
    Calls Try.prog 24 #[.slice a len cap, .int .i64 x, .int .i64 (limit : Int)] w fun e w' => ∃ a' m' c', e = .returned (.tuple #[.slice a' m' c', .int .i64 (q : Int), .int .i64 (f : Int)]) ∧ Own w' w.heap.size a' m' c' l ∧ Below w.heap.size w w' := by
  have HR : Hid (Rd w a len bs) := hr
  have HX : Hid ((-9223372036854775808 : Int) ≤ x ∧ x ≤ 9223372036854775807) := hx
  obtain ⟨n, k, g, hK⟩ : ∃ n k g, Leb.take bs x = (n, k, g) := ⟨_, _, _, rfl⟩
  have HK : Hid (Leb.take bs x = (n, k, g)) := hK
  rw [range_def, hK, hr.size] at hT
  by_cases hg : g = 0
  · subst hg
    obtain ⟨hkl, hn, hk0⟩ : k ≤ bs.length ∧ n < 18446744073709551616 ∧ 0 < k := by
      obtain ⟨p, _, hpk, hkl, hn, _⟩ := Leb.take_once bs x hr.byte n k hK
      exact ⟨hkl, hn, by omega⟩
    rw [hr.size] at hkl
    simp only [rng] at hT
    by_cases h1 : limit < n
    · rw [if_pos h1] at hT
      simp only [sub, Prod.mk.injEq] at hT
      obtain ⟨rfl, rfl, rfl⟩ := hT
      clear hr hx hK
      go_enter Try.func24, Try.ntmps24
      go_wp2_with fail
      refine (ref_TakeUint a len cap bs x w HR.out hl HX.out).mono ?_
      rw [HK.out]
      rintro e w1 ⟨rfl, rfl⟩
      unfold told
      go_wp2
      go_ret3
      exact ⟨none, 0, 0, rfl, Own.nil _ _, Below.refl _ _⟩
    · rw [if_neg h1] at hT
      by_cases h2 : len - k < n
      · rw [if_pos h2] at hT
        simp only [sub, Prod.mk.injEq] at hT
        obtain ⟨rfl, rfl, rfl⟩ := hT
        have h2' : (len : Int) - (k : Int) < (n : Int) := by omega
        clear hr hx hK
        go_enter Try.func24, Try.ntmps24
        go_wp2_with fail
        refine (ref_TakeUint a len cap bs x w HR.out hl HX.out).mono ?_
        rw [HK.out]
        rintro e w1 ⟨rfl, rfl⟩
        unfold told
        go_wp2
        go_ret3
        exact ⟨none, 0, 0, rfl, Own.nil _ _, Below.refl _ _⟩
      · rw [if_neg h2] at hT
        simp only [sub, Prod.mk.injEq] at hT
        obtain ⟨hle, rfl, rfl⟩ := hT
        have HLE : Hid ((bs.drop k).take (k + n - k) = l) := hle
        have h2' : ¬ (len : Int) - (k : Int) < (n : Int) := by omega
        obtain ⟨b, off, rfl, hblt, hc⟩ : ∃ b off, a = some ⟨b, off, none⟩ ∧ b < w.heap.size ∧ ∀ i, i < len → w.cell? ⟨b, off + i, none⟩ = some (.int .u8 ((bs.getD i 0 : Nat) : Int)) := by
          rcases hr.cells with h0 | h
          · omega
          · exact h
        have hsub : ∀ off', (k + n - k = 0 ∨ off' = off + k) → Rd w (some ⟨b, off', none⟩) (k + n - k) l := by
          intro off' ho
          rw [← hle]
          refine ⟨by rw [List.length_take, List.length_drop, hr.size]; omega, fun y hy => hr.byte y (List.mem_of_mem_drop (List.mem_of_mem_take hy)), ?_⟩
          rcases ho with h0 | rfl
          · exact .inl h0
          · refine .inr ⟨b, off + k, rfl, hblt, fun i hi => ?_⟩
            rw [Nat.add_assoc, hc (k + i) (by omega)]
            simp only [List.getD_eq_getElem?_getD, List.getElem?_take_of_lt hi, List.getElem?_drop]
        have g1 : (0 : Int) ≤ (k : Int) := by omega
        have g2 : (k : Int) ≤ (k : Int) + (n : Int) := by omega
        have g3 : (k : Int) + (n : Int) ≤ (cap : Int) := by omega
        by_cases hcp : cap = k
        · subst hcp
          have hn0 : n = 0 := by omega
          subst hn0
          have HL0 : Hid (l = []) := by show _ = _; rw [← hle]; simp
          clear hr hx hK hc hsub hle
          go_enter Try.func24, Try.ntmps24
          go_wp2_with fail
          refine (ref_TakeUint (some ⟨b, off, none⟩) len cap bs x w HR.out hl HX.out).mono ?_
          rw [HK.out]
          rintro e w1 ⟨rfl, hw1⟩
          subst hw1
          unfold told
          go_wp2
          go_ret3
          exact ⟨some ⟨w1.heap.size, 0, none⟩, 0, 0, rfl, (by rw [HL0.out]; exact Own.empty w1), below_alloc w1 _⟩
        · have HS : Hid (Rd w (some ⟨b, off + k, none⟩) (k + n - k) l) := hsub (off + k) (.inr rfl)
          have hn1 : n ≤ 100000 := by omega
          clear hr hx hK hc hsub hle
          go_enter Try.func24, Try.ntmps24
          go_wp2_with fail
          refine (ref_TakeUint (some ⟨b, off, none⟩) len cap bs x w HR.out hl HX.out).mono ?_
          rw [HK.out]
          rintro e w1 ⟨rfl, hw1⟩
          subst hw1
          unfold told
          go_wp2_with (at_builtin; refine wpList_append_rd (by rfl) (.tmp 33) (.tmp 40) (by rfl) w1.heap.size (some ⟨w1.heap.size, 0, none⟩) 0 0 [] (by rfl) (Own.empty w1) (some ⟨b, off + k, none⟩) (k + n - k) (cap - k) l (by rfl) (HS.out.below (below_alloc w1 _)) (fun h => by cases h) (by omega) (by simp) ?_; intro a3 c3 w3 hown3 hgrow3 hbel3; have HO3 : Hid (Own w3 w1.heap.size a3 (0 + (k + n - k)) c3 ([] ++ l)) := hown3; have HB3 : Hid (Below w1.heap.size w1 w3) := (below_alloc w1 _).trans hbel3; clear hown3 hgrow3 hbel3)
          go_ret3
          have ho := HO3.out
          rw [Nat.zero_add, List.nil_append, show k + n - k = n from by omega] at ho
          exact ⟨a3, _, c3, rfl, ho, HB3.out⟩
  · have hg' : ((g : Int) != 0) = true := by simp [hg]
    rw [rng_err _ _ _ _ _ hg, sub_err _ _ _ _ hg] at hT
    simp only [Prod.mk.injEq] at hT
    obtain ⟨rfl, rfl, rfl⟩ := hT
    clear hr hx hK hg
    go_enter Try.func24, Try.ntmps24
    go_wp2_with fail
    refine (ref_TakeUint a len cap bs x w HR.out hl HX.out).mono ?_
    rw [HK.out]
    rintro e w1 ⟨rfl, rfl⟩
    unfold told
    go_wp2
    go_ret3
    exact ⟨none, 0, 0, rfl, Own.nil _ _, Below.refl _ _⟩


theorem ref_Join_many (a : Option Addr) (n cap : Nat) (w : World) (hn : 64 < n) (hm : n ≤ 9223372036854775807) :
    Calls Try.prog 7 #[.slice a n cap] w fun e w' => e = .returned (.tuple #[.slice none 0 0, .int .i64 6]) ∧ w' = w := by
  go_enter Try.func7, Try.ntmps7
  go_wp2
  go_ret2
  exact ⟨rfl, rfl⟩

set_option maxRecDepth 100000 in
set_option maxHeartbeats 1000000 in
theorem ref_Join (a : Option Addr) (n cap : Nat) (ps : List Pt) (w : World) (hp : Parts w a n ps) (hn : n ≤ 64) (hlen : ∀ p ∈ ps, p.l ≤ 9223372036854775807) :
    Calls Try.prog 7 #[.slice a n cap] w fun e w' => Below w.heap.size w w' ∧ (((∃ p ∈ ps, 4096 < p.l) ∧ e = .returned (.tuple #[.slice none 0 0, .int .i64 6])) ∨ ((∀ p ∈ ps, p.l ≤ 4096) ∧ ∃ a' m c', e = .returned (.tuple #[.slice a' m c', .int .i64 0]) ∧ Own w' w.heap.size a' m c' (JoinM.join (ps.map Pt.dat)))) := by
  have HP : Hid (Parts w a n ps) := hp
  have HL : Hid (ps.length = n) := hp.size
  have HLN : Hid (∀ p ∈ ps, p.l ≤ 9223372036854775807) := hlen
  have hbo : n = 0 ∨ ∃ b off, a = some ⟨b, off, none⟩ ∧ b < w.heap.size ∧ ∀ i p, ps[i]? = some p → w.cell? ⟨b, off + i, none⟩ = some (.slice p.a p.l p.c) := hp.cells
  by_cases hn0 : n = 0
  · subst hn0
    have hnil : ps = [] := List.eq_nil_of_length_eq_zero hp.size
    subst hnil
    clear hp hlen hbo
    go_enter Try.func7, Try.ntmps7
    go_wp2_with fail
    refine (ref_Uint 0 (by omega) w).mono ?_
    rintro e w1 ⟨a1, c1, rfl, hne, ho1, hb1⟩
    have HO1 : Hid (Own w1 w.heap.size a1 (Leb.leb 0).length c1 (Leb.leb 0)) := ho1
    have HB1 : Hid (Below w.heap.size w w1) := hb1
    clear ho1 hb1
    go_wp2
    refine wp_loop_rounds 1 ?_
    rw [rounds_succ]
    go_wp2
    go_ret2
    exact ⟨HB1.out, .inr ⟨(fun p hp => by cases hp), a1, _, c1, rfl, by simpa [JoinM.join, JoinM.body] using HO1.out⟩⟩
  · obtain ⟨b, off, rfl, hb, hc⟩ := hbo.resolve_left hn0
    have HC : Hid (∀ i p, ps[i]? = some p → w.cell? ⟨b, off + i, none⟩ = some (.slice p.a p.l p.c)) := hc
    clear hc hp hlen hbo
    go_enter Try.func7, Try.ntmps7
    go_wp2_with fail
    refine (ref_Uint n (by omega) w).mono ?_
    rintro e w1 ⟨a1, c1, rfl, hne, ho1, hb1⟩
    have HO1 : Hid (Own w1 w.heap.size a1 (Leb.leb n).length c1 (Leb.leb n)) := ho1
    have HB1 : Hid (Below w.heap.size w w1) := hb1
    have hll := Leb.leb_length n
    obtain ⟨m1, HM1⟩ : ∃ m1, Hid (m1 = (Leb.leb n).length) := ⟨_, rfl⟩
    rw [← HM1.out] at HO1 hll
    rw [← HM1.out]
    clear ho1 hb1
    go_wp2
    go_loopw [4, 5] (fun t4 t5 wr => ∃ (j m c : Nat) (x : Option Addr), j ≤ n ∧ t5 = .int .i64 (j : Int) ∧ t4 = .slice x m c ∧ m ≤ 10 + j * 4106 ∧ Hid (∀ i p, i < j → ps[i]? = some p → p.l ≤ 4096) ∧ Hid (Own wr w.heap.size x m c (Leb.leb n ++ JoinM.body ((ps.take j).map Pt.dat))) ∧ Hid (Below w.heap.size w wr)) (fun _ t5 _ => n - (intOf t5).toNat)
    case atStart => exact ⟨0, m1, c1, a1, by omega, rfl, rfl, by omega, (fun i p hi => by omega), (by show Own _ _ _ _ _ _; simpa [JoinM.body] using HO1.out), HB1⟩
    case round =>
      obtain ⟨j, m, c, x, hj, rfl, rfl, hm, HK, HO, HB⟩ := hrel
      by_cases hjl : j < n
      · have hjl' : (j : Int) < (n : Int) := by omega
        obtain ⟨p, hp⟩ : ∃ p, ps[j]? = some p := ⟨_, List.getElem?_eq_getElem (by rw [HL.out]; exact hjl)⟩
        have hcx : wr.cell? ⟨b, off + j, none⟩ = some (.slice p.a p.l p.c) := (HB.out.cell (p := ⟨b, off + j, none⟩) hb).trans (HC.out j p hp)
        have hplm := HLN.out p (List.mem_of_getElem? hp)
        have HRP : Hid (Rd w p.a p.l p.bs) := (HP.out.body p (List.mem_of_getElem? hp)).1
        have hpn := (HP.out.body p (List.mem_of_getElem? hp)).2
        have HTK : Hid (ps.take (j + 1) = ps.take j ++ [p]) := by
          show _ = _
          rw [List.take_add_one, hp]
          rfl
        have HMEM : Hid (p ∈ ps) := List.mem_of_getElem? hp
        have HK' : Hid (p.l ≤ 4096 → ∀ i q, i < j + 1 → ps[i]? = some q → q.l ≤ 4096) := by
          intro hple i q hi hq
          by_cases he : i = j
          · subst he
            rw [hp] at hq
            cases hq
            exact hple
          · exact HK.out i q (by omega) hq
        obtain ⟨pa, pl, pc, pb⟩ := p
        simp only at hcx hplm HRP hpn HK'
        have HPB : Hid (pb.length = pl) := HRP.out.size
        clear hp HK
        by_cases hpl : pl ≤ 4096
        · have hx1 : ¬ 4096 < (pl : Int) := by omega
          have hjm : j * 4106 ≤ 64 * 4106 := Nat.mul_le_mul_right _ (by omega)
          go_wp2_with fail
          refine (ref_Uint pl (by omega) wr).mono ?_
          rintro e w2 ⟨a2, c2, rfl, hn2, ho2, hb2⟩
          have hll2 := Leb.leb_length pl
          obtain ⟨m2, HM2⟩ : ∃ m2, Hid (m2 = (Leb.leb pl).length) := ⟨_, rfl⟩
          rw [← HM2.out] at ho2 hll2
          rw [← HM2.out]
          have HO2 : Hid (Own w2 wr.heap.size a2 m2 c2 (Leb.leb pl)) := ho2
          have HOX : Hid (Own w2 w.heap.size x m c (Leb.leb n ++ JoinM.body ((ps.take j).map Pt.dat))) := HO.out.below hb2
          have HB2 : Hid (Below w.heap.size w w2) := HB.out.trans (hb2.mono HB.out.size)
          clear ho2 hb2
          go_wp2_with (at_builtin; refine wpList_append_rd (by rfl) (.tmp 25) (.tmp 32) (by rfl) w.heap.size x m c _ (by rfl) HOX.out a2 m2 c2 (Leb.leb pl) (by rfl) HO2.out.rd (fun h => absurd h hn2) (by omega) HB2.out.size ?_)
          intro a3 c3 w3 hown3 hgrow3 hbel3
          have HO3 : Hid (Own w3 w.heap.size a3 (m + m2) c3 (Leb.leb n ++ JoinM.body ((ps.take j).map Pt.dat) ++ Leb.leb pl)) := by
            show Own _ _ _ _ _ _
            simpa using hown3
          have HB3 : Hid (Below w.heap.size w w3) := HB2.out.trans hbel3
          have hcx3 : w3.cell? ⟨b, off + j, none⟩ = some (.slice pa pl pc) := (HB3.out.cell (p := ⟨b, off + j, none⟩) hb).trans ((HB.out.cell (p := ⟨b, off + j, none⟩) hb).symm.trans hcx)
          clear hown3 hgrow3 hbel3
          go_wp2_with (at_builtin; refine wpList_append_rd (by rfl) (.tmp 34) (.tmp 38) (by rfl) w.heap.size a3 (m + m2) c3 _ (by rfl) HO3.out pa pl pc pb (by rfl) (HRP.out.below HB3.out) hpn (by omega) HB3.out.size ?_)
          intro a4 c4 w4 hown4 hgrow4 hbel4
          have HO4 : Hid (Own w4 w.heap.size a4 (m + m2 + pl) c4 (Leb.leb n ++ JoinM.body ((ps.take (j + 1)).map Pt.dat))) := by
            have h : Own w4 w.heap.size a4 (m + m2 + pl) c4 (Leb.leb n ++ JoinM.body ((ps.take j).map Pt.dat) ++ Leb.leb pl ++ pb) := by simpa using hown4
            show Own _ _ _ _ _ _
            rw [HTK.out, List.map_append, List.map_singleton, JoinM.body_snoc]
            have e : Leb.leb n ++ JoinM.body ((ps.take j).map Pt.dat) ++ Leb.leb pl ++ pb = Leb.leb n ++ (JoinM.body ((ps.take j).map Pt.dat) ++ JoinM.one (Pt.dat ⟨pa, pl, pc, pb⟩)) := by
              show _ = Leb.leb n ++ (JoinM.body ((ps.take j).map Pt.dat) ++ (Leb.leb pb.length ++ pb))
              rw [HPB.out]
              simp
            rw [← e]
            exact h
          have HB4 : Hid (Below w.heap.size w w4) := HB3.out.trans hbel4
          clear hown4 hgrow4 hbel4
          go_wp2
          go_roundw
          case rel => exact ⟨j + 1, m + m2 + pl, c4, a4, by omega, by go_num, rfl, by rw [Nat.add_mul]; omega, HK'.out hpl, HO4, HB4⟩
          case measure => simp [intOf]; omega
        · have hx1 : 4096 < (pl : Int) := by omega
          go_wp2
          go_ret2
          exact ⟨HB.out, .inl ⟨⟨_, HMEM.out, by show 4096 < pl; omega⟩, rfl⟩⟩
      · have hjn : ¬ (j : Int) < (n : Int) := by omega
        go_wp2
        go_ret2
        have ej : ps.take j = ps := List.take_of_length_le (by rw [HL.out]; omega)
        have h := HO.out
        rw [ej] at h
        refine ⟨HB.out, .inr ⟨fun p hp => ?_, x, m, c, rfl, ?_⟩⟩
        · obtain ⟨i, hi, rfl⟩ := List.getElem_of_mem hp
          exact HK.out i ps[i] (by rw [HL.out] at hi; omega) (List.getElem?_eq_getElem hi)
        · have e : JoinM.join (ps.map Pt.dat) = Leb.leb n ++ JoinM.body (ps.map Pt.dat) := by unfold JoinM.join; rw [List.length_map, HL.out]
          rw [e]
          exact h

/-- A list of parts of one's own, whatever room it has. -/
structure Lst (w : World) (base : Nat) (v : Value) (ps : List Pt) : Prop where
  row : w.ownsRow base 23 1 v ps.length (ps.map Pt.val)
  body : ∀ p ∈ ps, Own w base p.a p.l p.c p.bs

theorem Lst.fresh (w : World) : Lst (w.alloc (.cells #[] 23)) w.heap.size (.slice (some ⟨w.heap.size, 0, none⟩) 0 0) [] :=
  ⟨⟨rfl, .inr ⟨w.heap.size, 0, #[], rfl, Nat.le_refl _, heap_alloc_new w _, Nat.le_refl _, by unfold maxLen; omega, rfl, rfl⟩⟩, fun t ht => by cases ht⟩
theorem Lst.below {w w' : World} {base : Nat} {v : Value} {ps : List Pt} (h : Lst w base v ps) (hb : Below w.heap.size w w') : Lst w' base v ps := by
  refine ⟨⟨h.row.1, ?_⟩, fun t ht => (h.body t ht).below hb⟩
  rcases h.row.2 with hn | ⟨g, c, cur, hv, hbg, hg, r⟩
  · exact .inl hn
  · exact .inr ⟨g, c, cur, hv, hbg, by rw [hb.block g (Array.getElem?_eq_some_iff.1 hg).1]; exact hg, r⟩
theorem Lst.beside {w w' : World} {base : Nat} {v : Value} {ps : List Pt} (hrow : Lst w base v ps) (hg : w.grownBy w' v.ownBlock) {a : Option Addr} {len cap : Nat} {bs : List Nat} (h : Own w base a len cap bs) : Own w' base a len cap bs := by
  refine ⟨⟨h.row.1, ?_⟩, h.byte⟩
  rcases h.row.2 with hn | ⟨g, c, cur, hv, hbg, hgb, r⟩
  · exact .inl hn
  · refine .inr ⟨g, c, cur, hv, hbg, ?_, r⟩
    have hlt := (Array.getElem?_eq_some_iff.1 hgb).1
    rw [hg.block g hlt ?_]
    · exact hgb
    · intro he
      rcases hrow.row.2 with ⟨rfl, _⟩ | ⟨g2, c2, cur2, rfl, _, hg2, _⟩
      · cases he
      · have : g = g2 := by simpa [Value.ownBlock] using he
        subst this
        rw [hgb] at hg2
        simp at hg2
theorem Lst.snoc {w w' : World} {base : Nat} {v v' : Value} {ps : List Pt} (h : Lst w base v ps) (p : Pt) (hp : Own w base p.a p.l p.c p.bs) (hg : w.grownBy w' v.ownBlock) (hrow : w'.ownsRow base 23 1 v' (ps.length + 1) (ps.map Pt.val ++ [p.val])) : Lst w' base v' (ps ++ [p]) := by
  refine ⟨?_, fun u hu => ?_⟩
  · rw [List.length_append, List.map_append]
    simpa using hrow
  · rcases List.mem_append.1 hu with hu | hu
    · exact h.beside hg (h.body u hu)
    · rw [List.mem_singleton] at hu
      subst hu
      exact h.beside hg hp
theorem Lst.at_ {w : World} {base : Nat} {v : Value} {ps : List Pt} (h : Lst w base v ps) {k : Nat} (hk : v.ownBlock = some k) : base ≤ k := by
  rcases h.row.2 with ⟨rfl, _⟩ | ⟨g, c, cur, rfl, hb, _⟩
  · cases hk
  · have : g = k := by simpa [Value.ownBlock] using hk
    omega
theorem Lst.parts {w : World} {base : Nat} {v : Value} {ps : List Pt} (h : Lst w base v ps) : ∃ a c, v = .slice a ps.length c ∧ Parts w a ps.length ps := by
  have hbody : ∀ p ∈ ps, Rd w p.a p.l p.bs ∧ (p.a = none → p.c = 0) := fun p hp => by
    refine ⟨(h.body p hp).rd, fun hn => ?_⟩
    rcases (h.body p hp).row.2 with ⟨hv, _⟩ | ⟨g', c, cur', hv, _⟩
    · simp only [Value.slice.injEq] at hv
      exact hv.2.2
    · simp only [Value.slice.injEq] at hv
      rw [hv.1] at hn
      cases hn
  rcases h.row.2 with ⟨hv, h0⟩ | ⟨g, c, cur, hv, hb, hg, hlc, hm, hs, ht⟩
  · exact ⟨none, 0, by rw [hv, h0], ⟨rfl, .inl h0, hbody⟩⟩
  · refine ⟨some ⟨g, 0, none⟩, c, hv, ⟨rfl, .inr ⟨g, 0, rfl, (Array.getElem?_eq_some_iff.1 hg).1, fun i p hi => ?_⟩, hbody⟩⟩
    have hil : i < ps.length := (List.getElem?_eq_some_iff.1 hi).1
    rw [cell_of_row w g (0 + i) cur 23 (0, 0) hg, Nat.zero_add]
    have h2 : cur.toList[i]? = some p.val := by
      have := congrArg (fun l => l[i]?) ht
      simp only [Nat.mul_one] at this
      rw [List.getElem?_take_of_lt hil, List.getElem?_map, hi] at this
      exact this
    rw [Array.getElem?_toList] at h2
    exact h2

theorem ref_TakeJoin_head (a : Option Addr) (len cap : Nat) (bs : List Nat) (x : Int) (w : World) (hr : Rd w a len bs) (hl : len ≤ 9223372036854775000) (hx : (-9223372036854775808 : Int) ≤ x ∧ x ≤ 9223372036854775807) (n k f : Nat) (hT : Leb.take bs x = (n, k, f)) (hbad : f ≠ 0 ∨ 64 < n) (hnn : n < 18446744073709551616) :
    Calls Try.prog 9 #[.slice a len cap, .int .i64 x] w fun e w' => e = toldJ (if f = 0 then 6 else f) ∧ w' = w := by
  have HR : Hid (Rd w a len bs) := hr
  have HX : Hid ((-9223372036854775808 : Int) ≤ x ∧ x ≤ 9223372036854775807) := hx
  have HT : Hid (Leb.take bs x = (n, k, f)) := hT
  clear hr hx hT
  by_cases hf : f = 0
  · have h64 : 64 < n := by omega
    have hf' : ((f : Int) != 0) = false := by simp [hf]
    have HF : Hid ((if f = 0 then 6 else f) = 6) := by show _ = _; rw [if_pos hf]
    rw [HF.out]
    clear hf
    go_enter Try.func9, Try.ntmps9
    go_wp2_with fail
    refine (ref_TakeUint a len cap bs x w HR.out hl HX.out).mono ?_
    rw [HT.out]
    rintro e w1 ⟨rfl, rfl⟩
    unfold told
    go_wp2
    go_ret3
    exact ⟨rfl, rfl⟩
  · have hf' : ((f : Int) != 0) = true := by simp [hf]
    have HF : Hid ((if f = 0 then 6 else f) = f) := by show _ = _; rw [if_neg hf]
    rw [HF.out]
    clear hf
    go_enter Try.func9, Try.ntmps9
    go_wp2_with fail
    refine (ref_TakeUint a len cap bs x w HR.out hl HX.out).mono ?_
    rw [HT.out]
    rintro e w1 ⟨rfl, rfl⟩
    unfold told
    go_wp2
    go_ret3
    exact ⟨rfl, rfl⟩

set_option maxRecDepth 100000 in
set_option maxHeartbeats 2000000 in
theorem ref_TakeJoin_body (a : Option Addr) (len cap : Nat) (bs : List Nat) (x : Int) (w : World) (hr : Rd w a len bs) (hlc : len ≤ cap) (hl : len ≤ 9223372036854775000) (hx : (-9223372036854775808 : Int) ≤ x ∧ x ≤ 9223372036854775807) (n k : Nat) (hT : Leb.take bs x = (n, k, 0)) (hn : n ≤ 64) :
    Calls Try.prog 9 #[.slice a len cap, .int .i64 x] w fun e w' => Below w.heap.size w w' ∧ ((∃ f, f ≠ 0 ∧ JoinM.takes bs n k = ([], 0, f) ∧ e = toldJ f) ∨ ∃ v ps q, JoinM.takes bs n k = (ps.map Pt.dat, q, 0) ∧ ps.length = n ∧ e = .returned (.tuple #[v, .int .i64 (q : Int), .int .i64 0]) ∧ Lst w' w.heap.size v ps) := by
  have HR : Hid (Rd w a len bs) := hr
  have HX : Hid ((-9223372036854775808 : Int) ≤ x ∧ x ≤ 9223372036854775807) := hx
  have HT : Hid (Leb.take bs x = (n, k, 0)) := hT
  have HBL : Hid (bs.length = len) := hr.size
  have hk : k ≤ len := by
    obtain ⟨p, _, _, hkl, _, _⟩ := Leb.take_once bs x hr.byte n k hT
    rw [hr.size] at hkl
    exact hkl
  have HBY : Hid (∀ y ∈ bs, y < 256) := hr.byte
  obtain ⟨i1, hi1, hy0, hy1, hy2⟩ := info_parts infoRows
  clear hr hx hT
  go_enter Try.func9, Try.ntmps9
  go_wp2_with fail
  refine (ref_TakeUint a len cap bs x w HR.out hl HX.out).mono ?_
  rw [HT.out]
  rintro e w1 ⟨rfl, rfl⟩
  unfold told
  have hn' : ¬ 64 < (n : Int) := by omega
  go_wp2
  go_loopw [8, 10, 11] (fun t8 t10 t11 wr => ∃ (i p : Nat) (ps : List Pt), i ≤ n ∧ p ≤ len ∧ ps.length = i ∧ t11 = .int .i64 (i : Int) ∧ t8 = .int .i64 (p : Int) ∧ Hid (Lst wr w1.heap.size t10 ps) ∧ Hid (JoinM.takes bs n k = JoinM.comb (ps.map Pt.dat) (JoinM.takes bs (n - i) p)) ∧ Hid (Below w1.heap.size w1 wr)) (fun _ _ t11 _ => n - (intOf t11).toNat)
  case atStart => exact ⟨0, k, [], by omega, hk, rfl, rfl, rfl, Lst.fresh w1, (by show _ = _; rw [Nat.sub_zero, List.map_nil, JoinM.comb_nil]), below_alloc w1 _⟩
  case round =>
    obtain ⟨i, p, ps, hi, hp, hpl, rfl, rfl, HO, HS, HB⟩ := hrel
    by_cases hlt : i < n
    · have hlt' : (i : Int) < (n : Int) := by omega
      rcases hRG : range bs (p : Int) 4096 with ⟨u, v, f⟩
      have eni : n - i = (n - (i + 1)) + 1 := by omega
      by_cases hf : f = 0
      · subst hf
        obtain ⟨hu0, huv, hvl, hvu⟩ := range_ok bs (p : Int) 4096 u v HBY.out hRG
        rw [HBL.out] at hvl
        have HS' : Hid (JoinM.takes bs n k = JoinM.comb (ps.map Pt.dat ++ [(bs.drop u).take (v - u)]) (JoinM.takes bs (n - (i + 1)) v)) := by
          show _ = _
          have h := HS.out
          rw [eni, JoinM.takes_ok bs _ p u v hRG, JoinM.comb_comb] at h
          exact h
        obtain ⟨B, HBD⟩ : ∃ B, Hid (B = (bs.drop u).take (v - u)) := ⟨_, rfl⟩
        rw [← HBD.out] at HS'
        have HSUB : Hid (sub bs (range bs (p : Int) 4096) = (B, v, 0)) := by show _ = _; rw [hRG, HBD.out]; rfl
        clear hRG HS
        go_wp2_with fail
        refine (ref_some a len cap bs (p : Int) 4096 (by omega) wr (HR.out.below HB.out) hlc hl (by omega) B v 0 HSUB.out).mono ?_
        rintro e w3 ⟨a3, m3, c3, rfl, ho3, hb3⟩
        have HO3 : Hid (Own w3 w1.heap.size a3 m3 c3 B) := ho3.lower HB.out.size
        have HL3 : Hid (Lst w3 w1.heap.size u10 ps) := HO.out.below hb3
        have HB3 : Hid (Below w1.heap.size w1 w3) := HB.out.trans (hb3.mono HB.out.size)
        have HA3 : Hid (Below w3.heap.size w3 (w3.alloc (.cells #[.slice a3 m3 c3] 23))) := below_alloc w3 _
        clear ho3 hb3
        go_wp2_with (at_builtin; refine wpList_append_own _ (by rfl) (.tmp 44) (.tmp 46) 22 (by rfl) w1.heap.size 23 i1 (.slice none 0 0) 1 24 Try.underlying22 hi1 hy0 hy1 hy2 (by rfl) (by decide) u10 ps.length (ps.map Pt.val) (by rfl) (HL3.out.below HA3.out).row ⟨w3.heap.size, 0, none⟩ 1 1 [.slice a3 m3 c3] (by rfl) (by rfl) ?_ ?_ (by unfold maxLen; omega) (by omega) (Nat.le_trans HB3.out.size HA3.out.size) ?_)
        · intro j y hj
          match j with
          | 0 => simp at hj; subst hj; simp [Addr.add]
          | j + 1 => simp at hj
        · intro y hy
          rw [List.mem_singleton] at hy
          subst hy
          rfl
        intro v' w4 hrow hgrow _
        have HL4 : Hid (Lst w4 w1.heap.size v' (ps ++ [⟨a3, m3, c3, B⟩])) := (HL3.out.below HA3.out).snoc ⟨a3, m3, c3, B⟩ (HO3.out.below HA3.out) hgrow (by rw [hpl]; exact hrow)
        have HB4 : Hid (Below w1.heap.size w1 w4) := (HB3.out.trans (HA3.out.mono HB3.out.size)).trans ((Below.refl _ _).grown hgrow (Nat.le_trans HB3.out.size HA3.out.size) (fun k hk => (HL3.out.below HA3.out).at_ hk))
        clear hrow hgrow
        go_wp2
        go_roundw
        case rel => exact ⟨i + 1, v, ps ++ [⟨a3, m3, c3, B⟩], by omega, hvl, by rw [List.length_append, hpl]; rfl, by go_num, rfl, HL4, (by show _ = _; rw [List.map_append]; exact HS'.out), HB4⟩
        case measure => simp [intOf]; omega
      · have HBAD : Hid (JoinM.takes bs n k = ([], 0, f)) := by
          show _ = _
          have h := HS.out
          rw [eni, JoinM.takes_bad bs _ p u v f hRG hf, JoinM.comb_bad _ f hf] at h
          exact h
        have HF0 : Hid (f ≠ 0) := hf
        have hf' : ((f : Int) != 0) = true := by simp [hf]
        have HSUB : Hid (sub bs (range bs (p : Int) 4096) = ([], 0, f)) := by show _ = _; rw [hRG]; exact sub_err _ _ _ _ hf
        clear hRG HS hf
        go_wp2_with fail
        refine (ref_some a len cap bs (p : Int) 4096 (by omega) wr (HR.out.below HB.out) hlc hl (by omega) [] 0 f HSUB.out).mono ?_
        rintro e w3 ⟨a3, m3, c3, rfl, ho3, hb3⟩
        have HB3 : Hid (Below w1.heap.size w1 w3) := HB.out.trans (hb3.mono HB.out.size)
        clear ho3 hb3
        go_wp2
        go_ret3
        exact ⟨HB3.out, .inl ⟨f, HF0.out, HBAD.out, rfl⟩⟩
    · have hnl : ¬ (i : Int) < (n : Int) := by omega
      go_wp2
      go_ret3
      have e : n - i = 0 := by omega
      have h1 := HS.out
      rw [e] at h1
      refine ⟨HB.out, .inr ⟨_, ps, p, ?_, by omega, rfl, HO.out⟩⟩
      rw [h1]
      exact JoinM.comb_end _ _
end Go.Proofs.Ytbhljlafijdodab
