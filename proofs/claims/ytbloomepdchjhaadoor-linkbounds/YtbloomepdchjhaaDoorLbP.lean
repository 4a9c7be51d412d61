/- A pack of texts: Lk21 Lb2 Lb3. -/
import Derived.Test.YtbloomepdchjhaaDoorLk20
import Derived.Test.YtbloomepdchjhaaDoorLb1
import Derived.Test.YtbloomepdchjhaaDoorRpQ
import Derived.Test.YtbloomepdchjhaaDoorLbQ
/- Right parcels' items fit; what a seal holds. -/
namespace Go.Proofs.YtbloomepdchjhaaDoor
open Go.RowKit

theorem itE_fit {p : Pc} : ∀ (l : List It) (least : Int), itE p least l = 0 → ∀ q ∈ l, least ≤ q.tick ∧ q.tick ≤ p.to_ ∧ q.body.length ≤ 400
  | [], _, _, q, hq => by cases hq
  | x :: l, least, h, q, hq => by
    by_cases h1 : x.tick < least ∨ p.to_ < x.tick ∨ atS p.spans x.tick ≠ 0
    · rw [itE_tick h1] at h; cases h
    · by_cases h2 : 400 < x.body.length
      · rw [itE_long h1 h2] at h; cases h
      · rw [itE_next h1 h2] at h
        rcases List.mem_cons.1 hq with rfl | hq
        · omega
        · have h3 := itE_fit l _ h q hq
          omega
theorem chk_fit14 {p : Pc} (h : chk p = 0) (he : ∀ q ∈ p.items, ((-9223372036854775808 : Int) ≤ q.tick ∧ q.tick ≤ 9223372036854775807) ∧ (0 ≤ q.for_ ∧ q.for_ ≤ 4294967295)) : newsB p.kind = true → ∀ q ∈ p.items, ItFit q := by
  intro hn q hq
  obtain ⟨h1, h2, h3⟩ := chk_zero h
  obtain ⟨_, _, h4⟩ := h3 hn
  have hk : p.kind = 1 := by simpa [newsB] using hn
  have hr : rngB p = true := num_to (p := p) (su := subB p.kind) (fr := fromB p.kind) (by rw [show toB p.kind = true from by rw [hk]; rfl] at h2; exact h2)
  simp only [rngB, decide_eq_true_eq] at hr
  obtain ⟨a, b, c⟩ := itE_fit _ _ h4 q hq
  exact ⟨⟨by omega, by omega⟩, (he q hq).2, c⟩
theorem sealed_mem {k : Nat} {bs : List Nat} {y : Nat} (h : y ∈ bs) : y ∈ SealM.sealed k bs := by
  unfold SealM.sealed SealM.inner
  simp [h]
end Go.Proofs.YtbloomepdchjhaaDoor
/- The reference's Frame of whatever numbers; the law's frame; a Probe that finds no room. -/
namespace Go.Proofs.YtbloomepdchjhaaDoor
open Go.RowKit

set_option maxRecDepth 100000 in
set_option maxHeartbeats 4000000 in
theorem ref_Frame2 (k u0 u1 u2 : Nat) (own other n : Int) (hk : k < 256) (h1 : IntKind.u64.wrap own = (u0 : Int)) (h2 : IntKind.u64.wrap other = (u1 : Int)) (h3 : IntKind.u64.wrap n = (u2 : Int)) (hu : u0 < 18446744073709551616 ∧ u1 < 18446744073709551616 ∧ u2 < 18446744073709551616) (ra : Option Addr) (rn rc : Nat) (rest : List Nat) (w : World) (hr : Rd w ra rn rest) (hz : ra = none → rc = 0) (hlen : (lebs [u0, u1, u2]).length + rn ≤ 4096) :
    Calls Tryd.prog 27 #[.int .u8 (k : Int), .int .i64 own, .int .i64 other, .int .i64 n, .slice ra rn rc] w fun e w' => (∃ a c, e = .returned (.slice a ((lebs [u0, u1, u2]).length + rn + 8) c) ∧ Hid (Own w' w.heap.size a ((lebs [u0, u1, u2]).length + rn + 8) c (SealM.sealed k (lebs [u0, u1, u2] ++ rest)))) ∧ Below w.heap.size w w' := by
  have HR : Hid (Rd w ra rn rest) := hr
  have HRZ : Hid (ra = none → rc = 0) := hz
  have e1 : (lebs [u0, u1, u2]).length = (Leb.leb u0).length + (Leb.leb u1).length + (Leb.leb u2).length := by simp [lebs]; omega
  obtain ⟨A, HA⟩ : ∃ A, Hid (A = Leb.leb u0) := ⟨_, rfl⟩
  obtain ⟨B, HB⟩ : ∃ A, Hid (A = Leb.leb u1) := ⟨_, rfl⟩
  obtain ⟨C, HC⟩ : ∃ A, Hid (A = Leb.leb u2) := ⟨_, rfl⟩
  have HT : Hid (lebs [u0, u1, u2] = A ++ B ++ C) := by show _ = _; rw [HA.out, HB.out, HC.out]; simp [lebs]
  rw [HT.out] at hlen ⊢
  have hl2 : A.length + B.length + C.length + rn ≤ 4096 := by simp only [List.length_append] at hlen; omega
  have HU1 : Hid (∀ w0, Calls Tryd.prog 40 #[.int .u64 (u0 : Int)] w0 fun e w' => ∃ a c, e = .returned (.slice a A.length c) ∧ Own w' w0.heap.size a A.length c A ∧ Below w0.heap.size w0 w') := by
    intro w0
    rw [HA.out]
    refine (ref_Uint u0 (by omega) w0).mono ?_
    rintro e w' ⟨a, c, h1, _, h2, h3⟩
    exact ⟨a, c, h1, h2, h3⟩
  have HU2 : Hid (∀ w0, Calls Tryd.prog 40 #[.int .u64 (u1 : Int)] w0 fun e w' => ∃ a c, e = .returned (.slice a B.length c) ∧ Own w' w0.heap.size a B.length c B ∧ Below w0.heap.size w0 w') := by
    intro w0
    rw [HB.out]
    refine (ref_Uint u1 (by omega) w0).mono ?_
    rintro e w' ⟨a, c, h1, _, h2, h3⟩
    exact ⟨a, c, h1, h2, h3⟩
  have HU3 : Hid (∀ w0, Calls Tryd.prog 40 #[.int .u64 (u2 : Int)] w0 fun e w' => ∃ a c, e = .returned (.slice a C.length c) ∧ Own w' w0.heap.size a C.length c C ∧ Below w0.heap.size w0 w') := by
    intro w0
    rw [HC.out]
    refine (ref_Uint u2 (by omega) w0).mono ?_
    rintro e w' ⟨a, c, h1, _, h2, h3⟩
    exact ⟨a, c, h1, h2, h3⟩
  obtain ⟨la, hla⟩ : ∃ la, la = A.length := ⟨_, rfl⟩
  obtain ⟨lb, hlb⟩ : ∃ la, la = B.length := ⟨_, rfl⟩
  obtain ⟨lc, hlc⟩ : ∃ la, la = C.length := ⟨_, rfl⟩
  have HLS : Hid ((A ++ B ++ C).length = la + lb + lc) := by show _ = _; rw [hla, hlb, hlc]; simp only [List.length_append]
  rw [← hla, ← hlb, ← hlc] at hl2
  rw [← hla] at HU1
  rw [← hlb] at HU2
  rw [← hlc] at HU3
  rw [HLS.out]
  clear hr hz hlen e1 HA HB HC HT hla hlb hlc
  go_enter Tryd.func27, Tryd.ntmps27
  go_wp2_with fail
  refine (HU1.out _).mono ?_
  rintro e w1 ⟨a1, c1, rfl, ho1, hb1⟩
  have HO1 : Hid (Own w1 w.heap.size a1 la c1 A) := ho1
  have HB1 : Hid (Below w.heap.size w w1) := hb1
  clear ho1 hb1
  go_wp2_with fail
  refine (HU2.out _).mono ?_
  rintro e w2 ⟨a2, c2, rfl, ho2, hb2⟩
  have HO2 : Hid (Own w2 w1.heap.size a2 lb c2 B) := ho2
  have HO12 : Hid (Own w2 w.heap.size a1 la c1 A) := HO1.out.below hb2
  have HB2 : Hid (Below w.heap.size w w2) := HB1.out.trans (hb2.mono HB1.out.size)
  clear ho2 hb2
  go_wp2_with (at_builtin; refine wpList_append_rd rfl (.tmp 17) (.tmp 20) rfl w.heap.size a1 la c1 A rfl HO12.out a2 lb c2 B rfl HO2.out.rd HO2.out.nil_cap' (by omega) HB2.out.size ?_)
  intro a3 c3 w3 ho3 hg3 hb3
  have HO3 : Hid (Own w3 w.heap.size a3 (la + lb) c3 (A ++ B)) := ho3
  have HB3 : Hid (Below w.heap.size w w3) := HB2.out.trans hb3
  clear ho3 hg3 hb3 HO1 HO2 HO12
  go_wp2_with fail
  refine (HU3.out _).mono ?_
  rintro e w4 ⟨a4, c4, rfl, ho4, hb4⟩
  have HO4 : Hid (Own w4 w3.heap.size a4 lc c4 C) := ho4
  have HO34 : Hid (Own w4 w.heap.size a3 (la + lb) c3 (A ++ B)) := HO3.out.below hb4
  have HB4 : Hid (Below w.heap.size w w4) := HB3.out.trans (hb4.mono HB3.out.size)
  clear ho4 hb4
  go_wp2_with (at_builtin; refine wpList_append_rd rfl (.tmp 22) (.tmp 25) rfl w.heap.size a3 (la + lb) c3 (A ++ B) rfl HO34.out a4 lc c4 C rfl HO4.out.rd HO4.out.nil_cap' (by omega) HB4.out.size ?_)
  intro a5 c5 w5 ho5 hg5 hb5
  have HO5 : Hid (Own w5 w.heap.size a5 (la + lb + lc) c5 (A ++ B ++ C)) := by show Own _ _ _ _ _ _; rw [List.append_assoc]; exact ho5
  have HB5 : Hid (Below w.heap.size w w5) := HB4.out.trans hb5
  have HR5 : Hid (Rd w5 ra rn rest) := HR.out.below HB5.out
  clear ho5 hg5 hb5 HO3 HO4 HO34
  go_wp2_with (at_builtin; refine wpList_append_rd rfl (.tmp 29) (.tmp 30) rfl w.heap.size a5 (la + lb + lc) c5 (A ++ B ++ C) rfl HO5.out ra rn rc rest rfl HR5.out HRZ.out (by omega) HB5.out.size ?_)
  intro a6 c6 w6 ho6 hg6 hb6
  have HO6 : Hid (Own w6 w.heap.size a6 (la + lb + lc + rn) c6 (A ++ B ++ C ++ rest)) := by show Own _ _ _ _ _ _; rw [List.append_assoc, List.append_assoc]; exact ho6
  have HB6 : Hid (Below w.heap.size w w6) := HB5.out.trans hb6
  clear ho6 hg6 hb6 HO5 HR5
  go_wp2_with fail
  refine (ref_Seal k hk a6 (la + lb + lc + rn) c6 (A ++ B ++ C ++ rest) w6 HO6.out.rd HO6.out.nil_cap' (by omega)).mono ?_
  rintro e w7 ⟨a7, c7, rfl, ho7, hb7⟩
  have HO7 : Hid (Own w7 w.heap.size a7 (la + lb + lc + rn + 8) c7 (SealM.sealed k (A ++ B ++ C ++ rest))) := ho7.under HB6.out.size
  have HB7 : Hid (Below w.heap.size w w7) := HB6.out.trans (hb7.mono HB6.out.size)
  clear ho7 hb7
  go_wp2
  go_ret
  exact ⟨⟨a7, c7, rfl, HO7⟩, HB7.out⟩

set_option maxRecDepth 100000 in
set_option maxHeartbeats 4000000 in
theorem lk_Probe_full (w : World) (base g : Nat) (wv : Value) (L : List (Wt × Bd)) (l : Lk) (h : LkIn w base g wv L l) (hq : l.queue ≤ (L.length : Int)) :
    Calls Tryd.prog 14 #[.pointer (some ⟨g, 0, none⟩)] w fun e w' => (∃ v, e = .returned v) ∧ Below w.heap.size w w' := by
  have HL : Hid (LkIn w base g wv L l) := h
  clear h
  go_enter Tryd.func14, Tryd.ntmps14
  go_wp2_with fail
  refine (lk_wait_full w base g wv L l HL.out 2 none 0 0 hq).mono ?_
  rintro e w2 ⟨rfl, hb2⟩
  have HB2 : Hid (Below w.heap.size w w2) := hb2
  clear hb2
  go_wp2
  go_ret
  exact ⟨⟨_, rfl⟩, HB2.out⟩

/-- What a deed's frame has behind its numbers. -/
def rest14 (k : Nat) (p : Pc) : List Nat := if k = 1 then putD p else []
theorem putD_short {p : Pc} (he : ∀ q ∈ p.items, ((-9223372036854775808 : Int) ≤ q.tick ∧ q.tick ≤ 9223372036854775807) ∧ (0 ≤ q.for_ ∧ q.for_ ≤ 4294967295)) : (putD p).length ≤ 3831 := by
  unfold putD
  split
  · rename_i h; exact putP_short h (chk_fit14 h he)
  · simp
set_option maxRecDepth 100000 in
set_option maxHeartbeats 4000000 in
theorem law_frame (k u0 u1 u2 : Nat) (own other nn dd at_ : Int) (hk : k < 256) (h1 : IntKind.u64.wrap own = (u0 : Int)) (h2 : IntKind.u64.wrap other = (u1 : Int)) (h3 : IntKind.u64.wrap nn = (u2 : Int)) (hu : u0 < 18446744073709551616 ∧ u1 < 18446744073709551616 ∧ u2 < 18446744073709551616) (pk pp ps pn pf pt : Int) (pl : List Sp) (pi : List It) (sa : Option Addr) (sn sc : Nat) (ia : Option Addr) (im ic : Nat) (ba : Option Addr) (bn bc : Nat) (w : World) (hp : PcRd w ⟨pk, pp, ps, pn, pf, pt, pl, pi⟩ sa sn sc ia im ic) (hbg : PcBig ⟨pk, pp, ps, pn, pf, pt, pl, pi⟩ sa sc ia ic) :
    Calls Tryd.prog 15 #[.agg #[.int .i64 dd, .int .i64 pk, .int .i64 pp, .int .i64 ps, .int .i64 pn, .int .i64 pf, .int .i64 pt, .slice sa sn sc, .slice ia im ic, .int .u8 (k : Int), .int .i64 own, .int .i64 other, .int .i64 nn, .slice ba bn bc, .int .i64 at_]] w fun e w' => (∃ a n c, e = .returned (.slice a n c) ∧ Hid (Own w' w.heap.size a n c (SealM.sealed k (lebs [u0, u1, u2] ++ rest14 k ⟨pk, pp, ps, pn, pf, pt, pl, pi⟩)))) ∧ Below w.heap.size w w' := by
  have HP : Hid (PcRd w ⟨pk, pp, ps, pn, pf, pt, pl, pi⟩ sa sn sc ia im ic) := hp
  have HBG : Hid (PcBig ⟨pk, pp, ps, pn, pf, pt, pl, pi⟩ sa sc ia ic) := hbg
  have HL3 : Hid ((lebs [u0, u1, u2]).length ≤ 30) := by have h5 := lebs_len [u0, u1, u2]; show _ ≤ _; simpa using h5
  obtain ⟨W0, HW0⟩ : ∃ W0, Hid (W0 = w.alloc (.cells #[.int .i64 dd, .int .i64 pk, .int .i64 pp, .int .i64 ps, .int .i64 pn, .int .i64 pf, .int .i64 pt, .slice sa sn sc, .slice ia im ic, .int .u8 (k : Int), .int .i64 own, .int .i64 other, .int .i64 nn, .slice ba bn bc, .int .i64 at_] 57)) := ⟨_, rfl⟩
  have HB0 : Hid (Below w.heap.size w W0) := by rw [HW0.out]; exact below_new _ _
  have HX0 : Hid (Bk W0 w.heap.size #[.int .i64 dd, .int .i64 pk, .int .i64 pp, .int .i64 ps, .int .i64 pn, .int .i64 pf, .int .i64 pt, .slice sa sn sc, .slice ia im ic, .int .u8 (k : Int), .int .i64 own, .int .i64 other, .int .i64 nn, .slice ba bn bc, .int .i64 at_] 57) := by rw [HW0.out]; exact Bk.new _ _ _
  clear hp hbg
  go_enter Tryd.func15, Tryd.ntmps15
  go_wp2_with fail
  rw [← HW0.out]
  refine (ref_Put13 ⟨pk, pp, ps, pn, pf, pt, pl, pi⟩ sa sn sc ia im ic W0 (HP.out.below HB0.out)).mono ?_
  rintro e w1 ⟨⟨b1, m1, c1, he, ho1⟩, hb1⟩
  subst he
  have HO1 : Hid (Own w1 W0.heap.size b1 m1 c1 (putD ⟨pk, pp, ps, pn, pf, pt, pl, pi⟩)) := ho1
  have HX1 : Hid (Bk w1 w.heap.size #[.int .i64 dd, .int .i64 pk, .int .i64 pp, .int .i64 ps, .int .i64 pn, .int .i64 pf, .int .i64 pt, .slice sa sn sc, .slice ia im ic, .int .u8 (k : Int), .int .i64 own, .int .i64 other, .int .i64 nn, .slice ba bn bc, .int .i64 at_] 57) := HX0.out.stay hb1
  have HB1 : Hid (Below w.heap.size w w1) := HB0.out.trans (hb1.mono HB0.out.size)
  have hm1 : m1 ≤ 3831 := by
    have h5 := ho1.size
    have h6 := putD_short HP.out.items.each
    omega
  have c9 : w1.cell? ⟨w.heap.size, 9, none⟩ = some (.int .u8 (k : Int)) := HX1.out.cell 9 rfl
  have c10 : w1.cell? ⟨w.heap.size, 10, none⟩ = some (.int .i64 own) := HX1.out.cell 10 rfl
  have c11 : w1.cell? ⟨w.heap.size, 11, none⟩ = some (.int .i64 other) := HX1.out.cell 11 rfl
  have c12 : w1.cell? ⟨w.heap.size, 12, none⟩ = some (.int .i64 nn) := HX1.out.cell 12 rfl
  clear ho1 hb1
  by_cases hk1 : k = 1
  · subst hk1
    have HRE : Hid (rest14 1 ⟨pk, pp, ps, pn, pf, pt, pl, pi⟩ = putD ⟨pk, pp, ps, pn, pf, pt, pl, pi⟩) := by show _ = _; rw [rest14, if_pos rfl]
    go_wp2_with fail
    refine (ref_Frame2 1 u0 u1 u2 own other nn (by omega) h1 h2 h3 hu b1 m1 c1 (putD ⟨pk, pp, ps, pn, pf, pt, pl, pi⟩) w1 HO1.out.rd HO1.out.nil_cap' (by have h5 := HL3.out; omega)).mono ?_
    rintro e w2 ⟨⟨a2, c2, he, HO2⟩, hb2⟩
    subst he
    have HO2w : Hid (Own w2 w.heap.size a2 ((lebs [u0, u1, u2]).length + m1 + 8) c2 (SealM.sealed 1 (lebs [u0, u1, u2] ++ putD ⟨pk, pp, ps, pn, pf, pt, pl, pi⟩))) := HO2.out.under HB1.out.size
    have HB2 : Hid (Below w.heap.size w w2) := HB1.out.trans (hb2.mono HB1.out.size)
    clear hb2
    go_wp2
    go_ret
    exact ⟨⟨_, _, _, rfl, by rw [HRE.out]; exact HO2w⟩, HB2.out⟩
  · have HRE : Hid (rest14 k ⟨pk, pp, ps, pn, pf, pt, pl, pi⟩ = []) := by show _ = _; rw [rest14, if_neg hk1]
    have hkn : ¬ (k : Int) = 1 := by omega
    go_wp2_with fail
    refine (ref_Frame2 k u0 u1 u2 own other nn hk h1 h2 h3 hu none 0 0 [] w1 (Own.none_ w1 0).rd (fun _ => rfl) (by have h5 := HL3.out; omega)).mono ?_
    rintro e w2 ⟨⟨a2, c2, he, HO2⟩, hb2⟩
    subst he
    have HO2w : Hid (Own w2 w.heap.size a2 ((lebs [u0, u1, u2]).length + 0 + 8) c2 (SealM.sealed k (lebs [u0, u1, u2] ++ []))) := HO2.out.under HB1.out.size
    have HB2 : Hid (Below w.heap.size w w2) := HB1.out.trans (hb2.mono HB1.out.size)
    clear hb2
    go_wp2
    go_ret
    exact ⟨⟨_, _, _, rfl, by rw [HRE.out]; exact HO2w⟩, HB2.out⟩

end Go.Proofs.YtbloomepdchjhaaDoor
/- Take of a frame with whatever numbers: the link is a link behind it. -/
namespace Go.Proofs.YtbloomepdchjhaaDoor
open Go.RowKit

theorem takeP_nil : takeP [] = (Pc.zero, 3) := takeP_none rfl
/-- What a link may be behind a Take. -/
def Took (w : World) (B g : Nat) (L : List (Wt × Bd)) (l : Lk) : Prop := ∃ v' L' l' ot' gr', LkIn w B g v' L' l' ∧ Nums l' ot' gr' ∧ ot' ≤ 1073741824 ∧ l'.last = l.last ∧ l'.life = l.life ∧ l'.queue = l.queue ∧ (L' = L ∨ (L' = L ++ [((⟨3, []⟩ : Wt), ((none, 0, 0) : Bd))] ∧ (L.length : Int) < l.queue))
theorem on_frame {w : World} {B g : Nat} {v : Value} {L : List (Wt × Bd)} {l : Lk} {ot gr : Nat} (h : LkIn w B g v L l) (hn : Nums l ot gr) (ho : ot ≤ 1073741824) (hl : L.length ≤ 1000) (ht : Tab w) (h0 : 0 < w.heap.size) (k u0 u1 u2 : Nat) (hk : k < 256) (hu : u0 < 18446744073709551616 ∧ u1 < 18446744073709551616 ∧ u2 < 18446744073709551616) (p : Pc) (he : ∀ q ∈ p.items, ((-9223372036854775808 : Int) ≤ q.tick ∧ q.tick ≤ 9223372036854775807) ∧ (0 ≤ q.for_ ∧ q.for_ ≤ 4294967295))
    (a : Option Addr) (n c : Nat) (hr : Rd w a n (SealM.sealed k (lebs [u0, u1, u2] ++ rest14 k p))) (hnc : n ≤ c) :
    Calls Tryd.prog 10 #[.pointer (some ⟨g, 0, none⟩), .slice a n c, .int .i64 3] w fun e w' => (∃ x, e = .returned x) ∧ Hid (Took w' B g L l) ∧ Hid (Fr w w' g v) := by
  have h30 : (lebs [u0, u1, u2]).length ≤ 30 := by have h5 := lebs_len [u0, u1, u2]; simpa using h5
  have hrl : (rest14 k p).length ≤ 3831 := by
    unfold rest14
    split
    · exact putD_short he
    · simp
  have hlen : (lebs [u0, u1, u2]).length + (rest14 k p).length ≤ 4096 := by omega
  have hrb : ∀ y ∈ rest14 k p, y < 256 := fun y hy => hr.byte y (sealed_mem (List.mem_append_right _ hy))
  have bad : (∀ W, Below w.heap.size w W → w.heap.size + 1 ≤ W.heap.size → Calls Tryd.prog 23 #[.slice a n c] W fun e w' => ReadBad W e w') → Calls Tryd.prog 10 #[.pointer (some ⟨g, 0, none⟩), .slice a n c, .int .i64 3] w fun e w' => (∃ x, e = .returned x) ∧ Hid (Took w' B g L l) ∧ Hid (Fr w w' g v) := fun hrd => by
    refine (lk_Take_bad w B g v L l h a n c 3 (by omega) hrd).mono ?_
    rintro e w' ⟨h1, h2⟩
    exact ⟨h1, ⟨v, L, l, ot, gr, h.below h2, hn, ho, rfl, rfl, rfl, .inl rfl⟩, Fr.of h2⟩
  by_cases hkk : k ≠ 1 ∧ k ≠ 2 ∧ k ≠ 3
  · exact bad fun W hB _ => lk_read_type a n c _ (rest14 k p) k u0 u1 u2 W (hr.below hB) rfl hlen hrb hnc hk hu (ht.below h0 hB) (Nat.lt_of_lt_of_le h0 hB.size) hkk
  by_cases hb : ¬ (1 ≤ u0 ∧ u0 ≤ 1073741824 ∧ u1 ≤ 1073741824 ∧ 1 ≤ u2 ∧ u2 ≤ 1099511627776)
  · have h3 : k = 1 ∨ k = 2 ∨ k = 3 := by omega
    rcases h3 with rfl | rfl | rfl
    · exact bad fun W hB _ => lk_read_bad1 a n c _ (rest14 1 p) u0 u1 u2 W (hr.below hB) rfl hlen hrb hnc hu (ht.below h0 hB) (Nat.lt_of_lt_of_le h0 hB.size) hb
    · exact bad fun W hB _ => lk_read_bad2 a n c _ (rest14 2 p) u0 u1 u2 W (hr.below hB) rfl hlen hrb hnc hu (ht.below h0 hB) (Nat.lt_of_lt_of_le h0 hB.size) hb
    · exact bad fun W hB _ => lk_read_bad3 a n c _ (rest14 3 p) u0 u1 u2 W (hr.below hB) rfl hlen hrb hnc hu (ht.below h0 hB) (Nat.lt_of_lt_of_le h0 hB.size) hb
  obtain ⟨a0, a1, a2, a3, a4⟩ := Classical.not_not.1 hb
  obtain ⟨ot', gr', h1, h2, _, _, _⟩ := accR_law hn u0 u1 u2 a4
  have hrest := accR_rest l ot gr u0 u1 u2
  have hot' : ot' ≤ 1073741824 := by omega
  have no : ∀ (kk : Nat) (P : World → Value → Prop), (∀ W, Below w.heap.size w W → w.heap.size + 1 ≤ W.heap.size → Calls Tryd.prog 23 #[.slice a n c] W fun e w' => ReadTold kk u0 u1 u2 W P e w') → (accR l ot gr u0 u1 u2).1 ≠ 0 → Calls Tryd.prog 10 #[.pointer (some ⟨g, 0, none⟩), .slice a n c, .int .i64 3] w fun e w' => (∃ x, e = .returned x) ∧ Hid (Took w' B g L l) ∧ Hid (Fr w w' g v) := fun kk P hrd hz => by
    refine (lk_Take_no w B g v L l h a n c kk u0 u1 u2 3 ot gr hn.o hn.g hn.gb hn.b a4 (by omega) P hrd hz).mono ?_
    rintro e w' ⟨h3, h4, h5⟩
    exact ⟨⟨_, h3⟩, ⟨v, L, _, ot', gr', h4.out, h1, hot', hrest.2.1, hrest.1, hrest.2.2.1, .inl rfl⟩, h5⟩
  have h3 : k = 1 ∨ k = 2 ∨ k = 3 := by omega
  rcases h3 with rfl | rfl | rfl
  · by_cases hc : chk p = 0
    · have e1 : rest14 1 p = putD p := if_pos rfl
      rw [e1] at hr hlen hrb
      have hrd : ∀ W, Below w.heap.size w W → w.heap.size + 1 ≤ W.heap.size → Calls Tryd.prog 23 #[.slice a n c] W fun e w' => ReadTold 1 u0 u1 u2 W (Par (w.heap.size + 1) (plainP p)) e w' := fun W hB hs =>
        told_1 hB hs a n c _ (putD p) u0 u1 u2 hr rfl hlen hrb hnc ⟨a0, a1⟩ a2 ⟨a3, a4⟩ ht h0 (plainP p) (takeP_put hc (chk_fit14 hc he))
      by_cases hz : (accR l ot gr u0 u1 u2).1 = 0
      · refine (lk_Take_yes_1 w B g v L l h a n c u0 u1 u2 3 ot gr hn.o hn.g hn.gb hn.b a4 (by omega) _ hrd (fun w1 w2 v hh hP => Par.stay w1 w2 v hh hP) hz _ rfl).mono ?_
        rintro e w' ⟨⟨x, h3, _⟩, h4, h5⟩
        exact ⟨⟨_, h3⟩, ⟨v, L, _, ot', gr', h4.out, ⟨h1.o, h1.g, h1.gb, h1.b⟩, hot', hrest.2.1, hrest.1, hrest.2.2.1, .inl rfl⟩, h5⟩
      · exact no 1 _ hrd hz
    · have e1 : rest14 1 p = [] := by rw [rest14, if_pos rfl, putD, if_neg hc]
      rw [e1] at hr hlen hrb
      exact bad fun W hB _ => lk_read_none a n c _ [] u0 u1 u2 W (hr.below hB) rfl hlen hrb hnc ⟨a0, a1⟩ a2 ⟨a3, a4⟩ (ht.below h0 hB) (Nat.lt_of_lt_of_le h0 hB.size) 3 (by decide) takeP_nil
  · have e1 : rest14 2 p = [] := if_neg (by decide)
    rw [e1, List.append_nil] at hr
    have hrd : ∀ W, Below w.heap.size w W → w.heap.size + 1 ≤ W.heap.size → Calls Tryd.prog 23 #[.slice a n c] W fun e w' => ReadTold 2 u0 u1 u2 W (Par (w.heap.size + 1) Pc.zero) e w' := fun W hB _ =>
      told_2 hB a n c _ u0 u1 u2 hr rfl hnc ⟨a0, a1⟩ a2 ⟨a3, a4⟩ ht h0
    by_cases hz : (accR l ot gr u0 u1 u2).1 = 0
    · by_cases hq : (L.length : Int) < (accR l ot gr u0 u1 u2).2.queue
      · refine (lk_Take_yes_2 w B g v L l h a n c u0 u1 u2 3 ot gr hn.o hn.g hn.gb hn.b a4 (by omega) _ hrd (fun w1 w2 v hh hP => Par.stay w1 w2 v hh hP) hz _ rfl hq hl).mono ?_
        rintro e w' ⟨⟨x, h3, _⟩, h4, h5⟩
        obtain ⟨v', h6⟩ := h4.out
        exact ⟨⟨_, h3⟩, ⟨v', _, _, ot', gr', h6, ⟨h1.o, h1.g, h1.gb, h1.b⟩, hot', hrest.2.1, hrest.1, hrest.2.2.1, .inr ⟨rfl, by rw [← hrest.2.2.1]; exact hq⟩⟩, h5⟩
      · refine (lk_Take_yes_2f w B g v L l h a n c u0 u1 u2 3 ot gr hn.o hn.g hn.gb hn.b a4 (by omega) _ hrd (fun w1 w2 v hh hP => Par.stay w1 w2 v hh hP) hz _ rfl (by omega)).mono ?_
        rintro e w' ⟨⟨x, h3, _⟩, h4, h5⟩
        exact ⟨⟨_, h3⟩, ⟨v, L, _, ot', gr', h4.out, ⟨h1.o, h1.g, h1.gb, h1.b⟩, hot', hrest.2.1, hrest.1, hrest.2.2.1, .inl rfl⟩, h5⟩
    · exact no 2 _ hrd hz
  · have e1 : rest14 3 p = [] := if_neg (by decide)
    rw [e1, List.append_nil] at hr
    have hrd : ∀ W, Below w.heap.size w W → w.heap.size + 1 ≤ W.heap.size → Calls Tryd.prog 23 #[.slice a n c] W fun e w' => ReadTold 3 u0 u1 u2 W (Par (w.heap.size + 1) Pc.zero) e w' := fun W hB _ =>
      told_3 hB a n c _ u0 u1 u2 hr rfl hnc ⟨a0, a1⟩ a2 ⟨a3, a4⟩ ht h0
    by_cases hz : (accR l ot gr u0 u1 u2).1 = 0
    · refine (lk_Take_yes_3 w B g v L l h a n c u0 u1 u2 3 ot gr hn.o hn.g hn.gb hn.b a4 (by omega) _ hrd (fun w1 w2 v hh hP => Par.stay w1 w2 v hh hP) hz _ rfl).mono ?_
      rintro e w' ⟨⟨x, h3, _⟩, h4, h5⟩
      exact ⟨⟨_, h3⟩, ⟨v, L, _, ot', gr', h4.out, ⟨h1.o, h1.g, h1.gb, h1.b⟩, hot', hrest.2.1, hrest.1, hrest.2.2.1, .inl rfl⟩, h5⟩
    · exact no 3 _ hrd hz
end Go.Proofs.YtbloomepdchjhaaDoor
