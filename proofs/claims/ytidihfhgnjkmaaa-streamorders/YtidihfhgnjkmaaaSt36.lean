/- grapevinelaw15.StreamOrders: the walk. -/
import Derived.Test.YtidihfhgnjkmaaaSt35
import Derived.Test.YtidihfhgnjkmaaaSt26
import Derived.Test.YtidihfhgnjkmaaaSt27
import Derived.Test.YtidihfhgnjkmaaaLiveP
import Derived.Test.YtidihfhgnjkmaaaSpRef
import Derived.Test.YtidihfhgnjkmaaaPcSame
namespace Go.Proofs.Ytidihfhgnjkmaaa
set_option maxRecDepth 100000
open Go.RowKit Go.Maps Go.Sort Go.Shelf

theorem Bodies.below {w w' : World} {B : Nat} {v : Value} {L : List Pa} (h : Bodies w B v L) (hb : Below w.heap.size w w') : Bodies w' B v L := ⟨h.row.below hb, h.ok, h.few⟩
/-- The parcel at a place. -/
def pAt (L : List Pa) (j : Nat) (p : Pc) : Prop := ∃ q, L[j]? = some q ∧ q.p = p
theorem pAt_more {L : List Pa} {i : Nat} {q : Pa} (hq : L[i]? = some q) (p : Pc) : (p = q.p ∨ ∃ j, j < i ∧ pAt L j p) ↔ ∃ j, j < i + 1 ∧ pAt L j p := by
  constructor
  · rintro (rfl | ⟨j, hj, h⟩)
    · exact ⟨i, by omega, q, hq, rfl⟩
    · exact ⟨j, by omega, h⟩
  · rintro ⟨j, hj, h⟩
    by_cases e : j = i
    · subst e
      obtain ⟨r, hr, rfl⟩ := h
      rw [hq] at hr
      exact .inl (by rw [Option.some.inj hr])
    · exact .inr ⟨j, by omega, h⟩
/-- What y has learnt. -/
def yAt (L : List Pa) (turn j : Nat) (p : Pc) : Prop := pAt L ((L.length - 1 - j + turn) % L.length) p ∨ pAt L 0 p
theorem yAt_more {L : List Pa} {turn i : Nat} {q r : Pa} (hq : L[(L.length - 1 - i + turn) % L.length]? = some q) (hr : L[0]? = some r) (p : Pc) : (p = r.p ∨ p = q.p ∨ ∃ j, j < i ∧ yAt L turn j p) ↔ ∃ j, j < i + 1 ∧ yAt L turn j p := by
  constructor
  · rintro (rfl | rfl | ⟨j, hj, h⟩)
    · exact ⟨i, by omega, .inr ⟨r, hr, rfl⟩⟩
    · exact ⟨i, by omega, .inl ⟨q, hq, rfl⟩⟩
    · exact ⟨j, by omega, h⟩
  · rintro ⟨j, hj, h⟩
    by_cases e : j = i
    · subst e
      rcases h with ⟨x, hx, rfl⟩ | ⟨x, hx, rfl⟩
      · rw [hq] at hx
        exact .inr (.inl (by rw [Option.some.inj hx]))
      · rw [hr] at hx
        exact .inl (by rw [Option.some.inj hx])
    · exact .inr (.inr ⟨j, by omega, h⟩)
/-- In the end both have learnt all. -/
theorem xy_all {L : List Pa} {turn : Nat} (p : Pc) : (∃ j, j < L.length ∧ pAt L j p) ↔ ∃ j, j < L.length ∧ yAt L turn j p := by
  constructor
  · rintro ⟨j, hj, h⟩
    refine ⟨(L.length - 1 - j + turn) % L.length, Nat.mod_lt _ (by omega), .inl ?_⟩
    have e : (L.length - 1 - (L.length - 1 - j + turn) % L.length + turn) % L.length = j := by
      generalize hN : L.length = N at hj ⊢
      have h1 := Nat.div_add_mod (N - 1 - j + turn) N
      have h2 := Nat.mod_lt (N - 1 - j + turn) (show 0 < N by omega)
      generalize (N - 1 - j + turn) % N = r at h1 h2 ⊢
      generalize (N - 1 - j + turn) / N = d at h1
      have h3 : N - 1 - r + turn = j + N * d := by omega
      rw [h3, Nat.add_mul_mod_self_left, Nat.mod_eq_of_lt hj]
    rw [e]
    exact h
  · rintro ⟨j, hj, ⟨q, h, rfl⟩ | ⟨q, h, rfl⟩⟩
    · exact ⟨_, (List.getElem?_eq_some_iff.1 h).1, q, h, rfl⟩
    · exact ⟨_, (List.getElem?_eq_some_iff.1 h).1, q, h, rfl⟩
theorem atS_spot : ∀ (l : List Sp) (p : Sp), RightS p l → ∀ (i : Nat) (q : Sp), l[i]? = some q → (p.to < q.fr ∧ q.to ≤ 1099511627776 ∧ q.fr ≤ q.to) ∧ ∀ t, q.fr ≤ t → t ≤ q.to → atS l t = q.is
  | [], _, _, _, _, h => by simp at h
  | s :: l, p, hr, 0, q, h => by
    obtain rfl : s = q := by simpa using h
    obtain ⟨h1, h2, h3, _⟩ := hr
    exact ⟨⟨h1, h3, h2⟩, fun t a b => atS_in a b⟩
  | s :: l, p, hr, i + 1, q, h => by
    obtain ⟨h1, h2, h3, _, _, _, hr⟩ := hr
    obtain ⟨⟨a1, a2, a3⟩, ha⟩ := atS_spot l s hr i q (by simpa using h)
    refine ⟨⟨by omega, a2, a3⟩, fun t b1 b2 => ?_⟩
    rw [atS_out (by omega)]
    exact ha t b1 b2
/-- One item in a block of its own. -/
theorem one_it {w : World} {g B : Nat} {q : It} {ba : Option Addr} {bc : Nat} (h : Bk w g #[.int .i64 q.tick, .int .u32 q.for_, .slice ba q.body.length bc] 42) (ho : Own w B ba q.body.length bc q.body) (hb : ((-9223372036854775808 : Int) ≤ q.tick ∧ q.tick ≤ 9223372036854775807) ∧ (0 ≤ q.for_ ∧ q.for_ ≤ 4294967295)) : ItsRd w (some ⟨g, 0, none⟩) 1 [q] := by
  refine ⟨rfl, .inr ⟨g, 0, rfl, h.lt, fun i x hi => ?_⟩, fun x hx => ?_⟩
  · cases i with
    | zero =>
      obtain rfl : q = x := by simpa using hi
      have := ho.cap_le
      unfold maxLen at this
      exact ⟨h.cell 0 rfl, h.cell 1 rfl, ba, _, bc, h.cell 2 rfl, ho.rd, ho.nil_cap', this.1, this.2⟩
    | succ i => simp at hi
  · obtain rfl := List.mem_singleton.1 hx
    exact hb
set_option maxHeartbeats 16000000 in
theorem orders_walk (a : Option Addr) (n c : Nat) (l : List Pa) (turn : Nat) (w : World) (h : PasRd w a n l) (hnc : n ≤ c ∧ c ≤ maxLen) (htn : turn ≤ 255) :
    Calls Try.prog 3 #[.slice a n c, .int .u8 (turn : Int)] w fun e w' => e = .returned (.bool true) ∧ Below w.heap.size w w' := by
  have HBC := law_bodies a n c l w h hnc
  clear h hnc
  go_enter Try.func3, Try.ntmps3
  go_wp2_with fail
  refine HBC.mono ?_
  rintro e w1 ⟨v, L, rfl, hB1, hL8, hb1⟩
  obtain ⟨va, vc, rfl⟩ := hB1.row.form
  have HBO : Hid (Bodies w1 w.heap.size (.slice va L.length vc) L) := hB1
  have HB1 : Hid (Below w.heap.size w w1) := hb1
  clear HBC hB1 hb1
  go_wp2_with fail
  refine (st_New w1).mono ?_
  rintro e w2 ⟨sx, mx, rfl, hx2, hg2, hb2⟩
  have HLX2 : Hid (LStr w2 sx mx L fun _ => False) := LStr.new L hx2
  have HLT2 : Hid (sx < w2.heap.size ∧ mx < w2.heap.size) := ⟨hx2.blk.lt, hx2.items.lt⟩
  have HB2 : Hid (Below w1.heap.size w1 w2) := hb2
  have HG2 : Hid (w1.heap.size ≤ sx ∧ w1.heap.size ≤ mx) := hg2
  clear hx2 hg2 hb2
  go_wp2_with fail
  refine (st_New w2).mono ?_
  rintro e w3 ⟨sy, my, rfl, hy3, hg3, hb3⟩
  have HLY3 : Hid (LStr w3 sy my L fun _ => False) := LStr.new L hy3
  have HLX3 : Hid (LStr w3 sx mx L fun _ => False) := HLX2.out.stay hb3
  have HNE : Hid (sx ≠ sy ∧ mx ≠ my) := by (show _ ∧ _); have := HLT2.out; omega
  have HG3 : Hid (w1.heap.size ≤ sy ∧ w1.heap.size ≤ my) := by (show _ ∧ _); have := HB2.out.size; omega
  have HB3 : Hid (Below w1.heap.size w1 w3) := HB2.out.trans (hb3.mono HB2.out.size)
  clear hy3 hg3 hb3 HLX2 HLT2 HB2
  obtain ⟨N, HN⟩ : ∃ N, Hid (N = L.length) := ⟨_, rfl⟩
  rw [← HN.out] at hL8 ⊢
  go_wp2
  go_loopw [8, 9] (fun t8 t9 wr => ∃ (i : Nat), t8 = .int .i64 (i : Int) ∧ i ≤ N ∧ Hid (LStr wr sx mx L fun p => ∃ j, j < i ∧ pAt L j p) ∧ Hid (LStr wr sy my L fun p => ∃ j, j < i ∧ yAt L turn j p) ∧ Hid (Below w1.heap.size w1 wr)) (fun t8 _ _ => N - (intOf t8).toNat)
  case atStart => exact ⟨0, rfl, by omega, HLX3.out.iff fun p => ⟨False.elim, fun ⟨j, hj, _⟩ => by omega⟩, HLY3.out.iff fun p => ⟨False.elim, fun ⟨j, hj, _⟩ => by omega⟩, HB3⟩
  case round =>
    obtain ⟨i, rfl, hi, HX, HY, HB⟩ := hrel
    by_cases hlt : i < N
    · have hlt' : (i : Int) < (N : Int) := by omega
      have gi : (0 : Int) ≤ (i : Int) := by omega
      have HBW : Hid (Bodies wr w.heap.size (.slice va L.length vc) L) := HBO.out.below HB.out
      obtain ⟨g, q, rfl, hq, d0, d1, d2, d3, d4, d5, d6, d7⟩ := HBW.out.row.spot i (by have := HN.out; omega)
      have HQ : Hid (L[i]? = some q) := hq
      obtain ⟨kk, hkk⟩ : ∃ kk, kk = (N - 1 - i + turn) % N := ⟨_, rfl⟩
      have hkN : kk < N := by rw [hkk]; exact Nat.mod_lt _ (by omega)
      obtain ⟨g', q', hgg, hq', _⟩ := HBW.out.row.spot kk (by have := HN.out; omega)
      cases hgg
      obtain ⟨g', q0, hgg, hq0, _⟩ := HBW.out.row.spot 0 (by have := HN.out; omega)
      cases hgg
      have HQ' : Hid (L[kk]? = some q') := hq'
      have HQ0 : Hid (L[0]? = some q0) := hq0
      clear hq hq' hq0
      have hm1 : Int.tmod ((N : Int) - 1 - (i : Int) + (turn : Int)) (N : Int) = (kk : Int) := by
        rw [Int.tmod_eq_emod_of_nonneg (by omega), hkk]
        have e : (N : Int) - 1 - (i : Int) + (turn : Int) = ((N - 1 - i + turn : Nat) : Int) := by omega
        rw [e]
        rfl
      have HKK : Hid (kk = (L.length - 1 - i + turn) % L.length) := by (show _ = _); rw [← HN.out]; exact hkk
      clear hkk
      go_upto_region 6 with fail
      go_upto_region 8 with (go_at_call 6; refine (lstr_Learn HX.out HBW.out (List.mem_of_getElem? HQ.out)).mono ?_; rintro e4 w4 ⟨⟨r4, rfl, _⟩, hx4, ht4⟩)
      have HX4 : Hid (LStr w4 sx mx L fun p => ∃ j, j < i + 1 ∧ pAt L j p) := hx4.iff (pAt_more HQ.out)
      have HY4 : Hid (LStr w4 sy my L fun p => ∃ j, j < i ∧ yAt L turn j p) := HY.out.two HX.out ht4 (Ne.symm HNE.out.1) (Ne.symm HNE.out.2)
      have HB4 : Hid (Below w1.heap.size w1 w4) := Two.below HB.out ht4 HG2.out.1 HG2.out.2 HB.out.size
      clear hx4 ht4 d0 d1 d2 d3 d4 d5 d6 d7
      have HBW4 : Hid (Bodies w4 w.heap.size (.slice (some ⟨g, 0, none⟩) L.length vc) L) := HBO.out.below HB4.out
      obtain ⟨g', q1, hgg, hq1, d0, d1, d2, d3, d4, d5, d6, d7⟩ := HBW4.out.row.spot kk (by have := HN.out; omega)
      cases hgg
      obtain rfl : q1 = q' := by rw [HQ'.out] at hq1; exact (Option.some.inj hq1).symm
      clear hq1
      have hkN' : (kk : Int) < (N : Int) := by omega
      have gk : (0 : Int) ≤ (kk : Int) := by omega
      go_upto_region 9 with (go_at_call 6; refine (lstr_Learn HY4.out HBW4.out (List.mem_of_getElem? HQ'.out)).mono ?_; rintro e5 w5 ⟨⟨r5, rfl, _⟩, hx5, ht5⟩)
      have HY5 : Hid (LStr w5 sy my L fun p => p = q1.p ∨ ∃ j, j < i ∧ yAt L turn j p) := hx5
      have HX5 : Hid (LStr w5 sx mx L fun p => ∃ j, j < i + 1 ∧ pAt L j p) := HX4.out.two HY4.out ht5 HNE.out.1 HNE.out.2
      have HB5 : Hid (Below w1.heap.size w1 w5) := Two.below HB4.out ht5 HG3.out.1 HG3.out.2 HB4.out.size
      clear hx5 ht5 d0 d1 d2 d3 d4 d5 d6 d7
      have HBW5 : Hid (Bodies w5 w.heap.size (.slice (some ⟨g, 0, none⟩) L.length vc) L) := HBO.out.below HB5.out
      obtain ⟨g', q2, hgg, hq2, d0, d1, d2, d3, d4, d5, d6, d7⟩ := HBW5.out.row.spot 0 (by have := HN.out; omega)
      cases hgg
      obtain rfl : q2 = q0 := by rw [HQ0.out] at hq2; exact (Option.some.inj hq2).symm
      clear hq2
      have gN : (0 : Int) < (N : Int) := by omega
      go_wp2_with (go_at_call 6; refine (lstr_Learn HY5.out HBW5.out (List.mem_of_getElem? HQ0.out)).mono ?_; rintro e6 w6 ⟨⟨r6, rfl, _⟩, hx6, ht6⟩; have HY6 : Hid (LStr w6 sy my L fun p => ∃ j, j < i + 1 ∧ yAt L turn j p) := hx6.iff (yAt_more (by rw [← HKK.out]; exact HQ'.out) HQ0.out); have HX6 : Hid (LStr w6 sx mx L fun p => ∃ j, j < i + 1 ∧ pAt L j p) := HX5.out.two HY5.out ht6 HNE.out.1 HNE.out.2; have HB6 : Hid (Below w1.heap.size w1 w6) := Two.below HB5.out ht6 HG3.out.1 HG3.out.2 HB5.out.size; clear hx6 ht6)
      go_roundw
      case rel => exact ⟨i + 1, by go_num, by omega, HX6, HY6, HB6⟩
      case measure => simp [intOf]; omega
    · have hlt' : ¬ (i : Int) < (N : Int) := by omega
      obtain rfl : i = N := by omega
      obtain ⟨N, hNi⟩ : ∃ N, N = i := ⟨_, rfl⟩
      subst hNi
      have HYA : Hid (LStr wr sy my L fun p => ∃ j, j < N ∧ pAt L j p) := HY.out.iff fun p => by rw [HN.out]; exact (xy_all p).symm
      obtain ⟨wa, rfl⟩ : ∃ wa, wa = wr := ⟨wr, rfl⟩
      clear HY HLX3 HLY3 HB3
      go_wp2
      go_loopw [10, 11, 12, 13] (fun t10 t11 t12 t13 wr => ∃ (i : Nat), t10 = .bool false ∧ t11 = .int .i64 (i : Int) ∧ i ≤ N ∧ Hid (LStr wr sx mx L fun p => ∃ j, j < N ∧ pAt L j p) ∧ Hid (LStr wr sy my L fun p => ∃ j, j < N ∧ pAt L j p) ∧ Hid (Below w1.heap.size w1 wr)) (fun _ t11 _ _ _ => N - (intOf t11).toNat)
      case atStart => exact ⟨0, rfl, rfl, by omega, HX, HYA, HB⟩
      case round =>
        clear HX HYA HB
        obtain ⟨i, rfl, rfl, hi2, HX, HY, HB⟩ := hrel
        by_cases hlt : i < N
        · have hlt' : (i : Int) < (N : Int) := by omega
          have gi : (0 : Int) ≤ (i : Int) := by omega
          have HBW : Hid (Bodies wr w.heap.size (.slice va L.length vc) L) := HBO.out.below HB.out
          obtain ⟨g, q, rfl, hq, d0, d1, d2, d3, d4, d5, d6, d7⟩ := HBW.out.row.spot i (by have := HN.out; omega)
          have HQ : Hid (L[i]? = some q) := hq
          clear hq
          go_wp2_with (go_at_call 6; refine (lstr_Learn HX.out HBW.out (List.mem_of_getElem? HQ.out)).mono ?_; rintro e4 w4 ⟨⟨r4, rfl, hr4⟩, hx4, ht4⟩; have hr4' : r4 = false := hr4 ⟨i, hlt, q, HQ.out, rfl⟩; subst hr4'; have HX4 : Hid (LStr w4 sx mx L fun p => ∃ j, j < N ∧ pAt L j p) := hx4.iff fun p => ⟨fun h => h.elim (fun e => ⟨i, hlt, q, HQ.out, e.symm⟩) id, .inr⟩; have HY4 : Hid (LStr w4 sy my L fun p => ∃ j, j < N ∧ pAt L j p) := HY.out.two HX.out ht4 (Ne.symm HNE.out.1) (Ne.symm HNE.out.2); have HB4 : Hid (Below w1.heap.size w1 w4) := Two.below HB.out ht4 HG2.out.1 HG2.out.2 HB.out.size; clear hx4 ht4 hr4)
          go_roundw
          case rel => exact ⟨i + 1, rfl, by go_num, by omega, HX4, HY4, HB4⟩
          case measure => simp [intOf]; omega
        · have hlt' : ¬ (i : Int) < (N : Int) := by omega
          obtain ⟨lx, I, hx, hy⟩ := HX.out.both HY.out fun _ => Iff.rfl
          have HSX : Hid (Str wr sx mx lx I) := hx
          have HSY : Hid (Str wr sy my lx I) := hy
          obtain ⟨ax, nx, cx, Xx, hx⟩ := hx
          have HRT : Hid (RightS Sp.zr lx) := hx.stm.ok.right
          have HLN : Hid (lx.length ≤ 2000000000000) := by
            (show _ ≤ _)
            cases lx with
            | nil => simp
            | cons q l0 =>
              have := (RightS_len _ _ HRT.out)
              have h2 := this.2 (by simp)
              have h1 := this.1
              have : (Sp.zr).to = 0 := rfl
              omega
          have HBX : Hid (Below w.heap.size w wr) := HB1.out.trans (HB.out.mono HB1.out.size)
          have hm1 := st_Map hx.stm HLN.out
          clear hx hy HX HY HB
          go_wp2_with fail
          refine hm1.mono ?_
          rintro e w5 ⟨⟨a5, n5, c5, rfl, hm5⟩, hb5⟩
          have HM5 : Hid (MapOk w5 a5 n5 c5 lx) := hm5
          have HB5 : Hid (Below wr.heap.size wr w5) := hb5
          clear hm1 hm5 hb5
          have hsy := HSY.out.stay HB5.out
          obtain ⟨ay, ny, cy, Xy, hy⟩ := hsy
          have hm2 := st_Map hy.stm HLN.out
          clear hy
          go_wp2_with fail
          refine hm2.mono ?_
          rintro e w6 ⟨⟨a6, n6, c6, rfl, hm6⟩, hb6⟩
          have HM6 : Hid (MapOk w6 a6 n6 c6 lx) := hm6
          have HB6 : Hid (Below wr.heap.size wr w6) := HB5.out.trans (hb6.mono HB5.out.size)
          have HM56 : Hid (MapOk w6 a5 n5 c5 lx) := HM5.out.below hb6
          clear hm2 hm6 hb6
          go_wp2_with fail
          refine (ref_Same a5 a6 n5 c5 n6 c6 lx lx w6 HM56.out.rd HM6.out.rd HM56.out.len).mono ?_
          rintro e w7 ⟨rfl, hb7⟩
          rw [sameB_refl]
          have HB7 : Hid (Below wr.heap.size wr w7) := HB6.out.trans (hb7.mono HB6.out.size)
          clear hb7
          have hsx := HSX.out.stay HB7.out
          obtain ⟨ay, ny, cy, Xy, hx⟩ := hsx
          have hm3 := st_Map hx.stm HLN.out
          clear hx
          go_wp2_with fail
          refine hm3.mono ?_
          rintro e w8 ⟨⟨a8, n8, c8, rfl, hm8⟩, hb8⟩
          have HM8 : Hid (MapOk w8 a8 n8 c8 lx) := hm8
          have HB8 : Hid (Below wr.heap.size wr w8) := HB7.out.trans (hb8.mono HB7.out.size)
          clear hm3 hm8 hb8
          have HSX8 : Hid (Str w8 sx mx lx I) := HSX.out.stay HB8.out
          have HSY8 : Hid (Str w8 sy my lx I) := HSY.out.stay HB8.out
          have HBX8 : Hid (Below w.heap.size w w8) := HBX.out.trans (HB8.out.mono HBX.out.size)
          clear HM5 HM6 HM56 HB5 HB6 HB7 HB8 HSX HSY HBX
          go_wp2
          obtain ⟨wb, rfl⟩ : ∃ wb, wb = wr := ⟨wr, rfl⟩
          have hn8 : n8 ≤ 9223372036854775807 := by have := HM8.out.len; unfold maxLen at this; omega
          go_loopw [15, 16, 17, 18, 19, 20] (fun t15 _ _ _ _ _ wr => ∃ (i : Nat), t15 = .int .i64 (i : Int) ∧ i ≤ n8 ∧ Hid (Str wr sx mx lx I) ∧ Hid (Str wr sy my lx I) ∧ Hid (MapOk wr a8 n8 c8 lx) ∧ Hid (Below w.heap.size w wr)) (fun t15 _ _ _ _ _ _ => n8 - (intOf t15).toNat)
          case atStart => exact ⟨0, rfl, by omega, HSX8, HSY8, HM8, HBX8⟩
          case round =>
            clear HSX8 HSY8 HM8 HBX8
            obtain ⟨k, rfl, hk8, HSX, HSY, HM, HB⟩ := hrel
            by_cases hk : k < n8
            · have hk' : (k : Int) < (n8 : Int) := by omega
              have gk : (0 : Int) ≤ (k : Int) := by omega
              obtain ⟨g, o, rfl, hg, q, hq, c0, c1, c2⟩ := HM.out.rd.at_ k hk
              obtain ⟨⟨hf0, ht9, hft⟩, hat⟩ := atS_spot lx Sp.zr HRT.out k q hq
              have hf0 : 0 < q.fr := hf0
              have HAT : Hid (∀ t, q.fr ≤ t → t ≤ q.to → atS lx t = q.is) := hat
              have HQK : Hid (lx[k]? = some q) := hq
              clear hat hq
              obtain ⟨f, t9, kd⟩ := q
              simp only at c0 c1 c2 hf0 ht9 hft
              obtain ⟨wc, rfl⟩ : ∃ wc, wc = wr := ⟨wr, rfl⟩
              go_wp2
              go_loopw [16, 17, 18, 19, 20] (fun t16 _ _ _ _ wr => ∃ (t : Int), t16 = .int .i64 t ∧ f ≤ t ∧ t ≤ t9 + 1 ∧ Hid (Str wr sx mx lx I) ∧ Hid (Str wr sy my lx I) ∧ Hid (MapOk wr (some ⟨g, o, none⟩) n8 c8 lx) ∧ Hid (Below w.heap.size w wr)) (fun t16 _ _ _ _ _ => (t9 + 1 - intOf t16).toNat)
              case atStart => exact ⟨f, rfl, by omega, by omega, HSX, HSY, HM, HB⟩
              case round =>
                clear HSX HSY HM HB c0 c1 c2 hg
                obtain ⟨t, rfl, hft1, hft2, HSX, HSY, HM, HB⟩ := hrel
                obtain ⟨g', o', hgg, hg, q, hq, c0, c1, c2⟩ := HM.out.rd.at_ k hk
                cases hgg
                obtain rfl : (⟨f, t9, kd⟩ : Sp) = q := by rw [HQK.out] at hq; exact Option.some.inj hq
                simp only at c0 c1 c2
                clear hq
                by_cases hkd : kd = 1
                · subst hkd
                  by_cases htt : t ≤ t9
                  · have hat := HAT.out t hft1 htt
                    obtain ⟨xa, xn, xc, XX, hx⟩ := HSX.out
                    obtain ⟨y, hy⟩ := Option.isSome_iff_exists.1 ((hx.data t).1 hat)
                    have hyr := hx.its t
                    rw [hy] at hyr
                    obtain ⟨hyt, hyf, hyl, _⟩ := hyr
                    have HYR : Hid (((-9223372036854775808 : Int) ≤ y.tick ∧ y.tick ≤ 9223372036854775807) ∧ (0 ≤ y.for_ ∧ y.for_ ≤ 4294967295)) := ⟨by rw [hyt]; omega, hyf⟩
                    have hI1 := st_Item hx hy (by omega)
                    have HYI : Hid (I t = some y) := hy
                    clear hx hy hyt hyf hyl hat
                    obtain ⟨wd, rfl⟩ : ∃ wd, wd = wr := ⟨wr, rfl⟩
                    go_upto_region 25 with fail
                    go_upto_region 26 with (go_at_call 9; refine hI1.mono ?_; rintro e10 w10 ⟨ba, bc, rfl, ho10, hb10⟩)
                    obtain ⟨W11, HW11⟩ : ∃ W11, Hid (W11 = w10.alloc (.cells #[.int .i64 y.tick, .int .u32 y.for_, .slice ba y.body.length bc] 42)) := ⟨_, rfl⟩
                    rw [← HW11.out]
                    have HO11 : Hid (Own W11 wd.heap.size ba y.body.length bc y.body) := by (show Own _ _ _ _ _ _); rw [HW11.out]; exact ho10.below (below_alloc _ _)
                    have HB11 : Hid (Below wd.heap.size wd W11) := by (show Below _ _ _); rw [HW11.out]; exact hb10.trans ((below_alloc _ _).mono hb10.size)
                    have HK11 : Hid (Bk W11 w10.heap.size #[.int .i64 y.tick, .int .u32 y.for_, .slice ba y.body.length bc] 42) := by (show Bk _ _ _ _); rw [HW11.out]; exact Bk.new _ _ _
                    clear hI1 ho10 hb10 c0 c1 c2
                    have hsy := HSY.out.stay HB11.out
                    obtain ⟨ya, yn, yc, YX, hy⟩ := hsy
                    have hI2 := st_Item hy HYI.out (by omega)
                    clear hy
                    go_upto_region 27 with (go_at_call 9; refine hI2.mono ?_; rintro e12 w12 ⟨bb, bd, rfl, ho12, hb12⟩)
                    obtain ⟨W13, HW13⟩ : ∃ W13, Hid (W13 = w12.alloc (.cells #[.int .i64 y.tick, .int .u32 y.for_, .slice bb y.body.length bd] 42)) := ⟨_, rfl⟩
                    rw [← HW13.out]
                    have HB13 : Hid (Below W11.heap.size W11 W13) := by (show Below _ _ _); rw [HW13.out]; exact hb12.trans ((below_alloc _ _).mono hb12.size)
                    have HO13 : Hid (Own W13 W11.heap.size bb y.body.length bd y.body) := by (show Own _ _ _ _ _ _); rw [HW13.out]; exact ho12.below (below_alloc _ _)
                    have HOA13 : Hid (Own W13 wd.heap.size ba y.body.length bc y.body) := HO11.out.below HB13.out
                    have HK13 : Hid (Bk W13 w10.heap.size #[.int .i64 y.tick, .int .u32 y.for_, .slice ba y.body.length bc] 42) := HK11.out.stay HB13.out
                    have HL13 : Hid (Bk W13 w12.heap.size #[.int .i64 y.tick, .int .u32 y.for_, .slice bb y.body.length bd] 42) := by (show Bk _ _ _ _); rw [HW13.out]; exact Bk.new _ _ _
                    clear hI2 ho12 hb12
                    have x0 : W13.cell? ⟨w10.heap.size, 0, none⟩ = some (.int .i64 y.tick) := HK13.out.cell 0 rfl
                    have x1 : W13.cell? ⟨w10.heap.size, 1, none⟩ = some (.int .u32 y.for_) := HK13.out.cell 1 rfl
                    have x2 : W13.cell? ⟨w10.heap.size, 2, none⟩ = some (.slice ba y.body.length bc) := HK13.out.cell 2 rfl
                    have HBA := below_alloc W13 (.cells #[.int .i64 y.tick, .int .u32 y.for_, .slice ba y.body.length bc] 42)
                    have z0 : (W13.alloc (.cells #[.int .i64 y.tick, .int .u32 y.for_, .slice ba y.body.length bc] 42)).cell? ⟨w12.heap.size, 0, none⟩ = some (.int .i64 y.tick) := (HL13.out.stay HBA).cell 0 rfl
                    have z1 : (W13.alloc (.cells #[.int .i64 y.tick, .int .u32 y.for_, .slice ba y.body.length bc] 42)).cell? ⟨w12.heap.size, 1, none⟩ = some (.int .u32 y.for_) := (HL13.out.stay HBA).cell 1 rfl
                    have z2 : (W13.alloc (.cells #[.int .i64 y.tick, .int .u32 y.for_, .slice ba y.body.length bc] 42)).cell? ⟨w12.heap.size, 2, none⟩ = some (.slice bb y.body.length bd) := (HL13.out.stay HBA).cell 2 rfl
                    obtain ⟨W15, HW15⟩ : ∃ W15, Hid (W15 = (W13.alloc (.cells #[.int .i64 y.tick, .int .u32 y.for_, .slice ba y.body.length bc] 42)).alloc (.cells #[.int .i64 y.tick, .int .u32 y.for_, .slice bb y.body.length bd] 42)) := ⟨_, rfl⟩
                    have e15 : (W13.alloc (.cells #[.int .i64 y.tick, .int .u32 y.for_, .slice ba y.body.length bc] 42)).heap.size = W13.heap.size + 1 := by simp
                    have HB15 : Hid (Below W13.heap.size W13 W15) := by (show Below _ _ _); rw [HW15.out]; exact HBA.alloc HBA.size _
                    have HI15 : Hid (ItsRd W15 (some ⟨W13.heap.size, 0, none⟩) 1 [y]) := by
                      (show ItsRd _ _ _ _)
                      refine one_it (bc := bc) (ba := ba) ?_ (HOA13.out.below HB15.out) HYR.out
                      rw [HW15.out]
                      exact (Bk.new _ _ _).stay (below_alloc _ _)
                    have HJ15 : Hid (ItsRd W15 (some ⟨W13.heap.size + 1, 0, none⟩) 1 [y]) := by
                      (show ItsRd _ _ _ _)
                      refine one_it (bc := bd) (ba := bb) ?_ (HO13.out.below HB15.out) HYR.out
                      rw [HW15.out, ← e15]
                      exact Bk.new _ _ _
                    have key := ref_SameItems (some ⟨W13.heap.size, 0, none⟩) (some ⟨W13.heap.size + 1, 0, none⟩) 1 1 1 [y] W15 HI15.out HJ15.out (by decide)
                    rw [HW15.out] at key
                    clear HBA e15
                    have HB13' : Hid (Below wd.heap.size wd W13) := HB11.out.trans (HB13.out.mono HB11.out.size)
                    go_wp2_with (go_at_call 10; refine key.mono ?_; rintro e16 w16 ⟨rfl, hb16⟩; rw [← HW15.out] at hb16; have HB16 : Hid (Below wd.heap.size wd w16) := (HB13'.out.trans (HB15.out.mono HB13'.out.size)).trans (hb16.mono (Nat.le_trans HB13'.out.size HB15.out.size)); clear hb16)
                    go_roundw
                    case rel => exact ⟨t + 1, by go_num, by omega, by omega, HSX.out.stay HB16.out, HSY.out.stay HB16.out, HM.out.below HB16.out, HB.out.trans (HB16.out.mono HB.out.size)⟩
                    case measure => simp [intOf]; omega
                  · have htt' : ¬ t ≤ t9 := htt
                    go_wp2
                    go_roundw
                    case rel => exact ⟨k + 1, by go_num, by omega, HSX, HSY, HM, HB⟩
                    case measure => simp [intOf]; omega
                · go_wp2
                  go_roundw
                  case rel => exact ⟨k + 1, by go_num, by omega, HSX, HSY, HM, HB⟩
                  case measure => simp [intOf]; omega
            · have hk' : ¬ (k : Int) < (n8 : Int) := by omega
              go_wp2_with fail
              refine (law_live15 _).mono ?_
              rintro e w20 ⟨rfl, hb20⟩
              go_wp2
              go_ret
              exact ⟨rfl, HB.out.trans (hb20.mono HB.out.size)⟩
end Go.Proofs.Ytidihfhgnjkmaaa
