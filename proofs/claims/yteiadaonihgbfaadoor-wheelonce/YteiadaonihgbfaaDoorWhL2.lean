/- grapevinelaw12: both tell the same; a script that came in; a script on both. -/
import Derived.Test.YteiadaonihgbfaaDoorWhL1
import Derived.Test.YteiadaonihgbfaaDoorWhFrame
import Derived.Deep.SlicePairs
namespace Go.Proofs.YteiadaonihgbfaaDoor
open Go.ChangeShapes Go.WideShapes Go.ChangeAt Go.RowKit

theorem own_len64 (T : Nat → Option Nat) : (idsT T).length ≤ 9223372036854775806 := by have := ids_le T; omega

set_option maxRecDepth 100000 in
set_option maxHeartbeats 8000000 in
theorem law_same12 (w : World) (g h n : Nat) (T : Nat → Option Nat) (hd : Dbl w g h n T) :
    Calls Tryd.prog 11 #[.pointer (some ⟨g, 0, none⟩), .pointer (some ⟨h, 0, none⟩)] w fun e w' => e = .returned (.bool true) ∧ Below w.heap.size w w' := by
  have HD : Hid (Dbl w g h n T) := hd
  clear hd
  go_enter Tryd.func11, Tryd.ntmps11
  go_wp2_with fail
  refine (ww_Next w g n T HD.out.wh HD.out.tab).mono ?_
  rintro e w1 ⟨hn1, hb1⟩
  obtain ⟨m1, b1, rfl, hx1, _⟩ := hn1.out
  have HX1 : Hid (IsNext T m1 b1) := hx1
  have HB1 : Hid (Below w.heap.size w w1) := hb1
  have HD1 : Hid (Dbl w1 g h n T) := HD.out.stay hb1
  clear hn1 hx1 hb1
  go_wp2_with fail
  refine (ref_Next w1 h n T HD1.out.rf).mono ?_
  rintro e w2 ⟨hn2, hw2⟩
  rw [hw2]
  clear hw2 w2
  obtain ⟨m2, b2, rfl, hx2, _⟩ := hn2.out
  have hsame := HX1.out.same hx2
  obtain ⟨rfl, rfl⟩ := hsame
  clear hn2 hx2
  have HDD : Hid (Dbl w1.drew g h n T) := HD1.out.stay (below_drew (Below.refl _ _))
  have HN0 : Hid (∀ w', Dbl w' g h n T → w'.cell? ⟨h, 0, none⟩ = some (.int .i64 (n : Int))) := fun w' hd' => by
    obtain ⟨r, r1, r2, _⟩ := hd'.rf
    have := r1.now_cell
    rw [r2] at this
    exact this
  have c0 : w1.drew.cell? ⟨h, 0, none⟩ = some (.int .i64 (n : Int)) := HN0.out _ HDD.out
  have e1 : ((n : Int) != (n : Int)) = false := by simp
  have e2 : ((m1 : Int) != (m1 : Int)) = false := by simp
  have e3 : (b1 != b1) = false := by simp
  go_wp2
  go_region_held3 (fun w' => w'.cell? ⟨h, 0, none⟩ = some (.int .i64 (n : Int))) (first | exact c0 | exact s2 | exact s3 | exact s4 | fail)
    (first
      | (go_at_call 17; refine (ww_Now _ g n T HDD.out.wh).mono ?_; rintro e w3 ⟨rfl, hw3⟩; subst hw3)
      | (go_at_call 16; refine (ww_Ids _ g n T HDD.out.wh HDD.out.tab).mono ?_; rintro e w3 ⟨v3, rfl, ho3, hb3⟩; have d3 := HDD.out.stay hb3; have s2 := HN0.out _ d3; obtain ⟨a3, n3, c3, rfl⟩ := own_slice ho3.out)
      | (go_at_call 26; refine (ref_Ids _ h n T d3.rf).mono ?_; rintro e w4 ⟨v4, rfl, ho4, hb4⟩; have d4 := d3.stay hb4; have s3 := HN0.out _ d4; obtain ⟨a4, n4, c4, rfl⟩ := own_slice ho4.out; have r3 := (IsRd.of_own ho3.out).below hb4; have r4 := IsRd.of_own ho4.out; have hn34 : n4 = n3 := (by rw [← r3.size, ← r4.size]); subst hn34)
      | (go_at_call 19; refine (ref_Same_alike _ a3 a4 n4 c3 c4 (idsT T) r3 r4 (by have := own_len64 T; have := r4.size; omega)).mono ?_; rintro e w5 ⟨rfl, m5, hw5⟩; have b5 : Below w4.heap.size w4 w5 := (by rw [hw5]; exact below_drews (Below.refl _ _) m5); clear hw5; have d5 := d4.stay b5; have s4 := HN0.out _ d5))
  have HD5 : Hid (Dbl w5 g h n T) := d5
  have HB5 : Hid (Below w.heap.size w w5) := (below_drew HB1.out).trans (((hb3.trans (hb4.mono hb3.size)).trans (b5.mono (Nat.le_trans hb3.size hb4.size))).mono HB1.out.size)
  clear c0 d3 d4 d5 s2 s3 s4 ho3 ho4 hb3 hb4 r3 r4 b5
  go_wp2
  go_loopw [9] (fun t9 wr => ∃ (i : Int), -1 ≤ i ∧ i ≤ 66 ∧ t9 = .int .i64 i ∧ Hid (Dbl wr g h n T) ∧ Hid (Below w.heap.size w wr)) (fun t9 _ => (66 - intOf t9).toNat)
  case atStart => exact ⟨-1, by omega, by omega, rfl, HD5, HB5⟩
  case round =>
    obtain ⟨i, hi1, hi2, rfl, HDr, HBr⟩ := hrel
    by_cases hlt : i ≤ 65
    · have HA := ww_At wr g n T i HDr.out.wh
      have e4 : ((atT T i : Int) != (atT T i : Int)) = false := by simp
      have e5 : (hasT T i != hasT T i) = false := by simp
      generalize hga : atT T i = AT at HA e4
      generalize hgh : hasT T i = HT at HA e5
      have HGA : Hid (atT T i = AT ∧ hasT T i = HT) := ⟨hga, hgh⟩
      clear hga hgh
      go_wp2_with fail
      refine HA.mono ?_
      rintro e w6 ⟨rfl, m6, hw6⟩
      have HB6 : Hid (Below wr.heap.size wr w6) := by (show Below _ _ _); rw [hw6]; exact below_drews (Below.refl _ _) m6
      have HD6 : Hid (Dbl w6 g h n T) := HDr.out.stay HB6.out
      have HBF : Hid (Below w.heap.size w w6) := HBr.out.trans (HB6.out.mono HBr.out.size)
      clear hw6 HA
      have HR := ref_At w6 h n T i HD6.out.rf
      rw [HGA.out.1, HGA.out.2] at HR
      go_wp2_with fail
      refine HR.mono ?_
      rintro e w7 ⟨rfl, hw7⟩
      rw [hw7]
      clear hw7 w7 HR
      go_wp2
      go_roundw
      case rel => exact ⟨i + 1, by omega, by omega, by go_num, HD6, HBF⟩
      case measure => simp [intOf]; omega
    · go_wp2
      go_ret
      exact ⟨rfl, HBr.out⟩

/-- A deed, as it is read. -/
structure Dd where
  kind : Int
  id : Int
  at_ : Int
structure DdsRd (w : World) (a : Option Addr) (n : Nat) (l : List Dd) : Prop where
  size : l.length = n
  cells : l = [] ∨ ∃ g o, a = some ⟨g, o, none⟩ ∧ g < w.heap.size ∧ ∀ (i : Nat) (q : Dd), l[i]? = some q → w.cell? ⟨g, o + i * 3, none⟩ = some (.int .i64 q.kind) ∧ w.cell? ⟨g, o + i * 3 + 1, none⟩ = some (.int .i64 q.id) ∧ w.cell? ⟨g, o + i * 3 + 2, none⟩ = some (.int .i64 q.at_)
theorem DdsRd.below {w w' : World} {a : Option Addr} {n : Nat} {l : List Dd} (h : DdsRd w a n l) (hb : Below w.heap.size w w') : DdsRd w' a n l := by
  refine ⟨h.size, ?_⟩
  rcases h.cells with h0 | ⟨g, o, ha, hg, hc⟩
  · exact .inl h0
  · refine .inr ⟨g, o, ha, Nat.lt_of_lt_of_le hg hb.size, fun i q hi => ?_⟩
    rw [hb.cell (p := ⟨g, o + i * 3, none⟩) hg, hb.cell (p := ⟨g, o + i * 3 + 1, none⟩) hg, hb.cell (p := ⟨g, o + i * 3 + 2, none⟩) hg]
    exact hc i q hi
theorem DdsRd.spot {w : World} {a : Option Addr} {n : Nat} {l : List Dd} (h : DdsRd w a n l) (i : Nat) (hi : i < n) : ∃ g o, a = some ⟨g, o, none⟩ ∧ g < w.heap.size ∧ ∃ q, l[i]? = some q ∧ w.cell? ⟨g, o + i * 3, none⟩ = some (.int .i64 q.kind) ∧ w.cell? ⟨g, o + i * 3 + 1, none⟩ = some (.int .i64 q.id) ∧ w.cell? ⟨g, o + i * 3 + 2, none⟩ = some (.int .i64 q.at_) := by
  have hl : i < l.length := by rw [h.size]; exact hi
  rcases h.cells with rfl | ⟨g, o, ha, hg, hc⟩
  · simp at hl
  · exact ⟨g, o, ha, hg, l[i], List.getElem?_eq_getElem hl, hc i l[i] (List.getElem?_eq_getElem hl)⟩

theorem open_deeds12 {H : Type} {enc : TypeId × Value → H} {W : World} {a : Option Addr} {n cap : Nat} {d : DataW H} {p : List MemPlace}
    (h : DataW.Trod enc Tryd.prog W 0 (fun _ => true) true 22 (.slice a n cap) d p) : ∃ l, DdsRd W a n l ∧ n ≤ cap ∧ cap ≤ maxLen := by
  obtain ⟨fuel, hf⟩ := h
  rcases Go.Deep.open_slice Tryd.underlying22 hf with ⟨hcs, hx⟩ | ⟨x, l, c, m, n', D, Pl, hcs, hb, hl, hm, hmm, hx, hr⟩
  · simp [Value.cells] at hcs
    obtain ⟨rfl, rfl, rfl⟩ := hcs
    exact ⟨[], ⟨rfl, .inl rfl⟩, Nat.le_refl _, by omega⟩
  · simp [Value.cells] at hcs
    obtain ⟨rfl, rfl, rfl⟩ := hcs
    simp only [if_true] at hmm
    subst hmm
    have each : ∀ r, r < m → ∃ q : Dd, W.cell? (x.add (r * 3)) = some (.int .i64 q.kind) ∧ W.cell? (x.add (r * 3 + 1)) = some (.int .i64 q.id) ∧ W.cell? (x.add (r * 3 + 2)) = some (.int .i64 q.at_) := by
      intro r hrc
      obtain ⟨cs', h1, h2⟩ := hr r hrc
      rw [show Tryd.prog.cellsOf 36 = 3 from by kernel_rfl] at h1
      obtain ⟨_, hlen, hcell⟩ := World.cells?_some h1
      obtain ⟨xs, k, hk, hxy, _, hxl, hf⟩ := DataW.trod_struct Tryd.underlying36 h2
      match xs, hxl, cs', hlen with
      | [y0, y1, y2], _, [v0, v1, v2], _ =>
        have g0 := hf 0 _ rfl
        have g1 := hf 1 _ rfl
        have g2 := hf 2 _ rfl
        rw [show Tryd.prog.cellsOf _ = 1 from by kernel_rfl] at g0 g1 g2
        simp only [List.getElem?_cons_zero, List.getElem?_cons_succ] at g0 g1 g2
        have e0 := hcell 0 (by omega)
        have e1 := hcell 1 (by omega)
        have e2 := hcell 2 (by omega)
        rw [Go.Deep.add_add] at e0 e1 e2
        obtain ⟨q0, r0, _, s0⟩ := DataW.trod_int Tryd.underlying3 g0
        obtain ⟨q1, r1, _, s1⟩ := DataW.trod_int Tryd.underlying3 g1
        obtain ⟨q2, r2, _, s2⟩ := DataW.trod_int Tryd.underlying3 g2
        refine ⟨⟨q0, q1, q2⟩, ?_, ?_, ?_⟩
        · simp_all
        · simp_all
        · simp_all
    haveI : Inhabited Dd := ⟨⟨0, 0, 0⟩⟩
    obtain ⟨y, hy⟩ := Go.Deep.choose_lt each
    refine ⟨(List.range n).map y, ⟨by simp, ?_⟩, hl, hm⟩
    by_cases hn0 : n = 0
    · left; simp [hn0]
    · right
      obtain ⟨b, off, spot⟩ := x
      have hc := (hy 0 (by omega)).1
      have hspot : spot = none := by simpa [Addr.add] using World.cell?_spot hc
      subst hspot
      refine ⟨b, off, rfl, World.block_lt_of_cell? W _ hc, fun i q hi => ?_⟩
      have hin : i < n := by
        have := (List.getElem?_eq_some_iff.1 hi).1
        simpa using this
      have hq : q = y i := by
        rw [List.getElem?_map, List.getElem?_range hin] at hi
        simpa using hi.symm
      subst hq
      have e : ∀ j, (⟨b, off, none⟩ : Addr).add j = ⟨b, off + j, none⟩ := fun j => by unfold Addr.add; split <;> simp_all
      obtain ⟨h2, h3, h4⟩ := hy i (by omega)
      rw [e] at h2 h3 h4
      exact ⟨h2, h3, h4⟩

/-- What play tells. -/
def PlayTold12 (w w' : World) (n : Int) (e : Ending) : Prop :=
  (¬ (0 ≤ n ∧ n ≤ 1099511627776) ∧ e = .returned (.tuple #[.pointer none, .pointer none, .bool true])) ∨
  ((0 ≤ n ∧ n ≤ 1099511627776) ∧ ∃ g h m T, e = .returned (.tuple #[.pointer (some ⟨g, 0, none⟩), .pointer (some ⟨h, 0, none⟩), .bool true]) ∧ Dbl w' g h m T ∧ w.heap.size ≤ g ∧ w.heap.size ≤ h)

set_option maxRecDepth 100000 in
set_option maxHeartbeats 8000000 in
theorem law_play12 (w : World) (n : Int) (a : Option Addr) (len cap : Nat) (l : List Dd) (hl : DdsRd w a len l) (hT : Tab w) (hw : 0 < w.heap.size) :
    Calls Tryd.prog 9 #[.int .i64 n, .slice a len cap] w fun e w' => Hid (PlayTold12 w w' n e) ∧ Below w.heap.size w w' := by
  have HL : Hid (DdsRd w a len l) := hl
  have HT : Hid (Tab w) := hT
  have HZ : Hid (0 < w.heap.size) := hw
  clear hl hT hw
  go_enter Tryd.func9, Tryd.ntmps9
  go_wp2_with fail
  refine (wh_New w n).mono ?_
  rintro e w1 ⟨ht1, hb1⟩
  have HB1 : Hid (Below w.heap.size w w1) := hb1
  rcases ht1.out with ⟨h0, rfl⟩ | ⟨hok, rfl, hw1⟩
  · have H0 : Hid (¬ (0 ≤ n ∧ n ≤ 1099511627776)) := h0
    clear ht1 hb1 h0
    go_wp2_with fail
    refine (ref_New12 w1 n).mono ?_
    rintro e w2 ⟨ht2, hb2⟩
    rcases ht2.out with ⟨_, rfl⟩ | ⟨hok, _⟩
    · have HB2 : Hid (Below w.heap.size w w2) := HB1.out.trans (hb2.mono HB1.out.size)
      have HF : Hid (PlayTold12 w w2 n (.returned (.tuple #[.pointer none, .pointer none, .bool true]))) := .inl ⟨H0.out, rfl⟩
      clear ht2 hb2
      go_wp2
      go_loopw [11] (fun t11 wr => t11 = .int .i64 0 ∧ wr = w2) (fun _ _ => 0)
      case atStart => exact ⟨rfl, rfl⟩
      case round =>
        obtain ⟨rfl, rfl⟩ := hrel
        go_wp2
        go_returns
        exact ⟨HF, HB2.out⟩
    · exact absurd hok H0.out
  · obtain ⟨g, hg⟩ : ∃ g, g = w.heap.size := ⟨_, rfl⟩
    rw [← hg] at hw1 ⊢
    have HGE : Hid (g = w.heap.size) := hg
    have HOK : Hid (0 ≤ n ∧ n ≤ 1099511627776) := hok
    have HW1 : Hid (WW w1 g n.toNat (fun _ => none)) := ⟨_, hw1, rfl, ST.fresh _ (by omega)⟩
    clear ht1 hb1 hok hw1 hg
    go_wp2_with fail
    refine (ref_New12 w1 n).mono ?_
    rintro e w2 ⟨ht2, hb2⟩
    rcases ht2.out with ⟨h0, _⟩ | ⟨_, rfl, hr2⟩
    · exact absurd HOK.out h0
    obtain ⟨h, hh⟩ : ∃ h, h = w1.heap.size := ⟨_, rfl⟩
    rw [← hh] at hr2 ⊢
    have HHE : Hid (h = w1.heap.size) := hh
    have HB2 : Hid (Below w.heap.size w w2) := HB1.out.trans (hb2.mono HB1.out.size)
    have HGH : Hid (w.heap.size ≤ g ∧ w.heap.size ≤ h ∧ g ≠ h ∧ g ≠ 0 ∧ h ≠ 0) := by
      have k1 := HGE.out
      have k2 := HW1.out.lt
      have k3 := HZ.out
      (show _ ∧ _)
      omega
    have HD2 : Hid (Dbl w2 g h n.toNat (fun _ => none)) := ⟨HW1.out.stay hb2, hr2, HGH.out.2.2.1, HGH.out.2.2.2.1, HGH.out.2.2.2.2, HT.out.below HZ.out HB2.out⟩
    clear ht2 hr2 hb2 hh
    go_wp2
    go_loopw [11] (fun t11 wr => ∃ (i : Nat), i ≤ len ∧ i ≤ 300 ∧ t11 = .int .i64 (i : Int) ∧ Hid (∃ m T, Dbl wr g h m T) ∧ Hid (Below w.heap.size w wr)) (fun t11 _ => len - (intOf t11).toNat)
    case atStart => exact ⟨0, by omega, by omega, rfl, ⟨_, _, HD2.out⟩, HB2⟩
    case round =>
      obtain ⟨i, hi, hi3, rfl, HDr, HBr⟩ := hrel
      by_cases hlt : i < len
      · have hlt' : (i : Int) < (len : Int) := by omega
        by_cases h300 : i < 300
        · have h300' : (i : Int) < 300 := by omega
          obtain ⟨gl, o, rfl, _, q, hq, c0, c1, c2⟩ := (HL.out.below HBr.out).spot i hlt
          obtain ⟨k, id, at_⟩ := q
          simp only at c0 c1 c2
          have hi0 : (0 : Int) ≤ (i : Int) := by omega
          obtain ⟨m, T, hdr⟩ := HDr.out
          have HC := law_do12 wr g h m T k id at_ hdr
          clear hq hdr
          go_wp2_with fail
          refine HC.mono ?_
          rintro e w3 ⟨rfl, hd3, hg3⟩
          have HD3 : Hid (∃ m T, Dbl w3 g h m T) := hd3.out
          have HB3 : Hid (Below w.heap.size w w3) := Gr2.below HBr.out hg3 HGH.out.1 HGH.out.2.1 HBr.out.size
          clear hd3 hg3 c0 c1 c2 HC
          go_wp2
          go_roundw
          case rel => exact ⟨i + 1, by omega, by omega, by go_num, HD3, HB3⟩
          case measure => simp [intOf]; omega
        · have h300' : ¬ (i : Int) < 300 := by omega
          have HF : Hid (PlayTold12 w wr n (.returned (.tuple #[.pointer (some ⟨g, 0, none⟩), .pointer (some ⟨h, 0, none⟩), .bool true]))) := by
            obtain ⟨m, T, hdr⟩ := HDr.out
            exact .inr ⟨HOK.out, g, h, m, T, rfl, hdr, HGH.out.1, HGH.out.2.1⟩
          go_wp2
          go_returns
          exact ⟨HF, HBr.out⟩
      · have hlt' : ¬ (i : Int) < (len : Int) := by omega
        have HF : Hid (PlayTold12 w wr n (.returned (.tuple #[.pointer (some ⟨g, 0, none⟩), .pointer (some ⟨h, 0, none⟩), .bool true]))) := by
          obtain ⟨m, T, hdr⟩ := HDr.out
          exact .inr ⟨HOK.out, g, h, m, T, rfl, hdr, HGH.out.1, HGH.out.2.1⟩
        go_wp2
        go_returns
        exact ⟨HF, HBr.out⟩
end Go.Proofs.YteiadaonihgbfaaDoor
