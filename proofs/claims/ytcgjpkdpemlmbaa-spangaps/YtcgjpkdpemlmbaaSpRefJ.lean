/- grapevineref08: Join, ranged, Keep, Forget, Gaps. -/
import Derived.Test.YtcgjpkdpemlmbaaSpMade
import Derived.Test.YtcgjpkdpemlmbaaSpRefR
import Derived.Test.YtcgjpkdpemlmbaaSpRange
namespace Go.Proofs.Ytcgjpkdpemlmbaa
open Go.RowKit

set_option maxRecDepth 100000 in
set_option maxHeartbeats 1000000 in
theorem ref_Join (a b : Option Addr) (na ca nb cb : Nat) (la lb : List Sp) (w : World) (ha : SpsRd w a na la) (hb : SpsRd w b nb lb) (hna : na ≤ 400) (hnb : nb ≤ 400) :
    Calls Try.prog 12 #[.slice a na ca, .slice b nb cb] w fun e w' => Hid (JoinTold w' w.heap.size la lb e) ∧ Below w.heap.size w w' := by
  have HA : Hid (SpsRd w a na la) := ha
  have HBB : Hid (SpsRd w b nb lb) := hb
  have HNN : Hid (na ≤ 400 ∧ nb ≤ 400) := ⟨hna, hnb⟩
  clear ha hb hna hnb
  go_enter Try.func12, Try.ntmps12
  go_wp2_with fail
  refine (ref_Right a na ca la w HA.out (by have := HNN.out; unfold maxLen; omega)).mono ?_
  rintro e w1 ⟨rfl, hb1⟩
  have HB1 : Hid (Below w.heap.size w w1) := hb1
  clear hb1
  cases hra : rightB Sp.zr la with
  | false =>
    have HX : Hid (rightB Sp.zr la = false) := hra
    clear hra
    go_wp2
    go_returns
    exact ⟨.inl ⟨.inl HX.out, rfl⟩, HB1.out⟩
  | true =>
    have HXA : Hid (RightS Sp.zr la) := (rightB_iff _ _).1 hra
    clear hra
    go_wp2_with fail
    refine (ref_Right b nb cb lb w1 (HBB.out.below HB1.out) (by have := HNN.out; unfold maxLen; omega)).mono ?_
    rintro e w2 ⟨rfl, hb2⟩
    have HB2 : Hid (Below w.heap.size w w2) := HB1.out.trans (hb2.mono HB1.out.size)
    clear hb2
    cases hrb : rightB Sp.zr lb with
    | false =>
      have HX : Hid (rightB Sp.zr lb = false) := hrb
      clear hrb
      go_wp2
      go_returns
      exact ⟨.inl ⟨.inr HX.out, rfl⟩, HB2.out⟩
    | true =>
      have HXB : Hid (RightS Sp.zr lb) := (rightB_iff _ _).1 hrb
      clear hrb
      go_wp2_with fail
      refine (ref_made a b na ca nb cb la lb 0 w2 (HA.out.below HB2.out) (HBB.out.below HB2.out) HNN.out.1 HNN.out.2 HXA.out HXB.out (.inl rfl)).mono ?_
      rintro e w3 ⟨⟨av, nv, cv, l, rfl, HV, HL⟩, hb3⟩
      have HB3 : Hid (Below w.heap.size w w3) := HB2.out.trans (hb3.mono HB2.out.size)
      have HV3 : Hid (Sps w3 w.heap.size (.slice av nv cv) l) := HV.out.lower HB2.out.size
      clear hb3
      go_wp2
      go_returns
      exact ⟨.inr ⟨HXA.out, HXB.out, .slice av nv cv, l, rfl, HV3.out, HL.out.1, HL.out.2⟩, HB3.out⟩

/-- What the map of a map and a range tells. -/
def RangedTold (w : World) (B : Nat) (ok : Bool) (how : Int) (l : List Sp) (f t : Int) (e : Ending) : Prop :=
  (ok = false ∧ e = .returned (.tuple #[.slice none 0 0, .int .i64 2])) ∨ (ok = true ∧ ∃ v m, e = .returned (.tuple #[v, .int .i64 0]) ∧ Sps w B v m ∧ RightS Sp.zr m ∧ ∀ u, atS m u = tellF how (atS l u) (atS (rangeS f t) u))

set_option maxRecDepth 100000 in
set_option maxHeartbeats 1000000 in
theorem ref_ranged (a : Option Addr) (n c : Nat) (l : List Sp) (f t how : Int) (w : World) (ha : SpsRd w a n l) (hn : n ≤ 400) (hh : how = 0 ∨ how = 1 ∨ how = 2 ∨ how = 3) :
    Calls Try.prog 33 #[.slice a n c, .int .i64 f, .int .i64 t, .int .i64 how] w fun e w' => Hid (RangedTold w' w.heap.size (rightB Sp.zr l && mayB f t) how l f t e) ∧ Below w.heap.size w w' := by
  have HA : Hid (SpsRd w a n l) := ha
  have HN : Hid (n ≤ 400) := hn
  have HH : Hid (how = 0 ∨ how = 1 ∨ how = 2 ∨ how = 3) := hh
  clear ha hn hh
  obtain ⟨ok, HD⟩ : ∃ ok, Hid (ok = (rightB Sp.zr l && mayB f t)) := ⟨_, rfl⟩
  rw [← HD.out]
  go_enter Try.func33, Try.ntmps33
  go_wp2_with fail
  refine (ref_Right a n c l w HA.out (by have := HN.out; unfold maxLen; omega)).mono ?_
  rintro e w1 ⟨rfl, hb1⟩
  have HB1 : Hid (Below w.heap.size w w1) := hb1
  clear hb1
  cases hra : rightB Sp.zr l with
  | false =>
    have HM : Hid (ok = false) := by show _ = _; rw [HD.out, hra]; rfl
    clear hra
    go_wp2
    go_returns
    exact ⟨.inl ⟨HM.out, rfl⟩, HB1.out⟩
  | true =>
    have HXA : Hid (RightS Sp.zr l) := (rightB_iff _ _).1 hra
    have HXB : Hid (rightB Sp.zr l = true) := hra
    clear hra
    by_cases h1 : f < 1
    · have HM : Hid (ok = false) := by show _ = _; rw [HD.out, HXB.out, (mayB_not f t).2 (by omega)]; rfl
      go_wp2
      go_returns
      exact ⟨.inl ⟨HM.out, rfl⟩, HB1.out⟩
    by_cases h2 : t < f
    · have HM : Hid (ok = false) := by show _ = _; rw [HD.out, HXB.out, (mayB_not f t).2 (by omega)]; rfl
      go_wp2
      go_returns
      exact ⟨.inl ⟨HM.out, rfl⟩, HB1.out⟩
    by_cases h3 : 1099511627776 < t
    · have HM : Hid (ok = false) := by show _ = _; rw [HD.out, HXB.out, (mayB_not f t).2 (by omega)]; rfl
      go_wp2
      go_returns
      exact ⟨.inl ⟨HM.out, rfl⟩, HB1.out⟩
    have HM : Hid (ok = true) := by show _ = _; rw [HD.out, HXB.out, (mayB_iff _ _).2 ⟨by omega, by omega, by omega⟩]; rfl
    have HRB : Hid (RightS Sp.zr (rangeS f t)) := rangeS_right (by omega) (by omega) (by omega)
    have HX : Hid (Below w1.heap.size w1 (w1.alloc (.cells #[.int .i64 f, .int .i64 t, .int .i64 1] 42))) := below_new _ _
    have HRG : Hid (SpsRd (w1.alloc (.cells #[.int .i64 f, .int .i64 t, .int .i64 1] 42)) (some ⟨w1.heap.size, 0, none⟩) 1 (rangeS f t)) := (Sps.one (base := w1.heap.size) (q := ⟨f, t, 1⟩) (Bk.new w1 _ _) (Nat.le_refl _)).rd
    go_wp2_with fail
    refine (ref_made a (some ⟨w1.heap.size, 0, none⟩) n c 1 1 l (rangeS f t) how _ ((HA.out.below HB1.out).below HX.out) HRG.out HN.out (by omega) HXA.out HRB.out HH.out).mono ?_
    rintro e w3 ⟨⟨av, nv, cv, m, rfl, HV, HL⟩, hb3⟩
    have HB2 : Hid (Below w.heap.size w (w1.alloc (.cells #[.int .i64 f, .int .i64 t, .int .i64 1] 42))) := HB1.out.trans (HX.out.mono HB1.out.size)
    have HB3 : Hid (Below w.heap.size w w3) := HB2.out.trans (hb3.mono HB2.out.size)
    have HV3 : Hid (Sps w3 w.heap.size (.slice av nv cv) m) := HV.out.lower HB2.out.size
    clear hb3
    go_wp2
    go_returns
    exact ⟨.inr ⟨HM.out, .slice av nv cv, m, rfl, HV3.out, HL.out.1, HL.out.2⟩, HB3.out⟩

set_option maxRecDepth 100000 in
theorem ref_Keep (a : Option Addr) (n c : Nat) (l : List Sp) (f t : Int) (w : World) (ha : SpsRd w a n l) (hn : n ≤ 400) :
    Calls Try.prog 15 #[.slice a n c, .int .i64 f, .int .i64 t] w fun e w' => Hid (RangeTold w' w.heap.size (rightB Sp.zr l && mayB f t) (keepS l f t) e) ∧ Below w.heap.size w w' := by
  have HA : Hid (SpsRd w a n l) := ha
  clear ha
  go_enter Try.func15, Try.ntmps15
  go_wp2_with fail
  refine (ref_ranged a n c l f t 1 w HA.out hn (.inr (.inl rfl))).mono ?_
  rintro e w1 ⟨ht, hb1⟩
  have HB1 : Hid (Below w.heap.size w w1) := hb1
  clear hb1
  rcases ht.out with ⟨hok, rfl⟩ | ⟨hok, v, m, rfl, hv, hr, hu⟩
  · have HOK : Hid ((rightB Sp.zr l && mayB f t) = false) := hok
    clear hok ht
    go_wp2
    go_returns
    exact ⟨.inl ⟨HOK.out, rfl⟩, HB1.out⟩
  · have HOK : Hid ((rightB Sp.zr l && mayB f t) = true) := hok
    rw [Bool.and_eq_true] at hok
    have hrl := (rightB_iff _ _).1 hok.1
    have hm := (mayB_iff _ _).1 hok.2
    have e : m = keepS l f t := canonS _ _ _ _ hr (keep_right l Sp.zr Sp.zr f t hrl (Int.le_refl _) (fun _ => rfl)) fun u => by
      rw [hu, keep_at, tellF_1, rangeS_at]
      by_cases h : f ≤ u ∧ u ≤ t
      · rw [if_pos h, if_neg (by omega), if_pos h]
      · rw [if_neg h, if_pos rfl, if_neg h]
    have HV : Hid (Sps w1 w.heap.size v (keepS l f t)) := by show Sps _ _ _ _; rw [← e]; exact hv
    obtain ⟨av, cv, rfl, _⟩ := hv.form
    clear ht hok hrl hm e hv hr hu
    go_wp2
    go_returns
    exact ⟨.inr ⟨HOK.out, _, rfl, HV.out⟩, HB1.out⟩

set_option maxRecDepth 100000 in
theorem ref_Forget (a : Option Addr) (n c : Nat) (l : List Sp) (f t : Int) (w : World) (ha : SpsRd w a n l) (hn : n ≤ 400) :
    Calls Try.prog 17 #[.slice a n c, .int .i64 f, .int .i64 t] w fun e w' => Hid (RangeTold w' w.heap.size (rightB Sp.zr l && mayB f t) (forgetS l f t) e) ∧ Below w.heap.size w w' := by
  have HA : Hid (SpsRd w a n l) := ha
  clear ha
  go_enter Try.func17, Try.ntmps17
  go_wp2_with fail
  refine (ref_ranged a n c l f t 2 w HA.out hn (.inr (.inr (.inl rfl)))).mono ?_
  rintro e w1 ⟨ht, hb1⟩
  have HB1 : Hid (Below w.heap.size w w1) := hb1
  clear hb1
  rcases ht.out with ⟨hok, rfl⟩ | ⟨hok, v, m, rfl, hv, hr, hu⟩
  · have HOK : Hid ((rightB Sp.zr l && mayB f t) = false) := hok
    clear hok ht
    go_wp2
    go_returns
    exact ⟨.inl ⟨HOK.out, rfl⟩, HB1.out⟩
  · have HOK : Hid ((rightB Sp.zr l && mayB f t) = true) := hok
    rw [Bool.and_eq_true] at hok
    have hrl := (rightB_iff _ _).1 hok.1
    have hm := (mayB_iff _ _).1 hok.2
    have e : m = forgetS l f t := canonS _ _ _ _ hr (forget_right l Sp.zr Sp.zr f t hm.2.1 hrl (Int.le_refl _) (fun _ => rfl)) fun u => by
      rw [hu, forget_at l Sp.zr f t u hm.2.1 (by decide) hrl, tellF_2, rangeS_at]
      by_cases h : f ≤ u ∧ u ≤ t
      · rw [if_pos h, if_neg (by omega), if_pos h]
      · rw [if_neg h, if_pos rfl, if_neg h]
    have HV : Hid (Sps w1 w.heap.size v (forgetS l f t)) := by show Sps _ _ _ _; rw [← e]; exact hv
    obtain ⟨av, cv, rfl, _⟩ := hv.form
    clear ht hok hrl hm e hv hr hu
    go_wp2
    go_returns
    exact ⟨.inr ⟨HOK.out, _, rfl, HV.out⟩, HB1.out⟩

/-- A span's knowledge is set. -/
theorem Sps.setIs {w : World} {base g n c : Nat} {i r : List Sp} {q : Sp} (h : Sps w base (.slice (some ⟨g, 0, none⟩) n c) (i ++ q :: r)) (x : Int) : Sps (w.setCell ⟨g, i.length * 3 + 2, none⟩ (.int .i64 x)) base (.slice (some ⟨g, 0, none⟩) n c) (i ++ ⟨q.fr, q.to, x⟩ :: r) := by
  have hr := h.row
  have hn : n = (i ++ q :: r).length := by
    rcases hr.2 with ⟨hv, _⟩ | ⟨g', c', cur, hv, _⟩
    · cases hv
    · simp only [Value.slice.injEq] at hv
      exact hv.2.1
  subst hn
  have h2 := hr.stored (i.length * 3 + 2) (.int .i64 x)
  refine ⟨?_⟩
  have e : ∀ m : List Sp, (m.flatMap fun q => q.cells.toList).length = m.length * 3 := by
    intro m
    induction m with
    | nil => rfl
    | cons s m ih => rw [List.flatMap_cons, List.length_append, ih, List.length_cons]; simp [Sp.cells]; omega
  have e2 : ((i ++ q :: r).flatMap fun q => q.cells.toList).set (i.length * 3 + 2) (.int .i64 x) = (i ++ (⟨q.fr, q.to, x⟩ : Sp) :: r).flatMap fun q => q.cells.toList := by
    rw [List.flatMap_append, List.flatMap_append, List.set_append_right _ _ (by rw [e]; omega), e]
    simp [Sp.cells]
  rw [← e2, show (i ++ (⟨q.fr, q.to, x⟩ : Sp) :: r).length = (i ++ q :: r).length from by simp]
  exact h2.1
theorem Sps.free {w : World} {base g n c : Nat} {l : List Sp} (h : Sps w base (.slice (some ⟨g, 0, none⟩) n c) l) (j : Nat) : w.frozen? ⟨g, j, none⟩ = false ∧ base ≤ g ∧ g < w.heap.size := by
  rcases h.row.2 with ⟨hv, _⟩ | ⟨g', c', cur, hv, hb, hg, _⟩
  · cases hv
  · simp only [Value.slice.injEq, Option.some.injEq, Addr.mk.injEq, and_true] at hv
    obtain ⟨rfl, _⟩ := hv
    exact ⟨frozen_of_row w g j cur _ hg, hb, (Array.getElem?_eq_some_iff.1 hg).1⟩
theorem Sps.base {w : World} {base n c : Nat} {a : Option Addr} {l : List Sp} (h : Sps w base (.slice a n c) l) (hl : l ≠ []) : ∃ g, a = some ⟨g, 0, none⟩ := by
  rcases h.row.2 with ⟨hv, hn⟩ | ⟨g', c', cur, hv, hb, hg, _⟩
  · exact absurd (List.length_eq_zero_iff.1 hn) hl
  · simp only [Value.slice.injEq] at hv
    exact ⟨g', hv.1⟩

set_option maxRecDepth 100000 in
set_option maxHeartbeats 1000000 in
theorem ref_Gaps (a : Option Addr) (n c : Nat) (l : List Sp) (f t : Int) (w : World) (ha : SpsRd w a n l) (hn : n ≤ 400) :
    Calls Try.prog 19 #[.slice a n c, .int .i64 f, .int .i64 t] w fun e w' => Hid (RangeTold w' w.heap.size (rightB Sp.zr l && mayB f t) (gapsS 1 l f t) e) ∧ Below w.heap.size w w' := by
  have HA : Hid (SpsRd w a n l) := ha
  clear ha
  go_enter Try.func19, Try.ntmps19
  go_wp2_with fail
  refine (ref_ranged a n c l f t 3 w HA.out hn (.inr (.inr (.inr rfl)))).mono ?_
  rintro e w1 ⟨ht, hb1⟩
  have HB1 : Hid (Below w.heap.size w w1) := hb1
  clear hb1
  rcases ht.out with ⟨hok, rfl⟩ | ⟨hok, v, m, rfl, hv, hr, hu⟩
  · have HOK : Hid ((rightB Sp.zr l && mayB f t) = false) := hok
    clear hok ht
    go_wp2
    go_loopw [10] (fun t10 wr => t10 = .int .i64 0 ∧ wr = w1) (fun _ _ => 0)
    case atStart => exact ⟨rfl, rfl⟩
    case round =>
      obtain ⟨rfl, rfl⟩ := hrel
      go_wp2
      go_returns
      exact ⟨.inl ⟨HOK.out, rfl⟩, HB1.out⟩
  · have HOK : Hid ((rightB Sp.zr l && mayB f t) = true) := hok
    rw [Bool.and_eq_true] at hok
    have hrl := (rightB_iff _ _).1 hok.1
    have hm := (mayB_iff _ _).1 hok.2
    have HE : Hid (m.map (Sp.as 0) = gapsS 1 l f t) := gaps_made hrl hm.1 hm.2.1 hm.2.2 hr hu
    have hsh := right_short hr
    obtain ⟨av, cv, rfl, _⟩ := hv.form
    obtain ⟨nv, hnv⟩ : ∃ nv, nv = m.length := ⟨_, rfl⟩
    rw [← hnv] at hv hsh ⊢
    have HV : Hid (Sps w1 w.heap.size (.slice av nv cv) m) := hv
    have HNV : Hid (nv = m.length) := hnv
    clear ht hok hrl hm hv hr hu hnv
    go_wp2
    go_loopw [10] (fun t10 wr => ∃ (k : Nat), k ≤ nv ∧ t10 = .int .i64 (k : Int) ∧ Hid (Sps wr w.heap.size (.slice av nv cv) ((m.take k).map (Sp.as 0) ++ m.drop k)) ∧ Hid (Below w.heap.size w wr)) (fun t10 _ => nv - (intOf t10).toNat)
    case atStart => exact ⟨0, by omega, rfl, by show Sps _ _ _ _; simpa using HV.out, HB1⟩
    case round =>
      obtain ⟨k, hk, rfl, HS, HB⟩ := hrel
      by_cases hlt : k < nv
      · have hlt' : (k : Int) < (nv : Int) := by omega
        have hkl : k < m.length := by have := HNV.out; omega
        obtain ⟨q, hq⟩ : ∃ q, m[k]? = some q := ⟨m[k], List.getElem?_eq_getElem hkl⟩
        have HS2 : Hid (Sps wr w.heap.size (.slice av nv cv) ((m.take k).map (Sp.as 0) ++ q :: m.drop (k + 1))) := by
          show Sps _ _ _ _
          rw [← drop_at hq]
          exact HS.out
        obtain ⟨g, rfl⟩ := HS2.out.base (by simp)
        obtain ⟨fz, hBg, hgl⟩ := HS2.out.free (k * 3 + 2)
        have hkm : ((m.take k).map (Sp.as 0)).length = k := by rw [List.length_map, List.length_take]; omega
        have HS3 : Hid (Sps (wr.setCell ⟨g, k * 3 + 2, none⟩ (.int .i64 0)) w.heap.size (.slice (some ⟨g, 0, none⟩) nv cv) ((m.take (k + 1)).map (Sp.as 0) ++ m.drop (k + 1))) := by
          have h3 := HS2.out.setIs 0
          rw [hkm] at h3
          show Sps _ _ _ _
          rw [List.take_add_one, hq, List.map_append]
          simpa [Sp.as] using h3
        have HB3 : Hid (Below w.heap.size w (wr.setCell ⟨g, k * 3 + 2, none⟩ (.int .i64 0))) := HB.out.setCell (by simpa using hBg) _
        have hc2 : wr.cell? ⟨g, k * 3 + 2, none⟩ = some (.int .i64 q.is) := by
          obtain ⟨g', o', hga, _, q', hq', _, _, c2⟩ := HS2.out.rd.at_ k hlt
          simp only [Option.some.injEq, Addr.mk.injEq, and_true] at hga
          obtain ⟨rfl, rfl⟩ := hga
          rw [List.getElem?_append_right (by omega), hkm, Nat.sub_self] at hq'
          simp only [List.getElem?_cons_zero, Option.some.injEq] at hq'
          subst hq'
          rw [Nat.zero_add] at c2
          exact c2
        clear hkm hq hkl HS HS2
        go_wp2
        go_roundw
        case rel => exact ⟨k + 1, by omega, by go_num, HS3, HB3⟩
        case measure => simp [intOf]; omega
      · obtain rfl : k = nv := by omega
        have HX : Hid (Sps wr w.heap.size (.slice av k cv) (gapsS 1 l f t)) := by
          have h1 := HS.out
          rw [List.take_of_length_le (by have := HNV.out; omega), List.drop_of_length_le (by have := HNV.out; omega), List.append_nil, HE.out] at h1
          exact h1
        clear HS
        go_wp2
        go_returns
        exact ⟨.inr ⟨HOK.out, _, rfl, HX.out⟩, HB.out⟩
end Go.Proofs.Ytcgjpkdpemlmbaa
