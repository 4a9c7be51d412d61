/- A pack of texts: Rm7 Rp1. -/
import Derived.Test.YtidihfhgnjkmaaaGreatRmP
import Derived.Test.YtidihfhgnjkmaaaGreatSmP
import Derived.Test.YtidihfhgnjkmaaaGreatSpApp
import Derived.Deep.CutBlock
/- grapevineref15: Lose. -/
namespace Go.Proofs.YtidihfhgnjkmaaaGreat
set_option maxRecDepth 100000
open Go.RowKit
variable {Z : Nat → Prop}

theorem atS_mem : ∀ {L : List Sp} {p : Sp}, RightS p L → ∀ {q : Sp} {u : Int}, q ∈ L → q.fr ≤ u → u ≤ q.to → atS L u = q.is
  | [], _, _, _, _, h, _, _ => by cases h
  | s :: L, p, ⟨a, b, c, d, e, f, g⟩, q, u, hq, h1, h2 => by
    rw [atS]
    rcases List.mem_cons.1 hq with rfl | hq
    · rw [if_pos ⟨h1, h2⟩]
    · have ih := atS_mem g hq h1 h2
      by_cases hin : s.fr ≤ u ∧ u ≤ s.to
      · rw [atS_low g hin.2] at ih
        have hr : 1 ≤ q.is := right_is g hq
        omega
      · rw [if_neg hin, ih]
  where
  right_is : ∀ {L : List Sp} {p : Sp}, RightS p L → ∀ {q : Sp}, q ∈ L → 1 ≤ q.is
  | s :: L, _, ⟨_, _, _, d, _, _, g⟩, q, hq => by
    rcases List.mem_cons.1 hq with rfl | hq
    · exact d
    · exact right_is g hq
theorem atS_some : ∀ {L : List Sp} {u : Int}, atS L u ≠ 0 → ∃ q ∈ L, q.fr ≤ u ∧ u ≤ q.to ∧ q.is = atS L u
  | [], u, h => absurd rfl h
  | s :: L, u, h => by
    rw [atS] at h ⊢
    by_cases hin : s.fr ≤ u ∧ u ≤ s.to
    · rw [if_pos hin]
      exact ⟨s, List.mem_cons_self .., hin.1, hin.2, rfl⟩
    · rw [if_neg hin] at h ⊢
      obtain ⟨q, hq, r⟩ := atS_some h
      exact ⟨q, List.mem_cons_of_mem _ hq, r⟩
theorem right_each : ∀ {L : List Sp} {p : Sp}, RightS p L → ∀ {q : Sp}, q ∈ L → p.to < q.fr ∧ q.fr ≤ q.to ∧ q.to ≤ 1099511627776 ∧ 1 ≤ q.is ∧ q.is ≤ 3
  | s :: L, p, ⟨a, b, c, d, e, f, g⟩, q, hq => by
    rcases List.mem_cons.1 hq with rfl | hq
    · exact ⟨a, b, c, d, e⟩
    · have := right_each g hq
      exact ⟨by omega, this.2⟩
/-- A tick is silent by one of these spans. -/
def Sil (L : List Sp) (u : Int) : Prop := ∃ q ∈ L, q.is = 2 ∧ q.fr ≤ u ∧ u ≤ q.to
theorem sil_iff {L : List Sp} (h : RightS Sp.zr L) (u : Int) : Sil L u ↔ atS L u = 2 := by
  constructor
  · rintro ⟨q, hq, h1, h2, h3⟩
    rw [atS_mem h hq h2 h3, h1]
  · intro h2
    obtain ⟨q, hq, a, b, c⟩ := atS_some (L := L) (u := u) (by omega)
    exact ⟨q, hq, by omega, a, b⟩
/-- How far the lost ticks are laid. -/
structure LostUp (L : List Sp) (t : Int) (i : Nat) (P : List Sp) : Prop where
  right : RightS Sp.zr P
  in_ : ∀ u, 1 ≤ u ∧ u ≤ t → ¬ Sil (L.take i) u → atS P u = 3
  out : ∀ u, ¬ (1 ≤ u ∧ u ≤ t ∧ ¬ Sil (L.take i) u) → atS P u = 0
theorem LostUp.zero (L : List Sp) {t : Int} (ht : 0 ≤ t ∧ t ≤ 1099511627776) : LostUp L t 0 (if 0 < t then [⟨1, t, 3⟩] else []) := by
  have hs : ∀ u, ¬ Sil (L.take 0) u := fun u ⟨q, hq, _⟩ => by simp at hq
  by_cases h : 0 < t
  · rw [if_pos h]
    refine ⟨⟨by show (0 : Int) < 1; decide, by show (1 : Int) ≤ t; omega, ht.2, (by decide : (1 : Int) ≤ 3), Int.le_refl _, fun h => (by have := h.2; cases this), trivial⟩, fun u hu _ => ?_, fun u hu => ?_⟩
    · show (if 1 ≤ u ∧ u ≤ t then (3 : Int) else 0) = 3
      rw [if_pos hu]
    · show (if 1 ≤ u ∧ u ≤ t then (3 : Int) else 0) = 0
      rw [if_neg fun h => hu ⟨h.1, h.2, hs u⟩]
  · rw [if_neg h]
    exact ⟨trivial, fun u hu => by omega, fun u _ => rfl⟩
theorem LostUp.next {L : List Sp} {t : Int} {i : Nat} {P : List Sp} (h : LostUp L t i P) (hL : RightS Sp.zr L) {q : Sp} (hq : L[i]? = some q) : (q.is = 2 → LostUp L t (i + 1) (forgetS P q.fr q.to)) ∧ (q.is ≠ 2 ∨ t ≤ 0 → LostUp L t (i + 1) P) := by
  have hqe := right_each hL (List.mem_of_getElem? hq)
  have h0 : (0 : Int) < q.fr := hqe.1
  have htk : L.take (i + 1) = L.take i ++ [q] := by rw [List.take_add_one, hq]; rfl
  have hsil : ∀ u, Sil (L.take (i + 1)) u ↔ Sil (L.take i) u ∨ (q.is = 2 ∧ q.fr ≤ u ∧ u ≤ q.to) := by
    intro u
    rw [htk]
    constructor
    · rintro ⟨r, hr, x⟩
      rcases List.mem_append.1 hr with hr | hr
      · exact .inl ⟨r, hr, x⟩
      · rw [List.mem_singleton.1 hr] at x; exact .inr x
    · rintro (⟨r, hr, x⟩ | x)
      · exact ⟨r, List.mem_append_left _ hr, x⟩
      · exact ⟨q, List.mem_append_right _ (List.mem_singleton.2 rfl), x⟩
  constructor
  · intro h2
    have hat := fun u => forget_at P Sp.zr q.fr q.to u hqe.2.1 (Int.le_refl _) h.right
    refine ⟨forget_right P Sp.zr Sp.zr q.fr q.to hqe.2.1 h.right (Int.le_refl _) (fun _ => rfl), fun u hu hs => ?_, fun u hu => ?_⟩
    · rw [hsil u] at hs
      rw [hat u, if_neg (fun hh => hs (.inr ⟨h2, hh⟩))]
      exact h.in_ u hu fun hh => hs (.inl hh)
    · rw [hat u]
      split
      · rfl
      · rename_i hn
        refine h.out u fun hh => hu ⟨hh.1, hh.2.1, fun hs => ?_⟩
        rcases (hsil u).1 hs with hs | hs
        · exact hh.2.2 hs
        · exact hn hs.2
  · intro h2
    refine ⟨h.right, fun u hu hs => h.in_ u hu fun hh => hs ((hsil u).2 (.inl hh)), fun u hu => h.out u fun hh => hu ⟨hh.1, hh.2.1, fun hs => ?_⟩⟩
    rcases (hsil u).1 hs with hs | hs
    · exact hh.2.2 hs
    · rcases h2 with h2 | h2
      · exact h2 hs.1
      · omega
theorem LostUp.last {L : List Sp} {t : Int} {P : List Sp} (h : LostUp L t L.length P) (hL : RightS Sp.zr L) {L1 : List Sp} (hr : RightS Sp.zr L1) (ha : ∀ u, atS L1 u = max (atS L u) (atS P u)) : Lost L t L1 := by
  refine ⟨hr, fun u => ?_⟩
  have hs := sil_iff hL u
  have hin := h.in_ u
  have hout := h.out u
  rw [List.take_length] at hin hout
  have hrg := atS_range hL u
  rw [ha u]
  unfold loseK
  by_cases hc : 1 ≤ u ∧ u ≤ t ∧ atS L u ≠ 2
  · rw [if_pos hc, hin ⟨hc.1, hc.2.1⟩ (fun hh => hc.2.2 (hs.1 hh))]
    omega
  · rw [if_neg hc, hout fun hh => hc ⟨hh.1, hh.2.1, fun h2 => hh.2.2 (hs.2 h2)⟩]
    omega
/-- What Lose tells. -/
def RefLose (Z : Nat → Prop) (y : Nat) (L : List Sp) (X : List It) (t : Int) (w : World) (e : Ending) (w' : World) : Prop := ∃ L1, Lost L t L1 ∧ e = .returned (.int .i64 0) ∧ Ref Z w' y L1 (quietX L1 X) ∧ Two y y w w'
set_option maxHeartbeats 8000000 in
theorem ref_Lose {w : World} {y : Nat} {L : List Sp} {R : List (It × Bd)} {la : Option Addr} {ln lc : Nat} {xa : Option Addr} {xn xc : Nat} (h : Rst Z w y L R la ln lc xa xn xc) (hX : xn ≤ 1000000) {t : Int} (ht : 0 ≤ t ∧ t ≤ 1099511627776) :
    Calls Tryz.prog 52 #[.pointer (some ⟨y, 0, none⟩), .int .i64 t] w fun e w' => RefLose Z y L (R.map Prod.fst) t w e w' := by
  have HS : Hid (Rst Z w y L R la ln lc xa xn xc) := h
  have HRL : Hid (RightS Sp.zr L) := h.ok.right
  have HLN : Hid (L.length = ln) := h.ok.rd.size
  have hln : ln ≤ 9223372036854775807 := Nat.le_trans h.ok.lc h.ok.cm
  have HLU : Hid (LostUp L t 0 (if 0 < t then [⟨1, t, 3⟩] else [])) := LostUp.zero L ht
  obtain ⟨POST, HPO⟩ : ∃ P : Ending → World → Prop, Hid (P = fun e w' => RefLose Z y L (R.map Prod.fst) t w e w') := ⟨_, rfl⟩
  have hpost : (fun e w' => RefLose Z y L (R.map Prod.fst) t w e w') = fun e w' => POST e w' := HPO.out.symm
  rw [hpost]
  obtain ⟨ht0, ht1⟩ := ht
  have n0 : ¬ t < 0 := by omega
  have n1 : ¬ (1099511627776 : Int) < t := by omega
  clear hpost h
  obtain ⟨W1, HW1⟩ : ∃ W1, Hid (W1 = w.alloc (.cells #[] 62)) := ⟨_, rfl⟩
  have HB1 : Hid (Below w.heap.size w W1) := by (show Below _ _ _); rw [HW1.out]; exact below_new w _
  have HV1 : Hid (Sps W1 w.heap.size (.slice (some ⟨w.heap.size, 0, none⟩) 0 0) []) := by (show Sps _ _ _ _); rw [HW1.out]; exact Sps.empty w
  go_enter Tryz.func52, Tryz.ntmps52
  go_upto_region 6 with fail
  rw [← HW1.out]
  go_upto_if 17 with fail
  generalize hbb : decide (0 < t) = bb
  have HBB : Hid (decide (0 < t) = bb) := hbb
  clear hbb
  go_cut [5] from 18 to 22 (fun v5 wx => ∃ (av : Option Addr) (nv cv : Nat) (P : List Sp), v5 = .slice av nv cv ∧ Hid (Sps wx w.heap.size (.slice av nv cv) P) ∧ Hid (LostUp L t 0 P) ∧ Hid (Below w.heap.size w wx))
  case first =>
    cases bb with
    | true =>
      have hp : 0 < t := of_decide_eq_true HBB.out
      have HB2 : Hid (Below W1.heap.size W1 (W1.alloc (.cells #[.int .i64 1, .int .i64 t, .int .i64 3] 62))) := below_new _ _
      have HV2 : Hid (Sps (W1.alloc (.cells #[.int .i64 1, .int .i64 t, .int .i64 3] 62)) w.heap.size (.slice (some ⟨w.heap.size, 0, none⟩) 0 0) []) := HV1.out.below HB2.out
      have HT2 : Hid (∀ j u, (⟨1, t, 3⟩ : Sp).cells.toList[j]? = some u → (W1.alloc (.cells #[.int .i64 1, .int .i64 t, .int .i64 3] 62)).cell? ((⟨W1.heap.size, 0, none⟩ : Addr).add j) = some u) := Sp.told (q := ⟨1, t, 3⟩) (Bk.new _ _ _)
      have HS2 : Hid (w.heap.size ≤ (W1.alloc (.cells #[.int .i64 1, .int .i64 t, .int .i64 3] 62)).heap.size) := Nat.le_trans HB1.out.size HB2.out.size
      go_wp2_with (at_builtin; refine wpList_append_sp rfl (.tmp 18) (.tmp 21) rfl w.heap.size (.slice (some ⟨w.heap.size, 0, none⟩) 0 0) [] rfl HV2.out ⟨W1.heap.size, 0, none⟩ 1 ⟨1, t, 3⟩ rfl HT2.out (by simp) HS2.out ?_)
      intro v' w' ho hg
      obtain ⟨av', cv', rfl, _⟩ := ho.form
      have HO : Hid (Sps w' w.heap.size (.slice av' 1 cv') [⟨1, t, 3⟩]) := ho
      have HG : Hid (Below w.heap.size w w') := (HB1.out.trans (HB2.out.mono HB1.out.size)).trans (HV2.out.grown HS2.out hg)
      have HL0 : Hid (LostUp L t 0 [⟨1, t, 3⟩]) := by have := HLU.out; rw [if_pos hp] at this; exact this
      clear ho hg
      go_wp2
      go_meet
      exact ⟨av', 1, cv', [⟨1, t, 3⟩], rfl, HO, HL0, HG⟩
    | false =>
      have hp : ¬ 0 < t := of_decide_eq_false HBB.out
      have HL0 : Hid (LostUp L t 0 []) := by have := HLU.out; rw [if_neg hp] at this; exact this
      go_wp2
      go_meet
      exact ⟨_, 0, 0, [], rfl, HV1, HL0, HB1⟩
  case rest =>
  obtain ⟨av, nv, cv, P, rfl, HV, HLP, HB⟩ := hcut
  obtain ⟨w2, hwp⟩ : ∃ W, W = wc := ⟨_, rfl⟩
  subst hwp
  clear HV1 HB1 HW1 HLU
  go_wp2
  go_loopw [5, 6] (fun t5 t6 wr => ∃ (i : Nat) (av : Option Addr) (nv cv : Nat) (P : List Sp), t5 = .slice av nv cv ∧ t6 = .int .i64 (i : Int) ∧ i ≤ ln ∧ Hid (Sps wr w.heap.size (.slice av nv cv) P) ∧ Hid (LostUp L t i P) ∧ Hid (Below w.heap.size w wr)) (fun _ t6 _ => ln - (intOf t6).toNat)
  case atStart => exact ⟨0, av, nv, cv, P, rfl, rfl, Nat.zero_le _, HV, HLP, HB⟩
  case round =>
    clear HV HLP HB
    obtain ⟨i, ai, ni, ci, Pi, rfl, rfl, hi, HV, HLP, HB⟩ := hrel
    have HSR : Hid (Rst Z wr y L R la ln lc xa xn xc) := HS.out.stay HB.out
    have c0 : wr.cell? ⟨y, 0, none⟩ = some (.slice la ln lc) := HSR.out.blk.cell 0 rfl
    by_cases hlt : i < ln
    · have hlt' : (i : Int) < (ln : Int) := by omega
      have gi : (0 : Int) ≤ (i : Int) := by omega
      obtain ⟨g, o, rfl, hg, q, hq, d0, d1, d2⟩ := HSR.out.ok.rd.at_ i hlt
      have HNX := HLP.out.next HRL.out hq
      have hqe := right_each HRL.out (List.mem_of_getElem? hq)
      obtain ⟨qf, qt, qi⟩ := q
      simp only at d0 d1 d2 HNX hqe
      have HNX : Hid ((qi = 2 → LostUp L t (i + 1) (forgetS Pi qf qt)) ∧ (qi ≠ 2 ∨ t ≤ 0 → LostUp L t (i + 1) Pi)) := HNX
      obtain ⟨z1, z2, z3, z4, z5⟩ := hqe
      have z1 : (0 : Int) < qf := z1
      clear hq hg
      by_cases h2 : qi = 2
      · subst h2
        by_cases hp : 0 < t
        · have hok : MapOk wr ai ni ci Pi := (let ⟨_, _, _, hv, hm⟩ := HV.out.ok HLP.out.right; by simp only [Value.slice.injEq] at hv; obtain ⟨rfl, rfl, rfl⟩ := hv; exact hm)
          have HPN : Hid (ni ≤ 1099511627776) := by (show _ ≤ _); rw [← hok.rd.size]; exact right_short HLP.out.right
          have HFG : Hid (∀ W, Below wr.heap.size wr W → Calls Tryz.prog 76 #[.slice ai ni ci, .int .i64 qf, .int .i64 qt] W fun e w' => (∃ v, e = .returned (.tuple #[v, .int .i64 0]) ∧ Sps w' W.heap.size v (forgetS Pi qf qt)) ∧ Below W.heap.size W w') := by
            intro W hW
            refine (ref_Forget ai ni ci Pi qf qt W (hok.rd.below hW) HPN.out).mono ?_
            rintro e w' ⟨hr, hb⟩
            refine ⟨?_, hb⟩
            rcases hr.out with ⟨h1, _⟩ | ⟨_, h3⟩
            · rw [(rightB_iff _ _).2 HLP.out.right, (mayB_iff qf qt).2 ⟨by omega, z2, z3⟩] at h1; cases h1
            · exact h3
          have e0 : wr.drew.cell? ⟨y, 0, none⟩ = some (.slice (some ⟨g, o, none⟩) ln lc) := c0
          have e1 : wr.drew.cell? ⟨g, o + i * 3, none⟩ = some (.int .i64 qf) := d0
          have e2 : wr.drew.cell? ⟨g, o + i * 3 + 1, none⟩ = some (.int .i64 qt) := d1
          have HBD : Hid (Below wr.heap.size wr wr.drew) := (Below.refl _ _).drew
          clear hok
          go_upto_region 12 with fail
          go_region_law (first
            | (go_simp; go_at_call 76; refine (HFG.out _ HBD.out).mono ?_; rintro e w4 ⟨⟨v4, rfl, hs4⟩, hb4⟩; have HB4 : Hid (Below w.heap.size w w4) := HB.out.trans ((HBD.out.trans hb4).mono HB.out.size); have HV4 : Hid (Sps w4 w.heap.size v4 (forgetS Pi qf qt)) := hs4.lower HB.out.size; obtain ⟨a4, n4, c4, rfl⟩ : ∃ a n c, v4 = .slice a n c := (let ⟨a, c, h, _⟩ := hs4.form; ⟨a, _, c, h⟩); clear hb4 hs4))
          all_goals (
            clear e0 e1 e2 c0 d0 d1 d2
            go_wp2
            go_roundw
            case rel => exact ⟨i + 1, a4, n4, c4, forgetS Pi qf qt, rfl, by go_num, by omega, HV4, HNX.out.1 rfl, HB4⟩
            case measure => simp [intOf]; omega)
        · go_wp2
          go_roundw
          case rel => exact ⟨i + 1, ai, ni, ci, Pi, rfl, by go_num, by omega, HV, HNX.out.2 (.inr (by omega)), HB⟩
          case measure => simp [intOf]; omega
      · go_wp2
        go_roundw
        case rel => exact ⟨i + 1, ai, ni, ci, Pi, rfl, by go_num, by omega, HV, HNX.out.2 (.inl h2), HB⟩
        case measure => simp [intOf]; omega
    · have hnl : ¬ (i : Int) < (ln : Int) := by omega
      have HLF : Hid (LostUp L t L.length Pi) := by (show LostUp _ _ _ _); rw [HLN.out, show ln = i from by omega]; exact HLP.out
      have hok : MapOk wr ai ni ci Pi := (let ⟨_, _, _, hv, hm⟩ := HV.out.ok HLP.out.right; by simp only [Value.slice.injEq] at hv; obtain ⟨rfl, rfl, rfl⟩ := hv; exact hm)
      have HOK : Hid (MapOk wr ai ni ci Pi) := hok
      clear hok HV
      have HNY : Hid (¬ HasInt wr y) := HSR.out.noInt
      go_wp2_with fail
      refine (ref_Join_new HSR.out.ok HOK.out).mono ?_
      rintro e w4 ⟨⟨a4, n4, c4, L4, rfl, HM4, HA4, HT4⟩, hb4⟩
      have HS4 : Hid (Rst Z w4 y L R la ln lc xa xn xc) := HSR.out.stay hb4
      have HB4 : Hid (Below w.heap.size w w4) := HB.out.trans (hb4.mono HB.out.size)
      have d0 : w4.cell? ⟨y, 0, none⟩ = some (.slice la ln lc) := HS4.out.blk.cell 0 rfl
      have f0 := HS4.out.blk.free 0
      have HS5 : Hid (Rst Z (w4.setCell ⟨y, 0, none⟩ (.slice a4 n4 c4)) y L4 R a4 n4 c4 xa xn xc) := HS4.out.setL HM4.out (fun ad e => HSR.out.zz _ (HA4.out ad e).1) (fun ad e => (HA4.out ad e).2)
      have HT5 : Hid (Two y y w (w4.setCell ⟨y, 0, none⟩ (.slice a4 n4 c4))) := (Two.of_below y y HB4.out).setCell 0 _
      have HLL : Hid (Lost L t L4) := HLF.out.last HRL.out HM4.out.right HT4.out
      generalize hw5 : w4.setCell ⟨y, 0, none⟩ (.slice a4 n4 c4) = w5 at HS5 HT5
      have HW5 : Hid (w4.setCell ⟨y, 0, none⟩ (.slice a4 n4 c4) = w5) := hw5
      clear hb4 hw5 c0
      go_upto_region 14 with fail
      rw [HW5.out]
      clear d0 f0
      go_wp2_with fail
      refine (ref_quiet HS5.out hX).mono ?_
      rintro e w6 ⟨rfl, ⟨xa6, xn6, xc6, ho6⟩, ht6⟩
      have HO6 : Hid (OwnX Z w5.heap.size w6 y L4 (quietR L4 R) a4 n4 c4 xa6 xn6 xc6) := ho6
      have HT6 : Hid (Two y y w w6) := HT5.out.trans ht6
      clear ho6 ht6
      go_wp2
      rw [HPO.out]
      exact ⟨L4, HLL.out, rfl, ⟨_, _, _, _, _, _, _, HO6.out.st, quietR_map L4 R⟩, HT6.out⟩
theorem ref_Lose_bad (w : World) (y : Nat) {t : Int} (ht : ¬ (0 ≤ t ∧ t ≤ 1099511627776)) : Calls Tryz.prog 52 #[.pointer (some ⟨y, 0, none⟩), .int .i64 t] w fun e w' => e = .returned (.int .i64 2) ∧ Below w.heap.size w w' := by
  by_cases h0 : t < 0
  · clear ht
    go_enter Tryz.func52, Tryz.ntmps52
    go_wp2
    go_returns
    exact ⟨rfl, Below.refl _ _⟩
  · have h1 : (1099511627776 : Int) < t := by omega
    clear ht
    go_enter Tryz.func52, Tryz.ntmps52
    go_wp2
    go_returns
    exact ⟨rfl, Below.refl _ _⟩
end Go.Proofs.YtidihfhgnjkmaaaGreat
/- Streams of both sides: they stay where what they are made of does; another property of blocks. -/
namespace Go.Proofs.YtidihfhgnjkmaaaGreat
set_option maxRecDepth 100000
open Go.RowKit Go.Maps Go.Sort Go.Shelf
variable {Z Z' : Nat → Prop}

theorem Stm.frame {w w' : World} {s m : Nat} {a : Option Addr} {n c : Nat} {l : List Sp} {X : List (Int × Value)} (h : Stm Z w s m a n c l X) (hs : w.heap.size ≤ w'.heap.size) (h1 : w'.heap[s]? = w.heap[s]?) (h2 : w'.heap[m]? = w.heap[m]?) (hk : ∀ k, k < w.heap.size → Z k → HasInt w k → w'.heap[k]? = w.heap[k]?) : Stm Z w' s m a n c l X := by
  refine ⟨h1.trans h.blk, ⟨h.ok.rd.frame (fun ad e => (h.apart ad e).2.2.2) hs hk, h.ok.lc, h.ok.cm, h.ok.right⟩, ?_, h.rise, fun ad e => ⟨Nat.lt_of_lt_of_le (h.apart ad e).1 hs, (h.apart ad e).2⟩, fun k hk => h.zz k (Nat.le_trans hs hk)⟩
  obtain ⟨es, clock, hbk, F, r⟩ := h.items
  exact ⟨es, clock, h2.trans hbk, F, r⟩
theorem ItAt.frame {w w' : World} {X : List (Int × Value)} {t : Int} {o : Option It} (h : ItAt Z w X t o) (hs : w.heap.size ≤ w'.heap.size) (hk : ∀ k, k < w.heap.size → Z k → HasInt w k → w'.heap[k]? = w.heap[k]?) : ItAt Z w' X t o := by
  cases o with
  | none => exact h
  | some q =>
    obtain ⟨h1, h2, h3, ba, bc, h4, h5, h6⟩ := h
    refine ⟨h1, h2, h3, ba, bc, h4, ?_, h6⟩
    by_cases hq : q.body = []
    · exact ⟨rfl, h5.byte, .inl (by rw [hq]; rfl)⟩
    · refine h5.frame hs fun ad e hlt => hk _ hlt ((h6 ad e).resolve_left hq) (.inl ?_)
      rcases h5.cells with h0 | ⟨g, o, ha, hg, hc⟩
      · exact absurd (List.eq_nil_of_length_eq_zero h0) hq
      · rw [ha] at e
        cases e
        exact ⟨_, _, _, hc 0 (List.length_pos_iff.2 hq)⟩
theorem Strm.frame {w w' : World} {s m : Nat} {l : List Sp} {I : Int → Option It} {a : Option Addr} {n c : Nat} {X : List (Int × Value)} (h : Strm Z w s m l I a n c X) (hs : w.heap.size ≤ w'.heap.size) (h1 : w'.heap[s]? = w.heap[s]?) (h2 : w'.heap[m]? = w.heap[m]?) (hk : ∀ k, k < w.heap.size → Z k → HasInt w k → w'.heap[k]? = w.heap[k]?) : Strm Z w' s m l I a n c X := ⟨h.stm.frame hs h1 h2 hk, fun t => (h.its t).frame hs hk, h.data⟩
theorem Imp.frame {w w' : World} {s m : Nat} {L : List Sp} {X : List It} (h : Imp Z w s m L X) (hs : w.heap.size ≤ w'.heap.size) (h1 : w'.heap[s]? = w.heap[s]?) (h2 : w'.heap[m]? = w.heap[m]?) (hk : ∀ k, k < w.heap.size → Z k → HasInt w k → w'.heap[k]? = w.heap[k]?) : Imp Z w' s m L X := by
  obtain ⟨l, ⟨a, n, c, Y, g⟩, e⟩ := h
  exact ⟨l, ⟨a, n, c, Y, g.frame hs h1 h2 hk⟩, e⟩
theorem Imp.noInt {w : World} {s m : Nat} {L : List Sp} {X : List It} (h : Imp Z w s m L X) : (¬ HasInt w s ∧ ¬ HasInt w m) ∧ s < w.heap.size ∧ m < w.heap.size ∧ s ≠ m := by
  obtain ⟨l, ⟨a, n, c, Y, g⟩, e⟩ := h
  exact ⟨g.stm.noInt, g.stm.blk.lt, g.stm.items.lt, g.stm.ne⟩
theorem Imp.zz {w : World} {s m : Nat} {L : List Sp} {X : List It} (h : Imp Z w s m L X) : ∀ k, w.heap.size ≤ k → Z k := by
  obtain ⟨l, ⟨a, n, c, Y, g⟩, e⟩ := h
  exact g.stm.zz
theorem Ref.frame {w w' : World} {y : Nat} {L : List Sp} {X : List It} (h : Ref Z w y L X) (hs : w.heap.size ≤ w'.heap.size) (h1 : w'.heap[y]? = w.heap[y]?) (hk : ∀ k, k < w.heap.size → Z k → HasInt w k → w'.heap[k]? = w.heap[k]?) : Ref Z w' y L X := by
  obtain ⟨R, la, ln, lc, xa, xn, xc, g, e⟩ := h
  exact ⟨R, la, ln, lc, xa, xn, xc, g.frame hs h1 hk, e⟩
theorem Ref.noInt {w : World} {y : Nat} {L : List Sp} {X : List It} (h : Ref Z w y L X) : ¬ HasInt w y ∧ y < w.heap.size := by
  obtain ⟨R, la, ln, lc, xa, xn, xc, g, e⟩ := h
  exact ⟨g.noInt, g.blk.lt⟩
/-- Which property of blocks: another one that holds where the first one does. -/
theorem Imp.reZ {w : World} {s m : Nat} {L : List Sp} {X : List It} (h : Imp Z w s m L X) (hz : ∀ k, k < w.heap.size → Z k → Z' k) (hzz : ∀ k, w.heap.size ≤ k → Z' k) : Imp Z' w s m L X := by
  obtain ⟨l, ⟨a, n, c, Y, g⟩, e⟩ := h
  refine ⟨l, ⟨a, n, c, Y, ⟨g.stm.blk, g.stm.ok, g.stm.items, g.stm.rise, fun ad e => (let ⟨x1, x2, x3, x4⟩ := g.stm.apart ad e; ⟨x1, x2, x3, hz _ x1 x4⟩), hzz⟩, fun t => ?_, g.data⟩, e⟩
  have hi := g.its t
  cases ho : getI X t with
  | none =>
    rw [ho] at hi
    exact hi
  | some q =>
    rw [ho] at hi
    obtain ⟨h1, h2, h3, ba, bc, h4, h5, h6⟩ := hi
    refine ⟨h1, h2, h3, ba, bc, h4, h5, fun ad e => ?_⟩
    rcases h6 ad e with h | h
    · exact .inl h
    · by_cases hlt : ad.block < w.heap.size
      · exact .inr (hz _ hlt h)
      · exact .inr (hzz _ (by omega))
theorem Ref.reZ {w : World} {y : Nat} {L : List Sp} {X : List It} (h : Ref Z w y L X) (hz : ∀ k, k < w.heap.size → Z k → Z' k) (hzz : ∀ k, w.heap.size ≤ k → Z' k) : Ref Z' w y L X := by
  obtain ⟨R, la, ln, lc, xa, xn, xc, g, e⟩ := h
  refine ⟨R, la, ln, lc, xa, xn, xc, ⟨g.blk, g.ok, fun ad e => hz _ (g.lt ad e) (g.lz ad e), g.lt, ⟨g.its.size, ?_, fun x hx => ?_, g.its.each⟩, g.xl, g.xm, g.xnil, hzz⟩, e⟩
  · rcases g.its.cells with h0 | ⟨b, o, ha, hb, hZ, hc⟩
    · exact .inl h0
    · exact .inr ⟨b, o, ha, hb, hz _ hb hZ, hc⟩
  · have b := g.its.bod x hx
    exact ⟨b.rd, b.nil_, b.lc, b.cm, fun ad e => by obtain ⟨cs, m, hc⟩ := b.ty ad e; exact hz _ (Array.getElem?_eq_some_iff.1 hc).1 (b.z ad e), b.ty, b.open_⟩
/-- Both sides of a stream. -/
structure Duo (Z : Nat → Prop) (w : World) (s m y : Nat) (L : List Sp) (X : List It) : Prop where
  imp : Imp Z w s m L X
  ref : Ref Z w y L X
  kn : Kn L X
  few : X.length ≤ 64
  ys : y ≠ s
/-- Three blocks alone turn, and what has not the property. -/
structure Tri (Z : Nat → Prop) (s m y : Nat) (w w' : World) : Prop where
  os : w'.os = w.os
  tape : w'.tape = w.tape
  output : w'.output = w.output
  size : w.heap.size ≤ w'.heap.size
  block : ∀ k, k < w.heap.size → Z k → k ≠ s → k ≠ m → k ≠ y → w'.heap[k]? = w.heap[k]?
theorem Tri.refl (s m y : Nat) (w : World) : Tri Z s m y w w := ⟨rfl, rfl, rfl, Nat.le_refl _, fun _ _ _ _ _ _ => rfl⟩
theorem Tri.trans {s m y : Nat} {w w1 w2 : World} (a : Tri Z s m y w w1) (b : Tri Z s m y w1 w2) : Tri Z s m y w w2 := ⟨b.os.trans a.os, b.tape.trans a.tape, b.output.trans a.output, Nat.le_trans a.size b.size, fun k hk hz h1 h2 h3 => (b.block k (Nat.lt_of_lt_of_le hk a.size) hz h1 h2 h3).trans (a.block k hk hz h1 h2 h3)⟩
theorem Tri.of_below (s m y : Nat) {w w1 : World} (a : Below w.heap.size w w1) : Tri Z s m y w w1 := ⟨a.os, a.tape, a.output, a.size, fun k hk _ _ _ _ => a.block k hk⟩
theorem Tri.of_imp (y : Nat) {s m : Nat} {w w1 : World} (a : Two s m w w1) : Tri Z s m y w w1 := ⟨a.os, a.tape, a.output, a.size, fun k hk _ h1 h2 _ => a.block k hk h1 h2⟩
theorem Tri.of_ref (s m : Nat) {y : Nat} {w w1 : World} (a : Two y y w w1) : Tri Z s m y w w1 := ⟨a.os, a.tape, a.output, a.size, fun k hk _ _ _ h3 => a.block k hk h3 h3⟩
theorem Tri.mono {s m y : Nat} {w w1 : World} (a : Tri Z s m y w w1) (hz : ∀ k, k < w.heap.size → Z' k → Z k) : Tri Z' s m y w w1 := ⟨a.os, a.tape, a.output, a.size, fun k hk h => a.block k hk (hz k hk h)⟩
/-- The reference's stream stays where the other one turns. -/
theorem Ref.two {w w' : World} {s m y : Nat} {L L2 : List Sp} {X X2 : List It} (h : Ref Z w y L X) (hi : Imp Z w s m L2 X2) (hy : y ≠ s) (ht : Two s m w w') : Ref Z w' y L X := by
  obtain ⟨⟨n1, n2⟩, l1, l2, _⟩ := hi.noInt
  obtain ⟨R, la, ln, lc, xa, xn, xc, g, e⟩ := h
  have hym : y ≠ m := by
    rintro rfl
    obtain ⟨l, ⟨a, n, c, Y, q⟩, _⟩ := hi
    obtain ⟨es, clock, hb, _⟩ := q.stm.items
    have := g.blk.symm.trans hb
    cases this
  exact ⟨R, la, ln, lc, xa, xn, xc, g.frame ht.size (ht.block y g.blk.lt hy hym) fun k hk _ hint => ht.block k hk (by rintro rfl; exact n1 hint) (by rintro rfl; exact n2 hint), e⟩
theorem Imp.away {w w' : World} {s m y : Nat} {L L2 : List Sp} {X X2 : List It} (h : Imp Z w s m L X) (hr : Ref Z w y L2 X2) (hy : y ≠ s) (ht : Two y y w w') : Imp Z w' s m L X := by
  obtain ⟨n1, l1⟩ := hr.noInt
  obtain ⟨l, ⟨a, n, c, Y, q⟩, e⟩ := h
  have hym : m ≠ y := by
    rintro rfl
    obtain ⟨R, la, ln, lc, xa, xn, xc, g, _⟩ := hr
    obtain ⟨es, clock, hb, _⟩ := q.stm.items
    have := g.blk.symm.trans hb
    cases this
  exact ⟨l, ⟨a, n, c, Y, q.frame ht.size (ht.block s q.stm.blk.lt (Ne.symm hy) (Ne.symm hy)) (ht.block m q.stm.items.lt hym hym) fun k hk _ hint => ht.ints n1 k hk hint⟩, e⟩
theorem Duo.stay {w w' : World} {s m y : Nat} {L : List Sp} {X : List It} (h : Duo Z w s m y L X) (hb : Below w.heap.size w w') : Duo Z w' s m y L X := ⟨h.imp.stay hb, h.ref.stay hb, h.kn, h.few, h.ys⟩
theorem Duo.reZ {w : World} {s m y : Nat} {L : List Sp} {X : List It} (h : Duo Z w s m y L X) (hz : ∀ k, k < w.heap.size → Z k → Z' k) (hzz : ∀ k, w.heap.size ≤ k → Z' k) : Duo Z' w s m y L X := ⟨h.imp.reZ hz hzz, h.ref.reZ hz hzz, h.kn, h.few, h.ys⟩
theorem Duo.ym {w : World} {s m y : Nat} {L : List Sp} {X : List It} (h : Duo Z w s m y L X) : y ≠ m := by
  rintro rfl
  obtain ⟨l, ⟨a, n, c, Y, q⟩, e⟩ := h.imp
  obtain ⟨R, la, ln, lc, xa, xn, xc, g, _⟩ := h.ref
  obtain ⟨es, clock, hb, _⟩ := q.stm.items
  have := g.blk.symm.trans hb
  cases this
/-- Another pair stays where this one turns. -/
theorem Duo.tri {w w' : World} {s m y s2 m2 y2 : Nat} {L L2 : List Sp} {X X2 : List It} (h : Duo Z w s m y L X) (g : Duo Z w s2 m2 y2 L2 X2) (hz : Z s ∧ Z m ∧ Z y) (hs : (s ≠ s2 ∧ s ≠ m2 ∧ s ≠ y2) ∧ (m ≠ s2 ∧ m ≠ m2 ∧ m ≠ y2) ∧ (y ≠ s2 ∧ y ≠ m2 ∧ y ≠ y2)) (ht : Tri Z s2 m2 y2 w w') : Duo Z w' s m y L X := by
  obtain ⟨⟨n1, n2⟩, l1, l2, _⟩ := g.imp.noInt
  obtain ⟨n3, l3⟩ := g.ref.noInt
  obtain ⟨_, k1, k2, _⟩ := h.imp.noInt
  obtain ⟨_, k3⟩ := h.ref.noInt
  have hk : ∀ k, k < w.heap.size → Z k → HasInt w k → w'.heap[k]? = w.heap[k]? := fun k hk hz hint => ht.block k hk hz (by rintro rfl; exact n1 hint) (by rintro rfl; exact n2 hint) (by rintro rfl; exact n3 hint)
  exact ⟨h.imp.frame ht.size (ht.block s k1 hz.1 hs.1.1 hs.1.2.1 hs.1.2.2) (ht.block m k2 hz.2.1 hs.2.1.1 hs.2.1.2.1 hs.2.1.2.2) hk, h.ref.frame ht.size (ht.block y k3 hz.2.2 hs.2.2.1 hs.2.2.2.1 hs.2.2.2.2) hk, h.kn, h.few, h.ys⟩
end Go.Proofs.YtidihfhgnjkmaaaGreat
