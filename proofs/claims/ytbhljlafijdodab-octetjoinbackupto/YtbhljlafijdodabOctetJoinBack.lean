/- Proved: for every parts and whatever stands around them, of bulk at most 1048576 together, grapevinelaw02.OctetJoinBack answers true and leaves its arguments as they were. Its condition: that bound. -/
import Derived.Test.YtbhljlafijdodabJoinBackM
import Derived.Test.YtbhljlafijdodabLay
namespace Go.Proofs.Ytbhljlafijdodab
open Go.ChangeShapes Go.WideShapes Go.ChangeAt Go.RowKit
namespace octetJoinBack

theorem leb1 : (Leb.leb 1).length = 1 := by decide

set_option maxRecDepth 100000 in
set_option maxHeartbeats 2000000 in
theorem walk (a : Option Addr) (n cap : Nat) (ps : List Pt) (a1 : Option Addr) (l1 c1 : Nat) (xs : List Nat) (a2 : Option Addr) (l2 c2 : Nat) (zs : List Nat) (w : World)
    (hp : Parts w a n ps) (hn : n ≤ 9223372036854775807) (hpl : ∀ p ∈ ps, p.l ≤ 9223372036854775807) (h1 : Rd w a1 l1 xs) (n1 : a1 = none → c1 = 0) (h2 : Rd w a2 l2 zs) (n2 : a2 = none → c2 = 0) (hl : l1 + l2 ≤ 1048576) :
    Calls Try.prog 4 #[.slice a n cap, .agg #[.slice a1 l1 c1, .slice a2 l2 c2]] w fun e w' => e = .returned (.bool true) ∧ Below w.heap.size w w' := by
  have HP : Hid (Parts w a n ps) := hp
  have H1 : Hid (Rd w a1 l1 xs) := h1
  have H2 : Hid (Rd w a2 l2 zs) := h2
  have HPL : Hid (∀ p ∈ ps, p.l ≤ 9223372036854775807) := hpl
  have HA : Hid (Below w.heap.size w (w.alloc (.cells #[.slice a1 l1 c1, .slice a2 l2 c2] 35))) := below_alloc w _
  by_cases hbad : 64 < n ∨ ∃ p ∈ ps, 4096 < p.l
  · have HJ : Hid (Calls Try.prog 6 #[.slice a n cap] (w.alloc (.cells #[.slice a1 l1 c1, .slice a2 l2 c2] 35)) fun e w' => e = .returned (.tuple #[.slice none 0 0, .int .i64 6]) ∧ w' = w.alloc (.cells #[.slice a1 l1 c1, .slice a2 l2 c2] 35)) := by
      by_cases h64 : 64 < n
      · exact octet_Join_many a n cap _ h64 hn
      · exact octet_Join_long a n cap ps _ (HP.out.below HA.out) (by omega) HPL.out (hbad.resolve_left h64)
    clear hp h1 h2 hpl hbad
    go_enter Try.func4, Try.ntmps4
    go_wp2_with fail
    refine HJ.out.mono ?_
    rintro e w1 ⟨rfl, hw1⟩
    subst hw1
    go_wp2_with fail
    refine (octet_Uint 1 (by omega) _).mono ?_
    rw [leb1]
    rintro e w2 ⟨a3, c3, rfl, _, _, hb2⟩
    have HB2 : Hid (Below w.heap.size w w2) := HA.out.trans (hb2.mono (by simp))
    clear hb2
    go_wp2
    go_ret
    exact ⟨rfl, HB2.out⟩
  · have h64 : n ≤ 64 := by omega
    have hlen : ∀ p ∈ ps, p.l ≤ 4096 := fun p hp => by
      by_cases h : p.l ≤ 4096
      · exact h
      · exact absurd (.inr ⟨p, hp, by omega⟩) hbad
    have HLN : Hid (∀ p ∈ ps, p.l ≤ 4096) := hlen
    have HPS : Hid (ps.length = n) := hp.size
    have HXL : Hid (xs.length = l1) := h1.size
    obtain ⟨J, HJD⟩ : ∃ J, Hid (J = JoinM.join (ps.map Pt.dat)) := ⟨_, rfl⟩
    obtain ⟨k0, HK0⟩ : ∃ k0, Hid (k0 = l1 + (Leb.leb n).length) := ⟨_, rfl⟩
    have HTJ : Hid (Leb.take (xs ++ J ++ zs) (l1 : Int) = (n, k0, 0) ∧ JoinM.takes (xs ++ J ++ zs) n k0 = (ps.map Pt.dat, l1 + J.length, 0)) := by
      have h := JoinM.take_join (ps.map Pt.dat) xs zs (by rw [List.length_map, HPS.out]; exact h64) (fun b hb => by
        obtain ⟨p, hp2, rfl⟩ := List.mem_map.1 hb
        show p.bs.length ≤ 4096
        rw [(HP.out.body p hp2).1.size]
        exact HLN.out p hp2)
      rw [List.length_map, HPS.out, HXL.out, ← HJD.out, ← HK0.out] at h
      exact h
    clear hp h1 h2 hpl hbad hlen
    go_enter Try.func4, Try.ntmps4
    go_wp2_with fail
    refine (octet_Join a n cap ps _ (HP.out.below HA.out) h64 HLN.out).mono ?_
    rw [← HJD.out]
    rintro e w1 ⟨b, m, cb, rfl, hnb, hob, hm, hbb⟩
    have HOB : Hid (Own w1 _ b m cb J) := hob
    have HJL : Hid (J.length = m) := hob.size
    have hm1 : 1 ≤ m := by
      rw [← HJL.out, HJD.out]
      have := Leb.leb_length (ps.map Pt.dat).length
      simp only [JoinM.join, List.length_append]
      omega
    have hm2 : m ≤ 270000 := by
      have : n * 4106 ≤ 64 * 4106 := Nat.mul_le_mul_right _ h64
      omega
    have k0' : w1.cell? ⟨w.heap.size, 0, none⟩ = some (.slice a1 l1 c1) := (hbb.cell (p := ⟨w.heap.size, 0, none⟩) (by simp)).trans (by simp)
    have k1' : w1.cell? ⟨w.heap.size, 1, none⟩ = some (.slice a2 l2 c2) := (hbb.cell (p := ⟨w.heap.size, 1, none⟩) (by simp)).trans (by simp)
    have HB1 : Hid (Below w.heap.size w w1) := HA.out.trans (hbb.mono (by simp))
    have hsz : w.heap.size < w1.heap.size := Nat.lt_of_lt_of_le (by simp) hbb.size
    clear hob hbb hm
    go_wp2_with fail
    refine (around_lay a1 l1 c1 xs a2 l2 c2 zs b m cb J w1 (H1.out.below HB1.out) n1 (H2.out.below HB1.out) n2 HOB.out.rd (fun h => absurd h hnb) (by omega)).mono ?_
    rintro e w2 ⟨a3, c3, rfl, ho3, hb3⟩
    obtain ⟨h, rfl, hgb, hgl⟩ := ho3.form (by omega)
    have HO3 : Hid (Own w2 w1.heap.size (some ⟨h, 0, none⟩) (l1 + m + l2) c3 (xs ++ J ++ zs)) := ho3
    have HC3 : Hid (l1 + m + l2 ≤ c3) := by
      rcases ho3.row.2 with ⟨hv, h0⟩ | ⟨g, c, cur, hv, _, _, hlc, _⟩
      · simp at hv
      · simp only [Value.slice.injEq] at hv
        show _ ≤ _
        omega
    have k20 : w2.cell? ⟨w.heap.size, 0, none⟩ = some (.slice a1 l1 c1) := (hb3.cell (p := ⟨w.heap.size, 0, none⟩) hsz).trans k0'
    have HB2 : Hid (Below w1.heap.size w1 w2) := hb3
    have HB02 : Hid (Below w.heap.size w w2) := HB1.out.trans (hb3.mono HB1.out.size)
    clear ho3 hb3 k0' k1'
    go_wp2_with fail
    refine (octet_TakeJoin_body h 0 (l1 + m + l2) c3 (xs ++ J ++ zs) (l1 : Int) w2 HO3.out.rd HC3.out (by omega) (by omega) n k0 HTJ.out.1 h64).mono ?_
    rintro e w3 ⟨hb3, hor⟩
    obtain ⟨g, qs, q, hq, rfl, hop⟩ : ∃ g qs q, JoinM.takes (xs ++ J ++ zs) n k0 = (qs.map Pt.dat, q, 0) ∧ e = .returned (.tuple #[.slice (some ⟨g, 0, none⟩) n n, .int .i64 (q : Int), .int .i64 0]) ∧ OwnParts w3 w2.heap.size g n qs := by
      rcases hor with ⟨f, hf, hbad, _⟩ | hgood
      · rw [HTJ.out.2] at hbad
        simp only [Prod.mk.injEq] at hbad
        exact absurd hbad.2.2.symm hf
      · exact hgood
    rw [HTJ.out.2] at hq
    simp only [Prod.mk.injEq, and_true] at hq
    obtain ⟨hqd, hqq⟩ := hq
    rw [HJL.out] at hqq
    subst hqq
    have HQD : Hid (qs.map Pt.dat = ps.map Pt.dat) := hqd.symm
    have HOP : Hid (OwnParts w3 w2.heap.size g n qs) := hop
    have HB3 : Hid (Below w2.heap.size w2 w3) := hb3
    have k30 : w3.cell? ⟨w.heap.size, 0, none⟩ = some (.slice a1 l1 c1) := (hb3.cell (p := ⟨w.heap.size, 0, none⟩) (Nat.lt_of_lt_of_le hsz HB2.out.size)).trans k20
    have HO33 : Hid (Own w3 w1.heap.size (some ⟨h, 0, none⟩) (l1 + m + l2) c3 (xs ++ J ++ zs)) := HO3.out.below hb3
    have HB03 : Hid (Below w.heap.size w w3) := HB02.out.trans (hb3.mono HB02.out.size)
    clear hb3 hor hop hqd k20
    go_wp2
    go_loopw [11] (fun t11 wr => ∃ (i : Nat) (L : List Nat), i ≤ l1 + m + l2 ∧ t11 = .int .i64 (i : Int) ∧ Hid (Own wr w1.heap.size (some ⟨h, 0, none⟩) (l1 + m + l2) c3 L) ∧ Hid (OwnParts wr w2.heap.size g n qs) ∧ wr.cell? ⟨w.heap.size, 0, none⟩ = some (.slice a1 l1 c1) ∧ Hid (Below w.heap.size w wr)) (fun t11 _ => l1 + m + l2 - (intOf t11).toNat)
    case atStart => exact ⟨0, _, by omega, rfl, HO33, HOP, k30, HB03⟩
    case round =>
      obtain ⟨i, L, hi, rfl, HO, HQ, hch, HB⟩ := hrel
      clear k30
      by_cases hlt : i < l1 + m + l2
      · have hlt' : (i : Int) < (l1 : Int) + (m : Int) + (l2 : Int) := by omega
        obtain ⟨c, HC⟩ : ∃ c, Hid (c = L.getD i 0) := ⟨_, rfl⟩
        have hcx : wr.cell? ⟨h, i, none⟩ = some (.int .u8 (c : Int)) := by rw [HC.out]; exact HO.out.cell i hlt
        have hfr : wr.frozen? ⟨h, i, none⟩ = false := HO.out.free _
        have hc : c < 256 := by rw [HC.out]; exact getD_lt HO.out.byte _
        obtain ⟨z, HZ⟩ : ∃ z, Hid (z = c ^^^ 51) := ⟨_, rfl⟩
        have ez : bits BinOp.xor IntKind.u8 (c : Int) 51 = (z : Int) := by rw [HZ.out]; exact u8_xor_nat c 51 hc (by omega)
        have hz8 : z < 256 := by rw [HZ.out]; exact Nat.xor_lt_two_pow (n := 8) hc (by omega)
        have HO' : Hid (Own (wr.setCell ⟨h, i, none⟩ (.int .u8 (z : Int))) w1.heap.size (some ⟨h, 0, none⟩) (l1 + m + l2) c3 (L.set i z)) := HO.out.set i z hz8
        have HB' : Hid (Below w.heap.size w (wr.setCell ⟨h, i, none⟩ (.int .u8 (z : Int)))) := HB.out.setCell (by show w.heap.size ≤ h; omega) _
        have HQ' : Hid (OwnParts (wr.setCell ⟨h, i, none⟩ (.int .u8 (z : Int))) w2.heap.size g n qs) := HQ.out.under ⟨h, i, none⟩ _ hgl
        have hch' : (wr.setCell ⟨h, i, none⟩ (.int .u8 (z : Int))).cell? ⟨w.heap.size, 0, none⟩ = some (.slice a1 l1 c1) := (World.cell?_setCell_far wr _ _ _ (by show h ≠ w.heap.size; omega)).trans hch
        go_wp2
        go_roundw
        case rel => exact ⟨i + 1, L.set i z, by omega, by go_num, HO', HQ', hch', HB'⟩
        case measure => simp [intOf]; omega
      · have hnl : ¬ (i : Int) < (l1 : Int) + (m : Int) + (l2 : Int) := by omega
        go_wp2_with fail
        refine (ref_SameRows (some ⟨g, 0, none⟩) n a cap n qs ps wr HQ.out.parts (HP.out.below HB.out) HQD.out (by omega)).mono ?_
        rintro e w4 ⟨rfl, hb4⟩
        have hch4 : w4.cell? ⟨w.heap.size, 0, none⟩ = some (.slice a1 l1 c1) := (hb4.cell (p := ⟨w.heap.size, 0, none⟩) (World.block_lt_of_cell? wr _ hch)).trans hch
        have HB4 : Hid (Below w.heap.size w w4) := HB.out.trans (hb4.mono HB.out.size)
        clear hb4
        go_wp2
        go_ret
        exact ⟨by simp, HB4.out⟩

theorem contract (H : Type) (enc : TypeId × Value → H) (W : World) (base : Nat) (args : Array Value) (ds gs : List (DataW H)) (before : List MemPlace)
    (hval : ∀ (j : Nat) t v, Try.f4.params[j]? = some t → args[j]? = some v → Value.okWide Try.prog W .any base t v)
    (hW : DataW.Whole enc Try.prog Try.f4.params.toList Rows.octetJoinBackSpec.vars false W args.toList ds gs before) (hk : Rows.uptoSmall H (ds ++ gs) = true) :
    Calls Try.prog 4 args W fun e W' => ∃ v, e = .returned v ∧ Rows.octetJoinBackSpec.post enc Try.prog Try.f4 false true false false W args v W' := by
  have hW' := hW
  obtain ⟨p, q, hA0, hV, rfl, hfz, hnd⟩ := hW
  have hA : DataW.TrodAll enc Try.prog W 0 (fun _ => true) true Try.f4.params.toList args.toList ds p := hA0
  have hK := hA
  rw [Try.params4] at hA hval
  obtain ⟨v0, vs0, d0, ds0, p0, q0, hargs, rfl, rfl, h0, r0⟩ := trodAll_cons hA
  obtain ⟨v1, vs1, d1, ds1, p1, q1, rfl, rfl, rfl, h1, r1⟩ := trodAll_cons r0
  obtain ⟨rfl, rfl, rfl⟩ := trodAll_nil r1
  obtain rfl : args = #[v0, v1] := by cases args; simp_all
  obtain ⟨rfl, rfl⟩ := trodVars_none hV
  have hbulk := bulk_bound hk
  simp only [List.cons_append, List.nil_append, Rows.uptoBulkAll] at hbulk
  obtain ⟨aa1, la1, ca1, xa1, ab1, lb1, cb1, xb1, rfl, ra1, na1, rb1, nb1, bk1⟩ := open_around (hval 1 35 v1 rfl rfl) h1
  obtain ⟨a0, len0, cap0, rfl⟩ := okWide_slice Try.underlying22 (hval 0 22 v0 rfl rfl)
  obtain ⟨ps0, pt0, lc0, cm0, pl0⟩ := open_parts h0
  refine (walk a0 len0 cap0 ps0 aa1 la1 ca1 xa1 ab1 lb1 cb1 xb1 W pt0 (by omega) pl0 ra1 na1 rb1 nb1 (by omega)).mono fun e W' ⟨he, bel⟩ => ?_
  subst he
  exact ⟨_, rfl, _, _, _, [], _, [], hW', trodAll_mk1 (shut_bool Try.underlying4 _), trodAll_below laidOut bel _ _ _ _ (by kernel_rfl) hK, rfl, bel.frame _, fun h => by cases h⟩

set_option maxRecDepth 100000 in
theorem lifted (os : Os) (started : os.Started) (H : Type) (enc : TypeId × Value → H) (F : Stop.Interp) :
    ReturnsInHanded {} Try.checked os 4 .any ((Rows.OpenSpec.upto Rows.octetJoinBackSpec).pre6 enc Try.prog Try.f4 Rows.octetJoinBackUptoRow.domain false) (((Rows.OpenSpec.upto Rows.octetJoinBackSpec).at F).post enc Try.prog Try.f4 false true false false) := by
  refine returnsInHanded_of_cond (C := Try.checked) (s := Rows.OpenSpec.upto Rows.octetJoinBackSpec) (k := Rows.uptoSmall) rfl own started (by kernel_rfl) Try.func4
    (OpenSpec.witness (enc := enc) (C := Try.checked) (s := Rows.OpenSpec.upto Rows.octetJoinBackSpec) (k := Rows.uptoSmall) rfl false ⟨#[], #[.slice none 0 0, .agg #[.slice none 0 0, .slice none 0 0]], []⟩ 8 (by kernel_rfl) (by kernel_rfl) (by kernel_rfl)
      (x := ([.nil, .agg [.nil, .nil]], [], [])) (by kernel_rfl) rfl (by kernel_rfl)) ?_
  intro W base args ds gs before hval hW _ hk _
  exact contract H enc W base args ds gs before hval hW hk

theorem said : Rows.OctetJoinBackUptoSaid :=
  OpenClaim.holds_of_cond 4 Try.f4 rfl rfl rfl rfl rfl rfl rfl ⟨rfl, rfl, rfl, rfl, rfl⟩ rfl rfl rfl rfl rfl (by kernel_rfl) Try.func4 (by kernel_rfl)
    (of_decide_eq_true (by kernel_rfl)) (by unfold Func.isWrapper; first | (rw [if_pos (by decide +kernel)]; kernel_rfl) | (rw [if_neg (by decide +kernel)]; exact ⟨rfl, rfl⟩))
    (fun os started H enc _ F => lifted os started H enc F)
end octetJoinBack

theorem octetJoinBackUpto_holds : Rows.OctetJoinBackUptoSaid := octetJoinBack.said
end Go.Proofs.Ytbhljlafijdodab

