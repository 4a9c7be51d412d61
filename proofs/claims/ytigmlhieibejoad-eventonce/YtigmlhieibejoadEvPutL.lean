/- event.Put of right events. -/
import Derived.Test.YtigmlhieibejoadEvRead
import Derived.Test.YtigmlhieibejoadEvPut
namespace Go.Proofs.Ytigmlhieibejoad
open Go.RowKit

theorem octet_Uint' (n : Nat) (h : n < 18446744073709551616) (L : List Nat) (m : Nat) (hL : Leb.leb n = L) (hm : L.length = m) (w : World) :
    Calls Try.prog 21 #[.int .u64 (n : Int)] w fun e w' => ∃ a cap, e = .returned (.slice a m cap) ∧ a ≠ none ∧ Own w' w.heap.size a m cap L ∧ Below w.heap.size w w' := by
  subst hm
  subst hL
  exact octet_Uint n h w

set_option maxRecDepth 100000 in
set_option maxHeartbeats 2000000 in
theorem event_Put (a ca : Option Addr) (n cap cn cc : Nat) (l : List At) (C M : List Nat) (w : World) (hl : AtsRd w a l) (hn : l.length = n) (hC : Rd w ca cn C) (hcc : ca = none → cc = 0) (hB : EvBytes l C M) (m : Nat) (hm : M.length = m) :
    Calls Try.prog 9 #[.agg #[.slice a n cap, .slice ca cn cc]] w fun e w' => ∃ a' c', e = .returned (.tuple #[.slice a' m c', .int .i64 0]) ∧ Own w' w.heap.size a' m c' M ∧ Below w.heap.size w w' := by
  have hcx : ∀ (a : Addr) (m : Mode) (W : World) (x y : Nat), (store a (.complex .f64 x y) m).run Try.prog W = stored Try.prog W a (.complex .f64 x y) m := fun a m W x y => run_store _ _ _ _ _ rfl
  obtain ⟨R, h8, hA, hc2, hcb, hM⟩ := hB
  rw [hn] at h8 hM
  rw [hC.size] at hc2 hM
  have hRl := hA.length
  rw [hn] at hRl
  have hnl := Leb.leb_length n
  have hcl := Leb.leb_length cn
  obtain ⟨U, hU⟩ : ∃ U, Leb.leb n = U := ⟨_, rfl⟩
  obtain ⟨V, hV⟩ : ∃ V, Leb.leb cn = V := ⟨_, rfl⟩
  rw [hU] at hnl hM
  rw [hV] at hcl hM
  have hml : m = U.length + (R.length + (V.length + cn)) := by rw [← hm, hM]; simp only [List.length_append, hC.size]
  obtain ⟨un, hun⟩ : ∃ un, U.length = un := ⟨_, rfl⟩
  obtain ⟨vn, hvn⟩ : ∃ vn, V.length = vn := ⟨_, rfl⟩
  have HU : Hid (∀ w, Calls Try.prog 21 #[.int .u64 (n : Int)] w fun e w' => ∃ a cap, e = .returned (.slice a un cap) ∧ a ≠ none ∧ Own w' w.heap.size a un cap U ∧ Below w.heap.size w w') := octet_Uint' n (by omega) U un hU hun
  have HV : Hid (∀ w, Calls Try.prog 21 #[.int .u64 (cn : Int)] w fun e w' => ∃ a cap, e = .returned (.slice a vn cap) ∧ a ≠ none ∧ Own w' w.heap.size a vn cap V ∧ Below w.heap.size w w') := octet_Uint' cn (by omega) V vn hV hvn
  obtain ⟨rn, hrn⟩ : ∃ rn, R.length = rn := ⟨_, rfl⟩
  rw [hun] at hnl hml
  rw [hvn] at hcl hml
  rw [hrn] at hRl hml
  have hRb : rn ≤ 4080 := by omega
  have HRN : Hid (R.length = rn ∧ U.length = un ∧ V.length = vn) := ⟨hrn, hun, hvn⟩
  have HML : Hid (m = un + (rn + (vn + cn))) := hml
  have HM : Hid (M = U ++ (R ++ (V ++ C))) := hM
  have HL : Hid (AtsRd w a l) := hl
  have HN : Hid (l.length = n) := hn
  have HC : Hid (Rd w ca cn C) := hC
  have HCC : Hid (ca = none → cc = 0) := hcc
  have HAB : Hid (AtsBytes l ⟨#[]⟩ R) := hA
  clear hl hn hC hcc hA hM hm hml hU hV hun hvn hrn hRl hcb
  go_enter Try.func9, Try.ntmps9
  go_wp2_with fail
  refine (event_Check a ca n cap cn cc l R _ (HL.out.below (below_alloc w _)) HN.out h8 HAB.out hc2).mono ?_
  rintro e w1 ⟨rfl, hb1⟩
  have HK1 : Hid (Blk w1 w.heap.size #[.slice a n cap, .slice ca cn cc] 25) := (Blk.new w _ _).stay hb1
  have HB1 : Hid (Below w.heap.size w w1) := (below_alloc w _).trans (hb1.mono (by simp))
  clear hb1
  have k0 := HK1.out.cell 0 rfl
  go_wp2_with fail
  refine (HU.out w1).mono ?_
  rintro e w2 ⟨a2, c2, rfl, _, ho2, hb2⟩
  have HO2 : Hid (Own w2 w1.heap.size a2 un c2 U) := ho2
  have HB2 : Hid (Below w1.heap.size w1 w2) := hb2
  have l0 : w2.cell? ⟨w.heap.size, 0, none⟩ = some (.slice a n cap) := (HK1.out.stay hb2).cell 0 rfl
  clear ho2 hb2 k0
  go_wp2
  go_loopw [5, 25] (fun t5 t25 wr => ∃ (k x : Nat) (X : List Nat) (ax : Option Addr) (cx : Nat), k ≤ n ∧ x ≤ 5000 ∧ t5 = .slice ax x cx ∧ t25 = .int .i64 (k : Int) ∧ Hid (Own wr w1.heap.size ax x cx X) ∧ Hid (∃ t R', AtsBytes (l.drop k) t R' ∧ X ++ R' = U ++ R) ∧ Hid (Below w1.heap.size w1 wr)) (fun _ t25 _ => n - (intOf t25).toNat)
  case atStart => exact ⟨0, un, U, a2, c2, by omega, by omega, rfl, rfl, HO2, ⟨⟨#[]⟩, R, HAB.out, rfl⟩, HB2⟩
  case round =>
    obtain ⟨k, x, X, ax, cx, hk, hx5, rfl, rfl, HO, HE, HB⟩ := hrel
    have HBW : Hid (Below w.heap.size w wr) := HB1.out.trans (HB.out.mono HB1.out.size)
    by_cases hlt : k < n
    · have hlt' : (k : Int) < (n : Int) := by omega
      have hkl : k < l.length := by rw [HN.out]; exact hlt
      obtain ⟨g, rfl, hg, hc⟩ := (HL.out.below HBW.out).at_ k hkl
      obtain ⟨tt, R', hR, hXR⟩ := HE.out
      have HD : l.drop k = l[k] :: l.drop (k + 1) := List.drop_eq_getElem_cons hkl
      rw [HD] at hR
      generalize l[k] = q at *
      obtain ⟨qn0, v⟩ := q
      obtain ⟨l0, L, R2, h1, h2, hn2, hle, hq0, hv, hr, hRR⟩ := hR
      have hq1 : qn0 = str l0 := hq0
      subst hq1
      subst hRR
      · clear hq0
        have hLl := hv.length
        have hll := Leb.leb_length l0.length
        have hXl := congrArg List.length hXR
        simp only [List.length_append, HRN.out.1, HRN.out.2.1, HO.out.size] at hXl
        obtain ⟨P, hP⟩ : ∃ P, Leb.leb (str l0).size ++ bytesOf (str l0) = P := ⟨_, rfl⟩
        have hPl : P = Leb.leb l0.length ++ l0 := by rw [← hP, bytesOf_str h2, strSize]
        obtain ⟨pn, hpn⟩ : ∃ pn, P.length = pn := ⟨_, rfl⟩
        obtain ⟨ln, hln⟩ : ∃ ln, L.length = ln := ⟨_, rfl⟩
        have hpn2 : pn = (Leb.leb l0.length).length + l0.length := by rw [← hpn, hPl, List.length_append]
        have HPut : Hid (∀ w, Calls Try.prog 23 #[.agg v.cells] w fun e w' => ∃ a c, e = .returned (.tuple #[.slice a ln c, .int .i64 0]) ∧ a ≠ none ∧ Own w' w.heap.size a ln c L ∧ Below w.heap.size w w') := value_Put v L hv ln hln
        have HTx : Hid (∀ w, Calls Try.prog 22 #[.string (str l0)] w fun e w' => ∃ a cap, e = .returned (.tuple #[.slice a pn cap, .int .i64 0]) ∧ a ≠ none ∧ Own w' w.heap.size a pn cap P ∧ Below w.heap.size w w') := octet_Text' (str l0) (by rw [strSize]; exact h1) P pn hP hpn
        have HNX : Hid (∃ t R', AtsBytes (l.drop (k + 1)) t R' ∧ X ++ P ++ L ++ R' = U ++ R) := ⟨_, R2, hr, by rw [← hXR, hPl]; simp only [List.append_assoc]⟩
        have hb1 : x + pn + ln ≤ 5000 := by rw [hln] at hXl; omega
        clear HD h1 h2 hn2 hle hv hr HE hXR hLl hll hXl hP hPl hpn hln hpn2
        generalize str l0 = S at *
        obtain ⟨vk, vw, vs, vt, vx, vy⟩ := v
        have c0 : wr.cell? ⟨g, k * 6, none⟩ = some (.string S) := hc 0 _ rfl
        have c1 : wr.cell? ⟨g, k * 6 + 1, none⟩ = some (.int .i64 vk) := hc 1 _ rfl
        have c2 : wr.cell? ⟨g, k * 6 + 2, none⟩ = some (.int .i64 vw) := hc 2 _ rfl
        have c3 : wr.cell? ⟨g, k * 6 + 3, none⟩ = some (.string vs) := hc 3 _ rfl
        have c4 : wr.cell? ⟨g, k * 6 + 4, none⟩ = some (.bool vt) := hc 4 _ rfl
        have c5 : wr.cell? ⟨g, k * 6 + 5, none⟩ = some (.complex .f64 vx vy) := hc 5 _ rfl
        simp only [Val.cells] at *
        clear hc
        go_wp2_with fail
        refine (HTx.out _).mono ?_
        rintro e w3 ⟨a3, c3', rfl, _, ho3, hb3⟩
        have HKA : Hid (Blk w3 wr.heap.size #[.string S, .int .i64 vk, .int .i64 vw, .string vs, .bool vt, .complex .f64 vx vy] 51) := (Blk.new wr _ _).stay hb3
        have d1 := HKA.out.cell 1 rfl
        have d2 := HKA.out.cell 2 rfl
        have d3 := HKA.out.cell 3 rfl
        have d4 := HKA.out.cell 4 rfl
        have d5 := HKA.out.cell 5 rfl
        have HB3 : Hid (Below wr.heap.size wr w3) := (below_alloc wr _).trans (hb3.mono (by simp))
        have HO3 : Hid (Own w3 wr.heap.size a3 pn c3' P) := ho3.lower (by simp)
        clear ho3 hb3 c0 c1 c2 c3 c4 c5
        go_wp2_with fail
        refine (HPut.out _).mono ?_
        rintro e w4 ⟨a4, c4', rfl, _, ho4, hb4⟩
        have HB4 : Hid (Below wr.heap.size wr w4) := HB3.out.trans (hb4.mono HB3.out.size)
        have HO4 : Hid (Own w4 wr.heap.size a4 ln c4' L) := ho4.lower HB3.out.size
        have HO3' : Hid (Own w4 wr.heap.size a3 pn c3' P) := HO3.out.below hb4
        have HOX : Hid (Own w4 w1.heap.size ax x cx X) := HO.out.below HB4.out
        have HS4 : Hid (w1.heap.size ≤ w4.heap.size) := Nat.le_trans HB.out.size HB4.out.size
        clear ho4 hb4 d1 d2 d3 d4 d5 HO3 HB3 HKA
        go_wp2_with (at_builtin; refine wpList_append_rd rfl (.tmp 41) (.tmp 42) rfl w1.heap.size ax x cx X rfl HOX.out a3 pn c3' P rfl HO3'.out.rd HO3'.out.nil_cap (by omega) HS4.out ?_)
        intro a5 c5 w5 ho5 hg5 hb5
        have HO5 : Hid (Own w5 w1.heap.size a5 (x + pn) c5 (X ++ P)) := ho5
        have HO4' : Hid (Own w5 wr.heap.size a4 ln c4' L) := HO4.out.past HO.out (Nat.le_refl _) hg5
        have HB5 : Hid (Below w1.heap.size w1 w5) := (HB.out.trans (HB4.out.mono HB.out.size)).trans hb5
        clear ho5 hg5 hb5 HO4 HO3' HOX HS4 HB4
        go_wp2_with (at_builtin; refine wpList_append_rd rfl (.tmp 44) (.tmp 45) rfl w1.heap.size a5 (x + pn) c5 (X ++ P) rfl HO5.out a4 ln c4' L rfl HO4'.out.rd HO4'.out.nil_cap (by omega) HB5.out.size ?_)
        intro a6 c6 w6 ho6 hg6 hb6
        have HO6 : Hid (Own w6 w1.heap.size a6 (x + pn + ln) c6 (X ++ P ++ L)) := by rw [← List.append_assoc] at ho6; exact ho6
        have HB6 : Hid (Below w1.heap.size w1 w6) := HB5.out.trans hb6
        clear ho6 hg6 hb6 HO5 HO4' HB5
        go_wp2
        go_roundw
        case rel => exact ⟨k + 1, x + pn + ln, X ++ P ++ L, a6, c6, by omega, hb1, rfl, by go_num, HO6, HNX, HB6⟩
        case measure => simp [intOf]; omega
    · have hnl2 : ¬ (k : Int) < (n : Int) := by omega
      have HX : Hid (X = U ++ R) := by
        obtain ⟨tt, R', hR, hXR⟩ := HE.out
        rw [List.drop_of_length_le (by rw [HN.out]; omega)] at hR
        have hR0 : R' = [] := hR
        subst hR0
        show _ = _
        rw [← hXR, List.append_nil]
      have HXL : Hid (x = un + rn) := by
        have := congrArg List.length HX.out
        rw [List.length_append, HRN.out.1, HRN.out.2.1, HO.out.size] at this
        exact this
      have HKR : Hid (Blk wr w.heap.size #[.slice a n cap, .slice ca cn cc] 25) := HK1.out.stay HB.out
      have k1 := HKR.out.cell 1 rfl
      clear HE
      go_wp2_with fail
      refine (HV.out _).mono ?_
      rintro e w3 ⟨a3, c3, rfl, _, ho3, hb3⟩
      have HO3 : Hid (Own w3 wr.heap.size a3 vn c3 V) := ho3
      have HOX : Hid (Own w3 w1.heap.size ax x cx X) := HO.out.below hb3
      have HB3 : Hid (Below w1.heap.size w1 w3) := HB.out.trans (hb3.mono HB.out.size)
      clear ho3 hb3 k1
      go_wp2_with (at_builtin; refine wpList_append_rd rfl (.tmp 48) (.tmp 53) rfl w1.heap.size ax x cx X rfl HOX.out a3 vn c3 V rfl HO3.out.rd HO3.out.nil_cap (by omega) HB3.out.size ?_)
      intro a4 c4 w4 ho4 hg4 hb4
      have HO4 : Hid (Own w4 w1.heap.size a4 (x + vn) c4 (X ++ V)) := ho4
      have HB4 : Hid (Below w1.heap.size w1 w4) := HB3.out.trans hb4
      have HB4W : Hid (Below w.heap.size w w4) := HB1.out.trans (HB4.out.mono HB1.out.size)
      have HKR4 : Hid (Blk w4 w.heap.size #[.slice a n cap, .slice ca cn cc] 25) := HK1.out.stay HB4.out
      have k1 := HKR4.out.cell 1 rfl
      have HRC : Hid (Rd w4 ca cn C) := HC.out.below HB4W.out
      clear ho4 hg4 hb4 HOX HO3
      go_wp2_with (at_builtin; refine wpList_append_rd rfl (.tmp 55) (.tmp 57) rfl w1.heap.size a4 (x + vn) c4 (X ++ V) rfl HO4.out ca cn cc C rfl HRC.out HCC.out (by omega) HB4.out.size ?_)
      intro a5 c5 w5 ho5 hg5 hb5
      have HO5 : Hid (Own w5 w1.heap.size a5 (x + vn + cn) c5 (X ++ V ++ C)) := by rw [← List.append_assoc] at ho5; exact ho5
      have HB5 : Hid (Below w.heap.size w w5) := HB4W.out.trans (hb5.mono HB1.out.size)
      clear ho5 hg5 hb5
      go_wp2
      go_ret2
      have hmm : m = x + vn + cn := by rw [HML.out, HXL.out]; omega
      have hMM : M = X ++ V ++ C := by rw [HM.out, HX.out]; simp only [List.append_assoc]
      rw [hmm, hMM]
      exact ⟨a5, c5, rfl, HO5.out.lower HB1.out.size, HB5.out⟩
end Go.Proofs.Ytigmlhieibejoad
