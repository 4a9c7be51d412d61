/- Behind a Put, Get tells its value, and all other cells are as they were: every script, cell and value. No condition. -/
import Derived.Test.YthpjaidgacenoaaMkPlay2
import Derived.Test.YthpjaidgacenoaaMkBackM
namespace Go.Proofs.Ythpjaidgacenoaa
open Go.ChangeShapes Go.WideShapes Go.ChangeAt Go.RowKit

namespace markBack
/-- What was told of the first cells. -/
def wasC (k x0 x1 x2 : Int) : Array Value := #[.int .i64 (if 0 < k then x0 else 0), .int .i64 (if 1 < k then x1 else 0), .int .i64 (if 2 < k then x2 else 0)]
def hadC (k : Int) (y0 y1 y2 : Bool) : Array Value := #[.bool (if 0 < k then y0 else false), .bool (if 1 < k then y1 else false), .bool (if 2 < k then y2 else false)]

set_option maxRecDepth 100000 in
set_option maxHeartbeats 8000000 in
theorem walk (a : Option Addr) (len cap : Nat) (l : List Dm) (i v : Int) (w : World) (hl : DmsRd w a len l) (hlb : len ≤ 9223372036854775807) :
    Calls Try.prog 8 #[.slice a len cap, .int .i64 i, .int .i64 v] w fun e w' => e = .returned (.bool true) ∧ Below w.heap.size w w' := by
  have HL : Hid (DmsRd w a len l) := hl
  obtain ⟨base, hbase⟩ : ∃ base, base = w.heap.size := ⟨_, rfl⟩
  have HBASE : Hid (base = w.heap.size) := hbase
  rw [← hbase]
  clear hl hbase
  go_enter Try.func8, Try.ntmps8
  go_wp2_with fail
  refine (m_play w a len cap l HL.out hlb).mono ?_
  rintro e w1 ⟨ht, hb1⟩
  obtain ⟨gp, g, gs, r, D, rfl, hf, hwl, _⟩ := ht.out
  obtain ⟨gc, gy, q, wv, sv, rv, SV, WV, hq⟩ := hf
  rw [← HBASE.out] at hq hb1
  have HQ1 : Hid (Quad w1 base gp g gs gc r gy q wv sv rv SV WV D) := hq
  have HB1 : Hid (Below base w w1) := hb1
  have HWL : Hid (D.waits.length ≤ 200) := hwl
  clear ht hq hb1 hwl
  obtain ⟨⟨x0, y0⟩, HG0⟩ : ∃ G, Hid (G = getB D 1 3 0) := ⟨_, rfl⟩
  obtain ⟨⟨x1, y1⟩, HG1⟩ : ∃ G, Hid (G = getB D 1 3 1) := ⟨_, rfl⟩
  obtain ⟨⟨x2, y2⟩, HG2⟩ : ∃ G, Hid (G = getB D 1 3 2) := ⟨_, rfl⟩
  go_wp2
  generalize hW2 : World.alloc (World.alloc w1 _) _ = w2
  obtain ⟨A, hA⟩ : ∃ A, A = w1.heap.size := ⟨_, rfl⟩
  have HA0 : Hid (Blk w2 A (wasC 0 x0 x1 x2) 56) := by
    show Blk _ _ _ _
    rw [← hW2, hA]
    exact (Blk.new w1 _ _).stay (below_alloc _ _)
  have HA1 : Hid (Blk w2 (A + 1) (hadC 0 y0 y1 y2) 57) := by
    show Blk _ _ _ _
    rw [← hW2, hA]
    have := Blk.new (w1.alloc (.cells #[.int .i64 0, .int .i64 0, .int .i64 0] 56)) #[.bool false, .bool false, .bool false] 57
    simpa [hadC] using this
  have HB12 : Hid (Below w1.heap.size w1 w2) := by
    show Below _ _ _
    rw [← hW2]
    exact (below_alloc _ _).trans ((below_alloc _ _).mono (by simp))
  have HAW : Hid (A = w1.heap.size) := hA
  rw [← hA]
  clear hW2 hA
  have HBS1 : Hid (base ≤ w1.heap.size) := HQ1.out.base
  go_loopw [11] (fun t11 wr => ∃ (k : Nat), k ≤ 3 ∧ t11 = .int .i64 (k : Int) ∧ Hid (Blk wr A (wasC k x0 x1 x2) 56) ∧ Hid (Blk wr (A + 1) (hadC k y0 y1 y2) 57) ∧ Hid (Below w1.heap.size w1 wr)) (fun t11 _ => 3 - (intOf t11).toNat)
  case atStart => exact ⟨0, by omega, rfl, HA0, HA1, HB12⟩
  case round =>
    obtain ⟨k, hk, rfl, HAr, HCr, HBr⟩ := hrel
    have HQr : Hid (Quad wr base gp g gs gc r gy q wv sv rv SV WV D) := HQ1.out.stay HBr.out
    have p1 : wr.cell? ⟨gp, 1, none⟩ = some (.pointer (some ⟨gc, 0, none⟩)) := Blk.cell HQr.out.pr 1 rfl
    by_cases hlt : k < 3
    · obtain ⟨⟨xk, yk⟩, HGk⟩ : ∃ G, Hid (G = getB D 1 3 (k : Int)) := ⟨_, rfl⟩
      have hlt' : (k : Int) < 3 := by omega
      have hk0 : (0 : Int) ≤ (k : Int) := by omega
      go_wp2_with fail
      refine (cells_Get wr base g gs wv D gc 1 3 (k : Int) HQr.out.dk HQr.out.cs (by omega) (by omega)).mono ?_
      rw [← HGk.out]
      rintro e w3 ⟨rfl, hb3⟩
      have HA3 : Hid (Blk w3 A (wasC k x0 x1 x2) 56) := HAr.out.stay hb3
      have HC3 : Hid (Blk w3 (A + 1) (hadC k y0 y1 y2) 57) := HCr.out.stay hb3
      have HB3 : Hid (Below w1.heap.size w1 w3) := HBr.out.trans (hb3.mono HBr.out.size)
      clear hb3 p1
      have fa := HA3.out.free k
      have fc : (w3.setCell ⟨A, k, none⟩ (.int .i64 xk)).frozen? ⟨A + 1, k, none⟩ = false := (HC3.out.other ⟨A, k, none⟩ (.int .i64 xk) (by simp)).free k
      obtain ⟨u, ca⟩ : ∃ u, w3.cell? ⟨A, k, none⟩ = some u := by
        rcases (show k = 0 ∨ k = 1 ∨ k = 2 by omega) with rfl | rfl | rfl
        · exact ⟨_, HA3.out.cell 0 rfl⟩
        · exact ⟨_, HA3.out.cell 1 rfl⟩
        · exact ⟨_, HA3.out.cell 2 rfl⟩
      obtain ⟨u', cc⟩ : ∃ u', (w3.setCell ⟨A, k, none⟩ (.int .i64 xk)).cell? ⟨A + 1, k, none⟩ = some u' := by
        have hC' := HC3.out.other ⟨A, k, none⟩ (.int .i64 xk) (by simp)
        rcases (show k = 0 ∨ k = 1 ∨ k = 2 by omega) with rfl | rfl | rfl
        · exact ⟨_, hC'.cell 0 rfl⟩
        · exact ⟨_, hC'.cell 1 rfl⟩
        · exact ⟨_, hC'.cell 2 rfl⟩
      have HAn : Hid (Blk ((w3.setCell ⟨A, k, none⟩ (.int .i64 xk)).setCell ⟨A + 1, k, none⟩ (.bool yk)) A (wasC (k + 1 : Nat) x0 x1 x2) 56) := by
        have h1 := (HA3.out.set k (.int .i64 xk)).other ⟨A + 1, k, none⟩ (.bool yk) (by simp)
        have e : (wasC k x0 x1 x2).setIfInBounds k (.int .i64 xk) = wasC (k + 1 : Nat) x0 x1 x2 := by
          rcases (show k = 0 ∨ k = 1 ∨ k = 2 by omega) with rfl | rfl | rfl
          · have := HG0.out.trans HGk.out.symm; simp only [Prod.mk.injEq] at this; simp [wasC, this.1]
          · have := HG1.out.trans HGk.out.symm; simp only [Prod.mk.injEq] at this; simp [wasC, this.1]
          · have := HG2.out.trans HGk.out.symm; simp only [Prod.mk.injEq] at this; simp [wasC, this.1]
        rw [e] at h1
        exact h1
      have HCn : Hid (Blk ((w3.setCell ⟨A, k, none⟩ (.int .i64 xk)).setCell ⟨A + 1, k, none⟩ (.bool yk)) (A + 1) (hadC (k + 1 : Nat) y0 y1 y2) 57) := by
        have h1 := (HC3.out.other ⟨A, k, none⟩ (.int .i64 xk) (by simp)).set k (.bool yk)
        have e : (hadC k y0 y1 y2).setIfInBounds k (.bool yk) = hadC (k + 1 : Nat) y0 y1 y2 := by
          rcases (show k = 0 ∨ k = 1 ∨ k = 2 by omega) with rfl | rfl | rfl
          · have := HG0.out.trans HGk.out.symm; simp only [Prod.mk.injEq] at this; simp [hadC, this.2]
          · have := HG1.out.trans HGk.out.symm; simp only [Prod.mk.injEq] at this; simp [hadC, this.2]
          · have := HG2.out.trans HGk.out.symm; simp only [Prod.mk.injEq] at this; simp [hadC, this.2]
        rw [e] at h1
        exact h1
      have HBn : Hid (Below w1.heap.size w1 ((w3.setCell ⟨A, k, none⟩ (.int .i64 xk)).setCell ⟨A + 1, k, none⟩ (.bool yk))) := (HB3.out.setCell (by show w1.heap.size ≤ A; rw [HAW.out]; exact Nat.le_refl _) _).setCell (by show w1.heap.size ≤ A + 1; rw [HAW.out]; exact Nat.le_succ _) _
      go_wp2
      go_roundw
      case rel => exact ⟨k + 1, by omega, by go_num, HAn, HCn, HBn⟩
      case measure => simp [intOf]; omega
    · obtain rfl : k = 3 := by omega
      obtain ⟨E, HE⟩ : ∃ E, Hid (E = putCE D 1 3 i v) := ⟨_, rfl⟩
      obtain ⟨D', HDE⟩ : ∃ D', Hid (D' = putCD D 1 3 i v) := ⟨_, rfl⟩
      go_wp2_with fail
      refine (cells_Put wr base g gs wv D gc 1 3 i v HQr.out.dk HQr.out.cs (by omega) (by omega) (by have := HWL.out; omega)).mono ?_
      rw [← HE.out, ← HDE.out]
      rintro e w4 ⟨rfl, hd4, hm4⟩
      obtain ⟨wv4, hd4⟩ := hd4.out
      obtain ⟨_, _, mcs, _, mpr⟩ := HQr.out.mv hm4
      have HD4 : Hid (Disk w4 base g gs wv4 D') := hd4
      have HCS4 : Hid (Cs w4 gc g 1 3) := mcs
      have HPR4 : Hid (Pr w4 gp g gc r gy) := mpr
      have HA4 : Hid (Blk w4 A (wasC (3 : Nat) x0 x1 x2) 56) := hm4.keep HAr.out (HQr.out.ne HAr.out (by decide) (by decide)).1 (HQr.out.ne HAr.out (by decide) (by decide)).2 (by decide)
      have HC4 : Hid (Blk w4 (A + 1) (hadC (3 : Nat) y0 y1 y2) 57) := hm4.keep HCr.out (HQr.out.ne HCr.out (by decide) (by decide)).1 (HQr.out.ne HCr.out (by decide) (by decide)).2 (by decide)
      have HB4 : Hid (Below base w w4) := (HB1.out.trans (HBr.out.mono HBS1.out)).trans hm4.low
      have HBS4 : Hid (base ≤ w4.heap.size) := Nat.le_trans HD4.out.bg (Nat.le_of_lt HD4.out.blk.lt)
      clear hd4 hm4 mcs mpr p1
      by_cases hE : E = 0
      · have HGP : Hid (((0 ≤ i ∧ i < 3) ∧ 0 ≤ v ∧ v ≤ 1099511627776) ∧ ∀ k, getB D' 1 3 k = if k = i then (v, true) else getB D 1 3 k) := by
          have := get_put D 1 3 i v (by rw [← HE.out]; exact hE)
          rw [← HDE.out] at this
          exact this
        have HGI : Hid (getB D' 1 3 i = (v, true)) := by show _ = _; rw [HGP.out.2 i, if_pos rfl]
        subst hE
        have q1 : w4.cell? ⟨gp, 1, none⟩ = some (.pointer (some ⟨gc, 0, none⟩)) := Blk.cell HPR4.out 1 rfl
        go_wp2_with fail
        refine (cells_Get w4 base g gs wv4 D' gc 1 3 i HD4.out HCS4.out (by omega) (by omega)).mono ?_
        rw [HGI.out]
        rintro e w5 ⟨rfl, hb5⟩
        have HB45 : Hid (Below w4.heap.size w4 w5) := hb5
        clear hb5 q1
        go_wp2
        go_loopw [14] (fun t14 wq => ∃ (k : Nat), k ≤ 3 ∧ t14 = .int .i64 (k : Int) ∧ Hid (Below w4.heap.size w4 wq)) (fun t14 _ => 3 - (intOf t14).toNat)
        case atStart => exact ⟨0, by omega, rfl, HB45⟩
        case round =>
          obtain ⟨k, hk, rfl, HBq⟩ := hrel
          have HDq : Hid (Disk wr base g gs wv4 D') := HD4.out.stay HBq.out
          have HCSq : Hid (Cs wr gc g 1 3) := HCS4.out.stay HBq.out
          have q1 : wr.cell? ⟨gp, 1, none⟩ = some (.pointer (some ⟨gc, 0, none⟩)) := Blk.cell (Blk.stay HPR4.out HBq.out) 1 rfl
          by_cases hlt : k < 3
          · have hlt' : (k : Int) < 3 := by omega
            have hk0 : (0 : Int) ≤ (k : Int) := by omega
            obtain ⟨⟨x, y⟩, HGx⟩ : ∃ G, Hid (G = getB D' 1 3 (k : Int)) := ⟨_, rfl⟩
            go_wp2_with fail
            refine (cells_Get wr base g gs wv4 D' gc 1 3 (k : Int) HDq.out HCSq.out (by omega) (by omega)).mono ?_
            rw [← HGx.out]
            rintro e w6 ⟨rfl, hb6⟩
            have HB6 : Hid (Below w4.heap.size w4 w6) := HBq.out.trans (hb6.mono HBq.out.size)
            clear hb6 q1
            by_cases hki : (k : Int) = i
            · have hki' : ((k : Int) == i) = true := by rw [beq_iff_eq]; exact hki
              go_wp2
              go_roundw
              case rel => exact ⟨k + 1, by omega, by go_num, HB6⟩
              case measure => simp [intOf]; omega
            · have HXY : Hid ((x, y) = getB D 1 3 (k : Int)) := by show _ = _; rw [HGx.out, HGP.out.2 (k : Int), if_neg hki]
              have hki' : ((k : Int) == i) = false := by rw [beq_eq_false_iff_ne]; exact hki
              have ca : w6.cell? ⟨A, k, none⟩ = some (.int .i64 x) := by
                have hA := HA4.out.stay HB6.out
                rcases (show k = 0 ∨ k = 1 ∨ k = 2 by omega) with rfl | rfl | rfl
                · have := HG0.out.trans HXY.out.symm; simp only [Prod.mk.injEq] at this; rw [← this.1]; exact hA.cell 0 rfl
                · have := HG1.out.trans HXY.out.symm; simp only [Prod.mk.injEq] at this; rw [← this.1]; exact hA.cell 1 rfl
                · have := HG2.out.trans HXY.out.symm; simp only [Prod.mk.injEq] at this; rw [← this.1]; exact hA.cell 2 rfl
              have cc : w6.cell? ⟨A + 1, k, none⟩ = some (.bool y) := by
                have hA := HC4.out.stay HB6.out
                rcases (show k = 0 ∨ k = 1 ∨ k = 2 by omega) with rfl | rfl | rfl
                · have := HG0.out.trans HXY.out.symm; simp only [Prod.mk.injEq] at this; rw [← this.2]; exact hA.cell 0 rfl
                · have := HG1.out.trans HXY.out.symm; simp only [Prod.mk.injEq] at this; rw [← this.2]; exact hA.cell 1 rfl
                · have := HG2.out.trans HXY.out.symm; simp only [Prod.mk.injEq] at this; rw [← this.2]; exact hA.cell 2 rfl
              go_wp2
              go_roundw
              case rel => exact ⟨k + 1, by omega, by go_num, HB6⟩
              case measure => simp [intOf]; omega
          · have g1 : 0 ≤ i := HGP.out.1.1.1
            have g2 : i < 3 := HGP.out.1.1.2
            have g3 : 0 ≤ v := HGP.out.1.2.1
            have g4 : v ≤ 1099511627776 := HGP.out.1.2.2
            go_wp2_with fail
            refine (law_live10 wr).mono ?_
            rintro e w7 ⟨rfl, hb7⟩
            have HB7 : Hid (Below base w w7) := HB4.out.trans ((HBq.out.trans (hb7.mono HBq.out.size)).mono HBS4.out)
            clear hb7 q1
            go_wp2
            go_ret
            exact ⟨by simp, HB7.out⟩
      · have hE' : (E == 0) = false := by rw [beq_eq_false_iff_ne]; exact hE
        go_wp2_with fail
        refine (law_live10 w4).mono ?_
        rintro e w5 ⟨rfl, hb5⟩
        have HB5 : Hid (Below base w w5) := HB4.out.trans (hb5.mono HBS4.out)
        clear hb5
        go_wp2
        go_ret
        exact ⟨rfl, HB5.out⟩

set_option maxRecDepth 100000 in
theorem contract (H : Type) (enc : TypeId × Value → H) (W : World) (base : Nat) (args : Array Value) (ds gs : List (DataW H)) (before : List MemPlace)
    (hval : ∀ (j : Nat) t v, Try.f8.params[j]? = some t → args[j]? = some v → Value.okWide Try.prog W .any base t v)
    (hW : DataW.Whole enc Try.prog Try.f8.params.toList Rows.markBackSpec.vars false W args.toList ds gs before) (hsz0 : (DataW.weightsEach Try.prog (Try.f8.params.toList ++ Rows.markBackSpec.plain.varTypes Try.prog) (ds ++ gs)).all (· ≤ reachBytes) = true) :
    Calls Try.prog 8 args W fun e W' => ∃ v, e = .returned v ∧ Rows.markBackSpec.post enc Try.prog Try.f8 false true false false W args v W' := by
  have hW' := hW
  obtain ⟨p, q, hA0, hV, rfl, hfz, hnd⟩ := hW
  have hA : DataW.TrodAll enc Try.prog W 0 (fun _ => true) true Try.f8.params.toList args.toList ds p := hA0
  have hK := hA
  have hsz := hsz0
  rw [Try.params8] at hA hval hsz
  obtain ⟨v0, vs0, d0, ds0, p0, q0, hargs, rfl, rfl, h0, r0⟩ := trodAll_cons hA
  obtain ⟨v1, vs1, d1, ds1, p1, q1, rfl, rfl, rfl, h1, r1⟩ := trodAll_cons r0
  obtain ⟨v2, vs2, d2, ds2, p2, q2, rfl, rfl, rfl, h2, r2⟩ := trodAll_cons r1
  obtain ⟨rfl, rfl, rfl⟩ := trodAll_nil r2
  obtain rfl : args = #[v0, v1, v2] := by cases args; simp_all
  obtain ⟨rfl, rfl⟩ := trodVars_none hV
  obtain ⟨x1, rfl, rfl, rfl, w1⟩ := open_int Try.underlying3 (hval 1 3 v1 rfl rfl) h1
  have b1 : (-9223372036854775808 : Int) ≤ x1 ∧ x1 ≤ 9223372036854775807 := by simpa [Lit.wf, IntKind.min, IntKind.max, IntKind.signed, IntKind.bits] using w1
  obtain ⟨x2, rfl, rfl, rfl, w2⟩ := open_int Try.underlying3 (hval 2 3 v2 rfl rfl) h2
  have b2 : (-9223372036854775808 : Int) ≤ x2 ∧ x2 ≤ 9223372036854775807 := by simpa [Lit.wf, IntKind.min, IntKind.max, IntKind.signed, IntKind.bits] using w2
  have hw0 : ∀ y ∈ DataW.weights Try.prog 51 d0, y ≤ reachBytes := fun y hy => by have := List.all_eq_true.1 hsz _ (DataW.weights_mem_each (j := 0) rfl rfl y hy); simpa using this
  obtain ⟨a0, len0, cap0, rfl⟩ := okWide_slice Try.underlying51 (hval 0 51 v0 rfl rfl)
  obtain ⟨fu0, hf0⟩ := h0
  obtain ⟨l0, rd0, lc0, cm0⟩ := open_deeds10 hf0 hw0
  refine (walk a0 len0 cap0 l0 x1 x2 W rd0 (by unfold maxLen at cm0; omega)).mono fun e W' ⟨he, bel⟩ => ?_
  subst he
  exact ⟨_, rfl, _, _, _, [], _, [], hW', trodAll_mk1 (shut_bool Try.underlying4 _), trodAll_below laidOut bel _ _ _ _ (by kernel_rfl) hK, rfl, bel.frame _, fun h => by cases h⟩

set_option maxRecDepth 100000 in
theorem lifted (os : Os) (started : os.Started) (H : Type) (enc : TypeId × Value → H) :
    ReturnsInHanded {} Try.checked os 8 .any (Rows.markBackSpec.pre6 enc Try.prog Try.f8 Rows.markBackRow.domain false) (Rows.markBackSpec.post enc Try.prog Try.f8 false true false false) := by
  refine returnsInHanded_of_change_sized (C := Try.checked) own started (by kernel_rfl) Try.func8
    (ChangeSpec.witness6 (enc := enc) (C := Try.checked) false ⟨#[], #[.slice none 0 0, .int .i64 0, .int .i64 0], []⟩ 8 (by kernel_rfl) (by kernel_rfl) (by kernel_rfl) (by kernel_rfl)) ?_
  intro W base args ds gs before hval hW _ hsz _
  exact contract H enc W base args ds gs before hval hW hsz

theorem said : Rows.MarkBackSaid :=
  OpenClaim.holds_of_wide 8 Try.f8 rfl rfl rfl rfl rfl rfl rfl ⟨rfl, rfl, rfl, rfl, rfl⟩ rfl rfl rfl rfl rfl (by kernel_rfl) Try.func8 (by kernel_rfl)
    (of_decide_eq_true (by kernel_rfl)) (by unfold Func.isWrapper; first | (rw [if_pos (by decide +kernel)]; kernel_rfl) | (rw [if_neg (by decide +kernel)]; exact ⟨rfl, rfl⟩))
    (fun os started H enc _ => lifted os started H enc)
end markBack

theorem markBack_holds : Rows.MarkBackSaid := markBack.said
end Go.Proofs.Ythpjaidgacenoaa

