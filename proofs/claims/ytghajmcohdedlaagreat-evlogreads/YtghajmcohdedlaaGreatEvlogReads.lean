/- Whatever a disk has, a log is read, tidied and goes on just as the document says: every raw writes (of up to 200), and script (of up to 40 deeds). No condition. -/
import Derived.Test.YtghajmcohdedlaaGreatPk48
namespace Go.Proofs.YtghajmcohdedlaaGreat
open Go.ChangeShapes Go.WideShapes Go.ChangeAt Go.RowKit
namespace evlogReads
set_option maxRecDepth 100000 in
set_option maxHeartbeats 4000000 in
theorem walk (ra : Option Addr) (rn rc : Nat) (rl : List Dq) (a : Option Addr) (len cap : Nat) (l : List Dq) (w : World) (hrl : DqsRd w ra rn rl) (hrlb : rn ≤ 9223372036854775807) (hl : DqsRd w a len l) (hlb : len ≤ 9223372036854775807) :
  Calls Tryz.prog 4 #[.slice ra rn rc, .slice a len cap] w fun e w' => e = .returned (.bool true) ∧ Below w.heap.size w w' := by
 have HL : Hid (DqsRd w a len l) := hl
 have HST := e_start w ra rn rc rl hrl hrlb
 obtain ⟨base, hbase⟩ : ∃ base, base = w.heap.size := ⟨_, rfl⟩
 have HBASE : Hid (base = w.heap.size) := hbase
 clear hl hbase hrl
 go_enter Tryz.func4, Tryz.ntmps4
 go_wp2_with fail
 refine HST.mono ?_
 rintro e w2 ⟨ht, hb2⟩
 obtain ⟨gp, g, gs, r, rfl, hf⟩ := ht.out
 rw [← HBASE.out] at hf hb2
 obtain ⟨s0, HS0⟩ : ∃ s0, Hid (s0 = opE (rawD (rl.take 200))) := ⟨_, rfl⟩
 rw [← HS0.out] at hf
 have HF2 : Hid (Evs w2 base gp g gs r 60 s0) := hf
 have HB2 : Hid (Below base w w2) := hb2
 have HG2 : Hid (s0.D.waits.length ≤ 300 ∧ s0.D.age ≤ 300) := by
  (show _ ∧ _)
  rw [HS0.out]
  have h1 := rawD_ok (rl.take 200)
  have h2 := (op_ok h1.2.1 h1.1).2.2
  have h3 := h1.2.2.1
  have h4 := h1.2.2.2
  have h5 : (rl.take 200).length ≤ 200 := by rw [List.length_take]; omega
  exact ⟨by show (opD _).waits.length ≤ _; have := h2.wl; omega, by show (opD _).age ≤ _; have := h2.ag; omega⟩
 clear ht hf hb2 HST
 go_wp2_with fail
 refine (e_disks w2 base gp g gs r 60 _ _ _ _ _ _ HF2.out).mono ?_
 rintro e w2' ⟨rfl, hb2'⟩
 have HF2' : Hid (Evs w2' base gp g gs r 60 s0) := Ev.stay HF2.out hb2'
 have HB2' : Hid (Below base w w2') := HB2.out.trans (hb2'.mono (by have := HB2.out.size; have := HBASE.out; omega))
 clear hb2'
 go_wp2
 go_loopw [6, 7] (fun t4 t5 wr => ∃ (i : Nat) (s : Se), i ≤ len ∧ i ≤ 40 ∧ t5 = .int .i64 (i : Int) ∧ t4 = .bool true ∧ Hid (Evs wr base gp g gs r (60 + i) s) ∧ Hid (s.D.waits.length ≤ 300 + 40 * i ∧ s.D.age ≤ 300 + i) ∧ Hid (Below base w wr)) (fun _ t5 _ => len - (intOf t5).toNat)
 case atStart => exact ⟨0, s0, by omega, by omega, rfl, rfl, HF2', HG2, HB2'⟩
 case round =>
  obtain ⟨i, s, hi, hi2, rfl, rfl, HF, HG, HB⟩ := hrel
  have HBw : Hid (Below w.heap.size w wr) := by show Below _ _ _; rw [← HBASE.out]; exact HB.out
  by_cases hgo : i < len ∧ i < 40
  ·obtain ⟨hlt, h200⟩ := hgo
   have hlt' : (i : Int) < (len : Int) := by omega
   have h200' : (i : Int) < 40 := by omega
   obtain ⟨gl, o, rfl, _, d, hd, hok, e0, e1, e2, e3⟩ := (HL.out.below HBw.out).spot i hlt
   have HLd : Hid (l[i]? = some d) := hd
   have hi0 : (0 : Int) ≤ (i : Int) := by omega
   have HDQ : Hid (∀ w', Below base wr w' → DqOk w' d) := fun w' hb' => (HL.out.each d (List.mem_of_getElem? HLd.out)).below (by rw [← HBASE.out]; exact HB.out.trans hb')
   clear hd hok
   go_wp2_with fail
   refine (e_do wr base gp g gs r (60 + i) s d HF.out HDQ.out (by have := HG.out.1; omega) (by have := HG.out.2; omega) (by omega) (by omega)).mono ?_
   rintro e w3 ⟨rfl, hf3, hbl3⟩
   have HF3 : Hid (Evs w3 base gp g gs r (60 + (i + 1)) (stepA s d)) := hf3.out
   have HB3 : Hid (Below base w w3) := HB.out.trans hbl3
   have HG3 : Hid ((stepA s d).D.waits.length ≤ 300 + 40 * (i + 1) ∧ (stepA s d).D.age ≤ 300 + (i + 1)) := by
    obtain ⟨g1, g2⟩ := step_gr HF.out.ok d
    obtain ⟨f1, f2⟩ := HG.out
    exact ⟨by omega, by omega⟩
   clear hf3 hbl3 e0 e1 e2 e3
   go_wp2_with fail
   refine (e_told w3 base gp g gs r (60 + (i + 1)) _ _ _ _ _ _ HF3.out (by omega)).mono ?_
   rintro e w4 ⟨rfl, hb4⟩
   have HF4 : Hid (Evs w4 base gp g gs r (60 + (i + 1)) (stepA s d)) := Ev.stay HF3.out hb4
   have HB4 : Hid (Below base w w4) := HB3.out.trans (hb4.mono (by have := HB3.out.size; have := HBASE.out; omega))
   clear hb4
   go_wp2
   go_roundw
   case rel => exact ⟨i + 1, stepA s d, by omega, by omega, by go_num, rfl, HF4, HG3, HB4⟩
   case measure => simp [intOf]; omega
  ·have hcase : (¬ (i : Int) < (len : Int)) ∨ ((i : Int) < (len : Int) ∧ ¬ (i : Int) < 40) := by omega
   clear hgo
   rcases hcase with hc | ⟨hc, hc2⟩ <;>
   (go_wp2_with fail
    refine (law_live11 wr).mono ?_
    rintro e w5 ⟨rfl, hb5⟩
    have HF5 : Hid (Evs w5 base gp g gs r (60 + i) s) := Ev.stay HF.out hb5
    have HB5 : Hid (Below w.heap.size w w5) := HBw.out.trans (hb5.mono HBw.out.size)
    clear hb5
    go_wp2_with fail
    refine (e_disks w5 base gp g gs r (60 + i) _ _ _ _ _ _ HF5.out).mono ?_
    rintro e w6 ⟨rfl, hb6⟩
    have HB6 : Hid (Below w.heap.size w w6) := HB5.out.trans (hb6.mono HB5.out.size)
    clear hb6
    go_wp2
    go_ret
    exact ⟨rfl, HB6.out⟩ )
set_option maxRecDepth 100000 in
theorem contract (H : Type) (enc : TypeId × Value → H) (W : World) (base : Nat) (args : Array Value) (ds gs : List (DataW H)) (before : List MemPlace)
  (hval : ∀ (j : Nat) t v, Tryz.f4.params[j]? = some t → args[j]? = some v → Value.okWide Tryz.prog W .any base t v)
  (hW : DataW.Whole enc Tryz.prog Tryz.f4.params.toList Rows.evlogReadsSpec.vars false W args.toList ds gs before) (hsz0 : (DataW.weightsEach Tryz.prog (Tryz.f4.params.toList ++ Rows.evlogReadsSpec.plain.varTypes Tryz.prog) (ds ++ gs)).all (· ≤ reachBytes) = true) :
  Calls Tryz.prog 4 args W fun e W' => ∃ v, e = .returned v ∧ Rows.evlogReadsSpec.post enc Tryz.prog Tryz.f4 false true false false W args v W' := by
 have hW' := hW
 obtain ⟨p, q, hA0, hV, rfl, hfz, hnd⟩ := hW
 have hA : DataW.TrodAll enc Tryz.prog W 0 (fun _ => true) true Tryz.f4.params.toList args.toList ds p := hA0
 have hK := hA
 have hsz := hsz0
 rw [Tryz.params4] at hA hval hsz
 obtain ⟨v0, vs0, d0, ds0, p0, q0, hargs, rfl, rfl, h0, r0⟩ := trodAll_cons hA
 obtain ⟨v1, vs1, d1, ds1, p1, q1, rfl, rfl, rfl, h1, r1⟩ := trodAll_cons r0
 obtain ⟨rfl, rfl, rfl⟩ := trodAll_nil r1
 obtain rfl : args = #[v0, v1] := by cases args; simp_all
 obtain ⟨rfl, rfl⟩ := trodVars_none hV
 have hw0 : ∀ y ∈ DataW.weights Tryz.prog 22 d0, y ≤ reachBytes := fun y hy => by have := List.all_eq_true.1 hsz _ (DataW.weights_mem_each (j := 0) rfl rfl y hy); simpa using this
 have hw1 : ∀ y ∈ DataW.weights Tryz.prog 22 d1, y ≤ reachBytes := fun y hy => by have := List.all_eq_true.1 hsz _ (DataW.weights_mem_each (j := 1) rfl rfl y hy); simpa using this
 obtain ⟨a0, len0, cap0, rfl⟩ := okWide_slice Tryz.underlying22 (hval 0 22 v0 rfl rfl)
 obtain ⟨a1, len1, cap1, rfl⟩ := okWide_slice Tryz.underlying22 (hval 1 22 v1 rfl rfl)
 obtain ⟨fu0, hf0⟩ := h0
 obtain ⟨l0, rd0, lc0, cm0⟩ := open_deeds11 hf0 hw0
 obtain ⟨fu1, hf1⟩ := h1
 obtain ⟨l1, rd1, lc1, cm1⟩ := open_deeds11 hf1 hw1
 refine (walk a0 len0 cap0 l0 a1 len1 cap1 l1 W rd0 (by unfold maxLen at cm0; omega) rd1 (by unfold maxLen at cm1; omega)).mono fun e W' ⟨he, bel⟩ => ?_
 subst he
 exact ⟨_, rfl, _, _, _, [], _, [], hW', trodAll_mk1 (shut_bool Tryz.underlying4 _), trodAll_below laidOut bel _ _ _ _ (by kernel_rfl) hK, rfl, bel.frame _, fun h => by cases h⟩
set_option maxRecDepth 100000 in
theorem lifted (os : Os) (started : os.Started) (H : Type) (enc : TypeId × Value → H) :
  ReturnsInHanded {} Tryz.checked os 4 .any (Rows.evlogReadsSpec.pre6 enc Tryz.prog Tryz.f4 Rows.evlogReadsRow.domain false) (Rows.evlogReadsSpec.post enc Tryz.prog Tryz.f4 false true false false) := by
 refine returnsInHanded_of_change_sized (C := Tryz.checked) own started (by kernel_rfl) Tryz.func4
  (ChangeSpec.witness6 (enc := enc) (C := Tryz.checked) false ⟨#[], #[.slice none 0 0, .slice none 0 0], []⟩ 8 (by kernel_rfl) (by kernel_rfl) (by kernel_rfl) (by kernel_rfl)) ?_
 intro W base args ds gs before hval hW _ hsz _
 exact contract H enc W base args ds gs before hval hW hsz
theorem said : Rows.EvlogReadsSaid :=
 OpenClaim.holds_of_wide 4 Tryz.f4 rfl rfl rfl rfl rfl rfl rfl ⟨rfl, rfl, rfl, rfl, rfl⟩ rfl rfl rfl rfl rfl (by kernel_rfl) Tryz.func4 (by kernel_rfl)
  (of_decide_eq_true (by kernel_rfl)) (by unfold Func.isWrapper; first | (rw [if_pos (by decide +kernel)]; kernel_rfl) | (rw [if_neg (by decide +kernel)]; exact ⟨rfl, rfl⟩))
  (fun os started H enc _ => lifted os started H enc)
end evlogReads
theorem evlogReads_holds : Rows.EvlogReadsSaid := evlogReads.said
end Go.Proofs.YtghajmcohdedlaaGreat
