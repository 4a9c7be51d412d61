/- A log appends, syncs, chops, and is opened anew behind crashes just as the document says, byte by byte on its disk: every script (of up to 120 deeds). No condition. -/
import Derived.Test.YtghajmcohdedlaaGreatPk48
namespace Go.Proofs.YtghajmcohdedlaaGreat
open Go.ChangeShapes Go.WideShapes Go.ChangeAt Go.RowKit
namespace evlogPlays
set_option maxRecDepth 100000 in
set_option maxHeartbeats 4000000 in
theorem walk (a : Option Addr) (len cap : Nat) (l : List Dq) (w : World) (hl : DqsRd w a len l) (hlb : len ≤ 9223372036854775807) :
  Calls Tryz.prog 3 #[.slice a len cap] w fun e w' => e = .returned (.bool true) ∧ Below w.heap.size w w' := by
 have HL : Hid (DqsRd w a len l) := hl
 obtain ⟨base, hbase⟩ : ∃ base, base = w.heap.size := ⟨_, rfl⟩
 have HBASE : Hid (base = w.heap.size) := hbase
 clear hl hbase
 go_enter Tryz.func3, Tryz.ntmps3
 go_wp2_with fail
 refine (e_start w none 0 0 [] ⟨rfl, .inl rfl, fun _ h => by cases h⟩ (by omega)).mono ?_
 rintro e w2 ⟨ht, hb2⟩
 obtain ⟨gp, g, gs, r, rfl, hf⟩ := ht.out
 rw [← HBASE.out] at hf hb2
 obtain ⟨s0, HS0⟩ : ∃ s0, Hid (s0 = opE (rawD (([] : List Dq).take 200))) := ⟨_, rfl⟩
 rw [← HS0.out] at hf
 have HF2 : Hid (Evs w2 base gp g gs r 60 s0) := hf
 have HB2 : Hid (Below base w w2) := hb2
 have HG2 : Hid (s0.D.waits.length ≤ 300 ∧ s0.D.age ≤ 300) := by
  (show _ ∧ _)
  rw [HS0.out]
  have h1 := rawD_ok (([] : List Dq).take 200)
  have h2 := (op_ok h1.2.1 h1.1).2.2
  have h3 := h1.2.2.1
  have h4 := h1.2.2.2
  simp only [List.take_nil, List.length_nil] at h3
  exact ⟨by show (opD _).waits.length ≤ _; have := h2.wl; simp only [List.take_nil] at this ⊢; omega, by show (opD _).age ≤ _; have := h2.ag; simp only [List.take_nil] at this h4 ⊢; omega⟩
 clear ht hf hb2
 go_wp2
 go_loopw [4, 5] (fun t4 t5 wr => ∃ (i : Nat) (s : Se), i ≤ len ∧ i ≤ 120 ∧ t5 = .int .i64 (i : Int) ∧ t4 = .bool true ∧ Hid (Evs wr base gp g gs r (60 + i) s) ∧ Hid (s.D.waits.length ≤ 300 + 40 * i ∧ s.D.age ≤ 300 + i) ∧ Hid (Below base w wr)) (fun _ t5 _ => len - (intOf t5).toNat)
 case atStart => exact ⟨0, s0, by omega, by omega, rfl, rfl, HF2, HG2, HB2⟩
 case round =>
  obtain ⟨i, s, hi, hi2, rfl, rfl, HF, HG, HB⟩ := hrel
  have HBw : Hid (Below w.heap.size w wr) := by show Below _ _ _; rw [← HBASE.out]; exact HB.out
  by_cases hgo : i < len ∧ i < 120
  ·obtain ⟨hlt, h200⟩ := hgo
   have hlt' : (i : Int) < (len : Int) := by omega
   have h200' : (i : Int) < 120 := by omega
   obtain ⟨gl, o, rfl, _, d, hd, hok, e0, e1, e2, e3⟩ := (HL.out.below HBw.out).spot i hlt
   have HLd : Hid (l[i]? = some d) := hd
   have hi0 : (0 : Int) ≤ (i : Int) := by omega
   have HDQ : Hid (∀ w', Below base wr w' → DqOk w' d) := fun w' hb' => (HL.out.each d (List.mem_of_getElem? HLd.out)).below (by rw [← HBASE.out]; exact HB.out.trans hb')
   clear hd hok
   go_wp2_with fail
   refine (e_do wr base gp g gs r (60 + i) s d HF.out HDQ.out (by have := HG.out.1; omega) (by have := HG.out.2; omega) (by omega) (by omega)).mono ?_
   rintro e w3 ⟨rfl, hf3, hbl3⟩
   have HF3 : Hid (Evs w3 base gp g gs r (60 + (i + 1)) (stepA s d)) := hf3.out
   have HB3 : Hid (Below base w w3) := HB.out.trans hbl3
   have HG3 : Hid ((stepA s d).D.waits.length ≤ 300 + 40 * (i + 1) ∧ (stepA s d).D.age ≤ 300 + (i + 1)) := by
    obtain ⟨g1, g2⟩ := step_gr HF.out.ok d
    obtain ⟨f1, f2⟩ := HG.out
    exact ⟨by omega, by omega⟩
   clear hf3 hbl3 e0 e1 e2 e3
   go_wp2_with fail
   refine (e_told w3 base gp g gs r (60 + (i + 1)) _ _ _ _ _ _ HF3.out (by omega)).mono ?_
   rintro e w4 ⟨rfl, hb4⟩
   have HF4 : Hid (Evs w4 base gp g gs r (60 + (i + 1)) (stepA s d)) := Ev.stay HF3.out hb4
   have HB4 : Hid (Below base w w4) := HB3.out.trans (hb4.mono (by have := HB3.out.size; have := HBASE.out; omega))
   clear hb4
   go_wp2
   go_roundw
   case rel => exact ⟨i + 1, stepA s d, by omega, by omega, by go_num, rfl, HF4, HG3, HB4⟩
   case measure => simp [intOf]; omega
  ·have hcase : (¬ (i : Int) < (len : Int)) ∨ ((i : Int) < (len : Int) ∧ ¬ (i : Int) < 120) := by omega
   clear hgo
   rcases hcase with hc | ⟨hc, hc2⟩ <;>
   (go_wp2_with fail
    refine (law_live11 wr).mono ?_
    rintro e w5 ⟨rfl, hb5⟩
    have HF5 : Hid (Evs w5 base gp g gs r (60 + i) s) := Ev.stay HF.out hb5
    have HB5 : Hid (Below w.heap.size w w5) := HBw.out.trans (hb5.mono HBw.out.size)
    clear hb5
    go_wp2_with fail
    refine (e_disks w5 base gp g gs r (60 + i) _ _ _ _ _ _ HF5.out).mono ?_
    rintro e w6 ⟨rfl, hb6⟩
    have HB6 : Hid (Below w.heap.size w w6) := HB5.out.trans (hb6.mono HB5.out.size)
    clear hb6
    go_wp2
    go_ret
    exact ⟨rfl, HB6.out⟩ )
set_option maxRecDepth 100000 in
theorem contract (H : Type) (enc : TypeId × Value → H) (W : World) (base : Nat) (args : Array Value) (ds gs : List (DataW H)) (before : List MemPlace)
  (hval : ∀ (j : Nat) t v, Tryz.f3.params[j]? = some t → args[j]? = some v → Value.okWide Tryz.prog W .any base t v)
  (hW : DataW.Whole enc Tryz.prog Tryz.f3.params.toList Rows.evlogPlaysSpec.vars false W args.toList ds gs before) (hsz0 : (DataW.weightsEach Tryz.prog (Tryz.f3.params.toList ++ Rows.evlogPlaysSpec.plain.varTypes Tryz.prog) (ds ++ gs)).all (· ≤ reachBytes) = true) :
  Calls Tryz.prog 3 args W fun e W' => ∃ v, e = .returned v ∧ Rows.evlogPlaysSpec.post enc Tryz.prog Tryz.f3 false true false false W args v W' := by
 have hW' := hW
 obtain ⟨p, q, hA0, hV, rfl, hfz, hnd⟩ := hW
 have hA : DataW.TrodAll enc Tryz.prog W 0 (fun _ => true) true Tryz.f3.params.toList args.toList ds p := hA0
 have hK := hA
 have hsz := hsz0
 rw [Tryz.params3] at hA hval hsz
 obtain ⟨v0, vs0, d0, ds0, p0, q0, hargs, rfl, rfl, h0, r0⟩ := trodAll_cons hA
 obtain ⟨rfl, rfl, rfl⟩ := trodAll_nil r0
 obtain rfl : args = #[v0] := by cases args; simp_all
 obtain ⟨rfl, rfl⟩ := trodVars_none hV
 have hw0 : ∀ y ∈ DataW.weights Tryz.prog 22 d0, y ≤ reachBytes := fun y hy => by have := List.all_eq_true.1 hsz _ (DataW.weights_mem_each (j := 0) rfl rfl y hy); simpa using this
 obtain ⟨a0, len0, cap0, rfl⟩ := okWide_slice Tryz.underlying22 (hval 0 22 v0 rfl rfl)
 obtain ⟨fu0, hf0⟩ := h0
 obtain ⟨l0, rd0, lc0, cm0⟩ := open_deeds11 hf0 hw0
 refine (walk a0 len0 cap0 l0 W rd0 (by unfold maxLen at cm0; omega)).mono fun e W' ⟨he, bel⟩ => ?_
 subst he
 exact ⟨_, rfl, _, _, _, [], _, [], hW', trodAll_mk1 (shut_bool Tryz.underlying4 _), trodAll_below laidOut bel _ _ _ _ (by kernel_rfl) hK, rfl, bel.frame _, fun h => by cases h⟩
set_option maxRecDepth 100000 in
theorem lifted (os : Os) (started : os.Started) (H : Type) (enc : TypeId × Value → H) :
  ReturnsInHanded {} Tryz.checked os 3 .any (Rows.evlogPlaysSpec.pre6 enc Tryz.prog Tryz.f3 Rows.evlogPlaysRow.domain false) (Rows.evlogPlaysSpec.post enc Tryz.prog Tryz.f3 false true false false) := by
 refine returnsInHanded_of_change_sized (C := Tryz.checked) own started (by kernel_rfl) Tryz.func3
  (ChangeSpec.witness6 (enc := enc) (C := Tryz.checked) false ⟨#[], #[.slice none 0 0], []⟩ 8 (by kernel_rfl) (by kernel_rfl) (by kernel_rfl) (by kernel_rfl)) ?_
 intro W base args ds gs before hval hW _ hsz _
 exact contract H enc W base args ds gs before hval hW hsz
theorem said : Rows.EvlogPlaysSaid :=
 OpenClaim.holds_of_wide 3 Tryz.f3 rfl rfl rfl rfl rfl rfl rfl ⟨rfl, rfl, rfl, rfl, rfl⟩ rfl rfl rfl rfl rfl (by kernel_rfl) Tryz.func3 (by kernel_rfl)
  (of_decide_eq_true (by kernel_rfl)) (by unfold Func.isWrapper; first | (rw [if_pos (by decide +kernel)]; kernel_rfl) | (rw [if_neg (by decide +kernel)]; exact ⟨rfl, rfl⟩))
  (fun os started H enc _ => lifted os started H enc)
end evlogPlays
theorem evlogPlays_holds : Rows.EvlogPlaysSaid := evlogPlays.said
end Go.Proofs.YtghajmcohdedlaaGreat
