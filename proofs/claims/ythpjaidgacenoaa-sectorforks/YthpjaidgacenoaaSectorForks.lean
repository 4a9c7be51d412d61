/- What becomes of a Fork changes nothing: every script, and another one on the Fork. No condition. -/
import Derived.Test.YthpjaidgacenoaaQRkFork
namespace Go.Proofs.Ythpjaidgacenoaa
open Go.ChangeShapes Go.WideShapes Go.ChangeAt Go.RowKit

namespace sectorForks
theorem Rk.roomy {w : World} {base r q : Nat} {sv wv : Value} {SV WV : List Value} {D : Dk} (h : Rk w base r q sv wv SV WV D) (c : Nat) (R : List Value) : Rk w base r q sv wv SV WV { D with cap := c, room := R } :=
  ⟨h.blk, h.srow, h.wrow, h.br, h.s1, h.sz, h.each, h.puts, h.tr, h.ag, h.wl⟩

set_option maxRecDepth 100000 in
set_option maxHeartbeats 4000000 in
theorem walk (a : Option Addr) (len cap : Nat) (l : List Dq) (a2 : Option Addr) (len2 cap2 : Nat) (l2 : List Dq) (w : World) (hl : DqsRd w a len l) (hlb : len ≤ 9223372036854775807) (hl2 : DqsRd w a2 len2 l2) (hlb2 : len2 ≤ 9223372036854775807) :
    Calls Try.prog 6 #[.slice a len cap, .slice a2 len2 cap2] w fun e w' => e = .returned (.bool true) ∧ Below w.heap.size w w' := by
  have HL : Hid (DqsRd w a len l) := hl
  have HL2 : Hid (DqsRd w a2 len2 l2) := hl2
  obtain ⟨base, hbase⟩ : ∃ base, base = w.heap.size := ⟨_, rfl⟩
  have HBASE : Hid (base = w.heap.size) := hbase
  clear hl hl2 hbase
  go_enter Try.func6, Try.ntmps6
  go_wp2_with fail
  refine (law_play w 6 a len cap l HL.out hlb).mono ?_
  rintro e w1 ⟨ht, hb1⟩
  obtain ⟨g, gs, r, D, rfl, hbo, hwl, hag, hsl⟩ := ht.out
  rw [← HBASE.out] at hbo hb1
  have HBO : Hid (Both w1 base g gs r D) := hbo
  obtain ⟨wv, q, sv, rv, SV, WV, hd, hr, hq⟩ := hbo
  have HX1 : Hid (Disk w1 base g gs wv D) := hd
  have HY1 : Hid (Rk w1 base r q sv rv SV WV D) := hr
  have HQ : Hid (q < w1.heap.size) := hq
  have HBw1 : Hid (Below base w w1) := hb1
  have HSL : Hid (1 ≤ D.sure.length) := hr.s1
  have HAG : Hid (D.age ≤ 300 ∧ D.waits.length ≤ 300) := ⟨hag, hwl⟩
  clear ht hd hr hq hb1 hag hsl hwl
  go_wp2_with fail
  refine (disk_Fork w1 base g gs wv D HX1.out HSL.out).mono ?_
  rintro e w2 ⟨gf, gsf, wvf, cf, Rf, rfl, hdf, hb2⟩
  have HB2 : Hid (Below w1.heap.size w1 w2) := hb2
  have HF2 : Hid (Disk w2 w1.heap.size gf gsf wvf { D with cap := cf, room := Rf }) := hdf.out
  have HY2 : Hid (Rk w2 base r q sv rv SV WV D) := HY1.out.stay hb2
  clear hdf hb2
  go_wp2_with fail
  refine (ref_Fork w2 base r q sv rv SV WV D HY2.out).mono ?_
  rintro e w3 ⟨rg, svg, wvg, rfl, hrg, hb3⟩
  have HB3 : Hid (Below w1.heap.size w1 w3) := HB2.out.trans (hb3.mono HB2.out.size)
  have HBF : Hid (Both w3 w1.heap.size gf gsf rg { D with cap := cf, room := Rf }) := ⟨wvf, q, svg, wvg, SV, WV, HF2.out.stay hb3, Rk.roomy (hrg.out.lower HB2.out.size) cf Rf, Nat.lt_of_lt_of_le HQ.out HB3.out.size⟩
  have HLE : Hid (base ≤ w1.heap.size) := Nat.le_trans HX1.out.bg (Nat.le_of_lt HX1.out.blk.lt)
  clear hrg hb3
  go_wp2
  go_loopw [10] (fun t10 wr => ∃ (i : Nat) (E : Dk), i ≤ len2 ∧ i ≤ 300 ∧ t10 = .int .i64 (i : Int) ∧ Hid (Both wr w1.heap.size gf gsf rg E) ∧ Hid (E.waits.length ≤ 300 + i ∧ E.age ≤ 300 + i) ∧ Hid (Below w1.heap.size w1 wr)) (fun t10 _ => len2 - (intOf t10).toNat)
  case atStart => exact ⟨0, { D with cap := cf, room := Rf }, by omega, by omega, rfl, HBF, ⟨HAG.out.2, HAG.out.1⟩, HB3⟩
  case round =>
    obtain ⟨i, E, hi, hi3, rfl, HBo, HG, HB⟩ := hrel
    have HBw : Hid (Below w.heap.size w wr) := by show Below _ _ _; rw [← HBASE.out]; exact HBw1.out.trans (HB.out.mono HLE.out)
    by_cases hgo : i < len2 ∧ i < 300
    · obtain ⟨hlt, h300⟩ := hgo
      have hlt' : (i : Int) < (len2 : Int) := by omega
      have h300' : (i : Int) < 300 := by omega
      have hi0 : (0 : Int) ≤ (i : Int) := by omega
      obtain ⟨gl, o, rfl, _, d, hd, hok, e0, e1, e2, e3⟩ := (HL2.out.below HBw.out).spot i hlt
      have HLd : Hid (l2[i]? = some d) := hd
      have HDQ : Hid (∀ w', Below w1.heap.size wr w' → DqOk w' d) := fun w' hb' => (HL2.out.each d (List.mem_of_getElem? HLd.out)).below (HBw.out.trans (hb'.mono (by rw [← HBASE.out]; exact HLE.out)))
      have HFA : Hid (∀ b off, d.fa = some ⟨b, off, none⟩ → 0 < d.fl → b < w1.heap.size) := fun b off e h0 => by
        have := (HL2.out.each d (List.mem_of_getElem? HLd.out)).ft.lt b off e h0
        have := HLE.out
        have := HBASE.out
        omega
      clear hd hok
      go_wp2_with fail
      refine (law_do wr w1.heap.size gf gsf rg E d HBo.out HDQ.out HFA.out (by have := HG.out.1; omega) (by have := HG.out.2; omega)).mono ?_
      rintro e w4 ⟨rfl, hb4, hbl4⟩
      have HBo4 : Hid (Both w4 w1.heap.size gf gsf rg (doD E d)) := hb4.out
      have HB4 : Hid (Below w1.heap.size w1 w4) := HB.out.trans hbl4
      have HG4 : Hid ((doD E d).waits.length ≤ 300 + (i + 1) ∧ (doD E d).age ≤ 300 + (i + 1)) := by
        obtain ⟨g1, g2, g3⟩ := do_grew E d
        obtain ⟨f1, f2⟩ := HG.out
        exact ⟨by omega, by omega⟩
      clear hb4 hbl4 e0 e1 e2 e3
      go_wp2
      go_roundw
      case rel => exact ⟨i + 1, doD E d, by omega, by omega, by go_num, HBo4, HG4, HB4⟩
      case measure => simp [intOf]; omega
    · have hcase : (¬ (i : Int) < (len2 : Int)) ∨ ((i : Int) < (len2 : Int) ∧ ¬ (i : Int) < 300) := by omega
      clear hgo
      rcases hcase with hc | ⟨hc, hc2⟩ <;>
      ( go_wp2_with fail
        refine (law_live wr).mono ?_
        rintro e w5 ⟨rfl, hb5⟩
        have HB5 : Hid (Below w1.heap.size w1 w5) := HB.out.trans (hb5.mono HB.out.size)
        have HBX5 : Hid (Both w5 base g gs r D) := HBO.out.stay HB5.out
        have HBF5 : Hid (Both w5 w1.heap.size gf gsf rg E) := HBo.out.stay hb5
        clear hb5
        go_wp2_with fail
        refine (law_same w5 base g gs r D HBX5.out).mono ?_
        rintro e w6 ⟨rfl, hb6⟩
        have HB6 : Hid (Below w1.heap.size w1 w6) := HB5.out.trans (hb6.mono HB5.out.size)
        have HBF6 : Hid (Both w6 w1.heap.size gf gsf rg E) := HBF5.out.stay hb6
        clear hb6
        go_wp2_with fail
        refine (law_same w6 w1.heap.size gf gsf rg E HBF6.out).mono ?_
        rintro e w7 ⟨rfl, hb7⟩
        have HB7 : Hid (Below w1.heap.size w1 w7) := HB6.out.trans (hb7.mono HB6.out.size)
        have HFIN : Hid (Below w.heap.size w w7) := by show Below _ _ _; rw [← HBASE.out]; exact HBw1.out.trans (HB7.out.mono HLE.out)
        clear hb7
        go_wp2
        go_ret
        exact ⟨rfl, HFIN.out⟩ )

set_option maxRecDepth 100000 in
theorem contract (H : Type) (enc : TypeId × Value → H) (W : World) (base : Nat) (args : Array Value) (ds gs : List (DataW H)) (before : List MemPlace)
    (hval : ∀ (j : Nat) t v, Try.f6.params[j]? = some t → args[j]? = some v → Value.okWide Try.prog W .any base t v)
    (hW : DataW.Whole enc Try.prog Try.f6.params.toList Rows.sectorForksSpec.vars false W args.toList ds gs before) (hsz0 : (DataW.weightsEach Try.prog (Try.f6.params.toList ++ Rows.sectorForksSpec.plain.varTypes Try.prog) (ds ++ gs)).all (· ≤ reachBytes) = true) :
    Calls Try.prog 6 args W fun e W' => ∃ v, e = .returned v ∧ Rows.sectorForksSpec.post enc Try.prog Try.f6 false true false false W args v W' := by
  have hW' := hW
  obtain ⟨p, q, hA0, hV, rfl, hfz, hnd⟩ := hW
  have hA : DataW.TrodAll enc Try.prog W 0 (fun _ => true) true Try.f6.params.toList args.toList ds p := hA0
  have hK := hA
  have hsz := hsz0
  rw [Try.params6] at hA hval hsz
  obtain ⟨v0, vs0, d0, ds0, p0, q0, hargs, rfl, rfl, h0, r0⟩ := trodAll_cons hA
  obtain ⟨v1, vs1, d1, ds1, p1, q1, rfl, rfl, rfl, h1, r1⟩ := trodAll_cons r0
  obtain ⟨rfl, rfl, rfl⟩ := trodAll_nil r1
  obtain rfl : args = #[v0, v1] := by cases args; simp_all
  obtain ⟨rfl, rfl⟩ := trodVars_none hV
  have hw0 : ∀ y ∈ DataW.weights Try.prog 22 d0, y ≤ reachBytes := fun y hy => by have := List.all_eq_true.1 hsz _ (DataW.weights_mem_each (j := 0) rfl rfl y hy); simpa using this
  have hw1 : ∀ y ∈ DataW.weights Try.prog 22 d1, y ≤ reachBytes := fun y hy => by have := List.all_eq_true.1 hsz _ (DataW.weights_mem_each (j := 1) rfl rfl y hy); simpa using this
  obtain ⟨a0, len0, cap0, rfl⟩ := okWide_slice Try.underlying22 (hval 0 22 v0 rfl rfl)
  obtain ⟨a1, len1, cap1, rfl⟩ := okWide_slice Try.underlying22 (hval 1 22 v1 rfl rfl)
  obtain ⟨fu0, hf0⟩ := h0
  obtain ⟨l0, rd0, lc0, cm0⟩ := open_deeds2 hf0 hw0
  obtain ⟨fu1, hf1⟩ := h1
  obtain ⟨l1, rd1, lc1, cm1⟩ := open_deeds2 hf1 hw1
  refine (walk a0 len0 cap0 l0 a1 len1 cap1 l1 W rd0 (by unfold maxLen at cm0; omega) rd1 (by unfold maxLen at cm1; omega)).mono fun e W' ⟨he, bel⟩ => ?_
  subst he
  exact ⟨_, rfl, _, _, _, [], _, [], hW', trodAll_mk1 (shut_bool Try.underlying4 _), trodAll_below laidOut bel _ _ _ _ (by kernel_rfl) hK, rfl, bel.frame _, fun h => by cases h⟩

set_option maxRecDepth 100000 in
theorem lifted (os : Os) (started : os.Started) (H : Type) (enc : TypeId × Value → H) :
    ReturnsInHanded {} Try.checked os 6 .any (Rows.sectorForksSpec.pre6 enc Try.prog Try.f6 Rows.sectorForksRow.domain false) (Rows.sectorForksSpec.post enc Try.prog Try.f6 false true false false) := by
  refine returnsInHanded_of_change_sized (C := Try.checked) own started (by kernel_rfl) Try.func6
    (ChangeSpec.witness6 (enc := enc) (C := Try.checked) false ⟨#[], #[.slice none 0 0, .slice none 0 0], []⟩ 8 (by kernel_rfl) (by kernel_rfl) (by kernel_rfl) (by kernel_rfl)) ?_
  intro W base args ds gs before hval hW _ hsz _
  exact contract H enc W base args ds gs before hval hW hsz

theorem said : Rows.SectorForksSaid :=
  OpenClaim.holds_of_wide 6 Try.f6 rfl rfl rfl rfl rfl rfl rfl ⟨rfl, rfl, rfl, rfl, rfl⟩ rfl rfl rfl rfl rfl (by kernel_rfl) Try.func6 (by kernel_rfl)
    (of_decide_eq_true (by kernel_rfl)) (by unfold Func.isWrapper; first | (rw [if_pos (by decide +kernel)]; kernel_rfl) | (rw [if_neg (by decide +kernel)]; exact ⟨rfl, rfl⟩))
    (fun os started H enc _ => lifted os started H enc)
end sectorForks

theorem sectorForks_holds : Rows.SectorForksSaid := sectorForks.said
end Go.Proofs.Ythpjaidgacenoaa

