/- A Put that is broken off anywhere leaves its value or what was told ahead, whatever the sectors had: every script, deed, and after how many writes and syncs it trips. No condition. -/
import Derived.Test.YthpjaidgacenoabMkTri
import Derived.Test.YthpjaidgacenoabMkOneDeed
namespace Go.Proofs.Ythpjaidgacenoab
open Go.ChangeShapes Go.WideShapes Go.ChangeAt Go.RowKit

namespace markTorn
set_option maxRecDepth 100000 in
set_option maxHeartbeats 8000000 in
theorem walk (a : Option Addr) (len cap : Nat) (l : List Dm) (d : Dm) (tr : Nat) (w : World) (hl : DmsRd w a len l) (hlb : len ≤ 9223372036854775807) (hd : DmOk w d) (htr : tr < 256) :
    Calls Try.prog 3 #[.slice a len cap, .agg #[.int .i64 d.kind, .int .i64 d.i_, .int .i64 d.v_, .slice d.ba d.bl d.bc, .slice d.fa d.fl d.fc], .int .u8 (tr : Int)] w fun e w' => e = .returned (.bool true) ∧ Below w.heap.size w w' := by
  obtain ⟨dk, di, dv, ba, bl, bc, bs, fa, fl, fc, F⟩ := d
  simp only
  obtain ⟨W1, HW1⟩ : ∃ W1, Hid (W1 = w.alloc (.cells #[.int .i64 dk, .int .i64 di, .int .i64 dv, .slice ba bl bc, .slice fa fl fc] 26)) := ⟨_, rfl⟩
  have HB1 : Hid (Below w.heap.size w W1) := by show Below _ _ _; rw [HW1.out]; exact below_alloc _ _
  have HKX : Hid (Blk W1 w.heap.size #[.int .i64 dk, .int .i64 di, .int .i64 dv, .slice ba bl bc, .slice fa fl fc] 26) := by show Blk _ _ _ _; rw [HW1.out]; exact Blk.new _ _ _
  have HL : Hid (DmsRd W1 a len l) := hl.below HB1.out
  have HFT : Hid (FtRd W1 fa fl F) := hd.ft.below HB1.out
  have HFL : Hid (fl ≤ 9223372036854775000) := hd.fb
  obtain ⟨base, hbase⟩ : ∃ base, base = W1.heap.size := ⟨_, rfl⟩
  have HBASE : Hid (base = W1.heap.size) := hbase
  have HXB : Hid (w.heap.size < base) := by show _ < _; rw [hbase]; exact HKX.out.lt
  obtain ⟨t, ht⟩ : ∃ t : Nat, t = tr % 4 := ⟨_, rfl⟩
  have y1 : (tr : Int) % 4 = (t : Int) := by omega
  have y2 : Int.tmod (tr : Int) 4 = (t : Int) := by rw [Int.tmod_eq_emod_of_nonneg (by omega)]; exact y1
  have ht4 : t < 4 := by omega
  clear hl hd hbase ht
  go_enter Try.func3, Try.ntmps3
  go_wp2_with fail
  rw [← HW1.out]
  refine (m_play W1 a len cap l HL.out hlb).mono ?_
  rintro e w1 ⟨ht, hb1⟩
  obtain ⟨gp, g, gs, r, D, rfl, hf, hwl, hag⟩ := ht.out
  obtain ⟨gc, gy, q, wv, sv, rv, SV, WV, hq⟩ := hf
  rw [← HBASE.out] at hq hb1
  have HT1 : Hid (Tri w1 base gp g gs gc r gy wv D) := hq.tri
  have H8 : Hid (D.sure.length = 8) := hq.s8
  have HBw1 : Hid (Below base W1 w1) := hb1
  have HAG : Hid (D.age ≤ 200) := hag
  clear ht hq hb1 hwl hag
  have p0 : w1.cell? ⟨gp, 0, none⟩ = some (.pointer (some ⟨g, 0, none⟩)) := Blk.cell HT1.out.pr 0 rfl
  obtain ⟨D1, HD1⟩ : ∃ D1, Hid (D1 = crashD D []) := ⟨_, rfl⟩
  go_wp2_with fail
  refine (disk_CrashC w1 base g gs wv D none 0 0 [] HT1.out.dk (fun _ _ => ⟨rfl, .inl rfl⟩) (fun _ _ h => (by cases h)) (by omega) (by have := HAG.out; omega)).mono ?_
  rw [← HD1.out]
  rintro e w2 ⟨rfl, hd2, hm2⟩
  have HT2 : Hid (Tri w2 base gp g gs gc r gy (.slice none 0 0) D1) := HT1.out.mv hm2.mv hd2.out
  have HBw2 : Hid (Below base W1 w2) := HBw1.out.trans hm2.low
  have HC1 : Hid (D1.down = false ∧ D1.waits = [] ∧ D1.sure = D.sure ∧ D1.trip = 0) := by show _ ∧ _; rw [HD1.out]; exact crashed D
  have HA1 : Hid (D1.age ≤ 201) := by show _ ≤ _; rw [HD1.out]; show D.age + 1 ≤ 201; have := HAG.out; omega
  clear hd2 hm2 p0
  obtain ⟨⟨wx, wb⟩, HG1⟩ : ∃ G, Hid (G = getB D1 1 3 di) := ⟨_, rfl⟩
  have HKX2 : Hid (Blk w2.drew w.heap.size #[.int .i64 dk, .int .i64 di, .int .i64 dv, .slice ba bl bc, .slice fa fl fc] 26) := HKX.out.below HBw2.out.drew HXB.out
  have HT2d : Hid (Tri w2.drew base gp g gs gc r gy (.slice none 0 0) D1) := HT2.out.stay (Below.refl _ _).drew
  have s1 : w2.drew.cell? ⟨gp, 1, none⟩ = some (.pointer (some ⟨gc, 0, none⟩)) ∧ w2.drew.cell? ⟨w.heap.size, 1, none⟩ = some (.int .i64 di) := ⟨Blk.cell HT2d.out.pr 1 rfl, HKX2.out.cell 1 rfl⟩
  go_wp2
  go_region_held3 (fun w' => w'.cell? ⟨gp, 1, none⟩ = some (.pointer (some ⟨gc, 0, none⟩)) ∧ w'.cell? ⟨w.heap.size, 1, none⟩ = some (.int .i64 di)) (first | exact s1 | exact s2 | fail)
    (first | (go_at_call 7; refine (cells_Get _ base g gs _ D1 gc 1 3 di HT2d.out.dk HT2d.out.cs (by omega) (by omega)).mono ?_; rw [← HG1.out]; rintro e w3 ⟨rfl, hb3⟩; have HT3 : Hid (Tri w3 base gp g gs gc r gy (.slice none 0 0) D1) := HT2d.out.stay hb3; have HKX3 : Hid (Blk w3 w.heap.size #[.int .i64 dk, .int .i64 di, .int .i64 dv, .slice ba bl bc, .slice fa fl fc] 26) := HKX2.out.stay hb3; have s2 : w3.cell? ⟨gp, 1, none⟩ = some (.pointer (some ⟨gc, 0, none⟩)) ∧ w3.cell? ⟨w.heap.size, 1, none⟩ = some (.int .i64 di) := ⟨Blk.cell HT3.out.pr 1 rfl, HKX3.out.cell 1 rfl⟩))
  have HBw3 : Hid (Below base W1 w3) := HBw2.out.drew.trans (hb3.mono HT2d.out.base)
  clear hb3 s1 s2
  have p0 : w3.cell? ⟨gp, 0, none⟩ = some (.pointer (some ⟨g, 0, none⟩)) := Blk.cell HT3.out.pr 0 rfl
  obtain ⟨D2, HD2⟩ : ∃ D2, Hid (D2 = tripD D1 (t : Int)) := ⟨_, rfl⟩
  have HC2 : Hid (D2.down = false ∧ D2.waits = [] ∧ D2.sure = D.sure ∧ D2.age ≤ 201) := by
    show _ ∧ _
    have e : D2 = { D1 with trip := t } := by rw [HD2.out, tripD, HC1.out.1, if_neg (by decide), if_neg (by omega), Int.toNat_natCast]
    rw [e]
    exact ⟨HC1.out.1, HC1.out.2.1, HC1.out.2.2.1, HA1.out⟩
  have HG2 : Hid (getB D2 1 3 di = (wx, wb)) := by show _ = _; rw [HG1.out]; exact get_alike D1 D2 1 3 di HC1.out.1 HC2.out.1 HC1.out.2.1 HC2.out.2.1 (by rw [HC2.out.2.2.1, HC1.out.2.2.1])
  go_wp2_with fail
  refine (disk_Trip w3 base g gs _ D1 (t : Int) HT3.out.dk (by omega)).mono ?_
  rw [← HD2.out]
  rintro e w4 ⟨rfl, hd4, hm4⟩
  have HT4 : Hid (Tri w4 base gp g gs gc r gy (.slice none 0 0) D2) := HT3.out.mv hm4 hd4.out
  have HBw4 : Hid (Below base W1 w4.drew) := (HBw3.out.trans hm4.low).drew
  have HT4d : Hid (Tri w4.drew base gp g gs gc r gy (.slice none 0 0) D2) := HT4.out.stay (Below.refl _ _).drew
  have HKX4 : Hid (Blk w4.drew w.heap.size #[.int .i64 dk, .int .i64 di, .int .i64 dv, .slice ba bl bc, .slice fa fl fc] 26) := HKX.out.below HBw4.out HXB.out
  clear hd4 hm4 p0
  have s1 : w4.drew.cell? ⟨gp, 1, none⟩ = some (.pointer (some ⟨gc, 0, none⟩)) ∧ w4.drew.cell? ⟨w.heap.size, 1, none⟩ = some (.int .i64 di) ∧ w4.drew.cell? ⟨w.heap.size, 2, none⟩ = some (.int .i64 dv) := ⟨Blk.cell HT4d.out.pr 1 rfl, HKX4.out.cell 1 rfl, HKX4.out.cell 2 rfl⟩
  have HNE4 : Hid (w.heap.size ≠ g ∧ w.heap.size ≠ gs) := HT4d.out.ne HKX4.out (by decide) (by decide)
  obtain ⟨E, HE⟩ : ∃ E, Hid (E = putCE D2 1 3 di dv) := ⟨_, rfl⟩
  obtain ⟨D3, HD3⟩ : ∃ D3, Hid (D3 = putCD D2 1 3 di dv) := ⟨_, rfl⟩
  have HA3 : Hid (D3.age ≤ 201 ∧ D3.sure.length = 8) := by
    show _ ∧ _
    have := put_grew D2 1 3 di dv
    rw [← HD3.out] at this
    exact ⟨by have := HC2.out.2.2.2; omega, by rw [this.2.2, HC2.out.2.2.1]; exact H8.out⟩
  have HWL2 : Hid (D2.waits.length < 1000000000) := by show _ < _; rw [HC2.out.2.1]; decide
  have HSEC : Hid (∀ s ∈ D2.sure, Sec s) := HT4d.out.dk.sec
  go_wp2
  go_region_held3 (fun w' => w'.cell? ⟨gp, 1, none⟩ = some (.pointer (some ⟨gc, 0, none⟩)) ∧ w'.cell? ⟨w.heap.size, 1, none⟩ = some (.int .i64 di) ∧ w'.cell? ⟨w.heap.size, 2, none⟩ = some (.int .i64 dv)) (first | exact s1 | exact s2 | fail)
    (first | (go_at_call 9; refine (cells_Put _ base g gs _ D2 gc 1 3 di dv HT4d.out.dk HT4d.out.cs (by omega) (by omega) HWL2.out).mono ?_; rw [← HE.out, ← HD3.out]; rintro e w5 ⟨rfl, hd5, hm5⟩; have k5 := hm5.keep HKX4.out HNE4.out.1 HNE4.out.2 (by decide); have ht5 := HT4d.out.mv hm5 hd5.out.choose_spec; have s2 : w5.cell? ⟨gp, 1, none⟩ = some (.pointer (some ⟨gc, 0, none⟩)) ∧ w5.cell? ⟨w.heap.size, 1, none⟩ = some (.int .i64 di) ∧ w5.cell? ⟨w.heap.size, 2, none⟩ = some (.int .i64 dv) := ⟨Blk.cell ht5.pr 1 rfl, k5.cell 1 rfl, k5.cell 2 rfl⟩))
  have HT5' : Hid (∃ wv5, Tri w5 base gp g gs gc r gy wv5 D3) := ⟨_, ht5⟩
  clear ht5
  obtain ⟨wv5, HT5⟩ := HT5'.out
  have HT5d : Hid (Tri w5.drew base gp g gs gc r gy wv5 D3) := HT5.stay (Below.refl _ _).drew
  have HBw5 : Hid (Below base W1 w5.drew) := (HBw4.out.trans hm5.low).drew
  have HKX5 : Hid (Blk w5.drew w.heap.size #[.int .i64 dk, .int .i64 di, .int .i64 dv, .slice ba bl bc, .slice fa fl fc] 26) := HKX.out.below HBw5.out HXB.out
  clear hd5 hm5 k5 HT5 HT5' s1 s2
  have s1 : w5.drew.cell? ⟨gp, 0, none⟩ = some (.pointer (some ⟨g, 0, none⟩)) ∧ w5.drew.cell? ⟨w.heap.size, 4, none⟩ = some (.slice fa fl fc) := ⟨Blk.cell HT5d.out.pr 0 rfl, HKX5.out.cell 4 rfl⟩
  obtain ⟨D4, HD4⟩ : ∃ D4, Hid (D4 = crashD D3 F) := ⟨_, rfl⟩
  have HFB : Hid (∀ b off, fa = some ⟨b, off, none⟩ → 0 < fl → b ≠ gs) := HFT.out.apart HT5d.out.dk (by rw [HBASE.out]; exact Nat.le_refl _)
  have H84 : Hid (D4.sure.length = 8) := by show _ = _; rw [HD4.out, (crash_grew D3 F).sl]; exact HA3.out.2
  go_wp2
  go_region_held3 (fun w' => w'.cell? ⟨gp, 0, none⟩ = some (.pointer (some ⟨g, 0, none⟩)) ∧ w'.cell? ⟨w.heap.size, 4, none⟩ = some (.slice fa fl fc)) (first | exact s1 | exact s2 | fail)
    (first | (go_at_call 6; refine (disk_CrashC _ base g gs wv5 D3 fa fl fc F HT5d.out.dk (fun w' hm => HFT.out.below (by rw [← HBASE.out]; exact HBw5.out.trans hm.low)) HFB.out HFL.out (by have := HA3.out.1; omega)).mono ?_; rw [← HD4.out]; rintro e w6 ⟨rfl, hd6, hm6⟩; have k6 := hm6.mv.keep HKX5.out HNE4.out.1 HNE4.out.2 (by decide); have HT6 := HT5d.out.mv hm6.mv hd6.out; have s2 : w6.cell? ⟨gp, 0, none⟩ = some (.pointer (some ⟨g, 0, none⟩)) ∧ w6.cell? ⟨w.heap.size, 4, none⟩ = some (.slice fa fl fc) := ⟨Blk.cell HT6.pr 0 rfl, k6.cell 4 rfl⟩))
  have HT6' : Hid (Tri w6 base gp g gs gc r gy (.slice none 0 0) D4) := HT6
  have HBw6 : Hid (Below base W1 w6) := HBw5.out.trans hm6.low
  clear hd6 hm6 k6 HT6 s1 s2
  have p0 : w6.cell? ⟨gp, 0, none⟩ = some (.pointer (some ⟨g, 0, none⟩)) := Blk.cell HT6'.out.pr 0 rfl
  go_wp2_with fail
  refine (mark_Open w6 base g gs _ D4 1 3 HT6'.out.dk).mono ?_
  rintro e w7 ⟨ht7, hb7⟩
  rcases ht7.out with ⟨h0, _⟩ | ⟨_, rfl, hc7⟩
  · exact absurd (show mayC D4.sure.length 1 3 by rw [H84.out]; unfold mayC; omega) h0
  have HCS7 : Hid (Cs w7 w6.heap.size g 1 3) := hc7
  have HD7 : Hid (Disk w7 base g gs (.slice none 0 0) D4) := HT6'.out.dk.stay hb7
  have HBw7 : Hid (Below base W1 w7) := HBw6.out.trans (hb7.mono HT6'.out.base)
  have HBS7 : Hid (base ≤ w7.heap.size) := Nat.le_trans HD7.out.bg (Nat.le_of_lt HD7.out.blk.lt)
  clear ht7 hb7 hc7 p0
  have b1 : w7.cell? ⟨w.heap.size, 1, none⟩ = some (.int .i64 di) := (HKX.out.below HBw7.out HXB.out).cell 1 rfl
  obtain ⟨⟨gx, gb⟩, HG4⟩ : ∃ G, Hid (G = getB D4 1 3 di) := ⟨_, rfl⟩
  have HTORN : Hid ((E = 0 → (gx, gb) = (dv, true)) ∧ ((gx, gb) = (wx, wb) ∨ (gx, gb) = (dv, true))) := by
    show _ ∧ _
    have h := put_torn D2 1 3 di dv F HC2.out.1 HC2.out.2.1 HSEC.out (by rw [HC2.out.2.2.1, H8.out]; omega)
    rw [← HE.out, ← HD3.out, ← HD4.out, ← HG4.out, HG2.out] at h
    exact h
  go_wp2_with fail
  refine (cells_Get w7 base g gs _ D4 w6.heap.size 1 3 di HD7.out HCS7.out (by omega) (by omega)).mono ?_
  rw [← HG4.out]
  rintro e w8 ⟨rfl, hb8⟩
  have HBw8 : Hid (Below base W1 w8) := HBw7.out.trans (hb8.mono HBS7.out)
  have HBS8 : Hid (base ≤ w8.heap.size) := Nat.le_trans HBS7.out hb8.size
  clear hb8 b1
  have HFIN : Hid (∀ w9, Below w8.heap.size w8 w9 → Below w.heap.size w w9 ∧ w9.cell? ⟨w.heap.size, 2, none⟩ = some (.int .i64 dv)) := fun w9 hb9 => by
    have h9 : Below base W1 w9 := HBw8.out.trans (hb9.mono HBS8.out)
    exact ⟨HB1.out.trans (h9.mono (by have := HXB.out; omega)), (HKX.out.below h9 HXB.out).cell 2 rfl⟩
  by_cases hE : E = 0
  · have hg := HTORN.out.1 hE
    simp only [Prod.mk.injEq] at hg
    obtain ⟨rfl, rfl⟩ := hg
    subst hE
    go_wp2_with fail
    refine (law_live10 w8).mono ?_
    rintro e w9 ⟨rfl, hb9⟩
    obtain ⟨HB9, c9⟩ := HFIN.out w9 hb9
    have HB9' : Hid (Below w.heap.size w w9) := HB9
    clear hb9 HB9
    go_wp2
    go_ret
    exact ⟨by simp, HB9'.out⟩
  · have hE' : (E == 0) = false := by rw [beq_eq_false_iff_ne]; exact hE
    rcases HTORN.out.2 with hg | hg
    · simp only [Prod.mk.injEq] at hg
      obtain ⟨rfl, rfl⟩ := hg
      go_wp2_with fail
      refine (law_live10 w8).mono ?_
      rintro e w9 ⟨rfl, hb9⟩
      obtain ⟨HB9, c9⟩ := HFIN.out w9 hb9
      have HB9' : Hid (Below w.heap.size w w9) := HB9
      clear hb9 HB9
      go_wp2
      go_ret
      exact ⟨by simp, HB9'.out⟩
    · simp only [Prod.mk.injEq] at hg
      obtain ⟨rfl, rfl⟩ := hg
      by_cases hwx : gx = wx
      · have hwx' : (gx == wx) = true := by rw [beq_iff_eq]; exact hwx
        cases wb <;>
        ( go_wp2_with fail
          refine (law_live10 w8).mono ?_
          rintro e w9 ⟨rfl, hb9⟩
          obtain ⟨HB9, c9⟩ := HFIN.out w9 hb9
          have HB9' : Hid (Below w.heap.size w w9) := HB9
          clear hb9 HB9
          go_wp2
          go_ret
          exact ⟨by simp, HB9'.out⟩ )
      · have hwx' : (gx == wx) = false := by rw [beq_eq_false_iff_ne]; exact hwx
        go_wp2_with fail
        refine (law_live10 w8).mono ?_
        rintro e w9 ⟨rfl, hb9⟩
        obtain ⟨HB9, c9⟩ := HFIN.out w9 hb9
        have HB9' : Hid (Below w.heap.size w w9) := HB9
        clear hb9 HB9
        go_wp2
        go_ret
        exact ⟨by simp, HB9'.out⟩

set_option maxRecDepth 100000 in
theorem contract (H : Type) (enc : TypeId × Value → H) (W : World) (base : Nat) (args : Array Value) (ds gs : List (DataW H)) (before : List MemPlace)
    (hval : ∀ (j : Nat) t v, Try.f3.params[j]? = some t → args[j]? = some v → Value.okWide Try.prog W .any base t v)
    (hW : DataW.Whole enc Try.prog Try.f3.params.toList Rows.markTornSpec.vars false W args.toList ds gs before) (hsz0 : (DataW.weightsEach Try.prog (Try.f3.params.toList ++ Rows.markTornSpec.plain.varTypes Try.prog) (ds ++ gs)).all (· ≤ reachBytes) = true) :
    Calls Try.prog 3 args W fun e W' => ∃ v, e = .returned v ∧ Rows.markTornSpec.post enc Try.prog Try.f3 false true false false W args v W' := by
  have hW' := hW
  obtain ⟨p, q, hA0, hV, rfl, hfz, hnd⟩ := hW
  have hA : DataW.TrodAll enc Try.prog W 0 (fun _ => true) true Try.f3.params.toList args.toList ds p := hA0
  have hK := hA
  have hsz := hsz0
  rw [Try.params3] at hA hval hsz
  obtain ⟨v0, vs0, d0, ds0, p0, q0, hargs, rfl, rfl, h0, r0⟩ := trodAll_cons hA
  obtain ⟨v1, vs1, d1, ds1, p1, q1, rfl, rfl, rfl, h1, r1⟩ := trodAll_cons r0
  obtain ⟨v2, vs2, d2, ds2, p2, q2, rfl, rfl, rfl, h2, r2⟩ := trodAll_cons r1
  obtain ⟨rfl, rfl, rfl⟩ := trodAll_nil r2
  obtain rfl : args = #[v0, v1, v2] := by cases args; simp_all
  obtain ⟨rfl, rfl⟩ := trodVars_none hV
  obtain ⟨x2, rfl, rfl, rfl, w2⟩ := open_int Try.underlying5 (hval 2 5 v2 rfl rfl) h2
  have b2 : (0 : Int) ≤ x2 ∧ x2 ≤ 255 := by simpa [Lit.wf, IntKind.min, IntKind.max, IntKind.signed, IntKind.bits] using w2
  obtain ⟨n2, rfl⟩ := Int.eq_ofNat_of_zero_le b2.1
  have hw0 : ∀ y ∈ DataW.weights Try.prog 22 d0, y ≤ reachBytes := fun y hy => by have := List.all_eq_true.1 hsz _ (DataW.weights_mem_each (j := 0) rfl rfl y hy); simpa using this
  have hw1 : ∀ y ∈ DataW.weights Try.prog 26 d1, y ≤ reachBytes := fun y hy => by have := List.all_eq_true.1 hsz _ (DataW.weights_mem_each (j := 1) rfl rfl y hy); simpa using this
  obtain ⟨a0, len0, cap0, rfl⟩ := okWide_slice Try.underlying22 (hval 0 22 v0 rfl rfl)
  obtain ⟨fu0, hf0⟩ := h0
  obtain ⟨l0, rd0, lc0, cm0⟩ := open_deeds10 hf0 hw0
  obtain ⟨dm1, rfl, ok1⟩ := open_deed10 (hval 1 26 v1 rfl rfl) h1 hw1
  refine (walk a0 len0 cap0 l0 dm1 n2 W rd0 (by unfold maxLen at cm0; omega) ok1 (by omega)).mono fun e W' ⟨he, bel⟩ => ?_
  subst he
  exact ⟨_, rfl, _, _, _, [], _, [], hW', trodAll_mk1 (shut_bool Try.underlying4 _), trodAll_below laidOut bel _ _ _ _ (by kernel_rfl) hK, rfl, bel.frame _, fun h => by cases h⟩

set_option maxRecDepth 100000 in
theorem lifted (os : Os) (started : os.Started) (H : Type) (enc : TypeId × Value → H) :
    ReturnsInHanded {} Try.checked os 3 .any (Rows.markTornSpec.pre6 enc Try.prog Try.f3 Rows.markTornRow.domain false) (Rows.markTornSpec.post enc Try.prog Try.f3 false true false false) := by
  refine returnsInHanded_of_change_sized (C := Try.checked) own started (by kernel_rfl) Try.func3
    (ChangeSpec.witness6 (enc := enc) (C := Try.checked) false ⟨#[], #[.slice none 0 0, .agg #[.int .i64 0, .int .i64 0, .int .i64 0, .slice none 0 0, .slice none 0 0], .int .u8 0], []⟩ 8 (by kernel_rfl) (by kernel_rfl) (by kernel_rfl) (by kernel_rfl)) ?_
  intro W base args ds gs before hval hW _ hsz _
  exact contract H enc W base args ds gs before hval hW hsz

theorem said : Rows.MarkTornSaid :=
  OpenClaim.holds_of_wide 3 Try.f3 rfl rfl rfl rfl rfl rfl rfl ⟨rfl, rfl, rfl, rfl, rfl⟩ rfl rfl rfl rfl rfl (by kernel_rfl) Try.func3 (by kernel_rfl)
    (of_decide_eq_true (by kernel_rfl)) (by unfold Func.isWrapper; first | (rw [if_pos (by decide +kernel)]; kernel_rfl) | (rw [if_neg (by decide +kernel)]; exact ⟨rfl, rfl⟩))
    (fun os started H enc _ => lifted os started H enc)
end markTorn

theorem markTorn_holds : Rows.MarkTornSaid := markTorn.said
end Go.Proofs.Ythpjaidgacenoab

