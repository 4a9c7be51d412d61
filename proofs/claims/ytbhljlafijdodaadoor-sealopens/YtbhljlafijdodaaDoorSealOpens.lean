/- Proved: for every row of bytes and place grapevinelaw01.SealOpens answers true and leaves its arguments as they were. Its condition: the package-level table seal.steps holds what its initialiser lays (the card ties that to the program's text). -/
import Derived.Test.YtbhljlafijdodaaDoorSealRefFine
import Derived.Test.YtbhljlafijdodaaDoorDoor
namespace Go.Proofs.YtbhljlafijdodaaDoor
open Go.ChangeShapes Go.WideShapes Go.ChangeAt Go.RowKit

theorem ref_Open_bad (a : Option Addr) (len cap : Nat) (bs : List Nat) (x : Int) (w : World) (hr : Rd w a len bs) (hlc : len ≤ cap) (hl : len ≤ 9223372036854775000) (hx : (-9223372036854775808 : Int) ≤ x ∧ x ≤ 9223372036854775807) (f : Nat) (hf : openErr bs x = f) (hf0 : f ≠ 0) :
    Calls Tryd.prog 13 #[.slice a len cap, .int .i64 x] w fun e w' => e = toldBad f ∧ Below w.heap.size w w' := by
  have hs := hr.size
  by_cases h1 : x < 0 ∨ (len : Int) < x
  · unfold openErr at hf
    rw [hs, if_pos h1] at hf
    subst hf
    exact ref_Open_arg a len cap x w hx h1
  · obtain ⟨p, rfl⟩ := Int.eq_ofNat_of_zero_le (a := x) (by omega)
    have hp : p ≤ len := by omega
    rw [openErr_nat bs p (by omega)] at hf
    by_cases h2 : p = len
    · subst h2
      have e : bs.drop p = [] := List.drop_of_length_le (by omega)
      rw [e] at hf
      have hf' : f = 3 := hf.symm
      subst hf'
      exact ref_Open_end a p cap w hl
    · obtain ⟨m, rfl⟩ : ∃ m, len = p + m := ⟨len - p, by omega⟩
      obtain ⟨c, rfl⟩ : ∃ c, cap = p + c := ⟨cap - p, by omega⟩
      obtain ⟨b, off, rfl, _, _⟩ : ∃ b off, a = some ⟨b, off, none⟩ ∧ b < w.heap.size ∧ ∀ i, i < p + m → w.cell? ⟨b, off + i, none⟩ = some (.int .u8 ((bs.getD i 0 : Nat) : Int)) := by
        rcases hr.cells with h3 | h3
        · omega
        · exact h3
      rcases hB : SealM.bend (bs.drop p) with ⟨n, f'⟩
      by_cases hf' : f' = 0
      · subst hf'
        have hn := (SealM.bend_ok hB).1
        have hB' : SealM.bend (bs.drop p) = (4 + SealM.blen (bs.drop p), 0) := by rw [hB, hn]
        rw [SealM.opn_of hB] at hf
        have h5 : f = 5 := by
          split at hf
          · omega
          · exact hf.symm
        subst h5
        exact ref_Open_sum b off p m c bs w hr (by omega) (by omega) hl _ rfl hB' (by rw [SealM.opn_of hB]; exact hf)
      · rw [SealM.opn_err hB hf'] at hf
        subst hf
        exact ref_Open_head b off p m c bs w hr (by omega) hl f' (by rw [hB]) hf'

theorem ref_Open_good (a : Option Addr) (len cap : Nat) (bs : List Nat) (p : Nat) (w : World) (hr : Rd w a len bs) (hlc : len ≤ cap) (hl : len ≤ 9223372036854775000) (hok : SealM.opn (bs.drop p) = 0) (k q : Nat) (hk : (bs.drop p).getD 1 0 = k) (hq : SealM.blen (bs.drop p) = q) (B : List Nat) (hB : ((bs.drop p).drop 4).take q = B) :
    Calls Tryd.prog 13 #[.slice a len cap, .int .i64 (p : Int)] w fun e w' => ∃ a' cap', e = .returned (.tuple #[.agg #[.int .u8 (k : Int), .int .i64 (p : Int), .slice a' q cap'], .int .i64 ((p + q + 8 : Nat) : Int), .int .i64 0]) ∧ Own w' w.heap.size a' q cap' B ∧ Below w.heap.size w w' := by
  have hs := hr.size
  subst hB
  rcases hb : SealM.bend (bs.drop p) with ⟨n, f'⟩
  by_cases hf' : f' = 0
  · subst hf'
    obtain ⟨hn, hl0, _, _, _⟩ := SealM.bend_ok hb
    rw [List.length_drop] at hl0
    obtain ⟨m, rfl⟩ : ∃ m, len = p + m := ⟨len - p, by omega⟩
    obtain ⟨c, rfl⟩ : ∃ c, cap = p + c := ⟨cap - p, by omega⟩
    obtain ⟨b, off, rfl, _, _⟩ : ∃ b off, a = some ⟨b, off, none⟩ ∧ b < w.heap.size ∧ ∀ i, i < p + m → w.cell? ⟨b, off + i, none⟩ = some (.int .u8 ((bs.getD i 0 : Nat) : Int)) := by
      rcases hr.cells with h3 | h3
      · omega
      · exact h3
    exact ref_Open_ok b off p m c bs w hr (by omega) (by omega) hl q hq.symm (by rw [hb, hn]) hok k hk
  · rw [SealM.opn_err hb hf'] at hok
    exact absurd hok hf'

set_option maxHeartbeats 1000000 in
theorem ref_Same (k : Nat) (x : Int) (a1 : Option Addr) (l1 c1 : Nat) (a2 : Option Addr) (l2 c2 : Nat) (bs : List Nat) (w : World) (h1 : Rd w a1 l1 bs) (h2 : Rd w a2 l2 bs) :
    Calls Tryd.prog 14 #[.agg #[.int .u8 (k : Int), .int .i64 x, .slice a1 l1 c1], .agg #[.int .u8 (k : Int), .int .i64 x, .slice a2 l2 c2]] w fun e w' => e = .returned (.bool true) ∧ Below w.heap.size w w' := by
  have hb : ∀ o o', Below w.heap.size w ((w.alloc o).alloc o') := fun o o' => ((Below.refl _ _).alloc (Nat.le_refl _) o).alloc (by simp) o'
  have HB : Hid (∀ o o', Below w.heap.size w ((w.alloc o).alloc o')) := hb
  have m1 := fun o o' => conv_rd (h1.below (hb o o')) c1
  have m2 := fun o o' => conv_rd (h2.below (hb o o')) c2
  clear h1 h2 hb
  go_enter Tryd.func14, Tryd.ntmps14
  go_wp2
  go_ret
  exact ⟨by simp, HB.out _ _⟩

namespace sealOpens
theorem nilRd (w : World) : Rd w none 0 [] := ⟨rfl, by simp, .inl rfl⟩

set_option maxRecDepth 100000 in
set_option maxHeartbeats 1000000 in
theorem walk (a : Option Addr) (len cap : Nat) (bs : List Nat) (x : Int) (w : World) (hr : Rd w a len bs) (hlc : len ≤ cap) (hl : len ≤ 140737488355324) (hx : (-9223372036854775808 : Int) ≤ x ∧ x ≤ 9223372036854775807) (ht : Tab w) (h0 : 0 < w.heap.size) :
    Calls Tryd.prog 4 #[.slice a len cap, .int .i64 x] w fun e w' => e = .returned (.bool true) ∧ Below w.heap.size w w' := by
  have HT : Hid (Tab w) := ht
  have HR : Hid (Rd w a len bs) := hr
  have HX : Hid ((-9223372036854775808 : Int) ≤ x ∧ x ≤ 9223372036854775807) := hx
  clear ht
  obtain ⟨f, HF⟩ : ∃ f, Hid (openErr bs x = f) := ⟨_, rfl⟩
  by_cases hf : f = 0
  · obtain ⟨p, rfl⟩ : ∃ p : Nat, x = (p : Int) := by
      refine ⟨x.toNat, ?_⟩
      have h := HF.out
      unfold openErr at h
      by_cases hc : x < 0 ∨ (bs.length : Int) < x
      · rw [if_pos hc] at h; omega
      · omega
    have hp : p ≤ len := by
      have h := HF.out
      have hs := hr.size
      unfold openErr at h
      by_cases hc : (p : Int) < 0 ∨ (bs.length : Int) < (p : Int)
      · rw [if_pos hc] at h; omega
      · omega
    have HOK : Hid (SealM.opn (bs.drop p) = 0) := by
      have h := HF.out
      rw [openErr_nat bs p (by rw [hr.size]; exact hp), hf] at h
      exact h
    obtain ⟨k, HKK⟩ : ∃ k, Hid ((bs.drop p).getD 1 0 = k) := ⟨_, rfl⟩
    obtain ⟨q, HQ⟩ : ∃ q, Hid (SealM.blen (bs.drop p) = q) := ⟨_, rfl⟩
    obtain ⟨B, HBD⟩ : ∃ B, Hid (((bs.drop p).drop 4).take q = B) := ⟨_, rfl⟩
    clear hr hx hf
    go_enter Tryd.func4, Tryd.ntmps4
    go_wp2_with fail
    refine (seal_Open_good a len cap bs p w HR.out hlc (by omega) hp HT.out h0 HOK.out k q HKK.out HQ.out B HBD.out).mono ?_
    rintro e w1 ⟨g, rfl, ho1, hb1⟩
    have HB1 : Hid (Below w.heap.size w w1) := hb1
    have HO1 : Hid (Rd w1 (some ⟨g, 0, none⟩) q B) := ho1.rd
    clear ho1 hb1
    go_wp2_with fail
    have HBA : Hid (Below w1.heap.size w1 (w1.alloc (.cells #[.int .u8 (k : Int), .int .i64 (p : Int), .slice (some ⟨g, 0, none⟩) q q] 29))) := below_alloc w1 _
    have HBA' : Hid (Below w.heap.size w (w1.alloc (.cells #[.int .u8 (k : Int), .int .i64 (p : Int), .slice (some ⟨g, 0, none⟩) q q] 29))) := HB1.out.trans (HBA.out.mono HB1.out.size)
    refine (ref_Open_good a len cap bs p _ (HR.out.below HBA'.out) hlc (by omega) HOK.out k q HKK.out HQ.out B HBD.out).mono ?_
    rintro e w2 ⟨a2, c2, rfl, ho2, hb2⟩
    have k10 : w2.cell? ⟨w1.heap.size, 0, none⟩ = some (.int .u8 (k : Int)) := (hb2.cell (p := ⟨w1.heap.size, 0, none⟩) (by simp)).trans (by simp)
    have k11 : w2.cell? ⟨w1.heap.size, 1, none⟩ = some (.int .i64 (p : Int)) := (hb2.cell (p := ⟨w1.heap.size, 1, none⟩) (by simp)).trans (by simp)
    have k12 : w2.cell? ⟨w1.heap.size, 2, none⟩ = some (.slice (some ⟨g, 0, none⟩) q q) := (hb2.cell (p := ⟨w1.heap.size, 2, none⟩) (by simp)).trans (by simp)
    have HB2 : Hid (Below w.heap.size w w2) := HBA'.out.trans (hb2.mono HBA'.out.size)
    have hs12 : w1.heap.size < w2.heap.size := Nat.lt_of_lt_of_le (by simp) hb2.size
    have HO12 : Hid (Rd w2 (some ⟨g, 0, none⟩) q B) := (HO1.out.below HBA.out).below hb2
    have HO2 : Hid (Rd w2 a2 q B) := ho2.rd
    clear ho2 hb2
    go_wp2_with fail
    have HBC : Hid (Below w2.heap.size w2 (w2.alloc (.cells #[.int .u8 (k : Int), .int .i64 (p : Int), .slice a2 q c2] 29))) := below_alloc w2 _
    have HBC' : Hid (Below w.heap.size w (w2.alloc (.cells #[.int .u8 (k : Int), .int .i64 (p : Int), .slice a2 q c2] 29))) := HB2.out.trans (HBC.out.mono HB2.out.size)
    refine (lives_any _ (HT.out.below h0 HBC'.out) (Nat.lt_of_lt_of_le h0 HBC'.out.size)).mono ?_
    rintro e w3 ⟨rfl, hb3⟩
    have l10 : w3.cell? ⟨w1.heap.size, 0, none⟩ = some (.int .u8 (k : Int)) := ((hb3.cell (p := ⟨w1.heap.size, 0, none⟩) (Nat.lt_trans hs12 (by simp))).trans (HBC.out.cell (p := ⟨w1.heap.size, 0, none⟩) hs12)).trans k10
    have l11 : w3.cell? ⟨w1.heap.size, 1, none⟩ = some (.int .i64 (p : Int)) := ((hb3.cell (p := ⟨w1.heap.size, 1, none⟩) (Nat.lt_trans hs12 (by simp))).trans (HBC.out.cell (p := ⟨w1.heap.size, 1, none⟩) hs12)).trans k11
    have l12 : w3.cell? ⟨w1.heap.size, 2, none⟩ = some (.slice (some ⟨g, 0, none⟩) q q) := ((hb3.cell (p := ⟨w1.heap.size, 2, none⟩) (Nat.lt_trans hs12 (by simp))).trans (HBC.out.cell (p := ⟨w1.heap.size, 2, none⟩) hs12)).trans k12
    have l20 : w3.cell? ⟨w2.heap.size, 0, none⟩ = some (.int .u8 (k : Int)) := (hb3.cell (p := ⟨w2.heap.size, 0, none⟩) (by simp)).trans (by simp)
    have l21 : w3.cell? ⟨w2.heap.size, 1, none⟩ = some (.int .i64 (p : Int)) := (hb3.cell (p := ⟨w2.heap.size, 1, none⟩) (by simp)).trans (by simp)
    have l22 : w3.cell? ⟨w2.heap.size, 2, none⟩ = some (.slice a2 q c2) := (hb3.cell (p := ⟨w2.heap.size, 2, none⟩) (by simp)).trans (by simp)
    have HB3 : Hid (Below w.heap.size w w3) := HBC'.out.trans (hb3.mono HBC'.out.size)
    have HO13 : Hid (Rd w3 (some ⟨g, 0, none⟩) q B) := (HO12.out.below HBC.out).below hb3
    have HO23 : Hid (Rd w3 a2 q B) := (HO2.out.below HBC.out).below hb3
    clear hb3 k10 k11 k12
    go_wp2_with fail
    refine (ref_Same k (p : Int) (some ⟨g, 0, none⟩) q q a2 q c2 B w3 HO13.out HO23.out).mono ?_
    rintro e w4 ⟨rfl, hb4⟩
    have HB4 : Hid (Below w.heap.size w w4) := HB3.out.trans (hb4.mono HB3.out.size)
    clear hb4
    go_wp2
    go_ret
    exact ⟨by simp, HB4.out⟩
  · have HF0 : Hid (f ≠ 0) := hf
    clear hr hx hf
    go_enter Tryd.func4, Tryd.ntmps4
    go_wp2_with fail
    refine (seal_Open_bad a len cap bs x w HR.out hlc (by omega) HX.out HT.out h0 f HF.out HF0.out).mono ?_
    unfold toldBad
    rintro e w1 ⟨rfl, hb1⟩
    have HB1 : Hid (Below w.heap.size w w1) := hb1
    clear hb1
    go_wp2_with fail
    have HBA : Hid (Below w1.heap.size w1 (w1.alloc (.cells #[.int .u8 0, .int .i64 0, .slice none 0 0] 29))) := below_alloc w1 _
    have HBA' : Hid (Below w.heap.size w (w1.alloc (.cells #[.int .u8 0, .int .i64 0, .slice none 0 0] 29))) := HB1.out.trans (HBA.out.mono HB1.out.size)
    refine (ref_Open_bad a len cap bs x _ (HR.out.below HBA'.out) hlc (by omega) HX.out f HF.out HF0.out).mono ?_
    unfold toldBad
    rintro e w2 ⟨rfl, hb2⟩
    have k10 : w2.cell? ⟨w1.heap.size, 0, none⟩ = some (.int .u8 0) := (hb2.cell (p := ⟨w1.heap.size, 0, none⟩) (by simp)).trans (by simp)
    have k11 : w2.cell? ⟨w1.heap.size, 1, none⟩ = some (.int .i64 0) := (hb2.cell (p := ⟨w1.heap.size, 1, none⟩) (by simp)).trans (by simp)
    have k12 : w2.cell? ⟨w1.heap.size, 2, none⟩ = some (.slice none 0 0) := (hb2.cell (p := ⟨w1.heap.size, 2, none⟩) (by simp)).trans (by simp)
    have HB2 : Hid (Below w.heap.size w w2) := HBA'.out.trans (hb2.mono HBA'.out.size)
    have hs12 : w1.heap.size < w2.heap.size := Nat.lt_of_lt_of_le (by simp) hb2.size
    clear hb2
    go_wp2_with fail
    have HBC : Hid (Below w2.heap.size w2 (w2.alloc (.cells #[.int .u8 0, .int .i64 0, .slice none 0 0] 29))) := below_alloc w2 _
    have HBC' : Hid (Below w.heap.size w (w2.alloc (.cells #[.int .u8 0, .int .i64 0, .slice none 0 0] 29))) := HB2.out.trans (HBC.out.mono HB2.out.size)
    refine (lives_any _ (HT.out.below h0 HBC'.out) (Nat.lt_of_lt_of_le h0 HBC'.out.size)).mono ?_
    rintro e w3 ⟨rfl, hb3⟩
    have l10 : w3.cell? ⟨w1.heap.size, 0, none⟩ = some (.int .u8 0) := ((hb3.cell (p := ⟨w1.heap.size, 0, none⟩) (Nat.lt_trans hs12 (by simp))).trans (HBC.out.cell (p := ⟨w1.heap.size, 0, none⟩) hs12)).trans k10
    have l11 : w3.cell? ⟨w1.heap.size, 1, none⟩ = some (.int .i64 0) := ((hb3.cell (p := ⟨w1.heap.size, 1, none⟩) (Nat.lt_trans hs12 (by simp))).trans (HBC.out.cell (p := ⟨w1.heap.size, 1, none⟩) hs12)).trans k11
    have l12 : w3.cell? ⟨w1.heap.size, 2, none⟩ = some (.slice none 0 0) := ((hb3.cell (p := ⟨w1.heap.size, 2, none⟩) (Nat.lt_trans hs12 (by simp))).trans (HBC.out.cell (p := ⟨w1.heap.size, 2, none⟩) hs12)).trans k12
    have l20 : w3.cell? ⟨w2.heap.size, 0, none⟩ = some (.int .u8 0) := (hb3.cell (p := ⟨w2.heap.size, 0, none⟩) (by simp)).trans (by simp)
    have l21 : w3.cell? ⟨w2.heap.size, 1, none⟩ = some (.int .i64 0) := (hb3.cell (p := ⟨w2.heap.size, 1, none⟩) (by simp)).trans (by simp)
    have l22 : w3.cell? ⟨w2.heap.size, 2, none⟩ = some (.slice none 0 0) := (hb3.cell (p := ⟨w2.heap.size, 2, none⟩) (by simp)).trans (by simp)
    have HB3 : Hid (Below w.heap.size w w3) := HBC'.out.trans (hb3.mono HBC'.out.size)
    clear hb3 k10 k11 k12
    go_wp2_with fail
    refine (ref_Same 0 0 none 0 0 none 0 0 [] w3 (nilRd w3) (nilRd w3)).mono ?_
    rintro e w4 ⟨rfl, hb4⟩
    have HB4 : Hid (Below w.heap.size w w4) := HB3.out.trans (hb4.mono HB3.out.size)
    clear hb4
    go_wp2
    go_ret
    exact ⟨by simp, HB4.out⟩

theorem contract (H : Type) (enc : TypeId × Value → H) (W : World) (base : Nat) (args : Array Value) (ds gs : List (DataW H)) (before : List MemPlace)
    (hval : ∀ (j : Nat) t v, Tryd.f4.params[j]? = some t → args[j]? = some v → Value.okWide Tryd.prog W .any base t v)
    (hW : DataW.Whole enc Tryd.prog Tryd.f4.params.toList Rows.sealOpensSpec.vars false W args.toList ds gs before) (hL : laidMetH Tryd.prog [("grapevine/seal.steps", Rows.laid_grapevine_seal_steps)] W) (hsz0 : (DataW.weightsEach Tryd.prog (Tryd.f4.params.toList ++ Rows.sealOpensSpec.plain.varTypes Tryd.prog) (ds ++ gs)).all (· ≤ reachBytes) = true) :
    Calls Tryd.prog 4 args W fun e W' => ∃ v, e = .returned v ∧ Rows.sealOpensSpec.post enc Tryd.prog Tryd.f4 false true false false W args v W' := by
  have hW' := hW
  obtain ⟨p, q, hA0, hV, rfl, hfz, hnd⟩ := hW
  have hA : DataW.TrodAll enc Tryd.prog W 0 (fun _ => true) true Tryd.f4.params.toList args.toList ds p := hA0
  have hK := hA
  have hsz := hsz0
  rw [Tryd.params4] at hA hval hsz
  obtain ⟨v0, vs0, d0, ds0, p0, q0, hargs, rfl, rfl, h0, r0⟩ := trodAll_cons hA
  obtain ⟨v1, vs1, d1, ds1, p1, q1, rfl, rfl, rfl, h1, r1⟩ := trodAll_cons r0
  obtain ⟨rfl, rfl, rfl⟩ := trodAll_nil r1
  obtain rfl : args = #[v0, v1] := by cases args; simp_all
  obtain ⟨rfl, rfl⟩ := trodVars_none hV
  obtain ⟨a0, len0, cap0, rfl⟩ := okWide_slice Tryd.underlying22 (hval 0 22 v0 rfl rfl)
  obtain ⟨bs0, rd0, lc0, cm0, bk0, nc0, fm0⟩ := rd_of h0
  have sz0 := reach_of hsz (j := 0) fm0 rfl rfl
  obtain ⟨x1, rfl, rfl, rfl, w1⟩ := open_int Tryd.underlying3 (hval 1 3 v1 rfl rfl) h1
  have b1 : (-9223372036854775808 : Int) ≤ x1 ∧ x1 ≤ 9223372036854775807 := by simpa [Lit.wf, IntKind.min, IntKind.max, IntKind.signed, IntKind.bits] using w1
  have ht := table hL
  have hz : 0 < W.heap.size := World.block_lt_of_cell? W _ (ht 0 (by omega))
  refine (walk a0 len0 cap0 bs0 x1 W rd0 lc0 (by omega) b1 ht hz).mono fun e W' ⟨he, bel⟩ => ?_
  subst he
  exact ⟨_, rfl, _, _, _, [], _, [], hW', trodAll_mk1 (shut_bool Tryd.underlying4 _), trodAll_below laidOut bel _ _ _ _ (by kernel_rfl) hK, rfl, bel.frame _, fun h => by cases h⟩

theorem laid_met (os : Os) : laidMet Tryd.prog Rows.sealOpensRow.laid ((layTab (World.holding Tryd.prog os ⟨#[], #[], []⟩)).forCall (fun _ _ => 0) ⟨#[], #[.slice none 0 0, .int .i64 0], []⟩).memory :=
  laidMet_of_run' 8 (by kernel_rfl) (by kernel_rfl)
theorem reads (os : Os) {H : Type} (enc : TypeId × Value → H) : ∃ places, DataW.whole enc Tryd.prog ((layTab (World.holding Tryd.prog os ⟨#[], #[], []⟩)).forCall (fun _ _ => 0) ⟨#[], #[.slice none 0 0, .int .i64 0], []⟩).memory Tryd.f4.params.toList Rows.sealOpensSpec.vars false (#[.slice none 0 0, .int .i64 0] : Array Value).toList 8 = some ([.nil, .lit (.int .i64 0)], [], places) :=
  ⟨[], by kernel_rfl⟩

set_option maxRecDepth 100000 in
theorem lifted (os : Os) (started : os.Started) (H : Type) (enc : TypeId × Value → H) (F : Stop.Interp) :
    ReturnsInHanded {} Tryd.checked os 4 .any ((OpenSpec.ofChange Rows.sealOpensSpec).preRow enc Tryd.prog Tryd.f4 Rows.sealOpensRow.domain false Rows.sealOpensRow.laid) (((OpenSpec.ofChange Rows.sealOpensSpec).at F).post enc Tryd.prog Tryd.f4 false true false false) := by
  obtain ⟨places, hx⟩ := reads os enc
  refine returnsInHanded_of_row (C := Tryd.checked) (s := OpenSpec.ofChange Rows.sealOpensSpec) own started (by kernel_rfl) Tryd.func4
    (witness_row_at (enc := enc) (C := Tryd.checked) false (layTab (World.holding Tryd.prog os ⟨#[], #[], []⟩)) #[.slice none 0 0, .int .i64 0] rfl (by kernel_rfl) (by kernel_rfl) (by kernel_rfl)
      (OpenSpec.preRow_of_cond 8 hx (by kernel_rfl) (fun k hk => by cases hk) (by kernel_rfl) (laid_met os))) ?_
  intro W base args ds gs before hval hW _ _ hsz hL _ _
  exact contract H enc W base args ds gs before hval hW hL hsz

theorem said : Rows.SealOpensSaid :=
  OpenClaim.holds_of_cond 4 Tryd.f4 rfl rfl rfl rfl rfl rfl rfl ⟨rfl, rfl, rfl, rfl, rfl⟩ rfl rfl rfl rfl rfl (by kernel_rfl) Tryd.func4 (by kernel_rfl)
    (of_decide_eq_true (by kernel_rfl)) (by unfold Func.isWrapper; first | (rw [if_pos (by decide +kernel)]; kernel_rfl) | (rw [if_neg (by decide +kernel)]; exact ⟨rfl, rfl⟩))
    (fun os started H enc _ F => by rw [OpenClaim.pre_eq_preRow]; exact lifted os started H enc F)

theorem plain (f : FuncId) (fn : Func) (hf : Tryd.pinned.checked.prog.funcNamed "grapevine/grapevinelaw01.SealOpens" = some f) (hfn : Tryd.pinned.checked.prog.funcs[f]? = some fn) :
    false = Tryd.pinned.checked.prog.looks [] ∧ ∀ (j : Nat) t, fn.params[j]? = some t → Tryd.pinned.checked.prog.wantsStandIn t = false := by
  obtain rfl : f = 4 := Option.some.inj ((show Tryd.prog.funcNamed "grapevine/grapevinelaw01.SealOpens" = some 4 by kernel_rfl).symm.trans hf) |>.symm
  obtain rfl : fn = Tryd.f4 := (Option.some.inj (Tryd.func4.symm.trans hfn)).symm
  refine ⟨by kernel_rfl, fun j t ht => ?_⟩
  rw [Tryd.params4] at ht
  have hall : ∀ t ∈ (#[22, 3] : Array TypeId), Tryd.prog.wantsStandIn t = false := by
    intro t ht
    simp at ht
    rcases ht with rfl | rfl
    · exact (show Tryd.prog.wantsStandIn 22 = false by kernel_rfl)
    · exact (show Tryd.prog.wantsStandIn 3 = false by kernel_rfl)
  exact hall t (Array.mem_of_getElem? ht)

theorem card : Rows.SealOpensCardSaid :=
  Claim7.holds_tied_plain_at .later [] _ _ _ _ said (fun _ h => by cases h) (by kernel_rfl) (fun _ h => by cases h) sealOpens_row_tie rfl ⟨rfl, rfl⟩ (by kernel_rfl) rfl plain (by kernel_rfl)
end sealOpens

theorem sealOpens_holds : Rows.SealOpensCardSaid := sealOpens.card
end Go.Proofs.YtbhljlafijdodaaDoor

