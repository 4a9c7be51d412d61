/- A Put that is OK lasts, whatever is put in other cells behind it, and whatever chance does to that: every script, cell and value, deeds behind, and fates. No condition. -/
import Derived.Test.YthpjaidgacenoabMkTri
import Derived.Test.YthpjaidgacenoabMkOneDeed
namespace Go.Proofs.Ythpjaidgacenoab
open Go.ChangeShapes Go.WideShapes Go.ChangeAt Go.RowKit

namespace markLasts
/-- How far the deeds behind left the cell alone. -/
structure Left (D2 E : Dk) (i : Nat) (n : Nat) : Prop where
  a : Still E (1 + 2 * i) D2.sure.length (D2.sure.getD (1 + 2 * i) [])
  b : Still E (1 + 2 * i + 1) D2.sure.length (D2.sure.getD (1 + 2 * i + 1) [])
  wl : E.waits.length ≤ n
  ag : E.age ≤ 202 + n
theorem Left.next {D2 E : Dk} {i n : Nat} (h : Left D2 E i n) : Left D2 E i (n + 1) := ⟨h.a, h.b, by have := h.wl; omega, by have := h.ag; omega⟩
theorem Left.put {D2 E : Dk} {n : Nat} {di qi : Int} (h : Left D2 E di.toNat n) (h0 : 0 ≤ di) (hne : qi ≠ di) (qv : Int) : Left D2 (putCD E 1 3 qi qv) di.toNat (n + 1) := by
  have hg := put_grew E 1 3 qi qv
  refine ⟨h.a.put 1 3 qi qv (fun hc x x0 x1 => by omega), h.b.put 1 3 qi qv (fun hc x x0 x1 => by omega), by have := h.wl; omega, by have := h.ag; omega⟩
theorem Left.trip {D2 E : Dk} {n i : Nat} (h : Left D2 E i n) (v : Int) : Left D2 (tripD E v) i (n + 1) := by
  have hg := trip_grew E v
  exact ⟨h.a.trip v, h.b.trip v, by have := h.wl; have := hg.wl; omega, by have := h.ag; have := hg.ag; omega⟩
theorem Left.crash {D2 E : Dk} {n i : Nat} (h : Left D2 E i n) (F : List Int) : Left D2 (crashD E F) i (n + 1) := by
  have hg := crash_grew E F
  exact ⟨h.a.crash F, h.b.crash F, by have := h.wl; have := hg.wl; omega, by have := h.ag; have := hg.ag; omega⟩
theorem Left.start (D1 : Dk) (di dv : Int) (h : putCE D1 1 3 di dv = 0) (ha : D1.age ≤ 201) : Left (putCD D1 1 3 di dv) (putCD D1 1 3 di dv) di.toNat 0 := by
  obtain ⟨w1, _⟩ := put_up D1 1 3 di dv h
  have hg := put_grew D1 1 3 di dv
  exact ⟨⟨rfl, fun p hp => (by rw [w1] at hp; cases hp), rfl⟩, ⟨rfl, fun p hp => (by rw [w1] at hp; cases hp), rfl⟩, by rw [w1]; exact Nat.le_refl _, by omega⟩

set_option maxRecDepth 100000 in
set_option maxHeartbeats 8000000 in
theorem walk (a : Option Addr) (len cap : Nat) (l : List Dm) (d : Dm) (a2 : Option Addr) (len2 cap2 : Nat) (l2 : List Dm) (w : World) (hl : DmsRd w a len l) (hlb : len ≤ 9223372036854775807) (hd : DmOk w d) (hl2 : DmsRd w a2 len2 l2) (hlb2 : len2 ≤ 9223372036854775807) :
    Calls Try.prog 4 #[.slice a len cap, .agg #[.int .i64 d.kind, .int .i64 d.i_, .int .i64 d.v_, .slice d.ba d.bl d.bc, .slice d.fa d.fl d.fc], .slice a2 len2 cap2] w fun e w' => e = .returned (.bool true) ∧ Below w.heap.size w w' := by
  obtain ⟨dk, di, dv, ba, bl, bc, bs, fa, fl, fc, F⟩ := d
  simp only
  obtain ⟨W1, HW1⟩ : ∃ W1, Hid (W1 = w.alloc (.cells #[.int .i64 dk, .int .i64 di, .int .i64 dv, .slice ba bl bc, .slice fa fl fc] 26)) := ⟨_, rfl⟩
  have HB1 : Hid (Below w.heap.size w W1) := by show Below _ _ _; rw [HW1.out]; exact below_alloc _ _
  have HKX : Hid (Blk W1 w.heap.size #[.int .i64 dk, .int .i64 di, .int .i64 dv, .slice ba bl bc, .slice fa fl fc] 26) := by show Blk _ _ _ _; rw [HW1.out]; exact Blk.new _ _ _
  have HL : Hid (DmsRd W1 a len l) := hl.below HB1.out
  have HMS : Hid (DmsRd W1 a2 len2 l2) := hl2.below HB1.out
  have HFT : Hid (FtRd W1 fa fl F) := hd.ft.below HB1.out
  have HFL : Hid (fl ≤ 9223372036854775000) := hd.fb
  obtain ⟨base, hbase⟩ : ∃ base, base = W1.heap.size := ⟨_, rfl⟩
  have HBASE : Hid (base = W1.heap.size) := hbase
  have HXB : Hid (w.heap.size < base) := by show _ < _; rw [hbase]; exact HKX.out.lt
  clear hl hd hl2 hbase
  go_enter Try.func4, Try.ntmps4
  go_wp2_with fail
  rw [← HW1.out]
  refine (m_play W1 a len cap l HL.out hlb).mono ?_
  rintro e w1 ⟨ht, hb1⟩
  obtain ⟨gp, g, gs, r, D, rfl, hf, hwl, hag⟩ := ht.out
  obtain ⟨gc, gy, q, wv, sv, rv, SV, WV, hq⟩ := hf
  rw [← HBASE.out] at hq hb1
  have HT1 : Hid (Tri w1 base gp g gs gc r gy wv D) := hq.tri
  have HBw1 : Hid (Below base W1 w1) := hb1
  have HAG : Hid (D.age ≤ 200) := hag
  clear ht hq hb1 hwl hag
  have p0 : w1.cell? ⟨gp, 0, none⟩ = some (.pointer (some ⟨g, 0, none⟩)) := Blk.cell HT1.out.pr 0 rfl
  obtain ⟨D1, HD1⟩ : ∃ D1, Hid (D1 = crashD D []) := ⟨_, rfl⟩
  go_wp2_with fail
  refine (disk_CrashC w1 base g gs wv D none 0 0 [] HT1.out.dk (fun _ _ => ⟨rfl, .inl rfl⟩) (fun _ _ h => (by cases h)) (by omega) (by have := HAG.out; omega)).mono ?_
  rw [← HD1.out]
  rintro e w2 ⟨rfl, hd2, hm2⟩
  have HT2 : Hid (Tri w2 base gp g gs gc r gy (.slice none 0 0) D1) := HT1.out.mv hm2.mv hd2.out
  have HBw2 : Hid (Below base W1 w2.drew) := (HBw1.out.trans hm2.low).drew
  have HC1 : Hid (D1.waits = []) := by show _ = _; rw [HD1.out]; exact (crashed D).2.1
  have HA1 : Hid (D1.age ≤ 201) := by show _ ≤ _; rw [HD1.out]; show D.age + 1 ≤ 201; have := HAG.out; omega
  clear hd2 hm2 p0
  have HT2d : Hid (Tri w2.drew base gp g gs gc r gy (.slice none 0 0) D1) := HT2.out.stay (Below.refl _ _).drew
  have HKX2 : Hid (Blk w2.drew w.heap.size #[.int .i64 dk, .int .i64 di, .int .i64 dv, .slice ba bl bc, .slice fa fl fc] 26) := HKX.out.below HBw2.out HXB.out
  have s1 : w2.drew.cell? ⟨gp, 1, none⟩ = some (.pointer (some ⟨gc, 0, none⟩)) ∧ w2.drew.cell? ⟨w.heap.size, 1, none⟩ = some (.int .i64 di) ∧ w2.drew.cell? ⟨w.heap.size, 2, none⟩ = some (.int .i64 dv) := ⟨Blk.cell HT2d.out.pr 1 rfl, HKX2.out.cell 1 rfl, HKX2.out.cell 2 rfl⟩
  have HNE : Hid (w.heap.size ≠ g ∧ w.heap.size ≠ gs) := HT2d.out.ne HKX2.out (by decide) (by decide)
  obtain ⟨E, HE⟩ : ∃ E, Hid (E = putCE D1 1 3 di dv) := ⟨_, rfl⟩
  obtain ⟨D2, HD2⟩ : ∃ D2, Hid (D2 = putCD D1 1 3 di dv) := ⟨_, rfl⟩
  have HWL1 : Hid (D1.waits.length < 1000000000) := by show _ < _; rw [HC1.out]; decide
  by_cases hE : E = 0
  · have HPUT : Hid (putCE D1 1 3 di dv = 0) := by show _ = _; rw [← HE.out]; exact hE
    have hdi : 0 ≤ di := (get_put D1 1 3 di dv HPUT.out).1.1.1
    have HSTAY : Hid (∀ (E' : Dk) (n : Nat), Left D2 E' di.toNat n → getB (crashD E' F) 1 3 di = (dv, true)) := fun E' n h => by
      have h0 := h.a
      have h1 := h.b
      rw [HD2.out] at h0 h1
      exact get_stays D1 E' 1 3 di dv F HPUT.out h0 h1
    have HST : Hid (Left D2 D2 di.toNat 0) := by
      show Left _ _ _ _
      rw [HD2.out]
      exact Left.start D1 di dv HPUT.out HA1.out
    subst hE
    go_wp2
    go_region_held3 (fun w' => w'.cell? ⟨gp, 1, none⟩ = some (.pointer (some ⟨gc, 0, none⟩)) ∧ w'.cell? ⟨w.heap.size, 1, none⟩ = some (.int .i64 di) ∧ w'.cell? ⟨w.heap.size, 2, none⟩ = some (.int .i64 dv)) (first | exact s1 | exact s2 | fail)
      (first | (go_at_call 9; refine (cells_Put _ base g gs _ D1 gc 1 3 di dv HT2d.out.dk HT2d.out.cs (by omega) (by omega) HWL1.out).mono ?_; rw [← HE.out, ← HD2.out]; rintro e w3 ⟨rfl, hd3, hm3⟩; have k3 := hm3.keep HKX2.out HNE.out.1 HNE.out.2 (by decide); have ht3 := HT2d.out.mv hm3 hd3.out.choose_spec; have s2 : w3.cell? ⟨gp, 1, none⟩ = some (.pointer (some ⟨gc, 0, none⟩)) ∧ w3.cell? ⟨w.heap.size, 1, none⟩ = some (.int .i64 di) ∧ w3.cell? ⟨w.heap.size, 2, none⟩ = some (.int .i64 dv) := ⟨Blk.cell ht3.pr 1 rfl, k3.cell 1 rfl, k3.cell 2 rfl⟩))
    have HT3' : Hid (∃ wv3, Tri w3 base gp g gs gc r gy wv3 D2) := ⟨_, ht3⟩
    have HBw3 : Hid (Below base W1 w3) := HBw2.out.trans hm3.low
    clear ht3 hd3 hm3 k3 s1 s2
    obtain ⟨wv3, HT3⟩ : ∃ wv3, Hid (Tri w3 base gp g gs gc r gy wv3 D2) := HT3'.out
    clear HT3'
    go_wp2
    go_loopw [9] (fun t9 wr => ∃ (i : Nat) (E' : Dk) (wv5 : Value), i ≤ len2 ∧ i ≤ 100 ∧ t9 = .int .i64 (i : Int) ∧ Hid (Tri wr base gp g gs gc r gy wv5 E') ∧ Hid (Left D2 E' di.toNat i) ∧ Hid (Below base W1 wr)) (fun t9 _ => len2 - (intOf t9).toNat)
    case atStart => exact ⟨0, D2, wv3, by omega, by omega, rfl, HT3, HST, HBw3⟩
    case round =>
      obtain ⟨i, E', wv5, hi, hi1, rfl, HTr, HLF, HBr⟩ := hrel
      by_cases hgo : i < len2 ∧ i < 100
      · obtain ⟨hlt, h100⟩ := hgo
        have hlt' : (i : Int) < (len2 : Int) := by omega
        have h100' : (i : Int) < 100 := by omega
        have hi0 : (0 : Int) ≤ (i : Int) := by omega
        obtain ⟨gl, o, rfl, hgl, q, hq, hok, x0, x1, x2, x3, x4⟩ := HMS.out.spot i hlt
        have HGL : Hid (gl < base) := by show _ < _; rw [HBASE.out]; exact hgl
        obtain ⟨qk, qi, qv, qba, qbl, qbc, qbs, qfa, qfl, qfc, qF⟩ := q
        simp only at x0 x1 x2 x3 x4
        have HOK : Hid (DmOk W1 ⟨qk, qi, qv, qba, qbl, qbc, qbs, qfa, qfl, qfc, qF⟩) := hok
        have HX : Hid (∀ w', Below base W1 w' → w'.cell? ⟨gl, o + i * 5, none⟩ = some (.int .i64 qk) ∧ w'.cell? ⟨gl, o + i * 5 + 1, none⟩ = some (.int .i64 qi) ∧ w'.cell? ⟨gl, o + i * 5 + 2, none⟩ = some (.int .i64 qv) ∧ w'.cell? ⟨gl, o + i * 5 + 4, none⟩ = some (.slice qfa qfl qfc) ∧ w'.cell? ⟨w.heap.size, 1, none⟩ = some (.int .i64 di)) := fun w' hb => ⟨(hb.cell (p := ⟨gl, o + i * 5, none⟩) HGL.out).trans x0, (hb.cell (p := ⟨gl, o + i * 5 + 1, none⟩) HGL.out).trans x1, (hb.cell (p := ⟨gl, o + i * 5 + 2, none⟩) HGL.out).trans x2, (hb.cell (p := ⟨gl, o + i * 5 + 4, none⟩) HGL.out).trans x4, (HKX.out.below hb HXB.out).cell 1 rfl⟩
        clear hq hok hgl x0 x1 x2 x3 x4
        obtain ⟨c0, c1, c2, c4, b1⟩ := HX.out wr HBr.out
        clear c2 c4
        by_cases hk0 : qk = 0
        · subst hk0
          by_cases hqi : qi = di
          · subst hqi
            go_wp2
            go_quiet (fail)
            generalize hnq : World.drewN _ _ = wq
            have HBq : Hid (Below wr.heap.size wr wq) := by show Below _ _ _; rw [← hnq]; exact below_drews (Below.refl _ _) _
            clear hnq
            have HBq' : Hid (Below base W1 wq) := HBr.out.trans (HBq.out.mono HTr.out.base)
            have HTq : Hid (Tri wq base gp g gs gc r gy wv5 E') := HTr.out.stay HBq.out
            clear c0 c1 b1
            obtain ⟨c0, _⟩ := HX.out wq HBq'.out
            go_wp2
            go_roundw
            case rel => exact ⟨i + 1, E', wv5, by omega, by omega, by go_num, HTq, HLF.out.next, HBq'⟩
            case measure => simp [intOf]; omega
          · have hqi' : (qi == di) = false := by rw [beq_eq_false_iff_ne]; exact hqi
            have HNQ : Hid (qi ≠ di) := hqi
            go_wp2
            go_quiet (fail)
            generalize hnq : World.drewN _ _ = wq
            have HBq : Hid (Below wr.heap.size wr wq) := by show Below _ _ _; rw [← hnq]; exact below_drews (Below.refl _ _) _
            clear hnq
            have HBq' : Hid (Below base W1 wq.drew) := (HBr.out.trans (HBq.out.mono HTr.out.base)).drew
            have HTq : Hid (Tri wq.drew base gp g gs gc r gy wv5 E') := HTr.out.stay HBq.out.drew
            clear c0 c1 b1
            have s1 : wq.drew.cell? ⟨gp, 1, none⟩ = some (.pointer (some ⟨gc, 0, none⟩)) ∧ wq.drew.cell? ⟨gl, o + i * 5 + 1, none⟩ = some (.int .i64 qi) ∧ wq.drew.cell? ⟨gl, o + i * 5 + 2, none⟩ = some (.int .i64 qv) := ⟨Blk.cell HTq.out.pr 1 rfl, (HX.out _ HBq'.out).2.1, (HX.out _ HBq'.out).2.2.1⟩
            have HWLq : Hid (E'.waits.length < 1000000000) := by show _ < _; have := HLF.out.wl; omega
            have HLF' : Hid (Left D2 (putCD E' 1 3 qi qv) di.toNat (i + 1)) := HLF.out.put hdi HNQ.out qv
            go_wp2
            go_region_held3 (fun w' => w'.cell? ⟨gp, 1, none⟩ = some (.pointer (some ⟨gc, 0, none⟩)) ∧ w'.cell? ⟨gl, o + i * 5 + 1, none⟩ = some (.int .i64 qi) ∧ w'.cell? ⟨gl, o + i * 5 + 2, none⟩ = some (.int .i64 qv)) (first | exact s1 | exact s2 | fail)
              (first | (go_at_call 9; refine (cells_Put _ base g gs _ E' gc 1 3 qi qv HTq.out.dk HTq.out.cs (by omega) (by omega) HWLq.out).mono ?_; rintro e w6 ⟨rfl, hd6, hm6⟩; have ht6 := HTq.out.mv hm6 hd6.out.choose_spec; have HB6 : Hid (Below base W1 w6) := HBq'.out.trans hm6.low; have s2 : w6.cell? ⟨gp, 1, none⟩ = some (.pointer (some ⟨gc, 0, none⟩)) ∧ w6.cell? ⟨gl, o + i * 5 + 1, none⟩ = some (.int .i64 qi) ∧ w6.cell? ⟨gl, o + i * 5 + 2, none⟩ = some (.int .i64 qv) := ⟨Blk.cell ht6.pr 1 rfl, (HX.out _ HB6.out).2.1, (HX.out _ HB6.out).2.2.1⟩))
            have HT6x : Hid (∃ wv6, Tri w6 base gp g gs gc r gy wv6 (putCD E' 1 3 qi qv)) := ⟨_, ht6⟩
            clear ht6 hd6 hm6 s1 s2
            obtain ⟨wv6, HT6'⟩ : ∃ wv6, Hid (Tri w6 base gp g gs gc r gy wv6 (putCD E' 1 3 qi qv)) := HT6x.out
            clear HT6x
            go_wp2
            go_roundw
            case rel => exact ⟨i + 1, _, _, by omega, by omega, by go_num, HT6', HLF', HB6⟩
            case measure => simp [intOf]; omega
        · have hk0' : (qk == 0) = false := by rw [beq_eq_false_iff_ne]; exact hk0
          by_cases hk3 : qk = 3
          · subst hk3
            go_wp2
            go_quiet (fail)
            generalize hnq : World.drewN _ _ = wq
            have HBq : Hid (Below wr.heap.size wr wq) := by show Below _ _ _; rw [← hnq]; exact below_drews (Below.refl _ _) _
            clear hnq
            have HBq0 : Hid (Below base W1 wq) := HBr.out.trans (HBq.out.mono HTr.out.base)
            have HBq' : Hid (Below base W1 wq.drew) := HBq0.out.drew
            have HTq : Hid (Tri wq.drew base gp g gs gc r gy wv5 E') := HTr.out.stay HBq.out.drew
            clear c0 c1 b1
            obtain ⟨c0, _⟩ := HX.out wq HBq0.out
            have s1 : wq.drew.cell? ⟨gp, 0, none⟩ = some (.pointer (some ⟨g, 0, none⟩)) ∧ wq.drew.cell? ⟨gl, o + i * 5 + 2, none⟩ = some (.int .i64 qv) := ⟨Blk.cell HTq.out.pr 0 rfl, (HX.out _ HBq'.out).2.2.1⟩
            have HLF' : Hid (Left D2 (tripD E' qv) di.toNat (i + 1)) := HLF.out.trip qv
            go_wp2
            go_region_held3 (fun w' => w'.cell? ⟨gp, 0, none⟩ = some (.pointer (some ⟨g, 0, none⟩)) ∧ w'.cell? ⟨gl, o + i * 5 + 2, none⟩ = some (.int .i64 qv)) (first | exact s1 | exact s2 | fail)
              (first | (go_at_call 8; refine (disk_Trip _ base g gs _ E' qv HTq.out.dk HOK.out.v1).mono ?_; rintro e w6 ⟨rfl, hd6, hm6⟩; have ht6 := HTq.out.mv hm6 hd6.out; have HB6 : Hid (Below base W1 w6) := HBq'.out.trans hm6.low; have s2 : w6.cell? ⟨gp, 0, none⟩ = some (.pointer (some ⟨g, 0, none⟩)) ∧ w6.cell? ⟨gl, o + i * 5 + 2, none⟩ = some (.int .i64 qv) := ⟨Blk.cell ht6.pr 0 rfl, (HX.out _ HB6.out).2.2.1⟩))
            have HT6' : Hid (Tri w6 base gp g gs gc r gy _ (tripD E' qv)) := ht6
            clear ht6 hd6 hm6 s1 s2
            clear c0
            go_wp2
            go_roundw
            case rel => exact ⟨i + 1, _, _, by omega, by omega, by go_num, HT6', HLF', HB6⟩
            case measure => simp [intOf]; omega
          · have hk3' : (qk == 3) = false := by rw [beq_eq_false_iff_ne]; exact hk3
            by_cases hk4 : qk = 4
            · subst hk4
              go_wp2
              go_quiet (fail)
              generalize hnq : World.drewN _ _ = wq
              have HBq : Hid (Below wr.heap.size wr wq) := by show Below _ _ _; rw [← hnq]; exact below_drews (Below.refl _ _) _
              clear hnq
              have HBq0 : Hid (Below base W1 wq) := HBr.out.trans (HBq.out.mono HTr.out.base)
              have HBq' : Hid (Below base W1 wq.drew) := HBq0.out.drew
              have HTq : Hid (Tri wq.drew base gp g gs gc r gy wv5 E') := HTr.out.stay HBq.out.drew
              clear c0 c1 b1
              obtain ⟨c0, _⟩ := HX.out wq HBq0.out
              have s1 : wq.drew.cell? ⟨gp, 0, none⟩ = some (.pointer (some ⟨g, 0, none⟩)) ∧ wq.drew.cell? ⟨gl, o + i * 5 + 4, none⟩ = some (.slice qfa qfl qfc) := ⟨Blk.cell HTq.out.pr 0 rfl, (HX.out _ HBq'.out).2.2.2.1⟩
              have HLF' : Hid (Left D2 (crashD E' qF) di.toNat (i + 1)) := HLF.out.crash qF
              have HFQ : Hid (∀ b off, qfa = some ⟨b, off, none⟩ → 0 < qfl → b ≠ gs) := HOK.out.ft.apart HTq.out.dk (by rw [HBASE.out]; exact Nat.le_refl _)
              go_wp2
              go_region_held3 (fun w' => w'.cell? ⟨gp, 0, none⟩ = some (.pointer (some ⟨g, 0, none⟩)) ∧ w'.cell? ⟨gl, o + i * 5 + 4, none⟩ = some (.slice qfa qfl qfc)) (first | exact s1 | exact s2 | fail)
                (first | (go_at_call 6; refine (disk_CrashC _ base g gs wv5 E' qfa qfl qfc qF HTq.out.dk (fun w' hm => HOK.out.ft.below (by rw [← HBASE.out]; exact HBq'.out.trans hm.low)) HFQ.out HOK.out.fb (by have := HLF.out.ag; omega)).mono ?_; rintro e w6 ⟨rfl, hd6, hm6⟩; have ht6 := HTq.out.mv hm6.mv hd6.out; have HB6 : Hid (Below base W1 w6) := HBq'.out.trans hm6.low; have s2 : w6.cell? ⟨gp, 0, none⟩ = some (.pointer (some ⟨g, 0, none⟩)) ∧ w6.cell? ⟨gl, o + i * 5 + 4, none⟩ = some (.slice qfa qfl qfc) := ⟨Blk.cell ht6.pr 0 rfl, (HX.out _ HB6.out).2.2.2.1⟩))
              have HT6' : Hid (Tri w6 base gp g gs gc r gy _ (crashD E' qF)) := ht6
              clear ht6 hd6 hm6 s1 s2
              clear c0
              go_wp2
              go_roundw
              case rel => exact ⟨i + 1, _, _, by omega, by omega, by go_num, HT6', HLF', HB6⟩
              case measure => simp [intOf]; omega
            · have hk4' : (qk == 4) = false := by rw [beq_eq_false_iff_ne]; exact hk4
              go_wp2
              go_quiet (fail)
              generalize hnq : World.drewN _ _ = wq
              have HBq : Hid (Below wr.heap.size wr wq) := by show Below _ _ _; rw [← hnq]; exact below_drews (Below.refl _ _) _
              clear hnq
              have HBq' : Hid (Below base W1 wq) := HBr.out.trans (HBq.out.mono HTr.out.base)
              have HTq : Hid (Tri wq base gp g gs gc r gy wv5 E') := HTr.out.stay HBq.out
              clear c0 c1 b1
              obtain ⟨c0, _⟩ := HX.out wq HBq'.out
              go_wp2
              go_roundw
              case rel => exact ⟨i + 1, E', wv5, by omega, by omega, by go_num, HTq, HLF.out.next, HBq'⟩
              case measure => simp [intOf]; omega
      · have hcase : (¬ (i : Int) < (len2 : Int)) ∨ ((i : Int) < (len2 : Int) ∧ ¬ (i : Int) < 100) := by omega
        have HBq' : Hid (Below base W1 wr.drew) := HBr.out.drew
        have HTq : Hid (Tri wr.drew base gp g gs gc r gy wv5 E') := HTr.out.stay (Below.refl _ _).drew
        have HKq : Hid (Blk wr.drew w.heap.size #[.int .i64 dk, .int .i64 di, .int .i64 dv, .slice ba bl bc, .slice fa fl fc] 26) := HKX.out.below HBq'.out HXB.out
        have s1 : wr.drew.cell? ⟨gp, 0, none⟩ = some (.pointer (some ⟨g, 0, none⟩)) ∧ wr.drew.cell? ⟨w.heap.size, 4, none⟩ = some (.slice fa fl fc) := ⟨Blk.cell HTq.out.pr 0 rfl, HKq.out.cell 4 rfl⟩
        have HFB : Hid (∀ b off, fa = some ⟨b, off, none⟩ → 0 < fl → b ≠ gs) := HFT.out.apart HTq.out.dk (by rw [HBASE.out]; exact Nat.le_refl _)
        obtain ⟨D6, HD6⟩ : ∃ D6, Hid (D6 = crashD E' F) := ⟨_, rfl⟩
        have HG6 : Hid (getB D6 1 3 di = (dv, true)) := by show _ = _; rw [HD6.out]; exact HSTAY.out E' i HLF.out
        have HAGE : Hid (E'.age < 1000000000) := by show _ < _; have := HLF.out.ag; omega
        clear hgo
        rcases hcase with hc | ⟨hc, hc2⟩ <;>
        ( go_wp2
          go_region_held3 (fun w' => w'.cell? ⟨gp, 0, none⟩ = some (.pointer (some ⟨g, 0, none⟩)) ∧ w'.cell? ⟨w.heap.size, 4, none⟩ = some (.slice fa fl fc)) (first | exact s1 | exact s2 | fail)
            (first | (go_at_call 6; refine (disk_CrashC _ base g gs wv5 E' fa fl fc F HTq.out.dk (fun w' hm => HFT.out.below (by rw [← HBASE.out]; exact HBq'.out.trans hm.low)) HFB.out HFL.out HAGE.out).mono ?_; rw [← HD6.out]; rintro e w6 ⟨rfl, hd6, hm6⟩; have ht6 := HTq.out.mv hm6.mv hd6.out; have HB6 : Hid (Below base W1 w6) := HBq'.out.trans hm6.low; have s2 : w6.cell? ⟨gp, 0, none⟩ = some (.pointer (some ⟨g, 0, none⟩)) ∧ w6.cell? ⟨w.heap.size, 4, none⟩ = some (.slice fa fl fc) := ⟨Blk.cell ht6.pr 0 rfl, (HKX.out.below HB6.out HXB.out).cell 4 rfl⟩))
          have HT6d : Hid (Tri w6.drew base gp g gs gc r gy (.slice none 0 0) D6) := ht6.stay (Below.refl _ _).drew
          have HB6d : Hid (Below base W1 w6.drew) := HB6.out.drew
          clear ht6 hd6 hm6 s1 s2
          have s1 : w6.drew.cell? ⟨gp, 1, none⟩ = some (.pointer (some ⟨gc, 0, none⟩)) ∧ w6.drew.cell? ⟨w.heap.size, 1, none⟩ = some (.int .i64 di) := ⟨Blk.cell HT6d.out.pr 1 rfl, (HKX.out.below HB6d.out HXB.out).cell 1 rfl⟩
          go_wp2
          go_region_held3 (fun w' => w'.cell? ⟨gp, 1, none⟩ = some (.pointer (some ⟨gc, 0, none⟩)) ∧ w'.cell? ⟨w.heap.size, 1, none⟩ = some (.int .i64 di)) (first | exact s1 | exact s2 | fail)
            (first | (go_at_call 7; refine (cells_Get _ base g gs _ D6 gc 1 3 di HT6d.out.dk HT6d.out.cs (by omega) (by omega)).mono ?_; rw [HG6.out]; rintro e w7 ⟨rfl, hb7⟩; have HB7 : Hid (Below base W1 w7) := HB6d.out.trans (hb7.mono HT6d.out.base); have HT7 : Hid (Tri w7 base gp g gs gc r gy (.slice none 0 0) D6) := HT6d.out.stay hb7; have s2 : w7.cell? ⟨gp, 1, none⟩ = some (.pointer (some ⟨gc, 0, none⟩)) ∧ w7.cell? ⟨w.heap.size, 1, none⟩ = some (.int .i64 di) := ⟨Blk.cell HT7.out.pr 1 rfl, (HKX.out.below HB7.out HXB.out).cell 1 rfl⟩))
          clear hb7 s1 s2
          have HBS7 : Hid (base ≤ w7.heap.size) := HT7.out.base
          go_wp2_with fail
          refine (law_live10 w7).mono ?_
          rintro e w8 ⟨rfl, hb8⟩
          have HB8 : Hid (Below base W1 w8) := HB7.out.trans (hb8.mono HBS7.out)
          have c2 : w8.cell? ⟨w.heap.size, 2, none⟩ = some (.int .i64 dv) := (HKX.out.below HB8.out HXB.out).cell 2 rfl
          have HFIN : Hid (Below w.heap.size w w8) := HB1.out.trans (HB8.out.mono (by have := HXB.out; omega))
          clear hb8
          go_wp2
          go_ret
          exact ⟨by simp, HFIN.out⟩ )
  · have hE' : (E == 0) = false := by rw [beq_eq_false_iff_ne]; exact hE
    go_wp2
    go_region_held3 (fun w' => w'.cell? ⟨gp, 1, none⟩ = some (.pointer (some ⟨gc, 0, none⟩)) ∧ w'.cell? ⟨w.heap.size, 1, none⟩ = some (.int .i64 di) ∧ w'.cell? ⟨w.heap.size, 2, none⟩ = some (.int .i64 dv)) (first | exact s1 | exact s2 | fail)
      (first | (go_at_call 9; refine (cells_Put _ base g gs _ D1 gc 1 3 di dv HT2d.out.dk HT2d.out.cs (by omega) (by omega) HWL1.out).mono ?_; rw [← HE.out, ← HD2.out]; rintro e w3 ⟨rfl, hd3, hm3⟩; have k3 := hm3.keep HKX2.out HNE.out.1 HNE.out.2 (by decide); have ht3 := HT2d.out.mv hm3 hd3.out.choose_spec; have s2 : w3.cell? ⟨gp, 1, none⟩ = some (.pointer (some ⟨gc, 0, none⟩)) ∧ w3.cell? ⟨w.heap.size, 1, none⟩ = some (.int .i64 di) ∧ w3.cell? ⟨w.heap.size, 2, none⟩ = some (.int .i64 dv) := ⟨Blk.cell ht3.pr 1 rfl, k3.cell 1 rfl, k3.cell 2 rfl⟩))
    have HBw3 : Hid (Below base W1 w3) := HBw2.out.trans hm3.low
    have HBS3 : Hid (base ≤ w3.heap.size) := ht3.base
    clear ht3 hd3 hm3 k3 s1 s2
    go_wp2_with fail
    refine (law_live10 w3).mono ?_
    rintro e w8 ⟨rfl, hb8⟩
    have HB8 : Hid (Below base W1 w8) := HBw3.out.trans (hb8.mono HBS3.out)
    have HFIN : Hid (Below w.heap.size w w8) := HB1.out.trans (HB8.out.mono (by have := HXB.out; omega))
    clear hb8
    go_wp2
    go_ret
    exact ⟨rfl, HFIN.out⟩

set_option maxRecDepth 100000 in
theorem contract (H : Type) (enc : TypeId × Value → H) (W : World) (base : Nat) (args : Array Value) (ds gs : List (DataW H)) (before : List MemPlace)
    (hval : ∀ (j : Nat) t v, Try.f4.params[j]? = some t → args[j]? = some v → Value.okWide Try.prog W .any base t v)
    (hW : DataW.Whole enc Try.prog Try.f4.params.toList Rows.markLastsSpec.vars false W args.toList ds gs before) (hsz0 : (DataW.weightsEach Try.prog (Try.f4.params.toList ++ Rows.markLastsSpec.plain.varTypes Try.prog) (ds ++ gs)).all (· ≤ reachBytes) = true) :
    Calls Try.prog 4 args W fun e W' => ∃ v, e = .returned v ∧ Rows.markLastsSpec.post enc Try.prog Try.f4 false true false false W args v W' := by
  have hW' := hW
  obtain ⟨p, q, hA0, hV, rfl, hfz, hnd⟩ := hW
  have hA : DataW.TrodAll enc Try.prog W 0 (fun _ => true) true Try.f4.params.toList args.toList ds p := hA0
  have hK := hA
  have hsz := hsz0
  rw [Try.params4] at hA hval hsz
  obtain ⟨v0, vs0, d0, ds0, p0, q0, hargs, rfl, rfl, h0, r0⟩ := trodAll_cons hA
  obtain ⟨v1, vs1, d1, ds1, p1, q1, rfl, rfl, rfl, h1, r1⟩ := trodAll_cons r0
  obtain ⟨v2, vs2, d2, ds2, p2, q2, rfl, rfl, rfl, h2, r2⟩ := trodAll_cons r1
  obtain ⟨rfl, rfl, rfl⟩ := trodAll_nil r2
  obtain rfl : args = #[v0, v1, v2] := by cases args; simp_all
  obtain ⟨rfl, rfl⟩ := trodVars_none hV
  have hw0 : ∀ y ∈ DataW.weights Try.prog 22 d0, y ≤ reachBytes := fun y hy => by have := List.all_eq_true.1 hsz _ (DataW.weights_mem_each (j := 0) rfl rfl y hy); simpa using this
  have hw1 : ∀ y ∈ DataW.weights Try.prog 26 d1, y ≤ reachBytes := fun y hy => by have := List.all_eq_true.1 hsz _ (DataW.weights_mem_each (j := 1) rfl rfl y hy); simpa using this
  have hw2 : ∀ y ∈ DataW.weights Try.prog 22 d2, y ≤ reachBytes := fun y hy => by have := List.all_eq_true.1 hsz _ (DataW.weights_mem_each (j := 2) rfl rfl y hy); simpa using this
  obtain ⟨a0, len0, cap0, rfl⟩ := okWide_slice Try.underlying22 (hval 0 22 v0 rfl rfl)
  obtain ⟨a2, len2, cap2, rfl⟩ := okWide_slice Try.underlying22 (hval 2 22 v2 rfl rfl)
  obtain ⟨fu0, hf0⟩ := h0
  obtain ⟨l0, rd0, lc0, cm0⟩ := open_deeds10 hf0 hw0
  obtain ⟨dm1, rfl, ok1⟩ := open_deed10 (hval 1 26 v1 rfl rfl) h1 hw1
  obtain ⟨fu2, hf2⟩ := h2
  obtain ⟨l2, rd2, lc2, cm2⟩ := open_deeds10 hf2 hw2
  refine (walk a0 len0 cap0 l0 dm1 a2 len2 cap2 l2 W rd0 (by unfold maxLen at cm0; omega) ok1 rd2 (by unfold maxLen at cm2; omega)).mono fun e W' ⟨he, bel⟩ => ?_
  subst he
  exact ⟨_, rfl, _, _, _, [], _, [], hW', trodAll_mk1 (shut_bool Try.underlying4 _), trodAll_below laidOut bel _ _ _ _ (by kernel_rfl) hK, rfl, bel.frame _, fun h => by cases h⟩

set_option maxRecDepth 100000 in
theorem lifted (os : Os) (started : os.Started) (H : Type) (enc : TypeId × Value → H) :
    ReturnsInHanded {} Try.checked os 4 .any (Rows.markLastsSpec.pre6 enc Try.prog Try.f4 Rows.markLastsRow.domain false) (Rows.markLastsSpec.post enc Try.prog Try.f4 false true false false) := by
  refine returnsInHanded_of_change_sized (C := Try.checked) own started (by kernel_rfl) Try.func4
    (ChangeSpec.witness6 (enc := enc) (C := Try.checked) false ⟨#[], #[.slice none 0 0, .agg #[.int .i64 0, .int .i64 0, .int .i64 0, .slice none 0 0, .slice none 0 0], .slice none 0 0], []⟩ 8 (by kernel_rfl) (by kernel_rfl) (by kernel_rfl) (by kernel_rfl)) ?_
  intro W base args ds gs before hval hW _ hsz _
  exact contract H enc W base args ds gs before hval hW hsz

theorem said : Rows.MarkLastsSaid :=
  OpenClaim.holds_of_wide 4 Try.f4 rfl rfl rfl rfl rfl rfl rfl ⟨rfl, rfl, rfl, rfl, rfl⟩ rfl rfl rfl rfl rfl (by kernel_rfl) Try.func4 (by kernel_rfl)
    (of_decide_eq_true (by kernel_rfl)) (by unfold Func.isWrapper; first | (rw [if_pos (by decide +kernel)]; kernel_rfl) | (rw [if_neg (by decide +kernel)]; exact ⟨rfl, rfl⟩))
    (fun os started H enc _ => lifted os started H enc)
end markLasts

theorem markLasts_holds : Rows.MarkLastsSaid := markLasts.said
end Go.Proofs.Ythpjaidgacenoab

