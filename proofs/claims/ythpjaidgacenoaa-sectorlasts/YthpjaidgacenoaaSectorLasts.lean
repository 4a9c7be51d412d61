/- What was synced lasts, whatever is written elsewhere, and whatever chance does to it: every script, sector, bytes, writes behind, and fates. No condition. -/
import Derived.Test.YthpjaidgacenoaaSecPlay
import Derived.Test.YthpjaidgacenoaaSecLastM
import Derived.Lib.SmallJoins
namespace Go.Proofs.Ythpjaidgacenoaa
open Go.ChangeShapes Go.WideShapes Go.ChangeAt Go.RowKit Go.Joins

namespace sectorLasts
set_option maxRecDepth 100000 in
theorem law_zero (w : World) (a : Option Addr) (n c : Nat) (bs : List Nat) (hr : Rd w a n bs) (hz : ∀ x ∈ bs, x = 0) (hn : n ≤ 64) :
    Calls Try.prog 16 #[.slice a n c] w fun e w' => e = .returned (.bool true) ∧ w' = w := by
  have HR : Hid (Rd w a n bs) := hr
  have HZ : Hid (∀ x ∈ bs, x = 0) := hz
  clear hr hz
  go_enter Try.func16, Try.ntmps16
  go_wp2
  go_loopw [3] (fun t3 wr => ∃ (i : Nat), i ≤ n ∧ t3 = .int .i64 (i : Int) ∧ wr = w) (fun t3 _ => n - (intOf t3).toNat)
  case atStart => exact ⟨0, Nat.zero_le _, rfl, rfl⟩
  case round =>
    obtain ⟨i, hi, rfl, rfl⟩ := hrel
    by_cases hlt : i < n
    · have hlt' : (i : Int) < (n : Int) := by omega
      have hi0 : (0 : Int) ≤ (i : Int) := by omega
      obtain ⟨b, off, rfl, ci⟩ : ∃ b off, a = some ⟨b, off, none⟩ ∧ wr.cell? ⟨b, off + i, none⟩ = some (.int .u8 0) := by
        rcases HR.out.cells with h0 | ⟨b, off, h1, _, h3⟩
        · omega
        · refine ⟨b, off, h1, ?_⟩
          rw [h3 i hlt]
          have hl : i < bs.length := by rw [HR.out.size]; exact hlt
          have e : bs.getD i 0 = 0 := by
            rw [List.getD_eq_getElem?_getD, List.getElem?_eq_getElem hl]
            exact HZ.out _ (List.getElem_mem hl)
          rw [e]
          rfl
      go_wp2
      go_roundw
      case rel => exact ⟨i + 1, by omega, by go_num, by trivial⟩
      case measure => simp [intOf]; omega
    · go_wp2
      go_ret
      exact ⟨rfl, rfl⟩

/-- Nothing waits for a sector, and the disk does not trip. -/
structure Calm (D : Dk) (v : Nat) (S : List (List Nat)) : Prop where
  down : D.down = false
  trip : D.trip = 0
  sure : D.sure = S
  far : ∀ p ∈ D.waits, p.1 ≠ v
theorem Calm.write {D : Dk} {v : Nat} {S : List (List Nat)} (h : Calm D v S) {i : Int} (hi : ¬ i = (v : Int)) (bs : List Nat) : Calm (writeD D i bs) v S := by
  have ht : tripsD D = D := by unfold tripsD; rw [if_pos h.trip]
  unfold writeD
  split
  · exact h
  split
  · exact h
  rename_i hh
  split
  · exact h
  split
  · rw [ht]; exact h
  · rw [ht]
    refine ⟨h.down, h.trip, h.sure, fun p hp => ?_⟩
    rcases List.mem_append.1 hp with hp | hp
    · exact h.far p hp
    · simp only [List.mem_singleton] at hp
      subst hp
      have hb : hasB D i = true := by simpa using hh
      have := (hasB_iff D i).1 hb
      show i.toNat ≠ v
      omega
theorem write_calm (S : List (List Nat)) (ag v : Nat) (bs : List Nat) (hv : v < S.length) (hl : bs.length ≤ 64) :
    writeE ⟨S, [], 0, false, ag⟩ (v : Int) bs = 0 ∧ writeD ⟨S, [], 0, false, ag⟩ (v : Int) bs = ⟨S, [(v, padS bs)], 0, false, ag⟩ := by
  have hh : hasB ⟨S, [], 0, false, ag⟩ (v : Int) = true := by rw [hasB_iff]; exact ⟨by omega, by simpa using hv⟩
  unfold writeE writeD
  rw [hh]
  simp [tripsB, tripsD, Nat.not_lt.2 hl]
theorem write_long (S : List (List Nat)) (ag v : Nat) (bs : List Nat) (hv : v < S.length) (hl : 64 < bs.length) : writeE ⟨S, [], 0, false, ag⟩ (v : Int) bs = 6 := by
  have hh : hasB ⟨S, [], 0, false, ag⟩ (v : Int) = true := by rw [hasB_iff]; exact ⟨by omega, by simpa using hv⟩
  unfold writeE
  rw [hh]
  simp [hl]
theorem sync_calm (S : List (List Nat)) (ag v : Nat) (s : List Nat) : syncE ⟨S, [(v, s)], 0, false, ag⟩ = 0 ∧ syncD ⟨S, [(v, s)], 0, false, ag⟩ = ⟨S.set v s, [], 0, false, ag⟩ := ⟨rfl, rfl⟩

set_option maxRecDepth 10000 in
theorem open_behind {H : Type} {enc : TypeId × Value → H} {W : World} {base : Nat} {v : Value} {d : DataW H} {p : List MemPlace} (hv : Value.okWide Try.prog W .any base 33 v)
    (h : DataW.Trod enc Try.prog W 0 (fun _ => true) true 33 v d p) (hw : ∀ y ∈ DataW.weights Try.prog 33 d, y ≤ reachBytes) :
    ∃ at_ da dl dc l fa fl fc F, v = .agg #[.int .i64 at_, .slice da dl dc, .slice fa fl fc] ∧ DqsRd W da dl l ∧ dl ≤ 9223372036854775807 ∧ FtRd W fa fl F ∧ fl ≤ 9223372036854775000 := by
  obtain ⟨u0, u1, u2, y0, y1, y2, n, rfl, rfl, rfl, h0, h1, h2⟩ := open_agg3 Try.underlying33 (by kernel_rfl) (by kernel_rfl) hv h
  obtain ⟨q0, r0, _, s0⟩ := DataW.trod_int Try.underlying3 h0
  obtain ⟨fa, fl, fc, F, r2, hft, hfg⟩ := fates_cell h2
  have hw1 : ∀ y ∈ DataW.weights Try.prog 22 y1.1, y ≤ reachBytes := fun y hy => hw y (by
    simp only [DataW.weights, Try.underlying33]
    simp only [List.map_cons, List.map_nil, DataW.weightsEach, List.mem_append]
    exact .inr (.inl hy))
  obtain ⟨da, dl, dc, rfl⟩ : ∃ da dl dc, u1 = .slice da dl dc := by
    rcases Go.Deep.open_slice Try.underlying22 h1 with ⟨hcs, _⟩ | ⟨x, l, c, m, n', D, Pl, hcs, _⟩
    · exact ⟨_, _, _, by simpa using hcs⟩
    · exact ⟨_, _, _, by simpa using hcs⟩
  obtain ⟨l, hl, hlc, hlm⟩ := open_deeds2 h1 hw1
  have e0 : u0 = .int .i64 q0 := by simpa using r0
  subst e0 r2
  refine ⟨q0, da, dl, dc, l, fa, fl, fc, F, rfl, hl, by unfold maxLen at hlm; omega, hft, ?_⟩
  rcases hfg with ⟨_, h3, _⟩ | ⟨els, sp, h3, h4, h5⟩
  · omega
  · have h6 := hw ((els.length + sp.length) * 8) (by
      simp only [DataW.weights, Try.underlying33]
      simp only [List.map_cons, List.map_nil, DataW.weightsEach, h3, List.mem_append]
      refine .inr (.inr (.inl ?_))
      simp [DataW.weights, Try.underlying31, bytesInt])
    simp only [reachBytes] at h6
    omega

set_option maxRecDepth 100000 in
set_option maxHeartbeats 4000000 in
theorem walk (a : Option Addr) (len cap : Nat) (l : List Dq) (ba : Option Addr) (bl bc : Nat) (bs : List Nat) (at_ : Int) (da : Option Addr) (dl dc : Nat) (ds : List Dq) (fa : Option Addr) (fl fc : Nat) (F : List Int) (w : World)
    (hl : DqsRd w a len l) (hlb : len ≤ 9223372036854775807) (hb : Rd w ba bl bs) (hbb : bl ≤ 140737488351232) (hds : DqsRd w da dl ds) (hdl : dl ≤ 9223372036854775807) (hf : FtRd w fa fl F) (hfl : fl ≤ 9223372036854775000) :
    Calls Try.prog 4 #[.slice a len cap, .slice ba bl bc, .agg #[.int .i64 at_, .slice da dl dc, .slice fa fl fc]] w fun e w' => e = .returned (.bool true) ∧ Below w.heap.size w w' := by
  obtain ⟨W1, HW1⟩ : ∃ W1, Hid (W1 = w.alloc (.cells #[.int .i64 at_, .slice da dl dc, .slice fa fl fc] 33)) := ⟨_, rfl⟩
  have HB1 : Hid (Below w.heap.size w W1) := by show Below _ _ _; rw [HW1.out]; exact below_alloc _ _
  have HKX : Hid (Blk W1 w.heap.size #[.int .i64 at_, .slice da dl dc, .slice fa fl fc] 33) := by show Blk _ _ _ _; rw [HW1.out]; exact Blk.new _ _ _
  have HL : Hid (DqsRd W1 a len l) := hl.below HB1.out
  have HRB : Hid (Rd W1 ba bl bs) := hb.below HB1.out
  have HDS : Hid (DqsRd W1 da dl ds) := hds.below HB1.out
  have HFT : Hid (FtRd W1 fa fl F) := hf.below HB1.out
  have HBY : Hid (∀ x ∈ bs, x < 256) := hb.byte
  have HBL : Hid (bs.length = bl) := hb.size
  obtain ⟨u, hu⟩ : ∃ u : Nat, u = (at_ % 18446744073709551616).toNat := ⟨_, rfl⟩
  have y1 : IntKind.u64.wrap at_ = (u : Int) := by rw [IntKind.wrap_u64, hu]; omega
  obtain ⟨v, hv⟩ : ∃ v : Nat, v = u % 8 := ⟨_, rfl⟩
  have y2 : (u : Int) % 8 = (v : Int) := by omega
  have hv8 : v < 8 := by omega
  have y3 : IntKind.i64.wrap (v : Int) = (v : Int) := by rw [IntKind.wrap_i64]; omega
  have hul : u < 18446744073709551616 := by omega
  clear hu hv hl hb hds hf
  obtain ⟨base, hbase⟩ : ∃ base, base = W1.heap.size := ⟨_, rfl⟩
  have HBASE : Hid (base = W1.heap.size) := hbase
  have HXB : Hid (w.heap.size < base) := by show _ < _; rw [hbase]; exact HKX.out.lt
  clear hbase
  go_enter Try.func4, Try.ntmps4
  go_wp2_with fail
  rw [← HW1.out]
  refine (law_play W1 7 a len cap l HL.out hlb).mono ?_
  rintro e w1 ⟨ht, hb1⟩
  obtain ⟨g, gs, r, D, rfl, hbo, hwl, hag, hsl⟩ := ht.out
  obtain ⟨wv, _, _, _, _, _, hd, _, _⟩ := hbo
  rw [← HBASE.out] at hd hb1
  have HD1 : Hid (Disk w1 base g gs wv D) := hd
  have HBw1 : Hid (Below base W1 w1) := hb1
  have HSL : Hid (D.sure.length = 8) := by show _ = _; rw [hsl]; decide
  have HAG : Hid (D.age ≤ 300) := hag
  clear ht hd hb1 hwl hag hsl
  go_wp2_with fail
  refine (disk_Crash w1 base g gs wv D none 0 0 [] HD1.out (fun _ _ => ⟨rfl, .inl rfl⟩) (by simp) (by omega) (by have := HAG.out; omega)).mono ?_
  rw [crashD, crash_none]
  obtain ⟨S, hS⟩ : ∃ S, S = D.sure := ⟨_, rfl⟩
  obtain ⟨ag, hAg⟩ : ∃ ag, ag = D.age + 1 := ⟨_, rfl⟩
  rw [← hS] at HSL
  have HAG2 : Hid (ag ≤ 301) := by show _ ≤ _; have := HAG.out; omega
  rw [← hS, ← hAg]
  clear hS hAg HAG
  rintro e w2 ⟨rfl, hd2, hm2⟩
  have HD2 : Hid (Disk w2 base g gs (.slice none 0 0) ⟨S, [], 0, false, ag⟩) := hd2.out
  have HBw2 : Hid (Below base W1 w2) := HBw1.out.trans hm2.low
  have HSE : Hid (∀ s ∈ S, Sec s) := hd2.out.sec
  clear hd2 hm2
  have e0 : w2.cell? ⟨w.heap.size, 0, none⟩ = some (.int .i64 at_) := (HKX.out.below HBw2.out HXB.out).cell 0 rfl
  have HRB2 : Hid (∀ w', Mv w2 w' base g gs → Rd w' ba bl bs) := fun w' hm => HRB.out.below (by rw [← HBASE.out]; exact HBw2.out.trans hm.low)
  by_cases h64 : 64 < bl
  · have HWE : Hid (writeE ⟨S, [], 0, false, ag⟩ (v : Int) bs = 6) := write_long S ag v bs (by rw [HSL.out]; exact hv8) (by rw [HBL.out]; exact h64)
    have h64' : (64 : Int) < (bl : Int) := by omega
    go_wp2_with fail
    refine (disk_Write w2 base g gs (.slice none 0 0) ⟨S, [], 0, false, ag⟩ (v : Int) ba bl bc bs HD2.out HRB2.out (by omega) (by show (0 : Nat) < _; omega)).mono ?_
    rw [HWE.out]
    rintro e w3 ⟨rfl, _, hm3⟩
    have HBw3 : Hid (Below base W1 w3) := HBw2.out.trans hm3.low
    clear hm3 e0
    go_wp2_with fail
    refine (law_live w3).mono ?_
    rintro e w4 ⟨rfl, hb4⟩
    have HF : Hid (Below w.heap.size w w4) := HB1.out.trans ((HBw3.out.trans (hb4.mono (by have := HBw3.out.size; have := HBASE.out; omega))).mono (by have := HXB.out; omega))
    clear hb4
    go_wp2
    go_ret
    exact ⟨rfl, HF.out⟩
  · have hlen : bs.length ≤ 64 := by rw [HBL.out]; omega
    have HWE : Hid (writeE ⟨S, [], 0, false, ag⟩ (v : Int) bs = 0 ∧ writeD ⟨S, [], 0, false, ag⟩ (v : Int) bs = ⟨S, [(v, padS bs)], 0, false, ag⟩) := write_calm S ag v bs (by rw [HSL.out]; exact hv8) hlen
    go_wp2_with fail
    refine (disk_Write w2 base g gs (.slice none 0 0) ⟨S, [], 0, false, ag⟩ (v : Int) ba bl bc bs HD2.out HRB2.out (by omega) (by show (0 : Nat) < _; omega)).mono ?_
    rw [HWE.out.1, HWE.out.2]
    rintro e w3 ⟨rfl, hd3, hm3⟩
    obtain ⟨wv3, hd3⟩ := hd3.out
    have HD3 : Hid (Disk w3 base g gs wv3 ⟨S, [(v, padS bs)], 0, false, ag⟩) := hd3
    have HBw3 : Hid (Below base W1 w3) := HBw2.out.trans hm3.low
    clear hm3 e0 hd3
    go_wp2_with fail
    refine (disk_Sync w3 base g gs wv3 ⟨S, [(v, padS bs)], 0, false, ag⟩ HD3.out).mono ?_
    rw [(sync_calm S ag v (padS bs)).1, (sync_calm S ag v (padS bs)).2]
    rintro e w4 ⟨rfl, hd4, hm4⟩
    obtain ⟨wv4, hd4⟩ := hd4.out
    obtain ⟨S4, hS4⟩ : ∃ S4, S4 = S.set v (padS bs) := ⟨_, rfl⟩
    rw [← hS4] at hd4
    have HS4 : Hid (S4 = S.set v (padS bs)) := hS4
    have HD4 : Hid (Disk w4 base g gs wv4 ⟨S4, [], 0, false, ag⟩) := hd4
    have HBw4 : Hid (Below base W1 w4) := HBw3.out.trans hm4.low
    clear hm4 hd4 hS4
    go_wp2
    go_loopw [11] (fun t11 wr => ∃ (i : Nat) (E : Dk) (wv5 : Value), i ≤ dl ∧ i ≤ 100 ∧ t11 = .int .i64 (i : Int) ∧ Hid (Disk wr base g gs wv5 E) ∧ Hid (Calm E v S4 ∧ E.waits.length ≤ i ∧ E.age ≤ 301 + i) ∧ Hid (Below base W1 wr)) (fun t11 _ => dl - (intOf t11).toNat)
    case atStart => exact ⟨0, ⟨S4, [], 0, false, ag⟩, wv4, by omega, by omega, rfl, HD4, ⟨⟨rfl, rfl, rfl, fun p hp => (by cases hp)⟩, Nat.le_refl _, HAG2.out⟩, HBw4⟩
    case round =>
      obtain ⟨i, E, wv5, hi, hi1, rfl, HDr, HC, HBr⟩ := hrel
      have k1 : wr.cell? ⟨w.heap.size, 1, none⟩ = some (.slice da dl dc) := (HKX.out.below HBr.out HXB.out).cell 1 rfl
      have HQ : Hid (decide (i < dl) = true ∧ decide (i < 100) = true ∨ ¬ (i < dl ∧ i < 100)) := by
        by_cases h1 : i < dl
        · by_cases h2 : i < 100
          · exact .inl ⟨by simpa using h1, by simpa using h2⟩
          · exact .inr (fun h => h2 h.2)
        · exact .inr (fun h => h1 h.1)
      by_cases hgo : i < dl ∧ i < 100
      · obtain ⟨hlt, h100⟩ := hgo
        have hlt' : (i : Int) < (dl : Int) := by omega
        have h100' : (i : Int) < 100 := by omega
        have hi0 : (0 : Int) ≤ (i : Int) := by omega
        have HBwr : Hid (Below W1.heap.size W1 wr) := by show Below _ _ _; rw [← HBASE.out]; exact HBr.out
        obtain ⟨gl, o, rfl, hgl, d, hd, hok, x0, x1, x2, x3⟩ := (HDS.out.below HBwr.out).spot i hlt
        have HLd : Hid (ds[i]? = some d) := hd
        clear x3 hd hok
        by_cases hk0 : d.kind = 0
        · by_cases hatv : d.at_ = (v : Int)
          · rw [hk0] at x0
            rw [hatv] at x1
            clear hatv hk0
            go_wp2
            go_roundw
            case rel => exact ⟨i + 1, E, wv5, by omega, by omega, by go_num, HDr, ⟨HC.out.1, by have := HC.out.2.1; omega, by have := HC.out.2.2; omega⟩, HBr⟩
            case measure => simp [intOf]; omega
          · rw [hk0] at x0
            have hdq : ∀ w', Below base wr w' → DqOk w' d := fun w' hb' => (HDS.out.each d (List.mem_of_getElem? HLd.out)).below (by rw [← HBASE.out]; exact HBr.out.trans hb')
            have HDQ : Hid (∀ w', Below base wr.drew w' → DqOk w' d) := fun w' hb' => hdq w' ((Below.refl base wr).drew.trans hb')
            obtain ⟨dk, dat, dba, dbl, dbc, dbs, dfa, dfl, dfc, dF⟩ := d
            simp only at x0 x1 x2 hatv hk0 HDQ
            have hdb : dbl ≤ 140737488351232 := (HDQ.out wr.drew (Below.refl _ _)).bb
            have HDd : Hid (Disk wr.drew base g gs wv5 E) := HDr.out.stay (Below.refl _ _).drew
            have z1 : wr.drew.cell? ⟨w.heap.size, 1, none⟩ = some (.slice (some ⟨gl, o, none⟩) dl dc) := k1
            have z2 : wr.drew.cell? ⟨gl, o + i * 4 + 1, none⟩ = some (.int .i64 dat) := x1
            have z3 : wr.drew.cell? ⟨gl, o + i * 4 + 2, none⟩ = some (.slice dba dbl dbc) := x2
            have HKr : Hid (Blk wr.drew w.heap.size #[.int .i64 at_, .slice (some ⟨gl, o, none⟩) dl dc, .slice fa fl fc] 33) := HKX.out.below HBr.out.drew HXB.out
            have HGL : Hid (gl < base) := by
              show _ < _
              have := HDS.out.cells
              rcases this with h0 | ⟨g', o', h1, h2, _⟩
              · rw [h0] at HLd; have := HLd.out; simp at this
              · simp only [Option.some.injEq, Addr.mk.injEq, and_true] at h1; rw [HBASE.out, h1.1]; exact h2
            clear hdq hgl hk0
            go_wp2
            go_region_held3 (fun w' => w'.cell? ⟨w.heap.size, 1, none⟩ = some (.slice (some ⟨gl, o, none⟩) dl dc) ∧ w'.cell? ⟨gl, o + i * 4 + 1, none⟩ = some (.int .i64 dat) ∧ w'.cell? ⟨gl, o + i * 4 + 2, none⟩ = some (.slice dba dbl dbc)) (first | exact ⟨z1, z2, z3⟩ | exact ⟨n1, n2, n3⟩ | fail)
              (first | (go_at_call 13; refine (disk_Write _ base g gs wv5 E dat dba dbl dbc dbs HDd.out (fun w' hm => (HDQ.out w' hm.low).rd) (by omega) (by have := HC.out.2.1; omega)).mono ?_; rintro e w6 ⟨rfl, hd6, hm6⟩; have n1 : w6.cell? ⟨w.heap.size, 1, none⟩ = some (.slice (some ⟨gl, o, none⟩) dl dc) := (hm6.low.cell (p := ⟨w.heap.size, 1, none⟩) HXB.out).trans z1; have n2 : w6.cell? ⟨gl, o + i * 4 + 1, none⟩ = some (.int .i64 dat) := (hm6.low.cell (p := ⟨gl, o + i * 4 + 1, none⟩) HGL.out).trans z2; have n3 : w6.cell? ⟨gl, o + i * 4 + 2, none⟩ = some (.slice dba dbl dbc) := (hm6.low.cell (p := ⟨gl, o + i * 4 + 2, none⟩) HGL.out).trans z3))
            obtain ⟨wv6, hd6⟩ := hd6.out
            have HD6 : Hid (Disk w6 base g gs wv6 (writeD E dat dbs)) := hd6
            have HC6 : Hid (Calm (writeD E dat dbs) v S4 ∧ (writeD E dat dbs).waits.length ≤ i + 1 ∧ (writeD E dat dbs).age ≤ 301 + (i + 1)) := ⟨HC.out.1.write hatv dbs, by have := (write_grew E dat dbs).wl; have := HC.out.2.1; omega, by have := (write_grew E dat dbs).ag; have := HC.out.2.2; omega⟩
            have HB6 : Hid (Below base W1 w6) := HBr.out.drew.trans hm6.low
            clear hd6 hm6 n1 n2 n3 z1 z2 z3 x0 x1 x2 k1
            go_wp2
            go_roundw
            case rel => exact ⟨i + 1, _, wv6, by omega, by omega, by go_num, HD6, HC6, HB6⟩
            case measure => simp [intOf]; omega
        · clear x2
          go_wp2
          go_roundw
          case rel => exact ⟨i + 1, E, wv5, by omega, by omega, by go_num, HDr, ⟨HC.out.1, by have := HC.out.2.1; omega, by have := HC.out.2.2; omega⟩, HBr⟩
          case measure => simp [intOf]; omega
      · have hcase : (¬ (i : Int) < (dl : Int)) ∨ ((i : Int) < (dl : Int) ∧ ¬ (i : Int) < 100) := by omega
        have k2 : wr.cell? ⟨w.heap.size, 2, none⟩ = some (.slice fa fl fc) := (HKX.out.below HBr.out HXB.out).cell 2 rfl
        have HFB : Hid (∀ b off, fa = some ⟨b, off, none⟩ → 0 < fl → b ≠ gs) := by
          intro b off e h0 e2
          rcases HFT.out.far with h1 | ⟨b', off', h1, h2⟩
          · omega
          · rw [e] at h1
            simp only [Option.some.injEq, Addr.mk.injEq, and_true] at h1
            have := HDr.out.bs
            have := HBASE.out
            omega
        obtain ⟨D6, HD6E⟩ : ∃ D6, Hid (D6 = crashD E F) := ⟨_, rfl⟩
        have HT : Hid (readE D6 (v : Int) = 0 ∧ nowB D6 v = padS bs) := by
          show _ ∧ _
          have hS4 : S4.length = 8 := by rw [HS4.out, List.length_set]; exact HSL.out
          have hsl : D6.sure.length = 8 := by rw [HD6E.out]; simp only [crashD, crashL_len]; rw [HC.out.1.sure]; exact hS4
          refine ⟨?_, ?_⟩
          · have hh : hasB D6 (v : Int) = true := by rw [hasB_iff, hsl]; omega
            have hdn : D6.down = false := by rw [HD6E.out]; rfl
            rw [readE, hdn, hh]
            rfl
          · rw [HD6E.out]
            show (crashL E.sure E.waits F).getD v [] = _
            rw [crash_far E.waits E.sure F v HC.out.1.far, HC.out.1.sure, HS4.out, List.getD_eq_getElem?_getD, List.getElem?_set_self (by rw [HSL.out]; exact hv8)]
            rfl
        have hn100 : ¬ (i < dl ∧ i < 100) := hgo
        clear hgo HQ
        rcases hcase with hc | ⟨hc, hc2⟩ <;>
        ( go_wp2_with fail
          refine (disk_CrashC wr base g gs wv5 E fa fl fc F HDr.out (fun w' hm => HFT.out.below (by rw [← HBASE.out]; exact HBr.out.trans hm.low)) HFB.out hfl (by have := HC.out.2.2; omega)).mono ?_
          rw [← HD6E.out]
          rintro e w6 ⟨rfl, hd6, hm6⟩
          have HD6 : Hid (Disk w6 base g gs (.slice none 0 0) D6) := hd6.out
          have HB6 : Hid (Below base W1 w6) := HBr.out.trans hm6.low
          clear hd6 hm6 k1 k2
          go_wp2_with fail
          refine (disk_Read w6 base g gs (.slice none 0 0) D6 (v : Int) HD6.out).mono ?_
          rw [HT.out.1, Int.toNat_natCast, HT.out.2]
          rintro e w7 ⟨ht7, hb7⟩
          rcases ht7.out with ⟨hne, _⟩ | ⟨_, k, rfl, hk, hkb, hks⟩
          · exact absurd rfl hne
          have HB7 : Hid (Below base W1 w7) := HB6.out.trans (hb7.mono (by have := HB6.out.size; have := HBASE.out; omega))
          have HK7 : Hid (Blk w7 k (vb (padS bs)).toArray 80) := hkb
          have HB7d : Hid (Below w7.heap.size w7 w7.drew) := (Below.refl _ _).drew
          have HB7w : Hid (Below W1.heap.size W1 w7) := by show Below _ _ _; rw [← HBASE.out]; exact HB7.out
          have HPL : Hid ((padS bs).length = 64) := by show _ = _; rw [padS, List.length_append, List.length_replicate]; omega
          have HPB : Hid (∀ x ∈ padS bs, x < 256) := (padS_sec hlen HBY.out).byte
          have HR7 : Hid (∀ w', Below w7.heap.size w7 w' → Rd w' (some ⟨k, 0, none⟩) 64 (padS bs)) := fun w' hb' => by
            have := Rd.of_blk (HK7.out.stay hb') HPB.out
            rw [HPL.out] at this
            exact this
          have HTK : Hid ((padS bs).take bl = bs) := by show _ = _; rw [padS, ← HBL.out, List.take_left]
          have HDP : Hid ((padS bs).drop bl = List.replicate (64 - bl) 0) := by show _ = _; rw [padS, ← HBL.out, List.drop_left]
          have HSK : Hid (∀ w', Below w7.heap.size w7 w' → (convert 30 9 (.slice (some ⟨k, 0, none⟩) bl 64)).run Try.prog w' = .ok (.string (str bs)) w' ∧ (convert 30 9 (.slice ba bl bc)).run Try.prog w' = .ok (.string (str bs)) w') := fun w' hb' => by
            refine ⟨?_, conv_rd (HRB.out.below (HB7w.out.trans (hb'.mono HB7w.out.size))) bc⟩
            have := (HR7.out w' hb').prefix (m := bl) (by omega)
            rw [HTK.out] at this
            exact conv_rd this 64
          have HS7 := HSK.out w7.drew HB7d.out
          clear ht7 hb7 hk hkb hks
          have q1 : (0 : Int) ≤ (bl : Int) := by omega
          have q2 : (bl : Int) ≤ 64 := by omega
          have HBF : Hid (Below w.heap.size w w7) := HB1.out.trans (HB7w.out.mono HB1.out.size)
          rcases (show bl = 64 ∨ ¬ 64 = bl from by omega) with hbl | hbl
          · subst hbl
            go_wp2
            go_region_held3 (fun w' => (convert 30 9 (.slice (some ⟨k, 0, none⟩) 64 64)).run Try.prog w' = .ok (.string (str bs)) w' ∧ (convert 30 9 (.slice ba 64 bc)).run Try.prog w' = .ok (.string (str bs)) w') (first | exact HS7 | exact HS8 | fail)
              (first
                | (go_at_call 10; refine (law_live _).mono ?_; rintro e w8 ⟨rfl, hb8⟩; have HS8 := HSK.out w8 (HB7d.out.trans hb8))
                | (go_at_call 16; refine (law_zero _ _ 0 _ [] ⟨rfl, (fun _ h => (by cases h)), .inl rfl⟩ (fun _ h => (by cases h)) (by omega)).mono ?_; rintro e w9 ⟨rfl, rfl⟩))
            have HF : Hid (Below w.heap.size w w9) := HBF.out.trans ((HB7d.out.trans hb8).mono HBF.out.size)
            clear hb8 HS8 HS7
            go_wp2
            go_ret
            exact ⟨rfl, HF.out⟩
          · go_wp2
            go_region_held3 (fun w' => (convert 30 9 (.slice (some ⟨k, 0, none⟩) bl 64)).run Try.prog w' = .ok (.string (str bs)) w' ∧ (convert 30 9 (.slice ba bl bc)).run Try.prog w' = .ok (.string (str bs)) w') (first | exact HS7 | exact HS8 | fail)
              (first
                | (go_at_call 10; refine (law_live _).mono ?_; rintro e w8 ⟨rfl, hb8⟩; have HS8 := HSK.out w8 (HB7d.out.trans hb8))
                | (go_at_call 16; refine (law_zero _ _ (64 - bl) _ (List.replicate (64 - bl) 0) (by rw [← HDP.out]; exact (HR7.out w8 (HB7d.out.trans hb8)).rest (by omega)) (fun x hx => List.eq_of_mem_replicate hx) (by omega)).mono ?_; rintro e w9 ⟨rfl, rfl⟩))
            have HF : Hid (Below w.heap.size w w9) := HBF.out.trans ((HB7d.out.trans hb8).mono HBF.out.size)
            clear hb8 HS8 HS7
            go_wp2
            go_ret
            exact ⟨rfl, HF.out⟩ )

set_option maxRecDepth 100000 in
theorem contract (H : Type) (enc : TypeId × Value → H) (W : World) (base : Nat) (args : Array Value) (ds gs : List (DataW H)) (before : List MemPlace)
    (hval : ∀ (j : Nat) t v, Try.f4.params[j]? = some t → args[j]? = some v → Value.okWide Try.prog W .any base t v)
    (hW : DataW.Whole enc Try.prog Try.f4.params.toList Rows.sectorLastsSpec.vars false W args.toList ds gs before) (hsz0 : (DataW.weightsEach Try.prog (Try.f4.params.toList ++ Rows.sectorLastsSpec.plain.varTypes Try.prog) (ds ++ gs)).all (· ≤ reachBytes) = true) :
    Calls Try.prog 4 args W fun e W' => ∃ v, e = .returned v ∧ Rows.sectorLastsSpec.post enc Try.prog Try.f4 false true false false W args v W' := by
  have hW' := hW
  obtain ⟨p, q, hA0, hV, rfl, hfz, hnd⟩ := hW
  have hA : DataW.TrodAll enc Try.prog W 0 (fun _ => true) true Try.f4.params.toList args.toList ds p := hA0
  have hK := hA
  have hsz := hsz0
  rw [Try.params4] at hA hval hsz
  obtain ⟨v0, vs0, d0, ds0, p0, q0, hargs, rfl, rfl, h0, r0⟩ := trodAll_cons hA
  obtain ⟨v1, vs1, d1, ds1, p1, q1, rfl, rfl, rfl, h1, r1⟩ := trodAll_cons r0
  obtain ⟨v2, vs2, d2, ds2, p2, q2, rfl, rfl, rfl, h2, r2⟩ := trodAll_cons r1
  obtain ⟨rfl, rfl, rfl⟩ := trodAll_nil r2
  obtain rfl : args = #[v0, v1, v2] := by cases args; simp_all
  obtain ⟨rfl, rfl⟩ := trodVars_none hV
  obtain ⟨a1, len1, cap1, rfl⟩ := okWide_slice Try.underlying30 (hval 1 30 v1 rfl rfl)
  obtain ⟨bs1, rd1, lc1, cm1, bk1, nc1, fm1⟩ := rd_of h1
  have sz1 := reach_of hsz (j := 1) fm1 rfl rfl
  have hw0 : ∀ y ∈ DataW.weights Try.prog 22 d0, y ≤ reachBytes := fun y hy => by have := List.all_eq_true.1 hsz _ (DataW.weights_mem_each (j := 0) rfl rfl y hy); simpa using this
  have hw2 : ∀ y ∈ DataW.weights Try.prog 33 d2, y ≤ reachBytes := fun y hy => by have := List.all_eq_true.1 hsz _ (DataW.weights_mem_each (j := 2) rfl rfl y hy); simpa using this
  obtain ⟨a0, len0, cap0, rfl⟩ := okWide_slice Try.underlying22 (hval 0 22 v0 rfl rfl)
  obtain ⟨fu0, hf0⟩ := h0
  obtain ⟨l0, rd0, lc0, cm0⟩ := open_deeds2 hf0 hw0
  obtain ⟨at2, da2, dl2, dc2, l2, fa2, fl2, fc2, F2, rfl, dd2, hdl2, ft2, hfl2⟩ := open_behind (hval 2 33 v2 rfl rfl) h2 hw2
  refine (walk a0 len0 cap0 l0 a1 len1 cap1 bs1 at2 da2 dl2 dc2 l2 fa2 fl2 fc2 F2 W rd0 (by unfold maxLen at cm0; omega) rd1 (by omega) dd2 hdl2 ft2 hfl2).mono fun e W' ⟨he, bel⟩ => ?_
  subst he
  exact ⟨_, rfl, _, _, _, [], _, [], hW', trodAll_mk1 (shut_bool Try.underlying4 _), trodAll_below laidOut bel _ _ _ _ (by kernel_rfl) hK, rfl, bel.frame _, fun h => by cases h⟩

set_option maxRecDepth 100000 in
theorem lifted (os : Os) (started : os.Started) (H : Type) (enc : TypeId × Value → H) :
    ReturnsInHanded {} Try.checked os 4 .any (Rows.sectorLastsSpec.pre6 enc Try.prog Try.f4 Rows.sectorLastsRow.domain false) (Rows.sectorLastsSpec.post enc Try.prog Try.f4 false true false false) := by
  refine returnsInHanded_of_change_sized (C := Try.checked) own started (by kernel_rfl) Try.func4
    (ChangeSpec.witness6 (enc := enc) (C := Try.checked) false ⟨#[], #[.slice none 0 0, .slice none 0 0, .agg #[.int .i64 0, .slice none 0 0, .slice none 0 0]], []⟩ 8 (by kernel_rfl) (by kernel_rfl) (by kernel_rfl) (by kernel_rfl)) ?_
  intro W base args ds gs before hval hW _ hsz _
  exact contract H enc W base args ds gs before hval hW hsz

theorem said : Rows.SectorLastsSaid :=
  OpenClaim.holds_of_wide 4 Try.f4 rfl rfl rfl rfl rfl rfl rfl ⟨rfl, rfl, rfl, rfl, rfl⟩ rfl rfl rfl rfl rfl (by kernel_rfl) Try.func4 (by kernel_rfl)
    (of_decide_eq_true (by kernel_rfl)) (by unfold Func.isWrapper; first | (rw [if_pos (by decide +kernel)]; kernel_rfl) | (rw [if_neg (by decide +kernel)]; exact ⟨rfl, rfl⟩))
    (fun os started H enc _ => lifted os started H enc)
end sectorLasts

theorem sectorLasts_holds : Rows.SectorLastsSaid := sectorLasts.said
end Go.Proofs.Ythpjaidgacenoaa

