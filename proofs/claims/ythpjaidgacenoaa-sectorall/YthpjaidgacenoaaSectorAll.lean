/- A crash that keeps all is a sync; one without fates leaves what was sure: every script. No condition. -/
import Derived.Test.YthpjaidgacenoaaQSecAllM
namespace Go.Proofs.Ythpjaidgacenoaa
open Go.ChangeShapes Go.WideShapes Go.ChangeAt Go.RowKit

namespace sectorAll
set_option maxRecDepth 100000 in
set_option maxHeartbeats 4000000 in
theorem walk (a : Option Addr) (len cap : Nat) (l : List Dq) (w : World) (hl : DqsRd w a len l) (hlb : len ≤ 9223372036854775807) :
    Calls Try.prog 5 #[.slice a len cap] w fun e w' => e = .returned (.bool true) ∧ Below w.heap.size w w' := by
  have HL : Hid (DqsRd w a len l) := hl
  obtain ⟨base, hbase⟩ : ∃ base, base = w.heap.size := ⟨_, rfl⟩
  have HBASE : Hid (base = w.heap.size) := hbase
  clear hl hbase
  go_enter Try.func5, Try.ntmps5
  go_wp2_with fail
  refine (law_play w 5 a len cap l HL.out hlb).mono ?_
  rintro e w1 ⟨ht, hb1⟩
  obtain ⟨g, gs, r, D, rfl, hbo, hwl, hag, hsl⟩ := ht.out
  obtain ⟨wv, _, _, _, _, _, hd, _, _⟩ := hbo
  rw [← HBASE.out] at hd hb1
  have HX1 : Hid (Disk w1 base g gs wv D) := hd
  have HBw1 : Hid (Below base w w1) := hb1
  have HSL : Hid (D.sure.length = 6) := by show _ = _; rw [hsl]; decide
  have HAG : Hid (D.age ≤ 300) := hag
  obtain ⟨nw, hnw⟩ : ∃ nw, nw = D.waits.length := ⟨_, rfl⟩
  have HNW : Hid (nw = D.waits.length) := hnw
  rw [← hnw] at hwl
  clear ht hd hb1 hag hsl hnw
  -- two forks
  go_wp2_with fail
  refine (disk_Fork w1 base g gs wv D HX1.out (by rw [HSL.out]; omega)).mono ?_
  rintro e w2 ⟨gy, gsy, wvy, cy, Ry, rfl, hdy, hb2⟩
  have HB2 : Hid (Below w1.heap.size w1 w2) := hb2
  have HX2 : Hid (Disk w2 base g gs wv D) := HX1.out.stay hb2
  have HY2 : Hid (Disk w2 w1.heap.size gy gsy wvy { D with cap := cy, room := Ry }) := hdy.out
  clear hdy hb2
  go_wp2_with fail
  refine (disk_Fork w2 base g gs wv D HX2.out (by rw [HSL.out]; omega)).mono ?_
  rintro e w3 ⟨gz, gsz, wvz, cz, Rz, rfl, hdz, hb3⟩
  have HB3 : Hid (Below w1.heap.size w1 w3) := HB2.out.trans (hb3.mono HB2.out.size)
  have HY3 : Hid (Disk w3 w1.heap.size gy gsy wvy { D with cap := cy, room := Ry }) := HY2.out.stay hb3
  have HZ3 : Hid (Disk w3 w2.heap.size gz gsz wvz { D with cap := cz, room := Rz }) := hdz.out
  have HNE : Hid (gz ≠ gy ∧ gsz ≠ gsy) := ⟨fun e => by have := hdz.out.bg; have := HY2.out.blk.lt; omega, fun e => by have := hdz.out.bs; have := HY2.out.srow.lt; omega⟩
  have HS3 : Hid (w1.heap.size ≤ w3.heap.size) := HB3.out.size
  clear hdz hb3
  -- the ones
  go_wp2
  go_loopw [8, 9] (fun t8 t9 wr => ∃ (i : Nat) (v8 : Value), i ≤ nw ∧ v8 = t8 ∧ t9 = .int .i64 (i : Int) ∧ Hid (wr.ownsRow w3.heap.size 3 1 v8 i (onesV i)) ∧ Hid (Below w3.heap.size w3 wr)) (fun _ t9 _ => nw - (intOf t9).toNat)
  case atStart => exact ⟨0, _, Nat.zero_le _, rfl, rfl, World.ownsRow_nil _ _ _ _, Below.refl _ _⟩
  case round =>
    obtain ⟨i, v8, hi, rfl, rfl, HO, HBr⟩ := hrel
    have HXr : Hid (Disk wr base g gs wv D) := HX1.out.stay (HB3.out.trans (HBr.out.mono HS3.out))
    have HWT : Hid (∀ w', Disk w' base g gs wv D → Calls Try.prog 18 #[.pointer (some ⟨g, 0, none⟩)] w' fun e w'' => e = .returned (.int .i64 (nw : Int)) ∧ w'' = w') := fun w' h => by rw [HNW.out]; exact disk_Waits w' base g gs wv D h
    by_cases hlt : i < nw
    · have hlt' : (i : Int) < (nw : Int) := by omega
      obtain ⟨i0, hi0, hz0, hz1, hz2⟩ := info_parts infoIntB
      have HOA : Hid ((wr.alloc (.cells #[.int .i64 1] 3)).ownsRow w3.heap.size 3 1 v8 i (onesV i)) := own_stay HO.out (fun k hk => (below_alloc wr (.cells #[.int .i64 1] 3)).block k (HO.out.lt k hk).2)
      have HBA : Hid (Below w3.heap.size w3 (wr.alloc (.cells #[.int .i64 1] 3))) := HBr.out.alloc HBr.out.size _
      have HNEW : Hid (∀ j u, [Value.int .i64 1][j]? = some u → (wr.alloc (.cells #[.int .i64 1] 3)).cell? ((⟨wr.heap.size, 0, none⟩ : Addr).add j) = some u) := fun j u hj => by
        have e : (⟨wr.heap.size, 0, none⟩ : Addr).add j = ⟨wr.heap.size, 0 + j, none⟩ := by unfold Addr.add; split <;> simp_all
        rw [e, Nat.zero_add]
        exact (Blk.new wr #[.int .i64 1] 3).cell j (by simpa using hj)
      go_wp2_with fail
      refine (HWT.out wr HXr.out).mono ?_
      rintro e w4 ⟨rfl, rfl⟩
      go_wp2_with (guard_target =~ wpList _ _ _ (Oper.mk (some 39) _ _ _ _ _ :: _) _ _; refine wpList_append_own _ rfl (.tmp 37) (.tmp 38) 31 rfl w3.heap.size 3 i0 (.int .i64 0) 1 8 Try.underlying31 hi0 hz0 hz1 hz2 (by rfl) (by decide) v8 i (onesV i) rfl HOA.out ⟨w4.heap.size, 0, none⟩ 1 1 [.int .i64 1] rfl rfl HNEW.out (by simp [Value.oneCell']) (by unfold maxLen; omega) (by omega) HBA.out.size ?_)
      intro v' w5 ho hg hnn
      have HO5 : Hid (w5.ownsRow w3.heap.size 3 1 v' (i + 1) (onesV (i + 1))) := by
        show w5.ownsRow _ _ _ _ _ _
        rw [onesV, List.replicate_succ']
        exact ho
      have HB5 : Hid (Below w3.heap.size w3 w5) := HBA.out.trans ((Below.refl _ _).grown hg HBA.out.size (fun k hk => (HOA.out.lt k hk).1))
      clear ho hg hnn hi0 hz0 hz1 hz2
      go_wp2
      go_roundw
      case rel => exact ⟨i + 1, _, by omega, rfl, by go_num, HO5, HB5⟩
      case measure => simp [intOf]; omega
    · obtain rfl : i = nw := by omega
      have hlt' : ¬ (i : Int) < (i : Int) := by omega
      go_wp2_with fail
      refine (HWT.out wr HXr.out).mono ?_
      rintro e w4 ⟨rfl, rfl⟩
      obtain ⟨ao, lo, co, rfl⟩ := own_slice HO.out
      obtain ⟨rfl, hft⟩ := ones_ft HO.out
      have HFT : Hid (FtRd w4 ao lo (List.replicate lo 1)) := hft
      have HYr : Hid (Disk w4 w1.heap.size gy gsy wvy { D with cap := cy, room := Ry }) := HY3.out.stay HBr.out
      have HZr : Hid (Disk w4 w2.heap.size gz gsz wvz { D with cap := cz, room := Rz }) := HZ3.out.stay HBr.out
      have HFK : Hid (∀ w', Mv w4 w' w1.heap.size gy gsy → FtRd w' ao lo (List.replicate lo 1)) := fun w' hm => by
        rcases HO.out.2 with ⟨h1, h2⟩ | ⟨k, c', cur, h1, _, h3, _⟩
        · exact ⟨by simp, .inl h2⟩
        · have hk : w'.ownsRow w3.heap.size 3 1 (.slice ao lo co) lo (onesV lo) := own_stay HO.out (fun j hj => by
            rw [h1] at hj
            simp only [Value.ownBlock, Option.some.injEq] at hj
            subst hj
            rw [h3]
            exact hm.block k cur _ _ (fun e => by have := HYr.out.blk; unfold Blk at this; rw [← e, h3] at this; simp only [Option.some.injEq, Obj.cells.injEq] at this; exact absurd this.2.1 (by decide)) (fun e => by have := HYr.out.srow; unfold Blk at this; rw [← e, h3] at this; simp only [Option.some.injEq, Obj.cells.injEq] at this; exact absurd this.2.1 (by decide)) h3 (by decide))
          exact (ones_ft hk).2
      have HFB : Hid (∀ b off, ao = some ⟨b, off, none⟩ → 0 < lo → b ≠ gsy) := fun b off e h0 e2 => by
        rcases HO.out.2 with ⟨h1, h2⟩ | ⟨k, c', cur, h1, _, h3, _⟩
        · omega
        · simp only [Value.slice.injEq] at h1
          rw [e] at h1
          simp only [Option.some.injEq, Addr.mk.injEq, and_true] at h1
          have := HYr.out.srow
          unfold Blk at this
          rw [← e2, h1.1.1, h3] at this
          simp only [Option.some.injEq, Obj.cells.injEq] at this
          exact absurd this.2.1 (by decide)
      obtain ⟨DY, HDY⟩ : ∃ DY, Hid (DY = crashD { D with cap := cy, room := Ry } (List.replicate lo 1)) := ⟨_, rfl⟩
      obtain ⟨DZ, HDZ⟩ : ∃ DZ, Hid (DZ = crashD { D with cap := cz, room := Rz } []) := ⟨_, rfl⟩
      have HYM : Hid (DY.down = false ∧ DY.waits = [] ∧ DY.sure = syncL D.sure D.waits) := by
        show _ ∧ _
        rw [HDY.out]
        exact ⟨rfl, rfl, crash_all D.waits D.sure lo HX1.out.sec HX1.out.wts (by have := HNW.out; omega)⟩
      have HZM : Hid (DZ.down = false ∧ DZ.waits = [] ∧ DZ.sure = D.sure) := by
        show _ ∧ _
        rw [HDZ.out]
        exact ⟨rfl, rfl, crash_none _ _⟩
      clear hft
      go_wp2_with fail
      refine (disk_CrashC w4 w1.heap.size gy gsy wvy { D with cap := cy, room := Ry } ao lo co (List.replicate lo 1) HYr.out HFK.out HFB.out (by omega) (by have := HAG.out; show D.age < _; omega)).mono ?_
      rw [← HDY.out]
      rintro e w5 ⟨rfl, hd5, hm5⟩
      have HY5 : Hid (Disk w5 w1.heap.size gy gsy (.slice none 0 0) DY) := hd5.out
      have HZ5 : Hid (Disk w5 w2.heap.size gz gsz wvz { D with cap := cz, room := Rz }) := HZr.out.away HYr.out HNE.out.1 HNE.out.2 hm5
      have HB5 : Hid (Below w1.heap.size w1 w5) := (HB3.out.trans (HBr.out.mono HS3.out)).trans hm5.low
      clear hd5 hm5
      go_wp2_with fail
      refine (disk_CrashC w5 w2.heap.size gz gsz wvz { D with cap := cz, room := Rz } none 0 0 [] HZ5.out (fun _ _ => ⟨rfl, .inl rfl⟩) (fun _ _ h => (by cases h)) (by omega) (by have := HAG.out; show D.age < _; omega)).mono ?_
      rw [← HDZ.out]
      rintro e w6 ⟨rfl, hd6, hm6⟩
      have HZ6 : Hid (Disk w6 w2.heap.size gz gsz (.slice none 0 0) DZ) := hd6.out
      have HY6 : Hid (Disk w6 w1.heap.size gy gsy (.slice none 0 0) DY) := HY5.out.away HZ5.out HNE.out.1.symm HNE.out.2.symm hm6
      have HB6 : Hid (Below w1.heap.size w1 w6) := HB5.out.trans (hm6.low.mono HB2.out.size)
      clear hd6 hm6
      have HX6 : Hid (Disk w6 base g gs wv D) := HX1.out.stay HB6.out
      have HBF6 : Hid (Below base w w6) := HBw1.out.trans (HB6.out.mono (Nat.le_trans HX1.out.bg (Nat.le_of_lt HX1.out.blk.lt)))
      have HSZ : Hid (∀ w', Disk w' base g gs wv D → Calls Try.prog 19 #[.pointer (some ⟨g, 0, none⟩)] w' fun e w'' => e = .returned (.int .i64 6) ∧ w'' = w') := fun w' h => by have := disk_Size w' base g gs wv D h; rw [HSL.out] at this; exact this
      obtain ⟨dn, hdn⟩ : ∃ dn, dn = D.down := ⟨_, rfl⟩
      have HDN : Hid (dn = D.down) := hdn
      have HDW : Hid (∀ w', Disk w' base g gs wv D → Calls Try.prog 21 #[.pointer (some ⟨g, 0, none⟩)] w' fun e w'' => e = .returned (.bool dn) ∧ w'' = w') := fun w' h => by rw [HDN.out]; exact disk_Down w' base g gs wv D h
      clear hdn
      go_wp2
      go_loopw [10] (fun t10 wr => ∃ (i : Nat), i ≤ 6 ∧ t10 = .int .i64 (i : Int) ∧ Hid (Below w6.heap.size w6 wr)) (fun t10 _ => 6 - (intOf t10).toNat)
      case atStart => exact ⟨0, by omega, rfl, Below.refl _ _⟩
      case round =>
        obtain ⟨i, hi, rfl, HBq⟩ := hrel
        have HXq : Hid (Disk wr base g gs wv D) := HX6.out.stay HBq.out
        have HYq : Hid (Disk wr w1.heap.size gy gsy (.slice none 0 0) DY) := HY6.out.stay HBq.out
        have HZq : Hid (Disk wr w2.heap.size gz gsz (.slice none 0 0) DZ) := HZ6.out.stay HBq.out
        by_cases hlt : i < 6
        · have hlt6 : (i : Int) < 6 := by omega
          have HhD : Hid (hasB D (i : Int) = true) := by show _ = _; rw [hasB_iff, HSL.out]; omega
          have HhY : Hid (readE DY (i : Int) = 0) := by
            have : hasB DY (i : Int) = true := by rw [hasB_iff, HYM.out.2.2, syncL_len, HSL.out]; omega
            show _ = _
            rw [readE, HYM.out.1, this]
            rfl
          have HhZ : Hid (readE DZ (i : Int) = 0) := by
            have : hasB DZ (i : Int) = true := by rw [hasB_iff, HZM.out.2.2, HSL.out]; omega
            show _ = _
            rw [readE, HZM.out.1, this]
            rfl
          obtain ⟨A, HA⟩ : ∃ A, Hid (A = D.sure.getD i []) := ⟨_, rfl⟩
          obtain ⟨C, HC⟩ : ∃ C, Hid (C = (syncL D.sure D.waits).getD i []) := ⟨_, rfl⟩
          have HnZ : Hid (nowB DZ i = A) := by
            show _ = _
            unfold nowB
            rw [HZM.out.2.1, HA.out, ← HZM.out.2.2]
            rfl
          have HnY : Hid (nowB DY i = C) := by
            show _ = _
            unfold nowB
            rw [HYM.out.2.1, HC.out, ← HYM.out.2.2]
            rfl
          have HnX : Hid (nowB D i = C) := by show _ = _; rw [HC.out]; exact nowB_sync D i (by rw [HSL.out]; exact hlt)
          go_wp2_with fail
          refine (HSZ.out wr HXq.out).mono ?_
          rintro e w7 ⟨rfl, rfl⟩
          go_wp2_with fail
          refine (disk_Sure w7 base g gs wv D (i : Int) HXq.out).mono ?_
          rw [show sureE D (i : Int) = 0 from by rw [sureE, HhD.out]; rfl, Int.toNat_natCast, ← HA.out]
          rintro e w8 ⟨ht8, hb8⟩
          rcases ht8.out with ⟨hne, _⟩ | ⟨_, ka, rfl, hka, hkab, hkas⟩
          · exact absurd rfl hne
          have HKA8 : Hid (Blk w8 ka (vb A).toArray 80) := hkab
          have HAS : Hid (Sec A) := hkas
          have HB8 : Hid (Below w6.heap.size w6 w8) := HBq.out.trans (hb8.mono HBq.out.size)
          have HZ8 : Hid (Disk w8 w2.heap.size gz gsz (.slice none 0 0) DZ) := HZq.out.stay hb8
          clear ht8 hb8 hka hkab hkas
          go_wp2_with fail
          refine (disk_Read w8 w2.heap.size gz gsz _ DZ (i : Int) HZ8.out).mono ?_
          rw [HhZ.out, Int.toNat_natCast, HnZ.out]
          rintro e w9 ⟨ht9, hb9⟩
          rcases ht9.out with ⟨hne, _⟩ | ⟨_, kb, rfl, hkb, hkbb, hkbs⟩
          · exact absurd rfl hne
          have HKA9 : Hid (Blk w9 ka (vb A).toArray 80) := HKA8.out.stay hb9
          have HKB9 : Hid (Blk w9 kb (vb A).toArray 80) := hkbb
          have HB9 : Hid (Below w6.heap.size w6 w9) := HB8.out.trans (hb9.mono HB8.out.size)
          have HY9 : Hid (Disk w9 w1.heap.size gy gsy (.slice none 0 0) DY) := HY6.out.stay HB9.out
          clear ht9 hb9 hkb hkbb hkbs
          go_wp2_with fail
          refine (disk_Read w9 w1.heap.size gy gsy _ DY (i : Int) HY9.out).mono ?_
          rw [HhY.out, Int.toNat_natCast, HnY.out]
          rintro e w10 ⟨ht10, hb10⟩
          rcases ht10.out with ⟨hne, _⟩ | ⟨_, kc, rfl, hkc, hkcb, hkcs⟩
          · exact absurd rfl hne
          have HCS : Hid (Sec C) := hkcs
          have q1 : (convert 30 9 (.slice (some ⟨ka, 0, none⟩) 64 64)).run Try.prog w10 = .ok (.string (str A)) w10 := by
            have := Rd.of_blk (HKA9.out.stay hb10) HAS.out.byte
            rw [HAS.out.len] at this
            exact conv_rd this 64
          have q2 : (convert 30 9 (.slice (some ⟨kb, 0, none⟩) 64 64)).run Try.prog w10 = .ok (.string (str A)) w10 := by
            have := Rd.of_blk (HKB9.out.stay hb10) HAS.out.byte
            rw [HAS.out.len] at this
            exact conv_rd this 64
          have HKC10 : Hid (Blk w10 kc (vb C).toArray 80) := hkcb
          have HB10 : Hid (Below w6.heap.size w6 w10) := HB9.out.trans (hb10.mono HB9.out.size)
          have HX10 : Hid (Disk w10 base g gs wv D) := HX6.out.stay HB10.out
          clear ht10 hb10 hkc hkcb hkcs
          go_wp2_with fail
          refine (HDW.out w10 HX10.out).mono ?_
          rintro e w11 ⟨rfl, rfl⟩
          clear q1 q2
          cases dn with
          | true =>
            go_wp2
            go_roundw
            case rel => exact ⟨i + 1, by omega, by go_num, HB10⟩
            case measure => simp [intOf]; omega
          | false =>
            have HhX : Hid (readE D (i : Int) = 0) := by show _ = _; rw [readE, ← HDN.out, HhD.out]; rfl
            go_wp2_with fail
            refine (disk_Read w11 base g gs wv D (i : Int) HX10.out).mono ?_
            rw [HhX.out, Int.toNat_natCast, HnX.out]
            rintro e w12 ⟨ht12, hb12⟩
            rcases ht12.out with ⟨hne, _⟩ | ⟨_, kd, rfl, hkd, hkdb, hkds⟩
            · exact absurd rfl hne
            have q1 : (convert 30 9 (.slice (some ⟨kc, 0, none⟩) 64 64)).run Try.prog w12 = .ok (.string (str C)) w12 := by
              have := Rd.of_blk (HKC10.out.stay hb12) HCS.out.byte
              rw [HCS.out.len] at this
              exact conv_rd this 64
            have q2 : (convert 30 9 (.slice (some ⟨kd, 0, none⟩) 64 64)).run Try.prog w12 = .ok (.string (str C)) w12 := by
              have := Rd.of_blk hkdb HCS.out.byte
              rw [HCS.out.len] at this
              exact conv_rd this 64
            have HB12 : Hid (Below w6.heap.size w6 w12) := HB10.out.trans (hb12.mono HB10.out.size)
            clear ht12 hb12 hkd hkdb hkds
            go_wp2
            go_roundw
            case rel => exact ⟨i + 1, by omega, by go_num, HB12⟩
            case measure => simp [intOf]; omega
        · obtain rfl : i = 6 := by omega
          go_wp2_with fail
          refine (HSZ.out wr HXq.out).mono ?_
          rintro e w7 ⟨rfl, rfl⟩
          go_wp2_with fail
          refine (law_live w7).mono ?_
          rintro e w8 ⟨rfl, hb8⟩
          have HY8 : Hid (Disk w8 w1.heap.size gy gsy (.slice none 0 0) DY) := HYq.out.stay hb8
          have HZ8 : Hid (Disk w8 w2.heap.size gz gsz (.slice none 0 0) DZ) := HZq.out.stay hb8
          have HF : Hid (Below w.heap.size w w8) := by
            show Below _ _ _
            rw [← HBASE.out]
            exact (HBF6.out.trans (HBq.out.mono (by have := HBF6.out.size; have := HBASE.out; omega))).trans (hb8.mono (by have := HBF6.out.size; have := HBq.out.size; have := HBASE.out; omega))
          clear hb8
          go_wp2_with fail
          refine (disk_Waits w8 w1.heap.size gy gsy _ DY HY8.out).mono ?_
          rw [HYM.out.2.1]
          rintro e w9 ⟨rfl, rfl⟩
          go_wp2_with fail
          refine (disk_Waits w9 w2.heap.size gz gsz _ DZ HZ8.out).mono ?_
          rw [HZM.out.2.1]
          rintro e w10 ⟨rfl, rfl⟩
          go_wp2_with fail
          refine (disk_Down w10 w1.heap.size gy gsy _ DY HY8.out).mono ?_
          rw [HYM.out.1]
          rintro e w11 ⟨rfl, rfl⟩
          go_wp2
          go_ret
          exact ⟨rfl, HF.out⟩

set_option maxRecDepth 100000 in
theorem contract (H : Type) (enc : TypeId × Value → H) (W : World) (base : Nat) (args : Array Value) (ds gs : List (DataW H)) (before : List MemPlace)
    (hval : ∀ (j : Nat) t v, Try.f5.params[j]? = some t → args[j]? = some v → Value.okWide Try.prog W .any base t v)
    (hW : DataW.Whole enc Try.prog Try.f5.params.toList Rows.sectorAllSpec.vars false W args.toList ds gs before) (hsz0 : (DataW.weightsEach Try.prog (Try.f5.params.toList ++ Rows.sectorAllSpec.plain.varTypes Try.prog) (ds ++ gs)).all (· ≤ reachBytes) = true) :
    Calls Try.prog 5 args W fun e W' => ∃ v, e = .returned v ∧ Rows.sectorAllSpec.post enc Try.prog Try.f5 false true false false W args v W' := by
  have hW' := hW
  obtain ⟨p, q, hA0, hV, rfl, hfz, hnd⟩ := hW
  have hA : DataW.TrodAll enc Try.prog W 0 (fun _ => true) true Try.f5.params.toList args.toList ds p := hA0
  have hK := hA
  have hsz := hsz0
  rw [Try.params5] at hA hval hsz
  obtain ⟨v0, vs0, d0, ds0, p0, q0, hargs, rfl, rfl, h0, r0⟩ := trodAll_cons hA
  obtain ⟨rfl, rfl, rfl⟩ := trodAll_nil r0
  obtain rfl : args = #[v0] := by cases args; simp_all
  obtain ⟨rfl, rfl⟩ := trodVars_none hV
  have hw0 : ∀ y ∈ DataW.weights Try.prog 22 d0, y ≤ reachBytes := fun y hy => by have := List.all_eq_true.1 hsz _ (DataW.weights_mem_each (j := 0) rfl rfl y hy); simpa using this
  obtain ⟨a0, len0, cap0, rfl⟩ := okWide_slice Try.underlying22 (hval 0 22 v0 rfl rfl)
  obtain ⟨fu0, hf0⟩ := h0
  obtain ⟨l0, rd0, lc0, cm0⟩ := open_deeds2 hf0 hw0
  refine (walk a0 len0 cap0 l0 W rd0 (by unfold maxLen at cm0; omega)).mono fun e W' ⟨he, bel⟩ => ?_
  subst he
  exact ⟨_, rfl, _, _, _, [], _, [], hW', trodAll_mk1 (shut_bool Try.underlying4 _), trodAll_below laidOut bel _ _ _ _ (by kernel_rfl) hK, rfl, bel.frame _, fun h => by cases h⟩

set_option maxRecDepth 100000 in
theorem lifted (os : Os) (started : os.Started) (H : Type) (enc : TypeId × Value → H) :
    ReturnsInHanded {} Try.checked os 5 .any (Rows.sectorAllSpec.pre6 enc Try.prog Try.f5 Rows.sectorAllRow.domain false) (Rows.sectorAllSpec.post enc Try.prog Try.f5 false true false false) := by
  refine returnsInHanded_of_change_sized (C := Try.checked) own started (by kernel_rfl) Try.func5
    (ChangeSpec.witness6 (enc := enc) (C := Try.checked) false ⟨#[], #[.slice none 0 0], []⟩ 8 (by kernel_rfl) (by kernel_rfl) (by kernel_rfl) (by kernel_rfl)) ?_
  intro W base args ds gs before hval hW _ hsz _
  exact contract H enc W base args ds gs before hval hW hsz

theorem said : Rows.SectorAllSaid :=
  OpenClaim.holds_of_wide 5 Try.f5 rfl rfl rfl rfl rfl rfl rfl ⟨rfl, rfl, rfl, rfl, rfl⟩ rfl rfl rfl rfl rfl (by kernel_rfl) Try.func5 (by kernel_rfl)
    (of_decide_eq_true (by kernel_rfl)) (by unfold Func.isWrapper; first | (rw [if_pos (by decide +kernel)]; kernel_rfl) | (rw [if_neg (by decide +kernel)]; exact ⟨rfl, rfl⟩))
    (fun os started H enc _ => lifted os started H enc)
end sectorAll

theorem sectorAll_holds : Rows.SectorAllSaid := sectorAll.said
end Go.Proofs.Ythpjaidgacenoaa

