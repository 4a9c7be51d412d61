/- Deeds on both disks: a read, a trip, a crash, a look. -/
import Derived.Test.YthpjaidgacenoaaQSecDo
namespace Go.Proofs.Ythpjaidgacenoaa
open Go.RowKit

set_option maxRecDepth 100000 in
theorem disk_Age (w : World) (base g gs : Nat) (wv : Value) (D : Dk) (h : Disk w base g gs wv D) : Calls Try.prog 31 #[.pointer (some ⟨g, 0, none⟩)] w fun e w' => e = .returned (.int .i64 (D.age : Int)) ∧ w' = w := by
  have c4 : w.cell? ⟨g, 4, none⟩ = some (.int .i64 (D.age : Int)) := h.blk.cell 4 rfl
  clear h
  go_enter Try.func31, Try.ntmps31
  go_wp2
  go_ret
  exact ⟨rfl, rfl⟩
theorem Both.stay {w w' : World} {base g gs r : Nat} {D : Dk} (h : Both w base g gs r D) (hb : Below w.heap.size w w') : Both w' base g gs r D := by
  obtain ⟨wv, q, sv, rv, SV, WV, hd, hr, hq⟩ := h
  exact ⟨wv, q, sv, rv, SV, WV, hd.stay hb, hr.stay hb, Nat.lt_of_lt_of_le hq hb.size⟩
theorem Both.base {w : World} {base g gs r : Nat} {D : Dk} (h : Both w base g gs r D) : base ≤ w.heap.size := by
  obtain ⟨wv, q, sv, rv, SV, WV, hd, hr, hq⟩ := h
  exact Nat.le_trans hd.bg (Nat.le_of_lt hd.blk.lt)

set_option maxRecDepth 100000 in
set_option maxHeartbeats 2000000 in
theorem law_do1 (w : World) (base g gs r : Nat) (D : Dk) (at_ : Int) (ba : Option Addr) (bl bc : Nat) (fa : Option Addr) (fl fc : Nat) (h : Both w base g gs r D) :
    Calls Try.prog 23 #[.pointer (some ⟨g, 0, none⟩), .pointer (some ⟨r, 0, none⟩), .agg #[.int .i64 1, .int .i64 at_, .slice ba bl bc, .slice fa fl fc]] w fun e w' => e = .returned (.bool true) ∧ Hid (Both w' base g gs r D) ∧ Below base w w' := by
  have HBOTH : Hid (Both w base g gs r D) := h
  have HBS : Hid (base ≤ w.heap.size) := h.base
  obtain ⟨W1, HW1⟩ : ∃ W1, Hid (W1 = w.alloc (.cells #[.int .i64 1, .int .i64 at_, .slice ba bl bc, .slice fa fl fc] 40)) := ⟨_, rfl⟩
  have HB1 : Hid (Below w.heap.size w W1) := by show Below _ _ _; rw [HW1.out]; exact below_alloc _ _
  have HKX : Hid (Blk W1 w.heap.size #[.int .i64 1, .int .i64 at_, .slice ba bl bc, .slice fa fl fc] 40) := by show Blk _ _ _ _; rw [HW1.out]; exact Blk.new _ _ _
  obtain ⟨wv, q, sv, rv, SV, WV, hd, hr, hq⟩ := h
  have HD : Hid (Disk W1 base g gs wv D) := hd.stay HB1.out
  have HR : Hid (Rk W1 base r q sv rv SV WV D) := hr.stay HB1.out
  obtain ⟨E, HE⟩ : ∃ E, Hid (E = readE D at_) := ⟨_, rfl⟩
  obtain ⟨T, HT⟩ : ∃ T, Hid (T = nowB D at_.toNat) := ⟨_, rfl⟩
  clear hd hr hq
  go_enter Try.func23, Try.ntmps23
  go_wp2_with fail
  rw [← HW1.out]
  refine (disk_Read W1 base g gs wv D at_ HD.out).mono ?_
  rw [← HE.out, ← HT.out]
  rintro e w2 ⟨ht2, hb2⟩
  have HB2 : Hid (Below W1.heap.size W1 w2) := hb2
  have HB02 : Hid (Below w.heap.size w w2) := HB1.out.trans (hb2.mono HB1.out.size)
  have HR2 : Hid (Rk w2 base r q sv rv SV WV D) := HR.out.stay hb2
  have e1 : w2.cell? ⟨w.heap.size, 1, none⟩ = some (.int .i64 at_) := (HKX.out.stay hb2).cell 1 rfl
  rcases ht2.out with ⟨hne, rfl⟩ | ⟨heq, k, rfl, hk, hkb, hks⟩
  · have HNE : Hid (E ≠ 0) := hne
    clear ht2 hb2 hne
    go_wp2_with fail
    refine (ref_Read w2 base r q sv rv SV WV D at_ HR2.out).mono ?_
    rw [← HE.out, ← HT.out]
    rintro e w3 ⟨ht3, hb3⟩
    rcases ht3.out with ⟨_, rfl⟩ | ⟨heq, _⟩
    rotate_left
    · exact absurd heq HNE.out
    have HB3 : Hid (Below w.heap.size w w3) := HB02.out.trans (hb3.mono HB02.out.size)
    have HF : Hid (Both w3 base g gs r D) := HBOTH.out.stay HB3.out
    clear ht3 hb3 e1
    have hcv : (convert 30 9 (.slice none 0 0)).run Try.prog w3 = .ok (.string (str [])) w3 := conv_rd (bs := []) ⟨rfl, fun _ h => (by cases h), .inl rfl⟩ 0
    go_wp2
    go_loopw [16] (fun t16 wr => t16 = .int .i64 0 ∧ wr = w3) (fun t16 _ => (intOf t16).toNat)
    case atStart => exact ⟨rfl, rfl⟩
    case round =>
      obtain ⟨rfl, rfl⟩ := hrel
      go_wp2
      go_ret
      exact ⟨by simp, HF, HB3.out.mono HBS.out⟩
  · subst heq
    have HKB : Hid (Blk w2 k (vb T).toArray 80) := hkb
    have HK : Hid (W1.heap.size ≤ k) := hk
    have HTS : Hid (Sec T) := hks
    clear ht2 hb2 hk hkb hks
    go_wp2_with fail
    refine (ref_Read w2 base r q sv rv SV WV D at_ HR2.out).mono ?_
    rw [← HE.out, ← HT.out]
    rintro e w3 ⟨ht3, hb3⟩
    rcases ht3.out with ⟨hne, _⟩ | ⟨_, b, cb, rfl, hrd, _⟩
    · exact absurd rfl hne
    have HB3 : Hid (Below w.heap.size w w3) := HB02.out.trans (hb3.mono HB02.out.size)
    have HF : Hid (Both w3 base g gs r D) := HBOTH.out.stay HB3.out
    have HKB3 : Hid (Blk w3 k (vb T).toArray 80) := HKB.out.stay hb3
    have hcv1 : (convert 30 9 (.slice (some ⟨k, 0, none⟩) 64 64)).run Try.prog w3 = .ok (.string (str T)) w3 := by
      have := Rd.of_blk HKB3.out HTS.out.byte
      rw [HTS.out.len] at this
      exact conv_rd this 64
    have hcv2 : (convert 30 9 (.slice b 64 cb)).run Try.prog w3 = .ok (.string (str T)) w3 := conv_rd hrd cb
    clear ht3 hb3 e1 hrd
    go_wp2
    go_loopw [16] (fun t16 wr => ∃ (i : Nat) (cs : List Value), i ≤ 64 ∧ t16 = .int .i64 (i : Int) ∧ Hid (cs.length = 64) ∧ Hid (Blk wr k cs.toArray 80) ∧ Hid (Below w.heap.size w wr)) (fun t16 _ => 64 - (intOf t16).toNat)
    case atStart => exact ⟨0, vb T, by omega, rfl, by show _ = _; rw [vb_length, HTS.out.len], HKB3, HB3⟩
    case round =>
      obtain ⟨i, cs, hi, rfl, HL, HKr, HBr⟩ := hrel
      by_cases hlt : i < 64
      · have hlt' : (i : Int) < 64 := by omega
        have hi0 : (0 : Int) ≤ (i : Int) := by omega
        obtain ⟨u, hu⟩ : ∃ u, wr.cell? ⟨k, i, none⟩ = some u := ⟨cs[i]'(by have := HL.out; omega), HKr.out.cell i (by simp)⟩
        have fi : wr.frozen? ⟨k, i, none⟩ = false := HKr.out.free i
        have HKn : Hid (Blk (wr.setCell ⟨k, i, none⟩ (.int .u8 9)) k (cs.set i (.int .u8 9)).toArray 80) := by
          have := HKr.out.set i (.int .u8 9)
          show Blk _ _ _ _
          simpa using this
        have HBn : Hid (Below w.heap.size w (wr.setCell ⟨k, i, none⟩ (.int .u8 9))) := HBr.out.setCell (by have := HK.out; have := HB1.out.size; show w.heap.size ≤ k; omega) _
        go_wp2
        go_roundw
        case rel => exact ⟨i + 1, cs.set i (.int .u8 9), by omega, by go_num, by show _ = _; rw [List.length_set]; exact HL.out, HKn, HBn⟩
        case measure => simp [intOf]; omega
      · obtain rfl : i = 64 := by omega
        have HF2 : Hid (Both wr base g gs r D) := HBOTH.out.stay HBr.out
        go_wp2
        go_ret
        exact ⟨by simp, HF2, HBr.out.mono HBS.out⟩

set_option maxRecDepth 100000 in
set_option maxHeartbeats 2000000 in
theorem law_do3 (w : World) (base g gs r : Nat) (D : Dk) (at_ : Int) (hat : at_ ≤ 9223372036854775807) (ba : Option Addr) (bl bc : Nat) (fa : Option Addr) (fl fc : Nat) (h : Both w base g gs r D) :
    Calls Try.prog 23 #[.pointer (some ⟨g, 0, none⟩), .pointer (some ⟨r, 0, none⟩), .agg #[.int .i64 3, .int .i64 at_, .slice ba bl bc, .slice fa fl fc]] w fun e w' => e = .returned (.bool true) ∧ Hid (Both w' base g gs r (tripD D at_)) ∧ Below base w w' := by
  have HBS : Hid (base ≤ w.heap.size) := h.base
  obtain ⟨W1, HW1⟩ : ∃ W1, Hid (W1 = w.alloc (.cells #[.int .i64 3, .int .i64 at_, .slice ba bl bc, .slice fa fl fc] 40)) := ⟨_, rfl⟩
  have HB1 : Hid (Below w.heap.size w W1.drew) := by show Below _ _ _; rw [HW1.out]; exact (below_alloc _ _).drew
  have HKX : Hid (Blk W1.drew w.heap.size #[.int .i64 3, .int .i64 at_, .slice ba bl bc, .slice fa fl fc] 40) := by show Blk _ _ _ _; rw [HW1.out]; exact Blk.new _ _ _
  obtain ⟨wv, q, sv, rv, SV, WV, hd, hr, hq⟩ := h
  have HNE : Hid (w.heap.size ≠ g ∧ w.heap.size ≠ gs) := ⟨fun e => by have := hd.blk.lt; omega, fun e => by have := hd.srow.lt; omega⟩
  have HD : Hid (Disk W1.drew base g gs wv D) := hd.stay HB1.out
  have HR : Hid (Rk W1.drew base r q sv rv SV WV D) := hr.stay HB1.out
  have HQ : Hid (q < W1.drew.heap.size) := Nat.lt_of_lt_of_le hq HB1.out.size
  have c1 : W1.drew.cell? ⟨w.heap.size, 1, none⟩ = some (.int .i64 at_) := HKX.out.cell 1 rfl
  obtain ⟨E, HE⟩ : ∃ E, Hid (E = tripE D at_) := ⟨_, rfl⟩
  obtain ⟨D', HDE⟩ : ∃ D', Hid (D' = tripD D at_) := ⟨_, rfl⟩
  rw [← HDE.out]
  have HAT : Hid (at_ ≤ 9223372036854775807) := hat
  clear hd hr hq hat
  go_enter Try.func23, Try.ntmps23
  go_wp2
  rw [← HW1.out]
  go_region_held3 (fun w' => w'.cell? ⟨w.heap.size, 1, none⟩ = some (.int .i64 at_)) (first | exact c1 | exact c2 | exact c3 | fail)
    (first
      | (go_at_call 42; refine (disk_Trip _ base g gs wv D at_ HD.out HAT.out).mono ?_; rw [← HE.out, ← HDE.out]; rintro e w2 ⟨rfl, hd2, hm2⟩; have c2 : w2.cell? ⟨w.heap.size, 1, none⟩ = some (.int .i64 at_) := (hm2.keep HKX.out HNE.out.1 HNE.out.2 (by decide)).cell 1 rfl)
      | (go_at_call 43; refine (ref_Trip _ base r q sv rv SV WV D at_ (HR.out.move (Keep.of_mv HD.out hm2 q)) HAT.out).mono ?_; rw [← HE.out, ← HDE.out]; rintro e w3 ⟨rfl, hr3, hm3⟩; have c3 : w3.cell? ⟨w.heap.size, 1, none⟩ = some (.int .i64 at_) := by (have hk2 := hm2.keep HKX.out HNE.out.1 HNE.out.2 (by decide)); exact Blk.cell (hm3.block _ _ _ _ hk2 (by decide) (by decide) (by decide)) 1 rfl))
  have HF : Hid (Both w3 base g gs r D') := ⟨wv, q, sv, rv, SV, WV, hd2.out.stayR hm3, hr3.out, Nat.lt_of_lt_of_le (Nat.lt_of_lt_of_le HQ.out hm2.size) hm3.low.size⟩
  have HB3 : Hid (Below base w w3) := ((HB1.out.mono HBS.out).trans hm2.low).trans hm3.low
  clear hd2 hm2 hr3 hm3
  go_wp2
  go_ret
  exact ⟨by simp, HF, HB3.out⟩

set_option maxRecDepth 100000 in
set_option maxHeartbeats 2000000 in
theorem law_do4 (w : World) (base g gs r : Nat) (D : Dk) (d : Dq) (hdq : ∀ w', Below base w w' → DqOk w' d) (hfa : ∀ b off, d.fa = some ⟨b, off, none⟩ → 0 < d.fl → b < base) (ha : D.age < 1000000000) (h : Both w base g gs r D) :
    Calls Try.prog 23 #[.pointer (some ⟨g, 0, none⟩), .pointer (some ⟨r, 0, none⟩), .agg #[.int .i64 4, .int .i64 d.at_, .slice d.ba d.bl d.bc, .slice d.fa d.fl d.fc]] w fun e w' => e = .returned (.bool true) ∧ Hid (Both w' base g gs r (crashD D d.F)) ∧ Below base w w' := by
  obtain ⟨dk, at_, ba, bl, bc, bs, fa, fl, fc, F⟩ := d
  simp only at *
  have HDQ : Hid (∀ w', Below base w w' → DqOk w' ⟨dk, at_, ba, bl, bc, bs, fa, fl, fc, F⟩) := hdq
  have hfb : fl ≤ 9223372036854775000 := (hdq w (Below.refl _ _)).fb
  have HBS : Hid (base ≤ w.heap.size) := h.base
  obtain ⟨W1, HW1⟩ : ∃ W1, Hid (W1 = w.alloc (.cells #[.int .i64 4, .int .i64 at_, .slice ba bl bc, .slice fa fl fc] 40)) := ⟨_, rfl⟩
  have HB1 : Hid (Below w.heap.size w W1.drew) := by show Below _ _ _; rw [HW1.out]; exact (below_alloc _ _).drew
  have HB1b : Hid (Below base w W1.drew) := HB1.out.mono HBS.out
  have HKX : Hid (Blk W1.drew w.heap.size #[.int .i64 4, .int .i64 at_, .slice ba bl bc, .slice fa fl fc] 40) := by show Blk _ _ _ _; rw [HW1.out]; exact Blk.new _ _ _
  obtain ⟨wv, q, sv, rv, SV, WV, hd, hr, hq⟩ := h
  have HNE : Hid (w.heap.size ≠ g ∧ w.heap.size ≠ gs) := ⟨fun e => by have := hd.blk.lt; omega, fun e => by have := hd.srow.lt; omega⟩
  have HD : Hid (Disk W1.drew base g gs wv D) := hd.stay HB1.out
  have HR : Hid (Rk W1.drew base r q sv rv SV WV D) := hr.stay HB1.out
  have HQ : Hid (q < W1.drew.heap.size) := Nat.lt_of_lt_of_le hq HB1.out.size
  have c1 : W1.drew.cell? ⟨w.heap.size, 3, none⟩ = some (.slice fa fl fc) := HKX.out.cell 3 rfl
  have HFB : Hid (∀ b off, fa = some ⟨b, off, none⟩ → 0 < fl → b ≠ gs) := fun b off e h0 e2 => by have := hfa b off e h0; have := hd.bs; omega
  obtain ⟨D', HDE⟩ : ∃ D', Hid (D' = crashD D F) := ⟨_, rfl⟩
  rw [← HDE.out]
  clear hd hr hq hdq
  go_enter Try.func23, Try.ntmps23
  go_wp2
  rw [← HW1.out]
  go_region_held3 (fun w' => w'.cell? ⟨w.heap.size, 3, none⟩ = some (.slice fa fl fc)) (first | exact c1 | exact c2 | exact c3 | fail)
    (first
      | (go_at_call 12; refine (disk_CrashC _ base g gs wv D fa fl fc F HD.out (fun w' hm => (HDQ.out w' (HB1b.out.trans hm.low)).ft) HFB.out hfb ha).mono ?_; rw [← HDE.out]; rintro e w2 ⟨rfl, hd2, hm2c⟩; have hm2 := hm2c.mv; have c2 : w2.cell? ⟨w.heap.size, 3, none⟩ = some (.slice fa fl fc) := (hm2.keep HKX.out HNE.out.1 HNE.out.2 (by decide)).cell 3 rfl)
      | (go_at_call 44; refine (ref_Crash _ base r q sv rv SV WV D fa fl fc F (HR.out.move (Keep.of_mv HD.out hm2 q)) (Nat.lt_of_lt_of_le HQ.out hm2.size) (fun w' hm => (HDQ.out w' ((HB1b.out.trans hm2.low).trans hm.low)).ft) hfb ha).mono ?_; rw [← HDE.out]; rintro e w3 ⟨rfl, hr3, hm3⟩; have c3 : w3.cell? ⟨w.heap.size, 3, none⟩ = some (.slice fa fl fc) := by (have hk2 := hm2.keep HKX.out HNE.out.1 HNE.out.2 (by decide)); exact Blk.cell (hm3.block _ _ _ _ hk2 (by decide) (by decide) (by decide)) 3 rfl))
  obtain ⟨SV3, hr3⟩ := hr3.out
  have HF : Hid (Both w3 base g gs r D') := ⟨_, q, sv, _, SV3, [], hd2.out.stayR hm3, hr3, Nat.lt_of_lt_of_le (Nat.lt_of_lt_of_le HQ.out hm2.size) hm3.low.size⟩
  have HB3 : Hid (Below base w w3) := (HB1b.out.trans hm2.low).trans hm3.low
  clear hd2 hm2 hm2c hr3 hm3
  go_wp2
  go_ret
  exact ⟨by simp, HF, HB3.out⟩

set_option maxRecDepth 100000 in
set_option maxHeartbeats 4000000 in
theorem law_doN (w : World) (base g gs r : Nat) (D : Dk) (kd at_ : Int) (h0 : ¬ kd = 0) (h1 : ¬ kd = 1) (h2 : ¬ kd = 2) (h3 : ¬ kd = 3) (h4 : ¬ kd = 4) (ba : Option Addr) (bl bc : Nat) (fa : Option Addr) (fl fc : Nat) (h : Both w base g gs r D) :
    Calls Try.prog 23 #[.pointer (some ⟨g, 0, none⟩), .pointer (some ⟨r, 0, none⟩), .agg #[.int .i64 kd, .int .i64 at_, .slice ba bl bc, .slice fa fl fc]] w fun e w' => e = .returned (.bool true) ∧ Hid (Both w' base g gs r D) ∧ Below base w w' := by
  have HBOTH : Hid (Both w base g gs r D) := h
  have HBS : Hid (base ≤ w.heap.size) := h.base
  obtain ⟨W1, HW1⟩ : ∃ W1, Hid (W1 = w.alloc (.cells #[.int .i64 kd, .int .i64 at_, .slice ba bl bc, .slice fa fl fc] 40)) := ⟨_, rfl⟩
  have HB1 : Hid (Below w.heap.size w W1.drew) := by show Below _ _ _; rw [HW1.out]; exact (below_alloc _ _).drew
  obtain ⟨wv, q, sv, rv, SV, WV, hd, hr, hq⟩ := h
  have HD : Hid (Disk W1.drew base g gs wv D) := hd.stay HB1.out
  have HR : Hid (Rk W1.drew base r q sv rv SV WV D) := hr.stay HB1.out
  obtain ⟨aw, cw, rfl, _⟩ := hr.wform
  have hwl : D.waits.length ≤ 1000000000 := hr.wl
  have c1 : W1.drew.cell? ⟨r, 1, none⟩ = some (.slice aw D.waits.length cw) := HR.out.blk.cell 1 rfl
  have c3 : W1.drew.cell? ⟨r, 3, none⟩ = some (.bool D.down) := HR.out.blk.cell 3 rfl
  have c4 : W1.drew.cell? ⟨r, 4, none⟩ = some (.int .i64 (D.age : Int)) := HR.out.blk.cell 4 rfl
  obtain ⟨dn, hdn⟩ : ∃ dn, dn = D.down := ⟨_, rfl⟩
  obtain ⟨nw, hnw⟩ : ∃ nw, nw = D.waits.length := ⟨_, rfl⟩
  obtain ⟨ag, hag⟩ : ∃ ag, ag = D.age := ⟨_, rfl⟩
  have HDN : Hid (dn = D.down ∧ nw = D.waits.length ∧ ag = D.age) := ⟨hdn, hnw, hag⟩
  rw [← hdn] at c3
  rw [← hnw] at c1 hwl
  rw [← hag] at c4
  clear hd hr hq hdn hnw hag
  go_enter Try.func23, Try.ntmps23
  go_wp2
  rw [← HW1.out]
  go_region_held3 (fun w' => w'.cell? ⟨r, 1, none⟩ = some (.slice aw nw cw) ∧ w'.cell? ⟨r, 3, none⟩ = some (.bool dn) ∧ w'.cell? ⟨r, 4, none⟩ = some (.int .i64 (ag : Int))) (exact ⟨c1, c3, c4⟩)
    (first
      | (go_at_call 21; refine (disk_Down _ base g gs wv D HD.out).mono ?_; rw [← HDN.out.1]; rintro e w2 ⟨rfl, rfl⟩)
      | (go_at_call 18; refine (disk_Waits _ base g gs wv D HD.out).mono ?_; rw [← HDN.out.2.1]; rintro e w2 ⟨rfl, rfl⟩)
      | (go_at_call 31; refine (disk_Age _ base g gs wv D HD.out).mono ?_; rw [← HDN.out.2.2]; rintro e w2 ⟨rfl, rfl⟩))
  all_goals
    go_wp2
    go_ret
    exact ⟨by simp, HBOTH.out.stay HB1.out, HB1.out.mono HBS.out⟩
end Go.Proofs.Ythpjaidgacenoaa
