/- A deed, a look at all, a script on both disks. -/
import Derived.Test.YthpjaidgacenoaaQSecDo2
import Derived.Test.YthpjaidgacenoaaQSecGrew
namespace Go.Proofs.Ythpjaidgacenoaa
open Go.RowKit

theorem FtRd.lt {w : World} {a : Option Addr} {n : Nat} {F : List Int} (h : FtRd w a n F) : ∀ b off, a = some ⟨b, off, none⟩ → 0 < n → b < w.heap.size := by
  intro b off e h0
  rcases h.far with h1 | ⟨b', off', h1, h2⟩
  · omega
  · rw [e] at h1
    simp only [Option.some.injEq, Addr.mk.injEq, and_true] at h1
    omega
theorem law_do (w : World) (base g gs r : Nat) (D : Dk) (d : Dq) (h : Both w base g gs r D) (hdq : ∀ w', Below base w w' → DqOk w' d) (hfa : ∀ b off, d.fa = some ⟨b, off, none⟩ → 0 < d.fl → b < base) (hw : D.waits.length < 1000000000) (ha : D.age < 1000000000) :
    Calls Try.prog 23 #[.pointer (some ⟨g, 0, none⟩), .pointer (some ⟨r, 0, none⟩), .agg #[.int .i64 d.kind, .int .i64 d.at_, .slice d.ba d.bl d.bc, .slice d.fa d.fl d.fc]] w fun e w' => e = .returned (.bool true) ∧ Hid (Both w' base g gs r (doD D d)) ∧ Below base w w' := by
  unfold doD
  by_cases h0 : d.kind = 0
  · rw [if_pos h0, h0]; exact law_do0 w base g gs r D d h hdq hw
  rw [if_neg h0]
  by_cases h2 : d.kind = 2
  · rw [if_pos h2, h2]; exact law_do2 w base g gs r D _ _ _ _ _ _ _ h
  rw [if_neg h2]
  by_cases h3 : d.kind = 3
  · rw [if_pos h3, h3]; exact law_do3 w base g gs r D _ (hdq w (Below.refl _ _)).at1 _ _ _ _ _ _ h
  rw [if_neg h3]
  by_cases h4 : d.kind = 4
  · rw [if_pos h4, h4]; exact law_do4 w base g gs r D d hdq hfa ha h
  rw [if_neg h4]
  by_cases h1 : d.kind = 1
  · rw [h1]; exact law_do1 w base g gs r D _ _ _ _ _ _ _ h
  exact law_doN w base g gs r D _ _ h0 h1 h2 h3 h4 _ _ _ _ _ _ h
theorem do_grew (D : Dk) (d : Dq) : Grew D (doD D d) := by
  unfold doD
  split
  · exact write_grew _ _ _
  split
  · exact sync_grew _
  split
  · exact trip_grew _ _
  split
  · exact crash_grew _ _
  · exact Grew.same D

set_option maxRecDepth 100000 in
set_option maxHeartbeats 4000000 in
theorem law_same (w : World) (base g gs r : Nat) (D : Dk) (h : Both w base g gs r D) :
    Calls Try.prog 11 #[.pointer (some ⟨g, 0, none⟩), .pointer (some ⟨r, 0, none⟩)] w fun e w' => e = .returned (.bool true) ∧ Below w.heap.size w w' := by
  obtain ⟨wv, q, sv, rv, SV, WV, hd, hr, hq⟩ := h
  have HB1 : Hid (Below w.heap.size w w.drew) := (Below.refl _ _).drew
  have HD : Hid (Disk w.drew base g gs wv D) := hd.stay HB1.out
  have HR : Hid (Rk w.drew base r q sv rv SV WV D) := hr.stay HB1.out
  obtain ⟨aw, cw, rfl, _⟩ := hr.wform
  obtain ⟨rs, cs, rfl, _⟩ := hr.form
  have hwl : D.waits.length ≤ 1000000000 := hr.wl
  have hsl : D.sure.length ≤ 512 := hr.sz
  have c0 : w.drew.cell? ⟨r, 0, none⟩ = some (.slice (some ⟨rs, 0, none⟩) D.sure.length cs) := HR.out.blk.cell 0 rfl
  have c1 : w.drew.cell? ⟨r, 1, none⟩ = some (.slice aw D.waits.length cw) := HR.out.blk.cell 1 rfl
  have c3 : w.drew.cell? ⟨r, 3, none⟩ = some (.bool D.down) := HR.out.blk.cell 3 rfl
  have c4 : w.drew.cell? ⟨r, 4, none⟩ = some (.int .i64 (D.age : Int)) := HR.out.blk.cell 4 rfl
  obtain ⟨dn, hdn⟩ : ∃ dn, dn = D.down := ⟨_, rfl⟩
  obtain ⟨nw, hnw⟩ : ∃ nw, nw = D.waits.length := ⟨_, rfl⟩
  obtain ⟨ns, hns⟩ : ∃ ns, ns = D.sure.length := ⟨_, rfl⟩
  obtain ⟨ag, hag⟩ : ∃ ag, ag = D.age := ⟨_, rfl⟩
  have HDN : Hid (dn = D.down ∧ nw = D.waits.length ∧ ag = D.age ∧ ns = D.sure.length) := ⟨hdn, hnw, hag, hns⟩
  rw [← hdn] at c3
  rw [← hnw] at c1 hwl
  rw [← hag] at c4
  rw [← hns] at c0 hsl
  rw [← hnw, ← hns] at HR
  clear hd hr hq hdn hnw hag hns
  go_enter Try.func11, Try.ntmps11
  go_wp2
  go_region_held3 (fun w' => w'.cell? ⟨r, 0, none⟩ = some (.slice (some ⟨rs, 0, none⟩) ns cs) ∧ w'.cell? ⟨r, 1, none⟩ = some (.slice aw nw cw) ∧ w'.cell? ⟨r, 3, none⟩ = some (.bool dn) ∧ w'.cell? ⟨r, 4, none⟩ = some (.int .i64 (ag : Int))) (exact ⟨c0, c1, c3, c4⟩)
    (first
      | (go_at_call 21; refine (disk_Down _ base g gs wv D HD.out).mono ?_; rw [← HDN.out.1]; rintro e w2 ⟨rfl, rfl⟩)
      | (go_at_call 18; refine (disk_Waits _ base g gs wv D HD.out).mono ?_; rw [← HDN.out.2.1]; rintro e w2 ⟨rfl, rfl⟩)
      | (go_at_call 19; refine (disk_Size _ base g gs wv D HD.out).mono ?_; rw [← HDN.out.2.2.2]; rintro e w2 ⟨rfl, rfl⟩)
      | (go_at_call 31; refine (disk_Age _ base g gs wv D HD.out).mono ?_; rw [← HDN.out.2.2.1]; rintro e w2 ⟨rfl, rfl⟩))
  generalize w.drew = wd at *
  clear c1 c3 c4
  go_wp2
  go_loopw [5] (fun t5 wr => ∃ (i : Int), -1 ≤ i ∧ i ≤ (ns : Int) + 1 ∧ t5 = .int .i64 i ∧ Hid (Below wd.heap.size wd wr)) (fun t5 _ => ((ns : Int) + 1 - intOf t5).toNat)
  case atStart => exact ⟨-1, by omega, by omega, rfl, Below.refl _ _⟩
  case round =>
    obtain ⟨i, hi1, hi2, rfl, HB⟩ := hrel
    have HDr : Hid (Disk wr base g gs wv D) := HD.out.stay HB.out
    have HRr : Hid (Rk wr base r q (.slice (some ⟨rs, 0, none⟩) ns cs) (.slice aw nw cw) SV WV D) := HR.out.stay HB.out
    have d0 : wr.cell? ⟨r, 0, none⟩ = some (.slice (some ⟨rs, 0, none⟩) ns cs) := HRr.out.blk.cell 0 rfl
    by_cases hlt : i ≤ (ns : Int)
    · obtain ⟨E, HE⟩ : ∃ E, Hid (E = readE D i) := ⟨_, rfl⟩
      obtain ⟨X, HX⟩ : ∃ X, Hid (X = tellB (readE D i) (nowB D i.toNat)) := ⟨_, rfl⟩
      obtain ⟨E2, HE2⟩ : ∃ E2, Hid (E2 = sureE D i) := ⟨_, rfl⟩
      obtain ⟨Y, HY⟩ : ∃ Y, Hid (Y = tellB (sureE D i) (D.sure.getD i.toNat [])) := ⟨_, rfl⟩
      go_wp2_with fail
      refine (disk_Read wr base g gs wv D i HDr.out).mono ?_
      rintro e w1 ⟨ht1, hb1⟩
      obtain ⟨a1, l1, k1, rfl, hr1⟩ := ht1.out.uni
      rw [← HX.out] at hr1
      rw [← HE.out]
      have HR1 : Hid (Rd w1 a1 l1 X) := hr1
      have HB1 : Hid (Below wr.heap.size wr w1) := hb1
      clear ht1 hr1 hb1 d0
      go_wp2_with fail
      refine (ref_Read w1 base r q _ _ SV WV D i (HRr.out.stay HB1.out)).mono ?_
      rintro e w2 ⟨ht2, hb2⟩
      obtain ⟨a2, l2, k2, rfl, hr2⟩ := ht2.out.uni
      rw [← HX.out] at hr2
      rw [← HE.out]
      have HR2 : Hid (Rd w2 a2 l2 X) := hr2
      have HB2 : Hid (Below w1.heap.size w1 w2) := hb2
      have HB02 : Hid (Below wr.heap.size wr w2) := HB1.out.trans (hb2.mono HB1.out.size)
      clear ht2 hr2 hb2
      go_wp2_with fail
      refine (disk_Sure w2 base g gs wv D i (HDr.out.stay HB02.out)).mono ?_
      rintro e w3 ⟨ht3, hb3⟩
      obtain ⟨a3, l3, k3, rfl, hr3⟩ := ht3.out.uni
      rw [← HY.out] at hr3
      rw [← HE2.out]
      have HR3 : Hid (Rd w3 a3 l3 Y) := hr3
      have HB3 : Hid (Below w2.heap.size w2 w3) := hb3
      have HB03 : Hid (Below wr.heap.size wr w3) := HB02.out.trans (hb3.mono HB02.out.size)
      clear ht3 hr3 hb3
      go_wp2_with fail
      refine (ref_Sure w3 base r q _ _ SV WV D i (HRr.out.stay HB03.out)).mono ?_
      rintro e w4 ⟨ht4, hb4⟩
      obtain ⟨a4, l4, k4, rfl, hr4⟩ := ht4.out.uni
      rw [← HY.out] at hr4
      rw [← HE2.out]
      have v1 : (convert 30 9 (.slice a1 l1 k1)).run Try.prog w4 = .ok (.string (str X)) w4 := conv_rd (((HR1.out.below HB2.out).below HB3.out).below hb4) k1
      have v2 : (convert 30 9 (.slice a2 l2 k2)).run Try.prog w4 = .ok (.string (str X)) w4 := conv_rd ((HR2.out.below HB3.out).below hb4) k2
      have v3 : (convert 30 9 (.slice a3 l3 k3)).run Try.prog w4 = .ok (.string (str Y)) w4 := conv_rd (HR3.out.below hb4) k3
      have v4 : (convert 30 9 (.slice a4 l4 k4)).run Try.prog w4 = .ok (.string (str Y)) w4 := conv_rd hr4 k4
      have HB4 : Hid (Below wd.heap.size wd w4) := HB.out.trans ((HB03.out.trans (hb4.mono HB03.out.size)).mono HB.out.size)
      clear ht4 hr4 hb4 HR1 HR2 HR3
      go_wp2
      go_roundw
      case rel => exact ⟨i + 1, by omega, by omega, by go_num, HB4⟩
      case measure => simp [intOf]; omega
    · have HB0 : Hid (Below w.heap.size w wr) := HB1.out.trans (HB.out.mono HB1.out.size)
      go_wp2
      go_ret
      exact ⟨rfl, HB0.out⟩

def sizeN (n : Int) : Nat := 1 + (n % 18446744073709551616).toNat % 8
theorem sizeN_le (n : Int) : 1 ≤ sizeN n ∧ sizeN n ≤ 8 := by unfold sizeN; omega
set_option maxRecDepth 100000 in
theorem law_size (n : Int) (w : World) : Calls Try.prog 29 #[.int .i64 n] w fun e w' => e = .returned (.int .i64 (sizeN n : Int)) ∧ w' = w := by
  obtain ⟨u, hu⟩ : ∃ u : Nat, u = (n % 18446744073709551616).toNat := ⟨_, rfl⟩
  have y1 : IntKind.u64.wrap n = (u : Int) := by rw [IntKind.wrap_u64, hu]; omega
  obtain ⟨v, hv⟩ : ∃ v : Nat, v = u % 8 := ⟨_, rfl⟩
  have y2 : (u : Int) % 8 = (v : Int) := by omega
  have hv8 : v < 8 := by omega
  have y3 : IntKind.i64.wrap (v : Int) = (v : Int) := by rw [IntKind.wrap_i64]; omega
  have HS : Hid ((sizeN n : Int) = 1 + (v : Int)) := by show _ = _; rw [sizeN, ← hu, ← hv]; omega
  have hul : u < 18446744073709551616 := by omega
  clear hu hv
  go_enter Try.func29, Try.ntmps29
  go_wp2
  go_ret
  exact ⟨ret_int (by rw [HS.out]), rfl⟩
/-- What play tells. -/
def PlayTold (w w' : World) (n : Int) (e : Ending) : Prop := ∃ g gs r D, e = .returned (.tuple #[.pointer (some ⟨g, 0, none⟩), .pointer (some ⟨r, 0, none⟩), .bool true]) ∧ Both w' w.heap.size g gs r D ∧ D.waits.length ≤ 300 ∧ D.age ≤ 300 ∧ D.sure.length = sizeN n

set_option maxRecDepth 100000 in
set_option maxHeartbeats 4000000 in
theorem law_play (w : World) (n : Int) (a : Option Addr) (len cap : Nat) (l : List Dq) (hl : DqsRd w a len l) (hlb : len ≤ 9223372036854775807) :
    Calls Try.prog 9 #[.int .i64 n, .slice a len cap] w fun e w' => Hid (PlayTold w w' n e) ∧ Below w.heap.size w w' := by
  have HL : Hid (DqsRd w a len l) := hl
  obtain ⟨m, hm⟩ : ∃ m, m = sizeN n := ⟨_, rfl⟩
  have hm8 : 1 ≤ m ∧ m ≤ 8 := by rw [hm]; exact sizeN_le n
  have HM : Hid (m = sizeN n) := hm
  obtain ⟨base, hbase⟩ : ∃ base, base = w.heap.size := ⟨_, rfl⟩
  have HBASE : Hid (base = w.heap.size) := hbase
  clear hl hm hbase
  go_enter Try.func9, Try.ntmps9
  go_wp2_with fail
  refine (law_size n w).mono ?_
  rw [← HM.out]
  rintro e w0 ⟨rfl, hw⟩
  rw [hw]
  clear hw w0
  go_wp2_with fail
  refine (sector_New (m : Int) w).mono ?_
  rintro e w1 ⟨ht, hb1⟩
  rcases ht.out with ⟨h0, _⟩ | ⟨_, g, rfl, hd⟩
  · exact absurd ⟨by omega, by omega⟩ h0
  rw [Int.toNat_natCast, ← HBASE.out] at hd
  have HD1 : Hid (Disk w1 base g base (.slice none 0 0) (newD m)) := hd
  have HB1 : Hid (Below base w w1) := by show Below _ _ _; rw [HBASE.out]; exact hb1
  clear ht hd hb1
  go_wp2_with fail
  refine (law_size n w1).mono ?_
  rw [← HM.out]
  rintro e w0 ⟨rfl, hw⟩
  rw [hw]
  clear hw w0
  go_wp2_with fail
  refine (ref_New m hm8.1 (by omega) base w1 HD1.out.srow.lt).mono ?_
  rintro e w2 ⟨r, rfl, hr, hb2⟩
  obtain ⟨sv, SV, hr⟩ := hr.out
  have HB0 : Hid (Both w2 base g base r (newD m)) := ⟨_, base, sv, _, SV, [], HD1.out.stay hb2, hr.lower (Nat.le_trans HD1.out.bs (Nat.le_of_lt HD1.out.srow.lt)), Nat.lt_of_lt_of_le HD1.out.srow.lt hb2.size⟩
  have HB2 : Hid (Below base w w2) := HB1.out.trans (hb2.mono (Nat.le_trans HD1.out.bs (Nat.le_of_lt HD1.out.srow.lt)))
  clear hr hb2
  go_wp2
  go_loopw [11] (fun t11 wr => ∃ (i : Nat) (D : Dk), i ≤ len ∧ i ≤ 300 ∧ t11 = .int .i64 (i : Int) ∧ Hid (Both wr base g base r D) ∧ Hid (D.waits.length ≤ i ∧ D.age ≤ i ∧ D.sure.length = m) ∧ Hid (Below base w wr)) (fun t11 _ => len - (intOf t11).toNat)
  case atStart => exact ⟨0, newD m, by omega, by omega, rfl, HB0, ⟨Nat.le_refl _, Nat.le_refl _, by simp [newD]⟩, HB2⟩
  case round =>
    obtain ⟨i, D, hi, hi3, rfl, HBo, HG, HB⟩ := hrel
    by_cases hlt : i < len
    · have hlt' : (i : Int) < (len : Int) := by omega
      by_cases h300 : i < 300
      · have h300' : (i : Int) < 300 := by omega
        have HBw : Hid (Below w.heap.size w wr) := by show Below _ _ _; rw [← HBASE.out]; exact HB.out
        obtain ⟨gl, o, rfl, _, d, hd, hok, e0, e1, e2, e3⟩ := (HL.out.below HBw.out).spot i hlt
        have HLd : Hid (l[i]? = some d) := hd
        have hi0 : (0 : Int) ≤ (i : Int) := by omega
        have HDQ : Hid (∀ w', Below base wr w' → DqOk w' d) := fun w' hb' => (HL.out.each d (List.mem_of_getElem? HLd.out)).below (by rw [← HBASE.out]; exact HB.out.trans hb')
        have HFA : Hid (∀ b off, d.fa = some ⟨b, off, none⟩ → 0 < d.fl → b < base) := by show ∀ _ _, _; rw [HBASE.out]; exact (HL.out.each d (List.mem_of_getElem? HLd.out)).ft.lt
        clear hd hok
        go_wp2_with fail
        refine (law_do wr base g base r D d HBo.out HDQ.out HFA.out (by have := HG.out.1; omega) (by have := HG.out.2.1; omega)).mono ?_
        rintro e w3 ⟨rfl, hb3, hbl3⟩
        have HBo3 : Hid (Both w3 base g base r (doD D d)) := hb3.out
        have HB3 : Hid (Below base w w3) := HB.out.trans hbl3
        have HG3 : Hid ((doD D d).waits.length ≤ i + 1 ∧ (doD D d).age ≤ i + 1 ∧ (doD D d).sure.length = m) := by
          obtain ⟨g1, g2, g3⟩ := do_grew D d
          obtain ⟨f1, f2, f3⟩ := HG.out
          exact ⟨by omega, by omega, by omega⟩
        clear hb3 hbl3 e0 e1 e2 e3
        go_wp2
        go_roundw
        case rel => exact ⟨i + 1, doD D d, by omega, by omega, by go_num, HBo3, HG3, HB3⟩
        case measure => simp [intOf]; omega
      · have h300' : ¬ (i : Int) < 300 := by omega
        have HF : Hid (PlayTold w wr n (.returned (.tuple #[.pointer (some ⟨g, 0, none⟩), .pointer (some ⟨r, 0, none⟩), .bool true]))) := ⟨g, base, r, D, rfl, by rw [← HBASE.out]; exact HBo.out, by have := HG.out.1; omega, by have := HG.out.2.1; omega, by rw [HG.out.2.2, HM.out]⟩
        have HBw : Hid (Below w.heap.size w wr) := by show Below _ _ _; rw [← HBASE.out]; exact HB.out
        go_wp2
        go_returns
        exact ⟨HF, HBw.out⟩
    · have hlt' : ¬ (i : Int) < (len : Int) := by omega
      have HF : Hid (PlayTold w wr n (.returned (.tuple #[.pointer (some ⟨g, 0, none⟩), .pointer (some ⟨r, 0, none⟩), .bool true]))) := ⟨g, base, r, D, rfl, by rw [← HBASE.out]; exact HBo.out, by have := HG.out.1; omega, by have := HG.out.2.1; omega, by rw [HG.out.2.2, HM.out]⟩
      have HBw : Hid (Below w.heap.size w wr) := by show Below _ _ _; rw [← HBASE.out]; exact HB.out
      go_wp2
      go_returns
      exact ⟨HF, HBw.out⟩
end Go.Proofs.Ythpjaidgacenoaa
