/- A deed on both disks. -/
import Derived.Test.YthpjaidgacenoaaQSecDeed2
import Derived.Test.YthpjaidgacenoaaQSecGrew
namespace Go.Proofs.Ythpjaidgacenoaa
open Go.RowKit

def doD (D : Dk) (d : Dq) : Dk := if d.kind = 0 then writeD D d.at_ d.bs else if d.kind = 2 then syncD D else if d.kind = 3 then tripD D d.at_ else if d.kind = 4 then crashD D d.F else D
/-- Both disks are as one says. -/
def Both (w : World) (base g gs r : Nat) (D : Dk) : Prop := ∃ wv q sv rv SV WV, Disk w base g gs wv D ∧ Rk w base r q sv rv SV WV D ∧ q < w.heap.size
set_option maxRecDepth 100000 in
set_option maxHeartbeats 2000000 in
theorem law_do2 (w : World) (base g gs r : Nat) (D : Dk) (at_ : Int) (ba : Option Addr) (bl bc : Nat) (fa : Option Addr) (fl fc : Nat) (h : Both w base g gs r D) :
    Calls Try.prog 23 #[.pointer (some ⟨g, 0, none⟩), .pointer (some ⟨r, 0, none⟩), .agg #[.int .i64 2, .int .i64 at_, .slice ba bl bc, .slice fa fl fc]] w fun e w' => e = .returned (.bool true) ∧ Hid (Both w' base g gs r (syncD D)) ∧ Below base w w' := by
  obtain ⟨wv, q, sv, rv, SV, WV, hd, hr, hq⟩ := h
  obtain ⟨W1, HW1⟩ : ∃ W1, Hid (W1 = w.alloc (.cells #[.int .i64 2, .int .i64 at_, .slice ba bl bc, .slice fa fl fc] 40)) := ⟨_, rfl⟩
  have HB1 : Hid (Below w.heap.size w W1) := by show Below _ _ _; rw [HW1.out]; exact below_alloc _ _
  have HBS : Hid (base ≤ w.heap.size) := Nat.le_trans hd.bg (Nat.le_of_lt hd.blk.lt)
  have HD : Hid (Disk W1 base g gs wv D) := hd.stay HB1.out
  have HR : Hid (Rk W1 base r q sv rv SV WV D) := hr.stay HB1.out
  have HQ : Hid (q < W1.heap.size) := Nat.lt_of_lt_of_le hq HB1.out.size
  clear hd hr hq
  go_enter Try.func23, Try.ntmps23
  go_wp2_with fail
  rw [← HW1.out]
  refine (disk_Sync W1 base g gs wv D HD.out).mono ?_
  rintro e w2 ⟨rfl, hd2, hm2⟩
  obtain ⟨wv2, hd2⟩ := hd2.out
  have HD2 : Hid (Disk w2 base g gs wv2 (syncD D)) := hd2
  have HM2 : Hid (Mv W1 w2 base g gs) := hm2
  have HR2 : Hid (Rk w2 base r q sv rv SV WV D) := HR.out.move (Keep.of_mv HD.out hm2 q)
  have HQ2 : Hid (q < w2.heap.size) := Nat.lt_of_lt_of_le HQ.out hm2.size
  clear hd2 hm2
  go_wp2_with fail
  refine (ref_Sync w2 base r q sv rv SV WV D HR2.out HQ2.out).mono ?_
  rintro e w3 ⟨rfl, hr3, hm3⟩
  obtain ⟨rv3, SV3, WV3, hr3⟩ := hr3.out
  have HF : Hid (Both w3 base g gs r (syncD D)) := ⟨wv2, q, sv, rv3, SV3, WV3, HD2.out.stayR hm3, hr3, Nat.lt_of_lt_of_le HQ2.out hm3.low.size⟩
  have HB3 : Hid (Below base w w3) := ((HB1.out.mono HBS.out).trans HM2.out.low).trans hm3.low
  clear hr3 hm3
  go_wp2
  go_ret
  exact ⟨by simp, HF, HB3.out⟩

set_option maxRecDepth 100000 in
set_option maxHeartbeats 2000000 in
theorem law_do0 (w : World) (base g gs r : Nat) (D : Dk) (d : Dq) (h : Both w base g gs r D) (hdq : ∀ w', Below base w w' → DqOk w' d) (hw : D.waits.length < 1000000000) :
    Calls Try.prog 23 #[.pointer (some ⟨g, 0, none⟩), .pointer (some ⟨r, 0, none⟩), .agg #[.int .i64 0, .int .i64 d.at_, .slice d.ba d.bl d.bc, .slice d.fa d.fl d.fc]] w fun e w' => e = .returned (.bool true) ∧ Hid (Both w' base g gs r (writeD D d.at_ d.bs)) ∧ Below base w w' := by
  obtain ⟨wv, q, sv, rv, SV, WV, hd, hr, hq⟩ := h
  obtain ⟨dk, at_, ba, bl, bc, bs, fa, fl, fc, F⟩ := d
  simp only at *
  have HDQ : Hid (∀ w', Below base w w' → DqOk w' ⟨dk, at_, ba, bl, bc, bs, fa, fl, fc, F⟩) := hdq
  have hok := hdq w (Below.refl _ _)
  have hbb : bl ≤ 140737488351232 := hok.bb
  have HNC : Hid (ba = none → bc = 0) := hok.nc
  have HBS : Hid (base ≤ w.heap.size) := Nat.le_trans hd.bg (Nat.le_of_lt hd.blk.lt)
  have HBA : Hid (Below w.heap.size w ((w.alloc (.cells #[.int .i64 0, .int .i64 at_, .slice ba bl bc, .slice fa fl fc] 40)).alloc (.cells #[] 5))) := (below_alloc _ _).trans ((below_alloc _ _).mono (by simp))
  have HRD : Hid (Rd ((w.alloc (.cells #[.int .i64 0, .int .i64 at_, .slice ba bl bc, .slice fa fl fc] 40)).alloc (.cells #[] 5)) ba bl bs) := hok.rd.below HBA.out
  have HOW : Hid (Own ((w.alloc (.cells #[.int .i64 0, .int .i64 at_, .slice ba bl bc, .slice fa fl fc] 40)).alloc (.cells #[] 5)) (w.heap.size + 1) (some ⟨w.heap.size + 1, 0, none⟩) 0 0 []) := Own.empty2 w _
  have HKX : Hid (Blk ((w.alloc (.cells #[.int .i64 0, .int .i64 at_, .slice ba bl bc, .slice fa fl fc] 40)).alloc (.cells #[] 5)) w.heap.size #[.int .i64 0, .int .i64 at_, .slice ba bl bc, .slice fa fl fc] 40) := (Blk.new w _ _).stay (below_alloc _ _)
  have HSZ : Hid (w.heap.size + 1 ≤ ((w.alloc (.cells #[.int .i64 0, .int .i64 at_, .slice ba bl bc, .slice fa fl fc] 40)).alloc (.cells #[] 5)).heap.size) := by show _ ≤ _; simp
  have HD : Hid (Disk w base g gs wv D) := hd
  have HR : Hid (Rk w base r q sv rv SV WV D) := hr
  obtain ⟨D', HDE⟩ : ∃ D', Hid (D' = writeD D at_ bs) := ⟨_, rfl⟩
  obtain ⟨E, HE⟩ : ∃ E, Hid (E = writeE D at_ bs) := ⟨_, rfl⟩
  rw [← HDE.out]
  clear hd hr hok hdq
  go_enter Try.func23, Try.ntmps23
  go_wp2_with (guard_target =~ wpList _ _ _ (Oper.mk (some 24) _ _ _ _ _ :: _) _ _; refine wpList_append_rd rfl (.tmp 21) (.tmp 23) rfl (w.heap.size + 1) (some ⟨w.heap.size + 1, 0, none⟩) 0 0 [] rfl HOW.out ba bl bc bs rfl HRD.out HNC.out (by omega) HSZ.out ?_)
  intro a3 c3 w3 ho3 hg3 hb3
  have HO3 : Hid (Own w3 (w.heap.size + 1) a3 bl c3 bs) := by
    show Own _ _ _ _ _ _
    simpa using ho3
  have HB3 : Hid (Below w.heap.size w w3) := HBA.out.trans (hb3.mono (Nat.le_succ _))
  have HKX3 : Hid (Blk w3 w.heap.size #[.int .i64 0, .int .i64 at_, .slice ba bl bc, .slice fa fl fc] 40) := HKX.out.below hb3 (Nat.lt_succ_self _)
  obtain ⟨qo, hqo⟩ : ∃ qo, w.heap.size ≤ qo ∧ qo < w3.heap.size ∧ (bl = 0 ∨ (a3 = some ⟨qo, 0, none⟩ ∧ ∃ cs, w3.heap[qo]? = some (.cells cs 5 (0, 0)))) := by
    rcases HO3.out.block with h0 | ⟨k, h1, h2, h3, h4⟩
    · exact ⟨w.heap.size, Nat.le_refl _, HKX3.out.lt, .inl h0⟩
    · exact ⟨k, by omega, h3, .inr ⟨h1, h4⟩⟩
  have HQO : Hid (w.heap.size ≤ qo ∧ qo < w3.heap.size ∧ (bl = 0 ∨ (a3 = some ⟨qo, 0, none⟩ ∧ ∃ cs, w3.heap[qo]? = some (.cells cs 5 (0, 0))))) := hqo
  have HD3 : Hid (Disk w3 base g gs wv D) := HD.out.stay HB3.out
  have HR3 : Hid (Rk w3 base r qo sv rv SV WV D) := (HR.out.fresh HQO.out.1).stay HB3.out
  have e1 : w3.cell? ⟨w.heap.size, 1, none⟩ = some (.int .i64 at_) := HKX3.out.cell 1 rfl
  have HNE : Hid (w.heap.size ≠ g ∧ w.heap.size ≠ gs) := ⟨fun e => by have := HD.out.blk.lt; omega, fun e => by have := HD.out.srow.lt; omega⟩
  clear ho3 hg3 hb3 HKX HOW HRD HBA HSZ hqo
  go_wp2_with fail
  refine (disk_Write w3 base g gs wv D at_ a3 bl c3 bs HD3.out (fun w' hm => (HO3.out.mv HD3.out hm).rd) (by omega) hw).mono ?_
  rw [← HE.out, ← HDE.out]
  rintro e w4 ⟨rfl, hd4, hm4⟩
  obtain ⟨wv4, hd4⟩ := hd4.out
  have HD4 : Hid (Disk w4 base g gs wv4 D') := hd4
  have HM4 : Hid (Mv w3 w4 base g gs) := hm4
  have HKX4 : Hid (Blk w4 w.heap.size #[.int .i64 0, .int .i64 at_, .slice ba bl bc, .slice fa fl fc] 40) := hm4.keep HKX3.out HNE.out.1 HNE.out.2 (by decide)
  have HO4 : Hid (Own w4 (w.heap.size + 1) a3 bl c3 bs) := HO3.out.mv HD3.out hm4
  have HR4 : Hid (Rk w4 base r qo sv rv SV WV D) := HR3.out.move (Keep.of_mv HD3.out hm4 qo)
  have HB4 : Hid (Below base w w4) := (HB3.out.mono HBS.out).trans hm4.low
  have HQ4 : Hid (qo < w4.heap.size) := Nat.lt_of_lt_of_le HQO.out.2.1 hm4.size
  have d1 : w4.cell? ⟨w.heap.size, 1, none⟩ = some (.int .i64 at_) := HKX4.out.cell 1 rfl
  have d2 : w4.cell? ⟨w.heap.size, 2, none⟩ = some (.slice ba bl bc) := HKX4.out.cell 2 rfl
  clear hd4 hm4 e1
  go_wp2_with fail
  refine (ref_Write w4 base r qo sv rv SV WV D at_ ba bl bc bs HR4.out HQ4.out (fun w' hm => (HDQ.out w' (HB4.out.trans hm.low)).rd) HNC.out (by omega) hw).mono ?_
  rw [← HE.out, ← HDE.out]
  rintro e w5 ⟨rfl, hr5, hm5⟩
  obtain ⟨rv5, WV5, hr5⟩ := hr5.out
  have HR5 : Hid (Rk w5 base r qo sv rv5 SV WV5 D') := hr5
  have HD5 : Hid (Disk w5 base g gs wv4 D') := HD4.out.stayR hm5
  have HO5 : Hid (Own w5 (w.heap.size + 1) a3 bl c3 bs) := HO4.out.mr hm5
  have HB5 : Hid (Below base w w5) := HB4.out.trans hm5.low
  have HQ5 : Hid (qo < w5.heap.size) := Nat.lt_of_lt_of_le HQ4.out hm5.low.size
  clear hr5 hm5 d1 d2
  go_wp2
  go_loopw [10] (fun t10 wr => ∃ (i : Nat) (xs : List Nat), i ≤ bl ∧ t10 = .int .i64 (i : Int) ∧ Hid (Own wr (w.heap.size + 1) a3 bl c3 xs) ∧ Hid (Disk wr base g gs wv4 D') ∧ Hid (Rk wr base r qo sv rv5 SV WV5 D') ∧ Hid (Below base w wr) ∧ Hid (qo < wr.heap.size)) (fun t10 _ => bl - (intOf t10).toNat)
  case atStart => exact ⟨0, bs, Nat.zero_le _, rfl, HO5, HD5, HR5, HB5, HQ5⟩
  case round =>
    obtain ⟨i, xs, hi, rfl, HO, HDr, HRr, HBr, HQr⟩ := hrel
    by_cases hlt : i < bl
    · have hlt' : (i : Int) < (bl : Int) := by omega
      have hi0 : (0 : Int) ≤ (i : Int) := by omega
      obtain ⟨rfl, _⟩ : a3 = some ⟨qo, 0, none⟩ ∧ True := by
        rcases HQO.out.2.2 with h0 | h0
        · omega
        · exact ⟨h0.1, trivial⟩
      have ci : wr.cell? ⟨qo, i, none⟩ = some (.int .u8 ((xs.getD i 0 : Nat) : Int)) := by
        have := HO.out.rd.cells
        rcases this with h0 | ⟨b, off, h1, _, h3⟩
        · omega
        · simp only [Option.some.injEq, Addr.mk.injEq, and_true] at h1
          obtain ⟨rfl, rfl⟩ := h1
          have := h3 i hlt
          rwa [Nat.zero_add] at this
      have fi : wr.frozen? ⟨qo, i, none⟩ = false := HO.out.row.frozenAt i
      obtain ⟨x, hx⟩ : ∃ x, x = xs.getD i 0 := ⟨_, rfl⟩
      rw [← hx] at ci
      have hx256 : x < 256 := by rw [hx]; exact getD_lt HO.out.byte i
      clear hx
      obtain ⟨z, hz⟩ : ∃ z, z = x ^^^ 119 := ⟨_, rfl⟩
      have ez : bits BinOp.xor IntKind.u8 (x : Int) 119 = (z : Int) := by rw [hz]; exact u8_xor_nat x 119 hx256 (by omega)
      have hz256 : z < 256 := by rw [hz]; exact Nat.xor_lt_two_pow (n := 8) hx256 (by omega)
      clear hz
      have hgc := grown_cell wr qo i (.int .u8 (z : Int))
      obtain ⟨cs0, hcs0⟩ : ∃ cs, wr.heap[qo]? = some (.cells cs 5 (0, 0)) := by
        rcases HO.out.block with h0 | ⟨k, h1, _, _, h4⟩
        · omega
        · simp only [Option.some.injEq, Addr.mk.injEq, and_true] at h1
          rw [h1]; exact h4
      have HFAR : Hid (∀ (k : Nat) cs t fr, wr.heap[k]? = some (.cells cs t fr) → t ≠ 5 ∨ k ≠ qo → (wr.setCell ⟨qo, i, none⟩ (.int .u8 (z : Int))).heap[k]? = some (.cells cs t fr)) := fun k cs t fr h1 h2 => by
        rw [hgc.block k (heap_lt h1) (fun e => ?_)]
        · exact h1
        · simp only [Option.some.injEq] at e
          subst e
          rcases h2 with h2 | h2
          · rw [hcs0] at h1
            simp only [Option.some.injEq, Obj.cells.injEq] at h1
            exact h2 h1.2.1.symm
          · exact h2 rfl
      have HOn : Hid (Own (wr.setCell ⟨qo, i, none⟩ (.int .u8 (z : Int))) (w.heap.size + 1) (some ⟨qo, 0, none⟩) bl c3 (xs.set i z)) := HO.out.poke i z hz256
      have HDn : Hid (Disk (wr.setCell ⟨qo, i, none⟩ (.int .u8 (z : Int))) base g gs wv4 D') := HDr.out.far (fun k cs t fr h1 h2 => HFAR.out k cs t fr h1 (.inl h2))
      have HRn : Hid (Rk (wr.setCell ⟨qo, i, none⟩ (.int .u8 (z : Int))) base r qo sv rv5 SV WV5 D') := HRr.out.move (fun k cs t fr h1 h2 => HFAR.out k cs t fr h1 (by
        rcases h2 with rfl | rfl | rfl | ⟨_, h3⟩
        · exact .inl (by decide)
        · exact .inl (by decide)
        · exact .inl (by decide)
        · exact .inr h3))
      have HBn : Hid (Below base w (wr.setCell ⟨qo, i, none⟩ (.int .u8 (z : Int)))) := HBr.out.setCell (by have := HBS.out; have := HQO.out.1; show base ≤ qo; omega) _
      have HQn : Hid (qo < (wr.setCell ⟨qo, i, none⟩ (.int .u8 (z : Int))).heap.size) := by show _ < _; simp; exact HQr.out
      clear hgc hcs0
      go_wp2
      go_roundw
      case rel => exact ⟨i + 1, xs.set i z, by omega, by go_num, HOn, HDn, HRn, HBn, HQn⟩
      case measure => simp [intOf]; omega
    · obtain rfl : i = bl := by omega
      have HF : Hid (Both wr base g gs r D') := ⟨wv4, qo, sv, rv5, SV, WV5, HDr.out, HRr.out, HQr.out⟩
      go_wp2
      go_ret
      exact ⟨by simp, HF, HBr.out⟩
end Go.Proofs.Ythpjaidgacenoaa
