/- All that both disks and their cells tell; a script on both. -/
import Derived.Test.YthpjaidgacenoabMkPlay
namespace Go.Proofs.Ythpjaidgacenoab
open Go.RowKit

set_option maxRecDepth 100000 in
set_option maxHeartbeats 4000000 in
theorem m_same (w : World) (base gp g gs r : Nat) (D : Dk) (h : Four w base gp g gs r D) :
    Calls Try.prog 14 #[.pointer (some ⟨gp, 0, none⟩)] w fun e w' => e = .returned (.bool true) ∧ Below w.heap.size w w' := by
  obtain ⟨gc, gy, q, wv, sv, rv, SV, WV, h⟩ := h
  have HQ : Hid (Quad w base gp g gs gc r gy q wv sv rv SV WV D) := h
  clear h
  go_enter Try.func14, Try.ntmps14
  go_wp2
  go_loopw [3] (fun t3 wr => ∃ (i : Int), -1 ≤ i ∧ i ≤ 4 ∧ t3 = .int .i64 i ∧ Hid (Below w.heap.size w wr)) (fun t3 _ => (4 - intOf t3).toNat)
  case atStart => exact ⟨-1, by omega, by omega, rfl, Below.refl _ _⟩
  case round =>
    obtain ⟨i, hi1, hi2, rfl, HB⟩ := hrel
    have HQr : Hid (Quad wr base gp g gs gc r gy q wv sv rv SV WV D) := HQ.out.stay HB.out
    by_cases hlt : i ≤ 3
    · obtain ⟨⟨x, y⟩, HG⟩ : ∃ G, Hid (G = getB D 1 3 i) := ⟨_, rfl⟩
      have p1 : wr.cell? ⟨gp, 1, none⟩ = some (.pointer (some ⟨gc, 0, none⟩)) := Blk.cell HQr.out.pr 1 rfl
      go_wp2_with fail
      refine (cells_Get wr base g gs wv D gc 1 3 i HQr.out.dk HQr.out.cs (by omega) (by omega)).mono ?_
      rw [← HG.out]
      rintro e w1 ⟨rfl, hb1⟩
      have HB1 : Hid (Below wr.heap.size wr w1) := hb1
      have HQ1 : Hid (Quad w1 base gp g gs gc r gy q wv sv rv SV WV D) := HQr.out.stay hb1
      have p3 : w1.cell? ⟨gp, 3, none⟩ = some (.pointer (some ⟨gy, 0, none⟩)) := Blk.cell HQ1.out.pr 3 rfl
      clear hb1 p1
      go_wp2_with fail
      refine (ref_Get w1 base r q sv rv SV WV D gy 1 3 i HQ1.out.rk HQ1.out.cr (by omega) (by omega)).mono ?_
      rw [← HG.out]
      rintro e w2 ⟨rfl, hb2⟩
      have HB2 : Hid (Below w.heap.size w w2) := HB.out.trans ((HB1.out.trans (hb2.mono HB1.out.size)).mono HB.out.size)
      clear hb2 p3
      go_wp2
      go_roundw
      case rel => exact ⟨i + 1, by omega, by omega, by go_num, HB2⟩
      case measure => simp [intOf]; omega
    · go_wp2
      go_loopw [8] (fun t8 wq => ∃ (j : Nat), j ≤ 8 ∧ t8 = .int .i64 (j : Int) ∧ Hid (Below w.heap.size w wq)) (fun t8 _ => 8 - (intOf t8).toNat)
      case atStart => exact ⟨0, by omega, rfl, HB⟩
      case round =>
        obtain ⟨j, hj, rfl, HBq⟩ := hrel
        have HQq : Hid (Quad wr base gp g gs gc r gy q wv sv rv SV WV D) := HQ.out.stay HBq.out
        by_cases hlt8 : j < 8
        · have hlt8' : (j : Int) < 8 := by omega
          obtain ⟨E2, HE2⟩ : ∃ E2, Hid (E2 = sureE D (j : Int)) := ⟨_, rfl⟩
          obtain ⟨Y, HY⟩ : ∃ Y, Hid (Y = tellB (sureE D (j : Int)) (D.sure.getD (j : Int).toNat [])) := ⟨_, rfl⟩
          have p0 : wr.cell? ⟨gp, 0, none⟩ = some (.pointer (some ⟨g, 0, none⟩)) := Blk.cell HQq.out.pr 0 rfl
          go_wp2_with fail
          refine (disk_Sure wr base g gs wv D (j : Int) HQq.out.dk).mono ?_
          rintro e w3 ⟨ht3, hb3⟩
          obtain ⟨a3, l3, k3, rfl, hr3⟩ := ht3.out.uni
          rw [← HY.out] at hr3
          rw [← HE2.out]
          have HR3 : Hid (Rd w3 a3 l3 Y) := hr3
          have HB3 : Hid (Below wr.heap.size wr w3) := hb3
          have HQ3 : Hid (Quad w3 base gp g gs gc r gy q wv sv rv SV WV D) := HQq.out.stay hb3
          have p2 : w3.cell? ⟨gp, 2, none⟩ = some (.pointer (some ⟨r, 0, none⟩)) := Blk.cell HQ3.out.pr 2 rfl
          clear ht3 hr3 hb3 p0
          go_wp2_with fail
          refine (ref_Sure w3 base r q sv rv SV WV D (j : Int) HQ3.out.rk).mono ?_
          rintro e w4 ⟨ht4, hb4⟩
          obtain ⟨a4, l4, k4, rfl, hr4⟩ := ht4.out.uni
          rw [← HY.out] at hr4
          rw [← HE2.out]
          have v3 : (convert 23 9 (.slice a3 l3 k3)).run Try.prog w4 = .ok (.string (str Y)) w4 := conv_rd (HR3.out.below hb4) k3
          have v4 : (convert 23 9 (.slice a4 l4 k4)).run Try.prog w4 = .ok (.string (str Y)) w4 := conv_rd hr4 k4
          have HB4 : Hid (Below w.heap.size w w4) := HBq.out.trans ((HB3.out.trans (hb4.mono HB3.out.size)).mono HBq.out.size)
          clear ht4 hr4 hb4 HR3 p2
          go_wp2
          go_roundw
          case rel => exact ⟨j + 1, by omega, by go_num, HB4⟩
          case measure => simp [intOf]; omega
        · have HBd : Hid (Below w.heap.size w wr.drew) := HBq.out.drew
          have HQd : Hid (Quad wr.drew base gp g gs gc r gy q wv sv rv SV WV D) := HQ.out.stay HBd.out
          obtain ⟨dn, hdn⟩ : ∃ dn, dn = D.down := ⟨_, rfl⟩
          have s1 : wr.drew.cell? ⟨gp, 0, none⟩ = some (.pointer (some ⟨g, 0, none⟩)) ∧ wr.drew.cell? ⟨gp, 2, none⟩ = some (.pointer (some ⟨r, 0, none⟩)) ∧ wr.drew.cell? ⟨r, 3, none⟩ = some (.bool dn) := ⟨Blk.cell HQd.out.pr 0 rfl, Blk.cell HQd.out.pr 2 rfl, by rw [hdn]; exact HQd.out.rk.blk.cell 3 rfl⟩
          have HDN : Hid (dn = D.down) := hdn
          clear hdn
          go_wp2
          go_region_held3 (fun w' => w'.cell? ⟨gp, 0, none⟩ = some (.pointer (some ⟨g, 0, none⟩)) ∧ w'.cell? ⟨gp, 2, none⟩ = some (.pointer (some ⟨r, 0, none⟩)) ∧ w'.cell? ⟨r, 3, none⟩ = some (.bool dn)) (exact s1)
            (first | (go_at_call 18; refine (disk_Down _ base g gs wv D HQd.out.dk).mono ?_; rw [← HDN.out]; rintro e w2 ⟨rfl, rfl⟩))
          go_wp2
          go_ret
          exact ⟨by simp, HBd.out⟩

/-- What play tells. -/
def PlayTold10 (w w' : World) (e : Ending) : Prop := ∃ gp g gs r D, e = .returned (.tuple #[.pointer (some ⟨gp, 0, none⟩), .bool true]) ∧ Four w' w.heap.size gp g gs r D ∧ D.waits.length ≤ 200 ∧ D.age ≤ 200

set_option maxRecDepth 100000 in
set_option maxHeartbeats 4000000 in
theorem m_play (w : World) (a : Option Addr) (len cap : Nat) (l : List Dm) (hl : DmsRd w a len l) (hlb : len ≤ 9223372036854775807) :
    Calls Try.prog 5 #[.slice a len cap] w fun e w' => Hid (PlayTold10 w w' e) ∧ Below w.heap.size w w' := by
  have HL : Hid (DmsRd w a len l) := hl
  obtain ⟨base, hbase⟩ : ∃ base, base = w.heap.size := ⟨_, rfl⟩
  have HBASE : Hid (base = w.heap.size) := hbase
  clear hl hbase
  go_enter Try.func5, Try.ntmps5
  go_wp2_with fail
  refine (m_start w).mono ?_
  rintro e w2 ⟨ht, hb2⟩
  obtain ⟨gp, g, gs, r, rfl, hf⟩ := ht.out
  rw [← HBASE.out] at hf hb2
  have HF2 : Hid (Four w2 base gp g gs r (newD 8)) := hf
  have HB2 : Hid (Below base w w2) := hb2
  clear ht hf hb2
  go_wp2
  go_loopw [5, 6] (fun t5 t6 wr => ∃ (i : Nat) (D : Dk), i ≤ len ∧ i ≤ 200 ∧ t6 = .int .i64 (i : Int) ∧ t5 = .bool true ∧ Hid (Four wr base gp g gs r D) ∧ Hid (D.waits.length ≤ i ∧ D.age ≤ i) ∧ Hid (Below base w wr)) (fun _ t6 _ => len - (intOf t6).toNat)
  case atStart => exact ⟨0, newD 8, by omega, by omega, rfl, rfl, HF2, ⟨Nat.le_refl _, Nat.le_refl _⟩, HB2⟩
  case round =>
    obtain ⟨i, D, hi, hi2, rfl, rfl, HF, HG, HB⟩ := hrel
    have HBw : Hid (Below w.heap.size w wr) := by show Below _ _ _; rw [← HBASE.out]; exact HB.out
    by_cases hgo : i < len ∧ i < 200
    · obtain ⟨hlt, h200⟩ := hgo
      have hlt' : (i : Int) < (len : Int) := by omega
      have h200' : (i : Int) < 200 := by omega
      obtain ⟨gl, o, rfl, _, d, hd, hok, e0, e1, e2, e3, e4⟩ := (HL.out.below HBw.out).spot i hlt
      have HLd : Hid (l[i]? = some d) := hd
      have hi0 : (0 : Int) ≤ (i : Int) := by omega
      have HDQ : Hid (∀ w', Below base wr w' → DmOk w' d) := fun w' hb' => (HL.out.each d (List.mem_of_getElem? HLd.out)).below (by rw [← HBASE.out]; exact HB.out.trans hb')
      clear hd hok
      go_wp2_with fail
      refine (m_do wr base gp g gs r D d HF.out HDQ.out (by have := HG.out.1; omega) (by have := HG.out.2; omega)).mono ?_
      rintro e w3 ⟨rfl, hf3, hbl3⟩
      have HF3 : Hid (Four w3 base gp g gs r (doM D d)) := hf3.out
      have HB3 : Hid (Below base w w3) := HB.out.trans hbl3
      have HG3 : Hid ((doM D d).waits.length ≤ i + 1 ∧ (doM D d).age ≤ i + 1) := by
        obtain ⟨g1, g2, _⟩ := doM_grew D d
        obtain ⟨f1, f2⟩ := HG.out
        exact ⟨by omega, by omega⟩
      clear hf3 hbl3 e0 e1 e2 e3 e4
      go_wp2_with fail
      refine (m_same w3 base gp g gs r (doM D d) HF3.out).mono ?_
      rintro e w4 ⟨rfl, hb4⟩
      have HF4 : Hid (Four w4 base gp g gs r (doM D d)) := HF3.out.stay hb4
      have HB4 : Hid (Below base w w4) := HB3.out.trans (hb4.mono (by have := HB3.out.size; have := HBASE.out; omega))
      clear hb4
      go_wp2
      go_roundw
      case rel => exact ⟨i + 1, doM D d, by omega, by omega, by go_num, rfl, HF4, HG3, HB4⟩
      case measure => simp [intOf]; omega
    · have hcase : (¬ (i : Int) < (len : Int)) ∨ ((i : Int) < (len : Int) ∧ ¬ (i : Int) < 200) := by omega
      have HT : Hid (PlayTold10 w wr (.returned (.tuple #[.pointer (some ⟨gp, 0, none⟩), .bool true]))) := ⟨gp, g, gs, r, D, rfl, by rw [← HBASE.out]; exact HF.out, by have := HG.out.1; omega, by have := HG.out.2; omega⟩
      clear hgo
      rcases hcase with hc | ⟨hc, hc2⟩ <;>
      ( go_wp2
        go_returns
        exact ⟨HT, HBw.out⟩ )
end Go.Proofs.Ythpjaidgacenoab
