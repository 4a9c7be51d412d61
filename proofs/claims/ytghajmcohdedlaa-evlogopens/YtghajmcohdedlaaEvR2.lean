/- grapevineref11: Read of a disk that is new. -/
import Derived.Test.YtghajmcohdedlaaEvR1
import Derived.Deep.Cut
import Derived.BigRegion
namespace Go.Proofs.Ytghajmcohdedlaa
open Go.RowKit

theorem infoTold : (Try.prog.info? 59).map (·.size) = some 4 := by kernel_rfl
theorem results_Read11 {w : World} {tmps : Array Value} {g : Nat} {cs : List Value} (h2 : tmps[2]?.getD undef = .pointer (some ⟨g, 0, none⟩)) (k : Blk w g cs.toArray 59) (hl : cs.length = 4) : (results Try.f22 tmps).run Try.prog w = .ok (.agg cs.toArray) w := by
  have hr := run_loadVar_mid (P := Try.prog) w g 0 59 cs _ (k.range 0 cs (fun j v hj => by simpa using hj)) Try.underlying59 rfl (by rw [hl]; exact infoTold)
  simp [results, Try.results22, h2, hr, asAddr]
set_option maxRecDepth 100000 in
set_option maxHeartbeats 4000000 in
theorem ref_Read0 (w : World) (base r q : Nat) (sv wv : Value) (SV WV : List Value) (D : Dk) (gl b m ag : Nat) (hi rel : Int) (uv rv : Value) (hd : Rk w base r q sv wv SV WV D) (h : Lr w gl r b m ag hi rel uv rv) (hb : b ≤ 1000) (hm : m ≤ 16) (hz : ∀ pos, pos < m → readE D ((b + 2 + 16 * pos + 0 : Nat) : Int) = 0 ∧ (nowB D (b + 2 + 16 * pos + 0)).getD 1 0 = 0) (hfit : b + 2 * 1 ≤ D.sure.length) (hg : getB D b 1 0 = (0, false)) :
    Calls Try.prog 22 #[.pointer (some ⟨gl, 0, none⟩)] w fun e w' => e = .returned (.agg #[.int .i64 0, .int .i64 0, .slice none 0 0, .slice none 0 0]) ∧ Below w.heap.size w w' := by
  have HD : Hid (Rk w base r q sv wv SV WV D) := hd
  have HL : Hid (Lr w gl r b m ag hi rel uv rv) := h
  have HZ : Hid (∀ pos, pos < m → readE D ((b + 2 + 16 * pos + 0 : Nat) : Int) = 0 ∧ (nowB D (b + 2 + 16 * pos + 0)).getD 1 0 = 0) := hz
  have HF : Hid (b + 2 * 1 ≤ D.sure.length ∧ getB D b 1 0 = (0, false)) := ⟨hfit, hg⟩
  obtain ⟨W1, HW1⟩ : ∃ W1, Hid (W1 = (w.alloc (.cells #[.int .i64 0, .int .i64 0, .slice none 0 0, .slice none 0 0] 59)).alloc (.cells #[.int .i64 0, .int .i64 0, .slice none 0 0, .slice none 0 0] 59)) := ⟨_, rfl⟩
  have HB1 : Hid (Below w.heap.size w W1) := by (show Below _ _ _); rw [HW1.out]; exact (below_alloc _ _).trans ((below_alloc _ _).mono (below_alloc _ _).size)
  have HK0 : Hid (Blk W1 w.heap.size #[.int .i64 0, .int .i64 0, .slice none 0 0, .slice none 0 0] 59) := by (show Blk _ _ _ _); rw [HW1.out]; exact (Blk.new w _ _).stay (below_alloc _ _)
  have HK1 : Hid (Blk W1 (w.heap.size + 1) #[.int .i64 0, .int .i64 0, .slice none 0 0, .slice none 0 0] 59) := by
    (show Blk _ _ _ _); rw [HW1.out]
    have := Blk.new (w.alloc (.cells #[.int .i64 0, .int .i64 0, .slice none 0 0, .slice none 0 0] 59)) #[.int .i64 0, .int .i64 0, .slice none 0 0, .slice none 0 0] 59
    simpa using this
  clear hd h hz hfit hg
  go_enter Try.func22, Try.ntmps22
  go_upto_region 2 with fail
  rw [← HW1.out]
  go_wp2_with fail
  go_loopw [4] (fun t4 wr => ∃ k : Nat, k ≤ m ∧ t4 = .int .i64 (k : Int) ∧ Hid (Below W1.heap.size W1 wr)) (fun t4 _ => m - (intOf t4).toNat)
  case atStart => exact ⟨0, Nat.zero_le _, rfl, Below.refl _ _⟩
  case round =>
    obtain ⟨k, hk, rfl, HBr⟩ := hrel
    have HBw : Hid (Below w.heap.size w wr) := HB1.out.trans (HBr.out.mono HB1.out.size)
    have HLr : Hid (Lr wr gl r b m ag hi rel uv rv) := HL.out.stay HBw.out
    have HDr : Hid (Rk wr base r q sv wv SV WV D) := HD.out.stay HBw.out
    have c2 : wr.cell? ⟨gl, 2, none⟩ = some (.int .i64 (m : Int)) := Blk.cell HLr.out 2 rfl
    by_cases hlt : k < m
    · have hlt' : (k : Int) < (m : Int) := by omega
      have HH := ref_header0 wr base r q sv wv SV WV D gl b m ag hi rel uv rv k HDr.out HLr.out hb (by omega) (HZ.out k hlt).1 (HZ.out k hlt).2
      go_wp2_with fail
      refine HH.mono ?_
      rintro e w2 ⟨rfl, hb2⟩
      have HB2 : Hid (Below W1.heap.size W1 w2) := HBr.out.trans (hb2.mono HBr.out.size)
      clear hb2 HH c2
      go_wp2
      go_roundw
      case rel => exact ⟨k + 1, by omega, by go_num, HB2⟩
      case measure => (simp [intOf]; omega)
    · have hnl : ¬ (k : Int) < (m : Int) := by omega
      obtain ⟨W2, HW2⟩ : ∃ W2, Hid (W2 = wr.alloc (.cells #[] 78)) := ⟨_, rfl⟩
      have HX2 : Hid (Below wr.heap.size wr W2) := by (show Below _ _ _); rw [HW2.out]; exact below_alloc _ _
      have HB2 : Hid (Below W1.heap.size W1 W2) := HBr.out.trans (HX2.out.mono HBr.out.size)
      have HBw2 : Hid (Below w.heap.size w W2) := HB1.out.trans (HB2.out.mono HB1.out.size)
      have HL2 : Hid (Lr W2 gl r b m ag hi rel uv rv) := HL.out.stay HBw2.out
      have HD2 : Hid (Rk W2 base r q sv wv SV WV D) := HD.out.stay HBw2.out
      have HT2 : Hid (Blk W2 (w.heap.size + 1) #[.int .i64 0, .int .i64 0, .slice none 0 0, .slice none 0 0] 59) := HK1.out.stay HB2.out
      have HR2 : Hid (Blk W2 w.heap.size #[.int .i64 0, .int .i64 0, .slice none 0 0, .slice none 0 0] 59) := HK0.out.stay HB2.out
      go_upto_region 15 with fail
      rw [← HW2.out]
      clear c2
      have t2 : W2.cell? ⟨w.heap.size + 1, 2, none⟩ = some (.slice none 0 0) := HT2.out.cell 2 rfl
      go_wp2_with fail
      refine wp_loop_rounds 1 ?_
      rw [rounds_succ]
      go_upto_region 29 with fail
      have s0 : W2.cell? ⟨gl, 0, none⟩ = some (.pointer (some ⟨r, 0, none⟩)) ∧ W2.cell? ⟨gl, 1, none⟩ = some (.int .i64 (b : Int)) := ⟨Blk.cell HL2.out 0 rfl, Blk.cell HL2.out 1 rfl⟩
      have HXD : Hid (Below W2.heap.size W2 W2.drew) := (Below.refl _ _).drew
      have HOP := ref_Open10 W2.drew base r q sv wv SV WV D b 1 (HD2.out.stay HXD.out) (by omega) hb HF.out.1
      clear t2
      go_region_held3 (fun w' => w'.cell? ⟨gl, 0, none⟩ = some (.pointer (some ⟨r, 0, none⟩)) ∧ w'.cell? ⟨gl, 1, none⟩ = some (.int .i64 (b : Int))) (first | exact s0 | exact s3 | fail)
        (first
          | (go_at_call 41; refine HOP.mono ?_; rintro e w3 ⟨rfl, hc3, hb3⟩; have HX3 : Hid (Below W2.heap.size W2 w3) := HXD.out.trans (hb3.mono HXD.out.size); have HC3 : Hid (Cr w3 W2.drew.heap.size r b 1) := hc3; have HL3 : Hid (Lr w3 gl r b m ag hi rel uv rv) := HL2.out.stay HX3.out; have s3 : w3.cell? ⟨gl, 0, none⟩ = some (.pointer (some ⟨r, 0, none⟩)) ∧ w3.cell? ⟨gl, 1, none⟩ = some (.int .i64 (b : Int)) := ⟨Blk.cell HL3.out 0 rfl, Blk.cell HL3.out 1 rfl⟩; clear hc3 hb3))
      clear s0 s3 HOP
      have HGT := ref_Get w3 base r q sv wv SV WV D W2.drew.heap.size b 1 0 (HD2.out.stay HX3.out) HC3.out hb (by omega)
      rw [HF.out.2] at HGT
      go_wp2_with fail
      refine HGT.mono ?_
      rintro e w4 ⟨rfl, hb4⟩
      have HX4 : Hid (Below W2.heap.size W2 w4) := HX3.out.trans (hb4.mono HX3.out.size)
      have HT4 : Hid (Blk w4 (w.heap.size + 1) #[.int .i64 0, .int .i64 0, .slice none 0 0, .slice none 0 0] 59) := HT2.out.stay HX4.out
      have HR4 : Hid (Blk w4 w.heap.size #[.int .i64 0, .int .i64 0, .slice none 0 0, .slice none 0 0] 59) := HR2.out.stay HX4.out
      have HBw4 : Hid (Below w.heap.size w w4) := HBw2.out.trans (HX4.out.mono HBw2.out.size)
      clear hb4 HGT
      have k1 : w4.cell? ⟨w.heap.size + 1, 1, none⟩ = some (.int .i64 0) := HT4.out.cell 1 rfl
      have f1 : w4.frozen? ⟨w.heap.size + 1, 1, none⟩ = false := HT4.out.free 1
      obtain ⟨W5, HW5⟩ : ∃ W5, Hid (W5 = w4.setCell ⟨w.heap.size + 1, 1, none⟩ (.int .i64 0)) := ⟨_, rfl⟩
      have HT5 : Hid (Blk W5 (w.heap.size + 1) #[.int .i64 0, .int .i64 0, .slice none 0 0, .slice none 0 0] 59) := by (show Blk _ _ _ _); rw [HW5.out]; exact HT4.out.set 1 _
      have HR5 : Hid (Blk W5 w.heap.size #[.int .i64 0, .int .i64 0, .slice none 0 0, .slice none 0 0] 59) := by (show Blk _ _ _ _); rw [HW5.out]; exact HR4.out.other _ _ (fun e => by have e' : w.heap.size = w.heap.size + 1 := e; omega)
      have HBw5 : Hid (Below w.heap.size w W5) := by (show Below _ _ _); rw [HW5.out]; exact HBw4.out.setCell (Nat.le_succ _) _
      go_upto_region 31 with fail
      rw [← HW5.out]
      clear k1 f1
      have k0 : W5.cell? ⟨w.heap.size + 1, 0, none⟩ = some (.int .i64 0) := HT5.out.cell 0 rfl
      have k1 : W5.cell? ⟨w.heap.size + 1, 1, none⟩ = some (.int .i64 0) := HT5.out.cell 1 rfl
      go_wp2_with fail
      refine wp_loop_rounds 1 ?_
      rw [rounds_succ]
      have HRG : Hid (W5.rangeAt (w.heap.size + 1) 0 [.int .i64 0, .int .i64 0, .slice none 0 0, .slice none 0 0]) := fun j v hj => by rw [Nat.zero_add]; exact HT5.out.cell j (by simpa using hj)
      have r0 : W5.cell? ⟨w.heap.size, 0, none⟩ = some (.int .i64 0) := HR5.out.cell 0 rfl
      have r1 : W5.cell? ⟨w.heap.size, 1, none⟩ = some (.int .i64 0) := HR5.out.cell 1 rfl
      have r2 : W5.cell? ⟨w.heap.size, 2, none⟩ = some (.slice none 0 0) := HR5.out.cell 2 rfl
      have r3 : W5.cell? ⟨w.heap.size, 3, none⟩ = some (.slice none 0 0) := HR5.out.cell 3 rfl
      have g0 := HR5.out.free 0
      have g1 := HR5.out.free 1
      have g2 := HR5.out.free 2
      have g3 := HR5.out.free 3
      go_wp2_with (guard_target =~ wpList _ _ _ (Oper.mk (some 212) _ _ _ _ _ :: _) _ _; refine wpList_load_mid rfl 59 (.tmp 3) rfl (w.heap.size + 1) 0 rfl [.int .i64 0, .int .i64 0, .slice none 0 0, .slice none 0 0] _ HRG.out Try.underlying59 rfl (by rfl) ?_)
      refine bodyPost_ret (results_Read11 (cs := [.int .i64 0, .int .i64 0, .slice none 0 0, .slice none 0 0]) (by rfl) ((((HR5.out.set 0 _).set 1 _).set 2 _).set 3 _) rfl) rfl ?_
      exact ⟨rfl, (((HBw5.out.setCell (Nat.le_refl _) _).setCell (Nat.le_refl _) _).setCell (Nat.le_refl _) _).setCell (Nat.le_refl _) _⟩
end Go.Proofs.Ytghajmcohdedlaa
