/- mark: read. -/
import Derived.Test.YtghajmcohdedlaaMk1
import Derived.Deep.QuietTactic
import Derived.BigQuiet
namespace Go.Proofs.Ytghajmcohdedlaa
open Go.RowKit

theorem same_str (a b : ByteArray) : (a.toList == b.toList) = decide (a = b) := by
  by_cases h : a = b
  · subst h; simp
  · rw [decide_eq_false h, beq_eq_false_iff_ne]
    intro e
    rw [ByteArray.toList_eq, ByteArray.toList_eq] at e
    apply h
    cases a; cases b
    simp only [ByteArray.mk.injEq]
    exact Array.toList_inj.1 e
theorem bytes_Equal (a1 a2 : Option Addr) (n1 c1 n2 c2 : Nat) (x y : List Nat) (w : World) (h1 : Rd w a1 n1 x) (h2 : Rd w a2 n2 y) :
    Calls Try.prog 85 #[.slice a1 n1 c1, .slice a2 n2 c2] w fun e w' => e = .returned (.bool (decide (x = y))) ∧ w' = w := by
  have e1 := conv_rd h1 c1
  have e2 := conv_rd h2 c2
  have HX : Hid (decide (x = y) = ((str x).toList == (str y).toList)) := by
    show _ = _
    rw [same_str]
    exact decide_eq_decide.2 ⟨fun h => by rw [h], fun h => str_inj h1.byte h2.byte h⟩
  rw [HX.out]
  clear HX
  generalize str x = X at *
  generalize str y = Y at *
  clear h1 h2
  go_enter Try.func85, Try.ntmps85
  go_wp2
  go_ret
  exact ⟨rfl, rfl⟩

theorem below_drews {B : Nat} {w w' : World} (h : Below B w w') (n : Nat) : Below B w (w'.drewN n) := h.trans ⟨rfl, rfl, rfl, Nat.le_refl _, fun _ _ => rfl⟩
theorem infoEntry : (Try.prog.info? 127).map (·.size) = some 2 := by kernel_rfl
theorem results_read {w : World} {tmps : Array Value} {g : Nat} {cs : List Value} (h4 : tmps[2]?.getD undef = .pointer (some ⟨g, 0, none⟩)) (k : Blk w g cs.toArray 127) (hl : cs.length = 2) : (results Try.f92 tmps).run Try.prog w = .ok (.agg cs.toArray) w := by
  have hr := run_loadVar_mid (P := Try.prog) w g 0 127 cs _ (k.range 0 cs (fun j v hj => by simpa using hj)) Try.underlying127 rfl (by rw [hl]; exact infoEntry)
  simp [results, Try.results92, h4, hr, asAddr]
/-- What a sector's bytes tell. -/
def readB (s : List Nat) : Int × Int :=
  if (1 ≤ (KeyM.take s 1).1 ∧ (KeyM.take s 1).1 ≤ 4611686018427387904) ∧ (0 ≤ (KeyM.take s 9).1 ∧ (KeyM.take s 9).1 ≤ 1099511627776) ∧ s = layB (s.getD 0 0) (KeyM.take s 1).1 (KeyM.take s 9).1 then ((KeyM.take s 1).1, (KeyM.take s 9).1) else (0, 0)

set_option maxRecDepth 100000 in
set_option maxHeartbeats 4000000 in
theorem mark_read (k : Nat) (t : TypeId) (s : List Nat) (w : World) (hk : Blk w k (vb s).toArray t) (hs : Sec s) :
    Calls Try.prog 92 #[.slice (some ⟨k, 0, none⟩) 64 64] w fun e w' => e = .returned (.agg #[.int .i64 (readB s).1, .int .i64 (readB s).2]) ∧ Below w.heap.size w w' := by
  have HK : Hid (Blk w k (vb s).toArray t) := hk
  have HRD : Hid (∀ w', Below w.heap.size w w' → Rd w' (some ⟨k, 0, none⟩) 64 s) := fun w' hb => by have := Rd.of_blk (hk.stay hb) hs.byte; rw [hs.len] at this; exact this
  obtain ⟨R, HR⟩ : ∃ R, Hid (R = readB s) := ⟨_, rfl⟩
  rw [← HR.out]
  obtain ⟨⟨n, p1, q1⟩, HT1⟩ : ∃ r, Hid (r = KeyM.take s 1) := ⟨_, rfl⟩
  obtain ⟨⟨v, p9, q9⟩, HT9⟩ : ∃ r, Hid (r = KeyM.take s 9) := ⟨_, rfl⟩
  have HSL : Hid (s.length = 64) := hs.len
  have HSB : Hid (∀ b ∈ s, b < 256) := hs.byte
  obtain ⟨x, hx⟩ : ∃ x, x = s.getD 0 0 := ⟨_, rfl⟩
  have HX : Hid (x = s.getD 0 0) := hx
  have HRV : Hid (R = if (1 ≤ n ∧ n ≤ 4611686018427387904) ∧ (0 ≤ v ∧ v ≤ 1099511627776) ∧ s = layB x n v then (n, v) else (0, 0)) := by
    show _ = _
    rw [HR.out, readB, ← HT1.out, ← HT9.out, ← hx]
  clear hk hs hx HR
  go_enter Try.func92, Try.ntmps92
  go_wp2_with fail
  refine (octet_TakeKey (some ⟨k, 0, none⟩) 64 64 s 1 _ (HRD.out _ (below_alloc _ _)) (by omega) (by omega) (by omega)).mono ?_
  rw [← HT1.out]
  rintro e w1 ⟨he, hw⟩
  rw [toldK] at he
  subst he hw
  go_wp2_with fail
  refine (octet_TakeKey (some ⟨k, 0, none⟩) 64 64 s 9 _ (HRD.out _ (below_alloc _ _)) (by omega) (by omega) (by omega)).mono ?_
  rw [← HT9.out]
  rintro e w1 ⟨he, hw⟩
  rw [toldK] at he
  subst he hw
  go_wp2
  generalize hw2 : World.alloc (World.alloc w _) _ = w2
  have HZ2 : Hid (Blk w2 w.heap.size #[.int .i64 0, .int .i64 0] 127) := by
    show Blk _ _ _ _
    rw [← hw2]
    exact (Blk.new w _ _).stay (below_alloc _ _)
  have HE2 : Hid (Blk w2 (w.heap.size + 1) #[.int .i64 n, .int .i64 v] 127) := by
    show Blk _ _ _ _
    rw [← hw2]
    have := Blk.new (w.alloc (.cells #[.int .i64 0, .int .i64 0] 127)) #[.int .i64 n, .int .i64 v] 127
    simpa using this
  have HB2 : Hid (Below w.heap.size w w2) := by
    show Below _ _ _
    rw [← hw2]
    exact (below_alloc w _).trans ((below_alloc _ _).mono (by simp))
  clear hw2
  by_cases c1 : n < 1
  · have HN0 : Hid (R = (0, 0)) := by show _ = _; rw [HRV.out, if_neg (by omega)]
    have d1 : decide (n < 1) = true := decide_eq_true c1
    go_quiet (fail)
    generalize hnq : w2.drewN _ = w3
    have HB3 : Hid (Below w2.heap.size w2 w3) := by show Below _ _ _; rw [← hnq]; exact below_drews (Below.refl _ _) _
    clear hnq
    have z0 : w3.cell? ⟨w.heap.size, 0, none⟩ = some (.int .i64 0) := (HZ2.out.stay HB3.out).cell 0 rfl
    have z1 : w3.cell? ⟨w.heap.size, 1, none⟩ = some (.int .i64 0) := (HZ2.out.stay HB3.out).cell 1 rfl
    have f0 := (HZ2.out.stay HB3.out).free 0
    have f1 := (HZ2.out.stay HB3.out).free 1
    have HB4 : Hid (Below w.heap.size w w3) := HB2.out.trans (HB3.out.mono HB2.out.size)
    go_wp2
    refine bodyPost_ret (results_read (cs := [.int .i64 0, .int .i64 0]) (by rfl) (((HZ2.out.stay HB3.out).set 0 _).set 1 _) rfl) rfl ?_
    rw [HN0.out]
    exact ⟨rfl, (HB4.out.setCell (Nat.le_refl _) _).setCell (Nat.le_refl _) _⟩
  have d1 : decide (n < 1) = false := decide_eq_false c1
  by_cases c2 : 4611686018427387904 < n
  · have HN0 : Hid (R = (0, 0)) := by show _ = _; rw [HRV.out, if_neg (by omega)]
    have d2 : decide (4611686018427387904 < n) = true := decide_eq_true c2
    go_quiet (fail)
    generalize hnq : w2.drewN _ = w3
    have HB3 : Hid (Below w2.heap.size w2 w3) := by show Below _ _ _; rw [← hnq]; exact below_drews (Below.refl _ _) _
    clear hnq
    have z0 : w3.cell? ⟨w.heap.size, 0, none⟩ = some (.int .i64 0) := (HZ2.out.stay HB3.out).cell 0 rfl
    have z1 : w3.cell? ⟨w.heap.size, 1, none⟩ = some (.int .i64 0) := (HZ2.out.stay HB3.out).cell 1 rfl
    have f0 := (HZ2.out.stay HB3.out).free 0
    have f1 := (HZ2.out.stay HB3.out).free 1
    have HB4 : Hid (Below w.heap.size w w3) := HB2.out.trans (HB3.out.mono HB2.out.size)
    go_wp2
    refine bodyPost_ret (results_read (cs := [.int .i64 0, .int .i64 0]) (by rfl) (((HZ2.out.stay HB3.out).set 0 _).set 1 _) rfl) rfl ?_
    rw [HN0.out]
    exact ⟨rfl, (HB4.out.setCell (Nat.le_refl _) _).setCell (Nat.le_refl _) _⟩
  have d2 : decide (4611686018427387904 < n) = false := decide_eq_false c2
  by_cases c3 : v < 0
  · have HN0 : Hid (R = (0, 0)) := by show _ = _; rw [HRV.out, if_neg (by omega)]
    have d3 : decide (v < 0) = true := decide_eq_true c3
    go_quiet (fail)
    generalize hnq : w2.drewN _ = w3
    have HB3 : Hid (Below w2.heap.size w2 w3) := by show Below _ _ _; rw [← hnq]; exact below_drews (Below.refl _ _) _
    clear hnq
    have z0 : w3.cell? ⟨w.heap.size, 0, none⟩ = some (.int .i64 0) := (HZ2.out.stay HB3.out).cell 0 rfl
    have z1 : w3.cell? ⟨w.heap.size, 1, none⟩ = some (.int .i64 0) := (HZ2.out.stay HB3.out).cell 1 rfl
    have f0 := (HZ2.out.stay HB3.out).free 0
    have f1 := (HZ2.out.stay HB3.out).free 1
    have HB4 : Hid (Below w.heap.size w w3) := HB2.out.trans (HB3.out.mono HB2.out.size)
    go_wp2
    refine bodyPost_ret (results_read (cs := [.int .i64 0, .int .i64 0]) (by rfl) (((HZ2.out.stay HB3.out).set 0 _).set 1 _) rfl) rfl ?_
    rw [HN0.out]
    exact ⟨rfl, (HB4.out.setCell (Nat.le_refl _) _).setCell (Nat.le_refl _) _⟩
  have d3 : decide (v < 0) = false := decide_eq_false c3
  by_cases c4 : 1099511627776 < v
  · have HN0 : Hid (R = (0, 0)) := by show _ = _; rw [HRV.out, if_neg (by omega)]
    have d4 : decide (1099511627776 < v) = true := decide_eq_true c4
    go_quiet (fail)
    generalize hnq : w2.drewN _ = w3
    have HB3 : Hid (Below w2.heap.size w2 w3) := by show Below _ _ _; rw [← hnq]; exact below_drews (Below.refl _ _) _
    clear hnq
    have z0 : w3.cell? ⟨w.heap.size, 0, none⟩ = some (.int .i64 0) := (HZ2.out.stay HB3.out).cell 0 rfl
    have z1 : w3.cell? ⟨w.heap.size, 1, none⟩ = some (.int .i64 0) := (HZ2.out.stay HB3.out).cell 1 rfl
    have f0 := (HZ2.out.stay HB3.out).free 0
    have f1 := (HZ2.out.stay HB3.out).free 1
    have HB4 : Hid (Below w.heap.size w w3) := HB2.out.trans (HB3.out.mono HB2.out.size)
    go_wp2
    refine bodyPost_ret (results_read (cs := [.int .i64 0, .int .i64 0]) (by rfl) (((HZ2.out.stay HB3.out).set 0 _).set 1 _) rfl) rfl ?_
    rw [HN0.out]
    exact ⟨rfl, (HB4.out.setCell (Nat.le_refl _) _).setCell (Nat.le_refl _) _⟩
  have d4 : decide (1099511627776 < v) = false := decide_eq_false c4
  have HNR : Hid (((-9223372036854775808 : Int) ≤ n ∧ n ≤ 9223372036854775807) ∧ ((-9223372036854775808 : Int) ≤ v ∧ v ≤ 9223372036854775807)) := ⟨by omega, by omega⟩
  obtain ⟨L, HL⟩ : ∃ L, Hid (L = layB x n v) := ⟨_, rfl⟩
  have HLS : Hid (Sec L) := by
    show Sec _
    rw [HL.out, HX.out]
    exact layB_sec n v (getD_lt HSB.out 0)
  have HX0 : Hid ((vb s).toArray[0]? = some (.int .u8 (x : Int))) := by
    show _ = _
    rw [HX.out, List.getElem?_toArray]
    have h0 : 0 < s.length := by rw [HSL.out]; omega
    simp [vb, List.getD_eq_getElem?_getD, List.getElem?_eq_getElem h0]
  have HK2 : Hid (Blk w2 k (vb s).toArray t) := HK.out.stay HB2.out
  have b0 : w2.cell? ⟨k, 0, none⟩ = some (.int .u8 (x : Int)) := HK2.out.cell 0 HX0.out
  have b1 : w2.cell? ⟨w.heap.size + 1, 0, none⟩ = some (.int .i64 n) := HE2.out.cell 0 rfl
  have b2 : w2.cell? ⟨w.heap.size + 1, 1, none⟩ = some (.int .i64 v) := HE2.out.cell 1 rfl
  by_cases hq : s = L
  · have HDQ : Hid (decide (s = L) = true) := decide_eq_true hq
    have HRE : Hid (R = (n, v)) := by show _ = _; rw [HRV.out, ← HL.out, if_pos ⟨⟨by omega, by omega⟩, ⟨by omega, by omega⟩, hq⟩]
    clear hq
    have HBd : Hid (Below w2.heap.size w2 w2.drew) := (Below.refl _ _).drew
    go_region_held3 (fun w' => w'.cell? ⟨k, 0, none⟩ = some (.int .u8 (x : Int)) ∧ w'.cell? ⟨w.heap.size + 1, 0, none⟩ = some (.int .i64 n) ∧ w'.cell? ⟨w.heap.size + 1, 1, none⟩ = some (.int .i64 v)) (first | exact ⟨b0, b1, b2⟩ | exact ⟨e0, e1, e2⟩ | fail)
      (first
        | (go_at_call 96; refine (mark_lay x n v HNR.out.1 HNR.out.2 _).mono ?_; rw [← HL.out]; rintro e w4 ⟨k4, rfl, _, hk4, hb4⟩; have HB4' : Hid (Below w2.heap.size w2 w4) := HBd.out.trans hb4; have HK4 : Hid (Blk w4 k4 (vb L).toArray 69) := hk4; have e0 : w4.cell? ⟨k, 0, none⟩ = some (.int .u8 (x : Int)) := (HK2.out.stay HB4'.out).cell 0 HX0.out; have e1 : w4.cell? ⟨w.heap.size + 1, 0, none⟩ = some (.int .i64 n) := (HE2.out.stay HB4'.out).cell 0 rfl; have e2 : w4.cell? ⟨w.heap.size + 1, 1, none⟩ = some (.int .i64 v) := (HE2.out.stay HB4'.out).cell 1 rfl; clear hk4 hb4)
        | (go_at_call 85; refine (bytes_Equal (some ⟨k, 0, none⟩) (some ⟨k4, 0, none⟩) 64 64 64 64 s L _ (HRD.out _ (HB2.out.trans (HB4'.out.mono HB2.out.size))) (by have := Rd.of_blk HK4.out HLS.out.byte; rw [HLS.out.len] at this; exact this)).mono ?_; rw [HDQ.out]; rintro e w5 ⟨rfl, hw5⟩; subst w5))
    have z0 : w4.cell? ⟨w.heap.size, 0, none⟩ = some (.int .i64 0) := (HZ2.out.stay HB4'.out).cell 0 rfl
    have z1 : w4.cell? ⟨w.heap.size, 1, none⟩ = some (.int .i64 0) := (HZ2.out.stay HB4'.out).cell 1 rfl
    have f0 := (HZ2.out.stay HB4'.out).free 0
    have f1 := (HZ2.out.stay HB4'.out).free 1
    have HB4 : Hid (Below w.heap.size w w4) := HB2.out.trans (HB4'.out.mono HB2.out.size)
    clear b0 b1 b2
    go_wp2
    refine bodyPost_ret (results_read (cs := [.int .i64 n, .int .i64 v]) (by rfl) (((HZ2.out.stay HB4'.out).set 0 _).set 1 _) rfl) rfl ?_
    rw [HRE.out]
    exact ⟨rfl, (HB4.out.setCell (Nat.le_refl _) _).setCell (Nat.le_refl _) _⟩
  · have HDQ : Hid (decide (s = L) = false) := decide_eq_false hq
    have HRE : Hid (R = (0, 0)) := by show _ = _; rw [HRV.out, ← HL.out, if_neg (fun h => hq h.2.2)]
    clear hq
    have HBd : Hid (Below w2.heap.size w2 w2.drew) := (Below.refl _ _).drew
    go_region_held3 (fun w' => w'.cell? ⟨k, 0, none⟩ = some (.int .u8 (x : Int)) ∧ w'.cell? ⟨w.heap.size + 1, 0, none⟩ = some (.int .i64 n) ∧ w'.cell? ⟨w.heap.size + 1, 1, none⟩ = some (.int .i64 v)) (first | exact ⟨b0, b1, b2⟩ | exact ⟨e0, e1, e2⟩ | fail)
      (first
        | (go_at_call 96; refine (mark_lay x n v HNR.out.1 HNR.out.2 _).mono ?_; rw [← HL.out]; rintro e w4 ⟨k4, rfl, _, hk4, hb4⟩; have HB4' : Hid (Below w2.heap.size w2 w4) := HBd.out.trans hb4; have HK4 : Hid (Blk w4 k4 (vb L).toArray 69) := hk4; have e0 : w4.cell? ⟨k, 0, none⟩ = some (.int .u8 (x : Int)) := (HK2.out.stay HB4'.out).cell 0 HX0.out; have e1 : w4.cell? ⟨w.heap.size + 1, 0, none⟩ = some (.int .i64 n) := (HE2.out.stay HB4'.out).cell 0 rfl; have e2 : w4.cell? ⟨w.heap.size + 1, 1, none⟩ = some (.int .i64 v) := (HE2.out.stay HB4'.out).cell 1 rfl; clear hk4 hb4)
        | (go_at_call 85; refine (bytes_Equal (some ⟨k, 0, none⟩) (some ⟨k4, 0, none⟩) 64 64 64 64 s L _ (HRD.out _ (HB2.out.trans (HB4'.out.mono HB2.out.size))) (by have := Rd.of_blk HK4.out HLS.out.byte; rw [HLS.out.len] at this; exact this)).mono ?_; rw [HDQ.out]; rintro e w5 ⟨rfl, hw5⟩; subst w5))
    have z0 : w4.cell? ⟨w.heap.size, 0, none⟩ = some (.int .i64 0) := (HZ2.out.stay HB4'.out).cell 0 rfl
    have z1 : w4.cell? ⟨w.heap.size, 1, none⟩ = some (.int .i64 0) := (HZ2.out.stay HB4'.out).cell 1 rfl
    have f0 := (HZ2.out.stay HB4'.out).free 0
    have f1 := (HZ2.out.stay HB4'.out).free 1
    have HB4 : Hid (Below w.heap.size w w4) := HB2.out.trans (HB4'.out.mono HB2.out.size)
    clear b0 b1 b2
    go_wp2
    refine bodyPost_ret (results_read (cs := [.int .i64 0, .int .i64 0]) (by rfl) (((HZ2.out.stay HB4'.out).set 0 _).set 1 _) rfl) rfl ?_
    rw [HRE.out]
    exact ⟨rfl, (HB4.out.setCell (Nat.le_refl _) _).setCell (Nat.le_refl _) _⟩
end Go.Proofs.Ytghajmcohdedlaa
