/- evlog: a log in memory; place, stale, shut, High, Rel, Used, wipe. -/
import Derived.Test.YtghajmcohdedlaaEvL3
namespace Go.Proofs.Ytghajmcohdedlaa
open Go.RowKit

/-- A log's own block. -/
def Lc (w : World) (gl g gc b m ag : Nat) (uv : Value) (hi rel : Nat) (rv : Value) : Prop := Blk w gl #[.pointer (some ⟨g, 0, none⟩), .pointer (some ⟨gc, 0, none⟩), .int .i64 (b : Int), .int .i64 (m : Int), .int .i64 (ag : Int), uv, .int .i64 (hi : Int), .int .i64 (rel : Int), rv] 56
theorem Lc.stay {w w' : World} {gl g gc b m ag hi rel : Nat} {uv rv : Value} (h : Lc w gl g gc b m ag uv hi rel rv) (hb : Below w.heap.size w w') : Lc w' gl g gc b m ag uv hi rel rv := Blk.stay h hb
theorem Lc.ne {w : World} {gl g gc b m ag hi rel base gs : Nat} {uv rv wv : Value} {D : Dk} (h : Lc w gl g gc b m ag uv hi rel rv) (hd : Disk w base g gs wv D) : gl ≠ g ∧ gl ≠ gs := ⟨blk_ne h hd.blk (by decide), blk_ne h hd.srow (by decide)⟩
theorem Lc.mv {w w' : World} {gl g gc b m ag hi rel base gs : Nat} {uv rv wv : Value} {D : Dk} (h : Lc w gl g gc b m ag uv hi rel rv) (hd : Disk w base g gs wv D) (hm : Mv w w' base g gs) : Lc w' gl g gc b m ag uv hi rel rv := hm.keep h (h.ne hd).1 (h.ne hd).2 (by decide)

theorem disk_Age (w : World) (base g gs : Nat) (wv : Value) (D : Dk) (h : Disk w base g gs wv D) : Calls Try.prog 19 #[.pointer (some ⟨g, 0, none⟩)] w fun e w' => e = .returned (.int .i64 (D.age : Int)) ∧ w' = w := by
  have c4 : w.cell? ⟨g, 4, none⟩ = some (.int .i64 (D.age : Int)) := h.blk.cell 4 rfl
  clear h
  go_enter Try.func19, Try.ntmps19
  go_wp2
  go_ret
  exact ⟨rfl, rfl⟩

set_option maxRecDepth 100000 in
theorem evl_place (w : World) (gl g gc b m ag hi rel : Nat) (uv rv : Value) (i : Nat) (h : Lc w gl g gc b m ag uv hi rel rv) (hb : b ≤ 1000) (hi16 : i ≤ 1000) : Calls Try.prog 57 #[.pointer (some ⟨gl, 0, none⟩), .int .i64 (i : Int)] w fun e w' => e = .returned (.int .i64 ((b + 2 + i * 16 : Nat) : Int)) ∧ w' = w := by
  have c2 : w.cell? ⟨gl, 2, none⟩ = some (.int .i64 (b : Int)) := Blk.cell h 2 rfl
  clear h
  go_enter Try.func57, Try.ntmps57
  go_wp2
  go_ret
  exact ⟨by go_num, rfl⟩

def staleE (D : Dk) (ag : Nat) : Int := if D.age = ag then 0 else 13
set_option maxRecDepth 100000 in
set_option maxHeartbeats 2000000 in
theorem evl_stale (w : World) (base g gs : Nat) (wv : Value) (D : Dk) (gl gc b m ag hi rel : Nat) (uv rv : Value) (hd : Disk w base g gs wv D) (h : Lc w gl g gc b m ag uv hi rel rv) :
    Calls Try.prog 32 #[.pointer (some ⟨gl, 0, none⟩)] w fun e w' => e = .returned (.int .i64 (staleE D ag)) ∧ ∃ n, w' = w.drewN n := by
  have c0 : w.cell? ⟨gl, 0, none⟩ = some (.pointer (some ⟨g, 0, none⟩)) := Blk.cell h 0 rfl
  have c4 : w.cell? ⟨gl, 4, none⟩ = some (.int .i64 (ag : Int)) := Blk.cell h 4 rfl
  obtain ⟨da, hda⟩ : ∃ da, da = D.age := ⟨_, rfl⟩
  obtain ⟨R, HR⟩ : ∃ R, Hid (R = staleE D ag) := ⟨_, rfl⟩
  rw [← HR.out]
  have HC : Hid (∀ n, Calls Try.prog 19 #[.pointer (some ⟨g, 0, none⟩)] (w.drewN n) fun e w' => e = .returned (.int .i64 (da : Int)) ∧ w' = w.drewN n) := fun n => by
    rw [hda]
    exact disk_Age _ base g gs wv D (hd.stay (below_drews (Below.refl _ _) n))
  by_cases ha : da = ag
  · have HX : Hid (R = 0) := by (show _ = _); rw [HR.out, staleE, if_pos (by rw [← hda]; exact ha)]
    subst ha
    have e1 : ((da : Int) != (da : Int)) = false := by simp
    clear hda hd h
    go_enter Try.func32, Try.ntmps32
    go_wp2
    go_quiet ((go_at_call 19; exact Calls.quiet_of_same (HC.out _)))
    go_wp2
    go_ret
    exact ⟨by rw [HX.out]; rfl, _, rfl⟩
  · have HX : Hid (R = 13) := by (show _ = _); rw [HR.out, staleE, if_neg (by rw [← hda]; exact ha)]
    have e1 : ((da : Int) != (ag : Int)) = true := by rw [bne_iff_ne]; omega
    have e2 : ((da : Int) == (ag : Int)) = false := by rw [beq_eq_false_iff_ne]; omega
    clear hda hd h
    go_enter Try.func32, Try.ntmps32
    go_wp2
    go_quiet ((go_at_call 19; exact Calls.quiet_of_same (HC.out _)))
    go_wp2
    go_ret
    exact ⟨by rw [HX.out]; rfl, _, rfl⟩

def shutE (D : Dk) (ag : Nat) : Int := if D.age = ag then (if D.down = true then 10 else 0) else 13
set_option maxRecDepth 100000 in
set_option maxHeartbeats 2000000 in
theorem evl_shut (w : World) (base g gs : Nat) (wv : Value) (D : Dk) (gl gc b m ag hi rel : Nat) (uv rv : Value) (hd : Disk w base g gs wv D) (h : Lc w gl g gc b m ag uv hi rel rv) :
    Calls Try.prog 48 #[.pointer (some ⟨gl, 0, none⟩)] w fun e w' => e = .returned (.int .i64 (shutE D ag)) ∧ ∃ n, w' = w.drewN n := by
  obtain ⟨R, HR⟩ : ∃ R, Hid (R = shutE D ag) := ⟨_, rfl⟩
  rw [← HR.out]
  have HD : Hid (Disk w base g gs wv D) := hd
  have HL : Hid (Lc w gl g gc b m ag uv hi rel rv) := h
  have HS := evl_stale w base g gs wv D gl gc b m ag hi rel uv rv hd h
  by_cases ha : D.age = ag
  · have HX : Hid (R = if D.down = true then 10 else 0) := by (show _ = _); rw [HR.out, shutE, if_pos ha]
    rw [show staleE D ag = 0 from by rw [staleE, if_pos ha]] at HS
    clear hd h ha
    go_enter Try.func48, Try.ntmps48
    go_wp2_with fail
    refine HS.mono ?_
    rintro e w1 ⟨rfl, n, hw1⟩
    have HN : Hid (∃ n, w1 = w.drewN n) := ⟨n, hw1⟩
    have HB1 : Hid (Below w.heap.size w w1) := by (show Below _ _ _); rw [hw1]; exact below_drews (Below.refl _ _) n
    have c0 : w1.cell? ⟨gl, 0, none⟩ = some (.pointer (some ⟨g, 0, none⟩)) := Blk.cell (HL.out.stay HB1.out) 0 rfl
    clear hw1 HS
    have HDN := disk_Down w1 base g gs wv D (HD.out.stay HB1.out)
    cases hdn : D.down with
    | true =>
      rw [hdn] at HDN
      have HF : Hid (R = 10) := by (show _ = _); rw [HX.out, hdn]; rfl
      clear hdn
      go_wp2_with fail
      refine HDN.mono ?_
      rintro e w2 ⟨rfl, hw2⟩
      rw [hw2]
      clear hw2 w2 HDN
      go_wp2
      go_ret
      exact ⟨by rw [HF.out]; rfl, HN.out⟩
    | false =>
      rw [hdn] at HDN
      have HF : Hid (R = 0) := by (show _ = _); rw [HX.out, hdn]; rfl
      clear hdn
      go_wp2_with fail
      refine HDN.mono ?_
      rintro e w2 ⟨rfl, hw2⟩
      rw [hw2]
      clear hw2 w2 HDN
      go_wp2
      go_ret
      exact ⟨by rw [HF.out]; rfl, HN.out⟩
  · have HX : Hid (R = 13) := by (show _ = _); rw [HR.out, shutE, if_neg ha]
    rw [show staleE D ag = 13 from by rw [staleE, if_neg ha]] at HS
    clear hd h ha
    go_enter Try.func48, Try.ntmps48
    go_wp2_with fail
    refine HS.mono ?_
    rintro e w1 ⟨rfl, n, hw1⟩
    have HN : Hid (∃ n, w1 = w.drewN n) := ⟨n, hw1⟩
    clear hw1 HS
    go_wp2
    go_ret
    exact ⟨by rw [HX.out]; rfl, HN.out⟩

/-- Sectors that are not empty are emptied: the disk, whether there was one, the error. -/
def wipeL : Dk → Nat → Nat → Bool → Dk × Bool × Int
  | D, 0, _, b => (D, b, 0)
  | D, cnt + 1, i, b => if readE D i ≠ 0 then (D, false, readE D i) else if nowB D i = List.replicate 64 0 then wipeL D cnt (i + 1) b else if writeE D i [] ≠ 0 then (writeD D i [], false, writeE D i []) else wipeL (writeD D i []) cnt (i + 1) true
theorem write_wl (D : Dk) (i : Int) (bs : List Nat) : (writeD D i bs).waits.length ≤ D.waits.length + 1 := by
  unfold writeD
  split
  · omega
  · split
    · omega
    · split
      · omega
      · split
        · rw [trips_waits]; omega
        · simp

set_option maxRecDepth 100000 in
set_option maxHeartbeats 4000000 in
theorem evl_wipe (w : World) (base g gs : Nat) (wv : Value) (D : Dk) (gl gc b m ag hi rel : Nat) (uv rv : Value) (fr to_ : Nat) (hd : Disk w base g gs wv D) (h : Lc w gl g gc b m ag uv hi rel rv) (hft : fr ≤ to_) (hto : to_ ≤ 100000) (hw : D.waits.length + (to_ - fr) < 1000000000) :
    Calls Try.prog 38 #[.pointer (some ⟨gl, 0, none⟩), .int .i64 (fr : Int), .int .i64 (to_ : Int)] w fun e w' => e = .returned (.tuple #[.bool (wipeL D (to_ - fr) fr false).2.1, .int .i64 (wipeL D (to_ - fr) fr false).2.2]) ∧ Hid (∃ wv', Disk w' base g gs wv' (wipeL D (to_ - fr) fr false).1) ∧ Mv w w' base g gs := by
  obtain ⟨⟨RD, RB, RE⟩, HR⟩ : ∃ R, Hid (R = wipeL D (to_ - fr) fr false) := ⟨_, rfl⟩
  rw [← HR.out]
  have HD : Hid (∃ wv', Disk w base g gs wv' D) := ⟨wv, hd⟩
  have HL : Hid (Lc w gl g gc b m ag uv hi rel rv) := h
  have HBS : Hid (base ≤ w.heap.size) := Nat.le_trans hd.bg (Nat.le_of_lt hd.blk.lt)
  clear hd h
  go_enter Try.func38, Try.ntmps38
  go_wp2
  go_loopw [8, 9] (fun t8 t9 wr => ∃ (i : Nat) (bb : Bool) (D1 : Dk), fr ≤ i ∧ i ≤ to_ ∧ t8 = .bool bb ∧ t9 = .int .i64 (i : Int) ∧ Hid (wipeL D1 (to_ - i) i bb = (RD, RB, RE)) ∧ Hid (D1.waits.length + (to_ - i) < 1000000000) ∧ Hid (∃ wv', Disk wr base g gs wv' D1) ∧ Hid (Lc wr gl g gc b m ag uv hi rel rv) ∧ Hid (Mv w wr base g gs)) (fun _ t9 _ => to_ - (intOf t9).toNat)
  case atStart => exact ⟨fr, false, D, Nat.le_refl _, hft, rfl, rfl, HR.out.symm, hw, HD, HL, Mv.refl _ _ _ _⟩
  case round =>
    obtain ⟨i, bb, D1, hi1, hi2, rfl, rfl, HE, HWL, HDr, HLr, HMr⟩ := hrel
    by_cases hlt : i < to_
    · have hlt' : (i : Int) < (to_ : Int) := by omega
      have c0 : wr.cell? ⟨gl, 0, none⟩ = some (.pointer (some ⟨g, 0, none⟩)) := Blk.cell HLr.out 0 rfl
      have HE2 : Hid ((if readE D1 i ≠ 0 then (D1, false, readE D1 i) else if nowB D1 i = List.replicate 64 0 then wipeL D1 (to_ - (i + 1)) (i + 1) bb else if writeE D1 i [] ≠ 0 then (writeD D1 i [], false, writeE D1 i []) else wipeL (writeD D1 i []) (to_ - (i + 1)) (i + 1) true) = (RD, RB, RE)) := by
        (show _ = _)
        rw [← HE.out, show to_ - i = (to_ - (i + 1)) + 1 from by omega, wipeL]
      obtain ⟨wv1, hd1⟩ := HDr.out
      have HRC := disk_Read wr base g gs wv1 D1 (i : Int) hd1
      have HD1 : Hid (Disk wr base g gs wv1 D1) := hd1
      rw [Int.toNat_natCast] at HRC
      clear HE hd1
      go_wp2_with fail
      refine HRC.mono ?_
      rintro e w2 ⟨ht2, hb2⟩
      have HD2 : Hid (Disk w2 base g gs wv1 D1) := HD1.out.stay hb2
      have HL2 : Hid (Lc w2 gl g gc b m ag uv hi rel rv) := HLr.out.stay hb2
      have HM2 : Hid (Mv w w2 base g gs) := HMr.out.trans (Mv.of_below g gs hb2 (Nat.le_trans HBS.out HMr.out.low.size))
      clear HRC
      rcases ht2.out with ⟨hne, rfl⟩ | ⟨h0, k, rfl, _, hk, hs⟩
      · obtain ⟨er, her⟩ : ∃ er, er = readE D1 (i : Int) := ⟨_, rfl⟩
        rw [← her] at hne ⊢
        have HX : Hid (RD = D1 ∧ RB = false ∧ RE = er) := by
          have := HE2.out
          rw [← her, if_pos hne] at this
          simp only [Prod.mk.injEq] at this
          exact ⟨this.1.symm, this.2.1.symm, this.2.2.symm⟩
        have e1 : (er != 0) = true := by rw [bne_iff_ne]; exact hne
        have e2 : (er == 0) = false := by rw [beq_eq_false_iff_ne]; exact hne
        clear ht2 hb2 her hne
        go_wp2
        go_returns
        exact ⟨by rw [HX.out.2.1, HX.out.2.2]; rfl, by rw [HX.out.1]; exact ⟨wv1, HD2.out⟩, HM2.out⟩
      · have hR : Rd w2 (some ⟨k, 0, none⟩) 64 (nowB D1 i) := by
          have := Rd.of_blk hk hs.byte
          rw [hs.len] at this
          exact this
        have HEM := evl_empty (some ⟨k, 0, none⟩) 64 64 (nowB D1 i) w2 hR
        have HE3 : Hid ((if nowB D1 i = List.replicate 64 0 then wipeL D1 (to_ - (i + 1)) (i + 1) bb else if writeE D1 i [] ≠ 0 then (writeD D1 i [], false, writeE D1 i []) else wipeL (writeD D1 i []) (to_ - (i + 1)) (i + 1) true) = (RD, RB, RE)) := by
          have := HE2.out
          rw [if_neg (by rw [h0]; simp)] at this
          exact this
        clear ht2 hb2 hk hs hR h0 HE2 c0
        go_wp2_with fail
        refine HEM.mono ?_
        rintro e w3 ⟨he, hb3⟩
        subst he
        have HD3 : Hid (Disk w3 base g gs wv1 D1) := HD2.out.stay hb3
        have HL3 : Hid (Lc w3 gl g gc b m ag uv hi rel rv) := HL2.out.stay hb3
        have HM3 : Hid (Mv w w3 base g gs) := HM2.out.trans (Mv.of_below g gs hb3 (Nat.le_trans HBS.out HM2.out.low.size))
        clear HEM hb3
        by_cases hz : nowB D1 i = List.replicate 64 0
        · have hzd : decide (nowB D1 i = List.replicate 64 0) = true := decide_eq_true hz
          have HE4 : Hid (wipeL D1 (to_ - (i + 1)) (i + 1) bb = (RD, RB, RE)) := by
            have := HE3.out
            rw [if_pos hz] at this
            exact this
          rw [hzd]
          clear hz hzd
          go_wp2
          go_roundw
          case rel => exact ⟨i + 1, bb, D1, by omega, by omega, rfl, by go_num, HE4, by have := HWL.out; (show _ < _); omega, ⟨wv1, HD3.out⟩, HL3, HM3⟩
          case measure => (simp [intOf]; omega)
        · have hzd : decide (nowB D1 i = List.replicate 64 0) = false := decide_eq_false hz
          have HE4 : Hid ((if writeE D1 i [] ≠ 0 then (writeD D1 i [], false, writeE D1 i []) else wipeL (writeD D1 i []) (to_ - (i + 1)) (i + 1) true) = (RD, RB, RE)) := by
            have := HE3.out
            rw [if_neg hz] at this
            exact this
          rw [hzd]
          have c0 : w3.cell? ⟨gl, 0, none⟩ = some (.pointer (some ⟨g, 0, none⟩)) := Blk.cell HL3.out 0 rfl
          have HWC := disk_Write w3 base g gs wv1 D1 (i : Int) none 0 0 [] HD3.out (fun _ _ => ⟨rfl, fun x hx => (by cases hx), .inl rfl⟩) (by omega) (by have := HWL.out; omega)
          obtain ⟨er, her⟩ : ∃ er, er = writeE D1 (i : Int) [] := ⟨_, rfl⟩
          rw [← her] at HWC
          have HER : Hid (er = writeE D1 (i : Int) []) := her
          clear hz hzd her
          go_wp2_with fail
          refine HWC.mono ?_
          rintro e w4 ⟨rfl, hd4, hm4⟩
          have HD4 : Hid (∃ wv', Disk w4 base g gs wv' (writeD D1 i [])) := hd4.out
          have HL4 : Hid (Lc w4 gl g gc b m ag uv hi rel rv) := HL3.out.mv HD3.out hm4
          have HM4 : Hid (Mv w w4 base g gs) := HM3.out.trans hm4
          clear HWC hd4 hm4 c0
          by_cases hwe : er = 0
          · have HE5 : Hid (wipeL (writeD D1 i []) (to_ - (i + 1)) (i + 1) true = (RD, RB, RE)) := by
              have := HE4.out
              rw [if_neg (by rw [← HER.out, hwe]; simp)] at this
              exact this
            have HW5 : Hid ((writeD D1 i []).waits.length + (to_ - (i + 1)) < 1000000000) := by
              have := write_wl D1 i []
              have := HWL.out
              (show _ < _)
              omega
            subst hwe
            go_wp2
            go_roundw
            case rel => exact ⟨i + 1, true, _, by omega, by omega, rfl, by go_num, HE5, HW5, HD4, HL4, HM4⟩
            case measure => (simp [intOf]; omega)
          · have HX : Hid (RD = writeD D1 i [] ∧ RB = false ∧ RE = er) := by
              have := HE4.out
              rw [if_pos (by rw [← HER.out]; exact hwe), ← HER.out] at this
              simp only [Prod.mk.injEq] at this
              exact ⟨this.1.symm, this.2.1.symm, this.2.2.symm⟩
            have e1 : (er != 0) = true := by rw [bne_iff_ne]; exact hwe
            have e2 : (er == 0) = false := by rw [beq_eq_false_iff_ne]; exact hwe
            clear hwe
            go_wp2
            go_returns
            exact ⟨by rw [HX.out.2.1, HX.out.2.2]; rfl, by rw [HX.out.1]; exact HD4, HM4.out⟩
    · obtain rfl : i = to_ := by omega
      have hlt' : ¬ (i : Int) < (i : Int) := by omega
      have HX : Hid (RD = D1 ∧ RB = bb ∧ RE = 0) := by
        have := HE.out
        rw [show i - i = 0 from by omega, wipeL] at this
        simp only [Prod.mk.injEq] at this
        exact ⟨this.1.symm, this.2.1.symm, this.2.2.symm⟩
      go_wp2
      go_returns
      exact ⟨by rw [HX.out.2.1, HX.out.2.2]; rfl, by rw [HX.out.1]; exact HDr, HMr.out⟩
end Go.Proofs.Ytghajmcohdedlaa
