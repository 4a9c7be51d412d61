/- A pack of texts: PrTake3 PrTake4. -/
import Derived.Test.YtfmpfjpcigdeoabGreatDoorPrTake2
/- pred.takeTerm, pred.Take. -/
namespace Go.Proofs.YtfmpfjpcigdeoabGreatDoor
set_option maxRecDepth 100000
open Go.RowKit

set_option maxHeartbeats 4000000 in
theorem take_term (a : Option Addr) (len cap : Nat) (bs : List Nat) (p : Nat) (w : World) (hr : Rd w a len bs) (hlc : len ≤ cap) (hl : len ≤ 9223372036854775000) (hp : p ≤ len) :
    Calls Tryz.prog 21 #[.slice a len cap, .int .i64 (p : Int)] w fun e w' => e = toldTm (termAt bs p) ∧ Below w.heap.size w w' := by
  have hcx : ∀ (a : Addr) (m : Mode) (W : World) (x y : Nat), (store a (.complex .f64 x y) m).run Tryz.prog W = stored Tryz.prog W a (.complex .f64 x y) m := fun a m W x y => run_store _ _ _ _ _ rfl
  have HR : Hid (Rd w a len bs) := hr
  have hbl := hr.size
  have HB0 : Hid (Below w.heap.size w (w.alloc (.cells #[.int .i64 0, .string ⟨#[]⟩, .int .i64 0, .int .i64 0, .int .i64 0, .string ⟨#[]⟩, .bool false, .complex .f64 0 0, .int .i64 0] 58))) := below_alloc w _
  have HON : termAt bs p = (if p = bs.length then (Tm.zero, 0, 3) else if bs.getD p 0 < 1 ∨ 6 < bs.getD p 0 then (Tm.zero, 0, 2) else if bs.getD p 0 = 3 then atomAt bs (p + 1) else (Tm.plain (bs.getD p 0), p + 1, 0)) := rfl
  rw [hbl] at HON
  clear hr
  by_cases hk : p = len
  · have hk' : ((p : Int) == (len : Int)) = true := by rw [hk]; simp
    have HE : Hid (termAt bs p = (Tm.zero, 0, 3)) := by rw [if_pos hk] at HON; exact HON
    clear HON hk
    go_enter Tryz.func21, Tryz.ntmps21
    go_wp2
    go_returns
    exact ⟨by rw [HE.out]; rfl, HB0.out⟩
  · have hk' : ((p : Int) == (len : Int)) = false := by rw [beq_eq_false_iff_ne]; omega
    rw [if_neg hk] at HON
    obtain ⟨b, off, rfl, hcell⟩ : ∃ b off, a = some ⟨b, off, none⟩ ∧ w.cell? ⟨b, off + p, none⟩ = some (.int .u8 ((bs.getD p 0 : Nat) : Int)) := by
      rcases HR.out.cells with h0 | ⟨b, off, e, _, hc⟩
      · omega
      · exact ⟨b, off, e, hc p (by omega)⟩
    have hblt : b < w.heap.size := World.block_lt_of_cell? w _ hcell
    have hcell2 : (w.alloc (.cells #[.int .i64 0, .string ⟨#[]⟩, .int .i64 0, .int .i64 0, .int .i64 0, .string ⟨#[]⟩, .bool false, .complex .f64 0 0, .int .i64 0] 58)).cell? ⟨b, off + p, none⟩ = some (.int .u8 ((bs.getD p 0 : Nat) : Int)) := (HB0.out.cell (p := ⟨b, off + p, none⟩) hblt).trans hcell
    have hb256 : bs.getD p 0 < 256 := getD_lt HR.out.byte p
    obtain ⟨c, hc⟩ : ∃ c, bs.getD p 0 = c := ⟨_, rfl⟩
    rw [hc] at HON hcell2 hb256
    have hki : (p : Int) < (len : Int) := by omega
    clear hc hcell hk
    by_cases hcb : c < 1 ∨ 6 < c
    · have HE : Hid (termAt bs p = (Tm.zero, 0, 2)) := by rw [if_pos hcb] at HON; exact HON
      by_cases h1 : c < 1
      · have k1 : decide ((c : Int) < 1) = true := decide_eq_true (by omega)
        clear HON hcb
        go_enter Tryz.func21, Tryz.ntmps21
        go_wp2
        go_returns
        exact ⟨by rw [HE.out]; rfl, HB0.out⟩
      · have k1 : decide ((c : Int) < 1) = false := decide_eq_false (by omega)
        have k2 : decide ((6 : Int) < (c : Int)) = true := decide_eq_true (by omega)
        clear HON hcb
        go_enter Tryz.func21, Tryz.ntmps21
        go_wp2
        go_returns
        exact ⟨by rw [HE.out]; rfl, HB0.out⟩
    · rw [if_neg hcb] at HON
      have k1 : decide ((c : Int) < 1) = false := decide_eq_false (by omega)
      have k2 : decide ((6 : Int) < (c : Int)) = false := decide_eq_false (by omega)
      by_cases h3 : c = 3
      · have h3' : ((c : Int) == 3) = true := by rw [h3]; rfl
        have HE : Hid (termAt bs p = atomAt bs (p + 1)) := by rw [if_pos h3] at HON; exact HON
        have HAC : Hid (∀ w, Rd w (some ⟨b, off, none⟩) len bs → Calls Tryz.prog 38 #[.slice (some ⟨b, off, none⟩) len cap, .int .i64 ((p : Int) + 1)] w fun e w' => e = toldTm (atomAt bs (p + 1)) ∧ Below w.heap.size w w') := fun w h => take_atom (some ⟨b, off, none⟩) len cap bs (p + 1) w h hlc hl (by omega)
        obtain ⟨q, K, f, hq⟩ : ∃ q K f, atomAt bs (p + 1) = (q, K, f) := ⟨_, _, _, rfl⟩
        rw [hq] at HE HAC
        obtain ⟨op, nm, cm, ⟨vk, vw, vs, vt, vx, vy⟩, r⟩ := q
        simp only [toldTm, Tm.cells] at HAC
        clear HON hcb h3 hq
        go_enter Tryz.func21, Tryz.ntmps21
        go_wp2_with fail
        refine (HAC.out _ (HR.out.below HB0.out)).mono ?_
        rintro e w1 ⟨rfl, hb1⟩
        have HB1 : Hid (Below w.heap.size w w1) := HB0.out.trans (hb1.mono (by simp))
        have HKR : Hid (Blk w1 w.heap.size #[.int .i64 0, .string ⟨#[]⟩, .int .i64 0, .int .i64 0, .int .i64 0, .string ⟨#[]⟩, .bool false, .complex .f64 0 0, .int .i64 0] 58) := (Blk.new w _ _).stay hb1
        clear hb1 hcell2
        have r0 : w1.cell? ⟨w.heap.size, 0, none⟩ = some (.int .i64 0) := HKR.out.cell 0 rfl
        have r1 : w1.cell? ⟨w.heap.size, 1, none⟩ = some (.string ⟨#[]⟩) := HKR.out.cell 1 rfl
        have r2 : w1.cell? ⟨w.heap.size, 2, none⟩ = some (.int .i64 0) := HKR.out.cell 2 rfl
        have r3 : w1.cell? ⟨w.heap.size, 3, none⟩ = some (.int .i64 0) := HKR.out.cell 3 rfl
        have r4 : w1.cell? ⟨w.heap.size, 4, none⟩ = some (.int .i64 0) := HKR.out.cell 4 rfl
        have r5 : w1.cell? ⟨w.heap.size, 5, none⟩ = some (.string ⟨#[]⟩) := HKR.out.cell 5 rfl
        have r6 : w1.cell? ⟨w.heap.size, 6, none⟩ = some (.bool false) := HKR.out.cell 6 rfl
        have r7 : w1.cell? ⟨w.heap.size, 7, none⟩ = some (.complex .f64 0 0) := HKR.out.cell 7 rfl
        have r8 : w1.cell? ⟨w.heap.size, 8, none⟩ = some (.int .i64 0) := HKR.out.cell 8 rfl
        have rf0 := HKR.out.free 0
        have rf1 := HKR.out.free 1
        have rf2 := HKR.out.free 2
        have rf3 := HKR.out.free 3
        have rf4 := HKR.out.free 4
        have rf5 := HKR.out.free 5
        have rf6 := HKR.out.free 6
        have rf7 := HKR.out.free 7
        have rf8 := HKR.out.free 8
        go_wp2
        try simp only [Exit.inBlock, Exit.then]
        refine bodyPost_ret (results_term rfl (by rfl) (by rfl) (by rfl) (Blk.set9 HKR.out _ _ _ _ _ _ _ _ _)) rfl ?_
        exact ⟨by rw [HE.out]; rfl, (((((((((HB1.out.setCell (Nat.le_refl _) _).setCell (Nat.le_refl _) _).setCell (Nat.le_refl _) _).setCell (Nat.le_refl _) _).setCell (Nat.le_refl _) _).setCell (Nat.le_refl _) _).setCell (Nat.le_refl _) _).setCell (Nat.le_refl _) _).setCell (Nat.le_refl _) _)⟩
      · have h3' : ((c : Int) == 3) = false := by rw [beq_eq_false_iff_ne]; omega
        have HE : Hid (termAt bs p = (Tm.plain c, p + 1, 0)) := by rw [if_neg h3] at HON; exact HON
        clear HON hcb h3
        go_enter Tryz.func21, Tryz.ntmps21
        go_wp2
        go_returns
        exact ⟨by rw [HE.out]; rfl, below_alloc w _⟩

/-- Where a term that is taken ends, and that it is right. -/
theorem atomAt_fine {bs : List Nat} {p : Nat} {q : Tm} {k : Nat} (hb : ∀ y ∈ bs, y < 256) (h : atomAt bs p = (q, k, 0)) : k ≤ bs.length ∧ q.op = 3 ∧ AtomRight q := by
  rcases hT : textAt bs (p : Int) with ⟨l, j, f⟩
  by_cases hf : f = 0
  · subst hf
    by_cases hn : nameOk (str l)
    · rw [atomAt_on hT hn] at h
      have hj := (textAt_once hb hT).2.2.1
      by_cases h1 : j = bs.length
      · rw [if_pos h1] at h; simp at h
      · rw [if_neg h1] at h
        generalize bs.getD j 0 = c at h
        by_cases h2 : c < 1 ∨ 10 < c
        · rw [if_pos h2] at h; simp at h
        · rw [if_neg h2] at h
          by_cases h3 : c ≤ 2
          · rw [if_pos h3] at h
            simp only [Prod.mk.injEq, and_true] at h
            obtain ⟨rfl, rfl⟩ := h
            exact ⟨by omega, rfl, hn, by dsimp only; omega, fun h => by dsimp only at h; omega⟩
          · rw [if_neg h3] at h
            rcases hV : valFor bs (j + 1) c with ⟨v, i, f⟩
            by_cases hf : f = 0
            · subst hf
              obtain ⟨hi, hv, hm⟩ := valFor_place hb hV
              have hvr : v.Right := (valAt_once hb hv).choose_spec.1.right
              by_cases h10 : c = 10
              · rcases hR : radAt bs i with ⟨r, i2, f2⟩
                rw [restAt_near hV h10 hR] at h
                by_cases hf2 : f2 = 0
                · subst hf2
                  rw [if_pos rfl] at h
                  simp only [Prod.mk.injEq, and_true] at h
                  obtain ⟨rfl, rfl⟩ := h
                  unfold radAt at hR
                  rcases hL : Leb.take bs (i : Int) with ⟨n, k2, f3⟩
                  rw [hL] at hR
                  cases f3 with
                  | succ f3 => simp at hR
                  | zero =>
                    by_cases hbig : 1048576 < n
                    · simp [hbig] at hR
                    · simp only [if_neg hbig, Prod.mk.injEq, and_true] at hR
                      obtain ⟨rfl, rfl⟩ := hR
                      obtain ⟨_, _, _, hk, _⟩ := Leb.take_once bs _ hb n k2 hL
                      exact ⟨hk, rfl, hn, by dsimp only; omega, fun _ => ⟨hvr, hm, fun _ => by dsimp only; omega⟩⟩
                · rw [if_neg hf2] at h
                  simp only [Prod.mk.injEq] at h
                  exact absurd h.2.2 hf2
              · rw [restAt_plain hV h10] at h
                simp only [Prod.mk.injEq, and_true] at h
                obtain ⟨rfl, rfl⟩ := h
                exact ⟨hi, rfl, hn, by dsimp only; omega, fun _ => ⟨hvr, hm, fun h => absurd h h10⟩⟩
            · rw [restAt_err hV hf] at h
              simp only [Prod.mk.injEq] at h
              exact absurd h.2.2 hf
    · rw [atomAt_name hT hn] at h
      simp at h
  · rw [atomAt_text hT hf] at h
    simp only [Prod.mk.injEq] at h
    exact absurd h.2.2 hf
theorem termAt_fine {bs : List Nat} {p : Nat} {q : Tm} {k : Nat} (hb : ∀ y ∈ bs, y < 256) (hp : p ≤ bs.length) (h : termAt bs p = (q, k, 0)) : k ≤ bs.length ∧ TmRight q := by
  unfold termAt at h
  by_cases h1 : p = bs.length
  · rw [if_pos h1] at h; simp at h
  · rw [if_neg h1] at h
    generalize bs.getD p 0 = c at h
    by_cases h2 : c < 1 ∨ 6 < c
    · rw [if_pos h2] at h; simp at h
    · rw [if_neg h2] at h
      by_cases h3 : c = 3
      · rw [if_pos h3] at h
        obtain ⟨e1, e2, e3⟩ := atomAt_fine hb h
        exact ⟨e1, by rw [e2]; omega, fun _ => e3⟩
      · rw [if_neg h3] at h
        simp only [Prod.mk.injEq, and_true] at h
        obtain ⟨rfl, rfl⟩ := h
        exact ⟨by omega, by dsimp only [Tm.plain]; omega, fun h => absurd h h3⟩
end Go.Proofs.YtfmpfjpcigdeoabGreatDoor
/- pred.Take: the terms at a place, and the place behind them. -/
namespace Go.Proofs.YtfmpfjpcigdeoabGreatDoor
set_option maxRecDepth 100000
open Go.RowKit

theorem predAt_err {bs : List Nat} {x : Int} {n k f : Nat} (h : Leb.take bs x = (n, k, f)) (hf : f ≠ 0) : predAt bs x = ([], 0, f) := by
  unfold predAt
  rw [h]
  cases f with
  | zero => exact absurd rfl hf
  | succ f => rfl
theorem predAt_limit {bs : List Nat} {x : Int} {n k : Nat} (h : Leb.take bs x = (n, k, 0)) (hn : 48 < n) : predAt bs x = ([], 0, 6) := by
  unfold predAt
  rw [h]
  exact if_pos hn
/-- What is told of terms that were gone through. -/
def endT (r : List Tm × Nat × Nat) : List Tm × Nat × Nat := if r.2.2 = 0 then (if checkT r.1 = 0 then r else ([], 0, checkT r.1)) else ([], 0, r.2.2)
theorem predAt_go {bs : List Nat} {x : Int} {n k : Nat} (h : Leb.take bs x = (n, k, 0)) (hn : ¬ 48 < n) : predAt bs x = endT (goT bs n k []) := by
  unfold predAt
  rw [h]
  refine (if_neg hn).trans ?_
  rcases hg : goT bs n k [] with ⟨l, j, f⟩
  unfold endT
  cases f with
  | zero => rfl
  | succ f => rfl

set_option maxHeartbeats 4000000 in
theorem pred_Take (a : Option Addr) (len cap : Nat) (bs : List Nat) (x : Int) (w : World) (hr : Rd w a len bs) (hlc : len ≤ cap) (hl : len ≤ 9223372036854775000) (hx : (-9223372036854775808 : Int) ≤ x ∧ x ≤ 9223372036854775807) (L : List Tm) (K F : Nat) (hS : predAt bs x = (L, K, F)) :
    Calls Tryz.prog 12 #[.slice a len cap, .int .i64 x] w fun e w' => ∃ v, e = .returned (.tuple #[v, .int .i64 (K : Int), .int .i64 (F : Int)]) ∧ Tms w' w.heap.size v L ∧ Below w.heap.size w w' := by
  have hcx : ∀ (a : Addr) (m : Mode) (W : World) (x y : Nat), (store a (.complex .f64 x y) m).run Tryz.prog W = stored Tryz.prog W a (.complex .f64 x y) m := fun a m W x y => run_store _ _ _ _ _ rfl
  have HR : Hid (Rd w a len bs) := hr
  have HX : Hid ((-9223372036854775808 : Int) ≤ x ∧ x ≤ 9223372036854775807) := hx
  have HBL : Hid (bs.length = len) := hr.size
  have hsm := take_small bs x hr.byte
  obtain ⟨n, k, f, hT⟩ : ∃ n k f, Leb.take bs x = (n, k, f) := ⟨_, _, _, rfl⟩
  rw [hT] at hsm
  have HT : Hid (Leb.take bs x = (n, k, f)) := hT
  have HS : Hid (predAt bs x = (L, K, F)) := hS
  clear hr hx hT hS
  by_cases hf : f = 0
  · subst hf
    by_cases h8 : 48 < n
    · have HE : Hid (L = [] ∧ K = 0 ∧ F = 6) := by
        have := HS.out
        rw [predAt_limit HT.out h8] at this
        simp only [Prod.mk.injEq] at this
        exact ⟨this.1.symm, this.2.1.symm, this.2.2.symm⟩
      have h8' : (48 : Int) < (n : Int) := by omega
      go_enter Tryz.func12, Tryz.ntmps12
      go_wp2_with fail
      refine (octet_TakeUint a len cap bs x w HR.out hl HX.out).mono ?_
      rw [HT.out, told]
      rintro e w1 ⟨rfl, rfl⟩
      go_wp2
      go_ret3
      obtain ⟨rfl, rfl, rfl⟩ := HE.out
      exact ⟨_, rfl, Tms.nil_ _ _, Below.refl _ _⟩
    · have HG : Hid (endT (goT bs n k []) = (L, K, F)) := by show _ = _; rw [← predAt_go HT.out h8]; exact HS.out
      have hkl : k ≤ bs.length := by
        obtain ⟨_, _, _, h, _, _, _⟩ := Leb.take_once bs x HR.out.byte n k HT.out
        exact h
      rw [HBL.out] at hkl
      have h8' : ¬ (48 : Int) < (n : Int) := by omega
      clear hsm HS
      go_enter Tryz.func12, Tryz.ntmps12
      go_wp2_with fail
      refine (octet_TakeUint a len cap bs x w HR.out hl HX.out).mono ?_
      rw [HT.out, told]
      rintro e w1 ⟨rfl, rfl⟩
      go_wp2
      go_loopw [8, 10, 28] (fun t8 t10 t28 wr => ∃ (i m p : Nat) (acc : List Tm), i + m = n ∧ p ≤ len ∧ acc.length = i ∧ t8 = .int .i64 (p : Int) ∧ t28 = .int .u64 (i : Int) ∧ Hid (Tms wr w1.heap.size t10 acc ∧ ∀ q ∈ acc, TmRight q) ∧ Hid (Below w1.heap.size w1 wr) ∧ Hid (endT (goT bs m p acc) = (L, K, F))) (fun _ _ t28 _ => n - (intOf t28).toNat)
      case atStart => exact ⟨0, n, k, [], by omega, hkl, rfl, rfl, rfl, ⟨Tms.nil_ _ _, fun q h => by cases h⟩, Below.refl _ _, HG⟩
      case round =>
        obtain ⟨i, m, p, acc, him, hp, hal, rfl, rfl, HF, HB, HGO⟩ := hrel
        by_cases hlt : i < n
        · have hlt' : (i : Int) < (n : Int) := by omega
          obtain ⟨m, rfl⟩ : ∃ m', m = m' + 1 := ⟨m - 1, by omega⟩
          rcases hq : termAt bs p with ⟨q, k1, f1⟩
          have HQ : Hid (termAt bs p = (q, k1, f1)) := hq
          have HTC : Hid (∀ w, Rd w a len bs → Calls Tryz.prog 21 #[.slice a len cap, .int .i64 (p : Int)] w fun e w' => e = toldTm (q, k1, f1) ∧ Below w.heap.size w w') := fun w h => by
            have := take_term a len cap bs p w h hlc hl hp
            rw [hq] at this
            exact this
          clear hq
          obtain ⟨u10a, u10n, u10c, rfl⟩ : ∃ a n c, u10 = .slice a n c := by
            obtain ⟨a, c, e⟩ := HF.out.1.form
            exact ⟨a, _, c, e⟩
          by_cases hf1 : f1 = 0
          · subst hf1
            have HGO' : Hid (endT (goT bs m k1 (acc ++ [q])) = (L, K, F)) := by show _ = _; rw [← goT_ok HQ.out]; exact HGO.out
            obtain ⟨hk1, hqr⟩ := termAt_fine HR.out.byte (by rw [HBL.out]; exact hp) HQ.out
            rw [HBL.out] at hk1
            have HQR : Hid (∀ q' ∈ acc ++ [q], TmRight q') := by
              intro q' h
              rcases List.mem_append.1 h with h | h
              · exact HF.out.2 q' h
              · rw [List.mem_singleton] at h; rw [h]; exact hqr
            clear HGO hqr
            go_wp2_with fail
            refine (HTC.out _ (HR.out.below HB.out)).mono ?_
            rintro e w2 ⟨rfl, hb2⟩
            have HB2 : Hid (Below w1.heap.size w1 w2) := HB.out.trans (hb2.mono HB.out.size)
            have HF2 : Hid (Tms w2 w1.heap.size (.slice u10a u10n u10c) acc) := HF.out.1.below hb2
            have HA1 : Hid (Below w2.heap.size w2 ((w2.alloc (.cells q.cells 58)).alloc (.cells q.cells 58))) := ((Below.refl _ _).alloc (Nat.le_refl _) _).alloc (by simp) _
            have HKN : Hid (Blk ((w2.alloc (.cells q.cells 58)).alloc (.cells q.cells 58)) (w2.heap.size + 1) q.cells 58) := by
              show Blk _ _ _ _
              have := Blk.new (w2.alloc (.cells q.cells 58)) q.cells 58
              simpa using this
            have hal2 : acc.length ≤ 100000 := by omega
            clear hb2
            obtain ⟨op, nm, cm, ⟨vk, vw, vs, vt, vx, vy⟩, r⟩ := q
            simp only [toldTm, Tm.cells] at HA1 HKN ⊢
            go_wp2_with (at_builtin; refine wpList_append_tm rfl (.tmp 40) (.tmp 42) rfl w1.heap.size _ acc rfl (HF2.out.below HA1.out) ⟨w2.heap.size + 1, 0, none⟩ 1 ⟨op, nm, cm, ⟨vk, vw, vs, vt, vx, vy⟩, r⟩ rfl (Tm.told HKN.out) hal2 (Nat.le_trans HB2.out.size HA1.out.size) ?_)
            intro v' w3 ht hg
            have HF3 : Hid (Tms w3 w1.heap.size v' (acc ++ [⟨op, nm, cm, ⟨vk, vw, vs, vt, vx, vy⟩, r⟩]) ∧ ∀ q' ∈ acc ++ [⟨op, nm, cm, ⟨vk, vw, vs, vt, vx, vy⟩, r⟩], TmRight q') := ⟨ht, HQR.out⟩
            have HB3 : Hid (Below w1.heap.size w1 w3) := (HB2.out.trans (HA1.out.mono HB2.out.size)).trans ((Below.refl _ _).grown hg (Nat.le_trans HB2.out.size HA1.out.size) (fun k hk => Tms.at_ (HF2.out.below HA1.out) hk))
            obtain ⟨a3, c3, rfl⟩ := ht.form
            clear ht hg
            go_wp2
            go_roundw
            case rel => exact ⟨i + 1, m, k1, acc ++ [⟨op, nm, cm, ⟨vk, vw, vs, vt, vx, vy⟩, r⟩], by omega, hk1, by simp; omega, rfl, by go_num, HF3, HB3, HGO'⟩
            case measure => simp [intOf]; omega
          · have hf1' : (f1 : Int) ≠ 0 := by omega
            have HE : Hid (L = [] ∧ K = 0 ∧ F = f1) := by
              have := HGO.out
              rw [goT_err HQ.out hf1, endT, if_neg hf1] at this
              simp only [Prod.mk.injEq] at this
              exact ⟨this.1.symm, this.2.1.symm, this.2.2.symm⟩
            clear HGO
            go_wp2_with fail
            refine (HTC.out _ (HR.out.below HB.out)).mono ?_
            rintro e w2 ⟨rfl, hb2⟩
            have HB2 : Hid (Below w1.heap.size w1 w2) := HB.out.trans (hb2.mono HB.out.size)
            clear hb2
            obtain ⟨op, nm, cm, ⟨vk, vw, vs, vt, vx, vy⟩, r⟩ := q
            simp only [toldTm, Tm.cells]
            go_wp2
            go_ret3
            obtain ⟨rfl, rfl, rfl⟩ := HE.out
            exact ⟨_, rfl, Tms.nil_ _ _, HB2.out.alloc HB2.out.size _⟩
        · have hnl : ¬ (i : Int) < (n : Int) := by omega
          obtain rfl : m = 0 := by omega
          obtain ⟨u10a, u10c, rfl⟩ := HF.out.1.form
          have HG2 : Hid (endT (acc, p, 0) = (L, K, F)) := by have := HGO.out; rw [goT] at this; exact this
          have HCK : Hid (∀ w, TmsRd w u10a acc → Calls Tryz.prog 10 #[.slice u10a acc.length u10c] w fun e w' => e = .returned (.int .i64 (checkT acc : Int)) ∧ Below w.heap.size w w') := fun w h => pred_Check u10a acc.length u10c acc w h rfl (by omega) HF.out.2
          obtain ⟨ck, hck⟩ : ∃ ck, checkT acc = ck := ⟨_, rfl⟩
          obtain ⟨an, han⟩ : ∃ an, acc.length = an := ⟨_, rfl⟩
          rw [hck] at HCK
          rw [han] at HCK HF ⊢
          have HCKE : Hid (checkT acc = ck) := hck
          clear HGO hck
          have HRD : Hid (TmsRd wr u10a acc) := HF.out.1.rd.2
          by_cases hc0 : ck = 0
          · subst hc0
            have HE : Hid (acc = L ∧ p = K ∧ 0 = F) := by
              have := HG2.out
              rw [endT, if_pos rfl, if_pos HCKE.out] at this
              simp only [Prod.mk.injEq] at this
              exact this
            clear hal han
            go_wp2_with fail
            refine (HCK.out _ HRD.out).mono ?_
            rintro e w2 ⟨rfl, hb2⟩
            have HB2 : Hid (Below w1.heap.size w1 w2) := HB.out.trans (hb2.mono HB.out.size)
            have HF2 : Hid (Tms w2 w1.heap.size (.slice u10a an u10c) acc) := HF.out.1.below hb2
            clear hb2
            go_wp2
            go_ret3
            obtain ⟨rfl, rfl, rfl⟩ := HE.out
            exact ⟨_, rfl, HF2.out, HB2.out⟩
          · have hc0' : (ck : Int) ≠ 0 := by omega
            have HE : Hid (L = [] ∧ K = 0 ∧ F = ck) := by
              have := HG2.out
              rw [endT, if_pos rfl, if_neg (by rw [HCKE.out]; exact hc0), HCKE.out] at this
              simp only [Prod.mk.injEq] at this
              exact ⟨this.1.symm, this.2.1.symm, this.2.2.symm⟩
            clear hal han
            go_wp2_with fail
            refine (HCK.out _ HRD.out).mono ?_
            rintro e w2 ⟨rfl, hb2⟩
            have HB2 : Hid (Below w1.heap.size w1 w2) := HB.out.trans (hb2.mono HB.out.size)
            clear hb2
            go_wp2
            go_ret3
            obtain ⟨rfl, rfl, rfl⟩ := HE.out
            exact ⟨_, rfl, Tms.nil_ _ _, HB2.out⟩
  · have hf' : (f : Int) ≠ 0 := by omega
    have HE : Hid (L = [] ∧ K = 0 ∧ F = f) := by
      have := HS.out
      rw [predAt_err HT.out hf] at this
      simp only [Prod.mk.injEq] at this
      exact ⟨this.1.symm, this.2.1.symm, this.2.2.symm⟩
    go_enter Tryz.func12, Tryz.ntmps12
    go_wp2_with fail
    refine (octet_TakeUint a len cap bs x w HR.out hl HX.out).mono ?_
    rw [HT.out, told]
    rintro e w1 ⟨rfl, rfl⟩
    go_wp2
    go_ret3
    obtain ⟨rfl, rfl, rfl⟩ := HE.out
    exact ⟨_, rfl, Tms.nil_ _ _, Below.refl _ _⟩
end Go.Proofs.YtfmpfjpcigdeoabGreatDoor
