/- A pack of texts: RefChk PrRef PrRef2 PrRefB PrRef3 PrRef4 PrRef5 PrRef6 PrRef7 PrRef8. -/
import Derived.Test.YtfmpfjpcigdeoabGreatDoorValOnceM
import Derived.Test.YtfmpfjpcigdeoabGreatDoorValPut2
import Derived.Test.YtfmpfjpcigdeoabGreatDoorBlk
import Derived.Laws.StructEq
import Derived.Deep.RegionHeld3
import Derived.Test.YtfmpfjpcigdeoabGreatDoorPrChk
import Derived.Test.YtfmpfjpcigdeoabGreatDoorPrTake
import Derived.Test.YtfmpfjpcigdeoabGreatDoorRefP
import Derived.Test.YtfmpfjpcigdeoabGreatDoorPrTake2
import Derived.Test.YtfmpfjpcigdeoabGreatDoorTakeP
import Derived.BigQuiet
/- The reference's Check of a right value (the head of RefVal, for seats without its Plain). -/
namespace Go.Proofs.YtfmpfjpcigdeoabGreatDoor
open Go.RowKit

theorem near_ge {n : Int} (hn : near n) : ((FloatKind.f64.format.order (floatOfInt .f64 n) 13920626448202203136 == some Ordering.gt) || (FloatKind.f64.format.order (floatOfInt .f64 n) 13920626448202203136 == some Ordering.eq)) = true := by
  rw [← low_bits, show FloatKind.f64.format.order (floatOfInt .f64 n) (floatOfInt .f64 (-1048576)) = some (compare n (-1048576)) from Flt.order_whole n _ (near_abs hn) (by decide)]
  rcases Int.lt_or_eq_of_le hn.1 with h | h
  · rw [Int.compare_eq_gt.2 h]; rfl
  · rw [← h]; rfl
theorem near_le {n : Int} (hn : near n) : ((FloatKind.f64.format.order (floatOfInt .f64 n) 4697254411347427328 == some Ordering.lt) || (FloatKind.f64.format.order (floatOfInt .f64 n) 4697254411347427328 == some Ordering.eq)) = true := by
  rw [← high_bits, show FloatKind.f64.format.order (floatOfInt .f64 n) (floatOfInt .f64 1048576) = some (compare n 1048576) from Flt.order_whole n _ (near_abs hn) (by decide)]
  rcases Int.lt_or_eq_of_le hn.2 with h | h
  · rw [Int.compare_eq_lt.2 h]; rfl
  · rw [h]; rfl

theorem ref_whole (n : Int) (hn : near n) (w : World) : Calls Tryz.prog 110 #[.float .f64 (floatOfInt .f64 n)] w fun e w' => e = .returned (.tuple #[.int .i64 n, .bool true]) ∧ w' = w := by
  have h1 := near_ge hn
  have h2 := near_le hn
  have h3 : FloatKind.f64.format.order (floatOfInt .f64 n) (floatOfInt .f64 n) = some .eq := Flt.order_self n (near_abs hn)
  have cx : ∀ W, (convert 116 3 (.float .f64 (floatOfInt .f64 n))).run Tryz.prog W = .ok (.int .i64 n) W := fun W => run_convert_float_int W _ _ _ _ _ _ (by kernel_rfl) Tryz.underlying3 (Flt.toInt_whole n (near_abs hn))
  clear hn
  obtain ⟨X, hX⟩ : ∃ X, floatOfInt .f64 n = X := ⟨_, rfl⟩
  rw [hX] at h1 h2 h3 ⊢
  simp only [hX] at cx
  go_enter Tryz.func110, Tryz.ntmps110
  go_wp2
  go_ret2
  exact ⟨rfl, rfl⟩

theorem ref_Parts (c0 c1 c2 c3 : Value) (x y : Int) (hx : near x) (hy : near y) (w : World) :
    Calls Tryz.prog 89 #[.agg #[c0, c1, c2, c3, .complex .f64 (floatOfInt .f64 x) (floatOfInt .f64 y)]] w fun e w' => e = .returned (.tuple #[.int .i64 x, .int .i64 y, .bool true]) ∧ Below w.heap.size w w' := by
  have H1 : Hid (∀ w, Calls Tryz.prog 110 #[.float .f64 (floatOfInt .f64 x)] w fun e w' => e = .returned (.tuple #[.int .i64 x, .bool true]) ∧ w' = w) := ref_whole x hx
  have H2 : Hid (∀ w, Calls Tryz.prog 110 #[.float .f64 (floatOfInt .f64 y)] w fun e w' => e = .returned (.tuple #[.int .i64 y, .bool true]) ∧ w' = w) := ref_whole y hy
  generalize floatOfInt .f64 x = X at *
  generalize floatOfInt .f64 y = Y at *
  go_enter Tryz.func89, Tryz.ntmps89
  go_wp2_with fail
  refine (H1.out _).mono ?_
  rintro e w1 ⟨rfl, rfl⟩
  go_wp2_with fail
  refine (H2.out _).mono ?_
  rintro e w2 ⟨rfl, rfl⟩
  go_wp2
  go_ret3
  exact ⟨rfl, below_alloc w _⟩

set_option maxRecDepth 100000 in
theorem ref_Check_1 (n : Int) (s : ByteArray) (t : Bool) (x y : Nat) (w : World) : Calls Tryz.prog 69 #[.agg #[.int .i64 1, .int .i64 n, .string s, .bool t, .complex .f64 x y]] w fun e w' => e = .returned (.int .i64 0) ∧ Below w.heap.size w w' := by
  go_enter Tryz.func69, Tryz.ntmps69
  go_wp2
  go_ret
  exact ⟨rfl, below_alloc w _⟩
set_option maxRecDepth 100000 in
theorem ref_Check_2 (n : Int) (s : ByteArray) (t : Bool) (x y : Nat) (w : World) (h : s.size ≤ 200) : Calls Tryz.prog 69 #[.agg #[.int .i64 2, .int .i64 n, .string s, .bool t, .complex .f64 x y]] w fun e w' => e = .returned (.int .i64 0) ∧ Below w.heap.size w w' := by
  have h' : ¬ (200 : Int) < (s.size : Int) := by omega
  go_enter Tryz.func69, Tryz.ntmps69
  go_wp2
  go_ret
  exact ⟨rfl, below_alloc w _⟩
set_option maxRecDepth 100000 in
theorem ref_Check_3 (n : Int) (s : ByteArray) (t : Bool) (x y : Nat) (w : World) : Calls Tryz.prog 69 #[.agg #[.int .i64 3, .int .i64 n, .string s, .bool t, .complex .f64 x y]] w fun e w' => e = .returned (.int .i64 0) ∧ Below w.heap.size w w' := by
  go_enter Tryz.func69, Tryz.ntmps69
  go_wp2
  go_ret
  exact ⟨rfl, below_alloc w _⟩
set_option maxRecDepth 100000 in
theorem ref_Check_4 (n : Int) (s : ByteArray) (t : Bool) (x y : Int) (w : World) (hx : near x) (hy : near y) : Calls Tryz.prog 69 #[.agg #[.int .i64 4, .int .i64 n, .string s, .bool t, .complex .f64 (floatOfInt .f64 x) (floatOfInt .f64 y)]] w fun e w' => e = .returned (.int .i64 0) ∧ Below w.heap.size w w' := by
  have H1 : Hid (∀ w, Calls Tryz.prog 89 #[.agg #[.int .i64 4, .int .i64 n, .string s, .bool t, .complex .f64 (floatOfInt .f64 x) (floatOfInt .f64 y)]] w fun e w' => e = .returned (.tuple #[.int .i64 x, .int .i64 y, .bool true]) ∧ Below w.heap.size w w') := ref_Parts _ _ _ _ x y hx hy
  generalize floatOfInt .f64 x = X at *
  generalize floatOfInt .f64 y = Y at *
  clear hx hy
  go_enter Tryz.func69, Tryz.ntmps69
  go_wp2_with fail
  refine (H1.out _).mono ?_
  rintro e w1 ⟨rfl, hb1⟩
  have HB1 : Hid (Below w.heap.size w w1) := (below_alloc w _).trans (hb1.mono (by simp))
  clear hb1
  go_wp2
  go_ret
  exact ⟨rfl, HB1.out⟩
theorem ref_Check (v : Val) (hv : v.Right) (w : World) : Calls Tryz.prog 69 #[.agg v.cells] w fun e w' => e = .returned (.int .i64 0) ∧ Below w.heap.size w w' := by
  cases hv using Val.Right.elim with
  | whole n s t x y h => exact ref_Check_1 n s t x y w
  | words n s t x y h => exact ref_Check_2 n s t x y w h
  | truth n s t x y => exact ref_Check_3 n s t x y w
  | point n s t x y hx hy => exact ref_Check_4 n s t x y w hx hy
end Go.Proofs.YtfmpfjpcigdeoabGreatDoor
/- The reference's May, atom and Check of right terms. -/
namespace Go.Proofs.YtfmpfjpcigdeoabGreatDoor
set_option maxRecDepth 100000
open Go.RowKit

theorem ref_May (c : Nat) (hc : 1 ≤ c ∧ c ≤ 10) (k : Int) (w : World) : Calls Tryz.prog 42 #[.int .i64 (c : Int), .int .i64 k] w fun e w' => e = .returned (.bool (mayB c k)) ∧ w' = w := by
  obtain ⟨h1, h10⟩ := hc
  have : c = 1 ∨ c = 2 ∨ c = 3 ∨ c = 4 ∨ c = 5 ∨ c = 6 ∨ c = 7 ∨ c = 8 ∨ c = 9 ∨ c = 10 := by omega
  by_cases k1 : k = 1
  · subst k1
    rcases this with rfl | rfl | rfl | rfl | rfl | rfl | rfl | rfl | rfl | rfl
    all_goals
      go_enter Tryz.func42, Tryz.ntmps42
      go_wp2
      go_ret
      exact ⟨rfl, rfl⟩
  · by_cases k2 : k = 2
    · subst k2
      rcases this with rfl | rfl | rfl | rfl | rfl | rfl | rfl | rfl | rfl | rfl
      all_goals
        go_enter Tryz.func42, Tryz.ntmps42
        go_wp2
        go_ret
        exact ⟨rfl, rfl⟩
    · have e1 : (k == 1) = false := by rw [beq_eq_false_iff_ne]; exact k1
      have e2 : (k == 2) = false := by rw [beq_eq_false_iff_ne]; exact k2
      by_cases k4 : k = 4
      · subst k4
        rcases this with rfl | rfl | rfl | rfl | rfl | rfl | rfl | rfl | rfl | rfl
        all_goals
          go_enter Tryz.func42, Tryz.ntmps42
          go_wp2
          go_ret
          exact ⟨rfl, rfl⟩
      · have e4 : (k == 4) = false := by rw [beq_eq_false_iff_ne]; exact k4
        rcases this with rfl | rfl | rfl | rfl | rfl | rfl | rfl | rfl | rfl | rfl
        all_goals
          go_enter Tryz.func42, Tryz.ntmps42
          go_wp2
          go_ret
          exact ⟨by simp [mayB, k1, k2, k4], rfl⟩

set_option maxHeartbeats 1000000 in
theorem ref_atom (q : Tm) (h : AtomRight q) (w : World) : Calls Tryz.prog 43 #[.agg q.cells] w fun e w' => e = .returned (.int .i64 0) ∧ Below w.heap.size w w' := by
  have hcx : ∀ (a : Addr) (m : Mode) (W : World) (x y : Nat), (store a (.complex .f64 x y) m).run Tryz.prog W = stored Tryz.prog W a (.complex .f64 x y) m := fun a m W x y => run_store _ _ _ _ _ rfl
  obtain ⟨op, nm, c, v, r⟩ := q
  obtain ⟨hn, hc, hv⟩ := h
  have HN : Hid (nameOk nm) := hn
  have HSZ : Hid (nm.size ≤ maxLen) := by have := hn.2.1; show _ ≤ _; unfold maxLen; dsimp only at this; omega
  have HC : Hid (1 ≤ c ∧ c ≤ 10) := hc
  simp only at hv hc
  have k1 : decide ((c : Int) < 1) = false := by simp; omega
  have k2 : decide ((10 : Int) < (c : Int)) = false := by simp; omega
  by_cases h3 : 3 ≤ c
  · obtain ⟨hr, hm, hx⟩ := hv h3
    have HV : Hid (∀ w, Calls Tryz.prog 69 #[.agg v.cells] w fun e w' => e = .returned (.int .i64 0) ∧ Below w.heap.size w w') := ref_Check v hr
    have HM : Hid (∀ w, Calls Tryz.prog 42 #[.int .i64 (c : Int), .int .i64 v.kind] w fun e w' => e = .returned (.bool true) ∧ w' = w) := fun w => by have := ref_May c hc v.kind w; rw [hm] at this; exact this
    obtain ⟨vk, vw, vs, vt, vx, vy⟩ := v
    simp only [Tm.cells, Val.cells] at *
    have e1 : ((c : Int) == 1) = false := by rw [beq_eq_false_iff_ne]; omega
    have e2 : ((c : Int) == 2) = false := by rw [beq_eq_false_iff_ne]; omega
    have kr1 : decide ((r : Int) < 0) = false := by simp
    have kr2 : ((c : Int) == 10) = true → decide ((1048576 : Int) < (r : Int)) = false := fun h => by have := hx (by simp at h; omega); simp; omega
    clear hn hc hv hr hm hx h3
    go_enter Tryz.func43, Tryz.ntmps43
    go_wp2_with fail
    refine (ref_Name nm HSZ.out _).mono ?_
    rintro e w1 ⟨⟨b1, rfl, hb1⟩, rfl⟩
    obtain rfl := hb1.2 HN.out
    clear hb1
    go_wp2_with fail
    refine (HV.out _).mono ?_
    rintro e w2 ⟨rfl, hb2⟩
    have HK : Hid (Blk w2 w.heap.size #[.int .i64 (op : Int), .string nm, .int .i64 (c : Int), .int .i64 vk, .int .i64 vw, .string vs, .bool vt, .complex .f64 vx vy, .int .i64 (r : Int)] 58) := (Blk.new w _ _).stay hb2
    have HB2 : Hid (Below w.heap.size w w2) := (below_alloc w _).trans (hb2.mono (by simp))
    have c2 : w2.cell? ⟨w.heap.size, 2, none⟩ = some (.int .i64 (c : Int)) := HK.out.cell 2 rfl
    have c3 : w2.cell? ⟨w.heap.size, 3, none⟩ = some (.int .i64 vk) := HK.out.cell 3 rfl
    have c8 : w2.cell? ⟨w.heap.size, 8, none⟩ = some (.int .i64 (r : Int)) := HK.out.cell 8 rfl
    clear hb2
    go_wp2_with fail
    refine (HM.out _).mono ?_
    rintro e w3 ⟨rfl, rfl⟩
    by_cases h10 : c = 10
    · have k10 : ((c : Int) == 10) = true := by rw [h10]; rfl
      have kr3 := kr2 k10
      clear kr2 h10
      go_wp2
      go_ret
      exact ⟨rfl, HB2.out⟩
    · have k10 : ((c : Int) == 10) = false := by rw [beq_eq_false_iff_ne]; omega
      clear kr2 h10
      go_wp2
      go_ret
      exact ⟨rfl, HB2.out⟩
  · obtain ⟨vk, vw, vs, vt, vx, vy⟩ := v
    simp only [Tm.cells] at *
    clear hn hv
    rcases (show c = 1 ∨ c = 2 by omega) with rfl | rfl
    all_goals
      clear hc h3
      go_enter Tryz.func43, Tryz.ntmps43
      go_wp2_with fail
      refine (ref_Name nm HSZ.out _).mono ?_
      rintro e w1 ⟨⟨b1, rfl, hb1⟩, rfl⟩
      obtain rfl := hb1.2 HN.out
      clear hb1
      go_wp2
      go_ret
      exact ⟨rfl, below_alloc w _⟩
end Go.Proofs.YtfmpfjpcigdeoabGreatDoor
/- The reference's Check of right terms. -/
namespace Go.Proofs.YtfmpfjpcigdeoabGreatDoor
set_option maxRecDepth 100000
open Go.RowKit

set_option maxHeartbeats 2000000 in
theorem ref_Check5 (a : Option Addr) (n cap : Nat) (l : List Tm) (w : World) (hr : TmsRd w a l) (hn : l.length = n) (hn2 : n ≤ 1000000) (hl : ∀ q ∈ l, TmRight q) :
    Calls Tryz.prog 24 #[.slice a n cap] w fun e w' => e = .returned (.int .i64 (checkT l : Int)) ∧ Below w.heap.size w w' := by
  have hcx : ∀ (a : Addr) (m : Mode) (W : World) (x y : Nat), (store a (.complex .f64 x y) m).run Tryz.prog W = stored Tryz.prog W a (.complex .f64 x y) m := fun a m W x y => run_store _ _ _ _ _ rfl
  have HR : Hid (TmsRd w a l) := hr
  have HN : Hid (l.length = n) := hn
  have HL : Hid (∀ q ∈ l, TmRight q) := hl
  clear hr hl
  by_cases h48 : 48 < n
  · have k : (48 : Int) < (n : Int) := by omega
    have HE : Hid (checkT l = 6) := by show _ = _; unfold checkT; rw [hn, if_pos h48]
    clear hn
    go_enter Tryz.func24, Tryz.ntmps24
    go_wp2
    go_ret
    exact ⟨by rw [HE.out]; rfl, Below.refl _ _⟩
  · have k : ¬ (48 : Int) < (n : Int) := by omega
    have HE : Hid (checkGo 0 (l.drop 0) = checkT l) := by show _ = _; unfold checkT; rw [hn, if_neg h48]; rfl
    clear hn
    go_enter Tryz.func24, Tryz.ntmps24
    go_wp2
    go_loopw [3, 4] (fun t3 t4 wr => ∃ (st i : Nat), t3 = .int .i64 (st : Int) ∧ t4 = .int .i64 (i : Int) ∧ i ≤ n ∧ st ≤ 16 ∧ Hid (checkGo st (l.drop i) = checkT l) ∧ Hid (Below w.heap.size w wr)) (fun _ t4 _ => n - (intOf t4).toNat)
    case atStart => exact ⟨0, 0, rfl, rfl, by omega, by omega, HE, Below.refl _ _⟩
    case round =>
      obtain ⟨st, i, rfl, rfl, hi, hst, HG, HB⟩ := hrel
      by_cases hlt : i < n
      · have hlt' : (i : Int) < (n : Int) := by omega
        have hil : i < l.length := by rw [HN.out]; exact hlt
        obtain ⟨g, rfl, hg, hc⟩ := (HR.out.below HB.out).at_ i hil
        have HD : l.drop i = l[i] :: l.drop (i + 1) := List.drop_eq_getElem_cons hil
        have HT : Hid (TmRight l[i]) := HL.out _ (List.getElem_mem hil)
        rw [HD] at HG
        clear HD
        generalize l[i] = q at *
        have HBAD : Hid (termBad st q.op ≠ 0 → checkT l = termBad st q.op) := fun h => by rw [← HG.out]; exact checkGo_bad h
        have HNX : Hid (∀ st' : Nat, termBad st q.op = 0 → (st : Int) + growthOf q.op = (st' : Int) → checkT l = if 16 < st' then 6 else checkGo st' (l.drop (i + 1))) := fun st' h1 h2 => by rw [← HG.out]; exact checkGo_next h1 h2 hst
        clear HG
        obtain ⟨op, nm, c, ⟨vk, vw, vs, vt, vx, vy⟩, r⟩ := q
        have ho : 1 ≤ op ∧ op ≤ 6 := HT.out.1
        simp only at HBAD HNX
        rcases (show op = 1 ∨ op = 2 ∨ op = 3 ∨ op = 4 ∨ op = 5 ∨ op = 6 by omega) with rfl | rfl | rfl | rfl | rfl | rfl
        · have c0 : wr.cell? ⟨g, i * 9, none⟩ = some (.int .i64 1) := hc 0 _ rfl
          have HNX2 : Hid (checkT l = if 16 < st + 1 then 6 else checkGo (st + 1) (l.drop (i + 1))) := HNX.out (st + 1) (by unfold termBad; simp) (by unfold growthOf; simp)
          clear hc HT HBAD HNX ho
          by_cases h16 : 16 < st + 1
          · have k16 : (16 : Int) < (st : Int) + 1 := by omega
            have HE2 : Hid (checkT l = 6) := by have h := HNX2.out; rw [if_pos h16] at h; exact h
            go_wp2
            go_ret
            exact ⟨by rw [HE2.out]; rfl, HB.out⟩
          · have k16 : ¬ (16 : Int) < (st : Int) + 1 := by omega
            have HE2 : Hid (checkGo (st + 1) (l.drop (i + 1)) = checkT l) := by have h := HNX2.out; rw [if_neg h16] at h; exact h.symm
            go_wp2
            go_roundw
            case rel => exact ⟨st + 1, i + 1, by go_num, by go_num, by omega, by omega, HE2, HB⟩
            case measure => simp [intOf]; omega
        · have c0 : wr.cell? ⟨g, i * 9, none⟩ = some (.int .i64 2) := hc 0 _ rfl
          have HNX2 : Hid (checkT l = if 16 < st + 1 then 6 else checkGo (st + 1) (l.drop (i + 1))) := HNX.out (st + 1) (by unfold termBad; simp) (by unfold growthOf; simp)
          clear hc HT HBAD HNX ho
          by_cases h16 : 16 < st + 1
          · have k16 : (16 : Int) < (st : Int) + 1 := by omega
            have HE2 : Hid (checkT l = 6) := by have h := HNX2.out; rw [if_pos h16] at h; exact h
            go_wp2
            go_ret
            exact ⟨by rw [HE2.out]; rfl, HB.out⟩
          · have k16 : ¬ (16 : Int) < (st : Int) + 1 := by omega
            have HE2 : Hid (checkGo (st + 1) (l.drop (i + 1)) = checkT l) := by have h := HNX2.out; rw [if_neg h16] at h; exact h.symm
            go_wp2
            go_roundw
            case rel => exact ⟨st + 1, i + 1, by go_num, by go_num, by omega, by omega, HE2, HB⟩
            case measure => simp [intOf]; omega
        · have c0 : wr.cell? ⟨g, i * 9, none⟩ = some (.int .i64 3) := hc 0 _ rfl
          have HNX2 : Hid (checkT l = if 16 < st + 1 then 6 else checkGo (st + 1) (l.drop (i + 1))) := HNX.out (st + 1) (by unfold termBad; simp) (by unfold growthOf; simp)
          have c1 : wr.cell? ⟨g, i * 9 + 1, none⟩ = some (.string nm) := hc 1 _ rfl
          have c2 : wr.cell? ⟨g, i * 9 + 2, none⟩ = some (.int .i64 (c : Int)) := hc 2 _ rfl
          have c3 : wr.cell? ⟨g, i * 9 + 3, none⟩ = some (.int .i64 vk) := hc 3 _ rfl
          have c4 : wr.cell? ⟨g, i * 9 + 4, none⟩ = some (.int .i64 vw) := hc 4 _ rfl
          have c5 : wr.cell? ⟨g, i * 9 + 5, none⟩ = some (.string vs) := hc 5 _ rfl
          have c6 : wr.cell? ⟨g, i * 9 + 6, none⟩ = some (.bool vt) := hc 6 _ rfl
          have c7 : wr.cell? ⟨g, i * 9 + 7, none⟩ = some (.complex .f64 vx vy) := hc 7 _ rfl
          have c8 : wr.cell? ⟨g, i * 9 + 8, none⟩ = some (.int .i64 (r : Int)) := hc 8 _ rfl
          have HAT : Hid (∀ w, Calls Tryz.prog 43 #[.agg #[.int .i64 3, .string nm, .int .i64 (c : Int), .int .i64 vk, .int .i64 vw, .string vs, .bool vt, .complex .f64 vx vy, .int .i64 (r : Int)]] w fun e w' => e = .returned (.int .i64 0) ∧ Below w.heap.size w w') := ref_atom ⟨3, nm, c, ⟨vk, vw, vs, vt, vx, vy⟩, r⟩ (HT.out.2 rfl)
          clear hc HT HBAD HNX ho
          go_wp2_with fail
          refine (HAT.out _).mono ?_
          rintro e w1 ⟨rfl, hb1⟩
          have HB1 : Hid (Below w.heap.size w w1) := HB.out.trans (hb1.mono HB.out.size)
          clear hb1 c0 c1 c2 c3 c4 c5 c6 c7 c8
          by_cases h16 : 16 < st + 1
          · have k16 : (16 : Int) < (st : Int) + 1 := by omega
            have HE2 : Hid (checkT l = 6) := by have h := HNX2.out; rw [if_pos h16] at h; exact h
            go_wp2
            go_ret
            exact ⟨by rw [HE2.out]; rfl, HB1.out⟩
          · have k16 : ¬ (16 : Int) < (st : Int) + 1 := by omega
            have HE2 : Hid (checkGo (st + 1) (l.drop (i + 1)) = checkT l) := by have h := HNX2.out; rw [if_neg h16] at h; exact h.symm
            go_wp2
            go_roundw
            case rel => exact ⟨st + 1, i + 1, by go_num, by go_num, by omega, by omega, HE2, HB1⟩
            case measure => simp [intOf]; omega
        · have c0 : wr.cell? ⟨g, i * 9, none⟩ = some (.int .i64 4) := hc 0 _ rfl
          by_cases h1 : st < 1
          · have k1 : (st : Int) < 1 := by omega
            have HE2 : Hid (checkT l = 4) := by
              have e : termBad st 4 = 4 := by unfold termBad; rw [if_pos rfl, if_pos h1]
              have h := HBAD.out (by rw [e]; omega)
              rw [e] at h
              exact h
            clear hc HT HBAD HNX ho
            go_wp2
            go_ret
            exact ⟨by rw [HE2.out]; rfl, HB.out⟩
          · have k1 : ¬ (st : Int) < 1 := by omega
            have k16 : ¬ (16 : Int) < (st : Int) := by omega
            have HE2 : Hid (checkGo st (l.drop (i + 1)) = checkT l) := by
              have h := HNX.out st (by unfold termBad; rw [if_pos rfl, if_neg h1]) (by unfold growthOf; simp)
              rw [if_neg (by omega)] at h
              exact h.symm
            clear hc HT HBAD HNX ho
            go_wp2
            go_roundw
            case rel => exact ⟨st, i + 1, rfl, by go_num, by omega, by omega, HE2, HB⟩
            case measure => simp [intOf]; omega
        · have c0 : wr.cell? ⟨g, i * 9, none⟩ = some (.int .i64 5) := hc 0 _ rfl
          by_cases h1 : st < 2
          · have k1 : (st : Int) < 2 := by omega
            have HE2 : Hid (checkT l = 4) := by
              have e : termBad st 5 = 4 := by unfold termBad; rw [if_neg (by omega), if_pos (by omega), if_pos h1]
              have h := HBAD.out (by rw [e]; omega)
              rw [e] at h
              exact h
            clear hc HT HBAD HNX ho
            go_wp2
            go_ret
            exact ⟨by rw [HE2.out]; rfl, HB.out⟩
          · have k1 : ¬ (st : Int) < 2 := by omega
            have k16 : ¬ (16 : Int) < (st : Int) - 1 := by omega
            have HE2 : Hid (checkGo (st - 1) (l.drop (i + 1)) = checkT l) := by
              have h := HNX.out (st - 1) (by unfold termBad; rw [if_neg (by omega), if_pos (by omega), if_neg h1]) (by unfold growthOf; rw [if_neg (by omega), if_pos (by omega)]; omega)
              rw [if_neg (by omega)] at h
              exact h.symm
            clear hc HT HBAD HNX ho
            go_wp2
            go_roundw
            case rel => exact ⟨st - 1, i + 1, by first | go_num | exact congrArg (Value.int .i64) (by omega), by go_num, by omega, by omega, HE2, HB⟩
            case measure => simp [intOf]; omega
        · have c0 : wr.cell? ⟨g, i * 9, none⟩ = some (.int .i64 6) := hc 0 _ rfl
          by_cases h1 : st < 2
          · have k1 : (st : Int) < 2 := by omega
            have HE2 : Hid (checkT l = 4) := by
              have e : termBad st 6 = 4 := by unfold termBad; rw [if_neg (by omega), if_pos (by omega), if_pos h1]
              have h := HBAD.out (by rw [e]; omega)
              rw [e] at h
              exact h
            clear hc HT HBAD HNX ho
            go_wp2
            go_ret
            exact ⟨by rw [HE2.out]; rfl, HB.out⟩
          · have k1 : ¬ (st : Int) < 2 := by omega
            have k16 : ¬ (16 : Int) < (st : Int) - 1 := by omega
            have HE2 : Hid (checkGo (st - 1) (l.drop (i + 1)) = checkT l) := by
              have h := HNX.out (st - 1) (by unfold termBad; rw [if_neg (by omega), if_pos (by omega), if_neg h1]) (by unfold growthOf; rw [if_neg (by omega), if_pos (by omega)]; omega)
              rw [if_neg (by omega)] at h
              exact h.symm
            clear hc HT HBAD HNX ho
            go_wp2
            go_roundw
            case rel => exact ⟨st - 1, i + 1, by first | go_num | exact congrArg (Value.int .i64) (by omega), by go_num, by omega, by omega, HE2, HB⟩
            case measure => simp [intOf]; omega
      · have hnl : ¬ (i : Int) < (n : Int) := by omega
        have HG2 : Hid ((if st = 1 then 0 else 4) = checkT l) := by have h := HG.out; rw [List.drop_of_length_le (by rw [HN.out]; omega), checkGo] at h; exact h
        by_cases h1 : st = 1
        · have k1 : ((st : Int) != 1) = false := by rw [h1]; rfl
          have HE2 : Hid (checkT l = 0) := by have h := HG2.out; rw [if_pos h1] at h; exact h.symm
          clear h1
          go_wp2
          go_ret
          exact ⟨by rw [HE2.out]; rfl, HB.out⟩
        · have k1 : ((st : Int) != 1) = true := by rw [bne_iff_ne]; omega
          have HE2 : Hid (checkT l = 4) := by have h := HG2.out; rw [if_neg h1] at h; exact h.symm
          clear h1
          go_wp2
          go_ret
          exact ⟨by rw [HE2.out]; rfl, HB.out⟩
end Go.Proofs.YtfmpfjpcigdeoabGreatDoor
/- A term's nine cells (as in PrTake2, for the reference's texts). -/
namespace Go.Proofs.YtfmpfjpcigdeoabGreatDoor
set_option maxRecDepth 100000
open Go.RowKit

theorem results_termR {f : Func} {w : World} {tmps : Array Value} {g : Nat} {t : TypeId} {v0 v1 v2 v3 v4 v5 v6 v7 v8 n e : Value} (hf : f.results = #[.cell 4 58, .tmp 5, .tmp 6]) (h4 : tmps[4]?.getD undef = .pointer (some ⟨g, 0, none⟩)) (h5 : tmps[5]?.getD undef = n) (h6 : tmps[6]?.getD undef = e)
    (k : Blk w g #[v0, v1, v2, v3, v4, v5, v6, v7, v8] t) : (results f tmps).run Tryz.prog w = .ok (.tuple #[.agg #[v0, v1, v2, v3, v4, v5, v6, v7, v8], n, e]) w := by
  have k0 := k.cell 0 rfl
  have k1 := k.cell 1 rfl
  have k2 := k.cell 2 rfl
  have k3 := k.cell 3 rfl
  have k4 := k.cell 4 rfl
  have k5 := k.cell 5 rfl
  have k6 := k.cell 6 rfl
  have k7 := k.cell 7 rfl
  have k8 := k.cell 8 rfl
  simp [results, hf, go_sem, h4, h5, h6, k0, k1, k2, k3, k4, k5, k6, k7, k8]
theorem Blk.set9R {w : World} {g : Nat} {t : TypeId} {u0 u1 u2 u3 u4 u5 u6 u7 u8 : Value} (h : Blk w g #[u0, u1, u2, u3, u4, u5, u6, u7, u8] t) (v0 v1 v2 v3 v4 v5 v6 v7 v8 : Value) : Blk (((((((((w.setCell ⟨g, 0, none⟩ v0).setCell ⟨g, 1, none⟩ v1).setCell ⟨g, 2, none⟩ v2).setCell ⟨g, 3, none⟩ v3).setCell ⟨g, 4, none⟩ v4).setCell ⟨g, 5, none⟩ v5).setCell ⟨g, 6, none⟩ v6).setCell ⟨g, 7, none⟩ v7).setCell ⟨g, 8, none⟩ v8) g #[v0, v1, v2, v3, v4, v5, v6, v7, v8] t := by
  have h0 : Blk (w.setCell ⟨g, 0, none⟩ v0) g #[v0, u1, u2, u3, u4, u5, u6, u7, u8] t := h.set 0 v0
  generalize w.setCell ⟨g, 0, none⟩ v0 = w0 at *
  have h1 : Blk (w0.setCell ⟨g, 1, none⟩ v1) g #[v0, v1, u2, u3, u4, u5, u6, u7, u8] t := h0.set 1 v1
  generalize w0.setCell ⟨g, 1, none⟩ v1 = w1 at *
  have h2 : Blk (w1.setCell ⟨g, 2, none⟩ v2) g #[v0, v1, v2, u3, u4, u5, u6, u7, u8] t := h1.set 2 v2
  generalize w1.setCell ⟨g, 2, none⟩ v2 = w2 at *
  have h3 : Blk (w2.setCell ⟨g, 3, none⟩ v3) g #[v0, v1, v2, v3, u4, u5, u6, u7, u8] t := h2.set 3 v3
  generalize w2.setCell ⟨g, 3, none⟩ v3 = w3 at *
  have h4 : Blk (w3.setCell ⟨g, 4, none⟩ v4) g #[v0, v1, v2, v3, v4, u5, u6, u7, u8] t := h3.set 4 v4
  generalize w3.setCell ⟨g, 4, none⟩ v4 = w4 at *
  have h5 : Blk (w4.setCell ⟨g, 5, none⟩ v5) g #[v0, v1, v2, v3, v4, v5, u6, u7, u8] t := h4.set 5 v5
  generalize w4.setCell ⟨g, 5, none⟩ v5 = w5 at *
  have h6 : Blk (w5.setCell ⟨g, 6, none⟩ v6) g #[v0, v1, v2, v3, v4, v5, v6, u7, u8] t := h5.set 6 v6
  generalize w5.setCell ⟨g, 6, none⟩ v6 = w6 at *
  have h7 : Blk (w6.setCell ⟨g, 7, none⟩ v7) g #[v0, v1, v2, v3, v4, v5, v6, v7, u8] t := h6.set 7 v7
  generalize w6.setCell ⟨g, 7, none⟩ v7 = w7 at *
  exact h7.set 8 v8
theorem Blk.setV3R {w : World} {g : Nat} {t : TypeId} {a0 a1 a2 u0 u1 u2 u3 u4 a8 : Value} (h : Blk w g #[a0, a1, a2, u0, u1, u2, u3, u4, a8] t) (v0 v1 v2 v3 v4 : Value) : Blk (((((w.setCell ⟨g, 3, none⟩ v0).setCell ⟨g, 4, none⟩ v1).setCell ⟨g, 5, none⟩ v2).setCell ⟨g, 6, none⟩ v3).setCell ⟨g, 7, none⟩ v4) g #[a0, a1, a2, v0, v1, v2, v3, v4, a8] t :=
  ((((h.set 3 v0).set 4 v1).set 5 v2).set 6 v3).set 7 v4
theorem Blk.other5R {w : World} {g b : Nat} {cs : Array Value} {t : TypeId} (h : Blk w b cs t) (hb : b ≠ g) (v0 v1 v2 v3 v4 : Value) : Blk (((((w.setCell ⟨g, 3, none⟩ v0).setCell ⟨g, 4, none⟩ v1).setCell ⟨g, 5, none⟩ v2).setCell ⟨g, 6, none⟩ v3).setCell ⟨g, 7, none⟩ v4) b cs t :=
  ((((h.other _ _ hb).other _ _ hb).other _ _ hb).other _ _ hb).other _ _ hb
end Go.Proofs.YtfmpfjpcigdeoabGreatDoor
/- The reference's some: an atom's name and comparison. -/
namespace Go.Proofs.YtfmpfjpcigdeoabGreatDoor
set_option maxRecDepth 100000
open Go.RowKit

set_option maxHeartbeats 4000000 in
theorem some_text (a : Option Addr) (len cap : Nat) (bs : List Nat) (p : Nat) (w : World) (hr : Rd w a len bs) (S : ByteArray) (k f : Nat) (hct : ∀ W, Rd W a len bs → Calls Tryz.prog 39 #[.slice a len cap, .int .i64 (p : Int)] W fun e w' => e = .returned (.tuple #[.string S, .int .i64 (k : Int), .int .i64 (f : Int)]) ∧ Below W.heap.size W w') (hf : f ≠ 0) :
    Calls Tryz.prog 23 #[.slice a len cap, .int .i64 (p : Int)] w fun e w' => e = toldTm (⟨3, ⟨#[]⟩, 0, Val.zero, 0⟩, 0, f) ∧ Below w.heap.size w w' := by
  have hf' : (f : Int) ≠ 0 := by omega
  clear hf
  have hcx : ∀ (a : Addr) (m : Mode) (W : World) (x y : Nat), (store a (.complex .f64 x y) m).run Tryz.prog W = stored Tryz.prog W a (.complex .f64 x y) m := fun a m W x y => run_store _ _ _ _ _ rfl
  have HR : Hid (Rd w a len bs) := hr
  have HCT : Hid (∀ W, Rd W a len bs → Calls Tryz.prog 39 #[.slice a len cap, .int .i64 (p : Int)] W fun e w' => e = .returned (.tuple #[.string S, .int .i64 (k : Int), .int .i64 (f : Int)]) ∧ Below W.heap.size W w') := hct
  clear hr hct
  go_enter Tryz.func23, Tryz.ntmps23
  go_wp2_with fail
  refine (HCT.out _ (HR.out.below ((below_alloc w _).alloc (by simp) _))).mono ?_
  rintro e w1 ⟨rfl, hb1⟩
  have HB1 : Hid (Below w.heap.size w w1) := ((below_alloc w _).alloc (by simp) _).trans (hb1.mono (by simp; omega))
  have HKA1 : Hid (Blk w1 w.heap.size #[.int .i64 0, .string ⟨#[]⟩, .int .i64 0, .int .i64 0, .int .i64 0, .string ⟨#[]⟩, .bool false, .complex .f64 0 0, .int .i64 0] 58) := ((Blk.new w _ _).stay (below_alloc _ _)).stay hb1
  have HKL1 : Hid (Blk w1 (w.heap.size + 1) #[.int .i64 3, .string ⟨#[]⟩, .int .i64 0, .int .i64 0, .int .i64 0, .string ⟨#[]⟩, .bool false, .complex .f64 0 0, .int .i64 0] 58) := by
    have h := Blk.new (w.alloc (.cells #[.int .i64 0, .string ⟨#[]⟩, .int .i64 0, .int .i64 0, .int .i64 0, .string ⟨#[]⟩, .bool false, .complex .f64 0 0, .int .i64 0] 58)) #[.int .i64 3, .string ⟨#[]⟩, .int .i64 0, .int .i64 0, .int .i64 0, .string ⟨#[]⟩, .bool false, .complex .f64 0 0, .int .i64 0] 58
    have e1 : (w.alloc (.cells #[.int .i64 0, .string ⟨#[]⟩, .int .i64 0, .int .i64 0, .int .i64 0, .string ⟨#[]⟩, .bool false, .complex .f64 0 0, .int .i64 0] 58)).heap.size = w.heap.size + 1 := by simp
    rw [e1] at h
    exact h.stay hb1
  clear hb1
  have r0 : (w1).cell? ⟨w.heap.size, 0, none⟩ = some (.int .i64 0) := HKA1.out.cell 0 rfl
  have rf0 := HKA1.out.free 0
  have r1 : (w1).cell? ⟨w.heap.size, 1, none⟩ = some (.string ⟨#[]⟩) := HKA1.out.cell 1 rfl
  have rf1 := HKA1.out.free 1
  have r2 : (w1).cell? ⟨w.heap.size, 2, none⟩ = some (.int .i64 0) := HKA1.out.cell 2 rfl
  have rf2 := HKA1.out.free 2
  have r3 : (w1).cell? ⟨w.heap.size, 3, none⟩ = some (.int .i64 0) := HKA1.out.cell 3 rfl
  have rf3 := HKA1.out.free 3
  have r4 : (w1).cell? ⟨w.heap.size, 4, none⟩ = some (.int .i64 0) := HKA1.out.cell 4 rfl
  have rf4 := HKA1.out.free 4
  have r5 : (w1).cell? ⟨w.heap.size, 5, none⟩ = some (.string ⟨#[]⟩) := HKA1.out.cell 5 rfl
  have rf5 := HKA1.out.free 5
  have r6 : (w1).cell? ⟨w.heap.size, 6, none⟩ = some (.bool false) := HKA1.out.cell 6 rfl
  have rf6 := HKA1.out.free 6
  have r7 : (w1).cell? ⟨w.heap.size, 7, none⟩ = some (.complex .f64 0 0) := HKA1.out.cell 7 rfl
  have rf7 := HKA1.out.free 7
  have r8 : (w1).cell? ⟨w.heap.size, 8, none⟩ = some (.int .i64 0) := HKA1.out.cell 8 rfl
  have rf8 := HKA1.out.free 8
  have l0 : (w1).cell? ⟨w.heap.size + 1, 0, none⟩ = some (.int .i64 3) := HKL1.out.cell 0 rfl
  have lf0 := HKL1.out.free 0
  have l1 : (w1).cell? ⟨w.heap.size + 1, 1, none⟩ = some (.string ⟨#[]⟩) := HKL1.out.cell 1 rfl
  have lf1 := HKL1.out.free 1
  have l2 : (w1).cell? ⟨w.heap.size + 1, 2, none⟩ = some (.int .i64 0) := HKL1.out.cell 2 rfl
  have lf2 := HKL1.out.free 2
  have l3 : (w1).cell? ⟨w.heap.size + 1, 3, none⟩ = some (.int .i64 0) := HKL1.out.cell 3 rfl
  have lf3 := HKL1.out.free 3
  have l4 : (w1).cell? ⟨w.heap.size + 1, 4, none⟩ = some (.int .i64 0) := HKL1.out.cell 4 rfl
  have lf4 := HKL1.out.free 4
  have l5 : (w1).cell? ⟨w.heap.size + 1, 5, none⟩ = some (.string ⟨#[]⟩) := HKL1.out.cell 5 rfl
  have lf5 := HKL1.out.free 5
  have l6 : (w1).cell? ⟨w.heap.size + 1, 6, none⟩ = some (.bool false) := HKL1.out.cell 6 rfl
  have lf6 := HKL1.out.free 6
  have l7 : (w1).cell? ⟨w.heap.size + 1, 7, none⟩ = some (.complex .f64 0 0) := HKL1.out.cell 7 rfl
  have lf7 := HKL1.out.free 7
  have l8 : (w1).cell? ⟨w.heap.size + 1, 8, none⟩ = some (.int .i64 0) := HKL1.out.cell 8 rfl
  have lf8 := HKL1.out.free 8
  go_wp2
  try simp only [Exit.inBlock, Exit.then]
  refine bodyPost_ret (results_termR rfl (by rfl) (by rfl) (by rfl) (Blk.set9R HKA1.out _ _ _ _ _ _ _ _ _)) rfl ?_
  exact ⟨rfl, (((((((((HB1.out.setCell (Nat.le_refl _) _).setCell (Nat.le_refl _) _).setCell (Nat.le_refl _) _).setCell (Nat.le_refl _) _).setCell (Nat.le_refl _) _).setCell (Nat.le_refl _) _).setCell (Nat.le_refl _) _).setCell (Nat.le_refl _) _).setCell (Nat.le_refl _) _)⟩

set_option maxHeartbeats 4000000 in
theorem some_name (a : Option Addr) (len cap : Nat) (bs : List Nat) (p : Nat) (w : World) (hr : Rd w a len bs) (S : ByteArray) (k f : Nat) (hct : ∀ W, Rd W a len bs → Calls Tryz.prog 39 #[.slice a len cap, .int .i64 (p : Int)] W fun e w' => e = .returned (.tuple #[.string S, .int .i64 (k : Int), .int .i64 (f : Int)]) ∧ Below W.heap.size W w') (hf0 : f = 0) (hsz : S.size ≤ maxLen) (hn : ¬ nameOk S) :
    Calls Tryz.prog 23 #[.slice a len cap, .int .i64 (p : Int)] w fun e w' => e = toldTm (⟨3, S, 0, Val.zero, 0⟩, 0, 11) ∧ Below w.heap.size w w' := by
  have HSZ : Hid (S.size ≤ maxLen) := hsz
  have HN : Hid (¬ nameOk S) := hn
  clear hsz hn
  have hcx : ∀ (a : Addr) (m : Mode) (W : World) (x y : Nat), (store a (.complex .f64 x y) m).run Tryz.prog W = stored Tryz.prog W a (.complex .f64 x y) m := fun a m W x y => run_store _ _ _ _ _ rfl
  have HR : Hid (Rd w a len bs) := hr
  have HCT : Hid (∀ W, Rd W a len bs → Calls Tryz.prog 39 #[.slice a len cap, .int .i64 (p : Int)] W fun e w' => e = .returned (.tuple #[.string S, .int .i64 (k : Int), .int .i64 (f : Int)]) ∧ Below W.heap.size W w') := hct
  clear hr hct
  subst hf0
  go_enter Tryz.func23, Tryz.ntmps23
  go_wp2_with fail
  refine (HCT.out _ (HR.out.below ((below_alloc w _).alloc (by simp) _))).mono ?_
  rintro e w1 ⟨rfl, hb1⟩
  have HB1 : Hid (Below w.heap.size w w1) := ((below_alloc w _).alloc (by simp) _).trans (hb1.mono (by simp; omega))
  have HKA1 : Hid (Blk w1 w.heap.size #[.int .i64 0, .string ⟨#[]⟩, .int .i64 0, .int .i64 0, .int .i64 0, .string ⟨#[]⟩, .bool false, .complex .f64 0 0, .int .i64 0] 58) := ((Blk.new w _ _).stay (below_alloc _ _)).stay hb1
  have HKL1 : Hid (Blk w1 (w.heap.size + 1) #[.int .i64 3, .string ⟨#[]⟩, .int .i64 0, .int .i64 0, .int .i64 0, .string ⟨#[]⟩, .bool false, .complex .f64 0 0, .int .i64 0] 58) := by
    have h := Blk.new (w.alloc (.cells #[.int .i64 0, .string ⟨#[]⟩, .int .i64 0, .int .i64 0, .int .i64 0, .string ⟨#[]⟩, .bool false, .complex .f64 0 0, .int .i64 0] 58)) #[.int .i64 3, .string ⟨#[]⟩, .int .i64 0, .int .i64 0, .int .i64 0, .string ⟨#[]⟩, .bool false, .complex .f64 0 0, .int .i64 0] 58
    have e1 : (w.alloc (.cells #[.int .i64 0, .string ⟨#[]⟩, .int .i64 0, .int .i64 0, .int .i64 0, .string ⟨#[]⟩, .bool false, .complex .f64 0 0, .int .i64 0] 58)).heap.size = w.heap.size + 1 := by simp
    rw [e1] at h
    exact h.stay hb1
  clear hb1
  have l1 : (w1).cell? ⟨w.heap.size + 1, 1, none⟩ = some (.string ⟨#[]⟩) := HKL1.out.cell 1 rfl
  have lf1 := HKL1.out.free 1
  obtain ⟨W1, HW1⟩ : ∃ W1, Hid (W1 = w1.setCell ⟨w.heap.size + 1, 1, none⟩ (.string S)) := ⟨_, rfl⟩
  have HB2 : Hid (Below w.heap.size w W1) := by show Below _ _ _; rw [HW1.out]; exact HB1.out.setCell (by simp) _
  have HKA2 : Hid (Blk W1 w.heap.size #[.int .i64 0, .string ⟨#[]⟩, .int .i64 0, .int .i64 0, .int .i64 0, .string ⟨#[]⟩, .bool false, .complex .f64 0 0, .int .i64 0] 58) := by show Blk _ _ _ _; rw [HW1.out]; exact HKA1.out.other _ _ (by simp)
  have HKL2 : Hid (Blk W1 (w.heap.size + 1) #[.int .i64 3, .string S, .int .i64 0, .int .i64 0, .int .i64 0, .string ⟨#[]⟩, .bool false, .complex .f64 0 0, .int .i64 0] 58) := by show Blk _ _ _ _; rw [HW1.out]; exact HKL1.out.set 1 _
  go_wp2_with fail
  rw [← HW1.out]
  refine (ref_Name S HSZ.out _).mono ?_
  rintro e w2 ⟨⟨b1, rfl, hb1⟩, rfl⟩
  clear HW1 l1 lf1 HKA1 HKL1 HB1
  obtain rfl : b1 = false := by
    cases b1 with
    | false => rfl
    | true => exact absurd (hb1.1 rfl) HN.out
  clear hb1
  have r0 : (w2).cell? ⟨w.heap.size, 0, none⟩ = some (.int .i64 0) := HKA2.out.cell 0 rfl
  have rf0 := HKA2.out.free 0
  have r1 : (w2).cell? ⟨w.heap.size, 1, none⟩ = some (.string ⟨#[]⟩) := HKA2.out.cell 1 rfl
  have rf1 := HKA2.out.free 1
  have r2 : (w2).cell? ⟨w.heap.size, 2, none⟩ = some (.int .i64 0) := HKA2.out.cell 2 rfl
  have rf2 := HKA2.out.free 2
  have r3 : (w2).cell? ⟨w.heap.size, 3, none⟩ = some (.int .i64 0) := HKA2.out.cell 3 rfl
  have rf3 := HKA2.out.free 3
  have r4 : (w2).cell? ⟨w.heap.size, 4, none⟩ = some (.int .i64 0) := HKA2.out.cell 4 rfl
  have rf4 := HKA2.out.free 4
  have r5 : (w2).cell? ⟨w.heap.size, 5, none⟩ = some (.string ⟨#[]⟩) := HKA2.out.cell 5 rfl
  have rf5 := HKA2.out.free 5
  have r6 : (w2).cell? ⟨w.heap.size, 6, none⟩ = some (.bool false) := HKA2.out.cell 6 rfl
  have rf6 := HKA2.out.free 6
  have r7 : (w2).cell? ⟨w.heap.size, 7, none⟩ = some (.complex .f64 0 0) := HKA2.out.cell 7 rfl
  have rf7 := HKA2.out.free 7
  have r8 : (w2).cell? ⟨w.heap.size, 8, none⟩ = some (.int .i64 0) := HKA2.out.cell 8 rfl
  have rf8 := HKA2.out.free 8
  have l0 : (w2).cell? ⟨w.heap.size + 1, 0, none⟩ = some (.int .i64 3) := HKL2.out.cell 0 rfl
  have lf0 := HKL2.out.free 0
  have l1 : (w2).cell? ⟨w.heap.size + 1, 1, none⟩ = some (.string S) := HKL2.out.cell 1 rfl
  have lf1 := HKL2.out.free 1
  have l2 : (w2).cell? ⟨w.heap.size + 1, 2, none⟩ = some (.int .i64 0) := HKL2.out.cell 2 rfl
  have lf2 := HKL2.out.free 2
  have l3 : (w2).cell? ⟨w.heap.size + 1, 3, none⟩ = some (.int .i64 0) := HKL2.out.cell 3 rfl
  have lf3 := HKL2.out.free 3
  have l4 : (w2).cell? ⟨w.heap.size + 1, 4, none⟩ = some (.int .i64 0) := HKL2.out.cell 4 rfl
  have lf4 := HKL2.out.free 4
  have l5 : (w2).cell? ⟨w.heap.size + 1, 5, none⟩ = some (.string ⟨#[]⟩) := HKL2.out.cell 5 rfl
  have lf5 := HKL2.out.free 5
  have l6 : (w2).cell? ⟨w.heap.size + 1, 6, none⟩ = some (.bool false) := HKL2.out.cell 6 rfl
  have lf6 := HKL2.out.free 6
  have l7 : (w2).cell? ⟨w.heap.size + 1, 7, none⟩ = some (.complex .f64 0 0) := HKL2.out.cell 7 rfl
  have lf7 := HKL2.out.free 7
  have l8 : (w2).cell? ⟨w.heap.size + 1, 8, none⟩ = some (.int .i64 0) := HKL2.out.cell 8 rfl
  have lf8 := HKL2.out.free 8
  go_wp2
  try simp only [Exit.inBlock, Exit.then]
  refine bodyPost_ret (results_termR rfl (by rfl) (by rfl) (by rfl) (Blk.set9R HKA2.out _ _ _ _ _ _ _ _ _)) rfl ?_
  exact ⟨rfl, (((((((((HB2.out.setCell (Nat.le_refl _) _).setCell (Nat.le_refl _) _).setCell (Nat.le_refl _) _).setCell (Nat.le_refl _) _).setCell (Nat.le_refl _) _).setCell (Nat.le_refl _) _).setCell (Nat.le_refl _) _).setCell (Nat.le_refl _) _).setCell (Nat.le_refl _) _)⟩

set_option maxHeartbeats 4000000 in
theorem some_short (a : Option Addr) (len cap : Nat) (bs : List Nat) (p : Nat) (w : World) (hr : Rd w a len bs) (S : ByteArray) (k f : Nat) (hct : ∀ W, Rd W a len bs → Calls Tryz.prog 39 #[.slice a len cap, .int .i64 (p : Int)] W fun e w' => e = .returned (.tuple #[.string S, .int .i64 (k : Int), .int .i64 (f : Int)]) ∧ Below W.heap.size W w') (hf0 : f = 0) (hsz : S.size ≤ maxLen) (hn : nameOk S) (hk : k = len) :
    Calls Tryz.prog 23 #[.slice a len cap, .int .i64 (p : Int)] w fun e w' => e = toldTm (⟨3, S, 0, Val.zero, 0⟩, 0, 3) ∧ Below w.heap.size w w' := by
  have HSZ : Hid (S.size ≤ maxLen) := hsz
  have HN : Hid (nameOk S) := hn
  clear hsz hn
  have hk' : ((k : Int) == (len : Int)) = true := by rw [hk]; simp
  clear hk
  have hcx : ∀ (a : Addr) (m : Mode) (W : World) (x y : Nat), (store a (.complex .f64 x y) m).run Tryz.prog W = stored Tryz.prog W a (.complex .f64 x y) m := fun a m W x y => run_store _ _ _ _ _ rfl
  have HR : Hid (Rd w a len bs) := hr
  have HCT : Hid (∀ W, Rd W a len bs → Calls Tryz.prog 39 #[.slice a len cap, .int .i64 (p : Int)] W fun e w' => e = .returned (.tuple #[.string S, .int .i64 (k : Int), .int .i64 (f : Int)]) ∧ Below W.heap.size W w') := hct
  clear hr hct
  subst hf0
  go_enter Tryz.func23, Tryz.ntmps23
  go_wp2_with fail
  refine (HCT.out _ (HR.out.below ((below_alloc w _).alloc (by simp) _))).mono ?_
  rintro e w1 ⟨rfl, hb1⟩
  have HB1 : Hid (Below w.heap.size w w1) := ((below_alloc w _).alloc (by simp) _).trans (hb1.mono (by simp; omega))
  have HKA1 : Hid (Blk w1 w.heap.size #[.int .i64 0, .string ⟨#[]⟩, .int .i64 0, .int .i64 0, .int .i64 0, .string ⟨#[]⟩, .bool false, .complex .f64 0 0, .int .i64 0] 58) := ((Blk.new w _ _).stay (below_alloc _ _)).stay hb1
  have HKL1 : Hid (Blk w1 (w.heap.size + 1) #[.int .i64 3, .string ⟨#[]⟩, .int .i64 0, .int .i64 0, .int .i64 0, .string ⟨#[]⟩, .bool false, .complex .f64 0 0, .int .i64 0] 58) := by
    have h := Blk.new (w.alloc (.cells #[.int .i64 0, .string ⟨#[]⟩, .int .i64 0, .int .i64 0, .int .i64 0, .string ⟨#[]⟩, .bool false, .complex .f64 0 0, .int .i64 0] 58)) #[.int .i64 3, .string ⟨#[]⟩, .int .i64 0, .int .i64 0, .int .i64 0, .string ⟨#[]⟩, .bool false, .complex .f64 0 0, .int .i64 0] 58
    have e1 : (w.alloc (.cells #[.int .i64 0, .string ⟨#[]⟩, .int .i64 0, .int .i64 0, .int .i64 0, .string ⟨#[]⟩, .bool false, .complex .f64 0 0, .int .i64 0] 58)).heap.size = w.heap.size + 1 := by simp
    rw [e1] at h
    exact h.stay hb1
  clear hb1
  have l1 : (w1).cell? ⟨w.heap.size + 1, 1, none⟩ = some (.string ⟨#[]⟩) := HKL1.out.cell 1 rfl
  have lf1 := HKL1.out.free 1
  obtain ⟨W1, HW1⟩ : ∃ W1, Hid (W1 = w1.setCell ⟨w.heap.size + 1, 1, none⟩ (.string S)) := ⟨_, rfl⟩
  have HB2 : Hid (Below w.heap.size w W1) := by show Below _ _ _; rw [HW1.out]; exact HB1.out.setCell (by simp) _
  have HKA2 : Hid (Blk W1 w.heap.size #[.int .i64 0, .string ⟨#[]⟩, .int .i64 0, .int .i64 0, .int .i64 0, .string ⟨#[]⟩, .bool false, .complex .f64 0 0, .int .i64 0] 58) := by show Blk _ _ _ _; rw [HW1.out]; exact HKA1.out.other _ _ (by simp)
  have HKL2 : Hid (Blk W1 (w.heap.size + 1) #[.int .i64 3, .string S, .int .i64 0, .int .i64 0, .int .i64 0, .string ⟨#[]⟩, .bool false, .complex .f64 0 0, .int .i64 0] 58) := by show Blk _ _ _ _; rw [HW1.out]; exact HKL1.out.set 1 _
  go_wp2_with fail
  rw [← HW1.out]
  refine (ref_Name S HSZ.out _).mono ?_
  rintro e w2 ⟨⟨b1, rfl, hb1⟩, rfl⟩
  clear HW1 l1 lf1 HKA1 HKL1 HB1
  obtain rfl := hb1.2 HN.out
  clear hb1
  have r0 : (w2).cell? ⟨w.heap.size, 0, none⟩ = some (.int .i64 0) := HKA2.out.cell 0 rfl
  have rf0 := HKA2.out.free 0
  have r1 : (w2).cell? ⟨w.heap.size, 1, none⟩ = some (.string ⟨#[]⟩) := HKA2.out.cell 1 rfl
  have rf1 := HKA2.out.free 1
  have r2 : (w2).cell? ⟨w.heap.size, 2, none⟩ = some (.int .i64 0) := HKA2.out.cell 2 rfl
  have rf2 := HKA2.out.free 2
  have r3 : (w2).cell? ⟨w.heap.size, 3, none⟩ = some (.int .i64 0) := HKA2.out.cell 3 rfl
  have rf3 := HKA2.out.free 3
  have r4 : (w2).cell? ⟨w.heap.size, 4, none⟩ = some (.int .i64 0) := HKA2.out.cell 4 rfl
  have rf4 := HKA2.out.free 4
  have r5 : (w2).cell? ⟨w.heap.size, 5, none⟩ = some (.string ⟨#[]⟩) := HKA2.out.cell 5 rfl
  have rf5 := HKA2.out.free 5
  have r6 : (w2).cell? ⟨w.heap.size, 6, none⟩ = some (.bool false) := HKA2.out.cell 6 rfl
  have rf6 := HKA2.out.free 6
  have r7 : (w2).cell? ⟨w.heap.size, 7, none⟩ = some (.complex .f64 0 0) := HKA2.out.cell 7 rfl
  have rf7 := HKA2.out.free 7
  have r8 : (w2).cell? ⟨w.heap.size, 8, none⟩ = some (.int .i64 0) := HKA2.out.cell 8 rfl
  have rf8 := HKA2.out.free 8
  have l0 : (w2).cell? ⟨w.heap.size + 1, 0, none⟩ = some (.int .i64 3) := HKL2.out.cell 0 rfl
  have lf0 := HKL2.out.free 0
  have l1 : (w2).cell? ⟨w.heap.size + 1, 1, none⟩ = some (.string S) := HKL2.out.cell 1 rfl
  have lf1 := HKL2.out.free 1
  have l2 : (w2).cell? ⟨w.heap.size + 1, 2, none⟩ = some (.int .i64 0) := HKL2.out.cell 2 rfl
  have lf2 := HKL2.out.free 2
  have l3 : (w2).cell? ⟨w.heap.size + 1, 3, none⟩ = some (.int .i64 0) := HKL2.out.cell 3 rfl
  have lf3 := HKL2.out.free 3
  have l4 : (w2).cell? ⟨w.heap.size + 1, 4, none⟩ = some (.int .i64 0) := HKL2.out.cell 4 rfl
  have lf4 := HKL2.out.free 4
  have l5 : (w2).cell? ⟨w.heap.size + 1, 5, none⟩ = some (.string ⟨#[]⟩) := HKL2.out.cell 5 rfl
  have lf5 := HKL2.out.free 5
  have l6 : (w2).cell? ⟨w.heap.size + 1, 6, none⟩ = some (.bool false) := HKL2.out.cell 6 rfl
  have lf6 := HKL2.out.free 6
  have l7 : (w2).cell? ⟨w.heap.size + 1, 7, none⟩ = some (.complex .f64 0 0) := HKL2.out.cell 7 rfl
  have lf7 := HKL2.out.free 7
  have l8 : (w2).cell? ⟨w.heap.size + 1, 8, none⟩ = some (.int .i64 0) := HKL2.out.cell 8 rfl
  have lf8 := HKL2.out.free 8
  go_wp2
  try simp only [Exit.inBlock, Exit.then]
  refine bodyPost_ret (results_termR rfl (by rfl) (by rfl) (by rfl) (Blk.set9R HKA2.out _ _ _ _ _ _ _ _ _)) rfl ?_
  exact ⟨rfl, (((((((((HB2.out.setCell (Nat.le_refl _) _).setCell (Nat.le_refl _) _).setCell (Nat.le_refl _) _).setCell (Nat.le_refl _) _).setCell (Nat.le_refl _) _).setCell (Nat.le_refl _) _).setCell (Nat.le_refl _) _).setCell (Nat.le_refl _) _).setCell (Nat.le_refl _) _)⟩

set_option maxHeartbeats 4000000 in
theorem some_cmp0 (b off : Nat) (len cap : Nat) (bs : List Nat) (p : Nat) (w : World) (hr : Rd w (some ⟨b, off, none⟩) len bs) (S : ByteArray) (k f : Nat) (hct : ∀ W, Rd W (some ⟨b, off, none⟩) len bs → Calls Tryz.prog 39 #[.slice (some ⟨b, off, none⟩) len cap, .int .i64 (p : Int)] W fun e w' => e = .returned (.tuple #[.string S, .int .i64 (k : Int), .int .i64 (f : Int)]) ∧ Below W.heap.size W w') (hf0 : f = 0) (hsz : S.size ≤ maxLen) (hn : nameOk S) (hk : k < len) (_hl : len ≤ 9223372036854775000) (c : Nat) (hc : bs.getD k 0 = c) (hc256 : c < 256) (h0 : c < 1) :
    Calls Tryz.prog 23 #[.slice (some ⟨b, off, none⟩) len cap, .int .i64 (p : Int)] w fun e w' => e = toldTm (⟨3, S, c, Val.zero, 0⟩, 0, 2) ∧ Below w.heap.size w w' := by
  have HSZ : Hid (S.size ≤ maxLen) := hsz
  have HN : Hid (nameOk S) := hn
  clear hsz hn
  have HCB : Hid (bs.getD k 0 = c) := hc
  have hk' : ((k : Int) == (len : Int)) = false := by rw [beq_eq_false_iff_ne]; omega
  have hki : (k : Int) < (len : Int) := by omega
  clear hc
  have k1 : (c : Int) < 1 := by omega
  have hcx : ∀ (a : Addr) (m : Mode) (W : World) (x y : Nat), (store a (.complex .f64 x y) m).run Tryz.prog W = stored Tryz.prog W a (.complex .f64 x y) m := fun a m W x y => run_store _ _ _ _ _ rfl
  have HR : Hid (Rd w (some ⟨b, off, none⟩) len bs) := hr
  have HCT : Hid (∀ W, Rd W (some ⟨b, off, none⟩) len bs → Calls Tryz.prog 39 #[.slice (some ⟨b, off, none⟩) len cap, .int .i64 (p : Int)] W fun e w' => e = .returned (.tuple #[.string S, .int .i64 (k : Int), .int .i64 (f : Int)]) ∧ Below W.heap.size W w') := hct
  clear hr hct
  subst hf0
  go_enter Tryz.func23, Tryz.ntmps23
  go_wp2_with fail
  refine (HCT.out _ (HR.out.below ((below_alloc w _).alloc (by simp) _))).mono ?_
  rintro e w1 ⟨rfl, hb1⟩
  have HB1 : Hid (Below w.heap.size w w1) := ((below_alloc w _).alloc (by simp) _).trans (hb1.mono (by simp; omega))
  have HKA1 : Hid (Blk w1 w.heap.size #[.int .i64 0, .string ⟨#[]⟩, .int .i64 0, .int .i64 0, .int .i64 0, .string ⟨#[]⟩, .bool false, .complex .f64 0 0, .int .i64 0] 58) := ((Blk.new w _ _).stay (below_alloc _ _)).stay hb1
  have HKL1 : Hid (Blk w1 (w.heap.size + 1) #[.int .i64 3, .string ⟨#[]⟩, .int .i64 0, .int .i64 0, .int .i64 0, .string ⟨#[]⟩, .bool false, .complex .f64 0 0, .int .i64 0] 58) := by
    have h := Blk.new (w.alloc (.cells #[.int .i64 0, .string ⟨#[]⟩, .int .i64 0, .int .i64 0, .int .i64 0, .string ⟨#[]⟩, .bool false, .complex .f64 0 0, .int .i64 0] 58)) #[.int .i64 3, .string ⟨#[]⟩, .int .i64 0, .int .i64 0, .int .i64 0, .string ⟨#[]⟩, .bool false, .complex .f64 0 0, .int .i64 0] 58
    have e1 : (w.alloc (.cells #[.int .i64 0, .string ⟨#[]⟩, .int .i64 0, .int .i64 0, .int .i64 0, .string ⟨#[]⟩, .bool false, .complex .f64 0 0, .int .i64 0] 58)).heap.size = w.heap.size + 1 := by simp
    rw [e1] at h
    exact h.stay hb1
  clear hb1
  have l1 : (w1).cell? ⟨w.heap.size + 1, 1, none⟩ = some (.string ⟨#[]⟩) := HKL1.out.cell 1 rfl
  have lf1 := HKL1.out.free 1
  obtain ⟨W1, HW1⟩ : ∃ W1, Hid (W1 = w1.setCell ⟨w.heap.size + 1, 1, none⟩ (.string S)) := ⟨_, rfl⟩
  have HB2 : Hid (Below w.heap.size w W1) := by show Below _ _ _; rw [HW1.out]; exact HB1.out.setCell (by simp) _
  have HKA2 : Hid (Blk W1 w.heap.size #[.int .i64 0, .string ⟨#[]⟩, .int .i64 0, .int .i64 0, .int .i64 0, .string ⟨#[]⟩, .bool false, .complex .f64 0 0, .int .i64 0] 58) := by show Blk _ _ _ _; rw [HW1.out]; exact HKA1.out.other _ _ (by simp)
  have HKL2 : Hid (Blk W1 (w.heap.size + 1) #[.int .i64 3, .string S, .int .i64 0, .int .i64 0, .int .i64 0, .string ⟨#[]⟩, .bool false, .complex .f64 0 0, .int .i64 0] 58) := by show Blk _ _ _ _; rw [HW1.out]; exact HKL1.out.set 1 _
  go_wp2_with fail
  rw [← HW1.out]
  refine (ref_Name S HSZ.out _).mono ?_
  rintro e w2 ⟨⟨b1, rfl, hb1⟩, rfl⟩
  clear HW1 l1 lf1 HKA1 HKL1 HB1
  obtain rfl := hb1.2 HN.out
  clear hb1
  have hcell : w2.cell? ⟨b, off + k, none⟩ = some (.int .u8 (c : Int)) := by rw [← HCB.out]; exact rd_cell_at (HR.out.below HB2.out) k (by omega)
  have l2 : (w2).cell? ⟨w.heap.size + 1, 2, none⟩ = some (.int .i64 0) := HKL2.out.cell 2 rfl
  have lf2 := HKL2.out.free 2
  have HB3 : Hid (Below w.heap.size w (w2.setCell ⟨w.heap.size + 1, 2, none⟩ (.int .i64 (c : Int)))) := HB2.out.setCell (by simp) _
  have HKA3 : Hid (Blk (w2.setCell ⟨w.heap.size + 1, 2, none⟩ (.int .i64 (c : Int))) w.heap.size #[.int .i64 0, .string ⟨#[]⟩, .int .i64 0, .int .i64 0, .int .i64 0, .string ⟨#[]⟩, .bool false, .complex .f64 0 0, .int .i64 0] 58) := HKA2.out.other _ _ (by simp)
  have HKL3 : Hid (Blk (w2.setCell ⟨w.heap.size + 1, 2, none⟩ (.int .i64 (c : Int))) (w.heap.size + 1) #[.int .i64 3, .string S, .int .i64 (c : Int), .int .i64 0, .int .i64 0, .string ⟨#[]⟩, .bool false, .complex .f64 0 0, .int .i64 0] 58) := HKL2.out.set 2 _
  have r0 : ((w2.setCell ⟨w.heap.size + 1, 2, none⟩ (.int .i64 (c : Int)))).cell? ⟨w.heap.size, 0, none⟩ = some (.int .i64 0) := HKA3.out.cell 0 rfl
  have rf0 := HKA3.out.free 0
  have r1 : ((w2.setCell ⟨w.heap.size + 1, 2, none⟩ (.int .i64 (c : Int)))).cell? ⟨w.heap.size, 1, none⟩ = some (.string ⟨#[]⟩) := HKA3.out.cell 1 rfl
  have rf1 := HKA3.out.free 1
  have r2 : ((w2.setCell ⟨w.heap.size + 1, 2, none⟩ (.int .i64 (c : Int)))).cell? ⟨w.heap.size, 2, none⟩ = some (.int .i64 0) := HKA3.out.cell 2 rfl
  have rf2 := HKA3.out.free 2
  have r3 : ((w2.setCell ⟨w.heap.size + 1, 2, none⟩ (.int .i64 (c : Int)))).cell? ⟨w.heap.size, 3, none⟩ = some (.int .i64 0) := HKA3.out.cell 3 rfl
  have rf3 := HKA3.out.free 3
  have r4 : ((w2.setCell ⟨w.heap.size + 1, 2, none⟩ (.int .i64 (c : Int)))).cell? ⟨w.heap.size, 4, none⟩ = some (.int .i64 0) := HKA3.out.cell 4 rfl
  have rf4 := HKA3.out.free 4
  have r5 : ((w2.setCell ⟨w.heap.size + 1, 2, none⟩ (.int .i64 (c : Int)))).cell? ⟨w.heap.size, 5, none⟩ = some (.string ⟨#[]⟩) := HKA3.out.cell 5 rfl
  have rf5 := HKA3.out.free 5
  have r6 : ((w2.setCell ⟨w.heap.size + 1, 2, none⟩ (.int .i64 (c : Int)))).cell? ⟨w.heap.size, 6, none⟩ = some (.bool false) := HKA3.out.cell 6 rfl
  have rf6 := HKA3.out.free 6
  have r7 : ((w2.setCell ⟨w.heap.size + 1, 2, none⟩ (.int .i64 (c : Int)))).cell? ⟨w.heap.size, 7, none⟩ = some (.complex .f64 0 0) := HKA3.out.cell 7 rfl
  have rf7 := HKA3.out.free 7
  have r8 : ((w2.setCell ⟨w.heap.size + 1, 2, none⟩ (.int .i64 (c : Int)))).cell? ⟨w.heap.size, 8, none⟩ = some (.int .i64 0) := HKA3.out.cell 8 rfl
  have rf8 := HKA3.out.free 8
  have l0 : ((w2.setCell ⟨w.heap.size + 1, 2, none⟩ (.int .i64 (c : Int)))).cell? ⟨w.heap.size + 1, 0, none⟩ = some (.int .i64 3) := HKL3.out.cell 0 rfl
  have lf0 := HKL3.out.free 0
  have l1 : ((w2.setCell ⟨w.heap.size + 1, 2, none⟩ (.int .i64 (c : Int)))).cell? ⟨w.heap.size + 1, 1, none⟩ = some (.string S) := HKL3.out.cell 1 rfl
  have lf1 := HKL3.out.free 1
  have l2 : ((w2.setCell ⟨w.heap.size + 1, 2, none⟩ (.int .i64 (c : Int)))).cell? ⟨w.heap.size + 1, 2, none⟩ = some (.int .i64 (c : Int)) := HKL3.out.cell 2 rfl
  have lf2 := HKL3.out.free 2
  have l3 : ((w2.setCell ⟨w.heap.size + 1, 2, none⟩ (.int .i64 (c : Int)))).cell? ⟨w.heap.size + 1, 3, none⟩ = some (.int .i64 0) := HKL3.out.cell 3 rfl
  have lf3 := HKL3.out.free 3
  have l4 : ((w2.setCell ⟨w.heap.size + 1, 2, none⟩ (.int .i64 (c : Int)))).cell? ⟨w.heap.size + 1, 4, none⟩ = some (.int .i64 0) := HKL3.out.cell 4 rfl
  have lf4 := HKL3.out.free 4
  have l5 : ((w2.setCell ⟨w.heap.size + 1, 2, none⟩ (.int .i64 (c : Int)))).cell? ⟨w.heap.size + 1, 5, none⟩ = some (.string ⟨#[]⟩) := HKL3.out.cell 5 rfl
  have lf5 := HKL3.out.free 5
  have l6 : ((w2.setCell ⟨w.heap.size + 1, 2, none⟩ (.int .i64 (c : Int)))).cell? ⟨w.heap.size + 1, 6, none⟩ = some (.bool false) := HKL3.out.cell 6 rfl
  have lf6 := HKL3.out.free 6
  have l7 : ((w2.setCell ⟨w.heap.size + 1, 2, none⟩ (.int .i64 (c : Int)))).cell? ⟨w.heap.size + 1, 7, none⟩ = some (.complex .f64 0 0) := HKL3.out.cell 7 rfl
  have lf7 := HKL3.out.free 7
  have l8 : ((w2.setCell ⟨w.heap.size + 1, 2, none⟩ (.int .i64 (c : Int)))).cell? ⟨w.heap.size + 1, 8, none⟩ = some (.int .i64 0) := HKL3.out.cell 8 rfl
  have lf8 := HKL3.out.free 8
  go_wp2
  try simp only [Exit.inBlock, Exit.then]
  refine bodyPost_ret (results_termR rfl (by rfl) (by rfl) (by rfl) (Blk.set9R HKA3.out _ _ _ _ _ _ _ _ _)) rfl ?_
  exact ⟨rfl, (((((((((HB3.out.setCell (Nat.le_refl _) _).setCell (Nat.le_refl _) _).setCell (Nat.le_refl _) _).setCell (Nat.le_refl _) _).setCell (Nat.le_refl _) _).setCell (Nat.le_refl _) _).setCell (Nat.le_refl _) _).setCell (Nat.le_refl _) _).setCell (Nat.le_refl _) _)⟩

set_option maxHeartbeats 4000000 in
theorem some_cmp11 (b off : Nat) (len cap : Nat) (bs : List Nat) (p : Nat) (w : World) (hr : Rd w (some ⟨b, off, none⟩) len bs) (S : ByteArray) (k f : Nat) (hct : ∀ W, Rd W (some ⟨b, off, none⟩) len bs → Calls Tryz.prog 39 #[.slice (some ⟨b, off, none⟩) len cap, .int .i64 (p : Int)] W fun e w' => e = .returned (.tuple #[.string S, .int .i64 (k : Int), .int .i64 (f : Int)]) ∧ Below W.heap.size W w') (hf0 : f = 0) (hsz : S.size ≤ maxLen) (hn : nameOk S) (hk : k < len) (_hl : len ≤ 9223372036854775000) (c : Nat) (hc : bs.getD k 0 = c) (hc256 : c < 256) (h0 : 10 < c) :
    Calls Tryz.prog 23 #[.slice (some ⟨b, off, none⟩) len cap, .int .i64 (p : Int)] w fun e w' => e = toldTm (⟨3, S, c, Val.zero, 0⟩, 0, 2) ∧ Below w.heap.size w w' := by
  have HSZ : Hid (S.size ≤ maxLen) := hsz
  have HN : Hid (nameOk S) := hn
  clear hsz hn
  have HCB : Hid (bs.getD k 0 = c) := hc
  have hk' : ((k : Int) == (len : Int)) = false := by rw [beq_eq_false_iff_ne]; omega
  have hki : (k : Int) < (len : Int) := by omega
  clear hc
  have k1 : ¬ (c : Int) < 1 := by omega
  have k2 : (10 : Int) < (c : Int) := by omega
  have hcx : ∀ (a : Addr) (m : Mode) (W : World) (x y : Nat), (store a (.complex .f64 x y) m).run Tryz.prog W = stored Tryz.prog W a (.complex .f64 x y) m := fun a m W x y => run_store _ _ _ _ _ rfl
  have HR : Hid (Rd w (some ⟨b, off, none⟩) len bs) := hr
  have HCT : Hid (∀ W, Rd W (some ⟨b, off, none⟩) len bs → Calls Tryz.prog 39 #[.slice (some ⟨b, off, none⟩) len cap, .int .i64 (p : Int)] W fun e w' => e = .returned (.tuple #[.string S, .int .i64 (k : Int), .int .i64 (f : Int)]) ∧ Below W.heap.size W w') := hct
  clear hr hct
  subst hf0
  go_enter Tryz.func23, Tryz.ntmps23
  go_wp2_with fail
  refine (HCT.out _ (HR.out.below ((below_alloc w _).alloc (by simp) _))).mono ?_
  rintro e w1 ⟨rfl, hb1⟩
  have HB1 : Hid (Below w.heap.size w w1) := ((below_alloc w _).alloc (by simp) _).trans (hb1.mono (by simp; omega))
  have HKA1 : Hid (Blk w1 w.heap.size #[.int .i64 0, .string ⟨#[]⟩, .int .i64 0, .int .i64 0, .int .i64 0, .string ⟨#[]⟩, .bool false, .complex .f64 0 0, .int .i64 0] 58) := ((Blk.new w _ _).stay (below_alloc _ _)).stay hb1
  have HKL1 : Hid (Blk w1 (w.heap.size + 1) #[.int .i64 3, .string ⟨#[]⟩, .int .i64 0, .int .i64 0, .int .i64 0, .string ⟨#[]⟩, .bool false, .complex .f64 0 0, .int .i64 0] 58) := by
    have h := Blk.new (w.alloc (.cells #[.int .i64 0, .string ⟨#[]⟩, .int .i64 0, .int .i64 0, .int .i64 0, .string ⟨#[]⟩, .bool false, .complex .f64 0 0, .int .i64 0] 58)) #[.int .i64 3, .string ⟨#[]⟩, .int .i64 0, .int .i64 0, .int .i64 0, .string ⟨#[]⟩, .bool false, .complex .f64 0 0, .int .i64 0] 58
    have e1 : (w.alloc (.cells #[.int .i64 0, .string ⟨#[]⟩, .int .i64 0, .int .i64 0, .int .i64 0, .string ⟨#[]⟩, .bool false, .complex .f64 0 0, .int .i64 0] 58)).heap.size = w.heap.size + 1 := by simp
    rw [e1] at h
    exact h.stay hb1
  clear hb1
  have l1 : (w1).cell? ⟨w.heap.size + 1, 1, none⟩ = some (.string ⟨#[]⟩) := HKL1.out.cell 1 rfl
  have lf1 := HKL1.out.free 1
  obtain ⟨W1, HW1⟩ : ∃ W1, Hid (W1 = w1.setCell ⟨w.heap.size + 1, 1, none⟩ (.string S)) := ⟨_, rfl⟩
  have HB2 : Hid (Below w.heap.size w W1) := by show Below _ _ _; rw [HW1.out]; exact HB1.out.setCell (by simp) _
  have HKA2 : Hid (Blk W1 w.heap.size #[.int .i64 0, .string ⟨#[]⟩, .int .i64 0, .int .i64 0, .int .i64 0, .string ⟨#[]⟩, .bool false, .complex .f64 0 0, .int .i64 0] 58) := by show Blk _ _ _ _; rw [HW1.out]; exact HKA1.out.other _ _ (by simp)
  have HKL2 : Hid (Blk W1 (w.heap.size + 1) #[.int .i64 3, .string S, .int .i64 0, .int .i64 0, .int .i64 0, .string ⟨#[]⟩, .bool false, .complex .f64 0 0, .int .i64 0] 58) := by show Blk _ _ _ _; rw [HW1.out]; exact HKL1.out.set 1 _
  go_wp2_with fail
  rw [← HW1.out]
  refine (ref_Name S HSZ.out _).mono ?_
  rintro e w2 ⟨⟨b1, rfl, hb1⟩, rfl⟩
  clear HW1 l1 lf1 HKA1 HKL1 HB1
  obtain rfl := hb1.2 HN.out
  clear hb1
  have hcell : w2.cell? ⟨b, off + k, none⟩ = some (.int .u8 (c : Int)) := by rw [← HCB.out]; exact rd_cell_at (HR.out.below HB2.out) k (by omega)
  have l2 : (w2).cell? ⟨w.heap.size + 1, 2, none⟩ = some (.int .i64 0) := HKL2.out.cell 2 rfl
  have lf2 := HKL2.out.free 2
  have HB3 : Hid (Below w.heap.size w (w2.setCell ⟨w.heap.size + 1, 2, none⟩ (.int .i64 (c : Int)))) := HB2.out.setCell (by simp) _
  have HKA3 : Hid (Blk (w2.setCell ⟨w.heap.size + 1, 2, none⟩ (.int .i64 (c : Int))) w.heap.size #[.int .i64 0, .string ⟨#[]⟩, .int .i64 0, .int .i64 0, .int .i64 0, .string ⟨#[]⟩, .bool false, .complex .f64 0 0, .int .i64 0] 58) := HKA2.out.other _ _ (by simp)
  have HKL3 : Hid (Blk (w2.setCell ⟨w.heap.size + 1, 2, none⟩ (.int .i64 (c : Int))) (w.heap.size + 1) #[.int .i64 3, .string S, .int .i64 (c : Int), .int .i64 0, .int .i64 0, .string ⟨#[]⟩, .bool false, .complex .f64 0 0, .int .i64 0] 58) := HKL2.out.set 2 _
  have r0 : ((w2.setCell ⟨w.heap.size + 1, 2, none⟩ (.int .i64 (c : Int)))).cell? ⟨w.heap.size, 0, none⟩ = some (.int .i64 0) := HKA3.out.cell 0 rfl
  have rf0 := HKA3.out.free 0
  have r1 : ((w2.setCell ⟨w.heap.size + 1, 2, none⟩ (.int .i64 (c : Int)))).cell? ⟨w.heap.size, 1, none⟩ = some (.string ⟨#[]⟩) := HKA3.out.cell 1 rfl
  have rf1 := HKA3.out.free 1
  have r2 : ((w2.setCell ⟨w.heap.size + 1, 2, none⟩ (.int .i64 (c : Int)))).cell? ⟨w.heap.size, 2, none⟩ = some (.int .i64 0) := HKA3.out.cell 2 rfl
  have rf2 := HKA3.out.free 2
  have r3 : ((w2.setCell ⟨w.heap.size + 1, 2, none⟩ (.int .i64 (c : Int)))).cell? ⟨w.heap.size, 3, none⟩ = some (.int .i64 0) := HKA3.out.cell 3 rfl
  have rf3 := HKA3.out.free 3
  have r4 : ((w2.setCell ⟨w.heap.size + 1, 2, none⟩ (.int .i64 (c : Int)))).cell? ⟨w.heap.size, 4, none⟩ = some (.int .i64 0) := HKA3.out.cell 4 rfl
  have rf4 := HKA3.out.free 4
  have r5 : ((w2.setCell ⟨w.heap.size + 1, 2, none⟩ (.int .i64 (c : Int)))).cell? ⟨w.heap.size, 5, none⟩ = some (.string ⟨#[]⟩) := HKA3.out.cell 5 rfl
  have rf5 := HKA3.out.free 5
  have r6 : ((w2.setCell ⟨w.heap.size + 1, 2, none⟩ (.int .i64 (c : Int)))).cell? ⟨w.heap.size, 6, none⟩ = some (.bool false) := HKA3.out.cell 6 rfl
  have rf6 := HKA3.out.free 6
  have r7 : ((w2.setCell ⟨w.heap.size + 1, 2, none⟩ (.int .i64 (c : Int)))).cell? ⟨w.heap.size, 7, none⟩ = some (.complex .f64 0 0) := HKA3.out.cell 7 rfl
  have rf7 := HKA3.out.free 7
  have r8 : ((w2.setCell ⟨w.heap.size + 1, 2, none⟩ (.int .i64 (c : Int)))).cell? ⟨w.heap.size, 8, none⟩ = some (.int .i64 0) := HKA3.out.cell 8 rfl
  have rf8 := HKA3.out.free 8
  have l0 : ((w2.setCell ⟨w.heap.size + 1, 2, none⟩ (.int .i64 (c : Int)))).cell? ⟨w.heap.size + 1, 0, none⟩ = some (.int .i64 3) := HKL3.out.cell 0 rfl
  have lf0 := HKL3.out.free 0
  have l1 : ((w2.setCell ⟨w.heap.size + 1, 2, none⟩ (.int .i64 (c : Int)))).cell? ⟨w.heap.size + 1, 1, none⟩ = some (.string S) := HKL3.out.cell 1 rfl
  have lf1 := HKL3.out.free 1
  have l2 : ((w2.setCell ⟨w.heap.size + 1, 2, none⟩ (.int .i64 (c : Int)))).cell? ⟨w.heap.size + 1, 2, none⟩ = some (.int .i64 (c : Int)) := HKL3.out.cell 2 rfl
  have lf2 := HKL3.out.free 2
  have l3 : ((w2.setCell ⟨w.heap.size + 1, 2, none⟩ (.int .i64 (c : Int)))).cell? ⟨w.heap.size + 1, 3, none⟩ = some (.int .i64 0) := HKL3.out.cell 3 rfl
  have lf3 := HKL3.out.free 3
  have l4 : ((w2.setCell ⟨w.heap.size + 1, 2, none⟩ (.int .i64 (c : Int)))).cell? ⟨w.heap.size + 1, 4, none⟩ = some (.int .i64 0) := HKL3.out.cell 4 rfl
  have lf4 := HKL3.out.free 4
  have l5 : ((w2.setCell ⟨w.heap.size + 1, 2, none⟩ (.int .i64 (c : Int)))).cell? ⟨w.heap.size + 1, 5, none⟩ = some (.string ⟨#[]⟩) := HKL3.out.cell 5 rfl
  have lf5 := HKL3.out.free 5
  have l6 : ((w2.setCell ⟨w.heap.size + 1, 2, none⟩ (.int .i64 (c : Int)))).cell? ⟨w.heap.size + 1, 6, none⟩ = some (.bool false) := HKL3.out.cell 6 rfl
  have lf6 := HKL3.out.free 6
  have l7 : ((w2.setCell ⟨w.heap.size + 1, 2, none⟩ (.int .i64 (c : Int)))).cell? ⟨w.heap.size + 1, 7, none⟩ = some (.complex .f64 0 0) := HKL3.out.cell 7 rfl
  have lf7 := HKL3.out.free 7
  have l8 : ((w2.setCell ⟨w.heap.size + 1, 2, none⟩ (.int .i64 (c : Int)))).cell? ⟨w.heap.size + 1, 8, none⟩ = some (.int .i64 0) := HKL3.out.cell 8 rfl
  have lf8 := HKL3.out.free 8
  go_wp2
  try simp only [Exit.inBlock, Exit.then]
  refine bodyPost_ret (results_termR rfl (by rfl) (by rfl) (by rfl) (Blk.set9R HKA3.out _ _ _ _ _ _ _ _ _)) rfl ?_
  exact ⟨rfl, (((((((((HB3.out.setCell (Nat.le_refl _) _).setCell (Nat.le_refl _) _).setCell (Nat.le_refl _) _).setCell (Nat.le_refl _) _).setCell (Nat.le_refl _) _).setCell (Nat.le_refl _) _).setCell (Nat.le_refl _) _).setCell (Nat.le_refl _) _).setCell (Nat.le_refl _) _)⟩

set_option maxHeartbeats 4000000 in
theorem some_has (b off : Nat) (len cap : Nat) (bs : List Nat) (p : Nat) (w : World) (hr : Rd w (some ⟨b, off, none⟩) len bs) (S : ByteArray) (k f : Nat) (hct : ∀ W, Rd W (some ⟨b, off, none⟩) len bs → Calls Tryz.prog 39 #[.slice (some ⟨b, off, none⟩) len cap, .int .i64 (p : Int)] W fun e w' => e = .returned (.tuple #[.string S, .int .i64 (k : Int), .int .i64 (f : Int)]) ∧ Below W.heap.size W w') (hf0 : f = 0) (hsz : S.size ≤ maxLen) (hn : nameOk S) (hk : k < len) (hl : len ≤ 9223372036854775000) (c : Nat) (hc : bs.getD k 0 = c) (hc256 : c < 256) (h0 : 1 ≤ c ∧ c ≤ 2) :
    Calls Tryz.prog 23 #[.slice (some ⟨b, off, none⟩) len cap, .int .i64 (p : Int)] w fun e w' => e = toldTm (⟨3, S, c, Val.zero, 0⟩, k + 1, 0) ∧ Below w.heap.size w w' := by
  have HSZ : Hid (S.size ≤ maxLen) := hsz
  have HN : Hid (nameOk S) := hn
  clear hsz hn
  have HCB : Hid (bs.getD k 0 = c) := hc
  have hk' : ((k : Int) == (len : Int)) = false := by rw [beq_eq_false_iff_ne]; omega
  have hki : (k : Int) < (len : Int) := by omega
  clear hc
  have k1 : ¬ (c : Int) < 1 := by omega
  have k2 : ¬ (10 : Int) < (c : Int) := by omega
  have k3 : (c : Int) ≤ 2 := by omega
  have hcx : ∀ (a : Addr) (m : Mode) (W : World) (x y : Nat), (store a (.complex .f64 x y) m).run Tryz.prog W = stored Tryz.prog W a (.complex .f64 x y) m := fun a m W x y => run_store _ _ _ _ _ rfl
  have HR : Hid (Rd w (some ⟨b, off, none⟩) len bs) := hr
  have HCT : Hid (∀ W, Rd W (some ⟨b, off, none⟩) len bs → Calls Tryz.prog 39 #[.slice (some ⟨b, off, none⟩) len cap, .int .i64 (p : Int)] W fun e w' => e = .returned (.tuple #[.string S, .int .i64 (k : Int), .int .i64 (f : Int)]) ∧ Below W.heap.size W w') := hct
  clear hr hct
  subst hf0
  go_enter Tryz.func23, Tryz.ntmps23
  go_wp2_with fail
  refine (HCT.out _ (HR.out.below ((below_alloc w _).alloc (by simp) _))).mono ?_
  rintro e w1 ⟨rfl, hb1⟩
  have HB1 : Hid (Below w.heap.size w w1) := ((below_alloc w _).alloc (by simp) _).trans (hb1.mono (by simp; omega))
  have HKA1 : Hid (Blk w1 w.heap.size #[.int .i64 0, .string ⟨#[]⟩, .int .i64 0, .int .i64 0, .int .i64 0, .string ⟨#[]⟩, .bool false, .complex .f64 0 0, .int .i64 0] 58) := ((Blk.new w _ _).stay (below_alloc _ _)).stay hb1
  have HKL1 : Hid (Blk w1 (w.heap.size + 1) #[.int .i64 3, .string ⟨#[]⟩, .int .i64 0, .int .i64 0, .int .i64 0, .string ⟨#[]⟩, .bool false, .complex .f64 0 0, .int .i64 0] 58) := by
    have h := Blk.new (w.alloc (.cells #[.int .i64 0, .string ⟨#[]⟩, .int .i64 0, .int .i64 0, .int .i64 0, .string ⟨#[]⟩, .bool false, .complex .f64 0 0, .int .i64 0] 58)) #[.int .i64 3, .string ⟨#[]⟩, .int .i64 0, .int .i64 0, .int .i64 0, .string ⟨#[]⟩, .bool false, .complex .f64 0 0, .int .i64 0] 58
    have e1 : (w.alloc (.cells #[.int .i64 0, .string ⟨#[]⟩, .int .i64 0, .int .i64 0, .int .i64 0, .string ⟨#[]⟩, .bool false, .complex .f64 0 0, .int .i64 0] 58)).heap.size = w.heap.size + 1 := by simp
    rw [e1] at h
    exact h.stay hb1
  clear hb1
  have l1 : (w1).cell? ⟨w.heap.size + 1, 1, none⟩ = some (.string ⟨#[]⟩) := HKL1.out.cell 1 rfl
  have lf1 := HKL1.out.free 1
  obtain ⟨W1, HW1⟩ : ∃ W1, Hid (W1 = w1.setCell ⟨w.heap.size + 1, 1, none⟩ (.string S)) := ⟨_, rfl⟩
  have HB2 : Hid (Below w.heap.size w W1) := by show Below _ _ _; rw [HW1.out]; exact HB1.out.setCell (by simp) _
  have HKA2 : Hid (Blk W1 w.heap.size #[.int .i64 0, .string ⟨#[]⟩, .int .i64 0, .int .i64 0, .int .i64 0, .string ⟨#[]⟩, .bool false, .complex .f64 0 0, .int .i64 0] 58) := by show Blk _ _ _ _; rw [HW1.out]; exact HKA1.out.other _ _ (by simp)
  have HKL2 : Hid (Blk W1 (w.heap.size + 1) #[.int .i64 3, .string S, .int .i64 0, .int .i64 0, .int .i64 0, .string ⟨#[]⟩, .bool false, .complex .f64 0 0, .int .i64 0] 58) := by show Blk _ _ _ _; rw [HW1.out]; exact HKL1.out.set 1 _
  go_wp2_with fail
  rw [← HW1.out]
  refine (ref_Name S HSZ.out _).mono ?_
  rintro e w2 ⟨⟨b1, rfl, hb1⟩, rfl⟩
  clear HW1 l1 lf1 HKA1 HKL1 HB1
  obtain rfl := hb1.2 HN.out
  clear hb1
  have hcell : w2.cell? ⟨b, off + k, none⟩ = some (.int .u8 (c : Int)) := by rw [← HCB.out]; exact rd_cell_at (HR.out.below HB2.out) k (by omega)
  have l2 : (w2).cell? ⟨w.heap.size + 1, 2, none⟩ = some (.int .i64 0) := HKL2.out.cell 2 rfl
  have lf2 := HKL2.out.free 2
  have HB3 : Hid (Below w.heap.size w (w2.setCell ⟨w.heap.size + 1, 2, none⟩ (.int .i64 (c : Int)))) := HB2.out.setCell (by simp) _
  have HKA3 : Hid (Blk (w2.setCell ⟨w.heap.size + 1, 2, none⟩ (.int .i64 (c : Int))) w.heap.size #[.int .i64 0, .string ⟨#[]⟩, .int .i64 0, .int .i64 0, .int .i64 0, .string ⟨#[]⟩, .bool false, .complex .f64 0 0, .int .i64 0] 58) := HKA2.out.other _ _ (by simp)
  have HKL3 : Hid (Blk (w2.setCell ⟨w.heap.size + 1, 2, none⟩ (.int .i64 (c : Int))) (w.heap.size + 1) #[.int .i64 3, .string S, .int .i64 (c : Int), .int .i64 0, .int .i64 0, .string ⟨#[]⟩, .bool false, .complex .f64 0 0, .int .i64 0] 58) := HKL2.out.set 2 _
  have r0 : ((w2.setCell ⟨w.heap.size + 1, 2, none⟩ (.int .i64 (c : Int)))).cell? ⟨w.heap.size, 0, none⟩ = some (.int .i64 0) := HKA3.out.cell 0 rfl
  have rf0 := HKA3.out.free 0
  have r1 : ((w2.setCell ⟨w.heap.size + 1, 2, none⟩ (.int .i64 (c : Int)))).cell? ⟨w.heap.size, 1, none⟩ = some (.string ⟨#[]⟩) := HKA3.out.cell 1 rfl
  have rf1 := HKA3.out.free 1
  have r2 : ((w2.setCell ⟨w.heap.size + 1, 2, none⟩ (.int .i64 (c : Int)))).cell? ⟨w.heap.size, 2, none⟩ = some (.int .i64 0) := HKA3.out.cell 2 rfl
  have rf2 := HKA3.out.free 2
  have r3 : ((w2.setCell ⟨w.heap.size + 1, 2, none⟩ (.int .i64 (c : Int)))).cell? ⟨w.heap.size, 3, none⟩ = some (.int .i64 0) := HKA3.out.cell 3 rfl
  have rf3 := HKA3.out.free 3
  have r4 : ((w2.setCell ⟨w.heap.size + 1, 2, none⟩ (.int .i64 (c : Int)))).cell? ⟨w.heap.size, 4, none⟩ = some (.int .i64 0) := HKA3.out.cell 4 rfl
  have rf4 := HKA3.out.free 4
  have r5 : ((w2.setCell ⟨w.heap.size + 1, 2, none⟩ (.int .i64 (c : Int)))).cell? ⟨w.heap.size, 5, none⟩ = some (.string ⟨#[]⟩) := HKA3.out.cell 5 rfl
  have rf5 := HKA3.out.free 5
  have r6 : ((w2.setCell ⟨w.heap.size + 1, 2, none⟩ (.int .i64 (c : Int)))).cell? ⟨w.heap.size, 6, none⟩ = some (.bool false) := HKA3.out.cell 6 rfl
  have rf6 := HKA3.out.free 6
  have r7 : ((w2.setCell ⟨w.heap.size + 1, 2, none⟩ (.int .i64 (c : Int)))).cell? ⟨w.heap.size, 7, none⟩ = some (.complex .f64 0 0) := HKA3.out.cell 7 rfl
  have rf7 := HKA3.out.free 7
  have r8 : ((w2.setCell ⟨w.heap.size + 1, 2, none⟩ (.int .i64 (c : Int)))).cell? ⟨w.heap.size, 8, none⟩ = some (.int .i64 0) := HKA3.out.cell 8 rfl
  have rf8 := HKA3.out.free 8
  have l0 : ((w2.setCell ⟨w.heap.size + 1, 2, none⟩ (.int .i64 (c : Int)))).cell? ⟨w.heap.size + 1, 0, none⟩ = some (.int .i64 3) := HKL3.out.cell 0 rfl
  have lf0 := HKL3.out.free 0
  have l1 : ((w2.setCell ⟨w.heap.size + 1, 2, none⟩ (.int .i64 (c : Int)))).cell? ⟨w.heap.size + 1, 1, none⟩ = some (.string S) := HKL3.out.cell 1 rfl
  have lf1 := HKL3.out.free 1
  have l2 : ((w2.setCell ⟨w.heap.size + 1, 2, none⟩ (.int .i64 (c : Int)))).cell? ⟨w.heap.size + 1, 2, none⟩ = some (.int .i64 (c : Int)) := HKL3.out.cell 2 rfl
  have lf2 := HKL3.out.free 2
  have l3 : ((w2.setCell ⟨w.heap.size + 1, 2, none⟩ (.int .i64 (c : Int)))).cell? ⟨w.heap.size + 1, 3, none⟩ = some (.int .i64 0) := HKL3.out.cell 3 rfl
  have lf3 := HKL3.out.free 3
  have l4 : ((w2.setCell ⟨w.heap.size + 1, 2, none⟩ (.int .i64 (c : Int)))).cell? ⟨w.heap.size + 1, 4, none⟩ = some (.int .i64 0) := HKL3.out.cell 4 rfl
  have lf4 := HKL3.out.free 4
  have l5 : ((w2.setCell ⟨w.heap.size + 1, 2, none⟩ (.int .i64 (c : Int)))).cell? ⟨w.heap.size + 1, 5, none⟩ = some (.string ⟨#[]⟩) := HKL3.out.cell 5 rfl
  have lf5 := HKL3.out.free 5
  have l6 : ((w2.setCell ⟨w.heap.size + 1, 2, none⟩ (.int .i64 (c : Int)))).cell? ⟨w.heap.size + 1, 6, none⟩ = some (.bool false) := HKL3.out.cell 6 rfl
  have lf6 := HKL3.out.free 6
  have l7 : ((w2.setCell ⟨w.heap.size + 1, 2, none⟩ (.int .i64 (c : Int)))).cell? ⟨w.heap.size + 1, 7, none⟩ = some (.complex .f64 0 0) := HKL3.out.cell 7 rfl
  have lf7 := HKL3.out.free 7
  have l8 : ((w2.setCell ⟨w.heap.size + 1, 2, none⟩ (.int .i64 (c : Int)))).cell? ⟨w.heap.size + 1, 8, none⟩ = some (.int .i64 0) := HKL3.out.cell 8 rfl
  have lf8 := HKL3.out.free 8
  go_wp2
  try simp only [Exit.inBlock, Exit.then]
  refine bodyPost_ret (results_termR rfl (by rfl) (by rfl) (by rfl) (Blk.set9R HKA3.out _ _ _ _ _ _ _ _ _)) rfl ?_
  exact ⟨rfl, (((((((((HB3.out.setCell (Nat.le_refl _) _).setCell (Nat.le_refl _) _).setCell (Nat.le_refl _) _).setCell (Nat.le_refl _) _).setCell (Nat.le_refl _) _).setCell (Nat.le_refl _) _).setCell (Nat.le_refl _) _).setCell (Nat.le_refl _) _).setCell (Nat.le_refl _) _)⟩
end Go.Proofs.YtfmpfjpcigdeoabGreatDoor
/- The reference's some: an atom's value. -/
namespace Go.Proofs.YtfmpfjpcigdeoabGreatDoor
set_option maxRecDepth 100000
open Go.RowKit

set_option maxHeartbeats 4000000 in
theorem some_value (b off : Nat) (len cap : Nat) (bs : List Nat) (p : Nat) (w : World) (hr : Rd w (some ⟨b, off, none⟩) len bs) (S : ByteArray) (k f : Nat) (hct : ∀ W, Rd W (some ⟨b, off, none⟩) len bs → Calls Tryz.prog 39 #[.slice (some ⟨b, off, none⟩) len cap, .int .i64 (p : Int)] W fun e w' => e = .returned (.tuple #[.string S, .int .i64 (k : Int), .int .i64 (f : Int)]) ∧ Below W.heap.size W w') (hf0 : f = 0) (hsz : S.size ≤ maxLen) (hn : nameOk S) (hk : k < len) (hl : len ≤ 9223372036854775000) (c : Nat) (hc : bs.getD k 0 = c) (hc256 : c < 256) (h0 : 3 ≤ c ∧ c ≤ 10) (v : Val) (j g : Nat) (hvc : ∀ W, Rd W (some ⟨b, off, none⟩) len bs → Calls Tryz.prog 41 #[.slice (some ⟨b, off, none⟩) len cap, .int .i64 ((k : Int) + 1)] W fun e w' => e = .returned (.tuple #[.agg v.cells, .int .i64 (j : Int), .int .i64 (g : Int)]) ∧ Below W.heap.size W w') (hg : g ≠ 0) :
    Calls Tryz.prog 23 #[.slice (some ⟨b, off, none⟩) len cap, .int .i64 (p : Int)] w fun e w' => e = toldTm (⟨3, S, c, Val.zero, 0⟩, 0, g) ∧ Below w.heap.size w w' := by
  have HSZ : Hid (S.size ≤ maxLen) := hsz
  have HN : Hid (nameOk S) := hn
  clear hsz hn
  have HCB : Hid (bs.getD k 0 = c) := hc
  have hk' : ((k : Int) == (len : Int)) = false := by rw [beq_eq_false_iff_ne]; omega
  have hki : (k : Int) < (len : Int) := by omega
  clear hc
  have k1 : ¬ (c : Int) < 1 := by omega
  have k2 : ¬ (10 : Int) < (c : Int) := by omega
  have k3 : ¬ (c : Int) ≤ 2 := by omega
  have HCC : Hid (1 ≤ c ∧ c ≤ 10) := by constructor <;> omega
  have HVC : Hid (∀ W, Rd W (some ⟨b, off, none⟩) len bs → Calls Tryz.prog 41 #[.slice (some ⟨b, off, none⟩) len cap, .int .i64 ((k : Int) + 1)] W fun e w' => e = .returned (.tuple #[.agg v.cells, .int .i64 (j : Int), .int .i64 (g : Int)]) ∧ Below W.heap.size W w') := hvc
  clear hvc
  have hg' : (g : Int) ≠ 0 := by omega
  clear hg
  have hcx : ∀ (a : Addr) (m : Mode) (W : World) (x y : Nat), (store a (.complex .f64 x y) m).run Tryz.prog W = stored Tryz.prog W a (.complex .f64 x y) m := fun a m W x y => run_store _ _ _ _ _ rfl
  have HR : Hid (Rd w (some ⟨b, off, none⟩) len bs) := hr
  have HCT : Hid (∀ W, Rd W (some ⟨b, off, none⟩) len bs → Calls Tryz.prog 39 #[.slice (some ⟨b, off, none⟩) len cap, .int .i64 (p : Int)] W fun e w' => e = .returned (.tuple #[.string S, .int .i64 (k : Int), .int .i64 (f : Int)]) ∧ Below W.heap.size W w') := hct
  clear hr hct
  subst hf0
  go_enter Tryz.func23, Tryz.ntmps23
  go_wp2_with fail
  refine (HCT.out _ (HR.out.below ((below_alloc w _).alloc (by simp) _))).mono ?_
  rintro e w1 ⟨rfl, hb1⟩
  have HB1 : Hid (Below w.heap.size w w1) := ((below_alloc w _).alloc (by simp) _).trans (hb1.mono (by simp; omega))
  have HKA1 : Hid (Blk w1 w.heap.size #[.int .i64 0, .string ⟨#[]⟩, .int .i64 0, .int .i64 0, .int .i64 0, .string ⟨#[]⟩, .bool false, .complex .f64 0 0, .int .i64 0] 58) := ((Blk.new w _ _).stay (below_alloc _ _)).stay hb1
  have HKL1 : Hid (Blk w1 (w.heap.size + 1) #[.int .i64 3, .string ⟨#[]⟩, .int .i64 0, .int .i64 0, .int .i64 0, .string ⟨#[]⟩, .bool false, .complex .f64 0 0, .int .i64 0] 58) := by
    have h := Blk.new (w.alloc (.cells #[.int .i64 0, .string ⟨#[]⟩, .int .i64 0, .int .i64 0, .int .i64 0, .string ⟨#[]⟩, .bool false, .complex .f64 0 0, .int .i64 0] 58)) #[.int .i64 3, .string ⟨#[]⟩, .int .i64 0, .int .i64 0, .int .i64 0, .string ⟨#[]⟩, .bool false, .complex .f64 0 0, .int .i64 0] 58
    have e1 : (w.alloc (.cells #[.int .i64 0, .string ⟨#[]⟩, .int .i64 0, .int .i64 0, .int .i64 0, .string ⟨#[]⟩, .bool false, .complex .f64 0 0, .int .i64 0] 58)).heap.size = w.heap.size + 1 := by simp
    rw [e1] at h
    exact h.stay hb1
  clear hb1
  have l1 : (w1).cell? ⟨w.heap.size + 1, 1, none⟩ = some (.string ⟨#[]⟩) := HKL1.out.cell 1 rfl
  have lf1 := HKL1.out.free 1
  obtain ⟨W1, HW1⟩ : ∃ W1, Hid (W1 = w1.setCell ⟨w.heap.size + 1, 1, none⟩ (.string S)) := ⟨_, rfl⟩
  have HB2 : Hid (Below w.heap.size w W1) := by show Below _ _ _; rw [HW1.out]; exact HB1.out.setCell (by simp) _
  have HKA2 : Hid (Blk W1 w.heap.size #[.int .i64 0, .string ⟨#[]⟩, .int .i64 0, .int .i64 0, .int .i64 0, .string ⟨#[]⟩, .bool false, .complex .f64 0 0, .int .i64 0] 58) := by show Blk _ _ _ _; rw [HW1.out]; exact HKA1.out.other _ _ (by simp)
  have HKL2 : Hid (Blk W1 (w.heap.size + 1) #[.int .i64 3, .string S, .int .i64 0, .int .i64 0, .int .i64 0, .string ⟨#[]⟩, .bool false, .complex .f64 0 0, .int .i64 0] 58) := by show Blk _ _ _ _; rw [HW1.out]; exact HKL1.out.set 1 _
  go_wp2_with fail
  rw [← HW1.out]
  refine (ref_Name S HSZ.out _).mono ?_
  rintro e w2 ⟨⟨b1, rfl, hb1⟩, rfl⟩
  clear HW1 l1 lf1 HKA1 HKL1 HB1
  obtain rfl := hb1.2 HN.out
  clear hb1
  have hcell : w2.cell? ⟨b, off + k, none⟩ = some (.int .u8 (c : Int)) := by rw [← HCB.out]; exact rd_cell_at (HR.out.below HB2.out) k (by omega)
  have l2 : (w2).cell? ⟨w.heap.size + 1, 2, none⟩ = some (.int .i64 0) := HKL2.out.cell 2 rfl
  have lf2 := HKL2.out.free 2
  have HB3 : Hid (Below w.heap.size w (w2.setCell ⟨w.heap.size + 1, 2, none⟩ (.int .i64 (c : Int)))) := HB2.out.setCell (by simp) _
  have HKA3 : Hid (Blk (w2.setCell ⟨w.heap.size + 1, 2, none⟩ (.int .i64 (c : Int))) w.heap.size #[.int .i64 0, .string ⟨#[]⟩, .int .i64 0, .int .i64 0, .int .i64 0, .string ⟨#[]⟩, .bool false, .complex .f64 0 0, .int .i64 0] 58) := HKA2.out.other _ _ (by simp)
  have HKL3 : Hid (Blk (w2.setCell ⟨w.heap.size + 1, 2, none⟩ (.int .i64 (c : Int))) (w.heap.size + 1) #[.int .i64 3, .string S, .int .i64 (c : Int), .int .i64 0, .int .i64 0, .string ⟨#[]⟩, .bool false, .complex .f64 0 0, .int .i64 0] 58) := HKL2.out.set 2 _
  have m2 : ((w2.setCell ⟨w.heap.size + 1, 2, none⟩ (.int .i64 (c : Int)))).cell? ⟨w.heap.size + 1, 2, none⟩ = some (.int .i64 (c : Int)) := HKL3.out.cell 2 rfl
  have mf2 := HKL3.out.free 2
  go_wp2_with fail
  refine (HVC.out _ (HR.out.below HB3.out)).mono ?_
  rintro e w4 ⟨rfl, hb4⟩
  have HB4 : Hid (Below w.heap.size w w4) := HB3.out.trans (hb4.mono HB3.out.size)
  have HKA4 : Hid (Blk w4 w.heap.size #[.int .i64 0, .string ⟨#[]⟩, .int .i64 0, .int .i64 0, .int .i64 0, .string ⟨#[]⟩, .bool false, .complex .f64 0 0, .int .i64 0] 58) := HKA3.out.stay hb4
  have HKL4 : Hid (Blk w4 (w.heap.size + 1) #[.int .i64 3, .string S, .int .i64 (c : Int), .int .i64 0, .int .i64 0, .string ⟨#[]⟩, .bool false, .complex .f64 0 0, .int .i64 0] 58) := HKL3.out.stay hb4
  clear hb4 HKA3 HKL3 HB3 l2 lf2 m2 mf2 hcell HKA2 HKL2 HB2
  obtain ⟨vk, vw, vs, vt, vx, vy⟩ := v
  simp only [Val.cells]
  have HB5 : Hid (Below w.heap.size w (w4.alloc (.cells #[.int .i64 vk, .int .i64 vw, .string vs, .bool vt, .complex .f64 vx vy] 47))) := HB4.out.alloc HB4.out.size _
  have HKA5 : Hid (Blk (w4.alloc (.cells #[.int .i64 vk, .int .i64 vw, .string vs, .bool vt, .complex .f64 vx vy] 47)) w.heap.size #[.int .i64 0, .string ⟨#[]⟩, .int .i64 0, .int .i64 0, .int .i64 0, .string ⟨#[]⟩, .bool false, .complex .f64 0 0, .int .i64 0] 58) := HKA4.out.stay (below_alloc _ _)
  have HKL5 : Hid (Blk (w4.alloc (.cells #[.int .i64 vk, .int .i64 vw, .string vs, .bool vt, .complex .f64 vx vy] 47)) (w.heap.size + 1) #[.int .i64 3, .string S, .int .i64 (c : Int), .int .i64 0, .int .i64 0, .string ⟨#[]⟩, .bool false, .complex .f64 0 0, .int .i64 0] 58) := HKL4.out.stay (below_alloc _ _)
  have HKV5 : Hid (Blk (w4.alloc (.cells #[.int .i64 vk, .int .i64 vw, .string vs, .bool vt, .complex .f64 vx vy] 47)) w4.heap.size #[.int .i64 vk, .int .i64 vw, .string vs, .bool vt, .complex .f64 vx vy] 47) := Blk.new w4 _ _
  have r0 : ((w4.alloc (.cells #[.int .i64 vk, .int .i64 vw, .string vs, .bool vt, .complex .f64 vx vy] 47))).cell? ⟨w.heap.size, 0, none⟩ = some (.int .i64 0) := HKA5.out.cell 0 rfl
  have rf0 := HKA5.out.free 0
  have r1 : ((w4.alloc (.cells #[.int .i64 vk, .int .i64 vw, .string vs, .bool vt, .complex .f64 vx vy] 47))).cell? ⟨w.heap.size, 1, none⟩ = some (.string ⟨#[]⟩) := HKA5.out.cell 1 rfl
  have rf1 := HKA5.out.free 1
  have r2 : ((w4.alloc (.cells #[.int .i64 vk, .int .i64 vw, .string vs, .bool vt, .complex .f64 vx vy] 47))).cell? ⟨w.heap.size, 2, none⟩ = some (.int .i64 0) := HKA5.out.cell 2 rfl
  have rf2 := HKA5.out.free 2
  have r3 : ((w4.alloc (.cells #[.int .i64 vk, .int .i64 vw, .string vs, .bool vt, .complex .f64 vx vy] 47))).cell? ⟨w.heap.size, 3, none⟩ = some (.int .i64 0) := HKA5.out.cell 3 rfl
  have rf3 := HKA5.out.free 3
  have r4 : ((w4.alloc (.cells #[.int .i64 vk, .int .i64 vw, .string vs, .bool vt, .complex .f64 vx vy] 47))).cell? ⟨w.heap.size, 4, none⟩ = some (.int .i64 0) := HKA5.out.cell 4 rfl
  have rf4 := HKA5.out.free 4
  have r5 : ((w4.alloc (.cells #[.int .i64 vk, .int .i64 vw, .string vs, .bool vt, .complex .f64 vx vy] 47))).cell? ⟨w.heap.size, 5, none⟩ = some (.string ⟨#[]⟩) := HKA5.out.cell 5 rfl
  have rf5 := HKA5.out.free 5
  have r6 : ((w4.alloc (.cells #[.int .i64 vk, .int .i64 vw, .string vs, .bool vt, .complex .f64 vx vy] 47))).cell? ⟨w.heap.size, 6, none⟩ = some (.bool false) := HKA5.out.cell 6 rfl
  have rf6 := HKA5.out.free 6
  have r7 : ((w4.alloc (.cells #[.int .i64 vk, .int .i64 vw, .string vs, .bool vt, .complex .f64 vx vy] 47))).cell? ⟨w.heap.size, 7, none⟩ = some (.complex .f64 0 0) := HKA5.out.cell 7 rfl
  have rf7 := HKA5.out.free 7
  have r8 : ((w4.alloc (.cells #[.int .i64 vk, .int .i64 vw, .string vs, .bool vt, .complex .f64 vx vy] 47))).cell? ⟨w.heap.size, 8, none⟩ = some (.int .i64 0) := HKA5.out.cell 8 rfl
  have rf8 := HKA5.out.free 8
  have l0 : ((w4.alloc (.cells #[.int .i64 vk, .int .i64 vw, .string vs, .bool vt, .complex .f64 vx vy] 47))).cell? ⟨w.heap.size + 1, 0, none⟩ = some (.int .i64 3) := HKL5.out.cell 0 rfl
  have lf0 := HKL5.out.free 0
  have l1 : ((w4.alloc (.cells #[.int .i64 vk, .int .i64 vw, .string vs, .bool vt, .complex .f64 vx vy] 47))).cell? ⟨w.heap.size + 1, 1, none⟩ = some (.string S) := HKL5.out.cell 1 rfl
  have lf1 := HKL5.out.free 1
  have l2 : ((w4.alloc (.cells #[.int .i64 vk, .int .i64 vw, .string vs, .bool vt, .complex .f64 vx vy] 47))).cell? ⟨w.heap.size + 1, 2, none⟩ = some (.int .i64 (c : Int)) := HKL5.out.cell 2 rfl
  have lf2 := HKL5.out.free 2
  have l3 : ((w4.alloc (.cells #[.int .i64 vk, .int .i64 vw, .string vs, .bool vt, .complex .f64 vx vy] 47))).cell? ⟨w.heap.size + 1, 3, none⟩ = some (.int .i64 0) := HKL5.out.cell 3 rfl
  have lf3 := HKL5.out.free 3
  have l4 : ((w4.alloc (.cells #[.int .i64 vk, .int .i64 vw, .string vs, .bool vt, .complex .f64 vx vy] 47))).cell? ⟨w.heap.size + 1, 4, none⟩ = some (.int .i64 0) := HKL5.out.cell 4 rfl
  have lf4 := HKL5.out.free 4
  have l5 : ((w4.alloc (.cells #[.int .i64 vk, .int .i64 vw, .string vs, .bool vt, .complex .f64 vx vy] 47))).cell? ⟨w.heap.size + 1, 5, none⟩ = some (.string ⟨#[]⟩) := HKL5.out.cell 5 rfl
  have lf5 := HKL5.out.free 5
  have l6 : ((w4.alloc (.cells #[.int .i64 vk, .int .i64 vw, .string vs, .bool vt, .complex .f64 vx vy] 47))).cell? ⟨w.heap.size + 1, 6, none⟩ = some (.bool false) := HKL5.out.cell 6 rfl
  have lf6 := HKL5.out.free 6
  have l7 : ((w4.alloc (.cells #[.int .i64 vk, .int .i64 vw, .string vs, .bool vt, .complex .f64 vx vy] 47))).cell? ⟨w.heap.size + 1, 7, none⟩ = some (.complex .f64 0 0) := HKL5.out.cell 7 rfl
  have lf7 := HKL5.out.free 7
  have l8 : ((w4.alloc (.cells #[.int .i64 vk, .int .i64 vw, .string vs, .bool vt, .complex .f64 vx vy] 47))).cell? ⟨w.heap.size + 1, 8, none⟩ = some (.int .i64 0) := HKL5.out.cell 8 rfl
  have lf8 := HKL5.out.free 8
  go_wp2
  try simp only [Exit.inBlock, Exit.then]
  refine bodyPost_ret (results_termR rfl (by rfl) (by rfl) (by rfl) (Blk.set9R HKA5.out _ _ _ _ _ _ _ _ _)) rfl ?_
  exact ⟨rfl, (((((((((HB5.out.setCell (Nat.le_refl _) _).setCell (Nat.le_refl _) _).setCell (Nat.le_refl _) _).setCell (Nat.le_refl _) _).setCell (Nat.le_refl _) _).setCell (Nat.le_refl _) _).setCell (Nat.le_refl _) _).setCell (Nat.le_refl _) _).setCell (Nat.le_refl _) _)⟩

set_option maxHeartbeats 4000000 in
theorem some_may (b off : Nat) (len cap : Nat) (bs : List Nat) (p : Nat) (w : World) (hr : Rd w (some ⟨b, off, none⟩) len bs) (S : ByteArray) (k f : Nat) (hct : ∀ W, Rd W (some ⟨b, off, none⟩) len bs → Calls Tryz.prog 39 #[.slice (some ⟨b, off, none⟩) len cap, .int .i64 (p : Int)] W fun e w' => e = .returned (.tuple #[.string S, .int .i64 (k : Int), .int .i64 (f : Int)]) ∧ Below W.heap.size W w') (hf0 : f = 0) (hsz : S.size ≤ maxLen) (hn : nameOk S) (hk : k < len) (hl : len ≤ 9223372036854775000) (c : Nat) (hc : bs.getD k 0 = c) (hc256 : c < 256) (h0 : 3 ≤ c ∧ c ≤ 10) (v : Val) (j g : Nat) (hvc : ∀ W, Rd W (some ⟨b, off, none⟩) len bs → Calls Tryz.prog 41 #[.slice (some ⟨b, off, none⟩) len cap, .int .i64 ((k : Int) + 1)] W fun e w' => e = .returned (.tuple #[.agg v.cells, .int .i64 (j : Int), .int .i64 (g : Int)]) ∧ Below W.heap.size W w') (hg0 : g = 0) (hm : mayB c v.kind = false) :
    Calls Tryz.prog 23 #[.slice (some ⟨b, off, none⟩) len cap, .int .i64 (p : Int)] w fun e w' => e = toldTm (⟨3, S, c, v, 0⟩, 0, 12) ∧ Below w.heap.size w w' := by
  have HSZ : Hid (S.size ≤ maxLen) := hsz
  have HN : Hid (nameOk S) := hn
  clear hsz hn
  have HCB : Hid (bs.getD k 0 = c) := hc
  have hk' : ((k : Int) == (len : Int)) = false := by rw [beq_eq_false_iff_ne]; omega
  have hki : (k : Int) < (len : Int) := by omega
  clear hc
  have k1 : ¬ (c : Int) < 1 := by omega
  have k2 : ¬ (10 : Int) < (c : Int) := by omega
  have k3 : ¬ (c : Int) ≤ 2 := by omega
  have HCC : Hid (1 ≤ c ∧ c ≤ 10) := by constructor <;> omega
  have HVC : Hid (∀ W, Rd W (some ⟨b, off, none⟩) len bs → Calls Tryz.prog 41 #[.slice (some ⟨b, off, none⟩) len cap, .int .i64 ((k : Int) + 1)] W fun e w' => e = .returned (.tuple #[.agg v.cells, .int .i64 (j : Int), .int .i64 (g : Int)]) ∧ Below W.heap.size W w') := hvc
  clear hvc
  subst hg0
  have HMB : Hid (mayB c v.kind = false) := hm
  clear hm
  have hcx : ∀ (a : Addr) (m : Mode) (W : World) (x y : Nat), (store a (.complex .f64 x y) m).run Tryz.prog W = stored Tryz.prog W a (.complex .f64 x y) m := fun a m W x y => run_store _ _ _ _ _ rfl
  have HR : Hid (Rd w (some ⟨b, off, none⟩) len bs) := hr
  have HCT : Hid (∀ W, Rd W (some ⟨b, off, none⟩) len bs → Calls Tryz.prog 39 #[.slice (some ⟨b, off, none⟩) len cap, .int .i64 (p : Int)] W fun e w' => e = .returned (.tuple #[.string S, .int .i64 (k : Int), .int .i64 (f : Int)]) ∧ Below W.heap.size W w') := hct
  clear hr hct
  subst hf0
  go_enter Tryz.func23, Tryz.ntmps23
  go_wp2_with fail
  refine (HCT.out _ (HR.out.below ((below_alloc w _).alloc (by simp) _))).mono ?_
  rintro e w1 ⟨rfl, hb1⟩
  have HB1 : Hid (Below w.heap.size w w1) := ((below_alloc w _).alloc (by simp) _).trans (hb1.mono (by simp; omega))
  have HKA1 : Hid (Blk w1 w.heap.size #[.int .i64 0, .string ⟨#[]⟩, .int .i64 0, .int .i64 0, .int .i64 0, .string ⟨#[]⟩, .bool false, .complex .f64 0 0, .int .i64 0] 58) := ((Blk.new w _ _).stay (below_alloc _ _)).stay hb1
  have HKL1 : Hid (Blk w1 (w.heap.size + 1) #[.int .i64 3, .string ⟨#[]⟩, .int .i64 0, .int .i64 0, .int .i64 0, .string ⟨#[]⟩, .bool false, .complex .f64 0 0, .int .i64 0] 58) := by
    have h := Blk.new (w.alloc (.cells #[.int .i64 0, .string ⟨#[]⟩, .int .i64 0, .int .i64 0, .int .i64 0, .string ⟨#[]⟩, .bool false, .complex .f64 0 0, .int .i64 0] 58)) #[.int .i64 3, .string ⟨#[]⟩, .int .i64 0, .int .i64 0, .int .i64 0, .string ⟨#[]⟩, .bool false, .complex .f64 0 0, .int .i64 0] 58
    have e1 : (w.alloc (.cells #[.int .i64 0, .string ⟨#[]⟩, .int .i64 0, .int .i64 0, .int .i64 0, .string ⟨#[]⟩, .bool false, .complex .f64 0 0, .int .i64 0] 58)).heap.size = w.heap.size + 1 := by simp
    rw [e1] at h
    exact h.stay hb1
  clear hb1
  have l1 : (w1).cell? ⟨w.heap.size + 1, 1, none⟩ = some (.string ⟨#[]⟩) := HKL1.out.cell 1 rfl
  have lf1 := HKL1.out.free 1
  obtain ⟨W1, HW1⟩ : ∃ W1, Hid (W1 = w1.setCell ⟨w.heap.size + 1, 1, none⟩ (.string S)) := ⟨_, rfl⟩
  have HB2 : Hid (Below w.heap.size w W1) := by show Below _ _ _; rw [HW1.out]; exact HB1.out.setCell (by simp) _
  have HKA2 : Hid (Blk W1 w.heap.size #[.int .i64 0, .string ⟨#[]⟩, .int .i64 0, .int .i64 0, .int .i64 0, .string ⟨#[]⟩, .bool false, .complex .f64 0 0, .int .i64 0] 58) := by show Blk _ _ _ _; rw [HW1.out]; exact HKA1.out.other _ _ (by simp)
  have HKL2 : Hid (Blk W1 (w.heap.size + 1) #[.int .i64 3, .string S, .int .i64 0, .int .i64 0, .int .i64 0, .string ⟨#[]⟩, .bool false, .complex .f64 0 0, .int .i64 0] 58) := by show Blk _ _ _ _; rw [HW1.out]; exact HKL1.out.set 1 _
  go_wp2_with fail
  rw [← HW1.out]
  refine (ref_Name S HSZ.out _).mono ?_
  rintro e w2 ⟨⟨b1, rfl, hb1⟩, rfl⟩
  clear HW1 l1 lf1 HKA1 HKL1 HB1
  obtain rfl := hb1.2 HN.out
  clear hb1
  have hcell : w2.cell? ⟨b, off + k, none⟩ = some (.int .u8 (c : Int)) := by rw [← HCB.out]; exact rd_cell_at (HR.out.below HB2.out) k (by omega)
  have l2 : (w2).cell? ⟨w.heap.size + 1, 2, none⟩ = some (.int .i64 0) := HKL2.out.cell 2 rfl
  have lf2 := HKL2.out.free 2
  have HB3 : Hid (Below w.heap.size w (w2.setCell ⟨w.heap.size + 1, 2, none⟩ (.int .i64 (c : Int)))) := HB2.out.setCell (by simp) _
  have HKA3 : Hid (Blk (w2.setCell ⟨w.heap.size + 1, 2, none⟩ (.int .i64 (c : Int))) w.heap.size #[.int .i64 0, .string ⟨#[]⟩, .int .i64 0, .int .i64 0, .int .i64 0, .string ⟨#[]⟩, .bool false, .complex .f64 0 0, .int .i64 0] 58) := HKA2.out.other _ _ (by simp)
  have HKL3 : Hid (Blk (w2.setCell ⟨w.heap.size + 1, 2, none⟩ (.int .i64 (c : Int))) (w.heap.size + 1) #[.int .i64 3, .string S, .int .i64 (c : Int), .int .i64 0, .int .i64 0, .string ⟨#[]⟩, .bool false, .complex .f64 0 0, .int .i64 0] 58) := HKL2.out.set 2 _
  have m2 : ((w2.setCell ⟨w.heap.size + 1, 2, none⟩ (.int .i64 (c : Int)))).cell? ⟨w.heap.size + 1, 2, none⟩ = some (.int .i64 (c : Int)) := HKL3.out.cell 2 rfl
  have mf2 := HKL3.out.free 2
  go_wp2_with fail
  refine (HVC.out _ (HR.out.below HB3.out)).mono ?_
  rintro e w4 ⟨rfl, hb4⟩
  have HB4 : Hid (Below w.heap.size w w4) := HB3.out.trans (hb4.mono HB3.out.size)
  have HKA4 : Hid (Blk w4 w.heap.size #[.int .i64 0, .string ⟨#[]⟩, .int .i64 0, .int .i64 0, .int .i64 0, .string ⟨#[]⟩, .bool false, .complex .f64 0 0, .int .i64 0] 58) := HKA3.out.stay hb4
  have HKL4 : Hid (Blk w4 (w.heap.size + 1) #[.int .i64 3, .string S, .int .i64 (c : Int), .int .i64 0, .int .i64 0, .string ⟨#[]⟩, .bool false, .complex .f64 0 0, .int .i64 0] 58) := HKL3.out.stay hb4
  clear hb4 HKA3 HKL3 HB3 l2 lf2 m2 mf2 hcell HKA2 HKL2 HB2
  obtain ⟨vk, vw, vs, vt, vx, vy⟩ := v
  simp only [Val.cells]
  simp only at HMB
  have HB5 : Hid (Below w.heap.size w (w4.alloc (.cells #[.int .i64 vk, .int .i64 vw, .string vs, .bool vt, .complex .f64 vx vy] 47))) := HB4.out.alloc HB4.out.size _
  have HKA5 : Hid (Blk (w4.alloc (.cells #[.int .i64 vk, .int .i64 vw, .string vs, .bool vt, .complex .f64 vx vy] 47)) w.heap.size #[.int .i64 0, .string ⟨#[]⟩, .int .i64 0, .int .i64 0, .int .i64 0, .string ⟨#[]⟩, .bool false, .complex .f64 0 0, .int .i64 0] 58) := HKA4.out.stay (below_alloc _ _)
  have HKL5 : Hid (Blk (w4.alloc (.cells #[.int .i64 vk, .int .i64 vw, .string vs, .bool vt, .complex .f64 vx vy] 47)) (w.heap.size + 1) #[.int .i64 3, .string S, .int .i64 (c : Int), .int .i64 0, .int .i64 0, .string ⟨#[]⟩, .bool false, .complex .f64 0 0, .int .i64 0] 58) := HKL4.out.stay (below_alloc _ _)
  have HKV5 : Hid (Blk (w4.alloc (.cells #[.int .i64 vk, .int .i64 vw, .string vs, .bool vt, .complex .f64 vx vy] 47)) w4.heap.size #[.int .i64 vk, .int .i64 vw, .string vs, .bool vt, .complex .f64 vx vy] 47) := Blk.new w4 _ _
  have l3 : ((w4.alloc (.cells #[.int .i64 vk, .int .i64 vw, .string vs, .bool vt, .complex .f64 vx vy] 47))).cell? ⟨w.heap.size + 1, 3, none⟩ = some (.int .i64 0) := HKL5.out.cell 3 rfl
  have lf3 := HKL5.out.free 3
  have l4 : ((w4.alloc (.cells #[.int .i64 vk, .int .i64 vw, .string vs, .bool vt, .complex .f64 vx vy] 47))).cell? ⟨w.heap.size + 1, 4, none⟩ = some (.int .i64 0) := HKL5.out.cell 4 rfl
  have lf4 := HKL5.out.free 4
  have l5 : ((w4.alloc (.cells #[.int .i64 vk, .int .i64 vw, .string vs, .bool vt, .complex .f64 vx vy] 47))).cell? ⟨w.heap.size + 1, 5, none⟩ = some (.string ⟨#[]⟩) := HKL5.out.cell 5 rfl
  have lf5 := HKL5.out.free 5
  have l6 : ((w4.alloc (.cells #[.int .i64 vk, .int .i64 vw, .string vs, .bool vt, .complex .f64 vx vy] 47))).cell? ⟨w.heap.size + 1, 6, none⟩ = some (.bool false) := HKL5.out.cell 6 rfl
  have lf6 := HKL5.out.free 6
  have l7 : ((w4.alloc (.cells #[.int .i64 vk, .int .i64 vw, .string vs, .bool vt, .complex .f64 vx vy] 47))).cell? ⟨w.heap.size + 1, 7, none⟩ = some (.complex .f64 0 0) := HKL5.out.cell 7 rfl
  have lf7 := HKL5.out.free 7
  obtain ⟨W6, HW6⟩ : ∃ W6, Hid (W6 = ((((((w4.alloc (.cells #[.int .i64 vk, .int .i64 vw, .string vs, .bool vt, .complex .f64 vx vy] 47)).setCell ⟨w.heap.size + 1, 3, none⟩ (.int .i64 vk)).setCell ⟨w.heap.size + 1, 4, none⟩ (.int .i64 vw)).setCell ⟨w.heap.size + 1, 5, none⟩ (.string vs)).setCell ⟨w.heap.size + 1, 6, none⟩ (.bool vt)).setCell ⟨w.heap.size + 1, 7, none⟩ (.complex .f64 vx vy))) := ⟨_, rfl⟩
  have hgv : w4.heap.size ≠ w.heap.size + 1 := by have := HKL4.out.lt; omega
  have HB6 : Hid (Below w.heap.size w W6) := by show Below _ _ _; rw [HW6.out]; exact (((((HB5.out.setCell (by simp) _).setCell (by simp) _).setCell (by simp) _).setCell (by simp) _).setCell (by simp) _)
  have HKA6 : Hid (Blk W6 w.heap.size #[.int .i64 0, .string ⟨#[]⟩, .int .i64 0, .int .i64 0, .int .i64 0, .string ⟨#[]⟩, .bool false, .complex .f64 0 0, .int .i64 0] 58) := by show Blk _ _ _ _; rw [HW6.out]; exact (HKA5.out.other5R (by omega) _ _ _ _ _)
  have HKL6 : Hid (Blk W6 (w.heap.size + 1) #[.int .i64 3, .string S, .int .i64 (c : Int), .int .i64 vk, .int .i64 vw, .string vs, .bool vt, .complex .f64 vx vy, .int .i64 0] 58) := by show Blk _ _ _ _; rw [HW6.out]; exact HKL5.out.setV3R _ _ _ _ _
  have HKV6 : Hid (Blk W6 w4.heap.size #[.int .i64 vk, .int .i64 vw, .string vs, .bool vt, .complex .f64 vx vy] 47) := by show Blk _ _ _ _; rw [HW6.out]; exact (HKV5.out.other5R hgv _ _ _ _ _)
  have n0 : ((((((w4.alloc (.cells #[.int .i64 vk, .int .i64 vw, .string vs, .bool vt, .complex .f64 vx vy] 47)).setCell ⟨w.heap.size + 1, 3, none⟩ (.int .i64 vk)).setCell ⟨w.heap.size + 1, 4, none⟩ (.int .i64 vw)).setCell ⟨w.heap.size + 1, 5, none⟩ (.string vs)).setCell ⟨w.heap.size + 1, 6, none⟩ (.bool vt)).setCell ⟨w.heap.size + 1, 7, none⟩ (.complex .f64 vx vy)).cell? ⟨w4.heap.size, 0, none⟩ = some (.int .i64 vk) := by rw [← HW6.out]; exact HKV6.out.cell 0 rfl
  have n2 : ((((((w4.alloc (.cells #[.int .i64 vk, .int .i64 vw, .string vs, .bool vt, .complex .f64 vx vy] 47)).setCell ⟨w.heap.size + 1, 3, none⟩ (.int .i64 vk)).setCell ⟨w.heap.size + 1, 4, none⟩ (.int .i64 vw)).setCell ⟨w.heap.size + 1, 5, none⟩ (.string vs)).setCell ⟨w.heap.size + 1, 6, none⟩ (.bool vt)).setCell ⟨w.heap.size + 1, 7, none⟩ (.complex .f64 vx vy)).cell? ⟨w.heap.size + 1, 2, none⟩ = some (.int .i64 (c : Int)) := by rw [← HW6.out]; exact HKL6.out.cell 2 rfl
  go_wp2_with fail
  rw [← HW6.out]
  refine (ref_May c HCC.out vk _).mono ?_
  rw [HMB.out]
  rintro e w6 ⟨rfl, rfl⟩
  clear HW6 n0 n2 hgv HKV5 HKV6 HKA5 HKL5 HB5 HKA4 HKL4 HB4 l3 l4 l5 l6 l7 lf3 lf4 lf5 lf6 lf7
  have r0 : (w6).cell? ⟨w.heap.size, 0, none⟩ = some (.int .i64 0) := HKA6.out.cell 0 rfl
  have rf0 := HKA6.out.free 0
  have r1 : (w6).cell? ⟨w.heap.size, 1, none⟩ = some (.string ⟨#[]⟩) := HKA6.out.cell 1 rfl
  have rf1 := HKA6.out.free 1
  have r2 : (w6).cell? ⟨w.heap.size, 2, none⟩ = some (.int .i64 0) := HKA6.out.cell 2 rfl
  have rf2 := HKA6.out.free 2
  have r3 : (w6).cell? ⟨w.heap.size, 3, none⟩ = some (.int .i64 0) := HKA6.out.cell 3 rfl
  have rf3 := HKA6.out.free 3
  have r4 : (w6).cell? ⟨w.heap.size, 4, none⟩ = some (.int .i64 0) := HKA6.out.cell 4 rfl
  have rf4 := HKA6.out.free 4
  have r5 : (w6).cell? ⟨w.heap.size, 5, none⟩ = some (.string ⟨#[]⟩) := HKA6.out.cell 5 rfl
  have rf5 := HKA6.out.free 5
  have r6 : (w6).cell? ⟨w.heap.size, 6, none⟩ = some (.bool false) := HKA6.out.cell 6 rfl
  have rf6 := HKA6.out.free 6
  have r7 : (w6).cell? ⟨w.heap.size, 7, none⟩ = some (.complex .f64 0 0) := HKA6.out.cell 7 rfl
  have rf7 := HKA6.out.free 7
  have r8 : (w6).cell? ⟨w.heap.size, 8, none⟩ = some (.int .i64 0) := HKA6.out.cell 8 rfl
  have rf8 := HKA6.out.free 8
  have l0 : (w6).cell? ⟨w.heap.size + 1, 0, none⟩ = some (.int .i64 3) := HKL6.out.cell 0 rfl
  have lf0 := HKL6.out.free 0
  have l1 : (w6).cell? ⟨w.heap.size + 1, 1, none⟩ = some (.string S) := HKL6.out.cell 1 rfl
  have lf1 := HKL6.out.free 1
  have l2 : (w6).cell? ⟨w.heap.size + 1, 2, none⟩ = some (.int .i64 (c : Int)) := HKL6.out.cell 2 rfl
  have lf2 := HKL6.out.free 2
  have l3 : (w6).cell? ⟨w.heap.size + 1, 3, none⟩ = some (.int .i64 vk) := HKL6.out.cell 3 rfl
  have lf3 := HKL6.out.free 3
  have l4 : (w6).cell? ⟨w.heap.size + 1, 4, none⟩ = some (.int .i64 vw) := HKL6.out.cell 4 rfl
  have lf4 := HKL6.out.free 4
  have l5 : (w6).cell? ⟨w.heap.size + 1, 5, none⟩ = some (.string vs) := HKL6.out.cell 5 rfl
  have lf5 := HKL6.out.free 5
  have l6 : (w6).cell? ⟨w.heap.size + 1, 6, none⟩ = some (.bool vt) := HKL6.out.cell 6 rfl
  have lf6 := HKL6.out.free 6
  have l7 : (w6).cell? ⟨w.heap.size + 1, 7, none⟩ = some (.complex .f64 vx vy) := HKL6.out.cell 7 rfl
  have lf7 := HKL6.out.free 7
  have l8 : (w6).cell? ⟨w.heap.size + 1, 8, none⟩ = some (.int .i64 0) := HKL6.out.cell 8 rfl
  have lf8 := HKL6.out.free 8
  go_wp2
  try simp only [Exit.inBlock, Exit.then]
  refine bodyPost_ret (results_termR rfl (by rfl) (by rfl) (by rfl) (Blk.set9R HKA6.out _ _ _ _ _ _ _ _ _)) rfl ?_
  exact ⟨rfl, (((((((((HB6.out.setCell (Nat.le_refl _) _).setCell (Nat.le_refl _) _).setCell (Nat.le_refl _) _).setCell (Nat.le_refl _) _).setCell (Nat.le_refl _) _).setCell (Nat.le_refl _) _).setCell (Nat.le_refl _) _).setCell (Nat.le_refl _) _).setCell (Nat.le_refl _) _)⟩

set_option maxHeartbeats 4000000 in
theorem some_plain (b off : Nat) (len cap : Nat) (bs : List Nat) (p : Nat) (w : World) (hr : Rd w (some ⟨b, off, none⟩) len bs) (S : ByteArray) (k f : Nat) (hct : ∀ W, Rd W (some ⟨b, off, none⟩) len bs → Calls Tryz.prog 39 #[.slice (some ⟨b, off, none⟩) len cap, .int .i64 (p : Int)] W fun e w' => e = .returned (.tuple #[.string S, .int .i64 (k : Int), .int .i64 (f : Int)]) ∧ Below W.heap.size W w') (hf0 : f = 0) (hsz : S.size ≤ maxLen) (hn : nameOk S) (hk : k < len) (hl : len ≤ 9223372036854775000) (c : Nat) (hc : bs.getD k 0 = c) (hc256 : c < 256) (h0 : 3 ≤ c ∧ c ≤ 10) (v : Val) (j g : Nat) (hvc : ∀ W, Rd W (some ⟨b, off, none⟩) len bs → Calls Tryz.prog 41 #[.slice (some ⟨b, off, none⟩) len cap, .int .i64 ((k : Int) + 1)] W fun e w' => e = .returned (.tuple #[.agg v.cells, .int .i64 (j : Int), .int .i64 (g : Int)]) ∧ Below W.heap.size W w') (hg0 : g = 0) (hm : mayB c v.kind = true) (h10 : c ≠ 10) :
    Calls Tryz.prog 23 #[.slice (some ⟨b, off, none⟩) len cap, .int .i64 (p : Int)] w fun e w' => e = toldTm (⟨3, S, c, v, 0⟩, j, 0) ∧ Below w.heap.size w w' := by
  have HSZ : Hid (S.size ≤ maxLen) := hsz
  have HN : Hid (nameOk S) := hn
  clear hsz hn
  have HCB : Hid (bs.getD k 0 = c) := hc
  have hk' : ((k : Int) == (len : Int)) = false := by rw [beq_eq_false_iff_ne]; omega
  have hki : (k : Int) < (len : Int) := by omega
  clear hc
  have k1 : ¬ (c : Int) < 1 := by omega
  have k2 : ¬ (10 : Int) < (c : Int) := by omega
  have k3 : ¬ (c : Int) ≤ 2 := by omega
  have HCC : Hid (1 ≤ c ∧ c ≤ 10) := by constructor <;> omega
  have HVC : Hid (∀ W, Rd W (some ⟨b, off, none⟩) len bs → Calls Tryz.prog 41 #[.slice (some ⟨b, off, none⟩) len cap, .int .i64 ((k : Int) + 1)] W fun e w' => e = .returned (.tuple #[.agg v.cells, .int .i64 (j : Int), .int .i64 (g : Int)]) ∧ Below W.heap.size W w') := hvc
  clear hvc
  subst hg0
  have HMB : Hid (mayB c v.kind = true) := hm
  clear hm
  have k10 : ((c : Int) != 10) = true := by rw [bne_iff_ne]; omega
  clear h10
  have hcx : ∀ (a : Addr) (m : Mode) (W : World) (x y : Nat), (store a (.complex .f64 x y) m).run Tryz.prog W = stored Tryz.prog W a (.complex .f64 x y) m := fun a m W x y => run_store _ _ _ _ _ rfl
  have HR : Hid (Rd w (some ⟨b, off, none⟩) len bs) := hr
  have HCT : Hid (∀ W, Rd W (some ⟨b, off, none⟩) len bs → Calls Tryz.prog 39 #[.slice (some ⟨b, off, none⟩) len cap, .int .i64 (p : Int)] W fun e w' => e = .returned (.tuple #[.string S, .int .i64 (k : Int), .int .i64 (f : Int)]) ∧ Below W.heap.size W w') := hct
  clear hr hct
  subst hf0
  go_enter Tryz.func23, Tryz.ntmps23
  go_wp2_with fail
  refine (HCT.out _ (HR.out.below ((below_alloc w _).alloc (by simp) _))).mono ?_
  rintro e w1 ⟨rfl, hb1⟩
  have HB1 : Hid (Below w.heap.size w w1) := ((below_alloc w _).alloc (by simp) _).trans (hb1.mono (by simp; omega))
  have HKA1 : Hid (Blk w1 w.heap.size #[.int .i64 0, .string ⟨#[]⟩, .int .i64 0, .int .i64 0, .int .i64 0, .string ⟨#[]⟩, .bool false, .complex .f64 0 0, .int .i64 0] 58) := ((Blk.new w _ _).stay (below_alloc _ _)).stay hb1
  have HKL1 : Hid (Blk w1 (w.heap.size + 1) #[.int .i64 3, .string ⟨#[]⟩, .int .i64 0, .int .i64 0, .int .i64 0, .string ⟨#[]⟩, .bool false, .complex .f64 0 0, .int .i64 0] 58) := by
    have h := Blk.new (w.alloc (.cells #[.int .i64 0, .string ⟨#[]⟩, .int .i64 0, .int .i64 0, .int .i64 0, .string ⟨#[]⟩, .bool false, .complex .f64 0 0, .int .i64 0] 58)) #[.int .i64 3, .string ⟨#[]⟩, .int .i64 0, .int .i64 0, .int .i64 0, .string ⟨#[]⟩, .bool false, .complex .f64 0 0, .int .i64 0] 58
    have e1 : (w.alloc (.cells #[.int .i64 0, .string ⟨#[]⟩, .int .i64 0, .int .i64 0, .int .i64 0, .string ⟨#[]⟩, .bool false, .complex .f64 0 0, .int .i64 0] 58)).heap.size = w.heap.size + 1 := by simp
    rw [e1] at h
    exact h.stay hb1
  clear hb1
  have l1 : (w1).cell? ⟨w.heap.size + 1, 1, none⟩ = some (.string ⟨#[]⟩) := HKL1.out.cell 1 rfl
  have lf1 := HKL1.out.free 1
  obtain ⟨W1, HW1⟩ : ∃ W1, Hid (W1 = w1.setCell ⟨w.heap.size + 1, 1, none⟩ (.string S)) := ⟨_, rfl⟩
  have HB2 : Hid (Below w.heap.size w W1) := by show Below _ _ _; rw [HW1.out]; exact HB1.out.setCell (by simp) _
  have HKA2 : Hid (Blk W1 w.heap.size #[.int .i64 0, .string ⟨#[]⟩, .int .i64 0, .int .i64 0, .int .i64 0, .string ⟨#[]⟩, .bool false, .complex .f64 0 0, .int .i64 0] 58) := by show Blk _ _ _ _; rw [HW1.out]; exact HKA1.out.other _ _ (by simp)
  have HKL2 : Hid (Blk W1 (w.heap.size + 1) #[.int .i64 3, .string S, .int .i64 0, .int .i64 0, .int .i64 0, .string ⟨#[]⟩, .bool false, .complex .f64 0 0, .int .i64 0] 58) := by show Blk _ _ _ _; rw [HW1.out]; exact HKL1.out.set 1 _
  go_wp2_with fail
  rw [← HW1.out]
  refine (ref_Name S HSZ.out _).mono ?_
  rintro e w2 ⟨⟨b1, rfl, hb1⟩, rfl⟩
  clear HW1 l1 lf1 HKA1 HKL1 HB1
  obtain rfl := hb1.2 HN.out
  clear hb1
  have hcell : w2.cell? ⟨b, off + k, none⟩ = some (.int .u8 (c : Int)) := by rw [← HCB.out]; exact rd_cell_at (HR.out.below HB2.out) k (by omega)
  have l2 : (w2).cell? ⟨w.heap.size + 1, 2, none⟩ = some (.int .i64 0) := HKL2.out.cell 2 rfl
  have lf2 := HKL2.out.free 2
  have HB3 : Hid (Below w.heap.size w (w2.setCell ⟨w.heap.size + 1, 2, none⟩ (.int .i64 (c : Int)))) := HB2.out.setCell (by simp) _
  have HKA3 : Hid (Blk (w2.setCell ⟨w.heap.size + 1, 2, none⟩ (.int .i64 (c : Int))) w.heap.size #[.int .i64 0, .string ⟨#[]⟩, .int .i64 0, .int .i64 0, .int .i64 0, .string ⟨#[]⟩, .bool false, .complex .f64 0 0, .int .i64 0] 58) := HKA2.out.other _ _ (by simp)
  have HKL3 : Hid (Blk (w2.setCell ⟨w.heap.size + 1, 2, none⟩ (.int .i64 (c : Int))) (w.heap.size + 1) #[.int .i64 3, .string S, .int .i64 (c : Int), .int .i64 0, .int .i64 0, .string ⟨#[]⟩, .bool false, .complex .f64 0 0, .int .i64 0] 58) := HKL2.out.set 2 _
  have m2 : ((w2.setCell ⟨w.heap.size + 1, 2, none⟩ (.int .i64 (c : Int)))).cell? ⟨w.heap.size + 1, 2, none⟩ = some (.int .i64 (c : Int)) := HKL3.out.cell 2 rfl
  have mf2 := HKL3.out.free 2
  go_wp2_with fail
  refine (HVC.out _ (HR.out.below HB3.out)).mono ?_
  rintro e w4 ⟨rfl, hb4⟩
  have HB4 : Hid (Below w.heap.size w w4) := HB3.out.trans (hb4.mono HB3.out.size)
  have HKA4 : Hid (Blk w4 w.heap.size #[.int .i64 0, .string ⟨#[]⟩, .int .i64 0, .int .i64 0, .int .i64 0, .string ⟨#[]⟩, .bool false, .complex .f64 0 0, .int .i64 0] 58) := HKA3.out.stay hb4
  have HKL4 : Hid (Blk w4 (w.heap.size + 1) #[.int .i64 3, .string S, .int .i64 (c : Int), .int .i64 0, .int .i64 0, .string ⟨#[]⟩, .bool false, .complex .f64 0 0, .int .i64 0] 58) := HKL3.out.stay hb4
  clear hb4 HKA3 HKL3 HB3 l2 lf2 m2 mf2 hcell HKA2 HKL2 HB2
  obtain ⟨vk, vw, vs, vt, vx, vy⟩ := v
  simp only [Val.cells]
  simp only at HMB
  have HB5 : Hid (Below w.heap.size w (w4.alloc (.cells #[.int .i64 vk, .int .i64 vw, .string vs, .bool vt, .complex .f64 vx vy] 47))) := HB4.out.alloc HB4.out.size _
  have HKA5 : Hid (Blk (w4.alloc (.cells #[.int .i64 vk, .int .i64 vw, .string vs, .bool vt, .complex .f64 vx vy] 47)) w.heap.size #[.int .i64 0, .string ⟨#[]⟩, .int .i64 0, .int .i64 0, .int .i64 0, .string ⟨#[]⟩, .bool false, .complex .f64 0 0, .int .i64 0] 58) := HKA4.out.stay (below_alloc _ _)
  have HKL5 : Hid (Blk (w4.alloc (.cells #[.int .i64 vk, .int .i64 vw, .string vs, .bool vt, .complex .f64 vx vy] 47)) (w.heap.size + 1) #[.int .i64 3, .string S, .int .i64 (c : Int), .int .i64 0, .int .i64 0, .string ⟨#[]⟩, .bool false, .complex .f64 0 0, .int .i64 0] 58) := HKL4.out.stay (below_alloc _ _)
  have HKV5 : Hid (Blk (w4.alloc (.cells #[.int .i64 vk, .int .i64 vw, .string vs, .bool vt, .complex .f64 vx vy] 47)) w4.heap.size #[.int .i64 vk, .int .i64 vw, .string vs, .bool vt, .complex .f64 vx vy] 47) := Blk.new w4 _ _
  have l3 : ((w4.alloc (.cells #[.int .i64 vk, .int .i64 vw, .string vs, .bool vt, .complex .f64 vx vy] 47))).cell? ⟨w.heap.size + 1, 3, none⟩ = some (.int .i64 0) := HKL5.out.cell 3 rfl
  have lf3 := HKL5.out.free 3
  have l4 : ((w4.alloc (.cells #[.int .i64 vk, .int .i64 vw, .string vs, .bool vt, .complex .f64 vx vy] 47))).cell? ⟨w.heap.size + 1, 4, none⟩ = some (.int .i64 0) := HKL5.out.cell 4 rfl
  have lf4 := HKL5.out.free 4
  have l5 : ((w4.alloc (.cells #[.int .i64 vk, .int .i64 vw, .string vs, .bool vt, .complex .f64 vx vy] 47))).cell? ⟨w.heap.size + 1, 5, none⟩ = some (.string ⟨#[]⟩) := HKL5.out.cell 5 rfl
  have lf5 := HKL5.out.free 5
  have l6 : ((w4.alloc (.cells #[.int .i64 vk, .int .i64 vw, .string vs, .bool vt, .complex .f64 vx vy] 47))).cell? ⟨w.heap.size + 1, 6, none⟩ = some (.bool false) := HKL5.out.cell 6 rfl
  have lf6 := HKL5.out.free 6
  have l7 : ((w4.alloc (.cells #[.int .i64 vk, .int .i64 vw, .string vs, .bool vt, .complex .f64 vx vy] 47))).cell? ⟨w.heap.size + 1, 7, none⟩ = some (.complex .f64 0 0) := HKL5.out.cell 7 rfl
  have lf7 := HKL5.out.free 7
  obtain ⟨W6, HW6⟩ : ∃ W6, Hid (W6 = ((((((w4.alloc (.cells #[.int .i64 vk, .int .i64 vw, .string vs, .bool vt, .complex .f64 vx vy] 47)).setCell ⟨w.heap.size + 1, 3, none⟩ (.int .i64 vk)).setCell ⟨w.heap.size + 1, 4, none⟩ (.int .i64 vw)).setCell ⟨w.heap.size + 1, 5, none⟩ (.string vs)).setCell ⟨w.heap.size + 1, 6, none⟩ (.bool vt)).setCell ⟨w.heap.size + 1, 7, none⟩ (.complex .f64 vx vy))) := ⟨_, rfl⟩
  have hgv : w4.heap.size ≠ w.heap.size + 1 := by have := HKL4.out.lt; omega
  have HB6 : Hid (Below w.heap.size w W6) := by show Below _ _ _; rw [HW6.out]; exact (((((HB5.out.setCell (by simp) _).setCell (by simp) _).setCell (by simp) _).setCell (by simp) _).setCell (by simp) _)
  have HKA6 : Hid (Blk W6 w.heap.size #[.int .i64 0, .string ⟨#[]⟩, .int .i64 0, .int .i64 0, .int .i64 0, .string ⟨#[]⟩, .bool false, .complex .f64 0 0, .int .i64 0] 58) := by show Blk _ _ _ _; rw [HW6.out]; exact (HKA5.out.other5R (by omega) _ _ _ _ _)
  have HKL6 : Hid (Blk W6 (w.heap.size + 1) #[.int .i64 3, .string S, .int .i64 (c : Int), .int .i64 vk, .int .i64 vw, .string vs, .bool vt, .complex .f64 vx vy, .int .i64 0] 58) := by show Blk _ _ _ _; rw [HW6.out]; exact HKL5.out.setV3R _ _ _ _ _
  have HKV6 : Hid (Blk W6 w4.heap.size #[.int .i64 vk, .int .i64 vw, .string vs, .bool vt, .complex .f64 vx vy] 47) := by show Blk _ _ _ _; rw [HW6.out]; exact (HKV5.out.other5R hgv _ _ _ _ _)
  have n0 : ((((((w4.alloc (.cells #[.int .i64 vk, .int .i64 vw, .string vs, .bool vt, .complex .f64 vx vy] 47)).setCell ⟨w.heap.size + 1, 3, none⟩ (.int .i64 vk)).setCell ⟨w.heap.size + 1, 4, none⟩ (.int .i64 vw)).setCell ⟨w.heap.size + 1, 5, none⟩ (.string vs)).setCell ⟨w.heap.size + 1, 6, none⟩ (.bool vt)).setCell ⟨w.heap.size + 1, 7, none⟩ (.complex .f64 vx vy)).cell? ⟨w4.heap.size, 0, none⟩ = some (.int .i64 vk) := by rw [← HW6.out]; exact HKV6.out.cell 0 rfl
  have n2 : ((((((w4.alloc (.cells #[.int .i64 vk, .int .i64 vw, .string vs, .bool vt, .complex .f64 vx vy] 47)).setCell ⟨w.heap.size + 1, 3, none⟩ (.int .i64 vk)).setCell ⟨w.heap.size + 1, 4, none⟩ (.int .i64 vw)).setCell ⟨w.heap.size + 1, 5, none⟩ (.string vs)).setCell ⟨w.heap.size + 1, 6, none⟩ (.bool vt)).setCell ⟨w.heap.size + 1, 7, none⟩ (.complex .f64 vx vy)).cell? ⟨w.heap.size + 1, 2, none⟩ = some (.int .i64 (c : Int)) := by rw [← HW6.out]; exact HKL6.out.cell 2 rfl
  go_wp2_with fail
  rw [← HW6.out]
  refine (ref_May c HCC.out vk _).mono ?_
  rw [HMB.out]
  rintro e w6 ⟨rfl, rfl⟩
  clear HW6 n0 n2 hgv HKV5 HKV6 HKA5 HKL5 HB5 HKA4 HKL4 HB4 l3 l4 l5 l6 l7 lf3 lf4 lf5 lf6 lf7
  have r0 : (w6).cell? ⟨w.heap.size, 0, none⟩ = some (.int .i64 0) := HKA6.out.cell 0 rfl
  have rf0 := HKA6.out.free 0
  have r1 : (w6).cell? ⟨w.heap.size, 1, none⟩ = some (.string ⟨#[]⟩) := HKA6.out.cell 1 rfl
  have rf1 := HKA6.out.free 1
  have r2 : (w6).cell? ⟨w.heap.size, 2, none⟩ = some (.int .i64 0) := HKA6.out.cell 2 rfl
  have rf2 := HKA6.out.free 2
  have r3 : (w6).cell? ⟨w.heap.size, 3, none⟩ = some (.int .i64 0) := HKA6.out.cell 3 rfl
  have rf3 := HKA6.out.free 3
  have r4 : (w6).cell? ⟨w.heap.size, 4, none⟩ = some (.int .i64 0) := HKA6.out.cell 4 rfl
  have rf4 := HKA6.out.free 4
  have r5 : (w6).cell? ⟨w.heap.size, 5, none⟩ = some (.string ⟨#[]⟩) := HKA6.out.cell 5 rfl
  have rf5 := HKA6.out.free 5
  have r6 : (w6).cell? ⟨w.heap.size, 6, none⟩ = some (.bool false) := HKA6.out.cell 6 rfl
  have rf6 := HKA6.out.free 6
  have r7 : (w6).cell? ⟨w.heap.size, 7, none⟩ = some (.complex .f64 0 0) := HKA6.out.cell 7 rfl
  have rf7 := HKA6.out.free 7
  have r8 : (w6).cell? ⟨w.heap.size, 8, none⟩ = some (.int .i64 0) := HKA6.out.cell 8 rfl
  have rf8 := HKA6.out.free 8
  have l0 : (w6).cell? ⟨w.heap.size + 1, 0, none⟩ = some (.int .i64 3) := HKL6.out.cell 0 rfl
  have lf0 := HKL6.out.free 0
  have l1 : (w6).cell? ⟨w.heap.size + 1, 1, none⟩ = some (.string S) := HKL6.out.cell 1 rfl
  have lf1 := HKL6.out.free 1
  have l2 : (w6).cell? ⟨w.heap.size + 1, 2, none⟩ = some (.int .i64 (c : Int)) := HKL6.out.cell 2 rfl
  have lf2 := HKL6.out.free 2
  have l3 : (w6).cell? ⟨w.heap.size + 1, 3, none⟩ = some (.int .i64 vk) := HKL6.out.cell 3 rfl
  have lf3 := HKL6.out.free 3
  have l4 : (w6).cell? ⟨w.heap.size + 1, 4, none⟩ = some (.int .i64 vw) := HKL6.out.cell 4 rfl
  have lf4 := HKL6.out.free 4
  have l5 : (w6).cell? ⟨w.heap.size + 1, 5, none⟩ = some (.string vs) := HKL6.out.cell 5 rfl
  have lf5 := HKL6.out.free 5
  have l6 : (w6).cell? ⟨w.heap.size + 1, 6, none⟩ = some (.bool vt) := HKL6.out.cell 6 rfl
  have lf6 := HKL6.out.free 6
  have l7 : (w6).cell? ⟨w.heap.size + 1, 7, none⟩ = some (.complex .f64 vx vy) := HKL6.out.cell 7 rfl
  have lf7 := HKL6.out.free 7
  have l8 : (w6).cell? ⟨w.heap.size + 1, 8, none⟩ = some (.int .i64 0) := HKL6.out.cell 8 rfl
  have lf8 := HKL6.out.free 8
  go_wp2
  try simp only [Exit.inBlock, Exit.then]
  refine bodyPost_ret (results_termR rfl (by rfl) (by rfl) (by rfl) (Blk.set9R HKA6.out _ _ _ _ _ _ _ _ _)) rfl ?_
  exact ⟨rfl, (((((((((HB6.out.setCell (Nat.le_refl _) _).setCell (Nat.le_refl _) _).setCell (Nat.le_refl _) _).setCell (Nat.le_refl _) _).setCell (Nat.le_refl _) _).setCell (Nat.le_refl _) _).setCell (Nat.le_refl _) _).setCell (Nat.le_refl _) _).setCell (Nat.le_refl _) _)⟩
end Go.Proofs.YtfmpfjpcigdeoabGreatDoor
/- The reference's some: an atom's radius. -/
namespace Go.Proofs.YtfmpfjpcigdeoabGreatDoor
set_option maxRecDepth 100000
open Go.RowKit

set_option maxHeartbeats 4000000 in
theorem some_radius (b off : Nat) (len cap : Nat) (bs : List Nat) (p : Nat) (w : World) (hr : Rd w (some ⟨b, off, none⟩) len bs) (S : ByteArray) (k f : Nat) (hct : ∀ W, Rd W (some ⟨b, off, none⟩) len bs → Calls Tryz.prog 39 #[.slice (some ⟨b, off, none⟩) len cap, .int .i64 (p : Int)] W fun e w' => e = .returned (.tuple #[.string S, .int .i64 (k : Int), .int .i64 (f : Int)]) ∧ Below W.heap.size W w') (hf0 : f = 0) (hsz : S.size ≤ maxLen) (hn : nameOk S) (hk : k < len) (hl : len ≤ 9223372036854775000) (c : Nat) (hc : bs.getD k 0 = c) (hc256 : c < 256) (h0 : 3 ≤ c ∧ c ≤ 10) (v : Val) (j g : Nat) (hvc : ∀ W, Rd W (some ⟨b, off, none⟩) len bs → Calls Tryz.prog 41 #[.slice (some ⟨b, off, none⟩) len cap, .int .i64 ((k : Int) + 1)] W fun e w' => e = .returned (.tuple #[.agg v.cells, .int .i64 (j : Int), .int .i64 (g : Int)]) ∧ Below W.heap.size W w') (hg0 : g = 0) (hm : mayB c v.kind = true) (h10 : c = 10) (n i g2 : Nat) (huc : ∀ W, Rd W (some ⟨b, off, none⟩) len bs → Calls Tryz.prog 22 #[.slice (some ⟨b, off, none⟩) len cap, .int .i64 (j : Int)] W fun e w' => e = .returned (.tuple #[.int .u64 (n : Int), .int .i64 (i : Int), .int .i64 (g2 : Int)]) ∧ w' = W) (hg2 : g2 ≠ 0) :
    Calls Tryz.prog 23 #[.slice (some ⟨b, off, none⟩) len cap, .int .i64 (p : Int)] w fun e w' => e = toldTm (⟨3, S, c, v, 0⟩, 0, g2) ∧ Below w.heap.size w w' := by
  have HSZ : Hid (S.size ≤ maxLen) := hsz
  have HN : Hid (nameOk S) := hn
  clear hsz hn
  have HCB : Hid (bs.getD k 0 = c) := hc
  have hk' : ((k : Int) == (len : Int)) = false := by rw [beq_eq_false_iff_ne]; omega
  have hki : (k : Int) < (len : Int) := by omega
  clear hc
  have k1 : ¬ (c : Int) < 1 := by omega
  have k2 : ¬ (10 : Int) < (c : Int) := by omega
  have k3 : ¬ (c : Int) ≤ 2 := by omega
  have HCC : Hid (1 ≤ c ∧ c ≤ 10) := by constructor <;> omega
  have HVC : Hid (∀ W, Rd W (some ⟨b, off, none⟩) len bs → Calls Tryz.prog 41 #[.slice (some ⟨b, off, none⟩) len cap, .int .i64 ((k : Int) + 1)] W fun e w' => e = .returned (.tuple #[.agg v.cells, .int .i64 (j : Int), .int .i64 (g : Int)]) ∧ Below W.heap.size W w') := hvc
  clear hvc
  subst hg0
  have HMB : Hid (mayB c v.kind = true) := hm
  clear hm
  have k10 : ((c : Int) != 10) = false := by rw [h10]; rfl
  have HUC : Hid (∀ W, Rd W (some ⟨b, off, none⟩) len bs → Calls Tryz.prog 22 #[.slice (some ⟨b, off, none⟩) len cap, .int .i64 (j : Int)] W fun e w' => e = .returned (.tuple #[.int .u64 (n : Int), .int .i64 (i : Int), .int .i64 (g2 : Int)]) ∧ w' = W) := huc
  clear huc h10
  have hg2' : (g2 : Int) ≠ 0 := by omega
  clear hg2
  have hcx : ∀ (a : Addr) (m : Mode) (W : World) (x y : Nat), (store a (.complex .f64 x y) m).run Tryz.prog W = stored Tryz.prog W a (.complex .f64 x y) m := fun a m W x y => run_store _ _ _ _ _ rfl
  have HR : Hid (Rd w (some ⟨b, off, none⟩) len bs) := hr
  have HCT : Hid (∀ W, Rd W (some ⟨b, off, none⟩) len bs → Calls Tryz.prog 39 #[.slice (some ⟨b, off, none⟩) len cap, .int .i64 (p : Int)] W fun e w' => e = .returned (.tuple #[.string S, .int .i64 (k : Int), .int .i64 (f : Int)]) ∧ Below W.heap.size W w') := hct
  clear hr hct
  subst hf0
  go_enter Tryz.func23, Tryz.ntmps23
  go_wp2_with fail
  refine (HCT.out _ (HR.out.below ((below_alloc w _).alloc (by simp) _))).mono ?_
  rintro e w1 ⟨rfl, hb1⟩
  have HB1 : Hid (Below w.heap.size w w1) := ((below_alloc w _).alloc (by simp) _).trans (hb1.mono (by simp; omega))
  have HKA1 : Hid (Blk w1 w.heap.size #[.int .i64 0, .string ⟨#[]⟩, .int .i64 0, .int .i64 0, .int .i64 0, .string ⟨#[]⟩, .bool false, .complex .f64 0 0, .int .i64 0] 58) := ((Blk.new w _ _).stay (below_alloc _ _)).stay hb1
  have HKL1 : Hid (Blk w1 (w.heap.size + 1) #[.int .i64 3, .string ⟨#[]⟩, .int .i64 0, .int .i64 0, .int .i64 0, .string ⟨#[]⟩, .bool false, .complex .f64 0 0, .int .i64 0] 58) := by
    have h := Blk.new (w.alloc (.cells #[.int .i64 0, .string ⟨#[]⟩, .int .i64 0, .int .i64 0, .int .i64 0, .string ⟨#[]⟩, .bool false, .complex .f64 0 0, .int .i64 0] 58)) #[.int .i64 3, .string ⟨#[]⟩, .int .i64 0, .int .i64 0, .int .i64 0, .string ⟨#[]⟩, .bool false, .complex .f64 0 0, .int .i64 0] 58
    have e1 : (w.alloc (.cells #[.int .i64 0, .string ⟨#[]⟩, .int .i64 0, .int .i64 0, .int .i64 0, .string ⟨#[]⟩, .bool false, .complex .f64 0 0, .int .i64 0] 58)).heap.size = w.heap.size + 1 := by simp
    rw [e1] at h
    exact h.stay hb1
  clear hb1
  have l1 : (w1).cell? ⟨w.heap.size + 1, 1, none⟩ = some (.string ⟨#[]⟩) := HKL1.out.cell 1 rfl
  have lf1 := HKL1.out.free 1
  obtain ⟨W1, HW1⟩ : ∃ W1, Hid (W1 = w1.setCell ⟨w.heap.size + 1, 1, none⟩ (.string S)) := ⟨_, rfl⟩
  have HB2 : Hid (Below w.heap.size w W1) := by show Below _ _ _; rw [HW1.out]; exact HB1.out.setCell (by simp) _
  have HKA2 : Hid (Blk W1 w.heap.size #[.int .i64 0, .string ⟨#[]⟩, .int .i64 0, .int .i64 0, .int .i64 0, .string ⟨#[]⟩, .bool false, .complex .f64 0 0, .int .i64 0] 58) := by show Blk _ _ _ _; rw [HW1.out]; exact HKA1.out.other _ _ (by simp)
  have HKL2 : Hid (Blk W1 (w.heap.size + 1) #[.int .i64 3, .string S, .int .i64 0, .int .i64 0, .int .i64 0, .string ⟨#[]⟩, .bool false, .complex .f64 0 0, .int .i64 0] 58) := by show Blk _ _ _ _; rw [HW1.out]; exact HKL1.out.set 1 _
  go_wp2_with fail
  rw [← HW1.out]
  refine (ref_Name S HSZ.out _).mono ?_
  rintro e w2 ⟨⟨b1, rfl, hb1⟩, rfl⟩
  clear HW1 l1 lf1 HKA1 HKL1 HB1
  obtain rfl := hb1.2 HN.out
  clear hb1
  have hcell : w2.cell? ⟨b, off + k, none⟩ = some (.int .u8 (c : Int)) := by rw [← HCB.out]; exact rd_cell_at (HR.out.below HB2.out) k (by omega)
  have l2 : (w2).cell? ⟨w.heap.size + 1, 2, none⟩ = some (.int .i64 0) := HKL2.out.cell 2 rfl
  have lf2 := HKL2.out.free 2
  have HB3 : Hid (Below w.heap.size w (w2.setCell ⟨w.heap.size + 1, 2, none⟩ (.int .i64 (c : Int)))) := HB2.out.setCell (by simp) _
  have HKA3 : Hid (Blk (w2.setCell ⟨w.heap.size + 1, 2, none⟩ (.int .i64 (c : Int))) w.heap.size #[.int .i64 0, .string ⟨#[]⟩, .int .i64 0, .int .i64 0, .int .i64 0, .string ⟨#[]⟩, .bool false, .complex .f64 0 0, .int .i64 0] 58) := HKA2.out.other _ _ (by simp)
  have HKL3 : Hid (Blk (w2.setCell ⟨w.heap.size + 1, 2, none⟩ (.int .i64 (c : Int))) (w.heap.size + 1) #[.int .i64 3, .string S, .int .i64 (c : Int), .int .i64 0, .int .i64 0, .string ⟨#[]⟩, .bool false, .complex .f64 0 0, .int .i64 0] 58) := HKL2.out.set 2 _
  have m2 : ((w2.setCell ⟨w.heap.size + 1, 2, none⟩ (.int .i64 (c : Int)))).cell? ⟨w.heap.size + 1, 2, none⟩ = some (.int .i64 (c : Int)) := HKL3.out.cell 2 rfl
  have mf2 := HKL3.out.free 2
  go_wp2_with fail
  refine (HVC.out _ (HR.out.below HB3.out)).mono ?_
  rintro e w4 ⟨rfl, hb4⟩
  have HB4 : Hid (Below w.heap.size w w4) := HB3.out.trans (hb4.mono HB3.out.size)
  have HKA4 : Hid (Blk w4 w.heap.size #[.int .i64 0, .string ⟨#[]⟩, .int .i64 0, .int .i64 0, .int .i64 0, .string ⟨#[]⟩, .bool false, .complex .f64 0 0, .int .i64 0] 58) := HKA3.out.stay hb4
  have HKL4 : Hid (Blk w4 (w.heap.size + 1) #[.int .i64 3, .string S, .int .i64 (c : Int), .int .i64 0, .int .i64 0, .string ⟨#[]⟩, .bool false, .complex .f64 0 0, .int .i64 0] 58) := HKL3.out.stay hb4
  clear hb4 HKA3 HKL3 HB3 l2 lf2 m2 mf2 hcell HKA2 HKL2 HB2
  obtain ⟨vk, vw, vs, vt, vx, vy⟩ := v
  simp only [Val.cells]
  simp only at HMB
  have HB5 : Hid (Below w.heap.size w (w4.alloc (.cells #[.int .i64 vk, .int .i64 vw, .string vs, .bool vt, .complex .f64 vx vy] 47))) := HB4.out.alloc HB4.out.size _
  have HKA5 : Hid (Blk (w4.alloc (.cells #[.int .i64 vk, .int .i64 vw, .string vs, .bool vt, .complex .f64 vx vy] 47)) w.heap.size #[.int .i64 0, .string ⟨#[]⟩, .int .i64 0, .int .i64 0, .int .i64 0, .string ⟨#[]⟩, .bool false, .complex .f64 0 0, .int .i64 0] 58) := HKA4.out.stay (below_alloc _ _)
  have HKL5 : Hid (Blk (w4.alloc (.cells #[.int .i64 vk, .int .i64 vw, .string vs, .bool vt, .complex .f64 vx vy] 47)) (w.heap.size + 1) #[.int .i64 3, .string S, .int .i64 (c : Int), .int .i64 0, .int .i64 0, .string ⟨#[]⟩, .bool false, .complex .f64 0 0, .int .i64 0] 58) := HKL4.out.stay (below_alloc _ _)
  have HKV5 : Hid (Blk (w4.alloc (.cells #[.int .i64 vk, .int .i64 vw, .string vs, .bool vt, .complex .f64 vx vy] 47)) w4.heap.size #[.int .i64 vk, .int .i64 vw, .string vs, .bool vt, .complex .f64 vx vy] 47) := Blk.new w4 _ _
  have l3 : ((w4.alloc (.cells #[.int .i64 vk, .int .i64 vw, .string vs, .bool vt, .complex .f64 vx vy] 47))).cell? ⟨w.heap.size + 1, 3, none⟩ = some (.int .i64 0) := HKL5.out.cell 3 rfl
  have lf3 := HKL5.out.free 3
  have l4 : ((w4.alloc (.cells #[.int .i64 vk, .int .i64 vw, .string vs, .bool vt, .complex .f64 vx vy] 47))).cell? ⟨w.heap.size + 1, 4, none⟩ = some (.int .i64 0) := HKL5.out.cell 4 rfl
  have lf4 := HKL5.out.free 4
  have l5 : ((w4.alloc (.cells #[.int .i64 vk, .int .i64 vw, .string vs, .bool vt, .complex .f64 vx vy] 47))).cell? ⟨w.heap.size + 1, 5, none⟩ = some (.string ⟨#[]⟩) := HKL5.out.cell 5 rfl
  have lf5 := HKL5.out.free 5
  have l6 : ((w4.alloc (.cells #[.int .i64 vk, .int .i64 vw, .string vs, .bool vt, .complex .f64 vx vy] 47))).cell? ⟨w.heap.size + 1, 6, none⟩ = some (.bool false) := HKL5.out.cell 6 rfl
  have lf6 := HKL5.out.free 6
  have l7 : ((w4.alloc (.cells #[.int .i64 vk, .int .i64 vw, .string vs, .bool vt, .complex .f64 vx vy] 47))).cell? ⟨w.heap.size + 1, 7, none⟩ = some (.complex .f64 0 0) := HKL5.out.cell 7 rfl
  have lf7 := HKL5.out.free 7
  obtain ⟨W6, HW6⟩ : ∃ W6, Hid (W6 = ((((((w4.alloc (.cells #[.int .i64 vk, .int .i64 vw, .string vs, .bool vt, .complex .f64 vx vy] 47)).setCell ⟨w.heap.size + 1, 3, none⟩ (.int .i64 vk)).setCell ⟨w.heap.size + 1, 4, none⟩ (.int .i64 vw)).setCell ⟨w.heap.size + 1, 5, none⟩ (.string vs)).setCell ⟨w.heap.size + 1, 6, none⟩ (.bool vt)).setCell ⟨w.heap.size + 1, 7, none⟩ (.complex .f64 vx vy))) := ⟨_, rfl⟩
  have hgv : w4.heap.size ≠ w.heap.size + 1 := by have := HKL4.out.lt; omega
  have HB6 : Hid (Below w.heap.size w W6) := by show Below _ _ _; rw [HW6.out]; exact (((((HB5.out.setCell (by simp) _).setCell (by simp) _).setCell (by simp) _).setCell (by simp) _).setCell (by simp) _)
  have HKA6 : Hid (Blk W6 w.heap.size #[.int .i64 0, .string ⟨#[]⟩, .int .i64 0, .int .i64 0, .int .i64 0, .string ⟨#[]⟩, .bool false, .complex .f64 0 0, .int .i64 0] 58) := by show Blk _ _ _ _; rw [HW6.out]; exact (HKA5.out.other5R (by omega) _ _ _ _ _)
  have HKL6 : Hid (Blk W6 (w.heap.size + 1) #[.int .i64 3, .string S, .int .i64 (c : Int), .int .i64 vk, .int .i64 vw, .string vs, .bool vt, .complex .f64 vx vy, .int .i64 0] 58) := by show Blk _ _ _ _; rw [HW6.out]; exact HKL5.out.setV3R _ _ _ _ _
  have HKV6 : Hid (Blk W6 w4.heap.size #[.int .i64 vk, .int .i64 vw, .string vs, .bool vt, .complex .f64 vx vy] 47) := by show Blk _ _ _ _; rw [HW6.out]; exact (HKV5.out.other5R hgv _ _ _ _ _)
  have n0 : ((((((w4.alloc (.cells #[.int .i64 vk, .int .i64 vw, .string vs, .bool vt, .complex .f64 vx vy] 47)).setCell ⟨w.heap.size + 1, 3, none⟩ (.int .i64 vk)).setCell ⟨w.heap.size + 1, 4, none⟩ (.int .i64 vw)).setCell ⟨w.heap.size + 1, 5, none⟩ (.string vs)).setCell ⟨w.heap.size + 1, 6, none⟩ (.bool vt)).setCell ⟨w.heap.size + 1, 7, none⟩ (.complex .f64 vx vy)).cell? ⟨w4.heap.size, 0, none⟩ = some (.int .i64 vk) := by rw [← HW6.out]; exact HKV6.out.cell 0 rfl
  have n2 : ((((((w4.alloc (.cells #[.int .i64 vk, .int .i64 vw, .string vs, .bool vt, .complex .f64 vx vy] 47)).setCell ⟨w.heap.size + 1, 3, none⟩ (.int .i64 vk)).setCell ⟨w.heap.size + 1, 4, none⟩ (.int .i64 vw)).setCell ⟨w.heap.size + 1, 5, none⟩ (.string vs)).setCell ⟨w.heap.size + 1, 6, none⟩ (.bool vt)).setCell ⟨w.heap.size + 1, 7, none⟩ (.complex .f64 vx vy)).cell? ⟨w.heap.size + 1, 2, none⟩ = some (.int .i64 (c : Int)) := by rw [← HW6.out]; exact HKL6.out.cell 2 rfl
  go_wp2_with fail
  rw [← HW6.out]
  refine (ref_May c HCC.out vk _).mono ?_
  rw [HMB.out]
  rintro e w6 ⟨rfl, rfl⟩
  clear HW6 n0 n2 hgv HKV5 HKV6 HKA5 HKL5 HB5 HKA4 HKL4 HB4 l3 l4 l5 l6 l7 lf3 lf4 lf5 lf6 lf7
  have l2 : (w6).cell? ⟨w.heap.size + 1, 2, none⟩ = some (.int .i64 (c : Int)) := HKL6.out.cell 2 rfl
  have lf2 := HKL6.out.free 2
  go_wp2_with fail
  refine (HUC.out _ (HR.out.below HB6.out)).mono ?_
  rintro e w7 ⟨rfl, rfl⟩
  clear l2 lf2
  have r0 : (w7).cell? ⟨w.heap.size, 0, none⟩ = some (.int .i64 0) := HKA6.out.cell 0 rfl
  have rf0 := HKA6.out.free 0
  have r1 : (w7).cell? ⟨w.heap.size, 1, none⟩ = some (.string ⟨#[]⟩) := HKA6.out.cell 1 rfl
  have rf1 := HKA6.out.free 1
  have r2 : (w7).cell? ⟨w.heap.size, 2, none⟩ = some (.int .i64 0) := HKA6.out.cell 2 rfl
  have rf2 := HKA6.out.free 2
  have r3 : (w7).cell? ⟨w.heap.size, 3, none⟩ = some (.int .i64 0) := HKA6.out.cell 3 rfl
  have rf3 := HKA6.out.free 3
  have r4 : (w7).cell? ⟨w.heap.size, 4, none⟩ = some (.int .i64 0) := HKA6.out.cell 4 rfl
  have rf4 := HKA6.out.free 4
  have r5 : (w7).cell? ⟨w.heap.size, 5, none⟩ = some (.string ⟨#[]⟩) := HKA6.out.cell 5 rfl
  have rf5 := HKA6.out.free 5
  have r6 : (w7).cell? ⟨w.heap.size, 6, none⟩ = some (.bool false) := HKA6.out.cell 6 rfl
  have rf6 := HKA6.out.free 6
  have r7 : (w7).cell? ⟨w.heap.size, 7, none⟩ = some (.complex .f64 0 0) := HKA6.out.cell 7 rfl
  have rf7 := HKA6.out.free 7
  have r8 : (w7).cell? ⟨w.heap.size, 8, none⟩ = some (.int .i64 0) := HKA6.out.cell 8 rfl
  have rf8 := HKA6.out.free 8
  have l0 : (w7).cell? ⟨w.heap.size + 1, 0, none⟩ = some (.int .i64 3) := HKL6.out.cell 0 rfl
  have lf0 := HKL6.out.free 0
  have l1 : (w7).cell? ⟨w.heap.size + 1, 1, none⟩ = some (.string S) := HKL6.out.cell 1 rfl
  have lf1 := HKL6.out.free 1
  have l2 : (w7).cell? ⟨w.heap.size + 1, 2, none⟩ = some (.int .i64 (c : Int)) := HKL6.out.cell 2 rfl
  have lf2 := HKL6.out.free 2
  have l3 : (w7).cell? ⟨w.heap.size + 1, 3, none⟩ = some (.int .i64 vk) := HKL6.out.cell 3 rfl
  have lf3 := HKL6.out.free 3
  have l4 : (w7).cell? ⟨w.heap.size + 1, 4, none⟩ = some (.int .i64 vw) := HKL6.out.cell 4 rfl
  have lf4 := HKL6.out.free 4
  have l5 : (w7).cell? ⟨w.heap.size + 1, 5, none⟩ = some (.string vs) := HKL6.out.cell 5 rfl
  have lf5 := HKL6.out.free 5
  have l6 : (w7).cell? ⟨w.heap.size + 1, 6, none⟩ = some (.bool vt) := HKL6.out.cell 6 rfl
  have lf6 := HKL6.out.free 6
  have l7 : (w7).cell? ⟨w.heap.size + 1, 7, none⟩ = some (.complex .f64 vx vy) := HKL6.out.cell 7 rfl
  have lf7 := HKL6.out.free 7
  have l8 : (w7).cell? ⟨w.heap.size + 1, 8, none⟩ = some (.int .i64 0) := HKL6.out.cell 8 rfl
  have lf8 := HKL6.out.free 8
  go_wp2
  try simp only [Exit.inBlock, Exit.then]
  refine bodyPost_ret (results_termR rfl (by rfl) (by rfl) (by rfl) (Blk.set9R HKA6.out _ _ _ _ _ _ _ _ _)) rfl ?_
  exact ⟨rfl, (((((((((HB6.out.setCell (Nat.le_refl _) _).setCell (Nat.le_refl _) _).setCell (Nat.le_refl _) _).setCell (Nat.le_refl _) _).setCell (Nat.le_refl _) _).setCell (Nat.le_refl _) _).setCell (Nat.le_refl _) _).setCell (Nat.le_refl _) _).setCell (Nat.le_refl _) _)⟩

set_option maxHeartbeats 4000000 in
theorem some_far (b off : Nat) (len cap : Nat) (bs : List Nat) (p : Nat) (w : World) (hr : Rd w (some ⟨b, off, none⟩) len bs) (S : ByteArray) (k f : Nat) (hct : ∀ W, Rd W (some ⟨b, off, none⟩) len bs → Calls Tryz.prog 39 #[.slice (some ⟨b, off, none⟩) len cap, .int .i64 (p : Int)] W fun e w' => e = .returned (.tuple #[.string S, .int .i64 (k : Int), .int .i64 (f : Int)]) ∧ Below W.heap.size W w') (hf0 : f = 0) (hsz : S.size ≤ maxLen) (hn : nameOk S) (hk : k < len) (hl : len ≤ 9223372036854775000) (c : Nat) (hc : bs.getD k 0 = c) (hc256 : c < 256) (h0 : 3 ≤ c ∧ c ≤ 10) (v : Val) (j g : Nat) (hvc : ∀ W, Rd W (some ⟨b, off, none⟩) len bs → Calls Tryz.prog 41 #[.slice (some ⟨b, off, none⟩) len cap, .int .i64 ((k : Int) + 1)] W fun e w' => e = .returned (.tuple #[.agg v.cells, .int .i64 (j : Int), .int .i64 (g : Int)]) ∧ Below W.heap.size W w') (hg0 : g = 0) (hm : mayB c v.kind = true) (h10 : c = 10) (n i g2 : Nat) (huc : ∀ W, Rd W (some ⟨b, off, none⟩) len bs → Calls Tryz.prog 22 #[.slice (some ⟨b, off, none⟩) len cap, .int .i64 (j : Int)] W fun e w' => e = .returned (.tuple #[.int .u64 (n : Int), .int .i64 (i : Int), .int .i64 (g2 : Int)]) ∧ w' = W) (hg2 : g2 = 0) (hfar : 1048576 < n) :
    Calls Tryz.prog 23 #[.slice (some ⟨b, off, none⟩) len cap, .int .i64 (p : Int)] w fun e w' => e = toldTm (⟨3, S, c, v, 0⟩, 0, 2) ∧ Below w.heap.size w w' := by
  have HSZ : Hid (S.size ≤ maxLen) := hsz
  have HN : Hid (nameOk S) := hn
  clear hsz hn
  have HCB : Hid (bs.getD k 0 = c) := hc
  have hk' : ((k : Int) == (len : Int)) = false := by rw [beq_eq_false_iff_ne]; omega
  have hki : (k : Int) < (len : Int) := by omega
  clear hc
  have k1 : ¬ (c : Int) < 1 := by omega
  have k2 : ¬ (10 : Int) < (c : Int) := by omega
  have k3 : ¬ (c : Int) ≤ 2 := by omega
  have HCC : Hid (1 ≤ c ∧ c ≤ 10) := by constructor <;> omega
  have HVC : Hid (∀ W, Rd W (some ⟨b, off, none⟩) len bs → Calls Tryz.prog 41 #[.slice (some ⟨b, off, none⟩) len cap, .int .i64 ((k : Int) + 1)] W fun e w' => e = .returned (.tuple #[.agg v.cells, .int .i64 (j : Int), .int .i64 (g : Int)]) ∧ Below W.heap.size W w') := hvc
  clear hvc
  subst hg0
  have HMB : Hid (mayB c v.kind = true) := hm
  clear hm
  have k10 : ((c : Int) != 10) = false := by rw [h10]; rfl
  have HUC : Hid (∀ W, Rd W (some ⟨b, off, none⟩) len bs → Calls Tryz.prog 22 #[.slice (some ⟨b, off, none⟩) len cap, .int .i64 (j : Int)] W fun e w' => e = .returned (.tuple #[.int .u64 (n : Int), .int .i64 (i : Int), .int .i64 (g2 : Int)]) ∧ w' = W) := huc
  clear huc h10
  subst hg2
  have kf : (1048576 : Int) < (n : Int) := by omega
  clear hfar
  have hcx : ∀ (a : Addr) (m : Mode) (W : World) (x y : Nat), (store a (.complex .f64 x y) m).run Tryz.prog W = stored Tryz.prog W a (.complex .f64 x y) m := fun a m W x y => run_store _ _ _ _ _ rfl
  have HR : Hid (Rd w (some ⟨b, off, none⟩) len bs) := hr
  have HCT : Hid (∀ W, Rd W (some ⟨b, off, none⟩) len bs → Calls Tryz.prog 39 #[.slice (some ⟨b, off, none⟩) len cap, .int .i64 (p : Int)] W fun e w' => e = .returned (.tuple #[.string S, .int .i64 (k : Int), .int .i64 (f : Int)]) ∧ Below W.heap.size W w') := hct
  clear hr hct
  subst hf0
  go_enter Tryz.func23, Tryz.ntmps23
  go_wp2_with fail
  refine (HCT.out _ (HR.out.below ((below_alloc w _).alloc (by simp) _))).mono ?_
  rintro e w1 ⟨rfl, hb1⟩
  have HB1 : Hid (Below w.heap.size w w1) := ((below_alloc w _).alloc (by simp) _).trans (hb1.mono (by simp; omega))
  have HKA1 : Hid (Blk w1 w.heap.size #[.int .i64 0, .string ⟨#[]⟩, .int .i64 0, .int .i64 0, .int .i64 0, .string ⟨#[]⟩, .bool false, .complex .f64 0 0, .int .i64 0] 58) := ((Blk.new w _ _).stay (below_alloc _ _)).stay hb1
  have HKL1 : Hid (Blk w1 (w.heap.size + 1) #[.int .i64 3, .string ⟨#[]⟩, .int .i64 0, .int .i64 0, .int .i64 0, .string ⟨#[]⟩, .bool false, .complex .f64 0 0, .int .i64 0] 58) := by
    have h := Blk.new (w.alloc (.cells #[.int .i64 0, .string ⟨#[]⟩, .int .i64 0, .int .i64 0, .int .i64 0, .string ⟨#[]⟩, .bool false, .complex .f64 0 0, .int .i64 0] 58)) #[.int .i64 3, .string ⟨#[]⟩, .int .i64 0, .int .i64 0, .int .i64 0, .string ⟨#[]⟩, .bool false, .complex .f64 0 0, .int .i64 0] 58
    have e1 : (w.alloc (.cells #[.int .i64 0, .string ⟨#[]⟩, .int .i64 0, .int .i64 0, .int .i64 0, .string ⟨#[]⟩, .bool false, .complex .f64 0 0, .int .i64 0] 58)).heap.size = w.heap.size + 1 := by simp
    rw [e1] at h
    exact h.stay hb1
  clear hb1
  have l1 : (w1).cell? ⟨w.heap.size + 1, 1, none⟩ = some (.string ⟨#[]⟩) := HKL1.out.cell 1 rfl
  have lf1 := HKL1.out.free 1
  obtain ⟨W1, HW1⟩ : ∃ W1, Hid (W1 = w1.setCell ⟨w.heap.size + 1, 1, none⟩ (.string S)) := ⟨_, rfl⟩
  have HB2 : Hid (Below w.heap.size w W1) := by show Below _ _ _; rw [HW1.out]; exact HB1.out.setCell (by simp) _
  have HKA2 : Hid (Blk W1 w.heap.size #[.int .i64 0, .string ⟨#[]⟩, .int .i64 0, .int .i64 0, .int .i64 0, .string ⟨#[]⟩, .bool false, .complex .f64 0 0, .int .i64 0] 58) := by show Blk _ _ _ _; rw [HW1.out]; exact HKA1.out.other _ _ (by simp)
  have HKL2 : Hid (Blk W1 (w.heap.size + 1) #[.int .i64 3, .string S, .int .i64 0, .int .i64 0, .int .i64 0, .string ⟨#[]⟩, .bool false, .complex .f64 0 0, .int .i64 0] 58) := by show Blk _ _ _ _; rw [HW1.out]; exact HKL1.out.set 1 _
  go_wp2_with fail
  rw [← HW1.out]
  refine (ref_Name S HSZ.out _).mono ?_
  rintro e w2 ⟨⟨b1, rfl, hb1⟩, rfl⟩
  clear HW1 l1 lf1 HKA1 HKL1 HB1
  obtain rfl := hb1.2 HN.out
  clear hb1
  have hcell : w2.cell? ⟨b, off + k, none⟩ = some (.int .u8 (c : Int)) := by rw [← HCB.out]; exact rd_cell_at (HR.out.below HB2.out) k (by omega)
  have l2 : (w2).cell? ⟨w.heap.size + 1, 2, none⟩ = some (.int .i64 0) := HKL2.out.cell 2 rfl
  have lf2 := HKL2.out.free 2
  have HB3 : Hid (Below w.heap.size w (w2.setCell ⟨w.heap.size + 1, 2, none⟩ (.int .i64 (c : Int)))) := HB2.out.setCell (by simp) _
  have HKA3 : Hid (Blk (w2.setCell ⟨w.heap.size + 1, 2, none⟩ (.int .i64 (c : Int))) w.heap.size #[.int .i64 0, .string ⟨#[]⟩, .int .i64 0, .int .i64 0, .int .i64 0, .string ⟨#[]⟩, .bool false, .complex .f64 0 0, .int .i64 0] 58) := HKA2.out.other _ _ (by simp)
  have HKL3 : Hid (Blk (w2.setCell ⟨w.heap.size + 1, 2, none⟩ (.int .i64 (c : Int))) (w.heap.size + 1) #[.int .i64 3, .string S, .int .i64 (c : Int), .int .i64 0, .int .i64 0, .string ⟨#[]⟩, .bool false, .complex .f64 0 0, .int .i64 0] 58) := HKL2.out.set 2 _
  have m2 : ((w2.setCell ⟨w.heap.size + 1, 2, none⟩ (.int .i64 (c : Int)))).cell? ⟨w.heap.size + 1, 2, none⟩ = some (.int .i64 (c : Int)) := HKL3.out.cell 2 rfl
  have mf2 := HKL3.out.free 2
  go_wp2_with fail
  refine (HVC.out _ (HR.out.below HB3.out)).mono ?_
  rintro e w4 ⟨rfl, hb4⟩
  have HB4 : Hid (Below w.heap.size w w4) := HB3.out.trans (hb4.mono HB3.out.size)
  have HKA4 : Hid (Blk w4 w.heap.size #[.int .i64 0, .string ⟨#[]⟩, .int .i64 0, .int .i64 0, .int .i64 0, .string ⟨#[]⟩, .bool false, .complex .f64 0 0, .int .i64 0] 58) := HKA3.out.stay hb4
  have HKL4 : Hid (Blk w4 (w.heap.size + 1) #[.int .i64 3, .string S, .int .i64 (c : Int), .int .i64 0, .int .i64 0, .string ⟨#[]⟩, .bool false, .complex .f64 0 0, .int .i64 0] 58) := HKL3.out.stay hb4
  clear hb4 HKA3 HKL3 HB3 l2 lf2 m2 mf2 hcell HKA2 HKL2 HB2
  obtain ⟨vk, vw, vs, vt, vx, vy⟩ := v
  simp only [Val.cells]
  simp only at HMB
  have HB5 : Hid (Below w.heap.size w (w4.alloc (.cells #[.int .i64 vk, .int .i64 vw, .string vs, .bool vt, .complex .f64 vx vy] 47))) := HB4.out.alloc HB4.out.size _
  have HKA5 : Hid (Blk (w4.alloc (.cells #[.int .i64 vk, .int .i64 vw, .string vs, .bool vt, .complex .f64 vx vy] 47)) w.heap.size #[.int .i64 0, .string ⟨#[]⟩, .int .i64 0, .int .i64 0, .int .i64 0, .string ⟨#[]⟩, .bool false, .complex .f64 0 0, .int .i64 0] 58) := HKA4.out.stay (below_alloc _ _)
  have HKL5 : Hid (Blk (w4.alloc (.cells #[.int .i64 vk, .int .i64 vw, .string vs, .bool vt, .complex .f64 vx vy] 47)) (w.heap.size + 1) #[.int .i64 3, .string S, .int .i64 (c : Int), .int .i64 0, .int .i64 0, .string ⟨#[]⟩, .bool false, .complex .f64 0 0, .int .i64 0] 58) := HKL4.out.stay (below_alloc _ _)
  have HKV5 : Hid (Blk (w4.alloc (.cells #[.int .i64 vk, .int .i64 vw, .string vs, .bool vt, .complex .f64 vx vy] 47)) w4.heap.size #[.int .i64 vk, .int .i64 vw, .string vs, .bool vt, .complex .f64 vx vy] 47) := Blk.new w4 _ _
  have l3 : ((w4.alloc (.cells #[.int .i64 vk, .int .i64 vw, .string vs, .bool vt, .complex .f64 vx vy] 47))).cell? ⟨w.heap.size + 1, 3, none⟩ = some (.int .i64 0) := HKL5.out.cell 3 rfl
  have lf3 := HKL5.out.free 3
  have l4 : ((w4.alloc (.cells #[.int .i64 vk, .int .i64 vw, .string vs, .bool vt, .complex .f64 vx vy] 47))).cell? ⟨w.heap.size + 1, 4, none⟩ = some (.int .i64 0) := HKL5.out.cell 4 rfl
  have lf4 := HKL5.out.free 4
  have l5 : ((w4.alloc (.cells #[.int .i64 vk, .int .i64 vw, .string vs, .bool vt, .complex .f64 vx vy] 47))).cell? ⟨w.heap.size + 1, 5, none⟩ = some (.string ⟨#[]⟩) := HKL5.out.cell 5 rfl
  have lf5 := HKL5.out.free 5
  have l6 : ((w4.alloc (.cells #[.int .i64 vk, .int .i64 vw, .string vs, .bool vt, .complex .f64 vx vy] 47))).cell? ⟨w.heap.size + 1, 6, none⟩ = some (.bool false) := HKL5.out.cell 6 rfl
  have lf6 := HKL5.out.free 6
  have l7 : ((w4.alloc (.cells #[.int .i64 vk, .int .i64 vw, .string vs, .bool vt, .complex .f64 vx vy] 47))).cell? ⟨w.heap.size + 1, 7, none⟩ = some (.complex .f64 0 0) := HKL5.out.cell 7 rfl
  have lf7 := HKL5.out.free 7
  obtain ⟨W6, HW6⟩ : ∃ W6, Hid (W6 = ((((((w4.alloc (.cells #[.int .i64 vk, .int .i64 vw, .string vs, .bool vt, .complex .f64 vx vy] 47)).setCell ⟨w.heap.size + 1, 3, none⟩ (.int .i64 vk)).setCell ⟨w.heap.size + 1, 4, none⟩ (.int .i64 vw)).setCell ⟨w.heap.size + 1, 5, none⟩ (.string vs)).setCell ⟨w.heap.size + 1, 6, none⟩ (.bool vt)).setCell ⟨w.heap.size + 1, 7, none⟩ (.complex .f64 vx vy))) := ⟨_, rfl⟩
  have hgv : w4.heap.size ≠ w.heap.size + 1 := by have := HKL4.out.lt; omega
  have HB6 : Hid (Below w.heap.size w W6) := by show Below _ _ _; rw [HW6.out]; exact (((((HB5.out.setCell (by simp) _).setCell (by simp) _).setCell (by simp) _).setCell (by simp) _).setCell (by simp) _)
  have HKA6 : Hid (Blk W6 w.heap.size #[.int .i64 0, .string ⟨#[]⟩, .int .i64 0, .int .i64 0, .int .i64 0, .string ⟨#[]⟩, .bool false, .complex .f64 0 0, .int .i64 0] 58) := by show Blk _ _ _ _; rw [HW6.out]; exact (HKA5.out.other5R (by omega) _ _ _ _ _)
  have HKL6 : Hid (Blk W6 (w.heap.size + 1) #[.int .i64 3, .string S, .int .i64 (c : Int), .int .i64 vk, .int .i64 vw, .string vs, .bool vt, .complex .f64 vx vy, .int .i64 0] 58) := by show Blk _ _ _ _; rw [HW6.out]; exact HKL5.out.setV3R _ _ _ _ _
  have HKV6 : Hid (Blk W6 w4.heap.size #[.int .i64 vk, .int .i64 vw, .string vs, .bool vt, .complex .f64 vx vy] 47) := by show Blk _ _ _ _; rw [HW6.out]; exact (HKV5.out.other5R hgv _ _ _ _ _)
  have n0 : ((((((w4.alloc (.cells #[.int .i64 vk, .int .i64 vw, .string vs, .bool vt, .complex .f64 vx vy] 47)).setCell ⟨w.heap.size + 1, 3, none⟩ (.int .i64 vk)).setCell ⟨w.heap.size + 1, 4, none⟩ (.int .i64 vw)).setCell ⟨w.heap.size + 1, 5, none⟩ (.string vs)).setCell ⟨w.heap.size + 1, 6, none⟩ (.bool vt)).setCell ⟨w.heap.size + 1, 7, none⟩ (.complex .f64 vx vy)).cell? ⟨w4.heap.size, 0, none⟩ = some (.int .i64 vk) := by rw [← HW6.out]; exact HKV6.out.cell 0 rfl
  have n2 : ((((((w4.alloc (.cells #[.int .i64 vk, .int .i64 vw, .string vs, .bool vt, .complex .f64 vx vy] 47)).setCell ⟨w.heap.size + 1, 3, none⟩ (.int .i64 vk)).setCell ⟨w.heap.size + 1, 4, none⟩ (.int .i64 vw)).setCell ⟨w.heap.size + 1, 5, none⟩ (.string vs)).setCell ⟨w.heap.size + 1, 6, none⟩ (.bool vt)).setCell ⟨w.heap.size + 1, 7, none⟩ (.complex .f64 vx vy)).cell? ⟨w.heap.size + 1, 2, none⟩ = some (.int .i64 (c : Int)) := by rw [← HW6.out]; exact HKL6.out.cell 2 rfl
  go_wp2_with fail
  rw [← HW6.out]
  refine (ref_May c HCC.out vk _).mono ?_
  rw [HMB.out]
  rintro e w6 ⟨rfl, rfl⟩
  clear HW6 n0 n2 hgv HKV5 HKV6 HKA5 HKL5 HB5 HKA4 HKL4 HB4 l3 l4 l5 l6 l7 lf3 lf4 lf5 lf6 lf7
  have l2 : (w6).cell? ⟨w.heap.size + 1, 2, none⟩ = some (.int .i64 (c : Int)) := HKL6.out.cell 2 rfl
  have lf2 := HKL6.out.free 2
  go_wp2_with fail
  refine (HUC.out _ (HR.out.below HB6.out)).mono ?_
  rintro e w7 ⟨rfl, rfl⟩
  clear l2 lf2
  have r0 : (w7).cell? ⟨w.heap.size, 0, none⟩ = some (.int .i64 0) := HKA6.out.cell 0 rfl
  have rf0 := HKA6.out.free 0
  have r1 : (w7).cell? ⟨w.heap.size, 1, none⟩ = some (.string ⟨#[]⟩) := HKA6.out.cell 1 rfl
  have rf1 := HKA6.out.free 1
  have r2 : (w7).cell? ⟨w.heap.size, 2, none⟩ = some (.int .i64 0) := HKA6.out.cell 2 rfl
  have rf2 := HKA6.out.free 2
  have r3 : (w7).cell? ⟨w.heap.size, 3, none⟩ = some (.int .i64 0) := HKA6.out.cell 3 rfl
  have rf3 := HKA6.out.free 3
  have r4 : (w7).cell? ⟨w.heap.size, 4, none⟩ = some (.int .i64 0) := HKA6.out.cell 4 rfl
  have rf4 := HKA6.out.free 4
  have r5 : (w7).cell? ⟨w.heap.size, 5, none⟩ = some (.string ⟨#[]⟩) := HKA6.out.cell 5 rfl
  have rf5 := HKA6.out.free 5
  have r6 : (w7).cell? ⟨w.heap.size, 6, none⟩ = some (.bool false) := HKA6.out.cell 6 rfl
  have rf6 := HKA6.out.free 6
  have r7 : (w7).cell? ⟨w.heap.size, 7, none⟩ = some (.complex .f64 0 0) := HKA6.out.cell 7 rfl
  have rf7 := HKA6.out.free 7
  have r8 : (w7).cell? ⟨w.heap.size, 8, none⟩ = some (.int .i64 0) := HKA6.out.cell 8 rfl
  have rf8 := HKA6.out.free 8
  have l0 : (w7).cell? ⟨w.heap.size + 1, 0, none⟩ = some (.int .i64 3) := HKL6.out.cell 0 rfl
  have lf0 := HKL6.out.free 0
  have l1 : (w7).cell? ⟨w.heap.size + 1, 1, none⟩ = some (.string S) := HKL6.out.cell 1 rfl
  have lf1 := HKL6.out.free 1
  have l2 : (w7).cell? ⟨w.heap.size + 1, 2, none⟩ = some (.int .i64 (c : Int)) := HKL6.out.cell 2 rfl
  have lf2 := HKL6.out.free 2
  have l3 : (w7).cell? ⟨w.heap.size + 1, 3, none⟩ = some (.int .i64 vk) := HKL6.out.cell 3 rfl
  have lf3 := HKL6.out.free 3
  have l4 : (w7).cell? ⟨w.heap.size + 1, 4, none⟩ = some (.int .i64 vw) := HKL6.out.cell 4 rfl
  have lf4 := HKL6.out.free 4
  have l5 : (w7).cell? ⟨w.heap.size + 1, 5, none⟩ = some (.string vs) := HKL6.out.cell 5 rfl
  have lf5 := HKL6.out.free 5
  have l6 : (w7).cell? ⟨w.heap.size + 1, 6, none⟩ = some (.bool vt) := HKL6.out.cell 6 rfl
  have lf6 := HKL6.out.free 6
  have l7 : (w7).cell? ⟨w.heap.size + 1, 7, none⟩ = some (.complex .f64 vx vy) := HKL6.out.cell 7 rfl
  have lf7 := HKL6.out.free 7
  have l8 : (w7).cell? ⟨w.heap.size + 1, 8, none⟩ = some (.int .i64 0) := HKL6.out.cell 8 rfl
  have lf8 := HKL6.out.free 8
  go_wp2
  try simp only [Exit.inBlock, Exit.then]
  refine bodyPost_ret (results_termR rfl (by rfl) (by rfl) (by rfl) (Blk.set9R HKA6.out _ _ _ _ _ _ _ _ _)) rfl ?_
  exact ⟨rfl, (((((((((HB6.out.setCell (Nat.le_refl _) _).setCell (Nat.le_refl _) _).setCell (Nat.le_refl _) _).setCell (Nat.le_refl _) _).setCell (Nat.le_refl _) _).setCell (Nat.le_refl _) _).setCell (Nat.le_refl _) _).setCell (Nat.le_refl _) _).setCell (Nat.le_refl _) _)⟩

set_option maxHeartbeats 4000000 in
theorem some_near (b off : Nat) (len cap : Nat) (bs : List Nat) (p : Nat) (w : World) (hr : Rd w (some ⟨b, off, none⟩) len bs) (S : ByteArray) (k f : Nat) (hct : ∀ W, Rd W (some ⟨b, off, none⟩) len bs → Calls Tryz.prog 39 #[.slice (some ⟨b, off, none⟩) len cap, .int .i64 (p : Int)] W fun e w' => e = .returned (.tuple #[.string S, .int .i64 (k : Int), .int .i64 (f : Int)]) ∧ Below W.heap.size W w') (hf0 : f = 0) (hsz : S.size ≤ maxLen) (hn : nameOk S) (hk : k < len) (hl : len ≤ 9223372036854775000) (c : Nat) (hc : bs.getD k 0 = c) (hc256 : c < 256) (h0 : 3 ≤ c ∧ c ≤ 10) (v : Val) (j g : Nat) (hvc : ∀ W, Rd W (some ⟨b, off, none⟩) len bs → Calls Tryz.prog 41 #[.slice (some ⟨b, off, none⟩) len cap, .int .i64 ((k : Int) + 1)] W fun e w' => e = .returned (.tuple #[.agg v.cells, .int .i64 (j : Int), .int .i64 (g : Int)]) ∧ Below W.heap.size W w') (hg0 : g = 0) (hm : mayB c v.kind = true) (h10 : c = 10) (n i g2 : Nat) (huc : ∀ W, Rd W (some ⟨b, off, none⟩) len bs → Calls Tryz.prog 22 #[.slice (some ⟨b, off, none⟩) len cap, .int .i64 (j : Int)] W fun e w' => e = .returned (.tuple #[.int .u64 (n : Int), .int .i64 (i : Int), .int .i64 (g2 : Int)]) ∧ w' = W) (hg2 : g2 = 0) (hfar : n ≤ 1048576) :
    Calls Tryz.prog 23 #[.slice (some ⟨b, off, none⟩) len cap, .int .i64 (p : Int)] w fun e w' => e = toldTm (⟨3, S, c, v, n⟩, i, 0) ∧ Below w.heap.size w w' := by
  have HSZ : Hid (S.size ≤ maxLen) := hsz
  have HN : Hid (nameOk S) := hn
  clear hsz hn
  have HCB : Hid (bs.getD k 0 = c) := hc
  have hk' : ((k : Int) == (len : Int)) = false := by rw [beq_eq_false_iff_ne]; omega
  have hki : (k : Int) < (len : Int) := by omega
  clear hc
  have k1 : ¬ (c : Int) < 1 := by omega
  have k2 : ¬ (10 : Int) < (c : Int) := by omega
  have k3 : ¬ (c : Int) ≤ 2 := by omega
  have HCC : Hid (1 ≤ c ∧ c ≤ 10) := by constructor <;> omega
  have HVC : Hid (∀ W, Rd W (some ⟨b, off, none⟩) len bs → Calls Tryz.prog 41 #[.slice (some ⟨b, off, none⟩) len cap, .int .i64 ((k : Int) + 1)] W fun e w' => e = .returned (.tuple #[.agg v.cells, .int .i64 (j : Int), .int .i64 (g : Int)]) ∧ Below W.heap.size W w') := hvc
  clear hvc
  subst hg0
  have HMB : Hid (mayB c v.kind = true) := hm
  clear hm
  have k10 : ((c : Int) != 10) = false := by rw [h10]; rfl
  have HUC : Hid (∀ W, Rd W (some ⟨b, off, none⟩) len bs → Calls Tryz.prog 22 #[.slice (some ⟨b, off, none⟩) len cap, .int .i64 (j : Int)] W fun e w' => e = .returned (.tuple #[.int .u64 (n : Int), .int .i64 (i : Int), .int .i64 (g2 : Int)]) ∧ w' = W) := huc
  clear huc h10
  subst hg2
  have kf : ¬ (1048576 : Int) < (n : Int) := by omega
  have hcx : ∀ (a : Addr) (m : Mode) (W : World) (x y : Nat), (store a (.complex .f64 x y) m).run Tryz.prog W = stored Tryz.prog W a (.complex .f64 x y) m := fun a m W x y => run_store _ _ _ _ _ rfl
  have HR : Hid (Rd w (some ⟨b, off, none⟩) len bs) := hr
  have HCT : Hid (∀ W, Rd W (some ⟨b, off, none⟩) len bs → Calls Tryz.prog 39 #[.slice (some ⟨b, off, none⟩) len cap, .int .i64 (p : Int)] W fun e w' => e = .returned (.tuple #[.string S, .int .i64 (k : Int), .int .i64 (f : Int)]) ∧ Below W.heap.size W w') := hct
  clear hr hct
  subst hf0
  go_enter Tryz.func23, Tryz.ntmps23
  go_wp2_with fail
  refine (HCT.out _ (HR.out.below ((below_alloc w _).alloc (by simp) _))).mono ?_
  rintro e w1 ⟨rfl, hb1⟩
  have HB1 : Hid (Below w.heap.size w w1) := ((below_alloc w _).alloc (by simp) _).trans (hb1.mono (by simp; omega))
  have HKA1 : Hid (Blk w1 w.heap.size #[.int .i64 0, .string ⟨#[]⟩, .int .i64 0, .int .i64 0, .int .i64 0, .string ⟨#[]⟩, .bool false, .complex .f64 0 0, .int .i64 0] 58) := ((Blk.new w _ _).stay (below_alloc _ _)).stay hb1
  have HKL1 : Hid (Blk w1 (w.heap.size + 1) #[.int .i64 3, .string ⟨#[]⟩, .int .i64 0, .int .i64 0, .int .i64 0, .string ⟨#[]⟩, .bool false, .complex .f64 0 0, .int .i64 0] 58) := by
    have h := Blk.new (w.alloc (.cells #[.int .i64 0, .string ⟨#[]⟩, .int .i64 0, .int .i64 0, .int .i64 0, .string ⟨#[]⟩, .bool false, .complex .f64 0 0, .int .i64 0] 58)) #[.int .i64 3, .string ⟨#[]⟩, .int .i64 0, .int .i64 0, .int .i64 0, .string ⟨#[]⟩, .bool false, .complex .f64 0 0, .int .i64 0] 58
    have e1 : (w.alloc (.cells #[.int .i64 0, .string ⟨#[]⟩, .int .i64 0, .int .i64 0, .int .i64 0, .string ⟨#[]⟩, .bool false, .complex .f64 0 0, .int .i64 0] 58)).heap.size = w.heap.size + 1 := by simp
    rw [e1] at h
    exact h.stay hb1
  clear hb1
  have l1 : (w1).cell? ⟨w.heap.size + 1, 1, none⟩ = some (.string ⟨#[]⟩) := HKL1.out.cell 1 rfl
  have lf1 := HKL1.out.free 1
  obtain ⟨W1, HW1⟩ : ∃ W1, Hid (W1 = w1.setCell ⟨w.heap.size + 1, 1, none⟩ (.string S)) := ⟨_, rfl⟩
  have HB2 : Hid (Below w.heap.size w W1) := by show Below _ _ _; rw [HW1.out]; exact HB1.out.setCell (by simp) _
  have HKA2 : Hid (Blk W1 w.heap.size #[.int .i64 0, .string ⟨#[]⟩, .int .i64 0, .int .i64 0, .int .i64 0, .string ⟨#[]⟩, .bool false, .complex .f64 0 0, .int .i64 0] 58) := by show Blk _ _ _ _; rw [HW1.out]; exact HKA1.out.other _ _ (by simp)
  have HKL2 : Hid (Blk W1 (w.heap.size + 1) #[.int .i64 3, .string S, .int .i64 0, .int .i64 0, .int .i64 0, .string ⟨#[]⟩, .bool false, .complex .f64 0 0, .int .i64 0] 58) := by show Blk _ _ _ _; rw [HW1.out]; exact HKL1.out.set 1 _
  go_wp2_with fail
  rw [← HW1.out]
  refine (ref_Name S HSZ.out _).mono ?_
  rintro e w2 ⟨⟨b1, rfl, hb1⟩, rfl⟩
  clear HW1 l1 lf1 HKA1 HKL1 HB1
  obtain rfl := hb1.2 HN.out
  clear hb1
  have hcell : w2.cell? ⟨b, off + k, none⟩ = some (.int .u8 (c : Int)) := by rw [← HCB.out]; exact rd_cell_at (HR.out.below HB2.out) k (by omega)
  have l2 : (w2).cell? ⟨w.heap.size + 1, 2, none⟩ = some (.int .i64 0) := HKL2.out.cell 2 rfl
  have lf2 := HKL2.out.free 2
  have HB3 : Hid (Below w.heap.size w (w2.setCell ⟨w.heap.size + 1, 2, none⟩ (.int .i64 (c : Int)))) := HB2.out.setCell (by simp) _
  have HKA3 : Hid (Blk (w2.setCell ⟨w.heap.size + 1, 2, none⟩ (.int .i64 (c : Int))) w.heap.size #[.int .i64 0, .string ⟨#[]⟩, .int .i64 0, .int .i64 0, .int .i64 0, .string ⟨#[]⟩, .bool false, .complex .f64 0 0, .int .i64 0] 58) := HKA2.out.other _ _ (by simp)
  have HKL3 : Hid (Blk (w2.setCell ⟨w.heap.size + 1, 2, none⟩ (.int .i64 (c : Int))) (w.heap.size + 1) #[.int .i64 3, .string S, .int .i64 (c : Int), .int .i64 0, .int .i64 0, .string ⟨#[]⟩, .bool false, .complex .f64 0 0, .int .i64 0] 58) := HKL2.out.set 2 _
  have m2 : ((w2.setCell ⟨w.heap.size + 1, 2, none⟩ (.int .i64 (c : Int)))).cell? ⟨w.heap.size + 1, 2, none⟩ = some (.int .i64 (c : Int)) := HKL3.out.cell 2 rfl
  have mf2 := HKL3.out.free 2
  go_wp2_with fail
  refine (HVC.out _ (HR.out.below HB3.out)).mono ?_
  rintro e w4 ⟨rfl, hb4⟩
  have HB4 : Hid (Below w.heap.size w w4) := HB3.out.trans (hb4.mono HB3.out.size)
  have HKA4 : Hid (Blk w4 w.heap.size #[.int .i64 0, .string ⟨#[]⟩, .int .i64 0, .int .i64 0, .int .i64 0, .string ⟨#[]⟩, .bool false, .complex .f64 0 0, .int .i64 0] 58) := HKA3.out.stay hb4
  have HKL4 : Hid (Blk w4 (w.heap.size + 1) #[.int .i64 3, .string S, .int .i64 (c : Int), .int .i64 0, .int .i64 0, .string ⟨#[]⟩, .bool false, .complex .f64 0 0, .int .i64 0] 58) := HKL3.out.stay hb4
  clear hb4 HKA3 HKL3 HB3 l2 lf2 m2 mf2 hcell HKA2 HKL2 HB2
  obtain ⟨vk, vw, vs, vt, vx, vy⟩ := v
  simp only [Val.cells]
  simp only at HMB
  have HB5 : Hid (Below w.heap.size w (w4.alloc (.cells #[.int .i64 vk, .int .i64 vw, .string vs, .bool vt, .complex .f64 vx vy] 47))) := HB4.out.alloc HB4.out.size _
  have HKA5 : Hid (Blk (w4.alloc (.cells #[.int .i64 vk, .int .i64 vw, .string vs, .bool vt, .complex .f64 vx vy] 47)) w.heap.size #[.int .i64 0, .string ⟨#[]⟩, .int .i64 0, .int .i64 0, .int .i64 0, .string ⟨#[]⟩, .bool false, .complex .f64 0 0, .int .i64 0] 58) := HKA4.out.stay (below_alloc _ _)
  have HKL5 : Hid (Blk (w4.alloc (.cells #[.int .i64 vk, .int .i64 vw, .string vs, .bool vt, .complex .f64 vx vy] 47)) (w.heap.size + 1) #[.int .i64 3, .string S, .int .i64 (c : Int), .int .i64 0, .int .i64 0, .string ⟨#[]⟩, .bool false, .complex .f64 0 0, .int .i64 0] 58) := HKL4.out.stay (below_alloc _ _)
  have HKV5 : Hid (Blk (w4.alloc (.cells #[.int .i64 vk, .int .i64 vw, .string vs, .bool vt, .complex .f64 vx vy] 47)) w4.heap.size #[.int .i64 vk, .int .i64 vw, .string vs, .bool vt, .complex .f64 vx vy] 47) := Blk.new w4 _ _
  have l3 : ((w4.alloc (.cells #[.int .i64 vk, .int .i64 vw, .string vs, .bool vt, .complex .f64 vx vy] 47))).cell? ⟨w.heap.size + 1, 3, none⟩ = some (.int .i64 0) := HKL5.out.cell 3 rfl
  have lf3 := HKL5.out.free 3
  have l4 : ((w4.alloc (.cells #[.int .i64 vk, .int .i64 vw, .string vs, .bool vt, .complex .f64 vx vy] 47))).cell? ⟨w.heap.size + 1, 4, none⟩ = some (.int .i64 0) := HKL5.out.cell 4 rfl
  have lf4 := HKL5.out.free 4
  have l5 : ((w4.alloc (.cells #[.int .i64 vk, .int .i64 vw, .string vs, .bool vt, .complex .f64 vx vy] 47))).cell? ⟨w.heap.size + 1, 5, none⟩ = some (.string ⟨#[]⟩) := HKL5.out.cell 5 rfl
  have lf5 := HKL5.out.free 5
  have l6 : ((w4.alloc (.cells #[.int .i64 vk, .int .i64 vw, .string vs, .bool vt, .complex .f64 vx vy] 47))).cell? ⟨w.heap.size + 1, 6, none⟩ = some (.bool false) := HKL5.out.cell 6 rfl
  have lf6 := HKL5.out.free 6
  have l7 : ((w4.alloc (.cells #[.int .i64 vk, .int .i64 vw, .string vs, .bool vt, .complex .f64 vx vy] 47))).cell? ⟨w.heap.size + 1, 7, none⟩ = some (.complex .f64 0 0) := HKL5.out.cell 7 rfl
  have lf7 := HKL5.out.free 7
  obtain ⟨W6, HW6⟩ : ∃ W6, Hid (W6 = ((((((w4.alloc (.cells #[.int .i64 vk, .int .i64 vw, .string vs, .bool vt, .complex .f64 vx vy] 47)).setCell ⟨w.heap.size + 1, 3, none⟩ (.int .i64 vk)).setCell ⟨w.heap.size + 1, 4, none⟩ (.int .i64 vw)).setCell ⟨w.heap.size + 1, 5, none⟩ (.string vs)).setCell ⟨w.heap.size + 1, 6, none⟩ (.bool vt)).setCell ⟨w.heap.size + 1, 7, none⟩ (.complex .f64 vx vy))) := ⟨_, rfl⟩
  have hgv : w4.heap.size ≠ w.heap.size + 1 := by have := HKL4.out.lt; omega
  have HB6 : Hid (Below w.heap.size w W6) := by show Below _ _ _; rw [HW6.out]; exact (((((HB5.out.setCell (by simp) _).setCell (by simp) _).setCell (by simp) _).setCell (by simp) _).setCell (by simp) _)
  have HKA6 : Hid (Blk W6 w.heap.size #[.int .i64 0, .string ⟨#[]⟩, .int .i64 0, .int .i64 0, .int .i64 0, .string ⟨#[]⟩, .bool false, .complex .f64 0 0, .int .i64 0] 58) := by show Blk _ _ _ _; rw [HW6.out]; exact (HKA5.out.other5R (by omega) _ _ _ _ _)
  have HKL6 : Hid (Blk W6 (w.heap.size + 1) #[.int .i64 3, .string S, .int .i64 (c : Int), .int .i64 vk, .int .i64 vw, .string vs, .bool vt, .complex .f64 vx vy, .int .i64 0] 58) := by show Blk _ _ _ _; rw [HW6.out]; exact HKL5.out.setV3R _ _ _ _ _
  have HKV6 : Hid (Blk W6 w4.heap.size #[.int .i64 vk, .int .i64 vw, .string vs, .bool vt, .complex .f64 vx vy] 47) := by show Blk _ _ _ _; rw [HW6.out]; exact (HKV5.out.other5R hgv _ _ _ _ _)
  have n0 : ((((((w4.alloc (.cells #[.int .i64 vk, .int .i64 vw, .string vs, .bool vt, .complex .f64 vx vy] 47)).setCell ⟨w.heap.size + 1, 3, none⟩ (.int .i64 vk)).setCell ⟨w.heap.size + 1, 4, none⟩ (.int .i64 vw)).setCell ⟨w.heap.size + 1, 5, none⟩ (.string vs)).setCell ⟨w.heap.size + 1, 6, none⟩ (.bool vt)).setCell ⟨w.heap.size + 1, 7, none⟩ (.complex .f64 vx vy)).cell? ⟨w4.heap.size, 0, none⟩ = some (.int .i64 vk) := by rw [← HW6.out]; exact HKV6.out.cell 0 rfl
  have n2 : ((((((w4.alloc (.cells #[.int .i64 vk, .int .i64 vw, .string vs, .bool vt, .complex .f64 vx vy] 47)).setCell ⟨w.heap.size + 1, 3, none⟩ (.int .i64 vk)).setCell ⟨w.heap.size + 1, 4, none⟩ (.int .i64 vw)).setCell ⟨w.heap.size + 1, 5, none⟩ (.string vs)).setCell ⟨w.heap.size + 1, 6, none⟩ (.bool vt)).setCell ⟨w.heap.size + 1, 7, none⟩ (.complex .f64 vx vy)).cell? ⟨w.heap.size + 1, 2, none⟩ = some (.int .i64 (c : Int)) := by rw [← HW6.out]; exact HKL6.out.cell 2 rfl
  go_wp2_with fail
  rw [← HW6.out]
  refine (ref_May c HCC.out vk _).mono ?_
  rw [HMB.out]
  rintro e w6 ⟨rfl, rfl⟩
  clear HW6 n0 n2 hgv HKV5 HKV6 HKA5 HKL5 HB5 HKA4 HKL4 HB4 l3 l4 l5 l6 l7 lf3 lf4 lf5 lf6 lf7
  have l2 : (w6).cell? ⟨w.heap.size + 1, 2, none⟩ = some (.int .i64 (c : Int)) := HKL6.out.cell 2 rfl
  have lf2 := HKL6.out.free 2
  go_wp2_with fail
  refine (HUC.out _ (HR.out.below HB6.out)).mono ?_
  rintro e w7 ⟨rfl, rfl⟩
  clear l2 lf2
  have o8 : (w7).cell? ⟨w.heap.size + 1, 8, none⟩ = some (.int .i64 0) := HKL6.out.cell 8 rfl
  have of8 := HKL6.out.free 8
  have HB8 : Hid (Below w.heap.size w (w7.setCell ⟨w.heap.size + 1, 8, none⟩ (.int .i64 (n : Int)))) := HB6.out.setCell (by simp) _
  have HKA8 : Hid (Blk (w7.setCell ⟨w.heap.size + 1, 8, none⟩ (.int .i64 (n : Int))) w.heap.size #[.int .i64 0, .string ⟨#[]⟩, .int .i64 0, .int .i64 0, .int .i64 0, .string ⟨#[]⟩, .bool false, .complex .f64 0 0, .int .i64 0] 58) := HKA6.out.other _ _ (by simp)
  have HKL8 : Hid (Blk (w7.setCell ⟨w.heap.size + 1, 8, none⟩ (.int .i64 (n : Int))) (w.heap.size + 1) #[.int .i64 3, .string S, .int .i64 (c : Int), .int .i64 vk, .int .i64 vw, .string vs, .bool vt, .complex .f64 vx vy, .int .i64 (n : Int)] 58) := HKL6.out.set 8 _
  have r0 : ((w7.setCell ⟨w.heap.size + 1, 8, none⟩ (.int .i64 (n : Int)))).cell? ⟨w.heap.size, 0, none⟩ = some (.int .i64 0) := HKA8.out.cell 0 rfl
  have rf0 := HKA8.out.free 0
  have r1 : ((w7.setCell ⟨w.heap.size + 1, 8, none⟩ (.int .i64 (n : Int)))).cell? ⟨w.heap.size, 1, none⟩ = some (.string ⟨#[]⟩) := HKA8.out.cell 1 rfl
  have rf1 := HKA8.out.free 1
  have r2 : ((w7.setCell ⟨w.heap.size + 1, 8, none⟩ (.int .i64 (n : Int)))).cell? ⟨w.heap.size, 2, none⟩ = some (.int .i64 0) := HKA8.out.cell 2 rfl
  have rf2 := HKA8.out.free 2
  have r3 : ((w7.setCell ⟨w.heap.size + 1, 8, none⟩ (.int .i64 (n : Int)))).cell? ⟨w.heap.size, 3, none⟩ = some (.int .i64 0) := HKA8.out.cell 3 rfl
  have rf3 := HKA8.out.free 3
  have r4 : ((w7.setCell ⟨w.heap.size + 1, 8, none⟩ (.int .i64 (n : Int)))).cell? ⟨w.heap.size, 4, none⟩ = some (.int .i64 0) := HKA8.out.cell 4 rfl
  have rf4 := HKA8.out.free 4
  have r5 : ((w7.setCell ⟨w.heap.size + 1, 8, none⟩ (.int .i64 (n : Int)))).cell? ⟨w.heap.size, 5, none⟩ = some (.string ⟨#[]⟩) := HKA8.out.cell 5 rfl
  have rf5 := HKA8.out.free 5
  have r6 : ((w7.setCell ⟨w.heap.size + 1, 8, none⟩ (.int .i64 (n : Int)))).cell? ⟨w.heap.size, 6, none⟩ = some (.bool false) := HKA8.out.cell 6 rfl
  have rf6 := HKA8.out.free 6
  have r7 : ((w7.setCell ⟨w.heap.size + 1, 8, none⟩ (.int .i64 (n : Int)))).cell? ⟨w.heap.size, 7, none⟩ = some (.complex .f64 0 0) := HKA8.out.cell 7 rfl
  have rf7 := HKA8.out.free 7
  have r8 : ((w7.setCell ⟨w.heap.size + 1, 8, none⟩ (.int .i64 (n : Int)))).cell? ⟨w.heap.size, 8, none⟩ = some (.int .i64 0) := HKA8.out.cell 8 rfl
  have rf8 := HKA8.out.free 8
  have l0 : ((w7.setCell ⟨w.heap.size + 1, 8, none⟩ (.int .i64 (n : Int)))).cell? ⟨w.heap.size + 1, 0, none⟩ = some (.int .i64 3) := HKL8.out.cell 0 rfl
  have lf0 := HKL8.out.free 0
  have l1 : ((w7.setCell ⟨w.heap.size + 1, 8, none⟩ (.int .i64 (n : Int)))).cell? ⟨w.heap.size + 1, 1, none⟩ = some (.string S) := HKL8.out.cell 1 rfl
  have lf1 := HKL8.out.free 1
  have l2 : ((w7.setCell ⟨w.heap.size + 1, 8, none⟩ (.int .i64 (n : Int)))).cell? ⟨w.heap.size + 1, 2, none⟩ = some (.int .i64 (c : Int)) := HKL8.out.cell 2 rfl
  have lf2 := HKL8.out.free 2
  have l3 : ((w7.setCell ⟨w.heap.size + 1, 8, none⟩ (.int .i64 (n : Int)))).cell? ⟨w.heap.size + 1, 3, none⟩ = some (.int .i64 vk) := HKL8.out.cell 3 rfl
  have lf3 := HKL8.out.free 3
  have l4 : ((w7.setCell ⟨w.heap.size + 1, 8, none⟩ (.int .i64 (n : Int)))).cell? ⟨w.heap.size + 1, 4, none⟩ = some (.int .i64 vw) := HKL8.out.cell 4 rfl
  have lf4 := HKL8.out.free 4
  have l5 : ((w7.setCell ⟨w.heap.size + 1, 8, none⟩ (.int .i64 (n : Int)))).cell? ⟨w.heap.size + 1, 5, none⟩ = some (.string vs) := HKL8.out.cell 5 rfl
  have lf5 := HKL8.out.free 5
  have l6 : ((w7.setCell ⟨w.heap.size + 1, 8, none⟩ (.int .i64 (n : Int)))).cell? ⟨w.heap.size + 1, 6, none⟩ = some (.bool vt) := HKL8.out.cell 6 rfl
  have lf6 := HKL8.out.free 6
  have l7 : ((w7.setCell ⟨w.heap.size + 1, 8, none⟩ (.int .i64 (n : Int)))).cell? ⟨w.heap.size + 1, 7, none⟩ = some (.complex .f64 vx vy) := HKL8.out.cell 7 rfl
  have lf7 := HKL8.out.free 7
  have l8 : ((w7.setCell ⟨w.heap.size + 1, 8, none⟩ (.int .i64 (n : Int)))).cell? ⟨w.heap.size + 1, 8, none⟩ = some (.int .i64 (n : Int)) := HKL8.out.cell 8 rfl
  have lf8 := HKL8.out.free 8
  go_wp2
  try simp only [Exit.inBlock, Exit.then]
  refine bodyPost_ret (results_termR rfl (by rfl) (by rfl) (by rfl) (Blk.set9R HKA8.out _ _ _ _ _ _ _ _ _)) rfl ?_
  exact ⟨rfl, (((((((((HB8.out.setCell (Nat.le_refl _) _).setCell (Nat.le_refl _) _).setCell (Nat.le_refl _) _).setCell (Nat.le_refl _) _).setCell (Nat.le_refl _) _).setCell (Nat.le_refl _) _).setCell (Nat.le_refl _) _).setCell (Nat.le_refl _) _).setCell (Nat.le_refl _) _)⟩
end Go.Proofs.YtfmpfjpcigdeoabGreatDoor
/- The reference's some tells an atom as pred.takeAtom does. -/
namespace Go.Proofs.YtfmpfjpcigdeoabGreatDoor
set_option maxRecDepth 100000
open Go.RowKit

theorem valFor_bad {bs : List Nat} {p c : Nat} {v : Val} {k f : Nat} (h : valAt bs (p : Int) = (v, k, f)) (hf : f ≠ 0) : valFor bs p c = (Val.zero, 0, f) := by
  unfold valFor
  rw [h]
  cases f with
  | zero => exact absurd rfl hf
  | succ n => rfl
theorem valFor_may {bs : List Nat} {p c : Nat} {v : Val} {k : Nat} (h : valAt bs (p : Int) = (v, k, 0)) (hm : mayB c v.kind = false) : valFor bs p c = (Val.zero, 0, 12) := by
  unfold valFor
  rw [h]
  simp [hm]
theorem valFor_ok {bs : List Nat} {p c : Nat} {v : Val} {k : Nat} (h : valAt bs (p : Int) = (v, k, 0)) (hm : mayB c v.kind = true) : valFor bs p c = (v, k, 0) := by
  unfold valFor
  rw [h]
  simp [hm]
theorem radAt_bad {bs : List Nat} {p n k f : Nat} (h : Leb.take bs (p : Int) = (n, k, f)) (hf : f ≠ 0) : radAt bs p = (0, 0, f) := by
  unfold radAt
  rw [h]
  cases f with
  | zero => exact absurd rfl hf
  | succ n => rfl
theorem radAt_far {bs : List Nat} {p n k : Nat} (h : Leb.take bs (p : Int) = (n, k, 0)) (hn : 1048576 < n) : radAt bs p = (0, 0, 2) := by
  unfold radAt
  rw [h]
  simp [hn]
theorem radAt_ok {bs : List Nat} {p n k : Nat} (h : Leb.take bs (p : Int) = (n, k, 0)) (hn : ¬ 1048576 < n) : radAt bs p = (n, k, 0) := by
  unfold radAt
  rw [h]
  simp [hn]

theorem ref_some5 (a : Option Addr) (len cap : Nat) (bs : List Nat) (p : Nat) (w : World) (hr : Rd w a len bs) (hlc : len ≤ cap) (hl : len ≤ 9223372036854775000) (hp : p ≤ len) (q0 : Tm) (K F : Nat) (hA : atomAt bs p = (q0, K, F)) :
    Calls Tryz.prog 23 #[.slice a len cap, .int .i64 (p : Int)] w fun e w' => ∃ q, e = toldTm (q, K, F) ∧ (F = 0 → q = q0) ∧ Below w.heap.size w w' := by
  obtain ⟨l, k, f, hT⟩ : ∃ l k f, textAt bs (p : Int) = (l, k, f) := ⟨_, _, _, rfl⟩
  have hct : ∀ W, Rd W a len bs → Calls Tryz.prog 39 #[.slice a len cap, .int .i64 (p : Int)] W fun e w' => e = .returned (.tuple #[.string (str l), .int .i64 (k : Int), .int .i64 (f : Int)]) ∧ Below W.heap.size W w' := fun W h => by
    have := ref_TakeText a len cap bs (p : Int) W h hlc hl (by omega)
    rw [hT] at this
    exact this
  by_cases hf : f = 0
  · have hT0 := hT
    rw [hf] at hT0
    obtain ⟨hsl, hkl⟩ := textAt_once hr.byte hT0 |> fun h => (⟨h.1, h.2.2.1⟩ : l.length ≤ 200 ∧ k ≤ bs.length)
    have hbl := hr.size
    rw [hbl] at hkl
    have hsz : (str l).size ≤ maxLen := by rw [str_size]; unfold maxLen; omega
    by_cases hn : nameOk (str l)
    · rw [atomAt_on hT0 hn, hbl] at hA
      by_cases hk : k = len
      · rw [if_pos hk] at hA
        simp only [Prod.mk.injEq] at hA
        obtain ⟨rfl, rfl, rfl⟩ := hA
        refine (some_short a len cap bs p w hr (str l) k f hct hf hsz hn hk).mono ?_
        rintro e w' ⟨rfl, hb⟩
        exact ⟨_, rfl, fun h => (by cases h), hb⟩
      · rw [if_neg hk] at hA
        obtain ⟨b, off, rfl⟩ : ∃ b off, a = some ⟨b, off, none⟩ := by
          rcases hr.cells with h0 | ⟨b, off, e, _⟩
          · omega
          · exact ⟨b, off, e⟩
        have hc256 : bs.getD k 0 < 256 := getD_lt hr.byte k
        obtain ⟨c, hc⟩ : ∃ c, bs.getD k 0 = c := ⟨_, rfl⟩
        rw [hc] at hA hc256
        have hkl2 : k < len := by omega
        by_cases h0 : c < 1 ∨ 10 < c
        · rw [if_pos h0] at hA
          simp only [Prod.mk.injEq] at hA
          obtain ⟨rfl, rfl, rfl⟩ := hA
          rcases h0 with h0 | h0
          · refine (some_cmp0 b off len cap bs p w hr (str l) k f hct hf hsz hn hkl2 hl c hc hc256 h0).mono ?_
            rintro e w' ⟨rfl, hb⟩
            exact ⟨_, rfl, fun h => (by cases h), hb⟩
          · refine (some_cmp11 b off len cap bs p w hr (str l) k f hct hf hsz hn hkl2 hl c hc hc256 h0).mono ?_
            rintro e w' ⟨rfl, hb⟩
            exact ⟨_, rfl, fun h => (by cases h), hb⟩
        · rw [if_neg h0] at hA
          by_cases h2 : c ≤ 2
          · rw [if_pos h2] at hA
            simp only [Prod.mk.injEq] at hA
            obtain ⟨rfl, rfl, rfl⟩ := hA
            refine (some_has b off len cap bs p w hr (str l) k f hct hf hsz hn hkl2 hl c hc hc256 (by omega)).mono ?_
            rintro e w' ⟨rfl, hb⟩
            exact ⟨_, rfl, fun _ => rfl, hb⟩
          · rw [if_neg h2] at hA
            have h3 : 3 ≤ c ∧ c ≤ 10 := by omega
            obtain ⟨v, j, g, hV⟩ : ∃ v j g, valAt bs ((k + 1 : Nat) : Int) = (v, j, g) := ⟨_, _, _, rfl⟩
            have hvc : ∀ W, Rd W (some ⟨b, off, none⟩) len bs → Calls Tryz.prog 41 #[.slice (some ⟨b, off, none⟩) len cap, .int .i64 ((k : Int) + 1)] W fun e w' => e = .returned (.tuple #[.agg v.cells, .int .i64 (j : Int), .int .i64 (g : Int)]) ∧ Below W.heap.size W w' := fun W h => by
              have := ref_Take (some ⟨b, off, none⟩) len cap bs ((k + 1 : Nat) : Int) W h hlc hl
              rw [hV] at this
              exact this
            by_cases hg : g = 0
            · have hV0 := hV
              rw [hg] at hV0
              cases hm : mayB c v.kind with
              | false =>
                rw [restAt_err (valFor_may hV0 hm) (by decide)] at hA
                simp only [Prod.mk.injEq] at hA
                obtain ⟨rfl, rfl, rfl⟩ := hA
                refine (some_may b off len cap bs p w hr (str l) k f hct hf hsz hn hkl2 hl c hc hc256 h3 v j g hvc hg hm).mono ?_
                rintro e w' ⟨rfl, hb⟩
                exact ⟨_, rfl, fun h => (by cases h), hb⟩
              | true =>
                by_cases h10 : c = 10
                · obtain ⟨n, i, g2, hU⟩ : ∃ n i g, Leb.take bs (j : Int) = (n, i, g) := ⟨_, _, _, rfl⟩
                  have hj : j ≤ len := by have := valAt_place hr.byte hV0; rw [hbl] at this; exact this
                  have huc : ∀ W, Rd W (some ⟨b, off, none⟩) len bs → Calls Tryz.prog 22 #[.slice (some ⟨b, off, none⟩) len cap, .int .i64 (j : Int)] W fun e w' => e = .returned (.tuple #[.int .u64 (n : Int), .int .i64 (i : Int), .int .i64 (g2 : Int)]) ∧ w' = W := fun W h => by
                    have := ref_TakeUint (some ⟨b, off, none⟩) len cap bs (j : Int) W h hl (by omega)
                    rw [hU] at this
                    exact this
                  by_cases hg2 : g2 = 0
                  · have hU0 := hU
                    rw [hg2] at hU0
                    by_cases hfar : 1048576 < n
                    · rw [restAt_near (valFor_ok hV0 hm) h10 (radAt_far hU0 hfar), if_neg (by decide)] at hA
                      simp only [Prod.mk.injEq] at hA
                      obtain ⟨rfl, rfl, rfl⟩ := hA
                      refine (some_far b off len cap bs p w hr (str l) k f hct hf hsz hn hkl2 hl c hc hc256 h3 v j g hvc hg hm h10 n i g2 huc hg2 hfar).mono ?_
                      rintro e w' ⟨rfl, hb⟩
                      exact ⟨_, rfl, fun h => (by cases h), hb⟩
                    · rw [restAt_near (valFor_ok hV0 hm) h10 (radAt_ok hU0 hfar), if_pos rfl] at hA
                      simp only [Prod.mk.injEq] at hA
                      obtain ⟨rfl, rfl, rfl⟩ := hA
                      refine (some_near b off len cap bs p w hr (str l) k f hct hf hsz hn hkl2 hl c hc hc256 h3 v j g hvc hg hm h10 n i g2 huc hg2 (by omega)).mono ?_
                      rintro e w' ⟨rfl, hb⟩
                      exact ⟨_, rfl, fun _ => rfl, hb⟩
                  · rw [restAt_near (valFor_ok hV0 hm) h10 (radAt_bad hU hg2), if_neg hg2] at hA
                    simp only [Prod.mk.injEq] at hA
                    obtain ⟨rfl, rfl, rfl⟩ := hA
                    refine (some_radius b off len cap bs p w hr (str l) k f hct hf hsz hn hkl2 hl c hc hc256 h3 v j g hvc hg hm h10 n i g2 huc hg2).mono ?_
                    rintro e w' ⟨rfl, hb⟩
                    exact ⟨_, rfl, fun h => absurd h hg2, hb⟩
                · rw [restAt_plain (valFor_ok hV0 hm) h10] at hA
                  simp only [Prod.mk.injEq] at hA
                  obtain ⟨rfl, rfl, rfl⟩ := hA
                  refine (some_plain b off len cap bs p w hr (str l) k f hct hf hsz hn hkl2 hl c hc hc256 h3 v j g hvc hg hm h10).mono ?_
                  rintro e w' ⟨rfl, hb⟩
                  exact ⟨_, rfl, fun _ => rfl, hb⟩
            · rw [restAt_err (valFor_bad hV hg) hg] at hA
              simp only [Prod.mk.injEq] at hA
              obtain ⟨rfl, rfl, rfl⟩ := hA
              refine (some_value b off len cap bs p w hr (str l) k f hct hf hsz hn hkl2 hl c hc hc256 h3 v j g hvc hg).mono ?_
              rintro e w' ⟨rfl, hb⟩
              exact ⟨_, rfl, fun h => absurd h hg, hb⟩
    · rw [atomAt_name hT0 hn] at hA
      simp only [Prod.mk.injEq] at hA
      obtain ⟨rfl, rfl, rfl⟩ := hA
      refine (some_name a len cap bs p w hr (str l) k f hct hf hsz hn).mono ?_
      rintro e w' ⟨rfl, hb⟩
      exact ⟨_, rfl, fun h => (by cases h), hb⟩
  · rw [atomAt_text hT hf] at hA
    simp only [Prod.mk.injEq] at hA
    obtain ⟨rfl, rfl, rfl⟩ := hA
    refine (some_text a len cap bs p w hr (str l) k f hct hf).mono ?_
    rintro e w' ⟨rfl, hb⟩
    exact ⟨_, rfl, fun h => absurd h hf, hb⟩
end Go.Proofs.YtfmpfjpcigdeoabGreatDoor
/- The reference's Take of terms. -/
namespace Go.Proofs.YtfmpfjpcigdeoabGreatDoor
set_option maxRecDepth 100000
open Go.RowKit

theorem Tms.fresh (w : World) : Tms (w.alloc (.cells #[] 58)) w.heap.size (.slice (some ⟨w.heap.size, 0, none⟩) 0 0) [] :=
  ⟨⟨rfl, .inr ⟨w.heap.size, 0, #[], rfl, Nat.le_refl _, heap_alloc_new w _, Nat.le_refl _, by unfold maxLen; omega, rfl, rfl⟩⟩⟩
theorem Below.set9T {B : Nat} {w0 w : World} {g : Nat} (h : Below B w0 w) (hg : B ≤ g) (v0 v1 v2 v3 v4 v5 v6 v7 v8 : Value) : Below B w0 (((((((((w.setCell ⟨g, 0, none⟩ v0).setCell ⟨g, 1, none⟩ v1).setCell ⟨g, 2, none⟩ v2).setCell ⟨g, 3, none⟩ v3).setCell ⟨g, 4, none⟩ v4).setCell ⟨g, 5, none⟩ v5).setCell ⟨g, 6, none⟩ v6).setCell ⟨g, 7, none⟩ v7).setCell ⟨g, 8, none⟩ v8) :=
  (((((((((h.setCell hg _).setCell hg _).setCell hg _).setCell hg _).setCell hg _).setCell hg _).setCell hg _).setCell hg _).setCell hg _)
theorem tms_otherT {w : World} {base : Nat} {v : Value} {l : List Tm} (h : Tms w base v l) (a : Addr) (u : Value) (ha : v.ownBlock ≠ some a.block) : Tms (w.setCell a u) base v l := ⟨ownsRow_setCell_other h.row ha u⟩
theorem Tms.other9 {w : World} {base g : Nat} {v : Value} {l : List Tm} (h : Tms w base v l) (ho : v.ownBlock ≠ some g) (v0 v1 v2 v3 v4 v5 v6 v7 v8 : Value) : Tms (((((((((w.setCell ⟨g, 0, none⟩ v0).setCell ⟨g, 1, none⟩ v1).setCell ⟨g, 2, none⟩ v2).setCell ⟨g, 3, none⟩ v3).setCell ⟨g, 4, none⟩ v4).setCell ⟨g, 5, none⟩ v5).setCell ⟨g, 6, none⟩ v6).setCell ⟨g, 7, none⟩ v7).setCell ⟨g, 8, none⟩ v8) base v l :=
  (tms_otherT (tms_otherT (tms_otherT (tms_otherT (tms_otherT (tms_otherT (tms_otherT (tms_otherT (tms_otherT h _ _ ho) _ _ ho) _ _ ho) _ _ ho) _ _ ho) _ _ ho) _ _ ho) _ _ ho) _ _ ho)

set_option maxHeartbeats 4000000 in
theorem ref_Take5 (a : Option Addr) (len cap : Nat) (bs : List Nat) (x : Int) (w : World) (hr : Rd w a len bs) (hlc : len ≤ cap) (hl : len ≤ 9223372036854775000) (hx : (-9223372036854775808 : Int) ≤ x ∧ x ≤ 9223372036854775807) (L : List Tm) (K F : Nat) (hS : predAt bs x = (L, K, F)) :
    Calls Tryz.prog 13 #[.slice a len cap, .int .i64 x] w fun e w' => ∃ v, e = .returned (.tuple #[v, .int .i64 (K : Int), .int .i64 (F : Int)]) ∧ Tms w' w.heap.size v L ∧ Below w.heap.size w w' := by
  have hcx : ∀ (a : Addr) (m : Mode) (W : World) (x y : Nat), (store a (.complex .f64 x y) m).run Tryz.prog W = stored Tryz.prog W a (.complex .f64 x y) m := fun a m W x y => run_store _ _ _ _ _ rfl
  have HR : Hid (Rd w a len bs) := hr
  have HX : Hid ((-9223372036854775808 : Int) ≤ x ∧ x ≤ 9223372036854775807) := hx
  have HBL : Hid (bs.length = len) := hr.size
  have hsm := take_small bs x hr.byte
  obtain ⟨n, k, f, hT⟩ : ∃ n k f, Leb.take bs x = (n, k, f) := ⟨_, _, _, rfl⟩
  rw [hT] at hsm
  have HT : Hid (Leb.take bs x = (n, k, f)) := hT
  have HS : Hid (predAt bs x = (L, K, F)) := hS
  clear hr hx hT hS
  by_cases hf : f = 0
  · subst hf
    by_cases h8 : 48 < n
    · have HE : Hid (L = [] ∧ K = 0 ∧ F = 6) := by
        have := HS.out
        rw [predAt_limit HT.out h8] at this
        simp only [Prod.mk.injEq] at this
        exact ⟨this.1.symm, this.2.1.symm, this.2.2.symm⟩
      have h8' : (48 : Int) < (n : Int) := by omega
      go_enter Tryz.func13, Tryz.ntmps13
      go_wp2_with fail
      refine (ref_TakeUint a len cap bs x w HR.out hl HX.out).mono ?_
      rw [HT.out, told]
      rintro e w1 ⟨rfl, rfl⟩
      go_wp2
      go_ret3
      obtain ⟨rfl, rfl, rfl⟩ := HE.out
      exact ⟨_, rfl, Tms.nil_ _ _, Below.refl _ _⟩
    · have HG : Hid (endT (goT bs n k []) = (L, K, F)) := by show _ = _; rw [← predAt_go HT.out h8]; exact HS.out
      have hkl : k ≤ bs.length := by
        obtain ⟨_, _, _, h, _, _, _⟩ := Leb.take_once bs x HR.out.byte n k HT.out
        exact h
      rw [HBL.out] at hkl
      have h8' : ¬ (48 : Int) < (n : Int) := by omega
      clear hsm HS
      go_enter Tryz.func13, Tryz.ntmps13
      go_wp2_with fail
      refine (ref_TakeUint a len cap bs x w HR.out hl HX.out).mono ?_
      rw [HT.out, told]
      rintro e w1 ⟨rfl, rfl⟩
      go_wp2
      go_loopw [8, 10, 11] (fun t8 t10 t11 wr => ∃ (i m p : Nat) (acc : List Tm), i + m = n ∧ p ≤ len ∧ acc.length = i ∧ t8 = .int .i64 (p : Int) ∧ t11 = .int .i64 (i : Int) ∧ Hid (Tms wr w1.heap.size t10 acc ∧ ∀ q ∈ acc, TmRight q) ∧ Hid (Below w1.heap.size w1 wr) ∧ Hid (endT (goT bs m p acc) = (L, K, F))) (fun _ _ t11 _ => n - (intOf t11).toNat)
      case atStart => exact ⟨0, n, k, [], by omega, hkl, rfl, rfl, rfl, ⟨Tms.fresh _, fun q h => by cases h⟩, below_alloc _ _, HG⟩
      case round =>
        obtain ⟨i, m, p, acc, him, hp, hal, rfl, rfl, HF, HB, HGO⟩ := hrel
        by_cases hlt : i < n
        · have hlt' : (i : Int) < (n : Int) := by omega
          obtain ⟨m, rfl⟩ : ∃ m', m = m' + 1 := ⟨m - 1, by omega⟩
          obtain ⟨u10a, u10n, u10c, rfl⟩ : ∃ a n c, u10 = .slice a n c := by
            obtain ⟨a, c, e⟩ := HF.out.1.form
            exact ⟨a, _, c, e⟩
          have hal2 : acc.length ≤ 100000 := by omega
          by_cases hpl : p = len
          · have hpl' : ((p : Int) == (len : Int)) = true := by rw [hpl]; simp
            have HQ : Hid (termAt bs p = (Tm.zero, 0, 3)) := by show _ = _; unfold termAt; rw [if_pos (by rw [HBL.out]; exact hpl)]
            clear hpl
            have HE : Hid (L = [] ∧ K = 0 ∧ F = 3) := by
              have := HGO.out
              rw [goT_err HQ.out (by decide), endT, if_neg (by decide)] at this
              simp only [Prod.mk.injEq] at this
              exact ⟨this.1.symm, this.2.1.symm, this.2.2.symm⟩
            clear HGO
            go_wp2
            go_ret3
            obtain ⟨rfl, rfl, rfl⟩ := HE.out
            exact ⟨_, rfl, Tms.nil_ _ _, HB.out⟩
          · have hpl' : ((p : Int) == (len : Int)) = false := by rw [beq_eq_false_iff_ne]; omega
            have hpi : (p : Int) < (len : Int) := by omega
            obtain ⟨b, off, HAE⟩ : ∃ b off, Hid (a = some ⟨b, off, none⟩) := by
              rcases HR.out.cells with h0 | ⟨b, off, e, _⟩
              · have := HBL.out; have := HR.out.size; omega
              · exact ⟨b, off, e⟩
            obtain rfl := HAE.out
            have hc256 : bs.getD p 0 < 256 := getD_lt HR.out.byte p
            have hcell := rd_cell_at (HR.out.below HB.out) p (by omega)
            have HTA : Hid (termAt bs p = if bs.getD p 0 < 1 ∨ 6 < bs.getD p 0 then (Tm.zero, 0, 2) else if bs.getD p 0 = 3 then atomAt bs (p + 1) else (Tm.plain (bs.getD p 0), p + 1, 0)) := by show _ = _; unfold termAt; rw [if_neg (by rw [HBL.out]; exact hpl)]
            obtain ⟨c, hc⟩ : ∃ c, bs.getD p 0 = c := ⟨_, rfl⟩
            rw [hc] at hc256 hcell HTA
            clear hc HAE
            by_cases hc0 : c < 1
            · have HQ : Hid (termAt bs p = (Tm.zero, 0, 2)) := by show _ = _; rw [HTA.out, if_pos (.inl hc0)]
              have k1 : (c : Int) < 1 := by omega
              clear hc0 HTA hpl
              have HE : Hid (L = [] ∧ K = 0 ∧ F = 2) := by
                have := HGO.out
                rw [goT_err HQ.out (by decide), endT, if_neg (by decide)] at this
                simp only [Prod.mk.injEq] at this
                exact ⟨this.1.symm, this.2.1.symm, this.2.2.symm⟩
              clear HGO
              go_wp2
              go_ret3
              obtain ⟨rfl, rfl, rfl⟩ := HE.out
              exact ⟨_, rfl, Tms.nil_ _ _, HB.out.alloc HB.out.size _⟩
            by_cases hc6 : 6 < c
            · have HQ : Hid (termAt bs p = (Tm.zero, 0, 2)) := by show _ = _; rw [HTA.out, if_pos (.inr hc6)]
              have k1 : ¬ (c : Int) < 1 := by omega
              have k2 : (6 : Int) < (c : Int) := by omega
              clear hc0 hc6 HTA hpl
              have HE : Hid (L = [] ∧ K = 0 ∧ F = 2) := by
                have := HGO.out
                rw [goT_err HQ.out (by decide), endT, if_neg (by decide)] at this
                simp only [Prod.mk.injEq] at this
                exact ⟨this.1.symm, this.2.1.symm, this.2.2.symm⟩
              clear HGO
              go_wp2
              go_ret3
              obtain ⟨rfl, rfl, rfl⟩ := HE.out
              exact ⟨_, rfl, Tms.nil_ _ _, HB.out.alloc HB.out.size _⟩
            have k1 : ¬ (c : Int) < 1 := by omega
            have k2 : ¬ (6 : Int) < (c : Int) := by omega
            have hp1 : p + 1 ≤ len := by omega
            by_cases hc3 : c = 3
            · subst hc3
              rcases hq : atomAt bs (p + 1) with ⟨q0, k1', f1⟩
              have HQ : Hid (termAt bs p = (q0, k1', f1)) := by show _ = _; rw [HTA.out, if_neg (by omega), if_pos rfl]; exact hq
              have HSC : Hid (∀ w, Rd w (some ⟨b, off, none⟩) len bs → Calls Tryz.prog 23 #[.slice (some ⟨b, off, none⟩) len cap, .int .i64 ((p : Int) + 1)] w fun e w' => ∃ q, e = toldTm (q, k1', f1) ∧ (f1 = 0 → q = q0) ∧ Below w.heap.size w w') := fun w h => ref_some5 (some ⟨b, off, none⟩) len cap bs (p + 1) w h hlc hl hp1 q0 k1' f1 hq
              clear hq HTA hc0 hc6 hpl
              by_cases hf1 : f1 = 0
              · subst hf1
                have HGO' : Hid (endT (goT bs m k1' (acc ++ [q0])) = (L, K, F)) := by show _ = _; rw [← goT_ok HQ.out]; exact HGO.out
                obtain ⟨hk1, hqr⟩ := termAt_fine HR.out.byte (by rw [HBL.out]; exact hp) HQ.out
                rw [HBL.out] at hk1
                have HQR : Hid (∀ q' ∈ acc ++ [q0], TmRight q') := by
                  intro q' h
                  rcases List.mem_append.1 h with h | h
                  · exact HF.out.2 q' h
                  · rw [List.mem_singleton] at h; rw [h]; exact hqr
                have HOB : Hid ((Value.slice u10a u10n u10c).ownBlock ≠ some wr.heap.size) := fun h => absurd (HF.out.1.row.lt _ h).2 (Nat.lt_irrefl _)
                clear HGO hqr HQ
                go_wp2_with fail
                refine (HSC.out _ (HR.out.below (HB.out.alloc HB.out.size _))).mono ?_
                rintro e w2 ⟨q, rfl, hqe, hb2⟩
                obtain rfl := hqe (by trivial)
                have HB2 : Hid (Below w1.heap.size w1 w2) := (HB.out.alloc HB.out.size _).trans (hb2.mono (HB.out.alloc HB.out.size _).size)
                have HF2 : Hid (Tms w2 w1.heap.size (.slice u10a u10n u10c) acc) := (HF.out.1.below (below_alloc _ _)).below hb2
                have HKT : Hid (Blk w2 wr.heap.size #[.int .i64 3, .string ⟨#[]⟩, .int .i64 0, .int .i64 0, .int .i64 0, .string ⟨#[]⟩, .bool false, .complex .f64 0 0, .int .i64 0] 58) := (Blk.new wr _ _).stay hb2
                clear hb2 hqe hcell
                obtain ⟨op, nm, cm, ⟨vk, vw, vs, vt, vx, vy⟩, r⟩ := q
                simp only [toldTm, Tm.cells]
                have HKX : Hid (Blk (w2.alloc (.cells #[.int .i64 (op : Int), .string nm, .int .i64 (cm : Int), .int .i64 vk, .int .i64 vw, .string vs, .bool vt, .complex .f64 vx vy, .int .i64 (r : Int)] 58)) wr.heap.size #[.int .i64 3, .string ⟨#[]⟩, .int .i64 0, .int .i64 0, .int .i64 0, .string ⟨#[]⟩, .bool false, .complex .f64 0 0, .int .i64 0] 58) := HKT.out.stay (below_alloc _ _)
                have HK3 : Hid (Blk ((((((((((w2.alloc (.cells #[.int .i64 (op : Int), .string nm, .int .i64 (cm : Int), .int .i64 vk, .int .i64 vw, .string vs, .bool vt, .complex .f64 vx vy, .int .i64 (r : Int)] 58)).setCell ⟨wr.heap.size, 0, none⟩ (.int .i64 (op : Int))).setCell ⟨wr.heap.size, 1, none⟩ (.string nm)).setCell ⟨wr.heap.size, 2, none⟩ (.int .i64 (cm : Int))).setCell ⟨wr.heap.size, 3, none⟩ (.int .i64 vk)).setCell ⟨wr.heap.size, 4, none⟩ (.int .i64 vw)).setCell ⟨wr.heap.size, 5, none⟩ (.string vs)).setCell ⟨wr.heap.size, 6, none⟩ (.bool vt)).setCell ⟨wr.heap.size, 7, none⟩ (.complex .f64 vx vy)).setCell ⟨wr.heap.size, 8, none⟩ (.int .i64 (r : Int))) wr.heap.size #[.int .i64 (op : Int), .string nm, .int .i64 (cm : Int), .int .i64 vk, .int .i64 vw, .string vs, .bool vt, .complex .f64 vx vy, .int .i64 (r : Int)] 58) := Blk.set9R HKX.out _ _ _ _ _ _ _ _ _
                have HB3 : Hid (Below w1.heap.size w1 ((((((((((w2.alloc (.cells #[.int .i64 (op : Int), .string nm, .int .i64 (cm : Int), .int .i64 vk, .int .i64 vw, .string vs, .bool vt, .complex .f64 vx vy, .int .i64 (r : Int)] 58)).setCell ⟨wr.heap.size, 0, none⟩ (.int .i64 (op : Int))).setCell ⟨wr.heap.size, 1, none⟩ (.string nm)).setCell ⟨wr.heap.size, 2, none⟩ (.int .i64 (cm : Int))).setCell ⟨wr.heap.size, 3, none⟩ (.int .i64 vk)).setCell ⟨wr.heap.size, 4, none⟩ (.int .i64 vw)).setCell ⟨wr.heap.size, 5, none⟩ (.string vs)).setCell ⟨wr.heap.size, 6, none⟩ (.bool vt)).setCell ⟨wr.heap.size, 7, none⟩ (.complex .f64 vx vy)).setCell ⟨wr.heap.size, 8, none⟩ (.int .i64 (r : Int)))) := Below.set9T (HB2.out.alloc HB2.out.size _) HB.out.size _ _ _ _ _ _ _ _ _
                have HF3 : Hid (Tms ((((((((((w2.alloc (.cells #[.int .i64 (op : Int), .string nm, .int .i64 (cm : Int), .int .i64 vk, .int .i64 vw, .string vs, .bool vt, .complex .f64 vx vy, .int .i64 (r : Int)] 58)).setCell ⟨wr.heap.size, 0, none⟩ (.int .i64 (op : Int))).setCell ⟨wr.heap.size, 1, none⟩ (.string nm)).setCell ⟨wr.heap.size, 2, none⟩ (.int .i64 (cm : Int))).setCell ⟨wr.heap.size, 3, none⟩ (.int .i64 vk)).setCell ⟨wr.heap.size, 4, none⟩ (.int .i64 vw)).setCell ⟨wr.heap.size, 5, none⟩ (.string vs)).setCell ⟨wr.heap.size, 6, none⟩ (.bool vt)).setCell ⟨wr.heap.size, 7, none⟩ (.complex .f64 vx vy)).setCell ⟨wr.heap.size, 8, none⟩ (.int .i64 (r : Int))) w1.heap.size (.slice u10a u10n u10c) acc) := Tms.other9 (HF2.out.below (below_alloc _ _)) HOB.out _ _ _ _ _ _ _ _ _
                have r0 : (w2.alloc (.cells #[.int .i64 (op : Int), .string nm, .int .i64 (cm : Int), .int .i64 vk, .int .i64 vw, .string vs, .bool vt, .complex .f64 vx vy, .int .i64 (r : Int)] 58)).cell? ⟨wr.heap.size, 0, none⟩ = some (.int .i64 3) := HKX.out.cell 0 rfl
                have rf0 := HKX.out.free 0
                have r1 : (w2.alloc (.cells #[.int .i64 (op : Int), .string nm, .int .i64 (cm : Int), .int .i64 vk, .int .i64 vw, .string vs, .bool vt, .complex .f64 vx vy, .int .i64 (r : Int)] 58)).cell? ⟨wr.heap.size, 1, none⟩ = some (.string ⟨#[]⟩) := HKX.out.cell 1 rfl
                have rf1 := HKX.out.free 1
                have r2 : (w2.alloc (.cells #[.int .i64 (op : Int), .string nm, .int .i64 (cm : Int), .int .i64 vk, .int .i64 vw, .string vs, .bool vt, .complex .f64 vx vy, .int .i64 (r : Int)] 58)).cell? ⟨wr.heap.size, 2, none⟩ = some (.int .i64 0) := HKX.out.cell 2 rfl
                have rf2 := HKX.out.free 2
                have r3 : (w2.alloc (.cells #[.int .i64 (op : Int), .string nm, .int .i64 (cm : Int), .int .i64 vk, .int .i64 vw, .string vs, .bool vt, .complex .f64 vx vy, .int .i64 (r : Int)] 58)).cell? ⟨wr.heap.size, 3, none⟩ = some (.int .i64 0) := HKX.out.cell 3 rfl
                have rf3 := HKX.out.free 3
                have r4 : (w2.alloc (.cells #[.int .i64 (op : Int), .string nm, .int .i64 (cm : Int), .int .i64 vk, .int .i64 vw, .string vs, .bool vt, .complex .f64 vx vy, .int .i64 (r : Int)] 58)).cell? ⟨wr.heap.size, 4, none⟩ = some (.int .i64 0) := HKX.out.cell 4 rfl
                have rf4 := HKX.out.free 4
                have r5 : (w2.alloc (.cells #[.int .i64 (op : Int), .string nm, .int .i64 (cm : Int), .int .i64 vk, .int .i64 vw, .string vs, .bool vt, .complex .f64 vx vy, .int .i64 (r : Int)] 58)).cell? ⟨wr.heap.size, 5, none⟩ = some (.string ⟨#[]⟩) := HKX.out.cell 5 rfl
                have rf5 := HKX.out.free 5
                have r6 : (w2.alloc (.cells #[.int .i64 (op : Int), .string nm, .int .i64 (cm : Int), .int .i64 vk, .int .i64 vw, .string vs, .bool vt, .complex .f64 vx vy, .int .i64 (r : Int)] 58)).cell? ⟨wr.heap.size, 6, none⟩ = some (.bool false) := HKX.out.cell 6 rfl
                have rf6 := HKX.out.free 6
                have r7 : (w2.alloc (.cells #[.int .i64 (op : Int), .string nm, .int .i64 (cm : Int), .int .i64 vk, .int .i64 vw, .string vs, .bool vt, .complex .f64 vx vy, .int .i64 (r : Int)] 58)).cell? ⟨wr.heap.size, 7, none⟩ = some (.complex .f64 0 0) := HKX.out.cell 7 rfl
                have rf7 := HKX.out.free 7
                have r8 : (w2.alloc (.cells #[.int .i64 (op : Int), .string nm, .int .i64 (cm : Int), .int .i64 vk, .int .i64 vw, .string vs, .bool vt, .complex .f64 vx vy, .int .i64 (r : Int)] 58)).cell? ⟨wr.heap.size, 8, none⟩ = some (.int .i64 0) := HKX.out.cell 8 rfl
                have rf8 := HKX.out.free 8
                have s0 : ((((((((((w2.alloc (.cells #[.int .i64 (op : Int), .string nm, .int .i64 (cm : Int), .int .i64 vk, .int .i64 vw, .string vs, .bool vt, .complex .f64 vx vy, .int .i64 (r : Int)] 58)).setCell ⟨wr.heap.size, 0, none⟩ (.int .i64 (op : Int))).setCell ⟨wr.heap.size, 1, none⟩ (.string nm)).setCell ⟨wr.heap.size, 2, none⟩ (.int .i64 (cm : Int))).setCell ⟨wr.heap.size, 3, none⟩ (.int .i64 vk)).setCell ⟨wr.heap.size, 4, none⟩ (.int .i64 vw)).setCell ⟨wr.heap.size, 5, none⟩ (.string vs)).setCell ⟨wr.heap.size, 6, none⟩ (.bool vt)).setCell ⟨wr.heap.size, 7, none⟩ (.complex .f64 vx vy)).setCell ⟨wr.heap.size, 8, none⟩ (.int .i64 (r : Int))).cell? ⟨wr.heap.size, 0, none⟩ = some (.int .i64 (op : Int)) := HK3.out.cell 0 rfl
                have s1 : ((((((((((w2.alloc (.cells #[.int .i64 (op : Int), .string nm, .int .i64 (cm : Int), .int .i64 vk, .int .i64 vw, .string vs, .bool vt, .complex .f64 vx vy, .int .i64 (r : Int)] 58)).setCell ⟨wr.heap.size, 0, none⟩ (.int .i64 (op : Int))).setCell ⟨wr.heap.size, 1, none⟩ (.string nm)).setCell ⟨wr.heap.size, 2, none⟩ (.int .i64 (cm : Int))).setCell ⟨wr.heap.size, 3, none⟩ (.int .i64 vk)).setCell ⟨wr.heap.size, 4, none⟩ (.int .i64 vw)).setCell ⟨wr.heap.size, 5, none⟩ (.string vs)).setCell ⟨wr.heap.size, 6, none⟩ (.bool vt)).setCell ⟨wr.heap.size, 7, none⟩ (.complex .f64 vx vy)).setCell ⟨wr.heap.size, 8, none⟩ (.int .i64 (r : Int))).cell? ⟨wr.heap.size, 1, none⟩ = some (.string nm) := HK3.out.cell 1 rfl
                have s2 : ((((((((((w2.alloc (.cells #[.int .i64 (op : Int), .string nm, .int .i64 (cm : Int), .int .i64 vk, .int .i64 vw, .string vs, .bool vt, .complex .f64 vx vy, .int .i64 (r : Int)] 58)).setCell ⟨wr.heap.size, 0, none⟩ (.int .i64 (op : Int))).setCell ⟨wr.heap.size, 1, none⟩ (.string nm)).setCell ⟨wr.heap.size, 2, none⟩ (.int .i64 (cm : Int))).setCell ⟨wr.heap.size, 3, none⟩ (.int .i64 vk)).setCell ⟨wr.heap.size, 4, none⟩ (.int .i64 vw)).setCell ⟨wr.heap.size, 5, none⟩ (.string vs)).setCell ⟨wr.heap.size, 6, none⟩ (.bool vt)).setCell ⟨wr.heap.size, 7, none⟩ (.complex .f64 vx vy)).setCell ⟨wr.heap.size, 8, none⟩ (.int .i64 (r : Int))).cell? ⟨wr.heap.size, 2, none⟩ = some (.int .i64 (cm : Int)) := HK3.out.cell 2 rfl
                have s3 : ((((((((((w2.alloc (.cells #[.int .i64 (op : Int), .string nm, .int .i64 (cm : Int), .int .i64 vk, .int .i64 vw, .string vs, .bool vt, .complex .f64 vx vy, .int .i64 (r : Int)] 58)).setCell ⟨wr.heap.size, 0, none⟩ (.int .i64 (op : Int))).setCell ⟨wr.heap.size, 1, none⟩ (.string nm)).setCell ⟨wr.heap.size, 2, none⟩ (.int .i64 (cm : Int))).setCell ⟨wr.heap.size, 3, none⟩ (.int .i64 vk)).setCell ⟨wr.heap.size, 4, none⟩ (.int .i64 vw)).setCell ⟨wr.heap.size, 5, none⟩ (.string vs)).setCell ⟨wr.heap.size, 6, none⟩ (.bool vt)).setCell ⟨wr.heap.size, 7, none⟩ (.complex .f64 vx vy)).setCell ⟨wr.heap.size, 8, none⟩ (.int .i64 (r : Int))).cell? ⟨wr.heap.size, 3, none⟩ = some (.int .i64 vk) := HK3.out.cell 3 rfl
                have s4 : ((((((((((w2.alloc (.cells #[.int .i64 (op : Int), .string nm, .int .i64 (cm : Int), .int .i64 vk, .int .i64 vw, .string vs, .bool vt, .complex .f64 vx vy, .int .i64 (r : Int)] 58)).setCell ⟨wr.heap.size, 0, none⟩ (.int .i64 (op : Int))).setCell ⟨wr.heap.size, 1, none⟩ (.string nm)).setCell ⟨wr.heap.size, 2, none⟩ (.int .i64 (cm : Int))).setCell ⟨wr.heap.size, 3, none⟩ (.int .i64 vk)).setCell ⟨wr.heap.size, 4, none⟩ (.int .i64 vw)).setCell ⟨wr.heap.size, 5, none⟩ (.string vs)).setCell ⟨wr.heap.size, 6, none⟩ (.bool vt)).setCell ⟨wr.heap.size, 7, none⟩ (.complex .f64 vx vy)).setCell ⟨wr.heap.size, 8, none⟩ (.int .i64 (r : Int))).cell? ⟨wr.heap.size, 4, none⟩ = some (.int .i64 vw) := HK3.out.cell 4 rfl
                have s5 : ((((((((((w2.alloc (.cells #[.int .i64 (op : Int), .string nm, .int .i64 (cm : Int), .int .i64 vk, .int .i64 vw, .string vs, .bool vt, .complex .f64 vx vy, .int .i64 (r : Int)] 58)).setCell ⟨wr.heap.size, 0, none⟩ (.int .i64 (op : Int))).setCell ⟨wr.heap.size, 1, none⟩ (.string nm)).setCell ⟨wr.heap.size, 2, none⟩ (.int .i64 (cm : Int))).setCell ⟨wr.heap.size, 3, none⟩ (.int .i64 vk)).setCell ⟨wr.heap.size, 4, none⟩ (.int .i64 vw)).setCell ⟨wr.heap.size, 5, none⟩ (.string vs)).setCell ⟨wr.heap.size, 6, none⟩ (.bool vt)).setCell ⟨wr.heap.size, 7, none⟩ (.complex .f64 vx vy)).setCell ⟨wr.heap.size, 8, none⟩ (.int .i64 (r : Int))).cell? ⟨wr.heap.size, 5, none⟩ = some (.string vs) := HK3.out.cell 5 rfl
                have s6 : ((((((((((w2.alloc (.cells #[.int .i64 (op : Int), .string nm, .int .i64 (cm : Int), .int .i64 vk, .int .i64 vw, .string vs, .bool vt, .complex .f64 vx vy, .int .i64 (r : Int)] 58)).setCell ⟨wr.heap.size, 0, none⟩ (.int .i64 (op : Int))).setCell ⟨wr.heap.size, 1, none⟩ (.string nm)).setCell ⟨wr.heap.size, 2, none⟩ (.int .i64 (cm : Int))).setCell ⟨wr.heap.size, 3, none⟩ (.int .i64 vk)).setCell ⟨wr.heap.size, 4, none⟩ (.int .i64 vw)).setCell ⟨wr.heap.size, 5, none⟩ (.string vs)).setCell ⟨wr.heap.size, 6, none⟩ (.bool vt)).setCell ⟨wr.heap.size, 7, none⟩ (.complex .f64 vx vy)).setCell ⟨wr.heap.size, 8, none⟩ (.int .i64 (r : Int))).cell? ⟨wr.heap.size, 6, none⟩ = some (.bool vt) := HK3.out.cell 6 rfl
                have s7 : ((((((((((w2.alloc (.cells #[.int .i64 (op : Int), .string nm, .int .i64 (cm : Int), .int .i64 vk, .int .i64 vw, .string vs, .bool vt, .complex .f64 vx vy, .int .i64 (r : Int)] 58)).setCell ⟨wr.heap.size, 0, none⟩ (.int .i64 (op : Int))).setCell ⟨wr.heap.size, 1, none⟩ (.string nm)).setCell ⟨wr.heap.size, 2, none⟩ (.int .i64 (cm : Int))).setCell ⟨wr.heap.size, 3, none⟩ (.int .i64 vk)).setCell ⟨wr.heap.size, 4, none⟩ (.int .i64 vw)).setCell ⟨wr.heap.size, 5, none⟩ (.string vs)).setCell ⟨wr.heap.size, 6, none⟩ (.bool vt)).setCell ⟨wr.heap.size, 7, none⟩ (.complex .f64 vx vy)).setCell ⟨wr.heap.size, 8, none⟩ (.int .i64 (r : Int))).cell? ⟨wr.heap.size, 7, none⟩ = some (.complex .f64 vx vy) := HK3.out.cell 7 rfl
                have s8 : ((((((((((w2.alloc (.cells #[.int .i64 (op : Int), .string nm, .int .i64 (cm : Int), .int .i64 vk, .int .i64 vw, .string vs, .bool vt, .complex .f64 vx vy, .int .i64 (r : Int)] 58)).setCell ⟨wr.heap.size, 0, none⟩ (.int .i64 (op : Int))).setCell ⟨wr.heap.size, 1, none⟩ (.string nm)).setCell ⟨wr.heap.size, 2, none⟩ (.int .i64 (cm : Int))).setCell ⟨wr.heap.size, 3, none⟩ (.int .i64 vk)).setCell ⟨wr.heap.size, 4, none⟩ (.int .i64 vw)).setCell ⟨wr.heap.size, 5, none⟩ (.string vs)).setCell ⟨wr.heap.size, 6, none⟩ (.bool vt)).setCell ⟨wr.heap.size, 7, none⟩ (.complex .f64 vx vy)).setCell ⟨wr.heap.size, 8, none⟩ (.int .i64 (r : Int))).cell? ⟨wr.heap.size, 8, none⟩ = some (.int .i64 (r : Int)) := HK3.out.cell 8 rfl
                have HKN : Hid (Blk (((((((((((w2.alloc (.cells #[.int .i64 (op : Int), .string nm, .int .i64 (cm : Int), .int .i64 vk, .int .i64 vw, .string vs, .bool vt, .complex .f64 vx vy, .int .i64 (r : Int)] 58)).setCell ⟨wr.heap.size, 0, none⟩ (.int .i64 (op : Int))).setCell ⟨wr.heap.size, 1, none⟩ (.string nm)).setCell ⟨wr.heap.size, 2, none⟩ (.int .i64 (cm : Int))).setCell ⟨wr.heap.size, 3, none⟩ (.int .i64 vk)).setCell ⟨wr.heap.size, 4, none⟩ (.int .i64 vw)).setCell ⟨wr.heap.size, 5, none⟩ (.string vs)).setCell ⟨wr.heap.size, 6, none⟩ (.bool vt)).setCell ⟨wr.heap.size, 7, none⟩ (.complex .f64 vx vy)).setCell ⟨wr.heap.size, 8, none⟩ (.int .i64 (r : Int))).alloc (.cells #[.int .i64 (op : Int), .string nm, .int .i64 (cm : Int), .int .i64 vk, .int .i64 vw, .string vs, .bool vt, .complex .f64 vx vy, .int .i64 (r : Int)] 58)) ((((((((((w2.alloc (.cells #[.int .i64 (op : Int), .string nm, .int .i64 (cm : Int), .int .i64 vk, .int .i64 vw, .string vs, .bool vt, .complex .f64 vx vy, .int .i64 (r : Int)] 58)).setCell ⟨wr.heap.size, 0, none⟩ (.int .i64 (op : Int))).setCell ⟨wr.heap.size, 1, none⟩ (.string nm)).setCell ⟨wr.heap.size, 2, none⟩ (.int .i64 (cm : Int))).setCell ⟨wr.heap.size, 3, none⟩ (.int .i64 vk)).setCell ⟨wr.heap.size, 4, none⟩ (.int .i64 vw)).setCell ⟨wr.heap.size, 5, none⟩ (.string vs)).setCell ⟨wr.heap.size, 6, none⟩ (.bool vt)).setCell ⟨wr.heap.size, 7, none⟩ (.complex .f64 vx vy)).setCell ⟨wr.heap.size, 8, none⟩ (.int .i64 (r : Int))).heap.size #[.int .i64 (op : Int), .string nm, .int .i64 (cm : Int), .int .i64 vk, .int .i64 vw, .string vs, .bool vt, .complex .f64 vx vy, .int .i64 (r : Int)] 58) := Blk.new _ _ _
                have hsz : ((((((((((w2.alloc (.cells #[.int .i64 (op : Int), .string nm, .int .i64 (cm : Int), .int .i64 vk, .int .i64 vw, .string vs, .bool vt, .complex .f64 vx vy, .int .i64 (r : Int)] 58)).setCell ⟨wr.heap.size, 0, none⟩ (.int .i64 (op : Int))).setCell ⟨wr.heap.size, 1, none⟩ (.string nm)).setCell ⟨wr.heap.size, 2, none⟩ (.int .i64 (cm : Int))).setCell ⟨wr.heap.size, 3, none⟩ (.int .i64 vk)).setCell ⟨wr.heap.size, 4, none⟩ (.int .i64 vw)).setCell ⟨wr.heap.size, 5, none⟩ (.string vs)).setCell ⟨wr.heap.size, 6, none⟩ (.bool vt)).setCell ⟨wr.heap.size, 7, none⟩ (.complex .f64 vx vy)).setCell ⟨wr.heap.size, 8, none⟩ (.int .i64 (r : Int))).heap.size = w2.heap.size + 1 := by simp
                rw [hsz] at HKN
                have HF4 : Hid (Tms (((((((((((w2.alloc (.cells #[.int .i64 (op : Int), .string nm, .int .i64 (cm : Int), .int .i64 vk, .int .i64 vw, .string vs, .bool vt, .complex .f64 vx vy, .int .i64 (r : Int)] 58)).setCell ⟨wr.heap.size, 0, none⟩ (.int .i64 (op : Int))).setCell ⟨wr.heap.size, 1, none⟩ (.string nm)).setCell ⟨wr.heap.size, 2, none⟩ (.int .i64 (cm : Int))).setCell ⟨wr.heap.size, 3, none⟩ (.int .i64 vk)).setCell ⟨wr.heap.size, 4, none⟩ (.int .i64 vw)).setCell ⟨wr.heap.size, 5, none⟩ (.string vs)).setCell ⟨wr.heap.size, 6, none⟩ (.bool vt)).setCell ⟨wr.heap.size, 7, none⟩ (.complex .f64 vx vy)).setCell ⟨wr.heap.size, 8, none⟩ (.int .i64 (r : Int))).alloc (.cells #[.int .i64 (op : Int), .string nm, .int .i64 (cm : Int), .int .i64 vk, .int .i64 vw, .string vs, .bool vt, .complex .f64 vx vy, .int .i64 (r : Int)] 58)) w1.heap.size (.slice u10a u10n u10c) acc) := HF3.out.below (below_alloc _ _)
                have HB4 : Hid (Below w1.heap.size w1 (((((((((((w2.alloc (.cells #[.int .i64 (op : Int), .string nm, .int .i64 (cm : Int), .int .i64 vk, .int .i64 vw, .string vs, .bool vt, .complex .f64 vx vy, .int .i64 (r : Int)] 58)).setCell ⟨wr.heap.size, 0, none⟩ (.int .i64 (op : Int))).setCell ⟨wr.heap.size, 1, none⟩ (.string nm)).setCell ⟨wr.heap.size, 2, none⟩ (.int .i64 (cm : Int))).setCell ⟨wr.heap.size, 3, none⟩ (.int .i64 vk)).setCell ⟨wr.heap.size, 4, none⟩ (.int .i64 vw)).setCell ⟨wr.heap.size, 5, none⟩ (.string vs)).setCell ⟨wr.heap.size, 6, none⟩ (.bool vt)).setCell ⟨wr.heap.size, 7, none⟩ (.complex .f64 vx vy)).setCell ⟨wr.heap.size, 8, none⟩ (.int .i64 (r : Int))).alloc (.cells #[.int .i64 (op : Int), .string nm, .int .i64 (cm : Int), .int .i64 vk, .int .i64 vw, .string vs, .bool vt, .complex .f64 vx vy, .int .i64 (r : Int)] 58))) := HB3.out.alloc HB3.out.size _
                clear hsz
                go_wp2_with (at_builtin; refine wpList_append_tm rfl (.tmp 70) (.tmp 72) rfl w1.heap.size _ acc rfl HF4.out ⟨w2.heap.size + 1, 0, none⟩ 1 ⟨op, nm, cm, ⟨vk, vw, vs, vt, vx, vy⟩, r⟩ rfl (Tm.told HKN.out) hal2 HB4.out.size ?_)
                intro v' w3 ht hg
                have HF5 : Hid (Tms w3 w1.heap.size v' (acc ++ [⟨op, nm, cm, ⟨vk, vw, vs, vt, vx, vy⟩, r⟩]) ∧ ∀ q' ∈ acc ++ [⟨op, nm, cm, ⟨vk, vw, vs, vt, vx, vy⟩, r⟩], TmRight q') := ⟨ht, HQR.out⟩
                have HB5 : Hid (Below w1.heap.size w1 w3) := HB4.out.trans ((Below.refl _ _).grown hg HB4.out.size (fun k hk => Tms.at_ HF4.out hk))
                obtain ⟨a3, c3, rfl⟩ := ht.form
                clear ht hg HF4 HB4 HF3 HB3 HK3 HKX HKN HKT HF2 HB2 r0 r1 r2 r3 r4 r5 r6 r7 r8 rf0 rf1 rf2 rf3 rf4 rf5 rf6 rf7 rf8 s0 s1 s2 s3 s4 s5 s6 s7 s8
                go_wp2
                go_roundw
                case rel => exact ⟨i + 1, m, k1', acc ++ [⟨op, nm, cm, ⟨vk, vw, vs, vt, vx, vy⟩, r⟩], by omega, hk1, by simp; omega, rfl, by go_num, HF5, HB5, HGO'⟩
                case measure => simp [intOf]; omega
              · have hf1' : (f1 : Int) ≠ 0 := by omega
                have HE : Hid (L = [] ∧ K = 0 ∧ F = f1) := by
                  have := HGO.out
                  rw [goT_err HQ.out hf1, endT, if_neg hf1] at this
                  simp only [Prod.mk.injEq] at this
                  exact ⟨this.1.symm, this.2.1.symm, this.2.2.symm⟩
                clear HGO
                go_wp2_with fail
                refine (HSC.out _ (HR.out.below (HB.out.alloc HB.out.size _))).mono ?_
                rintro e w2 ⟨q, rfl, _, hb2⟩
                have HB2 : Hid (Below w1.heap.size w1 w2) := (HB.out.alloc HB.out.size _).trans (hb2.mono (HB.out.alloc HB.out.size _).size)
                clear hb2 hcell
                obtain ⟨op, nm, cm, ⟨vk, vw, vs, vt, vx, vy⟩, r⟩ := q
                simp only [toldTm, Tm.cells]
                go_wp2
                go_ret3
                obtain ⟨rfl, rfl, rfl⟩ := HE.out
                exact ⟨_, rfl, Tms.nil_ _ _, HB2.out.alloc HB2.out.size _⟩
            · have k3 : ((c : Int) == 3) = false := by rw [beq_eq_false_iff_ne]; omega
              have HQ : Hid (termAt bs p = (Tm.plain c, p + 1, 0)) := by show _ = _; rw [HTA.out, if_neg (by omega), if_neg hc3]
              have HGO' : Hid (endT (goT bs m (p + 1) (acc ++ [Tm.plain c])) = (L, K, F)) := by show _ = _; rw [← goT_ok HQ.out]; exact HGO.out
              have hqr := (termAt_fine HR.out.byte (by rw [HBL.out]; exact hp) HQ.out).2
              have HQR : Hid (∀ q' ∈ acc ++ [Tm.plain c], TmRight q') := by
                intro q' h
                rcases List.mem_append.1 h with h | h
                · exact HF.out.2 q' h
                · rw [List.mem_singleton] at h; rw [h]; exact hqr
              have hws : (wr.alloc (.cells #[.int .i64 (c : Int), .string ⟨#[]⟩, .int .i64 0, .int .i64 0, .int .i64 0, .string ⟨#[]⟩, .bool false, .complex .f64 0 0, .int .i64 0] 58)).heap.size = wr.heap.size + 1 := by simp
              have HKN : Hid (Blk ((wr.alloc (.cells #[.int .i64 (c : Int), .string ⟨#[]⟩, .int .i64 0, .int .i64 0, .int .i64 0, .string ⟨#[]⟩, .bool false, .complex .f64 0 0, .int .i64 0] 58)).alloc (.cells #[.int .i64 (c : Int), .string ⟨#[]⟩, .int .i64 0, .int .i64 0, .int .i64 0, .string ⟨#[]⟩, .bool false, .complex .f64 0 0, .int .i64 0] 58)) (wr.alloc (.cells #[.int .i64 (c : Int), .string ⟨#[]⟩, .int .i64 0, .int .i64 0, .int .i64 0, .string ⟨#[]⟩, .bool false, .complex .f64 0 0, .int .i64 0] 58)).heap.size #[.int .i64 (c : Int), .string ⟨#[]⟩, .int .i64 0, .int .i64 0, .int .i64 0, .string ⟨#[]⟩, .bool false, .complex .f64 0 0, .int .i64 0] 58) := Blk.new _ _ _
              rw [hws] at HKN
              have HF4 : Hid (Tms ((wr.alloc (.cells #[.int .i64 (c : Int), .string ⟨#[]⟩, .int .i64 0, .int .i64 0, .int .i64 0, .string ⟨#[]⟩, .bool false, .complex .f64 0 0, .int .i64 0] 58)).alloc (.cells #[.int .i64 (c : Int), .string ⟨#[]⟩, .int .i64 0, .int .i64 0, .int .i64 0, .string ⟨#[]⟩, .bool false, .complex .f64 0 0, .int .i64 0] 58)) w1.heap.size (.slice u10a u10n u10c) acc) := (HF.out.1.below (below_alloc _ _)).below (below_alloc _ _)
              have HB4 : Hid (Below w1.heap.size w1 ((wr.alloc (.cells #[.int .i64 (c : Int), .string ⟨#[]⟩, .int .i64 0, .int .i64 0, .int .i64 0, .string ⟨#[]⟩, .bool false, .complex .f64 0 0, .int .i64 0] 58)).alloc (.cells #[.int .i64 (c : Int), .string ⟨#[]⟩, .int .i64 0, .int .i64 0, .int .i64 0, .string ⟨#[]⟩, .bool false, .complex .f64 0 0, .int .i64 0] 58))) := (HB.out.alloc HB.out.size _).alloc (HB.out.alloc HB.out.size _).size _
              clear hqr HGO HQ HTA hc3 hc0 hc6 hpl hws
              go_wp2_with (at_builtin; refine wpList_append_tm rfl (.tmp 70) (.tmp 72) rfl w1.heap.size _ acc rfl HF4.out ⟨wr.heap.size + 1, 0, none⟩ 1 (Tm.plain c) rfl (Tm.told HKN.out) hal2 HB4.out.size ?_)
              intro v' w3 ht hg
              have HF5 : Hid (Tms w3 w1.heap.size v' (acc ++ [Tm.plain c]) ∧ ∀ q' ∈ acc ++ [Tm.plain c], TmRight q') := ⟨ht, HQR.out⟩
              have HB5 : Hid (Below w1.heap.size w1 w3) := HB4.out.trans ((Below.refl _ _).grown hg HB4.out.size (fun k hk => Tms.at_ HF4.out hk))
              obtain ⟨a3, c3, rfl⟩ := ht.form
              clear ht hg HF4 HB4 HKN hcell
              go_wp2
              go_roundw
              case rel => exact ⟨i + 1, m, p + 1, acc ++ [Tm.plain c], by omega, hp1, by simp; omega, by go_num, by go_num, HF5, HB5, HGO'⟩
              case measure => simp [intOf]; omega
        · have hnl : ¬ (i : Int) < (n : Int) := by omega
          obtain rfl : m = 0 := by omega
          obtain ⟨u10a, u10c, rfl⟩ := HF.out.1.form
          have HG2 : Hid (endT (acc, p, 0) = (L, K, F)) := by have := HGO.out; rw [goT] at this; exact this
          have HCK : Hid (∀ w, TmsRd w u10a acc → Calls Tryz.prog 24 #[.slice u10a acc.length u10c] w fun e w' => e = .returned (.int .i64 (checkT acc : Int)) ∧ Below w.heap.size w w') := fun w h => ref_Check5 u10a acc.length u10c acc w h rfl (by omega) HF.out.2
          obtain ⟨ck, hck⟩ : ∃ ck, checkT acc = ck := ⟨_, rfl⟩
          obtain ⟨an, han⟩ : ∃ an, acc.length = an := ⟨_, rfl⟩
          rw [hck] at HCK
          rw [han] at HCK HF ⊢
          have HCKE : Hid (checkT acc = ck) := hck
          clear HGO hck
          have HRD : Hid (TmsRd wr u10a acc) := HF.out.1.rd.2
          by_cases hc0 : ck = 0
          · subst hc0
            have HE : Hid (acc = L ∧ p = K ∧ 0 = F) := by
              have := HG2.out
              rw [endT, if_pos rfl, if_pos HCKE.out] at this
              simp only [Prod.mk.injEq] at this
              exact this
            clear hal han
            go_wp2_with fail
            refine (HCK.out _ HRD.out).mono ?_
            rintro e w2 ⟨rfl, hb2⟩
            have HB2 : Hid (Below w1.heap.size w1 w2) := HB.out.trans (hb2.mono HB.out.size)
            have HF2 : Hid (Tms w2 w1.heap.size (.slice u10a an u10c) acc) := HF.out.1.below hb2
            clear hb2
            go_wp2
            go_ret3
            obtain ⟨rfl, rfl, rfl⟩ := HE.out
            exact ⟨_, rfl, HF2.out, HB2.out⟩
          · have hc0' : (ck : Int) ≠ 0 := by omega
            have HE : Hid (L = [] ∧ K = 0 ∧ F = ck) := by
              have := HG2.out
              rw [endT, if_pos rfl, if_neg (by rw [HCKE.out]; exact hc0), HCKE.out] at this
              simp only [Prod.mk.injEq] at this
              exact ⟨this.1.symm, this.2.1.symm, this.2.2.symm⟩
            clear hal han
            go_wp2_with fail
            refine (HCK.out _ HRD.out).mono ?_
            rintro e w2 ⟨rfl, hb2⟩
            have HB2 : Hid (Below w1.heap.size w1 w2) := HB.out.trans (hb2.mono HB.out.size)
            clear hb2
            go_wp2
            go_ret3
            obtain ⟨rfl, rfl, rfl⟩ := HE.out
            exact ⟨_, rfl, Tms.nil_ _ _, HB2.out⟩
  · have hf' : (f : Int) ≠ 0 := by omega
    have HE : Hid (L = [] ∧ K = 0 ∧ F = f) := by
      have := HS.out
      rw [predAt_err HT.out hf] at this
      simp only [Prod.mk.injEq] at this
      exact ⟨this.1.symm, this.2.1.symm, this.2.2.symm⟩
    go_enter Tryz.func13, Tryz.ntmps13
    go_wp2_with fail
    refine (ref_TakeUint a len cap bs x w HR.out hl HX.out).mono ?_
    rw [HT.out, told]
    rintro e w1 ⟨rfl, rfl⟩
    go_wp2
    go_ret3
    obtain ⟨rfl, rfl, rfl⟩ := HE.out
    exact ⟨_, rfl, Tms.nil_ _ _, Below.refl _ _⟩
end Go.Proofs.YtfmpfjpcigdeoabGreatDoor
/- The reference's Same of one list of terms, twice. -/
namespace Go.Proofs.YtfmpfjpcigdeoabGreatDoor
set_option maxRecDepth 100000
open Go.RowKit

theorem equalIn_complexT {P : Program} (w : World) (d : Nat) (t : TypeId) (k k' : FloatKind) (a b : Nat) (h : P.underlying t = some (.complex k')) (h1 : k.format.order a a = some .eq) (h2 : k.format.order b b = some .eq) : (Op.equalIn (d + 1) t (.complex k a b) (.complex k a b)).run P w = .ok true w := by
  simp [Op.equalIn, run_underlying h, Op.floatEq, h1, h2]
theorem below_drewT (w : World) (n : Nat) : Below w.heap.size w (w.drewN n) := ⟨rfl, rfl, rfl, Nat.le_refl _, fun _ _ => rfl⟩

set_option maxHeartbeats 4000000 in
theorem ref_Same5 (a1 a2 : Option Addr) (n c1 c2 : Nat) (l : List Tm) (w : World) (h1 : TmsRd w a1 l) (h2 : TmsRd w a2 l) (hn : l.length = n) (hn48 : n ≤ 48) (hv : ∀ q ∈ l, Ieee.double.order q.val.re q.val.re = some .eq ∧ Ieee.double.order q.val.im q.val.im = some .eq) :
    Calls Tryz.prog 11 #[.slice a1 n c1, .slice a2 n c2] w fun e w' => e = .returned (.bool true) ∧ Below w.heap.size w w' := by
  have H1 : Hid (TmsRd w a1 l) := h1
  have H2 : Hid (TmsRd w a2 l) := h2
  have HN : Hid (l.length = n) := hn
  have HV : Hid (∀ q ∈ l, Ieee.double.order q.val.re q.val.re = some .eq ∧ Ieee.double.order q.val.im q.val.im = some .eq) := hv
  clear h1 h2 hn hv
  go_enter Tryz.func11, Tryz.ntmps11
  go_wp2
  go_loopw [5] (fun t5 wr => ∃ i : Nat, i ≤ n ∧ t5 = .int .i64 (i : Int) ∧ Hid (Below w.heap.size w wr)) (fun t5 _ => n - (intOf t5).toNat)
  case atStart => exact ⟨0, by omega, rfl, Below.refl _ _⟩
  case round =>
    obtain ⟨i, hi, rfl, HB⟩ := hrel
    by_cases hlt : i < n
    · have hlt' : (i : Int) < (n : Int) := by omega
      have h0' : (0 : Int) ≤ (i : Int) := by omega
      have hil : i < l.length := by rw [HN.out]; exact hlt
      obtain ⟨g1, rfl, hg1, hq1⟩ := (H1.out.below HB.out).at_ i hil
      obtain ⟨g2, rfl, hg2, hq2⟩ := (H2.out.below HB.out).at_ i hil
      have ho := HV.out l[i] (List.getElem_mem hil)
      generalize l[i] = q at *
      obtain ⟨op, nm, cm, ⟨vk, vw, vs, vt, vx, vy⟩, r⟩ := q
      have hq : ∀ W : World, (Op.equalIn 9998 45 (.complex .f64 vx vy) (.complex .f64 vx vy)).run Tryz.prog W = .ok true W := fun W => equalIn_complexT W 9997 45 .f64 .f64 vx vy Tryz.underlying45 ho.1 ho.2
      have p0 : wr.cell? ⟨g1, i * 9, none⟩ = some (.int .i64 (op : Int)) := hq1 0 _ rfl
      have p1 : wr.cell? ⟨g1, i * 9 + 1, none⟩ = some (.string nm) := hq1 1 _ rfl
      have p2 : wr.cell? ⟨g1, i * 9 + 2, none⟩ = some (.int .i64 (cm : Int)) := hq1 2 _ rfl
      have p3 : wr.cell? ⟨g1, i * 9 + 3, none⟩ = some (.int .i64 vk) := hq1 3 _ rfl
      have p4 : wr.cell? ⟨g1, i * 9 + 4, none⟩ = some (.int .i64 vw) := hq1 4 _ rfl
      have p5 : wr.cell? ⟨g1, i * 9 + 5, none⟩ = some (.string vs) := hq1 5 _ rfl
      have p6 : wr.cell? ⟨g1, i * 9 + 6, none⟩ = some (.bool vt) := hq1 6 _ rfl
      have p7 : wr.cell? ⟨g1, i * 9 + 7, none⟩ = some (.complex .f64 vx vy) := hq1 7 _ rfl
      have p8 : wr.cell? ⟨g1, i * 9 + 8, none⟩ = some (.int .i64 (r : Int)) := hq1 8 _ rfl
      have s0 : wr.cell? ⟨g2, i * 9, none⟩ = some (.int .i64 (op : Int)) := hq2 0 _ rfl
      have s1 : wr.cell? ⟨g2, i * 9 + 1, none⟩ = some (.string nm) := hq2 1 _ rfl
      have s2 : wr.cell? ⟨g2, i * 9 + 2, none⟩ = some (.int .i64 (cm : Int)) := hq2 2 _ rfl
      have s3 : wr.cell? ⟨g2, i * 9 + 3, none⟩ = some (.int .i64 vk) := hq2 3 _ rfl
      have s4 : wr.cell? ⟨g2, i * 9 + 4, none⟩ = some (.int .i64 vw) := hq2 4 _ rfl
      have s5 : wr.cell? ⟨g2, i * 9 + 5, none⟩ = some (.string vs) := hq2 5 _ rfl
      have s6 : wr.cell? ⟨g2, i * 9 + 6, none⟩ = some (.bool vt) := hq2 6 _ rfl
      have s7 : wr.cell? ⟨g2, i * 9 + 7, none⟩ = some (.complex .f64 vx vy) := hq2 7 _ rfl
      have s8 : wr.cell? ⟨g2, i * 9 + 8, none⟩ = some (.int .i64 (r : Int)) := hq2 8 _ rfl
      have b1 : (nm.toList == nm.toList) = true := by simp
      have b2 : (vs.toList == vs.toList) = true := by simp
      clear hq1 hq2 ho
      go_wp2
      go_quiet (fail)
      have HB4 : Hid (Below w.heap.size w (wr.drewN nq)) := HB.out.trans ((below_drewT wr nq).mono HB.out.size)
      clear p0 p1 p2 p3 p4 p5 p6 p7 p8 s0 s1 s2 s3 s4 s5 s6 s7 s8
      go_wp2
      go_roundw
      case rel => exact ⟨i + 1, by omega, by go_num, HB4⟩
      case measure => simp [intOf]; omega
    · have hnl : ¬ (i : Int) < (n : Int) := by omega
      go_wp2
      go_ret
      exact ⟨rfl, HB.out⟩
end Go.Proofs.YtfmpfjpcigdeoabGreatDoor
