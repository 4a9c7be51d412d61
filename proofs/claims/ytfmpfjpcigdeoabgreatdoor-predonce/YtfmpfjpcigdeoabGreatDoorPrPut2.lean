/- pred.Put of terms that have bytes. -/
import Derived.Test.YtfmpfjpcigdeoabGreatDoorPrPut
import Derived.Test.YtfmpfjpcigdeoabGreatDoorPrCutM
namespace Go.Proofs.YtfmpfjpcigdeoabGreatDoor
set_option maxRecDepth 100000
open Go.RowKit

set_option maxHeartbeats 4000000 in
theorem pred_Put (a : Option Addr) (n cap : Nat) (l : List Tm) (M : List Nat) (w : World) (hr : TmsRd w a l) (hn : l.length = n) (hB : PredB l M) (m : Nat) (hm : M.length = m) :
    Calls Tryz.prog 14 #[.slice a n cap] w fun e w' => ∃ a' c', e = .returned (.tuple #[.slice a' m c', .int .i64 0]) ∧ Own w' w.heap.size a' m c' M ∧ Below w.heap.size w w' := by
  have hcx : ∀ (a : Addr) (m : Mode) (W : World) (x y : Nat), (store a (.complex .f64 x y) m).run Tryz.prog W = stored Tryz.prog W a (.complex .f64 x y) m := fun a m W x y => run_store _ _ _ _ _ rfl
  obtain ⟨R, h48, hck, hT, hM⟩ := hB
  rw [hn] at h48 hM
  obtain ⟨hright, hRl⟩ := hT.fine
  rw [hn] at hRl
  have hnl := Leb.leb_length n
  obtain ⟨U, hU⟩ : ∃ U, Leb.leb n = U := ⟨_, rfl⟩
  rw [hU] at hnl hM
  obtain ⟨un, hun⟩ : ∃ un, U.length = un := ⟨_, rfl⟩
  obtain ⟨rn, hrn⟩ : ∃ rn, R.length = rn := ⟨_, rfl⟩
  have HU : Hid (∀ w, Calls Tryz.prog 25 #[.int .u64 (n : Int)] w fun e w' => ∃ a cap, e = .returned (.slice a un cap) ∧ a ≠ none ∧ Own w' w.heap.size a un cap U ∧ Below w.heap.size w w') := octet_Uint' n (by omega) U un hU hun
  have HCK : Hid (∀ w, TmsRd w a l → Calls Tryz.prog 10 #[.slice a n cap] w fun e w' => e = .returned (.int .i64 0) ∧ Below w.heap.size w w') := fun w h => by
    have := pred_Check a n cap l w h hn (by omega) hright
    rw [hck] at this
    exact this
  have hml : m = un + rn := by rw [← hm, hM, List.length_append, hun, hrn]
  rw [hun] at hnl
  rw [hrn] at hRl
  have hrb : rn ≤ 25248 := by omega
  have HRN : Hid (R.length = rn ∧ U.length = un) := ⟨hrn, hun⟩
  have HML : Hid (m = un + rn ∧ M = U ++ R) := ⟨hml, hM⟩
  have HL : Hid (TmsRd w a l) := hr
  have HN : Hid (l.length = n) := hn
  have HT : Hid (TermsB l R) := hT
  clear hr hn hT hM hm hml hU hun hrn hRl hck hright
  go_enter Tryz.func14, Tryz.ntmps14
  go_wp2_with fail
  refine (HCK.out _ HL.out).mono ?_
  rintro e w1 ⟨rfl, hb1⟩
  have HB1 : Hid (Below w.heap.size w w1) := hb1
  clear hb1
  go_wp2_with fail
  refine (HU.out _).mono ?_
  rintro e w2 ⟨a2, c2, rfl, _, ho2, hb2⟩
  have HO2 : Hid (Own w2 w1.heap.size a2 un c2 U) := ho2
  have HB2 : Hid (Below w1.heap.size w1 w2) := hb2
  clear ho2 hb2
  go_wp2
  go_loopw [5, 19] (fun t5 t19 wr => ∃ (k x : Nat) (X : List Nat) (ax : Option Addr) (cx : Nat), k ≤ n ∧ x ≤ 30000 ∧ t5 = .slice ax x cx ∧ t19 = .int .i64 (k : Int) ∧ Hid (Own wr w1.heap.size ax x cx X) ∧ Hid (∃ R', TermsB (l.drop k) R' ∧ X ++ R' = U ++ R) ∧ Hid (Below w1.heap.size w1 wr)) (fun _ t19 _ => n - (intOf t19).toNat)
  case atStart => exact ⟨0, un, U, a2, c2, by omega, by omega, rfl, rfl, HO2, ⟨R, HT.out, rfl⟩, HB2⟩
  case round =>
    obtain ⟨k, x, X, ax, cx, hk, hx5, rfl, rfl, HO, HE, HB⟩ := hrel
    have HBW : Hid (Below w.heap.size w wr) := HB1.out.trans (HB.out.mono HB1.out.size)
    by_cases hlt : k < n
    · have hlt' : (k : Int) < (n : Int) := by omega
      have hkl : k < l.length := by rw [HN.out]; exact hlt
      obtain ⟨g, rfl, hg, hc⟩ := (HL.out.below HBW.out).at_ k hkl
      obtain ⟨R', hR, hXR⟩ := HE.out
      have HD : l.drop k = l[k] :: l.drop (k + 1) := List.drop_eq_getElem_cons hkl
      rw [HD] at hR
      generalize l[k] = q at *
      obtain ⟨A, B, hA, hBr, rfl⟩ := hR
      have hXl := congrArg List.length hXR
      simp only [List.length_append, HRN.out.1, HRN.out.2, HO.out.size] at hXl
      have hop : 1 ≤ q.op ∧ q.op ≤ 6 := hA.fine.1.1
      clear HD HE
      rcases hA with ⟨ho, hq, rfl⟩ | ⟨A0, hA0, rfl⟩
      · have h3 : ((q.op : Int) == 3) = false := by rw [beq_eq_false_iff_ne]; omega
        have HNX : Hid (∃ R', TermsB (l.drop (k + 1)) R' ∧ X ++ [q.op] ++ R' = U ++ R) := ⟨B, hBr, by rw [← hXR]; simp only [List.append_assoc]⟩
        have hxb : x + 1 ≤ 30000 := by simp only [List.length_singleton] at hXl; omega
        clear hBr hXR hXl ho hq
        obtain ⟨op, nm, c, ⟨vk, vw, vs, vt, vx, vy⟩, r⟩ := q
        have c0 : wr.cell? ⟨g, k * 9, none⟩ = some (.int .i64 (op : Int)) := hc 0 _ rfl
        have c1 : wr.cell? ⟨g, k * 9 + 1, none⟩ = some (.string nm) := hc 1 _ rfl
        have c2' : wr.cell? ⟨g, k * 9 + 2, none⟩ = some (.int .i64 (c : Int)) := hc 2 _ rfl
        have c3 : wr.cell? ⟨g, k * 9 + 3, none⟩ = some (.int .i64 vk) := hc 3 _ rfl
        have c4 : wr.cell? ⟨g, k * 9 + 4, none⟩ = some (.int .i64 vw) := hc 4 _ rfl
        have c5 : wr.cell? ⟨g, k * 9 + 5, none⟩ = some (.string vs) := hc 5 _ rfl
        have c6 : wr.cell? ⟨g, k * 9 + 6, none⟩ = some (.bool vt) := hc 6 _ rfl
        have c7 : wr.cell? ⟨g, k * 9 + 7, none⟩ = some (.complex .f64 vx vy) := hc 7 _ rfl
        have c8 : wr.cell? ⟨g, k * 9 + 8, none⟩ = some (.int .i64 (r : Int)) := hc 8 _ rfl
        clear hc
        simp only at hop h3 HNX
        have HBA : Hid (Below wr.heap.size wr (wr.alloc (.cells #[.int .i64 (op : Int), .string nm, .int .i64 (c : Int), .int .i64 vk, .int .i64 vw, .string vs, .bool vt, .complex .f64 vx vy, .int .i64 (r : Int)] 58))) := below_alloc wr _
        obtain ⟨W, HW⟩ : ∃ W, Hid (W = wr.alloc (.cells #[.int .i64 (op : Int), .string nm, .int .i64 (c : Int), .int .i64 vk, .int .i64 vw, .string vs, .bool vt, .complex .f64 vx vy, .int .i64 (r : Int)] 58)) := ⟨_, rfl⟩
        rw [← HW.out] at HBA
        have HXA : Hid (Own W w1.heap.size ax x cx X) := HO.out.below HBA.out
        have HKA : Hid (Blk W wr.heap.size #[.int .i64 (op : Int), .string nm, .int .i64 (c : Int), .int .i64 vk, .int .i64 vw, .string vs, .bool vt, .complex .f64 vx vy, .int .i64 (r : Int)] 58) := by show Blk _ _ _ _; rw [HW.out]; exact Blk.new wr _ _
        have HBB : Hid (Below W.heap.size W (W.alloc (.cells #[.int .u8 (op : Int)] 5))) := below_alloc W _
        have HSA : Hid (w1.heap.size ≤ (W.alloc (.cells #[.int .u8 (op : Int)] 5)).heap.size) := Nat.le_trans HB.out.size (Nat.le_trans HBA.out.size HBB.out.size)
        have HR1 : Hid (Rd (W.alloc (.cells #[.int .u8 (op : Int)] 5)) (some ⟨W.heap.size, 0, none⟩) 1 [op]) := rd_one W _ op rfl (by omega) _
        have HXB : Hid (Own (W.alloc (.cells #[.int .u8 (op : Int)] 5)) w1.heap.size ax x cx X) := HXA.out.below HBB.out
        have HKB : Hid (Blk (W.alloc (.cells #[.int .u8 (op : Int)] 5)) wr.heap.size #[.int .i64 (op : Int), .string nm, .int .i64 (c : Int), .int .i64 vk, .int .i64 vw, .string vs, .bool vt, .complex .f64 vx vy, .int .i64 (r : Int)] 58) := HKA.out.stay HBB.out
        rw [HW.out] at HSA HR1 HXB HKB HBB
        have hWs : W.heap.size = wr.heap.size + 1 := by rw [HW.out]; simp
        have HWB : Hid (Below w1.heap.size w1 ((wr.alloc (.cells #[.int .i64 (op : Int), .string nm, .int .i64 (c : Int), .int .i64 vk, .int .i64 vw, .string vs, .bool vt, .complex .f64 vx vy, .int .i64 (r : Int)] 58)).alloc (.cells #[.int .u8 (op : Int)] 5))) := (HB.out.alloc HB.out.size _).alloc (Nat.le_trans HB.out.size (by simp)) _
        have hws : (wr.alloc (.cells #[.int .i64 (op : Int), .string nm, .int .i64 (c : Int), .int .i64 vk, .int .i64 vw, .string vs, .bool vt, .complex .f64 vx vy, .int .i64 (r : Int)] 58)).heap.size = wr.heap.size + 1 := by simp
        rw [hws] at HR1
        clear HW HXA HKA HBA hWs hws
        go_wp2_with (at_builtin; refine wpList_append_rd rfl (.tmp 23) (.tmp 27) rfl w1.heap.size ax x cx X rfl HXB.out (some ⟨wr.heap.size + 1, 0, none⟩) 1 1 [op] rfl HR1.out (fun h => by cases h) (by omega) HSA.out ?_)
        intro a4 c4' w4 ho4 hg4 hb4
        have HX4 : Hid (Own w4 w1.heap.size a4 (x + 1) c4' (X ++ [op])) := ho4
        have HK4 : Hid (Blk w4 wr.heap.size #[.int .i64 (op : Int), .string nm, .int .i64 (c : Int), .int .i64 vk, .int .i64 vw, .string vs, .bool vt, .complex .f64 vx vy, .int .i64 (r : Int)] 58) := HKB.out.grown hg4 (HXB.out.notBlk HKB.out (by decide))
        have HB4 : Hid (Below w1.heap.size w1 w4) := HWB.out.trans hb4
        have d0 : w4.cell? ⟨wr.heap.size, 0, none⟩ = some (.int .i64 (op : Int)) := HK4.out.cell 0 rfl
        clear ho4 hg4 hb4 HXB HKB HR1 HSA HBB
        go_wp2
        go_roundw
        case rel => exact ⟨k + 1, x + 1, X ++ [op], a4, c4', by omega, hxb, rfl, by go_num, HX4, HNX, HB4⟩
        case measure => simp [intOf]; omega
      · have hq3 : q.op = 3 := hA0.fine.2.1
        obtain ⟨an, han⟩ : ∃ an, A0.length = an := ⟨_, rfl⟩
        have hab : an ≤ 525 := by rw [← han]; exact hA0.fine.2.2
        have HAC : Hid (∀ (base : Nat) (ax : Option Addr) (x cx : Nat) (X : List Nat) (w : World), Own w base ax x cx X → base ≤ w.heap.size → x ≤ 100000 → Calls Tryz.prog 26 #[.slice ax x cx, .agg q.cells] w fun e w' => ∃ a' c', e = .returned (.slice a' (x + an) c') ∧ Own w' base a' (x + an) c' (X ++ A0) ∧ Below base w w') := fun base ax x cx X w h1 h2 h3 => append_atom q A0 hA0 base ax x cx X w h1 h2 h3 an han
        have HNX : Hid (∃ R', TermsB (l.drop (k + 1)) R' ∧ X ++ [3] ++ A0 ++ R' = U ++ R) := ⟨B, hBr, by rw [← hXR]; simp only [List.append_assoc, List.cons_append, List.nil_append]⟩
        have hxb : x + 1 + an ≤ 30000 := by simp only [List.length_cons, han] at hXl; omega
        clear hBr hXR hXl hA0 han
        obtain ⟨op, nm, c, ⟨vk, vw, vs, vt, vx, vy⟩, r⟩ := q
        simp only at hq3
        subst hq3
        have c0 : wr.cell? ⟨g, k * 9, none⟩ = some (.int .i64 3) := hc 0 _ rfl
        have c1 : wr.cell? ⟨g, k * 9 + 1, none⟩ = some (.string nm) := hc 1 _ rfl
        have c2' : wr.cell? ⟨g, k * 9 + 2, none⟩ = some (.int .i64 (c : Int)) := hc 2 _ rfl
        have c3 : wr.cell? ⟨g, k * 9 + 3, none⟩ = some (.int .i64 vk) := hc 3 _ rfl
        have c4 : wr.cell? ⟨g, k * 9 + 4, none⟩ = some (.int .i64 vw) := hc 4 _ rfl
        have c5 : wr.cell? ⟨g, k * 9 + 5, none⟩ = some (.string vs) := hc 5 _ rfl
        have c6 : wr.cell? ⟨g, k * 9 + 6, none⟩ = some (.bool vt) := hc 6 _ rfl
        have c7 : wr.cell? ⟨g, k * 9 + 7, none⟩ = some (.complex .f64 vx vy) := hc 7 _ rfl
        have c8 : wr.cell? ⟨g, k * 9 + 8, none⟩ = some (.int .i64 (r : Int)) := hc 8 _ rfl
        clear hc
        simp only [Tm.cells] at HAC
        have hws : (wr.alloc (.cells #[.int .i64 3, .string nm, .int .i64 (c : Int), .int .i64 vk, .int .i64 vw, .string vs, .bool vt, .complex .f64 vx vy, .int .i64 (r : Int)] 58)).heap.size = wr.heap.size + 1 := by simp
        have HWB : Hid (Below w1.heap.size w1 ((wr.alloc (.cells #[.int .i64 3, .string nm, .int .i64 (c : Int), .int .i64 vk, .int .i64 vw, .string vs, .bool vt, .complex .f64 vx vy, .int .i64 (r : Int)] 58)).alloc (.cells #[.int .u8 3] 5))) := (HB.out.alloc HB.out.size _).alloc (Nat.le_trans HB.out.size (by simp)) _
        have HXB : Hid (Own ((wr.alloc (.cells #[.int .i64 3, .string nm, .int .i64 (c : Int), .int .i64 vk, .int .i64 vw, .string vs, .bool vt, .complex .f64 vx vy, .int .i64 (r : Int)] 58)).alloc (.cells #[.int .u8 3] 5)) w1.heap.size ax x cx X) := (HO.out.below (below_alloc wr _)).below (below_alloc _ _)
        have HKB : Hid (Blk ((wr.alloc (.cells #[.int .i64 3, .string nm, .int .i64 (c : Int), .int .i64 vk, .int .i64 vw, .string vs, .bool vt, .complex .f64 vx vy, .int .i64 (r : Int)] 58)).alloc (.cells #[.int .u8 3] 5)) wr.heap.size #[.int .i64 3, .string nm, .int .i64 (c : Int), .int .i64 vk, .int .i64 vw, .string vs, .bool vt, .complex .f64 vx vy, .int .i64 (r : Int)] 58) := (Blk.new wr _ _).stay (below_alloc _ _)
        have HR1 : Hid (Rd ((wr.alloc (.cells #[.int .i64 3, .string nm, .int .i64 (c : Int), .int .i64 vk, .int .i64 vw, .string vs, .bool vt, .complex .f64 vx vy, .int .i64 (r : Int)] 58)).alloc (.cells #[.int .u8 3] 5)) (some ⟨wr.heap.size + 1, 0, none⟩) 1 [3]) := by
          have := rd_one (wr.alloc (.cells #[.int .i64 3, .string nm, .int .i64 (c : Int), .int .i64 vk, .int .i64 vw, .string vs, .bool vt, .complex .f64 vx vy, .int .i64 (r : Int)] 58)) 3 3 rfl (by omega) (0, 0)
          rw [hws] at this
          exact this
        clear hws
        go_wp2_with (at_builtin; refine wpList_append_rd rfl (.tmp 23) (.tmp 27) rfl w1.heap.size ax x cx X rfl HXB.out (some ⟨wr.heap.size + 1, 0, none⟩) 1 1 [3] rfl HR1.out (fun h => by cases h) (by omega) HWB.out.size ?_)
        intro a4 c4' w4 ho4 hg4 hb4
        have HX4 : Hid (Own w4 w1.heap.size a4 (x + 1) c4' (X ++ [3])) := ho4
        have HK4 : Hid (Blk w4 wr.heap.size #[.int .i64 3, .string nm, .int .i64 (c : Int), .int .i64 vk, .int .i64 vw, .string vs, .bool vt, .complex .f64 vx vy, .int .i64 (r : Int)] 58) := HKB.out.grown hg4 (HXB.out.notBlk HKB.out (by decide))
        have HB4 : Hid (Below w1.heap.size w1 w4) := HWB.out.trans hb4
        clear ho4 hg4 hb4 HXB HKB HR1 c0 c1 c2' c3 c4 c5 c6 c7 c8
        have d0 : w4.cell? ⟨wr.heap.size, 0, none⟩ = some (.int .i64 3) := HK4.out.cell 0 rfl
        have d1 : w4.cell? ⟨wr.heap.size, 1, none⟩ = some (.string nm) := HK4.out.cell 1 rfl
        have d2 : w4.cell? ⟨wr.heap.size, 2, none⟩ = some (.int .i64 (c : Int)) := HK4.out.cell 2 rfl
        have d3 : w4.cell? ⟨wr.heap.size, 3, none⟩ = some (.int .i64 vk) := HK4.out.cell 3 rfl
        have d4 : w4.cell? ⟨wr.heap.size, 4, none⟩ = some (.int .i64 vw) := HK4.out.cell 4 rfl
        have d5 : w4.cell? ⟨wr.heap.size, 5, none⟩ = some (.string vs) := HK4.out.cell 5 rfl
        have d6 : w4.cell? ⟨wr.heap.size, 6, none⟩ = some (.bool vt) := HK4.out.cell 6 rfl
        have d7 : w4.cell? ⟨wr.heap.size, 7, none⟩ = some (.complex .f64 vx vy) := HK4.out.cell 7 rfl
        have d8 : w4.cell? ⟨wr.heap.size, 8, none⟩ = some (.int .i64 (r : Int)) := HK4.out.cell 8 rfl
        go_wp2_with fail
        refine (HAC.out w1.heap.size a4 (x + 1) c4' (X ++ [3]) _ HX4.out HB4.out.size (by omega)).mono ?_
        rintro e w5 ⟨a5, c5', rfl, ho5, hb5⟩
        have HX5 : Hid (Own w5 w1.heap.size a5 (x + 1 + an) c5' (X ++ [3] ++ A0)) := ho5
        have HB5 : Hid (Below w1.heap.size w1 w5) := HB4.out.trans hb5
        clear ho5 hb5
        go_wp2
        go_roundw
        case rel => exact ⟨k + 1, x + 1 + an, X ++ [3] ++ A0, a5, c5', by omega, hxb, rfl, by go_num, HX5, HNX, HB5⟩
        case measure => simp [intOf]; omega
    · have hnl2 : ¬ (k : Int) < (n : Int) := by omega
      have HX : Hid (X = U ++ R) := by
        obtain ⟨R', hR, hXR⟩ := HE.out
        rw [List.drop_of_length_le (by rw [HN.out]; omega)] at hR
        have hR0 : R' = [] := hR
        subst hR0
        show _ = _
        rw [← hXR, List.append_nil]
      have HXL : Hid (x = un + rn) := by
        have := congrArg List.length HX.out
        rw [List.length_append, HRN.out.1, HRN.out.2, HO.out.size] at this
        exact this
      clear HE
      go_wp2
      go_ret2
      rw [HML.out.1, HML.out.2, ← HXL.out, ← HX.out]
      exact ⟨ax, cx, rfl, HO.out.lower HB1.out.size, HBW.out⟩
end Go.Proofs.YtfmpfjpcigdeoabGreatDoor
