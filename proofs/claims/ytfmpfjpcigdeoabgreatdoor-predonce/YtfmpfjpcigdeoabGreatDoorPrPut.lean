/- pred.appendAtom, pred.Put of right terms. -/
import Derived.Test.YtfmpfjpcigdeoabGreatDoorPrOnceM
import Derived.Test.YtfmpfjpcigdeoabGreatDoorValPutB
namespace Go.Proofs.YtfmpfjpcigdeoabGreatDoor
set_option maxRecDepth 100000
open Go.RowKit

theorem own_nil_cap {w : World} {base : Nat} {a : Option Addr} {len cap : Nat} {bs : List Nat} (h : Own w base a len cap bs) : a = none → cap = 0 := by
  rintro rfl
  rcases h.row.2 with ⟨hv, _⟩ | ⟨g, c, cur, hv, _⟩
  · simp only [Value.slice.injEq, true_and] at hv; exact hv.2
  · simp at hv

theorem octet_Uint' (n : Nat) (h : n < 18446744073709551616) (L : List Nat) (m : Nat) (hL : Leb.leb n = L) (hm : L.length = m) (w : World) :
    Calls Tryz.prog 25 #[.int .u64 (n : Int)] w fun e w' => ∃ a cap, e = .returned (.slice a m cap) ∧ a ≠ none ∧ Own w' w.heap.size a m cap L ∧ Below w.heap.size w w' := by
  subst hm
  subst hL
  exact octet_Uint n h w
theorem Own.notBlk {w : World} {base : Nat} {a : Option Addr} {len cap : Nat} {bs : List Nat} (h : Own w base a len cap bs) {g : Nat} {cs : Array Value} {t : TypeId} (k : Blk w g cs t) (ht : t ≠ 5) : Option.some g ≠ Value.ownBlock (.slice a len cap) := by
  intro e
  rcases h.row.2 with ⟨hv, _⟩ | ⟨g', c, cur, hv, _, hg, _⟩
  · rw [hv] at e; simp [Value.ownBlock] at e
  · rw [hv] at e
    simp [Value.ownBlock] at e
    subst e
    unfold Blk at k
    rw [hg] at k
    simp at k
    exact ht k.2.symm

set_option maxHeartbeats 4000000 in
theorem append_atom (q : Tm) (R : List Nat) (hA : AtomB q R) (base : Nat) (ax : Option Addr) (x cx : Nat) (X : List Nat) (w : World) (ho : Own w base ax x cx X) (hB : base ≤ w.heap.size) (hx : x ≤ 100000) (rn : Nat) (hrn : R.length = rn) :
    Calls Tryz.prog 26 #[.slice ax x cx, .agg q.cells] w fun e w' => ∃ a' c', e = .returned (.slice a' (x + rn) c') ∧ Own w' base a' (x + rn) c' (X ++ R) ∧ Below base w w' := by
  have hcx : ∀ (a : Addr) (m : Mode) (W : World) (x y : Nat), (store a (.complex .f64 x y) m).run Tryz.prog W = stored Tryz.prog W a (.complex .f64 x y) m := fun a m W x y => run_store _ _ _ _ _ rfl
  obtain ⟨l0, h1, h2, hn, h3, h4, hc⟩ := hA
  obtain ⟨op, nm, c, v, r⟩ := q
  simp only at h3 h4 hc
  subst h3
  subst h4
  obtain ⟨P, hP⟩ : ∃ P, Leb.leb (str l0).size ++ bytesOf (str l0) = P := ⟨_, rfl⟩
  have hPl : P = Leb.leb l0.length ++ l0 := by rw [← hP, bytesOf_str h2, str_size]
  obtain ⟨pn, hpn⟩ : ∃ pn, P.length = pn := ⟨_, rfl⟩
  have hpn2 : pn ≤ 210 := by rw [← hpn, hPl, List.length_append]; have := Leb.leb_length l0.length; omega
  have HTx : Hid (∀ w, Calls Tryz.prog 45 #[.string (str l0)] w fun e w' => ∃ a cap, e = .returned (.tuple #[.slice a pn cap, .int .i64 0]) ∧ a ≠ none ∧ Own w' w.heap.size a pn cap P ∧ Below w.heap.size w w') := octet_Text' (str l0) (by rw [str_size]; exact h1) P pn hP hpn
  rw [← hPl] at hc
  have HO : Hid (Own w base ax x cx X) := ho
  have HPN : Hid (P.length = pn) := hpn
  have HRN : Hid (R.length = rn) := hrn
  clear ho hP hPl hpn h1 h2 hn hrn
  generalize str l0 = S at *
  rcases hc with ⟨hc1, hv, hr0, hR⟩ | ⟨hc1, hm, L, hL, hR⟩
  · have HD : Hid (decide (c ≠ 1 ∧ c ≠ 2) = false) := decide_eq_false (by omega)
    have h10 : ((c : Int) == 10) = false := by rw [beq_eq_false_iff_ne]; omega
    have HE : Hid (rn = pn + 1 ∧ R = P ++ [c]) := ⟨by rw [← HRN.out, hR, List.length_append, HPN.out]; rfl, hR⟩
    obtain ⟨vk, vw, vs, vt, vx, vy⟩ := v
    simp only [Tm.cells]
    clear hv hR hr0
    go_enter Tryz.func26, Tryz.ntmps26
    go_wp2_with fail
    refine (HTx.out _).mono ?_
    rintro e w1 ⟨a1, c1, rfl, _, ho1, hb1⟩
    have HK1 : Hid (Blk w1 w.heap.size #[.int .i64 ((3 : Nat) : Int), .string S, .int .i64 (c : Int), .int .i64 vk, .int .i64 vw, .string vs, .bool vt, .complex .f64 vx vy, .int .i64 (r : Int)] 58) := (Blk.new w _ _).stay hb1
    have HO1 : Hid (Own w1 w.heap.size a1 pn c1 P) := ho1.lower (by simp)
    have HB1 : Hid (Below w.heap.size w w1) := (below_alloc w _).trans (hb1.mono (by simp))
    have HX1 : Hid (Own w1 base ax x cx X) := HO.out.below HB1.out
    have HS1 : Hid (base ≤ w1.heap.size) := Nat.le_trans hB HB1.out.size
    clear ho1 hb1
    go_wp2_with (at_builtin; refine wpList_append_rd rfl (.tmp 15) (.tmp 16) rfl base ax x cx X rfl HX1.out a1 pn c1 P rfl HO1.out.rd (own_nil_cap HO1.out) (by omega) HS1.out ?_)
    intro a2 c2 w2 ho2 hg2 hb2
    have HX2 : Hid (Own w2 base a2 (x + pn) c2 (X ++ P)) := ho2
    have HK2 : Hid (Blk w2 w.heap.size #[.int .i64 ((3 : Nat) : Int), .string S, .int .i64 (c : Int), .int .i64 vk, .int .i64 vw, .string vs, .bool vt, .complex .f64 vx vy, .int .i64 (r : Int)] 58) := HK1.out.grown hg2 (HX1.out.notBlk HK1.out (by decide))
    have HB2 : Hid (Below base w w2) := (HB1.out.mono hB).trans hb2
    have HS2 : Hid (base ≤ w2.heap.size) := Nat.le_trans hB HB2.out.size
    have k2 : w2.cell? ⟨w.heap.size, 2, none⟩ = some (.int .i64 (c : Int)) := HK2.out.cell 2 rfl
    clear ho2 hg2 hb2 HX1 HO1 HK1
    have HBA : Hid (Below w2.heap.size w2 (w2.alloc (.cells #[.int .u8 (c : Int)] 5))) := below_alloc w2 _
    go_wp2_with (at_builtin; refine wpList_append_rd rfl (.tmp 18) (.tmp 22) rfl base a2 (x + pn) c2 (X ++ P) rfl (HX2.out.below HBA.out) (some ⟨w2.heap.size, 0, none⟩) 1 1 [c] rfl (rd_one w2 _ c rfl (by omega) _) (fun h => by cases h) (by omega) (Nat.le_trans HS2.out HBA.out.size) ?_)
    intro a3 c3 w3 ho3 hg3 hb3
    have HX3 : Hid (Own w3 base a3 (x + pn + 1) c3 (X ++ P ++ [c])) := by show Own _ _ _ _ _ _; simpa only [List.append_assoc, List.cons_append, List.nil_append] using ho3
    have HK3 : Hid (Blk w3 w.heap.size #[.int .i64 ((3 : Nat) : Int), .string S, .int .i64 (c : Int), .int .i64 vk, .int .i64 vw, .string vs, .bool vt, .complex .f64 vx vy, .int .i64 (r : Int)] 58) := (HK2.out.stay HBA.out).grown hg3 ((HX2.out.below HBA.out).notBlk (HK2.out.stay HBA.out) (by decide))
    have HB3 : Hid (Below base w w3) := (HB2.out.trans (HBA.out.mono HS2.out)).trans hb3
    have HS3 : Hid (base ≤ w3.heap.size) := Nat.le_trans hB HB3.out.size
    have m2 : w3.cell? ⟨w.heap.size, 2, none⟩ = some (.int .i64 (c : Int)) := HK3.out.cell 2 rfl
    clear ho3 hg3 hb3 HX2 HK2 HBA k2
    go_wp2_with fail
    refine (has_value c _).mono ?_
    rw [HD.out]
    rintro e w4 ⟨rfl, rfl⟩
    go_wp2
    go_ret
    obtain ⟨rfl, rfl⟩ := HE.out
    exact ⟨a3, c3, by rw [Nat.add_assoc]; rfl, by rw [← List.append_assoc, ← Nat.add_assoc]; exact HX3.out, HB3.out⟩
  · have HD : Hid (decide (c ≠ 1 ∧ c ≠ 2) = true) := decide_eq_true (by omega)
    obtain ⟨ln, hln⟩ : ∃ ln, L.length = ln := ⟨_, rfl⟩
    have hln2 : ln ≤ 300 := by rw [← hln]; have := hL.length; omega
    have HPut : Hid (∀ w, Calls Tryz.prog 47 #[.agg v.cells] w fun e w' => ∃ a c, e = .returned (.tuple #[.slice a ln c, .int .i64 0]) ∧ a ≠ none ∧ Own w' w.heap.size a ln c L ∧ Below w.heap.size w w') := value_Put v L hL ln hln
    obtain ⟨vk, vw, vs, vt, vx, vy⟩ := v
    simp only [Tm.cells, Val.cells] at *
    rcases hR with ⟨h10, hr0, hR⟩ | ⟨h10, hr0, hR⟩
    · have h10' : ((c : Int) == 10) = false := by rw [beq_eq_false_iff_ne]; omega
      have HE : Hid (rn = pn + 1 + ln ∧ R = P ++ ([c] ++ L)) := ⟨by rw [← HRN.out, hR, List.length_append, HPN.out, List.length_cons, hln]; omega, hR⟩
      clear hR h10 hL hm hln hr0
      go_enter Tryz.func26, Tryz.ntmps26
      go_wp2_with fail
      refine (HTx.out _).mono ?_
      rintro e w1 ⟨a1, c1, rfl, _, ho1, hb1⟩
      have HK1 : Hid (Blk w1 w.heap.size #[.int .i64 ((3 : Nat) : Int), .string S, .int .i64 (c : Int), .int .i64 vk, .int .i64 vw, .string vs, .bool vt, .complex .f64 vx vy, .int .i64 (r : Int)] 58) := (Blk.new w _ _).stay hb1
      have HO1 : Hid (Own w1 w.heap.size a1 pn c1 P) := ho1.lower (by simp)
      have HB1 : Hid (Below w.heap.size w w1) := (below_alloc w _).trans (hb1.mono (by simp))
      have HX1 : Hid (Own w1 base ax x cx X) := HO.out.below HB1.out
      have HS1 : Hid (base ≤ w1.heap.size) := Nat.le_trans hB HB1.out.size
      clear ho1 hb1
      go_wp2_with (at_builtin; refine wpList_append_rd rfl (.tmp 15) (.tmp 16) rfl base ax x cx X rfl HX1.out a1 pn c1 P rfl HO1.out.rd (own_nil_cap HO1.out) (by omega) HS1.out ?_)
      intro a2 c2 w2 ho2 hg2 hb2
      have HX2 : Hid (Own w2 base a2 (x + pn) c2 (X ++ P)) := ho2
      have HK2 : Hid (Blk w2 w.heap.size #[.int .i64 ((3 : Nat) : Int), .string S, .int .i64 (c : Int), .int .i64 vk, .int .i64 vw, .string vs, .bool vt, .complex .f64 vx vy, .int .i64 (r : Int)] 58) := HK1.out.grown hg2 (HX1.out.notBlk HK1.out (by decide))
      have HB2 : Hid (Below base w w2) := (HB1.out.mono hB).trans hb2
      have HS2 : Hid (base ≤ w2.heap.size) := Nat.le_trans hB HB2.out.size
      have k2 : w2.cell? ⟨w.heap.size, 2, none⟩ = some (.int .i64 (c : Int)) := HK2.out.cell 2 rfl
      clear ho2 hg2 hb2 HX1 HO1 HK1
      have HBA : Hid (Below w2.heap.size w2 (w2.alloc (.cells #[.int .u8 (c : Int)] 5))) := below_alloc w2 _
      go_wp2_with (at_builtin; refine wpList_append_rd rfl (.tmp 18) (.tmp 22) rfl base a2 (x + pn) c2 (X ++ P) rfl (HX2.out.below HBA.out) (some ⟨w2.heap.size, 0, none⟩) 1 1 [c] rfl (rd_one w2 _ c rfl (by omega) _) (fun h => by cases h) (by omega) (Nat.le_trans HS2.out HBA.out.size) ?_)
      intro a3 c3 w3 ho3 hg3 hb3
      have HX3 : Hid (Own w3 base a3 (x + pn + 1) c3 (X ++ P ++ [c])) := by show Own _ _ _ _ _ _; simpa only [List.append_assoc, List.cons_append, List.nil_append] using ho3
      have HK3 : Hid (Blk w3 w.heap.size #[.int .i64 ((3 : Nat) : Int), .string S, .int .i64 (c : Int), .int .i64 vk, .int .i64 vw, .string vs, .bool vt, .complex .f64 vx vy, .int .i64 (r : Int)] 58) := (HK2.out.stay HBA.out).grown hg3 ((HX2.out.below HBA.out).notBlk (HK2.out.stay HBA.out) (by decide))
      have HB3 : Hid (Below base w w3) := (HB2.out.trans (HBA.out.mono HS2.out)).trans hb3
      have HS3 : Hid (base ≤ w3.heap.size) := Nat.le_trans hB HB3.out.size
      have m2 : w3.cell? ⟨w.heap.size, 2, none⟩ = some (.int .i64 (c : Int)) := HK3.out.cell 2 rfl
      clear ho3 hg3 hb3 HX2 HK2 HBA k2
      go_wp2_with fail
      refine (has_value c _).mono ?_
      rw [HD.out]
      rintro e w4 ⟨rfl, rfl⟩
      have n3 : w4.cell? ⟨w.heap.size, 3, none⟩ = some (.int .i64 vk) := HK3.out.cell 3 rfl
      have n4 : w4.cell? ⟨w.heap.size, 4, none⟩ = some (.int .i64 vw) := HK3.out.cell 4 rfl
      have n5 : w4.cell? ⟨w.heap.size, 5, none⟩ = some (.string vs) := HK3.out.cell 5 rfl
      have n6 : w4.cell? ⟨w.heap.size, 6, none⟩ = some (.bool vt) := HK3.out.cell 6 rfl
      have n7 : w4.cell? ⟨w.heap.size, 7, none⟩ = some (.complex .f64 vx vy) := HK3.out.cell 7 rfl
      go_wp2_with fail
      refine (HPut.out _).mono ?_
      rintro e w5 ⟨a5, c5, rfl, _, ho5, hb5⟩
      have HO5 : Hid (Own w5 w4.heap.size a5 ln c5 L) := ho5
      have HX5 : Hid (Own w5 base a3 (x + pn + 1) c3 (X ++ P ++ [c])) := HX3.out.below hb5
      have HK5 : Hid (Blk w5 w.heap.size #[.int .i64 ((3 : Nat) : Int), .string S, .int .i64 (c : Int), .int .i64 vk, .int .i64 vw, .string vs, .bool vt, .complex .f64 vx vy, .int .i64 (r : Int)] 58) := HK3.out.stay hb5
      have HB5 : Hid (Below base w w5) := HB3.out.trans (hb5.mono HS3.out)
      have HS5 : Hid (base ≤ w5.heap.size) := Nat.le_trans hB HB5.out.size
      clear ho5 hb5 HX3 HK3 n3 n4 n5 n6 n7 m2
      go_wp2_with (at_builtin; refine wpList_append_rd rfl (.tmp 33) (.tmp 34) rfl base a3 (x + pn + 1) c3 (X ++ P ++ [c]) rfl HX5.out a5 ln c5 L rfl HO5.out.rd (own_nil_cap HO5.out) (by omega) HS5.out ?_)
      intro a6 c6 w6 ho6 hg6 hb6
      have HX6 : Hid (Own w6 base a6 (x + pn + 1 + ln) c6 (X ++ P ++ [c] ++ L)) := by show Own _ _ _ _ _ _; simpa only [List.append_assoc, List.cons_append, List.nil_append] using ho6
      have HK6 : Hid (Blk w6 w.heap.size #[.int .i64 ((3 : Nat) : Int), .string S, .int .i64 (c : Int), .int .i64 vk, .int .i64 vw, .string vs, .bool vt, .complex .f64 vx vy, .int .i64 (r : Int)] 58) := HK5.out.grown hg6 (HX5.out.notBlk HK5.out (by decide))
      have HB6 : Hid (Below base w w6) := HB5.out.trans hb6
      have HS6 : Hid (base ≤ w6.heap.size) := Nat.le_trans hB HB6.out.size
      have m2 : w6.cell? ⟨w.heap.size, 2, none⟩ = some (.int .i64 (c : Int)) := HK6.out.cell 2 rfl
      clear ho6 hg6 hb6 HX5 HK5 HO5
      go_wp2
      go_ret
      obtain ⟨rfl, rfl⟩ := HE.out
      exact ⟨a6, c6, by rw [show x + (pn + 1 + ln) = x + pn + 1 + ln by omega]; rfl, by rw [show x + (pn + 1 + ln) = x + pn + 1 + ln by omega, show X ++ (P ++ ([c] ++ L)) = X ++ P ++ [c] ++ L by simp only [List.append_assoc]]; exact HX6.out, HB6.out⟩
    · have h10' : ((c : Int) == 10) = true := by rw [h10]; rfl
      obtain ⟨V, hV⟩ : ∃ V, Leb.leb r = V := ⟨_, rfl⟩
      obtain ⟨vn, hvn⟩ : ∃ vn, V.length = vn := ⟨_, rfl⟩
      have hvn2 : vn ≤ 10 := by rw [← hvn, ← hV]; exact (Leb.leb_length r).2
      have HU : Hid (∀ w, Calls Tryz.prog 25 #[.int .u64 (r : Int)] w fun e w' => ∃ a cap, e = .returned (.slice a vn cap) ∧ a ≠ none ∧ Own w' w.heap.size a vn cap V ∧ Below w.heap.size w w') := octet_Uint' r (by omega) V vn hV hvn
      rw [hV] at hR
      have HE : Hid (rn = pn + 1 + ln + vn ∧ R = P ++ ([c] ++ (L ++ V))) := ⟨by rw [← HRN.out, hR, List.length_append, HPN.out, List.length_cons, List.length_append, hln, hvn]; omega, hR⟩
      clear hR h10 hL hm hln hV hvn
      go_enter Tryz.func26, Tryz.ntmps26
      go_wp2_with fail
      refine (HTx.out _).mono ?_
      rintro e w1 ⟨a1, c1, rfl, _, ho1, hb1⟩
      have HK1 : Hid (Blk w1 w.heap.size #[.int .i64 ((3 : Nat) : Int), .string S, .int .i64 (c : Int), .int .i64 vk, .int .i64 vw, .string vs, .bool vt, .complex .f64 vx vy, .int .i64 (r : Int)] 58) := (Blk.new w _ _).stay hb1
      have HO1 : Hid (Own w1 w.heap.size a1 pn c1 P) := ho1.lower (by simp)
      have HB1 : Hid (Below w.heap.size w w1) := (below_alloc w _).trans (hb1.mono (by simp))
      have HX1 : Hid (Own w1 base ax x cx X) := HO.out.below HB1.out
      have HS1 : Hid (base ≤ w1.heap.size) := Nat.le_trans hB HB1.out.size
      clear ho1 hb1
      go_wp2_with (at_builtin; refine wpList_append_rd rfl (.tmp 15) (.tmp 16) rfl base ax x cx X rfl HX1.out a1 pn c1 P rfl HO1.out.rd (own_nil_cap HO1.out) (by omega) HS1.out ?_)
      intro a2 c2 w2 ho2 hg2 hb2
      have HX2 : Hid (Own w2 base a2 (x + pn) c2 (X ++ P)) := ho2
      have HK2 : Hid (Blk w2 w.heap.size #[.int .i64 ((3 : Nat) : Int), .string S, .int .i64 (c : Int), .int .i64 vk, .int .i64 vw, .string vs, .bool vt, .complex .f64 vx vy, .int .i64 (r : Int)] 58) := HK1.out.grown hg2 (HX1.out.notBlk HK1.out (by decide))
      have HB2 : Hid (Below base w w2) := (HB1.out.mono hB).trans hb2
      have HS2 : Hid (base ≤ w2.heap.size) := Nat.le_trans hB HB2.out.size
      have k2 : w2.cell? ⟨w.heap.size, 2, none⟩ = some (.int .i64 (c : Int)) := HK2.out.cell 2 rfl
      clear ho2 hg2 hb2 HX1 HO1 HK1
      have HBA : Hid (Below w2.heap.size w2 (w2.alloc (.cells #[.int .u8 (c : Int)] 5))) := below_alloc w2 _
      go_wp2_with (at_builtin; refine wpList_append_rd rfl (.tmp 18) (.tmp 22) rfl base a2 (x + pn) c2 (X ++ P) rfl (HX2.out.below HBA.out) (some ⟨w2.heap.size, 0, none⟩) 1 1 [c] rfl (rd_one w2 _ c rfl (by omega) _) (fun h => by cases h) (by omega) (Nat.le_trans HS2.out HBA.out.size) ?_)
      intro a3 c3 w3 ho3 hg3 hb3
      have HX3 : Hid (Own w3 base a3 (x + pn + 1) c3 (X ++ P ++ [c])) := by show Own _ _ _ _ _ _; simpa only [List.append_assoc, List.cons_append, List.nil_append] using ho3
      have HK3 : Hid (Blk w3 w.heap.size #[.int .i64 ((3 : Nat) : Int), .string S, .int .i64 (c : Int), .int .i64 vk, .int .i64 vw, .string vs, .bool vt, .complex .f64 vx vy, .int .i64 (r : Int)] 58) := (HK2.out.stay HBA.out).grown hg3 ((HX2.out.below HBA.out).notBlk (HK2.out.stay HBA.out) (by decide))
      have HB3 : Hid (Below base w w3) := (HB2.out.trans (HBA.out.mono HS2.out)).trans hb3
      have HS3 : Hid (base ≤ w3.heap.size) := Nat.le_trans hB HB3.out.size
      have m2 : w3.cell? ⟨w.heap.size, 2, none⟩ = some (.int .i64 (c : Int)) := HK3.out.cell 2 rfl
      clear ho3 hg3 hb3 HX2 HK2 HBA k2
      go_wp2_with fail
      refine (has_value c _).mono ?_
      rw [HD.out]
      rintro e w4 ⟨rfl, rfl⟩
      have n3 : w4.cell? ⟨w.heap.size, 3, none⟩ = some (.int .i64 vk) := HK3.out.cell 3 rfl
      have n4 : w4.cell? ⟨w.heap.size, 4, none⟩ = some (.int .i64 vw) := HK3.out.cell 4 rfl
      have n5 : w4.cell? ⟨w.heap.size, 5, none⟩ = some (.string vs) := HK3.out.cell 5 rfl
      have n6 : w4.cell? ⟨w.heap.size, 6, none⟩ = some (.bool vt) := HK3.out.cell 6 rfl
      have n7 : w4.cell? ⟨w.heap.size, 7, none⟩ = some (.complex .f64 vx vy) := HK3.out.cell 7 rfl
      go_wp2_with fail
      refine (HPut.out _).mono ?_
      rintro e w5 ⟨a5, c5, rfl, _, ho5, hb5⟩
      have HO5 : Hid (Own w5 w4.heap.size a5 ln c5 L) := ho5
      have HX5 : Hid (Own w5 base a3 (x + pn + 1) c3 (X ++ P ++ [c])) := HX3.out.below hb5
      have HK5 : Hid (Blk w5 w.heap.size #[.int .i64 ((3 : Nat) : Int), .string S, .int .i64 (c : Int), .int .i64 vk, .int .i64 vw, .string vs, .bool vt, .complex .f64 vx vy, .int .i64 (r : Int)] 58) := HK3.out.stay hb5
      have HB5 : Hid (Below base w w5) := HB3.out.trans (hb5.mono HS3.out)
      have HS5 : Hid (base ≤ w5.heap.size) := Nat.le_trans hB HB5.out.size
      clear ho5 hb5 HX3 HK3 n3 n4 n5 n6 n7 m2
      go_wp2_with (at_builtin; refine wpList_append_rd rfl (.tmp 33) (.tmp 34) rfl base a3 (x + pn + 1) c3 (X ++ P ++ [c]) rfl HX5.out a5 ln c5 L rfl HO5.out.rd (own_nil_cap HO5.out) (by omega) HS5.out ?_)
      intro a6 c6 w6 ho6 hg6 hb6
      have HX6 : Hid (Own w6 base a6 (x + pn + 1 + ln) c6 (X ++ P ++ [c] ++ L)) := by show Own _ _ _ _ _ _; simpa only [List.append_assoc, List.cons_append, List.nil_append] using ho6
      have HK6 : Hid (Blk w6 w.heap.size #[.int .i64 ((3 : Nat) : Int), .string S, .int .i64 (c : Int), .int .i64 vk, .int .i64 vw, .string vs, .bool vt, .complex .f64 vx vy, .int .i64 (r : Int)] 58) := HK5.out.grown hg6 (HX5.out.notBlk HK5.out (by decide))
      have HB6 : Hid (Below base w w6) := HB5.out.trans hb6
      have HS6 : Hid (base ≤ w6.heap.size) := Nat.le_trans hB HB6.out.size
      have m2 : w6.cell? ⟨w.heap.size, 2, none⟩ = some (.int .i64 (c : Int)) := HK6.out.cell 2 rfl
      clear ho6 hg6 hb6 HX5 HK5 HO5
      have m8 : w6.cell? ⟨w.heap.size, 8, none⟩ = some (.int .i64 (r : Int)) := HK6.out.cell 8 rfl
      go_wp2_with fail
      refine (HU.out _).mono ?_
      rintro e w7 ⟨a7, c7, rfl, _, ho7, hb7⟩
      have HO7 : Hid (Own w7 w6.heap.size a7 vn c7 V) := ho7
      have HX7 : Hid (Own w7 base a6 (x + pn + 1 + ln) c6 (X ++ P ++ [c] ++ L)) := HX6.out.below hb7
      have HB7 : Hid (Below base w w7) := HB6.out.trans (hb7.mono HS6.out)
      have HS7 : Hid (base ≤ w7.heap.size) := Nat.le_trans hB HB7.out.size
      clear ho7 hb7 HX6 HK6 m2 m8
      go_wp2_with (at_builtin; refine wpList_append_rd rfl (.tmp 39) (.tmp 43) rfl base a6 (x + pn + 1 + ln) c6 (X ++ P ++ [c] ++ L) rfl HX7.out a7 vn c7 V rfl HO7.out.rd (own_nil_cap HO7.out) (by omega) HS7.out ?_)
      intro a8 c8 w8 ho8 hg8 hb8
      have HX8 : Hid (Own w8 base a8 (x + pn + 1 + ln + vn) c8 (X ++ P ++ [c] ++ L ++ V)) := by show Own _ _ _ _ _ _; simpa only [List.append_assoc, List.cons_append, List.nil_append] using ho8
      have HB8 : Hid (Below base w w8) := HB7.out.trans hb8
      clear ho8 hg8 hb8 HX7 HO7
      go_wp2
      go_ret
      obtain ⟨rfl, rfl⟩ := HE.out
      exact ⟨a8, c8, by rw [show x + (pn + 1 + ln + vn) = x + pn + 1 + ln + vn by omega]; rfl, by rw [show x + (pn + 1 + ln + vn) = x + pn + 1 + ln + vn by omega, show X ++ (P ++ ([c] ++ (L ++ V))) = X ++ P ++ [c] ++ L ++ V by simp only [List.append_assoc]]; exact HX8.out, HB8.out⟩
end Go.Proofs.YtfmpfjpcigdeoabGreatDoor
