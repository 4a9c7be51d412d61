/- A pack of texts: RefTexts ValRef ValRef2 ValRefAll. -/
import Derived.Test.YtfmpfjpcigdeoabGreatDoorTexts
import Derived.Laws.IdiomStrings
import Derived.Test.YtfmpfjpcigdeoabGreatDoorValWhole
/- The reference's Text, some and TakeText, for every text, row of bytes and place. -/
namespace Go.Proofs.YtfmpfjpcigdeoabGreatDoor
set_option maxRecDepth 100000
open Go.RowKit

theorem Own.nil_cap {w : World} {base : Nat} {a : Option Addr} {len cap : Nat} {bs : List Nat} (h : Own w base a len cap bs) : a = none → cap = 0 := by
  rintro rfl
  rcases h.row.2 with ⟨hv, _⟩ | ⟨g, c, cur, hv, _⟩
  · simp only [Value.slice.injEq, true_and] at hv; exact hv.2
  · simp at hv
theorem Own.cap_ok {w : World} {base : Nat} {a : Option Addr} {len cap : Nat} {bs : List Nat} (h : Own w base a len cap bs) : len ≤ cap := by
  rcases h.row.2 with ⟨hv, h0⟩ | ⟨g, c, cur, hv, _, _, hlc, _⟩
  · omega
  · simp only [Value.slice.injEq] at hv
    omega

/-- Bytes that a range leaves, where it ends, and the error. -/
def sub (bs : List Nat) : Nat × Nat × Nat → List Nat × Nat × Nat
  | (p, q, 0) => ((bs.drop p).take (q - p), q, 0)
  | (_, _, f) => ([], 0, f)
theorem textAt_sub (bs : List Nat) (x : Int) : textAt bs x = sub bs (range bs x 200) := rfl
theorem sub_err (bs : List Nat) (p q f : Nat) (h : ¬ f = 0) : sub bs (p, q, f) = ([], 0, f) := by
  cases f with
  | zero => exact absurd rfl h
  | succ f => rfl

set_option maxHeartbeats 1000000 in
/-- The reference's 'some': as many bytes as the number at a place says, in memory of their own. -/
theorem ref_some (a : Option Addr) (len cap : Nat) (bs : List Nat) (x : Int) (limit : Nat) (hlim : limit ≤ 100000) (w : World) (hr : Rd w a len bs) (hlc : len ≤ cap) (hl : len ≤ 9223372036854775000) (hx : (-9223372036854775808 : Int) ≤ x ∧ x ≤ 9223372036854775807) (l : List Nat) (q f : Nat) (hT : sub bs (range bs x limit) = (l, q, f)) :
    Calls Tryz.prog 66 #[.slice a len cap, .int .i64 x, .int .i64 (limit : Int)] w fun e w' => ∃ a' m' c', e = .returned (.tuple #[.slice a' m' c', .int .i64 (q : Int), .int .i64 (f : Int)]) ∧ Rd w' a' m' l ∧ m' ≤ c' ∧ (a' = none → c' = 0) ∧ Below w.heap.size w w' := by
  have HR : Hid (Rd w a len bs) := hr
  have HX : Hid ((-9223372036854775808 : Int) ≤ x ∧ x ≤ 9223372036854775807) := hx
  obtain ⟨n, k, g, hK⟩ : ∃ n k g, Leb.take bs x = (n, k, g) := ⟨_, _, _, rfl⟩
  have HK : Hid (Leb.take bs x = (n, k, g)) := hK
  rw [range_def, hK, hr.size] at hT
  have HN : Hid (∀ W, Rd W (none : Option Addr) 0 []) := fun W => ⟨rfl, by simp, .inl rfl⟩
  by_cases hg : g = 0
  · subst hg
    obtain ⟨hkl, hn, hk0⟩ : k ≤ bs.length ∧ n < 18446744073709551616 ∧ 0 < k := by
      obtain ⟨p, _, hpk, hkl, hn, _⟩ := Leb.take_once bs x hr.byte n k hK
      exact ⟨hkl, hn, by omega⟩
    rw [hr.size] at hkl
    simp only [rng] at hT
    by_cases h1 : limit < n
    · rw [if_pos h1] at hT
      simp only [sub, Prod.mk.injEq] at hT
      obtain ⟨rfl, rfl, rfl⟩ := hT
      clear hr hx hK
      go_enter Tryz.func66, Tryz.ntmps66
      go_wp2_with fail
      refine (ref_TakeUint a len cap bs x w HR.out hl HX.out).mono ?_
      rw [HK.out]
      rintro e w1 ⟨rfl, rfl⟩
      unfold told
      go_wp2
      go_ret3
      exact ⟨none, 0, 0, rfl, HN.out _, Nat.le_refl _, (fun _ => rfl), Below.refl _ _⟩
    · rw [if_neg h1] at hT
      by_cases h2 : len - k < n
      · rw [if_pos h2] at hT
        simp only [sub, Prod.mk.injEq] at hT
        obtain ⟨rfl, rfl, rfl⟩ := hT
        have h2' : (len : Int) - (k : Int) < (n : Int) := by omega
        clear hr hx hK
        go_enter Tryz.func66, Tryz.ntmps66
        go_wp2_with fail
        refine (ref_TakeUint a len cap bs x w HR.out hl HX.out).mono ?_
        rw [HK.out]
        rintro e w1 ⟨rfl, rfl⟩
        unfold told
        go_wp2
        go_ret3
        exact ⟨none, 0, 0, rfl, HN.out _, Nat.le_refl _, (fun _ => rfl), Below.refl _ _⟩
      · rw [if_neg h2] at hT
        simp only [sub, Prod.mk.injEq] at hT
        obtain ⟨hle, rfl, rfl⟩ := hT
        have HLE : Hid ((bs.drop k).take (k + n - k) = l) := hle
        have h2' : ¬ (len : Int) - (k : Int) < (n : Int) := by omega
        obtain ⟨b, off, rfl, hblt, hc⟩ : ∃ b off, a = some ⟨b, off, none⟩ ∧ b < w.heap.size ∧ ∀ i, i < len → w.cell? ⟨b, off + i, none⟩ = some (.int .u8 ((bs.getD i 0 : Nat) : Int)) := by
          rcases hr.cells with h0 | h
          · omega
          · exact h
        have hsub : ∀ off', (k + n - k = 0 ∨ off' = off + k) → Rd w (some ⟨b, off', none⟩) (k + n - k) l := by
          intro off' ho
          rw [← hle]
          refine ⟨by rw [List.length_take, List.length_drop, hr.size]; omega, fun y hy => hr.byte y (List.mem_of_mem_drop (List.mem_of_mem_take hy)), ?_⟩
          rcases ho with h0 | rfl
          · exact .inl h0
          · refine .inr ⟨b, off + k, rfl, hblt, fun i hi => ?_⟩
            rw [Nat.add_assoc, hc (k + i) (by omega)]
            simp only [List.getD_eq_getElem?_getD, List.getElem?_take_of_lt hi, List.getElem?_drop]
        have g1 : (0 : Int) ≤ (k : Int) := by omega
        have g2 : (k : Int) ≤ (k : Int) + (n : Int) := by omega
        have g3 : (k : Int) + (n : Int) ≤ (cap : Int) := by omega
        by_cases hcp : cap = k
        · subst hcp
          have hn0 : n = 0 := by omega
          subst hn0
          have HL0 : Hid (l = []) := by show _ = _; rw [← hle]; simp
          clear hr hx hK hc hsub hle
          go_enter Tryz.func66, Tryz.ntmps66
          go_wp2_with fail
          refine (ref_TakeUint (some ⟨b, off, none⟩) len cap bs x w HR.out hl HX.out).mono ?_
          rw [HK.out]
          rintro e w1 ⟨rfl, hw1⟩
          subst hw1
          unfold told
          go_wp2
          go_ret3
          exact ⟨some ⟨w1.heap.size, 0, none⟩, 0, 0, rfl, (by rw [HL0.out]; exact ⟨rfl, by simp, .inl rfl⟩), Nat.le_refl _, (fun h => by cases h), below_alloc w1 _⟩
        · have HS : Hid (Rd w (some ⟨b, off + k, none⟩) (k + n - k) l) := hsub (off + k) (.inr rfl)
          have hn1 : n ≤ 100000 := by omega
          clear hr hx hK hc hsub hle
          go_enter Tryz.func66, Tryz.ntmps66
          go_wp2_with fail
          refine (ref_TakeUint (some ⟨b, off, none⟩) len cap bs x w HR.out hl HX.out).mono ?_
          rw [HK.out]
          rintro e w1 ⟨rfl, hw1⟩
          subst hw1
          unfold told
          go_wp2_with (at_builtin; refine wpList_append_rd (by rfl) (.tmp 33) (.tmp 40) (by rfl) w1.heap.size (some ⟨w1.heap.size, 0, none⟩) 0 0 [] (by rfl) (Own.empty w1) (some ⟨b, off + k, none⟩) (k + n - k) (cap - k) l (by rfl) (HS.out.below (below_alloc w1 _)) (fun h => by cases h) (by omega) (by simp) ?_; intro a3 c3 w3 hown3 hgrow3 hbel3; have HO3 : Hid (Own w3 w1.heap.size a3 (0 + (k + n - k)) c3 ([] ++ l)) := hown3; have HB3 : Hid (Below w1.heap.size w1 w3) := (below_alloc w1 _).trans hbel3; clear hown3 hgrow3 hbel3)
          go_ret3
          have ho := HO3.out
          rw [Nat.zero_add, List.nil_append, show k + n - k = n from by omega] at ho
          exact ⟨a3, _, c3, rfl, ho.rd, ho.cap_ok, ho.nil_cap, HB3.out⟩
  · have hg' : ((g : Int) != 0) = true := by simp [hg]
    rw [rng_err _ _ _ _ _ hg, sub_err _ _ _ _ hg] at hT
    simp only [Prod.mk.injEq] at hT
    obtain ⟨rfl, rfl, rfl⟩ := hT
    clear hr hx hK hg
    go_enter Tryz.func66, Tryz.ntmps66
    go_wp2_with fail
    refine (ref_TakeUint a len cap bs x w HR.out hl HX.out).mono ?_
    rw [HK.out]
    rintro e w1 ⟨rfl, rfl⟩
    unfold told
    go_wp2
    go_ret3
    exact ⟨none, 0, 0, rfl, HN.out _, Nat.le_refl _, (fun _ => rfl), Below.refl _ _⟩

set_option maxHeartbeats 400000 in
theorem ref_TakeText (a : Option Addr) (len cap : Nat) (bs : List Nat) (x : Int) (w : World) (hr : Rd w a len bs) (hlc : len ≤ cap) (hl : len ≤ 9223372036854775000) (hx : (-9223372036854775808 : Int) ≤ x ∧ x ≤ 9223372036854775807) :
    Calls Tryz.prog 39 #[.slice a len cap, .int .i64 x] w fun e w' => e = toldT (textAt bs x) ∧ Below w.heap.size w w' := by
  obtain ⟨l, q, f, hT⟩ : ∃ l q f, sub bs (range bs x 200) = (l, q, f) := ⟨_, _, _, rfl⟩
  have HC : Hid (Calls Tryz.prog 66 #[.slice a len cap, .int .i64 x, .int .i64 200] w fun e w' => ∃ a' m' c', e = .returned (.tuple #[.slice a' m' c', .int .i64 (q : Int), .int .i64 (f : Int)]) ∧ Rd w' a' m' l ∧ m' ≤ c' ∧ (a' = none → c' = 0) ∧ Below w.heap.size w w') := ref_some a len cap bs x 200 (by omega) w hr hlc hl hx l q f hT
  have HF : Hid (textAt bs x = (l, q, f)) := by show _ = _; rw [textAt_sub, hT]
  rw [HF.out]
  clear hr hx hT
  go_enter Tryz.func39, Tryz.ntmps39
  go_wp2_with fail
  refine HC.out.mono ?_
  rintro e w1 ⟨a', m', c', rfl, hrd, _, _, hb1⟩
  have k1 := conv_rd hrd c'
  have HB1 : Hid (Below w.heap.size w w1) := hb1
  clear hrd hb1
  go_wp2
  go_ret3
  exact ⟨rfl, HB1.out⟩

end Go.Proofs.YtfmpfjpcigdeoabGreatDoor
/- The reference's Take of a value. -/
namespace Go.Proofs.YtfmpfjpcigdeoabGreatDoor
set_option maxRecDepth 100000
open Go.RowKit

def toldSide (r : Int × Nat × Nat) : Ending := .returned (.tuple #[.int .i64 r.1, .int .i64 (r.2.1 : Int), .int .i64 (r.2.2 : Int)])

theorem ref_side (a : Option Addr) (len cap : Nat) (bs : List Nat) (x : Int) (w : World) (hr : Rd w a len bs) (hl : len ≤ 9223372036854775000) (hx : (-9223372036854775808 : Int) ≤ x ∧ x ≤ 9223372036854775807) :
    Calls Tryz.prog 68 #[.slice a len cap, .int .i64 x] w fun e w' => e = toldSide (partAt bs x) ∧ w' = w := by
  have HR : Hid (Rd w a len bs) := hr
  have HX : Hid ((-9223372036854775808 : Int) ≤ x ∧ x ≤ 9223372036854775807) := hx
  have hsm := take_small bs x hr.byte
  obtain ⟨n, k, f, hT⟩ : ∃ n k f, Leb.take bs x = (n, k, f) := ⟨_, _, _, rfl⟩
  rw [hT] at hsm
  have HT : Hid (Leb.take bs x = (n, k, f)) := hT
  clear hr hx hT
  go_enter Tryz.func68, Tryz.ntmps68
  go_wp2_with fail
  refine (ref_TakeInt a len cap bs x w HR.out hl HX.out).mono ?_
  rw [HT.out]
  by_cases hf : f = 0
  · subst hf
    rw [toldI_ok]
    rintro e w1 ⟨rfl, rfl⟩
    by_cases h1 : unfold n < -1048576
    · have HP : Hid (partAt bs x = (0, 0, 6)) := partAt_limit HT.out (.inl h1)
      go_wp2
      go_ret3
      exact ⟨by rw [HP.out]; rfl, rfl⟩
    · by_cases h2 : 1048576 < unfold n
      · have HP : Hid (partAt bs x = (0, 0, 6)) := partAt_limit HT.out (.inr h2)
        go_wp2
        go_ret3
        exact ⟨by rw [HP.out]; rfl, rfl⟩
      · have HP : Hid (partAt bs x = (unfold n, k, 0)) := partAt_ok HT.out (by omega)
        go_wp2
        go_ret3
        exact ⟨by rw [HP.out]; rfl, rfl⟩
  · rw [toldI_err n k f hf]
    rintro e w1 ⟨rfl, rfl⟩
    have hf' : (f : Int) ≠ 0 := by omega
    have HP : Hid (partAt bs x = (0, 0, f)) := partAt_err HT.out hf
    go_wp2
    go_ret3
    exact ⟨by rw [HP.out]; rfl, rfl⟩

/-- At no place of the bytes, or at their end. -/
theorem ref_Take_out (a : Option Addr) (len cap : Nat) (bs : List Nat) (x : Int) (w : World) (hr : Rd w a len bs) (hl : len ≤ 9223372036854775000) (h : x < 0 ∨ (len : Int) ≤ x) :
    Calls Tryz.prog 41 #[.slice a len cap, .int .i64 x] w fun e w' => e = toldV (valAt bs x) ∧ Below w.heap.size w w' := by
  have hcx : ∀ (a : Addr) (m : Mode) (W : World) (x y : Nat), (store a (.complex .f64 x y) m).run Tryz.prog W = stored Tryz.prog W a (.complex .f64 x y) m := fun a m W x y => run_store _ _ _ _ _ rfl
  have hs := hr.size
  clear hr
  by_cases h1 : x < 0
  · have HV : Hid (valAt bs x = (Val.zero, 0, 2)) := by show _ = _; unfold valAt; rw [hs, if_pos (.inl h1)]
    go_enter Tryz.func41, Tryz.ntmps41
    go_wp2
    go_returns
    exact ⟨by rw [HV.out]; rfl, below_alloc w _⟩
  · by_cases h2 : (len : Int) < x
    · have HV : Hid (valAt bs x = (Val.zero, 0, 2)) := by show _ = _; unfold valAt; rw [hs, if_pos (.inr h2)]
      go_enter Tryz.func41, Tryz.ntmps41
      go_wp2
      go_returns
      exact ⟨by rw [HV.out]; rfl, below_alloc w _⟩
    · obtain rfl : x = (len : Int) := by omega
      have HV : Hid (valAt bs (len : Int) = (Val.zero, 0, 3)) := by show _ = _; unfold valAt; rw [hs, if_neg (by omega), if_pos rfl]
      go_enter Tryz.func41, Tryz.ntmps41
      go_wp2
      go_returns
      exact ⟨by rw [HV.out]; rfl, below_alloc w _⟩

theorem rd_cell_at {w : World} {b off len : Nat} {bs : List Nat} (h : Rd w (some ⟨b, off, none⟩) len bs) (i : Nat) (hi : i < len) : w.cell? ⟨b, off + i, none⟩ = some (.int .u8 ((bs.getD i 0 : Nat) : Int)) := by
  obtain ⟨b', off', h1, h2⟩ := rd_at h i hi
  cases h1
  exact h2

set_option maxRecDepth 100000 in
set_option maxHeartbeats 1000000 in
theorem ref_Take0 (b off : Nat) (len cap : Nat) (bs : List Nat) (p : Nat) (w : World) (hr : Rd w (some ⟨b, off, none⟩) len bs) (hp : p < len) (c : Nat) (hb : bs.getD p 0 = c) (hk : c < 1 ∨ 4 < c) :
    Calls Tryz.prog 41 #[.slice (some ⟨b, off, none⟩) len cap, .int .i64 (p : Int)] w fun e w' => e = toldV (bodyAt c bs (p + 1)) ∧ Below w.heap.size w w' := by
  have hcx : ∀ (a : Addr) (m : Mode) (W : World) (x y : Nat), (store a (.complex .f64 x y) m).run Tryz.prog W = stored Tryz.prog W a (.complex .f64 x y) m := fun a m W x y => run_store _ _ _ _ _ rfl
  have hlt : (p : Int) < (len : Int) := by omega
  have e4 : ((p : Int) == (len : Int)) = false := by rw [beq_eq_false_iff_ne]; omega
  have g1 : ¬ (p : Int) < 0 := by omega
  have g2 : ¬ (len : Int) < (p : Int) := by omega
  have hc := rd_cell_at hr p hp
  rw [hb] at hc
  have HR : Hid (Rd w (some ⟨b, off, none⟩) len bs) := hr
  have hc' : (w.alloc (.cells Val.zero.cells 47)).cell? ⟨b, off + p, none⟩ = some (.int .u8 (c : Int)) := ((below_alloc w _).cell (p := ⟨b, off + p, none⟩) (World.block_lt_of_cell? w _ hc)).trans hc
  simp only [Val.cells, Val.zero] at hc'
  clear hr hc
  have HV : Hid (bodyAt c bs (p + 1) = (Val.zero, 0, 12)) := by show _ = _; unfold bodyAt; rw [if_neg (by omega), if_neg (by omega), if_neg (by omega), if_neg (by omega)]
  have e1 : ((c : Int) == 1) = false := by rw [beq_eq_false_iff_ne]; omega
  have e2 : ((c : Int) == 2) = false := by rw [beq_eq_false_iff_ne]; omega
  have e3 : ((c : Int) == 3) = false := by rw [beq_eq_false_iff_ne]; omega
  have e5 : ((c : Int) == 4) = false := by rw [beq_eq_false_iff_ne]; omega
  have hc256 : c < 256 := by rw [← hb]; exact getD_lt HR.out.byte p
  go_enter Tryz.func41, Tryz.ntmps41
  go_wp2
  go_returns
  exact ⟨by rw [HV.out]; rfl, below_alloc w _⟩

set_option maxRecDepth 100000 in
set_option maxHeartbeats 1000000 in
theorem ref_Take1 (b off : Nat) (len cap : Nat) (bs : List Nat) (p : Nat) (w : World) (hr : Rd w (some ⟨b, off, none⟩) len bs) (hl : len ≤ 9223372036854775000) (hp : p < len) (hb : bs.getD p 0 = 1) :
    Calls Tryz.prog 41 #[.slice (some ⟨b, off, none⟩) len cap, .int .i64 (p : Int)] w fun e w' => e = toldV (bodyAt 1 bs (p + 1)) ∧ Below w.heap.size w w' := by
  have hcx : ∀ (a : Addr) (m : Mode) (W : World) (x y : Nat), (store a (.complex .f64 x y) m).run Tryz.prog W = stored Tryz.prog W a (.complex .f64 x y) m := fun a m W x y => run_store _ _ _ _ _ rfl
  have hlt : (p : Int) < (len : Int) := by omega
  have e4 : ((p : Int) == (len : Int)) = false := by rw [beq_eq_false_iff_ne]; omega
  have g1 : ¬ (p : Int) < 0 := by omega
  have g2 : ¬ (len : Int) < (p : Int) := by omega
  have hc := rd_cell_at hr p hp
  rw [hb] at hc
  have HR : Hid (Rd w (some ⟨b, off, none⟩) len bs) := hr
  have hc' : (w.alloc (.cells Val.zero.cells 47)).cell? ⟨b, off + p, none⟩ = some (.int .u8 (1 : Int)) := ((below_alloc w _).cell (p := ⟨b, off + p, none⟩) (World.block_lt_of_cell? w _ hc)).trans hc
  simp only [Val.cells, Val.zero] at hc'
  clear hr hc
  obtain ⟨n, k, f, hT⟩ : ∃ n k f, Leb.take bs ((p + 1 : Nat) : Int) = (n, k, f) := ⟨_, _, _, rfl⟩
  have HC := ref_TakeInt (some ⟨b, off, none⟩) len cap bs ((p + 1 : Nat) : Int) (w.alloc (.cells Val.zero.cells 47)) (HR.out.below (below_alloc w _)) hl (by omega)
  rw [hT, Int.natCast_add] at HC
  have HCC : Hid (Calls Tryz.prog 67 #[.slice (some ⟨b, off, none⟩) len cap, .int .i64 ((p : Int) + 1)] (w.alloc (.cells Val.zero.cells 47)) fun e w' => e = toldI (n, k, f) ∧ w' = w.alloc (.cells Val.zero.cells 47)) := HC
  have HT : Hid (Leb.take bs ((p + 1 : Nat) : Int) = (n, k, f)) := hT
  clear HC hT
  go_enter Tryz.func41, Tryz.ntmps41
  go_wp2_with fail
  refine HCC.out.mono ?_
  by_cases hf : f = 0
  · subst hf
    have HV : Hid (bodyAt 1 bs (p + 1) = (⟨1, unfold n, ⟨#[]⟩, false, 0, 0⟩, k, 0)) := by show _ = _; unfold bodyAt; rw [HT.out]; rfl
    rw [toldI_ok]
    rintro e w1 ⟨rfl, rfl⟩
    simp only [Val.cells, Val.zero]
    go_wp2
    go_returns
    exact ⟨by rw [HV.out]; rfl, below_alloc w _⟩
  · have HV : Hid (bodyAt 1 bs (p + 1) = (Val.zero, 0, f)) := by show _ = _; unfold bodyAt; rw [HT.out]; cases f with | zero => exact absurd rfl hf | succ f => rfl
    rw [toldI_err n k f hf]
    rintro e w1 ⟨rfl, rfl⟩
    simp only [Val.cells, Val.zero]
    have hf' : (f : Int) ≠ 0 := by omega
    go_wp2
    go_returns
    exact ⟨by rw [HV.out]; rfl, below_alloc w _⟩
end Go.Proofs.YtfmpfjpcigdeoabGreatDoor
/- The reference's Take of a value: words, truths, points. -/
namespace Go.Proofs.YtfmpfjpcigdeoabGreatDoor
set_option maxRecDepth 100000
open Go.RowKit

theorem results_rtake {w : World} {tmps : Array Value} {g : Nat} {v0 v1 v2 v3 v4 n f : Value} (h4 : tmps[4]?.getD undef = .pointer (some ⟨g, 0, none⟩)) (h5 : tmps[5]?.getD undef = n) (h6 : tmps[6]?.getD undef = f)
    (k : w.cell? ⟨g, 0, none⟩ = some v0 ∧ w.cell? ⟨g, 1, none⟩ = some v1 ∧ w.cell? ⟨g, 2, none⟩ = some v2 ∧ w.cell? ⟨g, 3, none⟩ = some v3 ∧ w.cell? ⟨g, 4, none⟩ = some v4) : (results Tryz.f41 tmps).run Tryz.prog w = .ok (.tuple #[.agg #[v0, v1, v2, v3, v4], n, f]) w := by
  obtain ⟨k0, k1, k2, k3, k4⟩ := k
  simp [results, Tryz.results41, go_sem, h4, h5, h6, k0, k1, k2, k3, k4]

set_option maxRecDepth 100000 in
set_option maxHeartbeats 1000000 in
theorem ref_Take2 (b off : Nat) (len cap : Nat) (bs : List Nat) (p : Nat) (w : World) (hr : Rd w (some ⟨b, off, none⟩) len bs) (hlc : len ≤ cap) (hl : len ≤ 9223372036854775000) (hp : p < len) (hb : bs.getD p 0 = 2) :
    Calls Tryz.prog 41 #[.slice (some ⟨b, off, none⟩) len cap, .int .i64 (p : Int)] w fun e w' => e = toldV (bodyAt 2 bs (p + 1)) ∧ Below w.heap.size w w' := by
  have hcx : ∀ (a : Addr) (m : Mode) (W : World) (x y : Nat), (store a (.complex .f64 x y) m).run Tryz.prog W = stored Tryz.prog W a (.complex .f64 x y) m := fun a m W x y => run_store _ _ _ _ _ rfl
  have hlt : (p : Int) < (len : Int) := by omega
  have e4 : ((p : Int) == (len : Int)) = false := by rw [beq_eq_false_iff_ne]; omega
  have g1 : ¬ (p : Int) < 0 := by omega
  have g2 : ¬ (len : Int) < (p : Int) := by omega
  have hc := rd_cell_at hr p hp
  rw [hb] at hc
  have HR : Hid (Rd w (some ⟨b, off, none⟩) len bs) := hr
  have hc' : (w.alloc (.cells Val.zero.cells 47)).cell? ⟨b, off + p, none⟩ = some (.int .u8 (2 : Int)) := ((below_alloc w _).cell (p := ⟨b, off + p, none⟩) (World.block_lt_of_cell? w _ hc)).trans hc
  simp only [Val.cells, Val.zero] at hc'
  clear hr hc
  obtain ⟨l, k, f, hT⟩ : ∃ l k f, textAt bs ((p + 1 : Nat) : Int) = (l, k, f) := ⟨_, _, _, rfl⟩
  obtain ⟨S, HSS⟩ : ∃ S, Hid (str l = S) := ⟨_, rfl⟩
  have HC := ref_TakeText (some ⟨b, off, none⟩) len cap bs ((p + 1 : Nat) : Int) (w.alloc (.cells Val.zero.cells 47)) (HR.out.below (below_alloc w _)) hlc hl (by omega)
  rw [hT, Int.natCast_add, toldT, HSS.out] at HC
  have HCC : Hid (Calls Tryz.prog 39 #[.slice (some ⟨b, off, none⟩) len cap, .int .i64 ((p : Int) + 1)] (w.alloc (.cells Val.zero.cells 47)) fun e w' => e = .returned (.tuple #[.string S, .int .i64 (k : Int), .int .i64 (f : Int)]) ∧ Below (w.alloc (.cells Val.zero.cells 47)).heap.size (w.alloc (.cells Val.zero.cells 47)) w') := HC
  have HT : Hid (textAt bs ((p + 1 : Nat) : Int) = (l, k, f)) := hT
  clear HC hT
  go_enter Tryz.func41, Tryz.ntmps41
  go_wp2_with fail
  refine HCC.out.mono ?_
  rintro e w1 ⟨rfl, hb1⟩
  have HB1 : Hid (Below w.heap.size w w1) := (below_alloc w _).trans (hb1.mono (by simp))
  obtain ⟨⟨k0, k1, k2, k3, k4⟩, ⟨f0, f1, f2, f3, f4⟩⟩ := box5 Val.zero hb1
  clear hb1 hc'
  by_cases hf : f = 0
  · subst hf
    have HV : Hid (bodyAt 2 bs (p + 1) = (⟨2, 0, S, false, 0, 0⟩, k, 0)) := by show _ = _; unfold bodyAt; rw [HT.out, ← HSS.out]; rfl
    have HK := cells5 (.int .i64 2) (.int .i64 0) (.string S) (.bool false) (.complex .f64 0 0) k0 k1 k2 k3 k4
    simp only [Val.zero] at k0 k1 k2 k3 k4
    go_wp2
    try simp only [Exit.inBlock, Exit.then]
    refine bodyPost_ret (results_rtake (by rfl) (by rfl) (by rfl) HK) rfl ?_
    exact ⟨by rw [HV.out]; rfl, (((((HB1.out).setCell (Nat.le_refl _) _).setCell (Nat.le_refl _) _).setCell (Nat.le_refl _) _).setCell (Nat.le_refl _) _).setCell (Nat.le_refl _) _⟩
  · have HV : Hid (bodyAt 2 bs (p + 1) = (Val.zero, 0, f)) := by show _ = _; unfold bodyAt; rw [HT.out]; cases f with | zero => exact absurd rfl hf | succ f => rfl
    have hf' : (f : Int) ≠ 0 := by omega
    have HK := cells5 (.int .i64 0) (.int .i64 0) (.string ⟨#[]⟩) (.bool false) (.complex .f64 0 0) k0 k1 k2 k3 k4
    simp only [Val.zero] at k0 k1 k2 k3 k4
    go_wp2
    try simp only [Exit.inBlock, Exit.then]
    refine bodyPost_ret (results_rtake (by rfl) (by rfl) (by rfl) HK) rfl ?_
    exact ⟨by rw [HV.out]; rfl, (((((HB1.out).setCell (Nat.le_refl _) _).setCell (Nat.le_refl _) _).setCell (Nat.le_refl _) _).setCell (Nat.le_refl _) _).setCell (Nat.le_refl _) _⟩

set_option maxRecDepth 100000 in
set_option maxHeartbeats 1000000 in
theorem ref_Take4 (b off : Nat) (len cap : Nat) (bs : List Nat) (p : Nat) (w : World) (hr : Rd w (some ⟨b, off, none⟩) len bs) (hl : len ≤ 9223372036854775000) (hp : p < len) (hb : bs.getD p 0 = 4) :
    Calls Tryz.prog 41 #[.slice (some ⟨b, off, none⟩) len cap, .int .i64 (p : Int)] w fun e w' => e = toldV (bodyAt 4 bs (p + 1)) ∧ Below w.heap.size w w' := by
  have hcx : ∀ (a : Addr) (m : Mode) (W : World) (x y : Nat), (store a (.complex .f64 x y) m).run Tryz.prog W = stored Tryz.prog W a (.complex .f64 x y) m := fun a m W x y => run_store _ _ _ _ _ rfl
  have hlt : (p : Int) < (len : Int) := by omega
  have e4 : ((p : Int) == (len : Int)) = false := by rw [beq_eq_false_iff_ne]; omega
  have g1 : ¬ (p : Int) < 0 := by omega
  have g2 : ¬ (len : Int) < (p : Int) := by omega
  have hc := rd_cell_at hr p hp
  rw [hb] at hc
  have HR : Hid (Rd w (some ⟨b, off, none⟩) len bs) := hr
  have hc' : (w.alloc (.cells Val.zero.cells 47)).cell? ⟨b, off + p, none⟩ = some (.int .u8 (4 : Int)) := ((below_alloc w _).cell (p := ⟨b, off + p, none⟩) (World.block_lt_of_cell? w _ hc)).trans hc
  simp only [Val.cells, Val.zero] at hc'
  clear hr hc
  obtain ⟨n, k, f, hT⟩ : ∃ n k f, partAt bs ((p + 1 : Nat) : Int) = (n, k, f) := ⟨_, _, _, rfl⟩
  have HC := ref_side (some ⟨b, off, none⟩) len cap bs ((p + 1 : Nat) : Int) (w.alloc (.cells Val.zero.cells 47)) (HR.out.below (below_alloc w _)) hl (by omega)
  rw [hT, Int.natCast_add, toldSide] at HC
  have HCC : Hid (Calls Tryz.prog 68 #[.slice (some ⟨b, off, none⟩) len cap, .int .i64 ((p : Int) + 1)] (w.alloc (.cells Val.zero.cells 47)) fun e w' => e = .returned (.tuple #[.int .i64 n, .int .i64 (k : Int), .int .i64 (f : Int)]) ∧ w' = w.alloc (.cells Val.zero.cells 47)) := HC
  have HT : Hid (partAt bs ((p + 1 : Nat) : Int) = (n, k, f)) := hT
  clear HC hT
  by_cases hf : f = 0
  · subst hf
    obtain ⟨hk, _, _⟩ := partAt_place HR.out.byte HT.out
    rw [HR.out.size] at hk
    obtain ⟨m, j, g, hS⟩ : ∃ m j g, partAt bs (k : Int) = (m, j, g) := ⟨_, _, _, rfl⟩
    have HS : Hid (partAt bs (k : Int) = (m, j, g)) := hS
    clear hS
    obtain ⟨N, HN⟩ : ∃ N, Hid (floatOfInt .f64 n = N) := ⟨_, rfl⟩
    obtain ⟨M, HM⟩ : ∃ M, Hid (floatOfInt .f64 m = M) := ⟨_, rfl⟩
    go_enter Tryz.func41, Tryz.ntmps41
    go_wp2_with fail
    refine HCC.out.mono ?_
    rintro e w1 ⟨rfl, rfl⟩
    simp only [Val.cells, Val.zero]
    go_wp2_with fail
    refine (ref_side (some ⟨b, off, none⟩) len cap bs (k : Int) _ (HR.out.below (below_alloc w _)) hl (by omega)).mono ?_
    rw [HS.out, toldSide]
    rintro e w2 ⟨rfl, rfl⟩
    by_cases hg : g = 0
    · subst hg
      have HV : Hid (bodyAt 4 bs (p + 1) = (⟨4, 0, ⟨#[]⟩, false, N, M⟩, j, 0)) := by
        show _ = _
        unfold bodyAt
        rw [pointAt_ok HT.out HS.out, ← HN.out, ← HM.out]
        rfl
      go_wp2
      try simp only [HN.out, HM.out]
      go_returns
      exact ⟨by rw [HV.out]; rfl, below_alloc w _⟩
    · have hg' : (g : Int) ≠ 0 := by omega
      have HV : Hid (bodyAt 4 bs (p + 1) = (Val.zero, 0, g)) := by
        show _ = _
        unfold bodyAt
        rw [pointAt_err2 HT.out HS.out hg]
        cases g with | zero => exact absurd rfl hg | succ g => rfl
      go_wp2
      go_returns
      exact ⟨by rw [HV.out]; rfl, below_alloc w _⟩
  · have hf' : (f : Int) ≠ 0 := by omega
    have HV : Hid (bodyAt 4 bs (p + 1) = (Val.zero, 0, f)) := by
      show _ = _
      unfold bodyAt
      rw [pointAt_err1 HT.out hf]
      cases f with | zero => exact absurd rfl hf | succ f => rfl
    go_enter Tryz.func41, Tryz.ntmps41
    go_wp2_with fail
    refine HCC.out.mono ?_
    rintro e w1 ⟨rfl, rfl⟩
    simp only [Val.cells, Val.zero]
    go_wp2
    go_returns
    exact ⟨by rw [HV.out]; rfl, below_alloc w _⟩
end Go.Proofs.YtfmpfjpcigdeoabGreatDoor
/- The reference's Take of a value, whole. -/
namespace Go.Proofs.YtfmpfjpcigdeoabGreatDoor
set_option maxRecDepth 100000
open Go.RowKit

set_option maxRecDepth 100000 in
set_option maxHeartbeats 1000000 in
theorem ref_Take3 (b off : Nat) (len cap : Nat) (bs : List Nat) (p : Nat) (w : World) (hr : Rd w (some ⟨b, off, none⟩) len bs) (hl : len ≤ 9223372036854775000) (hp : p < len) (hb : bs.getD p 0 = 3) :
    Calls Tryz.prog 41 #[.slice (some ⟨b, off, none⟩) len cap, .int .i64 (p : Int)] w fun e w' => e = toldV (bodyAt 3 bs (p + 1)) ∧ Below w.heap.size w w' := by
  have hcx : ∀ (a : Addr) (m : Mode) (W : World) (x y : Nat), (store a (.complex .f64 x y) m).run Tryz.prog W = stored Tryz.prog W a (.complex .f64 x y) m := fun a m W x y => run_store _ _ _ _ _ rfl
  have hlt : (p : Int) < (len : Int) := by omega
  have e4 : ((p : Int) == (len : Int)) = false := by rw [beq_eq_false_iff_ne]; omega
  have g1 : ¬ (p : Int) < 0 := by omega
  have g2 : ¬ (len : Int) < (p : Int) := by omega
  have hc := rd_cell_at hr p hp
  rw [hb] at hc
  have HR : Hid (Rd w (some ⟨b, off, none⟩) len bs) := hr
  have hc' : (w.alloc (.cells Val.zero.cells 47)).cell? ⟨b, off + p, none⟩ = some (.int .u8 (3 : Int)) := ((below_alloc w _).cell (p := ⟨b, off + p, none⟩) (World.block_lt_of_cell? w _ hc)).trans hc
  simp only [Val.cells, Val.zero] at hc'
  clear hr hc
  have hs := HR.out.size
  by_cases h1 : p + 1 = len
  · have HV : Hid (bodyAt 3 bs (p + 1) = (Val.zero, 0, 3)) := by
      show _ = _
      unfold bodyAt truthAt
      rw [hs, if_neg (by decide), if_neg (by decide), if_pos rfl, if_pos h1]
      rfl
    have h1' : (len : Int) ≤ (p : Int) + 1 := by omega
    clear h1 hs
    go_enter Tryz.func41, Tryz.ntmps41
    go_wp2
    go_returns
    exact ⟨by rw [HV.out]; rfl, below_alloc w _⟩
  · have h1' : ¬ (len : Int) ≤ (p : Int) + 1 := by omega
    have h1'' : (p : Int) + 1 < (len : Int) := by omega
    have hd := rd_cell_at HR.out (p + 1) (by omega)
    have hd256 := getD_lt HR.out.byte (p + 1)
    have HV : Hid (bodyAt 3 bs (p + 1) = if 1 < bs.getD (p + 1) 0 then (Val.zero, 0, 4) else (⟨3, 0, ⟨#[]⟩, decide (bs.getD (p + 1) 0 = 1), 0, 0⟩, p + 2, 0)) := by
      show _ = _
      unfold bodyAt truthAt
      rw [hs, if_neg (by decide), if_neg (by decide), if_pos rfl, if_neg h1]
      by_cases h2 : 1 < bs.getD (p + 1) 0
      · rw [if_pos h2, if_pos h2]
        rfl
      · rw [if_neg h2, if_neg h2]
        rfl
    have hd' : (w.alloc (.cells Val.zero.cells 47)).cell? ⟨b, off + (p + 1), none⟩ = some (.int .u8 ((bs.getD (p + 1) 0 : Nat) : Int)) := ((below_alloc w _).cell (p := ⟨b, off + (p + 1), none⟩) (World.block_lt_of_cell? w _ hd)).trans hd
    simp only [Val.cells, Val.zero] at hd'
    clear hd hs
    generalize bs.getD (p + 1) 0 = c at *
    by_cases h2 : 1 < c
    · have h2' : (1 : Int) < (c : Int) := by omega
      rw [if_pos h2] at HV
      go_enter Tryz.func41, Tryz.ntmps41
      go_wp2
      go_returns
      exact ⟨by rw [HV.out]; rfl, below_alloc w _⟩
    · have h2' : ¬ (1 : Int) < (c : Int) := by omega
      rw [if_neg h2] at HV
      by_cases h3 : c = 1
      · subst h3
        go_enter Tryz.func41, Tryz.ntmps41
        go_wp2
        go_returns
        exact ⟨by rw [HV.out]; rfl, below_alloc w _⟩
      · obtain rfl : c = 0 := by omega
        go_enter Tryz.func41, Tryz.ntmps41
        go_wp2
        go_returns
        exact ⟨by rw [HV.out]; rfl, below_alloc w _⟩

theorem ref_Take (a : Option Addr) (len cap : Nat) (bs : List Nat) (x : Int) (w : World) (hr : Rd w a len bs) (hlc : len ≤ cap) (hl : len ≤ 9223372036854775000) :
    Calls Tryz.prog 41 #[.slice a len cap, .int .i64 x] w fun e w' => e = toldV (valAt bs x) ∧ Below w.heap.size w w' := by
  by_cases h : x < 0 ∨ (len : Int) ≤ x
  · exact ref_Take_out a len cap bs x w hr hl h
  · obtain ⟨p, rfl⟩ := Int.eq_ofNat_of_zero_le (a := x) (by omega)
    have hp : p < len := by omega
    have hs := hr.size
    have HV : valAt bs (p : Int) = bodyAt (bs.getD p 0) bs (p + 1) := by
      unfold valAt
      rw [hs, if_neg (by omega), if_neg (by omega)]
      rfl
    obtain ⟨b, off, rfl, _⟩ := rd_at hr p hp
    rw [HV]
    by_cases h1 : bs.getD p 0 = 1
    · rw [h1]; exact ref_Take1 b off len cap bs p w hr hl hp h1
    by_cases h2 : bs.getD p 0 = 2
    · rw [h2]; exact ref_Take2 b off len cap bs p w hr hlc hl hp h2
    by_cases h3 : bs.getD p 0 = 3
    · rw [h3]; exact ref_Take3 b off len cap bs p w hr hl hp h3
    by_cases h4 : bs.getD p 0 = 4
    · rw [h4]; exact ref_Take4 b off len cap bs p w hr hl hp h4
    · exact ref_Take0 b off len cap bs p w hr hp _ rfl (by omega)
end Go.Proofs.YtfmpfjpcigdeoabGreatDoor
