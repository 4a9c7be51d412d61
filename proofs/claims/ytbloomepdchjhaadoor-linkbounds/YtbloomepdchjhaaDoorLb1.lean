/- What does not go: link.frame's numbers that may not be, link.read and link.Take of such frames. -/
import Derived.Test.YtbloomepdchjhaaDoorLk20
import Derived.Deep.Cut
namespace Go.Proofs.YtbloomepdchjhaaDoor
open Go.RowKit

set_option maxRecDepth 100000 in
set_option maxHeartbeats 4000000 in
theorem lk_numbers_bad (F k g o n c x0 x1 x2 : Nat) (bs rest : List Nat) (w : World) (hF : Bk w F #[.int .u8 (k : Int), .int .i64 0, .int .i64 0, .int .i64 0, .int .i64 0, .int .i64 0, .int .i64 0, .int .i64 0, .int .i64 0, .int .i64 0, .slice none 0 0, .slice none 0 0] 78) (hr : Rd w (some ⟨g, o, none⟩) n bs) (hbs : bs = lebs [x0, x1, x2] ++ rest) (hgF : g ≠ F) (hnc : n ≤ c) (hc : c ≤ 1000000) (hx : x0 < 18446744073709551616 ∧ x1 < 18446744073709551616 ∧ x2 < 18446744073709551616) (hbad : ¬ (1 ≤ x0 ∧ x0 ≤ 1073741824 ∧ x1 ≤ 1073741824 ∧ 1 ≤ x2 ∧ x2 ≤ 1099511627776)) :
    Calls Tryd.prog 36 #[.pointer (some ⟨F, 0, none⟩), .slice (some ⟨g, o, none⟩) n c] w fun e w' => e = .returned (.tuple #[.slice none 0 0, .int .i64 6]) ∧ Below w.heap.size w w' := by
  obtain ⟨ns, hns⟩ : ∃ ns, ns = [x0, x1, x2] := ⟨_, rfl⟩
  have HNS : Hid (ns = [x0, x1, x2]) := hns
  have HN3 : Hid (ns.length = 3) := by rw [hns]; rfl
  rw [← hns] at hbs
  have HBS : Hid (bs = lebs ns ++ rest) := hbs
  have HNB : Hid (∀ x ∈ ns, x < 18446744073709551616) := by intro x hx; rw [hns] at hx; simp only [List.mem_cons, List.not_mem_nil, or_false] at hx; omega
  obtain ⟨m, hm⟩ : ∃ m, m = (lebs ns).length := ⟨_, rfl⟩
  have HM : Hid (m = (lebs ns).length) := hm
  have hsz := hr.size
  rw [hbs, List.length_append, ← hm] at hsz
  have HR : Hid (Rd w (some ⟨g, o, none⟩) n bs) := hr
  have HF : Hid (Bk w F #[.int .u8 (k : Int), .int .i64 0, .int .i64 0, .int .i64 0, .int .i64 0, .int .i64 0, .int .i64 0, .int .i64 0, .int .i64 0, .int .i64 0, .slice none 0 0, .slice none 0 0] 78) := hF
  have HFL : Hid (F < w.heap.size) := hF.lt
  have HGF : Hid (g ≠ F) := hgF
  have HSZ : Hid (m + rest.length = n) := hsz
  have hmn : m ≤ n := by omega
  have hm1 : (m : Int) ≤ (n : Int) := by omega
  have hm2 : (m : Int) ≤ (c : Int) := by omega
  have hm0 : (0 : Int) ≤ (m : Int) := by omega
  obtain ⟨W0, HW0⟩ : ∃ W0, Hid (W0 = w.alloc (.cells #[.int .u64 0, .int .u64 0, .int .u64 0] 117)) := ⟨_, rfl⟩
  have HB0 : Hid (Below w.heap.size w W0) := by rw [HW0.out]; exact below_new _ _
  have HA0 : Hid (Bk W0 w.heap.size (arr3 ns 0).toArray 117) := by
    have e : (arr3 ns 0).toArray = #[.int .u64 0, .int .u64 0, .int .u64 0] := by rw [hns]; rfl
    rw [HW0.out, e]; exact Bk.new _ _ _
  clear hns hbs hm hr hF hsz hgF
  go_enter Tryd.func36, Tryd.ntmps36
  go_wp2
  rw [← HW0.out]
  go_loopw [7, 15] (fun t7 t15 wr => ∃ (i p : Nat), i ≤ 3 ∧ t15 = .int .i64 (i : Int) ∧ t7 = .int .i64 (p : Int) ∧ Hid (p = (lebs (ns.take i)).length) ∧ p ≤ m ∧ Hid (Bk wr w.heap.size (arr3 ns i).toArray 117) ∧ Hid (Below w.heap.size w wr)) (fun _ t15 _ => 3 - (intOf t15).toNat)
  case atStart => exact ⟨0, 0, by omega, rfl, rfl, rfl, by omega, HA0, HB0⟩
  case round =>
    obtain ⟨i, p, hi, rfl, rfl, HP, hpm, HA, HB⟩ := hrel
    clear HA0
    by_cases hlt : i < 3
    · have hlt' : (i : Int) < 3 := by omega
      have h0i : (0 : Int) ≤ (i : Int) := by omega
      obtain ⟨x, hx⟩ : ∃ x, ns[i]? = some x := ⟨ns[i]'(by rw [HN3.out]; exact hlt), List.getElem?_eq_getElem _⟩
      have hxb : x < 18446744073709551616 := HNB.out x (List.mem_of_getElem? hx)
      have HX : Hid (ns[i]? = some x) := hx
      obtain ⟨q, hq⟩ : ∃ q, q = (lebs (ns.take (i + 1))).length := ⟨_, rfl⟩
      have HQ : Hid (q = (lebs (ns.take (i + 1))).length) := hq
      have hqm : q ≤ m := by
        have e : lebs ns = lebs (ns.take (i + 1)) ++ lebs (ns.drop (i + 1)) := by rw [← lebs_append, List.take_append_drop]
        rw [hq, HM.out, e, List.length_append]
        omega
      have htk := octet_TakeUint (some ⟨g, o, none⟩) n c bs (p : Int) wr (HR.out.below HB.out) (by omega) (by omega)
      rw [HBS.out, HP.out, nums_take hx hxb, ← HP.out, ← hq] at htk
      have HTK : Hid (Calls Tryd.prog 54 #[.slice (some ⟨g, o, none⟩) n c, .int .i64 (p : Int)] wr fun e w' => e = .returned (.tuple #[.int .u64 (x : Int), .int .i64 (q : Int), .int .i64 0]) ∧ w' = wr) := htk
      have ca : wr.cell? ⟨w.heap.size, i, none⟩ = some (.int .u64 0) := HA.out.cell i (by rw [List.getElem?_toArray]; exact arr3_at HN3.out hlt)
      have fa : wr.frozen? ⟨w.heap.size, i, none⟩ = false := HA.out.free i
      have HA' : Hid (Bk (wr.setCell ⟨w.heap.size, i, none⟩ (.int .u64 (x : Int))) w.heap.size (arr3 ns (i + 1)).toArray 117) := bk_step HA.out i _ (arr3_set HN3.out hx)
      have HB' : Hid (Below w.heap.size w (wr.setCell ⟨w.heap.size, i, none⟩ (.int .u64 (x : Int)))) := HB.out.setCell (Nat.le_refl _) _
      clear htk hx hq
      go_wp2_with fail
      refine HTK.out.mono ?_
      rintro e w' ⟨rfl, hw'⟩
      rw [hw']
      clear hw' w' HTK
      go_wp2
      go_roundw
      case rel => exact ⟨i + 1, q, by omega, by go_num, rfl, HQ, hqm, HA', HB'⟩
      case measure => simp [intOf]; omega
    · have hnl : ¬ (i : Int) < 3 := by omega
      obtain rfl : i = 3 := by omega
      have hpe : p = m := by rw [HP.out, HM.out, List.take_of_length_le (by rw [HN3.out]; omega)]
      subst hpe
      have HA3 : Hid (Bk wr w.heap.size #[.int .u64 (x0 : Int), .int .u64 (x1 : Int), .int .u64 (x2 : Int)] 117) := by
        have h := HA.out
        rw [HNS.out] at h
        exact h
      obtain ⟨wd, HWD⟩ : ∃ wd, Hid (wd = wr.drew) := ⟨_, rfl⟩
      have hbd : Below wr.heap.size wr wd := by rw [HWD.out]; exact below_drew (Below.refl _ _)
      have HAd : Hid (Bk wd w.heap.size #[.int .u64 (x0 : Int), .int .u64 (x1 : Int), .int .u64 (x2 : Int)] 117) := HA3.out.stay hbd
      have HBd : Hid (Below w.heap.size w wd) := HB.out.trans (hbd.mono HB.out.size)
      clear hbd
      go_wp2
      refine wp_region_held_drew (S := fun w' => w'.cell? ⟨w.heap.size, 0, none⟩ = some (.int .u64 (x0 : Int)) ∧ w'.cell? ⟨w.heap.size, 1, none⟩ = some (.int .u64 (x1 : Int)) ∧ w'.cell? ⟨w.heap.size, 2, none⟩ = some (.int .u64 (x2 : Int))) (by kernel_rfl) (by rw [← HWD.out]; exact ⟨HAd.out.cell 0 rfl, HAd.out.cell 1 rfl, HAd.out.cell 2 rfl⟩) (fun hHeld => ?_)
      rw [← HWD.out] at hHeld ⊢
      refine take_putH (i := 0) (v := ?_) (some 33) rfl (by kernel_rfl) (by kernel_rfl) (by kernel_rfl) (by kernel_rfl) (fun _ _ _ h => h) (Or.inl ⟨by rfl, ?_⟩) hHeld ?_
      rotate_left
      · (intro w hSw; obtain ⟨z0, z1, z2⟩ := hSw; go_simp; try with_reducible rfl)
      try simp only [Act.put, List.setIfInBounds_toArray, List.set_cons_zero, List.set_cons_succ]
      refine take_putH (i := 1) (v := ?_) (some 34) rfl (by kernel_rfl) (by kernel_rfl) (by kernel_rfl) (by kernel_rfl) (fun _ _ _ h => h) (Or.inl ⟨by rfl, ?_⟩) hHeld ?_
      rotate_left
      · (intro w hSw; obtain ⟨z0, z1, z2⟩ := hSw; go_simp; try with_reducible rfl)
      try simp only [Act.put, List.setIfInBounds_toArray, List.set_cons_zero, List.set_cons_succ]
      refine take_putH (i := 2) (v := ?_) (some 35) rfl (by kernel_rfl) (by kernel_rfl) (by kernel_rfl) (by kernel_rfl) (fun _ _ _ h => h) (Or.inl ⟨by rfl, ?_⟩) hHeld ?_
      rotate_left
      · (intro w hSw; obtain ⟨z0, z1, z2⟩ := hSw; go_simp; try with_reducible rfl)
      try simp only [Act.put, List.setIfInBounds_toArray, List.set_cons_zero, List.set_cons_succ]
      refine take_putH (i := 3) (v := ?_) (some 36) rfl (by kernel_rfl) (by kernel_rfl) (by kernel_rfl) (by kernel_rfl) (fun _ _ _ h => h) (Or.inl ⟨by rfl, ?_⟩) hHeld ?_
      rotate_left
      · (intro w hSw; obtain ⟨z0, z1, z2⟩ := hSw; go_simp; try with_reducible rfl)
      try simp only [Act.put, List.setIfInBounds_toArray, List.set_cons_zero, List.set_cons_succ]
      refine take_putH (i := 4) (v := ?_) (some 37) rfl (by kernel_rfl) (by kernel_rfl) (by kernel_rfl) (by kernel_rfl) (fun _ _ _ h => h) (Or.inl ⟨by rfl, ?_⟩) hHeld ?_
      rotate_left
      · (intro w hSw; obtain ⟨z0, z1, z2⟩ := hSw; go_simp; try with_reducible rfl)
      try simp only [Act.put, List.setIfInBounds_toArray, List.set_cons_zero, List.set_cons_succ]
      refine take_putH (i := 5) (v := ?_) (some 38) rfl (by kernel_rfl) (by kernel_rfl) (by kernel_rfl) (by kernel_rfl) (fun _ _ _ h => h) (Or.inl ⟨by rfl, ?_⟩) hHeld ?_
      rotate_left
      · (intro w hSw; obtain ⟨z0, z1, z2⟩ := hSw; go_simp; try with_reducible rfl)
      try simp only [Act.put, List.setIfInBounds_toArray, List.set_cons_zero, List.set_cons_succ]
      refine take_putH (i := 6) (v := ?_) (some 12) rfl (by kernel_rfl) (by kernel_rfl) (by kernel_rfl) (by kernel_rfl) (fun _ _ _ h => h) (Or.inl ⟨by rfl, ?_⟩) hHeld ?_
      rotate_left
      · (intro w hSw; obtain ⟨z0, z1, z2⟩ := hSw; go_simp; try with_reducible rfl)
      try simp only [Act.put, List.setIfInBounds_toArray, List.set_cons_zero, List.set_cons_succ]
      refine take_putH (i := 7) (v := ?_) (some 13) rfl (by kernel_rfl) (by kernel_rfl) (by kernel_rfl) (by kernel_rfl) (fun _ _ _ h => h) (Or.inl ⟨by rfl, ?_⟩) hHeld ?_
      rotate_left
      · (intro w hSw; obtain ⟨z0, z1, z2⟩ := hSw; go_simp; try with_reducible rfl)
      try simp only [Act.put, List.setIfInBounds_toArray, List.set_cons_zero, List.set_cons_succ]
      refine take_putH (i := 8) (v := ?_) (some 14) rfl (by kernel_rfl) (by kernel_rfl) (by kernel_rfl) (by kernel_rfl) (fun _ _ _ h => h) (Or.inl ⟨by rfl, ?_⟩) hHeld ?_
      rotate_left
      · (intro w hSw; obtain ⟨z0, z1, z2⟩ := hSw; go_simp; try with_reducible rfl)
      try simp only [Act.put, List.setIfInBounds_toArray, List.set_cons_zero, List.set_cons_succ]
      refine wpAnyH_done (by kernel_rfl) ?_ _
      clear hHeld
      by_cases g1 : (x0 : Int) < 1
      · go_wp2
        go_ret2
        exact ⟨rfl, HBd.out⟩
      by_cases g2 : (1073741824 : Int) < (x0 : Int)
      · go_wp2
        go_ret2
        exact ⟨rfl, HBd.out⟩
      by_cases g3 : (1073741824 : Int) < (x1 : Int)
      · go_wp2
        go_ret2
        exact ⟨rfl, HBd.out⟩
      by_cases g4 : (x2 : Int) < 1
      · go_wp2
        go_ret2
        exact ⟨rfl, HBd.out⟩
      by_cases g5 : (1099511627776 : Int) < (x2 : Int)
      · go_wp2
        go_ret2
        exact ⟨rfl, HBd.out⟩
      · exact absurd ⟨by omega, by omega, by omega, by omega, by omega⟩ hbad

/-- read refuses. -/
def ReadBad (w : World) (e : Ending) (w' : World) : Prop := (∃ r : Int, r ≠ 0 ∧ e = .returned (.tuple #[.agg #[.int .u8 0, .int .i64 0, .int .i64 0, .int .i64 0, .int .i64 0, .int .i64 0, .int .i64 0, .int .i64 0, .int .i64 0, .int .i64 0, .slice none 0 0, .slice none 0 0], .int .i64 r])) ∧ Below w.heap.size w w'

set_option maxRecDepth 100000 in
set_option maxHeartbeats 4000000 in
theorem lk_read_type (a : Option Addr) (n c : Nat) (bs rest : List Nat) (k x0 x1 x2 : Nat) (w : World) (hr : Rd w a n bs) (hbs : bs = SealM.sealed k (lebs [x0, x1, x2] ++ rest)) (hlen : (lebs [x0, x1, x2]).length + rest.length ≤ 4096) (hrb : ∀ y ∈ rest, y < 256) (hnc : n ≤ c) (hk : k < 256) (hx : x0 < 18446744073709551616 ∧ x1 < 18446744073709551616 ∧ x2 < 18446744073709551616) (ht : Tab w) (hw0 : 0 < w.heap.size) (hkk : k ≠ 1 ∧ k ≠ 2 ∧ k ≠ 3) :
    Calls Tryd.prog 23 #[.slice a n c] w fun e w' => ReadBad w e w' := by
  obtain ⟨B, hB⟩ : ∃ B, B = lebs [x0, x1, x2] ++ rest := ⟨_, rfl⟩
  have HBE : Hid (B = lebs [x0, x1, x2] ++ rest) := hB
  obtain ⟨q, hq⟩ : ∃ q, q = B.length := ⟨_, rfl⟩
  have HQ : Hid (q = B.length) := hq
  have hq30 : q ≤ 4096 := by rw [hq, hB, List.length_append]; exact hlen
  have hrl : rest.length ≤ 4096 := by omega
  rw [← hB] at hbs
  have HSZ : Hid (n = q + 8) := by have h := hr.size; rw [hbs, SealM.sealed_length, ← hq] at h; exact h.symm
  have hn38 : n ≤ 4104 := by have := HSZ.out; omega
  have hby : ∀ y ∈ B, y < 256 := by
    rw [hB]
    intro y hy
    rcases List.mem_append.1 hy with hy | hy
    · exact lebs_byte (by intro n hn; simp only [List.mem_cons, List.not_mem_nil, or_false] at hn; omega) y hy
    · exact hrb y hy
  have HR : Hid (Rd w a n bs) := hr
  have HOK : Hid (SealM.opn (bs.drop 0) = 0 ∧ (bs.drop 0).getD 1 0 = k ∧ SealM.blen (bs.drop 0) = q ∧ ((bs.drop 0).drop 4).take q = B) := by
    have h1 := SealM.opn_sealed k B [] (by omega) hby (by omega)
    have h2 := SealM.kind_sealed k B []
    have h3 := SealM.blen_sealed k B []
    have h4 := SealM.body_sealed k B []
    rw [List.append_nil] at h1 h2 h3 h4
    rw [List.drop_zero, hbs]
    exact ⟨h1, h2, by rw [h3, hq], by rw [hq]; exact h4⟩
  have HT : Hid (Tab w) := ht
  obtain ⟨W0, HW0⟩ : ∃ W0, Hid (W0 = w.alloc (.cells #[.int .u8 0, .int .i64 0, .int .i64 0, .int .i64 0, .int .i64 0, .int .i64 0, .int .i64 0, .int .i64 0, .int .i64 0, .int .i64 0, .slice none 0 0, .slice none 0 0] 78)) := ⟨_, rfl⟩
  have HB0 : Hid (Below w.heap.size w W0) := by rw [HW0.out]; exact below_new _ _
  have HK0 : Hid (Bk W0 w.heap.size #[.int .u8 0, .int .i64 0, .int .i64 0, .int .i64 0, .int .i64 0, .int .i64 0, .int .i64 0, .int .i64 0, .int .i64 0, .int .i64 0, .slice none 0 0, .slice none 0 0] 78) := by rw [HW0.out]; exact Bk.new _ _ _
  have HS0 : Hid (W0.heap.size = w.heap.size + 1) := by show _ = _; rw [HW0.out]; simp
  clear hr hbs hB hq hby ht hrb hlen
  go_enter Tryd.func23, Tryd.ntmps23
  go_wp2_with fail
  rw [← HW0.out]
  refine (seal_Open_good a n c bs 0 W0 (HR.out.below HB0.out) hnc (by omega) (by omega) (HT.out.below hw0 HB0.out) (Nat.lt_of_lt_of_le hw0 HB0.out.size) HOK.out.1 k q HOK.out.2.1 HOK.out.2.2.1 B HOK.out.2.2.2).mono ?_
  rintro e w1 ⟨gb, he, ho1, hb1⟩
  rw [show (0 + q + 8 : Nat) = n from by have := HSZ.out; omega] at he
  subst he
  have HB1 : Hid (Below w.heap.size w w1) := HB0.out.trans (hb1.mono HB0.out.size)
  have HK1 : Hid (Bk w1 w.heap.size #[.int .u8 0, .int .i64 0, .int .i64 0, .int .i64 0, .int .i64 0, .int .i64 0, .int .i64 0, .int .i64 0, .int .i64 0, .int .i64 0, .slice none 0 0, .slice none 0 0] 78) := HK0.out.stay hb1
  obtain ⟨w3, HW3⟩ : ∃ w3, Hid (w3 = (w1.alloc (.cells #[.int .u8 (k : Int), .int .i64 0, .slice (some ⟨gb, 0, none⟩) q q] 95)).alloc (.cells #[.int .u8 (k : Int), .int .i64 0, .int .i64 0, .int .i64 0, .int .i64 0, .int .i64 0, .int .i64 0, .int .i64 0, .int .i64 0, .int .i64 0, .slice none 0 0, .slice none 0 0] 78)) := ⟨_, rfl⟩
  have hb3 : Below w1.heap.size w1 w3 := by rw [HW3.out]; exact (below_new w1 _).alloc (by simp) _
  have HF3 : Hid (Bk w3 (w1.heap.size + 1) #[.int .u8 (k : Int), .int .i64 0, .int .i64 0, .int .i64 0, .int .i64 0, .int .i64 0, .int .i64 0, .int .i64 0, .int .i64 0, .int .i64 0, .slice none 0 0, .slice none 0 0] 78) := by
    rw [HW3.out]
    have h := Bk.new (w1.alloc (.cells #[.int .u8 (k : Int), .int .i64 0, .slice (some ⟨gb, 0, none⟩) q q] 95)) #[.int .u8 (k : Int), .int .i64 0, .int .i64 0, .int .i64 0, .int .i64 0, .int .i64 0, .int .i64 0, .int .i64 0, .int .i64 0, .int .i64 0, .slice none 0 0, .slice none 0 0] 78
    rw [show (w1.alloc (.cells #[.int .u8 (k : Int), .int .i64 0, .slice (some ⟨gb, 0, none⟩) q q] 95)).heap.size = w1.heap.size + 1 from by simp] at h
    exact h
  have HK3 : Hid (Bk w3 w.heap.size #[.int .u8 0, .int .i64 0, .int .i64 0, .int .i64 0, .int .i64 0, .int .i64 0, .int .i64 0, .int .i64 0, .int .i64 0, .int .i64 0, .slice none 0 0, .slice none 0 0] 78) := HK1.out.stay hb3
  have HO3 : Hid (Own w3 W0.heap.size (some ⟨gb, 0, none⟩) q q B) := ho1.below hb3
  have HGB : Hid (gb < w1.heap.size) := by
    rcases ho1.row.2 with ⟨hv, _⟩ | ⟨g', c', cur, hv, _, hg, _⟩
    · cases hv
    · simp only [Value.slice.injEq, Option.some.injEq, Addr.mk.injEq] at hv
      rw [hv.1.1]
      exact (Array.getElem?_eq_some_iff.1 hg).1
  have HB3 : Hid (Below w.heap.size w w3) := HB1.out.trans (hb3.mono HB1.out.size)
  have hk1 : ¬ (k : Int) = 1 := by omega
  have hk2 : ¬ (k : Int) = 2 := by omega
  have hk3 : ¬ (k : Int) = 3 := by omega
  obtain ⟨w4, HW4⟩ : ∃ w4, Hid (w4 = w3) := ⟨_, rfl⟩
  have HK4 : Hid (Bk w4 w.heap.size #[.int .u8 0, .int .i64 0, .int .i64 0, .int .i64 0, .int .i64 0, .int .i64 0, .int .i64 0, .int .i64 0, .int .i64 0, .int .i64 0, .slice none 0 0, .slice none 0 0] 78) := by rw [HW4.out]; exact HK3.out
  have HB4 : Hid (Below w.heap.size w w4) := by rw [HW4.out]; exact HB3.out
  have HE4 : Hid (w4 = (w1.alloc (.cells #[.int .u8 (k : Int), .int .i64 0, .slice (some ⟨gb, 0, none⟩) q q] 95)).alloc (.cells #[.int .u8 (k : Int), .int .i64 0, .int .i64 0, .int .i64 0, .int .i64 0, .int .i64 0, .int .i64 0, .int .i64 0, .int .i64 0, .int .i64 0, .slice none 0 0, .slice none 0 0] 78)) := by show _ = _; rw [HW4.out, HW3.out]
  clear hb1 hb3 ho1 HW3 HW4 HK3 HF3 HO3
  go_upto_region 20 with fail
  rw [← HE4.out]
  have z0 : w4.cell? ⟨w.heap.size, 0, none⟩ = some (.int .u8 0) := HK4.out.cell 0 rfl
  have z1 : w4.cell? ⟨w.heap.size, 1, none⟩ = some (.int .i64 0) := HK4.out.cell 1 rfl
  have z2 : w4.cell? ⟨w.heap.size, 2, none⟩ = some (.int .i64 0) := HK4.out.cell 2 rfl
  have z3 : w4.cell? ⟨w.heap.size, 3, none⟩ = some (.int .i64 0) := HK4.out.cell 3 rfl
  have z4 : w4.cell? ⟨w.heap.size, 4, none⟩ = some (.int .i64 0) := HK4.out.cell 4 rfl
  have z5 : w4.cell? ⟨w.heap.size, 5, none⟩ = some (.int .i64 0) := HK4.out.cell 5 rfl
  have z6 : w4.cell? ⟨w.heap.size, 6, none⟩ = some (.int .i64 0) := HK4.out.cell 6 rfl
  have z7 : w4.cell? ⟨w.heap.size, 7, none⟩ = some (.int .i64 0) := HK4.out.cell 7 rfl
  have z8 : w4.cell? ⟨w.heap.size, 8, none⟩ = some (.int .i64 0) := HK4.out.cell 8 rfl
  have z9 : w4.cell? ⟨w.heap.size, 9, none⟩ = some (.int .i64 0) := HK4.out.cell 9 rfl
  have z10 : w4.cell? ⟨w.heap.size, 10, none⟩ = some (.slice none 0 0) := HK4.out.cell 10 rfl
  have z11 : w4.cell? ⟨w.heap.size, 11, none⟩ = some (.slice none 0 0) := HK4.out.cell 11 rfl
  have fr : ∀ i, w4.frozen? ⟨w.heap.size, i, none⟩ = false := fun i => HK4.out.free i
  go_wp2
  try simp only [Exit.inBlock, Exit.then]
  change bodyPost _ _ _ _ _ (set12 w4 w.heap.size (.int .u8 0) (.int .i64 0) (.int .i64 0) (.int .i64 0) (.int .i64 0) (.int .i64 0) (.int .i64 0) (.int .i64 0) (.int .i64 0) (.int .i64 0) (.slice none 0 0) (.slice none 0 0))
  refine bodyPost_ret (results_frame rfl (by rfl) (by rfl) (HK4.out.set12 (.int .u8 0) (.int .i64 0) (.int .i64 0) (.int .i64 0) (.int .i64 0) (.int .i64 0) (.int .i64 0) (.int .i64 0) (.int .i64 0) (.int .i64 0) (.slice none 0 0) (.slice none 0 0))) rfl ?_
  exact ⟨⟨_, by decide, rfl⟩, set12_below HB4.out _ (Nat.le_refl _) (.int .u8 0) (.int .i64 0) (.int .i64 0) (.int .i64 0) (.int .i64 0) (.int .i64 0) (.int .i64 0) (.int .i64 0) (.int .i64 0) (.int .i64 0) (.slice none 0 0) (.slice none 0 0)⟩

set_option maxRecDepth 100000 in
set_option maxHeartbeats 4000000 in
theorem lk_read_bad1 (a : Option Addr) (n c : Nat) (bs rest : List Nat) (x0 x1 x2 : Nat) (w : World) (hr : Rd w a n bs) (hbs : bs = SealM.sealed 1 (lebs [x0, x1, x2] ++ rest)) (hlen : (lebs [x0, x1, x2]).length + rest.length ≤ 4096) (hrb : ∀ y ∈ rest, y < 256) (hnc : n ≤ c) (hx : x0 < 18446744073709551616 ∧ x1 < 18446744073709551616 ∧ x2 < 18446744073709551616) (ht : Tab w) (hw0 : 0 < w.heap.size) (hbad : ¬ (1 ≤ x0 ∧ x0 ≤ 1073741824 ∧ x1 ≤ 1073741824 ∧ 1 ≤ x2 ∧ x2 ≤ 1099511627776)) :
    Calls Tryd.prog 23 #[.slice a n c] w fun e w' => ReadBad w e w' := by
  obtain ⟨B, hB⟩ : ∃ B, B = lebs [x0, x1, x2] ++ rest := ⟨_, rfl⟩
  have HBE : Hid (B = lebs [x0, x1, x2] ++ rest) := hB
  obtain ⟨q, hq⟩ : ∃ q, q = B.length := ⟨_, rfl⟩
  have HQ : Hid (q = B.length) := hq
  have hq30 : q ≤ 4096 := by rw [hq, hB, List.length_append]; exact hlen
  have hrl : rest.length ≤ 4096 := by omega
  rw [← hB] at hbs
  have HSZ : Hid (n = q + 8) := by have h := hr.size; rw [hbs, SealM.sealed_length, ← hq] at h; exact h.symm
  have hn38 : n ≤ 4104 := by have := HSZ.out; omega
  have hby : ∀ y ∈ B, y < 256 := by
    rw [hB]
    intro y hy
    rcases List.mem_append.1 hy with hy | hy
    · exact lebs_byte (by intro n hn; simp only [List.mem_cons, List.not_mem_nil, or_false] at hn; omega) y hy
    · exact hrb y hy
  have HR : Hid (Rd w a n bs) := hr
  have HOK : Hid (SealM.opn (bs.drop 0) = 0 ∧ (bs.drop 0).getD 1 0 = 1 ∧ SealM.blen (bs.drop 0) = q ∧ ((bs.drop 0).drop 4).take q = B) := by
    have h1 := SealM.opn_sealed 1 B [] (by omega) hby (by omega)
    have h2 := SealM.kind_sealed 1 B []
    have h3 := SealM.blen_sealed 1 B []
    have h4 := SealM.body_sealed 1 B []
    rw [List.append_nil] at h1 h2 h3 h4
    rw [List.drop_zero, hbs]
    exact ⟨h1, h2, by rw [h3, hq], by rw [hq]; exact h4⟩
  have HT : Hid (Tab w) := ht
  obtain ⟨W0, HW0⟩ : ∃ W0, Hid (W0 = w.alloc (.cells #[.int .u8 0, .int .i64 0, .int .i64 0, .int .i64 0, .int .i64 0, .int .i64 0, .int .i64 0, .int .i64 0, .int .i64 0, .int .i64 0, .slice none 0 0, .slice none 0 0] 78)) := ⟨_, rfl⟩
  have HB0 : Hid (Below w.heap.size w W0) := by rw [HW0.out]; exact below_new _ _
  have HK0 : Hid (Bk W0 w.heap.size #[.int .u8 0, .int .i64 0, .int .i64 0, .int .i64 0, .int .i64 0, .int .i64 0, .int .i64 0, .int .i64 0, .int .i64 0, .int .i64 0, .slice none 0 0, .slice none 0 0] 78) := by rw [HW0.out]; exact Bk.new _ _ _
  have HS0 : Hid (W0.heap.size = w.heap.size + 1) := by show _ = _; rw [HW0.out]; simp
  clear hr hbs hB hq hby ht hrb hlen
  go_enter Tryd.func23, Tryd.ntmps23
  go_wp2_with fail
  rw [← HW0.out]
  refine (seal_Open_good a n c bs 0 W0 (HR.out.below HB0.out) hnc (by omega) (by omega) (HT.out.below hw0 HB0.out) (Nat.lt_of_lt_of_le hw0 HB0.out.size) HOK.out.1 1 q HOK.out.2.1 HOK.out.2.2.1 B HOK.out.2.2.2).mono ?_
  rintro e w1 ⟨gb, he, ho1, hb1⟩
  rw [show (0 + q + 8 : Nat) = n from by have := HSZ.out; omega] at he
  subst he
  have HB1 : Hid (Below w.heap.size w w1) := HB0.out.trans (hb1.mono HB0.out.size)
  have HK1 : Hid (Bk w1 w.heap.size #[.int .u8 0, .int .i64 0, .int .i64 0, .int .i64 0, .int .i64 0, .int .i64 0, .int .i64 0, .int .i64 0, .int .i64 0, .int .i64 0, .slice none 0 0, .slice none 0 0] 78) := HK0.out.stay hb1
  obtain ⟨w3, HW3⟩ : ∃ w3, Hid (w3 = (w1.alloc (.cells #[.int .u8 1, .int .i64 0, .slice (some ⟨gb, 0, none⟩) q q] 95)).alloc (.cells #[.int .u8 1, .int .i64 0, .int .i64 0, .int .i64 0, .int .i64 0, .int .i64 0, .int .i64 0, .int .i64 0, .int .i64 0, .int .i64 0, .slice none 0 0, .slice none 0 0] 78)) := ⟨_, rfl⟩
  have hb3 : Below w1.heap.size w1 w3 := by rw [HW3.out]; exact (below_new w1 _).alloc (by simp) _
  have HF3 : Hid (Bk w3 (w1.heap.size + 1) #[.int .u8 1, .int .i64 0, .int .i64 0, .int .i64 0, .int .i64 0, .int .i64 0, .int .i64 0, .int .i64 0, .int .i64 0, .int .i64 0, .slice none 0 0, .slice none 0 0] 78) := by
    rw [HW3.out]
    have h := Bk.new (w1.alloc (.cells #[.int .u8 1, .int .i64 0, .slice (some ⟨gb, 0, none⟩) q q] 95)) #[.int .u8 1, .int .i64 0, .int .i64 0, .int .i64 0, .int .i64 0, .int .i64 0, .int .i64 0, .int .i64 0, .int .i64 0, .int .i64 0, .slice none 0 0, .slice none 0 0] 78
    rw [show (w1.alloc (.cells #[.int .u8 1, .int .i64 0, .slice (some ⟨gb, 0, none⟩) q q] 95)).heap.size = w1.heap.size + 1 from by simp] at h
    exact h
  have HK3 : Hid (Bk w3 w.heap.size #[.int .u8 0, .int .i64 0, .int .i64 0, .int .i64 0, .int .i64 0, .int .i64 0, .int .i64 0, .int .i64 0, .int .i64 0, .int .i64 0, .slice none 0 0, .slice none 0 0] 78) := HK1.out.stay hb3
  have HO3 : Hid (Own w3 W0.heap.size (some ⟨gb, 0, none⟩) q q B) := ho1.below hb3
  have HGB : Hid (gb < w1.heap.size) := by
    rcases ho1.row.2 with ⟨hv, _⟩ | ⟨g', c', cur, hv, _, hg, _⟩
    · cases hv
    · simp only [Value.slice.injEq, Option.some.injEq, Addr.mk.injEq] at hv
      rw [hv.1.1]
      exact (Array.getElem?_eq_some_iff.1 hg).1
  have HB3 : Hid (Below w.heap.size w w3) := HB1.out.trans (hb3.mono HB1.out.size)
  have hnm := lk_numbers_bad (w1.heap.size + 1) 1 gb 0 q q x0 x1 x2 B rest w3 HF3.out HO3.out.rd HBE.out (by have := HGB.out; omega) (Nat.le_refl _) (by omega) hx hbad
  have HNM : Hid (Calls Tryd.prog 36 #[.pointer (some ⟨w1.heap.size + 1, 0, none⟩), .slice (some ⟨gb, 0, none⟩) q q] w3 fun e w' => e = .returned (.tuple #[.slice none 0 0, .int .i64 6]) ∧ Below w3.heap.size w3 w') := hnm
  clear hb1 hb3 ho1 hnm
  go_wp2_with fail
  rw [← HW3.out]
  refine HNM.out.mono ?_
  rintro e w4 ⟨rfl, hb4⟩
  have HK4 : Hid (Bk w4 w.heap.size #[.int .u8 0, .int .i64 0, .int .i64 0, .int .i64 0, .int .i64 0, .int .i64 0, .int .i64 0, .int .i64 0, .int .i64 0, .int .i64 0, .slice none 0 0, .slice none 0 0] 78) := HK3.out.stay hb4
  have HB4 : Hid (Below w.heap.size w w4) := HB3.out.trans (hb4.mono HB3.out.size)
  clear hb4 HNM
  have z0 : w4.cell? ⟨w.heap.size, 0, none⟩ = some (.int .u8 0) := HK4.out.cell 0 rfl
  have z1 : w4.cell? ⟨w.heap.size, 1, none⟩ = some (.int .i64 0) := HK4.out.cell 1 rfl
  have z2 : w4.cell? ⟨w.heap.size, 2, none⟩ = some (.int .i64 0) := HK4.out.cell 2 rfl
  have z3 : w4.cell? ⟨w.heap.size, 3, none⟩ = some (.int .i64 0) := HK4.out.cell 3 rfl
  have z4 : w4.cell? ⟨w.heap.size, 4, none⟩ = some (.int .i64 0) := HK4.out.cell 4 rfl
  have z5 : w4.cell? ⟨w.heap.size, 5, none⟩ = some (.int .i64 0) := HK4.out.cell 5 rfl
  have z6 : w4.cell? ⟨w.heap.size, 6, none⟩ = some (.int .i64 0) := HK4.out.cell 6 rfl
  have z7 : w4.cell? ⟨w.heap.size, 7, none⟩ = some (.int .i64 0) := HK4.out.cell 7 rfl
  have z8 : w4.cell? ⟨w.heap.size, 8, none⟩ = some (.int .i64 0) := HK4.out.cell 8 rfl
  have z9 : w4.cell? ⟨w.heap.size, 9, none⟩ = some (.int .i64 0) := HK4.out.cell 9 rfl
  have z10 : w4.cell? ⟨w.heap.size, 10, none⟩ = some (.slice none 0 0) := HK4.out.cell 10 rfl
  have z11 : w4.cell? ⟨w.heap.size, 11, none⟩ = some (.slice none 0 0) := HK4.out.cell 11 rfl
  have fr : ∀ i, w4.frozen? ⟨w.heap.size, i, none⟩ = false := fun i => HK4.out.free i
  go_wp2
  try simp only [Exit.inBlock, Exit.then]
  change bodyPost _ _ _ _ _ (set12 w4 w.heap.size (.int .u8 0) (.int .i64 0) (.int .i64 0) (.int .i64 0) (.int .i64 0) (.int .i64 0) (.int .i64 0) (.int .i64 0) (.int .i64 0) (.int .i64 0) (.slice none 0 0) (.slice none 0 0))
  refine bodyPost_ret (results_frame rfl (by rfl) (by rfl) (HK4.out.set12 (.int .u8 0) (.int .i64 0) (.int .i64 0) (.int .i64 0) (.int .i64 0) (.int .i64 0) (.int .i64 0) (.int .i64 0) (.int .i64 0) (.int .i64 0) (.slice none 0 0) (.slice none 0 0))) rfl ?_
  exact ⟨⟨_, by decide, rfl⟩, set12_below HB4.out _ (Nat.le_refl _) (.int .u8 0) (.int .i64 0) (.int .i64 0) (.int .i64 0) (.int .i64 0) (.int .i64 0) (.int .i64 0) (.int .i64 0) (.int .i64 0) (.int .i64 0) (.slice none 0 0) (.slice none 0 0)⟩

set_option maxRecDepth 100000 in
set_option maxHeartbeats 4000000 in
theorem lk_read_bad2 (a : Option Addr) (n c : Nat) (bs rest : List Nat) (x0 x1 x2 : Nat) (w : World) (hr : Rd w a n bs) (hbs : bs = SealM.sealed 2 (lebs [x0, x1, x2] ++ rest)) (hlen : (lebs [x0, x1, x2]).length + rest.length ≤ 4096) (hrb : ∀ y ∈ rest, y < 256) (hnc : n ≤ c) (hx : x0 < 18446744073709551616 ∧ x1 < 18446744073709551616 ∧ x2 < 18446744073709551616) (ht : Tab w) (hw0 : 0 < w.heap.size) (hbad : ¬ (1 ≤ x0 ∧ x0 ≤ 1073741824 ∧ x1 ≤ 1073741824 ∧ 1 ≤ x2 ∧ x2 ≤ 1099511627776)) :
    Calls Tryd.prog 23 #[.slice a n c] w fun e w' => ReadBad w e w' := by
  obtain ⟨B, hB⟩ : ∃ B, B = lebs [x0, x1, x2] ++ rest := ⟨_, rfl⟩
  have HBE : Hid (B = lebs [x0, x1, x2] ++ rest) := hB
  obtain ⟨q, hq⟩ : ∃ q, q = B.length := ⟨_, rfl⟩
  have HQ : Hid (q = B.length) := hq
  have hq30 : q ≤ 4096 := by rw [hq, hB, List.length_append]; exact hlen
  have hrl : rest.length ≤ 4096 := by omega
  rw [← hB] at hbs
  have HSZ : Hid (n = q + 8) := by have h := hr.size; rw [hbs, SealM.sealed_length, ← hq] at h; exact h.symm
  have hn38 : n ≤ 4104 := by have := HSZ.out; omega
  have hby : ∀ y ∈ B, y < 256 := by
    rw [hB]
    intro y hy
    rcases List.mem_append.1 hy with hy | hy
    · exact lebs_byte (by intro n hn; simp only [List.mem_cons, List.not_mem_nil, or_false] at hn; omega) y hy
    · exact hrb y hy
  have HR : Hid (Rd w a n bs) := hr
  have HOK : Hid (SealM.opn (bs.drop 0) = 0 ∧ (bs.drop 0).getD 1 0 = 2 ∧ SealM.blen (bs.drop 0) = q ∧ ((bs.drop 0).drop 4).take q = B) := by
    have h1 := SealM.opn_sealed 2 B [] (by omega) hby (by omega)
    have h2 := SealM.kind_sealed 2 B []
    have h3 := SealM.blen_sealed 2 B []
    have h4 := SealM.body_sealed 2 B []
    rw [List.append_nil] at h1 h2 h3 h4
    rw [List.drop_zero, hbs]
    exact ⟨h1, h2, by rw [h3, hq], by rw [hq]; exact h4⟩
  have HT : Hid (Tab w) := ht
  obtain ⟨W0, HW0⟩ : ∃ W0, Hid (W0 = w.alloc (.cells #[.int .u8 0, .int .i64 0, .int .i64 0, .int .i64 0, .int .i64 0, .int .i64 0, .int .i64 0, .int .i64 0, .int .i64 0, .int .i64 0, .slice none 0 0, .slice none 0 0] 78)) := ⟨_, rfl⟩
  have HB0 : Hid (Below w.heap.size w W0) := by rw [HW0.out]; exact below_new _ _
  have HK0 : Hid (Bk W0 w.heap.size #[.int .u8 0, .int .i64 0, .int .i64 0, .int .i64 0, .int .i64 0, .int .i64 0, .int .i64 0, .int .i64 0, .int .i64 0, .int .i64 0, .slice none 0 0, .slice none 0 0] 78) := by rw [HW0.out]; exact Bk.new _ _ _
  have HS0 : Hid (W0.heap.size = w.heap.size + 1) := by show _ = _; rw [HW0.out]; simp
  clear hr hbs hB hq hby ht hrb hlen
  go_enter Tryd.func23, Tryd.ntmps23
  go_wp2_with fail
  rw [← HW0.out]
  refine (seal_Open_good a n c bs 0 W0 (HR.out.below HB0.out) hnc (by omega) (by omega) (HT.out.below hw0 HB0.out) (Nat.lt_of_lt_of_le hw0 HB0.out.size) HOK.out.1 2 q HOK.out.2.1 HOK.out.2.2.1 B HOK.out.2.2.2).mono ?_
  rintro e w1 ⟨gb, he, ho1, hb1⟩
  rw [show (0 + q + 8 : Nat) = n from by have := HSZ.out; omega] at he
  subst he
  have HB1 : Hid (Below w.heap.size w w1) := HB0.out.trans (hb1.mono HB0.out.size)
  have HK1 : Hid (Bk w1 w.heap.size #[.int .u8 0, .int .i64 0, .int .i64 0, .int .i64 0, .int .i64 0, .int .i64 0, .int .i64 0, .int .i64 0, .int .i64 0, .int .i64 0, .slice none 0 0, .slice none 0 0] 78) := HK0.out.stay hb1
  obtain ⟨w3, HW3⟩ : ∃ w3, Hid (w3 = (w1.alloc (.cells #[.int .u8 2, .int .i64 0, .slice (some ⟨gb, 0, none⟩) q q] 95)).alloc (.cells #[.int .u8 2, .int .i64 0, .int .i64 0, .int .i64 0, .int .i64 0, .int .i64 0, .int .i64 0, .int .i64 0, .int .i64 0, .int .i64 0, .slice none 0 0, .slice none 0 0] 78)) := ⟨_, rfl⟩
  have hb3 : Below w1.heap.size w1 w3 := by rw [HW3.out]; exact (below_new w1 _).alloc (by simp) _
  have HF3 : Hid (Bk w3 (w1.heap.size + 1) #[.int .u8 2, .int .i64 0, .int .i64 0, .int .i64 0, .int .i64 0, .int .i64 0, .int .i64 0, .int .i64 0, .int .i64 0, .int .i64 0, .slice none 0 0, .slice none 0 0] 78) := by
    rw [HW3.out]
    have h := Bk.new (w1.alloc (.cells #[.int .u8 2, .int .i64 0, .slice (some ⟨gb, 0, none⟩) q q] 95)) #[.int .u8 2, .int .i64 0, .int .i64 0, .int .i64 0, .int .i64 0, .int .i64 0, .int .i64 0, .int .i64 0, .int .i64 0, .int .i64 0, .slice none 0 0, .slice none 0 0] 78
    rw [show (w1.alloc (.cells #[.int .u8 2, .int .i64 0, .slice (some ⟨gb, 0, none⟩) q q] 95)).heap.size = w1.heap.size + 1 from by simp] at h
    exact h
  have HK3 : Hid (Bk w3 w.heap.size #[.int .u8 0, .int .i64 0, .int .i64 0, .int .i64 0, .int .i64 0, .int .i64 0, .int .i64 0, .int .i64 0, .int .i64 0, .int .i64 0, .slice none 0 0, .slice none 0 0] 78) := HK1.out.stay hb3
  have HO3 : Hid (Own w3 W0.heap.size (some ⟨gb, 0, none⟩) q q B) := ho1.below hb3
  have HGB : Hid (gb < w1.heap.size) := by
    rcases ho1.row.2 with ⟨hv, _⟩ | ⟨g', c', cur, hv, _, hg, _⟩
    · cases hv
    · simp only [Value.slice.injEq, Option.some.injEq, Addr.mk.injEq] at hv
      rw [hv.1.1]
      exact (Array.getElem?_eq_some_iff.1 hg).1
  have HB3 : Hid (Below w.heap.size w w3) := HB1.out.trans (hb3.mono HB1.out.size)
  have hnm := lk_numbers_bad (w1.heap.size + 1) 2 gb 0 q q x0 x1 x2 B rest w3 HF3.out HO3.out.rd HBE.out (by have := HGB.out; omega) (Nat.le_refl _) (by omega) hx hbad
  have HNM : Hid (Calls Tryd.prog 36 #[.pointer (some ⟨w1.heap.size + 1, 0, none⟩), .slice (some ⟨gb, 0, none⟩) q q] w3 fun e w' => e = .returned (.tuple #[.slice none 0 0, .int .i64 6]) ∧ Below w3.heap.size w3 w') := hnm
  clear hb1 hb3 ho1 hnm
  go_wp2_with fail
  rw [← HW3.out]
  refine HNM.out.mono ?_
  rintro e w4 ⟨rfl, hb4⟩
  have HK4 : Hid (Bk w4 w.heap.size #[.int .u8 0, .int .i64 0, .int .i64 0, .int .i64 0, .int .i64 0, .int .i64 0, .int .i64 0, .int .i64 0, .int .i64 0, .int .i64 0, .slice none 0 0, .slice none 0 0] 78) := HK3.out.stay hb4
  have HB4 : Hid (Below w.heap.size w w4) := HB3.out.trans (hb4.mono HB3.out.size)
  clear hb4 HNM
  have z0 : w4.cell? ⟨w.heap.size, 0, none⟩ = some (.int .u8 0) := HK4.out.cell 0 rfl
  have z1 : w4.cell? ⟨w.heap.size, 1, none⟩ = some (.int .i64 0) := HK4.out.cell 1 rfl
  have z2 : w4.cell? ⟨w.heap.size, 2, none⟩ = some (.int .i64 0) := HK4.out.cell 2 rfl
  have z3 : w4.cell? ⟨w.heap.size, 3, none⟩ = some (.int .i64 0) := HK4.out.cell 3 rfl
  have z4 : w4.cell? ⟨w.heap.size, 4, none⟩ = some (.int .i64 0) := HK4.out.cell 4 rfl
  have z5 : w4.cell? ⟨w.heap.size, 5, none⟩ = some (.int .i64 0) := HK4.out.cell 5 rfl
  have z6 : w4.cell? ⟨w.heap.size, 6, none⟩ = some (.int .i64 0) := HK4.out.cell 6 rfl
  have z7 : w4.cell? ⟨w.heap.size, 7, none⟩ = some (.int .i64 0) := HK4.out.cell 7 rfl
  have z8 : w4.cell? ⟨w.heap.size, 8, none⟩ = some (.int .i64 0) := HK4.out.cell 8 rfl
  have z9 : w4.cell? ⟨w.heap.size, 9, none⟩ = some (.int .i64 0) := HK4.out.cell 9 rfl
  have z10 : w4.cell? ⟨w.heap.size, 10, none⟩ = some (.slice none 0 0) := HK4.out.cell 10 rfl
  have z11 : w4.cell? ⟨w.heap.size, 11, none⟩ = some (.slice none 0 0) := HK4.out.cell 11 rfl
  have fr : ∀ i, w4.frozen? ⟨w.heap.size, i, none⟩ = false := fun i => HK4.out.free i
  go_wp2
  try simp only [Exit.inBlock, Exit.then]
  change bodyPost _ _ _ _ _ (set12 w4 w.heap.size (.int .u8 0) (.int .i64 0) (.int .i64 0) (.int .i64 0) (.int .i64 0) (.int .i64 0) (.int .i64 0) (.int .i64 0) (.int .i64 0) (.int .i64 0) (.slice none 0 0) (.slice none 0 0))
  refine bodyPost_ret (results_frame rfl (by rfl) (by rfl) (HK4.out.set12 (.int .u8 0) (.int .i64 0) (.int .i64 0) (.int .i64 0) (.int .i64 0) (.int .i64 0) (.int .i64 0) (.int .i64 0) (.int .i64 0) (.int .i64 0) (.slice none 0 0) (.slice none 0 0))) rfl ?_
  exact ⟨⟨_, by decide, rfl⟩, set12_below HB4.out _ (Nat.le_refl _) (.int .u8 0) (.int .i64 0) (.int .i64 0) (.int .i64 0) (.int .i64 0) (.int .i64 0) (.int .i64 0) (.int .i64 0) (.int .i64 0) (.int .i64 0) (.slice none 0 0) (.slice none 0 0)⟩

set_option maxRecDepth 100000 in
set_option maxHeartbeats 4000000 in
theorem lk_read_bad3 (a : Option Addr) (n c : Nat) (bs rest : List Nat) (x0 x1 x2 : Nat) (w : World) (hr : Rd w a n bs) (hbs : bs = SealM.sealed 3 (lebs [x0, x1, x2] ++ rest)) (hlen : (lebs [x0, x1, x2]).length + rest.length ≤ 4096) (hrb : ∀ y ∈ rest, y < 256) (hnc : n ≤ c) (hx : x0 < 18446744073709551616 ∧ x1 < 18446744073709551616 ∧ x2 < 18446744073709551616) (ht : Tab w) (hw0 : 0 < w.heap.size) (hbad : ¬ (1 ≤ x0 ∧ x0 ≤ 1073741824 ∧ x1 ≤ 1073741824 ∧ 1 ≤ x2 ∧ x2 ≤ 1099511627776)) :
    Calls Tryd.prog 23 #[.slice a n c] w fun e w' => ReadBad w e w' := by
  obtain ⟨B, hB⟩ : ∃ B, B = lebs [x0, x1, x2] ++ rest := ⟨_, rfl⟩
  have HBE : Hid (B = lebs [x0, x1, x2] ++ rest) := hB
  obtain ⟨q, hq⟩ : ∃ q, q = B.length := ⟨_, rfl⟩
  have HQ : Hid (q = B.length) := hq
  have hq30 : q ≤ 4096 := by rw [hq, hB, List.length_append]; exact hlen
  have hrl : rest.length ≤ 4096 := by omega
  rw [← hB] at hbs
  have HSZ : Hid (n = q + 8) := by have h := hr.size; rw [hbs, SealM.sealed_length, ← hq] at h; exact h.symm
  have hn38 : n ≤ 4104 := by have := HSZ.out; omega
  have hby : ∀ y ∈ B, y < 256 := by
    rw [hB]
    intro y hy
    rcases List.mem_append.1 hy with hy | hy
    · exact lebs_byte (by intro n hn; simp only [List.mem_cons, List.not_mem_nil, or_false] at hn; omega) y hy
    · exact hrb y hy
  have HR : Hid (Rd w a n bs) := hr
  have HOK : Hid (SealM.opn (bs.drop 0) = 0 ∧ (bs.drop 0).getD 1 0 = 3 ∧ SealM.blen (bs.drop 0) = q ∧ ((bs.drop 0).drop 4).take q = B) := by
    have h1 := SealM.opn_sealed 3 B [] (by omega) hby (by omega)
    have h2 := SealM.kind_sealed 3 B []
    have h3 := SealM.blen_sealed 3 B []
    have h4 := SealM.body_sealed 3 B []
    rw [List.append_nil] at h1 h2 h3 h4
    rw [List.drop_zero, hbs]
    exact ⟨h1, h2, by rw [h3, hq], by rw [hq]; exact h4⟩
  have HT : Hid (Tab w) := ht
  obtain ⟨W0, HW0⟩ : ∃ W0, Hid (W0 = w.alloc (.cells #[.int .u8 0, .int .i64 0, .int .i64 0, .int .i64 0, .int .i64 0, .int .i64 0, .int .i64 0, .int .i64 0, .int .i64 0, .int .i64 0, .slice none 0 0, .slice none 0 0] 78)) := ⟨_, rfl⟩
  have HB0 : Hid (Below w.heap.size w W0) := by rw [HW0.out]; exact below_new _ _
  have HK0 : Hid (Bk W0 w.heap.size #[.int .u8 0, .int .i64 0, .int .i64 0, .int .i64 0, .int .i64 0, .int .i64 0, .int .i64 0, .int .i64 0, .int .i64 0, .int .i64 0, .slice none 0 0, .slice none 0 0] 78) := by rw [HW0.out]; exact Bk.new _ _ _
  have HS0 : Hid (W0.heap.size = w.heap.size + 1) := by show _ = _; rw [HW0.out]; simp
  clear hr hbs hB hq hby ht hrb hlen
  go_enter Tryd.func23, Tryd.ntmps23
  go_wp2_with fail
  rw [← HW0.out]
  refine (seal_Open_good a n c bs 0 W0 (HR.out.below HB0.out) hnc (by omega) (by omega) (HT.out.below hw0 HB0.out) (Nat.lt_of_lt_of_le hw0 HB0.out.size) HOK.out.1 3 q HOK.out.2.1 HOK.out.2.2.1 B HOK.out.2.2.2).mono ?_
  rintro e w1 ⟨gb, he, ho1, hb1⟩
  rw [show (0 + q + 8 : Nat) = n from by have := HSZ.out; omega] at he
  subst he
  have HB1 : Hid (Below w.heap.size w w1) := HB0.out.trans (hb1.mono HB0.out.size)
  have HK1 : Hid (Bk w1 w.heap.size #[.int .u8 0, .int .i64 0, .int .i64 0, .int .i64 0, .int .i64 0, .int .i64 0, .int .i64 0, .int .i64 0, .int .i64 0, .int .i64 0, .slice none 0 0, .slice none 0 0] 78) := HK0.out.stay hb1
  obtain ⟨w3, HW3⟩ : ∃ w3, Hid (w3 = (w1.alloc (.cells #[.int .u8 3, .int .i64 0, .slice (some ⟨gb, 0, none⟩) q q] 95)).alloc (.cells #[.int .u8 3, .int .i64 0, .int .i64 0, .int .i64 0, .int .i64 0, .int .i64 0, .int .i64 0, .int .i64 0, .int .i64 0, .int .i64 0, .slice none 0 0, .slice none 0 0] 78)) := ⟨_, rfl⟩
  have hb3 : Below w1.heap.size w1 w3 := by rw [HW3.out]; exact (below_new w1 _).alloc (by simp) _
  have HF3 : Hid (Bk w3 (w1.heap.size + 1) #[.int .u8 3, .int .i64 0, .int .i64 0, .int .i64 0, .int .i64 0, .int .i64 0, .int .i64 0, .int .i64 0, .int .i64 0, .int .i64 0, .slice none 0 0, .slice none 0 0] 78) := by
    rw [HW3.out]
    have h := Bk.new (w1.alloc (.cells #[.int .u8 3, .int .i64 0, .slice (some ⟨gb, 0, none⟩) q q] 95)) #[.int .u8 3, .int .i64 0, .int .i64 0, .int .i64 0, .int .i64 0, .int .i64 0, .int .i64 0, .int .i64 0, .int .i64 0, .int .i64 0, .slice none 0 0, .slice none 0 0] 78
    rw [show (w1.alloc (.cells #[.int .u8 3, .int .i64 0, .slice (some ⟨gb, 0, none⟩) q q] 95)).heap.size = w1.heap.size + 1 from by simp] at h
    exact h
  have HK3 : Hid (Bk w3 w.heap.size #[.int .u8 0, .int .i64 0, .int .i64 0, .int .i64 0, .int .i64 0, .int .i64 0, .int .i64 0, .int .i64 0, .int .i64 0, .int .i64 0, .slice none 0 0, .slice none 0 0] 78) := HK1.out.stay hb3
  have HO3 : Hid (Own w3 W0.heap.size (some ⟨gb, 0, none⟩) q q B) := ho1.below hb3
  have HGB : Hid (gb < w1.heap.size) := by
    rcases ho1.row.2 with ⟨hv, _⟩ | ⟨g', c', cur, hv, _, hg, _⟩
    · cases hv
    · simp only [Value.slice.injEq, Option.some.injEq, Addr.mk.injEq] at hv
      rw [hv.1.1]
      exact (Array.getElem?_eq_some_iff.1 hg).1
  have HB3 : Hid (Below w.heap.size w w3) := HB1.out.trans (hb3.mono HB1.out.size)
  have hnm := lk_numbers_bad (w1.heap.size + 1) 3 gb 0 q q x0 x1 x2 B rest w3 HF3.out HO3.out.rd HBE.out (by have := HGB.out; omega) (Nat.le_refl _) (by omega) hx hbad
  have HNM : Hid (Calls Tryd.prog 36 #[.pointer (some ⟨w1.heap.size + 1, 0, none⟩), .slice (some ⟨gb, 0, none⟩) q q] w3 fun e w' => e = .returned (.tuple #[.slice none 0 0, .int .i64 6]) ∧ Below w3.heap.size w3 w') := hnm
  clear hb1 hb3 ho1 hnm
  go_wp2_with fail
  rw [← HW3.out]
  refine HNM.out.mono ?_
  rintro e w4 ⟨rfl, hb4⟩
  have HK4 : Hid (Bk w4 w.heap.size #[.int .u8 0, .int .i64 0, .int .i64 0, .int .i64 0, .int .i64 0, .int .i64 0, .int .i64 0, .int .i64 0, .int .i64 0, .int .i64 0, .slice none 0 0, .slice none 0 0] 78) := HK3.out.stay hb4
  have HB4 : Hid (Below w.heap.size w w4) := HB3.out.trans (hb4.mono HB3.out.size)
  clear hb4 HNM
  have z0 : w4.cell? ⟨w.heap.size, 0, none⟩ = some (.int .u8 0) := HK4.out.cell 0 rfl
  have z1 : w4.cell? ⟨w.heap.size, 1, none⟩ = some (.int .i64 0) := HK4.out.cell 1 rfl
  have z2 : w4.cell? ⟨w.heap.size, 2, none⟩ = some (.int .i64 0) := HK4.out.cell 2 rfl
  have z3 : w4.cell? ⟨w.heap.size, 3, none⟩ = some (.int .i64 0) := HK4.out.cell 3 rfl
  have z4 : w4.cell? ⟨w.heap.size, 4, none⟩ = some (.int .i64 0) := HK4.out.cell 4 rfl
  have z5 : w4.cell? ⟨w.heap.size, 5, none⟩ = some (.int .i64 0) := HK4.out.cell 5 rfl
  have z6 : w4.cell? ⟨w.heap.size, 6, none⟩ = some (.int .i64 0) := HK4.out.cell 6 rfl
  have z7 : w4.cell? ⟨w.heap.size, 7, none⟩ = some (.int .i64 0) := HK4.out.cell 7 rfl
  have z8 : w4.cell? ⟨w.heap.size, 8, none⟩ = some (.int .i64 0) := HK4.out.cell 8 rfl
  have z9 : w4.cell? ⟨w.heap.size, 9, none⟩ = some (.int .i64 0) := HK4.out.cell 9 rfl
  have z10 : w4.cell? ⟨w.heap.size, 10, none⟩ = some (.slice none 0 0) := HK4.out.cell 10 rfl
  have z11 : w4.cell? ⟨w.heap.size, 11, none⟩ = some (.slice none 0 0) := HK4.out.cell 11 rfl
  have fr : ∀ i, w4.frozen? ⟨w.heap.size, i, none⟩ = false := fun i => HK4.out.free i
  go_wp2
  try simp only [Exit.inBlock, Exit.then]
  change bodyPost _ _ _ _ _ (set12 w4 w.heap.size (.int .u8 0) (.int .i64 0) (.int .i64 0) (.int .i64 0) (.int .i64 0) (.int .i64 0) (.int .i64 0) (.int .i64 0) (.int .i64 0) (.int .i64 0) (.slice none 0 0) (.slice none 0 0))
  refine bodyPost_ret (results_frame rfl (by rfl) (by rfl) (HK4.out.set12 (.int .u8 0) (.int .i64 0) (.int .i64 0) (.int .i64 0) (.int .i64 0) (.int .i64 0) (.int .i64 0) (.int .i64 0) (.int .i64 0) (.int .i64 0) (.slice none 0 0) (.slice none 0 0))) rfl ?_
  exact ⟨⟨_, by decide, rfl⟩, set12_below HB4.out _ (Nat.le_refl _) (.int .u8 0) (.int .i64 0) (.int .i64 0) (.int .i64 0) (.int .i64 0) (.int .i64 0) (.int .i64 0) (.int .i64 0) (.int .i64 0) (.int .i64 0) (.slice none 0 0) (.slice none 0 0)⟩

set_option maxRecDepth 100000 in
set_option maxHeartbeats 4000000 in
theorem lk_read_none (a : Option Addr) (n c : Nat) (bs rest : List Nat) (x0 x1 x2 : Nat) (w : World) (hr : Rd w a n bs) (hbs : bs = SealM.sealed 1 (lebs [x0, x1, x2] ++ rest)) (hlen : (lebs [x0, x1, x2]).length + rest.length ≤ 4096) (hrb : ∀ y ∈ rest, y < 256) (hnc : n ≤ c) (h0 : 1 ≤ x0 ∧ x0 ≤ 1073741824) (h1 : x1 ≤ 1073741824) (h2 : 1 ≤ x2 ∧ x2 ≤ 1099511627776) (ht : Tab w) (hw0 : 0 < w.heap.size) (f : Int) (hf : f ≠ 0) (hp : takeP rest = (Pc.zero, f)) :
    Calls Tryd.prog 23 #[.slice a n c] w fun e w' => ReadBad w e w' := by
  obtain ⟨B, hB⟩ : ∃ B, B = lebs [x0, x1, x2] ++ rest := ⟨_, rfl⟩
  have HBE : Hid (B = lebs [x0, x1, x2] ++ rest) := hB
  obtain ⟨q, hq⟩ : ∃ q, q = B.length := ⟨_, rfl⟩
  have HQ : Hid (q = B.length) := hq
  have hq30 : q ≤ 4096 := by rw [hq, hB, List.length_append]; exact hlen
  have hrl : rest.length ≤ 4096 := by omega
  rw [← hB] at hbs
  have HSZ : Hid (n = q + 8) := by have h := hr.size; rw [hbs, SealM.sealed_length, ← hq] at h; exact h.symm
  have hn38 : n ≤ 4104 := by have := HSZ.out; omega
  have hby : ∀ y ∈ B, y < 256 := by
    rw [hB]
    intro y hy
    rcases List.mem_append.1 hy with hy | hy
    · exact lebs_byte (by intro n hn; simp only [List.mem_cons, List.not_mem_nil, or_false] at hn; omega) y hy
    · exact hrb y hy
  have HR : Hid (Rd w a n bs) := hr
  have HP : Hid (takeP rest = (Pc.zero, f)) := hp
  have HOK : Hid (SealM.opn (bs.drop 0) = 0 ∧ (bs.drop 0).getD 1 0 = 1 ∧ SealM.blen (bs.drop 0) = q ∧ ((bs.drop 0).drop 4).take q = B) := by
    have h1 := SealM.opn_sealed 1 B [] (by omega) hby (by omega)
    have h2 := SealM.kind_sealed 1 B []
    have h3 := SealM.blen_sealed 1 B []
    have h4 := SealM.body_sealed 1 B []
    rw [List.append_nil] at h1 h2 h3 h4
    rw [List.drop_zero, hbs]
    exact ⟨h1, h2, by rw [h3, hq], by rw [hq]; exact h4⟩
  have HT : Hid (Tab w) := ht
  obtain ⟨W0, HW0⟩ : ∃ W0, Hid (W0 = w.alloc (.cells #[.int .u8 0, .int .i64 0, .int .i64 0, .int .i64 0, .int .i64 0, .int .i64 0, .int .i64 0, .int .i64 0, .int .i64 0, .int .i64 0, .slice none 0 0, .slice none 0 0] 78)) := ⟨_, rfl⟩
  have HB0 : Hid (Below w.heap.size w W0) := by rw [HW0.out]; exact below_new _ _
  have HK0 : Hid (Bk W0 w.heap.size #[.int .u8 0, .int .i64 0, .int .i64 0, .int .i64 0, .int .i64 0, .int .i64 0, .int .i64 0, .int .i64 0, .int .i64 0, .int .i64 0, .slice none 0 0, .slice none 0 0] 78) := by rw [HW0.out]; exact Bk.new _ _ _
  have HS0 : Hid (W0.heap.size = w.heap.size + 1) := by show _ = _; rw [HW0.out]; simp
  clear hr hbs hB hq hby ht hrb hlen hp
  go_enter Tryd.func23, Tryd.ntmps23
  go_wp2_with fail
  rw [← HW0.out]
  refine (seal_Open_good a n c bs 0 W0 (HR.out.below HB0.out) hnc (by omega) (by omega) (HT.out.below hw0 HB0.out) (Nat.lt_of_lt_of_le hw0 HB0.out.size) HOK.out.1 1 q HOK.out.2.1 HOK.out.2.2.1 B HOK.out.2.2.2).mono ?_
  rintro e w1 ⟨gb, he, ho1, hb1⟩
  rw [show (0 + q + 8 : Nat) = n from by have := HSZ.out; omega] at he
  subst he
  have HB1 : Hid (Below w.heap.size w w1) := HB0.out.trans (hb1.mono HB0.out.size)
  have HK1 : Hid (Bk w1 w.heap.size #[.int .u8 0, .int .i64 0, .int .i64 0, .int .i64 0, .int .i64 0, .int .i64 0, .int .i64 0, .int .i64 0, .int .i64 0, .int .i64 0, .slice none 0 0, .slice none 0 0] 78) := HK0.out.stay hb1
  obtain ⟨w3, HW3⟩ : ∃ w3, Hid (w3 = (w1.alloc (.cells #[.int .u8 1, .int .i64 0, .slice (some ⟨gb, 0, none⟩) q q] 95)).alloc (.cells #[.int .u8 1, .int .i64 0, .int .i64 0, .int .i64 0, .int .i64 0, .int .i64 0, .int .i64 0, .int .i64 0, .int .i64 0, .int .i64 0, .slice none 0 0, .slice none 0 0] 78)) := ⟨_, rfl⟩
  have hb3 : Below w1.heap.size w1 w3 := by rw [HW3.out]; exact (below_new w1 _).alloc (by simp) _
  have HF3 : Hid (Bk w3 (w1.heap.size + 1) #[.int .u8 1, .int .i64 0, .int .i64 0, .int .i64 0, .int .i64 0, .int .i64 0, .int .i64 0, .int .i64 0, .int .i64 0, .int .i64 0, .slice none 0 0, .slice none 0 0] 78) := by
    rw [HW3.out]
    have h := Bk.new (w1.alloc (.cells #[.int .u8 1, .int .i64 0, .slice (some ⟨gb, 0, none⟩) q q] 95)) #[.int .u8 1, .int .i64 0, .int .i64 0, .int .i64 0, .int .i64 0, .int .i64 0, .int .i64 0, .int .i64 0, .int .i64 0, .int .i64 0, .slice none 0 0, .slice none 0 0] 78
    rw [show (w1.alloc (.cells #[.int .u8 1, .int .i64 0, .slice (some ⟨gb, 0, none⟩) q q] 95)).heap.size = w1.heap.size + 1 from by simp] at h
    exact h
  have HK3 : Hid (Bk w3 w.heap.size #[.int .u8 0, .int .i64 0, .int .i64 0, .int .i64 0, .int .i64 0, .int .i64 0, .int .i64 0, .int .i64 0, .int .i64 0, .int .i64 0, .slice none 0 0, .slice none 0 0] 78) := HK1.out.stay hb3
  have HO3 : Hid (Own w3 W0.heap.size (some ⟨gb, 0, none⟩) q q B) := ho1.below hb3
  have HGB : Hid (gb < w1.heap.size) := by
    rcases ho1.row.2 with ⟨hv, _⟩ | ⟨g', c', cur, hv, _, hg, _⟩
    · cases hv
    · simp only [Value.slice.injEq, Option.some.injEq, Addr.mk.injEq] at hv
      rw [hv.1.1]
      exact (Array.getElem?_eq_some_iff.1 hg).1
  have HB3 : Hid (Below w.heap.size w w3) := HB1.out.trans (hb3.mono HB1.out.size)
  have hnm := lk_numbers_ok (w1.heap.size + 1) 1 gb 0 q q x0 x1 x2 B rest w3 HF3.out HO3.out.rd HBE.out (by have := HGB.out; omega) (Nat.le_refl _) (by omega) h0 h1 h2
  have HNM : Hid (Calls Tryd.prog 36 #[.pointer (some ⟨w1.heap.size + 1, 0, none⟩), .slice (some ⟨gb, 0, none⟩) q q] w3 fun e w' => (∃ a' c', e = .returned (.tuple #[.slice a' rest.length c', .int .i64 0]) ∧ Hid (Rd w' a' rest.length rest ∧ rest.length ≤ c')) ∧ Hid (Bk w' (w1.heap.size + 1) #[.int .u8 1, .int .i64 (x0 : Int), .int .i64 (x1 : Int), .int .i64 (x2 : Int), .int .i64 0, .int .i64 0, .int .i64 0, .int .i64 0, .int .i64 0, .int .i64 0, .slice none 0 0, .slice none 0 0] 78) ∧ w3.grownBy w' (some (w1.heap.size + 1))) := hnm
  have hne : w.heap.size ≠ w1.heap.size + 1 := by have := HB1.out.size; omega
  clear hb1 hb3 ho1 hnm
  go_wp2_with fail
  rw [← HW3.out]
  refine HNM.out.mono ?_
  rintro e w4 ⟨⟨a', c', he, HR4⟩, HF4, hg4⟩
  subst he
  have HK4 : Hid (Bk w4 w.heap.size #[.int .u8 0, .int .i64 0, .int .i64 0, .int .i64 0, .int .i64 0, .int .i64 0, .int .i64 0, .int .i64 0, .int .i64 0, .int .i64 0, .slice none 0 0, .slice none 0 0] 78) := HK3.out.grown hg4 (by simpa using hne)
  have HB4 : Hid (Below w.heap.size w w4) := by
    have hb := HB3.out
    refine ⟨hg4.os.trans hb.os, hg4.tape.trans hb.tape, hg4.output.trans hb.output, Nat.le_trans hb.size hg4.size, fun j hj => ?_⟩
    rw [hg4.block j (Nat.lt_of_lt_of_le hj hb.size) (by have := HB1.out.size; simp; omega)]
    exact hb.block j hj
  have hpt := pc_Take a' rest.length c' rest w4 HR4.out.1 HR4.out.2 (by omega)
  rw [HP.out] at hpt
  have HPT : Hid (Calls Tryd.prog 37 #[.slice a' rest.length c'] w4 fun e w' => Hid (TakeP13 w4 w' (Pc.zero, f) e) ∧ Below w4.heap.size w4 w') := hpt
  clear hg4 HNM hpt
  have hf1 : (f == 0) = false := by simp [hf]
  have hf2 : (f != 0) = true := by simp [hf]
  have hf3 : ¬ f = 0 := hf
  go_wp2_with fail
  refine HPT.out.mono ?_
  rintro e w5 ⟨HTK, hb5⟩
  obtain ⟨sa, sn, sc, ia, im, ic, M, he, _, _, _⟩ := HTK.out
  subst he
  have HK5 : Hid (Bk w5 w.heap.size #[.int .u8 0, .int .i64 0, .int .i64 0, .int .i64 0, .int .i64 0, .int .i64 0, .int .i64 0, .int .i64 0, .int .i64 0, .int .i64 0, .slice none 0 0, .slice none 0 0] 78) := HK4.out.stay hb5
  have HF5 : Hid (Bk w5 (w1.heap.size + 1) #[.int .u8 1, .int .i64 (x0 : Int), .int .i64 (x1 : Int), .int .i64 (x2 : Int), .int .i64 0, .int .i64 0, .int .i64 0, .int .i64 0, .int .i64 0, .int .i64 0, .slice none 0 0, .slice none 0 0] 78) := HF4.out.stay hb5
  have HB5 : Hid (Below w.heap.size w w5) := HB4.out.trans (hb5.mono HB4.out.size)
  clear hb5 HTK HPT
  unfold Pc.val
  simp only [Pc.zero]
  obtain ⟨w6, HW6⟩ : ∃ w6, Hid (w6 = set8f w5 (w1.heap.size + 1) (.int .i64 0) (.int .i64 0) (.int .i64 0) (.int .i64 0) (.int .i64 0) (.int .i64 0) (.slice sa sn sc) (.slice ia im ic)) := ⟨_, rfl⟩
  have HK6 : Hid (Bk w6 w.heap.size #[.int .u8 0, .int .i64 0, .int .i64 0, .int .i64 0, .int .i64 0, .int .i64 0, .int .i64 0, .int .i64 0, .int .i64 0, .int .i64 0, .slice none 0 0, .slice none 0 0] 78) := by unfold Bk; rw [HW6.out, set8f_other _ _ _ _ _ _ _ _ _ _ _ hne]; exact HK5.out
  have HB6 : Hid (Below w.heap.size w w6) := by rw [HW6.out]; exact set8f_below HB5.out _ (by have := HB1.out.size; omega) _ _ _ _ _ _ _ _
  have y0 : w5.cell? ⟨w1.heap.size + 1, 0, none⟩ = some (.int .u8 1) := HF5.out.cell 0 rfl
  have y1 : w5.cell? ⟨w1.heap.size + 1, 1, none⟩ = some (.int .i64 (x0 : Int)) := HF5.out.cell 1 rfl
  have y2 : w5.cell? ⟨w1.heap.size + 1, 2, none⟩ = some (.int .i64 (x1 : Int)) := HF5.out.cell 2 rfl
  have y3 : w5.cell? ⟨w1.heap.size + 1, 3, none⟩ = some (.int .i64 (x2 : Int)) := HF5.out.cell 3 rfl
  have y4 : w5.cell? ⟨w1.heap.size + 1, 4, none⟩ = some (.int .i64 0) := HF5.out.cell 4 rfl
  have y5 : w5.cell? ⟨w1.heap.size + 1, 5, none⟩ = some (.int .i64 0) := HF5.out.cell 5 rfl
  have y6 : w5.cell? ⟨w1.heap.size + 1, 6, none⟩ = some (.int .i64 0) := HF5.out.cell 6 rfl
  have y7 : w5.cell? ⟨w1.heap.size + 1, 7, none⟩ = some (.int .i64 0) := HF5.out.cell 7 rfl
  have y8 : w5.cell? ⟨w1.heap.size + 1, 8, none⟩ = some (.int .i64 0) := HF5.out.cell 8 rfl
  have y9 : w5.cell? ⟨w1.heap.size + 1, 9, none⟩ = some (.int .i64 0) := HF5.out.cell 9 rfl
  have y10 : w5.cell? ⟨w1.heap.size + 1, 10, none⟩ = some (.slice none 0 0) := HF5.out.cell 10 rfl
  have y11 : w5.cell? ⟨w1.heap.size + 1, 11, none⟩ = some (.slice none 0 0) := HF5.out.cell 11 rfl
  have fy : ∀ i, w5.frozen? ⟨w1.heap.size + 1, i, none⟩ = false := fun i => HF5.out.free i
  go_upto_region 20 with fail
  refine (fun h => by have e := HW6.out; unfold set8f at e; rw [← e]; exact h) ?_
  have z0 : w6.cell? ⟨w.heap.size, 0, none⟩ = some (.int .u8 0) := HK6.out.cell 0 rfl
  have z1 : w6.cell? ⟨w.heap.size, 1, none⟩ = some (.int .i64 0) := HK6.out.cell 1 rfl
  have z2 : w6.cell? ⟨w.heap.size, 2, none⟩ = some (.int .i64 0) := HK6.out.cell 2 rfl
  have z3 : w6.cell? ⟨w.heap.size, 3, none⟩ = some (.int .i64 0) := HK6.out.cell 3 rfl
  have z4 : w6.cell? ⟨w.heap.size, 4, none⟩ = some (.int .i64 0) := HK6.out.cell 4 rfl
  have z5 : w6.cell? ⟨w.heap.size, 5, none⟩ = some (.int .i64 0) := HK6.out.cell 5 rfl
  have z6 : w6.cell? ⟨w.heap.size, 6, none⟩ = some (.int .i64 0) := HK6.out.cell 6 rfl
  have z7 : w6.cell? ⟨w.heap.size, 7, none⟩ = some (.int .i64 0) := HK6.out.cell 7 rfl
  have z8 : w6.cell? ⟨w.heap.size, 8, none⟩ = some (.int .i64 0) := HK6.out.cell 8 rfl
  have z9 : w6.cell? ⟨w.heap.size, 9, none⟩ = some (.int .i64 0) := HK6.out.cell 9 rfl
  have z10 : w6.cell? ⟨w.heap.size, 10, none⟩ = some (.slice none 0 0) := HK6.out.cell 10 rfl
  have z11 : w6.cell? ⟨w.heap.size, 11, none⟩ = some (.slice none 0 0) := HK6.out.cell 11 rfl
  have fr : ∀ i, w6.frozen? ⟨w.heap.size, i, none⟩ = false := fun i => HK6.out.free i
  go_wp2
  try simp only [Exit.inBlock, Exit.then]
  change bodyPost _ _ _ _ _ (set12 w6 w.heap.size (.int .u8 0) (.int .i64 0) (.int .i64 0) (.int .i64 0) (.int .i64 0) (.int .i64 0) (.int .i64 0) (.int .i64 0) (.int .i64 0) (.int .i64 0) (.slice none 0 0) (.slice none 0 0))
  refine bodyPost_ret (results_frame rfl (by rfl) (by rfl) (HK6.out.set12 (.int .u8 0) (.int .i64 0) (.int .i64 0) (.int .i64 0) (.int .i64 0) (.int .i64 0) (.int .i64 0) (.int .i64 0) (.int .i64 0) (.int .i64 0) (.slice none 0 0) (.slice none 0 0))) rfl ?_
  exact ⟨⟨_, hf, rfl⟩, set12_below HB6.out _ (Nat.le_refl _) (.int .u8 0) (.int .i64 0) (.int .i64 0) (.int .i64 0) (.int .i64 0) (.int .i64 0) (.int .i64 0) (.int .i64 0) (.int .i64 0) (.int .i64 0) (.slice none 0 0) (.slice none 0 0)⟩

set_option maxRecDepth 100000 in
set_option maxHeartbeats 4000000 in
theorem lk_Take_bad (w : World) (base g : Nat) (wv : Value) (L : List (Wt × Bd)) (l : Lk) (h : LkIn w base g wv L l) (a : Option Addr) (n c now : Nat) (hnow : now ≤ 1099511627776)
    (hrd : ∀ W, Below w.heap.size w W → w.heap.size + 1 ≤ W.heap.size → Calls Tryd.prog 23 #[.slice a n c] W fun e w' => ReadBad W e w') :
    Calls Tryd.prog 10 #[.pointer (some ⟨g, 0, none⟩), .slice a n c, .int .i64 (now : Int)] w fun e w' => (∃ v, e = .returned v) ∧ Below w.heap.size w w' := by
  obtain ⟨W0, HW0⟩ : ∃ W0, Hid (W0 = w.alloc (.cells #[.int .i64 0, .int .i64 0, .int .i64 0, .int .i64 0, .int .i64 0, .int .i64 0, .slice none 0 0, .slice none 0 0] 37)) := ⟨_, rfl⟩
  have HB0 : Hid (Below w.heap.size w W0) := by rw [HW0.out]; exact below_new _ _
  have HR0 : Hid (Bk W0 w.heap.size #[.int .i64 0, .int .i64 0, .int .i64 0, .int .i64 0, .int .i64 0, .int .i64 0, .slice none 0 0, .slice none 0 0] 37) := by rw [HW0.out]; exact Bk.new _ _ _
  have HRD : Hid (Calls Tryd.prog 23 #[.slice a n c] W0 fun e w' => ReadBad W0 e w') := hrd W0 HB0.out (by rw [HW0.out]; simp)
  have HGL : Hid (g < w.heap.size) := h.blk.lt
  have g1 : ¬ (now : Int) < 0 := by omega
  have g2 : ¬ (1099511627776 : Int) < (now : Int) := by omega
  clear h hrd
  go_enter Tryd.func10, Tryd.ntmps10
  go_wp2_with fail
  rw [← HW0.out]
  refine HRD.out.mono ?_
  rintro e w1 ⟨⟨r, hr, he⟩, hb1⟩
  subst he
  have HB1 : Hid (Below w.heap.size w w1) := HB0.out.trans (hb1.mono HB0.out.size)
  obtain ⟨w2, HW2⟩ : ∃ w2, Hid (w2 = w1.alloc (.cells #[.int .u8 0, .int .i64 0, .int .i64 0, .int .i64 0, .int .i64 0, .int .i64 0, .int .i64 0, .int .i64 0, .int .i64 0, .int .i64 0, .slice none 0 0, .slice none 0 0] 78)) := ⟨_, rfl⟩
  have hb2 : Below w1.heap.size w1 w2 := by rw [HW2.out]; exact below_new _ _
  have HR2 : Hid (Bk w2 w.heap.size #[.int .i64 0, .int .i64 0, .int .i64 0, .int .i64 0, .int .i64 0, .int .i64 0, .slice none 0 0, .slice none 0 0] 37) := (HR0.out.stay hb1).stay hb2
  have HB2 : Hid (Below w.heap.size w w2) := HB1.out.trans (hb2.mono HB1.out.size)
  have g3 : (r == 0) = false := by simpa using hr
  have g4 : (r != 0) = true := by simpa using hr
  clear hb1 hb2 HRD
  go_upto_region 9 with fail
  rw [← HW2.out]
  have r0 : w2.cell? ⟨w.heap.size, 0, none⟩ = some (.int .i64 0) := HR2.out.cell 0 rfl
  have r1 : w2.cell? ⟨w.heap.size, 1, none⟩ = some (.int .i64 0) := HR2.out.cell 1 rfl
  have r2 : w2.cell? ⟨w.heap.size, 2, none⟩ = some (.int .i64 0) := HR2.out.cell 2 rfl
  have r3 : w2.cell? ⟨w.heap.size, 3, none⟩ = some (.int .i64 0) := HR2.out.cell 3 rfl
  have r4 : w2.cell? ⟨w.heap.size, 4, none⟩ = some (.int .i64 0) := HR2.out.cell 4 rfl
  have r5 : w2.cell? ⟨w.heap.size, 5, none⟩ = some (.int .i64 0) := HR2.out.cell 5 rfl
  have r6 : w2.cell? ⟨w.heap.size, 6, none⟩ = some (.slice none 0 0) := HR2.out.cell 6 rfl
  have r7 : w2.cell? ⟨w.heap.size, 7, none⟩ = some (.slice none 0 0) := HR2.out.cell 7 rfl
  have fz : ∀ i, w2.frozen? ⟨w.heap.size, i, none⟩ = false := fun i => HR2.out.free i
  go_wp2
  try simp only [Exit.inBlock, Exit.then]
  change bodyPost _ _ _ _ _ (set8 w2 w.heap.size (.int .i64 0) (.int .i64 0) (.int .i64 0) (.int .i64 0) (.int .i64 0) (.int .i64 0) (.slice none 0 0) (.slice none 0 0))
  refine bodyPost_ret (results_take rfl (by rfl) (by rfl) (by rfl) (HR2.out.set8 (.int .i64 0) (.int .i64 0) (.int .i64 0) (.int .i64 0) (.int .i64 0) (.int .i64 0) (.slice none 0 0) (.slice none 0 0))) rfl ?_
  exact ⟨⟨_, rfl⟩, set8_below HB2.out _ (Nat.le_refl _) _ _ _ _ _ _ _ _⟩

end Go.Proofs.YtbloomepdchjhaaDoor
