/- A pack of texts: Lk6 Lk7 Lk8 Lk9 Lk10 Lk11 Lk12. -/
import Derived.Test.YtbloomepdchjhaaDoorLkB
import Derived.Test.YtbloomepdchjhaaDoorTakeP
import Derived.Laws.BitsAllLaws
/- link.frame's numbers, of bytes that begin with three numbers that may be. -/
namespace Go.Proofs.YtbloomepdchjhaaDoor
open Go.RowKit

/-- The array of numbers, so many of which are there. -/
def arr3 (ns : List Nat) (i : Nat) : List Value := ((ns.take i ++ List.replicate (3 - i) 0).take 3).map fun (n : Nat) => .int .u64 (n : Int)
theorem lebs_append (xs ys : List Nat) : lebs (xs ++ ys) = lebs xs ++ lebs ys := by simp [lebs]
theorem lebs_one (n : Nat) : lebs [n] = Leb.leb n := by simp [lebs]
theorem arr3_at {ns : List Nat} (hn : ns.length = 3) {i : Nat} (hi : i < 3) : (arr3 ns i)[i]? = some (.int .u64 0) := by
  match ns, hn, i, hi with
  | [a, b, c], _, 0, _ => rfl
  | [a, b, c], _, 1, _ => rfl
  | [a, b, c], _, 2, _ => rfl
theorem arr3_set {ns : List Nat} (hn : ns.length = 3) {i x : Nat} (hx : ns[i]? = some x) : (arr3 ns i).toArray.setIfInBounds i (.int .u64 (x : Int)) = (arr3 ns (i + 1)).toArray := by
  match ns, hn, i, hx with
  | [a, b, c], _, 0, hx => simp at hx; subst hx; rfl
  | [a, b, c], _, 1, hx => simp at hx; subst hx; rfl
  | [a, b, c], _, 2, hx => simp at hx; subst hx; rfl
theorem nums_take {ns rest : List Nat} {i x : Nat} (hx : ns[i]? = some x) (hb : x < 18446744073709551616) : Leb.take (lebs ns ++ rest) (((lebs (ns.take i)).length : Nat) : Int) = (x, (lebs (ns.take (i + 1))).length, 0) := by
  obtain ⟨h1, h2⟩ := List.getElem?_eq_some_iff.1 hx
  have e1 : ns = ns.take i ++ (x :: ns.drop (i + 1)) := by
    rw [← h2, List.getElem_cons_drop, List.take_append_drop]
  have e2 : lebs ns ++ rest = lebs (ns.take i) ++ Leb.leb x ++ (lebs (ns.drop (i + 1)) ++ rest) := by
    conv => lhs; rw [e1]
    rw [lebs_append, lebs_cons, List.append_assoc, List.append_assoc, List.append_assoc]
  have e3 : ns.take (i + 1) = ns.take i ++ [x] := by rw [List.take_add_one, hx]; rfl
  rw [e2, Leb.take_put x hb, e3, lebs_append, lebs_one, List.length_append]

set_option maxRecDepth 100000 in
set_option maxHeartbeats 4000000 in
theorem lk_numbers_ok (F k g o n c x0 x1 x2 : Nat) (bs rest : List Nat) (w : World) (hF : Bk w F #[.int .u8 (k : Int), .int .i64 0, .int .i64 0, .int .i64 0, .int .i64 0, .int .i64 0, .int .i64 0, .int .i64 0, .int .i64 0, .int .i64 0, .slice none 0 0, .slice none 0 0] 78) (hr : Rd w (some ⟨g, o, none⟩) n bs) (hbs : bs = lebs [x0, x1, x2] ++ rest) (hgF : g ≠ F) (hnc : n ≤ c) (hc : c ≤ 1000000) (h0 : 1 ≤ x0 ∧ x0 ≤ 1073741824) (h1 : x1 ≤ 1073741824) (h2 : 1 ≤ x2 ∧ x2 ≤ 1099511627776) :
    Calls Tryd.prog 36 #[.pointer (some ⟨F, 0, none⟩), .slice (some ⟨g, o, none⟩) n c] w fun e w' => (∃ a' c', e = .returned (.tuple #[.slice a' rest.length c', .int .i64 0]) ∧ Hid (Rd w' a' rest.length rest ∧ rest.length ≤ c')) ∧ Hid (Bk w' F #[.int .u8 (k : Int), .int .i64 (x0 : Int), .int .i64 (x1 : Int), .int .i64 (x2 : Int), .int .i64 0, .int .i64 0, .int .i64 0, .int .i64 0, .int .i64 0, .int .i64 0, .slice none 0 0, .slice none 0 0] 78) ∧ w.grownBy w' (some F) := by
  obtain ⟨ns, hns⟩ : ∃ ns, ns = [x0, x1, x2] := ⟨_, rfl⟩
  have HNS : Hid (ns = [x0, x1, x2]) := hns
  have HN3 : Hid (ns.length = 3) := by rw [hns]; rfl
  rw [← hns] at hbs
  have HBS : Hid (bs = lebs ns ++ rest) := hbs
  have HNB : Hid (∀ x ∈ ns, x < 18446744073709551616) := by intro x hx; rw [hns] at hx; simp only [List.mem_cons, List.not_mem_nil, or_false] at hx; omega
  obtain ⟨m, hm⟩ : ∃ m, m = (lebs ns).length := ⟨_, rfl⟩
  have HM : Hid (m = (lebs ns).length) := hm
  have hsz := hr.size
  rw [hbs, List.length_append, ← hm] at hsz
  have HR : Hid (Rd w (some ⟨g, o, none⟩) n bs) := hr
  have HF : Hid (Bk w F #[.int .u8 (k : Int), .int .i64 0, .int .i64 0, .int .i64 0, .int .i64 0, .int .i64 0, .int .i64 0, .int .i64 0, .int .i64 0, .int .i64 0, .slice none 0 0, .slice none 0 0] 78) := hF
  have HFL : Hid (F < w.heap.size) := hF.lt
  have HGF : Hid (g ≠ F) := hgF
  have HSZ : Hid (m + rest.length = n) := hsz
  have hmn : m ≤ n := by omega
  have hm1 : (m : Int) ≤ (n : Int) := by omega
  have hm2 : (m : Int) ≤ (c : Int) := by omega
  have hm0 : (0 : Int) ≤ (m : Int) := by omega
  obtain ⟨W0, HW0⟩ : ∃ W0, Hid (W0 = w.alloc (.cells #[.int .u64 0, .int .u64 0, .int .u64 0] 117)) := ⟨_, rfl⟩
  have HB0 : Hid (Below w.heap.size w W0) := by rw [HW0.out]; exact below_new _ _
  have HA0 : Hid (Bk W0 w.heap.size (arr3 ns 0).toArray 117) := by
    have e : (arr3 ns 0).toArray = #[.int .u64 0, .int .u64 0, .int .u64 0] := by rw [hns]; rfl
    rw [HW0.out, e]; exact Bk.new _ _ _
  clear hns hbs hm hr hF hsz hgF
  go_enter Tryd.func36, Tryd.ntmps36
  go_wp2
  rw [← HW0.out]
  go_loopw [7, 15] (fun t7 t15 wr => ∃ (i p : Nat), i ≤ 3 ∧ t15 = .int .i64 (i : Int) ∧ t7 = .int .i64 (p : Int) ∧ Hid (p = (lebs (ns.take i)).length) ∧ p ≤ m ∧ Hid (Bk wr w.heap.size (arr3 ns i).toArray 117) ∧ Hid (Below w.heap.size w wr)) (fun _ t15 _ => 3 - (intOf t15).toNat)
  case atStart => exact ⟨0, 0, by omega, rfl, rfl, rfl, by omega, HA0, HB0⟩
  case round =>
    obtain ⟨i, p, hi, rfl, rfl, HP, hpm, HA, HB⟩ := hrel
    clear HA0
    by_cases hlt : i < 3
    · have hlt' : (i : Int) < 3 := by omega
      have h0i : (0 : Int) ≤ (i : Int) := by omega
      obtain ⟨x, hx⟩ : ∃ x, ns[i]? = some x := ⟨ns[i]'(by rw [HN3.out]; exact hlt), List.getElem?_eq_getElem _⟩
      have hxb : x < 18446744073709551616 := HNB.out x (List.mem_of_getElem? hx)
      have HX : Hid (ns[i]? = some x) := hx
      obtain ⟨q, hq⟩ : ∃ q, q = (lebs (ns.take (i + 1))).length := ⟨_, rfl⟩
      have HQ : Hid (q = (lebs (ns.take (i + 1))).length) := hq
      have hqm : q ≤ m := by
        have e : lebs ns = lebs (ns.take (i + 1)) ++ lebs (ns.drop (i + 1)) := by rw [← lebs_append, List.take_append_drop]
        rw [hq, HM.out, e, List.length_append]
        omega
      have htk := octet_TakeUint (some ⟨g, o, none⟩) n c bs (p : Int) wr (HR.out.below HB.out) (by omega) (by omega)
      rw [HBS.out, HP.out, nums_take hx hxb, ← HP.out, ← hq] at htk
      have HTK : Hid (Calls Tryd.prog 54 #[.slice (some ⟨g, o, none⟩) n c, .int .i64 (p : Int)] wr fun e w' => e = .returned (.tuple #[.int .u64 (x : Int), .int .i64 (q : Int), .int .i64 0]) ∧ w' = wr) := htk
      have ca : wr.cell? ⟨w.heap.size, i, none⟩ = some (.int .u64 0) := HA.out.cell i (by rw [List.getElem?_toArray]; exact arr3_at HN3.out hlt)
      have fa : wr.frozen? ⟨w.heap.size, i, none⟩ = false := HA.out.free i
      have HA' : Hid (Bk (wr.setCell ⟨w.heap.size, i, none⟩ (.int .u64 (x : Int))) w.heap.size (arr3 ns (i + 1)).toArray 117) := bk_step HA.out i _ (arr3_set HN3.out hx)
      have HB' : Hid (Below w.heap.size w (wr.setCell ⟨w.heap.size, i, none⟩ (.int .u64 (x : Int)))) := HB.out.setCell (Nat.le_refl _) _
      clear htk hx hq
      go_wp2_with fail
      refine HTK.out.mono ?_
      rintro e w' ⟨rfl, hw'⟩
      rw [hw']
      clear hw' w' HTK
      go_wp2
      go_roundw
      case rel => exact ⟨i + 1, q, by omega, by go_num, rfl, HQ, hqm, HA', HB'⟩
      case measure => simp [intOf]; omega
    · have hnl : ¬ (i : Int) < 3 := by omega
      obtain rfl : i = 3 := by omega
      have hpe : p = m := by rw [HP.out, HM.out, List.take_of_length_le (by rw [HN3.out]; omega)]
      subst hpe
      have HA3 : Hid (Bk wr w.heap.size #[.int .u64 (x0 : Int), .int .u64 (x1 : Int), .int .u64 (x2 : Int)] 117) := by
        have h := HA.out
        rw [HNS.out] at h
        exact h
      obtain ⟨wd, HWD⟩ : ∃ wd, Hid (wd = wr.drew) := ⟨_, rfl⟩
      have hbd : Below wr.heap.size wr wd := by rw [HWD.out]; exact below_drew (Below.refl _ _)
      have HAd : Hid (Bk wd w.heap.size #[.int .u64 (x0 : Int), .int .u64 (x1 : Int), .int .u64 (x2 : Int)] 117) := HA3.out.stay hbd
      have HBd : Hid (Below w.heap.size w wd) := HB.out.trans (hbd.mono HB.out.size)
      have HFd : Hid (Bk wd F #[.int .u8 (k : Int), .int .i64 0, .int .i64 0, .int .i64 0, .int .i64 0, .int .i64 0, .int .i64 0, .int .i64 0, .int .i64 0, .int .i64 0, .slice none 0 0, .slice none 0 0] 78) := HF.out.stay HBd.out
      have g1 : ¬ (x0 : Int) < 1 := by omega
      have g2 : ¬ (1073741824 : Int) < (x0 : Int) := by omega
      have g3 : ¬ (1073741824 : Int) < (x1 : Int) := by omega
      have g4 : ¬ (x2 : Int) < 1 := by omega
      have g5 : ¬ (1099511627776 : Int) < (x2 : Int) := by omega
      have f1 : wd.cell? ⟨F, 1, none⟩ = some (.int .i64 0) := HFd.out.cell 1 rfl
      have f2 : wd.cell? ⟨F, 2, none⟩ = some (.int .i64 0) := HFd.out.cell 2 rfl
      have f3 : wd.cell? ⟨F, 3, none⟩ = some (.int .i64 0) := HFd.out.cell 3 rfl
      have ff : ∀ i, wd.frozen? ⟨F, i, none⟩ = false := fun i => HFd.out.free i
      have hF1 : Bk (wd.setCell ⟨F, 1, none⟩ (.int .i64 (x0 : Int))) F #[.int .u8 (k : Int), .int .i64 (x0 : Int), .int .i64 0, .int .i64 0, .int .i64 0, .int .i64 0, .int .i64 0, .int .i64 0, .int .i64 0, .int .i64 0, .slice none 0 0, .slice none 0 0] 78 := bk_step HFd.out 1 _ rfl
      have hF2 : Bk ((wd.setCell ⟨F, 1, none⟩ (.int .i64 (x0 : Int))).setCell ⟨F, 2, none⟩ (.int .i64 (x1 : Int))) F #[.int .u8 (k : Int), .int .i64 (x0 : Int), .int .i64 (x1 : Int), .int .i64 0, .int .i64 0, .int .i64 0, .int .i64 0, .int .i64 0, .int .i64 0, .int .i64 0, .slice none 0 0, .slice none 0 0] 78 := bk_step hF1 2 _ rfl
      have HF3 : Hid (Bk (((wd.setCell ⟨F, 1, none⟩ (.int .i64 (x0 : Int))).setCell ⟨F, 2, none⟩ (.int .i64 (x1 : Int))).setCell ⟨F, 3, none⟩ (.int .i64 (x2 : Int))) F #[.int .u8 (k : Int), .int .i64 (x0 : Int), .int .i64 (x1 : Int), .int .i64 (x2 : Int), .int .i64 0, .int .i64 0, .int .i64 0, .int .i64 0, .int .i64 0, .int .i64 0, .slice none 0 0, .slice none 0 0] 78) := bk_step hF2 3 _ rfl
      have HG3 : Hid (w.grownBy (((wd.setCell ⟨F, 1, none⟩ (.int .i64 (x0 : Int))).setCell ⟨F, 2, none⟩ (.int .i64 (x1 : Int))).setCell ⟨F, 3, none⟩ (.int .i64 (x2 : Int))) (some F)) := by
        have hb := HBd.out
        refine ⟨hb.os, hb.tape, hb.output, by simpa using hb.size, fun j hj hn => ?_⟩
        have hjf : j ≠ F := fun e => hn (by rw [e])
        rw [heap_setCell_other _ ⟨F, 3, none⟩ j _ hjf, heap_setCell_other _ ⟨F, 2, none⟩ j _ hjf, heap_setCell_other _ ⟨F, 1, none⟩ j _ hjf]
        exact hb.block j hj
      have HRR : Hid (Rd (((wd.setCell ⟨F, 1, none⟩ (.int .i64 (x0 : Int))).setCell ⟨F, 2, none⟩ (.int .i64 (x1 : Int))).setCell ⟨F, 3, none⟩ (.int .i64 (x2 : Int))) (some ⟨g, o + p, none⟩) rest.length rest) := by
        have hrd := HR.out.below HBd.out
        refine ⟨rfl, fun y hy => hrd.byte y (by rw [HBS.out]; exact List.mem_append_right _ hy), ?_⟩
        rcases hrd.cells with h5 | ⟨g', o', ha, hlt, hcc⟩
        · left; have := HSZ.out; omega
        · simp only [Option.some.injEq, Addr.mk.injEq, and_true] at ha
          obtain ⟨rfl, rfl⟩ := ha
          refine .inr ⟨g, o + p, rfl, by simpa using hlt, fun j hj => ?_⟩
          have h6 := hcc (p + j) (by have := HSZ.out; omega)
          rw [cell_far7 _ F 3 _ g _ HGF.out, cell_far7 _ F 2 _ g _ HGF.out, cell_far7 _ F 1 _ g _ HGF.out, show o + p + j = o + (p + j) from by omega, h6, HBS.out]
          simp only [List.getD_eq_getElem?_getD]
          rw [List.getElem?_append_right (by have := HM.out; omega), show p + j - (lebs ns).length = j from by have := HM.out; omega]
      have HSZ2 : Hid (n - p = rest.length) := by have := HSZ.out; show _ = _; omega
      clear hbd hF1 hF2
      go_wp2
      refine wp_region_held_drew (S := fun w' => w'.cell? ⟨w.heap.size, 0, none⟩ = some (.int .u64 (x0 : Int)) ∧ w'.cell? ⟨w.heap.size, 1, none⟩ = some (.int .u64 (x1 : Int)) ∧ w'.cell? ⟨w.heap.size, 2, none⟩ = some (.int .u64 (x2 : Int))) (by kernel_rfl) (by rw [← HWD.out]; exact ⟨HAd.out.cell 0 rfl, HAd.out.cell 1 rfl, HAd.out.cell 2 rfl⟩) (fun hHeld => ?_)
      rw [← HWD.out] at hHeld ⊢
      refine take_putH (i := 0) (v := ?_) (some 33) rfl (by kernel_rfl) (by kernel_rfl) (by kernel_rfl) (by kernel_rfl) (fun _ _ _ h => h) (Or.inl ⟨by rfl, ?_⟩) hHeld ?_
      rotate_left
      · (intro w hSw; obtain ⟨z0, z1, z2⟩ := hSw; go_simp; try with_reducible rfl)
      try simp only [Act.put, List.setIfInBounds_toArray, List.set_cons_zero, List.set_cons_succ]
      refine take_putH (i := 1) (v := ?_) (some 34) rfl (by kernel_rfl) (by kernel_rfl) (by kernel_rfl) (by kernel_rfl) (fun _ _ _ h => h) (Or.inl ⟨by rfl, ?_⟩) hHeld ?_
      rotate_left
      · (intro w hSw; obtain ⟨z0, z1, z2⟩ := hSw; go_simp; try with_reducible rfl)
      try simp only [Act.put, List.setIfInBounds_toArray, List.set_cons_zero, List.set_cons_succ]
      refine take_putH (i := 2) (v := ?_) (some 35) rfl (by kernel_rfl) (by kernel_rfl) (by kernel_rfl) (by kernel_rfl) (fun _ _ _ h => h) (Or.inl ⟨by rfl, ?_⟩) hHeld ?_
      rotate_left
      · (intro w hSw; obtain ⟨z0, z1, z2⟩ := hSw; go_simp; try with_reducible rfl)
      try simp only [Act.put, List.setIfInBounds_toArray, List.set_cons_zero, List.set_cons_succ]
      refine take_putH (i := 3) (v := ?_) (some 36) rfl (by kernel_rfl) (by kernel_rfl) (by kernel_rfl) (by kernel_rfl) (fun _ _ _ h => h) (Or.inl ⟨by rfl, ?_⟩) hHeld ?_
      rotate_left
      · (intro w hSw; obtain ⟨z0, z1, z2⟩ := hSw; go_simp; try with_reducible rfl)
      try simp only [Act.put, List.setIfInBounds_toArray, List.set_cons_zero, List.set_cons_succ]
      refine take_putH (i := 4) (v := ?_) (some 37) rfl (by kernel_rfl) (by kernel_rfl) (by kernel_rfl) (by kernel_rfl) (fun _ _ _ h => h) (Or.inl ⟨by rfl, ?_⟩) hHeld ?_
      rotate_left
      · (intro w hSw; obtain ⟨z0, z1, z2⟩ := hSw; go_simp; try with_reducible rfl)
      try simp only [Act.put, List.setIfInBounds_toArray, List.set_cons_zero, List.set_cons_succ]
      refine take_putH (i := 5) (v := ?_) (some 38) rfl (by kernel_rfl) (by kernel_rfl) (by kernel_rfl) (by kernel_rfl) (fun _ _ _ h => h) (Or.inl ⟨by rfl, ?_⟩) hHeld ?_
      rotate_left
      · (intro w hSw; obtain ⟨z0, z1, z2⟩ := hSw; go_simp; try with_reducible rfl)
      try simp only [Act.put, List.setIfInBounds_toArray, List.set_cons_zero, List.set_cons_succ]
      refine take_putH (i := 6) (v := ?_) (some 12) rfl (by kernel_rfl) (by kernel_rfl) (by kernel_rfl) (by kernel_rfl) (fun _ _ _ h => h) (Or.inl ⟨by rfl, ?_⟩) hHeld ?_
      rotate_left
      · (intro w hSw; obtain ⟨z0, z1, z2⟩ := hSw; go_simp; try with_reducible rfl)
      try simp only [Act.put, List.setIfInBounds_toArray, List.set_cons_zero, List.set_cons_succ]
      refine take_putH (i := 7) (v := ?_) (some 13) rfl (by kernel_rfl) (by kernel_rfl) (by kernel_rfl) (by kernel_rfl) (fun _ _ _ h => h) (Or.inl ⟨by rfl, ?_⟩) hHeld ?_
      rotate_left
      · (intro w hSw; obtain ⟨z0, z1, z2⟩ := hSw; go_simp; try with_reducible rfl)
      try simp only [Act.put, List.setIfInBounds_toArray, List.set_cons_zero, List.set_cons_succ]
      refine take_putH (i := 8) (v := ?_) (some 14) rfl (by kernel_rfl) (by kernel_rfl) (by kernel_rfl) (by kernel_rfl) (fun _ _ _ h => h) (Or.inl ⟨by rfl, ?_⟩) hHeld ?_
      rotate_left
      · (intro w hSw; obtain ⟨z0, z1, z2⟩ := hSw; go_simp; try with_reducible rfl)
      try simp only [Act.put, List.setIfInBounds_toArray, List.set_cons_zero, List.set_cons_succ]
      refine wpAnyH_done (by kernel_rfl) ?_ _
      clear hHeld
      by_cases hcp : c = p
      · have HRE : Hid (rest.length = 0) := by have h1 := HSZ2.out; show _ = _; omega
        go_wp2
        go_ret2
        rw [HSZ2.out]
        refine ⟨⟨_, _, rfl, ⟨rfl, HRR.out.byte, .inl HRE.out⟩, by have := HRE.out; omega⟩, HF3.out, HG3.out⟩
      · have HCC : Hid (rest.length ≤ c - p) := by have h1 := HSZ2.out; show _ ≤ _; omega
        go_wp2
        go_ret2
        rw [HSZ2.out]
        exact ⟨⟨_, _, rfl, HRR.out, HCC.out⟩, HF3.out, HG3.out⟩
end Go.Proofs.YtbloomepdchjhaaDoor
/- link.read of a probe's and an answer's frame. -/
namespace Go.Proofs.YtbloomepdchjhaaDoor
open Go.RowKit

theorem lebs_byte {ns : List Nat} (hb : ∀ n ∈ ns, n < 18446744073709551616) : ∀ y ∈ lebs ns, y < 256 := by
  intro y hy
  simp only [lebs, List.mem_flatMap] at hy
  obtain ⟨n, hn, h⟩ := hy
  exact Leb.leb_byte n (hb n hn) y h
def set12 (w : World) (g : Nat) (v0 v1 v2 v3 v4 v5 v6 v7 v8 v9 v10 v11 : Value) : World := ((((((((((((w.setCell ⟨g, 0, none⟩ v0).setCell ⟨g, 1, none⟩ v1).setCell ⟨g, 2, none⟩ v2).setCell ⟨g, 3, none⟩ v3).setCell ⟨g, 4, none⟩ v4).setCell ⟨g, 5, none⟩ v5).setCell ⟨g, 6, none⟩ v6).setCell ⟨g, 7, none⟩ v7).setCell ⟨g, 8, none⟩ v8).setCell ⟨g, 9, none⟩ v9).setCell ⟨g, 10, none⟩ v10).setCell ⟨g, 11, none⟩ v11)
theorem Bk.set12 {w : World} {g : Nat} {t : TypeId} {u0 u1 u2 u3 u4 u5 u6 u7 u8 u9 u10 u11 : Value} (h : Bk w g #[u0, u1, u2, u3, u4, u5, u6, u7, u8, u9, u10, u11] t) (v0 v1 v2 v3 v4 v5 v6 v7 v8 v9 v10 v11 : Value) : Bk (Go.Proofs.YtbloomepdchjhaaDoor.set12 w g v0 v1 v2 v3 v4 v5 v6 v7 v8 v9 v10 v11) g #[v0, v1, v2, v3, v4, v5, v6, v7, v8, v9, v10, v11] t := by
  unfold Go.Proofs.YtbloomepdchjhaaDoor.set12
  have h1 : Bk (w.setCell ⟨g, 0, none⟩ v0) g #[v0, u1, u2, u3, u4, u5, u6, u7, u8, u9, u10, u11] t := bk_step h 0 v0 rfl
  generalize w.setCell ⟨g, 0, none⟩ v0 = w1 at h1 ⊢
  have h2 : Bk (w1.setCell ⟨g, 1, none⟩ v1) g #[v0, v1, u2, u3, u4, u5, u6, u7, u8, u9, u10, u11] t := bk_step h1 1 v1 rfl
  generalize w1.setCell ⟨g, 1, none⟩ v1 = w2 at h2 ⊢
  have h3 : Bk (w2.setCell ⟨g, 2, none⟩ v2) g #[v0, v1, v2, u3, u4, u5, u6, u7, u8, u9, u10, u11] t := bk_step h2 2 v2 rfl
  generalize w2.setCell ⟨g, 2, none⟩ v2 = w3 at h3 ⊢
  have h4 : Bk (w3.setCell ⟨g, 3, none⟩ v3) g #[v0, v1, v2, v3, u4, u5, u6, u7, u8, u9, u10, u11] t := bk_step h3 3 v3 rfl
  generalize w3.setCell ⟨g, 3, none⟩ v3 = w4 at h4 ⊢
  have h5 : Bk (w4.setCell ⟨g, 4, none⟩ v4) g #[v0, v1, v2, v3, v4, u5, u6, u7, u8, u9, u10, u11] t := bk_step h4 4 v4 rfl
  generalize w4.setCell ⟨g, 4, none⟩ v4 = w5 at h5 ⊢
  have h6 : Bk (w5.setCell ⟨g, 5, none⟩ v5) g #[v0, v1, v2, v3, v4, v5, u6, u7, u8, u9, u10, u11] t := bk_step h5 5 v5 rfl
  generalize w5.setCell ⟨g, 5, none⟩ v5 = w6 at h6 ⊢
  have h7 : Bk (w6.setCell ⟨g, 6, none⟩ v6) g #[v0, v1, v2, v3, v4, v5, v6, u7, u8, u9, u10, u11] t := bk_step h6 6 v6 rfl
  generalize w6.setCell ⟨g, 6, none⟩ v6 = w7 at h7 ⊢
  have h8 : Bk (w7.setCell ⟨g, 7, none⟩ v7) g #[v0, v1, v2, v3, v4, v5, v6, v7, u8, u9, u10, u11] t := bk_step h7 7 v7 rfl
  generalize w7.setCell ⟨g, 7, none⟩ v7 = w8 at h8 ⊢
  have h9 : Bk (w8.setCell ⟨g, 8, none⟩ v8) g #[v0, v1, v2, v3, v4, v5, v6, v7, v8, u9, u10, u11] t := bk_step h8 8 v8 rfl
  generalize w8.setCell ⟨g, 8, none⟩ v8 = w9 at h9 ⊢
  have h10 : Bk (w9.setCell ⟨g, 9, none⟩ v9) g #[v0, v1, v2, v3, v4, v5, v6, v7, v8, v9, u10, u11] t := bk_step h9 9 v9 rfl
  generalize w9.setCell ⟨g, 9, none⟩ v9 = w10 at h10 ⊢
  have h11 : Bk (w10.setCell ⟨g, 10, none⟩ v10) g #[v0, v1, v2, v3, v4, v5, v6, v7, v8, v9, v10, u11] t := bk_step h10 10 v10 rfl
  generalize w10.setCell ⟨g, 10, none⟩ v10 = w11 at h11 ⊢
  have h12 : Bk (w11.setCell ⟨g, 11, none⟩ v11) g #[v0, v1, v2, v3, v4, v5, v6, v7, v8, v9, v10, v11] t := bk_step h11 11 v11 rfl
  exact h12
theorem set12_below {B : Nat} {w w' : World} (h : Below B w w') (g : Nat) (hg : B ≤ g) (v0 v1 v2 v3 v4 v5 v6 v7 v8 v9 v10 v11 : Value) : Below B w (set12 w' g v0 v1 v2 v3 v4 v5 v6 v7 v8 v9 v10 v11) := by
  unfold set12
  exact (((((((((((h.setCell hg _).setCell hg _).setCell hg _).setCell hg _).setCell hg _).setCell hg _).setCell hg _).setCell hg _).setCell hg _).setCell hg _).setCell hg _).setCell hg _
theorem results_frame {f : Func} {w : World} {tmps : Array Value} {g : Nat} {t : TypeId} {v0 v1 v2 v3 v4 v5 v6 v7 v8 v9 v10 v11 e : Value} (hf : f.results = #[.cell 2 78, .tmp 3]) (h4 : tmps[2]?.getD undef = .pointer (some ⟨g, 0, none⟩)) (h5 : tmps[3]?.getD undef = e)
    (k : Bk w g #[v0, v1, v2, v3, v4, v5, v6, v7, v8, v9, v10, v11] t) : (results f tmps).run Tryd.prog w = .ok (.tuple #[.agg #[v0, v1, v2, v3, v4, v5, v6, v7, v8, v9, v10, v11], e]) w := by
  have k0 := k.cell 0 rfl
  have k1 := k.cell 1 rfl
  have k2 := k.cell 2 rfl
  have k3 := k.cell 3 rfl
  have k4 := k.cell 4 rfl
  have k5 := k.cell 5 rfl
  have k6 := k.cell 6 rfl
  have k7 := k.cell 7 rfl
  have k8 := k.cell 8 rfl
  have k9 := k.cell 9 rfl
  have k10 := k.cell 10 rfl
  have k11 := k.cell 11 rfl
  simp [results, hf, go_sem, h4, h5, k0, k1, k2, k3, k4, k5, k6, k7, k8, k9, k10, k11]

set_option maxRecDepth 100000 in
set_option maxHeartbeats 4000000 in
theorem lk_read_2 (a : Option Addr) (n c : Nat) (bs : List Nat) (x0 x1 x2 : Nat) (w : World) (hr : Rd w a n bs) (hbs : bs = SealM.sealed 2 (lebs [x0, x1, x2])) (hnc : n ≤ c) (h0 : 1 ≤ x0 ∧ x0 ≤ 1073741824) (h1 : x1 ≤ 1073741824) (h2 : 1 ≤ x2 ∧ x2 ≤ 1099511627776) (ht : Tab w) (hw0 : 0 < w.heap.size) :
    Calls Tryd.prog 23 #[.slice a n c] w fun e w' => e = .returned (.tuple #[.agg #[.int .u8 2, .int .i64 (x0 : Int), .int .i64 (x1 : Int), .int .i64 (x2 : Int), .int .i64 0, .int .i64 0, .int .i64 0, .int .i64 0, .int .i64 0, .int .i64 0, .slice none 0 0, .slice none 0 0], .int .i64 0]) ∧ Below w.heap.size w w' := by
  obtain ⟨B, hB⟩ : ∃ B, B = lebs [x0, x1, x2] := ⟨_, rfl⟩
  have HBE : Hid (B = lebs [x0, x1, x2]) := hB
  obtain ⟨q, hq⟩ : ∃ q, q = B.length := ⟨_, rfl⟩
  have HQ : Hid (q = B.length) := hq
  have hq30 : q ≤ 30 := by have := lebs_len [x0, x1, x2]; rw [hq, hB]; simpa using this
  rw [← hB] at hbs
  have HSZ : Hid (n = q + 8) := by have h := hr.size; rw [hbs, SealM.sealed_length, ← hq] at h; exact h.symm
  have hn38 : n ≤ 38 := by have := HSZ.out; omega
  have hby : ∀ y ∈ B, y < 256 := by rw [hB]; exact lebs_byte (by intro n hn; simp only [List.mem_cons, List.not_mem_nil, or_false] at hn; omega)
  have HR : Hid (Rd w a n bs) := hr
  have HOK : Hid (SealM.opn (bs.drop 0) = 0 ∧ (bs.drop 0).getD 1 0 = 2 ∧ SealM.blen (bs.drop 0) = q ∧ ((bs.drop 0).drop 4).take q = B) := by
    have h1 := SealM.opn_sealed 2 B [] (by omega) hby (by omega)
    have h2 := SealM.kind_sealed 2 B []
    have h3 := SealM.blen_sealed 2 B []
    have h4 := SealM.body_sealed 2 B []
    rw [List.append_nil] at h1 h2 h3 h4
    rw [List.drop_zero, hbs]
    exact ⟨h1, h2, by rw [h3, hq], by rw [hq]; exact h4⟩
  have HT : Hid (Tab w) := ht
  obtain ⟨W0, HW0⟩ : ∃ W0, Hid (W0 = w.alloc (.cells #[.int .u8 0, .int .i64 0, .int .i64 0, .int .i64 0, .int .i64 0, .int .i64 0, .int .i64 0, .int .i64 0, .int .i64 0, .int .i64 0, .slice none 0 0, .slice none 0 0] 78)) := ⟨_, rfl⟩
  have HB0 : Hid (Below w.heap.size w W0) := by rw [HW0.out]; exact below_new _ _
  have HK0 : Hid (Bk W0 w.heap.size #[.int .u8 0, .int .i64 0, .int .i64 0, .int .i64 0, .int .i64 0, .int .i64 0, .int .i64 0, .int .i64 0, .int .i64 0, .int .i64 0, .slice none 0 0, .slice none 0 0] 78) := by rw [HW0.out]; exact Bk.new _ _ _
  have HS0 : Hid (W0.heap.size = w.heap.size + 1) := by show _ = _; rw [HW0.out]; simp
  clear hr hbs hB hq hby ht
  go_enter Tryd.func23, Tryd.ntmps23
  go_wp2_with fail
  rw [← HW0.out]
  refine (seal_Open_good a n c bs 0 W0 (HR.out.below HB0.out) hnc (by omega) (by omega) (HT.out.below hw0 HB0.out) (Nat.lt_of_lt_of_le hw0 HB0.out.size) HOK.out.1 2 q HOK.out.2.1 HOK.out.2.2.1 B HOK.out.2.2.2).mono ?_
  rintro e w1 ⟨gb, he, ho1, hb1⟩
  rw [show (0 + q + 8 : Nat) = n from by have := HSZ.out; omega] at he
  subst he
  have HB1 : Hid (Below w.heap.size w w1) := HB0.out.trans (hb1.mono HB0.out.size)
  have HK1 : Hid (Bk w1 w.heap.size #[.int .u8 0, .int .i64 0, .int .i64 0, .int .i64 0, .int .i64 0, .int .i64 0, .int .i64 0, .int .i64 0, .int .i64 0, .int .i64 0, .slice none 0 0, .slice none 0 0] 78) := HK0.out.stay hb1
  obtain ⟨w3, HW3⟩ : ∃ w3, Hid (w3 = (w1.alloc (.cells #[.int .u8 2, .int .i64 0, .slice (some ⟨gb, 0, none⟩) q q] 95)).alloc (.cells #[.int .u8 2, .int .i64 0, .int .i64 0, .int .i64 0, .int .i64 0, .int .i64 0, .int .i64 0, .int .i64 0, .int .i64 0, .int .i64 0, .slice none 0 0, .slice none 0 0] 78)) := ⟨_, rfl⟩
  have hb3 : Below w1.heap.size w1 w3 := by rw [HW3.out]; exact (below_new w1 _).alloc (by simp) _
  have HF3 : Hid (Bk w3 (w1.heap.size + 1) #[.int .u8 2, .int .i64 0, .int .i64 0, .int .i64 0, .int .i64 0, .int .i64 0, .int .i64 0, .int .i64 0, .int .i64 0, .int .i64 0, .slice none 0 0, .slice none 0 0] 78) := by
    rw [HW3.out]
    have h := Bk.new (w1.alloc (.cells #[.int .u8 2, .int .i64 0, .slice (some ⟨gb, 0, none⟩) q q] 95)) #[.int .u8 2, .int .i64 0, .int .i64 0, .int .i64 0, .int .i64 0, .int .i64 0, .int .i64 0, .int .i64 0, .int .i64 0, .int .i64 0, .slice none 0 0, .slice none 0 0] 78
    rw [show (w1.alloc (.cells #[.int .u8 2, .int .i64 0, .slice (some ⟨gb, 0, none⟩) q q] 95)).heap.size = w1.heap.size + 1 from by simp] at h
    exact h
  have HK3 : Hid (Bk w3 w.heap.size #[.int .u8 0, .int .i64 0, .int .i64 0, .int .i64 0, .int .i64 0, .int .i64 0, .int .i64 0, .int .i64 0, .int .i64 0, .int .i64 0, .slice none 0 0, .slice none 0 0] 78) := HK1.out.stay hb3
  have HO3 : Hid (Own w3 W0.heap.size (some ⟨gb, 0, none⟩) q q B) := ho1.below hb3
  have HGB : Hid (gb < w1.heap.size) := by
    rcases ho1.row.2 with ⟨hv, _⟩ | ⟨g', c', cur, hv, _, hg, _⟩
    · cases hv
    · simp only [Value.slice.injEq, Option.some.injEq, Addr.mk.injEq] at hv
      rw [hv.1.1]
      exact (Array.getElem?_eq_some_iff.1 hg).1
  have HB3 : Hid (Below w.heap.size w w3) := HB1.out.trans (hb3.mono HB1.out.size)
  have hnm := lk_numbers_ok (w1.heap.size + 1) 2 gb 0 q q x0 x1 x2 B [] w3 HF3.out HO3.out.rd (by rw [List.append_nil]; exact HBE.out) (by have := HGB.out; omega) (Nat.le_refl _) (by omega) h0 h1 h2
  have HNM : Hid (Calls Tryd.prog 36 #[.pointer (some ⟨w1.heap.size + 1, 0, none⟩), .slice (some ⟨gb, 0, none⟩) q q] w3 fun e w' => (∃ a' c', e = .returned (.tuple #[.slice a' 0 c', .int .i64 0])) ∧ Hid (Bk w' (w1.heap.size + 1) #[.int .u8 2, .int .i64 (x0 : Int), .int .i64 (x1 : Int), .int .i64 (x2 : Int), .int .i64 0, .int .i64 0, .int .i64 0, .int .i64 0, .int .i64 0, .int .i64 0, .slice none 0 0, .slice none 0 0] 78) ∧ w3.grownBy w' (some (w1.heap.size + 1))) := by
    refine hnm.mono ?_
    rintro e w' ⟨⟨a', c', h1, _⟩, h2, h3⟩
    exact ⟨⟨a', c', h1⟩, h2, h3⟩
  have hne : w.heap.size ≠ w1.heap.size + 1 := by have := HB1.out.size; omega
  clear hb1 hb3 ho1 hnm
  go_wp2_with fail
  rw [← HW3.out]
  refine HNM.out.mono ?_
  rintro e w4 ⟨⟨a', c', he⟩, HF4, hg4⟩
  subst he
  have HK4 : Hid (Bk w4 w.heap.size #[.int .u8 0, .int .i64 0, .int .i64 0, .int .i64 0, .int .i64 0, .int .i64 0, .int .i64 0, .int .i64 0, .int .i64 0, .int .i64 0, .slice none 0 0, .slice none 0 0] 78) := HK3.out.grown hg4 (by simpa using hne)
  have HB4 : Hid (Below w.heap.size w w4) := by
    have hb := HB3.out
    refine ⟨hg4.os.trans hb.os, hg4.tape.trans hb.tape, hg4.output.trans hb.output, Nat.le_trans hb.size hg4.size, fun j hj => ?_⟩
    rw [hg4.block j (Nat.lt_of_lt_of_le hj hb.size) (by have := HB1.out.size; simp; omega)]
    exact hb.block j hj
  clear hg4 HNM
  have y0 : w4.cell? ⟨w1.heap.size + 1, 0, none⟩ = some (.int .u8 2) := HF4.out.cell 0 rfl
  have y1 : w4.cell? ⟨w1.heap.size + 1, 1, none⟩ = some (.int .i64 (x0 : Int)) := HF4.out.cell 1 rfl
  have y2 : w4.cell? ⟨w1.heap.size + 1, 2, none⟩ = some (.int .i64 (x1 : Int)) := HF4.out.cell 2 rfl
  have y3 : w4.cell? ⟨w1.heap.size + 1, 3, none⟩ = some (.int .i64 (x2 : Int)) := HF4.out.cell 3 rfl
  have y4 : w4.cell? ⟨w1.heap.size + 1, 4, none⟩ = some (.int .i64 0) := HF4.out.cell 4 rfl
  have y5 : w4.cell? ⟨w1.heap.size + 1, 5, none⟩ = some (.int .i64 0) := HF4.out.cell 5 rfl
  have y6 : w4.cell? ⟨w1.heap.size + 1, 6, none⟩ = some (.int .i64 0) := HF4.out.cell 6 rfl
  have y7 : w4.cell? ⟨w1.heap.size + 1, 7, none⟩ = some (.int .i64 0) := HF4.out.cell 7 rfl
  have y8 : w4.cell? ⟨w1.heap.size + 1, 8, none⟩ = some (.int .i64 0) := HF4.out.cell 8 rfl
  have y9 : w4.cell? ⟨w1.heap.size + 1, 9, none⟩ = some (.int .i64 0) := HF4.out.cell 9 rfl
  have y10 : w4.cell? ⟨w1.heap.size + 1, 10, none⟩ = some (.slice none 0 0) := HF4.out.cell 10 rfl
  have y11 : w4.cell? ⟨w1.heap.size + 1, 11, none⟩ = some (.slice none 0 0) := HF4.out.cell 11 rfl
  have z0 : w4.cell? ⟨w.heap.size, 0, none⟩ = some (.int .u8 0) := HK4.out.cell 0 rfl
  have z1 : w4.cell? ⟨w.heap.size, 1, none⟩ = some (.int .i64 0) := HK4.out.cell 1 rfl
  have z2 : w4.cell? ⟨w.heap.size, 2, none⟩ = some (.int .i64 0) := HK4.out.cell 2 rfl
  have z3 : w4.cell? ⟨w.heap.size, 3, none⟩ = some (.int .i64 0) := HK4.out.cell 3 rfl
  have z4 : w4.cell? ⟨w.heap.size, 4, none⟩ = some (.int .i64 0) := HK4.out.cell 4 rfl
  have z5 : w4.cell? ⟨w.heap.size, 5, none⟩ = some (.int .i64 0) := HK4.out.cell 5 rfl
  have z6 : w4.cell? ⟨w.heap.size, 6, none⟩ = some (.int .i64 0) := HK4.out.cell 6 rfl
  have z7 : w4.cell? ⟨w.heap.size, 7, none⟩ = some (.int .i64 0) := HK4.out.cell 7 rfl
  have z8 : w4.cell? ⟨w.heap.size, 8, none⟩ = some (.int .i64 0) := HK4.out.cell 8 rfl
  have z9 : w4.cell? ⟨w.heap.size, 9, none⟩ = some (.int .i64 0) := HK4.out.cell 9 rfl
  have z10 : w4.cell? ⟨w.heap.size, 10, none⟩ = some (.slice none 0 0) := HK4.out.cell 10 rfl
  have z11 : w4.cell? ⟨w.heap.size, 11, none⟩ = some (.slice none 0 0) := HK4.out.cell 11 rfl
  have fr : ∀ i, w4.frozen? ⟨w.heap.size, i, none⟩ = false := fun i => HK4.out.free i
  go_wp2
  try simp only [Exit.inBlock, Exit.then]
  change bodyPost _ _ _ _ _ (set12 w4 w.heap.size (.int .u8 2) (.int .i64 (x0 : Int)) (.int .i64 (x1 : Int)) (.int .i64 (x2 : Int)) (.int .i64 0) (.int .i64 0) (.int .i64 0) (.int .i64 0) (.int .i64 0) (.int .i64 0) (.slice none 0 0) (.slice none 0 0))
  refine bodyPost_ret (results_frame rfl (by rfl) (by rfl) (HK4.out.set12 (.int .u8 2) (.int .i64 (x0 : Int)) (.int .i64 (x1 : Int)) (.int .i64 (x2 : Int)) (.int .i64 0) (.int .i64 0) (.int .i64 0) (.int .i64 0) (.int .i64 0) (.int .i64 0) (.slice none 0 0) (.slice none 0 0))) rfl ?_
  exact ⟨rfl, set12_below HB4.out _ (Nat.le_refl _) (.int .u8 2) (.int .i64 (x0 : Int)) (.int .i64 (x1 : Int)) (.int .i64 (x2 : Int)) (.int .i64 0) (.int .i64 0) (.int .i64 0) (.int .i64 0) (.int .i64 0) (.int .i64 0) (.slice none 0 0) (.slice none 0 0)⟩

set_option maxRecDepth 100000 in
set_option maxHeartbeats 4000000 in
theorem lk_read_3 (a : Option Addr) (n c : Nat) (bs : List Nat) (x0 x1 x2 : Nat) (w : World) (hr : Rd w a n bs) (hbs : bs = SealM.sealed 3 (lebs [x0, x1, x2])) (hnc : n ≤ c) (h0 : 1 ≤ x0 ∧ x0 ≤ 1073741824) (h1 : x1 ≤ 1073741824) (h2 : 1 ≤ x2 ∧ x2 ≤ 1099511627776) (ht : Tab w) (hw0 : 0 < w.heap.size) :
    Calls Tryd.prog 23 #[.slice a n c] w fun e w' => e = .returned (.tuple #[.agg #[.int .u8 3, .int .i64 (x0 : Int), .int .i64 (x1 : Int), .int .i64 (x2 : Int), .int .i64 0, .int .i64 0, .int .i64 0, .int .i64 0, .int .i64 0, .int .i64 0, .slice none 0 0, .slice none 0 0], .int .i64 0]) ∧ Below w.heap.size w w' := by
  obtain ⟨B, hB⟩ : ∃ B, B = lebs [x0, x1, x2] := ⟨_, rfl⟩
  have HBE : Hid (B = lebs [x0, x1, x2]) := hB
  obtain ⟨q, hq⟩ : ∃ q, q = B.length := ⟨_, rfl⟩
  have HQ : Hid (q = B.length) := hq
  have hq30 : q ≤ 30 := by have := lebs_len [x0, x1, x2]; rw [hq, hB]; simpa using this
  rw [← hB] at hbs
  have HSZ : Hid (n = q + 8) := by have h := hr.size; rw [hbs, SealM.sealed_length, ← hq] at h; exact h.symm
  have hn38 : n ≤ 38 := by have := HSZ.out; omega
  have hby : ∀ y ∈ B, y < 256 := by rw [hB]; exact lebs_byte (by intro n hn; simp only [List.mem_cons, List.not_mem_nil, or_false] at hn; omega)
  have HR : Hid (Rd w a n bs) := hr
  have HOK : Hid (SealM.opn (bs.drop 0) = 0 ∧ (bs.drop 0).getD 1 0 = 3 ∧ SealM.blen (bs.drop 0) = q ∧ ((bs.drop 0).drop 4).take q = B) := by
    have h1 := SealM.opn_sealed 3 B [] (by omega) hby (by omega)
    have h2 := SealM.kind_sealed 3 B []
    have h3 := SealM.blen_sealed 3 B []
    have h4 := SealM.body_sealed 3 B []
    rw [List.append_nil] at h1 h2 h3 h4
    rw [List.drop_zero, hbs]
    exact ⟨h1, h2, by rw [h3, hq], by rw [hq]; exact h4⟩
  have HT : Hid (Tab w) := ht
  obtain ⟨W0, HW0⟩ : ∃ W0, Hid (W0 = w.alloc (.cells #[.int .u8 0, .int .i64 0, .int .i64 0, .int .i64 0, .int .i64 0, .int .i64 0, .int .i64 0, .int .i64 0, .int .i64 0, .int .i64 0, .slice none 0 0, .slice none 0 0] 78)) := ⟨_, rfl⟩
  have HB0 : Hid (Below w.heap.size w W0) := by rw [HW0.out]; exact below_new _ _
  have HK0 : Hid (Bk W0 w.heap.size #[.int .u8 0, .int .i64 0, .int .i64 0, .int .i64 0, .int .i64 0, .int .i64 0, .int .i64 0, .int .i64 0, .int .i64 0, .int .i64 0, .slice none 0 0, .slice none 0 0] 78) := by rw [HW0.out]; exact Bk.new _ _ _
  have HS0 : Hid (W0.heap.size = w.heap.size + 1) := by show _ = _; rw [HW0.out]; simp
  clear hr hbs hB hq hby ht
  go_enter Tryd.func23, Tryd.ntmps23
  go_wp2_with fail
  rw [← HW0.out]
  refine (seal_Open_good a n c bs 0 W0 (HR.out.below HB0.out) hnc (by omega) (by omega) (HT.out.below hw0 HB0.out) (Nat.lt_of_lt_of_le hw0 HB0.out.size) HOK.out.1 3 q HOK.out.2.1 HOK.out.2.2.1 B HOK.out.2.2.2).mono ?_
  rintro e w1 ⟨gb, he, ho1, hb1⟩
  rw [show (0 + q + 8 : Nat) = n from by have := HSZ.out; omega] at he
  subst he
  have HB1 : Hid (Below w.heap.size w w1) := HB0.out.trans (hb1.mono HB0.out.size)
  have HK1 : Hid (Bk w1 w.heap.size #[.int .u8 0, .int .i64 0, .int .i64 0, .int .i64 0, .int .i64 0, .int .i64 0, .int .i64 0, .int .i64 0, .int .i64 0, .int .i64 0, .slice none 0 0, .slice none 0 0] 78) := HK0.out.stay hb1
  obtain ⟨w3, HW3⟩ : ∃ w3, Hid (w3 = (w1.alloc (.cells #[.int .u8 3, .int .i64 0, .slice (some ⟨gb, 0, none⟩) q q] 95)).alloc (.cells #[.int .u8 3, .int .i64 0, .int .i64 0, .int .i64 0, .int .i64 0, .int .i64 0, .int .i64 0, .int .i64 0, .int .i64 0, .int .i64 0, .slice none 0 0, .slice none 0 0] 78)) := ⟨_, rfl⟩
  have hb3 : Below w1.heap.size w1 w3 := by rw [HW3.out]; exact (below_new w1 _).alloc (by simp) _
  have HF3 : Hid (Bk w3 (w1.heap.size + 1) #[.int .u8 3, .int .i64 0, .int .i64 0, .int .i64 0, .int .i64 0, .int .i64 0, .int .i64 0, .int .i64 0, .int .i64 0, .int .i64 0, .slice none 0 0, .slice none 0 0] 78) := by
    rw [HW3.out]
    have h := Bk.new (w1.alloc (.cells #[.int .u8 3, .int .i64 0, .slice (some ⟨gb, 0, none⟩) q q] 95)) #[.int .u8 3, .int .i64 0, .int .i64 0, .int .i64 0, .int .i64 0, .int .i64 0, .int .i64 0, .int .i64 0, .int .i64 0, .int .i64 0, .slice none 0 0, .slice none 0 0] 78
    rw [show (w1.alloc (.cells #[.int .u8 3, .int .i64 0, .slice (some ⟨gb, 0, none⟩) q q] 95)).heap.size = w1.heap.size + 1 from by simp] at h
    exact h
  have HK3 : Hid (Bk w3 w.heap.size #[.int .u8 0, .int .i64 0, .int .i64 0, .int .i64 0, .int .i64 0, .int .i64 0, .int .i64 0, .int .i64 0, .int .i64 0, .int .i64 0, .slice none 0 0, .slice none 0 0] 78) := HK1.out.stay hb3
  have HO3 : Hid (Own w3 W0.heap.size (some ⟨gb, 0, none⟩) q q B) := ho1.below hb3
  have HGB : Hid (gb < w1.heap.size) := by
    rcases ho1.row.2 with ⟨hv, _⟩ | ⟨g', c', cur, hv, _, hg, _⟩
    · cases hv
    · simp only [Value.slice.injEq, Option.some.injEq, Addr.mk.injEq] at hv
      rw [hv.1.1]
      exact (Array.getElem?_eq_some_iff.1 hg).1
  have HB3 : Hid (Below w.heap.size w w3) := HB1.out.trans (hb3.mono HB1.out.size)
  have hnm := lk_numbers_ok (w1.heap.size + 1) 3 gb 0 q q x0 x1 x2 B [] w3 HF3.out HO3.out.rd (by rw [List.append_nil]; exact HBE.out) (by have := HGB.out; omega) (Nat.le_refl _) (by omega) h0 h1 h2
  have HNM : Hid (Calls Tryd.prog 36 #[.pointer (some ⟨w1.heap.size + 1, 0, none⟩), .slice (some ⟨gb, 0, none⟩) q q] w3 fun e w' => (∃ a' c', e = .returned (.tuple #[.slice a' 0 c', .int .i64 0])) ∧ Hid (Bk w' (w1.heap.size + 1) #[.int .u8 3, .int .i64 (x0 : Int), .int .i64 (x1 : Int), .int .i64 (x2 : Int), .int .i64 0, .int .i64 0, .int .i64 0, .int .i64 0, .int .i64 0, .int .i64 0, .slice none 0 0, .slice none 0 0] 78) ∧ w3.grownBy w' (some (w1.heap.size + 1))) := by
    refine hnm.mono ?_
    rintro e w' ⟨⟨a', c', h1, _⟩, h2, h3⟩
    exact ⟨⟨a', c', h1⟩, h2, h3⟩
  have hne : w.heap.size ≠ w1.heap.size + 1 := by have := HB1.out.size; omega
  clear hb1 hb3 ho1 hnm
  go_wp2_with fail
  rw [← HW3.out]
  refine HNM.out.mono ?_
  rintro e w4 ⟨⟨a', c', he⟩, HF4, hg4⟩
  subst he
  have HK4 : Hid (Bk w4 w.heap.size #[.int .u8 0, .int .i64 0, .int .i64 0, .int .i64 0, .int .i64 0, .int .i64 0, .int .i64 0, .int .i64 0, .int .i64 0, .int .i64 0, .slice none 0 0, .slice none 0 0] 78) := HK3.out.grown hg4 (by simpa using hne)
  have HB4 : Hid (Below w.heap.size w w4) := by
    have hb := HB3.out
    refine ⟨hg4.os.trans hb.os, hg4.tape.trans hb.tape, hg4.output.trans hb.output, Nat.le_trans hb.size hg4.size, fun j hj => ?_⟩
    rw [hg4.block j (Nat.lt_of_lt_of_le hj hb.size) (by have := HB1.out.size; simp; omega)]
    exact hb.block j hj
  clear hg4 HNM
  have y0 : w4.cell? ⟨w1.heap.size + 1, 0, none⟩ = some (.int .u8 3) := HF4.out.cell 0 rfl
  have y1 : w4.cell? ⟨w1.heap.size + 1, 1, none⟩ = some (.int .i64 (x0 : Int)) := HF4.out.cell 1 rfl
  have y2 : w4.cell? ⟨w1.heap.size + 1, 2, none⟩ = some (.int .i64 (x1 : Int)) := HF4.out.cell 2 rfl
  have y3 : w4.cell? ⟨w1.heap.size + 1, 3, none⟩ = some (.int .i64 (x2 : Int)) := HF4.out.cell 3 rfl
  have y4 : w4.cell? ⟨w1.heap.size + 1, 4, none⟩ = some (.int .i64 0) := HF4.out.cell 4 rfl
  have y5 : w4.cell? ⟨w1.heap.size + 1, 5, none⟩ = some (.int .i64 0) := HF4.out.cell 5 rfl
  have y6 : w4.cell? ⟨w1.heap.size + 1, 6, none⟩ = some (.int .i64 0) := HF4.out.cell 6 rfl
  have y7 : w4.cell? ⟨w1.heap.size + 1, 7, none⟩ = some (.int .i64 0) := HF4.out.cell 7 rfl
  have y8 : w4.cell? ⟨w1.heap.size + 1, 8, none⟩ = some (.int .i64 0) := HF4.out.cell 8 rfl
  have y9 : w4.cell? ⟨w1.heap.size + 1, 9, none⟩ = some (.int .i64 0) := HF4.out.cell 9 rfl
  have y10 : w4.cell? ⟨w1.heap.size + 1, 10, none⟩ = some (.slice none 0 0) := HF4.out.cell 10 rfl
  have y11 : w4.cell? ⟨w1.heap.size + 1, 11, none⟩ = some (.slice none 0 0) := HF4.out.cell 11 rfl
  have z0 : w4.cell? ⟨w.heap.size, 0, none⟩ = some (.int .u8 0) := HK4.out.cell 0 rfl
  have z1 : w4.cell? ⟨w.heap.size, 1, none⟩ = some (.int .i64 0) := HK4.out.cell 1 rfl
  have z2 : w4.cell? ⟨w.heap.size, 2, none⟩ = some (.int .i64 0) := HK4.out.cell 2 rfl
  have z3 : w4.cell? ⟨w.heap.size, 3, none⟩ = some (.int .i64 0) := HK4.out.cell 3 rfl
  have z4 : w4.cell? ⟨w.heap.size, 4, none⟩ = some (.int .i64 0) := HK4.out.cell 4 rfl
  have z5 : w4.cell? ⟨w.heap.size, 5, none⟩ = some (.int .i64 0) := HK4.out.cell 5 rfl
  have z6 : w4.cell? ⟨w.heap.size, 6, none⟩ = some (.int .i64 0) := HK4.out.cell 6 rfl
  have z7 : w4.cell? ⟨w.heap.size, 7, none⟩ = some (.int .i64 0) := HK4.out.cell 7 rfl
  have z8 : w4.cell? ⟨w.heap.size, 8, none⟩ = some (.int .i64 0) := HK4.out.cell 8 rfl
  have z9 : w4.cell? ⟨w.heap.size, 9, none⟩ = some (.int .i64 0) := HK4.out.cell 9 rfl
  have z10 : w4.cell? ⟨w.heap.size, 10, none⟩ = some (.slice none 0 0) := HK4.out.cell 10 rfl
  have z11 : w4.cell? ⟨w.heap.size, 11, none⟩ = some (.slice none 0 0) := HK4.out.cell 11 rfl
  have fr : ∀ i, w4.frozen? ⟨w.heap.size, i, none⟩ = false := fun i => HK4.out.free i
  go_wp2
  try simp only [Exit.inBlock, Exit.then]
  change bodyPost _ _ _ _ _ (set12 w4 w.heap.size (.int .u8 3) (.int .i64 (x0 : Int)) (.int .i64 (x1 : Int)) (.int .i64 (x2 : Int)) (.int .i64 0) (.int .i64 0) (.int .i64 0) (.int .i64 0) (.int .i64 0) (.int .i64 0) (.slice none 0 0) (.slice none 0 0))
  refine bodyPost_ret (results_frame rfl (by rfl) (by rfl) (HK4.out.set12 (.int .u8 3) (.int .i64 (x0 : Int)) (.int .i64 (x1 : Int)) (.int .i64 (x2 : Int)) (.int .i64 0) (.int .i64 0) (.int .i64 0) (.int .i64 0) (.int .i64 0) (.int .i64 0) (.slice none 0 0) (.slice none 0 0))) rfl ?_
  exact ⟨rfl, set12_below HB4.out _ (Nat.le_refl _) (.int .u8 3) (.int .i64 (x0 : Int)) (.int .i64 (x1 : Int)) (.int .i64 (x2 : Int)) (.int .i64 0) (.int .i64 0) (.int .i64 0) (.int .i64 0) (.int .i64 0) (.int .i64 0) (.slice none 0 0) (.slice none 0 0)⟩
end Go.Proofs.YtbloomepdchjhaaDoor
/- link.window's has and add, accept: of a link's first frame of a life. -/
namespace Go.Proofs.YtbloomepdchjhaaDoor
open Go.RowKit

theorem Bk.fr {w w' : World} {g k : Nat} {v : Value} {cs : Array Value} {t : TypeId} (h : Bk w k cs t) (hf : Fr w w' g v) (hg : k ≠ g) (hv : some k ≠ v.ownBlock) : Bk w' k cs t := by
  unfold Bk
  rw [hf.blk k h.lt hg hv]
  exact h
theorem cells_three (l : Lk) (v : Value) (x y : Int) (b : Nat) : (((l.cells v).setIfInBounds 1 (.int .i64 x)).setIfInBounds 5 (.int .i64 y)).setIfInBounds 6 (.int .u64 (b : Int)) = Lk.cells { l with other := x, great := y, bits_ := b } v := rfl
theorem cells_add (l : Lk) (v : Value) (u : Value) (y : Int) (b : Nat) : (((l.cells v).setIfInBounds 6 u).setIfInBounds 5 (.int .i64 y)).setIfInBounds 6 (.int .u64 (b : Int)) = Lk.cells { l with great := y, bits_ := b } v := rfl
/-- A link whose block alone has turned. -/
theorem LkIn.turned {w w' : World} {base g : Nat} {wv : Value} {L : List (Wt × Bd)} {l l' : Lk} (h : LkIn w base g wv L l) (hb : Bk w' g (l'.cells wv) 65) (hs : w.heap.size ≤ w'.heap.size) (hf : ∀ (k : Nat), k < w.heap.size → k ≠ g → w'.heap[k]? = w.heap[k]?) : LkIn w' base g wv L l' := by
  have hne : ∀ (k : Nat) (cs : Array Value) (t : TypeId) (m : Nat × Nat), w.heap[k]? = some (.cells cs t m) → t ≠ 65 → w'.heap[k]? = some (.cells cs t m) := fun k cs t m hk ht => by
    rw [hf k (Array.getElem?_eq_some_iff.1 hk).1 (fun e => ?_)]
    · exact hk
    · subst e
      have h1 := h.blk
      unfold Bk at h1
      rw [h1] at hk
      simp only [Option.some.injEq, Obj.cells.injEq] at hk
      exact ht hk.2.1.symm
  refine ⟨hb, ⟨h.row.1, ?_⟩, fun x hx => ⟨(h.rest x hx).1, own_kept (h.rest x hx).2 fun k cs m hk => hne k cs _ m hk (by decide)⟩, Nat.le_trans h.bg hs⟩
  rcases h.row.2 with hn | ⟨g', c, cur, hv, hbg, hg, r⟩
  · exact .inl hn
  · exact .inr ⟨g', c, cur, hv, hbg, hne g' cur _ _ hg (by decide), r⟩
theorem LkIn.three {w : World} {base g : Nat} {wv : Value} {L : List (Wt × Bd)} {l : Lk} (h : LkIn w base g wv L l) (x : Int) : LkIn (((w.setCell ⟨g, 1, none⟩ (.int .i64 x)).setCell ⟨g, 5, none⟩ (.int .i64 0)).setCell ⟨g, 6, none⟩ (.int .u64 0)) base g wv L { l with other := x, great := 0, bits_ := 0 } := by
  refine h.turned ?_ (by simp) fun k hk hg => ?_
  · have h1 := ((h.blk.set 1 (.int .i64 x)).set 5 (.int .i64 0)).set 6 (.int .u64 ((0 : Nat) : Int))
    rw [cells_three] at h1
    exact h1
  · rw [heap_setCell_other _ ⟨g, 6, none⟩ k _ hg, heap_setCell_other _ ⟨g, 5, none⟩ k _ hg, heap_setCell_other _ ⟨g, 1, none⟩ k _ hg]



end Go.Proofs.YtbloomepdchjhaaDoor
/- link.Take of a probe and of an answer; Probe, Alive, Lives. -/
namespace Go.Proofs.YtbloomepdchjhaaDoor
open Go.RowKit

theorem cells_heard (l : Lk) (v : Value) (n : Int) : (l.cells v).setIfInBounds 7 (.int .i64 n) = Lk.cells { l with heard := n } v := rfl
theorem LkIn.heard_ {w : World} {base g : Nat} {wv : Value} {L : List (Wt × Bd)} {l : Lk} (h : LkIn w base g wv L l) (n : Int) : LkIn (w.setCell ⟨g, 7, none⟩ (.int .i64 n)) base g wv L { l with heard := n } := by
  refine h.turned ?_ (by simp) fun k hk hg => heap_setCell_other _ ⟨g, 7, none⟩ k _ hg
  have h1 := h.blk.set 7 (.int .i64 n)
  rw [cells_heard] at h1
  exact h1
theorem LkIn.away {w w' : World} {base g R : Nat} {wv : Value} {L : List (Wt × Bd)} {l : Lk} (h : LkIn w base g wv L l) (hs : w.heap.size ≤ w'.heap.size) (hf : ∀ k, k ≠ R → w'.heap[k]? = w.heap[k]?) {cs : Array Value} {t : TypeId} (hR : Bk w R cs t) (h1 : t ≠ 65) (h2 : t ≠ 70) (h3 : t ≠ 5) : LkIn w' base g wv L l := by
  have hne : ∀ (k : Nat) (cs' : Array Value) (t' : TypeId) (m : Nat × Nat), w.heap[k]? = some (.cells cs' t' m) → t ≠ t' → w'.heap[k]? = some (.cells cs' t' m) := fun k cs' t' m hk ht => by
    rw [hf k (fun e => ?_)]
    · exact hk
    · subst e
      unfold Bk at hR
      rw [hR] at hk
      simp only [Option.some.injEq, Obj.cells.injEq] at hk
      exact ht hk.2.1
  refine ⟨hne g _ _ _ h.blk h1, ⟨h.row.1, ?_⟩, fun x hx => ⟨(h.rest x hx).1, own_kept (h.rest x hx).2 fun k cs' m hk => hne k cs' _ m hk h3⟩, Nat.le_trans h.bg hs⟩
  rcases h.row.2 with hn | ⟨g', c, cur, hv, hbg, hg, r⟩
  · exact .inl hn
  · exact .inr ⟨g', c, cur, hv, hbg, hne g' cur _ _ hg h2, r⟩
theorem set8_size (w : World) (g : Nat) (v0 v1 v2 v3 v4 v5 v6 v7 : Value) : (set8 w g v0 v1 v2 v3 v4 v5 v6 v7).heap.size = w.heap.size := by unfold set8; simp
theorem Fr.set8_new {w w' : World} {g R : Nat} {v v0 v1 v2 v3 v4 v5 v6 v7 : Value} (h : Fr w w' g v) (hR : w.heap.size ≤ R) : Fr w (set8 w' R v0 v1 v2 v3 v4 v5 v6 v7) g v :=
  ⟨set8_below h.all R (Nat.zero_le _) v0 v1 v2 v3 v4 v5 v6 v7, fun k hk h3 h4 => (set8_other w' R v0 v1 v2 v3 v4 v5 v6 v7 k (by omega)).trans (h.blk k hk h3 h4)⟩
theorem results_take {f : Func} {w : World} {tmps : Array Value} {g : Nat} {t : TypeId} {v0 v1 v2 v3 v4 v5 v6 v7 e d : Value} (hf : f.results = #[.cell 6 37, .tmp 7, .tmp 8]) (h4 : tmps[6]?.getD undef = .pointer (some ⟨g, 0, none⟩)) (h5 : tmps[7]?.getD undef = e) (h6 : tmps[8]?.getD undef = d)
    (k : Bk w g #[v0, v1, v2, v3, v4, v5, v6, v7] t) : (results f tmps).run Tryd.prog w = .ok (.tuple #[.agg #[v0, v1, v2, v3, v4, v5, v6, v7], e, d]) w := by
  have k0 := k.cell 0 rfl
  have k1 := k.cell 1 rfl
  have k2 := k.cell 2 rfl
  have k3 := k.cell 3 rfl
  have k4 := k.cell 4 rfl
  have k5 := k.cell 5 rfl
  have k6 := k.cell 6 rfl
  have k7 := k.cell 7 rfl
  simp [results, hf, go_sem, h4, h5, h6, k0, k1, k2, k3, k4, k5, k6, k7]


end Go.Proofs.YtbloomepdchjhaaDoor
/- Two links, one beside the other; Probe, Alive, Lives. -/
namespace Go.Proofs.YtbloomepdchjhaaDoor
open Go.RowKit

/-- What another link's call does leaves a link as it was. -/
theorem LkIn.beside {w w' : World} {b1 g1 b2 g2 : Nat} {v1 v2 : Value} {L1 L2 : List (Wt × Bd)} {l1 l2 : Lk} (h : LkIn w b1 g1 v1 L1 l1) (h2 : LkIn w b2 g2 v2 L2 l2) (hg : g1 ≠ g2) (hv : ∀ k, v1.ownBlock = some k → v2.ownBlock ≠ some k) (hf : Fr w w' g2 v2) : LkIn w' b1 g1 v1 L1 l1 := by
  have hne : ∀ (k : Nat) (cs : Array Value) (t : TypeId) (m : Nat × Nat), w.heap[k]? = some (.cells cs t m) → t ≠ 65 → t ≠ 70 → w'.heap[k]? = some (.cells cs t m) := fun k cs t m hk ht ht2 => by
    rw [hf.blk k (Array.getElem?_eq_some_iff.1 hk).1 (fun e => ?_) (row_type h2.row hk ht2)]
    · exact hk
    · subst e
      have h3 := h2.blk
      unfold Bk at h3
      rw [h3] at hk
      simp only [Option.some.injEq, Obj.cells.injEq] at hk
      exact ht hk.2.1.symm
  refine ⟨h.blk.fr hf hg (row_type h2.row h.blk (by decide)), ⟨h.row.1, ?_⟩, fun x hx => ⟨(h.rest x hx).1, own_kept (h.rest x hx).2 fun k cs m hk => hne k cs _ m hk (by decide) (by decide)⟩, Nat.le_trans h.bg hf.all.size⟩
  rcases h.row.2 with hn | ⟨g', c, cur, hv1, hbg, hgg, r⟩
  · exact .inl hn
  · refine .inr ⟨g', c, cur, hv1, hbg, ?_, r⟩
    rw [hf.blk g' (Array.getElem?_eq_some_iff.1 hgg).1 (fun e => ?_) (fun e => hv g' (by rw [hv1]; rfl) e.symm)]
    · exact hgg
    · subst e
      have h3 := h2.blk
      unfold Bk at h3
      rw [h3] at hgg
      simp only [Option.some.injEq, Obj.cells.injEq] at hgg
      exact absurd hgg.2.1 (by decide)
theorem LkIn.rebase {w : World} {b g : Nat} {l : Lk} (h : LkIn w b g (.slice none 0 0) [] l) : LkIn w w.heap.size g (.slice none 0 0) [] l := ⟨h.blk, World.ownsRow_nil _ _ _ _, fun x hx => (by cases hx), Nat.le_refl _⟩

set_option maxRecDepth 100000 in
set_option maxHeartbeats 1000000 in
theorem lk_Probe_ok (w : World) (base g : Nat) (wv : Value) (L : List (Wt × Bd)) (l : Lk) (h : LkIn w base g wv L l) (hq : (L.length : Int) < l.queue) (hl : L.length ≤ 1000) :
    Calls Tryd.prog 14 #[.pointer (some ⟨g, 0, none⟩)] w fun e w' => e = .returned (.int .i64 0) ∧ Hid (∃ v', LkIn w' base g v' (L ++ [((⟨2, []⟩ : Wt), ((none, 0, 0) : Bd))]) l) ∧ Fr w w' g wv := by
  have HL : Hid (LkIn w base g wv L l) := h
  have HO : Hid (Own w base none 0 0 []) := Own.none_ _ _
  clear h
  go_enter Tryd.func14, Tryd.ntmps14
  go_wp2_with fail
  refine (lk_wait_ok w base g wv L l HL.out 2 (by omega) none 0 0 [] HO.out hq hl).mono ?_
  rintro e w2 ⟨rfl, HL2, hf2⟩
  have HF2 : Hid (Fr w w2 g wv) := hf2
  clear hf2
  go_wp2
  go_ret
  exact ⟨rfl, HL2, HF2.out⟩
end Go.Proofs.YtbloomepdchjhaaDoor
/- link.window: has and add, of whatever numbers. -/
namespace Go.Proofs.YtbloomepdchjhaaDoor
open Go.RowKit

/-- Was a number taken, or is it too far below? -/
def hasW (gr b n : Nat) : Bool := if gr < n then false else if 64 ≤ gr - n then true else decide (b / 2 ^ (gr - n) % 2 = 1)
/-- A number is taken. -/
def addG (gr n : Nat) : Nat := if gr < n then n else gr
def addB (gr b n : Nat) : Nat := if gr < n then (b * 2 ^ (n - gr)) % 18446744073709551616 ||| 1 else b ||| 2 ^ (gr - n)

set_option maxRecDepth 100000 in
set_option maxHeartbeats 1000000 in
theorem lk_has (gr b n : Nat) (hg : gr ≤ 1099511627776) (hn : n ≤ 1099511627776) (hb : b < 18446744073709551616) (w : World) :
    Calls Tryd.prog 38 #[.agg #[.int .i64 (gr : Int), .int .u64 (b : Int)], .int .i64 (n : Int)] w fun e w' => e = .returned (.bool (hasW gr b n)) ∧ Below w.heap.size w w' := by
  have HB : ∀ o, Hid (Below w.heap.size w (w.alloc o)) := fun o => below_new _ _
  obtain ⟨R, HR⟩ : ∃ R, Hid (R = hasW gr b n) := ⟨_, rfl⟩
  rw [← HR.out]
  by_cases h1 : gr < n
  · have e1 : (gr : Int) - (n : Int) < 0 := by omega
    have HF : Hid (R = false) := by show _ = _; rw [HR.out, hasW, if_pos h1]
    clear HR
    go_enter Tryd.func38, Tryd.ntmps38
    go_wp2
    go_ret
    rw [HF.out]
    exact ⟨rfl, (HB _).out⟩
  · obtain ⟨d, hd⟩ : ∃ d, d = gr - n := ⟨_, rfl⟩
    have e0 : (gr : Int) - (n : Int) = (d : Int) := by omega
    have HD : Hid (d = gr - n) := hd
    have e1 : ¬ (d : Int) < 0 := by omega
    by_cases h2 : 64 ≤ d
    · have e2 : (64 : Int) ≤ (d : Int) := by omega
      have HF : Hid (R = true) := by show _ = _; rw [HR.out, hasW, if_neg h1, if_pos (by rw [← hd]; exact h2)]
      clear HR hd
      go_enter Tryd.func38, Tryd.ntmps38
      go_wp2
      go_ret
      rw [HF.out]
      exact ⟨rfl, (HB _).out⟩
    · have e2 : ¬ (64 : Int) ≤ (d : Int) := by omega
      obtain ⟨q, hq⟩ : ∃ q, q = b / 2 ^ d := ⟨_, rfl⟩
      have hqb : q < 18446744073709551616 := by rw [hq]; exact Nat.lt_of_le_of_lt (Nat.div_le_self _ _) hb
      have hs : Op.shift .shr .u64 (b : Int) .i64 (d : Int) = pure (.int .u64 (q : Int)) := by
        rw [shift_shr .u64 .i64 (b : Int) (d : Int) (by omega) (by show (d : Int) ≤ 64; omega), hq]
        simp
      have hs2 : (b : Int) / 2 ^ d = (q : Int) := by rw [hq]; simp
      have ha : bits BinOp.and IntKind.u64 (q : Int) 1 = ((q % 2 : Nat) : Int) := by
        have := u64_and_nat q 1 hqb (by omega)
        rw [Nat.and_one_is_mod] at this
        exact this
      have HF : Hid (R = decide (q % 2 = 1)) := by show _ = _; rw [HR.out, hasW, if_neg h1, if_neg (by rw [← hd]; exact h2), ← hd, ← hq]
      clear HR hd
      rcases Nat.mod_two_eq_zero_or_one q with hm | hm
      · rw [hm] at ha
        have HF2 : Hid (R = false) := by show _ = _; rw [HF.out, hm]; rfl
        clear HF hm hq
        go_enter Tryd.func38, Tryd.ntmps38
        go_wp2
        go_ret
        rw [HF2.out]
        exact ⟨rfl, (HB _).out⟩
      · rw [hm] at ha
        have HF2 : Hid (R = true) := by show _ = _; rw [HF.out, hm]; rfl
        clear HF hm hq
        go_enter Tryd.func38, Tryd.ntmps38
        go_wp2
        go_ret
        rw [HF2.out]
        exact ⟨rfl, (HB _).out⟩

/-- What was taken stays taken. -/
theorem hasW_add_self (gr b n : Nat) : hasW (addG gr n) (addB gr b n) n = true := by
  unfold addG addB
  by_cases h1 : gr < n
  · rw [if_pos h1, if_pos h1]
    unfold hasW
    rw [if_neg (by omega), if_neg (by omega), Nat.sub_self, Nat.pow_zero, Nat.div_one]
    simp only [decide_eq_true_eq]
    have h2 : Nat.testBit ((b * 2 ^ (n - gr)) % 18446744073709551616 ||| 1) 0 = true := by rw [Nat.testBit_or]; simp
    rw [Nat.testBit_zero] at h2
    exact of_decide_eq_true h2
  · rw [if_neg h1, if_neg h1]
    unfold hasW
    rw [if_neg h1]
    split
    · rfl
    · rename_i h2
      simp only [decide_eq_true_eq]
      have h3 : Nat.testBit (b ||| 2 ^ (gr - n)) (gr - n) = true := by rw [Nat.testBit_or, Nat.testBit_two_pow_self]; simp
      rw [Nat.testBit_eq_decide_div_mod_eq] at h3
      simpa using h3
theorem hasW_add_keeps (gr b n m : Nat) (hm : hasW gr b m = true) : hasW (addG gr n) (addB gr b n) m = true := by
  unfold addG addB
  unfold hasW at hm
  by_cases h1 : gr < m
  · rw [if_pos h1] at hm; cases hm
  · rw [if_neg h1] at hm
    by_cases h2 : gr < n
    · rw [if_pos h2, if_pos h2]
      unfold hasW
      rw [if_neg (by omega)]
      by_cases h3 : 64 ≤ n - m
      · rw [if_pos h3]
      · rw [if_neg h3]
        rw [if_neg (by omega)] at hm
        simp only [decide_eq_true_eq] at hm ⊢
        have h4 : Nat.testBit b (gr - m) = true := by rw [Nat.testBit_eq_decide_div_mod_eq]; simpa using hm
        have h5 : Nat.testBit ((b * 2 ^ (n - gr)) % 18446744073709551616 ||| 1) (n - m) = true := by
          rw [Nat.testBit_or, show (18446744073709551616 : Nat) = 2 ^ 64 from rfl, Nat.testBit_mod_two_pow, Nat.testBit_mul_two_pow]
          have e : n - m - (n - gr) = gr - m := by omega
          rw [e, h4]
          simp
          left
          omega
        rw [Nat.testBit_eq_decide_div_mod_eq] at h5
        simpa using h5
    · rw [if_neg h2, if_neg h2]
      unfold hasW
      rw [if_neg h1]
      split
      · rfl
      · rename_i h3
        rw [if_neg h3] at hm
        simp only [decide_eq_true_eq] at hm ⊢
        have h4 : Nat.testBit b (gr - m) = true := by rw [Nat.testBit_eq_decide_div_mod_eq]; simpa using hm
        have h5 : Nat.testBit (b ||| 2 ^ (gr - n)) (gr - m) = true := by rw [Nat.testBit_or, h4]; simp
        rw [Nat.testBit_eq_decide_div_mod_eq] at h5
        simpa using h5
end Go.Proofs.YtbloomepdchjhaaDoor
/- link.window's add, of whatever number was not taken. -/
namespace Go.Proofs.YtbloomepdchjhaaDoor
open Go.RowKit

theorem cells_win (l : Lk) (v : Value) (y : Int) (b : Nat) : ((l.cells v).setIfInBounds 5 (.int .i64 y)).setIfInBounds 6 (.int .u64 (b : Int)) = Lk.cells { l with great := y, bits_ := b } v := rfl
theorem cells_bits (l : Lk) (v : Value) (b : Nat) : (l.cells v).setIfInBounds 6 (.int .u64 (b : Int)) = Lk.cells { l with bits_ := b } v := rfl
theorem wrap_u64 (x : Nat) : IntKind.u64.wrap (x : Int) = ((x % 18446744073709551616 : Nat) : Int) := by
  simp [IntKind.wrap, IntKind.signed, IntKind.bits]
theorem shl_u64 (b k : Nat) : Op.shift .shl .u64 (b : Int) .i64 (k : Int) = pure (.int .u64 (((b * 2 ^ k) % 18446744073709551616 : Nat) : Int)) := by
  have hz : ∀ x : Nat, IntKind.u64.wrap (x : Int) = ((x % 18446744073709551616 : Nat) : Int) := fun x => by
    simp [IntKind.wrap, IntKind.signed, IntKind.bits]
  by_cases h : k ≤ 64
  · rw [shift_shl .u64 .i64 (b : Int) (k : Int) (by omega) (by show (k : Int) ≤ 64; omega)]
    rw [← hz]
    simp
  · have hm : min k 64 = 64 := by omega
    have e : (b * 2 ^ k) % 18446744073709551616 = 0 := by
      obtain ⟨j, rfl⟩ : ∃ j, k = 64 + j := ⟨k - 64, by omega⟩
      rw [Nat.pow_add, show (2 : Nat) ^ 64 = 18446744073709551616 from rfl, show b * (18446744073709551616 * 2 ^ j) = 18446744073709551616 * (b * 2 ^ j) from by rw [Nat.mul_left_comm], Nat.mul_mod_right]
    rw [e]
    have e2 := hz (b * 18446744073709551616)
    rw [Nat.mul_mod_left] at e2
    have hn : ¬ (k : Int) < 0 := by omega
    have hmm : min (k : Int).toNat IntKind.u64.bits = 64 := by show min (k : Int).toNat 64 = 64; omega
    simp only [Op.shift, if_neg hn, hmm]
    have h64 : (2 : Int) ^ 64 = ((18446744073709551616 : Nat) : Int) := by decide
    rw [h64, ← Int.natCast_mul, e2]
theorem addB_lt {gr b n : Nat} (hb : b < 18446744073709551616) (h : hasW gr b n = false) : addB gr b n < 18446744073709551616 := by
  unfold addB
  split
  · exact Nat.or_lt_two_pow (n := 64) (Nat.mod_lt _ (by decide)) (by decide)
  · rename_i h1
    unfold hasW at h
    rw [if_neg h1] at h
    split at h
    · cases h
    · rename_i h2
      exact Nat.or_lt_two_pow (n := 64) hb (Nat.pow_lt_pow_right (by decide) (by omega))

set_option maxRecDepth 100000 in
set_option maxHeartbeats 2000000 in
theorem lk_add (w : World) (base g : Nat) (wv : Value) (L : List (Wt × Bd)) (l : Lk) (h : LkIn w base g wv L l) (gr n : Nat) (hg : gr ≤ 1099511627776) (hn : n ≤ 1099511627776) (hl : l.great = (gr : Int)) (hb : l.bits_ < 18446744073709551616) (hh : hasW gr l.bits_ n = false) :
    Calls Tryd.prog 39 #[.pointer (some ⟨g, 5, none⟩), .int .i64 (n : Int)] w fun e w' => e = .returned (.tuple #[]) ∧ Hid (LkIn w' base g wv L { l with great := (addG gr n : Nat), bits_ := addB gr l.bits_ n }) ∧ Fr w w' g wv := by
  have c5 : w.cell? ⟨g, 5, none⟩ = some (.int .i64 (gr : Int)) := by rw [← hl]; exact h.blk.cell 5 rfl
  have c6 : w.cell? ⟨g, 6, none⟩ = some (.int .u64 (l.bits_ : Int)) := h.blk.cell 6 rfl
  have fg : ∀ i, w.frozen? ⟨g, i, none⟩ = false := fun i => h.blk.free i
  obtain ⟨b, hbe⟩ : ∃ b, b = l.bits_ := ⟨_, rfl⟩
  rw [← hbe] at hb hh c6
  have HBE : Hid (b = l.bits_) := hbe
  have HL : Hid (LkIn w base g wv L l) := h
  rw [← hbe]
  by_cases h1 : gr < n
  · obtain ⟨k, hk⟩ : ∃ k, k = n - gr := ⟨_, rfl⟩
    have e0 : (n : Int) - (gr : Int) = (k : Int) := by omega
    have e1 : (gr : Int) < (n : Int) := by omega
    have e2 : (n : Int) - (n : Int) = 0 := by omega
    obtain ⟨B1, hB1⟩ : ∃ B1, B1 = (b * 2 ^ k) % 18446744073709551616 := ⟨_, rfl⟩
    have hs := shl_u64 b k
    rw [← hB1] at hs
    have hB1b : B1 < 18446744073709551616 := by rw [hB1]; exact Nat.mod_lt _ (by decide)
    have ho := u64_or_nat B1 1 hB1b (by omega)
    obtain ⟨B2, hB2⟩ : ∃ B2, B2 = B1 ||| 1 := ⟨_, rfl⟩
    rw [← hB2] at ho
    have ho' : bits BinOp.or IntKind.u64 (B1 : Int) 1 = (B2 : Int) := ho
    have HAB : Hid (addB gr b n = B2 ∧ addG gr n = n) := by
      refine ⟨?_, by rw [addG, if_pos h1]⟩
      rw [addB, if_pos h1, ← hk, ← hB1, ← hB2]
    have HL2 : Hid (LkIn (((w.setCell ⟨g, 6, none⟩ (.int .u64 (B1 : Int))).setCell ⟨g, 5, none⟩ (.int .i64 (n : Int))).setCell ⟨g, 6, none⟩ (.int .u64 (B2 : Int))).drew.drew base g wv L { l with great := (n : Int), bits_ := B2 }) := by
      refine h.turned ?_ (by simp [World.drew]) fun k hk hg => ?_
      · have h1 := ((h.blk.set 6 (.int .u64 (B1 : Int))).set 5 (.int .i64 (n : Int))).set 6 (.int .u64 (B2 : Int))
        rw [cells_add] at h1
        exact h1
      · show (((w.setCell ⟨g, 6, none⟩ (.int .u64 (B1 : Int))).setCell ⟨g, 5, none⟩ (.int .i64 (n : Int))).setCell ⟨g, 6, none⟩ (.int .u64 (B2 : Int))).heap[k]? = _
        rw [heap_setCell_other _ ⟨g, 6, none⟩ k _ hg, heap_setCell_other _ ⟨g, 5, none⟩ k _ hg, heap_setCell_other _ ⟨g, 6, none⟩ k _ hg]
    have HF2 : Hid (Fr w (((w.setCell ⟨g, 6, none⟩ (.int .u64 (B1 : Int))).setCell ⟨g, 5, none⟩ (.int .i64 (n : Int))).setCell ⟨g, 6, none⟩ (.int .u64 (B2 : Int))).drew.drew g wv) := by
      have hf : Fr w (((w.setCell ⟨g, 6, none⟩ (.int .u64 (B1 : Int))).setCell ⟨g, 5, none⟩ (.int .i64 (n : Int))).setCell ⟨g, 6, none⟩ (.int .u64 (B2 : Int))) g wv := (((Fr.of (Below.refl _ _)).set).set).set
      exact ⟨below_drew (below_drew hf.all), hf.blk⟩
    rw [HAB.out.1, HAB.out.2]
    clear h hk hB1 hB2 ho hbe hh
    go_enter Tryd.func39, Tryd.ntmps39
    go_wp2
    go_region
    go_wp2
    go_region
    go_wp2
    go_end0
    exact ⟨rfl, HL2.out, HF2.out⟩
  · obtain ⟨d, hd⟩ : ∃ d, d = gr - n := ⟨_, rfl⟩
    have hd64 : d < 64 := by
      unfold hasW at hh
      rw [if_neg h1, ← hd] at hh
      split at hh
      · cases hh
      · omega
    have e0 : (gr : Int) - (n : Int) = (d : Int) := by omega
    have e1 : ¬ (gr : Int) < (n : Int) := by omega
    have hs := shl_u64 1 d
    obtain ⟨P, hP⟩ : ∃ P, P = 2 ^ d := ⟨_, rfl⟩
    have hPb : P < 18446744073709551616 := by rw [hP]; exact Nat.pow_lt_pow_right (n := 64) (by decide) hd64
    rw [Nat.one_mul, ← hP, Nat.mod_eq_of_lt hPb] at hs
    have hs' : Op.shift .shl .u64 1 .i64 (d : Int) = pure (.int .u64 (P : Int)) := hs
    have hw : IntKind.u64.wrap ((2 : Int) ^ d) = (P : Int) := by
      have h5 := wrap_u64 P
      rw [Nat.mod_eq_of_lt hPb] at h5
      rw [← h5, hP, Int.natCast_pow]
      rfl
    obtain ⟨B2, hB2⟩ : ∃ B2, B2 = b ||| P := ⟨_, rfl⟩
    have ho := u64_or_nat b P hb hPb
    rw [← hB2] at ho
    have HAB : Hid (addB gr b n = B2 ∧ addG gr n = gr) := by
      refine ⟨?_, by rw [addG, if_neg h1]⟩
      rw [addB, if_neg h1, ← hd, ← hP, ← hB2]
    have HL2 : Hid (LkIn (w.setCell ⟨g, 6, none⟩ (.int .u64 (B2 : Int))).drew base g wv L { l with great := (gr : Int), bits_ := B2 }) := by
      refine h.turned ?_ (by simp [World.drew]) fun k hk hg => ?_
      · have h1 := h.blk.set 6 (.int .u64 (B2 : Int))
        rw [cells_bits] at h1
        have e : ({ l with great := (gr : Int), bits_ := B2 } : Lk) = { l with bits_ := B2 } := by rw [← hl]
        rw [e]
        exact h1
      · exact heap_setCell_other w ⟨g, 6, none⟩ k _ hg
    have HF2 : Hid (Fr w (w.setCell ⟨g, 6, none⟩ (.int .u64 (B2 : Int))).drew g wv) := by
      have hf : Fr w (w.setCell ⟨g, 6, none⟩ (.int .u64 (B2 : Int))) g wv := (Fr.of (Below.refl _ _)).set
      exact ⟨below_drew hf.all, hf.blk⟩
    rw [HAB.out.1, HAB.out.2]
    clear h hd hP hB2 hbe hh hs
    go_enter Tryd.func39, Tryd.ntmps39
    go_wp2
    go_region
    go_wp2
    go_end0
    exact ⟨rfl, HL2.out, HF2.out⟩
end Go.Proofs.YtbloomepdchjhaaDoor
