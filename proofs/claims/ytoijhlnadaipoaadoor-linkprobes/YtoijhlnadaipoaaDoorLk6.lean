/- link.frame's numbers, of bytes that begin with three numbers that may be. -/
import Derived.Test.YtoijhlnadaipoaaDoorLk5
import Derived.Test.YtoijhlnadaipoaaDoorTake
import Derived.Test.YtoijhlnadaipoaaDoorLebBack
namespace Go.Proofs.YtoijhlnadaipoaaDoor
open Go.RowKit

/-- The array of numbers, so many of which are there. -/
def arr3 (ns : List Nat) (i : Nat) : List Value := ((ns.take i ++ List.replicate (3 - i) 0).take 3).map fun (n : Nat) => .int .u64 (n : Int)
theorem lebs_append (xs ys : List Nat) : lebs (xs ++ ys) = lebs xs ++ lebs ys := by simp [lebs]
theorem lebs_one (n : Nat) : lebs [n] = Leb.leb n := by simp [lebs]
theorem arr3_at {ns : List Nat} (hn : ns.length = 3) {i : Nat} (hi : i < 3) : (arr3 ns i)[i]? = some (.int .u64 0) := by
  match ns, hn, i, hi with
  | [a, b, c], _, 0, _ => rfl
  | [a, b, c], _, 1, _ => rfl
  | [a, b, c], _, 2, _ => rfl
theorem arr3_set {ns : List Nat} (hn : ns.length = 3) {i x : Nat} (hx : ns[i]? = some x) : (arr3 ns i).toArray.setIfInBounds i (.int .u64 (x : Int)) = (arr3 ns (i + 1)).toArray := by
  match ns, hn, i, hx with
  | [a, b, c], _, 0, hx => simp at hx; subst hx; rfl
  | [a, b, c], _, 1, hx => simp at hx; subst hx; rfl
  | [a, b, c], _, 2, hx => simp at hx; subst hx; rfl
theorem nums_take {ns rest : List Nat} {i x : Nat} (hx : ns[i]? = some x) (hb : x < 18446744073709551616) : Leb.take (lebs ns ++ rest) (((lebs (ns.take i)).length : Nat) : Int) = (x, (lebs (ns.take (i + 1))).length, 0) := by
  obtain ⟨h1, h2⟩ := List.getElem?_eq_some_iff.1 hx
  have e1 : ns = ns.take i ++ (x :: ns.drop (i + 1)) := by
    rw [← h2, List.getElem_cons_drop, List.take_append_drop]
  have e2 : lebs ns ++ rest = lebs (ns.take i) ++ Leb.leb x ++ (lebs (ns.drop (i + 1)) ++ rest) := by
    conv => lhs; rw [e1]
    rw [lebs_append, lebs_cons, List.append_assoc, List.append_assoc, List.append_assoc]
  have e3 : ns.take (i + 1) = ns.take i ++ [x] := by rw [List.take_add_one, hx]; rfl
  rw [e2, Leb.take_put x hb, e3, lebs_append, lebs_one, List.length_append]

set_option maxRecDepth 100000 in
set_option maxHeartbeats 4000000 in
theorem lk_numbers_ok (F k g o n c x0 x1 x2 : Nat) (bs rest : List Nat) (w : World) (hF : Bk w F #[.int .u8 (k : Int), .int .i64 0, .int .i64 0, .int .i64 0, .int .i64 0, .int .i64 0, .int .i64 0, .int .i64 0, .int .i64 0, .int .i64 0, .slice none 0 0, .slice none 0 0] 85) (hr : Rd w (some ⟨g, o, none⟩) n bs) (hbs : bs = lebs [x0, x1, x2] ++ rest) (hgF : g ≠ F) (hnc : n ≤ c) (hc : c ≤ 1000000) (h0 : 1 ≤ x0 ∧ x0 ≤ 1073741824) (h1 : x1 ≤ 1073741824) (h2 : 1 ≤ x2 ∧ x2 ≤ 1099511627776) :
    Calls Tryd.prog 42 #[.pointer (some ⟨F, 0, none⟩), .slice (some ⟨g, o, none⟩) n c] w fun e w' => (∃ a' c', e = .returned (.tuple #[.slice a' rest.length c', .int .i64 0]) ∧ Hid (Rd w' a' rest.length rest ∧ rest.length ≤ c')) ∧ Hid (Bk w' F #[.int .u8 (k : Int), .int .i64 (x0 : Int), .int .i64 (x1 : Int), .int .i64 (x2 : Int), .int .i64 0, .int .i64 0, .int .i64 0, .int .i64 0, .int .i64 0, .int .i64 0, .slice none 0 0, .slice none 0 0] 85) ∧ w.grownBy w' (some F) := by
  obtain ⟨ns, hns⟩ : ∃ ns, ns = [x0, x1, x2] := ⟨_, rfl⟩
  have HNS : Hid (ns = [x0, x1, x2]) := hns
  have HN3 : Hid (ns.length = 3) := by rw [hns]; rfl
  rw [← hns] at hbs
  have HBS : Hid (bs = lebs ns ++ rest) := hbs
  have HNB : Hid (∀ x ∈ ns, x < 18446744073709551616) := by intro x hx; rw [hns] at hx; simp only [List.mem_cons, List.not_mem_nil, or_false] at hx; omega
  obtain ⟨m, hm⟩ : ∃ m, m = (lebs ns).length := ⟨_, rfl⟩
  have HM : Hid (m = (lebs ns).length) := hm
  have hsz := hr.size
  rw [hbs, List.length_append, ← hm] at hsz
  have HR : Hid (Rd w (some ⟨g, o, none⟩) n bs) := hr
  have HF : Hid (Bk w F #[.int .u8 (k : Int), .int .i64 0, .int .i64 0, .int .i64 0, .int .i64 0, .int .i64 0, .int .i64 0, .int .i64 0, .int .i64 0, .int .i64 0, .slice none 0 0, .slice none 0 0] 85) := hF
  have HFL : Hid (F < w.heap.size) := hF.lt
  have HGF : Hid (g ≠ F) := hgF
  have HSZ : Hid (m + rest.length = n) := hsz
  have hmn : m ≤ n := by omega
  have hm1 : (m : Int) ≤ (n : Int) := by omega
  have hm2 : (m : Int) ≤ (c : Int) := by omega
  have hm0 : (0 : Int) ≤ (m : Int) := by omega
  obtain ⟨W0, HW0⟩ : ∃ W0, Hid (W0 = w.alloc (.cells #[.int .u64 0, .int .u64 0, .int .u64 0] 124)) := ⟨_, rfl⟩
  have HB0 : Hid (Below w.heap.size w W0) := by rw [HW0.out]; exact below_new _ _
  have HA0 : Hid (Bk W0 w.heap.size (arr3 ns 0).toArray 124) := by
    have e : (arr3 ns 0).toArray = #[.int .u64 0, .int .u64 0, .int .u64 0] := by rw [hns]; rfl
    rw [HW0.out, e]; exact Bk.new _ _ _
  clear hns hbs hm hr hF hsz hgF
  go_enter Tryd.func42, Tryd.ntmps42
  go_wp2
  rw [← HW0.out]
  go_loopw [7, 15] (fun t7 t15 wr => ∃ (i p : Nat), i ≤ 3 ∧ t15 = .int .i64 (i : Int) ∧ t7 = .int .i64 (p : Int) ∧ Hid (p = (lebs (ns.take i)).length) ∧ p ≤ m ∧ Hid (Bk wr w.heap.size (arr3 ns i).toArray 124) ∧ Hid (Below w.heap.size w wr)) (fun _ t15 _ => 3 - (intOf t15).toNat)
  case atStart => exact ⟨0, 0, by omega, rfl, rfl, rfl, by omega, HA0, HB0⟩
  case round =>
    obtain ⟨i, p, hi, rfl, rfl, HP, hpm, HA, HB⟩ := hrel
    clear HA0
    by_cases hlt : i < 3
    · have hlt' : (i : Int) < 3 := by omega
      have h0i : (0 : Int) ≤ (i : Int) := by omega
      obtain ⟨x, hx⟩ : ∃ x, ns[i]? = some x := ⟨ns[i]'(by rw [HN3.out]; exact hlt), List.getElem?_eq_getElem _⟩
      have hxb : x < 18446744073709551616 := HNB.out x (List.mem_of_getElem? hx)
      have HX : Hid (ns[i]? = some x) := hx
      obtain ⟨q, hq⟩ : ∃ q, q = (lebs (ns.take (i + 1))).length := ⟨_, rfl⟩
      have HQ : Hid (q = (lebs (ns.take (i + 1))).length) := hq
      have hqm : q ≤ m := by
        have e : lebs ns = lebs (ns.take (i + 1)) ++ lebs (ns.drop (i + 1)) := by rw [← lebs_append, List.take_append_drop]
        rw [hq, HM.out, e, List.length_append]
        omega
      have htk := octet_TakeUint (some ⟨g, o, none⟩) n c bs (p : Int) wr (HR.out.below HB.out) (by omega) (by omega)
      rw [HBS.out, HP.out, nums_take hx hxb, ← HP.out, ← hq] at htk
      have HTK : Hid (Calls Tryd.prog 60 #[.slice (some ⟨g, o, none⟩) n c, .int .i64 (p : Int)] wr fun e w' => e = .returned (.tuple #[.int .u64 (x : Int), .int .i64 (q : Int), .int .i64 0]) ∧ w' = wr) := htk
      have ca : wr.cell? ⟨w.heap.size, i, none⟩ = some (.int .u64 0) := HA.out.cell i (by rw [List.getElem?_toArray]; exact arr3_at HN3.out hlt)
      have fa : wr.frozen? ⟨w.heap.size, i, none⟩ = false := HA.out.free i
      have HA' : Hid (Bk (wr.setCell ⟨w.heap.size, i, none⟩ (.int .u64 (x : Int))) w.heap.size (arr3 ns (i + 1)).toArray 124) := bk_step HA.out i _ (arr3_set HN3.out hx)
      have HB' : Hid (Below w.heap.size w (wr.setCell ⟨w.heap.size, i, none⟩ (.int .u64 (x : Int)))) := HB.out.setCell (Nat.le_refl _) _
      clear htk hx hq
      go_wp2_with fail
      refine HTK.out.mono ?_
      rintro e w' ⟨rfl, hw'⟩
      rw [hw']
      clear hw' w' HTK
      go_wp2
      go_roundw
      case rel => exact ⟨i + 1, q, by omega, by go_num, rfl, HQ, hqm, HA', HB'⟩
      case measure => simp [intOf]; omega
    · have hnl : ¬ (i : Int) < 3 := by omega
      obtain rfl : i = 3 := by omega
      have hpe : p = m := by rw [HP.out, HM.out, List.take_of_length_le (by rw [HN3.out]; omega)]
      subst hpe
      have HA3 : Hid (Bk wr w.heap.size #[.int .u64 (x0 : Int), .int .u64 (x1 : Int), .int .u64 (x2 : Int)] 124) := by
        have h := HA.out
        rw [HNS.out] at h
        exact h
      obtain ⟨wd, HWD⟩ : ∃ wd, Hid (wd = wr.drew) := ⟨_, rfl⟩
      have hbd : Below wr.heap.size wr wd := by rw [HWD.out]; exact below_drew (Below.refl _ _)
      have HAd : Hid (Bk wd w.heap.size #[.int .u64 (x0 : Int), .int .u64 (x1 : Int), .int .u64 (x2 : Int)] 124) := HA3.out.stay hbd
      have HBd : Hid (Below w.heap.size w wd) := HB.out.trans (hbd.mono HB.out.size)
      have HFd : Hid (Bk wd F #[.int .u8 (k : Int), .int .i64 0, .int .i64 0, .int .i64 0, .int .i64 0, .int .i64 0, .int .i64 0, .int .i64 0, .int .i64 0, .int .i64 0, .slice none 0 0, .slice none 0 0] 85) := HF.out.stay HBd.out
      have g1 : ¬ (x0 : Int) < 1 := by omega
      have g2 : ¬ (1073741824 : Int) < (x0 : Int) := by omega
      have g3 : ¬ (1073741824 : Int) < (x1 : Int) := by omega
      have g4 : ¬ (x2 : Int) < 1 := by omega
      have g5 : ¬ (1099511627776 : Int) < (x2 : Int) := by omega
      have f1 : wd.cell? ⟨F, 1, none⟩ = some (.int .i64 0) := HFd.out.cell 1 rfl
      have f2 : wd.cell? ⟨F, 2, none⟩ = some (.int .i64 0) := HFd.out.cell 2 rfl
      have f3 : wd.cell? ⟨F, 3, none⟩ = some (.int .i64 0) := HFd.out.cell 3 rfl
      have ff : ∀ i, wd.frozen? ⟨F, i, none⟩ = false := fun i => HFd.out.free i
      have hF1 : Bk (wd.setCell ⟨F, 1, none⟩ (.int .i64 (x0 : Int))) F #[.int .u8 (k : Int), .int .i64 (x0 : Int), .int .i64 0, .int .i64 0, .int .i64 0, .int .i64 0, .int .i64 0, .int .i64 0, .int .i64 0, .int .i64 0, .slice none 0 0, .slice none 0 0] 85 := bk_step HFd.out 1 _ rfl
      have hF2 : Bk ((wd.setCell ⟨F, 1, none⟩ (.int .i64 (x0 : Int))).setCell ⟨F, 2, none⟩ (.int .i64 (x1 : Int))) F #[.int .u8 (k : Int), .int .i64 (x0 : Int), .int .i64 (x1 : Int), .int .i64 0, .int .i64 0, .int .i64 0, .int .i64 0, .int .i64 0, .int .i64 0, .int .i64 0, .slice none 0 0, .slice none 0 0] 85 := bk_step hF1 2 _ rfl
      have HF3 : Hid (Bk (((wd.setCell ⟨F, 1, none⟩ (.int .i64 (x0 : Int))).setCell ⟨F, 2, none⟩ (.int .i64 (x1 : Int))).setCell ⟨F, 3, none⟩ (.int .i64 (x2 : Int))) F #[.int .u8 (k : Int), .int .i64 (x0 : Int), .int .i64 (x1 : Int), .int .i64 (x2 : Int), .int .i64 0, .int .i64 0, .int .i64 0, .int .i64 0, .int .i64 0, .int .i64 0, .slice none 0 0, .slice none 0 0] 85) := bk_step hF2 3 _ rfl
      have HG3 : Hid (w.grownBy (((wd.setCell ⟨F, 1, none⟩ (.int .i64 (x0 : Int))).setCell ⟨F, 2, none⟩ (.int .i64 (x1 : Int))).setCell ⟨F, 3, none⟩ (.int .i64 (x2 : Int))) (some F)) := by
        have hb := HBd.out
        refine ⟨hb.os, hb.tape, hb.output, by simpa using hb.size, fun j hj hn => ?_⟩
        have hjf : j ≠ F := fun e => hn (by rw [e])
        rw [heap_setCell_other _ ⟨F, 3, none⟩ j _ hjf, heap_setCell_other _ ⟨F, 2, none⟩ j _ hjf, heap_setCell_other _ ⟨F, 1, none⟩ j _ hjf]
        exact hb.block j hj
      have HRR : Hid (Rd (((wd.setCell ⟨F, 1, none⟩ (.int .i64 (x0 : Int))).setCell ⟨F, 2, none⟩ (.int .i64 (x1 : Int))).setCell ⟨F, 3, none⟩ (.int .i64 (x2 : Int))) (some ⟨g, o + p, none⟩) rest.length rest) := by
        have hrd := HR.out.below HBd.out
        refine ⟨rfl, fun y hy => hrd.byte y (by rw [HBS.out]; exact List.mem_append_right _ hy), ?_⟩
        rcases hrd.cells with h5 | ⟨g', o', ha, hlt, hcc⟩
        · left; have := HSZ.out; omega
        · simp only [Option.some.injEq, Addr.mk.injEq, and_true] at ha
          obtain ⟨rfl, rfl⟩ := ha
          refine .inr ⟨g, o + p, rfl, by simpa using hlt, fun j hj => ?_⟩
          have h6 := hcc (p + j) (by have := HSZ.out; omega)
          rw [cell_far7 _ F 3 _ g _ HGF.out, cell_far7 _ F 2 _ g _ HGF.out, cell_far7 _ F 1 _ g _ HGF.out, show o + p + j = o + (p + j) from by omega, h6, HBS.out]
          simp only [List.getD_eq_getElem?_getD]
          rw [List.getElem?_append_right (by have := HM.out; omega), show p + j - (lebs ns).length = j from by have := HM.out; omega]
      have HSZ2 : Hid (n - p = rest.length) := by have := HSZ.out; show _ = _; omega
      clear hbd hF1 hF2
      go_wp2
      refine wp_region_held_drew (S := fun w' => w'.cell? ⟨w.heap.size, 0, none⟩ = some (.int .u64 (x0 : Int)) ∧ w'.cell? ⟨w.heap.size, 1, none⟩ = some (.int .u64 (x1 : Int)) ∧ w'.cell? ⟨w.heap.size, 2, none⟩ = some (.int .u64 (x2 : Int))) (by kernel_rfl) (by rw [← HWD.out]; exact ⟨HAd.out.cell 0 rfl, HAd.out.cell 1 rfl, HAd.out.cell 2 rfl⟩) (fun hHeld => ?_)
      rw [← HWD.out] at hHeld ⊢
      refine take_putH (i := 0) (v := ?_) (some 33) rfl (by kernel_rfl) (by kernel_rfl) (by kernel_rfl) (by kernel_rfl) (fun _ _ _ h => h) (Or.inl ⟨by rfl, ?_⟩) hHeld ?_
      rotate_left
      · (intro w hSw; obtain ⟨z0, z1, z2⟩ := hSw; go_simp; try with_reducible rfl)
      try simp only [Act.put, List.setIfInBounds_toArray, List.set_cons_zero, List.set_cons_succ]
      refine take_putH (i := 1) (v := ?_) (some 34) rfl (by kernel_rfl) (by kernel_rfl) (by kernel_rfl) (by kernel_rfl) (fun _ _ _ h => h) (Or.inl ⟨by rfl, ?_⟩) hHeld ?_
      rotate_left
      · (intro w hSw; obtain ⟨z0, z1, z2⟩ := hSw; go_simp; try with_reducible rfl)
      try simp only [Act.put, List.setIfInBounds_toArray, List.set_cons_zero, List.set_cons_succ]
      refine take_putH (i := 2) (v := ?_) (some 35) rfl (by kernel_rfl) (by kernel_rfl) (by kernel_rfl) (by kernel_rfl) (fun _ _ _ h => h) (Or.inl ⟨by rfl, ?_⟩) hHeld ?_
      rotate_left
      · (intro w hSw; obtain ⟨z0, z1, z2⟩ := hSw; go_simp; try with_reducible rfl)
      try simp only [Act.put, List.setIfInBounds_toArray, List.set_cons_zero, List.set_cons_succ]
      refine take_putH (i := 3) (v := ?_) (some 36) rfl (by kernel_rfl) (by kernel_rfl) (by kernel_rfl) (by kernel_rfl) (fun _ _ _ h => h) (Or.inl ⟨by rfl, ?_⟩) hHeld ?_
      rotate_left
      · (intro w hSw; obtain ⟨z0, z1, z2⟩ := hSw; go_simp; try with_reducible rfl)
      try simp only [Act.put, List.setIfInBounds_toArray, List.set_cons_zero, List.set_cons_succ]
      refine take_putH (i := 4) (v := ?_) (some 37) rfl (by kernel_rfl) (by kernel_rfl) (by kernel_rfl) (by kernel_rfl) (fun _ _ _ h => h) (Or.inl ⟨by rfl, ?_⟩) hHeld ?_
      rotate_left
      · (intro w hSw; obtain ⟨z0, z1, z2⟩ := hSw; go_simp; try with_reducible rfl)
      try simp only [Act.put, List.setIfInBounds_toArray, List.set_cons_zero, List.set_cons_succ]
      refine take_putH (i := 5) (v := ?_) (some 38) rfl (by kernel_rfl) (by kernel_rfl) (by kernel_rfl) (by kernel_rfl) (fun _ _ _ h => h) (Or.inl ⟨by rfl, ?_⟩) hHeld ?_
      rotate_left
      · (intro w hSw; obtain ⟨z0, z1, z2⟩ := hSw; go_simp; try with_reducible rfl)
      try simp only [Act.put, List.setIfInBounds_toArray, List.set_cons_zero, List.set_cons_succ]
      refine take_putH (i := 6) (v := ?_) (some 12) rfl (by kernel_rfl) (by kernel_rfl) (by kernel_rfl) (by kernel_rfl) (fun _ _ _ h => h) (Or.inl ⟨by rfl, ?_⟩) hHeld ?_
      rotate_left
      · (intro w hSw; obtain ⟨z0, z1, z2⟩ := hSw; go_simp; try with_reducible rfl)
      try simp only [Act.put, List.setIfInBounds_toArray, List.set_cons_zero, List.set_cons_succ]
      refine take_putH (i := 7) (v := ?_) (some 13) rfl (by kernel_rfl) (by kernel_rfl) (by kernel_rfl) (by kernel_rfl) (fun _ _ _ h => h) (Or.inl ⟨by rfl, ?_⟩) hHeld ?_
      rotate_left
      · (intro w hSw; obtain ⟨z0, z1, z2⟩ := hSw; go_simp; try with_reducible rfl)
      try simp only [Act.put, List.setIfInBounds_toArray, List.set_cons_zero, List.set_cons_succ]
      refine take_putH (i := 8) (v := ?_) (some 14) rfl (by kernel_rfl) (by kernel_rfl) (by kernel_rfl) (by kernel_rfl) (fun _ _ _ h => h) (Or.inl ⟨by rfl, ?_⟩) hHeld ?_
      rotate_left
      · (intro w hSw; obtain ⟨z0, z1, z2⟩ := hSw; go_simp; try with_reducible rfl)
      try simp only [Act.put, List.setIfInBounds_toArray, List.set_cons_zero, List.set_cons_succ]
      refine wpAnyH_done (by kernel_rfl) ?_ _
      clear hHeld
      by_cases hcp : c = p
      · have HRE : Hid (rest.length = 0) := by have h1 := HSZ2.out; show _ = _; omega
        go_wp2
        go_ret2
        rw [HSZ2.out]
        refine ⟨⟨_, _, rfl, ⟨rfl, HRR.out.byte, .inl HRE.out⟩, by have := HRE.out; omega⟩, HF3.out, HG3.out⟩
      · have HCC : Hid (rest.length ≤ c - p) := by have h1 := HSZ2.out; show _ ≤ _; omega
        go_wp2
        go_ret2
        rw [HSZ2.out]
        exact ⟨⟨_, _, rfl, HRR.out, HCC.out⟩, HF3.out, HG3.out⟩
end Go.Proofs.YtoijhlnadaipoaaDoor
