/- A pack of texts: Lk4 Lk5. -/
import Derived.Test.YtbloomepdchjhaaDoorLkA
import Derived.Test.YtbloomepdchjhaaDoorPpP
/- link.New, Send, Pull. -/
namespace Go.Proofs.YtbloomepdchjhaaDoor
open Go.RowKit

set_option maxRecDepth 100000 in
set_option maxHeartbeats 1000000 in
theorem lk_New (life queue : Int) (w : World) (h1 : 1 ≤ life) (h2 : life ≤ 1073741824) (h3 : 1 ≤ queue) (h4 : queue ≤ 32) :
    Calls Tryd.prog 5 #[.int .i64 life, .int .i64 queue] w fun e w' => e = .returned (.tuple #[.pointer (some ⟨w.heap.size, 0, none⟩), .int .i64 0]) ∧ Hid (LkIn w' w.heap.size w.heap.size (.slice none 0 0) [] ⟨life, 0, 0, queue, 0, 0, -1⟩) ∧ Below w.heap.size w w' := by
  have g1 : ¬ life < 1 := by omega
  have g2 : ¬ 1073741824 < life := by omega
  have g3 : ¬ queue < 1 := by omega
  have g4 : ¬ 32 < queue := by omega
  have HB : ∀ o, Hid (Below w.heap.size w (w.alloc o)) := fun o => below_new _ _
  have HL : Hid (LkIn (w.alloc (.cells (Lk.cells ⟨life, 0, 0, queue, 0, 0, -1⟩ (.slice none 0 0)) 65)) w.heap.size w.heap.size (.slice none 0 0) [] ⟨life, 0, 0, queue, 0, 0, -1⟩) := ⟨Bk.new _ _ _, World.ownsRow_nil _ _ _ _, fun x hx => (by cases hx), by simp⟩
  clear h1 h2 h3 h4
  go_enter Tryd.func5, Tryd.ntmps5
  go_wp2
  go_ret2
  exact ⟨rfl, HL, (HB _).out⟩

set_option maxRecDepth 100000 in
set_option maxHeartbeats 2000000 in
theorem lk_Send_ok (w : World) (base g : Nat) (wv : Value) (L : List (Wt × Bd)) (l : Lk) (h : LkIn w base g wv L l) (p : Pc) (sa : Option Addr) (sn sc : Nat) (ia : Option Addr) (im ic : Nat) (hp : PcRd w p sa sn sc ia im ic) (hc : chk p = 0) (hq : (L.length : Int) < l.queue) (hl : L.length ≤ 1000) :
    Calls Tryd.prog 7 #[.pointer (some ⟨g, 0, none⟩), p.val sa sn sc ia im ic] w fun e w' => e = .returned (.int .i64 0) ∧ Hid (∃ v' b, LkIn w' base g v' (L ++ [(⟨1, putD p⟩, b)]) l) ∧ Fr w w' g wv := by
  obtain ⟨p0, HP0⟩ : ∃ p0, Hid (p0 = p) := ⟨_, rfl⟩
  have HV : Hid (p0.val sa sn sc ia im ic = p.val sa sn sc ia im ic) := by show _ = _; rw [HP0.out]
  have HP : Hid (PcRd w p0 sa sn sc ia im ic) := by rw [HP0.out]; exact hp
  have HC : Hid (chk p0 = 0) := by rw [HP0.out]; exact hc
  rw [← HP0.out]
  obtain ⟨T, HTE⟩ : ∃ T, Hid (T = putD p0) := ⟨_, rfl⟩
  rw [← HTE.out, HV.out]
  have HL : Hid (LkIn w base g wv L l) := h
  have HBS : Hid (base ≤ w.heap.size) := h.bg
  clear hp hc h
  clear HP0
  obtain ⟨pk, pp, ps, pn, pf, pt, pl, pi⟩ := p
  obtain ⟨W0, HW0⟩ : ∃ W0, Hid (W0 = w.alloc (.cells #[.int .i64 pk, .int .i64 pp, .int .i64 ps, .int .i64 pn, .int .i64 pf, .int .i64 pt, .slice sa sn sc, .slice ia im ic] 37)) := ⟨_, rfl⟩
  have HB0 : Hid (Below w.heap.size w W0) := by rw [HW0.out]; exact below_new _ _
  have hcp := pc_Put p0 sa sn sc ia im ic W0 (HP.out.below HB0.out)
  unfold PutTold at hcp
  rw [HV.out, HC.out, ← HTE.out] at hcp
  have HCP : Hid (Calls Tryd.prog 16 #[Pc.val ⟨pk, pp, ps, pn, pf, pt, pl, pi⟩ sa sn sc ia im ic] W0 fun e w' => (∃ b m c, e = .returned (.tuple #[.slice b m c, .int .i64 0]) ∧ Own w' W0.heap.size b m c T) ∧ Below W0.heap.size W0 w') := hcp
  clear hcp
  unfold Pc.val
  simp only
  go_enter Tryd.func7, Tryd.ntmps7
  go_wp2_with fail
  rw [← HW0.out]
  refine HCP.out.mono ?_
  rintro e w1 ⟨⟨b1, m1, c1, he, ho1⟩, hb1⟩
  subst he
  have HB1 : Hid (Below w.heap.size w w1) := HB0.out.trans (hb1.mono HB0.out.size)
  have HL1 : Hid (LkIn w1 base g wv L l) := HL.out.below HB1.out
  have HO1 : Hid (Own w1 base b1 m1 c1 T) := ho1.under (Nat.le_trans HBS.out HB0.out.size)
  clear ho1 hb1 HCP
  go_wp2_with fail
  refine (lk_wait_ok w1 base g wv L l HL1.out 1 (by omega) b1 m1 c1 T HO1.out hq hl).mono ?_
  rintro e w2 ⟨rfl, HL2, hf2⟩
  have HF2 : Hid (Fr w w2 g wv) := (Fr.of HB1.out).trans hf2 trivial
  clear hf2
  go_wp2
  go_ret
  obtain ⟨v', hv'⟩ := HL2.out
  exact ⟨rfl, ⟨v', _, hv'⟩, HF2.out⟩

theorem tab_fr {w w' : World} {g : Nat} {v : Value} (h : Tab w) (hf : Fr w w' g v) (h0 : 0 < w.heap.size) (hg : 0 ≠ g) (hv : some 0 ≠ v.ownBlock) : Tab w' := fun i hi => by
  rw [World.cell?_of_block (w := w) (w' := w') (a := ⟨0, i, none⟩) (hf.blk 0 h0 hg hv)]
  exact h i hi
theorem cells_last (l : Lk) (v : Value) (n : Int) : (l.cells v).setIfInBounds 2 (.int .i64 n) = Lk.cells { l with last := n } v := rfl
theorem LkIn.tail {w w' : World} {base g gv m c : Nat} {x : Wt × Bd} {T : List (Wt × Bd)} {l : Lk} (h : LkIn w base g (.slice (some ⟨gv, 0, none⟩) (m + 1) c) (x :: T) l) (hm : T.length = m) (hr : w'.ownsRow base 70 2 (.slice (some ⟨gv, 0, none⟩) m c) m (wrow T)) (hg : w.grownBy w' (some gv)) (n : Int) :
    LkIn ((w'.setCell ⟨g, 4, none⟩ (.slice (some ⟨gv, 0, none⟩) m c)).setCell ⟨g, 2, none⟩ (.int .i64 n)) base g (.slice (some ⟨gv, 0, none⟩) m c) T { l with last := n } ∧ Bk w' g (l.cells (.slice (some ⟨gv, 0, none⟩) (m + 1) c)) 65 ∧ g ≠ gv ∧ ∀ (k : Nat) (cs : Array Value) (mk : Nat × Nat), w.heap[k]? = some (.cells cs 5 mk) → ((w'.setCell ⟨g, 4, none⟩ (.slice (some ⟨gv, 0, none⟩) m c)).setCell ⟨g, 2, none⟩ (.int .i64 n)).heap[k]? = some (.cells cs 5 mk) := by
  have hng := row_type h.row h.blk (by decide)
  have hgne : g ≠ gv := fun e => hng (by rw [e]; rfl)
  have hb : Bk w' g (l.cells (.slice (some ⟨gv, 0, none⟩) (m + 1) c)) 65 := h.blk.grown hg (fun e => hgne (by simpa using e))
  have hf : ∀ (k : Nat) (cs : Array Value) (mk : Nat × Nat), w.heap[k]? = some (.cells cs 5 mk) → ((w'.setCell ⟨g, 4, none⟩ (.slice (some ⟨gv, 0, none⟩) m c)).setCell ⟨g, 2, none⟩ (.int .i64 n)).heap[k]? = some (.cells cs 5 mk) := fun k cs mk hkk => by
    have h1 : w'.heap[k]? = some (.cells cs 5 mk) := by
      rw [hg.block k (Array.getElem?_eq_some_iff.1 hkk).1 (row_type h.row hkk (by decide))]
      exact hkk
    have hkg : k ≠ g := fun e => by
      subst e
      unfold Bk at hb
      rw [hb] at h1
      simp only [Option.some.injEq, Obj.cells.injEq] at h1
      exact absurd h1.2.1 (by decide)
    rw [heap_setCell_other _ ⟨g, 2, none⟩ k _ hkg, heap_setCell_other _ ⟨g, 4, none⟩ k _ hkg]
    exact h1
  refine ⟨⟨?_, ?_, fun y hy => ⟨(h.rest y (List.mem_cons_of_mem _ hy)).1, own_kept (h.rest y (List.mem_cons_of_mem _ hy)).2 hf⟩, by simpa using Nat.le_trans h.bg hg.size⟩, hb, hgne, hf⟩
  · have h1 := hb.set 4 (.slice (some ⟨gv, 0, none⟩) m c)
    rw [cells_set] at h1
    have h2 := h1.set 2 (.int .i64 n)
    rw [cells_last] at h2
    exact h2
  · rw [hm]
    refine ⟨hr.1, ?_⟩
    rcases hr.2 with hn | ⟨g', c', cur, hv, hbg, hgg, r⟩
    · exact .inl hn
    · have hv' := hv
      simp only [Value.slice.injEq, Option.some.injEq, Addr.mk.injEq] at hv'
      obtain ⟨⟨rfl, _⟩, _⟩ := hv'
      refine .inr ⟨gv, c', cur, hv, hbg, ?_, r⟩
      rw [heap_setCell_other _ ⟨g, 2, none⟩ gv _ (Ne.symm hgne), heap_setCell_other _ ⟨g, 4, none⟩ gv _ (Ne.symm hgne)]
      exact hgg

set_option maxRecDepth 100000 in
set_option maxHeartbeats 4000000 in
theorem lk_Pull_ok (w : World) (base g gv m c : Nat) (x : Wt × Bd) (T : List (Wt × Bd)) (l : Lk) (h : LkIn w base g (.slice (some ⟨gv, 0, none⟩) (m + 1) c) (x :: T) l) (hm : T.length = m) (lf ot la : Nat) (h1 : l.life = lf) (h2 : l.other = ot) (h3 : l.last = la) (hlf : lf < 9223372036854775808) (hot : ot < 9223372036854775808) (hla : la < 1099511627776) (hlen : (lebs [lf, ot, la + 1]).length + x.1.rest.length ≤ 4096) (ht : Tab w) (h0 : 0 < w.heap.size) (hb0 : 0 < base) (hg0 : 0 < g) :
    Calls Tryd.prog 9 #[.pointer (some ⟨g, 0, none⟩)] w fun e w' => (∃ gf, e = .returned (.tuple #[.slice (some ⟨gf, 0, none⟩) ((lebs [lf, ot, la + 1]).length + x.1.rest.length + 8) ((lebs [lf, ot, la + 1]).length + x.1.rest.length + 8), .bool true]) ∧ Hid (Own w' w.heap.size (some ⟨gf, 0, none⟩) ((lebs [lf, ot, la + 1]).length + x.1.rest.length + 8) ((lebs [lf, ot, la + 1]).length + x.1.rest.length + 8) (SealM.sealed x.1.kind (lebs [lf, ot, la + 1] ++ x.1.rest)))) ∧ Hid (∃ v', LkIn w' base g v' T { l with last := (la : Int) + 1 }) ∧ Fr w w' g (.slice (some ⟨gv, 0, none⟩) (m + 1) c) := by
  obtain ⟨⟨kd, rest⟩, ba, bn, bc⟩ := x
  obtain ⟨hkd, hob⟩ := h.rest _ (List.mem_cons_self)
  simp only at hkd hob hlen ⊢
  have hbn : rest.length = bn := hob.size
  rw [hbn] at hlen ⊢
  obtain ⟨hn0, hmc, hcm⟩ := row_len h.row
  unfold maxLen at hcm
  have HROW : Hid (w.ownsRow base 70 2 (.slice (some ⟨gv, 0, none⟩) (m + 1) c) (m + 1) (wrow ((⟨kd, rest⟩, (ba, bn, bc)) :: T))) := by
    have h5 := h.row
    rw [List.length_cons, hm] at h5
    exact h5
  have HL : Hid (LkIn w base g (.slice (some ⟨gv, 0, none⟩) (m + 1) c) ((⟨kd, rest⟩, (ba, bn, bc)) :: T) l) := h
  have HM : Hid (T.length = m) := hm
  have HOB : Hid (Own w base ba bn bc rest) := hob
  have HG0 : Hid (0 < g ∧ 0 < gv) := ⟨hg0, Nat.lt_of_lt_of_le hb0 (h.row.lt gv rfl).1⟩
  have HBZ : Hid (ba = none → bc = 0) := hob.nil_cap'
  have HTB : Hid (Tab w) := ht
  have HNS : Hid (∀ n ∈ [lf, ot, la + 1], n < 9223372036854775808) := by intro n hn; simp only [List.mem_cons, List.not_mem_nil, or_false] at hn; omega
  have HE : Hid (l.life = lf ∧ l.other = ot ∧ l.last = la) := ⟨h1, h2, h3⟩
  have c4 : w.cell? ⟨g, 4, none⟩ = some (.slice (some ⟨gv, 0, none⟩) (m + 1) c) := h.blk.cell 4 rfl
  have c2 : w.cell? ⟨g, 2, none⟩ = some (.int .i64 (la : Int)) := by rw [← h3]; exact h.blk.cell 2 rfl
  have d0 : w.cell? ⟨gv, 0, none⟩ = some (.int .u8 (kd : Int)) := by rw [HROW.out.cellAt 0 (by omega)]; rfl
  have d1 : w.cell? ⟨gv, 1, none⟩ = some (.slice ba bn bc) := by rw [HROW.out.cellAt 1 (by omega)]; rfl
  have q1 : ¬ ((m : Int) + 1 = 0) := by omega
  have q2 : ¬ (1099511627776 : Int) ≤ (la : Int) := by omega
  have q3 : (0 : Int) < (m : Int) + 1 := by omega
  obtain ⟨W1, HW1⟩ : ∃ W1, Hid (W1 = w.alloc (.cells #[.int .u8 (kd : Int), .slice ba bn bc] 70)) := ⟨_, rfl⟩
  have HB1 : Hid (Below w.heap.size w W1) := by rw [HW1.out]; exact below_new _ _
  have HC1 : Hid (Bk W1 w.heap.size #[.int .u8 (kd : Int), .slice ba bn bc] 70) := by rw [HW1.out]; exact Bk.new _ _ _
  have HL1 : Hid (LkIn W1 base g (.slice (some ⟨gv, 0, none⟩) (m + 1) c) ((⟨kd, rest⟩, (ba, bn, bc)) :: T) l) := h.below HB1.out
  have c41 : (w.alloc (.cells #[.int .u8 (kd : Int), .slice ba bn bc] 70)).cell? ⟨g, 4, none⟩ = some (.slice (some ⟨gv, 0, none⟩) (m + 1) c) := by rw [← HW1.out]; exact HL1.out.blk.cell 4 rfl
  have hdl := lk_delete W1 base gv m c (⟨kd, rest⟩, (ba, bn, bc)) T hm (by have h5 := HL1.out.row; rw [List.length_cons, hm] at h5; exact h5)
  have HDL : Hid (Calls Tryd.prog 21 #[.slice (some ⟨gv, 0, none⟩) (m + 1) c, .int .i64 0, .int .i64 1] W1 fun e w' => e = .returned (.slice (some ⟨gv, 0, none⟩) m c) ∧ Hid (w'.ownsRow base 70 2 (.slice (some ⟨gv, 0, none⟩) m c) m (wrow T)) ∧ W1.grownBy w' (some gv)) := hdl
  have HGL : Hid (g < w.heap.size) := h.blk.lt
  have HVL : Hid (gv < w.heap.size) := (h.row.lt gv rfl).2
  clear h hob hdl hbn hm h1 h2 h3 ht hn0
  go_enter Tryd.func9, Tryd.ntmps9
  go_wp2_with fail
  rw [← HW1.out]
  refine HDL.out.mono ?_
  rintro e w2 ⟨rfl, HR2, hg2⟩
  obtain ⟨hL4, hK2, hgne, hu8⟩ := HL1.out.tail HM.out HR2.out hg2 ((la : Int) + 1)
  have HK2 : Hid (Bk w2 g (l.cells (.slice (some ⟨gv, 0, none⟩) (m + 1) c)) 65) := hK2
  have b4 : w2.cell? ⟨g, 4, none⟩ = some (.slice (some ⟨gv, 0, none⟩) (m + 1) c) := hK2.cell 4 rfl
  have b2 : w2.cell? ⟨g, 2, none⟩ = some (.int .i64 (la : Int)) := by rw [← HE.out.2.2]; exact hK2.cell 2 rfl
  have fg : ∀ i, w2.frozen? ⟨g, i, none⟩ = false := fun i => hK2.free i
  obtain ⟨w4, HW4⟩ : ∃ w4, Hid (w4 = (w2.setCell ⟨g, 4, none⟩ (.slice (some ⟨gv, 0, none⟩) m c)).setCell ⟨g, 2, none⟩ (.int .i64 ((la : Int) + 1))) := ⟨_, rfl⟩
  have HL4 : Hid (LkIn w4 base g (.slice (some ⟨gv, 0, none⟩) m c) T { l with last := (la : Int) + 1 }) := by rw [HW4.out]; exact hL4
  have HF4 : Hid (Fr w w4 g (.slice (some ⟨gv, 0, none⟩) (m + 1) c)) := by rw [HW4.out]; exact (((Fr.of HB1.out).trans (Fr.grown (v := .slice (some ⟨gv, 0, none⟩) (m + 1) c) hg2) trivial).set).set
  have HC4 : Hid (Bk w4 w.heap.size #[.int .u8 (kd : Int), .slice ba bn bc] 70) := by
    have h1 := HGL.out
    have h2 := HVL.out
    rw [HW4.out]
    exact ((HC1.out.grown hg2 (by simp; omega)).other _ _ (by show w.heap.size ≠ g; omega)).other _ _ (by show w.heap.size ≠ g; omega)
  have HR4 : Hid (Rd w4 ba bn rest) := by
    have h5 : Own w4 base ba bn bc rest := by rw [HW4.out]; exact own_kept (HOB.out.below HB1.out) hu8
    exact h5.rd
  have HT4 : Hid (Tab w4) := tab_fr HTB.out HF4.out h0 (by have := HG0.out; omega) (by have := HG0.out; simp [Value.ownBlock]; omega)
  have H04 : Hid (0 < w4.heap.size) := Nat.lt_of_lt_of_le h0 HF4.out.all.size
  clear hL4 hK2 hg2 hu8 c4 c2 d0 d1 c41
  go_wp2
  rw [← HW4.out]
  obtain ⟨wd, HWD⟩ : ∃ wd, Hid (wd = w4.drew) := ⟨_, rfl⟩
  have hbd : Below w4.heap.size w4 wd := by rw [HWD.out]; exact below_drew (Below.refl _ _)
  have HCd : Hid (Bk wd w.heap.size #[.int .u8 (kd : Int), .slice ba bn bc] 70) := HC4.out.stay hbd
  have HLd : Hid (LkIn wd base g (.slice (some ⟨gv, 0, none⟩) m c) T { l with last := (la : Int) + 1 }) := HL4.out.below hbd
  have HRd : Hid (Rd wd ba bn rest) := HR4.out.below hbd
  have HFd : Hid (Fr w wd g (.slice (some ⟨gv, 0, none⟩) (m + 1) c)) := HF4.out.trans (Fr.of hbd) trivial
  have HTd : Hid (Tab wd) := HT4.out.below H04.out hbd
  have H0d : Hid (0 < wd.heap.size) := Nat.lt_of_lt_of_le H04.out hbd.size
  refine wp_region_held_drew (S := fun w' => w'.cell? ⟨w.heap.size, 0, none⟩ = some (.int .u8 (kd : Int)) ∧ w'.cell? ⟨w.heap.size, 1, none⟩ = some (.slice ba bn bc) ∧ w'.cell? ⟨g, 0, none⟩ = some (.int .i64 (lf : Int)) ∧ w'.cell? ⟨g, 1, none⟩ = some (.int .i64 (ot : Int)) ∧ w'.cell? ⟨g, 2, none⟩ = some (.int .i64 ((la : Int) + 1))) (by kernel_rfl) (by rw [← HWD.out]; exact ⟨HCd.out.cell 0 rfl, HCd.out.cell 1 rfl, by rw [← HE.out.1]; exact HLd.out.blk.cell 0 rfl, by rw [← HE.out.2.1]; exact HLd.out.blk.cell 1 rfl, HLd.out.blk.cell 2 rfl⟩) (fun hHeld => ?_)
  rw [← HWD.out] at hHeld ⊢
  clear hbd HWD
  refine take_putH (i := 0) (v := ?_) (some 43) rfl (by kernel_rfl) (by kernel_rfl) (by kernel_rfl) (by kernel_rfl) (fun _ _ _ h => h) (Or.inl ⟨by rfl, ?_⟩) hHeld ?_
  rotate_left
  · (intro w hSw; obtain ⟨z0, z1, z2, z3, z4⟩ := hSw; go_simp; try with_reducible rfl)
  try simp only [Act.put, List.setIfInBounds_toArray, List.set_cons_zero, List.set_cons_succ]
  refine take_putH (i := 1) (v := ?_) (some 44) rfl (by kernel_rfl) (by kernel_rfl) (by kernel_rfl) (by kernel_rfl) (fun _ _ _ h => h) (Or.inl ⟨by rfl, ?_⟩) hHeld ?_
  rotate_left
  · (intro w hSw; obtain ⟨z0, z1, z2, z3, z4⟩ := hSw; go_simp; try with_reducible rfl)
  try simp only [Act.put, List.setIfInBounds_toArray, List.set_cons_zero, List.set_cons_succ]
  refine take_putH (i := 2) (v := ?_) (some 45) rfl (by kernel_rfl) (by kernel_rfl) (by kernel_rfl) (by kernel_rfl) (fun _ _ _ h => h) (Or.inl ⟨by rfl, ?_⟩) hHeld ?_
  rotate_left
  · (intro w hSw; obtain ⟨z0, z1, z2, z3, z4⟩ := hSw; go_simp; try with_reducible rfl)
  try simp only [Act.put, List.setIfInBounds_toArray, List.set_cons_zero, List.set_cons_succ]
  refine take_putH (i := 3) (v := ?_) (some 46) rfl (by kernel_rfl) (by kernel_rfl) (by kernel_rfl) (by kernel_rfl) (fun _ _ _ h => h) (Or.inl ⟨by rfl, ?_⟩) hHeld ?_
  rotate_left
  · (intro w hSw; obtain ⟨z0, z1, z2, z3, z4⟩ := hSw; go_simp; try with_reducible rfl)
  try simp only [Act.put, List.setIfInBounds_toArray, List.set_cons_zero, List.set_cons_succ]
  refine take_putH (i := 4) (v := ?_) (some 47) rfl (by kernel_rfl) (by kernel_rfl) (by kernel_rfl) (by kernel_rfl) (fun _ _ _ h => h) (Or.inl ⟨by rfl, ?_⟩) hHeld ?_
  rotate_left
  · (intro w hSw; obtain ⟨z0, z1, z2, z3, z4⟩ := hSw; go_simp; try with_reducible rfl)
  try simp only [Act.put, List.setIfInBounds_toArray, List.set_cons_zero, List.set_cons_succ]
  refine take_putH (i := 5) (v := ?_) (some 48) rfl (by kernel_rfl) (by kernel_rfl) (by kernel_rfl) (by kernel_rfl) (fun _ _ _ h => h) (Or.inl ⟨by rfl, ?_⟩) hHeld ?_
  rotate_left
  · (intro w hSw; obtain ⟨z0, z1, z2, z3, z4⟩ := hSw; go_simp; try with_reducible rfl)
  try simp only [Act.put, List.setIfInBounds_toArray, List.set_cons_zero, List.set_cons_succ]
  refine take_putH (i := 6) (v := ?_) (some 49) rfl (by kernel_rfl) (by kernel_rfl) (by kernel_rfl) (by kernel_rfl) (fun _ _ _ h => h) (Or.inl ⟨by rfl, ?_⟩) hHeld ?_
  rotate_left
  · (intro w hSw; obtain ⟨z0, z1, z2, z3, z4⟩ := hSw; go_simp; try with_reducible rfl)
  try simp only [Act.put, List.setIfInBounds_toArray, List.set_cons_zero, List.set_cons_succ]
  refine take_putH (i := 7) (v := ?_) (some 50) rfl (by kernel_rfl) (by kernel_rfl) (by kernel_rfl) (by kernel_rfl) (fun _ _ _ h => h) (Or.inl ⟨by rfl, ?_⟩) hHeld ?_
  rotate_left
  · (intro w hSw; obtain ⟨z0, z1, z2, z3, z4⟩ := hSw; go_simp; try with_reducible rfl)
  try simp only [Act.put, List.setIfInBounds_toArray, List.set_cons_zero, List.set_cons_succ]
  refine take_putH (i := 8) (v := ?_) (some 51) rfl (by kernel_rfl) (by kernel_rfl) (by kernel_rfl) (by kernel_rfl) (fun _ _ _ h => h) (Or.inl ⟨by rfl, ?_⟩) hHeld ?_
  rotate_left
  · (intro w hSw; obtain ⟨z0, z1, z2, z3, z4⟩ := hSw; go_simp; try with_reducible rfl)
  try simp only [Act.put, List.setIfInBounds_toArray, List.set_cons_zero, List.set_cons_succ]
  refine take_putH (i := 9) (v := ?_) (some 52) rfl (by kernel_rfl) (by kernel_rfl) (by kernel_rfl) (by kernel_rfl) (fun _ _ _ h => h) (Or.inl ⟨by rfl, ?_⟩) hHeld ?_
  rotate_left
  · (intro w hSw; obtain ⟨z0, z1, z2, z3, z4⟩ := hSw; go_simp; try with_reducible rfl)
  try simp only [Act.put, List.setIfInBounds_toArray, List.set_cons_zero, List.set_cons_succ]
  refine take_putH (i := 10) (v := ?_) (some 53) rfl (by kernel_rfl) (by kernel_rfl) (by kernel_rfl) (by kernel_rfl) (fun _ _ _ h => h) (Or.inl ⟨by rfl, ?_⟩) hHeld ?_
  rotate_left
  · (intro w hSw; obtain ⟨z0, z1, z2, z3, z4⟩ := hSw; go_simp; try with_reducible rfl)
  try simp only [Act.put, List.setIfInBounds_toArray, List.set_cons_zero, List.set_cons_succ]
  refine take_putH (i := 11) (v := ?_) (some 54) rfl (by kernel_rfl) (by kernel_rfl) (by kernel_rfl) (by kernel_rfl) (fun _ _ _ h => h) (Or.inl ⟨by rfl, ?_⟩) hHeld ?_
  rotate_left
  · (intro w hSw; obtain ⟨z0, z1, z2, z3, z4⟩ := hSw; go_simp; try with_reducible rfl)
  try simp only [Act.put, List.setIfInBounds_toArray, List.set_cons_zero, List.set_cons_succ]
  refine take_putH (i := 12) (v := ?_) (some 55) rfl (by kernel_rfl) (by kernel_rfl) (by kernel_rfl) (by kernel_rfl) (fun _ _ _ h => h) (Or.inl ⟨by rfl, ?_⟩) hHeld ?_
  rotate_left
  · (intro w hSw; obtain ⟨z0, z1, z2, z3, z4⟩ := hSw; go_simp; try with_reducible rfl)
  try simp only [Act.put, List.setIfInBounds_toArray, List.set_cons_zero, List.set_cons_succ]
  have hHd : Hid (wd.cell? ⟨w.heap.size, 0, none⟩ = some (.int .u8 (kd : Int)) ∧ wd.cell? ⟨w.heap.size, 1, none⟩ = some (.slice ba bn bc) ∧ wd.cell? ⟨g, 0, none⟩ = some (.int .i64 (lf : Int)) ∧ wd.cell? ⟨g, 1, none⟩ = some (.int .i64 (ot : Int)) ∧ wd.cell? ⟨g, 2, none⟩ = some (.int .i64 ((la : Int) + 1))) := hHeld
  clear hHeld
  refine wpAnyH_ready (rs := [13]) (by kernel_rfl) (by simp) ?_
  refine AllReadyH.cons rfl (fun K hK => ?_) AllReadyH.nil
  go_simp
  obtain ⟨w6, HW6⟩ : ∃ w6, Hid (w6 = wd.alloc (.cells #[.int .i64 (lf : Int), .int .i64 (ot : Int), .int .i64 ((la : Int) + 1)] 3)) := ⟨_, rfl⟩
  rw [← HW6.out]
  have hb6 : Below wd.heap.size wd w6 := by rw [HW6.out]; exact below_new _ _
  have HI6 : Hid (Bk w6 wd.heap.size (nvs [lf, ot, la + 1]) 3) := by rw [HW6.out]; exact Bk.new _ _ _
  have HC6 : Hid (Bk w6 w.heap.size #[.int .u8 (kd : Int), .slice ba bn bc] 70) := HCd.out.stay hb6
  have HL6 : Hid (LkIn w6 base g (.slice (some ⟨gv, 0, none⟩) m c) T { l with last := (la : Int) + 1 }) := HLd.out.below hb6
  have h6 : w6.cell? ⟨w.heap.size, 0, none⟩ = some (.int .u8 (kd : Int)) ∧ w6.cell? ⟨w.heap.size, 1, none⟩ = some (.slice ba bn bc) ∧ w6.cell? ⟨g, 0, none⟩ = some (.int .i64 (lf : Int)) ∧ w6.cell? ⟨g, 1, none⟩ = some (.int .i64 (ot : Int)) ∧ w6.cell? ⟨g, 2, none⟩ = some (.int .i64 ((la : Int) + 1)) := ⟨HC6.out.cell 0 rfl, HC6.out.cell 1 rfl, by rw [← HE.out.1]; exact HL6.out.blk.cell 0 rfl, by rw [← HE.out.2.1]; exact HL6.out.blk.cell 1 rfl, HL6.out.blk.cell 2 rfl⟩
  have HR6 : Hid (Rd w6 ba bn rest) := HRd.out.below hb6
  have HF6 : Hid (Fr w w6 g (.slice (some ⟨gv, 0, none⟩) (m + 1) c)) := HFd.out.trans (Fr.of hb6) trivial
  have HT6 : Hid (Tab w6) := HTd.out.below H0d.out hb6
  have H06 : Hid (0 < w6.heap.size) := Nat.lt_of_lt_of_le H0d.out hb6.size
  clear hb6
  refine hK.out _ _ h6 (fun _ => ?_)
  clear hK K
  try simp only [Act.put, List.getElem_toArray, List.getElem_cons_succ, List.getElem_cons_zero, List.setIfInBounds_toArray, List.set_cons_zero, List.set_cons_succ]
  refine wpAnyH_ready (rs := [14]) (by kernel_rfl) (by simp) ?_
  refine AllReadyH.cons rfl (fun K hK => ?_) AllReadyH.nil
  go_simp
  refine (lk_write kd hkd ba bn bc rest wd.heap.size [lf, ot, la + 1] w6 HR6.out HBZ.out HI6.out HNS.out (by simp) hlen HT6.out H06.out).mono ?_
  rintro e w7 ⟨⟨gf, he, HO7⟩, hb7⟩
  subst he
  have HL7 : Hid (LkIn w7 base g (.slice (some ⟨gv, 0, none⟩) m c) T { l with last := (la : Int) + 1 }) := HL6.out.below hb7
  have HF7 : Hid (Fr w w7 g (.slice (some ⟨gv, 0, none⟩) (m + 1) c)) := HF6.out.trans (Fr.of hb7) trivial
  have h7 : w7.cell? ⟨w.heap.size, 0, none⟩ = some (.int .u8 (kd : Int)) ∧ w7.cell? ⟨w.heap.size, 1, none⟩ = some (.slice ba bn bc) ∧ w7.cell? ⟨g, 0, none⟩ = some (.int .i64 (lf : Int)) ∧ w7.cell? ⟨g, 1, none⟩ = some (.int .i64 (ot : Int)) ∧ w7.cell? ⟨g, 2, none⟩ = some (.int .i64 ((la : Int) + 1)) := ⟨(HC6.out.stay hb7).cell 0 rfl, (HC6.out.stay hb7).cell 1 rfl, by rw [← HE.out.1]; exact HL7.out.blk.cell 0 rfl, by rw [← HE.out.2.1]; exact HL7.out.blk.cell 1 rfl, HL7.out.blk.cell 2 rfl⟩
  have HO7w : Hid (Own w7 w.heap.size (some ⟨gf, 0, none⟩) ((lebs [lf, ot, la + 1]).length + bn + 8) ((lebs [lf, ot, la + 1]).length + bn + 8) (SealM.sealed kd (lebs [lf, ot, la + 1] ++ rest))) := HO7.out.under HF6.out.all.size
  clear hb7
  refine hK.out _ _ h7 (fun _ => ?_)
  clear hK K
  try simp only [Act.put, List.getElem_toArray, List.getElem_cons_succ, List.getElem_cons_zero, List.setIfInBounds_toArray, List.set_cons_zero, List.set_cons_succ]
  refine take_putH (i := 15) (v := ?_) (some 2) rfl (by kernel_rfl) (by kernel_rfl) (by kernel_rfl) (by kernel_rfl) (fun _ _ _ h => h) (Or.inl ⟨by rfl, ?_⟩) h7 ?_
  rotate_left
  · (intro w hSw; obtain ⟨z0, z1, z2, z3, z4⟩ := hSw; go_simp; try with_reducible rfl)
  try simp only [Act.put, List.setIfInBounds_toArray, List.set_cons_zero, List.set_cons_succ]
  refine take_putH (i := 16) (v := ?_) (some 3) rfl (by kernel_rfl) (by kernel_rfl) (by kernel_rfl) (by kernel_rfl) (fun _ _ _ h => h) (Or.inl ⟨by rfl, ?_⟩) h7 ?_
  rotate_left
  · (intro w hSw; obtain ⟨z0, z1, z2, z3, z4⟩ := hSw; go_simp; try with_reducible rfl)
  try simp only [Act.put, List.setIfInBounds_toArray, List.set_cons_zero, List.set_cons_succ]
  refine wpAnyH_done (by kernel_rfl) ?_ _
  clear h6 h7
  go_wp2
  go_ret2
  exact ⟨⟨gf, rfl, HO7w⟩, ⟨_, HL7.out⟩, HF7.out⟩
end Go.Proofs.YtbloomepdchjhaaDoor
/- grapevinelaw14: live; a nil link. -/
namespace Go.Proofs.YtbloomepdchjhaaDoor
open Go.RowKit

theorem Fr.below {w w' : World} {g B : Nat} {v : Value} (h : Fr w w' g v) (hg : B ≤ g) (hv : ∀ k, v.ownBlock = some k → B ≤ k) (hb : B ≤ w.heap.size) : Below B w w' :=
  ⟨h.all.os, h.all.tape, h.all.output, h.all.size, fun k hk => h.blk k (Nat.lt_of_lt_of_le hk hb) (by omega) (fun e => by have := hv k e.symm; omega)⟩
theorem LkIn.form {w : World} {base g m : Nat} {wv : Value} {L : List (Wt × Bd)} {l : Lk} (h : LkIn w base g wv L l) (hm : L.length = m + 1) : ∃ gv c, wv = .slice (some ⟨gv, 0, none⟩) (m + 1) c ∧ base ≤ gv := by
  rcases h.row.2 with ⟨_, h0⟩ | ⟨gv, c, cur, hv, hb, _⟩
  · omega
  · exact ⟨gv, c, by rw [hv, hm], hb⟩
theorem live_chk14 : chk ⟨2, 0, 0, 0, 1, 2, [], []⟩ = 0 := by decide
theorem live_put14 : putD ⟨2, 0, 0, 0, 1, 2, [], []⟩ = [2, 0, 1, 2] := by decide +kernel
theorem live_lebs : lebs [3, 0, 1] = [3, 0, 1] := by decide +kernel

set_option maxRecDepth 100000 in
set_option maxHeartbeats 2000000 in
theorem law_live14 (w : World) (ht : Tab w) (h0 : 0 < w.heap.size) : Calls Tryd.prog 12 #[] w fun e w' => e = .returned (.bool true) ∧ Below w.heap.size w w' := by
  have HT : Hid (Tab w) := ht
  have HLB : Hid (lebs [3, 0, 1] = [3, 0, 1]) := live_lebs
  have HCZ : Hid (chk ⟨2, 0, 0, 0, 1, 2, [], []⟩ = 0) := live_chk14
  clear ht
  go_enter Tryd.func12, Tryd.ntmps12
  go_wp2_with fail
  refine (lk_New 3 2 w (by omega) (by omega) (by omega) (by omega)).mono ?_
  rintro e w1 ⟨rfl, HL1, hb1⟩
  have HB1 : Hid (Below w.heap.size w w1) := hb1
  clear hb1
  go_wp2_with fail
  refine (lk_Send_ok w1 w.heap.size w.heap.size (.slice none 0 0) [] _ HL1.out ⟨2, 0, 0, 0, 1, 2, [], []⟩ none 0 0 none 0 0 ⟨⟨rfl, .inl rfl⟩, ⟨rfl, .inl rfl, fun q hq => (by cases hq)⟩, by omega, by omega, by omega, by omega⟩ HCZ.out (by show (0 : Int) < 2; omega) (by simp)).mono ?_
  rintro e w2 ⟨rfl, HL2, hf2⟩
  have HB2 : Hid (Below w.heap.size w w2) := HB1.out.trans (hf2.below (Nat.le_refl _) (fun k hk => by cases hk) HB1.out.size)
  obtain ⟨v2, b2, hL2⟩ := HL2.out
  rw [live_put14] at hL2
  simp only [List.nil_append] at hL2
  obtain ⟨gv, c2, rfl, hgv⟩ := hL2.form (m := 0) rfl
  have HLK : Hid (LkIn w2 w.heap.size w.heap.size (.slice (some ⟨gv, 0, none⟩) (0 + 1) c2) [(⟨1, [2, 0, 1, 2]⟩, b2)] ⟨3, 0, 0, 2, 0, 0, -1⟩) := hL2
  have HGV : Hid (w.heap.size ≤ gv) := hgv
  have hpl := lk_Pull_ok w2 w.heap.size w.heap.size gv 0 c2 (⟨1, [2, 0, 1, 2]⟩, b2) [] ⟨3, 0, 0, 2, 0, 0, -1⟩ hL2 rfl 3 0 0 rfl rfl rfl (by omega) (by omega) (by omega) (by rw [Nat.zero_add, HLB.out]; show 7 ≤ 4096; omega) (HT.out.below h0 HB2.out) (Nat.lt_of_lt_of_le h0 HB2.out.size) h0 h0
  rw [Nat.zero_add, HLB.out] at hpl
  simp only [List.length_cons, List.length_nil, Nat.reduceAdd, List.cons_append, List.nil_append] at hpl
  have HPL : Hid (Calls Tryd.prog 9 #[.pointer (some ⟨w.heap.size, 0, none⟩)] w2 fun e w' => (∃ gf, e = .returned (.tuple #[.slice (some ⟨gf, 0, none⟩) 15 15, .bool true]) ∧ Hid (Own w' w2.heap.size (some ⟨gf, 0, none⟩) 15 15 (SealM.sealed 1 [3, 0, 1, 2, 0, 1, 2]))) ∧ Fr w2 w' w.heap.size (.slice (some ⟨gv, 0, none⟩) 1 c2)) := by
    refine hpl.mono ?_
    rintro e w' ⟨h1, _, h2⟩
    exact ⟨h1, h2⟩
  clear hpl hL2 HL2 hf2 hgv HL1
  go_wp2_with fail
  refine HPL.out.mono ?_
  rintro e w3 ⟨⟨gf, he, HO3⟩, hf3⟩
  subst he
  have HBw3 : Hid (Below w.heap.size w w3) := HB2.out.trans (hf3.below (Nat.le_refl _) (fun k hk => by simp only [Value.ownBlock, Option.some.injEq] at hk; have := HGV.out; omega) HB2.out.size)
  obtain ⟨S, HSS⟩ : ∃ S, Hid (S = str (SealM.sealed 1 [3, 0, 1, 2, 0, 1, 2])) := ⟨_, rfl⟩
  have HCV : Hid (∀ w', Below w3.heap.size w3 w' → (convert 42 9 (.slice (some ⟨gf, 0, none⟩) 15 15)).run Tryd.prog w' = .ok (.string S) w') := fun w' hb => by rw [conv_rd (HO3.out.rd.below hb) 15, HSS.out]
  clear hf3 HPL
  go_wp2
  obtain ⟨wd, HWD⟩ : ∃ wd, Hid (wd = w3.drew) := ⟨_, rfl⟩
  have HBd : Hid (Below w3.heap.size w3 wd) := by rw [HWD.out]; exact below_drew (Below.refl _ _)
  refine wp_region_held_drew (S := fun w' => (convert 42 9 (.slice (some ⟨gf, 0, none⟩) 15 15)).run Tryd.prog w' = .ok (.string S) w') (by kernel_rfl) (by rw [← HWD.out]; exact HCV.out _ HBd.out) (fun hHeld => ?_)
  rw [← HWD.out] at hHeld ⊢
  refine take_putH (i := 0) (v := ?_) (some 26) rfl (by kernel_rfl) (by kernel_rfl) (by kernel_rfl) (by kernel_rfl) (fun _ _ _ h => h) (Or.inl ⟨by rfl, ?_⟩) hHeld ?_
  rotate_left
  · (intro w hSw; go_simp; try with_reducible rfl)
  try simp only [Act.put, List.setIfInBounds_toArray, List.set_cons_zero, List.set_cons_succ]
  refine take_putH (i := 1) (v := ?_) (some 27) rfl (by kernel_rfl) (by kernel_rfl) (by kernel_rfl) (by kernel_rfl) (fun _ _ _ h => h) (Or.inl ⟨by rfl, ?_⟩) hHeld ?_
  rotate_left
  · (intro w hSw; go_simp; try with_reducible rfl)
  try simp only [Act.put, List.setIfInBounds_toArray, List.set_cons_zero, List.set_cons_succ]
  refine take_putH (i := 2) (v := ?_) (some 28) rfl (by kernel_rfl) (by kernel_rfl) (by kernel_rfl) (by kernel_rfl) (fun _ _ _ h => h) (Or.inl ⟨by rfl, ?_⟩) hHeld ?_
  rotate_left
  · (intro w hSw; go_simp; try with_reducible rfl)
  try simp only [Act.put, List.setIfInBounds_toArray, List.set_cons_zero, List.set_cons_succ]
  refine take_putH (i := 3) (v := ?_) (some 29) rfl (by kernel_rfl) (by kernel_rfl) (by kernel_rfl) (by kernel_rfl) (fun _ _ _ h => h) (Or.inl ⟨by rfl, ?_⟩) hHeld ?_
  rotate_left
  · (intro w hSw; go_simp; try with_reducible rfl)
  try simp only [Act.put, List.setIfInBounds_toArray, List.set_cons_zero, List.set_cons_succ]
  refine wpAnyH_ready (rs := [4]) (by kernel_rfl) (by simp) ?_
  refine AllReadyH.cons rfl (fun K hK => ?_) AllReadyH.nil
  go_simp
  obtain ⟨w5, HW5⟩ : ∃ w5, Hid (w5 = wd.alloc (.cells #[.int .u8 2, .int .u8 0, .int .u8 1, .int .u8 2] 5)) := ⟨_, rfl⟩
  rw [← HW5.out]
  have hb5 : Below wd.heap.size wd w5 := by rw [HW5.out]; exact below_new _ _
  have HR5 : Hid (Rd w5 (some ⟨wd.heap.size, 0, none⟩) 4 [2, 0, 1, 2]) := by rw [HW5.out]; exact (Own.new wd 0 #[.int .u8 2, .int .u8 0, .int .u8 1, .int .u8 2] [2, 0, 1, 2] (by decide) rfl (Nat.zero_le _) (by show 4 ≤ maxLen; unfold maxLen; omega)).rd
  have HB5 : Hid (Below w3.heap.size w3 w5) := HBd.out.trans (hb5.mono HBd.out.size)
  clear hb5
  refine hK.out _ _ (HCV.out _ HB5.out) (fun _ => ?_)
  clear hK K
  try simp only [Act.put, List.getElem_toArray, List.getElem_cons_succ, List.getElem_cons_zero, List.setIfInBounds_toArray, List.set_cons_zero, List.set_cons_succ]
  refine wpAnyH_ready (rs := [5]) (by kernel_rfl) (by simp) ?_
  refine AllReadyH.cons rfl (fun K hK => ?_) AllReadyH.nil
  go_simp
  refine (ref_Frame 1 3 0 1 (by omega) (by omega) (by omega) (by omega) (some ⟨wd.heap.size, 0, none⟩) 4 4 [2, 0, 1, 2] w5 HR5.out (fun e => by cases e) (by rw [HLB.out]; decide)).mono ?_
  rintro e w6 ⟨⟨a6, c6, he, HO6⟩, hb6⟩
  rw [HLB.out] at he HO6
  simp only [List.length_cons, List.length_nil, Nat.reduceAdd, List.cons_append, List.nil_append] at he HO6
  subst he
  have HB6 : Hid (Below w3.heap.size w3 w6) := HB5.out.trans (hb6.mono HB5.out.size)
  clear hb6
  refine hK.out _ _ (HCV.out _ HB6.out) (fun _ => ?_)
  clear hK K
  try simp only [Act.put, List.getElem_toArray, List.getElem_cons_succ, List.getElem_cons_zero, List.setIfInBounds_toArray, List.set_cons_zero, List.set_cons_succ]
  refine wpAnyH_ready (rs := [6]) (by kernel_rfl) (by simp) ?_
  refine AllReadyH.cons rfl (fun K hK => ?_) AllReadyH.nil
  have x6 : (convert 42 9 (.slice a6 15 c6)).run Tryd.prog w6 = .ok (.string S) w6 := by rw [conv_rd HO6.out.rd c6, HSS.out]
  go_simp
  refine hK.out _ _ (HCV.out _ HB6.out) (fun _ => ?_)
  clear hK K
  try simp only [Act.put, List.getElem_toArray, List.getElem_cons_succ, List.getElem_cons_zero, List.setIfInBounds_toArray, List.set_cons_zero, List.set_cons_succ]
  refine take_putH (i := 7) (v := ?_) (some 33) rfl (by kernel_rfl) (by kernel_rfl) (by kernel_rfl) (by kernel_rfl) (fun _ _ _ h => h) (Or.inl ⟨by rfl, ?_⟩) (HCV.out _ HB6.out) ?_
  rotate_left
  · (intro w hSw; go_simp; try with_reducible rfl)
  try simp only [Act.put, List.setIfInBounds_toArray, List.set_cons_zero, List.set_cons_succ]
  refine take_putH (i := 8) (v := ?_) (some 34) rfl (by kernel_rfl) (by kernel_rfl) (by kernel_rfl) (by kernel_rfl) (fun _ _ _ h => h) (Or.inl ⟨by rfl, ?_⟩) (HCV.out _ HB6.out) ?_
  rotate_left
  · (intro w hSw; go_simp; try with_reducible rfl)
  try simp only [Act.put, List.setIfInBounds_toArray, List.set_cons_zero, List.set_cons_succ]
  refine take_putH (i := 9) (v := ?_) (some 0) rfl (by kernel_rfl) (by kernel_rfl) (by kernel_rfl) (by kernel_rfl) (fun _ _ _ h => h) (Or.inl ⟨by rfl, ?_⟩) (HCV.out _ HB6.out) ?_
  rotate_left
  · (intro w hSw; go_simp; try with_reducible rfl)
  try simp only [Act.put, List.setIfInBounds_toArray, List.set_cons_zero]
  refine wpAnyH_done (by kernel_rfl) ?_ _
  go_wp2
  go_ret
  exact ⟨by simp, HBw3.out.trans (HB6.out.mono HBw3.out.size)⟩

section
theorem nil_Pull (w : World) : Calls Tryd.prog 9 #[.pointer none] w fun e w' => e = .returned (.tuple #[.slice none 0 0, .bool false]) ∧ w' = w := by
  go_enter Tryd.func9, Tryd.ntmps9
  go_wp2
  go_ret2
  exact ⟨rfl, rfl⟩
theorem nil_Probe (w : World) : Calls Tryd.prog 14 #[.pointer none] w fun e w' => e = .returned (.int .i64 1) ∧ w' = w := by
  go_enter Tryd.func14, Tryd.ntmps14
  go_wp2
  go_ret
  exact ⟨rfl, rfl⟩
theorem nil_Waits (w : World) : Calls Tryd.prog 13 #[.pointer none] w fun e w' => e = .returned (.int .i64 0) ∧ w' = w := by
  go_enter Tryd.func13, Tryd.ntmps13
  go_wp2
  go_ret
  exact ⟨rfl, rfl⟩
theorem nil_Send (w : World) (p : Pc) (sa : Option Addr) (sn sc : Nat) (ia : Option Addr) (im ic : Nat) : Calls Tryd.prog 7 #[.pointer none, p.val sa sn sc ia im ic] w fun e w' => e = .returned (.int .i64 1) ∧ Below w.heap.size w w' := by
  have HB : ∀ o, Hid (Below w.heap.size w (w.alloc o)) := fun o => below_new _ _
  go_enter Tryd.func7, Tryd.ntmps7
  go_wp2
  go_ret
  exact ⟨rfl, (HB _).out⟩
theorem nil_Take (w : World) (a : Option Addr) (n c : Nat) (x : Int) : Calls Tryd.prog 10 #[.pointer none, .slice a n c, .int .i64 x] w fun e w' => e = .returned (.tuple #[.agg #[.int .i64 0, .int .i64 0, .int .i64 0, .int .i64 0, .int .i64 0, .int .i64 0, .slice none 0 0, .slice none 0 0], .bool false, .int .i64 1]) ∧ Below w.heap.size w w' := by
  have HB : ∀ o, Hid (Below w.heap.size w (w.alloc o)) := fun o => below_new _ _
  go_enter Tryd.func10, Tryd.ntmps10
  go_wp2
  go_returns
  exact ⟨rfl, (HB _).out⟩
end
end Go.Proofs.YtbloomepdchjhaaDoor
