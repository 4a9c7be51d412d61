/- The reference's disk: put. -/
import Derived.Test.YtghajmcohdedlaaRkP
import Derived.Test.YtghajmcohdedlaaStep
namespace Go.Proofs.Ytghajmcohdedlaa
open Go.RowKit

/-- A sector is another one. -/
theorem Rk.replaced {w : World} {base r q rs n c : Nat} {wv : Value} {SV WV : List Value} {D : Dk} (h : Rk w base r q (.slice (some ⟨rs, 0, none⟩) n c) wv SV WV D) {i : Nat} (hi : i < D.sure.length) {v : Value} {s : List Nat} (hb : Byt w q v s) :
    Rk (w.setCell ⟨rs, i, none⟩ v) base r q (.slice (some ⟨rs, 0, none⟩) n c) wv (SV.set i v) WV { D with sure := D.sure.set i s } ∧ Mr w (w.setCell ⟨rs, i, none⟩ v) base := by
  have hn : n = D.sure.length := by
    obtain ⟨_, _, e, _⟩ := h.form
    simp only [Value.slice.injEq] at e
    exact e.2.1
  subst hn
  have hc := grown_cell w rs i v
  have hbs : base ≤ w.heap.size := Nat.le_trans h.br (Nat.le_of_lt h.blk.lt)
  have m : Mr w (w.setCell ⟨rs, i, none⟩ v) base := Mr.of_own (.inl rfl) h.srow hc hbs
  have hmv : ∀ (k : Nat) cur, w.heap[k]? = some (.cells cur 5 (0, 0)) → k ≠ q → (w.setCell ⟨rs, i, none⟩ v).heap[k]? = some (.cells cur 5 (0, 0)) := fun k cur hk _ => m.block k cur _ _ hk (by decide) (by decide) (by decide)
  have hne : ∀ (k : Nat) cs t, w.heap[k]? = some (.cells cs t (0, 0)) → t ≠ 49 → (w.setCell ⟨rs, i, none⟩ v).heap[k]? = some (.cells cs t (0, 0)) := fun k cs t hk ht => by
    rw [hc.block k (heap_lt hk) (own_ne' h.srow hk ht)]
    exact hk
  have hsl : SV.length = D.sure.length := by have := h.srow.1; omega
  refine ⟨⟨hne r _ _ h.blk (by decide), ?_, own_type h.wrow (fun k cs hk => hne k cs _ hk (by decide)), h.br, by simpa using h.s1, by simpa using h.sz, fun j s' hs' => ?_, fun j p hp => ?_, h.tr, h.ag, h.wl⟩, m⟩
  · simp only [List.length_set]
    exact (h.srow.stored i v).1
  · simp only at hs'
    by_cases hij : i = j
    · subst hij
      rw [List.getElem?_set_self hi, Option.some.injEq] at hs'
      subst hs'
      exact ⟨v, by rw [List.getElem?_set_self (by omega)], hb.move hmv⟩
    · rw [List.getElem?_set_ne hij] at hs'
      obtain ⟨v', h1, h2⟩ := h.each j s' hs'
      exact ⟨v', by rw [List.getElem?_set_ne hij]; exact h1, h2.move hmv⟩
  · obtain ⟨g0, g1, v', g2, g3⟩ := h.puts j p hp
    exact ⟨by simpa using g0, g1, v', g2, g3.move hmv⟩
theorem Rd.prefix {w : World} {k n : Nat} {bs : List Nat} (h : Rd w (some ⟨k, 0, none⟩) n bs) {m : Nat} (hm : m ≤ n) : Rd w (some ⟨k, 0, none⟩) m (bs.take m) := by
  have hl := h.size
  refine ⟨by rw [List.length_take]; omega, fun b hb => h.byte b (List.mem_of_mem_take hb), ?_⟩
  rcases h.cells with h0 | ⟨b, off, ha, hlt, hc⟩
  · exact .inl (by omega)
  · refine .inr ⟨b, off, ha, hlt, fun i hi => ?_⟩
    rw [hc i (by omega), List.getD_eq_getElem?_getD, List.getD_eq_getElem?_getD, List.getElem?_take_of_lt hi]
theorem Rd.rest {w : World} {k n : Nat} {bs : List Nat} (h : Rd w (some ⟨k, 0, none⟩) n bs) {m : Nat} (hm : m ≤ n) : Rd w (some ⟨k, m, none⟩) (n - m) (bs.drop m) := by
  have hl := h.size
  refine ⟨by rw [List.length_drop]; omega, fun b hb => h.byte b (List.mem_of_mem_drop hb), ?_⟩
  rcases h.cells with h0 | ⟨b, off, ha, hlt, hc⟩
  · exact .inl (by omega)
  · simp only [Option.some.injEq, Addr.mk.injEq, and_true] at ha
    obtain ⟨rfl, rfl⟩ := ha
    refine .inr ⟨k, m, rfl, hlt, fun i hi => ?_⟩
    have := hc (m + i) (by omega)
    rw [Nat.zero_add] at this
    rw [this, List.getD_eq_getElem?_getD, List.getD_eq_getElem?_getD, List.getElem?_drop]
theorem Rd.none_left {w : World} {a : Option Addr} {n : Nat} {bs : List Nat} (hn : n = 0) (hb : bs = []) : Rd w a n bs := ⟨by rw [hn, hb]; rfl, by rw [hb]; simp, .inl hn⟩

/-- What put makes of a disk. -/
def putD (D : Dk) (p : Nat × List Nat) (m : Nat) : Dk := { D with sure := D.sure.set p.1 (p.2.take m ++ (D.sure.getD p.1 []).drop m) }

set_option maxRecDepth 100000 in
set_option maxHeartbeats 4000000 in
theorem ref_put (w : World) (base r q : Nat) (sv wv : Value) (SV WV : List Value) (D : Dk) (h : Rk w base r q sv wv SV WV D) (hq : q < w.heap.size) (pa : Nat) (L : List Nat) (k c : Nat) (hb : Byt w q (.slice (some ⟨k, 0, none⟩) 64 c) L) (hp : pa < D.sure.length) (m : Nat) (hm : m ≤ 64) :
    Calls Try.prog 47 #[.pointer (some ⟨r, 0, none⟩), .agg #[.int .i64 (pa : Int), .slice (some ⟨k, 0, none⟩) 64 c], .int .i64 (m : Int)] w fun e w' => e = .returned (.tuple #[]) ∧ Hid (∃ SV', Rk w' base r q sv wv SV' WV (putD D (pa, L) m)) ∧ Mr w w' base := by
  have HBS : Hid (base ≤ w.heap.size) := Nat.le_trans h.br (Nat.le_of_lt h.blk.lt)
  obtain ⟨rs, cs, rfl, _⟩ := h.form
  obtain ⟨ns, hns⟩ : ∃ ns, ns = D.sure.length := ⟨_, rfl⟩
  have HD : Hid (Rk w base r q (.slice (some ⟨rs, 0, none⟩) ns cs) wv SV WV D) := by rw [hns]; exact h
  rw [← hns]
  have HNS : Hid (ns = D.sure.length) := hns
  have hnsb : ns ≤ 512 := by rw [hns]; exact h.sz
  obtain ⟨_, _, he, h64, hcm, hrL, cur, hkL⟩ := hb.slice
  simp only [Value.slice.injEq, Option.some.injEq, Addr.mk.injEq, and_true, true_and] at he
  obtain ⟨rfl, rfl⟩ := he
  have HLS : Hid (Sec L) := hb.sec
  have HRL : Hid (Rd w (some ⟨k, 0, none⟩) 64 L) := hrL
  obtain ⟨s0, hs0⟩ : ∃ s0, D.sure[pa]? = some s0 := ⟨D.sure[pa], List.getElem?_eq_getElem hp⟩
  have HS0 : Hid (D.sure[pa]? = some s0) := hs0
  have HPD : Hid (putD D (pa, L) m = { D with sure := D.sure.set pa (L.take m ++ s0.drop m) }) := by
    show _ = _
    rw [putD]
    simp only
    rw [List.getD_eq_getElem?_getD, hs0]
    rfl
  have HPA : Hid (pa < D.sure.length) := hp
  rw [HPD.out]
  have hpa : pa < ns := by omega
  have q1 : (0 : Int) ≤ (pa : Int) := by omega
  have q2 : (pa : Int) < (ns : Int) := by omega
  have q3 : (0 : Int) ≤ (m : Int) := by omega
  have q4 : (m : Int) ≤ 64 := by omega
  have q5 : (m : Int) ≤ (c : Int) := by omega
  have q6 : ¬ c = 0 := by omega
  have HQ : Hid (q < w.heap.size) := hq
  clear h hns hb hs0 hp hkL hrL hq
  obtain ⟨W1, HW1⟩ : ∃ W1, Hid (W1 = w.alloc (.cells #[.int .i64 (pa : Int), .slice (some ⟨k, 0, none⟩) 64 c] 103)) := ⟨_, rfl⟩
  have HB1 : Hid (Below w.heap.size w W1) := by show Below _ _ _; rw [HW1.out]; exact below_alloc _ _
  have HZ1 : Hid (W1.heap.size = w.heap.size + 1) := by show _ = _; rw [HW1.out]; simp
  have HK1 : Hid (Blk W1 w.heap.size #[.int .i64 (pa : Int), .slice (some ⟨k, 0, none⟩) 64 c] 103) := by show Blk _ _ _ _; rw [HW1.out]; exact Blk.new _ _ _
  have e1 : ((w.alloc (.cells #[.int .i64 (pa : Int), .slice (some ⟨k, 0, none⟩) 64 c] 103)).alloc (.cells #[] 5)).cell? ⟨w.heap.size, 1, none⟩ = some (.slice (some ⟨k, 0, none⟩) 64 c) := ((Blk.new w _ _).stay (below_alloc _ _)).cell 1 rfl
  have HOW : Hid (Own ((w.alloc (.cells #[.int .i64 (pa : Int), .slice (some ⟨k, 0, none⟩) 64 c] 103)).alloc (.cells #[] 5)) (w.heap.size + 1) (some ⟨w.heap.size + 1, 0, none⟩) 0 0 []) := Own.empty2 w _
  have HBA : Hid (Below W1.heap.size W1 ((w.alloc (.cells #[.int .i64 (pa : Int), .slice (some ⟨k, 0, none⟩) 64 c] 103)).alloc (.cells #[] 5))) := by show Below _ _ _; rw [HW1.out]; exact below_alloc _ _
  have HRM : Hid (Rd ((w.alloc (.cells #[.int .i64 (pa : Int), .slice (some ⟨k, 0, none⟩) 64 c] 103)).alloc (.cells #[] 5)) (some ⟨k, 0, none⟩) m (L.take m)) := ((HRL.out.below HB1.out).below HBA.out).prefix hm
  have HSZ : Hid (w.heap.size + 1 ≤ ((w.alloc (.cells #[.int .i64 (pa : Int), .slice (some ⟨k, 0, none⟩) 64 c] 103)).alloc (.cells #[] 5)).heap.size) := by show _ ≤ _; simp
  go_enter Try.func47, Try.ntmps47
  go_wp2_with (guard_target =~ wpList _ _ _ (Oper.mk (some 12) _ _ _ _ _ :: _) _ _; refine wpList_append_rd rfl (.tmp 7) (.tmp 11) rfl (w.heap.size + 1) (some ⟨w.heap.size + 1, 0, none⟩) 0 0 [] rfl HOW.out (some ⟨k, 0, none⟩) m c (L.take m) rfl HRM.out (fun e => by cases e) (by omega) HSZ.out ?_)
  intro a3 c3 w3 ho3 hg3 hb3
  have HO3 : Hid (Own w3.drew W1.heap.size a3 m c3 (L.take m)) := by
    have : Own w3 (w.heap.size + 1) a3 m c3 (L.take m) := by simpa using ho3
    rw [← HZ1.out] at this
    exact this.drew
  have HB3 : Hid (Below W1.heap.size W1 w3.drew) := (HBA.out.trans (by rw [HZ1.out]; exact hb3)).drew
  clear ho3 hg3 hb3 e1
  have HB03 : Hid (Below w.heap.size w w3.drew) := HB1.out.trans (HB3.out.mono HB1.out.size)
  have HD3 : Hid (Rk w3.drew base r q (.slice (some ⟨rs, 0, none⟩) ns cs) wv SV WV D) := HD.out.stay HB03.out
  have HK3 : Hid (Blk w3.drew w.heap.size #[.int .i64 (pa : Int), .slice (some ⟨k, 0, none⟩) 64 c] 103) := HK1.out.below HB3.out (by rw [HZ1.out]; omega)
  have HM3 : Hid (Mr w w3.drew base) := Mr.of_below HB03.out HBS.out
  obtain ⟨k2, c2, cc, h642, hcm2, hrd2, _, hk2l⟩ := HD3.out.sureAt HS0.out
  have c0 : w3.drew.cell? ⟨r, 0, none⟩ = some (.slice (some ⟨rs, 0, none⟩) ns cs) := HD3.out.blk.cell 0 rfl
  have ca : w3.drew.cell? ⟨w.heap.size, 0, none⟩ = some (.int .i64 (pa : Int)) := HK3.out.cell 0 rfl
  have HR2 : Hid (Rd w3.drew (some ⟨k2, 0, none⟩) 64 s0) := hrd2
  clear hrd2 hk2l
  have HOB : Hid (∀ j, Value.ownBlock (.slice a3 m c3) = some j → W1.heap.size ≤ j) := fun j hj => (HO3.out.row.lt j hj).1
  have HFR : Hid (r < W1.heap.size ∧ w.heap.size < W1.heap.size ∧ rs < W1.heap.size) := by
    show _ ∧ _ ∧ _
    have h1 := HD.out.blk.lt
    have h2 := (HD.out.srow.lt rs rfl).2
    rw [HZ1.out]
    omega
  obtain ⟨ad, hsp⟩ : ∃ ad : Option Addr, (c2 = m ∧ ad = some ⟨k2, 0, none⟩) ∨ (¬ c2 = m ∧ ad = some ⟨k2, m, none⟩) := by
    by_cases hc : c2 = m
    · exact ⟨_, .inl ⟨hc, rfl⟩⟩
    · exact ⟨_, .inr ⟨hc, rfl⟩⟩
  have HRX : Hid (Rd w3.drew ad (64 - m) (s0.drop m)) := by
    rcases hsp with ⟨h1, h2⟩ | ⟨h1, h2⟩
    · exact Rd.none_left (by omega) (List.drop_of_length_le (by rw [HR2.out.size]; omega))
    · rw [h2]; exact HR2.out.rest hm
  have q7 : (m : Int) ≤ (c2 : Int) := by omega
  go_wp2
  refine wp_region_held_drew (S := fun w' => w'.cell? ⟨r, 0, none⟩ = some (.slice (some ⟨rs, 0, none⟩) ns cs) ∧ w'.cell? ⟨w.heap.size, 0, none⟩ = some (.int .i64 (pa : Int))) (by kernel_rfl) ⟨c0, ca⟩ (fun hHeld => ?_)
  generalize w3.drew = wd at *
  rcases hsp with ⟨hc, had⟩ | ⟨hc, had⟩ <;>
    ( subst had
      refine take_putH (i := 0) (v := ?_) (some 13) rfl (by kernel_rfl) (by kernel_rfl) (by kernel_rfl) (by kernel_rfl) (fun _ _ _ h => h) (Or.inl ⟨by rfl, ?_⟩) hHeld ?_
      rotate_left
      · (intro w hSw; obtain ⟨z0, z1⟩ := hSw; go_simp; try with_reducible rfl)
      try simp only [Act.put, List.setIfInBounds_toArray, List.set_cons_zero, List.set_cons_succ]
      refine take_putH (i := 1) (v := ?_) (some 14) rfl (by kernel_rfl) (by kernel_rfl) (by kernel_rfl) (by kernel_rfl) (fun _ _ _ h => h) (Or.inl ⟨by rfl, ?_⟩) hHeld ?_
      rotate_left
      · (intro w hSw; obtain ⟨z0, z1⟩ := hSw; go_simp; try with_reducible rfl)
      try simp only [Act.put, List.setIfInBounds_toArray, List.set_cons_zero, List.set_cons_succ]
      refine take_putH (i := 2) (v := ?_) (some 15) rfl (by kernel_rfl) (by kernel_rfl) (by kernel_rfl) (by kernel_rfl) (fun _ _ _ h => h) (Or.inl ⟨by rfl, ?_⟩) hHeld ?_
      rotate_left
      · (intro w hSw; obtain ⟨z0, z1⟩ := hSw; go_simp; try with_reducible rfl)
      try simp only [Act.put, List.setIfInBounds_toArray, List.set_cons_zero, List.set_cons_succ]
      refine take_putH (i := 3) (v := ?_) (some 16) rfl (by kernel_rfl) (by kernel_rfl) (by kernel_rfl) (by kernel_rfl) (fun _ _ _ h => h) (Or.inl ⟨by rfl, ?_⟩) hHeld ?_
      rotate_left
      · (intro w hSw; obtain ⟨z0, z1⟩ := hSw; go_simp; try with_reducible rfl)
      try simp only [Act.put, List.setIfInBounds_toArray, List.set_cons_zero, List.set_cons_succ]
      refine take_putH (i := 4) (v := ?_) (some 17) rfl (by kernel_rfl) (by kernel_rfl) (by kernel_rfl) (by kernel_rfl) (fun _ _ _ h => h) (Or.inl ⟨by rfl, ?_⟩) hHeld ?_
      rotate_left
      · (intro w hSw; obtain ⟨z0, z1⟩ := hSw; go_simp; try with_reducible rfl)
      try simp only [Act.put, List.setIfInBounds_toArray, List.set_cons_zero, List.set_cons_succ]
      refine take_putH (i := 5) (v := ?_) (some 18) rfl (by kernel_rfl) (by kernel_rfl) (by kernel_rfl) (by kernel_rfl) (fun _ _ _ h => h) (Or.inl ⟨by rfl, ?_⟩) hHeld ?_
      rotate_left
      · (intro w hSw; obtain ⟨z0, z1⟩ := hSw; go_simp; try with_reducible rfl)
      try simp only [Act.put, List.setIfInBounds_toArray, List.set_cons_zero, List.set_cons_succ]
      refine take_putH (i := 6) (v := ?_) (some 19) rfl (by kernel_rfl) (by kernel_rfl) (by kernel_rfl) (by kernel_rfl) (fun _ _ _ h => h) (Or.inl ⟨by rfl, ?_⟩) hHeld ?_
      rotate_left
      · (intro w hSw; obtain ⟨z0, z1⟩ := hSw; go_simp; try with_reducible rfl)
      try simp only [Act.put, List.setIfInBounds_toArray, List.set_cons_zero, List.set_cons_succ]
      refine take_putH (i := 7) (v := ?_) (some 20) rfl (by kernel_rfl) (by kernel_rfl) (by kernel_rfl) (by kernel_rfl) (fun _ _ _ h => h) (Or.inl ⟨by rfl, ?_⟩) hHeld ?_
      rotate_left
      · (intro w hSw; obtain ⟨z0, z1⟩ := hSw; go_simp; try with_reducible rfl)
      try simp only [Act.put, List.setIfInBounds_toArray, List.set_cons_zero, List.set_cons_succ]
      refine take_putH (i := 8) (v := ?_) (some 21) rfl (by kernel_rfl) (by kernel_rfl) (by kernel_rfl) (by kernel_rfl) (fun _ _ _ h => h) (Or.inl ⟨by rfl, ?_⟩) hHeld ?_
      rotate_left
      · (intro w hSw; obtain ⟨z0, z1⟩ := hSw; go_simp; try with_reducible rfl)
      try simp only [Act.put, List.setIfInBounds_toArray, List.set_cons_zero, List.set_cons_succ]
      refine take_putH (i := 9) (v := ?_) (some 22) rfl (by kernel_rfl) (by kernel_rfl) (by kernel_rfl) (by kernel_rfl) (fun _ _ _ h => h) (Or.inl ⟨by rfl, ?_⟩) hHeld ?_
      rotate_left
      · (intro w hSw; obtain ⟨z0, z1⟩ := hSw; go_simp; try with_reducible rfl)
      try simp only [Act.put, List.setIfInBounds_toArray, List.set_cons_zero, List.set_cons_succ]
      refine take_putH (i := 10) (v := ?_) (some 23) rfl (by kernel_rfl) (by kernel_rfl) (by kernel_rfl) (by kernel_rfl) (fun _ _ _ h => h) (Or.inl ⟨by rfl, ?_⟩) hHeld ?_
      rotate_left
      · (intro w hSw; obtain ⟨z0, z1⟩ := hSw; go_simp; try with_reducible rfl)
      try simp only [Act.put, List.setIfInBounds_toArray, List.set_cons_zero, List.set_cons_succ]
      refine take_putH (i := 11) (v := ?_) (some 24) rfl (by kernel_rfl) (by kernel_rfl) (by kernel_rfl) (by kernel_rfl) (fun _ _ _ h => h) (Or.inl ⟨by rfl, ?_⟩) hHeld ?_
      rotate_left
      · (intro w hSw; obtain ⟨z0, z1⟩ := hSw; go_simp; try with_reducible rfl)
      try simp only [Act.put, List.setIfInBounds_toArray, List.set_cons_zero, List.set_cons_succ]
      refine take_putH (i := 12) (v := ?_) (some 25) rfl (by kernel_rfl) (by kernel_rfl) (by kernel_rfl) (by kernel_rfl) (fun _ _ _ h => h) (Or.inl ⟨by rfl, ?_⟩) hHeld ?_
      rotate_left
      · (intro w hSw; obtain ⟨z0, z1⟩ := hSw; go_simp; try with_reducible rfl)
      try simp only [Act.put, List.setIfInBounds_toArray, List.set_cons_zero, List.set_cons_succ]
      refine take_putH (i := 13) (v := ?_) (some 26) rfl (by kernel_rfl) (by kernel_rfl) (by kernel_rfl) (by kernel_rfl) (fun _ _ _ h => h) (Or.inl ⟨by rfl, ?_⟩) hHeld ?_
      rotate_left
      · (intro w hSw; obtain ⟨z0, z1⟩ := hSw; go_simp; try with_reducible rfl)
      try simp only [Act.put, List.setIfInBounds_toArray, List.set_cons_zero, List.set_cons_succ]
      refine take_putH (i := 15) (v := ?_) (some 28) rfl (by kernel_rfl) (by kernel_rfl) (by kernel_rfl) (by kernel_rfl) (fun _ _ _ h => h) (Or.inl ⟨by rfl, ?_⟩) hHeld ?_
      rotate_left
      · (intro w hSw; obtain ⟨z0, z1⟩ := hSw; go_simp; try with_reducible rfl)
      try simp only [Act.put, List.setIfInBounds_toArray, List.set_cons_zero, List.set_cons_succ]
      refine wpAnyH_ready (rs := [14]) (by kernel_rfl) (by simp) ?_
      refine AllReadyH.cons rfl (fun K hK => ?_) AllReadyH.nil
      go_simp
      refine hK.out _ _ hHeld (fun _ => ?_)
      clear hK K
      try simp only [Act.put, List.getElem_toArray, List.getElem_cons_succ, List.getElem_cons_zero, List.setIfInBounds_toArray, List.set_cons_zero, List.set_cons_succ]
      refine take_putH (i := 16) (v := ?_) (some 29) rfl (by kernel_rfl) (by kernel_rfl) (by kernel_rfl) (by kernel_rfl) (fun _ _ _ h => h) (Or.inl ⟨by rfl, ?_⟩) hHeld ?_
      rotate_left
      · (intro w hSw; obtain ⟨z0, z1⟩ := hSw; go_simp; try with_reducible rfl)
      try simp only [Act.put, List.setIfInBounds_toArray, List.set_cons_zero, List.set_cons_succ]
      refine wpAnyH_ready (rs := [17]) (by kernel_rfl) (by simp) ?_
      refine AllReadyH.cons rfl (fun K hK => ?_) AllReadyH.nil
      refine step_append_rd rfl (.tmp 19) (.tmp 29) rfl W1.heap.size a3 m c3 (L.take m) rfl HO3.out _ _ _ (s0.drop m) rfl HRX.out (fun e => by cases e) (by omega) HB3.out.size 64 (by omega) (L.take m ++ s0.drop m) rfl ?_
      intro a4 c4 w4 ho4 hg4 hb4
      have d0 : w4.cell? ⟨r, 0, none⟩ = some (.slice (some ⟨rs, 0, none⟩) ns cs) := hg4.cell c0 (fun e => by have := HOB.out _ e.symm; have := HFR.out.1; simp only at *; omega)
      have da : w4.cell? ⟨w.heap.size, 0, none⟩ = some (.int .i64 (pa : Int)) := hg4.cell ca (fun e => by have := HOB.out _ e.symm; have := HFR.out.2.1; simp only at *; omega)
      have HD4 : Hid (Rk w4 base r q (.slice (some ⟨rs, 0, none⟩) ns cs) wv SV WV D) := HD.out.stay ((HB03.out.trans (hb4.mono (by have := HZ1.out; omega))))
      have HM4 : Hid (Mr w w4 base) := Mr.of_below (HB03.out.trans (hb4.mono (by have := HZ1.out; omega))) HBS.out
      have HY4 : Hid (Byt w4 q (.slice a4 64 c4) (L.take m ++ s0.drop m)) := Byt.of_own ho4 (by have := HZ1.out; have := HQ.out; omega)
      have f4 : w4.frozen? ⟨rs, pa, none⟩ = false := by
        have := HD4.out.srow
        rw [← HNS.out] at this
        exact this.frozenAt pa
      obtain ⟨_, _, c4', _⟩ := HD4.out.sureAt HS0.out
      obtain ⟨hd5, hm5⟩ := HD4.out.replaced HPA.out HY4.out
      have HD5 : Hid (Rk (w4.setCell ⟨rs, pa, none⟩ (.slice a4 64 c4)) base r q (.slice (some ⟨rs, 0, none⟩) ns cs) wv (SV.set pa (.slice a4 64 c4)) WV { D with sure := D.sure.set pa (L.take m ++ s0.drop m) }) := hd5
      have HM5 : Hid (Mr w (w4.setCell ⟨rs, pa, none⟩ (.slice a4 64 c4)) base) := HM4.out.trans hm5
      have HNE : Hid (r ≠ rs ∧ w.heap.size ≠ rs) := by
        refine ⟨fun e => ?_, fun e => ?_⟩
        · have := HD4.out.apart.1; rw [e] at this; exact this rfl
        · have := (HD.out.srow.lt rs rfl).2; omega
      clear ho4 hg4 hb4 hd5 hm5
      refine hK.out _ _ ⟨d0, da⟩ (fun _ => ?_)
      clear hK K
      try simp only [Act.put, List.getElem_toArray, List.getElem_cons_succ, List.getElem_cons_zero, List.setIfInBounds_toArray, List.set_cons_zero, List.set_cons_succ]
      refine take_putH (i := 18) (v := ?_) (some 31) rfl (by kernel_rfl) (by kernel_rfl) (by kernel_rfl) (by kernel_rfl) (fun _ _ _ h => h) (Or.inl ⟨by rfl, ?_⟩) ⟨d0, da⟩ ?_
      rotate_left
      · (intro w hSw; obtain ⟨z0, z1⟩ := hSw; go_simp; try with_reducible rfl)
      try simp only [Act.put, List.setIfInBounds_toArray, List.set_cons_zero, List.set_cons_succ]
      refine wpAnyH_ready (rs := [19]) (by kernel_rfl) (by simp) ?_
      refine AllReadyH.cons rfl (fun K hK => ?_) AllReadyH.nil
      go_simp
      refine hK.out _ _ ⟨cell_far (grown_cell _ _ _ _) d0 HNE.out.1, cell_far (grown_cell _ _ _ _) da HNE.out.2⟩ (fun _ => ?_)
      clear hK K c0 ca d0 da c4' f4
      try simp only [Act.put, List.getElem_toArray, List.getElem_cons_succ, List.getElem_cons_zero, List.setIfInBounds_toArray, List.set_cons_zero, List.set_cons_succ]
      refine wpAnyH_done (by kernel_rfl) ?_ _
      go_wp2
      go_returns
      exact ⟨rfl, ⟨_, HD5.out⟩, HM5.out⟩ )
end Go.Proofs.Ytghajmcohdedlaa
