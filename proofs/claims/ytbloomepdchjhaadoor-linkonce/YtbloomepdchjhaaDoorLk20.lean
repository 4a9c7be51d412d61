/- wait, Send and Pull of a link once more: its row lies where it lay, or is new. -/
import Derived.Test.YtbloomepdchjhaaDoorPcQ
import Derived.Deep.AppendSrc
namespace Go.Proofs.YtbloomepdchjhaaDoor
open Go.RowKit

/-- A slice lies in the block it lay in, or in a new one. -/
def Sn (w : World) (v v' : Value) : Prop := v'.ownBlock = v.ownBlock ∨ ∃ k, v'.ownBlock = some k ∧ w.heap.size ≤ k
theorem Sn.mono {w w0 : World} {v v' : Value} (h : Sn w v v') (hs : w0.heap.size ≤ w.heap.size) : Sn w0 v v' := by
  rcases h with h | ⟨k, h1, h2⟩
  · exact .inl h
  · exact .inr ⟨k, h1, Nat.le_trans hs h2⟩
theorem run_append_where {P : Program} (w : World) (base : Nat) (t ty e : TypeId) (i : TypeInfo) (z : Value) (size bytes : Nat) (ht : P.underlying t = some (.slice e)) (hi : P.info? e = some i) (hz : i.zero = some z)
    (hsize : i.size = size) (hby : i.bytes = bytes) (v : Value) (n : Nat) (xs : List Value) (hown : w.ownsRow base e size v n xs)
    (a : Addr) (c : Nat) (news : List Value) (hl : news.length = 1 * size) (hnews : ∀ j u, news[j]? = some u → w.cell? (a.add j) = some u) (h1 : ∀ u ∈ news, u.oneCell' = true)
    (h63 : n + 1 ≤ maxLen) (hbytes : (n + 1) * bytes ≤ 140737488355328) (v' : Value) (w' : World) (hr : (Builtin.append_ #[t, t] ty #[v, .slice (some a) 1 c]).run P w = .ok v' w') : Sn w v v' := by
  subst hsize
  subst hby
  have hsmall : n + 1 ≤ 9223372036854775807 := by simp only [maxLen] at h63; omega
  rcases hown.2 with ⟨rfl, rfl⟩ | ⟨g, cap, cur, rfl, hbg, hg, hnc, hcm, hcs, htake⟩
  · have hr2 := run_append_nil (P := P) w t ty e i z ht hi hz a 1 c news hl hnews (by omega) (by omega) (by have hb := hbytes; simp only [Nat.zero_add] at hb; omega)
    rw [hr2] at hr
    simp only [Result.ok.injEq] at hr
    rw [← hr.1]
    exact .inr ⟨_, rfl, Nat.le_refl _⟩
  · by_cases hroom : n + 1 ≤ cap
    · have hfit : n * i.size + news.length ≤ cur.size := by rw [hl, hcs, ← Nat.add_mul]; exact Nat.mul_le_mul_right _ hroom
      have hr2 := run_append_room (P := P) w t ty e i ht hi g n cap cur hg a 1 c news hl hnews h1 hroom hfit
      rw [hr2] at hr
      simp only [Result.ok.injEq] at hr
      rw [← hr.1]
      exact .inl rfl
    · have holds : ∀ j u, xs[j]? = some u → w.cell? ((⟨g, 0, none⟩ : Addr).add j) = some u := hown.cells (g := g) rfl
      have hr2 := run_append_grow (P := P) w t ty e i z ht hi hz ⟨g, 0, none⟩ n cap xs hown.1 holds a 1 c news hl hnews (by omega) (by omega) (growslice_fits (by omega) hbytes)
      rw [hr2] at hr
      simp only [Result.ok.injEq] at hr
      rw [← hr.1]
      exact .inr ⟨_, rfl, Nat.le_refl _⟩
theorem wp_append_own2 {P : Program} (w : World) {o : Oper} {a : Act} {K : Act → World → Prop} {Q : Exit → Act → World → Prop} (s x : Operand) (t : TypeId)
    (ho : o.op = .call { callee := .builtin .append, args := #[s, x], argTypes := #[t, t] })
    (base : Nat) (e : TypeId) (i : TypeInfo) (z : Value) (size bytes : Nat) (ht : P.underlying t = some (.slice e)) (hi : P.info? e = some i) (hz : i.zero = some z)
    (hsize : i.size = size) (hby : i.bytes = bytes) (hzs : z.cells.size = size) (hsz : 0 < size)
    (v : Value) (n : Nat) (xs : List Value) (hs : a.eval s = v) (hown : w.ownsRow base e size v n xs)
    (ad : Addr) (c : Nat) (news : List Value) (hx : a.eval x = .slice (some ad) 1 c) (hl : news.length = 1 * size) (hnews : ∀ j u, news[j]? = some u → w.cell? (ad.add j) = some u) (h1 : ∀ u ∈ news, u.oneCell' = true)
    (h63 : n + 1 ≤ maxLen) (hbytes : (n + 1) * bytes ≤ 140737488355328) (hbase : base ≤ w.heap.size)
    (h : ∀ v' w', w'.ownsRow base e size v' (n + 1) (xs ++ news) → w.grownBy w' v.ownBlock → Sn w v v' → K (a.put o.dst v') w') : o.wp P a w K Q := by
  obtain ⟨v', w', hr, h2, h3, h4⟩ := run_append_own (P := P) w base t o.type e i z size bytes ht hi hz hsize hby hzs hsz v n xs hown ad 1 c news hl hnews h1 h63 hbytes hbase
  have h5 := run_append_where (P := P) w base t o.type e i z size bytes ht hi hz hsize hby v n xs hown ad c news hl hnews h1 h63 hbytes v' w' hr
  unfold Oper.wp execOp
  simp only [ho, resolve, invoke, builtin, Sem.run_bind, Sem.run_pure, Result.andThen_ok, List.map_toArray, List.map_cons, List.map_nil, hs, hx, hr]
  exact h v' w' h2 h3 h5
theorem step_append_wt2 {w : World} {ops : Array Oper} {o : Oper} {act : Act} {K : Act → World → Prop} {Q : Exit → Act → World → Prop} {E : Prop} (hgd : o.guard = none) (s x : Operand)
    (ho : o.op = .call { callee := .builtin .append, args := #[s, x], argTypes := #[61, 61] })
    (base : Nat) (v : Value) (L : List (Wt × Bd)) (hs : act.eval s = v) (hown : w.ownsRow base 70 2 v L.length (wrow L)) (ad : Addr) (c : Nat) (q : Wt) (b : Bd) (hx : act.eval x = .slice (some ad) 1 c) (hnews : ∀ j u, (wcell (q, b))[j]? = some u → w.cell? (ad.add j) = some u)
    (hl : L.length ≤ 1000000) (hbase : base ≤ w.heap.size)
    (h : ∀ v' w', w'.ownsRow base 70 2 v' (L.length + 1) (wrow L ++ wcell (q, b)) → w.grownBy w' v.ownBlock → Sn w v v' → K (act.put o.dst v') w') : if Region.wanted o (yielded ops act.tmps) = true then Oper.wp Tryd.prog o act w K Q else E := by
  rw [if_pos (by simp [Region.wanted, hgd])]
  obtain ⟨i0, hi, hz0, hz1, hz2⟩ := info_parts infoContent
  exact wp_append_own2 w s x 61 ho base 70 i0 (.agg #[.int .u8 0, .slice none 0 0]) 2 32 Tryd.underlying61 hi hz0 hz1 hz2 (by rfl) (by decide) v L.length (wrow L) hs hown ad c (wcell (q, b)) hx (by rfl) hnews (wcell_one (q, b)) (by unfold maxLen; omega) (by omega) hbase h

set_option maxRecDepth 100000 in
set_option maxHeartbeats 4000000 in
theorem lk_wait_ok2 (w : World) (base g : Nat) (wv : Value) (L : List (Wt × Bd)) (l : Lk) (h : LkIn w base g wv L l) (kd : Nat) (hkd : kd < 256) (a : Option Addr) (n c : Nat) (rest : List Nat) (ho : Own w base a n c rest) (hq : (L.length : Int) < l.queue) (hl : L.length ≤ 1000) :
    Calls Tryd.prog 17 #[.pointer (some ⟨g, 0, none⟩), .agg #[.int .u8 (kd : Int), .slice a n c]] w fun e w' => e = .returned (.int .i64 0) ∧ Hid (∃ v', LkIn w' base g v' (L ++ [(⟨kd, rest⟩, (a, n, c))]) l ∧ Sn w wv v') ∧ Fr w w' g wv := by
  obtain ⟨va, vn, vc, rfl⟩ := row_slice h.row
  obtain ⟨hvn, hvc, hvm⟩ := row_len h.row
  unfold maxLen at hvm
  have HL : Hid (LkIn w base g (.slice va vn vc) L l) := h
  obtain ⟨W0, HW0⟩ : ∃ W0, Hid (W0 = w.alloc (.cells #[.int .u8 (kd : Int), .slice a n c] 70)) := ⟨_, rfl⟩
  have hb0 : Below w.heap.size w W0 := by rw [HW0.out]; exact below_new _ _
  have HX0 : Hid (Bk W0 w.heap.size #[.int .u8 (kd : Int), .slice a n c] 70) := by rw [HW0.out]; exact Bk.new _ _ _
  have HL0 : Hid (LkIn W0 base g (.slice va vn vc) L l) := h.below hb0
  have HO0 : Hid (Own W0 base a n c rest) := ho.below hb0
  have HF0 : Hid (Fr w W0 g (.slice va vn vc)) := Fr.of hb0
  have HGX : Hid (w.heap.size ≠ g) := by have := h.blk.lt; show _ ≠ _; omega
  have HRN : Hid (some w.heap.size ≠ Value.ownBlock (.slice va vn vc)) := by
    intro e
    have := (h.row.lt w.heap.size e.symm).2
    omega
  have HBS : Hid (base ≤ w.heap.size) := h.bg
  have hlq : ¬ l.queue ≤ (vn : Int) := by omega
  have hge : decide (l.queue ≤ (vn : Int)) = false := by simpa using hlq
  have hll : L.length ≤ 1000000 := by omega
  have HVN : Hid (vn = L.length) := hvn
  clear h ho hb0 hvn
  go_enter Tryd.func17, Tryd.ntmps17
  go_wp2
  rw [← HW0.out]
  refine wp_region_held_drew (S := fun w' => w'.cell? ⟨g, 4, none⟩ = some (.slice va vn vc) ∧ w'.cell? ⟨g, 3, none⟩ = some (.int .i64 l.queue)) (by kernel_rfl) ⟨HL0.out.blk.cell 4 rfl, HL0.out.blk.cell 3 rfl⟩ (fun hHeld => ?_)
  obtain ⟨wc, HWC⟩ : ∃ wc, Hid (wc = W0.drew) := ⟨_, rfl⟩
  rw [← HWC.out] at hHeld ⊢
  refine take_putH (i := 0) (v := ?_) (some 5) rfl (by kernel_rfl) (by kernel_rfl) (by kernel_rfl) (by kernel_rfl) (fun _ _ _ h => h) (Or.inl ⟨by rfl, ?_⟩) hHeld ?_
  rotate_left
  · (intro w hSw; obtain ⟨z0, z1⟩ := hSw; go_simp; try with_reducible rfl)
  try simp only [Act.put, List.setIfInBounds_toArray, List.set_cons_zero, List.set_cons_succ]
  refine take_putH (i := 1) (v := ?_) (some 6) rfl (by kernel_rfl) (by kernel_rfl) (by kernel_rfl) (by kernel_rfl) (fun _ _ _ h => h) (Or.inl ⟨by rfl, ?_⟩) hHeld ?_
  rotate_left
  · (intro w hSw; obtain ⟨z0, z1⟩ := hSw; go_simp; try with_reducible rfl)
  try simp only [Act.put, List.setIfInBounds_toArray, List.set_cons_zero, List.set_cons_succ]
  refine take_putH (i := 2) (v := ?_) (some 7) rfl (by kernel_rfl) (by kernel_rfl) (by kernel_rfl) (by kernel_rfl) (fun _ _ _ h => h) (Or.inl ⟨by rfl, ?_⟩) hHeld ?_
  rotate_left
  · (intro w hSw; obtain ⟨z0, z1⟩ := hSw; go_simp; try with_reducible rfl)
  try simp only [Act.put, List.setIfInBounds_toArray, List.set_cons_zero, List.set_cons_succ]
  refine take_putH (i := 3) (v := ?_) (some 8) rfl (by kernel_rfl) (by kernel_rfl) (by kernel_rfl) (by kernel_rfl) (fun _ _ _ h => h) (Or.inl ⟨by rfl, ?_⟩) hHeld ?_
  rotate_left
  · (intro w hSw; obtain ⟨z0, z1⟩ := hSw; go_simp; try with_reducible rfl)
  try simp only [Act.put, List.setIfInBounds_toArray, List.set_cons_zero, List.set_cons_succ]
  refine take_putH (i := 4) (v := ?_) (some 9) rfl (by kernel_rfl) (by kernel_rfl) (by kernel_rfl) (by kernel_rfl) (fun _ _ _ h => h) (Or.inl ⟨by rfl, ?_⟩) hHeld ?_
  rotate_left
  · (intro w hSw; obtain ⟨z0, z1⟩ := hSw; go_simp; try with_reducible rfl)
  try simp only [Act.put, List.setIfInBounds_toArray, List.set_cons_zero, List.set_cons_succ]
  refine take_putH (i := 5) (v := ?_) (some 10) rfl (by kernel_rfl) (by kernel_rfl) (by kernel_rfl) (by kernel_rfl) (fun _ _ _ h => h) (Or.inl ⟨by rfl, ?_⟩) hHeld ?_
  rotate_left
  · (intro w hSw; obtain ⟨z0, z1⟩ := hSw; go_simp; try with_reducible rfl)
  try simp only [Act.put, List.setIfInBounds_toArray, List.set_cons_zero, List.set_cons_succ]
  refine take_putH (i := 6) (v := ?_) (some 11) rfl (by kernel_rfl) (by kernel_rfl) (by kernel_rfl) (by kernel_rfl) (fun _ _ _ h => h) (Or.inl ⟨by rfl, ?_⟩) hHeld ?_
  rotate_left
  · (intro w hSw; obtain ⟨z0, z1⟩ := hSw; go_simp; try with_reducible rfl)
  try simp only [Act.put, List.setIfInBounds_toArray, List.set_cons_zero, List.set_cons_succ]
  refine take_putH (i := 7) (v := ?_) (some 12) rfl (by kernel_rfl) (by kernel_rfl) (by kernel_rfl) (by kernel_rfl) (fun _ _ _ h => h) (Or.inl ⟨by rfl, ?_⟩) hHeld ?_
  rotate_left
  · (intro w hSw; obtain ⟨z0, z1⟩ := hSw; go_simp; try with_reducible rfl)
  try simp only [Act.put, List.setIfInBounds_toArray, List.set_cons_zero, List.set_cons_succ]
  refine take_putH (i := 8) (v := ?_) (some 13) rfl (by kernel_rfl) (by kernel_rfl) (by kernel_rfl) (by kernel_rfl) (fun _ _ _ h => h) (Or.inl ⟨by rfl, ?_⟩) hHeld ?_
  rotate_left
  · (intro w hSw; obtain ⟨z0, z1⟩ := hSw; go_simp; try with_reducible rfl)
  try simp only [Act.put, List.setIfInBounds_toArray, List.set_cons_zero, List.set_cons_succ]
  refine take_putH (i := 9) (v := ?_) (some 14) rfl (by kernel_rfl) (by kernel_rfl) (by kernel_rfl) (by kernel_rfl) (fun _ _ _ h => h) (Or.inl ⟨by rfl, ?_⟩) hHeld ?_
  rotate_left
  · (intro w hSw; obtain ⟨z0, z1⟩ := hSw; go_simp; try with_reducible rfl)
  try simp only [Act.put, List.setIfInBounds_toArray, List.set_cons_zero, List.set_cons_succ]
  refine wpAnyH_done (by kernel_rfl) ?_ _
  clear hHeld
  go_wp2
  obtain ⟨wd, HWD⟩ : ∃ wd, Hid (wd = wc.drew) := ⟨_, rfl⟩
  have hbd : Below W0.heap.size W0 wd := by rw [HWD.out, HWC.out]; exact below_drew (below_drew (Below.refl _ _))
  have HXd : Hid (Bk wd w.heap.size #[.int .u8 (kd : Int), .slice a n c] 70) := HX0.out.stay hbd
  have HLd : Hid (LkIn wd base g (.slice va vn vc) L l) := HL0.out.below hbd
  have HOd : Hid (Own wd base a n c rest) := HO0.out.below hbd
  have HFd : Hid (Fr w wd g (.slice va vn vc)) := HF0.out.trans (Fr.of hbd) trivial
  have HSd : Hid True := trivial
  have HBS6 : Hid (∀ w', Below 0 wd w' → base ≤ w'.heap.size) := fun w' hb => Nat.le_trans HBS.out (Nat.le_trans HFd.out.all.size hb.size)
  refine wp_region_held_drew (S := fun w' => w'.cell? ⟨w.heap.size, 0, none⟩ = some (.int .u8 (kd : Int)) ∧ w'.cell? ⟨w.heap.size, 1, none⟩ = some (.slice a n c)) (by kernel_rfl) (by rw [← HWD.out]; exact ⟨HXd.out.cell 0 rfl, HXd.out.cell 1 rfl⟩) (fun hHeld => ?_)
  rw [← HWD.out] at hHeld ⊢
  clear hbd HWD HWC HW0
  refine take_putH (i := 0) (v := ?_) (some 15) rfl (by kernel_rfl) (by kernel_rfl) (by kernel_rfl) (by kernel_rfl) (fun _ _ _ h => h) (Or.inl ⟨by rfl, ?_⟩) hHeld ?_
  rotate_left
  · (intro w hSw; obtain ⟨z0, z1⟩ := hSw; go_simp; try with_reducible rfl)
  try simp only [Act.put, List.setIfInBounds_toArray, List.set_cons_zero, List.set_cons_succ]
  refine take_putH (i := 1) (v := ?_) (some 16) rfl (by kernel_rfl) (by kernel_rfl) (by kernel_rfl) (by kernel_rfl) (fun _ _ _ h => h) (Or.inl ⟨by rfl, ?_⟩) hHeld ?_
  rotate_left
  · (intro w hSw; obtain ⟨z0, z1⟩ := hSw; go_simp; try with_reducible rfl)
  try simp only [Act.put, List.setIfInBounds_toArray, List.set_cons_zero, List.set_cons_succ]
  refine take_putH (i := 2) (v := ?_) (some 17) rfl (by kernel_rfl) (by kernel_rfl) (by kernel_rfl) (by kernel_rfl) (fun _ _ _ h => h) (Or.inl ⟨by rfl, ?_⟩) hHeld ?_
  rotate_left
  · (intro w hSw; obtain ⟨z0, z1⟩ := hSw; go_simp; try with_reducible rfl)
  try simp only [Act.put, List.setIfInBounds_toArray, List.set_cons_zero, List.set_cons_succ]
  refine take_putH (i := 3) (v := ?_) (some 18) rfl (by kernel_rfl) (by kernel_rfl) (by kernel_rfl) (by kernel_rfl) (fun _ _ _ h => h) (Or.inl ⟨by rfl, ?_⟩) hHeld ?_
  rotate_left
  · (intro w hSw; obtain ⟨z0, z1⟩ := hSw; go_simp; try with_reducible rfl)
  try simp only [Act.put, List.setIfInBounds_toArray, List.set_cons_zero, List.set_cons_succ]
  refine take_putH (i := 5) (v := ?_) (some 20) rfl (by kernel_rfl) (by kernel_rfl) (by kernel_rfl) (by kernel_rfl) (fun _ _ _ h => h) (Or.inl ⟨by rfl, ?_⟩) hHeld ?_
  rotate_left
  · (intro w hSw; obtain ⟨z0, z1⟩ := hSw; go_simp; try with_reducible rfl)
  try simp only [Act.put, List.setIfInBounds_toArray, List.set_cons_zero, List.set_cons_succ]
  have hH0 : Hid (wd.cell? ⟨w.heap.size, 0, none⟩ = some (.int .u8 (kd : Int)) ∧ wd.cell? ⟨w.heap.size, 1, none⟩ = some (.slice a n c)) := hHeld
  clear hHeld
  refine wpAnyH_ready (rs := [4, 6]) (by kernel_rfl) (by simp) ?_
  refine AllReadyH.cons rfl (fun K hK => ?_) (AllReadyH.cons rfl (fun K hK => ?_) AllReadyH.nil)
  · have cl : wd.cell? ⟨g, 4, none⟩ = some (.slice va vn vc) := HLd.out.blk.cell 4 rfl
    go_simp
    clear cl
    refine hK.out _ _ hH0.out (fun _ => ?_)
    clear hK K
    try simp only [Act.put, List.getElem_toArray, List.getElem_cons_succ, List.getElem_cons_zero, List.setIfInBounds_toArray, List.set_cons_zero, List.set_cons_succ]
    refine wpAnyH_ready (rs := [6]) (by kernel_rfl) (by simp) ?_
    refine AllReadyH.cons rfl (fun K hK => ?_) AllReadyH.nil
    go_simp
    obtain ⟨w6, HW6⟩ : ∃ w6, Hid (w6 = wd.alloc (.cells #[.int .u8 (kd : Int), .slice a n c] 70)) := ⟨_, rfl⟩
    rw [← HW6.out]
    have hb6 : Below wd.heap.size wd w6 := by rw [HW6.out]; exact below_new _ _
    have HN6 : Hid (Bk w6 wd.heap.size #[.int .u8 (kd : Int), .slice a n c] 70) := by rw [HW6.out]; exact Bk.new _ _ _
    have HL6 : Hid (LkIn w6 base g (.slice va vn vc) L l) := HLd.out.below hb6
    have hH6 : Hid (w6.cell? ⟨w.heap.size, 0, none⟩ = some (.int .u8 (kd : Int)) ∧ w6.cell? ⟨w.heap.size, 1, none⟩ = some (.slice a n c)) := ⟨(HXd.out.stay hb6).cell 0 rfl, (HXd.out.stay hb6).cell 1 rfl⟩
    have HO6 : Hid (Own w6 base a n c rest) := HOd.out.below hb6
    have HX6 : Hid (Bk w6 w.heap.size #[.int .u8 (kd : Int), .slice a n c] 70) := HXd.out.stay hb6
    have HF6 : Hid (Fr w w6 g (.slice va vn vc)) := HFd.out.trans (Fr.of hb6) trivial
    clear hb6
    refine hK.out _ _ hH6.out (fun _ => ?_)
    clear hK K
    try simp only [Act.put, List.getElem_toArray, List.getElem_cons_succ, List.getElem_cons_zero, List.setIfInBounds_toArray, List.set_cons_zero, List.set_cons_succ]
    refine wpAnyH_ready (rs := [7]) (by kernel_rfl) (by simp) ?_
    refine AllReadyH.cons rfl (fun K hK => ?_) AllReadyH.nil
    refine step_append_wt2 rfl (.tmp 19) (.tmp 21) rfl base (.slice va vn vc) L rfl HL6.out.row ⟨wd.heap.size, 0, none⟩ 1 ⟨kd, rest⟩ (a, n, c) rfl (wt_told HN6.out) (by omega) (HBS6.out _ (by rw [HW6.out]; exact (below_new _ _).mono (Nat.zero_le _))) ?_
    intro v7 w7 hr7 hg7 hs7
    obtain ⟨va7, vn7, vc7, rfl⟩ := row_slice hr7
    have HL7 : Hid (LkIn (w7.setCell ⟨g, 4, none⟩ (.slice va7 vn7 vc7)) base g (.slice va7 vn7 vc7) (L ++ [(⟨kd, rest⟩, (a, n, c))]) l) := HL6.out.grown hkd HO6.out hr7 hg7
    have HK7 : Hid (Bk w7 g (l.cells (.slice va vn vc)) 65) := HL6.out.blk_grown hg7
    have HX7 : Hid (Bk w7 w.heap.size #[.int .u8 (kd : Int), .slice a n c] 70) := HX6.out.grown hg7 HRN.out
    have hH7 : Hid (w7.cell? ⟨w.heap.size, 0, none⟩ = some (.int .u8 (kd : Int)) ∧ w7.cell? ⟨w.heap.size, 1, none⟩ = some (.slice a n c)) := ⟨HX7.out.cell 0 rfl, HX7.out.cell 1 rfl⟩
    have HF7 : Hid (Fr w w7 g (.slice va vn vc)) := HF6.out.trans (Fr.grown hg7) trivial
    have HS7 : Hid (Sn w (.slice va vn vc) (.slice va7 vn7 vc7)) := hs7.mono HF6.out.all.size
    clear hr7 hg7 hs7
    refine hK.out _ _ hH7.out (fun _ => ?_)
    clear hK K
    try simp only [Act.put, List.getElem_toArray, List.getElem_cons_succ, List.getElem_cons_zero, List.setIfInBounds_toArray, List.set_cons_zero, List.set_cons_succ]
    refine take_putH (i := 8) (v := ?_) (some 23) rfl (by kernel_rfl) (by kernel_rfl) (by kernel_rfl) (by kernel_rfl) (fun _ _ _ h => h) (Or.inl ⟨by rfl, ?_⟩) hH7.out ?_
    rotate_left
    · (intro w hSw; obtain ⟨z0, z1⟩ := hSw; go_simp; try with_reducible rfl)
    try simp only [Act.put, List.setIfInBounds_toArray, List.set_cons_zero, List.set_cons_succ]
    refine take_putH (i := 9) (v := ?_) (some 24) rfl (by kernel_rfl) (by kernel_rfl) (by kernel_rfl) (by kernel_rfl) (fun _ _ _ h => h) (Or.inl ⟨by rfl, ?_⟩) hH7.out ?_
    rotate_left
    · (intro w hSw; obtain ⟨z0, z1⟩ := hSw; go_simp; try with_reducible rfl)
    try simp only [Act.put, List.setIfInBounds_toArray, List.set_cons_zero, List.set_cons_succ]
    have b4 : w7.cell? ⟨g, 4, none⟩ = some (.slice va vn vc) := HK7.out.cell 4 rfl
    have f4 : w7.frozen? ⟨g, 4, none⟩ = false := HK7.out.free 4
    have hH8 : Hid ((w7.setCell ⟨g, 4, none⟩ (.slice va7 vn7 vc7)).cell? ⟨w.heap.size, 0, none⟩ = some (.int .u8 (kd : Int)) ∧ (w7.setCell ⟨g, 4, none⟩ (.slice va7 vn7 vc7)).cell? ⟨w.heap.size, 1, none⟩ = some (.slice a n c)) := ⟨(cell_far7 w7 g 4 _ _ 0 HGX.out).trans hH7.out.1, (cell_far7 w7 g 4 _ _ 1 HGX.out).trans hH7.out.2⟩
    refine wpAnyH_ready (rs := [10]) (by kernel_rfl) (by simp) ?_
    refine AllReadyH.cons rfl (fun K hK => ?_) AllReadyH.nil
    go_simp
    refine hK.out _ _ hH8.out (fun _ => ?_)
    clear hK K
    try simp only [Act.put, List.getElem_toArray, List.getElem_cons_succ, List.getElem_cons_zero, List.setIfInBounds_toArray, List.set_cons_zero, List.set_cons_succ]
    refine wpAnyH_done (by kernel_rfl) ?_ _
    clear b4 f4 hH0 hH6 hH7 hH8
    go_wp2
    go_ret
    exact ⟨rfl, ⟨_, HL7.out, HS7.out⟩, HF7.out.set⟩
  · go_simp
    obtain ⟨w6, HW6⟩ : ∃ w6, Hid (w6 = wd.alloc (.cells #[.int .u8 (kd : Int), .slice a n c] 70)) := ⟨_, rfl⟩
    rw [← HW6.out]
    have hb6 : Below wd.heap.size wd w6 := by rw [HW6.out]; exact below_new _ _
    have HN6 : Hid (Bk w6 wd.heap.size #[.int .u8 (kd : Int), .slice a n c] 70) := by rw [HW6.out]; exact Bk.new _ _ _
    have HL6 : Hid (LkIn w6 base g (.slice va vn vc) L l) := HLd.out.below hb6
    have hH6 : Hid (w6.cell? ⟨w.heap.size, 0, none⟩ = some (.int .u8 (kd : Int)) ∧ w6.cell? ⟨w.heap.size, 1, none⟩ = some (.slice a n c)) := ⟨(HXd.out.stay hb6).cell 0 rfl, (HXd.out.stay hb6).cell 1 rfl⟩
    have HO6 : Hid (Own w6 base a n c rest) := HOd.out.below hb6
    have HX6 : Hid (Bk w6 w.heap.size #[.int .u8 (kd : Int), .slice a n c] 70) := HXd.out.stay hb6
    have HF6 : Hid (Fr w w6 g (.slice va vn vc)) := HFd.out.trans (Fr.of hb6) trivial
    clear hb6
    refine hK.out _ _ hH6.out (fun _ => ?_)
    clear hK K
    try simp only [Act.put, List.getElem_toArray, List.getElem_cons_succ, List.getElem_cons_zero, List.setIfInBounds_toArray, List.set_cons_zero, List.set_cons_succ]
    refine wpAnyH_ready (rs := [4]) (by kernel_rfl) (by simp) ?_
    refine AllReadyH.cons rfl (fun K hK => ?_) AllReadyH.nil
    have cl : w6.cell? ⟨g, 4, none⟩ = some (.slice va vn vc) := HL6.out.blk.cell 4 rfl
    go_simp
    clear cl
    refine hK.out _ _ hH6.out (fun _ => ?_)
    clear hK K
    try simp only [Act.put, List.getElem_toArray, List.getElem_cons_succ, List.getElem_cons_zero, List.setIfInBounds_toArray, List.set_cons_zero, List.set_cons_succ]
    refine wpAnyH_ready (rs := [7]) (by kernel_rfl) (by simp) ?_
    refine AllReadyH.cons rfl (fun K hK => ?_) AllReadyH.nil
    refine step_append_wt2 rfl (.tmp 19) (.tmp 21) rfl base (.slice va vn vc) L rfl HL6.out.row ⟨wd.heap.size, 0, none⟩ 1 ⟨kd, rest⟩ (a, n, c) rfl (wt_told HN6.out) (by omega) (HBS6.out _ (by rw [HW6.out]; exact (below_new _ _).mono (Nat.zero_le _))) ?_
    intro v7 w7 hr7 hg7 hs7
    obtain ⟨va7, vn7, vc7, rfl⟩ := row_slice hr7
    have HL7 : Hid (LkIn (w7.setCell ⟨g, 4, none⟩ (.slice va7 vn7 vc7)) base g (.slice va7 vn7 vc7) (L ++ [(⟨kd, rest⟩, (a, n, c))]) l) := HL6.out.grown hkd HO6.out hr7 hg7
    have HK7 : Hid (Bk w7 g (l.cells (.slice va vn vc)) 65) := HL6.out.blk_grown hg7
    have HX7 : Hid (Bk w7 w.heap.size #[.int .u8 (kd : Int), .slice a n c] 70) := HX6.out.grown hg7 HRN.out
    have hH7 : Hid (w7.cell? ⟨w.heap.size, 0, none⟩ = some (.int .u8 (kd : Int)) ∧ w7.cell? ⟨w.heap.size, 1, none⟩ = some (.slice a n c)) := ⟨HX7.out.cell 0 rfl, HX7.out.cell 1 rfl⟩
    have HF7 : Hid (Fr w w7 g (.slice va vn vc)) := HF6.out.trans (Fr.grown hg7) trivial
    have HS7 : Hid (Sn w (.slice va vn vc) (.slice va7 vn7 vc7)) := hs7.mono HF6.out.all.size
    clear hr7 hg7 hs7
    refine hK.out _ _ hH7.out (fun _ => ?_)
    clear hK K
    try simp only [Act.put, List.getElem_toArray, List.getElem_cons_succ, List.getElem_cons_zero, List.setIfInBounds_toArray, List.set_cons_zero, List.set_cons_succ]
    refine take_putH (i := 8) (v := ?_) (some 23) rfl (by kernel_rfl) (by kernel_rfl) (by kernel_rfl) (by kernel_rfl) (fun _ _ _ h => h) (Or.inl ⟨by rfl, ?_⟩) hH7.out ?_
    rotate_left
    · (intro w hSw; obtain ⟨z0, z1⟩ := hSw; go_simp; try with_reducible rfl)
    try simp only [Act.put, List.setIfInBounds_toArray, List.set_cons_zero, List.set_cons_succ]
    refine take_putH (i := 9) (v := ?_) (some 24) rfl (by kernel_rfl) (by kernel_rfl) (by kernel_rfl) (by kernel_rfl) (fun _ _ _ h => h) (Or.inl ⟨by rfl, ?_⟩) hH7.out ?_
    rotate_left
    · (intro w hSw; obtain ⟨z0, z1⟩ := hSw; go_simp; try with_reducible rfl)
    try simp only [Act.put, List.setIfInBounds_toArray, List.set_cons_zero, List.set_cons_succ]
    have b4 : w7.cell? ⟨g, 4, none⟩ = some (.slice va vn vc) := HK7.out.cell 4 rfl
    have f4 : w7.frozen? ⟨g, 4, none⟩ = false := HK7.out.free 4
    have hH8 : Hid ((w7.setCell ⟨g, 4, none⟩ (.slice va7 vn7 vc7)).cell? ⟨w.heap.size, 0, none⟩ = some (.int .u8 (kd : Int)) ∧ (w7.setCell ⟨g, 4, none⟩ (.slice va7 vn7 vc7)).cell? ⟨w.heap.size, 1, none⟩ = some (.slice a n c)) := ⟨(cell_far7 w7 g 4 _ _ 0 HGX.out).trans hH7.out.1, (cell_far7 w7 g 4 _ _ 1 HGX.out).trans hH7.out.2⟩
    refine wpAnyH_ready (rs := [10]) (by kernel_rfl) (by simp) ?_
    refine AllReadyH.cons rfl (fun K hK => ?_) AllReadyH.nil
    go_simp
    refine hK.out _ _ hH8.out (fun _ => ?_)
    clear hK K
    try simp only [Act.put, List.getElem_toArray, List.getElem_cons_succ, List.getElem_cons_zero, List.setIfInBounds_toArray, List.set_cons_zero, List.set_cons_succ]
    refine wpAnyH_done (by kernel_rfl) ?_ _
    clear b4 f4 hH0 hH6 hH7 hH8
    go_wp2
    go_ret
    exact ⟨rfl, ⟨_, HL7.out, HS7.out⟩, HF7.out.set⟩

set_option maxRecDepth 100000 in
set_option maxHeartbeats 4000000 in
theorem lk_Send_ok2 (w : World) (base g : Nat) (wv : Value) (L : List (Wt × Bd)) (l : Lk) (h : LkIn w base g wv L l) (p : Pc) (sa : Option Addr) (sn sc : Nat) (ia : Option Addr) (im ic : Nat) (hp : PcRd w p sa sn sc ia im ic) (hc : chk p = 0) (hq : (L.length : Int) < l.queue) (hl : L.length ≤ 1000) :
    Calls Tryd.prog 7 #[.pointer (some ⟨g, 0, none⟩), p.val sa sn sc ia im ic] w fun e w' => e = .returned (.int .i64 0) ∧ Hid (∃ v' b, LkIn w' base g v' (L ++ [(⟨1, putD p⟩, b)]) l ∧ Sn w wv v') ∧ Fr w w' g wv := by
  obtain ⟨p0, HP0⟩ : ∃ p0, Hid (p0 = p) := ⟨_, rfl⟩
  have HV : Hid (p0.val sa sn sc ia im ic = p.val sa sn sc ia im ic) := by show _ = _; rw [HP0.out]
  have HP : Hid (PcRd w p0 sa sn sc ia im ic) := by rw [HP0.out]; exact hp
  have HC : Hid (chk p0 = 0) := by rw [HP0.out]; exact hc
  rw [← HP0.out]
  obtain ⟨T, HTE⟩ : ∃ T, Hid (T = putD p0) := ⟨_, rfl⟩
  rw [← HTE.out, HV.out]
  have HL : Hid (LkIn w base g wv L l) := h
  have HBS : Hid (base ≤ w.heap.size) := h.bg
  clear hp hc h
  clear HP0
  obtain ⟨pk, pp, ps, pn, pf, pt, pl, pi⟩ := p
  obtain ⟨W0, HW0⟩ : ∃ W0, Hid (W0 = w.alloc (.cells #[.int .i64 pk, .int .i64 pp, .int .i64 ps, .int .i64 pn, .int .i64 pf, .int .i64 pt, .slice sa sn sc, .slice ia im ic] 37)) := ⟨_, rfl⟩
  have HB0 : Hid (Below w.heap.size w W0) := by rw [HW0.out]; exact below_new _ _
  have hcp := pc_Put p0 sa sn sc ia im ic W0 (HP.out.below HB0.out)
  unfold PutTold at hcp
  rw [HV.out, HC.out, ← HTE.out] at hcp
  have HCP : Hid (Calls Tryd.prog 16 #[Pc.val ⟨pk, pp, ps, pn, pf, pt, pl, pi⟩ sa sn sc ia im ic] W0 fun e w' => (∃ b m c, e = .returned (.tuple #[.slice b m c, .int .i64 0]) ∧ Own w' W0.heap.size b m c T) ∧ Below W0.heap.size W0 w') := hcp
  clear hcp
  unfold Pc.val
  simp only
  go_enter Tryd.func7, Tryd.ntmps7
  go_wp2_with fail
  rw [← HW0.out]
  refine HCP.out.mono ?_
  rintro e w1 ⟨⟨b1, m1, c1, he, ho1⟩, hb1⟩
  subst he
  have HB1 : Hid (Below w.heap.size w w1) := HB0.out.trans (hb1.mono HB0.out.size)
  have HL1 : Hid (LkIn w1 base g wv L l) := HL.out.below HB1.out
  have HO1 : Hid (Own w1 base b1 m1 c1 T) := ho1.under (Nat.le_trans HBS.out HB0.out.size)
  clear ho1 hb1 HCP
  go_wp2_with fail
  refine (lk_wait_ok2 w1 base g wv L l HL1.out 1 (by omega) b1 m1 c1 T HO1.out hq hl).mono ?_
  rintro e w2 ⟨rfl, HL2, hf2⟩
  have HF2 : Hid (Fr w w2 g wv) := (Fr.of HB1.out).trans hf2 trivial
  clear hf2
  go_wp2
  go_ret
  obtain ⟨v', hv', hs'⟩ := HL2.out
  exact ⟨rfl, ⟨v', _, hv', hs'.mono HB1.out.size⟩, HF2.out⟩

set_option maxRecDepth 100000 in
set_option maxHeartbeats 4000000 in
theorem lk_Pull_ok2 (w : World) (base g gv m c : Nat) (x : Wt × Bd) (T : List (Wt × Bd)) (l : Lk) (h : LkIn w base g (.slice (some ⟨gv, 0, none⟩) (m + 1) c) (x :: T) l) (hm : T.length = m) (lf ot la : Nat) (h1 : l.life = lf) (h2 : l.other = ot) (h3 : l.last = la) (hlf : lf < 9223372036854775808) (hot : ot < 9223372036854775808) (hla : la < 1099511627776) (hlen : (lebs [lf, ot, la + 1]).length + x.1.rest.length ≤ 4096) (ht : Tab w) (h0 : 0 < w.heap.size) (hb0 : 0 < base) (hg0 : 0 < g) :
    Calls Tryd.prog 9 #[.pointer (some ⟨g, 0, none⟩)] w fun e w' => (∃ gf, e = .returned (.tuple #[.slice (some ⟨gf, 0, none⟩) ((lebs [lf, ot, la + 1]).length + x.1.rest.length + 8) ((lebs [lf, ot, la + 1]).length + x.1.rest.length + 8), .bool true]) ∧ Hid (Own w' w.heap.size (some ⟨gf, 0, none⟩) ((lebs [lf, ot, la + 1]).length + x.1.rest.length + 8) ((lebs [lf, ot, la + 1]).length + x.1.rest.length + 8) (SealM.sealed x.1.kind (lebs [lf, ot, la + 1] ++ x.1.rest)))) ∧ Hid (LkIn w' base g (.slice (some ⟨gv, 0, none⟩) m c) T { l with last := (la : Int) + 1 }) ∧ Fr w w' g (.slice (some ⟨gv, 0, none⟩) (m + 1) c) := by
  obtain ⟨⟨kd, rest⟩, ba, bn, bc⟩ := x
  obtain ⟨hkd, hob⟩ := h.rest _ (List.mem_cons_self)
  simp only at hkd hob hlen ⊢
  have hbn : rest.length = bn := hob.size
  rw [hbn] at hlen ⊢
  obtain ⟨hn0, hmc, hcm⟩ := row_len h.row
  unfold maxLen at hcm
  have HROW : Hid (w.ownsRow base 70 2 (.slice (some ⟨gv, 0, none⟩) (m + 1) c) (m + 1) (wrow ((⟨kd, rest⟩, (ba, bn, bc)) :: T))) := by
    have h5 := h.row
    rw [List.length_cons, hm] at h5
    exact h5
  have HL : Hid (LkIn w base g (.slice (some ⟨gv, 0, none⟩) (m + 1) c) ((⟨kd, rest⟩, (ba, bn, bc)) :: T) l) := h
  have HM : Hid (T.length = m) := hm
  have HOB : Hid (Own w base ba bn bc rest) := hob
  have HG0 : Hid (0 < g ∧ 0 < gv) := ⟨hg0, Nat.lt_of_lt_of_le hb0 (h.row.lt gv rfl).1⟩
  have HBZ : Hid (ba = none → bc = 0) := hob.nil_cap'
  have HTB : Hid (Tab w) := ht
  have HNS : Hid (∀ n ∈ [lf, ot, la + 1], n < 9223372036854775808) := by intro n hn; simp only [List.mem_cons, List.not_mem_nil, or_false] at hn; omega
  have HE : Hid (l.life = lf ∧ l.other = ot ∧ l.last = la) := ⟨h1, h2, h3⟩
  have c4 : w.cell? ⟨g, 4, none⟩ = some (.slice (some ⟨gv, 0, none⟩) (m + 1) c) := h.blk.cell 4 rfl
  have c2 : w.cell? ⟨g, 2, none⟩ = some (.int .i64 (la : Int)) := by rw [← h3]; exact h.blk.cell 2 rfl
  have d0 : w.cell? ⟨gv, 0, none⟩ = some (.int .u8 (kd : Int)) := by rw [HROW.out.cellAt 0 (by omega)]; rfl
  have d1 : w.cell? ⟨gv, 1, none⟩ = some (.slice ba bn bc) := by rw [HROW.out.cellAt 1 (by omega)]; rfl
  have q1 : ¬ ((m : Int) + 1 = 0) := by omega
  have q2 : ¬ (1099511627776 : Int) ≤ (la : Int) := by omega
  have q3 : (0 : Int) < (m : Int) + 1 := by omega
  obtain ⟨W1, HW1⟩ : ∃ W1, Hid (W1 = w.alloc (.cells #[.int .u8 (kd : Int), .slice ba bn bc] 70)) := ⟨_, rfl⟩
  have HB1 : Hid (Below w.heap.size w W1) := by rw [HW1.out]; exact below_new _ _
  have HC1 : Hid (Bk W1 w.heap.size #[.int .u8 (kd : Int), .slice ba bn bc] 70) := by rw [HW1.out]; exact Bk.new _ _ _
  have HL1 : Hid (LkIn W1 base g (.slice (some ⟨gv, 0, none⟩) (m + 1) c) ((⟨kd, rest⟩, (ba, bn, bc)) :: T) l) := h.below HB1.out
  have c41 : (w.alloc (.cells #[.int .u8 (kd : Int), .slice ba bn bc] 70)).cell? ⟨g, 4, none⟩ = some (.slice (some ⟨gv, 0, none⟩) (m + 1) c) := by rw [← HW1.out]; exact HL1.out.blk.cell 4 rfl
  have hdl := lk_delete W1 base gv m c (⟨kd, rest⟩, (ba, bn, bc)) T hm (by have h5 := HL1.out.row; rw [List.length_cons, hm] at h5; exact h5)
  have HDL : Hid (Calls Tryd.prog 21 #[.slice (some ⟨gv, 0, none⟩) (m + 1) c, .int .i64 0, .int .i64 1] W1 fun e w' => e = .returned (.slice (some ⟨gv, 0, none⟩) m c) ∧ Hid (w'.ownsRow base 70 2 (.slice (some ⟨gv, 0, none⟩) m c) m (wrow T)) ∧ W1.grownBy w' (some gv)) := hdl
  have HGL : Hid (g < w.heap.size) := h.blk.lt
  have HVL : Hid (gv < w.heap.size) := (h.row.lt gv rfl).2
  clear h hob hdl hbn hm h1 h2 h3 ht hn0
  go_enter Tryd.func9, Tryd.ntmps9
  go_wp2_with fail
  rw [← HW1.out]
  refine HDL.out.mono ?_
  rintro e w2 ⟨rfl, HR2, hg2⟩
  obtain ⟨hL4, hK2, hgne, hu8⟩ := HL1.out.tail HM.out HR2.out hg2 ((la : Int) + 1)
  have HK2 : Hid (Bk w2 g (l.cells (.slice (some ⟨gv, 0, none⟩) (m + 1) c)) 65) := hK2
  have b4 : w2.cell? ⟨g, 4, none⟩ = some (.slice (some ⟨gv, 0, none⟩) (m + 1) c) := hK2.cell 4 rfl
  have b2 : w2.cell? ⟨g, 2, none⟩ = some (.int .i64 (la : Int)) := by rw [← HE.out.2.2]; exact hK2.cell 2 rfl
  have fg : ∀ i, w2.frozen? ⟨g, i, none⟩ = false := fun i => hK2.free i
  obtain ⟨w4, HW4⟩ : ∃ w4, Hid (w4 = (w2.setCell ⟨g, 4, none⟩ (.slice (some ⟨gv, 0, none⟩) m c)).setCell ⟨g, 2, none⟩ (.int .i64 ((la : Int) + 1))) := ⟨_, rfl⟩
  have HL4 : Hid (LkIn w4 base g (.slice (some ⟨gv, 0, none⟩) m c) T { l with last := (la : Int) + 1 }) := by rw [HW4.out]; exact hL4
  have HF4 : Hid (Fr w w4 g (.slice (some ⟨gv, 0, none⟩) (m + 1) c)) := by rw [HW4.out]; exact (((Fr.of HB1.out).trans (Fr.grown (v := .slice (some ⟨gv, 0, none⟩) (m + 1) c) hg2) trivial).set).set
  have HC4 : Hid (Bk w4 w.heap.size #[.int .u8 (kd : Int), .slice ba bn bc] 70) := by
    have h1 := HGL.out
    have h2 := HVL.out
    rw [HW4.out]
    exact ((HC1.out.grown hg2 (by simp; omega)).other _ _ (by show w.heap.size ≠ g; omega)).other _ _ (by show w.heap.size ≠ g; omega)
  have HR4 : Hid (Rd w4 ba bn rest) := by
    have h5 : Own w4 base ba bn bc rest := by rw [HW4.out]; exact own_kept (HOB.out.below HB1.out) hu8
    exact h5.rd
  have HT4 : Hid (Tab w4) := tab_fr HTB.out HF4.out h0 (by have := HG0.out; omega) (by have := HG0.out; simp [Value.ownBlock]; omega)
  have H04 : Hid (0 < w4.heap.size) := Nat.lt_of_lt_of_le h0 HF4.out.all.size
  clear hL4 hK2 hg2 hu8 c4 c2 d0 d1 c41
  go_wp2
  rw [← HW4.out]
  obtain ⟨wd, HWD⟩ : ∃ wd, Hid (wd = w4.drew) := ⟨_, rfl⟩
  have hbd : Below w4.heap.size w4 wd := by rw [HWD.out]; exact below_drew (Below.refl _ _)
  have HCd : Hid (Bk wd w.heap.size #[.int .u8 (kd : Int), .slice ba bn bc] 70) := HC4.out.stay hbd
  have HLd : Hid (LkIn wd base g (.slice (some ⟨gv, 0, none⟩) m c) T { l with last := (la : Int) + 1 }) := HL4.out.below hbd
  have HRd : Hid (Rd wd ba bn rest) := HR4.out.below hbd
  have HFd : Hid (Fr w wd g (.slice (some ⟨gv, 0, none⟩) (m + 1) c)) := HF4.out.trans (Fr.of hbd) trivial
  have HTd : Hid (Tab wd) := HT4.out.below H04.out hbd
  have H0d : Hid (0 < wd.heap.size) := Nat.lt_of_lt_of_le H04.out hbd.size
  refine wp_region_held_drew (S := fun w' => w'.cell? ⟨w.heap.size, 0, none⟩ = some (.int .u8 (kd : Int)) ∧ w'.cell? ⟨w.heap.size, 1, none⟩ = some (.slice ba bn bc) ∧ w'.cell? ⟨g, 0, none⟩ = some (.int .i64 (lf : Int)) ∧ w'.cell? ⟨g, 1, none⟩ = some (.int .i64 (ot : Int)) ∧ w'.cell? ⟨g, 2, none⟩ = some (.int .i64 ((la : Int) + 1))) (by kernel_rfl) (by rw [← HWD.out]; exact ⟨HCd.out.cell 0 rfl, HCd.out.cell 1 rfl, by rw [← HE.out.1]; exact HLd.out.blk.cell 0 rfl, by rw [← HE.out.2.1]; exact HLd.out.blk.cell 1 rfl, HLd.out.blk.cell 2 rfl⟩) (fun hHeld => ?_)
  rw [← HWD.out] at hHeld ⊢
  clear hbd HWD
  refine take_putH (i := 0) (v := ?_) (some 43) rfl (by kernel_rfl) (by kernel_rfl) (by kernel_rfl) (by kernel_rfl) (fun _ _ _ h => h) (Or.inl ⟨by rfl, ?_⟩) hHeld ?_
  rotate_left
  · (intro w hSw; obtain ⟨z0, z1, z2, z3, z4⟩ := hSw; go_simp; try with_reducible rfl)
  try simp only [Act.put, List.setIfInBounds_toArray, List.set_cons_zero, List.set_cons_succ]
  refine take_putH (i := 1) (v := ?_) (some 44) rfl (by kernel_rfl) (by kernel_rfl) (by kernel_rfl) (by kernel_rfl) (fun _ _ _ h => h) (Or.inl ⟨by rfl, ?_⟩) hHeld ?_
  rotate_left
  · (intro w hSw; obtain ⟨z0, z1, z2, z3, z4⟩ := hSw; go_simp; try with_reducible rfl)
  try simp only [Act.put, List.setIfInBounds_toArray, List.set_cons_zero, List.set_cons_succ]
  refine take_putH (i := 2) (v := ?_) (some 45) rfl (by kernel_rfl) (by kernel_rfl) (by kernel_rfl) (by kernel_rfl) (fun _ _ _ h => h) (Or.inl ⟨by rfl, ?_⟩) hHeld ?_
  rotate_left
  · (intro w hSw; obtain ⟨z0, z1, z2, z3, z4⟩ := hSw; go_simp; try with_reducible rfl)
  try simp only [Act.put, List.setIfInBounds_toArray, List.set_cons_zero, List.set_cons_succ]
  refine take_putH (i := 3) (v := ?_) (some 46) rfl (by kernel_rfl) (by kernel_rfl) (by kernel_rfl) (by kernel_rfl) (fun _ _ _ h => h) (Or.inl ⟨by rfl, ?_⟩) hHeld ?_
  rotate_left
  · (intro w hSw; obtain ⟨z0, z1, z2, z3, z4⟩ := hSw; go_simp; try with_reducible rfl)
  try simp only [Act.put, List.setIfInBounds_toArray, List.set_cons_zero, List.set_cons_succ]
  refine take_putH (i := 4) (v := ?_) (some 47) rfl (by kernel_rfl) (by kernel_rfl) (by kernel_rfl) (by kernel_rfl) (fun _ _ _ h => h) (Or.inl ⟨by rfl, ?_⟩) hHeld ?_
  rotate_left
  · (intro w hSw; obtain ⟨z0, z1, z2, z3, z4⟩ := hSw; go_simp; try with_reducible rfl)
  try simp only [Act.put, List.setIfInBounds_toArray, List.set_cons_zero, List.set_cons_succ]
  refine take_putH (i := 5) (v := ?_) (some 48) rfl (by kernel_rfl) (by kernel_rfl) (by kernel_rfl) (by kernel_rfl) (fun _ _ _ h => h) (Or.inl ⟨by rfl, ?_⟩) hHeld ?_
  rotate_left
  · (intro w hSw; obtain ⟨z0, z1, z2, z3, z4⟩ := hSw; go_simp; try with_reducible rfl)
  try simp only [Act.put, List.setIfInBounds_toArray, List.set_cons_zero, List.set_cons_succ]
  refine take_putH (i := 6) (v := ?_) (some 49) rfl (by kernel_rfl) (by kernel_rfl) (by kernel_rfl) (by kernel_rfl) (fun _ _ _ h => h) (Or.inl ⟨by rfl, ?_⟩) hHeld ?_
  rotate_left
  · (intro w hSw; obtain ⟨z0, z1, z2, z3, z4⟩ := hSw; go_simp; try with_reducible rfl)
  try simp only [Act.put, List.setIfInBounds_toArray, List.set_cons_zero, List.set_cons_succ]
  refine take_putH (i := 7) (v := ?_) (some 50) rfl (by kernel_rfl) (by kernel_rfl) (by kernel_rfl) (by kernel_rfl) (fun _ _ _ h => h) (Or.inl ⟨by rfl, ?_⟩) hHeld ?_
  rotate_left
  · (intro w hSw; obtain ⟨z0, z1, z2, z3, z4⟩ := hSw; go_simp; try with_reducible rfl)
  try simp only [Act.put, List.setIfInBounds_toArray, List.set_cons_zero, List.set_cons_succ]
  refine take_putH (i := 8) (v := ?_) (some 51) rfl (by kernel_rfl) (by kernel_rfl) (by kernel_rfl) (by kernel_rfl) (fun _ _ _ h => h) (Or.inl ⟨by rfl, ?_⟩) hHeld ?_
  rotate_left
  · (intro w hSw; obtain ⟨z0, z1, z2, z3, z4⟩ := hSw; go_simp; try with_reducible rfl)
  try simp only [Act.put, List.setIfInBounds_toArray, List.set_cons_zero, List.set_cons_succ]
  refine take_putH (i := 9) (v := ?_) (some 52) rfl (by kernel_rfl) (by kernel_rfl) (by kernel_rfl) (by kernel_rfl) (fun _ _ _ h => h) (Or.inl ⟨by rfl, ?_⟩) hHeld ?_
  rotate_left
  · (intro w hSw; obtain ⟨z0, z1, z2, z3, z4⟩ := hSw; go_simp; try with_reducible rfl)
  try simp only [Act.put, List.setIfInBounds_toArray, List.set_cons_zero, List.set_cons_succ]
  refine take_putH (i := 10) (v := ?_) (some 53) rfl (by kernel_rfl) (by kernel_rfl) (by kernel_rfl) (by kernel_rfl) (fun _ _ _ h => h) (Or.inl ⟨by rfl, ?_⟩) hHeld ?_
  rotate_left
  · (intro w hSw; obtain ⟨z0, z1, z2, z3, z4⟩ := hSw; go_simp; try with_reducible rfl)
  try simp only [Act.put, List.setIfInBounds_toArray, List.set_cons_zero, List.set_cons_succ]
  refine take_putH (i := 11) (v := ?_) (some 54) rfl (by kernel_rfl) (by kernel_rfl) (by kernel_rfl) (by kernel_rfl) (fun _ _ _ h => h) (Or.inl ⟨by rfl, ?_⟩) hHeld ?_
  rotate_left
  · (intro w hSw; obtain ⟨z0, z1, z2, z3, z4⟩ := hSw; go_simp; try with_reducible rfl)
  try simp only [Act.put, List.setIfInBounds_toArray, List.set_cons_zero, List.set_cons_succ]
  refine take_putH (i := 12) (v := ?_) (some 55) rfl (by kernel_rfl) (by kernel_rfl) (by kernel_rfl) (by kernel_rfl) (fun _ _ _ h => h) (Or.inl ⟨by rfl, ?_⟩) hHeld ?_
  rotate_left
  · (intro w hSw; obtain ⟨z0, z1, z2, z3, z4⟩ := hSw; go_simp; try with_reducible rfl)
  try simp only [Act.put, List.setIfInBounds_toArray, List.set_cons_zero, List.set_cons_succ]
  have hHd : Hid (wd.cell? ⟨w.heap.size, 0, none⟩ = some (.int .u8 (kd : Int)) ∧ wd.cell? ⟨w.heap.size, 1, none⟩ = some (.slice ba bn bc) ∧ wd.cell? ⟨g, 0, none⟩ = some (.int .i64 (lf : Int)) ∧ wd.cell? ⟨g, 1, none⟩ = some (.int .i64 (ot : Int)) ∧ wd.cell? ⟨g, 2, none⟩ = some (.int .i64 ((la : Int) + 1))) := hHeld
  clear hHeld
  refine wpAnyH_ready (rs := [13]) (by kernel_rfl) (by simp) ?_
  refine AllReadyH.cons rfl (fun K hK => ?_) AllReadyH.nil
  go_simp
  obtain ⟨w6, HW6⟩ : ∃ w6, Hid (w6 = wd.alloc (.cells #[.int .i64 (lf : Int), .int .i64 (ot : Int), .int .i64 ((la : Int) + 1)] 3)) := ⟨_, rfl⟩
  rw [← HW6.out]
  have hb6 : Below wd.heap.size wd w6 := by rw [HW6.out]; exact below_new _ _
  have HI6 : Hid (Bk w6 wd.heap.size (nvs [lf, ot, la + 1]) 3) := by rw [HW6.out]; exact Bk.new _ _ _
  have HC6 : Hid (Bk w6 w.heap.size #[.int .u8 (kd : Int), .slice ba bn bc] 70) := HCd.out.stay hb6
  have HL6 : Hid (LkIn w6 base g (.slice (some ⟨gv, 0, none⟩) m c) T { l with last := (la : Int) + 1 }) := HLd.out.below hb6
  have h6 : w6.cell? ⟨w.heap.size, 0, none⟩ = some (.int .u8 (kd : Int)) ∧ w6.cell? ⟨w.heap.size, 1, none⟩ = some (.slice ba bn bc) ∧ w6.cell? ⟨g, 0, none⟩ = some (.int .i64 (lf : Int)) ∧ w6.cell? ⟨g, 1, none⟩ = some (.int .i64 (ot : Int)) ∧ w6.cell? ⟨g, 2, none⟩ = some (.int .i64 ((la : Int) + 1)) := ⟨HC6.out.cell 0 rfl, HC6.out.cell 1 rfl, by rw [← HE.out.1]; exact HL6.out.blk.cell 0 rfl, by rw [← HE.out.2.1]; exact HL6.out.blk.cell 1 rfl, HL6.out.blk.cell 2 rfl⟩
  have HR6 : Hid (Rd w6 ba bn rest) := HRd.out.below hb6
  have HF6 : Hid (Fr w w6 g (.slice (some ⟨gv, 0, none⟩) (m + 1) c)) := HFd.out.trans (Fr.of hb6) trivial
  have HT6 : Hid (Tab w6) := HTd.out.below H0d.out hb6
  have H06 : Hid (0 < w6.heap.size) := Nat.lt_of_lt_of_le H0d.out hb6.size
  clear hb6
  refine hK.out _ _ h6 (fun _ => ?_)
  clear hK K
  try simp only [Act.put, List.getElem_toArray, List.getElem_cons_succ, List.getElem_cons_zero, List.setIfInBounds_toArray, List.set_cons_zero, List.set_cons_succ]
  refine wpAnyH_ready (rs := [14]) (by kernel_rfl) (by simp) ?_
  refine AllReadyH.cons rfl (fun K hK => ?_) AllReadyH.nil
  go_simp
  refine (lk_write kd hkd ba bn bc rest wd.heap.size [lf, ot, la + 1] w6 HR6.out HBZ.out HI6.out HNS.out (by simp) hlen HT6.out H06.out).mono ?_
  rintro e w7 ⟨⟨gf, he, HO7⟩, hb7⟩
  subst he
  have HL7 : Hid (LkIn w7 base g (.slice (some ⟨gv, 0, none⟩) m c) T { l with last := (la : Int) + 1 }) := HL6.out.below hb7
  have HF7 : Hid (Fr w w7 g (.slice (some ⟨gv, 0, none⟩) (m + 1) c)) := HF6.out.trans (Fr.of hb7) trivial
  have h7 : w7.cell? ⟨w.heap.size, 0, none⟩ = some (.int .u8 (kd : Int)) ∧ w7.cell? ⟨w.heap.size, 1, none⟩ = some (.slice ba bn bc) ∧ w7.cell? ⟨g, 0, none⟩ = some (.int .i64 (lf : Int)) ∧ w7.cell? ⟨g, 1, none⟩ = some (.int .i64 (ot : Int)) ∧ w7.cell? ⟨g, 2, none⟩ = some (.int .i64 ((la : Int) + 1)) := ⟨(HC6.out.stay hb7).cell 0 rfl, (HC6.out.stay hb7).cell 1 rfl, by rw [← HE.out.1]; exact HL7.out.blk.cell 0 rfl, by rw [← HE.out.2.1]; exact HL7.out.blk.cell 1 rfl, HL7.out.blk.cell 2 rfl⟩
  have HO7w : Hid (Own w7 w.heap.size (some ⟨gf, 0, none⟩) ((lebs [lf, ot, la + 1]).length + bn + 8) ((lebs [lf, ot, la + 1]).length + bn + 8) (SealM.sealed kd (lebs [lf, ot, la + 1] ++ rest))) := HO7.out.under HF6.out.all.size
  clear hb7
  refine hK.out _ _ h7 (fun _ => ?_)
  clear hK K
  try simp only [Act.put, List.getElem_toArray, List.getElem_cons_succ, List.getElem_cons_zero, List.setIfInBounds_toArray, List.set_cons_zero, List.set_cons_succ]
  refine take_putH (i := 15) (v := ?_) (some 2) rfl (by kernel_rfl) (by kernel_rfl) (by kernel_rfl) (by kernel_rfl) (fun _ _ _ h => h) (Or.inl ⟨by rfl, ?_⟩) h7 ?_
  rotate_left
  · (intro w hSw; obtain ⟨z0, z1, z2, z3, z4⟩ := hSw; go_simp; try with_reducible rfl)
  try simp only [Act.put, List.setIfInBounds_toArray, List.set_cons_zero, List.set_cons_succ]
  refine take_putH (i := 16) (v := ?_) (some 3) rfl (by kernel_rfl) (by kernel_rfl) (by kernel_rfl) (by kernel_rfl) (fun _ _ _ h => h) (Or.inl ⟨by rfl, ?_⟩) h7 ?_
  rotate_left
  · (intro w hSw; obtain ⟨z0, z1, z2, z3, z4⟩ := hSw; go_simp; try with_reducible rfl)
  try simp only [Act.put, List.setIfInBounds_toArray, List.set_cons_zero, List.set_cons_succ]
  refine wpAnyH_done (by kernel_rfl) ?_ _
  clear h6 h7
  go_wp2
  go_ret2
  exact ⟨⟨gf, rfl, HO7w⟩, HL7, HF7.out⟩

end Go.Proofs.YtbloomepdchjhaaDoor
