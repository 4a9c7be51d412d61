/- The reference's disk: Fork. -/
import Derived.Test.YthpjaidgacenoaaQSecAllM
namespace Go.Proofs.Ythpjaidgacenoaa
open Go.RowKit

theorem step_append_none {w : World} {ops : Array Oper} {o : Oper} {a : Act} {K : Act → World → Prop} {Q : Exit → Act → World → Prop} {E : Prop} (hgd : o.guard = none) (s x : Operand) (t : TypeId)
    (ho : o.op = .call { callee := .builtin .append, args := #[s, x], argTypes := #[t, t] }) (base : Nat) (e : TypeId) (i : TypeInfo) (size : Nat) (ht : Try.prog.underlying t = some (.slice e)) (hi : Try.prog.info? e = some i)
    (v : Value) (n : Nat) (xs : List Value) (hs : a.eval s = v) (hown : w.ownsRow base e size v n xs) (hx : a.eval x = .slice none 0 0)
    (h : K (a.put o.dst v) w) : if Region.wanted o (yielded ops a.tmps) = true then Oper.wp Try.prog o a w K Q else E := by
  rw [if_pos (by simp [Region.wanted, hgd])]
  have hrun := run_append_owned_none (P := Try.prog) (w := w) base t o.type e i size ht hi v n xs hown
  unfold Oper.wp
  simp [execOp, ho, resolve, invoke, builtin, hs, hx, hrun, Result.andThen]
  exact h
theorem Rk.ones {w : World} {base r q : Nat} {sv wv : Value} {SV WV : List Value} {D : Dk} (h : Rk w base r q sv wv SV WV D) : (∀ u ∈ SV, u.oneCell' = true) ∧ (∀ u ∈ WV, u.oneCell' = true) := by
  have hs : SV.length = D.sure.length := by have := h.srow.1; omega
  have hw : WV.length = D.waits.length * 2 := h.wrow.1
  refine ⟨fun u hu => ?_, fun u hu => ?_⟩
  · obtain ⟨i, hi, rfl⟩ := List.mem_iff_getElem.1 hu
    obtain ⟨v, h1, h2⟩ := h.each i _ (List.getElem?_eq_getElem (by omega : i < D.sure.length))
    rw [List.getElem?_eq_getElem hi, Option.some.injEq] at h1
    obtain ⟨k, c, cur, h3, _⟩ := h2.row
    rw [h1, h3]
    rfl
  · obtain ⟨i, hi, rfl⟩ := List.mem_iff_getElem.1 hu
    obtain ⟨h0, h1, v, h2, h3⟩ := h.puts (i / 2) _ (List.getElem?_eq_getElem (by omega : i / 2 < D.waits.length))
    rcases (show i = i / 2 * 2 ∨ i = i / 2 * 2 + 1 by omega) with e | e
    · rw [← e, List.getElem?_eq_getElem hi, Option.some.injEq] at h1
      rw [h1]
      rfl
    · rw [← e, List.getElem?_eq_getElem hi, Option.some.injEq] at h2
      obtain ⟨k, c, cur, h4, _⟩ := h3.row
      rw [h2, h4]
      rfl
theorem own_news {w : World} {base : Nat} {e : TypeId} {size n k l c : Nat} {xs : List Value} (h : w.ownsRow base e size (.slice (some ⟨k, 0, none⟩) l c) n xs) : ∀ j u, xs[j]? = some u → w.cell? ((⟨k, 0, none⟩ : Addr).add j) = some u := fun j u hj => by
  have e2 : (⟨k, 0, none⟩ : Addr).add j = ⟨k, 0 + j, none⟩ := by unfold Addr.add; split <;> simp_all
  have hn : l = n := by
    rcases h.2 with ⟨h1, _⟩ | ⟨_, _, _, h1, _⟩
    · cases h1
    · simp only [Value.slice.injEq] at h1; exact h1.2.1
  subst hn
  have hjl : j < l * size := by have := (List.getElem?_eq_some_iff.1 hj).1; have := h.1; omega
  rw [e2, Nat.zero_add, h.cellAt j hjl]
  exact hj
theorem Byt.up {w w' : World} {q : Nat} {v : Value} {s : List Nat} (h : Byt w q v s) (hb : Below w.heap.size w w') : Byt w' q v s := h.move (fun k cur hk _ => by rw [hb.block k (heap_lt hk)]; exact hk)

set_option maxRecDepth 100000 in
set_option maxHeartbeats 4000000 in
theorem ref_Fork (w : World) (base r q : Nat) (sv wv : Value) (SV WV : List Value) (D : Dk) (h : Rk w base r q sv wv SV WV D) :
    Calls Try.prog 22 #[.pointer (some ⟨r, 0, none⟩)] w fun e w' => ∃ r2 sv2 wv2, e = .returned (.pointer (some ⟨r2, 0, none⟩)) ∧ Hid (Rk w' w.heap.size r2 q sv2 wv2 SV WV D) ∧ Below w.heap.size w w' := by
  have HR : Hid (Rk w base r q sv wv SV WV D) := h
  obtain ⟨rs, cs, rfl, _⟩ := h.form
  obtain ⟨ns, hns⟩ : ∃ ns, ns = D.sure.length := ⟨_, rfl⟩
  have HNS : Hid (ns = D.sure.length) := hns
  have hs1 : 1 ≤ ns := by rw [hns]; exact h.s1
  have hs5 : ns ≤ 512 := by rw [hns]; exact h.sz
  obtain ⟨aw, cw, rfl, haw⟩ := h.wform
  obtain ⟨nw, hnw⟩ : ∃ nw, nw = D.waits.length := ⟨_, rfl⟩
  have HNW : Hid (nw = D.waits.length) := hnw
  have hnl : nw ≤ 1000000000 := by rw [hnw]; exact h.wl
  have HO1 : Hid ((∀ u ∈ SV, u.oneCell' = true) ∧ (∀ u ∈ WV, u.oneCell' = true)) := h.ones
  have HSL : Hid (SV.length = ns * 1) := by show _ = _; rw [hns]; exact h.srow.1
  have HWL : Hid (WV.length = nw * 2) := by show _ = _; rw [hnw]; exact h.wrow.1
  have HRD : Hid (Rk w.drew base r q (.slice (some ⟨rs, 0, none⟩) D.sure.length cs) (.slice aw D.waits.length cw) SV WV D) := h.stay (Below.refl _ _).drew
  have HW0 : Hid ((aw = none ∧ nw = 0 ∧ cw = 0) ∨ ∃ gw, aw = some ⟨gw, 0, none⟩) := by
    rcases h.wrow.2 with ⟨h1, h2⟩ | ⟨gw, c', cur, h1, _⟩
    · simp only [Value.slice.injEq] at h1
      exact .inl ⟨h1.1, by omega, h1.2.2⟩
    · simp only [Value.slice.injEq] at h1
      exact .inr ⟨gw, h1.1⟩
  clear h haw
  rw [← hns, ← hnw] at HR HRD
  obtain ⟨w1, HW1⟩ : ∃ w1, Hid (w1 = (w.alloc (.cells #[.slice none 0 0, .slice none 0 0, .int .i64 (D.trip : Int), .bool D.down, .int .i64 (D.age : Int)] 74)).drew) := ⟨_, rfl⟩
  have HB1 : Hid (Below w.heap.size w w1) := by show Below _ _ _; rw [HW1.out]; exact (below_alloc _ _).drew
  have HR1 : Hid (Rk w1 base r q (.slice (some ⟨rs, 0, none⟩) ns cs) (.slice aw nw cw) SV WV D) := HR.out.stay HB1.out
  have HK1 : Hid (Blk w1 w.heap.size #[.slice none 0 0, .slice none 0 0, .int .i64 (D.trip : Int), .bool D.down, .int .i64 (D.age : Int)] 74) := by
    show Blk _ _ _ _
    rw [HW1.out]
    exact Blk.new _ _ _
  have s1 : w.drew.cell? ⟨r, 2, none⟩ = some (.int .i64 (D.trip : Int)) ∧ w.drew.cell? ⟨r, 3, none⟩ = some (.bool D.down) ∧ w.drew.cell? ⟨r, 4, none⟩ = some (.int .i64 (D.age : Int)) := ⟨HRD.out.blk.cell 2 rfl, HRD.out.blk.cell 3 rfl, HRD.out.blk.cell 4 rfl⟩
  have s2 : w1.cell? ⟨r, 2, none⟩ = some (.int .i64 (D.trip : Int)) ∧ w1.cell? ⟨r, 3, none⟩ = some (.bool D.down) ∧ w1.cell? ⟨r, 4, none⟩ = some (.int .i64 (D.age : Int)) := ⟨HR1.out.blk.cell 2 rfl, HR1.out.blk.cell 3 rfl, HR1.out.blk.cell 4 rfl⟩
  rw [HW1.out] at s2
  obtain ⟨i0, hi, hz0, hz1, hz2⟩ := info_parts infoSl
  obtain ⟨j0, hj, hy0, hy1, hy2⟩ := info_parts infoPut
  clear hns hnw
  go_enter Try.func22, Try.ntmps22
  go_wp2
  go_region_held3 (fun w' => w'.cell? ⟨r, 2, none⟩ = some (.int .i64 (D.trip : Int)) ∧ w'.cell? ⟨r, 3, none⟩ = some (.bool D.down) ∧ w'.cell? ⟨r, 4, none⟩ = some (.int .i64 (D.age : Int))) (first | exact s1 | exact s2 | fail) (fail)
  clear s1 s2
  rw [← HW1.out]
  have HB1d : Hid (Below w.heap.size w w1.drew) := HB1.out.drew
  have HR1d : Hid (Rk w1.drew base r q (.slice (some ⟨rs, 0, none⟩) ns cs) (.slice aw nw cw) SV WV D) := HR.out.stay HB1d.out
  have HK1d : Hid (Blk w1.drew w.heap.size #[.slice none 0 0, .slice none 0 0, .int .i64 (D.trip : Int), .bool D.down, .int .i64 (D.age : Int)] 74) := HK1.out
  have c1 : w1.drew.cell? ⟨w.heap.size, 0, none⟩ = some (.slice none 0 0) := HK1d.out.cell 0 rfl
  have c2 : w1.drew.cell? ⟨r, 0, none⟩ = some (.slice (some ⟨rs, 0, none⟩) ns cs) := HR1d.out.blk.cell 0 rfl
  go_wp2
  refine wp_region_any (by kernel_rfl) ?_
  change wpAny _ _ _ _ _ _ _ (World.drew _)
  generalize w1.drew = wd at *
  refine take_put (i := 0) (v := ?_) (some 20) rfl (by kernel_rfl) (by kernel_rfl) (by kernel_rfl) (by kernel_rfl) (fun _ _ _ h => h) (Or.inl ⟨by rfl, ?_⟩) ?_
  rotate_left
  · (intro w; go_simp; try with_reducible rfl)
  try simp only [Act.put, List.setIfInBounds_toArray, List.set_cons_zero, List.set_cons_succ]
  refine take_put (i := 1) (v := ?_) (some 21) rfl (by kernel_rfl) (by kernel_rfl) (by kernel_rfl) (by kernel_rfl) (fun _ _ _ h => h) (Or.inl ⟨by rfl, ?_⟩) ?_
  rotate_left
  · (intro w; go_simp; try with_reducible rfl)
  try simp only [Act.put, List.setIfInBounds_toArray, List.set_cons_zero, List.set_cons_succ]
  refine take_put (i := 2) (v := ?_) (some 22) rfl (by kernel_rfl) (by kernel_rfl) (by kernel_rfl) (by kernel_rfl) (fun _ _ _ h => h) (Or.inl ⟨by rfl, ?_⟩) ?_
  rotate_left
  · (intro w; go_simp; try with_reducible rfl)
  try simp only [Act.put, List.setIfInBounds_toArray, List.set_cons_zero, List.set_cons_succ]
  refine take_put (i := 3) (v := ?_) (some 23) rfl (by kernel_rfl) (by kernel_rfl) (by kernel_rfl) (by kernel_rfl) (fun _ _ _ h => h) (Or.inl ⟨by rfl, ?_⟩) ?_
  rotate_left
  · (intro w; go_simp; try with_reducible rfl)
  try simp only [Act.put, List.setIfInBounds_toArray, List.set_cons_zero, List.set_cons_succ]
  refine take_put (i := 5) (v := ?_) (some 25) rfl (by kernel_rfl) (by kernel_rfl) (by kernel_rfl) (by kernel_rfl) (fun _ _ _ h => h) (Or.inl ⟨by rfl, ?_⟩) ?_
  rotate_left
  · (intro w; go_simp; try with_reducible rfl)
  try simp only [Act.put, List.setIfInBounds_toArray, List.set_cons_zero, List.set_cons_succ]
  refine take_put (i := 6) (v := ?_) (some 26) rfl (by kernel_rfl) (by kernel_rfl) (by kernel_rfl) (by kernel_rfl) (fun _ _ _ h => h) (Or.inl ⟨by rfl, ?_⟩) ?_
  rotate_left
  · (intro w; go_simp; try with_reducible rfl)
  try simp only [Act.put, List.setIfInBounds_toArray, List.set_cons_zero, List.set_cons_succ]
  refine take_put (i := 7) (v := ?_) (some 27) rfl (by kernel_rfl) (by kernel_rfl) (by kernel_rfl) (by kernel_rfl) (fun _ _ _ h => h) (Or.inl ⟨by rfl, ?_⟩) ?_
  rotate_left
  · (intro w; go_simp; try with_reducible rfl)
  try simp only [Act.put, List.setIfInBounds_toArray, List.set_cons_zero, List.set_cons_succ]
  refine wpAny_ready (rs := [4, 8]) (by kernel_rfl) (by simp) ?_
  refine AllReady.cons rfl (fun K hK => ?_) (AllReady.cons rfl (fun K hK => ?_) AllReady.nil)
  · have cl := c1
    go_simp
    clear cl
    refine hK _ _ ?_
    clear hK K
    try simp only [Act.put, List.getElem_toArray, List.getElem_cons_succ, List.getElem_cons_zero, List.setIfInBounds_toArray, List.set_cons_zero, List.set_cons_succ]
    refine wpAny_ready (rs := [8]) (by kernel_rfl) (by simp) ?_
    refine AllReady.cons rfl (fun K hK => ?_) AllReady.nil
    have cl := c2
    go_simp
    clear cl
    refine hK _ _ ?_
    clear hK K
    try simp only [Act.put, List.getElem_toArray, List.getElem_cons_succ, List.getElem_cons_zero, List.setIfInBounds_toArray, List.set_cons_zero, List.set_cons_succ]
    refine wpAny_ready (rs := [9]) (by kernel_rfl) (by simp) ?_
    refine AllReady.cons rfl (fun K hK => ?_) AllReady.nil
    refine step_append_gen rfl (.tmp 24) (.tmp 28) 71 rfl w.heap.size 30 i0 (.slice none 0 0) 1 24 Try.underlying71 hi hz0 hz1 hz2 (by rfl) (by decide) (.slice none 0 0) 0 [] rfl (World.ownsRow_nil _ _ _ _) ⟨rs, 0, none⟩ ns cs SV rfl HSL.out (own_news HR1d.out.srow) HO1.out.1 (by unfold maxLen; omega) (by omega) HB1d.out.size ?_
    intro v3 w3 ho3 hg3
    obtain ⟨a3, n3, k3, rfl⟩ := own_slice ho3
    have HO3 : Hid (w3.ownsRow w.heap.size 30 1 (.slice a3 n3 k3) ns SV) := by (show World.ownsRow _ _ _ _ _ _ _); simpa using ho3
    have hb3 : Below wd.heap.size wd w3 := (Below.refl _ _).grown hg3 (Nat.le_refl _) (fun j hj => by cases hj)
    have HK3 : Hid (Blk w3 w.heap.size #[.slice none 0 0, .slice none 0 0, .int .i64 (D.trip : Int), .bool D.down, .int .i64 (D.age : Int)] 74) := HK1d.out.stay hb3
    have HB3 : Hid (Below w.heap.size w w3) := HB1d.out.trans (hb3.mono HB1d.out.size)
    have f7 : w3.frozen? ⟨w.heap.size, 0, none⟩ = false := HK3.out.free 0
    have c7 : w3.cell? ⟨w.heap.size, 0, none⟩ = some (.slice none 0 0) := HK3.out.cell 0 rfl
    clear ho3 hg3 hb3
    refine hK _ _ ?_
    clear hK K
    try simp only [Act.put, List.getElem_toArray, List.getElem_cons_succ, List.getElem_cons_zero, List.setIfInBounds_toArray, List.set_cons_zero, List.set_cons_succ]
    refine take_put (i := 10) (v := ?_) (some 30) rfl (by kernel_rfl) (by kernel_rfl) (by kernel_rfl) (by kernel_rfl) (fun _ _ _ h => h) (Or.inl ⟨by rfl, ?_⟩) ?_
    rotate_left
    · (intro w; go_simp; try with_reducible rfl)
    try simp only [Act.put, List.setIfInBounds_toArray, List.set_cons_zero, List.set_cons_succ]
    refine take_put (i := 11) (v := ?_) (some 31) rfl (by kernel_rfl) (by kernel_rfl) (by kernel_rfl) (by kernel_rfl) (fun _ _ _ h => h) (Or.inl ⟨by rfl, ?_⟩) ?_
    rotate_left
    · (intro w; go_simp; try with_reducible rfl)
    try simp only [Act.put, List.setIfInBounds_toArray, List.set_cons_zero, List.set_cons_succ]
    refine wpAny_ready (rs := [12]) (by kernel_rfl) (by simp) ?_
    refine AllReady.cons rfl (fun K hK => ?_) AllReady.nil
    go_simp
    clear f7 c7
    refine hK _ _ ?_
    clear hK K
    try simp only [Act.put, List.getElem_toArray, List.getElem_cons_succ, List.getElem_cons_zero, List.setIfInBounds_toArray, List.set_cons_zero, List.set_cons_succ]
    refine wpAny_done (by kernel_rfl) ?_ _
    obtain ⟨w4, HW4⟩ : ∃ w4, Hid (w4 = w3.setCell ⟨w.heap.size, 0, none⟩ (.slice a3 n3 k3)) := ⟨_, rfl⟩
    rw [← HW4.out]
    have hc := grown_cell w3 w.heap.size 0 (.slice a3 n3 k3)
    rw [← HW4.out] at hc
    have HK4 : Hid (Blk w4.drew w.heap.size #[.slice a3 n3 k3, .slice none 0 0, .int .i64 (D.trip : Int), .bool D.down, .int .i64 (D.age : Int)] 74) := by (show Blk _ _ _ _); rw [HW4.out]; exact HK3.out.set 0 _
    have HO4 : Hid (w4.drew.ownsRow w.heap.size 30 1 (.slice a3 n3 k3) ns SV) := by (have := own_type HO3.out (fun k cs hk => by rw [hc.block k (heap_lt hk) (fun e => by simp only [Option.some.injEq] at e; exact blk_ne hk HK3.out (by decide) e)]; exact hk)); exact own_stay this (fun k hk => (Below.refl w4.heap.size w4).drew.block k (this.lt k hk).2)
    have HB4 : Hid (Below w.heap.size w w4.drew) := by (have : Below w.heap.size w w4 := by rw [HW4.out]; exact HB3.out.setCell (Nat.le_refl _) _); exact this.drew
    have HR4 : Hid (Rk w4.drew base r q (.slice (some ⟨rs, 0, none⟩) ns cs) (.slice aw nw cw) SV WV D) := HR.out.stay HB4.out
    have d1 : w4.drew.cell? ⟨w.heap.size, 1, none⟩ = some (.slice none 0 0) := HK4.out.cell 1 rfl
    have d2 : w4.drew.cell? ⟨r, 1, none⟩ = some (.slice aw nw cw) := HR4.out.blk.cell 1 rfl
    clear hc HK3 HO3 HB3 c1 c2
    rcases HW0.out with ⟨rfl, rfl, rfl⟩ | ⟨gw, rfl⟩
    · go_wp2
      refine wp_region_any (by kernel_rfl) ?_
      change wpAny _ _ _ _ _ _ _ (World.drew _)
      generalize w4.drew = wd at *
      refine take_put (i := 0) (v := ?_) (some 32) rfl (by kernel_rfl) (by kernel_rfl) (by kernel_rfl) (by kernel_rfl) (fun _ _ _ h => h) (Or.inl ⟨by rfl, ?_⟩) ?_
      rotate_left
      · (intro w; go_simp; try with_reducible rfl)
      try simp only [Act.put, List.setIfInBounds_toArray, List.set_cons_zero, List.set_cons_succ]
      refine take_put (i := 1) (v := ?_) (some 33) rfl (by kernel_rfl) (by kernel_rfl) (by kernel_rfl) (by kernel_rfl) (fun _ _ _ h => h) (Or.inl ⟨by rfl, ?_⟩) ?_
      rotate_left
      · (intro w; go_simp; try with_reducible rfl)
      try simp only [Act.put, List.setIfInBounds_toArray, List.set_cons_zero, List.set_cons_succ]
      refine take_put (i := 2) (v := ?_) (some 34) rfl (by kernel_rfl) (by kernel_rfl) (by kernel_rfl) (by kernel_rfl) (fun _ _ _ h => h) (Or.inl ⟨by rfl, ?_⟩) ?_
      rotate_left
      · (intro w; go_simp; try with_reducible rfl)
      try simp only [Act.put, List.setIfInBounds_toArray, List.set_cons_zero, List.set_cons_succ]
      refine take_put (i := 3) (v := ?_) (some 35) rfl (by kernel_rfl) (by kernel_rfl) (by kernel_rfl) (by kernel_rfl) (fun _ _ _ h => h) (Or.inl ⟨by rfl, ?_⟩) ?_
      rotate_left
      · (intro w; go_simp; try with_reducible rfl)
      try simp only [Act.put, List.setIfInBounds_toArray, List.set_cons_zero, List.set_cons_succ]
      refine take_put (i := 5) (v := ?_) (some 37) rfl (by kernel_rfl) (by kernel_rfl) (by kernel_rfl) (by kernel_rfl) (fun _ _ _ h => h) (Or.inl ⟨by rfl, ?_⟩) ?_
      rotate_left
      · (intro w; go_simp; try with_reducible rfl)
      try simp only [Act.put, List.setIfInBounds_toArray, List.set_cons_zero, List.set_cons_succ]
      refine take_put (i := 6) (v := ?_) (some 38) rfl (by kernel_rfl) (by kernel_rfl) (by kernel_rfl) (by kernel_rfl) (fun _ _ _ h => h) (Or.inl ⟨by rfl, ?_⟩) ?_
      rotate_left
      · (intro w; go_simp; try with_reducible rfl)
      try simp only [Act.put, List.setIfInBounds_toArray, List.set_cons_zero, List.set_cons_succ]
      refine take_put (i := 7) (v := ?_) (some 39) rfl (by kernel_rfl) (by kernel_rfl) (by kernel_rfl) (by kernel_rfl) (fun _ _ _ h => h) (Or.inl ⟨by rfl, ?_⟩) ?_
      rotate_left
      · (intro w; go_simp; try with_reducible rfl)
      try simp only [Act.put, List.setIfInBounds_toArray, List.set_cons_zero, List.set_cons_succ]
      refine wpAny_ready (rs := [4, 8]) (by kernel_rfl) (by simp) ?_
      refine AllReady.cons rfl (fun K hK => ?_) (AllReady.cons rfl (fun K hK => ?_) AllReady.nil)
      · have cl := d1
        go_simp
        clear cl
        refine hK _ _ ?_
        clear hK K
        try simp only [Act.put, List.getElem_toArray, List.getElem_cons_succ, List.getElem_cons_zero, List.setIfInBounds_toArray, List.set_cons_zero, List.set_cons_succ]
        refine wpAny_ready (rs := [8]) (by kernel_rfl) (by simp) ?_
        refine AllReady.cons rfl (fun K hK => ?_) AllReady.nil
        have cl := d2
        go_simp
        clear cl
        refine hK _ _ ?_
        clear hK K
        try simp only [Act.put, List.getElem_toArray, List.getElem_cons_succ, List.getElem_cons_zero, List.setIfInBounds_toArray, List.set_cons_zero, List.set_cons_succ]
        refine wpAny_ready (rs := [9]) (by kernel_rfl) (by simp) ?_
        refine AllReady.cons rfl (fun K hK => ?_) AllReady.nil
        refine step_append_none rfl (.tmp 36) (.tmp 40) 72 rfl w.heap.size 104 j0 2 Try.underlying72 hj (.slice none 0 0) 0 [] rfl (World.ownsRow_nil _ _ _ _) rfl ?_
        have HWN : Hid (WV = []) := List.length_eq_zero_iff.1 (by have := HWL.out; omega)
        have HF : Hid (Rk (wd.setCell ⟨w.heap.size, 1, none⟩ (.slice none 0 0)) w.heap.size w.heap.size q (.slice a3 n3 k3) (.slice none 0 0) SV WV D) := by
          have hc := grown_cell wd w.heap.size 1 (.slice none 0 0)
          have hb : Below w.heap.size w (wd.setCell ⟨w.heap.size, 1, none⟩ (.slice none 0 0)) := HB4.out.setCell (Nat.le_refl _) _
          have ho := own_type HO4.out (fun k cs hk => by rw [hc.block k (heap_lt hk) (fun e => by simp only [Option.some.injEq] at e; exact blk_ne hk HK4.out (by decide) e)]; exact hk)
          refine ⟨HK4.out.set 1 _, by rw [← HNS.out]; exact ho, by rw [← HNW.out, HWN.out]; exact World.ownsRow_nil _ _ _ _, Nat.le_refl _, HR.out.s1, HR.out.sz, fun i s hs => (HR.out.each i s hs).imp fun _ hv => ⟨hv.1, hv.2.up hb⟩, fun i p hp => ⟨(HR.out.puts i p hp).1, (HR.out.puts i p hp).2.1, (HR.out.puts i p hp).2.2.imp fun _ hv => ⟨hv.1, hv.2.up hb⟩⟩, HR.out.tr, HR.out.ag, HR.out.wl⟩
        have HBF : Hid (Below w.heap.size w (wd.setCell ⟨w.heap.size, 1, none⟩ (.slice none 0 0))) := HB4.out.setCell (Nat.le_refl _) _
        have f7 : wd.frozen? ⟨w.heap.size, 1, none⟩ = false := HK4.out.free 1
        have c7 : wd.cell? ⟨w.heap.size, 1, none⟩ = some (.slice none 0 0) := HK4.out.cell 1 rfl
        refine hK _ _ ?_
        clear hK K
        try simp only [Act.put, List.getElem_toArray, List.getElem_cons_succ, List.getElem_cons_zero, List.setIfInBounds_toArray, List.set_cons_zero, List.set_cons_succ]
        refine take_put (i := 10) (v := ?_) (some 42) rfl (by kernel_rfl) (by kernel_rfl) (by kernel_rfl) (by kernel_rfl) (fun _ _ _ h => h) (Or.inl ⟨by rfl, ?_⟩) ?_
        rotate_left
        · (intro w; go_simp; try with_reducible rfl)
        try simp only [Act.put, List.setIfInBounds_toArray, List.set_cons_zero, List.set_cons_succ]
        refine take_put (i := 11) (v := ?_) (some 43) rfl (by kernel_rfl) (by kernel_rfl) (by kernel_rfl) (by kernel_rfl) (fun _ _ _ h => h) (Or.inl ⟨by rfl, ?_⟩) ?_
        rotate_left
        · (intro w; go_simp; try with_reducible rfl)
        try simp only [Act.put, List.setIfInBounds_toArray, List.set_cons_zero, List.set_cons_succ]
        refine wpAny_ready (rs := [12]) (by kernel_rfl) (by simp) ?_
        refine AllReady.cons rfl (fun K hK => ?_) AllReady.nil
        go_simp
        clear f7 c7
        refine hK _ _ ?_
        clear hK K
        try simp only [Act.put, List.getElem_toArray, List.getElem_cons_succ, List.getElem_cons_zero, List.setIfInBounds_toArray, List.set_cons_zero, List.set_cons_succ]
        refine wpAny_done (by kernel_rfl) ?_ _
        go_wp2
        go_ret
        exact ⟨_, _, _, rfl, HF, HBF.out⟩
      · have cl := d2
        go_simp
        clear cl
        refine hK _ _ ?_
        clear hK K
        try simp only [Act.put, List.getElem_toArray, List.getElem_cons_succ, List.getElem_cons_zero, List.setIfInBounds_toArray, List.set_cons_zero, List.set_cons_succ]
        refine wpAny_ready (rs := [4]) (by kernel_rfl) (by simp) ?_
        refine AllReady.cons rfl (fun K hK => ?_) AllReady.nil
        have cl := d1
        go_simp
        clear cl
        refine hK _ _ ?_
        clear hK K
        try simp only [Act.put, List.getElem_toArray, List.getElem_cons_succ, List.getElem_cons_zero, List.setIfInBounds_toArray, List.set_cons_zero, List.set_cons_succ]
        refine wpAny_ready (rs := [9]) (by kernel_rfl) (by simp) ?_
        refine AllReady.cons rfl (fun K hK => ?_) AllReady.nil
        refine step_append_none rfl (.tmp 36) (.tmp 40) 72 rfl w.heap.size 104 j0 2 Try.underlying72 hj (.slice none 0 0) 0 [] rfl (World.ownsRow_nil _ _ _ _) rfl ?_
        have HWN : Hid (WV = []) := List.length_eq_zero_iff.1 (by have := HWL.out; omega)
        have HF : Hid (Rk (wd.setCell ⟨w.heap.size, 1, none⟩ (.slice none 0 0)) w.heap.size w.heap.size q (.slice a3 n3 k3) (.slice none 0 0) SV WV D) := by
          have hc := grown_cell wd w.heap.size 1 (.slice none 0 0)
          have hb : Below w.heap.size w (wd.setCell ⟨w.heap.size, 1, none⟩ (.slice none 0 0)) := HB4.out.setCell (Nat.le_refl _) _
          have ho := own_type HO4.out (fun k cs hk => by rw [hc.block k (heap_lt hk) (fun e => by simp only [Option.some.injEq] at e; exact blk_ne hk HK4.out (by decide) e)]; exact hk)
          refine ⟨HK4.out.set 1 _, by rw [← HNS.out]; exact ho, by rw [← HNW.out, HWN.out]; exact World.ownsRow_nil _ _ _ _, Nat.le_refl _, HR.out.s1, HR.out.sz, fun i s hs => (HR.out.each i s hs).imp fun _ hv => ⟨hv.1, hv.2.up hb⟩, fun i p hp => ⟨(HR.out.puts i p hp).1, (HR.out.puts i p hp).2.1, (HR.out.puts i p hp).2.2.imp fun _ hv => ⟨hv.1, hv.2.up hb⟩⟩, HR.out.tr, HR.out.ag, HR.out.wl⟩
        have HBF : Hid (Below w.heap.size w (wd.setCell ⟨w.heap.size, 1, none⟩ (.slice none 0 0))) := HB4.out.setCell (Nat.le_refl _) _
        have f7 : wd.frozen? ⟨w.heap.size, 1, none⟩ = false := HK4.out.free 1
        have c7 : wd.cell? ⟨w.heap.size, 1, none⟩ = some (.slice none 0 0) := HK4.out.cell 1 rfl
        refine hK _ _ ?_
        clear hK K
        try simp only [Act.put, List.getElem_toArray, List.getElem_cons_succ, List.getElem_cons_zero, List.setIfInBounds_toArray, List.set_cons_zero, List.set_cons_succ]
        refine take_put (i := 10) (v := ?_) (some 42) rfl (by kernel_rfl) (by kernel_rfl) (by kernel_rfl) (by kernel_rfl) (fun _ _ _ h => h) (Or.inl ⟨by rfl, ?_⟩) ?_
        rotate_left
        · (intro w; go_simp; try with_reducible rfl)
        try simp only [Act.put, List.setIfInBounds_toArray, List.set_cons_zero, List.set_cons_succ]
        refine take_put (i := 11) (v := ?_) (some 43) rfl (by kernel_rfl) (by kernel_rfl) (by kernel_rfl) (by kernel_rfl) (fun _ _ _ h => h) (Or.inl ⟨by rfl, ?_⟩) ?_
        rotate_left
        · (intro w; go_simp; try with_reducible rfl)
        try simp only [Act.put, List.setIfInBounds_toArray, List.set_cons_zero, List.set_cons_succ]
        refine wpAny_ready (rs := [12]) (by kernel_rfl) (by simp) ?_
        refine AllReady.cons rfl (fun K hK => ?_) AllReady.nil
        go_simp
        clear f7 c7
        refine hK _ _ ?_
        clear hK K
        try simp only [Act.put, List.getElem_toArray, List.getElem_cons_succ, List.getElem_cons_zero, List.setIfInBounds_toArray, List.set_cons_zero, List.set_cons_succ]
        refine wpAny_done (by kernel_rfl) ?_ _
        go_wp2
        go_ret
        exact ⟨_, _, _, rfl, HF, HBF.out⟩
    · go_wp2
      refine wp_region_any (by kernel_rfl) ?_
      change wpAny _ _ _ _ _ _ _ (World.drew _)
      generalize w4.drew = wd at *
      refine take_put (i := 0) (v := ?_) (some 32) rfl (by kernel_rfl) (by kernel_rfl) (by kernel_rfl) (by kernel_rfl) (fun _ _ _ h => h) (Or.inl ⟨by rfl, ?_⟩) ?_
      rotate_left
      · (intro w; go_simp; try with_reducible rfl)
      try simp only [Act.put, List.setIfInBounds_toArray, List.set_cons_zero, List.set_cons_succ]
      refine take_put (i := 1) (v := ?_) (some 33) rfl (by kernel_rfl) (by kernel_rfl) (by kernel_rfl) (by kernel_rfl) (fun _ _ _ h => h) (Or.inl ⟨by rfl, ?_⟩) ?_
      rotate_left
      · (intro w; go_simp; try with_reducible rfl)
      try simp only [Act.put, List.setIfInBounds_toArray, List.set_cons_zero, List.set_cons_succ]
      refine take_put (i := 2) (v := ?_) (some 34) rfl (by kernel_rfl) (by kernel_rfl) (by kernel_rfl) (by kernel_rfl) (fun _ _ _ h => h) (Or.inl ⟨by rfl, ?_⟩) ?_
      rotate_left
      · (intro w; go_simp; try with_reducible rfl)
      try simp only [Act.put, List.setIfInBounds_toArray, List.set_cons_zero, List.set_cons_succ]
      refine take_put (i := 3) (v := ?_) (some 35) rfl (by kernel_rfl) (by kernel_rfl) (by kernel_rfl) (by kernel_rfl) (fun _ _ _ h => h) (Or.inl ⟨by rfl, ?_⟩) ?_
      rotate_left
      · (intro w; go_simp; try with_reducible rfl)
      try simp only [Act.put, List.setIfInBounds_toArray, List.set_cons_zero, List.set_cons_succ]
      refine take_put (i := 5) (v := ?_) (some 37) rfl (by kernel_rfl) (by kernel_rfl) (by kernel_rfl) (by kernel_rfl) (fun _ _ _ h => h) (Or.inl ⟨by rfl, ?_⟩) ?_
      rotate_left
      · (intro w; go_simp; try with_reducible rfl)
      try simp only [Act.put, List.setIfInBounds_toArray, List.set_cons_zero, List.set_cons_succ]
      refine take_put (i := 6) (v := ?_) (some 38) rfl (by kernel_rfl) (by kernel_rfl) (by kernel_rfl) (by kernel_rfl) (fun _ _ _ h => h) (Or.inl ⟨by rfl, ?_⟩) ?_
      rotate_left
      · (intro w; go_simp; try with_reducible rfl)
      try simp only [Act.put, List.setIfInBounds_toArray, List.set_cons_zero, List.set_cons_succ]
      refine take_put (i := 7) (v := ?_) (some 39) rfl (by kernel_rfl) (by kernel_rfl) (by kernel_rfl) (by kernel_rfl) (fun _ _ _ h => h) (Or.inl ⟨by rfl, ?_⟩) ?_
      rotate_left
      · (intro w; go_simp; try with_reducible rfl)
      try simp only [Act.put, List.setIfInBounds_toArray, List.set_cons_zero, List.set_cons_succ]
      refine wpAny_ready (rs := [4, 8]) (by kernel_rfl) (by simp) ?_
      refine AllReady.cons rfl (fun K hK => ?_) (AllReady.cons rfl (fun K hK => ?_) AllReady.nil)
      · have cl := d1
        go_simp
        clear cl
        refine hK _ _ ?_
        clear hK K
        try simp only [Act.put, List.getElem_toArray, List.getElem_cons_succ, List.getElem_cons_zero, List.setIfInBounds_toArray, List.set_cons_zero, List.set_cons_succ]
        refine wpAny_ready (rs := [8]) (by kernel_rfl) (by simp) ?_
        refine AllReady.cons rfl (fun K hK => ?_) AllReady.nil
        have cl := d2
        go_simp
        clear cl
        refine hK _ _ ?_
        clear hK K
        try simp only [Act.put, List.getElem_toArray, List.getElem_cons_succ, List.getElem_cons_zero, List.setIfInBounds_toArray, List.set_cons_zero, List.set_cons_succ]
        refine wpAny_ready (rs := [9]) (by kernel_rfl) (by simp) ?_
        refine AllReady.cons rfl (fun K hK => ?_) AllReady.nil
        refine step_append_gen rfl (.tmp 36) (.tmp 40) 72 rfl w.heap.size 104 j0 (.agg #[.int .i64 0, .slice none 0 0]) 2 32 Try.underlying72 hj hy0 hy1 hy2 (by rfl) (by decide) (.slice none 0 0) 0 [] rfl (World.ownsRow_nil _ _ _ _) ⟨gw, 0, none⟩ nw cw WV rfl HWL.out (own_news HR4.out.wrow) HO1.out.2 (by unfold maxLen; omega) (by omega) HB4.out.size ?_
        intro v5 w5 ho5 hg5
        obtain ⟨a5, n5, k5, rfl⟩ := own_slice ho5
        have HO5 : Hid (w5.ownsRow w.heap.size 104 2 (.slice a5 n5 k5) nw WV) := by (show World.ownsRow _ _ _ _ _ _ _); simpa using ho5
        have hb5 : Below wd.heap.size wd w5 := (Below.refl _ _).grown hg5 (Nat.le_refl _) (fun j hj => by cases hj)
        have HK5 : Hid (Blk w5 w.heap.size #[.slice a3 n3 k3, .slice none 0 0, .int .i64 (D.trip : Int), .bool D.down, .int .i64 (D.age : Int)] 74) := HK4.out.stay hb5
        have HP5 : Hid (w5.ownsRow w.heap.size 30 1 (.slice a3 n3 k3) ns SV) := own_stay HO4.out (fun k hk => hb5.block k (HO4.out.lt k hk).2)
        have HB5 : Hid (Below w.heap.size w w5) := HB4.out.trans (hb5.mono HB4.out.size)
        have HF : Hid (Rk (w5.setCell ⟨w.heap.size, 1, none⟩ (.slice a5 n5 k5)) w.heap.size w.heap.size q (.slice a3 n3 k3) (.slice a5 n5 k5) SV WV D) := by
          have hc := grown_cell w5 w.heap.size 1 (.slice a5 n5 k5)
          have hb : Below w.heap.size w (w5.setCell ⟨w.heap.size, 1, none⟩ (.slice a5 n5 k5)) := HB5.out.setCell (Nat.le_refl _) _
          have ho := own_type HP5.out (fun k cs hk => by rw [hc.block k (heap_lt hk) (fun e => by simp only [Option.some.injEq] at e; exact blk_ne hk HK5.out (by decide) e)]; exact hk)
          have hp := own_type HO5.out (fun k cs hk => by rw [hc.block k (heap_lt hk) (fun e => by simp only [Option.some.injEq] at e; exact blk_ne hk HK5.out (by decide) e)]; exact hk)
          refine ⟨HK5.out.set 1 _, by rw [← HNS.out]; exact ho, by rw [← HNW.out]; exact hp, Nat.le_refl _, HR.out.s1, HR.out.sz, fun i s hs => (HR.out.each i s hs).imp fun _ hv => ⟨hv.1, hv.2.up hb⟩, fun i p hp => ⟨(HR.out.puts i p hp).1, (HR.out.puts i p hp).2.1, (HR.out.puts i p hp).2.2.imp fun _ hv => ⟨hv.1, hv.2.up hb⟩⟩, HR.out.tr, HR.out.ag, HR.out.wl⟩
        have HBF : Hid (Below w.heap.size w (w5.setCell ⟨w.heap.size, 1, none⟩ (.slice a5 n5 k5))) := HB5.out.setCell (Nat.le_refl _) _
        have f7 : w5.frozen? ⟨w.heap.size, 1, none⟩ = false := HK5.out.free 1
        have c7 : w5.cell? ⟨w.heap.size, 1, none⟩ = some (.slice none 0 0) := HK5.out.cell 1 rfl
        clear ho5 hg5 hb5
        refine hK _ _ ?_
        clear hK K
        try simp only [Act.put, List.getElem_toArray, List.getElem_cons_succ, List.getElem_cons_zero, List.setIfInBounds_toArray, List.set_cons_zero, List.set_cons_succ]
        refine take_put (i := 10) (v := ?_) (some 42) rfl (by kernel_rfl) (by kernel_rfl) (by kernel_rfl) (by kernel_rfl) (fun _ _ _ h => h) (Or.inl ⟨by rfl, ?_⟩) ?_
        rotate_left
        · (intro w; go_simp; try with_reducible rfl)
        try simp only [Act.put, List.setIfInBounds_toArray, List.set_cons_zero, List.set_cons_succ]
        refine take_put (i := 11) (v := ?_) (some 43) rfl (by kernel_rfl) (by kernel_rfl) (by kernel_rfl) (by kernel_rfl) (fun _ _ _ h => h) (Or.inl ⟨by rfl, ?_⟩) ?_
        rotate_left
        · (intro w; go_simp; try with_reducible rfl)
        try simp only [Act.put, List.setIfInBounds_toArray, List.set_cons_zero, List.set_cons_succ]
        refine wpAny_ready (rs := [12]) (by kernel_rfl) (by simp) ?_
        refine AllReady.cons rfl (fun K hK => ?_) AllReady.nil
        go_simp
        clear f7 c7
        refine hK _ _ ?_
        clear hK K
        try simp only [Act.put, List.getElem_toArray, List.getElem_cons_succ, List.getElem_cons_zero, List.setIfInBounds_toArray, List.set_cons_zero, List.set_cons_succ]
        refine wpAny_done (by kernel_rfl) ?_ _
        go_wp2
        go_ret
        exact ⟨_, _, _, rfl, HF, HBF.out⟩
      · have cl := d2
        go_simp
        clear cl
        refine hK _ _ ?_
        clear hK K
        try simp only [Act.put, List.getElem_toArray, List.getElem_cons_succ, List.getElem_cons_zero, List.setIfInBounds_toArray, List.set_cons_zero, List.set_cons_succ]
        refine wpAny_ready (rs := [4]) (by kernel_rfl) (by simp) ?_
        refine AllReady.cons rfl (fun K hK => ?_) AllReady.nil
        have cl := d1
        go_simp
        clear cl
        refine hK _ _ ?_
        clear hK K
        try simp only [Act.put, List.getElem_toArray, List.getElem_cons_succ, List.getElem_cons_zero, List.setIfInBounds_toArray, List.set_cons_zero, List.set_cons_succ]
        refine wpAny_ready (rs := [9]) (by kernel_rfl) (by simp) ?_
        refine AllReady.cons rfl (fun K hK => ?_) AllReady.nil
        refine step_append_gen rfl (.tmp 36) (.tmp 40) 72 rfl w.heap.size 104 j0 (.agg #[.int .i64 0, .slice none 0 0]) 2 32 Try.underlying72 hj hy0 hy1 hy2 (by rfl) (by decide) (.slice none 0 0) 0 [] rfl (World.ownsRow_nil _ _ _ _) ⟨gw, 0, none⟩ nw cw WV rfl HWL.out (own_news HR4.out.wrow) HO1.out.2 (by unfold maxLen; omega) (by omega) HB4.out.size ?_
        intro v5 w5 ho5 hg5
        obtain ⟨a5, n5, k5, rfl⟩ := own_slice ho5
        have HO5 : Hid (w5.ownsRow w.heap.size 104 2 (.slice a5 n5 k5) nw WV) := by (show World.ownsRow _ _ _ _ _ _ _); simpa using ho5
        have hb5 : Below wd.heap.size wd w5 := (Below.refl _ _).grown hg5 (Nat.le_refl _) (fun j hj => by cases hj)
        have HK5 : Hid (Blk w5 w.heap.size #[.slice a3 n3 k3, .slice none 0 0, .int .i64 (D.trip : Int), .bool D.down, .int .i64 (D.age : Int)] 74) := HK4.out.stay hb5
        have HP5 : Hid (w5.ownsRow w.heap.size 30 1 (.slice a3 n3 k3) ns SV) := own_stay HO4.out (fun k hk => hb5.block k (HO4.out.lt k hk).2)
        have HB5 : Hid (Below w.heap.size w w5) := HB4.out.trans (hb5.mono HB4.out.size)
        have HF : Hid (Rk (w5.setCell ⟨w.heap.size, 1, none⟩ (.slice a5 n5 k5)) w.heap.size w.heap.size q (.slice a3 n3 k3) (.slice a5 n5 k5) SV WV D) := by
          have hc := grown_cell w5 w.heap.size 1 (.slice a5 n5 k5)
          have hb : Below w.heap.size w (w5.setCell ⟨w.heap.size, 1, none⟩ (.slice a5 n5 k5)) := HB5.out.setCell (Nat.le_refl _) _
          have ho := own_type HP5.out (fun k cs hk => by rw [hc.block k (heap_lt hk) (fun e => by simp only [Option.some.injEq] at e; exact blk_ne hk HK5.out (by decide) e)]; exact hk)
          have hp := own_type HO5.out (fun k cs hk => by rw [hc.block k (heap_lt hk) (fun e => by simp only [Option.some.injEq] at e; exact blk_ne hk HK5.out (by decide) e)]; exact hk)
          refine ⟨HK5.out.set 1 _, by rw [← HNS.out]; exact ho, by rw [← HNW.out]; exact hp, Nat.le_refl _, HR.out.s1, HR.out.sz, fun i s hs => (HR.out.each i s hs).imp fun _ hv => ⟨hv.1, hv.2.up hb⟩, fun i p hp => ⟨(HR.out.puts i p hp).1, (HR.out.puts i p hp).2.1, (HR.out.puts i p hp).2.2.imp fun _ hv => ⟨hv.1, hv.2.up hb⟩⟩, HR.out.tr, HR.out.ag, HR.out.wl⟩
        have HBF : Hid (Below w.heap.size w (w5.setCell ⟨w.heap.size, 1, none⟩ (.slice a5 n5 k5))) := HB5.out.setCell (Nat.le_refl _) _
        have f7 : w5.frozen? ⟨w.heap.size, 1, none⟩ = false := HK5.out.free 1
        have c7 : w5.cell? ⟨w.heap.size, 1, none⟩ = some (.slice none 0 0) := HK5.out.cell 1 rfl
        clear ho5 hg5 hb5
        refine hK _ _ ?_
        clear hK K
        try simp only [Act.put, List.getElem_toArray, List.getElem_cons_succ, List.getElem_cons_zero, List.setIfInBounds_toArray, List.set_cons_zero, List.set_cons_succ]
        refine take_put (i := 10) (v := ?_) (some 42) rfl (by kernel_rfl) (by kernel_rfl) (by kernel_rfl) (by kernel_rfl) (fun _ _ _ h => h) (Or.inl ⟨by rfl, ?_⟩) ?_
        rotate_left
        · (intro w; go_simp; try with_reducible rfl)
        try simp only [Act.put, List.setIfInBounds_toArray, List.set_cons_zero, List.set_cons_succ]
        refine take_put (i := 11) (v := ?_) (some 43) rfl (by kernel_rfl) (by kernel_rfl) (by kernel_rfl) (by kernel_rfl) (fun _ _ _ h => h) (Or.inl ⟨by rfl, ?_⟩) ?_
        rotate_left
        · (intro w; go_simp; try with_reducible rfl)
        try simp only [Act.put, List.setIfInBounds_toArray, List.set_cons_zero, List.set_cons_succ]
        refine wpAny_ready (rs := [12]) (by kernel_rfl) (by simp) ?_
        refine AllReady.cons rfl (fun K hK => ?_) AllReady.nil
        go_simp
        clear f7 c7
        refine hK _ _ ?_
        clear hK K
        try simp only [Act.put, List.getElem_toArray, List.getElem_cons_succ, List.getElem_cons_zero, List.setIfInBounds_toArray, List.set_cons_zero, List.set_cons_succ]
        refine wpAny_done (by kernel_rfl) ?_ _
        go_wp2
        go_ret
        exact ⟨_, _, _, rfl, HF, HBF.out⟩
  · have cl := c2
    go_simp
    clear cl
    refine hK _ _ ?_
    clear hK K
    try simp only [Act.put, List.getElem_toArray, List.getElem_cons_succ, List.getElem_cons_zero, List.setIfInBounds_toArray, List.set_cons_zero, List.set_cons_succ]
    refine wpAny_ready (rs := [4]) (by kernel_rfl) (by simp) ?_
    refine AllReady.cons rfl (fun K hK => ?_) AllReady.nil
    have cl := c1
    go_simp
    clear cl
    refine hK _ _ ?_
    clear hK K
    try simp only [Act.put, List.getElem_toArray, List.getElem_cons_succ, List.getElem_cons_zero, List.setIfInBounds_toArray, List.set_cons_zero, List.set_cons_succ]
    refine wpAny_ready (rs := [9]) (by kernel_rfl) (by simp) ?_
    refine AllReady.cons rfl (fun K hK => ?_) AllReady.nil
    refine step_append_gen rfl (.tmp 24) (.tmp 28) 71 rfl w.heap.size 30 i0 (.slice none 0 0) 1 24 Try.underlying71 hi hz0 hz1 hz2 (by rfl) (by decide) (.slice none 0 0) 0 [] rfl (World.ownsRow_nil _ _ _ _) ⟨rs, 0, none⟩ ns cs SV rfl HSL.out (own_news HR1d.out.srow) HO1.out.1 (by unfold maxLen; omega) (by omega) HB1d.out.size ?_
    intro v3 w3 ho3 hg3
    obtain ⟨a3, n3, k3, rfl⟩ := own_slice ho3
    have HO3 : Hid (w3.ownsRow w.heap.size 30 1 (.slice a3 n3 k3) ns SV) := by (show World.ownsRow _ _ _ _ _ _ _); simpa using ho3
    have hb3 : Below wd.heap.size wd w3 := (Below.refl _ _).grown hg3 (Nat.le_refl _) (fun j hj => by cases hj)
    have HK3 : Hid (Blk w3 w.heap.size #[.slice none 0 0, .slice none 0 0, .int .i64 (D.trip : Int), .bool D.down, .int .i64 (D.age : Int)] 74) := HK1d.out.stay hb3
    have HB3 : Hid (Below w.heap.size w w3) := HB1d.out.trans (hb3.mono HB1d.out.size)
    have f7 : w3.frozen? ⟨w.heap.size, 0, none⟩ = false := HK3.out.free 0
    have c7 : w3.cell? ⟨w.heap.size, 0, none⟩ = some (.slice none 0 0) := HK3.out.cell 0 rfl
    clear ho3 hg3 hb3
    refine hK _ _ ?_
    clear hK K
    try simp only [Act.put, List.getElem_toArray, List.getElem_cons_succ, List.getElem_cons_zero, List.setIfInBounds_toArray, List.set_cons_zero, List.set_cons_succ]
    refine take_put (i := 10) (v := ?_) (some 30) rfl (by kernel_rfl) (by kernel_rfl) (by kernel_rfl) (by kernel_rfl) (fun _ _ _ h => h) (Or.inl ⟨by rfl, ?_⟩) ?_
    rotate_left
    · (intro w; go_simp; try with_reducible rfl)
    try simp only [Act.put, List.setIfInBounds_toArray, List.set_cons_zero, List.set_cons_succ]
    refine take_put (i := 11) (v := ?_) (some 31) rfl (by kernel_rfl) (by kernel_rfl) (by kernel_rfl) (by kernel_rfl) (fun _ _ _ h => h) (Or.inl ⟨by rfl, ?_⟩) ?_
    rotate_left
    · (intro w; go_simp; try with_reducible rfl)
    try simp only [Act.put, List.setIfInBounds_toArray, List.set_cons_zero, List.set_cons_succ]
    refine wpAny_ready (rs := [12]) (by kernel_rfl) (by simp) ?_
    refine AllReady.cons rfl (fun K hK => ?_) AllReady.nil
    go_simp
    clear f7 c7
    refine hK _ _ ?_
    clear hK K
    try simp only [Act.put, List.getElem_toArray, List.getElem_cons_succ, List.getElem_cons_zero, List.setIfInBounds_toArray, List.set_cons_zero, List.set_cons_succ]
    refine wpAny_done (by kernel_rfl) ?_ _
    obtain ⟨w4, HW4⟩ : ∃ w4, Hid (w4 = w3.setCell ⟨w.heap.size, 0, none⟩ (.slice a3 n3 k3)) := ⟨_, rfl⟩
    rw [← HW4.out]
    have hc := grown_cell w3 w.heap.size 0 (.slice a3 n3 k3)
    rw [← HW4.out] at hc
    have HK4 : Hid (Blk w4.drew w.heap.size #[.slice a3 n3 k3, .slice none 0 0, .int .i64 (D.trip : Int), .bool D.down, .int .i64 (D.age : Int)] 74) := by (show Blk _ _ _ _); rw [HW4.out]; exact HK3.out.set 0 _
    have HO4 : Hid (w4.drew.ownsRow w.heap.size 30 1 (.slice a3 n3 k3) ns SV) := by (have := own_type HO3.out (fun k cs hk => by rw [hc.block k (heap_lt hk) (fun e => by simp only [Option.some.injEq] at e; exact blk_ne hk HK3.out (by decide) e)]; exact hk)); exact own_stay this (fun k hk => (Below.refl w4.heap.size w4).drew.block k (this.lt k hk).2)
    have HB4 : Hid (Below w.heap.size w w4.drew) := by (have : Below w.heap.size w w4 := by rw [HW4.out]; exact HB3.out.setCell (Nat.le_refl _) _); exact this.drew
    have HR4 : Hid (Rk w4.drew base r q (.slice (some ⟨rs, 0, none⟩) ns cs) (.slice aw nw cw) SV WV D) := HR.out.stay HB4.out
    have d1 : w4.drew.cell? ⟨w.heap.size, 1, none⟩ = some (.slice none 0 0) := HK4.out.cell 1 rfl
    have d2 : w4.drew.cell? ⟨r, 1, none⟩ = some (.slice aw nw cw) := HR4.out.blk.cell 1 rfl
    clear hc HK3 HO3 HB3 c1 c2
    rcases HW0.out with ⟨rfl, rfl, rfl⟩ | ⟨gw, rfl⟩
    · go_wp2
      refine wp_region_any (by kernel_rfl) ?_
      change wpAny _ _ _ _ _ _ _ (World.drew _)
      generalize w4.drew = wd at *
      refine take_put (i := 0) (v := ?_) (some 32) rfl (by kernel_rfl) (by kernel_rfl) (by kernel_rfl) (by kernel_rfl) (fun _ _ _ h => h) (Or.inl ⟨by rfl, ?_⟩) ?_
      rotate_left
      · (intro w; go_simp; try with_reducible rfl)
      try simp only [Act.put, List.setIfInBounds_toArray, List.set_cons_zero, List.set_cons_succ]
      refine take_put (i := 1) (v := ?_) (some 33) rfl (by kernel_rfl) (by kernel_rfl) (by kernel_rfl) (by kernel_rfl) (fun _ _ _ h => h) (Or.inl ⟨by rfl, ?_⟩) ?_
      rotate_left
      · (intro w; go_simp; try with_reducible rfl)
      try simp only [Act.put, List.setIfInBounds_toArray, List.set_cons_zero, List.set_cons_succ]
      refine take_put (i := 2) (v := ?_) (some 34) rfl (by kernel_rfl) (by kernel_rfl) (by kernel_rfl) (by kernel_rfl) (fun _ _ _ h => h) (Or.inl ⟨by rfl, ?_⟩) ?_
      rotate_left
      · (intro w; go_simp; try with_reducible rfl)
      try simp only [Act.put, List.setIfInBounds_toArray, List.set_cons_zero, List.set_cons_succ]
      refine take_put (i := 3) (v := ?_) (some 35) rfl (by kernel_rfl) (by kernel_rfl) (by kernel_rfl) (by kernel_rfl) (fun _ _ _ h => h) (Or.inl ⟨by rfl, ?_⟩) ?_
      rotate_left
      · (intro w; go_simp; try with_reducible rfl)
      try simp only [Act.put, List.setIfInBounds_toArray, List.set_cons_zero, List.set_cons_succ]
      refine take_put (i := 5) (v := ?_) (some 37) rfl (by kernel_rfl) (by kernel_rfl) (by kernel_rfl) (by kernel_rfl) (fun _ _ _ h => h) (Or.inl ⟨by rfl, ?_⟩) ?_
      rotate_left
      · (intro w; go_simp; try with_reducible rfl)
      try simp only [Act.put, List.setIfInBounds_toArray, List.set_cons_zero, List.set_cons_succ]
      refine take_put (i := 6) (v := ?_) (some 38) rfl (by kernel_rfl) (by kernel_rfl) (by kernel_rfl) (by kernel_rfl) (fun _ _ _ h => h) (Or.inl ⟨by rfl, ?_⟩) ?_
      rotate_left
      · (intro w; go_simp; try with_reducible rfl)
      try simp only [Act.put, List.setIfInBounds_toArray, List.set_cons_zero, List.set_cons_succ]
      refine take_put (i := 7) (v := ?_) (some 39) rfl (by kernel_rfl) (by kernel_rfl) (by kernel_rfl) (by kernel_rfl) (fun _ _ _ h => h) (Or.inl ⟨by rfl, ?_⟩) ?_
      rotate_left
      · (intro w; go_simp; try with_reducible rfl)
      try simp only [Act.put, List.setIfInBounds_toArray, List.set_cons_zero, List.set_cons_succ]
      refine wpAny_ready (rs := [4, 8]) (by kernel_rfl) (by simp) ?_
      refine AllReady.cons rfl (fun K hK => ?_) (AllReady.cons rfl (fun K hK => ?_) AllReady.nil)
      · have cl := d1
        go_simp
        clear cl
        refine hK _ _ ?_
        clear hK K
        try simp only [Act.put, List.getElem_toArray, List.getElem_cons_succ, List.getElem_cons_zero, List.setIfInBounds_toArray, List.set_cons_zero, List.set_cons_succ]
        refine wpAny_ready (rs := [8]) (by kernel_rfl) (by simp) ?_
        refine AllReady.cons rfl (fun K hK => ?_) AllReady.nil
        have cl := d2
        go_simp
        clear cl
        refine hK _ _ ?_
        clear hK K
        try simp only [Act.put, List.getElem_toArray, List.getElem_cons_succ, List.getElem_cons_zero, List.setIfInBounds_toArray, List.set_cons_zero, List.set_cons_succ]
        refine wpAny_ready (rs := [9]) (by kernel_rfl) (by simp) ?_
        refine AllReady.cons rfl (fun K hK => ?_) AllReady.nil
        refine step_append_none rfl (.tmp 36) (.tmp 40) 72 rfl w.heap.size 104 j0 2 Try.underlying72 hj (.slice none 0 0) 0 [] rfl (World.ownsRow_nil _ _ _ _) rfl ?_
        have HWN : Hid (WV = []) := List.length_eq_zero_iff.1 (by have := HWL.out; omega)
        have HF : Hid (Rk (wd.setCell ⟨w.heap.size, 1, none⟩ (.slice none 0 0)) w.heap.size w.heap.size q (.slice a3 n3 k3) (.slice none 0 0) SV WV D) := by
          have hc := grown_cell wd w.heap.size 1 (.slice none 0 0)
          have hb : Below w.heap.size w (wd.setCell ⟨w.heap.size, 1, none⟩ (.slice none 0 0)) := HB4.out.setCell (Nat.le_refl _) _
          have ho := own_type HO4.out (fun k cs hk => by rw [hc.block k (heap_lt hk) (fun e => by simp only [Option.some.injEq] at e; exact blk_ne hk HK4.out (by decide) e)]; exact hk)
          refine ⟨HK4.out.set 1 _, by rw [← HNS.out]; exact ho, by rw [← HNW.out, HWN.out]; exact World.ownsRow_nil _ _ _ _, Nat.le_refl _, HR.out.s1, HR.out.sz, fun i s hs => (HR.out.each i s hs).imp fun _ hv => ⟨hv.1, hv.2.up hb⟩, fun i p hp => ⟨(HR.out.puts i p hp).1, (HR.out.puts i p hp).2.1, (HR.out.puts i p hp).2.2.imp fun _ hv => ⟨hv.1, hv.2.up hb⟩⟩, HR.out.tr, HR.out.ag, HR.out.wl⟩
        have HBF : Hid (Below w.heap.size w (wd.setCell ⟨w.heap.size, 1, none⟩ (.slice none 0 0))) := HB4.out.setCell (Nat.le_refl _) _
        have f7 : wd.frozen? ⟨w.heap.size, 1, none⟩ = false := HK4.out.free 1
        have c7 : wd.cell? ⟨w.heap.size, 1, none⟩ = some (.slice none 0 0) := HK4.out.cell 1 rfl
        refine hK _ _ ?_
        clear hK K
        try simp only [Act.put, List.getElem_toArray, List.getElem_cons_succ, List.getElem_cons_zero, List.setIfInBounds_toArray, List.set_cons_zero, List.set_cons_succ]
        refine take_put (i := 10) (v := ?_) (some 42) rfl (by kernel_rfl) (by kernel_rfl) (by kernel_rfl) (by kernel_rfl) (fun _ _ _ h => h) (Or.inl ⟨by rfl, ?_⟩) ?_
        rotate_left
        · (intro w; go_simp; try with_reducible rfl)
        try simp only [Act.put, List.setIfInBounds_toArray, List.set_cons_zero, List.set_cons_succ]
        refine take_put (i := 11) (v := ?_) (some 43) rfl (by kernel_rfl) (by kernel_rfl) (by kernel_rfl) (by kernel_rfl) (fun _ _ _ h => h) (Or.inl ⟨by rfl, ?_⟩) ?_
        rotate_left
        · (intro w; go_simp; try with_reducible rfl)
        try simp only [Act.put, List.setIfInBounds_toArray, List.set_cons_zero, List.set_cons_succ]
        refine wpAny_ready (rs := [12]) (by kernel_rfl) (by simp) ?_
        refine AllReady.cons rfl (fun K hK => ?_) AllReady.nil
        go_simp
        clear f7 c7
        refine hK _ _ ?_
        clear hK K
        try simp only [Act.put, List.getElem_toArray, List.getElem_cons_succ, List.getElem_cons_zero, List.setIfInBounds_toArray, List.set_cons_zero, List.set_cons_succ]
        refine wpAny_done (by kernel_rfl) ?_ _
        go_wp2
        go_ret
        exact ⟨_, _, _, rfl, HF, HBF.out⟩
      · have cl := d2
        go_simp
        clear cl
        refine hK _ _ ?_
        clear hK K
        try simp only [Act.put, List.getElem_toArray, List.getElem_cons_succ, List.getElem_cons_zero, List.setIfInBounds_toArray, List.set_cons_zero, List.set_cons_succ]
        refine wpAny_ready (rs := [4]) (by kernel_rfl) (by simp) ?_
        refine AllReady.cons rfl (fun K hK => ?_) AllReady.nil
        have cl := d1
        go_simp
        clear cl
        refine hK _ _ ?_
        clear hK K
        try simp only [Act.put, List.getElem_toArray, List.getElem_cons_succ, List.getElem_cons_zero, List.setIfInBounds_toArray, List.set_cons_zero, List.set_cons_succ]
        refine wpAny_ready (rs := [9]) (by kernel_rfl) (by simp) ?_
        refine AllReady.cons rfl (fun K hK => ?_) AllReady.nil
        refine step_append_none rfl (.tmp 36) (.tmp 40) 72 rfl w.heap.size 104 j0 2 Try.underlying72 hj (.slice none 0 0) 0 [] rfl (World.ownsRow_nil _ _ _ _) rfl ?_
        have HWN : Hid (WV = []) := List.length_eq_zero_iff.1 (by have := HWL.out; omega)
        have HF : Hid (Rk (wd.setCell ⟨w.heap.size, 1, none⟩ (.slice none 0 0)) w.heap.size w.heap.size q (.slice a3 n3 k3) (.slice none 0 0) SV WV D) := by
          have hc := grown_cell wd w.heap.size 1 (.slice none 0 0)
          have hb : Below w.heap.size w (wd.setCell ⟨w.heap.size, 1, none⟩ (.slice none 0 0)) := HB4.out.setCell (Nat.le_refl _) _
          have ho := own_type HO4.out (fun k cs hk => by rw [hc.block k (heap_lt hk) (fun e => by simp only [Option.some.injEq] at e; exact blk_ne hk HK4.out (by decide) e)]; exact hk)
          refine ⟨HK4.out.set 1 _, by rw [← HNS.out]; exact ho, by rw [← HNW.out, HWN.out]; exact World.ownsRow_nil _ _ _ _, Nat.le_refl _, HR.out.s1, HR.out.sz, fun i s hs => (HR.out.each i s hs).imp fun _ hv => ⟨hv.1, hv.2.up hb⟩, fun i p hp => ⟨(HR.out.puts i p hp).1, (HR.out.puts i p hp).2.1, (HR.out.puts i p hp).2.2.imp fun _ hv => ⟨hv.1, hv.2.up hb⟩⟩, HR.out.tr, HR.out.ag, HR.out.wl⟩
        have HBF : Hid (Below w.heap.size w (wd.setCell ⟨w.heap.size, 1, none⟩ (.slice none 0 0))) := HB4.out.setCell (Nat.le_refl _) _
        have f7 : wd.frozen? ⟨w.heap.size, 1, none⟩ = false := HK4.out.free 1
        have c7 : wd.cell? ⟨w.heap.size, 1, none⟩ = some (.slice none 0 0) := HK4.out.cell 1 rfl
        refine hK _ _ ?_
        clear hK K
        try simp only [Act.put, List.getElem_toArray, List.getElem_cons_succ, List.getElem_cons_zero, List.setIfInBounds_toArray, List.set_cons_zero, List.set_cons_succ]
        refine take_put (i := 10) (v := ?_) (some 42) rfl (by kernel_rfl) (by kernel_rfl) (by kernel_rfl) (by kernel_rfl) (fun _ _ _ h => h) (Or.inl ⟨by rfl, ?_⟩) ?_
        rotate_left
        · (intro w; go_simp; try with_reducible rfl)
        try simp only [Act.put, List.setIfInBounds_toArray, List.set_cons_zero, List.set_cons_succ]
        refine take_put (i := 11) (v := ?_) (some 43) rfl (by kernel_rfl) (by kernel_rfl) (by kernel_rfl) (by kernel_rfl) (fun _ _ _ h => h) (Or.inl ⟨by rfl, ?_⟩) ?_
        rotate_left
        · (intro w; go_simp; try with_reducible rfl)
        try simp only [Act.put, List.setIfInBounds_toArray, List.set_cons_zero, List.set_cons_succ]
        refine wpAny_ready (rs := [12]) (by kernel_rfl) (by simp) ?_
        refine AllReady.cons rfl (fun K hK => ?_) AllReady.nil
        go_simp
        clear f7 c7
        refine hK _ _ ?_
        clear hK K
        try simp only [Act.put, List.getElem_toArray, List.getElem_cons_succ, List.getElem_cons_zero, List.setIfInBounds_toArray, List.set_cons_zero, List.set_cons_succ]
        refine wpAny_done (by kernel_rfl) ?_ _
        go_wp2
        go_ret
        exact ⟨_, _, _, rfl, HF, HBF.out⟩
    · go_wp2
      refine wp_region_any (by kernel_rfl) ?_
      change wpAny _ _ _ _ _ _ _ (World.drew _)
      generalize w4.drew = wd at *
      refine take_put (i := 0) (v := ?_) (some 32) rfl (by kernel_rfl) (by kernel_rfl) (by kernel_rfl) (by kernel_rfl) (fun _ _ _ h => h) (Or.inl ⟨by rfl, ?_⟩) ?_
      rotate_left
      · (intro w; go_simp; try with_reducible rfl)
      try simp only [Act.put, List.setIfInBounds_toArray, List.set_cons_zero, List.set_cons_succ]
      refine take_put (i := 1) (v := ?_) (some 33) rfl (by kernel_rfl) (by kernel_rfl) (by kernel_rfl) (by kernel_rfl) (fun _ _ _ h => h) (Or.inl ⟨by rfl, ?_⟩) ?_
      rotate_left
      · (intro w; go_simp; try with_reducible rfl)
      try simp only [Act.put, List.setIfInBounds_toArray, List.set_cons_zero, List.set_cons_succ]
      refine take_put (i := 2) (v := ?_) (some 34) rfl (by kernel_rfl) (by kernel_rfl) (by kernel_rfl) (by kernel_rfl) (fun _ _ _ h => h) (Or.inl ⟨by rfl, ?_⟩) ?_
      rotate_left
      · (intro w; go_simp; try with_reducible rfl)
      try simp only [Act.put, List.setIfInBounds_toArray, List.set_cons_zero, List.set_cons_succ]
      refine take_put (i := 3) (v := ?_) (some 35) rfl (by kernel_rfl) (by kernel_rfl) (by kernel_rfl) (by kernel_rfl) (fun _ _ _ h => h) (Or.inl ⟨by rfl, ?_⟩) ?_
      rotate_left
      · (intro w; go_simp; try with_reducible rfl)
      try simp only [Act.put, List.setIfInBounds_toArray, List.set_cons_zero, List.set_cons_succ]
      refine take_put (i := 5) (v := ?_) (some 37) rfl (by kernel_rfl) (by kernel_rfl) (by kernel_rfl) (by kernel_rfl) (fun _ _ _ h => h) (Or.inl ⟨by rfl, ?_⟩) ?_
      rotate_left
      · (intro w; go_simp; try with_reducible rfl)
      try simp only [Act.put, List.setIfInBounds_toArray, List.set_cons_zero, List.set_cons_succ]
      refine take_put (i := 6) (v := ?_) (some 38) rfl (by kernel_rfl) (by kernel_rfl) (by kernel_rfl) (by kernel_rfl) (fun _ _ _ h => h) (Or.inl ⟨by rfl, ?_⟩) ?_
      rotate_left
      · (intro w; go_simp; try with_reducible rfl)
      try simp only [Act.put, List.setIfInBounds_toArray, List.set_cons_zero, List.set_cons_succ]
      refine take_put (i := 7) (v := ?_) (some 39) rfl (by kernel_rfl) (by kernel_rfl) (by kernel_rfl) (by kernel_rfl) (fun _ _ _ h => h) (Or.inl ⟨by rfl, ?_⟩) ?_
      rotate_left
      · (intro w; go_simp; try with_reducible rfl)
      try simp only [Act.put, List.setIfInBounds_toArray, List.set_cons_zero, List.set_cons_succ]
      refine wpAny_ready (rs := [4, 8]) (by kernel_rfl) (by simp) ?_
      refine AllReady.cons rfl (fun K hK => ?_) (AllReady.cons rfl (fun K hK => ?_) AllReady.nil)
      · have cl := d1
        go_simp
        clear cl
        refine hK _ _ ?_
        clear hK K
        try simp only [Act.put, List.getElem_toArray, List.getElem_cons_succ, List.getElem_cons_zero, List.setIfInBounds_toArray, List.set_cons_zero, List.set_cons_succ]
        refine wpAny_ready (rs := [8]) (by kernel_rfl) (by simp) ?_
        refine AllReady.cons rfl (fun K hK => ?_) AllReady.nil
        have cl := d2
        go_simp
        clear cl
        refine hK _ _ ?_
        clear hK K
        try simp only [Act.put, List.getElem_toArray, List.getElem_cons_succ, List.getElem_cons_zero, List.setIfInBounds_toArray, List.set_cons_zero, List.set_cons_succ]
        refine wpAny_ready (rs := [9]) (by kernel_rfl) (by simp) ?_
        refine AllReady.cons rfl (fun K hK => ?_) AllReady.nil
        refine step_append_gen rfl (.tmp 36) (.tmp 40) 72 rfl w.heap.size 104 j0 (.agg #[.int .i64 0, .slice none 0 0]) 2 32 Try.underlying72 hj hy0 hy1 hy2 (by rfl) (by decide) (.slice none 0 0) 0 [] rfl (World.ownsRow_nil _ _ _ _) ⟨gw, 0, none⟩ nw cw WV rfl HWL.out (own_news HR4.out.wrow) HO1.out.2 (by unfold maxLen; omega) (by omega) HB4.out.size ?_
        intro v5 w5 ho5 hg5
        obtain ⟨a5, n5, k5, rfl⟩ := own_slice ho5
        have HO5 : Hid (w5.ownsRow w.heap.size 104 2 (.slice a5 n5 k5) nw WV) := by (show World.ownsRow _ _ _ _ _ _ _); simpa using ho5
        have hb5 : Below wd.heap.size wd w5 := (Below.refl _ _).grown hg5 (Nat.le_refl _) (fun j hj => by cases hj)
        have HK5 : Hid (Blk w5 w.heap.size #[.slice a3 n3 k3, .slice none 0 0, .int .i64 (D.trip : Int), .bool D.down, .int .i64 (D.age : Int)] 74) := HK4.out.stay hb5
        have HP5 : Hid (w5.ownsRow w.heap.size 30 1 (.slice a3 n3 k3) ns SV) := own_stay HO4.out (fun k hk => hb5.block k (HO4.out.lt k hk).2)
        have HB5 : Hid (Below w.heap.size w w5) := HB4.out.trans (hb5.mono HB4.out.size)
        have HF : Hid (Rk (w5.setCell ⟨w.heap.size, 1, none⟩ (.slice a5 n5 k5)) w.heap.size w.heap.size q (.slice a3 n3 k3) (.slice a5 n5 k5) SV WV D) := by
          have hc := grown_cell w5 w.heap.size 1 (.slice a5 n5 k5)
          have hb : Below w.heap.size w (w5.setCell ⟨w.heap.size, 1, none⟩ (.slice a5 n5 k5)) := HB5.out.setCell (Nat.le_refl _) _
          have ho := own_type HP5.out (fun k cs hk => by rw [hc.block k (heap_lt hk) (fun e => by simp only [Option.some.injEq] at e; exact blk_ne hk HK5.out (by decide) e)]; exact hk)
          have hp := own_type HO5.out (fun k cs hk => by rw [hc.block k (heap_lt hk) (fun e => by simp only [Option.some.injEq] at e; exact blk_ne hk HK5.out (by decide) e)]; exact hk)
          refine ⟨HK5.out.set 1 _, by rw [← HNS.out]; exact ho, by rw [← HNW.out]; exact hp, Nat.le_refl _, HR.out.s1, HR.out.sz, fun i s hs => (HR.out.each i s hs).imp fun _ hv => ⟨hv.1, hv.2.up hb⟩, fun i p hp => ⟨(HR.out.puts i p hp).1, (HR.out.puts i p hp).2.1, (HR.out.puts i p hp).2.2.imp fun _ hv => ⟨hv.1, hv.2.up hb⟩⟩, HR.out.tr, HR.out.ag, HR.out.wl⟩
        have HBF : Hid (Below w.heap.size w (w5.setCell ⟨w.heap.size, 1, none⟩ (.slice a5 n5 k5))) := HB5.out.setCell (Nat.le_refl _) _
        have f7 : w5.frozen? ⟨w.heap.size, 1, none⟩ = false := HK5.out.free 1
        have c7 : w5.cell? ⟨w.heap.size, 1, none⟩ = some (.slice none 0 0) := HK5.out.cell 1 rfl
        clear ho5 hg5 hb5
        refine hK _ _ ?_
        clear hK K
        try simp only [Act.put, List.getElem_toArray, List.getElem_cons_succ, List.getElem_cons_zero, List.setIfInBounds_toArray, List.set_cons_zero, List.set_cons_succ]
        refine take_put (i := 10) (v := ?_) (some 42) rfl (by kernel_rfl) (by kernel_rfl) (by kernel_rfl) (by kernel_rfl) (fun _ _ _ h => h) (Or.inl ⟨by rfl, ?_⟩) ?_
        rotate_left
        · (intro w; go_simp; try with_reducible rfl)
        try simp only [Act.put, List.setIfInBounds_toArray, List.set_cons_zero, List.set_cons_succ]
        refine take_put (i := 11) (v := ?_) (some 43) rfl (by kernel_rfl) (by kernel_rfl) (by kernel_rfl) (by kernel_rfl) (fun _ _ _ h => h) (Or.inl ⟨by rfl, ?_⟩) ?_
        rotate_left
        · (intro w; go_simp; try with_reducible rfl)
        try simp only [Act.put, List.setIfInBounds_toArray, List.set_cons_zero, List.set_cons_succ]
        refine wpAny_ready (rs := [12]) (by kernel_rfl) (by simp) ?_
        refine AllReady.cons rfl (fun K hK => ?_) AllReady.nil
        go_simp
        clear f7 c7
        refine hK _ _ ?_
        clear hK K
        try simp only [Act.put, List.getElem_toArray, List.getElem_cons_succ, List.getElem_cons_zero, List.setIfInBounds_toArray, List.set_cons_zero, List.set_cons_succ]
        refine wpAny_done (by kernel_rfl) ?_ _
        go_wp2
        go_ret
        exact ⟨_, _, _, rfl, HF, HBF.out⟩
      · have cl := d2
        go_simp
        clear cl
        refine hK _ _ ?_
        clear hK K
        try simp only [Act.put, List.getElem_toArray, List.getElem_cons_succ, List.getElem_cons_zero, List.setIfInBounds_toArray, List.set_cons_zero, List.set_cons_succ]
        refine wpAny_ready (rs := [4]) (by kernel_rfl) (by simp) ?_
        refine AllReady.cons rfl (fun K hK => ?_) AllReady.nil
        have cl := d1
        go_simp
        clear cl
        refine hK _ _ ?_
        clear hK K
        try simp only [Act.put, List.getElem_toArray, List.getElem_cons_succ, List.getElem_cons_zero, List.setIfInBounds_toArray, List.set_cons_zero, List.set_cons_succ]
        refine wpAny_ready (rs := [9]) (by kernel_rfl) (by simp) ?_
        refine AllReady.cons rfl (fun K hK => ?_) AllReady.nil
        refine step_append_gen rfl (.tmp 36) (.tmp 40) 72 rfl w.heap.size 104 j0 (.agg #[.int .i64 0, .slice none 0 0]) 2 32 Try.underlying72 hj hy0 hy1 hy2 (by rfl) (by decide) (.slice none 0 0) 0 [] rfl (World.ownsRow_nil _ _ _ _) ⟨gw, 0, none⟩ nw cw WV rfl HWL.out (own_news HR4.out.wrow) HO1.out.2 (by unfold maxLen; omega) (by omega) HB4.out.size ?_
        intro v5 w5 ho5 hg5
        obtain ⟨a5, n5, k5, rfl⟩ := own_slice ho5
        have HO5 : Hid (w5.ownsRow w.heap.size 104 2 (.slice a5 n5 k5) nw WV) := by (show World.ownsRow _ _ _ _ _ _ _); simpa using ho5
        have hb5 : Below wd.heap.size wd w5 := (Below.refl _ _).grown hg5 (Nat.le_refl _) (fun j hj => by cases hj)
        have HK5 : Hid (Blk w5 w.heap.size #[.slice a3 n3 k3, .slice none 0 0, .int .i64 (D.trip : Int), .bool D.down, .int .i64 (D.age : Int)] 74) := HK4.out.stay hb5
        have HP5 : Hid (w5.ownsRow w.heap.size 30 1 (.slice a3 n3 k3) ns SV) := own_stay HO4.out (fun k hk => hb5.block k (HO4.out.lt k hk).2)
        have HB5 : Hid (Below w.heap.size w w5) := HB4.out.trans (hb5.mono HB4.out.size)
        have HF : Hid (Rk (w5.setCell ⟨w.heap.size, 1, none⟩ (.slice a5 n5 k5)) w.heap.size w.heap.size q (.slice a3 n3 k3) (.slice a5 n5 k5) SV WV D) := by
          have hc := grown_cell w5 w.heap.size 1 (.slice a5 n5 k5)
          have hb : Below w.heap.size w (w5.setCell ⟨w.heap.size, 1, none⟩ (.slice a5 n5 k5)) := HB5.out.setCell (Nat.le_refl _) _
          have ho := own_type HP5.out (fun k cs hk => by rw [hc.block k (heap_lt hk) (fun e => by simp only [Option.some.injEq] at e; exact blk_ne hk HK5.out (by decide) e)]; exact hk)
          have hp := own_type HO5.out (fun k cs hk => by rw [hc.block k (heap_lt hk) (fun e => by simp only [Option.some.injEq] at e; exact blk_ne hk HK5.out (by decide) e)]; exact hk)
          refine ⟨HK5.out.set 1 _, by rw [← HNS.out]; exact ho, by rw [← HNW.out]; exact hp, Nat.le_refl _, HR.out.s1, HR.out.sz, fun i s hs => (HR.out.each i s hs).imp fun _ hv => ⟨hv.1, hv.2.up hb⟩, fun i p hp => ⟨(HR.out.puts i p hp).1, (HR.out.puts i p hp).2.1, (HR.out.puts i p hp).2.2.imp fun _ hv => ⟨hv.1, hv.2.up hb⟩⟩, HR.out.tr, HR.out.ag, HR.out.wl⟩
        have HBF : Hid (Below w.heap.size w (w5.setCell ⟨w.heap.size, 1, none⟩ (.slice a5 n5 k5))) := HB5.out.setCell (Nat.le_refl _) _
        have f7 : w5.frozen? ⟨w.heap.size, 1, none⟩ = false := HK5.out.free 1
        have c7 : w5.cell? ⟨w.heap.size, 1, none⟩ = some (.slice none 0 0) := HK5.out.cell 1 rfl
        clear ho5 hg5 hb5
        refine hK _ _ ?_
        clear hK K
        try simp only [Act.put, List.getElem_toArray, List.getElem_cons_succ, List.getElem_cons_zero, List.setIfInBounds_toArray, List.set_cons_zero, List.set_cons_succ]
        refine take_put (i := 10) (v := ?_) (some 42) rfl (by kernel_rfl) (by kernel_rfl) (by kernel_rfl) (by kernel_rfl) (fun _ _ _ h => h) (Or.inl ⟨by rfl, ?_⟩) ?_
        rotate_left
        · (intro w; go_simp; try with_reducible rfl)
        try simp only [Act.put, List.setIfInBounds_toArray, List.set_cons_zero, List.set_cons_succ]
        refine take_put (i := 11) (v := ?_) (some 43) rfl (by kernel_rfl) (by kernel_rfl) (by kernel_rfl) (by kernel_rfl) (fun _ _ _ h => h) (Or.inl ⟨by rfl, ?_⟩) ?_
        rotate_left
        · (intro w; go_simp; try with_reducible rfl)
        try simp only [Act.put, List.setIfInBounds_toArray, List.set_cons_zero, List.set_cons_succ]
        refine wpAny_ready (rs := [12]) (by kernel_rfl) (by simp) ?_
        refine AllReady.cons rfl (fun K hK => ?_) AllReady.nil
        go_simp
        clear f7 c7
        refine hK _ _ ?_
        clear hK K
        try simp only [Act.put, List.getElem_toArray, List.getElem_cons_succ, List.getElem_cons_zero, List.setIfInBounds_toArray, List.set_cons_zero, List.set_cons_succ]
        refine wpAny_done (by kernel_rfl) ?_ _
        go_wp2
        go_ret
        exact ⟨_, _, _, rfl, HF, HBF.out⟩
end Go.Proofs.Ythpjaidgacenoaa
