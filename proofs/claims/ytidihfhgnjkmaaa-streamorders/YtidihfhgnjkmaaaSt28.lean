/- grapevinelaw15.owned: a parcel in new memory. -/
import Derived.Test.YtidihfhgnjkmaaaSt27
import Derived.Test.YtidihfhgnjkmaaaItM
namespace Go.Proofs.Ytidihfhgnjkmaaa
set_option maxRecDepth 100000
open Go.RowKit Go.Maps Go.Sort Go.Shelf

/-- An item behind a list of one's own, however long it is. -/
theorem wpList_append_itL {w : World} {ops : Array Oper} {rest : List Oper} {o : Oper} {act : Act} {Q : Exit → Act → World → Prop} (hgd : o.guard = none) (s x : Operand)
    (ho : o.op = .call { callee := .builtin .append, args := #[s, x], argTypes := #[31, 31] })
    (base : Nat) (v : Value) (l : List (It × Bd)) (hs : act.eval s = v) (hown : Its w base v l) (ad : Addr) (c : Nat) (q : It) (b : Bd) (hx : act.eval x = .slice (some ad) 1 c) (hnews : ∀ j u, (icells q b)[j]? = some u → w.cell? (ad.add j) = some u) (hb : Own w base b.1 b.2.1 b.2.2 q.body)
    (hl : (l.length + 1) * 40 ≤ 140737488355328) (hbase : base ≤ w.heap.size)
    (h : ∀ v' w', Its w' base v' (l ++ [(q, b)]) → w.grownBy w' v.ownBlock → Below base w w' → wpList Try.prog ops Q rest (act.put o.dst v') w') : wpList Try.prog ops Q (o :: rest) act w := by
  obtain ⟨i0, hi, hz0, hz1, hz2⟩ := info_parts infoItem
  refine wpList_plain hgd fun K hK => ?_
  refine wp_append_own w s x 31 ho base 42 i0 (.agg #[.int .i64 0, .int .u32 0, .slice none 0 0]) 3 40 Try.underlying31 hi hz0 hz1 hz2 (by rfl) (by decide) v l.length (irow l) hs hown.row ad 1 c (icells q b) hx (by rfl) hnews (icells_one q b) (by unfold maxLen; omega) (by omega) hbase fun v' w' h1 h2 _ => ?_
  have hbel : Below base w w' := (Below.refl _ _).grown h2 hbase (fun k hk => (hown.row.lt k hk).1)
  have hf : ∀ k cs m, base ≤ k → w.heap[k]? = some (.cells cs 5 m) → w'.heap[k]? = some (.cells cs 5 m) := fun k cs m _ hk => by
    rw [h2.block k (Array.getElem?_eq_some_iff.1 hk).1 (fun e => ?_)]
    · exact hk
    · rcases hown.row.2 with ⟨h3, _⟩ | ⟨g, c', cur, h3, _, h4, _⟩
      · rw [h3] at e; cases e
      · rw [h3] at e
        simp only [Value.ownBlock, Option.some.injEq] at e
        rw [e, h4] at hk
        simp only [Option.some.injEq, Obj.cells.injEq] at hk
        exact absurd hk.2.1 (by decide)
  refine hK _ _ (h v' w' ⟨?_, ?_⟩ h2 hbel)
  · rw [List.length_append, irow_snoc]
    simpa using h1
  · intro x hx
    rcases List.mem_append.1 hx with hx | hx
    · exact own_frame (hown.bod x hx) hf
    · obtain rfl := List.mem_singleton.1 hx
      exact own_frame hb hf
theorem results_owned {w : World} {tmps : Array Value} {g : Nat} {c0 c1 c2 c3 c4 c5 c6 c7 : Value} (h2 : tmps[2]?.getD undef = .pointer (some ⟨g, 0, none⟩)) (k : Bk w g #[c0, c1, c2, c3, c4, c5, c6, c7] 33) : (results Try.f12 tmps).run Try.prog w = .ok (.agg #[c0, c1, c2, c3, c4, c5, c6, c7]) w := by
  have k0 : w.cell? ⟨g, 0, none⟩ = some c0 := k.cell 0 rfl
  have k1 : w.cell? ⟨g, 1, none⟩ = some c1 := k.cell 1 rfl
  have k2 : w.cell? ⟨g, 2, none⟩ = some c2 := k.cell 2 rfl
  have k3 : w.cell? ⟨g, 3, none⟩ = some c3 := k.cell 3 rfl
  have k4 : w.cell? ⟨g, 4, none⟩ = some c4 := k.cell 4 rfl
  have k5 : w.cell? ⟨g, 5, none⟩ = some c5 := k.cell 5 rfl
  have k6 : w.cell? ⟨g, 6, none⟩ = some c6 := k.cell 6 rfl
  have k7 : w.cell? ⟨g, 7, none⟩ = some c7 := k.cell 7 rfl
  simp [results, Try.results12, go_sem, h2, k0, k1, k2, k3, k4, k5, k6, k7]
/-- A parcel of one's own. -/
structure OwnPc (w : World) (B : Nat) (p : Pc) (ta : Option Addr) (tn tc : Nat) (ja : Option Addr) (jm jc : Nat) : Prop where
  spans : Sps w B (.slice ta tn tc) p.spans
  items : ∃ L : List (It × Bd), Its w B (.slice ja jm jc) L ∧ L.map Prod.fst = p.items
set_option maxHeartbeats 8000000 in
theorem law_owned (p : Pc) (sa : Option Addr) (sn sc : Nat) (ia : Option Addr) (im ic : Nat) (w : World) (hr : PcRd w p sa sn sc ia im ic) (hz : sa = none → sc = 0) (hsn : sn * 24 ≤ 140737488355328) (him : im * 40 ≤ 140737488355328) (hbb : ∀ q ∈ p.items, q.body.length ≤ 140737488351232) :
    Calls Try.prog 12 #[p.val sa sn sc ia im ic] w fun e w' => ∃ ta tc ja jc, e = .returned (p.val ta sn tc ja im jc) ∧ OwnPc w' w.heap.size p ta sn tc ja im jc ∧ Below w.heap.size w w' := by
  obtain ⟨pk, pp, ps, pn, pf, pt, pl, pi⟩ := p
  have HR : Hid (PcRd w ⟨pk, pp, ps, pn, pf, pt, pl, pi⟩ sa sn sc ia im ic) := hr
  have HBB : Hid (∀ q ∈ pi, q.body.length ≤ 140737488351232) := hbb
  have HIM : Hid (pi.length = im) := hr.items.size
  clear hr hbb
  obtain ⟨W3, HW3⟩ : ∃ W3, Hid (W3 = ((w.alloc (.cells #[.int .i64 pk, .int .i64 pp, .int .i64 ps, .int .i64 pn, .int .i64 pf, .int .i64 pt, .slice sa sn sc, .slice ia im ic] 33)).alloc (.cells #[.int .i64 0, .int .i64 0, .int .i64 0, .int .i64 0, .int .i64 0, .int .i64 0, .slice none 0 0, .slice none 0 0] 33)).alloc (.cells #[.int .i64 pk, .int .i64 pp, .int .i64 ps, .int .i64 pn, .int .i64 pf, .int .i64 pt, .slice sa sn sc, .slice ia im ic] 33)) := ⟨_, rfl⟩
  have e1 : (w.alloc (.cells #[.int .i64 pk, .int .i64 pp, .int .i64 ps, .int .i64 pn, .int .i64 pf, .int .i64 pt, .slice sa sn sc, .slice ia im ic] 33)).heap.size = w.heap.size + 1 := by simp
  have e2 : ((w.alloc (.cells #[.int .i64 pk, .int .i64 pp, .int .i64 ps, .int .i64 pn, .int .i64 pf, .int .i64 pt, .slice sa sn sc, .slice ia im ic] 33)).alloc (.cells #[.int .i64 0, .int .i64 0, .int .i64 0, .int .i64 0, .int .i64 0, .int .i64 0, .slice none 0 0, .slice none 0 0] 33)).heap.size = w.heap.size + 2 := by simp
  have HSZ3 : Hid (W3.heap.size = w.heap.size + 3) := by (show _ = _); rw [HW3.out]; simp
  have HX3 : Hid (Below w.heap.size w W3) := by (show Below _ _ _); rw [HW3.out]; exact ((below_alloc w _).alloc (by omega) _).alloc (by omega) _
  have HA3 : Hid (Bk W3 w.heap.size #[.int .i64 pk, .int .i64 pp, .int .i64 ps, .int .i64 pn, .int .i64 pf, .int .i64 pt, .slice sa sn sc, .slice ia im ic] 33) := by (show Bk _ _ _ _); rw [HW3.out]; exact ((Bk.new w _ _).stay (below_alloc _ _)).stay (below_alloc _ _)
  have HZ3 : Hid (Bk W3 (w.heap.size + 1) #[.int .i64 0, .int .i64 0, .int .i64 0, .int .i64 0, .int .i64 0, .int .i64 0, .slice none 0 0, .slice none 0 0] 33) := by (show Bk _ _ _ _); rw [HW3.out, ← e1]; exact (Bk.new _ _ _).stay (below_alloc _ _)
  have HQ3 : Hid (Bk W3 (w.heap.size + 1 + 1) #[.int .i64 pk, .int .i64 pp, .int .i64 ps, .int .i64 pn, .int .i64 pf, .int .i64 pt, .slice sa sn sc, .slice ia im ic] 33) := by (show Bk _ _ _ _); rw [HW3.out, ← e2]; exact Bk.new _ _ _
  have a6 : W3.cell? ⟨w.heap.size, 6, none⟩ = some (.slice sa sn sc) := HA3.out.cell 6 rfl
  have a6b : (W3.alloc (.cells #[] 38)).cell? ⟨w.heap.size, 6, none⟩ = some (.slice sa sn sc) := (HA3.out.stay (below_alloc _ _)).cell 6 rfl
  clear e1 e2
  unfold Pc.val
  simp only
  go_enter Try.func12, Try.ntmps12
  go_upto_region 2 with fail
  rw [← HW3.out]
  go_wp2_with (at_builtin; refine wpList_append_spsL rfl (.tmp 7) (.tmp 9) rfl W3.heap.size _ [] rfl (Sps.empty W3) sa sn sc pl rfl ((HR.out.spans.below HX3.out).below (below_alloc W3 _)) hz (by rw [List.length_nil, Nat.zero_add]; exact hsn) (by simp) ?_)
  intro v4 w4 hs4 hg4
  have HS4 : Hid (Sps w4 W3.heap.size v4 pl) := by (show Sps _ _ _ _); simpa using hs4
  have HB4 : Hid (Below W3.heap.size W3 w4) := (below_alloc W3 (.cells #[] 38)).grown hg4 (by simp) (fun k hk => by cases hk; exact Nat.le_refl _)
  clear hs4 hg4 a6 a6b
  obtain ⟨ta, tc, hv4, _⟩ := HS4.out.form
  have hsl : pl.length = sn := HR.out.spans.size
  rw [hsl] at hv4
  subst hv4
  have hq4 := HQ3.out.stay HB4.out
  have q6 : w4.cell? ⟨w.heap.size + 1 + 1, 6, none⟩ = some (.slice sa sn sc) := hq4.cell 6 rfl
  have q7 : w4.cell? ⟨w.heap.size + 1 + 1, 7, none⟩ = some (.slice ia im ic) := hq4.cell 7 rfl
  have f6 := hq4.free 6
  have f7 := hq4.free 7
  obtain ⟨W5, HW5⟩ : ∃ W5, Hid (W5 = (w4.setCell ⟨w.heap.size + 1 + 1, 6, none⟩ (.slice ta sn tc)).setCell ⟨w.heap.size + 1 + 1, 7, none⟩ (.slice none 0 0)) := ⟨_, rfl⟩
  have HQ5 : Hid (Bk W5 (w.heap.size + 1 + 1) #[.int .i64 pk, .int .i64 pp, .int .i64 ps, .int .i64 pn, .int .i64 pf, .int .i64 pt, .slice ta sn tc, .slice none 0 0] 33) := by (show Bk _ _ _ _); rw [HW5.out]; exact (hq4.set 6 (.slice ta sn tc)).set 7 (.slice none 0 0)
  have HA5 : Hid (Bk W5 w.heap.size #[.int .i64 pk, .int .i64 pp, .int .i64 ps, .int .i64 pn, .int .i64 pf, .int .i64 pt, .slice sa sn sc, .slice ia im ic] 33) := by (show Bk _ _ _ _); rw [HW5.out]; exact ((HA3.out.stay HB4.out).other ⟨w.heap.size + 1 + 1, 6, none⟩ _ (by show w.heap.size ≠ w.heap.size + 1 + 1; omega)).other ⟨w.heap.size + 1 + 1, 7, none⟩ _ (by show w.heap.size ≠ w.heap.size + 1 + 1; omega)
  have HZ5 : Hid (Bk W5 (w.heap.size + 1) #[.int .i64 0, .int .i64 0, .int .i64 0, .int .i64 0, .int .i64 0, .int .i64 0, .slice none 0 0, .slice none 0 0] 33) := by (show Bk _ _ _ _); rw [HW5.out]; exact ((HZ3.out.stay HB4.out).other ⟨w.heap.size + 1 + 1, 6, none⟩ _ (by show w.heap.size + 1 ≠ w.heap.size + 1 + 1; omega)).other ⟨w.heap.size + 1 + 1, 7, none⟩ _ (by show w.heap.size + 1 ≠ w.heap.size + 1 + 1; omega)
  have HX5 : Hid (Below w.heap.size w W5) := by (show Below _ _ _); rw [HW5.out]; exact ((HX3.out.trans (HB4.out.mono HX3.out.size)).setCell (by show w.heap.size ≤ w.heap.size + 1 + 1; omega) _).setCell (by show w.heap.size ≤ w.heap.size + 1 + 1; omega) _
  have HS5 : Hid (Sps W5 W3.heap.size (.slice ta sn tc) pl) := by
    (show Sps _ _ _ _)
    rw [HW5.out]
    exact (HS4.out.under ⟨w.heap.size + 1 + 1, 6, none⟩ _ (by show w.heap.size + 1 + 1 < W3.heap.size; rw [HSZ3.out]; omega)).under ⟨w.heap.size + 1 + 1, 7, none⟩ _ (by show w.heap.size + 1 + 1 < W3.heap.size; rw [HSZ3.out]; omega)
  have HSZ5 : Hid (W3.heap.size ≤ W5.heap.size) := by (show _ ≤ _); rw [HW5.out, World.size_setCell, World.size_setCell]; exact HB4.out.size
  clear hq4 HS4 HA3 HZ3 HQ3 HX3
  go_upto_region 4 with fail
  rw [← HW5.out]
  clear q6 q7 f6 f7
  go_wp2
  go_loopw [4] (fun t4 wr => ∃ (i : Nat) (ja : Option Addr) (jc : Nat) (L : List (It × Bd)), t4 = .int .i64 (i : Int) ∧ i ≤ im ∧ Hid (Its wr W3.heap.size (.slice ja i jc) L ∧ L.map Prod.fst = pi.take i) ∧ Hid (Bk wr (w.heap.size + 1 + 1) #[.int .i64 pk, .int .i64 pp, .int .i64 ps, .int .i64 pn, .int .i64 pf, .int .i64 pt, .slice ta sn tc, .slice ja i jc] 33) ∧ Hid (Bk wr w.heap.size #[.int .i64 pk, .int .i64 pp, .int .i64 ps, .int .i64 pn, .int .i64 pf, .int .i64 pt, .slice sa sn sc, .slice ia im ic] 33) ∧ Hid (Bk wr (w.heap.size + 1) #[.int .i64 0, .int .i64 0, .int .i64 0, .int .i64 0, .int .i64 0, .int .i64 0, .slice none 0 0, .slice none 0 0] 33) ∧ Hid (Sps wr W3.heap.size (.slice ta sn tc) pl) ∧ Hid (Below w.heap.size w wr) ∧ Hid (W3.heap.size ≤ wr.heap.size)) (fun t4 _ => im - (intOf t4).toNat)
  case atStart => exact ⟨0, none, 0, [], rfl, by omega, ⟨Its.nil_ _ _, rfl⟩, HQ5, HA5, HZ5, HS5, HX5, HSZ5⟩
  case round =>
    obtain ⟨i, ja, jc, L, rfl, hi, HI, HQ, HA, HZ, HS, HX, HSZ⟩ := hrel
    have a7 : wr.cell? ⟨w.heap.size, 7, none⟩ = some (.slice ia im ic) := HA.out.cell 7 rfl
    by_cases hlt : i < im
    · have hlt' : (i : Int) < (im : Int) := by omega
      have gi : (0 : Int) ≤ (i : Int) := by omega
      obtain ⟨g, o, rfl, hg, q, hq, d0, d1, ba, bl, bc, d2, hrd, hb0, hlc, hcm⟩ := (HR.out.items.below HX.out).at_ i hlt
      have hqm : q ∈ pi := List.mem_of_getElem? hq
      have hql := HBB.out q hqm
      have HTK : Hid (pi.take (i + 1) = pi.take i ++ [q]) := by
        (show _ = _)
        have hil : i < pi.length := by rw [HIM.out]; exact hlt
        rw [List.take_succ_eq_append_getElem hil]
        have := List.getElem?_eq_getElem hil
        have hq : pi[i]? = some q := hq
        rw [this] at hq
        rw [Option.some.inj hq]
      obtain ⟨qt, qf, qb⟩ := q
      simp only at d0 d1 d2 hrd hql
      have hbl : qb.length = bl := hrd.size
      rw [hbl] at hql
      have HRD : Hid (Rd wr ba bl qb) := hrd
      obtain ⟨W6, HW6⟩ : ∃ W6, Hid (W6 = wr.alloc (.cells #[.int .i64 qt, .int .u32 qf, .slice ba bl bc] 42)) := ⟨_, rfl⟩
      have HB6 : Hid (Below wr.heap.size wr W6) := by (show Below _ _ _); rw [HW6.out]; exact below_alloc wr _
      have HV6 : Hid (Bk W6 wr.heap.size #[.int .i64 qt, .int .u32 qf, .slice ba bl bc] 42) := by (show Bk _ _ _ _); rw [HW6.out]; exact Bk.new wr _ _
      have v2 : W6.cell? ⟨wr.heap.size, 2, none⟩ = some (.slice ba bl bc) := HV6.out.cell 2 rfl
      have v2b : (W6.alloc (.cells #[] 5)).cell? ⟨wr.heap.size, 2, none⟩ = some (.slice ba bl bc) := (HV6.out.stay (below_alloc _ _)).cell 2 rfl
      clear hrd hlc hcm hq hqm hg hbl
      go_upto_region 8 with fail
      rw [← HW6.out]
      go_wp2_with (at_builtin; refine wpList_append_rd rfl (.tmp 25) (.tmp 27) rfl W6.heap.size (some ⟨W6.heap.size, 0, none⟩) 0 0 [] rfl (Own.empty W6) ba bl bc qb rfl ((HRD.out.below HB6.out).below (below_alloc _ _)) hb0 (by omega) (by simp) ?_)
      intro ya yc w7 ho7 hg7 hb7
      have HO7 : Hid (Own w7 W6.heap.size ya bl yc qb) := ho7
      have HB7 : Hid (Below W6.heap.size W6 w7) := (below_alloc W6 (.cells #[] 5)).trans hb7
      have hv7 := HV6.out.stay HB7.out
      have u0 : w7.cell? ⟨wr.heap.size, 0, none⟩ = some (.int .i64 qt) := hv7.cell 0 rfl
      have u2 : w7.cell? ⟨wr.heap.size, 2, none⟩ = some (.slice ba bl bc) := hv7.cell 2 rfl
      have fu2 := hv7.free 2
      obtain ⟨W8, HW8⟩ : ∃ W8, Hid (W8 = w7.setCell ⟨wr.heap.size, 2, none⟩ (.slice ya bl yc)) := ⟨_, rfl⟩
      have HV8 : Hid (Bk W8 wr.heap.size #[.int .i64 qt, .int .u32 qf, .slice ya bl yc] 42) := by (show Bk _ _ _ _); rw [HW8.out]; exact hv7.set 2 (.slice ya bl yc)
      have HB8 : Hid (Below wr.heap.size wr W8) := by (show Below _ _ _); rw [HW8.out]; exact (HB6.out.trans (HB7.out.mono HB6.out.size)).setCell (Nat.le_refl _) _
      have hlt6 : wr.heap.size < W6.heap.size := HV6.out.lt
      have HO8 : Hid (Own W8 W3.heap.size ya bl yc qb) := by
        (show Own _ _ _ _ _ _)
        rw [HW8.out]
        exact ⟨ownsRow_base_a (base := W6.heap.size) (ownsRow_setCell_below HO7.out.row (a := ⟨wr.heap.size, 2, none⟩) hlt6 _) (Nat.le_trans HSZ.out HB6.out.size), HO7.out.byte⟩
      have HI8 : Hid (Its W8 W3.heap.size (.slice ja i jc) L) := HI.out.1.below HB8.out
      have HQ8 : Hid (Bk W8 (w.heap.size + 1 + 1) #[.int .i64 pk, .int .i64 pp, .int .i64 ps, .int .i64 pn, .int .i64 pf, .int .i64 pt, .slice ta sn tc, .slice ja i jc] 33) := HQ.out.stay HB8.out
      have HS8 : Hid (Sps W8 W3.heap.size (.slice ta sn tc) pl) := HS.out.below HB8.out
      have g7 : W8.cell? ⟨w.heap.size + 1 + 1, 7, none⟩ = some (.slice ja i jc) := HQ8.out.cell 7 rfl
      have r0 : W8.cell? ⟨wr.heap.size, 0, none⟩ = some (.int .i64 qt) := HV8.out.cell 0 rfl
      have r1 : W8.cell? ⟨wr.heap.size, 1, none⟩ = some (.int .u32 qf) := HV8.out.cell 1 rfl
      have r2 : W8.cell? ⟨wr.heap.size, 2, none⟩ = some (.slice ya bl yc) := HV8.out.cell 2 rfl
      have hLl : L.length = i := by
        have := congrArg List.length HI.out.2
        rw [List.length_map, List.length_take, HIM.out] at this
        omega
      clear ho7 hg7 hb7 hv7
      go_upto_region 9 with fail
      rw [← HW8.out]
      go_wp2_with (at_builtin; refine wpList_append_itL rfl (.tmp 31) (.tmp 33) rfl W3.heap.size _ L rfl (HI8.out.below (below_alloc _ _)) ⟨W8.heap.size, 0, none⟩ 1 ⟨qt, qf, qb⟩ (ya, bl, yc) rfl (item_told (Bk.new W8 _ _)) (HO8.out.below (below_alloc _ _)) (by omega) (Nat.le_trans HSZ.out (Nat.le_trans HB8.out.size (below_alloc _ _).size)) ?_)
      intro v10 w10 hi10 hg10 hb10
      have HI10 : Hid (Its w10 W3.heap.size v10 (L ++ [(⟨qt, qf, qb⟩, (ya, bl, yc))])) := hi10
      have HS10 : Hid (Sps w10 W3.heap.size (.slice ta sn tc) pl) := (HS8.out.below (below_alloc _ _)).grown_it (HI8.out.below (below_alloc _ _)) hg10
      have HB10 : Hid (Below W3.heap.size W8 w10) := ((below_alloc W8 _).mono (Nat.le_trans HSZ.out HB8.out.size)).trans hb10
      obtain ⟨ja2, jc2, hv10, _⟩ := hi10.form
      rw [List.length_append, List.length_singleton, hLl] at hv10
      subst hv10
      have hlb : w.heap.size + 1 + 1 < W3.heap.size := by rw [HSZ3.out]; omega
      have hq10 := HQ8.out.below HB10.out hlb
      have z7 : w10.cell? ⟨w.heap.size + 1 + 1, 7, none⟩ = some (.slice ja i jc) := hq10.cell 7 rfl
      have fz7 := hq10.free 7
      obtain ⟨W11, HW11⟩ : ∃ W11, Hid (W11 = w10.setCell ⟨w.heap.size + 1 + 1, 7, none⟩ (.slice ja2 (i + 1) jc2)) := ⟨_, rfl⟩
      have HQ11 : Hid (Bk W11 (w.heap.size + 1 + 1) #[.int .i64 pk, .int .i64 pp, .int .i64 ps, .int .i64 pn, .int .i64 pf, .int .i64 pt, .slice ta sn tc, .slice ja2 (i + 1) jc2] 33) := by (show Bk _ _ _ _); rw [HW11.out]; exact hq10.set 7 (.slice ja2 (i + 1) jc2)
      have HA11 : Hid (Bk W11 w.heap.size #[.int .i64 pk, .int .i64 pp, .int .i64 ps, .int .i64 pn, .int .i64 pf, .int .i64 pt, .slice sa sn sc, .slice (some ⟨g, o, none⟩) im ic] 33) := by (show Bk _ _ _ _); rw [HW11.out]; exact ((HA.out.stay HB8.out).below HB10.out (by omega)).other ⟨w.heap.size + 1 + 1, 7, none⟩ _ (by show w.heap.size ≠ w.heap.size + 1 + 1; omega)
      have HZ11 : Hid (Bk W11 (w.heap.size + 1) #[.int .i64 0, .int .i64 0, .int .i64 0, .int .i64 0, .int .i64 0, .int .i64 0, .slice none 0 0, .slice none 0 0] 33) := by (show Bk _ _ _ _); rw [HW11.out]; exact ((HZ.out.stay HB8.out).below HB10.out (by omega)).other ⟨w.heap.size + 1 + 1, 7, none⟩ _ (by show w.heap.size + 1 ≠ w.heap.size + 1 + 1; omega)
      have HI11 : Hid (Its W11 W3.heap.size (.slice ja2 (i + 1) jc2) (L ++ [(⟨qt, qf, qb⟩, (ya, bl, yc))]) ∧ (L ++ [((⟨qt, qf, qb⟩ : It), ((ya, bl, yc) : Bd))]).map Prod.fst = pi.take (i + 1)) := by
        refine ⟨by rw [HW11.out]; exact HI10.out.under ⟨w.heap.size + 1 + 1, 7, none⟩ _ hlb, ?_⟩
        rw [HTK.out, List.map_append, HI.out.2]
        rfl
      have HS11 : Hid (Sps W11 W3.heap.size (.slice ta sn tc) pl) := by (show Sps _ _ _ _); rw [HW11.out]; exact HS10.out.under ⟨w.heap.size + 1 + 1, 7, none⟩ _ hlb
      have hw3 : w.heap.size ≤ W3.heap.size := by rw [HSZ3.out]; omega
      have HX11 : Hid (Below w.heap.size w W11) := by (show Below _ _ _); rw [HW11.out]; exact ((HX.out.trans (HB8.out.mono HX.out.size)).trans (HB10.out.mono hw3)).setCell (by show w.heap.size ≤ w.heap.size + 1 + 1; omega) _
      have HSZ11 : Hid (W3.heap.size ≤ W11.heap.size) := by (show _ ≤ _); rw [HW11.out, World.size_setCell]; exact Nat.le_trans HSZ.out (Nat.le_trans HB8.out.size HB10.out.size)
      clear hi10 hg10 hb10 hq10
      go_wp2
      rw [← HW11.out]
      go_roundw
      case rel => exact ⟨i + 1, ja2, jc2, _, by go_num, by omega, HI11, HQ11, HA11, HZ11, HS11, HX11, HSZ11⟩
      case measure => simp [intOf]; omega
    · have hnl : ¬ (i : Int) < (im : Int) := by omega
      obtain rfl : i = im := by omega
      have q0 : wr.cell? ⟨w.heap.size + 1 + 1, 0, none⟩ = some (.int .i64 pk) := HQ.out.cell 0 rfl
      have q1 : wr.cell? ⟨w.heap.size + 1 + 1, 1, none⟩ = some (.int .i64 pp) := HQ.out.cell 1 rfl
      have q2 : wr.cell? ⟨w.heap.size + 1 + 1, 2, none⟩ = some (.int .i64 ps) := HQ.out.cell 2 rfl
      have q3 : wr.cell? ⟨w.heap.size + 1 + 1, 3, none⟩ = some (.int .i64 pn) := HQ.out.cell 3 rfl
      have q4 : wr.cell? ⟨w.heap.size + 1 + 1, 4, none⟩ = some (.int .i64 pf) := HQ.out.cell 4 rfl
      have q5 : wr.cell? ⟨w.heap.size + 1 + 1, 5, none⟩ = some (.int .i64 pt) := HQ.out.cell 5 rfl
      have q6 : wr.cell? ⟨w.heap.size + 1 + 1, 6, none⟩ = some (.slice ta sn tc) := HQ.out.cell 6 rfl
      have q7 : wr.cell? ⟨w.heap.size + 1 + 1, 7, none⟩ = some (.slice ja i jc) := HQ.out.cell 7 rfl
      have z0 : wr.cell? ⟨w.heap.size + 1, 0, none⟩ = some (.int .i64 0) := HZ.out.cell 0 rfl
      have fz0 := HZ.out.free 0
      have z1 : wr.cell? ⟨w.heap.size + 1, 1, none⟩ = some (.int .i64 0) := HZ.out.cell 1 rfl
      have fz1 := HZ.out.free 1
      have z2 : wr.cell? ⟨w.heap.size + 1, 2, none⟩ = some (.int .i64 0) := HZ.out.cell 2 rfl
      have fz2 := HZ.out.free 2
      have z3 : wr.cell? ⟨w.heap.size + 1, 3, none⟩ = some (.int .i64 0) := HZ.out.cell 3 rfl
      have fz3 := HZ.out.free 3
      have z4 : wr.cell? ⟨w.heap.size + 1, 4, none⟩ = some (.int .i64 0) := HZ.out.cell 4 rfl
      have fz4 := HZ.out.free 4
      have z5 : wr.cell? ⟨w.heap.size + 1, 5, none⟩ = some (.int .i64 0) := HZ.out.cell 5 rfl
      have fz5 := HZ.out.free 5
      have z6 : wr.cell? ⟨w.heap.size + 1, 6, none⟩ = some (.slice none 0 0) := HZ.out.cell 6 rfl
      have fz6 := HZ.out.free 6
      have z7 : wr.cell? ⟨w.heap.size + 1, 7, none⟩ = some (.slice none 0 0) := HZ.out.cell 7 rfl
      have fz7 := HZ.out.free 7
      have HG : Hid (Bk ((((((((wr.setCell ⟨w.heap.size + 1, 0, none⟩ (.int .i64 pk)).setCell ⟨w.heap.size + 1, 1, none⟩ (.int .i64 pp)).setCell ⟨w.heap.size + 1, 2, none⟩ (.int .i64 ps)).setCell ⟨w.heap.size + 1, 3, none⟩ (.int .i64 pn)).setCell ⟨w.heap.size + 1, 4, none⟩ (.int .i64 pf)).setCell ⟨w.heap.size + 1, 5, none⟩ (.int .i64 pt)).setCell ⟨w.heap.size + 1, 6, none⟩ (.slice ta sn tc)).setCell ⟨w.heap.size + 1, 7, none⟩ (.slice ja i jc)) (w.heap.size + 1) #[.int .i64 pk, .int .i64 pp, .int .i64 ps, .int .i64 pn, .int .i64 pf, .int .i64 pt, .slice ta sn tc, .slice ja i jc] 33) := ((((((((HZ.out.set 0 (.int .i64 pk)).set 1 (.int .i64 pp)).set 2 (.int .i64 ps)).set 3 (.int .i64 pn)).set 4 (.int .i64 pf)).set 5 (.int .i64 pt)).set 6 (.slice ta sn tc)).set 7 (.slice ja i jc))
      have hlb : w.heap.size + 1 < W3.heap.size := by rw [HSZ3.out]; omega
      have hle : w.heap.size ≤ w.heap.size + 1 := Nat.le_succ _
      have HIF : Hid (Its ((((((((wr.setCell ⟨w.heap.size + 1, 0, none⟩ (.int .i64 pk)).setCell ⟨w.heap.size + 1, 1, none⟩ (.int .i64 pp)).setCell ⟨w.heap.size + 1, 2, none⟩ (.int .i64 ps)).setCell ⟨w.heap.size + 1, 3, none⟩ (.int .i64 pn)).setCell ⟨w.heap.size + 1, 4, none⟩ (.int .i64 pf)).setCell ⟨w.heap.size + 1, 5, none⟩ (.int .i64 pt)).setCell ⟨w.heap.size + 1, 6, none⟩ (.slice ta sn tc)).setCell ⟨w.heap.size + 1, 7, none⟩ (.slice ja i jc)) W3.heap.size (.slice ja i jc) L) := ((((((((HI.out.1.under ⟨w.heap.size + 1, 0, none⟩ _ hlb).under ⟨w.heap.size + 1, 1, none⟩ _ hlb).under ⟨w.heap.size + 1, 2, none⟩ _ hlb).under ⟨w.heap.size + 1, 3, none⟩ _ hlb).under ⟨w.heap.size + 1, 4, none⟩ _ hlb).under ⟨w.heap.size + 1, 5, none⟩ _ hlb).under ⟨w.heap.size + 1, 6, none⟩ _ hlb).under ⟨w.heap.size + 1, 7, none⟩ _ hlb)
      have HSF : Hid (Sps ((((((((wr.setCell ⟨w.heap.size + 1, 0, none⟩ (.int .i64 pk)).setCell ⟨w.heap.size + 1, 1, none⟩ (.int .i64 pp)).setCell ⟨w.heap.size + 1, 2, none⟩ (.int .i64 ps)).setCell ⟨w.heap.size + 1, 3, none⟩ (.int .i64 pn)).setCell ⟨w.heap.size + 1, 4, none⟩ (.int .i64 pf)).setCell ⟨w.heap.size + 1, 5, none⟩ (.int .i64 pt)).setCell ⟨w.heap.size + 1, 6, none⟩ (.slice ta sn tc)).setCell ⟨w.heap.size + 1, 7, none⟩ (.slice ja i jc)) W3.heap.size (.slice ta sn tc) pl) := ((((((((HS.out.under ⟨w.heap.size + 1, 0, none⟩ _ hlb).under ⟨w.heap.size + 1, 1, none⟩ _ hlb).under ⟨w.heap.size + 1, 2, none⟩ _ hlb).under ⟨w.heap.size + 1, 3, none⟩ _ hlb).under ⟨w.heap.size + 1, 4, none⟩ _ hlb).under ⟨w.heap.size + 1, 5, none⟩ _ hlb).under ⟨w.heap.size + 1, 6, none⟩ _ hlb).under ⟨w.heap.size + 1, 7, none⟩ _ hlb)
      have HXF : Hid (Below w.heap.size w ((((((((wr.setCell ⟨w.heap.size + 1, 0, none⟩ (.int .i64 pk)).setCell ⟨w.heap.size + 1, 1, none⟩ (.int .i64 pp)).setCell ⟨w.heap.size + 1, 2, none⟩ (.int .i64 ps)).setCell ⟨w.heap.size + 1, 3, none⟩ (.int .i64 pn)).setCell ⟨w.heap.size + 1, 4, none⟩ (.int .i64 pf)).setCell ⟨w.heap.size + 1, 5, none⟩ (.int .i64 pt)).setCell ⟨w.heap.size + 1, 6, none⟩ (.slice ta sn tc)).setCell ⟨w.heap.size + 1, 7, none⟩ (.slice ja i jc))) := ((((((((HX.out.setCell (show w.heap.size ≤ (⟨w.heap.size + 1, 0, none⟩ : Addr).block from hle) _).setCell (show w.heap.size ≤ (⟨w.heap.size + 1, 1, none⟩ : Addr).block from hle) _).setCell (show w.heap.size ≤ (⟨w.heap.size + 1, 2, none⟩ : Addr).block from hle) _).setCell (show w.heap.size ≤ (⟨w.heap.size + 1, 3, none⟩ : Addr).block from hle) _).setCell (show w.heap.size ≤ (⟨w.heap.size + 1, 4, none⟩ : Addr).block from hle) _).setCell (show w.heap.size ≤ (⟨w.heap.size + 1, 5, none⟩ : Addr).block from hle) _).setCell (show w.heap.size ≤ (⟨w.heap.size + 1, 6, none⟩ : Addr).block from hle) _).setCell (show w.heap.size ≤ (⟨w.heap.size + 1, 7, none⟩ : Addr).block from hle) _)
      have HLF : Hid (L.map Prod.fst = pi) := by (show _ = _); rw [HI.out.2, ← HIM.out, List.take_length]
      have hw3 : w.heap.size ≤ W3.heap.size := by rw [HSZ3.out]; omega
      go_wp2
      refine bodyPost_ret (results_owned (by rfl) HG.out) rfl ?_
      exact ⟨ta, tc, ja, jc, rfl, ⟨HSF.out.lower hw3, L, HIF.out.lower hw3, HLF.out⟩, HXF.out⟩
end Go.Proofs.Ytidihfhgnjkmaaa
