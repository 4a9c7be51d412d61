/- Parts that are joined are taken as they were: plain mathematics. The reference's SameRows. Parts that came in. -/
import Derived.Test.YtbhljlafijdodabJoinTake
import Derived.Test.YtbhljlafijdodabFrame
import Derived.Test.YtbhljlafijdodabAround
import Derived.Deep.Matrix
import Derived.Deep.QuietTactic
import Derived.BigQuiet
namespace Go.Proofs.Ytbhljlafijdodab
open Go.ChangeShapes Go.WideShapes Go.ChangeAt Go.RowKit

theorem below_drewN (w : World) (n : Nat) : Below w.heap.size w (w.drewN n) := ⟨rfl, rfl, rfl, Nat.le_refl _, fun _ _ => rfl⟩

namespace JoinM
theorem range_put (b pre zs : List Nat) (h : b.length ≤ 4096) : range (pre ++ (Leb.leb b.length ++ b) ++ zs) (pre.length : Int) 4096 = (pre.length + (Leb.leb b.length).length, pre.length + (Leb.leb b.length).length + b.length, 0) := by
  have e : pre ++ (Leb.leb b.length ++ b) ++ zs = pre ++ Leb.leb b.length ++ (b ++ zs) := by simp
  have ht := Leb.take_put b.length (by omega) pre (b ++ zs)
  rw [e, range_def, ht]
  simp only [rng]
  rw [if_neg (by omega), if_neg (by simp only [List.length_append]; omega)]
theorem takes_body (l : List (List Nat)) : ∀ (pre zs : List Nat), (∀ b ∈ l, b.length ≤ 4096) → takes (pre ++ body l ++ zs) l.length pre.length = (l, pre.length + (body l).length, 0) := by
  induction l with
  | nil => intro pre zs _; simp [takes, body]
  | cons b l ih =>
    intro pre zs h
    have hb := h b (by simp)
    have e : pre ++ body (b :: l) ++ zs = pre ++ (Leb.leb b.length ++ b) ++ (body l ++ zs) := by simp [body, one]
    have hr := range_put b pre (body l ++ zs) hb
    rw [e, List.length_cons, takes_ok _ _ _ _ _ hr]
    have e2 : pre ++ (Leb.leb b.length ++ b) ++ (body l ++ zs) = (pre ++ (Leb.leb b.length ++ b)) ++ body l ++ zs := by simp
    have hl : pre.length + (Leb.leb b.length).length + b.length = (pre ++ (Leb.leb b.length ++ b)).length := by simp; omega
    rw [hl, e2, ih _ zs (fun c hc => h c (by simp [hc]))]
    have hd : (((pre ++ (Leb.leb b.length ++ b)) ++ body l ++ zs).drop (pre.length + (Leb.leb b.length).length)).take ((pre ++ (Leb.leb b.length ++ b)).length - (pre.length + (Leb.leb b.length).length)) = b := by
      have e3 : (pre ++ (Leb.leb b.length ++ b)) ++ body l ++ zs = (pre ++ Leb.leb b.length) ++ (b ++ (body l ++ zs)) := by simp
      rw [e3, ← List.length_append, List.drop_left]
      have : (pre ++ (Leb.leb b.length ++ b)).length - (pre ++ Leb.leb b.length).length = b.length := by simp; omega
      rw [this, List.take_left]
    rw [hd]
    simp only [comb, if_true]
    refine Prod.ext rfl (Prod.ext ?_ rfl)
    simp [body, one]
    omega
theorem take_join (l : List (List Nat)) (xs zs : List Nat) (hn : l.length ≤ 64) (h : ∀ b ∈ l, b.length ≤ 4096) :
    Leb.take (xs ++ join l ++ zs) (xs.length : Int) = (l.length, xs.length + (Leb.leb l.length).length, 0) ∧ takes (xs ++ join l ++ zs) l.length (xs.length + (Leb.leb l.length).length) = (l, xs.length + (join l).length, 0) := by
  have e : xs ++ join l ++ zs = xs ++ Leb.leb l.length ++ (body l ++ zs) := by simp [join]
  have e2 : xs ++ join l ++ zs = (xs ++ Leb.leb l.length) ++ body l ++ zs := by simp [join]
  refine ⟨by rw [e]; exact Leb.take_put l.length (by omega) xs (body l ++ zs), ?_⟩
  have h2 := takes_body l (xs ++ Leb.leb l.length) zs h
  rw [← e2, List.length_append] at h2
  rw [h2]
  refine Prod.ext rfl (Prod.ext ?_ rfl)
  simp [join]
  omega
end JoinM

theorem OwnParts.parts {w : World} {base g n : Nat} {ps : List Pt} (h : OwnParts w base g n ps) : Parts w (Option.some ⟨g, 0, none⟩) n ps := by
  obtain ⟨_, cur, hg⟩ := h.block
  refine ⟨h.size, .inr ⟨g, 0, rfl, (Array.getElem?_eq_some_iff.1 hg).1, fun i p hi => ?_⟩, fun p hp => ⟨(h.body p hp).rd, fun hn => ?_⟩⟩
  · rw [Nat.zero_add]
    exact h.cell i p hi
  · rcases (h.body p hp).row.2 with ⟨hv, _⟩ | ⟨g', c, cur', hv, _⟩
    · simp only [Value.slice.injEq] at hv
      exact hv.2.2
    · simp only [Value.slice.injEq] at hv
      rw [hv.1] at hn
      cases hn
theorem OwnParts.under {w : World} {base g n : Nat} {ps : List Pt} (h : OwnParts w base g n ps) (p : Addr) (v : Value) (hp : p.block < base) : OwnParts (w.setCell p v) base g n ps := by
  refine ⟨⟨h.row.1, ?_⟩, fun t ht => ?_⟩
  · rcases h.row.2 with hn | ⟨g', c, cur, hv, hbg, hg, r⟩
    · exact .inl hn
    · exact .inr ⟨g', c, cur, hv, hbg, by rw [Below.heap_setCell _ _ _ _ (by omega)]; exact hg, r⟩
  · have ho := h.body t ht
    refine ⟨⟨ho.row.1, ?_⟩, ho.byte⟩
    rcases ho.row.2 with hn | ⟨g', c, cur, hv, hbg, hg, r⟩
    · exact .inl hn
    · exact .inr ⟨g', c, cur, hv, hbg, by rw [Below.heap_setCell _ _ _ _ (by omega)]; exact hg, r⟩

set_option maxRecDepth 100000 in
set_option maxHeartbeats 1000000 in
theorem ref_SameRows (a1 : Option Addr) (c1 : Nat) (a2 : Option Addr) (c2 n : Nat) (ps qs : List Pt) (w : World) (h1 : Parts w a1 n ps) (h2 : Parts w a2 n qs) (hd : ps.map Pt.dat = qs.map Pt.dat) (hl : n ≤ 9223372036854775000) :
    Calls Try.prog 10 #[.slice a1 n c1, .slice a2 n c2] w fun e w' => e = .returned (.bool true) ∧ Below w.heap.size w w' := by
  by_cases hn0 : n = 0
  · subst hn0
    clear h1 h2 hd
    go_enter Try.func10, Try.ntmps10
    go_wp2
    refine wp_loop_rounds 1 ?_
    rw [rounds_succ]
    go_wp2
    go_ret
    exact ⟨rfl, Below.refl _ _⟩
  · obtain ⟨b1, o1, rfl, hb1, k1⟩ : ∃ b off, a1 = some ⟨b, off, none⟩ ∧ b < w.heap.size ∧ ∀ i p, ps[i]? = some p → w.cell? ⟨b, off + i, none⟩ = some (.slice p.a p.l p.c) := by
      rcases h1.cells with h | h
      · exact absurd h hn0
      · exact h
    obtain ⟨b2, o2, rfl, hb2, k2⟩ : ∃ b off, a2 = some ⟨b, off, none⟩ ∧ b < w.heap.size ∧ ∀ i p, qs[i]? = some p → w.cell? ⟨b, off + i, none⟩ = some (.slice p.a p.l p.c) := by
      rcases h2.cells with h | h
      · exact absurd h hn0
      · exact h
    have HK1 : Hid (∀ i p, ps[i]? = some p → w.cell? ⟨b1, o1 + i, none⟩ = some (.slice p.a p.l p.c)) := k1
    have HK2 : Hid (∀ i p, qs[i]? = some p → w.cell? ⟨b2, o2 + i, none⟩ = some (.slice p.a p.l p.c)) := k2
    have H1 : Hid (Parts w (some ⟨b1, o1, none⟩) n ps) := h1
    have H2 : Hid (Parts w (some ⟨b2, o2, none⟩) n qs) := h2
    have HD : Hid (ps.map Pt.dat = qs.map Pt.dat) := hd
    have HL1 : Hid (ps.length = n) := h1.size
    have HL2 : Hid (qs.length = n) := h2.size
    clear k1 k2 h1 h2 hd
    go_enter Try.func10, Try.ntmps10
    go_wp2
    go_loopw [5] (fun t5 wr => ∃ (i : Nat), i ≤ n ∧ t5 = .int .i64 (i : Int) ∧ Hid (Below w.heap.size w wr)) (fun t5 _ => n - (intOf t5).toNat)
    case atStart => exact ⟨0, by omega, rfl, Below.refl _ _⟩
    case round =>
      obtain ⟨i, hi, rfl, HB⟩ := hrel
      by_cases hlt : i < n
      · have hlt' : (i : Int) < (n : Int) := by omega
        obtain ⟨t, ht⟩ : ∃ t, ps[i]? = some t := ⟨_, List.getElem?_eq_getElem (by rw [HL1.out]; exact hlt)⟩
        obtain ⟨u, hu⟩ : ∃ u, qs[i]? = some u := ⟨_, List.getElem?_eq_getElem (by rw [HL2.out]; exact hlt)⟩
        have hb : t.bs = u.bs := by
          have e1 : (ps.map Pt.dat)[i]? = some t.dat := by rw [List.getElem?_map, ht]; rfl
          have e2 : (qs.map Pt.dat)[i]? = some u.dat := by rw [List.getElem?_map, hu]; rfl
          rw [HD.out, e2] at e1
          exact (Option.some.inj e1).symm
        have ka := (HB.out.cell (p := ⟨b1, o1 + i, none⟩) hb1).trans (HK1.out i t ht)
        have kb := (HB.out.cell (p := ⟨b2, o2 + i, none⟩) hb2).trans (HK2.out i u hu)
        have r1 := ((H1.out.body t (List.mem_of_getElem? ht)).1).below HB.out
        have r2 := ((H2.out.body u (List.mem_of_getElem? hu)).1).below HB.out
        rw [← hb] at r2
        obtain ⟨S, HS⟩ : ∃ S, Hid (S = str t.bs) := ⟨_, rfl⟩
        obtain ⟨ta, tl, tc, tb⟩ := t
        obtain ⟨ua, ul, uc, ub⟩ := u
        simp only at ka kb r1 r2 HS
        have m1 : ∀ nq, (convert 23 9 (.slice ta tl tc)).run Try.prog (wr.drewN nq) = .ok (.string S) (wr.drewN nq) := fun nq => by rw [HS.out]; exact conv_rd (r1.below (below_drewN wr nq)) tc
        have m2 : ∀ nq, (convert 23 9 (.slice ua ul uc)).run Try.prog (wr.drewN nq) = .ok (.string S) (wr.drewN nq) := fun nq => by rw [HS.out]; exact conv_rd (r2.below (below_drewN wr nq)) uc
        clear hb ht hu r1 r2
        go_wp2
        go_quiet (fail)
        go_wp2
        go_roundw
        case rel => exact ⟨i + 1, by omega, by go_num, HB.out.trans ((below_drewN wr _).mono HB.out.size)⟩
        case measure => simp [intOf]; omega
      · have hn : ¬ (i : Int) < (n : Int) := by omega
        go_wp2
        go_ret
        exact ⟨rfl, HB.out⟩

theorem cellsSlice : Try.prog.cellsOf 23 = 1 := by kernel_rfl

/-- Parts that came in. -/
theorem open_parts {H : Type} {enc : TypeId × Value → H} {W : World} {a : Option Addr} {n cap : Nat} {d : DataW H} {p : List MemPlace}
    (h : DataW.Trod enc Try.prog W 0 (fun _ => true) true 22 (.slice a n cap) d p) : ∃ ps, Parts W a n ps ∧ n ≤ cap ∧ cap ≤ 9223372036854775807 ∧ ∀ p ∈ ps, p.l ≤ 9223372036854775807 := by
  obtain ⟨fuel, hf⟩ := h
  rcases Go.Deep.open_slice1 Try.underlying22 cellsSlice hf with ⟨hcs, hx⟩ | ⟨x, l, c, m, n', V, D, Pl, hcs, hb, hl, hm, hmm, hx, hr⟩
  · simp [Value.cells] at hcs
    obtain ⟨rfl, rfl, rfl⟩ := hcs
    exact ⟨[], ⟨rfl, .inl rfl, fun p hp => by cases hp⟩, Nat.le_refl _, by omega, fun p hp => by cases hp⟩
  · simp [Value.cells] at hcs
    obtain ⟨rfl, rfl, rfl⟩ := hcs
    simp only [if_true] at hmm
    subst hmm
    unfold maxLen at hm
    have each : ∀ r, r < m → ∃ y : Pt, V r = .slice y.a y.l y.c ∧ Rd W y.a y.l y.bs ∧ (y.a = none → y.c = 0) ∧ y.l ≤ 9223372036854775807 := by
      intro r hrc
      obtain ⟨ya, yl, yc, yb, e1, e2, e3, e4, _, e6, _⟩ := rd_cell (hr r hrc).2
      exact ⟨⟨ya, yl, yc, yb⟩, e1, e2, e6, by show yl ≤ _; omega⟩
    haveI : Inhabited Pt := ⟨nilPt⟩
    obtain ⟨y, hy⟩ := Go.Deep.choose_lt each
    refine ⟨(List.range n).map y, ⟨by simp, ?_, ?_⟩, hl, by omega, ?_⟩
    · by_cases hn0 : n = 0
      · exact .inl hn0
      · right
        obtain ⟨b, off, spot⟩ := x
        have hc := (hr 0 (by omega)).1
        have hspot : spot = none := by simpa [Addr.add] using World.cell?_spot hc
        subst hspot
        refine ⟨b, off, rfl, World.block_lt_of_cell? W _ hc, fun i q hi => ?_⟩
        have hin : i < n := by
          have := (List.getElem?_eq_some_iff.1 hi).1
          simpa using this
        have hq : q = y i := by
          rw [List.getElem?_map, List.getElem?_range hin] at hi
          simpa using hi.symm
        subst hq
        have e : (⟨b, off, none⟩ : Addr).add i = ⟨b, off + i, none⟩ := by unfold Addr.add; split <;> simp_all
        have h2 := (hr i (by omega)).1
        rw [e] at h2
        rw [h2, (hy i (by omega)).1]
    · intro q hq
      obtain ⟨i, hi, rfl⟩ := List.mem_map.1 hq
      have hin := List.mem_range.1 hi
      exact ⟨(hy i (by omega)).2.1, (hy i (by omega)).2.2.1⟩
    · intro q hq
      obtain ⟨i, hi, rfl⟩ := List.mem_map.1 hq
      have hin := List.mem_range.1 hi
      exact (hy i (by omega)).2.2.2
end Go.Proofs.Ytbhljlafijdodab
