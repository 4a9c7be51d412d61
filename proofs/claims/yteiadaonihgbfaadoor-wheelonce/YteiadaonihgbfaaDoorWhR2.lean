/- grapevineref12: New, Fork, Next, Ids. -/
import Derived.Test.YteiadaonihgbfaaDoorWhR1
namespace Go.Proofs.YteiadaonihgbfaaDoor
open Go.RowKit

def newR (n : Nat) : Rf := ⟨n, List.replicate 65 false, List.replicate 65 0⟩
theorem newR_cells (n : Nat) : (newR n).cells = .int .i64 (n : Int) :: (List.replicate 65 (Value.bool false) ++ List.replicate 65 (Value.int .i64 0)) := by
  unfold newR Rf.cells
  rw [List.map_replicate, List.map_replicate]
  rfl
theorem run_build_ref (w : World) (i : Int) : (Instr.build 61 #[(0, .int .i64 i)]).run Tryd.prog w = .ok (.agg (Value.int .i64 i :: (List.replicate 65 (Value.bool false) ++ List.replicate 65 (Value.int .i64 0))).toArray) w := by
  kernel_rfl
theorem rep_f (k : Nat) (n : Nat) : (List.replicate n false).getD k false = false := by rw [List.getD_eq_getElem?_getD, List.getElem?_replicate]; split <;> rfl
theorem rep_0 (k : Nat) (n : Nat) : (List.replicate n (0 : Nat)).getD k 0 = 0 := by rw [List.getD_eq_getElem?_getD, List.getElem?_replicate]; split <;> rfl
theorem RW.fresh (w : World) (n : Nat) (hn : n ≤ 1099511627776) : RW (w.alloc (.cells (newR n).cells.toArray 61)) w.heap.size n (fun _ => none) :=
  ⟨newR n, ⟨Blk.new _ _ _, by simp [newR], by simp [newR], hn, fun i => by show (List.replicate 65 0).getD i 0 ≤ _; rw [rep_0]; omega⟩, rfl, fun i _ => by unfold tR; rw [if_neg]; show ¬ (List.replicate 65 false).getD (i + 1) false = true; rw [rep_f]; decide⟩
/-- What the reference's New tells. -/
def NewToldR (w w' : World) (n : Int) (e : Ending) : Prop :=
  (¬ (0 ≤ n ∧ n ≤ 1099511627776) ∧ e = .returned (.tuple #[.pointer none, .int .i64 2])) ∨
  ((0 ≤ n ∧ n ≤ 1099511627776) ∧ e = .returned (.tuple #[.pointer (some ⟨w.heap.size, 0, none⟩), .int .i64 0]) ∧ RW w' w.heap.size n.toNat (fun _ => none))

set_option maxRecDepth 100000 in
set_option maxHeartbeats 2000000 in
theorem ref_New12 (w : World) (n : Int) : Calls Tryd.prog 24 #[.int .i64 n] w fun e w' => Hid (NewToldR w w' n e) ∧ Below w.heap.size w w' := by
  by_cases h1 : n < 0
  · go_enter Tryd.func24, Tryd.ntmps24
    go_wp2
    go_returns
    exact ⟨.inl ⟨by omega, rfl⟩, Below.refl _ _⟩
  · by_cases h2 : 1099511627776 < n
    · go_enter Tryd.func24, Tryd.ntmps24
      go_wp2
      go_returns
      exact ⟨.inl ⟨by omega, rfl⟩, Below.refl _ _⟩
    · obtain ⟨m, rfl⟩ := Int.eq_ofNat_of_zero_le (show 0 ≤ n by omega)
      obtain ⟨C, HC⟩ : ∃ C, Hid (C = (newR m).cells) := ⟨_, rfl⟩
      have HR : Hid ((Instr.build 61 #[(0, .int .i64 (m : Int))]).run Tryd.prog w = .ok (.agg C.toArray) w) := by show _ = _; rw [HC.out, newR_cells]; exact run_build_ref w m
      go_enter Tryd.func24, Tryd.ntmps24
      go_wp2_with (guard_target =~ wpList _ _ _ (Oper.mk (some 11) _ _ _ _ _ :: _) _ _; refine wpList_build rfl 61 0 (.tmp 10) rfl (.int .i64 (m : Int)) rfl (.agg C.toArray) HR.out ?_)
      go_returns
      refine ⟨.inr ⟨⟨by omega, by omega⟩, rfl, ?_⟩, below_alloc _ _⟩
      rw [HC.out, Int.toNat_natCast]
      exact RW.fresh w m (by omega)

theorem infoRef : (Tryd.prog.info? 61).map (·.size) = some 131 := by kernel_rfl
theorem infoRefZ : (Tryd.prog.info? 61).map (fun i => (i.zero, i.size)) = some (some (.agg (Value.int .i64 0 :: (List.replicate 65 (Value.bool false) ++ List.replicate 65 (Value.int .i64 0))).toArray), 131) := by kernel_rfl
theorem Rf.cells_one (s : Rf) : ∀ v ∈ s.cells, v.oneCell' = true := by
  intro v hv
  rw [Rf.cells, List.mem_cons, List.mem_append] at hv
  rcases hv with rfl | hv | hv
  · rfl
  · obtain ⟨x, _, rfl⟩ := List.mem_map.1 hv; rfl
  · obtain ⟨x, _, rfl⟩ := List.mem_map.1 hv; rfl

set_option maxRecDepth 100000 in
set_option maxHeartbeats 2000000 in
theorem ref_Fork12 (w : World) (h n : Nat) (T : Nat → Option Nat) (hr : RW w h n T) : Calls Tryd.prog 21 #[.pointer (some ⟨h, 0, none⟩)] w fun e w' => e = .returned (.pointer (some ⟨w.heap.size, 0, none⟩)) ∧ Hid (RW w' w.heap.size n T) ∧ Below w.heap.size w w' := by
  obtain ⟨s, hs, hn, hT⟩ := hr
  have HW : Hid (Rw w h s) := hs
  have HNT : Hid (s.now = n ∧ ∀ i, i < 64 → T i = tR s i) := ⟨hn, hT⟩
  obtain ⟨C, hC⟩ : ∃ C, C = s.cells := ⟨_, rfl⟩
  have HC : Hid (C = s.cells) := hC
  have HCL : Hid (C.length = 131) := by show _ = _; rw [hC, Rf.cells, List.length_cons, List.length_append, List.length_map, List.length_map, hs.tl, hs.wl]
  have HC1 : Hid (∀ v ∈ C, v.oneCell' = true) := by show ∀ v ∈ C, _; rw [hC]; exact s.cells_one
  have HRG : Hid (w.rangeAt h 0 C) := by
    have : Blk w h C.toArray 61 := by rw [hC]; exact hs.blk
    exact this.range 0 C (fun j v hj => by simpa using hj)
  obtain ⟨Z, HZ⟩ : ∃ Z : List Value, Hid (Z = Value.int .i64 0 :: (List.replicate 65 (Value.bool false) ++ List.replicate 65 (Value.int .i64 0))) := ⟨_, rfl⟩
  have HZL : Hid (Z.length = 131) := by show _ = _; rw [HZ.out]; rfl
  have HZI : Hid ((Tryd.prog.info? 61).map (fun i => (i.zero, i.size)) = some (some (.agg Z.toArray), 131)) := by show _ = _; rw [HZ.out]; exact infoRefZ
  clear hs hn hT hC
  go_enter Tryd.func21, Tryd.ntmps21
  go_wp2_with (first
    | (guard_target =~ wpList _ _ _ (Oper.mk (some 8) _ _ _ _ _ :: _) _ _; refine wpList_load_mid rfl 61 (.tmp 7) rfl h 0 rfl C _ HRG.out Tryd.underlying61 rfl (by rw [HCL.out]; exact infoRef) ?_)
    | (guard_target =~ wpList _ _ _ (Oper.mk (some 3) _ _ _ _ _ :: _) _ _; refine wpList_alloc_row rfl 61 rfl Z 131 HZI.out ?_))
  intro w1 hk1 hb1 hs1
  have HK1 : Hid (Blk w1 w.heap.size Z.toArray 61) := hk1
  have HB1 : Hid (Below w.heap.size w w1) := hb1
  clear hk1 hb1 hs1
  go_wp2_with (guard_target =~ wpList _ _ _ (Oper.mk none _ _ _ _ _ :: _) _ _; refine wpList_store_row rfl 61 (.tmp 3) (.tmp 8) rfl w.heap.size 0 C rfl rfl Z 61 HK1.out (by rw [HCL.out, HZL.out]; omega) (by rw [HCL.out]; exact infoRef) HC1.out ?_)
  intro w2 hk2 hg2
  have HW2 : Hid (RW w2 w.heap.size n T) := by
    rw [splice_all Z C (by rw [HZL.out, HCL.out]), HC.out] at hk2
    exact ⟨s, ⟨hk2, HW.out.tl, HW.out.wl, HW.out.nw, HW.out.ww⟩, HNT.out.1, HNT.out.2⟩
  have HB2 : Hid (Below w.heap.size w w2) := HB1.out.trans ((Below.refl _ _).grown hg2 HB1.out.size (fun k hk => by simp only [Option.some.injEq] at hk; omega))
  clear hk2 hg2
  go_wp2
  go_ret
  exact ⟨rfl, HW2, HB2.out⟩

/-- The least tick of the first so many. -/
def NextTo (T : Nat → Option Nat) (k n : Nat) (b : Bool) : Prop := (b = false ∧ n = 0 ∧ ∀ i, i < k → T i = none) ∨ (b = true ∧ (∃ i, i < k ∧ T i = some n) ∧ ∀ i d, i < k → T i = some d → n ≤ d)
theorem NextTo.no {T : Nat → Option Nat} {k n : Nat} {b : Bool} (h : NextTo T k n b) (hk : T k = none ∨ (b = true ∧ ∃ d, T k = some d ∧ n ≤ d)) : NextTo T (k + 1) n b := by
  rcases h with ⟨h1, h2, h3⟩ | ⟨h1, ⟨i, hi, h2⟩, h3⟩
  · refine .inl ⟨h1, h2, fun i hi => ?_⟩
    by_cases c : i = k
    · subst c
      rcases hk with hk | ⟨hk, _⟩
      · exact hk
      · rw [h1] at hk; cases hk
    · exact h3 i (by omega)
  · refine .inr ⟨h1, ⟨i, by omega, h2⟩, fun j d hj hd => ?_⟩
    by_cases c : j = k
    · subst c
      rcases hk with hk | ⟨_, d', hk, hle⟩
      · rw [hk] at hd; cases hd
      · rw [hk] at hd; cases hd; exact hle
    · exact h3 j d (by omega) hd
theorem NextTo.yes {T : Nat → Option Nat} {k n d : Nat} {b : Bool} (h : NextTo T k n b) (hk : T k = some d) (hb : b = false ∨ d < n) : NextTo T (k + 1) d true := by
  refine .inr ⟨rfl, ⟨k, by omega, hk⟩, fun j e hj he => ?_⟩
  by_cases c : j = k
  · subst c; rw [hk] at he; cases he; exact Nat.le_refl _
  · rcases h with ⟨h1, h2, h3⟩ | ⟨h1, _, h3⟩
    · rw [h3 j (by omega)] at he; cases he
    · have := h3 j e (by omega) he
      rcases hb with hb | hb
      · rw [hb] at h1; cases h1
      · omega

/-- What the reference's Next tells. -/
def NextToldR (T : Nat → Option Nat) (e : Ending) : Prop := ∃ m b, e = .returned (.tuple #[.int .i64 ((m : Nat) : Int), .bool b]) ∧ IsNext T m b ∧ m ≤ 1099511627776

set_option maxRecDepth 100000 in
set_option maxHeartbeats 4000000 in
theorem ref_Next (w : World) (h n : Nat) (T : Nat → Option Nat) (hr : RW w h n T) :
    Calls Tryd.prog 25 #[.pointer (some ⟨h, 0, none⟩)] w fun e w' => Hid (NextToldR T e) ∧ w' = w := by
  obtain ⟨r, r1, r2, r3⟩ := hr
  have HR : Hid (Rw w h r) := r1
  have HT : Hid (∀ i, i < 64 → T i = tR r i) := r3
  clear r1 r2 r3
  go_enter Tryd.func25, Tryd.ntmps25
  go_wp2
  go_loopw [4, 5, 6] (fun t4 t5 t6 wr => ∃ (x m : Nat) (b : Bool), 1 ≤ x ∧ x ≤ 65 ∧ t4 = .int .i64 (m : Int) ∧ t5 = .bool b ∧ t6 = .int .i64 (x : Int) ∧ Hid (NextTo T (x - 1) m b ∧ m ≤ 1099511627776) ∧ wr = w) (fun _ _ t6 _ => 65 - (intOf t6).toNat)
  case atStart => exact ⟨1, 0, false, by omega, by omega, rfl, rfl, rfl, ⟨.inl ⟨rfl, rfl, fun i hi => by omega⟩, by omega⟩, rfl⟩
  case round =>
    obtain ⟨x, m, b, hx1, hx2, rfl, rfl, rfl, HN, rfl⟩ := hrel
    by_cases hlt : x ≤ 64
    · have hlt' : (x : Int) ≤ 64 := by omega
      have h5 : (0 : Int) ≤ (x : Int) := by omega
      have h6 : (x : Int) < 65 := by omega
      have c1 := HR.out.there_cell (i := x) (by omega)
      have c2 := HR.out.whn_cell (i := x) (by omega)
      have hd0 := HR.out.ww x
      have hT : T (x - 1) = tR r (x - 1) := HT.out _ (by omega)
      unfold tR at hT
      rw [show x - 1 + 1 = x from by omega] at hT
      generalize r.whn.getD x 0 = d at c2 hT hd0
      have HD : Hid (d ≤ 1099511627776) := hd0
      clear hd0
      cases hb : r.there.getD x false with
      | false =>
        rw [hb] at c1 hT
        rw [if_neg (by decide)] at hT
        have HN2 : Hid (NextTo T (x + 1 - 1) m b ∧ m ≤ 1099511627776) := by
          rw [show x + 1 - 1 = (x - 1) + 1 from by omega]
          exact ⟨HN.out.1.no (.inl hT), HN.out.2⟩
        clear hT hb
        go_wp2
        go_roundw
        case rel => exact ⟨x + 1, m, b, by omega, by omega, rfl, rfl, by go_num, HN2, by trivial⟩
        case measure => simp [intOf]; omega
      | true =>
        rw [hb] at c1 hT
        rw [if_pos rfl] at hT
        have HTX : Hid (T (x - 1) = some d) := hT
        clear hT hb
        cases b with
        | false =>
          have HN2 : Hid (NextTo T (x + 1 - 1) d true ∧ d ≤ 1099511627776) := by
            rw [show x + 1 - 1 = (x - 1) + 1 from by omega]
            exact ⟨HN.out.1.yes HTX.out (.inl rfl), HD.out⟩
          go_wp2
          go_roundw
          case rel => exact ⟨x + 1, d, true, by omega, by omega, rfl, rfl, by go_num, HN2, by trivial⟩
          case measure => simp [intOf]; omega
        | true =>
          by_cases hdm : d < m
          · have hdm' : (d : Int) < (m : Int) := by omega
            have HN2 : Hid (NextTo T (x + 1 - 1) d true ∧ d ≤ 1099511627776) := by
              rw [show x + 1 - 1 = (x - 1) + 1 from by omega]
              exact ⟨HN.out.1.yes HTX.out (.inr hdm), HD.out⟩
            go_wp2
            go_roundw
            case rel => exact ⟨x + 1, d, true, by omega, by omega, rfl, rfl, by go_num, HN2, by trivial⟩
            case measure => simp [intOf]; omega
          · have hdm' : ¬ (d : Int) < (m : Int) := by omega
            have HN2 : Hid (NextTo T (x + 1 - 1) m true ∧ m ≤ 1099511627776) := by
              rw [show x + 1 - 1 = (x - 1) + 1 from by omega]
              exact ⟨HN.out.1.no (.inr ⟨rfl, d, HTX.out, by omega⟩), HN.out.2⟩
            go_wp2
            go_roundw
            case rel => exact ⟨x + 1, m, true, by omega, by omega, rfl, rfl, by go_num, HN2, by trivial⟩
            case measure => simp [intOf]; omega
    · obtain rfl : x = 65 := by omega
      have hlt' : ¬ ((65 : Nat) : Int) ≤ 64 := by omega
      go_wp2
      go_returns
      exact ⟨⟨m, b, rfl, HN.out.1, HN.out.2⟩, rfl⟩

def idsTo (T : Nat → Option Nat) (k : Nat) : List Nat := ((List.range k).filter fun i => (T i).isSome).map fun i => 1 + i
theorem idsTo_no (T : Nat → Option Nat) (k : Nat) (h : T k = none) : idsTo T (k + 1) = idsTo T k := by
  unfold idsTo
  rw [List.range_succ, List.filter_append, List.filter_cons, h]
  simp
theorem idsTo_yes (T : Nat → Option Nat) (k d : Nat) (h : T k = some d) : idsTo T (k + 1) = idsTo T k ++ [1 + k] := by
  unfold idsTo
  rw [List.range_succ, List.filter_append, List.filter_cons, h]
  simp
theorem idsTo_len (T : Nat → Option Nat) (k : Nat) : (idsTo T k).length ≤ k := by
  unfold idsTo
  rw [List.length_map]
  have := List.length_filter_le (fun i => (T i).isSome) (List.range k)
  rw [List.length_range] at this
  exact this
theorem own_none (w : World) (base : Nat) (hb : base ≤ w.heap.size) : (w.alloc (.cells #[] 3)).ownsRow base 3 1 (.slice (some ⟨w.heap.size, 0, none⟩) 0 0) 0 [] :=
  ⟨rfl, .inr ⟨_, 0, #[], rfl, hb, heap_alloc_new w _, Nat.le_refl _, by unfold maxLen; omega, rfl, rfl⟩⟩

set_option maxRecDepth 100000 in
set_option maxHeartbeats 4000000 in
theorem ref_Ids (w : World) (h n : Nat) (T : Nat → Option Nat) (hr : RW w h n T) :
    Calls Tryd.prog 26 #[.pointer (some ⟨h, 0, none⟩)] w fun e w' => ∃ v, e = .returned v ∧ Hid (w'.ownsRow w.heap.size 3 1 v (idsT T).length (vi (idsT T))) ∧ Below w.heap.size w w' := by
  obtain ⟨r, r1, r2, r3⟩ := hr
  have HR : Hid (Rw w h r) := r1
  have HT : Hid (∀ i, i < 64 → T i = tR r i) := r3
  have HO0 : Hid ((w.alloc (.cells #[] 3)).ownsRow w.heap.size 3 1 (.slice (some ⟨w.heap.size, 0, none⟩) 0 0) (idsTo T 0).length (vi (idsTo T 0))) := own_none w _ (Nat.le_refl _)
  have HB0 : Hid (Below w.heap.size w (w.alloc (.cells #[] 3))) := below_alloc _ _
  have HE : Hid (idsTo T 64 = idsT T) := rfl
  rw [← HE.out]
  clear r1 r2 r3
  go_enter Tryd.func26, Tryd.ntmps26
  go_wp2
  go_loopw [3, 4] (fun t3 t4 wr => ∃ (x : Nat) (v3 : Value), 1 ≤ x ∧ x ≤ 65 ∧ v3 = t3 ∧ t4 = .int .i64 (x : Int) ∧ Hid (wr.ownsRow w.heap.size 3 1 v3 (idsTo T (x - 1)).length (vi (idsTo T (x - 1)))) ∧ Hid (Below w.heap.size w wr)) (fun _ t4 _ => 65 - (intOf t4).toNat)
  case atStart => exact ⟨1, _, by omega, by omega, rfl, rfl, HO0, HB0⟩
  case round =>
    obtain ⟨x, v3, hx1, hx2, rfl, rfl, HO, HB⟩ := hrel
    by_cases hlt : x ≤ 64
    · have hlt' : (x : Int) ≤ 64 := by omega
      have h5 : (0 : Int) ≤ (x : Int) := by omega
      have h6 : (x : Int) < 65 := by omega
      have c1 := (HR.out.stay HB.out).there_cell (i := x) (by omega)
      have hT : T (x - 1) = tR r (x - 1) := HT.out _ (by omega)
      unfold tR at hT
      rw [show x - 1 + 1 = x from by omega] at hT
      cases hb : r.there.getD x false with
      | false =>
        rw [hb] at c1 hT
        rw [if_neg (by decide)] at hT
        have HO2 : Hid (wr.ownsRow w.heap.size 3 1 v3 (idsTo T (x + 1 - 1)).length (vi (idsTo T (x + 1 - 1)))) := by
          rw [show x + 1 - 1 = (x - 1) + 1 from by omega, idsTo_no _ _ hT]
          exact HO
        obtain ⟨a3, n3, c3, rfl⟩ := own_slice HO.out
        clear hT hb
        go_wp2
        go_roundw
        case rel => exact ⟨x + 1, _, by omega, by omega, rfl, by go_num, HO2, HB⟩
        case measure => simp [intOf]; omega
      | true =>
        rw [hb] at c1 hT
        rw [if_pos rfl] at hT
        obtain ⟨l, hl⟩ : ∃ l, l = idsTo T (x - 1) := ⟨_, rfl⟩
        have HLX : Hid (idsTo T (x + 1 - 1) = l ++ [x]) := by
          show _ = _
          rw [show x + 1 - 1 = (x - 1) + 1 from by omega, idsTo_yes _ _ _ hT, hl, show 1 + (x - 1) = x from by omega]
        have HLN : Hid (l.length < 64) := by show _ < _; have := idsTo_len T (x - 1); rw [← hl] at this; omega
        rw [← hl] at HO
        obtain ⟨i0, hi0, hz0, hz1, hz2⟩ := info_parts infoInt
        have HOA : Hid ((wr.alloc (.cells #[.int .i64 (x : Int)] 3)).ownsRow w.heap.size 3 1 v3 l.length (vi l)) := own_stay HO.out (fun j hj => (below_alloc wr (.cells #[.int .i64 (x : Int)] 3)).block j (HO.out.lt j hj).2)
        have HBA : Hid (Below w.heap.size w (wr.alloc (.cells #[.int .i64 (x : Int)] 3))) := HB.out.alloc HB.out.size _
        have HNEW : Hid (∀ j u, [Value.int .i64 (x : Int)][j]? = some u → (wr.alloc (.cells #[.int .i64 (x : Int)] 3)).cell? ((⟨wr.heap.size, 0, none⟩ : Addr).add j) = some u) := fun j u hj => by
          have e : (⟨wr.heap.size, 0, none⟩ : Addr).add j = ⟨wr.heap.size, 0 + j, none⟩ := by unfold Addr.add; split <;> simp_all
          rw [e, Nat.zero_add]
          exact (Blk.new wr #[.int .i64 (x : Int)] 3).cell j (by simpa using hj)
        clear hT hb hl
        go_wp2_with (guard_target =~ wpList _ _ _ (Oper.mk (some 23) _ _ _ _ _ :: _) _ _; refine wpList_append_own _ rfl (.tmp 20) (.tmp 22) 40 rfl w.heap.size 3 i0 (.int .i64 0) 1 8 Tryd.underlying40 hi0 hz0 hz1 hz2 (by rfl) (by decide) v3 l.length (vi l) rfl HOA.out ⟨wr.heap.size, 0, none⟩ 1 1 [.int .i64 (x : Int)] rfl rfl HNEW.out (by simp [Value.oneCell']) (by have := HLN.out; unfold maxLen; omega) (by have := HLN.out; omega) HBA.out.size ?_)
        intro v' w5 ho hg hnn
        obtain ⟨a5, n5, c5, rfl⟩ := own_slice ho
        have HO5 : Hid (w5.ownsRow w.heap.size 3 1 (.slice a5 n5 c5) (idsTo T (x + 1 - 1)).length (vi (idsTo T (x + 1 - 1)))) := by
          rw [HLX.out]
          show w5.ownsRow _ _ _ _ _ _
          have e : vi (l ++ [x]) = vi l ++ [.int .i64 (x : Int)] := by
            unfold vi
            rw [List.map_append, List.map_cons, List.map_nil]
          rw [e, List.length_append, List.length_singleton]
          exact ho
        have HB5 : Hid (Below w.heap.size w w5) := HBA.out.trans ((Below.refl _ _).grown hg HBA.out.size (fun j hj => (HOA.out.lt j hj).1))
        clear ho hg hnn hi0 hz0 hz1 hz2
        go_wp2
        go_roundw
        case rel => exact ⟨x + 1, _, by omega, by omega, rfl, by go_num, HO5, HB5⟩
        case measure => simp [intOf]; omega
    · obtain rfl : x = 65 := by omega
      have hlt' : ¬ ((65 : Nat) : Int) ≤ 64 := by omega
      obtain ⟨a3, n3, c3, rfl⟩ := own_slice HO.out
      go_wp2
      go_ret
      exact ⟨_, rfl, HO, HB.out⟩
end Go.Proofs.YteiadaonihgbfaaDoor
