/- grapevineref13.Take: its numbers; of every kind but Tell. -/
import Derived.Test.YtmpljoljpgbamaaRt1
import Derived.Test.YtmpljoljpgbamaaPt8
import Derived.Test.YtmpljoljpgbamaaPcR3
namespace Go.Proofs.Ytmpljoljpgbamaa
open Go.RowKit

def numsF (bs : List Nat) : Nat → List Nat → Rs → List Nat × Rs
  | 0, acc, s => (acc, s)
  | k + 1, acc, s => numsF bs k (acc ++ [(numF bs 1099511627776 s).1]) (numF bs 1099511627776 s).2
theorem numsF_stop (bs : List Nat) : ∀ (k : Nat) (acc : List Nat) (s : Rs), s.ft ≠ 0 → (numsF bs k acc s).2 = s
  | 0, _, _, _ => rfl
  | k + 1, acc, s, h => by rw [numsF, numF_no h]; exact numsF_stop bs k _ s h
theorem endE_bad {bs : List Nat} {s : Rs} (h : s.ft ≠ 0) : endE bs s = s.ft := by rw [endE, if_neg (fun h2 => h h2.1)]
def ivs (l : List Nat) : List Value := l.map fun (n : Nat) => .int .i64 (n : Int)
theorem infoInt : (Try.prog.info? 3).map (fun i => (i.zero, i.size, i.bytes)) = some (some (.int .i64 0), 1, 8) := by kernel_rfl
/-- A row of numbers of one's own. -/
def Ints (w : World) (base : Nat) (v : Value) (l : List Nat) : Prop := w.ownsRow base 3 1 v l.length (ivs l)
theorem Ints.empty (w : World) (base : Nat) (hb : base ≤ w.heap.size) : Ints (w.alloc (.cells #[] 3)) base (.slice (some ⟨w.heap.size, 0, none⟩) 0 0) [] :=
  ⟨rfl, .inr ⟨w.heap.size, 0, #[], rfl, hb, heap_alloc_new w _, Nat.le_refl _, Nat.zero_le _, rfl, rfl⟩⟩
theorem Ints.stay {w w' : World} {base : Nat} {v : Value} {l : List Nat} (h : Ints w base v l) (hb : Below w.heap.size w w') : Ints w' base v l := by
  refine ⟨h.1, ?_⟩
  rcases h.2 with hn | ⟨g, c, cur, hv, hbg, hg, r⟩
  · exact .inl hn
  · exact .inr ⟨g, c, cur, hv, hbg, by rw [hb.block g (Array.getElem?_eq_some_iff.1 hg).1]; exact hg, r⟩
theorem Ints.cell {w : World} {base : Nat} {v : Value} {l : List Nat} (h : Ints w base v l) (hl : 0 < l.length) : ∃ g c, v = .slice (some ⟨g, 0, none⟩) l.length c ∧ base ≤ g ∧ ∀ (i n : Nat), l[i]? = some n → w.cell? ⟨g, i, none⟩ = some (.int .i64 (n : Int)) := by
  rcases h.2 with ⟨_, hn⟩ | ⟨g, c, cur, hv, hbg, hg, hlc, hm, hs, ht⟩
  · omega
  · refine ⟨g, c, hv, hbg, fun i n hi => ?_⟩
    have hil : i < l.length := (List.getElem?_eq_some_iff.1 hi).1
    have h1 : (ivs l)[i]? = some (.int .i64 (n : Int)) := by simp [ivs, hi]
    rw [← ht, List.getElem?_take_of_lt (by omega), Array.getElem?_toList] at h1
    rw [cell_of_row w g _ cur _ _ hg, h1]
theorem wpList_append_n {w : World} {ops : Array Oper} {rest : List Oper} {o : Oper} {act : Act} {Q : Exit → Act → World → Prop} (hgd : o.guard = none) (s x : Operand)
    (ho : o.op = .call { callee := .builtin .append, args := #[s, x], argTypes := #[68, 68] })
    (base : Nat) (v : Value) (l : List Nat) (hs : act.eval s = v) (hown : Ints w base v l) (ad : Addr) (c n : Nat) (hx : act.eval x = .slice (some ad) 1 c) (hnews : w.cell? ad = some (.int .i64 (n : Int))) (hl : l.length ≤ 1000000) (hbase : base ≤ w.heap.size)
    (h : ∀ v' w', Ints w' base v' (l ++ [n]) → Below base w w' → wpList Try.prog ops Q rest (act.put o.dst v') w') : wpList Try.prog ops Q (o :: rest) act w := by
  obtain ⟨i0, hi, hz0, hz1, hz2⟩ := info_parts infoInt
  refine wpList_plain hgd fun K hK => ?_
  refine wp_append_own w s x 68 ho base 3 i0 (.int .i64 0) 1 8 Try.underlying68 hi hz0 hz1 hz2 (by rfl) (by decide) v l.length (ivs l) hs hown ad 1 c [.int .i64 (n : Int)] hx (by rfl) ?_ ?_ (by unfold maxLen; omega) (by omega) hbase fun v' w' h1 h2 _ => ?_
  · intro j u hj
    cases j with
    | zero =>
      simp only [List.getElem?_cons_zero, Option.some.injEq] at hj
      subst hj
      simpa [Addr.add] using hnews
    | succ j => simp at hj
  · intro u hu
    simp only [List.mem_singleton] at hu
    subst hu
    rfl
  · refine hK _ _ (h v' w' ?_ ((Below.refl _ _).grown h2 hbase (fun k hk => (hown.lt k hk).1)))
    unfold Ints
    rw [List.length_append, ivs, List.map_append]
    exact h1

theorem par_nums_2 (bs : List Nat) (s : Rs) : ∃ x0 x1 x2, (numsF bs 3 [] s).1 = [x0, x1, x2] ∧ parF bs 2 s = (⟨2, (x0 : Nat), 0, 0, (x1 : Nat), (x2 : Nat), [], []⟩, (numsF bs 3 [] s).2) := by
  refine ⟨_, _, _, rfl, ?_⟩
  simp [parF, optF, subB, fromB, toB, newsB, numsF]

set_option maxRecDepth 100000 in
set_option maxHeartbeats 4000000 in
theorem ref_Take_2 (g o len cap : Nat) (bs : List Nat) (w : World) (hr : Rd w (some ⟨g, o, none⟩) len bs) (hlc : len ≤ cap) (hl : len ≤ 140737488351232) (h0 : 0 < len) (hb0 : bs.getD 0 0 = 2) :
    Calls Try.prog 18 #[.slice (some ⟨g, o, none⟩) len cap] w fun e w' => Hid (TakeP13 w w' (takeP bs) e) ∧ Below w.heap.size w w' := by
  have HR : Hid (Rd w (some ⟨g, o, none⟩) len bs) := hr
  have HBY : Hid (∀ z ∈ bs, z < 256) := hr.byte
  have HSZ : Hid (bs.length = len) := hr.size
  have HN0 : Hid (¬ bs.length = 0) := by show ¬ _; rw [HSZ.out]; omega
  have HIS : Hid (isB (bs.getD 0 0 : Nat) = true) := by rw [hb0]; exact (by decide : isB ((2 : Nat) : Int) = true)
  have HL : Hid (len ≤ cap ∧ len ≤ 140737488351232) := ⟨hlc, hl⟩
  obtain ⟨x0, x1, x2, hxs, hpar⟩ := par_nums_2 bs ⟨1, 0⟩
  obtain ⟨N, hN⟩ : ∃ N, N = numsF bs 3 [] ⟨1, 0⟩ := ⟨_, rfl⟩
  have HNE : Hid (numsF bs 3 [] ⟨1, 0⟩ = N) := hN.symm
  rw [← hN] at hxs hpar
  have HXS : Hid (N.1 = [x0, x1, x2]) := hxs
  have HPAR : Hid ((⟨2, (x0 : Nat), 0, 0, (x1 : Nat), (x2 : Nat), [], []⟩, N.2) = parF bs (bs.getD 0 0 : Nat) ⟨1, 0⟩) := by show _ = _; rw [hb0]; exact hpar.symm
  obtain ⟨T, HT⟩ : ∃ T, Hid (T = takeP bs) := ⟨_, rfl⟩
  rw [← HT.out]
  have hc0 : w.cell? ⟨g, o, none⟩ = some (.int .u8 2) := by
    rcases hr.cells with h1 | ⟨g', o', h1, _, hc⟩
    · omega
    · simp only [Option.some.injEq, Addr.mk.injEq, and_true] at h1
      obtain ⟨rfl, rfl⟩ := h1
      have := hc 0 h0
      rw [hb0] at this
      exact this
  have hlen : (0 : Int) < (len : Int) := by omega
  have hlen1 : ¬ (len : Int) = 0 := by omega
  have HB0 : Hid (Below w.heap.size w (w.alloc (.cells #[.int .i64 0, .int .i64 0, .int .i64 0, .int .i64 0, .int .i64 0, .int .i64 0, .slice none 0 0, .slice none 0 0] 26))) := below_new _ _
  have HB1 : Hid (Below w.heap.size w ((w.alloc (.cells #[.int .i64 0, .int .i64 0, .int .i64 0, .int .i64 0, .int .i64 0, .int .i64 0, .slice none 0 0, .slice none 0 0] 26)).alloc (.cells #[.int .i64 2, .int .i64 0, .int .i64 0, .int .i64 0, .int .i64 0, .int .i64 0, .slice none 0 0, .slice none 0 0] 26))) := HB0.out.alloc HB0.out.size _
  have HB2 : Hid (Below w.heap.size w (((w.alloc (.cells #[.int .i64 0, .int .i64 0, .int .i64 0, .int .i64 0, .int .i64 0, .int .i64 0, .slice none 0 0, .slice none 0 0] 26)).alloc (.cells #[.int .i64 2, .int .i64 0, .int .i64 0, .int .i64 0, .int .i64 0, .int .i64 0, .slice none 0 0, .slice none 0 0] 26)).alloc (.cells #[] 3))) := HB1.out.alloc HB1.out.size _
  have hc1 : (w.alloc (.cells #[.int .i64 0, .int .i64 0, .int .i64 0, .int .i64 0, .int .i64 0, .int .i64 0, .slice none 0 0, .slice none 0 0] 26)).cell? ⟨g, o, none⟩ = some (.int .u8 2) := (HB0.out.cell (p := ⟨g, o, none⟩) (World.block_lt_of_cell? w _ hc0)).trans hc0
  have HS1 : Hid (((w.alloc (.cells #[.int .i64 0, .int .i64 0, .int .i64 0, .int .i64 0, .int .i64 0, .int .i64 0, .slice none 0 0, .slice none 0 0] 26)).alloc (.cells #[.int .i64 2, .int .i64 0, .int .i64 0, .int .i64 0, .int .i64 0, .int .i64 0, .slice none 0 0, .slice none 0 0] 26)).heap.size = w.heap.size + 2) := by show _ = _; simp
  have HK2 : Hid (Bk (((w.alloc (.cells #[.int .i64 0, .int .i64 0, .int .i64 0, .int .i64 0, .int .i64 0, .int .i64 0, .slice none 0 0, .slice none 0 0] 26)).alloc (.cells #[.int .i64 2, .int .i64 0, .int .i64 0, .int .i64 0, .int .i64 0, .int .i64 0, .slice none 0 0, .slice none 0 0] 26)).alloc (.cells #[] 3)) w.heap.size #[.int .i64 0, .int .i64 0, .int .i64 0, .int .i64 0, .int .i64 0, .int .i64 0, .slice none 0 0, .slice none 0 0] 26) := ((Bk.new w _ _).stay (below_new _ _)).stay (below_new _ _)
  have HP2 : Hid (Bk (((w.alloc (.cells #[.int .i64 0, .int .i64 0, .int .i64 0, .int .i64 0, .int .i64 0, .int .i64 0, .slice none 0 0, .slice none 0 0] 26)).alloc (.cells #[.int .i64 2, .int .i64 0, .int .i64 0, .int .i64 0, .int .i64 0, .int .i64 0, .slice none 0 0, .slice none 0 0] 26)).alloc (.cells #[] 3)) (w.heap.size + 1) #[.int .i64 2, .int .i64 0, .int .i64 0, .int .i64 0, .int .i64 0, .int .i64 0, .slice none 0 0, .slice none 0 0] 26) := by
    have h := Bk.new (w.alloc (.cells #[.int .i64 0, .int .i64 0, .int .i64 0, .int .i64 0, .int .i64 0, .int .i64 0, .slice none 0 0, .slice none 0 0] 26)) #[.int .i64 2, .int .i64 0, .int .i64 0, .int .i64 0, .int .i64 0, .int .i64 0, .slice none 0 0, .slice none 0 0] 26
    rw [show (w.alloc (.cells #[.int .i64 0, .int .i64 0, .int .i64 0, .int .i64 0, .int .i64 0, .int .i64 0, .slice none 0 0, .slice none 0 0] 26)).heap.size = w.heap.size + 1 from by simp] at h
    exact h.stay (below_new _ _)
  have HI2 : Hid (Ints (((w.alloc (.cells #[.int .i64 0, .int .i64 0, .int .i64 0, .int .i64 0, .int .i64 0, .int .i64 0, .slice none 0 0, .slice none 0 0] 26)).alloc (.cells #[.int .i64 2, .int .i64 0, .int .i64 0, .int .i64 0, .int .i64 0, .int .i64 0, .slice none 0 0, .slice none 0 0] 26)).alloc (.cells #[] 3)) (w.heap.size + 2) (.slice (some ⟨w.heap.size + 2, 0, none⟩) 0 0) []) := by
    have h := Ints.empty ((w.alloc (.cells #[.int .i64 0, .int .i64 0, .int .i64 0, .int .i64 0, .int .i64 0, .int .i64 0, .slice none 0 0, .slice none 0 0] 26)).alloc (.cells #[.int .i64 2, .int .i64 0, .int .i64 0, .int .i64 0, .int .i64 0, .int .i64 0, .slice none 0 0, .slice none 0 0] 26)) (w.heap.size + 2) (by rw [HS1.out]; exact Nat.le_refl _)
    rw [HS1.out] at h
    exact h
  have HTO : Hid (toB 2 = true) := rfl
  have HSU : Hid (subB 2 = false) := rfl
  have HFR : Hid (fromB 2 = true) := rfl
  clear hr hc0 hb0 hN hxs hpar h0 hlc
  go_enter Try.func18, Try.ntmps18
  go_wp2_with fail
  refine (ref_ranged 2 _).mono ?_
  rw [HTO.out]
  rintro e w' ⟨rfl, rfl⟩
  go_wp2_with fail
  refine (ref_named 2 _).mono ?_
  rw [HSU.out]
  rintro e w' ⟨rfl, rfl⟩
  go_wp2
  go_loopw [6, 7, 8] (fun t6 t7 t8 wr => ∃ (i : Nat) (v : Value) (l : List Nat) (x : Int), i ≤ 3 ∧ t8 = .int .i64 (i : Int) ∧ v = t6 ∧ t7 = .int .i64 x ∧ Hid (Ints wr (w.heap.size + 2) v l) ∧ Hid (l.length = i) ∧ Hid (numsF bs (3 - i) l ⟨x, 0⟩ = N) ∧ Hid (0 ≤ x ∧ x ≤ len) ∧ Hid (Bk wr w.heap.size #[.int .i64 0, .int .i64 0, .int .i64 0, .int .i64 0, .int .i64 0, .int .i64 0, .slice none 0 0, .slice none 0 0] 26) ∧ Hid (Bk wr (w.heap.size + 1) #[.int .i64 2, .int .i64 0, .int .i64 0, .int .i64 0, .int .i64 0, .int .i64 0, .slice none 0 0, .slice none 0 0] 26) ∧ Hid (Below w.heap.size w wr)) (fun _ _ t8 _ => 3 - (intOf t8).toNat)
  case atStart => exact ⟨0, _, [], 1, by omega, rfl, rfl, rfl, HI2, rfl, HNE, ⟨by omega, by omega⟩, HK2, HP2, HB2⟩
  case round =>
    obtain ⟨i, v, l, x, hi, rfl, rfl, rfl, HIr, HLr, HEr, HXr, HKr, HPr, HBr⟩ := hrel
    clear HI2 HK2 HP2 HB2 HNE hc1 HB0 HB1
    by_cases hlt : i < 3
    · have hlt' : (i : Int) < 3 := by omega
      obtain ⟨r, h1⟩ : ∃ r, r = numF bs 1099511627776 ⟨x, 0⟩ := ⟨_, rfl⟩
      have HE1 : Hid (r = numF bs 1099511627776 ⟨x, 0⟩) := h1
      have HF1 : Hid (r.2.fine bs) := by rw [h1]; exact numF_fine HBY.out
      have HE2 : Hid (numsF bs (3 - (i + 1)) (l ++ [r.1]) r.2 = N) := by show _ = _; rw [← HEr.out, show 3 - i = (3 - (i + 1)) + 1 from by omega, numsF, ← h1]
      have hl1 : r.1 ≤ 1099511627776 := by rw [h1]; exact numF_le _ _ _
      clear h1 HEr
      go_wp2_with fail
      refine (ref_upto (some ⟨g, o, none⟩) len cap bs x 1099511627776 wr (HR.out.below HBr.out) HL.out.2 HXr.out (by omega)).mono ?_
      rw [← HE1.out]
      rintro e w' ⟨ht, hw'⟩
      rw [hw']
      clear hw' w' HE1
      obtain ⟨n, s1⟩ := r
      obtain ⟨y, f⟩ := s1
      rcases ht.out with ⟨hf, he⟩ | ⟨hf, he⟩
      · simp only at hf he hl1 HE2 HF1
        subst he hf
        clear ht
        have HY : Hid (0 ≤ y ∧ y ≤ len) := by have h := HF1.out rfl; rw [HSZ.out] at h; exact h
        have HIa : Hid (Ints (wr.alloc (.cells #[.int .i64 (n : Int)] 3)) (w.heap.size + 2) v l) := HIr.out.stay (below_new _ _)
        have HNa : Hid ((wr.alloc (.cells #[.int .i64 (n : Int)] 3)).cell? ⟨wr.heap.size, 0, none⟩ = some (.int .i64 (n : Int))) := (Bk.new wr _ _).cell 0 rfl
        have HSa : Hid (w.heap.size + 2 ≤ wr.heap.size) := by have h1 := HPr.out.lt; show _ ≤ _; omega
        have hll : l.length ≤ 1000000 := by have := HLr.out; omega
        go_wp2_with (at_builtin; refine wpList_append_n rfl (.tmp 69) (.tmp 71) rfl (w.heap.size + 2) v l rfl HIa.out ⟨wr.heap.size, 0, none⟩ 1 n rfl HNa.out hll (Nat.le_trans HSa.out (by simp)) ?_)
        intro v' wb hib hbb
        have HIb : Hid (Ints wb (w.heap.size + 2) v' (l ++ [n])) := hib
        have HKb : Hid (Bk wb w.heap.size #[.int .i64 0, .int .i64 0, .int .i64 0, .int .i64 0, .int .i64 0, .int .i64 0, .slice none 0 0, .slice none 0 0] 26) := Bk.below (HKr.out.stay (below_new _ (.cells #[.int .i64 (n : Int)] 3))) hbb (by omega)
        have HPb : Hid (Bk wb (w.heap.size + 1) #[.int .i64 2, .int .i64 0, .int .i64 0, .int .i64 0, .int .i64 0, .int .i64 0, .slice none 0 0, .slice none 0 0] 26) := Bk.below (HPr.out.stay (below_new _ (.cells #[.int .i64 (n : Int)] 3))) hbb (by omega)
        have HBb : Hid (Below w.heap.size w wb) := (HBr.out.trans ((below_new wr (.cells #[.int .i64 (n : Int)] 3)).mono HBr.out.size)).trans (hbb.mono (by omega))
        have HLb : Hid ((l ++ [n]).length = i + 1) := by show _ = _; rw [List.length_append, HLr.out]; rfl
        clear hib hbb HIa HNa HIr HKr HPr HBr
        go_wp2
        go_roundw
        case rel => exact ⟨i + 1, v', _, y, by omega, by go_num, rfl, rfl, HIb, HLb, HE2, HY, HKb, HPb, HBb⟩
        case measure => simp [intOf]; omega
      · simp only at hf he HE2
        subst he
        have HTE : Hid (T = (Pc.zero, f)) := by
          have h1 := numsF_stop bs (3 - (i + 1)) (l ++ [n]) ⟨y, f⟩ hf
          rw [HE2.out] at h1
          have h2 := HT.out.trans (takeP_end HN0.out HIS.out HPAR.out (by rw [h1, endE_bad hf]; exact hf))
          rw [h1, endE_bad hf] at h2
          exact h2
        have hf' : (f == 0) = false := by simpa using hf
        have z0 : wr.cell? ⟨w.heap.size, 0, none⟩ = some (.int .i64 0) := HKr.out.cell 0 rfl
        have z1 : wr.cell? ⟨w.heap.size, 1, none⟩ = some (.int .i64 0) := HKr.out.cell 1 rfl
        have z2 : wr.cell? ⟨w.heap.size, 2, none⟩ = some (.int .i64 0) := HKr.out.cell 2 rfl
        have z3 : wr.cell? ⟨w.heap.size, 3, none⟩ = some (.int .i64 0) := HKr.out.cell 3 rfl
        have z4 : wr.cell? ⟨w.heap.size, 4, none⟩ = some (.int .i64 0) := HKr.out.cell 4 rfl
        have z5 : wr.cell? ⟨w.heap.size, 5, none⟩ = some (.int .i64 0) := HKr.out.cell 5 rfl
        have z6 : wr.cell? ⟨w.heap.size, 6, none⟩ = some (.slice none 0 0) := HKr.out.cell 6 rfl
        have z7 : wr.cell? ⟨w.heap.size, 7, none⟩ = some (.slice none 0 0) := HKr.out.cell 7 rfl
        have fz : ∀ i, wr.frozen? ⟨w.heap.size, i, none⟩ = false := fun i => HKr.out.free i
        clear HT ht
        go_wp2
        try simp only [Exit.inBlock, Exit.then]
        change bodyPost _ _ _ _ _ (set8 _ w.heap.size (.int .i64 0) (.int .i64 0) (.int .i64 0) (.int .i64 0) (.int .i64 0) (.int .i64 0) (.slice none 0 0) (.slice none 0 0))
        refine bodyPost_ret (results_parcel rfl (by rfl) (by rfl) (HKr.out.set8 (.int .i64 0) (.int .i64 0) (.int .i64 0) (.int .i64 0) (.int .i64 0) (.int .i64 0) (.slice none 0 0) (.slice none 0 0))) rfl ?_
        rw [HTE.out]
        exact ⟨TakeP13.bad _ _ _, set8_below HBr.out _ (Nat.le_refl _) (.int .i64 0) (.int .i64 0) (.int .i64 0) (.int .i64 0) (.int .i64 0) (.int .i64 0) (.slice none 0 0) (.slice none 0 0)⟩
    · have hnl : ¬ (i : Int) < 3 := by omega
      obtain rfl : i = 3 := by omega
      have HLN : Hid ((l, (⟨x, 0⟩ : Rs)) = N) := by have h := HEr.out; rw [Nat.sub_self, numsF] at h; exact h
      obtain rfl : l = [x0, x1, x2] := by have h := HXS.out; rw [← HLN.out] at h; exact h
      have HNS : Hid (N.2 = ⟨x, 0⟩) := by show _ = _; rw [← HLN.out]
      rw [HNS.out] at HPAR
      obtain ⟨gn, cn, hv, hgn, hcn⟩ := Ints.cell HIr.out (by simp)
      subst hv
      simp only [List.length_cons, List.length_nil, Nat.zero_add, Nat.reduceAdd]
      have HCN : Hid (∀ (i n : Nat), [x0, x1, x2][i]? = some n → wr.cell? ⟨gn, i, none⟩ = some (.int .i64 (n : Int))) := hcn
      have nn0 : wr.cell? ⟨gn, 0, none⟩ = some (.int .i64 (x0 : Int)) := hcn 0 x0 rfl
      have nn1 : wr.cell? ⟨gn, 1, none⟩ = some (.int .i64 (x1 : Int)) := hcn 1 x1 rfl
      have nn2 : wr.cell? ⟨gn, 2, none⟩ = some (.int .i64 (x2 : Int)) := hcn 2 x2 rfl
      have pP1 : wr.cell? ⟨w.heap.size + 1, 1, none⟩ = some (.int .i64 0) := HPr.out.cell 1 rfl
      have fP : ∀ i, wr.frozen? ⟨w.heap.size + 1, i, none⟩ = false := fun i => HPr.out.free i
      have hgne : gn ≠ w.heap.size + 1 := by omega
      clear hcn HEr HLN
      have hP1 : Bk (wr.setCell ⟨w.heap.size + 1, 1, none⟩ (.int .i64 (x0 : Int))) (w.heap.size + 1) #[.int .i64 2, .int .i64 (x0 : Int), .int .i64 0, .int .i64 0, .int .i64 0, .int .i64 0, .slice none 0 0, .slice none 0 0] 26 := bk_step HPr.out 1 _ rfl
      have HP1x : Hid (Bk (wr.setCell ⟨w.heap.size + 1, 1, none⟩ (.int .i64 (x0 : Int))) (w.heap.size + 1) #[.int .i64 2, .int .i64 (x0 : Int), .int .i64 0, .int .i64 0, .int .i64 0, .int .i64 0, .slice none 0 0, .slice none 0 0] 26) := hP1
      have hP2 : Bk ((wr.setCell ⟨w.heap.size + 1, 1, none⟩ (.int .i64 (x0 : Int))).setCell ⟨w.heap.size + 1, 4, none⟩ (.int .i64 (x1 : Int))) (w.heap.size + 1) #[.int .i64 2, .int .i64 (x0 : Int), .int .i64 0, .int .i64 0, .int .i64 (x1 : Int), .int .i64 0, .slice none 0 0, .slice none 0 0] 26 := bk_step hP1 4 _ rfl
      have HP2x : Hid (Bk ((wr.setCell ⟨w.heap.size + 1, 1, none⟩ (.int .i64 (x0 : Int))).setCell ⟨w.heap.size + 1, 4, none⟩ (.int .i64 (x1 : Int))) (w.heap.size + 1) #[.int .i64 2, .int .i64 (x0 : Int), .int .i64 0, .int .i64 0, .int .i64 (x1 : Int), .int .i64 0, .slice none 0 0, .slice none 0 0] 26) := hP2
      have hP3 : Bk (((wr.setCell ⟨w.heap.size + 1, 1, none⟩ (.int .i64 (x0 : Int))).setCell ⟨w.heap.size + 1, 4, none⟩ (.int .i64 (x1 : Int))).setCell ⟨w.heap.size + 1, 5, none⟩ (.int .i64 (x2 : Int))) (w.heap.size + 1) #[.int .i64 2, .int .i64 (x0 : Int), .int .i64 0, .int .i64 0, .int .i64 (x1 : Int), .int .i64 (x2 : Int), .slice none 0 0, .slice none 0 0] 26 := bk_step hP2 5 _ rfl
      have HP3x : Hid (Bk (((wr.setCell ⟨w.heap.size + 1, 1, none⟩ (.int .i64 (x0 : Int))).setCell ⟨w.heap.size + 1, 4, none⟩ (.int .i64 (x1 : Int))).setCell ⟨w.heap.size + 1, 5, none⟩ (.int .i64 (x2 : Int))) (w.heap.size + 1) #[.int .i64 2, .int .i64 (x0 : Int), .int .i64 0, .int .i64 0, .int .i64 (x1 : Int), .int .i64 (x2 : Int), .slice none 0 0, .slice none 0 0] 26) := hP3
      obtain ⟨w5, HW5⟩ : ∃ w5, Hid (w5 = (((wr.setCell ⟨w.heap.size + 1, 1, none⟩ (.int .i64 (x0 : Int))).setCell ⟨w.heap.size + 1, 4, none⟩ (.int .i64 (x1 : Int))).setCell ⟨w.heap.size + 1, 5, none⟩ (.int .i64 (x2 : Int)))) := ⟨_, rfl⟩
      have HP5 : Hid (Bk w5 (w.heap.size + 1) #[.int .i64 2, .int .i64 (x0 : Int), .int .i64 0, .int .i64 0, .int .i64 (x1 : Int), .int .i64 (x2 : Int), .slice none 0 0, .slice none 0 0] 26) := by rw [HW5.out]; exact hP3
      have HB5 : Hid (Below w.heap.size w w5) := by rw [HW5.out]; exact (((HBr.out.setCell (by show _ ≤ w.heap.size + 1; omega) _).setCell (by show _ ≤ w.heap.size + 1; omega) _).setCell (by show _ ≤ w.heap.size + 1; omega) _)
      have HK5 : Hid (Bk w5 w.heap.size #[.int .i64 0, .int .i64 0, .int .i64 0, .int .i64 0, .int .i64 0, .int .i64 0, .slice none 0 0, .slice none 0 0] 26) := by rw [HW5.out]; exact (Bk.other (Bk.other (Bk.other HKr.out _ _ (by show w.heap.size ≠ w.heap.size + 1; omega)) _ _ (by show w.heap.size ≠ w.heap.size + 1; omega)) _ _ (by show w.heap.size ≠ w.heap.size + 1; omega))
      have a0 : wr.cell? ⟨w.heap.size + 1, 1, none⟩ = some (.int .i64 0) := HPr.out.cell 1 rfl
      have k0 : wr.cell? ⟨w.heap.size + 1, 0, none⟩ = some (.int .i64 2) := HPr.out.cell 0 rfl
      have a1 : (wr.setCell ⟨w.heap.size + 1, 1, none⟩ (.int .i64 (x0 : Int))).cell? ⟨w.heap.size + 1, 4, none⟩ = some (.int .i64 0) := hP1.cell 4 rfl
      have k1 : (wr.setCell ⟨w.heap.size + 1, 1, none⟩ (.int .i64 (x0 : Int))).cell? ⟨w.heap.size + 1, 0, none⟩ = some (.int .i64 2) := hP1.cell 0 rfl
      have a2 : ((wr.setCell ⟨w.heap.size + 1, 1, none⟩ (.int .i64 (x0 : Int))).setCell ⟨w.heap.size + 1, 4, none⟩ (.int .i64 (x1 : Int))).cell? ⟨w.heap.size + 1, 5, none⟩ = some (.int .i64 0) := hP2.cell 5 rfl
      have k2 : ((wr.setCell ⟨w.heap.size + 1, 1, none⟩ (.int .i64 (x0 : Int))).setCell ⟨w.heap.size + 1, 4, none⟩ (.int .i64 (x1 : Int))).cell? ⟨w.heap.size + 1, 0, none⟩ = some (.int .i64 2) := hP2.cell 0 rfl
      have k3 : (((wr.setCell ⟨w.heap.size + 1, 1, none⟩ (.int .i64 (x0 : Int))).setCell ⟨w.heap.size + 1, 4, none⟩ (.int .i64 (x1 : Int))).setCell ⟨w.heap.size + 1, 5, none⟩ (.int .i64 (x2 : Int))).cell? ⟨w.heap.size + 1, 0, none⟩ = some (.int .i64 2) := hP3.cell 0 rfl
      clear hP1 hP2 hP3 pP1
      go_wp2_with fail
      refine (ref_ranged 2 _).mono ?_
      rw [HTO.out]
      rintro e w' ⟨rfl, hw'⟩
      rw [hw']
      clear hw' w'
      have HFX : Hid (takeP bs = T) := HT.out.symm
      clear HT
      by_cases hxl : x = (len : Int)
      · have hxl' : (x == (len : Int)) = true := by simpa using hxl
        have HEN : Hid (endE bs ⟨x, 0⟩ = 0) := by show _ = _; rw [endE, if_neg (fun h => h.2 (by show x = _; rw [HSZ.out]; exact hxl))]
        obtain ⟨C, hC⟩ : ∃ C, C = chk ⟨2, (x0 : Nat), 0, 0, (x1 : Nat), (x2 : Nat), [], []⟩ := ⟨_, rfl⟩
        have HCC : Hid (C = chk ⟨2, (x0 : Nat), 0, 0, (x1 : Nat), (x2 : Nat), [], []⟩) := hC
        have HPR : Hid (PcRd w5 ⟨2, (x0 : Nat), 0, 0, (x1 : Nat), (x2 : Nat), [], []⟩ none 0 0 none 0 0) := ⟨⟨rfl, .inl rfl⟩, ⟨rfl, .inl rfl, fun q hq => by cases hq⟩, by omega, by omega, by omega, by omega⟩
        have hcc := ref_Check ⟨2, (x0 : Nat), 0, 0, (x1 : Nat), (x2 : Nat), [], []⟩ none 0 0 none 0 0 w5 HPR.out
        rw [← hC] at hcc
        have HCK : Hid (Calls Try.prog 11 #[Pc.val ⟨2, (x0 : Nat), 0, 0, (x1 : Nat), (x2 : Nat), [], []⟩ none 0 0 none 0 0] w5 fun e w' => e = .returned (.int .i64 C) ∧ Below w5.heap.size w5 w') := hcc
        clear hC hcc
        have p0 : (((wr.setCell ⟨w.heap.size + 1, 1, none⟩ (.int .i64 (x0 : Int))).setCell ⟨w.heap.size + 1, 4, none⟩ (.int .i64 (x1 : Int))).setCell ⟨w.heap.size + 1, 5, none⟩ (.int .i64 (x2 : Int))).cell? ⟨w.heap.size + 1, 0, none⟩ = some (.int .i64 2) := by rw [← HW5.out]; exact HP5.out.cell 0 rfl
        have p1 : (((wr.setCell ⟨w.heap.size + 1, 1, none⟩ (.int .i64 (x0 : Int))).setCell ⟨w.heap.size + 1, 4, none⟩ (.int .i64 (x1 : Int))).setCell ⟨w.heap.size + 1, 5, none⟩ (.int .i64 (x2 : Int))).cell? ⟨w.heap.size + 1, 1, none⟩ = some (.int .i64 (x0 : Int)) := by rw [← HW5.out]; exact HP5.out.cell 1 rfl
        have p2 : (((wr.setCell ⟨w.heap.size + 1, 1, none⟩ (.int .i64 (x0 : Int))).setCell ⟨w.heap.size + 1, 4, none⟩ (.int .i64 (x1 : Int))).setCell ⟨w.heap.size + 1, 5, none⟩ (.int .i64 (x2 : Int))).cell? ⟨w.heap.size + 1, 2, none⟩ = some (.int .i64 0) := by rw [← HW5.out]; exact HP5.out.cell 2 rfl
        have p3 : (((wr.setCell ⟨w.heap.size + 1, 1, none⟩ (.int .i64 (x0 : Int))).setCell ⟨w.heap.size + 1, 4, none⟩ (.int .i64 (x1 : Int))).setCell ⟨w.heap.size + 1, 5, none⟩ (.int .i64 (x2 : Int))).cell? ⟨w.heap.size + 1, 3, none⟩ = some (.int .i64 0) := by rw [← HW5.out]; exact HP5.out.cell 3 rfl
        have p4 : (((wr.setCell ⟨w.heap.size + 1, 1, none⟩ (.int .i64 (x0 : Int))).setCell ⟨w.heap.size + 1, 4, none⟩ (.int .i64 (x1 : Int))).setCell ⟨w.heap.size + 1, 5, none⟩ (.int .i64 (x2 : Int))).cell? ⟨w.heap.size + 1, 4, none⟩ = some (.int .i64 (x1 : Int)) := by rw [← HW5.out]; exact HP5.out.cell 4 rfl
        have p5 : (((wr.setCell ⟨w.heap.size + 1, 1, none⟩ (.int .i64 (x0 : Int))).setCell ⟨w.heap.size + 1, 4, none⟩ (.int .i64 (x1 : Int))).setCell ⟨w.heap.size + 1, 5, none⟩ (.int .i64 (x2 : Int))).cell? ⟨w.heap.size + 1, 5, none⟩ = some (.int .i64 (x2 : Int)) := by rw [← HW5.out]; exact HP5.out.cell 5 rfl
        have p6 : (((wr.setCell ⟨w.heap.size + 1, 1, none⟩ (.int .i64 (x0 : Int))).setCell ⟨w.heap.size + 1, 4, none⟩ (.int .i64 (x1 : Int))).setCell ⟨w.heap.size + 1, 5, none⟩ (.int .i64 (x2 : Int))).cell? ⟨w.heap.size + 1, 6, none⟩ = some (.slice none 0 0) := by rw [← HW5.out]; exact HP5.out.cell 6 rfl
        have p7 : (((wr.setCell ⟨w.heap.size + 1, 1, none⟩ (.int .i64 (x0 : Int))).setCell ⟨w.heap.size + 1, 4, none⟩ (.int .i64 (x1 : Int))).setCell ⟨w.heap.size + 1, 5, none⟩ (.int .i64 (x2 : Int))).cell? ⟨w.heap.size + 1, 7, none⟩ = some (.slice none 0 0) := by rw [← HW5.out]; exact HP5.out.cell 7 rfl
        go_wp2_with fail
        rw [← HW5.out]
        refine HCK.out.mono ?_
        rintro e w6 ⟨he, hb6⟩
        subst he
        have HB6 : Hid (Below w.heap.size w w6) := HB5.out.trans (hb6.mono HB5.out.size)
        have HK6 : Hid (Bk w6 w.heap.size #[.int .i64 0, .int .i64 0, .int .i64 0, .int .i64 0, .int .i64 0, .int .i64 0, .slice none 0 0, .slice none 0 0] 26) := HK5.out.stay hb6
        have HP6 : Hid (Bk w6 (w.heap.size + 1) #[.int .i64 2, .int .i64 (x0 : Int), .int .i64 0, .int .i64 0, .int .i64 (x1 : Int), .int .i64 (x2 : Int), .slice none 0 0, .slice none 0 0] 26) := HP5.out.stay hb6
        clear hb6 HCK HPR p0 p1 p2 p3 p4 p5 p6 p7 a0 k0 a1 k1 a2 k2 k3 nn0 nn1 nn2
        have z0 : w6.cell? ⟨w.heap.size, 0, none⟩ = some (.int .i64 0) := HK6.out.cell 0 rfl
        have z1 : w6.cell? ⟨w.heap.size, 1, none⟩ = some (.int .i64 0) := HK6.out.cell 1 rfl
        have z2 : w6.cell? ⟨w.heap.size, 2, none⟩ = some (.int .i64 0) := HK6.out.cell 2 rfl
        have z3 : w6.cell? ⟨w.heap.size, 3, none⟩ = some (.int .i64 0) := HK6.out.cell 3 rfl
        have z4 : w6.cell? ⟨w.heap.size, 4, none⟩ = some (.int .i64 0) := HK6.out.cell 4 rfl
        have z5 : w6.cell? ⟨w.heap.size, 5, none⟩ = some (.int .i64 0) := HK6.out.cell 5 rfl
        have z6 : w6.cell? ⟨w.heap.size, 6, none⟩ = some (.slice none 0 0) := HK6.out.cell 6 rfl
        have z7 : w6.cell? ⟨w.heap.size, 7, none⟩ = some (.slice none 0 0) := HK6.out.cell 7 rfl
        have fz : ∀ i, w6.frozen? ⟨w.heap.size, i, none⟩ = false := fun i => HK6.out.free i
        by_cases hC0 : C = 0
        · have HTE : Hid (T = (⟨2, (x0 : Nat), 0, 0, (x1 : Nat), (x2 : Nat), [], []⟩, 0)) := HFX.out.symm.trans (takeP_ok HN0.out HIS.out HPAR.out HEN.out (by rw [← HCC.out]; exact hC0))
          subst hC0
          have p0 : w6.cell? ⟨w.heap.size + 1, 0, none⟩ = some (.int .i64 2) := HP6.out.cell 0 rfl
          have p1 : w6.cell? ⟨w.heap.size + 1, 1, none⟩ = some (.int .i64 (x0 : Int)) := HP6.out.cell 1 rfl
          have p2 : w6.cell? ⟨w.heap.size + 1, 2, none⟩ = some (.int .i64 0) := HP6.out.cell 2 rfl
          have p3 : w6.cell? ⟨w.heap.size + 1, 3, none⟩ = some (.int .i64 0) := HP6.out.cell 3 rfl
          have p4 : w6.cell? ⟨w.heap.size + 1, 4, none⟩ = some (.int .i64 (x1 : Int)) := HP6.out.cell 4 rfl
          have p5 : w6.cell? ⟨w.heap.size + 1, 5, none⟩ = some (.int .i64 (x2 : Int)) := HP6.out.cell 5 rfl
          have p6 : w6.cell? ⟨w.heap.size + 1, 6, none⟩ = some (.slice none 0 0) := HP6.out.cell 6 rfl
          have p7 : w6.cell? ⟨w.heap.size + 1, 7, none⟩ = some (.slice none 0 0) := HP6.out.cell 7 rfl
          go_wp2
          try simp only [Exit.inBlock, Exit.then]
          change bodyPost _ _ _ _ _ (set8 _ w.heap.size (.int .i64 2) (.int .i64 (x0 : Int)) (.int .i64 0) (.int .i64 0) (.int .i64 (x1 : Int)) (.int .i64 (x2 : Int)) (.slice none 0 0) (.slice none 0 0))
          refine bodyPost_ret (results_parcel rfl (by rfl) (by rfl) (HK6.out.set8 (.int .i64 2) (.int .i64 (x0 : Int)) (.int .i64 0) (.int .i64 0) (.int .i64 (x1 : Int)) (.int .i64 (x2 : Int)) (.slice none 0 0) (.slice none 0 0))) rfl ?_
          rw [HTE.out]
          exact ⟨⟨none, 0, 0, none, 0, 0, [], rfl, Sps.nil_ _ _, Its.nil_ _ _, rfl⟩, set8_below HB6.out _ (Nat.le_refl _) (.int .i64 2) (.int .i64 (x0 : Int)) (.int .i64 0) (.int .i64 0) (.int .i64 (x1 : Int)) (.int .i64 (x2 : Int)) (.slice none 0 0) (.slice none 0 0)⟩
        · have HTE : Hid (T = (Pc.zero, C)) := by
            have h := HFX.out.symm.trans (takeP_chk HN0.out HIS.out HPAR.out HEN.out (by rw [← HCC.out]; exact hC0))
            rw [← HCC.out] at h
            exact h
          have hC1 : (C == 0) = false := by simpa using hC0
          go_wp2
          try simp only [Exit.inBlock, Exit.then]
          change bodyPost _ _ _ _ _ (set8 _ w.heap.size (.int .i64 0) (.int .i64 0) (.int .i64 0) (.int .i64 0) (.int .i64 0) (.int .i64 0) (.slice none 0 0) (.slice none 0 0))
          refine bodyPost_ret (results_parcel rfl (by rfl) (by rfl) (HK6.out.set8 (.int .i64 0) (.int .i64 0) (.int .i64 0) (.int .i64 0) (.int .i64 0) (.int .i64 0) (.slice none 0 0) (.slice none 0 0))) rfl ?_
          rw [HTE.out]
          exact ⟨TakeP13.bad _ _ _, set8_below HB6.out _ (Nat.le_refl _) (.int .i64 0) (.int .i64 0) (.int .i64 0) (.int .i64 0) (.int .i64 0) (.int .i64 0) (.slice none 0 0) (.slice none 0 0)⟩
      · have hxl2 : (x == (len : Int)) = false := by simpa using hxl
        have hxl3 : (x != (len : Int)) = true := by simpa using hxl
        have HTE : Hid (T = (Pc.zero, 4)) := by
          have hE : endE bs ⟨x, 0⟩ = 4 := by rw [endE, if_pos ⟨rfl, by show x ≠ _; rw [HSZ.out]; exact hxl⟩]
          have h := HFX.out.symm.trans (takeP_end HN0.out HIS.out HPAR.out (by rw [hE]; decide))
          rw [hE] at h
          exact h
        have z0 : (((wr.setCell ⟨w.heap.size + 1, 1, none⟩ (.int .i64 (x0 : Int))).setCell ⟨w.heap.size + 1, 4, none⟩ (.int .i64 (x1 : Int))).setCell ⟨w.heap.size + 1, 5, none⟩ (.int .i64 (x2 : Int))).cell? ⟨w.heap.size, 0, none⟩ = some (.int .i64 0) := (show Bk (((wr.setCell ⟨w.heap.size + 1, 1, none⟩ (.int .i64 (x0 : Int))).setCell ⟨w.heap.size + 1, 4, none⟩ (.int .i64 (x1 : Int))).setCell ⟨w.heap.size + 1, 5, none⟩ (.int .i64 (x2 : Int))) w.heap.size #[.int .i64 0, .int .i64 0, .int .i64 0, .int .i64 0, .int .i64 0, .int .i64 0, .slice none 0 0, .slice none 0 0] 26 from by rw [← HW5.out]; exact HK5.out).cell 0 rfl
        have z1 : (((wr.setCell ⟨w.heap.size + 1, 1, none⟩ (.int .i64 (x0 : Int))).setCell ⟨w.heap.size + 1, 4, none⟩ (.int .i64 (x1 : Int))).setCell ⟨w.heap.size + 1, 5, none⟩ (.int .i64 (x2 : Int))).cell? ⟨w.heap.size, 1, none⟩ = some (.int .i64 0) := (show Bk (((wr.setCell ⟨w.heap.size + 1, 1, none⟩ (.int .i64 (x0 : Int))).setCell ⟨w.heap.size + 1, 4, none⟩ (.int .i64 (x1 : Int))).setCell ⟨w.heap.size + 1, 5, none⟩ (.int .i64 (x2 : Int))) w.heap.size #[.int .i64 0, .int .i64 0, .int .i64 0, .int .i64 0, .int .i64 0, .int .i64 0, .slice none 0 0, .slice none 0 0] 26 from by rw [← HW5.out]; exact HK5.out).cell 1 rfl
        have z2 : (((wr.setCell ⟨w.heap.size + 1, 1, none⟩ (.int .i64 (x0 : Int))).setCell ⟨w.heap.size + 1, 4, none⟩ (.int .i64 (x1 : Int))).setCell ⟨w.heap.size + 1, 5, none⟩ (.int .i64 (x2 : Int))).cell? ⟨w.heap.size, 2, none⟩ = some (.int .i64 0) := (show Bk (((wr.setCell ⟨w.heap.size + 1, 1, none⟩ (.int .i64 (x0 : Int))).setCell ⟨w.heap.size + 1, 4, none⟩ (.int .i64 (x1 : Int))).setCell ⟨w.heap.size + 1, 5, none⟩ (.int .i64 (x2 : Int))) w.heap.size #[.int .i64 0, .int .i64 0, .int .i64 0, .int .i64 0, .int .i64 0, .int .i64 0, .slice none 0 0, .slice none 0 0] 26 from by rw [← HW5.out]; exact HK5.out).cell 2 rfl
        have z3 : (((wr.setCell ⟨w.heap.size + 1, 1, none⟩ (.int .i64 (x0 : Int))).setCell ⟨w.heap.size + 1, 4, none⟩ (.int .i64 (x1 : Int))).setCell ⟨w.heap.size + 1, 5, none⟩ (.int .i64 (x2 : Int))).cell? ⟨w.heap.size, 3, none⟩ = some (.int .i64 0) := (show Bk (((wr.setCell ⟨w.heap.size + 1, 1, none⟩ (.int .i64 (x0 : Int))).setCell ⟨w.heap.size + 1, 4, none⟩ (.int .i64 (x1 : Int))).setCell ⟨w.heap.size + 1, 5, none⟩ (.int .i64 (x2 : Int))) w.heap.size #[.int .i64 0, .int .i64 0, .int .i64 0, .int .i64 0, .int .i64 0, .int .i64 0, .slice none 0 0, .slice none 0 0] 26 from by rw [← HW5.out]; exact HK5.out).cell 3 rfl
        have z4 : (((wr.setCell ⟨w.heap.size + 1, 1, none⟩ (.int .i64 (x0 : Int))).setCell ⟨w.heap.size + 1, 4, none⟩ (.int .i64 (x1 : Int))).setCell ⟨w.heap.size + 1, 5, none⟩ (.int .i64 (x2 : Int))).cell? ⟨w.heap.size, 4, none⟩ = some (.int .i64 0) := (show Bk (((wr.setCell ⟨w.heap.size + 1, 1, none⟩ (.int .i64 (x0 : Int))).setCell ⟨w.heap.size + 1, 4, none⟩ (.int .i64 (x1 : Int))).setCell ⟨w.heap.size + 1, 5, none⟩ (.int .i64 (x2 : Int))) w.heap.size #[.int .i64 0, .int .i64 0, .int .i64 0, .int .i64 0, .int .i64 0, .int .i64 0, .slice none 0 0, .slice none 0 0] 26 from by rw [← HW5.out]; exact HK5.out).cell 4 rfl
        have z5 : (((wr.setCell ⟨w.heap.size + 1, 1, none⟩ (.int .i64 (x0 : Int))).setCell ⟨w.heap.size + 1, 4, none⟩ (.int .i64 (x1 : Int))).setCell ⟨w.heap.size + 1, 5, none⟩ (.int .i64 (x2 : Int))).cell? ⟨w.heap.size, 5, none⟩ = some (.int .i64 0) := (show Bk (((wr.setCell ⟨w.heap.size + 1, 1, none⟩ (.int .i64 (x0 : Int))).setCell ⟨w.heap.size + 1, 4, none⟩ (.int .i64 (x1 : Int))).setCell ⟨w.heap.size + 1, 5, none⟩ (.int .i64 (x2 : Int))) w.heap.size #[.int .i64 0, .int .i64 0, .int .i64 0, .int .i64 0, .int .i64 0, .int .i64 0, .slice none 0 0, .slice none 0 0] 26 from by rw [← HW5.out]; exact HK5.out).cell 5 rfl
        have z6 : (((wr.setCell ⟨w.heap.size + 1, 1, none⟩ (.int .i64 (x0 : Int))).setCell ⟨w.heap.size + 1, 4, none⟩ (.int .i64 (x1 : Int))).setCell ⟨w.heap.size + 1, 5, none⟩ (.int .i64 (x2 : Int))).cell? ⟨w.heap.size, 6, none⟩ = some (.slice none 0 0) := (show Bk (((wr.setCell ⟨w.heap.size + 1, 1, none⟩ (.int .i64 (x0 : Int))).setCell ⟨w.heap.size + 1, 4, none⟩ (.int .i64 (x1 : Int))).setCell ⟨w.heap.size + 1, 5, none⟩ (.int .i64 (x2 : Int))) w.heap.size #[.int .i64 0, .int .i64 0, .int .i64 0, .int .i64 0, .int .i64 0, .int .i64 0, .slice none 0 0, .slice none 0 0] 26 from by rw [← HW5.out]; exact HK5.out).cell 6 rfl
        have z7 : (((wr.setCell ⟨w.heap.size + 1, 1, none⟩ (.int .i64 (x0 : Int))).setCell ⟨w.heap.size + 1, 4, none⟩ (.int .i64 (x1 : Int))).setCell ⟨w.heap.size + 1, 5, none⟩ (.int .i64 (x2 : Int))).cell? ⟨w.heap.size, 7, none⟩ = some (.slice none 0 0) := (show Bk (((wr.setCell ⟨w.heap.size + 1, 1, none⟩ (.int .i64 (x0 : Int))).setCell ⟨w.heap.size + 1, 4, none⟩ (.int .i64 (x1 : Int))).setCell ⟨w.heap.size + 1, 5, none⟩ (.int .i64 (x2 : Int))) w.heap.size #[.int .i64 0, .int .i64 0, .int .i64 0, .int .i64 0, .int .i64 0, .int .i64 0, .slice none 0 0, .slice none 0 0] 26 from by rw [← HW5.out]; exact HK5.out).cell 7 rfl
        have fz : ∀ i, (((wr.setCell ⟨w.heap.size + 1, 1, none⟩ (.int .i64 (x0 : Int))).setCell ⟨w.heap.size + 1, 4, none⟩ (.int .i64 (x1 : Int))).setCell ⟨w.heap.size + 1, 5, none⟩ (.int .i64 (x2 : Int))).frozen? ⟨w.heap.size, i, none⟩ = false := fun i => (show Bk (((wr.setCell ⟨w.heap.size + 1, 1, none⟩ (.int .i64 (x0 : Int))).setCell ⟨w.heap.size + 1, 4, none⟩ (.int .i64 (x1 : Int))).setCell ⟨w.heap.size + 1, 5, none⟩ (.int .i64 (x2 : Int))) w.heap.size #[.int .i64 0, .int .i64 0, .int .i64 0, .int .i64 0, .int .i64 0, .int .i64 0, .slice none 0 0, .slice none 0 0] 26 from by rw [← HW5.out]; exact HK5.out).free i
        go_wp2
        try simp only [Exit.inBlock, Exit.then]
        rw [← HW5.out]
        try simp only [Exit.inBlock, Exit.then]
        change bodyPost _ _ _ _ _ (set8 _ w.heap.size (.int .i64 0) (.int .i64 0) (.int .i64 0) (.int .i64 0) (.int .i64 0) (.int .i64 0) (.slice none 0 0) (.slice none 0 0))
        refine bodyPost_ret (results_parcel rfl (by rfl) (by rfl) (HK5.out.set8 (.int .i64 0) (.int .i64 0) (.int .i64 0) (.int .i64 0) (.int .i64 0) (.int .i64 0) (.slice none 0 0) (.slice none 0 0))) rfl ?_
        rw [HTE.out]
        exact ⟨TakeP13.bad _ _ _, set8_below HB5.out _ (Nat.le_refl _) (.int .i64 0) (.int .i64 0) (.int .i64 0) (.int .i64 0) (.int .i64 0) (.int .i64 0) (.slice none 0 0) (.slice none 0 0)⟩

end Go.Proofs.Ytmpljoljpgbamaa
