/- The reference's disk: Write. -/
import Derived.Test.YthpjaidgacenoaaQRk2
namespace Go.Proofs.Ythpjaidgacenoaa
open Go.RowKit

theorem infoPut : (Try.prog.info? 104).map (fun i => (i.zero, i.size, i.bytes)) = some (some (.agg #[.int .i64 0, .slice none 0 0]), 2, 32) := by kernel_rfl
theorem wpList_append_put {w : World} {ops : Array Oper} {rest : List Oper} {o : Oper} {act : Act} {Q : Exit → Act → World → Prop} (hgd : o.guard = none) (s x : Operand)
    (ho : o.op = .call { callee := .builtin .append, args := #[s, x], argTypes := #[72, 72] })
    (base : Nat) (v : Value) (n : Nat) (WV : List Value) (hs : act.eval s = v) (hown : w.ownsRow base 104 2 v n WV) (k c : Nat) (i : Int) (a : Option Addr) (l cp : Nat) (hx : act.eval x = .slice (some ⟨k, 0, none⟩) 1 c)
    (hb : Blk w k #[.int .i64 i, .slice a l cp] 104) (hl : n < 1000000000) (hbase : base ≤ w.heap.size)
    (h : ∀ v' w', w'.ownsRow base 104 2 v' (n + 1) (WV ++ [.int .i64 i, .slice a l cp]) → w.grownBy w' v.ownBlock → wpList Try.prog ops Q rest (act.put o.dst v') w') : wpList Try.prog ops Q (o :: rest) act w := by
  obtain ⟨i0, hi, hz0, hz1, hz2⟩ := info_parts infoPut
  refine wpList_append_own w hgd s x 72 ho base 104 i0 (.agg #[.int .i64 0, .slice none 0 0]) 2 32 Try.underlying72 hi hz0 hz1 hz2 (by rfl) (by decide) v n WV hs hown ⟨k, 0, none⟩ 1 c [.int .i64 i, .slice a l cp] hx (by rfl) (fun j u hj => ?_) (fun u hu => ?_) (by unfold maxLen; omega) (by omega) hbase fun v' w' h1 h2 _ => h v' w' h1 h2
  · have e : (⟨k, 0, none⟩ : Addr).add j = ⟨k, 0 + j, none⟩ := by unfold Addr.add; split <;> simp_all
    rw [e, Nat.zero_add]
    exact hb.cell j (by simpa using hj)
  · simp only [List.mem_cons, List.not_mem_nil, or_false] at hu
    rcases hu with rfl | rfl <;> rfl
/-- A write more waits. -/
theorem Rk.wrote {w w' : World} {base r q : Nat} {sv wv v' : Value} {SV WV : List Value} {D : Dk} (h : Rk w base r q sv wv SV WV D) (p : Nat × List Nat) {bv : Value} (hp : Byt w q bv p.2) (hi : p.1 < D.sure.length) (hl : D.waits.length < 1000000000)
    (ho : w'.ownsRow base 104 2 v' (D.waits.length + 1) (WV ++ [.int .i64 (p.1 : Int), bv])) (hg : w.grownBy w' wv.ownBlock) : Rk (w'.setCell ⟨r, 1, none⟩ v') base r q sv v' SV (WV ++ [.int .i64 (p.1 : Int), bv]) { D with waits := D.waits ++ [p] } ∧ Mr w (w'.setCell ⟨r, 1, none⟩ v') base := by
  obtain ⟨a1, a2⟩ := h.apart
  have hbs : base ≤ w.heap.size := Nat.le_trans h.br (Nat.le_of_lt h.blk.lt)
  have k1 : Blk w' r _ 74 := h.blk.grown hg a2
  have hc := grown_cell w' r 1 v'
  have m1 := Mr.of_own (.inr rfl) h.wrow hg hbs
  have m2 := Mr.of_cell k1 h.br hc
  have m := m1.trans m2
  have s1 : w'.ownsRow base 30 1 sv D.sure.length SV := own_type h.srow (fun k cs hk => by rw [hg.block k (heap_lt hk) (own_ne' h.wrow hk (by decide))]; exact hk)
  have s2 : (w'.setCell ⟨r, 1, none⟩ v').ownsRow base 30 1 sv D.sure.length SV := own_type s1 (fun k cs hk => by rw [hc.block k (heap_lt hk) (fun e => by simp only [Option.some.injEq] at e; exact blk_ne hk k1 (by decide) e)]; exact hk)
  have s3 : (w'.setCell ⟨r, 1, none⟩ v').ownsRow base 104 2 v' (D.waits.length + 1) (WV ++ [.int .i64 (p.1 : Int), bv]) := own_type ho (fun k cs hk => by rw [hc.block k (heap_lt hk) (fun e => by simp only [Option.some.injEq] at e; exact blk_ne hk k1 (by decide) e)]; exact hk)
  have hmv : ∀ (k : Nat) cur, w.heap[k]? = some (.cells cur 5 (0, 0)) → k ≠ q → (w'.setCell ⟨r, 1, none⟩ v').heap[k]? = some (.cells cur 5 (0, 0)) := fun k cur hk _ => m.block k cur _ _ hk (by decide) (by decide) (by decide)
  have hwl : WV.length = D.waits.length * 2 := h.wrow.1
  refine ⟨⟨k1.set 1 v', s2, by simpa using s3, h.br, h.s1, h.sz, fun i s hs => (h.each i s hs).imp fun _ hv => ⟨hv.1, hv.2.move hmv⟩, fun i p' hp' => ?_, h.tr, h.ag, by simp; omega⟩, m⟩
  simp only at hp'
  by_cases hil : i < D.waits.length
  · rw [List.getElem?_append_left hil] at hp'
    obtain ⟨g0, g1, v, g2, g3⟩ := h.puts i p' hp'
    exact ⟨g0, by rw [List.getElem?_append_left (by omega)]; exact g1, v, by rw [List.getElem?_append_left (by omega)]; exact g2, g3.move hmv⟩
  · have hl2 := (List.getElem?_eq_some_iff.1 hp').1
    rw [List.length_append, List.length_singleton] at hl2
    obtain rfl : i = D.waits.length := by omega
    rw [List.getElem?_append_right (Nat.le_refl _), Nat.sub_self, List.getElem?_cons_zero, Option.some.injEq] at hp'
    subst hp'
    refine ⟨hi, ?_, bv, ?_, hp.move hmv⟩
    · rw [List.getElem?_append_right (by omega), hwl, Nat.sub_self]; rfl
    · rw [List.getElem?_append_right (by omega), hwl, show D.waits.length * 2 + 1 - D.waits.length * 2 = 1 from by omega]; rfl

set_option maxRecDepth 100000 in
set_option maxHeartbeats 2000000 in
theorem ref_Write (w : World) (base r q : Nat) (sv wv : Value) (SV WV : List Value) (D : Dk) (i : Int) (a : Option Addr) (len cap : Nat) (bs : List Nat) (h : Rk w base r q sv wv SV WV D) (hq : q < w.heap.size) (hr0 : ∀ w', Mr w w' base → Rd w' a len bs) (hmc : a = none → cap = 0) (hl : len ≤ 9223372036854775807) (hw : D.waits.length < 1000000000) :
    Calls Try.prog 40 #[.pointer (some ⟨r, 0, none⟩), .int .i64 i, .slice a len cap] w fun e w' => e = .returned (.int .i64 (writeE D i bs)) ∧ Hid (∃ wv' WV', Rk w' base r q sv wv' SV WV' (writeD D i bs)) ∧ Mr w w' base := by
  have HD : Hid (Rk w base r q sv wv SV WV D) := h
  have HRR : Hid (∀ w', Mr w w' base → Rd w' a len bs) := hr0
  have hr := hr0 w (Mr.refl _ _)
  have HBS : Hid (base ≤ w.heap.size) := Nat.le_trans h.br (Nat.le_of_lt h.blk.lt)
  have c3 : w.cell? ⟨r, 3, none⟩ = some (.bool D.down) := h.blk.cell 3 rfl
  obtain ⟨R, HX⟩ : ∃ R, Hid (R = writeE D i bs) := ⟨_, rfl⟩
  obtain ⟨D', HY⟩ : ∃ D', Hid (D' = writeD D i bs) := ⟨_, rfl⟩
  rw [← HX.out, ← HY.out]
  have HSZ : Hid (bs.length = len) := hr.size
  have HBY : Hid (∀ b ∈ bs, b < 256) := hr.byte
  have HQ : Hid (q < w.heap.size) := hq
  have HMC : Hid (a = none → cap = 0) := hmc
  clear h hr hr0 hq hmc
  cases hd : D.down with
  | true =>
    rw [hd] at c3
    have HE : Hid (R = 10 ∧ D' = D) := ⟨by rw [HX.out, writeE, if_pos hd], by rw [HY.out, writeD, if_pos hd]⟩
    clear hd
    go_enter Try.func40, Try.ntmps40
    go_wp2
    go_ret
    exact ⟨by rw [HE.out.1]; rfl, ⟨wv, WV, by rw [HE.out.2]; exact HD.out⟩, Mr.refl _ _⟩
  | false =>
    rw [hd] at c3
    have HDN : Hid (D.down = false) := hd
    clear hd
    go_enter Try.func40, Try.ntmps40
    go_wp2_with fail
    refine (ref_has w base r q _ _ SV WV D i HD.out).mono ?_
    rintro e w1 ⟨he, hw1⟩
    subst he
    rw [hw1]
    clear hw1 w1
    cases hh : hasB D i with
    | false =>
      have HE : Hid (R = 2 ∧ D' = D) := ⟨by rw [HX.out, writeE, HDN.out, if_neg (by decide), if_pos hh], by rw [HY.out, writeD, HDN.out, if_neg (by decide), if_pos hh]⟩
      clear hh
      go_wp2
      go_ret
      exact ⟨by rw [HE.out.1]; rfl, ⟨wv, WV, by rw [HE.out.2]; exact HD.out⟩, Mr.refl _ _⟩
    | true =>
      by_cases h64 : 64 < len
      · have HE : Hid (R = 6 ∧ D' = D) := ⟨by rw [HX.out, writeE, HDN.out, if_neg (by decide), hh, if_neg (by decide), HSZ.out, if_pos h64], by rw [HY.out, writeD, HDN.out, if_neg (by decide), hh, if_neg (by decide), HSZ.out, if_pos h64]⟩
        have h64' : (64 : Int) < (len : Int) := by omega
        clear hh
        go_wp2
        go_ret
        exact ⟨by rw [HE.out.1]; rfl, ⟨wv, WV, by rw [HE.out.2]; exact HD.out⟩, Mr.refl _ _⟩
      · have h64' : ¬ (64 : Int) < (len : Int) := by omega
        obtain ⟨h0, h1⟩ := (hasB_iff D i).1 hh
        obtain ⟨j, rfl⟩ := Int.eq_ofNat_of_zero_le h0
        have HJ : Hid (j < D.sure.length) := by show _ < _; omega
        have HE0 : Hid (R = (if tripsB D = true then 10 else 0) ∧ D' = (if tripsB D = true then tripsD D else { tripsD D with waits := D.waits ++ [(j, padS bs)] })) :=
          ⟨by rw [HX.out, writeE, HDN.out, if_neg (by decide), hh, if_neg (by decide), HSZ.out, if_neg h64], by rw [HY.out, writeD, HDN.out, if_neg (by decide), hh, if_neg (by decide), HSZ.out, if_neg h64, Int.toNat_natCast]⟩
        clear hh h0 h1 HX HY
        go_wp2_with fail
        refine (ref_trips w base r q _ _ SV WV D HD.out HDN.out).mono ?_
        rintro e w2 ⟨rfl, hd2, hm2, hs2⟩
        have HD2 : Hid (Rk w2 base r q sv wv SV WV (tripsD D)) := hd2
        have HM2 : Hid (Mr w w2 base) := hm2
        have HS2 : Hid (w2.heap.size = w.heap.size) := hs2
        clear hd2 hm2 hs2
        cases ht : tripsB D with
        | true =>
          have HE : Hid (R = 10 ∧ D' = tripsD D) := by have := HE0.out; rw [ht] at this; exact this
          clear ht HE0
          go_wp2
          go_ret
          exact ⟨by rw [HE.out.1]; rfl, ⟨wv, WV, by rw [HE.out.2]; exact HD2.out⟩, HM2.out⟩
        | false =>
          have HE : Hid (R = 0 ∧ D' = { tripsD D with waits := (tripsD D).waits ++ [(j, padS bs)] }) := by have := HE0.out; rw [ht] at this; rw [trips_waits]; exact this
          clear ht HE0
          obtain ⟨T, hT⟩ : ∃ T, T = tripsD D := ⟨_, rfl⟩
          have HTS : Hid (T.sure.length = D.sure.length ∧ T.waits.length = D.waits.length) := by show _ ∧ _; rw [hT, trips_sure, trips_waits]; exact ⟨rfl, rfl⟩
          rw [← hT] at HE HD2
          clear hT
          obtain ⟨kk, hkk⟩ : ∃ kk, len + kk = 64 := ⟨64 - len, by omega⟩
          have hkk' : (64 : Int) - (len : Int) = (kk : Int) := by omega
          have HBA : Hid (Below w2.heap.size w2 (w2.alloc (.cells #[] 5))) := below_alloc _ _
          have HBS2 : Hid (base ≤ w2.heap.size) := by show _ ≤ _; rw [HS2.out]; exact HBS.out
          have HMA : Hid (Mr w (w2.alloc (.cells #[] 5)) base) := HM2.out.trans (Mr.of_below HBA.out HBS2.out)
          have HRD : Hid (Rd (w2.alloc (.cells #[] 5)) a len bs) := HRR.out _ HMA.out
          have HOW : Hid (Own (w2.alloc (.cells #[] 5)) w2.heap.size (some ⟨w2.heap.size, 0, none⟩) 0 0 []) := Own.empty w2
          go_wp2_with (guard_target =~ wpList _ _ _ (Oper.mk (some 25) _ _ _ _ _ :: _) _ _; refine wpList_append_rd rfl (.tmp 23) (.tmp 24) rfl w2.heap.size (some ⟨w2.heap.size, 0, none⟩) 0 0 [] rfl HOW.out a len cap bs rfl HRD.out HMC.out (by omega) HBA.out.size ?_)
          intro a3 c3' w3 ho3 hg3 hb3
          have HO3 : Hid (Own w3 w2.heap.size a3 len c3' bs) := ho3
          have HB3 : Hid (Below w2.heap.size w2 w3) := HBA.out.trans hb3
          clear ho3 hg3 hb3 c3
          go_wp2_with (guard_target =~ wpList _ _ _ (Oper.mk (some 29) _ _ _ _ _ :: _) _ _; refine wpList_append_zeros rfl (.tmp 25) (.tmp 28) rfl w2.heap.size a3 len c3' bs rfl HO3.out kk 64 rfl hkk (by omega) HB3.out.size ?_)
          intro a4 c4 w4 ho4 hg4 hb4
          have HO4 : Hid (Own w4 w2.heap.size a4 64 c4 (padS bs)) := by
            have e : padS bs = bs ++ List.replicate kk 0 := by rw [padS, HSZ.out]; congr 2; omega
            show Own _ _ _ _ _ _
            rw [e]
            exact ho4
          have HB4 : Hid (Below w2.heap.size w2 w4) := HB3.out.trans hb4
          clear ho4 hg4 hb4
          have HD4 : Hid (Rk w4 base r q sv wv SV WV T) := HD2.out.stay HB4.out
          have c1 : w4.cell? ⟨r, 1, none⟩ = some wv := HD4.out.blk.cell 1 rfl
          have HWX : Hid (T.waits.length < 1000000000) := by show _ < _; rw [HTS.out.2]; exact hw
          have HBS4 : Hid (base ≤ (w4.alloc (.cells #[.int .i64 (j : Int), .slice a4 64 c4] 104)).heap.size) := by show _ ≤ _; have := HB4.out.size; have := HBS2.out; simp; omega
          have HDA : Hid (Rk (w4.alloc (.cells #[.int .i64 (j : Int), .slice a4 64 c4] 104)) base r q sv wv SV WV T) := HD4.out.stay (below_alloc _ _)
          have HYA : Hid (Byt (w4.alloc (.cells #[.int .i64 (j : Int), .slice a4 64 c4] 104)) q (.slice a4 64 c4) (padS bs)) := Byt.of_own (HO4.out.below (below_alloc _ _)) (by rw [HS2.out]; exact HQ.out)
          have HMA2 : Hid (Mr w (w4.alloc (.cells #[.int .i64 (j : Int), .slice a4 64 c4] 104)) base) := HM2.out.trans (Mr.of_below (HB4.out.trans ((below_alloc _ _).mono HB4.out.size)) HBS2.out)
          go_wp2_with (guard_target =~ wpList _ _ _ (Oper.mk (some 39) _ _ _ _ _ :: _) _ _; refine wpList_append_put rfl (.tmp 34) (.tmp 38) rfl base wv T.waits.length WV rfl HDA.out.wrow w4.heap.size 1 (j : Int) a4 64 c4 rfl (Blk.new _ _ _) HWX.out HBS4.out ?_)
          intro v5 w5 ho5 hg5
          obtain ⟨a5, n5, k5, rfl⟩ := own_slice ho5
          have f1 : w5.frozen? ⟨r, 1, none⟩ = false := (HDA.out.blk.grown hg5 HDA.out.apart.2).free 1
          have d1 : w5.cell? ⟨r, 1, none⟩ = some wv := (HDA.out.blk.grown hg5 HDA.out.apart.2).cell 1 rfl
          obtain ⟨hd6, hm6⟩ := HDA.out.wrote (j, padS bs) HYA.out (by rw [HTS.out.1]; exact HJ.out) HWX.out ho5 hg5
          have HD6 : Hid (Rk (w5.setCell ⟨r, 1, none⟩ (.slice a5 n5 k5)) base r q sv (.slice a5 n5 k5) SV (WV ++ [.int .i64 (j : Int), .slice a4 64 c4]) { T with waits := T.waits ++ [(j, padS bs)] }) := hd6
          have HM6 : Hid (Mr w (w5.setCell ⟨r, 1, none⟩ (.slice a5 n5 k5)) base) := HMA2.out.trans hm6
          clear hd6 hm6 ho5 hg5 c1
          go_wp2
          go_ret
          exact ⟨by rw [HE.out.1]; rfl, ⟨_, _, by rw [HE.out.2]; exact HD6.out⟩, HM6.out⟩
end Go.Proofs.Ythpjaidgacenoaa
