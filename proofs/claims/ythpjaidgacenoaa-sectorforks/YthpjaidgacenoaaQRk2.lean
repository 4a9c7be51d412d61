/- The reference's disk: Sure, Read, Write. -/
import Derived.Test.YthpjaidgacenoaaQRk1
namespace Go.Proofs.Ythpjaidgacenoaa
open Go.RowKit

/-- What a read of the reference's tells. -/
def RefTold (w : World) (e : Ending) (er : Int) (s : List Nat) : Prop :=
  (er ≠ 0 ∧ e = .returned (.tuple #[.slice none 0 0, .int .i64 er])) ∨ (er = 0 ∧ ∃ a c, e = .returned (.tuple #[.slice a 64 c, .int .i64 0]) ∧ Rd w a 64 s ∧ Sec s ∧ 64 ≤ c)
theorem Own.cap {w : World} {base : Nat} {a : Option Addr} {len cap : Nat} {bs : List Nat} (h : Own w base a len cap bs) : len ≤ cap := by
  rcases h.row.2 with ⟨h1, h0⟩ | ⟨g, c, cur, h1, _, _, h4, _⟩
  · omega
  · simp only [Value.slice.injEq] at h1; omega
theorem Rk.sureAt {w : World} {base r q rs c n : Nat} {wv : Value} {SV WV : List Value} {D : Dk} (h : Rk w base r q (.slice (some ⟨rs, 0, none⟩) n c) wv SV WV D) {i : Nat} {s : List Nat} (hs : D.sure[i]? = some s) : ∃ k c', w.cell? ⟨rs, i, none⟩ = some (.slice (some ⟨k, 0, none⟩) 64 c') ∧ 64 ≤ c' ∧ c' ≤ maxLen ∧ Rd w (some ⟨k, 0, none⟩) 64 s ∧ Sec s ∧ k < w.heap.size := by
  obtain ⟨v, h1, h2⟩ := h.each i s hs
  obtain ⟨k, c', rfl, h4, h5, h6, cur, h7⟩ := h2.slice
  have hi : i < D.sure.length := (List.getElem?_eq_some_iff.1 hs).1
  have hn : n = D.sure.length := by
    obtain ⟨_, _, e, _⟩ := h.form
    simp only [Value.slice.injEq] at e
    exact e.2.1
  subst hn
  refine ⟨k, c', ?_, h4, h5, h6, h2.sec, heap_lt h7⟩
  rw [h.srow.cellAt i (by omega), h1]
theorem Rk.putAt {w : World} {base r q gw c n : Nat} {sv : Value} {SV WV : List Value} {D : Dk} (h : Rk w base r q sv (.slice (some ⟨gw, 0, none⟩) n c) SV WV D) {i : Nat} {p : Nat × List Nat} (hp : D.waits[i]? = some p) : p.1 < D.sure.length ∧ w.cell? ⟨gw, i * 2, none⟩ = some (.int .i64 (p.1 : Int)) ∧ ∃ k c', w.cell? ⟨gw, i * 2 + 1, none⟩ = some (.slice (some ⟨k, 0, none⟩) 64 c') ∧ 64 ≤ c' ∧ c' ≤ maxLen ∧ Byt w q (.slice (some ⟨k, 0, none⟩) 64 c') p.2 ∧ Rd w (some ⟨k, 0, none⟩) 64 p.2 ∧ Sec p.2 ∧ k < w.heap.size := by
  obtain ⟨h0, h1, v, h2, h3⟩ := h.puts i p hp
  have hb := h3
  obtain ⟨k, c', rfl, h4, h5, h6, cur, h7⟩ := h3.slice
  have hi : i < D.waits.length := (List.getElem?_eq_some_iff.1 hp).1
  have hn : n = D.waits.length := by
    obtain ⟨_, _, e, _⟩ := h.wform
    simp only [Value.slice.injEq] at e
    exact e.2.1
  subst hn
  refine ⟨h0, ?_, k, c', ?_, h4, h5, hb, h6, hb.sec, heap_lt h7⟩
  · rw [h.wrow.cellAt (i * 2) (by omega), h1]
  · rw [h.wrow.cellAt (i * 2 + 1) (by omega), h2]

set_option maxRecDepth 100000 in
set_option maxHeartbeats 1000000 in
theorem ref_Sure (w : World) (base r q : Nat) (sv wv : Value) (SV WV : List Value) (D : Dk) (i : Int) (h : Rk w base r q sv wv SV WV D) :
    Calls Try.prog 33 #[.pointer (some ⟨r, 0, none⟩), .int .i64 i] w fun e w' => Hid (RefTold w' e (sureE D i) (D.sure.getD i.toNat [])) ∧ Below w.heap.size w w' := by
  have HD : Hid (Rk w base r q sv wv SV WV D) := h
  obtain ⟨R, HR⟩ : ∃ R, Hid (R = sureE D i) := ⟨_, rfl⟩
  obtain ⟨T, HT0⟩ : ∃ T, Hid (T = D.sure.getD i.toNat []) := ⟨_, rfl⟩
  rw [← HR.out, ← HT0.out]
  obtain ⟨rs, cs, rfl, _⟩ := h.form
  obtain ⟨ns, hns⟩ : ∃ ns, ns = D.sure.length := ⟨_, rfl⟩
  rw [← hns] at HD
  have HNS : Hid (ns = D.sure.length) := hns
  have hnsb : ns ≤ 512 := by rw [hns]; exact h.sz
  clear h hns
  go_enter Try.func33, Try.ntmps33
  go_wp2_with fail
  refine (ref_has w base r q _ wv SV WV D i HD.out).mono ?_
  rintro e w1 ⟨he, hw⟩
  subst he
  rw [hw]
  clear hw w1
  cases hh : hasB D i with
  | false =>
    have HX : Hid (R = 2) := by show _ = _; rw [HR.out, sureE, hh]; rfl
    clear hh
    go_wp2
    go_returns
    exact ⟨.inl ⟨by rw [HX.out]; decide, by rw [HX.out]; rfl⟩, Below.refl _ _⟩
  | true =>
    have HX : Hid (R = 0) := by show _ = _; rw [HR.out, sureE, hh]; rfl
    obtain ⟨h0, h1⟩ := (hasB_iff D i).1 hh
    obtain ⟨j, rfl⟩ := Int.eq_ofNat_of_zero_le h0
    have hj : j < D.sure.length := by omega
    have hTj : D.sure[j]? = some T := by rw [HT0.out, Int.toNat_natCast, List.getD_eq_getElem?_getD, List.getElem?_eq_getElem hj]; rfl
    have HDa : Hid (Rk (w.alloc (.cells #[] 5)) base r q (.slice (some ⟨rs, 0, none⟩) ns cs) wv SV WV D) := HD.out.stay (below_alloc _ _)
    obtain ⟨k, ck, cc, h64, hcm, hrd, hsec, hkl⟩ := HDa.out.sureAt hTj
    have HRD : Hid (Rd (w.alloc (.cells #[] 5)) (some ⟨k, 0, none⟩) 64 T) := hrd
    have HSE : Hid (Sec T) := hsec
    have c0 : (w.alloc (.cells #[] 5)).cell? ⟨r, 0, none⟩ = some (.slice (some ⟨rs, 0, none⟩) ns cs) := HDa.out.blk.cell 0 rfl
    have q1 : (0 : Int) ≤ (j : Int) := by omega
    have q2 : (j : Int) < (ns : Int) := by have := HNS.out; omega
    have HOW : Hid (Own (w.alloc (.cells #[] 5)) w.heap.size (some ⟨w.heap.size, 0, none⟩) 0 0 []) := Own.empty w
    have HBA : Hid (Below w.heap.size w (w.alloc (.cells #[] 5))) := below_alloc _ _
    clear hh h0 h1 hTj hj hrd hsec hkl
    go_wp2_with (guard_target =~ wpList _ _ _ (Oper.mk (some 20) _ _ _ _ _ :: _) _ _; refine wpList_append_rd rfl (.tmp 12) (.tmp 19) rfl w.heap.size (some ⟨w.heap.size, 0, none⟩) 0 0 [] rfl HOW.out (some ⟨k, 0, none⟩) 64 ck T rfl HRD.out (fun e => by cases e) (by omega) HBA.out.size ?_)
    intro a' c' w2 ho2 hg2 hb2
    have HO2 : Hid (Own w2 w.heap.size a' 64 c' T) := ho2
    have HB2 : Hid (Below w.heap.size w w2) := HBA.out.trans hb2
    clear ho2 hg2 hb2
    go_wp2
    go_returns
    exact ⟨.inr ⟨HX.out, a', c', rfl, HO2.out.rd, HSE.out, HO2.out.cap⟩, HB2.out⟩

set_option maxRecDepth 100000 in
set_option maxHeartbeats 1000000 in
theorem ref_Read (w : World) (base r q : Nat) (sv wv : Value) (SV WV : List Value) (D : Dk) (i : Int) (h : Rk w base r q sv wv SV WV D) :
    Calls Try.prog 32 #[.pointer (some ⟨r, 0, none⟩), .int .i64 i] w fun e w' => Hid (RefTold w' e (readE D i) (nowB D i.toNat)) ∧ Below w.heap.size w w' := by
  have HD : Hid (Rk w base r q sv wv SV WV D) := h
  have c3 : w.cell? ⟨r, 3, none⟩ = some (.bool D.down) := h.blk.cell 3 rfl
  obtain ⟨R, HR⟩ : ∃ R, Hid (R = readE D i) := ⟨_, rfl⟩
  obtain ⟨T, HT0⟩ : ∃ T, Hid (T = nowB D i.toNat) := ⟨_, rfl⟩
  rw [← HR.out, ← HT0.out]
  obtain ⟨rs, cs, rfl, _⟩ := h.form
  obtain ⟨aw, cw, rfl, haw⟩ := h.wform
  have HAW : Hid (0 < D.waits.length → ∃ gw, aw = some ⟨gw, 0, none⟩) := haw
  obtain ⟨ns, hns⟩ : ∃ ns, ns = D.sure.length := ⟨_, rfl⟩
  obtain ⟨nw, hnw⟩ : ∃ nw, nw = D.waits.length := ⟨_, rfl⟩
  rw [← hns, ← hnw] at HD
  have HNS : Hid (ns = D.sure.length) := hns
  have HNW : Hid (nw = D.waits.length) := hnw
  have hnsb : ns ≤ 512 := by rw [hns]; exact h.sz
  have hnwb : nw ≤ 1000000000 := by rw [hnw]; exact h.wl
  clear h hns hnw haw
  cases hd : D.down with
  | true =>
    rw [hd] at c3
    have HX : Hid (R = 10) := by show _ = _; rw [HR.out, readE, hd]; rfl
    clear hd
    go_enter Try.func32, Try.ntmps32
    go_wp2
    go_returns
    exact ⟨.inl ⟨by rw [HX.out]; decide, by rw [HX.out]; rfl⟩, Below.refl _ _⟩
  | false =>
    rw [hd] at c3
    have HDN : Hid (D.down = false) := hd
    clear hd
    go_enter Try.func32, Try.ntmps32
    go_wp2_with fail
    refine (ref_has w base r q _ _ SV WV D i HD.out).mono ?_
    rintro e w1 ⟨he, hw⟩
    subst he
    rw [hw]
    clear hw w1
    cases hh : hasB D i with
    | false =>
      have HX : Hid (R = 2) := by show _ = _; rw [HR.out, readE, HDN.out, hh]; rfl
      clear hh
      go_wp2
      go_returns
      exact ⟨.inl ⟨by rw [HX.out]; decide, by rw [HX.out]; rfl⟩, Below.refl _ _⟩
    | true =>
      have HX : Hid (R = 0) := by show _ = _; rw [HR.out, readE, HDN.out, hh]; rfl
      obtain ⟨h0, h1⟩ := (hasB_iff D i).1 hh
      obtain ⟨j, rfl⟩ := Int.eq_ofNat_of_zero_le h0
      have hj : j < D.sure.length := by omega
      have HT : Hid (T = nowB D j) := by show _ = _; rw [HT0.out, Int.toNat_natCast]
      obtain ⟨s0, hs0⟩ : ∃ s0, D.sure[j]? = some s0 := ⟨D.sure[j], List.getElem?_eq_getElem hj⟩
      obtain ⟨k0, ck0, cc, h64, hcm, hrd, hsec, hkl⟩ := HD.out.sureAt hs0
      have HS0 : Hid (Rd w (some ⟨k0, 0, none⟩) 64 (nowS D j 0) ∧ Sec (nowS D j 0)) := by
        have e : nowS D j 0 = s0 := by rw [nowS, List.getD_eq_getElem?_getD, hs0]; rfl
        show _ ∧ _
        rw [e]
        exact ⟨hrd, hsec⟩
      have c0 : w.cell? ⟨r, 0, none⟩ = some (.slice (some ⟨rs, 0, none⟩) ns cs) := HD.out.blk.cell 0 rfl
      have c1 : w.cell? ⟨r, 1, none⟩ = some (.slice aw nw cw) := HD.out.blk.cell 1 rfl
      have q1 : (0 : Int) ≤ (j : Int) := by omega
      have q2 : (j : Int) < (ns : Int) := by have := HNS.out; omega
      clear hh h0 h1 hj hs0 hrd hsec hkl c3
      go_wp2
      go_loopw [6, 7] (fun t6 t7 wr => ∃ (k kb cb : Nat), k ≤ nw ∧ t7 = .int .i64 (k : Int) ∧ t6 = .slice (some ⟨kb, 0, none⟩) 64 cb ∧ Hid (Rd w (some ⟨kb, 0, none⟩) 64 (nowS D j k) ∧ Sec (nowS D j k)) ∧ wr = w) (fun _ t7 _ => nw - (intOf t7).toNat)
      case atStart => exact ⟨0, k0, ck0, Nat.zero_le _, rfl, rfl, HS0, rfl⟩
      case round =>
        obtain ⟨k, kb, cb, hk, rfl, rfl, HE, rfl⟩ := hrel
        by_cases hlt : k < nw
        · have hlt' : (k : Int) < (nw : Int) := by omega
          have hkw : k < D.waits.length := by have := HNW.out; omega
          obtain ⟨gw, rfl⟩ := HAW.out (by omega)
          obtain ⟨p, hp⟩ : ∃ p, D.waits[k]? = some p := ⟨D.waits[k], List.getElem?_eq_getElem hkw⟩
          obtain ⟨hp1, ca, k2, c2, cb2, h642, hcm2, _, hrd2, hsec2, hkl2⟩ := HD.out.putAt hp
          have hpg : D.waits.getD k (0, []) = p := by rw [List.getD_eq_getElem?_getD, hp]; rfl
          have HN2 : Hid (nowS D j (k + 1) = if p.1 = j then p.2 else nowS D j k) := by show _ = _; rw [nowS, hpg]
          obtain ⟨pa, L⟩ := p
          simp only at ca hrd2 hsec2 HN2
          have hk0 : (0 : Int) ≤ (k : Int) := by omega
          by_cases hat : pa = j
          · have HE2 : Hid (Rd wr (some ⟨k2, 0, none⟩) 64 (nowS D j (k + 1)) ∧ Sec (nowS D j (k + 1))) := by
              show _ ∧ _
              rw [HN2.out, if_pos hat]
              exact ⟨hrd2, hsec2⟩
            have hati : (pa : Int) = (j : Int) := by omega
            have hati' : ((pa : Int) == (j : Int)) = true := by rw [beq_iff_eq]; exact hati
            subst hat
            clear hp hpg HE hrd2 hsec2 hp1 HN2 hkl2 hkw
            go_wp2
            go_roundw
            case rel => exact ⟨k + 1, k2, c2, by omega, by go_num, rfl, HE2, by trivial⟩
            case measure => simp [intOf]; omega
          · have HE2 : Hid (Rd wr (some ⟨kb, 0, none⟩) 64 (nowS D j (k + 1)) ∧ Sec (nowS D j (k + 1))) := by
              show _ ∧ _
              rw [HN2.out, if_neg hat]
              exact HE.out
            have hati : ¬ (pa : Int) = (j : Int) := by omega
            have hati' : ((pa : Int) == (j : Int)) = false := by rw [beq_eq_false_iff_ne]; exact hati
            clear hp hpg HE hrd2 hsec2 hp1 HN2 hkl2 hkw
            go_wp2
            go_roundw
            case rel => exact ⟨k + 1, kb, cb, by omega, by go_num, rfl, HE2, by trivial⟩
            case measure => simp [intOf]; omega
        · obtain rfl : k = nw := by omega
          have HE2 : Hid (Rd wr (some ⟨kb, 0, none⟩) 64 T ∧ Sec T) := by
            show _ ∧ _
            rw [HT.out, nowB, ← HNW.out]
            exact HE.out
          have HRD : Hid (Rd (wr.alloc (.cells #[] 5)) (some ⟨kb, 0, none⟩) 64 T) := HE2.out.1.below (below_alloc _ _)
          have HOW : Hid (Own (wr.alloc (.cells #[] 5)) wr.heap.size (some ⟨wr.heap.size, 0, none⟩) 0 0 []) := Own.empty wr
          have HBA : Hid (Below wr.heap.size wr (wr.alloc (.cells #[] 5))) := below_alloc _ _
          clear HE hlt
          go_wp2_with (guard_target =~ wpList _ _ _ (Oper.mk (some 54) _ _ _ _ _ :: _) _ _; refine wpList_append_rd rfl (.tmp 52) (.tmp 53) rfl wr.heap.size (some ⟨wr.heap.size, 0, none⟩) 0 0 [] rfl HOW.out (some ⟨kb, 0, none⟩) 64 cb T rfl HRD.out (fun e => by cases e) (by omega) HBA.out.size ?_)
          intro a' c' w2 ho2 hg2 hb2
          have HO2 : Hid (Own w2 wr.heap.size a' 64 c' T) := ho2
          have HB2 : Hid (Below wr.heap.size wr w2) := HBA.out.trans hb2
          clear ho2 hg2 hb2
          go_wp2
          go_returns
          exact ⟨.inr ⟨HX.out, a', c', rfl, HO2.out.rd, HE2.out.2, HO2.out.cap⟩, HB2.out⟩
end Go.Proofs.Ythpjaidgacenoaa
