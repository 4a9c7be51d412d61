/- A map's bytes. -/
import Derived.Test.YtoijhlnadaipoaaDoorSpAt
import Derived.Test.YtoijhlnadaipoaaDoorPut
namespace Go.Proofs.YtoijhlnadaipoaaDoor
open Go.RowKit

def oneS (e : Int) (s : Sp) : List Nat := Leb.leb (s.fr - e - 1).toNat ++ Leb.leb (s.to - s.fr).toNat ++ [s.is.toNat]
def putS : Int → List Sp → List Nat
  | _, [] => []
  | e, s :: l => oneS e s ++ putS s.to l
def putE (l : List Sp) : Int := if rightB Sp.zr l = true then (if 256 < l.length then 6 else 0) else 2
def putT (l : List Sp) : List Nat := if rightB Sp.zr l = true then (if 256 < l.length then [] else Leb.leb l.length ++ putS 0 l) else []
theorem put_bad {l : List Sp} (h : rightB Sp.zr l = false) : putE l = 2 ∧ putT l = [] := by
  unfold putE putT
  rw [h]
  exact ⟨rfl, rfl⟩
theorem put_long {l : List Sp} (h : rightB Sp.zr l = true) (h2 : 256 < l.length) : putE l = 6 ∧ putT l = [] := by
  unfold putE putT
  rw [if_pos h, if_pos h2, if_pos h, if_pos h2]
  exact ⟨rfl, rfl⟩
theorem put_ok {l : List Sp} (h : rightB Sp.zr l = true) (h2 : ¬ 256 < l.length) : putE l = 0 ∧ putT l = Leb.leb l.length ++ putS 0 l := by
  unfold putE putT
  rw [if_pos h, if_neg h2, if_pos h, if_neg h2]
  exact ⟨rfl, rfl⟩
theorem oneS_len (e : Int) (s : Sp) : 3 ≤ (oneS e s).length ∧ (oneS e s).length ≤ 21 := by
  unfold oneS
  have h1 := Leb.leb_length (s.fr - e - 1).toNat
  have h2 := Leb.leb_length (s.to - s.fr).toNat
  simp only [List.length_append, List.length_cons, List.length_nil]
  omega
theorem putS_len : ∀ (l : List Sp) (e : Int), (putS e l).length ≤ 21 * l.length
  | [], _ => by simp [putS]
  | s :: l, e => by
    rw [putS, List.length_append, List.length_cons]
    have h1 := oneS_len e s
    have h2 := putS_len l s.to
    omega
theorem Own.nil_cap' {w : World} {base : Nat} {a : Option Addr} {len cap : Nat} {bs : List Nat} (h : Own w base a len cap bs) : a = none → cap = 0 := by
  rcases h.row.2 with ⟨hn, _⟩ | ⟨g, c, cur, hv, _⟩
  · intro _; simp only [Value.slice.injEq] at hn; exact hn.2.2
  · intro he; rw [he] at hv; simp at hv
theorem Own.none_ (w : World) (base : Nat) : Own w base none 0 0 [] := ⟨⟨rfl, .inl ⟨rfl, rfl⟩⟩, by simp⟩
theorem Own.under {w : World} {base base' : Nat} {a : Option Addr} {len cap : Nat} {bs : List Nat} (h : Own w base a len cap bs) (hb : base' ≤ base) : Own w base' a len cap bs := by
  refine ⟨⟨h.row.1, ?_⟩, h.byte⟩
  rcases h.row.2 with hn | ⟨g, c, cur, hv, hbg, r⟩
  · exact .inl hn
  · exact .inr ⟨g, c, cur, hv, Nat.le_trans hb hbg, r⟩
theorem Own.ne {w w0 : World} {base g : Nat} {a : Option Addr} {len cap : Nat} {bs : List Nat} (h : Own w base a len cap bs) (hw : w.heap.size ≤ w0.heap.size) (hg : w0.heap.size ≤ g) : Option.some g ≠ Value.ownBlock (.slice a len cap) := fun e => by
  have := (h.row.lt g e.symm).2
  omega

set_option maxRecDepth 100000 in
set_option maxHeartbeats 1000000 in
theorem span_Put (a : Option Addr) (n cap : Nat) (l : List Sp) (w : World) (hr : SpsRd w a n l) (hn : n ≤ maxLen) :
    Calls Tryd.prog 54 #[.slice a n cap] w fun e w' => (∃ b m c, e = .returned (.tuple #[.slice b m c, .int .i64 (putE l)]) ∧ Hid (Own w' w.heap.size b m c (putT l))) ∧ Below w.heap.size w w' := by
  have HR : Hid (SpsRd w a n l) := hr
  have HN : Hid (n ≤ maxLen) := hn
  obtain ⟨y, HXE⟩ : ∃ x, Hid (x = putE l) := ⟨_, rfl⟩
  obtain ⟨T, HXT⟩ : ∃ x, Hid (x = putT l) := ⟨_, rfl⟩
  rw [← HXE.out, ← HXT.out]
  unfold maxLen at hn
  clear hr
  go_enter Tryd.func54, Tryd.ntmps54
  go_wp2_with fail
  refine (span_Right a n cap l w HR.out HN.out).mono ?_
  rintro e w1 ⟨rfl, hb1⟩
  have HB1 : Hid (Below w.heap.size w w1) := hb1
  clear hb1
  cases hrl : rightB Sp.zr l with
  | false =>
    have HX : Hid (y = 2 ∧ T = []) := ⟨HXE.out.trans (put_bad hrl).1, HXT.out.trans (put_bad hrl).2⟩
    clear hrl
    go_wp2
    go_returns
    exact ⟨⟨none, 0, 0, by rw [HX.out.1]; rfl, by show Own _ _ _ _ _ _; rw [HX.out.2]; exact Own.none_ _ _⟩, HB1.out⟩
  | true =>
    by_cases h256 : 256 < n
    · have HX : Hid (y = 6 ∧ T = []) := by
        have h2 : 256 < l.length := by rw [HR.out.size]; exact h256
        exact ⟨HXE.out.trans (put_long hrl h2).1, HXT.out.trans (put_long hrl h2).2⟩
      have h256' : (256 : Int) < (n : Int) := by omega
      clear hrl
      go_wp2
      go_returns
      exact ⟨⟨none, 0, 0, by rw [HX.out.1]; rfl, by show Own _ _ _ _ _ _; rw [HX.out.2]; exact Own.none_ _ _⟩, HB1.out⟩
    · have HX : Hid (y = 0 ∧ T = Leb.leb n ++ putS 0 l) := by
        have h2 : ¬ 256 < l.length := by rw [HR.out.size]; exact h256
        have := put_ok hrl h2
        rw [HR.out.size] at this
        exact ⟨HXE.out.trans this.1, HXT.out.trans this.2⟩
      have h256' : ¬ (256 : Int) < (n : Int) := by omega
      have HRS : Hid (RightS Sp.zr l) := (rightB_iff _ _).1 hrl
      have HTL : Hid (T.length ≤ 6000) := by
        show _ ≤ _
        rw [HX.out.2, List.length_append]
        have h1 := Leb.leb_length n
        have h2 := putS_len l 0
        rw [HR.out.size] at h2
        omega
      clear hrl
      go_wp2_with fail
      refine (octet_Uint n (by omega) w1).mono ?_
      rintro e w2 ⟨a2, c2, rfl, _, ho2, hb2⟩
      have HB2 : Hid (Below w.heap.size w w2) := HB1.out.trans (hb2.mono HB1.out.size)
      have HO2 : Hid (Own w2 w.heap.size a2 (Leb.leb n).length c2 (Leb.leb n)) := ho2.under HB1.out.size
      clear ho2 hb2
      obtain ⟨y2, hy2⟩ : ∃ y, y = (Leb.leb n).length := ⟨_, rfl⟩
      rw [← hy2] at HO2 ⊢
      clear hy2
      go_wp2
      go_loopw [4, 5, 20] (fun t4 t5 t20 wr => ∃ (k : Nat) (z : Int) (ax : Option Addr) (x cx : Nat) (X : List Nat) (p : Sp), k ≤ n ∧ t20 = .int .i64 (k : Int) ∧ t5 = .int .i64 z ∧ t4 = .slice ax x cx ∧ Hid (Own wr w.heap.size ax x cx X) ∧ Hid (X ++ putS z (l.drop k) = T) ∧ Hid (p.to = z ∧ RightS p (l.drop k)) ∧ Hid (0 ≤ z ∧ z ≤ 1099511627776) ∧ Hid (Below w.heap.size w wr)) (fun _ _ t20 _ => n - (intOf t20).toNat)
      case atStart => exact ⟨0, 0, a2, y2, c2, _, Sp.zr, by omega, rfl, rfl, rfl, HO2, HX.out.2.symm, ⟨rfl, HRS.out⟩, ⟨by omega, by omega⟩, HB2⟩
      case round =>
        obtain ⟨k, z, ax, x, cx, X, p, hk, rfl, rfl, rfl, HO, HE, HQ, HZ, HB⟩ := hrel
        have HXL : Hid (X.length = x ∧ x ≤ 6000) := by
          have h1 := HTL.out
          rw [← HE.out, List.length_append] at h1
          have h2 := HO.out.size
          exact ⟨h2, by omega⟩
        have hx6 := HXL.out.2
        by_cases hlt : k < n
        · have hlt' : (k : Int) < (n : Int) := by omega
          obtain ⟨g, o, rfl, hg, q, hq, c0, c1, c2⟩ := (HR.out.below HB.out).at_ k hlt
          have hd : l.drop k = q :: l.drop (k + 1) := drop_at hq
          have HQ' := HQ.out.2
          rw [hd] at HQ'
          obtain ⟨q1, q2, q3, q4, q5, q6, q7⟩ := HQ'
          have hpz := HQ.out.1
          rw [hpz] at q1
          obtain ⟨z1, z2⟩ := HZ.out
          have HQ7 : Hid (RightS q (l.drop (k + 1))) := q7
          have HE1 : Hid (X ++ (oneS z q ++ putS q.to (l.drop (k + 1))) = T) := by
            show _ = _
            rw [← HE.out, hd, putS]
          clear hq hg q6 q7 HQ hd HE hpz HZ
          obtain ⟨qf, qt, qi⟩ := q
          simp only at c0 c1 c2 q1 q2 q3 q4 q5 HE1
          obtain ⟨n1, hn1⟩ : ∃ n1 : Nat, qf - z - 1 = (n1 : Int) := ⟨(qf - z - 1).toNat, by omega⟩
          obtain ⟨n2, hn2⟩ : ∃ n2 : Nat, qt - qf = (n2 : Int) := ⟨(qt - qf).toNat, by omega⟩
          obtain ⟨n3, hn3⟩ : ∃ n3 : Nat, qi = (n3 : Int) := ⟨qi.toNat, by omega⟩
          have HE2 : Hid (X ++ (Leb.leb n1 ++ Leb.leb n2 ++ [n3] ++ putS qt (l.drop (k + 1))) = T) := by
            have h1 := HE1.out
            unfold oneS at h1
            simp only at h1
            rw [hn1, hn2, hn3] at h1
            exact h1
          have hb1 : n1 < 18446744073709551616 := by omega
          have hb2 : n2 < 18446744073709551616 := by omega
          have hb3 : n3 < 256 := by omega
          subst hn3
          clear HE1
          have HBk0 : Hid (Bk (wr.alloc (.cells #[.int .i64 qf, .int .i64 qt, .int .i64 (n3 : Int)] 112)) wr.heap.size #[.int .i64 qf, .int .i64 qt, .int .i64 (n3 : Int)] 112) := Bk.new _ _ _
          go_wp2_with fail
          refine (octet_Uint n1 hb1 _).mono ?_
          rintro e w3 ⟨a3, c3, rfl, _, ho3, hb3'⟩
          have HBW : Hid (Below wr.heap.size wr w3) := (below_new wr _).trans (hb3'.mono (by simp))
          have HK3 : Hid (Bk w3 wr.heap.size #[.int .i64 qf, .int .i64 qt, .int .i64 (n3 : Int)] 112) := HBk0.out.stay hb3'
          have hm1 := Leb.leb_length n1
          have hm2 := Leb.leb_length n2
          obtain ⟨m1, hm1e⟩ : ∃ m, m = (Leb.leb n1).length := ⟨_, rfl⟩
          rw [← hm1e] at ho3 hm1 ⊢
          have HO3 : Hid (Own w3 wr.heap.size a3 m1 c3 (Leb.leb n1)) := ho3.under (by simp)
          clear ho3 hb3' hm1e c0 c1 c2 HBk0
          have HOX : Hid (Own w3 w.heap.size ax x cx X) := HO.out.below HBW.out
          have HS3 : Hid (w.heap.size ≤ w3.heap.size) := Nat.le_trans HB.out.size HBW.out.size
          go_wp2_with (at_builtin; refine wpList_append_rd rfl (.tmp 24) (.tmp 31) rfl w.heap.size ax x cx X rfl HOX.out a3 m1 c3 (Leb.leb n1) rfl HO3.out.rd HO3.out.nil_cap' (by omega) HS3.out ?_)
          intro a5 c5 w5 ho5 hg5 hb5
          have HO5 : Hid (Own w5 w.heap.size a5 (x + m1) c5 (X ++ Leb.leb n1)) := ho5
          have HK5 : Hid (Bk w5 wr.heap.size #[.int .i64 qf, .int .i64 qt, .int .i64 (n3 : Int)] 112) := HK3.out.grown hg5 (HO.out.ne (Nat.le_refl _) (Nat.le_refl _))
          have HB5 : Hid (Below w.heap.size w w5) := (HB.out.trans (HBW.out.mono HB.out.size)).trans hb5
          clear ho5 hg5 hb5 HO3 HK3 HOX HS3 HBW
          have d0 : w5.cell? ⟨wr.heap.size, 0, none⟩ = some (.int .i64 qf) := HK5.out.cell 0 rfl
          have d1 : w5.cell? ⟨wr.heap.size, 1, none⟩ = some (.int .i64 qt) := HK5.out.cell 1 rfl
          go_wp2_with fail
          refine (octet_Uint n2 hb2 _).mono ?_
          rintro e w6 ⟨a6, c6, rfl, _, ho6, hb6⟩
          obtain ⟨m2, hm2e⟩ : ∃ m, m = (Leb.leb n2).length := ⟨_, rfl⟩
          rw [← hm2e] at ho6 hm2 ⊢
          have HB6 : Hid (Below w.heap.size w w6) := HB5.out.trans (hb6.mono HB5.out.size)
          have HO6 : Hid (Own w6 w5.heap.size a6 m2 c6 (Leb.leb n2)) := ho6
          have HO56 : Hid (Own w6 w.heap.size a5 (x + m1) c5 (X ++ Leb.leb n1)) := HO5.out.below hb6
          have HK6 : Hid (Bk w6 wr.heap.size #[.int .i64 qf, .int .i64 qt, .int .i64 (n3 : Int)] 112) := HK5.out.stay hb6
          have HNE : Hid (some wr.heap.size ≠ Value.ownBlock (.slice a5 (x + m1) c5)) := by
            intro e
            rcases HO5.out.row.2 with ⟨h1, _⟩ | ⟨g5, c5', cur, h1, _, h3, _⟩
            · simp only [Value.slice.injEq] at h1
              rw [h1.1] at e
              cases e
            · simp only [Value.slice.injEq] at h1
              rw [h1.1] at e
              simp only [Value.ownBlock, Option.some.injEq] at e
              have h5 := HK5.out
              unfold Bk at h5
              rw [e, h3] at h5
              simp only [Option.some.injEq, Obj.cells.injEq] at h5
              exact absurd h5.2.1 (by decide)
          clear ho6 hb6 hm2e d0 d1 HK5 HO5
          go_wp2_with (at_builtin; refine wpList_append_rd rfl (.tmp 33) (.tmp 40) rfl w.heap.size a5 (x + m1) c5 (X ++ Leb.leb n1) rfl HO56.out a6 m2 c6 (Leb.leb n2) rfl HO6.out.rd HO6.out.nil_cap' (by omega) HB6.out.size ?_)
          intro a7 c7 w7 ho7 hg7 hb7
          have HO7 : Hid (Own w7 w.heap.size a7 (x + m1 + m2) c7 (X ++ Leb.leb n1 ++ Leb.leb n2)) := by show Own _ _ _ _ _ _; rw [List.append_assoc]; exact ho7
          have HK7 : Hid (Bk w7 wr.heap.size #[.int .i64 qf, .int .i64 qt, .int .i64 (n3 : Int)] 112) := HK6.out.grown hg7 HNE.out
          have HB7 : Hid (Below w.heap.size w w7) := HB6.out.trans hb7
          clear ho7 hg7 hb7 HO6 HO56 HK6 HNE
          have d2 : w7.cell? ⟨wr.heap.size, 2, none⟩ = some (.int .i64 (n3 : Int)) := HK7.out.cell 2 rfl
          have HO8 : Hid (Own (w7.alloc (.cells #[.int .u8 (n3 : Int)] 5)) w7.heap.size (some ⟨w7.heap.size, 0, none⟩) 1 1 [n3]) := Own.new w7 w7.heap.size #[.int .u8 (n3 : Int)] [n3] (by simpa using hb3) rfl (Nat.le_refl _) (by unfold maxLen; simp)
          have HB8 : Hid (Below w.heap.size w (w7.alloc (.cells #[.int .u8 (n3 : Int)] 5))) := HB7.out.alloc HB7.out.size _
          have HO78 : Hid (Own (w7.alloc (.cells #[.int .u8 (n3 : Int)] 5)) w.heap.size a7 (x + m1 + m2) c7 (X ++ Leb.leb n1 ++ Leb.leb n2)) := HO7.out.below (below_new _ _)
          have HK8 : Hid (Bk (w7.alloc (.cells #[.int .u8 (n3 : Int)] 5)) wr.heap.size #[.int .i64 qf, .int .i64 qt, .int .i64 (n3 : Int)] 112) := HK7.out.stay (below_new _ _)
          have HNE7 : Hid (some wr.heap.size ≠ Value.ownBlock (.slice a7 (x + m1 + m2) c7)) := by
            intro e
            rcases HO7.out.row.2 with ⟨h1, _⟩ | ⟨g5, c5', cur, h1, _, h3, _⟩
            · simp only [Value.slice.injEq] at h1
              rw [h1.1] at e
              cases e
            · simp only [Value.slice.injEq] at h1
              rw [h1.1] at e
              simp only [Value.ownBlock, Option.some.injEq] at e
              have h5 := HK7.out
              unfold Bk at h5
              rw [e, h3] at h5
              simp only [Option.some.injEq, Obj.cells.injEq] at h5
              exact absurd h5.2.1 (by decide)
          go_wp2_with (at_builtin; refine wpList_append_rd rfl (.tmp 42) (.tmp 46) rfl w.heap.size a7 (x + m1 + m2) c7 (X ++ Leb.leb n1 ++ Leb.leb n2) rfl HO78.out (some ⟨w7.heap.size, 0, none⟩) 1 1 [n3] rfl HO8.out.rd (by simp) (by omega) HB8.out.size ?_)
          intro a9 c9 w9 ho9 hg9 hb9
          have HO9 : Hid (Own w9 w.heap.size a9 (x + m1 + m2 + 1) c9 (X ++ Leb.leb n1 ++ Leb.leb n2 ++ [n3])) := by show Own _ _ _ _ _ _; simpa only [List.append_assoc] using ho9
          have HB9 : Hid (Below w.heap.size w w9) := HB8.out.trans hb9
          have HK9 : Hid (Bk w9 wr.heap.size #[.int .i64 qf, .int .i64 qt, .int .i64 (n3 : Int)] 112) := HK8.out.grown hg9 HNE7.out
          have HE9 : Hid (X ++ Leb.leb n1 ++ Leb.leb n2 ++ [n3] ++ putS qt (l.drop (k + 1)) = T) := by
            show _ = _
            rw [← HE2.out]
            simp only [List.append_assoc]
          clear ho9 hg9 hb9 HO8 HO78 HK8 HNE7 d2 HK7 HO7 HE2
          have d1 : w9.cell? ⟨wr.heap.size, 1, none⟩ = some (.int .i64 qt) := HK9.out.cell 1 rfl
          go_wp2
          go_roundw
          case rel => exact ⟨k + 1, qt, a9, _, c9, _, ⟨qf, qt, n3⟩, by omega, by go_num, rfl, rfl, HO9, HE9, ⟨rfl, HQ7.out⟩, ⟨by omega, by omega⟩, HB9⟩
          case measure => simp [intOf]; omega
        · have hnl : ¬ (k : Int) < (n : Int) := by omega
          have HX2 : Hid (Own wr w.heap.size ax x cx T) := by
            have h1 := HE.out
            rw [List.drop_of_length_le (by rw [HR.out.size]; omega), putS, List.append_nil] at h1
            show Own _ _ _ _ _ _
            rw [← h1]
            exact HO.out
          clear HE
          go_wp2
          go_returns
          exact ⟨⟨ax, x, cx, by rw [HX.out.1]; rfl, HX2⟩, HB.out⟩
end Go.Proofs.YtoijhlnadaipoaaDoor
