/- A pack of texts: SpRefP RpT. -/
import Derived.Test.YtbloomepdchjhaaDoorLebP
import Derived.Test.YtbloomepdchjhaaDoorSpR
import Derived.Test.YtbloomepdchjhaaDoorSealP
import Derived.Deep.RegionHeld3
import Derived.Test.YtbloomepdchjhaaDoorRpP
/- grapevineref08.Put: a map's bytes. -/
namespace Go.Proofs.YtbloomepdchjhaaDoor
open Go.RowKit

theorem SpsRd.cellsAt {w : World} {g o n : Nat} {l : List Sp} {k : Nat} {q : Sp} (h : SpsRd w (some ⟨g, o, none⟩) n l) (hq : l[k]? = some q) : w.cell? ⟨g, o + k * 3, none⟩ = some (.int .i64 q.fr) ∧ w.cell? ⟨g, o + k * 3 + 1, none⟩ = some (.int .i64 q.to) ∧ w.cell? ⟨g, o + k * 3 + 2, none⟩ = some (.int .i64 q.is) := by
  rcases h.cells with h0 | ⟨g', o', ha, _, hc⟩
  · rw [h0] at hq; simp at hq
  · simp only [Option.some.injEq, Addr.mk.injEq, and_true] at ha
    obtain ⟨rfl, rfl⟩ := ha
    exact hc k q hq

def UintP (m : Nat) (w0 : World) (e : Ending) (w' : World) : Prop := ∃ a6 c6, e = .returned (.slice a6 (Leb.leb m).length c6) ∧ (a6 = none → c6 = 0) ∧ Own w' w0.heap.size a6 (Leb.leb m).length c6 (Leb.leb m) ∧ Below w0.heap.size w0 w'
theorem ref_UintP (m : Nat) (hm : m < 18446744073709551616) (w0 : World) : Calls Tryd.prog 40 #[.int .u64 (m : Int)] w0 (UintP m w0) :=
  (ref_Uint m hm w0).mono fun _ _ ⟨a6, c6, h1, h2, h3, h4⟩ => ⟨a6, c6, h1, fun h => absurd h h2, h3, h4⟩

set_option maxRecDepth 100000 in
set_option maxHeartbeats 2000000 in
theorem ref_Put (a : Option Addr) (n cap : Nat) (l : List Sp) (w : World) (hr : SpsRd w a n l) (hn : n ≤ maxLen) :
    Calls Tryd.prog 44 #[.slice a n cap] w fun e w' => (∃ b m c, e = .returned (.tuple #[.slice b m c, .int .i64 (putE l)]) ∧ Hid (Own w' w.heap.size b m c (putT l))) ∧ Below w.heap.size w w' := by
  have HR : Hid (SpsRd w a n l) := hr
  have HN : Hid (n ≤ maxLen) := hn
  obtain ⟨y, HXE⟩ : ∃ x, Hid (x = putE l) := ⟨_, rfl⟩
  obtain ⟨T, HXT⟩ : ∃ x, Hid (x = putT l) := ⟨_, rfl⟩
  rw [← HXE.out, ← HXT.out]
  unfold maxLen at hn
  clear hr
  go_enter Tryd.func44, Tryd.ntmps44
  go_wp2_with fail
  refine (ref_Right a n cap l w HR.out HN.out).mono ?_
  rintro e w1 ⟨rfl, hb1⟩
  have HB1 : Hid (Below w.heap.size w w1) := hb1
  clear hb1
  cases hrl : rightB Sp.zr l with
  | false =>
    have HX : Hid (y = 2 ∧ T = []) := ⟨HXE.out.trans (put_bad hrl).1, HXT.out.trans (put_bad hrl).2⟩
    clear hrl
    go_wp2
    go_returns
    exact ⟨⟨none, 0, 0, by rw [HX.out.1]; rfl, by show Own _ _ _ _ _ _; rw [HX.out.2]; exact Own.none_ _ _⟩, HB1.out⟩
  | true =>
    by_cases h256 : 256 < n
    · have HX : Hid (y = 6 ∧ T = []) := by
        have h2 : 256 < l.length := by rw [HR.out.size]; exact h256
        exact ⟨HXE.out.trans (put_long hrl h2).1, HXT.out.trans (put_long hrl h2).2⟩
      have h256' : (256 : Int) < (n : Int) := by omega
      clear hrl
      go_wp2
      go_returns
      exact ⟨⟨none, 0, 0, by rw [HX.out.1]; rfl, by show Own _ _ _ _ _ _; rw [HX.out.2]; exact Own.none_ _ _⟩, HB1.out⟩
    · have HX : Hid (y = 0 ∧ T = Leb.leb n ++ putS 0 l) := by
        have h2 : ¬ 256 < l.length := by rw [HR.out.size]; exact h256
        have := put_ok hrl h2
        rw [HR.out.size] at this
        exact ⟨HXE.out.trans this.1, HXT.out.trans this.2⟩
      have h256' : ¬ (256 : Int) < (n : Int) := by omega
      have HRS : Hid (RightS Sp.zr l) := (rightB_iff _ _).1 hrl
      have HTL : Hid (T.length ≤ 6000) := by
        show _ ≤ _
        rw [HX.out.2, List.length_append]
        have h1 := Leb.leb_length n
        have h2 := putS_len l 0
        rw [HR.out.size] at h2
        omega
      clear hrl
      go_wp2_with fail
      refine (ref_Uint n (by omega) w1).mono ?_
      rintro e w2 ⟨a2, c2, rfl, _, ho2, hb2⟩
      have HB2 : Hid (Below w.heap.size w w2) := HB1.out.trans (hb2.mono HB1.out.size)
      have HO2 : Hid (Own w2 w.heap.size a2 (Leb.leb n).length c2 (Leb.leb n)) := ho2.under HB1.out.size
      clear ho2 hb2
      obtain ⟨y2, hy2⟩ : ∃ y, y = (Leb.leb n).length := ⟨_, rfl⟩
      rw [← hy2] at HO2 ⊢
      clear hy2
      go_wp2
      go_loopw [4, 5] (fun t4 t5 wr => ∃ (k : Nat) (z : Int) (ax : Option Addr) (x cx : Nat) (X : List Nat) (p : Sp), k ≤ n ∧ t5 = .int .i64 (k : Int) ∧ t4 = .slice ax x cx ∧ Hid (Own wr w.heap.size ax x cx X) ∧ Hid (X ++ putS z (l.drop k) = T) ∧ Hid (p.to = z ∧ RightS p (l.drop k)) ∧ Hid (0 ≤ z ∧ z ≤ 1099511627776) ∧ Hid ((k = 0 ∧ z = 0) ∨ ∃ j q, k = j + 1 ∧ l[j]? = some q ∧ q.to = z) ∧ Hid (Below w.heap.size w wr)) (fun _ t5 _ => n - (intOf t5).toNat)
      case atStart => exact ⟨0, 0, a2, y2, c2, _, Sp.zr, by omega, rfl, rfl, HO2, HX.out.2.symm, ⟨rfl, HRS.out⟩, ⟨by omega, by omega⟩, .inl ⟨rfl, rfl⟩, HB2⟩
      case round =>
        obtain ⟨k, z, ax, x, cx, X, p, hk, rfl, rfl, HO, HE, HQ, HZ, HJ, HB⟩ := hrel
        have HXL : Hid (X.length = x ∧ x ≤ 6000) := by
          have h1 := HTL.out
          rw [← HE.out, List.length_append] at h1
          have h2 := HO.out.size
          exact ⟨h2, by omega⟩
        have hx6 := HXL.out.2
        by_cases hlt : k < n
        · have hlt' : (k : Int) < (n : Int) := by omega
          obtain ⟨g, o, rfl, hg, q, hq, _⟩ := (HR.out.below HB.out).at_ k hlt
          have hd : l.drop k = q :: l.drop (k + 1) := drop_at hq
          have HQ' := HQ.out.2
          rw [hd] at HQ'
          obtain ⟨q1, q2, q3, q4, q5, q6, q7⟩ := HQ'
          have hpz := HQ.out.1
          rw [hpz] at q1
          obtain ⟨z1, z2⟩ := HZ.out
          have HQ7 : Hid (RightS q (l.drop (k + 1))) := q7
          have HE1 : Hid (X ++ (oneS z q ++ putS q.to (l.drop (k + 1))) = T) := by
            show _ = _
            rw [← HE.out, hd, putS]
          have HQK : Hid (l[k]? = some q) := hq
          clear hq hg q6 q7 HQ hd HE hpz HZ
          obtain ⟨qf, qt, qi⟩ := q
          simp only at q1 q2 q3 q4 q5 HE1
          have HSK : Hid (∀ w', Below w.heap.size w w' → w'.cell? ⟨g, o + k * 3, none⟩ = some (.int .i64 qf) ∧ w'.cell? ⟨g, o + k * 3 + 1, none⟩ = some (.int .i64 qt) ∧ w'.cell? ⟨g, o + k * 3 + 2, none⟩ = some (.int .i64 qi)) := fun w' hb => (HR.out.below hb).cellsAt HQK.out
          obtain ⟨n1, hn1⟩ : ∃ n1 : Nat, qf - z - 1 = (n1 : Int) := ⟨(qf - z - 1).toNat, by omega⟩
          obtain ⟨n2, hn2⟩ : ∃ n2 : Nat, qt - qf = (n2 : Int) := ⟨(qt - qf).toNat, by omega⟩
          obtain ⟨n3, hn3⟩ : ∃ n3 : Nat, qi = (n3 : Int) := ⟨qi.toNat, by omega⟩
          have HE2 : Hid (X ++ (Leb.leb n1 ++ Leb.leb n2 ++ [n3] ++ putS qt (l.drop (k + 1))) = T) := by
            have h1 := HE1.out
            unfold oneS at h1
            simp only at h1
            rw [hn1, hn2, hn3] at h1
            exact h1
          have hb1 : n1 < 18446744073709551616 := by omega
          have hb2 : n2 < 18446744073709551616 := by omega
          have hb3 : n3 < 256 := by omega
          subst hn3
          clear HE1
          have hm1 := Leb.leb_length n1
          have hm2 := Leb.leb_length n2
          have HU1 : Hid (∀ w0, Calls Tryd.prog 40 #[.int .u64 (n1 : Int)] w0 (UintP n1 w0)) := ref_UintP n1 hb1
          have HU2 : Hid (∀ w0, Calls Tryd.prog 40 #[.int .u64 (n2 : Int)] w0 (UintP n2 w0)) := ref_UintP n2 hb2
          unfold UintP at HU1 HU2
          obtain ⟨T1, hT1⟩ : ∃ T1, T1 = Leb.leb n1 := ⟨_, rfl⟩
          obtain ⟨T2, hT2⟩ : ∃ T2, T2 = Leb.leb n2 := ⟨_, rfl⟩
          rw [← hT1] at HU1 hm1 HE2
          rw [← hT2] at HU2 hm2 HE2
          obtain ⟨m1, hm1e⟩ : ∃ m1, m1 = T1.length := ⟨_, rfl⟩
          obtain ⟨m2, hm2e⟩ : ∃ m2, m2 = T2.length := ⟨_, rfl⟩
          rw [← hm1e] at HU1 hm1
          rw [← hm2e] at HU2 hm2
          clear hT1 hT2 hm1e hm2e
          rcases HJ.out with ⟨hk0, hz0⟩ | ⟨j, qj, hkj, hqj, hzj⟩
          · have hkn : ¬ (0 : Int) < (k : Int) := by omega
            subst hz0
            rw [Int.sub_zero] at hn1
            have HK0 : Hid (k = 0) := hk0
            clear hk0 HJ
            obtain ⟨c0, _, _⟩ := HSK.out wr HB.out
            go_wp2_with fail
            refine (HU1.out _).mono ?_
            rintro e w3 ⟨a3, c3, rfl, hnil3, ho3, hb3'⟩
            have HB3 : Hid (Below w.heap.size w w3) := HB.out.trans (hb3'.mono HB.out.size)
            have HO3 : Hid (Own w3 wr.heap.size a3 m1 c3 T1) := ho3
            have HOX : Hid (Own w3 w.heap.size ax x cx X) := HO.out.below hb3'
            clear ho3 hb3' c0 
            go_wp2_with (at_builtin; refine wpList_append_rd rfl (.tmp 31) (.tmp 41) rfl w.heap.size ax x cx X rfl HOX.out a3 m1 c3 T1 rfl HO3.out.rd hnil3 (by omega) HB3.out.size ?_)
            intro a5 c5 w5 ho5 hg5 hb5
            have HO5 : Hid (Own w5 w.heap.size a5 (x + m1) c5 (X ++ T1)) := ho5
            have HB5 : Hid (Below w.heap.size w w5) := HB3.out.trans hb5
            clear ho5 hg5 hb5 HO3 HOX
            obtain ⟨X1, hX1⟩ : ∃ X1, X1 = X ++ T1 := ⟨_, rfl⟩
            rw [← hX1] at HO5
            have HE3 : Hid (X1 ++ (T2 ++ [n3] ++ putS qt (l.drop (k + 1))) = T) := by
              show _ = _
              rw [← HE2.out, hX1]
              simp only [List.append_assoc]
            clear hX1 HE2
            obtain ⟨x1, hx1⟩ : ∃ x1, x1 = x + m1 := ⟨_, rfl⟩
            have hx1b : x1 ≤ 6010 := by omega
            rw [← hx1] at HO5 ⊢
            clear hx1
            go_wp2
            have HBR : Hid (Below w.heap.size w w5.drew) := HB5.out.drew
            have y1 : IntKind.i64.wrap (n2 : Int) = (n2 : Int) := by rw [IntKind.wrap_i64]; omega
            have y2 : IntKind.u64.wrap (n2 : Int) = (n2 : Int) := by rw [IntKind.wrap_u64]; omega
            have HO5d : Hid (Own w5.drew w.heap.size a5 x1 c5 X1) := HO5.out.drew
            go_region_held3 (fun w' => w'.cell? ⟨g, o + (k) * 3, none⟩ = some (.int .i64 qf) ∧ w'.cell? ⟨g, o + (k) * 3 + 1, none⟩ = some (.int .i64 qt)) (first | exact ⟨(HSK.out _ HBR.out).1, (HSK.out _ HBR.out).2.1⟩ | exact ⟨(HSK.out _ HB5.out).1, (HSK.out _ HB5.out).2.1⟩ | fail)
              (first
                | (refine step_append_rd rfl (.tmp 43) (.tmp 56) rfl w.heap.size a5 x1 c5 X1 rfl HO5d.out a6 m2 c6 T2 rfl HO6.out.rd hnil6 (by omega) HBR.out.size (x1 + m2) rfl (X1 ++ T2) rfl ?_; intro a7 c7 w7 ho7 hg7 hb7; have HBR' : Hid (Below w.heap.size w w7) := HBR.out.trans hb7; have HO7 : Hid (Own w7 w.heap.size a7 (x1 + m2) c7 (X1 ++ T2)) := ho7; clear ho7 hg7 hb7 HBR HO5d HO6; have HBR := HBR'; clear HBR')
                | (go_at_call 40; refine (HU2.out _).mono ?_; rintro e w6 ⟨a6, c6, rfl, hnil6, ho6, hb6⟩; have HBR' : Hid (Below w.heap.size w w6) := HBR.out.trans (hb6.mono HBR.out.size); have HO6 : Hid (Own w6 _ a6 m2 c6 T2) := ho6; have HO5e : Hid (Own w6 w.heap.size a5 x1 c5 X1) := HO5d.out.below hb6; clear ho6 hb6 HBR HO5d; have HBR := HBR'; have HO5d := HO5e; clear HBR' HO5e))
            obtain ⟨_, _, d2⟩ := HSK.out w7 HBR.out
            obtain ⟨X2, hX2⟩ : ∃ X2, X2 = X1 ++ T2 := ⟨_, rfl⟩
            rw [← hX2] at HO7
            have HE4 : Hid (X2 ++ ([n3] ++ putS qt (l.drop (k + 1))) = T) := by
              show _ = _
              rw [← HE3.out, hX2]
              simp only [List.append_assoc]
            clear hX2 HE3
            obtain ⟨x2, hx2⟩ : ∃ x2, x2 = x1 + m2 := ⟨_, rfl⟩
            have hx2b : x2 ≤ 6030 := by omega
            rw [← hx2] at HO7 ⊢
            clear hx2
            have HO8 : Hid (Own (w7.alloc (.cells #[.int .u8 (n3 : Int)] 5)) w7.heap.size (some ⟨w7.heap.size, 0, none⟩) 1 1 [n3]) := Own.new w7 w7.heap.size #[.int .u8 (n3 : Int)] [n3] (by simpa using hb3) rfl (Nat.le_refl _) (by unfold maxLen; simp)
            have HB8 : Hid (Below w.heap.size w (w7.alloc (.cells #[.int .u8 (n3 : Int)] 5))) := HBR.out.alloc HBR.out.size _
            have HO78 : Hid (Own (w7.alloc (.cells #[.int .u8 (n3 : Int)] 5)) w.heap.size a7 x2 c7 X2) := HO7.out.below (below_new _ _)
            go_wp2_with (at_builtin; refine wpList_append_rd rfl (.tmp 58) (.tmp 65) rfl w.heap.size a7 x2 c7 X2 rfl HO78.out (some ⟨w7.heap.size, 0, none⟩) 1 1 [n3] rfl HO8.out.rd (by simp) (by omega) HB8.out.size ?_)
            intro a9 c9 w9 ho9 hg9 hb9
            have HO9 : Hid (Own w9 w.heap.size a9 (x2 + 1) c9 (X2 ++ [n3])) := ho9
            have HB9 : Hid (Below w.heap.size w w9) := HB8.out.trans hb9
            have HE9 : Hid (X2 ++ [n3] ++ putS qt (l.drop (k + 1)) = T) := by
              show _ = _
              rw [← HE4.out]
              simp only [List.append_assoc]
            clear ho9 hg9 hb9 HO8 HO78 d2 HO7 HE4
            go_wp2
            go_roundw
            case rel => exact ⟨k + 1, qt, a9, _, c9, _, ⟨qf, qt, n3⟩, by omega, by go_num, rfl, HO9, HE9, ⟨rfl, HQ7.out⟩, ⟨by omega, by omega⟩, .inr ⟨k, _, rfl, HQK.out, rfl⟩, HB9⟩
            case measure => simp [intOf]; omega
          · have hkn : (0 : Int) < (k : Int) := by omega
            have hkk : ((k : Int) - 1) = j := by omega
            have hj0 : ¬ ((j : Int) < 0) := by omega
            have hj1 : (j : Int) < (n : Int) := by omega
            have cz : wr.cell? ⟨g, o + j * 3 + 1, none⟩ = some (.int .i64 z) := by
              have := ((HR.out.below HB.out).cellsAt hqj).2.1
              rw [hzj] at this
              exact this
            clear HJ hqj hzj hkj
            obtain ⟨c0, _, _⟩ := HSK.out wr HB.out
            go_wp2_with fail
            refine (HU1.out _).mono ?_
            rintro e w3 ⟨a3, c3, rfl, hnil3, ho3, hb3'⟩
            have HB3 : Hid (Below w.heap.size w w3) := HB.out.trans (hb3'.mono HB.out.size)
            have HO3 : Hid (Own w3 wr.heap.size a3 m1 c3 T1) := ho3
            have HOX : Hid (Own w3 w.heap.size ax x cx X) := HO.out.below hb3'
            clear ho3 hb3' c0 cz hkk hj0 hj1
            go_wp2_with (at_builtin; refine wpList_append_rd rfl (.tmp 31) (.tmp 41) rfl w.heap.size ax x cx X rfl HOX.out a3 m1 c3 T1 rfl HO3.out.rd hnil3 (by omega) HB3.out.size ?_)
            intro a5 c5 w5 ho5 hg5 hb5
            have HO5 : Hid (Own w5 w.heap.size a5 (x + m1) c5 (X ++ T1)) := ho5
            have HB5 : Hid (Below w.heap.size w w5) := HB3.out.trans hb5
            clear ho5 hg5 hb5 HO3 HOX
            obtain ⟨X1, hX1⟩ : ∃ X1, X1 = X ++ T1 := ⟨_, rfl⟩
            rw [← hX1] at HO5
            have HE3 : Hid (X1 ++ (T2 ++ [n3] ++ putS qt (l.drop (k + 1))) = T) := by
              show _ = _
              rw [← HE2.out, hX1]
              simp only [List.append_assoc]
            clear hX1 HE2
            obtain ⟨x1, hx1⟩ : ∃ x1, x1 = x + m1 := ⟨_, rfl⟩
            have hx1b : x1 ≤ 6010 := by omega
            rw [← hx1] at HO5 ⊢
            clear hx1
            go_wp2
            have HBR : Hid (Below w.heap.size w w5.drew) := HB5.out.drew
            have y1 : IntKind.i64.wrap (n2 : Int) = (n2 : Int) := by rw [IntKind.wrap_i64]; omega
            have y2 : IntKind.u64.wrap (n2 : Int) = (n2 : Int) := by rw [IntKind.wrap_u64]; omega
            have HO5d : Hid (Own w5.drew w.heap.size a5 x1 c5 X1) := HO5.out.drew
            go_region_held3 (fun w' => w'.cell? ⟨g, o + (k) * 3, none⟩ = some (.int .i64 qf) ∧ w'.cell? ⟨g, o + (k) * 3 + 1, none⟩ = some (.int .i64 qt)) (first | exact ⟨(HSK.out _ HBR.out).1, (HSK.out _ HBR.out).2.1⟩ | exact ⟨(HSK.out _ HB5.out).1, (HSK.out _ HB5.out).2.1⟩ | fail)
              (first
                | (refine step_append_rd rfl (.tmp 43) (.tmp 56) rfl w.heap.size a5 x1 c5 X1 rfl HO5d.out a6 m2 c6 T2 rfl HO6.out.rd hnil6 (by omega) HBR.out.size (x1 + m2) rfl (X1 ++ T2) rfl ?_; intro a7 c7 w7 ho7 hg7 hb7; have HBR' : Hid (Below w.heap.size w w7) := HBR.out.trans hb7; have HO7 : Hid (Own w7 w.heap.size a7 (x1 + m2) c7 (X1 ++ T2)) := ho7; clear ho7 hg7 hb7 HBR HO5d HO6; have HBR := HBR'; clear HBR')
                | (go_at_call 40; refine (HU2.out _).mono ?_; rintro e w6 ⟨a6, c6, rfl, hnil6, ho6, hb6⟩; have HBR' : Hid (Below w.heap.size w w6) := HBR.out.trans (hb6.mono HBR.out.size); have HO6 : Hid (Own w6 _ a6 m2 c6 T2) := ho6; have HO5e : Hid (Own w6 w.heap.size a5 x1 c5 X1) := HO5d.out.below hb6; clear ho6 hb6 HBR HO5d; have HBR := HBR'; have HO5d := HO5e; clear HBR' HO5e))
            obtain ⟨_, _, d2⟩ := HSK.out w7 HBR.out
            obtain ⟨X2, hX2⟩ : ∃ X2, X2 = X1 ++ T2 := ⟨_, rfl⟩
            rw [← hX2] at HO7
            have HE4 : Hid (X2 ++ ([n3] ++ putS qt (l.drop (k + 1))) = T) := by
              show _ = _
              rw [← HE3.out, hX2]
              simp only [List.append_assoc]
            clear hX2 HE3
            obtain ⟨x2, hx2⟩ : ∃ x2, x2 = x1 + m2 := ⟨_, rfl⟩
            have hx2b : x2 ≤ 6030 := by omega
            rw [← hx2] at HO7 ⊢
            clear hx2
            have HO8 : Hid (Own (w7.alloc (.cells #[.int .u8 (n3 : Int)] 5)) w7.heap.size (some ⟨w7.heap.size, 0, none⟩) 1 1 [n3]) := Own.new w7 w7.heap.size #[.int .u8 (n3 : Int)] [n3] (by simpa using hb3) rfl (Nat.le_refl _) (by unfold maxLen; simp)
            have HB8 : Hid (Below w.heap.size w (w7.alloc (.cells #[.int .u8 (n3 : Int)] 5))) := HBR.out.alloc HBR.out.size _
            have HO78 : Hid (Own (w7.alloc (.cells #[.int .u8 (n3 : Int)] 5)) w.heap.size a7 x2 c7 X2) := HO7.out.below (below_new _ _)
            go_wp2_with (at_builtin; refine wpList_append_rd rfl (.tmp 58) (.tmp 65) rfl w.heap.size a7 x2 c7 X2 rfl HO78.out (some ⟨w7.heap.size, 0, none⟩) 1 1 [n3] rfl HO8.out.rd (by simp) (by omega) HB8.out.size ?_)
            intro a9 c9 w9 ho9 hg9 hb9
            have HO9 : Hid (Own w9 w.heap.size a9 (x2 + 1) c9 (X2 ++ [n3])) := ho9
            have HB9 : Hid (Below w.heap.size w w9) := HB8.out.trans hb9
            have HE9 : Hid (X2 ++ [n3] ++ putS qt (l.drop (k + 1)) = T) := by
              show _ = _
              rw [← HE4.out]
              simp only [List.append_assoc]
            clear ho9 hg9 hb9 HO8 HO78 d2 HO7 HE4
            go_wp2
            go_roundw
            case rel => exact ⟨k + 1, qt, a9, _, c9, _, ⟨qf, qt, n3⟩, by omega, by go_num, rfl, HO9, HE9, ⟨rfl, HQ7.out⟩, ⟨by omega, by omega⟩, .inr ⟨k, _, rfl, HQK.out, rfl⟩, HB9⟩
            case measure => simp [intOf]; omega
        · have hnl : ¬ (k : Int) < (n : Int) := by omega
          have HX2 : Hid (Own wr w.heap.size ax x cx T) := by
            have h1 := HE.out
            rw [List.drop_of_length_le (by rw [HR.out.size]; omega), putS, List.append_nil] at h1
            show Own _ _ _ _ _ _
            rw [← h1]
            exact HO.out
          clear HE
          go_wp2
          go_returns
          exact ⟨⟨ax, x, cx, by rw [HX.out.1]; rfl, HX2⟩, HB.out⟩
end Go.Proofs.YtbloomepdchjhaaDoor
/- grapevineref13.Put of a Tell; of any parcel. -/
namespace Go.Proofs.YtbloomepdchjhaaDoor
open Go.RowKit

set_option maxRecDepth 100000 in
set_option maxHeartbeats 4000000 in
theorem ref_Put_1 (pp ps pn pf pt : Int) (pl : List Sp) (pi : List It) (sa : Option Addr) (sn sc : Nat) (ia : Option Addr) (im ic : Nat) (w : World) (hp : PcRd w ⟨1, pp, ps, pn, pf, pt, pl, pi⟩ sa sn sc ia im ic) (hc : chk ⟨1, pp, ps, pn, pf, pt, pl, pi⟩ = 0) : Calls Tryd.prog 28 #[Pc.val ⟨1, pp, ps, pn, pf, pt, pl, pi⟩ sa sn sc ia im ic] w fun e w' => PutTold w' w.heap.size ⟨1, pp, ps, pn, pf, pt, pl, pi⟩ e ∧ Below w.heap.size w w' := by
  have HC0 : Hid (chk ⟨1, pp, ps, pn, pf, pt, pl, pi⟩ = 0) := hc
  obtain ⟨_, hnum, hnews⟩ := chk_zero hc
  have HNW : Hid (newsB 1 = true → ¬ (32 < pl.length ∨ 8 < pi.length) ∧ spB ⟨1, pp, ps, pn, pf, pt, pl, pi⟩ = true ∧ itE ⟨1, pp, ps, pn, pf, pt, pl, pi⟩ pf pi = 0) := hnews
  have hx_pub : 0 ≤ pp ∧ pp < 3 := by
    simp only [numB, pubB, namB, rngB, froB, subB, fromB, toB] at hnum
    simp at hnum
    omega
  obtain ⟨npp, hn_pub⟩ := Int.eq_ofNat_of_zero_le hx_pub.1
  have hl_pub : npp < 3 := by omega
  have hx_fr : 0 ≤ pf ∧ pf < 1099511627777 := by
    simp only [numB, pubB, namB, rngB, froB, subB, fromB, toB] at hnum
    simp at hnum
    omega
  obtain ⟨npf, hn_fr⟩ := Int.eq_ofNat_of_zero_le hx_fr.1
  have hl_fr : npf < 1099511627777 := by omega
  have hx_to_ : 0 ≤ pt ∧ pt < 1099511627777 := by
    simp only [numB, pubB, namB, rngB, froB, subB, fromB, toB] at hnum
    simp at hnum
    omega
  obtain ⟨npt, hn_to_⟩ := Int.eq_ofNat_of_zero_le hx_to_.1
  have hl_to_ : npt < 1099511627777 := by omega
  clear hx_pub hx_fr hx_to_ hnum hnews hc
  subst hn_pub hn_fr hn_to_
  have HPD : Hid (putD ⟨1, (npp : Int), ps, pn, (npf : Int), (npt : Int), pl, pi⟩ = [1] ++ (lebs [npp] ++ lebs [npf] ++ lebs [npt] ++ (putT pl ++ (lebs [pi.length] ++ putIs pi)))) := by
    show _ = _
    rw [putD, if_pos HC0.out]
    simp [putP, subB, fromB, toB, newsB, lebs]
  have HP : Hid (PcRd w ⟨1, (npp : Int), ps, pn, (npf : Int), (npt : Int), pl, pi⟩ sa sn sc ia im ic) := hp
  clear hp
  unfold Pc.val
  simp only
  have HBx : Hid (Below w.heap.size w (w.alloc (.cells #[.int .i64 1, .int .i64 (npp : Int), .int .i64 ps, .int .i64 pn, .int .i64 (npf : Int), .int .i64 (npt : Int), .slice sa sn sc, .slice ia im ic] 37))) := below_new _ _
  have HKx : Hid (Bk (w.alloc (.cells #[.int .i64 1, .int .i64 (npp : Int), .int .i64 ps, .int .i64 pn, .int .i64 (npf : Int), .int .i64 (npt : Int), .slice sa sn sc, .slice ia im ic] 37)) w.heap.size #[.int .i64 1, .int .i64 (npp : Int), .int .i64 ps, .int .i64 pn, .int .i64 (npf : Int), .int .i64 (npt : Int), .slice sa sn sc, .slice ia im ic] 37) := Bk.new _ _ _
  have hcs := ref_Check ⟨1, (npp : Int), ps, pn, (npf : Int), (npt : Int), pl, pi⟩ sa sn sc ia im ic _ (HP.out.below HBx.out)
  rw [HC0.out] at hcs
  have HCS : Hid (Calls Tryd.prog 42 #[Pc.val ⟨1, (npp : Int), ps, pn, (npf : Int), (npt : Int), pl, pi⟩ sa sn sc ia im ic] (w.alloc (.cells #[.int .i64 1, .int .i64 (npp : Int), .int .i64 ps, .int .i64 pn, .int .i64 (npf : Int), .int .i64 (npt : Int), .slice sa sn sc, .slice ia im ic] 37)) fun e w' => e = .returned (.int .i64 0) ∧ Below (w.alloc (.cells #[.int .i64 1, .int .i64 (npp : Int), .int .i64 ps, .int .i64 pn, .int .i64 (npf : Int), .int .i64 (npt : Int), .slice sa sn sc, .slice ia im ic] 37)).heap.size (w.alloc (.cells #[.int .i64 1, .int .i64 (npp : Int), .int .i64 ps, .int .i64 pn, .int .i64 (npf : Int), .int .i64 (npt : Int), .slice sa sn sc, .slice ia im ic] 37)) w') := hcs
  clear hcs
  go_enter Tryd.func28, Tryd.ntmps28
  go_wp2_with fail
  refine HCS.out.mono ?_
  rintro e w1 ⟨rfl, hb1⟩
  have HB1 : Hid (Below w.heap.size w w1) := HBx.out.trans (hb1.mono HBx.out.size)
  have HK1 : Hid (Bk w1 w.heap.size #[.int .i64 1, .int .i64 (npp : Int), .int .i64 ps, .int .i64 pn, .int .i64 (npf : Int), .int .i64 (npt : Int), .slice sa sn sc, .slice ia im ic] 37) := HKx.out.stay hb1
  clear hb1 HKx HBx HCS
  have HLT : Hid (w.heap.size < w1.heap.size) := HK1.out.lt
  have HSK : Hid (∀ w', Below w1.heap.size w1 w' → w'.cell? ⟨w.heap.size, 0, none⟩ = some (.int .i64 1) ∧ w'.cell? ⟨w.heap.size, 1, none⟩ = some (.int .i64 (npp : Int))) := fun w' hb => ⟨(HK1.out.stay hb).cell 0 rfl, (HK1.out.stay hb).cell 1 rfl⟩
  have hwk : IntKind.u8.wrap 1 = 1 := by decide
  go_wp2
  have HBN : Hid (Below w1.heap.size w1 w1.drew) := (Below.refl _ _).drew
  go_region_held3 (fun w' => w'.cell? ⟨w.heap.size, 0, none⟩ = some (.int .i64 1) ∧ w'.cell? ⟨w.heap.size, 1, none⟩ = some (.int .i64 (npp : Int))) (first | with_reducible exact HSK.out _ HBN.out | with_reducible exact HSK.out _ (Below.refl _ _) | with_reducible exact HSK.out _ (below_new _ _) | with_reducible exact HSK.out _ (below_new _ _).drew | with_reducible exact HSK.out _ (HBN.out.alloc HBN.out.size _) | with_reducible exact HSK.out _ (HBN.out.alloc HBN.out.size _).drew | exact HSK.out _ HBN.out | exact HSK.out _ (Below.refl _ _) | fail)
    (first
      | (go_at_call 43; refine (ref_num npp (by omega) _).mono ?_; rintro e w3 ⟨a3, m3, c3, he3, hm3, ho3, hb3⟩; subst he3; first
        | (have ht : Below w1.drew.heap.size w1.drew w3 := (by with_reducible exact hb3); clear ht; have HO3 : Hid (Own w3 w1.heap.size a3 m3 c3 (lebs [npp])) := ho3; have HBM : Hid (Below w1.heap.size w1 w3) := HBN.out.trans hb3; clear HBN; have HBN := HBM; clear hb3 ho3)
        | (have hb3' : Below (w1.alloc (.cells #[.int .u8 1] 5)).drew.heap.size (w1.alloc (.cells #[.int .u8 1] 5)).drew w3 := (by with_reducible exact hb3); have hX : Own (w1.alloc (.cells #[.int .u8 1] 5)).drew w1.heap.size (some ⟨w1.heap.size, 0, none⟩) 1 1 [1] := (Own.new w1 w1.heap.size #[.int .u8 1] [1] (by simp) rfl (Nat.le_refl _) (by unfold maxLen; simp)).drew; have HOK : Hid (Own w3 w1.heap.size (some ⟨w1.heap.size, 0, none⟩) 1 1 [1]) := hX.below hb3'; have HO3 : Hid (Own w3 w1.heap.size a3 m3 c3 (lebs [npp])) := ho3.under (by show _ ≤ (w1.alloc (.cells #[.int .u8 1] 5)).heap.size; simp); have HBM : Hid (Below w1.heap.size w1 w3) := ((below_new w1 _).drew).trans (hb3'.mono (by show _ ≤ (w1.alloc (.cells #[.int .u8 1] 5)).heap.size; simp)); clear HBN; have HBN := HBM; clear hb3 hb3' ho3 hX))
      | (have hz := HOK; clear hz; refine step_append_rd (by rfl) (.tmp 17) (.tmp 20) (by rfl) w1.heap.size (some ⟨w1.heap.size, 0, none⟩) 1 1 [1] (by rfl) (by first | with_reducible exact HOK.out | with_reducible exact HOK.out.drew) a3 m3 c3 (lebs [npp]) (by rfl) (by first | with_reducible exact HO3.out.rd | with_reducible exact HO3.out.rd.drew) HO3.out.nil_cap' (by omega) HBM.out.size (1 + m3) rfl ([1] ++ lebs [npp]) rfl ?_; intro a4 c4 w4 ho4 hg4 hb4; have HO4 : Hid (Own w4 w1.heap.size a4 (1 + m3) c4 ([1] ++ lebs [npp])) := ho4; have HBL : Hid (Below w1.heap.size w1 w4) := HBM.out.trans hb4; clear HBN; have HBN := HBL; clear ho4 hg4 hb4)
      | (have hz := HO3; clear hz; refine step_append_rd (by rfl) (.tmp 17) (.tmp 20) (by rfl) w1.heap.size (some ⟨w3.heap.size, 0, none⟩) 1 1 [1] (by rfl) (by first | with_reducible exact Own.new w3 w1.heap.size #[.int .u8 1] [1] (by simp) rfl HBM.out.size (by unfold maxLen; simp) | exact Own.new w3 w1.heap.size #[.int .u8 1] [1] (by simp) rfl HBM.out.size (by unfold maxLen; simp)) a3 m3 c3 (lebs [npp]) (by rfl) (by first | with_reducible exact HO3.out.rd.below (below_new _ _) | exact (HO3.out.rd.below (below_new _ _)).drew) HO3.out.nil_cap' (by omega) (Nat.le_trans HBM.out.size (by simp)) (1 + m3) rfl ([1] ++ lebs [npp]) rfl ?_; intro a4 c4 w4 ho4 hg4 hb4; have HO4 : Hid (Own w4 w1.heap.size a4 (1 + m3) c4 ([1] ++ lebs [npp])) := ho4; have HBL : Hid (Below w1.heap.size w1 w4) := (HBM.out.trans ((below_new w3 _).mono HBM.out.size)).trans hb4; clear HBN; have HBN := HBL; clear ho4 hg4 hb4))
  all_goals (
    obtain ⟨l4, hl4⟩ : ∃ l, l = 1 + m3 := ⟨_, rfl⟩
    have h4l : l4 ≤ 11 := by omega
    rw [← hl4] at HO4 ⊢
    have HB4 : Hid (Below w.heap.size w w4) := HB1.out.trans (HBL.out.mono HB1.out.size)
    have HK4 : Hid (Bk w4 w.heap.size #[.int .i64 1, .int .i64 (npp : Int), .int .i64 ps, .int .i64 pn, .int .i64 (npf : Int), .int .i64 (npt : Int), .slice sa sn sc, .slice ia im ic] 37) := HK1.out.stay HBL.out
    have HS4 : Hid (w1.heap.size ≤ w4.heap.size) := HBL.out.size
    clear hl4 HBN HBM HBL HO3
    have HNM : Hid (subB 1 = false) := rfl
    have HFM : Hid (fromB 1 = true) := rfl
    have HRM : Hid (toB 1 = true) := rfl
    have e4 : w4.cell? ⟨w.heap.size, 0, none⟩ = some (.int .i64 1) := HK4.out.cell 0 rfl
    go_wp2_with fail
    refine (ref_named 1 _).mono ?_
    rw [HNM.out]
    rintro e w' ⟨rfl, hw'⟩
    rw [hw']
    clear hw' w'
    clear e4
    have e4 : w4.cell? ⟨w.heap.size, 0, none⟩ = some (.int .i64 1) := HK4.out.cell 0 rfl
    go_wp2_with fail
    refine (ref_from 1 _).mono ?_
    rw [HFM.out]
    rintro e w' ⟨rfl, hw'⟩
    rw [hw']
    clear hw' w'
    clear e4
    have d4 : w4.cell? ⟨w.heap.size, 4, none⟩ = some (.int .i64 (npf : Int)) := HK4.out.cell 4 rfl
    go_wp2_with fail
    refine (ref_num npf (by omega) _).mono ?_
    rintro e v4 ⟨ax, mx, cx, he, hmx, hox, hbx⟩
    subst he
    have HOX : Hid (Own v4 w4.heap.size ax mx cx (lebs [npf])) := hox
    have HKX : Hid (Bk v4 w.heap.size #[.int .i64 1, .int .i64 (npp : Int), .int .i64 ps, .int .i64 pn, .int .i64 (npf : Int), .int .i64 (npt : Int), .slice sa sn sc, .slice ia im ic] 37) := HK4.out.stay hbx
    have HOY : Hid (Own v4 w1.heap.size a4 l4 c4 ([1] ++ lebs [npp])) := HO4.out.below hbx
    have HBX : Hid (Below w.heap.size w v4) := HB4.out.trans (hbx.mono HB4.out.size)
    have HSX : Hid (w1.heap.size ≤ v4.heap.size) := Nat.le_trans HS4.out hbx.size
    clear hox hbx d4
    go_wp2_with (at_builtin; refine wpList_append_rd rfl (.tmp 38) (.tmp 41) rfl w1.heap.size a4 l4 c4 ([1] ++ lebs [npp]) rfl HOY.out ax mx cx (lebs [npf]) rfl HOX.out.rd HOX.out.nil_cap' (by omega) HSX.out ?_)
    intro a5 c5 w5 ho hg hb
    obtain ⟨l5, hl5⟩ : ∃ l, l = l4 + mx := ⟨_, rfl⟩
    have h5l : l5 ≤ 21 := by omega
    rw [← hl5] at ho ⊢
    have HO5 : Hid (Own w5 w1.heap.size a5 l5 c5 ([1] ++ lebs [npp] ++ lebs [npf])) := by show Own _ _ _ _ _ _; simpa only [List.append_assoc, List.cons_append, List.nil_append] using ho
    have HK5 : Hid (Bk w5 w.heap.size #[.int .i64 1, .int .i64 (npp : Int), .int .i64 ps, .int .i64 pn, .int .i64 (npf : Int), .int .i64 (npt : Int), .slice sa sn sc, .slice ia im ic] 37) := HKX.out.kept (Kb.grown HOY.out hb hg) (by decide)
    have HB5 : Hid (Below w.heap.size w w5) := HBX.out.trans (hb.mono (Nat.le_of_lt HLT.out))
    have HS5 : Hid (w1.heap.size ≤ w5.heap.size) := Nat.le_trans HSX.out hb.size
    clear ho hg hb hl5 hmx HOX HOY HKX HBX HSX HO4 HK4 HB4 HS4
    have e5 : w5.cell? ⟨w.heap.size, 0, none⟩ = some (.int .i64 1) := HK5.out.cell 0 rfl
    go_wp2_with fail
    refine (ref_ranged 1 _).mono ?_
    rw [HRM.out]
    rintro e w' ⟨rfl, hw'⟩
    rw [hw']
    clear hw' w'
    clear e5
    have d5 : w5.cell? ⟨w.heap.size, 5, none⟩ = some (.int .i64 (npt : Int)) := HK5.out.cell 5 rfl
    go_wp2_with fail
    refine (ref_num npt (by omega) _).mono ?_
    rintro e v5 ⟨ax, mx, cx, he, hmx, hox, hbx⟩
    subst he
    have HOX : Hid (Own v5 w5.heap.size ax mx cx (lebs [npt])) := hox
    have HKX : Hid (Bk v5 w.heap.size #[.int .i64 1, .int .i64 (npp : Int), .int .i64 ps, .int .i64 pn, .int .i64 (npf : Int), .int .i64 (npt : Int), .slice sa sn sc, .slice ia im ic] 37) := HK5.out.stay hbx
    have HOY : Hid (Own v5 w1.heap.size a5 l5 c5 ([1] ++ lebs [npp] ++ lebs [npf])) := HO5.out.below hbx
    have HBX : Hid (Below w.heap.size w v5) := HB5.out.trans (hbx.mono HB5.out.size)
    have HSX : Hid (w1.heap.size ≤ v5.heap.size) := Nat.le_trans HS5.out hbx.size
    clear hox hbx d5
    go_wp2_with (at_builtin; refine wpList_append_rd rfl (.tmp 46) (.tmp 49) rfl w1.heap.size a5 l5 c5 ([1] ++ lebs [npp] ++ lebs [npf]) rfl HOY.out ax mx cx (lebs [npt]) rfl HOX.out.rd HOX.out.nil_cap' (by omega) HSX.out ?_)
    intro a6 c6 w6 ho hg hb
    obtain ⟨l6, hl6⟩ : ∃ l, l = l5 + mx := ⟨_, rfl⟩
    have h6l : l6 ≤ 31 := by omega
    rw [← hl6] at ho ⊢
    have HO6 : Hid (Own w6 w1.heap.size a6 l6 c6 ([1] ++ lebs [npp] ++ lebs [npf] ++ lebs [npt])) := by show Own _ _ _ _ _ _; simpa only [List.append_assoc, List.cons_append, List.nil_append] using ho
    have HK6 : Hid (Bk w6 w.heap.size #[.int .i64 1, .int .i64 (npp : Int), .int .i64 ps, .int .i64 pn, .int .i64 (npf : Int), .int .i64 (npt : Int), .slice sa sn sc, .slice ia im ic] 37) := HKX.out.kept (Kb.grown HOY.out hb hg) (by decide)
    have HB6 : Hid (Below w.heap.size w w6) := HBX.out.trans (hb.mono (Nat.le_of_lt HLT.out))
    have HS6 : Hid (w1.heap.size ≤ w6.heap.size) := Nat.le_trans HSX.out hb.size
    clear ho hg hb hl6 hmx HOX HOY HKX HBX HSX HO5 HK5 HB5 HS5
    have HNF : Hid (sn ≤ 32 ∧ im ≤ 8 ∧ ∀ q ∈ pi, 0 ≤ q.tick ∧ q.tick ≤ 1099511627776 ∧ q.body.length ≤ 400) := by
      obtain ⟨h1, h2, h3⟩ := HNW.out rfl
      have e1 : pl.length = sn := HP.out.spans.size
      have e2 : pi.length = im := HP.out.items.size
      refine ⟨by omega, by omega, fun q hq => ?_⟩
      have h4 := itE_zero pi _ h3 q hq
      simp only at h4
      exact ⟨by omega, by omega, h4.2.2⟩
    have HTL : Hid ((putT pl).length ≤ 700) := putT_len (by have := HNF.out.1; have e1 : pl.length = sn := HP.out.spans.size; omega)
    have HIM : Hid (pi.length = im) := HP.out.items.size
    have himb : im ≤ 8 := HNF.out.2.1
    have e6 : w6.cell? ⟨w.heap.size, 0, none⟩ = some (.int .i64 1) := HK6.out.cell 0 rfl
    have f6 : w6.cell? ⟨w.heap.size, 6, none⟩ = some (.slice sa sn sc) := HK6.out.cell 6 rfl
    go_wp2_with fail
    refine (ref_Put sa sn sc pl _ (HP.out.spans.below HB6.out) (Nat.le_trans HP.out.sl HP.out.sm)).mono ?_
    rintro e v1 ⟨⟨bx, mx, cx, rfl, hox⟩, hbx⟩
    have hmx : mx ≤ 700 := by have h1 := hox.out.size; have h2 := HTL.out; omega
    have HOX : Hid (Own v1 w6.heap.size bx mx cx (putT pl)) := hox
    have HKX : Hid (Bk v1 w.heap.size #[.int .i64 1, .int .i64 (npp : Int), .int .i64 ps, .int .i64 pn, .int .i64 (npf : Int), .int .i64 (npt : Int), .slice sa sn sc, .slice ia im ic] 37) := HK6.out.stay hbx
    have HOY : Hid (Own v1 w1.heap.size a6 l6 c6 ([1] ++ lebs [npp] ++ lebs [npf] ++ lebs [npt])) := HO6.out.below hbx
    have HBX : Hid (Below w.heap.size w v1) := HB6.out.trans (hbx.mono HB6.out.size)
    have HSX : Hid (w1.heap.size ≤ v1.heap.size) := Nat.le_trans HS6.out hbx.size
    clear hox hbx e6 f6
    go_wp2_with (at_builtin; refine wpList_append_rd rfl (.tmp 61) (.tmp 62) rfl w1.heap.size a6 l6 c6 ([1] ++ lebs [npp] ++ lebs [npf] ++ lebs [npt]) rfl HOY.out bx mx cx (putT pl) rfl HOX.out.rd HOX.out.nil_cap' (by omega) HSX.out ?_)
    intro a7 c7 w7 ho hg hb
    obtain ⟨l7, hl7⟩ : ∃ l, l = l6 + mx := ⟨_, rfl⟩
    have h7l : l7 ≤ 800 := by omega
    rw [← hl7] at ho ⊢
    obtain ⟨X7, hX7⟩ : ∃ X7 : List Nat, X7 = [1] ++ lebs [npp] ++ lebs [npf] ++ lebs [npt] ++ putT pl := ⟨_, rfl⟩
    have HX7 : Hid (X7 = [1] ++ lebs [npp] ++ lebs [npf] ++ lebs [npt] ++ putT pl) := hX7
    clear hX7
    have HO7 : Hid (Own w7 w1.heap.size a7 l7 c7 X7) := by show Own _ _ _ _ _ _; rw [HX7.out]; simpa only [List.append_assoc, List.cons_append, List.nil_append] using ho
    have HK7 : Hid (Bk w7 w.heap.size #[.int .i64 1, .int .i64 (npp : Int), .int .i64 ps, .int .i64 pn, .int .i64 (npf : Int), .int .i64 (npt : Int), .slice sa sn sc, .slice ia im ic] 37) := HKX.out.kept (Kb.grown HOY.out hb hg) (by decide)
    have HB7 : Hid (Below w.heap.size w w7) := HBX.out.trans (hb.mono (Nat.le_of_lt HLT.out))
    have HS7 : Hid (w1.heap.size ≤ w7.heap.size) := Nat.le_trans HSX.out hb.size
    clear ho hg hb hl7 hmx HOX HOY HKX HBX HSX HO6 HK6 HB6 HS6
    have d7 : w7.cell? ⟨w.heap.size, 7, none⟩ = some (.slice ia im ic) := HK7.out.cell 7 rfl
    go_wp2_with fail
    refine (ref_num im (by omega) _).mono ?_
    rintro e v2 ⟨ax, mx, cx, he, hmx, hox, hbx⟩
    subst he
    have HOX : Hid (Own v2 w7.heap.size ax mx cx (lebs [im])) := hox
    have HKX : Hid (Bk v2 w.heap.size #[.int .i64 1, .int .i64 (npp : Int), .int .i64 ps, .int .i64 pn, .int .i64 (npf : Int), .int .i64 (npt : Int), .slice sa sn sc, .slice ia im ic] 37) := HK7.out.stay hbx
    have HOY : Hid (Own v2 w1.heap.size a7 l7 c7 X7) := HO7.out.below hbx
    have HBX : Hid (Below w.heap.size w v2) := HB7.out.trans (hbx.mono HB7.out.size)
    have HSX : Hid (w1.heap.size ≤ v2.heap.size) := Nat.le_trans HS7.out hbx.size
    clear hox hbx d7
    go_wp2_with (at_builtin; refine wpList_append_rd rfl (.tmp 64) (.tmp 68) rfl w1.heap.size a7 l7 c7 X7 rfl HOY.out ax mx cx (lebs [im]) rfl HOX.out.rd HOX.out.nil_cap' (by omega) HSX.out ?_)
    intro a8 c8 w8 ho hg hb
    obtain ⟨l8, hl8⟩ : ∃ l, l = l7 + mx := ⟨_, rfl⟩
    have h8l : l8 ≤ 900 := by omega
    rw [← hl8] at ho ⊢
    have HO8 : Hid (Own w8 w1.heap.size a8 l8 c8 (X7 ++ lebs [im])) := ho
    have HK8 : Hid (Bk w8 w.heap.size #[.int .i64 1, .int .i64 (npp : Int), .int .i64 ps, .int .i64 pn, .int .i64 (npf : Int), .int .i64 (npt : Int), .slice sa sn sc, .slice ia im ic] 37) := HKX.out.kept (Kb.grown HOY.out hb hg) (by decide)
    have HB8 : Hid (Below w.heap.size w w8) := HBX.out.trans (hb.mono (Nat.le_of_lt HLT.out))
    have HS8 : Hid (w1.heap.size ≤ w8.heap.size) := Nat.le_trans HSX.out hb.size
    clear ho hg hb hl8 hmx HOX HOY HKX HBX HSX HO7 HK7 HB7 HS7
    obtain ⟨T, HT⟩ : ∃ T, Hid (T = X7 ++ lebs [im] ++ putIs pi) := ⟨_, rfl⟩
    have HTT : Hid (T.length ≤ 9000) := by
      show _ ≤ _
      have h0 := HO8.out.size
      rw [HT.out, List.length_append, h0]
      have h3 := putIs_len pi fun q hq => (HNF.out.2.2 q hq).2.2
      rw [HIM.out] at h3
      omega
    go_wp2
    go_loopw [5, 8] (fun t5 t8 wr => ∃ (k : Nat) (ax : Option Addr) (x cx : Nat) (X : List Nat), k ≤ im ∧ t8 = .int .i64 (k : Int) ∧ t5 = .slice ax x cx ∧ Hid (Own wr w1.heap.size ax x cx X) ∧ Hid (X ++ putIs (pi.drop k) = T) ∧ Hid (Bk wr w.heap.size #[.int .i64 1, .int .i64 (npp : Int), .int .i64 ps, .int .i64 pn, .int .i64 (npf : Int), .int .i64 (npt : Int), .slice sa sn sc, .slice ia im ic] 37) ∧ Hid (Below w.heap.size w wr) ∧ Hid (w1.heap.size ≤ wr.heap.size)) (fun _ t8 _ => im - (intOf t8).toNat)
    case atStart => exact ⟨0, a8, l8, c8, _, by omega, rfl, rfl, HO8, by show _ = _; rw [HT.out]; rfl, HK8, HB8, HS8⟩
    case round =>
      obtain ⟨k, ax, x, cx, X, hk, rfl, rfl, HOr, HE, HKr, HBr, HSr⟩ := hrel
      clear HO8 HB8 HK8
      have hx6 : x ≤ 9000 := by
        have h1 := HTT.out
        rw [← HE.out, List.length_append] at h1
        have h2 := HOr.out.size
        omega
      have r7 : wr.cell? ⟨w.heap.size, 7, none⟩ = some (.slice ia im ic) := HKr.out.cell 7 rfl
      by_cases hlt : k < im
      · have hlt' : (k : Int) < (im : Int) := by omega
        obtain ⟨g, o, rfl, q, ba, bl, bc, hq, hnc, hbl, hbc, hqb, hall⟩ := HP.out.items.far k hlt
        have HD : Hid (pi.drop k = q :: pi.drop (k + 1)) := it_at hq
        have hq4 := HNF.out.2.2 q (List.mem_of_getElem? hq)
        have hq5 := (HP.out.items.each q (List.mem_of_getElem? hq)).2
        obtain ⟨qt, qf, qb⟩ := q
        simp only at hq4 hq5 hqb hall
        obtain ⟨tn, rfl⟩ := Int.eq_ofNat_of_zero_le hq4.1
        obtain ⟨fn, rfl⟩ := Int.eq_ofNat_of_zero_le hq5.1
        have ht5 : tn ≤ 1099511627776 := by omega
        have hf5 : fn ≤ 4294967295 := by omega
        have hb4 : bl ≤ 400 := by omega
        have HAL : Hid (∀ w', Below w.heap.size w w' → w'.cell? ⟨g, o + k * 3, none⟩ = some (.int .i64 (tn : Int)) ∧ w'.cell? ⟨g, o + k * 3 + 1, none⟩ = some (.int .u32 (fn : Int)) ∧ w'.cell? ⟨g, o + k * 3 + 2, none⟩ = some (.slice ba bl bc) ∧ Rd w' ba bl qb) := hall
        have HQB : Hid (qb.length = bl) := hqb
        have HNC : Hid (ba = none → bc = 0) := hnc
        clear hq hnc hbl hbc hq4 hq5 hqb hall
        have c0 := (HAL.out wr HBr.out).1
        go_wp2_with fail
        refine (ref_num tn (by omega) _).mono ?_
        rintro e v3 ⟨ay, my, cy, he, hmx, hox, hbx⟩
        subst he
        have HOX : Hid (Own v3 wr.heap.size ay my cy (lebs [tn])) := hox
        have HKX : Hid (Bk v3 w.heap.size #[.int .i64 1, .int .i64 (npp : Int), .int .i64 ps, .int .i64 pn, .int .i64 (npf : Int), .int .i64 (npt : Int), .slice sa sn sc, .slice (some ⟨g, o, none⟩) im ic] 37) := HKr.out.stay hbx
        have HOY : Hid (Own v3 w1.heap.size ax x cx (X)) := HOr.out.below hbx
        have HBX : Hid (Below w.heap.size w v3) := HBr.out.trans (hbx.mono HBr.out.size)
        have HSX : Hid (w1.heap.size ≤ v3.heap.size) := Nat.le_trans HSr.out hbx.size
        clear hox hbx r7 c0
        go_wp2_with (at_builtin; refine wpList_append_rd rfl (.tmp 77) (.tmp 84) rfl w1.heap.size ax x cx (X) rfl HOY.out ay my cy (lebs [tn]) rfl HOX.out.rd HOX.out.nil_cap' (by omega) HSX.out ?_)
        intro aa ca wa ho hg hb
        obtain ⟨la, hla⟩ : ∃ l, l = x + my := ⟨_, rfl⟩
        have hal : la ≤ 9010 := by omega
        rw [← hla] at ho ⊢
        have HOa : Hid (Own wa w1.heap.size aa la ca (X ++ lebs [tn])) := by show Own _ _ _ _ _ _; simpa only [List.append_assoc] using ho
        have HKa : Hid (Bk wa w.heap.size #[.int .i64 1, .int .i64 (npp : Int), .int .i64 ps, .int .i64 pn, .int .i64 (npf : Int), .int .i64 (npt : Int), .slice sa sn sc, .slice (some ⟨g, o, none⟩) im ic] 37) := HKX.out.kept (Kb.grown HOY.out hb hg) (by decide)
        have HBa : Hid (Below w.heap.size w wa) := HBX.out.trans (hb.mono (Nat.le_of_lt HLT.out))
        have HSa : Hid (w1.heap.size ≤ wa.heap.size) := Nat.le_trans HSX.out hb.size
        clear ho hg hb hla hmx HOX HOY HKX HBX HSX HOr HKr HBr HSr
        have p7 : wa.cell? ⟨w.heap.size, 7, none⟩ = some (.slice (some ⟨g, o, none⟩) im ic) := HKa.out.cell 7 rfl
        have p1 := (HAL.out wa HBa.out).2.1
        go_wp2_with fail
        refine (ref_num fn (by omega) _).mono ?_
        rintro e v3 ⟨ay, my, cy, he, hmx, hox, hbx⟩
        subst he
        have HOX : Hid (Own v3 wa.heap.size ay my cy (lebs [fn])) := hox
        have HKX : Hid (Bk v3 w.heap.size #[.int .i64 1, .int .i64 (npp : Int), .int .i64 ps, .int .i64 pn, .int .i64 (npf : Int), .int .i64 (npt : Int), .slice sa sn sc, .slice (some ⟨g, o, none⟩) im ic] 37) := HKa.out.stay hbx
        have HOY : Hid (Own v3 w1.heap.size aa la ca (X ++ lebs [tn])) := HOa.out.below hbx
        have HBX : Hid (Below w.heap.size w v3) := HBa.out.trans (hbx.mono HBa.out.size)
        have HSX : Hid (w1.heap.size ≤ v3.heap.size) := Nat.le_trans HSa.out hbx.size
        clear hox hbx p7 p1
        go_wp2_with (at_builtin; refine wpList_append_rd rfl (.tmp 86) (.tmp 94) rfl w1.heap.size aa la ca (X ++ lebs [tn]) rfl HOY.out ay my cy (lebs [fn]) rfl HOX.out.rd HOX.out.nil_cap' (by omega) HSX.out ?_)
        intro ab cb wb ho hg hb
        obtain ⟨lb, hlb⟩ : ∃ l, l = la + my := ⟨_, rfl⟩
        have hbl : lb ≤ 9020 := by omega
        rw [← hlb] at ho ⊢
        have HOb : Hid (Own wb w1.heap.size ab lb cb (X ++ lebs [tn] ++ lebs [fn])) := by show Own _ _ _ _ _ _; simpa only [List.append_assoc] using ho
        have HKb : Hid (Bk wb w.heap.size #[.int .i64 1, .int .i64 (npp : Int), .int .i64 ps, .int .i64 pn, .int .i64 (npf : Int), .int .i64 (npt : Int), .slice sa sn sc, .slice (some ⟨g, o, none⟩) im ic] 37) := HKX.out.kept (Kb.grown HOY.out hb hg) (by decide)
        have HBb : Hid (Below w.heap.size w wb) := HBX.out.trans (hb.mono (Nat.le_of_lt HLT.out))
        have HSb : Hid (w1.heap.size ≤ wb.heap.size) := Nat.le_trans HSX.out hb.size
        clear ho hg hb hlb hmx HOX HOY HKX HBX HSX HOa HKa HBa HSa
        have p7 : wb.cell? ⟨w.heap.size, 7, none⟩ = some (.slice (some ⟨g, o, none⟩) im ic) := HKb.out.cell 7 rfl
        have p2 := (HAL.out wb HBb.out).2.2.1
        go_wp2_with fail
        refine (ref_num bl (by omega) _).mono ?_
        rintro e v3 ⟨ay, my, cy, he, hmx, hox, hbx⟩
        subst he
        have HOX : Hid (Own v3 wb.heap.size ay my cy (lebs [bl])) := hox
        have HKX : Hid (Bk v3 w.heap.size #[.int .i64 1, .int .i64 (npp : Int), .int .i64 ps, .int .i64 pn, .int .i64 (npf : Int), .int .i64 (npt : Int), .slice sa sn sc, .slice (some ⟨g, o, none⟩) im ic] 37) := HKb.out.stay hbx
        have HOY : Hid (Own v3 w1.heap.size ab lb cb (X ++ lebs [tn] ++ lebs [fn])) := HOb.out.below hbx
        have HBX : Hid (Below w.heap.size w v3) := HBb.out.trans (hbx.mono HBb.out.size)
        have HSX : Hid (w1.heap.size ≤ v3.heap.size) := Nat.le_trans HSb.out hbx.size
        clear hox hbx p7 p2
        go_wp2_with (at_builtin; refine wpList_append_rd rfl (.tmp 96) (.tmp 104) rfl w1.heap.size ab lb cb (X ++ lebs [tn] ++ lebs [fn]) rfl HOY.out ay my cy (lebs [bl]) rfl HOX.out.rd HOX.out.nil_cap' (by omega) HSX.out ?_)
        intro ac cc wc ho hg hb
        obtain ⟨lc, hlc⟩ : ∃ l, l = lb + my := ⟨_, rfl⟩
        have hcl : lc ≤ 9030 := by omega
        rw [← hlc] at ho ⊢
        have HOc : Hid (Own wc w1.heap.size ac lc cc (X ++ lebs [tn] ++ lebs [fn] ++ lebs [bl])) := by show Own _ _ _ _ _ _; simpa only [List.append_assoc] using ho
        have HKc : Hid (Bk wc w.heap.size #[.int .i64 1, .int .i64 (npp : Int), .int .i64 ps, .int .i64 pn, .int .i64 (npf : Int), .int .i64 (npt : Int), .slice sa sn sc, .slice (some ⟨g, o, none⟩) im ic] 37) := HKX.out.kept (Kb.grown HOY.out hb hg) (by decide)
        have HBc : Hid (Below w.heap.size w wc) := HBX.out.trans (hb.mono (Nat.le_of_lt HLT.out))
        have HSc : Hid (w1.heap.size ≤ wc.heap.size) := Nat.le_trans HSX.out hb.size
        clear ho hg hb hlc hmx HOX HOY HKX HBX HSX HOb HKb HBb HSb
        have p7 : wc.cell? ⟨w.heap.size, 7, none⟩ = some (.slice (some ⟨g, o, none⟩) im ic) := HKc.out.cell 7 rfl
        have p2 := (HAL.out wc HBc.out).2.2.1
        have HRD : Hid (Rd wc ba bl qb) := (HAL.out wc HBc.out).2.2.2
        go_wp2_with (at_builtin; refine wpList_append_rd rfl (.tmp 106) (.tmp 112) rfl w1.heap.size ac lc cc (X ++ lebs [tn] ++ lebs [fn] ++ lebs [bl]) rfl HOc.out ba bl bc qb rfl HRD.out HNC.out (by omega) HSc.out ?_)
        intro ad cd wd ho hg hb
        have HOd : Hid (Own wd w1.heap.size ad (lc + bl) cd (X ++ lebs [tn] ++ lebs [fn] ++ lebs [bl] ++ qb)) := by show Own _ _ _ _ _ _; simpa only [List.append_assoc] using ho
        have HKd : Hid (Bk wd w.heap.size #[.int .i64 1, .int .i64 (npp : Int), .int .i64 ps, .int .i64 pn, .int .i64 (npf : Int), .int .i64 (npt : Int), .slice sa sn sc, .slice (some ⟨g, o, none⟩) im ic] 37) := HKc.out.kept (Kb.grown HOc.out hb hg) (by decide)
        have HBd : Hid (Below w.heap.size w wd) := HBc.out.trans (hb.mono (Nat.le_of_lt HLT.out))
        have HSd : Hid (w1.heap.size ≤ wd.heap.size) := Nat.le_trans HSc.out hb.size
        have HEd : Hid ((X ++ lebs [tn] ++ lebs [fn] ++ lebs [bl] ++ qb) ++ putIs (pi.drop (k + 1)) = T) := by
          show _ = _
          rw [← HE.out, HD.out, putIs_cons, putI]
          simp [HQB.out, List.append_assoc, lebs]
        clear ho hg hb HE HOc HKc HBc HSc p7 p2
        go_wp2
        go_roundw
        case rel => exact ⟨k + 1, ad, lc + bl, cd, _, by omega, by go_num, rfl, HOd, HEd, HKd, HBd, HSd⟩
        case measure => simp [intOf]; omega
      · have hnl' : ¬ (k : Int) < (im : Int) := by omega
        have HX : Hid (X = T) := by
          show _ = _
          rw [← HE.out, List.drop_of_length_le (by rw [HIM.out]; omega)]
          simp [putIs]
        clear HE
        go_wp2
        go_returns
        refine ⟨⟨ax, x, cx, by rw [HC0.out]; rfl, ?_⟩, HBr.out⟩
        rw [HPD.out]
        have h := HOr.out.under (show w.heap.size ≤ w1.heap.size by have := HLT.out; omega)
        rw [HX.out, HT.out, HX7.out] at h
        simpa [List.append_assoc, HIM.out] using h)

theorem ref_Put13 (p : Pc) (sa : Option Addr) (sn sc : Nat) (ia : Option Addr) (im ic : Nat) (w : World) (hp : PcRd w p sa sn sc ia im ic) : Calls Tryd.prog 28 #[p.val sa sn sc ia im ic] w fun e w' => PutTold w' w.heap.size p e ∧ Below w.heap.size w w' := by
  by_cases hc : chk p = 0
  · obtain ⟨pk, pp, ps, pn, pf, pt, pl, pi⟩ := p
    rcases kinds (chk_zero hc).1 with h | h | h | h | h | h <;> (simp only at h; subst h)
    · exact ref_Put_1 pp ps pn pf pt pl pi sa sn sc ia im ic w hp hc
    · exact ref_Put_2 pp ps pn pf pt pl pi sa sn sc ia im ic w hp hc
    · exact ref_Put_3 pp ps pn pf pt pl pi sa sn sc ia im ic w hp hc
    · exact ref_Put_4 pp ps pn pf pt pl pi sa sn sc ia im ic w hp hc
    · exact ref_Put_5 pp ps pn pf pt pl pi sa sn sc ia im ic w hp hc
    · exact ref_Put_6 pp ps pn pf pt pl pi sa sn sc ia im ic w hp hc
  · exact ref_Put_err p sa sn sc ia im ic w hp hc
end Go.Proofs.YtbloomepdchjhaaDoor
