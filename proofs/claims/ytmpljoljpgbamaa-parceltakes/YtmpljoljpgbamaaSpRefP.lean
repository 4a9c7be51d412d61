/- grapevineref08.Put: a map's bytes. -/
import Derived.Test.YtmpljoljpgbamaaSpPutM
import Derived.Test.YtmpljoljpgbamaaSpRefR
import Derived.Test.YtmpljoljpgbamaaStep
import Derived.Deep.RegionHeld3
namespace Go.Proofs.Ytmpljoljpgbamaa
open Go.RowKit

theorem SpsRd.cellsAt {w : World} {g o n : Nat} {l : List Sp} {k : Nat} {q : Sp} (h : SpsRd w (some ⟨g, o, none⟩) n l) (hq : l[k]? = some q) : w.cell? ⟨g, o + k * 3, none⟩ = some (.int .i64 q.fr) ∧ w.cell? ⟨g, o + k * 3 + 1, none⟩ = some (.int .i64 q.to) ∧ w.cell? ⟨g, o + k * 3 + 2, none⟩ = some (.int .i64 q.is) := by
  rcases h.cells with h0 | ⟨g', o', ha, _, hc⟩
  · rw [h0] at hq; simp at hq
  · simp only [Option.some.injEq, Addr.mk.injEq, and_true] at ha
    obtain ⟨rfl, rfl⟩ := ha
    exact hc k q hq

def UintP (m : Nat) (w0 : World) (e : Ending) (w' : World) : Prop := ∃ a6 c6, e = .returned (.slice a6 (Leb.leb m).length c6) ∧ (a6 = none → c6 = 0) ∧ Own w' w0.heap.size a6 (Leb.leb m).length c6 (Leb.leb m) ∧ Below w0.heap.size w0 w'
theorem ref_UintP (m : Nat) (hm : m < 18446744073709551616) (w0 : World) : Calls Try.prog 47 #[.int .u64 (m : Int)] w0 (UintP m w0) :=
  (ref_Uint m hm w0).mono fun _ _ ⟨a6, c6, h1, h2, h3, h4⟩ => ⟨a6, c6, h1, fun h => absurd h h2, h3, h4⟩

set_option maxRecDepth 100000 in
set_option maxHeartbeats 2000000 in
theorem ref_Put (a : Option Addr) (n cap : Nat) (l : List Sp) (w : World) (hr : SpsRd w a n l) (hn : n ≤ maxLen) :
    Calls Try.prog 35 #[.slice a n cap] w fun e w' => (∃ b m c, e = .returned (.tuple #[.slice b m c, .int .i64 (putE l)]) ∧ Hid (Own w' w.heap.size b m c (putT l))) ∧ Below w.heap.size w w' := by
  have HR : Hid (SpsRd w a n l) := hr
  have HN : Hid (n ≤ maxLen) := hn
  obtain ⟨y, HXE⟩ : ∃ x, Hid (x = putE l) := ⟨_, rfl⟩
  obtain ⟨T, HXT⟩ : ∃ x, Hid (x = putT l) := ⟨_, rfl⟩
  rw [← HXE.out, ← HXT.out]
  unfold maxLen at hn
  clear hr
  go_enter Try.func35, Try.ntmps35
  go_wp2_with fail
  refine (ref_Right a n cap l w HR.out HN.out).mono ?_
  rintro e w1 ⟨rfl, hb1⟩
  have HB1 : Hid (Below w.heap.size w w1) := hb1
  clear hb1
  cases hrl : rightB Sp.zr l with
  | false =>
    have HX : Hid (y = 2 ∧ T = []) := ⟨HXE.out.trans (put_bad hrl).1, HXT.out.trans (put_bad hrl).2⟩
    clear hrl
    go_wp2
    go_returns
    exact ⟨⟨none, 0, 0, by rw [HX.out.1]; rfl, by show Own _ _ _ _ _ _; rw [HX.out.2]; exact Own.none_ _ _⟩, HB1.out⟩
  | true =>
    by_cases h256 : 256 < n
    · have HX : Hid (y = 6 ∧ T = []) := by
        have h2 : 256 < l.length := by rw [HR.out.size]; exact h256
        exact ⟨HXE.out.trans (put_long hrl h2).1, HXT.out.trans (put_long hrl h2).2⟩
      have h256' : (256 : Int) < (n : Int) := by omega
      clear hrl
      go_wp2
      go_returns
      exact ⟨⟨none, 0, 0, by rw [HX.out.1]; rfl, by show Own _ _ _ _ _ _; rw [HX.out.2]; exact Own.none_ _ _⟩, HB1.out⟩
    · have HX : Hid (y = 0 ∧ T = Leb.leb n ++ putS 0 l) := by
        have h2 : ¬ 256 < l.length := by rw [HR.out.size]; exact h256
        have := put_ok hrl h2
        rw [HR.out.size] at this
        exact ⟨HXE.out.trans this.1, HXT.out.trans this.2⟩
      have h256' : ¬ (256 : Int) < (n : Int) := by omega
      have HRS : Hid (RightS Sp.zr l) := (rightB_iff _ _).1 hrl
      have HTL : Hid (T.length ≤ 6000) := by
        show _ ≤ _
        rw [HX.out.2, List.length_append]
        have h1 := Leb.leb_length n
        have h2 := putS_len l 0
        rw [HR.out.size] at h2
        omega
      clear hrl
      go_wp2_with fail
      refine (ref_Uint n (by omega) w1).mono ?_
      rintro e w2 ⟨a2, c2, rfl, _, ho2, hb2⟩
      have HB2 : Hid (Below w.heap.size w w2) := HB1.out.trans (hb2.mono HB1.out.size)
      have HO2 : Hid (Own w2 w.heap.size a2 (Leb.leb n).length c2 (Leb.leb n)) := ho2.under HB1.out.size
      clear ho2 hb2
      obtain ⟨y2, hy2⟩ : ∃ y, y = (Leb.leb n).length := ⟨_, rfl⟩
      rw [← hy2] at HO2 ⊢
      clear hy2
      go_wp2
      go_loopw [4, 5] (fun t4 t5 wr => ∃ (k : Nat) (z : Int) (ax : Option Addr) (x cx : Nat) (X : List Nat) (p : Sp), k ≤ n ∧ t5 = .int .i64 (k : Int) ∧ t4 = .slice ax x cx ∧ Hid (Own wr w.heap.size ax x cx X) ∧ Hid (X ++ putS z (l.drop k) = T) ∧ Hid (p.to = z ∧ RightS p (l.drop k)) ∧ Hid (0 ≤ z ∧ z ≤ 1099511627776) ∧ Hid ((k = 0 ∧ z = 0) ∨ ∃ j q, k = j + 1 ∧ l[j]? = some q ∧ q.to = z) ∧ Hid (Below w.heap.size w wr)) (fun _ t5 _ => n - (intOf t5).toNat)
      case atStart => exact ⟨0, 0, a2, y2, c2, _, Sp.zr, by omega, rfl, rfl, HO2, HX.out.2.symm, ⟨rfl, HRS.out⟩, ⟨by omega, by omega⟩, .inl ⟨rfl, rfl⟩, HB2⟩
      case round =>
        obtain ⟨k, z, ax, x, cx, X, p, hk, rfl, rfl, HO, HE, HQ, HZ, HJ, HB⟩ := hrel
        have HXL : Hid (X.length = x ∧ x ≤ 6000) := by
          have h1 := HTL.out
          rw [← HE.out, List.length_append] at h1
          have h2 := HO.out.size
          exact ⟨h2, by omega⟩
        have hx6 := HXL.out.2
        by_cases hlt : k < n
        · have hlt' : (k : Int) < (n : Int) := by omega
          obtain ⟨g, o, rfl, hg, q, hq, _⟩ := (HR.out.below HB.out).at_ k hlt
          have hd : l.drop k = q :: l.drop (k + 1) := drop_at hq
          have HQ' := HQ.out.2
          rw [hd] at HQ'
          obtain ⟨q1, q2, q3, q4, q5, q6, q7⟩ := HQ'
          have hpz := HQ.out.1
          rw [hpz] at q1
          obtain ⟨z1, z2⟩ := HZ.out
          have HQ7 : Hid (RightS q (l.drop (k + 1))) := q7
          have HE1 : Hid (X ++ (oneS z q ++ putS q.to (l.drop (k + 1))) = T) := by
            show _ = _
            rw [← HE.out, hd, putS]
          have HQK : Hid (l[k]? = some q) := hq
          clear hq hg q6 q7 HQ hd HE hpz HZ
          obtain ⟨qf, qt, qi⟩ := q
          simp only at q1 q2 q3 q4 q5 HE1
          have HSK : Hid (∀ w', Below w.heap.size w w' → w'.cell? ⟨g, o + k * 3, none⟩ = some (.int .i64 qf) ∧ w'.cell? ⟨g, o + k * 3 + 1, none⟩ = some (.int .i64 qt) ∧ w'.cell? ⟨g, o + k * 3 + 2, none⟩ = some (.int .i64 qi)) := fun w' hb => (HR.out.below hb).cellsAt HQK.out
          obtain ⟨n1, hn1⟩ : ∃ n1 : Nat, qf - z - 1 = (n1 : Int) := ⟨(qf - z - 1).toNat, by omega⟩
          obtain ⟨n2, hn2⟩ : ∃ n2 : Nat, qt - qf = (n2 : Int) := ⟨(qt - qf).toNat, by omega⟩
          obtain ⟨n3, hn3⟩ : ∃ n3 : Nat, qi = (n3 : Int) := ⟨qi.toNat, by omega⟩
          have HE2 : Hid (X ++ (Leb.leb n1 ++ Leb.leb n2 ++ [n3] ++ putS qt (l.drop (k + 1))) = T) := by
            have h1 := HE1.out
            unfold oneS at h1
            simp only at h1
            rw [hn1, hn2, hn3] at h1
            exact h1
          have hb1 : n1 < 18446744073709551616 := by omega
          have hb2 : n2 < 18446744073709551616 := by omega
          have hb3 : n3 < 256 := by omega
          subst hn3
          clear HE1
          have hm1 := Leb.leb_length n1
          have hm2 := Leb.leb_length n2
          have HU1 : Hid (∀ w0, Calls Try.prog 47 #[.int .u64 (n1 : Int)] w0 (UintP n1 w0)) := ref_UintP n1 hb1
          have HU2 : Hid (∀ w0, Calls Try.prog 47 #[.int .u64 (n2 : Int)] w0 (UintP n2 w0)) := ref_UintP n2 hb2
          unfold UintP at HU1 HU2
          obtain ⟨T1, hT1⟩ : ∃ T1, T1 = Leb.leb n1 := ⟨_, rfl⟩
          obtain ⟨T2, hT2⟩ : ∃ T2, T2 = Leb.leb n2 := ⟨_, rfl⟩
          rw [← hT1] at HU1 hm1 HE2
          rw [← hT2] at HU2 hm2 HE2
          obtain ⟨m1, hm1e⟩ : ∃ m1, m1 = T1.length := ⟨_, rfl⟩
          obtain ⟨m2, hm2e⟩ : ∃ m2, m2 = T2.length := ⟨_, rfl⟩
          rw [← hm1e] at HU1 hm1
          rw [← hm2e] at HU2 hm2
          clear hT1 hT2 hm1e hm2e
          rcases HJ.out with ⟨hk0, hz0⟩ | ⟨j, qj, hkj, hqj, hzj⟩
          · have hkn : ¬ (0 : Int) < (k : Int) := by omega
            subst hz0
            rw [Int.sub_zero] at hn1
            have HK0 : Hid (k = 0) := hk0
            clear hk0 HJ
            obtain ⟨c0, _, _⟩ := HSK.out wr HB.out
            go_wp2_with fail
            refine (HU1.out _).mono ?_
            rintro e w3 ⟨a3, c3, rfl, hnil3, ho3, hb3'⟩
            have HB3 : Hid (Below w.heap.size w w3) := HB.out.trans (hb3'.mono HB.out.size)
            have HO3 : Hid (Own w3 wr.heap.size a3 m1 c3 T1) := ho3
            have HOX : Hid (Own w3 w.heap.size ax x cx X) := HO.out.below hb3'
            clear ho3 hb3' c0 
            go_wp2_with (at_builtin; refine wpList_append_rd rfl (.tmp 31) (.tmp 41) rfl w.heap.size ax x cx X rfl HOX.out a3 m1 c3 T1 rfl HO3.out.rd hnil3 (by omega) HB3.out.size ?_)
            intro a5 c5 w5 ho5 hg5 hb5
            have HO5 : Hid (Own w5 w.heap.size a5 (x + m1) c5 (X ++ T1)) := ho5
            have HB5 : Hid (Below w.heap.size w w5) := HB3.out.trans hb5
            clear ho5 hg5 hb5 HO3 HOX
            obtain ⟨X1, hX1⟩ : ∃ X1, X1 = X ++ T1 := ⟨_, rfl⟩
            rw [← hX1] at HO5
            have HE3 : Hid (X1 ++ (T2 ++ [n3] ++ putS qt (l.drop (k + 1))) = T) := by
              show _ = _
              rw [← HE2.out, hX1]
              simp only [List.append_assoc]
            clear hX1 HE2
            obtain ⟨x1, hx1⟩ : ∃ x1, x1 = x + m1 := ⟨_, rfl⟩
            have hx1b : x1 ≤ 6010 := by omega
            rw [← hx1] at HO5 ⊢
            clear hx1
            go_wp2
            have HBR : Hid (Below w.heap.size w w5.drew) := HB5.out.drew
            have y1 : IntKind.i64.wrap (n2 : Int) = (n2 : Int) := by rw [IntKind.wrap_i64]; omega
            have y2 : IntKind.u64.wrap (n2 : Int) = (n2 : Int) := by rw [IntKind.wrap_u64]; omega
            have HO5d : Hid (Own w5.drew w.heap.size a5 x1 c5 X1) := HO5.out.drew
            go_region_held3 (fun w' => w'.cell? ⟨g, o + (k) * 3, none⟩ = some (.int .i64 qf) ∧ w'.cell? ⟨g, o + (k) * 3 + 1, none⟩ = some (.int .i64 qt)) (first | exact ⟨(HSK.out _ HBR.out).1, (HSK.out _ HBR.out).2.1⟩ | exact ⟨(HSK.out _ HB5.out).1, (HSK.out _ HB5.out).2.1⟩ | fail)
              (first
                | (refine step_append_rd rfl (.tmp 43) (.tmp 56) rfl w.heap.size a5 x1 c5 X1 rfl HO5d.out a6 m2 c6 T2 rfl HO6.out.rd hnil6 (by omega) HBR.out.size (x1 + m2) rfl (X1 ++ T2) rfl ?_; intro a7 c7 w7 ho7 hg7 hb7; have HBR' : Hid (Below w.heap.size w w7) := HBR.out.trans hb7; have HO7 : Hid (Own w7 w.heap.size a7 (x1 + m2) c7 (X1 ++ T2)) := ho7; clear ho7 hg7 hb7 HBR HO5d HO6; have HBR := HBR'; clear HBR')
                | (go_at_call 47; refine (HU2.out _).mono ?_; rintro e w6 ⟨a6, c6, rfl, hnil6, ho6, hb6⟩; have HBR' : Hid (Below w.heap.size w w6) := HBR.out.trans (hb6.mono HBR.out.size); have HO6 : Hid (Own w6 _ a6 m2 c6 T2) := ho6; have HO5e : Hid (Own w6 w.heap.size a5 x1 c5 X1) := HO5d.out.below hb6; clear ho6 hb6 HBR HO5d; have HBR := HBR'; have HO5d := HO5e; clear HBR' HO5e))
            obtain ⟨_, _, d2⟩ := HSK.out w7 HBR.out
            obtain ⟨X2, hX2⟩ : ∃ X2, X2 = X1 ++ T2 := ⟨_, rfl⟩
            rw [← hX2] at HO7
            have HE4 : Hid (X2 ++ ([n3] ++ putS qt (l.drop (k + 1))) = T) := by
              show _ = _
              rw [← HE3.out, hX2]
              simp only [List.append_assoc]
            clear hX2 HE3
            obtain ⟨x2, hx2⟩ : ∃ x2, x2 = x1 + m2 := ⟨_, rfl⟩
            have hx2b : x2 ≤ 6030 := by omega
            rw [← hx2] at HO7 ⊢
            clear hx2
            have HO8 : Hid (Own (w7.alloc (.cells #[.int .u8 (n3 : Int)] 5)) w7.heap.size (some ⟨w7.heap.size, 0, none⟩) 1 1 [n3]) := Own.new w7 w7.heap.size #[.int .u8 (n3 : Int)] [n3] (by simpa using hb3) rfl (Nat.le_refl _) (by unfold maxLen; simp)
            have HB8 : Hid (Below w.heap.size w (w7.alloc (.cells #[.int .u8 (n3 : Int)] 5))) := HBR.out.alloc HBR.out.size _
            have HO78 : Hid (Own (w7.alloc (.cells #[.int .u8 (n3 : Int)] 5)) w.heap.size a7 x2 c7 X2) := HO7.out.below (below_new _ _)
            go_wp2_with (at_builtin; refine wpList_append_rd rfl (.tmp 58) (.tmp 65) rfl w.heap.size a7 x2 c7 X2 rfl HO78.out (some ⟨w7.heap.size, 0, none⟩) 1 1 [n3] rfl HO8.out.rd (by simp) (by omega) HB8.out.size ?_)
            intro a9 c9 w9 ho9 hg9 hb9
            have HO9 : Hid (Own w9 w.heap.size a9 (x2 + 1) c9 (X2 ++ [n3])) := ho9
            have HB9 : Hid (Below w.heap.size w w9) := HB8.out.trans hb9
            have HE9 : Hid (X2 ++ [n3] ++ putS qt (l.drop (k + 1)) = T) := by
              show _ = _
              rw [← HE4.out]
              simp only [List.append_assoc]
            clear ho9 hg9 hb9 HO8 HO78 d2 HO7 HE4
            go_wp2
            go_roundw
            case rel => exact ⟨k + 1, qt, a9, _, c9, _, ⟨qf, qt, n3⟩, by omega, by go_num, rfl, HO9, HE9, ⟨rfl, HQ7.out⟩, ⟨by omega, by omega⟩, .inr ⟨k, _, rfl, HQK.out, rfl⟩, HB9⟩
            case measure => simp [intOf]; omega
          · have hkn : (0 : Int) < (k : Int) := by omega
            have hkk : ((k : Int) - 1) = j := by omega
            have hj0 : ¬ ((j : Int) < 0) := by omega
            have hj1 : (j : Int) < (n : Int) := by omega
            have cz : wr.cell? ⟨g, o + j * 3 + 1, none⟩ = some (.int .i64 z) := by
              have := ((HR.out.below HB.out).cellsAt hqj).2.1
              rw [hzj] at this
              exact this
            clear HJ hqj hzj hkj
            obtain ⟨c0, _, _⟩ := HSK.out wr HB.out
            go_wp2_with fail
            refine (HU1.out _).mono ?_
            rintro e w3 ⟨a3, c3, rfl, hnil3, ho3, hb3'⟩
            have HB3 : Hid (Below w.heap.size w w3) := HB.out.trans (hb3'.mono HB.out.size)
            have HO3 : Hid (Own w3 wr.heap.size a3 m1 c3 T1) := ho3
            have HOX : Hid (Own w3 w.heap.size ax x cx X) := HO.out.below hb3'
            clear ho3 hb3' c0 cz hkk hj0 hj1
            go_wp2_with (at_builtin; refine wpList_append_rd rfl (.tmp 31) (.tmp 41) rfl w.heap.size ax x cx X rfl HOX.out a3 m1 c3 T1 rfl HO3.out.rd hnil3 (by omega) HB3.out.size ?_)
            intro a5 c5 w5 ho5 hg5 hb5
            have HO5 : Hid (Own w5 w.heap.size a5 (x + m1) c5 (X ++ T1)) := ho5
            have HB5 : Hid (Below w.heap.size w w5) := HB3.out.trans hb5
            clear ho5 hg5 hb5 HO3 HOX
            obtain ⟨X1, hX1⟩ : ∃ X1, X1 = X ++ T1 := ⟨_, rfl⟩
            rw [← hX1] at HO5
            have HE3 : Hid (X1 ++ (T2 ++ [n3] ++ putS qt (l.drop (k + 1))) = T) := by
              show _ = _
              rw [← HE2.out, hX1]
              simp only [List.append_assoc]
            clear hX1 HE2
            obtain ⟨x1, hx1⟩ : ∃ x1, x1 = x + m1 := ⟨_, rfl⟩
            have hx1b : x1 ≤ 6010 := by omega
            rw [← hx1] at HO5 ⊢
            clear hx1
            go_wp2
            have HBR : Hid (Below w.heap.size w w5.drew) := HB5.out.drew
            have y1 : IntKind.i64.wrap (n2 : Int) = (n2 : Int) := by rw [IntKind.wrap_i64]; omega
            have y2 : IntKind.u64.wrap (n2 : Int) = (n2 : Int) := by rw [IntKind.wrap_u64]; omega
            have HO5d : Hid (Own w5.drew w.heap.size a5 x1 c5 X1) := HO5.out.drew
            go_region_held3 (fun w' => w'.cell? ⟨g, o + (k) * 3, none⟩ = some (.int .i64 qf) ∧ w'.cell? ⟨g, o + (k) * 3 + 1, none⟩ = some (.int .i64 qt)) (first | exact ⟨(HSK.out _ HBR.out).1, (HSK.out _ HBR.out).2.1⟩ | exact ⟨(HSK.out _ HB5.out).1, (HSK.out _ HB5.out).2.1⟩ | fail)
              (first
                | (refine step_append_rd rfl (.tmp 43) (.tmp 56) rfl w.heap.size a5 x1 c5 X1 rfl HO5d.out a6 m2 c6 T2 rfl HO6.out.rd hnil6 (by omega) HBR.out.size (x1 + m2) rfl (X1 ++ T2) rfl ?_; intro a7 c7 w7 ho7 hg7 hb7; have HBR' : Hid (Below w.heap.size w w7) := HBR.out.trans hb7; have HO7 : Hid (Own w7 w.heap.size a7 (x1 + m2) c7 (X1 ++ T2)) := ho7; clear ho7 hg7 hb7 HBR HO5d HO6; have HBR := HBR'; clear HBR')
                | (go_at_call 47; refine (HU2.out _).mono ?_; rintro e w6 ⟨a6, c6, rfl, hnil6, ho6, hb6⟩; have HBR' : Hid (Below w.heap.size w w6) := HBR.out.trans (hb6.mono HBR.out.size); have HO6 : Hid (Own w6 _ a6 m2 c6 T2) := ho6; have HO5e : Hid (Own w6 w.heap.size a5 x1 c5 X1) := HO5d.out.below hb6; clear ho6 hb6 HBR HO5d; have HBR := HBR'; have HO5d := HO5e; clear HBR' HO5e))
            obtain ⟨_, _, d2⟩ := HSK.out w7 HBR.out
            obtain ⟨X2, hX2⟩ : ∃ X2, X2 = X1 ++ T2 := ⟨_, rfl⟩
            rw [← hX2] at HO7
            have HE4 : Hid (X2 ++ ([n3] ++ putS qt (l.drop (k + 1))) = T) := by
              show _ = _
              rw [← HE3.out, hX2]
              simp only [List.append_assoc]
            clear hX2 HE3
            obtain ⟨x2, hx2⟩ : ∃ x2, x2 = x1 + m2 := ⟨_, rfl⟩
            have hx2b : x2 ≤ 6030 := by omega
            rw [← hx2] at HO7 ⊢
            clear hx2
            have HO8 : Hid (Own (w7.alloc (.cells #[.int .u8 (n3 : Int)] 5)) w7.heap.size (some ⟨w7.heap.size, 0, none⟩) 1 1 [n3]) := Own.new w7 w7.heap.size #[.int .u8 (n3 : Int)] [n3] (by simpa using hb3) rfl (Nat.le_refl _) (by unfold maxLen; simp)
            have HB8 : Hid (Below w.heap.size w (w7.alloc (.cells #[.int .u8 (n3 : Int)] 5))) := HBR.out.alloc HBR.out.size _
            have HO78 : Hid (Own (w7.alloc (.cells #[.int .u8 (n3 : Int)] 5)) w.heap.size a7 x2 c7 X2) := HO7.out.below (below_new _ _)
            go_wp2_with (at_builtin; refine wpList_append_rd rfl (.tmp 58) (.tmp 65) rfl w.heap.size a7 x2 c7 X2 rfl HO78.out (some ⟨w7.heap.size, 0, none⟩) 1 1 [n3] rfl HO8.out.rd (by simp) (by omega) HB8.out.size ?_)
            intro a9 c9 w9 ho9 hg9 hb9
            have HO9 : Hid (Own w9 w.heap.size a9 (x2 + 1) c9 (X2 ++ [n3])) := ho9
            have HB9 : Hid (Below w.heap.size w w9) := HB8.out.trans hb9
            have HE9 : Hid (X2 ++ [n3] ++ putS qt (l.drop (k + 1)) = T) := by
              show _ = _
              rw [← HE4.out]
              simp only [List.append_assoc]
            clear ho9 hg9 hb9 HO8 HO78 d2 HO7 HE4
            go_wp2
            go_roundw
            case rel => exact ⟨k + 1, qt, a9, _, c9, _, ⟨qf, qt, n3⟩, by omega, by go_num, rfl, HO9, HE9, ⟨rfl, HQ7.out⟩, ⟨by omega, by omega⟩, .inr ⟨k, _, rfl, HQK.out, rfl⟩, HB9⟩
            case measure => simp [intOf]; omega
        · have hnl : ¬ (k : Int) < (n : Int) := by omega
          have HX2 : Hid (Own wr w.heap.size ax x cx T) := by
            have h1 := HE.out
            rw [List.drop_of_length_le (by rw [HR.out.size]; omega), putS, List.append_nil] at h1
            show Own _ _ _ _ _ _
            rw [← h1]
            exact HO.out
          clear HE
          go_wp2
          go_returns
          exact ⟨⟨ax, x, cx, by rw [HX.out.1]; rfl, HX2⟩, HB.out⟩
end Go.Proofs.Ytmpljoljpgbamaa
