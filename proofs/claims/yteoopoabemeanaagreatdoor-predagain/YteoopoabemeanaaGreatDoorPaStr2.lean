/- pred.readString. -/
import Derived.Test.YteoopoabemeanaaGreatDoorPaStr
import Derived.Test.YteoopoabemeanaaGreatDoorPaNumG
namespace Go.Proofs.YteoopoabemeanaaGreatDoor
set_option maxRecDepth 100000
open Go.RowKit

theorem sbyte_ok (d : ByteArray) : (sbyte d).1 < 256 ∧ (sbyte d).2 ≤ d.size := by
  have hlt : ∀ i, byteAt d i < 256 := fun i => (d.data.toList.getD i 0).toNat_lt
  unfold sbyte
  split
  · exact ⟨by omega, by omega⟩
  · split
    · split
      · exact ⟨hlt 0, by simp only; omega⟩
      · exact ⟨by omega, by omega⟩
    · split
      · exact ⟨hlt 1, by simp only; omega⟩
      · split
        · rename_i h
          have h2 := hex_bound (byteAt d 2) (hlt 2)
          have h3 := hex_bound (byteAt d 3) (hlt 3)
          exact ⟨by simp only; omega, by simp only; omega⟩
        · exact ⟨by omega, by omega⟩
/-- The bytes of a string from a place on, and the place behind it. -/
def strGo (T : ByteArray) : Nat → Nat → List Nat → Option (List Nat × Nat)
  | 0, _, _ => none
  | n + 1, q, B => if (sbyte (subT T q T.size)).2 = 0 then none else if (sbyte (subT T q T.size)).1 ≠ 34 ∨ 1 < (sbyte (subT T q T.size)).2 then strGo T n (q + (sbyte (subT T q T.size)).2) (B ++ [(sbyte (subT T q T.size)).1]) else some (B, q + (sbyte (subT T q T.size)).2)
def strOf (p : Nat) : Option (List Nat × Nat) → Except (Nat × Nat) (Wd × Nat)
  | none => .error (p, 4)
  | some (B, e) => .ok (⟨4, p, str B, 0, if 200 < B.length then 6 else 0⟩, e)
def strAt (T : ByteArray) (p : Nat) : Except (Nat × Nat) (Wd × Nat) := strOf p (strGo T 400 (p + 1) [])
theorem Own.nil0 (w : World) (base : Nat) : Own w base none 0 0 [] := ⟨World.ownsRow_nil _ _ _ _, by simp⟩
set_option maxHeartbeats 8000000 in
theorem read_str (T : ByteArray) (p : Nat) (hp : p < T.size) (hT : T.size ≤ 300) (w : World) :
    Calls Tryz.prog 46 #[.string T, .int .i64 (p : Int)] w fun e w' => e = toldS (strAt T p) ∧ Below w.heap.size w w' := by
  obtain ⟨RR, HRR⟩ : ∃ R, Hid (R = strAt T p) := ⟨_, rfl⟩
  rw [← HRR.out]
  obtain ⟨G, HG⟩ : ∃ G, Hid (G = strGo T 400 (p + 1) []) := ⟨_, rfl⟩
  have HRG : Hid (RR = strOf p G) := by (show _ = _); rw [HRR.out, HG.out]; rfl
  clear HRR
  obtain ⟨W0, HW0⟩ : ∃ W0, Hid (W0 = w.alloc (.cells #[.int .i64 0, .int .i64 0, .string ⟨#[]⟩, .int .i64 0, .int .i64 0] 63)) := ⟨_, rfl⟩
  have HB0 : Hid (Below w.heap.size w W0) := by (show Below _ _ _); rw [HW0.out]; exact below_alloc _ _
  have HK0 : Hid (Blk W0 w.heap.size #[.int .i64 0, .int .i64 0, .string ⟨#[]⟩, .int .i64 0, .int .i64 0] 63) := by (show Blk _ _ _ _); rw [HW0.out]; exact Blk.new _ _ _
  have HS0 : Hid (W0.heap.size = w.heap.size + 1) := by (show _ = _); rw [HW0.out]; simp
  go_enter Tryz.func46, Tryz.ntmps46
  go_wp2
  rw [← HW0.out]
  refine wp_scope_via 0 (fun a' w' => ∃ (q : Nat) (B : List Nat) (ba : Option Addr) (bn bc n : Nat) (u8 u9 u10 u11 u12 u13 u14 u15 u16 u17 u18 u19 u20 u21 u22 u23 u24 u25 u26 u27 u28 u29 u30 u31 u32 u33 u34 u35 u36 u37 u38 u39 u40 u41 u42 u43 u44 u45 u46 u47 : Value), a' = { tmps := #[.string T, .int .i64 (p : Int), undef, undef, .pointer (some ⟨w.heap.size, 0, none⟩), .int .i64 0, .slice ba bn bc, .int .i64 (q : Int), u8, u9, u10, u11, u12, u13, u14, u15, u16, u17, u18, u19, u20, u21, u22, u23, u24, u25, u26, u27, u28, u29, u30, u31, u32, u33, u34, u35, u36, u37, u38, u39, u40, u41, u42, u43, u44, u45, u46, u47], defers := [] } ∧ p < q ∧ q ≤ T.size ∧ T.size - q < n ∧ Hid (strGo T n q B = G) ∧ Hid (Own w' W0.heap.size ba bn bc B) ∧ Hid (Below W0.heap.size W0 w') ∧ B.length ≤ q) (fun a' _ => T.size - (intOf (a'.tmps.getD 7 undef)).toNat) rfl ?_ ?_
  · rintro a' w' ⟨q, B, ba, bn, bc, n, u8, u9, u10, u11, u12, u13, u14, u15, u16, u17, u18, u19, u20, u21, u22, u23, u24, u25, u26, u27, u28, u29, u30, u31, u32, u33, u34, u35, u36, u37, u38, u39, u40, u41, u42, u43, u44, u45, u46, u47, rfl, hpq, hq, hn, HE, HO, HB, hbl⟩
    go_hide hQ
    have HQ : Hid _ := hQ
    clear hQ
    have g1 : (0 : Int) ≤ (q : Int) := by omega
    have g2 : (q : Int) ≤ (T.size : Int) := by omega
    have HSB := fun W => string_byte (subT T q T.size) (by rw [subT_size _ _ _ (Nat.le_refl _)]; omega) W
    have hsok := sbyte_ok (subT T q T.size)
    rw [subT_size _ _ _ (Nat.le_refl _)] at hsok
    obtain ⟨n', rfl⟩ : ∃ n', n = n' + 1 := ⟨n - 1, by omega⟩
    have HEU := HE.out
    unfold strGo at HEU
    obtain ⟨c, hc⟩ : ∃ c, c = (sbyte (subT T q T.size)).1 := ⟨_, rfl⟩
    obtain ⟨d, hd⟩ : ∃ d, d = (sbyte (subT T q T.size)).2 := ⟨_, rfl⟩
    rw [← hc, ← hd] at HEU hsok
    have HEV : Hid ((if d = 0 then none else if c ≠ 34 ∨ 1 < d then strGo T n' (q + d) (B ++ [c]) else some (B, q + d)) = G) := HEU
    have HTB : Hid (toldB (sbyte (subT T q T.size)) = .returned (.tuple #[.int .u8 (c : Int), .int .i64 (d : Int)])) := by (show _ = _); rw [toldB, hc, hd]
    have HSC : Hid (∀ W, Calls Tryz.prog 61 #[.string (T.extract q T.size)] W fun e w' => e = .returned (.tuple #[.int .u8 (c : Int), .int .i64 (d : Int)]) ∧ Below W.heap.size W w') := by
      intro W
      have h := HSB W
      rw [HTB.out] at h
      exact h
    have hc256 : c < 256 := hsok.1
    have hdq : q + d ≤ T.size := by omega
    have hbn : bn ≤ 300 := by have := HO.out.size; omega
    clear HSB HEU HE hc hd hsok HTB
    go_wp2_with fail
    refine (HSC.out _).mono ?_
    rintro e w1 ⟨rfl, hb1⟩
    have HB1 : Hid (Below W0.heap.size W0 w1) := HB.out.trans (hb1.mono HB.out.size)
    have HO1 : Hid (Own w1 W0.heap.size ba bn bc B) := HO.out.below hb1
    have HBW : Hid (Below w.heap.size w w1) := HB0.out.trans (HB1.out.mono HB0.out.size)
    clear hb1 HSC
    by_cases hd0 : d = 0
    · have k0 : ((d : Int) == 0) = true := by rw [hd0]; rfl
      have HRT : Hid (RR = .error (p, 4)) := by (show _ = _); rw [HRG.out, ← HEV.out, if_pos hd0]; rfl
      clear HEV hd0
      go_wp2
      rw [← HQ.out]
      exact ⟨rfl, by rw [HRT.out]; rfl, HBW.out⟩
    · have k0 : ((d : Int) == 0) = false := by rw [beq_eq_false_iff_ne]; omega
      have HEW : Hid ((if c ≠ 34 ∨ 1 < d then strGo T n' (q + d) (B ++ [c]) else some (B, q + d)) = G) := by have h := HEV.out; rw [if_neg hd0] at h; exact h
      obtain ⟨E, hE⟩ : ∃ E, E = q + d := ⟨_, rfl⟩
      rw [← hE] at HEW hdq
      have s1 : (q : Int) + (d : Int) = (E : Int) := by omega
      have s2 : IntKind.i64.wrap (E : Int) = (E : Int) := by rw [IntKind.wrap_i64]; omega
      have HQE : Hid (q < E) := by (show _ < _); omega
      clear HEV
      by_cases hgo : c ≠ 34 ∨ 1 < d
      · have HNX : Hid (strGo T n' E (B ++ [c]) = G) := by have h := HEW.out; rw [if_pos hgo] at h; exact h
        have hnn : T.size - E < n' := by omega
        clear HEW hE hd0
        have HRD : Hid (Rd (w1.alloc (.cells #[.int .u8 (c : Int)] 5)) (some ⟨w1.heap.size, 0, none⟩) 1 [c]) := Rd.new w1 #[.int .u8 (c : Int)] 5 (0, 0) [c] (fun x hx => by rw [List.mem_singleton.1 hx]; exact hc256) (fun i hi => by have h9 : i = 0 := (by simpa using hi); subst h9; rfl)
        have HOA : Hid (Own (w1.alloc (.cells #[.int .u8 (c : Int)] 5)) W0.heap.size ba bn bc B) := HO1.out.below (below_alloc _ _)
        have HSZ : Hid (W0.heap.size ≤ (w1.alloc (.cells #[.int .u8 (c : Int)] 5)).heap.size) := Nat.le_trans HB1.out.size (below_alloc _ _).size
        by_cases h34 : c = 34
        · have k1 : ((c : Int) != 34) = false := by rw [h34]; rfl
          have k1' : ((c : Int) == 34) = true := by rw [h34]; rfl
          have k2 : (1 : Int) < (d : Int) := by omega
          clear hgo h34
          go_wp2_with (at_builtin; refine wpList_append_rd rfl (.tmp 34) (.tmp 36) rfl W0.heap.size ba bn bc B rfl HOA.out (some ⟨w1.heap.size, 0, none⟩) 1 1 [c] rfl HRD.out (fun h => by cases h) (by omega) HSZ.out ?_)
          intro a5 c5 w5 ho5 _ hb5
          have HO5 : Hid (Own w5 W0.heap.size a5 (bn + 1) c5 (B ++ [c])) := ho5
          have HB5 : Hid (Below W0.heap.size W0 w5) := (HB1.out.trans ((below_alloc w1 _).mono HB1.out.size)).trans hb5
          clear ho5 hb5 HOA HRD HSZ HO1 HB1
          go_wp2
          go_step3
          rw [← HQ.out]
          refine ⟨rfl, ⟨E, B ++ [c], a5, bn + 1, c5, n', _, _, _, _, _, _, _, _, _, _, _, _, _, _, _, _, _, _, _, _, _, _, _, _, _, _, _, _, _, _, _, _, _, _, _, _, _, _, _, _, rfl, by have := HQE.out; omega, hdq, hnn, HNX, HO5, HB5, by have := HQE.out; simp; omega⟩, ?_⟩
          simp [intOf]
          have := HQE.out
          omega
        · have k1 : ((c : Int) != 34) = true := by rw [bne_iff_ne]; omega
          have k1' : ((c : Int) == 34) = false := by rw [beq_eq_false_iff_ne]; omega
          clear hgo h34
          go_wp2_with (at_builtin; refine wpList_append_rd rfl (.tmp 34) (.tmp 36) rfl W0.heap.size ba bn bc B rfl HOA.out (some ⟨w1.heap.size, 0, none⟩) 1 1 [c] rfl HRD.out (fun h => by cases h) (by omega) HSZ.out ?_)
          intro a5 c5 w5 ho5 _ hb5
          have HO5 : Hid (Own w5 W0.heap.size a5 (bn + 1) c5 (B ++ [c])) := ho5
          have HB5 : Hid (Below W0.heap.size W0 w5) := (HB1.out.trans ((below_alloc w1 _).mono HB1.out.size)).trans hb5
          clear ho5 hb5 HOA HRD HSZ HO1 HB1
          go_wp2
          go_step3
          rw [← HQ.out]
          refine ⟨rfl, ⟨E, B ++ [c], a5, bn + 1, c5, n', _, _, _, _, _, _, _, _, _, _, _, _, _, _, _, _, _, _, _, _, _, _, _, _, _, _, _, _, _, _, _, _, _, _, _, _, _, _, _, _, rfl, by have := HQE.out; omega, hdq, hnn, HNX, HO5, HB5, by have := HQE.out; simp; omega⟩, ?_⟩
          simp [intOf]
          have := HQE.out
          omega
      · have h34 : c = 34 := by omega
        have k1 : ((c : Int) != 34) = false := by rw [h34]; rfl
        have k1' : ((c : Int) == 34) = true := by rw [h34]; rfl
        have k2 : ¬ (1 : Int) < (d : Int) := by omega
        have HRE : Hid (RR = .ok (⟨4, p, str B, 0, if 200 < B.length then 6 else 0⟩, E)) := by
          (show _ = _)
          have h := HEW.out
          rw [if_neg hgo] at h
          rw [HRG.out, ← h]; rfl
        have hcv : (convert 44 9 (.slice ba bn bc)).run Tryz.prog w1 = .ok (.string (str B)) w1 := conv_rd HO1.out.rd bc
        obtain ⟨W2, HW2⟩ : ∃ W2, Hid (W2 = w1.alloc (.cells #[.int .i64 4, .int .i64 (p : Int), .string (str B), .int .i64 0, .int .i64 0] 63)) := ⟨_, rfl⟩
        have HY2 : Hid (Below w1.heap.size w1 W2) := by (show Below _ _ _); rw [HW2.out]; exact below_alloc _ _
        have HB2 : Hid (Below w.heap.size w W2) := HBW.out.trans (HY2.out.mono HBW.out.size)
        have HL0 : Hid (Blk W2 w.heap.size #[.int .i64 0, .int .i64 0, .string ⟨#[]⟩, .int .i64 0, .int .i64 0] 63) := ((HK0.out.stay HB1.out).stay HY2.out)
        have HL1 : Hid (Blk W2 w1.heap.size #[.int .i64 4, .int .i64 (p : Int), .string (str B), .int .i64 0, .int .i64 0] 63) := by (show Blk _ _ _ _); rw [HW2.out]; exact Blk.new _ _ _
        have hlt9 : w.heap.size < w1.heap.size := by have h1 := HB1.out.size; have h2 := HS0.out; omega
        have HBN : Hid (bn = B.length) := HO1.out.size.symm
        clear HEW hE hd0 hgo h34
        go_upto_region 10 with fail
        rw [← HW2.out]
        clear hcv
        have d0 : W2.cell? ⟨w.heap.size, 0, none⟩ = some (.int .i64 0) := HL0.out.cell 0 rfl
        have d1 : W2.cell? ⟨w.heap.size, 1, none⟩ = some (.int .i64 0) := HL0.out.cell 1 rfl
        have d2 : W2.cell? ⟨w.heap.size, 2, none⟩ = some (.string ⟨#[]⟩) := HL0.out.cell 2 rfl
        have d3 : W2.cell? ⟨w.heap.size, 3, none⟩ = some (.int .i64 0) := HL0.out.cell 3 rfl
        have d4 : W2.cell? ⟨w.heap.size, 4, none⟩ = some (.int .i64 0) := HL0.out.cell 4 rfl
        have f0 := HL0.out.free 0
        have f1 := HL0.out.free 1
        have f2 := HL0.out.free 2
        have f3 := HL0.out.free 3
        have f4 := HL0.out.free 4
        have x0 : W2.cell? ⟨w1.heap.size, 0, none⟩ = some (.int .i64 4) := HL1.out.cell 0 rfl
        have x1 : W2.cell? ⟨w1.heap.size, 1, none⟩ = some (.int .i64 (p : Int)) := HL1.out.cell 1 rfl
        have x2 : W2.cell? ⟨w1.heap.size, 2, none⟩ = some (.string (str B)) := HL1.out.cell 2 rfl
        have x3 : W2.cell? ⟨w1.heap.size, 3, none⟩ = some (.int .i64 0) := HL1.out.cell 3 rfl
        have x4 : W2.cell? ⟨w1.heap.size, 4, none⟩ = some (.int .i64 0) := HL1.out.cell 4 rfl
        have y4 := HL1.out.free 4
        by_cases h200 : 200 < B.length
        · have g3 : (200 : Int) < (bn : Int) := by rw [HBN.out]; omega
          have HRT : Hid (RR = .ok (⟨4, p, str B, 0, 6⟩, E)) := by (show _ = _); rw [HRE.out, if_pos h200]
          go_wp2
          rw [← HQ.out]
          try simp only [Exit.jump]
          refine bodyPost_ret (results_word2 (wd := ⟨4, p, str B, 0, 6⟩) rfl (by rfl) (by rfl) ((HL0.out.other _ _ (Nat.ne_of_lt hlt9)).setW _ _ _ _ _)) rfl ?_
          exact ⟨by rw [HRT.out]; rfl, ((((((HB2.out.setCell (Nat.le_of_lt hlt9) _).setCell (Nat.le_refl _) _).setCell (Nat.le_refl _) _).setCell (Nat.le_refl _) _).setCell (Nat.le_refl _) _).setCell (Nat.le_refl _) _)⟩
        · have g3 : ¬ (200 : Int) < (bn : Int) := by rw [HBN.out]; omega
          have HRT : Hid (RR = .ok (⟨4, p, str B, 0, 0⟩, E)) := by (show _ = _); rw [HRE.out, if_neg h200]
          go_wp2
          rw [← HQ.out]
          try simp only [Exit.jump]
          refine bodyPost_ret (results_word2 (wd := ⟨4, p, str B, 0, 0⟩) rfl (by rfl) (by rfl) (HL0.out.setW _ _ _ _ _)) rfl ?_
          exact ⟨by rw [HRT.out]; rfl, (((((HB2.out.setCell (Nat.le_refl _) _).setCell (Nat.le_refl _) _).setCell (Nat.le_refl _) _).setCell (Nat.le_refl _) _).setCell (Nat.le_refl _) _)⟩
  · intro hrest
    go_hide hQ
    have HQQ : Hid _ := hQ
    clear hQ
    obtain ⟨P1, hP1⟩ : ∃ P, P = p + 1 := ⟨_, rfl⟩
    have s1 : (p : Int) + 1 = (P1 : Int) := by omega
    have s2 : IntKind.i64.wrap (P1 : Int) = (P1 : Int) := by rw [IntKind.wrap_i64]; omega
    have hP2 : p < P1 ∧ P1 ≤ T.size ∧ T.size - P1 < 400 := by omega
    have HPP : Hid (P1 = p + 1) := hP1
    clear hP1
    go_wp2
    refine wp_label ?_
    rename_i hk
    refine hk _ _ ?_
    have hQ := HQQ.out
    subst hQ
    exact hrest _ _ ⟨P1, [], none, 0, 0, 400, _, _, _, _, _, _, _, _, _, _, _, _, _, _, _, _, _, _, _, _, _, _, _, _, _, _, _, _, _, _, _, _, _, _, _, _, _, _, _, _, rfl, hP2.1, hP2.2.1, hP2.2.2, by (show _ = _); rw [HPP.out]; exact HG.out.symm, Own.nil0 _ _, Below.refl _ _, by simp⟩
end Go.Proofs.YteoopoabemeanaaGreatDoor
