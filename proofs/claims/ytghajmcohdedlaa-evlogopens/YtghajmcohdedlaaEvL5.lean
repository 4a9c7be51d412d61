/- evlog: gather, next. -/
import Derived.Test.YtghajmcohdedlaaEvL4
namespace Go.Proofs.Ytghajmcohdedlaa
open Go.RowKit

/-- What a sector of the disk reads, nothing where it can't be read. -/
def tellE (D : Dk) (i : Nat) : List Nat := if readE D i = 0 then nowB D i else []
theorem ReadTold.uniE {w : World} {B : Nat} {e : Ending} {er : Int} {s : List Nat} (h : ReadTold w B e er s) : ∃ a l c, e = .returned (.tuple #[.slice a l c, .int .i64 er]) ∧ Rd w a l (if er = 0 then s else []) ∧ (l = 64 → 64 ≤ c) ∧ c ≤ 64 := by
  rcases h with ⟨h0, rfl⟩ | ⟨h0, k, rfl, _, hk, hs⟩
  · exact ⟨none, 0, 0, rfl, by rw [if_neg h0]; exact ⟨rfl, fun x hx => (by cases hx), .inl rfl⟩, fun h => (by omega), by omega⟩
  · refine ⟨_, 64, 64, by rw [h0], ?_, fun _ => Nat.le_refl _, Nat.le_refl _⟩
    rw [if_pos h0]
    have := Rd.of_blk hk hs.byte
    rw [hs.len] at this
    exact this
/-- The bytes of a record's parts, and the end behind them. -/
def gatherL (D : Dk) (at_ : Nat) : Nat → Nat → Nat → List Nat → Option (List Nat × Nat)
  | 0, _, _, _ => none
  | cnt + 1, i, kd, all => if goodE (tellE D (at_ + i)) = true ∧ (tellE D (at_ + i)).getD 1 0 = kd then (if lastE (tellE D (at_ + i)) = true then some (all ++ payE (tellE D (at_ + i)), i + 1) else gatherL D at_ cnt (i + 1) 3 (all ++ payE (tellE D (at_ + i)))) else none
def GatherTold (w : World) (B : Nat) (e : Ending) (r : Option (List Nat × Nat)) : Prop :=
  (r = none ∧ e = .returned (.tuple #[.slice none 0 0, .int .i64 0])) ∨ ∃ all en a n c, r = some (all, en) ∧ e = .returned (.tuple #[.slice a n c, .int .i64 ((en : Nat) : Int)]) ∧ Own w B a n c all ∧ n ≤ 944 ∧ en ≤ 16

theorem Own.none (w : World) (base : Nat) : Own w base Option.none 0 0 [] := ⟨World.ownsRow_nil _ _ _ _, fun x hx => (by cases hx)⟩
theorem Own.lower {w : World} {base base' : Nat} {a : Option Addr} {n c : Nat} {bs : List Nat} (h : Own w base a n c bs) (hb : base' ≤ base) : Own w base' a n c bs := by
  refine ⟨⟨h.row.1, ?_⟩, h.byte⟩
  rcases h.row.2 with h1 | ⟨g, cp, cur, a1, a2, r⟩
  · exact .inl h1
  · exact .inr ⟨g, cp, cur, a1, Nat.le_trans hb a2, r⟩

set_option maxRecDepth 100000 in
set_option maxHeartbeats 8000000 in
theorem evl_gather (w : World) (base g gs : Nat) (wv : Value) (D : Dk) (gl gc b m ag hi rel : Nat) (uv rv : Value) (at_ en : Nat) (num shi : Int) (hd : Disk w base g gs wv D) (h : Lc w gl g gc b m ag uv hi rel rv) (hat : at_ ≤ 100000) (hen : en ≤ 16) :
    Calls Try.prog 81 #[.pointer (some ⟨gl, 0, none⟩), .agg #[.int .i64 (at_ : Int), .int .i64 num, .int .i64 shi, .int .i64 (en : Int)]] w fun e w' => Hid (GatherTold w' w.heap.size e (gatherL D at_ (16 - en) en 2 [])) ∧ Below w.heap.size w w' := by
  obtain ⟨R, HR⟩ : ∃ R, Hid (R = gatherL D at_ (16 - en) en 2 []) := ⟨_, rfl⟩
  rw [← HR.out]
  obtain ⟨W1, HW1⟩ : ∃ W1, Hid (W1 = w.alloc (.cells #[.int .i64 (at_ : Int), .int .i64 num, .int .i64 shi, .int .i64 (en : Int)] 85)) := ⟨_, rfl⟩
  have HB1 : Hid (Below w.heap.size w W1) := by (show Below _ _ _); rw [HW1.out]; exact below_alloc _ _
  have HK1 : Hid (Blk W1 w.heap.size #[.int .i64 (at_ : Int), .int .i64 num, .int .i64 shi, .int .i64 (en : Int)] 85) := by (show Blk _ _ _ _); rw [HW1.out]; exact Blk.new _ _ _
  have HD1 : Hid (Disk W1 base g gs wv D) := hd.stay HB1.out
  have HL1 : Hid (Lc W1 gl g gc b m ag uv hi rel rv) := h.stay HB1.out
  have HSZ : Hid (w.heap.size + 1 ≤ W1.heap.size) := HK1.out.lt
  have c3 : W1.cell? ⟨w.heap.size, 3, none⟩ = some (.int .i64 (en : Int)) := HK1.out.cell 3 rfl
  clear hd h
  go_enter Try.func81, Try.ntmps81
  go_wp2
  rw [← HW1.out]
  clear c3
  go_loopw [6, 7, 8] (fun t6 t7 t8 wr => ∃ (i kd : Nat) (all : List Nat) (a6 : Option Addr) (n6 c6 : Nat), en ≤ i ∧ i ≤ 16 ∧ t6 = .slice a6 n6 c6 ∧ t7 = .int .u8 (kd : Int) ∧ t8 = .int .i64 (i : Int) ∧ Hid (gatherL D at_ (16 - i) i kd all = R) ∧ Hid (all.length ≤ 59 * i) ∧ Hid (Own wr W1.heap.size a6 n6 c6 all) ∧ Hid (Below W1.heap.size W1 wr)) (fun _ _ t8 _ => 16 - (intOf t8).toNat)
  case atStart => exact ⟨en, 2, [], none, 0, 0, by omega, by omega, rfl, rfl, rfl, HR.out.symm, Nat.zero_le _, Own.none _ _, Below.refl _ _⟩
  case round =>
    obtain ⟨i, kd, all, a6, n6, c6, hi1, hi2, rfl, rfl, rfl, HE, HAL, HO, HB⟩ := hrel
    have HBW : Hid (Below w.heap.size w wr) := HB1.out.trans (HB.out.mono HB1.out.size)
    by_cases hlt : i < 16
    · have hlt' : (i : Int) < 16 := by omega
      have HBD : Hid (Below W1.heap.size W1 wr.drew) := HB.out.drew
      have HDr : Hid (Disk wr.drew base g gs wv D) := HD1.out.stay HBD.out
      have HLr : Hid (Lc wr.drew gl g gc b m ag uv hi rel rv) := HL1.out.stay HBD.out
      have HKr : Hid (Blk wr.drew w.heap.size #[.int .i64 (at_ : Int), .int .i64 num, .int .i64 shi, .int .i64 (en : Int)] 85) := HK1.out.stay HBD.out
      have s0 : wr.drew.cell? ⟨gl, 0, none⟩ = some (.pointer (some ⟨g, 0, none⟩)) := Blk.cell HLr.out 0 rfl
      have s1 : wr.drew.cell? ⟨w.heap.size, 0, none⟩ = some (.int .i64 (at_ : Int)) := HKr.out.cell 0 rfl
      obtain ⟨P, hP⟩ : ∃ P, P = at_ + i := ⟨_, rfl⟩
      have q1 : (at_ : Int) + (i : Int) = (P : Int) := by omega
      have q2 : IntKind.i64.wrap (P : Int) = (P : Int) := by rw [IntKind.wrap_i64]; omega
      obtain ⟨S, HS⟩ : ∃ S, Hid (S = tellE D P) := ⟨_, rfl⟩
      obtain ⟨er, HER⟩ : ∃ er, Hid (er = readE D (P : Int)) := ⟨_, rfl⟩
      have HE2 : Hid ((if goodE S = true ∧ S.getD 1 0 = kd then (if lastE S = true then some (all ++ payE S, i + 1) else gatherL D at_ (16 - (i + 1)) (i + 1) 3 (all ++ payE S)) else none) = R) := by
        (show _ = _)
        rw [← HE.out, show 16 - i = (16 - (i + 1)) + 1 from by omega, gatherL, ← hP, ← HS.out]
      have HRC : Hid (∀ W, Disk W base g gs wv D → Calls Try.prog 58 #[.pointer (some ⟨g, 0, none⟩), .int .i64 (P : Int)] W fun e w' => (∃ a l c, e = .returned (.tuple #[.slice a l c, .int .i64 er]) ∧ Hid (Rd w' a l S ∧ (l = 64 → 64 ≤ c) ∧ c ≤ 64)) ∧ Below W.heap.size W w') := fun W hW => by
        refine (disk_Read W base g gs wv D (P : Int) hW).mono ?_
        rintro e w' ⟨ht, hb⟩
        obtain ⟨a, l, c, he, h1, h2, h3⟩ := ht.out.uniE
        refine ⟨⟨a, l, c, by rw [he, HER.out], ?_, h2, h3⟩, hb⟩
        rw [HS.out]
        unfold tellE
        rw [Int.toNat_natCast] at h1
        exact h1
      clear hP HE
      go_wp2
      go_region_held3 (fun w' => w'.cell? ⟨gl, 0, none⟩ = some (.pointer (some ⟨g, 0, none⟩)) ∧ w'.cell? ⟨w.heap.size, 0, none⟩ = some (.int .i64 (at_ : Int))) (first | exact ⟨s0, s1⟩ | exact s3 | fail)
        (first
          | (go_at_call 58; refine (HRC.out _ HDr.out).mono ?_; rintro e w2 ⟨⟨a2, l2, c2, rfl, hr2⟩, hb2⟩; have s3 : w2.cell? ⟨gl, 0, none⟩ = some (.pointer (some ⟨g, 0, none⟩)) ∧ w2.cell? ⟨w.heap.size, 0, none⟩ = some (.int .i64 (at_ : Int)) := ⟨Blk.cell (HLr.out.stay hb2) 0 rfl, (HKr.out.stay hb2).cell 0 rfl⟩))
      have HB2 : Hid (Below W1.heap.size W1 w2) := HBD.out.trans (hb2.mono HBD.out.size)
      have HO2 : Hid (Own w2 W1.heap.size a6 n6 c6 all) := (HO.out.below (Below.refl _ _).drew).below hb2
      have HR2 : Hid (Rd w2 a2 l2 S ∧ (l2 = 64 → 64 ≤ c2) ∧ c2 ≤ 64) := hr2.out
      clear s0 s1 s3 hb2 hr2 q1 q2
      go_wp2_with fail
      refine (evl_look a2 l2 c2 S w2 HR2.out.1 HR2.out.2.1 (by have := HR2.out.2.2; omega)).mono ?_
      rintro e w3 ⟨ht3, hb3⟩
      obtain ⟨k3, ls, a3, n3, rfl, hgd⟩ := ht3.out
      obtain ⟨W4, HW4⟩ : ∃ W4, Hid (W4 = w3.alloc (.cells #[.int .u8 (k3 : Int), .bool ls, .slice a3 n3 n3] 110)) := ⟨_, rfl⟩
      have HBW4 : Hid (Below w3.heap.size w3 W4) := by (show Below _ _ _); rw [HW4.out]; exact below_alloc _ _
      have HK4 : Hid (Blk W4 w3.heap.size #[.int .u8 (k3 : Int), .bool ls, .slice a3 n3 n3] 110) := by (show Blk _ _ _ _); rw [HW4.out]; exact Blk.new _ _ _
      have HB3 : Hid (Below W1.heap.size W1 w3) := HB2.out.trans (hb3.mono HB2.out.size)
      have HB4 : Hid (Below W1.heap.size W1 W4) := HB3.out.trans (HBW4.out.mono HB3.out.size)
      have HO4 : Hid (Own W4 W1.heap.size a6 n6 c6 all) := (HO2.out.below hb3).below HBW4.out
      have HGD : Hid (goodE S = true → k3 = S.getD 1 0 ∧ ls = lastE S ∧ Rd w3 a3 n3 (payE S) ∧ n3 ≤ 59) := hgd
      have HBF : Hid (Below w.heap.size w W4) := HB1.out.trans (HB4.out.mono HB1.out.size)
      have g0 : W4.cell? ⟨w3.heap.size, 0, none⟩ = some (.int .u8 (k3 : Int)) := HK4.out.cell 0 rfl
      have g1 : W4.cell? ⟨w3.heap.size, 1, none⟩ = some (.bool ls) := HK4.out.cell 1 rfl
      have g2 : W4.cell? ⟨w3.heap.size, 2, none⟩ = some (.slice a3 n3 n3) := HK4.out.cell 2 rfl
      clear ht3 hb3 hgd
      go_upto_region 8 with fail
      rw [← HW4.out]
      cases hg : goodE S with
      | false =>
        have HX : Hid (R = none) := by (show _ = _); rw [← HE2.out, if_neg (by rw [hg]; simp)]
        clear hg
        go_wp2
        go_returns
        exact ⟨.inl ⟨HX.out, rfl⟩, HBF.out⟩
      | true =>
        obtain ⟨j1, j2, j3, j4⟩ := HGD.out hg
        by_cases hkd : k3 = kd
        · have HE3 : Hid ((if ls = true then some (all ++ payE S, i + 1) else gatherL D at_ (16 - (i + 1)) (i + 1) 3 (all ++ payE S)) = R) := by
            (show _ = _)
            rw [← HE2.out, j2]
            exact (if_pos ⟨hg, by rw [← j1]; exact hkd⟩).symm
          have HRP : Hid (Rd W4 a3 n3 (payE S)) := j3.below HBW4.out
          have HN3 : Hid (n3 ≤ 59 ∧ (payE S).length = n3) := ⟨j4, j3.size⟩
          have HNA : Hid (a3 = none → n3 = 0) := fun h => by
            rcases j3.cells with h0 | ⟨_, _, e, _⟩
            · exact h0
            · rw [h] at e; cases e
          have HN6 : Hid (all.length = n6 ∧ n6 ≤ 59 * i) := ⟨HO.out.size, by rw [← HO.out.size]; exact HAL.out⟩
          have ek : ((k3 : Int) != (kd : Int)) = false := by rw [hkd]; simp
          clear hg j1 j2 j3 j4
          subst hkd
          have ek2 : ((k3 : Int) != (k3 : Int)) = false := by simp
          go_wp2_with (guard_target =~ wpList _ _ _ (Oper.mk (some 47) _ _ _ _ _ :: _) _ _; refine wpList_append_rd rfl (.tmp 44) (.tmp 46) rfl W1.heap.size a6 n6 c6 all rfl HO4.out a3 n3 n3 (payE S) rfl HRP.out HNA.out (by have := HN3.out; have := HN6.out; omega) HB4.out.size ?_)
          intro a7 c7 w7 ho7 hg7 hb7
          have HO7 : Hid (Own w7 W1.heap.size a7 (n6 + n3) c7 (all ++ payE S)) := ho7
          have HB7 : Hid (Below W1.heap.size W1 w7) := HB4.out.trans hb7
          have HBF7 : Hid (Below w.heap.size w w7) := HB1.out.trans (HB7.out.mono HB1.out.size)
          have hk7 : Blk w7 w3.heap.size #[.int .u8 (k3 : Int), .bool ls, .slice a3 n3 n3] 110 := HK4.out.grown hg7 (own_ne HO4.out.row HK4.out (by decide))
          have g1 : w7.cell? ⟨w3.heap.size, 1, none⟩ = some (.bool ls) := hk7.cell 1 rfl
          clear ho7 hg7 hb7 hk7
          cases ls with
          | true =>
            have HX : Hid (R = some (all ++ payE S, i + 1)) := by (show _ = _); rw [← HE3.out, if_pos rfl]
            go_wp2
            go_returns
            exact ⟨.inr ⟨_, i + 1, a7, n6 + n3, c7, HX.out, rfl, HO7.out.lower (by have := HSZ.out; omega), by have := HN3.out; have := HN6.out; omega, by omega⟩, HBF7.out⟩
          | false =>
            have HE4 : Hid (gatherL D at_ (16 - (i + 1)) (i + 1) 3 (all ++ payE S) = R) := by (show _ = _); rw [← HE3.out, if_neg (by simp)]
            have HAL4 : Hid ((all ++ payE S).length ≤ 59 * (i + 1)) := by (show _ ≤ _); rw [List.length_append]; have := HN3.out; have := HAL.out; omega
            go_wp2
            go_roundw
            case rel => exact ⟨i + 1, 3, all ++ payE S, a7, n6 + n3, c7, by omega, by omega, rfl, rfl, by go_num, HE4, HAL4, HO7, HB7⟩
            case measure => (simp [intOf]; omega)
        · have HX : Hid (R = none) := by (show _ = _); rw [← HE2.out, if_neg (fun hh => hkd (by rw [j1]; exact hh.2))]
          have ek : ((k3 : Int) != (kd : Int)) = true := by rw [bne_iff_ne]; omega
          have ek2 : ((k3 : Int) == (kd : Int)) = false := by rw [beq_eq_false_iff_ne]; omega
          clear hg j1 j2 j3 j4
          go_wp2
          go_returns
          exact ⟨.inl ⟨HX.out, rfl⟩, HBF.out⟩
    · obtain rfl : i = 16 := by omega
      have hlt' : ¬ ((16 : Nat) : Int) < 16 := by omega
      have HX : Hid (R = none) := by (show _ = _); rw [← HE.out]; rfl
      go_wp2
      go_returns
      exact ⟨.inl ⟨HX.out, rfl⟩, HBW.out⟩
end Go.Proofs.Ytghajmcohdedlaa
