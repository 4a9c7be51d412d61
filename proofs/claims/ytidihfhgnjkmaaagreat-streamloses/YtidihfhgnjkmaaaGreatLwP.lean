/- A pack of texts: Lw4 Lw5 Lw6 Lw1 Lw2 Lw3. -/
import Derived.Test.YtidihfhgnjkmaaaGreatRn4
import Derived.Test.YtidihfhgnjkmaaaGreatPcJ
import Derived.Test.YtidihfhgnjkmaaaGreatPcP
import Derived.Test.YtidihfhgnjkmaaaGreatRpP
import Derived.Test.YtidihfhgnjkmaaaGreatStB
/- What may not be asked: Tell, Next, Learn of both sides; steps that are alike. -/
namespace Go.Proofs.YtidihfhgnjkmaaaGreat
set_option maxRecDepth 100000
open Go.RowKit
variable {Z : Nat → Prop}

theorem ref_Tell_bad (w : World) (y : Nat) {pub f t lk : Int} (hm : ¬ mayT pub f t) : Calls Tryz.prog 53 #[.pointer (some ⟨y, 0, none⟩), .int .i64 pub, .int .i64 f, .int .i64 t, .int .u32 lk] w fun e w' => e = .returned (.tuple #[.slice none 0 0, .int .i64 2]) ∧ Below w.heap.size w w' := by
  by_cases h1 : pub < 0
  · clear hm
    go_enter Tryz.func53, Tryz.ntmps53
    go_wp2
    go_returns
    exact ⟨rfl, Below.refl _ _⟩
  · by_cases h2 : (2 : Int) < pub
    · clear hm
      go_enter Tryz.func53, Tryz.ntmps53
      go_wp2
      go_returns
      exact ⟨rfl, Below.refl _ _⟩
    · by_cases h3 : f < 1
      · clear hm
        go_enter Tryz.func53, Tryz.ntmps53
        go_wp2
        go_returns
        exact ⟨rfl, Below.refl _ _⟩
      · by_cases h4 : t < f
        · clear hm
          go_enter Tryz.func53, Tryz.ntmps53
          go_wp2
          go_returns
          exact ⟨rfl, Below.refl _ _⟩
        · have h5 : (1099511627776 : Int) < t := by unfold mayT at hm; omega
          clear hm
          go_enter Tryz.func53, Tryz.ntmps53
          go_wp2
          go_returns
          exact ⟨rfl, Below.refl _ _⟩
def mayN (t id : Int) : Prop := (0 ≤ t ∧ t ≤ 1099511627776) ∧ 1 ≤ id ∧ id ≤ 32
set_option maxHeartbeats 2000000 in
theorem st_Next_bad (w : World) (y : Nat) {t id : Int} (hm : ¬ mayN t id) : Calls Tryz.prog 21 #[.pointer (some ⟨y, 0, none⟩), .int .i64 t, .int .i64 id] w fun e w' => e = .returned (.tuple #[.agg #[.int .i64 0, .int .i64 0, .int .i64 0, .int .i64 0, .int .u32 0, .slice none 0 0], .int .i64 2]) ∧ Below w.heap.size w w' := by
  obtain ⟨W1, HW1⟩ : ∃ W1, Hid (W1 = w.alloc (.cells #[.int .i64 0, .int .i64 0, .int .i64 0, .int .i64 0, .int .u32 0, .slice none 0 0] 64)) := ⟨_, rfl⟩
  have HX1 : Hid (Below w.heap.size w W1) := by (show Below _ _ _); rw [HW1.out]; exact below_new w _
  have HK1 : Hid (Bk W1 w.heap.size #[.int .i64 0, .int .i64 0, .int .i64 0, .int .i64 0, .int .u32 0, .slice none 0 0] 64) := by (show Bk _ _ _ _); rw [HW1.out]; exact Bk.new w _ _
  have n0 : W1.cell? ⟨w.heap.size, 0, none⟩ = some (.int .i64 0) := HK1.out.cell 0 rfl
  have nf0 := HK1.out.free 0
  have n1 : W1.cell? ⟨w.heap.size, 1, none⟩ = some (.int .i64 0) := HK1.out.cell 1 rfl
  have nf1 := HK1.out.free 1
  have n2 : W1.cell? ⟨w.heap.size, 2, none⟩ = some (.int .i64 0) := HK1.out.cell 2 rfl
  have nf2 := HK1.out.free 2
  have n3 : W1.cell? ⟨w.heap.size, 3, none⟩ = some (.int .i64 0) := HK1.out.cell 3 rfl
  have nf3 := HK1.out.free 3
  have n4 : W1.cell? ⟨w.heap.size, 4, none⟩ = some (.int .u32 0) := HK1.out.cell 4 rfl
  have nf4 := HK1.out.free 4
  have n5 : W1.cell? ⟨w.heap.size, 5, none⟩ = some (.slice none 0 0) := HK1.out.cell 5 rfl
  have nf5 := HK1.out.free 5
  by_cases h1 : t < 0
  · clear hm
    go_enter Tryz.func21, Tryz.ntmps21
    go_upto_region 1 with fail
    rw [← HW1.out]
    refine wp_scope_straight ?_
    go_wp2
    try simp only [Exit.noGoto]
    change bodyPost _ _ _ _ _ (set6 W1 w.heap.size (.int .i64 0) (.int .i64 0) (.int .i64 0) (.int .i64 0) (.int .u32 0) (.slice none 0 0))
    refine bodyPost_ret (results_next (by rfl) (by rfl) (HK1.out.set6 _ _ _ _ _ _)) rfl ?_
    exact ⟨rfl, below_set6 HX1.out (Nat.le_refl _) _ _ _ _ _ _⟩
  · by_cases h2 : (1099511627776 : Int) < t
    · clear hm
      go_enter Tryz.func21, Tryz.ntmps21
      go_upto_region 1 with fail
      rw [← HW1.out]
      refine wp_scope_straight ?_
      go_wp2
      try simp only [Exit.noGoto]
      change bodyPost _ _ _ _ _ (set6 W1 w.heap.size (.int .i64 0) (.int .i64 0) (.int .i64 0) (.int .i64 0) (.int .u32 0) (.slice none 0 0))
      refine bodyPost_ret (results_next (by rfl) (by rfl) (HK1.out.set6 _ _ _ _ _ _)) rfl ?_
      exact ⟨rfl, below_set6 HX1.out (Nat.le_refl _) _ _ _ _ _ _⟩
    · by_cases h3 : id < 1
      · clear hm
        go_enter Tryz.func21, Tryz.ntmps21
        go_upto_region 1 with fail
        rw [← HW1.out]
        refine wp_scope_straight ?_
        go_wp2
        try simp only [Exit.noGoto]
        change bodyPost _ _ _ _ _ (set6 W1 w.heap.size (.int .i64 0) (.int .i64 0) (.int .i64 0) (.int .i64 0) (.int .u32 0) (.slice none 0 0))
        refine bodyPost_ret (results_next (by rfl) (by rfl) (HK1.out.set6 _ _ _ _ _ _)) rfl ?_
        exact ⟨rfl, below_set6 HX1.out (Nat.le_refl _) _ _ _ _ _ _⟩
      · have h4 : (32 : Int) < id := by unfold mayN at hm; omega
        clear hm
        go_enter Tryz.func21, Tryz.ntmps21
        go_upto_region 1 with fail
        rw [← HW1.out]
        refine wp_scope_straight ?_
        go_wp2
        try simp only [Exit.noGoto]
        change bodyPost _ _ _ _ _ (set6 W1 w.heap.size (.int .i64 0) (.int .i64 0) (.int .i64 0) (.int .i64 0) (.int .u32 0) (.slice none 0 0))
        refine bodyPost_ret (results_next (by rfl) (by rfl) (HK1.out.set6 _ _ _ _ _ _)) rfl ?_
        exact ⟨rfl, below_set6 HX1.out (Nat.le_refl _) _ _ _ _ _ _⟩
set_option maxHeartbeats 2000000 in
theorem ref_Next_bad (w : World) (y : Nat) {t id : Int} (hm : ¬ mayN t id) : Calls Tryz.prog 55 #[.pointer (some ⟨y, 0, none⟩), .int .i64 t, .int .i64 id] w fun e w' => e = .returned (.tuple #[.agg #[.int .i64 0, .int .i64 0, .int .i64 0, .int .i64 0, .int .u32 0, .slice none 0 0], .int .i64 2]) ∧ Below w.heap.size w w' := by
  obtain ⟨W1, HW1⟩ : ∃ W1, Hid (W1 = w.alloc (.cells #[.int .i64 0, .int .i64 0, .int .i64 0, .int .i64 0, .int .u32 0, .slice none 0 0] 64)) := ⟨_, rfl⟩
  have HX1 : Hid (Below w.heap.size w W1) := by (show Below _ _ _); rw [HW1.out]; exact below_new w _
  have HK1 : Hid (Bk W1 w.heap.size #[.int .i64 0, .int .i64 0, .int .i64 0, .int .i64 0, .int .u32 0, .slice none 0 0] 64) := by (show Bk _ _ _ _); rw [HW1.out]; exact Bk.new w _ _
  have n0 : W1.cell? ⟨w.heap.size, 0, none⟩ = some (.int .i64 0) := HK1.out.cell 0 rfl
  have nf0 := HK1.out.free 0
  have n1 : W1.cell? ⟨w.heap.size, 1, none⟩ = some (.int .i64 0) := HK1.out.cell 1 rfl
  have nf1 := HK1.out.free 1
  have n2 : W1.cell? ⟨w.heap.size, 2, none⟩ = some (.int .i64 0) := HK1.out.cell 2 rfl
  have nf2 := HK1.out.free 2
  have n3 : W1.cell? ⟨w.heap.size, 3, none⟩ = some (.int .i64 0) := HK1.out.cell 3 rfl
  have nf3 := HK1.out.free 3
  have n4 : W1.cell? ⟨w.heap.size, 4, none⟩ = some (.int .u32 0) := HK1.out.cell 4 rfl
  have nf4 := HK1.out.free 4
  have n5 : W1.cell? ⟨w.heap.size, 5, none⟩ = some (.slice none 0 0) := HK1.out.cell 5 rfl
  have nf5 := HK1.out.free 5
  by_cases h1 : t < 0
  · clear hm
    go_enter Tryz.func55, Tryz.ntmps55
    go_upto_region 1 with fail
    rw [← HW1.out]
    go_wp2
    try simp only [Exit.noGoto]
    change bodyPost _ _ _ _ _ (set6 W1 w.heap.size (.int .i64 0) (.int .i64 0) (.int .i64 0) (.int .i64 0) (.int .u32 0) (.slice none 0 0))
    refine bodyPost_ret (results_refNext (by rfl) (by rfl) (HK1.out.set6 _ _ _ _ _ _)) rfl ?_
    exact ⟨rfl, below_set6 HX1.out (Nat.le_refl _) _ _ _ _ _ _⟩
  · by_cases h2 : (1099511627776 : Int) < t
    · clear hm
      go_enter Tryz.func55, Tryz.ntmps55
      go_upto_region 1 with fail
      rw [← HW1.out]
      go_wp2
      try simp only [Exit.noGoto]
      change bodyPost _ _ _ _ _ (set6 W1 w.heap.size (.int .i64 0) (.int .i64 0) (.int .i64 0) (.int .i64 0) (.int .u32 0) (.slice none 0 0))
      refine bodyPost_ret (results_refNext (by rfl) (by rfl) (HK1.out.set6 _ _ _ _ _ _)) rfl ?_
      exact ⟨rfl, below_set6 HX1.out (Nat.le_refl _) _ _ _ _ _ _⟩
    · by_cases h3 : id < 1
      · clear hm
        go_enter Tryz.func55, Tryz.ntmps55
        go_upto_region 1 with fail
        rw [← HW1.out]
        go_wp2
        try simp only [Exit.noGoto]
        change bodyPost _ _ _ _ _ (set6 W1 w.heap.size (.int .i64 0) (.int .i64 0) (.int .i64 0) (.int .i64 0) (.int .u32 0) (.slice none 0 0))
        refine bodyPost_ret (results_refNext (by rfl) (by rfl) (HK1.out.set6 _ _ _ _ _ _)) rfl ?_
        exact ⟨rfl, below_set6 HX1.out (Nat.le_refl _) _ _ _ _ _ _⟩
      · have h4 : (32 : Int) < id := by unfold mayN at hm; omega
        clear hm
        go_enter Tryz.func55, Tryz.ntmps55
        go_upto_region 1 with fail
        rw [← HW1.out]
        go_wp2
        try simp only [Exit.noGoto]
        change bodyPost _ _ _ _ _ (set6 W1 w.heap.size (.int .i64 0) (.int .i64 0) (.int .i64 0) (.int .i64 0) (.int .u32 0) (.slice none 0 0))
        refine bodyPost_ret (results_refNext (by rfl) (by rfl) (HK1.out.set6 _ _ _ _ _ _)) rfl ?_
        exact ⟨rfl, below_set6 HX1.out (Nat.le_refl _) _ _ _ _ _ _⟩
/-- Why a parcel is not learnt. -/
def errL (p : Pc) : Int := if chk p = 0 then 12 else chk p
set_option maxHeartbeats 2000000 in
theorem st_Learn_bad (w : World) (y : Nat) (p : Pc) (sa : Option Addr) (sn sc : Nat) (ia : Option Addr) (im ic : Nat) (hp : PcRd w p sa sn sc ia im ic) (hb : ¬ (chk p = 0 ∧ p.kind = 1)) : Calls Tryz.prog 12 #[.pointer (some ⟨y, 0, none⟩), p.val sa sn sc ia im ic] w fun e w' => e = .returned (.tuple #[.bool false, .int .i64 (errL p)]) ∧ Below w.heap.size w w' := by
  obtain ⟨pk, pp, ps, pn, pf, pt, pl, pi⟩ := p
  obtain ⟨W1, HW1⟩ : ∃ W1, Hid (W1 = w.alloc (.cells #[.int .i64 pk, .int .i64 pp, .int .i64 ps, .int .i64 pn, .int .i64 pf, .int .i64 pt, .slice sa sn sc, .slice ia im ic] 33)) := ⟨_, rfl⟩
  have HX1 : Hid (Below w.heap.size w W1) := by (show Below _ _ _); rw [HW1.out]; exact below_new w _
  have HK1 : Hid (Bk W1 w.heap.size #[.int .i64 pk, .int .i64 pp, .int .i64 ps, .int .i64 pn, .int .i64 pf, .int .i64 pt, .slice sa sn sc, .slice ia im ic] 33) := by (show Bk _ _ _ _); rw [HW1.out]; exact Bk.new w _ _
  obtain ⟨ck, HCK⟩ : ∃ ck, Hid (chk ⟨pk, pp, ps, pn, pf, pt, pl, pi⟩ = ck) := ⟨_, rfl⟩
  obtain ⟨er, HER⟩ : ∃ er, Hid (errL ⟨pk, pp, ps, pn, pf, pt, pl, pi⟩ = er) := ⟨_, rfl⟩
  have HCH : Hid (Calls Tryz.prog 13 #[.agg #[.int .i64 pk, .int .i64 pp, .int .i64 ps, .int .i64 pn, .int .i64 pf, .int .i64 pt, .slice sa sn sc, .slice ia im ic]] W1 fun e w' => e = .returned (.int .i64 ck) ∧ Below W1.heap.size W1 w') := by
    have := pc_Check ⟨pk, pp, ps, pn, pf, pt, pl, pi⟩ sa sn sc ia im ic W1 (hp.below HX1.out)
    rw [HCK.out] at this
    exact this
  rw [HCK.out] at hb
  rw [HER.out]
  have HE2 : Hid (er = if ck = 0 then 12 else ck) := by (show _ = _); rw [← HER.out]; unfold errL; rw [HCK.out]
  unfold Pc.val
  simp only
  have e0 : W1.cell? ⟨w.heap.size, 0, none⟩ = some (.int .i64 pk) := HK1.out.cell 0 rfl
  have e1 : W1.cell? ⟨w.heap.size, 1, none⟩ = some (.int .i64 pp) := HK1.out.cell 1 rfl
  have e2 : W1.cell? ⟨w.heap.size, 2, none⟩ = some (.int .i64 ps) := HK1.out.cell 2 rfl
  have e3 : W1.cell? ⟨w.heap.size, 3, none⟩ = some (.int .i64 pn) := HK1.out.cell 3 rfl
  have e4 : W1.cell? ⟨w.heap.size, 4, none⟩ = some (.int .i64 pf) := HK1.out.cell 4 rfl
  have e5 : W1.cell? ⟨w.heap.size, 5, none⟩ = some (.int .i64 pt) := HK1.out.cell 5 rfl
  have e6 : W1.cell? ⟨w.heap.size, 6, none⟩ = some (.slice sa sn sc) := HK1.out.cell 6 rfl
  have e7 : W1.cell? ⟨w.heap.size, 7, none⟩ = some (.slice ia im ic) := HK1.out.cell 7 rfl
  simp only at hb
  clear hp
  by_cases h0 : ck = 0
  · have h1 : ¬ pk = 1 := fun h => hb ⟨h0, h⟩
    have k1 : (pk != 1) = true := by rw [bne_iff_ne]; exact h1
    rw [if_pos h0] at HE2
    subst h0
    clear hb h1
    go_enter Tryz.func12, Tryz.ntmps12
    go_upto_region 1 with fail
    rw [← HW1.out]
    go_wp2_with fail
    refine HCH.out.mono ?_
    rintro e w2 ⟨rfl, hb2⟩
    have HX2 : Hid (Below w.heap.size w w2) := HX1.out.trans (hb2.mono HX1.out.size)
    have g0 : w2.cell? ⟨w.heap.size, 0, none⟩ = some (.int .i64 pk) := (HK1.out.stay hb2).cell 0 rfl
    clear hb2 e0 e1 e2 e3 e4 e5 e6 e7
    go_wp2
    go_returns
    exact ⟨by rw [HE2.out]; rfl, HX2.out⟩
  · have k0 : (ck != 0) = true := by rw [bne_iff_ne]; exact h0
    rw [if_neg h0] at HE2
    clear hb h0
    go_enter Tryz.func12, Tryz.ntmps12
    go_upto_region 1 with fail
    rw [← HW1.out]
    go_wp2_with fail
    refine HCH.out.mono ?_
    rintro e w2 ⟨rfl, hb2⟩
    have HX2 : Hid (Below w.heap.size w w2) := HX1.out.trans (hb2.mono HX1.out.size)
    clear hb2 e0 e1 e2 e3 e4 e5 e6 e7
    go_wp2
    go_returns
    exact ⟨by rw [HE2.out]; rfl, HX2.out⟩
set_option maxHeartbeats 2000000 in
theorem ref_Learn_bad (w : World) (y : Nat) (p : Pc) (sa : Option Addr) (sn sc : Nat) (ia : Option Addr) (im ic : Nat) (hp : PcRd w p sa sn sc ia im ic) (hb : ¬ (chk p = 0 ∧ p.kind = 1)) : Calls Tryz.prog 50 #[.pointer (some ⟨y, 0, none⟩), p.val sa sn sc ia im ic] w fun e w' => e = .returned (.tuple #[.bool false, .int .i64 (errL p)]) ∧ Below w.heap.size w w' := by
  obtain ⟨pk, pp, ps, pn, pf, pt, pl, pi⟩ := p
  obtain ⟨W1, HW1⟩ : ∃ W1, Hid (W1 = w.alloc (.cells #[.int .i64 pk, .int .i64 pp, .int .i64 ps, .int .i64 pn, .int .i64 pf, .int .i64 pt, .slice sa sn sc, .slice ia im ic] 33)) := ⟨_, rfl⟩
  have HX1 : Hid (Below w.heap.size w W1) := by (show Below _ _ _); rw [HW1.out]; exact below_new w _
  have HK1 : Hid (Bk W1 w.heap.size #[.int .i64 pk, .int .i64 pp, .int .i64 ps, .int .i64 pn, .int .i64 pf, .int .i64 pt, .slice sa sn sc, .slice ia im ic] 33) := by (show Bk _ _ _ _); rw [HW1.out]; exact Bk.new w _ _
  obtain ⟨ck, HCK⟩ : ∃ ck, Hid (chk ⟨pk, pp, ps, pn, pf, pt, pl, pi⟩ = ck) := ⟨_, rfl⟩
  obtain ⟨er, HER⟩ : ∃ er, Hid (errL ⟨pk, pp, ps, pn, pf, pt, pl, pi⟩ = er) := ⟨_, rfl⟩
  have HCH : Hid (Calls Tryz.prog 73 #[.agg #[.int .i64 pk, .int .i64 pp, .int .i64 ps, .int .i64 pn, .int .i64 pf, .int .i64 pt, .slice sa sn sc, .slice ia im ic]] W1 fun e w' => e = .returned (.int .i64 ck) ∧ Below W1.heap.size W1 w') := by
    have := ref_Check ⟨pk, pp, ps, pn, pf, pt, pl, pi⟩ sa sn sc ia im ic W1 (hp.below HX1.out)
    rw [HCK.out] at this
    exact this
  rw [HCK.out] at hb
  rw [HER.out]
  have HE2 : Hid (er = if ck = 0 then 12 else ck) := by (show _ = _); rw [← HER.out]; unfold errL; rw [HCK.out]
  unfold Pc.val
  simp only
  have e0 : W1.cell? ⟨w.heap.size, 0, none⟩ = some (.int .i64 pk) := HK1.out.cell 0 rfl
  have e1 : W1.cell? ⟨w.heap.size, 1, none⟩ = some (.int .i64 pp) := HK1.out.cell 1 rfl
  have e2 : W1.cell? ⟨w.heap.size, 2, none⟩ = some (.int .i64 ps) := HK1.out.cell 2 rfl
  have e3 : W1.cell? ⟨w.heap.size, 3, none⟩ = some (.int .i64 pn) := HK1.out.cell 3 rfl
  have e4 : W1.cell? ⟨w.heap.size, 4, none⟩ = some (.int .i64 pf) := HK1.out.cell 4 rfl
  have e5 : W1.cell? ⟨w.heap.size, 5, none⟩ = some (.int .i64 pt) := HK1.out.cell 5 rfl
  have e6 : W1.cell? ⟨w.heap.size, 6, none⟩ = some (.slice sa sn sc) := HK1.out.cell 6 rfl
  have e7 : W1.cell? ⟨w.heap.size, 7, none⟩ = some (.slice ia im ic) := HK1.out.cell 7 rfl
  simp only at hb
  clear hp
  by_cases h0 : ck = 0
  · have h1 : ¬ pk = 1 := fun h => hb ⟨h0, h⟩
    have k1 : (pk != 1) = true := by rw [bne_iff_ne]; exact h1
    rw [if_pos h0] at HE2
    subst h0
    clear hb h1
    go_enter Tryz.func50, Tryz.ntmps50
    go_upto_region 1 with fail
    rw [← HW1.out]
    go_wp2_with fail
    refine HCH.out.mono ?_
    rintro e w2 ⟨rfl, hb2⟩
    have HX2 : Hid (Below w.heap.size w w2) := HX1.out.trans (hb2.mono HX1.out.size)
    have g0 : w2.cell? ⟨w.heap.size, 0, none⟩ = some (.int .i64 pk) := (HK1.out.stay hb2).cell 0 rfl
    clear hb2 e0 e1 e2 e3 e4 e5 e6 e7
    go_wp2
    go_returns
    exact ⟨by rw [HE2.out]; rfl, HX2.out⟩
  · have k0 : (ck != 0) = true := by rw [bne_iff_ne]; exact h0
    rw [if_neg h0] at HE2
    clear hb h0
    go_enter Tryz.func50, Tryz.ntmps50
    go_upto_region 1 with fail
    rw [← HW1.out]
    go_wp2_with fail
    refine HCH.out.mono ?_
    rintro e w2 ⟨rfl, hb2⟩
    have HX2 : Hid (Below w.heap.size w w2) := HX1.out.trans (hb2.mono HX1.out.size)
    clear hb2 e0 e1 e2 e3 e4 e5 e6 e7
    go_wp2
    go_returns
    exact ⟨by rw [HE2.out]; rfl, HX2.out⟩
/-- One item, as it is read. -/
theorem its_one {w : World} {g : Nat} {q : It} {ba : Option Addr} {bl bc : Nat} (h : Bk w g #[.int .i64 q.tick, .int .u32 q.for_, .slice ba bl bc] 54) (hb : BdOk w ba bl bc q.body) (hi : ItIn q) : ItsRd w (some ⟨g, 0, none⟩) 1 [q] := by
  refine ⟨rfl, .inr ⟨g, 0, rfl, h.lt, fun i x hx => ?_⟩, fun x hx => by rw [List.mem_singleton.1 hx]; exact hi⟩
  have hi0 : i = 0 := by have := (List.getElem?_eq_some_iff.1 hx).1; simp at this; exact this
  subst hi0
  simp only [List.getElem?_cons_zero, Option.some.injEq] at hx
  subst hx
  exact ⟨h.cell 0 rfl, h.cell 1 rfl, ba, bl, bc, h.cell 2 rfl, hb.rd, hb.nil_, hb.lc, hb.cm⟩
theorem BdOk.below {w w' : World} {ba : Option Addr} {n c : Nat} {bs : List Nat} (h : BdOk w ba n c bs) (hb : Below w.heap.size w w') : BdOk w' ba n c bs := ⟨h.rd.below hb, h.nil_, h.lc, h.cm⟩
set_option maxHeartbeats 4000000 in
theorem ref_SameStep (is fr to_ : Int) (q : It) (ba : Option Addr) (bc : Nat) (da : Option Addr) (dc : Nat) (w : World) (h1 : BdOk w ba q.body.length bc q.body) (h2 : BdOk w da q.body.length dc q.body) (hi : ItIn q) :
    Calls Tryz.prog 56 #[.agg #[.int .i64 is, .int .i64 fr, .int .i64 to_, .int .i64 q.tick, .int .u32 q.for_, .slice ba q.body.length bc], .agg #[.int .i64 is, .int .i64 fr, .int .i64 to_, .int .i64 q.tick, .int .u32 q.for_, .slice da q.body.length dc]] w fun e w' => e = .returned (.bool true) ∧ Below w.heap.size w w' := by
  obtain ⟨N, HN⟩ : ∃ N, Hid (q.body.length = N) := ⟨_, rfl⟩
  rw [HN.out] at h1 h2 ⊢
  have H1 : Hid (BdOk w ba N bc q.body) := h1
  have H2 : Hid (BdOk w da N dc q.body) := h2
  have HII : Hid (ItIn q) := hi
  obtain ⟨W2, HW2⟩ : ∃ W2, Hid (W2 = (w.alloc (.cells #[.int .i64 is, .int .i64 fr, .int .i64 to_, .int .i64 q.tick, .int .u32 q.for_, .slice ba N bc] 64)).alloc (.cells #[.int .i64 is, .int .i64 fr, .int .i64 to_, .int .i64 q.tick, .int .u32 q.for_, .slice da N dc] 64)) := ⟨_, rfl⟩
  have hs1 : (w.alloc (.cells #[.int .i64 is, .int .i64 fr, .int .i64 to_, .int .i64 q.tick, .int .u32 q.for_, .slice ba N bc] 64)).heap.size = w.heap.size + 1 := by simp
  have HX2 : Hid (Below w.heap.size w W2) := by (show Below _ _ _); rw [HW2.out]; exact (below_new w _).alloc (by omega) _
  obtain ⟨W4, HW4⟩ : ∃ W4, Hid (W4 = (W2.alloc (.cells #[.int .i64 q.tick, .int .u32 q.for_, .slice ba N bc] 54)).alloc (.cells #[.int .i64 q.tick, .int .u32 q.for_, .slice da N dc] 54)) := ⟨_, rfl⟩
  have hs3 : (W2.alloc (.cells #[.int .i64 q.tick, .int .u32 q.for_, .slice ba N bc] 54)).heap.size = W2.heap.size + 1 := by simp
  have HX4 : Hid (Below W2.heap.size W2 W4) := by (show Below _ _ _); rw [HW4.out]; exact (below_new W2 _).alloc (by omega) _
  have HBW : Hid (Below w.heap.size w W4) := HX2.out.trans (HX4.out.mono HX2.out.size)
  have HA : Hid (ItsRd W4 (some ⟨W2.heap.size, 0, none⟩) 1 [q]) := its_one (by rw [HW4.out]; exact (Bk.new W2 _ _).stay (below_new _ _)) (H1.out.below HBW.out) HII.out
  have HB : Hid (ItsRd W4 (some ⟨W2.heap.size + 1, 0, none⟩) 1 [q]) := its_one (by rw [HW4.out, ← hs3]; exact Bk.new _ _ _) (H2.out.below HBW.out) HII.out
  have k0 : (is == is) = true := by simp
  have k1 : (fr == fr) = true := by simp
  have k2 : (to_ == to_) = true := by simp
  have hz2 : W2.heap.size = w.heap.size + 1 + 1 := by rw [HW2.out]; simp
  have HA : Hid (ItsRd W4 (some ⟨w.heap.size + 1 + 1, 0, none⟩) 1 [q]) := by have := HA.out; rw [hz2] at this; exact this
  have HB : Hid (ItsRd W4 (some ⟨w.heap.size + 1 + 1 + 1, 0, none⟩) 1 [q]) := by have := HB.out; rw [hz2] at this; exact this
  clear h1 h2 hi hs1 hs3 hz2
  go_enter Tryz.func56, Tryz.ntmps56
  go_wp2_with fail
  rw [← HW2.out, ← HW4.out]
  refine (ref_SameItems _ _ 1 1 1 [q] W4 HA.out HB.out (by decide)).mono ?_
  rintro e w5 ⟨rfl, hb5⟩
  have HX5 : Hid (Below w.heap.size w w5) := HBW.out.trans (hb5.mono HBW.out.size)
  clear hb5
  go_wp2
  go_ret
  exact ⟨rfl, HX5.out⟩
end Go.Proofs.YtidihfhgnjkmaaaGreat
/- grapevinelaw15: parcels, the cells of a list of parcels. -/
namespace Go.Proofs.YtidihfhgnjkmaaaGreat
set_option maxRecDepth 100000
open Go.RowKit
variable {Z : Nat → Prop}

theorem pacel_at : ∀ (l : List Pa) (i : Nat) (q : Pa), l[i]? = some q → ∀ j, j < 8 → (l.flatMap pacel)[i * 8 + j]? = (pacel q)[j]?
  | [], _, _, h, _, _ => by cases h
  | y :: l, 0, x, h, j, hj => by
    simp only [List.getElem?_cons_zero, Option.some.injEq] at h
    subst h
    rw [List.flatMap_cons, List.getElem?_append_left (by show _ < 8; omega), Nat.zero_mul, Nat.zero_add]
  | y :: l, i + 1, x, h, j, hj => by
    rw [List.getElem?_cons_succ] at h
    rw [List.flatMap_cons, List.getElem?_append_right (by show 8 ≤ _; omega), show (i + 1) * 8 + j - (pacel y).length = i * 8 + j from by show _ - 8 = _; omega]
    exact pacel_at l i x h j hj
/-- The cells of a parcel in its row. -/
theorem Tells.spot {w : World} {base : Nat} {a : Option Addr} {n c : Nat} {l : List Pa} (h : Tells Z w base (.slice a n c) l) {i : Nat} {q : Pa} (hq : l[i]? = some q) : ∃ g, a = some ⟨g, 0, none⟩ ∧ g < w.heap.size ∧ ∀ j, j < 8 → w.cell? ⟨g, 0 + i * 8 + j, none⟩ = (pacel q)[j]? := by
  have hil := (List.getElem?_eq_some_iff.1 hq).1
  rcases h.row.2 with ⟨hv, hn⟩ | ⟨g, c', cur, hv, hb, hg, hlc, hmx, hs, ht⟩
  · omega
  · simp only [Value.slice.injEq] at hv
    obtain ⟨rfl, rfl, rfl⟩ := hv
    refine ⟨g, rfl, (Array.getElem?_eq_some_iff.1 hg).1, fun j hj => ?_⟩
    have h1 := pacel_at l i q hq j hj
    rw [← ht, List.getElem?_take_of_lt (by omega), Array.getElem?_toList] at h1
    rw [cell_of_row w g _ cur _ _ hg, Nat.zero_add, h1]
theorem Tells.len {w : World} {base : Nat} {a : Option Addr} {n c : Nat} {l : List Pa} (h : Tells Z w base (.slice a n c) l) : l.length = n ∧ n ≤ c ∧ c ≤ maxLen := by
  rcases h.row.2 with ⟨hv, hn⟩ | ⟨g, c', cur, hv, hb, hg, hlc, hmx, hs, ht⟩
  · simp only [Value.slice.injEq] at hv
    omega
  · simp only [Value.slice.injEq] at hv
    obtain ⟨_, rfl, rfl⟩ := hv
    exact ⟨rfl, hlc, hmx⟩
end Go.Proofs.YtidihfhgnjkmaaaGreat
/- grapevinelaw15: parcels. -/
namespace Go.Proofs.YtidihfhgnjkmaaaGreat
set_option maxRecDepth 100000
open Go.RowKit
variable {Z Z' : Nat → Prop}

set_option maxHeartbeats 8000000 in
theorem law_parcels {w : World} {b1 b2 : Nat} {a b : Option Addr} {n c m d : Nat} {l1 l2 : List Pa} (h1 : Tells Z w b1 (.slice a n c) l1) (h2 : Tells Z' w b2 (.slice b m d) l2) (he : l1.map Pa.p = l2.map Pa.p) (hz1 : ∀ k, b1 ≤ k → Z k) (hz2 : ∀ k, b2 ≤ k → Z' k) :
    Calls Tryz.prog 54 #[.slice a n c, .slice b m d] w fun e w' => e = .returned (.bool true) ∧ Below w.heap.size w w' := by
  have H1 : Hid (Tells Z w b1 (.slice a n c) l1) := h1
  have H2 : Hid (Tells Z' w b2 (.slice b m d) l2) := h2
  have HL1 : Hid (l1.length = n) := h1.len.1
  have HL2 : Hid (l2.length = m) := h2.len.1
  have hnm : m = n := by have := congrArg List.length he; rw [List.length_map, List.length_map] at this; have := h1.len.1; have := h2.len.1; omega
  subst hnm
  have hn : m ≤ 9223372036854775807 := by have := h1.len; unfold maxLen at this; omega
  have HE : Hid (l1.map Pa.p = l2.map Pa.p) := he
  have HZ1 : Hid (∀ k, b1 ≤ k → Z k) := hz1
  have HZ2 : Hid (∀ k, b2 ≤ k → Z' k) := hz2
  have kk : ((m : Int) != (m : Int)) = false := by simp
  clear h1 h2 he hz1 hz2
  go_enter Tryz.func54, Tryz.ntmps54
  go_wp2
  go_loopw [5] (fun t5 wr => ∃ i : Nat, t5 = .int .i64 (i : Int) ∧ i ≤ m ∧ Hid (Below w.heap.size w wr)) (fun t5 _ => m - (intOf t5).toNat)
  case atStart => exact ⟨0, rfl, Nat.zero_le _, Below.refl _ _⟩
  case round =>
    obtain ⟨i, rfl, hi, HB⟩ := hrel
    obtain ⟨w2, rfl⟩ : ∃ w2, w2 = wr := ⟨wr, rfl⟩
    by_cases hlt : i < m
    · have hlt' : (i : Int) < (m : Int) := by omega
      have gi : (0 : Int) ≤ (i : Int) := by omega
      obtain ⟨q1, hq1⟩ : ∃ x, l1[i]? = some x := ⟨l1[i]'(by rw [HL1.out]; exact hlt), List.getElem?_eq_getElem _⟩
      obtain ⟨q2, hq2⟩ : ∃ x, l2[i]? = some x := ⟨l2[i]'(by rw [HL2.out]; exact hlt), List.getElem?_eq_getElem _⟩
      have hpp : q1.p = q2.p := by
        have h1 : (l1.map Pa.p)[i]? = some q1.p := by rw [List.getElem?_map, hq1]; rfl
        rw [HE.out, List.getElem?_map, hq2] at h1
        exact (Option.some.inj h1).symm
      have HR1 : Hid (∀ W, Below w.heap.size w W → PcRd W q1.p q1.sa q1.sn q1.sc q1.ia q1.im q1.ic) := fun W hW => ((H1.out.below hW).each q1 (List.mem_of_getElem? hq1)).rd HZ1.out
      have HR2 : Hid (∀ W, Below w.heap.size w W → PcRd W q2.p q2.sa q2.sn q2.sc q2.ia q2.im q2.ic) := fun W hW => ((H2.out.below hW).each q2 (List.mem_of_getElem? hq2)).rd HZ2.out
      obtain ⟨g, rfl, hg, hgc⟩ := H1.out.spot hq1
      obtain ⟨h, rfl, hh, hhc⟩ := H2.out.spot hq2
      obtain ⟨p, sa, sn, sc, sia, sim, sic⟩ := q1
      obtain ⟨p2, ta, tn, tc, tia, tim, tic⟩ := q2
      simp only at hpp HR1 HR2
      subst hpp
      have HSW : Hid (∀ W, Below w.heap.size w W → W.cell? ⟨g, i * 8, none⟩ = some (.int .i64 p.kind) ∧ W.cell? ⟨g, i * 8 + 1, none⟩ = some (.int .i64 p.pub) ∧ W.cell? ⟨g, i * 8 + 2, none⟩ = some (.int .i64 p.sub) ∧ W.cell? ⟨g, i * 8 + 3, none⟩ = some (.int .i64 p.n_) ∧ W.cell? ⟨g, i * 8 + 4, none⟩ = some (.int .i64 p.fr) ∧ W.cell? ⟨g, i * 8 + 5, none⟩ = some (.int .i64 p.to_) ∧ W.cell? ⟨g, i * 8 + 6, none⟩ = some (.slice sa sn sc) ∧ W.cell? ⟨g, i * 8 + 7, none⟩ = some (.slice sia sim sic) ∧ W.cell? ⟨h, i * 8, none⟩ = some (.int .i64 p.kind) ∧ W.cell? ⟨h, i * 8 + 1, none⟩ = some (.int .i64 p.pub) ∧ W.cell? ⟨h, i * 8 + 2, none⟩ = some (.int .i64 p.sub) ∧ W.cell? ⟨h, i * 8 + 3, none⟩ = some (.int .i64 p.n_) ∧ W.cell? ⟨h, i * 8 + 4, none⟩ = some (.int .i64 p.fr) ∧ W.cell? ⟨h, i * 8 + 5, none⟩ = some (.int .i64 p.to_) ∧ W.cell? ⟨h, i * 8 + 6, none⟩ = some (.slice ta tn tc) ∧ W.cell? ⟨h, i * 8 + 7, none⟩ = some (.slice tia tim tic)) := fun W hW => by
        have c1 : ∀ j, j < 8 → W.cell? ⟨g, i * 8 + j, none⟩ = (pacel (⟨p, sa, sn, sc, sia, sim, sic⟩ : Pa))[j]? := fun j hj => by rw [hW.cell (p := ⟨g, i * 8 + j, none⟩) hg, ← hgc j hj, Nat.zero_add]
        have c2 : ∀ j, j < 8 → W.cell? ⟨h, i * 8 + j, none⟩ = (pacel (⟨p, ta, tn, tc, tia, tim, tic⟩ : Pa))[j]? := fun j hj => by rw [hW.cell (p := ⟨h, i * 8 + j, none⟩) hh, ← hhc j hj, Nat.zero_add]
        exact ⟨c1 0 (by omega), c1 1 (by omega), c1 2 (by omega), c1 3 (by omega), c1 4 (by omega), c1 5 (by omega), c1 6 (by omega), c1 7 (by omega), c2 0 (by omega), c2 1 (by omega), c2 2 (by omega), c2 3 (by omega), c2 4 (by omega), c2 5 (by omega), c2 6 (by omega), c2 7 (by omega)⟩
      clear hq1 hq2 hgc hhc hg hh
      go_upto_region 6 with fail
      refine wp_region_held_drew (S := fun w' => w'.cell? ⟨g, i * 8, none⟩ = some (.int .i64 p.kind) ∧ w'.cell? ⟨g, i * 8 + 1, none⟩ = some (.int .i64 p.pub) ∧ w'.cell? ⟨g, i * 8 + 2, none⟩ = some (.int .i64 p.sub) ∧ w'.cell? ⟨g, i * 8 + 3, none⟩ = some (.int .i64 p.n_) ∧ w'.cell? ⟨g, i * 8 + 4, none⟩ = some (.int .i64 p.fr) ∧ w'.cell? ⟨g, i * 8 + 5, none⟩ = some (.int .i64 p.to_) ∧ w'.cell? ⟨g, i * 8 + 6, none⟩ = some (.slice sa sn sc) ∧ w'.cell? ⟨g, i * 8 + 7, none⟩ = some (.slice sia sim sic) ∧ w'.cell? ⟨h, i * 8, none⟩ = some (.int .i64 p.kind) ∧ w'.cell? ⟨h, i * 8 + 1, none⟩ = some (.int .i64 p.pub) ∧ w'.cell? ⟨h, i * 8 + 2, none⟩ = some (.int .i64 p.sub) ∧ w'.cell? ⟨h, i * 8 + 3, none⟩ = some (.int .i64 p.n_) ∧ w'.cell? ⟨h, i * 8 + 4, none⟩ = some (.int .i64 p.fr) ∧ w'.cell? ⟨h, i * 8 + 5, none⟩ = some (.int .i64 p.to_) ∧ w'.cell? ⟨h, i * 8 + 6, none⟩ = some (.slice ta tn tc) ∧ w'.cell? ⟨h, i * 8 + 7, none⟩ = some (.slice tia tim tic)) (by kernel_rfl) (HSW.out _ HB.out.drew) (fun hHeld => ?_)
      obtain ⟨wd, HWD⟩ : ∃ W, Hid (W = w2.drew) := ⟨_, rfl⟩
      rw [← HWD.out] at hHeld ⊢
      have HBd : Hid (Below w.heap.size w wd) := by (show Below _ _ _); rw [HWD.out]; exact HB.out.drew
      refine take_putH (i := 0) (v := ?_) (some 17) rfl (by kernel_rfl) (by kernel_rfl) (by kernel_rfl) (by kernel_rfl) (fun _ _ _ h => h) (Or.inl ⟨by rfl, ?_⟩) hHeld ?_
      rotate_left
      · (intro wS hSw; obtain ⟨z0, z1, z2, z3, z4, z5, z6, z7, z8, z9, z10, z11, z12, z13, z14, z15⟩ := hSw; go_simp; try with_reducible rfl)
      try simp only [Act.put, List.setIfInBounds_toArray, List.set_cons_zero, List.set_cons_succ]
      refine take_putH (i := 1) (v := ?_) (some 18) rfl (by kernel_rfl) (by kernel_rfl) (by kernel_rfl) (by kernel_rfl) (fun _ _ _ h => h) (Or.inl ⟨by rfl, ?_⟩) hHeld ?_
      rotate_left
      · (intro wS hSw; obtain ⟨z0, z1, z2, z3, z4, z5, z6, z7, z8, z9, z10, z11, z12, z13, z14, z15⟩ := hSw; go_simp; try with_reducible rfl)
      try simp only [Act.put, List.setIfInBounds_toArray, List.set_cons_zero, List.set_cons_succ]
      refine take_putH (i := 2) (v := ?_) (some 19) rfl (by kernel_rfl) (by kernel_rfl) (by kernel_rfl) (by kernel_rfl) (fun _ _ _ h => h) (Or.inl ⟨by rfl, ?_⟩) hHeld ?_
      rotate_left
      · (intro wS hSw; obtain ⟨z0, z1, z2, z3, z4, z5, z6, z7, z8, z9, z10, z11, z12, z13, z14, z15⟩ := hSw; go_simp; try with_reducible rfl)
      try simp only [Act.put, List.setIfInBounds_toArray, List.set_cons_zero, List.set_cons_succ]
      refine take_putH (i := 3) (v := ?_) (some 20) rfl (by kernel_rfl) (by kernel_rfl) (by kernel_rfl) (by kernel_rfl) (fun _ _ _ h => h) (Or.inl ⟨by rfl, ?_⟩) hHeld ?_
      rotate_left
      · (intro wS hSw; obtain ⟨z0, z1, z2, z3, z4, z5, z6, z7, z8, z9, z10, z11, z12, z13, z14, z15⟩ := hSw; go_simp; try with_reducible rfl)
      try simp only [Act.put, List.setIfInBounds_toArray, List.set_cons_zero, List.set_cons_succ]
      refine take_putH (i := 4) (v := ?_) (some 21) rfl (by kernel_rfl) (by kernel_rfl) (by kernel_rfl) (by kernel_rfl) (fun _ _ _ h => h) (Or.inl ⟨by rfl, ?_⟩) hHeld ?_
      rotate_left
      · (intro wS hSw; obtain ⟨z0, z1, z2, z3, z4, z5, z6, z7, z8, z9, z10, z11, z12, z13, z14, z15⟩ := hSw; go_simp; try with_reducible rfl)
      try simp only [Act.put, List.setIfInBounds_toArray, List.set_cons_zero, List.set_cons_succ]
      refine take_putH (i := 5) (v := ?_) (some 22) rfl (by kernel_rfl) (by kernel_rfl) (by kernel_rfl) (by kernel_rfl) (fun _ _ _ h => h) (Or.inl ⟨by rfl, ?_⟩) hHeld ?_
      rotate_left
      · (intro wS hSw; obtain ⟨z0, z1, z2, z3, z4, z5, z6, z7, z8, z9, z10, z11, z12, z13, z14, z15⟩ := hSw; go_simp; try with_reducible rfl)
      try simp only [Act.put, List.setIfInBounds_toArray, List.set_cons_zero, List.set_cons_succ]
      refine take_putH (i := 6) (v := ?_) (some 23) rfl (by kernel_rfl) (by kernel_rfl) (by kernel_rfl) (by kernel_rfl) (fun _ _ _ h => h) (Or.inl ⟨by rfl, ?_⟩) hHeld ?_
      rotate_left
      · (intro wS hSw; obtain ⟨z0, z1, z2, z3, z4, z5, z6, z7, z8, z9, z10, z11, z12, z13, z14, z15⟩ := hSw; go_simp; try with_reducible rfl)
      try simp only [Act.put, List.setIfInBounds_toArray, List.set_cons_zero, List.set_cons_succ]
      refine take_putH (i := 7) (v := ?_) (some 24) rfl (by kernel_rfl) (by kernel_rfl) (by kernel_rfl) (by kernel_rfl) (fun _ _ _ h => h) (Or.inl ⟨by rfl, ?_⟩) hHeld ?_
      rotate_left
      · (intro wS hSw; obtain ⟨z0, z1, z2, z3, z4, z5, z6, z7, z8, z9, z10, z11, z12, z13, z14, z15⟩ := hSw; go_simp; try with_reducible rfl)
      try simp only [Act.put, List.setIfInBounds_toArray, List.set_cons_zero, List.set_cons_succ]
      have HSM : Hid (Calls Tryz.prog 77 #[.agg #[.int .i64 p.kind, .int .i64 p.pub, .int .i64 p.sub, .int .i64 p.n_, .int .i64 p.fr, .int .i64 p.to_, .slice sa sn sc, .slice sia sim sic], .agg #[.int .i64 p.kind, .int .i64 p.pub, .int .i64 p.sub, .int .i64 p.n_, .int .i64 p.fr, .int .i64 p.to_, .slice ta tn tc, .slice tia tim tic]] wd fun e w' => e = .returned (.bool true) ∧ Below wd.heap.size wd w') := ref_Same13 p sa sn sc sia sim sic ta tn tc tia tim tic wd (HR1.out _ HBd.out) (HR2.out _ HBd.out)
      clear hHeld
      refine wpAnyH_ready (rs := [8]) (by kernel_rfl) (by simp) ?_
      refine AllReadyH.cons rfl (fun K hK => ?_) AllReadyH.nil
      go_simp
      refine HSM.out.mono ?_
      rintro e w5 ⟨rfl, hb5⟩
      have HB5 : Hid (Below w.heap.size w w5) := HBd.out.trans (hb5.mono HBd.out.size)
      have hH5 : Hid (w5.cell? ⟨g, i * 8, none⟩ = some (.int .i64 p.kind) ∧ w5.cell? ⟨g, i * 8 + 1, none⟩ = some (.int .i64 p.pub) ∧ w5.cell? ⟨g, i * 8 + 2, none⟩ = some (.int .i64 p.sub) ∧ w5.cell? ⟨g, i * 8 + 3, none⟩ = some (.int .i64 p.n_) ∧ w5.cell? ⟨g, i * 8 + 4, none⟩ = some (.int .i64 p.fr) ∧ w5.cell? ⟨g, i * 8 + 5, none⟩ = some (.int .i64 p.to_) ∧ w5.cell? ⟨g, i * 8 + 6, none⟩ = some (.slice sa sn sc) ∧ w5.cell? ⟨g, i * 8 + 7, none⟩ = some (.slice sia sim sic) ∧ w5.cell? ⟨h, i * 8, none⟩ = some (.int .i64 p.kind) ∧ w5.cell? ⟨h, i * 8 + 1, none⟩ = some (.int .i64 p.pub) ∧ w5.cell? ⟨h, i * 8 + 2, none⟩ = some (.int .i64 p.sub) ∧ w5.cell? ⟨h, i * 8 + 3, none⟩ = some (.int .i64 p.n_) ∧ w5.cell? ⟨h, i * 8 + 4, none⟩ = some (.int .i64 p.fr) ∧ w5.cell? ⟨h, i * 8 + 5, none⟩ = some (.int .i64 p.to_) ∧ w5.cell? ⟨h, i * 8 + 6, none⟩ = some (.slice ta tn tc) ∧ w5.cell? ⟨h, i * 8 + 7, none⟩ = some (.slice tia tim tic)) := HSW.out _ HB5.out
      clear hb5
      refine hK.out _ _ hH5.out (fun _ => ?_)
      clear hK K
      try simp only [Act.put, List.getElem_toArray, List.getElem_cons_succ, List.getElem_cons_zero, List.setIfInBounds_toArray, List.set_cons_zero, List.set_cons_succ]
      refine take_putH (i := 9) (v := ?_) (some 26) rfl (by kernel_rfl) (by kernel_rfl) (by kernel_rfl) (by kernel_rfl) (fun _ _ _ h => h) (Or.inl ⟨by rfl, ?_⟩) hH5.out ?_
      rotate_left
      · (intro wS hSw; obtain ⟨z0, z1, z2, z3, z4, z5, z6, z7, z8, z9, z10, z11, z12, z13, z14, z15⟩ := hSw; go_simp; try with_reducible rfl)
      try simp only [Act.put, List.setIfInBounds_toArray, List.set_cons_zero, List.set_cons_succ]
      refine wpAnyH_done (by kernel_rfl) ?_ _
      go_wp2
      go_roundw
      case rel => exact ⟨i + 1, by go_num, by omega, HB5⟩
      case measure => simp [intOf]; omega
    · have hnl : ¬ (i : Int) < (m : Int) := by omega
      go_wp2
      go_ret
      exact ⟨rfl, HB.out⟩
end Go.Proofs.YtidihfhgnjkmaaaGreat
/- grapevinelaw15.spoil: whoever told a parcel writes over it. -/
namespace Go.Proofs.YtidihfhgnjkmaaaGreat
set_option maxRecDepth 100000
open Go.RowKit
variable {S : Nat → Prop}

/-- Blocks of S alone turn. -/
structure Spt (S : Nat → Prop) (w w' : World) : Prop where
  os : w'.os = w.os
  tape : w'.tape = w.tape
  output : w'.output = w.output
  size : w.heap.size ≤ w'.heap.size
  block : ∀ k, k < w.heap.size → ¬ S k → w'.heap[k]? = w.heap[k]?
theorem Spt.refl (w : World) : Spt S w w := ⟨rfl, rfl, rfl, Nat.le_refl _, fun _ _ _ => rfl⟩
theorem Spt.trans {w w1 w2 : World} (a : Spt S w w1) (b : Spt S w1 w2) : Spt S w w2 := ⟨b.os.trans a.os, b.tape.trans a.tape, b.output.trans a.output, Nat.le_trans a.size b.size, fun k hk hs => (b.block k (Nat.lt_of_lt_of_le hk a.size) hs).trans (a.block k hk hs)⟩
theorem Spt.of_below {w w1 : World} (a : Below w.heap.size w w1) : Spt S w w1 := ⟨a.os, a.tape, a.output, a.size, fun k hk _ => a.block k hk⟩
theorem Spt.setCell {w w1 : World} (a : Spt S w w1) {g : Nat} (hg : S g) (i : Nat) (u : Value) : Spt S w (w1.setCell ⟨g, i, none⟩ u) := ⟨a.os, a.tape, a.output, by rw [World.size_setCell]; exact a.size, fun k hk hs => (heap_setCell_other w1 ⟨g, i, none⟩ k u (by rintro rfl; exact hs hg)).trans (a.block k hk hs)⟩
/-- Rows whose cells are numbers, to be written over: bytes. -/
def ByR (S : Nat → Prop) (w : World) (a : Option Addr) (n : Nat) : Prop := n = 0 ∨ ∃ g o cs, a = some ⟨g, o, none⟩ ∧ S g ∧ w.heap[g]? = some (.cells cs 5 (0, 0)) ∧ ∀ i, i < n → ∃ z, cs[o + i]? = some (.int .u8 z)
/-- Items. -/
def ItR (S : Nat → Prop) (w : World) (a : Option Addr) (n : Nat) : Prop := n = 0 ∨ ∃ g cs, a = some ⟨g, 0, none⟩ ∧ S g ∧ w.heap[g]? = some (.cells cs 54 (0, 0)) ∧ ∀ i, i < n → (∃ z, cs[i * 3]? = some (.int .i64 z)) ∧ ∃ ba bl bc, cs[i * 3 + 2]? = some (.slice ba bl bc) ∧ bl ≤ bc ∧ bc ≤ maxLen ∧ ByR S w ba bl
/-- Spans. -/
def SpR (S : Nat → Prop) (w : World) (a : Option Addr) (n : Nat) : Prop := n = 0 ∨ ∃ g cs, a = some ⟨g, 0, none⟩ ∧ S g ∧ w.heap[g]? = some (.cells cs 62 (0, 0)) ∧ ∀ i, i < n → ∃ z, cs[i * 3 + 1]? = some (.int .i64 z)
theorem heap_set (w : World) {g : Nat} {cs : Array Value} {t : TypeId} (h : w.heap[g]? = some (.cells cs t (0, 0))) (i : Nat) (u : Value) : (w.setCell ⟨g, i, none⟩ u).heap[g]? = some (.cells (cs.setIfInBounds i u) t (0, 0)) := by
  have hk : Bk w g cs t := h
  exact hk.set i u
theorem ByR.set {w : World} {a : Option Addr} {n : Nat} (h : ByR S w a n) {g i : Nat} {cs : Array Value} {t : TypeId} (hg : w.heap[g]? = some (.cells cs t (0, 0))) {z : Int} {u : Value} (hu : t = 5 → u = .int .u8 z) : ByR S (w.setCell ⟨g, i, none⟩ u) a n := by
  rcases h with h | ⟨g', o, cs', ha, hs, hc, hi⟩
  · exact .inl h
  · by_cases e : g' = g
    · subst e
      rw [hg] at hc
      simp only [Option.some.injEq, Obj.cells.injEq] at hc
      obtain ⟨rfl, rfl, _⟩ := hc
      refine .inr ⟨g', o, _, ha, hs, heap_set w hg i u, fun k hk => ?_⟩
      obtain ⟨z', hz⟩ := hi k hk
      by_cases e2 : o + k = i
      · subst e2
        rw [hu rfl, Array.getElem?_setIfInBounds_self_of_lt (Array.getElem?_eq_some_iff.1 hz).1]
        exact ⟨z, rfl⟩
      · rw [Array.getElem?_setIfInBounds_ne (Ne.symm e2)]
        exact ⟨z', hz⟩
    · exact .inr ⟨g', o, cs', ha, hs, (heap_setCell_other w ⟨g, i, none⟩ g' u e).trans hc, hi⟩
theorem ItR.byte {w : World} {a : Option Addr} {n : Nat} (h : ItR S w a n) {g i : Nat} {cs : Array Value} (hg : w.heap[g]? = some (.cells cs 5 (0, 0))) {z : Int} : ItR S (w.setCell ⟨g, i, none⟩ (.int .u8 z)) a n := by
  rcases h with h | ⟨g', cs', ha, hs, hc, hi⟩
  · exact .inl h
  · have e : g' ≠ g := by
      rintro rfl
      rw [hg] at hc
      simp only [Option.some.injEq, Obj.cells.injEq] at hc
      exact absurd hc.2.1 (by decide)
    refine .inr ⟨g', cs', ha, hs, (heap_setCell_other w ⟨g, i, none⟩ g' _ e).trans hc, fun k hk => ?_⟩
    obtain ⟨h1, ba, bl, bc, h2, h3, h4, h5⟩ := hi k hk
    exact ⟨h1, ba, bl, bc, h2, h3, h4, h5.set hg (z := z) fun _ => rfl⟩
theorem ItR.tick {w : World} {a : Option Addr} {n : Nat} (h : ItR S w a n) {g k : Nat} {cs : Array Value} (hg : w.heap[g]? = some (.cells cs 54 (0, 0))) {z : Int} : ItR S (w.setCell ⟨g, k * 3, none⟩ (.int .i64 z)) a n := by
  rcases h with h | ⟨g', cs', ha, hs, hc, hi⟩
  · exact .inl h
  · by_cases e : g' = g
    · subst e
      rw [hg] at hc
      simp only [Option.some.injEq, Obj.cells.injEq] at hc
      obtain ⟨rfl, _⟩ := hc
      refine .inr ⟨g', _, ha, hs, heap_set w hg _ _, fun j hj => ?_⟩
      obtain ⟨⟨z', hz⟩, ba, bl, bc, h2, h3, h4, h5⟩ := hi j hj
      refine ⟨?_, ba, bl, bc, by rw [Array.getElem?_setIfInBounds_ne (by omega)]; exact h2, h3, h4, h5.set hg (z := 0) fun h => absurd h (by decide)⟩
      by_cases e2 : j * 3 = k * 3
      · rw [e2, Array.getElem?_setIfInBounds_self_of_lt (by rw [← e2]; exact (Array.getElem?_eq_some_iff.1 hz).1)]
        exact ⟨z, rfl⟩
      · rw [Array.getElem?_setIfInBounds_ne (Ne.symm e2)]
        exact ⟨z', hz⟩
    · refine .inr ⟨g', cs', ha, hs, (heap_setCell_other w ⟨g, _, none⟩ g' _ e).trans hc, fun j hj => ?_⟩
      obtain ⟨h1, ba, bl, bc, h2, h3, h4, h5⟩ := hi j hj
      exact ⟨h1, ba, bl, bc, h2, h3, h4, h5.set hg (z := 0) fun h => absurd h (by decide)⟩
theorem SpR.set {w : World} {a : Option Addr} {n : Nat} (h : SpR S w a n) {g k : Nat} {cs : Array Value} {t : TypeId} (hg : w.heap[g]? = some (.cells cs t (0, 0))) {u : Value} {z : Int} (hu : t = 62 → u = .int .i64 z) : SpR S (w.setCell ⟨g, k, none⟩ u) a n := by
  rcases h with h | ⟨g', cs', ha, hs, hc, hi⟩
  · exact .inl h
  · by_cases e : g' = g
    · subst e
      rw [hg] at hc
      simp only [Option.some.injEq, Obj.cells.injEq] at hc
      obtain ⟨rfl, rfl, _⟩ := hc
      refine .inr ⟨g', _, ha, hs, heap_set w hg _ _, fun j hj => ?_⟩
      obtain ⟨z', hz⟩ := hi j hj
      by_cases e2 : j * 3 + 1 = k
      · subst e2
        rw [hu rfl, Array.getElem?_setIfInBounds_self_of_lt (Array.getElem?_eq_some_iff.1 hz).1]
        exact ⟨z, rfl⟩
      · rw [Array.getElem?_setIfInBounds_ne (Ne.symm e2)]
        exact ⟨z', hz⟩
    · exact .inr ⟨g', cs', ha, hs, (heap_setCell_other w ⟨g, k, none⟩ g' u e).trans hc, hi⟩
theorem ByR.below {w w' : World} {a : Option Addr} {n : Nat} (h : ByR S w a n) (hb : Below w.heap.size w w') : ByR S w' a n := by
  rcases h with h | ⟨g, o, cs, ha, hs, hc, hi⟩
  · exact .inl h
  · exact .inr ⟨g, o, cs, ha, hs, (hb.block g (Array.getElem?_eq_some_iff.1 hc).1).trans hc, hi⟩
theorem ItR.below {w w' : World} {a : Option Addr} {n : Nat} (h : ItR S w a n) (hb : Below w.heap.size w w') : ItR S w' a n := by
  rcases h with h | ⟨g, cs, ha, hs, hc, hi⟩
  · exact .inl h
  · refine .inr ⟨g, cs, ha, hs, (hb.block g (Array.getElem?_eq_some_iff.1 hc).1).trans hc, fun i h => ?_⟩
    obtain ⟨h1, ba, bl, bc, h2, h3, h4, h5⟩ := hi i h
    exact ⟨h1, ba, bl, bc, h2, h3, h4, h5.below hb⟩
theorem SpR.below {w w' : World} {a : Option Addr} {n : Nat} (h : SpR S w a n) (hb : Below w.heap.size w w') : SpR S w' a n := by
  rcases h with h | ⟨g, cs, ha, hs, hc, hi⟩
  · exact .inl h
  · exact .inr ⟨g, cs, ha, hs, (hb.block g (Array.getElem?_eq_some_iff.1 hc).1).trans hc, hi⟩
/-- Blocks of S alone turn, and what may be written over may be so still. -/
structure Spk (S : Nat → Prop) (w w' : World) : Prop where
  spt : Spt S w w'
  it : ∀ a n, ItR S w a n → ItR S w' a n
  sp : ∀ a n, SpR S w a n → SpR S w' a n
theorem Spk.refl (w : World) : Spk S w w := ⟨Spt.refl w, fun _ _ h => h, fun _ _ h => h⟩
theorem Spk.trans {w w1 w2 : World} (a : Spk S w w1) (b : Spk S w1 w2) : Spk S w w2 := ⟨a.spt.trans b.spt, fun x n h => b.it x n (a.it x n h), fun x n h => b.sp x n (a.sp x n h)⟩
theorem Spk.of_below {w w1 : World} (a : Below w.heap.size w w1) : Spk S w w1 := ⟨Spt.of_below a, fun _ _ h => h.below a, fun _ _ h => h.below a⟩
theorem Spk.byte {w w1 : World} (a : Spk S w w1) {g : Nat} (hg : S g) (i : Nat) {cs : Array Value} (hc : w1.heap[g]? = some (.cells cs 5 (0, 0))) (z : Int) : Spk S w (w1.setCell ⟨g, i, none⟩ (.int .u8 z)) := ⟨a.spt.setCell hg _ _, fun x n h => (a.it x n h).byte hc, fun x n h => (a.sp x n h).set hc (z := 0) fun h => absurd h (by decide)⟩
theorem Spk.tick {w w1 : World} (a : Spk S w w1) {g : Nat} (hg : S g) (k : Nat) {cs : Array Value} (hc : w1.heap[g]? = some (.cells cs 54 (0, 0))) (z : Int) : Spk S w (w1.setCell ⟨g, k * 3, none⟩ (.int .i64 z)) := ⟨a.spt.setCell hg _ _, fun x n h => (a.it x n h).tick hc, fun x n h => (a.sp x n h).set hc (z := 0) fun h => absurd h (by decide)⟩
theorem ItR.span {w : World} {a : Option Addr} {n : Nat} (h : ItR S w a n) {g i : Nat} {cs : Array Value} {u : Value} (hg : w.heap[g]? = some (.cells cs 62 (0, 0))) : ItR S (w.setCell ⟨g, i, none⟩ u) a n := by
  rcases h with h | ⟨g', cs', ha, hs, hc, hi⟩
  · exact .inl h
  · have e : g' ≠ g := by
      rintro rfl
      rw [hg] at hc
      simp only [Option.some.injEq, Obj.cells.injEq] at hc
      exact absurd hc.2.1 (by decide)
    refine .inr ⟨g', cs', ha, hs, (heap_setCell_other w ⟨g, i, none⟩ g' _ e).trans hc, fun k hk => ?_⟩
    obtain ⟨h1, ba, bl, bc, h2, h3, h4, h5⟩ := hi k hk
    exact ⟨h1, ba, bl, bc, h2, h3, h4, h5.set hg (z := 0) fun h => absurd h (by decide)⟩
theorem Spk.span {w w1 : World} (a : Spk S w w1) {g : Nat} (hg : S g) (i : Nat) {cs : Array Value} (hc : w1.heap[g]? = some (.cells cs 62 (0, 0))) (z : Int) : Spk S w (w1.setCell ⟨g, i, none⟩ (.int .i64 z)) := ⟨a.spt.setCell hg _ _, fun x n h => (a.it x n h).span hc, fun x n h => (a.sp x n h).set hc (z := z) fun _ => rfl⟩
variable {S' : Nat → Prop}
theorem ByR.refine_ {w : World} {a : Option Addr} {n : Nat} (h : ByR S w a n) (hs : ∀ k cs m, S k → w.heap[k]? = some (Obj.cells cs 5 m) → S' k) : ByR S' w a n := by
  rcases h with h | ⟨g, o, cs, ha, hk, hc, hi⟩
  · exact .inl h
  · exact .inr ⟨g, o, cs, ha, hs g _ _ hk hc, hc, hi⟩
theorem ItR.refine_ {w : World} {a : Option Addr} {n : Nat} (h : ItR S w a n) (hs : ∀ k cs m, S k → w.heap[k]? = some (Obj.cells cs 5 m) → S' k) (ht : ∀ k cs m, S k → w.heap[k]? = some (Obj.cells cs 54 m) → S' k) : ItR S' w a n := by
  rcases h with h | ⟨g, cs, ha, hk, hc, hi⟩
  · exact .inl h
  · refine .inr ⟨g, cs, ha, ht g _ _ hk hc, hc, fun i h => ?_⟩
    obtain ⟨h1, ba, bl, bc, h2, h3, h4, h5⟩ := hi i h
    exact ⟨h1, ba, bl, bc, h2, h3, h4, h5.refine_ hs⟩
theorem SpR.refine_ {w : World} {a : Option Addr} {n : Nat} (h : SpR S w a n) (ht : ∀ k cs m, S k → w.heap[k]? = some (Obj.cells cs 62 m) → S' k) : SpR S' w a n := by
  rcases h with h | ⟨g, cs, ha, hk, hc, hi⟩
  · exact .inl h
  · exact .inr ⟨g, cs, ha, ht g _ _ hk hc, hc, hi⟩
end Go.Proofs.YtidihfhgnjkmaaaGreat
/- grapevinelaw15.spoil: the walk. -/
namespace Go.Proofs.YtidihfhgnjkmaaaGreat
set_option maxRecDepth 100000
open Go.RowKit
variable {S : Nat → Prop}

set_option maxHeartbeats 8000000 in
theorem law_spoil (c0 c1 c2 c3 c4 c5 : Value) (sa : Option Addr) (sn sc : Nat) (ia : Option Addr) (im ic : Nat) (w : World) (hI : ItR S w ia im) (hP : SpR S w sa sn) (hm : im ≤ maxLen) (hn : sn ≤ maxLen) (hS : ∀ k, w.heap.size ≤ k → ¬ S k) :
    Calls Tryz.prog 51 #[.agg #[c0, c1, c2, c3, c4, c5, .slice sa sn sc, .slice ia im ic]] w fun e w' => e = .returned (.tuple #[]) ∧ Spk S w w' := by
  obtain ⟨W1, HW1⟩ : ∃ W1, Hid (W1 = w.alloc (.cells #[c0, c1, c2, c3, c4, c5, .slice sa sn sc, .slice ia im ic] 33)) := ⟨_, rfl⟩
  have HX1 : Hid (Below w.heap.size w W1) := by (show Below _ _ _); rw [HW1.out]; exact below_new w _
  have HK1 : Hid (Bk W1 w.heap.size #[c0, c1, c2, c3, c4, c5, .slice sa sn sc, .slice ia im ic] 33) := by (show Bk _ _ _ _); rw [HW1.out]; exact Bk.new w _ _
  have HI1 : Hid (ItR S W1 ia im) := hI.below HX1.out
  have HP1 : Hid (SpR S W1 sa sn) := hP.below HX1.out
  have HNS : Hid (¬ S w.heap.size) := hS _ (Nat.le_refl _)
  have HST : Hid (∀ wr, Spt S W1 wr → Bk wr w.heap.size #[c0, c1, c2, c3, c4, c5, .slice sa sn sc, .slice ia im ic] 33) := fun wr h => (h.block _ HK1.out.lt HNS.out).trans HK1.out
  have HSP0 : Hid (Spk S w W1) := Spk.of_below HX1.out
  obtain ⟨pb, HPB⟩ : ∃ pb, Hid (pb = w.heap.size) := ⟨_, rfl⟩
  have HST : Hid (∀ wr, Spt S W1 wr → Bk wr pb #[c0, c1, c2, c3, c4, c5, .slice sa sn sc, .slice ia im ic] 33) := by (show ∀ wr, _); rw [HPB.out]; exact HST.out
  unfold maxLen at hm hn
  clear hI hP hS
  go_enter Tryz.func51, Tryz.ntmps51
  go_upto_region 1 with fail
  rw [← HW1.out, ← HPB.out]
  go_wp2
  go_loopw [2, 3] (fun t2 _t3 wr => ∃ i : Nat, t2 = .int .i64 (i : Int) ∧ i ≤ im ∧ Hid (ItR S wr ia im) ∧ Hid (SpR S wr sa sn) ∧ Hid (Spk S W1 wr)) (fun t2 _ _ => im - (intOf t2).toNat)
  case atStart => exact ⟨0, rfl, Nat.zero_le _, HI1, HP1, Spk.refl _⟩
  case round =>
    obtain ⟨i, rfl, hi, HI, HP, HS⟩ := hrel
    obtain ⟨w2, rfl⟩ : ∃ w2, w2 = wr := ⟨wr, rfl⟩
    have t7 : w2.cell? ⟨pb, 7, none⟩ = some (.slice ia im ic) := (HST.out _ HS.out.spt).cell 7 rfl
    by_cases hlt : i < im
    · have hlt' : (i : Int) < (im : Int) := by omega
      have gi : (0 : Int) ≤ (i : Int) := by omega
      obtain ⟨g, cs, rfl, hgS, hgc, hgi⟩ : ∃ g cs, ia = some ⟨g, 0, none⟩ ∧ S g ∧ w2.heap[g]? = some (.cells cs 54 (0, 0)) ∧ ∀ i, i < im → (∃ z, cs[i * 3]? = some (.int .i64 z)) ∧ ∃ ba bl bc, cs[i * 3 + 2]? = some (.slice ba bl bc) ∧ bl ≤ bc ∧ bc ≤ maxLen ∧ ByR S w2 ba bl := by
        rcases HI.out with h | ⟨g, cs, h⟩
        · omega
        · exact ⟨g, cs, h⟩
      obtain ⟨_, ba, bl, bc, h2, h3, h4, h5⟩ := hgi i hlt
      have HGS : Hid (S g) := hgS
      have hbl : bl ≤ 9223372036854775807 := by unfold maxLen at h4; omega
      have HC0 : Hid (w2.cell? ⟨g, i * 3 + 2, none⟩ = some (.slice ba bl bc)) := by (show _ = _); rw [cell_of_row w2 g _ cs _ _ hgc]; exact h2
      clear h2 h3 h4 h5 hgi hgc hgS
      go_wp2
      go_loopw [3] (fun t3 wr => ∃ k : Nat, t3 = .int .i64 (k : Int) ∧ k ≤ bl ∧ Hid (ItR S wr (some ⟨g, 0, none⟩) im) ∧ Hid (SpR S wr sa sn) ∧ Hid (Spk S W1 wr) ∧ Hid (wr.cell? ⟨g, i * 3 + 2, none⟩ = some (.slice ba bl bc))) (fun t3 _ => bl - (intOf t3).toNat)
      case atStart => exact ⟨0, rfl, Nat.zero_le _, HI, HP, HS, HC0⟩
      case round =>
        clear HI HP HS t7
        obtain ⟨k, rfl, hk, HI, HP, HS, HC⟩ := hrel
        obtain ⟨w3, rfl⟩ : ∃ w3, w3 = wr := ⟨wr, rfl⟩
        have t7 : w3.cell? ⟨pb, 7, none⟩ = some (.slice (some ⟨g, 0, none⟩) im ic) := (HST.out _ HS.out.spt).cell 7 rfl
        have cb : w3.cell? ⟨g, i * 3 + 2, none⟩ = some (.slice ba bl bc) := HC.out
        obtain ⟨cs, hgc, hgi⟩ : ∃ cs, w3.heap[g]? = some (.cells cs 54 (0, 0)) ∧ ∀ i, i < im → (∃ z, cs[i * 3]? = some (.int .i64 z)) ∧ ∃ ba bl bc, cs[i * 3 + 2]? = some (.slice ba bl bc) ∧ bl ≤ bc ∧ bc ≤ maxLen ∧ ByR S w3 ba bl := by
          rcases HI.out with h | ⟨g', cs, he, _, h1, h2⟩
          · omega
          · simp only [Option.some.injEq, Addr.mk.injEq, and_true] at he
            subst he
            exact ⟨cs, h1, h2⟩
        obtain ⟨⟨z, hz⟩, ba', bl', bc', h2, h3, h4, h5⟩ := hgi i hlt
        have hee : some (Value.slice ba' bl' bc') = some (Value.slice ba bl bc) := by rw [← h2, ← cb, cell_of_row w3 g _ cs _ _ hgc]
        simp only [Option.some.injEq, Value.slice.injEq] at hee
        obtain ⟨rfl, rfl, rfl⟩ := hee
        have HGC : Hid (w3.heap[g]? = some (.cells cs 54 (0, 0))) := hgc
        by_cases hkl : k < bl'
        · have hkl' : (k : Int) < (bl' : Int) := by omega
          have gk : (0 : Int) ≤ (k : Int) := by omega
          obtain ⟨g2, o, cs2, rfl, hg2, hc2, hi2⟩ : ∃ g2 o cs2, ba' = some ⟨g2, o, none⟩ ∧ S g2 ∧ w3.heap[g2]? = some (.cells cs2 5 (0, 0)) ∧ ∀ i, i < bl' → ∃ z, cs2[o + i]? = some (.int .u8 z) := by
            rcases h5 with h | ⟨g2, o, cs2, h⟩
            · omega
            · exact ⟨g2, o, cs2, h⟩
          obtain ⟨zb, hzb⟩ := hi2 k hkl
          have db : w3.cell? ⟨g2, o + k, none⟩ = some (.int .u8 zb) := by rw [cell_of_row w3 g2 _ cs2 _ _ hc2]; exact hzb
          have fb : w3.frozen? ⟨g2, o + k, none⟩ = false := frozen_of_row w3 g2 _ cs2 _ hc2
          have HNE : Hid (g ≠ g2) := by
            (show _ ≠ _)
            rintro rfl
            rw [hgc] at hc2
            simp only [Option.some.injEq, Obj.cells.injEq] at hc2
            exact absurd hc2.2.1 (by decide)
          have HIN : Hid (∀ x : Int, ItR S (w3.setCell ⟨g2, o + k, none⟩ (.int .u8 x)) (some ⟨g, 0, none⟩) im) := fun x => HI.out.byte hc2
          have HPN : Hid (∀ x : Int, SpR S (w3.setCell ⟨g2, o + k, none⟩ (.int .u8 x)) sa sn) := fun x => HP.out.set hc2 (z := 0) fun h => absurd h (by decide)
          have HSN : Hid (∀ x : Int, Spk S W1 (w3.setCell ⟨g2, o + k, none⟩ (.int .u8 x))) := fun x => HS.out.byte hg2 _ hc2 x
          have HCN : Hid (∀ x : Int, (w3.setCell ⟨g2, o + k, none⟩ (.int .u8 x)).cell? ⟨g, i * 3 + 2, none⟩ = some (.slice (some ⟨g2, o, none⟩) bl' bc')) := fun x => (cell_same (heap_setCell_other w3 ⟨g2, o + k, none⟩ g _ HNE.out) _).trans HC.out
          clear h2 h3 h4 h5 hgi hgc hc2 hi2 hzb hz hg2
          go_wp2
          go_roundw
          case rel => exact ⟨k + 1, by go_num, by omega, HIN.out _, HPN.out _, HSN.out _, HCN.out _⟩
          case measure => simp [intOf]; omega
        · have hnl : ¬ (k : Int) < (bl' : Int) := by omega
          have d0 : w3.cell? ⟨g, i * 3, none⟩ = some (.int .i64 z) := by rw [cell_of_row w3 g _ cs _ _ hgc]; exact hz
          have f0 : w3.frozen? ⟨g, i * 3, none⟩ = false := frozen_of_row w3 g _ cs _ hgc
          have HIN : Hid (∀ x : Int, ItR S (w3.setCell ⟨g, i * 3, none⟩ (.int .i64 x)) (some ⟨g, 0, none⟩) im) := fun x => HI.out.tick hgc
          have HPN : Hid (∀ x : Int, SpR S (w3.setCell ⟨g, i * 3, none⟩ (.int .i64 x)) sa sn) := fun x => HP.out.set hgc (z := 0) fun h => absurd h (by decide)
          have HSN : Hid (∀ x : Int, Spk S W1 (w3.setCell ⟨g, i * 3, none⟩ (.int .i64 x))) := fun x => HS.out.tick HGS.out _ hgc x
          clear h2 h3 h4 h5 hgi hgc hz
          go_wp2
          go_roundw
          case rel => exact ⟨i + 1, by go_num, by omega, HIN.out _, HPN.out _, HSN.out _⟩
          case measure => simp [intOf]; omega
    · have hnl : ¬ (i : Int) < (im : Int) := by omega
      go_wp2
      go_loopw [4] (fun t4 wr => ∃ k : Nat, t4 = .int .i64 (k : Int) ∧ k ≤ sn ∧ Hid (SpR S wr sa sn) ∧ Hid (Spk S W1 wr)) (fun t4 _ => sn - (intOf t4).toNat)
      case atStart => exact ⟨0, rfl, Nat.zero_le _, HP, HS⟩
      case round =>
        clear HI HP HS t7
        obtain ⟨k, rfl, hk, HP, HS⟩ := hrel
        obtain ⟨w3, rfl⟩ : ∃ w3, w3 = wr := ⟨wr, rfl⟩
        have t6 : w3.cell? ⟨pb, 6, none⟩ = some (.slice sa sn sc) := (HST.out _ HS.out.spt).cell 6 rfl
        by_cases hkl : k < sn
        · have hkl' : (k : Int) < (sn : Int) := by omega
          have gk : (0 : Int) ≤ (k : Int) := by omega
          obtain ⟨g, cs, rfl, hgS, hgc, hgi⟩ : ∃ g cs, sa = some ⟨g, 0, none⟩ ∧ S g ∧ w3.heap[g]? = some (.cells cs 62 (0, 0)) ∧ ∀ i, i < sn → ∃ z, cs[i * 3 + 1]? = some (.int .i64 z) := by
            rcases HP.out with h | ⟨g, cs, h⟩
            · omega
            · exact ⟨g, cs, h⟩
          obtain ⟨z, hz⟩ := hgi k hkl
          have d0 : w3.cell? ⟨g, k * 3 + 1, none⟩ = some (.int .i64 z) := by rw [cell_of_row w3 g _ cs _ _ hgc]; exact hz
          have f0 : w3.frozen? ⟨g, k * 3 + 1, none⟩ = false := frozen_of_row w3 g _ cs _ hgc
          have HPN : Hid (∀ x : Int, SpR S (w3.setCell ⟨g, k * 3 + 1, none⟩ (.int .i64 x)) (some ⟨g, 0, none⟩) sn) := fun x => HP.out.set hgc (z := x) fun _ => rfl
          have HSN : Hid (∀ x : Int, Spk S W1 (w3.setCell ⟨g, k * 3 + 1, none⟩ (.int .i64 x))) := fun x => HS.out.span hgS _ hgc x
          clear hgi hgc hz hgS
          go_wp2
          go_roundw
          case rel => exact ⟨k + 1, by go_num, by omega, HPN.out _, HSN.out _⟩
          case measure => simp [intOf]; omega
        · have hnl2 : ¬ (k : Int) < (sn : Int) := by omega
          go_wp2
          refine ⟨rfl, _, results_none rfl _ _ _, rfl, ?_⟩
          exact HSP0.out.trans HS.out
end Go.Proofs.YtidihfhgnjkmaaaGreat
/- What is spoilt of a parcel of one's own; streams beside it. -/
namespace Go.Proofs.YtidihfhgnjkmaaaGreat
set_option maxRecDepth 100000
open Go.RowKit Go.Maps Go.Sort Go.Shelf
variable {Z Z' S : Nat → Prop}

theorem ByR.of_bdt {w : World} {b : Bd} {bs : List Nat} (h : BdT Z w b bs) (hs : ∀ k, Z k → k < w.heap.size → S k) : ByR S w b.1 b.2.1 := by
  by_cases hz : b.2.1 = 0
  · exact .inl hz
  · rcases h.rd.cells with h0 | ⟨g, o, ha, hg, hc⟩
    · exact absurd h0 hz
    · obtain ⟨cs, hcs⟩ := h.open_ _ ha
      refine .inr ⟨g, o, cs, ha, hs g (h.z _ ha) hg, hcs, fun i hi => ?_⟩
      have := hc i hi
      rw [cell_of_row w g _ cs _ _ hcs] at this
      exact ⟨_, this⟩
theorem ItR.of_ros {w : World} {base : Nat} {a : Option Addr} {n c : Nat} {R : List (It × Bd)} (h : Ros Z w base (.slice a n c) R) (h1 : ∀ k, base ≤ k → k < w.heap.size → S k) (h2 : ∀ k, Z k → k < w.heap.size → S k) : ItR S w a n := by
  rcases h.row.2 with ⟨hv, hn⟩ | ⟨g, c', cur, hv, hb, hg, hlc, hm, hs, ht⟩
  · simp only [Value.slice.injEq] at hv
    exact .inl hv.2.1
  · simp only [Value.slice.injEq] at hv
    obtain ⟨rfl, rfl, rfl⟩ := hv
    refine .inr ⟨g, cur, rfl, h1 g hb (Array.getElem?_eq_some_iff.1 hg).1, hg, fun i hi => ?_⟩
    obtain ⟨x, hx⟩ : ∃ x, R[i]? = some x := ⟨R[i], List.getElem?_eq_getElem hi⟩
    have key : ∀ j, j < 3 → cur[i * 3 + j]? = (icells x.1 x.2)[j]? := by
      intro j hj
      have e := irow_at R i x hx j hj
      rw [← ht, List.getElem?_take_of_lt (by omega), Array.getElem?_toList] at e
      exact e
    have hb := h.bod x (List.mem_of_getElem? hx)
    exact ⟨⟨x.1.tick, key 0 (by omega)⟩, x.2.1, x.2.2.1, x.2.2.2, key 2 (by omega), hb.lc, by have := hb.cm; unfold maxLen; omega, ByR.of_bdt hb h2⟩
theorem SpR.of_sps {w : World} {base : Nat} {a : Option Addr} {n c : Nat} {l : List Sp} (h : Sps w base (.slice a n c) l) (h1 : ∀ k, base ≤ k → k < w.heap.size → S k) : SpR S w a n := by
  rcases h.row.2 with ⟨hv, hn⟩ | ⟨g, c', cur, hv, hb, hg, hlc, hm, hs, ht⟩
  · simp only [Value.slice.injEq] at hv
    exact .inl hv.2.1
  · simp only [Value.slice.injEq] at hv
    obtain ⟨rfl, rfl, rfl⟩ := hv
    refine .inr ⟨g, cur, rfl, h1 g hb (Array.getElem?_eq_some_iff.1 hg).1, hg, fun i hi => ?_⟩
    obtain ⟨x, hx⟩ : ∃ x, l[i]? = some x := ⟨l[i], List.getElem?_eq_getElem hi⟩
    have e := flat3 l i x hx 1 (by omega)
    rw [← ht, List.getElem?_take_of_lt (by omega), Array.getElem?_toList] at e
    exact ⟨x.to, e⟩
/-- A parcel of one's own, with items that may be read. -/
theorem OwnPc.pcr {w : World} {B : Nat} {p : Pc} {ta : Option Addr} {tn tc : Nat} {ja : Option Addr} {jm jc : Nat} (h : OwnPc w B p ta tn tc ja jm jc) (hi : ∀ q ∈ p.items, ((-9223372036854775808 : Int) ≤ q.tick ∧ q.tick ≤ 9223372036854775807) ∧ (0 ≤ q.for_ ∧ q.for_ ≤ 4294967295)) : PcR (fun k => B ≤ k) w B ⟨p, ta, tn, tc, ja, jm, jc⟩ := by
  obtain ⟨L, hL, e⟩ := h.items
  refine ⟨h.spans, L, ⟨hL.row, fun x hx => BdT.of_own (hL.bod x hx) fun k hk => hk, fun x hx => ?_⟩, e⟩
  have := hi x.1 (by rw [← e]; exact List.mem_map.2 ⟨x, hx, rfl⟩)
  exact this
theorem PcR.spoil {w : World} {base : Nat} {q : Pa} (h : PcR Z w base q) (h1 : ∀ k, base ≤ k → k < w.heap.size → S k) (h2 : ∀ k, Z k → k < w.heap.size → S k) : ItR S w q.ia q.im ∧ SpR S w q.sa q.sn := by
  obtain ⟨R, hR, e⟩ := h.items
  exact ⟨ItR.of_ros hR h1 h2, SpR.of_sps h.spans h1⟩
/-- A stream stays where blocks are made; of these some may not be its own. -/
theorem Imp.over {w w2 : World} {s m : Nat} {L : List Sp} {X : List It} (h : Imp Z w s m L X) (hb : Below w.heap.size w w2) (hz : ∀ k, k < w.heap.size → Z k → Z' k) (hzz : ∀ k, w2.heap.size ≤ k → Z' k) : Imp Z' w2 s m L X := by
  obtain ⟨l, ⟨a, n, c, Y, g⟩, e⟩ := h
  have g2 := g.stay hb
  refine ⟨l, ⟨a, n, c, Y, ⟨g2.stm.blk, g2.stm.ok, g2.stm.items, g2.stm.rise, fun ad e => (let ⟨x1, x2, x3, x4⟩ := g.stm.apart ad e; ⟨Nat.lt_of_lt_of_le x1 hb.size, x2, x3, hz _ x1 x4⟩), hzz⟩, fun t => ?_, g.data⟩, e⟩
  have hi := g.its t
  cases ho : getI X t with
  | none =>
    rw [ho] at hi
    exact hi
  | some q =>
    rw [ho] at hi
    obtain ⟨h1, h2, h3, ba, bc, h4, h5, h6⟩ := hi
    refine ⟨h1, h2, h3, ba, bc, h4, h5.below hb, fun ad e => ?_⟩
    rcases h6 ad e with h | h
    · exact .inl h
    · rcases h5.cells with h0 | ⟨g', o, ha, hg, _⟩
      · exact .inl (List.eq_nil_of_length_eq_zero h0)
      · rw [ha] at e
        cases e
        exact .inr (hz _ hg h)
theorem Ref.over {w w2 : World} {y : Nat} {L : List Sp} {X : List It} (h : Ref Z w y L X) (hb : Below w.heap.size w w2) (hz : ∀ k, k < w.heap.size → Z k → Z' k) (hzz : ∀ k, w2.heap.size ≤ k → Z' k) : Ref Z' w2 y L X := by
  obtain ⟨R, la, ln, lc, xa, xn, xc, g, e⟩ := h
  have g2 := g.stay hb
  refine ⟨R, la, ln, lc, xa, xn, xc, ⟨g2.blk, g2.ok, fun ad e => hz _ (g.lt ad e) (g.lz ad e), g2.lt, ⟨g.its.size, ?_, fun x hx => ?_, g.its.each⟩, g.xl, g.xm, g.xnil, hzz⟩, e⟩
  · rcases g.its.cells with h0 | ⟨b, o, ha, hbl, hZ, hc⟩
    · exact .inl h0
    · exact .inr ⟨b, o, ha, Nat.lt_of_lt_of_le hbl hb.size, hz _ hbl hZ, fun i x hi => by rw [hb.cell (p := ⟨b, o + i * 3, none⟩) hbl, hb.cell (p := ⟨b, o + i * 3 + 1, none⟩) hbl, hb.cell (p := ⟨b, o + i * 3 + 2, none⟩) hbl]; exact hc i x hi⟩
  · have b := g.its.bod x hx
    have b2 := g2.its.bod x hx
    exact ⟨b2.rd, b2.nil_, b2.lc, b2.cm, fun ad e => by obtain ⟨cs, m, hc⟩ := b.ty ad e; exact hz _ (Array.getElem?_eq_some_iff.1 hc).1 (b.z ad e), b2.ty, b2.open_⟩
theorem Duo.over {w w2 : World} {s m y : Nat} {L : List Sp} {X : List It} (h : Duo Z w s m y L X) (hb : Below w.heap.size w w2) (hz : ∀ k, k < w.heap.size → Z k → Z' k) (hzz : ∀ k, w2.heap.size ≤ k → Z' k) : Duo Z' w2 s m y L X := ⟨h.imp.over hb hz hzz, h.ref.over hb hz hzz, h.kn, h.few, h.ys⟩
/-- It stays where what is not its own is spoilt. -/
theorem Duo.spt {w w' : World} {s m y : Nat} {L : List Sp} {X : List It} (h : Duo Z w s m y L X) (ht : Spt S w w') (hz : ∀ k, Z k → ¬ S k) (hs : ¬ S s ∧ ¬ S m ∧ ¬ S y) : Duo Z w' s m y L X := by
  obtain ⟨_, k1, k2, _⟩ := h.imp.noInt
  obtain ⟨_, k3⟩ := h.ref.noInt
  exact ⟨h.imp.frame ht.size (ht.block s k1 hs.1) (ht.block m k2 hs.2.1) fun k hk hZ _ => ht.block k hk (hz k hZ), h.ref.frame ht.size (ht.block y k3 hs.2.2) fun k hk hZ _ => ht.block k hk (hz k hZ), h.kn, h.few, h.ys⟩
/-- What was read of a parcel is read where blocks without numbers turn. -/
theorem PcRd.ints {w w' : World} {p : Pc} {sa : Option Addr} {sn sc : Nat} {ia : Option Addr} {im ic : Nat} (h : PcRd w p sa sn sc ia im ic) (hs : w.heap.size ≤ w'.heap.size) (hk : ∀ k, k < w.heap.size → HasInt w k → w'.heap[k]? = w.heap[k]?) : PcRd w' p sa sn sc ia im ic := by
  refine ⟨h.spans.frame (Z := fun _ => True) (fun _ _ => trivial) hs fun k h1 _ h2 => hk k h1 h2, ⟨h.items.size, ?_, h.items.each⟩, h.sl, h.sm, h.il, h.im_⟩
  rcases h.items.cells with h0 | ⟨g, o, ha, hg, hc⟩
  · exact .inl h0
  · cases hl : p.items with
    | nil => exact .inl rfl
    | cons q0 r0 =>
      rw [hl] at hc
      have e := hk g hg (.inl ⟨_, _, _, (hc 0 q0 rfl).1⟩)
      refine .inr ⟨g, o, ha, Nat.lt_of_lt_of_le hg hs, fun i q hi => ?_⟩
      obtain ⟨k1, k2, ba, bl, bc, k3, k4, k5⟩ := hc i q hi
      refine ⟨(cell_same e _).trans k1, (cell_same e _).trans k2, ba, bl, bc, (cell_same e _).trans k3, ?_, k5⟩
      by_cases hb : bl = 0
      · exact ⟨k4.size, k4.byte, .inl hb⟩
      · refine k4.frame hs fun ad e hlt => hk _ hlt (.inl ?_)
        rcases k4.cells with h0 | ⟨g', o', ha', hg', hc'⟩
        · exact absurd h0 hb
        · rw [ha'] at e
          cases e
          exact ⟨_, _, _, hc' 0 (by omega)⟩
end Go.Proofs.YtidihfhgnjkmaaaGreat
