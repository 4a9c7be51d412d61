/- cover: done, Boxes of 'a Less x'. -/
import Derived.Test.YtnfeklebfnlgkaaGreatCvL6
namespace Go.Proofs.YtnfeklebfnlgkaaGreat
open Go.RowKit

theorem infoTr : (Tryz.prog.info? 68).map (fun i => (i.zero, i.size, i.bytes)) = some (some (.agg #[.slice none 0 0, .slice none 0 0]), 2, 48) := by kernel_rfl
theorem step_append_tr {w : World} {ops : Array Oper} {o : Oper} {act : Act} {K : Act → World → Prop} {Q : Exit → Act → World → Prop} {E : Prop} (hgd : o.guard = none) (s x : Operand)
    (ho : o.op = .call { callee := .builtin .append, args := #[s, x], argTypes := #[64, 64] })
    (base : Nat) (hs : act.eval s = .slice none 0 0) (k c : Nat) (p : List Value) (hp : p.length = 2) (h1 : ∀ u ∈ p, u.oneCell' = true) (hx : act.eval x = .slice (some ⟨k, 0, none⟩) 1 c)
    (hb : Blk w k p.toArray 68) (hbase : base ≤ w.heap.size)
    (h : ∀ v' w', w'.ownsRow base 68 2 v' 1 p → Below base w w' → K (act.put o.dst v') w') : if Region.wanted o (yielded ops act.tmps) = true then Oper.wp Tryz.prog o act w K Q else E := by
  rw [if_pos (by simp [Region.wanted, hgd])]
  obtain ⟨i0, hi, hz0, hz1, hz2⟩ := info_parts infoTr
  refine wp_append_own w s x 64 ho base 68 i0 (.agg #[.slice none 0 0, .slice none 0 0]) 2 48 Tryz.underlying64 hi hz0 hz1 hz2 (by rfl) (by decide) (.slice none 0 0) 0 [] hs (World.ownsRow_nil _ _ _ _) ⟨k, 0, none⟩ 1 c p hx (by rw [hp]) (fun j u hj => ?_) h1 (by unfold maxLen; omega) (by omega) hbase fun v' w' h1 h2 _ => ?_
  · have e : (⟨k, 0, none⟩ : Addr).add j = ⟨k, 0 + j, none⟩ := by unfold Addr.add; split <;> simp_all
    rw [e, Nat.zero_add]
    exact hb.cell j (by simpa using hj)
  · exact h v' w' (by simpa using h1) ((Below.refl _ _).grown h2 hbase (fun k hk => by cases hk))
/-- A list of one truth. -/
def Tr1 (w : World) (B : Nat) (v : Value) (x : Int) : Prop := ∃ gt ct cur ga ka gc kc, v = .slice (some ⟨gt, 0, none⟩) 1 ct ∧ Blk w gt cur 68 ∧ cur.toList.take 2 = [.slice (some ⟨ga, 0, none⟩) 1 ka, .slice (some ⟨gc, 0, none⟩) 1 kc] ∧ Box1 w B (.slice (some ⟨ga, 0, none⟩) 1 ka) [.string ⟨#[97]⟩, .int .i64 1, .bool false, .int .i64 (-9223372036854775808), .int .i64 (x - 1), .string ⟨#[]⟩, .string ⟨#[]⟩, .bool false, .int .u8 0, .bool false, .slice none 0 0, .slice none 0 0] ∧ Box1 w B (.slice (some ⟨gc, 0, none⟩) 1 kc) [.string ⟨#[97]⟩, .int .i64 1, .bool true, .int .i64 x, .int .i64 9223372036854775807, .string ⟨#[]⟩, .string ⟨#[]⟩, .bool false, .int .u8 0, .bool false, .slice none 0 0, .slice none 0 0]
set_option maxRecDepth 100000 in
set_option maxHeartbeats 4000000 in
theorem cv_done (x : Int) (hx : -900 ≤ x ∧ x ≤ 900) (gf cf : Nat) (w : World) (hg : Blk w gf [.string ⟨#[97]⟩, .int .i64 1].toArray 33) : Calls Tryz.prog 30 #[.slice none 0 0, .agg #[.int .i64 3, .string ⟨#[97]⟩, .int .i64 5, .int .i64 1, .int .i64 x, .string ⟨#[]⟩, .bool false, .complex .f64 0 0, .int .i64 0], .slice (some ⟨gf, 0, none⟩) 1 cf] w fun e w' => Hid (∃ v, e = .returned v ∧ Tr1 w' w.heap.size v x) ∧ Below w.heap.size w w' := by
  have HG : Hid (Blk w gf [.string ⟨#[97]⟩, .int .i64 1].toArray 33) := hg
  obtain ⟨W1, HW1⟩ : ∃ W1, Hid (W1 = w.alloc (.cells #[.int .i64 3, .string ⟨#[97]⟩, .int .i64 5, .int .i64 1, .int .i64 x, .string ⟨#[]⟩, .bool false, .complex .f64 0 0, .int .i64 0] 56)) := ⟨_, rfl⟩
  have HX1 : Hid (Below w.heap.size w W1) := by (show Below _ _ _); rw [HW1.out]; exact below_alloc _ _
  have HK1 : Hid (Blk W1 w.heap.size [.int .i64 3, .string ⟨#[97]⟩, .int .i64 5, .int .i64 1, .int .i64 x, .string ⟨#[]⟩, .bool false, .complex .f64 0 0, .int .i64 0].toArray 56) := by (show Blk _ _ _ _); rw [HW1.out]; exact Blk.new _ _ _
  have c0 : W1.cell? ⟨w.heap.size, 0, none⟩ = some (.int .i64 3) := HK1.out.cell 0 rfl
  have HSL : Hid (∀ W' : World, Below W1.heap.size W1 W' → W'.cell? ⟨w.heap.size, 0, none⟩ = some (.int .i64 3) ∧ W'.cell? ⟨w.heap.size, 1, none⟩ = some (.string ⟨#[97]⟩) ∧ W'.cell? ⟨w.heap.size, 2, none⟩ = some (.int .i64 5) ∧ W'.cell? ⟨w.heap.size, 3, none⟩ = some (.int .i64 1) ∧ W'.cell? ⟨w.heap.size, 4, none⟩ = some (.int .i64 x) ∧ W'.cell? ⟨w.heap.size, 5, none⟩ = some (.string ⟨#[]⟩) ∧ W'.cell? ⟨w.heap.size, 6, none⟩ = some (.bool false) ∧ W'.cell? ⟨w.heap.size, 7, none⟩ = some (.complex .f64 0 0) ∧ W'.cell? ⟨w.heap.size, 8, none⟩ = some (.int .i64 0)) := fun W' hb => by
    have h0 := HK1.out.stay hb
    exact ⟨h0.cell 0 rfl, h0.cell 1 rfl, h0.cell 2 rfl, h0.cell 3 rfl, h0.cell 4 rfl, h0.cell 5 rfl, h0.cell 6 rfl, h0.cell 7 rfl, h0.cell 8 rfl⟩
  clear hg
  go_enter Tryz.func30, Tryz.ntmps30
  go_upto_region 1 with fail
  rw [← HW1.out]
  go_wp2_with fail
  clear c0
  have HXD : Hid (Below W1.heap.size W1 W1.drew) := (Below.refl _ _).drew
  have s0 := HSL.out W1.drew HXD.out
  have HKI := cv_kindOf gf cf W1.drew ((HG.out.stay HX1.out).stay HXD.out)
  go_region_held3 (fun w' => w'.cell? ⟨w.heap.size, 0, none⟩ = some (.int .i64 3) ∧ w'.cell? ⟨w.heap.size, 1, none⟩ = some (.string ⟨#[97]⟩) ∧ w'.cell? ⟨w.heap.size, 2, none⟩ = some (.int .i64 5) ∧ w'.cell? ⟨w.heap.size, 3, none⟩ = some (.int .i64 1) ∧ w'.cell? ⟨w.heap.size, 4, none⟩ = some (.int .i64 x) ∧ w'.cell? ⟨w.heap.size, 5, none⟩ = some (.string ⟨#[]⟩) ∧ w'.cell? ⟨w.heap.size, 6, none⟩ = some (.bool false) ∧ w'.cell? ⟨w.heap.size, 7, none⟩ = some (.complex .f64 0 0) ∧ w'.cell? ⟨w.heap.size, 8, none⟩ = some (.int .i64 0)) (first | with_reducible exact s0 | with_reducible exact sa | with_reducible exact sb | with_reducible exact sbZ | with_reducible exact sc)
    (first
      | (guard_target =~ (if Region.wanted (Oper.mk (some 37) _ _ _ _ _) _ = true then _ else _); refine step_append_tr rfl (.tmp 29) (.tmp 36) rfl (yb.alloc (.cells #[.slice (some ⟨ga, 0, none⟩) 1 ka, .slice (some ⟨gc, 0, none⟩) 1 kc] 68)).heap.size rfl yb.heap.size 1 [.slice (some ⟨ga, 0, none⟩) 1 ka, .slice (some ⟨gc, 0, none⟩) 1 kc] rfl (by intro u hu; simp only [List.mem_cons, List.not_mem_nil, or_false] at hu; rcases hu with rfl | rfl <;> rfl) rfl (Blk.new yb _ _) (Nat.le_refl _) ?_; intro v5 w5 ho5 hb5; have hz := below_alloc yb (.cells #[.slice (some ⟨ga, 0, none⟩) 1 ka, .slice (some ⟨gc, 0, none⟩) 1 kc] 68); have HY5 : Hid (Below W1.heap.size W1 w5) := (HYb.out.trans (hz.mono HYb.out.size)).trans (hb5.mono (Nat.le_trans HYb.out.size hz.size)); have HO5 : Hid (w5.ownsRow (yb.alloc (.cells #[.slice (some ⟨ga, 0, none⟩) 1 ka, .slice (some ⟨gc, 0, none⟩) 1 kc] 68)).heap.size 68 2 v5 1 [.slice (some ⟨ga, 0, none⟩) 1 ka, .slice (some ⟨gc, 0, none⟩) 1 kc]) := ho5; have HV5 : Hid (Box1 w5 w.heap.size (.slice (some ⟨ga, 0, none⟩) 1 ka) [.string ⟨#[97]⟩, .int .i64 1, .bool false, .int .i64 (-9223372036854775808), .int .i64 (x - 1), .string ⟨#[]⟩, .string ⟨#[]⟩, .bool false, .int .u8 0, .bool false, .slice none 0 0, .slice none 0 0] ∧ Box1 w5 w.heap.size (.slice (some ⟨gc, 0, none⟩) 1 kc) [.string ⟨#[97]⟩, .int .i64 1, .bool true, .int .i64 x, .int .i64 9223372036854775807, .string ⟨#[]⟩, .string ⟨#[]⟩, .bool false, .int .u8 0, .bool false, .slice none 0 0, .slice none 0 0]) := ⟨(HB2.out.1.below hz).below hb5, (HB2.out.2.below hz).below hb5⟩; have sc := HSL.out w5 HY5.out; clear ho5 hb5 hz)
      | (go_at_call 47; refine HKI.mono ?_; rintro e ya ⟨rfl, hb⟩; have HYa : Hid (Below W1.heap.size W1 ya) := HXD.out.trans (hb.mono HXD.out.size); have sa := HSL.out ya HYa.out; clear hb)
      | (go_at_call 46; refine (cv_atomTruth x hx ya).mono ?_; rintro e yb ⟨ht, hb⟩; obtain ⟨v, u, rfl, hv, hu⟩ := ht.out; obtain ⟨ga, ka, hva⟩ := hv.form; obtain ⟨gc, kc, hvc⟩ := hu.form; subst hva hvc; have HYb : Hid (Below W1.heap.size W1 yb) := HYa.out.trans (hb.mono HYa.out.size); have HB2 : Hid (Box1 yb w.heap.size (.slice (some ⟨ga, 0, none⟩) 1 ka) [.string ⟨#[97]⟩, .int .i64 1, .bool false, .int .i64 (-9223372036854775808), .int .i64 (x - 1), .string ⟨#[]⟩, .string ⟨#[]⟩, .bool false, .int .u8 0, .bool false, .slice none 0 0, .slice none 0 0] ∧ Box1 yb w.heap.size (.slice (some ⟨gc, 0, none⟩) 1 kc) [.string ⟨#[97]⟩, .int .i64 1, .bool true, .int .i64 x, .int .i64 9223372036854775807, .string ⟨#[]⟩, .string ⟨#[]⟩, .bool false, .int .u8 0, .bool false, .slice none 0 0, .slice none 0 0]) := ⟨hv.lower (Nat.le_trans HX1.out.size HYa.out.size), hu.lower (Nat.le_trans HX1.out.size HYa.out.size)⟩; have sb := HSL.out yb HYb.out; have sbZ := HSL.out (yb.alloc (.cells #[.slice (some ⟨ga, 0, none⟩) 1 ka, .slice (some ⟨gc, 0, none⟩) 1 kc] 68)) (HYb.out.trans ((below_alloc yb (.cells #[.slice (some ⟨ga, 0, none⟩) 1 ka, .slice (some ⟨gc, 0, none⟩) 1 kc] 68)).mono HYb.out.size)); clear ht hb hv hu))
  rename_i hHeld
  clear hHeld s0 sa sb sbZ sc HKI
  have HF : Hid (Tr1 w5 w.heap.size v5 x ∧ Below w.heap.size w w5) := by
    refine ⟨?_, HX1.out.trans (HY5.out.mono HX1.out.size)⟩
    rcases HO5.out.2 with ⟨_, h0⟩ | ⟨gt, ct, cur, hv, _, hgt, _, _, _, hxx⟩
    · cases h0
    · exact ⟨gt, ct, cur, ga, ka, gc, kc, hv, hgt, hxx, HV5.out.1, HV5.out.2⟩
  go_wp2
  go_returns
  exact ⟨⟨v5, rfl, HF.out.1⟩, HF.out.2⟩
set_option maxRecDepth 100000 in
set_option maxHeartbeats 4000000 in
theorem cv_Boxes (x : Int) (hx : -900 ≤ x ∧ x ≤ 900) (gf cf gt ct : Nat) (w : World) (hg : Blk w gf [.string ⟨#[97]⟩, .int .i64 1].toArray 33) (ht : Blk w gt [.int .i64 3, .string ⟨#[97]⟩, .int .i64 5, .int .i64 1, .int .i64 x, .string ⟨#[]⟩, .bool false, .complex .f64 0 0, .int .i64 0].toArray 56) : Calls Tryz.prog 19 #[.slice (some ⟨gf, 0, none⟩) 1 cf, .slice (some ⟨gt, 0, none⟩) 1 ct] w fun e w' => Hid (∃ v, e = .returned (.tuple #[v, .int .i64 0]) ∧ Box1 w' w.heap.size v [.string ⟨#[97]⟩, .int .i64 1, .bool false, .int .i64 (-9223372036854775808), .int .i64 (x - 1), .string ⟨#[]⟩, .string ⟨#[]⟩, .bool false, .int .u8 0, .bool false, .slice none 0 0, .slice none 0 0]) ∧ Below w.heap.size w w' := by
  have HG : Hid (Blk w gf [.string ⟨#[97]⟩, .int .i64 1].toArray 33) := hg
  have HT : Hid (Blk w gt [.int .i64 3, .string ⟨#[97]⟩, .int .i64 5, .int .i64 1, .int .i64 x, .string ⟨#[]⟩, .bool false, .complex .f64 0 0, .int .i64 0].toArray 56) := ht
  have hcx : ∀ (a : Addr) (m : Mode) (W : World) (x y : Nat), (store a (.complex .f64 x y) m).run Tryz.prog W = stored Tryz.prog W a (.complex .f64 x y) m := fun a m W x y => run_store _ _ _ _ _ rfl
  have HFI := cv_fits x gf cf gt ct w hg ht
  clear hg ht
  go_enter Tryz.func19, Tryz.ntmps19
  go_wp2_with fail
  refine HFI.mono ?_
  rintro e w1 ⟨rfl, hb1⟩
  have HX1 : Hid (Below w.heap.size w w1) := hb1
  clear hb1 HFI
  have HT1 : Hid (Blk w1 gt [.int .i64 3, .string ⟨#[97]⟩, .int .i64 5, .int .i64 1, .int .i64 x, .string ⟨#[]⟩, .bool false, .complex .f64 0 0, .int .i64 0].toArray 56) := HT.out.stay HX1.out
  obtain ⟨W2, HW2⟩ : ∃ W2, Hid (W2 = w1.alloc (.cells #[.int .i64 3, .string ⟨#[97]⟩, .int .i64 5, .int .i64 1, .int .i64 x, .string ⟨#[]⟩, .bool false, .complex .f64 0 0, .int .i64 0] 56)) := ⟨_, rfl⟩
  have HY2 : Hid (Below w1.heap.size w1 W2) := by (show Below _ _ _); rw [HW2.out]; exact below_alloc _ _
  have HX2 : Hid (Below w.heap.size w W2) := HX1.out.trans (HY2.out.mono HX1.out.size)
  have HK2 : Hid (Blk W2 w1.heap.size [.int .i64 3, .string ⟨#[97]⟩, .int .i64 5, .int .i64 1, .int .i64 x, .string ⟨#[]⟩, .bool false, .complex .f64 0 0, .int .i64 0].toArray 56) := by (show Blk _ _ _ _); rw [HW2.out]; exact Blk.new _ _ _
  have HDN := cv_done x hx gf cf W2 (HG.out.stay HX2.out)
  go_wp2_with fail
  refine wp_loop_rounds 2 ?_
  rw [rounds_succ]
  go_upto_region 8 with (guard_target =~ wpList _ _ _ (Oper.mk (some 21) _ _ _ _ _ :: _) _ _; refine wpList_load_mid rfl 56 (.tmp 20) rfl gt 0 rfl [.int .i64 3, .string ⟨#[97]⟩, .int .i64 5, .int .i64 1, .int .i64 x, .string ⟨#[]⟩, .bool false, .complex .f64 0 0, .int .i64 0] _ HT1.out.all Tryz.underlying56 rfl (by rfl) ?_)
  rw [← HW2.out]
  clear hcx
  go_wp2_with (guard_target =~ wpList _ _ _ (Oper.mk (some 23) _ _ _ _ _ :: _) _ _; refine wpList_load_mid rfl 56 (.tmp 9) rfl w1.heap.size 0 rfl [.int .i64 3, .string ⟨#[97]⟩, .int .i64 5, .int .i64 1, .int .i64 x, .string ⟨#[]⟩, .bool false, .complex .f64 0 0, .int .i64 0] _ HK2.out.all Tryz.underlying56 rfl (by rfl) ?_)
  refine HDN.mono ?_
  rintro e w3 ⟨ht3, hb3⟩
  obtain ⟨v3, rfl, htr⟩ := ht3.out
  obtain ⟨gq, cq, cur, ga, ka, gc, kc, rfl, hq, hcur, hba, hbc⟩ := htr
  have HX3 : Hid (Below w.heap.size w w3) := HX2.out.trans (hb3.mono HX2.out.size)
  have HQ3 : Hid (Blk w3 gq cur 68 ∧ cur.toList.take 2 = [.slice (some ⟨ga, 0, none⟩) 1 ka, .slice (some ⟨gc, 0, none⟩) 1 kc]) := ⟨hq, hcur⟩
  have HRG : Hid (∀ W', Blk W' gq cur 68 → W'.cell? ⟨gq, 0, none⟩ = some (.slice (some ⟨ga, 0, none⟩) 1 ka) ∧ W'.cell? ⟨gq, 1, none⟩ = some (.slice (some ⟨gc, 0, none⟩) 1 kc)) := fun W' h => by
    have h0 : (cur.toList.take 2)[0]? = some (.slice (some ⟨ga, 0, none⟩) 1 ka) := by rw [hcur]; rfl
    have h1 : (cur.toList.take 2)[1]? = some (.slice (some ⟨gc, 0, none⟩) 1 kc) := by rw [hcur]; rfl
    rw [List.getElem?_take_of_lt (by omega)] at h0 h1
    exact ⟨h.cell 0 (by simpa using h0), h.cell 1 (by simpa using h1)⟩
  have HBA : Hid (Box1 w3 w.heap.size (.slice (some ⟨ga, 0, none⟩) 1 ka) [.string ⟨#[97]⟩, .int .i64 1, .bool false, .int .i64 (-9223372036854775808), .int .i64 (x - 1), .string ⟨#[]⟩, .string ⟨#[]⟩, .bool false, .int .u8 0, .bool false, .slice none 0 0, .slice none 0 0]) := hba.lower HX2.out.size
  have HPL := cv_pastLimits false (-9223372036854775808) (x - 1) true x 9223372036854775807 _ _ _ w3 hba hbc
  obtain ⟨c0, c1⟩ := HRG.out w3 hq
  clear ht3 hb3 hq hcur hba hbc HDN
  go_wp2_with fail
  refine HPL.mono ?_
  rintro e w4 ⟨rfl, hb4⟩
  have HX4 : Hid (Below w.heap.size w w4) := HX3.out.trans (hb4.mono HX3.out.size)
  have HBA4 : Hid (Box1 w4 w.heap.size (.slice (some ⟨ga, 0, none⟩) 1 ka) [.string ⟨#[97]⟩, .int .i64 1, .bool false, .int .i64 (-9223372036854775808), .int .i64 (x - 1), .string ⟨#[]⟩, .string ⟨#[]⟩, .bool false, .int .u8 0, .bool false, .slice none 0 0, .slice none 0 0]) := HBA.out.below hb4
  have hd := HRG.out w4 (HQ3.out.1.stay hb4)
  have d0 := hd.1
  clear hb4 HPL c0 c1 hd
  go_wp2_with fail
  rw [rounds_succ]
  go_wp2
  go_returns
  exact ⟨⟨_, rfl, HBA4.out⟩, HX4.out⟩
end Go.Proofs.YtnfeklebfnlgkaaGreat
