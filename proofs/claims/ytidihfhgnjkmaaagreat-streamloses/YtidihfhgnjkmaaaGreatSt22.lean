/- maps.EqualFunc at items, by those for whom they are. -/
import Derived.Test.YtidihfhgnjkmaaaGreatSt21
import Derived.Maps.RangeWalk
import Derived.Maps.Ext
namespace Go.Proofs.YtidihfhgnjkmaaaGreat
set_option maxRecDepth 100000
open Go.RowKit Go.Maps Go.Sort Go.Shelf
open Go.WideElems (Fit rg pl)

/-- An item as a value. -/
def mkIt (y : Int × Int × Option Addr × Nat × Nat) : Value := .agg #[.int .i64 y.1, .int .u32 y.2.1, .slice y.2.2.1 y.2.2.2.1 y.2.2.2.2]
def itemR (v : Value) : Option (DataW Value × List MemPlace) := match v with
  | .agg ⟨[.int .i64 _, .int .u32 _, .slice _ _ _]⟩ => some (.held v, [])
  | _ => none
theorem itemR_mk (y : Int × Int × Option Addr × Nat × Nat) : itemR (mkIt y) = some (.held (mkIt y), []) := rfl
theorem itemR_inv {v : Value} {z : DataW Value × List MemPlace} (h : itemR v = some z) : (∃ y, v = mkIt y) ∧ z = (.held v, []) := by
  unfold itemR at h
  split at h
  · rename_i a b c d e
    simp only [Option.some.injEq] at h
    exact ⟨⟨(a, b, c, d, e), rfl⟩, h.symm⟩
  · cases h
theorem owns_items {w : World} {b n : Nat} {X : List (Int × Value)} (h : w.ownsMap Tryz.prog 3 heldV b n (mapD X)) (hX : ∀ p ∈ X, ∃ y, p.2 = mkIt y) : w.ownsMap Tryz.prog 3 itemR b n (mapD X) := by
  obtain ⟨es, clock, hb, F, hs, hD⟩ := h
  have hall : ∀ x ∈ es.toList, ∀ z, heldV x.val = some z → itemR x.val = some z := by
    intro x hx z hz
    have h1 : rg Tryz.prog 3 heldV x ∈ (es.toList.map (rg Tryz.prog 3 heldV)).foldr DataW.insert [] := (WideShapes.sorted_perm _).mem_iff.2 (List.mem_map_of_mem hx)
    unfold mapD at hD
    simp only [DataW.map.injEq] at hD
    rw [← hD] at h1
    obtain ⟨p, hp, he⟩ := List.mem_map.1 h1
    obtain ⟨y, hy⟩ := hX p hp
    obtain ⟨u, hu⟩ := F.reads x hx
    rw [WideElems.rg_of hu] at he
    have hv : u.2 = .held x.val := by
      unfold WideElems.rd at hu
      cases hk : keyOf Tryz.prog 3 x.key with
      | none => rw [hk] at hu; cases hu
      | some key => rw [hk] at hu; cases hu; rfl
    have he2 : (DataW.held p.2 : DataW Value) = u.2 := congrArg Prod.snd he
    rw [hv] at he2
    have he3 : p.2 = x.val := by simpa using he2
    rw [← he3, hy] at hz ⊢
    rw [itemR_mk]
    exact hz
  obtain ⟨F1, hmap, _⟩ := F.stay hall
  exact ⟨es, clock, hb, F1, hs, by rw [hmap]; exact hD⟩
def forV : Value → Int
  | .agg ⟨[_, .int .u32 f, _]⟩ => f
  | _ => 0
/-- The items are for the same. -/
def SameX (X1 X2 : List (Int × Value)) : Prop := X1.length = X2.length ∧ ∀ t v, getX X1 t = some v → ∃ v2, getX X2 t = some v2 ∧ forV v = forV v2
theorem st_alike (y z : Int × Int × Option Addr × Nat × Nat) (w : World) : Calls Tryz.prog 66 #[mkIt y, mkIt z] w fun e w' => e = .returned (.bool (y.2.1 == z.2.1)) ∧ Below w.heap.size w w' := by
  obtain ⟨y1, y2, y3, y4, y5⟩ := y
  obtain ⟨z1, z2, z3, z4, z5⟩ := z
  unfold mkIt
  simp only
  go_enter Tryz.func66, Tryz.ntmps66
  go_wp2
  go_ret
  exact ⟨rfl, (below_alloc w _).alloc (by simp) _⟩
theorem look_item {W : World} {b n : Nat} {X : List (Int × Value)} (h : W.ownsMap Tryz.prog 3 itemR b n (mapD X)) {t : Int} {kl : Lit} (hk : keyOf Tryz.prog 3 (.int .i64 t) = some kl) (hkl : kl = tkey t) : (Instr.lookup 81 (.map (some b)) (.int .i64 t) true).run Tryz.prog W = .ok (.tuple #[(getX X t).getD (mkIt (0, 0, none, 0, 0)), .bool (getX X t).isSome]) W := by
  obtain ⟨v, ps, hrun, hv⟩ := h.look_ok tkeyed Tryz.underlying81 (z := mkIt (0, 0, none, 0, 0)) (Tryz.zeroValue54 W) (zd := .held (mkIt (0, 0, none, 0, 0))) (zp := []) rfl hk
  subst hkl
  rw [mapD_at] at hv
  rw [hrun, mapD_has]
  have hz := (itemR_inv hv).2
  cases hg : getX X t with
  | none =>
    rw [hg] at hz
    have := congrArg Prod.fst hz
    simp only [DataW.held.injEq] at this
    rw [← this]
    rfl
  | some x =>
    rw [hg] at hz
    have := congrArg Prod.fst hz
    simp only [DataW.held.injEq] at this
    rw [← this]
    rfl
theorem get_of_at {X : List (Int × Value)} {t : Int} {v : Value} (h : ∀ zd, (mapD X).atKey (tkey t) zd = .held v) : getX X t = some v := by
  have := h .nil
  rw [mapD_at] at this
  cases hg : getX X t with
  | none => rw [hg] at this; cases this
  | some x =>
    rw [hg] at this
    simp only [DataW.held.injEq] at this
    rw [this]
/-- Those that have been met are the same. -/
def MetX (X1 X2 : List (Int × Value)) (left : Lit → Bool) : Prop := ∀ t v, getX X1 t = some v → left (tkey t) = false → ∃ v2, getX X2 t = some v2 ∧ forV v = forV v2
set_option maxHeartbeats 8000000 in
theorem st_eqFunc {w : World} {b1 b2 : Nat} {X1 X2 : List (Int × Value)} (h1 : w.ownsMap Tryz.prog 3 heldV b1 X1.length (mapD X1)) (h2 : w.ownsMap Tryz.prog 3 heldV b2 X2.length (mapD X2)) (hX1 : ∀ p ∈ X1, ∃ y, p.2 = mkIt y) (hX2 : ∀ p ∈ X2, ∃ y, p.2 = mkIt y) :
    Calls Tryz.prog 68 #[.map (some b1), .map (some b2), .func (.func 66) #[] #[]] w fun e w' => ∃ b : Bool, e = .returned (.bool b) ∧ (b = true ↔ SameX X1 X2) ∧ Below w.heap.size w w' := by
  have i1 := owns_items h1 hX1
  have i2 := owns_items h2 hX2
  have l1 := fun ty => i1.len (t := 81) Tryz.underlying81 ty
  have l2 := fun ty => i2.len (t := 81) Tryz.underlying81 ty
  rw [mapD_size] at l1 l2
  have hb1 := i1.lt
  have hb2 := i2.lt
  by_cases hsz : X1.length = X2.length
  · have HSZ : Hid (X1.length = X2.length) := hsz
    have k0 : ((X1.length : Int) != (X2.length : Int)) = false := by rw [hsz]; simp
    have I1 : Hid (w.ownsMap Tryz.prog 3 itemR b1 X1.length (mapD X1)) := i1
    have I2 : Hid (w.ownsMap Tryz.prog 3 itemR b2 X2.length (mapD X2)) := i2
    clear h1 h2 hsz i1 i2
    go_enter Tryz.func68, Tryz.ntmps68
    go_wp2_with (at_range; refine wpList_range_own _ rfl _ 81 rfl 3 54 tkeyed Tryz.underlying81 itemR b1 X1.length _ rfl I1.out ?_; intro w0 hrg0 hg0 hs0)
    have HR0 : Hid (w0.ranges Tryz.prog 3 itemR b1 w.heap.size X1.length (mapD X1) (has (mapD X1)) (size (mapD X1))) := hrg0
    have HO0 : Hid (w0.ownsMap Tryz.prog 3 itemR b2 X2.length (mapD X2)) := I2.out.kept hg0 (by simp)
    have HB0 : Hid (Below w.heap.size w w0) := (Below.refl w.heap.size w).grown hg0 (Nat.le_refl _) (fun k hk => by cases hk)
    have HM0 : Hid (MetX X1 X2 (has (mapD X1))) := fun t v hg hl => by
      rw [mapD_has, hg] at hl
      cases hl
    clear hrg0 hg0 hs0 I1 I2 l1 l2 k0
    go_frame
    go_loopw [18] (fun _ wr => ∃ (left : Lit → Bool) (cnt : Nat), Hid (wr.ranges Tryz.prog 3 itemR b1 w.heap.size X1.length (mapD X1) left cnt) ∧ Hid (wr.ownsMap Tryz.prog 3 itemR b2 X2.length (mapD X2)) ∧ Hid (Below w.heap.size w wr) ∧ Hid (MetX X1 X2 left)) (fun _ wr => wr.rangeLeft b1 w.heap.size)
    case atStart => exact ⟨_, _, HR0, HO0, HB0, HM0⟩
    case round =>
      obtain ⟨left, cnt, HRG, HOW, HB, HME⟩ := hrel
      clear HR0 HO0 HB0 HM0
      go_wp2_with (at_next; refine wpList_next_ranges _ rfl _ rfl 3 tkeyed itemR encZ mkIt (fun key kl hk => by obtain ⟨x, hx, _⟩ := Maps.keyOf_i64 Tryz.underlying3 hk; exact ⟨x, hx⟩) (fun v y hv => (itemR_inv hv).1) b1 w.heap.size X1.length _ _ _ rfl HRG.out ?_ ?_)
      · intro _ hl0
        have HSX : Hid (SameX X1 X2) := ⟨HSZ.out, fun t v hg => HME.out t v hg (hl0 _)⟩
        go_wp2
        go_ret
        exact ⟨true, rfl, ⟨fun _ => HSX.out, fun _ => rfl⟩, HB.out⟩
      · intro x q1 q2 q3 q4 q5 kl yd yp w1 cnt1 hkey hlx hv hat hrg1 hlt hg1 hs1 hen
        obtain ⟨x', ex, hkl, hwf⟩ := Maps.keyOf_i64 Tryz.underlying3 hkey
        obtain rfl := encZ_inj ex
        have hkl : kl = tkey x := hkl
        subst hkl
        have hy := (itemR_inv hv).2
        have hy1 : yd = .held (mkIt (q1, q2, q3, q4, q5)) := congrArg Prod.fst hy
        have HGX : Hid (getX X1 x = some (mkIt (q1, q2, q3, q4, q5))) := get_of_at fun zd => (hat zd).trans hy1
        have HB1 : Hid (Below w.heap.size w w1) := HB.out.grown hg1 HB.out.size (fun k hk => by cases hk; exact Nat.le_refl _)
        have HO1 : Hid (w1.ownsMap Tryz.prog 3 itemR b2 X2.length (mapD X2)) := HOW.out.kept hg1 (by intro e; have := Option.some.inj e; omega)
        have HR1 : Hid (w1.ranges Tryz.prog 3 itemR b1 w.heap.size X1.length (mapD X1) (fun z => left z && !z.sameKey (tkey x)) cnt1) := hrg1
        have HLT : Hid (cnt1 < cnt) := hlt
        have HKY : Hid (keyOf Tryz.prog 3 (.int .i64 x) = some (tkey x)) := hkey
        clear hkey hv hat hy hy1 hrg1 hg1 hs1 hwf hlx hlt HOW HB
        clear ex hkl
        have hen2 : (Instr.entry (.pointer (some ⟨w.heap.size, 0, none⟩))).run Tryz.prog w1 = .ok (.tuple #[.int .i64 x, .agg #[.int .i64 q1, .int .u32 q2, .slice q3 q4 q5]]) w1 := hen
        clear hen
        have HO2 : Hid ((w1.alloc (.cells #[.int .i64 q1, .int .u32 q2, .slice q3 q4 q5] 54)).ownsMap Tryz.prog 3 itemR b2 X2.length (mapD X2)) := HO1.out.alloc _
        have HB2 : Hid (Below w.heap.size w (w1.alloc (.cells #[.int .i64 q1, .int .u32 q2, .slice q3 q4 q5] 54))) := HB1.out.alloc HB1.out.size _
        cases hg2 : getX X2 x with
        | none =>
          have hlk : (Instr.lookup 81 (.map (some b2)) (.int .i64 x) true).run Tryz.prog (w1.alloc (.cells #[.int .i64 q1, .int .u32 q2, .slice q3 q4 q5] 54)) = .ok (.tuple #[.agg #[.int .i64 0, .int .u32 0, .slice none 0 0], .bool false]) (w1.alloc (.cells #[.int .i64 q1, .int .u32 q2, .slice q3 q4 q5] 54)) := by
            have := look_item HO2.out HKY.out rfl
            rw [hg2] at this
            exact this
          have HNS : Hid (¬ SameX X1 X2) := fun h => by
            obtain ⟨v2, k1, _⟩ := h.2 x _ HGX.out
            rw [hg2] at k1
            cases k1
          have HB3 : Hid (Below w.heap.size w ((w1.alloc (.cells #[.int .i64 q1, .int .u32 q2, .slice q3 q4 q5] 54)).alloc (.cells #[.int .i64 0, .int .u32 0, .slice none 0 0] 54))) := HB2.out.alloc HB2.out.size _
          clear HO1 HO2 HR1 HLT hg2
          go_wp2
          go_ret
          exact ⟨false, rfl, ⟨fun h => (by cases h), fun h => absurd h HNS.out⟩, HB3.out⟩
        | some v2 =>
          obtain ⟨z, hz⟩ := hX2 (x, v2) (get_mem hg2)
          obtain ⟨z1, z2, z3, z4, z5⟩ := z
          have hz : v2 = mkIt (z1, z2, z3, z4, z5) := hz
          subst hz
          have hlk : (Instr.lookup 81 (.map (some b2)) (.int .i64 x) true).run Tryz.prog (w1.alloc (.cells #[.int .i64 q1, .int .u32 q2, .slice q3 q4 q5] 54)) = .ok (.tuple #[.agg #[.int .i64 z1, .int .u32 z2, .slice z3 z4 z5], .bool true]) (w1.alloc (.cells #[.int .i64 q1, .int .u32 q2, .slice q3 q4 q5] 54)) := by
            have := look_item HO2.out HKY.out rfl
            rw [hg2] at this
            exact this
          obtain ⟨W3, HW3⟩ : ∃ W3, Hid (W3 = (w1.alloc (.cells #[.int .i64 q1, .int .u32 q2, .slice q3 q4 q5] 54)).alloc (.cells #[.int .i64 z1, .int .u32 z2, .slice z3 z4 z5] 54)) := ⟨_, rfl⟩
          have HBW : Hid (Below w1.heap.size w1 W3) := by (show Below _ _ _); rw [HW3.out]; exact (below_alloc w1 _).alloc (by simp) _
          have HAL : Hid (Calls Tryz.prog 66 #[.agg #[.int .i64 q1, .int .u32 q2, .slice q3 q4 q5], .agg #[.int .i64 z1, .int .u32 z2, .slice z3 z4 z5]] W3 fun e w' => e = .returned (.bool (q2 == z2)) ∧ Below W3.heap.size W3 w') := st_alike (q1, q2, q3, q4, q5) (z1, z2, z3, z4, z5) W3
          have HG2 : Hid (getX X2 x = some (mkIt (z1, z2, z3, z4, z5))) := hg2
          clear HO2 hg2
          have e1 : (w1.alloc (.cells #[.int .i64 q1, .int .u32 q2, .slice q3 q4 q5] 54)).heap.size = w1.heap.size + 1 := by simp
          have hkq : Bk W3 w1.heap.size #[.int .i64 q1, .int .u32 q2, .slice q3 q4 q5] 54 := by rw [HW3.out]; exact (Bk.new w1 _ _).stay (below_alloc _ _)
          have hkz : Bk W3 (w1.heap.size + 1) #[.int .i64 z1, .int .u32 z2, .slice z3 z4 z5] 54 := by rw [HW3.out, ← e1]; exact Bk.new _ _ _
          have m0 : W3.cell? ⟨w1.heap.size, 0, none⟩ = some (.int .i64 q1) := hkq.cell 0 rfl
          have m1 : W3.cell? ⟨w1.heap.size, 1, none⟩ = some (.int .u32 q2) := hkq.cell 1 rfl
          have m2 : W3.cell? ⟨w1.heap.size, 2, none⟩ = some (.slice q3 q4 q5) := hkq.cell 2 rfl
          have n0 : W3.cell? ⟨w1.heap.size + 1, 0, none⟩ = some (.int .i64 z1) := hkz.cell 0 rfl
          have n1 : W3.cell? ⟨w1.heap.size + 1, 1, none⟩ = some (.int .u32 z2) := hkz.cell 1 rfl
          have n2 : W3.cell? ⟨w1.heap.size + 1, 2, none⟩ = some (.slice z3 z4 z5) := hkz.cell 2 rfl
          have HB3 : Hid (Below w.heap.size w W3) := HB1.out.trans (HBW.out.mono HB1.out.size)
          clear hkq hkz e1
          go_upto_region 7 with fail
          rw [← HW3.out]
          clear hlk hen2
          by_cases heq : q2 = z2
          · have kq : (q2 == z2) = true := by rw [heq]; simp
            rw [kq] at HAL
            have HME2 : Hid (MetX X1 X2 (fun z => left z && !z.sameKey (tkey x))) := fun t v hg hl => by
              by_cases ht : t = x
              · subst ht
                rw [HGX.out] at hg
                cases hg
                exact ⟨_, HG2.out, heq⟩
              · refine HME.out t v hg ?_
                have hs : (tkey t).sameKey (tkey x) = false := by rw [sameKey_tkey]; exact decide_eq_false ht
                simpa [hs] using hl
            clear kq heq
            go_wp2_with fail
            refine HAL.out.mono ?_
            rintro e w4 ⟨rfl, hb4⟩
            have HB4 : Hid (Below w.heap.size w w4) := HB3.out.trans (hb4.mono HB3.out.size)
            have hb14 : Below w1.heap.size w1 w4 := HBW.out.trans (hb4.mono HBW.out.size)
            have hg14 : w1.grownBy w4 none := ⟨hb14.os, hb14.tape, hb14.output, hb14.size, fun k hk _ => hb14.block k hk⟩
            have HR4 : Hid (w4.ranges Tryz.prog 3 itemR b1 w.heap.size X1.length (mapD X1) (fun z => left z && !z.sameKey (tkey x)) cnt1) := HR1.out.kept hg14 (by simp) (by simp)
            have HO4 : Hid (w4.ownsMap Tryz.prog 3 itemR b2 X2.length (mapD X2)) := HO1.out.kept hg14 (by simp)
            clear hb4 hb14 hg14 m0 m1 m2 n0 n1 n2
            go_wp2
            go_roundw
            case rel => exact ⟨_, cnt1, HR4, HO4, HB4, HME2⟩
            case measure => rw [HR4.out.left_eq, HRG.out.left_eq]; exact HLT.out
          · have kq : (q2 == z2) = false := by rw [beq_eq_false_iff_ne]; exact heq
            rw [kq] at HAL
            have HNS : Hid (¬ SameX X1 X2) := fun h => by
              obtain ⟨v2, k1, k2⟩ := h.2 x _ HGX.out
              rw [HG2.out] at k1
              cases k1
              exact heq k2
            clear kq heq
            go_wp2_with fail
            refine HAL.out.mono ?_
            rintro e w4 ⟨rfl, hb4⟩
            have HB4 : Hid (Below w.heap.size w w4) := HB3.out.trans (hb4.mono HB3.out.size)
            clear hb4
            go_wp2
            go_ret
            exact ⟨false, rfl, ⟨fun h => (by cases h), fun h => absurd h HNS.out⟩, HB4.out⟩
  · have k0 : ((X1.length : Int) != (X2.length : Int)) = true := by rw [bne_iff_ne]; omega
    clear h1 h2 i1 i2
    go_enter Tryz.func68, Tryz.ntmps68
    go_wp2
    go_ret
    exact ⟨false, rfl, ⟨fun h => (by cases h), fun h => absurd h.1 hsz⟩, Below.refl _ _⟩
end Go.Proofs.YtidihfhgnjkmaaaGreat
