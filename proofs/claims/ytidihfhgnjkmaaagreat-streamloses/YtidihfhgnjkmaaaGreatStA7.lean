/- A pack of texts: St7 St8 St20. -/
import Derived.Test.YtidihfhgnjkmaaaGreatStA5
import Derived.Test.YtidihfhgnjkmaaaGreatPcP
/- Stream.Learn of live's parcel. -/
namespace Go.Proofs.YtidihfhgnjkmaaaGreat
set_option maxRecDepth 100000
open Go.RowKit Go.Maps Go.Sort Go.Shelf
variable {Z : Nat → Prop}

def newsP : Pc := ⟨1, 0, 0, 0, 1, 5, [⟨1, 4, 2⟩], [⟨5, 1, [97]⟩]⟩
theorem news_chk : chk newsP = 0 := by decide
def news4 : List Sp := [⟨1, 4, 2⟩]
def news5 : List Sp := [⟨1, 4, 2⟩, ⟨5, 5, 1⟩]
theorem news4_right : RightS Sp.zr news4 := by simp [news4, RightS, Sp.zr]
theorem news5_right : RightS Sp.zr news5 := by simp [news5, RightS, Sp.zr]
theorem news_join {l : List Sp} (hr : RightS Sp.zr l) (h : ∀ t, atS l t = max (atS [] t) (atS news4 t)) : l = news4 := canonS l news4 _ _ hr news4_right fun t => by
  rw [h t]
  exact Int.max_eq_right (atS_range news4_right t).1
theorem news_keep {l : List Sp} (hr : RightS Sp.zr l) (h : ∀ u, atS l u = if u = 5 then 1 else atS news4 u) : l = news5 := canonS l news5 _ _ hr news5_right fun t => by
  rw [h t]
  show (if t = 5 then (1 : Int) else if 1 ≤ t ∧ t ≤ 4 then 2 else 0) = if 1 ≤ t ∧ t ≤ 4 then 2 else if 5 ≤ t ∧ t ≤ 5 then 1 else 0
  by_cases h1 : t = 5
  · rw [if_pos h1, if_neg (by omega), if_pos (by omega)]
  · rw [if_neg h1]
    by_cases h2 : 1 ≤ t ∧ t ≤ 4
    · rw [if_pos h2, if_pos h2]
    · rw [if_neg h2, if_neg h2, if_neg (by omega)]
/-- The stream behind live's parcel. -/
def News5 (Z : Nat → Prop) (s m : Nat) (w w' : World) : Prop := ∃ a n c ba bc, Stm Z w' s m a n c news5 [(5, .agg #[.int .i64 5, .int .u32 1, .slice ba 1 bc])] ∧ Own w' w.heap.size ba 1 bc [97] ∧ Two s m w w'
set_option maxHeartbeats 8000000 in
theorem st_Learn_news {w : World} {s m : Nat} (h : Stm Z w s m none 0 0 [] []) {sa : Option Addr} {sn sc : Nat} {ia : Option Addr} {im ic : Nat} (hp : PcRd w newsP sa sn sc ia im ic) :
    Calls Tryz.prog 12 #[.pointer (some ⟨s, 0, none⟩), newsP.val sa sn sc ia im ic] w fun e w' => e = .returned (.tuple #[.bool true, .int .i64 0]) ∧ News5 Z s m w w' := by
  have hsl := h.blk.lt
  have hml := h.items.lt
  obtain rfl : sn = 1 := hp.spans.size.symm
  obtain rfl : im = 1 := hp.items.size.symm
  obtain ⟨W1, HW1⟩ : ∃ W1, Hid (W1 = w.alloc (.cells #[.int .i64 1, .int .i64 0, .int .i64 0, .int .i64 0, .int .i64 1, .int .i64 5, .slice sa 1 sc, .slice ia 1 ic] 33)) := ⟨_, rfl⟩
  have HX1 : Hid (Below w.heap.size w W1) := by (show Below _ _ _); rw [HW1.out]; exact below_alloc w _
  have HK1 : Hid (Bk W1 w.heap.size #[.int .i64 1, .int .i64 0, .int .i64 0, .int .i64 0, .int .i64 1, .int .i64 5, .slice sa 1 sc, .slice ia 1 ic] 33) := by (show Bk _ _ _ _); rw [HW1.out]; exact Bk.new w _ _
  have HS1 : Hid (Stm Z W1 s m none 0 0 [] []) := h.stay HX1.out
  have HP1 : Hid (PcRd W1 newsP sa 1 sc ia 1 ic) := hp.below HX1.out
  have HCK : Hid (Calls Tryz.prog 13 #[.agg #[.int .i64 1, .int .i64 0, .int .i64 0, .int .i64 0, .int .i64 1, .int .i64 5, .slice sa 1 sc, .slice ia 1 ic]] W1 fun e w' => e = .returned (.int .i64 0) ∧ Below W1.heap.size W1 w') := by
    have := pc_Check newsP sa 1 sc ia 1 ic W1 HP1.out
    rw [news_chk] at this
    exact this
  have k0 : W1.cell? ⟨w.heap.size, 0, none⟩ = some (.int .i64 1) := HK1.out.cell 0 rfl
  have k1 : W1.cell? ⟨w.heap.size, 1, none⟩ = some (.int .i64 0) := HK1.out.cell 1 rfl
  have k2 : W1.cell? ⟨w.heap.size, 2, none⟩ = some (.int .i64 0) := HK1.out.cell 2 rfl
  have k3 : W1.cell? ⟨w.heap.size, 3, none⟩ = some (.int .i64 0) := HK1.out.cell 3 rfl
  have k4 : W1.cell? ⟨w.heap.size, 4, none⟩ = some (.int .i64 1) := HK1.out.cell 4 rfl
  have k5 : W1.cell? ⟨w.heap.size, 5, none⟩ = some (.int .i64 5) := HK1.out.cell 5 rfl
  have k6 : W1.cell? ⟨w.heap.size, 6, none⟩ = some (.slice sa 1 sc) := HK1.out.cell 6 rfl
  have k7 : W1.cell? ⟨w.heap.size, 7, none⟩ = some (.slice ia 1 ic) := HK1.out.cell 7 rfl
  clear h hp
  unfold Pc.val newsP
  simp only
  go_enter Tryz.func12, Tryz.ntmps12
  go_upto_region 3 with fail
  rw [← HW1.out]
  go_wp2_with fail
  refine HCK.out.mono ?_
  rintro e w2 ⟨rfl, hb2⟩
  have HK2 : Hid (Bk w2 w.heap.size #[.int .i64 1, .int .i64 0, .int .i64 0, .int .i64 0, .int .i64 1, .int .i64 5, .slice sa 1 sc, .slice ia 1 ic] 33) := HK1.out.stay hb2
  have HS2 : Hid (Stm Z w2 s m none 0 0 [] []) := HS1.out.stay hb2
  have HP2 : Hid (PcRd w2 newsP sa 1 sc ia 1 ic) := HP1.out.below hb2
  have HX2 : Hid (Below w.heap.size w w2) := HX1.out.trans (hb2.mono HX1.out.size)
  have q0 : w2.cell? ⟨w.heap.size, 0, none⟩ = some (.int .i64 1) := HK2.out.cell 0 rfl
  clear hb2 k0 k1 k2 k3 k4 k5 k6 k7 HK1 HS1 HP1 HX1 HCK HW1
  go_wp2_with fail
  refine (st_Fork HS2.out).mono ?_
  rintro e w3 ⟨s2, m2, rfl, hs3, ⟨z1, z2⟩, hb3⟩
  have hszw := HX2.out.size
  have HF3 : Hid (Stm Z w3 s2 m2 none 0 0 [] []) := hs3
  have HK3 : Hid (Bk w3 w.heap.size #[.int .i64 1, .int .i64 0, .int .i64 0, .int .i64 0, .int .i64 1, .int .i64 5, .slice sa 1 sc, .slice ia 1 ic] 33) := HK2.out.stay hb3
  have HS3 : Hid (Stm Z w3 s m none 0 0 [] []) := HS2.out.stay hb3
  have HP3 : Hid (PcRd w3 newsP sa 1 sc ia 1 ic) := HP2.out.below hb3
  have HX3 : Hid (Below w.heap.size w w3) := HX2.out.trans (hb3.mono HX2.out.size)
  have q6 : w3.cell? ⟨w.heap.size, 6, none⟩ = some (.slice sa 1 sc) := HK3.out.cell 6 rfl
  clear hs3 hb3 HK2 HS2 HP2 HX2 q0
  go_wp2_with fail
  refine (st_join HS3.out (by simp) (b := sa) (nb := 1) (cb := sc) (l2 := news4) ⟨HP3.out.spans, HP3.out.sl, HP3.out.sm, news4_right⟩).mono ?_
  rintro e w4 ⟨rfl, a4, n4, c4, l4, hs4, ht4, hb4⟩
  obtain rfl := news_join hs4.ok.right ht4
  have HS4 : Hid (Stm Z w4 s m a4 n4 c4 news4 []) := hs4
  have HK4 : Hid (Bk w4 w.heap.size #[.int .i64 1, .int .i64 0, .int .i64 0, .int .i64 0, .int .i64 1, .int .i64 5, .slice sa 1 sc, .slice ia 1 ic] 33) := Two.bk HK3.out hb4 (by omega) (by omega)
  have HF4 : Hid (Stm Z w4 s2 m2 none 0 0 [] []) := HF3.out.two hb4 (by omega) (by omega) (by omega) (by omega) (fun ad e => by cases e)
  have HI4 : Hid (ItsRd w4 ia 1 [⟨5, 1, [97]⟩]) := ItsRd.two HS3.out HP3.out.items hb4
  have HT4 : Hid (Two s m w w4) := (Two.of_below s m HX3.out).trans hb4
  have q7 : w4.cell? ⟨w.heap.size, 7, none⟩ = some (.slice ia 1 ic) := HK4.out.cell 7 rfl
  clear hs4 ht4 hb4 HF3 HK3 HS3 HP3 HX3 q6
  go_wp2
  go_loopw [29] (fun t29 wr => (t29 = .int .i64 0 ∧ wr = w4) ∨ (t29 = .int .i64 1 ∧ Hid (News5 Z s m w wr) ∧ Hid (Stm Z wr s2 m2 none 0 0 [] []))) (fun t29 _ => 1 - (intOf t29).toNat)
  case atStart => exact .inl ⟨rfl, rfl⟩
  case round =>
    rcases hrel with ⟨rfl, rfl⟩ | ⟨rfl, HN, HF⟩
    · obtain ⟨g, o, rfl, hg, q, hq, c0, c1, ba, bl, bc, c2, hrd, hb0, hlc, hcm⟩ := HI4.out.at_ 0 (by omega)
      simp only [List.getElem?_cons_zero, Option.some.injEq] at hq
      subst hq
      obtain rfl : bl = 1 := hrd.size.symm
      simp only [Nat.zero_mul, Nat.add_zero] at c0 c1 c2
      have HRD : Hid (Rd wr ba 1 [97]) := hrd
      have hbx := below_alloc wr (.cells #[.int .i64 5, .int .u32 1, .slice ba 1 bc] 54)
      have HKP : Hid (Calls Tryz.prog 35 #[.pointer (some ⟨s, 0, none⟩), .agg #[.int .i64 5, .int .u32 1, .slice ba 1 bc]] (wr.alloc (.cells #[.int .i64 5, .int .u32 1, .slice ba 1 bc] 54)) fun e w' => e = .returned (.tuple #[]) ∧ Kept0 Z s m news4 [] 5 1 1 [97] (wr.alloc (.cells #[.int .i64 5, .int .u32 1, .slice ba 1 bc] 54)) w') := st_keep_0 (HS4.out.stay hbx) (by simp) (by omega) (HRD.out.below hbx) (by omega) (by decide)
      have HBX : Hid (Below wr.heap.size wr (wr.alloc (.cells #[.int .i64 5, .int .u32 1, .slice ba 1 bc] 54))) := hbx
      clear hbx hrd hb0 hlc hcm hg HI4
      go_wp2_with fail
      refine HKP.out.mono ?_
      rintro e w5 ⟨rfl, a5, n5, c5, l5, ba5, bc5, hs5, ho5, ht5, hb5⟩
      obtain rfl := news_keep hs5.ok.right ht5
      have HT5 : Hid (Two s m wr w5) := (Two.of_below s m HBX.out).trans hb5
      have HF5 : Hid (Stm Z w5 s2 m2 none 0 0 [] []) := HF4.out.two HT5.out (by omega) (by omega) (by omega) (by omega) (fun ad e => by cases e)
      have hszr := HT4.out.size
      have hszx := HBX.out.size
      have HN5 : Hid (News5 Z s m w w5) := ⟨a5, n5, c5, ba5, bc5, hs5, ⟨ownsRow_base_a ho5.row (by omega), ho5.byte⟩, HT4.out.trans HT5.out⟩
      clear hs5 ho5 ht5 hb5 hszr hszx c0 c1 c2
      go_wp2
      go_roundw
      case rel => exact .inr ⟨rfl, HN5, HF5⟩
      case measure => simp [intOf]
    · obtain ⟨a5, n5, c5, ba5, bc5, hs5, ho5, hb5⟩ := HN.out
      have HS5 : Hid (Stm Z wr s m a5 n5 c5 news5 [(5, .agg #[.int .i64 5, .int .u32 1, .slice ba5 1 bc5])]) := hs5
      have hn5 : n5 ≠ 0 := by have := hs5.ok.rd.size; rw [← this]; decide
      clear hs5 ho5 hb5
      go_wp2_with fail
      refine (st_forget_0 HS5.out (by simp)).mono ?_
      rintro e w6 ⟨rfl, hb6⟩
      have HS6 : Hid (Stm Z w6 s m a5 n5 c5 news5 [(5, .agg #[.int .i64 5, .int .u32 1, .slice ba5 1 bc5])]) := HS5.out.stay hb6
      have HF6 : Hid (Stm Z w6 s2 m2 none 0 0 [] []) := HF.out.stay hb6
      have HB6 : Hid (Below wr.heap.size wr w6) := hb6
      clear hb6
      go_wp2_with fail
      refine (st_same_len HS6.out HF6.out hn5).mono ?_
      rintro e w7 ⟨rfl, hb7⟩
      have HB7 : Hid (Below wr.heap.size wr w7) := HB6.out.trans (hb7.mono HB6.out.size)
      clear hb7
      go_wp2
      go_ret2
      obtain ⟨a8, n8, c8, ba8, bc8, hs8, ho8, hb8⟩ := HN.out
      exact ⟨rfl, a8, n8, c8, ba8, bc8, hs8.stay HB7.out, ho8.below HB7.out, hb8.trans (Two.of_below s m HB7.out)⟩
end Go.Proofs.YtidihfhgnjkmaaaGreat
/- Stream.first at live's item. -/
namespace Go.Proofs.YtidihfhgnjkmaaaGreat
set_option maxRecDepth 100000
open Go.RowKit Go.Maps Go.Sort Go.Shelf
variable {Z : Nat → Prop}

def itemZ : Value := .agg #[.int .i64 0, .int .u32 0, .slice none 0 0]
theorem Stm.look {w : World} {s m : Nat} {a : Option Addr} {n c : Nat} {l : List Sp} {X : List (Int × Value)} (h : Stm Z w s m a n c l X) {t : Int} (ht : -9223372036854775808 ≤ t ∧ t ≤ 9223372036854775807) : (Instr.lookup 81 (.map (some m)) (.int .i64 t) false).run Tryz.prog w = .ok ((getX X t).getD itemZ) w := by
  obtain ⟨v, ps, hrun, hv⟩ := h.items.lookup tkeyed Tryz.underlying81 (z := itemZ) (Tryz.zeroValue54 w) (zd := .held itemZ) (zp := []) rfl (tkey_of ht)
  rw [mapD_at] at hv
  rw [hrun]
  have hv : some (DataW.held v, ([] : List MemPlace)) = _ := hv
  simp only [Option.some.injEq, Prod.mk.injEq] at hv
  cases hg : getX X t with
  | none =>
    rw [hg] at hv
    have := hv.1
    simp only [DataW.held.injEq] at this
    rw [this]
    rfl
  | some x =>
    rw [hg] at hv
    have := hv.1
    simp only [DataW.held.injEq] at this
    rw [this]
    rfl
theorem results_first {w : World} {tmps : Array Value} {g : Nat} {c0 c1 c2 b : Value} (h8 : tmps[8]?.getD undef = .pointer (some ⟨g, 0, none⟩)) (h9 : tmps[9]?.getD undef = b) (k : Bk w g #[c0, c1, c2] 54) : (results Tryz.f46 tmps).run Tryz.prog w = .ok (.tuple #[.agg #[c0, c1, c2], b]) w := by
  have k0 : w.cell? ⟨g, 0, none⟩ = some c0 := k.cell 0 rfl
  have k1 : w.cell? ⟨g, 1, none⟩ = some c1 := k.cell 1 rfl
  have k2 : w.cell? ⟨g, 2, none⟩ = some c2 := k.cell 2 rfl
  simp [results, Tryz.results46, go_sem, h8, h9, k0, k1, k2]
set_option maxHeartbeats 4000000 in
theorem st_first_yes {w : World} {s m : Nat} {a : Option Addr} {n c : Nat} {l : List Sp} {ba : Option Addr} {bc : Nat} (h : Stm Z w s m a n c l [(5, .agg #[.int .i64 5, .int .u32 1, .slice ba 1 bc])]) :
    Calls Tryz.prog 46 #[.pointer (some ⟨s, 0, none⟩), .int .i64 5, .int .i64 5, .int .u32 1] w fun e w' => e = .returned (.tuple #[.agg #[.int .i64 5, .int .u32 1, .slice ba 1 bc], .bool true]) ∧ Below w.heap.size w w' := by
  obtain ⟨W1, HW1⟩ : ∃ W1, Hid (W1 = w.alloc (.cells #[.int .i64 0, .int .u32 0, .slice none 0 0] 54)) := ⟨_, rfl⟩
  have HX1 : Hid (Below w.heap.size w W1) := by (show Below _ _ _); rw [HW1.out]; exact below_alloc w _
  have HK1 : Hid (Bk W1 w.heap.size #[.int .i64 0, .int .u32 0, .slice none 0 0] 54) := by (show Bk _ _ _ _); rw [HW1.out]; exact Bk.new w _ _
  have HS1 : Hid (Stm Z W1 s m a n c l [(5, .agg #[.int .i64 5, .int .u32 1, .slice ba 1 bc])]) := h.stay HX1.out
  have c1 : W1.cell? ⟨s, 1, none⟩ = some (.map (some m)) := HS1.out.blk.cell 1 rfl
  have hlk : (Instr.lookup 81 (.map (some m)) (.int .i64 5) false).run Tryz.prog W1 = .ok (.agg #[.int .i64 5, .int .u32 1, .slice ba 1 bc]) W1 := HS1.out.look (t := 5) (by omega)
  have hbx := below_alloc W1 (.cells #[.int .i64 5, .int .u32 1, .slice ba 1 bc] 54)
  have HBX : Hid (Below w.heap.size w (W1.alloc (.cells #[.int .i64 5, .int .u32 1, .slice ba 1 bc] 54))) := HX1.out.trans (hbx.mono HX1.out.size)
  have hk2 := HK1.out.stay hbx
  have d0 : (W1.alloc (.cells #[.int .i64 5, .int .u32 1, .slice ba 1 bc] 54)).cell? ⟨w.heap.size, 0, none⟩ = some (.int .i64 0) := hk2.cell 0 rfl
  have d1 : (W1.alloc (.cells #[.int .i64 5, .int .u32 1, .slice ba 1 bc] 54)).cell? ⟨w.heap.size, 1, none⟩ = some (.int .u32 0) := hk2.cell 1 rfl
  have d2 : (W1.alloc (.cells #[.int .i64 5, .int .u32 1, .slice ba 1 bc] 54)).cell? ⟨w.heap.size, 2, none⟩ = some (.slice none 0 0) := hk2.cell 2 rfl
  have f0 := hk2.free 0
  have f1 := hk2.free 1
  have f2 := hk2.free 2
  have HM : Hid (Bk ((((W1.alloc (.cells #[.int .i64 5, .int .u32 1, .slice ba 1 bc] 54)).setCell ⟨w.heap.size, 0, none⟩ (.int .i64 5)).setCell ⟨w.heap.size, 1, none⟩ (.int .u32 1)).setCell ⟨w.heap.size, 2, none⟩ (.slice ba 1 bc)) w.heap.size #[.int .i64 5, .int .u32 1, .slice ba 1 bc] 54) := ((hk2.set 0 (.int .i64 5)).set 1 (.int .u32 1)).set 2 (.slice ba 1 bc)
  have HBM : Hid (Below w.heap.size w ((((W1.alloc (.cells #[.int .i64 5, .int .u32 1, .slice ba 1 bc] 54)).setCell ⟨w.heap.size, 0, none⟩ (.int .i64 5)).setCell ⟨w.heap.size, 1, none⟩ (.int .u32 1)).setCell ⟨w.heap.size, 2, none⟩ (.slice ba 1 bc))) := ((HBX.out.setCell (Nat.le_refl _) _).setCell (Nat.le_refl _) _).setCell (Nat.le_refl _) _
  clear h hbx hk2 HK1 HX1 HBX HS1
  go_enter Tryz.func46, Tryz.ntmps46
  go_upto_region 1 with fail
  rw [← HW1.out]
  go_wp2
  go_loopw [10] (fun t10 wr => t10 = .int .i64 5 ∧ wr = W1) (fun _ _ => 0)
  case atStart => exact ⟨rfl, rfl⟩
  case round =>
    obtain ⟨rfl, rfl⟩ := hrel
    go_wp2
    refine bodyPost_ret (results_first (by rfl) (by rfl) HM.out) rfl ?_
    exact ⟨rfl, HBM.out⟩
set_option maxHeartbeats 4000000 in
theorem st_first_no {w : World} {s m : Nat} {a : Option Addr} {n c : Nat} {l : List Sp} {ba : Option Addr} {bc : Nat} (h : Stm Z w s m a n c l [(5, .agg #[.int .i64 5, .int .u32 1, .slice ba 1 bc])]) :
    Calls Tryz.prog 46 #[.pointer (some ⟨s, 0, none⟩), .int .i64 5, .int .i64 5, .int .u32 2] w fun e w' => e = .returned (.tuple #[itemZ, .bool false]) ∧ Below w.heap.size w w' := by
  obtain ⟨W1, HW1⟩ : ∃ W1, Hid (W1 = w.alloc (.cells #[.int .i64 0, .int .u32 0, .slice none 0 0] 54)) := ⟨_, rfl⟩
  have HX1 : Hid (Below w.heap.size w W1) := by (show Below _ _ _); rw [HW1.out]; exact below_alloc w _
  have HK1 : Hid (Bk W1 w.heap.size #[.int .i64 0, .int .u32 0, .slice none 0 0] 54) := by (show Bk _ _ _ _); rw [HW1.out]; exact Bk.new w _ _
  have HS1 : Hid (Stm Z W1 s m a n c l [(5, .agg #[.int .i64 5, .int .u32 1, .slice ba 1 bc])]) := h.stay HX1.out
  have c1 : W1.cell? ⟨s, 1, none⟩ = some (.map (some m)) := HS1.out.blk.cell 1 rfl
  have hlk : (Instr.lookup 81 (.map (some m)) (.int .i64 5) false).run Tryz.prog W1 = .ok (.agg #[.int .i64 5, .int .u32 1, .slice ba 1 bc]) W1 := HS1.out.look (t := 5) (by omega)
  obtain ⟨W2, HW2⟩ : ∃ W2, Hid (W2 = W1.alloc (.cells #[.int .i64 5, .int .u32 1, .slice ba 1 bc] 54)) := ⟨_, rfl⟩
  have hbx : Below W1.heap.size W1 W2 := by rw [HW2.out]; exact below_alloc W1 _
  have HBX : Hid (Below w.heap.size w W2) := HX1.out.trans (hbx.mono HX1.out.size)
  have hk2 : Bk W2 w.heap.size #[.int .i64 0, .int .u32 0, .slice none 0 0] 54 := HK1.out.stay hbx
  have d0 : W2.cell? ⟨w.heap.size, 0, none⟩ = some (.int .i64 0) := hk2.cell 0 rfl
  have d1 : W2.cell? ⟨w.heap.size, 1, none⟩ = some (.int .u32 0) := hk2.cell 1 rfl
  have d2 : W2.cell? ⟨w.heap.size, 2, none⟩ = some (.slice none 0 0) := hk2.cell 2 rfl
  have f0 := hk2.free 0
  have f1 := hk2.free 1
  have f2 := hk2.free 2
  have HM : Hid (Bk (((W2.setCell ⟨w.heap.size, 0, none⟩ (.int .i64 0)).setCell ⟨w.heap.size, 1, none⟩ (.int .u32 0)).setCell ⟨w.heap.size, 2, none⟩ (.slice none 0 0)) w.heap.size #[.int .i64 0, .int .u32 0, .slice none 0 0] 54) := ((hk2.set 0 (.int .i64 0)).set 1 (.int .u32 0)).set 2 (.slice none 0 0)
  have HBM : Hid (Below w.heap.size w (((W2.setCell ⟨w.heap.size, 0, none⟩ (.int .i64 0)).setCell ⟨w.heap.size, 1, none⟩ (.int .u32 0)).setCell ⟨w.heap.size, 2, none⟩ (.slice none 0 0))) := ((HBX.out.setCell (Nat.le_refl _) _).setCell (Nat.le_refl _) _).setCell (Nat.le_refl _) _
  clear h hbx hk2 HK1 HX1 HBX HS1
  go_enter Tryz.func46, Tryz.ntmps46
  go_upto_region 1 with fail
  rw [← HW1.out]
  go_wp2
  go_loopw [10] (fun t10 wr => (t10 = .int .i64 5 ∧ wr = W1) ∨ (t10 = .int .i64 6 ∧ wr = W2)) (fun t10 _ => 6 - (intOf t10).toNat)
  case atStart => exact .inl ⟨rfl, rfl⟩
  case round =>
    rcases hrel with ⟨rfl, rfl⟩ | ⟨rfl, rfl⟩
    · go_wp2
      go_roundw
      case rel => exact .inr ⟨rfl, HW2.out.symm⟩
      case measure => simp [intOf]
    · go_wp2
      refine bodyPost_ret (results_first (by rfl) (by rfl) HM.out) rfl ?_
      exact ⟨rfl, HBM.out⟩
end Go.Proofs.YtidihfhgnjkmaaaGreat
/- Stream.keep, where an item is kept already, and where none may be. -/
namespace Go.Proofs.YtidihfhgnjkmaaaGreat
set_option maxRecDepth 100000
open Go.RowKit Go.Maps Go.Sort Go.Shelf
variable {Z : Nat → Prop}

set_option maxHeartbeats 8000000 in
theorem st_keep_2 {w : World} {s m : Nat} {a : Option Addr} {n c : Nat} {l : List Sp} {X : List (Int × Value)} (h : Stm Z w s m a n c l X) {t f : Int} {ba : Option Addr} {bl bc : Nat} (hat : 2 ≤ atS l t) :
    Calls Tryz.prog 35 #[.pointer (some ⟨s, 0, none⟩), .agg #[.int .i64 t, .int .u32 f, .slice ba bl bc]] w fun e w' => e = .returned (.tuple #[]) ∧ Below w.heap.size w w' := by
  obtain ⟨W1, HW1⟩ : ∃ W1, Hid (W1 = w.alloc (.cells #[.int .i64 t, .int .u32 f, .slice ba bl bc] 54)) := ⟨_, rfl⟩
  have HX1 : Hid (Below w.heap.size w W1) := by (show Below _ _ _); rw [HW1.out]; exact below_alloc w _
  have HK1 : Hid (Bk W1 w.heap.size #[.int .i64 t, .int .u32 f, .slice ba bl bc] 54) := by (show Bk _ _ _ _); rw [HW1.out]; exact Bk.new w _ _
  have HS1 : Hid (Stm Z W1 s m a n c l X) := h.stay HX1.out
  have c0 : W1.drew.cell? ⟨s, 0, none⟩ = some (.slice a n c) := HS1.out.blk.cell 0 rfl
  have g0 : W1.drew.cell? ⟨w.heap.size, 0, none⟩ = some (.int .i64 t) := HK1.out.cell 0 rfl
  have HAT : Hid (∀ W, Below W1.heap.size W1 W → Calls Tryz.prog 64 #[.slice a n c, .int .i64 t] W fun e w' => e = .returned (.int .i64 (atS l t)) ∧ Below W.heap.size W w') := fun W hW => span_At a n c l t W (HS1.out.ok.rd.below hW) HS1.out.ok.len
  have k0 : ((atS l t) == 0) = false := by rw [beq_eq_false_iff_ne]; omega
  have k1 : ((atS l t) == 1) = false := by rw [beq_eq_false_iff_ne]; omega
  clear h
  go_enter Tryz.func35, Tryz.ntmps35
  go_upto_region 1 with fail
  rw [← HW1.out]
  have HB0 : Hid (Below W1.heap.size W1 W1.drew) := (Below.refl _ _).drew
  go_region_law (first
    | (go_simp; go_at_call 64; refine (HAT.out _ HB0.out).mono ?_; rintro e w2 ⟨rfl, hb2⟩; have HB2 : Hid (Below W1.heap.size W1 w2) := HB0.out.trans (hb2.mono HB0.out.size); clear hb2))
  all_goals (
    go_wp2
    exact ⟨rfl, _, results_none rfl _ _ _, rfl, HX1.out.trans (HB2.out.mono HX1.out.size)⟩)
/-- What keep leaves where an item is kept already. -/
def Kept1 (Z : Nat → Prop) (s m : Nat) (a : Option Addr) (n c : Nat) (l : List Sp) (X : List (Int × Value)) (t : Int) (v : Value) (w w' : World) : Prop := Stm Z w' s m a n c l (putX X t v) ∧ Two s m w w'
set_option maxHeartbeats 8000000 in
theorem st_keep_1 {w : World} {s m : Nat} {a : Option Addr} {n c : Nat} {l : List Sp} {X : List (Int × Value)} (h : Stm Z w s m a n c l X) (hX : X.length ≤ 1000000) {t f : Int} {ba : Option Addr} {bl bc : Nat} (ht : 1 ≤ t ∧ t ≤ 1099511627776) (hat : atS l t = 1) {t0 f0 : Int} {da : Option Addr} {dl dc : Nat} (hg : getX X t = some (.agg #[.int .i64 t0, .int .u32 f0, .slice da dl dc])) :
    Calls Tryz.prog 35 #[.pointer (some ⟨s, 0, none⟩), .agg #[.int .i64 t, .int .u32 f, .slice ba bl bc]] w fun e w' => e = .returned (.tuple #[]) ∧ Kept1 Z s m a n c l X t (.agg #[.int .i64 t0, .int .u32 (bits .or .u32 f0 f), .slice da dl dc]) w w' := by
  have hsl := h.blk.lt
  have hml := h.items.lt
  obtain ⟨W1, HW1⟩ : ∃ W1, Hid (W1 = w.alloc (.cells #[.int .i64 t, .int .u32 f, .slice ba bl bc] 54)) := ⟨_, rfl⟩
  have HX1 : Hid (Below w.heap.size w W1) := by (show Below _ _ _); rw [HW1.out]; exact below_alloc w _
  have HK1 : Hid (Bk W1 w.heap.size #[.int .i64 t, .int .u32 f, .slice ba bl bc] 54) := by (show Bk _ _ _ _); rw [HW1.out]; exact Bk.new w _ _
  have HS1 : Hid (Stm Z W1 s m a n c l X) := h.stay HX1.out
  have c0 : W1.drew.cell? ⟨s, 0, none⟩ = some (.slice a n c) := HS1.out.blk.cell 0 rfl
  have g0 : W1.drew.cell? ⟨w.heap.size, 0, none⟩ = some (.int .i64 t) := HK1.out.cell 0 rfl
  have HAT : Hid (∀ W, Below W1.heap.size W1 W → Calls Tryz.prog 64 #[.slice a n c, .int .i64 t] W fun e w' => e = .returned (.int .i64 1) ∧ Below W.heap.size W w') := fun W hW => by
    have := span_At a n c l t W (HS1.out.ok.rd.below hW) HS1.out.ok.len
    rw [hat] at this
    exact this
  clear h
  go_enter Tryz.func35, Tryz.ntmps35
  go_upto_region 1 with fail
  rw [← HW1.out]
  have HB0 : Hid (Below W1.heap.size W1 W1.drew) := (Below.refl _ _).drew
  go_cut [11] from 5 (fun v11 wx => v11 = .int .i64 1 ∧ Hid (Below W1.heap.size W1 wx))
  case first =>
    rename_i hJ hM
    go_region_law (first
      | (go_simp; go_at_call 64; refine (HAT.out _ HB0.out).mono ?_; rintro e w2 ⟨rfl, hb2⟩; have HB2 : Hid (Below W1.heap.size W1 w2) := HB0.out.trans (hb2.mono HB0.out.size); clear hb2))
    all_goals (
      refine hM _ _ ?_
      go_meet
      exact ⟨rfl, HB2⟩)
  case rest =>
  obtain ⟨hv, HB2⟩ := hcut
  obtain ⟨w2, hwp⟩ : ∃ W, W = wc := ⟨_, rfl⟩
  subst hwp
  subst hv
  have HS2 : Hid (Stm Z w2 s m a n c l X) := HS1.out.stay HB2.out
  have HK2 : Hid (Bk w2 w.heap.size #[.int .i64 t, .int .u32 f, .slice ba bl bc] 54) := HK1.out.stay HB2.out
  have HX2 : Hid (Below w.heap.size w w2) := HX1.out.trans (HB2.out.mono HX1.out.size)
  clear c0 g0 HAT HB0 HB2 HS1 HK1 HX1 HW1
  have c1 : w2.drew.cell? ⟨s, 1, none⟩ = some (.map (some m)) := HS2.out.blk.cell 1 rfl
  have g0 : w2.drew.cell? ⟨w.heap.size, 0, none⟩ = some (.int .i64 t) := HK2.out.cell 0 rfl
  have hlk : (Instr.lookup 81 (.map (some m)) (.int .i64 t) false).run Tryz.prog w2.drew = .ok (.agg #[.int .i64 t0, .int .u32 f0, .slice da dl dc]) w2.drew := by
    have := (HS2.out.stay (Below.refl _ _).drew).look (t := t) (by omega)
    rw [hg] at this
    exact this
  have c1b : (w2.alloc (.cells #[.int .i64 0, .int .u32 0, .slice none 0 0] 54)).drew.cell? ⟨s, 1, none⟩ = some (.map (some m)) := (HS2.out.stay (below_alloc w2 _).drew).blk.cell 1 rfl
  have g0b : (w2.alloc (.cells #[.int .i64 0, .int .u32 0, .slice none 0 0] 54)).drew.cell? ⟨w.heap.size, 0, none⟩ = some (.int .i64 t) := (HK2.out.stay (below_alloc w2 _).drew).cell 0 rfl
  have hlkb : (Instr.lookup 81 (.map (some m)) (.int .i64 t) false).run Tryz.prog (w2.alloc (.cells #[.int .i64 0, .int .u32 0, .slice none 0 0] 54)).drew = .ok (.agg #[.int .i64 t0, .int .u32 f0, .slice da dl dc]) (w2.alloc (.cells #[.int .i64 0, .int .u32 0, .slice none 0 0] 54)).drew := by
    have := (HS2.out.stay (below_alloc w2 (.cells #[.int .i64 0, .int .u32 0, .slice none 0 0] 54)).drew).look (t := t) (by omega)
    rw [hg] at this
    exact this
  go_upto_region 6 with fail
  go_cut [4] from 41 (fun v4 wx => v4 = .pointer (some ⟨w2.heap.size, 0, none⟩) ∧ wx = (w2.alloc (.cells #[.int .i64 t0, .int .u32 f0, .slice da dl dc] 54)).drew)
  case first =>
    rename_i hJ hM
    go_region
    all_goals (
      refine hM _ _ ?_
      go_meet
      exact ⟨rfl, rfl⟩)
  case rest =>
  obtain ⟨rfl, rfl⟩ := hcut
  clear c1 g0 hlk c1b g0b hlkb
  have HB3 : Hid (Below w2.heap.size w2 (w2.alloc (.cells #[.int .i64 t0, .int .u32 f0, .slice da dl dc] 54)).drew) := (below_alloc w2 _).drew
  have g1 : (w2.alloc (.cells #[.int .i64 t0, .int .u32 f0, .slice da dl dc] 54)).drew.cell? ⟨w.heap.size, 1, none⟩ = some (.int .u32 f) := (HK2.out.stay HB3.out).cell 1 rfl
  generalize hF : bits BinOp.or IntKind.u32 f0 f = F at *
  have HF : Hid (bits BinOp.or IntKind.u32 f0 f = F) := hF
  clear hF
  obtain ⟨W3, HW3⟩ : ∃ W3, Hid (W3 = (w2.alloc (.cells #[.int .i64 t0, .int .u32 F, .slice da dl dc] 54)).drew) := ⟨_, rfl⟩
  have HBW3 : Hid (Below w2.heap.size w2 W3) := by (show Below _ _ _); rw [HW3.out]; exact (below_alloc w2 _).drew
  have HS3 : Hid (Stm Z W3 s m a n c l X) := HS2.out.stay HBW3.out
  have HKI3 : Hid (Bk W3 w2.heap.size #[.int .i64 t0, .int .u32 F, .slice da dl dc] 54) := by (show Bk _ _ _ _); rw [HW3.out]; exact Bk.new w2 _ _
  have c1 : W3.drew.cell? ⟨s, 1, none⟩ = some (.map (some m)) := HS3.out.blk.cell 1 rfl
  have g0 : W3.drew.cell? ⟨w.heap.size, 0, none⟩ = some (.int .i64 t) := (HK2.out.stay HBW3.out).cell 0 rfl
  have i0 : W3.drew.cell? ⟨w2.heap.size, 0, none⟩ = some (.int .i64 t0) := HKI3.out.cell 0 rfl
  have i1 : W3.drew.cell? ⟨w2.heap.size, 1, none⟩ = some (.int .u32 F) := HKI3.out.cell 1 rfl
  have i2 : W3.drew.cell? ⟨w2.heap.size, 2, none⟩ = some (.slice da dl dc) := HKI3.out.cell 2 rfl
  have HSD : Hid (Stm Z W3.drew s m a n c l X) := HS3.out.stay (Below.refl _ _).drew
  obtain ⟨w4, hput, HS4, HT4⟩ := HSD.out.put hX (tkey_of (t := t) (by omega)) (.agg #[.int .i64 t0, .int .u32 F, .slice da dl dc])
  have HBF : Hid (Two s m w w4) := ((Two.of_below s m HX2.out).trans ((Two.of_below s m HBW3.out).trans (Two.of_below s m (Below.refl W3.heap.size W3).drew))).trans (Two.turned HT4.out)
  go_upto_region 8 with fail
  rw [HF.out, ← HW3.out]
  go_region
  all_goals (
    go_wp2
    refine ⟨rfl, _, results_none rfl _ _ _, rfl, ?_, HBF.out⟩
    rw [HF.out]
    exact HS4.out)
end Go.Proofs.YtidihfhgnjkmaaaGreat
