/- Stream.Learn of live's parcel. -/
import Derived.Test.YtidihfhgnjkmaaaSt6
import Derived.Test.YtidihfhgnjkmaaaPcP
namespace Go.Proofs.Ytidihfhgnjkmaaa
set_option maxRecDepth 100000
open Go.RowKit Go.Maps Go.Sort Go.Shelf

def newsP : Pc := ⟨1, 0, 0, 0, 1, 5, [⟨1, 4, 2⟩], [⟨5, 1, [97]⟩]⟩
theorem news_chk : chk newsP = 0 := by decide
def news4 : List Sp := [⟨1, 4, 2⟩]
def news5 : List Sp := [⟨1, 4, 2⟩, ⟨5, 5, 1⟩]
theorem news4_right : RightS Sp.zr news4 := by simp [news4, RightS, Sp.zr]
theorem news5_right : RightS Sp.zr news5 := by simp [news5, RightS, Sp.zr]
theorem news_join {l : List Sp} (hr : RightS Sp.zr l) (h : ∀ t, atS l t = max (atS [] t) (atS news4 t)) : l = news4 := canonS l news4 _ _ hr news4_right fun t => by
  rw [h t]
  exact Int.max_eq_right (atS_range news4_right t).1
theorem news_keep {l : List Sp} (hr : RightS Sp.zr l) (h : ∀ u, atS l u = if u = 5 then 1 else atS news4 u) : l = news5 := canonS l news5 _ _ hr news5_right fun t => by
  rw [h t]
  show (if t = 5 then (1 : Int) else if 1 ≤ t ∧ t ≤ 4 then 2 else 0) = if 1 ≤ t ∧ t ≤ 4 then 2 else if 5 ≤ t ∧ t ≤ 5 then 1 else 0
  by_cases h1 : t = 5
  · rw [if_pos h1, if_neg (by omega), if_pos (by omega)]
  · rw [if_neg h1]
    by_cases h2 : 1 ≤ t ∧ t ≤ 4
    · rw [if_pos h2, if_pos h2]
    · rw [if_neg h2, if_neg h2, if_neg (by omega)]
/-- The stream behind live's parcel. -/
def News5 (s m : Nat) (w w' : World) : Prop := ∃ a n c ba bc, Stm w' s m a n c news5 [(5, .agg #[.int .i64 5, .int .u32 1, .slice ba 1 bc])] ∧ Own w' w.heap.size ba 1 bc [97] ∧ Two s m w w'
set_option maxHeartbeats 8000000 in
theorem st_Learn_news {w : World} {s m : Nat} (h : Stm w s m none 0 0 [] []) {sa : Option Addr} {sn sc : Nat} {ia : Option Addr} {im ic : Nat} (hp : PcRd w newsP sa sn sc ia im ic) :
    Calls Try.prog 6 #[.pointer (some ⟨s, 0, none⟩), newsP.val sa sn sc ia im ic] w fun e w' => e = .returned (.tuple #[.bool true, .int .i64 0]) ∧ News5 s m w w' := by
  have hsl := h.blk.lt
  have hml := h.items.lt
  obtain rfl : sn = 1 := hp.spans.size.symm
  obtain rfl : im = 1 := hp.items.size.symm
  obtain ⟨W1, HW1⟩ : ∃ W1, Hid (W1 = w.alloc (.cells #[.int .i64 1, .int .i64 0, .int .i64 0, .int .i64 0, .int .i64 1, .int .i64 5, .slice sa 1 sc, .slice ia 1 ic] 33)) := ⟨_, rfl⟩
  have HX1 : Hid (Below w.heap.size w W1) := by (show Below _ _ _); rw [HW1.out]; exact below_alloc w _
  have HK1 : Hid (Bk W1 w.heap.size #[.int .i64 1, .int .i64 0, .int .i64 0, .int .i64 0, .int .i64 1, .int .i64 5, .slice sa 1 sc, .slice ia 1 ic] 33) := by (show Bk _ _ _ _); rw [HW1.out]; exact Bk.new w _ _
  have HS1 : Hid (Stm W1 s m none 0 0 [] []) := h.stay HX1.out
  have HP1 : Hid (PcRd W1 newsP sa 1 sc ia 1 ic) := hp.below HX1.out
  have HCK : Hid (Calls Try.prog 14 #[.agg #[.int .i64 1, .int .i64 0, .int .i64 0, .int .i64 0, .int .i64 1, .int .i64 5, .slice sa 1 sc, .slice ia 1 ic]] W1 fun e w' => e = .returned (.int .i64 0) ∧ Below W1.heap.size W1 w') := by
    have := pc_Check newsP sa 1 sc ia 1 ic W1 HP1.out
    rw [news_chk] at this
    exact this
  have k0 : W1.cell? ⟨w.heap.size, 0, none⟩ = some (.int .i64 1) := HK1.out.cell 0 rfl
  have k1 : W1.cell? ⟨w.heap.size, 1, none⟩ = some (.int .i64 0) := HK1.out.cell 1 rfl
  have k2 : W1.cell? ⟨w.heap.size, 2, none⟩ = some (.int .i64 0) := HK1.out.cell 2 rfl
  have k3 : W1.cell? ⟨w.heap.size, 3, none⟩ = some (.int .i64 0) := HK1.out.cell 3 rfl
  have k4 : W1.cell? ⟨w.heap.size, 4, none⟩ = some (.int .i64 1) := HK1.out.cell 4 rfl
  have k5 : W1.cell? ⟨w.heap.size, 5, none⟩ = some (.int .i64 5) := HK1.out.cell 5 rfl
  have k6 : W1.cell? ⟨w.heap.size, 6, none⟩ = some (.slice sa 1 sc) := HK1.out.cell 6 rfl
  have k7 : W1.cell? ⟨w.heap.size, 7, none⟩ = some (.slice ia 1 ic) := HK1.out.cell 7 rfl
  clear h hp
  unfold Pc.val newsP
  simp only
  go_enter Try.func6, Try.ntmps6
  go_upto_region 3 with fail
  rw [← HW1.out]
  go_wp2_with fail
  refine HCK.out.mono ?_
  rintro e w2 ⟨rfl, hb2⟩
  have HK2 : Hid (Bk w2 w.heap.size #[.int .i64 1, .int .i64 0, .int .i64 0, .int .i64 0, .int .i64 1, .int .i64 5, .slice sa 1 sc, .slice ia 1 ic] 33) := HK1.out.stay hb2
  have HS2 : Hid (Stm w2 s m none 0 0 [] []) := HS1.out.stay hb2
  have HP2 : Hid (PcRd w2 newsP sa 1 sc ia 1 ic) := HP1.out.below hb2
  have HX2 : Hid (Below w.heap.size w w2) := HX1.out.trans (hb2.mono HX1.out.size)
  have q0 : w2.cell? ⟨w.heap.size, 0, none⟩ = some (.int .i64 1) := HK2.out.cell 0 rfl
  clear hb2 k0 k1 k2 k3 k4 k5 k6 k7 HK1 HS1 HP1 HX1 HCK HW1
  go_wp2_with fail
  refine (st_Fork HS2.out).mono ?_
  rintro e w3 ⟨s2, m2, rfl, hs3, ⟨z1, z2⟩, hb3⟩
  have hszw := HX2.out.size
  have HF3 : Hid (Stm w3 s2 m2 none 0 0 [] []) := hs3
  have HK3 : Hid (Bk w3 w.heap.size #[.int .i64 1, .int .i64 0, .int .i64 0, .int .i64 0, .int .i64 1, .int .i64 5, .slice sa 1 sc, .slice ia 1 ic] 33) := HK2.out.stay hb3
  have HS3 : Hid (Stm w3 s m none 0 0 [] []) := HS2.out.stay hb3
  have HP3 : Hid (PcRd w3 newsP sa 1 sc ia 1 ic) := HP2.out.below hb3
  have HX3 : Hid (Below w.heap.size w w3) := HX2.out.trans (hb3.mono HX2.out.size)
  have q6 : w3.cell? ⟨w.heap.size, 6, none⟩ = some (.slice sa 1 sc) := HK3.out.cell 6 rfl
  clear hs3 hb3 HK2 HS2 HP2 HX2 q0
  go_wp2_with fail
  refine (st_join HS3.out (by simp) (b := sa) (nb := 1) (cb := sc) (l2 := news4) ⟨HP3.out.spans, HP3.out.sl, HP3.out.sm, news4_right⟩).mono ?_
  rintro e w4 ⟨rfl, a4, n4, c4, l4, hs4, ht4, hb4⟩
  obtain rfl := news_join hs4.ok.right ht4
  have HS4 : Hid (Stm w4 s m a4 n4 c4 news4 []) := hs4
  have HK4 : Hid (Bk w4 w.heap.size #[.int .i64 1, .int .i64 0, .int .i64 0, .int .i64 0, .int .i64 1, .int .i64 5, .slice sa 1 sc, .slice ia 1 ic] 33) := Two.bk HK3.out hb4 (by omega) (by omega)
  have HF4 : Hid (Stm w4 s2 m2 none 0 0 [] []) := HF3.out.two hb4 (by omega) (by omega) (by omega) (by omega) (fun ad e => by cases e)
  have HI4 : Hid (ItsRd w4 ia 1 [⟨5, 1, [97]⟩]) := ItsRd.two HS3.out HP3.out.items hb4
  have HT4 : Hid (Two s m w w4) := (Two.of_below s m HX3.out).trans hb4
  have q7 : w4.cell? ⟨w.heap.size, 7, none⟩ = some (.slice ia 1 ic) := HK4.out.cell 7 rfl
  clear hs4 ht4 hb4 HF3 HK3 HS3 HP3 HX3 q6
  go_wp2
  go_loopw [29] (fun t29 wr => (t29 = .int .i64 0 ∧ wr = w4) ∨ (t29 = .int .i64 1 ∧ Hid (News5 s m w wr) ∧ Hid (Stm wr s2 m2 none 0 0 [] []))) (fun t29 _ => 1 - (intOf t29).toNat)
  case atStart => exact .inl ⟨rfl, rfl⟩
  case round =>
    rcases hrel with ⟨rfl, rfl⟩ | ⟨rfl, HN, HF⟩
    · obtain ⟨g, o, rfl, hg, q, hq, c0, c1, ba, bl, bc, c2, hrd, hb0, hlc, hcm⟩ := HI4.out.at_ 0 (by omega)
      simp only [List.getElem?_cons_zero, Option.some.injEq] at hq
      subst hq
      obtain rfl : bl = 1 := hrd.size.symm
      simp only [Nat.zero_mul, Nat.add_zero] at c0 c1 c2
      have HRD : Hid (Rd wr ba 1 [97]) := hrd
      have hbx := below_alloc wr (.cells #[.int .i64 5, .int .u32 1, .slice ba 1 bc] 42)
      have HKP : Hid (Calls Try.prog 17 #[.pointer (some ⟨s, 0, none⟩), .agg #[.int .i64 5, .int .u32 1, .slice ba 1 bc]] (wr.alloc (.cells #[.int .i64 5, .int .u32 1, .slice ba 1 bc] 42)) fun e w' => e = .returned (.tuple #[]) ∧ Kept0 s m news4 [] 5 1 1 [97] (wr.alloc (.cells #[.int .i64 5, .int .u32 1, .slice ba 1 bc] 42)) w') := st_keep_0 (HS4.out.stay hbx) (by simp) (by omega) (HRD.out.below hbx) (by omega) (by decide)
      have HBX : Hid (Below wr.heap.size wr (wr.alloc (.cells #[.int .i64 5, .int .u32 1, .slice ba 1 bc] 42))) := hbx
      clear hbx hrd hb0 hlc hcm hg HI4
      go_wp2_with fail
      refine HKP.out.mono ?_
      rintro e w5 ⟨rfl, a5, n5, c5, l5, ba5, bc5, hs5, ho5, ht5, hb5⟩
      obtain rfl := news_keep hs5.ok.right ht5
      have HT5 : Hid (Two s m wr w5) := (Two.of_below s m HBX.out).trans hb5
      have HF5 : Hid (Stm w5 s2 m2 none 0 0 [] []) := HF4.out.two HT5.out (by omega) (by omega) (by omega) (by omega) (fun ad e => by cases e)
      have hszr := HT4.out.size
      have hszx := HBX.out.size
      have HN5 : Hid (News5 s m w w5) := ⟨a5, n5, c5, ba5, bc5, hs5, ⟨ownsRow_base_a ho5.row (by omega), ho5.byte⟩, HT4.out.trans HT5.out⟩
      clear hs5 ho5 ht5 hb5 hszr hszx c0 c1 c2
      go_wp2
      go_roundw
      case rel => exact .inr ⟨rfl, HN5, HF5⟩
      case measure => simp [intOf]
    · obtain ⟨a5, n5, c5, ba5, bc5, hs5, ho5, hb5⟩ := HN.out
      have HS5 : Hid (Stm wr s m a5 n5 c5 news5 [(5, .agg #[.int .i64 5, .int .u32 1, .slice ba5 1 bc5])]) := hs5
      have hn5 : n5 ≠ 0 := by have := hs5.ok.rd.size; rw [← this]; decide
      clear hs5 ho5 hb5
      go_wp2_with fail
      refine (st_forget_0 HS5.out (by simp)).mono ?_
      rintro e w6 ⟨rfl, hb6⟩
      have HS6 : Hid (Stm w6 s m a5 n5 c5 news5 [(5, .agg #[.int .i64 5, .int .u32 1, .slice ba5 1 bc5])]) := HS5.out.stay hb6
      have HF6 : Hid (Stm w6 s2 m2 none 0 0 [] []) := HF.out.stay hb6
      have HB6 : Hid (Below wr.heap.size wr w6) := hb6
      clear hb6
      go_wp2_with fail
      refine (st_same_len HS6.out HF6.out hn5).mono ?_
      rintro e w7 ⟨rfl, hb7⟩
      have HB7 : Hid (Below wr.heap.size wr w7) := HB6.out.trans (hb7.mono HB6.out.size)
      clear hb7
      go_wp2
      go_ret2
      obtain ⟨a8, n8, c8, ba8, bc8, hs8, ho8, hb8⟩ := HN.out
      exact ⟨rfl, a8, n8, c8, ba8, bc8, hs8.stay HB7.out, ho8.below HB7.out, hb8.trans (Two.of_below s m HB7.out)⟩
end Go.Proofs.Ytidihfhgnjkmaaa
