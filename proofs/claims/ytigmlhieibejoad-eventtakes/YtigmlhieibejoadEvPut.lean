/- event.Get and event.Put of the one event that 'live' asks of. -/
import Derived.Test.YtigmlhieibejoadEvCheck
import Derived.Test.YtigmlhieibejoadStep
namespace Go.Proofs.Ytigmlhieibejoad
open Go.RowKit

set_option maxRecDepth 100000 in
theorem event_Get1 (g : Nat) (w : World) (hg : w.heap[g]? = some (.cells oneAttr 51 (0, 0))) : Calls Try.prog 17 #[.agg #[.slice (some ⟨g, 0, none⟩) 1 1, .slice none 0 0], .string ⟨#[97]⟩] w fun e w' => e = .returned (.tuple #[.agg #[.int .i64 3, .int .i64 0, .string ⟨#[]⟩, .bool true, .complex .f64 0 0], .bool true]) ∧ Below w.heap.size w w' := by
  have HG : Hid (w.heap[g]? = some (.cells oneAttr 51 (0, 0))) := hg
  clear hg
  have hcx : ∀ (a : Addr) (m : Mode) (W : World), (store a (.complex .f64 0 0) m).run Try.prog W = stored Try.prog W a (.complex .f64 0 0) m := fun a m W => run_store _ _ _ _ _ rfl
  obtain ⟨c0, c1, c2, c3, c4, c5⟩ := one_cells ((w.alloc (.cells #[.slice (some ⟨g, 0, none⟩) 1 1, .slice none 0 0] 25)).alloc (.cells #[.int .i64 0, .int .i64 0, .string ⟨#[]⟩, .bool false, .complex .f64 0 0] 49)) HG.out ((below_alloc w _).alloc (by simp) _)
  go_enter Try.func17, Try.ntmps17
  go_wp2
  refine wp_loop_rounds 2 ?_
  rw [rounds_succ]
  go_wp2
  go_returns
  exact ⟨rfl, ((below_alloc w _).alloc (by simp) _).alloc (by simp; omega) _⟩

/-- A row that was laid behind another one stays when that one grows. -/
theorem Own.past {w w' w0 : World} {base b1 : Nat} {a a1 : Option Addr} {len cap n1 c1 : Nat} {bs xs : List Nat} (h : Own w base a len cap bs) (ho : Own w0 b1 a1 n1 c1 xs) (hle : w0.heap.size ≤ base) (hg : w.grownBy w' (Value.ownBlock (.slice a1 n1 c1))) : Own w' base a len cap bs := by
  refine ⟨⟨h.row.1, ?_⟩, h.byte⟩
  rcases h.row.2 with hn | ⟨g, c, cur, hv, hbg, hgb, r⟩
  · exact .inl hn
  · refine .inr ⟨g, c, cur, hv, hbg, ?_, r⟩
    have hlt := (Array.getElem?_eq_some_iff.1 hgb).1
    rw [hg.block g hlt ?_]
    · exact hgb
    · intro he
      have := (ho.row.lt g he.symm).2
      omega

theorem Own.nil_cap {w : World} {base : Nat} {a : Option Addr} {len cap : Nat} {bs : List Nat} (h : Own w base a len cap bs) : a = none → cap = 0 := by
  rcases h.row.2 with ⟨hn, _⟩ | ⟨g, c, cur, hv, _⟩
  · intro _; simp only [Value.slice.injEq] at hn; exact hn.2.2
  · intro he; rw [he] at hv; simp at hv

theorem leb_1 : Leb.leb 1 = [1] := by unfold Leb.leb; rfl
theorem leb_0 : Leb.leb 0 = [0] := by unfold Leb.leb; rfl

theorem octet_Uint1 (w : World) : Calls Try.prog 21 #[.int .u64 1] w fun e w' => ∃ a cap, e = .returned (.slice a 1 cap) ∧ a ≠ none ∧ Own w' w.heap.size a 1 cap [1] ∧ Below w.heap.size w w' := by
  have h := octet_Uint 1 (by decide) w
  rw [leb_1] at h
  exact h
theorem octet_Uint0 (w : World) : Calls Try.prog 21 #[.int .u64 0] w fun e w' => ∃ a cap, e = .returned (.slice a 1 cap) ∧ a ≠ none ∧ Own w' w.heap.size a 1 cap [0] ∧ Below w.heap.size w w' := by
  have h := octet_Uint 0 (by decide) w
  rw [leb_0] at h
  exact h
theorem octet_Text_a (w : World) : Calls Try.prog 22 #[.string ⟨#[97]⟩] w fun e w' => ∃ a cap, e = .returned (.tuple #[.slice a 2 cap, .int .i64 0]) ∧ a ≠ none ∧ Own w' w.heap.size a 2 cap [1, 97] ∧ Below w.heap.size w w' := by
  have h := octet_Text ⟨#[97]⟩ (by decide) w
  have e1 : (⟨#[97]⟩ : ByteArray).size = 1 := rfl
  have e2 : bytesOf ⟨#[97]⟩ = [97] := rfl
  rw [e1, e2, leb_1] at h
  exact h

set_option maxRecDepth 100000 in
set_option maxHeartbeats 1000000 in
theorem event_Put1 (g : Nat) (w : World) (hg : w.heap[g]? = some (.cells oneAttr 51 (0, 0))) : Calls Try.prog 9 #[.agg #[.slice (some ⟨g, 0, none⟩) 1 1, .slice none 0 0]] w fun e w' => ∃ a c, e = .returned (.tuple #[.slice a 6 c, .int .i64 0]) ∧ Rd w' a 6 [1, 1, 97, 3, 1, 0] ∧ Below w.heap.size w w' := by
  have HG : Hid (w.heap[g]? = some (.cells oneAttr 51 (0, 0))) := hg
  have hgl : g < w.heap.size := (Array.getElem?_eq_some_iff.1 hg).1
  have HG' : (w.alloc (.cells #[.slice (some ⟨g, 0, none⟩) 1 1, .slice none 0 0] 25)).heap[g]? = some (.cells oneAttr 51 (0, 0)) := ((below_alloc w _).block g hgl).trans hg
  clear hg
  have hcx : ∀ (a : Addr) (m : Mode) (W : World), (store a (.complex .f64 0 0) m).run Try.prog W = stored Try.prog W a (.complex .f64 0 0) m := fun a m W => run_store _ _ _ _ _ rfl
  go_enter Try.func9, Try.ntmps9
  go_wp2_with fail
  refine (event_Check1 g _ HG').mono ?_
  rintro e w1 ⟨rfl, hb1⟩
  have k0 : w1.cell? ⟨w.heap.size, 0, none⟩ = some (.slice (some ⟨g, 0, none⟩) 1 1) := (hb1.cell (p := ⟨w.heap.size, 0, none⟩) (by simp)).trans (by simp)
  have k1 : w1.cell? ⟨w.heap.size, 1, none⟩ = some (.slice none 0 0) := (hb1.cell (p := ⟨w.heap.size, 1, none⟩) (by simp)).trans (by simp)
  have HB1 : Hid (Below w.heap.size w w1) := (below_alloc w _).trans (hb1.mono (by simp))
  clear hb1 HG' hgl
  go_wp2_with fail
  refine (octet_Uint1 w1).mono ?_
  rintro e w2 ⟨a2, n2, rfl, _, ho2, hb2⟩
  have hs1 : w.heap.size < w1.heap.size := World.block_lt_of_cell? w1 _ k0
  have HO2 : Hid (Own w2 w1.heap.size a2 1 n2 [1]) := ho2
  have HS1 : Hid (w.heap.size < w1.heap.size) := hs1
  have HS2 : Hid (w1.heap.size ≤ w2.heap.size) := hb2.size
  have HB2 : Hid (Below w.heap.size w w2) := HB1.out.trans (hb2.mono HB1.out.size)
  have l0 : w2.cell? ⟨w.heap.size, 0, none⟩ = some (.slice (some ⟨g, 0, none⟩) 1 1) := (hb2.cell (p := ⟨w.heap.size, 0, none⟩) hs1).trans k0
  have l1 : w2.cell? ⟨w.heap.size, 1, none⟩ = some (.slice none 0 0) := (hb2.cell (p := ⟨w.heap.size, 1, none⟩) hs1).trans k1
  obtain ⟨c0, c1, c2, c3, c4, c5⟩ := one_cells w2 HG.out HB2.out
  clear ho2 hb2 hs1 k0 k1 HB1
  go_wp2_with fail
  refine wp_loop_rounds 2 ?_
  rw [rounds_succ]
  go_wp2_with fail
  refine (octet_Text_a _).mono ?_
  rintro e w3 ⟨a3, n3, rfl, _, ho3, hb3⟩
  have d1 : w3.cell? ⟨w2.heap.size, 1, none⟩ = some (.int .i64 3) := (hb3.cell (p := ⟨w2.heap.size, 1, none⟩) (by simp)).trans (by simp)
  have d2 : w3.cell? ⟨w2.heap.size, 2, none⟩ = some (.int .i64 0) := (hb3.cell (p := ⟨w2.heap.size, 2, none⟩) (by simp)).trans (by simp)
  have d3 : w3.cell? ⟨w2.heap.size, 3, none⟩ = some (.string ⟨#[]⟩) := (hb3.cell (p := ⟨w2.heap.size, 3, none⟩) (by simp)).trans (by simp)
  have d4 : w3.cell? ⟨w2.heap.size, 4, none⟩ = some (.bool true) := (hb3.cell (p := ⟨w2.heap.size, 4, none⟩) (by simp)).trans (by simp)
  have d5 : w3.cell? ⟨w2.heap.size, 5, none⟩ = some (.complex .f64 0 0) := (hb3.cell (p := ⟨w2.heap.size, 5, none⟩) (by simp)).trans (by simp)
  have HB23 : Hid (Below w2.heap.size w2 w3) := (below_alloc w2 _).trans (hb3.mono (by simp))
  have HO3 : Hid (Own w3 w2.heap.size a3 2 n3 [1, 97]) := ho3.lower (by simp)
  clear ho3 hb3 c0 c1 c2 c3 c4 c5
  go_wp2_with fail
  refine (value_Put3 _).mono ?_
  rintro e w4 ⟨a4, n4, rfl, _, ho4, hb4⟩
  have HB24 : Hid (Below w2.heap.size w2 w4) := HB23.out.trans (hb4.mono HB23.out.size)
  have HO4 : Hid (Own w4 w2.heap.size a4 2 n4 [3, 1]) := ho4.lower HB23.out.size
  have HO3' : Hid (Own w4 w2.heap.size a3 2 n3 [1, 97]) := HO3.out.below hb4
  have HO2' : Hid (Own w4 w1.heap.size a2 1 n2 [1]) := HO2.out.below HB24.out
  have HS4 : Hid (w1.heap.size ≤ w4.heap.size) := Nat.le_trans HS2.out HB24.out.size
  clear ho4 hb4 d1 d2 d3 d4 d5 HO3 HB23
  go_wp2_with (at_builtin; refine wpList_append_rd rfl (.tmp 41) (.tmp 42) rfl w1.heap.size a2 1 n2 [1] rfl HO2'.out a3 2 n3 [1, 97] rfl HO3'.out.rd HO3'.out.nil_cap (by decide) HS4.out ?_)
  intro a5 n5 w5 ho5 hg5 hb5
  have HO5 : Hid (Own w5 w1.heap.size a5 3 n5 [1, 1, 97]) := ho5
  have HO4' : Hid (Own w5 w2.heap.size a4 2 n4 [3, 1]) := HO4.out.past HO2.out (Nat.le_refl _) hg5
  have HB25 : Hid (Below w1.heap.size w2 w5) := (HB24.out.mono HS2.out).trans hb5
  have HS5 : Hid (w1.heap.size ≤ w5.heap.size) := Nat.le_trans HS4.out hb5.size
  clear ho5 hg5 hb5 HO4 HO3' HO2' HS4 HB24
  go_wp2_with (at_builtin; refine wpList_append_rd rfl (.tmp 44) (.tmp 45) rfl w1.heap.size a5 3 n5 [1, 1, 97] rfl HO5.out a4 2 n4 [3, 1] rfl HO4'.out.rd HO4'.out.nil_cap (by decide) HS5.out ?_)
  intro a6 n6 w6 ho6 hg6 hb6
  have HO6 : Hid (Own w6 w1.heap.size a6 5 n6 [1, 1, 97, 3, 1]) := ho6
  have HB26 : Hid (Below w1.heap.size w2 w6) := HB25.out.trans hb6
  have HS6 : Hid (w1.heap.size ≤ w6.heap.size) := Nat.le_trans HS5.out hb6.size
  have m1 : w6.cell? ⟨w.heap.size, 1, none⟩ = some (.slice none 0 0) := (HB26.out.cell (p := ⟨w.heap.size, 1, none⟩) HS1.out).trans l1
  clear ho6 hg6 hb6 HO5 HO4' HS5 HB25
  go_wp2
  rw [rounds_succ]
  go_wp2_with fail
  refine (octet_Uint0 _).mono ?_
  rintro e w7 ⟨a7, n7, rfl, _, ho7, hb7⟩
  have HO6' : Hid (Own w7 w1.heap.size a6 5 n6 [1, 1, 97, 3, 1]) := HO6.out.below hb7
  have HO7 : Hid (Own w7 w6.heap.size a7 1 n7 [0]) := ho7
  have HB27 : Hid (Below w1.heap.size w2 w7) := HB26.out.trans (hb7.mono HS6.out)
  have HS7 : Hid (w1.heap.size ≤ w7.heap.size) := Nat.le_trans HS6.out hb7.size
  clear ho7 hb7 HO6 HB26 m1
  go_wp2_with (at_builtin; refine wpList_append_rd rfl (.tmp 48) (.tmp 53) rfl w1.heap.size a6 5 n6 [1, 1, 97, 3, 1] rfl HO6'.out a7 1 n7 [0] rfl HO7.out.rd HO7.out.nil_cap (by decide) HS7.out ?_)
  intro a8 n8 w8 ho8 hg8 hb8
  have HO8 : Hid (Own w8 w1.heap.size a8 6 n8 [1, 1, 97, 3, 1, 0]) := ho8
  have HB28 : Hid (Below w1.heap.size w2 w8) := HB27.out.trans hb8
  have HS8 : Hid (w1.heap.size ≤ w8.heap.size) := Nat.le_trans HS7.out hb8.size
  have m1 : w8.cell? ⟨w.heap.size, 1, none⟩ = some (.slice none 0 0) := (HB28.out.cell (p := ⟨w.heap.size, 1, none⟩) HS1.out).trans l1
  clear ho8 hg8 hb8 HO6' HO7 HB27 HS7
  have HR : Hid (Rd w8 none 0 []) := ⟨rfl, by simp, .inl rfl⟩
  go_wp2_with (at_builtin; refine wpList_append_rd rfl (.tmp 55) (.tmp 57) rfl w1.heap.size a8 6 n8 [1, 1, 97, 3, 1, 0] rfl HO8.out none 0 0 [] rfl HR.out (by simp) (by decide) HS8.out ?_)
  intro a9 n9 w9 ho9 hg9 hb9
  have HO9 : Hid (Own w9 w1.heap.size a9 6 n9 [1, 1, 97, 3, 1, 0]) := ho9
  have HB9 : Hid (Below w.heap.size w w9) := HB2.out.trans ((HB28.out.trans hb9).mono (Nat.le_of_lt HS1.out))
  clear ho9 hg9 hb9
  go_wp2
  go_ret2
  exact ⟨a9, n9, rfl, HO9.out.rd, HB9.out⟩
end Go.Proofs.Ytigmlhieibejoad
