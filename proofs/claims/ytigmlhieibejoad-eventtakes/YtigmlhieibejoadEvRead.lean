/- A list of attributes, as it is read. event.Check of right ones. -/
import Derived.Test.YtigmlhieibejoadEvTakes
import Derived.Test.YtigmlhieibejoadEvOnceM
import Derived.Test.YtigmlhieibejoadValPutB
namespace Go.Proofs.Ytigmlhieibejoad
open Go.RowKit

structure AtsRd (w : World) (a : Option Addr) (l : List At) : Prop where
  cells : l = [] ∨ ∃ g, a = some ⟨g, 0, none⟩ ∧ g < w.heap.size ∧ ∀ i q, l[i]? = some q → ∀ j v, (At.cells q)[j]? = some v → w.cell? ⟨g, i * 6 + j, none⟩ = some v
theorem AtsRd.below {w w' : World} {a : Option Addr} {l : List At} (h : AtsRd w a l) (hb : Below w.heap.size w w') : AtsRd w' a l := by
  refine ⟨?_⟩
  rcases h.cells with h0 | ⟨g, ha, hg, hc⟩
  · exact .inl h0
  · exact .inr ⟨g, ha, Nat.lt_of_lt_of_le hg hb.size, fun i q hi j v hv => (hb.cell (p := ⟨g, i * 6 + j, none⟩) hg).trans (hc i q hi j v hv)⟩

theorem flat6 : ∀ (l : List At) (i : Nat) (q : At), l[i]? = some q → ∀ j, j < 6 → (l.flatMap fun q => q.cells.toList)[i * 6 + j]? = q.cells.toList[j]?
  | [], i, q, h, j, hj => by simp at h
  | p :: l, 0, q, h, j, hj => by
    simp only [List.getElem?_cons_zero, Option.some.injEq] at h
    subst h
    rw [List.flatMap_cons, Nat.zero_mul, Nat.zero_add, List.getElem?_append_left (by simp [At.cells]; omega)]
  | p :: l, i + 1, q, h, j, hj => by
    rw [List.getElem?_cons_succ] at h
    have e : p.cells.toList.length = 6 := rfl
    rw [List.flatMap_cons, List.getElem?_append_right (by omega), e, show (i + 1) * 6 + j - 6 = i * 6 + j from by omega]
    exact flat6 l i q h j hj

theorem Ats.rd {w : World} {base : Nat} {a : Option Addr} {n c : Nat} {l : List At} (h : Ats w base (.slice a n c) l) : l.length = n ∧ AtsRd w a l := by
  rcases h.row.2 with ⟨hv, hn⟩ | ⟨g, c', cur, hv, hb, hg, hlc, hm, hs, ht⟩
  · simp only [Value.slice.injEq] at hv
    exact ⟨by omega, ⟨.inl (List.length_eq_zero_iff.1 hn)⟩⟩
  · simp only [Value.slice.injEq] at hv
    obtain ⟨rfl, rfl, rfl⟩ := hv
    refine ⟨rfl, ⟨.inr ⟨g, rfl, (Array.getElem?_eq_some_iff.1 hg).1, fun i q hi j v hv => ?_⟩⟩⟩
    have hj : j < 6 := by
      have := (Array.getElem?_eq_some_iff.1 hv).1
      exact this
    have hil : i < l.length := (List.getElem?_eq_some_iff.1 hi).1
    rw [cell_of_row w g _ cur _ _ hg]
    have h1 := flat6 l i q hi j hj
    rw [← ht, List.getElem?_take_of_lt (by omega), Array.getElem?_toList, Array.getElem?_toList] at h1
    rw [h1]
    exact hv

/-- One of the attributes, cell by cell. -/
theorem AtsRd.at_ {w : World} {a : Option Addr} {l : List At} (h : AtsRd w a l) (i : Nat) (hi : i < l.length) : ∃ g, a = some ⟨g, 0, none⟩ ∧ g < w.heap.size ∧ ∀ j v, (At.cells l[i])[j]? = some v → w.cell? ⟨g, i * 6 + j, none⟩ = some v := by
  rcases h.cells with rfl | ⟨g, ha, hg, hc⟩
  · simp at hi
  · exact ⟨g, ha, hg, hc i l[i] (List.getElem?_eq_getElem hi)⟩

set_option maxRecDepth 100000 in
set_option maxHeartbeats 1000000 in
theorem event_Check (a ca : Option Addr) (n cap cn cc : Nat) (l : List At) (R : List Nat) (w : World) (hl : AtsRd w a l) (hn : l.length = n) (h8 : n ≤ 8) (hB : AtsBytes l ⟨#[]⟩ R) (hcn : cn ≤ 200) :
    Calls Try.prog 20 #[.agg #[.slice a n cap, .slice ca cn cc]] w fun e w' => e = .returned (.int .i64 0) ∧ Below w.heap.size w w' := by
  have hcx : ∀ (a : Addr) (m : Mode) (W : World) (x y : Nat), (store a (.complex .f64 x y) m).run Try.prog W = stored Try.prog W a (.complex .f64 x y) m := fun a m W x y => run_store _ _ _ _ _ rfl
  have HL : Hid (AtsRd w a l) := hl
  have HN : Hid (l.length = n) := hn
  have HBB : Hid (AtsBytes l ⟨#[]⟩ R) := hB
  clear hl hn hB
  have h8' : ¬ (8 : Int) < (n : Int) := by omega
  have hcn' : ¬ (200 : Int) < (cn : Int) := by omega
  have HB0 : Hid (Below w.heap.size w (w.alloc (.cells #[.slice a n cap, .slice ca cn cc] 25))) := below_alloc w _
  go_enter Try.func20, Try.ntmps20
  go_wp2
  clear h8' hcn'
  go_loopw [3, 21] (fun t3 t21 wr => ∃ (k : Nat) (t : ByteArray), k ≤ n ∧ t3 = .string t ∧ t21 = .int .i64 (k : Int) ∧ Hid (∃ R', AtsBytes (l.drop k) t R') ∧ Hid (Below w.heap.size w wr)) (fun _ t21 _ => n - (intOf t21).toNat)
  case atStart => exact ⟨0, ⟨#[]⟩, by omega, rfl, rfl, ⟨R, HBB.out⟩, HB0⟩
  case round =>
    obtain ⟨k, t, hk, rfl, rfl, HE, HB⟩ := hrel
    by_cases hlt : k < n
    · have hlt' : (k : Int) < (n : Int) := by omega
      have hkl : k < l.length := by rw [HN.out]; exact hlt
      obtain ⟨g, rfl, hg, hc⟩ := (HL.out.below HB.out).at_ k hkl
      obtain ⟨R', hR⟩ := HE.out
      have HD : l.drop k = l[k] :: l.drop (k + 1) := List.drop_eq_getElem_cons hkl
      rw [HD] at hR
      generalize l[k] = q at *
      obtain ⟨qn0, v⟩ := q
      obtain ⟨l0, L, R2, h1, h2, hn2, hle, hq0, hv, hr, hRR⟩ := hR
      have hq1 : qn0 = str l0 := hq0
      subst hq1
      subst hRR
      · clear hq0
        have HV : Hid (∀ w, Calls Try.prog 33 #[.agg v.cells] w fun e w' => e = .returned (.int .i64 0) ∧ Below w.heap.size w w') := value_Check v hv.right
        have HSZ : Hid ((str l0).size ≤ maxLen) := by show _ ≤ _; rw [strSize]; unfold maxLen; omega
        have HNM : Hid (nameOk (str l0) ∧ leB (str l0) t = false) := ⟨hn2, hle⟩
        have HNX : Hid (∃ R', AtsBytes (l.drop (k + 1)) (str l0) R') := ⟨R2, hr⟩
        clear HD h1 h2 hn2 hle hv hr HE
        generalize str l0 = S at *
        obtain ⟨vk, vw, vs, vt, vx, vy⟩ := v
        have c0 : wr.cell? ⟨g, k * 6, none⟩ = some (.string S) := hc 0 _ rfl
        have c1 : wr.cell? ⟨g, k * 6 + 1, none⟩ = some (.int .i64 vk) := hc 1 _ rfl
        have c2 : wr.cell? ⟨g, k * 6 + 2, none⟩ = some (.int .i64 vw) := hc 2 _ rfl
        have c3 : wr.cell? ⟨g, k * 6 + 3, none⟩ = some (.string vs) := hc 3 _ rfl
        have c4 : wr.cell? ⟨g, k * 6 + 4, none⟩ = some (.bool vt) := hc 4 _ rfl
        have c5 : wr.cell? ⟨g, k * 6 + 5, none⟩ = some (.complex .f64 vx vy) := hc 5 _ rfl
        simp only [Val.cells] at *
        clear hc
        have HB' : Hid (Below w.heap.size w (wr.alloc (.cells #[.string S, .int .i64 vk, .int .i64 vw, .string vs, .bool vt, .complex .f64 vx vy] 51))) := HB.out.alloc HB.out.size _
        go_wp2_with fail
        refine (event_checkName S t HSZ.out _).mono ?_
        rintro e w1 ⟨⟨g1, rfl, hg1⟩, rfl⟩
        obtain rfl : g1 = 0 := by
          rcases hg1 with ⟨h, _⟩ | ⟨_, h, _⟩ | ⟨_, _, h⟩
          · exact absurd HNM.out.1 h
          · rw [HNM.out.2] at h; simp at h
          · exact h
        clear hg1
        go_wp2_with fail
        refine (HV.out _).mono ?_
        rintro e w2 ⟨rfl, hb2⟩
        have HB2 : Hid (Below w.heap.size w w2) := HB'.out.trans (hb2.mono HB'.out.size)
        have d0 : w2.cell? ⟨wr.heap.size, 0, none⟩ = some (.string S) := ((Blk.new wr _ _).stay hb2).cell 0 rfl
        clear hb2 c0 c1 c2 c3 c4 c5
        go_wp2
        go_roundw
        case rel => exact ⟨k + 1, S, by omega, rfl, by go_num, HNX, HB2⟩
        case measure => simp [intOf]; omega
    · have hnl : ¬ (k : Int) < (n : Int) := by omega
      go_wp2
      go_ret
      exact ⟨rfl, HB.out⟩
end Go.Proofs.Ytigmlhieibejoad
