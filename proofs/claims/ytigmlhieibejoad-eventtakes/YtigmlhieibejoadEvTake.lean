/- event.takeAttr: the attribute at a place. -/
import Derived.Test.YtigmlhieibejoadEvM
import Derived.Test.YtigmlhieibejoadBlk
namespace Go.Proofs.Ytigmlhieibejoad
open Go.RowKit

def toldA (r : At × Nat × Nat) : Ending := .returned (.tuple #[.agg r.1.cells, .int .i64 (r.2.1 : Int), .int .i64 (r.2.2 : Int)])

theorem results_attr {w : World} {tmps : Array Value} {g : Nat} {t : TypeId} {v0 v1 v2 v3 v4 v5 n f : Value} (h4 : tmps[6]?.getD undef = .pointer (some ⟨g, 0, none⟩)) (h5 : tmps[7]?.getD undef = n) (h6 : tmps[8]?.getD undef = f)
    (k : Blk w g #[v0, v1, v2, v3, v4, v5] t) : (results Try.f25 tmps).run Try.prog w = .ok (.tuple #[.agg #[v0, v1, v2, v3, v4, v5], n, f]) w := by
  have k0 := k.cell 0 rfl
  have k1 := k.cell 1 rfl
  have k2 := k.cell 2 rfl
  have k3 := k.cell 3 rfl
  have k4 := k.cell 4 rfl
  have k5 := k.cell 5 rfl
  simp [results, Try.results25, go_sem, h4, h5, h6, k0, k1, k2, k3, k4, k5]

/-- Six cells of one block, written one behind the other. -/
theorem Blk.set6 {w : World} {g : Nat} {t : TypeId} {u0 u1 u2 u3 u4 u5 : Value} (h : Blk w g #[u0, u1, u2, u3, u4, u5] t) (v0 v1 v2 v3 v4 v5 : Value) : Blk ((((((w.setCell ⟨g, 0, none⟩ v0).setCell ⟨g, 1, none⟩ v1).setCell ⟨g, 2, none⟩ v2).setCell ⟨g, 3, none⟩ v3).setCell ⟨g, 4, none⟩ v4).setCell ⟨g, 5, none⟩ v5) g #[v0, v1, v2, v3, v4, v5] t :=
  (((((h.set 0 v0).set 1 v1).set 2 v2).set 3 v3).set 4 v4).set 5 v5

set_option maxRecDepth 100000 in
set_option maxHeartbeats 1000000 in
theorem event_takeAttr (a : Option Addr) (len cap : Nat) (bs : List Nat) (p : Nat) (t : ByteArray) (w : World) (hr : Rd w a len bs) (hlc : len ≤ cap) (hl : len ≤ 9223372036854775000) (hp : p ≤ len) :
    Calls Try.prog 25 #[.slice a len cap, .int .i64 (p : Int), .string t] w fun e w' => e = toldA (attrAt bs p t) ∧ Below w.heap.size w w' := by
  have hcx : ∀ (a : Addr) (m : Mode) (W : World) (x y : Nat), (store a (.complex .f64 x y) m).run Try.prog W = stored Try.prog W a (.complex .f64 x y) m := fun a m W x y => run_store _ _ _ _ _ rfl
  have HR : Hid (Rd w a len bs) := hr
  obtain ⟨l, k, f, hT⟩ : ∃ l k f, textAt bs (p : Int) = (l, k, f) := ⟨_, _, _, rfl⟩
  have HT : Hid (textAt bs (p : Int) = (l, k, f)) := hT
  obtain ⟨S, HSS⟩ : ∃ S, Hid (str l = S) := ⟨_, rfl⟩
  clear hr hT
  have HCT : Hid (Calls Try.prog 37 #[.slice a len cap, .int .i64 (p : Int)] (w.alloc (.cells At.zero.cells 51)) fun e w' => e = .returned (.tuple #[.string S, .int .i64 (k : Int), .int .i64 (f : Int)]) ∧ w' = w.alloc (.cells At.zero.cells 51)) := by
    have h := octet_TakeText a len cap bs (p : Int) (w.alloc (.cells At.zero.cells 51)) (HR.out.below (below_alloc w _)) hlc hl (by omega)
    rw [HT.out, toldT, HSS.out] at h
    exact h
  simp only [At.cells, At.zero, Val.zero] at HCT
  by_cases hf : f = 0
  · subst hf
    obtain ⟨hsl, hkl⟩ := textAt_small HR.out.byte HT.out
    rw [HR.out.size] at hkl
    have HSZ : Hid (S.size ≤ maxLen) := by show _ ≤ _; rw [← HSS.out, strSize]; unfold maxLen; omega
    go_enter Try.func25, Try.ntmps25
    go_wp2_with fail
    refine HCT.out.mono ?_
    rintro e w1 ⟨rfl, rfl⟩
    go_wp2_with fail
    refine (event_checkName S t HSZ.out _).mono ?_
    rintro e w1 ⟨⟨g, rfl, hg⟩, rfl⟩
    rcases hg with ⟨hn, rfl⟩ | ⟨hn, hle, rfl⟩ | ⟨hn, hle, rfl⟩
    · have HE : Hid (attrAt bs p t = (At.zero, 0, 11)) := attrAt_name HT.out (by rw [HSS.out]; exact hn)
      clear hn
      go_wp2
      go_returns
      exact ⟨by rw [HE.out]; rfl, below_alloc w _⟩
    · have HE : Hid (attrAt bs p t = (At.zero, 0, 4)) := attrAt_form HT.out (by rw [HSS.out]; exact hn) (by rw [HSS.out]; exact hle)
      clear hn hle
      go_wp2
      go_returns
      exact ⟨by rw [HE.out]; rfl, below_alloc w _⟩
    · have HN : Hid (nameOk (str l)) := by show nameOk _; rw [HSS.out]; exact hn
      have HL : Hid (leB (str l) t = false) := by show _ = _; rw [HSS.out]; exact hle
      clear hn hle
      obtain ⟨v, j, g, hV⟩ : ∃ v j g, valAt bs (k : Int) = (v, j, g) := ⟨_, _, _, rfl⟩
      have HV : Hid (valAt bs (k : Int) = (v, j, g)) := hV
      clear hV
      go_wp2_with fail
      refine (value_Take a len cap bs (k : Int) _ (HR.out.below (below_alloc w _)) hlc hl (by omega)).mono ?_
      rw [HV.out]
      rintro e w1 ⟨rfl, hb1⟩
      have HB1 : Hid (Below w.heap.size w w1) := (below_alloc w _).trans (hb1.mono (by simp))
      have HK : Hid (Blk w1 w.heap.size #[.string ⟨#[]⟩, .int .i64 0, .int .i64 0, .string ⟨#[]⟩, .bool false, .complex .f64 0 0] 51) := (Blk.new w _ _).stay hb1
      clear hb1
      obtain ⟨vk, vw, vs, vt, vx, vy⟩ := v
      simp only [toldV, Val.cells]
      have HA : Hid (Blk (w1.alloc (.cells #[.int .i64 vk, .int .i64 vw, .string vs, .bool vt, .complex .f64 vx vy] 49)) w.heap.size #[.string ⟨#[]⟩, .int .i64 0, .int .i64 0, .string ⟨#[]⟩, .bool false, .complex .f64 0 0] 51) := HK.out.stay (below_alloc w1 _)
      have HBA : Hid (Below w.heap.size w (w1.alloc (.cells #[.int .i64 vk, .int .i64 vw, .string vs, .bool vt, .complex .f64 vx vy] 49))) := HB1.out.alloc HB1.out.size _
      have c0 := HA.out.cell 0 rfl
      have c1 := HA.out.cell 1 rfl
      have c2 := HA.out.cell 2 rfl
      have c3 := HA.out.cell 3 rfl
      have c4 := HA.out.cell 4 rfl
      have c5 := HA.out.cell 5 rfl
      have f0 := HA.out.free 0
      have f1 := HA.out.free 1
      have f2 := HA.out.free 2
      have f3 := HA.out.free 3
      have f4 := HA.out.free 4
      have f5 := HA.out.free 5
      by_cases hg : g = 0
      · subst hg
        have HE : Hid (attrAt bs p t = ((S, ⟨vk, vw, vs, vt, vx, vy⟩), j, 0)) := by show _ = _; rw [attrAt_ok HT.out HN.out HL.out HV.out, HSS.out]
        go_wp2
        try simp only [Exit.inBlock, Exit.then]
        refine bodyPost_ret (results_attr (by rfl) (by rfl) (by rfl) (HA.out.set6 _ _ _ _ _ _)) rfl ?_
        refine ⟨by rw [HE.out]; rfl, ?_⟩
        exact (((((HBA.out.setCell (Nat.le_refl _) _).setCell (Nat.le_refl _) _).setCell (Nat.le_refl _) _).setCell (Nat.le_refl _) _).setCell (Nat.le_refl _) _).setCell (Nat.le_refl _) _
      · have hg' : (g : Int) ≠ 0 := by omega
        have HE : Hid (attrAt bs p t = (At.zero, 0, g)) := attrAt_value HT.out HN.out HL.out HV.out hg
        go_wp2
        try simp only [Exit.inBlock, Exit.then]
        refine bodyPost_ret (results_attr (by rfl) (by rfl) (by rfl) (HA.out.set6 _ _ _ _ _ _)) rfl ?_
        refine ⟨by rw [HE.out]; rfl, ?_⟩
        exact (((((HBA.out.setCell (Nat.le_refl _) _).setCell (Nat.le_refl _) _).setCell (Nat.le_refl _) _).setCell (Nat.le_refl _) _).setCell (Nat.le_refl _) _).setCell (Nat.le_refl _) _
  · have hf' : (f : Int) ≠ 0 := by omega
    have HE : Hid (attrAt bs p t = (At.zero, 0, f)) := attrAt_text HT.out hf
    go_enter Try.func25, Try.ntmps25
    go_wp2_with fail
    refine HCT.out.mono ?_
    rintro e w1 ⟨rfl, rfl⟩
    go_wp2
    go_returns
    exact ⟨by rw [HE.out]; rfl, below_alloc w _⟩
end Go.Proofs.Ytigmlhieibejoad
