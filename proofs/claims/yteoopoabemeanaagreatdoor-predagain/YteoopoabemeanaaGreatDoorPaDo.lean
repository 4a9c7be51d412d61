/- pred.parse: the deferred call, and both ways through it. -/
import Derived.Test.YteoopoabemeanaaGreatDoorRdrQ
import Derived.Recover
import Derived.Laws.Pointers
namespace Go.Proofs.YteoopoabemeanaaGreatDoor
set_option maxRecDepth 100000
open Go.RowKit

theorem catch_idle (p q : Addr) (w : World) :
    CallsD Tryz.prog 15 #[.pointer (some p), .pointer (some q)] .returning w fun e u' w' => e = .returned (.tuple #[]) ∧ u' = .returning ∧ w' = w := by
  refine callsD_of_wpS Tryz.func15 rfl fun c₀ cs hu => ?_
  apply wpS_seq
  apply wpS_region
  simp [wpOpsS, go_sem, recoverD, hu, Tryz.ntmps15, Exit.thenS]
  refine wpS_of_wp ?_
  have e0 : (#[.pointer (some p), .pointer (some q)] ++ ((Array.replicate 15 undef).setIfInBounds 3 Value.nilIface).setIfInBounds 0 Value.nilIface : Array Value) = #[.pointer (some p), .pointer (some q), .nilIface, undef, undef, .nilIface, undef, undef, undef, undef, undef, undef, undef, undef, undef, undef, undef] := by rfl
  rw [e0]
  clear e0
  go_wp2
  cases c₀
  simp_all [bodyPostS, results, Tryz.results15]

theorem catch_fault (a b : Nat) (x y : Int) (va : Value) (w : World) (m : Nat × Nat) (hab : a ≠ b) (ha : Blk w a #[va] 22) (hb : Blk w b #[.int .i64 x, .int .i64 y] 34) :
    CallsD Tryz.prog 15 #[.pointer (some ⟨a, 0, none⟩), .pointer (some ⟨b, 0, none⟩)] (.panicking [{ v := .iface 34 (.agg #[.int .i64 (m.1 : Int), .int .i64 (m.2 : Int)]), recovered := false }]) w fun e u' w' => e = .returned (.tuple #[]) ∧ u' = .panicking [{ v := .iface 34 (.agg #[.int .i64 (m.1 : Int), .int .i64 (m.2 : Int)]), recovered := true }] ∧ Blk w' a #[.slice none 0 0] 22 ∧ Blk w' b #[.int .i64 (m.1 : Int), .int .i64 (m.2 : Int)] 34 ∧ ∀ n, n ≤ a → n ≤ b → n ≤ w.heap.size → Below n w w' := by
  refine callsD_of_wpS Tryz.func15 rfl fun c₀ cs hu => ?_
  apply wpS_seq
  apply wpS_region
  simp [wpOpsS, go_sem, recoverD, hu, Tryz.ntmps15, Exit.thenS]
  refine wpS_of_wp ?_
  have e0 : (#[.pointer (some ⟨a, 0, none⟩), .pointer (some ⟨b, 0, none⟩)] ++ ((Array.replicate 15 undef).setIfInBounds 3 (.iface 34 (.agg #[.int .i64 (m.1 : Int), .int .i64 (m.2 : Int)]))).setIfInBounds 0 (.iface 34 (.agg #[.int .i64 (m.1 : Int), .int .i64 (m.2 : Int)])) : Array Value) = #[.pointer (some ⟨a, 0, none⟩), .pointer (some ⟨b, 0, none⟩), .iface 34 (.agg #[.int .i64 (m.1 : Int), .int .i64 (m.2 : Int)]), undef, undef, .iface 34 (.agg #[.int .i64 (m.1 : Int), .int .i64 (m.2 : Int)]), undef, undef, undef, undef, undef, undef, undef, undef, undef, undef, undef] := by rfl
  rw [e0]
  clear e0
  have hta : ∀ W : World, (Instr.typeAssert (.iface 34 (.agg #[.int .i64 (m.1 : Int), .int .i64 (m.2 : Int)])) 20 34 true).run Tryz.prog W = .ok (.tuple #[.agg #[.int .i64 (m.1 : Int), .int .i64 (m.2 : Int)], .bool true]) W := fun _ => by kernel_rfl
  have HA : Hid (Blk (w.alloc (.cells #[.int .i64 (m.1 : Int), .int .i64 (m.2 : Int)] 34)) a #[va] 22) := ha.stay (below_alloc w _)
  have HB : Hid (Blk (w.alloc (.cells #[.int .i64 (m.1 : Int), .int .i64 (m.2 : Int)] 34)) b #[.int .i64 x, .int .i64 y] 34) := hb.stay (below_alloc w _)
  have hal := ha.lt
  have hbl := hb.lt
  have HU : Hid (c₀.mode = FrameMode.panicking [{ v := .iface 34 (.agg #[.int .i64 (m.1 : Int), .int .i64 (m.2 : Int)]), recovered := false }]) := hu
  clear ha hb hu
  go_wp2
  obtain ⟨W, HW⟩ : ∃ W, Hid (W = w.alloc (.cells #[.int .i64 (m.1 : Int), .int .i64 (m.2 : Int)] 34)) := ⟨_, rfl⟩
  have HN : Hid (Blk W w.heap.size #[.int .i64 (m.1 : Int), .int .i64 (m.2 : Int)] 34) := by show Blk _ _ _ _; rw [HW.out]; exact Blk.new w _ _
  have HBW : Hid (Below w.heap.size w W) := by show Below _ _ _; rw [HW.out]; exact below_alloc w _
  rw [← HW.out] at HA HB ⊢
  have n0 : W.cell? ⟨w.heap.size, 0, none⟩ = some (.int .i64 (m.1 : Int)) := HN.out.cell 0 rfl
  have n1 : W.cell? ⟨w.heap.size, 1, none⟩ = some (.int .i64 (m.2 : Int)) := HN.out.cell 1 rfl
  have a0 : W.cell? ⟨a, 0, none⟩ = some va := HA.out.cell 0 rfl
  have b0 : W.cell? ⟨b, 0, none⟩ = some (.int .i64 x) := HB.out.cell 0 rfl
  have b1 : W.cell? ⟨b, 1, none⟩ = some (.int .i64 y) := HB.out.cell 1 rfl
  have fa0 := HA.out.free 0
  have fb0 := HB.out.free 0
  have fb1 := HB.out.free 1
  have k1 : ¬ a = w.heap.size := by omega
  have k2 : ¬ b = w.heap.size := by omega
  have k3 : ¬ w.heap.size = a := by omega
  have k4 : ¬ w.heap.size = b := by omega
  have k5 : ¬ b = a := fun h => hab h.symm
  clear HW
  go_region
  all_goals
    refine ⟨rfl, _, rfl, _, results_none rfl _ _ _, rfl, rfl, ?_, ?_, ?_⟩
    · exact ((HA.out.set 0 _).other _ _ (by simpa using hab)).other _ _ (by simpa using hab)
    · exact (((HB.out.other _ _ (by simpa using k5)).set 0 _).set 1 _)
    · intro n h1 h2 h3
      exact ((((HBW.out.mono h3).setCell h1 _).setCell h2 _).setCell h2 _).drew

/-- Enough rounds for a text. -/
def fuel (T : ByteArray) : Nat := 8 * T.size + 20

theorem results_parse {w : World} {tmps : Array Value} {a b : Nat} {va x y : Value} (h2 : tmps[2]?.getD undef = .pointer (some ⟨a, 0, none⟩)) (h3 : tmps[3]?.getD undef = .pointer (some ⟨b, 0, none⟩))
    (ka : Blk w a #[va] 22) (kb : Blk w b #[x, y] 34) : (results Tryz.f10 tmps).run Tryz.prog w = .ok (.tuple #[va, .agg #[x, y]]) w := by
  have k0 := ka.cell 0 rfl
  have k1 := kb.cell 0 rfl
  have k2 := kb.cell 1 rfl
  simp [results, Tryz.results10, go_sem, h2, h3, k0, k1, k2]

/-- What parse tells. -/
def AfterP (w : World) (R : Res) (e : Ending) (w' : World) : Prop := match R with
  | .ok s => ∃ v, e = .returned (.tuple #[v, .agg #[.int .i64 0, .int .i64 0]]) ∧ Tms w' w.heap.size v s.terms ∧ Below w.heap.size w w'
  | .error m => e = .returned (.tuple #[.slice none 0 0, .agg #[.int .i64 (m.1 : Int), .int .i64 (m.2 : Int)]]) ∧ Below w.heap.size w w'

/-- The door behind a fault. -/
theorem parse_door (w W : World) (tmps : Array Value) (m : Nat × Nat) (h2 : tmps[2]?.getD undef = .pointer (some ⟨w.heap.size, 0, none⟩)) (h3 : tmps[3]?.getD undef = .pointer (some ⟨w.heap.size + 1, 0, none⟩))
    (ka : Blk W w.heap.size #[.slice none 0 0] 22) (kb : Blk W (w.heap.size + 1) #[.int .i64 0, .int .i64 0] 34) (hb : Below w.heap.size w W) :
    bodyPostD Tryz.prog Tryz.f10 (fun e w' => AfterP w (.error m) e w') (.panic [{ v := .iface 34 (.agg #[.int .i64 (m.1 : Int), .int .i64 (m.2 : Int)]), recovered := false }])
      { tmps := tmps, defers := [{ target := Target.fn (Fn.func 15) #[.pointer (some ⟨w.heap.size, 0, none⟩), .pointer (some ⟨w.heap.size + 1, 0, none⟩)], args := #[] }] } W := by
  refine leaves_cons (f := 15) (args := #[.pointer (some ⟨w.heap.size, 0, none⟩), .pointer (some ⟨w.heap.size + 1, 0, none⟩)]) (by simp) (by simp [go_sem]) ?_
  refine (catch_fault w.heap.size (w.heap.size + 1) 0 0 _ W m (by omega) ka kb).mono ?_
  rintro e u' w'' ⟨rfl, rfl, ka', kb', hn⟩
  exact ⟨_, results_parse h2 h3 ka' kb', rfl, hb.trans (hn _ (Nat.le_refl _) (by omega) hb.size)⟩

set_option maxHeartbeats 2000000 in
theorem parse_any {F : Lex} {T : ByteArray} (HW : Words F T) (hF : LexOk F T.size) (hT : T.size ≤ 300) (nf : Nat) (hnf : fuel T ≤ nf) (w : World) (hv : Vars w) :
    Calls Tryz.prog 10 #[.string T] w fun e w' => AfterP w (parseM F nf) e w' := by
  have hmf : ∀ (fn : Fn) (first cap : Array Value) (w : World), (Instr.makeFunc fn first cap).run Tryz.prog w = .ok (.func fn first cap) w := fun _ _ _ _ => rfl
  have HX : Hid (Words F T) := HW
  obtain ⟨W0, HW0⟩ : ∃ W0, Hid (W0 = ((w.alloc (.cells #[.slice none 0 0] 22)).alloc (.cells #[.int .i64 0, .int .i64 0] 34)).alloc (.cells #[.string T, .int .i64 0, .int .i64 0, .int .i64 0, .string ⟨#[]⟩, .int .i64 0, .int .i64 0, .slice none 0 0] 65)) := ⟨_, rfl⟩
  have e1 : (w.alloc (.cells #[.slice none 0 0] 22)).heap.size = w.heap.size + 1 := by simp
  have e2 : ((w.alloc (.cells #[.slice none 0 0] 22)).alloc (.cells #[.int .i64 0, .int .i64 0] 34)).heap.size = w.heap.size + 1 + 1 := by simp
  have HB0 : Hid (Below w.heap.size w W0) := by show Below _ _ _; rw [HW0.out]; exact ((below_alloc w _).alloc (by omega) _).alloc (by omega) _
  have HA0 : Hid (Blk W0 w.heap.size #[.slice none 0 0] 22) := by show Blk _ _ _ _; rw [HW0.out]; exact ((Blk.new w _ _).stay (below_alloc _ _)).stay (below_alloc _ _)
  have HC0 : Hid (Blk W0 (w.heap.size + 1) #[.int .i64 0, .int .i64 0] 34) := by
    show Blk _ _ _ _
    rw [HW0.out]
    have := (Blk.new (w.alloc (.cells #[.slice none 0 0] 22)) #[.int .i64 0, .int .i64 0] 34).stay (below_alloc _ (.cells #[.string T, .int .i64 0, .int .i64 0, .int .i64 0, .string ⟨#[]⟩, .int .i64 0, .int .i64 0, .slice none 0 0] 65))
    rw [e1] at this
    exact this
  have HR0 : Hid (Rdr W0 (w.heap.size + 1 + 1) T start (.slice none 0 0)) := by
    refine ⟨?_, Tms.nil_ _ _, by have := hv.lt; omega, hv.stay HB0.out⟩
    show Blk _ _ _ _
    rw [HW0.out]
    have := Blk.new ((w.alloc (.cells #[.slice none 0 0] 22)).alloc (.cells #[.int .i64 0, .int .i64 0] 34)) #[.string T, .int .i64 0, .int .i64 0, .int .i64 0, .string ⟨#[]⟩, .int .i64 0, .int .i64 0, .slice none 0 0] 65
    rw [e2] at this
    exact this
  clear HW e1 e2
  unfold parseM
  rcases ha : F 0 with m | ⟨wd, k⟩
  · have HF : Hid (F 0 = .error m) := ha
    have e : adv F start = .error m := by unfold adv; show (match F 0 with | .ok (w, k) => _ | .error m => _) = _; rw [ha]
    rw [e]
    clear ha e
    show Calls _ _ _ _ fun e w' => AfterP w (.error m) e w'
    go_enter_defers Tryz.func10, Tryz.ntmps10
    go_wp2_with fail
    rw [← HW0.out]
    refine (reader_advance_err HX.out _ HR0.out (Nat.zero_le _) HF.out).mono ?_
    rintro e w1 ⟨rfl, hb⟩
    exact parse_door w w1 _ m rfl rfl (HA0.out.stay hb) (HC0.out.stay hb) (HB0.out.trans (hb.mono HB0.out.size))
  · have HF : Hid (F 0 = .ok (wd, k)) := ha
    have e : adv F start = .ok ⟨k, wd, []⟩ := by unfold adv; show (match F 0 with | .ok (w, k) => _ | .error m => _) = _; rw [ha]; rfl
    obtain ⟨q1, q2, _⟩ := adv_dn hF (Nat.zero_le _) e
    rw [e]
    clear ha e
    show Calls _ _ _ _ fun e w' => AfterP w (andThen (runM F nf 0 ⟨k, wd, []⟩) fun s1 => needM F 0 s1) e w'
    obtain ⟨s, hs⟩ : ∃ s : St, s = ⟨k, wd, []⟩ := ⟨_, rfl⟩
    rw [← hs] at q1 q2 ⊢
    have q3 : left T.size s ≤ T.size := q2
    have hst : s.terms = [] := by rw [hs]
    have HS : Hid (s = ⟨k, wd, []⟩) := hs
    have HRU : Hid (∀ w v, Rdr w (W0.heap.size - 1) T s v → Calls Tryz.prog 17 #[.pointer (some ⟨W0.heap.size - 1, 0, none⟩)] w fun e w' => AfterU (W0.heap.size - 1) T w (runM F nf 0 s) e w') := fun w v hr => run_ok HX.out hF nf nf (Nat.le_refl _) 0 _ _ s v w (.inl ⟨rfl, rfl, by have h9 := hnf; unfold fuel at h9; omega⟩) hr q1 (by rw [hst]; simp; omega)
    have hg : W0.heap.size - 1 = w.heap.size + 1 + 1 := by rw [HW0.out]; simp
    rw [hg] at HRU
    clear hs q2 q3 hst hg hnf
    rcases hu : runM F nf 0 s with m | s1
    · show Calls _ _ _ _ fun e w' => AfterP w (.error m) e w'
      rw [hu] at HRU
      clear hu
      go_enter_defers Tryz.func10, Tryz.ntmps10
      go_wp2_with fail
      rw [← HW0.out]
      refine (reader_advance HX.out _ HR0.out (Nat.zero_le _) HF.out).mono ?_
      rintro e w1 ⟨rfl, hr1, hk1⟩
      have HR1 : Hid (Rdr w1 (w.heap.size + 1 + 1) T s (.slice none 0 0)) := by show Rdr _ _ _ _ _; rw [HS.out]; exact hr1
      have HB1 : Hid (Below (w.heap.size + 1 + 1) W0 w1) := hk1.below
      clear hr1 hk1
      unfold nothing
      go_wp2_with fail
      refine (HRU.out _ _ HR1.out).mono ?_
      rintro e w2 ⟨rfl, hb⟩
      have hb2 := HB1.out.trans hb
      exact parse_door w w2 _ m rfl rfl (HA0.out.below hb2 (by omega)) (HC0.out.below hb2 (by omega)) (HB0.out.trans (hb2.mono (by omega)))
    · show Calls _ _ _ _ fun e w' => AfterP w (needM F 0 s1) e w'
      have h1 : s1.here ≤ T.size := (runM_dn hF _ 0 q1 hu).here
      rw [hu] at HRU
      clear hu
      rcases he : needM F 0 s1 with m | s2
      · have HE : Hid (needM F 0 s1 = .error m) := he
        clear he
        go_enter_defers Tryz.func10, Tryz.ntmps10
        go_wp2_with fail
        rw [← HW0.out]
        refine (reader_advance HX.out _ HR0.out (Nat.zero_le _) HF.out).mono ?_
        rintro e w1 ⟨rfl, hr1, hk1⟩
        have HR1 : Hid (Rdr w1 (w.heap.size + 1 + 1) T s (.slice none 0 0)) := by show Rdr _ _ _ _ _; rw [HS.out]; exact hr1
        have HB1 : Hid (Below (w.heap.size + 1 + 1) W0 w1) := hk1.below
        clear hr1 hk1
        unfold nothing
        go_wp2_with fail
        refine (HRU.out _ _ HR1.out).mono ?_
        rintro e w2 ⟨rfl, ⟨v2, hr2⟩, hb2⟩
        have HR2 : Hid (Rdr w2 (w.heap.size + 1 + 1) T s1 v2) := hr2
        have HB2 : Hid (Below (w.heap.size + 1 + 1) W0 w2) := HB1.out.trans hb2
        clear hr2 hb2
        unfold nothing
        go_wp2_with fail
        refine (need_bad HX.out 0 _ HR2.out h1 HE.out).mono ?_
        rintro e w3 ⟨rfl, hb3⟩
        have hb4 := HB2.out.trans (hb3.mono (Nat.le_of_lt HR2.out.lt))
        exact parse_door w w3 _ m rfl rfl (HA0.out.below hb4 (by omega)) (HC0.out.below hb4 (by omega)) (HB0.out.trans (hb4.mono (by omega)))
      · have HE : Hid (needM F 0 s1 = .ok s2) := he
        clear he
        go_enter_defers Tryz.func10, Tryz.ntmps10
        go_wp2_with fail
        rw [← HW0.out]
        refine (reader_advance HX.out _ HR0.out (Nat.zero_le _) HF.out).mono ?_
        rintro e w1 ⟨rfl, hr1, hk1⟩
        have HR1 : Hid (Rdr w1 (w.heap.size + 1 + 1) T s (.slice none 0 0)) := by show Rdr _ _ _ _ _; rw [HS.out]; exact hr1
        have HB1 : Hid (Below (w.heap.size + 1 + 1) W0 w1) := hk1.below
        clear hr1 hk1
        unfold nothing
        go_wp2_with fail
        refine (HRU.out _ _ HR1.out).mono ?_
        rintro e w2 ⟨rfl, ⟨v2, hr2⟩, hb2⟩
        have HR2 : Hid (Rdr w2 (w.heap.size + 1 + 1) T s1 v2) := hr2
        have HB2 : Hid (Below (w.heap.size + 1 + 1) W0 w2) := HB1.out.trans hb2
        clear hr2 hb2
        unfold nothing
        go_wp2_with fail
        refine (need_ok HX.out 0 _ HR2.out h1 HE.out).mono ?_
        rintro e w3 ⟨rfl, hr3, hk3⟩
        have HR3 : Hid (Rdr w3 (w.heap.size + 1 + 1) T s2 v2) := hr3
        have HB3 : Hid (Below (w.heap.size + 1 + 1) W0 w3) := HB2.out.trans hk3.below
        have HA3 : Hid (Blk w3 w.heap.size #[.slice none 0 0] 22) := HA0.out.below HB3.out (by omega)
        have HC3 : Hid (Blk w3 (w.heap.size + 1) #[.int .i64 0, .int .i64 0] 34) := HC0.out.below HB3.out (by omega)
        have HBW3 : Hid (Below w.heap.size w w3) := HB0.out.trans (HB3.out.mono (by omega))
        clear hr3 hk3
        obtain ⟨va, vn, vc, rfl⟩ := HR3.out.tms.form3
        have r7 : w3.cell? ⟨w.heap.size + 1 + 1, 7, none⟩ = some (.slice va vn vc) := HR3.out.blk.cell 7 rfl
        have a0 : w3.cell? ⟨w.heap.size, 0, none⟩ = some (.slice none 0 0) := HA3.out.cell 0 rfl
        have b0 : w3.cell? ⟨w.heap.size + 1, 0, none⟩ = some (.int .i64 0) := HC3.out.cell 0 rfl
        have b1 : w3.cell? ⟨w.heap.size + 1, 1, none⟩ = some (.int .i64 0) := HC3.out.cell 1 rfl
        have fa := HA3.out.free 0
        have fb := HC3.out.free 0
        have fc := HC3.out.free 1
        go_wp2
        refine leaves_cons (f := 15) (args := #[.pointer (some ⟨w.heap.size, 0, none⟩), .pointer (some ⟨w.heap.size + 1, 0, none⟩)]) (by simp) (by simp [go_sem]) ?_
        refine (catch_idle _ _ _).mono ?_
        rintro e u' w'' ⟨rfl, rfl, rfl⟩
        refine ⟨_, results_parse rfl rfl (((HA3.out.set 0 _).other _ _ (by simp)).other _ _ (by simp)) (((HC3.out.other _ _ (by simp)).set 0 _).set 1 _), _, rfl, ?_, ?_⟩
        · exact (((HR3.out.tms.under _ _ (by dsimp only; omega)).under _ _ (by dsimp only; omega)).under _ _ (by dsimp only; omega)).lower (by omega)
        · exact ((HBW3.out.setCell (Nat.le_refl _) _).setCell (by simp) _).setCell (by simp) _
end Go.Proofs.YteoopoabemeanaaGreatDoor
