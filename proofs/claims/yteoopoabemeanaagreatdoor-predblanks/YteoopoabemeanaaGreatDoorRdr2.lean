/- The reader's pass, need, needSign, add. -/
import Derived.Test.YteoopoabemeanaaGreatDoorRdr
import Derived.OneCell
namespace Go.Proofs.YteoopoabemeanaaGreatDoor
set_option maxRecDepth 100000
open Go.RowKit

theorem results_word {f : Func} {w : World} {tmps : Array Value} {g i : Nat} {t : TypeId} {wd : Wd} (hf : f.results = #[.cell i 63]) (h4 : tmps[i]?.getD undef = .pointer (some ⟨g, 0, none⟩))
    (k : Blk w g wd.cells t) : (results f tmps).run Tryz.prog w = .ok (.agg wd.cells) w := by
  have k0 : w.cell? ⟨g, 0, none⟩ = some (.int .i64 (wd.kind : Int)) := k.cell 0 rfl
  have k1 : w.cell? ⟨g, 1, none⟩ = some (.int .i64 (wd.place : Int)) := k.cell 1 rfl
  have k2 : w.cell? ⟨g, 2, none⟩ = some (.string wd.text) := k.cell 2 rfl
  have k3 : w.cell? ⟨g, 3, none⟩ = some (.int .i64 wd.n) := k.cell 3 rfl
  have k4 : w.cell? ⟨g, 4, none⟩ = some (.int .i64 (wd.late : Int)) := k.cell 4 rfl
  simp [results, hf, go_sem, h4, k0, k1, k2, k3, k4, Wd.cells]
theorem Blk.setW {w : World} {g : Nat} {t : TypeId} {u0 u1 u2 u3 u4 : Value} (h : Blk w g #[u0, u1, u2, u3, u4] t) (v0 v1 v2 v3 v4 : Value) : Blk (((((w.setCell ⟨g, 0, none⟩ v0).setCell ⟨g, 1, none⟩ v1).setCell ⟨g, 2, none⟩ v2).setCell ⟨g, 3, none⟩ v3).setCell ⟨g, 4, none⟩ v4) g #[v0, v1, v2, v3, v4] t :=
  ((((h.set 0 v0).set 1 v1).set 2 v2).set 3 v3).set 4 v4

theorem Tms.other {w : World} {base : Nat} {v : Value} {l : List Tm} (h : Tms w base v l) (a : Addr) (u : Value) (ha : v.ownBlock ≠ some a.block) : Tms (w.setCell a u) base v l := ⟨ownsRow_setCell_other h.row ha u⟩
theorem Rdr.other {w : World} {g : Nat} {T : ByteArray} {s : St} {v : Value} (h : Rdr w g T s v) (a : Addr) (u : Value) (ha : g < a.block ∧ v.ownBlock ≠ some a.block) : Rdr (w.setCell a u) g T s v := ⟨h.blk.other a u (Nat.ne_of_lt ha.1), h.tms.other a u ha.2, h.big, h.vars.set a u (by have := h.big; omega)⟩

theorem reader_pass_late {T : ByteArray} {g : Nat} {s : St} {v : Value} (w : World) (h : Rdr w g T s v) (hl : s.next.late ≠ 0) :
    Calls Tryz.prog 29 #[.pointer (some ⟨g, 0, none⟩)] w fun e w' => e = thrown (s.next.place, s.next.late) ∧ Below w.heap.size w w' := by
  have HR : Hid (Rdr w g T s v) := h
  have hgl := h.lt
  have hl' : ((s.next.late : Int) != 0) = true := by simpa using hl
  have c2 : w.cell? ⟨g, 2, none⟩ = some (.int .i64 (s.next.kind : Int)) := h.blk.cell 2 rfl
  have c3 : w.cell? ⟨g, 3, none⟩ = some (.int .i64 (s.next.place : Int)) := h.blk.cell 3 rfl
  have c4 : w.cell? ⟨g, 4, none⟩ = some (.string s.next.text) := h.blk.cell 4 rfl
  have c5 : w.cell? ⟨g, 5, none⟩ = some (.int .i64 s.next.n) := h.blk.cell 5 rfl
  have c6 : w.cell? ⟨g, 6, none⟩ = some (.int .i64 (s.next.late : Int)) := h.blk.cell 6 rfl
  clear h
  go_enter Tryz.func29, Tryz.ntmps29
  go_wp2_with fail
  refine (reader_wrong g T s v s.next.late _ (HR.out.stay ((below_alloc w _).alloc (by simp) _))).mono ?_
  rintro e w1 ⟨rfl, hb1⟩
  go_wp2
  exact ⟨rfl, rfl, ((below_alloc w _).alloc (by simp) _).trans (hb1.mono (by simp; omega))⟩

theorem reader_pass_err {F : Lex} {T : ByteArray} (HW : Words F T) {g : Nat} {s : St} {v : Value} {m : Nat × Nat} (w : World) (h : Rdr w g T s v) (hs : s.here ≤ T.size) (hl : s.next.late = 0) (hf : F s.here = .error m) :
    Calls Tryz.prog 29 #[.pointer (some ⟨g, 0, none⟩)] w fun e w' => e = thrown m ∧ Below w.heap.size w w' := by
  have HR : Hid (Rdr w g T s v) := h
  have HX : Hid (Words F T) := HW
  have HF : Hid (F s.here = .error m) := hf
  have hgl := h.lt
  have hl' : ((s.next.late : Int) != 0) = false := by rw [hl]; rfl
  have c2 : w.cell? ⟨g, 2, none⟩ = some (.int .i64 (s.next.kind : Int)) := h.blk.cell 2 rfl
  have c3 : w.cell? ⟨g, 3, none⟩ = some (.int .i64 (s.next.place : Int)) := h.blk.cell 3 rfl
  have c4 : w.cell? ⟨g, 4, none⟩ = some (.string s.next.text) := h.blk.cell 4 rfl
  have c5 : w.cell? ⟨g, 5, none⟩ = some (.int .i64 s.next.n) := h.blk.cell 5 rfl
  have c6 : w.cell? ⟨g, 6, none⟩ = some (.int .i64 (s.next.late : Int)) := h.blk.cell 6 rfl
  clear h hf HW hl
  go_enter Tryz.func29, Tryz.ntmps29
  go_wp2_with fail
  refine (reader_advance_err HX.out _ (HR.out.stay ((below_alloc w _).alloc (by simp) _)) hs HF.out).mono ?_
  rintro e w1 ⟨rfl, hb1⟩
  exact ⟨rfl, rfl, ((below_alloc w _).alloc (by simp) _).trans (hb1.mono (by simp; omega))⟩

theorem reader_pass {F : Lex} {T : ByteArray} (HW : Words F T) {g : Nat} {s : St} {v : Value} {wd : Wd} {k : Nat} (w : World) (h : Rdr w g T s v) (hs : s.here ≤ T.size) (hl : s.next.late = 0) (hf : F s.here = .ok (wd, k)) :
    Calls Tryz.prog 29 #[.pointer (some ⟨g, 0, none⟩)] w fun e w' => e = .returned (.agg s.next.cells) ∧ Rdr w' g T ⟨k, wd, s.terms⟩ v ∧ Kept g v w v w' := by
  have HR : Hid (Rdr w g T s v) := h
  have HX : Hid (Words F T) := HW
  have HF : Hid (F s.here = .ok (wd, k)) := hf
  have hgl := h.lt
  have hl' : ((s.next.late : Int) != 0) = false := by rw [hl]; rfl
  have c2 : w.cell? ⟨g, 2, none⟩ = some (.int .i64 (s.next.kind : Int)) := h.blk.cell 2 rfl
  have c3 : w.cell? ⟨g, 3, none⟩ = some (.int .i64 (s.next.place : Int)) := h.blk.cell 3 rfl
  have c4 : w.cell? ⟨g, 4, none⟩ = some (.string s.next.text) := h.blk.cell 4 rfl
  have c5 : w.cell? ⟨g, 5, none⟩ = some (.int .i64 s.next.n) := h.blk.cell 5 rfl
  have c6 : w.cell? ⟨g, 6, none⟩ = some (.int .i64 (s.next.late : Int)) := h.blk.cell 6 rfl
  clear h hf HW hl
  go_enter Tryz.func29, Tryz.ntmps29
  go_wp2_with fail
  obtain ⟨W0, HW0⟩ : ∃ W0, Hid (W0 = (w.alloc (.cells #[.int .i64 0, .int .i64 0, .string ⟨#[]⟩, .int .i64 0, .int .i64 0] 63)).alloc (.cells s.next.cells 63)) := ⟨_, rfl⟩
  have HB0 : Hid (Below w.heap.size w W0) := by show Below _ _ _; rw [HW0.out]; exact (below_alloc w _).alloc (by simp) _
  have HR0 : Hid (Rdr W0 g T s v) := HR.out.stay HB0.out
  have HK0 : Hid (Blk W0 w.heap.size #[.int .i64 0, .int .i64 0, .string ⟨#[]⟩, .int .i64 0, .int .i64 0] 63) := by show Blk _ _ _ _; rw [HW0.out]; exact (Blk.new w _ _).stay (below_alloc _ _)
  have HK1 : Hid (Blk W0 (w.heap.size + 1) s.next.cells 63) := by
    show Blk _ _ _ _
    rw [HW0.out]
    have := Blk.new (w.alloc (.cells #[.int .i64 0, .int .i64 0, .string ⟨#[]⟩, .int .i64 0, .int .i64 0] 63)) s.next.cells 63
    simpa using this
  change Calls _ _ _ ((w.alloc (.cells #[.int .i64 0, .int .i64 0, .string ⟨#[]⟩, .int .i64 0, .int .i64 0] 63)).alloc (.cells s.next.cells 63)) _
  rw [← HW0.out]
  refine (reader_advance HX.out W0 HR0.out hs HF.out).mono ?_
  rintro e w2 ⟨rfl, hr2, hk2⟩
  obtain ⟨n1', n2⟩ := HR.out.new (Nat.le_refl w.heap.size)
  have n1 := Nat.ne_of_gt n1'
  obtain ⟨n3', n4⟩ := HR.out.new (Nat.le_succ w.heap.size)
  have n3 := Nat.ne_of_gt n3'
  have HK0' : Hid (Blk w2 w.heap.size #[.int .i64 0, .int .i64 0, .string ⟨#[]⟩, .int .i64 0, .int .i64 0] 63) := hk2.blk HK0.out n1 n2
  have HK1' : Hid (Blk w2 (w.heap.size + 1) s.next.cells 63) := hk2.blk HK1.out n3 n4
  have HK : Hid (Kept g v w v w2) := (Kept.of v (Nat.le_of_lt hgl) HB0.out).trans hk2
  have HR2 : Hid (Rdr w2 g T ⟨k, wd, s.terms⟩ v) := hr2
  clear hr2 hk2 n1 n1' n2 n3 n3' n4 HK0 HK1 HB0 HR0 c2 c3 c4 c5 c6
  have c0 : w2.cell? ⟨w.heap.size + 1, 0, none⟩ = some (.int .i64 (s.next.kind : Int)) := HK1'.out.cell 0 rfl
  have c1 : w2.cell? ⟨w.heap.size + 1, 1, none⟩ = some (.int .i64 (s.next.place : Int)) := HK1'.out.cell 1 rfl
  have c2 : w2.cell? ⟨w.heap.size + 1, 2, none⟩ = some (.string s.next.text) := HK1'.out.cell 2 rfl
  have c3 : w2.cell? ⟨w.heap.size + 1, 3, none⟩ = some (.int .i64 s.next.n) := HK1'.out.cell 3 rfl
  have c4 : w2.cell? ⟨w.heap.size + 1, 4, none⟩ = some (.int .i64 (s.next.late : Int)) := HK1'.out.cell 4 rfl
  have d0 : w2.cell? ⟨w.heap.size, 0, none⟩ = some (.int .i64 0) := HK0'.out.cell 0 rfl
  have d1 : w2.cell? ⟨w.heap.size, 1, none⟩ = some (.int .i64 0) := HK0'.out.cell 1 rfl
  have d2 : w2.cell? ⟨w.heap.size, 2, none⟩ = some (.string ⟨#[]⟩) := HK0'.out.cell 2 rfl
  have d3 : w2.cell? ⟨w.heap.size, 3, none⟩ = some (.int .i64 0) := HK0'.out.cell 3 rfl
  have d4 : w2.cell? ⟨w.heap.size, 4, none⟩ = some (.int .i64 0) := HK0'.out.cell 4 rfl
  have f0 := HK0'.out.free 0
  have f1 := HK0'.out.free 1
  have f2 := HK0'.out.free 2
  have f3 := HK0'.out.free 3
  have f4 := HK0'.out.free 4
  unfold nothing
  go_wp2
  try simp only [Exit.inBlock, Exit.then]
  refine bodyPost_ret (results_word (wd := s.next) rfl (by rfl) (HK0'.out.setW _ _ _ _ _)) rfl ?_
  refine ⟨rfl, ?_, ?_⟩
  · have hn := HR.out.new (Nat.le_refl w.heap.size)
    exact ((((HR2.out.other _ _ hn).other _ _ hn).other _ _ hn).other _ _ hn).other _ _ hn
  · exact ((((HK.out.setNew (Nat.le_of_lt hgl) _ _ (by simp)).setNew (Nat.le_of_lt hgl) _ _ (by simp)).setNew (Nat.le_of_lt hgl) _ _ (by simp)).setNew (Nat.le_of_lt hgl) _ _ (by simp)).setNew (Nat.le_of_lt hgl) _ _ (by simp)

theorem passM_cases {F : Lex} {s : St} : ∀ {r : Res}, passM F s = r → (s.next.late ≠ 0 ∧ r = .error (s.next.place, s.next.late)) ∨ (s.next.late = 0 ∧ ∃ m, F s.here = .error m ∧ r = .error m) ∨ (s.next.late = 0 ∧ ∃ wd k, F s.here = .ok (wd, k) ∧ r = .ok ⟨k, wd, s.terms⟩) := by
  intro r h
  unfold passM at h
  split at h
  · rename_i hl
    refine .inr ?_
    unfold adv at h
    rcases hf : F s.here with m | ⟨wd, k⟩
    · rw [hf] at h; exact .inl ⟨hl, m, rfl, h.symm⟩
    · rw [hf] at h; exact .inr ⟨hl, wd, k, rfl, h.symm⟩
  · rename_i hl
    exact .inl ⟨hl, h.symm⟩
theorem passM_terms {F : Lex} {s s' : St} (h : passM F s = .ok s') : s'.terms = s.terms := by
  rcases passM_cases h with ⟨_, h⟩ | ⟨_, m, _, h⟩ | ⟨_, wd, k, _, h⟩
  · cases h
  · cases h
  · cases h; rfl
theorem pass_ok {F : Lex} {T : ByteArray} (HW : Words F T) {g : Nat} {s s' : St} {v : Value} (w : World) (h : Rdr w g T s v) (hs : s.here ≤ T.size) (hp : passM F s = .ok s') :
    Calls Tryz.prog 29 #[.pointer (some ⟨g, 0, none⟩)] w fun e w' => e = .returned (.agg s.next.cells) ∧ Rdr w' g T s' v ∧ Kept g v w v w' := by
  rcases passM_cases hp with ⟨_, h2⟩ | ⟨_, m, _, h2⟩ | ⟨hl, wd, k, hf, h2⟩
  · cases h2
  · cases h2
  · cases h2; exact reader_pass HW w h hs hl hf
theorem pass_bad {F : Lex} {T : ByteArray} (HW : Words F T) {g : Nat} {s : St} {m : Nat × Nat} {v : Value} (w : World) (h : Rdr w g T s v) (hs : s.here ≤ T.size) (hp : passM F s = .error m) :
    Calls Tryz.prog 29 #[.pointer (some ⟨g, 0, none⟩)] w fun e w' => e = thrown m ∧ Below w.heap.size w w' := by
  rcases passM_cases hp with ⟨hl, h2⟩ | ⟨hl, m, hf, h2⟩ | ⟨hl, wd, k, hf, h2⟩
  · cases h2; exact reader_pass_late w h hl
  · cases h2; exact reader_pass_err HW w h hs hl hf
  · cases h2
end Go.Proofs.YteoopoabemeanaaGreatDoor
