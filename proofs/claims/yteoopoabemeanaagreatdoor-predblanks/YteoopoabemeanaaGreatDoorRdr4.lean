/- The reader's readNumber, readOrdered, readCmp. -/
import Derived.Test.YteoopoabemeanaaGreatDoorRdr3
namespace Go.Proofs.YteoopoabemeanaaGreatDoor
set_option maxRecDepth 100000
open Go.RowKit

theorem fld2 (k p : Nat) (t : ByteArray) (n : Int) (l : Nat) (W : World) : (Instr.field 63 (.agg #[.int .i64 (k : Int), .int .i64 (p : Int), .string t, .int .i64 n, .int .i64 (l : Int)]) 2).run Tryz.prog W = .ok (.string t) W := by kernel_rfl
theorem fld3 (k p : Nat) (t : ByteArray) (n : Int) (l : Nat) (W : World) : (Instr.field 63 (.agg #[.int .i64 (k : Int), .int .i64 (p : Int), .string t, .int .i64 n, .int .i64 (l : Int)]) 3).run Tryz.prog W = .ok (.int .i64 n) W := by kernel_rfl

theorem num_limit {T : ByteArray} {g : Nat} {s : St} {v : Value} (lo hi : Int) (w : World) (h : Rdr w g T s v) (hk : s.next.kind = 3) (hn : s.next.n < lo ∨ hi < s.next.n) :
    Calls Tryz.prog 82 #[.pointer (some ⟨g, 0, none⟩), .int .i64 lo, .int .i64 hi] w fun e w' => e = thrown (s.next.place, 6) ∧ Below w.heap.size w w' := by
  have HR : Hid (Rdr w g T s v) := h
  have hgl := h.lt
  have c2 : w.cell? ⟨g, 2, none⟩ = some (.int .i64 3) := by rw [show (3 : Int) = ((s.next.kind : Nat) : Int) by rw [hk]; rfl]; exact h.blk.cell 2 rfl
  have c5 : w.cell? ⟨g, 5, none⟩ = some (.int .i64 s.next.n) := h.blk.cell 5 rfl
  clear h hk
  by_cases h1 : s.next.n < lo
  · have h1' : decide (s.next.n < lo) = true := decide_eq_true h1
    clear hn
    go_enter Tryz.func82, Tryz.ntmps82
    go_wp2_with fail
    refine (reader_wrong g T s v 6 _ HR.out).mono ?_
    rintro e w1 ⟨rfl, hb1⟩
    go_wp2
    exact ⟨rfl, rfl, hb1⟩
  · have h1' : decide (s.next.n < lo) = false := decide_eq_false h1
    have h2 : hi < s.next.n := by omega
    have h2' : decide (hi < s.next.n) = true := decide_eq_true h2
    clear hn
    go_enter Tryz.func82, Tryz.ntmps82
    go_wp2_with fail
    refine (reader_wrong g T s v 6 _ HR.out).mono ?_
    rintro e w1 ⟨rfl, hb1⟩
    go_wp2
    exact ⟨rfl, rfl, hb1⟩

/-- Where no limit is told. -/
theorem num_need {F : Lex} {T : ByteArray} (HW : Words F T) {g : Nat} {s : St} {v : Value} (lo hi : Int) (w : World) (h : Rdr w g T s v) (hs : s.here ≤ T.size) (hn : ¬ (s.next.kind = 3 ∧ (s.next.n < lo ∨ hi < s.next.n))) :
    Calls Tryz.prog 82 #[.pointer (some ⟨g, 0, none⟩), .int .i64 lo, .int .i64 hi] w fun e w' => match needM F 3 s with
      | .ok s' => e = .returned (.int .i64 s.next.n) ∧ Rdr w' g T s' v ∧ Kept g v w v w'
      | .error m => e = thrown m ∧ Below w.heap.size w w' := by
  have HR : Hid (Rdr w g T s v) := h
  have HX : Hid (Words F T) := HW
  have hgl := h.lt
  have c2 : w.cell? ⟨g, 2, none⟩ = some (.int .i64 (s.next.kind : Int)) := h.blk.cell 2 rfl
  have c5 : w.cell? ⟨g, 5, none⟩ = some (.int .i64 s.next.n) := h.blk.cell 5 rfl
  clear h HW
  rcases hp : needM F 3 s with m | s'
  · have HP : Hid (needM F 3 s = .error m) := hp
    clear hp
    by_cases hk : s.next.kind = 3
    · have h1' : decide (s.next.n < lo) = false := decide_eq_false (by omega)
      have h2' : decide (hi < s.next.n) = false := decide_eq_false (by omega)
      have hk' : ((s.next.kind : Int) == 3) = true := by rw [hk]; rfl
      clear hn hk
      go_enter Tryz.func82, Tryz.ntmps82
      go_wp2_with fail
      refine (need_bad HX.out 3 _ HR.out hs HP.out).mono ?_
      rintro e w1 ⟨rfl, hb1⟩
      exact ⟨rfl, rfl, hb1⟩
    · have hk' : ((s.next.kind : Int) == 3) = false := by rw [beq_eq_false_iff_ne]; omega
      clear hn hk
      go_enter Tryz.func82, Tryz.ntmps82
      go_wp2_with fail
      refine (need_bad HX.out 3 _ HR.out hs HP.out).mono ?_
      rintro e w1 ⟨rfl, hb1⟩
      exact ⟨rfl, rfl, hb1⟩
  · have HP : Hid (needM F 3 s = .ok s') := hp
    have hk : s.next.kind = 3 := by
      unfold needM at hp
      split at hp
      · assumption
      · cases hp
    clear hp
    have h1' : decide (s.next.n < lo) = false := decide_eq_false (by omega)
    have h2' : decide (hi < s.next.n) = false := decide_eq_false (by omega)
    have hk' : ((s.next.kind : Int) == 3) = true := by rw [hk]; rfl
    clear hn hk
    go_enter Tryz.func82, Tryz.ntmps82
    go_wp2_with fail
    refine (need_ok HX.out 3 _ HR.out hs HP.out).mono ?_
    rintro e w2 ⟨rfl, hr2, hk2⟩
    have HK : Hid (Kept g v w v w2) := hk2
    have HR2 : Hid (Rdr w2 g T s' v) := hr2
    clear hr2 hk2
    have hfd := fld3 s.next.kind s.next.place s.next.text s.next.n s.next.late
    simp only [Wd.cells]
    go_wp2
    go_ret
    exact ⟨rfl, HR2.out, HK.out⟩
theorem num_ok {F : Lex} {T : ByteArray} (HW : Words F T) {g : Nat} {s s' : St} {v : Value} (lo hi : Int) (w : World) (h : Rdr w g T s v) (hs : s.here ≤ T.size) (hp : numM F lo hi s = .ok s') :
    Calls Tryz.prog 82 #[.pointer (some ⟨g, 0, none⟩), .int .i64 lo, .int .i64 hi] w fun e w' => e = .returned (.int .i64 s.next.n) ∧ Rdr w' g T s' v ∧ Kept g v w v w' := by
  unfold numM at hp
  split at hp
  · cases hp
  · rename_i hn
    have := num_need HW lo hi w h hs hn
    rw [hp] at this
    exact this
theorem num_bad {F : Lex} {T : ByteArray} (HW : Words F T) {g : Nat} {s : St} {m : Nat × Nat} {v : Value} (lo hi : Int) (w : World) (h : Rdr w g T s v) (hs : s.here ≤ T.size) (hp : numM F lo hi s = .error m) :
    Calls Tryz.prog 82 #[.pointer (some ⟨g, 0, none⟩), .int .i64 lo, .int .i64 hi] w fun e w' => e = thrown m ∧ Below w.heap.size w w' := by
  unfold numM at hp
  split at hp
  · rename_i hn
    cases hp
    exact num_limit lo hi w h hn.1 hn.2
  · rename_i hn
    have := num_need HW lo hi w h hs hn
    rw [hp] at this
    exact this

theorem results_val {f : Func} {w : World} {tmps : Array Value} {g i : Nat} {t : TypeId} {q : Val} (hf : f.results = #[.cell i 40]) (h4 : tmps[i]?.getD undef = .pointer (some ⟨g, 0, none⟩))
    (k : Blk w g q.cells t) : (results f tmps).run Tryz.prog w = .ok (.agg q.cells) w := by
  have k0 : w.cell? ⟨g, 0, none⟩ = some (.int .i64 q.kind) := k.cell 0 rfl
  have k1 : w.cell? ⟨g, 1, none⟩ = some (.int .i64 q.whole) := k.cell 1 rfl
  have k2 : w.cell? ⟨g, 2, none⟩ = some (.string q.words) := k.cell 2 rfl
  have k3 : w.cell? ⟨g, 3, none⟩ = some (.bool q.truth) := k.cell 3 rfl
  have k4 : w.cell? ⟨g, 4, none⟩ = some (.complex .f64 q.re q.im) := k.cell 4 rfl
  simp [results, hf, go_sem, h4, k0, k1, k2, k3, k4, Val.cells]

/-- readOrdered. -/
theorem ordered_bad {F : Lex} {T : ByteArray} (HW : Words F T) {g : Nat} {s : St} {m : Nat × Nat} {v : Value} (w : World) (h : Rdr w g T s v) (hs : s.here ≤ T.size) (hp : orderedM F s = .error m) :
    Calls Tryz.prog 80 #[.pointer (some ⟨g, 0, none⟩)] w fun e w' => e = thrown m ∧ Below w.heap.size w w' := by
  have HR : Hid (Rdr w g T s v) := h
  have HX : Hid (Words F T) := HW
  have hgl := h.lt
  have c2 : w.cell? ⟨g, 2, none⟩ = some (.int .i64 (s.next.kind : Int)) := h.blk.cell 2 rfl
  clear h HW
  unfold orderedM at hp
  split at hp
  · rename_i hk
    have hk' : ((s.next.kind : Int) == 4) = true := by rw [hk]; rfl
    have HP : Hid (passM F s = .error m) := by
      show _ = _
      cases hq : passM F s with
      | ok s' => rw [hq] at hp; simp [withV] at hp
      | error m' => rw [hq] at hp; simp only [withV, Except.error.injEq] at hp; rw [hp]
    clear hp hk
    go_enter Tryz.func80, Tryz.ntmps80
    go_wp2_with fail
    refine (pass_bad HX.out _ (HR.out.stay (below_alloc w _)) hs HP.out).mono ?_
    rintro e w1 ⟨rfl, hb1⟩
    exact ⟨rfl, rfl, (below_alloc w _).trans (hb1.mono (by simp))⟩
  · rename_i hk
    have hk' : ((s.next.kind : Int) == 4) = false := by rw [beq_eq_false_iff_ne]; omega
    have HP : Hid (numM F (-9223372036854775808) 9223372036854775807 s = .error m) := by
      show _ = _
      cases hq : numM F (-9223372036854775808) 9223372036854775807 s with
      | ok s' => rw [hq] at hp; simp [withV] at hp
      | error m' => rw [hq] at hp; simp only [withV, Except.error.injEq] at hp; rw [hp]
    clear hp hk
    go_enter Tryz.func80, Tryz.ntmps80
    go_wp2_with fail
    refine (num_bad HX.out _ _ _ (HR.out.stay (below_alloc w _)) hs HP.out).mono ?_
    rintro e w1 ⟨rfl, hb1⟩
    exact ⟨rfl, rfl, (below_alloc w _).trans (hb1.mono (by simp))⟩

theorem ordered_ok {F : Lex} {T : ByteArray} (HW : Words F T) {g : Nat} {s s' : St} {q : Val} {v : Value} (w : World) (h : Rdr w g T s v) (hs : s.here ≤ T.size) (hp : orderedM F s = .ok (q, s')) :
    Calls Tryz.prog 80 #[.pointer (some ⟨g, 0, none⟩)] w fun e w' => e = .returned (.agg q.cells) ∧ Rdr w' g T s' v ∧ Kept g v w v w' := by
  have hcx : ∀ (a : Addr) (m : Mode) (W : World) (x y : Nat), (store a (.complex .f64 x y) m).run Tryz.prog W = stored Tryz.prog W a (.complex .f64 x y) m := fun a m W x y => run_store _ _ _ _ _ rfl
  have HR : Hid (Rdr w g T s v) := h
  have HX : Hid (Words F T) := HW
  have hgl := h.lt
  have hfd := fld2 s.next.kind s.next.place s.next.text s.next.n s.next.late
  have c2 : w.cell? ⟨g, 2, none⟩ = some (.int .i64 (s.next.kind : Int)) := h.blk.cell 2 rfl
  have HB0 : Hid (Below w.heap.size w (w.alloc (.cells #[.int .i64 0, .int .i64 0, .string ⟨#[]⟩, .bool false, .complex .f64 0 0] 40))) := below_alloc w _
  have HK0 : Hid (Blk (w.alloc (.cells #[.int .i64 0, .int .i64 0, .string ⟨#[]⟩, .bool false, .complex .f64 0 0] 40)) w.heap.size #[.int .i64 0, .int .i64 0, .string ⟨#[]⟩, .bool false, .complex .f64 0 0] 40) := Blk.new w _ _
  clear h HW
  unfold orderedM at hp
  split at hp
  · rename_i hk
    have hk' : ((s.next.kind : Int) == 4) = true := by rw [hk]; rfl
    obtain ⟨rfl, hq⟩ := withV_ok hp
    have HP : Hid (passM F s = .ok s') := hq
    clear hp hk hq
    go_enter Tryz.func80, Tryz.ntmps80
    go_wp2_with fail
    refine (pass_ok HX.out _ (HR.out.stay HB0.out) hs HP.out).mono ?_
    rintro e w2 ⟨rfl, hr2, hk2⟩
    obtain ⟨n1', n2⟩ := HR.out.new (Nat.le_refl w.heap.size)
    have n1 := Nat.ne_of_gt n1'
    have HK0' : Hid (Blk w2 w.heap.size #[.int .i64 0, .int .i64 0, .string ⟨#[]⟩, .bool false, .complex .f64 0 0] 40) := hk2.blk HK0.out n1 n2
    have HK : Hid (Kept g v w v w2) := (Kept.of v (Nat.le_of_lt hgl) HB0.out).trans hk2
    have HR2 : Hid (Rdr w2 g T s' v) := hr2
    clear hr2 hk2 n1 n1' n2 HK0 HB0 c2
    have d0 : w2.cell? ⟨w.heap.size, 0, none⟩ = some (.int .i64 0) := HK0'.out.cell 0 rfl
    have d1 : w2.cell? ⟨w.heap.size, 1, none⟩ = some (.int .i64 0) := HK0'.out.cell 1 rfl
    have d2 : w2.cell? ⟨w.heap.size, 2, none⟩ = some (.string ⟨#[]⟩) := HK0'.out.cell 2 rfl
    have d3 : w2.cell? ⟨w.heap.size, 3, none⟩ = some (.bool false) := HK0'.out.cell 3 rfl
    have d4 : w2.cell? ⟨w.heap.size, 4, none⟩ = some (.complex .f64 0 0) := HK0'.out.cell 4 rfl
    have f0 := HK0'.out.free 0
    have f1 := HK0'.out.free 1
    have f2 := HK0'.out.free 2
    have f3 := HK0'.out.free 3
    have f4 := HK0'.out.free 4
    simp only [Wd.cells]
    go_wp2
    try simp only [Exit.inBlock, Exit.then]
    refine bodyPost_ret (results_val (q := wordsV s.next.text) rfl (by rfl) (HK0'.out.setW _ _ _ _ _)) rfl ?_
    refine ⟨rfl, ?_, ?_⟩
    · have hn := HR.out.new (Nat.le_refl w.heap.size)
      exact ((((HR2.out.other _ _ hn).other _ _ hn).other _ _ hn).other _ _ hn).other _ _ hn
    · exact ((((HK.out.setNew (Nat.le_of_lt hgl) _ _ (by simp)).setNew (Nat.le_of_lt hgl) _ _ (by simp)).setNew (Nat.le_of_lt hgl) _ _ (by simp)).setNew (Nat.le_of_lt hgl) _ _ (by simp)).setNew (Nat.le_of_lt hgl) _ _ (by simp)
  · rename_i hk
    have hk' : ((s.next.kind : Int) == 4) = false := by rw [beq_eq_false_iff_ne]; omega
    obtain ⟨rfl, hq⟩ := withV_ok hp
    have HP : Hid (numM F (-9223372036854775808) 9223372036854775807 s = .ok s') := hq
    clear hp hk hq
    go_enter Tryz.func80, Tryz.ntmps80
    go_wp2_with fail
    refine (num_ok HX.out _ _ _ (HR.out.stay HB0.out) hs HP.out).mono ?_
    rintro e w2 ⟨rfl, hr2, hk2⟩
    obtain ⟨n1', n2⟩ := HR.out.new (Nat.le_refl w.heap.size)
    have n1 := Nat.ne_of_gt n1'
    have HK0' : Hid (Blk w2 w.heap.size #[.int .i64 0, .int .i64 0, .string ⟨#[]⟩, .bool false, .complex .f64 0 0] 40) := hk2.blk HK0.out n1 n2
    have HK : Hid (Kept g v w v w2) := (Kept.of v (Nat.le_of_lt hgl) HB0.out).trans hk2
    have HR2 : Hid (Rdr w2 g T s' v) := hr2
    clear hr2 hk2 n1 n1' n2 HK0 HB0 c2
    have d0 : w2.cell? ⟨w.heap.size, 0, none⟩ = some (.int .i64 0) := HK0'.out.cell 0 rfl
    have d1 : w2.cell? ⟨w.heap.size, 1, none⟩ = some (.int .i64 0) := HK0'.out.cell 1 rfl
    have d2 : w2.cell? ⟨w.heap.size, 2, none⟩ = some (.string ⟨#[]⟩) := HK0'.out.cell 2 rfl
    have d3 : w2.cell? ⟨w.heap.size, 3, none⟩ = some (.bool false) := HK0'.out.cell 3 rfl
    have d4 : w2.cell? ⟨w.heap.size, 4, none⟩ = some (.complex .f64 0 0) := HK0'.out.cell 4 rfl
    have f0 := HK0'.out.free 0
    have f1 := HK0'.out.free 1
    have f2 := HK0'.out.free 2
    have f3 := HK0'.out.free 3
    have f4 := HK0'.out.free 4
    go_wp2
    try simp only [Exit.inBlock, Exit.then]
    refine bodyPost_ret (results_val (q := wholeV s.next.n) rfl (by rfl) (HK0'.out.setW _ _ _ _ _)) rfl ?_
    refine ⟨rfl, ?_, ?_⟩
    · have hn := HR.out.new (Nat.le_refl w.heap.size)
      exact ((((HR2.out.other _ _ hn).other _ _ hn).other _ _ hn).other _ _ hn).other _ _ hn
    · exact ((((HK.out.setNew (Nat.le_of_lt hgl) _ _ (by simp)).setNew (Nat.le_of_lt hgl) _ _ (by simp)).setNew (Nat.le_of_lt hgl) _ _ (by simp)).setNew (Nat.le_of_lt hgl) _ _ (by simp)).setNew (Nat.le_of_lt hgl) _ _ (by simp)

theorem cmpSign_text (c : Nat) (hc : 3 ≤ c ∧ c ≤ 10) (w : World) : Calls Tryz.prog 35 #[.int .i64 (c : Int)] w fun e w' => e = .returned (.string (cmpText c)) ∧ w' = w := by
  obtain ⟨h3, h10⟩ := hc
  have : c = 3 ∨ c = 4 ∨ c = 5 ∨ c = 6 ∨ c = 7 ∨ c = 8 ∨ c = 9 ∨ c = 10 := by omega
  rcases this with rfl | rfl | rfl | rfl | rfl | rfl | rfl | rfl
  all_goals
    go_enter Tryz.func35, Tryz.ntmps35
    go_wp2
    go_ret
    exact ⟨rfl, rfl⟩
end Go.Proofs.YteoopoabemeanaaGreatDoor
