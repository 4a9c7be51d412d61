/- The reader's need, needSign, add. -/
import Derived.Test.YteoopoabemeanaaGreatDoorRdr2
namespace Go.Proofs.YteoopoabemeanaaGreatDoor
set_option maxRecDepth 100000
open Go.RowKit

def zeroW : Array Value := #[.int .i64 0, .int .i64 0, .string ⟨#[]⟩, .int .i64 0, .int .i64 0]

theorem need_form {T : ByteArray} {g : Nat} {s : St} {v : Value} (k : Nat) (w : World) (h : Rdr w g T s v) (hk : s.next.kind ≠ k) :
    Calls Tryz.prog 18 #[.pointer (some ⟨g, 0, none⟩), .int .i64 (k : Int)] w fun e w' => e = thrown (s.next.place, 4) ∧ Below w.heap.size w w' := by
  have HR : Hid (Rdr w g T s v) := h
  have hgl := h.lt
  have hk' : ((s.next.kind : Int) != (k : Int)) = true := by rw [bne_iff_ne]; omega
  have c2 : w.cell? ⟨g, 2, none⟩ = some (.int .i64 (s.next.kind : Int)) := h.blk.cell 2 rfl
  clear h hk
  go_enter Tryz.func18, Tryz.ntmps18
  go_wp2_with fail
  refine (reader_wrong g T s v 4 _ (HR.out.stay (below_alloc w _))).mono ?_
  rintro e w1 ⟨rfl, hb1⟩
  go_wp2
  exact ⟨rfl, rfl, (below_alloc w _).trans (hb1.mono (by simp))⟩

theorem need_pass_bad {F : Lex} {T : ByteArray} (HW : Words F T) {g : Nat} {s : St} {v : Value} {m : Nat × Nat} (k : Nat) (w : World) (h : Rdr w g T s v) (hs : s.here ≤ T.size) (hk : s.next.kind = k) (hp : passM F s = .error m) :
    Calls Tryz.prog 18 #[.pointer (some ⟨g, 0, none⟩), .int .i64 (k : Int)] w fun e w' => e = thrown m ∧ Below w.heap.size w w' := by
  have HR : Hid (Rdr w g T s v) := h
  have HX : Hid (Words F T) := HW
  have HP : Hid (passM F s = .error m) := hp
  have hgl := h.lt
  have hk' : ((s.next.kind : Int) != (k : Int)) = false := by rw [bne_eq_false_iff_eq]; omega
  have c2 : w.cell? ⟨g, 2, none⟩ = some (.int .i64 (s.next.kind : Int)) := h.blk.cell 2 rfl
  clear h hk hp HW
  go_enter Tryz.func18, Tryz.ntmps18
  go_wp2_with fail
  refine (pass_bad HX.out _ (HR.out.stay (below_alloc w _)) hs HP.out).mono ?_
  rintro e w1 ⟨rfl, hb1⟩
  exact ⟨rfl, rfl, (below_alloc w _).trans (hb1.mono (by simp))⟩

theorem need_pass_ok {F : Lex} {T : ByteArray} (HW : Words F T) {g : Nat} {s s' : St} {v : Value} (k : Nat) (w : World) (h : Rdr w g T s v) (hs : s.here ≤ T.size) (hk : s.next.kind = k) (hp : passM F s = .ok s') :
    Calls Tryz.prog 18 #[.pointer (some ⟨g, 0, none⟩), .int .i64 (k : Int)] w fun e w' => e = .returned (.agg s.next.cells) ∧ Rdr w' g T s' v ∧ Kept g v w v w' := by
  have HR : Hid (Rdr w g T s v) := h
  have HX : Hid (Words F T) := HW
  have HP : Hid (passM F s = .ok s') := hp
  have hgl := h.lt
  have hk' : ((s.next.kind : Int) != (k : Int)) = false := by rw [bne_eq_false_iff_eq]; omega
  have c2 : w.cell? ⟨g, 2, none⟩ = some (.int .i64 (s.next.kind : Int)) := h.blk.cell 2 rfl
  clear h hk hp HW
  have HB0 : Hid (Below w.heap.size w (w.alloc (.cells #[.int .i64 0, .int .i64 0, .string ⟨#[]⟩, .int .i64 0, .int .i64 0] 63))) := below_alloc w _
  have HK0 : Hid (Blk (w.alloc (.cells #[.int .i64 0, .int .i64 0, .string ⟨#[]⟩, .int .i64 0, .int .i64 0] 63)) w.heap.size #[.int .i64 0, .int .i64 0, .string ⟨#[]⟩, .int .i64 0, .int .i64 0] 63) := Blk.new w _ _
  go_enter Tryz.func18, Tryz.ntmps18
  go_wp2_with fail
  refine (pass_ok HX.out _ (HR.out.stay HB0.out) hs HP.out).mono ?_
  rintro e w2 ⟨rfl, hr2, hk2⟩
  obtain ⟨n1', n2⟩ := HR.out.new (Nat.le_refl w.heap.size)
  have n1 := Nat.ne_of_gt n1'
  have HK0' : Hid (Blk w2 w.heap.size #[.int .i64 0, .int .i64 0, .string ⟨#[]⟩, .int .i64 0, .int .i64 0] 63) := hk2.blk HK0.out n1 n2
  have HK : Hid (Kept g v w v w2) := (Kept.of v (Nat.le_of_lt hgl) HB0.out).trans hk2
  have HR2 : Hid (Rdr w2 g T s' v) := hr2
  clear hr2 hk2 n1 n1' n2 HK0 HB0 c2
  have d0 : w2.cell? ⟨w.heap.size, 0, none⟩ = some (.int .i64 0) := HK0'.out.cell 0 rfl
  have d1 : w2.cell? ⟨w.heap.size, 1, none⟩ = some (.int .i64 0) := HK0'.out.cell 1 rfl
  have d2 : w2.cell? ⟨w.heap.size, 2, none⟩ = some (.string ⟨#[]⟩) := HK0'.out.cell 2 rfl
  have d3 : w2.cell? ⟨w.heap.size, 3, none⟩ = some (.int .i64 0) := HK0'.out.cell 3 rfl
  have d4 : w2.cell? ⟨w.heap.size, 4, none⟩ = some (.int .i64 0) := HK0'.out.cell 4 rfl
  have f0 := HK0'.out.free 0
  have f1 := HK0'.out.free 1
  have f2 := HK0'.out.free 2
  have f3 := HK0'.out.free 3
  have f4 := HK0'.out.free 4
  simp only [Wd.cells]
  go_wp2
  try simp only [Exit.inBlock, Exit.then]
  refine bodyPost_ret (results_word (wd := s.next) rfl (by rfl) (HK0'.out.setW _ _ _ _ _)) rfl ?_
  refine ⟨rfl, ?_, ?_⟩
  · have hn := HR.out.new (Nat.le_refl w.heap.size)
    exact ((((HR2.out.other _ _ hn).other _ _ hn).other _ _ hn).other _ _ hn).other _ _ hn
  · exact ((((HK.out.setNew (Nat.le_of_lt hgl) _ _ (by simp)).setNew (Nat.le_of_lt hgl) _ _ (by simp)).setNew (Nat.le_of_lt hgl) _ _ (by simp)).setNew (Nat.le_of_lt hgl) _ _ (by simp)).setNew (Nat.le_of_lt hgl) _ _ (by simp)

theorem need_ok {F : Lex} {T : ByteArray} (HW : Words F T) {g : Nat} {s s' : St} {v : Value} (k : Nat) (w : World) (h : Rdr w g T s v) (hs : s.here ≤ T.size) (hp : needM F k s = .ok s') :
    Calls Tryz.prog 18 #[.pointer (some ⟨g, 0, none⟩), .int .i64 (k : Int)] w fun e w' => e = .returned (.agg s.next.cells) ∧ Rdr w' g T s' v ∧ Kept g v w v w' := by
  unfold needM at hp
  split at hp
  · exact need_pass_ok HW k w h hs (by assumption) hp
  · cases hp
theorem need_bad {F : Lex} {T : ByteArray} (HW : Words F T) {g : Nat} {s : St} {m : Nat × Nat} {v : Value} (k : Nat) (w : World) (h : Rdr w g T s v) (hs : s.here ≤ T.size) (hp : needM F k s = .error m) :
    Calls Tryz.prog 18 #[.pointer (some ⟨g, 0, none⟩), .int .i64 (k : Int)] w fun e w' => e = thrown m ∧ Below w.heap.size w w' := by
  unfold needM at hp
  split at hp
  · exact need_pass_bad HW k w h hs (by assumption) hp
  · cases hp; exact need_form k w h (by assumption)

theorem needS_ok {F : Lex} {T : ByteArray} (HW : Words F T) {g : Nat} {s s' : St} {v : Value} (t : ByteArray) (w : World) (h : Rdr w g T s v) (hs : s.here ≤ T.size) (hp : needS F t s = .ok s') :
    Calls Tryz.prog 62 #[.pointer (some ⟨g, 0, none⟩), .string t] w fun e w' => e = .returned nothing ∧ Rdr w' g T s' v ∧ Kept g v w v w' := by
  unfold needS at hp
  cases hi : isS t s with
  | false => rw [hi] at hp; cases hp
  | true =>
    rw [hi, if_pos rfl] at hp
    have HR : Hid (Rdr w g T s v) := h
    have HX : Hid (Words F T) := HW
    have HP : Hid (passM F s = .ok s') := hp
    have HI : Hid (isS t s = true) := hi
    clear h hp HW hi
    go_enter Tryz.func62, Tryz.ntmps62
    go_wp2_with fail
    refine (reader_isSign g T t s v _ HR.out).mono ?_
    rw [HI.out]
    rintro e w1 ⟨rfl, rfl⟩
    go_wp2_with fail
    refine (pass_ok HX.out _ HR.out hs HP.out).mono ?_
    rintro e w2 ⟨rfl, hr2, hk2⟩
    have HK : Hid (Kept g v w1 v w2) := hk2
    have HR2 : Hid (Rdr w2 g T s' v) := hr2
    clear hr2 hk2
    go_wp2
    exact ⟨rfl, _, results_none rfl _ _ _, rfl, HR2.out, HK.out⟩
theorem needS_bad {F : Lex} {T : ByteArray} (HW : Words F T) {g : Nat} {s : St} {m : Nat × Nat} {v : Value} (t : ByteArray) (w : World) (h : Rdr w g T s v) (hs : s.here ≤ T.size) (hp : needS F t s = .error m) :
    Calls Tryz.prog 62 #[.pointer (some ⟨g, 0, none⟩), .string t] w fun e w' => e = thrown m ∧ Below w.heap.size w w' := by
  unfold needS at hp
  have HR : Hid (Rdr w g T s v) := h
  have HX : Hid (Words F T) := HW
  cases hi : isS t s with
  | false =>
    have HI : Hid (isS t s = false) := hi
    rw [hi, if_neg (by simp)] at hp
    cases hp
    clear h HW hi
    go_enter Tryz.func62, Tryz.ntmps62
    go_wp2_with fail
    refine (reader_isSign g T t s v _ HR.out).mono ?_
    rw [HI.out]
    rintro e w1 ⟨rfl, rfl⟩
    go_wp2_with fail
    refine (reader_wrong g T s v 4 _ HR.out).mono ?_
    rintro e w2 ⟨rfl, hb2⟩
    go_wp2
    exact ⟨rfl, rfl, hb2⟩
  | true =>
    have HI : Hid (isS t s = true) := hi
    rw [hi, if_pos rfl] at hp
    have HP : Hid (passM F s = .error m) := hp
    clear h hp HW hi
    go_enter Tryz.func62, Tryz.ntmps62
    go_wp2_with fail
    refine (reader_isSign g T t s v _ HR.out).mono ?_
    rw [HI.out]
    rintro e w1 ⟨rfl, rfl⟩
    go_wp2_with fail
    refine (pass_bad HX.out _ HR.out hs HP.out).mono ?_
    rintro e w2 ⟨rfl, hb2⟩
    exact ⟨rfl, rfl, hb2⟩

/-- The reader with a term more. -/
theorem Rdr.more {w w' : World} {g : Nat} {T : ByteArray} {s : St} {v v' : Value} (h : Rdr w g T s v) (q : Tm) (ht : Tms w' (g + 1) v' (s.terms ++ [q])) (hg : w.grownBy w' v.ownBlock) : Rdr (w'.setCell ⟨g, 7, none⟩ v') g T (addM q s) v' ∧ Below g w (w'.setCell ⟨g, 7, none⟩ v') := by
  have hgl := h.lt
  have hne : some g ≠ v.ownBlock := fun e => by
    have := (h.tms.row.lt g e.symm).1
    omega
  exact ⟨⟨((h.blk.grown hg hne).set 7 v'), ht.under _ _ (by simp), h.big, (h.vars.below ((Below.refl g w).grown hg (Nat.le_of_lt hgl) (fun k hk => by have := (h.tms.row.lt k hk).1; omega)) h.big).set _ _ h.big⟩, ((Below.refl g w).grown hg (Nat.le_of_lt hgl) (fun k hk => by have := (h.tms.row.lt k hk).1; omega)).setCell (Nat.le_refl _) _⟩
theorem Tms.form3 {w : World} {base : Nat} {v : Value} {l : List Tm} (h : Tms w base v l) : ∃ a n c, v = .slice a n c := by
  obtain ⟨a, c, e⟩ := h.form
  exact ⟨a, _, c, e⟩

theorem add_ok {T : ByteArray} {g : Nat} {s : St} {v : Value} (op : Nat) (w : World) (h : Rdr w g T s v) (hl : s.terms.length ≤ 10000) :
    Calls Tryz.prog 30 #[.pointer (some ⟨g, 0, none⟩), .int .i64 (op : Int)] w fun e w' => e = .returned nothing ∧ (∃ v', Rdr w' g T (addM (Tm.plain op) s) v') ∧ Below g w w' := by
  have HR : Hid (Rdr w g T s v) := h
  have hcx : ∀ (a : Addr) (m : Mode) (W : World) (x y : Nat), (store a (.complex .f64 x y) m).run Tryz.prog W = stored Tryz.prog W a (.complex .f64 x y) m := fun a m W x y => run_store _ _ _ _ _ rfl
  have hgl := h.lt
  have c7 : w.cell? ⟨g, 7, none⟩ = some v := h.blk.cell 7 rfl
  have HA : Hid (Below w.heap.size w (w.alloc (.cells (Tm.plain op).cells 52))) := below_alloc w _
  have HKN : Hid (Blk (w.alloc (.cells (Tm.plain op).cells 52)) w.heap.size (Tm.plain op).cells 52) := Blk.new w _ _
  clear h
  obtain ⟨va, vc, rfl⟩ := HR.out.tms.form
  simp only [Tm.plain, Val.zero, Tm.cells] at HA HKN
  go_enter Tryz.func30, Tryz.ntmps30
  go_wp2_with (at_builtin; refine wpList_append_tm rfl (.tmp 8) (.tmp 11) rfl (g + 1) _ s.terms rfl (HR.out.stay HA.out).tms ⟨w.heap.size, 0, none⟩ 1 (Tm.plain op) rfl (Tm.told HKN.out) (by omega) (by simp; omega) ?_)
  intro v' w1 ht hg
  obtain ⟨hr2, hb2⟩ := (HR.out.stay HA.out).more (Tm.plain op) ht hg
  have HR2 : Hid (Rdr (w1.setCell ⟨g, 7, none⟩ v') g T (addM (Tm.plain op) s) v') := hr2
  have HB2 : Hid (Below g w (w1.setCell ⟨g, 7, none⟩ v')) := (HA.out.mono (Nat.le_of_lt hgl)).trans hb2
  have hne : some g ≠ Value.ownBlock (.slice va s.terms.length vc) := fun e => by
    have := (HR.out.tms.row.lt g e.symm).1
    omega
  have HK1 : Hid (Blk w1 g (rcells T s (.slice va s.terms.length vc)) 65) := (HR.out.stay HA.out).blk.grown hg hne
  have d7 : w1.cell? ⟨g, 7, none⟩ = some (.slice va s.terms.length vc) := HK1.out.cell 7 rfl
  have f7 := HK1.out.free 7
  obtain ⟨va', nn, vc', rfl⟩ := ht.form3
  clear hr2 hb2 ht hg hne c7
  go_wp2
  exact ⟨rfl, _, results_none rfl _ _ _, rfl, ⟨_, HR2.out⟩, HB2.out⟩
end Go.Proofs.YteoopoabemeanaaGreatDoor
