/- The reader's readAtom, whole; readUnit, readAll, readAny. -/
import Derived.Test.YteoopoabemeanaaGreatDoorRdr7
namespace Go.Proofs.YteoopoabemeanaaGreatDoor
set_option maxRecDepth 100000
open Go.RowKit

theorem atom_name_bad {F : Lex} {T : ByteArray} (HW : Words F T) {g : Nat} {s : St} {v : Value} {m : Nat × Nat} (w : World) (h : Rdr w g T s v) (hs : s.here ≤ T.size) (hn : needM F 2 s = .error m) :
    Calls Tryz.prog 63 #[.pointer (some ⟨g, 0, none⟩)] w fun e w' => e = thrown m ∧ Below g w w' := by
  have HR0 : Hid (Rdr w g T s v) := h
  have HX : Hid (Words F T) := HW
  have HNE : Hid (needM F 2 s = .error m) := hn
  clear h HW hn
  go_enter Tryz.func63, Tryz.ntmps63
  go_wp2_with fail
  refine (need_bad HX.out 2 _ HR0.out hs HNE.out).mono ?_
  rintro e w1 ⟨rfl, hb⟩
  exact ⟨rfl, rfl, hb.mono (Nat.le_of_lt HR0.out.lt)⟩

theorem atom_cmp_bad {F : Lex} {T : ByteArray} (HW : Words F T) (hF : LexOk F T.size) {g : Nat} {s s1 : St} {v : Value} {m : Nat × Nat} (w : World) (h : Rdr w g T s v) (hs : s.here ≤ T.size) (hn : needM F 2 s = .ok s1) (hc : cmpM F s1 = .error m) :
    Calls Tryz.prog 63 #[.pointer (some ⟨g, 0, none⟩)] w fun e w' => e = thrown m ∧ Below g w w' := by
  have hcx : ∀ (a : Addr) (m : Mode) (W : World) (x y : Nat), (store a (.complex .f64 x y) m).run Tryz.prog W = stored Tryz.prog W a (.complex .f64 x y) m := fun a m W x y => run_store _ _ _ _ _ rfl
  have HR0 : Hid (Rdr w g T s v) := h
  have HX : Hid (Words F T) := HW
  have HNE : Hid (needM F 2 s = .ok s1) := hn
  have HCM : Hid (cmpM F s1 = .error m) := hc
  have h1 : s1.here ≤ T.size := (needM_dn1 hF (by decide) hs hn).here
  have hfd := fld2 s.next.kind s.next.place s.next.text s.next.n s.next.late
  clear h HW hn hc
  go_enter Tryz.func63, Tryz.ntmps63
  go_wp2_with fail
  refine (need_ok HX.out 2 _ HR0.out hs HNE.out).mono ?_
  rintro e w1 ⟨rfl, hr1, hk1⟩
  have HR1 : Hid (Rdr w1 g T s1 v) := hr1
  have HK1 : Hid (Kept g v w v w1) := hk1
  clear hr1 hk1
  simp only [Wd.cells]
  go_wp2_with fail
  refine (cmp_any HX.out _ (HR1.out.stay (below_alloc w1 _)) h1 _ HCM.out).mono ?_
  rintro e w2 ⟨rfl, hb⟩
  exact ⟨rfl, rfl, HK1.out.below.trans (((below_alloc w1 _).trans (hb.mono (by simp))).mono (Nat.le_of_lt HR1.out.lt))⟩

theorem atomM_ok {F : Lex} {s s1 s2 : St} {c : Nat} (hn : needM F 2 s = .ok s1) (hc : cmpM F s1 = .ok (c, s2)) : atomM F s = restM F s.next.text c s2 := by
  unfold atomM
  rw [hn]
  simp only [andThen, hc]
theorem atomM_bad1 {F : Lex} {s : St} {m : Nat × Nat} (hn : needM F 2 s = .error m) : atomM F s = .error m := by
  unfold atomM
  rw [hn]
  rfl
theorem atomM_bad2 {F : Lex} {s s1 : St} {m : Nat × Nat} (hn : needM F 2 s = .ok s1) (hc : cmpM F s1 = .error m) : atomM F s = .error m := by
  unfold atomM
  rw [hn]
  simp only [andThen, hc]
/-- readAtom. -/
theorem atom_any {F : Lex} {T : ByteArray} (HW : Words F T) (hF : LexOk F T.size) {g : Nat} {s : St} {v : Value} (w : World) (h : Rdr w g T s v) (hs : s.here ≤ T.size) (hl : s.terms.length + left T.size s ≤ 5000) :
    Calls Tryz.prog 63 #[.pointer (some ⟨g, 0, none⟩)] w fun e w' => AfterU g T w (atomM F s) e w' := by
  rcases hn : needM F 2 s with m | s1
  · rw [atomM_bad1 hn]
    exact atom_name_bad HW w h hs hn
  · rcases hc : cmpM F s1 with m | ⟨c, s2⟩
    · rw [atomM_bad2 hn hc]
      exact atom_cmp_bad HW hF w h hs hn hc
    · rw [atomM_ok hn hc]
      obtain ⟨h2, h10⟩ := cmpFrom_range 8 (by omega) hc
      have : c = 2 ∨ c = 3 ∨ c = 4 ∨ c = 5 ∨ c = 6 ∨ c = 7 ∨ c = 8 ∨ c = 9 ∨ c = 10 := by omega
      rcases this with rfl | rfl | rfl | rfl | rfl | rfl | rfl | rfl | rfl
      · exact atom_2 HW hF w h hs hl hn hc _ rfl
      · exact atom_3 HW hF w h hs hl hn hc _ rfl
      · exact atom_4 HW hF w h hs hl hn hc _ rfl
      · exact atom_5 HW hF w h hs hl hn hc _ rfl
      · exact atom_6 HW hF w h hs hl hn hc _ rfl
      · exact atom_7 HW hF w h hs hl hn hc _ rfl
      · exact atom_8 HW hF w h hs hl hn hc _ rfl
      · exact atom_9 HW hF w h hs hl hn hc _ rfl
      · exact atom_10 HW hF w h hs hl hn hc _ rfl

/-- What each of the three tells. -/
def RunOk (F : Lex) (T : ByteArray) (n : Nat) : Prop := ∀ (c f : Nat) (g : Nat) (s : St) (v : Value) (w : World), ((c = 0 ∧ f = 17 ∧ 8 * left T.size s + 6 < n) ∨ (c = 2 ∧ f = 27 ∧ 8 * left T.size s + 4 < n) ∨ (c = 4 ∧ f = 48 ∧ 8 * left T.size s + 2 < n)) →
  Rdr w g T s v → s.here ≤ T.size → s.terms.length + left T.size s ≤ 5000 → Calls Tryz.prog f #[.pointer (some ⟨g, 0, none⟩)] w fun e w' => AfterU g T w (runM F n c s) e w'

/-- A list of terms behind which one more is put: ? and a name. -/
theorem has_ok {F : Lex} {T : ByteArray} (HW : Words F T) (hF : LexOk F T.size) {g : Nat} {s s1 s2 : St} {v : Value} (w : World) (h : Rdr w g T s v) (hs : s.here ≤ T.size) (hl : s.terms.length + left T.size s ≤ 5000)
    (i1 : isS ⟨#[33]⟩ s = false) (i2 : isS ⟨#[40]⟩ s = false) (i3 : isS ⟨#[42]⟩ s = false) (i4 : isS ⟨#[35]⟩ s = false) (i5 : isS ⟨#[63]⟩ s = true) (hp : passM F s = .ok s1) (hn : needM F 2 s1 = .ok s2) :
    Calls Tryz.prog 48 #[.pointer (some ⟨g, 0, none⟩)] w fun e w' => e = .returned nothing ∧ (∃ v, Rdr w' g T (addM ⟨3, s1.next.text, 1, Val.zero, 0⟩ s2) v) ∧ Below g w w' := by
  have HR0 : Hid (Rdr w g T s v) := h
  have HX : Hid (Words F T) := HW
  have I1 : Hid (isS ⟨#[33]⟩ s = false) := i1
  have I2 : Hid (isS ⟨#[40]⟩ s = false) := i2
  have I3 : Hid (isS ⟨#[42]⟩ s = false) := i3
  have I4 : Hid (isS ⟨#[35]⟩ s = false) := i4
  have I5 : Hid (isS ⟨#[63]⟩ s = true) := i5
  have HP : Hid (passM F s = .ok s1) := hp
  have HNE : Hid (needM F 2 s1 = .ok s2) := hn
  have d1 := passM_dn hF hs hp
  have d2 := needM_dn1 hF (by decide) d1.here hn
  have h1 := d1.here
  have hl2 : s2.terms.length ≤ 5000 := by have := d1.terms; have := d2.terms; omega
  have hcx : ∀ (a : Addr) (m : Mode) (W : World) (x y : Nat), (store a (.complex .f64 x y) m).run Tryz.prog W = stored Tryz.prog W a (.complex .f64 x y) m := fun a m W x y => run_store _ _ _ _ _ rfl
  have hfd := fld2 s1.next.kind s1.next.place s1.next.text s1.next.n s1.next.late
  clear h HW i1 i2 i3 i4 i5 hp hn d1 d2 hl
  go_enter Tryz.func48, Tryz.ntmps48
  go_wp2_with fail
  refine (reader_isSign g T _ s v _ HR0.out).mono ?_
  rw [I1.out]; rintro e w0 ⟨rfl, rfl⟩
  go_wp2_with fail
  refine (reader_isSign g T _ s v _ HR0.out).mono ?_
  rw [I2.out]; rintro e w0' ⟨rfl, rfl⟩
  go_wp2_with fail
  refine (reader_isSign g T _ s v _ HR0.out).mono ?_
  rw [I3.out]; rintro e w1 ⟨rfl, rfl⟩
  go_wp2_with fail
  refine (reader_isSign g T _ s v _ HR0.out).mono ?_
  rw [I4.out]; rintro e w2 ⟨rfl, rfl⟩
  go_wp2_with fail
  refine (reader_isSign g T _ s v _ HR0.out).mono ?_
  rw [I5.out]; rintro e w3 ⟨rfl, rfl⟩
  go_wp2_with fail
  refine (pass_ok HX.out _ HR0.out hs HP.out).mono ?_
  rintro e w4 ⟨rfl, hr1, hk1⟩
  have HR1 : Hid (Rdr w4 g T s1 v) := hr1
  have HK1 : Hid (Kept g v w3 v w4) := hk1
  clear hr1 hk1 I1 I2 I3 I4 I5
  simp only [Wd.cells]
  go_wp2_with fail
  have hg4 := HR1.out.lt
  obtain ⟨va, vn, vc, rfl⟩ := HR1.out.tms.form3
  have r7 : w4.cell? ⟨g, 7, none⟩ = some (.slice va vn vc) := HR1.out.blk.cell 7 rfl
  have r7d : w4.drew.cell? ⟨g, 7, none⟩ = some (.slice va vn vc) := r7
  go_region_law (first
    | (refine step_append_tm rfl (.tmp 45) (.tmp 50) rfl (g + 1) _ s2.terms rfl (HRA.out.stay (below_alloc _ _)).tms ⟨w5.heap.size, 0, none⟩ 1 ⟨3, s1.next.text, 1, Val.zero, 0⟩ rfl (Tm.told (Blk.new w5 _ _)) (by omega) (by simp; omega) ?_; intro v' w9 ht hg; obtain ⟨hr2, hb2⟩ := (HRA.out.stay (below_alloc _ _)).more _ ht hg; have HR9 : Hid (Rdr (w9.setCell ⟨g, 7, none⟩ v') g T (addM ⟨3, s1.next.text, 1, Val.zero, 0⟩ s2) v') := hr2; have HB9 : Hid (Below g w3 (w9.setCell ⟨g, 7, none⟩ v')) := (HKA.out.below.trans ((below_alloc w5 _).mono (Nat.le_of_lt HRA.out.lt))).trans hb2; have HK9 : Hid (Blk w9 g (rcells T s2 (.slice va vn vc)) 65) := (HRA.out.stay (below_alloc _ _)).blk.grown hg (fun e => by have := (HRA.out.tms.row.lt g e.symm).1; omega); have d7 : w9.cell? ⟨g, 7, none⟩ = some (.slice va vn vc) := HK9.out.cell 7 rfl; have f7 := HK9.out.free 7; obtain ⟨va', nn, vc', rfl⟩ := ht.form3; clear hr2 hb2 ht hg)
    | (go_simp; go_at_call 18; refine (need_ok HX.out 2 _ (HR1.out.stay (Below.refl _ _).drew) h1 HNE.out).mono ?_; rintro e w5 ⟨rfl, hr5, hk5⟩; have HRA : Hid (Rdr w5 g T s2 (.slice va vn vc)) := hr5; have HKA : Hid (Kept g (.slice va vn vc) w3 (.slice va vn vc) w5) := HK1.out.trans ((Kept.of _ (Nat.le_of_lt hg4) (Below.refl _ _).drew).trans hk5); have r75 : w5.cell? ⟨g, 7, none⟩ = some (.slice va vn vc) := HRA.out.blk.cell 7 rfl; have hg5 := HRA.out.lt; clear hr5 hk5; simp only [Wd.cells]))
  all_goals
    refine ⟨rfl, _, results_none rfl _ _ _, ?_⟩
    exact ⟨rfl, ⟨_, HR9.out⟩, HB9.out⟩
end Go.Proofs.YteoopoabemeanaaGreatDoor
