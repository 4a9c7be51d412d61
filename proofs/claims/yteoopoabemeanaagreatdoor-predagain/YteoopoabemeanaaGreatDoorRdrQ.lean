/- A pack of texts: Rdr8 Rdr9 Rdr10. -/
import Derived.Test.YteoopoabemeanaaGreatDoorRdr7
/- The reader's readAtom, whole; readUnit, readAll, readAny. -/
namespace Go.Proofs.YteoopoabemeanaaGreatDoor
set_option maxRecDepth 100000
open Go.RowKit

theorem atom_name_bad {F : Lex} {T : ByteArray} (HW : Words F T) {g : Nat} {s : St} {v : Value} {m : Nat × Nat} (w : World) (h : Rdr w g T s v) (hs : s.here ≤ T.size) (hn : needM F 2 s = .error m) :
    Calls Tryz.prog 63 #[.pointer (some ⟨g, 0, none⟩)] w fun e w' => e = thrown m ∧ Below g w w' := by
  have HR0 : Hid (Rdr w g T s v) := h
  have HX : Hid (Words F T) := HW
  have HNE : Hid (needM F 2 s = .error m) := hn
  clear h HW hn
  go_enter Tryz.func63, Tryz.ntmps63
  go_wp2_with fail
  refine (need_bad HX.out 2 _ HR0.out hs HNE.out).mono ?_
  rintro e w1 ⟨rfl, hb⟩
  exact ⟨rfl, rfl, hb.mono (Nat.le_of_lt HR0.out.lt)⟩

theorem atom_cmp_bad {F : Lex} {T : ByteArray} (HW : Words F T) (hF : LexOk F T.size) {g : Nat} {s s1 : St} {v : Value} {m : Nat × Nat} (w : World) (h : Rdr w g T s v) (hs : s.here ≤ T.size) (hn : needM F 2 s = .ok s1) (hc : cmpM F s1 = .error m) :
    Calls Tryz.prog 63 #[.pointer (some ⟨g, 0, none⟩)] w fun e w' => e = thrown m ∧ Below g w w' := by
  have hcx : ∀ (a : Addr) (m : Mode) (W : World) (x y : Nat), (store a (.complex .f64 x y) m).run Tryz.prog W = stored Tryz.prog W a (.complex .f64 x y) m := fun a m W x y => run_store _ _ _ _ _ rfl
  have HR0 : Hid (Rdr w g T s v) := h
  have HX : Hid (Words F T) := HW
  have HNE : Hid (needM F 2 s = .ok s1) := hn
  have HCM : Hid (cmpM F s1 = .error m) := hc
  have h1 : s1.here ≤ T.size := (needM_dn1 hF (by decide) hs hn).here
  have hfd := fld2 s.next.kind s.next.place s.next.text s.next.n s.next.late
  clear h HW hn hc
  go_enter Tryz.func63, Tryz.ntmps63
  go_wp2_with fail
  refine (need_ok HX.out 2 _ HR0.out hs HNE.out).mono ?_
  rintro e w1 ⟨rfl, hr1, hk1⟩
  have HR1 : Hid (Rdr w1 g T s1 v) := hr1
  have HK1 : Hid (Kept g v w v w1) := hk1
  clear hr1 hk1
  simp only [Wd.cells]
  go_wp2_with fail
  refine (cmp_any HX.out _ (HR1.out.stay (below_alloc w1 _)) h1 _ HCM.out).mono ?_
  rintro e w2 ⟨rfl, hb⟩
  exact ⟨rfl, rfl, HK1.out.below.trans (((below_alloc w1 _).trans (hb.mono (by simp))).mono (Nat.le_of_lt HR1.out.lt))⟩

theorem atomM_ok {F : Lex} {s s1 s2 : St} {c : Nat} (hn : needM F 2 s = .ok s1) (hc : cmpM F s1 = .ok (c, s2)) : atomM F s = restM F s.next.text c s2 := by
  unfold atomM
  rw [hn]
  simp only [andThen, hc]
theorem atomM_bad1 {F : Lex} {s : St} {m : Nat × Nat} (hn : needM F 2 s = .error m) : atomM F s = .error m := by
  unfold atomM
  rw [hn]
  rfl
theorem atomM_bad2 {F : Lex} {s s1 : St} {m : Nat × Nat} (hn : needM F 2 s = .ok s1) (hc : cmpM F s1 = .error m) : atomM F s = .error m := by
  unfold atomM
  rw [hn]
  simp only [andThen, hc]
/-- readAtom. -/
theorem atom_any {F : Lex} {T : ByteArray} (HW : Words F T) (hF : LexOk F T.size) {g : Nat} {s : St} {v : Value} (w : World) (h : Rdr w g T s v) (hs : s.here ≤ T.size) (hl : s.terms.length + left T.size s ≤ 5000) :
    Calls Tryz.prog 63 #[.pointer (some ⟨g, 0, none⟩)] w fun e w' => AfterU g T w (atomM F s) e w' := by
  rcases hn : needM F 2 s with m | s1
  · rw [atomM_bad1 hn]
    exact atom_name_bad HW w h hs hn
  · rcases hc : cmpM F s1 with m | ⟨c, s2⟩
    · rw [atomM_bad2 hn hc]
      exact atom_cmp_bad HW hF w h hs hn hc
    · rw [atomM_ok hn hc]
      obtain ⟨h2, h10⟩ := cmpFrom_range 8 (by omega) hc
      have : c = 2 ∨ c = 3 ∨ c = 4 ∨ c = 5 ∨ c = 6 ∨ c = 7 ∨ c = 8 ∨ c = 9 ∨ c = 10 := by omega
      rcases this with rfl | rfl | rfl | rfl | rfl | rfl | rfl | rfl | rfl
      · exact atom_2 HW hF w h hs hl hn hc _ rfl
      · exact atom_3 HW hF w h hs hl hn hc _ rfl
      · exact atom_4 HW hF w h hs hl hn hc _ rfl
      · exact atom_5 HW hF w h hs hl hn hc _ rfl
      · exact atom_6 HW hF w h hs hl hn hc _ rfl
      · exact atom_7 HW hF w h hs hl hn hc _ rfl
      · exact atom_8 HW hF w h hs hl hn hc _ rfl
      · exact atom_9 HW hF w h hs hl hn hc _ rfl
      · exact atom_10 HW hF w h hs hl hn hc _ rfl

/-- What each of the three tells. -/
def RunOk (F : Lex) (T : ByteArray) (n : Nat) : Prop := ∀ (c f : Nat) (g : Nat) (s : St) (v : Value) (w : World), ((c = 0 ∧ f = 17 ∧ 8 * left T.size s + 6 < n) ∨ (c = 2 ∧ f = 27 ∧ 8 * left T.size s + 4 < n) ∨ (c = 4 ∧ f = 48 ∧ 8 * left T.size s + 2 < n)) →
  Rdr w g T s v → s.here ≤ T.size → s.terms.length + left T.size s ≤ 5000 → Calls Tryz.prog f #[.pointer (some ⟨g, 0, none⟩)] w fun e w' => AfterU g T w (runM F n c s) e w'

/-- A list of terms behind which one more is put: ? and a name. -/
theorem has_ok {F : Lex} {T : ByteArray} (HW : Words F T) (hF : LexOk F T.size) {g : Nat} {s s1 s2 : St} {v : Value} (w : World) (h : Rdr w g T s v) (hs : s.here ≤ T.size) (hl : s.terms.length + left T.size s ≤ 5000)
    (i1 : isS ⟨#[33]⟩ s = false) (i2 : isS ⟨#[40]⟩ s = false) (i3 : isS ⟨#[42]⟩ s = false) (i4 : isS ⟨#[35]⟩ s = false) (i5 : isS ⟨#[63]⟩ s = true) (hp : passM F s = .ok s1) (hn : needM F 2 s1 = .ok s2) :
    Calls Tryz.prog 48 #[.pointer (some ⟨g, 0, none⟩)] w fun e w' => e = .returned nothing ∧ (∃ v, Rdr w' g T (addM ⟨3, s1.next.text, 1, Val.zero, 0⟩ s2) v) ∧ Below g w w' := by
  have HR0 : Hid (Rdr w g T s v) := h
  have HX : Hid (Words F T) := HW
  have I1 : Hid (isS ⟨#[33]⟩ s = false) := i1
  have I2 : Hid (isS ⟨#[40]⟩ s = false) := i2
  have I3 : Hid (isS ⟨#[42]⟩ s = false) := i3
  have I4 : Hid (isS ⟨#[35]⟩ s = false) := i4
  have I5 : Hid (isS ⟨#[63]⟩ s = true) := i5
  have HP : Hid (passM F s = .ok s1) := hp
  have HNE : Hid (needM F 2 s1 = .ok s2) := hn
  have d1 := passM_dn hF hs hp
  have d2 := needM_dn1 hF (by decide) d1.here hn
  have h1 := d1.here
  have hl2 : s2.terms.length ≤ 5000 := by have := d1.terms; have := d2.terms; omega
  have hcx : ∀ (a : Addr) (m : Mode) (W : World) (x y : Nat), (store a (.complex .f64 x y) m).run Tryz.prog W = stored Tryz.prog W a (.complex .f64 x y) m := fun a m W x y => run_store _ _ _ _ _ rfl
  have hfd := fld2 s1.next.kind s1.next.place s1.next.text s1.next.n s1.next.late
  clear h HW i1 i2 i3 i4 i5 hp hn d1 d2 hl
  go_enter Tryz.func48, Tryz.ntmps48
  go_wp2_with fail
  refine (reader_isSign g T _ s v _ HR0.out).mono ?_
  rw [I1.out]; rintro e w0 ⟨rfl, rfl⟩
  go_wp2_with fail
  refine (reader_isSign g T _ s v _ HR0.out).mono ?_
  rw [I2.out]; rintro e w0' ⟨rfl, rfl⟩
  go_wp2_with fail
  refine (reader_isSign g T _ s v _ HR0.out).mono ?_
  rw [I3.out]; rintro e w1 ⟨rfl, rfl⟩
  go_wp2_with fail
  refine (reader_isSign g T _ s v _ HR0.out).mono ?_
  rw [I4.out]; rintro e w2 ⟨rfl, rfl⟩
  go_wp2_with fail
  refine (reader_isSign g T _ s v _ HR0.out).mono ?_
  rw [I5.out]; rintro e w3 ⟨rfl, rfl⟩
  go_wp2_with fail
  refine (pass_ok HX.out _ HR0.out hs HP.out).mono ?_
  rintro e w4 ⟨rfl, hr1, hk1⟩
  have HR1 : Hid (Rdr w4 g T s1 v) := hr1
  have HK1 : Hid (Kept g v w3 v w4) := hk1
  clear hr1 hk1 I1 I2 I3 I4 I5
  simp only [Wd.cells]
  go_wp2_with fail
  have hg4 := HR1.out.lt
  obtain ⟨va, vn, vc, rfl⟩ := HR1.out.tms.form3
  have r7 : w4.cell? ⟨g, 7, none⟩ = some (.slice va vn vc) := HR1.out.blk.cell 7 rfl
  have r7d : w4.drew.cell? ⟨g, 7, none⟩ = some (.slice va vn vc) := r7
  go_region_law (first
    | (refine step_append_tm rfl (.tmp 45) (.tmp 50) rfl (g + 1) _ s2.terms rfl (HRA.out.stay (below_alloc _ _)).tms ⟨w5.heap.size, 0, none⟩ 1 ⟨3, s1.next.text, 1, Val.zero, 0⟩ rfl (Tm.told (Blk.new w5 _ _)) (by omega) (by simp; omega) ?_; intro v' w9 ht hg; obtain ⟨hr2, hb2⟩ := (HRA.out.stay (below_alloc _ _)).more _ ht hg; have HR9 : Hid (Rdr (w9.setCell ⟨g, 7, none⟩ v') g T (addM ⟨3, s1.next.text, 1, Val.zero, 0⟩ s2) v') := hr2; have HB9 : Hid (Below g w3 (w9.setCell ⟨g, 7, none⟩ v')) := (HKA.out.below.trans ((below_alloc w5 _).mono (Nat.le_of_lt HRA.out.lt))).trans hb2; have HK9 : Hid (Blk w9 g (rcells T s2 (.slice va vn vc)) 65) := (HRA.out.stay (below_alloc _ _)).blk.grown hg (fun e => by have := (HRA.out.tms.row.lt g e.symm).1; omega); have d7 : w9.cell? ⟨g, 7, none⟩ = some (.slice va vn vc) := HK9.out.cell 7 rfl; have f7 := HK9.out.free 7; obtain ⟨va', nn, vc', rfl⟩ := ht.form3; clear hr2 hb2 ht hg)
    | (go_simp; go_at_call 18; refine (need_ok HX.out 2 _ (HR1.out.stay (Below.refl _ _).drew) h1 HNE.out).mono ?_; rintro e w5 ⟨rfl, hr5, hk5⟩; have HRA : Hid (Rdr w5 g T s2 (.slice va vn vc)) := hr5; have HKA : Hid (Kept g (.slice va vn vc) w3 (.slice va vn vc) w5) := HK1.out.trans ((Kept.of _ (Nat.le_of_lt hg4) (Below.refl _ _).drew).trans hk5); have r75 : w5.cell? ⟨g, 7, none⟩ = some (.slice va vn vc) := HRA.out.blk.cell 7 rfl; have hg5 := HRA.out.lt; clear hr5 hk5; simp only [Wd.cells]))
  all_goals
    refine ⟨rfl, _, results_none rfl _ _ _, ?_⟩
    exact ⟨rfl, ⟨_, HR9.out⟩, HB9.out⟩
end Go.Proofs.YteoopoabemeanaaGreatDoor
/- The reader's readUnit, case by case. -/
namespace Go.Proofs.YteoopoabemeanaaGreatDoor
set_option maxRecDepth 100000
open Go.RowKit

theorem AfterU.bad {g : Nat} {T : ByteArray} {w : World} {R : Res} {m : Nat × Nat} {w' : World} (h : R = .error m) (hb : Below g w w') : AfterU g T w R (thrown m) w' := by
  rw [h]
  exact ⟨rfl, hb⟩
theorem AfterU.good {g : Nat} {T : ByteArray} {w : World} {R : Res} {s' : St} {v : Value} {w' : World} (h : R = .ok s') (hr : Rdr w' g T s' v) (hb : Below g w w') : AfterU g T w R (.returned nothing) w' := by
  rw [h]
  exact ⟨rfl, ⟨v, hr⟩, hb⟩

theorem unit_pass_bad1 {F : Lex} {T : ByteArray} (HW : Words F T) (hF : LexOk F T.size) {g : Nat} {s : St} {v : Value} {m : Nat × Nat} (w : World) (h : Rdr w g T s v) (hs : s.here ≤ T.size) (_hl : s.terms.length + left T.size s ≤ 5000)
    (i1 : isS ⟨#[33]⟩ s = true) (p : passM F s = .error m) :
    Calls Tryz.prog 48 #[.pointer (some ⟨g, 0, none⟩)] w fun e w' => e = thrown m ∧ Below g w w' := by
  have HR0 : Hid (Rdr w g T s v) := h
  have HX : Hid (Words F T) := HW
  have HF : Hid (LexOk F T.size) := hF
  have I1 : Hid (isS ⟨#[33]⟩ s = true) := i1
  have Hp : Hid (passM F s = .error m) := p
  clear h HW hF i1 p
  go_enter Tryz.func48, Tryz.ntmps48
  go_wp2_with fail
  refine (reader_isSign g T _ s v _ HR0.out).mono ?_
  rw [I1.out]; rintro e x1 ⟨rfl, rfl⟩
  clear I1
  go_wp2_with fail
  refine (pass_bad HX.out _ HR0.out hs Hp.out).mono ?_
  rintro e w1 ⟨rfl, hb⟩
  exact ⟨rfl, rfl, hb.mono (Nat.le_of_lt HR0.out.lt)⟩

theorem unit_pass_bad2 {F : Lex} {T : ByteArray} (HW : Words F T) (hF : LexOk F T.size) {g : Nat} {s : St} {v : Value} {m : Nat × Nat} (w : World) (h : Rdr w g T s v) (hs : s.here ≤ T.size) (_hl : s.terms.length + left T.size s ≤ 5000)
    (i1 : isS ⟨#[33]⟩ s = false) (i2 : isS ⟨#[40]⟩ s = true) (p : passM F s = .error m) :
    Calls Tryz.prog 48 #[.pointer (some ⟨g, 0, none⟩)] w fun e w' => e = thrown m ∧ Below g w w' := by
  have HR0 : Hid (Rdr w g T s v) := h
  have HX : Hid (Words F T) := HW
  have HF : Hid (LexOk F T.size) := hF
  have I1 : Hid (isS ⟨#[33]⟩ s = false) := i1
  have I2 : Hid (isS ⟨#[40]⟩ s = true) := i2
  have Hp : Hid (passM F s = .error m) := p
  clear h HW hF i1 i2 p
  go_enter Tryz.func48, Tryz.ntmps48
  go_wp2_with fail
  refine (reader_isSign g T _ s v _ HR0.out).mono ?_
  rw [I1.out]; rintro e x1 ⟨rfl, rfl⟩
  go_wp2_with fail
  refine (reader_isSign g T _ s v _ HR0.out).mono ?_
  rw [I2.out]; rintro e x2 ⟨rfl, rfl⟩
  clear I1 I2
  go_wp2_with fail
  refine (pass_bad HX.out _ HR0.out hs Hp.out).mono ?_
  rintro e w1 ⟨rfl, hb⟩
  exact ⟨rfl, rfl, hb.mono (Nat.le_of_lt HR0.out.lt)⟩

theorem unit_pass_bad3 {F : Lex} {T : ByteArray} (HW : Words F T) (hF : LexOk F T.size) {g : Nat} {s : St} {v : Value} {m : Nat × Nat} (w : World) (h : Rdr w g T s v) (hs : s.here ≤ T.size) (_hl : s.terms.length + left T.size s ≤ 5000)
    (i1 : isS ⟨#[33]⟩ s = false) (i2 : isS ⟨#[40]⟩ s = false) (i3 : isS ⟨#[42]⟩ s = true) (p : passM F s = .error m) :
    Calls Tryz.prog 48 #[.pointer (some ⟨g, 0, none⟩)] w fun e w' => e = thrown m ∧ Below g w w' := by
  have HR0 : Hid (Rdr w g T s v) := h
  have HX : Hid (Words F T) := HW
  have HF : Hid (LexOk F T.size) := hF
  have I1 : Hid (isS ⟨#[33]⟩ s = false) := i1
  have I2 : Hid (isS ⟨#[40]⟩ s = false) := i2
  have I3 : Hid (isS ⟨#[42]⟩ s = true) := i3
  have Hp : Hid (passM F s = .error m) := p
  clear h HW hF i1 i2 i3 p
  go_enter Tryz.func48, Tryz.ntmps48
  go_wp2_with fail
  refine (reader_isSign g T _ s v _ HR0.out).mono ?_
  rw [I1.out]; rintro e x1 ⟨rfl, rfl⟩
  go_wp2_with fail
  refine (reader_isSign g T _ s v _ HR0.out).mono ?_
  rw [I2.out]; rintro e x2 ⟨rfl, rfl⟩
  go_wp2_with fail
  refine (reader_isSign g T _ s v _ HR0.out).mono ?_
  rw [I3.out]; rintro e x3 ⟨rfl, rfl⟩
  clear I1 I2 I3
  go_wp2_with fail
  refine (pass_bad HX.out _ HR0.out hs Hp.out).mono ?_
  rintro e w1 ⟨rfl, hb⟩
  exact ⟨rfl, rfl, hb.mono (Nat.le_of_lt HR0.out.lt)⟩

theorem unit_pass_bad4 {F : Lex} {T : ByteArray} (HW : Words F T) (hF : LexOk F T.size) {g : Nat} {s : St} {v : Value} {m : Nat × Nat} (w : World) (h : Rdr w g T s v) (hs : s.here ≤ T.size) (_hl : s.terms.length + left T.size s ≤ 5000)
    (i1 : isS ⟨#[33]⟩ s = false) (i2 : isS ⟨#[40]⟩ s = false) (i3 : isS ⟨#[42]⟩ s = false) (i4 : isS ⟨#[35]⟩ s = true) (p : passM F s = .error m) :
    Calls Tryz.prog 48 #[.pointer (some ⟨g, 0, none⟩)] w fun e w' => e = thrown m ∧ Below g w w' := by
  have HR0 : Hid (Rdr w g T s v) := h
  have HX : Hid (Words F T) := HW
  have HF : Hid (LexOk F T.size) := hF
  have I1 : Hid (isS ⟨#[33]⟩ s = false) := i1
  have I2 : Hid (isS ⟨#[40]⟩ s = false) := i2
  have I3 : Hid (isS ⟨#[42]⟩ s = false) := i3
  have I4 : Hid (isS ⟨#[35]⟩ s = true) := i4
  have Hp : Hid (passM F s = .error m) := p
  clear h HW hF i1 i2 i3 i4 p
  go_enter Tryz.func48, Tryz.ntmps48
  go_wp2_with fail
  refine (reader_isSign g T _ s v _ HR0.out).mono ?_
  rw [I1.out]; rintro e x1 ⟨rfl, rfl⟩
  go_wp2_with fail
  refine (reader_isSign g T _ s v _ HR0.out).mono ?_
  rw [I2.out]; rintro e x2 ⟨rfl, rfl⟩
  go_wp2_with fail
  refine (reader_isSign g T _ s v _ HR0.out).mono ?_
  rw [I3.out]; rintro e x3 ⟨rfl, rfl⟩
  go_wp2_with fail
  refine (reader_isSign g T _ s v _ HR0.out).mono ?_
  rw [I4.out]; rintro e x4 ⟨rfl, rfl⟩
  clear I1 I2 I3 I4
  go_wp2_with fail
  refine (pass_bad HX.out _ HR0.out hs Hp.out).mono ?_
  rintro e w1 ⟨rfl, hb⟩
  exact ⟨rfl, rfl, hb.mono (Nat.le_of_lt HR0.out.lt)⟩

theorem unit_pass_bad5 {F : Lex} {T : ByteArray} (HW : Words F T) (hF : LexOk F T.size) {g : Nat} {s : St} {v : Value} {m : Nat × Nat} (w : World) (h : Rdr w g T s v) (hs : s.here ≤ T.size) (_hl : s.terms.length + left T.size s ≤ 5000)
    (i1 : isS ⟨#[33]⟩ s = false) (i2 : isS ⟨#[40]⟩ s = false) (i3 : isS ⟨#[42]⟩ s = false) (i4 : isS ⟨#[35]⟩ s = false) (i5 : isS ⟨#[63]⟩ s = true) (p : passM F s = .error m) :
    Calls Tryz.prog 48 #[.pointer (some ⟨g, 0, none⟩)] w fun e w' => e = thrown m ∧ Below g w w' := by
  have HR0 : Hid (Rdr w g T s v) := h
  have HX : Hid (Words F T) := HW
  have HF : Hid (LexOk F T.size) := hF
  have I1 : Hid (isS ⟨#[33]⟩ s = false) := i1
  have I2 : Hid (isS ⟨#[40]⟩ s = false) := i2
  have I3 : Hid (isS ⟨#[42]⟩ s = false) := i3
  have I4 : Hid (isS ⟨#[35]⟩ s = false) := i4
  have I5 : Hid (isS ⟨#[63]⟩ s = true) := i5
  have Hp : Hid (passM F s = .error m) := p
  clear h HW hF i1 i2 i3 i4 i5 p
  go_enter Tryz.func48, Tryz.ntmps48
  go_wp2_with fail
  refine (reader_isSign g T _ s v _ HR0.out).mono ?_
  rw [I1.out]; rintro e x1 ⟨rfl, rfl⟩
  go_wp2_with fail
  refine (reader_isSign g T _ s v _ HR0.out).mono ?_
  rw [I2.out]; rintro e x2 ⟨rfl, rfl⟩
  go_wp2_with fail
  refine (reader_isSign g T _ s v _ HR0.out).mono ?_
  rw [I3.out]; rintro e x3 ⟨rfl, rfl⟩
  go_wp2_with fail
  refine (reader_isSign g T _ s v _ HR0.out).mono ?_
  rw [I4.out]; rintro e x4 ⟨rfl, rfl⟩
  go_wp2_with fail
  refine (reader_isSign g T _ s v _ HR0.out).mono ?_
  rw [I5.out]; rintro e x5 ⟨rfl, rfl⟩
  clear I1 I2 I3 I4 I5
  go_wp2_with fail
  refine (pass_bad HX.out _ HR0.out hs Hp.out).mono ?_
  rintro e w1 ⟨rfl, hb⟩
  exact ⟨rfl, rfl, hb.mono (Nat.le_of_lt HR0.out.lt)⟩

theorem unit_add3 {F : Lex} {T : ByteArray} (HW : Words F T) (hF : LexOk F T.size) {g : Nat} {s s1 : St} {v : Value} (w : World) (h : Rdr w g T s v) (hs : s.here ≤ T.size) (hl : s.terms.length + left T.size s ≤ 5000)
    (i1 : isS ⟨#[33]⟩ s = false) (i2 : isS ⟨#[40]⟩ s = false) (i3 : isS ⟨#[42]⟩ s = true) (p : passM F s = .ok s1) :
    Calls Tryz.prog 48 #[.pointer (some ⟨g, 0, none⟩)] w fun e w' => e = .returned nothing ∧ (∃ v, Rdr w' g T (addM (Tm.plain 1) s1) v) ∧ Below g w w' := by
  have HR0 : Hid (Rdr w g T s v) := h
  have HX : Hid (Words F T) := HW
  have HF : Hid (LexOk F T.size) := hF
  have I1 : Hid (isS ⟨#[33]⟩ s = false) := i1
  have I2 : Hid (isS ⟨#[40]⟩ s = false) := i2
  have I3 : Hid (isS ⟨#[42]⟩ s = true) := i3
  have Hp : Hid (passM F s = .ok s1) := p
  have d1 := passM_dn hF hs p
  have hl1 : s1.terms.length ≤ 10000 := by have := d1.terms; omega
  clear h HW hF i1 i2 i3 p d1
  go_enter Tryz.func48, Tryz.ntmps48
  go_wp2_with fail
  refine (reader_isSign g T _ s v _ HR0.out).mono ?_
  rw [I1.out]; rintro e x1 ⟨rfl, rfl⟩
  go_wp2_with fail
  refine (reader_isSign g T _ s v _ HR0.out).mono ?_
  rw [I2.out]; rintro e x2 ⟨rfl, rfl⟩
  go_wp2_with fail
  refine (reader_isSign g T _ s v _ HR0.out).mono ?_
  rw [I3.out]; rintro e x3 ⟨rfl, rfl⟩
  clear I1 I2 I3
  go_wp2_with fail
  refine (pass_ok HX.out _ HR0.out hs Hp.out).mono ?_
  rintro e w1 ⟨rfl, hr1, hk1⟩
  have HR1 : Hid (Rdr w1 g T s1 v) := hr1
  have HK1 : Hid (Below g x3 w1) := hk1.below
  clear hr1 hk1
  go_wp2_with fail
  refine (add_ok 1 _ HR1.out hl1).mono ?_
  rintro e w2 ⟨rfl, ⟨v2, hr2⟩, hb2⟩
  have HR2 : Hid (Rdr w2 g T (addM (Tm.plain 1) s1) v2) := hr2
  have HB2 : Hid (Below g x3 w2) := HK1.out.trans hb2
  clear hr2 hb2
  unfold nothing
  go_wp2
  exact ⟨rfl, _, results_none rfl _ _ _, rfl, ⟨_, HR2.out⟩, HB2.out⟩

theorem unit_add4 {F : Lex} {T : ByteArray} (HW : Words F T) (hF : LexOk F T.size) {g : Nat} {s s1 : St} {v : Value} (w : World) (h : Rdr w g T s v) (hs : s.here ≤ T.size) (hl : s.terms.length + left T.size s ≤ 5000)
    (i1 : isS ⟨#[33]⟩ s = false) (i2 : isS ⟨#[40]⟩ s = false) (i3 : isS ⟨#[42]⟩ s = false) (i4 : isS ⟨#[35]⟩ s = true) (p : passM F s = .ok s1) :
    Calls Tryz.prog 48 #[.pointer (some ⟨g, 0, none⟩)] w fun e w' => e = .returned nothing ∧ (∃ v, Rdr w' g T (addM (Tm.plain 2) s1) v) ∧ Below g w w' := by
  have HR0 : Hid (Rdr w g T s v) := h
  have HX : Hid (Words F T) := HW
  have HF : Hid (LexOk F T.size) := hF
  have I1 : Hid (isS ⟨#[33]⟩ s = false) := i1
  have I2 : Hid (isS ⟨#[40]⟩ s = false) := i2
  have I3 : Hid (isS ⟨#[42]⟩ s = false) := i3
  have I4 : Hid (isS ⟨#[35]⟩ s = true) := i4
  have Hp : Hid (passM F s = .ok s1) := p
  have d1 := passM_dn hF hs p
  have hl1 : s1.terms.length ≤ 10000 := by have := d1.terms; omega
  clear h HW hF i1 i2 i3 i4 p d1
  go_enter Tryz.func48, Tryz.ntmps48
  go_wp2_with fail
  refine (reader_isSign g T _ s v _ HR0.out).mono ?_
  rw [I1.out]; rintro e x1 ⟨rfl, rfl⟩
  go_wp2_with fail
  refine (reader_isSign g T _ s v _ HR0.out).mono ?_
  rw [I2.out]; rintro e x2 ⟨rfl, rfl⟩
  go_wp2_with fail
  refine (reader_isSign g T _ s v _ HR0.out).mono ?_
  rw [I3.out]; rintro e x3 ⟨rfl, rfl⟩
  go_wp2_with fail
  refine (reader_isSign g T _ s v _ HR0.out).mono ?_
  rw [I4.out]; rintro e x4 ⟨rfl, rfl⟩
  clear I1 I2 I3 I4
  go_wp2_with fail
  refine (pass_ok HX.out _ HR0.out hs Hp.out).mono ?_
  rintro e w1 ⟨rfl, hr1, hk1⟩
  have HR1 : Hid (Rdr w1 g T s1 v) := hr1
  have HK1 : Hid (Below g x4 w1) := hk1.below
  clear hr1 hk1
  go_wp2_with fail
  refine (add_ok 2 _ HR1.out hl1).mono ?_
  rintro e w2 ⟨rfl, ⟨v2, hr2⟩, hb2⟩
  have HR2 : Hid (Rdr w2 g T (addM (Tm.plain 2) s1) v2) := hr2
  have HB2 : Hid (Below g x4 w2) := HK1.out.trans hb2
  clear hr2 hb2
  unfold nothing
  go_wp2
  exact ⟨rfl, _, results_none rfl _ _ _, rfl, ⟨_, HR2.out⟩, HB2.out⟩

theorem unit_has_bad {F : Lex} {T : ByteArray} (HW : Words F T) (hF : LexOk F T.size) {g : Nat} {s s1 : St} {v : Value} {m : Nat × Nat} (w : World) (h : Rdr w g T s v) (hs : s.here ≤ T.size) (_hl : s.terms.length + left T.size s ≤ 5000)
    (i1 : isS ⟨#[33]⟩ s = false) (i2 : isS ⟨#[40]⟩ s = false) (i3 : isS ⟨#[42]⟩ s = false) (i4 : isS ⟨#[35]⟩ s = false) (i5 : isS ⟨#[63]⟩ s = true) (p : passM F s = .ok s1) (n : needM F 2 s1 = .error m) :
    Calls Tryz.prog 48 #[.pointer (some ⟨g, 0, none⟩)] w fun e w' => e = thrown m ∧ Below g w w' := by
  have HR0 : Hid (Rdr w g T s v) := h
  have HX : Hid (Words F T) := HW
  have HF : Hid (LexOk F T.size) := hF
  have I1 : Hid (isS ⟨#[33]⟩ s = false) := i1
  have I2 : Hid (isS ⟨#[40]⟩ s = false) := i2
  have I3 : Hid (isS ⟨#[42]⟩ s = false) := i3
  have I4 : Hid (isS ⟨#[35]⟩ s = false) := i4
  have I5 : Hid (isS ⟨#[63]⟩ s = true) := i5
  have Hp : Hid (passM F s = .ok s1) := p
  have Hn : Hid (needM F 2 s1 = .error m) := n
  have d1 := passM_dn hF hs p
  have h1 := d1.here
  clear h HW hF i1 i2 i3 i4 i5 p n d1
  go_enter Tryz.func48, Tryz.ntmps48
  go_wp2_with fail
  refine (reader_isSign g T _ s v _ HR0.out).mono ?_
  rw [I1.out]; rintro e x1 ⟨rfl, rfl⟩
  go_wp2_with fail
  refine (reader_isSign g T _ s v _ HR0.out).mono ?_
  rw [I2.out]; rintro e x2 ⟨rfl, rfl⟩
  go_wp2_with fail
  refine (reader_isSign g T _ s v _ HR0.out).mono ?_
  rw [I3.out]; rintro e x3 ⟨rfl, rfl⟩
  go_wp2_with fail
  refine (reader_isSign g T _ s v _ HR0.out).mono ?_
  rw [I4.out]; rintro e x4 ⟨rfl, rfl⟩
  go_wp2_with fail
  refine (reader_isSign g T _ s v _ HR0.out).mono ?_
  rw [I5.out]; rintro e x5 ⟨rfl, rfl⟩
  clear I1 I2 I3 I4 I5
  go_wp2_with fail
  refine (pass_ok HX.out _ HR0.out hs Hp.out).mono ?_
  rintro e w1 ⟨rfl, hr1, hk1⟩
  have HR1 : Hid (Rdr w1 g T s1 v) := hr1
  have HK1 : Hid (Below g x5 w1) := hk1.below
  clear hr1 hk1
  have hg4 := HR1.out.lt
  obtain ⟨va, vn, vc, rfl⟩ := HR1.out.tms.form3
  have r7 : w1.cell? ⟨g, 7, none⟩ = some (.slice va vn vc) := HR1.out.blk.cell 7 rfl
  have r7d : w1.drew.cell? ⟨g, 7, none⟩ = some (.slice va vn vc) := r7
  go_wp2_with fail
  go_region_dies
  all_goals
    refine (need_bad HX.out 2 _ (HR1.out.stay (Below.refl _ _).drew) h1 Hn.out).mono ?_
    rintro e w5 ⟨rfl, hb5⟩
    exact ⟨rfl, rfl, HK1.out.trans (((Below.refl _ _).drew.trans hb5).mono (Nat.le_of_lt hg4))⟩

theorem unit_atom {F : Lex} {T : ByteArray} (HW : Words F T) (hF : LexOk F T.size) {g : Nat} {s : St} {v : Value} (w : World) (h : Rdr w g T s v) (hs : s.here ≤ T.size) (hl : s.terms.length + left T.size s ≤ 5000)
    (i1 : isS ⟨#[33]⟩ s = false) (i2 : isS ⟨#[40]⟩ s = false) (i3 : isS ⟨#[42]⟩ s = false) (i4 : isS ⟨#[35]⟩ s = false) (i5 : isS ⟨#[63]⟩ s = false)  :
    Calls Tryz.prog 48 #[.pointer (some ⟨g, 0, none⟩)] w fun e w' => AfterU g T w (atomM F s) e w' := by
  have HR0 : Hid (Rdr w g T s v) := h
  have HX : Hid (Words F T) := HW
  have HF : Hid (LexOk F T.size) := hF
  have I1 : Hid (isS ⟨#[33]⟩ s = false) := i1
  have I2 : Hid (isS ⟨#[40]⟩ s = false) := i2
  have I3 : Hid (isS ⟨#[42]⟩ s = false) := i3
  have I4 : Hid (isS ⟨#[35]⟩ s = false) := i4
  have I5 : Hid (isS ⟨#[63]⟩ s = false) := i5

  clear h HW hF i1 i2 i3 i4 i5 
  go_enter Tryz.func48, Tryz.ntmps48
  go_wp2_with fail
  refine (reader_isSign g T _ s v _ HR0.out).mono ?_
  rw [I1.out]; rintro e x1 ⟨rfl, rfl⟩
  go_wp2_with fail
  refine (reader_isSign g T _ s v _ HR0.out).mono ?_
  rw [I2.out]; rintro e x2 ⟨rfl, rfl⟩
  go_wp2_with fail
  refine (reader_isSign g T _ s v _ HR0.out).mono ?_
  rw [I3.out]; rintro e x3 ⟨rfl, rfl⟩
  go_wp2_with fail
  refine (reader_isSign g T _ s v _ HR0.out).mono ?_
  rw [I4.out]; rintro e x4 ⟨rfl, rfl⟩
  go_wp2_with fail
  refine (reader_isSign g T _ s v _ HR0.out).mono ?_
  rw [I5.out]; rintro e x5 ⟨rfl, rfl⟩
  clear I1 I2 I3 I4 I5
  go_wp2_with fail
  refine (atom_any HX.out HF.out _ HR0.out hs hl).mono ?_
  intro e w1 ha
  rcases hr : atomM F s with m | s1
  · rw [hr] at ha
    obtain ⟨rfl, hb⟩ := ha
    exact ⟨rfl, AfterU.bad hr hb⟩
  · rw [hr] at ha
    obtain ⟨rfl, ⟨v1, hr1⟩, hb⟩ := ha
    have HR1 : Hid (Rdr w1 g T s1 v1) := hr1
    have HB1 : Hid (Below g x5 w1) := hb
    have HRR : Hid (atomM F s = .ok s1) := hr
    clear hr1 hb hr
    unfold nothing
    go_wp2
    exact ⟨rfl, _, results_none rfl _ _ _, AfterU.good HRR.out HR1.out HB1.out⟩

theorem unit_not_bad {F : Lex} {T : ByteArray} (HW : Words F T) (hF : LexOk F T.size) {g : Nat} {s s1 : St} {v : Value} {m : Nat × Nat} (w : World) (h : Rdr w g T s v) (hs : s.here ≤ T.size) (_hl : s.terms.length + left T.size s ≤ 5000)
    (i1 : isS ⟨#[33]⟩ s = true) (p : passM F s = .ok s1) (ru : ∀ w v, Rdr w g T s1 v → Calls Tryz.prog 48 #[.pointer (some ⟨g, 0, none⟩)] w fun e w' => e = thrown m ∧ Below g w w') :
    Calls Tryz.prog 48 #[.pointer (some ⟨g, 0, none⟩)] w fun e w' => e = thrown m ∧ Below g w w' := by
  have HR0 : Hid (Rdr w g T s v) := h
  have HX : Hid (Words F T) := HW
  have HF : Hid (LexOk F T.size) := hF
  have I1 : Hid (isS ⟨#[33]⟩ s = true) := i1
  have Hp : Hid (passM F s = .ok s1) := p
  have Hru : Hid (∀ w v, Rdr w g T s1 v → Calls Tryz.prog 48 #[.pointer (some ⟨g, 0, none⟩)] w fun e w' => e = thrown m ∧ Below g w w') := ru
  clear h HW hF i1 p ru
  go_enter Tryz.func48, Tryz.ntmps48
  go_wp2_with fail
  refine (reader_isSign g T _ s v _ HR0.out).mono ?_
  rw [I1.out]; rintro e x1 ⟨rfl, rfl⟩
  clear I1
  go_wp2_with fail
  refine (pass_ok HX.out _ HR0.out hs Hp.out).mono ?_
  rintro e w1 ⟨rfl, hr1, hk1⟩
  have HR1 : Hid (Rdr w1 g T s1 v) := hr1
  have HK1 : Hid (Below g x1 w1) := hk1.below
  clear hr1 hk1
  go_wp2_with fail
  refine (Hru.out _ _ HR1.out).mono ?_
  rintro e w5 ⟨rfl, hb5⟩
  exact ⟨rfl, rfl, HK1.out.trans hb5⟩

theorem unit_not_ok {F : Lex} {T : ByteArray} (HW : Words F T) (hF : LexOk F T.size) {g : Nat} {s s1 s2 : St} {v : Value} (w : World) (h : Rdr w g T s v) (hs : s.here ≤ T.size) (_hl : s.terms.length + left T.size s ≤ 5000) (hl2 : s2.terms.length ≤ 10000)
    (i1 : isS ⟨#[33]⟩ s = true) (p : passM F s = .ok s1) (ru : ∀ w v, Rdr w g T s1 v → Calls Tryz.prog 48 #[.pointer (some ⟨g, 0, none⟩)] w fun e w' => e = .returned nothing ∧ (∃ v, Rdr w' g T s2 v) ∧ Below g w w') :
    Calls Tryz.prog 48 #[.pointer (some ⟨g, 0, none⟩)] w fun e w' => e = .returned nothing ∧ (∃ v, Rdr w' g T (addM (Tm.plain 4) s2) v) ∧ Below g w w' := by
  have HR0 : Hid (Rdr w g T s v) := h
  have HX : Hid (Words F T) := HW
  have HF : Hid (LexOk F T.size) := hF
  have I1 : Hid (isS ⟨#[33]⟩ s = true) := i1
  have Hp : Hid (passM F s = .ok s1) := p
  have Hru : Hid (∀ w v, Rdr w g T s1 v → Calls Tryz.prog 48 #[.pointer (some ⟨g, 0, none⟩)] w fun e w' => e = .returned nothing ∧ (∃ v, Rdr w' g T s2 v) ∧ Below g w w') := ru
  clear h HW hF i1 p ru
  go_enter Tryz.func48, Tryz.ntmps48
  go_wp2_with fail
  refine (reader_isSign g T _ s v _ HR0.out).mono ?_
  rw [I1.out]; rintro e x1 ⟨rfl, rfl⟩
  clear I1
  go_wp2_with fail
  refine (pass_ok HX.out _ HR0.out hs Hp.out).mono ?_
  rintro e w1 ⟨rfl, hr1, hk1⟩
  have HR1 : Hid (Rdr w1 g T s1 v) := hr1
  have HK1 : Hid (Below g x1 w1) := hk1.below
  clear hr1 hk1
  go_wp2_with fail
  refine (Hru.out _ _ HR1.out).mono ?_
  rintro e w5 ⟨rfl, ⟨v5, hr5⟩, hb5⟩
  have HR5 : Hid (Rdr w5 g T s2 v5) := hr5
  have HB5 : Hid (Below g x1 w5) := HK1.out.trans hb5
  clear hr5 hb5
  unfold nothing
  go_wp2_with fail
  refine (add_ok 4 _ HR5.out hl2).mono ?_
  rintro e w2 ⟨rfl, ⟨v2, hr2⟩, hb2⟩
  have HR2 : Hid (Rdr w2 g T (addM (Tm.plain 4) s2) v2) := hr2
  have HB2 : Hid (Below g x1 w2) := HB5.out.trans hb2
  clear hr2 hb2
  unfold nothing
  go_wp2
  exact ⟨rfl, _, results_none rfl _ _ _, rfl, ⟨_, HR2.out⟩, HB2.out⟩

theorem unit_par_bad {F : Lex} {T : ByteArray} (HW : Words F T) (hF : LexOk F T.size) {g : Nat} {s s1 : St} {v : Value} {m : Nat × Nat} (w : World) (h : Rdr w g T s v) (hs : s.here ≤ T.size) (_hl : s.terms.length + left T.size s ≤ 5000)
    (i1 : isS ⟨#[33]⟩ s = false) (i2 : isS ⟨#[40]⟩ s = true) (p : passM F s = .ok s1) (ru : ∀ w v, Rdr w g T s1 v → Calls Tryz.prog 17 #[.pointer (some ⟨g, 0, none⟩)] w fun e w' => e = thrown m ∧ Below g w w') :
    Calls Tryz.prog 48 #[.pointer (some ⟨g, 0, none⟩)] w fun e w' => e = thrown m ∧ Below g w w' := by
  have HR0 : Hid (Rdr w g T s v) := h
  have HX : Hid (Words F T) := HW
  have HF : Hid (LexOk F T.size) := hF
  have I1 : Hid (isS ⟨#[33]⟩ s = false) := i1
  have I2 : Hid (isS ⟨#[40]⟩ s = true) := i2
  have Hp : Hid (passM F s = .ok s1) := p
  have Hru : Hid (∀ w v, Rdr w g T s1 v → Calls Tryz.prog 17 #[.pointer (some ⟨g, 0, none⟩)] w fun e w' => e = thrown m ∧ Below g w w') := ru
  clear h HW hF i1 i2 p ru
  go_enter Tryz.func48, Tryz.ntmps48
  go_wp2_with fail
  refine (reader_isSign g T _ s v _ HR0.out).mono ?_
  rw [I1.out]; rintro e x1 ⟨rfl, rfl⟩
  go_wp2_with fail
  refine (reader_isSign g T _ s v _ HR0.out).mono ?_
  rw [I2.out]; rintro e x2 ⟨rfl, rfl⟩
  clear I1 I2
  go_wp2_with fail
  refine (pass_ok HX.out _ HR0.out hs Hp.out).mono ?_
  rintro e w1 ⟨rfl, hr1, hk1⟩
  have HR1 : Hid (Rdr w1 g T s1 v) := hr1
  have HK1 : Hid (Below g x2 w1) := hk1.below
  clear hr1 hk1
  go_wp2_with fail
  refine (Hru.out _ _ HR1.out).mono ?_
  rintro e w5 ⟨rfl, hb5⟩
  exact ⟨rfl, rfl, HK1.out.trans hb5⟩

theorem unit_par_ok {F : Lex} {T : ByteArray} (HW : Words F T) (hF : LexOk F T.size) {g : Nat} {s s1 s2 s3 : St} {v : Value} (w : World) (h : Rdr w g T s v) (hs : s.here ≤ T.size) (_hl : s.terms.length + left T.size s ≤ 5000) (h2 : s2.here ≤ T.size)
    (i1 : isS ⟨#[33]⟩ s = false) (i2 : isS ⟨#[40]⟩ s = true) (p : passM F s = .ok s1) (ru : ∀ w v, Rdr w g T s1 v → Calls Tryz.prog 17 #[.pointer (some ⟨g, 0, none⟩)] w fun e w' => e = .returned nothing ∧ (∃ v, Rdr w' g T s2 v) ∧ Below g w w') (n : needS F ⟨#[41]⟩ s2 = .ok s3) :
    Calls Tryz.prog 48 #[.pointer (some ⟨g, 0, none⟩)] w fun e w' => e = .returned nothing ∧ (∃ v, Rdr w' g T (s3) v) ∧ Below g w w' := by
  have HR0 : Hid (Rdr w g T s v) := h
  have HX : Hid (Words F T) := HW
  have HF : Hid (LexOk F T.size) := hF
  have I1 : Hid (isS ⟨#[33]⟩ s = false) := i1
  have I2 : Hid (isS ⟨#[40]⟩ s = true) := i2
  have Hp : Hid (passM F s = .ok s1) := p
  have Hru : Hid (∀ w v, Rdr w g T s1 v → Calls Tryz.prog 17 #[.pointer (some ⟨g, 0, none⟩)] w fun e w' => e = .returned nothing ∧ (∃ v, Rdr w' g T s2 v) ∧ Below g w w') := ru
  have Hn : Hid (needS F ⟨#[41]⟩ s2 = .ok s3) := n
  clear h HW hF i1 i2 p ru n
  go_enter Tryz.func48, Tryz.ntmps48
  go_wp2_with fail
  refine (reader_isSign g T _ s v _ HR0.out).mono ?_
  rw [I1.out]; rintro e x1 ⟨rfl, rfl⟩
  go_wp2_with fail
  refine (reader_isSign g T _ s v _ HR0.out).mono ?_
  rw [I2.out]; rintro e x2 ⟨rfl, rfl⟩
  clear I1 I2
  go_wp2_with fail
  refine (pass_ok HX.out _ HR0.out hs Hp.out).mono ?_
  rintro e w1 ⟨rfl, hr1, hk1⟩
  have HR1 : Hid (Rdr w1 g T s1 v) := hr1
  have HK1 : Hid (Below g x2 w1) := hk1.below
  clear hr1 hk1
  go_wp2_with fail
  refine (Hru.out _ _ HR1.out).mono ?_
  rintro e w5 ⟨rfl, ⟨v5, hr5⟩, hb5⟩
  have HR5 : Hid (Rdr w5 g T s2 v5) := hr5
  have HB5 : Hid (Below g x2 w5) := HK1.out.trans hb5
  clear hr5 hb5
  unfold nothing
  go_wp2_with fail
  refine (needS_ok HX.out _ _ HR5.out h2 Hn.out).mono ?_
  rintro e w2 ⟨rfl, hr2, hk2⟩
  have HR2 : Hid (Rdr w2 g T s3 v5) := hr2
  have HB2 : Hid (Below g x2 w2) := HB5.out.trans hk2.below
  clear hr2 hk2
  unfold nothing
  go_wp2
  exact ⟨rfl, _, results_none rfl _ _ _, rfl, ⟨_, HR2.out⟩, HB2.out⟩

theorem unit_par_end {F : Lex} {T : ByteArray} (HW : Words F T) (hF : LexOk F T.size) {g : Nat} {s s1 s2 : St} {v : Value} {m : Nat × Nat} (w : World) (h : Rdr w g T s v) (hs : s.here ≤ T.size) (_hl : s.terms.length + left T.size s ≤ 5000) (h2 : s2.here ≤ T.size)
    (i1 : isS ⟨#[33]⟩ s = false) (i2 : isS ⟨#[40]⟩ s = true) (p : passM F s = .ok s1) (ru : ∀ w v, Rdr w g T s1 v → Calls Tryz.prog 17 #[.pointer (some ⟨g, 0, none⟩)] w fun e w' => e = .returned nothing ∧ (∃ v, Rdr w' g T s2 v) ∧ Below g w w') (n : needS F ⟨#[41]⟩ s2 = .error m) :
    Calls Tryz.prog 48 #[.pointer (some ⟨g, 0, none⟩)] w fun e w' => e = thrown m ∧ Below g w w' := by
  have HR0 : Hid (Rdr w g T s v) := h
  have HX : Hid (Words F T) := HW
  have HF : Hid (LexOk F T.size) := hF
  have I1 : Hid (isS ⟨#[33]⟩ s = false) := i1
  have I2 : Hid (isS ⟨#[40]⟩ s = true) := i2
  have Hp : Hid (passM F s = .ok s1) := p
  have Hru : Hid (∀ w v, Rdr w g T s1 v → Calls Tryz.prog 17 #[.pointer (some ⟨g, 0, none⟩)] w fun e w' => e = .returned nothing ∧ (∃ v, Rdr w' g T s2 v) ∧ Below g w w') := ru
  have Hn : Hid (needS F ⟨#[41]⟩ s2 = .error m) := n
  clear h HW hF i1 i2 p ru n
  go_enter Tryz.func48, Tryz.ntmps48
  go_wp2_with fail
  refine (reader_isSign g T _ s v _ HR0.out).mono ?_
  rw [I1.out]; rintro e x1 ⟨rfl, rfl⟩
  go_wp2_with fail
  refine (reader_isSign g T _ s v _ HR0.out).mono ?_
  rw [I2.out]; rintro e x2 ⟨rfl, rfl⟩
  clear I1 I2
  go_wp2_with fail
  refine (pass_ok HX.out _ HR0.out hs Hp.out).mono ?_
  rintro e w1 ⟨rfl, hr1, hk1⟩
  have HR1 : Hid (Rdr w1 g T s1 v) := hr1
  have HK1 : Hid (Below g x2 w1) := hk1.below
  clear hr1 hk1
  go_wp2_with fail
  refine (Hru.out _ _ HR1.out).mono ?_
  rintro e w5 ⟨rfl, ⟨v5, hr5⟩, hb5⟩
  have HR5 : Hid (Rdr w5 g T s2 v5) := hr5
  have HB5 : Hid (Below g x2 w5) := HK1.out.trans hb5
  clear hr5 hb5
  unfold nothing
  go_wp2_with fail
  refine (needS_bad HX.out _ _ HR5.out h2 Hn.out).mono ?_
  rintro e w2 ⟨rfl, hb2⟩
  exact ⟨rfl, rfl, HB5.out.trans (hb2.mono (Nat.le_of_lt HR5.out.lt))⟩

end Go.Proofs.YteoopoabemeanaaGreatDoor
/- The reader's readUnit, readAll, readAny: whole. -/
namespace Go.Proofs.YteoopoabemeanaaGreatDoor
set_option maxRecDepth 100000
open Go.RowKit

theorem runM_unit (F : Lex) (n : Nat) (s : St) : runM F (n + 1) 4 s = (if isS ⟨#[33]⟩ s = true then andThen (passM F s) fun s1 => andThen (runM F n 4 s1) fun s2 => .ok (addM (Tm.plain 4) s2)
    else if isS ⟨#[40]⟩ s = true then andThen (passM F s) fun s1 => andThen (runM F n 0 s1) fun s2 => needS F ⟨#[41]⟩ s2
    else if isS ⟨#[42]⟩ s = true then andThen (passM F s) fun s1 => .ok (addM (Tm.plain 1) s1)
    else if isS ⟨#[35]⟩ s = true then andThen (passM F s) fun s1 => .ok (addM (Tm.plain 2) s1)
    else if isS ⟨#[63]⟩ s = true then andThen (passM F s) fun s1 => andThen (needM F 2 s1) fun s2 => .ok (addM ⟨3, s1.next.text, 1, Val.zero, 0⟩ s2)
    else atomM F s) := rfl

theorem unit_any {F : Lex} {T : ByteArray} (HW : Words F T) (hF : LexOk F T.size) (n : Nat) (ih : RunOk F T n) {g : Nat} {s : St} {v : Value} (w : World) (hn : 8 * left T.size s + 2 < n + 1) (h : Rdr w g T s v) (hs : s.here ≤ T.size) (hl : s.terms.length + left T.size s ≤ 5000) :
    Calls Tryz.prog 48 #[.pointer (some ⟨g, 0, none⟩)] w fun e w' => AfterU g T w (runM F (n + 1) 4 s) e w' := by
  rw [runM_unit]
  cases i1 : isS ⟨#[33]⟩ s with
  | true =>
    rw [if_pos rfl]
    rcases hp : passM F s with m | s1
    · exact (unit_pass_bad1 HW hF w h hs hl i1 hp)
    · obtain ⟨d1, l1⟩ := passM_dn1 hF hs (isS_kind i1) hp
      have hl1 : s1.terms.length + left T.size s1 ≤ 5000 := by have := d1.terms; omega
      have ru : ∀ w v, Rdr w g T s1 v → Calls Tryz.prog 48 #[.pointer (some ⟨g, 0, none⟩)] w fun e w' => AfterU g T w (runM F n 4 s1) e w' := fun w v hr => ih 4 _ g s1 v w (.inr (.inr ⟨rfl, rfl, by omega⟩)) hr d1.here hl1
      show Calls _ _ _ _ fun e w' => AfterU g T w (andThen (runM F n 4 s1) fun s2 => .ok (addM (Tm.plain 4) s2)) e w'
      rcases hu : runM F n 4 s1 with m | s2
      · rw [hu] at ru
        exact unit_not_bad HW hF w h hs hl i1 hp ru
      · rw [hu] at ru
        have d2 := runM_dn hF n 4 d1.here hu
        exact unit_not_ok HW hF w h hs hl (by have := d2.terms; omega) i1 hp ru
  | false =>
  rw [if_neg (by simp)]
  cases i2 : isS ⟨#[40]⟩ s with
  | true =>
    rw [if_pos rfl]
    rcases hp : passM F s with m | s1
    · exact (unit_pass_bad2 HW hF w h hs hl i1 i2 hp)
    · obtain ⟨d1, l1⟩ := passM_dn1 hF hs (isS_kind i2) hp
      have hl1 : s1.terms.length + left T.size s1 ≤ 5000 := by have := d1.terms; omega
      have ru : ∀ w v, Rdr w g T s1 v → Calls Tryz.prog 17 #[.pointer (some ⟨g, 0, none⟩)] w fun e w' => AfterU g T w (runM F n 0 s1) e w' := fun w v hr => ih 0 _ g s1 v w (.inl ⟨rfl, rfl, by omega⟩) hr d1.here hl1
      show Calls _ _ _ _ fun e w' => AfterU g T w (andThen (runM F n 0 s1) fun s2 => needS F ⟨#[41]⟩ s2) e w'
      rcases hu : runM F n 0 s1 with m | s2
      · rw [hu] at ru
        exact unit_par_bad HW hF w h hs hl i1 i2 hp ru
      · rw [hu] at ru
        have d2 := runM_dn hF n 0 d1.here hu
        show Calls _ _ _ _ fun e w' => AfterU g T w (needS F ⟨#[41]⟩ s2) e w'
        rcases he : needS F ⟨#[41]⟩ s2 with m | s3
        · exact unit_par_end HW hF w h hs hl d2.here i1 i2 hp ru he
        · exact unit_par_ok HW hF w h hs hl d2.here i1 i2 hp ru he
  | false =>
  rw [if_neg (by simp)]
  cases i3 : isS ⟨#[42]⟩ s with
  | true =>
    rw [if_pos rfl]
    rcases hp : passM F s with m | s1
    · exact (unit_pass_bad3 HW hF w h hs hl i1 i2 i3 hp)
    · exact unit_add3 HW hF w h hs hl i1 i2 i3 hp
  | false =>
  rw [if_neg (by simp)]
  cases i4 : isS ⟨#[35]⟩ s with
  | true =>
    rw [if_pos rfl]
    rcases hp : passM F s with m | s1
    · exact (unit_pass_bad4 HW hF w h hs hl i1 i2 i3 i4 hp)
    · exact unit_add4 HW hF w h hs hl i1 i2 i3 i4 hp
  | false =>
  rw [if_neg (by simp)]
  cases i5 : isS ⟨#[63]⟩ s with
  | true =>
    rw [if_pos rfl]
    rcases hp : passM F s with m | s1
    · exact (unit_pass_bad5 HW hF w h hs hl i1 i2 i3 i4 i5 hp)
    · show Calls _ _ _ _ fun e w' => AfterU g T w (andThen (needM F 2 s1) fun s2 => .ok (addM ⟨3, s1.next.text, 1, Val.zero, 0⟩ s2)) e w'
      rcases he : needM F 2 s1 with m | s2
      · exact unit_has_bad HW hF w h hs hl i1 i2 i3 i4 i5 hp he
      · exact has_ok HW hF w h hs hl i1 i2 i3 i4 i5 hp he
  | false =>
    rw [if_neg (by simp)]
    exact unit_atom HW hF w h hs hl i1 i2 i3 i4 i5

theorem runM_loop1 (F : Lex) (n : Nat) (s : St) : runM F (n + 1) 1 s = (if isS ⟨#[124]⟩ s = true then andThen (passM F s) (fun s1 => andThen (runM F n 2 s1) fun s2 => runM F n 1 (addM (Tm.plain 6) s2)) else .ok s) := rfl
set_option maxHeartbeats 1000000 in
theorem any_any {F : Lex} {T : ByteArray} (HW : Words F T) (hF : LexOk F T.size) (n : Nat) (ih : ∀ m, m ≤ n → RunOk F T m) {g : Nat} {s : St} {v : Value} (w : World) (hn : 8 * left T.size s + 6 < n + 1) (h : Rdr w g T s v) (hs : s.here ≤ T.size) (hl : s.terms.length + left T.size s ≤ 5000) :
    Calls Tryz.prog 17 #[.pointer (some ⟨g, 0, none⟩)] w fun e w' => AfterU g T w (runM F (n + 1) 0 s) e w' := by
  have HX : Hid (Words F T) := HW
  have HF : Hid (LexOk F T.size) := hF
  have HIH : Hid (∀ m, m ≤ n → RunOk F T m) := ih
  have ru : Calls Tryz.prog 27 #[.pointer (some ⟨g, 0, none⟩)] w fun e w' => AfterU g T w (runM F n 2 s) e w' := ih n (Nat.le_refl _) 2 _ g s v w (.inr (.inl ⟨rfl, rfl, by omega⟩)) h hs hl
  obtain ⟨R, hR⟩ : ∃ R, runM F (n + 1) 0 s = R := ⟨_, rfl⟩
  have hR2 : andThen (runM F n 2 s) (runM F n 1) = R := hR
  rw [hR]
  clear hR
  rcases hu : runM F n 2 s with m | s1
  · rw [hu] at ru hR2
    have HE : Hid (R = .error m) := hR2.symm
    have HRU : Hid (Calls Tryz.prog 27 #[.pointer (some ⟨g, 0, none⟩)] w fun e w' => e = thrown m ∧ Below g w w') := ru
    clear hR2 ru hu h HW hF ih
    go_enter Tryz.func17, Tryz.ntmps17
    go_wp2_with fail
    refine HRU.out.mono ?_
    rintro e w1 ⟨rfl, hb⟩
    exact ⟨rfl, AfterU.bad HE.out hb⟩
  · rw [hu] at ru hR2
    have d1 := runM_dn hF n 2 hs hu
    have HRU : Hid (Calls Tryz.prog 27 #[.pointer (some ⟨g, 0, none⟩)] w fun e w' => e = .returned nothing ∧ (∃ v, Rdr w' g T s1 v) ∧ Below g w w') := ru
    have HE : Hid (runM F n 1 s1 = R) := hR2
    have h1 : s1.here ≤ T.size := d1.here
    have HL1 : Hid (s1.terms.length + left T.size s1 ≤ 5000 ∧ 8 * left T.size s1 + 5 < n) := by have := d1.terms; have := d1.left; exact ⟨by omega, by omega⟩
    clear hR2 ru hu h HW hF ih d1
    go_enter Tryz.func17, Tryz.ntmps17
    go_wp2_with fail
    refine HRU.out.mono ?_
    rintro e w1 ⟨rfl, ⟨v1, hr1⟩, hb1⟩
    have HR1 : Hid (∃ v, Rdr w1 g T s1 v) := ⟨v1, hr1⟩
    have HB1 : Hid (Below g w w1) := hb1
    clear hr1 hb1 HRU
    unfold nothing
    go_wp2
    go_loopg [5] n (fun k t5 wr => ∃ s', s'.here ≤ T.size ∧ k ≤ n ∧ Hid (s'.terms.length + left T.size s' ≤ 5000 ∧ 8 * left T.size s' + 5 < k) ∧ Hid (∃ v, Rdr wr g T s' v) ∧ Hid (Below g w wr) ∧ Hid (runM F k 1 s' = R))
    case atStart => exact ⟨s1, h1, Nat.le_refl _, HL1, HR1, HB1, HE⟩
    case round =>
      obtain ⟨s', h', hk, HL, HRD, HB, HRR⟩ := hrel
      obtain ⟨v', hr'⟩ := HRD.out
      have HR' : Hid (Rdr wr g T s' v') := hr'
      clear hr' HRD
      obtain ⟨j, rfl⟩ : ∃ j, gk = j + 1 := ⟨gk - 1, by have := HL.out.2; omega⟩
      have HRR2 : Hid ((if isS ⟨#[124]⟩ s' = true then andThen (passM F s') (fun s1 => andThen (runM F j 2 s1) fun s2 => runM F j 1 (addM (Tm.plain 6) s2)) else .ok s') = R) := by have := HRR.out; rw [runM_loop1] at this; exact this
      clear HRR
      cases hi : isS ⟨#[124]⟩ s' with
      | false =>
        have HI : Hid (isS ⟨#[124]⟩ s' = false) := hi
        have HE2 : Hid (R = .ok s') := by have := HRR2.out; rw [hi, if_neg (by simp)] at this; exact this.symm
        clear hi HRR2
        go_wp2_with fail
        refine (reader_isSign g T _ s' v' _ HR'.out).mono ?_
        rw [HI.out]; rintro e x1 ⟨rfl, rfl⟩
        go_wp2
        exact ⟨rfl, _, results_none rfl _ _ _, AfterU.good HE2.out HR'.out HB.out⟩
      | true =>
        have HI : Hid (isS ⟨#[124]⟩ s' = true) := hi
        have HRR3 : Hid (andThen (passM F s') (fun s1 => andThen (runM F j 2 s1) fun s2 => runM F j 1 (addM (Tm.plain 6) s2)) = R) := by have := HRR2.out; rw [hi, if_pos rfl] at this; exact this
        have hki := isS_kind hi
        clear hi HRR2
        rcases hp : passM F s' with m | s2
        · have HP : Hid (passM F s' = .error m) := hp
          have HE2 : Hid (R = .error m) := by have := HRR3.out; rw [hp] at this; exact this.symm
          clear hp HRR3 hki
          go_wp2_with fail
          refine (reader_isSign g T _ s' v' _ HR'.out).mono ?_
          rw [HI.out]; rintro e x1 ⟨rfl, rfl⟩
          go_wp2_with fail
          refine (pass_bad HX.out _ HR'.out h' HP.out).mono ?_
          rintro e w2 ⟨rfl, hb⟩
          exact ⟨rfl, AfterU.bad HE2.out (HB.out.trans (hb.mono (Nat.le_of_lt HR'.out.lt)))⟩
        · have HP : Hid (passM F s' = .ok s2) := hp
          have HRR4 : Hid (andThen (runM F j 2 s2) (fun s2 => runM F j 1 (addM (Tm.plain 6) s2)) = R) := by have := HRR3.out; rw [hp] at this; exact this
          obtain ⟨d2, l2⟩ := passM_dn1 HF.out h' hki hp
          have h2 : s2.here ≤ T.size := d2.here
          have HL2 : Hid (s2.terms.length + left T.size s2 + 1 ≤ 5000 ∧ 8 * left T.size s2 + 6 < j) := by have := d2.terms; have := HL.out; exact ⟨by omega, by omega⟩
          have HRU2 : Hid (∀ w v, Rdr w g T s2 v → Calls Tryz.prog 27 #[.pointer (some ⟨g, 0, none⟩)] w fun e w' => AfterU g T w (runM F j 2 s2) e w') := fun w v hr => HIH.out j (by omega) 2 _ g s2 v w (by have := HL2.out; exact .inr (.inl ⟨rfl, rfl, by omega⟩)) hr h2 (by have := HL2.out; omega)
          have HD2 : Hid (Dn T.size 1 s' s2) := d2
          clear hp HRR3 hki d2 l2
          rcases hu2 : runM F j 2 s2 with m | s3
          · have HRU3 : Hid (∀ w v, Rdr w g T s2 v → Calls Tryz.prog 27 #[.pointer (some ⟨g, 0, none⟩)] w fun e w' => e = thrown m ∧ Below g w w') := by have := HRU2.out; rw [hu2] at this; exact this
            have HE2 : Hid (R = .error m) := by have := HRR4.out; rw [hu2] at this; exact this.symm
            clear hu2 HRU2 HRR4
            go_wp2_with fail
            refine (reader_isSign g T _ s' v' _ HR'.out).mono ?_
            rw [HI.out]; rintro e x1 ⟨rfl, rfl⟩
            go_wp2_with fail
            refine (pass_ok HX.out _ HR'.out h' HP.out).mono ?_
            rintro e w2 ⟨rfl, hr2, hk2⟩
            have HR2 : Hid (Rdr w2 g T s2 v') := hr2
            have HB2 : Hid (Below g w w2) := HB.out.trans hk2.below
            clear hr2 hk2
            go_wp2_with fail
            refine (HRU3.out _ _ HR2.out).mono ?_
            rintro e w3 ⟨rfl, hb⟩
            exact ⟨rfl, AfterU.bad HE2.out (HB2.out.trans hb)⟩
          · have HRU3 : Hid (∀ w v, Rdr w g T s2 v → Calls Tryz.prog 27 #[.pointer (some ⟨g, 0, none⟩)] w fun e w' => e = .returned nothing ∧ (∃ v, Rdr w' g T s3 v) ∧ Below g w w') := by have := HRU2.out; rw [hu2] at this; exact this
            have HE2 : Hid (runM F j 1 (addM (Tm.plain 6) s3) = R) := by have := HRR4.out; rw [hu2] at this; exact this
            have d3 := runM_dn HF.out j 2 h2 hu2
            have h3 : s3.here ≤ T.size := d3.here
            have hl3 : s3.terms.length ≤ 10000 := by have := d3.terms; have := HL2.out; omega
            have HL3 : Hid ((addM (Tm.plain 6) s3).terms.length + left T.size (addM (Tm.plain 6) s3) ≤ 5000 ∧ 8 * left T.size (addM (Tm.plain 6) s3) + 5 < j) := by
              have e1 : left T.size (addM (Tm.plain 6) s3) = left T.size s3 := rfl
              have e2 : (addM (Tm.plain 6) s3).terms.length = s3.terms.length + 1 := by simp [addM]
              have := d3.terms; have := d3.left; have := HL2.out
              show _ ∧ _
              rw [e1, e2]
              exact ⟨by omega, by omega⟩
            clear hu2 HRU2 HRR4 d3
            go_wp2_with fail
            refine (reader_isSign g T _ s' v' _ HR'.out).mono ?_
            rw [HI.out]; rintro e x1 ⟨rfl, rfl⟩
            go_wp2_with fail
            refine (pass_ok HX.out _ HR'.out h' HP.out).mono ?_
            rintro e w2 ⟨rfl, hr2, hk2⟩
            have HR2 : Hid (Rdr w2 g T s2 v') := hr2
            have HB2 : Hid (Below g w w2) := HB.out.trans hk2.below
            clear hr2 hk2
            go_wp2_with fail
            refine (HRU3.out _ _ HR2.out).mono ?_
            rintro e w3 ⟨rfl, ⟨v3, hr3⟩, hb3⟩
            have HR3 : Hid (Rdr w3 g T s3 v3) := hr3
            have HB3 : Hid (Below g w w3) := HB2.out.trans hb3
            clear hr3 hb3 HRU3
            unfold nothing
            go_wp2_with fail
            refine (add_ok 6 _ HR3.out hl3).mono ?_
            rintro e w4 ⟨rfl, ⟨v4, hr4⟩, hb4⟩
            have HR4 : Hid (∃ v, Rdr w4 g T (addM (Tm.plain 6) s3) v) := ⟨v4, hr4⟩
            have HB4 : Hid (Below g w w4) := HB3.out.trans hb4
            clear hr4 hb4
            unfold nothing
            go_wp2
            go_roundg j
            case rel => exact ⟨addM (Tm.plain 6) s3, h3, by omega, HL3, HR4, HB4, HE2⟩
            case measure => omega

theorem runM_loop3 (F : Lex) (n : Nat) (s : St) : runM F (n + 1) 3 s = (if isS ⟨#[38]⟩ s = true then andThen (passM F s) (fun s1 => andThen (runM F n 4 s1) fun s2 => runM F n 3 (addM (Tm.plain 5) s2)) else .ok s) := rfl
set_option maxHeartbeats 1000000 in
theorem all_any {F : Lex} {T : ByteArray} (HW : Words F T) (hF : LexOk F T.size) (n : Nat) (ih : ∀ m, m ≤ n → RunOk F T m) {g : Nat} {s : St} {v : Value} (w : World) (hn : 8 * left T.size s + 4 < n + 1) (h : Rdr w g T s v) (hs : s.here ≤ T.size) (hl : s.terms.length + left T.size s ≤ 5000) :
    Calls Tryz.prog 27 #[.pointer (some ⟨g, 0, none⟩)] w fun e w' => AfterU g T w (runM F (n + 1) 2 s) e w' := by
  have HX : Hid (Words F T) := HW
  have HF : Hid (LexOk F T.size) := hF
  have HIH : Hid (∀ m, m ≤ n → RunOk F T m) := ih
  have ru : Calls Tryz.prog 48 #[.pointer (some ⟨g, 0, none⟩)] w fun e w' => AfterU g T w (runM F n 4 s) e w' := ih n (Nat.le_refl _) 4 _ g s v w (.inr (.inr ⟨rfl, rfl, by omega⟩)) h hs hl
  obtain ⟨R, hR⟩ : ∃ R, runM F (n + 1) 2 s = R := ⟨_, rfl⟩
  have hR2 : andThen (runM F n 4 s) (runM F n 3) = R := hR
  rw [hR]
  clear hR
  rcases hu : runM F n 4 s with m | s1
  · rw [hu] at ru hR2
    have HE : Hid (R = .error m) := hR2.symm
    have HRU : Hid (Calls Tryz.prog 48 #[.pointer (some ⟨g, 0, none⟩)] w fun e w' => e = thrown m ∧ Below g w w') := ru
    clear hR2 ru hu h HW hF ih
    go_enter Tryz.func27, Tryz.ntmps27
    go_wp2_with fail
    refine HRU.out.mono ?_
    rintro e w1 ⟨rfl, hb⟩
    exact ⟨rfl, AfterU.bad HE.out hb⟩
  · rw [hu] at ru hR2
    have d1 := runM_dn hF n 4 hs hu
    have HRU : Hid (Calls Tryz.prog 48 #[.pointer (some ⟨g, 0, none⟩)] w fun e w' => e = .returned nothing ∧ (∃ v, Rdr w' g T s1 v) ∧ Below g w w') := ru
    have HE : Hid (runM F n 3 s1 = R) := hR2
    have h1 : s1.here ≤ T.size := d1.here
    have HL1 : Hid (s1.terms.length + left T.size s1 ≤ 5000 ∧ 8 * left T.size s1 + 3 < n) := by have := d1.terms; have := d1.left; exact ⟨by omega, by omega⟩
    clear hR2 ru hu h HW hF ih d1
    go_enter Tryz.func27, Tryz.ntmps27
    go_wp2_with fail
    refine HRU.out.mono ?_
    rintro e w1 ⟨rfl, ⟨v1, hr1⟩, hb1⟩
    have HR1 : Hid (∃ v, Rdr w1 g T s1 v) := ⟨v1, hr1⟩
    have HB1 : Hid (Below g w w1) := hb1
    clear hr1 hb1 HRU
    unfold nothing
    go_wp2
    go_loopg [5] n (fun k t5 wr => ∃ s', s'.here ≤ T.size ∧ k ≤ n ∧ Hid (s'.terms.length + left T.size s' ≤ 5000 ∧ 8 * left T.size s' + 3 < k) ∧ Hid (∃ v, Rdr wr g T s' v) ∧ Hid (Below g w wr) ∧ Hid (runM F k 3 s' = R))
    case atStart => exact ⟨s1, h1, Nat.le_refl _, HL1, HR1, HB1, HE⟩
    case round =>
      obtain ⟨s', h', hk, HL, HRD, HB, HRR⟩ := hrel
      obtain ⟨v', hr'⟩ := HRD.out
      have HR' : Hid (Rdr wr g T s' v') := hr'
      clear hr' HRD
      obtain ⟨j, rfl⟩ : ∃ j, gk = j + 1 := ⟨gk - 1, by have := HL.out.2; omega⟩
      have HRR2 : Hid ((if isS ⟨#[38]⟩ s' = true then andThen (passM F s') (fun s1 => andThen (runM F j 4 s1) fun s2 => runM F j 3 (addM (Tm.plain 5) s2)) else .ok s') = R) := by have := HRR.out; rw [runM_loop3] at this; exact this
      clear HRR
      cases hi : isS ⟨#[38]⟩ s' with
      | false =>
        have HI : Hid (isS ⟨#[38]⟩ s' = false) := hi
        have HE2 : Hid (R = .ok s') := by have := HRR2.out; rw [hi, if_neg (by simp)] at this; exact this.symm
        clear hi HRR2
        go_wp2_with fail
        refine (reader_isSign g T _ s' v' _ HR'.out).mono ?_
        rw [HI.out]; rintro e x1 ⟨rfl, rfl⟩
        go_wp2
        exact ⟨rfl, _, results_none rfl _ _ _, AfterU.good HE2.out HR'.out HB.out⟩
      | true =>
        have HI : Hid (isS ⟨#[38]⟩ s' = true) := hi
        have HRR3 : Hid (andThen (passM F s') (fun s1 => andThen (runM F j 4 s1) fun s2 => runM F j 3 (addM (Tm.plain 5) s2)) = R) := by have := HRR2.out; rw [hi, if_pos rfl] at this; exact this
        have hki := isS_kind hi
        clear hi HRR2
        rcases hp : passM F s' with m | s2
        · have HP : Hid (passM F s' = .error m) := hp
          have HE2 : Hid (R = .error m) := by have := HRR3.out; rw [hp] at this; exact this.symm
          clear hp HRR3 hki
          go_wp2_with fail
          refine (reader_isSign g T _ s' v' _ HR'.out).mono ?_
          rw [HI.out]; rintro e x1 ⟨rfl, rfl⟩
          go_wp2_with fail
          refine (pass_bad HX.out _ HR'.out h' HP.out).mono ?_
          rintro e w2 ⟨rfl, hb⟩
          exact ⟨rfl, AfterU.bad HE2.out (HB.out.trans (hb.mono (Nat.le_of_lt HR'.out.lt)))⟩
        · have HP : Hid (passM F s' = .ok s2) := hp
          have HRR4 : Hid (andThen (runM F j 4 s2) (fun s2 => runM F j 3 (addM (Tm.plain 5) s2)) = R) := by have := HRR3.out; rw [hp] at this; exact this
          obtain ⟨d2, l2⟩ := passM_dn1 HF.out h' hki hp
          have h2 : s2.here ≤ T.size := d2.here
          have HL2 : Hid (s2.terms.length + left T.size s2 + 1 ≤ 5000 ∧ 8 * left T.size s2 + 4 < j) := by have := d2.terms; have := HL.out; exact ⟨by omega, by omega⟩
          have HRU2 : Hid (∀ w v, Rdr w g T s2 v → Calls Tryz.prog 48 #[.pointer (some ⟨g, 0, none⟩)] w fun e w' => AfterU g T w (runM F j 4 s2) e w') := fun w v hr => HIH.out j (by omega) 4 _ g s2 v w (by have := HL2.out; exact .inr (.inr ⟨rfl, rfl, by omega⟩)) hr h2 (by have := HL2.out; omega)
          have HD2 : Hid (Dn T.size 1 s' s2) := d2
          clear hp HRR3 hki d2 l2
          rcases hu2 : runM F j 4 s2 with m | s3
          · have HRU3 : Hid (∀ w v, Rdr w g T s2 v → Calls Tryz.prog 48 #[.pointer (some ⟨g, 0, none⟩)] w fun e w' => e = thrown m ∧ Below g w w') := by have := HRU2.out; rw [hu2] at this; exact this
            have HE2 : Hid (R = .error m) := by have := HRR4.out; rw [hu2] at this; exact this.symm
            clear hu2 HRU2 HRR4
            go_wp2_with fail
            refine (reader_isSign g T _ s' v' _ HR'.out).mono ?_
            rw [HI.out]; rintro e x1 ⟨rfl, rfl⟩
            go_wp2_with fail
            refine (pass_ok HX.out _ HR'.out h' HP.out).mono ?_
            rintro e w2 ⟨rfl, hr2, hk2⟩
            have HR2 : Hid (Rdr w2 g T s2 v') := hr2
            have HB2 : Hid (Below g w w2) := HB.out.trans hk2.below
            clear hr2 hk2
            go_wp2_with fail
            refine (HRU3.out _ _ HR2.out).mono ?_
            rintro e w3 ⟨rfl, hb⟩
            exact ⟨rfl, AfterU.bad HE2.out (HB2.out.trans hb)⟩
          · have HRU3 : Hid (∀ w v, Rdr w g T s2 v → Calls Tryz.prog 48 #[.pointer (some ⟨g, 0, none⟩)] w fun e w' => e = .returned nothing ∧ (∃ v, Rdr w' g T s3 v) ∧ Below g w w') := by have := HRU2.out; rw [hu2] at this; exact this
            have HE2 : Hid (runM F j 3 (addM (Tm.plain 5) s3) = R) := by have := HRR4.out; rw [hu2] at this; exact this
            have d3 := runM_dn HF.out j 4 h2 hu2
            have h3 : s3.here ≤ T.size := d3.here
            have hl3 : s3.terms.length ≤ 10000 := by have := d3.terms; have := HL2.out; omega
            have HL3 : Hid ((addM (Tm.plain 5) s3).terms.length + left T.size (addM (Tm.plain 5) s3) ≤ 5000 ∧ 8 * left T.size (addM (Tm.plain 5) s3) + 3 < j) := by
              have e1 : left T.size (addM (Tm.plain 5) s3) = left T.size s3 := rfl
              have e2 : (addM (Tm.plain 5) s3).terms.length = s3.terms.length + 1 := by simp [addM]
              have := d3.terms; have := d3.left; have := HL2.out
              show _ ∧ _
              rw [e1, e2]
              exact ⟨by omega, by omega⟩
            clear hu2 HRU2 HRR4 d3
            go_wp2_with fail
            refine (reader_isSign g T _ s' v' _ HR'.out).mono ?_
            rw [HI.out]; rintro e x1 ⟨rfl, rfl⟩
            go_wp2_with fail
            refine (pass_ok HX.out _ HR'.out h' HP.out).mono ?_
            rintro e w2 ⟨rfl, hr2, hk2⟩
            have HR2 : Hid (Rdr w2 g T s2 v') := hr2
            have HB2 : Hid (Below g w w2) := HB.out.trans hk2.below
            clear hr2 hk2
            go_wp2_with fail
            refine (HRU3.out _ _ HR2.out).mono ?_
            rintro e w3 ⟨rfl, ⟨v3, hr3⟩, hb3⟩
            have HR3 : Hid (Rdr w3 g T s3 v3) := hr3
            have HB3 : Hid (Below g w w3) := HB2.out.trans hb3
            clear hr3 hb3 HRU3
            unfold nothing
            go_wp2_with fail
            refine (add_ok 5 _ HR3.out hl3).mono ?_
            rintro e w4 ⟨rfl, ⟨v4, hr4⟩, hb4⟩
            have HR4 : Hid (∃ v, Rdr w4 g T (addM (Tm.plain 5) s3) v) := ⟨v4, hr4⟩
            have HB4 : Hid (Below g w w4) := HB3.out.trans hb4
            clear hr4 hb4
            unfold nothing
            go_wp2
            go_roundg j
            case rel => exact ⟨addM (Tm.plain 5) s3, h3, by omega, HL3, HR4, HB4, HE2⟩
            case measure => omega

/-- All three, at whatever fuel is enough. -/
theorem run_ok {F : Lex} {T : ByteArray} (HW : Words F T) (hF : LexOk F T.size) : ∀ n, ∀ m, m ≤ n → RunOk F T m
  | 0, m, hm => by
    intro c f g s v w hc
    omega
  | n + 1, m, hm => by
    by_cases hmn : m ≤ n
    · exact run_ok HW hF n m hmn
    · obtain rfl : m = n + 1 := by omega
      intro c f g s v w hc h hs hl
      rcases hc with ⟨rfl, rfl, hn⟩ | ⟨rfl, rfl, hn⟩ | ⟨rfl, rfl, hn⟩
      · exact any_any HW hF n (run_ok HW hF n) w hn h hs hl
      · exact all_any HW hF n (run_ok HW hF n) w hn h hs hl
      · exact unit_any HW hF n (run_ok HW hF n n (Nat.le_refl _)) w hn h hs hl
end Go.Proofs.YteoopoabemeanaaGreatDoor
