/- The reader's readUnit, case by case. -/
import Derived.Test.YteoopoabemeanaaGreatDoorRdr8
namespace Go.Proofs.YteoopoabemeanaaGreatDoor
set_option maxRecDepth 100000
open Go.RowKit

theorem AfterU.bad {g : Nat} {T : ByteArray} {w : World} {R : Res} {m : Nat × Nat} {w' : World} (h : R = .error m) (hb : Below g w w') : AfterU g T w R (thrown m) w' := by
  rw [h]
  exact ⟨rfl, hb⟩
theorem AfterU.good {g : Nat} {T : ByteArray} {w : World} {R : Res} {s' : St} {v : Value} {w' : World} (h : R = .ok s') (hr : Rdr w' g T s' v) (hb : Below g w w') : AfterU g T w R (.returned nothing) w' := by
  rw [h]
  exact ⟨rfl, ⟨v, hr⟩, hb⟩

theorem unit_pass_bad1 {F : Lex} {T : ByteArray} (HW : Words F T) (hF : LexOk F T.size) {g : Nat} {s : St} {v : Value} {m : Nat × Nat} (w : World) (h : Rdr w g T s v) (hs : s.here ≤ T.size) (_hl : s.terms.length + left T.size s ≤ 5000)
    (i1 : isS ⟨#[33]⟩ s = true) (p : passM F s = .error m) :
    Calls Tryz.prog 48 #[.pointer (some ⟨g, 0, none⟩)] w fun e w' => e = thrown m ∧ Below g w w' := by
  have HR0 : Hid (Rdr w g T s v) := h
  have HX : Hid (Words F T) := HW
  have HF : Hid (LexOk F T.size) := hF
  have I1 : Hid (isS ⟨#[33]⟩ s = true) := i1
  have Hp : Hid (passM F s = .error m) := p
  clear h HW hF i1 p
  go_enter Tryz.func48, Tryz.ntmps48
  go_wp2_with fail
  refine (reader_isSign g T _ s v _ HR0.out).mono ?_
  rw [I1.out]; rintro e x1 ⟨rfl, rfl⟩
  clear I1
  go_wp2_with fail
  refine (pass_bad HX.out _ HR0.out hs Hp.out).mono ?_
  rintro e w1 ⟨rfl, hb⟩
  exact ⟨rfl, rfl, hb.mono (Nat.le_of_lt HR0.out.lt)⟩

theorem unit_pass_bad2 {F : Lex} {T : ByteArray} (HW : Words F T) (hF : LexOk F T.size) {g : Nat} {s : St} {v : Value} {m : Nat × Nat} (w : World) (h : Rdr w g T s v) (hs : s.here ≤ T.size) (_hl : s.terms.length + left T.size s ≤ 5000)
    (i1 : isS ⟨#[33]⟩ s = false) (i2 : isS ⟨#[40]⟩ s = true) (p : passM F s = .error m) :
    Calls Tryz.prog 48 #[.pointer (some ⟨g, 0, none⟩)] w fun e w' => e = thrown m ∧ Below g w w' := by
  have HR0 : Hid (Rdr w g T s v) := h
  have HX : Hid (Words F T) := HW
  have HF : Hid (LexOk F T.size) := hF
  have I1 : Hid (isS ⟨#[33]⟩ s = false) := i1
  have I2 : Hid (isS ⟨#[40]⟩ s = true) := i2
  have Hp : Hid (passM F s = .error m) := p
  clear h HW hF i1 i2 p
  go_enter Tryz.func48, Tryz.ntmps48
  go_wp2_with fail
  refine (reader_isSign g T _ s v _ HR0.out).mono ?_
  rw [I1.out]; rintro e x1 ⟨rfl, rfl⟩
  go_wp2_with fail
  refine (reader_isSign g T _ s v _ HR0.out).mono ?_
  rw [I2.out]; rintro e x2 ⟨rfl, rfl⟩
  clear I1 I2
  go_wp2_with fail
  refine (pass_bad HX.out _ HR0.out hs Hp.out).mono ?_
  rintro e w1 ⟨rfl, hb⟩
  exact ⟨rfl, rfl, hb.mono (Nat.le_of_lt HR0.out.lt)⟩

theorem unit_pass_bad3 {F : Lex} {T : ByteArray} (HW : Words F T) (hF : LexOk F T.size) {g : Nat} {s : St} {v : Value} {m : Nat × Nat} (w : World) (h : Rdr w g T s v) (hs : s.here ≤ T.size) (_hl : s.terms.length + left T.size s ≤ 5000)
    (i1 : isS ⟨#[33]⟩ s = false) (i2 : isS ⟨#[40]⟩ s = false) (i3 : isS ⟨#[42]⟩ s = true) (p : passM F s = .error m) :
    Calls Tryz.prog 48 #[.pointer (some ⟨g, 0, none⟩)] w fun e w' => e = thrown m ∧ Below g w w' := by
  have HR0 : Hid (Rdr w g T s v) := h
  have HX : Hid (Words F T) := HW
  have HF : Hid (LexOk F T.size) := hF
  have I1 : Hid (isS ⟨#[33]⟩ s = false) := i1
  have I2 : Hid (isS ⟨#[40]⟩ s = false) := i2
  have I3 : Hid (isS ⟨#[42]⟩ s = true) := i3
  have Hp : Hid (passM F s = .error m) := p
  clear h HW hF i1 i2 i3 p
  go_enter Tryz.func48, Tryz.ntmps48
  go_wp2_with fail
  refine (reader_isSign g T _ s v _ HR0.out).mono ?_
  rw [I1.out]; rintro e x1 ⟨rfl, rfl⟩
  go_wp2_with fail
  refine (reader_isSign g T _ s v _ HR0.out).mono ?_
  rw [I2.out]; rintro e x2 ⟨rfl, rfl⟩
  go_wp2_with fail
  refine (reader_isSign g T _ s v _ HR0.out).mono ?_
  rw [I3.out]; rintro e x3 ⟨rfl, rfl⟩
  clear I1 I2 I3
  go_wp2_with fail
  refine (pass_bad HX.out _ HR0.out hs Hp.out).mono ?_
  rintro e w1 ⟨rfl, hb⟩
  exact ⟨rfl, rfl, hb.mono (Nat.le_of_lt HR0.out.lt)⟩

theorem unit_pass_bad4 {F : Lex} {T : ByteArray} (HW : Words F T) (hF : LexOk F T.size) {g : Nat} {s : St} {v : Value} {m : Nat × Nat} (w : World) (h : Rdr w g T s v) (hs : s.here ≤ T.size) (_hl : s.terms.length + left T.size s ≤ 5000)
    (i1 : isS ⟨#[33]⟩ s = false) (i2 : isS ⟨#[40]⟩ s = false) (i3 : isS ⟨#[42]⟩ s = false) (i4 : isS ⟨#[35]⟩ s = true) (p : passM F s = .error m) :
    Calls Tryz.prog 48 #[.pointer (some ⟨g, 0, none⟩)] w fun e w' => e = thrown m ∧ Below g w w' := by
  have HR0 : Hid (Rdr w g T s v) := h
  have HX : Hid (Words F T) := HW
  have HF : Hid (LexOk F T.size) := hF
  have I1 : Hid (isS ⟨#[33]⟩ s = false) := i1
  have I2 : Hid (isS ⟨#[40]⟩ s = false) := i2
  have I3 : Hid (isS ⟨#[42]⟩ s = false) := i3
  have I4 : Hid (isS ⟨#[35]⟩ s = true) := i4
  have Hp : Hid (passM F s = .error m) := p
  clear h HW hF i1 i2 i3 i4 p
  go_enter Tryz.func48, Tryz.ntmps48
  go_wp2_with fail
  refine (reader_isSign g T _ s v _ HR0.out).mono ?_
  rw [I1.out]; rintro e x1 ⟨rfl, rfl⟩
  go_wp2_with fail
  refine (reader_isSign g T _ s v _ HR0.out).mono ?_
  rw [I2.out]; rintro e x2 ⟨rfl, rfl⟩
  go_wp2_with fail
  refine (reader_isSign g T _ s v _ HR0.out).mono ?_
  rw [I3.out]; rintro e x3 ⟨rfl, rfl⟩
  go_wp2_with fail
  refine (reader_isSign g T _ s v _ HR0.out).mono ?_
  rw [I4.out]; rintro e x4 ⟨rfl, rfl⟩
  clear I1 I2 I3 I4
  go_wp2_with fail
  refine (pass_bad HX.out _ HR0.out hs Hp.out).mono ?_
  rintro e w1 ⟨rfl, hb⟩
  exact ⟨rfl, rfl, hb.mono (Nat.le_of_lt HR0.out.lt)⟩

theorem unit_pass_bad5 {F : Lex} {T : ByteArray} (HW : Words F T) (hF : LexOk F T.size) {g : Nat} {s : St} {v : Value} {m : Nat × Nat} (w : World) (h : Rdr w g T s v) (hs : s.here ≤ T.size) (_hl : s.terms.length + left T.size s ≤ 5000)
    (i1 : isS ⟨#[33]⟩ s = false) (i2 : isS ⟨#[40]⟩ s = false) (i3 : isS ⟨#[42]⟩ s = false) (i4 : isS ⟨#[35]⟩ s = false) (i5 : isS ⟨#[63]⟩ s = true) (p : passM F s = .error m) :
    Calls Tryz.prog 48 #[.pointer (some ⟨g, 0, none⟩)] w fun e w' => e = thrown m ∧ Below g w w' := by
  have HR0 : Hid (Rdr w g T s v) := h
  have HX : Hid (Words F T) := HW
  have HF : Hid (LexOk F T.size) := hF
  have I1 : Hid (isS ⟨#[33]⟩ s = false) := i1
  have I2 : Hid (isS ⟨#[40]⟩ s = false) := i2
  have I3 : Hid (isS ⟨#[42]⟩ s = false) := i3
  have I4 : Hid (isS ⟨#[35]⟩ s = false) := i4
  have I5 : Hid (isS ⟨#[63]⟩ s = true) := i5
  have Hp : Hid (passM F s = .error m) := p
  clear h HW hF i1 i2 i3 i4 i5 p
  go_enter Tryz.func48, Tryz.ntmps48
  go_wp2_with fail
  refine (reader_isSign g T _ s v _ HR0.out).mono ?_
  rw [I1.out]; rintro e x1 ⟨rfl, rfl⟩
  go_wp2_with fail
  refine (reader_isSign g T _ s v _ HR0.out).mono ?_
  rw [I2.out]; rintro e x2 ⟨rfl, rfl⟩
  go_wp2_with fail
  refine (reader_isSign g T _ s v _ HR0.out).mono ?_
  rw [I3.out]; rintro e x3 ⟨rfl, rfl⟩
  go_wp2_with fail
  refine (reader_isSign g T _ s v _ HR0.out).mono ?_
  rw [I4.out]; rintro e x4 ⟨rfl, rfl⟩
  go_wp2_with fail
  refine (reader_isSign g T _ s v _ HR0.out).mono ?_
  rw [I5.out]; rintro e x5 ⟨rfl, rfl⟩
  clear I1 I2 I3 I4 I5
  go_wp2_with fail
  refine (pass_bad HX.out _ HR0.out hs Hp.out).mono ?_
  rintro e w1 ⟨rfl, hb⟩
  exact ⟨rfl, rfl, hb.mono (Nat.le_of_lt HR0.out.lt)⟩

theorem unit_add3 {F : Lex} {T : ByteArray} (HW : Words F T) (hF : LexOk F T.size) {g : Nat} {s s1 : St} {v : Value} (w : World) (h : Rdr w g T s v) (hs : s.here ≤ T.size) (hl : s.terms.length + left T.size s ≤ 5000)
    (i1 : isS ⟨#[33]⟩ s = false) (i2 : isS ⟨#[40]⟩ s = false) (i3 : isS ⟨#[42]⟩ s = true) (p : passM F s = .ok s1) :
    Calls Tryz.prog 48 #[.pointer (some ⟨g, 0, none⟩)] w fun e w' => e = .returned nothing ∧ (∃ v, Rdr w' g T (addM (Tm.plain 1) s1) v) ∧ Below g w w' := by
  have HR0 : Hid (Rdr w g T s v) := h
  have HX : Hid (Words F T) := HW
  have HF : Hid (LexOk F T.size) := hF
  have I1 : Hid (isS ⟨#[33]⟩ s = false) := i1
  have I2 : Hid (isS ⟨#[40]⟩ s = false) := i2
  have I3 : Hid (isS ⟨#[42]⟩ s = true) := i3
  have Hp : Hid (passM F s = .ok s1) := p
  have d1 := passM_dn hF hs p
  have hl1 : s1.terms.length ≤ 10000 := by have := d1.terms; omega
  clear h HW hF i1 i2 i3 p d1
  go_enter Tryz.func48, Tryz.ntmps48
  go_wp2_with fail
  refine (reader_isSign g T _ s v _ HR0.out).mono ?_
  rw [I1.out]; rintro e x1 ⟨rfl, rfl⟩
  go_wp2_with fail
  refine (reader_isSign g T _ s v _ HR0.out).mono ?_
  rw [I2.out]; rintro e x2 ⟨rfl, rfl⟩
  go_wp2_with fail
  refine (reader_isSign g T _ s v _ HR0.out).mono ?_
  rw [I3.out]; rintro e x3 ⟨rfl, rfl⟩
  clear I1 I2 I3
  go_wp2_with fail
  refine (pass_ok HX.out _ HR0.out hs Hp.out).mono ?_
  rintro e w1 ⟨rfl, hr1, hk1⟩
  have HR1 : Hid (Rdr w1 g T s1 v) := hr1
  have HK1 : Hid (Below g x3 w1) := hk1.below
  clear hr1 hk1
  go_wp2_with fail
  refine (add_ok 1 _ HR1.out hl1).mono ?_
  rintro e w2 ⟨rfl, ⟨v2, hr2⟩, hb2⟩
  have HR2 : Hid (Rdr w2 g T (addM (Tm.plain 1) s1) v2) := hr2
  have HB2 : Hid (Below g x3 w2) := HK1.out.trans hb2
  clear hr2 hb2
  unfold nothing
  go_wp2
  exact ⟨rfl, _, results_none rfl _ _ _, rfl, ⟨_, HR2.out⟩, HB2.out⟩

theorem unit_add4 {F : Lex} {T : ByteArray} (HW : Words F T) (hF : LexOk F T.size) {g : Nat} {s s1 : St} {v : Value} (w : World) (h : Rdr w g T s v) (hs : s.here ≤ T.size) (hl : s.terms.length + left T.size s ≤ 5000)
    (i1 : isS ⟨#[33]⟩ s = false) (i2 : isS ⟨#[40]⟩ s = false) (i3 : isS ⟨#[42]⟩ s = false) (i4 : isS ⟨#[35]⟩ s = true) (p : passM F s = .ok s1) :
    Calls Tryz.prog 48 #[.pointer (some ⟨g, 0, none⟩)] w fun e w' => e = .returned nothing ∧ (∃ v, Rdr w' g T (addM (Tm.plain 2) s1) v) ∧ Below g w w' := by
  have HR0 : Hid (Rdr w g T s v) := h
  have HX : Hid (Words F T) := HW
  have HF : Hid (LexOk F T.size) := hF
  have I1 : Hid (isS ⟨#[33]⟩ s = false) := i1
  have I2 : Hid (isS ⟨#[40]⟩ s = false) := i2
  have I3 : Hid (isS ⟨#[42]⟩ s = false) := i3
  have I4 : Hid (isS ⟨#[35]⟩ s = true) := i4
  have Hp : Hid (passM F s = .ok s1) := p
  have d1 := passM_dn hF hs p
  have hl1 : s1.terms.length ≤ 10000 := by have := d1.terms; omega
  clear h HW hF i1 i2 i3 i4 p d1
  go_enter Tryz.func48, Tryz.ntmps48
  go_wp2_with fail
  refine (reader_isSign g T _ s v _ HR0.out).mono ?_
  rw [I1.out]; rintro e x1 ⟨rfl, rfl⟩
  go_wp2_with fail
  refine (reader_isSign g T _ s v _ HR0.out).mono ?_
  rw [I2.out]; rintro e x2 ⟨rfl, rfl⟩
  go_wp2_with fail
  refine (reader_isSign g T _ s v _ HR0.out).mono ?_
  rw [I3.out]; rintro e x3 ⟨rfl, rfl⟩
  go_wp2_with fail
  refine (reader_isSign g T _ s v _ HR0.out).mono ?_
  rw [I4.out]; rintro e x4 ⟨rfl, rfl⟩
  clear I1 I2 I3 I4
  go_wp2_with fail
  refine (pass_ok HX.out _ HR0.out hs Hp.out).mono ?_
  rintro e w1 ⟨rfl, hr1, hk1⟩
  have HR1 : Hid (Rdr w1 g T s1 v) := hr1
  have HK1 : Hid (Below g x4 w1) := hk1.below
  clear hr1 hk1
  go_wp2_with fail
  refine (add_ok 2 _ HR1.out hl1).mono ?_
  rintro e w2 ⟨rfl, ⟨v2, hr2⟩, hb2⟩
  have HR2 : Hid (Rdr w2 g T (addM (Tm.plain 2) s1) v2) := hr2
  have HB2 : Hid (Below g x4 w2) := HK1.out.trans hb2
  clear hr2 hb2
  unfold nothing
  go_wp2
  exact ⟨rfl, _, results_none rfl _ _ _, rfl, ⟨_, HR2.out⟩, HB2.out⟩

theorem unit_has_bad {F : Lex} {T : ByteArray} (HW : Words F T) (hF : LexOk F T.size) {g : Nat} {s s1 : St} {v : Value} {m : Nat × Nat} (w : World) (h : Rdr w g T s v) (hs : s.here ≤ T.size) (_hl : s.terms.length + left T.size s ≤ 5000)
    (i1 : isS ⟨#[33]⟩ s = false) (i2 : isS ⟨#[40]⟩ s = false) (i3 : isS ⟨#[42]⟩ s = false) (i4 : isS ⟨#[35]⟩ s = false) (i5 : isS ⟨#[63]⟩ s = true) (p : passM F s = .ok s1) (n : needM F 2 s1 = .error m) :
    Calls Tryz.prog 48 #[.pointer (some ⟨g, 0, none⟩)] w fun e w' => e = thrown m ∧ Below g w w' := by
  have HR0 : Hid (Rdr w g T s v) := h
  have HX : Hid (Words F T) := HW
  have HF : Hid (LexOk F T.size) := hF
  have I1 : Hid (isS ⟨#[33]⟩ s = false) := i1
  have I2 : Hid (isS ⟨#[40]⟩ s = false) := i2
  have I3 : Hid (isS ⟨#[42]⟩ s = false) := i3
  have I4 : Hid (isS ⟨#[35]⟩ s = false) := i4
  have I5 : Hid (isS ⟨#[63]⟩ s = true) := i5
  have Hp : Hid (passM F s = .ok s1) := p
  have Hn : Hid (needM F 2 s1 = .error m) := n
  have d1 := passM_dn hF hs p
  have h1 := d1.here
  clear h HW hF i1 i2 i3 i4 i5 p n d1
  go_enter Tryz.func48, Tryz.ntmps48
  go_wp2_with fail
  refine (reader_isSign g T _ s v _ HR0.out).mono ?_
  rw [I1.out]; rintro e x1 ⟨rfl, rfl⟩
  go_wp2_with fail
  refine (reader_isSign g T _ s v _ HR0.out).mono ?_
  rw [I2.out]; rintro e x2 ⟨rfl, rfl⟩
  go_wp2_with fail
  refine (reader_isSign g T _ s v _ HR0.out).mono ?_
  rw [I3.out]; rintro e x3 ⟨rfl, rfl⟩
  go_wp2_with fail
  refine (reader_isSign g T _ s v _ HR0.out).mono ?_
  rw [I4.out]; rintro e x4 ⟨rfl, rfl⟩
  go_wp2_with fail
  refine (reader_isSign g T _ s v _ HR0.out).mono ?_
  rw [I5.out]; rintro e x5 ⟨rfl, rfl⟩
  clear I1 I2 I3 I4 I5
  go_wp2_with fail
  refine (pass_ok HX.out _ HR0.out hs Hp.out).mono ?_
  rintro e w1 ⟨rfl, hr1, hk1⟩
  have HR1 : Hid (Rdr w1 g T s1 v) := hr1
  have HK1 : Hid (Below g x5 w1) := hk1.below
  clear hr1 hk1
  have hg4 := HR1.out.lt
  obtain ⟨va, vn, vc, rfl⟩ := HR1.out.tms.form3
  have r7 : w1.cell? ⟨g, 7, none⟩ = some (.slice va vn vc) := HR1.out.blk.cell 7 rfl
  have r7d : w1.drew.cell? ⟨g, 7, none⟩ = some (.slice va vn vc) := r7
  go_wp2_with fail
  go_region_dies
  all_goals
    refine (need_bad HX.out 2 _ (HR1.out.stay (Below.refl _ _).drew) h1 Hn.out).mono ?_
    rintro e w5 ⟨rfl, hb5⟩
    exact ⟨rfl, rfl, HK1.out.trans (((Below.refl _ _).drew.trans hb5).mono (Nat.le_of_lt hg4))⟩

theorem unit_atom {F : Lex} {T : ByteArray} (HW : Words F T) (hF : LexOk F T.size) {g : Nat} {s : St} {v : Value} (w : World) (h : Rdr w g T s v) (hs : s.here ≤ T.size) (hl : s.terms.length + left T.size s ≤ 5000)
    (i1 : isS ⟨#[33]⟩ s = false) (i2 : isS ⟨#[40]⟩ s = false) (i3 : isS ⟨#[42]⟩ s = false) (i4 : isS ⟨#[35]⟩ s = false) (i5 : isS ⟨#[63]⟩ s = false)  :
    Calls Tryz.prog 48 #[.pointer (some ⟨g, 0, none⟩)] w fun e w' => AfterU g T w (atomM F s) e w' := by
  have HR0 : Hid (Rdr w g T s v) := h
  have HX : Hid (Words F T) := HW
  have HF : Hid (LexOk F T.size) := hF
  have I1 : Hid (isS ⟨#[33]⟩ s = false) := i1
  have I2 : Hid (isS ⟨#[40]⟩ s = false) := i2
  have I3 : Hid (isS ⟨#[42]⟩ s = false) := i3
  have I4 : Hid (isS ⟨#[35]⟩ s = false) := i4
  have I5 : Hid (isS ⟨#[63]⟩ s = false) := i5

  clear h HW hF i1 i2 i3 i4 i5 
  go_enter Tryz.func48, Tryz.ntmps48
  go_wp2_with fail
  refine (reader_isSign g T _ s v _ HR0.out).mono ?_
  rw [I1.out]; rintro e x1 ⟨rfl, rfl⟩
  go_wp2_with fail
  refine (reader_isSign g T _ s v _ HR0.out).mono ?_
  rw [I2.out]; rintro e x2 ⟨rfl, rfl⟩
  go_wp2_with fail
  refine (reader_isSign g T _ s v _ HR0.out).mono ?_
  rw [I3.out]; rintro e x3 ⟨rfl, rfl⟩
  go_wp2_with fail
  refine (reader_isSign g T _ s v _ HR0.out).mono ?_
  rw [I4.out]; rintro e x4 ⟨rfl, rfl⟩
  go_wp2_with fail
  refine (reader_isSign g T _ s v _ HR0.out).mono ?_
  rw [I5.out]; rintro e x5 ⟨rfl, rfl⟩
  clear I1 I2 I3 I4 I5
  go_wp2_with fail
  refine (atom_any HX.out HF.out _ HR0.out hs hl).mono ?_
  intro e w1 ha
  rcases hr : atomM F s with m | s1
  · rw [hr] at ha
    obtain ⟨rfl, hb⟩ := ha
    exact ⟨rfl, AfterU.bad hr hb⟩
  · rw [hr] at ha
    obtain ⟨rfl, ⟨v1, hr1⟩, hb⟩ := ha
    have HR1 : Hid (Rdr w1 g T s1 v1) := hr1
    have HB1 : Hid (Below g x5 w1) := hb
    have HRR : Hid (atomM F s = .ok s1) := hr
    clear hr1 hb hr
    unfold nothing
    go_wp2
    exact ⟨rfl, _, results_none rfl _ _ _, AfterU.good HRR.out HR1.out HB1.out⟩

theorem unit_not_bad {F : Lex} {T : ByteArray} (HW : Words F T) (hF : LexOk F T.size) {g : Nat} {s s1 : St} {v : Value} {m : Nat × Nat} (w : World) (h : Rdr w g T s v) (hs : s.here ≤ T.size) (_hl : s.terms.length + left T.size s ≤ 5000)
    (i1 : isS ⟨#[33]⟩ s = true) (p : passM F s = .ok s1) (ru : ∀ w v, Rdr w g T s1 v → Calls Tryz.prog 48 #[.pointer (some ⟨g, 0, none⟩)] w fun e w' => e = thrown m ∧ Below g w w') :
    Calls Tryz.prog 48 #[.pointer (some ⟨g, 0, none⟩)] w fun e w' => e = thrown m ∧ Below g w w' := by
  have HR0 : Hid (Rdr w g T s v) := h
  have HX : Hid (Words F T) := HW
  have HF : Hid (LexOk F T.size) := hF
  have I1 : Hid (isS ⟨#[33]⟩ s = true) := i1
  have Hp : Hid (passM F s = .ok s1) := p
  have Hru : Hid (∀ w v, Rdr w g T s1 v → Calls Tryz.prog 48 #[.pointer (some ⟨g, 0, none⟩)] w fun e w' => e = thrown m ∧ Below g w w') := ru
  clear h HW hF i1 p ru
  go_enter Tryz.func48, Tryz.ntmps48
  go_wp2_with fail
  refine (reader_isSign g T _ s v _ HR0.out).mono ?_
  rw [I1.out]; rintro e x1 ⟨rfl, rfl⟩
  clear I1
  go_wp2_with fail
  refine (pass_ok HX.out _ HR0.out hs Hp.out).mono ?_
  rintro e w1 ⟨rfl, hr1, hk1⟩
  have HR1 : Hid (Rdr w1 g T s1 v) := hr1
  have HK1 : Hid (Below g x1 w1) := hk1.below
  clear hr1 hk1
  go_wp2_with fail
  refine (Hru.out _ _ HR1.out).mono ?_
  rintro e w5 ⟨rfl, hb5⟩
  exact ⟨rfl, rfl, HK1.out.trans hb5⟩

theorem unit_not_ok {F : Lex} {T : ByteArray} (HW : Words F T) (hF : LexOk F T.size) {g : Nat} {s s1 s2 : St} {v : Value} (w : World) (h : Rdr w g T s v) (hs : s.here ≤ T.size) (_hl : s.terms.length + left T.size s ≤ 5000) (hl2 : s2.terms.length ≤ 10000)
    (i1 : isS ⟨#[33]⟩ s = true) (p : passM F s = .ok s1) (ru : ∀ w v, Rdr w g T s1 v → Calls Tryz.prog 48 #[.pointer (some ⟨g, 0, none⟩)] w fun e w' => e = .returned nothing ∧ (∃ v, Rdr w' g T s2 v) ∧ Below g w w') :
    Calls Tryz.prog 48 #[.pointer (some ⟨g, 0, none⟩)] w fun e w' => e = .returned nothing ∧ (∃ v, Rdr w' g T (addM (Tm.plain 4) s2) v) ∧ Below g w w' := by
  have HR0 : Hid (Rdr w g T s v) := h
  have HX : Hid (Words F T) := HW
  have HF : Hid (LexOk F T.size) := hF
  have I1 : Hid (isS ⟨#[33]⟩ s = true) := i1
  have Hp : Hid (passM F s = .ok s1) := p
  have Hru : Hid (∀ w v, Rdr w g T s1 v → Calls Tryz.prog 48 #[.pointer (some ⟨g, 0, none⟩)] w fun e w' => e = .returned nothing ∧ (∃ v, Rdr w' g T s2 v) ∧ Below g w w') := ru
  clear h HW hF i1 p ru
  go_enter Tryz.func48, Tryz.ntmps48
  go_wp2_with fail
  refine (reader_isSign g T _ s v _ HR0.out).mono ?_
  rw [I1.out]; rintro e x1 ⟨rfl, rfl⟩
  clear I1
  go_wp2_with fail
  refine (pass_ok HX.out _ HR0.out hs Hp.out).mono ?_
  rintro e w1 ⟨rfl, hr1, hk1⟩
  have HR1 : Hid (Rdr w1 g T s1 v) := hr1
  have HK1 : Hid (Below g x1 w1) := hk1.below
  clear hr1 hk1
  go_wp2_with fail
  refine (Hru.out _ _ HR1.out).mono ?_
  rintro e w5 ⟨rfl, ⟨v5, hr5⟩, hb5⟩
  have HR5 : Hid (Rdr w5 g T s2 v5) := hr5
  have HB5 : Hid (Below g x1 w5) := HK1.out.trans hb5
  clear hr5 hb5
  unfold nothing
  go_wp2_with fail
  refine (add_ok 4 _ HR5.out hl2).mono ?_
  rintro e w2 ⟨rfl, ⟨v2, hr2⟩, hb2⟩
  have HR2 : Hid (Rdr w2 g T (addM (Tm.plain 4) s2) v2) := hr2
  have HB2 : Hid (Below g x1 w2) := HB5.out.trans hb2
  clear hr2 hb2
  unfold nothing
  go_wp2
  exact ⟨rfl, _, results_none rfl _ _ _, rfl, ⟨_, HR2.out⟩, HB2.out⟩

theorem unit_par_bad {F : Lex} {T : ByteArray} (HW : Words F T) (hF : LexOk F T.size) {g : Nat} {s s1 : St} {v : Value} {m : Nat × Nat} (w : World) (h : Rdr w g T s v) (hs : s.here ≤ T.size) (_hl : s.terms.length + left T.size s ≤ 5000)
    (i1 : isS ⟨#[33]⟩ s = false) (i2 : isS ⟨#[40]⟩ s = true) (p : passM F s = .ok s1) (ru : ∀ w v, Rdr w g T s1 v → Calls Tryz.prog 17 #[.pointer (some ⟨g, 0, none⟩)] w fun e w' => e = thrown m ∧ Below g w w') :
    Calls Tryz.prog 48 #[.pointer (some ⟨g, 0, none⟩)] w fun e w' => e = thrown m ∧ Below g w w' := by
  have HR0 : Hid (Rdr w g T s v) := h
  have HX : Hid (Words F T) := HW
  have HF : Hid (LexOk F T.size) := hF
  have I1 : Hid (isS ⟨#[33]⟩ s = false) := i1
  have I2 : Hid (isS ⟨#[40]⟩ s = true) := i2
  have Hp : Hid (passM F s = .ok s1) := p
  have Hru : Hid (∀ w v, Rdr w g T s1 v → Calls Tryz.prog 17 #[.pointer (some ⟨g, 0, none⟩)] w fun e w' => e = thrown m ∧ Below g w w') := ru
  clear h HW hF i1 i2 p ru
  go_enter Tryz.func48, Tryz.ntmps48
  go_wp2_with fail
  refine (reader_isSign g T _ s v _ HR0.out).mono ?_
  rw [I1.out]; rintro e x1 ⟨rfl, rfl⟩
  go_wp2_with fail
  refine (reader_isSign g T _ s v _ HR0.out).mono ?_
  rw [I2.out]; rintro e x2 ⟨rfl, rfl⟩
  clear I1 I2
  go_wp2_with fail
  refine (pass_ok HX.out _ HR0.out hs Hp.out).mono ?_
  rintro e w1 ⟨rfl, hr1, hk1⟩
  have HR1 : Hid (Rdr w1 g T s1 v) := hr1
  have HK1 : Hid (Below g x2 w1) := hk1.below
  clear hr1 hk1
  go_wp2_with fail
  refine (Hru.out _ _ HR1.out).mono ?_
  rintro e w5 ⟨rfl, hb5⟩
  exact ⟨rfl, rfl, HK1.out.trans hb5⟩

theorem unit_par_ok {F : Lex} {T : ByteArray} (HW : Words F T) (hF : LexOk F T.size) {g : Nat} {s s1 s2 s3 : St} {v : Value} (w : World) (h : Rdr w g T s v) (hs : s.here ≤ T.size) (_hl : s.terms.length + left T.size s ≤ 5000) (h2 : s2.here ≤ T.size)
    (i1 : isS ⟨#[33]⟩ s = false) (i2 : isS ⟨#[40]⟩ s = true) (p : passM F s = .ok s1) (ru : ∀ w v, Rdr w g T s1 v → Calls Tryz.prog 17 #[.pointer (some ⟨g, 0, none⟩)] w fun e w' => e = .returned nothing ∧ (∃ v, Rdr w' g T s2 v) ∧ Below g w w') (n : needS F ⟨#[41]⟩ s2 = .ok s3) :
    Calls Tryz.prog 48 #[.pointer (some ⟨g, 0, none⟩)] w fun e w' => e = .returned nothing ∧ (∃ v, Rdr w' g T (s3) v) ∧ Below g w w' := by
  have HR0 : Hid (Rdr w g T s v) := h
  have HX : Hid (Words F T) := HW
  have HF : Hid (LexOk F T.size) := hF
  have I1 : Hid (isS ⟨#[33]⟩ s = false) := i1
  have I2 : Hid (isS ⟨#[40]⟩ s = true) := i2
  have Hp : Hid (passM F s = .ok s1) := p
  have Hru : Hid (∀ w v, Rdr w g T s1 v → Calls Tryz.prog 17 #[.pointer (some ⟨g, 0, none⟩)] w fun e w' => e = .returned nothing ∧ (∃ v, Rdr w' g T s2 v) ∧ Below g w w') := ru
  have Hn : Hid (needS F ⟨#[41]⟩ s2 = .ok s3) := n
  clear h HW hF i1 i2 p ru n
  go_enter Tryz.func48, Tryz.ntmps48
  go_wp2_with fail
  refine (reader_isSign g T _ s v _ HR0.out).mono ?_
  rw [I1.out]; rintro e x1 ⟨rfl, rfl⟩
  go_wp2_with fail
  refine (reader_isSign g T _ s v _ HR0.out).mono ?_
  rw [I2.out]; rintro e x2 ⟨rfl, rfl⟩
  clear I1 I2
  go_wp2_with fail
  refine (pass_ok HX.out _ HR0.out hs Hp.out).mono ?_
  rintro e w1 ⟨rfl, hr1, hk1⟩
  have HR1 : Hid (Rdr w1 g T s1 v) := hr1
  have HK1 : Hid (Below g x2 w1) := hk1.below
  clear hr1 hk1
  go_wp2_with fail
  refine (Hru.out _ _ HR1.out).mono ?_
  rintro e w5 ⟨rfl, ⟨v5, hr5⟩, hb5⟩
  have HR5 : Hid (Rdr w5 g T s2 v5) := hr5
  have HB5 : Hid (Below g x2 w5) := HK1.out.trans hb5
  clear hr5 hb5
  unfold nothing
  go_wp2_with fail
  refine (needS_ok HX.out _ _ HR5.out h2 Hn.out).mono ?_
  rintro e w2 ⟨rfl, hr2, hk2⟩
  have HR2 : Hid (Rdr w2 g T s3 v5) := hr2
  have HB2 : Hid (Below g x2 w2) := HB5.out.trans hk2.below
  clear hr2 hk2
  unfold nothing
  go_wp2
  exact ⟨rfl, _, results_none rfl _ _ _, rfl, ⟨_, HR2.out⟩, HB2.out⟩

theorem unit_par_end {F : Lex} {T : ByteArray} (HW : Words F T) (hF : LexOk F T.size) {g : Nat} {s s1 s2 : St} {v : Value} {m : Nat × Nat} (w : World) (h : Rdr w g T s v) (hs : s.here ≤ T.size) (_hl : s.terms.length + left T.size s ≤ 5000) (h2 : s2.here ≤ T.size)
    (i1 : isS ⟨#[33]⟩ s = false) (i2 : isS ⟨#[40]⟩ s = true) (p : passM F s = .ok s1) (ru : ∀ w v, Rdr w g T s1 v → Calls Tryz.prog 17 #[.pointer (some ⟨g, 0, none⟩)] w fun e w' => e = .returned nothing ∧ (∃ v, Rdr w' g T s2 v) ∧ Below g w w') (n : needS F ⟨#[41]⟩ s2 = .error m) :
    Calls Tryz.prog 48 #[.pointer (some ⟨g, 0, none⟩)] w fun e w' => e = thrown m ∧ Below g w w' := by
  have HR0 : Hid (Rdr w g T s v) := h
  have HX : Hid (Words F T) := HW
  have HF : Hid (LexOk F T.size) := hF
  have I1 : Hid (isS ⟨#[33]⟩ s = false) := i1
  have I2 : Hid (isS ⟨#[40]⟩ s = true) := i2
  have Hp : Hid (passM F s = .ok s1) := p
  have Hru : Hid (∀ w v, Rdr w g T s1 v → Calls Tryz.prog 17 #[.pointer (some ⟨g, 0, none⟩)] w fun e w' => e = .returned nothing ∧ (∃ v, Rdr w' g T s2 v) ∧ Below g w w') := ru
  have Hn : Hid (needS F ⟨#[41]⟩ s2 = .error m) := n
  clear h HW hF i1 i2 p ru n
  go_enter Tryz.func48, Tryz.ntmps48
  go_wp2_with fail
  refine (reader_isSign g T _ s v _ HR0.out).mono ?_
  rw [I1.out]; rintro e x1 ⟨rfl, rfl⟩
  go_wp2_with fail
  refine (reader_isSign g T _ s v _ HR0.out).mono ?_
  rw [I2.out]; rintro e x2 ⟨rfl, rfl⟩
  clear I1 I2
  go_wp2_with fail
  refine (pass_ok HX.out _ HR0.out hs Hp.out).mono ?_
  rintro e w1 ⟨rfl, hr1, hk1⟩
  have HR1 : Hid (Rdr w1 g T s1 v) := hr1
  have HK1 : Hid (Below g x2 w1) := hk1.below
  clear hr1 hk1
  go_wp2_with fail
  refine (Hru.out _ _ HR1.out).mono ?_
  rintro e w5 ⟨rfl, ⟨v5, hr5⟩, hb5⟩
  have HR5 : Hid (Rdr w5 g T s2 v5) := hr5
  have HB5 : Hid (Below g x2 w5) := HK1.out.trans hb5
  clear hr5 hb5
  unfold nothing
  go_wp2_with fail
  refine (needS_bad HX.out _ _ HR5.out h2 Hn.out).mono ?_
  rintro e w2 ⟨rfl, hb2⟩
  exact ⟨rfl, rfl, HB5.out.trans (hb2.mono (Nat.le_of_lt HR5.out.lt))⟩

end Go.Proofs.YteoopoabemeanaaGreatDoor
