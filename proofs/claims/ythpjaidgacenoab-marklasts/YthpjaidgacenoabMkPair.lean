/- A pair of disks with their cells; a deed on both. -/
import Derived.Test.YthpjaidgacenoabMkDeed
import Derived.Test.YthpjaidgacenoabMr2
import Derived.Test.YthpjaidgacenoabMk7
namespace Go.Proofs.Ythpjaidgacenoab
open Go.RowKit

def doM (D : Dk) (d : Dm) : Dk := if d.kind = 0 then putCD D 1 3 d.i_ d.v_ else if d.kind = 1 then writeD D d.i_ d.bs else if d.kind = 2 then syncD D else if d.kind = 3 then tripD D d.v_ else if d.kind = 4 then crashD D d.F else D
def Pr (w : World) (gp g gc r gy : Nat) : Prop := Blk w gp #[.pointer (some ⟨g, 0, none⟩), .pointer (some ⟨gc, 0, none⟩), .pointer (some ⟨r, 0, none⟩), .pointer (some ⟨gy, 0, none⟩)] 36
/-- Both disks and their cells are as one says. -/
structure Quad (w : World) (base gp g gs gc r gy q : Nat) (wv sv rv : Value) (SV WV : List Value) (D : Dk) : Prop where
  dk : Disk w base g gs wv D
  rk : Rk w base r q sv rv SV WV D
  qq : q < w.heap.size
  cs : Cs w gc g 1 3
  cr : Cr w gy r 1 3
  pr : Pr w gp g gc r gy
  bp : base ≤ gp
  s8 : D.sure.length = 8
def Four (w : World) (base gp g gs r : Nat) (D : Dk) : Prop := ∃ gc gy q wv sv rv SV WV, Quad w base gp g gs gc r gy q wv sv rv SV WV D
theorem Quad.stay {w w' : World} {base gp g gs gc r gy q : Nat} {wv sv rv : Value} {SV WV : List Value} {D : Dk} (h : Quad w base gp g gs gc r gy q wv sv rv SV WV D) (hb : Below w.heap.size w w') : Quad w' base gp g gs gc r gy q wv sv rv SV WV D :=
  ⟨h.dk.stay hb, h.rk.stay hb, Nat.lt_of_lt_of_le h.qq hb.size, h.cs.stay hb, h.cr.stay hb, Blk.stay h.pr hb, h.bp, h.s8⟩
theorem Four.stay {w w' : World} {base gp g gs r : Nat} {D : Dk} (h : Four w base gp g gs r D) (hb : Below w.heap.size w w') : Four w' base gp g gs r D := by
  obtain ⟨gc, gy, q, wv, sv, rv, SV, WV, h⟩ := h
  exact ⟨gc, gy, q, wv, sv, rv, SV, WV, h.stay hb⟩
theorem Quad.base {w : World} {base gp g gs gc r gy q : Nat} {wv sv rv : Value} {SV WV : List Value} {D : Dk} (h : Quad w base gp g gs gc r gy q wv sv rv SV WV D) : base ≤ w.heap.size := Nat.le_trans h.dk.bg (Nat.le_of_lt h.dk.blk.lt)
theorem Quad.ne {w : World} {base gp g gs gc r gy q : Nat} {wv sv rv : Value} {SV WV : List Value} {D : Dk} (h : Quad w base gp g gs gc r gy q wv sv rv SV WV D) {k : Nat} {cs : Array Value} {t : TypeId} (hk : Blk w k cs t) (h1 : t ≠ 52) (h2 : t ≠ 54) : k ≠ g ∧ k ≠ gs := ⟨blk_ne hk h.dk.blk h1, blk_ne hk h.dk.srow h2⟩
/-- What the code's disk does leaves all the rest. -/
theorem Quad.mv {w w' : World} {base gp g gs gc r gy q : Nat} {wv sv rv : Value} {SV WV : List Value} {D : Dk} (h : Quad w base gp g gs gc r gy q wv sv rv SV WV D) (hm : Mv w w' base g gs) : Rk w' base r q sv rv SV WV D ∧ q < w'.heap.size ∧ Cs w' gc g 1 3 ∧ Cr w' gy r 1 3 ∧ Pr w' gp g gc r gy :=
  ⟨h.rk.move (Keep.of_mv h.dk hm q), Nat.lt_of_lt_of_le h.qq hm.low.size, hm.keep h.cs (h.ne h.cs (by decide) (by decide)).1 (h.ne h.cs (by decide) (by decide)).2 (by decide), hm.keep h.cr (h.ne h.cr (by decide) (by decide)).1 (h.ne h.cr (by decide) (by decide)).2 (by decide), hm.keep h.pr (h.ne h.pr (by decide) (by decide)).1 (h.ne h.pr (by decide) (by decide)).2 (by decide)⟩
/-- Both have done the same. -/
theorem Quad.both {w w2 w3 : World} {base gp g gs gc r gy q : Nat} {wv sv rv : Value} {SV WV : List Value} {D D' : Dk} (h : Quad w base gp g gs gc r gy q wv sv rv SV WV D) (hm : Mv w w2 base g gs) {wv2 : Value} (hd : Disk w2 base g gs wv2 D') (hr : Mr w2 w3 base) {sv3 rv3 : Value} {SV3 WV3 : List Value} (hk : Rk w3 base r q sv3 rv3 SV3 WV3 D') (hl : D'.sure.length = D.sure.length) : Quad w3 base gp g gs gc r gy q wv2 sv3 rv3 SV3 WV3 D' := by
  obtain ⟨_, m2, m3, m4, m5⟩ := h.mv hm
  exact ⟨hd.stayR hr, hk, Nat.lt_of_lt_of_le m2 hr.low.size, hr.keep m3 (by decide) (by decide) (by decide), hr.keep m4 (by decide) (by decide) (by decide), hr.keep m5 (by decide) (by decide) (by decide), h.bp, by rw [hl]; exact h.s8⟩
theorem repl_grew (D : Dk) (p n v : Int) : (replD D p n v).waits.length ≤ D.waits.length + 1 ∧ (replD D p n v).age ≤ D.age ∧ (replD D p n v).sure.length = D.sure.length := by
  have wa : ∀ (D : Dk) (i : Int) (bs : List Nat), (writeD D i bs).age = D.age := fun D i bs => by
    unfold writeD
    split
    · rfl
    split
    · rfl
    split
    · rfl
    split
    · exact trips_age D
    · exact trips_age D
  have sa : ∀ (D : Dk), (syncD D).age = D.age ∧ (syncD D).waits.length ≤ D.waits.length := fun D => by
    unfold syncD
    split
    · exact ⟨rfl, Nat.le_refl _⟩
    split
    · exact ⟨trips_age D, by rw [trips_waits]; exact Nat.le_refl _⟩
    · exact ⟨trips_age D, Nat.zero_le _⟩
  unfold replD
  split
  · split
    · refine ⟨Nat.le_trans (sa _).2 (write_grew D p _).wl, by rw [(sa _).1, wa]; exact Nat.le_refl _, ?_⟩
      rw [(sync_grew _).sl, (write_grew D p _).sl]
    · exact ⟨(write_grew D p _).wl, by rw [wa]; exact Nat.le_refl _, (write_grew D p _).sl⟩
  · exact ⟨Nat.le_succ _, Nat.le_refl _, rfl⟩
theorem put_grew (D : Dk) (b m : Nat) (i v : Int) : (putCD D b m i v).waits.length ≤ D.waits.length + 1 ∧ (putCD D b m i v).age ≤ D.age ∧ (putCD D b m i v).sure.length = D.sure.length := by
  unfold putCD
  split
  · exact ⟨Nat.le_succ _, Nat.le_refl _, rfl⟩
  split
  · split
    · exact ⟨Nat.le_succ _, Nat.le_refl _, rfl⟩
    · exact repl_grew _ _ _ _
  · exact ⟨Nat.le_succ _, Nat.le_refl _, rfl⟩
theorem doM_grew (D : Dk) (d : Dm) : Grew D (doM D d) := by
  unfold doM
  split
  · have := put_grew D 1 3 d.i_ d.v_
    exact ⟨this.1, by omega, this.2.2⟩
  split
  · exact write_grew _ _ _
  split
  · exact sync_grew _
  split
  · exact trip_grew _ _
  split
  · exact crash_grew _ _
  · exact Grew.same D

/-- A deed in a box. -/
def boxM (d : Dm) : Array Value := #[.int .i64 d.kind, .int .i64 d.i_, .int .i64 d.v_, .slice d.ba d.bl d.bc, .slice d.fa d.fl d.fc]

set_option maxRecDepth 100000 in
set_option maxHeartbeats 4000000 in
theorem m_do0 (w : World) (base gp g gs r : Nat) (D : Dk) (d : Dm) (h : Four w base gp g gs r D) (hk : d.kind = 0) (hw : D.waits.length < 1000000000) :
    Calls Try.prog 13 #[.pointer (some ⟨gp, 0, none⟩), .agg #[.int .i64 d.kind, .int .i64 d.i_, .int .i64 d.v_, .slice d.ba d.bl d.bc, .slice d.fa d.fl d.fc]] w fun e w' => e = .returned (.bool true) ∧ Hid (Four w' base gp g gs r (putCD D 1 3 d.i_ d.v_)) ∧ Below base w w' := by
  obtain ⟨gc, gy, q, wv, sv, rv, SV, WV, h⟩ := h
  obtain ⟨dk, di, dv, ba, bl, bc, bs, fa, fl, fc, F⟩ := d
  simp only at hk ⊢
  subst hk
  obtain ⟨W1, HW1⟩ : ∃ W1, Hid (W1 = w.alloc (.cells #[.int .i64 0, .int .i64 di, .int .i64 dv, .slice ba bl bc, .slice fa fl fc] 26)) := ⟨_, rfl⟩
  have HB1 : Hid (Below w.heap.size w W1.drew) := by show Below _ _ _; rw [HW1.out]; exact (below_alloc _ _).drew
  have HKX : Hid (Blk W1.drew w.heap.size #[.int .i64 0, .int .i64 di, .int .i64 dv, .slice ba bl bc, .slice fa fl fc] 26) := by show Blk _ _ _ _; rw [HW1.out]; exact Blk.new _ _ _
  have HQ : Hid (Quad W1.drew base gp g gs gc r gy q wv sv rv SV WV D) := h.stay HB1.out
  have HBS : Hid (base ≤ w.heap.size) := h.base
  have HNE : Hid (w.heap.size ≠ g ∧ w.heap.size ≠ gs) := HQ.out.ne HKX.out (by decide) (by decide)
  have HWL : Hid (D.waits.length < 1000000000) := hw
  have p1 : W1.drew.cell? ⟨gp, 1, none⟩ = some (.pointer (some ⟨gc, 0, none⟩)) := Blk.cell HQ.out.pr 1 rfl
  have p3 : W1.drew.cell? ⟨gp, 3, none⟩ = some (.pointer (some ⟨gy, 0, none⟩)) := Blk.cell HQ.out.pr 3 rfl
  have b1 : W1.drew.cell? ⟨w.heap.size, 1, none⟩ = some (.int .i64 di) := HKX.out.cell 1 rfl
  have b2 : W1.drew.cell? ⟨w.heap.size, 2, none⟩ = some (.int .i64 dv) := HKX.out.cell 2 rfl
  obtain ⟨E, HE⟩ : ∃ E, Hid (E = putCE D 1 3 di dv) := ⟨_, rfl⟩
  obtain ⟨D', HDE⟩ : ∃ D', Hid (D' = putCD D 1 3 di dv) := ⟨_, rfl⟩
  rw [← HDE.out]
  clear h hw
  go_enter Try.func13, Try.ntmps13
  go_wp2
  rw [← HW1.out]
  go_region_held3 (fun w' => w'.cell? ⟨gp, 1, none⟩ = some (.pointer (some ⟨gc, 0, none⟩)) ∧ w'.cell? ⟨gp, 3, none⟩ = some (.pointer (some ⟨gy, 0, none⟩)) ∧ w'.cell? ⟨w.heap.size, 1, none⟩ = some (.int .i64 di) ∧ w'.cell? ⟨w.heap.size, 2, none⟩ = some (.int .i64 dv)) (first | exact ⟨p1, p3, b1, b2⟩ | exact s2 | exact s3 | fail)
    (first
      | (go_at_call 9; refine (cells_Put _ base g gs wv D gc 1 3 di dv HQ.out.dk HQ.out.cs (by omega) (by omega) HWL.out).mono ?_; rw [← HE.out, ← HDE.out]; rintro e w2 ⟨rfl, hd2, hm2⟩; have k2 := hm2.keep HKX.out HNE.out.1 HNE.out.2 (by decide); have m2 := HQ.out.mv hm2; have s2 : w2.cell? ⟨gp, 1, none⟩ = some (.pointer (some ⟨gc, 0, none⟩)) ∧ w2.cell? ⟨gp, 3, none⟩ = some (.pointer (some ⟨gy, 0, none⟩)) ∧ w2.cell? ⟨w.heap.size, 1, none⟩ = some (.int .i64 di) ∧ w2.cell? ⟨w.heap.size, 2, none⟩ = some (.int .i64 dv) := ⟨Blk.cell m2.2.2.2.2 1 rfl, Blk.cell m2.2.2.2.2 3 rfl, k2.cell 1 rfl, k2.cell 2 rfl⟩)
      | (go_at_call 25; refine (ref_PutC _ base r q sv rv SV WV D gy 1 3 di dv m2.1 m2.2.1 m2.2.2.2.1 (by omega) (by omega) (by rw [HQ.out.s8]; omega) HWL.out).mono ?_; rw [← HE.out, ← HDE.out]; rintro e w3 ⟨rfl, hr3, hm3⟩; have k3 := hm3.keep k2 (by decide) (by decide) (by decide); have pr3 := hm3.keep m2.2.2.2.2 (by decide) (by decide) (by decide); have s3 : w3.cell? ⟨gp, 1, none⟩ = some (.pointer (some ⟨gc, 0, none⟩)) ∧ w3.cell? ⟨gp, 3, none⟩ = some (.pointer (some ⟨gy, 0, none⟩)) ∧ w3.cell? ⟨w.heap.size, 1, none⟩ = some (.int .i64 di) ∧ w3.cell? ⟨w.heap.size, 2, none⟩ = some (.int .i64 dv) := ⟨Blk.cell pr3 1 rfl, Blk.cell pr3 3 rfl, k3.cell 1 rfl, k3.cell 2 rfl⟩))
  obtain ⟨wv2, hd2⟩ := hd2.out
  obtain ⟨rv3, SV3, WV3, hr3⟩ := hr3.out
  have HF : Hid (Four w3 base gp g gs r D') := ⟨gc, gy, q, wv2, sv, rv3, SV3, WV3, HQ.out.both hm2 hd2 hm3 hr3 (by rw [HDE.out]; exact (put_grew D 1 3 di dv).2.2)⟩
  have HB3 : Hid (Below base w w3) := ((HB1.out.mono HBS.out).trans hm2.low).trans hm3.low
  clear hd2 hm2 k2 m2 s2 hr3 hm3 k3 pr3 s3 p1 p3 b1 b2
  go_wp2
  go_ret
  exact ⟨by simp, HF, HB3.out⟩
end Go.Proofs.Ythpjaidgacenoab
