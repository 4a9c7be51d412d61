/- Deeds on both disks with their cells. -/
import Derived.Test.YthpjaidgacenoabMkPair
namespace Go.Proofs.Ythpjaidgacenoab
open Go.RowKit

set_option maxRecDepth 100000 in
set_option maxHeartbeats 4000000 in
theorem m_do1 (w : World) (base gp g gs r : Nat) (D : Dk) (d : Dm) (h : Four w base gp g gs r D) (hk : d.kind = 1) (hdq : ∀ w', Below base w w' → DmOk w' d) (hw : D.waits.length < 1000000000) :
    Calls Try.prog 13 #[.pointer (some ⟨gp, 0, none⟩), .agg #[.int .i64 d.kind, .int .i64 d.i_, .int .i64 d.v_, .slice d.ba d.bl d.bc, .slice d.fa d.fl d.fc]] w fun e w' => e = .returned (.bool true) ∧ Hid (Four w' base gp g gs r (writeD D d.i_ d.bs)) ∧ Below base w w' := by
  obtain ⟨gc, gy, q, wv, sv, rv, SV, WV, h⟩ := h
  obtain ⟨dk, di, dv, ba, bl, bc, bs, fa, fl, fc, F⟩ := d
  simp only at hk hdq ⊢
  subst hk
  have HDQ0 : Hid (∀ w', Below base w w' → DmOk w' ⟨1, di, dv, ba, bl, bc, bs, fa, fl, fc, F⟩) := hdq
  obtain ⟨W1, HW1⟩ : ∃ W1, Hid (W1 = w.alloc (.cells #[.int .i64 1, .int .i64 di, .int .i64 dv, .slice ba bl bc, .slice fa fl fc] 26)) := ⟨_, rfl⟩
  have HB1 : Hid (Below w.heap.size w W1.drew) := by show Below _ _ _; rw [HW1.out]; exact (below_alloc _ _).drew
  have HKX : Hid (Blk W1.drew w.heap.size #[.int .i64 1, .int .i64 di, .int .i64 dv, .slice ba bl bc, .slice fa fl fc] 26) := by show Blk _ _ _ _; rw [HW1.out]; exact Blk.new _ _ _
  have HQ : Hid (Quad W1.drew base gp g gs gc r gy q wv sv rv SV WV D) := h.stay HB1.out
  have HBS : Hid (base ≤ w.heap.size) := h.base
  have HB1b : Hid (Below base w W1.drew) := HB1.out.mono HBS.out
  have HDQ : Hid (∀ w', Below base W1.drew w' → DmOk w' ⟨1, di, dv, ba, bl, bc, bs, fa, fl, fc, F⟩) := fun w' hb => HDQ0.out w' (HB1b.out.trans hb)
  have HOK := HDQ.out W1.drew (Below.refl _ _)
  have HNE : Hid (w.heap.size ≠ g ∧ w.heap.size ≠ gs) := HQ.out.ne HKX.out (by decide) (by decide)
  have HS1 : Hid (W1.drew.cell? ⟨gp, 0, none⟩ = some (.pointer (some ⟨g, 0, none⟩)) ∧ W1.drew.cell? ⟨gp, 2, none⟩ = some (.pointer (some ⟨r, 0, none⟩)) ∧ W1.drew.cell? ⟨w.heap.size, 1, none⟩ = some (.int .i64 di) ∧ W1.drew.cell? ⟨w.heap.size, 3, none⟩ = some (.slice ba bl bc)) := ⟨Blk.cell HQ.out.pr 0 rfl, Blk.cell HQ.out.pr 2 rfl, HKX.out.cell 1 rfl, HKX.out.cell 3 rfl⟩
  have s1 := HS1.out
  obtain ⟨E, HE⟩ : ∃ E, Hid (E = writeE D di bs) := ⟨_, rfl⟩
  obtain ⟨D', HDE⟩ : ∃ D', Hid (D' = writeD D di bs) := ⟨_, rfl⟩
  rw [← HDE.out]
  have HBL : Hid (bl ≤ 9223372036854775807) := by show _ ≤ _; have := HOK.bb; simp only at this; omega
  have HNC : Hid (ba = none → bc = 0) := HOK.nc
  clear h hdq
  go_enter Try.func13, Try.ntmps13
  go_wp2
  rw [← HW1.out]
  go_region_held3 (fun w' => w'.cell? ⟨gp, 0, none⟩ = some (.pointer (some ⟨g, 0, none⟩)) ∧ w'.cell? ⟨gp, 2, none⟩ = some (.pointer (some ⟨r, 0, none⟩)) ∧ w'.cell? ⟨w.heap.size, 1, none⟩ = some (.int .i64 di) ∧ w'.cell? ⟨w.heap.size, 3, none⟩ = some (.slice ba bl bc)) (first | exact s1 | exact s2 | exact s3 | exact s4 | fail)
    (first
      | (go_at_call 26; refine (disk_Write _ base g gs wv D di ba bl bc bs HQ.out.dk (fun w' hm => (HDQ.out w' hm.low).rd) HBL.out hw).mono ?_; rw [← HE.out, ← HDE.out]; rintro e w2 ⟨rfl, hd2, hm2⟩; have k2 := hm2.keep HKX.out HNE.out.1 HNE.out.2 (by decide); have m2 := HQ.out.mv hm2; have s2 : w2.cell? ⟨gp, 0, none⟩ = some (.pointer (some ⟨g, 0, none⟩)) ∧ w2.cell? ⟨gp, 2, none⟩ = some (.pointer (some ⟨r, 0, none⟩)) ∧ w2.cell? ⟨w.heap.size, 1, none⟩ = some (.int .i64 di) ∧ w2.cell? ⟨w.heap.size, 3, none⟩ = some (.slice ba bl bc) := ⟨Blk.cell m2.2.2.2.2 0 rfl, Blk.cell m2.2.2.2.2 2 rfl, k2.cell 1 rfl, k2.cell 3 rfl⟩)
      | (go_at_call 27; refine (ref_Write _ base r q sv rv SV WV D di ba bl bc bs m2.1 m2.2.1 (fun w' hm => (HDQ.out w' (hm2.low.trans hm.low)).rd) HNC.out HBL.out hw).mono ?_; rw [← HE.out, ← HDE.out]; rintro e w3 ⟨rfl, hr3, hm3⟩; have k3 := hm3.keep k2 (by decide) (by decide) (by decide); have pr3 := hm3.keep m2.2.2.2.2 (by decide) (by decide) (by decide); have s3 : w3.cell? ⟨gp, 0, none⟩ = some (.pointer (some ⟨g, 0, none⟩)) ∧ w3.cell? ⟨gp, 2, none⟩ = some (.pointer (some ⟨r, 0, none⟩)) ∧ w3.cell? ⟨w.heap.size, 1, none⟩ = some (.int .i64 di) ∧ w3.cell? ⟨w.heap.size, 3, none⟩ = some (.slice ba bl bc) := ⟨Blk.cell pr3 0 rfl, Blk.cell pr3 2 rfl, k3.cell 1 rfl, k3.cell 3 rfl⟩))
  obtain ⟨wv2, hd2⟩ := hd2.out
  obtain ⟨rv3, WV3, hr3⟩ := hr3.out
  have HF : Hid (Four w3 base gp g gs r D') := ⟨gc, gy, q, wv2, sv, rv3, SV, WV3, HQ.out.both hm2 hd2 hm3 hr3 (by rw [HDE.out]; exact (write_grew D di bs).sl)⟩
  have HB3 : Hid (Below base w w3) := (HB1b.out.trans hm2.low).trans hm3.low
  clear hd2 hm2 k2 m2 s1 s2 hr3 hm3 k3 pr3 s3 HOK
  go_wp2
  go_ret
  exact ⟨by simp, HF, HB3.out⟩


set_option maxRecDepth 100000 in
set_option maxHeartbeats 4000000 in
theorem m_do2 (w : World) (base gp g gs r : Nat) (D : Dk) (d : Dm) (h : Four w base gp g gs r D) (hk : d.kind = 2) (hdq : ∀ w', Below base w w' → DmOk w' d) :
    Calls Try.prog 13 #[.pointer (some ⟨gp, 0, none⟩), .agg #[.int .i64 d.kind, .int .i64 d.i_, .int .i64 d.v_, .slice d.ba d.bl d.bc, .slice d.fa d.fl d.fc]] w fun e w' => e = .returned (.bool true) ∧ Hid (Four w' base gp g gs r (syncD D)) ∧ Below base w w' := by
  obtain ⟨gc, gy, q, wv, sv, rv, SV, WV, h⟩ := h
  obtain ⟨dk, di, dv, ba, bl, bc, bs, fa, fl, fc, F⟩ := d
  simp only at hk hdq ⊢
  subst hk
  have HDQ0 : Hid (∀ w', Below base w w' → DmOk w' ⟨2, di, dv, ba, bl, bc, bs, fa, fl, fc, F⟩) := hdq
  obtain ⟨W1, HW1⟩ : ∃ W1, Hid (W1 = w.alloc (.cells #[.int .i64 2, .int .i64 di, .int .i64 dv, .slice ba bl bc, .slice fa fl fc] 26)) := ⟨_, rfl⟩
  have HB1 : Hid (Below w.heap.size w W1.drew) := by show Below _ _ _; rw [HW1.out]; exact (below_alloc _ _).drew
  have HKX : Hid (Blk W1.drew w.heap.size #[.int .i64 2, .int .i64 di, .int .i64 dv, .slice ba bl bc, .slice fa fl fc] 26) := by show Blk _ _ _ _; rw [HW1.out]; exact Blk.new _ _ _
  have HQ : Hid (Quad W1.drew base gp g gs gc r gy q wv sv rv SV WV D) := h.stay HB1.out
  have HBS : Hid (base ≤ w.heap.size) := h.base
  have HB1b : Hid (Below base w W1.drew) := HB1.out.mono HBS.out
  have HDQ : Hid (∀ w', Below base W1.drew w' → DmOk w' ⟨2, di, dv, ba, bl, bc, bs, fa, fl, fc, F⟩) := fun w' hb => HDQ0.out w' (HB1b.out.trans hb)
  have HOK := HDQ.out W1.drew (Below.refl _ _)
  have HNE : Hid (w.heap.size ≠ g ∧ w.heap.size ≠ gs) := HQ.out.ne HKX.out (by decide) (by decide)
  have HS1 : Hid (W1.drew.cell? ⟨gp, 0, none⟩ = some (.pointer (some ⟨g, 0, none⟩)) ∧ W1.drew.cell? ⟨gp, 2, none⟩ = some (.pointer (some ⟨r, 0, none⟩))) := ⟨Blk.cell HQ.out.pr 0 rfl, Blk.cell HQ.out.pr 2 rfl⟩
  have s1 := HS1.out
  obtain ⟨E, HE⟩ : ∃ E, Hid (E = syncE D) := ⟨_, rfl⟩
  obtain ⟨D', HDE⟩ : ∃ D', Hid (D' = syncD D) := ⟨_, rfl⟩
  rw [← HDE.out]
  clear h hdq
  go_enter Try.func13, Try.ntmps13
  go_wp2
  rw [← HW1.out]
  go_region_held3 (fun w' => w'.cell? ⟨gp, 0, none⟩ = some (.pointer (some ⟨g, 0, none⟩)) ∧ w'.cell? ⟨gp, 2, none⟩ = some (.pointer (some ⟨r, 0, none⟩))) (first | exact s1 | exact s2 | exact s3 | exact s4 | fail)
    (first
      | (go_at_call 28; refine (disk_Sync _ base g gs wv D HQ.out.dk).mono ?_; rw [← HE.out, ← HDE.out]; rintro e w2 ⟨rfl, hd2, hm2⟩; have k2 := hm2.keep HKX.out HNE.out.1 HNE.out.2 (by decide); have m2 := HQ.out.mv hm2; have s2 : w2.cell? ⟨gp, 0, none⟩ = some (.pointer (some ⟨g, 0, none⟩)) ∧ w2.cell? ⟨gp, 2, none⟩ = some (.pointer (some ⟨r, 0, none⟩)) := ⟨Blk.cell m2.2.2.2.2 0 rfl, Blk.cell m2.2.2.2.2 2 rfl⟩)
      | (go_at_call 29; refine (ref_Sync _ base r q sv rv SV WV D m2.1 m2.2.1).mono ?_; rw [← HE.out, ← HDE.out]; rintro e w3 ⟨rfl, hr3, hm3⟩; have k3 := hm3.keep k2 (by decide) (by decide) (by decide); have pr3 := hm3.keep m2.2.2.2.2 (by decide) (by decide) (by decide); have s3 : w3.cell? ⟨gp, 0, none⟩ = some (.pointer (some ⟨g, 0, none⟩)) ∧ w3.cell? ⟨gp, 2, none⟩ = some (.pointer (some ⟨r, 0, none⟩)) := ⟨Blk.cell pr3 0 rfl, Blk.cell pr3 2 rfl⟩))
  obtain ⟨wv2, hd2⟩ := hd2.out
  obtain ⟨rv3, SV3, WV3, hr3⟩ := hr3.out
  have HF : Hid (Four w3 base gp g gs r D') := ⟨gc, gy, q, wv2, sv, rv3, SV3, WV3, HQ.out.both hm2 hd2 hm3 hr3 (by rw [HDE.out]; exact (sync_grew D).sl)⟩
  have HB3 : Hid (Below base w w3) := (HB1b.out.trans hm2.low).trans hm3.low
  clear hd2 hm2 k2 m2 s1 s2 hr3 hm3 k3 pr3 s3 HOK
  go_wp2
  go_ret
  exact ⟨by simp, HF, HB3.out⟩


set_option maxRecDepth 100000 in
set_option maxHeartbeats 4000000 in
theorem m_do3 (w : World) (base gp g gs r : Nat) (D : Dk) (d : Dm) (h : Four w base gp g gs r D) (hk : d.kind = 3) (hdq : ∀ w', Below base w w' → DmOk w' d) :
    Calls Try.prog 13 #[.pointer (some ⟨gp, 0, none⟩), .agg #[.int .i64 d.kind, .int .i64 d.i_, .int .i64 d.v_, .slice d.ba d.bl d.bc, .slice d.fa d.fl d.fc]] w fun e w' => e = .returned (.bool true) ∧ Hid (Four w' base gp g gs r (tripD D d.v_)) ∧ Below base w w' := by
  obtain ⟨gc, gy, q, wv, sv, rv, SV, WV, h⟩ := h
  obtain ⟨dk, di, dv, ba, bl, bc, bs, fa, fl, fc, F⟩ := d
  simp only at hk hdq ⊢
  subst hk
  have HDQ0 : Hid (∀ w', Below base w w' → DmOk w' ⟨3, di, dv, ba, bl, bc, bs, fa, fl, fc, F⟩) := hdq
  obtain ⟨W1, HW1⟩ : ∃ W1, Hid (W1 = w.alloc (.cells #[.int .i64 3, .int .i64 di, .int .i64 dv, .slice ba bl bc, .slice fa fl fc] 26)) := ⟨_, rfl⟩
  have HB1 : Hid (Below w.heap.size w W1.drew) := by show Below _ _ _; rw [HW1.out]; exact (below_alloc _ _).drew
  have HKX : Hid (Blk W1.drew w.heap.size #[.int .i64 3, .int .i64 di, .int .i64 dv, .slice ba bl bc, .slice fa fl fc] 26) := by show Blk _ _ _ _; rw [HW1.out]; exact Blk.new _ _ _
  have HQ : Hid (Quad W1.drew base gp g gs gc r gy q wv sv rv SV WV D) := h.stay HB1.out
  have HBS : Hid (base ≤ w.heap.size) := h.base
  have HB1b : Hid (Below base w W1.drew) := HB1.out.mono HBS.out
  have HDQ : Hid (∀ w', Below base W1.drew w' → DmOk w' ⟨3, di, dv, ba, bl, bc, bs, fa, fl, fc, F⟩) := fun w' hb => HDQ0.out w' (HB1b.out.trans hb)
  have HOK := HDQ.out W1.drew (Below.refl _ _)
  have HNE : Hid (w.heap.size ≠ g ∧ w.heap.size ≠ gs) := HQ.out.ne HKX.out (by decide) (by decide)
  have HS1 : Hid (W1.drew.cell? ⟨gp, 0, none⟩ = some (.pointer (some ⟨g, 0, none⟩)) ∧ W1.drew.cell? ⟨gp, 2, none⟩ = some (.pointer (some ⟨r, 0, none⟩)) ∧ W1.drew.cell? ⟨w.heap.size, 2, none⟩ = some (.int .i64 dv)) := ⟨Blk.cell HQ.out.pr 0 rfl, Blk.cell HQ.out.pr 2 rfl, HKX.out.cell 2 rfl⟩
  have s1 := HS1.out
  obtain ⟨E, HE⟩ : ∃ E, Hid (E = tripE D dv) := ⟨_, rfl⟩
  obtain ⟨D', HDE⟩ : ∃ D', Hid (D' = tripD D dv) := ⟨_, rfl⟩
  rw [← HDE.out]
  have HV1 : Hid (dv ≤ 9223372036854775807) := HOK.v1
  clear h hdq
  go_enter Try.func13, Try.ntmps13
  go_wp2
  rw [← HW1.out]
  go_region_held3 (fun w' => w'.cell? ⟨gp, 0, none⟩ = some (.pointer (some ⟨g, 0, none⟩)) ∧ w'.cell? ⟨gp, 2, none⟩ = some (.pointer (some ⟨r, 0, none⟩)) ∧ w'.cell? ⟨w.heap.size, 2, none⟩ = some (.int .i64 dv)) (first | exact s1 | exact s2 | exact s3 | exact s4 | fail)
    (first
      | (go_at_call 8; refine (disk_Trip _ base g gs wv D dv HQ.out.dk HV1.out).mono ?_; rw [← HE.out, ← HDE.out]; rintro e w2 ⟨rfl, hd2, hm2⟩; have k2 := hm2.keep HKX.out HNE.out.1 HNE.out.2 (by decide); have m2 := HQ.out.mv hm2; have s2 : w2.cell? ⟨gp, 0, none⟩ = some (.pointer (some ⟨g, 0, none⟩)) ∧ w2.cell? ⟨gp, 2, none⟩ = some (.pointer (some ⟨r, 0, none⟩)) ∧ w2.cell? ⟨w.heap.size, 2, none⟩ = some (.int .i64 dv) := ⟨Blk.cell m2.2.2.2.2 0 rfl, Blk.cell m2.2.2.2.2 2 rfl, k2.cell 2 rfl⟩)
      | (go_at_call 30; refine (ref_Trip _ base r q sv rv SV WV D dv m2.1 HV1.out).mono ?_; rw [← HE.out, ← HDE.out]; rintro e w3 ⟨rfl, hr3, hm3⟩; have k3 := hm3.keep k2 (by decide) (by decide) (by decide); have pr3 := hm3.keep m2.2.2.2.2 (by decide) (by decide) (by decide); have s3 : w3.cell? ⟨gp, 0, none⟩ = some (.pointer (some ⟨g, 0, none⟩)) ∧ w3.cell? ⟨gp, 2, none⟩ = some (.pointer (some ⟨r, 0, none⟩)) ∧ w3.cell? ⟨w.heap.size, 2, none⟩ = some (.int .i64 dv) := ⟨Blk.cell pr3 0 rfl, Blk.cell pr3 2 rfl, k3.cell 2 rfl⟩))
  have HF : Hid (Four w3 base gp g gs r D') := ⟨gc, gy, q, wv, sv, rv, SV, WV, HQ.out.both hm2 hd2.out hm3 hr3.out (by rw [HDE.out]; exact (trip_grew D dv).sl)⟩
  have HB3 : Hid (Below base w w3) := (HB1b.out.trans hm2.low).trans hm3.low
  clear hd2 hm2 k2 m2 s1 s2 hr3 hm3 k3 pr3 s3 HOK
  go_wp2
  go_ret
  exact ⟨by simp, HF, HB3.out⟩


/-- All blocks stay but one. -/
structure Mo (w w' : World) (base gp : Nat) : Prop where
  low : Below base w w'
  block : ∀ (k : Nat) cs t fr, w.heap[k]? = some (.cells cs t fr) → k ≠ gp → w'.heap[k]? = some (.cells cs t fr)
theorem Mo.keep {w w' : World} {base gp k : Nat} {cs : Array Value} {t : TypeId} (h : Mo w w' base gp) (hb : Blk w k cs t) (hk : k ≠ gp) : Blk w' k cs t := h.block k cs t _ hb hk

set_option maxRecDepth 100000 in
set_option maxHeartbeats 2000000 in
theorem m_open (w : World) (base gp g gs r q : Nat) (wv sv rv : Value) (SV WV : List Value) (D : Dk) (p1 p3 : Option Addr) (hd : Disk w base g gs wv D) (hr : Rk w base r q sv rv SV WV D) (hq : q < w.heap.size) (hp : Blk w gp #[.pointer (some ⟨g, 0, none⟩), .pointer p1, .pointer (some ⟨r, 0, none⟩), .pointer p3] 36) (hb : base ≤ gp) (h8 : D.sure.length = 8) :
    Calls Try.prog 24 #[.pointer (some ⟨gp, 0, none⟩)] w fun e w' => e = .returned (.bool true) ∧ Hid (Four w' base gp g gs r D) ∧ Mo w w' base gp := by
  have HD : Hid (Disk w base g gs wv D) := hd
  have HR : Hid (Rk w base r q sv rv SV WV D) := hr
  have HQ : Hid (q < w.heap.size) := hq
  have HP : Hid (Blk w gp #[.pointer (some ⟨g, 0, none⟩), .pointer p1, .pointer (some ⟨r, 0, none⟩), .pointer p3] 36) := hp
  have H8 : Hid (D.sure.length = 8) := h8
  have c0 : w.cell? ⟨gp, 0, none⟩ = some (.pointer (some ⟨g, 0, none⟩)) := hp.cell 0 rfl
  have HBW : Hid (base ≤ w.heap.size) := Nat.le_trans hb (Nat.le_of_lt hp.lt)
  clear hd hr hq hp h8
  go_enter Try.func24, Try.ntmps24
  go_wp2_with fail
  refine (mark_Open w base g gs wv D 1 3 HD.out).mono ?_
  rintro e w1 ⟨ht, hb1⟩
  rcases ht.out with ⟨h0, _⟩ | ⟨_, rfl, hc⟩
  · exact absurd (show mayC D.sure.length 1 3 by rw [H8.out]; unfold mayC; omega) h0
  have HB1 : Hid (Below w.heap.size w w1) := hb1
  have HC1 : Hid (Cs w1 w.heap.size g 1 3) := hc
  have HP1 : Hid (Blk w1 gp #[.pointer (some ⟨g, 0, none⟩), .pointer p1, .pointer (some ⟨r, 0, none⟩), .pointer p3] 36) := HP.out.stay hb1
  have HLP : Hid (gp < w.heap.size) := HP.out.lt
  clear ht hc hb1 c0
  have f1 := HP1.out.free 1
  have d1 : w1.cell? ⟨gp, 1, none⟩ = some (.pointer p1) := HP1.out.cell 1 rfl
  have d2 : w1.cell? ⟨gp, 2, none⟩ = some (.pointer (some ⟨r, 0, none⟩)) := HP1.out.cell 2 rfl
  obtain ⟨W2, HW2⟩ : ∃ W2, Hid (W2 = w1.setCell ⟨gp, 1, none⟩ (.pointer (some ⟨w.heap.size, 0, none⟩))) := ⟨_, rfl⟩
  have HG2 : Hid (w1.grownBy W2 (some gp)) := by show World.grownBy _ _ _; rw [HW2.out]; exact grown_cell _ _ _ _
  have HP2 : Hid (Blk W2 gp #[.pointer (some ⟨g, 0, none⟩), .pointer (some ⟨w.heap.size, 0, none⟩), .pointer (some ⟨r, 0, none⟩), .pointer p3] 36) := by show Blk _ _ _ _; rw [HW2.out]; exact HP1.out.set 1 _
  have HM2 : Hid (Mo w W2 base gp) := by
    refine ⟨(HB1.out.mono HBW.out).trans ((Below.refl _ _).grown HG2.out (Nat.le_trans HBW.out HB1.out.size) (fun j hj => by simp only [Option.some.injEq] at hj; omega)), fun k cs t fr h1 h2 => ?_⟩
    have h3 : w1.heap[k]? = some (.cells cs t fr) := by rw [HB1.out.block k (heap_lt h1)]; exact h1
    rw [HG2.out.block k (heap_lt h3) (fun e => by simp only [Option.some.injEq] at e; exact h2 e)]
    exact h3
  have HNP : Hid (∀ (k : Nat) (cs : Array Value) (t : TypeId), Blk w k cs t → t ≠ 36 → k ≠ gp) := fun k cs t h1 h2 => blk_ne h1 HP.out h2
  have HKeep2 : Hid (Keep w W2 q) := fun k cs t fr h1 h2 => HM2.out.block k cs t fr h1 (fun e => by
    subst e
    have h3 := HP.out
    unfold Blk at h3
    rw [h1] at h3
    simp only [Option.some.injEq, Obj.cells.injEq] at h3
    have h4 := h3.2.1
    rcases h2 with rfl | rfl | rfl | ⟨rfl, _⟩ <;> exact absurd h4 (by decide))
  have HR2 : Hid (Rk W2 base r q sv rv SV WV D) := HR.out.move HKeep2.out
  go_wp2_with fail
  rw [← HW2.out]
  refine (ref_Open10 W2 base r q sv rv SV WV D 1 3 HR2.out (by omega) (by omega) (by rw [H8.out]; omega)).mono ?_
  rintro e w3 ⟨rfl, hcr, hb3⟩
  have HB3 : Hid (Below W2.heap.size W2 w3) := hb3
  have HCR : Hid (Cr w3 W2.heap.size r 1 3) := hcr
  have HP3 : Hid (Blk w3 gp #[.pointer (some ⟨g, 0, none⟩), .pointer (some ⟨w.heap.size, 0, none⟩), .pointer (some ⟨r, 0, none⟩), .pointer p3] 36) := HP2.out.stay hb3
  have f3 := HP3.out.free 3
  have d3 : w3.cell? ⟨gp, 3, none⟩ = some (.pointer p3) := HP3.out.cell 3 rfl
  have d4 : w3.cell? ⟨gp, 1, none⟩ = some (.pointer (some ⟨w.heap.size, 0, none⟩)) := HP3.out.cell 1 rfl
  obtain ⟨W4, HW4⟩ : ∃ W4, Hid (W4 = w3.setCell ⟨gp, 3, none⟩ (.pointer (some ⟨W2.heap.size, 0, none⟩))) := ⟨_, rfl⟩
  have HG4 : Hid (w3.grownBy W4 (some gp)) := by show World.grownBy _ _ _; rw [HW4.out]; exact grown_cell _ _ _ _
  have HP4 : Hid (Pr W4 gp g w.heap.size r W2.heap.size) := by show Blk _ _ _ _; rw [HW4.out]; exact HP3.out.set 3 _
  have HM4 : Hid (Mo w W4 base gp) := by
    refine ⟨(HM2.out.low.trans (HB3.out.mono (Nat.le_trans HBW.out HM2.out.low.size))).trans ((Below.refl _ _).grown HG4.out (Nat.le_trans (Nat.le_trans HBW.out HM2.out.low.size) HB3.out.size) (fun j hj => by simp only [Option.some.injEq] at hj; omega)), fun k cs t fr h1 h2 => ?_⟩
    have h3 := HM2.out.block k cs t fr h1 h2
    have h4 : w3.heap[k]? = some (.cells cs t fr) := by rw [HB3.out.block k (heap_lt h3)]; exact h3
    rw [HG4.out.block k (heap_lt h4) (fun e => by simp only [Option.some.injEq] at e; exact h2 e)]
    exact h4
  have HKeep4 : Hid (Keep w W4 q) := fun k cs t fr h1 h2 => HM4.out.block k cs t fr h1 (fun e => by
    subst e
    have h3 := HP.out
    unfold Blk at h3
    rw [h1] at h3
    simp only [Option.some.injEq, Obj.cells.injEq] at h3
    have h4 := h3.2.1
    rcases h2 with rfl | rfl | rfl | ⟨rfl, _⟩ <;> exact absurd h4 (by decide))
  have HF : Hid (Four W4 base gp g gs r D) := by
    refine ⟨w.heap.size, W2.heap.size, q, wv, sv, rv, SV, WV, ⟨?_, HR.out.move HKeep4.out, Nat.lt_of_lt_of_le HQ.out HM4.out.low.size, ?_, ?_, HP4.out, hb, H8.out⟩⟩
    · have hd := HD.out
      refine ⟨HM4.out.keep hd.blk (HNP.out _ _ _ hd.blk (by decide)), HM4.out.keep hd.srow (HNP.out _ _ _ hd.srow (by decide)), own_type hd.wrow (fun k cs hk => HM4.out.block k cs _ _ hk (HNP.out _ _ _ hk (by decide))), hd.bg, hd.bs, hd.sz, hd.sec, hd.wts, hd.tr, hd.ag, hd.wl⟩
    · have h1 := Blk.grown (show Blk w1 w.heap.size #[.pointer (some ⟨g, 0, none⟩), .int .i64 ((1 : Nat) : Int), .int .i64 ((3 : Nat) : Int)] 65 from HC1.out) HG2.out (by have := HLP.out; simp; omega)
      exact (h1.stay HB3.out).grown HG4.out (by have := HLP.out; simp; omega)
    · exact Blk.grown (show Blk w3 W2.heap.size #[.pointer (some ⟨r, 0, none⟩), .int .i64 ((1 : Nat) : Int), .int .i64 ((3 : Nat) : Int)] 86 from HCR.out) HG4.out (by have := HLP.out; have := HM2.out.low.size; simp; omega)
  clear hcr hb3 d1 f1 d2
  go_wp2
  rw [← HW4.out]
  go_ret
  exact ⟨rfl, HF, HM4.out⟩
end Go.Proofs.Ythpjaidgacenoab
