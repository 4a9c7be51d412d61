/- A crash and a look on both disks' cells; all that is told; a script. -/
import Derived.Test.YthpjaidgacenoabMkPair2
namespace Go.Proofs.Ythpjaidgacenoab
open Go.RowKit

set_option maxRecDepth 100000 in
set_option maxHeartbeats 4000000 in
theorem m_do4 (w : World) (base gp g gs r : Nat) (D : Dk) (d : Dm) (h : Four w base gp g gs r D) (hk : d.kind = 4) (hdq : ∀ w', Below base w w' → DmOk w' d) (ha : D.age < 1000000000) :
    Calls Try.prog 13 #[.pointer (some ⟨gp, 0, none⟩), .agg #[.int .i64 d.kind, .int .i64 d.i_, .int .i64 d.v_, .slice d.ba d.bl d.bc, .slice d.fa d.fl d.fc]] w fun e w' => e = .returned (.bool true) ∧ Hid (Four w' base gp g gs r (crashD D d.F)) ∧ Below base w w' := by
  obtain ⟨gc, gy, q, wv, sv, rv, SV, WV, h⟩ := h
  obtain ⟨dk, di, dv, ba, bl, bc, bs, fa, fl, fc, F⟩ := d
  simp only at hk hdq ⊢
  subst hk
  have HDQ0 : Hid (∀ w', Below base w w' → DmOk w' ⟨4, di, dv, ba, bl, bc, bs, fa, fl, fc, F⟩) := hdq
  obtain ⟨W1, HW1⟩ : ∃ W1, Hid (W1 = w.alloc (.cells #[.int .i64 4, .int .i64 di, .int .i64 dv, .slice ba bl bc, .slice fa fl fc] 26)) := ⟨_, rfl⟩
  have HB1 : Hid (Below w.heap.size w W1.drew) := by show Below _ _ _; rw [HW1.out]; exact (below_alloc _ _).drew
  have HKX : Hid (Blk W1.drew w.heap.size #[.int .i64 4, .int .i64 di, .int .i64 dv, .slice ba bl bc, .slice fa fl fc] 26) := by show Blk _ _ _ _; rw [HW1.out]; exact Blk.new _ _ _
  have HQ : Hid (Quad W1.drew base gp g gs gc r gy q wv sv rv SV WV D) := h.stay HB1.out
  have HBS : Hid (base ≤ w.heap.size) := h.base
  have HB1b : Hid (Below base w W1.drew) := HB1.out.mono HBS.out
  have HDQ : Hid (∀ w', Below base W1.drew w' → DmOk w' ⟨4, di, dv, ba, bl, bc, bs, fa, fl, fc, F⟩) := fun w' hb => HDQ0.out w' (HB1b.out.trans hb)
  have HOK := HDQ.out W1.drew (Below.refl _ _)
  have HFL : Hid (fl ≤ 9223372036854775000) := HOK.fb
  have HNE : Hid (w.heap.size ≠ g ∧ w.heap.size ≠ gs) := HQ.out.ne HKX.out (by decide) (by decide)
  have HNG : Hid (w.heap.size ≠ gp) := blk_ne HKX.out HQ.out.pr (by decide)
  have HFB : Hid (∀ b off, fa = some ⟨b, off, none⟩ → 0 < fl → b ≠ gs) := by
    intro b off e h0 e2
    have hft := (HDQ0.out w (Below.refl _ _)).ft
    rcases hft.cells with h1 | ⟨b', off', h1, h2⟩
    · simp only at h1; omega
    · simp only at h1 h2
      rw [e] at h1
      simp only [Option.some.injEq, Addr.mk.injEq, and_true] at h1
      obtain ⟨rfl, rfl⟩ := h1
      have h3 := h2 0 h0
      have h4 := h.dk.srow
      rw [← e2] at h4
      unfold Blk at h4
      rw [cell_of_row w b _ _ _ _ h4] at h3
      rw [List.getElem?_toArray] at h3
      have h5 := List.mem_of_getElem? h3
      rw [scells, List.mem_flatMap] at h5
      obtain ⟨s, _, h6⟩ := h5
      obtain ⟨x, _, h7⟩ := List.mem_map.1 h6
      cases h7
  have HS1 : Hid (W1.drew.cell? ⟨gp, 0, none⟩ = some (.pointer (some ⟨g, 0, none⟩)) ∧ W1.drew.cell? ⟨gp, 2, none⟩ = some (.pointer (some ⟨r, 0, none⟩)) ∧ W1.drew.cell? ⟨w.heap.size, 4, none⟩ = some (.slice fa fl fc)) := ⟨Blk.cell HQ.out.pr 0 rfl, Blk.cell HQ.out.pr 2 rfl, HKX.out.cell 4 rfl⟩
  have s1 := HS1.out
  have HAG : Hid (D.age < 1000000000) := ha
  obtain ⟨D', HDE⟩ : ∃ D', Hid (D' = crashD D F) := ⟨_, rfl⟩
  have H8 : Hid (D'.sure.length = 8) := by show _ = _; rw [HDE.out, (crash_grew D F).sl]; exact h.s8
  rw [← HDE.out]
  clear h hdq ha HOK
  go_enter Try.func13, Try.ntmps13
  go_wp2
  rw [← HW1.out]
  go_region_held3 (fun w' => w'.cell? ⟨gp, 0, none⟩ = some (.pointer (some ⟨g, 0, none⟩)) ∧ w'.cell? ⟨gp, 2, none⟩ = some (.pointer (some ⟨r, 0, none⟩)) ∧ w'.cell? ⟨w.heap.size, 4, none⟩ = some (.slice fa fl fc)) (first | exact s1 | exact s2 | exact s3 | exact s4 | fail)
    (first
      | (go_at_call 6; refine (disk_CrashC _ base g gs wv D fa fl fc F HQ.out.dk (fun w' hm => (HDQ.out w' hm.low).ft) HFB.out HFL.out HAG.out).mono ?_; rw [← HDE.out]; rintro e w2 ⟨rfl, hd2, hm2c⟩; have hm2 := hm2c.mv; have k2 := hm2.keep HKX.out HNE.out.1 HNE.out.2 (by decide); have m2 := HQ.out.mv hm2; have s2 : w2.cell? ⟨gp, 0, none⟩ = some (.pointer (some ⟨g, 0, none⟩)) ∧ w2.cell? ⟨gp, 2, none⟩ = some (.pointer (some ⟨r, 0, none⟩)) ∧ w2.cell? ⟨w.heap.size, 4, none⟩ = some (.slice fa fl fc) := ⟨Blk.cell m2.2.2.2.2 0 rfl, Blk.cell m2.2.2.2.2 2 rfl, k2.cell 4 rfl⟩)
      | (go_at_call 31; refine (ref_Crash _ base r q sv rv SV WV D fa fl fc F m2.1 m2.2.1 (fun w' hm => (HDQ.out w' (hm2.low.trans hm.low)).ft) HFL.out HAG.out).mono ?_; rw [← HDE.out]; rintro e w3 ⟨rfl, hr3, hm3⟩; have k3 := hm3.keep k2 (by decide) (by decide) (by decide); have pr3 := hm3.keep m2.2.2.2.2 (by decide) (by decide) (by decide); have s3 : w3.cell? ⟨gp, 0, none⟩ = some (.pointer (some ⟨g, 0, none⟩)) ∧ w3.cell? ⟨gp, 2, none⟩ = some (.pointer (some ⟨r, 0, none⟩)) ∧ w3.cell? ⟨w.heap.size, 4, none⟩ = some (.slice fa fl fc) := ⟨Blk.cell pr3 0 rfl, Blk.cell pr3 2 rfl, k3.cell 4 rfl⟩; obtain ⟨SV3, hr3⟩ := hr3.out)
      | (go_at_call 24; refine (m_open w3 base gp g gs r q _ sv _ SV3 [] D' (some ⟨gc, 0, none⟩) (some ⟨gy, 0, none⟩) (hd2.out.stayR hm3) hr3 (Nat.lt_of_lt_of_le m2.2.1 hm3.low.size) pr3 HQ.out.bp H8.out).mono ?_; rintro e w4 ⟨rfl, hf4, hm4⟩; have k4 := hm4.keep k3 HNG.out; have s4 : w4.cell? ⟨gp, 0, none⟩ = some (.pointer (some ⟨g, 0, none⟩)) ∧ w4.cell? ⟨gp, 2, none⟩ = some (.pointer (some ⟨r, 0, none⟩)) ∧ w4.cell? ⟨w.heap.size, 4, none⟩ = some (.slice fa fl fc) := by (obtain ⟨_, _, _, _, _, _, _, _, hq4⟩ := hf4.out); exact ⟨Blk.cell hq4.pr 0 rfl, Blk.cell hq4.pr 2 rfl, k4.cell 4 rfl⟩))
  have HF : Hid (Four w4 base gp g gs r D') := hf4
  have HB4 : Hid (Below base w w4) := ((HB1b.out.trans hm2.low).trans hm3.low).trans hm4.low
  clear hd2 hm2 hm2c k2 m2 s1 s2 hr3 hm3 k3 pr3 s3 hf4 hm4 k4 s4
  go_wp2
  go_ret
  exact ⟨by simp, HF, HB4.out⟩

set_option maxRecDepth 100000 in
set_option maxHeartbeats 2000000 in
theorem m_doN (w : World) (base gp g gs r : Nat) (D : Dk) (d : Dm) (h : Four w base gp g gs r D) (h0 : ¬ d.kind = 0) (h1 : ¬ d.kind = 1) (h2 : ¬ d.kind = 2) (h3 : ¬ d.kind = 3) (h4 : ¬ d.kind = 4) :
    Calls Try.prog 13 #[.pointer (some ⟨gp, 0, none⟩), .agg #[.int .i64 d.kind, .int .i64 d.i_, .int .i64 d.v_, .slice d.ba d.bl d.bc, .slice d.fa d.fl d.fc]] w fun e w' => e = .returned (.bool true) ∧ Hid (Four w' base gp g gs r D) ∧ Below base w w' := by
  have HF0 : Hid (Four w base gp g gs r D) := h
  obtain ⟨gc, gy, q, wv, sv, rv, SV, WV, h⟩ := h
  obtain ⟨dk, di, dv, ba, bl, bc, bs, fa, fl, fc, F⟩ := d
  simp only at *
  obtain ⟨W1, HW1⟩ : ∃ W1, Hid (W1 = w.alloc (.cells #[.int .i64 dk, .int .i64 di, .int .i64 dv, .slice ba bl bc, .slice fa fl fc] 26)) := ⟨_, rfl⟩
  have HB1 : Hid (Below w.heap.size w W1) := by show Below _ _ _; rw [HW1.out]; exact below_alloc _ _
  have HQ : Hid (Quad W1 base gp g gs gc r gy q wv sv rv SV WV D) := h.stay HB1.out
  have HBS : Hid (base ≤ w.heap.size) := h.base
  have p1 : (w.alloc (.cells #[.int .i64 dk, .int .i64 di, .int .i64 dv, .slice ba bl bc, .slice fa fl fc] 26)).cell? ⟨gp, 1, none⟩ = some (.pointer (some ⟨gc, 0, none⟩)) := by rw [← HW1.out]; exact Blk.cell HQ.out.pr 1 rfl
  clear h
  go_enter Try.func13, Try.ntmps13
  go_wp2_with fail
  clear p1
  rw [← HW1.out]
  refine (cells_Count W1 gc g 1 3 HQ.out.cs).mono ?_
  rintro e w2 ⟨rfl, hw2⟩
  subst hw2
  go_wp2
  go_ret
  exact ⟨rfl, HF0.out.stay HB1.out, HB1.out.mono HBS.out⟩
theorem m_do (w : World) (base gp g gs r : Nat) (D : Dk) (d : Dm) (h : Four w base gp g gs r D) (hdq : ∀ w', Below base w w' → DmOk w' d) (hw : D.waits.length < 1000000000) (ha : D.age < 1000000000) :
    Calls Try.prog 13 #[.pointer (some ⟨gp, 0, none⟩), .agg #[.int .i64 d.kind, .int .i64 d.i_, .int .i64 d.v_, .slice d.ba d.bl d.bc, .slice d.fa d.fl d.fc]] w fun e w' => e = .returned (.bool true) ∧ Hid (Four w' base gp g gs r (doM D d)) ∧ Below base w w' := by
  unfold doM
  by_cases h0 : d.kind = 0
  · rw [if_pos h0]; exact m_do0 w base gp g gs r D d h h0 hw
  rw [if_neg h0]
  by_cases h1 : d.kind = 1
  · rw [if_pos h1]; exact m_do1 w base gp g gs r D d h h1 hdq hw
  rw [if_neg h1]
  by_cases h2 : d.kind = 2
  · rw [if_pos h2]; exact m_do2 w base gp g gs r D d h h2 hdq
  rw [if_neg h2]
  by_cases h3 : d.kind = 3
  · rw [if_pos h3]; exact m_do3 w base gp g gs r D d h h3 hdq
  rw [if_neg h3]
  by_cases h4 : d.kind = 4
  · rw [if_pos h4]; exact m_do4 w base gp g gs r D d h h4 hdq ha
  rw [if_neg h4]
  exact m_doN w base gp g gs r D d h h0 h1 h2 h3 h4

set_option maxRecDepth 100000 in
set_option maxHeartbeats 2000000 in
theorem m_start (w : World) : Calls Try.prog 12 #[] w fun e w' => Hid (∃ gp g gs r, e = .returned (.tuple #[.pointer (some ⟨gp, 0, none⟩), .bool true]) ∧ Four w' w.heap.size gp g gs r (newD 8)) ∧ Below w.heap.size w w' := by
  obtain ⟨W1, HW1⟩ : ∃ W1, Hid (W1 = w.alloc (.cells #[.pointer none, .pointer none, .pointer none, .pointer none] 36)) := ⟨_, rfl⟩
  have HB1 : Hid (Below w.heap.size w W1) := by show Below _ _ _; rw [HW1.out]; exact below_alloc _ _
  have HP1 : Hid (Blk W1 w.heap.size #[.pointer none, .pointer none, .pointer none, .pointer none] 36) := by show Blk _ _ _ _; rw [HW1.out]; exact Blk.new _ _ _
  have HZ1 : Hid (W1.heap.size = w.heap.size + 1) := by show _ = _; rw [HW1.out]; simp
  go_enter Try.func12, Try.ntmps12
  go_wp2_with fail
  rw [← HW1.out]
  refine (sector_New 8 W1).mono ?_
  rintro e w2 ⟨ht, hb2⟩
  rcases ht.out with ⟨h0, _⟩ | ⟨_, g, rfl, hd⟩
  · exact absurd ⟨by decide, by decide⟩ h0
  have HD2 : Hid (Disk w2 W1.heap.size g W1.heap.size (.slice none 0 0) (newD 8)) := hd
  have HB2 : Hid (Below W1.heap.size W1 w2) := hb2
  have HP2 : Hid (Blk w2 w.heap.size #[.pointer none, .pointer none, .pointer none, .pointer none] 36) := HP1.out.stay hb2
  have f2 := HP2.out.free 0
  have d2 : w2.cell? ⟨w.heap.size, 0, none⟩ = some (.pointer none) := HP2.out.cell 0 rfl
  obtain ⟨W3, HW3⟩ : ∃ W3, Hid (W3 = w2.setCell ⟨w.heap.size, 0, none⟩ (.pointer (some ⟨g, 0, none⟩))) := ⟨_, rfl⟩
  have HG3 : Hid (w2.grownBy W3 (some w.heap.size)) := by show World.grownBy _ _ _; rw [HW3.out]; exact grown_cell _ _ _ _
  have HP3 : Hid (Blk W3 w.heap.size #[.pointer (some ⟨g, 0, none⟩), .pointer none, .pointer none, .pointer none] 36) := by show Blk _ _ _ _; rw [HW3.out]; exact HP2.out.set 0 _
  have HD3 : Hid (Disk W3 W1.heap.size g W1.heap.size (.slice none 0 0) (newD 8)) := by
    have h := HD2.out
    have hne : ∀ k, k ≠ w.heap.size → k < w2.heap.size → W3.heap[k]? = w2.heap[k]? := fun k h1 h2 => HG3.out.block k h2 (by simpa using h1)
    refine ⟨h.blk.grown HG3.out (by have := h.bg; have := HZ1.out; simp; omega), h.srow.grown HG3.out (by have := HZ1.out; simp; omega), World.ownsRow_nil _ _ _ _, h.bg, h.bs, h.sz, h.sec, h.wts, h.tr, h.ag, h.wl⟩
  have HB3 : Hid (Below w.heap.size w W3) := (HB1.out.trans (HB2.out.mono HB1.out.size)).trans ((Below.refl _ _).grown HG3.out (Nat.le_trans HB1.out.size HB2.out.size) (fun j hj => by simp only [Option.some.injEq] at hj; omega))
  clear ht hd hb2
  go_wp2_with fail
  clear f2 d2
  rw [← HW3.out]
  refine (ref_New 8 (by omega) (by omega) g W3 HD3.out.blk.lt).mono ?_
  rintro e w4 ⟨r, rfl, hr, hb4⟩
  obtain ⟨sv, SV, hr⟩ := hr.out
  have HR4 : Hid (Rk w4 w.heap.size r g sv (.slice none 0 0) SV [] (newD 8)) := hr.lower HB3.out.size
  have HB4 : Hid (Below W3.heap.size W3 w4) := hb4
  have HD4 : Hid (Disk w4 w.heap.size g W1.heap.size (.slice none 0 0) (newD 8)) := (HD3.out.stay hb4).lower HB1.out.size
  have HP4 : Hid (Blk w4 w.heap.size #[.pointer (some ⟨g, 0, none⟩), .pointer none, .pointer none, .pointer none] 36) := HP3.out.stay hb4
  have f4 := HP4.out.free 2
  have d4 : w4.cell? ⟨w.heap.size, 2, none⟩ = some (.pointer none) := HP4.out.cell 2 rfl
  have d40 : w4.cell? ⟨w.heap.size, 0, none⟩ = some (.pointer (some ⟨g, 0, none⟩)) := HP4.out.cell 0 rfl
  obtain ⟨W5, HW5⟩ : ∃ W5, Hid (W5 = w4.setCell ⟨w.heap.size, 2, none⟩ (.pointer (some ⟨r, 0, none⟩))) := ⟨_, rfl⟩
  have HG5 : Hid (w4.grownBy W5 (some w.heap.size)) := by show World.grownBy _ _ _; rw [HW5.out]; exact grown_cell _ _ _ _
  have HP5 : Hid (Blk W5 w.heap.size #[.pointer (some ⟨g, 0, none⟩), .pointer none, .pointer (some ⟨r, 0, none⟩), .pointer none] 36) := by show Blk _ _ _ _; rw [HW5.out]; exact HP4.out.set 2 _
  have HNP : Hid (∀ (k : Nat) (cs : Array Value) (t : TypeId), Blk w4 k cs t → t ≠ 36 → Blk W5 k cs t) := fun k cs t h1 h2 => h1.grown HG5.out (by have := blk_ne h1 HP4.out h2; simpa using this)
  have HD5 : Hid (Disk W5 w.heap.size g W1.heap.size (.slice none 0 0) (newD 8)) := by
    have h := HD4.out
    exact ⟨HNP.out _ _ _ h.blk (by decide), HNP.out _ _ _ h.srow (by decide), own_type h.wrow (fun k cs hk => HNP.out k cs _ hk (by decide)), h.bg, h.bs, h.sz, h.sec, h.wts, h.tr, h.ag, h.wl⟩
  have HR5 : Hid (Rk W5 w.heap.size r g sv (.slice none 0 0) SV [] (newD 8)) := HR4.out.move (fun k cs t fr h1 h2 => by
    rw [HG5.out.block k (heap_lt h1) (fun e => ?_)]
    · exact h1
    · simp only [Option.some.injEq] at e
      subst e
      have h3 := HP4.out
      unfold Blk at h3
      rw [h1] at h3
      simp only [Option.some.injEq, Obj.cells.injEq] at h3
      have h4 := h3.2.1
      rcases h2 with rfl | rfl | rfl | ⟨rfl, _⟩ <;> exact absurd h4 (by decide))
  have HB5 : Hid (Below w.heap.size w W5) := (HB3.out.trans (HB4.out.mono HB3.out.size)).trans ((Below.refl _ _).grown HG5.out (Nat.le_trans HB3.out.size HB4.out.size) (fun j hj => by simp only [Option.some.injEq] at hj; omega))
  have HL5 : Hid (g < W5.heap.size) := HD5.out.blk.lt
  clear hr hb4
  go_wp2_with fail
  clear f4 d4 d40
  rw [← HW5.out]
  refine (m_open W5 w.heap.size w.heap.size g W1.heap.size r g (.slice none 0 0) sv (.slice none 0 0) SV [] (newD 8) none none HD5.out HR5.out HL5.out HP5.out (Nat.le_refl _) (by simp [newD])).mono ?_
  rintro e w6 ⟨rfl, hf6, hm6⟩
  have HF6 : Hid (Four w6 w.heap.size w.heap.size g W1.heap.size r (newD 8)) := hf6
  have HB6 : Hid (Below w.heap.size w w6) := HB5.out.trans hm6.low
  clear hf6 hm6
  go_wp2
  go_returns
  exact ⟨⟨w.heap.size, g, W1.heap.size, r, rfl, HF6.out⟩, HB6.out⟩
end Go.Proofs.Ythpjaidgacenoab
