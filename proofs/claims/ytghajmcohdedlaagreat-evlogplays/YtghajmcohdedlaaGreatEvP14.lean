import Derived.Test.YtghajmcohdedlaaGreatPk53
namespace Go.Proofs.YtghajmcohdedlaaGreat
open Go.RowKit
def StartTold (w w' : World) (l : List Dq) (e : Ending) : Prop := ∃ gp g gs r, e = .returned (.tuple #[.pointer (some ⟨gp, 0, none⟩), .bool true]) ∧ Evs w' w.heap.size gp g gs r 60 (opE (rawD (l.take 200)))
set_option maxRecDepth 100000 in
set_option maxHeartbeats 8000000 in
theorem e_start (w : World) (a : Option Addr) (n c : Nat) (l : List Dq) (hl : DqsRd w a n l) (hn : n ≤ 9223372036854775807) : Calls Tryz.prog 8 #[.slice a n c] w fun e w' => Hid (StartTold w w' l e) ∧ Below w.heap.size w w' := by
 obtain ⟨W1, HW1⟩ : ∃ W1, Hid (W1 = w.alloc (.cells #[.pointer none, .pointer none, .pointer none, .pointer none] 39)) := ⟨_, rfl⟩
 have HB1 : Hid (Below w.heap.size w W1) := by show Below _ _ _; rw [HW1.out]; exact below_alloc _ _
 have HP1 : Hid (Blk W1 w.heap.size #[.pointer none, .pointer none, .pointer none, .pointer none] 39) := by show Blk _ _ _ _; rw [HW1.out]; exact Blk.new _ _ _
 have HZ1 : Hid (W1.heap.size = w.heap.size + 1) := by show _ = _; rw [HW1.out]; simp
 have HL : Hid (DqsRd w a n l) := hl
 clear hl
 go_enter Tryz.func8, Tryz.ntmps8
 go_wp2_with fail
 rw [← HW1.out]
 refine (sector_New 52 W1).mono ?_
 rintro e w2 ⟨ht, hb2⟩
 rcases ht.out with ⟨h0, _⟩ | ⟨_, g, rfl, hd⟩
 ·exact absurd ⟨by decide, by decide⟩ h0
 have HD2 : Hid (Disk w2 W1.heap.size g W1.heap.size (.slice none 0 0) (newD 52)) := hd
 have HB2 : Hid (Below W1.heap.size W1 w2) := hb2
 have HP2 : Hid (Blk w2 w.heap.size #[.pointer none, .pointer none, .pointer none, .pointer none] 39) := HP1.out.stay hb2
 have f2 := HP2.out.free 0
 have d2 : w2.cell? ⟨w.heap.size, 0, none⟩ = some (.pointer none) := HP2.out.cell 0 rfl
 obtain ⟨W3, HW3⟩ : ∃ W3, Hid (W3 = w2.setCell ⟨w.heap.size, 0, none⟩ (.pointer (some ⟨g, 0, none⟩))) := ⟨_, rfl⟩
 have HG3 : Hid (w2.grownBy W3 (some w.heap.size)) := by show World.grownBy _ _ _; rw [HW3.out]; exact grown_cell _ _ _ _
 have HP3 : Hid (Blk W3 w.heap.size #[.pointer (some ⟨g, 0, none⟩), .pointer none, .pointer none, .pointer none] 39) := by show Blk _ _ _ _; rw [HW3.out]; exact HP2.out.set 0 _
 have HD3 : Hid (Disk W3 W1.heap.size g W1.heap.size (.slice none 0 0) (newD 52)) := by
  have h := HD2.out
  have hne : ∀ k, k ≠ w.heap.size → k < w2.heap.size → W3.heap[k]? = w2.heap[k]? := fun k h1 h2 => HG3.out.block k h2 (by simpa using h1)
  refine ⟨h.blk.grown HG3.out (by have := h.bg; have := HZ1.out; simp; omega), h.srow.grown HG3.out (by have := HZ1.out; simp; omega), World.ownsRow_nil _ _ _ _, h.bg, h.bs, h.sz, h.sec, h.wts, h.tr, h.ag, h.wl⟩
 have HB3 : Hid (Below w.heap.size w W3) := (HB1.out.trans (HB2.out.mono HB1.out.size)).trans ((Below.refl _ _).grown HG3.out (Nat.le_trans HB1.out.size HB2.out.size) (fun j hj => by simp only [Option.some.injEq] at hj; omega))
 clear ht hd hb2
 go_wp2_with fail
 clear f2 d2
 rw [← HW3.out]
 refine (ref_New 52 (by omega) (by omega) g W3 HD3.out.blk.lt).mono ?_
 rintro e w4 ⟨r, rfl, hr, hb4⟩
 obtain ⟨sv, SV, hr⟩ := hr.out
 have HR4 : Hid (Rk w4 w.heap.size r g sv (.slice none 0 0) SV [] (newD 52)) := hr.lower HB3.out.size
 have HB4 : Hid (Below W3.heap.size W3 w4) := hb4
 have HD4 : Hid (Disk w4 w.heap.size g W1.heap.size (.slice none 0 0) (newD 52)) := (HD3.out.stay hb4).lower HB1.out.size
 have HP4 : Hid (Blk w4 w.heap.size #[.pointer (some ⟨g, 0, none⟩), .pointer none, .pointer none, .pointer none] 39) := HP3.out.stay hb4
 have f4 := HP4.out.free 2
 have d4 : w4.cell? ⟨w.heap.size, 2, none⟩ = some (.pointer none) := HP4.out.cell 2 rfl
 have d40 : w4.cell? ⟨w.heap.size, 0, none⟩ = some (.pointer (some ⟨g, 0, none⟩)) := HP4.out.cell 0 rfl
 obtain ⟨W5, HW5⟩ : ∃ W5, Hid (W5 = w4.setCell ⟨w.heap.size, 2, none⟩ (.pointer (some ⟨r, 0, none⟩))) := ⟨_, rfl⟩
 have HG5 : Hid (w4.grownBy W5 (some w.heap.size)) := by show World.grownBy _ _ _; rw [HW5.out]; exact grown_cell _ _ _ _
 have HP5 : Hid (Blk W5 w.heap.size #[.pointer (some ⟨g, 0, none⟩), .pointer none, .pointer (some ⟨r, 0, none⟩), .pointer none] 39) := by show Blk _ _ _ _; rw [HW5.out]; exact HP4.out.set 2 _
 have HNP : Hid (∀ (k : Nat) (cs : Array Value) (t : TypeId), Blk w4 k cs t → t ≠ 39 → Blk W5 k cs t) := fun k cs t h1 h2 => h1.grown HG5.out (by have := blk_ne h1 HP4.out h2; simpa using this)
 have HD5 : Hid (Disk W5 w.heap.size g W1.heap.size (.slice none 0 0) (newD 52)) := by
  have h := HD4.out
  exact ⟨HNP.out _ _ _ h.blk (by decide), HNP.out _ _ _ h.srow (by decide), own_type h.wrow (fun k cs hk => HNP.out k cs _ hk (by decide)), h.bg, h.bs, h.sz, h.sec, h.wts, h.tr, h.ag, h.wl⟩
 have HR5 : Hid (Rk W5 w.heap.size r g sv (.slice none 0 0) SV [] (newD 52)) := HR4.out.move (fun k cs t fr h1 h2 => by
  rw [HG5.out.block k (heap_lt h1) (fun e => ?_)]
  ·exact h1
  ·simp only [Option.some.injEq] at e
   subst e
   have h3 := HP4.out
   unfold Blk at h3
   rw [h1] at h3
   simp only [Option.some.injEq, Obj.cells.injEq] at h3
   have h4 := h3.2.1
   rcases h2 with rfl | rfl | rfl | ⟨rfl, _⟩ <;> exact absurd h4 (by decide))
 have HB5 : Hid (Below w.heap.size w W5) := (HB3.out.trans (HB4.out.mono HB3.out.size)).trans ((Below.refl _ _).grown HG5.out (Nat.le_trans HB3.out.size HB4.out.size) (fun j hj => by simp only [Option.some.injEq] at hj; omega))
 have HL5 : Hid (g < W5.heap.size) := HD5.out.blk.lt
 have x1 : (w4.setCell ⟨w.heap.size, 2, none⟩ (.pointer (some ⟨r, 0, none⟩))).cell? ⟨w.heap.size, 0, none⟩ = some (.pointer (some ⟨g, 0, none⟩)) := by rw [← HW5.out]; exact HP5.out.cell 0 rfl
 have HNN : Hid (n ≤ 9223372036854775807 ∧ l.length = n) := ⟨hn, HL.out.size⟩
 clear hr hb4
 go_wp2_with fail
 rw [← HW5.out]
 clear x1 f4 d4 d40
 go_loopw [7] (fun t7 wr => ∃ (i : Nat) (wv sv rv : Value) (SV WV : List Value), i ≤ n ∧ i ≤ 200 ∧ t7 = .int .i64 (i : Int) ∧ Hid (Disk wr w.heap.size g W1.heap.size wv (rawD (l.take i))) ∧ Hid (Rk wr w.heap.size r g sv rv SV WV (rawD (l.take i))) ∧ Hid (Blk wr w.heap.size #[.pointer (some ⟨g, 0, none⟩), .pointer none, .pointer (some ⟨r, 0, none⟩), .pointer none] 39) ∧ Hid (Below w.heap.size w wr) ∧ Hid (g < wr.heap.size)) (fun t7 _ => n - (intOf t7).toNat)
 case atStart => exact ⟨0, _, sv, _, SV, [], by omega, by omega, rfl, HD5, HR5, HP5, HB5, HL5⟩
 case round =>
  obtain ⟨i, wv, sv, rv, SV, WV, hi, hi2, rfl, HDr, HRr, HPr, HBr, HLr⟩ := hrel
  clear HD5 HR5 HP5 HB5 HL5
  obtain ⟨D, HDD⟩ : ∃ D, Hid (D = rawD (l.take i)) := ⟨_, rfl⟩
  rw [← HDD.out] at HDr HRr
  have HDO : Hid (Calm D ∧ D.sure.length = 52 ∧ D.waits.length ≤ i ∧ D.age = 0) := by (show _ ∧ _ ∧ _ ∧ _); rw [HDD.out]; have h1 := rawD_ok (l.take i); exact ⟨h1.1, h1.2.1, Nat.le_trans h1.2.2.1 (by rw [List.length_take]; omega), h1.2.2.2⟩
  by_cases hgo : i < n ∧ i < 200
  ·obtain ⟨hlt, h200⟩ := hgo
   have hlt' : (i : Int) < (n : Int) := by omega
   have h200' : (i : Int) < 200 := by omega
   have hi0 : (0 : Int) ≤ (i : Int) := by omega
   have hnn : n ≤ 9223372036854775807 := HNN.out.1
   obtain ⟨ga, o, rfl, hga, d, hd, hok, e0, e1, e2, e3⟩ := HL.out.spot i hlt
   obtain ⟨dk, di, ba, bl, bc, bs, fa, fl, fc, F⟩ := d
   simp only at e1 e2
   have HLd : Hid (l[i]? = some ⟨dk, di, ba, bl, bc, bs, fa, fl, fc, F⟩) := hd
   have HOK : Hid (∀ w', Below w.heap.size w w' → DqOk w' ⟨dk, di, ba, bl, bc, bs, fa, fl, fc, F⟩) := fun w' hb => hok.below hb
   have HC : Hid (∀ w', Below w.heap.size w w' → w'.cell? ⟨ga, o + i * 4 + 1, none⟩ = some (.int .i64 di) ∧ w'.cell? ⟨ga, o + i * 4 + 2, none⟩ = some (.slice ba bl bc)) := fun w' hb => ⟨by rw [hb.cell (p := ⟨ga, o + i * 4 + 1, none⟩) hga]; exact e1, by rw [hb.cell (p := ⟨ga, o + i * 4 + 2, none⟩) hga]; exact e2⟩
   have HDd : Hid (Disk wr.drew w.heap.size g W1.heap.size wv D) := HDr.out.stay (Below.refl _ _).drew
   have HRd : Hid (Rk wr.drew w.heap.size r g sv rv SV WV D) := HRr.out.stay (Below.refl _ _).drew
   have HPd : Hid (Blk wr.drew w.heap.size #[.pointer (some ⟨g, 0, none⟩), .pointer none, .pointer (some ⟨r, 0, none⟩), .pointer none] 39) := HPr.out.stay (Below.refl _ _).drew
   have HBd : Hid (Below w.heap.size w wr.drew) := HBr.out.drew
   have HNE : Hid (w.heap.size ≠ g ∧ w.heap.size ≠ W1.heap.size) := ⟨blk_ne HPd.out HDd.out.blk (by decide), blk_ne HPd.out HDd.out.srow (by decide)⟩
   have HBL : Hid (bl ≤ 9223372036854775807 ∧ (ba = none → bc = 0)) := by have h1 := hok.bb; simp only at h1; exact ⟨by omega, hok.nc⟩
   obtain ⟨E, HEE⟩ : ∃ E, Hid (E = writeE D di bs) := ⟨_, rfl⟩
   obtain ⟨D', HDE⟩ : ∃ D', Hid (D' = writeD D di bs) := ⟨_, rfl⟩
   have s1 : wr.drew.cell? ⟨w.heap.size, 0, none⟩ = some (.pointer (some ⟨g, 0, none⟩)) ∧ wr.drew.cell? ⟨w.heap.size, 2, none⟩ = some (.pointer (some ⟨r, 0, none⟩)) ∧ wr.drew.cell? ⟨ga, o + i * 4 + 1, none⟩ = some (.int .i64 di) ∧ wr.drew.cell? ⟨ga, o + i * 4 + 2, none⟩ = some (.slice ba bl bc) := ⟨HPd.out.cell 0 rfl, HPd.out.cell 2 rfl, HC.out _ HBd.out⟩
   clear e0 e1 e2 e3 hok hd
   go_wp2
   go_region_held3 (fun w' => w'.cell? ⟨w.heap.size, 0, none⟩ = some (.pointer (some ⟨g, 0, none⟩)) ∧ w'.cell? ⟨w.heap.size, 2, none⟩ = some (.pointer (some ⟨r, 0, none⟩)) ∧ w'.cell? ⟨ga, o + i * 4 + 1, none⟩ = some (.int .i64 di) ∧ w'.cell? ⟨ga, o + i * 4 + 2, none⟩ = some (.slice ba bl bc)) (first | exact s1 | exact s2 | exact s3 | fail)
    (first
     | (go_at_call 25; refine (disk_Write _ w.heap.size g W1.heap.size wv D di ba bl bc bs HDd.out (fun w' hm => (HOK.out w' (HBd.out.trans hm.low)).rd) HBL.out.1 (by have := HDO.out.2.2.1; omega)).mono ?_; rw [← HEE.out, ← HDE.out]; rintro e w2 ⟨rfl, hd2, hm2⟩; have k2 := hm2.keep HPd.out HNE.out.1 HNE.out.2 (by decide); have b2 := HBd.out.trans hm2.low; have s2 : w2.cell? ⟨w.heap.size, 0, none⟩ = some (.pointer (some ⟨g, 0, none⟩)) ∧ w2.cell? ⟨w.heap.size, 2, none⟩ = some (.pointer (some ⟨r, 0, none⟩)) ∧ w2.cell? ⟨ga, o + i * 4 + 1, none⟩ = some (.int .i64 di) ∧ w2.cell? ⟨ga, o + i * 4 + 2, none⟩ = some (.slice ba bl bc) := ⟨k2.cell 0 rfl, k2.cell 2 rfl, HC.out _ b2⟩)
     | (go_at_call 26; refine (ref_Write _ w.heap.size r g sv rv SV WV D di ba bl bc bs (HRd.out.move (Keep.of_mv HDd.out hm2 g)) (Nat.lt_of_lt_of_le HLr.out hm2.low.size) (fun w' hm => (HOK.out w' (b2.trans hm.low)).rd) HBL.out.2 HBL.out.1 (by have := HDO.out.2.2.1; omega)).mono ?_; rw [← HEE.out, ← HDE.out]; rintro e w3 ⟨rfl, hr3, hm3⟩; have k3 := hm3.keep k2 (by decide) (by decide) (by decide); have b3 := b2.trans hm3.low; have s3 : w3.cell? ⟨w.heap.size, 0, none⟩ = some (.pointer (some ⟨g, 0, none⟩)) ∧ w3.cell? ⟨w.heap.size, 2, none⟩ = some (.pointer (some ⟨r, 0, none⟩)) ∧ w3.cell? ⟨ga, o + i * 4 + 1, none⟩ = some (.int .i64 di) ∧ w3.cell? ⟨ga, o + i * 4 + 2, none⟩ = some (.slice ba bl bc) := ⟨k3.cell 0 rfl, k3.cell 2 rfl, HC.out _ b3⟩))
   obtain ⟨wv2, hd2⟩ := hd2.out
   obtain ⟨rv3, WV3, hr3⟩ := hr3.out
   have HDN : Hid (D' = rawD (l.take (i + 1))) := by (show _ = _); rw [HDE.out, HDD.out, List.take_add_one, HLd.out]; exact (rawD_snoc (l.take i) ⟨dk, di, ba, bl, bc, bs, fa, fl, fc, F⟩).symm
   rw [HDN.out] at hd2 hr3
   have HD3 : Hid (Disk w3 w.heap.size g W1.heap.size wv2 (rawD (l.take (i + 1)))) := hd2.stayR hm3
   have HR3 : Hid (Rk w3 w.heap.size r g sv rv3 SV WV3 (rawD (l.take (i + 1)))) := hr3
   have HP3' : Hid (Blk w3 w.heap.size #[.pointer (some ⟨g, 0, none⟩), .pointer none, .pointer (some ⟨r, 0, none⟩), .pointer none] 39) := k3
   have HB3' : Hid (Below w.heap.size w w3) := b3
   have HL3 : Hid (g < w3.heap.size) := Nat.lt_of_lt_of_le (Nat.lt_of_lt_of_le HLr.out hm2.low.size) hm3.low.size
   clear hd2 hm2 k2 b2 s1 s2 hr3 hm3 k3 b3 s3
   go_wp2
   go_roundw
   case rel => exact ⟨i + 1, wv2, sv, rv3, SV, WV3, by omega, by omega, by go_num, HD3, HR3, HP3', HB3', HL3⟩
   case measure => simp [intOf]; omega
  ·have hcase : (¬ (i : Int) < (n : Int)) ∨ ((i : Int) < (n : Int) ∧ ¬ (i : Int) < 200) := by omega
   have HTK : Hid (l.take i = l.take 200) := by
    (show _ = _)
    have h1 := HNN.out.2
    rcases Nat.lt_or_ge i n with h2 | h2
    ·rw [show i = 200 by omega]
    ·rw [List.take_of_length_le (by omega), List.take_of_length_le (by omega)]
   have HOP := e_open wr w.heap.size w.heap.size g W1.heap.size r g wv sv rv SV WV D none none HDr.out HRr.out HLr.out HPr.out (Nat.le_refl _) HDO.out.2.1 HDO.out.1 (by have := HDO.out.2.2.1; omega)
   clear hgo
   have y0 : True := trivial
   rcases hcase with hc | ⟨hc, hc2⟩ <;>
   (go_wp2_with fail
    refine HOP.mono ?_
    rintro e w6 ⟨rfl, hf6, hm6⟩
    have HF6 : Hid (Evs w6 w.heap.size w.heap.size g W1.heap.size r 60 (opE D)) := hf6
    have HB6 : Hid (Below w.heap.size w w6) := HBr.out.trans hm6.out.low
    have hx := hf6.out
    obtain ⟨gl, gc, gy, q, wv', sv', rv', SV', WV', uc, ur, L, L2, vc, vr, hx, _⟩ := hx
    have c1 : w6.cell? ⟨w.heap.size, 1, none⟩ = some (.pointer (some ⟨gl, 0, none⟩)) := Blk.cell hx.pr 1 rfl
    clear hf6 hm6 hx HOP
    go_wp2_with fail
    refine (e_told w6 w.heap.size w.heap.size g W1.heap.size r 60 _ _ _ _ _ _ HF6.out (by omega)).mono ?_
    rintro e w7 ⟨rfl, hb7⟩
    have HF7 : Hid (Evs w7 w.heap.size w.heap.size g W1.heap.size r 60 (opE (rawD (l.take 200)))) := by (show Evs _ _ _ _ _ _ _ _); rw [← HTK.out, ← HDD.out]; exact HF6.out.stay hb7
    have HB7 : Hid (Below w.heap.size w w7) := HB6.out.trans (hb7.mono HB6.out.size)
    clear hb7
    go_wp2
    go_returns
    exact ⟨⟨w.heap.size, g, W1.heap.size, r, rfl, HF7.out⟩, HB7.out⟩ )
end Go.Proofs.YtghajmcohdedlaaGreat
