/- A pack of texts: SpOnceM PtF Pt5. -/
import Derived.Test.YtbloomepdchjhaaDoorSpT
import Derived.Test.YtbloomepdchjhaaDoorLebP
import Derived.Test.YtbloomepdchjhaaDoorPtP
/- Bytes that are taken for spans are just their bytes, and the spans are right. -/
namespace Go.Proofs.YtbloomepdchjhaaDoor

/-- The bytes from one place to another. -/
def cutB (bs : List Nat) (i j : Nat) : List Nat := (bs.drop i).take (j - i)
theorem cutB_join (bs : List Nat) {i j k : Nat} (h1 : i ≤ j) (h2 : j ≤ k) : cutB bs i j ++ cutB bs j k = cutB bs i k := by
  unfold cutB
  have e : bs.drop j = (bs.drop i).drop (j - i) := by rw [List.drop_drop]; congr 1; omega
  rw [e, show k - i = (j - i) + (k - j) from by omega, List.take_add]
theorem cutB_one (bs : List Nat) {i : Nat} (h : i < bs.length) : cutB bs i (i + 1) = [bs.getD i 0] := by
  unfold cutB
  rw [List.drop_eq_getElem_cons h, show i + 1 - i = 1 from by omega, List.getD_eq_getElem?_getD, List.getElem?_eq_getElem h]
  rfl
theorem takeL_once (bs : List Nat) (hb : ∀ z ∈ bs, z < 256) : ∀ (n y : Nat) (p : Sp) (acc l : List Sp) (z : Int), 0 ≤ p.to → y ≤ bs.length → takeL bs n (y : Int) p acc = (l, z, 0) →
    ∃ (m : List Sp) (zn : Nat), l = acc ++ m ∧ m.length = n ∧ RightS p m ∧ z = (zn : Int) ∧ y ≤ zn ∧ zn ≤ bs.length ∧ cutB bs y zn = putS p.to m
  | 0, y, p, acc, l, z, _, hy, h => by
    rw [takeL] at h
    simp only [Prod.mk.injEq, and_true] at h
    refine ⟨[], y, by rw [List.append_nil]; exact h.1.symm, rfl, trivial, h.2.symm, Nat.le_refl _, hy, ?_⟩
    rw [putS, cutB, Nat.sub_self, List.take_zero]
  | n + 1, y, p, acc, l, z, hp, hy, h => by
    obtain ⟨s, y2, e, hs⟩ : ∃ s y2 e, takeOne bs (y : Int) p = (s, y2, e) := ⟨_, _, _, rfl⟩
    by_cases he : e = 0
    · subst he
      rw [takeL_ok hs] at h
      obtain ⟨py, n1, k1, n2, k2, e0, h1, h2, hk2, hy2, hse, hfit, hkn, hgo⟩ := takeOne_fit hb hs
      obtain ⟨q1, a1, a2, a3, a4, a5, a6⟩ := Leb.take_once bs (y : Int) hb n1 k1 h1
      obtain ⟨q2, b1, b2, b3, b4, b5, b6⟩ := Leb.take_once bs (k1 : Int) hb n2 k2 h2
      have eq1 : q1 = y := by omega
      have eq2 : q2 = k1 := by omega
      subst eq1
      subst eq2
      rw [show y2 = ((k2 + 1 : Nat) : Int) from by omega] at h
      subst hse
      obtain ⟨m, zn, hl, hm, hr, hz, hz1, hz2, hc⟩ := takeL_once bs hb n (k2 + 1) _ _ l z (by simp only; omega) (by omega) h
      refine ⟨⟨p.to + 1 + n1, p.to + 1 + n1 + n2, (bs.getD k2 0 : Int)⟩ :: m, zn, by rw [hl]; simp, by simp [hm], ⟨by simp only; omega, by simp only; omega, by simp only; omega, by simp only; omega, by simp only; omega, ?_, hr⟩, hz, by omega, hz2, ?_⟩
      · rintro ⟨g1, g2⟩
        simp only at g1 g2
        exact hgo ⟨by omega, g2⟩
      · rw [putS, oneS]
        simp only
        rw [show (p.to + 1 + (n1 : Int) - p.to - 1).toNat = n1 from by omega, show (p.to + 1 + (n1 : Int) + n2 - (p.to + 1 + n1)).toNat = n2 from by omega, show ((bs.getD k2 0 : Nat) : Int).toNat = bs.getD k2 0 from by omega, ← hc,
          ← cutB_one bs hk2, ← a5, ← b5]
        show cutB bs q1 zn = cutB bs q1 q2 ++ cutB bs q2 k2 ++ cutB bs k2 (k2 + 1) ++ cutB bs (k2 + 1) zn
        rw [cutB_join bs (by omega) (by omega), cutB_join bs (by omega) (by omega), cutB_join bs (by omega) (by omega)]
    · rw [takeL_bad hs he] at h
      simp only [Prod.mk.injEq] at h
      exact absurd h.2.2 he
end Go.Proofs.YtbloomepdchjhaaDoor
/- parcel's reader: bytes that are taken are just those that are put. -/
namespace Go.Proofs.YtbloomepdchjhaaDoor
open Go.RowKit

theorem numF_le (bs : List Nat) (lim : Nat) (s : Rs) : (numF bs lim s).1 ≤ lim := by
  by_cases h : s.ft = 0
  · obtain ⟨n, k, e, ht⟩ : ∃ n k e, Leb.take bs s.at_ = (n, k, e) := ⟨_, _, _, rfl⟩
    by_cases he : e = 0
    · subst he
      by_cases hn : lim < n
      · rw [numF_lim h ht hn]; exact Nat.zero_le _
      · rw [numF_ok h ht hn]; exact Nat.le_of_not_lt hn
    · rw [numF_bad h ht he]; exact Nat.zero_le _
  · rw [numF_no h]; exact Nat.zero_le _
theorem numF_once {bs : List Nat} {lim : Nat} {s : Rs} (hb : ∀ z ∈ bs, z < 256) (h : (numF bs lim s).2.ft = 0) :
    ∃ p k : Nat, s = ⟨(p : Int), 0⟩ ∧ (numF bs lim s).2 = ⟨(k : Int), 0⟩ ∧ p < k ∧ k ≤ bs.length ∧ cutB bs p k = Leb.leb (numF bs lim s).1 := by
  by_cases h0 : s.ft = 0
  · obtain ⟨n, k, e, ht⟩ : ∃ n k e, Leb.take bs s.at_ = (n, k, e) := ⟨_, _, _, rfl⟩
    by_cases he : e = 0
    · subst he
      by_cases hn : lim < n
      · rw [numF_lim h0 ht hn] at h; simp at h
      · obtain ⟨p, h1, h2, h3, _, h5, _⟩ := Leb.take_once bs _ hb n k ht
        rw [numF_ok h0 ht hn]
        obtain ⟨x, t⟩ := s
        simp only at h0 h1
        subst h0 h1
        exact ⟨p, k, rfl, rfl, h2, h3, h5⟩
    · rw [numF_bad h0 ht he] at h
      simp only at h
      omega
  · rw [numF_no h0] at h
    exact absurd h h0
theorem numF_fine {bs : List Nat} {lim : Nat} {s : Rs} (hb : ∀ z ∈ bs, z < 256) : (numF bs lim s).2.fine bs := fun h => by
  obtain ⟨p, k, _, h2, h3, h4, _⟩ := numF_once hb h
  rw [h2]
  exact ⟨by simp, by simpa using h4⟩
theorem byF_once {bs : List Nat} {c : Nat} {s : Rs} (hx : s.fine bs) (h : (byF bs c s).2.ft = 0) :
    ∃ p : Nat, s = ⟨(p : Int), 0⟩ ∧ (byF bs c s).2 = ⟨((p + c : Nat) : Int), 0⟩ ∧ p + c ≤ bs.length ∧ (byF bs c s).1 = cutB bs p (p + c) ∧ (byF bs c s).1.length = c := by
  by_cases h0 : s.ft = 0
  · obtain ⟨h1, h2⟩ := hx h0
    by_cases hs : (bs.length : Int) - s.at_ < c
    · rw [byF_short h0 hs] at h; simp at h
    · rw [byF_ok h0 hs]
      obtain ⟨x, t⟩ := s
      simp only at h0 h1 h2 hs
      subst h0
      obtain ⟨p, rfl⟩ := Int.eq_ofNat_of_zero_le h1
      refine ⟨p, rfl, by simp, by omega, ?_, ?_⟩
      · simp [cutB]
      · simp
        omega
  · rw [byF_no h0] at h
    exact absurd h h0
theorem byF_fine {bs : List Nat} {c : Nat} {s : Rs} (hx : s.fine bs) : (byF bs c s).2.fine bs := fun h => by
  obtain ⟨p, _, h2, h3, _⟩ := byF_once hx h
  rw [h2]
  exact ⟨by simp; omega, by simp only; omega⟩
theorem byF_len {bs : List Nat} {c : Nat} {s : Rs} : (byF bs c s).1.length ≤ c := by
  by_cases h0 : s.ft = 0
  · by_cases hs : (bs.length : Int) - s.at_ < c
    · rw [byF_short h0 hs]; simp
    · rw [byF_ok h0 hs]; simp; omega
  · rw [byF_no h0]; simp
theorem takeM_from (bs : List Nat) (hb : ∀ z ∈ bs, z < 256) {p : Nat} {l : List Sp} {z : Int} (h : takeM bs (p : Int) = (l, z, 0)) : ∃ zn : Nat, z = (zn : Int) ∧ p ≤ zn ∧ zn ≤ bs.length ∧ rightB Sp.zr l = true ∧ ¬ 256 < l.length ∧ putT l = cutB bs p zn := by
  obtain ⟨n, k, e, h1⟩ : ∃ n k e, Leb.take bs (p : Int) = (n, k, e) := ⟨_, _, _, rfl⟩
  by_cases he : e = 0
  · subst he
    by_cases hn : 256 < n
    · rw [takeM_2 h1 hn] at h; simp at h
    · rw [takeM_3 h1 hn] at h
      obtain ⟨q, h2, h3, h4, _, h6, h7⟩ := Leb.take_once bs _ hb n k h1
      have hq : q = p := by omega
      subst hq
      obtain ⟨m, zn, hl, h8, h9, rfl, h10, h11, h12⟩ := takeL_once bs hb n k Sp.zr [] l z (by decide) h4 h
      rw [List.nil_append] at hl
      subst hl
      have hr : rightB Sp.zr l = true := (rightB_iff _ _).2 h9
      refine ⟨zn, rfl, by omega, h11, hr, by omega, ?_⟩
      have h13 := (put_ok hr (by omega)).2
      rw [h13, h8]
      have e1 : cutB bs q k = Leb.leb n := h6
      rw [← e1]
      rw [show putS 0 l = cutB bs k zn from h12.symm]
      exact cutB_join bs (by omega) h10
  · rw [takeM_1 h1 he] at h
    simp only [Prod.mk.injEq] at h
    omega
theorem spF_once {bs : List Nat} {s : Rs} (hb : ∀ z ∈ bs, z < 256) (hx : s.fine bs) (h : (spF bs s).2.ft = 0) :
    ∃ p k : Nat, s = ⟨(p : Int), 0⟩ ∧ (spF bs s).2 = ⟨(k : Int), 0⟩ ∧ p ≤ k ∧ k ≤ bs.length ∧ rightB Sp.zr (spF bs s).1 = true ∧ ¬ 256 < (spF bs s).1.length ∧ putT (spF bs s).1 = cutB bs p k := by
  by_cases h0 : s.ft = 0
  · obtain ⟨h1, h2⟩ := hx h0
    rw [spF_ok h0] at h ⊢
    obtain ⟨x, t⟩ := s
    simp only at h0 h1 h2 h ⊢
    subst h0
    obtain ⟨p, rfl⟩ := Int.eq_ofNat_of_zero_le h1
    obtain ⟨l, z, f, hT⟩ : ∃ l z f, takeM bs (p : Int) = (l, z, f) := ⟨_, _, _, rfl⟩
    rw [hT] at h ⊢
    simp only at h ⊢
    subst h
    obtain ⟨zn, rfl, h3, h4, h5, h6, h7⟩ := takeM_from bs hb hT
    exact ⟨p, zn, rfl, rfl, h3, h4, h5, h6, h7⟩
  · rw [spF_no h0] at h
    exact absurd h h0
theorem spF_fine {bs : List Nat} {s : Rs} (hb : ∀ z ∈ bs, z < 256) (hx : s.fine bs) : (spF bs s).2.fine bs := fun h => by
  obtain ⟨p, k, _, h2, _, h4, _⟩ := spF_once hb hx h
  rw [h2]
  exact ⟨by simp, by simpa using h4⟩
theorem itF_fine {bs : List Nat} {s : Rs} (hb : ∀ z ∈ bs, z < 256) : (itF bs s).2.fine bs := byF_fine (numF_fine hb)
end Go.Proofs.YtbloomepdchjhaaDoor
/- parcel's reader: items. -/
namespace Go.Proofs.YtbloomepdchjhaaDoor
open Go.RowKit

theorem grown_new {w w' : World} {row : Option Nat} (h : w.grownBy w' row) (p : Addr) (v : Value) (hp : w.heap.size ≤ p.block) : w.grownBy (w'.setCell p v) row := by
  have h0 : Below w.heap.size w' (w'.setCell p v) := (Below.refl _ _).setCell hp v
  exact ⟨h0.os.trans h.os, h0.tape.trans h.tape, h0.output.trans h.output, Nat.le_trans h.size h0.size, fun k hk hn => (h0.block k hk).trans (h.block k hk hn)⟩
theorem grown_into {w w1 w2 : World} {row : Option Nat} (h : w.grownBy w1 row) (hb : Below w.heap.size w1 w2) : w.grownBy w2 row := ⟨hb.os.trans h.os, hb.tape.trans h.tape, hb.output.trans h.output, Nat.le_trans h.size hb.size, fun k hk hn => (hb.block k hk).trans (h.block k hk hn)⟩
theorem grown_alloc {w w' : World} {row : Option Nat} (h : w.grownBy w' row) (o : Obj) : w.grownBy (w'.alloc o) row := grown_trans h (grown_of_below (below_new _ _))

set_option maxRecDepth 100000 in
set_option maxHeartbeats 8000000 in
theorem rd_items (R g o len cap : Nat) (bs : List Nat) (s : Rs) (w : World) (hk : Rdr w R (some ⟨g, o, none⟩) len cap s) (hr : Rd w (some ⟨g, o, none⟩) len bs) (hlc : len ≤ cap) (hl : len ≤ 140737488351232) (hx : s.fine bs) :
    Calls Tryd.prog 66 #[.pointer (some ⟨R, 0, none⟩)] w fun e w' => (∃ v, e = .returned v ∧ Hid (∃ L, Its w' w.heap.size v L ∧ L.map Prod.fst = (itemsF bs s).1)) ∧ Hid (Rdr w' R (some ⟨g, o, none⟩) len cap (itemsF bs s).2) ∧ w.grownBy w' (some R) := by
  have HR : Hid (Rd w (some ⟨g, o, none⟩) len bs) := hr
  have HK : Hid (Rdr w R (some ⟨g, o, none⟩) len cap s) := hk
  have HX : Hid (s.fine bs) := hx
  have HLC : Hid (len ≤ cap ∧ len ≤ 140737488351232) := ⟨hlc, hl⟩
  have HRL : Hid (R < w.heap.size) := Bk.lt hk
  obtain ⟨T, HT⟩ : ∃ T, Hid (T = itemsF bs s) := ⟨_, rfl⟩
  rw [← HT.out]
  clear hr hk hx hlc hl
  go_enter Tryd.func66, Tryd.ntmps66
  go_wp2_with fail
  refine (rd_number R (some ⟨g, o, none⟩) len cap bs s 8 w HK.out HR.out HLC.out.2 HX.out (by omega)).mono ?_
  rintro e w1 ⟨he1, hk1, hg1⟩
  subst he1
  have hN8 := numF_le bs 8 s
  obtain ⟨N, hN⟩ : ∃ N, N = (numF bs 8 s).1 := ⟨_, rfl⟩
  obtain ⟨s1, hs1⟩ : ∃ s1, s1 = (numF bs 8 s).2 := ⟨_, rfl⟩
  have HT1 : Hid (itsF bs N [] s1 = T) := by show _ = _; rw [HT.out, itemsF, ← hN, ← hs1]
  have HK1 : Hid (Rdr w1 R (some ⟨g, o, none⟩) len cap s1) := by rw [hs1]; exact hk1.out
  have HF1 : Hid (s1.fine bs) := by rw [hs1]; exact numF_fine HR.out.byte
  have HG1 : Hid (w.grownBy w1 (some R)) := hg1
  rw [← hN] at hN8 ⊢
  clear hk1 hg1 hN hs1 HT
  go_wp2
  go_loopw [3, 7] (fun t3 t7 wr => ∃ (k : Nat) (v : Value) (L : List (It × Bd)) (s2 : Rs), k ≤ N ∧ t7 = .int .i64 (k : Int) ∧ v = t3 ∧ Hid (Its wr w.heap.size v L) ∧ Hid (L.length = k) ∧ Hid (itsF bs (N - k) (L.map Prod.fst) s2 = T) ∧ Hid (Rdr wr R (some ⟨g, o, none⟩) len cap s2) ∧ Hid (s2.fine bs) ∧ Hid (w.grownBy wr (some R))) (fun _ t7 _ => N - (intOf t7).toNat)
  case atStart => exact ⟨0, _, [], s1, by omega, rfl, rfl, Its.nil_ _ _, rfl, HT1, HK1, HF1, HG1⟩
  case round =>
    obtain ⟨k, v, L, s2, hk, rfl, rfl, HI, HLL, HE, HKr, HFr, HGr⟩ := hrel
    clear HK1 HF1 HG1 HT1
    by_cases hlt : k < N
    · have hlt' : (k : Int) < (N : Int) := by omega
      obtain ⟨I, hI⟩ : ∃ I, I = wr.heap.size := ⟨_, rfl⟩
      have HI0 : Hid (I = wr.heap.size) := hI
      clear hI
      have HRI : Hid (R < I) := by have h1 := HRL.out; have h2 := HGr.out.size; have h3 := HI0.out; show _ < _; omega
      obtain ⟨x1, hx1⟩ : ∃ x, x = numF bs 1099511627776 s2 := ⟨_, rfl⟩
      obtain ⟨y1, hy1⟩ : ∃ x, x = numF bs 4294967295 x1.2 := ⟨_, rfl⟩
      obtain ⟨z1, hz1⟩ : ∃ x, x = numF bs 400 y1.2 := ⟨_, rfl⟩
      obtain ⟨b1, hb1⟩ : ∃ x, x = byF bs z1.1 z1.2 := ⟨_, rfl⟩
      have HIT : Hid (itF bs s2 = (⟨(x1.1 : Int), (y1.1 : Int), b1.1⟩, b1.2)) := by show _ = _; rw [hb1, hz1, hy1, hx1]; rfl
      have HX1 : Hid (x1 = numF bs 1099511627776 s2) := hx1
      have HY1 : Hid (y1 = numF bs 4294967295 x1.2) := hy1
      have HZ1 : Hid (z1 = numF bs 400 y1.2) := hz1
      have HB1 : Hid (b1 = byF bs z1.1 z1.2) := hb1
      have hyl : y1.1 ≤ 4294967295 := by rw [hy1]; exact numF_le _ _ _
      have hxl : x1.1 ≤ 1099511627776 := by rw [hx1]; exact numF_le _ _ _
      have hzl : z1.1 ≤ 400 := by rw [hz1]; exact numF_le _ _ _
      have HFx : Hid (x1.2.fine bs) := by rw [hx1]; exact numF_fine HR.out.byte
      have HFy : Hid (y1.2.fine bs) := by rw [hy1]; exact numF_fine HR.out.byte
      have HFz : Hid (z1.2.fine bs) := by rw [hz1]; exact numF_fine HR.out.byte
      have HFb : Hid (b1.2.fine bs) := by rw [hb1]; exact byF_fine HFz.out
      clear hx1 hy1 hz1 hb1
      obtain ⟨xn, xs⟩ := x1
      obtain ⟨yn, ys⟩ := y1
      obtain ⟨zn, zs⟩ := z1
      obtain ⟨bb, b2⟩ := b1
      simp only at hyl hxl hzl HFx HFy HFz HFb HIT HX1 HY1 HZ1 HB1
      obtain ⟨w2, HW2⟩ : ∃ w2, Hid (w2 = wr.alloc (.cells #[.int .i64 0, .int .u32 0, .slice none 0 0] 74)) := ⟨_, rfl⟩
      have HG2 : Hid (wr.grownBy w2 (some R)) := by rw [HW2.out]; exact grown_of_below (below_new _ _)
      have HN2 : Hid (Bk w2 I #[.int .i64 0, .int .u32 0, .slice none 0 0] 74) := by rw [HW2.out, HI0.out]; exact Bk.new _ _ _
      have HK2 : Hid (Rdr w2 R (some ⟨g, o, none⟩) len cap s2) := by rw [HW2.out]; exact Bk.stay HKr.out (below_new _ _)
      have HRr : Hid (Rd wr (some ⟨g, o, none⟩) len bs) := HR.out.grown HK.out HGr.out
      have HR2 : Hid (Rd w2 (some ⟨g, o, none⟩) len bs) := HRr.out.grown HKr.out HG2.out
      have HNER : Hid (some I ≠ some R) := by have := HRI.out; show some I ≠ some R; simp; omega
      go_wp2_with fail
      rw [← HW2.out]
      refine (rd_number R (some ⟨g, o, none⟩) len cap bs s2 1099511627776 w2 HK2.out HR2.out HLC.out.2 HFr.out (by omega)).mono ?_
      rw [← HX1.out]
      rintro e w3 ⟨he, hk3, hg3⟩
      subst he
      have HK3 : Hid (Rdr w3 R (some ⟨g, o, none⟩) len cap xs) := hk3
      have HG3 : Hid (wr.grownBy w3 (some R)) := grown_trans HG2.out hg3
      have HN3 : Hid (Bk w3 I #[.int .i64 0, .int .u32 0, .slice none 0 0] 74) := HN2.out.grown hg3 HNER.out
      have HR3 : Hid (Rd w3 (some ⟨g, o, none⟩) len bs) := HR2.out.grown HK2.out hg3
      clear hk3 hg3 HK2 HG2 HN2 HR2 HW2
      rw [← HI0.out]
      have c0 : w3.cell? ⟨I, 0, none⟩ = some (.int .i64 0) := HN3.out.cell 0 rfl
      have f0 : w3.frozen? ⟨I, 0, none⟩ = false := HN3.out.free 0
      obtain ⟨w4, HW4⟩ : ∃ w4, Hid (w4 = w3.setCell ⟨I, 0, none⟩ (.int .i64 (xn : Int))) := ⟨_, rfl⟩
      have HG4 : Hid (wr.grownBy w4 (some R)) := by rw [HW4.out]; exact grown_new HG3.out _ _ (by rw [HI0.out]; exact Nat.le_refl _)
      have HN4 : Hid (Bk w4 I #[.int .i64 (xn : Int), .int .u32 0, .slice none 0 0] 74) := by rw [HW4.out]; exact HN3.out.set 0 _
      have HK4 : Hid (Rdr w4 R (some ⟨g, o, none⟩) len cap xs) := by rw [HW4.out]; exact Bk.other HK3.out _ _ (by have := HRI.out; show R ≠ I; omega)
      have HR4 : Hid (Rd w4 (some ⟨g, o, none⟩) len bs) := HRr.out.grown HKr.out HG4.out
      go_wp2_with fail
      rw [← HW4.out]
      refine (rd_number R (some ⟨g, o, none⟩) len cap bs xs 4294967295 w4 HK4.out HR4.out HLC.out.2 HFx.out (by omega)).mono ?_
      rw [← HY1.out]
      rintro e w5 ⟨he, hk5, hg5⟩
      subst he
      have HK5 : Hid (Rdr w5 R (some ⟨g, o, none⟩) len cap ys) := hk5
      have HG5 : Hid (wr.grownBy w5 (some R)) := grown_trans HG4.out hg5
      have HN5 : Hid (Bk w5 I #[.int .i64 (xn : Int), .int .u32 0, .slice none 0 0] 74) := HN4.out.grown hg5 HNER.out
      clear hk5 hg5 HK4 HG4 HN4 HR4 HW4 c0 f0 HK3 HG3 HN3 HR3
      have c1 : w5.cell? ⟨I, 1, none⟩ = some (.int .u32 0) := HN5.out.cell 1 rfl
      have f1 : w5.frozen? ⟨I, 1, none⟩ = false := HN5.out.free 1
      obtain ⟨w6, HW6⟩ : ∃ w6, Hid (w6 = w5.setCell ⟨I, 1, none⟩ (.int .u32 (yn : Int))) := ⟨_, rfl⟩
      have HG6 : Hid (wr.grownBy w6 (some R)) := by rw [HW6.out]; exact grown_new HG5.out _ _ (by rw [HI0.out]; exact Nat.le_refl _)
      have HN6 : Hid (Bk w6 I #[.int .i64 (xn : Int), .int .u32 (yn : Int), .slice none 0 0] 74) := by rw [HW6.out]; exact HN5.out.set 1 _
      have HK6 : Hid (Rdr w6 R (some ⟨g, o, none⟩) len cap ys) := by rw [HW6.out]; exact Bk.other HK5.out _ _ (by have := HRI.out; show R ≠ I; omega)
      have HR6 : Hid (Rd w6 (some ⟨g, o, none⟩) len bs) := HRr.out.grown HKr.out HG6.out
      go_wp2_with fail
      rw [← HW6.out]
      refine (rd_number R (some ⟨g, o, none⟩) len cap bs ys 400 w6 HK6.out HR6.out HLC.out.2 HFy.out (by omega)).mono ?_
      rw [← HZ1.out]
      rintro e w7 ⟨he, hk7, hg7⟩
      subst he
      have HK7 : Hid (Rdr w7 R (some ⟨g, o, none⟩) len cap zs) := hk7
      have HG7 : Hid (wr.grownBy w7 (some R)) := grown_trans HG6.out hg7
      have HN7 : Hid (Bk w7 I #[.int .i64 (xn : Int), .int .u32 (yn : Int), .slice none 0 0] 74) := HN6.out.grown hg7 HNER.out
      have HR7 : Hid (Rd w7 (some ⟨g, o, none⟩) len bs) := HRr.out.grown HKr.out HG7.out
      clear hk7 hg7 HK6 HG6 HN6 HR6 HW6 c1 f1 HK5 HG5 HN5
      go_wp2_with fail
      refine (rd_bytes R g o len cap bs zs zn w7 HK7.out HR7.out HLC.out.1 HLC.out.2 HFz.out (by omega)).mono ?_
      rw [← HB1.out]
      rintro e w8 ⟨⟨ab, nb, cb, he, ho8⟩, hk8, hg8⟩
      subst he
      have HK8 : Hid (Rdr w8 R (some ⟨g, o, none⟩) len cap b2) := hk8
      have HG8 : Hid (wr.grownBy w8 (some R)) := grown_trans HG7.out hg8
      have HN8 : Hid (Bk w8 I #[.int .i64 (xn : Int), .int .u32 (yn : Int), .slice none 0 0] 74) := HN7.out.grown hg8 HNER.out
      have HO8 : Hid (Own w8 w.heap.size ab nb cb bb) := ho8.out.under (Nat.le_trans HGr.out.size HG7.out.size)
      clear hk8 hg8 ho8 HK7 HG7 HN7 HR7
      have c2 : w8.cell? ⟨I, 2, none⟩ = some (.slice none 0 0) := HN8.out.cell 2 rfl
      have f2 : w8.frozen? ⟨I, 2, none⟩ = false := HN8.out.free 2
      obtain ⟨w9, HW9⟩ : ∃ w9, Hid (w9 = w8.setCell ⟨I, 2, none⟩ (.slice ab nb cb)) := ⟨_, rfl⟩
      have HG9 : Hid (wr.grownBy w9 (some R)) := by rw [HW9.out]; exact grown_new HG8.out _ _ (by rw [HI0.out]; exact Nat.le_refl _)
      have HN9 : Hid (Bk w9 I #[.int .i64 (xn : Int), .int .u32 (yn : Int), .slice ab nb cb] 74) := by rw [HW9.out]; exact HN8.out.set 2 _
      have HK9 : Hid (Rdr w9 R (some ⟨g, o, none⟩) len cap b2) := by rw [HW9.out]; exact Bk.other HK8.out _ _ (by have := HRI.out; show R ≠ I; omega)
      have HO9 : Hid (Own w9 w.heap.size ab nb cb bb) := by
        rw [HW9.out]
        refine own_frame HO8.out fun k cs m _ hkk => ?_
        rw [heap_setCell_other w8 ⟨I, 2, none⟩ k _ (fun e => ?_)]
        · exact hkk
        · have h8 := HN8.out
          unfold Bk at h8
          simp only at e
          rw [e, h8] at hkk
          simp only [Option.some.injEq, Obj.cells.injEq] at hkk
          exact absurd hkk.2.1 (by decide)
      have d0 : (w8.setCell ⟨I, 2, none⟩ (.slice ab nb cb)).cell? ⟨I, 0, none⟩ = some (.int .i64 (xn : Int)) := by rw [← HW9.out]; exact HN9.out.cell 0 rfl
      have d1 : (w8.setCell ⟨I, 2, none⟩ (.slice ab nb cb)).cell? ⟨I, 1, none⟩ = some (.int .u32 (yn : Int)) := by rw [← HW9.out]; exact HN9.out.cell 1 rfl
      have d2 : (w8.setCell ⟨I, 2, none⟩ (.slice ab nb cb)).cell? ⟨I, 2, none⟩ = some (.slice ab nb cb) := by rw [← HW9.out]; exact HN9.out.cell 2 rfl
      obtain ⟨wa, HWA⟩ : ∃ wa, Hid (wa = w9.alloc (.cells #[.int .i64 (xn : Int), .int .u32 (yn : Int), .slice ab nb cb] 74)) := ⟨_, rfl⟩
      have HGA : Hid (wr.grownBy wa (some R)) := by rw [HWA.out]; exact grown_alloc HG9.out _
      have HIA : Hid (Its wa w.heap.size v L) := HI.out.grown HRL.out HGA.out
      have HOA : Hid (Own wa w.heap.size ab nb cb bb) := by rw [HWA.out]; exact HO9.out.below (below_new _ _)
      have HKA : Hid (Rdr wa R (some ⟨g, o, none⟩) len cap b2) := by rw [HWA.out]; exact Bk.stay HK9.out (below_new _ _)
      have HS98 : Hid (w9.heap.size = w8.heap.size) := by show _ = _; rw [HW9.out]; simp
      have HNA : Hid (Bk wa w8.heap.size (icells ⟨(xn : Int), (yn : Int), bb⟩ (ab, nb, cb)).toArray 74) := by rw [HWA.out, ← HS98.out]; exact Bk.new _ _ _
      have HSA : Hid (w.heap.size ≤ wa.heap.size) := Nat.le_trans HGr.out.size HGA.out.size
      have hkl : L.length ≤ 1000000 := by have := HLL.out; omega
      clear HG8 HN8 HK8 HO8
      go_wp2_with (first | (at_builtin; rw [← HW9.out, ← HWA.out]; refine wpList_append_it rfl (.tmp 21) (.tmp 23) rfl w.heap.size v L rfl HIA.out ⟨w8.heap.size, 0, none⟩ 1 ⟨(xn : Int), (yn : Int), bb⟩ (ab, nb, cb) rfl (item_told HNA.out) HOA.out hkl HSA.out ?_))
      intro v' wb hib hgb hbb
      have HIB : Hid (Its wb w.heap.size v' (L ++ [(⟨(xn : Int), (yn : Int), bb⟩, (ab, nb, cb))])) := hib
      have HKB : Hid (Rdr wb R (some ⟨g, o, none⟩) len cap b2) := Bk.below HKA.out hbb HRL.out
      have HGB : Hid (w.grownBy wb (some R)) := grown_into (grown_trans HGr.out HGA.out) hbb
      have HLB : Hid ((L ++ [((⟨(xn : Int), (yn : Int), bb⟩ : It), ((ab, nb, cb) : Bd))]).length = k + 1) := by show _ = _; rw [List.length_append, HLL.out]; rfl
      have HEB : Hid (itsF bs (N - (k + 1)) ((L ++ [((⟨(xn : Int), (yn : Int), bb⟩ : It), ((ab, nb, cb) : Bd))]).map Prod.fst) b2 = T) := by
        show _ = _
        rw [← HE.out, show N - k = (N - (k + 1)) + 1 from by omega, itsF, HIT.out]
        simp
      clear hib hgb hbb HE HI HIA HOA HKA HNA HSA HGA d0 d1 d2 HKr HGr
      go_wp2
      go_roundw
      case rel => exact ⟨k + 1, v', _, b2, by omega, by go_num, rfl, HIB, HLB, HEB, HKB, HFb, HGB⟩
      case measure => simp [intOf]; omega
    · have hnl : ¬ (k : Int) < (N : Int) := by omega
      have HX2 : Hid ((L.map Prod.fst, s2) = T) := by
        show _ = _
        rw [← HE.out, show N - k = 0 from by omega, itsF]
      clear HE
      go_wp2
      go_ret
      rw [← HX2.out]
      exact ⟨⟨_, rfl, L, HI.out, rfl⟩, HKr.out, HGr.out⟩
end Go.Proofs.YtbloomepdchjhaaDoor
