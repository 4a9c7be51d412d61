/- A pack of texts: Lw7 LwC Lw8 Lw9 Lw10 Lw11. -/
import Derived.Test.YtidihfhgnjkmaaaGreatLwP
import Derived.Test.YtidihfhgnjkmaaaGreatStB
import Derived.BigRegion
import Derived.Test.YtidihfhgnjkmaaaGreatSpX
import Derived.Deep.RegionHeld3
import Derived.Test.YtidihfhgnjkmaaaGreatPcA
/- grapevinelaw15.do: a parcel is learnt. -/
namespace Go.Proofs.YtidihfhgnjkmaaaGreat
set_option maxRecDepth 100000
open Go.RowKit
variable {Z : Nat → Prop}

abbrev ZT : Nat → Prop := fun _ => True
/-- What do tells: both sides go on alike. -/
def DoTold (s m y : Nat) (w : World) (e : Ending) (w' : World) : Prop := e = .returned (.bool true) ∧ (∃ L' X', Duo ZT w' s m y L' X') ∧ Tri ZT s m y w w'
theorem Joins.uniq {L P A B : List Sp} (h : Joins L P A) (g : Joins L P B) : A = B := canonS A B Sp.zr Sp.zr h.right g.right fun t => by rw [h.at_ t, g.at_ t]
theorem Tri.of_spt {S : Nat → Prop} {s m y : Nat} {w0 w w' : World} (h : Tri ZT s m y w0 w) (ht : Spt S w w') (hs : ∀ k, k < w0.heap.size → ¬ S k) : Tri ZT s m y w0 w' := ⟨ht.os.trans h.os, ht.tape.trans h.tape, ht.output.trans h.output, Nat.le_trans h.size ht.size, fun k hk hz h1 h2 h3 => (ht.block k (Nat.lt_of_lt_of_le hk h.size) (hs k hk)).trans (h.block k hk hz h1 h2 h3)⟩
/-- A parcel of one's own stays where lower blocks turn. -/
theorem PcR.high {w w' : World} {base : Nat} {q : Pa} (h : PcR (fun k => base ≤ k) w base q) (hs : w.heap.size ≤ w'.heap.size) (hk : ∀ k, base ≤ k → k < w.heap.size → w'.heap[k]? = w.heap[k]?) : PcR (fun k => base ≤ k) w' base q := by
  obtain ⟨R, hR, e⟩ := h.items
  refine ⟨⟨row_frame h.spans.row fun g c m hg hc => hk g (h.spans.row.lt g hg).1 (Array.getElem?_eq_some_iff.1 hc).1⟩, R, ⟨row_frame hR.row fun g c m hg hc => hk g (hR.row.lt g hg).1 (Array.getElem?_eq_some_iff.1 hc).1, fun x hx => (hR.bod x hx).frame hs fun k h1 h2 _ => hk k h2 h1, hR.each⟩, e⟩
theorem ByR.keep {S : Nat → Prop} {w w' : World} {a : Option Addr} {n : Nat} (h : ByR S w a n) (hk : ∀ k, S k → k < w.heap.size → w'.heap[k]? = w.heap[k]?) : ByR S w' a n := by
  rcases h with h | ⟨g, o, cs, ha, hs, hc, hi⟩
  · exact .inl h
  · exact .inr ⟨g, o, cs, ha, hs, (hk g hs (Array.getElem?_eq_some_iff.1 hc).1).trans hc, hi⟩
theorem ItR.keep {S : Nat → Prop} {w w' : World} {a : Option Addr} {n : Nat} (h : ItR S w a n) (hk : ∀ k, S k → k < w.heap.size → w'.heap[k]? = w.heap[k]?) : ItR S w' a n := by
  rcases h with h | ⟨g, cs, ha, hs, hc, hi⟩
  · exact .inl h
  · refine .inr ⟨g, cs, ha, hs, (hk g hs (Array.getElem?_eq_some_iff.1 hc).1).trans hc, fun i h => ?_⟩
    obtain ⟨h1, ba, bl, bc, h2, h3, h4, h5⟩ := hi i h
    exact ⟨h1, ba, bl, bc, h2, h3, h4, h5.keep hk⟩
theorem SpR.keep {S : Nat → Prop} {w w' : World} {a : Option Addr} {n : Nat} (h : SpR S w a n) (hk : ∀ k, S k → k < w.heap.size → w'.heap[k]? = w.heap[k]?) : SpR S w' a n := by
  rcases h with h | ⟨g, cs, ha, hs, hc, hi⟩
  · exact .inl h
  · exact .inr ⟨g, cs, ha, hs, (hk g hs (Array.getElem?_eq_some_iff.1 hc).1).trans hc, hi⟩
set_option maxHeartbeats 16000000 in
theorem law_do_learn {w : World} {s m y : Nat} {L : List Sp} {X : List It} (h : Duo ZT w s m y L X) {p : Pc} {sa : Option Addr} {sn sc : Nat} {ia : Option Addr} {im ic : Nat} (hr : PcRd w p sa sn sc ia im ic) (hbg : PcBig p sa sc ia ic) (T id lk : Int) :
    Calls Tryz.prog 28 #[.pointer (some ⟨s, 0, none⟩), .pointer (some ⟨y, 0, none⟩), .agg #[.int .i64 0, .int .i64 p.kind, .int .i64 p.pub, .int .i64 p.sub, .int .i64 p.n_, .int .i64 p.fr, .int .i64 p.to_, .slice sa sn sc, .slice ia im ic, .int .i64 T, .int .i64 id, .int .u32 lk]] w fun e w' => DoTold s m y w e w' := by
  have HRD : Hid (PcRd w p sa sn sc ia im ic) := hr
  have HBG : Hid (PcBig p sa sc ia ic) := hbg
  have HDU : Hid (Duo ZT w s m y L X) := h
  have HIE : Hid (∀ q ∈ p.items, ((-9223372036854775808 : Int) ≤ q.tick ∧ q.tick ≤ 9223372036854775807) ∧ (0 ≤ q.for_ ∧ q.for_ ≤ 4294967295)) := hr.items.each
  obtain ⟨⟨_, hsl, hml, _⟩, ⟨_, hyl⟩⟩ := And.intro h.imp.noInt h.ref.noInt
  have HLT : Hid (s < w.heap.size ∧ m < w.heap.size ∧ y < w.heap.size) := ⟨hsl, hml, hyl⟩
  obtain ⟨W1, HW1⟩ : ∃ W1, Hid (W1 = w.alloc (.cells #[.int .i64 0, .int .i64 p.kind, .int .i64 p.pub, .int .i64 p.sub, .int .i64 p.n_, .int .i64 p.fr, .int .i64 p.to_, .slice sa sn sc, .slice ia im ic, .int .i64 T, .int .i64 id, .int .u32 lk] 36)) := ⟨_, rfl⟩
  have HX1 : Hid (Below w.heap.size w W1) := by (show Below _ _ _); rw [HW1.out]; exact below_new w _
  have HK1 : Hid (Bk W1 w.heap.size #[.int .i64 0, .int .i64 p.kind, .int .i64 p.pub, .int .i64 p.sub, .int .i64 p.n_, .int .i64 p.fr, .int .i64 p.to_, .slice sa sn sc, .slice ia im ic, .int .i64 T, .int .i64 id, .int .u32 lk] 36) := by (show Bk _ _ _ _); rw [HW1.out]; exact Bk.new w _ _
  obtain ⟨db, HDB⟩ : ∃ db, Hid (db = w.heap.size) := ⟨_, rfl⟩
  have HK1 : Hid (Bk W1 db #[.int .i64 0, .int .i64 p.kind, .int .i64 p.pub, .int .i64 p.sub, .int .i64 p.n_, .int .i64 p.fr, .int .i64 p.to_, .slice sa sn sc, .slice ia im ic, .int .i64 T, .int .i64 id, .int .u32 lk] 36) := by (show Bk _ _ _ _); rw [HDB.out]; exact HK1.out
  obtain ⟨POST, HPO⟩ : ∃ P0 : Ending → World → Prop, Hid (P0 = fun e w' => DoTold s m y w e w') := ⟨_, rfl⟩
  have hpost : (fun e w' => DoTold s m y w e w') = fun e w' => POST e w' := HPO.out.symm
  rw [hpost]
  clear hpost h hr hbg hsl hml hyl
  go_enter Tryz.func28, Tryz.ntmps28
  go_upto_region 1 with fail
  rw [← HW1.out, ← HDB.out]
  have e0 : W1.cell? ⟨db, 0, none⟩ = some (.int .i64 0) := HK1.out.cell 0 rfl
  have e1 : W1.cell? ⟨db, 1, none⟩ = some (.int .i64 p.kind) := HK1.out.cell 1 rfl
  have e2 : W1.cell? ⟨db, 2, none⟩ = some (.int .i64 p.pub) := HK1.out.cell 2 rfl
  have e3 : W1.cell? ⟨db, 3, none⟩ = some (.int .i64 p.sub) := HK1.out.cell 3 rfl
  have e4 : W1.cell? ⟨db, 4, none⟩ = some (.int .i64 p.n_) := HK1.out.cell 4 rfl
  have e5 : W1.cell? ⟨db, 5, none⟩ = some (.int .i64 p.fr) := HK1.out.cell 5 rfl
  have e6 : W1.cell? ⟨db, 6, none⟩ = some (.int .i64 p.to_) := HK1.out.cell 6 rfl
  have e7 : W1.cell? ⟨db, 7, none⟩ = some (.slice sa sn sc) := HK1.out.cell 7 rfl
  have e8 : W1.cell? ⟨db, 8, none⟩ = some (.slice ia im ic) := HK1.out.cell 8 rfl
  have e9 : W1.cell? ⟨db, 9, none⟩ = some (.int .i64 T) := HK1.out.cell 9 rfl
  have e10 : W1.cell? ⟨db, 10, none⟩ = some (.int .i64 id) := HK1.out.cell 10 rfl
  have e11 : W1.cell? ⟨db, 11, none⟩ = some (.int .u32 lk) := HK1.out.cell 11 rfl
  have HOW : Hid (Calls Tryz.prog 49 #[.agg #[.int .i64 p.kind, .int .i64 p.pub, .int .i64 p.sub, .int .i64 p.n_, .int .i64 p.fr, .int .i64 p.to_, .slice sa sn sc, .slice ia im ic]] W1 fun e w' => ∃ ta tc ja jc, e = .returned (.agg #[.int .i64 p.kind, .int .i64 p.pub, .int .i64 p.sub, .int .i64 p.n_, .int .i64 p.fr, .int .i64 p.to_, .slice ta sn tc, .slice ja im jc]) ∧ OwnPc w' W1.heap.size p ta sn tc ja im jc ∧ Below W1.heap.size W1 w') := law_owned p sa sn sc ia im ic W1 (HRD.out.below HX1.out) HBG.out.sz (by have := HRD.out.sl; have := HBG.out.sb; omega) (by have := HRD.out.il; have := HBG.out.ib; omega) HBG.out.bb
  go_wp2_with fail
  refine HOW.out.mono ?_
  rintro e w2 ⟨ta, tc, ja, jc, rfl, ho2, hb2⟩
  obtain ⟨W3, HW3⟩ : ∃ W3, Hid (W3 = w2.alloc (.cells #[.int .i64 p.kind, .int .i64 p.pub, .int .i64 p.sub, .int .i64 p.n_, .int .i64 p.fr, .int .i64 p.to_, .slice ta sn tc, .slice ja im jc] 33)) := ⟨_, rfl⟩
  have HB3 : Hid (Below W1.heap.size W1 W3) := by (show Below _ _ _); rw [HW3.out]; exact hb2.trans ((below_new w2 _).mono hb2.size)
  have HO3 : Hid (PcR (fun k => W1.heap.size ≤ k) W3 W1.heap.size ⟨p, ta, sn, tc, ja, im, jc⟩) := by (show PcR _ _ _ _); rw [HW3.out]; exact (ho2.pcr HIE.out).below (below_new w2 _)
  obtain ⟨ov, HOV⟩ : ∃ ov, Hid (ov = w2.heap.size) := ⟨_, rfl⟩
  have HV3 : Hid (Bk W3 ov #[.int .i64 p.kind, .int .i64 p.pub, .int .i64 p.sub, .int .i64 p.n_, .int .i64 p.fr, .int .i64 p.to_, .slice ta sn tc, .slice ja im jc] 33) := by (show Bk _ _ _ _); rw [HW3.out, HOV.out]; exact Bk.new w2 _ _
  have HOL : Hid (W1.heap.size ≤ ov) := by (show _ ≤ _); rw [HOV.out]; exact hb2.size
  have HX3 : Hid (Below w.heap.size w W3) := HX1.out.trans (HB3.out.mono HX1.out.size)
  have HK3 : Hid (Bk W3 db #[.int .i64 0, .int .i64 p.kind, .int .i64 p.pub, .int .i64 p.sub, .int .i64 p.n_, .int .i64 p.fr, .int .i64 p.to_, .slice sa sn sc, .slice ia im ic, .int .i64 T, .int .i64 id, .int .u32 lk] 36) := HK1.out.stay HB3.out
  have HDU1 : Hid (Duo ZT W1 s m y L X) := HDU.out.stay HX1.out
  have HDU3 : Hid (Duo (fun k => k < W1.heap.size ∨ W3.heap.size ≤ k) W3 s m y L X) := HDU1.out.over HB3.out (fun k hk _ => .inl hk) (fun k hk => .inr hk)
  have HPD3 : Hid (PcRd W3 p sa sn sc ia im ic) := HRD.out.below HX3.out
  have HPO3 : Hid (PcRd W3 p ta sn tc ja im jc) := HO3.out.rd (fun k hk => hk)
  have HSZ : Hid (w.heap.size < W1.heap.size ∧ W1.heap.size ≤ W3.heap.size) := ⟨by have := HK1.out.lt; have := HDB.out; omega, HB3.out.size⟩
  clear ho2 hb2 e0 e1 e2 e3 e4 e5 e6 e7 e8 e9 e10 e11
  go_upto_region 4 with fail
  rw [← HW3.out, ← HOV.out]
  have v0 : W3.cell? ⟨ov, 0, none⟩ = some (.int .i64 p.kind) := HV3.out.cell 0 rfl
  have v1 : W3.cell? ⟨ov, 1, none⟩ = some (.int .i64 p.pub) := HV3.out.cell 1 rfl
  have v2 : W3.cell? ⟨ov, 2, none⟩ = some (.int .i64 p.sub) := HV3.out.cell 2 rfl
  have v3 : W3.cell? ⟨ov, 3, none⟩ = some (.int .i64 p.n_) := HV3.out.cell 3 rfl
  have v4 : W3.cell? ⟨ov, 4, none⟩ = some (.int .i64 p.fr) := HV3.out.cell 4 rfl
  have v5 : W3.cell? ⟨ov, 5, none⟩ = some (.int .i64 p.to_) := HV3.out.cell 5 rfl
  have v6 : W3.cell? ⟨ov, 6, none⟩ = some (.slice ta sn tc) := HV3.out.cell 6 rfl
  have v7 : W3.cell? ⟨ov, 7, none⟩ = some (.slice ja im jc) := HV3.out.cell 7 rfl
  -- what is left behind both: the parcel is spoilt
  have HEND : Hid (∀ (w5 : World) (L' : List Sp) (X' : List It), Duo (fun k => k < W1.heap.size ∨ W3.heap.size ≤ k) w5 s m y L' X' → Tri ZT s m y W3 w5 → Bk w5 ov #[.int .i64 p.kind, .int .i64 p.pub, .int .i64 p.sub, .int .i64 p.n_, .int .i64 p.fr, .int .i64 p.to_, .slice ta sn tc, .slice ja im jc] 33 ∧ Calls Tryz.prog 51 #[.agg #[.int .i64 p.kind, .int .i64 p.pub, .int .i64 p.sub, .int .i64 p.n_, .int .i64 p.fr, .int .i64 p.to_, .slice ta sn tc, .slice ja im jc]] w5 fun e w' => e = .returned (.tuple #[]) ∧ (∃ L' X', Duo ZT w' s m y L' X') ∧ Tri ZT s m y w w') := by
    intro w5 L' X' hd ht
    have hlt := HLT.out
    have hz := HSZ.out
    have hne : ∀ k, W1.heap.size ≤ k → k < W3.heap.size → w5.heap[k]? = W3.heap[k]? := fun k h1 h2 => ht.block k h2 trivial (by omega) (by omega) (by omega)
    refine ⟨(hne ov HOL.out HV3.out.lt).trans HV3.out, ?_⟩
    obtain ⟨h1, h2⟩ := HO3.out.spoil (S := fun k => W1.heap.size ≤ k ∧ k < W3.heap.size) (fun k h1 h2 => ⟨h1, h2⟩) (fun k h1 h2 => ⟨h1, h2⟩)
    have k1 := h1.keep (w' := w5) fun k hk _ => hne k hk.1 hk.2
    have k2 := h2.keep (w' := w5) fun k hk _ => hne k hk.1 hk.2
    have hts := ht.size
    refine (law_spoil _ _ _ _ _ _ ta sn tc ja im jc w5 k1 k2 (Nat.le_trans HPO3.out.il HPO3.out.im_) (Nat.le_trans HPO3.out.sl HPO3.out.sm) (fun k hk h => by have := h.2; omega)).mono ?_
    rintro e w6 ⟨rfl, hs6⟩
    refine ⟨rfl, ⟨L', X', (hd.spt hs6.spt (fun k hk h => by rcases hk with hk | hk <;> omega) ⟨fun h => by omega, fun h => by omega, fun h => by omega⟩).reZ (fun _ _ _ => trivial) (fun _ _ => trivial)⟩, ?_⟩
    exact ((Tri.of_below s m y HX3.out).trans ht).of_spt hs6.spt (fun k hk h => by omega)
  by_cases hg : chk p = 0 ∧ p.kind = 1
  · have hok : TellOk p := tellOk_of hg.2 hg.1 fun q hq => (HIE.out q hq).2
    obtain ⟨L1, hj⟩ := joins_ex HDU.out.kn.right hok.right
    have HOK : Hid (TellOk p) := hok
    have HJ : Hid (Joins L p.spans L1) := hj
    have HL1 : Hid (Calls Tryz.prog 12 #[.pointer (some ⟨s, 0, none⟩), .agg #[.int .i64 p.kind, .int .i64 p.pub, .int .i64 p.sub, .int .i64 p.n_, .int .i64 p.fr, .int .i64 p.to_, .slice ta sn tc, .slice ja im jc]] W3 fun e w' => LearnTo (fun k => k < W1.heap.size ∨ W3.heap.size ≤ k) s m L L1 X p W3 e w') := st_LearnG HDU3.out.imp HDU3.out.kn HDU3.out.few hok hj HPO3.out
    clear hg hok hj
    go_wp2_with fail
    refine HL1.out.mono ?_
    rintro e w4 ⟨⟨r, rfl, hr⟩, him, htw⟩
    have HRT : Hid (r = true ↔ ¬ (L1 = L ∧ tf (learnX L1 X p) = tf X)) := hr
    have HIM : Hid (Imp (fun k => k < W1.heap.size ∨ W3.heap.size ≤ k) w4 s m L1 (learnX L1 X p)) := him
    have HTW : Hid (Two s m W3 w4) := htw
    have HRF : Hid (Ref (fun k => k < W1.heap.size ∨ W3.heap.size ≤ k) w4 y L X) := HDU3.out.ref.two HDU3.out.imp HDU3.out.ys htw
    have HPD4 : Hid (PcRd w4 p sa sn sc ia im ic) := HPD3.out.ints htw.size fun k hk hi => htw.block k hk (by rintro rfl; exact HDU3.out.imp.noInt.1.1 hi) (by rintro rfl; exact HDU3.out.imp.noInt.1.2 hi)
    have HNB : Hid (db ≠ s ∧ db ≠ m ∧ db ≠ y) := by have h1 := HLT.out; have h2 := HDB.out; (show _ ∧ _ ∧ _); omega
    have HK4 : Hid (Bk w4 db #[.int .i64 0, .int .i64 p.kind, .int .i64 p.pub, .int .i64 p.sub, .int .i64 p.n_, .int .i64 p.fr, .int .i64 p.to_, .slice sa sn sc, .slice ia im ic, .int .i64 T, .int .i64 id, .int .u32 lk] 36) := Two.bk HK3.out htw HNB.out.1 HNB.out.2.1
    clear hr him htw v0 v1 v2 v3 v4 v5 v6 v7
    have e0 : w4.cell? ⟨db, 0, none⟩ = some (.int .i64 0) := HK4.out.cell 0 rfl
    have e1 : w4.cell? ⟨db, 1, none⟩ = some (.int .i64 p.kind) := HK4.out.cell 1 rfl
    have e2 : w4.cell? ⟨db, 2, none⟩ = some (.int .i64 p.pub) := HK4.out.cell 2 rfl
    have e3 : w4.cell? ⟨db, 3, none⟩ = some (.int .i64 p.sub) := HK4.out.cell 3 rfl
    have e4 : w4.cell? ⟨db, 4, none⟩ = some (.int .i64 p.n_) := HK4.out.cell 4 rfl
    have e5 : w4.cell? ⟨db, 5, none⟩ = some (.int .i64 p.fr) := HK4.out.cell 5 rfl
    have e6 : w4.cell? ⟨db, 6, none⟩ = some (.int .i64 p.to_) := HK4.out.cell 6 rfl
    have e7 : w4.cell? ⟨db, 7, none⟩ = some (.slice sa sn sc) := HK4.out.cell 7 rfl
    have e8 : w4.cell? ⟨db, 8, none⟩ = some (.slice ia im ic) := HK4.out.cell 8 rfl
    have e9 : w4.cell? ⟨db, 9, none⟩ = some (.int .i64 T) := HK4.out.cell 9 rfl
    have e10 : w4.cell? ⟨db, 10, none⟩ = some (.int .i64 id) := HK4.out.cell 10 rfl
    have e11 : w4.cell? ⟨db, 11, none⟩ = some (.int .u32 lk) := HK4.out.cell 11 rfl
    have HRL : Hid (Calls Tryz.prog 50 #[.pointer (some ⟨y, 0, none⟩), .agg #[.int .i64 p.kind, .int .i64 p.pub, .int .i64 p.sub, .int .i64 p.n_, .int .i64 p.fr, .int .i64 p.to_, .slice sa sn sc, .slice ia im ic]] w4 fun e w' => RefLearn (fun k => k < W1.heap.size ∨ W3.heap.size ≤ k) y L X p w4 e w') := by
      obtain ⟨R, la, ln, lc, xa, xn, xc, hst, hRX⟩ := HRF.out
      have := ref_Learn hst (by rw [← hst.its.size, ← List.length_map (f := Prod.fst), hRX]; exact HDU.out.few) HOK.out HPD4.out
      rw [hRX] at this
      exact this
    go_wp2_with fail
    refine HRL.out.mono ?_
    rintro e w5 ⟨L1', hj', ⟨r', rfl, hr'⟩, hrf, htw⟩
    have hLL : L1' = L1 := hj'.uniq HJ.out
    subst hLL
    have hrr : r' = r := by
      have := HRT.out
      cases r <;> cases r' <;> simp_all
    subst hrr
    have HDF : Hid (Duo (fun k => k < W1.heap.size ∨ W3.heap.size ≤ k) w5 s m y L1' (learnX L1' X p)) := ⟨HIM.out.away HRF.out HDU.out.ys htw, hrf, (learnX_kn HDU.out.kn HOK.out HJ.out).1, (learnX_kn HDU.out.kn HOK.out HJ.out).2, HDU.out.ys⟩
    have HTR : Hid (Tri ZT s m y W3 w5) := (Tri.of_imp y HTW.out).trans (Tri.of_ref s m htw)
    obtain ⟨hV5, hsp⟩ := HEND.out w5 _ _ HDF.out HTR.out
    have HSPC := hsp
    clear hj' hr' hrf htw e0 e1 e2 e3 e4 e5 e6 e7 e8 e9 e10 e11
    have v0 : w5.cell? ⟨ov, 0, none⟩ = some (.int .i64 p.kind) := hV5.cell 0 rfl
    have v1 : w5.cell? ⟨ov, 1, none⟩ = some (.int .i64 p.pub) := hV5.cell 1 rfl
    have v2 : w5.cell? ⟨ov, 2, none⟩ = some (.int .i64 p.sub) := hV5.cell 2 rfl
    have v3 : w5.cell? ⟨ov, 3, none⟩ = some (.int .i64 p.n_) := hV5.cell 3 rfl
    have v4 : w5.cell? ⟨ov, 4, none⟩ = some (.int .i64 p.fr) := hV5.cell 4 rfl
    have v5 : w5.cell? ⟨ov, 5, none⟩ = some (.int .i64 p.to_) := hV5.cell 5 rfl
    have v6 : w5.cell? ⟨ov, 6, none⟩ = some (.slice ta sn tc) := hV5.cell 6 rfl
    have v7 : w5.cell? ⟨ov, 7, none⟩ = some (.slice ja im jc) := hV5.cell 7 rfl
    clear hsp hV5
    have HSP : Hid (Calls Tryz.prog 51 #[.agg #[.int .i64 p.kind, .int .i64 p.pub, .int .i64 p.sub, .int .i64 p.n_, .int .i64 p.fr, .int .i64 p.to_, .slice ta sn tc, .slice ja im jc]] w5 fun e w' => e = .returned (.tuple #[]) ∧ (∃ L' X', Duo ZT w' s m y L' X') ∧ Tri ZT s m y w w') := HSPC
    clear HSPC
    go_wp2_with fail
    refine HSP.out.mono ?_
    rintro e w6 ⟨rfl, hd6, ht6⟩
    have HD6 : Hid (∃ L' X', Duo ZT w6 s m y L' X') := hd6
    have HT6 : Hid (Tri ZT s m y w w6) := ht6
    clear hd6 ht6 v0 v1 v2 v3 v4 v5 v6 v7
    cases r' with
    | true =>
      go_wp2
      rw [HPO.out]
      exact ⟨rfl, HD6.out, HT6.out⟩
    | false =>
      go_wp2
      rw [HPO.out]
      exact ⟨rfl, HD6.out, HT6.out⟩
  · have HL1 : Hid (Calls Tryz.prog 12 #[.pointer (some ⟨s, 0, none⟩), .agg #[.int .i64 p.kind, .int .i64 p.pub, .int .i64 p.sub, .int .i64 p.n_, .int .i64 p.fr, .int .i64 p.to_, .slice ta sn tc, .slice ja im jc]] W3 fun e w' => e = .returned (.tuple #[.bool false, .int .i64 (errL p)]) ∧ Below W3.heap.size W3 w') := st_Learn_bad W3 s p ta sn tc ja im jc HPO3.out hg
    have HG : Hid (¬ (chk p = 0 ∧ p.kind = 1)) := hg
    obtain ⟨er, HER⟩ : ∃ er, Hid (errL p = er) := ⟨_, rfl⟩
    rw [HER.out] at HL1
    clear hg
    go_wp2_with fail
    refine HL1.out.mono ?_
    rintro e w4 ⟨rfl, hb4⟩
    have HB4 : Hid (Below W3.heap.size W3 w4) := hb4
    have HK4 : Hid (Bk w4 db #[.int .i64 0, .int .i64 p.kind, .int .i64 p.pub, .int .i64 p.sub, .int .i64 p.n_, .int .i64 p.fr, .int .i64 p.to_, .slice sa sn sc, .slice ia im ic, .int .i64 T, .int .i64 id, .int .u32 lk] 36) := HK3.out.stay hb4
    clear hb4 v0 v1 v2 v3 v4 v5 v6 v7
    have e0 : w4.cell? ⟨db, 0, none⟩ = some (.int .i64 0) := HK4.out.cell 0 rfl
    have e1 : w4.cell? ⟨db, 1, none⟩ = some (.int .i64 p.kind) := HK4.out.cell 1 rfl
    have e2 : w4.cell? ⟨db, 2, none⟩ = some (.int .i64 p.pub) := HK4.out.cell 2 rfl
    have e3 : w4.cell? ⟨db, 3, none⟩ = some (.int .i64 p.sub) := HK4.out.cell 3 rfl
    have e4 : w4.cell? ⟨db, 4, none⟩ = some (.int .i64 p.n_) := HK4.out.cell 4 rfl
    have e5 : w4.cell? ⟨db, 5, none⟩ = some (.int .i64 p.fr) := HK4.out.cell 5 rfl
    have e6 : w4.cell? ⟨db, 6, none⟩ = some (.int .i64 p.to_) := HK4.out.cell 6 rfl
    have e7 : w4.cell? ⟨db, 7, none⟩ = some (.slice sa sn sc) := HK4.out.cell 7 rfl
    have e8 : w4.cell? ⟨db, 8, none⟩ = some (.slice ia im ic) := HK4.out.cell 8 rfl
    have e9 : w4.cell? ⟨db, 9, none⟩ = some (.int .i64 T) := HK4.out.cell 9 rfl
    have e10 : w4.cell? ⟨db, 10, none⟩ = some (.int .i64 id) := HK4.out.cell 10 rfl
    have e11 : w4.cell? ⟨db, 11, none⟩ = some (.int .u32 lk) := HK4.out.cell 11 rfl
    have HRL : Hid (Calls Tryz.prog 50 #[.pointer (some ⟨y, 0, none⟩), .agg #[.int .i64 p.kind, .int .i64 p.pub, .int .i64 p.sub, .int .i64 p.n_, .int .i64 p.fr, .int .i64 p.to_, .slice sa sn sc, .slice ia im ic]] w4 fun e w' => e = .returned (.tuple #[.bool false, .int .i64 er]) ∧ Below w4.heap.size w4 w') := by
      have := ref_Learn_bad w4 y p sa sn sc ia im ic (HPD3.out.below HB4.out) HG.out
      rw [HER.out] at this
      exact this
    go_wp2_with fail
    refine HRL.out.mono ?_
    rintro e w5 ⟨rfl, hb5⟩
    have HB5 : Hid (Below W3.heap.size W3 w5) := HB4.out.trans (hb5.mono HB4.out.size)
    obtain ⟨hV5, hsp⟩ := HEND.out w5 L X (HDU3.out.stay HB5.out) (Tri.of_below s m y HB5.out)
    have HSPC := hsp
    clear hb5 e0 e1 e2 e3 e4 e5 e6 e7 e8 e9 e10 e11
    have v0 : w5.cell? ⟨ov, 0, none⟩ = some (.int .i64 p.kind) := hV5.cell 0 rfl
    have v1 : w5.cell? ⟨ov, 1, none⟩ = some (.int .i64 p.pub) := hV5.cell 1 rfl
    have v2 : w5.cell? ⟨ov, 2, none⟩ = some (.int .i64 p.sub) := hV5.cell 2 rfl
    have v3 : w5.cell? ⟨ov, 3, none⟩ = some (.int .i64 p.n_) := hV5.cell 3 rfl
    have v4 : w5.cell? ⟨ov, 4, none⟩ = some (.int .i64 p.fr) := hV5.cell 4 rfl
    have v5 : w5.cell? ⟨ov, 5, none⟩ = some (.int .i64 p.to_) := hV5.cell 5 rfl
    have v6 : w5.cell? ⟨ov, 6, none⟩ = some (.slice ta sn tc) := hV5.cell 6 rfl
    have v7 : w5.cell? ⟨ov, 7, none⟩ = some (.slice ja im jc) := hV5.cell 7 rfl
    clear hsp hV5
    have HSP : Hid (Calls Tryz.prog 51 #[.agg #[.int .i64 p.kind, .int .i64 p.pub, .int .i64 p.sub, .int .i64 p.n_, .int .i64 p.fr, .int .i64 p.to_, .slice ta sn tc, .slice ja im jc]] w5 fun e w' => e = .returned (.tuple #[]) ∧ (∃ L' X', Duo ZT w' s m y L' X') ∧ Tri ZT s m y w w') := HSPC
    clear HSPC
    go_wp2_with fail
    refine HSP.out.mono ?_
    rintro e w6 ⟨rfl, hd6, ht6⟩
    have HD6 : Hid (∃ L' X', Duo ZT w6 s m y L' X') := hd6
    have HT6 : Hid (Tri ZT s m y w w6) := ht6
    have kee : (er == er) = true := by simp
    clear hd6 ht6 v0 v1 v2 v3 v4 v5 v6 v7
    go_wp2
    rw [HPO.out]
    exact ⟨rfl, HD6.out, HT6.out⟩
end Go.Proofs.YtidihfhgnjkmaaaGreat
/- Both sides of a stream: what their calls tell, said in one way. -/
namespace Go.Proofs.YtidihfhgnjkmaaaGreat
set_option maxRecDepth 100000
open Go.RowKit
variable {Z : Nat → Prop}

theorem shl_of {id : Int} (h : 1 ≤ id ∧ id ≤ 32) : ∃ lk : Int, (0 ≤ lk ∧ lk ≤ 4294967295) ∧ (2 : Int) ^ (id.toNat - 1) % 4294967296 = lk ∧ ∀ W, (Op.shift BinOp.shl IntKind.u32 1 IntKind.i64 (IntKind.i64.wrap (id - 1))).run Tryz.prog W = .ok (.int .u32 lk) W := by
  have h2 : id = 1 ∨ id = 2 ∨ id = 3 ∨ id = 4 ∨ id = 5 ∨ id = 6 ∨ id = 7 ∨ id = 8 ∨ id = 9 ∨ id = 10 ∨ id = 11 ∨ id = 12 ∨ id = 13 ∨ id = 14 ∨ id = 15 ∨ id = 16 ∨ id = 17 ∨ id = 18 ∨ id = 19 ∨ id = 20 ∨ id = 21 ∨ id = 22 ∨ id = 23 ∨ id = 24 ∨ id = 25 ∨ id = 26 ∨ id = 27 ∨ id = 28 ∨ id = 29 ∨ id = 30 ∨ id = 31 ∨ id = 32 := by omega
  rcases h2 with rfl | rfl | rfl | rfl | rfl | rfl | rfl | rfl | rfl | rfl | rfl | rfl | rfl | rfl | rfl | rfl | rfl | rfl | rfl | rfl | rfl | rfl | rfl | rfl | rfl | rfl | rfl | rfl | rfl | rfl | rfl | rfl
  · exact ⟨1, by omega, by decide, fun W => rfl⟩
  · exact ⟨2, by omega, by decide, fun W => rfl⟩
  · exact ⟨4, by omega, by decide, fun W => rfl⟩
  · exact ⟨8, by omega, by decide, fun W => rfl⟩
  · exact ⟨16, by omega, by decide, fun W => rfl⟩
  · exact ⟨32, by omega, by decide, fun W => rfl⟩
  · exact ⟨64, by omega, by decide, fun W => rfl⟩
  · exact ⟨128, by omega, by decide, fun W => rfl⟩
  · exact ⟨256, by omega, by decide, fun W => rfl⟩
  · exact ⟨512, by omega, by decide, fun W => rfl⟩
  · exact ⟨1024, by omega, by decide, fun W => rfl⟩
  · exact ⟨2048, by omega, by decide, fun W => rfl⟩
  · exact ⟨4096, by omega, by decide, fun W => rfl⟩
  · exact ⟨8192, by omega, by decide, fun W => rfl⟩
  · exact ⟨16384, by omega, by decide, fun W => rfl⟩
  · exact ⟨32768, by omega, by decide, fun W => rfl⟩
  · exact ⟨65536, by omega, by decide, fun W => rfl⟩
  · exact ⟨131072, by omega, by decide, fun W => rfl⟩
  · exact ⟨262144, by omega, by decide, fun W => rfl⟩
  · exact ⟨524288, by omega, by decide, fun W => rfl⟩
  · exact ⟨1048576, by omega, by decide, fun W => rfl⟩
  · exact ⟨2097152, by omega, by decide, fun W => rfl⟩
  · exact ⟨4194304, by omega, by decide, fun W => rfl⟩
  · exact ⟨8388608, by omega, by decide, fun W => rfl⟩
  · exact ⟨16777216, by omega, by decide, fun W => rfl⟩
  · exact ⟨33554432, by omega, by decide, fun W => rfl⟩
  · exact ⟨67108864, by omega, by decide, fun W => rfl⟩
  · exact ⟨134217728, by omega, by decide, fun W => rfl⟩
  · exact ⟨268435456, by omega, by decide, fun W => rfl⟩
  · exact ⟨536870912, by omega, by decide, fun W => rfl⟩
  · exact ⟨1073741824, by omega, by decide, fun W => rfl⟩
  · exact ⟨2147483648, by omega, by decide, fun W => rfl⟩
theorem right_len {l : List Sp} (h : RightS Sp.zr l) : l.length ≤ 2000000000000 := by
  cases l with
  | nil => simp
  | cons q l0 =>
    have := (RightS_len _ _ h)
    have h2 := this.2 (by simp)
    have h1 := this.1
    have : (Sp.zr).to = 0 := rfl
    omega
theorem Ref.short {w : World} {y : Nat} {L : List Sp} {X : List It} {R : List (It × Bd)} {la : Option Addr} {ln lc : Nat} {xa : Option Addr} {xn xc : Nat} (h : Rst Z w y L R la ln lc xa xn xc) (e : R.map Prod.fst = X) (hX : X.length ≤ 64) : xn ≤ 64 := by
  rw [← h.its.size, ← List.length_map (f := Prod.fst), e]
  exact hX
theorem imp_Next {w : World} {s m : Nat} {L : List Sp} {X : List It} (h : Imp Z w s m L X) {t id lk : Int} (ht : 0 ≤ t ∧ t ≤ 1099511627776) (hid : 1 ≤ id ∧ id ≤ 32) (hsh : ∀ W, (Op.shift BinOp.shl IntKind.u32 1 IntKind.i64 (IntKind.i64.wrap (id - 1))).run Tryz.prog W = .ok (.int .u32 lk) W) :
    Calls Tryz.prog 21 #[.pointer (some ⟨s, 0, none⟩), .int .i64 t, .int .i64 id] w fun e w' => StepTold (kk L X) (getI X) lk t w.heap.size w e w' := by
  obtain ⟨l, ⟨a, n, c, Y, hs⟩, he⟩ := h
  have hf : atS l = kk L X := funext he
  rw [← hf]
  exact st_Next hs ht hid hsh
theorem duo_Next {w : World} {y : Nat} {L : List Sp} {X : List It} (h : Ref Z w y L X) (hK : Kn L X) (hX : X.length ≤ 64) {t id lk : Int} (ht : 0 ≤ t ∧ t ≤ 1099511627776) (hid : 1 ≤ id ∧ id ≤ 32) (hlk : 0 ≤ lk ∧ lk ≤ 4294967295) (hsh : (2 : Int) ^ (id.toNat - 1) % 4294967296 = lk) :
    Calls Tryz.prog 55 #[.pointer (some ⟨y, 0, none⟩), .int .i64 t, .int .i64 id] w fun e w' => StepTold (kk L X) (getI X) lk t w.heap.size w e w' := by
  obtain ⟨R, la, ln, lc, xa, xn, xc, hst, hRX⟩ := h
  have h64 := Ref.short hst hRX hX
  have := ref_Next hst (by rw [hRX]; exact hK) (by omega) ht hid hlk hsh
  rw [hRX] at this
  exact this
theorem duo_Tell {w : World} {y : Nat} {L : List Sp} {X : List It} (h : Ref Z w y L X) (hK : Kn L X) (hX : X.length ≤ 64) {pub f t lk : Int} (hm : mayT pub f t) (hlk : 0 ≤ lk ∧ lk ≤ 4294967295) :
    Calls Tryz.prog 53 #[.pointer (some ⟨y, 0, none⟩), .int .i64 pub, .int .i64 f, .int .i64 t, .int .u32 lk] w fun e w' => TellTold Z L X lk pub f t w e w' := by
  obtain ⟨R, la, ln, lc, xa, xn, xc, hst, hRX⟩ := h
  have h64 := Ref.short hst hRX hX
  have := ref_Tell hst (by rw [hRX]; exact hK) (by omega) hm hlk
  rw [hRX] at this
  exact this
theorem duo_Lose {w : World} {y : Nat} {L : List Sp} {X : List It} (h : Ref Z w y L X) (hX : X.length ≤ 64) {t : Int} (ht : 0 ≤ t ∧ t ≤ 1099511627776) :
    Calls Tryz.prog 52 #[.pointer (some ⟨y, 0, none⟩), .int .i64 t] w fun e w' => RefLose Z y L X t w e w' := by
  obtain ⟨R, la, ln, lc, xa, xn, xc, hst, hRX⟩ := h
  have h64 := Ref.short hst hRX hX
  have := ref_Lose hst (by omega) ht
  rw [hRX] at this
  exact this
theorem Lost.uniq {L A B : List Sp} {t : Int} (h : Lost L t A) (g : Lost L t B) : A = B := canonS A B Sp.zr Sp.zr h.right g.right fun u => by rw [h.at_ u, g.at_ u]
theorem duo_Map {w : World} {y : Nat} {L : List Sp} {X : List It} (h : Ref Z w y L X) (hK : Kn L X) (hX : X.length ≤ 64) : Calls Tryz.prog 16 #[.pointer (some ⟨y, 0, none⟩)] w fun e w' => MapTold w.heap.size L X w e w' := by
  obtain ⟨R, la, ln, lc, xa, xn, xc, hst, hRX⟩ := h
  have h64 := Ref.short hst hRX hX
  have := ref_Map hst (by rw [hRX]; exact hK) (by omega)
  rw [hRX] at this
  exact this
theorem imp_Map {w : World} {s m : Nat} {L : List Sp} {X : List It} (h : Imp Z w s m L X) : Calls Tryz.prog 18 #[.pointer (some ⟨s, 0, none⟩)] w fun e w' => MapTold w.heap.size L X w e w' := by
  obtain ⟨l, ⟨a, n, c, Y, hs⟩, he⟩ := h
  refine (st_Map hs.stm (right_len hs.stm.ok.right)).mono ?_
  rintro e w' ⟨⟨a', n', c', h1, h2⟩, h3⟩
  exact ⟨⟨a', n', c', l, h1, h2, he⟩, h3⟩
/-- What Item tells. -/
def itemX (X : List It) (t : Int) : It × Bool := match getI X t with | some q => (q, true) | none => (⟨0, 0, []⟩, false)
def ItemTo (X : List It) (t : Int) (w : World) (e : Ending) (w' : World) : Prop := (∃ ba bc, e = .returned (.tuple #[.agg #[.int .i64 (itemX X t).1.tick, .int .u32 (itemX X t).1.for_, .slice ba (itemX X t).1.body.length bc], .bool (itemX X t).2]) ∧ BdOk w' ba (itemX X t).1.body.length bc (itemX X t).1.body) ∧ Below w.heap.size w w'
theorem itemX_in {L : List Sp} {X : List It} (hK : Kn L X) (t : Int) : ItIn (itemX X t).1 := by
  unfold itemX
  cases h : getI X t with
  | none =>
    unfold ItIn
    simp only
    omega
  | some q =>
    obtain ⟨_, hm⟩ := getI_tick h
    have := hK.each q hm
    unfold ItIn
    simp only
    omega
theorem imp_Item {w : World} {s m : Nat} {L : List Sp} {X : List It} (h : Imp Z w s m L X) {t : Int} (ht : -9223372036854775808 ≤ t ∧ t ≤ 9223372036854775807) :
    Calls Tryz.prog 19 #[.pointer (some ⟨s, 0, none⟩), .int .i64 t] w fun e w' => ItemTo X t w e w' := by
  obtain ⟨l, ⟨a, n, c, Y, hs⟩, he⟩ := h
  unfold ItemTo itemX
  cases hg : getI X t with
  | none =>
    refine (st_Item_no hs hg ht).mono ?_
    rintro e w' ⟨ba, bc, h1, h2, h3⟩
    exact ⟨⟨ba, bc, h1, BdOk.of_own h2⟩, h3⟩
  | some q =>
    refine (st_Item hs hg ht).mono ?_
    rintro e w' ⟨ba, bc, h1, h2, h3⟩
    exact ⟨⟨ba, bc, h1, BdOk.of_own h2⟩, h3⟩
theorem BdT.ok {w : World} {b : Bd} {bs : List Nat} (h : BdT Z w b bs) : BdOk w b.1 b.2.1 b.2.2 bs := ⟨h.rd, h.nil_, h.lc, by have := h.cm; omega⟩
theorem itemX_told {R : List (It × Bd)} (hr : RiseIt (R.map Prod.fst)) (t : Int) : (ItemTold R t).1.1 = (itemX (R.map Prod.fst) t).1 ∧ (ItemTold R t).2 = (itemX (R.map Prod.fst) t).2 ∧ ((ItemTold R t).1 ∈ R ∨ (ItemTold R t).1 = noIt) := by
  obtain ⟨h1, h2⟩ := isAt_get (X := R.map Prod.fst) (t := t) hr
  unfold ItemTold itemX
  unfold isAtX at h1
  cases hg : getI (R.map Prod.fst) t with
  | none =>
    rw [hg] at h1
    cases hp : R[placeX (R.map Prod.fst) t]? with
    | none => exact ⟨rfl, rfl, .inr rfl⟩
    | some x =>
      rw [List.getElem?_map, hp] at h1
      simp at h1
      simp only
      rw [if_neg h1]
      exact ⟨rfl, rfl, .inr rfl⟩
  | some q =>
    have := h2 q hg
    rw [List.getElem?_map] at this
    cases hp : R[placeX (R.map Prod.fst) t]? with
    | none =>
      rw [hp] at this
      cases this
    | some x =>
      rw [hp] at this
      simp at this
      subst this
      simp only
      rw [if_pos (getI_tick hg).1]
      exact ⟨rfl, rfl, .inl (List.mem_of_getElem? hp)⟩
theorem duo_Item {w : World} {y : Nat} {L : List Sp} {X : List It} (h : Ref Z w y L X) (hK : Kn L X) (t : Int) :
    Calls Tryz.prog 57 #[.pointer (some ⟨y, 0, none⟩), .int .i64 t] w fun e w' => ItemTo X t w e w' := by
  obtain ⟨R, la, ln, lc, xa, xn, xc, hst, hRX⟩ := h
  refine (ref_Item hst t).mono ?_
  rintro e w' ⟨h1, h2⟩
  have hr : RiseIt (R.map Prod.fst) := by rw [hRX]; exact hK.rise
  obtain ⟨k1, k2, k3⟩ := itemX_told hr t
  rw [hRX] at k1 k2
  refine ⟨⟨(ItemTold R t).1.2.1, (ItemTold R t).1.2.2.2, ?_, ?_⟩, h2⟩
  · rw [h1]
    unfold itV
    rw [k1, k2]
    have hl : (ItemTold R t).1.2.2.1 = (itemX X t).1.body.length := by
      rw [← k1]
      rcases k3 with k3 | k3
      · exact (hst.its.bod _ k3).rd.size.symm
      · rw [k3]; rfl
    rw [hl]
  · rw [← k1]
    have : (ItemTold R t).1.1.body.length = (ItemTold R t).1.2.2.1 := by
      rcases k3 with k3 | k3
      · exact (hst.its.bod _ k3).rd.size
      · rw [k3]; rfl
    rw [this]
    rcases k3 with k3 | k3
    · exact (hst.its.bod _ k3).ok.below h2
    · rw [k3]
      exact BdOk.none_ w'
end Go.Proofs.YtidihfhgnjkmaaaGreat
/- grapevinelaw15.do: a tick is lost, what comes next, an item, a look. -/
namespace Go.Proofs.YtidihfhgnjkmaaaGreat
set_option maxRecDepth 100000
open Go.RowKit
variable {Z : Nat → Prop}

theorem Two.bk_ {w w' : World} {s m g : Nat} {cs : Array Value} {t : TypeId} (h : Bk w g cs t) (ht : Two s m w w') (h1 : g ≠ s) (h2 : g ≠ m) : Bk w' g cs t := (ht.block g h.lt h1 h2).trans h
set_option maxHeartbeats 8000000 in
theorem law_do_look {w : World} {s m y : Nat} {L : List Sp} {X : List It} (h : Duo ZT w s m y L X) (p : Pc) (sa : Option Addr) (sn sc : Nat) (ia : Option Addr) (im ic : Nat) (T id lk dk : Int) (hd : ¬ (0 ≤ dk ∧ dk ≤ 4)) :
    Calls Tryz.prog 28 #[.pointer (some ⟨s, 0, none⟩), .pointer (some ⟨y, 0, none⟩), .agg #[.int .i64 dk, .int .i64 p.kind, .int .i64 p.pub, .int .i64 p.sub, .int .i64 p.n_, .int .i64 p.fr, .int .i64 p.to_, .slice sa sn sc, .slice ia im ic, .int .i64 T, .int .i64 id, .int .u32 lk]] w fun e w' => DoTold s m y w e w' := by
  have HDU : Hid (Duo ZT w s m y L X) := h
  obtain ⟨⟨_, hsl, hml, _⟩, ⟨_, hyl⟩⟩ := And.intro h.imp.noInt h.ref.noInt
  have HLT : Hid (s < w.heap.size ∧ m < w.heap.size ∧ y < w.heap.size) := ⟨hsl, hml, hyl⟩
  obtain ⟨W1, HW1⟩ : ∃ W1, Hid (W1 = w.alloc (.cells #[.int .i64 dk, .int .i64 p.kind, .int .i64 p.pub, .int .i64 p.sub, .int .i64 p.n_, .int .i64 p.fr, .int .i64 p.to_, .slice sa sn sc, .slice ia im ic, .int .i64 T, .int .i64 id, .int .u32 lk] 36)) := ⟨_, rfl⟩
  have HX1 : Hid (Below w.heap.size w W1) := by (show Below _ _ _); rw [HW1.out]; exact below_new w _
  have HK1 : Hid (Bk W1 w.heap.size #[.int .i64 dk, .int .i64 p.kind, .int .i64 p.pub, .int .i64 p.sub, .int .i64 p.n_, .int .i64 p.fr, .int .i64 p.to_, .slice sa sn sc, .slice ia im ic, .int .i64 T, .int .i64 id, .int .u32 lk] 36) := by (show Bk _ _ _ _); rw [HW1.out]; exact Bk.new w _ _
  obtain ⟨db, HDB⟩ : ∃ db, Hid (db = w.heap.size) := ⟨_, rfl⟩
  have HK1 : Hid (Bk W1 db #[.int .i64 dk, .int .i64 p.kind, .int .i64 p.pub, .int .i64 p.sub, .int .i64 p.n_, .int .i64 p.fr, .int .i64 p.to_, .slice sa sn sc, .slice ia im ic, .int .i64 T, .int .i64 id, .int .u32 lk] 36) := by (show Bk _ _ _ _); rw [HDB.out]; exact HK1.out
  have HNB : Hid (db ≠ s ∧ db ≠ m ∧ db ≠ y) := by have h1 := HLT.out; have h2 := HDB.out; (show _ ∧ _ ∧ _); omega
  have HDU1 : Hid (Duo ZT W1 s m y L X) := HDU.out.stay HX1.out
  obtain ⟨POST, HPO⟩ : ∃ P0 : Ending → World → Prop, Hid (P0 = fun e w' => DoTold s m y w e w') := ⟨_, rfl⟩
  have hpost : (fun e w' => DoTold s m y w e w') = fun e w' => POST e w' := HPO.out.symm
  rw [hpost]
  clear hpost h hsl hml hyl
  have k0 : (dk == 0) = false := by simp; omega
  have k1 : (dk == 1) = false := by simp; omega
  have k2 : (dk == 2) = false := by simp; omega
  have k3 : (dk == 3) = false := by simp; omega
  have k4 : (dk == 4) = false := by simp; omega
  have j0 : ¬ dk = 0 := by omega
  have j1 : ¬ dk = 1 := by omega
  have j2 : ¬ dk = 2 := by omega
  have j3 : ¬ dk = 3 := by omega
  have j4 : ¬ dk = 4 := by omega
  clear hd
  go_enter Tryz.func28, Tryz.ntmps28
  go_upto_region 1 with fail
  rw [← HW1.out, ← HDB.out]
  have e0 : W1.cell? ⟨db, 0, none⟩ = some (.int .i64 dk) := HK1.out.cell 0 rfl
  go_wp2
  rw [HPO.out]
  exact ⟨rfl, ⟨L, X, HDU1.out⟩, Tri.of_below s m y HX1.out⟩
set_option maxHeartbeats 8000000 in
theorem law_do_lose {w : World} {s m y : Nat} {L : List Sp} {X : List It} (h : Duo ZT w s m y L X) (p : Pc) (sa : Option Addr) (sn sc : Nat) (ia : Option Addr) (im ic : Nat) (T id lk : Int)  :
    Calls Tryz.prog 28 #[.pointer (some ⟨s, 0, none⟩), .pointer (some ⟨y, 0, none⟩), .agg #[.int .i64 1, .int .i64 p.kind, .int .i64 p.pub, .int .i64 p.sub, .int .i64 p.n_, .int .i64 p.fr, .int .i64 p.to_, .slice sa sn sc, .slice ia im ic, .int .i64 T, .int .i64 id, .int .u32 lk]] w fun e w' => DoTold s m y w e w' := by
  have HDU : Hid (Duo ZT w s m y L X) := h
  obtain ⟨⟨_, hsl, hml, _⟩, ⟨_, hyl⟩⟩ := And.intro h.imp.noInt h.ref.noInt
  have HLT : Hid (s < w.heap.size ∧ m < w.heap.size ∧ y < w.heap.size) := ⟨hsl, hml, hyl⟩
  obtain ⟨W1, HW1⟩ : ∃ W1, Hid (W1 = w.alloc (.cells #[.int .i64 1, .int .i64 p.kind, .int .i64 p.pub, .int .i64 p.sub, .int .i64 p.n_, .int .i64 p.fr, .int .i64 p.to_, .slice sa sn sc, .slice ia im ic, .int .i64 T, .int .i64 id, .int .u32 lk] 36)) := ⟨_, rfl⟩
  have HX1 : Hid (Below w.heap.size w W1.drew) := by (show Below _ _ _); rw [HW1.out]; exact (below_new w _).drew
  have HK1 : Hid (Bk W1.drew w.heap.size #[.int .i64 1, .int .i64 p.kind, .int .i64 p.pub, .int .i64 p.sub, .int .i64 p.n_, .int .i64 p.fr, .int .i64 p.to_, .slice sa sn sc, .slice ia im ic, .int .i64 T, .int .i64 id, .int .u32 lk] 36) := by (show Bk _ _ _ _); rw [HW1.out]; exact Bk.new w _ _
  obtain ⟨db, HDB⟩ : ∃ db, Hid (db = w.heap.size) := ⟨_, rfl⟩
  have HK1 : Hid (Bk W1.drew db #[.int .i64 1, .int .i64 p.kind, .int .i64 p.pub, .int .i64 p.sub, .int .i64 p.n_, .int .i64 p.fr, .int .i64 p.to_, .slice sa sn sc, .slice ia im ic, .int .i64 T, .int .i64 id, .int .u32 lk] 36) := by (show Bk _ _ _ _); rw [HDB.out]; exact HK1.out
  have HNB : Hid (db ≠ s ∧ db ≠ m ∧ db ≠ y) := by have h1 := HLT.out; have h2 := HDB.out; (show _ ∧ _ ∧ _); omega
  have HDU1 : Hid (Duo ZT W1.drew s m y L X) := HDU.out.stay HX1.out
  obtain ⟨POST, HPO⟩ : ∃ P0 : Ending → World → Prop, Hid (P0 = fun e w' => DoTold s m y w e w') := ⟨_, rfl⟩
  have hpost : (fun e w' => DoTold s m y w e w') = fun e w' => POST e w' := HPO.out.symm
  rw [hpost]
  clear hpost h hsl hml hyl
  have c9 : W1.drew.cell? ⟨db, 9, none⟩ = some (.int .i64 T) := HK1.out.cell 9 rfl
  by_cases hT : 0 ≤ T ∧ T ≤ 1099511627776
  · obtain ⟨L1, hl⟩ := lost_ex HDU.out.kn.right hT.2
    have HL : Hid (Lost L T L1) := hl
    have HT : Hid (0 ≤ T ∧ T ≤ 1099511627776) := hT
    clear hT hl
    go_enter Tryz.func28, Tryz.ntmps28
    go_wp2
    rw [← HW1.out, ← HDB.out]
    go_region_held3 (fun w' => w'.cell? ⟨db, 9, none⟩ = some (.int .i64 T)) (first | exact c9 | exact c2 | exact c3 | fail)
      (first
        | (go_at_call 23; refine (st_Lose HDU1.out.imp HDU1.out.kn HDU1.out.few HT.out HL.out).mono ?_; rintro e w2 ⟨rfl, him, htw⟩; have c2 : w2.cell? ⟨db, 9, none⟩ = some (.int .i64 T) := (Two.bk_ HK1.out htw HNB.out.1 HNB.out.2.1).cell 9 rfl)
        | (go_at_call 52; refine (duo_Lose (HDU1.out.ref.two HDU1.out.imp HDU1.out.ys htw) HDU1.out.few HT.out).mono ?_; rintro e w3 ⟨L2, hl2, rfl, hrf, htw3⟩; have c3 : w3.cell? ⟨db, 9, none⟩ = some (.int .i64 T) := (Two.bk_ (Two.bk_ HK1.out htw HNB.out.1 HNB.out.2.1) htw3 HNB.out.2.2 HNB.out.2.2).cell 9 rfl))
    have hLL : L2 = L1 := hl2.uniq HL.out
    subst hLL
    have HF : Hid (Duo ZT w3 s m y L2 (quietX L2 X)) := ⟨him.away (HDU1.out.ref.two HDU1.out.imp HDU1.out.ys htw) HDU1.out.ys htw3, hrf, (HDU1.out.kn.lose HT.out.2 HL.out).1, Nat.le_trans (List.length_filter_le _ _) HDU1.out.few, HDU1.out.ys⟩
    have HTR : Hid (Tri ZT s m y w w3) := ((Tri.of_below s m y HX1.out).trans (Tri.of_imp y htw)).trans (Tri.of_ref s m htw3)
    clear him htw hl2 hrf htw3
    go_wp2
    rw [HPO.out]
    exact ⟨rfl, ⟨L2, _, HF.out⟩, HTR.out⟩
  · have HT : Hid (¬ (0 ≤ T ∧ T ≤ 1099511627776)) := hT
    clear hT
    go_enter Tryz.func28, Tryz.ntmps28
    go_wp2
    rw [← HW1.out, ← HDB.out]
    go_region_held3 (fun w' => w'.cell? ⟨db, 9, none⟩ = some (.int .i64 T)) (first | exact c9 | exact c2 | exact c3 | fail)
      (first
        | (go_at_call 23; refine (st_Lose_bad _ s HT.out).mono ?_; rintro e w2 ⟨rfl, hb2⟩; have c2 : w2.cell? ⟨db, 9, none⟩ = some (.int .i64 T) := (HK1.out.stay hb2).cell 9 rfl)
        | (go_at_call 52; refine (ref_Lose_bad _ y HT.out).mono ?_; rintro e w3 ⟨rfl, hb3⟩; have c3 : w3.cell? ⟨db, 9, none⟩ = some (.int .i64 T) := ((HK1.out.stay hb2).stay hb3).cell 9 rfl))
    have HB3 : Hid (Below w.heap.size w w3) := (HX1.out.trans (hb2.mono HX1.out.size)).trans (hb3.mono (Nat.le_trans HX1.out.size hb2.size))
    have HF : Hid (Duo ZT w3 s m y L X) := HDU.out.stay HB3.out
    clear hb2 hb3
    go_wp2
    rw [HPO.out]
    exact ⟨rfl, ⟨L, X, HF.out⟩, Tri.of_below s m y HB3.out⟩
set_option maxHeartbeats 8000000 in
theorem law_do_next {w : World} {s m y : Nat} {L : List Sp} {X : List It} (h : Duo ZT w s m y L X) (p : Pc) (sa : Option Addr) (sn sc : Nat) (ia : Option Addr) (im ic : Nat) (T id lk : Int)  :
    Calls Tryz.prog 28 #[.pointer (some ⟨s, 0, none⟩), .pointer (some ⟨y, 0, none⟩), .agg #[.int .i64 3, .int .i64 p.kind, .int .i64 p.pub, .int .i64 p.sub, .int .i64 p.n_, .int .i64 p.fr, .int .i64 p.to_, .slice sa sn sc, .slice ia im ic, .int .i64 T, .int .i64 id, .int .u32 lk]] w fun e w' => DoTold s m y w e w' := by
  have HDU : Hid (Duo ZT w s m y L X) := h
  obtain ⟨⟨_, hsl, hml, _⟩, ⟨_, hyl⟩⟩ := And.intro h.imp.noInt h.ref.noInt
  have HLT : Hid (s < w.heap.size ∧ m < w.heap.size ∧ y < w.heap.size) := ⟨hsl, hml, hyl⟩
  obtain ⟨W1, HW1⟩ : ∃ W1, Hid (W1 = w.alloc (.cells #[.int .i64 3, .int .i64 p.kind, .int .i64 p.pub, .int .i64 p.sub, .int .i64 p.n_, .int .i64 p.fr, .int .i64 p.to_, .slice sa sn sc, .slice ia im ic, .int .i64 T, .int .i64 id, .int .u32 lk] 36)) := ⟨_, rfl⟩
  have HX1 : Hid (Below w.heap.size w W1) := by (show Below _ _ _); rw [HW1.out]; exact below_new w _
  have HK1 : Hid (Bk W1 w.heap.size #[.int .i64 3, .int .i64 p.kind, .int .i64 p.pub, .int .i64 p.sub, .int .i64 p.n_, .int .i64 p.fr, .int .i64 p.to_, .slice sa sn sc, .slice ia im ic, .int .i64 T, .int .i64 id, .int .u32 lk] 36) := by (show Bk _ _ _ _); rw [HW1.out]; exact Bk.new w _ _
  obtain ⟨db, HDB⟩ : ∃ db, Hid (db = w.heap.size) := ⟨_, rfl⟩
  have HK1 : Hid (Bk W1 db #[.int .i64 3, .int .i64 p.kind, .int .i64 p.pub, .int .i64 p.sub, .int .i64 p.n_, .int .i64 p.fr, .int .i64 p.to_, .slice sa sn sc, .slice ia im ic, .int .i64 T, .int .i64 id, .int .u32 lk] 36) := by (show Bk _ _ _ _); rw [HDB.out]; exact HK1.out
  have HNB : Hid (db ≠ s ∧ db ≠ m ∧ db ≠ y) := by have h1 := HLT.out; have h2 := HDB.out; (show _ ∧ _ ∧ _); omega
  have HDU1 : Hid (Duo ZT W1 s m y L X) := HDU.out.stay HX1.out
  obtain ⟨POST, HPO⟩ : ∃ P0 : Ending → World → Prop, Hid (P0 = fun e w' => DoTold s m y w e w') := ⟨_, rfl⟩
  have hpost : (fun e w' => DoTold s m y w e w') = fun e w' => POST e w' := HPO.out.symm
  rw [hpost]
  clear hpost h hsl hml hyl
  by_cases hN : mayN T id
  · obtain ⟨l2, hlb, hl2, hsh⟩ := shl_of hN.2
    have HN1 : Hid (Calls Tryz.prog 21 #[.pointer (some ⟨s, 0, none⟩), .int .i64 T, .int .i64 id] W1 fun e w' => StepTold (kk L X) (getI X) l2 T W1.heap.size W1 e w') := imp_Next HDU1.out.imp hN.1 hN.2 hsh
    have HN2 : Hid (∀ W, Duo ZT W s m y L X → Calls Tryz.prog 55 #[.pointer (some ⟨y, 0, none⟩), .int .i64 T, .int .i64 id] W fun e w' => StepTold (kk L X) (getI X) l2 T W.heap.size W e w') := fun W hW => duo_Next hW.ref hW.kn hW.few hN.1 hN.2 hlb hl2
    clear hN hlb hl2 hsh
    go_enter Tryz.func28, Tryz.ntmps28
    go_upto_region 1 with fail
    rw [← HW1.out, ← HDB.out]
    have e0 : W1.cell? ⟨db, 0, none⟩ = some (.int .i64 3) := HK1.out.cell 0 rfl
    have e9 : W1.cell? ⟨db, 9, none⟩ = some (.int .i64 T) := HK1.out.cell 9 rfl
    have e10 : W1.cell? ⟨db, 10, none⟩ = some (.int .i64 id) := HK1.out.cell 10 rfl
    go_wp2_with fail
    refine HN1.out.mono ?_
    rintro e w2 ⟨⟨is, fr, to_, q, ba, bc, rfl, hn, hbd⟩, hb2⟩
    have HNI : Hid (NextIs (kk L X) (getI X) l2 T is fr to_ q) := hn
    obtain ⟨N, HN⟩ : ∃ N, Hid (q.body.length = N) := ⟨_, rfl⟩
    rw [HN.out] at hbd ⊢
    obtain ⟨W3, HW3⟩ : ∃ W3, Hid (W3 = w2.alloc (.cells #[.int .i64 is, .int .i64 fr, .int .i64 to_, .int .i64 q.tick, .int .u32 q.for_, .slice ba N bc] 64)) := ⟨_, rfl⟩
    obtain ⟨b1, HB1⟩ : ∃ b1, Hid (b1 = w2.heap.size) := ⟨_, rfl⟩
    have HBE3 : Hid (Below W1.heap.size W1 W3) := by (show Below _ _ _); rw [HW3.out]; exact hb2.trans ((below_new w2 _).mono hb2.size)
    have HV3 : Hid (Bk W3 b1 #[.int .i64 is, .int .i64 fr, .int .i64 to_, .int .i64 q.tick, .int .u32 q.for_, .slice ba N bc] 64) := by (show Bk _ _ _ _); rw [HW3.out, HB1.out]; exact Bk.new w2 _ _
    have HBD3 : Hid (BdOk W3 ba N bc q.body) := by (show BdOk _ _ _ _ _); rw [HW3.out]; exact hbd.below (below_new w2 _)
    have HK3 : Hid (Bk W3 db #[.int .i64 3, .int .i64 p.kind, .int .i64 p.pub, .int .i64 p.sub, .int .i64 p.n_, .int .i64 p.fr, .int .i64 p.to_, .slice sa sn sc, .slice ia im ic, .int .i64 T, .int .i64 id, .int .u32 lk] 36) := HK1.out.stay HBE3.out
    have HDU3 : Hid (Duo ZT W3 s m y L X) := HDU1.out.stay HBE3.out
    have HN2W := HN2.out W3 HDU3.out
    have HN2W : Hid (Calls Tryz.prog 55 #[.pointer (some ⟨y, 0, none⟩), .int .i64 T, .int .i64 id] W3 fun e w' => StepTold (kk L X) (getI X) l2 T W3.heap.size W3 e w') := HN2W
    clear hn hbd hb2 e0 e9 e10
    go_upto_region 21 with fail
    rw [← HW3.out, ← HB1.out]
    have e0 : W3.cell? ⟨db, 0, none⟩ = some (.int .i64 3) := HK3.out.cell 0 rfl
    have e9 : W3.cell? ⟨db, 9, none⟩ = some (.int .i64 T) := HK3.out.cell 9 rfl
    have e10 : W3.cell? ⟨db, 10, none⟩ = some (.int .i64 id) := HK3.out.cell 10 rfl
    go_wp2_with fail
    refine HN2W.out.mono ?_
    rintro e w4 ⟨⟨is', fr', to', q', da, dc, rfl, hn', hbd'⟩, hb4⟩
    obtain ⟨i1, i2, i3, i4⟩ := hn'.uniq HNI.out
    subst i1 i2 i3 i4
    rw [HN.out] at hbd' ⊢
    obtain ⟨W5, HW5⟩ : ∃ W5, Hid (W5 = w4.alloc (.cells #[.int .i64 is', .int .i64 fr', .int .i64 to', .int .i64 q'.tick, .int .u32 q'.for_, .slice da N dc] 64)) := ⟨_, rfl⟩
    obtain ⟨b2, HB2⟩ : ∃ b2, Hid (b2 = w4.heap.size) := ⟨_, rfl⟩
    have HBE5 : Hid (Below W3.heap.size W3 W5) := by (show Below _ _ _); rw [HW5.out]; exact hb4.trans ((below_new w4 _).mono hb4.size)
    have HV5 : Hid (Bk W5 b2 #[.int .i64 is', .int .i64 fr', .int .i64 to', .int .i64 q'.tick, .int .u32 q'.for_, .slice da N dc] 64) := by (show Bk _ _ _ _); rw [HW5.out, HB2.out]; exact Bk.new w4 _ _
    have HU5 : Hid (Bk W5 b1 #[.int .i64 is', .int .i64 fr', .int .i64 to', .int .i64 q'.tick, .int .u32 q'.for_, .slice ba N bc] 64) := HV3.out.stay HBE5.out
    have HBD5 : Hid (BdOk W5 ba N bc q'.body) := HBD3.out.below HBE5.out
    have HBE5' : Hid (BdOk W5 da N dc q'.body) := by (show BdOk _ _ _ _ _); rw [HW5.out]; exact hbd'.below (below_new w4 _)
    have HIN : Hid (ItIn q') := by
      rcases HNI.out with ⟨u, _, _, ⟨_, _, _, _, _, hg, _⟩ | ⟨_, _, _, _, _, _, hz⟩ | ⟨_, _, _, _, hz⟩⟩
      · have := HDU.out.kn.each q' (getI_tick hg).2
        (show ItIn q')
        unfold ItIn
        omega
      · (show ItIn q'); rw [hz]; unfold ItIn; (show (_ ≤ (0 : Int) ∧ (0 : Int) ≤ _) ∧ ((0 : Int) ≤ 0 ∧ (0 : Int) ≤ _)); omega
      · (show ItIn q'); rw [hz]; unfold ItIn; (show (_ ≤ (0 : Int) ∧ (0 : Int) ≤ _) ∧ ((0 : Int) ≤ 0 ∧ (0 : Int) ≤ _)); omega
    have HSS : Hid (Calls Tryz.prog 56 #[.agg #[.int .i64 is', .int .i64 fr', .int .i64 to', .int .i64 q'.tick, .int .u32 q'.for_, .slice ba N bc], .agg #[.int .i64 is', .int .i64 fr', .int .i64 to', .int .i64 q'.tick, .int .u32 q'.for_, .slice da N dc]] W5 fun e w' => e = .returned (.bool true) ∧ Below W5.heap.size W5 w') := by
      have h1 := HBD5.out
      have h2 := HBE5'.out
      rw [← HN.out] at h1 h2 ⊢
      exact ref_SameStep is' fr' to' q' ba bc da dc W5 h1 h2 HIN.out
    clear hn' hbd' hb4 e0 e9 e10
    go_upto_region 22 with fail
    rw [← HW5.out, ← HB2.out]
    have a0 : W5.cell? ⟨b1, 0, none⟩ = some (.int .i64 is') := HU5.out.cell 0 rfl
    have a1 : W5.cell? ⟨b1, 1, none⟩ = some (.int .i64 fr') := HU5.out.cell 1 rfl
    have a2 : W5.cell? ⟨b1, 2, none⟩ = some (.int .i64 to') := HU5.out.cell 2 rfl
    have a3 : W5.cell? ⟨b1, 3, none⟩ = some (.int .i64 q'.tick) := HU5.out.cell 3 rfl
    have a4 : W5.cell? ⟨b1, 4, none⟩ = some (.int .u32 q'.for_) := HU5.out.cell 4 rfl
    have a5 : W5.cell? ⟨b1, 5, none⟩ = some (.slice ba N bc) := HU5.out.cell 5 rfl
    have d0 : W5.cell? ⟨b2, 0, none⟩ = some (.int .i64 is') := HV5.out.cell 0 rfl
    have d1 : W5.cell? ⟨b2, 1, none⟩ = some (.int .i64 fr') := HV5.out.cell 1 rfl
    have d2 : W5.cell? ⟨b2, 2, none⟩ = some (.int .i64 to') := HV5.out.cell 2 rfl
    have d3 : W5.cell? ⟨b2, 3, none⟩ = some (.int .i64 q'.tick) := HV5.out.cell 3 rfl
    have d4 : W5.cell? ⟨b2, 4, none⟩ = some (.int .u32 q'.for_) := HV5.out.cell 4 rfl
    have d5 : W5.cell? ⟨b2, 5, none⟩ = some (.slice da N dc) := HV5.out.cell 5 rfl
    go_wp2_with fail
    refine HSS.out.mono ?_
    rintro e w6 ⟨rfl, hb6⟩
    have HB6 : Hid (Below w.heap.size w w6) := ((HX1.out.trans (HBE3.out.mono HX1.out.size)).trans (HBE5.out.mono (Nat.le_trans HX1.out.size HBE3.out.size))).trans (hb6.mono (Nat.le_trans (Nat.le_trans HX1.out.size HBE3.out.size) HBE5.out.size))
    clear hb6 a0 a1 a2 a3 a4 a5 d0 d1 d2 d3 d4 d5
    go_wp2
    rw [HPO.out]
    exact ⟨rfl, ⟨L, X, HDU.out.stay HB6.out⟩, Tri.of_below s m y HB6.out⟩
  · have HBAD : Hid (¬ mayN T id) := hN
    have HN1 : Hid (Calls Tryz.prog 21 #[.pointer (some ⟨s, 0, none⟩), .int .i64 T, .int .i64 id] W1 fun e w' => e = .returned (.tuple #[.agg #[.int .i64 0, .int .i64 0, .int .i64 0, .int .i64 0, .int .u32 0, .slice none 0 0], .int .i64 2]) ∧ Below W1.heap.size W1 w') := st_Next_bad W1 s hN
    clear hN
    go_enter Tryz.func28, Tryz.ntmps28
    go_upto_region 1 with fail
    rw [← HW1.out, ← HDB.out]
    have e0 : W1.cell? ⟨db, 0, none⟩ = some (.int .i64 3) := HK1.out.cell 0 rfl
    have e9 : W1.cell? ⟨db, 9, none⟩ = some (.int .i64 T) := HK1.out.cell 9 rfl
    have e10 : W1.cell? ⟨db, 10, none⟩ = some (.int .i64 id) := HK1.out.cell 10 rfl
    go_wp2_with fail
    refine HN1.out.mono ?_
    rintro e w2 ⟨rfl, hb2⟩
    obtain ⟨W3, HW3⟩ : ∃ W3, Hid (W3 = w2.alloc (.cells #[.int .i64 0, .int .i64 0, .int .i64 0, .int .i64 0, .int .u32 0, .slice none 0 0] 64)) := ⟨_, rfl⟩
    obtain ⟨b1, HB1⟩ : ∃ b1, Hid (b1 = w2.heap.size) := ⟨_, rfl⟩
    have HBE3 : Hid (Below W1.heap.size W1 W3) := by (show Below _ _ _); rw [HW3.out]; exact hb2.trans ((below_new w2 _).mono hb2.size)
    have HV3 : Hid (Bk W3 b1 #[.int .i64 0, .int .i64 0, .int .i64 0, .int .i64 0, .int .u32 0, .slice none 0 0] 64) := by (show Bk _ _ _ _); rw [HW3.out, HB1.out]; exact Bk.new w2 _ _
    have HK3 : Hid (Bk W3 db #[.int .i64 3, .int .i64 p.kind, .int .i64 p.pub, .int .i64 p.sub, .int .i64 p.n_, .int .i64 p.fr, .int .i64 p.to_, .slice sa sn sc, .slice ia im ic, .int .i64 T, .int .i64 id, .int .u32 lk] 36) := HK1.out.stay HBE3.out
    have HN2 : Hid (Calls Tryz.prog 55 #[.pointer (some ⟨y, 0, none⟩), .int .i64 T, .int .i64 id] W3 fun e w' => e = .returned (.tuple #[.agg #[.int .i64 0, .int .i64 0, .int .i64 0, .int .i64 0, .int .u32 0, .slice none 0 0], .int .i64 2]) ∧ Below W3.heap.size W3 w') := ref_Next_bad W3 y HBAD.out
    clear hb2 e0 e9 e10
    go_upto_region 21 with fail
    rw [← HW3.out, ← HB1.out]
    have e0 : W3.cell? ⟨db, 0, none⟩ = some (.int .i64 3) := HK3.out.cell 0 rfl
    have e9 : W3.cell? ⟨db, 9, none⟩ = some (.int .i64 T) := HK3.out.cell 9 rfl
    have e10 : W3.cell? ⟨db, 10, none⟩ = some (.int .i64 id) := HK3.out.cell 10 rfl
    go_wp2_with fail
    refine HN2.out.mono ?_
    rintro e w4 ⟨rfl, hb4⟩
    obtain ⟨W5, HW5⟩ : ∃ W5, Hid (W5 = w4.alloc (.cells #[.int .i64 0, .int .i64 0, .int .i64 0, .int .i64 0, .int .u32 0, .slice none 0 0] 64)) := ⟨_, rfl⟩
    obtain ⟨b2, HB2⟩ : ∃ b2, Hid (b2 = w4.heap.size) := ⟨_, rfl⟩
    have HBE5 : Hid (Below W3.heap.size W3 W5) := by (show Below _ _ _); rw [HW5.out]; exact hb4.trans ((below_new w4 _).mono hb4.size)
    have HV5 : Hid (Bk W5 b2 #[.int .i64 0, .int .i64 0, .int .i64 0, .int .i64 0, .int .u32 0, .slice none 0 0] 64) := by (show Bk _ _ _ _); rw [HW5.out, HB2.out]; exact Bk.new w4 _ _
    have HU5 : Hid (Bk W5 b1 #[.int .i64 0, .int .i64 0, .int .i64 0, .int .i64 0, .int .u32 0, .slice none 0 0] 64) := HV3.out.stay HBE5.out
    have HSS : Hid (Calls Tryz.prog 56 #[.agg #[.int .i64 0, .int .i64 0, .int .i64 0, .int .i64 0, .int .u32 0, .slice none 0 0], .agg #[.int .i64 0, .int .i64 0, .int .i64 0, .int .i64 0, .int .u32 0, .slice none 0 0]] W5 fun e w' => e = .returned (.bool true) ∧ Below W5.heap.size W5 w') := ref_SameStep 0 0 0 ⟨0, 0, []⟩ none 0 none 0 W5 (BdOk.none_ W5) (BdOk.none_ W5) (by unfold ItIn; (show (_ ≤ (0 : Int) ∧ (0 : Int) ≤ _) ∧ ((0 : Int) ≤ 0 ∧ (0 : Int) ≤ _)); omega)
    clear hb4 e0 e9 e10
    go_upto_region 22 with fail
    rw [← HW5.out, ← HB2.out]
    have a0 : W5.cell? ⟨b1, 0, none⟩ = some (.int .i64 0) := HU5.out.cell 0 rfl
    have a1 : W5.cell? ⟨b1, 1, none⟩ = some (.int .i64 0) := HU5.out.cell 1 rfl
    have a2 : W5.cell? ⟨b1, 2, none⟩ = some (.int .i64 0) := HU5.out.cell 2 rfl
    have a3 : W5.cell? ⟨b1, 3, none⟩ = some (.int .i64 0) := HU5.out.cell 3 rfl
    have a4 : W5.cell? ⟨b1, 4, none⟩ = some (.int .u32 0) := HU5.out.cell 4 rfl
    have a5 : W5.cell? ⟨b1, 5, none⟩ = some (.slice none 0 0) := HU5.out.cell 5 rfl
    have d0 : W5.cell? ⟨b2, 0, none⟩ = some (.int .i64 0) := HV5.out.cell 0 rfl
    have d1 : W5.cell? ⟨b2, 1, none⟩ = some (.int .i64 0) := HV5.out.cell 1 rfl
    have d2 : W5.cell? ⟨b2, 2, none⟩ = some (.int .i64 0) := HV5.out.cell 2 rfl
    have d3 : W5.cell? ⟨b2, 3, none⟩ = some (.int .i64 0) := HV5.out.cell 3 rfl
    have d4 : W5.cell? ⟨b2, 4, none⟩ = some (.int .u32 0) := HV5.out.cell 4 rfl
    have d5 : W5.cell? ⟨b2, 5, none⟩ = some (.slice none 0 0) := HV5.out.cell 5 rfl
    go_wp2_with fail
    refine HSS.out.mono ?_
    rintro e w6 ⟨rfl, hb6⟩
    have HB6 : Hid (Below w.heap.size w w6) := ((HX1.out.trans (HBE3.out.mono HX1.out.size)).trans (HBE5.out.mono (Nat.le_trans HX1.out.size HBE3.out.size))).trans (hb6.mono (Nat.le_trans (Nat.le_trans HX1.out.size HBE3.out.size) HBE5.out.size))
    clear hb6 a0 a1 a2 a3 a4 a5 d0 d1 d2 d3 d4 d5
    go_wp2
    rw [HPO.out]
    exact ⟨rfl, ⟨L, X, HDU.out.stay HB6.out⟩, Tri.of_below s m y HB6.out⟩
set_option maxHeartbeats 8000000 in
theorem law_do_item {w : World} {s m y : Nat} {L : List Sp} {X : List It} (h : Duo ZT w s m y L X) (p : Pc) (sa : Option Addr) (sn sc : Nat) (ia : Option Addr) (im ic : Nat) (T id lk : Int) (hT : -9223372036854775808 ≤ T ∧ T ≤ 9223372036854775807) :
    Calls Tryz.prog 28 #[.pointer (some ⟨s, 0, none⟩), .pointer (some ⟨y, 0, none⟩), .agg #[.int .i64 4, .int .i64 p.kind, .int .i64 p.pub, .int .i64 p.sub, .int .i64 p.n_, .int .i64 p.fr, .int .i64 p.to_, .slice sa sn sc, .slice ia im ic, .int .i64 T, .int .i64 id, .int .u32 lk]] w fun e w' => DoTold s m y w e w' := by
  have HDU : Hid (Duo ZT w s m y L X) := h
  obtain ⟨⟨_, hsl, hml, _⟩, ⟨_, hyl⟩⟩ := And.intro h.imp.noInt h.ref.noInt
  have HLT : Hid (s < w.heap.size ∧ m < w.heap.size ∧ y < w.heap.size) := ⟨hsl, hml, hyl⟩
  obtain ⟨W1, HW1⟩ : ∃ W1, Hid (W1 = w.alloc (.cells #[.int .i64 4, .int .i64 p.kind, .int .i64 p.pub, .int .i64 p.sub, .int .i64 p.n_, .int .i64 p.fr, .int .i64 p.to_, .slice sa sn sc, .slice ia im ic, .int .i64 T, .int .i64 id, .int .u32 lk] 36)) := ⟨_, rfl⟩
  have HX1 : Hid (Below w.heap.size w W1) := by (show Below _ _ _); rw [HW1.out]; exact below_new w _
  have HK1 : Hid (Bk W1 w.heap.size #[.int .i64 4, .int .i64 p.kind, .int .i64 p.pub, .int .i64 p.sub, .int .i64 p.n_, .int .i64 p.fr, .int .i64 p.to_, .slice sa sn sc, .slice ia im ic, .int .i64 T, .int .i64 id, .int .u32 lk] 36) := by (show Bk _ _ _ _); rw [HW1.out]; exact Bk.new w _ _
  obtain ⟨db, HDB⟩ : ∃ db, Hid (db = w.heap.size) := ⟨_, rfl⟩
  have HK1 : Hid (Bk W1 db #[.int .i64 4, .int .i64 p.kind, .int .i64 p.pub, .int .i64 p.sub, .int .i64 p.n_, .int .i64 p.fr, .int .i64 p.to_, .slice sa sn sc, .slice ia im ic, .int .i64 T, .int .i64 id, .int .u32 lk] 36) := by (show Bk _ _ _ _); rw [HDB.out]; exact HK1.out
  have HNB : Hid (db ≠ s ∧ db ≠ m ∧ db ≠ y) := by have h1 := HLT.out; have h2 := HDB.out; (show _ ∧ _ ∧ _); omega
  have HDU1 : Hid (Duo ZT W1 s m y L X) := HDU.out.stay HX1.out
  obtain ⟨POST, HPO⟩ : ∃ P0 : Ending → World → Prop, Hid (P0 = fun e w' => DoTold s m y w e w') := ⟨_, rfl⟩
  have hpost : (fun e w' => DoTold s m y w e w') = fun e w' => POST e w' := HPO.out.symm
  rw [hpost]
  clear hpost h hsl hml hyl
  obtain ⟨q, HQ⟩ : ∃ q, Hid (q = (itemX X T).1) := ⟨_, rfl⟩
  obtain ⟨bb, HBB⟩ : ∃ b, Hid (b = (itemX X T).2) := ⟨_, rfl⟩
  obtain ⟨N, HN⟩ : ∃ N, Hid (q.body.length = N) := ⟨_, rfl⟩
  have HIN : Hid (ItIn q) := by (show ItIn q); rw [HQ.out]; exact itemX_in HDU.out.kn T
  have HN1 : Hid (Calls Tryz.prog 19 #[.pointer (some ⟨s, 0, none⟩), .int .i64 T] W1 fun e w' => (∃ ba bc, e = .returned (.tuple #[.agg #[.int .i64 q.tick, .int .u32 q.for_, .slice ba N bc], .bool bb]) ∧ BdOk w' ba N bc q.body) ∧ Below W1.heap.size W1 w') := by
    have := imp_Item HDU1.out.imp hT
    unfold ItemTo at this
    rw [← HQ.out, ← HBB.out, HN.out] at this
    exact this
  have HN2 : Hid (∀ W, Duo ZT W s m y L X → Calls Tryz.prog 57 #[.pointer (some ⟨y, 0, none⟩), .int .i64 T] W fun e w' => (∃ ba bc, e = .returned (.tuple #[.agg #[.int .i64 q.tick, .int .u32 q.for_, .slice ba N bc], .bool bb]) ∧ BdOk w' ba N bc q.body) ∧ Below W.heap.size W w') := fun W hW => by
    have := duo_Item hW.ref hW.kn T
    unfold ItemTo at this
    rw [← HQ.out, ← HBB.out, HN.out] at this
    exact this
  have kbb : (bb == bb) = true := by simp
  clear hT
  go_enter Tryz.func28, Tryz.ntmps28
  go_upto_region 1 with fail
  rw [← HW1.out, ← HDB.out]
  have e0 : W1.cell? ⟨db, 0, none⟩ = some (.int .i64 4) := HK1.out.cell 0 rfl
  have e9 : W1.cell? ⟨db, 9, none⟩ = some (.int .i64 T) := HK1.out.cell 9 rfl
  go_wp2_with fail
  refine HN1.out.mono ?_
  rintro e w2 ⟨⟨ba, bc, rfl, hbd⟩, hb2⟩
  obtain ⟨W3, HW3⟩ : ∃ W3, Hid (W3 = w2.alloc (.cells #[.int .i64 q.tick, .int .u32 q.for_, .slice ba N bc] 54)) := ⟨_, rfl⟩
  obtain ⟨b1, HB1⟩ : ∃ b1, Hid (b1 = w2.heap.size) := ⟨_, rfl⟩
  have HBE3 : Hid (Below W1.heap.size W1 W3) := by (show Below _ _ _); rw [HW3.out]; exact hb2.trans ((below_new w2 _).mono hb2.size)
  have HV3 : Hid (Bk W3 b1 #[.int .i64 q.tick, .int .u32 q.for_, .slice ba N bc] 54) := by (show Bk _ _ _ _); rw [HW3.out, HB1.out]; exact Bk.new w2 _ _
  have HBD3 : Hid (BdOk W3 ba N bc q.body) := by (show BdOk _ _ _ _ _); rw [HW3.out]; exact hbd.below (below_new w2 _)
  have HK3 : Hid (Bk W3 db #[.int .i64 4, .int .i64 p.kind, .int .i64 p.pub, .int .i64 p.sub, .int .i64 p.n_, .int .i64 p.fr, .int .i64 p.to_, .slice sa sn sc, .slice ia im ic, .int .i64 T, .int .i64 id, .int .u32 lk] 36) := HK1.out.stay HBE3.out
  have HDU3 : Hid (Duo ZT W3 s m y L X) := HDU1.out.stay HBE3.out
  have HN2W := HN2.out W3 HDU3.out
  have HN2W : Hid (Calls Tryz.prog 57 #[.pointer (some ⟨y, 0, none⟩), .int .i64 T] W3 fun e w' => (∃ ba bc, e = .returned (.tuple #[.agg #[.int .i64 q.tick, .int .u32 q.for_, .slice ba N bc], .bool bb]) ∧ BdOk w' ba N bc q.body) ∧ Below W3.heap.size W3 w') := HN2W
  clear hbd hb2 e0 e9
  go_upto_region 25 with fail
  rw [← HW3.out, ← HB1.out]
  have e0 : W3.cell? ⟨db, 0, none⟩ = some (.int .i64 4) := HK3.out.cell 0 rfl
  have e9 : W3.cell? ⟨db, 9, none⟩ = some (.int .i64 T) := HK3.out.cell 9 rfl
  go_wp2_with fail
  refine HN2W.out.mono ?_
  rintro e w4 ⟨⟨da, dc, rfl, hbd'⟩, hb4⟩
  obtain ⟨W5, HW5⟩ : ∃ W5, Hid (W5 = w4.alloc (.cells #[.int .i64 q.tick, .int .u32 q.for_, .slice da N dc] 54)) := ⟨_, rfl⟩
  obtain ⟨b2, HB2⟩ : ∃ b2, Hid (b2 = w4.heap.size) := ⟨_, rfl⟩
  have HBE5 : Hid (Below W3.heap.size W3 W5) := by (show Below _ _ _); rw [HW5.out]; exact hb4.trans ((below_new w4 _).mono hb4.size)
  have HV5 : Hid (Bk W5 b2 #[.int .i64 q.tick, .int .u32 q.for_, .slice da N dc] 54) := by (show Bk _ _ _ _); rw [HW5.out, HB2.out]; exact Bk.new w4 _ _
  have HU5 : Hid (Bk W5 b1 #[.int .i64 q.tick, .int .u32 q.for_, .slice ba N bc] 54) := HV3.out.stay HBE5.out
  have HBD5 : Hid (BdOk W5 ba N bc q.body) := HBD3.out.below HBE5.out
  have HBE5' : Hid (BdOk W5 da N dc q.body) := by (show BdOk _ _ _ _ _); rw [HW5.out]; exact hbd'.below (below_new w4 _)
  obtain ⟨W7, HW7⟩ : ∃ W7, Hid (W7 = (W5.alloc (.cells #[.int .i64 q.tick, .int .u32 q.for_, .slice ba N bc] 54)).alloc (.cells #[.int .i64 q.tick, .int .u32 q.for_, .slice da N dc] 54)) := ⟨_, rfl⟩
  have hs5 : (W5.alloc (.cells #[.int .i64 q.tick, .int .u32 q.for_, .slice ba N bc] 54)).heap.size = W5.heap.size + 1 := by simp
  have HBE7 : Hid (Below W5.heap.size W5 W7) := by (show Below _ _ _); rw [HW7.out]; exact (below_new W5 _).alloc (by omega) _
  have HA : Hid (ItsRd W7 (some ⟨W5.heap.size, 0, none⟩) 1 [q]) := its_one (by rw [HW7.out]; exact (Bk.new W5 _ _).stay (below_new _ _)) (HBD5.out.below HBE7.out) HIN.out
  have HB : Hid (ItsRd W7 (some ⟨W5.heap.size + 1, 0, none⟩) 1 [q]) := its_one (by rw [HW7.out, ← hs5]; exact Bk.new _ _ _) (HBE5'.out.below HBE7.out) HIN.out
  have HSS : Hid (Calls Tryz.prog 20 #[.slice (some ⟨W5.heap.size, 0, none⟩) 1 1, .slice (some ⟨W5.heap.size + 1, 0, none⟩) 1 1] W7 fun e w' => e = .returned (.bool true) ∧ Below W7.heap.size W7 w') := ref_SameItems _ _ 1 1 1 [q] W7 HA.out HB.out (by decide)
  clear hbd' hb4 e0 e9 hs5
  go_upto_region 26 with fail
  rw [← HW5.out, ← HB2.out]
  have a0 : W5.cell? ⟨b1, 0, none⟩ = some (.int .i64 q.tick) := HU5.out.cell 0 rfl
  have a1 : W5.cell? ⟨b1, 1, none⟩ = some (.int .u32 q.for_) := HU5.out.cell 1 rfl
  have a2 : W5.cell? ⟨b1, 2, none⟩ = some (.slice ba N bc) := HU5.out.cell 2 rfl
  have d0 : W5.cell? ⟨b2, 0, none⟩ = some (.int .i64 q.tick) := HV5.out.cell 0 rfl
  have d1 : W5.cell? ⟨b2, 1, none⟩ = some (.int .u32 q.for_) := HV5.out.cell 1 rfl
  have d2 : W5.cell? ⟨b2, 2, none⟩ = some (.slice da N dc) := HV5.out.cell 2 rfl
  have HWS : Hid (Below W5.heap.size W5 (W5.alloc (.cells #[.int .i64 q.tick, .int .u32 q.for_, .slice ba N bc] 54))) := below_new W5 _
  have d0' : (W5.alloc (.cells #[.int .i64 q.tick, .int .u32 q.for_, .slice ba N bc] 54)).cell? ⟨b2, 0, none⟩ = some (.int .i64 q.tick) := (HV5.out.stay HWS.out).cell 0 rfl
  have d1' : (W5.alloc (.cells #[.int .i64 q.tick, .int .u32 q.for_, .slice ba N bc] 54)).cell? ⟨b2, 1, none⟩ = some (.int .u32 q.for_) := (HV5.out.stay HWS.out).cell 1 rfl
  have d2' : (W5.alloc (.cells #[.int .i64 q.tick, .int .u32 q.for_, .slice ba N bc] 54)).cell? ⟨b2, 2, none⟩ = some (.slice da N dc) := (HV5.out.stay HWS.out).cell 2 rfl
  go_wp2_with fail
  rw [← HW7.out]
  refine HSS.out.mono ?_
  rintro e w8 ⟨rfl, hb8⟩
  have HX5 : Hid (Below w.heap.size w W5) := (HX1.out.trans (HBE3.out.mono HX1.out.size)).trans (HBE5.out.mono (Nat.le_trans HX1.out.size HBE3.out.size))
  have HB8 : Hid (Below w.heap.size w w8) := (HX5.out.trans (HBE7.out.mono HX5.out.size)).trans (hb8.mono (Nat.le_trans HX5.out.size HBE7.out.size))
  clear hb8 a0 a1 a2 d0 d1 d2 d0' d1' d2'
  go_wp2
  rw [HPO.out]
  exact ⟨rfl, ⟨L, X, HDU.out.stay HB8.out⟩, Tri.of_below s m y HB8.out⟩
end Go.Proofs.YtidihfhgnjkmaaaGreat
/- grapevinelaw15.do: what is known is told. -/
namespace Go.Proofs.YtidihfhgnjkmaaaGreat
set_option maxRecDepth 100000
open Go.RowKit
variable {Z : Nat → Prop}

theorem Tells.nil_ (w : World) (base : Nat) : Tells Z w base (.slice none 0 0) [] := ⟨World.ownsRow_nil _ _ _ _, fun x hx => by cases hx⟩
/-- What may be spoilt of what was told: all but the row itself. -/
def SpS (lo hi : Nat) (v : Value) (k : Nat) : Prop := lo ≤ k ∧ k < hi ∧ some k ≠ v.ownBlock
theorem Tells.spoil {w w' : World} {base : Nat} {v : Value} {l : List Pa} (h : Tells (fun k => base ≤ k) w base v l) {q : Pa} (hq : q ∈ l) (hb : Below w.heap.size w w') : ItR (SpS base w.heap.size v) w' q.ia q.im ∧ SpR (SpS base w.heap.size v) w' q.sa q.sn := by
  obtain ⟨h1, h2⟩ := (h.each q hq).spoil (S := fun k => base ≤ k ∧ k < w.heap.size) (fun k h1 h2 => ⟨h1, h2⟩) (fun k h1 h2 => ⟨h1, h2⟩)
  have hne : ∀ (k : Nat) (cs : Array Value) (t : TypeId) m, w.heap[k]? = some (.cells cs t m) → t ≠ 33 → some k ≠ v.ownBlock := fun k cs t m hc ht e => by
    obtain ⟨c, m', hr⟩ := row_type h.row e.symm
    rw [hc] at hr
    simp only [Option.some.injEq, Obj.cells.injEq] at hr
    exact ht hr.2.1
  exact ⟨(h1.refine_ (S' := SpS base w.heap.size v) (fun k cs m hs hc => ⟨hs.1, hs.2, hne k cs _ m hc (by decide)⟩) (fun k cs m hs hc => ⟨hs.1, hs.2, hne k cs _ m hc (by decide)⟩)).below hb, (h2.refine_ (S' := SpS base w.heap.size v) (fun k cs m hs hc => ⟨hs.1, hs.2, hne k cs _ m hc (by decide)⟩)).below hb⟩
set_option maxHeartbeats 16000000 in
theorem law_do_tell {w : World} {s m y : Nat} {L : List Sp} {X : List It} (h : Duo ZT w s m y L X) (p : Pc) (sa : Option Addr) (sn sc : Nat) (ia : Option Addr) (im ic : Nat) (T id lk : Int) (hlk : 0 ≤ lk ∧ lk ≤ 4294967295) :
    Calls Tryz.prog 28 #[.pointer (some ⟨s, 0, none⟩), .pointer (some ⟨y, 0, none⟩), .agg #[.int .i64 2, .int .i64 p.kind, .int .i64 p.pub, .int .i64 p.sub, .int .i64 p.n_, .int .i64 p.fr, .int .i64 p.to_, .slice sa sn sc, .slice ia im ic, .int .i64 T, .int .i64 id, .int .u32 lk]] w fun e w' => DoTold s m y w e w' := by
  have HDU : Hid (Duo ZT w s m y L X) := h
  obtain ⟨⟨_, hsl, hml, _⟩, ⟨_, hyl⟩⟩ := And.intro h.imp.noInt h.ref.noInt
  have HLT : Hid (s < w.heap.size ∧ m < w.heap.size ∧ y < w.heap.size) := ⟨hsl, hml, hyl⟩
  obtain ⟨W1, HW1⟩ : ∃ W1, Hid (W1 = w.alloc (.cells #[.int .i64 2, .int .i64 p.kind, .int .i64 p.pub, .int .i64 p.sub, .int .i64 p.n_, .int .i64 p.fr, .int .i64 p.to_, .slice sa sn sc, .slice ia im ic, .int .i64 T, .int .i64 id, .int .u32 lk] 36)) := ⟨_, rfl⟩
  have HX1 : Hid (Below w.heap.size w W1) := by (show Below _ _ _); rw [HW1.out]; exact below_new w _
  have HK1 : Hid (Bk W1 w.heap.size #[.int .i64 2, .int .i64 p.kind, .int .i64 p.pub, .int .i64 p.sub, .int .i64 p.n_, .int .i64 p.fr, .int .i64 p.to_, .slice sa sn sc, .slice ia im ic, .int .i64 T, .int .i64 id, .int .u32 lk] 36) := by (show Bk _ _ _ _); rw [HW1.out]; exact Bk.new w _ _
  obtain ⟨db, HDB⟩ : ∃ db, Hid (db = w.heap.size) := ⟨_, rfl⟩
  have HK1 : Hid (Bk W1 db #[.int .i64 2, .int .i64 p.kind, .int .i64 p.pub, .int .i64 p.sub, .int .i64 p.n_, .int .i64 p.fr, .int .i64 p.to_, .slice sa sn sc, .slice ia im ic, .int .i64 T, .int .i64 id, .int .u32 lk] 36) := by (show Bk _ _ _ _); rw [HDB.out]; exact HK1.out
  have HNB : Hid (db ≠ s ∧ db ≠ m ∧ db ≠ y) := by have h1 := HLT.out; have h2 := HDB.out; (show _ ∧ _ ∧ _); omega
  have HDU1 : Hid (Duo ZT W1 s m y L X) := HDU.out.stay HX1.out
  obtain ⟨POST, HPO⟩ : ∃ P0 : Ending → World → Prop, Hid (P0 = fun e w' => DoTold s m y w e w') := ⟨_, rfl⟩
  have hpost : (fun e w' => DoTold s m y w e w') = fun e w' => POST e w' := HPO.out.symm
  rw [hpost]
  clear hpost h hsl hml hyl
  by_cases hm : mayT p.pub p.fr p.to_
  · have HMT : Hid (mayT p.pub p.fr p.to_) := hm
    have HLK : Hid (0 ≤ lk ∧ lk ≤ 4294967295) := hlk
    have HTL : Hid (Calls Tryz.prog 10 #[.pointer (some ⟨s, 0, none⟩), .int .i64 p.pub, .int .i64 p.fr, .int .i64 p.to_, .int .u32 lk] W1 fun e w' => TellTold (fun k => W1.heap.size ≤ k) L X lk p.pub p.fr p.to_ W1 e w') := st_Tell HDU1.out.imp hm
    clear hm hlk
    go_enter Tryz.func28, Tryz.ntmps28
    go_upto_region 1 with fail
    rw [← HW1.out, ← HDB.out]
    have e0 : W1.cell? ⟨db, 0, none⟩ = some (.int .i64 2) := HK1.out.cell 0 rfl
    have e2 : W1.cell? ⟨db, 2, none⟩ = some (.int .i64 p.pub) := HK1.out.cell 2 rfl
    have e5 : W1.cell? ⟨db, 5, none⟩ = some (.int .i64 p.fr) := HK1.out.cell 5 rfl
    have e6 : W1.cell? ⟨db, 6, none⟩ = some (.int .i64 p.to_) := HK1.out.cell 6 rfl
    have e11 : W1.cell? ⟨db, 11, none⟩ = some (.int .u32 lk) := HK1.out.cell 11 rfl
    go_wp2_with fail
    refine HTL.out.mono ?_
    rintro e w2 ⟨⟨va, vn, vc, l, P, rfl, hT, hP, hl⟩, hb2⟩
    have HT2 : Hid (Tells (fun k => W1.heap.size ≤ k) w2 W1.heap.size (.slice va vn vc) l) := hT
    have HPP : Hid (PiecesOf L X lk p.fr p.to_ P ∧ l.map Pa.p = tellsOf p.pub p.fr p.to_ P) := ⟨hP, hl⟩
    have HB2 : Hid (Below W1.heap.size W1 w2) := hb2
    have HDU2 : Hid (Duo (fun k => k < W1.heap.size ∨ w2.heap.size ≤ k) w2 s m y L X) := HDU1.out.over hb2 (fun k hk _ => .inl hk) (fun k hk => .inr hk)
    have HK2 : Hid (Bk w2 db #[.int .i64 2, .int .i64 p.kind, .int .i64 p.pub, .int .i64 p.sub, .int .i64 p.n_, .int .i64 p.fr, .int .i64 p.to_, .slice sa sn sc, .slice ia im ic, .int .i64 T, .int .i64 id, .int .u32 lk] 36) := HK1.out.stay hb2
    have HLN : Hid (l.length = vn ∧ vn ≤ vc ∧ vc ≤ maxLen) := hT.len
    have HRL : Hid (Calls Tryz.prog 53 #[.pointer (some ⟨y, 0, none⟩), .int .i64 p.pub, .int .i64 p.fr, .int .i64 p.to_, .int .u32 lk] w2 fun e w' => TellTold (fun k => k < W1.heap.size ∨ w2.heap.size ≤ k) L X lk p.pub p.fr p.to_ w2 e w') := duo_Tell HDU2.out.ref HDU2.out.kn HDU2.out.few HMT.out HLK.out
    clear hT hP hl hb2 e0 e2 e5 e6 e11
    have e0 : w2.cell? ⟨db, 0, none⟩ = some (.int .i64 2) := HK2.out.cell 0 rfl
    have e2 : w2.cell? ⟨db, 2, none⟩ = some (.int .i64 p.pub) := HK2.out.cell 2 rfl
    have e5 : w2.cell? ⟨db, 5, none⟩ = some (.int .i64 p.fr) := HK2.out.cell 5 rfl
    have e6 : w2.cell? ⟨db, 6, none⟩ = some (.int .i64 p.to_) := HK2.out.cell 6 rfl
    have e11 : w2.cell? ⟨db, 11, none⟩ = some (.int .u32 lk) := HK2.out.cell 11 rfl
    go_wp2_with fail
    refine HRL.out.mono ?_
    rintro e w3 ⟨⟨ua, un, uc, l2, P2, rfl, hT2, hP2, hl2⟩, hb3⟩
    have hPP : P2 = P := hP2.uniq HPP.out.1
    subst hPP
    have HB3 : Hid (Below w2.heap.size w2 w3) := hb3
    have HPA : Hid (Calls Tryz.prog 54 #[.slice va vn vc, .slice ua un uc] w3 fun e w' => e = .returned (.bool true) ∧ Below w3.heap.size w3 w') := law_parcels (HT2.out.below hb3) hT2 (HPP.out.2.trans hl2.symm) (fun k hk => hk) (fun k hk => .inr hk)
    clear hT2 hP2 hl2 hb3 e0 e2 e5 e6 e11
    go_wp2_with fail
    refine HPA.out.mono ?_
    rintro e w4 ⟨rfl, hb4⟩
    have HB4 : Hid (Below w2.heap.size w2 w4) := HB3.out.trans (hb4.mono HB3.out.size)
    have HDU4 : Hid (Duo (fun k => k < W1.heap.size ∨ w2.heap.size ≤ k) w4 s m y L X) := HDU2.out.stay HB4.out
    have hvn : vn ≤ 9223372036854775807 := by have := HLN.out; unfold maxLen at this; omega
    clear hb4
    go_wp2
    go_loopw [17] (fun t17 wr => ∃ i : Nat, t17 = .int .i64 (i : Int) ∧ i ≤ vn ∧ Hid (Spk (SpS W1.heap.size w2.heap.size (.slice va vn vc)) w4 wr)) (fun t17 _ => vn - (intOf t17).toNat)
    case atStart => exact ⟨0, rfl, Nat.zero_le _, Spk.refl _⟩
    case round =>
      obtain ⟨i, rfl, hi, HS⟩ := hrel
      obtain ⟨w5, rfl⟩ : ∃ w5, w5 = wr := ⟨wr, rfl⟩
      by_cases hlt : i < vn
      · have hlt' : (i : Int) < (vn : Int) := by omega
        have gi : (0 : Int) ≤ (i : Int) := by omega
        obtain ⟨q1, hq1⟩ : ∃ x, l[i]? = some x := ⟨l[i]'(by rw [HLN.out.1]; exact hlt), List.getElem?_eq_getElem _⟩
        obtain ⟨hi1, hs1⟩ := HT2.out.spoil (List.mem_of_getElem? hq1) HB4.out
        have hi5 := HS.out.it _ _ hi1
        have hs5 := HS.out.sp _ _ hs1
        obtain ⟨hpl, hpm⟩ : q1.im ≤ maxLen ∧ q1.sn ≤ maxLen := by
          have hr := (HT2.out.each q1 (List.mem_of_getElem? hq1)).rd (fun k hk => hk)
          exact ⟨Nat.le_trans hr.il hr.im_, Nat.le_trans hr.sl hr.sm⟩
        obtain ⟨g, rfl, hg, hgc⟩ := HT2.out.spot hq1
        obtain ⟨pp, sa', sn', sc', sia, sim, sic⟩ := q1
        have HSPC : Hid (Calls Tryz.prog 51 #[.agg #[.int .i64 pp.kind, .int .i64 pp.pub, .int .i64 pp.sub, .int .i64 pp.n_, .int .i64 pp.fr, .int .i64 pp.to_, .slice sa' sn' sc', .slice sia sim sic]] w5 fun e w' => e = .returned (.tuple #[]) ∧ Spk (SpS W1.heap.size w2.heap.size (.slice (some ⟨g, 0, none⟩) vn vc)) w5 w') := law_spoil _ _ _ _ _ _ sa' sn' sc' sia sim sic w5 hi5 hs5 hpl hpm (fun k hk h => by have h1 := h.2.1; have h2 := HS.out.spt.size; have h3 := HB4.out.size; omega)
        have hgb : w5.heap[g]? = w2.heap[g]? := (HS.out.spt.block g (Nat.lt_of_lt_of_le hg HB4.out.size) (fun h => h.2.2 rfl)).trans (HB4.out.block g hg)
        have hcc : ∀ j, j < 8 → w5.cell? ⟨g, i * 8 + j, none⟩ = (pacel (⟨pp, sa', sn', sc', sia, sim, sic⟩ : Pa))[j]? := fun j hj => by rw [cell_same hgb, ← hgc j hj, Nat.zero_add]
        have r0 : w5.cell? ⟨g, i * 8, none⟩ = some (.int .i64 pp.kind) := hcc 0 (by omega)
        have r1 : w5.cell? ⟨g, i * 8 + 1, none⟩ = some (.int .i64 pp.pub) := hcc 1 (by omega)
        have r2 : w5.cell? ⟨g, i * 8 + 2, none⟩ = some (.int .i64 pp.sub) := hcc 2 (by omega)
        have r3 : w5.cell? ⟨g, i * 8 + 3, none⟩ = some (.int .i64 pp.n_) := hcc 3 (by omega)
        have r4 : w5.cell? ⟨g, i * 8 + 4, none⟩ = some (.int .i64 pp.fr) := hcc 4 (by omega)
        have r5 : w5.cell? ⟨g, i * 8 + 5, none⟩ = some (.int .i64 pp.to_) := hcc 5 (by omega)
        have r6 : w5.cell? ⟨g, i * 8 + 6, none⟩ = some (.slice sa' sn' sc') := hcc 6 (by omega)
        have r7 : w5.cell? ⟨g, i * 8 + 7, none⟩ = some (.slice sia sim sic) := hcc 7 (by omega)
        clear hq1 hi1 hs1 hi5 hs5 hpl hpm hg hgc hgb hcc
        go_wp2_with fail
        refine HSPC.out.mono ?_
        rintro e w6 ⟨rfl, hs6⟩
        have HS6 : Hid (Spk (SpS W1.heap.size w2.heap.size (.slice (some ⟨g, 0, none⟩) vn vc)) w4 w6) := HS.out.trans hs6
        clear hs6 r0 r1 r2 r3 r4 r5 r6 r7
        go_wp2
        go_roundw
        case rel => exact ⟨i + 1, by go_num, by omega, HS6⟩
        case measure => simp [intOf]; omega
      · have hnl : ¬ (i : Int) < (vn : Int) := by omega
        have HFD : Hid (Duo ZT w5 s m y L X) := by
          have hlt := HLT.out
          have hx1 := HX1.out.size
          exact (HDU4.out.spt HS.out.spt (fun k hk h => by have h1 := h.1; have h2 := h.2.1; rcases hk with hk | hk <;> omega) ⟨fun h => by have h1 := h.1; omega, fun h => by have h1 := h.1; omega, fun h => by have h1 := h.1; omega⟩).reZ (fun _ _ _ => trivial) (fun _ _ => trivial)
        have HFT : Hid (Tri ZT s m y w w5) := by
          have hx1 := HX1.out.size
          have hx2 := HB2.out.size
          exact (Tri.of_below s m y ((HX1.out.trans (HB2.out.mono hx1)).trans (HB4.out.mono (Nat.le_trans hx1 hx2)))).of_spt HS.out.spt (fun k hk h => by have h1 := h.1; omega)
        go_wp2
        rw [HPO.out]
        exact ⟨rfl, ⟨L, X, HFD.out⟩, HFT.out⟩
  · have HMT : Hid (¬ mayT p.pub p.fr p.to_) := hm
    have HTL : Hid (Calls Tryz.prog 10 #[.pointer (some ⟨s, 0, none⟩), .int .i64 p.pub, .int .i64 p.fr, .int .i64 p.to_, .int .u32 lk] W1 fun e w' => e = .returned (.tuple #[.slice none 0 0, .int .i64 2]) ∧ Below W1.heap.size W1 w') := st_Tell_bad W1 s hm
    clear hm hlk
    go_enter Tryz.func28, Tryz.ntmps28
    go_upto_region 1 with fail
    rw [← HW1.out, ← HDB.out]
    have e0 : W1.cell? ⟨db, 0, none⟩ = some (.int .i64 2) := HK1.out.cell 0 rfl
    have e2 : W1.cell? ⟨db, 2, none⟩ = some (.int .i64 p.pub) := HK1.out.cell 2 rfl
    have e5 : W1.cell? ⟨db, 5, none⟩ = some (.int .i64 p.fr) := HK1.out.cell 5 rfl
    have e6 : W1.cell? ⟨db, 6, none⟩ = some (.int .i64 p.to_) := HK1.out.cell 6 rfl
    have e11 : W1.cell? ⟨db, 11, none⟩ = some (.int .u32 lk) := HK1.out.cell 11 rfl
    go_wp2_with fail
    refine HTL.out.mono ?_
    rintro e w2 ⟨rfl, hb2⟩
    have HB2 : Hid (Below W1.heap.size W1 w2) := hb2
    have HK2 : Hid (Bk w2 db #[.int .i64 2, .int .i64 p.kind, .int .i64 p.pub, .int .i64 p.sub, .int .i64 p.n_, .int .i64 p.fr, .int .i64 p.to_, .slice sa sn sc, .slice ia im ic, .int .i64 T, .int .i64 id, .int .u32 lk] 36) := HK1.out.stay hb2
    have HRL : Hid (Calls Tryz.prog 53 #[.pointer (some ⟨y, 0, none⟩), .int .i64 p.pub, .int .i64 p.fr, .int .i64 p.to_, .int .u32 lk] w2 fun e w' => e = .returned (.tuple #[.slice none 0 0, .int .i64 2]) ∧ Below w2.heap.size w2 w') := ref_Tell_bad w2 y HMT.out
    clear hb2 e0 e2 e5 e6 e11
    have e0 : w2.cell? ⟨db, 0, none⟩ = some (.int .i64 2) := HK2.out.cell 0 rfl
    have e2 : w2.cell? ⟨db, 2, none⟩ = some (.int .i64 p.pub) := HK2.out.cell 2 rfl
    have e5 : w2.cell? ⟨db, 5, none⟩ = some (.int .i64 p.fr) := HK2.out.cell 5 rfl
    have e6 : w2.cell? ⟨db, 6, none⟩ = some (.int .i64 p.to_) := HK2.out.cell 6 rfl
    have e11 : w2.cell? ⟨db, 11, none⟩ = some (.int .u32 lk) := HK2.out.cell 11 rfl
    go_wp2_with fail
    refine HRL.out.mono ?_
    rintro e w3 ⟨rfl, hb3⟩
    have HB3 : Hid (Below w2.heap.size w2 w3) := hb3
    have HPA : Hid (Calls Tryz.prog 54 #[.slice none 0 0, .slice none 0 0] w3 fun e w' => e = .returned (.bool true) ∧ Below w3.heap.size w3 w') := law_parcels (Z := ZT) (Z' := ZT) (Tells.nil_ w3 0) (Tells.nil_ w3 0) rfl (fun _ _ => trivial) (fun _ _ => trivial)
    clear hb3 e0 e2 e5 e6 e11
    go_wp2_with fail
    refine HPA.out.mono ?_
    rintro e w4 ⟨rfl, hb4⟩
    have HB4 : Hid (Below w.heap.size w w4) := ((HX1.out.trans (HB2.out.mono HX1.out.size)).trans (HB3.out.mono (Nat.le_trans HX1.out.size HB2.out.size))).trans (hb4.mono (Nat.le_trans (Nat.le_trans HX1.out.size HB2.out.size) HB3.out.size))
    clear hb4
    go_wp2
    go_loopw [17] (fun t17 wr => t17 = .int .i64 0 ∧ wr = w4) (fun _ _ => 0)
    case atStart => exact ⟨rfl, rfl⟩
    case round =>
      obtain ⟨rfl, rfl⟩ := hrel
      go_wp2
      rw [HPO.out]
      exact ⟨rfl, ⟨L, X, HDU.out.stay HB4.out⟩, Tri.of_below s m y HB4.out⟩
end Go.Proofs.YtidihfhgnjkmaaaGreat
/- grapevinelaw15.same: both sides know the same. -/
namespace Go.Proofs.YtidihfhgnjkmaaaGreat
set_option maxRecDepth 100000
open Go.RowKit
variable {Z : Nat → Prop}

set_option maxHeartbeats 8000000 in
theorem law_same {w : World} {s m y : Nat} {L : List Sp} {X : List It} (h : Duo Z w s m y L X) :
    Calls Tryz.prog 29 #[.pointer (some ⟨s, 0, none⟩), .pointer (some ⟨y, 0, none⟩)] w fun e w' => e = .returned (.bool true) ∧ Below w.heap.size w w' := by
  have HDU : Hid (Duo Z w s m y L X) := h
  have HM1 : Hid (Calls Tryz.prog 18 #[.pointer (some ⟨s, 0, none⟩)] w fun e w' => MapTold w.heap.size L X w e w') := imp_Map h.imp
  obtain ⟨R, la, ln, lc, xa, xn, xc, hst, hRX⟩ := h.ref
  have HST : Hid (Rst Z w y L R la ln lc xa xn xc) := hst
  have HRX : Hid (R.map Prod.fst = X) := hRX
  have hxn : xn ≤ 64 := Ref.short hst hRX h.few
  have HXC : Hid (xn ≤ xc ∧ xc ≤ maxLen) := ⟨hst.xl, hst.xm⟩
  clear h hst hRX
  go_enter Tryz.func29, Tryz.ntmps29
  go_wp2_with fail
  refine HM1.out.mono ?_
  rintro e w2 ⟨⟨a1, n1, c1, l1, rfl, hm1, hk1⟩, hb2⟩
  have HO1 : Hid (MapOk w2 a1 n1 c1 l1 ∧ ∀ t, atS l1 t = kk L X t) := ⟨hm1, hk1⟩
  have HB2 : Hid (Below w.heap.size w w2) := hb2
  have HM2 : Hid (Calls Tryz.prog 16 #[.pointer (some ⟨y, 0, none⟩)] w2 fun e w' => MapTold w2.heap.size L X w2 e w') := duo_Map (HDU.out.stay hb2).ref HDU.out.kn HDU.out.few
  clear hm1 hk1 hb2
  go_wp2_with fail
  refine HM2.out.mono ?_
  rintro e w3 ⟨⟨a2, n2, c2, l2, rfl, hm2, hk2⟩, hb3⟩
  have HS3 : Hid (Calls Tryz.prog 17 #[.slice a1 n1 c1, .slice a2 n2 c2] w3 fun e w' => e = .returned (.bool true) ∧ Below w3.heap.size w3 w') := ref_Same_ok (HO1.out.1.below hb3) hm2 (fun t => (HO1.out.2 t).trans (hk2 t).symm)
  have HB3 : Hid (Below w.heap.size w w3) := HB2.out.trans (hb3.mono HB2.out.size)
  clear hm2 hk2 hb3
  go_wp2_with fail
  refine HS3.out.mono ?_
  rintro e w4 ⟨rfl, hb4⟩
  have HB4 : Hid (Below w.heap.size w w4) := HB3.out.trans (hb4.mono HB3.out.size)
  clear hb4
  go_wp2
  go_loopw [5, 6, 7] (fun t5 _ _ wr => ∃ i : Nat, t5 = .int .i64 (i : Int) ∧ i ≤ xn ∧ Hid (Below w.heap.size w wr)) (fun t5 _ _ _ => xn - (intOf t5).toNat)
  case atStart => exact ⟨0, rfl, Nat.zero_le _, HB4⟩
  case round =>
    clear HB2 HB3 HB4
    obtain ⟨i, rfl, hi, HB⟩ := hrel
    obtain ⟨w5, rfl⟩ : ∃ w5, w5 = wr := ⟨wr, rfl⟩
    have y1 : w5.cell? ⟨y, 1, none⟩ = some (.slice xa xn xc) := (HST.out.stay HB.out).blk.cell 1 rfl
    by_cases hlt : i < xn
    · have hlt' : (i : Int) < (xn : Int) := by omega
      have gi : (0 : Int) ≤ (i : Int) := by omega
      obtain ⟨x, hx⟩ : ∃ x, R[i]? = some x := ⟨R[i]'(by rw [HST.out.its.size]; exact hlt), List.getElem?_eq_getElem _⟩
      obtain ⟨g, o, rfl, hg, hc⟩ : ∃ g o, xa = some ⟨g, o, none⟩ ∧ g < w.heap.size ∧ ∀ (i : Nat) x, R[i]? = some x → w.cell? ⟨g, o + i * 3, none⟩ = some (.int .i64 x.1.tick) ∧ w.cell? ⟨g, o + i * 3 + 1, none⟩ = some (.int .u32 x.1.for_) ∧ w.cell? ⟨g, o + i * 3 + 2, none⟩ = some (.slice x.2.1 x.2.2.1 x.2.2.2) := by
        rcases HST.out.its.cells with h0 | ⟨g, o, ha, hg, _, hc⟩
        · rw [h0] at hx; cases hx
        · exact ⟨g, o, ha, hg, hc⟩
      have hm : x.1 ∈ X := by rw [← HRX.out]; exact List.mem_map.2 ⟨x, List.mem_of_getElem? hx, rfl⟩
      have hgi := getI_mem HDU.out.kn.rise hm
      have hea := HDU.out.kn.each x.1 hm
      obtain ⟨N, HN⟩ : ∃ N, Hid (x.1.body.length = N) := ⟨_, rfl⟩
      have HIN : Hid (ItIn x.1) := by (show ItIn x.1); unfold ItIn; omega
      have HIT : Hid (Calls Tryz.prog 19 #[.pointer (some ⟨s, 0, none⟩), .int .i64 x.1.tick] w5 fun e w' => (∃ ba bc, e = .returned (.tuple #[.agg #[.int .i64 x.1.tick, .int .u32 x.1.for_, .slice ba N bc], .bool true]) ∧ BdOk w' ba N bc x.1.body) ∧ Below w5.heap.size w5 w') := by
        have h1 := imp_Item (HDU.out.stay HB.out).imp (t := x.1.tick) (by omega)
        have h2 : itemX X x.1.tick = (x.1, true) := by unfold itemX; rw [hgi]
        unfold ItemTo at h1
        rw [h2] at h1
        simp only at h1
        rw [HN.out] at h1
        exact h1
      have HCE : Hid (∀ W, Below w.heap.size w W → ItsRd W (some ⟨g, o + i * 3, none⟩) 1 [x.1]) := fun W hW => by
        have hc2 := hc i x hx
        have hbo := (HST.out.stay hW).its.bod x (List.mem_of_getElem? hx)
        refine ⟨rfl, .inr ⟨g, o + i * 3, rfl, Nat.lt_of_lt_of_le hg hW.size, fun j z hz => ?_⟩, fun z hz => by rw [List.mem_singleton.1 hz]; exact HIN.out⟩
        have hj0 : j = 0 := by have := (List.getElem?_eq_some_iff.1 hz).1; simp at this; exact this
        subst hj0
        simp only [List.getElem?_cons_zero, Option.some.injEq] at hz
        subst hz
        rw [hW.cell (p := ⟨g, o + i * 3 + 0 * 3, none⟩) hg, hW.cell (p := ⟨g, o + i * 3 + 0 * 3 + 1, none⟩) hg, hW.cell (p := ⟨g, o + i * 3 + 0 * 3 + 2, none⟩) hg]
        exact ⟨hc2.1, hc2.2.1, _, _, _, hc2.2.2, hbo.rd, hbo.nil_, hbo.lc, by have := hbo.cm; omega⟩
      have x0 : w5.cell? ⟨g, o + i * 3, none⟩ = some (.int .i64 x.1.tick) := by rw [HB.out.cell (p := ⟨g, o + i * 3, none⟩) hg]; exact (hc i x hx).1
      clear hx hc hg hm hgi hea
      go_wp2_with fail
      refine HIT.out.mono ?_
      rintro e w6 ⟨⟨ba, bc, rfl, hbd⟩, hb6⟩
      obtain ⟨W7, HW7⟩ : ∃ W7, Hid (W7 = w6.alloc (.cells #[.int .i64 x.1.tick, .int .u32 x.1.for_, .slice ba N bc] 54)) := ⟨_, rfl⟩
      obtain ⟨b1, HB1⟩ : ∃ b1, Hid (b1 = w6.heap.size) := ⟨_, rfl⟩
      have HBE7 : Hid (Below w5.heap.size w5 W7) := by (show Below _ _ _); rw [HW7.out]; exact hb6.trans ((below_new w6 _).mono hb6.size)
      have HV7 : Hid (Bk W7 b1 #[.int .i64 x.1.tick, .int .u32 x.1.for_, .slice ba N bc] 54) := by (show Bk _ _ _ _); rw [HW7.out, HB1.out]; exact Bk.new w6 _ _
      have HBD7 : Hid (BdOk W7 ba N bc x.1.body) := by (show BdOk _ _ _ _ _); rw [HW7.out]; exact hbd.below (below_new w6 _)
      have HX7 : Hid (Below w.heap.size w W7) := HB.out.trans (HBE7.out.mono HB.out.size)
      clear hbd hb6 y1 x0
      go_upto_region 7 with fail
      rw [← HW7.out, ← HB1.out]
      have HSW : Hid (∀ W, Below W7.heap.size W7 W → W.cell? ⟨b1, 0, none⟩ = some (.int .i64 x.1.tick) ∧ W.cell? ⟨b1, 1, none⟩ = some (.int .u32 x.1.for_) ∧ W.cell? ⟨b1, 2, none⟩ = some (.slice ba N bc) ∧ W.cell? ⟨y, 1, none⟩ = some (.slice (some ⟨g, o, none⟩) xn xc)) := fun W hW => ⟨(HV7.out.stay hW).cell 0 rfl, (HV7.out.stay hW).cell 1 rfl, (HV7.out.stay hW).cell 2 rfl, (HST.out.stay (HX7.out.trans (hW.mono HX7.out.size))).blk.cell 1 rfl⟩
      have hxc : ¬ xc = i := by have := HXC.out; omega
      have hxc2 : i < xc := by have := HXC.out; omega
      have hxc3 : (i : Int) + 1 ≤ (xc : Int) := by omega
      have hxc4 : (i : Int) ≤ (i : Int) + 1 := by omega
      have hwi : IntKind.i64.wrap ((i : Int) + 1) = (i : Int) + 1 := i64_in _ ⟨by omega, by omega⟩
      refine wp_region_held_drew (S := fun w' => w'.cell? ⟨b1, 0, none⟩ = some (.int .i64 x.1.tick) ∧ w'.cell? ⟨b1, 1, none⟩ = some (.int .u32 x.1.for_) ∧ w'.cell? ⟨b1, 2, none⟩ = some (.slice ba N bc) ∧ w'.cell? ⟨y, 1, none⟩ = some (.slice (some ⟨g, o, none⟩) xn xc)) (by kernel_rfl) (HSW.out _ (Below.refl _ _).drew) (fun hHeld => ?_)
      obtain ⟨wd, HWD⟩ : ∃ W, Hid (W = W7.drew) := ⟨_, rfl⟩
      rw [← HWD.out] at hHeld ⊢
      have HBd : Hid (Below W7.heap.size W7 wd) := by (show Below _ _ _); rw [HWD.out]; exact (Below.refl _ _).drew
      refine take_putH (i := 0) (v := ?_) (some 36) rfl (by kernel_rfl) (by kernel_rfl) (by kernel_rfl) (by kernel_rfl) (fun _ _ _ h => h) (Or.inl ⟨by rfl, ?_⟩) hHeld ?_
      rotate_left
      · (intro wS hSw; obtain ⟨z0, z1, z2, z3⟩ := hSw; go_simp; try with_reducible rfl)
      try simp only [Act.put, List.setIfInBounds_toArray, List.set_cons_zero, List.set_cons_succ]
      refine take_putH (i := 1) (v := ?_) (some 37) rfl (by kernel_rfl) (by kernel_rfl) (by kernel_rfl) (by kernel_rfl) (fun _ _ _ h => h) (Or.inl ⟨by rfl, ?_⟩) hHeld ?_
      rotate_left
      · (intro wS hSw; obtain ⟨z0, z1, z2, z3⟩ := hSw; go_simp; try with_reducible rfl)
      try simp only [Act.put, List.setIfInBounds_toArray, List.set_cons_zero, List.set_cons_succ]
      refine take_putH (i := 2) (v := ?_) (some 38) rfl (by kernel_rfl) (by kernel_rfl) (by kernel_rfl) (by kernel_rfl) (fun _ _ _ h => h) (Or.inl ⟨by rfl, ?_⟩) hHeld ?_
      rotate_left
      · (intro wS hSw; obtain ⟨z0, z1, z2, z3⟩ := hSw; go_simp; try with_reducible rfl)
      try simp only [Act.put, List.setIfInBounds_toArray, List.set_cons_zero, List.set_cons_succ]
      refine take_putH (i := 3) (v := ?_) (some 39) rfl (by kernel_rfl) (by kernel_rfl) (by kernel_rfl) (by kernel_rfl) (fun _ _ _ h => h) (Or.inl ⟨by rfl, ?_⟩) hHeld ?_
      rotate_left
      · (intro wS hSw; obtain ⟨z0, z1, z2, z3⟩ := hSw; go_simp; try with_reducible rfl)
      try simp only [Act.put, List.setIfInBounds_toArray, List.set_cons_zero, List.set_cons_succ]
      refine take_putH (i := 5) (v := ?_) (some 41) rfl (by kernel_rfl) (by kernel_rfl) (by kernel_rfl) (by kernel_rfl) (fun _ _ _ h => h) (Or.inl ⟨by rfl, ?_⟩) hHeld ?_
      rotate_left
      · (intro wS hSw; obtain ⟨z0, z1, z2, z3⟩ := hSw; go_simp; try with_reducible rfl)
      try simp only [Act.put, List.setIfInBounds_toArray, List.set_cons_zero, List.set_cons_succ]
      refine take_putH (i := 6) (v := ?_) (some 42) rfl (by kernel_rfl) (by kernel_rfl) (by kernel_rfl) (by kernel_rfl) (fun _ _ _ h => h) (Or.inl ⟨by rfl, ?_⟩) hHeld ?_
      rotate_left
      · (intro wS hSw; obtain ⟨z0, z1, z2, z3⟩ := hSw; go_simp; try with_reducible rfl)
      try simp only [Act.put, List.setIfInBounds_toArray, List.set_cons_zero, List.set_cons_succ]
      refine take_putH (i := 7) (v := ?_) (some 43) rfl (by kernel_rfl) (by kernel_rfl) (by kernel_rfl) (by kernel_rfl) (fun _ _ _ h => h) (Or.inl ⟨by rfl, ?_⟩) hHeld ?_
      rotate_left
      · (intro wS hSw; obtain ⟨z0, z1, z2, z3⟩ := hSw; go_simp; try with_reducible rfl)
      try simp only [Act.put, List.setIfInBounds_toArray, List.set_cons_zero, List.set_cons_succ]
      refine take_putH (i := 8) (v := ?_) (some 44) rfl (by kernel_rfl) (by kernel_rfl) (by kernel_rfl) (by kernel_rfl) (fun _ _ _ h => h) (Or.inl ⟨by rfl, ?_⟩) hHeld ?_
      rotate_left
      · (intro wS hSw; obtain ⟨z0, z1, z2, z3⟩ := hSw; go_simp; try with_reducible rfl)
      try simp only [Act.put, List.setIfInBounds_toArray, List.set_cons_zero, List.set_cons_succ]
      refine take_putH (i := 9) (v := ?_) (some 45) rfl (by kernel_rfl) (by kernel_rfl) (by kernel_rfl) (by kernel_rfl) (fun _ _ _ h => h) (Or.inl ⟨by rfl, ?_⟩) hHeld ?_
      rotate_left
      · (intro wS hSw; obtain ⟨z0, z1, z2, z3⟩ := hSw; go_simp; try with_reducible rfl)
      try simp only [Act.put, List.setIfInBounds_toArray, List.set_cons_zero, List.set_cons_succ]
      refine take_putH (i := 10) (v := ?_) (some 46) rfl (by kernel_rfl) (by kernel_rfl) (by kernel_rfl) (by kernel_rfl) (fun _ _ _ h => h) (Or.inl ⟨by rfl, ?_⟩) hHeld ?_
      rotate_left
      · (intro wS hSw; obtain ⟨z0, z1, z2, z3⟩ := hSw; go_simp; try with_reducible rfl)
      try simp only [Act.put, List.setIfInBounds_toArray, List.set_cons_zero, List.set_cons_succ]
      refine take_putH (i := 11) (v := ?_) (some 47) rfl (by kernel_rfl) (by kernel_rfl) (by kernel_rfl) (by kernel_rfl) (fun _ _ _ h => h) (Or.inl ⟨by rfl, ?_⟩) hHeld ?_
      rotate_left
      · (intro wS hSw; obtain ⟨z0, z1, z2, z3⟩ := hSw; go_simp; try with_reducible rfl)
      try simp only [Act.put, List.setIfInBounds_toArray, List.set_cons_zero, List.set_cons_succ]
      refine take_putH (i := 12) (v := ?_) (some 48) rfl (by kernel_rfl) (by kernel_rfl) (by kernel_rfl) (by kernel_rfl) (fun _ _ _ h => h) (Or.inl ⟨by rfl, ?_⟩) hHeld ?_
      rotate_left
      · (intro wS hSw; obtain ⟨z0, z1, z2, z3⟩ := hSw; go_simp; try with_reducible rfl)
      try simp only [Act.put, List.setIfInBounds_toArray, List.set_cons_zero, List.set_cons_succ]
      obtain ⟨W8, HW8⟩ : ∃ W, Hid (W = wd.alloc (.cells #[.int .i64 x.1.tick, .int .u32 x.1.for_, .slice ba N bc] 54)) := ⟨_, rfl⟩
      have HB8 : Hid (Below wd.heap.size wd W8) := by (show Below _ _ _); rw [HW8.out]; exact below_new _ _
      have HBE8 : Hid (Below W7.heap.size W7 W8) := HBd.out.trans (HB8.out.mono HBd.out.size)
      have HBX8 : Hid (Below w.heap.size w W8) := HX7.out.trans (HBE8.out.mono HX7.out.size)
      have HA8 : Hid (ItsRd W8 (some ⟨wd.heap.size, 0, none⟩) 1 [x.1]) := its_one (by rw [HW8.out]; exact Bk.new wd _ _) (HBD7.out.below HBE8.out) HIN.out
      have hH8 : Hid (W8.cell? ⟨b1, 0, none⟩ = some (.int .i64 x.1.tick) ∧ W8.cell? ⟨b1, 1, none⟩ = some (.int .u32 x.1.for_) ∧ W8.cell? ⟨b1, 2, none⟩ = some (.slice ba N bc) ∧ W8.cell? ⟨y, 1, none⟩ = some (.slice (some ⟨g, o, none⟩) xn xc)) := HSW.out _ HBE8.out
      have HC8 : Hid (ItsRd W8 (some ⟨g, o + i * 3, none⟩) 1 [x.1]) := HCE.out W8 HBX8.out
      clear hHeld
      refine wpAnyH_ready (rs := [4]) (by kernel_rfl) (by simp) ?_
      refine AllReadyH.cons rfl (fun K hK => ?_) AllReadyH.nil
      go_simp
      rw [← HW8.out]
      refine hK.out _ _ hH8.out (fun _ => ?_)
      clear hK K
      try simp only [Act.put, List.getElem_toArray, List.getElem_cons_succ, List.getElem_cons_zero, List.setIfInBounds_toArray, List.set_cons_zero, List.set_cons_succ]
      refine wpAnyH_ready (rs := [13]) (by kernel_rfl) (by simp) ?_
      refine AllReadyH.cons rfl (fun K hK => ?_) AllReadyH.nil
      go_simp
      refine (ref_SameItems _ _ 1 _ _ [x.1] W8 HA8.out HC8.out (by decide)).mono ?_
      rintro e w9 ⟨rfl, hb9⟩
      have HB9 : Hid (Below w.heap.size w w9) := HBX8.out.trans (hb9.mono HBX8.out.size)
      have hH9 : Hid (w9.cell? ⟨b1, 0, none⟩ = some (.int .i64 x.1.tick) ∧ w9.cell? ⟨b1, 1, none⟩ = some (.int .u32 x.1.for_) ∧ w9.cell? ⟨b1, 2, none⟩ = some (.slice ba N bc) ∧ w9.cell? ⟨y, 1, none⟩ = some (.slice (some ⟨g, o, none⟩) xn xc)) := HSW.out _ (HBE8.out.trans (hb9.mono HBE8.out.size))
      clear hb9
      refine hK.out _ _ hH9.out (fun _ => ?_)
      clear hK K
      try simp only [Act.put, List.getElem_toArray, List.getElem_cons_succ, List.getElem_cons_zero, List.setIfInBounds_toArray, List.set_cons_zero, List.set_cons_succ]
      refine take_putH (i := 14) (v := ?_) (some 50) rfl (by kernel_rfl) (by kernel_rfl) (by kernel_rfl) (by kernel_rfl) (fun _ _ _ h => h) (Or.inl ⟨by rfl, ?_⟩) hH9.out ?_
      rotate_left
      · (intro wS hSw; obtain ⟨z0, z1, z2, z3⟩ := hSw; go_simp; try with_reducible rfl)
      try simp only [Act.put, List.setIfInBounds_toArray, List.set_cons_zero, List.set_cons_succ]
      refine take_putH (i := 15) (v := ?_) (some 51) rfl (by kernel_rfl) (by kernel_rfl) (by kernel_rfl) (by kernel_rfl) (fun _ _ _ h => h) (Or.inl ⟨by rfl, ?_⟩) hH9.out ?_
      rotate_left
      · (intro wS hSw; obtain ⟨z0, z1, z2, z3⟩ := hSw; go_simp; try with_reducible rfl)
      try simp only [Act.put, List.setIfInBounds_toArray, List.set_cons_zero, List.set_cons_succ]
      refine wpAnyH_done (by kernel_rfl) ?_ _
      clear hxc hxc2 hxc3 hxc4 hwi
      go_wp2
      go_roundw
      case rel => exact ⟨i + 1, by go_num, by omega, HB9⟩
      case measure => simp [intOf]; omega
    · have hnl : ¬ (i : Int) < (xn : Int) := by omega
      go_wp2
      go_ret
      exact ⟨rfl, HB.out⟩
end Go.Proofs.YtidihfhgnjkmaaaGreat
/- grapevinelaw15.play: a script on both sides. -/
namespace Go.Proofs.YtidihfhgnjkmaaaGreat
set_option maxRecDepth 100000
open Go.RowKit
variable {Z : Nat → Prop}

theorem law_do {w : World} {s m y : Nat} {L : List Sp} {X : List It} (h : Duo ZT w s m y L X) {q : De} (hq : DeOk w q) :
    Calls Tryz.prog 28 #[.pointer (some ⟨s, 0, none⟩), .pointer (some ⟨y, 0, none⟩), .agg #[.int .i64 q.do_, .int .i64 q.p.kind, .int .i64 q.p.pub, .int .i64 q.p.sub, .int .i64 q.p.n_, .int .i64 q.p.fr, .int .i64 q.p.to_, .slice q.sa q.sn q.sc, .slice q.ia q.im q.ic, .int .i64 q.t_, .int .i64 q.id, .int .u32 q.lk]] w fun e w' => DoTold s m y w e w' := by
  obtain ⟨dk, p, sa, sn, sc, ia, im, ic, T, id, lk⟩ := q
  simp only
  by_cases h0 : dk = 0
  · subst h0; exact law_do_learn h hq.rd hq.big T id lk
  · by_cases h1 : dk = 1
    · subst h1; exact law_do_lose h p sa sn sc ia im ic T id lk
    · by_cases h2 : dk = 2
      · subst h2; exact law_do_tell h p sa sn sc ia im ic T id lk hq.lb
      · by_cases h3 : dk = 3
        · subst h3; exact law_do_next h p sa sn sc ia im ic T id lk
        · by_cases h4 : dk = 4
          · subst h4; exact law_do_item h p sa sn sc ia im ic T id lk hq.tb
          · exact law_do_look h p sa sn sc ia im ic T id lk dk (by omega)
theorem Imp.new_ {w : World} {s m : Nat} (h : Stm Z w s m none 0 0 [] []) : Imp Z w s m [] [] := ⟨[], ⟨none, 0, 0, [], h, fun t => rfl, fun t => ⟨fun e => (by cases e), fun e => (by cases e)⟩⟩, fun t => rfl⟩
/-- What play tells. -/
def PlayTold (w : World) (e : Ending) (w' : World) : Prop := ∃ s m y L X, e = .returned (.tuple #[.pointer (some ⟨s, 0, none⟩), .pointer (some ⟨y, 0, none⟩), .bool true]) ∧ Duo ZT w' s m y L X ∧ (w.heap.size ≤ s ∧ w.heap.size ≤ m ∧ w.heap.size ≤ y) ∧ Below w.heap.size w w'
theorem Tri.below {s m y B : Nat} {w w' : World} (h : Tri ZT s m y w w') (h1 : B ≤ s) (h2 : B ≤ m) (h3 : B ≤ y) (hB : B ≤ w.heap.size) : Below B w w' := ⟨h.os, h.tape, h.output, h.size, fun k hk => h.block k (Nat.lt_of_lt_of_le hk hB) trivial (by omega) (by omega) (by omega)⟩
set_option maxHeartbeats 8000000 in
theorem law_play {w : World} {a : Option Addr} {n c : Nat} {l : List De} (hl : DesRd w a n l) (hn : n ≤ maxLen) :
    Calls Tryz.prog 8 #[.slice a n c] w fun e w' => PlayTold w e w' := by
  have HL : Hid (DesRd w a n l) := hl
  obtain ⟨POST, HPO⟩ : ∃ P0 : Ending → World → Prop, Hid (P0 = fun e w' => PlayTold w e w') := ⟨_, rfl⟩
  have hpost : (fun e w' => PlayTold w e w') = fun e w' => POST e w' := HPO.out.symm
  rw [hpost]
  have hn9 : n ≤ 9223372036854775807 := Nat.le_trans hn (by unfold maxLen; omega)
  clear hpost hl hn
  go_enter Tryz.func8, Tryz.ntmps8
  go_wp2_with fail
  refine (st_New (Z := ZT) w (fun _ _ => trivial)).mono ?_
  rintro e w1 ⟨s, m, rfl, hs, hsm, hb1⟩
  have HI1 : Hid (Imp ZT w1 s m [] []) := Imp.new_ hs
  have HSM : Hid (w.heap.size ≤ s ∧ w.heap.size ≤ m) := hsm
  have HB1 : Hid (Below w.heap.size w w1) := hb1
  clear hs hsm hb1
  go_wp2_with fail
  refine (ref15_New (Z := ZT) w1 (fun _ _ => trivial)).mono ?_
  rintro e w2 ⟨y, rfl, hy, hyl, hb2⟩
  have HDU2 : Hid (Duo ZT w2 s m y [] []) := ⟨HI1.out.stay hb2, hy, Kn.nil_, by simp, fun e => by have h1 := HI1.out.noInt.2.1; omega⟩
  have HYL : Hid (w.heap.size ≤ y) := Nat.le_trans HB1.out.size hyl
  have HB2 : Hid (Below w.heap.size w w2) := HB1.out.trans (hb2.mono HB1.out.size)
  clear hy hyl hb2
  go_wp2
  go_loopw [7] (fun t7 wr => ∃ (i : Nat) (L : List Sp) (X : List It), t7 = .int .i64 (i : Int) ∧ i ≤ n ∧ Hid (Duo ZT wr s m y L X) ∧ Hid (Below w.heap.size w wr)) (fun t7 _ => n - (intOf t7).toNat)
  case atStart => exact ⟨0, [], [], rfl, Nat.zero_le _, HDU2, HB2⟩
  case round =>
    clear HI1 HB1 HDU2 HB2
    obtain ⟨i, L, X, rfl, hi, HDU, HB⟩ := hrel
    obtain ⟨w3, rfl⟩ : ∃ w3, w3 = wr := ⟨wr, rfl⟩
    by_cases hlt : i < n ∧ i < 60
    · have hlt1 : (i : Int) < (n : Int) := by omega
      have hlt2 : (i : Int) < 60 := by omega
      have gi : (0 : Int) ≤ (i : Int) := by omega
      have HLT : Hid (i < n) := hlt.1
      obtain ⟨g, o, rfl, hg, q, hq, hok, hc⟩ := (HL.out.below HB.out).spot i hlt.1
      have HDO : Hid (Calls Tryz.prog 28 #[.pointer (some ⟨s, 0, none⟩), .pointer (some ⟨y, 0, none⟩), .agg #[.int .i64 q.do_, .int .i64 q.p.kind, .int .i64 q.p.pub, .int .i64 q.p.sub, .int .i64 q.p.n_, .int .i64 q.p.fr, .int .i64 q.p.to_, .slice q.sa q.sn q.sc, .slice q.ia q.im q.ic, .int .i64 q.t_, .int .i64 q.id, .int .u32 q.lk]] w3 fun e w' => DoTold s m y w3 e w') := law_do HDU.out hok
      have e0 : w3.cell? ⟨g, o + i * 12, none⟩ = some (.int .i64 q.do_) := hc 0 _ rfl
      have e1 : w3.cell? ⟨g, o + i * 12 + 1, none⟩ = some (.int .i64 q.p.kind) := hc 1 _ rfl
      have e2 : w3.cell? ⟨g, o + i * 12 + 2, none⟩ = some (.int .i64 q.p.pub) := hc 2 _ rfl
      have e3 : w3.cell? ⟨g, o + i * 12 + 3, none⟩ = some (.int .i64 q.p.sub) := hc 3 _ rfl
      have e4 : w3.cell? ⟨g, o + i * 12 + 4, none⟩ = some (.int .i64 q.p.n_) := hc 4 _ rfl
      have e5 : w3.cell? ⟨g, o + i * 12 + 5, none⟩ = some (.int .i64 q.p.fr) := hc 5 _ rfl
      have e6 : w3.cell? ⟨g, o + i * 12 + 6, none⟩ = some (.int .i64 q.p.to_) := hc 6 _ rfl
      have e7 : w3.cell? ⟨g, o + i * 12 + 7, none⟩ = some (.slice q.sa q.sn q.sc) := hc 7 _ rfl
      have e8 : w3.cell? ⟨g, o + i * 12 + 8, none⟩ = some (.slice q.ia q.im q.ic) := hc 8 _ rfl
      have e9 : w3.cell? ⟨g, o + i * 12 + 9, none⟩ = some (.int .i64 q.t_) := hc 9 _ rfl
      have e10 : w3.cell? ⟨g, o + i * 12 + 10, none⟩ = some (.int .i64 q.id) := hc 10 _ rfl
      have e11 : w3.cell? ⟨g, o + i * 12 + 11, none⟩ = some (.int .u32 q.lk) := hc 11 _ rfl
      clear hc hok hq hg hlt
      go_wp2_with fail
      refine HDO.out.mono ?_
      rintro e w4 ⟨rfl, ⟨L', X', hd⟩, ht⟩
      have HDU4 : Hid (Duo ZT w4 s m y L' X') := hd
      have HB4 : Hid (Below w.heap.size w w4) := HB.out.trans (ht.below HSM.out.1 HSM.out.2 HYL.out HB.out.size)
      clear hd ht e0 e1 e2 e3 e4 e5 e6 e7 e8 e9 e10 e11
      go_wp2
      go_roundw
      case rel => exact ⟨i + 1, L', X', by go_num, HLT.out, HDU4, HB4⟩
      case measure => have := HLT.out; simp [intOf]; omega
    · have HSA := law_same HDU.out
      have HSA : Hid (Calls Tryz.prog 29 #[.pointer (some ⟨s, 0, none⟩), .pointer (some ⟨y, 0, none⟩)] w3 fun e w' => e = .returned (.bool true) ∧ Below w3.heap.size w3 w') := HSA
      have HEN : Hid (∀ w4, Below w3.heap.size w3 w4 → POST (.returned (.tuple #[.pointer (some ⟨s, 0, none⟩), .pointer (some ⟨y, 0, none⟩), .bool true])) w4) := fun w4 hb4 => by
        rw [HPO.out]
        exact ⟨s, m, y, L, X, rfl, HDU.out.stay hb4, ⟨HSM.out.1, HSM.out.2, HYL.out⟩, HB.out.trans (hb4.mono HB.out.size)⟩
      by_cases h1 : i < n
      · have hlt1 : (i : Int) < (n : Int) := by omega
        have hlt2 : ¬ (i : Int) < 60 := by omega
        clear hlt
        go_wp2_with fail
        refine HSA.out.mono ?_
        rintro e w4 ⟨rfl, hb4⟩
        have HE4 := HEN.out w4 hb4
        clear hb4
        go_wp2
        exact HE4
      · have hlt1 : ¬ (i : Int) < (n : Int) := by omega
        clear hlt
        go_wp2_with fail
        refine HSA.out.mono ?_
        rintro e w4 ⟨rfl, hb4⟩
        have HE4 := HEN.out w4 hb4
        clear hb4
        go_wp2
        exact HE4
end Go.Proofs.YtidihfhgnjkmaaaGreat
