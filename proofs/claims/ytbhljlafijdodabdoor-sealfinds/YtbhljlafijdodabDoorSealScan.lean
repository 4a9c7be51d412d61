/- seal.Scan: all seals that are found, and how many bytes belong to none, for every row of bytes. -/
import Derived.Test.YtbhljlafijdodabDoorSealLives
namespace Go.Proofs.YtbhljlafijdodabDoor
open Go.RowKit

namespace SealM
/-- What is found from a place on: kinds, places, bodies; and how many bytes belong to none. -/
def scan : Nat → List Nat → Nat → List (Nat × Nat × List Nat) × Nat
  | 0, _, _ => ([], 0)
  | f + 1, bs, p =>
    if bs.length ≤ p then ([], 0)
    else if opn (bs.drop p) = 0 then
      (((bs.drop p).getD 1 0, p, ((bs.drop p).drop 4).take (blen (bs.drop p))) :: (scan f bs (p + blen (bs.drop p) + 8)).1, (scan f bs (p + blen (bs.drop p) + 8)).2)
    else ((scan f bs (p + 1)).1, (scan f bs (p + 1)).2 + 1)
theorem scan_end (f : Nat) (bs : List Nat) (p : Nat) (h : bs.length ≤ p) : scan f bs p = ([], 0) := by
  cases f with
  | zero => rfl
  | succ f => simp only [scan]; rw [if_pos h]
theorem scan_ok (f : Nat) (bs : List Nat) (p : Nat) (h : p < bs.length) (ho : opn (bs.drop p) = 0) :
    scan (f + 1) bs p = (((bs.drop p).getD 1 0, p, ((bs.drop p).drop 4).take (blen (bs.drop p))) :: (scan f bs (p + blen (bs.drop p) + 8)).1, (scan f bs (p + blen (bs.drop p) + 8)).2) := by
  simp only [scan]; rw [if_neg (by omega), if_pos ho]
theorem scan_bad (f : Nat) (bs : List Nat) (p : Nat) (h : p < bs.length) (ho : ¬ opn (bs.drop p) = 0) :
    scan (f + 1) bs p = ((scan f bs (p + 1)).1, (scan f bs (p + 1)).2 + 1) := by
  simp only [scan]; rw [if_neg (by omega), if_neg ho]
theorem opn_fits {l : List Nat} (h : opn l = 0) : blen l + 8 ≤ l.length ∧ blen l ≤ 4096 := by
  rcases hb : bend l with ⟨n, f⟩
  by_cases hf : f = 0
  · subst hf
    obtain ⟨_, _, _, h1, h2⟩ := bend_ok hb
    exact ⟨h2, h1⟩
  · rw [opn_err hb hf] at h
    exact absurd h hf
end SealM

/-- A seal that is found: where its body lies, and what it is. -/
structure It where
  k : Nat
  p : Nat
  a : Option Addr
  q : Nat
  c : Nat
  body : List Nat
def It.cells (t : It) : List Value := [.int .u8 (t.k : Int), .int .i64 (t.p : Int), .slice t.a t.q t.c]
def It.dat (t : It) : Nat × Nat × List Nat := (t.k, t.p, t.body)

/-- A list of seals of one's own. -/
structure Found (w : World) (base : Nat) (v : Value) (ts : List It) : Prop where
  row : w.ownsRow base 32 3 v ts.length (ts.flatMap It.cells)
  body : ∀ t ∈ ts, Own w base t.a t.q t.c t.body

theorem Found.nil_ (w : World) (base : Nat) : Found w base (.slice none 0 0) [] := ⟨⟨rfl, .inl ⟨rfl, rfl⟩⟩, fun t ht => by cases ht⟩

theorem Found.below {w w' : World} {base : Nat} {v : Value} {ts : List It} (h : Found w base v ts) (hb : Below w.heap.size w w') : Found w' base v ts := by
  refine ⟨⟨h.row.1, ?_⟩, fun t ht => (h.body t ht).below hb⟩
  rcases h.row.2 with hn | ⟨g, c, cur, hv, hbg, hg, r⟩
  · exact .inl hn
  · exact .inr ⟨g, c, cur, hv, hbg, by rw [hb.block g (Array.getElem?_eq_some_iff.1 hg).1]; exact hg, r⟩

/-- A body stays where a list of seals grows. -/
theorem Own.beside {w w' : World} {base bs' n : Nat} {v : Value} {xs : List Value} {a : Option Addr} {len cap : Nat} {bs : List Nat} (h : Own w base a len cap bs) (hrow : w.ownsRow bs' 32 3 v n xs) (hg : w.grownBy w' v.ownBlock) : Own w' base a len cap bs := by
  refine ⟨⟨h.row.1, ?_⟩, h.byte⟩
  rcases h.row.2 with hn | ⟨g, c, cur, hv, hbg, hgb, r⟩
  · exact .inl hn
  · refine .inr ⟨g, c, cur, hv, hbg, ?_, r⟩
    have hlt := (Array.getElem?_eq_some_iff.1 hgb).1
    rw [hg.block g hlt ?_]
    · exact hgb
    · intro he
      rcases hrow.2 with ⟨rfl, _⟩ | ⟨g2, c2, cur2, rfl, _, hg2, _⟩
      · cases he
      · have : g = g2 := by simpa [Value.ownBlock] using he
        subst this
        rw [hgb] at hg2
        simp at hg2

theorem Found.snoc {w w' : World} {base : Nat} {v v' : Value} {ts : List It} (h : Found w base v ts) (t : It) (ht : Own w base t.a t.q t.c t.body) (hg : w.grownBy w' v.ownBlock) (hrow : w'.ownsRow base 32 3 v' (ts.length + 1) (ts.flatMap It.cells ++ t.cells)) : Found w' base v' (ts ++ [t]) := by
  refine ⟨?_, fun u hu => ?_⟩
  · rw [List.length_append, List.flatMap_append]
    simpa using hrow
  · rcases List.mem_append.1 hu with hu | hu
    · exact (h.body u hu).beside h.row hg
    · rw [List.mem_singleton] at hu
      subst hu
      exact ht.beside h.row hg

theorem It.one (t : It) : ∀ u ∈ t.cells, u.oneCell' = true := by
  intro u hu
  simp only [It.cells, List.mem_cons, List.not_mem_nil, or_false] at hu
  rcases hu with rfl | rfl | rfl <;> rfl
theorem Found.at_ {w : World} {base : Nat} {v : Value} {ts : List It} (h : Found w base v ts) {k : Nat} (hk : v.ownBlock = some k) : base ≤ k := by
  rcases h.row.2 with ⟨rfl, _⟩ | ⟨g, c, cur, rfl, hb, _⟩
  · cases hk
  · have : g = k := by simpa [Value.ownBlock] using hk
    omega

theorem infoSealed : (Tryd.prog.info? 32).map (fun i => (i.zero, i.size, i.bytes)) = some (some (.agg #[.int .u8 0, .int .i64 0, .slice none 0 0]), 3, 40) := by kernel_rfl

theorem seal_Scan_long (a : Option Addr) (len cap : Nat) (w : World) (hl : 16384 < len) (hm : len ≤ 9223372036854775807) :
    Calls Tryd.prog 6 #[.slice a len cap] w fun e w' => e = .returned (.tuple #[.slice none 0 0, .int .i64 0, .int .i64 6]) ∧ w' = w := by
  go_enter Tryd.func6, Tryd.ntmps6
  go_wp2
  go_ret3
  exact ⟨rfl, rfl⟩

set_option maxRecDepth 100000 in
set_option maxHeartbeats 2000000 in
theorem seal_Scan (a : Option Addr) (len cap : Nat) (bs : List Nat) (w : World) (hr : Rd w a len bs) (hlc : len ≤ cap) (hl : len ≤ 16384) (ht : Tab w) (h0 : 0 < w.heap.size) :
    Calls Tryd.prog 6 #[.slice a len cap] w fun e w' => ∃ v ts n, e = .returned (.tuple #[v, .int .i64 ((n : Nat) : Int), .int .i64 0]) ∧ Found w' w.heap.size v ts ∧ (ts.map It.dat, n) = SealM.scan len bs 0 ∧ Below w.heap.size w w' := by
  have HT : Hid (Tab w) := ht
  have HR : Hid (Rd w a len bs) := hr
  have HBL : Hid (bs.length = len) := hr.size
  obtain ⟨i0, hi, hz0, hz1, hz2⟩ := info_parts infoSealed
  clear ht hr
  go_enter Tryd.func6, Tryd.ntmps6
  go_wp2
  go_loopw [5, 6, 7] (fun t5 t6 t7 wr => ∃ (ts : List It) (s p f : Nat), p ≤ len ∧ s ≤ p ∧ ts.length ≤ p ∧ len ≤ f + p ∧ t6 = .int .i64 (s : Int) ∧ t7 = .int .i64 (p : Int) ∧ Hid (Found wr w.heap.size t5 ts) ∧ Hid (Below w.heap.size w wr) ∧ Hid ((ts.map It.dat ++ (SealM.scan f bs p).1, s + (SealM.scan f bs p).2) = SealM.scan len bs 0)) (fun _ _ t7 _ => len - (intOf t7).toNat)
  case atStart => exact ⟨[], 0, 0, len, by omega, by omega, by simp, by omega, rfl, rfl, Found.nil_ _ _, Below.refl _ _, by show _ = _; simp⟩
  case round =>
    obtain ⟨ts, s, p, f, hp, hsp, htl, hfp, rfl, rfl, HF, HB, HSC⟩ := hrel
    by_cases hlt : p < len
    · have hlt' : (p : Int) < (len : Int) := by omega
      obtain ⟨f, rfl⟩ : ∃ f', f = f' + 1 := ⟨f - 1, by omega⟩
      by_cases hok : SealM.opn (bs.drop p) = 0
      · obtain ⟨k, HKK⟩ : ∃ k, Hid ((bs.drop p).getD 1 0 = k) := ⟨_, rfl⟩
        obtain ⟨q, HQ⟩ : ∃ q, Hid (SealM.blen (bs.drop p) = q) := ⟨_, rfl⟩
        obtain ⟨B, HBD⟩ : ∃ B, Hid (((bs.drop p).drop 4).take q = B) := ⟨_, rfl⟩
        have hfit := SealM.opn_fits hok
        rw [HQ.out, List.length_drop, HBL.out] at hfit
        have hq1 : p + q + 8 ≤ len := by omega
        have HSC' : Hid ((ts.map It.dat ++ ((k, p, B) :: (SealM.scan f bs (p + q + 8)).1), s + (SealM.scan f bs (p + q + 8)).2) = SealM.scan len bs 0) := by
          have h := HSC.out
          rw [SealM.scan_ok f bs p (by rw [HBL.out]; exact hlt) hok, HKK.out, HQ.out, HBD.out] at h
          exact h
        have HOK : Hid (SealM.opn (bs.drop p) = 0) := hok
        clear hfit hok HSC
        go_wp2_with fail
        refine (seal_Open_good a len cap bs p wr (HR.out.below HB.out) hlc (by omega) (by omega) (HT.out.below h0 HB.out) (Nat.lt_of_lt_of_le h0 HB.out.size) HOK.out k q HKK.out HQ.out B HBD.out).mono ?_
        rintro e w1 ⟨g, rfl, ho1, hb1⟩
        have HB1 : Hid (Below w.heap.size w w1) := HB.out.trans (hb1.mono HB.out.size)
        have HF1 : Hid (Found w1 w.heap.size u5 ts) := HF.out.below hb1
        have HO1 : Hid (Own w1 w.heap.size (some ⟨g, 0, none⟩) q q B) := ho1.lower HB.out.size
        clear ho1 hb1
        have HA1 : Hid (Below w1.heap.size w1 ((w1.alloc (.cells #[.int .u8 (k : Int), .int .i64 (p : Int), .slice (some ⟨g, 0, none⟩) q q] 32)).alloc (.cells #[.int .u8 (k : Int), .int .i64 (p : Int), .slice (some ⟨g, 0, none⟩) q q] 32))) := ((Below.refl _ _).alloc (Nat.le_refl _) _).alloc (by simp) _
        have hnx : ((p + q + 8 : Nat) : Int) = (p : Int) + (q : Int) + 8 := by omega
        go_wp2_with (at_builtin; refine wpList_append_own _ (by rfl) (.tmp 31) (.tmp 33) 27 (by rfl) w.heap.size 32 i0 (.agg #[.int .u8 0, .int .i64 0, .slice none 0 0]) 3 40 Tryd.underlying27 hi hz0 hz1 hz2 (by rfl) (by decide) u5 ts.length (ts.flatMap It.cells) (by rfl) (HF1.out.below HA1.out).row ⟨w1.heap.size + 1, 0, none⟩ 1 1 (It.cells ⟨k, p, some ⟨g, 0, none⟩, q, q, B⟩) (by rfl) (by rfl) ?_ ?_ (by unfold maxLen; omega) (by omega) (Nat.le_trans HB1.out.size HA1.out.size) ?_)
        · intro j u hj
          match j with
          | 0 => simp [It.cells] at hj; subst hj; simp [Addr.add]
          | 1 => simp [It.cells] at hj; subst hj; simp [Addr.add]
          | 2 => simp [It.cells] at hj; subst hj; simp [Addr.add]
          | j + 3 => simp [It.cells] at hj
        · exact It.one _
        intro v' w2 hrow hgrow _
        have HF2 : Hid (Found w2 w.heap.size v' (ts ++ [⟨k, p, some ⟨g, 0, none⟩, q, q, B⟩])) := (HF1.out.below HA1.out).snoc ⟨k, p, some ⟨g, 0, none⟩, q, q, B⟩ (HO1.out.below HA1.out) hgrow hrow
        have HB2 : Hid (Below w.heap.size w w2) := (HB1.out.trans (HA1.out.mono HB1.out.size)).trans ((Below.refl _ _).grown hgrow (Nat.le_trans HB1.out.size HA1.out.size) (fun k hk => Found.at_ (HF1.out.below HA1.out) hk))
        clear hrow hgrow
        go_wp2
        go_roundw
        case rel => exact ⟨ts ++ [⟨k, p, some ⟨g, 0, none⟩, q, q, B⟩], s, p + q + 8, f, hq1, by omega, by simp; omega, by omega, rfl, by go_num, HF2, HB2, by show _ = _; rw [← HSC'.out]; simp [It.dat]⟩
        case measure => simp [intOf]; omega
      · have HBAD : Hid (openErr bs (p : Int) = SealM.opn (bs.drop p)) := openErr_nat bs p (by rw [HBL.out]; omega)
        obtain ⟨e0, HE⟩ : ∃ e0, Hid (SealM.opn (bs.drop p) = e0) := ⟨_, rfl⟩
        have he0 : e0 ≠ 0 := by rw [← HE.out]; exact hok
        have he1 : ((e0 : Int) != 0) = true := by rw [bne_iff_ne]; omega
        have HSC' : Hid ((ts.map It.dat ++ (SealM.scan f bs (p + 1)).1, s + ((SealM.scan f bs (p + 1)).2 + 1)) = SealM.scan len bs 0) := by
          have h := HSC.out
          rw [SealM.scan_bad f bs p (by rw [HBL.out]; exact hlt) hok] at h
          exact h
        clear hok HSC
        go_wp2_with fail
        refine (seal_Open_bad a len cap bs (p : Int) wr (HR.out.below HB.out) hlc (by omega) (by omega) (HT.out.below h0 HB.out) (Nat.lt_of_lt_of_le h0 HB.out.size) e0 (HBAD.out.trans HE.out) he0).mono ?_
        unfold toldBad
        rintro e w1 ⟨rfl, hb1⟩
        have HA1 : Hid (Below w1.heap.size w1 (w1.alloc (.cells #[.int .u8 0, .int .i64 0, .slice none 0 0] 32))) := below_alloc w1 _
        have HB1 : Hid (Below w.heap.size w w1) := HB.out.trans (hb1.mono HB.out.size)
        have HB2 : Hid (Below w.heap.size w (w1.alloc (.cells #[.int .u8 0, .int .i64 0, .slice none 0 0] 32))) := HB1.out.trans (HA1.out.mono HB1.out.size)
        have HF2 : Hid (Found (w1.alloc (.cells #[.int .u8 0, .int .i64 0, .slice none 0 0] 32)) w.heap.size u5 ts) := (HF.out.below hb1).below HA1.out
        clear hb1
        go_wp2
        go_roundw
        case rel => exact ⟨ts, s + 1, p + 1, f, by omega, by omega, by omega, by omega, by go_num, by go_num, HF2, HB2, by show _ = _; rw [← HSC'.out]; congr 1; omega⟩
        case measure => simp [intOf]; omega
    · have HEND : Hid (SealM.scan f bs p = ([], 0)) := SealM.scan_end f bs p (by rw [HBL.out]; omega)
      have hnl : ¬ (p : Int) < (len : Int) := by omega
      go_wp2
      go_ret3
      refine ⟨_, ts, s, rfl, HF.out, ?_, HB.out⟩
      have h := HSC.out
      rw [HEND.out] at h
      simpa using h
end Go.Proofs.YtbhljlafijdodabDoor
