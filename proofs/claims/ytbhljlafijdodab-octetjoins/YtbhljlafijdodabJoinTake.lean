/- Parts are taken: octet.TakeJoin, for every bytes and place. -/
import Derived.Test.YtbhljlafijdodabJoin
import Derived.Test.YtbhljlafijdodabStore
import Derived.Test.YtbhljlafijdodabStep
import Derived.Laws.CopyOwn
import Derived.Deep.RegionHeld3
import Derived.Handy
namespace Go.Proofs.Ytbhljlafijdodab
open Go.RowKit

namespace JoinM
/-- So many parts from a place on, and the place behind them; or the error. -/
def takes (bs : List Nat) : Nat → Nat → List (List Nat) × Nat × Nat
  | 0, p => ([], p, 0)
  | k + 1, p =>
    match range bs (p : Int) 4096 with
    | (x, y, 0) => (if (takes bs k y).2.2 = 0 then ((bs.drop x).take (y - x) :: (takes bs k y).1, (takes bs k y).2.1, 0) else ([], 0, (takes bs k y).2.2))
    | (_, _, f) => ([], 0, f)
/-- What is told of parts at a place. -/
def take (bs : List Nat) (x : Int) : List (List Nat) × Nat × Nat :=
  match Leb.take bs x with
  | (n, k, 0) => if 64 < n then ([], 0, 6) else takes bs n k
  | (_, _, f) => ([], 0, f)
def comb (done : List (List Nat)) (r : List (List Nat) × Nat × Nat) : List (List Nat) × Nat × Nat := if r.2.2 = 0 then (done ++ r.1, r.2.1, 0) else ([], 0, r.2.2)
theorem takes_ok (bs : List Nat) (k p x y : Nat) (h : range bs (p : Int) 4096 = (x, y, 0)) : takes bs (k + 1) p = comb [(bs.drop x).take (y - x)] (takes bs k y) := by
  simp only [takes, h, comb]
  rfl
theorem takes_bad (bs : List Nat) (k p x y f : Nat) (h : range bs (p : Int) 4096 = (x, y, f)) (hf : f ≠ 0) : takes bs (k + 1) p = ([], 0, f) := by
  unfold takes
  rw [h]
  cases f with
  | zero => exact absurd rfl hf
  | succ f => rfl
theorem comb_nil (bs : List Nat) (n p : Nat) : comb [] (takes bs n p) = takes bs n p := by
  cases n with
  | zero => rfl
  | succ k =>
    rcases h : range bs (p : Int) 4096 with ⟨x, y, f⟩
    by_cases hf : f = 0
    · subst hf
      rw [takes_ok bs k p x y h]
      unfold comb
      by_cases h2 : (takes bs k y).2.2 = 0 <;> simp [h2]
    · rw [takes_bad bs k p x y f h hf]
      simp [comb, hf]
theorem comb_comb (a b : List (List Nat)) (r : List (List Nat) × Nat × Nat) : comb a (comb b r) = comb (a ++ b) r := by
  unfold comb
  by_cases h : r.2.2 = 0
  · simp [h]
  · simp [h]
theorem comb_bad (a : List (List Nat)) (f : Nat) (hf : f ≠ 0) : comb a ([], 0, f) = ([], 0, f) := by simp [comb, hf]
theorem comb_end (a : List (List Nat)) (p : Nat) : comb a ([], p, 0) = (a, p, 0) := by simp [comb]
end JoinM

def Pt.val (p : Pt) : Value := .slice p.a p.l p.c
def nilPt : Pt := ⟨none, 0, 0, []⟩

/-- Parts in memory of one's own. -/
structure OwnParts (w : World) (base g n : Nat) (ps : List Pt) : Prop where
  row : w.ownsRow base 23 1 (.slice (some ⟨g, 0, none⟩) n n) n (ps.map Pt.val)
  body : ∀ p ∈ ps, Own w base p.a p.l p.c p.bs

theorem OwnParts.size {w : World} {base g n : Nat} {ps : List Pt} (h : OwnParts w base g n ps) : ps.length = n := by
  have := h.row.1
  simpa using this
theorem OwnParts.block {w : World} {base g n : Nat} {ps : List Pt} (h : OwnParts w base g n ps) : base ≤ g ∧ ∃ cur, w.heap[g]? = some (.cells cur 23 (0, 0)) := by
  rcases h.row.2 with ⟨hv, _⟩ | ⟨g', c, cur, hv, hb, hg, _⟩
  · simp at hv
  · simp only [Value.slice.injEq, Option.some.injEq, Addr.mk.injEq] at hv
    obtain ⟨⟨rfl, _, _⟩, _⟩ := hv
    exact ⟨hb, cur, hg⟩
theorem OwnParts.below {w w' : World} {base g n : Nat} {ps : List Pt} (h : OwnParts w base g n ps) (hb : Below w.heap.size w w') : OwnParts w' base g n ps := by
  refine ⟨⟨h.row.1, ?_⟩, fun t ht => (h.body t ht).below hb⟩
  rcases h.row.2 with hn | ⟨g', c, cur, hv, hbg, hg, r⟩
  · exact .inl hn
  · exact .inr ⟨g', c, cur, hv, hbg, by rw [hb.block g' (Array.getElem?_eq_some_iff.1 hg).1]; exact hg, r⟩
theorem OwnParts.cell {w : World} {base g n : Nat} {ps : List Pt} (h : OwnParts w base g n ps) (j : Nat) (p : Pt) (hj : ps[j]? = some p) : w.cell? ⟨g, j, none⟩ = some p.val := by
  have hlt : j < ps.length := (List.getElem?_eq_some_iff.1 hj).1
  rw [h.row.cellAt j (by rw [h.size] at hlt; omega), List.getElem?_map, hj]
  rfl
theorem OwnParts.free {w : World} {base g n : Nat} {ps : List Pt} (h : OwnParts w base g n ps) (j : Nat) : w.frozen? ⟨g, j, none⟩ = false := h.row.frozenAt j

/-- A row of bytes is not a row of slices. -/
theorem Own.besides {w : World} {base g : Nat} {cur : Array Value} {a : Option Addr} {len cap : Nat} {bs : List Nat} (h : Own w base a len cap bs) (hg : w.heap[g]? = Option.some (.cells cur 23 (0, 0))) (j : Nat) (v : Value) : Own (w.setCell ⟨g, j, none⟩ v) base a len cap bs := by
  refine ⟨⟨h.row.1, ?_⟩, h.byte⟩
  rcases h.row.2 with hn | ⟨g2, c, cur2, hv, hbg, hg2, r⟩
  · exact .inl hn
  · have hne : g2 ≠ g := by
      rintro rfl
      rw [hg2] at hg
      simp at hg
    exact .inr ⟨g2, c, cur2, hv, hbg, by rw [Below.heap_setCell _ _ _ _ hne]; exact hg2, r⟩

/-- A part is laid into its place. -/
theorem OwnParts.set {w : World} {base g n : Nat} {ps : List Pt} (h : OwnParts w base g n ps) (j : Nat) (p : Pt) (hp : Own w base p.a p.l p.c p.bs) : OwnParts (w.setCell ⟨g, j, none⟩ p.val) base g n (ps.set j p) := by
  obtain ⟨_, cur, hg⟩ := h.block
  refine ⟨?_, fun t ht => ?_⟩
  · have := (h.row.stored j p.val).1
    rw [List.map_set]
    exact this
  · rcases List.mem_or_eq_of_mem_set ht with ht | rfl
    · exact (h.body t ht).besides hg j _
    · exact hp.besides hg j _

theorem own_full {w : World} {base g len : Nat} {bs : List Nat} (h : Own w base (some ⟨g, 0, none⟩) len len bs) : w.heap[g]? = Option.some (.cells (vb bs).toArray 5 (0, 0)) := by
  rcases h.row.2 with ⟨hv, _⟩ | ⟨g', c, cur, hv, hb, hg, hlc, hm, hs, ht⟩
  · simp at hv
  · simp only [Value.slice.injEq, Option.some.injEq, Addr.mk.injEq] at hv
    obtain ⟨⟨rfl, _, _⟩, _, rfl⟩ := hv
    have e : cur.toList = vb bs := by
      rw [← ht, List.take_of_length_le]
      rw [Array.length_toList]; omega
    rw [hg, ← e]
theorem own_of_full {w : World} {base g : Nat} {bs : List Nat} (h : w.heap[g]? = Option.some (.cells (vb bs).toArray 5 (0, 0))) (hb : ∀ x ∈ bs, x < 256) (hg : base ≤ g) (hm : bs.length ≤ maxLen) (len : Nat) (hl : bs.length = len) : Own w base (some ⟨g, 0, none⟩) len len bs := by
  subst hl
  refine ⟨⟨by simp [vb_length], .inr ⟨g, bs.length, _, rfl, hg, h, Nat.le_refl _, hm, by simp [vb_length], ?_⟩⟩, hb⟩
  rw [Nat.mul_one]
  show List.take bs.length (vb bs) = vb bs
  rw [← vb_length bs, List.take_length]
theorem vb_splice (xs : List Nat) (off : Nat) (ys : List Nat) : splice (vb xs) off (vb ys) = vb (xs.take off ++ (ys ++ xs.drop (off + ys.length))) := by
  simp only [splice, vb_append, vb_length]
  simp [vb, List.map_take, List.map_drop]
/-- What 'copy' asks of its source. -/
theorem Rd.copies {w : World} {a : Option Addr} {len : Nat} {bs : List Nat} (h : Rd w a len bs) (hp : 0 < (vb bs).length) : ∃ ad, a = some ad ∧ ∀ j v, (vb bs)[j]? = some v → w.cell? (ad.add j) = some v := by
  rw [vb_length, h.size] at hp
  rcases h.cells with h0 | ⟨b, off, rfl, _, hc⟩
  · omega
  · refine ⟨_, rfl, fun j v hj => ?_⟩
    obtain ⟨hlt, rfl⟩ := vb_get hj
    have e : (⟨b, off, none⟩ : Addr).add j = ⟨b, off + j, none⟩ := by unfold Addr.add; split <;> simp_all
    rw [e]
    exact hc j (by rw [← h.size]; exact hlt)

/-- Bodies stay where a part is made, laid into its place, and filled. -/
theorem own_carry {w3 w4 w6 : World} {base g j : Nat} {v : Value} {cur : Array Value} {a : Option Addr} {len cap : Nat} {bs : List Nat} (h : Own w3 base a len cap bs) (hg : w3.heap[g]? = some (.cells cur 23 (0, 0))) (hb : Below w3.heap.size w3 w4) (hb6 : Below w3.heap.size (w4.setCell ⟨g, j, none⟩ v) w6) : Own w6 base a len cap bs := by
  refine ⟨⟨h.row.1, ?_⟩, h.byte⟩
  rcases h.row.2 with hn | ⟨g2, c, cur2, hv, hbg, hg2, r⟩
  · exact .inl hn
  · have hlt := (Array.getElem?_eq_some_iff.1 hg2).1
    have hne : g2 ≠ g := by
      rintro rfl
      rw [hg2] at hg
      simp at hg
    refine .inr ⟨g2, c, cur2, hv, hbg, ?_, r⟩
    rw [hb6.block g2 hlt, Below.heap_setCell _ _ _ _ hne, hb.block g2 hlt]
    exact hg2
theorem parts_carry {w3 w4 w6 : World} {base g n j : Nat} {ps : List Pt} (p : Pt) (h : OwnParts w3 base g n ps) (hb : Below w3.heap.size w3 w4) (hb6 : Below w3.heap.size (w4.setCell ⟨g, j, none⟩ p.val) w6) (hp : Own w6 base p.a p.l p.c p.bs) : OwnParts w6 base g n (ps.set j p) := by
  obtain ⟨_, cur, hg⟩ := h.block
  have hlt := (Array.getElem?_eq_some_iff.1 hg).1
  refine ⟨?_, fun t ht => ?_⟩
  · have h4 := ((h.below hb).row.stored j p.val).1
    rw [List.map_set]
    refine ⟨h4.1, ?_⟩
    rcases h4.2 with hn | ⟨g', c, cur', hv, hbg, hg', r⟩
    · exact .inl hn
    · have e : g' = g := by
        simp only [Value.slice.injEq, Option.some.injEq, Addr.mk.injEq] at hv
        exact hv.1.1.symm
      subst e
      exact .inr ⟨g', c, cur', hv, hbg, by rw [hb6.block g' hlt]; exact hg', r⟩
  · rcases List.mem_or_eq_of_mem_set ht with ht | rfl
    · exact own_carry (h.body t ht) hg hb hb6
    · exact hp

theorem infoRows : (Try.prog.info? 23).map (fun i => (i.zero, i.size, i.bytes)) = some (some (.slice none 0 0), 1, 24) := by kernel_rfl
theorem infoByteSize : (Try.prog.info? 5).map (·.size) = some 1 := by kernel_rfl
theorem made_rows (n : Nat) : (madeCells #[.slice none 0 0] n).toList = (List.replicate n nilPt).map Pt.val := by
  simp only [madeCells]
  apply List.ext_getElem
  · simp
  · intro i h1 h2
    simp [Nat.mod_one, Pt.val, nilPt]
theorem made_byte (n : Nat) : (madeCells #[.int .u8 0] n).toList = vb (List.replicate n 0) := by
  simp only [madeCells, vb]
  apply List.ext_getElem
  · simp
  · intro i h1 h2
    simp [Nat.mod_one]

def toldJ (f : Nat) : Ending := .returned (.tuple #[.slice none 0 0, .int .i64 0, .int .i64 (f : Int)])

theorem octet_TakeJoin_head (a : Option Addr) (len cap : Nat) (bs : List Nat) (x : Int) (w : World) (hr : Rd w a len bs) (hl : len ≤ 9223372036854775000) (hx : (-9223372036854775808 : Int) ≤ x ∧ x ≤ 9223372036854775807) (n k f : Nat) (hT : Leb.take bs x = (n, k, f)) (hbad : f ≠ 0 ∨ 64 < n) (hnn : n < 18446744073709551616) :
    Calls Try.prog 8 #[.slice a len cap, .int .i64 x] w fun e w' => e = toldJ (if f = 0 then 6 else f) ∧ w' = w := by
  have HR : Hid (Rd w a len bs) := hr
  have HX : Hid ((-9223372036854775808 : Int) ≤ x ∧ x ≤ 9223372036854775807) := hx
  have HT : Hid (Leb.take bs x = (n, k, f)) := hT
  clear hr hx hT
  by_cases hf : f = 0
  · have h64 : 64 < n := by omega
    have hf' : ((f : Int) != 0) = false := by simp [hf]
    have HF : Hid ((if f = 0 then 6 else f) = 6) := by show _ = _; rw [if_pos hf]
    rw [HF.out]
    clear hf
    go_enter Try.func8, Try.ntmps8
    go_wp2_with fail
    refine (octet_TakeUint a len cap bs x w HR.out hl HX.out).mono ?_
    rw [HT.out]
    rintro e w1 ⟨rfl, rfl⟩
    unfold told
    go_wp2
    go_ret3
    exact ⟨rfl, rfl⟩
  · have hf' : ((f : Int) != 0) = true := by simp [hf]
    have HF : Hid ((if f = 0 then 6 else f) = f) := by show _ = _; rw [if_neg hf]
    rw [HF.out]
    clear hf
    go_enter Try.func8, Try.ntmps8
    go_wp2_with fail
    refine (octet_TakeUint a len cap bs x w HR.out hl HX.out).mono ?_
    rw [HT.out]
    rintro e w1 ⟨rfl, rfl⟩
    unfold told
    go_wp2
    go_ret3
    exact ⟨rfl, rfl⟩

set_option maxRecDepth 100000 in
set_option maxHeartbeats 2000000 in
theorem octet_TakeJoin_body (b off len cap : Nat) (bs : List Nat) (x : Int) (w : World) (hr : Rd w (some ⟨b, off, none⟩) len bs) (hlc : len ≤ cap) (hl : len ≤ 9223372036854775000) (hx : (-9223372036854775808 : Int) ≤ x ∧ x ≤ 9223372036854775807) (n k : Nat) (hT : Leb.take bs x = (n, k, 0)) (hn : n ≤ 64) :
    Calls Try.prog 8 #[.slice (some ⟨b, off, none⟩) len cap, .int .i64 x] w fun e w' => Below w.heap.size w w' ∧ ((∃ f, f ≠ 0 ∧ JoinM.takes bs n k = ([], 0, f) ∧ e = toldJ f) ∨ ∃ g ps q, JoinM.takes bs n k = (ps.map Pt.dat, q, 0) ∧ e = .returned (.tuple #[.slice (some ⟨g, 0, none⟩) n n, .int .i64 (q : Int), .int .i64 0]) ∧ OwnParts w' w.heap.size g n ps) := by
  have HR : Hid (Rd w (some ⟨b, off, none⟩) len bs) := hr
  have HX : Hid ((-9223372036854775808 : Int) ≤ x ∧ x ≤ 9223372036854775807) := hx
  have HT : Hid (Leb.take bs x = (n, k, 0)) := hT
  have HBL : Hid (bs.length = len) := hr.size
  have hk : k ≤ len := by
    obtain ⟨p, _, _, hkl, _, _⟩ := Leb.take_once bs x hr.byte n k hT
    rw [hr.size] at hkl
    exact hkl
  have HBY : Hid (∀ y ∈ bs, y < 256) := hr.byte
  obtain ⟨hblt, hcell⟩ : (len = 0 ∨ b < w.heap.size) ∧ True := by
    refine ⟨?_, trivial⟩
    rcases hr.cells with h | ⟨b', off', hb, hlt, _⟩
    · exact .inl h
    · simp only [Option.some.injEq, Addr.mk.injEq] at hb
      obtain ⟨rfl, _, _⟩ := hb
      exact .inr hlt
  obtain ⟨i1, hi1, hy0, hy1, hy2⟩ := info_parts infoRows
  obtain ⟨i0, hi0, hz0, hz1, hz2⟩ := info_parts infoByte
  clear hr hx hT hcell
  have e0 : ((0 : Int) != 0) = false := rfl
  go_enter Try.func8, Try.ntmps8
  go_wp2_with fail
  refine (octet_TakeUint (some ⟨b, off, none⟩) len cap bs x w HR.out hl HX.out).mono ?_
  rw [HT.out]
  rintro e w1 ⟨rfl, rfl⟩
  unfold told
  have hn' : ¬ 64 < (n : Int) := by omega
  go_wp2_with (at_make; refine wpList_make_full w1 (by rfl) (.tmp 27) (.tmp 27) 22 (by rfl) w1.heap.size 23 i1 (.slice none 0 0) 1 Try.underlying22 hi1 hy0 hy1 .u64 .u64 (n : Int) (n : Int) n (by rfl) (by rfl) rfl rfl (by rw [hy2]; omega) (by unfold maxLen; omega) (Nat.le_refl _) ?_)
  intro w2 hown2 hgrow2
  rw [made_rows] at hown2
  have HO2 : Hid (OwnParts w2 w1.heap.size w1.heap.size n (List.replicate n nilPt)) := ⟨hown2, fun p hp => by rw [List.eq_of_mem_replicate hp]; exact Own.nil _ _⟩
  have HB2 : Hid (Below w1.heap.size w1 w2) := (Below.refl _ _).grown hgrow2 (Nat.le_refl _) (fun k hk => by cases hk)
  clear hown2 hgrow2
  go_wp2
  go_loopw [8, 31] (fun t8 t31 wr => ∃ (i p : Nat) (ps : List Pt), i ≤ n ∧ p ≤ len ∧ t31 = .int .i64 (i : Int) ∧ t8 = .int .i64 (p : Int) ∧ Hid (OwnParts wr w1.heap.size w1.heap.size n (ps ++ List.replicate (n - i) nilPt)) ∧ Hid (ps.length = i) ∧ Hid (JoinM.takes bs n k = JoinM.comb (ps.map Pt.dat) (JoinM.takes bs (n - i) p)) ∧ Hid (Below w1.heap.size w1 wr)) (fun _ t31 _ => n - (intOf t31).toNat)
  case atStart =>
    exact ⟨0, k, [], by omega, hk, rfl, rfl, (by show OwnParts _ _ _ _ _; simpa using HO2.out), rfl, (by show _ = _; rw [Nat.sub_zero, List.map_nil, JoinM.comb_nil]), HB2⟩
  case round =>
    obtain ⟨i, p, ps, hi, hp, rfl, rfl, HO, HPL, HS, HB⟩ := hrel
    by_cases hlt : i < n
    · have hlt' : (i : Int) < (n : Int) := by omega
      rcases hRG : range bs (p : Int) 4096 with ⟨u, v, f⟩
      have HCR : Hid (Calls Try.prog 22 #[.slice (some ⟨b, off, none⟩) len cap, .int .i64 (p : Int), .int .i64 4096] wr fun e w' => e = toldR (u, v, f) ∧ w' = wr) := by
        have := octet_takeRange (some ⟨b, off, none⟩) len cap bs (p : Int) 4096 (by omega) wr (HR.out.below HB.out) hl (by omega)
        rw [hRG] at this
        exact this
      have eni : n - i = (n - (i + 1)) + 1 := by omega
      by_cases hf : f = 0
      · subst hf
        obtain ⟨hu0, huv, hvl, hvu⟩ := range_ok bs (p : Int) 4096 u v HBY.out hRG
        rw [HBL.out] at hvl
        obtain ⟨q, HQ⟩ : ∃ q, Hid (q = v - u) := ⟨_, rfl⟩
        have hvq : v = u + q := by rw [HQ.out]; omega
        subst hvq
        have HS' : Hid (JoinM.takes bs n k = JoinM.comb (ps.map Pt.dat ++ [(bs.drop u).take q]) (JoinM.takes bs (n - (i + 1)) (u + q))) := by
          show _ = _
          have h := HS.out
          rw [eni, JoinM.takes_ok bs _ p u (u + q) hRG, JoinM.comb_comb, show u + q - u = q from by omega] at h
          exact h
        have hbw : b < w1.heap.size := by
          rcases hblt with h | h
          · omega
          · exact h
        obtain ⟨B, HBD⟩ : ∃ B, Hid (B = (bs.drop u).take q) := ⟨_, rfl⟩
        have HRB : Hid (Rd w1 (some ⟨b, off + u, none⟩) q B) := by
          have hr := HR.out
          refine ⟨by rw [HBD.out, List.length_take, List.length_drop, HBL.out]; omega, fun y hy => ?_, ?_⟩
          · rw [HBD.out] at hy
            exact HBY.out y (List.mem_of_mem_drop (List.mem_of_mem_take hy))
          · by_cases hq0 : q = 0
            · exact .inl hq0
            · refine .inr ⟨b, off + u, rfl, hbw, fun j hj => ?_⟩
              rcases hr.cells with h | ⟨b', off', hb, _, hc⟩
              · omega
              · simp only [Option.some.injEq, Addr.mk.injEq] at hb
                obtain ⟨rfl, rfl, _⟩ := hb
                rw [Nat.add_assoc, hc (u + j) (by omega), HBD.out]
                simp only [List.getD_eq_getElem?_getD, List.getElem?_take_of_lt hj, List.getElem?_drop]
        rw [← HBD.out] at HS'
        have hq4 : q ≤ 4096 := by omega
        clear hRG hvu HS
        have g1 : (0 : Int) ≤ (u : Int) := by omega
        have g2 : (u : Int) ≤ (u : Int) + (q : Int) := by omega
        have g3 : (u : Int) + (q : Int) ≤ (cap : Int) := by omega
        have g4 : (u : Int) ≤ max ((u : Int) + (q : Int)) 0 := by omega
        have eq4 : (u : Int) + (q : Int) - (u : Int) = (q : Int) := by omega
        have t1 : ((u : Int) + (q : Int)).toNat = u + q := by omega
        have t2 : u + q - u = q := by omega
        by_cases hcu : cap = u
        · have hq0 : q = 0 := by omega
          subst hcu
          subst hq0
          go_wp2_with fail
          refine HCR.out.mono ?_
          unfold toldR
          rintro e w3 ⟨rfl, rfl⟩
          go_wp2_with (at_make; refine wpList_make_full _ (by rfl) (.tmp 48) (.tmp 48) 23 (by rfl) w1.heap.size 5 i0 (.int .u8 0) 1 Try.underlying23 hi0 hz0 hz1 .i64 .i64 (0 : Int) (0 : Int) 0 (by rfl) (by rfl) rfl rfl (by rw [hz2]; omega) (by unfold maxLen; omega) HB.out.size ?_)
          intro w4 hown4 hgrow4
          rw [made_byte] at hown4
          have HOB : Hid (Own w4 w1.heap.size (some ⟨w3.heap.size, 0, none⟩) 0 0 (List.replicate 0 0)) := ⟨hown4, fun y hy => by rw [List.eq_of_mem_replicate hy]; omega⟩
          have HB34 : Hid (Below w3.heap.size w3 w4) := (Below.refl _ _).grown hgrow4 (Nat.le_refl _) (fun k hk => by cases hk)
          have HO4 : Hid (OwnParts w4 w1.heap.size w1.heap.size n (ps ++ List.replicate (n - i) nilPt)) := HO.out.below HB34.out
          have hcx : w4.cell? ⟨w1.heap.size, i, none⟩ = some (.slice none 0 0) := HO4.out.cell i nilPt (by rw [List.getElem?_append_right (by rw [HPL.out]; omega), HPL.out, List.getElem?_replicate, if_pos (by omega)])
          have hfr : w4.frozen? ⟨w1.heap.size, i, none⟩ = false := HO4.out.free i
          have hgl : w1.heap.size < w3.heap.size := by
            obtain ⟨_, cur, hg⟩ := HO.out.block
            exact (Array.getElem?_eq_some_iff.1 hg).1
          have HB14 : Hid (Below w1.heap.size w1 w4) := HB.out.trans (HB34.out.mono HB.out.size)
          clear hown4 hgrow4
          have HB5 : Hid (Below w1.heap.size w1 (w4.setCell ⟨w1.heap.size, i, none⟩ (.slice (some ⟨w3.heap.size, 0, none⟩) 0 0))) := HB14.out.setCell (Nat.le_refl _) _
          have HOB5 : Hid (Own (w4.setCell ⟨w1.heap.size, i, none⟩ (.slice (some ⟨w3.heap.size, 0, none⟩) 0 0)) w1.heap.size (some ⟨w3.heap.size, 0, none⟩) 0 0 (List.replicate 0 0)) := by
            obtain ⟨_, cur, hg⟩ := HO4.out.block
            exact HOB.out.besides hg i _
          have hcx5 : (w4.setCell ⟨w1.heap.size, i, none⟩ (.slice (some ⟨w3.heap.size, 0, none⟩) 0 0)).cell? ⟨w1.heap.size, i, none⟩ = some (.slice (some ⟨w3.heap.size, 0, none⟩) 0 0) := World.cell?_setCell_same _ _ _ hcx
          obtain ⟨W, HW⟩ : ∃ W, Hid (W = w4.setCell ⟨w1.heap.size, i, none⟩ (.slice (some ⟨w3.heap.size, 0, none⟩) 0 0)) := ⟨_, rfl⟩
          go_wp2
          rw [← HW.out] at HB5 HOB5 hcx5
          rw [← HW.out]
          have HBLL : Hid (B.length = 0) := HRB.out.size
          go_region_held3 (fun w' => w'.cell? ⟨w1.heap.size, i, none⟩ = some (.slice (some ⟨w3.heap.size, 0, none⟩) 0 0)) (first | exact hcx5 | exact hcx6.trans hcx5 | fail)
            (first
              | (refine step_copy_splice (by rfl) (.tmp 54) (.tmp 58) 23 23 (by rfl) 5 Try.underlying23 infoByteSize (some ⟨w3.heap.size, 0, none⟩) (some ⟨b, off, none⟩) 0 0 0 0 (by rfl) (by rfl) w3.heap.size 0 (vb (List.replicate 0 0)) 5 (own_full HOB5.out.drew) (vb B) (by rw [vb_length, HBLL.out]; exact (Nat.min_self 0).symm) (fun hp => by rw [vb_length, HBLL.out] at hp; omega) (by rw [vb_length, vb_length, HBLL.out, List.length_replicate]; omega) (vb_one B) w3.heap.size W (Below.refl _ _).drew (Nat.le_refl _) ?_; intro w6 hg6 hb6; have hcx6 := hb6.cell (p := ⟨w1.heap.size, i, none⟩) hgl))
          have HOB6 : Hid (Own w6 w1.heap.size (some ⟨w3.heap.size, 0, none⟩) 0 0 B) := by
            have h := hg6.out
            rw [vb_splice, List.take_zero, List.nil_append, HBLL.out, Nat.zero_add, List.drop_of_length_le (by simp), List.append_nil] at h
            exact own_of_full h HRB.out.byte HB.out.size (by rw [HBLL.out]; unfold maxLen; omega) 0 HBLL.out
          have HO6 : Hid (OwnParts w6 w1.heap.size w1.heap.size n ((ps ++ [⟨some ⟨w3.heap.size, 0, none⟩, 0, 0, B⟩]) ++ List.replicate (n - (i + 1)) nilPt)) := by
            have h := parts_carry (w3 := w3) (w4 := w4) (w6 := w6) (j := i) ⟨some ⟨w3.heap.size, 0, none⟩, 0, 0, B⟩ HO.out HB34.out (by rw [HW.out] at hb6; exact hb6) HOB6.out
            rw [List.set_append_right _ _ (by rw [HPL.out]; omega), HPL.out, Nat.sub_self, eni, List.replicate_succ, List.set_cons_zero] at h
            show OwnParts _ _ _ _ _
            rw [List.append_assoc]
            exact h
          have HB6 : Hid (Below w1.heap.size w1 w6) := HB5.out.trans (hb6.mono HB.out.size)
          have HPL' : Hid ((ps ++ [(⟨some ⟨w3.heap.size, 0, none⟩, 0, 0, B⟩ : Pt)]).length = i + 1) := by show _ = _; rw [List.length_append, HPL.out]; rfl
          clear hg6 hb6
          go_wp2
          go_roundw
          case rel => exact ⟨i + 1, cap, ps ++ [⟨some ⟨w3.heap.size, 0, none⟩, 0, 0, B⟩], by omega, hvl, by go_num, by go_num, HO6, HPL', (by show _ = _; rw [List.map_append]; exact HS'.out), HB6⟩
          case measure => simp [intOf]; omega
        · have g5 : ¬ cap = u := hcu
          go_wp2_with fail
          refine HCR.out.mono ?_
          unfold toldR
          rintro e w3 ⟨rfl, rfl⟩
          go_wp2_with (at_make; refine wpList_make_full _ (by rfl) (.tmp 48) (.tmp 48) 23 (by rfl) w1.heap.size 5 i0 (.int .u8 0) 1 Try.underlying23 hi0 hz0 hz1 .i64 .i64 (q : Int) (q : Int) q (by rfl) (by rfl) rfl rfl (by rw [hz2]; omega) (by unfold maxLen; omega) HB.out.size ?_)
          intro w4 hown4 hgrow4
          rw [made_byte] at hown4
          have HOB : Hid (Own w4 w1.heap.size (some ⟨w3.heap.size, 0, none⟩) q q (List.replicate q 0)) := ⟨hown4, fun y hy => by rw [List.eq_of_mem_replicate hy]; omega⟩
          have HB34 : Hid (Below w3.heap.size w3 w4) := (Below.refl _ _).grown hgrow4 (Nat.le_refl _) (fun k hk => by cases hk)
          have HO4 : Hid (OwnParts w4 w1.heap.size w1.heap.size n (ps ++ List.replicate (n - i) nilPt)) := HO.out.below HB34.out
          have hcx : w4.cell? ⟨w1.heap.size, i, none⟩ = some (.slice none 0 0) := HO4.out.cell i nilPt (by rw [List.getElem?_append_right (by rw [HPL.out]; omega), HPL.out, List.getElem?_replicate, if_pos (by omega)])
          have hfr : w4.frozen? ⟨w1.heap.size, i, none⟩ = false := HO4.out.free i
          have hgl : w1.heap.size < w3.heap.size := by
            obtain ⟨_, cur, hg⟩ := HO.out.block
            exact (Array.getElem?_eq_some_iff.1 hg).1
          have HB14 : Hid (Below w1.heap.size w1 w4) := HB.out.trans (HB34.out.mono HB.out.size)
          clear hown4 hgrow4
          have HB5 : Hid (Below w1.heap.size w1 (w4.setCell ⟨w1.heap.size, i, none⟩ (.slice (some ⟨w3.heap.size, 0, none⟩) q q))) := HB14.out.setCell (Nat.le_refl _) _
          have HOB5 : Hid (Own (w4.setCell ⟨w1.heap.size, i, none⟩ (.slice (some ⟨w3.heap.size, 0, none⟩) q q)) w1.heap.size (some ⟨w3.heap.size, 0, none⟩) q q (List.replicate q 0)) := by
            obtain ⟨_, cur, hg⟩ := HO4.out.block
            exact HOB.out.besides hg i _
          have hcx5 : (w4.setCell ⟨w1.heap.size, i, none⟩ (.slice (some ⟨w3.heap.size, 0, none⟩) q q)).cell? ⟨w1.heap.size, i, none⟩ = some (.slice (some ⟨w3.heap.size, 0, none⟩) q q) := World.cell?_setCell_same _ _ _ hcx
          obtain ⟨W, HW⟩ : ∃ W, Hid (W = w4.setCell ⟨w1.heap.size, i, none⟩ (.slice (some ⟨w3.heap.size, 0, none⟩) q q)) := ⟨_, rfl⟩
          go_wp2
          rw [← HW.out] at HB5 HOB5 hcx5
          rw [← HW.out]
          have HBLL : Hid (B.length = q) := HRB.out.size
          go_region_held3 (fun w' => w'.cell? ⟨w1.heap.size, i, none⟩ = some (.slice (some ⟨w3.heap.size, 0, none⟩) q q)) (first | exact hcx5 | exact hcx6.trans hcx5 | fail)
            (first
              | (refine step_copy_splice (by rfl) (.tmp 54) (.tmp 58) 23 23 (by rfl) 5 Try.underlying23 infoByteSize (some ⟨w3.heap.size, 0, none⟩) (some ⟨b, off + u, none⟩) q q q (cap - u) (by rfl) (by rfl) w3.heap.size 0 (vb (List.replicate q 0)) 5 (own_full HOB5.out.drew) (vb B) (by rw [vb_length, HBLL.out]; exact (Nat.min_self q).symm) (fun hp => ⟨rfl, ((HRB.out.below HB5.out).drew).copies hp⟩) (by rw [vb_length, vb_length, HBLL.out, List.length_replicate]; omega) (vb_one B) w3.heap.size W (Below.refl _ _).drew (Nat.le_refl _) ?_; intro w6 hg6 hb6; have hcx6 := hb6.cell (p := ⟨w1.heap.size, i, none⟩) hgl))
          have HOB6 : Hid (Own w6 w1.heap.size (some ⟨w3.heap.size, 0, none⟩) q q B) := by
            have h := hg6.out
            rw [vb_splice, List.take_zero, List.nil_append, HBLL.out, Nat.zero_add, List.drop_of_length_le (by simp), List.append_nil] at h
            exact own_of_full h HRB.out.byte HB.out.size (by rw [HBLL.out]; unfold maxLen; omega) q HBLL.out
          have HO6 : Hid (OwnParts w6 w1.heap.size w1.heap.size n ((ps ++ [⟨some ⟨w3.heap.size, 0, none⟩, q, q, B⟩]) ++ List.replicate (n - (i + 1)) nilPt)) := by
            have h := parts_carry (w3 := w3) (w4 := w4) (w6 := w6) (j := i) ⟨some ⟨w3.heap.size, 0, none⟩, q, q, B⟩ HO.out HB34.out (by rw [HW.out] at hb6; exact hb6) HOB6.out
            rw [List.set_append_right _ _ (by rw [HPL.out]; omega), HPL.out, Nat.sub_self, eni, List.replicate_succ, List.set_cons_zero] at h
            show OwnParts _ _ _ _ _
            rw [List.append_assoc]
            exact h
          have HB6 : Hid (Below w1.heap.size w1 w6) := HB5.out.trans (hb6.mono HB.out.size)
          have HPL' : Hid ((ps ++ [(⟨some ⟨w3.heap.size, 0, none⟩, q, q, B⟩ : Pt)]).length = i + 1) := by show _ = _; rw [List.length_append, HPL.out]; rfl
          clear hg6 hb6
          go_wp2
          go_roundw
          case rel => exact ⟨i + 1, u + q, ps ++ [⟨some ⟨w3.heap.size, 0, none⟩, q, q, B⟩], by omega, hvl, by go_num, by go_num, HO6, HPL', (by show _ = _; rw [List.map_append]; exact HS'.out), HB6⟩
          case measure => simp [intOf]; omega
      · have HBAD : Hid (JoinM.takes bs n k = ([], 0, f)) := by
          show _ = _
          have h := HS.out
          rw [eni, JoinM.takes_bad bs _ p u v f hRG hf, JoinM.comb_bad _ f hf] at h
          exact h
        have HF0 : Hid (f ≠ 0) := hf
        have hf' : ((f : Int) != 0) = true := by simp [hf]
        clear hRG HS hf
        go_wp2_with fail
        refine HCR.out.mono ?_
        unfold toldR
        rintro e w3 ⟨rfl, rfl⟩
        go_wp2
        go_ret3
        exact ⟨HB.out, .inl ⟨f, HF0.out, HBAD.out, rfl⟩⟩
    · have hnl : ¬ (i : Int) < (n : Int) := by omega
      go_wp2
      go_ret3
      have e : n - i = 0 := by omega
      have h1 := HS.out
      have h2 := HO.out
      rw [e] at h1 h2
      rw [List.replicate_zero, List.append_nil] at h2
      refine ⟨HB.out, .inr ⟨w1.heap.size, ps, p, ?_, rfl, h2⟩⟩
      rw [h1]
      exact JoinM.comb_end _ _
end Go.Proofs.Ytbhljlafijdodab
