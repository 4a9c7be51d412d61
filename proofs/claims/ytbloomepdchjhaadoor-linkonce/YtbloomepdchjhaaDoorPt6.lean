/- parcel's reader: parcel. -/
import Derived.Test.YtbloomepdchjhaaDoorPtQ
import Derived.Test.YtbloomepdchjhaaDoorPcP
namespace Go.Proofs.YtbloomepdchjhaaDoor
open Go.RowKit

def optF (b : Bool) (bs : List Nat) (s : Rs) : Nat × Rs := if b = true then numF bs 1099511627776 s else (0, s)
def parF (bs : List Nat) (k : Int) (s : Rs) : Pc × Rs :=
  let a := numF bs 1099511627776 s
  let b := optF (subB k) bs a.2
  let c := optF (subB k) bs b.2
  let d := optF (fromB k) bs c.2
  let e := optF (toB k) bs d.2
  let f := if newsB k = true then spF bs e.2 else ([], e.2)
  let g := if newsB k = true then itemsF bs f.2 else ([], f.2)
  (⟨k, a.1, b.1, c.1, d.1, e.1, f.1, g.1⟩, g.2)
/-- All blocks but two stay. -/
structure G2 (w w' : World) (R P : Nat) : Prop where
  all : Below 0 w w'
  blk : ∀ k, k < w.heap.size → k ≠ R → k ≠ P → w'.heap[k]? = w.heap[k]?
theorem G2.refl (w : World) (R P : Nat) : G2 w w R P := ⟨Below.refl _ _, fun _ _ _ _ => rfl⟩
theorem G2.trans {w w1 w2 : World} {R P : Nat} (h : G2 w w1 R P) (h2 : G2 w1 w2 R P) : G2 w w2 R P := ⟨h.all.trans h2.all, fun k hk h3 h4 => (h2.blk k (Nat.lt_of_lt_of_le hk h.all.size) h3 h4).trans (h.blk k hk h3 h4)⟩
theorem G2.of_grown {w w' : World} {R P : Nat} (h : w.grownBy w' (some R)) : G2 w w' R P := ⟨⟨h.os, h.tape, h.output, h.size, fun k hk => absurd hk (Nat.not_lt_zero k)⟩, fun k hk h3 _ => h.block k hk (by simpa using h3)⟩
theorem G2.set (w : World) (R P i : Nat) (v : Value) : G2 w (w.setCell ⟨P, i, none⟩ v) R P := ⟨(Below.refl 0 w).setCell (Nat.zero_le _) v, fun k _ _ h4 => heap_setCell_other w ⟨P, i, none⟩ k v h4⟩
theorem G2.of_below {w w' : World} {R P : Nat} (h : Below w.heap.size w w') : G2 w w' R P := ⟨h.mono (Nat.zero_le _), fun k hk _ _ => h.block k hk⟩
theorem Bk.g2 {w w' : World} {g R P : Nat} {cs : Array Value} {t : TypeId} (h : Bk w g cs t) (hg : G2 w w' R P) (h1 : g ≠ R) (h2 : g ≠ P) : Bk w' g cs t := by
  unfold Bk
  rw [hg.blk g h.lt h1 h2]
  exact h
/-- The bytes stay where a parcel is filled in. -/
theorem Rd.g2 {w w' : World} {a : Option Addr} {len : Nat} {bs : List Nat} {R P : Nat} {b : Option Addr} {l c : Nat} {s : Rs} {k x0 x1 x2 x3 x4 : Int} {v6 v7 : Value} {a6 a7 : Option Addr} {n6 n7 c6 c7 : Nat} (h : Rd w a len bs) (hk : Rdr w R b l c s) (hp : Bk w P #[.int .i64 k, .int .i64 x0, .int .i64 x1, .int .i64 x2, .int .i64 x3, .int .i64 x4, v6, v7] 37) (h6 : v6 = .slice a6 n6 c6) (h7 : v7 = .slice a7 n7 c7) (hg : G2 w w' R P) : Rd w' a len bs := by
  refine ⟨h.size, h.byte, ?_⟩
  rcases h.cells with h0 | ⟨g, off, ha, hgs, hc⟩
  · exact .inl h0
  · by_cases hlen : len = 0
    · exact .inl hlen
    have hne : g ≠ R := by
      rintro rfl
      have h1 := hc 0 (by omega)
      rw [cell_of_row w g (off + 0) _ _ _ hk] at h1
      rcases Nat.lt_or_ge (off + 0) 3 with h3 | h3
      · rcases (show off + 0 = 0 ∨ off + 0 = 1 ∨ off + 0 = 2 from by omega) with h4 | h4 | h4 <;> (rw [h4] at h1; simp at h1)
      · rw [Array.getElem?_eq_none (by simpa using h3)] at h1
        cases h1
    have hnp : g ≠ P := by
      rintro rfl
      have h1 := hc 0 (by omega)
      rw [cell_of_row w g (off + 0) _ _ _ hp] at h1
      subst h6 h7
      rcases Nat.lt_or_ge (off + 0) 8 with h3 | h3
      · rcases (show off + 0 = 0 ∨ off + 0 = 1 ∨ off + 0 = 2 ∨ off + 0 = 3 ∨ off + 0 = 4 ∨ off + 0 = 5 ∨ off + 0 = 6 ∨ off + 0 = 7 from by omega) with h4 | h4 | h4 | h4 | h4 | h4 | h4 | h4 <;> (rw [h4] at h1; simp at h1)
      · rw [Array.getElem?_eq_none (by simpa using h3)] at h1
        cases h1
    refine .inr ⟨g, off, ha, Nat.lt_of_lt_of_le hgs hg.all.size, fun i hi => ?_⟩
    have e : w'.heap[g]? = w.heap[g]? := hg.blk g hgs hne hnp
    have h1 := hc i hi
    unfold World.cell? at h1 ⊢
    simp only at h1 ⊢
    rw [e]
    exact h1
def ParTold (w w' : World) (R P g o len cap : Nat) (r : Pc × Rs) : Prop := ∃ sv iv L, Bk w' P #[.int .i64 r.1.kind, .int .i64 r.1.pub, .int .i64 r.1.sub, .int .i64 r.1.n_, .int .i64 r.1.fr, .int .i64 r.1.to_, sv, iv] 37 ∧ Sps w' w.heap.size sv r.1.spans ∧ Its w' w.heap.size iv L ∧ L.map Prod.fst = r.1.items ∧ Rdr w' R (some ⟨g, o, none⟩) len cap r.2 ∧ G2 w w' R P

set_option maxRecDepth 100000 in
set_option maxHeartbeats 8000000 in
theorem rd_parcel_want (k : Int) (hk0 : k = 2) (R P g o len cap : Nat) (bs : List Nat) (s : Rs) (w : World) (hk : Rdr w R (some ⟨g, o, none⟩) len cap s) (hp : Bk w P #[.int .i64 k, .int .i64 0, .int .i64 0, .int .i64 0, .int .i64 0, .int .i64 0, .slice none 0 0, .slice none 0 0] 37) (hne : P ≠ R) (hr : Rd w (some ⟨g, o, none⟩) len bs) (hlc : len ≤ cap) (hl : len ≤ 140737488351232) (hx : s.fine bs) :
    Calls Tryd.prog 55 #[.pointer (some ⟨R, 0, none⟩), .pointer (some ⟨P, 0, none⟩), .agg #[.bool false, .bool true, .bool true, .bool false]] w fun e w' => e = .returned (.tuple #[]) ∧ Hid (ParTold w w' R P g o len cap (parF bs k s)) := by
  have hks : subB k = false ∧ fromB k = true ∧ toB k = true ∧ newsB k = false := by
    subst hk0
    decide
  obtain ⟨T, HT⟩ : ∃ T, Hid (T = parF bs k s) := ⟨_, rfl⟩
  rw [← HT.out]
  have HR0 : Hid (Rd w (some ⟨g, o, none⟩) len bs) := hr
  have HBY : Hid (∀ z ∈ bs, z < 256) := hr.byte
  have HLC : Hid (len ≤ cap ∧ len ≤ 140737488351232) := ⟨hlc, hl⟩
  have HNE : Hid (P ≠ R) := hne
  have HRL : Hid (R < w.heap.size ∧ P < w.heap.size) := ⟨Bk.lt hk, hp.lt⟩
  obtain ⟨xa, hxa⟩ : ∃ x, x = numF bs 1099511627776 s := ⟨_, rfl⟩
  obtain ⟨xd, hxd⟩ : ∃ x, x = numF bs 1099511627776 xa.2 := ⟨_, rfl⟩
  obtain ⟨xe, hxe⟩ : ∃ x, x = numF bs 1099511627776 xd.2 := ⟨_, rfl⟩
  have HTE : Hid (T = (⟨k, (xa.1 : Nat), (0 : Nat), (0 : Nat), (xd.1 : Nat), (xe.1 : Nat), [], []⟩, xe.2)) := by
    show _ = _
    rw [HT.out]
    simp only [parF, optF, hks.1, hks.2.1, hks.2.2.1, hks.2.2.2, if_true]
    rw [hxe, hxd, hxa]
    simp
  have HEa : Hid (xa = numF bs 1099511627776 s) := hxa
  have HFa : Hid (xa.2.fine bs) := by rw [hxa]; exact numF_fine HBY.out
  have HEd : Hid (xd = numF bs 1099511627776 xa.2) := hxd
  have HFd : Hid (xd.2.fine bs) := by rw [hxd]; exact numF_fine HBY.out
  have HEe : Hid (xe = numF bs 1099511627776 xd.2) := hxe
  have HFe : Hid (xe.2.fine bs) := by rw [hxe]; exact numF_fine HBY.out
  clear hxa hxd hxe HT
  obtain ⟨na, sa⟩ := xa
  obtain ⟨nd, sd⟩ := xd
  obtain ⟨ne, se⟩ := xe
  simp only at HEa HFa HEd HFd HEe HFe HTE
  have HFs : Hid (s.fine bs) := hx
  obtain ⟨w0, HW0⟩ : ∃ w0, Hid (w0 = w.alloc (.cells #[.bool false, .bool true, .bool true, .bool false] 86)) := ⟨_, rfl⟩
  have HK0 : Hid (Rdr w0 R (some ⟨g, o, none⟩) len cap s) := by rw [HW0.out]; exact Bk.stay hk (below_new _ _)
  have HP0 : Hid (Bk w0 P #[.int .i64 k, .int .i64 0, .int .i64 0, .int .i64 0, .int .i64 0, .int .i64 0, .slice none 0 0, .slice none 0 0] 37) := by rw [HW0.out]; exact hp.stay (below_new _ _)
  have HU0 : Hid (Bk w0 w.heap.size #[.bool false, .bool true, .bool true, .bool false] 86) := by rw [HW0.out]; exact Bk.new _ _ _
  have HG0 : Hid (G2 w w0 R P) := by rw [HW0.out]; exact G2.of_below (below_new _ _)
  have HRD0 : Hid (Rd w0 (some ⟨g, o, none⟩) len bs) := by rw [HW0.out]; exact hr.below (below_new _ _)
  have HNU : Hid (w.heap.size ≠ R ∧ w.heap.size ≠ P) := by have := HRL.out; constructor <;> omega
  have HB0 : Hid (w.heap.size ≤ w0.heap.size) := HG0.out.all.size
  clear hr hk hp hx hne hlc hl hk0 hks
  go_enter Tryd.func55, Tryd.ntmps55
  go_wp2_with fail
  rw [← HW0.out]
  refine (rd_number R (some ⟨g, o, none⟩) len cap bs s 1099511627776 w0 HK0.out HRD0.out HLC.out.2 HFs.out (by omega)).mono ?_
  rw [← HEa.out]
  rintro e v1 ⟨he, hk1, hg1⟩
  subst he
  have HKx : Hid (Rdr v1 R (some ⟨g, o, none⟩) len cap sa) := hk1
  have HPx : Hid (Bk v1 P #[.int .i64 k, .int .i64 0, .int .i64 0, .int .i64 0, .int .i64 0, .int .i64 0, .slice none 0 0, .slice none 0 0] 37) := HP0.out.grown hg1 (by have := HNE.out; simpa using this)
  have HUx : Hid (Bk v1 w.heap.size #[.bool false, .bool true, .bool true, .bool false] 86) := HU0.out.grown hg1 (by have := HNU.out.1; simpa using this)
  have HGx : Hid (G2 w v1 R P) := HG0.out.trans (G2.of_grown hg1)
  have HRDx : Hid (Rd v1 (some ⟨g, o, none⟩) len bs) := HRD0.out.grown HK0.out hg1
  have p1 : v1.cell? ⟨P, 1, none⟩ = some (.int .i64 0) := HPx.out.cell 1 rfl
  have q1 : v1.frozen? ⟨P, 1, none⟩ = false := HPx.out.free 1
  obtain ⟨w1, HW1⟩ : ∃ w', Hid (w' = (v1.setCell ⟨P, 1, none⟩ (.int .i64 (na : Int)))) := ⟨_, rfl⟩
  have HK1 : Hid (Rdr w1 R (some ⟨g, o, none⟩) len cap sa) := by rw [HW1.out]; exact Bk.other HKx.out _ _ (Ne.symm HNE.out)
  have HP1 : Hid (Bk w1 P #[.int .i64 k, .int .i64 (na : Int), .int .i64 0, .int .i64 0, .int .i64 0, .int .i64 0, .slice none 0 0, .slice none 0 0] 37) := by rw [HW1.out]; exact HPx.out.set 1 _
  have HU1 : Hid (Bk w1 w.heap.size #[.bool false, .bool true, .bool true, .bool false] 86) := by rw [HW1.out]; exact HUx.out.other _ _ HNU.out.2
  have HG1 : Hid (G2 w w1 R P) := by rw [HW1.out]; exact HGx.out.trans (G2.set _ _ _ _ _)
  have HRD1 : Hid (Rd w1 (some ⟨g, o, none⟩) len bs) := by rw [HW1.out]; exact Rd.g2 HRDx.out HKx.out HPx.out rfl rfl (G2.set _ _ _ _ _)
  clear hk1 hg1 HKx HPx HUx HGx HRDx HK0 HP0 HU0 HG0 HRD0
  have ud0 : (v1.setCell ⟨P, 1, none⟩ (.int .i64 (na : Int))).cell? ⟨w.heap.size, 0, none⟩ = some (.bool false) := by rw [← HW1.out]; exact HU1.out.cell 0 rfl
  have ud1 : (v1.setCell ⟨P, 1, none⟩ (.int .i64 (na : Int))).cell? ⟨w.heap.size, 1, none⟩ = some (.bool true) := by rw [← HW1.out]; exact HU1.out.cell 1 rfl
  go_wp2_with fail
  rw [← HW1.out]
  refine (rd_number R (some ⟨g, o, none⟩) len cap bs sa 1099511627776 w1 HK1.out HRD1.out HLC.out.2 HFa.out (by omega)).mono ?_
  rw [← HEd.out]
  rintro e v2 ⟨he, hk2, hg2⟩
  subst he
  have HKx : Hid (Rdr v2 R (some ⟨g, o, none⟩) len cap sd) := hk2
  have HPx : Hid (Bk v2 P #[.int .i64 k, .int .i64 (na : Int), .int .i64 0, .int .i64 0, .int .i64 0, .int .i64 0, .slice none 0 0, .slice none 0 0] 37) := HP1.out.grown hg2 (by have := HNE.out; simpa using this)
  have HUx : Hid (Bk v2 w.heap.size #[.bool false, .bool true, .bool true, .bool false] 86) := HU1.out.grown hg2 (by have := HNU.out.1; simpa using this)
  have HGx : Hid (G2 w v2 R P) := HG1.out.trans (G2.of_grown hg2)
  have HRDx : Hid (Rd v2 (some ⟨g, o, none⟩) len bs) := HRD1.out.grown HK1.out hg2
  clear ud0 ud1
  have p2 : v2.cell? ⟨P, 4, none⟩ = some (.int .i64 0) := HPx.out.cell 4 rfl
  have q2 : v2.frozen? ⟨P, 4, none⟩ = false := HPx.out.free 4
  obtain ⟨w2, HW2⟩ : ∃ w', Hid (w' = (v2.setCell ⟨P, 4, none⟩ (.int .i64 (nd : Int)))) := ⟨_, rfl⟩
  have HK2 : Hid (Rdr w2 R (some ⟨g, o, none⟩) len cap sd) := by rw [HW2.out]; exact Bk.other HKx.out _ _ (Ne.symm HNE.out)
  have HP2 : Hid (Bk w2 P #[.int .i64 k, .int .i64 (na : Int), .int .i64 0, .int .i64 0, .int .i64 (nd : Int), .int .i64 0, .slice none 0 0, .slice none 0 0] 37) := by rw [HW2.out]; exact HPx.out.set 4 _
  have HU2 : Hid (Bk w2 w.heap.size #[.bool false, .bool true, .bool true, .bool false] 86) := by rw [HW2.out]; exact HUx.out.other _ _ HNU.out.2
  have HG2 : Hid (G2 w w2 R P) := by rw [HW2.out]; exact HGx.out.trans (G2.set _ _ _ _ _)
  have HRD2 : Hid (Rd w2 (some ⟨g, o, none⟩) len bs) := by rw [HW2.out]; exact Rd.g2 HRDx.out HKx.out HPx.out rfl rfl (G2.set _ _ _ _ _)
  clear hk2 hg2 HKx HPx HUx HGx HRDx HK1 HP1 HU1 HG1 HRD1
  have ue2 : (v2.setCell ⟨P, 4, none⟩ (.int .i64 (nd : Int))).cell? ⟨w.heap.size, 2, none⟩ = some (.bool true) := by rw [← HW2.out]; exact HU2.out.cell 2 rfl
  go_wp2_with fail
  rw [← HW2.out]
  refine (rd_number R (some ⟨g, o, none⟩) len cap bs sd 1099511627776 w2 HK2.out HRD2.out HLC.out.2 HFd.out (by omega)).mono ?_
  rw [← HEe.out]
  rintro e v3 ⟨he, hk3, hg3⟩
  subst he
  have HKx : Hid (Rdr v3 R (some ⟨g, o, none⟩) len cap se) := hk3
  have HPx : Hid (Bk v3 P #[.int .i64 k, .int .i64 (na : Int), .int .i64 0, .int .i64 0, .int .i64 (nd : Int), .int .i64 0, .slice none 0 0, .slice none 0 0] 37) := HP2.out.grown hg3 (by have := HNE.out; simpa using this)
  have HUx : Hid (Bk v3 w.heap.size #[.bool false, .bool true, .bool true, .bool false] 86) := HU2.out.grown hg3 (by have := HNU.out.1; simpa using this)
  have HGx : Hid (G2 w v3 R P) := HG2.out.trans (G2.of_grown hg3)
  have HRDx : Hid (Rd v3 (some ⟨g, o, none⟩) len bs) := HRD2.out.grown HK2.out hg3
  clear ue2
  have p3 : v3.cell? ⟨P, 5, none⟩ = some (.int .i64 0) := HPx.out.cell 5 rfl
  have q3 : v3.frozen? ⟨P, 5, none⟩ = false := HPx.out.free 5
  obtain ⟨w3, HW3⟩ : ∃ w', Hid (w' = (v3.setCell ⟨P, 5, none⟩ (.int .i64 (ne : Int)))) := ⟨_, rfl⟩
  have HK3 : Hid (Rdr w3 R (some ⟨g, o, none⟩) len cap se) := by rw [HW3.out]; exact Bk.other HKx.out _ _ (Ne.symm HNE.out)
  have HP3 : Hid (Bk w3 P #[.int .i64 k, .int .i64 (na : Int), .int .i64 0, .int .i64 0, .int .i64 (nd : Int), .int .i64 (ne : Int), .slice none 0 0, .slice none 0 0] 37) := by rw [HW3.out]; exact HPx.out.set 5 _
  have HU3 : Hid (Bk w3 w.heap.size #[.bool false, .bool true, .bool true, .bool false] 86) := by rw [HW3.out]; exact HUx.out.other _ _ HNU.out.2
  have HG3 : Hid (G2 w w3 R P) := by rw [HW3.out]; exact HGx.out.trans (G2.set _ _ _ _ _)
  have HRD3 : Hid (Rd w3 (some ⟨g, o, none⟩) len bs) := by rw [HW3.out]; exact Rd.g2 HRDx.out HKx.out HPx.out rfl rfl (G2.set _ _ _ _ _)
  clear hk3 hg3 HKx HPx HUx HGx HRDx HK2 HP2 HU2 HG2 HRD2
  have uz3 : (v3.setCell ⟨P, 5, none⟩ (.int .i64 (ne : Int))).cell? ⟨w.heap.size, 3, none⟩ = some (.bool false) := by rw [← HW3.out]; exact HU3.out.cell 3 rfl
  go_wp2
  rw [← HW3.out]
  go_returns
  rw [HTE.out]
  exact ⟨rfl, .slice none 0 0, .slice none 0 0, [], HP3.out, Sps.nil_ _ _, Its.nil_ _ _, rfl, HK3.out, HG3.out⟩

set_option maxRecDepth 100000 in
set_option maxHeartbeats 8000000 in
theorem rd_parcel_ack (k : Int) (hk0 : k = 3 ∨ k = 5) (R P g o len cap : Nat) (bs : List Nat) (s : Rs) (w : World) (hk : Rdr w R (some ⟨g, o, none⟩) len cap s) (hp : Bk w P #[.int .i64 k, .int .i64 0, .int .i64 0, .int .i64 0, .int .i64 0, .int .i64 0, .slice none 0 0, .slice none 0 0] 37) (hne : P ≠ R) (hr : Rd w (some ⟨g, o, none⟩) len bs) (hlc : len ≤ cap) (hl : len ≤ 140737488351232) (hx : s.fine bs) :
    Calls Tryd.prog 55 #[.pointer (some ⟨R, 0, none⟩), .pointer (some ⟨P, 0, none⟩), .agg #[.bool true, .bool true, .bool false, .bool false]] w fun e w' => e = .returned (.tuple #[]) ∧ Hid (ParTold w w' R P g o len cap (parF bs k s)) := by
  have hks : subB k = true ∧ fromB k = true ∧ toB k = false ∧ newsB k = false := by
    rcases hk0 with rfl | rfl <;> decide
  obtain ⟨T, HT⟩ : ∃ T, Hid (T = parF bs k s) := ⟨_, rfl⟩
  rw [← HT.out]
  have HR0 : Hid (Rd w (some ⟨g, o, none⟩) len bs) := hr
  have HBY : Hid (∀ z ∈ bs, z < 256) := hr.byte
  have HLC : Hid (len ≤ cap ∧ len ≤ 140737488351232) := ⟨hlc, hl⟩
  have HNE : Hid (P ≠ R) := hne
  have HRL : Hid (R < w.heap.size ∧ P < w.heap.size) := ⟨Bk.lt hk, hp.lt⟩
  obtain ⟨xa, hxa⟩ : ∃ x, x = numF bs 1099511627776 s := ⟨_, rfl⟩
  obtain ⟨xb, hxb⟩ : ∃ x, x = numF bs 1099511627776 xa.2 := ⟨_, rfl⟩
  obtain ⟨xc, hxc⟩ : ∃ x, x = numF bs 1099511627776 xb.2 := ⟨_, rfl⟩
  obtain ⟨xd, hxd⟩ : ∃ x, x = numF bs 1099511627776 xc.2 := ⟨_, rfl⟩
  have HTE : Hid (T = (⟨k, (xa.1 : Nat), (xb.1 : Nat), (xc.1 : Nat), (xd.1 : Nat), (0 : Nat), [], []⟩, xd.2)) := by
    show _ = _
    rw [HT.out]
    simp only [parF, optF, hks.1, hks.2.1, hks.2.2.1, hks.2.2.2, if_true]
    rw [hxd, hxc, hxb, hxa]
    simp
  have HEa : Hid (xa = numF bs 1099511627776 s) := hxa
  have HFa : Hid (xa.2.fine bs) := by rw [hxa]; exact numF_fine HBY.out
  have HEb : Hid (xb = numF bs 1099511627776 xa.2) := hxb
  have HFb : Hid (xb.2.fine bs) := by rw [hxb]; exact numF_fine HBY.out
  have HEc : Hid (xc = numF bs 1099511627776 xb.2) := hxc
  have HFc : Hid (xc.2.fine bs) := by rw [hxc]; exact numF_fine HBY.out
  have HEd : Hid (xd = numF bs 1099511627776 xc.2) := hxd
  have HFd : Hid (xd.2.fine bs) := by rw [hxd]; exact numF_fine HBY.out
  clear hxa hxb hxc hxd HT
  obtain ⟨na, sa⟩ := xa
  obtain ⟨nb, sb⟩ := xb
  obtain ⟨nc, sc⟩ := xc
  obtain ⟨nd, sd⟩ := xd
  simp only at HEa HFa HEb HFb HEc HFc HEd HFd HTE
  have HFs : Hid (s.fine bs) := hx
  obtain ⟨w0, HW0⟩ : ∃ w0, Hid (w0 = w.alloc (.cells #[.bool true, .bool true, .bool false, .bool false] 86)) := ⟨_, rfl⟩
  have HK0 : Hid (Rdr w0 R (some ⟨g, o, none⟩) len cap s) := by rw [HW0.out]; exact Bk.stay hk (below_new _ _)
  have HP0 : Hid (Bk w0 P #[.int .i64 k, .int .i64 0, .int .i64 0, .int .i64 0, .int .i64 0, .int .i64 0, .slice none 0 0, .slice none 0 0] 37) := by rw [HW0.out]; exact hp.stay (below_new _ _)
  have HU0 : Hid (Bk w0 w.heap.size #[.bool true, .bool true, .bool false, .bool false] 86) := by rw [HW0.out]; exact Bk.new _ _ _
  have HG0 : Hid (G2 w w0 R P) := by rw [HW0.out]; exact G2.of_below (below_new _ _)
  have HRD0 : Hid (Rd w0 (some ⟨g, o, none⟩) len bs) := by rw [HW0.out]; exact hr.below (below_new _ _)
  have HNU : Hid (w.heap.size ≠ R ∧ w.heap.size ≠ P) := by have := HRL.out; constructor <;> omega
  have HB0 : Hid (w.heap.size ≤ w0.heap.size) := HG0.out.all.size
  clear hr hk hp hx hne hlc hl hk0 hks
  go_enter Tryd.func55, Tryd.ntmps55
  go_wp2_with fail
  rw [← HW0.out]
  refine (rd_number R (some ⟨g, o, none⟩) len cap bs s 1099511627776 w0 HK0.out HRD0.out HLC.out.2 HFs.out (by omega)).mono ?_
  rw [← HEa.out]
  rintro e v1 ⟨he, hk1, hg1⟩
  subst he
  have HKx : Hid (Rdr v1 R (some ⟨g, o, none⟩) len cap sa) := hk1
  have HPx : Hid (Bk v1 P #[.int .i64 k, .int .i64 0, .int .i64 0, .int .i64 0, .int .i64 0, .int .i64 0, .slice none 0 0, .slice none 0 0] 37) := HP0.out.grown hg1 (by have := HNE.out; simpa using this)
  have HUx : Hid (Bk v1 w.heap.size #[.bool true, .bool true, .bool false, .bool false] 86) := HU0.out.grown hg1 (by have := HNU.out.1; simpa using this)
  have HGx : Hid (G2 w v1 R P) := HG0.out.trans (G2.of_grown hg1)
  have HRDx : Hid (Rd v1 (some ⟨g, o, none⟩) len bs) := HRD0.out.grown HK0.out hg1
  have p1 : v1.cell? ⟨P, 1, none⟩ = some (.int .i64 0) := HPx.out.cell 1 rfl
  have q1 : v1.frozen? ⟨P, 1, none⟩ = false := HPx.out.free 1
  obtain ⟨w1, HW1⟩ : ∃ w', Hid (w' = (v1.setCell ⟨P, 1, none⟩ (.int .i64 (na : Int)))) := ⟨_, rfl⟩
  have HK1 : Hid (Rdr w1 R (some ⟨g, o, none⟩) len cap sa) := by rw [HW1.out]; exact Bk.other HKx.out _ _ (Ne.symm HNE.out)
  have HP1 : Hid (Bk w1 P #[.int .i64 k, .int .i64 (na : Int), .int .i64 0, .int .i64 0, .int .i64 0, .int .i64 0, .slice none 0 0, .slice none 0 0] 37) := by rw [HW1.out]; exact HPx.out.set 1 _
  have HU1 : Hid (Bk w1 w.heap.size #[.bool true, .bool true, .bool false, .bool false] 86) := by rw [HW1.out]; exact HUx.out.other _ _ HNU.out.2
  have HG1 : Hid (G2 w w1 R P) := by rw [HW1.out]; exact HGx.out.trans (G2.set _ _ _ _ _)
  have HRD1 : Hid (Rd w1 (some ⟨g, o, none⟩) len bs) := by rw [HW1.out]; exact Rd.g2 HRDx.out HKx.out HPx.out rfl rfl (G2.set _ _ _ _ _)
  clear hk1 hg1 HKx HPx HUx HGx HRDx HK0 HP0 HU0 HG0 HRD0
  have ub0 : (v1.setCell ⟨P, 1, none⟩ (.int .i64 (na : Int))).cell? ⟨w.heap.size, 0, none⟩ = some (.bool true) := by rw [← HW1.out]; exact HU1.out.cell 0 rfl
  go_wp2_with fail
  rw [← HW1.out]
  refine (rd_number R (some ⟨g, o, none⟩) len cap bs sa 1099511627776 w1 HK1.out HRD1.out HLC.out.2 HFa.out (by omega)).mono ?_
  rw [← HEb.out]
  rintro e v2 ⟨he, hk2, hg2⟩
  subst he
  have HKx : Hid (Rdr v2 R (some ⟨g, o, none⟩) len cap sb) := hk2
  have HPx : Hid (Bk v2 P #[.int .i64 k, .int .i64 (na : Int), .int .i64 0, .int .i64 0, .int .i64 0, .int .i64 0, .slice none 0 0, .slice none 0 0] 37) := HP1.out.grown hg2 (by have := HNE.out; simpa using this)
  have HUx : Hid (Bk v2 w.heap.size #[.bool true, .bool true, .bool false, .bool false] 86) := HU1.out.grown hg2 (by have := HNU.out.1; simpa using this)
  have HGx : Hid (G2 w v2 R P) := HG1.out.trans (G2.of_grown hg2)
  have HRDx : Hid (Rd v2 (some ⟨g, o, none⟩) len bs) := HRD1.out.grown HK1.out hg2
  clear ub0
  have p2 : v2.cell? ⟨P, 2, none⟩ = some (.int .i64 0) := HPx.out.cell 2 rfl
  have q2 : v2.frozen? ⟨P, 2, none⟩ = false := HPx.out.free 2
  obtain ⟨w2, HW2⟩ : ∃ w', Hid (w' = (v2.setCell ⟨P, 2, none⟩ (.int .i64 (nb : Int)))) := ⟨_, rfl⟩
  have HK2 : Hid (Rdr w2 R (some ⟨g, o, none⟩) len cap sb) := by rw [HW2.out]; exact Bk.other HKx.out _ _ (Ne.symm HNE.out)
  have HP2 : Hid (Bk w2 P #[.int .i64 k, .int .i64 (na : Int), .int .i64 (nb : Int), .int .i64 0, .int .i64 0, .int .i64 0, .slice none 0 0, .slice none 0 0] 37) := by rw [HW2.out]; exact HPx.out.set 2 _
  have HU2 : Hid (Bk w2 w.heap.size #[.bool true, .bool true, .bool false, .bool false] 86) := by rw [HW2.out]; exact HUx.out.other _ _ HNU.out.2
  have HG2 : Hid (G2 w w2 R P) := by rw [HW2.out]; exact HGx.out.trans (G2.set _ _ _ _ _)
  have HRD2 : Hid (Rd w2 (some ⟨g, o, none⟩) len bs) := by rw [HW2.out]; exact Rd.g2 HRDx.out HKx.out HPx.out rfl rfl (G2.set _ _ _ _ _)
  clear hk2 hg2 HKx HPx HUx HGx HRDx HK1 HP1 HU1 HG1 HRD1
  go_wp2_with fail
  rw [← HW2.out]
  refine (rd_number R (some ⟨g, o, none⟩) len cap bs sb 1099511627776 w2 HK2.out HRD2.out HLC.out.2 HFb.out (by omega)).mono ?_
  rw [← HEc.out]
  rintro e v3 ⟨he, hk3, hg3⟩
  subst he
  have HKx : Hid (Rdr v3 R (some ⟨g, o, none⟩) len cap sc) := hk3
  have HPx : Hid (Bk v3 P #[.int .i64 k, .int .i64 (na : Int), .int .i64 (nb : Int), .int .i64 0, .int .i64 0, .int .i64 0, .slice none 0 0, .slice none 0 0] 37) := HP2.out.grown hg3 (by have := HNE.out; simpa using this)
  have HUx : Hid (Bk v3 w.heap.size #[.bool true, .bool true, .bool false, .bool false] 86) := HU2.out.grown hg3 (by have := HNU.out.1; simpa using this)
  have HGx : Hid (G2 w v3 R P) := HG2.out.trans (G2.of_grown hg3)
  have HRDx : Hid (Rd v3 (some ⟨g, o, none⟩) len bs) := HRD2.out.grown HK2.out hg3
  have p3 : v3.cell? ⟨P, 3, none⟩ = some (.int .i64 0) := HPx.out.cell 3 rfl
  have q3 : v3.frozen? ⟨P, 3, none⟩ = false := HPx.out.free 3
  obtain ⟨w3, HW3⟩ : ∃ w', Hid (w' = (v3.setCell ⟨P, 3, none⟩ (.int .i64 (nc : Int)))) := ⟨_, rfl⟩
  have HK3 : Hid (Rdr w3 R (some ⟨g, o, none⟩) len cap sc) := by rw [HW3.out]; exact Bk.other HKx.out _ _ (Ne.symm HNE.out)
  have HP3 : Hid (Bk w3 P #[.int .i64 k, .int .i64 (na : Int), .int .i64 (nb : Int), .int .i64 (nc : Int), .int .i64 0, .int .i64 0, .slice none 0 0, .slice none 0 0] 37) := by rw [HW3.out]; exact HPx.out.set 3 _
  have HU3 : Hid (Bk w3 w.heap.size #[.bool true, .bool true, .bool false, .bool false] 86) := by rw [HW3.out]; exact HUx.out.other _ _ HNU.out.2
  have HG3 : Hid (G2 w w3 R P) := by rw [HW3.out]; exact HGx.out.trans (G2.set _ _ _ _ _)
  have HRD3 : Hid (Rd w3 (some ⟨g, o, none⟩) len bs) := by rw [HW3.out]; exact Rd.g2 HRDx.out HKx.out HPx.out rfl rfl (G2.set _ _ _ _ _)
  clear hk3 hg3 HKx HPx HUx HGx HRDx HK2 HP2 HU2 HG2 HRD2
  have ud1 : (v3.setCell ⟨P, 3, none⟩ (.int .i64 (nc : Int))).cell? ⟨w.heap.size, 1, none⟩ = some (.bool true) := by rw [← HW3.out]; exact HU3.out.cell 1 rfl
  go_wp2_with fail
  rw [← HW3.out]
  refine (rd_number R (some ⟨g, o, none⟩) len cap bs sc 1099511627776 w3 HK3.out HRD3.out HLC.out.2 HFc.out (by omega)).mono ?_
  rw [← HEd.out]
  rintro e v4 ⟨he, hk4, hg4⟩
  subst he
  have HKx : Hid (Rdr v4 R (some ⟨g, o, none⟩) len cap sd) := hk4
  have HPx : Hid (Bk v4 P #[.int .i64 k, .int .i64 (na : Int), .int .i64 (nb : Int), .int .i64 (nc : Int), .int .i64 0, .int .i64 0, .slice none 0 0, .slice none 0 0] 37) := HP3.out.grown hg4 (by have := HNE.out; simpa using this)
  have HUx : Hid (Bk v4 w.heap.size #[.bool true, .bool true, .bool false, .bool false] 86) := HU3.out.grown hg4 (by have := HNU.out.1; simpa using this)
  have HGx : Hid (G2 w v4 R P) := HG3.out.trans (G2.of_grown hg4)
  have HRDx : Hid (Rd v4 (some ⟨g, o, none⟩) len bs) := HRD3.out.grown HK3.out hg4
  clear ud1
  have p4 : v4.cell? ⟨P, 4, none⟩ = some (.int .i64 0) := HPx.out.cell 4 rfl
  have q4 : v4.frozen? ⟨P, 4, none⟩ = false := HPx.out.free 4
  obtain ⟨w4, HW4⟩ : ∃ w', Hid (w' = (v4.setCell ⟨P, 4, none⟩ (.int .i64 (nd : Int)))) := ⟨_, rfl⟩
  have HK4 : Hid (Rdr w4 R (some ⟨g, o, none⟩) len cap sd) := by rw [HW4.out]; exact Bk.other HKx.out _ _ (Ne.symm HNE.out)
  have HP4 : Hid (Bk w4 P #[.int .i64 k, .int .i64 (na : Int), .int .i64 (nb : Int), .int .i64 (nc : Int), .int .i64 (nd : Int), .int .i64 0, .slice none 0 0, .slice none 0 0] 37) := by rw [HW4.out]; exact HPx.out.set 4 _
  have HU4 : Hid (Bk w4 w.heap.size #[.bool true, .bool true, .bool false, .bool false] 86) := by rw [HW4.out]; exact HUx.out.other _ _ HNU.out.2
  have HG4 : Hid (G2 w w4 R P) := by rw [HW4.out]; exact HGx.out.trans (G2.set _ _ _ _ _)
  have HRD4 : Hid (Rd w4 (some ⟨g, o, none⟩) len bs) := by rw [HW4.out]; exact Rd.g2 HRDx.out HKx.out HPx.out rfl rfl (G2.set _ _ _ _ _)
  clear hk4 hg4 HKx HPx HUx HGx HRDx HK3 HP3 HU3 HG3 HRD3
  have uz2 : (v4.setCell ⟨P, 4, none⟩ (.int .i64 (nd : Int))).cell? ⟨w.heap.size, 2, none⟩ = some (.bool false) := by rw [← HW4.out]; exact HU4.out.cell 2 rfl
  have uz3 : (v4.setCell ⟨P, 4, none⟩ (.int .i64 (nd : Int))).cell? ⟨w.heap.size, 3, none⟩ = some (.bool false) := by rw [← HW4.out]; exact HU4.out.cell 3 rfl
  go_wp2
  rw [← HW4.out]
  go_returns
  rw [HTE.out]
  exact ⟨rfl, .slice none 0 0, .slice none 0 0, [], HP4.out, Sps.nil_ _ _, Its.nil_ _ _, rfl, HK4.out, HG4.out⟩

set_option maxRecDepth 100000 in
set_option maxHeartbeats 8000000 in
theorem rd_parcel_join (k : Int) (hk0 : k = 4 ∨ k = 6) (R P g o len cap : Nat) (bs : List Nat) (s : Rs) (w : World) (hk : Rdr w R (some ⟨g, o, none⟩) len cap s) (hp : Bk w P #[.int .i64 k, .int .i64 0, .int .i64 0, .int .i64 0, .int .i64 0, .int .i64 0, .slice none 0 0, .slice none 0 0] 37) (hne : P ≠ R) (hr : Rd w (some ⟨g, o, none⟩) len bs) (hlc : len ≤ cap) (hl : len ≤ 140737488351232) (hx : s.fine bs) :
    Calls Tryd.prog 55 #[.pointer (some ⟨R, 0, none⟩), .pointer (some ⟨P, 0, none⟩), .agg #[.bool true, .bool false, .bool false, .bool false]] w fun e w' => e = .returned (.tuple #[]) ∧ Hid (ParTold w w' R P g o len cap (parF bs k s)) := by
  have hks : subB k = true ∧ fromB k = false ∧ toB k = false ∧ newsB k = false := by
    rcases hk0 with rfl | rfl <;> decide
  obtain ⟨T, HT⟩ : ∃ T, Hid (T = parF bs k s) := ⟨_, rfl⟩
  rw [← HT.out]
  have HR0 : Hid (Rd w (some ⟨g, o, none⟩) len bs) := hr
  have HBY : Hid (∀ z ∈ bs, z < 256) := hr.byte
  have HLC : Hid (len ≤ cap ∧ len ≤ 140737488351232) := ⟨hlc, hl⟩
  have HNE : Hid (P ≠ R) := hne
  have HRL : Hid (R < w.heap.size ∧ P < w.heap.size) := ⟨Bk.lt hk, hp.lt⟩
  obtain ⟨xa, hxa⟩ : ∃ x, x = numF bs 1099511627776 s := ⟨_, rfl⟩
  obtain ⟨xb, hxb⟩ : ∃ x, x = numF bs 1099511627776 xa.2 := ⟨_, rfl⟩
  obtain ⟨xc, hxc⟩ : ∃ x, x = numF bs 1099511627776 xb.2 := ⟨_, rfl⟩
  have HTE : Hid (T = (⟨k, (xa.1 : Nat), (xb.1 : Nat), (xc.1 : Nat), (0 : Nat), (0 : Nat), [], []⟩, xc.2)) := by
    show _ = _
    rw [HT.out]
    simp only [parF, optF, hks.1, hks.2.1, hks.2.2.1, hks.2.2.2, if_true]
    rw [hxc, hxb, hxa]
    simp
  have HEa : Hid (xa = numF bs 1099511627776 s) := hxa
  have HFa : Hid (xa.2.fine bs) := by rw [hxa]; exact numF_fine HBY.out
  have HEb : Hid (xb = numF bs 1099511627776 xa.2) := hxb
  have HFb : Hid (xb.2.fine bs) := by rw [hxb]; exact numF_fine HBY.out
  have HEc : Hid (xc = numF bs 1099511627776 xb.2) := hxc
  have HFc : Hid (xc.2.fine bs) := by rw [hxc]; exact numF_fine HBY.out
  clear hxa hxb hxc HT
  obtain ⟨na, sa⟩ := xa
  obtain ⟨nb, sb⟩ := xb
  obtain ⟨nc, sc⟩ := xc
  simp only at HEa HFa HEb HFb HEc HFc HTE
  have HFs : Hid (s.fine bs) := hx
  obtain ⟨w0, HW0⟩ : ∃ w0, Hid (w0 = w.alloc (.cells #[.bool true, .bool false, .bool false, .bool false] 86)) := ⟨_, rfl⟩
  have HK0 : Hid (Rdr w0 R (some ⟨g, o, none⟩) len cap s) := by rw [HW0.out]; exact Bk.stay hk (below_new _ _)
  have HP0 : Hid (Bk w0 P #[.int .i64 k, .int .i64 0, .int .i64 0, .int .i64 0, .int .i64 0, .int .i64 0, .slice none 0 0, .slice none 0 0] 37) := by rw [HW0.out]; exact hp.stay (below_new _ _)
  have HU0 : Hid (Bk w0 w.heap.size #[.bool true, .bool false, .bool false, .bool false] 86) := by rw [HW0.out]; exact Bk.new _ _ _
  have HG0 : Hid (G2 w w0 R P) := by rw [HW0.out]; exact G2.of_below (below_new _ _)
  have HRD0 : Hid (Rd w0 (some ⟨g, o, none⟩) len bs) := by rw [HW0.out]; exact hr.below (below_new _ _)
  have HNU : Hid (w.heap.size ≠ R ∧ w.heap.size ≠ P) := by have := HRL.out; constructor <;> omega
  have HB0 : Hid (w.heap.size ≤ w0.heap.size) := HG0.out.all.size
  clear hr hk hp hx hne hlc hl hk0 hks
  go_enter Tryd.func55, Tryd.ntmps55
  go_wp2_with fail
  rw [← HW0.out]
  refine (rd_number R (some ⟨g, o, none⟩) len cap bs s 1099511627776 w0 HK0.out HRD0.out HLC.out.2 HFs.out (by omega)).mono ?_
  rw [← HEa.out]
  rintro e v1 ⟨he, hk1, hg1⟩
  subst he
  have HKx : Hid (Rdr v1 R (some ⟨g, o, none⟩) len cap sa) := hk1
  have HPx : Hid (Bk v1 P #[.int .i64 k, .int .i64 0, .int .i64 0, .int .i64 0, .int .i64 0, .int .i64 0, .slice none 0 0, .slice none 0 0] 37) := HP0.out.grown hg1 (by have := HNE.out; simpa using this)
  have HUx : Hid (Bk v1 w.heap.size #[.bool true, .bool false, .bool false, .bool false] 86) := HU0.out.grown hg1 (by have := HNU.out.1; simpa using this)
  have HGx : Hid (G2 w v1 R P) := HG0.out.trans (G2.of_grown hg1)
  have HRDx : Hid (Rd v1 (some ⟨g, o, none⟩) len bs) := HRD0.out.grown HK0.out hg1
  have p1 : v1.cell? ⟨P, 1, none⟩ = some (.int .i64 0) := HPx.out.cell 1 rfl
  have q1 : v1.frozen? ⟨P, 1, none⟩ = false := HPx.out.free 1
  obtain ⟨w1, HW1⟩ : ∃ w', Hid (w' = (v1.setCell ⟨P, 1, none⟩ (.int .i64 (na : Int)))) := ⟨_, rfl⟩
  have HK1 : Hid (Rdr w1 R (some ⟨g, o, none⟩) len cap sa) := by rw [HW1.out]; exact Bk.other HKx.out _ _ (Ne.symm HNE.out)
  have HP1 : Hid (Bk w1 P #[.int .i64 k, .int .i64 (na : Int), .int .i64 0, .int .i64 0, .int .i64 0, .int .i64 0, .slice none 0 0, .slice none 0 0] 37) := by rw [HW1.out]; exact HPx.out.set 1 _
  have HU1 : Hid (Bk w1 w.heap.size #[.bool true, .bool false, .bool false, .bool false] 86) := by rw [HW1.out]; exact HUx.out.other _ _ HNU.out.2
  have HG1 : Hid (G2 w w1 R P) := by rw [HW1.out]; exact HGx.out.trans (G2.set _ _ _ _ _)
  have HRD1 : Hid (Rd w1 (some ⟨g, o, none⟩) len bs) := by rw [HW1.out]; exact Rd.g2 HRDx.out HKx.out HPx.out rfl rfl (G2.set _ _ _ _ _)
  clear hk1 hg1 HKx HPx HUx HGx HRDx HK0 HP0 HU0 HG0 HRD0
  have ub0 : (v1.setCell ⟨P, 1, none⟩ (.int .i64 (na : Int))).cell? ⟨w.heap.size, 0, none⟩ = some (.bool true) := by rw [← HW1.out]; exact HU1.out.cell 0 rfl
  go_wp2_with fail
  rw [← HW1.out]
  refine (rd_number R (some ⟨g, o, none⟩) len cap bs sa 1099511627776 w1 HK1.out HRD1.out HLC.out.2 HFa.out (by omega)).mono ?_
  rw [← HEb.out]
  rintro e v2 ⟨he, hk2, hg2⟩
  subst he
  have HKx : Hid (Rdr v2 R (some ⟨g, o, none⟩) len cap sb) := hk2
  have HPx : Hid (Bk v2 P #[.int .i64 k, .int .i64 (na : Int), .int .i64 0, .int .i64 0, .int .i64 0, .int .i64 0, .slice none 0 0, .slice none 0 0] 37) := HP1.out.grown hg2 (by have := HNE.out; simpa using this)
  have HUx : Hid (Bk v2 w.heap.size #[.bool true, .bool false, .bool false, .bool false] 86) := HU1.out.grown hg2 (by have := HNU.out.1; simpa using this)
  have HGx : Hid (G2 w v2 R P) := HG1.out.trans (G2.of_grown hg2)
  have HRDx : Hid (Rd v2 (some ⟨g, o, none⟩) len bs) := HRD1.out.grown HK1.out hg2
  clear ub0
  have p2 : v2.cell? ⟨P, 2, none⟩ = some (.int .i64 0) := HPx.out.cell 2 rfl
  have q2 : v2.frozen? ⟨P, 2, none⟩ = false := HPx.out.free 2
  obtain ⟨w2, HW2⟩ : ∃ w', Hid (w' = (v2.setCell ⟨P, 2, none⟩ (.int .i64 (nb : Int)))) := ⟨_, rfl⟩
  have HK2 : Hid (Rdr w2 R (some ⟨g, o, none⟩) len cap sb) := by rw [HW2.out]; exact Bk.other HKx.out _ _ (Ne.symm HNE.out)
  have HP2 : Hid (Bk w2 P #[.int .i64 k, .int .i64 (na : Int), .int .i64 (nb : Int), .int .i64 0, .int .i64 0, .int .i64 0, .slice none 0 0, .slice none 0 0] 37) := by rw [HW2.out]; exact HPx.out.set 2 _
  have HU2 : Hid (Bk w2 w.heap.size #[.bool true, .bool false, .bool false, .bool false] 86) := by rw [HW2.out]; exact HUx.out.other _ _ HNU.out.2
  have HG2 : Hid (G2 w w2 R P) := by rw [HW2.out]; exact HGx.out.trans (G2.set _ _ _ _ _)
  have HRD2 : Hid (Rd w2 (some ⟨g, o, none⟩) len bs) := by rw [HW2.out]; exact Rd.g2 HRDx.out HKx.out HPx.out rfl rfl (G2.set _ _ _ _ _)
  clear hk2 hg2 HKx HPx HUx HGx HRDx HK1 HP1 HU1 HG1 HRD1
  go_wp2_with fail
  rw [← HW2.out]
  refine (rd_number R (some ⟨g, o, none⟩) len cap bs sb 1099511627776 w2 HK2.out HRD2.out HLC.out.2 HFb.out (by omega)).mono ?_
  rw [← HEc.out]
  rintro e v3 ⟨he, hk3, hg3⟩
  subst he
  have HKx : Hid (Rdr v3 R (some ⟨g, o, none⟩) len cap sc) := hk3
  have HPx : Hid (Bk v3 P #[.int .i64 k, .int .i64 (na : Int), .int .i64 (nb : Int), .int .i64 0, .int .i64 0, .int .i64 0, .slice none 0 0, .slice none 0 0] 37) := HP2.out.grown hg3 (by have := HNE.out; simpa using this)
  have HUx : Hid (Bk v3 w.heap.size #[.bool true, .bool false, .bool false, .bool false] 86) := HU2.out.grown hg3 (by have := HNU.out.1; simpa using this)
  have HGx : Hid (G2 w v3 R P) := HG2.out.trans (G2.of_grown hg3)
  have HRDx : Hid (Rd v3 (some ⟨g, o, none⟩) len bs) := HRD2.out.grown HK2.out hg3
  have p3 : v3.cell? ⟨P, 3, none⟩ = some (.int .i64 0) := HPx.out.cell 3 rfl
  have q3 : v3.frozen? ⟨P, 3, none⟩ = false := HPx.out.free 3
  obtain ⟨w3, HW3⟩ : ∃ w', Hid (w' = (v3.setCell ⟨P, 3, none⟩ (.int .i64 (nc : Int)))) := ⟨_, rfl⟩
  have HK3 : Hid (Rdr w3 R (some ⟨g, o, none⟩) len cap sc) := by rw [HW3.out]; exact Bk.other HKx.out _ _ (Ne.symm HNE.out)
  have HP3 : Hid (Bk w3 P #[.int .i64 k, .int .i64 (na : Int), .int .i64 (nb : Int), .int .i64 (nc : Int), .int .i64 0, .int .i64 0, .slice none 0 0, .slice none 0 0] 37) := by rw [HW3.out]; exact HPx.out.set 3 _
  have HU3 : Hid (Bk w3 w.heap.size #[.bool true, .bool false, .bool false, .bool false] 86) := by rw [HW3.out]; exact HUx.out.other _ _ HNU.out.2
  have HG3 : Hid (G2 w w3 R P) := by rw [HW3.out]; exact HGx.out.trans (G2.set _ _ _ _ _)
  have HRD3 : Hid (Rd w3 (some ⟨g, o, none⟩) len bs) := by rw [HW3.out]; exact Rd.g2 HRDx.out HKx.out HPx.out rfl rfl (G2.set _ _ _ _ _)
  clear hk3 hg3 HKx HPx HUx HGx HRDx HK2 HP2 HU2 HG2 HRD2
  have uz1 : (v3.setCell ⟨P, 3, none⟩ (.int .i64 (nc : Int))).cell? ⟨w.heap.size, 1, none⟩ = some (.bool false) := by rw [← HW3.out]; exact HU3.out.cell 1 rfl
  have uz2 : (v3.setCell ⟨P, 3, none⟩ (.int .i64 (nc : Int))).cell? ⟨w.heap.size, 2, none⟩ = some (.bool false) := by rw [← HW3.out]; exact HU3.out.cell 2 rfl
  have uz3 : (v3.setCell ⟨P, 3, none⟩ (.int .i64 (nc : Int))).cell? ⟨w.heap.size, 3, none⟩ = some (.bool false) := by rw [← HW3.out]; exact HU3.out.cell 3 rfl
  go_wp2
  rw [← HW3.out]
  go_returns
  rw [HTE.out]
  exact ⟨rfl, .slice none 0 0, .slice none 0 0, [], HP3.out, Sps.nil_ _ _, Its.nil_ _ _, rfl, HK3.out, HG3.out⟩

set_option maxRecDepth 100000 in
set_option maxHeartbeats 8000000 in
theorem rd_parcel_tell (k : Int) (hk0 : k = 1) (R P g o len cap : Nat) (bs : List Nat) (s : Rs) (w : World) (hk : Rdr w R (some ⟨g, o, none⟩) len cap s) (hp : Bk w P #[.int .i64 k, .int .i64 0, .int .i64 0, .int .i64 0, .int .i64 0, .int .i64 0, .slice none 0 0, .slice none 0 0] 37) (hne : P ≠ R) (hr : Rd w (some ⟨g, o, none⟩) len bs) (hlc : len ≤ cap) (hl : len ≤ 140737488351232) (hx : s.fine bs) :
    Calls Tryd.prog 55 #[.pointer (some ⟨R, 0, none⟩), .pointer (some ⟨P, 0, none⟩), .agg #[.bool false, .bool true, .bool true, .bool true]] w fun e w' => e = .returned (.tuple #[]) ∧ Hid (ParTold w w' R P g o len cap (parF bs k s)) := by
  have hks : subB k = false ∧ fromB k = true ∧ toB k = true ∧ newsB k = true := by
    subst hk0
    decide
  obtain ⟨T, HT⟩ : ∃ T, Hid (T = parF bs k s) := ⟨_, rfl⟩
  rw [← HT.out]
  have HR0 : Hid (Rd w (some ⟨g, o, none⟩) len bs) := hr
  have HBY : Hid (∀ z ∈ bs, z < 256) := hr.byte
  have HLC : Hid (len ≤ cap ∧ len ≤ 140737488351232) := ⟨hlc, hl⟩
  have HNE : Hid (P ≠ R) := hne
  have HRL : Hid (R < w.heap.size ∧ P < w.heap.size) := ⟨Bk.lt hk, hp.lt⟩
  obtain ⟨xa, hxa⟩ : ∃ x, x = numF bs 1099511627776 s := ⟨_, rfl⟩
  obtain ⟨xd, hxd⟩ : ∃ x, x = numF bs 1099511627776 xa.2 := ⟨_, rfl⟩
  obtain ⟨xe, hxe⟩ : ∃ x, x = numF bs 1099511627776 xd.2 := ⟨_, rfl⟩
  obtain ⟨xf, hxf⟩ : ∃ x, x = spF bs xe.2 := ⟨_, rfl⟩
  obtain ⟨xg, hxg⟩ : ∃ x, x = itemsF bs xf.2 := ⟨_, rfl⟩
  have HTE : Hid (T = (⟨k, (xa.1 : Nat), (0 : Nat), (0 : Nat), (xd.1 : Nat), (xe.1 : Nat), xf.1, xg.1⟩, xg.2)) := by
    show _ = _
    rw [HT.out]
    simp only [parF, optF, hks.1, hks.2.1, hks.2.2.1, hks.2.2.2, if_true]
    rw [hxg, hxf]
    rw [hxe, hxd, hxa]
    simp
  have HEa : Hid (xa = numF bs 1099511627776 s) := hxa
  have HFa : Hid (xa.2.fine bs) := by rw [hxa]; exact numF_fine HBY.out
  have HEd : Hid (xd = numF bs 1099511627776 xa.2) := hxd
  have HFd : Hid (xd.2.fine bs) := by rw [hxd]; exact numF_fine HBY.out
  have HEe : Hid (xe = numF bs 1099511627776 xd.2) := hxe
  have HFe : Hid (xe.2.fine bs) := by rw [hxe]; exact numF_fine HBY.out
  have HEf : Hid (xf = spF bs xe.2) := hxf
  have HFf : Hid (xf.2.fine bs) := by rw [hxf]; exact spF_fine HBY.out HFe.out
  have HEg : Hid (xg = itemsF bs xf.2) := hxg
  clear hxa hxd hxe hxf hxg HT
  obtain ⟨na, sa⟩ := xa
  obtain ⟨nd, sd⟩ := xd
  obtain ⟨ne, se⟩ := xe
  obtain ⟨lf, sf⟩ := xf
  obtain ⟨lg, sg⟩ := xg
  simp only at HEa HFa HEd HFd HEe HFe HEf HFf HEg HTE
  have HFs : Hid (s.fine bs) := hx
  obtain ⟨w0, HW0⟩ : ∃ w0, Hid (w0 = w.alloc (.cells #[.bool false, .bool true, .bool true, .bool true] 86)) := ⟨_, rfl⟩
  have HK0 : Hid (Rdr w0 R (some ⟨g, o, none⟩) len cap s) := by rw [HW0.out]; exact Bk.stay hk (below_new _ _)
  have HP0 : Hid (Bk w0 P #[.int .i64 k, .int .i64 0, .int .i64 0, .int .i64 0, .int .i64 0, .int .i64 0, .slice none 0 0, .slice none 0 0] 37) := by rw [HW0.out]; exact hp.stay (below_new _ _)
  have HU0 : Hid (Bk w0 w.heap.size #[.bool false, .bool true, .bool true, .bool true] 86) := by rw [HW0.out]; exact Bk.new _ _ _
  have HG0 : Hid (G2 w w0 R P) := by rw [HW0.out]; exact G2.of_below (below_new _ _)
  have HRD0 : Hid (Rd w0 (some ⟨g, o, none⟩) len bs) := by rw [HW0.out]; exact hr.below (below_new _ _)
  have HNU : Hid (w.heap.size ≠ R ∧ w.heap.size ≠ P) := by have := HRL.out; constructor <;> omega
  have HB0 : Hid (w.heap.size ≤ w0.heap.size) := HG0.out.all.size
  clear hr hk hp hx hne hlc hl hk0 hks
  go_enter Tryd.func55, Tryd.ntmps55
  go_wp2_with fail
  rw [← HW0.out]
  refine (rd_number R (some ⟨g, o, none⟩) len cap bs s 1099511627776 w0 HK0.out HRD0.out HLC.out.2 HFs.out (by omega)).mono ?_
  rw [← HEa.out]
  rintro e v1 ⟨he, hk1, hg1⟩
  subst he
  have HKx : Hid (Rdr v1 R (some ⟨g, o, none⟩) len cap sa) := hk1
  have HPx : Hid (Bk v1 P #[.int .i64 k, .int .i64 0, .int .i64 0, .int .i64 0, .int .i64 0, .int .i64 0, .slice none 0 0, .slice none 0 0] 37) := HP0.out.grown hg1 (by have := HNE.out; simpa using this)
  have HUx : Hid (Bk v1 w.heap.size #[.bool false, .bool true, .bool true, .bool true] 86) := HU0.out.grown hg1 (by have := HNU.out.1; simpa using this)
  have HGx : Hid (G2 w v1 R P) := HG0.out.trans (G2.of_grown hg1)
  have HRDx : Hid (Rd v1 (some ⟨g, o, none⟩) len bs) := HRD0.out.grown HK0.out hg1
  have p1 : v1.cell? ⟨P, 1, none⟩ = some (.int .i64 0) := HPx.out.cell 1 rfl
  have q1 : v1.frozen? ⟨P, 1, none⟩ = false := HPx.out.free 1
  obtain ⟨w1, HW1⟩ : ∃ w', Hid (w' = (v1.setCell ⟨P, 1, none⟩ (.int .i64 (na : Int)))) := ⟨_, rfl⟩
  have HK1 : Hid (Rdr w1 R (some ⟨g, o, none⟩) len cap sa) := by rw [HW1.out]; exact Bk.other HKx.out _ _ (Ne.symm HNE.out)
  have HP1 : Hid (Bk w1 P #[.int .i64 k, .int .i64 (na : Int), .int .i64 0, .int .i64 0, .int .i64 0, .int .i64 0, .slice none 0 0, .slice none 0 0] 37) := by rw [HW1.out]; exact HPx.out.set 1 _
  have HU1 : Hid (Bk w1 w.heap.size #[.bool false, .bool true, .bool true, .bool true] 86) := by rw [HW1.out]; exact HUx.out.other _ _ HNU.out.2
  have HG1 : Hid (G2 w w1 R P) := by rw [HW1.out]; exact HGx.out.trans (G2.set _ _ _ _ _)
  have HRD1 : Hid (Rd w1 (some ⟨g, o, none⟩) len bs) := by rw [HW1.out]; exact Rd.g2 HRDx.out HKx.out HPx.out rfl rfl (G2.set _ _ _ _ _)
  clear hk1 hg1 HKx HPx HUx HGx HRDx HK0 HP0 HU0 HG0 HRD0
  have ud0 : (v1.setCell ⟨P, 1, none⟩ (.int .i64 (na : Int))).cell? ⟨w.heap.size, 0, none⟩ = some (.bool false) := by rw [← HW1.out]; exact HU1.out.cell 0 rfl
  have ud1 : (v1.setCell ⟨P, 1, none⟩ (.int .i64 (na : Int))).cell? ⟨w.heap.size, 1, none⟩ = some (.bool true) := by rw [← HW1.out]; exact HU1.out.cell 1 rfl
  go_wp2_with fail
  rw [← HW1.out]
  refine (rd_number R (some ⟨g, o, none⟩) len cap bs sa 1099511627776 w1 HK1.out HRD1.out HLC.out.2 HFa.out (by omega)).mono ?_
  rw [← HEd.out]
  rintro e v2 ⟨he, hk2, hg2⟩
  subst he
  have HKx : Hid (Rdr v2 R (some ⟨g, o, none⟩) len cap sd) := hk2
  have HPx : Hid (Bk v2 P #[.int .i64 k, .int .i64 (na : Int), .int .i64 0, .int .i64 0, .int .i64 0, .int .i64 0, .slice none 0 0, .slice none 0 0] 37) := HP1.out.grown hg2 (by have := HNE.out; simpa using this)
  have HUx : Hid (Bk v2 w.heap.size #[.bool false, .bool true, .bool true, .bool true] 86) := HU1.out.grown hg2 (by have := HNU.out.1; simpa using this)
  have HGx : Hid (G2 w v2 R P) := HG1.out.trans (G2.of_grown hg2)
  have HRDx : Hid (Rd v2 (some ⟨g, o, none⟩) len bs) := HRD1.out.grown HK1.out hg2
  clear ud0 ud1
  have p2 : v2.cell? ⟨P, 4, none⟩ = some (.int .i64 0) := HPx.out.cell 4 rfl
  have q2 : v2.frozen? ⟨P, 4, none⟩ = false := HPx.out.free 4
  obtain ⟨w2, HW2⟩ : ∃ w', Hid (w' = (v2.setCell ⟨P, 4, none⟩ (.int .i64 (nd : Int)))) := ⟨_, rfl⟩
  have HK2 : Hid (Rdr w2 R (some ⟨g, o, none⟩) len cap sd) := by rw [HW2.out]; exact Bk.other HKx.out _ _ (Ne.symm HNE.out)
  have HP2 : Hid (Bk w2 P #[.int .i64 k, .int .i64 (na : Int), .int .i64 0, .int .i64 0, .int .i64 (nd : Int), .int .i64 0, .slice none 0 0, .slice none 0 0] 37) := by rw [HW2.out]; exact HPx.out.set 4 _
  have HU2 : Hid (Bk w2 w.heap.size #[.bool false, .bool true, .bool true, .bool true] 86) := by rw [HW2.out]; exact HUx.out.other _ _ HNU.out.2
  have HG2 : Hid (G2 w w2 R P) := by rw [HW2.out]; exact HGx.out.trans (G2.set _ _ _ _ _)
  have HRD2 : Hid (Rd w2 (some ⟨g, o, none⟩) len bs) := by rw [HW2.out]; exact Rd.g2 HRDx.out HKx.out HPx.out rfl rfl (G2.set _ _ _ _ _)
  clear hk2 hg2 HKx HPx HUx HGx HRDx HK1 HP1 HU1 HG1 HRD1
  have ue2 : (v2.setCell ⟨P, 4, none⟩ (.int .i64 (nd : Int))).cell? ⟨w.heap.size, 2, none⟩ = some (.bool true) := by rw [← HW2.out]; exact HU2.out.cell 2 rfl
  go_wp2_with fail
  rw [← HW2.out]
  refine (rd_number R (some ⟨g, o, none⟩) len cap bs sd 1099511627776 w2 HK2.out HRD2.out HLC.out.2 HFd.out (by omega)).mono ?_
  rw [← HEe.out]
  rintro e v3 ⟨he, hk3, hg3⟩
  subst he
  have HKx : Hid (Rdr v3 R (some ⟨g, o, none⟩) len cap se) := hk3
  have HPx : Hid (Bk v3 P #[.int .i64 k, .int .i64 (na : Int), .int .i64 0, .int .i64 0, .int .i64 (nd : Int), .int .i64 0, .slice none 0 0, .slice none 0 0] 37) := HP2.out.grown hg3 (by have := HNE.out; simpa using this)
  have HUx : Hid (Bk v3 w.heap.size #[.bool false, .bool true, .bool true, .bool true] 86) := HU2.out.grown hg3 (by have := HNU.out.1; simpa using this)
  have HGx : Hid (G2 w v3 R P) := HG2.out.trans (G2.of_grown hg3)
  have HRDx : Hid (Rd v3 (some ⟨g, o, none⟩) len bs) := HRD2.out.grown HK2.out hg3
  clear ue2
  have p3 : v3.cell? ⟨P, 5, none⟩ = some (.int .i64 0) := HPx.out.cell 5 rfl
  have q3 : v3.frozen? ⟨P, 5, none⟩ = false := HPx.out.free 5
  obtain ⟨w3, HW3⟩ : ∃ w', Hid (w' = (v3.setCell ⟨P, 5, none⟩ (.int .i64 (ne : Int)))) := ⟨_, rfl⟩
  have HK3 : Hid (Rdr w3 R (some ⟨g, o, none⟩) len cap se) := by rw [HW3.out]; exact Bk.other HKx.out _ _ (Ne.symm HNE.out)
  have HP3 : Hid (Bk w3 P #[.int .i64 k, .int .i64 (na : Int), .int .i64 0, .int .i64 0, .int .i64 (nd : Int), .int .i64 (ne : Int), .slice none 0 0, .slice none 0 0] 37) := by rw [HW3.out]; exact HPx.out.set 5 _
  have HU3 : Hid (Bk w3 w.heap.size #[.bool false, .bool true, .bool true, .bool true] 86) := by rw [HW3.out]; exact HUx.out.other _ _ HNU.out.2
  have HG3 : Hid (G2 w w3 R P) := by rw [HW3.out]; exact HGx.out.trans (G2.set _ _ _ _ _)
  have HRD3 : Hid (Rd w3 (some ⟨g, o, none⟩) len bs) := by rw [HW3.out]; exact Rd.g2 HRDx.out HKx.out HPx.out rfl rfl (G2.set _ _ _ _ _)
  clear hk3 hg3 HKx HPx HUx HGx HRDx HK2 HP2 HU2 HG2 HRD2
  have uz3 : (v3.setCell ⟨P, 5, none⟩ (.int .i64 (ne : Int))).cell? ⟨w.heap.size, 3, none⟩ = some (.bool true) := by rw [← HW3.out]; exact HU3.out.cell 3 rfl
  go_wp2_with fail
  rw [← HW3.out]
  refine (rd_spans R (some ⟨g, o, none⟩) len cap bs se w3 HK3.out HRD3.out HLC.out.2 HFe.out).mono ?_
  rw [← HEf.out]
  rintro e v4 ⟨⟨sv, he, hs4⟩, hk4, hg4⟩
  subst he
  obtain ⟨asv, csv, rfl, _⟩ := hs4.out.form
  have HSx : Hid (Sps v4 w.heap.size (.slice asv lf.length csv) lf) := hs4.out.lower HG3.out.all.size
  have HKx : Hid (Rdr v4 R (some ⟨g, o, none⟩) len cap sf) := hk4
  have HPx : Hid (Bk v4 P #[.int .i64 k, .int .i64 (na : Int), .int .i64 0, .int .i64 0, .int .i64 (nd : Int), .int .i64 (ne : Int), .slice none 0 0, .slice none 0 0] 37) := HP3.out.grown hg4 (by have := HNE.out; simpa using this)
  have HGx : Hid (G2 w v4 R P) := HG3.out.trans (G2.of_grown hg4)
  have HRDx : Hid (Rd v4 (some ⟨g, o, none⟩) len bs) := HRD3.out.grown HK3.out hg4
  clear uz3
  have p4 : v4.cell? ⟨P, 6, none⟩ = some (.slice none 0 0) := HPx.out.cell 6 rfl
  have q4 : v4.frozen? ⟨P, 6, none⟩ = false := HPx.out.free 6
  obtain ⟨w4, HW4⟩ : ∃ w', Hid (w' = (v4.setCell ⟨P, 6, none⟩ (.slice asv lf.length csv))) := ⟨_, rfl⟩
  have HK4 : Hid (Rdr w4 R (some ⟨g, o, none⟩) len cap sf) := by rw [HW4.out]; exact Bk.other HKx.out _ _ (Ne.symm HNE.out)
  have HP4 : Hid (Bk w4 P #[.int .i64 k, .int .i64 (na : Int), .int .i64 0, .int .i64 0, .int .i64 (nd : Int), .int .i64 (ne : Int), .slice asv lf.length csv, .slice none 0 0] 37) := by rw [HW4.out]; exact HPx.out.set 6 _
  have HG4 : Hid (G2 w w4 R P) := by rw [HW4.out]; exact HGx.out.trans (G2.set _ _ _ _ _)
  have HS4 : Hid (Sps w4 w.heap.size (.slice asv lf.length csv) lf) := by rw [HW4.out]; exact HSx.out.under _ _ HRL.out.2
  have HRD4 : Hid (Rd w4 (some ⟨g, o, none⟩) len bs) := by rw [HW4.out]; exact Rd.g2 HRDx.out HKx.out HPx.out rfl rfl (G2.set _ _ _ _ _)
  clear hs4 hk4 hg4 HKx HPx HGx HRDx HSx HK3 HP3 HU3 HG3 HRD3
  go_wp2_with fail
  rw [← HW4.out]
  refine (rd_items R g o len cap bs sf w4 HK4.out HRD4.out HLC.out.1 HLC.out.2 HFf.out).mono ?_
  rw [← HEg.out]
  rintro e v9 ⟨⟨iv, he, hi9⟩, hk9, hg9⟩
  subst he
  obtain ⟨LI, hi9, hm9⟩ := hi9.out
  obtain ⟨aiv, civ, rfl, _, _⟩ := hi9.form
  have HMX : Hid (LI.map Prod.fst = lg) := hm9
  have HIx : Hid (Its v9 w4.heap.size (.slice aiv LI.length civ) LI) := hi9
  have HKx : Hid (Rdr v9 R (some ⟨g, o, none⟩) len cap sg) := hk9
  have HPx : Hid (Bk v9 P #[.int .i64 k, .int .i64 (na : Int), .int .i64 0, .int .i64 0, .int .i64 (nd : Int), .int .i64 (ne : Int), .slice asv lf.length csv, .slice none 0 0] 37) := HP4.out.grown hg9 (by have := HNE.out; simpa using this)
  have HGx : Hid (G2 w v9 R P) := HG4.out.trans (G2.of_grown hg9)
  have HSx : Hid (Sps v9 w.heap.size (.slice asv lf.length csv) lf) := HS4.out.frame fun k hb hk => hg9.block k hk (fun e => by have h1 := HRL.out.1; simp only [Option.some.injEq] at e; omega)
  have p9 : v9.cell? ⟨P, 7, none⟩ = some (.slice none 0 0) := HPx.out.cell 7 rfl
  have q9 : v9.frozen? ⟨P, 7, none⟩ = false := HPx.out.free 7
  clear hi9 hm9 hk9 hg9
  go_wp2
  go_returns
  rw [HTE.out]
  exact ⟨rfl, _, _, LI, HPx.out.set 7 _, HSx.out.under _ _ HRL.out.2, (Its.lower HIx.out HG4.out.all.size).under _ _ HRL.out.2, HMX.out, Bk.other HKx.out _ _ (Ne.symm HNE.out), HGx.out.trans (G2.set _ _ _ _ _)⟩

end Go.Proofs.YtbloomepdchjhaaDoor
