/- evlog: tidy, where at most one segment is used and nothing is to be wiped. -/
import Derived.Test.YtghajmcohdedlaaEvL14
namespace Go.Proofs.Ytghajmcohdedlaa
open Go.RowKit

/-- A block of another type is none of the disk's own two. -/
theorem Disk.off {w : World} {base g gs k : Nat} {wv : Value} {D : Dk} {cs : Array Value} {t : TypeId} {fr : Nat × Nat} (h : Disk w base g gs wv D) (hk : w.heap[k]? = some (.cells cs t fr)) (h1 : t ≠ 44) (h2 : t ≠ 70) : k ≠ g ∧ k ≠ gs := by
  constructor
  · intro e
    subst e
    have := h.blk
    unfold Blk at this
    rw [this] at hk
    cases hk
    exact h1 rfl
  · intro e
    subst e
    have := h.srow
    unfold Blk at this
    rw [this] at hk
    cases hk
    exact h2 rfl
theorem Mv.row {w w' : World} {base0 base g gs : Nat} {wv v : Value} {D : Dk} {e : TypeId} {size n : Nat} {xs : List Value} (hm : Mv w w' base g gs) (hd : Disk w base g gs wv D) (h : w.ownsRow base0 e size v n xs) (h1 : e ≠ 44) (h2 : e ≠ 70) (h3 : e ≠ 72) : w'.ownsRow base0 e size v n xs := by
  refine ⟨h.1, ?_⟩
  rcases h.2 with q | ⟨gg, cp, cur, q1, q2, q3, q4⟩
  · exact .inl q
  · exact .inr ⟨gg, cp, cur, q1, q2, hm.block gg cur e _ (hd.off q3 h1 h2).1 (hd.off q3 h1 h2).2 q3 h3, q4⟩
theorem Bd.mv {w w' : World} {B base g gs n : Nat} {wv : Value} {D : Dk} {a : Option Addr} {bs : List Nat} (h : Bd w B a n bs) (hd : Disk w base g gs wv D) (hm : Mv w w' base g gs) : Bd w' B a n bs := by
  rcases h.2 with h0 | ⟨g', off, cs, fr, rfl, hB, hb⟩
  · exact ⟨⟨h.1.size, h.1.byte, .inl h0⟩, .inl h0⟩
  · have hb' : w'.heap[g']? = some (.cells cs 5 fr) := hm.block g' cs _ _ (hd.off hb (by decide) (by decide)).1 (hd.off hb (by decide) (by decide)).2 hb (by decide)
    refine ⟨⟨h.1.size, h.1.byte, ?_⟩, .inr ⟨g', off, cs, fr, rfl, hB, hb'⟩⟩
    rcases h.1.cells with h0 | ⟨g2, o, e, hg, hc⟩
    · exact .inl h0
    · cases e
      refine .inr ⟨g', off, rfl, heap_lt hb', fun i hi => ?_⟩
      have := hc i hi
      rw [cell_of_row w g' (off + i) cs _ _ hb] at this
      rw [cell_of_row w' g' (off + i) cs _ _ hb']
      exact this
/-- A log stays behind what its disk does. -/
theorem Lg.mv {w w' : World} {base g gs : Nat} {wv wv' : Value} {D D' : Dk} {gl gc b m ag : Nat} {U : List Sg} {uv : Value} {hi rel : Nat} {L : List Rc} {rv : Value} (h : Lg w base g gs wv D gl gc b m ag U uv hi rel L rv) (hm : Mv w w' base g gs) (hd : Disk w' base g gs wv' D') : Lg w' base g gs wv' D' gl gc b m ag U uv hi rel L rv :=
  ⟨hd, h.log.mv h.disk hm, hm.keep h.cells (h.disk.off h.cells (by decide) (by decide)).1 (h.disk.off h.cells (by decide) (by decide)).2 (by decide), hm.row h.disk h.used (by decide) (by decide) (by decide), ⟨hm.row h.disk h.recs.row (by decide) (by decide) (by decide), fun r hr => (h.recs.bd r hr).mv h.disk hm⟩, h.bl⟩

set_option maxRecDepth 100000 in
set_option maxHeartbeats 4000000 in
theorem evl_tidy0 (w : World) (base g gs : Nat) (wv : Value) (D : Dk) (gl gc b m ag : Nat) (uv : Value) (hi rel : Nat) (L : List Rc) (rv : Value) (h : Lg w base g gs wv D gl gc b m ag [] uv hi rel L rv) :
    Calls Try.prog 21 #[.pointer (some ⟨gl, 0, none⟩)] w fun e w' => e = .returned (.int .i64 0) ∧ w' = w := by
  obtain ⟨au, cu, hv⟩ := h.used.val
  have hv' : uv = .slice au 0 cu := hv
  subst hv'
  have c5 : w.cell? ⟨gl, 5, none⟩ = some (.slice au 0 cu) := Blk.cell h.log 5 rfl
  clear h hv
  go_enter Try.func21, Try.ntmps21
  go_wp2
  go_returns
  exact ⟨rfl, rfl⟩
set_option maxRecDepth 100000 in
set_option maxHeartbeats 4000000 in
theorem evl_tidy1 (w : World) (base g gs : Nat) (wv : Value) (D : Dk) (gl gc b m ag : Nat) (s : Sg) (uv : Value) (hi rel : Nat) (L : List Rc) (rv : Value) (h : Lg w base g gs wv D gl gc b m ag [s] uv hi rel L rv) (hat : s.at_ ≤ 50000) (hen : s.en ≤ 16) (hw : D.waits.length ≤ 900000000) (hwp : wipeL D (16 - s.en) (s.at_ + s.en) false = (D, false, 0)) :
    Calls Try.prog 21 #[.pointer (some ⟨gl, 0, none⟩)] w fun e w' => e = .returned (.int .i64 0) ∧ Hid (∃ wv' uv', Lg w' base g gs wv' D gl gc b m ag [s] uv' hi rel L rv) ∧ Below base w w' := by
  have HG : Hid (Lg w base g gs wv D gl gc b m ag [s] uv hi rel L rv) := h
  obtain ⟨au, cu, hv⟩ := h.used.val
  have hv' : uv = .slice au 1 cu := hv
  subst hv'
  obtain ⟨at_, num, sh, en⟩ := s
  simp only at hat hen hwp
  have HWP : Hid (wipeL D (16 - en) (at_ + en) false = (D, false, 0)) := hwp
  have c5 : w.cell? ⟨gl, 5, none⟩ = some (.slice au 1 cu) := Blk.cell h.log 5 rfl
  have c7 : w.cell? ⟨gl, 7, none⟩ = some (.int .i64 (rel : Int)) := Blk.cell h.log 7 rfl
  have HFR := evl_free1 w base g gs wv D gl gc b m ag ⟨at_, num, sh, en⟩ (.slice au 1 cu) hi rel L rv (rel : Int) h
  clear h hv hwp
  go_enter Try.func21, Try.ntmps21
  go_wp2_with fail
  refine HFR.mono ?_
  rintro e w1 ⟨ht1, hb1⟩
  obtain ⟨ak, ck, rfl, hs1⟩ := ht1.out
  have HG1 : Hid (Lg w1 base g gs wv D gl gc b m ag [⟨at_, num, sh, en⟩] (.slice au 1 cu) hi rel L rv) := HG.out.below hb1
  have HB1 : Hid (Below base w w1) := hb1.mono HG.out.sz
  have HS1 : Hid (Sgs w1 w.heap.size (.slice ak 1 ck) [⟨at_, num, sh, en⟩]) := hs1
  obtain ⟨gk, c, spare, hv, hbu, hblk, hx⟩ := Sgs.cut (done := []) (rest := []) hs1
  have hak : ak = some ⟨gk, 0, none⟩ := by simp only [Value.slice.injEq] at hv; exact hv.1
  subst hak
  have HRG : Hid (w1.rangeAt gk 0 (sgc ⟨at_, num, sh, en⟩)) := fun q v hq => hblk.cell _ (rowS_at [] _ _ q v hq)
  obtain ⟨W2, HW2⟩ : ∃ W2, Hid (W2 = w1.alloc (.cells #[.int .i64 (at_ : Int), .int .i64 (num : Int), .int .i64 (sh : Int), .int .i64 (en : Int)] 85)) := ⟨_, rfl⟩
  have HBW : Hid (Below w1.heap.size w1 W2) := by (show Below _ _ _); rw [HW2.out]; exact below_alloc _ _
  have HX2 : Hid (Blk W2 w1.heap.size #[.int .i64 (at_ : Int), .int .i64 (num : Int), .int .i64 (sh : Int), .int .i64 (en : Int)] 85) := by (show Blk _ _ _ _); rw [HW2.out]; exact Blk.new _ _ _
  have HG2 : Hid (Lg W2 base g gs wv D gl gc b m ag [⟨at_, num, sh, en⟩] (.slice au 1 cu) hi rel L rv) := HG1.out.below HBW.out
  have HB2 : Hid (Below base w W2) := HB1.out.trans (HBW.out.mono HG1.out.sz)
  have HS2 : Hid (Sgs W2 base (.slice (some ⟨gk, 0, none⟩) 1 ck) [⟨at_, num, sh, en⟩]) := by
    have q := HS1.out.below HBW.out
    refine ⟨q.1, ?_⟩
    rcases q.2 with q0 | ⟨gg, cp, cur, q1, q2, q3⟩
    · exact .inl q0
    · exact .inr ⟨gg, cp, cur, q1, Nat.le_trans HG.out.sz q2, q3⟩
  have x0 : W2.cell? ⟨w1.heap.size, 0, none⟩ = some (.int .i64 (at_ : Int)) := HX2.out.cell 0 rfl
  have x3 : W2.cell? ⟨w1.heap.size, 3, none⟩ = some (.int .i64 (en : Int)) := HX2.out.cell 3 rfl
  have HWI := evl_wipe W2 base g gs wv D gl gc b m ag hi rel (.slice au 1 cu) rv (at_ + en) (at_ + 16) HG2.out.disk HG2.out.log (by omega) (by omega) (by omega)
  rw [show at_ + 16 - (at_ + en) = 16 - en from by omega, HWP.out] at HWI
  simp only at HWI
  obtain ⟨P, hP⟩ : ∃ P, P = at_ + en := ⟨_, rfl⟩
  obtain ⟨Q, hQ⟩ : ∃ Q, Q = at_ + 16 := ⟨_, rfl⟩
  rw [← hP, ← hQ] at HWI
  have q1 : (at_ : Int) + (en : Int) = (P : Int) := by omega
  have q2 : IntKind.i64.wrap (P : Int) = (P : Int) := by rw [IntKind.wrap_i64]; omega
  have q3 : (at_ : Int) + 16 = (Q : Int) := by omega
  have q4 : IntKind.i64.wrap (Q : Int) = (Q : Int) := by rw [IntKind.wrap_i64]; omega
  clear hv hbu hblk hx hs1 ht1 hb1 HFR c5 c7 hP hQ
  go_upto_region 7 with (guard_target =~ wpList _ _ _ (Oper.mk (some 30) _ _ _ _ _ :: _) _ _; refine wpList_load_mid rfl 85 (.tmp 29) rfl gk 0 rfl [.int .i64 (at_ : Int), .int .i64 (num : Int), .int .i64 (sh : Int), .int .i64 (en : Int)] _ HRG.out Try.underlying85 rfl (by rfl) ?_)
  rw [← HW2.out]
  go_wp2_with fail
  refine HWI.mono ?_
  rintro e w3 ⟨rfl, hd3, hm3⟩
  obtain ⟨wv3, hd3⟩ := hd3.out
  have HG3 : Hid (Lg w3 base g gs wv3 D gl gc b m ag [⟨at_, num, sh, en⟩] (.slice au 1 cu) hi rel L rv) := HG2.out.mv hm3 hd3
  have HB3 : Hid (Below base w w3) := HB2.out.trans hm3.low
  have HS3 : Hid (Sgs w3 base (.slice (some ⟨gk, 0, none⟩) 1 ck) [⟨at_, num, sh, en⟩]) := hm3.row HG2.out.disk HS2.out (by decide) (by decide) (by decide)
  obtain ⟨p1, p2, p3, p4, p5, p6⟩ := HG3.out.put 5 (.slice (some ⟨gk, 0, none⟩) 1 ck)
  have HG4 : Hid (Lg (w3.setCell ⟨gl, 5, none⟩ (.slice (some ⟨gk, 0, none⟩) 1 ck)) base g gs wv3 D gl gc b m ag [⟨at_, num, sh, en⟩] (.slice (some ⟨gk, 0, none⟩) 1 ck) hi rel L rv) := ⟨p1, Blk.set HG3.out.log 5 _, p2, row_set HS3.out (own_ne HS3.out HG3.out.log (by decide)), p4, HG3.out.bl⟩
  have HB4 : Hid (Below base w (w3.setCell ⟨gl, 5, none⟩ (.slice (some ⟨gk, 0, none⟩) 1 ck))) := HB3.out.trans p6
  have d5 : w3.cell? ⟨gl, 5, none⟩ = some (.slice au 1 cu) := Blk.cell HG3.out.log 5 rfl
  have f5 : w3.frozen? ⟨gl, 5, none⟩ = false := Blk.free HG3.out.log 5
  clear p1 p2 p3 p4 p5 p6 hd3 hm3 HWI x0 x3 q1 q2 q3 q4
  go_wp2
  go_returns
  exact ⟨rfl, ⟨wv3, _, HG4.out⟩, HB4.out⟩
end Go.Proofs.Ytghajmcohdedlaa
