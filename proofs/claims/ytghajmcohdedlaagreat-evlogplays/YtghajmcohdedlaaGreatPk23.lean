import Derived.Test.YtghajmcohdedlaaGreatEvD5
namespace Go.Proofs.YtghajmcohdedlaaGreat
open Go.RowKit
set_option maxRecDepth 100000
structure Mvx (S : Nat → Prop) (w w' : World) (base g gs : Nat) : Prop where
 low : Below base w w'
 block : ∀ k cs t fr, k ≠ g → k ≠ gs → ¬ S k → w.heap[k]? = some (.cells cs t fr) → t ≠ 99 → w'.heap[k]? = some (.cells cs t fr)
theorem Mvx.of_mv {S : Nat → Prop} {w w' : World} {base g gs : Nat} (h : Mv w w' base g gs) : Mvx S w w' base g gs := ⟨h.low, fun k cs t fr h1 h2 _ h3 h4 => h.block k cs t fr h1 h2 h3 h4⟩
theorem Mvx.trans {S : Nat → Prop} {w w1 w2 : World} {base g gs : Nat} (h : Mvx S w w1 base g gs) (h2 : Mvx S w1 w2 base g gs) : Mvx S w w2 base g gs := ⟨h.low.trans h2.low, fun k cs t fr a1 a2 a3 a4 a5 => h2.block k cs t fr a1 a2 a3 (h.block k cs t fr a1 a2 a3 a4 a5) a5⟩
theorem Mvx.set {S : Nat → Prop} {w w' : World} {base g gs : Nat} (h : Mvx S w w' base g gs) {k : Nat} (hk : S k) (hb : base ≤ k) (i : Nat) (v : Value) : Mvx S w (w'.setCell ⟨k, i, none⟩ v) base g gs :=
 ⟨h.low.setCell hb v, fun j cs t fr a1 a2 a3 a4 a5 => by
  rw [heap_setCell_other w' ⟨k, i, none⟩ j v (fun e => a3 (by have e' : j = k := e; rw [e']; exact hk))]
  exact h.block j cs t fr a1 a2 a3 a4 a5⟩
theorem Mvx.mono {S S' : Nat → Prop} {w w' : World} {base g gs : Nat} (h : Mvx S w w' base g gs) (hs : ∀ k, k < w.heap.size → S k → S' k) : Mvx S' w w' base g gs := ⟨h.low, fun k cs t fr a1 a2 a3 a4 a5 => h.block k cs t fr a1 a2 (fun h6 => a3 (hs k (heap_lt a4) h6)) a4 a5⟩
def lastG (K : List Sg) : Sg := K.getD (K.length - 1) zSg
def tidyF (U : List Sg) (rel : Nat) (D : Dk) : Dk × List Sg :=
 let F := freeF rel U D []
 let W := wipeL F.1 (16 - (lastG F.2.1).en) ((lastG F.2.1).at_ + (lastG F.2.1).en) false
 (if W.2.1 = true ∨ F.2.1.length < U.length then syncD W.1 else W.1, F.2.1)
theorem Sgs.low {w : World} {B B' : Nat} {v : Value} {L : List Sg} (h : Sgs w B v L) (hb : B' ≤ B) : Sgs w B' v L := by
 refine ⟨h.1, ?_⟩
 rcases h.2 with q0 | ⟨gg, cp, cur, q1, q2, q3⟩
 ·exact .inl q0
 ·exact .inr ⟨gg, cp, cur, q1, Nat.le_trans hb q2, q3⟩
set_option maxHeartbeats 8000000 in
theorem evl_tidyG (w : World) (base bd g gs : Nat) (wv : Value) (D : Dk) (gl gc b m ag : Nat) (U : List Sg) (uv : Value) (hi rel : Nat) (L : List Rc) (rv : Value) (D1 : Dk) (KL : List Sg) (D2 : Dk) (wb : Bool) (h : LgG w base bd g gs wv D gl gc b m ag U uv hi rel L rv) (hbb : bd ≤ base) (hu : U ≠ [] ∧ U.length ≤ 16) (hw : D.waits.length ≤ 900000000) (hF : freeF rel U D [] = (D1, KL, 0)) (hK : KL ≠ [] ∧ KL.length ≤ 16) (hat : (lastG KL).at_ ≤ 50000 ∧ (lastG KL).en ≤ 16) (hw1 : D1.waits.length ≤ 900000100) (hwp : wipeL D1 (16 - (lastG KL).en) ((lastG KL).at_ + (lastG KL).en) false = (D2, wb, 0)) (hsy : syncE D2 = 0) :
  Calls Tryz.prog 75 #[.pointer (some ⟨gl, 0, none⟩)] w fun e w' => e = .returned (.int .i64 0) ∧ Hid (∃ wv' uv', LgG w' base bd g gs wv' (if wb = true ∨ KL.length < U.length then syncD D2 else D2) gl gc b m ag KL uv' hi rel L rv) ∧ Hid (Mvx (fun k => k = gl) w w' bd g gs) := by
 obtain ⟨D3, HD3⟩ : ∃ D3, Hid ((if wb = true ∨ KL.length < U.length then syncD D2 else D2) = D3) := ⟨_, rfl⟩
 rw [HD3.out]
 have HG : Hid (LgG w base bd g gs wv D gl gc b m ag U uv hi rel L rv) := h
 have HBD : Hid (bd ≤ w.heap.size ∧ bd ≤ gl) := ⟨Nat.le_trans h.disk.bg (Nat.le_of_lt h.disk.blk.lt), Nat.le_trans hbb h.bl⟩
 obtain ⟨un, HUN⟩ : ∃ un, Hid (U.length = un) := ⟨_, rfl⟩
 obtain ⟨gu, cu, hv⟩ : ∃ gu cu, uv = .slice (some ⟨gu, 0, none⟩) un cu := by
  rcases h.used.2 with ⟨h1, h2⟩ | ⟨g', c', cur, h1, _⟩
  ·exact absurd (List.eq_nil_of_length_eq_zero h2) hu.1
  ·exact ⟨g', c', by rw [h1, HUN.out]⟩
 subst hv
 have hun : ¬ un = 0 := fun e => hu.1 (List.eq_nil_of_length_eq_zero (HUN.out.trans e))
 have hun2 : ((un : Int) == 0) = false := by rw [beq_eq_false_iff_ne]; omega
 have hun16 : un ≤ 16 := by rw [← HUN.out]; exact hu.2
 have HFR := evl_freeSome w base bd g gs wv D gl gc b m ag U gu un cu hi rel L rv rel h hu.2 hw
 rw [hF] at HFR
 simp only at HFR
 obtain ⟨kn, HKN⟩ : ∃ kn, Hid (KL.length = kn) := ⟨_, rfl⟩
 obtain ⟨k1, HK1⟩ : ∃ k1, Hid (kn = k1 + 1) := ⟨kn - 1, by have h1 := HKN.out; have h2 : 0 < KL.length := List.length_pos_iff.2 hK.1; (show _ = _); omega⟩
 have hkn16 : kn ≤ 16 := by rw [← HKN.out]; exact hK.2
 obtain ⟨s, HLS⟩ : ∃ s, Hid (lastG KL = s) := ⟨_, rfl⟩
 have HSD : Hid (s = KL.getD k1 zSg ∧ k1 < KL.length) := by
  have h1 := HKN.out
  have h2 := HK1.out
  refine ⟨?_, by omega⟩
  rw [← HLS.out]
  unfold lastG
  rw [h1, h2]
  rfl
 rw [HLS.out] at hat hwp
 obtain ⟨at_, num, sh, en⟩ := s
 simp only at hat hwp
 have HWP : Hid (wipeL D1 (16 - en) (at_ + en) false = (D2, wb, 0)) := hwp
 have HW1 : Hid (D1.waits.length ≤ 900000100) := hw1
 have HSY : Hid (syncE D2 = 0) := hsy
 have HAT : Hid (at_ ≤ 50000 ∧ en ≤ 16) := hat
 obtain ⟨P, HP⟩ : ∃ P, Hid (P = at_ + en) := ⟨_, rfl⟩
 obtain ⟨Q, HQ⟩ : ∃ Q, Hid (Q = at_ + 16) := ⟨_, rfl⟩
 have c5 : w.cell? ⟨gl, 5, none⟩ = some (.slice (some ⟨gu, 0, none⟩) un cu) := Blk.cell h.log 5 rfl
 have c7 : w.cell? ⟨gl, 7, none⟩ = some (.int .i64 (rel : Int)) := Blk.cell h.log 7 rfl
 have HLT : Hid (KL.length < U.length ↔ (kn : Int) < (un : Int)) := by have h1 := HKN.out; have h2 := HUN.out; (show _ ↔ _); omega
 clear h hu hw hF hK hwp hsy hw1 hbb hat hun
 go_enter Tryz.func75, Tryz.ntmps75
 go_wp2_with fail
 refine HFR.mono ?_
 rintro e w1 ⟨ht1, hg1, hm1⟩
 obtain ⟨ak, nk, ck, rfl, hs1⟩ := ht1.out
 obtain ⟨wv1, hg1⟩ := hg1.out
 have hnk : nk = kn := by obtain ⟨a', c', e⟩ := hs1.val; cases e; exact HKN.out
 subst hnk
 obtain ⟨gk, rfl⟩ : ∃ gk, ak = some ⟨gk, 0, none⟩ := by
  rcases hs1.2 with ⟨h1, h2⟩ | ⟨g', c', cur, h1, _⟩
  ·have := HSD.out.2; omega
  ·simp only [Value.slice.injEq] at h1
   exact ⟨g', h1.1⟩
 have HG1 : Hid (LgG w1 base bd g gs wv1 D1 gl gc b m ag U (.slice (some ⟨gu, 0, none⟩) un cu) hi rel L rv) := hg1
 have HM1 : Hid (Mv w w1 bd g gs) := hm1
 have HS1 : Hid (Sgs w1 base (.slice (some ⟨gk, 0, none⟩) nk ck) KL) := hs1.low HG.out.sz
 have HKB : Hid (w.heap.size ≤ gk) := (hs1.freeg 0).2.1
 obtain ⟨x0, x1, x2, x3⟩ := hs1.facts HSD.out.2 HSD.out.1
 simp only at x0 x1 x2 x3
 have q1 : IntKind.i64.wrap ((nk : Int) - 1) = (k1 : Int) := by rw [IntKind.wrap_i64]; have := HK1.out; omega
 have q2 : (0 : Int) ≤ (k1 : Int) := by omega
 have q3 : (k1 : Int) < (nk : Int) := by have := HK1.out; omega
 obtain ⟨W2, HW2⟩ : ∃ W2, Hid (W2 = w1.alloc (.cells #[.int .i64 (at_ : Int), .int .i64 (num : Int), .int .i64 (sh : Int), .int .i64 (en : Int)] 88)) := ⟨_, rfl⟩
 obtain ⟨vb, HVB⟩ : ∃ vb, Hid (vb = w1.heap.size) := ⟨_, rfl⟩
 have HB2 : Hid (Below w1.heap.size w1 W2) := by (show Below _ _ _); rw [HW2.out]; exact below_alloc _ _
 have HV2 : Hid (Blk W2 vb #[.int .i64 (at_ : Int), .int .i64 (num : Int), .int .i64 (sh : Int), .int .i64 (en : Int)] 88) := by (show Blk _ _ _ _); rw [HW2.out, HVB.out]; exact Blk.new _ _ _
 have HG2 : Hid (LgG W2 base bd g gs wv1 D1 gl gc b m ag U (.slice (some ⟨gu, 0, none⟩) un cu) hi rel L rv) := HG1.out.below HB2.out
 have HM2 : Hid (Mv w W2 bd g gs) := HM1.out.trans (Mv.of_below g gs HB2.out (Nat.le_trans HBD.out.1 HM1.out.low.size))
 have HS2 : Hid (Sgs W2 base (.slice (some ⟨gk, 0, none⟩) nk ck) KL) := HS1.out.below HB2.out
 clear hs1 ht1 hg1 hm1 HFR c5 c7
 go_upto_region 7 with fail
 rw [← HW2.out, ← HVB.out]
 clear x0 x1 x2 x3
 have v0 : W2.cell? ⟨vb, 0, none⟩ = some (.int .i64 (at_ : Int)) := HV2.out.cell 0 rfl
 have v3 : W2.cell? ⟨vb, 3, none⟩ = some (.int .i64 (en : Int)) := HV2.out.cell 3 rfl
 have r1 : IntKind.i64.wrap ((at_ : Int) + (en : Int)) = (P : Int) := by rw [IntKind.wrap_i64]; have := HP.out; have := HAT.out; omega
 have r2 : IntKind.i64.wrap ((at_ : Int) + 16) = (Q : Int) := by rw [IntKind.wrap_i64]; have := HQ.out; have := HAT.out; omega
 have HWI : Hid (Calls Tryz.prog 90 #[.pointer (some ⟨gl, 0, none⟩), .int .i64 (P : Int), .int .i64 (Q : Int)] W2 fun e w' => e = .returned (.tuple #[.bool wb, .int .i64 0]) ∧ Hid (∃ wv', Disk w' bd g gs wv' D2) ∧ Mv W2 w' bd g gs) := by
  have h1 := HAT.out
  have h2 := HP.out
  have h3 := HQ.out
  have h4 := HW1.out
  have := evl_wipe W2 bd g gs wv1 D1 gl gc b m ag hi rel (.slice (some ⟨gu, 0, none⟩) un cu) rv P Q HG2.out.disk HG2.out.log (by omega) (by omega) (by omega)
  rw [show Q - P = 16 - en from by omega, h2, HWP.out] at this
  rw [← h2] at this
  exact this
 go_wp2_with fail
 refine HWI.out.mono ?_
 rintro e w3 ⟨rfl, hd3, hm3⟩
 obtain ⟨wv3, hd3⟩ := hd3.out
 have HG3 : Hid (LgG w3 base bd g gs wv3 D2 gl gc b m ag U (.slice (some ⟨gu, 0, none⟩) un cu) hi rel L rv) := HG2.out.mv hm3 hd3
 have HM3 : Hid (Mv w w3 bd g gs) := HM2.out.trans hm3
 have HS3 : Hid (Sgs w3 base (.slice (some ⟨gk, 0, none⟩) nk ck) KL) := hm3.front HG2.out.disk HS2.out
 clear hd3 hm3 v0 v3 r1 r2 q1 q2 q3
 have l0 : w3.cell? ⟨gl, 0, none⟩ = some (.pointer (some ⟨g, 0, none⟩)) := Blk.cell HG3.out.log 0 rfl
 have l5 : w3.cell? ⟨gl, 5, none⟩ = some (.slice (some ⟨gu, 0, none⟩) un cu) := Blk.cell HG3.out.log 5 rfl
 have f5 : w3.frozen? ⟨gl, 5, none⟩ = false := Blk.free HG3.out.log 5
 have HSYN : Hid (Calls Tryz.prog 46 #[.pointer (some ⟨g, 0, none⟩)] w3 fun e w' => e = .returned (.int .i64 0) ∧ Hid (∃ wv', Disk w' bd g gs wv' (syncD D2)) ∧ Mv w3 w' bd g gs) := by
  have := disk_Sync w3 bd g gs wv3 D2 HG3.out.disk
  rw [HSY.out] at this
  exact this
 -- the kept ones are laid down
 have HEND : Hid (∀ w4 wv4 D4, LgG w4 base bd g gs wv4 D4 gl gc b m ag U (.slice (some ⟨gu, 0, none⟩) un cu) hi rel L rv → Sgs w4 base (.slice (some ⟨gk, 0, none⟩) nk ck) KL → Mv w w4 bd g gs → LgG (w4.setCell ⟨gl, 5, none⟩ (.slice (some ⟨gk, 0, none⟩) nk ck)) base bd g gs wv4 D4 gl gc b m ag KL (.slice (some ⟨gk, 0, none⟩) nk ck) hi rel L rv ∧ Mvx (fun k => k = gl) w (w4.setCell ⟨gl, 5, none⟩ (.slice (some ⟨gk, 0, none⟩) nk ck)) bd g gs) := fun w4 wv4 D4 hg hs hm => by
  obtain ⟨p1, p2, p3, p4, p5, p6⟩ := hg.put 5 (.slice (some ⟨gk, 0, none⟩) nk ck)
  exact ⟨⟨p1, Blk.set hg.log 5 _, p2, row_set hs (own_ne hs hg.log (by decide)), p4, hg.bl⟩, Mvx.set (S := fun k => k = gl) (Mvx.of_mv hm) rfl HBD.out.2 5 _⟩
 cases wb with
 | true =>
  go_wp2_with fail
  refine HSYN.out.mono ?_
  rintro e w4 ⟨rfl, hd4, hm4⟩
  obtain ⟨wv4, hd4⟩ := hd4.out
  have HG4 : Hid (LgG w4 base bd g gs wv4 (syncD D2) gl gc b m ag U (.slice (some ⟨gu, 0, none⟩) un cu) hi rel L rv) := HG3.out.mv hm4 hd4
  obtain ⟨e1, e2⟩ := HEND.out w4 wv4 (syncD D2) HG4.out (hm4.front HG3.out.disk HS3.out) (HM3.out.trans hm4)
  have HE : Hid (LgG (w4.setCell ⟨gl, 5, none⟩ (.slice (some ⟨gk, 0, none⟩) nk ck)) base bd g gs wv4 D3 gl gc b m ag KL (.slice (some ⟨gk, 0, none⟩) nk ck) hi rel L rv ∧ Mvx (fun k => k = gl) w (w4.setCell ⟨gl, 5, none⟩ (.slice (some ⟨gk, 0, none⟩) nk ck)) bd g gs) := ⟨by rw [← HD3.out, if_pos (by first | exact .inl rfl | exact .inl trivial)]; exact e1, e2⟩
  clear hd4 hm4 e1 e2 l0 l5 f5
  have l5 : w4.cell? ⟨gl, 5, none⟩ = some (.slice (some ⟨gu, 0, none⟩) un cu) := Blk.cell HG4.out.log 5 rfl
  have f5 : w4.frozen? ⟨gl, 5, none⟩ = false := Blk.free HG4.out.log 5
  go_wp2
  go_returns
  exact ⟨rfl, ⟨wv4, _, HE.out.1⟩, HE.out.2⟩
 | false =>
  by_cases hlt : (nk : Int) < (un : Int)
  ·have hd : decide ((nk : Int) < (un : Int)) = true := decide_eq_true hlt
   go_wp2_with fail
   refine HSYN.out.mono ?_
   rintro e w4 ⟨rfl, hd4, hm4⟩
   obtain ⟨wv4, hd4⟩ := hd4.out
   have HG4 : Hid (LgG w4 base bd g gs wv4 (syncD D2) gl gc b m ag U (.slice (some ⟨gu, 0, none⟩) un cu) hi rel L rv) := HG3.out.mv hm4 hd4
   obtain ⟨e1, e2⟩ := HEND.out w4 wv4 (syncD D2) HG4.out (hm4.front HG3.out.disk HS3.out) (HM3.out.trans hm4)
   have HE : Hid (LgG (w4.setCell ⟨gl, 5, none⟩ (.slice (some ⟨gk, 0, none⟩) nk ck)) base bd g gs wv4 D3 gl gc b m ag KL (.slice (some ⟨gk, 0, none⟩) nk ck) hi rel L rv ∧ Mvx (fun k => k = gl) w (w4.setCell ⟨gl, 5, none⟩ (.slice (some ⟨gk, 0, none⟩) nk ck)) bd g gs) := ⟨by rw [← HD3.out, if_pos (.inr (HLT.out.2 hlt))]; exact e1, e2⟩
   clear hd4 hm4 e1 e2 l0 l5 f5
   have l5 : w4.cell? ⟨gl, 5, none⟩ = some (.slice (some ⟨gu, 0, none⟩) un cu) := Blk.cell HG4.out.log 5 rfl
   have f5 : w4.frozen? ⟨gl, 5, none⟩ = false := Blk.free HG4.out.log 5
   go_wp2
   go_returns
   exact ⟨rfl, ⟨wv4, _, HE.out.1⟩, HE.out.2⟩
  ·have hd : decide ((nk : Int) < (un : Int)) = false := decide_eq_false hlt
   obtain ⟨e1, e2⟩ := HEND.out w3 wv3 D2 HG3.out HS3.out HM3.out
   have HE : Hid (LgG (w3.setCell ⟨gl, 5, none⟩ (.slice (some ⟨gk, 0, none⟩) nk ck)) base bd g gs wv3 D3 gl gc b m ag KL (.slice (some ⟨gk, 0, none⟩) nk ck) hi rel L rv ∧ Mvx (fun k => k = gl) w (w3.setCell ⟨gl, 5, none⟩ (.slice (some ⟨gk, 0, none⟩) nk ck)) bd g gs) := ⟨by rw [← HD3.out, if_neg (fun h => h.elim (fun h => by cases h) (fun h => hlt (HLT.out.1 h)))]; exact e1, e2⟩
   clear e1 e2
   go_wp2
   go_returns
   exact ⟨rfl, ⟨wv3, _, HE.out.1⟩, HE.out.2⟩
end Go.Proofs.YtghajmcohdedlaaGreat

namespace Go.Proofs.YtghajmcohdedlaaGreat
open Go.RowKit
def TidyC (D : Dk) (U : List Sg) (r : Nat) (D3 : Dk) (KL : List Sg) : Prop :=
 (U = [] ∧ D3 = D ∧ KL = []) ∨ (U ≠ [] ∧ ∃ D1 D2 wb, freeF r U D [] = (D1, KL, 0) ∧ KL ≠ [] ∧ KL.length ≤ 16 ∧ (lastG KL).at_ ≤ 50000 ∧ (lastG KL).en ≤ 16 ∧ D1.waits.length ≤ 900000100 ∧ wipeL D1 (16 - (lastG KL).en) ((lastG KL).at_ + (lastG KL).en) false = (D2, wb, 0) ∧ syncE D2 = 0 ∧ D3 = (if wb = true ∨ KL.length < U.length then syncD D2 else D2))
theorem Mv.of_new {S : Nat → Prop} {w w3 w4 : World} {base g gs : Nat} (hb : Below w.heap.size w w3) (hx : Mvx S w3 w4 base g gs) (hs : ∀ k, k < w.heap.size → ¬ S k) (hB : base ≤ w.heap.size) : Mv w w4 base g gs :=
 ⟨(hb.mono hB).trans hx.low, fun k cs t fr h1 h2 h3 h4 => hx.block k cs t fr h1 h2 (hs k (heap_lt h3)) (by rw [hb.block k (heap_lt h3)]; exact h3) h4⟩
theorem readAllF_len1 (D : Dk) : ∀ (U : List Sg) (hi : Nat) (acc : List (Nat × List Nat)), (readAllF D U hi acc).1.length = U.length
 | [], _, _ => rfl
 | s :: U, hi, acc => by
  rw [readAllF]
  simp only [List.length_cons]
  rw [readAllF_len1 D U]
set_option maxRecDepth 100000 in
set_option maxHeartbeats 4000000 in
theorem evl_tidy0G (w : World) (base bd g gs : Nat) (wv : Value) (D : Dk) (gl gc b m ag : Nat) (uv : Value) (hi rel : Nat) (L : List Rc) (rv : Value) (h : LgG w base bd g gs wv D gl gc b m ag [] uv hi rel L rv) :
  Calls Tryz.prog 75 #[.pointer (some ⟨gl, 0, none⟩)] w fun e w' => e = .returned (.int .i64 0) ∧ w' = w := by
 obtain ⟨au, cu, hv⟩ := h.used.val
 have hv' : uv = .slice au 0 cu := hv
 subst hv'
 have c5 : w.cell? ⟨gl, 5, none⟩ = some (.slice au 0 cu) := Blk.cell h.log 5 rfl
 clear h hv
 go_enter Tryz.func75, Tryz.ntmps75
 go_wp2
 go_returns
 exact ⟨rfl, rfl⟩
set_option maxRecDepth 100000 in
set_option maxHeartbeats 8000000 in
theorem evl_OpenG (w : World) (bd g gs : Nat) (wv : Value) (D : Dk) (b m r : Nat) (h : Disk w bd g gs wv D) (hdn : D.down = false) (hm2 : 2 ≤ m) (hm : m ≤ 16) (hb : b + 2 + m * 16 ≤ D.sure.length) (hw : D.waits.length ≤ 900000000) (hr : (getB D b 1 0).1 = (r : Int)) (D3 : Dk) (KL : List Sg) (htd : TidyC D (readAllF D (sortG (headsF D b m)) 0 []).1 r D3 KL) :
  Calls Tryz.prog 37 #[.pointer (some ⟨g, 0, none⟩), .int .i64 (b : Int), .int .i64 (m : Int)] w fun e w' => Hid (∃ gl gc wv' uv' rv' L', e = .returned (.tuple #[.pointer (some ⟨gl, 0, none⟩), .int .i64 0]) ∧ w.heap.size ≤ gl ∧ L'.map plR = keepP r (readAllF D (sortG (headsF D b m)) 0 []).2.2 ∧ LgG w' w.heap.size bd g gs wv' D3 gl gc b m D.age KL uv' (max (readAllF D (sortG (headsF D b m)) 0 []).2.1 r) r L' rv') ∧ Mv w w' bd g gs := by
 have HD : Hid (Disk w bd g gs wv D) := h
 have hsz := h.sz
 have HBS : Hid (bd ≤ w.heap.size) := Nat.le_trans h.bg (Nat.le_of_lt h.blk.lt)
 obtain ⟨⟨RU, RH, RA⟩, HR⟩ : ∃ R, Hid (R = readAllF D (sortG (headsF D b m)) 0 []) := ⟨_, rfl⟩
 have HUL : Hid (RU.length ≤ 16) := by
  have h1 := congrArg (fun x => x.1.length) HR.out
  simp only [readAllF_len1, sortG_len] at h1
  have := headsF_len D b m
  (show _ ≤ _)
  omega
 rw [← HR.out] at htd ⊢
 simp only at htd ⊢
 have HDW : Hid (Calls Tryz.prog 16 #[.pointer (some ⟨g, 0, none⟩)] w fun e w' => e = .returned (.bool false) ∧ w' = w) := by
  have := disk_Down w bd g gs wv D h
  rw [hdn] at this
  exact this
 obtain ⟨n, hn⟩ : ∃ n, n = D.sure.length := ⟨_, rfl⟩
 have HSI : Hid (Calls Tryz.prog 71 #[.pointer (some ⟨g, 0, none⟩)] w fun e w' => e = .returned (.int .i64 (n : Int)) ∧ w' = w) := by
  have := disk_Size w bd g gs wv D h
  rw [← hn] at this
  exact this
 rw [← hn] at hb hsz
 obtain ⟨P, hP⟩ : ∃ P, P = n - 2 := ⟨_, rfl⟩
 obtain ⟨Q, hQ⟩ : ∃ Q, Q = m * 16 := ⟨_, rfl⟩
 obtain ⟨R, hR⟩ : ∃ R, R = P - Q := ⟨_, rfl⟩
 have a1 : ¬ (m : Int) < 2 := by omega
 have a2 : ¬ (16 : Int) < (m : Int) := by omega
 have a3 : ¬ (b : Int) < 0 := by omega
 have q1 : (n : Int) - 2 = (P : Int) := by omega
 have q2 : IntKind.i64.wrap (P : Int) = (P : Int) := by rw [IntKind.wrap_i64]; omega
 have q3 : (m : Int) * 16 = (Q : Int) := by omega
 have q4 : IntKind.i64.wrap (Q : Int) = (Q : Int) := by rw [IntKind.wrap_i64]; omega
 have q5 : (P : Int) - (Q : Int) = (R : Int) := by omega
 have q6 : IntKind.i64.wrap (R : Int) = (R : Int) := by rw [IntKind.wrap_i64]; omega
 have a4 : ¬ (R : Int) < (b : Int) := by omega
 have HMO := mark_Open w bd g gs wv D (b : Int) 1 h
 have HN : Hid (n = D.sure.length ∧ b + 2 + m * 16 ≤ n) := ⟨hn, hb⟩
 clear h hdn hn hP hQ hR hb hsz
 go_enter Tryz.func37, Tryz.ntmps37
 go_upto_region 7 with (first
  | (go_at_call 16; refine HDW.out.mono ?_; rintro e w2 ⟨rfl, hw2⟩; rw [hw2]; clear hw2 w2)
  | (go_at_call 71; refine HSI.out.mono ?_; rintro e w2 ⟨rfl, hw2⟩; rw [hw2]; clear hw2 w2))
 clear a1 a2 a3 a4 q1 q2 q3 q4 q5 q6 HDW HSI
 go_wp2_with fail
 refine HMO.mono ?_
 rintro e w1 ⟨ht1, hb1⟩
 rcases ht1.out with ⟨hno, _⟩ | ⟨_, rfl, hc1⟩
 ·exact absurd (show mayC D.sure.length (b : Int) 1 from ⟨by omega, by omega, by have := HN.out; omega⟩) hno
 ·rw [Int.toNat_natCast] at hc1
  have HC1 : Hid (Cs w1 w.heap.size g b 1) := hc1
  have HD1 : Hid (Disk w1 bd g gs wv D) := HD.out.stay hb1
  have HB1 : Hid (Below w.heap.size w w1) := hb1
  have HSZ : Hid (w.heap.size ≤ w1.heap.size) := hb1.size
  have HAG := disk_Age w1 bd g gs wv D HD1.out
  obtain ⟨W2, HW2⟩ : ∃ W2, Hid (W2 = w1.alloc (.cells #[.pointer (some ⟨g, 0, none⟩), .pointer (some ⟨w.heap.size, 0, none⟩), .int .i64 (b : Int), .int .i64 (m : Int), .int .i64 (D.age : Int), .slice none 0 0, .int .i64 0, .int .i64 0, .slice none 0 0] 74)) := ⟨_, rfl⟩
  have HBW : Hid (Below w1.heap.size w1 W2) := by (show Below _ _ _); rw [HW2.out]; exact below_alloc _ _
  have HG2 : Hid (LgG W2 w.heap.size bd g gs wv D w1.heap.size w.heap.size b m D.age [] (.slice none 0 0) 0 0 [] (.slice none 0 0)) := by
   (show LgG _ _ _ _ _ _ _ _ _ _ _ _ _ _ _ _ _ _)
   refine ⟨HD1.out.stay HBW.out, ?_, HC1.out.stay HBW.out, Sgs.nil _ _, ⟨World.ownsRow_nil _ _ _ _, fun r hr => by cases hr⟩, HSZ.out⟩
   rw [HW2.out]
   exact Blk.new _ _ _
  have HB2 : Hid (Below w.heap.size w W2) := HB1.out.trans (HBW.out.mono HSZ.out)
  have HRD := evl_readG W2 w.heap.size bd g gs wv D w1.heap.size w.heap.size b m D.age [] (.slice none 0 0) 0 0 (.slice none 0 0) r HG2.out (by have := HN.out; have := HD.out.sz; omega) (by omega) (by omega) hr
  rw [← HR.out] at HRD
  simp only at HRD
  clear HMO ht1 hb1 hc1
  go_upto_region 11 with (go_at_call 73; refine HAG.mono ?_; rintro e w2 ⟨rfl, hw2⟩; rw [hw2]; clear hw2 w2)
  rw [← HW2.out]
  clear HAG
  go_wp2_with fail
  refine HRD.mono ?_
  rintro e w3 ⟨rfl, hh3, hb3⟩
  obtain ⟨uv3, rv3, L3, he3, hg3⟩ := hh3.out
  have HE3 : Hid (L3.map plR = keepP r RA) := he3
  have HB3 : Hid (Below w.heap.size w w3) := HB2.out.trans hb3
  rcases htd with ⟨hu, rfl, rfl⟩ | ⟨hu, D1, D2, wb, k1, k2, k3, k4, k5, k6, k7, k8, hd3⟩
  ·subst hu
   have HTD := evl_tidy0G w3 w.heap.size bd g gs wv D3 w1.heap.size w.heap.size b m D3.age uv3 (max RH r) r L3 rv3 hg3
   have HG3 : Hid (LgG w3 w.heap.size bd g gs wv D3 w1.heap.size w.heap.size b m D3.age [] uv3 (max RH r) r L3 rv3) := hg3
   clear hh3 hb3 he3 hg3 HRD
   go_wp2_with fail
   refine HTD.mono ?_
   rintro e w4 ⟨rfl, hw4⟩
   rw [hw4]
   clear hw4 w4 HTD
   go_wp2
   go_returns
   exact ⟨⟨w1.heap.size, w.heap.size, wv, uv3, rv3, L3, rfl, HSZ.out, HE3.out, HG3.out⟩, Mv.of_below g gs HB3.out HBS.out⟩
  ·have HTD := evl_tidyG w3 w.heap.size bd g gs wv D w1.heap.size w.heap.size b m D.age RU uv3 (max RH r) r L3 rv3 D1 KL D2 wb hg3 HBS.out ⟨hu, HUL.out⟩ hw k1 ⟨k2, k3⟩ ⟨k4, k5⟩ k6 k7 k8
   clear hh3 hb3 he3 hg3 HRD k1 k2 k3 k4 k5 k6 k7 k8 hu
   go_wp2_with fail
   refine HTD.mono ?_
   rintro e w4 ⟨rfl, hh4, hm4⟩
   obtain ⟨wv4, uv4, hg4⟩ := hh4.out
   have HG4 : Hid (LgG w4 w.heap.size bd g gs wv4 D3 w1.heap.size w.heap.size b m D.age KL uv4 (max RH r) r L3 rv3) := by rw [← hd3] at hg4; exact hg4
   have HM4 : Hid (Mv w w4 bd g gs) := Mv.of_new HB3.out hm4.out (fun k hk e => by have := HSZ.out; omega) HBS.out
   clear hh4 hg4 hm4 HTD hd3
   go_wp2
   go_returns
   exact ⟨⟨w1.heap.size, w.heap.size, wv4, uv4, rv3, L3, rfl, HSZ.out, HE3.out, HG4.out⟩, HM4.out⟩
end Go.Proofs.YtghajmcohdedlaaGreat
