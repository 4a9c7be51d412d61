/- The high and the released tick never fall while a log is open; of what is told none is released, and ticks rise: every script (of up to 100 deeds). No condition. -/
import Derived.Test.YtghajmcohdedlaaGreatPk48
import Derived.Deep.QuietTactic
import Derived.BigQuiet
namespace Go.Proofs.YtghajmcohdedlaaGreat
open Go.ChangeShapes Go.WideShapes Go.ChangeAt Go.RowKit
namespace evlogGrows
theorem step_grows {N : Nat} {s : Se} (h : Oke N s) (d : Dq) (h4 : ¬ d.kind = 4) (h5 : ¬ d.kind = 5) : s.hi ≤ (stepA s d).hi ∧ s.rel ≤ (stepA s d).rel := by
 unfold stepA
 split
 ·exact ⟨(append_ok h s.ag _ _).2.2, Nat.le_refl _⟩
 split
 ·exact ⟨(append_ok h s.ag _ _).2.2, Nat.le_refl _⟩
 try rw [if_neg h4]
 unfold stepE
 split
 ·exact ⟨Nat.le_refl _, Nat.le_refl _⟩
 split
 ·exact ⟨Nat.le_refl _, (chop_ok h s.ag _).2.2⟩
 split
 ·exact ⟨Nat.le_refl _, Nat.le_refl _⟩
 try rw [if_neg h5]
 exact ⟨Nat.le_refl _, Nat.le_refl _⟩
set_option maxRecDepth 100000 in
set_option maxHeartbeats 4000000 in
theorem walk (a : Option Addr) (len cap : Nat) (l : List Dq) (w : World) (hl : DqsRd w a len l) (hlb : len ≤ 9223372036854775807) :
  Calls Tryz.prog 5 #[.slice a len cap] w fun e w' => e = .returned (.bool true) ∧ Below w.heap.size w w' := by
 have HL : Hid (DqsRd w a len l) := hl
 obtain ⟨base, hbase⟩ : ∃ base, base = w.heap.size := ⟨_, rfl⟩
 have HBASE : Hid (base = w.heap.size) := hbase
 clear hl hbase
 go_enter Tryz.func5, Tryz.ntmps5
 go_wp2_with fail
 refine (e_start w none 0 0 [] ⟨rfl, .inl rfl, fun _ h => by cases h⟩ (by omega)).mono ?_
 rintro e w2 ⟨ht, hb2⟩
 obtain ⟨gp, g, gs, r, rfl, hf⟩ := ht.out
 rw [← HBASE.out] at hf hb2
 obtain ⟨s0, HS0⟩ : ∃ s0, Hid (s0 = opE (rawD (([] : List Dq).take 200))) := ⟨_, rfl⟩
 rw [← HS0.out] at hf
 have HF2 : Hid (Evs w2 base gp g gs r 60 s0) := hf
 have HB2 : Hid (Below base w w2) := hb2
 have HG2 : Hid (s0.D.waits.length ≤ 300 ∧ s0.D.age ≤ 300) := by
  (show _ ∧ _)
  rw [HS0.out]
  have h1 := rawD_ok (([] : List Dq).take 200)
  have h2 := (op_ok h1.2.1 h1.1).2.2
  have h3 := h1.2.2.1
  have h4 := h1.2.2.2
  simp only [List.take_nil, List.length_nil] at h3
  exact ⟨by show (opD _).waits.length ≤ _; have := h2.wl; simp only [List.take_nil] at this ⊢; omega, by show (opD _).age ≤ _; have := h2.ag; simp only [List.take_nil] at this h4 ⊢; omega⟩
 clear ht hf hb2
 go_wp2
 go_loopw [4, 5, 6, 7] (fun t4 t5 t6 t7 wr => ∃ (i h0 r0 : Nat) (s : Se), i ≤ len ∧ i ≤ 100 ∧ t7 = .int .i64 (i : Int) ∧ t4 = .bool true ∧ t5 = .int .i64 (h0 : Int) ∧ t6 = .int .i64 (r0 : Int) ∧ Hid (Evs wr base gp g gs r (60 + i) s) ∧ Hid (s.D.waits.length ≤ 300 + 40 * i ∧ s.D.age ≤ 300 + i) ∧ Hid (h0 ≤ s.hi ∧ r0 ≤ s.rel) ∧ Hid (Below base w wr)) (fun _ _ _ t7 _ => len - (intOf t7).toNat)
 case atStart => exact ⟨0, 0, 0, s0, by omega, by omega, rfl, rfl, rfl, rfl, HF2, HG2, ⟨Nat.zero_le _, Nat.zero_le _⟩, HB2⟩
 case round =>
  obtain ⟨i, h0, r0, s, hi, hi2, rfl, rfl, rfl, rfl, HF, HG, HR0, HB⟩ := hrel
  have HBw : Hid (Below w.heap.size w wr) := by show Below _ _ _; rw [← HBASE.out]; exact HB.out
  by_cases hgo : i < len ∧ i < 100
  ·obtain ⟨hlt, h200⟩ := hgo
   have hlt' : (i : Int) < (len : Int) := by omega
   have h200' : (i : Int) < 100 := by omega
   obtain ⟨gl0, o, rfl, _, d, hd, hok, e0, e1, e2, e3⟩ := (HL.out.below HBw.out).spot i hlt
   have HLd : Hid (l[i]? = some d) := hd
   have hi0 : (0 : Int) ≤ (i : Int) := by omega
   have HDQ : Hid (∀ w', Below base wr w' → DqOk w' d) := fun w' hb' => (HL.out.each d (List.mem_of_getElem? HLd.out)).below (by rw [← HBASE.out]; exact HB.out.trans hb')
   clear hd hok
   obtain ⟨dk, HDK⟩ : ∃ dk, Hid (dk = d.kind) := ⟨_, rfl⟩
   have HG1 : Hid (s.D.waits.length ≤ 300 + 40 * (i + 1) ∧ s.D.age ≤ 300 + (i + 1)) := ⟨by have := HG.out.1; omega, by have := HG.out.2; omega⟩
   by_cases hk4 : dk = 4
   ·have e0' : wr.cell? ⟨gl0, o + i * 4, none⟩ = some (.int .i64 4) := by rw [e0, ← HDK.out, hk4]
    clear e0 e1 e2 e3
    go_wp2
    go_roundw
    case rel => exact ⟨i + 1, h0, r0, s, by omega, by omega, by go_num, rfl, rfl, rfl, HF.out.mono (by omega), HG1, HR0, HB⟩
    case measure => simp [intOf]; omega
   by_cases hk5 : dk = 5
   ·have e0' : wr.cell? ⟨gl0, o + i * 4, none⟩ = some (.int .i64 5) := by rw [e0, ← HDK.out, hk5]
    clear e0 e1 e2 e3
    go_wp2
    go_roundw
    case rel => exact ⟨i + 1, h0, r0, s, by omega, by omega, by go_num, rfl, rfl, rfl, HF.out.mono (by omega), HG1, HR0, HB⟩
    case measure => simp [intOf]; omega
   have HGR : Hid (s.hi ≤ (stepA s d).hi ∧ s.rel ≤ (stepA s d).rel) := step_grows HF.out.ok d (by rw [← HDK.out]; exact hk4) (by rw [← HDK.out]; exact hk5)
   rw [← HDK.out] at e0
   have q4 : decide (dk = 4) = false := decide_eq_false hk4
   have q5 : decide (dk = 5) = false := decide_eq_false hk5
   have q4' : (dk == 4) = false := by rw [beq_eq_false_iff_ne]; exact hk4
   have q5' : (dk == 5) = false := by rw [beq_eq_false_iff_ne]; exact hk5
   have HEB : Hid (Value.agg (boxE d) = .agg #[.int .i64 dk, .int .i64 d.at_, .slice d.ba d.bl d.bc, .slice d.fa d.fl d.fc]) := by (show _ = _); rw [HDK.out]; rfl
   have HDO := e_do wr base gp g gs r (60 + i) s d HF.out HDQ.out (by have := HG.out.1; omega) (by have := HG.out.2; omega) (by omega) (by omega)
   rw [HEB.out] at HDO
   go_wp2_with fail
   refine HDO.mono ?_
   clear HDO
   rintro e w3 ⟨rfl, hf3, hbl3⟩
   have HB3 : Hid (Below base w w3) := HB.out.trans hbl3
   have HG3 : Hid ((stepA s d).D.waits.length ≤ 300 + 40 * (i + 1) ∧ (stepA s d).D.age ≤ 300 + (i + 1)) := by
    obtain ⟨g1, g2⟩ := step_gr HF.out.ok d
    obtain ⟨f1, f2⟩ := HG.out
    exact ⟨by omega, by omega⟩
   have HF3 : Hid (Evs w3 base gp g gs r (60 + (i + 1)) (stepA s d)) := hf3.out
   obtain ⟨S, HS⟩ : ∃ S, Hid (S = stepA s d) := ⟨_, rfl⟩
   rw [← HS.out] at HF3 HG3 HGR
   have HRR : Hid (h0 ≤ S.hi ∧ r0 ≤ S.rel) := ⟨Nat.le_trans HR0.out.1 HGR.out.1, Nat.le_trans HR0.out.2 HGR.out.2⟩
   obtain ⟨D, V, sh, sr, ag, P⟩ := S
   have hx := HF3.out
   obtain ⟨gl, gc, gy, q, wv, sv, rv, SV, WV, uc, ur, L, L2, vc, vr, hx, hP, hO⟩ := hx
   simp only at hx hP hO
   have HE : Hid (Evp w3 base gp g gs gl gc r gy q ag wv sv rv SV WV D V uc ur sh sr L L2 vc vr) := hx
   have HEP : Hid (L.map plR = P ∧ Okp (60 + (i + 1)) D V sh sr P) := ⟨hP, hO⟩
   have n1 : ¬ (sh : Int) < (h0 : Int) := by have := HRR.out.1; simp only at this; omega
   have n2 : ¬ (sr : Int) < (r0 : Int) := by have := HRR.out.2; simp only at this; omega
   have n3 : ¬ (sh : Int) < (sr : Int) := by have := hO.rh; omega
   have n3' : ¬ (sr : Int) > (sh : Int) := by have := hO.rh; omega
   have d1 : decide ((sh : Int) < (h0 : Int)) = false := decide_eq_false n1
   have d2 : decide ((sr : Int) < (r0 : Int)) = false := decide_eq_false n2
   have d3 : decide ((sh : Int) < (sr : Int)) = false := decide_eq_false n3
   have d3' : decide ((sr : Int) > (sh : Int)) = false := decide_eq_false n3'
   have m1 : decide (sh < h0) = false := decide_eq_false (by omega)
   have m2 : decide (sr < r0) = false := decide_eq_false (by omega)
   have m3 : decide (sh < sr) = false := decide_eq_false (by omega)
   have m4 : ¬ sh < h0 := by omega
   have m5 : ¬ sr < r0 := by omega
   have m6 : ¬ sh < sr := by omega
   clear hf3 hbl3 e0 e1 e2 e3 hx hP hO
   have HC1 : Hid (∀ n, Calls Tryz.prog 13 #[.pointer (some ⟨gl, 0, none⟩)] (w3.drewN n) fun e w' => e = .returned (.int .i64 (sh : Int)) ∧ w' = w3.drewN n) := fun n => evl_High _ gl g gc 1 3 ag sh sr uc vc (HE.out.stay (below_drews (Below.refl _ _) n)).lc.log
   have HC2 : Hid (∀ n, Calls Tryz.prog 14 #[.pointer (some ⟨gl, 0, none⟩)] (w3.drewN n) fun e w' => e = .returned (.int .i64 (sr : Int)) ∧ w' = w3.drewN n) := fun n => evl_Rel _ gl g gc 1 3 ag sh sr uc vc (HE.out.stay (below_drews (Below.refl _ _) n)).lc.log
   have s1 : w3.cell? ⟨gp, 1, none⟩ = some (.pointer (some ⟨gl, 0, none⟩)) := Blk.cell HE.out.pr 1 rfl
   go_wp2
   go_quiet (first
    | (go_at_call 13; exact Calls.quiet_of_same (HC1.out _))
    | (go_at_call 14; exact Calls.quiet_of_same (HC2.out _)))
   generalize hA : w3.drewN _ = wA
   have HBA : Hid (Below w3.heap.size w3 wA) := by (show Below _ _ _); rw [← hA]; exact below_drews (Below.refl _ _) _
   have HEA : Hid (Evp wA base gp g gs gl gc r gy q ag wv sv rv SV WV D V uc ur sh sr L L2 vc vr) := HE.out.stay HBA.out
   have HC3 : Hid (∀ n, Calls Tryz.prog 13 #[.pointer (some ⟨gl, 0, none⟩)] (wA.drewN n) fun e w' => e = .returned (.int .i64 (sh : Int)) ∧ w' = wA.drewN n) := fun n => evl_High _ gl g gc 1 3 ag sh sr uc vc (HEA.out.stay (below_drews (Below.refl _ _) n)).lc.log
   have HC4 : Hid (∀ n, Calls Tryz.prog 14 #[.pointer (some ⟨gl, 0, none⟩)] (wA.drewN n) fun e w' => e = .returned (.int .i64 (sr : Int)) ∧ w' = wA.drewN n) := fun n => evl_Rel _ gl g gc 1 3 ag sh sr uc vc (HEA.out.stay (below_drews (Below.refl _ _) n)).lc.log
   clear hA s1
   have s2 : wA.cell? ⟨gp, 1, none⟩ = some (.pointer (some ⟨gl, 0, none⟩)) := Blk.cell HEA.out.pr 1 rfl
   go_wp2
   go_quiet (first
    | (go_at_call 13; exact Calls.quiet_of_same (HC3.out _))
    | (go_at_call 14; exact Calls.quiet_of_same (HC4.out _)))
   generalize hB : wA.drewN _ = wB
   have HBB : Hid (Below w3.heap.size w3 wB) := by (show Below _ _ _); rw [← hB]; exact HBA.out.trans ((below_drews (Below.refl _ _) _).mono HBA.out.size)
   have HEB2 : Hid (Evp wB base gp g gs gl gc r gy q ag wv sv rv SV WV D V uc ur sh sr L L2 vc vr) := HE.out.stay HBB.out
   clear hB s2
   have s3 : wB.cell? ⟨gp, 1, none⟩ = some (.pointer (some ⟨gl, 0, none⟩)) := Blk.cell HEB2.out.pr 1 rfl
   have HEV : Hid (evF 0 1099511627776 (L.map plR) = L.map plR) := by (show _ = _); rw [HEP.out.1]; exact evF_all HEP.out.2
   have HLL : Hid (L.length ≤ 100000) := by (show _ ≤ _); have h1 := HEP.out.2.pl; rw [← HEP.out.1, List.length_map] at h1; omega
   have HEVC := evl_Events wB base gl g gc 1 3 ag sh sr uc vc L 0 1099511627776 HEB2.out.lc.log HEB2.out.lc.recs HLL.out
   go_wp2_with fail
   clear s3 d1 d2 d3 d3' n1 n2 n3 n3' m1 m2 m3 m4 m5 m6
   refine HEVC.mono ?_
   rintro e w5 ⟨ht5, hb5⟩
   obtain ⟨ve, Le, rfl, hLe, hRe⟩ := ht5.out
   have hb5' : Below w3.heap.size w3 w5 := HBB.out.trans (hb5.mono HBB.out.size)
   obtain ⟨a5, c5, hve⟩ := hRe.val
   subst hve
   have HR5 : Hid (∃ B, Rcs w5 B (.slice a5 Le.length c5) Le) := ⟨_, hRe⟩
   have HLe : Hid (Le.map plR = P) := by (show _ = _); rw [hLe, HEV.out, HEP.out.1]
   have HF5 : Hid (Evs w5 base gp g gs r (60 + (i + 1)) ⟨D, V, sh, sr, ag, P⟩) := Ev.stay HF3.out hb5'
   have HB5 : Hid (Below base w w5) := HB3.out.trans (hb5'.mono (by have := HB3.out.size; have := HBASE.out; omega))
   obtain ⟨n5, HN5⟩ : ∃ n, Hid (n = Le.length) := ⟨_, rfl⟩
   have HN6 : Hid (n5 ≤ 10000) := by (show _ ≤ _); have h1 := HEP.out.2.pl; rw [← HLe.out, List.length_map] at h1; rw [HN5.out]; omega
   rw [← HN5.out] at HR5
   rw [← HN5.out]
   clear ht5 hb5 hb5' hLe hRe
   go_wp2
   go_loopg [9] n5 (fun gk t9 wq => ∃ (k : Nat), t9 = .int .i64 (k : Int) ∧ Hid (gk + k = n5) ∧ Hid (Below w5.heap.size w5 wq))
   case atStart => exact ⟨0, rfl, Nat.add_zero _, Below.refl _ _⟩
   case round =>
    obtain ⟨k, rfl, HKN, HBq⟩ := hrel
    have hn10 : n5 ≤ 10000 := HN6.out
    by_cases hkn : k < n5
    ·have hkn' : (k : Int) < (n5 : Int) := by omega
     have hk0 : (0 : Int) ≤ (k : Int) := by omega
     obtain ⟨B5, hR⟩ := HR5.out
     have hRq := hR.below HBq.out
     have hkL : k < Le.length := by have := HN5.out; omega
     obtain ⟨gr, cr, hv, hgr, hrg⟩ := hRq.cut (List.getElem?_eq_getElem hkL)
     simp only [Value.slice.injEq] at hv
     obtain ⟨rfl, hv1, hv2⟩ := hv
     clear hv1 hv2
     obtain ⟨x, HX⟩ : ∃ x, x = Le[k] := ⟨_, rfl⟩
     rw [← HX] at hrg
     have x0 : wr.cell? ⟨gr, k * 2, none⟩ = some (.int .i64 (x.tick : Int)) := hrg 0 _ rfl
     have hxP : plR x ∈ P := by rw [← HLe.out, HX]; exact List.mem_map_of_mem (List.getElem_mem hkL)
     have hps := HEP.out.2.ps _ hxP
     have hp1 : sr < x.tick := hps.1
     have hp2 : x.tick ≤ sh := hps.2
     have d1 : decide ((x.tick : Int) ≤ (sr : Int)) = false := decide_eq_false (by omega)
     have d2 : decide ((x.tick : Int) > (sh : Int)) = false := decide_eq_false (by omega)
     have d2' : decide ((sh : Int) < (x.tick : Int)) = false := decide_eq_false (by omega)
     have m1 : decide (x.tick ≤ sr) = false := decide_eq_false (by omega)
     have m2 : decide (sh < x.tick) = false := decide_eq_false (by omega)
     have r0 : (sr : Int) < (x.tick : Int) := by omega
     have r1 : decide ((sr : Int) < (x.tick : Int)) = true := decide_eq_true (by omega)
     have r2 : decide (sr < x.tick) = true := decide_eq_true (by omega)
     have w1 : (x.tick ≤ sr) = False := eq_false (by omega)
     have w2 : ((x.tick : Int) ≤ (sr : Int)) = False := eq_false (by omega)
     have w3 : (sh < x.tick) = False := eq_false (by omega)
     have q1 : ¬ x.tick ≤ sr := by omega
     have q2 : ¬ sh < x.tick := by omega
     have q3 : ¬ (x.tick : Int) ≤ (sr : Int) := by omega
     have q4 : ¬ (sh : Int) < (x.tick : Int) := by omega
     have HXH : Hid (x = Le[k]) := HX
     clear hrg hgr hxP hps HX
     by_cases hkz : k = 0
     ·subst hkz
      have x0z : wr.cell? ⟨gr, 0, none⟩ = some (.int .i64 (x.tick : Int)) := by simpa using x0
      have HBn : Hid (∀ m, Below w5.heap.size w5 (wr.drewN m)) := fun m => below_drews HBq.out m
      go_wp2
      go_quiet (fail)
      generalize hnq : wr.drewN _ = wN
      have HBN : Hid (Below w5.heap.size w5 wN) := by (show Below _ _ _); rw [← hnq]; exact HBn.out _
      clear hnq x0 x0z d1 d2 d2' m1 m2 q1 q2 q3 q4 r0 r1 r2 w1 w2 w3
      go_wp2
      go_roundg (gk - 1)
      case measure => (have := HKN.out; omega)
      case rel => exact ⟨1, by go_num, (by (show _ = _); have := HKN.out; omega), HBN⟩
     ·obtain ⟨j, rfl⟩ : ∃ j, k = j + 1 := ⟨k - 1, by omega⟩
      have hjL : j < Le.length := by omega
      obtain ⟨gr2, cr2, hv2, _, hrg2⟩ := hRq.cut (List.getElem?_eq_getElem hjL)
      simp only [Value.slice.injEq, Option.some.injEq, Addr.mk.injEq, and_true] at hv2
      obtain ⟨rfl, hv3, hv4⟩ := hv2
      clear hv3 hv4
      obtain ⟨y, HY⟩ : ∃ y, y = Le[j] := ⟨_, rfl⟩
      rw [← HY] at hrg2
      have y0 : wr.cell? ⟨gr, j * 2, none⟩ = some (.int .i64 (y.tick : Int)) := hrg2 0 _ rfl
      have hyx : y.tick < x.tick := by
       have h1 := HEP.out.2.up
       rw [← HLe.out, List.pairwise_map] at h1
       have h2 := List.pairwise_iff_getElem.1 h1 j (j + 1) hjL hkL (Nat.lt_succ_self j)
       rw [← HXH.out, ← HY] at h2
       exact h2
      have d4 : decide ((x.tick : Int) ≤ (y.tick : Int)) = false := decide_eq_false (by omega)
      have m7 : decide (x.tick ≤ y.tick) = false := decide_eq_false (by omega)
      have hj1 : ((j + 1 : Nat) : Int) - 1 = (j : Int) := by omega
      have hj2 : (j : Int) + 1 - 1 = (j : Int) := by omega
      have hjp : (0 : Int) < ((j + 1 : Nat) : Int) := by omega
      have hjp2 : (0 : Int) < (j : Int) + 1 := by omega
      have p1 : decide ((0 : Int) < (j : Int) + 1) = true := decide_eq_true (by omega)
      have p2 : decide ((j : Int) + 1 > 0) = true := decide_eq_true (by omega)
      have hjn : (j : Int) < (n5 : Int) := by omega
      have hjm : (j : Int) + 1 < (n5 : Int) := by omega
      have hj3 : (0 : Int) ≤ (j : Int) + 1 := by omega
      have r3 : (y.tick : Int) < (x.tick : Int) := by omega
      have r4 : decide ((y.tick : Int) < (x.tick : Int)) = true := decide_eq_true (by omega)
      have r5 : decide (y.tick < x.tick) = true := decide_eq_true (by omega)
      have w4 : (x.tick ≤ y.tick) = False := eq_false (by omega)
      have w6 : ((x.tick : Int) ≤ (y.tick : Int)) = False := eq_false (by omega)
      have q5 : ¬ x.tick ≤ y.tick := by omega
      have q6 : ¬ (x.tick : Int) ≤ (y.tick : Int) := by omega
      have hj0 : (0 : Int) ≤ (j : Int) := by omega
      have HBn : Hid (∀ m, Below w5.heap.size w5 (wr.drewN m)) := fun m => below_drews HBq.out m
      clear hrg2 HY
      go_wp2
      go_quiet (fail)
      generalize hnq : wr.drewN _ = wN
      have HBN : Hid (Below w5.heap.size w5 wN) := by (show Below _ _ _); rw [← hnq]; exact HBn.out _
      clear hnq x0 y0 d1 d2 d2' m1 m2 q1 q2 q3 q4 r0 r1 r2 w1 w2 w3 r3 r4 r5 w4 w6 q5 q6 d4 m7
      go_wp2
      go_roundg (gk - 1)
      case measure => (have := HKN.out; omega)
      case rel => exact ⟨j + 1 + 1, by go_num, (by (show _ = _); have := HKN.out; omega), HBN⟩
    ·have hnl : ¬ (k : Int) < (n5 : Int) := by omega
     have HFq : Hid (Evs wr base gp g gs r (60 + (i + 1)) ⟨D, V, sh, sr, ag, P⟩) := Ev.stay HF5.out HBq.out
     have HBqq : Hid (Below base w wr) := HB5.out.trans (HBq.out.mono (by have := HB5.out.size; have := HBASE.out; omega))
     go_wp2
     go_roundw
     case rel => exact ⟨i + 1, sh, sr, ⟨D, V, sh, sr, ag, P⟩, by omega, by omega, by go_num, rfl, rfl, rfl, HFq, HG3, ⟨Nat.le_refl _, Nat.le_refl _⟩, HBqq⟩
     case measure => simp [intOf]; omega
  ·have hcase : (¬ (i : Int) < (len : Int)) ∨ ((i : Int) < (len : Int) ∧ ¬ (i : Int) < 100) := by omega
   clear hgo
   rcases hcase with hc | ⟨hc, hc2⟩ <;>
   (go_wp2_with fail
    refine (law_live11 wr).mono ?_
    rintro e w5 ⟨rfl, hb5⟩
    have HB5 : Hid (Below w.heap.size w w5) := HBw.out.trans (hb5.mono HBw.out.size)
    clear hb5
    go_wp2
    go_ret
    exact ⟨rfl, HB5.out⟩ )
set_option maxRecDepth 100000 in
theorem contract (H : Type) (enc : TypeId × Value → H) (W : World) (base : Nat) (args : Array Value) (ds gs : List (DataW H)) (before : List MemPlace)
  (hval : ∀ (j : Nat) t v, Tryz.f5.params[j]? = some t → args[j]? = some v → Value.okWide Tryz.prog W .any base t v)
  (hW : DataW.Whole enc Tryz.prog Tryz.f5.params.toList Rows.evlogGrowsSpec.vars false W args.toList ds gs before) (hsz0 : (DataW.weightsEach Tryz.prog (Tryz.f5.params.toList ++ Rows.evlogGrowsSpec.plain.varTypes Tryz.prog) (ds ++ gs)).all (· ≤ reachBytes) = true) :
  Calls Tryz.prog 5 args W fun e W' => ∃ v, e = .returned v ∧ Rows.evlogGrowsSpec.post enc Tryz.prog Tryz.f5 false true false false W args v W' := by
 have hW' := hW
 obtain ⟨p, q, hA0, hV, rfl, hfz, hnd⟩ := hW
 have hA : DataW.TrodAll enc Tryz.prog W 0 (fun _ => true) true Tryz.f5.params.toList args.toList ds p := hA0
 have hK := hA
 have hsz := hsz0
 rw [Tryz.params5] at hA hval hsz
 obtain ⟨v0, vs0, d0, ds0, p0, q0, hargs, rfl, rfl, h0, r0⟩ := trodAll_cons hA
 obtain ⟨rfl, rfl, rfl⟩ := trodAll_nil r0
 obtain rfl : args = #[v0] := by cases args; simp_all
 obtain ⟨rfl, rfl⟩ := trodVars_none hV
 have hw0 : ∀ y ∈ DataW.weights Tryz.prog 22 d0, y ≤ reachBytes := fun y hy => by have := List.all_eq_true.1 hsz _ (DataW.weights_mem_each (j := 0) rfl rfl y hy); simpa using this
 obtain ⟨a0, len0, cap0, rfl⟩ := okWide_slice Tryz.underlying22 (hval 0 22 v0 rfl rfl)
 obtain ⟨fu0, hf0⟩ := h0
 obtain ⟨l0, rd0, lc0, cm0⟩ := open_deeds11 hf0 hw0
 refine (walk a0 len0 cap0 l0 W rd0 (by unfold maxLen at cm0; omega)).mono fun e W' ⟨he, bel⟩ => ?_
 subst he
 exact ⟨_, rfl, _, _, _, [], _, [], hW', trodAll_mk1 (shut_bool Tryz.underlying4 _), trodAll_below laidOut bel _ _ _ _ (by kernel_rfl) hK, rfl, bel.frame _, fun h => by cases h⟩
set_option maxRecDepth 100000 in
theorem lifted (os : Os) (started : os.Started) (H : Type) (enc : TypeId × Value → H) :
  ReturnsInHanded {} Tryz.checked os 5 .any (Rows.evlogGrowsSpec.pre6 enc Tryz.prog Tryz.f5 Rows.evlogGrowsRow.domain false) (Rows.evlogGrowsSpec.post enc Tryz.prog Tryz.f5 false true false false) := by
 refine returnsInHanded_of_change_sized (C := Tryz.checked) own started (by kernel_rfl) Tryz.func5
  (ChangeSpec.witness6 (enc := enc) (C := Tryz.checked) false ⟨#[], #[.slice none 0 0], []⟩ 8 (by kernel_rfl) (by kernel_rfl) (by kernel_rfl) (by kernel_rfl)) ?_
 intro W base args ds gs before hval hW _ hsz _
 exact contract H enc W base args ds gs before hval hW hsz
theorem said : Rows.EvlogGrowsSaid :=
 OpenClaim.holds_of_wide 5 Tryz.f5 rfl rfl rfl rfl rfl rfl rfl ⟨rfl, rfl, rfl, rfl, rfl⟩ rfl rfl rfl rfl rfl (by kernel_rfl) Tryz.func5 (by kernel_rfl)
  (of_decide_eq_true (by kernel_rfl)) (by unfold Func.isWrapper; first | (rw [if_pos (by decide +kernel)]; kernel_rfl) | (rw [if_neg (by decide +kernel)]; exact ⟨rfl, rfl⟩))
  (fun os started H enc _ => lifted os started H enc)
end evlogGrows
theorem evlogGrows_holds : Rows.EvlogGrowsSaid := evlogGrows.said
end Go.Proofs.YtghajmcohdedlaaGreat
