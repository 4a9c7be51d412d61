/- Where all is released one segment at most is used, and there is room for a record: every script (of up to 100 deeds), and record. No condition. -/
import Derived.Test.YtghajmcohdedlaaGreatPk48
import Derived.Test.YtghajmcohdedlaaGreatPk52
import Derived.Deep.RegionHeld3
import Derived.Deep.QuietTactic
import Derived.BigQuiet
namespace Go.Proofs.YtghajmcohdedlaaGreat
open Go.ChangeShapes Go.WideShapes Go.ChangeAt Go.RowKit
namespace evlogRoom
set_option maxRecDepth 100000 in
set_option maxHeartbeats 4000000 in
theorem walk (a : Option Addr) (len cap : Nat) (l : List Dq) (w : World) (hl : DqsRd w a len l) (hlb : len ≤ 9223372036854775807) (a1 : Option Addr) (n1 c1 : Nat) (bs : List Nat) (hr1 : Rd w a1 n1 bs) (hnn : a1 = none → c1 = 0) (hl1 : n1 ≤ 9223372036854775807) :
  Calls Tryz.prog 6 #[.slice a len cap, .slice a1 n1 c1] w fun e w' => e = .returned (.bool true) ∧ Below w.heap.size w w' := by
 have HL : Hid (DqsRd w a len l) := hl
 obtain ⟨base, hbase⟩ : ∃ base, base = w.heap.size := ⟨_, rfl⟩
 have HBASE : Hid (base = w.heap.size) := hbase
 clear hl hbase
 go_enter Tryz.func6, Tryz.ntmps6
 go_wp2_with fail
 refine (e_start w none 0 0 [] ⟨rfl, .inl rfl, fun _ h => by cases h⟩ (by omega)).mono ?_
 rintro e w2 ⟨ht, hb2⟩
 obtain ⟨gp, g, gs, r, rfl, hf⟩ := ht.out
 rw [← HBASE.out] at hf hb2
 obtain ⟨s0, HS0⟩ : ∃ s0, Hid (s0 = opE (rawD (([] : List Dq).take 200))) := ⟨_, rfl⟩
 rw [← HS0.out] at hf
 have HF2 : Hid (Evs w2 base gp g gs r 60 s0) := hf
 have HB2 : Hid (Below base w w2) := hb2
 have HG2 : Hid (s0.D.waits.length ≤ 300 ∧ s0.D.age ≤ 300) := by
  (show _ ∧ _)
  rw [HS0.out]
  have h1 := rawD_ok (([] : List Dq).take 200)
  have h2 := (op_ok h1.2.1 h1.1).2.2
  have h3 := h1.2.2.1
  have h4 := h1.2.2.2
  simp only [List.take_nil, List.length_nil] at h3
  exact ⟨by show (opD _).waits.length ≤ _; have := h2.wl; simp only [List.take_nil] at this ⊢; omega, by show (opD _).age ≤ _; have := h2.ag; simp only [List.take_nil] at this h4 ⊢; omega⟩
 have HR1 : Hid (Rd w a1 n1 bs) := hr1
 have HNN : Hid ((a1 = none → c1 = 0) ∧ n1 ≤ 9223372036854775807) := ⟨hnn, hl1⟩
 have HRM0 : Hid (Rm 0 s0) := by
  (show Rm _ _)
  rw [HS0.out]
  exact Rm.open (Hd.new 0) ⟨rfl, rfl⟩ (by (show (List.replicate 52 (List.replicate 64 0)).length = 52); rw [List.length_replicate])
 clear ht hf hb2 hr1 hnn
 go_wp2
 go_loopw [6, 7] (fun t6 t7 wr => ∃ (i : Nat) (s : Se), i ≤ len ∧ i ≤ 100 ∧ t7 = .int .i64 (i : Int) ∧ t6 = .bool true ∧ Hid (Evs wr base gp g gs r (60 + i) s) ∧ Hid (s.D.waits.length ≤ 300 + 40 * i ∧ s.D.age ≤ 300 + i) ∧ Hid (Rm i s) ∧ Hid (Below base w wr)) (fun _ t7 _ => len - (intOf t7).toNat)
 case atStart => exact ⟨0, s0, by omega, by omega, rfl, rfl, HF2, HG2, HRM0, HB2⟩
 case round =>
  obtain ⟨i, s, hi, hi2, rfl, rfl, HF, HG, HRM, HB⟩ := hrel
  have HBw : Hid (Below w.heap.size w wr) := by show Below _ _ _; rw [← HBASE.out]; exact HB.out
  by_cases hgo : i < len ∧ i < 100
  ·obtain ⟨hlt, h200⟩ := hgo
   have hlt' : (i : Int) < (len : Int) := by omega
   have h200' : (i : Int) < 100 := by omega
   obtain ⟨gl, o, rfl, _, d, hd, hok, e0, e1, e2, e3⟩ := (HL.out.below HBw.out).spot i hlt
   have HLd : Hid (l[i]? = some d) := hd
   have hi0 : (0 : Int) ≤ (i : Int) := by omega
   have HDQ : Hid (∀ w', Below base wr w' → DqOk w' d) := fun w' hb' => (HL.out.each d (List.mem_of_getElem? HLd.out)).below (by rw [← HBASE.out]; exact HB.out.trans hb')
   clear hd hok
   obtain ⟨dk, HDK⟩ : ∃ dk, Hid (dk = d.kind) := ⟨_, rfl⟩
   have HG1 : Hid (s.D.waits.length ≤ 300 + 40 * (i + 1) ∧ s.D.age ≤ 300 + (i + 1)) := ⟨by have := HG.out.1; omega, by have := HG.out.2; omega⟩
   by_cases hk5 : dk = 5
   ·have e0' : wr.cell? ⟨gl, o + i * 4, none⟩ = some (.int .i64 5) := by rw [e0, ← HDK.out, hk5]
    clear e0 e1 e2 e3
    go_wp2
    go_roundw
    case rel => exact ⟨i + 1, s, by omega, by omega, by go_num, rfl, HF.out.mono (by omega), HG1, HRM.out.mono (by omega), HB⟩
    case measure => simp [intOf]; omega
   have HRM1 : Hid (Rm (i + 1) (stepA s d)) := step_rm HRM.out HF.out.ok (by omega) d (by rw [← HDK.out]; exact hk5)
   rw [← HDK.out] at e0
   have q5 : decide (dk = 5) = false := decide_eq_false hk5
   have q5' : (dk == 5) = false := by rw [beq_eq_false_iff_ne]; exact hk5
   have HEB : Hid (Value.agg (boxE d) = .agg #[.int .i64 dk, .int .i64 d.at_, .slice d.ba d.bl d.bc, .slice d.fa d.fl d.fc]) := by (show _ = _); rw [HDK.out]; rfl
   have HDO := e_do wr base gp g gs r (60 + i) s d HF.out HDQ.out (by have := HG.out.1; omega) (by have := HG.out.2; omega) (by omega) (by omega)
   rw [HEB.out] at HDO
   go_wp2_with fail
   refine HDO.mono ?_
   clear HDO
   rintro e w3 ⟨rfl, hf3, hbl3⟩
   have HF3 : Hid (Evs w3 base gp g gs r (60 + (i + 1)) (stepA s d)) := hf3.out
   have HB3 : Hid (Below base w w3) := HB.out.trans hbl3
   have HG3 : Hid ((stepA s d).D.waits.length ≤ 300 + 40 * (i + 1) ∧ (stepA s d).D.age ≤ 300 + (i + 1)) := by
    obtain ⟨g1, g2⟩ := step_gr HF.out.ok d
    obtain ⟨f1, f2⟩ := HG.out
    exact ⟨by omega, by omega⟩
   clear hf3 hbl3 e0 e1 e2 e3
   go_wp2
   go_roundw
   case rel => exact ⟨i + 1, stepA s d, by omega, by omega, by go_num, rfl, HF3, HG3, HRM1, HB3⟩
   case measure => simp [intOf]; omega
  ·have hcase : (¬ (i : Int) < (len : Int)) ∨ ((i : Int) < (len : Int) ∧ ¬ (i : Int) < 100) := by omega
   have HWL : Hid (s.D.waits.length ≤ 700000000) := by (show _ ≤ _); have := HG.out.1; omega
   have hh40 : s.hi ≤ 1099511627776 := HF.out.ok.hh
   obtain ⟨D, V, sh, sr, ag, P⟩ := s
   have hx := HF.out
   obtain ⟨gl, gc, gy, q, wv, sv, rv, SV, WV, uc, ur, L, L2, vc, vr, hx, hP, hO⟩ := hx
   simp only at hx hP hO hh40
   have HE0 : Hid (Evp wr base gp g gs gl gc r gy q ag wv sv rv SV WV D V uc ur sh sr L L2 vc vr) := hx
   have HE : Hid (Evp wr.drew base gp g gs gl gc r gy q ag wv sv rv SV WV D V uc ur sh sr L L2 vc vr) := hx.stay (Below.refl _ _).drew
   have HBd : Hid (Below base w wr.drew) := HB.out.drew
   have HBwd : Hid (Below w.heap.size w wr.drew) := HBw.out.drew
   have HPO : Hid (L.map plR = P ∧ Okp (60 + i) D V sh sr P) := ⟨hP, hO⟩
   have HBS : Hid (base ≤ wr.heap.size) := hx.base
   have s1 : wr.drew.cell? ⟨gp, 0, none⟩ = some (.pointer (some ⟨g, 0, none⟩)) ∧ wr.drew.cell? ⟨gp, 1, none⟩ = some (.pointer (some ⟨gl, 0, none⟩)) := ⟨Blk.cell HE.out.pr 0 rfl, Blk.cell HE.out.pr 1 rfl⟩
   obtain ⟨R, HR⟩ : ∃ R, Hid (chpE ⟨D, V, sh, sr, ag, P⟩ (sh : Int) = R) := ⟨_, rfl⟩
   have HCC : Hid (Calls Tryz.prog 17 #[.pointer (some ⟨gl, 0, none⟩), .int .i64 (sh : Int)] wr.drew fun e w2 => CodeDid wr.drew base g gs gl gc ag uc vc L R e w2) := by (show Calls _ _ _ _ _); rw [← HR.out]; exact chop_code HE.out.lc HPO.out.1 HPO.out.2 (by omega) (by have := HWL.out; simp only at this; omega) (sh : Int)
   have HRO : Hid (Okp (60 + i) R.2.D R.2.V sh R.2.rel R.2.P ∧ R.2.hi = sh ∧ Rm i R.2 ∧ R.2.ag = ag ∧ R.2.D.waits.length ≤ 700000100) := by
    (show _ ∧ _ ∧ _ ∧ _ ∧ _)
    rw [← HR.out]
    have h1 := chop_ok HPO.out.2 ag (sh : Int)
    exact ⟨h1.2.1, rfl, chop_rm HRM.out HPO.out.2 _, rfl, by have h2 := h1.1.wl; have h3 := HWL.out; simp only at h3; (show (chopRF 1 D ag V sh sr (sh : Int)).2.1.waits.length ≤ _); omega⟩
   have HALL : Hid (D.down = false → R.1 = 0 → R.2.V.length ≤ 1 ∧ R.2.P = [] ∧ R.2.D.down = false) := by
    (show _ → _)
    rw [← HR.out]
    exact fun h1 h2 => chop_all HRM.out HPO.out.2 h1 h2
   obtain ⟨E, S⟩ := R
   simp only at HRO HALL
   clear hgo hx hP hO HR HRM
   by_cases hdn : D.down = true
   ·have HCD : Hid (∀ n, Calls Tryz.prog 16 #[.pointer (some ⟨g, 0, none⟩)] (wr.drewN n) fun e w' => e = .returned (.bool true) ∧ w' = wr.drewN n) := fun n => by
     have h := disk_Down (wr.drewN n) base g gs wv D (HE0.out.stay (below_drews (Below.refl _ _) n)).lc.disk
     rw [hdn] at h
     exact h
    have t1 : wr.cell? ⟨gp, 0, none⟩ = some (.pointer (some ⟨g, 0, none⟩)) := Blk.cell HE0.out.pr 0 rfl
    clear s1
    rcases hcase with hc | ⟨hc, hc2⟩ <;>
    (go_wp2
     go_quiet (first | (go_at_call 16; exact Calls.quiet_of_same (HCD.out _)))
     generalize hA : wr.drewN _ = wA
     have HBA : Hid (Below w.heap.size w wA) := by (show Below _ _ _); rw [← hA]; exact below_drews HBw.out _
     clear hA t1
     go_wp2_with fail
     refine (law_live11 wA).mono ?_
     rintro e wZ ⟨rfl, hbZ⟩
     have HBZ : Hid (Below w.heap.size w wZ) := (HBA.out).trans (hbZ.mono (HBA.out).size)
     clear hbZ
     go_wp2
     go_ret
     exact ⟨by simp, HBZ.out⟩ )
   have hdn2 : D.down = false := by simpa using hdn
   clear hdn
   by_cases hE : E = 0
   rotate_left
   ·have hE1 : ¬ E = 0 := hE
    have hE2 : decide (E = 0) = false := decide_eq_false hE
    have hE3 : (E == 0) = false := by rw [beq_eq_false_iff_ne]; exact hE
    rcases hcase with hc | ⟨hc, hc2⟩ <;>
    (go_wp2
     go_region_held3 (fun w' => w'.cell? ⟨gp, 0, none⟩ = some (.pointer (some ⟨g, 0, none⟩)) ∧ w'.cell? ⟨gp, 1, none⟩ = some (.pointer (some ⟨gl, 0, none⟩))) (first | exact s1 | exact s2 | exact s3 | exact s4 | fail)
      (first
       | (go_at_call 16; refine (disk_Down _ base g gs wv D HE.out.lc.disk).mono ?_; rw [hdn2]; rintro e w2 ⟨rfl, hw2⟩; subst hw2; have s2 := s1)
       | (go_at_call 13; refine (evl_High _ gl g gc 1 3 ag sh sr uc vc HE.out.lc.log).mono ?_; rintro e w3 ⟨rfl, hw3⟩; subst hw3; have s3 := s1)
       | (go_at_call 17; refine HCC.out.mono ?_; intro e w4 hc4; have he4 := hc4.1; subst he4; have s4 : w4.cell? ⟨gp, 0, none⟩ = some (.pointer (some ⟨g, 0, none⟩)) ∧ w4.cell? ⟨gp, 1, none⟩ = some (.pointer (some ⟨gl, 0, none⟩)) := ⟨Blk.cell (HE.out.mid hc4.2.2.out).2.2 0 rfl, Blk.cell (HE.out.mid hc4.2.2.out).2.2 1 rfl⟩))
     have HB4 : Hid (Below w.heap.size w w4) := by (show Below _ _ _); rw [← HBASE.out]; exact HBd.out.trans hc4.2.2.out.low
     clear s1 s2 s3 s4 hc4
     go_wp2_with fail
     refine (law_live11 w4).mono ?_
     rintro e wZ ⟨rfl, hbZ⟩
     have HBZ : Hid (Below w.heap.size w wZ) := (HB4.out).trans (hbZ.mono (HB4.out).size)
     clear hbZ
     go_wp2
     go_ret
     exact ⟨by simp, HBZ.out⟩ )
   subst hE
   obtain ⟨hV1, hP0, hup⟩ := HALL.out hdn2 rfl
   have HS3 : Hid (S.V.length ≤ 1 ∧ S.P = [] ∧ S.D.down = false) := ⟨hV1, hP0, hup⟩
   have HTC := trip_calm hup
   have HOK3 : Hid (Okp (60 + i) (tripD S.D 0) S.V sh S.rel []) := by (show Okp _ _ _ _ _ _); have h1 := HRO.out.1; rw [hP0] at h1; exact h1.disk (by rw [HTC.2.2.1])
   have HWT3 : Hid ((tripD S.D 0).waits.length ≤ 800000000) := by (show _ ≤ _); rw [HTC.2.2.2.1]; have := HRO.out.2.2.2.2; omega
   have HTE : Hid (tripE S.D 0 = 0) := HTC.1
   have HROOM := room HRO.out.2.2.1.vn hV1 HOK3.out HTC.2.1 (by omega) bs
   rw [HTC.2.2.2.2, ← HRO.out.2.2.1.ag, HRO.out.2.2.2.1] at HROOM
   obtain ⟨T, HT⟩ : ∃ T : Int, Hid (T = (sh : Int) + 1) := ⟨_, rfl⟩
   have hT1 : T ≤ 1099511627777 := by rw [HT.out]; omega
   have HRM2 : Hid ((400 < bs.length → (appE ⟨tripD S.D 0, S.V, sh, S.rel, ag, []⟩ T bs).1 = 6) ∧ (bs.length ≤ 400 → 1099511627776 < T → (appE ⟨tripD S.D 0, S.V, sh, S.rel, ag, []⟩ T bs).1 = 14) ∧ (bs.length ≤ 400 → T ≤ 1099511627776 → (appE ⟨tripD S.D 0, S.V, sh, S.rel, ag, []⟩ T bs).1 = 0 ∧ (appE ⟨tripD S.D 0, S.V, sh, S.rel, ag, []⟩ T bs).2.P = [(sh + 1, bs)])) := by
    rw [HT.out]
    refine ⟨HROOM.1, fun h1 h2 => HROOM.2.1 (by omega) h2, fun h1 h2 => ?_⟩
    have h3 := HROOM.2.2 (by omega) (by omega)
    refine ⟨h3.1, ?_⟩
    show (if _ then _ else _) = _
    rw [if_pos h3.2]
    show [] ++ [(((sh : Int) + 1).toNat, bs)] = _
    rw [show ((sh : Int) + 1).toNat = sh + 1 from by omega]
    rfl
   obtain ⟨un, HUN⟩ : ∃ un, Hid (un = S.V.length) := ⟨_, rfl⟩
   have hu1 : un ≤ 1 := by rw [HUN.out]; exact hV1
   have HBL : Hid (bs.length = n1) := HR1.out.size
   obtain ⟨Q, HQ⟩ : ∃ Q, Hid (appE ⟨tripD S.D 0, S.V, sh, S.rel, ag, []⟩ T bs = Q) := ⟨_, rfl⟩
   rw [HQ.out, HBL.out] at HRM2
   clear HROOM HTC hV1 hP0 hup
   rcases hcase with hc | ⟨hc, hc2⟩ <;>
   (go_wp2
    go_region_held3 (fun w' => w'.cell? ⟨gp, 0, none⟩ = some (.pointer (some ⟨g, 0, none⟩)) ∧ w'.cell? ⟨gp, 1, none⟩ = some (.pointer (some ⟨gl, 0, none⟩))) (first | exact s1 | exact s2 | exact s3 | exact s4 | fail)
     (first
      | (go_at_call 16; refine (disk_Down _ base g gs wv D HE.out.lc.disk).mono ?_; rw [hdn2]; rintro e w2 ⟨rfl, hw2⟩; subst hw2; have s2 := s1)
      | (go_at_call 13; refine (evl_High _ gl g gc 1 3 ag sh sr uc vc HE.out.lc.log).mono ?_; rintro e w3 ⟨rfl, hw3⟩; subst hw3; have s3 := s1)
      | (go_at_call 17; refine HCC.out.mono ?_; intro e w4 hc4; have he4 := hc4.1; subst he4; have s4 : w4.cell? ⟨gp, 0, none⟩ = some (.pointer (some ⟨g, 0, none⟩)) ∧ w4.cell? ⟨gp, 1, none⟩ = some (.pointer (some ⟨gl, 0, none⟩)) := ⟨Blk.cell (HE.out.mid hc4.2.2.out).2.2 0 rfl, Blk.cell (HE.out.mid hc4.2.2.out).2.2 1 rfl⟩))
    have HP4 : Hid (Pr11 w4 gp g gl r gy) := (HE.out.mid hc4.2.2.out).2.2
    have HB4 : Hid (Below base w w4) := HBd.out.trans hc4.2.2.out.low
    obtain ⟨wv4, uc4, L4, vc4, hg4, hL4, _, _⟩ := hc4.2.1.out
    simp only at hg4 hL4
    rw [HRO.out.2.1] at hg4
    rw [HS3.out.2.1] at hL4
    obtain rfl : L4 = [] := by cases L4 with | nil => rfl | cons x y => cases hL4
    have HG4 : Hid (LgG w4 base base g gs wv4 S.D gl gc 1 3 ag (S.V.map (plc 1)) uc4 sh S.rel [] vc4) := hg4
    obtain ⟨a4, c4, hu4⟩ := Sgs.val hg4.used
    rw [List.length_map, ← HUN.out] at hu4
    subst hu4
    have d1 : w4.cell? ⟨gp, 1, none⟩ = some (.pointer (some ⟨gl, 0, none⟩)) := s4.2
    clear s1 s2 s3 s4 hc4 hg4 hL4
    go_wp2_with fail
    refine (evl_Used w4 gl g gc 1 3 ag sh S.rel a4 un c4 vc4 HG4.out.log).mono ?_
    rintro e w0 ⟨rfl, hw0⟩
    subst w0
    have hu2 : ¬ (1 : Int) < (un : Int) := by omega
    have hu3 : decide ((1 : Int) < (un : Int)) = false := decide_eq_false hu2
    have hu4 : ¬ 1 < un := by omega
    go_wp2_with fail
    clear d1
    refine (evl_Events w4 base gl g gc 1 3 ag sh S.rel _ vc4 [] 0 1099511627776 HG4.out.log HG4.out.recs (by simp)).mono ?_
    rintro e w5 ⟨ht5, hb5⟩
    obtain ⟨v5, L5, rfl, hL5, hR5⟩ := ht5.out
    obtain rfl : L5 = [] := by cases L5 with | nil => rfl | cons x y => cases hL5
    obtain ⟨a5, c5, hv5⟩ := hR5.val
    subst hv5
    have HG5 : Hid (LgG w5 base base g gs wv4 S.D gl gc 1 3 ag (S.V.map (plc 1)) (.slice a4 un c4) sh S.rel [] vc4) := HG4.out.below hb5
    have HP5 : Hid (Pr11 w5 gp g gl r gy) := Blk.stay HP4.out hb5
    have HB5 : Hid (Below base w w5) := HB4.out.trans (hb5.mono HG4.out.sz)
    have d0 : w5.cell? ⟨gp, 0, none⟩ = some (.pointer (some ⟨g, 0, none⟩)) := Blk.cell HP5.out 0 rfl
    clear ht5 hb5 hL5 hR5
    go_wp2_with fail
    clear d0
    refine (disk_Trip w5 base g gs wv4 S.D 0 HG5.out.disk (by omega)).mono ?_
    rw [HTE.out]
    rintro e w6 ⟨rfl, hd6, hm6⟩
    have HG6 : Hid (LgG w6 base base g gs wv4 (tripD S.D 0) gl gc 1 3 ag (S.V.map (plc 1)) (.slice a4 un c4) sh S.rel [] vc4) := HG5.out.mv hm6 hd6.out
    have HP6 : Hid (Pr11 w6 gp g gl r gy) := hm6.keep HP5.out (blk_ne HP5.out HG5.out.disk.blk (by decide)) (blk_ne HP5.out HG5.out.disk.srow (by decide)) (by decide)
    have HB6 : Hid (Below base w w6) := HB5.out.trans hm6.low
    have d1 : w6.cell? ⟨gp, 1, none⟩ = some (.pointer (some ⟨gl, 0, none⟩)) := Blk.cell HP6.out 1 rfl
    have HAP := app_code HG6.out rfl HOK3.out (by omega) HWT3.out T a1 n1 c1 bs w.heap.size HBL.out (fun _ => .inr fun w' hb => HR1.out.below (by rw [← HBASE.out]; exact HB6.out.trans hb)) HNN.out.1
    rw [show List.map plR ([] : List Rc) = [] from rfl, HQ.out] at HAP
    clear hd6 hm6
    go_wp2_with fail
    refine (evl_High w6 gl g gc 1 3 ag sh S.rel _ vc4 HG6.out.log).mono ?_
    rintro e w0 ⟨rfl, hw0⟩
    subst w0
    go_wp2_with (fail)
    rw [← HT.out]
    clear d1
    refine HAP.mono ?_
    clear HAP
    intro e w7 hc7
    have he7 := hc7.1
    subst he7
    have HP7 : Hid (Pr11 w7 gp g gl r gy) := HG6.out.left hc7.2.2.out HP6.out (by decide) (by decide) (by decide) (by decide) (by decide) (.inl (by decide))
    have HB7 : Hid (Below base w w7) := HB6.out.trans hc7.2.2.out.low
    have HBZ7 : Hid (Below w.heap.size w w7) := by (show Below _ _ _); rw [← HBASE.out]; exact HB7.out
    obtain ⟨wv7, uc7, L7, vc7, hg7, hL7, _, _⟩ := hc7.2.1.out
    have HG7 : Hid (∃ D7 V7 r7, LgG w7 base base g gs wv7 D7 gl gc 1 3 ag V7 uc7 Q.2.hi r7 L7 vc7) := ⟨_, _, _, hg7⟩
    have HL7 : Hid (L7.map plR = Q.2.P) := hL7
    clear hc7 hg7 hL7
    by_cases hbig : 400 < n1
    ·have hq := HRM2.out.1 hbig
     have hbig2 : (400 : Int) < (n1 : Int) := by omega
     obtain ⟨Q1, Q2⟩ := Q
     simp only at hq
     subst hq
     go_wp2_with fail
     refine (law_live11 w7).mono ?_
     rintro e wZ ⟨rfl, hbZ⟩
     have HBZ : Hid (Below w.heap.size w wZ) := (HBZ7.out).trans (hbZ.mono (HBZ7.out).size)
     clear hbZ
     go_wp2
     go_ret
     exact ⟨by simp, HBZ.out⟩
    ·have hbig1 : n1 ≤ 400 := by omega
     have hbig2 : ¬ (400 : Int) < (n1 : Int) := by omega
     by_cases htop : 1099511627776 < T
     ·have hq := HRM2.out.2.1 hbig1 htop
      obtain ⟨Q1, Q2⟩ := Q
      simp only at hq
      subst hq
      go_wp2_with fail
      refine (law_live11 w7).mono ?_
      rintro e wZ ⟨rfl, hbZ⟩
      have HBZ : Hid (Below w.heap.size w wZ) := (HBZ7.out).trans (hbZ.mono (HBZ7.out).size)
      clear hbZ
      go_wp2
      go_ret
      exact ⟨by simp, HBZ.out⟩
     ·have htop1 : T ≤ 1099511627776 := by omega
      have hq := HRM2.out.2.2 hbig1 htop1
      obtain ⟨Q1, Q2⟩ := Q
      simp only at hq HL7 HG7
      obtain ⟨hq1, hq2⟩ := hq
      subst hq1
      go_wp2_with fail
      refine (law_live11 w7).mono ?_
      rintro e w8 ⟨rfl, hb8⟩
      obtain ⟨D7, V7, r7, hg7⟩ := HG7.out
      have HG8 : Hid (LgG w8 base base g gs wv7 D7 gl gc 1 3 ag V7 uc7 Q2.hi r7 L7 vc7) := hg7.below hb8
      have HB8 : Hid (Below w.heap.size w w8) := HBZ7.out.trans (hb8.mono HBZ7.out.size)
      have d8 : w8.cell? ⟨gp, 1, none⟩ = some (.pointer (some ⟨gl, 0, none⟩)) := (Blk.stay HP7.out hb8).cell 1 rfl
      have HL8 : Hid (L7.map plR = [(sh + 1, bs)]) := by (show _ = _); rw [HL7.out, hq2]
      have HLN : Hid (L7.length ≤ 100000) := by (show _ ≤ _); have h1 := congrArg List.length HL8.out; simp at h1; omega
      have HEV := evl_Events w8 base gl g gc 1 3 ag Q2.hi r7 uc7 vc7 L7 T T HG8.out.log HG8.out.recs HLN.out
      rw [HL8.out] at HEV
      clear hb8 hg7 hq2
      go_wp2_with fail
      clear d8
      refine HEV.mono ?_
      clear HEV
      rintro e w9 ⟨ht9, hb9⟩
      obtain ⟨v9, L9, rfl, hL9, hR9⟩ := ht9.out
      have hl9 : L9.length = 1 := by
       have h1 := congrArg List.length hL9
       rw [List.length_map] at h1
       rw [h1, evF, List.filter_cons, if_pos (by have := HT.out; simp; omega)]
       rfl
      obtain ⟨a9, c9, hv9⟩ := hR9.val
      rw [hl9] at hv9
      subst hv9
      have HB9 : Hid (Below w.heap.size w w9) := HB8.out.trans (hb9.mono HB8.out.size)
      clear ht9 hb9 hL9 hR9 hl9
      go_wp2
      go_ret
      exact ⟨by simp, HB9.out⟩ )
set_option maxRecDepth 100000 in
theorem contract (H : Type) (enc : TypeId × Value → H) (W : World) (base : Nat) (args : Array Value) (ds gs : List (DataW H)) (before : List MemPlace)
  (hval : ∀ (j : Nat) t v, Tryz.f6.params[j]? = some t → args[j]? = some v → Value.okWide Tryz.prog W .any base t v)
  (hW : DataW.Whole enc Tryz.prog Tryz.f6.params.toList Rows.evlogRoomSpec.vars false W args.toList ds gs before) (hsz0 : (DataW.weightsEach Tryz.prog (Tryz.f6.params.toList ++ Rows.evlogRoomSpec.plain.varTypes Tryz.prog) (ds ++ gs)).all (· ≤ reachBytes) = true) :
  Calls Tryz.prog 6 args W fun e W' => ∃ v, e = .returned v ∧ Rows.evlogRoomSpec.post enc Tryz.prog Tryz.f6 false true false false W args v W' := by
 have hW' := hW
 obtain ⟨p, q, hA0, hV, rfl, hfz, hnd⟩ := hW
 have hA : DataW.TrodAll enc Tryz.prog W 0 (fun _ => true) true Tryz.f6.params.toList args.toList ds p := hA0
 have hK := hA
 have hsz := hsz0
 rw [Tryz.params6] at hA hval hsz
 obtain ⟨v0, vs0, d0, ds0, p0, q0, hargs, rfl, rfl, h0, r0⟩ := trodAll_cons hA
 obtain ⟨v1, vs1, d1, ds1, p1, q1, rfl, rfl, rfl, h1, r1⟩ := trodAll_cons r0
 obtain ⟨rfl, rfl, rfl⟩ := trodAll_nil r1
 obtain rfl : args = #[v0, v1] := by cases args; simp_all
 obtain ⟨rfl, rfl⟩ := trodVars_none hV
 obtain ⟨a1, len1, cap1, rfl⟩ := okWide_slice Tryz.underlying27 (hval 1 27 v1 rfl rfl)
 obtain ⟨bs1, rd1, lc1, cm1, bk1, nc1, fm1⟩ := rd_of h1
 have sz1 := reach_of hsz (j := 1) fm1 rfl rfl
 have hw0 : ∀ y ∈ DataW.weights Tryz.prog 22 d0, y ≤ reachBytes := fun y hy => by have := List.all_eq_true.1 hsz _ (DataW.weights_mem_each (j := 0) rfl rfl y hy); simpa using this
 obtain ⟨a0, len0, cap0, rfl⟩ := okWide_slice Tryz.underlying22 (hval 0 22 v0 rfl rfl)
 obtain ⟨fu0, hf0⟩ := h0
 obtain ⟨l0, rd0, lc0, cm0⟩ := open_deeds11 hf0 hw0
 refine (walk a0 len0 cap0 l0 W rd0 (by unfold maxLen at cm0; omega) a1 len1 cap1 bs1 rd1 nc1 (by omega)).mono fun e W' ⟨he, bel⟩ => ?_
 subst he
 exact ⟨_, rfl, _, _, _, [], _, [], hW', trodAll_mk1 (shut_bool Tryz.underlying4 _), trodAll_below laidOut bel _ _ _ _ (by kernel_rfl) hK, rfl, bel.frame _, fun h => by cases h⟩
set_option maxRecDepth 100000 in
theorem lifted (os : Os) (started : os.Started) (H : Type) (enc : TypeId × Value → H) :
  ReturnsInHanded {} Tryz.checked os 6 .any (Rows.evlogRoomSpec.pre6 enc Tryz.prog Tryz.f6 Rows.evlogRoomRow.domain false) (Rows.evlogRoomSpec.post enc Tryz.prog Tryz.f6 false true false false) := by
 refine returnsInHanded_of_change_sized (C := Tryz.checked) own started (by kernel_rfl) Tryz.func6
  (ChangeSpec.witness6 (enc := enc) (C := Tryz.checked) false ⟨#[], #[.slice none 0 0, .slice none 0 0], []⟩ 8 (by kernel_rfl) (by kernel_rfl) (by kernel_rfl) (by kernel_rfl)) ?_
 intro W base args ds gs before hval hW _ hsz _
 exact contract H enc W base args ds gs before hval hW hsz
theorem said : Rows.EvlogRoomSaid :=
 OpenClaim.holds_of_wide 6 Tryz.f6 rfl rfl rfl rfl rfl rfl rfl ⟨rfl, rfl, rfl, rfl, rfl⟩ rfl rfl rfl rfl rfl (by kernel_rfl) Tryz.func6 (by kernel_rfl)
  (of_decide_eq_true (by kernel_rfl)) (by unfold Func.isWrapper; first | (rw [if_pos (by decide +kernel)]; kernel_rfl) | (rw [if_neg (by decide +kernel)]; exact ⟨rfl, rfl⟩))
  (fun os started H enc _ => lifted os started H enc)
end evlogRoom
theorem evlogRoom_holds : Rows.EvlogRoomSaid := evlogRoom.said
end Go.Proofs.YtghajmcohdedlaaGreat
