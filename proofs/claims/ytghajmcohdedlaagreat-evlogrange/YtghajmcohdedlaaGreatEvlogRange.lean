/- Records of a range are those of all that lie in it, in new memory: every script (of up to 100 deeds), and range. No condition. -/
import Derived.Test.YtghajmcohdedlaaGreatPk48
import Derived.Test.YtghajmcohdedlaaGreatEvRn1
namespace Go.Proofs.YtghajmcohdedlaaGreat
open Go.ChangeShapes Go.WideShapes Go.ChangeAt Go.RowKit
namespace evlogRange
set_option maxRecDepth 100000 in
set_option maxHeartbeats 4000000 in
theorem walk (a : Option Addr) (len cap : Nat) (l : List Dq) (w : World) (hl : DqsRd w a len l) (hlb : len ≤ 9223372036854775807) (x1 x2 : Int) :
  Calls Tryz.prog 7 #[.slice a len cap, .int .i64 x1, .int .i64 x2] w fun e w' => e = .returned (.bool true) ∧ Below w.heap.size w w' := by
 have HL : Hid (DqsRd w a len l) := hl
 obtain ⟨base, hbase⟩ : ∃ base, base = w.heap.size := ⟨_, rfl⟩
 have HBASE : Hid (base = w.heap.size) := hbase
 clear hl hbase
 go_enter Tryz.func7, Tryz.ntmps7
 go_wp2_with fail
 refine (e_start w none 0 0 [] ⟨rfl, .inl rfl, fun _ h => by cases h⟩ (by omega)).mono ?_
 rintro e w2 ⟨ht, hb2⟩
 obtain ⟨gp, g, gs, r, rfl, hf⟩ := ht.out
 rw [← HBASE.out] at hf hb2
 obtain ⟨s0, HS0⟩ : ∃ s0, Hid (s0 = opE (rawD (([] : List Dq).take 200))) := ⟨_, rfl⟩
 rw [← HS0.out] at hf
 have HF2 : Hid (Evs w2 base gp g gs r 60 s0) := hf
 have HB2 : Hid (Below base w w2) := hb2
 have HG2 : Hid (s0.D.waits.length ≤ 300 ∧ s0.D.age ≤ 300) := by
  (show _ ∧ _)
  rw [HS0.out]
  have h1 := rawD_ok (([] : List Dq).take 200)
  have h2 := (op_ok h1.2.1 h1.1).2.2
  have h3 := h1.2.2.1
  have h4 := h1.2.2.2
  simp only [List.take_nil, List.length_nil] at h3
  exact ⟨by show (opD _).waits.length ≤ _; have := h2.wl; simp only [List.take_nil] at this ⊢; omega, by show (opD _).age ≤ _; have := h2.ag; simp only [List.take_nil] at this h4 ⊢; omega⟩
 clear ht hf hb2
 go_wp2
 go_loopw [8, 9] (fun t8 t9 wr => ∃ (i : Nat) (s : Se), i ≤ len ∧ i ≤ 100 ∧ t9 = .int .i64 (i : Int) ∧ t8 = .bool true ∧ Hid (Evs wr base gp g gs r (60 + i) s) ∧ Hid (s.D.waits.length ≤ 300 + 40 * i ∧ s.D.age ≤ 300 + i) ∧ Hid (Below base w wr)) (fun _ t9 _ => len - (intOf t9).toNat)
 case atStart => exact ⟨0, s0, by omega, by omega, rfl, rfl, HF2, HG2, HB2⟩
 case round =>
  obtain ⟨i, s, hi, hi2, rfl, rfl, HF, HG, HB⟩ := hrel
  have HBw : Hid (Below w.heap.size w wr) := by show Below _ _ _; rw [← HBASE.out]; exact HB.out
  by_cases hgo : i < len ∧ i < 100
  ·obtain ⟨hlt, h200⟩ := hgo
   have hlt' : (i : Int) < (len : Int) := by omega
   have h200' : (i : Int) < 100 := by omega
   obtain ⟨gl, o, rfl, _, d, hd, hok, e0, e1, e2, e3⟩ := (HL.out.below HBw.out).spot i hlt
   have HLd : Hid (l[i]? = some d) := hd
   have hi0 : (0 : Int) ≤ (i : Int) := by omega
   have HDQ : Hid (∀ w', Below base wr w' → DqOk w' d) := fun w' hb' => (HL.out.each d (List.mem_of_getElem? HLd.out)).below (by rw [← HBASE.out]; exact HB.out.trans hb')
   clear hd hok
   go_wp2_with fail
   refine (e_do wr base gp g gs r (60 + i) s d HF.out HDQ.out (by have := HG.out.1; omega) (by have := HG.out.2; omega) (by omega) (by omega)).mono ?_
   rintro e w3 ⟨rfl, hf3, hbl3⟩
   have HF3 : Hid (Evs w3 base gp g gs r (60 + (i + 1)) (stepA s d)) := hf3.out
   have HB3 : Hid (Below base w w3) := HB.out.trans hbl3
   have HG3 : Hid ((stepA s d).D.waits.length ≤ 300 + 40 * (i + 1) ∧ (stepA s d).D.age ≤ 300 + (i + 1)) := by
    obtain ⟨g1, g2⟩ := step_gr HF.out.ok d
    obtain ⟨f1, f2⟩ := HG.out
    exact ⟨by omega, by omega⟩
   clear hf3 hbl3 e0 e1 e2 e3
   go_wp2
   go_roundw
   case rel => exact ⟨i + 1, stepA s d, by omega, by omega, by go_num, rfl, HF3, HG3, HB3⟩
   case measure => simp [intOf]; omega
  ·have hcase : (¬ (i : Int) < (len : Int)) ∨ ((i : Int) < (len : Int) ∧ ¬ (i : Int) < 100) := by omega
   obtain ⟨D, V, sh, sr, ag, P⟩ := s
   have hx := HF.out
   obtain ⟨gl, gc, gy, q, wv, sv, rv, SV, WV, uc, ur, L, L2, vc, vr, hx, hP, hO⟩ := hx
   simp only at hx hP hO
   have HE : Hid (Evp wr base gp g gs gl gc r gy q ag wv sv rv SV WV D V uc ur sh sr L L2 vc vr) := hx
   have HLL : Hid (L.length ≤ 100000 ∧ L2.length ≤ 100000) := by (show _ ∧ _); subst hP; have := hx.plen hO; omega
   obtain ⟨b0, HB0⟩ : ∃ b0, Hid (b0 = wr.heap.size) := ⟨_, rfl⟩
   have HBS0 : Hid (base ≤ b0 ∧ w.heap.size ≤ b0) := by (show _ ∧ _); rw [HB0.out]; exact ⟨hx.base, HBw.out.size⟩
   have HEV := evl_EventsO wr base gl g gc 1 3 ag sh sr uc vc L x1 x2 HE.out.lc.log HE.out.lc.recs HLL.out.1
   obtain ⟨PV, HPV⟩ : ∃ PV, Hid (evF x1 x2 (L.map plR) = PV) := ⟨_, rfl⟩
   have HPV2 : Hid (evF x1 x2 (L2.map plR) = PV) := by (show _ = _); rw [← HE.out.same]; exact HPV.out
   rw [HPV.out] at HEV
   have s1 : wr.cell? ⟨gp, 1, none⟩ = some (.pointer (some ⟨gl, 0, none⟩)) := Blk.cell HE.out.pr 1 rfl
   obtain ⟨wA, hwA⟩ : ∃ wA, wA = wr := ⟨_, rfl⟩
   rw [← hwA] at HF HB HBw HE HB0 HEV s1 ⊢
   clear hgo hx hP hO hwA
   rcases hcase with hc | ⟨hc, hc2⟩ <;>
   (go_wp2_with fail
    clear s1
    refine HEV.mono ?_
    rintro e w5 ⟨ht5, hb5⟩
    obtain ⟨ve, Le, rfl, hLe, hRe, hOe⟩ := ht5.out
    obtain ⟨a5, c5, hve⟩ := hRe.val
    subst hve
    rw [← HB0.out] at hRe hOe
    have HR5 : Hid (Rcs w5 b0 (.slice a5 Le.length c5) Le) := hRe
    have HO5 : Hid (BodO w5 b0 Le) := hOe
    have HLe : Hid (Le.map plR = PV) := hLe
    have HB5 : Hid (Below b0 wA w5) := by (show Below _ _ _); rw [HB0.out]; exact hb5
    have HE5 : Hid (Evp w5 base gp g gs gl gc r gy q ag wv sv rv SV WV D V uc ur sh sr L L2 vc vr) := HE.out.stay hb5
    have s3 : w5.cell? ⟨gp, 3, none⟩ = some (.pointer (some ⟨gy, 0, none⟩)) := Blk.cell HE5.out.pr 3 rfl
    clear ht5 hb5 hLe hRe hOe
    have HRE := ref_EventsG w5 base gy r 1 3 ag sh sr ur vr L2 x1 x2 HE5.out.lr.log HE5.out.lr.recs HE5.out.base HLL.out.2
    rw [HPV2.out] at HRE
    go_wp2_with fail
    clear s3
    refine HRE.mono ?_
    clear HRE
    rintro e w6 ⟨ht6, hb6⟩
    obtain ⟨v6, L6, rfl, hL6, hR6, _⟩ := ht6.out
    have HR6 : Hid (Rcs w6 base v6 L6) := hR6
    have HL6 : Hid (Le.map plR = L6.map plR) := by (show _ = _); rw [HLe.out, hL6]
    have HB6 : Hid (Below b0 wA w6) := HB5.out.trans (hb6.mono (by have := HB5.out.size; have := HB0.out; omega))
    have HR6b : Hid (Rcs w6 b0 (.slice a5 Le.length c5) Le) := HR5.out.below hb6
    have HO6 : Hid (BodO w6 b0 Le) := HO5.out.kt (Kt.of_below hb6)
    have HLEN : Hid (Le.length ≤ 100000) := by (show _ ≤ _); have h1 := congrArg List.length HLe.out; have h2 := congrArg List.length HPV.out; have h3 := List.length_filter_le (fun p : Nat × List Nat => decide (x1 ≤ (p.1 : Int)) && decide ((p.1 : Int) ≤ x2)) (L.map plR); rw [List.length_map] at h1 h3; unfold evF at h2; have := HLL.out.1; omega
    have HSM := ref_Same11 w6 b0 base _ v6 Le L6 HR6b.out HR6.out HL6.out HLEN.out
    clear ht6 hL6 hR6 hb6
    go_wp2_with fail
    refine HSM.mono ?_
    clear HSM
    rintro e w7 ⟨rfl, hb7⟩
    have HB7 : Hid (Below b0 wA w7) := HB6.out.trans (hb7.mono (by have := HB6.out.size; have := HB0.out; omega))
    have HK7 : Hid (Pko w7 b0 a5 Le 0) := (Pko.of HR6b.out HO6.out).stay hb7
    have HNX : Hid (∀ x ∈ Le, x.n ≤ 4096) := fun x hx => (HR6b.out.bd x hx).long
    obtain ⟨n5, HN5⟩ : ∃ n, Hid (n = Le.length) := ⟨_, rfl⟩
    have hn5 : n5 ≤ 100000 := by rw [HN5.out]; exact HLEN.out
    rw [← HN5.out]
    clear hb7
    go_wp2
    go_loopw [11] (fun t11 wq => ∃ (j : Nat), j ≤ n5 ∧ t11 = .int .i64 (j : Int) ∧ Hid (Pko wq b0 a5 Le j) ∧ Hid (Below b0 wA wq)) (fun t11 _ => n5 - (intOf t11).toNat)
    case atStart => exact ⟨0, by omega, rfl, HK7, HB7⟩
    case round =>
     obtain ⟨j, hj, rfl, HKj, HBj⟩ := hrel
     by_cases hjn : j < n5
     ·have hjn' : (j : Int) < (n5 : Int) := by omega
      have hj0 : (0 : Int) ≤ (j : Int) := by omega
      have hjL : j < Le.length := by rw [← HN5.out]; exact hjn
      obtain ⟨g5, ha5, hk5⟩ := HKj.out.get hjL
      subst ha5
      obtain ⟨x, HXJ⟩ : ∃ x, Hid (Le[j]? = some x) := ⟨_, List.getElem?_eq_getElem hjL⟩
      have HXN : Hid (x.n ≤ 4096) := HNX.out x (List.mem_of_getElem? HXJ.out)
      have HKK : Hid (Pkd wr b0 g5 Le j) := hk5
      obtain ⟨xt, xa, xn, xc, xb⟩ := x
      simp only at HXN
      have hxn : xn ≤ 4096 := HXN.out
      clear hk5 hjL
      go_wp2
      go_loopw [12] (fun t12 wq => ∃ (k : Nat), k ≤ xn ∧ t12 = .int .i64 (k : Int) ∧ Hid (Pkd wq b0 g5 Le j) ∧ Hid (Below b0 wA wq)) (fun t12 _ => xn - (intOf t12).toNat)
      case atStart => exact ⟨0, by omega, rfl, HKK, HBj⟩
      case round =>
       obtain ⟨k, hk, rfl, HKk, HBk⟩ := hrel
       obtain ⟨q1, q2, bs, ho⟩ := HKk.out.at_ HXJ.out
       simp only at q1 ho
       have HOW : Hid (Own wr b0 xa xn xc bs) := ho
       clear ho
       by_cases hkn : k < xn
       ·have hkn' : (k : Int) < (xn : Int) := by omega
        have hk0 : (0 : Int) ≤ (k : Int) := by omega
        obtain ⟨gb, hgb, _, _⟩ := HOW.out.form (by omega)
        subst hgb
        obtain ⟨c, HC⟩ : ∃ c, Hid (c = bs.getD k 0) := ⟨_, rfl⟩
        have hcx : wr.cell? ⟨gb, k, none⟩ = some (.int .u8 (c : Int)) := by rw [HC.out]; exact HOW.out.cell k hkn
        have hfr : wr.frozen? ⟨gb, k, none⟩ = false := HOW.out.free _
        have hc : c < 256 := by rw [HC.out]; exact getD_lt HOW.out.byte _
        obtain ⟨z, HZ⟩ : ∃ z, Hid (z = c ^^^ 9) := ⟨_, rfl⟩
        have ez : bits BinOp.xor IntKind.u8 (c : Int) 9 = (z : Int) := by rw [HZ.out]; exact u8_xor_nat c 9 hc (by omega)
        have hz8 : z < 256 := by rw [HZ.out]; exact Nat.xor_lt_two_pow (n := 8) hc (by omega)
        have HKz : Hid (Pkd (wr.setCell ⟨gb, k, none⟩ (.int .u8 (z : Int))) b0 g5 Le j) := HKk.out.poke HOW.out hz8
        have HBz : Hid (Below b0 wA (wr.setCell ⟨gb, k, none⟩ (.int .u8 (z : Int)))) := HBk.out.setCell (p := ⟨gb, k, none⟩) ((HOW.out.row.lt gb rfl).1) _
        go_wp2
        go_roundw
        case rel => exact ⟨k + 1, by omega, by go_num, HKz, HBz⟩
        case measure => simp [intOf]; omega
       ·have hkn' : ¬ (k : Int) < (xn : Int) := by omega
        have HO8 : Hid (Own (wr.alloc (.cells #[.int .u8 1] 5)) b0 xa xn xc bs) := HOW.out.below (below_alloc wr _)
        have HBS : Hid (b0 ≤ wr.heap.size) := by (show _ ≤ _); have := HBk.out.size; have := HB0.out; omega
        have HR8 : Hid (Rd (wr.alloc (.cells #[.int .u8 1] 5)) (some ⟨wr.heap.size, 0, none⟩) 1 [1]) := (Own.new wr b0 #[.int .u8 1] [1] (by simp) rfl HBS.out (by decide)).rd
        have HB8 : Hid (Below b0 wA (wr.alloc (.cells #[.int .u8 1] 5))) := HBk.out.trans ((below_alloc wr _).mono HBS.out)
        have HK8 : Hid (Pkd (wr.alloc (.cells #[.int .u8 1] 5)) b0 g5 Le j) := HKk.out.stay (below_alloc wr _)
        have HBS8 : Hid (b0 ≤ (wr.alloc (.cells #[.int .u8 1] 5)).heap.size) := Nat.le_trans HBS.out (below_alloc wr _).size
        clear hk
        go_wp2_with (at_builtin; refine wpList_append_rd rfl (.tmp 87) (.tmp 88) rfl b0 xa xn xc bs rfl HO8.out (some ⟨wr.heap.size, 0, none⟩) 1 1 [1] rfl HR8.out (by simp) (by omega) HBS8.out ?_)
        intro a9 c9 w9 ho9 hg9 hb9
        obtain ⟨hk9, f1, f2⟩ := HK8.out.grown HXJ.out hg9
        have HK9 : Hid (Pkd (w9.setCell ⟨g5, j * 2 + 1, none⟩ (.slice a9 (xn + 1) c9)) b0 g5 Le (j + 1)) := hk9.put _
        have HB9 : Hid (Below b0 wA (w9.setCell ⟨g5, j * 2 + 1, none⟩ (.slice a9 (xn + 1) c9))) := (HB8.out.trans hb9).setCell (p := ⟨g5, j * 2 + 1, none⟩) hk9.bg _
        simp only at f1
        clear ho9 hg9 hb9 hk9 q1 q2 HO8 HR8 HB8 HK8
        go_wp2
        go_roundw
        case rel => exact ⟨j + 1, by omega, by go_num, .inr ⟨g5, rfl, HK9.out⟩, HB9⟩
        case measure => simp [intOf]; omega
     ·have hjn' : ¬ (j : Int) < (n5 : Int) := by omega
      have HBw0 : Hid (Below b0 wA wr) := HBj.out
      have HEr : Hid (Evp wr base gp g gs gl gc r gy q ag wv sv rv SV WV D V uc ur sh sr L L2 vc vr) := HE.out.stay (by rw [← HB0.out]; exact HBj.out)
      obtain ⟨wL, hwL⟩ : ∃ wL, wL = wr := ⟨_, rfl⟩
      rw [← hwL] at HEr HBw0 ⊢
      have HEd : Hid (Evp wL.drew base gp g gs gl gc r gy q ag wv sv rv SV WV D V uc ur sh sr L L2 vc vr) := HEr.out.stay (Below.refl _ _).drew
      have s1 : wL.drew.cell? ⟨gp, 1, none⟩ = some (.pointer (some ⟨gl, 0, none⟩)) ∧ wL.drew.cell? ⟨gp, 3, none⟩ = some (.pointer (some ⟨gy, 0, none⟩)) := ⟨Blk.cell HEd.out.pr 1 rfl, Blk.cell HEd.out.pr 3 rfl⟩
      clear hwL HKj HBj
      go_wp2
      go_region_held3 (fun w' => w'.cell? ⟨gp, 1, none⟩ = some (.pointer (some ⟨gl, 0, none⟩)) ∧ w'.cell? ⟨gp, 3, none⟩ = some (.pointer (some ⟨gy, 0, none⟩))) (first | exact s1 | exact s2 | exact s3 | exact s4 | exact s5 | fail)
       (first
        | (go_at_call 11; refine (law_live11 wL.drew).mono ?_; rintro e wB ⟨rfl, hbB⟩; have heB := HEd.out.stay hbB; have s2 : wB.cell? ⟨gp, 1, none⟩ = some (.pointer (some ⟨gl, 0, none⟩)) ∧ wB.cell? ⟨gp, 3, none⟩ = some (.pointer (some ⟨gy, 0, none⟩)) := ⟨Blk.cell heB.pr 1 rfl, Blk.cell heB.pr 3 rfl⟩)
        | (go_at_call 15; refine (evl_Events wB base gl g gc 1 3 ag sh sr uc vc L x1 x2 heB.lc.log heB.lc.recs HLL.out.1).mono ?_; rintro e wC ⟨htC, hbC⟩; obtain ⟨vC, LC, rfl, hLC, hRC⟩ := htC.out; have heC := heB.stay hbC; have s3 : wC.cell? ⟨gp, 1, none⟩ = some (.pointer (some ⟨gl, 0, none⟩)) ∧ wC.cell? ⟨gp, 3, none⟩ = some (.pointer (some ⟨gy, 0, none⟩)) := ⟨Blk.cell heC.pr 1 rfl, Blk.cell heC.pr 3 rfl⟩)
        | (go_at_call 22; refine (ref_EventsG wC base gy r 1 3 ag sh sr ur vr L2 x1 x2 heC.lr.log heC.lr.recs heC.base HLL.out.2).mono ?_; rintro e wD ⟨htD, hbD⟩; obtain ⟨vD, LD, rfl, hLD, hRD, _⟩ := htD.out; have heD := heC.stay hbD; have s4 : wD.cell? ⟨gp, 1, none⟩ = some (.pointer (some ⟨gl, 0, none⟩)) ∧ wD.cell? ⟨gp, 3, none⟩ = some (.pointer (some ⟨gy, 0, none⟩)) := ⟨Blk.cell heD.pr 1 rfl, Blk.cell heD.pr 3 rfl⟩)
        | (go_at_call 21; refine (ref_Same11 wD _ _ vC vD LC LD (hRC.below hbD) hRD (by rw [hLC, hLD, HPV.out, HPV2.out]) (by have h1 := congrArg List.length hLC; rw [HPV.out] at h1; have h2 := congrArg List.length HLe.out; rw [List.length_map] at h1 h2; have := HLEN.out; omega)).mono ?_; rintro e wE ⟨rfl, hbE⟩; have heE := heD.stay hbE; have s5 : wE.cell? ⟨gp, 1, none⟩ = some (.pointer (some ⟨gl, 0, none⟩)) ∧ wE.cell? ⟨gp, 3, none⟩ = some (.pointer (some ⟨gy, 0, none⟩)) := ⟨Blk.cell heE.pr 1 rfl, Blk.cell heE.pr 3 rfl⟩))
      have HBE : Hid (Below w.heap.size w wE) := by
       (show Below _ _ _)
       have b1 : Below w.heap.size w wL.drew := (HBw.out.trans (HBw0.out.mono HBS0.out.2)).drew
       have b2 := b1.trans (hbB.mono b1.size)
       have b3 := b2.trans (hbC.mono b2.size)
       have b4 := b3.trans (hbD.mono b3.size)
       exact b4.trans (hbE.mono b4.size)
      clear s1 s2 s3 s4 s5 heB heC heD heE hbB hbC hbD hbE htC htD hLC hRC hLD hRD
      go_wp2
      go_ret
      exact ⟨by simp, HBE.out⟩ )
set_option maxRecDepth 100000 in
theorem contract (H : Type) (enc : TypeId × Value → H) (W : World) (base : Nat) (args : Array Value) (ds gs : List (DataW H)) (before : List MemPlace)
  (hval : ∀ (j : Nat) t v, Tryz.f7.params[j]? = some t → args[j]? = some v → Value.okWide Tryz.prog W .any base t v)
  (hW : DataW.Whole enc Tryz.prog Tryz.f7.params.toList Rows.evlogRangeSpec.vars false W args.toList ds gs before) (hsz0 : (DataW.weightsEach Tryz.prog (Tryz.f7.params.toList ++ Rows.evlogRangeSpec.plain.varTypes Tryz.prog) (ds ++ gs)).all (· ≤ reachBytes) = true) :
  Calls Tryz.prog 7 args W fun e W' => ∃ v, e = .returned v ∧ Rows.evlogRangeSpec.post enc Tryz.prog Tryz.f7 false true false false W args v W' := by
 have hW' := hW
 obtain ⟨p, q, hA0, hV, rfl, hfz, hnd⟩ := hW
 have hA : DataW.TrodAll enc Tryz.prog W 0 (fun _ => true) true Tryz.f7.params.toList args.toList ds p := hA0
 have hK := hA
 have hsz := hsz0
 rw [Tryz.params7] at hA hval hsz
 obtain ⟨v0, vs0, d0, ds0, p0, q0, hargs, rfl, rfl, h0, r0⟩ := trodAll_cons hA
 obtain ⟨v1, vs1, d1, ds1, p1, q1, rfl, rfl, rfl, h1, r1⟩ := trodAll_cons r0
 obtain ⟨v2, vs2, d2, ds2, p2, q2, rfl, rfl, rfl, h2, r2⟩ := trodAll_cons r1
 obtain ⟨rfl, rfl, rfl⟩ := trodAll_nil r2
 obtain rfl : args = #[v0, v1, v2] := by cases args; simp_all
 obtain ⟨rfl, rfl⟩ := trodVars_none hV
 obtain ⟨x1, rfl, rfl, rfl, w1⟩ := open_int Tryz.underlying3 (hval 1 3 v1 rfl rfl) h1
 have b1 : (-9223372036854775808 : Int) ≤ x1 ∧ x1 ≤ 9223372036854775807 := by simpa [Lit.wf, IntKind.min, IntKind.max, IntKind.signed, IntKind.bits] using w1
 obtain ⟨x2, rfl, rfl, rfl, w2⟩ := open_int Tryz.underlying3 (hval 2 3 v2 rfl rfl) h2
 have b2 : (-9223372036854775808 : Int) ≤ x2 ∧ x2 ≤ 9223372036854775807 := by simpa [Lit.wf, IntKind.min, IntKind.max, IntKind.signed, IntKind.bits] using w2
 have hw0 : ∀ y ∈ DataW.weights Tryz.prog 22 d0, y ≤ reachBytes := fun y hy => by have := List.all_eq_true.1 hsz _ (DataW.weights_mem_each (j := 0) rfl rfl y hy); simpa using this
 obtain ⟨a0, len0, cap0, rfl⟩ := okWide_slice Tryz.underlying22 (hval 0 22 v0 rfl rfl)
 obtain ⟨fu0, hf0⟩ := h0
 obtain ⟨l0, rd0, lc0, cm0⟩ := open_deeds11 hf0 hw0
 refine (walk a0 len0 cap0 l0 W rd0 (by unfold maxLen at cm0; omega) x1 x2).mono fun e W' ⟨he, bel⟩ => ?_
 subst he
 exact ⟨_, rfl, _, _, _, [], _, [], hW', trodAll_mk1 (shut_bool Tryz.underlying4 _), trodAll_below laidOut bel _ _ _ _ (by kernel_rfl) hK, rfl, bel.frame _, fun h => by cases h⟩
set_option maxRecDepth 100000 in
theorem lifted (os : Os) (started : os.Started) (H : Type) (enc : TypeId × Value → H) :
  ReturnsInHanded {} Tryz.checked os 7 .any (Rows.evlogRangeSpec.pre6 enc Tryz.prog Tryz.f7 Rows.evlogRangeRow.domain false) (Rows.evlogRangeSpec.post enc Tryz.prog Tryz.f7 false true false false) := by
 refine returnsInHanded_of_change_sized (C := Tryz.checked) own started (by kernel_rfl) Tryz.func7
  (ChangeSpec.witness6 (enc := enc) (C := Tryz.checked) false ⟨#[], #[.slice none 0 0, .int .i64 0, .int .i64 0], []⟩ 8 (by kernel_rfl) (by kernel_rfl) (by kernel_rfl) (by kernel_rfl)) ?_
 intro W base args ds gs before hval hW _ hsz _
 exact contract H enc W base args ds gs before hval hW hsz
theorem said : Rows.EvlogRangeSaid :=
 OpenClaim.holds_of_wide 7 Tryz.f7 rfl rfl rfl rfl rfl rfl rfl ⟨rfl, rfl, rfl, rfl, rfl⟩ rfl rfl rfl rfl rfl (by kernel_rfl) Tryz.func7 (by kernel_rfl)
  (of_decide_eq_true (by kernel_rfl)) (by unfold Func.isWrapper; first | (rw [if_pos (by decide +kernel)]; kernel_rfl) | (rw [if_neg (by decide +kernel)]; exact ⟨rfl, rfl⟩))
  (fun os started H enc _ => lifted os started H enc)
end evlogRange
theorem evlogRange_holds : Rows.EvlogRangeSaid := evlogRange.said
end Go.Proofs.YtghajmcohdedlaaGreat
