import Derived.Test.YtghajmcohdedlaaGreatEvT2
namespace Go.Proofs.YtghajmcohdedlaaGreat
open Go.RowKit
set_option maxRecDepth 100000
theorem take_ok {p : List Nat} {i : Nat} (h : i + 8 ≤ p.length) : ∃ v : Int, KeyM.take p (i : Int) = (v, i + 8, 0) := by
 unfold KeyM.take
 rw [if_neg (by omega), if_neg (by omega)]
 exact ⟨_, rfl⟩
theorem headP_not {p : List Nat} (h : p.length ≠ 16) : headP p = (0, 0, false) := by
 unfold headP
 refine if_pos ?_
 by_cases h1 : p.length < 8
 ·have e : KeyM.take p 0 = (0, 0, 3) := by unfold KeyM.take; rw [if_neg (by omega), if_pos (by omega)]
  rw [e]
  left
  simp only
  have e2 : KeyM.take p ((0 : Nat) : Int) = (0, 0, 3) := e
  rw [e2]
  simp
 ·obtain ⟨v, e⟩ := take_ok (p := p) (i := 0) (by omega)
  have e' : KeyM.take p 0 = (v, 8, 0) := e
  rw [e']
  simp only
  by_cases h2 : p.length < 16
  ·have e2 : KeyM.take p ((8 : Nat) : Int) = (0, 0, 3) := by unfold KeyM.take; rw [if_neg (by omega), if_pos (by omega)]
   rw [e2]
   left
   simp
  ·obtain ⟨v2, e2⟩ := take_ok (p := p) (i := 8) (by omega)
   rw [e2]
   right
   show 16 ≠ p.length
   omega
theorem headP_16 {p : List Nat} (h : p.length = 16) : ∃ n t : Int, KeyM.take p 0 = (n, 8, 0) ∧ KeyM.take p 8 = (t, 16, 0) ∧ headP p = (if n < 1 ∨ 4611686018427387904 < n ∨ t < 0 ∨ 1099511627776 < t then (0, 0, false) else (n, t, true)) := by
 obtain ⟨n, e1⟩ := take_ok (p := p) (i := 0) (by omega)
 obtain ⟨t, e2⟩ := take_ok (p := p) (i := 8) (by omega)
 have e1' : KeyM.take p 0 = (n, 8, 0) := e1
 refine ⟨n, t, e1', e2, ?_⟩
 unfold headP
 rw [e1']
 simp only
 rw [e2]
 simp only
 rw [if_neg (by rw [h]; simp)]
def HeadTold (e : Ending) (r : Int × Int × Bool) : Prop := ∃ n t : Int, e = .returned (.tuple #[.int .i64 n, .int .i64 t, .bool r.2.2]) ∧ (r.2.2 = true → n = r.1 ∧ t = r.2.1)
set_option maxHeartbeats 8000000 in
theorem ref_header (w : World) (base r q : Nat) (sv wv : Value) (SV WV : List Value) (D : Dk) (gl b m ag : Nat) (hi rel : Int) (uv rv : Value) (pos : Nat) (hd : Rk w base r q sv wv SV WV D) (h : Lr w gl r b m ag hi rel uv rv) (hb : b ≤ 1000) (hp : pos ≤ 1000) (hre : readE D ((b + 2 + 16 * pos + 0 : Nat) : Int) = 0) :
  Calls Tryz.prog 96 #[.pointer (some ⟨gl, 0, none⟩), .int .i64 (pos : Int)] w fun e w' => Hid (HeadTold e (headE (nowB D (b + 2 + 16 * pos + 0)))) ∧ Below w.heap.size w w' := by
 have HS := ref_sector11 w base r q sv wv SV WV D gl b m ag hi rel uv rv pos 0 hd h hb hp (by omega) hre
 obtain ⟨s, HSS⟩ : ∃ s, Hid (nowB D (b + 2 + 16 * pos + 0) = s) := ⟨_, rfl⟩
 rw [HSS.out] at HS ⊢
 have HNO : Hid ((headE s).2.2 = false → HeadTold (.returned (.tuple #[.int .i64 0, .int .i64 0, .bool false])) (headE s)) := fun hh => ⟨0, 0, by rw [hh], fun h2 => by rw [hh] at h2; cases h2⟩
 clear hd h hre
 go_enter Tryz.func96, Tryz.ntmps96
 go_wp2_with fail
 refine HS.mono ?_
 rintro e w1 ⟨ht1, hb1⟩
 obtain ⟨a1, c1, rfl, hr1, hc1⟩ := ht1.out
 have HG := ref_Good w1 a1 64 c1 s hr1 (fun _ => hc1)
 have HB1 : Hid (Below w.heap.size w w1) := hb1
 clear ht1 hr1 hc1 hb1 HS
 go_wp2_with fail
 refine HG.mono ?_
 rintro e w2 ⟨ht2, hb2⟩
 obtain ⟨a2, n2, c2, rfl, hr2, hn2, _, hc2⟩ := ht2.out
 have HB2 : Hid (Below w.heap.size w w2) := HB1.out.trans (hb2.mono HB1.out.size)
 obtain ⟨kd, HKD⟩ : ∃ kd : Nat, Hid ((if goodE s = true then s.getD 1 0 else 0) = kd) := ⟨_, rfl⟩
 obtain ⟨ls, HLS⟩ : ∃ ls, Hid ((goodE s && lastE s) = ls) := ⟨_, rfl⟩
 rw [HKD.out, HLS.out]
 have HR2 : Hid (Rd w2 a2 n2 (if goodE s = true then payE s else []) ∧ n2 ≤ 59 ∧ n2 ≤ c2) := ⟨hr2, hn2, hc2⟩
 clear ht2 hb2 HG hr2 hn2 hc2
 by_cases h1 : kd = 1
 case neg =>
  have k1 : ((kd : Int) != 1) = true := by rw [bne_iff_ne]; omega
  have HX := HNO.out (by
   unfold headE
   rw [if_neg]
   rintro ⟨g1, g2, _⟩
   have h2 := HKD.out
   rw [if_pos g1, g2] at h2
   exact h1 h2.symm)
  go_wp2
  go_returns
  exact ⟨HX, HB2.out⟩
 have HGD : Hid (goodE s = true ∧ s.getD 1 0 = 1) := by
  have h2 := HKD.out
  by_cases hg : goodE s = true
  ·rw [if_pos hg, h1] at h2; exact ⟨hg, h2⟩
  ·rw [if_neg hg, h1] at h2; omega
 subst h1
 cases ls with
 | false =>
  have HX := HNO.out (by
   unfold headE
   rw [if_neg]
   rintro ⟨g1, _, g3⟩
   have h2 := HLS.out
   rw [g1, g3] at h2
   cases h2)
  go_wp2
  go_returns
  exact ⟨HX, HB2.out⟩
 | true =>
  have HLT : Hid (lastE s = true) := by (show _ = _); have h2 := HLS.out; rw [HGD.out.1] at h2; simpa using h2
  have HE : Hid (headE s = headP (payE s)) := by (show _ = _); unfold headE; rw [if_pos ⟨HGD.out.1, HGD.out.2, HLT.out⟩]
  have HRP : Hid (Rd w2 a2 n2 (payE s)) := by have h2 := HR2.out.1; rw [if_pos HGD.out.1] at h2; exact h2
  by_cases h16 : n2 = 16
  case neg =>
   have k1 : ((n2 : Int) != 16) = true := by rw [bne_iff_ne]; omega
   have HX := HNO.out (by rw [HE.out, headP_not (by rw [HRP.out.size]; exact h16)])
   go_wp2
   go_returns
   exact ⟨HX, HB2.out⟩
  subst h16
  obtain ⟨n, t, ht0, ht8, hhp⟩ := headP_16 HRP.out.size
  have HT0 := ref_TakeKey a2 16 c2 (payE s) 0 w2 HRP.out HR2.out.2.2 (by omega) (by omega)
  have HHP : Hid (headE s = (if n < 1 ∨ 4611686018427387904 < n ∨ t < 0 ∨ 1099511627776 < t then (0, 0, false) else (n, t, true))) := by (show _ = _); rw [HE.out, hhp]
  have HT8E : Hid (KeyM.take (payE s) 8 = (t, 16, 0)) := ht8
  rw [ht0] at HT0
  clear ht0 ht8 hhp
  go_wp2_with fail
  refine HT0.mono ?_
  rintro e w3 ⟨rfl, hw3⟩
  subst w3
  have HT8 := ref_TakeKey a2 16 c2 (payE s) 8 w2 HRP.out HR2.out.2.2 (by omega) (by omega)
  rw [HT8E.out] at HT8
  simp only [toldK]
  clear HT0
  go_wp2_with fail
  refine HT8.mono ?_
  rintro e w3 ⟨rfl, hw3⟩
  subst w3
  simp only [toldK]
  clear HT8
  by_cases hbad : n < 1 ∨ 4611686018427387904 < n ∨ t < 0 ∨ 1099511627776 < t
  ·have HX : HeadTold (.returned (.tuple #[.int .i64 n, .int .i64 t, .bool false])) (headE s) := by rw [HHP.out, if_pos hbad]; exact ⟨n, t, rfl, fun h => by cases h⟩
   by_cases g1 : n < 1
   ·have d1 : decide ((1 : Int) ≤ n) = false := decide_eq_false (by omega)
    clear hbad
    go_wp2
    go_returns
    exact ⟨HX, HB2.out⟩
   ·have d1 : decide ((1 : Int) ≤ n) = true := decide_eq_true (by omega)
    by_cases g2 : 4611686018427387904 < n
    ·have d2 : decide (n ≤ (4611686018427387904 : Int)) = false := decide_eq_false (by omega)
     clear hbad
     go_wp2
     go_returns
     exact ⟨HX, HB2.out⟩
    ·have d2 : decide (n ≤ (4611686018427387904 : Int)) = true := decide_eq_true (by omega)
     by_cases g3 : t < 0
     ·have d3 : decide ((0 : Int) ≤ t) = false := decide_eq_false (by omega)
      clear hbad
      go_wp2
      go_returns
      exact ⟨HX, HB2.out⟩
     ·have d3 : decide ((0 : Int) ≤ t) = true := decide_eq_true (by omega)
      have d4 : decide (t ≤ (1099511627776 : Int)) = false := decide_eq_false (by omega)
      clear hbad
      go_wp2
      go_returns
      exact ⟨HX, HB2.out⟩
  ·have HX : HeadTold (.returned (.tuple #[.int .i64 n, .int .i64 t, .bool true])) (headE s) := by rw [HHP.out, if_neg hbad]; exact ⟨n, t, rfl, fun _ => ⟨rfl, rfl⟩⟩
   have d1 : decide ((1 : Int) ≤ n) = true := decide_eq_true (by omega)
   have d2 : decide (n ≤ (4611686018427387904 : Int)) = true := decide_eq_true (by omega)
   have d3 : decide ((0 : Int) ≤ t) = true := decide_eq_true (by omega)
   have d4 : decide (t ≤ (1099511627776 : Int)) = true := decide_eq_true (by omega)
   clear hbad
   go_wp2
   go_returns
   exact ⟨HX, HB2.out⟩
end Go.Proofs.YtghajmcohdedlaaGreat
