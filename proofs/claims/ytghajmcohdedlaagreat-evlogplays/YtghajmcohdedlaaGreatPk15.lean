import Derived.Test.YtghajmcohdedlaaGreatPk14
namespace Go.Proofs.YtghajmcohdedlaaGreat
open Go.RowKit
def TidyOk (D : Dk) (U : List Sg) : Prop := U = [] ∨ ∃ s, U = [s] ∧ s.at_ ≤ 50000 ∧ s.en ≤ 16 ∧ wipeL D (16 - s.en) (s.at_ + s.en) false = (D, false, 0)
theorem evl_tidy (w : World) (base g gs : Nat) (wv : Value) (D : Dk) (gl gc b m ag : Nat) (U : List Sg) (uv : Value) (hi rel : Nat) (L : List Rc) (rv : Value) (h : Lg w base g gs wv D gl gc b m ag U uv hi rel L rv) (hw : D.waits.length ≤ 900000000) (ht : TidyOk D U) :
  Calls Tryz.prog 75 #[.pointer (some ⟨gl, 0, none⟩)] w fun e w' => e = .returned (.int .i64 0) ∧ Hid (∃ wv' uv', Lg w' base g gs wv' D gl gc b m ag U uv' hi rel L rv) ∧ Below base w w' := by
 rcases ht with rfl | ⟨s, rfl, h1, h2, h3⟩
 ·refine (evl_tidy0 w base g gs wv D gl gc b m ag uv hi rel L rv h).mono ?_
  rintro e w' ⟨rfl, rfl⟩
  exact ⟨rfl, ⟨wv, uv, h⟩, Below.refl _ _⟩
 ·exact evl_tidy1 w base g gs wv D gl gc b m ag s uv hi rel L rv h h1 h2 hw h3
set_option maxRecDepth 100000 in
set_option maxHeartbeats 8000000 in
theorem evl_Open (w : World) (base g gs : Nat) (wv : Value) (D : Dk) (b m r : Nat) (h : Disk w base g gs wv D) (hdn : D.down = false) (hm2 : 2 ≤ m) (hm : m ≤ 16) (hb : b + 2 + m * 16 ≤ D.sure.length) (hw : D.waits.length ≤ 900000000) (hr : (getB D b 1 0).1 = (r : Int)) (hone : (headsF D b m).length ≤ 1) (ht : ∀ p ∈ (readAllF D (headsF D b m) 0 []).2.2, r < p.1) (htd : TidyOk D (readAllF D (headsF D b m) 0 []).1) :
  Calls Tryz.prog 37 #[.pointer (some ⟨g, 0, none⟩), .int .i64 (b : Int), .int .i64 (m : Int)] w fun e w' => Hid (∃ gl gc wv' uv' rv' L', e = .returned (.tuple #[.pointer (some ⟨gl, 0, none⟩), .int .i64 0]) ∧ w.heap.size ≤ gl ∧ L'.map plR = (readAllF D (headsF D b m) 0 []).2.2 ∧ Lg w' base g gs wv' D gl gc b m D.age (readAllF D (headsF D b m) 0 []).1 uv' (max (readAllF D (headsF D b m) 0 []).2.1 r) r L' rv') ∧ Below base w w' := by
 have HD : Hid (Disk w base g gs wv D) := h
 have hsz := h.sz
 have HBS : Hid (base ≤ w.heap.size) := Nat.le_trans h.bg (Nat.le_of_lt h.blk.lt)
 obtain ⟨⟨RU, RH, RA⟩, HR⟩ : ∃ R, Hid (R = readAllF D (headsF D b m) 0 []) := ⟨_, rfl⟩
 rw [← HR.out] at ht htd ⊢
 simp only at ht htd ⊢
 have HDW : Hid (Calls Tryz.prog 16 #[.pointer (some ⟨g, 0, none⟩)] w fun e w' => e = .returned (.bool false) ∧ w' = w) := by
  have := disk_Down w base g gs wv D h
  rw [hdn] at this
  exact this
 obtain ⟨n, hn⟩ : ∃ n, n = D.sure.length := ⟨_, rfl⟩
 have HSI : Hid (Calls Tryz.prog 71 #[.pointer (some ⟨g, 0, none⟩)] w fun e w' => e = .returned (.int .i64 (n : Int)) ∧ w' = w) := by
  have := disk_Size w base g gs wv D h
  rw [← hn] at this
  exact this
 rw [← hn] at hb hsz
 obtain ⟨P, hP⟩ : ∃ P, P = n - 2 := ⟨_, rfl⟩
 obtain ⟨Q, hQ⟩ : ∃ Q, Q = m * 16 := ⟨_, rfl⟩
 obtain ⟨R, hR⟩ : ∃ R, R = P - Q := ⟨_, rfl⟩
 have a1 : ¬ (m : Int) < 2 := by omega
 have a2 : ¬ (16 : Int) < (m : Int) := by omega
 have a3 : ¬ (b : Int) < 0 := by omega
 have q1 : (n : Int) - 2 = (P : Int) := by omega
 have q2 : IntKind.i64.wrap (P : Int) = (P : Int) := by rw [IntKind.wrap_i64]; omega
 have q3 : (m : Int) * 16 = (Q : Int) := by omega
 have q4 : IntKind.i64.wrap (Q : Int) = (Q : Int) := by rw [IntKind.wrap_i64]; omega
 have q5 : (P : Int) - (Q : Int) = (R : Int) := by omega
 have q6 : IntKind.i64.wrap (R : Int) = (R : Int) := by rw [IntKind.wrap_i64]; omega
 have a4 : ¬ (R : Int) < (b : Int) := by omega
 have HMO := mark_Open w base g gs wv D (b : Int) 1 h
 have HN : Hid (n = D.sure.length ∧ b + 2 + m * 16 ≤ n) := ⟨hn, hb⟩
 clear h hdn hn hP hQ hR hb hsz
 go_enter Tryz.func37, Tryz.ntmps37
 go_upto_region 7 with (first
  | (go_at_call 16; refine HDW.out.mono ?_; rintro e w2 ⟨rfl, hw2⟩; rw [hw2]; clear hw2 w2)
  | (go_at_call 71; refine HSI.out.mono ?_; rintro e w2 ⟨rfl, hw2⟩; rw [hw2]; clear hw2 w2))
 clear a1 a2 a3 a4 q1 q2 q3 q4 q5 q6 HDW HSI
 go_wp2_with fail
 refine HMO.mono ?_
 rintro e w1 ⟨ht1, hb1⟩
 rcases ht1.out with ⟨hno, _⟩ | ⟨_, rfl, hc1⟩
 ·exact absurd (show mayC D.sure.length (b : Int) 1 from ⟨by omega, by omega, by have := HN.out; omega⟩) hno
 ·rw [Int.toNat_natCast] at hc1
  have HC1 : Hid (Cs w1 w.heap.size g b 1) := hc1
  have HD1 : Hid (Disk w1 base g gs wv D) := HD.out.stay hb1
  have HB1 : Hid (Below base w w1) := hb1.mono HBS.out
  have HSZ : Hid (w.heap.size ≤ w1.heap.size) := hb1.size
  have HAG := disk_Age w1 base g gs wv D HD1.out
  obtain ⟨W2, HW2⟩ : ∃ W2, Hid (W2 = w1.alloc (.cells #[.pointer (some ⟨g, 0, none⟩), .pointer (some ⟨w.heap.size, 0, none⟩), .int .i64 (b : Int), .int .i64 (m : Int), .int .i64 (D.age : Int), .slice none 0 0, .int .i64 0, .int .i64 0, .slice none 0 0] 74)) := ⟨_, rfl⟩
  have HBW : Hid (Below w1.heap.size w1 W2) := by (show Below _ _ _); rw [HW2.out]; exact below_alloc _ _
  have HG2 : Hid (Lg W2 base g gs wv D w1.heap.size w.heap.size b m D.age [] (.slice none 0 0) 0 0 [] (.slice none 0 0)) := by
   (show Lg _ _ _ _ _ _ _ _ _ _ _ _ _ _ _ _ _)
   refine ⟨HD1.out.stay HBW.out, ?_, HC1.out.stay HBW.out, Sgs.nil _ _, ⟨World.ownsRow_nil _ _ _ _, fun r hr => by cases hr⟩, Nat.le_trans HBS.out HSZ.out⟩
   rw [HW2.out]
   exact Blk.new _ _ _
  have HB2 : Hid (Below base w W2) := HB1.out.trans (HBW.out.mono (Nat.le_trans HBS.out HSZ.out))
  have HRD := evl_read W2 base g gs wv D w1.heap.size w.heap.size b m D.age [] (.slice none 0 0) 0 0 (.slice none 0 0) r HG2.out (by have := HN.out; have := HD.out.sz; omega) (by omega) (by omega) hr hone (by rw [← HR.out]; exact ht)
  rw [← HR.out] at HRD
  simp only at HRD
  clear HMO ht1 hb1 hc1 ht
  go_upto_region 11 with (go_at_call 73; refine HAG.mono ?_; rintro e w2 ⟨rfl, hw2⟩; rw [hw2]; clear hw2 w2)
  rw [← HW2.out]
  clear HAG
  go_wp2_with fail
  refine HRD.mono ?_
  rintro e w3 ⟨rfl, hh3, hk3, hb3⟩
  obtain ⟨uv3, rv3, L3, he3, hg3⟩ := hh3.out
  have HE3 : Hid (L3.map plR = RA) := he3
  have HB3 : Hid (Below base w w3) := HB2.out.trans hb3
  have HTD := evl_tidy w3 base g gs wv D w1.heap.size w.heap.size b m D.age RU uv3 (max RH r) r L3 rv3 hg3 hw htd
  clear hh3 hk3 hb3 he3 hg3 HRD
  go_wp2_with fail
  refine HTD.mono ?_
  rintro e w4 ⟨rfl, hh4, hb4⟩
  obtain ⟨wv4, uv4, hg4⟩ := hh4.out
  have HG4 : Hid (Lg w4 base g gs wv4 D w1.heap.size w.heap.size b m D.age RU uv4 (max RH r) r L3 rv3) := hg4
  have HB4 : Hid (Below base w w4) := HB3.out.trans hb4
  clear hh4 hg4 hb4 HTD
  go_wp2
  go_returns
  exact ⟨⟨w1.heap.size, w.heap.size, wv4, uv4, rv3, L3, rfl, HSZ.out, HE3.out, HG4.out⟩, HB4.out⟩
end Go.Proofs.YtghajmcohdedlaaGreat

namespace Go.Proofs.YtghajmcohdedlaaGreat
open Go.RowKit
theorem results_headE {w : World} {tmps : Array Value} {g : Nat} {cs : List Value} (h2 : tmps[4]?.getD undef = .pointer (some ⟨g, 0, none⟩)) (k : Blk w g cs.toArray 92) (hl : cs.length = 3) : (results Tryz.f95 tmps).run Tryz.prog w = .ok (.agg cs.toArray) w := by
 have hr := run_loadVar_mid (P := Tryz.prog) w g 0 92 cs _ (k.range 0 cs (fun j v hj => by simpa using hj)) Tryz.underlying92 rfl (by rw [hl]; exact infoPart)
 simp [results, Tryz.results95, h2, hr, asAddr]
set_option maxRecDepth 100000 in
set_option maxHeartbeats 4000000 in
theorem evl_head (w : World) (num tick : Int) (hn : (-9223372036854775808 : Int) ≤ num ∧ num ≤ 9223372036854775807) (ht : (-9223372036854775808 : Int) ≤ tick ∧ tick ≤ 9223372036854775807) :
  Calls Tryz.prog 95 #[.int .i64 num, .int .i64 tick] w fun e w' => Hid (∃ a c, e = .returned (.agg #[.int .u8 1, .bool true, .slice a 16 c]) ∧ Own w' w.heap.size a 16 c (KeyM.key (KeyM.up num) ++ KeyM.key (KeyM.up tick))) ∧ Below w.heap.size w w' := by
 obtain ⟨W1, HW1⟩ : ∃ W1, Hid (W1 = w.alloc (.cells #[.int .u8 0, .bool false, .slice none 0 0] 92)) := ⟨_, rfl⟩
 have HB1 : Hid (Below w.heap.size w W1) := by (show Below _ _ _); rw [HW1.out]; exact below_alloc _ _
 have HK1 : Hid (Blk W1 w.heap.size #[.int .u8 0, .bool false, .slice none 0 0] 92) := by (show Blk _ _ _ _); rw [HW1.out]; exact Blk.new _ _ _
 have HSZ : Hid (w.heap.size + 1 ≤ W1.heap.size) := HK1.out.lt
 go_enter Tryz.func95, Tryz.ntmps95
 go_upto_region 1 with fail
 rw [← HW1.out]
 go_wp2_with fail
 refine (octet_Key num hn W1).mono ?_
 rintro e w2 ⟨a2, rfl, ho2, hb2⟩
 have HO2 : Hid (Own w2 W1.heap.size (some a2) 8 8 (KeyM.key (KeyM.up num))) := ho2
 have HB2 : Hid (Below W1.heap.size W1 w2) := hb2
 clear ho2 hb2
 go_wp2_with fail
 refine (octet_Key tick ht w2).mono ?_
 rintro e w3 ⟨a3, rfl, ho3, hb3⟩
 have HO3 : Hid (Own w3 W1.heap.size (some a2) 8 8 (KeyM.key (KeyM.up num))) := HO2.out.below hb3
 have HB3 : Hid (Below W1.heap.size W1 w3) := HB2.out.trans (hb3.mono HB2.out.size)
 have HR3 : Hid (Rd w3 (some a3) 8 (KeyM.key (KeyM.up tick))) := ho3.rd
 clear ho3 hb3
 go_wp2_with (guard_target =~ wpList _ _ _ (Oper.mk (some 9) _ _ _ _ _ :: _) _ _; refine wpList_append_rd rfl (.tmp 6) (.tmp 8) rfl W1.heap.size (some a2) 8 8 _ rfl HO3.out (some a3) 8 8 _ rfl HR3.out (fun h => by cases h) (by omega) HB3.out.size ?_)
 intro a5 c5 w5 ho5 hg5 hb5
 have HO5 : Hid (Own w5 W1.heap.size a5 (8 + 8) c5 (KeyM.key (KeyM.up num) ++ KeyM.key (KeyM.up tick))) := ho5
 have HB5 : Hid (Below W1.heap.size W1 w5) := HB3.out.trans hb5
 have HK5 : Hid (Blk w5 w.heap.size #[.int .u8 0, .bool false, .slice none 0 0] 92) := HK1.out.below HB5.out (by have := HSZ.out; omega)
 have HBF : Hid (Below w.heap.size w w5) := HB1.out.trans (HB5.out.mono HB1.out.size)
 have k0 : w5.cell? ⟨w.heap.size, 0, none⟩ = some (.int .u8 0) := HK5.out.cell 0 rfl
 have k1 : w5.cell? ⟨w.heap.size, 1, none⟩ = some (.bool false) := HK5.out.cell 1 rfl
 have k2 : w5.cell? ⟨w.heap.size, 2, none⟩ = some (.slice none 0 0) := HK5.out.cell 2 rfl
 have f0 := HK5.out.free 0
 have f1 := HK5.out.free 1
 have f2 := HK5.out.free 2
 clear ho5 hg5 hb5
 go_wp2
 refine bodyPost_ret (results_headE (cs := [.int .u8 1, .bool true, .slice a5 16 c5]) (by rfl) (((HK5.out.set 0 _).set 1 _).set 2 _) rfl) rfl ?_
 have hne : ∀ k, (Value.slice a5 (8 + 8) c5).ownBlock = some k → w.heap.size ≠ k := fun k hk => by have := (HO5.out.row.lt k hk).1; have := HSZ.out; omega
 refine ⟨⟨a5, c5, rfl, ?_⟩, ((HBF.out.setCell (Nat.le_refl _) _).setCell (Nat.le_refl _) _).setCell (Nat.le_refl _) _⟩
 have hn5 : some w.heap.size ≠ (Value.slice a5 (8 + 8) c5).ownBlock := fun e => hne _ e.symm rfl
 exact (⟨row_set (row_set (row_set HO5.out.row hn5) hn5) hn5, HO5.out.byte⟩ : Own _ W1.heap.size a5 (8 + 8) c5 _).lower (by have := HSZ.out; omega)
theorem sg_index0 (w : World) (a : Option Addr) (c : Nat) (cv : Value) : Calls Tryz.prog 119 #[.slice a 0 c, cv] w fun e w' => e = .returned (.int .i64 (-1)) ∧ w' = w := by
 go_enter Tryz.func119, Tryz.ntmps119
 go_wp2_with fail
 refine wp_loop_rounds 1 ?_
 rw [rounds_succ]
 go_wp2
 go_returns
 exact ⟨rfl, rfl⟩
theorem sg_contains0 (w : World) (a : Option Addr) (c : Nat) (cv : Value) : Calls Tryz.prog 109 #[.slice a 0 c, cv] w fun e w' => e = .returned (.bool false) ∧ w' = w := by
 have hi := sg_index0 w a c cv
 go_enter Tryz.func109, Tryz.ntmps109
 go_wp2_with fail
 refine hi.mono ?_
 rintro e w' ⟨rfl, rfl⟩
 clear hi
 go_wp2
 go_returns
 exact ⟨rfl, rfl⟩
set_option maxRecDepth 100000 in
set_option maxHeartbeats 4000000 in
theorem evl_unused0 (w : World) (gl g gc b m ag hi rel : Nat) (au : Option Addr) (cu : Nat) (rv : Value) (h : Lc w gl g gc b m ag (.slice au 0 cu) hi rel rv) (hb : b ≤ 1000) (hm1 : 1 ≤ m) :
  Calls Tryz.prog 94 #[.pointer (some ⟨gl, 0, none⟩)] w fun e w' => e = .returned (.tuple #[.int .i64 ((b + 2 : Nat) : Int), .bool true]) ∧ Below w.heap.size w w' := by
 have HL : Hid (Lc w gl g gc b m ag (.slice au 0 cu) hi rel rv) := h
 have c3 : w.cell? ⟨gl, 3, none⟩ = some (.int .i64 (m : Int)) := Blk.cell h 3 rfl
 have hm' : (0 : Int) < (m : Int) := by omega
 obtain ⟨P, hP⟩ : ∃ P, P = b + 2 := ⟨_, rfl⟩
 rw [← hP]
 have HPL := evl_place w gl g gc b m ag hi rel (.slice au 0 cu) rv 0 h hb (by omega)
 rw [show b + 2 + 0 * 16 = P from by omega] at HPL
 obtain ⟨W1, HW1⟩ : ∃ W1, Hid (W1 = w.alloc (.cells #[.int .i64 (P : Int)] 3)) := ⟨_, rfl⟩
 have HB1 : Hid (Below w.heap.size w W1) := by (show Below _ _ _); rw [HW1.out]; exact below_alloc _ _
 have HK1 : Hid (Blk W1 w.heap.size #[.int .i64 (P : Int)] 3) := by (show Blk _ _ _ _); rw [HW1.out]; exact Blk.new _ _ _
 have c5 : W1.cell? ⟨gl, 5, none⟩ = some (.slice au 0 cu) := Blk.cell (h.stay HB1.out) 5 rfl
 have k0 : W1.cell? ⟨w.heap.size, 0, none⟩ = some (.int .i64 (P : Int)) := HK1.out.cell 0 rfl
 clear h hP
 go_enter Tryz.func94, Tryz.ntmps94
 go_wp2_with fail
 refine wp_loop_rounds 1 ?_
 rw [rounds_succ]
 go_wp2_with fail
 refine HPL.mono ?_
 rintro e w2 ⟨rfl, hw2⟩
 rw [hw2]
 clear hw2 w2
 go_upto_region 5 with fail
 rw [← HW1.out]
 go_wp2_with fail
 refine (sg_contains0 W1 au cu _).mono ?_
 rintro e w2 ⟨rfl, hw2⟩
 rw [hw2]
 clear hw2 w2
 go_wp2
 go_returns
 exact ⟨rfl, HB1.out⟩
end Go.Proofs.YtghajmcohdedlaaGreat

namespace Go.Proofs.YtghajmcohdedlaaGreat
open Go.RowKit
theorem evl_High (w : World) (gl g gc b m ag hi rel : Nat) (uv rv : Value) (h : Lc w gl g gc b m ag uv hi rel rv) : Calls Tryz.prog 13 #[.pointer (some ⟨gl, 0, none⟩)] w fun e w' => e = .returned (.int .i64 (hi : Int)) ∧ w' = w := by
 have c6 : w.cell? ⟨gl, 6, none⟩ = some (.int .i64 (hi : Int)) := Blk.cell h 6 rfl
 clear h
 go_enter Tryz.func13, Tryz.ntmps13
 go_wp2
 go_returns
 exact ⟨rfl, rfl⟩
theorem evl_Rel (w : World) (gl g gc b m ag hi rel : Nat) (uv rv : Value) (h : Lc w gl g gc b m ag uv hi rel rv) : Calls Tryz.prog 14 #[.pointer (some ⟨gl, 0, none⟩)] w fun e w' => e = .returned (.int .i64 (rel : Int)) ∧ w' = w := by
 have c7 : w.cell? ⟨gl, 7, none⟩ = some (.int .i64 (rel : Int)) := Blk.cell h 7 rfl
 clear h
 go_enter Tryz.func14, Tryz.ntmps14
 go_wp2
 go_returns
 exact ⟨rfl, rfl⟩
end Go.Proofs.YtghajmcohdedlaaGreat

namespace Go.Proofs.YtghajmcohdedlaaGreat
open Go.RowKit
set_option maxRecDepth 100000 in
set_option maxHeartbeats 4000000 in
theorem evl_Sync (w : World) (base g gs : Nat) (wv : Value) (D : Dk) (gl gc b m : Nat) (U : List Sg) (uv : Value) (hi rel : Nat) (L : List Rc) (rv : Value) (h : Lg w base g gs wv D gl gc b m D.age U uv hi rel L rv) :
  Calls Tryz.prog 30 #[.pointer (some ⟨gl, 0, none⟩)] w fun e w' => e = .returned (.int .i64 (syncE D)) ∧ Hid (∃ wv', Lg w' base g gs wv' (syncD D) gl gc b m D.age U uv hi rel L rv) ∧ Below base w w' := by
 have HG : Hid (Lg w base g gs wv D gl gc b m D.age U uv hi rel L rv) := h
 have HST := evl_stale w base g gs wv D gl gc b m D.age hi rel uv rv h.disk h.log
 rw [show staleE D D.age = 0 from if_pos rfl] at HST
 obtain ⟨R, HR⟩ : ∃ R, Hid (R = syncE D) := ⟨_, rfl⟩
 rw [← HR.out]
 clear h
 go_enter Tryz.func30, Tryz.ntmps30
 go_wp2_with fail
 refine HST.mono ?_
 rintro e w1 ⟨rfl, n, hw1⟩
 have hb1 : Below w.heap.size w w1 := by rw [hw1]; exact below_drewN (Below.refl _ _) _
 clear hw1
 have HG1 : Hid (Lg w1 base g gs wv D gl gc b m D.age U uv hi rel L rv) := HG.out.below hb1
 have HB1 : Hid (Below base w w1) := hb1.mono HG.out.sz
 have c0 : w1.cell? ⟨gl, 0, none⟩ = some (.pointer (some ⟨g, 0, none⟩)) := Blk.cell HG1.out.log 0 rfl
 clear hb1 HST
 go_wp2_with fail
 refine (disk_Sync w1 base g gs wv D HG1.out.disk).mono ?_
 rw [← HR.out]
 rintro e w2 ⟨rfl, hd2, hm2⟩
 obtain ⟨wv2, hd2⟩ := hd2.out
 have HG2 : Hid (Lg w2 base g gs wv2 (syncD D) gl gc b m D.age U uv hi rel L rv) := HG1.out.mv hm2 hd2
 have HB2 : Hid (Below base w w2) := HB1.out.trans hm2.low
 clear hd2 hm2
 go_wp2
 go_returns
 exact ⟨rfl, ⟨wv2, HG2.out⟩, HB2.out⟩
theorem step_append_sg {w : World} {ops : Array Oper} {o : Oper} {act : Act} {K : Act → World → Prop} {Q : Exit → Act → World → Prop} {E : Prop} (hgd : o.guard = none) (s x : Operand)
  (ho : o.op = .call { callee := .builtin .append, args := #[s, x], argTypes := #[72, 72] })
  (base : Nat) (v : Value) (L : List Sg) (hs : act.eval s = v) (hown : Sgs w base v L) (k c : Nat) (p : Sg) (hx : act.eval x = .slice (some ⟨k, 0, none⟩) 1 c)
  (hb : Blk w k (sgc p).toArray 88) (hl : L.length ≤ 1000000) (hbase : base ≤ w.heap.size)
  (h : ∀ v' w', Sgs w' base v' (L ++ [p]) → w.grownBy w' v.ownBlock → Below base w w' → K (act.put o.dst v') w') : if Region.wanted o (yielded ops act.tmps) = true then Oper.wp Tryz.prog o act w K Q else E := by
 rw [if_pos (by simp [Region.wanted, hgd])]
 obtain ⟨i0, hi, hz0, hz1, hz2⟩ := info_parts infoSg
 refine wp_append_own w s x 72 ho base 88 i0 (.agg #[.int .i64 0, .int .i64 0, .int .i64 0, .int .i64 0]) 4 32 Tryz.underlying72 hi hz0 hz1 hz2 (by rfl) (by decide) v L.length (L.flatMap sgc) hs hown ⟨k, 0, none⟩ 1 c (sgc p) hx (by rfl) (fun j u hj => ?_) (sgc_one p) (by unfold maxLen; omega) (by omega) hbase fun v' w' h1 h2 _ => ?_
 ·have e : (⟨k, 0, none⟩ : Addr).add j = ⟨k, 0 + j, none⟩ := by unfold Addr.add; split <;> simp_all
  rw [e, Nat.zero_add]
  exact hb.cell j (by simpa using hj)
 ·refine h v' w' ?_ h2 ((Below.refl _ _).grown h2 hbase (fun k hk => (hown.lt k hk).1))
  unfold Sgs
  rw [List.length_append, List.flatMap_append]
  simpa using h1
theorem Lg.more {w w5 : World} {base g gs : Nat} {wv : Value} {D : Dk} {gl gc b m ag : Nat} {U U5 : List Sg} {uv v5 : Value} {hi rel : Nat} {L : List Rc} {rv : Value} (h : Lg w base g gs wv D gl gc b m ag U uv hi rel L rv) (hs : Sgs w5 base v5 U5) (hg : w.grownBy w5 uv.ownBlock) : Lg (w5.setCell ⟨gl, 5, none⟩ v5) base g gs wv D gl gc b m ag U5 v5 hi rel L rv ∧ Below base w5 (w5.setCell ⟨gl, 5, none⟩ v5) ∧ Lc w5 gl g gc b m ag uv hi rel rv ∧ Kt w (w5.setCell ⟨gl, 5, none⟩ v5) :=
 have hk : Kt w w5 := (Kt.refl w).grown h.used (.inr (.inl rfl)) hg
 have hl : Lc w5 gl g gc b m ag uv hi rel rv := Blk.grown h.log hg (own_ne h.used h.log (by decide))
 have hk' : Kt w5 (w5.setCell ⟨gl, 5, none⟩ v5) := (Kt.refl w5).set hl (.inl rfl) 5 _
 have hr : Rcs w5 base rv L := ⟨own_stay h.recs.row (fun k hk2 => by
  have hlt := (h.recs.row.lt k hk2).2
  refine hg.block k hlt (fun e => ?_)
  rcases h.recs.row.2 with ⟨a1, _⟩ | ⟨gr, cp, cur, a1, _, a3, _⟩
  ·rw [a1] at hk2; cases hk2
  ·rw [a1] at hk2
   simp only [Value.ownBlock, Option.some.injEq] at hk2
   subst hk2
   exact own_ne h.used (show Blk w gr cur 44 from a3) (by decide) e), fun r hr => (h.recs.bd r hr).kt hk⟩
 ⟨⟨(h.disk.kt hk).kt hk', Blk.set hl 5 _, hk'.keep (hk.keep h.cells (by decide) (by decide) (by decide)) (by decide) (by decide) (by decide), row_set hs (own_ne hs hl (by decide)), hr.set hl (.inl rfl), h.bl⟩, (Below.refl _ _).setCell h.bl _, hl, hk.trans hk'⟩
end Go.Proofs.YtghajmcohdedlaaGreat

namespace Go.Proofs.YtghajmcohdedlaaGreat
open Go.RowKit
set_option maxRecDepth 100000 in
set_option maxHeartbeats 4000000 in
theorem evl_keep0 (w : World) (base g gs : Nat) (wv : Value) (D : Dk) (gl gc b m ag : Nat) (uv : Value) (hi rel : Nat) (L : List Rc) (rv : Value) (s : Sg) (h : Lg w base g gs wv D gl gc b m ag [] uv hi rel L rv) :
  Calls Tryz.prog 52 #[.pointer (some ⟨gl, 0, none⟩), .agg (sgc s).toArray] w fun e w' => e = .returned (.tuple #[]) ∧ Hid (∃ uv', Lg w' base g gs wv D gl gc b m ag [s] uv' hi rel L rv) ∧ Hid (Kt w w') ∧ Below base w w' := by
 obtain ⟨au, cu, hv⟩ := h.used.val
 have hv' : uv = .slice au 0 cu := hv
 subst hv'
 have HBS : Hid (base ≤ w.heap.size) := h.sz
 obtain ⟨at_, num, sh, en⟩ := s
 have hsg : sgc ⟨at_, num, sh, en⟩ = [.int .i64 (at_ : Int), .int .i64 (num : Int), .int .i64 (sh : Int), .int .i64 (en : Int)] := rfl
 rw [hsg]
 obtain ⟨W1, HW1⟩ : ∃ W1, Hid (W1 = w.alloc (.cells #[.int .i64 (at_ : Int), .int .i64 (num : Int), .int .i64 (sh : Int), .int .i64 (en : Int)] 88)) := ⟨_, rfl⟩
 have HB1 : Hid (Below w.heap.size w W1) := by (show Below _ _ _); rw [HW1.out]; exact below_alloc _ _
 have HK1 : Hid (Blk W1 w.heap.size #[.int .i64 (at_ : Int), .int .i64 (num : Int), .int .i64 (sh : Int), .int .i64 (en : Int)] 88) := by (show Blk _ _ _ _); rw [HW1.out]; exact Blk.new _ _ _
 have HG1 : Hid (Lg W1 base g gs wv D gl gc b m ag [] (.slice au 0 cu) hi rel L rv) := h.below HB1.out
 have HBB : Hid (Below base w W1) := HB1.out.mono h.sz
 have c5 : W1.cell? ⟨gl, 5, none⟩ = some (.slice au 0 cu) := Blk.cell HG1.out.log 5 rfl
 have k0 : W1.cell? ⟨w.heap.size, 0, none⟩ = some (.int .i64 (at_ : Int)) := HK1.out.cell 0 rfl
 have k1 : W1.cell? ⟨w.heap.size, 1, none⟩ = some (.int .i64 (num : Int)) := HK1.out.cell 1 rfl
 have k2 : W1.cell? ⟨w.heap.size, 2, none⟩ = some (.int .i64 (sh : Int)) := HK1.out.cell 2 rfl
 have k3 : W1.cell? ⟨w.heap.size, 3, none⟩ = some (.int .i64 (en : Int)) := HK1.out.cell 3 rfl
 clear h hv hsg
 go_enter Tryz.func52, Tryz.ntmps52
 go_upto_region 1 with fail
 rw [← HW1.out]
 go_wp2_with fail
 go_region
 all_goals
  obtain ⟨W2, HW2⟩ : ∃ W2, Hid (W2 = W1.drew) := ⟨_, rfl⟩
  have HBD : Hid (Below W1.heap.size W1 W2) := by (show Below _ _ _); rw [HW2.out]; exact (Below.refl _ _).drew
  have HG2 : Hid (Lg W2 base g gs wv D gl gc b m ag [] (.slice au 0 cu) hi rel L rv) := HG1.out.below HBD.out
  have HK2 : Hid (Blk W2 w.heap.size #[.int .i64 (at_ : Int), .int .i64 (num : Int), .int .i64 (sh : Int), .int .i64 (en : Int)] 88) := HK1.out.stay HBD.out
  have HB2 : Hid (Below base w W2) := HBB.out.trans (HBD.out.mono HG1.out.sz)
  rw [← HW2.out]
  clear c5 k0 k1 k2 k3
  have c5 : W2.cell? ⟨gl, 5, none⟩ = some (.slice au 0 cu) := Blk.cell HG2.out.log 5 rfl
  have c5b : (W2.alloc (.cells #[.int .i64 (at_ : Int), .int .i64 (num : Int), .int .i64 (sh : Int), .int .i64 (en : Int)] 88)).cell? ⟨gl, 5, none⟩ = some (.slice au 0 cu) := Blk.cell (HG2.out.log.stay (below_alloc _ _)) 5 rfl
  have k0 : W2.cell? ⟨w.heap.size, 0, none⟩ = some (.int .i64 (at_ : Int)) := HK2.out.cell 0 rfl
  have k1 : W2.cell? ⟨w.heap.size, 1, none⟩ = some (.int .i64 (num : Int)) := HK2.out.cell 1 rfl
  have k2 : W2.cell? ⟨w.heap.size, 2, none⟩ = some (.int .i64 (sh : Int)) := HK2.out.cell 2 rfl
  have k3 : W2.cell? ⟨w.heap.size, 3, none⟩ = some (.int .i64 (en : Int)) := HK2.out.cell 3 rfl
  obtain ⟨W4, HW4⟩ : ∃ W4, Hid (W4 = (W2.alloc (.cells #[.int .i64 (at_ : Int), .int .i64 (num : Int), .int .i64 (sh : Int), .int .i64 (en : Int)] 88)).drew) := ⟨_, rfl⟩
  have HBW4 : Hid (Below W2.heap.size W2 W4) := by (show Below _ _ _); rw [HW4.out]; exact (below_alloc _ _).drew
  have HG4 : Hid (Lg W4 base g gs wv D gl gc b m ag [] (.slice au 0 cu) hi rel L rv) := HG2.out.below HBW4.out
  have HKN : Hid (Blk W4 W2.heap.size #[.int .i64 (at_ : Int), .int .i64 (num : Int), .int .i64 (sh : Int), .int .i64 (en : Int)] 88) := by (show Blk _ _ _ _); rw [HW4.out]; exact (Blk.new W2 _ _).stay (Below.refl _ _).drew
  have HS4 : Hid (base ≤ W4.heap.size) := HG4.out.sz
  have HKW : Hid (Kt w W4) := ((Kt.of_below HB1.out).trans (Kt.of_below HBD.out)).trans (Kt.of_below HBW4.out)
  have HB4 : Hid (Below base w W4) := HB2.out.trans (HBW4.out.mono HG2.out.sz)
  go_wp2_with fail
  go_region_law (refine step_append_sg rfl (.tmp 37) (.tmp 39) rfl base _ [] rfl (by rw [← HW4.out]; exact HG4.out.used) W2.heap.size 1 ⟨at_, num, sh, en⟩ rfl (by rw [← HW4.out]; exact HKN.out) (Nat.zero_le _) (by rw [← HW4.out]; exact HS4.out) ?_; rw [← HW4.out]; intro v5 w5 hs5 hg5 hb5; obtain ⟨hG5, hB5, hL5, hK5⟩ := HG4.out.more hs5 hg5; have d5 : w5.cell? ⟨gl, 5, none⟩ = some (.slice au 0 cu) := Blk.cell hL5 5 rfl; have f5 : w5.frozen? ⟨gl, 5, none⟩ = false := Blk.free hL5 5; have HG5 : Hid (Lg (w5.setCell ⟨gl, 5, none⟩ v5) base g gs wv D gl gc b m ag [⟨at_, num, sh, en⟩] v5 hi rel L rv) := hG5; have HB5 : Hid (Below base w (w5.setCell ⟨gl, 5, none⟩ v5)) := (HB4.out.trans hb5).trans hB5; have HK5 : Hid (Kt w (w5.setCell ⟨gl, 5, none⟩ v5)) := HKW.out.trans hK5; obtain ⟨a5, c5', hv5⟩ := hs5.val; have hv5' : v5 = .slice a5 1 c5' := hv5; subst hv5'; clear hs5 hg5 hb5 hG5 hB5 hL5 hK5 hv5)
  all_goals
   go_returns
   exact ⟨rfl, ⟨_, HG5.out⟩, HK5, HB5.out⟩
end Go.Proofs.YtghajmcohdedlaaGreat
