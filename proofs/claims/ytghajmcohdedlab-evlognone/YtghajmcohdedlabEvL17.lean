/- evlog: head; unused, where no segment is used. -/
import Derived.Test.YtghajmcohdedlabEvL16
namespace Go.Proofs.Ytghajmcohdedlab
open Go.RowKit

theorem results_headE {w : World} {tmps : Array Value} {g : Nat} {cs : List Value} (h2 : tmps[4]?.getD undef = .pointer (some ⟨g, 0, none⟩)) (k : Blk w g cs.toArray 56) (hl : cs.length = 3) : (results Try.f58 tmps).run Try.prog w = .ok (.agg cs.toArray) w := by
  have hr := run_loadVar_mid (P := Try.prog) w g 0 56 cs _ (k.range 0 cs (fun j v hj => by simpa using hj)) Try.underlying56 rfl (by rw [hl]; exact infoPart)
  simp [results, Try.results58, h2, hr, asAddr]
set_option maxRecDepth 100000 in
set_option maxHeartbeats 4000000 in
theorem evl_head (w : World) (num tick : Int) (hn : (-9223372036854775808 : Int) ≤ num ∧ num ≤ 9223372036854775807) (ht : (-9223372036854775808 : Int) ≤ tick ∧ tick ≤ 9223372036854775807) :
    Calls Try.prog 58 #[.int .i64 num, .int .i64 tick] w fun e w' => Hid (∃ a c, e = .returned (.agg #[.int .u8 1, .bool true, .slice a 16 c]) ∧ Own w' w.heap.size a 16 c (KeyM.key (KeyM.up num) ++ KeyM.key (KeyM.up tick))) ∧ Below w.heap.size w w' := by
  obtain ⟨W1, HW1⟩ : ∃ W1, Hid (W1 = w.alloc (.cells #[.int .u8 0, .bool false, .slice none 0 0] 56)) := ⟨_, rfl⟩
  have HB1 : Hid (Below w.heap.size w W1) := by (show Below _ _ _); rw [HW1.out]; exact below_alloc _ _
  have HK1 : Hid (Blk W1 w.heap.size #[.int .u8 0, .bool false, .slice none 0 0] 56) := by (show Blk _ _ _ _); rw [HW1.out]; exact Blk.new _ _ _
  have HSZ : Hid (w.heap.size + 1 ≤ W1.heap.size) := HK1.out.lt
  go_enter Try.func58, Try.ntmps58
  go_upto_region 1 with fail
  rw [← HW1.out]
  go_wp2_with fail
  refine (octet_Key num hn W1).mono ?_
  rintro e w2 ⟨a2, rfl, ho2, hb2⟩
  have HO2 : Hid (Own w2 W1.heap.size (some a2) 8 8 (KeyM.key (KeyM.up num))) := ho2
  have HB2 : Hid (Below W1.heap.size W1 w2) := hb2
  clear ho2 hb2
  go_wp2_with fail
  refine (octet_Key tick ht w2).mono ?_
  rintro e w3 ⟨a3, rfl, ho3, hb3⟩
  have HO3 : Hid (Own w3 W1.heap.size (some a2) 8 8 (KeyM.key (KeyM.up num))) := HO2.out.below hb3
  have HB3 : Hid (Below W1.heap.size W1 w3) := HB2.out.trans (hb3.mono HB2.out.size)
  have HR3 : Hid (Rd w3 (some a3) 8 (KeyM.key (KeyM.up tick))) := ho3.rd
  clear ho3 hb3
  go_wp2_with (guard_target =~ wpList _ _ _ (Oper.mk (some 9) _ _ _ _ _ :: _) _ _; refine wpList_append_rd rfl (.tmp 6) (.tmp 8) rfl W1.heap.size (some a2) 8 8 _ rfl HO3.out (some a3) 8 8 _ rfl HR3.out (fun h => by cases h) (by omega) HB3.out.size ?_)
  intro a5 c5 w5 ho5 hg5 hb5
  have HO5 : Hid (Own w5 W1.heap.size a5 (8 + 8) c5 (KeyM.key (KeyM.up num) ++ KeyM.key (KeyM.up tick))) := ho5
  have HB5 : Hid (Below W1.heap.size W1 w5) := HB3.out.trans hb5
  have HK5 : Hid (Blk w5 w.heap.size #[.int .u8 0, .bool false, .slice none 0 0] 56) := HK1.out.below HB5.out (by have := HSZ.out; omega)
  have HBF : Hid (Below w.heap.size w w5) := HB1.out.trans (HB5.out.mono HB1.out.size)
  have k0 : w5.cell? ⟨w.heap.size, 0, none⟩ = some (.int .u8 0) := HK5.out.cell 0 rfl
  have k1 : w5.cell? ⟨w.heap.size, 1, none⟩ = some (.bool false) := HK5.out.cell 1 rfl
  have k2 : w5.cell? ⟨w.heap.size, 2, none⟩ = some (.slice none 0 0) := HK5.out.cell 2 rfl
  have f0 := HK5.out.free 0
  have f1 := HK5.out.free 1
  have f2 := HK5.out.free 2
  clear ho5 hg5 hb5
  go_wp2
  refine bodyPost_ret (results_headE (cs := [.int .u8 1, .bool true, .slice a5 16 c5]) (by rfl) (((HK5.out.set 0 _).set 1 _).set 2 _) rfl) rfl ?_
  have hne : ∀ k, (Value.slice a5 (8 + 8) c5).ownBlock = some k → w.heap.size ≠ k := fun k hk => by have := (HO5.out.row.lt k hk).1; have := HSZ.out; omega
  refine ⟨⟨a5, c5, rfl, ?_⟩, ((HBF.out.setCell (Nat.le_refl _) _).setCell (Nat.le_refl _) _).setCell (Nat.le_refl _) _⟩
  have hn5 : some w.heap.size ≠ (Value.slice a5 (8 + 8) c5).ownBlock := fun e => hne _ e.symm rfl
  exact (⟨row_set (row_set (row_set HO5.out.row hn5) hn5) hn5, HO5.out.byte⟩ : Own _ W1.heap.size a5 (8 + 8) c5 _).lower (by have := HSZ.out; omega)

theorem sg_index0 (w : World) (a : Option Addr) (c : Nat) (cv : Value) : Calls Try.prog 74 #[.slice a 0 c, cv] w fun e w' => e = .returned (.int .i64 (-1)) ∧ w' = w := by
  go_enter Try.func74, Try.ntmps74
  go_wp2_with fail
  refine wp_loop_rounds 1 ?_
  rw [rounds_succ]
  go_wp2
  go_returns
  exact ⟨rfl, rfl⟩
theorem sg_contains0 (w : World) (a : Option Addr) (c : Nat) (cv : Value) : Calls Try.prog 69 #[.slice a 0 c, cv] w fun e w' => e = .returned (.bool false) ∧ w' = w := by
  have hi := sg_index0 w a c cv
  go_enter Try.func69, Try.ntmps69
  go_wp2_with fail
  refine hi.mono ?_
  rintro e w' ⟨rfl, rfl⟩
  clear hi
  go_wp2
  go_returns
  exact ⟨rfl, rfl⟩
set_option maxRecDepth 100000 in
set_option maxHeartbeats 4000000 in
theorem evl_unused0 (w : World) (gl g gc b m ag hi rel : Nat) (au : Option Addr) (cu : Nat) (rv : Value) (h : Lc w gl g gc b m ag (.slice au 0 cu) hi rel rv) (hb : b ≤ 1000) (hm1 : 1 ≤ m) :
    Calls Try.prog 57 #[.pointer (some ⟨gl, 0, none⟩)] w fun e w' => e = .returned (.tuple #[.int .i64 ((b + 2 : Nat) : Int), .bool true]) ∧ Below w.heap.size w w' := by
  have HL : Hid (Lc w gl g gc b m ag (.slice au 0 cu) hi rel rv) := h
  have c3 : w.cell? ⟨gl, 3, none⟩ = some (.int .i64 (m : Int)) := Blk.cell h 3 rfl
  have hm' : (0 : Int) < (m : Int) := by omega
  obtain ⟨P, hP⟩ : ∃ P, P = b + 2 := ⟨_, rfl⟩
  rw [← hP]
  have HPL := evl_place w gl g gc b m ag hi rel (.slice au 0 cu) rv 0 h hb (by omega)
  rw [show b + 2 + 0 * 16 = P from by omega] at HPL
  obtain ⟨W1, HW1⟩ : ∃ W1, Hid (W1 = w.alloc (.cells #[.int .i64 (P : Int)] 3)) := ⟨_, rfl⟩
  have HB1 : Hid (Below w.heap.size w W1) := by (show Below _ _ _); rw [HW1.out]; exact below_alloc _ _
  have HK1 : Hid (Blk W1 w.heap.size #[.int .i64 (P : Int)] 3) := by (show Blk _ _ _ _); rw [HW1.out]; exact Blk.new _ _ _
  have c5 : W1.cell? ⟨gl, 5, none⟩ = some (.slice au 0 cu) := Blk.cell (h.stay HB1.out) 5 rfl
  have k0 : W1.cell? ⟨w.heap.size, 0, none⟩ = some (.int .i64 (P : Int)) := HK1.out.cell 0 rfl
  clear h hP
  go_enter Try.func57, Try.ntmps57
  go_wp2_with fail
  refine wp_loop_rounds 1 ?_
  rw [rounds_succ]
  go_wp2_with fail
  refine HPL.mono ?_
  rintro e w2 ⟨rfl, hw2⟩
  rw [hw2]
  clear hw2 w2
  go_upto_region 5 with fail
  rw [← HW1.out]
  go_wp2_with fail
  refine (sg_contains0 W1 au cu _).mono ?_
  rintro e w2 ⟨rfl, hw2⟩
  rw [hw2]
  clear hw2 w2
  go_wp2
  go_returns
  exact ⟨rfl, HB1.out⟩
end Go.Proofs.Ytghajmcohdedlab
