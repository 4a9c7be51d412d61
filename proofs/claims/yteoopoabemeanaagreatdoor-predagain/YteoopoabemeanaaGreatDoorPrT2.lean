/- strings.Builder: copyCheck, WriteByte. -/
import Derived.Test.YteoopoabemeanaaGreatDoorPrT1
import Derived.Test.YteoopoabemeanaaGreatDoorStep
import Derived.Test.YteoopoabemeanaaGreatDoorPaStr2
import Derived.Lib.Builder
namespace Go.Proofs.YteoopoabemeanaaGreatDoor
set_option maxRecDepth 100000
open Go.RowKit

theorem sizeBui : (Tryz.prog.info? 115).map (·.size) = some 2 := by kernel_rfl
set_option maxHeartbeats 1000000 in
theorem check_used (b : Nat) (w : World) (h0 : w.cell? ⟨b, 0, none⟩ = some (.pointer (some ⟨b, 0, none⟩))) : Calls Tryz.prog 93 #[.pointer (some ⟨b, 0, none⟩)] w fun e w' => e = .returned (.tuple #[]) ∧ w' = w := by
  obtain ⟨j, hj, _⟩ := Option.map_eq_some_iff.1 sizeBui
  go_enter Tryz.func93, Tryz.ntmps93
  go_wp2
  rw [Lib.run_neq_ptr_same w _ Tryz.underlying113 hj]
  go_wp2
  go_end0
  exact ⟨rfl, rfl⟩
set_option maxHeartbeats 1000000 in
theorem check_fresh (b : Nat) (w : World) (h0 : w.cell? ⟨b, 0, none⟩ = some (.pointer none)) (hsh : w.shape? b = some (115, 2)) (hfz : w.frozen? ⟨b, 0, none⟩ = false) : Calls Tryz.prog 93 #[.pointer (some ⟨b, 0, none⟩)] w fun e w' => e = .returned (.tuple #[]) ∧ w' = w.setCell ⟨b, 0, none⟩ (.pointer (some ⟨b, 0, none⟩)) := by
  obtain ⟨j, hj, hjs⟩ := Option.map_eq_some_iff.1 sizeBui
  go_enter Tryz.func93, Tryz.ntmps93
  go_wp2
  rw [Lib.run_to_unsafe w ⟨b, 0, none⟩ Tryz.underlying113 Tryz.underlying151 hj (by rw [hjs]; decide) hsh (Nat.zero_lt_succ 1)]
  simp only [Result.andThen]
  rw [Oper.upon_value]
  go_wp2
  rw [run_callFunc_extern Tryz.func109 (by kernel_rfl) (by kernel_rfl) (by kernel_rfl) (e := Extern.AbiNoEscape.same) (by kernel_rfl)]
  rw [Lib.run_noEscape]
  simp only [Result.andThen]
  rw [Oper.upon_value]
  go_wp2
  rw [Lib.run_from_unsafe w ⟨b, 0, none⟩ Tryz.underlying151 Tryz.underlying113 hj hsh (by kernel_rfl)]
  simp only [Result.andThen]
  rw [Oper.upon_value]
  go_wp2
  go_end0
  exact ⟨rfl, rfl⟩
/-- A builder in a block of its own, and its bytes. -/
structure Bui (w : World) (B b : Nat) (p : Value) (a : Option Addr) (cap : Nat) (bs : List Nat) : Prop where
  on : B ≤ b
  blk : Blk w b #[p, .slice a bs.length cap] 115
  own : Own w B a bs.length cap bs
  ne : Value.ownBlock (.slice a bs.length cap) ≠ some b
theorem Bui.fresh (w : World) : Bui (w.alloc (.cells #[.pointer none, .slice none 0 0] 115)) w.heap.size w.heap.size (.pointer none) none 0 [] := ⟨Nat.le_refl _, Blk.new w _ _, Own.nil0 _ _, fun h => by cases h⟩
def ptrB (b : Nat) (p : Value) : Prop := p = .pointer none ∨ p = .pointer (some ⟨b, 0, none⟩)
theorem check_any {w : World} {B b cap : Nat} {p : Value} {a : Option Addr} {bs : List Nat} (h : Bui w B b p a cap bs) (hp : ptrB b p) : Calls Tryz.prog 93 #[.pointer (some ⟨b, 0, none⟩)] w fun e w' => e = .returned (.tuple #[]) ∧ Bui w' B b (.pointer (some ⟨b, 0, none⟩)) a cap bs ∧ Below B w w' ∧ w'.heap.size = w.heap.size := by
  have c0 := h.blk.cell 0 rfl
  rcases hp with rfl | rfl
  · refine (check_fresh b w c0 (by simp [World.shape?, show w.heap[b]? = _ from h.blk]) (h.blk.free 0)).mono ?_
    rintro e w' ⟨rfl, rfl⟩
    refine ⟨rfl, ⟨h.on, h.blk.set 0 _, ?_, h.ne⟩, (Below.refl B w).setCell h.on _, by simp⟩
    exact ⟨ownsRow_setCell_other h.own.row h.ne _, h.own.byte⟩
  · refine (check_used b w c0).mono ?_
    rintro e w' ⟨rfl, rfl⟩
    exact ⟨rfl, h, Below.refl _ _, rfl⟩
set_option maxHeartbeats 2000000 in
theorem write_byte {w : World} {B b cap : Nat} {p : Value} {a : Option Addr} {bs : List Nat} (h : Bui w B b p a cap bs) (hp : ptrB b p) (hB : B ≤ w.heap.size) (hl : bs.length ≤ 1000000) (c : Nat) (hc : c < 256) :
    Calls Tryz.prog 71 #[.pointer (some ⟨b, 0, none⟩), .int .u8 (c : Int)] w fun e w' => e = .returned .nilIface ∧ (∃ a' cap', Bui w' B b (.pointer (some ⟨b, 0, none⟩)) a' cap' (bs ++ [c])) ∧ Below B w w' := by
  obtain ⟨n, HN⟩ : ∃ n, Hid (bs.length = n) := ⟨_, rfl⟩
  have HH : Hid (Bui w B b p a cap bs) := h
  have HP : Hid (ptrB b p) := hp
  rw [HN.out] at hl
  clear h hp
  go_enter Tryz.func71, Tryz.ntmps71
  go_wp2_with fail
  refine (check_any HH.out HP.out).mono ?_
  rintro e w1 ⟨rfl, h1, hb1, hs1⟩
  have HB1 : Hid (Below B w w1) := hb1
  have HK1 : Hid (Blk w1 b #[.pointer (some ⟨b, 0, none⟩), .slice a n cap] 115) := by (show Blk _ _ _ _); rw [← HN.out]; exact h1.blk
  have HO1 : Hid (Own w1 B a n cap bs) := by (show Own _ _ _ _ _ _); rw [← HN.out]; exact h1.own
  have HE1 : Hid (some b ≠ Value.ownBlock (.slice a n cap)) := by (show _ ≠ _); rw [← HN.out]; exact h1.ne.symm
  have HON : Hid (B ≤ b) := h1.on
  have HSB : Hid (B ≤ w1.heap.size) := by (show _ ≤ _); rw [hs1]; exact hB
  clear h1 hb1 hs1 HH HP
  have c0 : w1.cell? ⟨b, 0, none⟩ = some (.pointer (some ⟨b, 0, none⟩)) := HK1.out.cell 0 rfl
  have c1 : w1.cell? ⟨b, 1, none⟩ = some (.slice a n cap) := HK1.out.cell 1 rfl
  have HRD : Hid (Rd (w1.alloc (.cells #[.int .u8 (c : Int)] 5)) (some ⟨w1.heap.size, 0, none⟩) 1 [c]) := Rd.new w1 #[.int .u8 (c : Int)] 5 (0, 0) [c] (fun x hx => by rw [List.mem_singleton.1 hx]; exact hc) (fun i hi => by have h9 : i = 0 := (by simpa using hi); subst h9; rfl)
  have HOA : Hid (Own (w1.alloc (.cells #[.int .u8 (c : Int)] 5)) B a n cap bs) := HO1.out.below (below_alloc _ _)
  have HSZ : Hid (B ≤ (w1.alloc (.cells #[.int .u8 (c : Int)] 5)).heap.size) := Nat.le_trans HSB.out (below_alloc _ _).size
  have HKA : Hid (Blk (w1.alloc (.cells #[.int .u8 (c : Int)] 5)) b #[.pointer (some ⟨b, 0, none⟩), .slice a n cap] 115) := HK1.out.stay (below_alloc _ _)
  go_wp2_with (at_builtin; refine wpList_append_rd rfl (.tmp 11) (.tmp 13) rfl B a n cap bs rfl HOA.out (some ⟨w1.heap.size, 0, none⟩) 1 1 [c] rfl HRD.out (fun h => by cases h) (by omega) HSZ.out ?_)
  intro a5 c5 w5 ho5 hg5 hb5
  have HK5 : Hid (Blk w5 b #[.pointer (some ⟨b, 0, none⟩), .slice a n cap] 115) := HKA.out.grown hg5 HE1.out
  have HO5 : Hid (Own w5 B a5 (n + 1) c5 (bs ++ [c])) := ho5
  have HB5 : Hid (Below B w w5) := (HB1.out.trans ((below_alloc w1 _).mono HSB.out)).trans hb5
  have HE5 : Hid (Value.ownBlock (.slice a5 (n + 1) c5) ≠ some b) := Lib.ownBlock_ne ho5.row HK5.out (by decide)
  clear ho5 hb5 hg5 HOA HRD HSZ HO1 HB1 HKA HE1 c0 c1
  have d0 : w5.cell? ⟨b, 0, none⟩ = some (.pointer (some ⟨b, 0, none⟩)) := HK5.out.cell 0 rfl
  have d1 : w5.cell? ⟨b, 1, none⟩ = some (.slice a n cap) := HK5.out.cell 1 rfl
  have f1 := HK5.out.free 1
  go_wp2
  go_ret
  have hlen : (bs ++ [c]).length = n + 1 := by rw [List.length_append, HN.out]; rfl
  refine ⟨rfl, ⟨a5, c5, HON.out, ?_, ?_, ?_⟩, HB5.out.setCell HON.out _⟩
  · rw [hlen]; exact HK5.out.set 1 _
  · rw [hlen]; exact ⟨ownsRow_setCell_other HO5.out.row HE5.out _, HO5.out.byte⟩
  · rw [hlen]; exact HE5.out
set_option maxHeartbeats 2000000 in
theorem write_string {w : World} {B b cap : Nat} {p : Value} {a : Option Addr} {bs : List Nat} (h : Bui w B b p a cap bs) (hp : ptrB b p) (hB : B ≤ w.heap.size) (hl : bs.length ≤ 1000000) (s : ByteArray) (hs : 0 < s.size ∧ s.size ≤ 100) :
    Calls Tryz.prog 73 #[.pointer (some ⟨b, 0, none⟩), .string s] w fun e w' => e = .returned (.tuple #[.int .i64 (s.size : Int), .nilIface]) ∧ (∃ a' cap', Bui w' B b (.pointer (some ⟨b, 0, none⟩)) a' cap' (bs ++ bytesOf s)) ∧ Below B w w' := by
  obtain ⟨i0, hi, hz0, hz1, hz2⟩ := info_parts infoByte
  obtain ⟨n, HN⟩ : ∃ n, Hid (bs.length = n) := ⟨_, rfl⟩
  have HH : Hid (Bui w B b p a cap bs) := h
  have HP : Hid (ptrB b p) := hp
  rw [HN.out] at hl
  clear h hp
  go_enter Tryz.func73, Tryz.ntmps73
  go_wp2_with fail
  refine (check_any HH.out HP.out).mono ?_
  rintro e w1 ⟨rfl, h1, hb1, hs1⟩
  have HB1 : Hid (Below B w w1) := hb1
  have HK1 : Hid (Blk w1 b #[.pointer (some ⟨b, 0, none⟩), .slice a n cap] 115) := by (show Blk _ _ _ _); rw [← HN.out]; exact h1.blk
  have HO1 : Hid (Own w1 B a n cap bs) := by (show Own _ _ _ _ _ _); rw [← HN.out]; exact h1.own
  have HE1 : Hid (some b ≠ Value.ownBlock (.slice a n cap)) := by (show _ ≠ _); rw [← HN.out]; exact h1.ne.symm
  have HON : Hid (B ≤ b) := h1.on
  have HSB : Hid (B ≤ w1.heap.size) := by (show _ ≤ _); rw [hs1]; exact hB
  clear h1 hb1 hs1 HH HP
  have c0 : w1.cell? ⟨b, 0, none⟩ = some (.pointer (some ⟨b, 0, none⟩)) := HK1.out.cell 0 rfl
  have c1 : w1.cell? ⟨b, 1, none⟩ = some (.slice a n cap) := HK1.out.cell 1 rfl
  go_wp2_with (at_builtin; refine Lib.wpList_append_own_string w1 (by rfl) (.tmp 12) (.tmp 13) 44 9 (by rfl) B 5 i0 Tryz.underlying44 Tryz.underlying9 hi hz0 hz1 hz2 (.slice a n cap) n (vb bs) (by rfl) HO1.out.row s (by rfl) (by unfold maxLen; omega) (by omega) HSB.out ?_)
  intro v' w5 hrow hgrow _
  rw [vb_bytesOf, ← vb_append] at hrow
  have HK5 : Hid (Blk w5 b #[.pointer (some ⟨b, 0, none⟩), .slice a n cap] 115) := HK1.out.grown hgrow HE1.out
  have HB5 : Hid (Below B w w5) := HB1.out.trans ((Below.refl _ _).grown hgrow HSB.out (fun k hk => (HO1.out.row.lt k hk).1))
  obtain ⟨g, cap5, hv, _⟩ := hrow.form (by omega)
  subst hv
  have HO5 : Hid (Own w5 B (some ⟨g, 0, none⟩) (n + s.size) cap5 (bs ++ bytesOf s)) := ⟨hrow, fun x hx => (List.mem_append.1 hx).elim (HO1.out.byte x) (bytesOf_byte s x)⟩
  have HE5 : Hid (Value.ownBlock (.slice (some ⟨g, 0, none⟩) (n + s.size) cap5) ≠ some b) := Lib.ownBlock_ne hrow HK5.out (by decide)
  clear hrow hgrow HO1 HB1 HE1 c0 c1
  have d0 : w5.cell? ⟨b, 0, none⟩ = some (.pointer (some ⟨b, 0, none⟩)) := HK5.out.cell 0 rfl
  have d1 : w5.cell? ⟨b, 1, none⟩ = some (.slice a n cap) := HK5.out.cell 1 rfl
  have f1 := HK5.out.free 1
  go_wp2
  go_ret2
  have hlen : (bs ++ bytesOf s).length = n + s.size := by rw [List.length_append, HN.out, bytesOf_length]
  refine ⟨rfl, ⟨some ⟨g, 0, none⟩, cap5, HON.out, ?_, ?_, ?_⟩, HB5.out.setCell HON.out _⟩
  · rw [hlen]; exact HK5.out.set 1 _
  · rw [hlen]; exact ⟨ownsRow_setCell_other HO5.out.row HE5.out _, HO5.out.byte⟩
  · rw [hlen]; exact HE5.out
end Go.Proofs.YteoopoabemeanaaGreatDoor
