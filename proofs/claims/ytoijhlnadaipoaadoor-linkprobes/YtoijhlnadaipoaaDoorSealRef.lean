/- The reference's Seal, for every kind and row of bytes. -/
import Derived.Test.YtoijhlnadaipoaaDoorSealLives
import Derived.Test.YtoijhlnadaipoaaDoorFour
namespace Go.Proofs.YtoijhlnadaipoaaDoor
open Go.RowKit

theorem ref_Seal_long (k : Nat) (a : Option Addr) (len cap : Nat) (w : World) (hl : 4096 < len) (hm : len ≤ 9223372036854775807) :
    Calls Tryd.prog 47 #[.int .u8 (k : Int), .slice a len cap] w fun e w' => e = .returned (.tuple #[.slice none 0 0, .int .i64 6]) ∧ w' = w := by
  go_enter Tryd.func47, Tryd.ntmps47
  go_wp2
  go_ret2
  exact ⟨rfl, rfl⟩

set_option maxRecDepth 100000 in
set_option maxHeartbeats 1000000 in
theorem ref_Seal (k : Nat) (hk : k < 256) (a : Option Addr) (len cap : Nat) (bs : List Nat) (w : World) (hr : Rd w a len bs) (hn : a = none → cap = 0) (hl : len ≤ 4096) :
    Calls Tryd.prog 47 #[.int .u8 (k : Int), .slice a len cap] w fun e w' => ∃ a' cap', e = .returned (.tuple #[.slice a' (len + 8) cap', .int .i64 0]) ∧ Own w' w.heap.size a' (len + 8) cap' (SealM.sealed k bs) ∧ Below w.heap.size w w' := by
  have HR : Hid (Rd w a len bs) := hr
  have HBL : Hid (bs.length = len) := hr.size
  have HIN : Hid (k :: len % 256 :: len / 256 :: bs = SealM.inner k bs) := by show _ = _; rw [← HBL.out]; rfl
  have HIL : Hid (Crc.more 0 (SealM.inner k bs) < 4294967296) := Crc.more_lt (by omega) (SealM.inner_byte hk hr.byte (by rw [HBL.out]; exact hl))
  have HNEW : Hid (Own (w.alloc (.cells #[.int .u8 (k : Int), .int .u8 ((len : Int) % 256), .int .u8 ((len : Int) / 256)] 5)) w.heap.size (some ⟨w.heap.size, 0, none⟩) 3 3 [k, len % 256, len / 256]) :=
    Own.new w w.heap.size _ [k, len % 256, len / 256] (by intro x hx; simp only [List.mem_cons, List.not_mem_nil, or_false] at hx; omega) rfl (Nat.le_refl _) (by show 3 ≤ maxLen; unfold maxLen; omega)
  clear hr
  go_enter Tryd.func47, Tryd.ntmps47
  go_wp2_with (at_builtin; refine wpList_append_rd (by rfl) (.tmp 20) (.tmp 21) (by rfl) w.heap.size (some ⟨w.heap.size, 0, none⟩) 3 3 [k, len % 256, len / 256] (by rfl) HNEW.out a len cap bs (by rfl) (HR.out.below (below_alloc w _)) hn (by omega) (by simp) ?_)
  intro a1 c1 w1 hown1 hgrow1 hbel1
  rw [HIN.out] at hown1
  have HO1 : Hid (Own w1 w.heap.size a1 (3 + len) c1 (SealM.inner k bs)) := hown1
  have HB1 : Hid (Below w.heap.size w w1) := (below_alloc w _).trans hbel1
  clear hown1 hgrow1 hbel1
  obtain ⟨s, HS⟩ : ∃ s, Hid (s = Crc.more 0 (SealM.inner k bs)) := ⟨_, rfl⟩
  rw [← HS.out] at HIL
  go_wp2_with fail
  refine (ref_Sum a1 (3 + len) c1 (SealM.inner k bs) w1 HO1.out.rd (by omega)).mono ?_
  rw [← HS.out]
  rintro e w1' ⟨rfl, hw1⟩
  subst hw1
  have HNEW2 : Hid (Own (w1'.alloc (.cells #[.int .u8 167] 5)) w.heap.size (some ⟨w1'.heap.size, 0, none⟩) 1 1 [167]) :=
    Own.new w1' w.heap.size _ [167] (by decide) rfl HB1.out.size (by show 1 ≤ maxLen; unfold maxLen; omega)
  obtain ⟨g, HG⟩ : ∃ g, Hid (g = w1'.heap.size) := ⟨_, rfl⟩
  have HO1' : Hid (Rd (w1'.alloc (.cells #[.int .u8 167] 5)) a1 (3 + len) (SealM.inner k bs)) := HO1.out.rd.below (below_alloc w1' _)
  have hn1 : a1 = none → c1 = 0 := by
    intro h
    obtain ⟨g', hg', _⟩ := HO1.out.form (by omega)
    rw [hg'] at h
    cases h
  have HSZ : Hid (w.heap.size ≤ (w1'.alloc (.cells #[.int .u8 167] 5)).heap.size) := by show _ ≤ _; have := HB1.out.size; simp; omega
  go_wp2_with (at_builtin; refine wpList_append_rd (by rfl) (.tmp 25) (.tmp 26) (by rfl) w.heap.size (some ⟨w1'.heap.size, 0, none⟩) 1 1 [167] (by rfl) HNEW2.out a1 (3 + len) c1 (SealM.inner k bs) (by rfl) HO1'.out hn1 (by omega) HSZ.out ?_)
  intro a2 c2 w2 hown2 hgrow2 hbel2
  have HO2 : Hid (Own w2 w.heap.size a2 (1 + (3 + len)) c2 (167 :: SealM.inner k bs)) := hown2
  have HB2 : Hid (Below w.heap.size w w2) := (HB1.out.trans ((below_alloc w1' _).mono HB1.out.size)).trans hbel2
  clear hown2 hgrow2 hbel2
  go_wp2_with fail
  refine (ref_Four s HIL.out w2 w.heap.size HB2.out.size).mono ?_
  rintro e w3 ⟨a3, c3, rfl, hne, hown3, hb3⟩
  have HB3 : Hid (Below w.heap.size w w3) := HB2.out.trans (hb3.mono HB2.out.size)
  have HO2' : Hid (Own w3 w.heap.size a2 (1 + (3 + len)) c2 (167 :: SealM.inner k bs)) := HO2.out.below hb3
  have HO3 : Hid (Own w3 w.heap.size a3 4 c3 (Crc.four s)) := hown3
  clear hown3 hb3
  go_wp2_with (at_builtin; refine wpList_append_rd (by rfl) (.tmp 27) (.tmp 29) (by rfl) w.heap.size a2 (1 + (3 + len)) c2 (167 :: SealM.inner k bs) (by rfl) HO2'.out a3 4 c3 (Crc.four s) (by rfl) HO3.out.rd (fun h => absurd h hne) (by omega) HB3.out.size ?_)
  intro a4 c4 w4 hown4 hgrow4 hbel4
  have HO4 : Hid (Own w4 w.heap.size a4 (1 + (3 + len) + 4) c4 (SealM.sealed k bs)) := by
    have h : Own w4 w.heap.size a4 (1 + (3 + len) + 4) c4 (167 :: (SealM.inner k bs ++ Crc.four s)) := hown4
    rw [HS.out] at h
    exact h
  have HB4 : Hid (Below w.heap.size w w4) := HB3.out.trans hbel4
  clear hown4 hgrow4 hbel4
  go_wp2
  go_ret2
  have e8 : 1 + (3 + len) + 4 = len + 8 := by omega
  rw [e8] at HO4
  refine ⟨a4, c4, ?_, HO4.out, HB4.out⟩
  show Ending.returned (.tuple #[.slice a4 (1 + (3 + len) + 4) c4, .int .i64 0]) = _
  rw [e8]
end Go.Proofs.YtoijhlnadaipoaaDoor
