/- grapevinelaw11: live. -/
import Derived.Test.YtghajmcohdedlaaEvL27
import Derived.Test.YtghajmcohdedlaaEvF
import Derived.Lib.SlBytesConst
namespace Go.Proofs.Ytghajmcohdedlaa
open Go.RowKit

theorem Rcs.one {w : World} {k : Nat} {r : Rc} {B : Nat} (hb : Blk w k (rcc r).toArray 78) (hB : B ≤ k) (hd : Bd w B r.a r.n r.bs) : Rcs w B (.slice (some ⟨k, 0, none⟩) 1 1) [r] :=
  ⟨⟨rfl, .inr ⟨k, 1, (rcc r).toArray, rfl, hB, hb, Nat.le_refl _, by unfold maxLen; omega, rfl, by simp [rcc]⟩⟩, fun q hq => by rw [List.mem_singleton.1 hq]; exact hd⟩
set_option maxRecDepth 100000 in
set_option maxHeartbeats 4000000 in
theorem law_live11 (w : World) : Calls Try.prog 11 #[] w fun e w' => e = .returned (.bool true) ∧ Below w.heap.size w w' := by
  obtain ⟨f1, f2, f3, f4, f5, f6, f7, f8, f9, f10, f11, f12, f13, f14⟩ := live11_d
  obtain ⟨D0, HD0⟩ : ∃ D, Hid (D = live0) := ⟨_, rfl⟩
  obtain ⟨D2, HD2⟩ : ∃ D, Hid (D = live2) := ⟨_, rfl⟩
  obtain ⟨D3, HD3⟩ : ∃ D, Hid (D = live3) := ⟨_, rfl⟩
  obtain ⟨D5, HD5⟩ : ∃ D, Hid (D = live5) := ⟨_, rfl⟩
  have HE2 : Hid (D2 = writeD (syncD D0) ((1 + 2 : Nat) : Int) (headL 1 0)) := by (show _ = _); rw [HD2.out, HD0.out]; rfl
  have HE3 : Hid (writeD D2 ((1 + 3 : Nat) : Int) (layE 2 true (KeyM.key (KeyM.up ((5 : Nat) : Int)) ++ [97, 98])) = D3) := by (show _ = _); rw [HD2.out, HD3.out]; rfl
  have HE5 : Hid (crashD (syncD D3) [] = D5) := by (show _ = _); rw [HD3.out, HD5.out]; rfl
  have HS0 : Hid (D0.down = false ∧ D0.sure.length = 52 ∧ D0.waits.length = 0) := by (show _ ∧ _ ∧ _); rw [HD0.out]; exact ⟨rfl, by kernel_rfl, rfl⟩
  have HA0 : Hid ((getB D0 1 1 0).1 = ((0 : Nat) : Int) ∧ headsF D0 1 3 = []) := by (show _ ∧ _); rw [HD0.out]; exact ⟨live11_a, live11_b⟩
  have HA5 : Hid ((getB D5 1 1 0).1 = ((0 : Nat) : Int) ∧ headsF D5 1 3 = [⟨3, 1, 0, 1⟩] ∧ readAllF D5 [⟨3, 1, 0, 1⟩] 0 [] = ([⟨3, 1, 5, 2⟩], 5, [(5, [97, 98])]) ∧ wipeL D5 14 5 false = (D5, false, 0)) := by (show _ ∧ _ ∧ _ ∧ _); rw [HD5.out]; exact ⟨live11_e, live11_f, live11_g, live11_h⟩
  have HW0 : Hid (wipeL D0 16 (1 + 2) false = (D0, false, 0) ∧ syncE D0 = 0 ∧ (syncD D0).waits.length < 1000000000 ∧ writeE (syncD D0) ((1 + 2 : Nat) : Int) (headL 1 0) = 0 ∧ D2.waits.length < 1000000000 ∧ writeE D2 ((1 + 3 : Nat) : Int) (layE 2 true (KeyM.key (KeyM.up ((5 : Nat) : Int)) ++ [97, 98])) = 0 ∧ shutE D0 D0.age = 0) := by
    (show _ ∧ _ ∧ _ ∧ _ ∧ _ ∧ _ ∧ _)
    rw [HD0.out, HD2.out, f7]
    exact ⟨live11_c, f1, f3, f2, f4, f5, f6⟩
  have HAG : Hid (D0.age = D3.age ∧ syncE D3 = 0 ∧ (syncD D3).age < 1000000000) := by (show _ ∧ _ ∧ _); rw [HD0.out, HD3.out]; exact ⟨by rw [f7, f8], f9, f10⟩
  have HS5 : Hid (D5.down = false ∧ D5.sure.length = 52 ∧ D5.waits.length = 0) := by (show _ ∧ _ ∧ _); rw [HD5.out]; exact ⟨f11, f12, f13⟩
  clear f1 f2 f3 f4 f5 f6 f7 f8 f9 f10 f11 f12 f13 f14
  go_enter Try.func11, Try.ntmps11
  go_wp2_with fail
  refine (sector_New 52 w).mono ?_
  rintro e w1 ⟨ht, hb1⟩
  rcases ht.out with ⟨h0, _⟩ | ⟨_, g, rfl, hd⟩
  · exact absurd ⟨by decide, by decide⟩ h0
  have HDk : Hid (Disk w1 w.heap.size g w.heap.size (.slice none 0 0) D0) := by (show Disk _ _ _ _ _ _); rw [HD0.out]; exact hd
  have HB1 : Hid (Below w.heap.size w w1) := hb1
  clear ht hd hb1
  have HOP := evl_Open w1 w.heap.size g w.heap.size (.slice none 0 0) D0 1 3 0 HDk.out HS0.out.1 (by omega) (by omega) (by rw [HS0.out.2.1]; omega) (by rw [HS0.out.2.2]; omega) HA0.out.1 (by rw [HA0.out.2]; exact Nat.zero_le _) (by rw [HA0.out.2]; intro p hp; cases hp) (by rw [HA0.out.2]; exact .inl rfl)
  rw [HA0.out.2] at HOP
  go_wp2_with fail
  refine HOP.mono ?_
  rintro e w2 ⟨ht2, hb2⟩
  obtain ⟨gl, gc, wv2, uv2, rv2, L2, rfl, hgl, hL2, hg2⟩ := ht2.out
  have HG2 : Hid (Lg w2 w.heap.size g w.heap.size wv2 D0 gl gc 1 3 D0.age [] uv2 0 0 L2 rv2) := hg2
  have HL2 : Hid (L2.map plR = []) := hL2
  have HB2 : Hid (Below w.heap.size w w2) := HB1.out.trans hb2
  clear ht2 hb2 hL2 hg2 hgl HOP
  obtain ⟨W3, HW3⟩ : ∃ W3, Hid (W3 = w2.alloc (.cells #[.int .u8 97, .int .u8 98] 5 (2, 3))) := ⟨_, rfl⟩
  have HX3 : Hid (Below w2.heap.size w2 W3) := by (show Below _ _ _); rw [HW3.out]; exact below_alloc _ _
  have HK3 : Hid (W3.heap[w2.heap.size]? = some (.cells (vb [97, 98]).toArray 5 (2, 3))) := by (show _ = _); rw [HW3.out]; exact heap_alloc_new w2 _
  have HO3 : Hid (Bd W3 w.heap.size (some ⟨w2.heap.size, 0, none⟩) 2 [97, 98]) := ⟨Rd.of_row HK3.out (by decide), .inr ⟨_, 0, _, _, rfl, ⟨HB2.out.size, by decide⟩, HK3.out⟩⟩
  have hcv : (convert 49 49 (.slice (some ⟨w2.heap.size, 0, none⟩) 2 2)).run Try.prog (w2.alloc (.cells #[.int .u8 97, .int .u8 98] 5)) = .ok (.slice (some ⟨w2.heap.size, 0, none⟩) 2 2) (w2.alloc (.cells #[.int .u8 97, .int .u8 98] 5 (2, 3))) := Go.Lib.run_convert_bytes_const w2 49 5 _ 2 2 Try.underlying49 Try.underlying5
  have HG3 : Hid (Lg W3 w.heap.size g w.heap.size wv2 D0 gl gc 1 3 D0.age [] uv2 0 0 L2 rv2) := HG2.out.below HX3.out
  have HB3 : Hid (Below w.heap.size w W3) := HB2.out.trans (HX3.out.mono HB2.out.size)
  have HAP := evl_Append0 W3 w.heap.size g w.heap.size wv2 D0 gl gc 1 3 D0.age uv2 0 0 L2 rv2 D0 D2 false 5 (some ⟨w2.heap.size, 0, none⟩) 2 2 [97, 98] HG3.out HW0.out.2.2.2.2.2.2 (by omega) (by omega) (by omega) (by omega) (by rw [HS0.out.2.2]; omega) HW0.out.1 HW0.out.2.1 HW0.out.2.2.1 HW0.out.2.2.2.1 HE2.out HW0.out.2.2.2.2.1 HW0.out.2.2.2.2.2.1 HO3.out (by omega) (by omega) (fun e => by cases e) (by have h := congrArg List.length HL2.out; rw [List.length_map] at h; rw [h]; exact Nat.zero_le _)
  rw [HE3.out] at HAP
  go_wp2_with fail
  clear hcv
  rw [← HW3.out]
  refine HAP.mono ?_
  rintro e w4 ⟨rfl, ht4, hb4⟩
  obtain ⟨wv4, uv4, rv4, L4, _, hg4⟩ := ht4.out
  have HG4 : Hid (Lg w4 w.heap.size g w.heap.size wv4 D3 gl gc 1 3 D3.age [⟨1 + 2, 1, 5, 2⟩] uv4 5 0 L4 rv4) := by (show Lg _ _ _ _ _ _ _ _ _ _ _ _ _ _ _ _ _); rw [← HAG.out.1]; exact hg4
  have HB4 : Hid (Below w.heap.size w w4) := HB3.out.trans hb4
  clear ht4 hg4 hb4 HAP
  have HSY := evl_Sync w4 w.heap.size g w.heap.size wv4 D3 gl gc 1 3 _ uv4 5 0 L4 rv4 HG4.out
  rw [HAG.out.2.1] at HSY
  go_wp2_with fail
  refine HSY.mono ?_
  rintro e w5 ⟨rfl, ht5, hb5⟩
  obtain ⟨wv5, hg5⟩ := ht5.out
  have HD5' : Hid (Disk w5 w.heap.size g w.heap.size wv5 (syncD D3)) := hg5.disk
  have HB5 : Hid (Below w.heap.size w w5) := HB4.out.trans hb5
  clear ht5 hg5 hb5 HSY
  go_wp2_with fail
  refine (disk_Crash w5 w.heap.size g w.heap.size wv5 (syncD D3) none 0 0 [] HD5'.out (fun _ _ => ⟨rfl, .inl rfl⟩) (by simp) (by omega) HAG.out.2.2).mono ?_
  rw [HE5.out]
  rintro e w6 ⟨rfl, hd6, hm6⟩
  have HD6 : Hid (Disk w6 w.heap.size g w.heap.size (.slice none 0 0) D5) := hd6.out
  have HB6 : Hid (Below w.heap.size w w6) := HB5.out.trans hm6.low
  clear hd6 hm6
  have HOP := evl_Open w6 w.heap.size g w.heap.size (.slice none 0 0) D5 1 3 0 HD6.out HS5.out.1 (by omega) (by omega) (by rw [HS5.out.2.1]; omega) (by rw [HS5.out.2.2]; omega) HA5.out.1 (by rw [HA5.out.2.1]; exact Nat.le_refl _) (by rw [HA5.out.2.1, HA5.out.2.2.1]; intro p hp; rw [List.mem_singleton.1 hp]; decide) (by rw [HA5.out.2.1, HA5.out.2.2.1]; exact .inr ⟨_, rfl, by decide, by decide, HA5.out.2.2.2⟩)
  rw [HA5.out.2.1, HA5.out.2.2.1] at HOP
  go_wp2_with fail
  refine HOP.mono ?_
  rintro e w7 ⟨ht7, hb7⟩
  obtain ⟨g7, gc7, wv7, uv7, rv7, L7, rfl, _, hL7, hg7⟩ := ht7.out
  have HL7 : Hid (L7.map plR = [(5, [97, 98])]) := hL7
  have HG7 : Hid (Lg w7 w.heap.size g w.heap.size wv7 D5 g7 gc7 1 3 D5.age [⟨3, 1, 5, 2⟩] uv7 5 0 L7 rv7) := hg7
  have HB7 : Hid (Below w.heap.size w w7) := HB6.out.trans hb7
  have HLN : Hid (L7.length ≤ 100000) := by (show _ ≤ _); have h := congrArg List.length HL7.out; rw [List.length_map] at h; rw [h]; decide
  clear ht7 hL7 hg7 hb7 HOP
  go_wp2_with fail
  refine (evl_High w7 g7 g gc7 1 3 D5.age 5 0 uv7 rv7 HG7.out.log).mono ?_
  rintro e w0 ⟨rfl, hw⟩
  subst w0
  go_wp2_with fail
  refine (evl_Events w7 w.heap.size g7 g gc7 1 3 D5.age 5 0 uv7 rv7 L7 0 9 HG7.out.log HG7.out.recs HLN.out).mono ?_
  rintro e w8 ⟨ht8, hb8⟩
  obtain ⟨v8, L8, rfl, hL8, hr8⟩ := ht8.out
  have HL8 : Hid (L8.map plR = [(5, [97, 98])]) := by (show _ = _); rw [hL8, HL7.out]; rfl
  have HR8 : Hid (Rcs w8 w7.heap.size v8 L8) := hr8
  have HB8 : Hid (Below w.heap.size w w8) := HB7.out.trans (hb8.mono HB7.out.size)
  clear ht8 hL8 hr8 hb8
  obtain ⟨W9, HW9⟩ : ∃ W9, Hid (W9 = w8.alloc (.cells #[.int .u8 97, .int .u8 98] 5 (2, 3))) := ⟨_, rfl⟩
  have HX9 : Hid (Below w8.heap.size w8 W9) := by (show Below _ _ _); rw [HW9.out]; exact below_alloc _ _
  have HK9 : Hid (W9.heap[w8.heap.size]? = some (.cells (vb [97, 98]).toArray 5 (2, 3))) := by (show _ = _); rw [HW9.out]; exact heap_alloc_new w8 _
  have HO9 : Hid (Bd W9 w8.heap.size (some ⟨w8.heap.size, 0, none⟩) 2 [97, 98]) := ⟨Rd.of_row HK9.out (by decide), .inr ⟨_, 0, _, _, rfl, ⟨Nat.le_refl _, by decide⟩, HK9.out⟩⟩
  have hcv : (convert 49 49 (.slice (some ⟨w8.heap.size, 0, none⟩) 2 2)).run Try.prog (w8.alloc (.cells #[.int .u8 97, .int .u8 98] 5)) = .ok (.slice (some ⟨w8.heap.size, 0, none⟩) 2 2) (w8.alloc (.cells #[.int .u8 97, .int .u8 98] 5 (2, 3))) := Go.Lib.run_convert_bytes_const w8 49 5 _ 2 2 Try.underlying49 Try.underlying5
  obtain ⟨WA, HWA⟩ : ∃ WA, Hid (WA = W9.alloc (.cells #[.int .i64 5, .slice (some ⟨w8.heap.size, 0, none⟩) 2 2] 78)) := ⟨_, rfl⟩
  have HXA : Hid (Below W9.heap.size W9 WA) := by (show Below _ _ _); rw [HWA.out]; exact below_alloc _ _
  have HKA : Hid (Blk WA W9.heap.size #[.int .i64 5, .slice (some ⟨w8.heap.size, 0, none⟩) 2 2] 78) := by (show Blk _ _ _ _); rw [HWA.out]; exact Blk.new _ _ _
  have HRA : Hid (Rcs WA w8.heap.size (.slice (some ⟨W9.heap.size, 0, none⟩) 1 1) [⟨5, some ⟨w8.heap.size, 0, none⟩, 2, 2, [97, 98]⟩]) := Rcs.one HKA.out HX9.out.size (HO9.out.kt (Kt.of_below HXA.out))
  have HX8A : Hid (Below w8.heap.size w8 WA) := HX9.out.trans (HXA.out.mono HX9.out.size)
  have HBA : Hid (Below w.heap.size w WA) := HB8.out.trans (HX8A.out.mono HB8.out.size)
  have HSM := ref_Same11 WA w7.heap.size w8.heap.size v8 (.slice (some ⟨W9.heap.size, 0, none⟩) 1 1) L8 [⟨5, some ⟨w8.heap.size, 0, none⟩, 2, 2, [97, 98]⟩] (HR8.out.below HX8A.out) HRA.out (by rw [HL8.out]; rfl) (by have h := congrArg List.length HL8.out; rw [List.length_map] at h; rw [h]; decide)
  go_wp2_with fail
  clear hcv
  have HSZ9 : W9.heap.size = w8.heap.size + 1 := by rw [HW9.out]; simp
  rw [HSZ9] at HSM
  rw [← HW9.out, ← HWA.out]
  refine HSM.mono ?_
  rintro e w10 ⟨rfl, hb10⟩
  have HB10 : Hid (Below w.heap.size w w10) := HBA.out.trans (hb10.mono HBA.out.size)
  clear hb10 HSM
  go_wp2
  go_ret
  exact ⟨rfl, HB10.out⟩
end Go.Proofs.Ytghajmcohdedlaa
