/- Proved: for every three numbers grapevinelaw11.EvlogOpens answers true. No condition. -/
import Derived.Test.YtghajmcohdedlaaEvR3
import Derived.Test.YtghajmcohdedlaaEvP5
import Derived.Test.YtghajmcohdedlaaFrame
namespace Go.Proofs.Ytghajmcohdedlaa
open Go.ChangeShapes Go.WideShapes Go.ChangeAt Go.RowKit
namespace evlogOpens

theorem new_trip (N : Nat) : tripE (newD N) 1 = 0 ∧ syncE (tripD (newD N) 1) = 10 ∧ (syncD (tripD (newD N) 1)).down = true ∧ (syncD (tripD (newD N) 1)).age = 0 ∧ syncE (syncD (tripD (newD N) 1)) = 10 := ⟨rfl, rfl, rfl, rfl, rfl⟩
set_option maxRecDepth 100000 in
set_option maxHeartbeats 4000000 in
theorem walk (n at_ many : Int) (w : World) : Calls Try.prog 3 #[.int .i64 n, .int .i64 at_, .int .i64 many] w fun e w' => e = .returned (.bool true) ∧ Below w.heap.size w w' := by
  obtain ⟨u, hu⟩ : ∃ u : Nat, u = (n % 18446744073709551616).toNat := ⟨_, rfl⟩
  have y1 : IntKind.u64.wrap n = (u : Int) := by rw [IntKind.wrap_u64, hu]; omega
  obtain ⟨v, hv⟩ : ∃ v : Nat, v = u % 300 := ⟨_, rfl⟩
  have y2 : (u : Int) % 300 = (v : Int) := by omega
  have hv8 : v < 300 := by omega
  have y3 : IntKind.i64.wrap (v : Int) = (v : Int) := by rw [IntKind.wrap_i64]; omega
  obtain ⟨N, hN⟩ : ∃ N : Nat, N = 1 + v := ⟨_, rfl⟩
  have y4 : 1 + (v : Int) = (N : Int) := by omega
  have y5 : IntKind.i64.wrap (N : Int) = (N : Int) := by rw [IntKind.wrap_i64]; omega
  have HNN : Hid (1 ≤ N ∧ N ≤ 512) := by (show _ ∧ _); omega
  have hul : u < 18446744073709551616 := by omega
  obtain ⟨z1, z2, z3, z4, z5⟩ := new_trip N
  obtain ⟨D2, HD2⟩ : ∃ D, Hid (D = syncD (tripD (newD N) 1)) := ⟨_, rfl⟩
  rw [← HD2.out] at z3 z4 z5
  have HZ : Hid (tripE (newD N) 1 = 0 ∧ syncE (tripD (newD N) 1) = 10 ∧ D2.down = true ∧ D2.age = 0 ∧ syncE D2 = 10) := ⟨z1, z2, z3, z4, z5⟩
  have HLN : Hid ((newD N).sure.length = N) := by (show _ = _); rw [newD]; simp only [List.length_replicate]
  clear hu hv hN z1 z2 z3 z4 z5
  go_enter Try.func3, Try.ntmps3
  go_wp2_with fail
  refine (sector_New (N : Int) w).mono ?_
  rintro e w1 ⟨ht, hb1⟩
  rcases ht.out with ⟨h0, _⟩ | ⟨_, g, rfl, hd⟩
  · exact absurd ⟨by have := HNN.out; omega, by have := HNN.out; omega⟩ h0
  rw [Int.toNat_natCast] at hd
  have HB1 : Hid (Below w.heap.size w w1) := hb1
  have HD1 : Hid (Disk w1 w.heap.size g w.heap.size (.slice none 0 0) (newD N)) := hd
  clear ht hd hb1
  go_wp2_with fail
  refine (ref_New N HNN.out.1 HNN.out.2 g w1 HD1.out.blk.lt).mono ?_
  rintro e w2 ⟨r, rfl, hr, hb2⟩
  obtain ⟨sv, SV, hr⟩ := hr.out
  have HR2 : Hid (Rk w2 w1.heap.size r g sv (.slice none 0 0) SV [] (newD N)) := hr
  have HB2 : Hid (Below w.heap.size w w2) := HB1.out.trans (hb2.mono HB1.out.size)
  have HDk2 : Hid (Disk w2 w.heap.size g w.heap.size (.slice none 0 0) (newD N)) := HD1.out.stay hb2
  clear hr hb2 y1 y2 y3 y4 y5
  by_cases hmay : mayE N at_ many
  · obtain ⟨⟨m1, m2⟩, m3, m4⟩ := hmay
    obtain ⟨b, rfl⟩ := Int.eq_ofNat_of_zero_le m3
    obtain ⟨m, rfl⟩ := Int.eq_ofNat_of_zero_le (show 0 ≤ many by omega)
    have HOP := evl_Open_new w2 w.heap.size g w.heap.size (.slice none 0 0) (newD N) b m 0 HDk2.out rfl (by omega) (by omega) (by rw [HLN.out]; omega) (by rw [newD_get]; rfl) (by rw [newD_heads]; exact Nat.zero_le _) (by rw [newD_heads]; intro p hp; cases hp) (by rw [newD_heads]; rfl)
    rw [newD_heads] at HOP
    go_wp2_with fail
    refine HOP.mono ?_
    rintro e w3 ⟨ht3, hk3, hb3⟩
    obtain ⟨gl, gc, wv3, uv3, rv3, L3, rfl, _, _, hg3⟩ := ht3.out
    have HG3 : Hid (Lg w3 w.heap.size g w.heap.size wv3 (newD N) gl gc b m 0 [] uv3 0 0 L3 rv3) := hg3
    have HB3 : Hid (Below w.heap.size w w3) := HB2.out.trans hb3
    have HR3 : Hid (Rk w3 w1.heap.size r g sv (.slice none 0 0) SV [] (newD N)) := HR2.out.move (fun k cs t fr h ht => hk3.out.block k cs t fr h (by rcases ht with rfl | rfl | rfl | ⟨rfl, _⟩ <;> decide) (by rcases ht with rfl | rfl | rfl | ⟨rfl, _⟩ <;> decide) (by rcases ht with rfl | rfl | rfl | ⟨rfl, _⟩ <;> decide))
    clear ht3 hk3 hb3 hg3 HOP
    have HRO := ref_Open11_new w3 w1.heap.size r g sv (.slice none 0 0) SV [] N b m HR3.out (by omega) (by omega) (by omega) HNN.out.2
    go_wp2_with fail
    refine HRO.mono ?_
    rintro e w4 ⟨ht4, hb4⟩
    obtain ⟨gy, rfl⟩ := ht4.out
    have HG4 : Hid (Lg w4 w.heap.size g w.heap.size wv3 (newD N) gl gc b m 0 [] uv3 0 0 L3 rv3) := HG3.out.below hb4
    have HB4 : Hid (Below w.heap.size w w4) := HB3.out.trans (hb4.mono HB3.out.size)
    clear ht4 hb4 HRO
    go_wp2_with fail
    refine (disk_Waits w4 _ g _ _ _ HG4.out.disk).mono ?_
    rw [show (((newD N).waits.length : Nat) : Int) = 0 from rfl]
    rintro e w0 ⟨rfl, hw⟩
    rw [hw]
    clear hw w0
    go_wp2_with fail
    refine (disk_Trip w4 w.heap.size g w.heap.size wv3 (newD N) 1 HG4.out.disk (by omega)).mono ?_
    rw [HZ.out.1]
    rintro e w5 ⟨rfl, hd5, hm5⟩
    have HG5 : Hid (Lg w5 w.heap.size g w.heap.size wv3 (tripD (newD N) 1) gl gc b m 0 [] uv3 0 0 L3 rv3) := HG4.out.mv hm5 hd5.out
    have HB5 : Hid (Below w.heap.size w w5) := HB4.out.trans hm5.low
    clear hd5 hm5
    go_wp2_with fail
    refine (disk_Sync w5 w.heap.size g w.heap.size wv3 (tripD (newD N) 1) HG5.out.disk).mono ?_
    rw [HZ.out.2.1, ← HD2.out]
    rintro e w6 ⟨rfl, hd6, hm6⟩
    obtain ⟨wv6, hd6⟩ := hd6.out
    have HG6 : Hid (Lg w6 w.heap.size g w.heap.size wv6 D2 gl gc b m 0 [] uv3 0 0 L3 rv3) := HG5.out.mv hm6 hd6
    have HB6 : Hid (Below w.heap.size w w6) := HB5.out.trans hm6.low
    clear hd6 hm6
    go_wp2_with fail
    refine (evl_Open_down w6 w.heap.size g w.heap.size wv6 D2 (b : Int) (m : Int) HG6.out.disk HZ.out.2.2.1).mono ?_
    rintro e w0 ⟨rfl, hw⟩
    rw [hw]
    clear hw w0
    go_wp2_with fail
    refine (law_live11 w6).mono ?_
    rintro e w7 ⟨rfl, hb7⟩
    have HG7 : Hid (Lg w7 w.heap.size g w.heap.size wv6 D2 gl gc b m D2.age [] uv3 0 0 L3 rv3) := by (show Lg _ _ _ _ _ _ _ _ _ _ _ _ _ _ _ _ _); rw [HZ.out.2.2.2.1]; exact HG6.out.below hb7
    have HB7 : Hid (Below w.heap.size w w7) := HB6.out.trans (hb7.mono HB6.out.size)
    clear hb7
    obtain ⟨au, cu, hv⟩ := HG7.out.used.val
    have hv' : uv3 = .slice au 0 cu := hv
    subst hv'
    clear hv
    go_wp2_with fail
    refine (evl_High w7 gl g gc b m D2.age 0 0 (.slice au 0 cu) rv3 HG7.out.log).mono ?_
    rintro e w0 ⟨rfl, hw⟩
    rw [hw]
    clear hw w0
    go_wp2_with fail
    refine (evl_Rel w7 gl g gc b m D2.age 0 0 (.slice au 0 cu) rv3 HG7.out.log).mono ?_
    rintro e w0 ⟨rfl, hw⟩
    rw [hw]
    clear hw w0
    go_wp2_with fail
    refine (evl_Used w7 gl g gc b m D2.age 0 0 au 0 cu rv3 HG7.out.log).mono ?_
    rintro e w0 ⟨rfl, hw⟩
    rw [hw]
    clear hw w0
    go_wp2_with fail
    refine (evl_Sync w7 w.heap.size g w.heap.size wv6 D2 gl gc b m [] (.slice au 0 cu) 0 0 L3 rv3 HG7.out).mono ?_
    rw [HZ.out.2.2.2.2]
    rintro e w8 ⟨rfl, _, hb8⟩
    have HB8 : Hid (Below w.heap.size w w8) := HB7.out.trans hb8
    clear hb8
    go_wp2
    go_ret
    exact ⟨rfl, HB8.out⟩
  · have HOA := evl_Open_arg w2 w.heap.size g w.heap.size (.slice none 0 0) (newD N) at_ many HDk2.out rfl (by rw [HLN.out]; exact hmay)
    have HRA := ref_Open11_arg w2 w1.heap.size r g sv (.slice none 0 0) SV [] (newD N) at_ many HR2.out rfl (by rw [HLN.out]; exact hmay)
    clear hmay
    go_wp2_with fail
    refine HOA.mono ?_
    rintro e w0 ⟨rfl, hw⟩
    rw [hw]
    clear hw w0 HOA
    go_wp2_with fail
    refine HRA.mono ?_
    rintro e w0 ⟨rfl, hw⟩
    rw [hw]
    clear hw w0 HRA
    go_wp2_with fail
    refine (disk_Waits w2 _ g _ _ _ HDk2.out).mono ?_
    rw [show (((newD N).waits.length : Nat) : Int) = 0 from rfl]
    rintro e w0 ⟨rfl, hw⟩
    rw [hw]
    clear hw w0
    go_wp2_with fail
    refine (disk_Trip w2 w.heap.size g w.heap.size _ (newD N) 1 HDk2.out (by omega)).mono ?_
    rw [HZ.out.1]
    rintro e w5 ⟨rfl, hd5, hm5⟩
    have HD5 : Hid (Disk w5 w.heap.size g w.heap.size (.slice none 0 0) (tripD (newD N) 1)) := hd5.out
    have HB5 : Hid (Below w.heap.size w w5) := HB2.out.trans hm5.low
    clear hd5 hm5
    go_wp2_with fail
    refine (disk_Sync w5 w.heap.size g w.heap.size _ (tripD (newD N) 1) HD5.out).mono ?_
    rw [HZ.out.2.1, ← HD2.out]
    rintro e w6 ⟨rfl, hd6, hm6⟩
    obtain ⟨wv6, hd6⟩ := hd6.out
    have HD6 : Hid (Disk w6 w.heap.size g w.heap.size wv6 D2) := hd6
    have HB6 : Hid (Below w.heap.size w w6) := HB5.out.trans hm6.low
    clear hd6 hm6
    go_wp2_with fail
    refine (evl_Open_down w6 w.heap.size g w.heap.size wv6 D2 at_ many HD6.out HZ.out.2.2.1).mono ?_
    rintro e w0 ⟨rfl, hw⟩
    rw [hw]
    clear hw w0
    go_wp2_with fail
    refine (law_live11 w6).mono ?_
    rintro e w7 ⟨rfl, hb7⟩
    have HB7 : Hid (Below w.heap.size w w7) := HB6.out.trans (hb7.mono HB6.out.size)
    clear hb7
    go_wp2
    go_ret
    exact ⟨rfl, HB7.out⟩

set_option maxRecDepth 100000 in
theorem contract (H : Type) (enc : TypeId × Value → H) (W : World) (base : Nat) (args : Array Value) (ds gs : List (DataW H)) (before : List MemPlace)
    (hval : ∀ (j : Nat) t v, Try.f3.params[j]? = some t → args[j]? = some v → Value.okWide Try.prog W .any base t v)
    (hW : DataW.Whole enc Try.prog Try.f3.params.toList Rows.evlogOpensSpec.vars false W args.toList ds gs before) :
    Calls Try.prog 3 args W fun e W' => ∃ v, e = .returned v ∧ Rows.evlogOpensSpec.post enc Try.prog Try.f3 false true false false W args v W' := by
  have hW' := hW
  obtain ⟨p, q, hA0, hV, rfl, hfz, hnd⟩ := hW
  have hA : DataW.TrodAll enc Try.prog W 0 (fun _ => true) true Try.f3.params.toList args.toList ds p := hA0
  have hK := hA
  rw [Try.params3] at hA hval
  obtain ⟨v0, vs0, d0, ds0, p0, q0, hargs, rfl, rfl, h0, r0⟩ := trodAll_cons hA
  obtain ⟨v1, vs1, d1, ds1, p1, q1, rfl, rfl, rfl, h1, r1⟩ := trodAll_cons r0
  obtain ⟨v2, vs2, d2, ds2, p2, q2, rfl, rfl, rfl, h2, r2⟩ := trodAll_cons r1
  obtain ⟨rfl, rfl, rfl⟩ := trodAll_nil r2
  obtain rfl : args = #[v0, v1, v2] := by cases args; simp_all
  obtain ⟨rfl, rfl⟩ := trodVars_none hV
  obtain ⟨x0, rfl, rfl, rfl, w0⟩ := open_int Try.underlying3 (hval 0 3 v0 rfl rfl) h0
  have b0 : (-9223372036854775808 : Int) ≤ x0 ∧ x0 ≤ 9223372036854775807 := by simpa [Lit.wf, IntKind.min, IntKind.max, IntKind.signed, IntKind.bits] using w0
  obtain ⟨x1, rfl, rfl, rfl, w1⟩ := open_int Try.underlying3 (hval 1 3 v1 rfl rfl) h1
  have b1 : (-9223372036854775808 : Int) ≤ x1 ∧ x1 ≤ 9223372036854775807 := by simpa [Lit.wf, IntKind.min, IntKind.max, IntKind.signed, IntKind.bits] using w1
  obtain ⟨x2, rfl, rfl, rfl, w2⟩ := open_int Try.underlying3 (hval 2 3 v2 rfl rfl) h2
  have b2 : (-9223372036854775808 : Int) ≤ x2 ∧ x2 ≤ 9223372036854775807 := by simpa [Lit.wf, IntKind.min, IntKind.max, IntKind.signed, IntKind.bits] using w2
  refine (walk x0 x1 x2 W).mono fun e W' ⟨he, bel⟩ => ?_
  subst he
  exact ⟨_, rfl, _, _, _, [], _, [], hW', trodAll_mk1 (shut_bool Try.underlying4 _), trodAll_below laidOut bel _ _ _ _ (by kernel_rfl) hK, rfl, bel.frame _, fun h => by cases h⟩

set_option maxRecDepth 100000 in
theorem lifted (os : Os) (started : os.Started) (H : Type) (enc : TypeId × Value → H) :
    ReturnsInHanded {} Try.checked os 3 .any (Rows.evlogOpensSpec.pre6 enc Try.prog Try.f3 Rows.evlogOpensRow.domain false) (Rows.evlogOpensSpec.post enc Try.prog Try.f3 false true false false) := by
  refine returnsInHanded_of_change (C := Try.checked) own started (by kernel_rfl) Try.func3
    (ChangeSpec.witness6 (enc := enc) (C := Try.checked) false ⟨#[], #[.int .i64 0, .int .i64 0, .int .i64 0], []⟩ 8 (by kernel_rfl) (by kernel_rfl) (by kernel_rfl) (by kernel_rfl)) ?_
  intro W base args ds gs before hval hW _ _
  exact contract H enc W base args ds gs before hval hW

theorem said : Rows.EvlogOpensSaid :=
  OpenClaim.holds_of_wide 3 Try.f3 rfl rfl rfl rfl rfl rfl rfl ⟨rfl, rfl, rfl, rfl, rfl⟩ rfl rfl rfl rfl rfl (by kernel_rfl) Try.func3 (by kernel_rfl)
    (of_decide_eq_true (by kernel_rfl)) (by unfold Func.isWrapper; first | (rw [if_pos (by decide +kernel)]; kernel_rfl) | (rw [if_neg (by decide +kernel)]; exact ⟨rfl, rfl⟩))
    (fun os started H enc _ => lifted os started H enc)
end evlogOpens

theorem evlogOpens_holds : Rows.EvlogOpensSaid := evlogOpens.said
end Go.Proofs.Ytghajmcohdedlaa

