/- Proved: for every four numbers grapevinelaw02.OctetOrders answers true and leaves its arguments as they were. No condition. -/
import Derived.Test.YtpkhkhoajaobkadKeys
import Derived.Test.YtpkhkhoajaobkadPut
import Derived.Test.YtpkhkhoajaobkadArr
import Derived.Deep.RegionWith
import Derived.Deep.RegionHeld3
namespace Go.Proofs.Ytpkhkhoajaobkad
open Go.ChangeShapes Go.WideShapes Go.ChangeAt Go.RowKit
namespace octetOrders

/-- Rows of as many bytes stand as the numbers that they make. -/
theorem less_be : ∀ (x y : List Nat) (m n : Nat), x.length = y.length → (∀ c ∈ x, c < 256) → (∀ c ∈ y, c < 256) → m = n → Op.bytesLess (x.map fun n => UInt8.ofNat n) (y.map fun n => UInt8.ofNat n) = decide (x.foldl (fun u c => 256 * u + c) m < y.foldl (fun u c => 256 * u + c) n)
  | [], [], m, n, _, _, _, h => by subst h; simp [Op.bytesLess]
  | [], _ :: _, _, _, h, _, _, _ => by simp at h
  | _ :: _, [], _, _, h, _, _, _ => by simp at h
  | c :: x, d :: y, m, n, h, hx, hy, e => by
    subst e
    have hc := hx c (by simp)
    have hd := hy d (by simp)
    have hl : x.length = y.length := by simpa using h
    have hx' : ∀ c ∈ x, c < 256 := fun z hz => hx z (by simp [hz])
    have hy' : ∀ c ∈ y, c < 256 := fun z hz => hy z (by simp [hz])
    have spread : ∀ (l : List Nat) (u : Nat), l.foldl (fun u c => 256 * u + c) u = u * 256 ^ l.length + l.foldl (fun u c => 256 * u + c) 0 := by
      intro l
      induction l with
      | nil => intro u; simp
      | cons z r ih =>
        intro u
        rw [List.foldl_cons, List.foldl_cons, ih (256 * u + z), ih (256 * 0 + z), List.length_cons, Nat.pow_succ, Nat.add_mul, Nat.mul_zero, Nat.zero_add, Nat.mul_comm 256 u, Nat.mul_assoc, Nat.mul_comm 256 (256 ^ r.length)]
        omega
    have lt : ∀ (l : List Nat), (∀ c ∈ l, c < 256) → l.foldl (fun u c => 256 * u + c) 0 < 256 ^ l.length := fun l hl => KeyM.be_lt l hl
    simp only [List.map_cons, Op.bytesLess, List.foldl_cons]
    have ec : (UInt8.ofNat c).toNat = c := by rw [UInt8.toNat_ofNat']; exact Nat.mod_eq_of_lt hc
    have ed : (UInt8.ofNat d).toNat = d := by rw [UInt8.toNat_ofNat']; exact Nat.mod_eq_of_lt hd
    rcases Nat.lt_trichotomy c d with h1 | h1 | h1
    · have t1 : (UInt8.ofNat c < UInt8.ofNat d) = True := by rw [UInt8.lt_iff_toNat_lt, ec, ed]; exact eq_true h1
      have t2 : x.foldl (fun u c => 256 * u + c) (256 * m + c) < y.foldl (fun u c => 256 * u + c) (256 * m + d) := by
        rw [spread x, spread y, hl]
        have := lt x hx'
        rw [hl] at this
        have h3 : (256 * m + c + 1) * 256 ^ y.length ≤ (256 * m + d) * 256 ^ y.length := Nat.mul_le_mul_right _ (by omega)
        rw [Nat.add_mul (256 * m + c) 1, Nat.one_mul] at h3
        omega
      simp [t1, t2]
    · subst h1
      rw [less_be x y (256 * m + c) (256 * m + c) hl hx' hy' rfl]
      have t1 : (UInt8.ofNat c < UInt8.ofNat c) = False := by rw [UInt8.lt_iff_toNat_lt]; simp
      simp only [t1, decide_false, beq_self_eq_true, Bool.true_and, Bool.false_or]
      exact decide_eq_decide.2 Iff.rfl
    · have t1 : (UInt8.ofNat c < UInt8.ofNat d) = False := by rw [UInt8.lt_iff_toNat_lt, ec, ed]; exact eq_false (by omega)
      have t3 : (UInt8.ofNat c == UInt8.ofNat d) = false := by
        rw [beq_eq_false_iff_ne]
        intro he
        have := congrArg UInt8.toNat he
        rw [ec, ed] at this
        omega
      have t2 : ¬ x.foldl (fun u c => 256 * u + c) (256 * m + c) < y.foldl (fun u c => 256 * u + c) (256 * m + d) := by
        rw [spread x, spread y, hl]
        have := lt y hy'
        have h3 : (256 * m + d + 1) * 256 ^ y.length ≤ (256 * m + c) * 256 ^ y.length := Nat.mul_le_mul_right _ (by omega)
        rw [Nat.add_mul (256 * m + d) 1, Nat.one_mul] at h3
        omega
      simp [t1, t2, t3]

theorem str_list (bs : List Nat) : (str bs).toList = bs.map fun n => UInt8.ofNat n := by
  rw [ByteArray.toList_eq]
  simp [str]

theorem keys_less (a b : Int) (ha : (-9223372036854775808 : Int) ≤ a ∧ a ≤ 9223372036854775807) (hb : (-9223372036854775808 : Int) ≤ b ∧ b ≤ 9223372036854775807) :
    Op.bytesLess (str (KeyM.key (KeyM.up a))).toList (str (KeyM.key (KeyM.up b))).toList = decide (a < b) := by
  rw [str_list, str_list, less_be (KeyM.key (KeyM.up a)) (KeyM.key (KeyM.up b)) 0 0 rfl (KeyM.key_byte _) (KeyM.key_byte _) rfl]
  have h1 := KeyM.be_key (KeyM.up a) (by unfold KeyM.up; omega)
  have h2 := KeyM.be_key (KeyM.up b) (by unfold KeyM.up; omega)
  unfold KeyM.be at h1 h2
  rw [h1, h2]
  unfold KeyM.up
  rw [decide_eq_decide]
  omega

theorem keys_same (a b : Int) (ha : (-9223372036854775808 : Int) ≤ a ∧ a ≤ 9223372036854775807) (hb : (-9223372036854775808 : Int) ≤ b ∧ b ≤ 9223372036854775807) :
    ((str (KeyM.key (KeyM.up a))).toList == (str (KeyM.key (KeyM.up b))).toList) = (a == b) := by
  by_cases h : a = b
  · subst h; simp
  · rw [beq_eq_false_iff_ne.2 h, beq_eq_false_iff_ne]
    intro he
    apply h
    have hs : str (KeyM.key (KeyM.up a)) = str (KeyM.key (KeyM.up b)) := by
      apply ByteArray.ext
      apply Array.toList_inj.1
      rw [ByteArray.toList_eq, ByteArray.toList_eq] at he
      exact he
    have hk := str_inj (KeyM.key_byte _) (KeyM.key_byte _) hs
    have := congrArg KeyM.be hk
    rw [KeyM.be_key _ (by unfold KeyM.up; omega), KeyM.be_key _ (by unfold KeyM.up; omega)] at this
    unfold KeyM.up at this
    omega

theorem put_mono : ∀ (j u v : Nat), u ≤ v → (Leb.put j u).length ≤ (Leb.put j v).length
  | 0, _, _, _ => Nat.le_refl _
  | j + 1, u, v, h => by
    by_cases h1 : u < 128
    · rw [Leb.put_small _ _ h1]
      exact (Leb.put_length (j + 1) v).1
    · rw [Leb.put_big j u (by omega), Leb.put_big j v (by omega), List.length_cons, List.length_cons]
      have := put_mono j (u / 128) (v / 128) (by omega)
      omega

set_option maxHeartbeats 2000000 in
theorem walk (a b : Int) (ha : (-9223372036854775808 : Int) ≤ a ∧ a ≤ 9223372036854775807) (hb : (-9223372036854775808 : Int) ≤ b ∧ b ≤ 9223372036854775807) (u v : Nat) (hu : u < 18446744073709551616) (hv : v < 18446744073709551616) (w : World) :
    Calls Try.prog 6 #[.int .i64 a, .int .i64 b, .agg #[.int .u64 (u : Int), .int .u64 (v : Int)]] w fun e w' => e = .returned (.bool true) ∧ Below w.heap.size w w' := by
  have HA : Hid ((-9223372036854775808 : Int) ≤ a ∧ a ≤ 9223372036854775807) := ha
  have HB : Hid ((-9223372036854775808 : Int) ≤ b ∧ b ≤ 9223372036854775807) := hb
  obtain ⟨sa, HSA⟩ : ∃ sa, Hid (sa = str (KeyM.key (KeyM.up a))) := ⟨_, rfl⟩
  obtain ⟨sb, HSB⟩ : ∃ sb, Hid (sb = str (KeyM.key (KeyM.up b))) := ⟨_, rfl⟩
  have E1 : Hid (Op.bytesLess sa.toList sb.toList = decide (a < b)) := by show _ = _; rw [HSA.out, HSB.out]; exact keys_less a b ha hb
  have E2 : Hid ((sa.toList == sb.toList) = (a == b)) := by show _ = _; rw [HSA.out, HSB.out]; exact keys_same a b ha hb
  have E3 : Hid (sa.size = 8) := by show _ = _; rw [HSA.out]; rfl
  obtain ⟨p, HP⟩ : ∃ p, Hid (p = (Leb.leb u).length) := ⟨_, rfl⟩
  obtain ⟨q, HQ⟩ : ∃ q, Hid (q = (Leb.leb v).length) := ⟨_, rfl⟩
  have hpq : u ≤ v → p ≤ q := by rw [HP.out, HQ.out]; exact put_mono 9 u v
  have hp10 : p ≤ 10 := by rw [HP.out]; exact (Leb.leb_length u).2
  have hq10 : q ≤ 10 := by rw [HQ.out]; exact (Leb.leb_length v).2
  clear ha hb
  go_enter Try.func6, Try.ntmps6
  go_wp2
  go_region_with (first | (go_at_call_of 17 (Value.int IntKind.i64 a); refine (octet_Key a HA.out _).mono ?_; rintro e w1 ⟨p1, rfl, ho1, hb1⟩; have k1 := conv_rd ho1.rd 8; rw [← HSA.out] at k1; have HR1 : Hid (Rd w1 (some p1) 8 _) := ho1.rd; have HB1 : Hid (Below (w.alloc (.cells #[.int .u64 (u : Int), .int .u64 (v : Int)] 39)).heap.size (w.alloc (.cells #[.int .u64 (u : Int), .int .u64 (v : Int)] 39)) w1) := (Below.refl _ _).drew.trans hb1; clear ho1 hb1) | (go_at_call_of 17 (Value.int IntKind.i64 b); refine (octet_Key b HB.out _).mono ?_; rintro e w2 ⟨p2, rfl, ho2, hb2⟩; have k2 := conv_rd ho2.rd 8; rw [← HSB.out] at k2; have k3 := conv_rd (HR1.out.below hb2) 8; rw [← HSA.out] at k3; have HB2 : Hid (Below (w.alloc (.cells #[.int .u64 (u : Int), .int .u64 (v : Int)] 39)).heap.size (w.alloc (.cells #[.int .u64 (u : Int), .int .u64 (v : Int)] 39)) w2) := HB1.out.trans (hb2.mono HB1.out.size); clear ho2 hb2))
  all_goals
    have d0 : w2.cell? ⟨w.heap.size, 0, none⟩ = some (.int .u64 (u : Int)) := by rw [HB2.out.cell (p := ⟨w.heap.size, 0, none⟩) (by simp)]; simp
    have d1 : w2.cell? ⟨w.heap.size, 1, none⟩ = some (.int .u64 (v : Int)) := by rw [HB2.out.cell (p := ⟨w.heap.size, 1, none⟩) (by simp)]; simp
    have hsz : w.heap.size < w2.heap.size := Nat.lt_of_lt_of_le (by simp) HB2.out.size
    clear k1 k2 k3 HR1 HB1
    go_wp2
    go_region_held3 (fun w' => w'.cell? ⟨w.heap.size, 0, none⟩ = some (.int .u64 (u : Int)) ∧ w'.cell? ⟨w.heap.size, 1, none⟩ = some (.int .u64 (v : Int))) (go_keep)
      (first
        | (go_at_call_of 13 (Value.int IntKind.u64 (u : Int)); refine (octet_Uint u hu _).mono ?_; rw [← HP.out]; rintro e w3 ⟨a3, c3, rfl, _, _, hb3⟩; have k30 := hb3.cell (p := ⟨w.heap.size, 0, none⟩) (by simpa using hsz); have k31 := hb3.cell (p := ⟨w.heap.size, 1, none⟩) (by simpa using hsz); have hsz3 : w.heap.size < w3.heap.size := Nat.lt_of_lt_of_le hsz hb3.size; have HB3 : Hid (Below w.heap.size w w3) := ((below_alloc w _).trans (HB2.out.mono (by simp))).drew.trans (hb3.mono (Nat.le_of_lt hsz)); clear hb3)
        | (go_at_call_of 13 (Value.int IntKind.u64 (v : Int)); refine (octet_Uint v hv _).mono ?_; rw [← HQ.out]; rintro e w4 ⟨a4, c4, rfl, _, _, hb4⟩; have k40 := hb4.cell (p := ⟨w.heap.size, 0, none⟩) hsz3; have k41 := hb4.cell (p := ⟨w.heap.size, 1, none⟩) hsz3; have HB4 : Hid (Below w.heap.size w w4) := HB3.out.trans (hb4.mono (Nat.le_of_lt hsz3)); clear hb4))
    have e1 := E1.out
    have e2 := E2.out
    have e3 := E3.out
    go_wp2
    all_goals go_ret
    all_goals exact ⟨rfl, HB4.out⟩

theorem contract (H : Type) (enc : TypeId × Value → H) (W : World) (base : Nat) (args : Array Value) (ds gs : List (DataW H)) (before : List MemPlace)
    (hval : ∀ (j : Nat) t v, Try.f6.params[j]? = some t → args[j]? = some v → Value.okWide Try.prog W .any base t v)
    (hW : DataW.Whole enc Try.prog Try.f6.params.toList Rows.octetOrdersSpec.vars false W args.toList ds gs before) :
    Calls Try.prog 6 args W fun e W' => ∃ v, e = .returned v ∧ Rows.octetOrdersSpec.post enc Try.prog Try.f6 false true false false W args v W' := by
  have hW' := hW
  obtain ⟨p, q, hA0, hV, rfl, hfz, hnd⟩ := hW
  have hA : DataW.TrodAll enc Try.prog W 0 (fun _ => true) true Try.f6.params.toList args.toList ds p := hA0
  have hK := hA
  rw [Try.params6] at hA hval
  obtain ⟨v0, vs0, d0, ds0, p0, q0, hargs, rfl, rfl, h0, r0⟩ := trodAll_cons hA
  obtain ⟨v1, vs1, d1, ds1, p1, q1, rfl, rfl, rfl, h1, r1⟩ := trodAll_cons r0
  obtain ⟨v2, vs2, d2, ds2, p2, q2, rfl, rfl, rfl, h2, r2⟩ := trodAll_cons r1
  obtain ⟨rfl, rfl, rfl⟩ := trodAll_nil r2
  obtain rfl : args = #[v0, v1, v2] := by cases args; simp_all
  obtain ⟨rfl, rfl⟩ := trodVars_none hV
  obtain ⟨x0, rfl, rfl, rfl, w0⟩ := open_int Try.underlying2 (hval 0 2 v0 rfl rfl) h0
  have b0 : (-9223372036854775808 : Int) ≤ x0 ∧ x0 ≤ 9223372036854775807 := by simpa [Lit.wf, IntKind.min, IntKind.max, IntKind.signed, IntKind.bits] using w0
  obtain ⟨x1, rfl, rfl, rfl, w1⟩ := open_int Try.underlying2 (hval 1 2 v1 rfl rfl) h1
  have b1 : (-9223372036854775808 : Int) ≤ x1 ∧ x1 ≤ 9223372036854775807 := by simpa [Lit.wf, IntKind.min, IntKind.max, IntKind.signed, IntKind.bits] using w1
  obtain ⟨xs, hv2, hl2, w2⟩ := open_arr Try.underlying39 Try.underlying29 (by kernel_rfl) (by kernel_rfl) (hval 2 39 v2 rfl rfl) h2
  obtain ⟨x, y, rfl⟩ := list2 hl2
  have bx : (0 : Int) ≤ x ∧ x ≤ 18446744073709551615 := by simpa [Lit.wf, IntKind.min, IntKind.max, IntKind.signed, IntKind.bits] using w2 x (by simp)
  have bY : (0 : Int) ≤ y ∧ y ≤ 18446744073709551615 := by simpa [Lit.wf, IntKind.min, IntKind.max, IntKind.signed, IntKind.bits] using w2 y (by simp)
  obtain ⟨u, rfl⟩ := Int.eq_ofNat_of_zero_le bx.1
  obtain ⟨v, rfl⟩ := Int.eq_ofNat_of_zero_le bY.1
  have hv2' : v2 = .agg #[.int .u64 (u : Int), .int .u64 (v : Int)] := hv2
  subst hv2'
  refine (walk x0 x1 b0 b1 u v (by omega) (by omega) W).mono fun e W' ⟨he, bel⟩ => ?_
  subst he
  exact ⟨_, rfl, _, _, _, [], _, [], hW', trodAll_mk1 (shut_bool Try.underlying4 _), trodAll_below laidOut bel _ _ _ _ (by kernel_rfl) hK, rfl, bel.frame _, fun h => by cases h⟩

set_option maxRecDepth 100000 in
theorem lifted (os : Os) (started : os.Started) (H : Type) (enc : TypeId × Value → H) :
    ReturnsInHanded {} Try.checked os 6 .any (Rows.octetOrdersSpec.pre6 enc Try.prog Try.f6 Rows.octetOrdersRow.domain false) (Rows.octetOrdersSpec.post enc Try.prog Try.f6 false true false false) := by
  refine returnsInHanded_of_change (C := Try.checked) own started (by kernel_rfl) Try.func6
    (ChangeSpec.witness6 (enc := enc) (C := Try.checked) false ⟨#[], #[.int .i64 0, .int .i64 0, .agg #[.int .u64 0, .int .u64 0]], []⟩ 8 (by kernel_rfl) (by kernel_rfl) (by kernel_rfl) (by kernel_rfl)) ?_
  intro W base args ds gs before hval hW _ _
  exact contract H enc W base args ds gs before hval hW

theorem said : Rows.OctetOrdersSaid :=
  OpenClaim.holds_of_wide 6 Try.f6 rfl rfl rfl rfl rfl rfl rfl ⟨rfl, rfl, rfl, rfl, rfl⟩ rfl rfl rfl rfl rfl (by kernel_rfl) Try.func6 (by kernel_rfl)
    (of_decide_eq_true (by kernel_rfl)) (by unfold Func.isWrapper; first | (rw [if_pos (by decide +kernel)]; kernel_rfl) | (rw [if_neg (by decide +kernel)]; exact ⟨rfl, rfl⟩))
    (fun os started H enc _ => lifted os started H enc)
end octetOrders

theorem octetOrders_holds : Rows.OctetOrdersSaid := octetOrders.said
end Go.Proofs.Ytpkhkhoajaobkad

