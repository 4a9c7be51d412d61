/- Proved: for every number, text, parts and cut grapevinelaw02.OctetCuts answers true and leaves its arguments as they were. -/
import Derived.Test.YtbhljlafijdodabCutM
import Derived.Test.YtbhljlafijdodabInts
import Derived.Test.YtbhljlafijdodabKeys
namespace Go.Proofs.Ytbhljlafijdodab
open Go.ChangeShapes Go.WideShapes Go.ChangeAt Go.RowKit Go.Joins
open Go.ChangeMaps (open_string shut_string)

theorem Own.capOk {w : World} {base : Nat} {a : Option Addr} {len cap : Nat} {bs : List Nat} (h : Own w base a len cap bs) : len ≤ cap := by
  rcases h.row.2 with ⟨hv, h0⟩ | ⟨g, c, cur, hv, _, _, hlc, _⟩
  · omega
  · simp only [Value.slice.injEq] at hv
    omega
theorem Own.sub {w : World} {base g len cap : Nat} {bs : List Nat} (h : Own w base (Option.some ⟨g, 0, none⟩) len cap bs) (p n : Nat) (hp : p + n ≤ len) : Rd w (Option.some ⟨g, p, none⟩) n ((bs.drop p).take n) := by
  have hs := h.size
  refine ⟨by rw [List.length_take, List.length_drop]; omega, fun y hy => h.byte y (List.mem_of_mem_drop (List.mem_of_mem_take hy)), ?_⟩
  by_cases h0 : n = 0
  · exact .inl h0
  · obtain ⟨g', hg, _, hlt⟩ := h.form (by omega)
    simp only [Option.some.injEq, Addr.mk.injEq] at hg
    obtain ⟨rfl, _, _⟩ := hg
    refine .inr ⟨g, p, rfl, hlt, fun i hi => ?_⟩
    rw [h.cell (p + i) (by omega)]
    simp only [List.getD_eq_getElem?_getD, List.getElem?_take_of_lt hi, List.getElem?_drop]

theorem run_max (m : Nat) (hm : 1 ≤ m) (w : World) : (Builtin.max_ #[3, 3] 3 #[.int .i64 1, .int .i64 (m : Int)]).run Try.prog w = .ok (.int .i64 (m : Int)) w := by
  by_cases h : 1 < m
  · simp [Builtin.max_, Builtin.max2, go_sem]
    omega
  · obtain rfl : m = 1 := by omega
    simp [Builtin.max_, Builtin.max2, go_sem]

namespace octetCuts
theorem cellsCut : Try.prog.cellsOf 40 = 2 := by kernel_rfl

/-- Parts and where bytes are cut, opened. -/
theorem open_cut {H : Type} {enc : TypeId × Value → H} {W : World} {base : Nat} {v : Value} {d : DataW H} {p : List MemPlace} (hv : Value.okWide Try.prog W .any base 40 v)
    (h : DataW.Trod enc Try.prog W 0 (fun _ => true) true 40 v d p) :
    ∃ a n cap ps, ∃ K : Nat, v = .agg #[.slice a n cap, .int .u16 (K : Int)] ∧ Parts W a n ps ∧ n ≤ 9223372036854775807 ∧ (∀ p ∈ ps, p.l ≤ 9223372036854775807) ∧ K ≤ 65535 := by
  obtain ⟨u0, u1, y0, y1, m, rfl, rfl, rfl, h0, h1⟩ := open_agg2 Try.underlying40 (by kernel_rfl) cellsCut hv h
  obtain ⟨a, n, cap, hsl⟩ := slice_form Try.underlying22 h0
  have hu0 : u0 = .slice a n cap := by simpa using hsl
  subst hu0
  obtain ⟨ps, hp, hnc, hcm, hpl⟩ := open_parts (W := W) (enc := enc) (a := a) (n := n) (cap := cap) (d := y0.1) (p := y0.2) ⟨m, h0⟩
  obtain ⟨x, hx, _, wx⟩ := DataW.trod_int Try.underlying38 h1
  have bx : (0 : Int) ≤ x ∧ x ≤ 65535 := by simpa [Lit.wf, IntKind.min, IntKind.max, IntKind.signed, IntKind.bits] using wx
  obtain ⟨K, rfl⟩ := Int.eq_ofNat_of_zero_le bx.1
  have hu1 : u1 = .int .u16 (K : Int) := by simpa using hx
  subst hu1
  exact ⟨a, n, cap, ps, K, rfl, hp, by omega, hpl, by omega⟩

set_option maxRecDepth 100000 in
set_option maxHeartbeats 4000000 in
theorem walk (z : Int) (hz : (-9223372036854775808 : Int) ≤ z ∧ z ≤ 9223372036854775807) (s : ByteArray) (hs : s.size ≤ maxLen) (a : Option Addr) (n cap : Nat) (ps : List Pt) (K : Nat) (hK : K ≤ 65535) (w : World)
    (hp : Parts w a n ps) (hn : n ≤ 9223372036854775807) (hpl : ∀ p ∈ ps, p.l ≤ 9223372036854775807) :
    Calls Try.prog 5 #[.int .i64 z, .string s, .agg #[.slice a n cap, .int .u16 (K : Int)]] w fun e w' => e = .returned (.bool true) ∧ Below w.heap.size w w' := by
  have HP : Hid (Parts w a n ps) := hp
  have HPL : Hid (∀ p ∈ ps, p.l ≤ 9223372036854775807) := hpl
  have HZ : Hid ((-9223372036854775808 : Int) ≤ z ∧ z ≤ 9223372036854775807) := hz
  have HA : Hid (Below w.heap.size w (w.alloc (.cells #[.slice a n cap, .int .u16 (K : Int)] 40))) := below_alloc w _
  have hfold := fold_lt hz
  obtain ⟨u, HU⟩ : ∃ u, Hid (u = fold z) := ⟨_, rfl⟩
  rw [← HU.out] at hfold
  have hlu := Leb.leb_length u
  obtain ⟨m1, HM1⟩ : ∃ m1, Hid (m1 = (Leb.leb u).length) := ⟨_, rfl⟩
  rw [← HM1.out] at hlu
  obtain ⟨j1, HJ1⟩ : ∃ j1, Hid (j1 = K % m1) := ⟨_, rfl⟩
  have hj1 : j1 < m1 := by rw [HJ1.out]; exact Nat.mod_lt _ (by omega)
  have ej1 : ((K : Int) % (m1 : Int)) = (j1 : Int) := by rw [HJ1.out]; rfl
  have hmx : ∀ w' : World, (Builtin.max_ #[3, 3] 3 #[.int .i64 1, .int .i64 (m1 : Int)]).run Try.prog w' = .ok (.int .i64 (m1 : Int)) w' := run_max m1 (by omega)
  have gz1 : ((m1 : Int) == 0) = false := by rw [beq_eq_false_iff_ne]; omega
  have HC1 : Hid (Leb.take ((Leb.leb u).take j1) 0 = (0, 0, 3)) := int_cut u hfold j1 (by rw [← HM1.out]; exact hj1)
  obtain ⟨j2, HJ2⟩ : ∃ j2, Hid (j2 = K % 8) := ⟨_, rfl⟩
  have hj2 : j2 < 8 := by rw [HJ2.out]; omega
  have ej2 : ((K : Int) % 8) = (j2 : Int) := by rw [HJ2.out]; rfl
  clear hp hpl hz
  go_enter Try.func5, Try.ntmps5
  go_wp2_with fail
  refine (octet_Int z HZ.out _).mono ?_
  rw [← HU.out, ← HM1.out]
  rintro e w1 ⟨b1, c1, rfl, hn1, ho1, hb1⟩
  obtain ⟨g1, rfl, _, _⟩ := ho1.form (by omega)
  have kb01 : w1.cell? ⟨w.heap.size, 0, none⟩ = some (.slice a n cap) := (hb1.cell (p := ⟨w.heap.size, 0, none⟩) (by simp)).trans (by simp)
  have kb11 : w1.cell? ⟨w.heap.size, 1, none⟩ = some (.int .u16 (K : Int)) := (hb1.cell (p := ⟨w.heap.size, 1, none⟩) (by simp)).trans (by simp)
  have hs1 : w.heap.size < w1.heap.size := Nat.lt_of_lt_of_le (by simp) hb1.size
  have HB1 : Hid (Below w.heap.size w w1) := HA.out.trans (hb1.mono (by simp))
  have HO1 : Hid (Rd w1 (some ⟨g1, 0, none⟩) j1 ((Leb.leb u).take j1)) := by
    have := ho1.sub 0 j1 (by omega)
    rwa [List.drop_zero] at this
  have HCC1 : Hid (m1 ≤ c1) := ho1.capOk
  have y1 : (0 : Int) ≤ (j1 : Int) := by omega
  have y2 : (j1 : Int) ≤ (c1 : Int) := by have := HCC1.out; omega
  have y3 : (0 : Int) ≤ (K : Int) % (m1 : Int) := by rw [ej1]; exact y1
  have y4 : (K : Int) % (m1 : Int) ≤ (c1 : Int) := by rw [ej1]; exact y2
  clear ho1 hb1
  go_wp2_with fail
  refine (octet_TakeInt (some ⟨g1, 0, none⟩) j1 c1 _ 0 w1 HO1.out (by omega) (by omega)).mono ?_
  rw [HC1.out, show toldI (0, 0, 3) = .returned (.tuple #[.int .i64 0, .int .i64 0, .int .i64 3]) from rfl]
  rintro e w2 ⟨rfl, hw2⟩
  subst hw2
  have x1 : (0 : Int) ≤ (j2 : Int) := by omega
  obtain ⟨e8, HE8⟩ : ∃ e8 : Nat, Hid (e8 = 8) := ⟨_, rfl⟩
  have hj8 : j2 < e8 := by rw [HE8.out]; exact hj2
  have x2 : (j2 : Int) ≤ (e8 : Int) := by omega
  have HKEY : Hid (∀ w', Calls Try.prog 16 #[.int .i64 z] w' fun e w'' => ∃ a, e = .returned (.slice (some a) e8 e8) ∧ Own w'' w'.heap.size (some a) e8 e8 (KeyM.key (KeyM.up z)) ∧ Below w'.heap.size w' w'') := by
    intro w'
    rw [HE8.out]
    exact octet_Key z HZ.out w'
  have x3 : (0 : Int) ≤ (K : Int) % 8 := by omega
  have x4 : (K : Int) % 8 ≤ 8 := by omega
  have x5 : Int.tmod (K : Int) 8 = (j2 : Int) := by rw [Int.tmod_eq_emod_of_nonneg (by omega)]; exact ej2
  have x8 : IntKind.i64.wrap (K : Int) = (K : Int) := by simp [IntKind.wrap, IntKind.bits, IntKind.signed]; omega
  have x9 : IntKind.i64.wrap ((K : Int) % 8) = (j2 : Int) := by rw [ej2]; simp [IntKind.wrap, IntKind.bits, IntKind.signed]; omega
  have x10 : IntKind.i64.wrap (Int.tmod (K : Int) 8) = (j2 : Int) := by rw [x5]; simp [IntKind.wrap, IntKind.bits, IntKind.signed]; omega
  have x6 : IntKind.i64.wrap (j2 : Int) = (j2 : Int) := by simp [IntKind.wrap, IntKind.bits, IntKind.signed]; omega
  go_wp2
  go_region_held3 (fun w' => w'.cell? ⟨w.heap.size, 1, none⟩ = some (.int .u16 (K : Int))) (first | exact kb11 | exact kb13 | exact kb14 | fail)
    (first
      | (go_at_call 16; refine (HKEY.out _).mono ?_; rintro e w3 ⟨a3, rfl, ho3, hb3⟩; obtain ⟨g3, hg3, _, _⟩ := ho3.form (by omega); cases hg3; have hb3' : Below w2.heap.size w2 w3 := (Below.refl _ _).drew.trans hb3; have kb03 : w3.cell? ⟨w.heap.size, 0, none⟩ = some (.slice a n cap) := (hb3'.cell (p := ⟨w.heap.size, 0, none⟩) hs1).trans kb01; have kb13 : w3.cell? ⟨w.heap.size, 1, none⟩ = some (.int .u16 (K : Int)) := (hb3'.cell (p := ⟨w.heap.size, 1, none⟩) hs1).trans kb11; have hs3 : w.heap.size < w3.heap.size := Nat.lt_of_lt_of_le hs1 hb3'.size; have HB3 : Hid (Below w.heap.size w w3) := HB1.out.trans (hb3'.mono HB1.out.size); have HO3 : Hid (Rd w3 (some ⟨g3, 0, none⟩) j2 (((KeyM.key (KeyM.up z)).drop 0).take j2)) := ho3.sub 0 j2 (by omega); clear ho3 hb3 hb3')
      | (go_at_call 15; refine (octet_TakeKey (some ⟨g3, 0, none⟩) j2 e8 _ 0 w3 HO3.out (by omega) (by omega) (by omega)).mono ?_; rw [List.drop_zero, key_cut _ _ hj2, show toldK (0, 0, 3) = .returned (.tuple #[.int .i64 0, .int .i64 0, .int .i64 3]) from rfl]; rintro e w4 ⟨rfl, hw4⟩; have kb14 : w4.cell? ⟨w.heap.size, 1, none⟩ = some (.int .u16 (K : Int)) := (by rw [hw4]; exact kb13); subst hw4))
  by_cases hlong : 200 < s.size
  · go_wp2_with fail
    refine (octet_Text_long s hlong hs w4).mono ?_
    rintro e wt ⟨rfl, hwt⟩
    subst hwt
    by_cases hbad : 64 < n ∨ ∃ p ∈ ps, 4096 < p.l
    · have HJ : Hid (Calls Try.prog 6 #[.slice a n cap] wt fun e w' => e = .returned (.tuple #[.slice none 0 0, .int .i64 6]) ∧ w' = wt) := by
        by_cases h64 : 64 < n
        · exact octet_Join_many a n cap _ h64 hn
        · exact octet_Join_long a n cap ps _ (HP.out.below HB3.out) (by omega) HPL.out (hbad.resolve_left h64)
      clear hbad
      go_wp2_with fail
      refine HJ.out.mono ?_
      rintro e wj ⟨rfl, hwj⟩
      subst hwj
      go_wp2
      go_ret
      exact ⟨rfl, HB3.out⟩
    · have h64 : n ≤ 64 := by omega
      have HLN : Hid (∀ p ∈ ps, p.l ≤ 4096) := fun p hp => by
        by_cases h : p.l ≤ 4096
        · exact h
        · exact absurd (.inr ⟨p, hp, by omega⟩) hbad
      clear hbad
      obtain ⟨J, HJD⟩ : ∃ J, Hid (J = JoinM.join (ps.map Pt.dat)) := ⟨_, rfl⟩
      go_wp2_with fail
      refine (octet_Join a n cap ps _ (HP.out.below HB3.out) h64 HLN.out).mono ?_
      rw [← HJD.out]
      rintro e w8 ⟨b8, m8, c8, rfl, hn8, ho8, hm8, hb8⟩
      have HJL : Hid (J.length = m8) := ho8.size
      have hm8' : 1 ≤ m8 := by
        rw [← HJL.out, HJD.out]
        have := Leb.leb_length (ps.map Pt.dat).length
        simp only [JoinM.join, List.length_append]
        omega
      have hm8u : m8 ≤ 270000 := by
        have : n * 4106 ≤ 64 * 4106 := Nat.mul_le_mul_right _ h64
        omega
      obtain ⟨g8, rfl, _, _⟩ := ho8.form (by omega)
      have kb08 : w8.cell? ⟨w.heap.size, 0, none⟩ = some (.slice a n cap) := (hb8.cell (p := ⟨w.heap.size, 0, none⟩) hs3).trans kb03
      have kb18 : w8.cell? ⟨w.heap.size, 1, none⟩ = some (.int .u16 (K : Int)) := (hb8.cell (p := ⟨w.heap.size, 1, none⟩) hs3).trans kb13
      have hs8 : w.heap.size < w8.heap.size := Nat.lt_of_lt_of_le hs3 hb8.size
      have HB8 : Hid (Below w.heap.size w w8) := HB3.out.trans (hb8.mono (Nat.le_of_lt hs3))
      obtain ⟨j8, HJ8⟩ : ∃ j8, Hid (j8 = K % m8) := ⟨_, rfl⟩
      have hj8 : j8 < m8 := by rw [HJ8.out]; exact Nat.mod_lt _ (by omega)
      have ej8 : ((K : Int) % (m8 : Int)) = (j8 : Int) := by rw [HJ8.out]; rfl
      have gz8 : ((m8 : Int) == 0) = false := by rw [beq_eq_false_iff_ne]; omega
      have gp8 : (0 : Int) < (m8 : Int) := by omega
      have HO8 : Hid (Rd w8 (some ⟨g8, 0, none⟩) j8 (J.take j8)) := by
        have := ho8.sub 0 j8 (by omega)
        rwa [List.drop_zero] at this
      have HC8 : Hid (m8 ≤ c8) := ho8.capOk
      have HCUT : Hid (Leb.take (J.take j8) 0 = (0, 0, 3) ∨ (Leb.take (J.take j8) 0 = (n, (Leb.leb n).length, 0) ∧ JoinM.takes (J.take j8) n (Leb.leb n).length = ([], 0, 3))) := by
        have h := JoinM.join_cut (ps.map Pt.dat) j8 (by rw [List.length_map, HP.out.size]; exact h64) (fun b hb => by
          obtain ⟨p, hp2, rfl⟩ := List.mem_map.1 hb
          show p.bs.length ≤ 4096
          rw [(HP.out.body p hp2).1.size]
          exact HLN.out p hp2) (by rw [← HJD.out, HJL.out]; exact hj8)
        rw [← HJD.out, List.length_map, HP.out.size] at h
        exact h
      clear ho8 hm8
      have z1 : (0 : Int) ≤ (j8 : Int) := by omega
      have z2 : (j8 : Int) ≤ (c8 : Int) := by have := HC8.out; omega
      have HTC : Hid (Calls Try.prog 8 #[.slice (some ⟨g8, 0, none⟩) j8 c8, .int .i64 0] w8 fun e w' => e = toldJ 3 ∧ Below w8.heap.size w8 w') := by
        rcases HCUT.out with h | ⟨h, h2⟩
        · refine (octet_TakeJoin_head (some ⟨g8, 0, none⟩) j8 c8 _ 0 w8 HO8.out (by omega) (by omega) 0 0 3 h (.inl (by omega)) (by omega)).mono ?_
          rintro e w9 ⟨he, rfl⟩
          exact ⟨he, Below.refl _ _⟩
        · refine (octet_TakeJoin_body g8 0 j8 c8 _ 0 w8 HO8.out (by have := HC8.out; omega) (by omega) (by omega) n _ h h64).mono ?_
          rintro e w9 ⟨hb9, hor⟩
          refine ⟨?_, hb9⟩
          rcases hor with ⟨f, _, hf, he⟩ | ⟨g, qs, q, hf, _⟩
          · rw [h2] at hf
            simp only [Prod.mk.injEq, true_and] at hf
            rw [he, hf]
          · rw [h2] at hf
            simp at hf
      go_wp2_with fail
      refine HTC.out.mono ?_
      rw [show toldJ 3 = .returned (.tuple #[.slice none 0 0, .int .i64 0, .int .i64 3]) from rfl]
      rintro e w9 ⟨rfl, hb9⟩
      have HB9 : Hid (Below w.heap.size w w9) := HB8.out.trans (hb9.mono HB8.out.size)
      clear hb9
      go_wp2
      go_ret
      exact ⟨rfl, HB9.out⟩
  · have hlt := Leb.leb_length s.size
    obtain ⟨m6, HM6⟩ : ∃ m6, Hid (m6 = (Leb.leb s.size).length + s.size) := ⟨_, rfl⟩
    have hm6 : 1 ≤ m6 ∧ m6 ≤ 210 := by rw [HM6.out]; omega
    obtain ⟨j6, HJ6⟩ : ∃ j6, Hid (j6 = K % m6) := ⟨_, rfl⟩
    have hj6 : j6 < m6 := by rw [HJ6.out]; exact Nat.mod_lt _ (by omega)
    have ej6 : ((K : Int) % (m6 : Int)) = (j6 : Int) := by rw [HJ6.out]; rfl
    have gz6 : ((m6 : Int) == 0) = false := by rw [beq_eq_false_iff_ne]; omega
    have gp6 : (0 : Int) < (m6 : Int) := by omega
    have HCT : Hid (textAt ((Leb.leb s.size ++ bytesOf s).take j6) 0 = ([], 0, 3)) := text_cut s (by omega) j6 (by rw [← HM6.out]; exact hj6)
    go_wp2_with fail
    refine (octet_Text s (by omega) w4).mono ?_
    rw [← HM6.out]
    rintro e w6 ⟨b6, c6, rfl, hn6, ho6, hb6⟩
    obtain ⟨g6, rfl, _, _⟩ := ho6.form (by omega)
    have kb06 : w6.cell? ⟨w.heap.size, 0, none⟩ = some (.slice a n cap) := (hb6.cell (p := ⟨w.heap.size, 0, none⟩) hs3).trans kb03
    have kb16 : w6.cell? ⟨w.heap.size, 1, none⟩ = some (.int .u16 (K : Int)) := (hb6.cell (p := ⟨w.heap.size, 1, none⟩) hs3).trans kb13
    have hs6 : w.heap.size < w6.heap.size := Nat.lt_of_lt_of_le hs3 hb6.size
    have HB6 : Hid (Below w.heap.size w w6) := HB3.out.trans (hb6.mono (Nat.le_of_lt hs3))
    have HO6 : Hid (Rd w6 (some ⟨g6, 0, none⟩) j6 ((Leb.leb s.size ++ bytesOf s).take j6)) := by
      have := ho6.sub 0 j6 (by omega)
      rwa [List.drop_zero] at this
    have HC6 : Hid (m6 ≤ c6) := ho6.capOk
    have q1 : (0 : Int) ≤ (j6 : Int) := by omega
    have q2 : (j6 : Int) ≤ (c6 : Int) := by have := HC6.out; omega
    have q3 : (0 : Int) ≤ (K : Int) % (m6 : Int) := by rw [ej6]; exact q1
    have q4 : (K : Int) % (m6 : Int) ≤ (c6 : Int) := by rw [ej6]; exact q2
    clear ho6 hb6 kb03 kb13
    go_wp2_with fail
    refine (octet_TakeText (some ⟨g6, 0, none⟩) j6 c6 _ 0 w6 HO6.out (by have := HC6.out; omega) (by omega) (by omega)).mono ?_
    rw [HCT.out, show toldT ([], 0, 3) = .returned (.tuple #[.string (str []), .int .i64 0, .int .i64 3]) from rfl]
    rintro e wt ⟨rfl, hwt⟩
    subst hwt
    by_cases hbad : 64 < n ∨ ∃ p ∈ ps, 4096 < p.l
    · have HJ : Hid (Calls Try.prog 6 #[.slice a n cap] wt fun e w' => e = .returned (.tuple #[.slice none 0 0, .int .i64 6]) ∧ w' = wt) := by
        by_cases h64 : 64 < n
        · exact octet_Join_many a n cap _ h64 hn
        · exact octet_Join_long a n cap ps _ (HP.out.below HB6.out) (by omega) HPL.out (hbad.resolve_left h64)
      clear hbad
      go_wp2_with fail
      refine HJ.out.mono ?_
      rintro e wj ⟨rfl, hwj⟩
      subst hwj
      go_wp2
      go_ret
      exact ⟨rfl, HB6.out⟩
    · have h64 : n ≤ 64 := by omega
      have HLN : Hid (∀ p ∈ ps, p.l ≤ 4096) := fun p hp => by
        by_cases h : p.l ≤ 4096
        · exact h
        · exact absurd (.inr ⟨p, hp, by omega⟩) hbad
      clear hbad
      obtain ⟨J, HJD⟩ : ∃ J, Hid (J = JoinM.join (ps.map Pt.dat)) := ⟨_, rfl⟩
      go_wp2_with fail
      refine (octet_Join a n cap ps _ (HP.out.below HB6.out) h64 HLN.out).mono ?_
      rw [← HJD.out]
      rintro e w8 ⟨b8, m8, c8, rfl, hn8, ho8, hm8, hb8⟩
      have HJL : Hid (J.length = m8) := ho8.size
      have hm8' : 1 ≤ m8 := by
        rw [← HJL.out, HJD.out]
        have := Leb.leb_length (ps.map Pt.dat).length
        simp only [JoinM.join, List.length_append]
        omega
      have hm8u : m8 ≤ 270000 := by
        have : n * 4106 ≤ 64 * 4106 := Nat.mul_le_mul_right _ h64
        omega
      obtain ⟨g8, rfl, _, _⟩ := ho8.form (by omega)
      have kb08 : w8.cell? ⟨w.heap.size, 0, none⟩ = some (.slice a n cap) := (hb8.cell (p := ⟨w.heap.size, 0, none⟩) hs6).trans kb06
      have kb18 : w8.cell? ⟨w.heap.size, 1, none⟩ = some (.int .u16 (K : Int)) := (hb8.cell (p := ⟨w.heap.size, 1, none⟩) hs6).trans kb16
      have hs8 : w.heap.size < w8.heap.size := Nat.lt_of_lt_of_le hs6 hb8.size
      have HB8 : Hid (Below w.heap.size w w8) := HB6.out.trans (hb8.mono (Nat.le_of_lt hs6))
      obtain ⟨j8, HJ8⟩ : ∃ j8, Hid (j8 = K % m8) := ⟨_, rfl⟩
      have hj8 : j8 < m8 := by rw [HJ8.out]; exact Nat.mod_lt _ (by omega)
      have ej8 : ((K : Int) % (m8 : Int)) = (j8 : Int) := by rw [HJ8.out]; rfl
      have gz8 : ((m8 : Int) == 0) = false := by rw [beq_eq_false_iff_ne]; omega
      have gp8 : (0 : Int) < (m8 : Int) := by omega
      have HO8 : Hid (Rd w8 (some ⟨g8, 0, none⟩) j8 (J.take j8)) := by
        have := ho8.sub 0 j8 (by omega)
        rwa [List.drop_zero] at this
      have HC8 : Hid (m8 ≤ c8) := ho8.capOk
      have HCUT : Hid (Leb.take (J.take j8) 0 = (0, 0, 3) ∨ (Leb.take (J.take j8) 0 = (n, (Leb.leb n).length, 0) ∧ JoinM.takes (J.take j8) n (Leb.leb n).length = ([], 0, 3))) := by
        have h := JoinM.join_cut (ps.map Pt.dat) j8 (by rw [List.length_map, HP.out.size]; exact h64) (fun b hb => by
          obtain ⟨p, hp2, rfl⟩ := List.mem_map.1 hb
          show p.bs.length ≤ 4096
          rw [(HP.out.body p hp2).1.size]
          exact HLN.out p hp2) (by rw [← HJD.out, HJL.out]; exact hj8)
        rw [← HJD.out, List.length_map, HP.out.size] at h
        exact h
      clear ho8 hm8
      have z1 : (0 : Int) ≤ (j8 : Int) := by omega
      have z2 : (j8 : Int) ≤ (c8 : Int) := by have := HC8.out; omega
      have HTC : Hid (Calls Try.prog 8 #[.slice (some ⟨g8, 0, none⟩) j8 c8, .int .i64 0] w8 fun e w' => e = toldJ 3 ∧ Below w8.heap.size w8 w') := by
        rcases HCUT.out with h | ⟨h, h2⟩
        · refine (octet_TakeJoin_head (some ⟨g8, 0, none⟩) j8 c8 _ 0 w8 HO8.out (by omega) (by omega) 0 0 3 h (.inl (by omega)) (by omega)).mono ?_
          rintro e w9 ⟨he, rfl⟩
          exact ⟨he, Below.refl _ _⟩
        · refine (octet_TakeJoin_body g8 0 j8 c8 _ 0 w8 HO8.out (by have := HC8.out; omega) (by omega) (by omega) n _ h h64).mono ?_
          rintro e w9 ⟨hb9, hor⟩
          refine ⟨?_, hb9⟩
          rcases hor with ⟨f, _, hf, he⟩ | ⟨g, qs, q, hf, _⟩
          · rw [h2] at hf
            simp only [Prod.mk.injEq, true_and] at hf
            rw [he, hf]
          · rw [h2] at hf
            simp at hf
      go_wp2_with fail
      refine HTC.out.mono ?_
      rw [show toldJ 3 = .returned (.tuple #[.slice none 0 0, .int .i64 0, .int .i64 3]) from rfl]
      rintro e w9 ⟨rfl, hb9⟩
      have HB9 : Hid (Below w.heap.size w w9) := HB8.out.trans (hb9.mono HB8.out.size)
      clear hb9
      go_wp2
      go_ret
      exact ⟨rfl, HB9.out⟩

theorem contract (H : Type) (enc : TypeId × Value → H) (W : World) (base : Nat) (args : Array Value) (ds gs : List (DataW H)) (before : List MemPlace)
    (hval : ∀ (j : Nat) t v, Try.f5.params[j]? = some t → args[j]? = some v → Value.okWide Try.prog W .any base t v)
    (hW : DataW.Whole enc Try.prog Try.f5.params.toList Rows.octetCutsSpec.vars false W args.toList ds gs before) :
    Calls Try.prog 5 args W fun e W' => ∃ v, e = .returned v ∧ Rows.octetCutsSpec.post enc Try.prog Try.f5 false true false false W args v W' := by
  have hW' := hW
  obtain ⟨p, q, hA0, hV, rfl, hfz, hnd⟩ := hW
  have hA : DataW.TrodAll enc Try.prog W 0 (fun _ => true) true Try.f5.params.toList args.toList ds p := hA0
  have hK := hA
  rw [Try.params5] at hA hval
  obtain ⟨v0, vs0, d0, ds0, p0, q0, hargs, rfl, rfl, h0, r0⟩ := trodAll_cons hA
  obtain ⟨v1, vs1, d1, ds1, p1, q1, rfl, rfl, rfl, h1, r1⟩ := trodAll_cons r0
  obtain ⟨v2, vs2, d2, ds2, p2, q2, rfl, rfl, rfl, h2, r2⟩ := trodAll_cons r1
  obtain ⟨rfl, rfl, rfl⟩ := trodAll_nil r2
  obtain rfl : args = #[v0, v1, v2] := by cases args; simp_all
  obtain ⟨rfl, rfl⟩ := trodVars_none hV
  obtain ⟨x0, rfl, rfl, rfl, w0⟩ := open_int Try.underlying2 (hval 0 2 v0 rfl rfl) h0
  have b0 : (-9223372036854775808 : Int) ≤ x0 ∧ x0 ≤ 9223372036854775807 := by simpa [Lit.wf, IntKind.min, IntKind.max, IntKind.signed, IntKind.bits] using w0
  obtain ⟨s1, rfl, rfl, rfl, hs1⟩ := open_string Try.underlying9 (hval 1 9 v1 rfl rfl) h1
  obtain ⟨ca, cn, cc, cps, cK, rfl, cpt, cm, cpl, ck⟩ := open_cut (hval 2 40 v2 rfl rfl) h2
  refine (walk x0 b0 s1 hs1 ca cn cc cps cK ck W cpt cm cpl).mono fun e W' ⟨he, bel⟩ => ?_
  subst he
  exact ⟨_, rfl, _, _, _, [], _, [], hW', trodAll_mk1 (shut_bool Try.underlying4 _), trodAll_below laidOut bel _ _ _ _ (by kernel_rfl) hK, rfl, bel.frame _, fun h => by cases h⟩

set_option maxRecDepth 100000 in
theorem lifted (os : Os) (started : os.Started) (H : Type) (enc : TypeId × Value → H) :
    ReturnsInHanded {} Try.checked os 5 .any (Rows.octetCutsSpec.pre6 enc Try.prog Try.f5 Rows.octetCutsRow.domain false) (Rows.octetCutsSpec.post enc Try.prog Try.f5 false true false false) := by
  refine returnsInHanded_of_change (C := Try.checked) own started (by kernel_rfl) Try.func5
    (ChangeSpec.witness6 (enc := enc) (C := Try.checked) false ⟨#[], #[.int .i64 0, .string .empty, .agg #[.slice none 0 0, .int .u16 0]], []⟩ 8 (by kernel_rfl) (by kernel_rfl) (by kernel_rfl) (by kernel_rfl)) ?_
  intro W base args ds gs before hval hW _ _
  exact contract H enc W base args ds gs before hval hW

theorem said : Rows.OctetCutsSaid :=
  OpenClaim.holds_of_wide 5 Try.f5 rfl rfl rfl rfl rfl rfl rfl ⟨rfl, rfl, rfl, rfl, rfl⟩ rfl rfl rfl rfl rfl (by kernel_rfl) Try.func5 (by kernel_rfl)
    (of_decide_eq_true (by kernel_rfl)) (by unfold Func.isWrapper; first | (rw [if_pos (by decide +kernel)]; kernel_rfl) | (rw [if_neg (by decide +kernel)]; exact ⟨rfl, rfl⟩))
    (fun os started H enc _ => lifted os started H enc)
end octetCuts

theorem octetCuts_holds : Rows.OctetCutsSaid := octetCuts.said
end Go.Proofs.Ytbhljlafijdodab

