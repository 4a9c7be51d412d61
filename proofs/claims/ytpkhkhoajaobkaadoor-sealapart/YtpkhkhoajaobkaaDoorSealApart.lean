/- Proved: for every row of bytes, place and change grapevinelaw01.SealApart answers true and leaves its arguments as they were. Its condition: the package-level table seal.steps holds what its initialiser lays (the card ties that to the program's text). -/
import Derived.Test.YtpkhkhoajaobkaaDoorLive
import Derived.Test.YtpkhkhoajaobkaaDoorCrcApart
import Derived.Test.YtpkhkhoajaobkaaDoorStore
import Derived.Test.YtpkhkhoajaobkaaDoorStep
import Derived.Test.YtpkhkhoajaobkaaDoorDoor
import Derived.Test.YtpkhkhoajaobkaaDoorArr
import Derived.BigRegion
namespace Go.Proofs.YtpkhkhoajaobkaaDoor
open Go.ChangeShapes Go.WideShapes Go.ChangeAt Go.RowKit
namespace sealApart

theorem ret_bool {b : Bool} (h : b = true) : Ending.returned (.bool b) = .returned (.bool true) := by rw [h]

/-- Four bytes that came in. -/
theorem open_by {H : Type} {enc : TypeId × Value → H} {W : World} {base : Nat} {v : Value} {d : DataW H} {p : List MemPlace} (hv : Value.okWide Tryd.prog W .any base 32 v) (h : DataW.Trod enc Tryd.prog W 0 (fun _ => true) true 32 v d p) :
    ∃ e0 e1 e2 e3 : Nat, (∀ x ∈ [e0, e1, e2, e3], x < 256) ∧ v = .agg #[.int .u8 (e0 : Int), .int .u8 (e1 : Int), .int .u8 (e2 : Int), .int .u8 (e3 : Int)] := by
  obtain ⟨xs, hv2, hl2, w2⟩ := open_arr Tryd.underlying32 Tryd.underlying5 (by kernel_rfl) (by kernel_rfl) hv h
  obtain ⟨x0, x1, x2, x3, rfl⟩ := list4 hl2
  have bd : ∀ x ∈ [x0, x1, x2, x3], (0 : Int) ≤ x ∧ x ≤ 255 := fun x hx => by simpa [Lit.wf, IntKind.min, IntKind.max, IntKind.signed, IntKind.bits] using w2 x hx
  obtain ⟨n0, rfl⟩ := Int.eq_ofNat_of_zero_le (bd x0 (by simp)).1
  obtain ⟨n1, rfl⟩ := Int.eq_ofNat_of_zero_le (bd x1 (by simp)).1
  obtain ⟨n2, rfl⟩ := Int.eq_ofNat_of_zero_le (bd x2 (by simp)).1
  obtain ⟨n3, rfl⟩ := Int.eq_ofNat_of_zero_le (bd x3 (by simp)).1
  refine ⟨n0, n1, n2, n3, ?_, hv2⟩
  have b0 := bd (n0 : Int) (by simp)
  have b1 := bd (n1 : Int) (by simp)
  have b2 := bd (n2 : Int) (by simp)
  have b3 := bd (n3 : Int) (by simp)
  intro x hx
  simp only [List.mem_cons, List.not_mem_nil, or_false] at hx
  rcases hx with rfl | rfl | rfl | rfl <;> omega

set_option maxRecDepth 100000 in
set_option maxHeartbeats 2000000 in
theorem walk (a : Option Addr) (len cap : Nat) (bs : List Nat) (at_ : Nat) (hat : at_ ≤ 65535) (e0 e1 e2 e3 : Nat) (he : ∀ x ∈ [e0, e1, e2, e3], x < 256) (w : World) (hr : Rd w a len bs) (hn : a = none → cap = 0) (hl : len ≤ 140737488355324) (ht : Tab w) (h0 : 0 < w.heap.size) :
    Calls Tryd.prog 6 #[.slice a len cap, .int .u16 (at_ : Int), .agg #[.int .u8 (e0 : Int), .int .u8 (e1 : Int), .int .u8 (e2 : Int), .int .u8 (e3 : Int)]] w fun e w' => e = .returned (.bool true) ∧ Below w.heap.size w w' := by
  have HT : Hid (Tab w) := ht
  have HR : Hid (Rd w a len bs) := hr
  have HE : Hid (∀ x ∈ [e0, e1, e2, e3], x < 256) := he
  have HBX : Hid (Below w.heap.size w (w.alloc (.cells #[.int .u8 (e0 : Int), .int .u8 (e1 : Int), .int .u8 (e2 : Int), .int .u8 (e3 : Int)] 32))) := below_alloc w _
  have HL : Hid (bs.length = len) := hr.size
  clear ht hr he
  by_cases hz : len = 0
  · have hz' : ((len : Int) == 0) = true := by rw [beq_iff_eq]; omega
    clear hz
    go_enter Tryd.func6, Tryd.ntmps6
    go_wp2_with fail
    refine (live_any _ (HT.out.below h0 HBX.out) (Nat.lt_of_lt_of_le h0 HBX.out.size)).mono ?_
    rintro e w1 ⟨rfl, hb1⟩
    have HB1 : Hid (Below w.heap.size w w1) := HBX.out.trans (hb1.mono HBX.out.size)
    clear hb1
    go_wp2
    go_ret
    exact ⟨rfl, HB1.out⟩
  · have hz' : ((len : Int) == 0) = false := by rw [beq_eq_false_iff_ne]; omega
    obtain ⟨p, HP⟩ : ∃ p, Hid (p = at_ % len) := ⟨_, rfl⟩
    have ep : ((at_ : Int) % (len : Int)) = (p : Int) := by rw [HP.out]; rfl
    have hp : p < len := by rw [HP.out]; exact Nat.mod_lt _ (by omega)
    go_enter Tryd.func6, Tryd.ntmps6
    go_wp2_with (at_builtin; refine wpList_append_rd (by rfl) (.tmp 15) (.tmp 16) (by rfl) (w.heap.size + 1) (some ⟨w.heap.size + 1, 0, none⟩) 0 0 [] (by rfl) (Own.empty2 w _) a len cap bs (by rfl) (HR.out.below (((Below.refl _ _).alloc (Nat.le_refl _) _).alloc (by simp) _)) hn (by omega) (by simp) ?_; intro a1 c1 w1 hown1 hgrow1 hbel1)
    simp only [Nat.zero_add, List.nil_append] at hown1
    obtain ⟨g, rfl, hg1, hg2⟩ := hown1.form (by omega)
    obtain ⟨es, HES⟩ : ∃ es, Hid (es = [e0, e1, e2, e3]) := ⟨_, rfl⟩
    have HEL : Hid (es.length = 4) := by rw [HES.out]; rfl
    have HEB : Hid (∀ x ∈ es, x < 256) := by rw [HES.out]; exact HE.out
    have HO1 : Hid (Own w1 (w.heap.size + 1) (some ⟨g, 0, none⟩) len c1 (Crc.mixed bs p (es.take 0))) := by
      show Own _ _ _ _ _ _
      rw [List.take_zero, Crc.mixed_nil bs p (by rw [HL.out]; omega)]
      exact hown1
    have HBW : Hid (Below (w.heap.size + 1) (w.alloc (.cells #[.int .u8 (e0 : Int), .int .u8 (e1 : Int), .int .u8 (e2 : Int), .int .u8 (e3 : Int)] 32)) w1) := ((Below.refl _ _).alloc (by simp) _).trans hbel1
    have hwg : w.heap.size < g := by omega
    clear hown1 hgrow1 hbel1 hg1 hg2
    go_loopw [9, 10] (fun t9 t10 wr => ∃ (k : Nat) (b : Bool), k ≤ 4 ∧ p + k ≤ len ∧ t10 = .int .i64 (k : Int) ∧ t9 = .bool b ∧ Hid (b = (es.take k).any (fun x => x != 0)) ∧ Hid (Own wr (w.heap.size + 1) (some ⟨g, 0, none⟩) len c1 (Crc.mixed bs p (es.take k))) ∧ Hid (Below (w.heap.size + 1) (w.alloc (.cells #[.int .u8 (e0 : Int), .int .u8 (e1 : Int), .int .u8 (e2 : Int), .int .u8 (e3 : Int)] 32)) wr)) (fun _ t10 _ => 4 - (intOf t10).toNat)
    case atStart => exact ⟨0, false, by omega, by omega, rfl, rfl, rfl, HO1, HBW⟩
    case round =>
      obtain ⟨k, b, hk, hpk, rfl, rfl, HBB, HO, HB⟩ := hrel
      have hkl : (es.take k).length = k := by rw [List.length_take, HEL.out]; omega
      by_cases hgo : k < 4 ∧ p + k < len
      · obtain ⟨hk4, hpl⟩ := hgo
        obtain ⟨c, HC⟩ : ∃ c, Hid (c = (Crc.mixed bs p (es.take k)).getD (p + k) 0) := ⟨_, rfl⟩
        obtain ⟨e, HEE⟩ : ∃ e, Hid (e = es.getD k 0) := ⟨_, rfl⟩
        have hcx : wr.cell? ⟨g, p + k, none⟩ = some (.int .u8 (c : Int)) := by rw [HC.out]; exact HO.out.cell (p + k) hpl
        have hex : wr.cell? ⟨w.heap.size, k, none⟩ = some (.int .u8 (e : Int)) := by
          rw [HB.out.cell (p := ⟨w.heap.size, k, none⟩) (by simp), HEE.out, HES.out]
          rcases (show k = 0 ∨ k = 1 ∨ k = 2 ∨ k = 3 by omega) with rfl | rfl | rfl | rfl <;> simp
        have hfr : wr.frozen? ⟨g, p + k, none⟩ = false := HO.out.free _
        have hc : c < 256 := by rw [HC.out]; exact getD_lt HO.out.byte _
        have he : e < 256 := by rw [HEE.out]; exact getD_lt HEB.out _
        obtain ⟨z, HZ⟩ : ∃ z, Hid (z = c ^^^ e) := ⟨_, rfl⟩
        have ez : bits BinOp.xor IntKind.u8 (c : Int) (e : Int) = (z : Int) := by rw [HZ.out]; exact u8_xor_nat c e hc he
        have hz8 : z < 256 := by rw [HZ.out]; exact Nat.xor_lt_two_pow (n := 8) hc he
        have g1 : (k : Int) < 4 := by omega
        have g2 : (p : Int) + (k : Int) < (len : Int) := by omega
        have htk : es.take (k + 1) = es.take k ++ [e] := by rw [HEE.out]; exact take_succ_getD es k (by rw [HEL.out]; exact hk4)
        have HO' : Hid (Own (wr.setCell ⟨g, p + k, none⟩ (.int .u8 (z : Int))).drew (w.heap.size + 1) (some ⟨g, 0, none⟩) len c1 (Crc.mixed bs p (es.take (k + 1)))) := by
          have h1 := (HO.out.set (p + k) z hz8).drew
          have h2 := Crc.mixed_snoc (bs := bs) (p := p) (es := es.take k) e (by rw [hkl, HL.out]; exact hpl)
          rw [hkl, ← HC.out, ← HZ.out] at h2
          show Own _ _ _ _ _ _
          rw [htk, ← h2]
          exact h1
        have HB' : Hid (Below (w.heap.size + 1) (w.alloc (.cells #[.int .u8 (e0 : Int), .int .u8 (e1 : Int), .int .u8 (e2 : Int), .int .u8 (e3 : Int)] 32)) (wr.setCell ⟨g, p + k, none⟩ (.int .u8 (z : Int))).drew) := (HB.out.setCell (by show w.heap.size + 1 ≤ g; omega) _).drew
        have hex2 : (wr.setCell ⟨g, p + k, none⟩ (.int .u8 (z : Int))).drew.cell? ⟨w.heap.size, k, none⟩ = some (.int .u8 (e : Int)) := by
          rw [HB'.out.cell (p := ⟨w.heap.size, k, none⟩) (by simp), ← HB.out.cell (p := ⟨w.heap.size, k, none⟩) (by simp)]
          exact hex
        have HBB' : Hid ((b || (e != 0)) = (es.take (k + 1)).any (fun x => x != 0)) := by
          show _ = _
          rw [htk, List.any_append, ← HBB.out]
          simp
        have HW : Hid ((e != 0) = ((e : Int) != 0)) := by
          show _ = _
          by_cases h : e = 0
          · subst h; rfl
          · rw [bne_iff_ne.2 h, bne_iff_ne.2 (by omega)]
        clear htk hkl
        go_wp2
        go_region
        cases b
        · go_wp2
          go_roundw
          case rel => exact ⟨k + 1, ((e : Int) != 0), by omega, by omega, by go_num, rfl, (by show _ = _; rw [← HW.out, ← HBB'.out]; rfl), HO', HB'⟩
          case measure => simp [intOf]; omega
        · go_wp2
          go_roundw
          case rel => exact ⟨k + 1, true, by omega, by omega, by go_num, rfl, (by show _ = _; rw [← HBB'.out]; rfl), HO', HB'⟩
          case measure => simp [intOf]; omega
      · have HB0 : Hid (Below w.heap.size w wr) := (HBX.out.trans (HB.out.mono (by simp)))
        have HD : Hid (((Crc.more 0 (Crc.mixed bs p (es.take k)) : Int) == (Crc.more 0 bs : Int)) = !b) := by
          have h := Crc.apart bs p (es.take k) (fun x hx => HEB.out x (List.mem_of_mem_take hx)) (by rw [hkl]; exact hk) (by rw [hkl, HL.out]; exact hpk) 0
          show _ = _
          rw [HBB.out]
          by_cases hall : ∀ x ∈ es.take k, x = 0
          · have e1 : (es.take k).any (fun x => x != 0) = false := by
              rw [List.any_eq_false]; intro x hx; simp [hall x hx]
            rw [e1, h.2 hall]; simp
          · have e1 : (es.take k).any (fun x => x != 0) = true := by
              rw [List.any_eq_true]
              obtain ⟨x, hx, hne⟩ := Classical.not_forall.1 hall |>.imp fun x h => Classical.not_imp.1 h
              exact ⟨x, hx, by simpa using hne⟩
            have hne : ¬ Crc.more 0 (Crc.mixed bs p (es.take k)) = Crc.more 0 bs := fun hh => hall (h.1 hh)
            rw [e1]
            show _ = false
            rw [beq_eq_false_iff_ne]
            omega
        have HRX : Hid (Rd wr a len bs) := HR.out.below HB0.out
        obtain ⟨mx, HMX⟩ : ∃ mx, Hid (mx = Crc.mixed bs p (es.take k)) := ⟨_, rfl⟩
        rw [← HMX.out] at HD HO
        have hx4 : ¬ ((k : Int) < 4 ∧ (p : Int) + (k : Int) < (len : Int)) := by omega
        by_cases hk4 : k < 4
        · have g2 : ¬ (p : Int) + (k : Int) < (len : Int) := by omega
          clear hgo hx4 hkl
          go_wp2_with fail
          refine (live_any wr (HT.out.below h0 HB0.out) (Nat.lt_of_lt_of_le h0 HB0.out.size)).mono ?_
          rintro e w3 ⟨rfl, hb3⟩
          have HO3 : Hid (Rd w3 (some ⟨g, 0, none⟩) len mx) := HO.out.rd.below hb3
          have HR3 : Hid (Rd w3 a len bs) := HRX.out.below hb3
          have HB3 : Hid (Below w.heap.size w w3) := HB0.out.trans (hb3.mono HB0.out.size)
          clear hb3
          go_wp2_with fail
          refine (seal_Sum (some ⟨g, 0, none⟩) len c1 mx w3 HO3.out (by omega) (HT.out.below h0 HB3.out)).mono ?_
          rintro e w4 ⟨rfl, rfl⟩
          go_wp2_with fail
          refine (seal_Sum a len cap bs w4 HR3.out (by omega) (HT.out.below h0 HB3.out)).mono ?_
          rintro e w5 ⟨rfl, rfl⟩
          have hd := HD.out
          go_wp2
          go_ret
          exact ⟨ret_bool (by cases b <;> rfl), HB3.out⟩
        · clear hgo hx4 hkl
          go_wp2_with fail
          refine (live_any wr (HT.out.below h0 HB0.out) (Nat.lt_of_lt_of_le h0 HB0.out.size)).mono ?_
          rintro e w3 ⟨rfl, hb3⟩
          have HO3 : Hid (Rd w3 (some ⟨g, 0, none⟩) len mx) := HO.out.rd.below hb3
          have HR3 : Hid (Rd w3 a len bs) := HRX.out.below hb3
          have HB3 : Hid (Below w.heap.size w w3) := HB0.out.trans (hb3.mono HB0.out.size)
          clear hb3
          go_wp2_with fail
          refine (seal_Sum (some ⟨g, 0, none⟩) len c1 mx w3 HO3.out (by omega) (HT.out.below h0 HB3.out)).mono ?_
          rintro e w4 ⟨rfl, rfl⟩
          go_wp2_with fail
          refine (seal_Sum a len cap bs w4 HR3.out (by omega) (HT.out.below h0 HB3.out)).mono ?_
          rintro e w5 ⟨rfl, rfl⟩
          have hd := HD.out
          go_wp2
          go_ret
          exact ⟨ret_bool (by cases b <;> rfl), HB3.out⟩

theorem contract (H : Type) (enc : TypeId × Value → H) (W : World) (base : Nat) (args : Array Value) (ds gs : List (DataW H)) (before : List MemPlace)
    (hval : ∀ (j : Nat) t v, Tryd.f6.params[j]? = some t → args[j]? = some v → Value.okWide Tryd.prog W .any base t v)
    (hW : DataW.Whole enc Tryd.prog Tryd.f6.params.toList Rows.sealApartSpec.vars false W args.toList ds gs before) (hL : laidMetH Tryd.prog [("grapevine/seal.steps", Rows.laid_grapevine_seal_steps)] W) (hsz0 : (DataW.weightsEach Tryd.prog (Tryd.f6.params.toList ++ Rows.sealApartSpec.plain.varTypes Tryd.prog) (ds ++ gs)).all (· ≤ reachBytes) = true) :
    Calls Tryd.prog 6 args W fun e W' => ∃ v, e = .returned v ∧ Rows.sealApartSpec.post enc Tryd.prog Tryd.f6 false true false false W args v W' := by
  have hW' := hW
  obtain ⟨p, q, hA0, hV, rfl, hfz, hnd⟩ := hW
  have hA : DataW.TrodAll enc Tryd.prog W 0 (fun _ => true) true Tryd.f6.params.toList args.toList ds p := hA0
  have hK := hA
  have hsz := hsz0
  rw [Tryd.params6] at hA hval hsz
  obtain ⟨v0, vs0, d0, ds0, p0, q0, hargs, rfl, rfl, h0, r0⟩ := trodAll_cons hA
  obtain ⟨v1, vs1, d1, ds1, p1, q1, rfl, rfl, rfl, h1, r1⟩ := trodAll_cons r0
  obtain ⟨v2, vs2, d2, ds2, p2, q2, rfl, rfl, rfl, h2, r2⟩ := trodAll_cons r1
  obtain ⟨rfl, rfl, rfl⟩ := trodAll_nil r2
  obtain rfl : args = #[v0, v1, v2] := by cases args; simp_all
  obtain ⟨rfl, rfl⟩ := trodVars_none hV
  obtain ⟨a0, len0, cap0, rfl⟩ := okWide_slice Tryd.underlying23 (hval 0 23 v0 rfl rfl)
  obtain ⟨bs0, rd0, lc0, cm0, bk0, nc0, fm0⟩ := rd_of h0
  have sz0 := reach_of hsz (j := 0) fm0 rfl rfl
  obtain ⟨x1, rfl, rfl, rfl, w1⟩ := open_int Tryd.underlying31 (hval 1 31 v1 rfl rfl) h1
  have b1 : (0 : Int) ≤ x1 ∧ x1 ≤ 65535 := by simpa [Lit.wf, IntKind.min, IntKind.max, IntKind.signed, IntKind.bits] using w1
  obtain ⟨n1, rfl⟩ := Int.eq_ofNat_of_zero_le b1.1
  obtain ⟨e0, e1, e2, e3, he, hv2⟩ := open_by (hval 2 32 v2 rfl rfl) h2
  subst hv2
  have ht := table hL
  have hz : 0 < W.heap.size := World.block_lt_of_cell? W _ (ht 0 (by omega))
  refine (walk a0 len0 cap0 bs0 n1 (by omega) e0 e1 e2 e3 he W rd0 nc0 (by omega) ht hz).mono fun e W' ⟨he, bel⟩ => ?_
  subst he
  exact ⟨_, rfl, _, _, _, [], _, [], hW', trodAll_mk1 (shut_bool Tryd.underlying4 _), trodAll_below laidOut bel _ _ _ _ (by kernel_rfl) hK, rfl, bel.frame _, fun h => by cases h⟩

theorem laid_met (os : Os) : laidMet Tryd.prog Rows.sealApartRow.laid ((layTab (World.holding Tryd.prog os ⟨#[], #[], []⟩)).forCall (fun _ _ => 0) ⟨#[], #[.slice none 0 0, .int .u16 0, .agg #[.int .u8 0, .int .u8 0, .int .u8 0, .int .u8 0]], []⟩).memory :=
  laidMet_of_run' 8 (by kernel_rfl) (by kernel_rfl)
theorem reads (os : Os) {H : Type} (enc : TypeId × Value → H) : ∃ places, DataW.whole enc Tryd.prog ((layTab (World.holding Tryd.prog os ⟨#[], #[], []⟩)).forCall (fun _ _ => 0) ⟨#[], #[.slice none 0 0, .int .u16 0, .agg #[.int .u8 0, .int .u8 0, .int .u8 0, .int .u8 0]], []⟩).memory Tryd.f6.params.toList Rows.sealApartSpec.vars false (#[.slice none 0 0, .int .u16 0, .agg #[.int .u8 0, .int .u8 0, .int .u8 0, .int .u8 0]] : Array Value).toList 8 = some ([.nil, .lit (.int .u16 0), .agg [.lit (.int .u8 0), .lit (.int .u8 0), .lit (.int .u8 0), .lit (.int .u8 0)]], [], places) :=
  ⟨[], by kernel_rfl⟩

set_option maxRecDepth 100000 in
theorem lifted (os : Os) (started : os.Started) (H : Type) (enc : TypeId × Value → H) (F : Stop.Interp) :
    ReturnsInHanded {} Tryd.checked os 6 .any ((OpenSpec.ofChange Rows.sealApartSpec).preRow enc Tryd.prog Tryd.f6 Rows.sealApartRow.domain false Rows.sealApartRow.laid) (((OpenSpec.ofChange Rows.sealApartSpec).at F).post enc Tryd.prog Tryd.f6 false true false false) := by
  obtain ⟨places, hx⟩ := reads os enc
  refine returnsInHanded_of_row (C := Tryd.checked) (s := OpenSpec.ofChange Rows.sealApartSpec) own started (by kernel_rfl) Tryd.func6
    (witness_row_at (enc := enc) (C := Tryd.checked) false (layTab (World.holding Tryd.prog os ⟨#[], #[], []⟩)) #[.slice none 0 0, .int .u16 0, .agg #[.int .u8 0, .int .u8 0, .int .u8 0, .int .u8 0]] rfl (by kernel_rfl) (by kernel_rfl) (by kernel_rfl)
      (OpenSpec.preRow_of_cond 8 hx (by kernel_rfl) (fun k hk => by cases hk) (by kernel_rfl) (laid_met os))) ?_
  intro W base args ds gs before hval hW _ _ hsz hL _ _
  exact contract H enc W base args ds gs before hval hW hL hsz

theorem said : Rows.SealApartSaid :=
  OpenClaim.holds_of_cond 6 Tryd.f6 rfl rfl rfl rfl rfl rfl rfl ⟨rfl, rfl, rfl, rfl, rfl⟩ rfl rfl rfl rfl rfl (by kernel_rfl) Tryd.func6 (by kernel_rfl)
    (of_decide_eq_true (by kernel_rfl)) (by unfold Func.isWrapper; first | (rw [if_pos (by decide +kernel)]; kernel_rfl) | (rw [if_neg (by decide +kernel)]; exact ⟨rfl, rfl⟩))
    (fun os started H enc _ F => by rw [OpenClaim.pre_eq_preRow]; exact lifted os started H enc F)

theorem plain (f : FuncId) (fn : Func) (hf : Tryd.pinned.checked.prog.funcNamed "grapevine/grapevinelaw01.SealApart" = some f) (hfn : Tryd.pinned.checked.prog.funcs[f]? = some fn) :
    false = Tryd.pinned.checked.prog.looks [] ∧ ∀ (j : Nat) t, fn.params[j]? = some t → Tryd.pinned.checked.prog.wantsStandIn t = false := by
  obtain rfl : f = 6 := Option.some.inj ((show Tryd.prog.funcNamed "grapevine/grapevinelaw01.SealApart" = some 6 by kernel_rfl).symm.trans hf) |>.symm
  obtain rfl : fn = Tryd.f6 := (Option.some.inj (Tryd.func6.symm.trans hfn)).symm
  refine ⟨by kernel_rfl, fun j t ht => ?_⟩
  rw [Tryd.params6] at ht
  have hall : ∀ t ∈ (#[23, 31, 32] : Array TypeId), Tryd.prog.wantsStandIn t = false := by
    intro t ht
    simp at ht
    rcases ht with rfl | rfl | rfl
    · exact (show Tryd.prog.wantsStandIn 23 = false by kernel_rfl)
    · exact (show Tryd.prog.wantsStandIn 31 = false by kernel_rfl)
    · exact (show Tryd.prog.wantsStandIn 32 = false by kernel_rfl)
  exact hall t (Array.mem_of_getElem? ht)

theorem card : Rows.SealApartCardSaid :=
  Claim7.holds_tied_plain_at .later [] _ _ _ _ said (fun _ h => by cases h) (by kernel_rfl) (fun _ h => by cases h) sealApart_row_tie rfl ⟨rfl, rfl⟩ (by kernel_rfl) rfl plain (by kernel_rfl)
end sealApart

theorem sealApart_holds : Rows.SealApartCardSaid := sealApart.card
end Go.Proofs.YtpkhkhoajaobkaaDoor

