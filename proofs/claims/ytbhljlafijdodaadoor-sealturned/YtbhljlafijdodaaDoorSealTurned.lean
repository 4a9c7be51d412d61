/- Proved: for every kind, row of bytes, place and change grapevinelaw01.SealTurned answers true and leaves its arguments as they were. Its condition: the package-level table seal.steps holds what its initialiser lays (the card ties that to the program's text). -/
import Derived.Test.YtbhljlafijdodaaDoorSealLives
import Derived.Test.YtbhljlafijdodaaDoorDoor
import Derived.Test.YtbhljlafijdodaaDoorArr
import Derived.BigRegion
import Derived.Lib.SmallJoins
namespace Go.Proofs.YtbhljlafijdodaaDoor
open Go.ChangeShapes Go.WideShapes Go.ChangeAt Go.RowKit Go.Joins
namespace sealTurned

theorem ret_bool {b : Bool} (h : b = true) : Ending.returned (.bool b) = .returned (.bool true) := by rw [h]

theorem array5 {α : Type} {cs : Array α} (h : cs.size = 5) : ∃ c0 c1 c2 c3 c4, cs = #[c0, c1, c2, c3, c4] := by
  obtain ⟨l⟩ := cs
  match l, h with
  | [c0, c1, c2, c3, c4], _ => exact ⟨c0, c1, c2, c3, c4, rfl⟩

theorem cellsTurn : Tryd.prog.cellsOf 41 = 5 := by kernel_rfl
theorem cellsBy : Tryd.prog.cellsOf 39 = 4 := by kernel_rfl
theorem cellsU8 : Tryd.prog.cellsOf 5 = 1 := by kernel_rfl
theorem cellsU16 : Tryd.prog.cellsOf 37 = 1 := by kernel_rfl

/-- A place and how bytes are changed there, opened. -/
theorem open_turn {H : Type} {enc : TypeId × Value → H} {W : World} {base : Nat} {v : Value} {d : DataW H} {p : List MemPlace} (hv : Value.okWide Tryd.prog W .any base 41 v) (h : DataW.Trod enc Tryd.prog W 0 (fun _ => true) true 41 v d p) :
    ∃ n e0 e1 e2 e3 : Nat, n ≤ 65535 ∧ (∀ x ∈ [e0, e1, e2, e3], x < 256) ∧ v = .agg #[.int .u16 (n : Int), .int .u8 (e0 : Int), .int .u8 (e1 : Int), .int .u8 (e2 : Int), .int .u8 (e3 : Int)] := by
  obtain ⟨cs, rfl, hsz⟩ := okWide_struct Tryd.underlying41 hv
  obtain ⟨c0, c1, c2, c3, c4, rfl⟩ := array5 (hsz.trans cellsTurn)
  obtain ⟨fuel, hf⟩ := h
  obtain ⟨y0, y1, n, _, _, h0, h1⟩ := trod_struct2 Tryd.underlying41 hf
  have h0' : DataW.trod enc Tryd.prog W 0 (fun _ => true) true n 37 [c0] = some y0 := by simpa [Value.cells, cellsU16] using h0
  have h1' : DataW.trod enc Tryd.prog W 0 (fun _ => true) true n 39 [c1, c2, c3, c4] = some y1 := by simpa [Value.cells, cellsBy] using h1
  obtain ⟨x, hx, _, wx⟩ := DataW.trod_int Tryd.underlying37 h0'
  obtain ⟨ys, m, _, _, _, hys, hel⟩ := DataW.trod_array Tryd.underlying39 h1'
  have each : ∀ i (c : Value), i < 4 → ([c1, c2, c3, c4].drop i).take 1 = [c] → ∃ z : Nat, c = .int .u8 (z : Int) ∧ z < 256 := by
    intro i c hi hc
    have h2 := hel i hi
    rw [cellsU8, Nat.mul_one, hc, List.getElem?_eq_getElem (by omega)] at h2
    obtain ⟨z, hz, _, wz⟩ := DataW.trod_int Tryd.underlying5 h2
    have bz : (0 : Int) ≤ z ∧ z ≤ 255 := by simpa [Lit.wf, IntKind.min, IntKind.max, IntKind.signed, IntKind.bits] using wz
    obtain ⟨n, rfl⟩ := Int.eq_ofNat_of_zero_le bz.1
    exact ⟨n, by simpa using hz, by omega⟩
  obtain ⟨z0, rfl, b0⟩ := each 0 c1 (by omega) rfl
  obtain ⟨z1, rfl, b1⟩ := each 1 c2 (by omega) rfl
  obtain ⟨z2, rfl, b2⟩ := each 2 c3 (by omega) rfl
  obtain ⟨z3, rfl, b3⟩ := each 3 c4 (by omega) rfl
  have bx : (0 : Int) ≤ x ∧ x ≤ 65535 := by simpa [Lit.wf, IntKind.min, IntKind.max, IntKind.signed, IntKind.bits] using wx
  obtain ⟨u, rfl⟩ := Int.eq_ofNat_of_zero_le bx.1
  have hc0 : c0 = .int .u16 (u : Int) := by simpa using hx
  subst hc0
  refine ⟨u, z0, z1, z2, z3, by omega, ?_, rfl⟩
  intro x hx
  simp only [List.mem_cons, List.not_mem_nil, or_false] at hx
  rcases hx with rfl | rfl | rfl | rfl <;> assumption

set_option maxRecDepth 100000 in
set_option maxHeartbeats 2000000 in
theorem walk (k : Nat) (hk : k < 256) (a : Option Addr) (len cap : Nat) (bs : List Nat) (at_ : Nat) (hat : at_ ≤ 65535) (e0 e1 e2 e3 : Nat) (he : ∀ x ∈ [e0, e1, e2, e3], x < 256) (w : World) (hr : Rd w a len bs) (hl : len ≤ 9223372036854775807) (ht : Tab w) (h0 : 0 < w.heap.size) :
    Calls Tryd.prog 7 #[.int .u8 (k : Int), .slice a len cap, .agg #[.int .u16 (at_ : Int), .int .u8 (e0 : Int), .int .u8 (e1 : Int), .int .u8 (e2 : Int), .int .u8 (e3 : Int)]] w fun e w' => e = .returned (.bool true) ∧ Below w.heap.size w w' := by
  have HT : Hid (Tab w) := ht
  have HR : Hid (Rd w a len bs) := hr
  have HE : Hid (∀ x ∈ [e0, e1, e2, e3], x < 256) := he
  clear ht hr he
  obtain ⟨es, HES⟩ : ∃ es, Hid (es = [e0, e1, e2, e3]) := ⟨_, rfl⟩
  have HEL : Hid (es.length = 4) := by rw [HES.out]; rfl
  have HEB : Hid (∀ x ∈ es, x < 256) := by rw [HES.out]; exact HE.out
  have HBL : Hid (bs.length = len) := HR.out.size
  have HBW : Hid (∀ o o' : Obj, Below w.heap.size w ((w.alloc o).alloc o').drew) := fun o o' => (((Below.refl _ _).alloc (Nat.le_refl _) o).alloc (by simp) o').drew
  by_cases hlong : 4096 < len
  · go_enter Tryd.func7, Tryd.ntmps7
    go_wp2
    go_region
    go_wp2_with fail
    refine (seal_Seal_long k a len cap _ hlong (by omega)).mono ?_
    rintro e w2 ⟨rfl, hw2⟩
    subst hw2
    go_wp2_with fail
    refine (lives_any _ (HT.out.below h0 (HBW.out _ _)) (Nat.lt_of_lt_of_le h0 (HBW.out _ _).size)).mono ?_
    rintro e w4 ⟨rfl, hb4⟩
    have HB4 : Hid (Below w.heap.size w w4) := (HBW.out _ _).trans (hb4.mono (HBW.out _ _).size)
    clear hb4
    go_wp2
    go_ret
    exact ⟨rfl, HB4.out⟩
  · obtain ⟨p, HP⟩ : ∃ p, Hid (p = 4 + at_ % (len + 4)) := ⟨_, rfl⟩
    have ep : 4 + ((at_ : Int) % ((len : Int) + 4)) = (p : Int) := by rw [HP.out]; rfl
    have hp : p < len + 8 := by rw [HP.out]; have := Nat.mod_lt at_ (show 0 < len + 4 by omega); omega
    have hp4 : 4 ≤ p := by rw [HP.out]; omega
    have gz : ((len : Int) + 4 == 0) = false := by rw [beq_eq_false_iff_ne]; omega
    have g8 : ((len : Int) + 8 != 8 + (len : Int)) = false := by rw [bne_eq_false_iff_eq]; omega
    go_enter Tryd.func7, Tryd.ntmps7
    go_wp2
    go_region
    go_wp2_with fail
    refine (seal_Seal k hk a len cap bs _ (HR.out.below (HBW.out _ _)) (by omega) (HT.out.below h0 (HBW.out _ _)) (Nat.lt_of_lt_of_le h0 (HBW.out _ _).size)).mono ?_
    rintro e w2 ⟨g, rfl, ho2, hb2⟩
    have HB2 : Hid (Below w.heap.size w w2) := (HBW.out _ _).trans (hb2.mono (HBW.out _ _).size)
    have hcel : ∀ j, j < 4 → w2.cell? ⟨w.heap.size + 1, j, none⟩ = some (.int .u8 ((es.getD j 0 : Nat) : Int)) := by
      intro j hj
      rw [hb2.cell (p := ⟨w.heap.size + 1, j, none⟩) (by simp), HES.out]
      rcases (show j = 0 ∨ j = 1 ∨ j = 2 ∨ j = 3 by omega) with rfl | rfl | rfl | rfl <;> simp
    have HCEL : Hid (∀ j, j < 4 → w2.cell? ⟨w.heap.size + 1, j, none⟩ = some (.int .u8 ((es.getD j 0 : Nat) : Int))) := hcel
    have HSL : Hid ((SealM.sealed k bs).length = len + 8) := ho2.size
    obtain ⟨g', hg', hgb, hgl⟩ := ho2.form (by omega)
    simp only [Option.some.injEq, Addr.mk.injEq] at hg'
    obtain ⟨hgg, _, _⟩ := hg'
    have hgw : w.heap.size + 2 ≤ g := by
      rw [hgg]
      have : ∀ o o' : Obj, ((w.alloc o).alloc o').drew.heap.size = w.heap.size + 2 := fun o o' => by simp
      rw [this] at hgb
      exact hgb
    have HO1 : Hid (Own w2 (w.heap.size + 2) (some ⟨g, 0, none⟩) (len + 8) (len + 8) (Crc.mixed (SealM.sealed k bs) p (es.take 0))) := by
      show Own _ _ _ _ _ _
      rw [List.take_zero, Crc.mixed_nil _ p (by rw [HSL.out]; omega)]
      have : ∀ o o' : Obj, ((w.alloc o).alloc o').drew.heap.size = w.heap.size + 2 := fun o o' => by simp
      rw [this] at ho2
      exact ho2
    clear ho2 hb2 hcel hgb hgl hgg
    go_wp2
    go_loopw [12, 13] (fun t12 t13 wr => ∃ (j : Nat) (b : Bool), j ≤ 4 ∧ p + j ≤ len + 8 ∧ t13 = .int .i64 (j : Int) ∧ t12 = .bool b ∧ Hid (b = (es.take j).any (fun x => x != 0)) ∧ Hid (Own wr (w.heap.size + 2) (some ⟨g, 0, none⟩) (len + 8) (len + 8) (Crc.mixed (SealM.sealed k bs) p (es.take j))) ∧ Hid (Below (w.heap.size + 2) w2 wr)) (fun _ t13 _ => 4 - (intOf t13).toNat)
    case atStart => exact ⟨0, false, by omega, by omega, rfl, rfl, rfl, HO1, Below.refl _ _⟩
    case round =>
      obtain ⟨j, b, hj, hpj, rfl, rfl, HBB, HO, HB⟩ := hrel
      have hjl : (es.take j).length = j := by rw [List.length_take, HEL.out]; omega
      by_cases hgo : j < 4 ∧ p + j < len + 8
      · obtain ⟨hj4, hpl⟩ := hgo
        obtain ⟨c, HC⟩ : ∃ c, Hid (c = (Crc.mixed (SealM.sealed k bs) p (es.take j)).getD (p + j) 0) := ⟨_, rfl⟩
        obtain ⟨e, HEE⟩ : ∃ e, Hid (e = es.getD j 0) := ⟨_, rfl⟩
        have hcx : wr.cell? ⟨g, p + j, none⟩ = some (.int .u8 (c : Int)) := by rw [HC.out]; exact HO.out.cell (p + j) hpl
        have hex : wr.cell? ⟨w.heap.size + 1, j, none⟩ = some (.int .u8 (e : Int)) := by
          rw [HB.out.cell (p := ⟨w.heap.size + 1, j, none⟩) (by simp), HEE.out]
          exact HCEL.out j hj4
        have hfr : wr.frozen? ⟨g, p + j, none⟩ = false := HO.out.free _
        have hc : c < 256 := by rw [HC.out]; exact getD_lt HO.out.byte _
        have he : e < 256 := by rw [HEE.out]; exact getD_lt HEB.out _
        obtain ⟨z, HZ⟩ : ∃ z, Hid (z = c ^^^ e) := ⟨_, rfl⟩
        have ez : bits BinOp.xor IntKind.u8 (c : Int) (e : Int) = (z : Int) := by rw [HZ.out]; exact u8_xor_nat c e hc he
        have hz8 : z < 256 := by rw [HZ.out]; exact Nat.xor_lt_two_pow (n := 8) hc he
        have g1 : (j : Int) < 4 := by omega
        have g2 : (p : Int) + (j : Int) < (len : Int) + 8 := by omega
        have htk : es.take (j + 1) = es.take j ++ [e] := by rw [HEE.out]; exact take_succ_getD es j (by rw [HEL.out]; exact hj4)
        have HO' : Hid (Own (wr.setCell ⟨g, p + j, none⟩ (.int .u8 (z : Int))).drew (w.heap.size + 2) (some ⟨g, 0, none⟩) (len + 8) (len + 8) (Crc.mixed (SealM.sealed k bs) p (es.take (j + 1)))) := by
          have h1 := (HO.out.set (p + j) z hz8).drew
          have h2 := Crc.mixed_snoc (bs := SealM.sealed k bs) (p := p) (es := es.take j) e (by rw [hjl, HSL.out]; exact hpl)
          rw [hjl, ← HC.out, ← HZ.out] at h2
          show Own _ _ _ _ _ _
          rw [htk, ← h2]
          exact h1
        have HB' : Hid (Below (w.heap.size + 2) w2 (wr.setCell ⟨g, p + j, none⟩ (.int .u8 (z : Int))).drew) := (HB.out.setCell hgw _).drew
        have hex2 : (wr.setCell ⟨g, p + j, none⟩ (.int .u8 (z : Int))).drew.cell? ⟨w.heap.size + 1, j, none⟩ = some (.int .u8 (e : Int)) := by
          rw [HB'.out.cell (p := ⟨w.heap.size + 1, j, none⟩) (by simp), HEE.out]
          exact HCEL.out j hj4
        have HBB' : Hid ((b || (e != 0)) = (es.take (j + 1)).any (fun x => x != 0)) := by
          show _ = _
          rw [htk, List.any_append, ← HBB.out]
          simp
        have HW : Hid ((e != 0) = ((e : Int) != 0)) := by
          show _ = _
          by_cases h : e = 0
          · subst h; rfl
          · rw [bne_iff_ne.2 h, bne_iff_ne.2 (by omega)]
        clear htk hjl
        go_wp2
        go_region
        cases b
        · go_wp2
          go_roundw
          case rel => exact ⟨j + 1, ((e : Int) != 0), by omega, by omega, by go_num, rfl, (by show _ = _; rw [← HW.out, ← HBB'.out]; rfl), HO', HB'⟩
          case measure => simp [intOf]; omega
        · go_wp2
          go_roundw
          case rel => exact ⟨j + 1, true, by omega, by omega, by go_num, rfl, (by show _ = _; rw [← HBB'.out]; rfl), HO', HB'⟩
          case measure => simp [intOf]; omega
      · have HB0 : Hid (Below w.heap.size w wr) := HB2.out.trans (HB.out.mono (by omega))
        have hturn := SealM.opn_turned k bs hk HR.out.byte (by rw [HBL.out]; omega) p (es.take j) (fun x hx => HEB.out x (List.mem_of_mem_take hx)) (by rw [hjl]; exact hj) hp4 (by rw [hjl, HBL.out]; exact hpj)
        obtain ⟨M, HM⟩ : ∃ M, Hid (M = Crc.mixed (SealM.sealed k bs) p (es.take j)) := ⟨_, rfl⟩
        rw [← HM.out] at HO hturn
        obtain ⟨kk, HKK⟩ : ∃ kk, Hid ((M.drop 0).getD 1 0 = kk) := ⟨_, rfl⟩
        obtain ⟨qq, HQQ⟩ : ∃ qq, Hid (SealM.blen (M.drop 0) = qq) := ⟨_, rfl⟩
        have hany : b = false ↔ ∀ x ∈ es.take j, x = 0 := by
          rw [HBB.out, List.any_eq_false]
          constructor
          · intro h x hx
            have := h x hx
            simpa using this
          · intro h x hx
            rw [h x hx]
            decide
        cases b
        · have hopn : SealM.opn M = 0 := hturn.1.2 (hany.1 rfl)
          clear hturn hany hjl HBB
          by_cases hj4 : j < 4
          · have g1 : (j : Int) < 4 := by omega
            have g2 : ¬ (p : Int) + (j : Int) < (len : Int) + 8 := by omega
            clear hgo
            go_wp2_with fail
            refine (seal_Open_good (some ⟨g, 0, none⟩) (len + 8) (len + 8) M 0 wr HO.out.rd (by omega) (by omega) (by omega) (HT.out.below h0 HB0.out) (Nat.lt_of_lt_of_le h0 HB0.out.size) (by rw [List.drop_zero]; exact hopn) kk qq HKK.out HQQ.out _ rfl).mono ?_
            rintro e w3 ⟨g3, rfl, _, hb3⟩
            have HB3 : Hid (Below w.heap.size w w3) := HB0.out.trans (hb3.mono HB0.out.size)
            clear hb3 hopn
            go_wp2_with fail
            have HBA : Hid (Below w.heap.size w (w3.alloc (.cells #[.int .u8 (kk : Int), .int .i64 0, .slice (some ⟨g3, 0, none⟩) qq qq] 29))) := HB3.out.trans ((below_alloc w3 _).mono HB3.out.size)
            refine (lives_any _ (HT.out.below h0 HBA.out) (Nat.lt_of_lt_of_le h0 HBA.out.size)).mono ?_
            rintro e w4 ⟨rfl, hb4⟩
            have HB4 : Hid (Below w.heap.size w w4) := HBA.out.trans (hb4.mono HBA.out.size)
            clear hb4
            go_wp2
            go_ret
            exact ⟨rfl, HB4.out⟩
          · have g1 : ¬ (j : Int) < 4 := by omega
            clear hgo
            go_wp2_with fail
            refine (seal_Open_good (some ⟨g, 0, none⟩) (len + 8) (len + 8) M 0 wr HO.out.rd (by omega) (by omega) (by omega) (HT.out.below h0 HB0.out) (Nat.lt_of_lt_of_le h0 HB0.out.size) (by rw [List.drop_zero]; exact hopn) kk qq HKK.out HQQ.out _ rfl).mono ?_
            rintro e w3 ⟨g3, rfl, _, hb3⟩
            have HB3 : Hid (Below w.heap.size w w3) := HB0.out.trans (hb3.mono HB0.out.size)
            clear hb3 hopn
            go_wp2_with fail
            have HBA : Hid (Below w.heap.size w (w3.alloc (.cells #[.int .u8 (kk : Int), .int .i64 0, .slice (some ⟨g3, 0, none⟩) qq qq] 29))) := HB3.out.trans ((below_alloc w3 _).mono HB3.out.size)
            refine (lives_any _ (HT.out.below h0 HBA.out) (Nat.lt_of_lt_of_le h0 HBA.out.size)).mono ?_
            rintro e w4 ⟨rfl, hb4⟩
            have HB4 : Hid (Below w.heap.size w w4) := HBA.out.trans (hb4.mono HBA.out.size)
            clear hb4
            go_wp2
            go_ret
            exact ⟨rfl, HB4.out⟩
        · have HBAD : Hid (openErr M 0 = 5) := by
            have h := openErr_nat M 0 (Nat.zero_le _)
            show openErr M ((0 : Nat) : Int) = 5
            rw [h, List.drop_zero]
            rcases hturn.2 with h2 | h2
            · have := hany.2 (hturn.1.1 h2)
              cases this
            · exact h2
          clear hturn hany hjl HBB
          by_cases hj4 : j < 4
          · have g1 : (j : Int) < 4 := by omega
            have g2 : ¬ (p : Int) + (j : Int) < (len : Int) + 8 := by omega
            clear hgo
            go_wp2_with fail
            refine (seal_Open_bad (some ⟨g, 0, none⟩) (len + 8) (len + 8) M 0 wr HO.out.rd (by omega) (by omega) (by omega) (HT.out.below h0 HB0.out) (Nat.lt_of_lt_of_le h0 HB0.out.size) 5 HBAD.out (by omega)).mono ?_
            rw [show toldBad 5 = .returned (.tuple #[.agg #[.int .u8 0, .int .i64 0, .slice none 0 0], .int .i64 0, .int .i64 5]) from rfl]
            rintro e w3 ⟨rfl, hb3⟩
            have HB3 : Hid (Below w.heap.size w w3) := HB0.out.trans (hb3.mono HB0.out.size)
            clear hb3
            go_wp2_with fail
            have HBA : Hid (Below w.heap.size w (w3.alloc (.cells #[.int .u8 0, .int .i64 0, .slice none 0 0] 29))) := HB3.out.trans ((below_alloc w3 _).mono HB3.out.size)
            refine (lives_any _ (HT.out.below h0 HBA.out) (Nat.lt_of_lt_of_le h0 HBA.out.size)).mono ?_
            rintro e w4 ⟨rfl, hb4⟩
            have HB4 : Hid (Below w.heap.size w w4) := HBA.out.trans (hb4.mono HBA.out.size)
            clear hb4
            go_wp2
            go_ret
            exact ⟨rfl, HB4.out⟩
          · have g1 : ¬ (j : Int) < 4 := by omega
            clear hgo
            go_wp2_with fail
            refine (seal_Open_bad (some ⟨g, 0, none⟩) (len + 8) (len + 8) M 0 wr HO.out.rd (by omega) (by omega) (by omega) (HT.out.below h0 HB0.out) (Nat.lt_of_lt_of_le h0 HB0.out.size) 5 HBAD.out (by omega)).mono ?_
            rw [show toldBad 5 = .returned (.tuple #[.agg #[.int .u8 0, .int .i64 0, .slice none 0 0], .int .i64 0, .int .i64 5]) from rfl]
            rintro e w3 ⟨rfl, hb3⟩
            have HB3 : Hid (Below w.heap.size w w3) := HB0.out.trans (hb3.mono HB0.out.size)
            clear hb3
            go_wp2_with fail
            have HBA : Hid (Below w.heap.size w (w3.alloc (.cells #[.int .u8 0, .int .i64 0, .slice none 0 0] 29))) := HB3.out.trans ((below_alloc w3 _).mono HB3.out.size)
            refine (lives_any _ (HT.out.below h0 HBA.out) (Nat.lt_of_lt_of_le h0 HBA.out.size)).mono ?_
            rintro e w4 ⟨rfl, hb4⟩
            have HB4 : Hid (Below w.heap.size w w4) := HBA.out.trans (hb4.mono HBA.out.size)
            clear hb4
            go_wp2
            go_ret
            exact ⟨rfl, HB4.out⟩

theorem contract (H : Type) (enc : TypeId × Value → H) (W : World) (base : Nat) (args : Array Value) (ds gs : List (DataW H)) (before : List MemPlace)
    (hval : ∀ (j : Nat) t v, Tryd.f7.params[j]? = some t → args[j]? = some v → Value.okWide Tryd.prog W .any base t v)
    (hW : DataW.Whole enc Tryd.prog Tryd.f7.params.toList Rows.sealTurnedSpec.vars false W args.toList ds gs before) (hL : laidMetH Tryd.prog [("grapevine/seal.steps", Rows.laid_grapevine_seal_steps)] W) :
    Calls Tryd.prog 7 args W fun e W' => ∃ v, e = .returned v ∧ Rows.sealTurnedSpec.post enc Tryd.prog Tryd.f7 false true false false W args v W' := by
  have hW' := hW
  obtain ⟨p, q, hA0, hV, rfl, hfz, hnd⟩ := hW
  have hA : DataW.TrodAll enc Tryd.prog W 0 (fun _ => true) true Tryd.f7.params.toList args.toList ds p := hA0
  have hK := hA
  rw [Tryd.params7] at hA hval
  obtain ⟨v0, vs0, d0, ds0, p0, q0, hargs, rfl, rfl, h0, r0⟩ := trodAll_cons hA
  obtain ⟨v1, vs1, d1, ds1, p1, q1, rfl, rfl, rfl, h1, r1⟩ := trodAll_cons r0
  obtain ⟨v2, vs2, d2, ds2, p2, q2, rfl, rfl, rfl, h2, r2⟩ := trodAll_cons r1
  obtain ⟨rfl, rfl, rfl⟩ := trodAll_nil r2
  obtain rfl : args = #[v0, v1, v2] := by cases args; simp_all
  obtain ⟨rfl, rfl⟩ := trodVars_none hV
  obtain ⟨x0, rfl, rfl, rfl, w0⟩ := open_int Tryd.underlying5 (hval 0 5 v0 rfl rfl) h0
  have b0 : (0 : Int) ≤ x0 ∧ x0 ≤ 255 := by simpa [Lit.wf, IntKind.min, IntKind.max, IntKind.signed, IntKind.bits] using w0
  obtain ⟨n0, rfl⟩ := Int.eq_ofNat_of_zero_le b0.1
  obtain ⟨a1, len1, cap1, rfl⟩ := okWide_slice Tryd.underlying22 (hval 1 22 v1 rfl rfl)
  obtain ⟨bs1, rd1, lc1, cm1, bk1, nc1, fm1⟩ := rd_of h1
  obtain ⟨at_, e0, e1, e2, e3, hat, he, rfl⟩ := open_turn (hval 2 41 v2 rfl rfl) h2
  have ht := table hL
  have hz : 0 < W.heap.size := World.block_lt_of_cell? W _ (ht 0 (by omega))
  refine (walk n0 (by omega) a1 len1 cap1 bs1 at_ hat e0 e1 e2 e3 he W rd1 (by omega) ht hz).mono fun e W' ⟨he, bel⟩ => ?_
  subst he
  exact ⟨_, rfl, _, _, _, [], _, [], hW', trodAll_mk1 (shut_bool Tryd.underlying4 _), trodAll_below laidOut bel _ _ _ _ (by kernel_rfl) hK, rfl, bel.frame _, fun h => by cases h⟩

theorem laid_met (os : Os) : laidMet Tryd.prog Rows.sealTurnedRow.laid ((layTab (World.holding Tryd.prog os ⟨#[], #[], []⟩)).forCall (fun _ _ => 0) ⟨#[], #[.int .u8 0, .slice none 0 0, .agg #[.int .u16 0, .int .u8 0, .int .u8 0, .int .u8 0, .int .u8 0]], []⟩).memory :=
  laidMet_of_run' 8 (by kernel_rfl) (by kernel_rfl)
theorem reads (os : Os) {H : Type} (enc : TypeId × Value → H) : ∃ places, DataW.whole enc Tryd.prog ((layTab (World.holding Tryd.prog os ⟨#[], #[], []⟩)).forCall (fun _ _ => 0) ⟨#[], #[.int .u8 0, .slice none 0 0, .agg #[.int .u16 0, .int .u8 0, .int .u8 0, .int .u8 0, .int .u8 0]], []⟩).memory Tryd.f7.params.toList Rows.sealTurnedSpec.vars false (#[.int .u8 0, .slice none 0 0, .agg #[.int .u16 0, .int .u8 0, .int .u8 0, .int .u8 0, .int .u8 0]] : Array Value).toList 8 = some ([.lit (.int .u8 0), .nil, .agg [.lit (.int .u16 0), .agg [.lit (.int .u8 0), .lit (.int .u8 0), .lit (.int .u8 0), .lit (.int .u8 0)]]], [], places) :=
  ⟨[], by kernel_rfl⟩

set_option maxRecDepth 100000 in
theorem lifted (os : Os) (started : os.Started) (H : Type) (enc : TypeId × Value → H) (F : Stop.Interp) :
    ReturnsInHanded {} Tryd.checked os 7 .any ((OpenSpec.ofChange Rows.sealTurnedSpec).preRow enc Tryd.prog Tryd.f7 Rows.sealTurnedRow.domain false Rows.sealTurnedRow.laid) (((OpenSpec.ofChange Rows.sealTurnedSpec).at F).post enc Tryd.prog Tryd.f7 false true false false) := by
  obtain ⟨places, hx⟩ := reads os enc
  refine returnsInHanded_of_row (C := Tryd.checked) (s := OpenSpec.ofChange Rows.sealTurnedSpec) own started (by kernel_rfl) Tryd.func7
    (witness_row_at (enc := enc) (C := Tryd.checked) false (layTab (World.holding Tryd.prog os ⟨#[], #[], []⟩)) #[.int .u8 0, .slice none 0 0, .agg #[.int .u16 0, .int .u8 0, .int .u8 0, .int .u8 0, .int .u8 0]] rfl (by kernel_rfl) (by kernel_rfl) (by kernel_rfl)
      (OpenSpec.preRow_of_cond 8 hx (by kernel_rfl) (fun k hk => by cases hk) (by kernel_rfl) (laid_met os))) ?_
  intro W base args ds gs before hval hW _ _ _ hL _ _
  exact contract H enc W base args ds gs before hval hW hL

theorem said : Rows.SealTurnedSaid :=
  OpenClaim.holds_of_cond 7 Tryd.f7 rfl rfl rfl rfl rfl rfl rfl ⟨rfl, rfl, rfl, rfl, rfl⟩ rfl rfl rfl rfl rfl (by kernel_rfl) Tryd.func7 (by kernel_rfl)
    (of_decide_eq_true (by kernel_rfl)) (by unfold Func.isWrapper; first | (rw [if_pos (by decide +kernel)]; kernel_rfl) | (rw [if_neg (by decide +kernel)]; exact ⟨rfl, rfl⟩))
    (fun os started H enc _ F => by rw [OpenClaim.pre_eq_preRow]; exact lifted os started H enc F)

theorem plain (f : FuncId) (fn : Func) (hf : Tryd.pinned.checked.prog.funcNamed "grapevine/grapevinelaw01.SealTurned" = some f) (hfn : Tryd.pinned.checked.prog.funcs[f]? = some fn) :
    false = Tryd.pinned.checked.prog.looks [] ∧ ∀ (j : Nat) t, fn.params[j]? = some t → Tryd.pinned.checked.prog.wantsStandIn t = false := by
  obtain rfl : f = 7 := Option.some.inj ((show Tryd.prog.funcNamed "grapevine/grapevinelaw01.SealTurned" = some 7 by kernel_rfl).symm.trans hf) |>.symm
  obtain rfl : fn = Tryd.f7 := (Option.some.inj (Tryd.func7.symm.trans hfn)).symm
  refine ⟨by kernel_rfl, fun j t ht => ?_⟩
  rw [Tryd.params7] at ht
  have hall : ∀ t ∈ (#[5, 22, 41] : Array TypeId), Tryd.prog.wantsStandIn t = false := by
    intro t ht
    simp at ht
    rcases ht with rfl | rfl | rfl
    · exact (show Tryd.prog.wantsStandIn 5 = false by kernel_rfl)
    · exact (show Tryd.prog.wantsStandIn 22 = false by kernel_rfl)
    · exact (show Tryd.prog.wantsStandIn 41 = false by kernel_rfl)
  exact hall t (Array.mem_of_getElem? ht)

theorem card : Rows.SealTurnedCardSaid :=
  Claim7.holds_tied_plain_at .later [] _ _ _ _ said (fun _ h => by cases h) (by kernel_rfl) (fun _ h => by cases h) sealTurned_row_tie rfl ⟨rfl, rfl⟩ (by kernel_rfl) rfl plain (by kernel_rfl)
end sealTurned

theorem sealTurned_holds : Rows.SealTurnedCardSaid := sealTurned.card
end Go.Proofs.YtbhljlafijdodaaDoor

