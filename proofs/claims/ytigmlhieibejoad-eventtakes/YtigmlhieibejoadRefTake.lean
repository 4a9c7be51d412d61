/- The reference's Take of an event. -/
import Derived.Test.YtigmlhieibejoadEvTakes
import Derived.Test.YtigmlhieibejoadEvRead
import Derived.Test.YtigmlhieibejoadValRefAll
namespace Go.Proofs.Ytigmlhieibejoad
open Go.RowKit

/-- The name of the last one. -/
def prevN (acc : List At) : ByteArray := match acc.getLast? with
  | some q => q.1
  | none => ⟨#[]⟩
theorem prevN_snoc (acc : List At) (q : At) : prevN (acc ++ [q]) = q.1 := by
  unfold prevN
  rw [List.getLast?_concat]
theorem prevN_at {acc : List At} {i : Nat} (h : acc.length = i + 1) : ∃ hi : i < acc.length, (acc[i]).1 = prevN acc := by
  refine ⟨by omega, ?_⟩
  have e : acc.getLast? = acc[i]? := by rw [List.getLast?_eq_getElem?, h, Nat.add_sub_cancel]
  unfold prevN
  rw [e, List.getElem?_eq_getElem (by omega)]

theorem leB_first {s : ByteArray} (h : nameOk s) : leB s ⟨#[]⟩ = false := by
  have h1 := h.1
  have e : s.data.toList ≠ [] := by
    intro he
    have : s.data.toList.length = 0 := by rw [he]; rfl
    rw [Array.length_toList] at this
    have h2 : s.size = s.data.size := rfl
    omega
  have e2 : s.data ≠ #[] := fun h3 => e (by rw [h3])
  simp [leB, Lib.toList_data, Proofs.bytesLess_eq, e2]

theorem results_rev {w : World} {tmps : Array Value} {g : Nat} {t : TypeId} {v0 v1 n f : Value} (h4 : tmps[4]?.getD undef = .pointer (some ⟨g, 0, none⟩)) (h5 : tmps[5]?.getD undef = n) (h6 : tmps[6]?.getD undef = f)
    (k : Blk w g #[v0, v1] t) : (results Try.f6 tmps).run Try.prog w = .ok (.tuple #[.agg #[v0, v1], n, f]) w := by
  have k0 := k.cell 0 rfl
  have k1 := k.cell 1 rfl
  simp [results, Try.results6, go_sem, h4, h5, h6, k0, k1]

set_option maxRecDepth 100000 in
set_option maxHeartbeats 4000000 in
theorem ref_TakeEv (a : Option Addr) (len cap : Nat) (bs : List Nat) (x : Int) (w : World) (hr : Rd w a len bs) (hlc : len ≤ cap) (hl : len ≤ 9223372036854775000) (hx : (-9223372036854775808 : Int) ≤ x ∧ x ≤ 9223372036854775807) (L : List At) (C : List Nat) (K F : Nat) (hS : evAt bs x = ((L, C), K, F)) :
    Calls Try.prog 6 #[.slice a len cap, .int .i64 x] w fun e w' => ∃ va vc, e = .returned (.tuple #[.agg #[va, vc], .int .i64 (K : Int), .int .i64 (F : Int)]) ∧ Ats w' w.heap.size va L ∧ Row w' w.heap.size vc C ∧ Below w.heap.size w w' := by
  have hcx : ∀ (a : Addr) (m : Mode) (W : World) (x y : Nat), (store a (.complex .f64 x y) m).run Try.prog W = stored Try.prog W a (.complex .f64 x y) m := fun a m W x y => run_store _ _ _ _ _ rfl
  have HR : Hid (Rd w a len bs) := hr
  have HX : Hid ((-9223372036854775808 : Int) ≤ x ∧ x ≤ 9223372036854775807) := hx
  have HBL : Hid (bs.length = len) := hr.size
  have hsm := take_small bs x hr.byte
  obtain ⟨n, k, f, hT⟩ : ∃ n k f, Leb.take bs x = (n, k, f) := ⟨_, _, _, rfl⟩
  rw [hT] at hsm
  have HT : Hid (Leb.take bs x = (n, k, f)) := hT
  have HS : Hid (evAt bs x = ((L, C), K, F)) := hS
  have HCC : Hid (∀ W, Below w.heap.size w W → Calls Try.prog 12 #[.slice a len cap, .int .i64 x] W fun e w' => e = .returned (.tuple #[.int .u64 (n : Int), .int .i64 (k : Int), .int .i64 (f : Int)]) ∧ w' = W) := by
    intro W hb
    have h := ref_TakeUint a len cap bs x W (hr.below hb) hl hx
    rw [hT] at h
    exact h
  obtain ⟨i0, hi, hz0, hz1, hz2⟩ := info_parts infoAttr
  clear hr hx hT hS
  by_cases hf : f = 0
  · subst hf
    by_cases h8 : 8 < n
    · have HE : Hid (L = [] ∧ C = [] ∧ K = 0 ∧ F = 6) := by
        have := HS.out
        rw [evAt_err1 (attrsAt_limit HT.out h8) (by decide)] at this
        simp only [Prod.mk.injEq] at this
        exact ⟨this.1.1.symm, this.1.2.symm, this.2.1.symm, this.2.2.symm⟩
      have h8' : (8 : Int) < (n : Int) := by omega
      go_enter Try.func6, Try.ntmps6
      go_wp2_with fail
      refine (HCC.out _ (below_alloc w _)).mono ?_
      rintro e w1 ⟨rfl, rfl⟩
      go_wp2
      go_returns
      obtain ⟨rfl, rfl, rfl, rfl⟩ := HE.out
      exact ⟨_, _, rfl, Ats.nil_ _ _, Row.nil_ _ _, below_alloc w _⟩
    · have hkl : k ≤ len := by
        obtain ⟨_, _, _, h, _, _, _⟩ := Leb.take_once bs x HR.out.byte n k HT.out
        rw [← HBL.out]; exact h
      have h8' : ¬ (8 : Int) < (n : Int) := by omega
      obtain ⟨L1, K1, F1, hG⟩ : ∃ L1 K1 F1, goAt bs n k ⟨#[]⟩ [] = (L1, K1, F1) := ⟨_, _, _, rfl⟩
      have HG : Hid (goAt bs n k ⟨#[]⟩ [] = (L1, K1, F1)) := hG
      have HAT : Hid (attrsAt bs x = (L1, K1, F1)) := by show _ = _; rw [attrsAt_go HT.out h8]; exact hG
      have HERR : Hid (∀ g, g ≠ 0 → (L1, K1, F1) = ([], 0, g) → L = [] ∧ C = [] ∧ K = 0 ∧ F = g) := by
        intro g hg he
        have := HS.out
        rw [evAt_err1 (HAT.out.trans he) hg] at this
        simp only [Prod.mk.injEq] at this
        exact ⟨this.1.1.symm, this.1.2.symm, this.2.1.symm, this.2.2.symm⟩
      clear hsm hG
      obtain ⟨W0, HW0⟩ : ∃ W0, Hid (W0 = (w.alloc (.cells #[.slice none 0 0, .slice none 0 0] 25)).alloc (.cells #[.slice none 0 0, .slice none 0 0] 25)) := ⟨_, rfl⟩
      have HWB : Hid (Below w.heap.size w W0) := by show Below _ _ _; rw [HW0.out]; exact (below_alloc w _).alloc (by simp) _
      have HK0 : Hid (Blk W0 w.heap.size #[.slice none 0 0, .slice none 0 0] 25 ∧ Blk W0 (w.heap.size + 1) #[.slice none 0 0, .slice none 0 0] 25) := by
        show _ ∧ _
        rw [HW0.out]
        refine ⟨(Blk.new w _ _).stay (below_alloc _ _), ?_⟩
        have := Blk.new (w.alloc (.cells #[.slice none 0 0, .slice none 0 0] 25)) #[.slice none 0 0, .slice none 0 0] 25
        simpa using this
      have HSZ0 : Hid (w.heap.size + 2 ≤ W0.heap.size) := by show _ ≤ _; rw [HW0.out]; simp
      go_enter Try.func6, Try.ntmps6
      go_wp2_with fail
      refine (HCC.out _ (below_alloc w _)).mono ?_
      rintro e w1 ⟨rfl, rfl⟩
      go_wp2
      rw [← HW0.out]
      go_loopw [8, 11] (fun t8 t11 wr => ∃ (i m p : Nat) (acc : List At) (va : Value), i + m = n ∧ p ≤ len ∧ acc.length = i ∧ t8 = .int .i64 (p : Int) ∧ t11 = .int .i64 (i : Int) ∧ Hid (Blk wr w.heap.size #[.slice none 0 0, .slice none 0 0] 25) ∧ Hid (Blk wr (w.heap.size + 1) #[va, .slice none 0 0] 25) ∧ Hid (Ats wr (w.heap.size + 2) va acc) ∧ Hid (w.heap.size + 2 ≤ wr.heap.size) ∧ Hid (Below w.heap.size w wr) ∧ Hid (goAt bs m p (prevN acc) acc = (L1, K1, F1))) (fun _ t11 _ => n - (intOf t11).toNat)
      case atStart => exact ⟨0, n, k, [], .slice none 0 0, by omega, hkl, rfl, rfl, rfl, HK0.out.1, HK0.out.2, Ats.nil_ _ _, HSZ0, HWB, HG⟩
      case round =>
        obtain ⟨i, m, p, acc, va, him, hp, hal, rfl, rfl, HKB, HKE, HA, HSZ, HB, HGO⟩ := hrel
        obtain ⟨aa, ac, rfl⟩ := HA.out.form
        by_cases hlt : i < n
        · have hlt' : (i : Int) < (n : Int) := by omega
          obtain ⟨m, rfl⟩ : ∃ m', m = m' + 1 := ⟨m - 1, by omega⟩
          rw [hal] at HKE HA
          obtain ⟨l0, k1, f1, hTX⟩ : ∃ l k f, textAt bs (p : Int) = (l, k, f) := ⟨_, _, _, rfl⟩
          have HTX : Hid (textAt bs (p : Int) = (l0, k1, f1)) := hTX
          obtain ⟨S, HSS⟩ : ∃ S, Hid (str l0 = S) := ⟨_, rfl⟩
          clear hTX
          go_wp2_with fail
          refine (ref_TakeText a len cap bs (p : Int) _ (HR.out.below HB.out) hlc hl (by omega)).mono ?_
          rw [HTX.out, toldT, HSS.out]
          rintro e w2 ⟨rfl, hb2⟩
          have HB2 : Hid (Below w.heap.size w w2) := HB.out.trans (hb2.mono HB.out.size)
          have HKB2 : Hid (Blk w2 w.heap.size #[.slice none 0 0, .slice none 0 0] 25) := HKB.out.stay hb2
          have HKE2 : Hid (Blk w2 (w.heap.size + 1) #[.slice aa i ac, .slice none 0 0] 25) := HKE.out.stay hb2
          have HA2 : Hid (Ats w2 (w.heap.size + 2) (.slice aa i ac) acc) := HA.out.below hb2
          have HSZ2 : Hid (w.heap.size + 2 ≤ w2.heap.size) := Nat.le_trans HSZ.out hb2.size
          clear hb2
          by_cases hf1 : f1 = 0
          · subst hf1
            obtain ⟨hsl, hk1l⟩ := textAt_small HR.out.byte HTX.out
            rw [HBL.out] at hk1l
            have HSM : Hid (S.size ≤ maxLen) := by show _ ≤ _; rw [← HSS.out, strSize]; unfold maxLen; omega
            clear hsl
            go_wp2_with fail
            refine (ref_Name S HSM.out _).mono ?_
            rintro e w2' ⟨⟨b1, rfl, hb1⟩, hw2⟩
            subst hw2
            cases b1 with
            | false =>
              have HE : Hid (L = [] ∧ C = [] ∧ K = 0 ∧ F = 11) := HERR.out 11 (by decide) (by rw [← HGO.out, goAt_err (attrAt_name HTX.out (by rw [HSS.out]; intro h; cases hb1.2 h)) (by decide)])
              clear hb1
              have r0 := HKB2.out.cell 0 rfl
              have r1 := HKB2.out.cell 1 rfl
              have q0 := HKB2.out.free 0
              have q1 := HKB2.out.free 1
              go_wp2
              try simp only [Exit.inBlock, Exit.then]
              refine bodyPost_ret (results_rev (by rfl) (by rfl) (by rfl) (HKB2.out.set2 _ _)) rfl ?_
              obtain ⟨rfl, rfl, rfl, rfl⟩ := HE.out
              exact ⟨_, _, rfl, Ats.nil_ _ _, Row.nil_ _ _, (HB2.out.setCell (Nat.le_refl _) _).setCell (Nat.le_refl _) _⟩

            | true =>
              have HNM : Hid (nameOk (str l0)) := by show nameOk _; rw [HSS.out]; exact hb1.1 rfl
              clear hb1
              have z0 : w2'.cell? ⟨w.heap.size + 1, 0, none⟩ = some (.slice aa i ac) := HKE2.out.cell 0 rfl
              by_cases hi0 : i = 0
              · have HLF : Hid (leB (str l0) (prevN acc) = false) := by
                  show _ = _
                  have : acc = [] := List.length_eq_zero_iff.1 (by omega)
                  rw [this]
                  exact leB_first HNM.out
                have hi0' : ¬ (0 : Int) < (i : Int) := by omega
                clear hi0
                obtain ⟨v, j1, g1, hV⟩ : ∃ v j g, valAt bs (k1 : Int) = (v, j, g) := ⟨_, _, _, rfl⟩
                have HV : Hid (valAt bs (k1 : Int) = (v, j1, g1)) := hV
                clear hV
                go_wp2_with fail
                refine (ref_Take a len cap bs (k1 : Int) _ (HR.out.below HB2.out) hlc hl).mono ?_
                rw [HV.out]
                rintro e w3 ⟨rfl, hb3⟩
                clear hi0'
                obtain ⟨vk, vw, vs, vt, vx, vy⟩ := v
                simp only [toldV, Val.cells]
                have HB3 : Hid (Below w.heap.size w w3) := HB2.out.trans (hb3.mono HB2.out.size)
                have HKB3 : Hid (Blk w3 w.heap.size #[.slice none 0 0, .slice none 0 0] 25) := HKB2.out.stay hb3
                have HKE3 : Hid (Blk w3 (w.heap.size + 1) #[.slice aa i ac, .slice none 0 0] 25) := HKE2.out.stay hb3
                have HA3 : Hid (Ats w3 (w.heap.size + 2) (.slice aa i ac) acc) := HA2.out.below hb3
                have HSZ3 : Hid (w.heap.size + 2 ≤ w3.heap.size) := Nat.le_trans HSZ2.out hb3.size
                clear hb3
                by_cases hg1 : g1 = 0
                · subst hg1
                  have HQ : Hid (attrAt bs p (prevN acc) = ((S, ⟨vk, vw, vs, vt, vx, vy⟩), j1, 0)) := by show _ = _; rw [← HSS.out]; exact attrAt_ok HTX.out HNM.out HLF.out HV.out
                  have HGO' : Hid (goAt bs m j1 (prevN (acc ++ [(S, ⟨vk, vw, vs, vt, vx, vy⟩)])) (acc ++ [(S, ⟨vk, vw, vs, vt, vx, vy⟩)]) = (L1, K1, F1)) := by show _ = _; rw [prevN_snoc, ← goAt_ok HQ.out]; exact HGO.out
                  have hj1 : j1 ≤ len := by
                    obtain ⟨_, _, h6, _⟩ := valAt_once HR.out.byte HV.out
                    rw [HBL.out] at h6
                    exact h6
                  have HA1 : Hid (Below w3.heap.size w3 ((w3.alloc (.cells #[.int .i64 vk, .int .i64 vw, .string vs, .bool vt, .complex .f64 vx vy] 49)).alloc (.cells #[.string S, .int .i64 vk, .int .i64 vw, .string vs, .bool vt, .complex .f64 vx vy] 51))) := ((Below.refl _ _).alloc (Nat.le_refl _) _).alloc (by simp) _
                  have HKA : Hid (Blk (w3.alloc (.cells #[.int .i64 vk, .int .i64 vw, .string vs, .bool vt, .complex .f64 vx vy] 49)) (w.heap.size + 1) #[.slice aa i ac, .slice none 0 0] 25) := HKE3.out.stay (below_alloc w3 _)
                  have r0 : (w3.alloc (.cells #[.int .i64 vk, .int .i64 vw, .string vs, .bool vt, .complex .f64 vx vy] 49)).cell? ⟨w.heap.size + 1, 0, none⟩ = some (.slice aa i ac) := HKA.out.cell 0 rfl
                  clear HGO
                  go_wp2_with (at_builtin; refine wpList_append_own _ (by rfl) (.tmp 83) (.tmp 87) 23 (by rfl) (w.heap.size + 2) 51 i0 (.agg #[.string ⟨#[]⟩, .int .i64 0, .int .i64 0, .string ⟨#[]⟩, .bool false, .complex .f64 0 0]) 6 72 Try.underlying23 hi hz0 hz1 hz2 (by rfl) (by decide) (.slice aa i ac) acc.length (acc.flatMap fun q => q.cells.toList) (by rfl) (HA3.out.below HA1.out).row ⟨w3.heap.size + 1, 0, none⟩ 1 1 (At.cells (S, ⟨vk, vw, vs, vt, vx, vy⟩)).toList (by rfl) (by rfl) ?_ ?_ (by unfold maxLen; omega) (by omega) (Nat.le_trans HSZ3.out HA1.out.size) ?_)
                  · intro j u hj
                    match j with
                    | 0 => simp [At.cells] at hj; subst hj; simp [Addr.add]
                    | 1 => simp [At.cells] at hj; subst hj; simp [Addr.add]
                    | 2 => simp [At.cells] at hj; subst hj; simp [Addr.add]
                    | 3 => simp [At.cells] at hj; subst hj; simp [Addr.add]
                    | 4 => simp [At.cells] at hj; subst hj; simp [Addr.add]
                    | 5 => simp [At.cells] at hj; subst hj; simp [Addr.add]
                    | j + 6 => simp [At.cells] at hj
                  · intro u hu
                    exact At.one _ u (by simpa using hu)
                  intro v' w5 hrow hgrow _
                  have HAT5 : Hid (Ats w5 (w.heap.size + 2) v' (acc ++ [(S, ⟨vk, vw, vs, vt, vx, vy⟩)])) := by rw [← hal] at hrow; exact Ats.snoc _ hrow
                  have hown : ∀ y, y < w.heap.size + 2 → some y ≠ (Value.slice aa i ac).ownBlock := by
                    intro y hy he
                    have := (HA3.out.row.lt y he.symm).1
                    omega
                  have HKB5 : Hid (Blk w5 w.heap.size #[.slice none 0 0, .slice none 0 0] 25) := (HKB3.out.stay HA1.out).grown hgrow (hown _ (by omega))
                  have HKE5 : Hid (Blk w5 (w.heap.size + 1) #[.slice aa i ac, .slice none 0 0] 25) := (HKE3.out.stay HA1.out).grown hgrow (hown _ (by omega))
                  have HB5 : Hid (Below w.heap.size w w5) := (HB3.out.trans (HA1.out.mono HB3.out.size)).trans ((Below.refl _ _).grown hgrow (Nat.le_trans HB3.out.size HA1.out.size) (fun k hk => by have := Ats.at_ (HA3.out.below HA1.out) hk; omega))
                  have HSZ5 : Hid (w.heap.size + 2 ≤ w5.heap.size) := Nat.le_trans (Nat.le_trans HSZ3.out HA1.out.size) hgrow.size
                  obtain ⟨ga, gc, rfl⟩ := HAT5.out.form
                  have y0 := HKE5.out.cell 0 rfl
                  have y1 := HKE5.out.free 0
                  have HKB6 : Hid (Blk (w5.setCell ⟨w.heap.size + 1, 0, none⟩ (.slice ga (acc ++ [((S, ⟨vk, vw, vs, vt, vx, vy⟩) : At)]).length gc)) w.heap.size #[.slice none 0 0, .slice none 0 0] 25) := HKB5.out.other _ _ (by simp)
                  have HKE6 : Hid (Blk (w5.setCell ⟨w.heap.size + 1, 0, none⟩ (.slice ga (acc ++ [((S, ⟨vk, vw, vs, vt, vx, vy⟩) : At)]).length gc)) (w.heap.size + 1) #[.slice ga (acc ++ [((S, ⟨vk, vw, vs, vt, vx, vy⟩) : At)]).length gc, .slice none 0 0] 25) := HKE5.out.set 0 _
                  have HAT6 : Hid (Ats (w5.setCell ⟨w.heap.size + 1, 0, none⟩ (.slice ga (acc ++ [((S, ⟨vk, vw, vs, vt, vx, vy⟩) : At)]).length gc)) (w.heap.size + 2) (.slice ga (acc ++ [((S, ⟨vk, vw, vs, vt, vx, vy⟩) : At)]).length gc) (acc ++ [(S, ⟨vk, vw, vs, vt, vx, vy⟩)])) := HAT5.out.under _ _ (by simp)
                  have HB6 : Hid (Below w.heap.size w (w5.setCell ⟨w.heap.size + 1, 0, none⟩ (.slice ga (acc ++ [((S, ⟨vk, vw, vs, vt, vx, vy⟩) : At)]).length gc))) := HB5.out.setCell (Nat.le_add_right _ 1) _
                  have HSZ6 : Hid (w.heap.size + 2 ≤ (w5.setCell ⟨w.heap.size + 1, 0, none⟩ (.slice ga (acc ++ [((S, ⟨vk, vw, vs, vt, vx, vy⟩) : At)]).length gc)).heap.size) := Nat.le_trans HSZ5.out (by simp [World.setCell])
                  have hln : (acc ++ [((S, ⟨vk, vw, vs, vt, vx, vy⟩) : At)]).length = i + 1 := by simp; omega
                  rw [hln] at HKB6 HKE6 HAT6 HB6 HSZ6
                  clear hrow hgrow hown r0
                  go_wp2
                  go_roundw
                  case rel => exact ⟨i + 1, m, j1, acc ++ [(S, ⟨vk, vw, vs, vt, vx, vy⟩)], _, by omega, hj1, hln, rfl, by go_num, HKB6, HKE6, HAT6, HSZ6, HB6, HGO'⟩
                  case measure => simp [intOf]; omega
                · have hg1' : (g1 : Int) ≠ 0 := by omega
                  have HE : Hid (L = [] ∧ C = [] ∧ K = 0 ∧ F = g1) := HERR.out g1 hg1 (by rw [← HGO.out, goAt_err (attrAt_value HTX.out HNM.out HLF.out HV.out hg1) hg1])
                  have HKB4 : Hid (Blk (w3.alloc (.cells #[.int .i64 vk, .int .i64 vw, .string vs, .bool vt, .complex .f64 vx vy] 49)) w.heap.size #[.slice none 0 0, .slice none 0 0] 25) := HKB3.out.stay (below_alloc w3 _)
                  have HB4 : Hid (Below w.heap.size w (w3.alloc (.cells #[.int .i64 vk, .int .i64 vw, .string vs, .bool vt, .complex .f64 vx vy] 49))) := HB3.out.alloc HB3.out.size _
                  have r0 := HKB4.out.cell 0 rfl
                  have r1 := HKB4.out.cell 1 rfl
                  have q0 := HKB4.out.free 0
                  have q1 := HKB4.out.free 1
                  go_wp2
                  try simp only [Exit.inBlock, Exit.then]
                  refine bodyPost_ret (results_rev (by rfl) (by rfl) (by rfl) (HKB4.out.set2 _ _)) rfl ?_
                  obtain ⟨rfl, rfl, rfl, rfl⟩ := HE.out
                  exact ⟨_, _, rfl, Ats.nil_ _ _, Row.nil_ _ _, (HB4.out.setCell (Nat.le_refl _) _).setCell (Nat.le_refl _) _⟩

              · obtain ⟨h, rfl⟩ : ∃ h, i = h + 1 := ⟨i - 1, by omega⟩
                have hpos : (0 : Int) < ((h + 1 : Nat) : Int) := by omega
                obtain ⟨hh, hpn⟩ := prevN_at hal
                obtain ⟨g, hga, hgl, hc⟩ := HA2.out.rd.2.at_ h hh
                subst hga
                have z1 : w2'.cell? ⟨g, h * 6, none⟩ = some (.string (acc[h]).1) := hc 0 _ rfl
                rw [hpn] at z1
                obtain ⟨t, HPT⟩ : ∃ t, Hid (prevN acc = t) := ⟨_, rfl⟩
                rw [HPT.out] at z1
                clear hc hpn
                have HL : Hid ((Op.bytesLess S.toList t.toList || S.toList == t.toList) = leB S t) := rfl
                cases hle : leB S t with
                | true =>
                  have HE : Hid (L = [] ∧ C = [] ∧ K = 0 ∧ F = 4) := HERR.out 4 (by decide) (by rw [← HGO.out, goAt_err (attrAt_form HTX.out HNM.out (by rw [HSS.out, HPT.out]; exact hle)) (by decide)])
                  have hbl : (Op.bytesLess S.toList t.toList || S.toList == t.toList) = true := HL.out.trans hle
                  clear hle
                  have r0 := HKB2.out.cell 0 rfl
                  have r1 := HKB2.out.cell 1 rfl
                  have q0 := HKB2.out.free 0
                  have q1 := HKB2.out.free 1
                  go_wp2
                  try simp only [Exit.inBlock, Exit.then]
                  refine bodyPost_ret (results_rev (by rfl) (by rfl) (by rfl) (HKB2.out.set2 _ _)) rfl ?_
                  obtain ⟨rfl, rfl, rfl, rfl⟩ := HE.out
                  exact ⟨_, _, rfl, Ats.nil_ _ _, Row.nil_ _ _, (HB2.out.setCell (Nat.le_refl _) _).setCell (Nat.le_refl _) _⟩

                | false =>
                  have HLF : Hid (leB (str l0) (prevN acc) = false) := by show _ = _; rw [HSS.out, HPT.out]; exact hle
                  have hbl : (Op.bytesLess S.toList t.toList || S.toList == t.toList) = false := HL.out.trans hle
                  clear hle
                  obtain ⟨v, j1, g1, hV⟩ : ∃ v j g, valAt bs (k1 : Int) = (v, j, g) := ⟨_, _, _, rfl⟩
                  have HV : Hid (valAt bs (k1 : Int) = (v, j1, g1)) := hV
                  clear hV
                  go_wp2_with fail
                  refine (ref_Take a len cap bs (k1 : Int) _ (HR.out.below HB2.out) hlc hl).mono ?_
                  rw [HV.out]
                  rintro e w3 ⟨rfl, hb3⟩
                  clear hbl
                  obtain ⟨vk, vw, vs, vt, vx, vy⟩ := v
                  simp only [toldV, Val.cells]
                  have HB3 : Hid (Below w.heap.size w w3) := HB2.out.trans (hb3.mono HB2.out.size)
                  have HKB3 : Hid (Blk w3 w.heap.size #[.slice none 0 0, .slice none 0 0] 25) := HKB2.out.stay hb3
                  have HKE3 : Hid (Blk w3 (w.heap.size + 1) #[.slice (some ⟨g, 0, none⟩) (h + 1) ac, .slice none 0 0] 25) := HKE2.out.stay hb3
                  have HA3 : Hid (Ats w3 (w.heap.size + 2) (.slice (some ⟨g, 0, none⟩) (h + 1) ac) acc) := HA2.out.below hb3
                  have HSZ3 : Hid (w.heap.size + 2 ≤ w3.heap.size) := Nat.le_trans HSZ2.out hb3.size
                  clear hb3
                  by_cases hg1 : g1 = 0
                  · subst hg1
                    have HQ : Hid (attrAt bs p (prevN acc) = ((S, ⟨vk, vw, vs, vt, vx, vy⟩), j1, 0)) := by show _ = _; rw [← HSS.out]; exact attrAt_ok HTX.out HNM.out HLF.out HV.out
                    have HGO' : Hid (goAt bs m j1 (prevN (acc ++ [(S, ⟨vk, vw, vs, vt, vx, vy⟩)])) (acc ++ [(S, ⟨vk, vw, vs, vt, vx, vy⟩)]) = (L1, K1, F1)) := by show _ = _; rw [prevN_snoc, ← goAt_ok HQ.out]; exact HGO.out
                    have hj1 : j1 ≤ len := by
                      obtain ⟨_, _, h6, _⟩ := valAt_once HR.out.byte HV.out
                      rw [HBL.out] at h6
                      exact h6
                    have HA1 : Hid (Below w3.heap.size w3 ((w3.alloc (.cells #[.int .i64 vk, .int .i64 vw, .string vs, .bool vt, .complex .f64 vx vy] 49)).alloc (.cells #[.string S, .int .i64 vk, .int .i64 vw, .string vs, .bool vt, .complex .f64 vx vy] 51))) := ((Below.refl _ _).alloc (Nat.le_refl _) _).alloc (by simp) _
                    have HKA : Hid (Blk (w3.alloc (.cells #[.int .i64 vk, .int .i64 vw, .string vs, .bool vt, .complex .f64 vx vy] 49)) (w.heap.size + 1) #[.slice (some ⟨g, 0, none⟩) (h + 1) ac, .slice none 0 0] 25) := HKE3.out.stay (below_alloc w3 _)
                    have r0 : (w3.alloc (.cells #[.int .i64 vk, .int .i64 vw, .string vs, .bool vt, .complex .f64 vx vy] 49)).cell? ⟨w.heap.size + 1, 0, none⟩ = some (.slice (some ⟨g, 0, none⟩) (h + 1) ac) := HKA.out.cell 0 rfl
                    clear HGO
                    go_wp2_with (at_builtin; refine wpList_append_own _ (by rfl) (.tmp 83) (.tmp 87) 23 (by rfl) (w.heap.size + 2) 51 i0 (.agg #[.string ⟨#[]⟩, .int .i64 0, .int .i64 0, .string ⟨#[]⟩, .bool false, .complex .f64 0 0]) 6 72 Try.underlying23 hi hz0 hz1 hz2 (by rfl) (by decide) (.slice (some ⟨g, 0, none⟩) (h + 1) ac) acc.length (acc.flatMap fun q => q.cells.toList) (by rfl) (HA3.out.below HA1.out).row ⟨w3.heap.size + 1, 0, none⟩ 1 1 (At.cells (S, ⟨vk, vw, vs, vt, vx, vy⟩)).toList (by rfl) (by rfl) ?_ ?_ (by unfold maxLen; omega) (by omega) (Nat.le_trans HSZ3.out HA1.out.size) ?_)
                    · intro j u hj
                      match j with
                      | 0 => simp [At.cells] at hj; subst hj; simp [Addr.add]
                      | 1 => simp [At.cells] at hj; subst hj; simp [Addr.add]
                      | 2 => simp [At.cells] at hj; subst hj; simp [Addr.add]
                      | 3 => simp [At.cells] at hj; subst hj; simp [Addr.add]
                      | 4 => simp [At.cells] at hj; subst hj; simp [Addr.add]
                      | 5 => simp [At.cells] at hj; subst hj; simp [Addr.add]
                      | j + 6 => simp [At.cells] at hj
                    · intro u hu
                      exact At.one _ u (by simpa using hu)
                    intro v' w5 hrow hgrow _
                    have HAT5 : Hid (Ats w5 (w.heap.size + 2) v' (acc ++ [(S, ⟨vk, vw, vs, vt, vx, vy⟩)])) := by rw [← hal] at hrow; exact Ats.snoc _ hrow
                    have hown : ∀ y, y < w.heap.size + 2 → some y ≠ (Value.slice (some ⟨g, 0, none⟩) (h + 1) ac).ownBlock := by
                      intro y hy he
                      have := (HA3.out.row.lt y he.symm).1
                      omega
                    have HKB5 : Hid (Blk w5 w.heap.size #[.slice none 0 0, .slice none 0 0] 25) := (HKB3.out.stay HA1.out).grown hgrow (hown _ (by omega))
                    have HKE5 : Hid (Blk w5 (w.heap.size + 1) #[.slice (some ⟨g, 0, none⟩) (h + 1) ac, .slice none 0 0] 25) := (HKE3.out.stay HA1.out).grown hgrow (hown _ (by omega))
                    have HB5 : Hid (Below w.heap.size w w5) := (HB3.out.trans (HA1.out.mono HB3.out.size)).trans ((Below.refl _ _).grown hgrow (Nat.le_trans HB3.out.size HA1.out.size) (fun k hk => by have := Ats.at_ (HA3.out.below HA1.out) hk; omega))
                    have HSZ5 : Hid (w.heap.size + 2 ≤ w5.heap.size) := Nat.le_trans (Nat.le_trans HSZ3.out HA1.out.size) hgrow.size
                    obtain ⟨ga, gc, rfl⟩ := HAT5.out.form
                    have y0 := HKE5.out.cell 0 rfl
                    have y1 := HKE5.out.free 0
                    have HKB6 : Hid (Blk (w5.setCell ⟨w.heap.size + 1, 0, none⟩ (.slice ga (acc ++ [((S, ⟨vk, vw, vs, vt, vx, vy⟩) : At)]).length gc)) w.heap.size #[.slice none 0 0, .slice none 0 0] 25) := HKB5.out.other _ _ (by simp)
                    have HKE6 : Hid (Blk (w5.setCell ⟨w.heap.size + 1, 0, none⟩ (.slice ga (acc ++ [((S, ⟨vk, vw, vs, vt, vx, vy⟩) : At)]).length gc)) (w.heap.size + 1) #[.slice ga (acc ++ [((S, ⟨vk, vw, vs, vt, vx, vy⟩) : At)]).length gc, .slice none 0 0] 25) := HKE5.out.set 0 _
                    have HAT6 : Hid (Ats (w5.setCell ⟨w.heap.size + 1, 0, none⟩ (.slice ga (acc ++ [((S, ⟨vk, vw, vs, vt, vx, vy⟩) : At)]).length gc)) (w.heap.size + 2) (.slice ga (acc ++ [((S, ⟨vk, vw, vs, vt, vx, vy⟩) : At)]).length gc) (acc ++ [(S, ⟨vk, vw, vs, vt, vx, vy⟩)])) := HAT5.out.under _ _ (by simp)
                    have HB6 : Hid (Below w.heap.size w (w5.setCell ⟨w.heap.size + 1, 0, none⟩ (.slice ga (acc ++ [((S, ⟨vk, vw, vs, vt, vx, vy⟩) : At)]).length gc))) := HB5.out.setCell (Nat.le_add_right _ 1) _
                    have HSZ6 : Hid (w.heap.size + 2 ≤ (w5.setCell ⟨w.heap.size + 1, 0, none⟩ (.slice ga (acc ++ [((S, ⟨vk, vw, vs, vt, vx, vy⟩) : At)]).length gc)).heap.size) := Nat.le_trans HSZ5.out (by simp [World.setCell])
                    have hln : (acc ++ [((S, ⟨vk, vw, vs, vt, vx, vy⟩) : At)]).length = h + 1 + 1 := by simp; omega
                    rw [hln] at HKB6 HKE6 HAT6 HB6 HSZ6
                    clear hrow hgrow hown r0
                    go_wp2
                    go_roundw
                    case rel => exact ⟨h + 1 + 1, m, j1, acc ++ [(S, ⟨vk, vw, vs, vt, vx, vy⟩)], _, by omega, hj1, hln, rfl, by go_num, HKB6, HKE6, HAT6, HSZ6, HB6, HGO'⟩
                    case measure => simp [intOf]; omega
                  · have hg1' : (g1 : Int) ≠ 0 := by omega
                    have HE : Hid (L = [] ∧ C = [] ∧ K = 0 ∧ F = g1) := HERR.out g1 hg1 (by rw [← HGO.out, goAt_err (attrAt_value HTX.out HNM.out HLF.out HV.out hg1) hg1])
                    have HKB4 : Hid (Blk (w3.alloc (.cells #[.int .i64 vk, .int .i64 vw, .string vs, .bool vt, .complex .f64 vx vy] 49)) w.heap.size #[.slice none 0 0, .slice none 0 0] 25) := HKB3.out.stay (below_alloc w3 _)
                    have HB4 : Hid (Below w.heap.size w (w3.alloc (.cells #[.int .i64 vk, .int .i64 vw, .string vs, .bool vt, .complex .f64 vx vy] 49))) := HB3.out.alloc HB3.out.size _
                    have r0 := HKB4.out.cell 0 rfl
                    have r1 := HKB4.out.cell 1 rfl
                    have q0 := HKB4.out.free 0
                    have q1 := HKB4.out.free 1
                    go_wp2
                    try simp only [Exit.inBlock, Exit.then]
                    refine bodyPost_ret (results_rev (by rfl) (by rfl) (by rfl) (HKB4.out.set2 _ _)) rfl ?_
                    obtain ⟨rfl, rfl, rfl, rfl⟩ := HE.out
                    exact ⟨_, _, rfl, Ats.nil_ _ _, Row.nil_ _ _, (HB4.out.setCell (Nat.le_refl _) _).setCell (Nat.le_refl _) _⟩

          · have hf1' : (f1 : Int) ≠ 0 := by omega
            have HE : Hid (L = [] ∧ C = [] ∧ K = 0 ∧ F = f1) := HERR.out f1 hf1 (by rw [← HGO.out, goAt_err (attrAt_text HTX.out hf1) hf1])
            have r0 := HKB2.out.cell 0 rfl
            have r1 := HKB2.out.cell 1 rfl
            have q0 := HKB2.out.free 0
            have q1 := HKB2.out.free 1
            go_wp2
            try simp only [Exit.inBlock, Exit.then]
            refine bodyPost_ret (results_rev (by rfl) (by rfl) (by rfl) (HKB2.out.set2 _ _)) rfl ?_
            obtain ⟨rfl, rfl, rfl, rfl⟩ := HE.out
            exact ⟨_, _, rfl, Ats.nil_ _ _, Row.nil_ _ _, (HB2.out.setCell (Nat.le_refl _) _).setCell (Nat.le_refl _) _⟩
        · have hnl : ¬ (i : Int) < (n : Int) := by omega
          obtain rfl : m = 0 := by omega
          rw [hal] at HKE HA
          have HAT2 : Hid (attrsAt bs x = (acc, p, 0)) := by
            have h := HGO.out
            rw [goAt] at h
            show _ = _
            rw [HAT.out, ← h]
          have HRR : Hid (Rd wr a len bs) := HR.out.below HB.out
          have hsm := take_small bs (p : Int) HR.out.byte
          obtain ⟨n2, k2, f2, hT2⟩ : ∃ n k f, Leb.take bs (p : Int) = (n, k, f) := ⟨_, _, _, rfl⟩
          rw [hT2] at hsm
          have HT2 : Hid (Leb.take bs (p : Int) = (n2, k2, f2)) := hT2
          have HCP : Hid (Calls Try.prog 12 #[.slice a len cap, .int .i64 (p : Int)] wr fun e w' => e = .returned (.tuple #[.int .u64 (n2 : Int), .int .i64 (k2 : Int), .int .i64 (f2 : Int)]) ∧ w' = wr) := by
            have h := ref_TakeUint a len cap bs (p : Int) wr HRR.out hl (by omega)
            rw [hT2] at h
            exact h
          clear hT2
          by_cases hf2 : f2 = 0
          · subst hf2
            have hkl2 : k2 ≤ len := by
              obtain ⟨_, _, _, h, _, _, _⟩ := Leb.take_once bs _ HR.out.byte n2 k2 HT2.out
              rw [← HBL.out]; exact h
            have hk0 : 0 < k2 := by
              obtain ⟨p', _, h, _, _, _, _⟩ := Leb.take_once bs _ HR.out.byte n2 k2 HT2.out
              omega
            by_cases h2 : 200 < n2
            · have h2' : (200 : Int) < (n2 : Int) := by omega
              have HE : Hid (L = [] ∧ C = [] ∧ K = 0 ∧ F = 6) := by
                have := HS.out
                rw [evAt_err2 HAT2.out (textAt_limit HT2.out h2) (by decide)] at this
                simp only [Prod.mk.injEq] at this
                exact ⟨this.1.1.symm, this.1.2.symm, this.2.1.symm, this.2.2.symm⟩
              go_wp2_with fail
              refine HCP.out.mono ?_
              rintro e w2 ⟨rfl, hw2⟩
              subst hw2
              have r0 := HKB.out.cell 0 rfl
              have r1 := HKB.out.cell 1 rfl
              have q0 := HKB.out.free 0
              have q1 := HKB.out.free 1
              go_wp2
              try simp only [Exit.inBlock, Exit.then]
              refine bodyPost_ret (results_rev (by rfl) (by rfl) (by rfl) (HKB.out.set2 _ _)) rfl ?_
              obtain ⟨rfl, rfl, rfl, rfl⟩ := HE.out
              exact ⟨_, _, rfl, Ats.nil_ _ _, Row.nil_ _ _, (HB.out.setCell (Nat.le_refl _) _).setCell (Nat.le_refl _) _⟩

            · have h2' : ¬ (200 : Int) < (n2 : Int) := by omega
              by_cases h3 : len - k2 < n2
              · have h3' : (len : Int) - (k2 : Int) < (n2 : Int) := by omega
                clear hsm
                have HE : Hid (L = [] ∧ C = [] ∧ K = 0 ∧ F = 3) := by
                  have := HS.out
                  rw [evAt_err2 HAT2.out (textAt_short HT2.out h2 (by rw [HBL.out]; exact h3)) (by decide)] at this
                  simp only [Prod.mk.injEq] at this
                  exact ⟨this.1.1.symm, this.1.2.symm, this.2.1.symm, this.2.2.symm⟩
                go_wp2_with fail
                refine HCP.out.mono ?_
                rintro e w2 ⟨rfl, hw2⟩
                subst hw2
                have r0 := HKB.out.cell 0 rfl
                have r1 := HKB.out.cell 1 rfl
                have q0 := HKB.out.free 0
                have q1 := HKB.out.free 1
                go_wp2
                try simp only [Exit.inBlock, Exit.then]
                refine bodyPost_ret (results_rev (by rfl) (by rfl) (by rfl) (HKB.out.set2 _ _)) rfl ?_
                obtain ⟨rfl, rfl, rfl, rfl⟩ := HE.out
                exact ⟨_, _, rfl, Ats.nil_ _ _, Row.nil_ _ _, (HB.out.setCell (Nat.le_refl _) _).setCell (Nat.le_refl _) _⟩

              · have h3' : ¬ (len : Int) - (k2 : Int) < (n2 : Int) := by omega
                have HE : Hid (L = acc ∧ C = (bs.drop k2).take n2 ∧ K = k2 + n2 ∧ F = 0) := by
                  have := HS.out
                  rw [evAt_ok HAT2.out (textAt_ok HT2.out h2 (by rw [HBL.out]; exact h3))] at this
                  simp only [Prod.mk.injEq] at this
                  exact ⟨this.1.1.symm, this.1.2.symm, this.2.1.symm, this.2.2.symm⟩
                obtain ⟨b, off, rfl⟩ : ∃ b off, a = some ⟨b, off, none⟩ := by
                  rcases HR.out.cells with h0 | ⟨b, off, e, _⟩
                  · omega
                  · exact ⟨b, off, e⟩
                obtain ⟨q, hq⟩ : ∃ q, q = k2 + n2 := ⟨_, rfl⟩
                have hqi : (k2 : Int) + (n2 : Int) = (q : Int) := by omega
                have hqn : q - k2 = n2 := by omega
                have g1 : (0 : Int) ≤ (k2 : Int) := by omega
                have g2 : (k2 : Int) ≤ (q : Int) := by omega
                have g3 : (q : Int) ≤ (cap : Int) := by omega
                have HQ : Hid (k2 + n2 = q) := hq.symm
                clear hsm hq
                by_cases hcp : cap = k2
                · have hn20 : n2 ≤ 200 := by omega
                  subst hcp
                  have HP : Hid (Rd wr (some ⟨b, off, none⟩) n2 ((bs.drop cap).take n2)) := HRR.out.part cap n2 (off) (by omega) (.inl (by omega))

                  go_wp2_with fail
                  refine HCP.out.mono ?_
                  rintro e w2 ⟨rfl, hw2⟩
                  subst hw2

                  have HPA : Hid (Rd (w2.alloc (.cells #[] 5)) (some ⟨b, off, none⟩) n2 ((bs.drop cap).take n2)) := HP.out.below (below_alloc w2 _)
                  have HBE : Hid (Below w2.heap.size w2 (w2.alloc (.cells #[] 5))) := below_alloc w2 _
                  go_wp2_with (at_builtin; refine wpList_append_rd rfl (.tmp 113) (.tmp 120) rfl w2.heap.size (some ⟨w2.heap.size, 0, none⟩) 0 0 [] rfl (Own.empty w2) (some ⟨b, off, none⟩) n2 _ ((bs.drop cap).take n2) rfl HPA.out (by simp) (by omega) HBE.out.size ?_)
                  intro a5 c5 w5 ho5 hg5 hb5
                  have HO5 : Hid (Own w5 w2.heap.size a5 n2 c5 ((bs.drop cap).take n2)) := by
                    show Own _ _ _ _ _ _
                    simpa using ho5
                  have hb5' := HBE.out.trans hb5
                  have HB5 : Hid (Below w.heap.size w w5) := HB.out.trans (hb5'.mono HB.out.size)
                  have HKB5 : Hid (Blk w5 w.heap.size #[.slice none 0 0, .slice none 0 0] 25) := HKB.out.stay hb5'
                  have HKE5 : Hid (Blk w5 (w.heap.size + 1) #[.slice aa i ac, .slice none 0 0] 25) := HKE.out.stay hb5'
                  have HA5 : Hid (Ats w5 (w.heap.size + 2) (.slice aa i ac) acc) := HA.out.below hb5'
                  clear ho5 hg5 hb5 hb5'
                  have y0 : w5.cell? ⟨w.heap.size + 1, 0, none⟩ = some (.slice aa i ac) := HKE5.out.cell 0 rfl
                  have y1 : w5.cell? ⟨w.heap.size + 1, 1, none⟩ = some (.slice none 0 0) := HKE5.out.cell 1 rfl
                  have y2 := HKE5.out.free 1
                  have y3 := HKB5.out.cell 0 rfl
                  have y4 := HKB5.out.cell 1 rfl
                  have y5 := HKB5.out.free 0
                  have y6 := HKB5.out.free 1
                  go_wp2
                  try simp only [Exit.inBlock, Exit.then]
                  refine bodyPost_ret (results_rev (by rfl) (by rfl) (by rfl) ((HKB5.out.other ⟨w.heap.size + 1, 1, none⟩ _ (by simp)).set2 _ _)) rfl ?_
                  obtain ⟨rfl, rfl, rfl, rfl⟩ := HE.out
                  have HRW : Row w5 w2.heap.size (.slice a5 n2 c5) ((bs.drop cap).take n2) := ⟨a5, n2, c5, rfl, HO5.out⟩
                  have hz := HSZ.out
                  refine ⟨_, _, by rw [HQ.out]; rfl, (((HA5.out.under _ _ (by simp)).under _ _ (by simp)).under _ _ (by simp)).lower (by omega), ?_, ((HB5.out.setCell (Nat.le_add_right _ 1) _).setCell (Nat.le_refl _) _).setCell (Nat.le_refl _) _⟩
                  exact (((HRW.under _ _ (by show w.heap.size + 1 < _; omega)).under _ _ (by show w.heap.size < _; omega)).under _ _ (by show w.heap.size < _; omega)).lower (by omega)
                · have hn20 : n2 ≤ 200 := by omega
                  have HP : Hid (Rd wr (some ⟨b, off + k2, none⟩) n2 ((bs.drop k2).take n2)) := HRR.out.part k2 n2 (off + k2) (by omega) (.inr rfl)

                  go_wp2_with fail
                  refine HCP.out.mono ?_
                  rintro e w2 ⟨rfl, hw2⟩
                  subst hw2

                  have HPA : Hid (Rd (w2.alloc (.cells #[] 5)) (some ⟨b, off + k2, none⟩) n2 ((bs.drop k2).take n2)) := HP.out.below (below_alloc w2 _)
                  have HBE : Hid (Below w2.heap.size w2 (w2.alloc (.cells #[] 5))) := below_alloc w2 _
                  go_wp2_with (at_builtin; refine wpList_append_rd rfl (.tmp 113) (.tmp 120) rfl w2.heap.size (some ⟨w2.heap.size, 0, none⟩) 0 0 [] rfl (Own.empty w2) (some ⟨b, off + k2, none⟩) n2 _ ((bs.drop k2).take n2) rfl HPA.out (by simp) (by omega) HBE.out.size ?_)
                  intro a5 c5 w5 ho5 hg5 hb5
                  have HO5 : Hid (Own w5 w2.heap.size a5 n2 c5 ((bs.drop k2).take n2)) := by
                    show Own _ _ _ _ _ _
                    simpa using ho5
                  have hb5' := HBE.out.trans hb5
                  have HB5 : Hid (Below w.heap.size w w5) := HB.out.trans (hb5'.mono HB.out.size)
                  have HKB5 : Hid (Blk w5 w.heap.size #[.slice none 0 0, .slice none 0 0] 25) := HKB.out.stay hb5'
                  have HKE5 : Hid (Blk w5 (w.heap.size + 1) #[.slice aa i ac, .slice none 0 0] 25) := HKE.out.stay hb5'
                  have HA5 : Hid (Ats w5 (w.heap.size + 2) (.slice aa i ac) acc) := HA.out.below hb5'
                  clear ho5 hg5 hb5 hb5'
                  have y0 : w5.cell? ⟨w.heap.size + 1, 0, none⟩ = some (.slice aa i ac) := HKE5.out.cell 0 rfl
                  have y1 : w5.cell? ⟨w.heap.size + 1, 1, none⟩ = some (.slice none 0 0) := HKE5.out.cell 1 rfl
                  have y2 := HKE5.out.free 1
                  have y3 := HKB5.out.cell 0 rfl
                  have y4 := HKB5.out.cell 1 rfl
                  have y5 := HKB5.out.free 0
                  have y6 := HKB5.out.free 1
                  go_wp2
                  try simp only [Exit.inBlock, Exit.then]
                  refine bodyPost_ret (results_rev (by rfl) (by rfl) (by rfl) ((HKB5.out.other ⟨w.heap.size + 1, 1, none⟩ _ (by simp)).set2 _ _)) rfl ?_
                  obtain ⟨rfl, rfl, rfl, rfl⟩ := HE.out
                  have HRW : Row w5 w2.heap.size (.slice a5 n2 c5) ((bs.drop k2).take n2) := ⟨a5, n2, c5, rfl, HO5.out⟩
                  have hz := HSZ.out
                  refine ⟨_, _, by rw [HQ.out]; rfl, (((HA5.out.under _ _ (by simp)).under _ _ (by simp)).under _ _ (by simp)).lower (by omega), ?_, ((HB5.out.setCell (Nat.le_add_right _ 1) _).setCell (Nat.le_refl _) _).setCell (Nat.le_refl _) _⟩
                  exact (((HRW.under _ _ (by show w.heap.size + 1 < _; omega)).under _ _ (by show w.heap.size < _; omega)).under _ _ (by show w.heap.size < _; omega)).lower (by omega)

          · have hf2' : (f2 : Int) ≠ 0 := by omega
            have HE : Hid (L = [] ∧ C = [] ∧ K = 0 ∧ F = f2) := by
              have := HS.out
              rw [evAt_err2 HAT2.out (textAt_take HT2.out hf2) (by exact hf2)] at this
              simp only [Prod.mk.injEq] at this
              exact ⟨this.1.1.symm, this.1.2.symm, this.2.1.symm, this.2.2.symm⟩
            go_wp2_with fail
            refine HCP.out.mono ?_
            rintro e w2 ⟨rfl, hw2⟩
            subst hw2
            have r0 := HKB.out.cell 0 rfl
            have r1 := HKB.out.cell 1 rfl
            have q0 := HKB.out.free 0
            have q1 := HKB.out.free 1
            go_wp2
            try simp only [Exit.inBlock, Exit.then]
            refine bodyPost_ret (results_rev (by rfl) (by rfl) (by rfl) (HKB.out.set2 _ _)) rfl ?_
            obtain ⟨rfl, rfl, rfl, rfl⟩ := HE.out
            exact ⟨_, _, rfl, Ats.nil_ _ _, Row.nil_ _ _, (HB.out.setCell (Nat.le_refl _) _).setCell (Nat.le_refl _) _⟩
  · have hf' : (f : Int) ≠ 0 := by omega
    have HE : Hid (L = [] ∧ C = [] ∧ K = 0 ∧ F = f) := by
      have := HS.out
      rw [evAt_err1 (attrsAt_err HT.out hf) hf] at this
      simp only [Prod.mk.injEq] at this
      exact ⟨this.1.1.symm, this.1.2.symm, this.2.1.symm, this.2.2.symm⟩
    go_enter Try.func6, Try.ntmps6
    go_wp2_with fail
    refine (HCC.out _ (below_alloc w _)).mono ?_
    rintro e w1 ⟨rfl, rfl⟩
    go_wp2
    go_returns
    obtain ⟨rfl, rfl, rfl, rfl⟩ := HE.out
    exact ⟨_, _, rfl, Ats.nil_ _ _, Row.nil_ _ _, below_alloc w _⟩
end Go.Proofs.Ytigmlhieibejoad
