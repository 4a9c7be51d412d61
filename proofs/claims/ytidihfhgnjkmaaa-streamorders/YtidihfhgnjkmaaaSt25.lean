/- Stream.Learn of a Tell that may be. -/
import Derived.Test.YtidihfhgnjkmaaaSt24
namespace Go.Proofs.Ytidihfhgnjkmaaa
set_option maxRecDepth 100000
open Go.RowKit Go.Maps Go.Sort Go.Shelf

/-- A Tell that may be: what Check has seen. -/
structure TellOk (p : Pc) : Prop where
  kind : p.kind = 1
  chk : chk p = 0
  right : RightS Sp.zr p.spans
  quiet : ∀ t, atS p.spans t ≠ 1
  each : ∀ q ∈ p.items, (1 ≤ q.tick ∧ q.tick ≤ 1099511627776) ∧ (0 ≤ q.for_ ∧ q.for_ ≤ 4294967295) ∧ q.body.length ≤ 400
/-- What Learn tells. -/
def LearnTold (s m : Nat) (l : List Sp) (I : Int → Option It) (p : Pc) (w : World) (e : Ending) (w' : World) : Prop := (∃ r : Bool, e = .returned (.tuple #[.bool r, .int .i64 0]) ∧ ((∀ t, learnK (atS l) I p t = atS l t) → (∀ t, forI (learnI (atS l) I p) t = forI I t) → r = false)) ∧ (∃ l', Str w' s m l' (learnI (atS l) I p) ∧ ∀ t, atS l' t = learnK (atS l) I p t) ∧ Two s m w w'
theorem str_keep {w : World} {s m : Nat} {K : Int → Int} {I : Int → Option It} {l : List Sp} (h : Str w s m l I) (hK : ∀ t, atS l t = K t) {T : List Int} (hT : ∀ t, (I t).isSome = true → t ∈ T) (hTl : T.length ≤ 1000) {q : It} {ba : Option Addr} {bl bc : Nat} (ht : 1 ≤ q.tick ∧ q.tick ≤ 1099511627776) (hf : 0 ≤ q.for_ ∧ q.for_ ≤ 4294967295) (hq : q.body.length ≤ 400) (hb : Rd w ba bl q.body) :
    Calls Try.prog 17 #[.pointer (some ⟨s, 0, none⟩), .agg #[.int .i64 q.tick, .int .u32 q.for_, .slice ba bl bc]] w fun e w' => e = .returned (.tuple #[]) ∧ (∃ l', Str w' s m l' (keepI K I q) ∧ ∀ u, atS l' u = keepK K q u) ∧ Two s m w w' := by
  obtain rfl : atS l = K := funext hK
  exact st_keep h hT hTl ht hf hq hb
set_option maxHeartbeats 8000000 in
theorem st_Learn {w : World} {s m : Nat} {l : List Sp} {I : Int → Option It} (h : Str w s m l I) {T : List Int} (hT : ∀ t, (I t).isSome = true → t ∈ T) (hTl : T.length ≤ 64) {p : Pc} (hp : TellOk p) (hpT : ∀ q ∈ p.items, q.tick ∈ T) {sa : Option Addr} {sn sc : Nat} {ia : Option Addr} {im ic : Nat} (hr : PcRd w p sa sn sc ia im ic) :
    Calls Try.prog 6 #[.pointer (some ⟨s, 0, none⟩), p.val sa sn sc ia im ic] w fun e w' => LearnTold s m l I p w e w' := by
  have HSTR : Hid (Str w s m l I) := h
  obtain ⟨a0, n0, c0, X0, hs0⟩ := h
  have hsl := hs0.stm.blk.lt
  have hml := hs0.stm.items.lt
  have HT : Hid (∀ t, (I t).isSome = true → t ∈ T) := hT
  have HTL : Hid (T.length ≤ 64) := hTl
  have HPT : Hid (∀ q ∈ p.items, q.tick ∈ T) := hpT
  have HE : Hid (∀ q ∈ p.items, (1 ≤ q.tick ∧ q.tick ≤ 1099511627776) ∧ (0 ≤ q.for_ ∧ q.for_ ≤ 4294967295) ∧ q.body.length ≤ 400) := hp.each
  have HRT : Hid (RightS Sp.zr p.spans ∧ ∀ t, atS p.spans t ≠ 1) := ⟨hp.right, hp.quiet⟩
  have hkind := hp.kind
  have HCH : Hid (chk p = 0) := hp.chk
  have HLT : Hid (∀ e w', LearnTold s m l I p w e w' ↔ LearnTold s m l I p w e w') := fun _ _ => Iff.rfl
  obtain ⟨PL, HPL⟩ : ∃ PL, Hid (PL = p) := ⟨_, rfl⟩
  have HPR : Hid (PcRd w p sa sn sc ia im ic) := hr
  clear hT hTl hpT hr hp
  obtain ⟨pk, pp, ps, pn, pf, pt, pl, pi⟩ := p
  simp only at hkind
  subst hkind
  obtain ⟨W1, HW1⟩ : ∃ W1, Hid (W1 = w.alloc (.cells #[.int .i64 1, .int .i64 pp, .int .i64 ps, .int .i64 pn, .int .i64 pf, .int .i64 pt, .slice sa sn sc, .slice ia im ic] 33)) := ⟨_, rfl⟩
  have HX1 : Hid (Below w.heap.size w W1) := by (show Below _ _ _); rw [HW1.out]; exact below_alloc w _
  have HK1 : Hid (Bk W1 w.heap.size #[.int .i64 1, .int .i64 pp, .int .i64 ps, .int .i64 pn, .int .i64 pf, .int .i64 pt, .slice sa sn sc, .slice ia im ic] 33) := by (show Bk _ _ _ _); rw [HW1.out]; exact Bk.new w _ _
  have HS1 : Hid (Strm W1 s m l I a0 n0 c0 X0) := hs0.stay HX1.out
  have HP1 : Hid (PcRd W1 ⟨1, pp, ps, pn, pf, pt, pl, pi⟩ sa sn sc ia im ic) := HPR.out.below HX1.out
  have HCK : Hid (Calls Try.prog 14 #[.agg #[.int .i64 1, .int .i64 pp, .int .i64 ps, .int .i64 pn, .int .i64 pf, .int .i64 pt, .slice sa sn sc, .slice ia im ic]] W1 fun e w' => e = .returned (.int .i64 0) ∧ Below W1.heap.size W1 w') := by
    have := pc_Check ⟨1, pp, ps, pn, pf, pt, pl, pi⟩ sa sn sc ia im ic W1 HP1.out
    rw [HCH.out] at this
    exact this
  have k0 : W1.cell? ⟨w.heap.size, 0, none⟩ = some (.int .i64 1) := HK1.out.cell 0 rfl
  have k1 : W1.cell? ⟨w.heap.size, 1, none⟩ = some (.int .i64 pp) := HK1.out.cell 1 rfl
  have k2 : W1.cell? ⟨w.heap.size, 2, none⟩ = some (.int .i64 ps) := HK1.out.cell 2 rfl
  have k3 : W1.cell? ⟨w.heap.size, 3, none⟩ = some (.int .i64 pn) := HK1.out.cell 3 rfl
  have k4 : W1.cell? ⟨w.heap.size, 4, none⟩ = some (.int .i64 pf) := HK1.out.cell 4 rfl
  have k5 : W1.cell? ⟨w.heap.size, 5, none⟩ = some (.int .i64 pt) := HK1.out.cell 5 rfl
  have k6 : W1.cell? ⟨w.heap.size, 6, none⟩ = some (.slice sa sn sc) := HK1.out.cell 6 rfl
  have k7 : W1.cell? ⟨w.heap.size, 7, none⟩ = some (.slice ia im ic) := HK1.out.cell 7 rfl
  have himl : im ≤ 9223372036854775807 := Nat.le_trans HPR.out.il (Nat.le_trans HPR.out.im_ (by decide))
  have HIM : Hid (pi.length = im) := HPR.out.items.size
  clear hs0 HPR HSTR
  unfold Pc.val
  simp only
  go_enter Try.func6, Try.ntmps6
  go_upto_region 3 with fail
  rw [← HW1.out]
  go_wp2_with fail
  refine HCK.out.mono ?_
  rintro e w2 ⟨rfl, hb2⟩
  have HK2 : Hid (Bk w2 w.heap.size #[.int .i64 1, .int .i64 pp, .int .i64 ps, .int .i64 pn, .int .i64 pf, .int .i64 pt, .slice sa sn sc, .slice ia im ic] 33) := HK1.out.stay hb2
  have HS2 : Hid (Strm w2 s m l I a0 n0 c0 X0) := HS1.out.stay hb2
  have HP2 : Hid (PcRd w2 ⟨1, pp, ps, pn, pf, pt, pl, pi⟩ sa sn sc ia im ic) := HP1.out.below hb2
  have HX2 : Hid (Below w.heap.size w w2) := HX1.out.trans (hb2.mono HX1.out.size)
  have q0 : w2.cell? ⟨w.heap.size, 0, none⟩ = some (.int .i64 1) := HK2.out.cell 0 rfl
  clear hb2 k0 k1 k2 k3 k4 k5 k6 k7 HK1 HS1 HP1 HX1 HCK HW1
  go_wp2_with fail
  refine (st_Fork HS2.out.stm).mono ?_
  rintro e w3 ⟨s2, m2, rfl, hs3, ⟨z1, z2⟩, hb3⟩
  have hszw := HX2.out.size
  have HF3 : Hid (Stm w3 s2 m2 a0 n0 c0 l X0) := hs3
  have HK3 : Hid (Bk w3 w.heap.size #[.int .i64 1, .int .i64 pp, .int .i64 ps, .int .i64 pn, .int .i64 pf, .int .i64 pt, .slice sa sn sc, .slice ia im ic] 33) := HK2.out.stay hb3
  have HS3 : Hid (Strm w3 s m l I a0 n0 c0 X0) := HS2.out.stay hb3
  have HP3 : Hid (PcRd w3 ⟨1, pp, ps, pn, pf, pt, pl, pi⟩ sa sn sc ia im ic) := HP2.out.below hb3
  have HX3 : Hid (Below w.heap.size w w3) := HX2.out.trans (hb3.mono HX2.out.size)
  have q6 : w3.cell? ⟨w.heap.size, 6, none⟩ = some (.slice sa sn sc) := HK3.out.cell 6 rfl
  have HAP : Hid (∀ ad, a0 = some ad → ad.block ≠ s ∧ ad.block ≠ m) := fun ad e => (HS2.out.stm.apart ad e).2
  clear hs3 hb3 HK2 HS2 HP2 HX2 q0
  go_wp2_with fail
  refine (str_join ⟨a0, n0, c0, X0, HS3.out⟩ HT.out (Nat.le_trans HTL.out (by omega)) (b := sa) (nb := sn) (cb := sc) (l2 := pl) ⟨HP3.out.spans, HP3.out.sl, HP3.out.sm, HRT.out.1⟩ HRT.out.2).mono ?_
  rintro e w4 ⟨rfl, ⟨l4, hs4, ht4⟩, hb4⟩
  have HS4 : Hid (Str w4 s m l4 (steps (fun t => max (atS l t) (atS pl t)) (onlyI (fun t => max (atS l t) (atS pl t)) I) (pi.take 0)).2) := hs4
  have HL4 : Hid (∀ t, atS l4 t = (steps (fun t => max (atS l t) (atS pl t)) (onlyI (fun t => max (atS l t) (atS pl t)) I) (pi.take 0)).1 t) := ht4
  have HK4 : Hid (Bk w4 w.heap.size #[.int .i64 1, .int .i64 pp, .int .i64 ps, .int .i64 pn, .int .i64 pf, .int .i64 pt, .slice sa sn sc, .slice ia im ic] 33) := Two.bk HK3.out hb4 (by omega) (by omega)
  have HF4 : Hid (Stm w4 s2 m2 a0 n0 c0 l X0) := HF3.out.two hb4 (by omega) (by omega) (by omega) (by omega) HAP.out
  have HI4 : Hid (ItsRd w4 ia im pi) := ItsRd.two HS3.out.stm HP3.out.items hb4
  have HT4 : Hid (Two s m w w4) := (Two.of_below s m HX3.out).trans hb4
  have HO3 : Hid (Strm w3 s m l I a0 n0 c0 X0) := HS3.out
  have q7 : w4.cell? ⟨w.heap.size, 7, none⟩ = some (.slice ia im ic) := HK4.out.cell 7 rfl
  clear hs4 ht4 hb4 HF3 HK3 HS3 HP3 HX3 q6
  go_wp2
  go_loopw [29] (fun t29 wr => ∃ (i : Nat) (li : List Sp), t29 = .int .i64 (i : Int) ∧ i ≤ im ∧ Hid (Str wr s m li (steps (fun t => max (atS l t) (atS pl t)) (onlyI (fun t => max (atS l t) (atS pl t)) I) (pi.take i)).2) ∧ Hid (∀ t, atS li t = (steps (fun t => max (atS l t) (atS pl t)) (onlyI (fun t => max (atS l t) (atS pl t)) I) (pi.take i)).1 t) ∧ Hid (Stm wr s2 m2 a0 n0 c0 l X0) ∧ Hid (ItsRd wr ia im pi) ∧ Hid (Two s m w wr)) (fun t29 _ => im - (intOf t29).toNat)
  case atStart => exact ⟨0, l4, rfl, by omega, HS4, HL4, HF4, HI4, HT4⟩
  case round =>
    obtain ⟨i, li, rfl, hi, HSI, HLI, HFI, HII, HTI⟩ := hrel
    clear HS4 HL4 HF4 HI4 HT4 HK4 q7
    by_cases hlt : i < im
    · have hlt' : (i : Int) < (im : Int) := by omega
      have gi : (0 : Int) ≤ (i : Int) := by omega
      obtain ⟨g, o, rfl, hg, q, hq, d0, d1, ba, bl, bc, d2, hrd, hb0, hlc, hcm⟩ := HII.out.at_ i hlt
      have HQ : Hid (pi[i]? = some q) := hq
      have hqm : q ∈ pi := List.mem_of_getElem? hq
      have HEQ := HE.out q hqm
      have HRD : Hid (Rd wr ba bl q.body) := hrd
      have HTK : Hid (pi.take (i + 1) = pi.take i ++ [q]) := by
        (show _ = _)
        have hil : i < pi.length := by rw [HIM.out]; exact hlt
        rw [List.take_succ_eq_append_getElem hil]
        have := List.getElem?_eq_getElem hil
        rw [this] at hq
        rw [Option.some.inj hq]
      have HKP : Hid (∀ W, Below wr.heap.size wr W → Calls Try.prog 17 #[.pointer (some ⟨s, 0, none⟩), .agg #[.int .i64 q.tick, .int .u32 q.for_, .slice ba bl bc]] W fun e w' => e = .returned (.tuple #[]) ∧ (∃ l', Str w' s m l' (keepI (steps (fun t => max (atS l t) (atS pl t)) (onlyI (fun t => max (atS l t) (atS pl t)) I) (pi.take i)).1 (steps (fun t => max (atS l t) (atS pl t)) (onlyI (fun t => max (atS l t) (atS pl t)) I) (pi.take i)).2 q) ∧ ∀ u, atS l' u = keepK (steps (fun t => max (atS l t) (atS pl t)) (onlyI (fun t => max (atS l t) (atS pl t)) I) (pi.take i)).1 q u) ∧ Two s m W w') := fun W hW => str_keep (HSI.out.stay hW) HLI.out (steps_in _ _ _ (onlyI_in HT.out) (fun x hx => HPT.out x (List.mem_of_mem_take hx))) (Nat.le_trans HTL.out (by omega)) HEQ.1 HEQ.2.1 HEQ.2.2 (HRD.out.below hW)
      obtain ⟨qt, qf, qb⟩ := q
      simp only at d0 d1 HKP
      have HBX : Hid (Below wr.heap.size wr (wr.alloc (.cells #[.int .i64 qt, .int .u32 qf, .slice ba bl bc] 42))) := below_alloc wr _
      clear hrd hb0 hlc hcm hq hqm HEQ HRD
      go_wp2_with fail
      refine (HKP.out _ HBX.out).mono ?_
      rintro e w5 ⟨rfl, ⟨l5, hs5, ht5⟩, hb5⟩
      have HT5 : Hid (Two s m wr w5) := (Two.of_below s m HBX.out).trans hb5
      have HS5 : Hid (Str w5 s m l5 (steps (fun t => max (atS l t) (atS pl t)) (onlyI (fun t => max (atS l t) (atS pl t)) I) (pi.take (i + 1))).2) := by (show Str _ _ _ _ _); rw [HTK.out, steps_snoc]; exact hs5
      have HL5 : Hid (∀ t, atS l5 t = (steps (fun t => max (atS l t) (atS pl t)) (onlyI (fun t => max (atS l t) (atS pl t)) I) (pi.take (i + 1))).1 t) := by (show ∀ _, _); rw [HTK.out, steps_snoc]; exact ht5
      have HF5 : Hid (Stm w5 s2 m2 a0 n0 c0 l X0) := HFI.out.two HT5.out (by omega) (by omega) (by omega) (by omega) HAP.out
      have HI5 : Hid (ItsRd w5 (some ⟨g, o, none⟩) im pi) := by
        obtain ⟨a9, n9, c9, X9, h9⟩ := HSI.out
        exact ItsRd.two h9.stm HII.out HT5.out
      clear hs5 ht5 hb5 d0 d1 d2 HKP
      go_wp2
      go_roundw
      case rel => exact ⟨i + 1, l5, by go_num, by omega, HS5, HL5, HF5, HI5, HTI.out.trans HT5.out⟩
      case measure => simp [intOf]; omega
    · have hnl : ¬ (i : Int) < (im : Int) := by omega
      obtain rfl : i = im := by omega
      have hfin := HSI.out
      have hlfin := HLI.out
      rw [← HIM.out, List.take_length] at hfin hlfin
      obtain ⟨a5, n5, c5, X5, hs5⟩ := hfin
      have HS5 : Hid (Strm wr s m li (steps (fun t => max (atS l t) (atS pl t)) (onlyI (fun t => max (atS l t) (atS pl t)) I) pi).2 a5 n5 c5 X5) := hs5
      have HLF : Hid (∀ t, atS li t = (steps (fun t => max (atS l t) (atS pl t)) (onlyI (fun t => max (atS l t) (atS pl t)) I) pi).1 t) := hlfin
      have HX5 : Hid (X5.length ≤ 64) := Nat.le_trans (hs5.few (steps_in _ _ _ (onlyI_in HT.out) HPT.out)) HTL.out
      clear hs5 hlfin HSI HLI HII
      go_wp2_with fail
      refine (st_forget_0 HS5.out.stm HX5.out).mono ?_
      rintro e w6 ⟨rfl, hb6⟩
      have HS6 : Hid (Strm w6 s m li (steps (fun t => max (atS l t) (atS pl t)) (onlyI (fun t => max (atS l t) (atS pl t)) I) pi).2 a5 n5 c5 X5) := HS5.out.stay hb6
      have HF6 : Hid (Stm w6 s2 m2 a0 n0 c0 l X0) := HFI.out.stay hb6
      have HB6 : Hid (Below wr.heap.size wr w6) := hb6
      clear hb6 HS5 HFI
      go_wp2_with fail
      refine (st_same HS6.out.stm HF6.out HS6.out.items_ HO3.out.items_).mono ?_
      rintro e w7 ⟨⟨r, rfl, hr⟩, hb7⟩
      have HR : Hid (r = true ↔ li = l ∧ SameX X5 X0) := hr
      have HB7 : Hid (Below wr.heap.size wr w7) := HB6.out.trans (hb7.mono HB6.out.size)
      have HS7 : Hid (Strm w7 s m li (steps (fun t => max (atS l t) (atS pl t)) (onlyI (fun t => max (atS l t) (atS pl t)) I) pi).2 a5 n5 c5 X5) := HS6.out.stay hb7
      clear hb7 hr HS6
      go_wp2
      go_ret2
      refine ⟨⟨!r, rfl, fun hk hf => ?_⟩, ⟨li, ⟨a5, n5, c5, X5, HS7.out⟩, HLF.out⟩, HTI.out.trans (Two.of_below s m HB7.out)⟩
      have hli : li = l := canonS li l _ _ HS7.out.stm.ok.right HO3.out.stm.ok.right fun t => (HLF.out t).trans (hk t)
      rw [HR.out.2 ⟨hli, same_of HS7.out HO3.out hf⟩]
      rfl
end Go.Proofs.Ytidihfhgnjkmaaa
