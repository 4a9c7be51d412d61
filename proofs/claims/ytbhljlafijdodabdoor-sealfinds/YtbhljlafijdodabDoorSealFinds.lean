/- Proved: for every bytes, rows and torn seal grapevinelaw01.SealFinds answers true and leaves its arguments as they were. Its condition: the package-level table seal.steps holds what its initialiser lays (the card ties that to the program's text). -/
import Derived.Test.YtbhljlafijdodabDoorSealFindM
import Derived.Test.YtbhljlafijdodabDoorDoor
namespace Go.Proofs.YtbhljlafijdodabDoor
open Go.ChangeShapes Go.WideShapes Go.ChangeAt Go.RowKit Go.Joins

theorem Own.capOk {w : World} {base : Nat} {a : Option Addr} {len cap : Nat} {bs : List Nat} (h : Own w base a len cap bs) : len ≤ cap := by
  rcases h.row.2 with ⟨hv, h0⟩ | ⟨g, c, cur, hv, _, _, hlc, _⟩
  · omega
  · simp only [Value.slice.injEq] at hv
    omega
theorem own_nil (w : World) (base : Nat) : Own w base none 0 0 [] := ⟨World.ownsRow_nil _ _ _ _, by simp⟩
theorem rd_one (w : World) (c : Nat) (hc : c < 256) : Rd (w.alloc (.cells #[.int .u8 (c : Int)] 5)) (some ⟨w.heap.size, 0, none⟩) 1 [c] :=
  (Own.new w 0 #[.int .u8 (c : Int)] [c] (by intro x hx; rw [List.mem_singleton] at hx; omega) rfl (Nat.zero_le _) (by show 1 ≤ maxLen; unfold maxLen; omega)).rd

namespace sealFinds

set_option maxRecDepth 100000 in
set_option maxHeartbeats 8000000 in
theorem walk (a : Option Addr) (len cap : Nat) (bs : List Nat) (l : Option Addr) (n lc : Nat) (ps : List Pt) (ta : Option Addr) (tl tc : Nat) (tb : List Nat) (K : Nat) (hK : K ≤ 65535) (w : World)
    (hr : Rd w a len bs) (hlen : len ≤ 9223372036854775807) (hp : Parts w l n ps) (hn : n ≤ 9223372036854775807) (hpl : ∀ p ∈ ps, p.l ≤ 9223372036854775807) (htr : Rd w ta tl tb) (htl : tl ≤ 9223372036854775807) (ht : Tab w) (h0 : 0 < w.heap.size) :
    Calls Tryd.prog 3 #[.slice a len cap, .slice l n lc, .agg #[.slice ta tl tc, .int .u16 (K : Int)]] w fun e w' => e = .returned (.bool true) ∧ Below w.heap.size w w' := by
  have HT : Hid (Tab w) := ht
  have HR : Hid (Rd w a len bs) := hr
  have HP : Hid (Parts w l n ps) := hp
  have HPLN : Hid (∀ p ∈ ps, p.l ≤ 9223372036854775807) := hpl
  have HTR : Hid (Rd w ta tl tb) := htr
  have HB0 : Hid (∀ nq, Below w.heap.size w ((w.alloc (.cells #[.slice ta tl tc, .int .u16 (K : Int)] 26)).drewN nq)) := fun nq => (below_alloc w _).trans ((below_drewN _ nq).mono (by simp))
  obtain ⟨i0, hi, hz0, hz1, hz2⟩ := info_parts infoSealed
  clear ht hr hp hpl htr
  go_enter Tryd.func3, Tryd.ntmps3
  go_wp2
  go_quiet (fail)
  go_wp2
  go_loopw [9, 10] (fun t9 t10 wr => ∃ (i m c : Nat) (x : Option Addr) (L : List Nat), i ≤ len ∧ i ≤ 500 ∧ m ≤ i ∧ t10 = .int .i64 (i : Int) ∧ t9 = .slice x m c ∧ Hid (Own wr w.heap.size x m c L) ∧ Hid (∀ y ∈ L, y ≠ 167) ∧ Hid (Below w.heap.size w wr)) (fun _ t10 _ => 500 - (intOf t10).toNat)
  case atStart => exact ⟨0, 0, 0, none, [], by omega, by omega, by omega, rfl, rfl, own_nil _ _, (fun y hy => by cases hy), HB0.out _⟩
  case round =>
    obtain ⟨i, m, c, x, L, hil, hi5, hmi, rfl, rfl, HO, HNN, HB⟩ := hrel
    by_cases hgo : i < len ∧ i < 500
    · have g1 : (i : Int) < (len : Int) := by omega
      have g2 : (i : Int) < 500 := by omega
      obtain ⟨b, off, rfl, hb, hc⟩ : ∃ b off, a = some ⟨b, off, none⟩ ∧ b < w.heap.size ∧ ∀ i, i < len → w.cell? ⟨b, off + i, none⟩ = some (.int .u8 ((bs.getD i 0 : Nat) : Int)) := by
        rcases HR.out.cells with h | h
        · omega
        · exact h
      obtain ⟨y, HY⟩ : ∃ y, Hid (y = bs.getD i 0) := ⟨_, rfl⟩
      have hcy : wr.cell? ⟨b, off + i, none⟩ = some (.int .u8 (y : Int)) := by
        rw [HB.out.cell (p := ⟨b, off + i, none⟩) hb, hc i (by omega), ← HY.out]
      have hy8 : y < 256 := by rw [HY.out]; exact getD_lt HR.out.byte _
      clear hc
      by_cases hm : y = 167
      · have e1 : ((y : Int) != 167) = false := by rw [hm]; rfl
        clear hm
        go_wp2
        go_roundw
        case rel => exact ⟨i + 1, m, c, x, L, by omega, by omega, by omega, by go_num, rfl, HO, HNN, HB⟩
        case measure => simp [intOf]; omega
      · have e1 : ((y : Int) != 167) = true := by rw [bne_iff_ne]; omega
        have HA : Hid (Below wr.heap.size wr (wr.alloc (.cells #[.int .u8 (y : Int)] 5))) := below_alloc wr _
        have HNE : Hid (y ≠ 167) := hm
        clear hm
        go_wp2_with (at_builtin; refine wpList_append_rd (by rfl) (.tmp 42) (.tmp 47) (by rfl) w.heap.size x m c L (by rfl) (HO.out.below HA.out) (some ⟨wr.heap.size, 0, none⟩) 1 1 [y] (by rfl) (rd_one wr y hy8) (fun h => by cases h) (by omega) (Nat.le_trans HB.out.size HA.out.size) ?_)
        intro a3 c3 w3 hown3 hgrow3 hbel3
        have HO3 : Hid (Own w3 w.heap.size a3 (m + 1) c3 (L ++ [y])) := hown3
        have HB3 : Hid (Below w.heap.size w w3) := (HB.out.trans (HA.out.mono HB.out.size)).trans hbel3
        clear hown3 hgrow3 hbel3
        go_wp2
        go_roundw
        case rel => exact ⟨i + 1, m + 1, c3, a3, L ++ [y], by omega, by omega, by omega, by go_num, rfl, HO3, (fun z hz => (List.mem_append.1 hz).elim (HNN.out z) (fun h => by rw [List.mem_singleton] at h; rw [h]; exact HNE.out)), HB3⟩
        case measure => simp [intOf]; omega
    · have HL1 : Hid (L.length = m) := HO.out.size
      have HN1 : Hid (∀ y ∈ L, y ≠ 167) := HNN.out
      have hm5 : m ≤ 500 := by omega
      by_cases hi500 : i < len
      · have g1 : (i : Int) < (len : Int) := by omega
        have g2 : ¬ (i : Int) < 500 := by omega
        clear hgo
        go_wp2
        go_loopw [9, 12, 13] (fun t9 t12 t13 wr => ∃ (i mm c : Nat) (x : Option Addr) (ts : List It) (items : List (Nat × List Nat)), i ≤ n ∧ i ≤ 20 ∧ mm ≤ 8000 ∧ ts.length ≤ i ∧ t13 = .int .i64 (i : Int) ∧ t9 = .slice x mm c ∧ Hid (Own wr w.heap.size x mm c (L ++ SealM.seals items)) ∧ Hid (wr.ownsRow w.heap.size 32 3 t12 ts.length (ts.flatMap It.cells)) ∧ Hid (ts.map It.dat = SealM.place items L.length) ∧ Hid (∀ t ∈ ts, Rd w t.a t.q t.body) ∧ Hid (∀ x ∈ items, x.1 < 256 ∧ (∀ y ∈ x.2, y < 256) ∧ x.2.length ≤ 4096) ∧ Hid (Below w.heap.size w wr)) (fun _ _ t13 _ => 20 - (intOf t13).toNat)
        case atStart => exact ⟨0, m, c, x, [], [], by omega, by omega, by omega, by simp, rfl, rfl, (by show Own _ _ _ _ _ _; simpa [SealM.seals] using HO.out), (Found.nil_ wr w.heap.size).row, rfl, (fun t ht => by cases ht), (fun t ht => by cases ht), HB⟩
        case round =>
          clear HO HB
          obtain ⟨i, mm, c, x, ts, items, hin, hi20, hmm, htsl, rfl, rfl, HO2, HRW, HPP, HTB, HIT, HB⟩ := hrel
          by_cases hgo2 : i < n ∧ i < 20
          · have q1 : (i : Int) < (n : Int) := by omega
            have q2 : (i : Int) < 20 := by omega
            obtain ⟨pb, po, rfl, hpb, hpc⟩ := HP.out.cells.resolve_left (by omega)
            obtain ⟨p, hp⟩ : ∃ p, ps[i]? = some p := ⟨_, List.getElem?_eq_getElem (by rw [HP.out.size]; omega)⟩
            have hcx0 : w.cell? ⟨pb, po + i, none⟩ = some (.slice p.a p.l p.c) := hpc i p hp
            have hplm := HPLN.out p (List.mem_of_getElem? hp)
            have HRP : Hid (Rd w p.a p.l p.bs) := (HP.out.body p (List.mem_of_getElem? hp)).1
            obtain ⟨pa, pl, pc, pbs⟩ := p
            simp only at hcx0 hplm HRP
            have hcx : wr.cell? ⟨pb, po + i, none⟩ = some (.slice pa pl pc) := (HB.out.cell (p := ⟨pb, po + i, none⟩) hpb).trans hcx0
            have HPBL : Hid (pbs.length = pl) := HRP.out.size
            clear hp hpc hgo2
            by_cases hpl4 : 4096 < pl
            · go_wp2_with fail
              refine (seal_Seal_long i pa pl pc wr hpl4 hplm).mono ?_
              rintro e wT ⟨rfl, hwT⟩
              subst hwT
              go_wp2
              go_roundw
              case rel => exact ⟨i + 1, mm, c, x, ts, items, by omega, by omega, hmm, by omega, by go_num, rfl, HO2, HRW, HPP, HTB, HIT, HB⟩
              case measure => simp [intOf]; omega
            · go_wp2_with fail
              refine (seal_Seal i (by omega) pa pl pc pbs wr (HRP.out.below HB.out) (by omega) (HT.out.below h0 HB.out) (Nat.lt_of_lt_of_le h0 HB.out.size)).mono ?_
              rintro e w3 ⟨g3, rfl, ho3, hb3⟩
              have HO3 : Hid (Own w3 w.heap.size (some ⟨g3, 0, none⟩) (pl + 8) (pl + 8) (SealM.sealed i pbs)) := ho3.lower HB.out.size
              have HO23 : Hid (Own w3 w.heap.size x mm c (L ++ SealM.seals items)) := HO2.out.below hb3
              have HRW3 : Hid (w3.ownsRow w.heap.size 32 3 u12 ts.length (ts.flatMap It.cells)) := row_below HRW.out hb3
              have HB3 : Hid (Below w.heap.size w w3) := HB.out.trans (hb3.mono HB.out.size)
              have hcx3 : w3.cell? ⟨pb, po + i, none⟩ = some (.slice pa pl pc) := (HB3.out.cell (p := ⟨pb, po + i, none⟩) hpb).trans hcx0
              clear ho3 hb3 hcx hcx0
              by_cases hfit : mm + (pl + 8) ≤ 8000
              · have r1 : (mm : Int) + ((pl : Int) + 8) ≤ 8000 := by omega
                have HA3 : Hid (Below w3.heap.size w3 (w3.alloc (.cells #[.int .u8 (i : Int), .int .i64 (mm : Int), .slice pa pl pc] 32))) := below_alloc w3 _
                have HSZ : Hid (w.heap.size ≤ (w3.alloc (.cells #[.int .u8 (i : Int), .int .i64 (mm : Int), .slice pa pl pc] 32)).heap.size) := Nat.le_trans HB3.out.size HA3.out.size
                go_wp2_with (at_builtin; refine wpList_append_own _ (by rfl) (.tmp 81) (.tmp 91) 27 (by rfl) w.heap.size 32 i0 (.agg #[.int .u8 0, .int .i64 0, .slice none 0 0]) 3 40 Tryd.underlying27 hi hz0 hz1 hz2 (by rfl) (by decide) u12 ts.length (ts.flatMap It.cells) (by rfl) (row_below HRW3.out HA3.out) ⟨w3.heap.size, 0, none⟩ 1 1 (It.cells ⟨i, mm, pa, pl, pc, pbs⟩) (by rfl) (by rfl) ?_ ?_ (by unfold maxLen; omega) (by omega) HSZ.out ?_)
                · intro j u hj
                  match j with
                  | 0 => simp [It.cells] at hj; subst hj; simp [Addr.add]
                  | 1 => simp [It.cells] at hj; subst hj; simp [Addr.add]
                  | 2 => simp [It.cells] at hj; subst hj; simp [Addr.add]
                  | j + 3 => simp [It.cells] at hj
                · exact It.one _
                intro v4 w4 hrow4 hgrow4 _
                have HRW4 : Hid (w4.ownsRow w.heap.size 32 3 v4 (ts ++ [(⟨i, mm, pa, pl, pc, pbs⟩ : It)]).length ((ts ++ [(⟨i, mm, pa, pl, pc, pbs⟩ : It)]).flatMap It.cells)) := by
                  show World.ownsRow _ _ _ _ _ _ _
                  rw [List.length_append, List.flatMap_append]
                  simpa using hrow4
                have HO34 : Hid (Own w4 w.heap.size (some ⟨g3, 0, none⟩) (pl + 8) (pl + 8) (SealM.sealed i pbs)) := (HO3.out.below HA3.out).beside (row_below HRW3.out HA3.out) hgrow4
                have HO24 : Hid (Own w4 w.heap.size x mm c (L ++ SealM.seals items)) := (HO23.out.below HA3.out).beside (row_below HRW3.out HA3.out) hgrow4
                have HB4 : Hid (Below w.heap.size w w4) := (HB3.out.trans (HA3.out.mono HB3.out.size)).trans ((Below.refl _ _).grown hgrow4 HSZ.out (fun k hk => by
                  rcases HRW3.out.2 with ⟨hv, _⟩ | ⟨g, c, cur, hv, hb, _⟩
                  · rw [hv] at hk; cases hk
                  · rw [hv] at hk
                    have : g = k := by simpa [Value.ownBlock] using hk
                    omega))
                clear hrow4 hgrow4
                go_wp2_with (at_builtin; refine wpList_append_rd (by rfl) (.tmp 93) (.tmp 94) (by rfl) w.heap.size x mm c _ (by rfl) HO24.out (some ⟨g3, 0, none⟩) (pl + 8) (pl + 8) (SealM.sealed i pbs) (by rfl) HO34.out.rd (fun h => by cases h) (by omega) HB4.out.size ?_)
                intro a5 c5 w5 hown5 hgrow5 hbel5
                have HRW5 : Hid (w5.ownsRow w.heap.size 32 3 v4 (ts ++ [(⟨i, mm, pa, pl, pc, pbs⟩ : It)]).length ((ts ++ [(⟨i, mm, pa, pl, pc, pbs⟩ : It)]).flatMap It.cells)) := row_beside HRW4.out HO24.out hgrow5
                have HB5 : Hid (Below w.heap.size w w5) := HB4.out.trans hbel5
                have HO5 : Hid (Own w5 w.heap.size a5 (mm + (pl + 8)) c5 (L ++ SealM.seals (items ++ [(i, pbs)]))) := by
                  show Own _ _ _ _ _ _
                  rw [SealM.seals_snoc, ← List.append_assoc]
                  simpa using hown5
                have HML : Hid (L.length + (SealM.seals items).length = mm) := by
                  have := HO23.out.size
                  rw [List.length_append] at this
                  exact this
                have HPP' : Hid ((ts ++ [(⟨i, mm, pa, pl, pc, pbs⟩ : It)]).map It.dat = SealM.place (items ++ [(i, pbs)]) L.length) := by
                  show _ = _
                  rw [List.map_append, HPP.out, SealM.place_snoc, HML.out]
                  rfl
                have HTB' : Hid (∀ t ∈ ts ++ [(⟨i, mm, pa, pl, pc, pbs⟩ : It)], Rd w t.a t.q t.body) := fun t ht => (List.mem_append.1 ht).elim (HTB.out t) (fun h => by rw [List.mem_singleton] at h; subst h; exact HRP.out)
                have HIT' : Hid (∀ x ∈ items ++ [(i, pbs)], x.1 < 256 ∧ (∀ y ∈ x.2, y < 256) ∧ x.2.length ≤ 4096) := fun t ht => (List.mem_append.1 ht).elim (HIT.out t) (fun h => by rw [List.mem_singleton] at h; subst h; exact ⟨by show i < 256; omega, HRP.out.byte, by show pbs.length ≤ 4096; rw [HPBL.out]; omega⟩)
                clear hown5 hgrow5 hbel5
                go_wp2
                go_roundw
                case rel => exact ⟨i + 1, mm + (pl + 8), c5, a5, ts ++ [⟨i, mm, pa, pl, pc, pbs⟩], items ++ [(i, pbs)], by omega, by omega, hfit, by rw [List.length_append]; simp; omega, by go_num, rfl, HO5, HRW5, HPP', HTB', HIT', HB5⟩
                case measure => simp [intOf]; omega
              · have r1 : ¬ (mm : Int) + ((pl : Int) + 8) ≤ 8000 := by omega
                go_wp2
                go_roundw
                case rel => exact ⟨i + 1, mm, c, x, ts, items, by omega, by omega, hmm, by omega, by go_num, rfl, HO23, HRW3, HPP, HTB, HIT, HB3⟩
                case measure => simp [intOf]; omega
          · by_cases hin2 : i < n
            · have q1 : (i : Int) < (n : Int) := by omega
              have q2 : ¬ (i : Int) < 20 := by omega
              clear hgo2
              by_cases htlong : 4096 < tl
              · go_wp2_with fail
                refine (seal_Seal_long 9 ta tl tc wr htlong htl).mono ?_
                rintro e wT ⟨rfl, hwT⟩
                subst hwT
                have HOE : Hid (Own wT w.heap.size x mm c (L ++ SealM.seals items ++ [])) := by rw [List.append_nil]; exact HO2
                go_wp2_with fail
                refine (seal_Scan x (mm) c (L ++ SealM.seals items ++ []) wT HOE.out.rd HOE.out.capOk (by omega) (HT.out.below h0 HB.out) (Nat.lt_of_lt_of_le h0 HB.out.size)).mono ?_
                rintro e wS ⟨vS, tsS, nS, rfl, hfS, hdS, hbS⟩
                have hlenS : (L ++ SealM.seals items ++ []).length = mm := HOE.out.size
                rw [← hlenS, SealM.scan_all L items [] HN1.out HIT.out (by simp)] at hdS
                obtain ⟨hdt, hn5⟩ := Prod.mk.inj hdS
                have HDT : Hid (tsS.map It.dat = ts.map It.dat) := hdt.trans HPP.out.symm
                have hn6 : nS = m + 0 := by rw [hn5, HL1.out]; rfl
                subst hn6
                have HFS : Hid (Found wS wT.heap.size vS tsS) := hfS
                have HBS : Hid (Below w.heap.size w wS) := HB.out.trans (hbS.mono HB.out.size)
                have HRS : Hid (wS.ownsRow w.heap.size 32 3 u12 ts.length (ts.flatMap It.cells)) := row_below HRW.out hbS
                have HTL : Hid (tsS.length ≤ 1000000) := by
                  have h := congrArg List.length HDT.out
                  simp only [List.length_map] at h
                  show _ ≤ _
                  omega
                clear hfS hdS hbS hlenS hdt hn5
                go_wp2_with fail
                refine (lives_any wS (HT.out.below h0 HBS.out) (Nat.lt_of_lt_of_le h0 HBS.out.size)).mono ?_
                rintro e wL ⟨rfl, hbL⟩
                have HFL : Hid (Found wL _ vS tsS) := HFS.out.below hbL
                have HRL : Hid (wL.ownsRow w.heap.size 32 3 u12 ts.length (ts.flatMap It.cells)) := row_below HRS.out hbL
                have HBL : Hid (Below w.heap.size w wL) := HBS.out.trans (hbL.mono HBS.out.size)
                clear hbL
                go_wp2_with fail
                refine (ref_SameAll vS u12 tsS ts wL HFL.out.seen ⟨row_form HRL.out, fun t ht => (HTB.out t ht).below HBL.out⟩ HDT.out HTL.out).mono ?_
                rintro e wM ⟨rfl, hbM⟩
                have HBM : Hid (Below w.heap.size w wM) := HBL.out.trans (hbM.mono HBL.out.size)
                clear hbM
                go_wp2
                go_ret
                exact ⟨by simp, HBM.out⟩
              · go_wp2_with fail
                refine (seal_Seal 9 (by omega) ta tl tc tb wr (HTR.out.below HB.out) (by omega) (HT.out.below h0 HB.out) (Nat.lt_of_lt_of_le h0 HB.out.size)).mono ?_
                rintro e w6 ⟨g6, rfl, ho6, hb6⟩
                have HO6 : Hid (Own w6 w.heap.size x mm c (L ++ SealM.seals items)) := HO2.out.below hb6
                have HRW6 : Hid (w6.ownsRow w.heap.size 32 3 u12 ts.length (ts.flatMap It.cells)) := row_below HRW.out hb6
                have HB6 : Hid (Below w.heap.size w w6) := HB.out.trans (hb6.mono HB.out.size)
                have hc6 : w6.cell? ⟨g6, 0, none⟩ = some (.int .u8 167) := ho6.cell 0 (by omega)
                clear ho6 hb6
                obtain ⟨j, HJ⟩ : ∃ j, Hid (j = K % (tl + 8)) := ⟨_, rfl⟩
                have ej : ((K : Int) % ((tl : Int) + 8)) = (j : Int) := by rw [HJ.out]; rfl
                have gz : ((tl : Int) + 8 == 0) = false := by rw [beq_eq_false_iff_ne]; omega
                have gp : (0 : Int) < (tl : Int) + 8 := by omega
                by_cases hj0 : j = 0
                · have hj0' : ¬ (0 : Int) < (j : Int) := by omega
                  have HOE : Hid (Own w6 w.heap.size x mm c (L ++ SealM.seals items ++ [])) := by rw [List.append_nil]; exact HO6
                  clear hj0
                  go_wp2
                  refine wp_loop_rounds 1 ?_
                  rw [rounds_succ]
                  go_wp2_with fail
                  refine (seal_Scan x (mm) c (L ++ SealM.seals items ++ []) w6 HOE.out.rd HOE.out.capOk (by omega) (HT.out.below h0 HB6.out) (Nat.lt_of_lt_of_le h0 HB6.out.size)).mono ?_
                  rintro e wS ⟨vS, tsS, nS, rfl, hfS, hdS, hbS⟩
                  have hlenS : (L ++ SealM.seals items ++ []).length = mm := HOE.out.size
                  rw [← hlenS, SealM.scan_all L items [] HN1.out HIT.out (by simp)] at hdS
                  obtain ⟨hdt, hn5⟩ := Prod.mk.inj hdS
                  have HDT : Hid (tsS.map It.dat = ts.map It.dat) := hdt.trans HPP.out.symm
                  have hn6 : nS = m + 0 := by rw [hn5, HL1.out]; rfl
                  subst hn6
                  have HFS : Hid (Found wS w6.heap.size vS tsS) := hfS
                  have HBS : Hid (Below w.heap.size w wS) := HB6.out.trans (hbS.mono HB6.out.size)
                  have HRS : Hid (wS.ownsRow w.heap.size 32 3 u12 ts.length (ts.flatMap It.cells)) := row_below HRW6.out hbS
                  have HTL : Hid (tsS.length ≤ 1000000) := by
                    have h := congrArg List.length HDT.out
                    simp only [List.length_map] at h
                    show _ ≤ _
                    omega
                  clear hfS hdS hbS hlenS hdt hn5
                  go_wp2_with fail
                  refine (lives_any wS (HT.out.below h0 HBS.out) (Nat.lt_of_lt_of_le h0 HBS.out.size)).mono ?_
                  rintro e wL ⟨rfl, hbL⟩
                  have HFL : Hid (Found wL _ vS tsS) := HFS.out.below hbL
                  have HRL : Hid (wL.ownsRow w.heap.size 32 3 u12 ts.length (ts.flatMap It.cells)) := row_below HRS.out hbL
                  have HBL : Hid (Below w.heap.size w wL) := HBS.out.trans (hbL.mono HBS.out.size)
                  clear hbL
                  go_wp2_with fail
                  refine (ref_SameAll vS u12 tsS ts wL HFL.out.seen ⟨row_form HRL.out, fun t ht => (HTB.out t ht).below HBL.out⟩ HDT.out HTL.out).mono ?_
                  rintro e wM ⟨rfl, hbM⟩
                  have HBM : Hid (Below w.heap.size w wM) := HBL.out.trans (hbM.mono HBL.out.size)
                  clear hbM
                  go_wp2
                  go_ret
                  exact ⟨by simp, HBM.out⟩
                · have hj0' : (0 : Int) < (j : Int) := by omega
                  have HA6 : Hid (Below w6.heap.size w6 (w6.alloc (.cells #[.int .u8 167] 5))) := below_alloc w6 _
                  by_cases hj1 : 1 < j
                  · have hj1' : (1 : Int) < (j : Int) := by omega
                    clear hj0 hj1
                    go_wp2
                    refine wp_loop_rounds 2 ?_
                    rw [rounds_succ]
                    go_wp2_with (at_builtin; refine wpList_append_rd (by rfl) (.tmp 121) (.tmp 126) (by rfl) w.heap.size x mm c _ (by rfl) (HO6.out.below HA6.out) (some ⟨w6.heap.size, 0, none⟩) 1 1 [167] (by rfl) (rd_one w6 167 (by omega)) (fun h => by cases h) (by omega) (Nat.le_trans HB6.out.size HA6.out.size) ?_)
                    intro a7 c7 w7 hown7 hgrow7 hbel7
                    have HO7 : Hid (Own w7 w.heap.size a7 (mm + 1) c7 (L ++ SealM.seals items ++ [167])) := by
                      show Own _ _ _ _ _ _
                      simpa using hown7
                    have HRW7 : Hid (w7.ownsRow w.heap.size 32 3 u12 ts.length (ts.flatMap It.cells)) := row_beside (row_below HRW6.out HA6.out) (HO6.out.below HA6.out) hgrow7
                    have HB7 : Hid (Below w.heap.size w w7) := (HB6.out.trans (HA6.out.mono HB6.out.size)).trans hbel7
                    clear hown7 hgrow7 hbel7
                    go_wp2
                    rw [rounds_succ]
                    go_wp2_with fail
                    refine (seal_Scan a7 (mm + 1) c7 (L ++ SealM.seals items ++ [167]) w7 HO7.out.rd HO7.out.capOk (by omega) (HT.out.below h0 HB7.out) (Nat.lt_of_lt_of_le h0 HB7.out.size)).mono ?_
                    rintro e wS ⟨vS, tsS, nS, rfl, hfS, hdS, hbS⟩
                    have hlenS : (L ++ SealM.seals items ++ [167]).length = mm + 1 := HO7.out.size
                    rw [← hlenS, SealM.scan_all L items [167] HN1.out HIT.out (by simp)] at hdS
                    obtain ⟨hdt, hn5⟩ := Prod.mk.inj hdS
                    have HDT : Hid (tsS.map It.dat = ts.map It.dat) := hdt.trans HPP.out.symm
                    have hn6 : nS = m + 1 := by rw [hn5, HL1.out]; rfl
                    subst hn6
                    have HFS : Hid (Found wS w7.heap.size vS tsS) := hfS
                    have HBS : Hid (Below w.heap.size w wS) := HB7.out.trans (hbS.mono HB7.out.size)
                    have HRS : Hid (wS.ownsRow w.heap.size 32 3 u12 ts.length (ts.flatMap It.cells)) := row_below HRW7.out hbS
                    have HTL : Hid (tsS.length ≤ 1000000) := by
                      have h := congrArg List.length HDT.out
                      simp only [List.length_map] at h
                      show _ ≤ _
                      omega
                    clear hfS hdS hbS hlenS hdt hn5
                    go_wp2_with fail
                    refine (lives_any wS (HT.out.below h0 HBS.out) (Nat.lt_of_lt_of_le h0 HBS.out.size)).mono ?_
                    rintro e wL ⟨rfl, hbL⟩
                    have HFL : Hid (Found wL _ vS tsS) := HFS.out.below hbL
                    have HRL : Hid (wL.ownsRow w.heap.size 32 3 u12 ts.length (ts.flatMap It.cells)) := row_below HRS.out hbL
                    have HBL : Hid (Below w.heap.size w wL) := HBS.out.trans (hbL.mono HBS.out.size)
                    clear hbL
                    go_wp2_with fail
                    refine (ref_SameAll vS u12 tsS ts wL HFL.out.seen ⟨row_form HRL.out, fun t ht => (HTB.out t ht).below HBL.out⟩ HDT.out HTL.out).mono ?_
                    rintro e wM ⟨rfl, hbM⟩
                    have HBM : Hid (Below w.heap.size w wM) := HBL.out.trans (hbM.mono HBL.out.size)
                    clear hbM
                    go_wp2
                    go_ret
                    exact ⟨by simp, HBM.out⟩
                  · have hj1' : ¬ (1 : Int) < (j : Int) := by omega
                    clear hj0 hj1
                    go_wp2
                    refine wp_loop_rounds 2 ?_
                    rw [rounds_succ]
                    go_wp2_with (at_builtin; refine wpList_append_rd (by rfl) (.tmp 121) (.tmp 126) (by rfl) w.heap.size x mm c _ (by rfl) (HO6.out.below HA6.out) (some ⟨w6.heap.size, 0, none⟩) 1 1 [167] (by rfl) (rd_one w6 167 (by omega)) (fun h => by cases h) (by omega) (Nat.le_trans HB6.out.size HA6.out.size) ?_)
                    intro a7 c7 w7 hown7 hgrow7 hbel7
                    have HO7 : Hid (Own w7 w.heap.size a7 (mm + 1) c7 (L ++ SealM.seals items ++ [167])) := by
                      show Own _ _ _ _ _ _
                      simpa using hown7
                    have HRW7 : Hid (w7.ownsRow w.heap.size 32 3 u12 ts.length (ts.flatMap It.cells)) := row_beside (row_below HRW6.out HA6.out) (HO6.out.below HA6.out) hgrow7
                    have HB7 : Hid (Below w.heap.size w w7) := (HB6.out.trans (HA6.out.mono HB6.out.size)).trans hbel7
                    clear hown7 hgrow7 hbel7
                    go_wp2
                    rw [rounds_succ]
                    go_wp2_with fail
                    refine (seal_Scan a7 (mm + 1) c7 (L ++ SealM.seals items ++ [167]) w7 HO7.out.rd HO7.out.capOk (by omega) (HT.out.below h0 HB7.out) (Nat.lt_of_lt_of_le h0 HB7.out.size)).mono ?_
                    rintro e wS ⟨vS, tsS, nS, rfl, hfS, hdS, hbS⟩
                    have hlenS : (L ++ SealM.seals items ++ [167]).length = mm + 1 := HO7.out.size
                    rw [← hlenS, SealM.scan_all L items [167] HN1.out HIT.out (by simp)] at hdS
                    obtain ⟨hdt, hn5⟩ := Prod.mk.inj hdS
                    have HDT : Hid (tsS.map It.dat = ts.map It.dat) := hdt.trans HPP.out.symm
                    have hn6 : nS = m + 1 := by rw [hn5, HL1.out]; rfl
                    subst hn6
                    have HFS : Hid (Found wS w7.heap.size vS tsS) := hfS
                    have HBS : Hid (Below w.heap.size w wS) := HB7.out.trans (hbS.mono HB7.out.size)
                    have HRS : Hid (wS.ownsRow w.heap.size 32 3 u12 ts.length (ts.flatMap It.cells)) := row_below HRW7.out hbS
                    have HTL : Hid (tsS.length ≤ 1000000) := by
                      have h := congrArg List.length HDT.out
                      simp only [List.length_map] at h
                      show _ ≤ _
                      omega
                    clear hfS hdS hbS hlenS hdt hn5
                    go_wp2_with fail
                    refine (lives_any wS (HT.out.below h0 HBS.out) (Nat.lt_of_lt_of_le h0 HBS.out.size)).mono ?_
                    rintro e wL ⟨rfl, hbL⟩
                    have HFL : Hid (Found wL _ vS tsS) := HFS.out.below hbL
                    have HRL : Hid (wL.ownsRow w.heap.size 32 3 u12 ts.length (ts.flatMap It.cells)) := row_below HRS.out hbL
                    have HBL : Hid (Below w.heap.size w wL) := HBS.out.trans (hbL.mono HBS.out.size)
                    clear hbL
                    go_wp2_with fail
                    refine (ref_SameAll vS u12 tsS ts wL HFL.out.seen ⟨row_form HRL.out, fun t ht => (HTB.out t ht).below HBL.out⟩ HDT.out HTL.out).mono ?_
                    rintro e wM ⟨rfl, hbM⟩
                    have HBM : Hid (Below w.heap.size w wM) := HBL.out.trans (hbM.mono HBL.out.size)
                    clear hbM
                    go_wp2
                    go_ret
                    exact ⟨by simp, HBM.out⟩
            · have q1 : ¬ (i : Int) < (n : Int) := by omega
              clear hgo2
              by_cases htlong : 4096 < tl
              · go_wp2_with fail
                refine (seal_Seal_long 9 ta tl tc wr htlong htl).mono ?_
                rintro e wT ⟨rfl, hwT⟩
                subst hwT
                have HOE : Hid (Own wT w.heap.size x mm c (L ++ SealM.seals items ++ [])) := by rw [List.append_nil]; exact HO2
                go_wp2_with fail
                refine (seal_Scan x (mm) c (L ++ SealM.seals items ++ []) wT HOE.out.rd HOE.out.capOk (by omega) (HT.out.below h0 HB.out) (Nat.lt_of_lt_of_le h0 HB.out.size)).mono ?_
                rintro e wS ⟨vS, tsS, nS, rfl, hfS, hdS, hbS⟩
                have hlenS : (L ++ SealM.seals items ++ []).length = mm := HOE.out.size
                rw [← hlenS, SealM.scan_all L items [] HN1.out HIT.out (by simp)] at hdS
                obtain ⟨hdt, hn5⟩ := Prod.mk.inj hdS
                have HDT : Hid (tsS.map It.dat = ts.map It.dat) := hdt.trans HPP.out.symm
                have hn6 : nS = m + 0 := by rw [hn5, HL1.out]; rfl
                subst hn6
                have HFS : Hid (Found wS wT.heap.size vS tsS) := hfS
                have HBS : Hid (Below w.heap.size w wS) := HB.out.trans (hbS.mono HB.out.size)
                have HRS : Hid (wS.ownsRow w.heap.size 32 3 u12 ts.length (ts.flatMap It.cells)) := row_below HRW.out hbS
                have HTL : Hid (tsS.length ≤ 1000000) := by
                  have h := congrArg List.length HDT.out
                  simp only [List.length_map] at h
                  show _ ≤ _
                  omega
                clear hfS hdS hbS hlenS hdt hn5
                go_wp2_with fail
                refine (lives_any wS (HT.out.below h0 HBS.out) (Nat.lt_of_lt_of_le h0 HBS.out.size)).mono ?_
                rintro e wL ⟨rfl, hbL⟩
                have HFL : Hid (Found wL _ vS tsS) := HFS.out.below hbL
                have HRL : Hid (wL.ownsRow w.heap.size 32 3 u12 ts.length (ts.flatMap It.cells)) := row_below HRS.out hbL
                have HBL : Hid (Below w.heap.size w wL) := HBS.out.trans (hbL.mono HBS.out.size)
                clear hbL
                go_wp2_with fail
                refine (ref_SameAll vS u12 tsS ts wL HFL.out.seen ⟨row_form HRL.out, fun t ht => (HTB.out t ht).below HBL.out⟩ HDT.out HTL.out).mono ?_
                rintro e wM ⟨rfl, hbM⟩
                have HBM : Hid (Below w.heap.size w wM) := HBL.out.trans (hbM.mono HBL.out.size)
                clear hbM
                go_wp2
                go_ret
                exact ⟨by simp, HBM.out⟩
              · go_wp2_with fail
                refine (seal_Seal 9 (by omega) ta tl tc tb wr (HTR.out.below HB.out) (by omega) (HT.out.below h0 HB.out) (Nat.lt_of_lt_of_le h0 HB.out.size)).mono ?_
                rintro e w6 ⟨g6, rfl, ho6, hb6⟩
                have HO6 : Hid (Own w6 w.heap.size x mm c (L ++ SealM.seals items)) := HO2.out.below hb6
                have HRW6 : Hid (w6.ownsRow w.heap.size 32 3 u12 ts.length (ts.flatMap It.cells)) := row_below HRW.out hb6
                have HB6 : Hid (Below w.heap.size w w6) := HB.out.trans (hb6.mono HB.out.size)
                have hc6 : w6.cell? ⟨g6, 0, none⟩ = some (.int .u8 167) := ho6.cell 0 (by omega)
                clear ho6 hb6
                obtain ⟨j, HJ⟩ : ∃ j, Hid (j = K % (tl + 8)) := ⟨_, rfl⟩
                have ej : ((K : Int) % ((tl : Int) + 8)) = (j : Int) := by rw [HJ.out]; rfl
                have gz : ((tl : Int) + 8 == 0) = false := by rw [beq_eq_false_iff_ne]; omega
                have gp : (0 : Int) < (tl : Int) + 8 := by omega
                by_cases hj0 : j = 0
                · have hj0' : ¬ (0 : Int) < (j : Int) := by omega
                  have HOE : Hid (Own w6 w.heap.size x mm c (L ++ SealM.seals items ++ [])) := by rw [List.append_nil]; exact HO6
                  clear hj0
                  go_wp2
                  refine wp_loop_rounds 1 ?_
                  rw [rounds_succ]
                  go_wp2_with fail
                  refine (seal_Scan x (mm) c (L ++ SealM.seals items ++ []) w6 HOE.out.rd HOE.out.capOk (by omega) (HT.out.below h0 HB6.out) (Nat.lt_of_lt_of_le h0 HB6.out.size)).mono ?_
                  rintro e wS ⟨vS, tsS, nS, rfl, hfS, hdS, hbS⟩
                  have hlenS : (L ++ SealM.seals items ++ []).length = mm := HOE.out.size
                  rw [← hlenS, SealM.scan_all L items [] HN1.out HIT.out (by simp)] at hdS
                  obtain ⟨hdt, hn5⟩ := Prod.mk.inj hdS
                  have HDT : Hid (tsS.map It.dat = ts.map It.dat) := hdt.trans HPP.out.symm
                  have hn6 : nS = m + 0 := by rw [hn5, HL1.out]; rfl
                  subst hn6
                  have HFS : Hid (Found wS w6.heap.size vS tsS) := hfS
                  have HBS : Hid (Below w.heap.size w wS) := HB6.out.trans (hbS.mono HB6.out.size)
                  have HRS : Hid (wS.ownsRow w.heap.size 32 3 u12 ts.length (ts.flatMap It.cells)) := row_below HRW6.out hbS
                  have HTL : Hid (tsS.length ≤ 1000000) := by
                    have h := congrArg List.length HDT.out
                    simp only [List.length_map] at h
                    show _ ≤ _
                    omega
                  clear hfS hdS hbS hlenS hdt hn5
                  go_wp2_with fail
                  refine (lives_any wS (HT.out.below h0 HBS.out) (Nat.lt_of_lt_of_le h0 HBS.out.size)).mono ?_
                  rintro e wL ⟨rfl, hbL⟩
                  have HFL : Hid (Found wL _ vS tsS) := HFS.out.below hbL
                  have HRL : Hid (wL.ownsRow w.heap.size 32 3 u12 ts.length (ts.flatMap It.cells)) := row_below HRS.out hbL
                  have HBL : Hid (Below w.heap.size w wL) := HBS.out.trans (hbL.mono HBS.out.size)
                  clear hbL
                  go_wp2_with fail
                  refine (ref_SameAll vS u12 tsS ts wL HFL.out.seen ⟨row_form HRL.out, fun t ht => (HTB.out t ht).below HBL.out⟩ HDT.out HTL.out).mono ?_
                  rintro e wM ⟨rfl, hbM⟩
                  have HBM : Hid (Below w.heap.size w wM) := HBL.out.trans (hbM.mono HBL.out.size)
                  clear hbM
                  go_wp2
                  go_ret
                  exact ⟨by simp, HBM.out⟩
                · have hj0' : (0 : Int) < (j : Int) := by omega
                  have HA6 : Hid (Below w6.heap.size w6 (w6.alloc (.cells #[.int .u8 167] 5))) := below_alloc w6 _
                  by_cases hj1 : 1 < j
                  · have hj1' : (1 : Int) < (j : Int) := by omega
                    clear hj0 hj1
                    go_wp2
                    refine wp_loop_rounds 2 ?_
                    rw [rounds_succ]
                    go_wp2_with (at_builtin; refine wpList_append_rd (by rfl) (.tmp 121) (.tmp 126) (by rfl) w.heap.size x mm c _ (by rfl) (HO6.out.below HA6.out) (some ⟨w6.heap.size, 0, none⟩) 1 1 [167] (by rfl) (rd_one w6 167 (by omega)) (fun h => by cases h) (by omega) (Nat.le_trans HB6.out.size HA6.out.size) ?_)
                    intro a7 c7 w7 hown7 hgrow7 hbel7
                    have HO7 : Hid (Own w7 w.heap.size a7 (mm + 1) c7 (L ++ SealM.seals items ++ [167])) := by
                      show Own _ _ _ _ _ _
                      simpa using hown7
                    have HRW7 : Hid (w7.ownsRow w.heap.size 32 3 u12 ts.length (ts.flatMap It.cells)) := row_beside (row_below HRW6.out HA6.out) (HO6.out.below HA6.out) hgrow7
                    have HB7 : Hid (Below w.heap.size w w7) := (HB6.out.trans (HA6.out.mono HB6.out.size)).trans hbel7
                    clear hown7 hgrow7 hbel7
                    go_wp2
                    rw [rounds_succ]
                    go_wp2_with fail
                    refine (seal_Scan a7 (mm + 1) c7 (L ++ SealM.seals items ++ [167]) w7 HO7.out.rd HO7.out.capOk (by omega) (HT.out.below h0 HB7.out) (Nat.lt_of_lt_of_le h0 HB7.out.size)).mono ?_
                    rintro e wS ⟨vS, tsS, nS, rfl, hfS, hdS, hbS⟩
                    have hlenS : (L ++ SealM.seals items ++ [167]).length = mm + 1 := HO7.out.size
                    rw [← hlenS, SealM.scan_all L items [167] HN1.out HIT.out (by simp)] at hdS
                    obtain ⟨hdt, hn5⟩ := Prod.mk.inj hdS
                    have HDT : Hid (tsS.map It.dat = ts.map It.dat) := hdt.trans HPP.out.symm
                    have hn6 : nS = m + 1 := by rw [hn5, HL1.out]; rfl
                    subst hn6
                    have HFS : Hid (Found wS w7.heap.size vS tsS) := hfS
                    have HBS : Hid (Below w.heap.size w wS) := HB7.out.trans (hbS.mono HB7.out.size)
                    have HRS : Hid (wS.ownsRow w.heap.size 32 3 u12 ts.length (ts.flatMap It.cells)) := row_below HRW7.out hbS
                    have HTL : Hid (tsS.length ≤ 1000000) := by
                      have h := congrArg List.length HDT.out
                      simp only [List.length_map] at h
                      show _ ≤ _
                      omega
                    clear hfS hdS hbS hlenS hdt hn5
                    go_wp2_with fail
                    refine (lives_any wS (HT.out.below h0 HBS.out) (Nat.lt_of_lt_of_le h0 HBS.out.size)).mono ?_
                    rintro e wL ⟨rfl, hbL⟩
                    have HFL : Hid (Found wL _ vS tsS) := HFS.out.below hbL
                    have HRL : Hid (wL.ownsRow w.heap.size 32 3 u12 ts.length (ts.flatMap It.cells)) := row_below HRS.out hbL
                    have HBL : Hid (Below w.heap.size w wL) := HBS.out.trans (hbL.mono HBS.out.size)
                    clear hbL
                    go_wp2_with fail
                    refine (ref_SameAll vS u12 tsS ts wL HFL.out.seen ⟨row_form HRL.out, fun t ht => (HTB.out t ht).below HBL.out⟩ HDT.out HTL.out).mono ?_
                    rintro e wM ⟨rfl, hbM⟩
                    have HBM : Hid (Below w.heap.size w wM) := HBL.out.trans (hbM.mono HBL.out.size)
                    clear hbM
                    go_wp2
                    go_ret
                    exact ⟨by simp, HBM.out⟩
                  · have hj1' : ¬ (1 : Int) < (j : Int) := by omega
                    clear hj0 hj1
                    go_wp2
                    refine wp_loop_rounds 2 ?_
                    rw [rounds_succ]
                    go_wp2_with (at_builtin; refine wpList_append_rd (by rfl) (.tmp 121) (.tmp 126) (by rfl) w.heap.size x mm c _ (by rfl) (HO6.out.below HA6.out) (some ⟨w6.heap.size, 0, none⟩) 1 1 [167] (by rfl) (rd_one w6 167 (by omega)) (fun h => by cases h) (by omega) (Nat.le_trans HB6.out.size HA6.out.size) ?_)
                    intro a7 c7 w7 hown7 hgrow7 hbel7
                    have HO7 : Hid (Own w7 w.heap.size a7 (mm + 1) c7 (L ++ SealM.seals items ++ [167])) := by
                      show Own _ _ _ _ _ _
                      simpa using hown7
                    have HRW7 : Hid (w7.ownsRow w.heap.size 32 3 u12 ts.length (ts.flatMap It.cells)) := row_beside (row_below HRW6.out HA6.out) (HO6.out.below HA6.out) hgrow7
                    have HB7 : Hid (Below w.heap.size w w7) := (HB6.out.trans (HA6.out.mono HB6.out.size)).trans hbel7
                    clear hown7 hgrow7 hbel7
                    go_wp2
                    rw [rounds_succ]
                    go_wp2_with fail
                    refine (seal_Scan a7 (mm + 1) c7 (L ++ SealM.seals items ++ [167]) w7 HO7.out.rd HO7.out.capOk (by omega) (HT.out.below h0 HB7.out) (Nat.lt_of_lt_of_le h0 HB7.out.size)).mono ?_
                    rintro e wS ⟨vS, tsS, nS, rfl, hfS, hdS, hbS⟩
                    have hlenS : (L ++ SealM.seals items ++ [167]).length = mm + 1 := HO7.out.size
                    rw [← hlenS, SealM.scan_all L items [167] HN1.out HIT.out (by simp)] at hdS
                    obtain ⟨hdt, hn5⟩ := Prod.mk.inj hdS
                    have HDT : Hid (tsS.map It.dat = ts.map It.dat) := hdt.trans HPP.out.symm
                    have hn6 : nS = m + 1 := by rw [hn5, HL1.out]; rfl
                    subst hn6
                    have HFS : Hid (Found wS w7.heap.size vS tsS) := hfS
                    have HBS : Hid (Below w.heap.size w wS) := HB7.out.trans (hbS.mono HB7.out.size)
                    have HRS : Hid (wS.ownsRow w.heap.size 32 3 u12 ts.length (ts.flatMap It.cells)) := row_below HRW7.out hbS
                    have HTL : Hid (tsS.length ≤ 1000000) := by
                      have h := congrArg List.length HDT.out
                      simp only [List.length_map] at h
                      show _ ≤ _
                      omega
                    clear hfS hdS hbS hlenS hdt hn5
                    go_wp2_with fail
                    refine (lives_any wS (HT.out.below h0 HBS.out) (Nat.lt_of_lt_of_le h0 HBS.out.size)).mono ?_
                    rintro e wL ⟨rfl, hbL⟩
                    have HFL : Hid (Found wL _ vS tsS) := HFS.out.below hbL
                    have HRL : Hid (wL.ownsRow w.heap.size 32 3 u12 ts.length (ts.flatMap It.cells)) := row_below HRS.out hbL
                    have HBL : Hid (Below w.heap.size w wL) := HBS.out.trans (hbL.mono HBS.out.size)
                    clear hbL
                    go_wp2_with fail
                    refine (ref_SameAll vS u12 tsS ts wL HFL.out.seen ⟨row_form HRL.out, fun t ht => (HTB.out t ht).below HBL.out⟩ HDT.out HTL.out).mono ?_
                    rintro e wM ⟨rfl, hbM⟩
                    have HBM : Hid (Below w.heap.size w wM) := HBL.out.trans (hbM.mono HBL.out.size)
                    clear hbM
                    go_wp2
                    go_ret
                    exact ⟨by simp, HBM.out⟩
      · have g1 : ¬ (i : Int) < (len : Int) := by omega
        clear hgo
        go_wp2
        go_loopw [9, 12, 13] (fun t9 t12 t13 wr => ∃ (i mm c : Nat) (x : Option Addr) (ts : List It) (items : List (Nat × List Nat)), i ≤ n ∧ i ≤ 20 ∧ mm ≤ 8000 ∧ ts.length ≤ i ∧ t13 = .int .i64 (i : Int) ∧ t9 = .slice x mm c ∧ Hid (Own wr w.heap.size x mm c (L ++ SealM.seals items)) ∧ Hid (wr.ownsRow w.heap.size 32 3 t12 ts.length (ts.flatMap It.cells)) ∧ Hid (ts.map It.dat = SealM.place items L.length) ∧ Hid (∀ t ∈ ts, Rd w t.a t.q t.body) ∧ Hid (∀ x ∈ items, x.1 < 256 ∧ (∀ y ∈ x.2, y < 256) ∧ x.2.length ≤ 4096) ∧ Hid (Below w.heap.size w wr)) (fun _ _ t13 _ => 20 - (intOf t13).toNat)
        case atStart => exact ⟨0, m, c, x, [], [], by omega, by omega, by omega, by simp, rfl, rfl, (by show Own _ _ _ _ _ _; simpa [SealM.seals] using HO.out), (Found.nil_ wr w.heap.size).row, rfl, (fun t ht => by cases ht), (fun t ht => by cases ht), HB⟩
        case round =>
          clear HO HB
          obtain ⟨i, mm, c, x, ts, items, hin, hi20, hmm, htsl, rfl, rfl, HO2, HRW, HPP, HTB, HIT, HB⟩ := hrel
          by_cases hgo2 : i < n ∧ i < 20
          · have q1 : (i : Int) < (n : Int) := by omega
            have q2 : (i : Int) < 20 := by omega
            obtain ⟨pb, po, rfl, hpb, hpc⟩ := HP.out.cells.resolve_left (by omega)
            obtain ⟨p, hp⟩ : ∃ p, ps[i]? = some p := ⟨_, List.getElem?_eq_getElem (by rw [HP.out.size]; omega)⟩
            have hcx0 : w.cell? ⟨pb, po + i, none⟩ = some (.slice p.a p.l p.c) := hpc i p hp
            have hplm := HPLN.out p (List.mem_of_getElem? hp)
            have HRP : Hid (Rd w p.a p.l p.bs) := (HP.out.body p (List.mem_of_getElem? hp)).1
            obtain ⟨pa, pl, pc, pbs⟩ := p
            simp only at hcx0 hplm HRP
            have hcx : wr.cell? ⟨pb, po + i, none⟩ = some (.slice pa pl pc) := (HB.out.cell (p := ⟨pb, po + i, none⟩) hpb).trans hcx0
            have HPBL : Hid (pbs.length = pl) := HRP.out.size
            clear hp hpc hgo2
            by_cases hpl4 : 4096 < pl
            · go_wp2_with fail
              refine (seal_Seal_long i pa pl pc wr hpl4 hplm).mono ?_
              rintro e wT ⟨rfl, hwT⟩
              subst hwT
              go_wp2
              go_roundw
              case rel => exact ⟨i + 1, mm, c, x, ts, items, by omega, by omega, hmm, by omega, by go_num, rfl, HO2, HRW, HPP, HTB, HIT, HB⟩
              case measure => simp [intOf]; omega
            · go_wp2_with fail
              refine (seal_Seal i (by omega) pa pl pc pbs wr (HRP.out.below HB.out) (by omega) (HT.out.below h0 HB.out) (Nat.lt_of_lt_of_le h0 HB.out.size)).mono ?_
              rintro e w3 ⟨g3, rfl, ho3, hb3⟩
              have HO3 : Hid (Own w3 w.heap.size (some ⟨g3, 0, none⟩) (pl + 8) (pl + 8) (SealM.sealed i pbs)) := ho3.lower HB.out.size
              have HO23 : Hid (Own w3 w.heap.size x mm c (L ++ SealM.seals items)) := HO2.out.below hb3
              have HRW3 : Hid (w3.ownsRow w.heap.size 32 3 u12 ts.length (ts.flatMap It.cells)) := row_below HRW.out hb3
              have HB3 : Hid (Below w.heap.size w w3) := HB.out.trans (hb3.mono HB.out.size)
              have hcx3 : w3.cell? ⟨pb, po + i, none⟩ = some (.slice pa pl pc) := (HB3.out.cell (p := ⟨pb, po + i, none⟩) hpb).trans hcx0
              clear ho3 hb3 hcx hcx0
              by_cases hfit : mm + (pl + 8) ≤ 8000
              · have r1 : (mm : Int) + ((pl : Int) + 8) ≤ 8000 := by omega
                have HA3 : Hid (Below w3.heap.size w3 (w3.alloc (.cells #[.int .u8 (i : Int), .int .i64 (mm : Int), .slice pa pl pc] 32))) := below_alloc w3 _
                have HSZ : Hid (w.heap.size ≤ (w3.alloc (.cells #[.int .u8 (i : Int), .int .i64 (mm : Int), .slice pa pl pc] 32)).heap.size) := Nat.le_trans HB3.out.size HA3.out.size
                go_wp2_with (at_builtin; refine wpList_append_own _ (by rfl) (.tmp 81) (.tmp 91) 27 (by rfl) w.heap.size 32 i0 (.agg #[.int .u8 0, .int .i64 0, .slice none 0 0]) 3 40 Tryd.underlying27 hi hz0 hz1 hz2 (by rfl) (by decide) u12 ts.length (ts.flatMap It.cells) (by rfl) (row_below HRW3.out HA3.out) ⟨w3.heap.size, 0, none⟩ 1 1 (It.cells ⟨i, mm, pa, pl, pc, pbs⟩) (by rfl) (by rfl) ?_ ?_ (by unfold maxLen; omega) (by omega) HSZ.out ?_)
                · intro j u hj
                  match j with
                  | 0 => simp [It.cells] at hj; subst hj; simp [Addr.add]
                  | 1 => simp [It.cells] at hj; subst hj; simp [Addr.add]
                  | 2 => simp [It.cells] at hj; subst hj; simp [Addr.add]
                  | j + 3 => simp [It.cells] at hj
                · exact It.one _
                intro v4 w4 hrow4 hgrow4 _
                have HRW4 : Hid (w4.ownsRow w.heap.size 32 3 v4 (ts ++ [(⟨i, mm, pa, pl, pc, pbs⟩ : It)]).length ((ts ++ [(⟨i, mm, pa, pl, pc, pbs⟩ : It)]).flatMap It.cells)) := by
                  show World.ownsRow _ _ _ _ _ _ _
                  rw [List.length_append, List.flatMap_append]
                  simpa using hrow4
                have HO34 : Hid (Own w4 w.heap.size (some ⟨g3, 0, none⟩) (pl + 8) (pl + 8) (SealM.sealed i pbs)) := (HO3.out.below HA3.out).beside (row_below HRW3.out HA3.out) hgrow4
                have HO24 : Hid (Own w4 w.heap.size x mm c (L ++ SealM.seals items)) := (HO23.out.below HA3.out).beside (row_below HRW3.out HA3.out) hgrow4
                have HB4 : Hid (Below w.heap.size w w4) := (HB3.out.trans (HA3.out.mono HB3.out.size)).trans ((Below.refl _ _).grown hgrow4 HSZ.out (fun k hk => by
                  rcases HRW3.out.2 with ⟨hv, _⟩ | ⟨g, c, cur, hv, hb, _⟩
                  · rw [hv] at hk; cases hk
                  · rw [hv] at hk
                    have : g = k := by simpa [Value.ownBlock] using hk
                    omega))
                clear hrow4 hgrow4
                go_wp2_with (at_builtin; refine wpList_append_rd (by rfl) (.tmp 93) (.tmp 94) (by rfl) w.heap.size x mm c _ (by rfl) HO24.out (some ⟨g3, 0, none⟩) (pl + 8) (pl + 8) (SealM.sealed i pbs) (by rfl) HO34.out.rd (fun h => by cases h) (by omega) HB4.out.size ?_)
                intro a5 c5 w5 hown5 hgrow5 hbel5
                have HRW5 : Hid (w5.ownsRow w.heap.size 32 3 v4 (ts ++ [(⟨i, mm, pa, pl, pc, pbs⟩ : It)]).length ((ts ++ [(⟨i, mm, pa, pl, pc, pbs⟩ : It)]).flatMap It.cells)) := row_beside HRW4.out HO24.out hgrow5
                have HB5 : Hid (Below w.heap.size w w5) := HB4.out.trans hbel5
                have HO5 : Hid (Own w5 w.heap.size a5 (mm + (pl + 8)) c5 (L ++ SealM.seals (items ++ [(i, pbs)]))) := by
                  show Own _ _ _ _ _ _
                  rw [SealM.seals_snoc, ← List.append_assoc]
                  simpa using hown5
                have HML : Hid (L.length + (SealM.seals items).length = mm) := by
                  have := HO23.out.size
                  rw [List.length_append] at this
                  exact this
                have HPP' : Hid ((ts ++ [(⟨i, mm, pa, pl, pc, pbs⟩ : It)]).map It.dat = SealM.place (items ++ [(i, pbs)]) L.length) := by
                  show _ = _
                  rw [List.map_append, HPP.out, SealM.place_snoc, HML.out]
                  rfl
                have HTB' : Hid (∀ t ∈ ts ++ [(⟨i, mm, pa, pl, pc, pbs⟩ : It)], Rd w t.a t.q t.body) := fun t ht => (List.mem_append.1 ht).elim (HTB.out t) (fun h => by rw [List.mem_singleton] at h; subst h; exact HRP.out)
                have HIT' : Hid (∀ x ∈ items ++ [(i, pbs)], x.1 < 256 ∧ (∀ y ∈ x.2, y < 256) ∧ x.2.length ≤ 4096) := fun t ht => (List.mem_append.1 ht).elim (HIT.out t) (fun h => by rw [List.mem_singleton] at h; subst h; exact ⟨by show i < 256; omega, HRP.out.byte, by show pbs.length ≤ 4096; rw [HPBL.out]; omega⟩)
                clear hown5 hgrow5 hbel5
                go_wp2
                go_roundw
                case rel => exact ⟨i + 1, mm + (pl + 8), c5, a5, ts ++ [⟨i, mm, pa, pl, pc, pbs⟩], items ++ [(i, pbs)], by omega, by omega, hfit, by rw [List.length_append]; simp; omega, by go_num, rfl, HO5, HRW5, HPP', HTB', HIT', HB5⟩
                case measure => simp [intOf]; omega
              · have r1 : ¬ (mm : Int) + ((pl : Int) + 8) ≤ 8000 := by omega
                go_wp2
                go_roundw
                case rel => exact ⟨i + 1, mm, c, x, ts, items, by omega, by omega, hmm, by omega, by go_num, rfl, HO23, HRW3, HPP, HTB, HIT, HB3⟩
                case measure => simp [intOf]; omega
          · by_cases hin2 : i < n
            · have q1 : (i : Int) < (n : Int) := by omega
              have q2 : ¬ (i : Int) < 20 := by omega
              clear hgo2
              by_cases htlong : 4096 < tl
              · go_wp2_with fail
                refine (seal_Seal_long 9 ta tl tc wr htlong htl).mono ?_
                rintro e wT ⟨rfl, hwT⟩
                subst hwT
                have HOE : Hid (Own wT w.heap.size x mm c (L ++ SealM.seals items ++ [])) := by rw [List.append_nil]; exact HO2
                go_wp2_with fail
                refine (seal_Scan x (mm) c (L ++ SealM.seals items ++ []) wT HOE.out.rd HOE.out.capOk (by omega) (HT.out.below h0 HB.out) (Nat.lt_of_lt_of_le h0 HB.out.size)).mono ?_
                rintro e wS ⟨vS, tsS, nS, rfl, hfS, hdS, hbS⟩
                have hlenS : (L ++ SealM.seals items ++ []).length = mm := HOE.out.size
                rw [← hlenS, SealM.scan_all L items [] HN1.out HIT.out (by simp)] at hdS
                obtain ⟨hdt, hn5⟩ := Prod.mk.inj hdS
                have HDT : Hid (tsS.map It.dat = ts.map It.dat) := hdt.trans HPP.out.symm
                have hn6 : nS = m + 0 := by rw [hn5, HL1.out]; rfl
                subst hn6
                have HFS : Hid (Found wS wT.heap.size vS tsS) := hfS
                have HBS : Hid (Below w.heap.size w wS) := HB.out.trans (hbS.mono HB.out.size)
                have HRS : Hid (wS.ownsRow w.heap.size 32 3 u12 ts.length (ts.flatMap It.cells)) := row_below HRW.out hbS
                have HTL : Hid (tsS.length ≤ 1000000) := by
                  have h := congrArg List.length HDT.out
                  simp only [List.length_map] at h
                  show _ ≤ _
                  omega
                clear hfS hdS hbS hlenS hdt hn5
                go_wp2_with fail
                refine (lives_any wS (HT.out.below h0 HBS.out) (Nat.lt_of_lt_of_le h0 HBS.out.size)).mono ?_
                rintro e wL ⟨rfl, hbL⟩
                have HFL : Hid (Found wL _ vS tsS) := HFS.out.below hbL
                have HRL : Hid (wL.ownsRow w.heap.size 32 3 u12 ts.length (ts.flatMap It.cells)) := row_below HRS.out hbL
                have HBL : Hid (Below w.heap.size w wL) := HBS.out.trans (hbL.mono HBS.out.size)
                clear hbL
                go_wp2_with fail
                refine (ref_SameAll vS u12 tsS ts wL HFL.out.seen ⟨row_form HRL.out, fun t ht => (HTB.out t ht).below HBL.out⟩ HDT.out HTL.out).mono ?_
                rintro e wM ⟨rfl, hbM⟩
                have HBM : Hid (Below w.heap.size w wM) := HBL.out.trans (hbM.mono HBL.out.size)
                clear hbM
                go_wp2
                go_ret
                exact ⟨by simp, HBM.out⟩
              · go_wp2_with fail
                refine (seal_Seal 9 (by omega) ta tl tc tb wr (HTR.out.below HB.out) (by omega) (HT.out.below h0 HB.out) (Nat.lt_of_lt_of_le h0 HB.out.size)).mono ?_
                rintro e w6 ⟨g6, rfl, ho6, hb6⟩
                have HO6 : Hid (Own w6 w.heap.size x mm c (L ++ SealM.seals items)) := HO2.out.below hb6
                have HRW6 : Hid (w6.ownsRow w.heap.size 32 3 u12 ts.length (ts.flatMap It.cells)) := row_below HRW.out hb6
                have HB6 : Hid (Below w.heap.size w w6) := HB.out.trans (hb6.mono HB.out.size)
                have hc6 : w6.cell? ⟨g6, 0, none⟩ = some (.int .u8 167) := ho6.cell 0 (by omega)
                clear ho6 hb6
                obtain ⟨j, HJ⟩ : ∃ j, Hid (j = K % (tl + 8)) := ⟨_, rfl⟩
                have ej : ((K : Int) % ((tl : Int) + 8)) = (j : Int) := by rw [HJ.out]; rfl
                have gz : ((tl : Int) + 8 == 0) = false := by rw [beq_eq_false_iff_ne]; omega
                have gp : (0 : Int) < (tl : Int) + 8 := by omega
                by_cases hj0 : j = 0
                · have hj0' : ¬ (0 : Int) < (j : Int) := by omega
                  have HOE : Hid (Own w6 w.heap.size x mm c (L ++ SealM.seals items ++ [])) := by rw [List.append_nil]; exact HO6
                  clear hj0
                  go_wp2
                  refine wp_loop_rounds 1 ?_
                  rw [rounds_succ]
                  go_wp2_with fail
                  refine (seal_Scan x (mm) c (L ++ SealM.seals items ++ []) w6 HOE.out.rd HOE.out.capOk (by omega) (HT.out.below h0 HB6.out) (Nat.lt_of_lt_of_le h0 HB6.out.size)).mono ?_
                  rintro e wS ⟨vS, tsS, nS, rfl, hfS, hdS, hbS⟩
                  have hlenS : (L ++ SealM.seals items ++ []).length = mm := HOE.out.size
                  rw [← hlenS, SealM.scan_all L items [] HN1.out HIT.out (by simp)] at hdS
                  obtain ⟨hdt, hn5⟩ := Prod.mk.inj hdS
                  have HDT : Hid (tsS.map It.dat = ts.map It.dat) := hdt.trans HPP.out.symm
                  have hn6 : nS = m + 0 := by rw [hn5, HL1.out]; rfl
                  subst hn6
                  have HFS : Hid (Found wS w6.heap.size vS tsS) := hfS
                  have HBS : Hid (Below w.heap.size w wS) := HB6.out.trans (hbS.mono HB6.out.size)
                  have HRS : Hid (wS.ownsRow w.heap.size 32 3 u12 ts.length (ts.flatMap It.cells)) := row_below HRW6.out hbS
                  have HTL : Hid (tsS.length ≤ 1000000) := by
                    have h := congrArg List.length HDT.out
                    simp only [List.length_map] at h
                    show _ ≤ _
                    omega
                  clear hfS hdS hbS hlenS hdt hn5
                  go_wp2_with fail
                  refine (lives_any wS (HT.out.below h0 HBS.out) (Nat.lt_of_lt_of_le h0 HBS.out.size)).mono ?_
                  rintro e wL ⟨rfl, hbL⟩
                  have HFL : Hid (Found wL _ vS tsS) := HFS.out.below hbL
                  have HRL : Hid (wL.ownsRow w.heap.size 32 3 u12 ts.length (ts.flatMap It.cells)) := row_below HRS.out hbL
                  have HBL : Hid (Below w.heap.size w wL) := HBS.out.trans (hbL.mono HBS.out.size)
                  clear hbL
                  go_wp2_with fail
                  refine (ref_SameAll vS u12 tsS ts wL HFL.out.seen ⟨row_form HRL.out, fun t ht => (HTB.out t ht).below HBL.out⟩ HDT.out HTL.out).mono ?_
                  rintro e wM ⟨rfl, hbM⟩
                  have HBM : Hid (Below w.heap.size w wM) := HBL.out.trans (hbM.mono HBL.out.size)
                  clear hbM
                  go_wp2
                  go_ret
                  exact ⟨by simp, HBM.out⟩
                · have hj0' : (0 : Int) < (j : Int) := by omega
                  have HA6 : Hid (Below w6.heap.size w6 (w6.alloc (.cells #[.int .u8 167] 5))) := below_alloc w6 _
                  by_cases hj1 : 1 < j
                  · have hj1' : (1 : Int) < (j : Int) := by omega
                    clear hj0 hj1
                    go_wp2
                    refine wp_loop_rounds 2 ?_
                    rw [rounds_succ]
                    go_wp2_with (at_builtin; refine wpList_append_rd (by rfl) (.tmp 121) (.tmp 126) (by rfl) w.heap.size x mm c _ (by rfl) (HO6.out.below HA6.out) (some ⟨w6.heap.size, 0, none⟩) 1 1 [167] (by rfl) (rd_one w6 167 (by omega)) (fun h => by cases h) (by omega) (Nat.le_trans HB6.out.size HA6.out.size) ?_)
                    intro a7 c7 w7 hown7 hgrow7 hbel7
                    have HO7 : Hid (Own w7 w.heap.size a7 (mm + 1) c7 (L ++ SealM.seals items ++ [167])) := by
                      show Own _ _ _ _ _ _
                      simpa using hown7
                    have HRW7 : Hid (w7.ownsRow w.heap.size 32 3 u12 ts.length (ts.flatMap It.cells)) := row_beside (row_below HRW6.out HA6.out) (HO6.out.below HA6.out) hgrow7
                    have HB7 : Hid (Below w.heap.size w w7) := (HB6.out.trans (HA6.out.mono HB6.out.size)).trans hbel7
                    clear hown7 hgrow7 hbel7
                    go_wp2
                    rw [rounds_succ]
                    go_wp2_with fail
                    refine (seal_Scan a7 (mm + 1) c7 (L ++ SealM.seals items ++ [167]) w7 HO7.out.rd HO7.out.capOk (by omega) (HT.out.below h0 HB7.out) (Nat.lt_of_lt_of_le h0 HB7.out.size)).mono ?_
                    rintro e wS ⟨vS, tsS, nS, rfl, hfS, hdS, hbS⟩
                    have hlenS : (L ++ SealM.seals items ++ [167]).length = mm + 1 := HO7.out.size
                    rw [← hlenS, SealM.scan_all L items [167] HN1.out HIT.out (by simp)] at hdS
                    obtain ⟨hdt, hn5⟩ := Prod.mk.inj hdS
                    have HDT : Hid (tsS.map It.dat = ts.map It.dat) := hdt.trans HPP.out.symm
                    have hn6 : nS = m + 1 := by rw [hn5, HL1.out]; rfl
                    subst hn6
                    have HFS : Hid (Found wS w7.heap.size vS tsS) := hfS
                    have HBS : Hid (Below w.heap.size w wS) := HB7.out.trans (hbS.mono HB7.out.size)
                    have HRS : Hid (wS.ownsRow w.heap.size 32 3 u12 ts.length (ts.flatMap It.cells)) := row_below HRW7.out hbS
                    have HTL : Hid (tsS.length ≤ 1000000) := by
                      have h := congrArg List.length HDT.out
                      simp only [List.length_map] at h
                      show _ ≤ _
                      omega
                    clear hfS hdS hbS hlenS hdt hn5
                    go_wp2_with fail
                    refine (lives_any wS (HT.out.below h0 HBS.out) (Nat.lt_of_lt_of_le h0 HBS.out.size)).mono ?_
                    rintro e wL ⟨rfl, hbL⟩
                    have HFL : Hid (Found wL _ vS tsS) := HFS.out.below hbL
                    have HRL : Hid (wL.ownsRow w.heap.size 32 3 u12 ts.length (ts.flatMap It.cells)) := row_below HRS.out hbL
                    have HBL : Hid (Below w.heap.size w wL) := HBS.out.trans (hbL.mono HBS.out.size)
                    clear hbL
                    go_wp2_with fail
                    refine (ref_SameAll vS u12 tsS ts wL HFL.out.seen ⟨row_form HRL.out, fun t ht => (HTB.out t ht).below HBL.out⟩ HDT.out HTL.out).mono ?_
                    rintro e wM ⟨rfl, hbM⟩
                    have HBM : Hid (Below w.heap.size w wM) := HBL.out.trans (hbM.mono HBL.out.size)
                    clear hbM
                    go_wp2
                    go_ret
                    exact ⟨by simp, HBM.out⟩
                  · have hj1' : ¬ (1 : Int) < (j : Int) := by omega
                    clear hj0 hj1
                    go_wp2
                    refine wp_loop_rounds 2 ?_
                    rw [rounds_succ]
                    go_wp2_with (at_builtin; refine wpList_append_rd (by rfl) (.tmp 121) (.tmp 126) (by rfl) w.heap.size x mm c _ (by rfl) (HO6.out.below HA6.out) (some ⟨w6.heap.size, 0, none⟩) 1 1 [167] (by rfl) (rd_one w6 167 (by omega)) (fun h => by cases h) (by omega) (Nat.le_trans HB6.out.size HA6.out.size) ?_)
                    intro a7 c7 w7 hown7 hgrow7 hbel7
                    have HO7 : Hid (Own w7 w.heap.size a7 (mm + 1) c7 (L ++ SealM.seals items ++ [167])) := by
                      show Own _ _ _ _ _ _
                      simpa using hown7
                    have HRW7 : Hid (w7.ownsRow w.heap.size 32 3 u12 ts.length (ts.flatMap It.cells)) := row_beside (row_below HRW6.out HA6.out) (HO6.out.below HA6.out) hgrow7
                    have HB7 : Hid (Below w.heap.size w w7) := (HB6.out.trans (HA6.out.mono HB6.out.size)).trans hbel7
                    clear hown7 hgrow7 hbel7
                    go_wp2
                    rw [rounds_succ]
                    go_wp2_with fail
                    refine (seal_Scan a7 (mm + 1) c7 (L ++ SealM.seals items ++ [167]) w7 HO7.out.rd HO7.out.capOk (by omega) (HT.out.below h0 HB7.out) (Nat.lt_of_lt_of_le h0 HB7.out.size)).mono ?_
                    rintro e wS ⟨vS, tsS, nS, rfl, hfS, hdS, hbS⟩
                    have hlenS : (L ++ SealM.seals items ++ [167]).length = mm + 1 := HO7.out.size
                    rw [← hlenS, SealM.scan_all L items [167] HN1.out HIT.out (by simp)] at hdS
                    obtain ⟨hdt, hn5⟩ := Prod.mk.inj hdS
                    have HDT : Hid (tsS.map It.dat = ts.map It.dat) := hdt.trans HPP.out.symm
                    have hn6 : nS = m + 1 := by rw [hn5, HL1.out]; rfl
                    subst hn6
                    have HFS : Hid (Found wS w7.heap.size vS tsS) := hfS
                    have HBS : Hid (Below w.heap.size w wS) := HB7.out.trans (hbS.mono HB7.out.size)
                    have HRS : Hid (wS.ownsRow w.heap.size 32 3 u12 ts.length (ts.flatMap It.cells)) := row_below HRW7.out hbS
                    have HTL : Hid (tsS.length ≤ 1000000) := by
                      have h := congrArg List.length HDT.out
                      simp only [List.length_map] at h
                      show _ ≤ _
                      omega
                    clear hfS hdS hbS hlenS hdt hn5
                    go_wp2_with fail
                    refine (lives_any wS (HT.out.below h0 HBS.out) (Nat.lt_of_lt_of_le h0 HBS.out.size)).mono ?_
                    rintro e wL ⟨rfl, hbL⟩
                    have HFL : Hid (Found wL _ vS tsS) := HFS.out.below hbL
                    have HRL : Hid (wL.ownsRow w.heap.size 32 3 u12 ts.length (ts.flatMap It.cells)) := row_below HRS.out hbL
                    have HBL : Hid (Below w.heap.size w wL) := HBS.out.trans (hbL.mono HBS.out.size)
                    clear hbL
                    go_wp2_with fail
                    refine (ref_SameAll vS u12 tsS ts wL HFL.out.seen ⟨row_form HRL.out, fun t ht => (HTB.out t ht).below HBL.out⟩ HDT.out HTL.out).mono ?_
                    rintro e wM ⟨rfl, hbM⟩
                    have HBM : Hid (Below w.heap.size w wM) := HBL.out.trans (hbM.mono HBL.out.size)
                    clear hbM
                    go_wp2
                    go_ret
                    exact ⟨by simp, HBM.out⟩
            · have q1 : ¬ (i : Int) < (n : Int) := by omega
              clear hgo2
              by_cases htlong : 4096 < tl
              · go_wp2_with fail
                refine (seal_Seal_long 9 ta tl tc wr htlong htl).mono ?_
                rintro e wT ⟨rfl, hwT⟩
                subst hwT
                have HOE : Hid (Own wT w.heap.size x mm c (L ++ SealM.seals items ++ [])) := by rw [List.append_nil]; exact HO2
                go_wp2_with fail
                refine (seal_Scan x (mm) c (L ++ SealM.seals items ++ []) wT HOE.out.rd HOE.out.capOk (by omega) (HT.out.below h0 HB.out) (Nat.lt_of_lt_of_le h0 HB.out.size)).mono ?_
                rintro e wS ⟨vS, tsS, nS, rfl, hfS, hdS, hbS⟩
                have hlenS : (L ++ SealM.seals items ++ []).length = mm := HOE.out.size
                rw [← hlenS, SealM.scan_all L items [] HN1.out HIT.out (by simp)] at hdS
                obtain ⟨hdt, hn5⟩ := Prod.mk.inj hdS
                have HDT : Hid (tsS.map It.dat = ts.map It.dat) := hdt.trans HPP.out.symm
                have hn6 : nS = m + 0 := by rw [hn5, HL1.out]; rfl
                subst hn6
                have HFS : Hid (Found wS wT.heap.size vS tsS) := hfS
                have HBS : Hid (Below w.heap.size w wS) := HB.out.trans (hbS.mono HB.out.size)
                have HRS : Hid (wS.ownsRow w.heap.size 32 3 u12 ts.length (ts.flatMap It.cells)) := row_below HRW.out hbS
                have HTL : Hid (tsS.length ≤ 1000000) := by
                  have h := congrArg List.length HDT.out
                  simp only [List.length_map] at h
                  show _ ≤ _
                  omega
                clear hfS hdS hbS hlenS hdt hn5
                go_wp2_with fail
                refine (lives_any wS (HT.out.below h0 HBS.out) (Nat.lt_of_lt_of_le h0 HBS.out.size)).mono ?_
                rintro e wL ⟨rfl, hbL⟩
                have HFL : Hid (Found wL _ vS tsS) := HFS.out.below hbL
                have HRL : Hid (wL.ownsRow w.heap.size 32 3 u12 ts.length (ts.flatMap It.cells)) := row_below HRS.out hbL
                have HBL : Hid (Below w.heap.size w wL) := HBS.out.trans (hbL.mono HBS.out.size)
                clear hbL
                go_wp2_with fail
                refine (ref_SameAll vS u12 tsS ts wL HFL.out.seen ⟨row_form HRL.out, fun t ht => (HTB.out t ht).below HBL.out⟩ HDT.out HTL.out).mono ?_
                rintro e wM ⟨rfl, hbM⟩
                have HBM : Hid (Below w.heap.size w wM) := HBL.out.trans (hbM.mono HBL.out.size)
                clear hbM
                go_wp2
                go_ret
                exact ⟨by simp, HBM.out⟩
              · go_wp2_with fail
                refine (seal_Seal 9 (by omega) ta tl tc tb wr (HTR.out.below HB.out) (by omega) (HT.out.below h0 HB.out) (Nat.lt_of_lt_of_le h0 HB.out.size)).mono ?_
                rintro e w6 ⟨g6, rfl, ho6, hb6⟩
                have HO6 : Hid (Own w6 w.heap.size x mm c (L ++ SealM.seals items)) := HO2.out.below hb6
                have HRW6 : Hid (w6.ownsRow w.heap.size 32 3 u12 ts.length (ts.flatMap It.cells)) := row_below HRW.out hb6
                have HB6 : Hid (Below w.heap.size w w6) := HB.out.trans (hb6.mono HB.out.size)
                have hc6 : w6.cell? ⟨g6, 0, none⟩ = some (.int .u8 167) := ho6.cell 0 (by omega)
                clear ho6 hb6
                obtain ⟨j, HJ⟩ : ∃ j, Hid (j = K % (tl + 8)) := ⟨_, rfl⟩
                have ej : ((K : Int) % ((tl : Int) + 8)) = (j : Int) := by rw [HJ.out]; rfl
                have gz : ((tl : Int) + 8 == 0) = false := by rw [beq_eq_false_iff_ne]; omega
                have gp : (0 : Int) < (tl : Int) + 8 := by omega
                by_cases hj0 : j = 0
                · have hj0' : ¬ (0 : Int) < (j : Int) := by omega
                  have HOE : Hid (Own w6 w.heap.size x mm c (L ++ SealM.seals items ++ [])) := by rw [List.append_nil]; exact HO6
                  clear hj0
                  go_wp2
                  refine wp_loop_rounds 1 ?_
                  rw [rounds_succ]
                  go_wp2_with fail
                  refine (seal_Scan x (mm) c (L ++ SealM.seals items ++ []) w6 HOE.out.rd HOE.out.capOk (by omega) (HT.out.below h0 HB6.out) (Nat.lt_of_lt_of_le h0 HB6.out.size)).mono ?_
                  rintro e wS ⟨vS, tsS, nS, rfl, hfS, hdS, hbS⟩
                  have hlenS : (L ++ SealM.seals items ++ []).length = mm := HOE.out.size
                  rw [← hlenS, SealM.scan_all L items [] HN1.out HIT.out (by simp)] at hdS
                  obtain ⟨hdt, hn5⟩ := Prod.mk.inj hdS
                  have HDT : Hid (tsS.map It.dat = ts.map It.dat) := hdt.trans HPP.out.symm
                  have hn6 : nS = m + 0 := by rw [hn5, HL1.out]; rfl
                  subst hn6
                  have HFS : Hid (Found wS w6.heap.size vS tsS) := hfS
                  have HBS : Hid (Below w.heap.size w wS) := HB6.out.trans (hbS.mono HB6.out.size)
                  have HRS : Hid (wS.ownsRow w.heap.size 32 3 u12 ts.length (ts.flatMap It.cells)) := row_below HRW6.out hbS
                  have HTL : Hid (tsS.length ≤ 1000000) := by
                    have h := congrArg List.length HDT.out
                    simp only [List.length_map] at h
                    show _ ≤ _
                    omega
                  clear hfS hdS hbS hlenS hdt hn5
                  go_wp2_with fail
                  refine (lives_any wS (HT.out.below h0 HBS.out) (Nat.lt_of_lt_of_le h0 HBS.out.size)).mono ?_
                  rintro e wL ⟨rfl, hbL⟩
                  have HFL : Hid (Found wL _ vS tsS) := HFS.out.below hbL
                  have HRL : Hid (wL.ownsRow w.heap.size 32 3 u12 ts.length (ts.flatMap It.cells)) := row_below HRS.out hbL
                  have HBL : Hid (Below w.heap.size w wL) := HBS.out.trans (hbL.mono HBS.out.size)
                  clear hbL
                  go_wp2_with fail
                  refine (ref_SameAll vS u12 tsS ts wL HFL.out.seen ⟨row_form HRL.out, fun t ht => (HTB.out t ht).below HBL.out⟩ HDT.out HTL.out).mono ?_
                  rintro e wM ⟨rfl, hbM⟩
                  have HBM : Hid (Below w.heap.size w wM) := HBL.out.trans (hbM.mono HBL.out.size)
                  clear hbM
                  go_wp2
                  go_ret
                  exact ⟨by simp, HBM.out⟩
                · have hj0' : (0 : Int) < (j : Int) := by omega
                  have HA6 : Hid (Below w6.heap.size w6 (w6.alloc (.cells #[.int .u8 167] 5))) := below_alloc w6 _
                  by_cases hj1 : 1 < j
                  · have hj1' : (1 : Int) < (j : Int) := by omega
                    clear hj0 hj1
                    go_wp2
                    refine wp_loop_rounds 2 ?_
                    rw [rounds_succ]
                    go_wp2_with (at_builtin; refine wpList_append_rd (by rfl) (.tmp 121) (.tmp 126) (by rfl) w.heap.size x mm c _ (by rfl) (HO6.out.below HA6.out) (some ⟨w6.heap.size, 0, none⟩) 1 1 [167] (by rfl) (rd_one w6 167 (by omega)) (fun h => by cases h) (by omega) (Nat.le_trans HB6.out.size HA6.out.size) ?_)
                    intro a7 c7 w7 hown7 hgrow7 hbel7
                    have HO7 : Hid (Own w7 w.heap.size a7 (mm + 1) c7 (L ++ SealM.seals items ++ [167])) := by
                      show Own _ _ _ _ _ _
                      simpa using hown7
                    have HRW7 : Hid (w7.ownsRow w.heap.size 32 3 u12 ts.length (ts.flatMap It.cells)) := row_beside (row_below HRW6.out HA6.out) (HO6.out.below HA6.out) hgrow7
                    have HB7 : Hid (Below w.heap.size w w7) := (HB6.out.trans (HA6.out.mono HB6.out.size)).trans hbel7
                    clear hown7 hgrow7 hbel7
                    go_wp2
                    rw [rounds_succ]
                    go_wp2_with fail
                    refine (seal_Scan a7 (mm + 1) c7 (L ++ SealM.seals items ++ [167]) w7 HO7.out.rd HO7.out.capOk (by omega) (HT.out.below h0 HB7.out) (Nat.lt_of_lt_of_le h0 HB7.out.size)).mono ?_
                    rintro e wS ⟨vS, tsS, nS, rfl, hfS, hdS, hbS⟩
                    have hlenS : (L ++ SealM.seals items ++ [167]).length = mm + 1 := HO7.out.size
                    rw [← hlenS, SealM.scan_all L items [167] HN1.out HIT.out (by simp)] at hdS
                    obtain ⟨hdt, hn5⟩ := Prod.mk.inj hdS
                    have HDT : Hid (tsS.map It.dat = ts.map It.dat) := hdt.trans HPP.out.symm
                    have hn6 : nS = m + 1 := by rw [hn5, HL1.out]; rfl
                    subst hn6
                    have HFS : Hid (Found wS w7.heap.size vS tsS) := hfS
                    have HBS : Hid (Below w.heap.size w wS) := HB7.out.trans (hbS.mono HB7.out.size)
                    have HRS : Hid (wS.ownsRow w.heap.size 32 3 u12 ts.length (ts.flatMap It.cells)) := row_below HRW7.out hbS
                    have HTL : Hid (tsS.length ≤ 1000000) := by
                      have h := congrArg List.length HDT.out
                      simp only [List.length_map] at h
                      show _ ≤ _
                      omega
                    clear hfS hdS hbS hlenS hdt hn5
                    go_wp2_with fail
                    refine (lives_any wS (HT.out.below h0 HBS.out) (Nat.lt_of_lt_of_le h0 HBS.out.size)).mono ?_
                    rintro e wL ⟨rfl, hbL⟩
                    have HFL : Hid (Found wL _ vS tsS) := HFS.out.below hbL
                    have HRL : Hid (wL.ownsRow w.heap.size 32 3 u12 ts.length (ts.flatMap It.cells)) := row_below HRS.out hbL
                    have HBL : Hid (Below w.heap.size w wL) := HBS.out.trans (hbL.mono HBS.out.size)
                    clear hbL
                    go_wp2_with fail
                    refine (ref_SameAll vS u12 tsS ts wL HFL.out.seen ⟨row_form HRL.out, fun t ht => (HTB.out t ht).below HBL.out⟩ HDT.out HTL.out).mono ?_
                    rintro e wM ⟨rfl, hbM⟩
                    have HBM : Hid (Below w.heap.size w wM) := HBL.out.trans (hbM.mono HBL.out.size)
                    clear hbM
                    go_wp2
                    go_ret
                    exact ⟨by simp, HBM.out⟩
                  · have hj1' : ¬ (1 : Int) < (j : Int) := by omega
                    clear hj0 hj1
                    go_wp2
                    refine wp_loop_rounds 2 ?_
                    rw [rounds_succ]
                    go_wp2_with (at_builtin; refine wpList_append_rd (by rfl) (.tmp 121) (.tmp 126) (by rfl) w.heap.size x mm c _ (by rfl) (HO6.out.below HA6.out) (some ⟨w6.heap.size, 0, none⟩) 1 1 [167] (by rfl) (rd_one w6 167 (by omega)) (fun h => by cases h) (by omega) (Nat.le_trans HB6.out.size HA6.out.size) ?_)
                    intro a7 c7 w7 hown7 hgrow7 hbel7
                    have HO7 : Hid (Own w7 w.heap.size a7 (mm + 1) c7 (L ++ SealM.seals items ++ [167])) := by
                      show Own _ _ _ _ _ _
                      simpa using hown7
                    have HRW7 : Hid (w7.ownsRow w.heap.size 32 3 u12 ts.length (ts.flatMap It.cells)) := row_beside (row_below HRW6.out HA6.out) (HO6.out.below HA6.out) hgrow7
                    have HB7 : Hid (Below w.heap.size w w7) := (HB6.out.trans (HA6.out.mono HB6.out.size)).trans hbel7
                    clear hown7 hgrow7 hbel7
                    go_wp2
                    rw [rounds_succ]
                    go_wp2_with fail
                    refine (seal_Scan a7 (mm + 1) c7 (L ++ SealM.seals items ++ [167]) w7 HO7.out.rd HO7.out.capOk (by omega) (HT.out.below h0 HB7.out) (Nat.lt_of_lt_of_le h0 HB7.out.size)).mono ?_
                    rintro e wS ⟨vS, tsS, nS, rfl, hfS, hdS, hbS⟩
                    have hlenS : (L ++ SealM.seals items ++ [167]).length = mm + 1 := HO7.out.size
                    rw [← hlenS, SealM.scan_all L items [167] HN1.out HIT.out (by simp)] at hdS
                    obtain ⟨hdt, hn5⟩ := Prod.mk.inj hdS
                    have HDT : Hid (tsS.map It.dat = ts.map It.dat) := hdt.trans HPP.out.symm
                    have hn6 : nS = m + 1 := by rw [hn5, HL1.out]; rfl
                    subst hn6
                    have HFS : Hid (Found wS w7.heap.size vS tsS) := hfS
                    have HBS : Hid (Below w.heap.size w wS) := HB7.out.trans (hbS.mono HB7.out.size)
                    have HRS : Hid (wS.ownsRow w.heap.size 32 3 u12 ts.length (ts.flatMap It.cells)) := row_below HRW7.out hbS
                    have HTL : Hid (tsS.length ≤ 1000000) := by
                      have h := congrArg List.length HDT.out
                      simp only [List.length_map] at h
                      show _ ≤ _
                      omega
                    clear hfS hdS hbS hlenS hdt hn5
                    go_wp2_with fail
                    refine (lives_any wS (HT.out.below h0 HBS.out) (Nat.lt_of_lt_of_le h0 HBS.out.size)).mono ?_
                    rintro e wL ⟨rfl, hbL⟩
                    have HFL : Hid (Found wL _ vS tsS) := HFS.out.below hbL
                    have HRL : Hid (wL.ownsRow w.heap.size 32 3 u12 ts.length (ts.flatMap It.cells)) := row_below HRS.out hbL
                    have HBL : Hid (Below w.heap.size w wL) := HBS.out.trans (hbL.mono HBS.out.size)
                    clear hbL
                    go_wp2_with fail
                    refine (ref_SameAll vS u12 tsS ts wL HFL.out.seen ⟨row_form HRL.out, fun t ht => (HTB.out t ht).below HBL.out⟩ HDT.out HTL.out).mono ?_
                    rintro e wM ⟨rfl, hbM⟩
                    have HBM : Hid (Below w.heap.size w wM) := HBL.out.trans (hbM.mono HBL.out.size)
                    clear hbM
                    go_wp2
                    go_ret
                    exact ⟨by simp, HBM.out⟩

theorem cellsTorn : Tryd.prog.cellsOf 26 = 2 := by kernel_rfl
/-- Bytes, and how many of them are left, opened. -/
theorem open_torn {H : Type} {enc : TypeId × Value → H} {W : World} {base : Nat} {v : Value} {d : DataW H} {p : List MemPlace} (hv : Value.okWide Tryd.prog W .any base 26 v)
    (h : DataW.Trod enc Tryd.prog W 0 (fun _ => true) true 26 v d p) :
    ∃ a l c bs, ∃ K : Nat, v = .agg #[.slice a l c, .int .u16 (K : Int)] ∧ Rd W a l bs ∧ l ≤ 9223372036854775807 ∧ K ≤ 65535 := by
  obtain ⟨u0, u1, y0, y1, m, rfl, rfl, rfl, h0, h1⟩ := open_agg2 Tryd.underlying26 (by kernel_rfl) cellsTorn hv h
  obtain ⟨a, l, c, bs, rfl, r1, r2, r3, _, _, _⟩ := rd_cell h0
  obtain ⟨x, hx, _, wx⟩ := DataW.trod_int Tryd.underlying24 h1
  have bx : (0 : Int) ≤ x ∧ x ≤ 65535 := by simpa [Lit.wf, IntKind.min, IntKind.max, IntKind.signed, IntKind.bits] using wx
  obtain ⟨K, rfl⟩ := Int.eq_ofNat_of_zero_le bx.1
  have hu1 : u1 = .int .u16 (K : Int) := by simpa using hx
  subst hu1
  exact ⟨a, l, c, bs, K, rfl, r1, by omega, by omega⟩

theorem contract (H : Type) (enc : TypeId × Value → H) (W : World) (base : Nat) (args : Array Value) (ds gs : List (DataW H)) (before : List MemPlace)
    (hval : ∀ (j : Nat) t v, Tryd.f3.params[j]? = some t → args[j]? = some v → Value.okWide Tryd.prog W .any base t v)
    (hW : DataW.Whole enc Tryd.prog Tryd.f3.params.toList Rows.sealFindsSpec.vars false W args.toList ds gs before) (hL : laidMetH Tryd.prog [("grapevine/seal.steps", Rows.laid_grapevine_seal_steps)] W) :
    Calls Tryd.prog 3 args W fun e W' => ∃ v, e = .returned v ∧ Rows.sealFindsSpec.post enc Tryd.prog Tryd.f3 false true false false W args v W' := by
  have hW' := hW
  obtain ⟨p, q, hA0, hV, rfl, hfz, hnd⟩ := hW
  have hA : DataW.TrodAll enc Tryd.prog W 0 (fun _ => true) true Tryd.f3.params.toList args.toList ds p := hA0
  have hK := hA
  rw [Tryd.params3] at hA hval
  obtain ⟨v0, vs0, d0, ds0, p0, q0, hargs, rfl, rfl, h0, r0⟩ := trodAll_cons hA
  obtain ⟨v1, vs1, d1, ds1, p1, q1, rfl, rfl, rfl, h1, r1⟩ := trodAll_cons r0
  obtain ⟨v2, vs2, d2, ds2, p2, q2, rfl, rfl, rfl, h2, r2⟩ := trodAll_cons r1
  obtain ⟨rfl, rfl, rfl⟩ := trodAll_nil r2
  obtain rfl : args = #[v0, v1, v2] := by cases args; simp_all
  obtain ⟨rfl, rfl⟩ := trodVars_none hV
  obtain ⟨a0, len0, cap0, rfl⟩ := okWide_slice Tryd.underlying22 (hval 0 22 v0 rfl rfl)
  obtain ⟨bs0, rd0, lc0, cm0, bk0, nc0, fm0⟩ := rd_of h0
  obtain ⟨la, ln, lcp, rfl⟩ := okWide_slice Tryd.underlying23 (hval 1 23 v1 rfl rfl)
  obtain ⟨lps, lpt, llc, lcm, lpl⟩ := open_parts h1
  obtain ⟨ta, tl, tc, tb, tK, rfl, trd, ttl, tkk⟩ := open_torn (hval 2 26 v2 rfl rfl) h2
  have ht := table hL
  have hz : 0 < W.heap.size := World.block_lt_of_cell? W _ (ht 0 (by omega))
  refine (walk a0 len0 cap0 bs0 la ln lcp lps ta tl tc tb tK tkk W rd0 (by omega) lpt (by omega) lpl trd ttl ht hz).mono fun e W' ⟨he, bel⟩ => ?_
  subst he
  exact ⟨_, rfl, _, _, _, [], _, [], hW', trodAll_mk1 (shut_bool Tryd.underlying4 _), trodAll_below laidOut bel _ _ _ _ (by kernel_rfl) hK, rfl, bel.frame _, fun h => by cases h⟩

theorem laid_met (os : Os) : laidMet Tryd.prog Rows.sealFindsRow.laid ((layTab (World.holding Tryd.prog os ⟨#[], #[], []⟩)).forCall (fun _ _ => 0) ⟨#[], #[.slice none 0 0, .slice none 0 0, .agg #[.slice none 0 0, .int .u16 0]], []⟩).memory :=
  laidMet_of_run' 8 (by kernel_rfl) (by kernel_rfl)
theorem reads (os : Os) {H : Type} (enc : TypeId × Value → H) : ∃ places, DataW.whole enc Tryd.prog ((layTab (World.holding Tryd.prog os ⟨#[], #[], []⟩)).forCall (fun _ _ => 0) ⟨#[], #[.slice none 0 0, .slice none 0 0, .agg #[.slice none 0 0, .int .u16 0]], []⟩).memory Tryd.f3.params.toList Rows.sealFindsSpec.vars false (#[.slice none 0 0, .slice none 0 0, .agg #[.slice none 0 0, .int .u16 0]] : Array Value).toList 8 = some ([.nil, .nil, .agg [.nil, .lit (.int .u16 0)]], [], places) :=
  ⟨[], by kernel_rfl⟩

set_option maxRecDepth 100000 in
theorem lifted (os : Os) (started : os.Started) (H : Type) (enc : TypeId × Value → H) (F : Stop.Interp) :
    ReturnsInHanded {} Tryd.checked os 3 .any ((OpenSpec.ofChange Rows.sealFindsSpec).preRow enc Tryd.prog Tryd.f3 Rows.sealFindsRow.domain false Rows.sealFindsRow.laid) (((OpenSpec.ofChange Rows.sealFindsSpec).at F).post enc Tryd.prog Tryd.f3 false true false false) := by
  obtain ⟨places, hx⟩ := reads os enc
  refine returnsInHanded_of_row (C := Tryd.checked) (s := OpenSpec.ofChange Rows.sealFindsSpec) own started (by kernel_rfl) Tryd.func3
    (witness_row_at (enc := enc) (C := Tryd.checked) false (layTab (World.holding Tryd.prog os ⟨#[], #[], []⟩)) #[.slice none 0 0, .slice none 0 0, .agg #[.slice none 0 0, .int .u16 0]] rfl (by kernel_rfl) (by kernel_rfl) (by kernel_rfl)
      (OpenSpec.preRow_of_cond 8 hx (by kernel_rfl) (fun k hk => by cases hk) (by kernel_rfl) (laid_met os))) ?_
  intro W base args ds gs before hval hW _ _ _ hL _ _
  exact contract H enc W base args ds gs before hval hW hL

theorem said : Rows.SealFindsSaid :=
  OpenClaim.holds_of_cond 3 Tryd.f3 rfl rfl rfl rfl rfl rfl rfl ⟨rfl, rfl, rfl, rfl, rfl⟩ rfl rfl rfl rfl rfl (by kernel_rfl) Tryd.func3 (by kernel_rfl)
    (of_decide_eq_true (by kernel_rfl)) (by unfold Func.isWrapper; first | (rw [if_pos (by decide +kernel)]; kernel_rfl) | (rw [if_neg (by decide +kernel)]; exact ⟨rfl, rfl⟩))
    (fun os started H enc _ F => by rw [OpenClaim.pre_eq_preRow]; exact lifted os started H enc F)

theorem plain (f : FuncId) (fn : Func) (hf : Tryd.pinned.checked.prog.funcNamed "grapevine/grapevinelaw01.SealFinds" = some f) (hfn : Tryd.pinned.checked.prog.funcs[f]? = some fn) :
    false = Tryd.pinned.checked.prog.looks [] ∧ ∀ (j : Nat) t, fn.params[j]? = some t → Tryd.pinned.checked.prog.wantsStandIn t = false := by
  obtain rfl : f = 3 := Option.some.inj ((show Tryd.prog.funcNamed "grapevine/grapevinelaw01.SealFinds" = some 3 by kernel_rfl).symm.trans hf) |>.symm
  obtain rfl : fn = Tryd.f3 := (Option.some.inj (Tryd.func3.symm.trans hfn)).symm
  refine ⟨by kernel_rfl, fun j t ht => ?_⟩
  rw [Tryd.params3] at ht
  have hall : ∀ t ∈ (#[22, 23, 26] : Array TypeId), Tryd.prog.wantsStandIn t = false := by
    intro t ht
    simp at ht
    rcases ht with rfl | rfl | rfl
    · exact (show Tryd.prog.wantsStandIn 22 = false by kernel_rfl)
    · exact (show Tryd.prog.wantsStandIn 23 = false by kernel_rfl)
    · exact (show Tryd.prog.wantsStandIn 26 = false by kernel_rfl)
  exact hall t (Array.mem_of_getElem? ht)

theorem card : Rows.SealFindsCardSaid :=
  Claim7.holds_tied_plain_at .later [] _ _ _ _ said (fun _ h => by cases h) (by kernel_rfl) (fun _ h => by cases h) sealFinds_row_tie rfl ⟨rfl, rfl⟩ (by kernel_rfl) rfl plain (by kernel_rfl)
end sealFinds

theorem sealFinds_holds : Rows.SealFindsCardSaid := sealFinds.card
end Go.Proofs.YtbhljlafijdodabDoor

