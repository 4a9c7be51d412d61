/- Proved: for every kind and row of bytes grapevinelaw01.SealOwn answers true and leaves its arguments as they were. Its condition: the package-level table seal.steps holds what its initialiser lays (the card ties that to the program's text). -/
import Derived.Test.YtbhljlafijdodabDoorSealScan
import Derived.Test.YtbhljlafijdodabDoorDoor
namespace Go.Proofs.YtbhljlafijdodabDoor
open Go.ChangeShapes Go.WideShapes Go.ChangeAt Go.RowKit
theorem Found.one {w : World} {base : Nat} {v : Value} {t : It} (h : Found w base v [t]) : ∃ fg fc, v = .slice (some ⟨fg, 0, none⟩) 1 fc := by
  rcases h.row.2 with ⟨_, h0⟩ | ⟨g, c, cur, hv, _⟩
  · simp at h0
  · exact ⟨g, c, hv⟩
theorem Found.cell2 {w : World} {base fg fc : Nat} {t : It} (h : Found w base (.slice (some ⟨fg, 0, none⟩) 1 fc) [t]) : w.cell? ⟨fg, 2, none⟩ = some (.slice t.a t.q t.c) := by
  rcases h.row.2 with ⟨hv, _⟩ | ⟨g, c, cur, hv, hb, hg, hlc, hm, hs, ht⟩
  · simp at hv
  · simp only [Value.slice.injEq, Option.some.injEq, Addr.mk.injEq] at hv
    obtain ⟨⟨rfl, _, _⟩, _, _⟩ := hv
    have h2 := congrArg (fun l => l[2]?) ht
    simp only [List.length_singleton, Nat.one_mul, List.flatMap_cons, List.flatMap_nil, List.append_nil] at h2
    rw [List.getElem?_take_of_lt (by omega), Array.getElem?_toList] at h2
    rw [cell_of_row w fg 2 cur 32 (0, 0) hg, h2]
    rfl
theorem Found.under {w : World} {base : Nat} {v : Value} {ts : List It} (h : Found w base v ts) (p : Addr) (u : Value) (hp : p.block < base) : Found (w.setCell p u) base v ts := by
  refine ⟨⟨h.row.1, ?_⟩, fun t ht => ?_⟩
  · rcases h.row.2 with hn | ⟨g, c, cur, hv, hbg, hg, r⟩
    · exact .inl hn
    · exact .inr ⟨g, c, cur, hv, hbg, by rw [Below.heap_setCell _ _ _ _ (by omega)]; exact hg, r⟩
  · have ho := h.body t ht
    refine ⟨⟨ho.row.1, ?_⟩, ho.byte⟩
    rcases ho.row.2 with hn | ⟨g, c, cur, hv, hbg, hg, r⟩
    · exact .inl hn
    · exact .inr ⟨g, c, cur, hv, hbg, by rw [Below.heap_setCell _ _ _ _ (by omega)]; exact hg, r⟩

namespace sealOwn

theorem scan_one (k : Nat) (bs : List Nat) (hk : k < 256) (hb : ∀ x ∈ bs, x < 256) (hl : bs.length ≤ 4096) : SealM.scan (bs.length + 8) (SealM.sealed k bs) 0 = ([(k, 0, bs)], 0) := by
  have hs := SealM.sealed_length k bs
  have e : (SealM.sealed k bs).drop 0 = SealM.sealed k bs ++ [] := by simp
  have hok : SealM.opn ((SealM.sealed k bs).drop 0) = 0 := by rw [e]; exact SealM.opn_sealed k bs [] hk hb hl
  have hbl : SealM.blen ((SealM.sealed k bs).drop 0) = bs.length := by rw [e]; exact SealM.blen_sealed k bs []
  have hbo : (((SealM.sealed k bs).drop 0).drop 4).take bs.length = bs := by rw [e]; exact SealM.body_sealed k bs []
  have hki : ((SealM.sealed k bs).drop 0).getD 1 0 = k := by rw [e]; exact SealM.kind_sealed k bs []
  rw [SealM.scan_ok (bs.length + 7) _ 0 (by omega) hok, hbl, hbo, hki, SealM.scan_end _ _ _ (by omega)]

set_option maxRecDepth 100000 in
set_option maxHeartbeats 2000000 in
theorem walk (k : Nat) (hk : k < 256) (a : Option Addr) (len cap : Nat) (bs : List Nat) (w : World) (hr : Rd w a len bs) (hl : len ≤ 9223372036854775807) (ht : Tab w) (h0 : 0 < w.heap.size) :
    Calls Tryd.prog 4 #[.int .u8 (k : Int), .slice a len cap] w fun e w' => e = .returned (.bool true) ∧ Below w.heap.size w w' := by
  have HT : Hid (Tab w) := ht
  have HR : Hid (Rd w a len bs) := hr
  clear ht hr
  by_cases hlong : 4096 < len
  · go_enter Tryd.func4, Tryd.ntmps4
    go_wp2_with fail
    refine (seal_Seal_long k a len cap w hlong (by omega)).mono ?_
    rintro e w2 ⟨rfl, hw2⟩
    subst hw2
    go_wp2_with fail
    refine (lives_any w2 HT.out h0).mono ?_
    rintro e w4 ⟨rfl, hb4⟩
    have HB4 : Hid (Below w2.heap.size w2 w4) := hb4
    clear hb4
    go_wp2
    go_ret
    exact ⟨rfl, HB4.out⟩
  · have HBL : Hid (bs.length = len) := HR.out.size
    have HBB : Hid (∀ x ∈ bs, x < 256) := HR.out.byte
    have HSL : Hid ((SealM.sealed k bs).length = len + 8) := by show _ = _; rw [SealM.sealed_length, HBL.out]
    have HOK : Hid (SealM.opn ((SealM.sealed k bs).drop 0) = 0 ∧ ((SealM.sealed k bs).drop 0).getD 1 0 = k ∧ SealM.blen ((SealM.sealed k bs).drop 0) = len ∧ (((SealM.sealed k bs).drop 0).drop 4).take len = bs) := by
      have e : (SealM.sealed k bs).drop 0 = SealM.sealed k bs ++ [] := by simp
      show _ ∧ _ ∧ _ ∧ _
      rw [e]
      refine ⟨SealM.opn_sealed k bs [] hk HBB.out (by rw [HBL.out]; omega), SealM.kind_sealed k bs [], by rw [SealM.blen_sealed, HBL.out], ?_⟩
      have := SealM.body_sealed k bs []
      rwa [HBL.out] at this
    have HSC : Hid (SealM.scan (len + 8) (SealM.sealed k bs) 0 = ([(k, 0, bs)], 0)) := by
      have := scan_one k bs hk HBB.out (by rw [HBL.out]; omega)
      rwa [HBL.out] at this
    obtain ⟨S, HS⟩ : ∃ S, Hid (S = str (SealM.sealed k bs)) := ⟨_, rfl⟩
    go_enter Tryd.func4, Tryd.ntmps4
    go_wp2_with fail
    refine (seal_Seal k hk a len cap bs w HR.out (by omega) HT.out h0).mono ?_
    rintro e w1 ⟨g, rfl, ho1, hb1⟩
    have HB1 : Hid (Below w.heap.size w w1) := hb1
    have HO1 : Hid (Own w1 w.heap.size (some ⟨g, 0, none⟩) (len + 8) (len + 8) (SealM.sealed k bs)) := ho1
    obtain ⟨g', hg', hgb, hgl⟩ := ho1.form (by omega)
    simp only [Option.some.injEq, Addr.mk.injEq] at hg'
    obtain ⟨rfl, _, _⟩ := hg'
    have kS := conv_rd ho1.rd (len + 8)
    rw [← HS.out] at kS
    clear ho1 hb1
    go_wp2_with fail
    refine (seal_Open_good (some ⟨g, 0, none⟩) (len + 8) (len + 8) (SealM.sealed k bs) 0 w1 HO1.out.rd (by omega) (by omega) (by omega) (HT.out.below h0 HB1.out) (Nat.lt_of_lt_of_le h0 HB1.out.size) HOK.out.1 k len HOK.out.2.1 HOK.out.2.2.1 bs HOK.out.2.2.2).mono ?_
    rintro e w2 ⟨g2, rfl, ho2, hb2⟩
    have HB2 : Hid (Below w1.heap.size w1 w2) := hb2
    have HO2 : Hid (Own w2 w1.heap.size (some ⟨g2, 0, none⟩) len len bs) := ho2
    have HG2 : Hid (w1.heap.size ≤ g2 ∧ g2 < w2.heap.size) := by
      rcases ho2.row.2 with ⟨hv, _⟩ | ⟨g', c, cur, hv, hb, hg, _⟩
      · simp at hv
      · simp only [Value.slice.injEq, Option.some.injEq, Addr.mk.injEq] at hv
        obtain ⟨⟨rfl, _, _⟩, _⟩ := hv
        exact ⟨hb, (Array.getElem?_eq_some_iff.1 hg).1⟩
    clear ho2 hb2 kS
    have hh0 : (w2.alloc (.cells #[.int .u8 (k : Int), .int .i64 0, .slice (some ⟨g2, 0, none⟩) len len] 32)).cell? ⟨w2.heap.size, 2, none⟩ = some (.slice (some ⟨g2, 0, none⟩) len len) := by simp
    have hf0 : (w2.alloc (.cells #[.int .u8 (k : Int), .int .i64 0, .slice (some ⟨g2, 0, none⟩) len len] 32)).frozen? ⟨w2.heap.size, 2, none⟩ = false := by simp
    have HA2 : Hid (Below w2.heap.size w2 (w2.alloc (.cells #[.int .u8 (k : Int), .int .i64 0, .slice (some ⟨g2, 0, none⟩) len len] 32))) := below_alloc w2 _
    have hgne : g2 ≠ w2.heap.size := by have := HG2.out; omega
    have HWW : Hid (w1.heap.size ≤ w2.heap.size) := HB2.out.size
    go_wp2
    go_loopw [11] (fun t11 wr => ∃ (i : Nat) (L : List Nat), i ≤ len ∧ t11 = .int .i64 (i : Int) ∧ Hid (Own wr w1.heap.size (some ⟨g2, 0, none⟩) len len L) ∧ wr.cell? ⟨w2.heap.size, 2, none⟩ = some (.slice (some ⟨g2, 0, none⟩) len len) ∧ wr.frozen? ⟨w2.heap.size, 2, none⟩ = false ∧ w2.heap.size < wr.heap.size ∧ Hid (Below w1.heap.size w1 wr)) (fun t11 _ => len - (intOf t11).toNat)
    case atStart => exact ⟨0, bs, by omega, rfl, HO2.out.below HA2.out, hh0, hf0, by simp, HB2.out.trans (HA2.out.mono HWW.out)⟩
    case round =>
      obtain ⟨i, L, hi, rfl, HO, hch, hfh, hhs, HB⟩ := hrel
      clear hh0 hf0
      by_cases hlt : i < len
      · have hlt' : (i : Int) < (len : Int) := by omega
        obtain ⟨c, HC⟩ : ∃ c, Hid (c = L.getD i 0) := ⟨_, rfl⟩
        have hcx : wr.cell? ⟨g2, i, none⟩ = some (.int .u8 (c : Int)) := by rw [HC.out]; exact HO.out.cell i hlt
        have hfr : wr.frozen? ⟨g2, i, none⟩ = false := HO.out.free _
        have hc : c < 256 := by rw [HC.out]; exact getD_lt HO.out.byte _
        obtain ⟨z, HZ⟩ : ∃ z, Hid (z = c ^^^ 85) := ⟨_, rfl⟩
        have ez : bits BinOp.xor IntKind.u8 (c : Int) 85 = (z : Int) := by rw [HZ.out]; exact u8_xor_nat c 85 hc (by omega)
        have hz8 : z < 256 := by rw [HZ.out]; exact Nat.xor_lt_two_pow (n := 8) hc (by omega)
        have HO' : Hid (Own (wr.setCell ⟨g2, i, none⟩ (.int .u8 (z : Int))) w1.heap.size (some ⟨g2, 0, none⟩) len len (L.set i z)) := HO.out.set i z hz8
        have HB' : Hid (Below w1.heap.size w1 (wr.setCell ⟨g2, i, none⟩ (.int .u8 (z : Int)))) := HB.out.setCell HG2.out.1 _
        have hch' : (wr.setCell ⟨g2, i, none⟩ (.int .u8 (z : Int))).cell? ⟨w2.heap.size, 2, none⟩ = some (.slice (some ⟨g2, 0, none⟩) len len) := (World.cell?_setCell_far wr _ _ _ hgne).trans hch
        have hfh' : (wr.setCell ⟨g2, i, none⟩ (.int .u8 (z : Int))).frozen? ⟨w2.heap.size, 2, none⟩ = false := (World.frozen?_of_block (Below.heap_setCell wr ⟨g2, i, none⟩ _ w2.heap.size (Ne.symm hgne))).trans hfh
        have hhs' : w2.heap.size < (wr.setCell ⟨g2, i, none⟩ (.int .u8 (z : Int))).heap.size := by simpa using hhs
        go_wp2
        go_roundw
        case rel => exact ⟨i + 1, L.set i z, by omega, by go_num, HO', hch', hfh', hhs', HB'⟩
        case measure => simp [intOf]; omega
      · have hnl : ¬ (i : Int) < (len : Int) := by omega
        have HA3 : Hid (Below wr.heap.size wr (wr.alloc (.cells #[.int .u8 1, .int .u8 2, .int .u8 3] 5))) := below_alloc wr _
        have HRN : Hid (Rd (wr.alloc (.cells #[.int .u8 1, .int .u8 2, .int .u8 3] 5)) (some ⟨wr.heap.size, 0, none⟩) 3 [1, 2, 3]) := (Own.new wr 0 #[.int .u8 1, .int .u8 2, .int .u8 3] [1, 2, 3] (by decide) rfl (Nat.zero_le _) (by show 3 ≤ maxLen; unfold maxLen; omega)).rd
        have HWR : Hid (w1.heap.size ≤ wr.heap.size) := HB.out.size
        go_wp2_with (at_builtin; refine wpList_append_rd (by rfl) (.tmp 48) (.tmp 49) (by rfl) w1.heap.size (some ⟨g2, 0, none⟩) len len L (by rfl) (HO.out.below HA3.out) (some ⟨wr.heap.size, 0, none⟩) 3 3 [1, 2, 3] (by rfl) HRN.out (fun h => by cases h) (by omega) (Nat.le_trans HWR.out HA3.out.size) ?_)
        intro a3 c3 w3 hown3 hgrow3 hbel3
        have hblk : w3.heap[w2.heap.size]? = wr.heap[w2.heap.size]? := (hgrow3.block w2.heap.size (by simp; omega) (by simp [Value.ownBlock]; omega)).trans (HA3.out.block w2.heap.size hhs)
        have hch3 : w3.cell? ⟨w2.heap.size, 2, none⟩ = some (.slice (some ⟨g2, 0, none⟩) len len) := (World.cell?_of_block (w := wr) (w' := w3) (a := ⟨w2.heap.size, 2, none⟩) hblk).trans hch
        have hfh3 : w3.frozen? ⟨w2.heap.size, 2, none⟩ = false := (World.frozen?_of_block (w := wr) (w' := w3) (a := ⟨w2.heap.size, 2, none⟩) hblk).trans hfh
        have HB3 : Hid (Below w1.heap.size w1 w3) := (HB.out.trans (HA3.out.mono HWR.out)).trans hbel3
        have HB3' : Hid (Below w1.heap.size w1 (w3.setCell ⟨w2.heap.size, 2, none⟩ (.slice a3 (len + 3) c3))) := HB3.out.setCell HWW.out _
        have k3 := conv_rd (HO1.out.rd.below HB3'.out) (len + 8)
        rw [← HS.out] at k3
        clear hown3 hgrow3 hbel3 hblk
        go_wp2_with fail
        obtain ⟨W, HW⟩ : ∃ W, Hid (W = w3.setCell ⟨w2.heap.size, 2, none⟩ (.slice a3 (len + 3) c3)) := ⟨_, rfl⟩
        rw [← HW.out] at HB3'
        rw [← HW.out]
        have HBW : Hid (Below w.heap.size w W) := HB1.out.trans (HB3'.out.mono HB1.out.size)
        have HOW : Hid (Own W w.heap.size (some ⟨g, 0, none⟩) (len + 8) (len + 8) (SealM.sealed k bs)) := HO1.out.below HB3'.out
        refine (seal_Scan (some ⟨g, 0, none⟩) (len + 8) (len + 8) (SealM.sealed k bs) W HOW.out.rd (Nat.le_refl _) (by omega) (HT.out.below h0 HBW.out) (Nat.lt_of_lt_of_le h0 HBW.out.size)).mono ?_
        rintro e w5 ⟨v, ts, n, rfl, hf5, hd5, hb5⟩
        rw [HSC.out] at hd5
        obtain ⟨hdt, hn5⟩ := Prod.mk.inj hd5
        subst hn5
        obtain ⟨t, hts, hdat⟩ : ∃ t, ts = [t] ∧ t.dat = (k, 0, bs) := by
          match ts, hdt with
          | [t], h => exact ⟨t, rfl, by simpa using h⟩
          | [], h => simp at h
          | _ :: _ :: _, h => simp at h
        subst hts
        have htb : t.body = bs := congrArg (·.2.2) hdat
        have HF5 : Hid (Found w5 W.heap.size v [t]) := hf5
        have HB5 : Hid (Below w.heap.size w w5) := HBW.out.trans (hb5.mono HBW.out.size)
        have HO5 : Hid (Own w5 w.heap.size (some ⟨g, 0, none⟩) (len + 8) (len + 8) (SealM.sealed k bs)) := HOW.out.below hb5
        have hgW : g < W.heap.size := Nat.lt_of_lt_of_le hgl HB3'.out.size
        clear hf5 hd5 hb5 hdt hdat
        obtain ⟨fg, fc, hv⟩ := HF5.out.one
        subst hv
        obtain ⟨tk, tp, ta, tq, tc, tb⟩ := t
        have htb' : tb = bs := htb
        subst htb'
        clear htb
        obtain ⟨S2, HS2⟩ : ∃ S2, Hid (S2 = str tb) := ⟨_, rfl⟩
        go_wp2
        go_loopw [15] (fun t15 wx => ∃ (j : Nat) (L : List Nat), j ≤ len + 8 ∧ t15 = .int .i64 (j : Int) ∧ Hid (Own wx w.heap.size (some ⟨g, 0, none⟩) (len + 8) (len + 8) L) ∧ Hid (Found wx W.heap.size (.slice (some ⟨fg, 0, none⟩) 1 fc) [⟨tk, tp, ta, tq, tc, tb⟩]) ∧ Hid (Below w.heap.size w wx)) (fun t15 _ => len + 8 - (intOf t15).toNat)
        case atStart => exact ⟨0, SealM.sealed k tb, by omega, rfl, HO5, HF5, HB5⟩
        case round =>
          obtain ⟨j, L2, hj, rfl, HOx, HFx, HBx⟩ := hrel
          by_cases hjl : j < len + 8
          · have hjl' : (j : Int) < (len : Int) + 8 := by omega
            have hcx := HOx.out.cell j hjl
            have hfr : wr.frozen? ⟨g, j, none⟩ = false := HOx.out.free _
            have HO' : Hid (Own (wr.setCell ⟨g, j, none⟩ (.int .u8 7)) w.heap.size (some ⟨g, 0, none⟩) (len + 8) (len + 8) (L2.set j 7)) := HOx.out.set j 7 (by omega)
            have HB' : Hid (Below w.heap.size w (wr.setCell ⟨g, j, none⟩ (.int .u8 7))) := HBx.out.setCell hgb _
            have HF' : Hid (Found (wr.setCell ⟨g, j, none⟩ (.int .u8 7)) W.heap.size (.slice (some ⟨fg, 0, none⟩) 1 fc) [⟨tk, tp, ta, tq, tc, tb⟩]) := HFx.out.under ⟨g, j, none⟩ _ hgW
            go_wp2
            go_roundw
            case rel => exact ⟨j + 1, L2.set j 7, by omega, by go_num, HO', HF', HB'⟩
            case measure => simp [intOf]; omega
          · have hjl' : ¬ (j : Int) < (len : Int) + 8 := by omega
            have HSK : Hid (∀ w', Below wr.heap.size wr w' → w'.cell? ⟨fg, 2, none⟩ = some (.slice ta tq tc) ∧ (convert 22 9 (.slice ta tq tc)).run Tryd.prog w' = .ok (.string S2) w' ∧ (convert 22 9 (.slice a len cap)).run Tryd.prog w' = .ok (.string S2) w') := by
              intro w' hb
              have hF := HFx.out.below hb
              rw [HS2.out]
              exact ⟨hF.cell2, conv_rd (hF.body ⟨tk, tp, ta, tq, tc, tb⟩ (List.mem_singleton.2 rfl)).rd tc, conv_rd ((HR.out.below HBx.out).below hb) cap⟩
            go_wp2
            go_region_held3 (fun w' => w'.cell? ⟨fg, 2, none⟩ = some (.slice ta tq tc) ∧ (convert 22 9 (.slice ta tq tc)).run Tryd.prog w' = .ok (.string S2) w' ∧ (convert 22 9 (.slice a len cap)).run Tryd.prog w' = .ok (.string S2) w') (first | exact HSK.out _ (Below.refl _ _).drew | exact HSK.out _ HB6.out | exact HSK.out _ HB6.out.drew | fail)
              (first
                | (go_at_call 7; refine (lives_any _ (HT.out.below h0 HBx.out.drew) (Nat.lt_of_lt_of_le h0 HBx.out.drew.size)).mono ?_; rintro e w6 ⟨rfl, hb6⟩; have HB6 : Hid (Below wr.heap.size wr w6) := (Below.refl _ _).drew.trans hb6; have HB6' : Hid (Below w.heap.size w w6) := HBx.out.trans (HB6.out.mono HBx.out.size); clear hb6))
            go_wp2
            go_ret
            exact ⟨by simp, HB6'.out⟩

theorem contract (H : Type) (enc : TypeId × Value → H) (W : World) (base : Nat) (args : Array Value) (ds gs : List (DataW H)) (before : List MemPlace)
    (hval : ∀ (j : Nat) t v, Tryd.f4.params[j]? = some t → args[j]? = some v → Value.okWide Tryd.prog W .any base t v)
    (hW : DataW.Whole enc Tryd.prog Tryd.f4.params.toList Rows.sealOwnSpec.vars false W args.toList ds gs before) (hL : laidMetH Tryd.prog [("grapevine/seal.steps", Rows.laid_grapevine_seal_steps)] W) :
    Calls Tryd.prog 4 args W fun e W' => ∃ v, e = .returned v ∧ Rows.sealOwnSpec.post enc Tryd.prog Tryd.f4 false true false false W args v W' := by
  have hW' := hW
  obtain ⟨p, q, hA0, hV, rfl, hfz, hnd⟩ := hW
  have hA : DataW.TrodAll enc Tryd.prog W 0 (fun _ => true) true Tryd.f4.params.toList args.toList ds p := hA0
  have hK := hA
  rw [Tryd.params4] at hA hval
  obtain ⟨v0, vs0, d0, ds0, p0, q0, hargs, rfl, rfl, h0, r0⟩ := trodAll_cons hA
  obtain ⟨v1, vs1, d1, ds1, p1, q1, rfl, rfl, rfl, h1, r1⟩ := trodAll_cons r0
  obtain ⟨rfl, rfl, rfl⟩ := trodAll_nil r1
  obtain rfl : args = #[v0, v1] := by cases args; simp_all
  obtain ⟨rfl, rfl⟩ := trodVars_none hV
  obtain ⟨x0, rfl, rfl, rfl, w0⟩ := open_int Tryd.underlying5 (hval 0 5 v0 rfl rfl) h0
  have b0 : (0 : Int) ≤ x0 ∧ x0 ≤ 255 := by simpa [Lit.wf, IntKind.min, IntKind.max, IntKind.signed, IntKind.bits] using w0
  obtain ⟨n0, rfl⟩ := Int.eq_ofNat_of_zero_le b0.1
  obtain ⟨a1, len1, cap1, rfl⟩ := okWide_slice Tryd.underlying22 (hval 1 22 v1 rfl rfl)
  obtain ⟨bs1, rd1, lc1, cm1, bk1, nc1, fm1⟩ := rd_of h1
  have ht := table hL
  have hz : 0 < W.heap.size := World.block_lt_of_cell? W _ (ht 0 (by omega))
  refine (walk n0 (by omega) a1 len1 cap1 bs1 W rd1 (by omega) ht hz).mono fun e W' ⟨he, bel⟩ => ?_
  subst he
  exact ⟨_, rfl, _, _, _, [], _, [], hW', trodAll_mk1 (shut_bool Tryd.underlying4 _), trodAll_below laidOut bel _ _ _ _ (by kernel_rfl) hK, rfl, bel.frame _, fun h => by cases h⟩

theorem laid_met (os : Os) : laidMet Tryd.prog Rows.sealOwnRow.laid ((layTab (World.holding Tryd.prog os ⟨#[], #[], []⟩)).forCall (fun _ _ => 0) ⟨#[], #[.int .u8 0, .slice none 0 0], []⟩).memory :=
  laidMet_of_run' 8 (by kernel_rfl) (by kernel_rfl)
theorem reads (os : Os) {H : Type} (enc : TypeId × Value → H) : ∃ places, DataW.whole enc Tryd.prog ((layTab (World.holding Tryd.prog os ⟨#[], #[], []⟩)).forCall (fun _ _ => 0) ⟨#[], #[.int .u8 0, .slice none 0 0], []⟩).memory Tryd.f4.params.toList Rows.sealOwnSpec.vars false (#[.int .u8 0, .slice none 0 0] : Array Value).toList 8 = some ([.lit (.int .u8 0), .nil], [], places) :=
  ⟨[], by kernel_rfl⟩

set_option maxRecDepth 100000 in
theorem lifted (os : Os) (started : os.Started) (H : Type) (enc : TypeId × Value → H) (F : Stop.Interp) :
    ReturnsInHanded {} Tryd.checked os 4 .any ((OpenSpec.ofChange Rows.sealOwnSpec).preRow enc Tryd.prog Tryd.f4 Rows.sealOwnRow.domain false Rows.sealOwnRow.laid) (((OpenSpec.ofChange Rows.sealOwnSpec).at F).post enc Tryd.prog Tryd.f4 false true false false) := by
  obtain ⟨places, hx⟩ := reads os enc
  refine returnsInHanded_of_row (C := Tryd.checked) (s := OpenSpec.ofChange Rows.sealOwnSpec) own started (by kernel_rfl) Tryd.func4
    (witness_row_at (enc := enc) (C := Tryd.checked) false (layTab (World.holding Tryd.prog os ⟨#[], #[], []⟩)) #[.int .u8 0, .slice none 0 0] rfl (by kernel_rfl) (by kernel_rfl) (by kernel_rfl)
      (OpenSpec.preRow_of_cond 8 hx (by kernel_rfl) (fun k hk => by cases hk) (by kernel_rfl) (laid_met os))) ?_
  intro W base args ds gs before hval hW _ _ _ hL _ _
  exact contract H enc W base args ds gs before hval hW hL

theorem said : Rows.SealOwnSaid :=
  OpenClaim.holds_of_cond 4 Tryd.f4 rfl rfl rfl rfl rfl rfl rfl ⟨rfl, rfl, rfl, rfl, rfl⟩ rfl rfl rfl rfl rfl (by kernel_rfl) Tryd.func4 (by kernel_rfl)
    (of_decide_eq_true (by kernel_rfl)) (by unfold Func.isWrapper; first | (rw [if_pos (by decide +kernel)]; kernel_rfl) | (rw [if_neg (by decide +kernel)]; exact ⟨rfl, rfl⟩))
    (fun os started H enc _ F => by rw [OpenClaim.pre_eq_preRow]; exact lifted os started H enc F)

theorem plain (f : FuncId) (fn : Func) (hf : Tryd.pinned.checked.prog.funcNamed "grapevine/grapevinelaw01.SealOwn" = some f) (hfn : Tryd.pinned.checked.prog.funcs[f]? = some fn) :
    false = Tryd.pinned.checked.prog.looks [] ∧ ∀ (j : Nat) t, fn.params[j]? = some t → Tryd.pinned.checked.prog.wantsStandIn t = false := by
  obtain rfl : f = 4 := Option.some.inj ((show Tryd.prog.funcNamed "grapevine/grapevinelaw01.SealOwn" = some 4 by kernel_rfl).symm.trans hf) |>.symm
  obtain rfl : fn = Tryd.f4 := (Option.some.inj (Tryd.func4.symm.trans hfn)).symm
  refine ⟨by kernel_rfl, fun j t ht => ?_⟩
  rw [Tryd.params4] at ht
  have hall : ∀ t ∈ (#[5, 22] : Array TypeId), Tryd.prog.wantsStandIn t = false := by
    intro t ht
    simp at ht
    rcases ht with rfl | rfl
    · exact (show Tryd.prog.wantsStandIn 5 = false by kernel_rfl)
    · exact (show Tryd.prog.wantsStandIn 22 = false by kernel_rfl)
  exact hall t (Array.mem_of_getElem? ht)

theorem card : Rows.SealOwnCardSaid :=
  Claim7.holds_tied_plain_at .later [] _ _ _ _ said (fun _ h => by cases h) (by kernel_rfl) (fun _ h => by cases h) sealOwn_row_tie rfl ⟨rfl, rfl⟩ (by kernel_rfl) rfl plain (by kernel_rfl)
end sealOwn

theorem sealOwn_holds : Rows.SealOwnCardSaid := sealOwn.card
end Go.Proofs.YtbhljlafijdodabDoor

