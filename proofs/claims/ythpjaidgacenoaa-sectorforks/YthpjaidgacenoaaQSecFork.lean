/- sector: Fork. -/
import Derived.Test.YthpjaidgacenoaaQSecPlay
namespace Go.Proofs.Ythpjaidgacenoaa
open Go.RowKit

theorem scells_one (S : List (List Nat)) : ∀ u ∈ scells S, u.oneCell' = true := by
  intro u hu
  rw [scells, List.mem_flatMap] at hu
  obtain ⟨s, _, h⟩ := hu
  exact vb_one s u h
theorem wrow_one (W : List (Nat × List Nat)) : ∀ u ∈ W.flatMap wcells, u.oneCell' = true := by
  intro u hu
  rw [List.mem_flatMap] at hu
  obtain ⟨p, _, h⟩ := hu
  exact wcells_one p u h
theorem eqlBlocks (w : World) (a : Option Addr) (n c n' c' : Nat) : (binOp .eql 75 (.slice a n c) (.slice none n' c')).run Try.prog w = .ok (.bool a.isNone) w := Lib.run_eql_slice_nil w _ _ a n c n' c' Try.underlying75
theorem eqlWrites (w : World) (a : Option Addr) (n c n' c' : Nat) : (binOp .eql 76 (.slice a n c) (.slice none n' c')).run Try.prog w = .ok (.bool a.isNone) w := Lib.run_eql_slice_nil w _ _ a n c n' c' Try.underlying76
theorem infoDisk : (Try.prog.info? 78).map (·.size) = some 5 := by kernel_rfl

set_option maxRecDepth 100000 in
set_option maxHeartbeats 1000000 in
theorem clone_blocks (w : World) (gs n c0 : Nat) (S : List (List Nat)) (R : List Value) (hn : n = S.length) (hs : ∀ s ∈ S, Sec s) (h512 : n ≤ 512) (h1 : 1 ≤ n) (hb : Blk w gs (scells S ++ R).toArray 80) :
    Calls Try.prog 38 #[.slice (some ⟨gs, 0, none⟩) n c0] w fun e w' => ∃ k c R', e = .returned (.slice (some ⟨k, 0, none⟩) n c) ∧ Hid (Blk w' k (scells S ++ R').toArray 80 ∧ w.heap.size ≤ k) ∧ Below w.heap.size w w' := by
  have HB : Hid (Blk w gs (scells S ++ R).toArray 80) := hb
  have HL : Hid ((scells S).length = n * 64) := by show _ = _; rw [scells_len S hs, hn]
  obtain ⟨i0, hi, hz0, hz1, hz2⟩ := info_parts infoBlockB
  have q1 := eqlBlocks w (some ⟨gs, 0, none⟩) n c0 0 0
  have HOW : Hid ((w.alloc (.cells #[] 80)).ownsRow w.heap.size 80 64 (.slice (some ⟨w.heap.size, 0, none⟩) 0 0) 0 []) := World.ownsRow_made w #[] 0 (Nat.le_refl _) (Nat.zero_le _) rfl
  have HSZ : Hid (w.heap.size ≤ (w.alloc (.cells #[] 80)).heap.size) := by show _ ≤ _; simp
  have HNW : Hid (∀ j u, (scells S)[j]? = some u → (w.alloc (.cells #[] 80)).cell? ((⟨gs, 0, none⟩ : Addr).add j) = some u) := fun j u hj => by
    have e : (⟨gs, 0, none⟩ : Addr).add j = ⟨gs, 0 + j, none⟩ := by unfold Addr.add; split <;> simp_all
    rw [e, Nat.zero_add]
    refine (HB.out.stay (below_alloc _ _)).cell j ?_
    rw [List.getElem?_toArray, List.getElem?_append_left (List.getElem?_eq_some_iff.1 hj).1]
    exact hj
  clear hb hs hn
  go_enter Try.func38, Try.ntmps38
  go_wp2_with (guard_target =~ wpList _ _ _ (Oper.mk (some 7) _ _ _ _ _ :: _) _ _; refine wpList_append_own _ rfl (.tmp 5) (.tmp 6) 75 rfl w.heap.size 80 i0 (.agg (List.replicate 64 (Value.int .u8 0)).toArray) 64 64 Try.underlying75 hi hz0 hz1 hz2 (by rfl) (by decide) (.slice (some ⟨w.heap.size, 0, none⟩) 0 0) 0 [] rfl HOW.out ⟨gs, 0, none⟩ n c0 (scells S) rfl HL.out HNW.out (scells_one S) (by unfold maxLen; omega) (by omega) HSZ.out ?_)
  intro v' w1 ho hg hnn
  have HO : Hid (w1.ownsRow w.heap.size 80 64 v' n (scells S)) := by
    show w1.ownsRow _ _ _ _ _ _
    simpa using ho
  have HB1 : Hid (Below w.heap.size w w1) := (below_alloc _ _).trans ((Below.refl _ _).grown hg HSZ.out (fun k hk => (HOW.out.lt k hk).1))
  obtain ⟨k, c, R', rfl, hkb⟩ : ∃ k c R', v' = .slice (some ⟨k, 0, none⟩) n c ∧ Hid (Blk w1 k (scells S ++ R').toArray 80 ∧ w.heap.size ≤ k) := by
    rcases HO.out.2 with ⟨_, h0⟩ | ⟨k, c, cur, h2, h3, h4, _, _, _, h8⟩
    · omega
    · refine ⟨k, c, cur.toList.drop (n * 64), h2, ?_, h3⟩
      unfold Blk
      rw [← h8, List.take_append_drop, Array.toArray_toList]
      exact h4
  clear ho hg hnn q1
  go_wp2
  go_ret
  exact ⟨k, c, R', rfl, hkb, HB1.out⟩

set_option maxRecDepth 100000 in
set_option maxHeartbeats 1000000 in
theorem clone_writes (w : World) (base : Nat) (wv : Value) (W : List (Nat × List Nat)) (hw : w.ownsRow base 82 65 wv W.length (W.flatMap wcells)) (hl : W.length ≤ 1000000000) :
    Calls Try.prog 39 #[wv] w fun e w' => ∃ v', e = .returned v' ∧ Hid (w'.ownsRow w.heap.size 82 65 v' W.length (W.flatMap wcells)) ∧ Below w.heap.size w w' := by
  have HW : Hid (w.ownsRow base 82 65 wv W.length (W.flatMap wcells)) := hw
  obtain ⟨n, hn⟩ : ∃ n, n = W.length := ⟨_, rfl⟩
  have HN : Hid (n = W.length) := hn
  rw [← hn] at hl hw ⊢
  rcases hw.2 with ⟨rfl, h0⟩ | ⟨gw, c0, cur, rfl, hbg, _⟩
  · have HF : Hid (w.ownsRow w.heap.size 82 65 (.slice none 0 0) n (W.flatMap wcells)) := by
      show w.ownsRow _ _ _ _ _ _
      have : W = [] := List.length_eq_zero_iff.1 (by omega)
      rw [h0, this]
      exact World.ownsRow_nil _ _ _ _
    have q1 := eqlWrites w none 0 0 0 0
    clear hw hn
    go_enter Try.func39, Try.ntmps39
    go_wp2
    go_ret
    exact ⟨_, rfl, HF, Below.refl _ _⟩
  · have HLN : Hid ((W.flatMap wcells).length = n * 65) := hw.1
    obtain ⟨i0, hi, hz0, hz1, hz2⟩ := info_parts infoWriteB
    have q1 := eqlWrites w (some ⟨gw, 0, none⟩) n c0 0 0
    have HOW : Hid ((w.alloc (.cells #[] 82)).ownsRow w.heap.size 82 65 (.slice (some ⟨w.heap.size, 0, none⟩) 0 0) 0 []) := World.ownsRow_made w #[] 0 (Nat.le_refl _) (Nat.zero_le _) rfl
    have HSZ : Hid (w.heap.size ≤ (w.alloc (.cells #[] 82)).heap.size) := by show _ ≤ _; simp
    have HNW : Hid (∀ j u, (W.flatMap wcells)[j]? = some u → (w.alloc (.cells #[] 82)).cell? ((⟨gw, 0, none⟩ : Addr).add j) = some u) := fun j u hj => by
      have e : (⟨gw, 0, none⟩ : Addr).add j = ⟨gw, 0 + j, none⟩ := by unfold Addr.add; split <;> simp_all
      rw [e, Nat.zero_add]
      have hjl : j < n * 65 := by have := (List.getElem?_eq_some_iff.1 hj).1; rw [HLN.out] at this; exact this
      have hb := below_alloc w (.cells #[] 82)
      have h1 : (w.alloc (.cells #[] 82)).ownsRow base 82 65 (.slice (some ⟨gw, 0, none⟩) n c0) n (W.flatMap wcells) := own_stay hw (fun k hk => hb.block k (hw.lt k hk).2)
      rw [h1.cellAt j hjl]
      exact hj
    clear hw hn HW
    go_enter Try.func39, Try.ntmps39
    go_wp2_with (guard_target =~ wpList _ _ _ (Oper.mk (some 7) _ _ _ _ _ :: _) _ _; refine wpList_append_own _ rfl (.tmp 5) (.tmp 6) 76 rfl w.heap.size 82 i0 (.agg (Value.int .i64 0 :: List.replicate 64 (Value.int .u8 0)).toArray) 65 72 Try.underlying76 hi hz0 hz1 hz2 (by rfl) (by decide) (.slice (some ⟨w.heap.size, 0, none⟩) 0 0) 0 [] rfl HOW.out ⟨gw, 0, none⟩ n c0 (W.flatMap wcells) rfl HLN.out HNW.out (wrow_one W) (by unfold maxLen; omega) (by omega) HSZ.out ?_)
    intro v' w1 ho hg hnn
    have HO : Hid (w1.ownsRow w.heap.size 82 65 v' n (W.flatMap wcells)) := by
      show w1.ownsRow _ _ _ _ _ _
      simpa using ho
    have HB1 : Hid (Below w.heap.size w w1) := (below_alloc _ _).trans ((Below.refl _ _).grown hg HSZ.out (fun k hk => (HOW.out.lt k hk).1))
    clear ho hg hnn q1
    go_wp2
    go_ret
    exact ⟨_, rfl, HO, HB1.out⟩

set_option maxRecDepth 100000 in
set_option maxHeartbeats 2000000 in
theorem disk_Fork (w : World) (base g gs : Nat) (wv : Value) (D : Dk) (h : Disk w base g gs wv D) (h1 : 1 ≤ D.sure.length) :
    Calls Try.prog 17 #[.pointer (some ⟨g, 0, none⟩)] w fun e w' => ∃ g2 gs2 wv2 c R, e = .returned (.pointer (some ⟨g2, 0, none⟩)) ∧ Hid (Disk w' w.heap.size g2 gs2 wv2 { D with cap := c, room := R }) ∧ Below w.heap.size w w' := by
  obtain ⟨aw, mw, cw, rfl⟩ := own_slice h.wrow
  obtain ⟨wv, hwv⟩ : ∃ wv : Value, wv = .slice aw mw cw := ⟨_, rfl⟩
  rw [← hwv] at h
  have HWV0 : Hid (wv = .slice aw mw cw) := hwv
  have HD : Hid (Disk w base g gs wv D) := h
  have h512 := h.sz
  obtain ⟨n, hn⟩ : ∃ n, n = D.sure.length := ⟨_, rfl⟩
  have HN : Hid (n = D.sure.length) := hn
  rw [← hn] at h1 h512
  obtain ⟨C, hC⟩ : ∃ C : List Value, C = [.slice (some ⟨gs, 0, none⟩) n D.cap, wv, .int .i64 (D.trip : Int), .bool D.down, .int .i64 (D.age : Int)] := ⟨_, rfl⟩
  have HC : Hid (C = [.slice (some ⟨gs, 0, none⟩) n D.cap, wv, .int .i64 (D.trip : Int), .bool D.down, .int .i64 (D.age : Int)]) := hC
  have HKG : Hid (Blk w g C.toArray 78) := by show Blk _ _ _ _; rw [hC, hn]; exact h.blk
  have HCL : Hid (C.length = 5) := by show _ = _; rw [hC]; rfl
  have HWV : Hid (wv.oneCell' = true) := by
    show _ = _
    rcases h.wrow.2 with ⟨e, _⟩ | ⟨_, _, _, e, _⟩ <;> rw [e] <;> rfl
  have HC1 : Hid (∀ v ∈ C, v.oneCell' = true) := by
    show ∀ v ∈ C, _
    rw [hC]
    intro v hv
    simp only [List.mem_cons, List.not_mem_nil, or_false] at hv
    rcases hv with rfl | rfl | rfl | rfl | rfl
    · rfl
    · exact HWV.out
    · rfl
    · rfl
    · rfl
  have HRG : Hid (w.rangeAt g 0 C) := HKG.out.range 0 C (fun j v hj => by simpa using hj)
  obtain ⟨Z, HZ⟩ : ∃ Z : List Value, Hid (Z = [.slice none 0 0, .slice none 0 0, .int .i64 0, .bool false, .int .i64 0]) := ⟨_, rfl⟩
  have HZL : Hid (Z.length = 5) := by show _ = _; rw [HZ.out]; rfl
  have HZI : Hid ((Try.prog.info? 78).map (fun i => (i.zero, i.size)) = some (some (.agg Z.toArray), 5)) := by show _ = _; rw [HZ.out]; kernel_rfl
  clear h hn hC hwv
  go_enter Try.func17, Try.ntmps17
  go_wp2_with (first
    | (guard_target =~ wpList _ _ _ (Oper.mk (some 8) _ _ _ _ _ :: _) _ _; refine wpList_load_mid rfl 78 (.tmp 7) rfl g 0 rfl C _ HRG.out Try.underlying78 rfl (by rw [HCL.out]; exact infoDisk) ?_)
    | (guard_target =~ wpList _ _ _ (Oper.mk (some 3) _ _ _ _ _ :: _) _ _; refine wpList_alloc_row rfl 78 rfl Z 5 HZI.out ?_))
  intro w1 hk1 hb1 hs1
  have HK1 : Hid (Blk w1 w.heap.size Z.toArray 78) := hk1
  have HB1 : Hid (Below w.heap.size w w1) := hb1
  clear hk1 hb1 hs1
  go_wp2_with (guard_target =~ wpList _ _ _ (Oper.mk none _ _ _ _ _ :: _) _ _; refine wpList_store_row rfl 78 (.tmp 3) (.tmp 8) rfl w.heap.size 0 C rfl rfl Z 78 HK1.out (by rw [HCL.out, HZL.out]; omega) (by rw [HCL.out]; exact infoDisk) HC1.out ?_)
  intro w2 hk2 hg2
  have HK2 : Hid (Blk w2 w.heap.size #[.slice (some ⟨gs, 0, none⟩) n D.cap, wv, .int .i64 (D.trip : Int), .bool D.down, .int .i64 (D.age : Int)] 78) := by
    rw [splice_all Z C (by rw [HZL.out, HCL.out]), HC.out] at hk2
    exact hk2
  have HB2 : Hid (Below w.heap.size w w2) := HB1.out.trans ((Below.refl _ _).grown hg2 HB1.out.size (fun k hk => by simp only [Option.some.injEq] at hk; omega))
  have HD2 : Hid (Disk w2 base g gs wv D) := HD.out.stay HB2.out
  have HSR2 : Hid (Blk w2 gs (scells D.sure ++ D.room).toArray 80) := HD2.out.srow
  have c0 : w2.cell? ⟨g, 0, none⟩ = some (.slice (some ⟨gs, 0, none⟩) n D.cap) := by rw [HN.out]; exact HD2.out.blk.cell 0 rfl
  clear hk2 hg2
  go_wp2_with fail
  refine (clone_blocks w2 gs n D.cap D.sure D.room HN.out HD2.out.sec h512 h1 HSR2.out).mono ?_
  rintro e w3 ⟨k, c, R, rfl, hk3, hb3⟩
  have HB3 : Hid (Below w.heap.size w w3) := HB2.out.trans (hb3.mono HB2.out.size)
  have HK3 : Hid (Blk w3 w.heap.size #[.slice (some ⟨gs, 0, none⟩) n D.cap, wv, .int .i64 (D.trip : Int), .bool D.down, .int .i64 (D.age : Int)] 78) := HK2.out.stay hb3
  have HKB3 : Hid (Blk w3 k (scells D.sure ++ R).toArray 80) := hk3.out.1
  have HKL : Hid (w.heap.size ≤ k) := Nat.le_trans HB2.out.size hk3.out.2
  have t0 : w3.cell? ⟨w.heap.size, 0, none⟩ = some (.slice (some ⟨gs, 0, none⟩) n D.cap) := HK3.out.cell 0 rfl
  have f0 := HK3.out.free 0
  obtain ⟨w4, HW4⟩ : ∃ w4, Hid (w4 = w3.setCell ⟨w.heap.size, 0, none⟩ (.slice (some ⟨k, 0, none⟩) n c)) := ⟨_, rfl⟩
  have HNE : Hid (k ≠ w.heap.size) := (blk_ne HK3.out HKB3.out (by decide)).symm
  have HK4 : Hid (Blk w4 w.heap.size #[.slice (some ⟨k, 0, none⟩) n c, wv, .int .i64 (D.trip : Int), .bool D.down, .int .i64 (D.age : Int)] 78) := by
    show Blk _ _ _ _
    rw [HW4.out]
    exact HK3.out.set 0 _
  have HKB4 : Hid (Blk w4 k (scells D.sure ++ R).toArray 80) := by
    show Blk _ _ _ _
    rw [HW4.out]
    exact HKB3.out.grown (grown_cell _ _ _ _) (by simpa using HNE.out)
  have HB4 : Hid (Below w.heap.size w w4) := by
    show Below _ _ _
    rw [HW4.out]
    exact HB3.out.setCell (Nat.le_refl _) _
  have HD4 : Hid (Disk w4 base g gs wv D) := HD.out.stay HB4.out
  have c1 : (w3.setCell ⟨w.heap.size, 0, none⟩ (.slice (some ⟨k, 0, none⟩) n c)).cell? ⟨g, 1, none⟩ = some (.slice aw mw cw) := by rw [← HW4.out, ← HWV0.out]; exact HD4.out.blk.cell 1 rfl
  clear hk3 hb3 c0
  go_wp2_with fail
  rw [← HW4.out, ← HWV0.out]
  refine (clone_writes w4 base wv D.waits HD4.out.wrow HD4.out.wl).mono ?_
  rintro e w5 ⟨v', rfl, ho5, hb5⟩
  obtain ⟨av, lv, cv, rfl⟩ := own_slice ho5.out
  have HB5 : Hid (Below w.heap.size w w5) := HB4.out.trans (hb5.mono HB4.out.size)
  have HK5 : Hid (Blk w5 w.heap.size #[.slice (some ⟨k, 0, none⟩) n c, wv, .int .i64 (D.trip : Int), .bool D.down, .int .i64 (D.age : Int)] 78) := HK4.out.stay hb5
  have HKB5 : Hid (Blk w5 k (scells D.sure ++ R).toArray 80) := HKB4.out.stay hb5
  have HO5 : Hid (w5.ownsRow w.heap.size 82 65 (.slice av lv cv) D.waits.length (D.waits.flatMap wcells)) := own_lower ho5.out HB4.out.size
  have t1 : w5.cell? ⟨w.heap.size, 1, none⟩ = some wv := HK5.out.cell 1 rfl
  have f1 := HK5.out.free 1
  have HF : Hid (Disk (w5.setCell ⟨w.heap.size, 1, none⟩ (.slice av lv cv)) w.heap.size w.heap.size k (.slice av lv cv) { D with cap := c, room := R }) := by
    have hc := grown_cell w5 w.heap.size 1 (.slice av lv cv)
    have hne := own_ne HO5.out HK5.out (by decide)
    refine ⟨?_, HKB5.out.grown hc (by simpa using HNE.out), own_stay HO5.out (fun j hj => hc.block j (HO5.out.lt j hj).2 (fun e => hne (by rw [hj, e]))), Nat.le_refl _, HKL.out, HD.out.sz, HD.out.sec, HD.out.wts, HD.out.tr, HD.out.ag, HD.out.wl⟩
    have := HK5.out.set 1 (.slice av lv cv)
    rw [HN.out] at this
    exact this
  have HBF : Hid (Below w.heap.size w (w5.setCell ⟨w.heap.size, 1, none⟩ (.slice av lv cv))) := HB5.out.setCell (Nat.le_refl _) _
  clear ho5 hb5 c1
  go_wp2
  go_ret
  exact ⟨_, _, _, _, _, rfl, HF, HBF.out⟩
end Go.Proofs.Ythpjaidgacenoaa
