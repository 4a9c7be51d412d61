/- mark: lay. -/
import Derived.Test.YtghajmcohdedlaaSec6
import Derived.Test.YtghajmcohdedlaaKeys
namespace Go.Proofs.Ytghajmcohdedlaa
open Go.RowKit

/-- A whole sector's bytes. -/
def layB (x : Nat) (n v : Int) : List Nat := x :: (KeyM.key (KeyM.up n) ++ (KeyM.key (KeyM.up v) ++ (List.replicate 46 0 ++ [x])))
theorem key_len (u : Nat) : (KeyM.key u).length = 8 := rfl
theorem layB_sec {x : Nat} (n v : Int) (hx : x < 256) : Sec (layB x n v) := by
  refine ⟨by simp [layB, key_len], fun b hb => ?_⟩
  unfold layB at hb
  simp only [List.mem_cons, List.mem_append, List.mem_replicate, List.not_mem_nil, or_false] at hb
  rcases hb with rfl | h | h | ⟨_, rfl⟩ | rfl
  · exact hx
  · exact KeyM.key_byte _ _ h
  · exact KeyM.key_byte _ _ h
  · omega
  · exact hx
theorem infoArr : (Try.prog.info? 69).map (fun i => (i.zero, i.size)) = some (some (.agg (List.replicate 64 (Value.int .u8 0)).toArray), 64) := by kernel_rfl
theorem vb_app (a b : List Nat) : vb (a ++ b) = vb a ++ vb b := by simp [vb]
theorem Rd.srcs {w : World} {a : Addr} {len : Nat} {bs : List Nat} (h : Rd w (some a) len bs) (hl : 0 < len) : ∀ j v, (vb bs)[j]? = some v → w.cell? (a.add j) = some v := by
  rcases h.cells with h0 | ⟨b, off, ha, _, hc⟩
  · omega
  · intro j v hj
    simp only [Option.some.injEq] at ha
    subst ha
    have hjl : j < len := by
      have := (List.getElem?_eq_some_iff.1 hj).1
      rw [vb_length, h.size] at this
      exact this
    have e : (⟨b, off, none⟩ : Addr).add j = ⟨b, off + j, none⟩ := by unfold Addr.add; split <;> simp_all
    rw [e, hc j hjl, ← hj]
    simp [vb, List.getD_eq_getElem?_getD, List.getElem?_eq_getElem (show j < bs.length by rw [h.size]; exact hjl)]
theorem splice_length {α : Type} (L : List α) (o : Nat) (cs : List α) (h : o + cs.length ≤ L.length) : (splice L o cs).length = L.length := by
  unfold splice
  rw [List.length_append, List.length_append, List.length_take, List.length_drop]
  omega
/-- The array, step by step. -/
theorem lay_row (x : Nat) (k1 k2 : List Nat) (h1 : k1.length = 8) (h2 : k2.length = 8) :
    (splice (splice ((List.replicate 64 (Value.int .u8 0)).set 0 (.int .u8 (x : Int))) 1 (vb k1)) 9 (vb k2)).set 63 (.int .u8 (x : Int)) = vb (x :: (k1 ++ (k2 ++ (List.replicate 46 0 ++ [x])))) := by
  match k1, h1 with
  | [a0, a1, a2, a3, a4, a5, a6, a7], _ =>
    match k2, h2 with
    | [b0, b1, b2, b3, b4, b5, b6, b7], _ => rfl

set_option maxRecDepth 100000 in
set_option maxHeartbeats 2000000 in
theorem mark_lay (x : Nat) (n v : Int) (hn : (-9223372036854775808 : Int) ≤ n ∧ n ≤ 9223372036854775807) (hv : (-9223372036854775808 : Int) ≤ v ∧ v ≤ 9223372036854775807) (w : World) :
    Calls Try.prog 96 #[.int .u8 (x : Int), .agg #[.int .i64 n, .int .i64 v]] w fun e w' => ∃ k, e = .returned (.slice (some ⟨k, 0, none⟩) 64 64) ∧ w.heap.size ≤ k ∧ Blk w' k (vb (layB x n v)).toArray 69 ∧ Below w.heap.size w w' := by
  obtain ⟨Z, HZ⟩ : ∃ Z : List Value, Hid (Z = List.replicate 64 (Value.int .u8 0)) := ⟨_, rfl⟩
  have HZI : Hid ((Try.prog.info? 69).map (fun i => (i.zero, i.size)) = some (some (.agg Z.toArray), 64)) := by show _ = _; rw [HZ.out]; exact infoArr
  have HZL : Hid (Z.length = 64) := by show _ = _; rw [HZ.out]; simp
  have HN : Hid ((-9223372036854775808 : Int) ≤ n ∧ n ≤ 9223372036854775807) := hn
  have HV : Hid ((-9223372036854775808 : Int) ≤ v ∧ v ≤ 9223372036854775807) := hv
  go_enter Try.func96, Try.ntmps96
  go_wp2_with (guard_target =~ wpList _ _ _ (Oper.mk (some 5) _ _ _ _ _ :: _) _ _; refine wpList_alloc_row rfl 69 rfl Z 64 HZI.out ?_)
  intro w1 hk1 hb1 hs1
  have HE1 : Hid (Blk w1 w.heap.size #[.int .i64 n, .int .i64 v] 127) := (Blk.new w _ _).stay (by simpa using hb1)
  have HB1 : Hid (Below w.heap.size w w1) := (below_alloc w _).trans (hb1.mono (by simp))
  have HK1 : Hid (Blk w1 (w.heap.size + 1) Z.toArray 69) := hk1
  have z0 : w1.cell? ⟨w.heap.size + 1, 0, none⟩ = some (.int .u8 0) := hk1.cell 0 (by rw [HZ.out]; rfl)
  have f0 := hk1.free 0
  clear hk1 hb1 hs1
  go_wp2
  generalize hw2 : w1.setCell _ _ = w2
  obtain ⟨Y, HY⟩ : ∃ Y : List Value, Hid (Y = Z.set 0 (.int .u8 (x : Int))) := ⟨_, rfl⟩
  have HYL : Hid (Y.length = 64) := by show _ = _; rw [HY.out, List.length_set, HZL.out]
  have HK2 : Hid (Blk w2 (w.heap.size + 1) Y.toArray 69) := by
    show Blk _ _ _ _
    rw [← hw2, HY.out]
    have := HK1.out.set 0 (.int .u8 (x : Int))
    simpa using this
  have HE2 : Hid (Blk w2 w.heap.size #[.int .i64 n, .int .i64 v] 127) := by
    show Blk _ _ _ _
    rw [← hw2]
    exact HE1.out.other _ _ (by simp)
  have HB2 : Hid (Below w.heap.size w w2) := by
    show Below _ _ _
    rw [← hw2]
    exact HB1.out.setCell (Nat.le_succ _) _
  clear hw2 z0 f0 HK1 HE1 HB1
  have c0 : w2.cell? ⟨w.heap.size, 0, none⟩ = some (.int .i64 n) := HE2.out.cell 0 rfl
  obtain ⟨K, KE⟩ : ∃ K, Hid (K = KeyM.key (KeyM.up n)) := ⟨_, rfl⟩
  have KL : Hid (K.length = 8) := by show _ = _; rw [KE.out]; rfl
  obtain ⟨J, JE⟩ : ∃ J, Hid (J = KeyM.key (KeyM.up v)) := ⟨_, rfl⟩
  have JL : Hid (J.length = 8) := by show _ = _; rw [JE.out]; rfl
  have HQ : Hid (vb (layB x n v) = (splice (splice Y 1 (vb K)) 9 (vb J)).set 63 (.int .u8 (x : Int))) := by
    show _ = _
    rw [HY.out, HZ.out, layB, ← KE.out, ← JE.out]
    exact (lay_row x K J KL.out JL.out).symm
  have c2 := c0
  clear c0
  have HBd2 : Hid (Below w2.heap.size w2 w2.drew) := (Below.refl _ _).drew
  go_region_held3 (fun w' => w'.cell? ⟨w.heap.size, 0, none⟩ = some (.int .i64 n)) (first | exact c2 | exact c3 | exact c4 | fail)
    (first
      | (go_at_call 50; refine (octet_Key n HN.out _).mono ?_; rw [← KE.out]; rintro e w3 ⟨a3, rfl, ho3, hb3⟩; have HS3 : Hid (∀ j v, (vb K)[j]? = some v → w3.cell? (a3.add j) = some v) := ho3.rd.srcs (by omega); have hb3' : Below w2.heap.size w2 w3 := HBd2.out.trans hb3; have HK3 : Hid (Blk w3 (w.heap.size + 1) Y.toArray 69) := HK2.out.stay hb3'; have HE3 : Hid (Blk w3 w.heap.size #[.int .i64 n, .int .i64 v] 127) := HE2.out.stay hb3'; have HB3 : Hid (Below w.heap.size w w3) := HB2.out.trans (hb3'.mono HB2.out.size); have c3 : w3.cell? ⟨w.heap.size, 0, none⟩ = some (.int .i64 n) := HE3.out.cell 0 rfl; clear ho3 hb3 hb3')
      | (guard_target =~ (if Region.wanted (Oper.mk (some 12) _ _ _ _ _) _ = true then _ else _); refine step_copy_fr rfl (.tmp 8) (.tmp 11) 49 49 rfl 5 Try.underlying49 infoByteSz (some ⟨w.heap.size + 1, 1, none⟩) (some a3) 63 63 8 8 rfl rfl (w.heap.size + 1) 1 Y 69 HK3.out (vb K) (by rw [vb_length, KL.out]; rfl) (fun _ => ⟨rfl, _, rfl, HS3.out⟩) (by rw [vb_length, KL.out, HYL.out]; omega) (vb_one' _) ?_; intro w4 hk4 hg4; have c4 : w4.cell? ⟨w.heap.size, 0, none⟩ = some (.int .i64 n) := cell_far hg4 c3 (by simp)))
  obtain ⟨X, HX⟩ : ∃ X : List Value, Hid (X = splice Y 1 (vb K)) := ⟨_, rfl⟩
  rw [← HX.out] at hk4
  have HXL : Hid (X.length = 64) := by show _ = _; rw [HX.out, splice_length _ _ _ (by rw [vb_length, KL.out, HYL.out]; omega), HYL.out]
  have HK4 : Hid (Blk w4 (w.heap.size + 1) X.toArray 69) := hk4
  have HE4 : Hid (Blk w4 w.heap.size #[.int .i64 n, .int .i64 v] 127) := HE3.out.grown hg4 (by simp)
  have HB4 : Hid (Below w.heap.size w w4) := HB3.out.trans ((Below.refl _ _).grown hg4 HB3.out.size (fun k hk => by simp only [Option.some.injEq] at hk; omega))
  clear hk4 hg4 c2 c3 c4
  have c4 : w4.cell? ⟨w.heap.size, 1, none⟩ = some (.int .i64 v) := HE4.out.cell 1 rfl
  go_wp2
  have HBd4 : Hid (Below w4.heap.size w4 w4.drew) := (Below.refl _ _).drew
  go_region_held3 (fun w' => w'.cell? ⟨w.heap.size, 1, none⟩ = some (.int .i64 v)) (first | exact c4 | exact c5 | exact c6 | fail)
    (first
      | (go_at_call 50; refine (octet_Key v HV.out _).mono ?_; rw [← JE.out]; rintro e w5 ⟨a5, rfl, ho5, hb5⟩; have HS5 : Hid (∀ j v, (vb J)[j]? = some v → w5.cell? (a5.add j) = some v) := ho5.rd.srcs (by omega); have hb5' : Below w4.heap.size w4 w5 := HBd4.out.trans hb5; have HK5 : Hid (Blk w5 (w.heap.size + 1) X.toArray 69) := HK4.out.stay hb5'; have HE5 : Hid (Blk w5 w.heap.size #[.int .i64 n, .int .i64 v] 127) := HE4.out.stay hb5'; have HB5 : Hid (Below w.heap.size w w5) := HB4.out.trans (hb5'.mono HB4.out.size); have c5 : w5.cell? ⟨w.heap.size, 1, none⟩ = some (.int .i64 v) := HE5.out.cell 1 rfl; clear ho5 hb5 hb5')
      | (guard_target =~ (if Region.wanted (Oper.mk (some 17) _ _ _ _ _) _ = true then _ else _); refine step_copy_fr rfl (.tmp 13) (.tmp 16) 49 49 rfl 5 Try.underlying49 infoByteSz (some ⟨w.heap.size + 1, 9, none⟩) (some a5) 55 55 8 8 rfl rfl (w.heap.size + 1) 9 X 69 HK5.out (vb J) (by rw [vb_length, JL.out]; rfl) (fun _ => ⟨rfl, _, rfl, HS5.out⟩) (by rw [vb_length, JL.out, HXL.out]; omega) (vb_one' _) ?_; intro w6 hk6 hg6; have c6 : w6.cell? ⟨w.heap.size, 1, none⟩ = some (.int .i64 v) := cell_far hg6 c5 (by simp)))
  obtain ⟨V, HVx⟩ : ∃ V : List Value, Hid (V = splice X 9 (vb J)) := ⟨_, rfl⟩
  rw [← HVx.out] at hk6
  have HVL : Hid (V.length = 64) := by show _ = _; rw [HVx.out, splice_length _ _ _ (by rw [vb_length, JL.out, HXL.out]; omega), HXL.out]
  have HK6 : Hid (Blk w6 (w.heap.size + 1) V.toArray 69) := hk6
  have HB6 : Hid (Below w.heap.size w w6) := HB5.out.trans ((Below.refl _ _).grown hg6 HB5.out.size (fun k hk => by simp only [Option.some.injEq] at hk; omega))
  have z6 : ∃ z, w6.cell? ⟨w.heap.size + 1, 63, none⟩ = some z := by
    have h63 : 63 < V.length := by rw [HVL.out]; omega
    exact ⟨V[63], hk6.cell 63 (by simp)⟩
  obtain ⟨z, z6⟩ := z6
  have f6 := hk6.free 63
  clear hk6 hg6 c4 c5 c6
  go_wp2
  go_ret
  refine ⟨w.heap.size + 1, rfl, by omega, ?_, HB6.out.setCell (Nat.le_succ _) _⟩
  rw [HQ.out, ← HX.out, ← HVx.out]
  have := HK6.out.set 63 (.int .u8 (x : Int))
  simpa using this
end Go.Proofs.Ytghajmcohdedlaa
