import Derived.Test.YtghajmcohdedlaaGreatEvB6
import Derived.Test.YtghajmcohdedlaaGreatPk07
import Derived.Test.YtghajmcohdedlaaGreatPk05
namespace Go.Proofs.YtghajmcohdedlaaGreat
open Go.RowKit
set_option maxRecDepth 100000
def syncF (D : Dk) (ag : Nat) : Int × Dk := if staleE D ag ≠ 0 then (staleE D ag, D) else (syncE D, syncD D)
set_option maxHeartbeats 4000000 in
theorem evl_SyncG (w : World) (base bd g gs : Nat) (wv : Value) (D : Dk) (gl gc b m ag : Nat) (U : List Sg) (uv : Value) (hi rel : Nat) (L : List Rc) (rv : Value) (h : LgG w base bd g gs wv D gl gc b m ag U uv hi rel L rv) :
  Calls Tryz.prog 30 #[.pointer (some ⟨gl, 0, none⟩)] w fun e w' => e = .returned (.int .i64 (syncF D ag).1) ∧ Hid (∃ wv', LgG w' base bd g gs wv' (syncF D ag).2 gl gc b m ag U uv hi rel L rv) ∧ Hid (Mv w w' bd g gs) := by
 have HG : Hid (LgG w base bd g gs wv D gl gc b m ag U uv hi rel L rv) := h
 have HBD : Hid (bd ≤ w.heap.size) := Nat.le_trans h.disk.bg (Nat.le_of_lt h.disk.blk.lt)
 have HST := evl_stale w bd g gs wv D gl gc b m ag hi rel uv rv h.disk h.log
 obtain ⟨se, HSE⟩ : ∃ se, Hid (staleE D ag = se) := ⟨_, rfl⟩
 rw [HSE.out] at HST
 obtain ⟨⟨R1, R2⟩, HR⟩ : ∃ R, Hid (syncF D ag = R) := ⟨_, rfl⟩
 rw [HR.out]
 simp only
 clear h
 go_enter Tryz.func30, Tryz.ntmps30
 go_wp2_with fail
 refine HST.mono ?_
 rintro e w1 ⟨rfl, n, hw1⟩
 have hb1 : Below w.heap.size w w1 := by rw [hw1]; exact below_drewN (Below.refl _ _) _
 clear hw1
 have HG1 : Hid (LgG w1 base bd g gs wv D gl gc b m ag U uv hi rel L rv) := HG.out.below hb1
 have HM1 : Hid (Mv w w1 bd g gs) := Mv.of_below g gs hb1 HBD.out
 clear hb1 HST
 by_cases hse : se = 0
 ·subst hse
  have HRR : Hid (syncE D = R1 ∧ syncD D = R2) := by
   have h1 := HR.out
   unfold syncF at h1
   rw [HSE.out, if_neg (by simp)] at h1
   cases h1
   exact ⟨rfl, rfl⟩
  have c0 : w1.cell? ⟨gl, 0, none⟩ = some (.pointer (some ⟨g, 0, none⟩)) := Blk.cell HG1.out.log 0 rfl
  have HSN := disk_Sync w1 bd g gs wv D HG1.out.disk
  rw [HRR.out.1, HRR.out.2] at HSN
  go_wp2_with fail
  refine HSN.mono ?_
  rintro e w2 ⟨rfl, hd2, hm2⟩
  obtain ⟨wv2, hd2⟩ := hd2.out
  have HG2 : Hid (LgG w2 base bd g gs wv2 R2 gl gc b m ag U uv hi rel L rv) := HG1.out.mv hm2 hd2
  have HM2 : Hid (Mv w w2 bd g gs) := HM1.out.trans hm2
  clear hd2 hm2 HSN c0
  go_wp2
  go_returns
  exact ⟨rfl, ⟨wv2, HG2.out⟩, HM2⟩
 ·have e5 : (se != 0) = true := by rw [bne_iff_ne]; exact hse
  have HRR : Hid (se = R1 ∧ D = R2) := by
   have h1 := HR.out
   unfold syncF at h1
   rw [HSE.out, if_pos hse] at h1
   cases h1
   exact ⟨rfl, rfl⟩
  go_wp2
  go_returns
  exact ⟨by rw [← HRR.out.1]; rfl, ⟨wv, by rw [← HRR.out.2]; exact HG1.out⟩, HM1⟩
end Go.Proofs.YtghajmcohdedlaaGreat

namespace Go.Proofs.YtghajmcohdedlaaGreat
theorem key_be (l : List Nat) (h8 : l.length = 8) (hb : ∀ x ∈ l, x < 256) : KeyM.key (KeyM.be l) = l := by
 match l, h8 with
 | [a0, a1, a2, a3, a4, a5, a6, a7], _ =>
  have b0 := hb a0 (by simp)
  have b1 := hb a1 (by simp)
  have b2 := hb a2 (by simp)
  have b3 := hb a3 (by simp)
  have b4 := hb a4 (by simp)
  have b5 := hb a5 (by simp)
  have b6 := hb a6 (by simp)
  have b7 := hb a7 (by simp)
  simp only [KeyM.be, KeyM.key, List.foldl_cons, List.foldl_nil, List.cons.injEq, and_true]
  refine ⟨?_, ?_, ?_, ?_, ?_, ?_, ?_, ?_⟩ <;> omega
theorem key_taken (s : List Nat) (hb : ∀ x ∈ s, x < 256) (p : Nat) (hp : p + 8 ≤ s.length) : KeyM.key (KeyM.up (KeyM.take s (p : Int)).1) = (s.drop p).take 8 := by
 have hl : ((s.drop p).take 8).length = 8 := by rw [List.length_take, List.length_drop]; omega
 have hb8 : ∀ x ∈ (s.drop p).take 8, x < 256 := fun x hx => hb x (List.mem_of_mem_drop (List.mem_of_mem_take hx))
 have e : (KeyM.take s (p : Int)).1 = (KeyM.be ((s.drop p).take 8) : Int) - 9223372036854775808 := by
  unfold KeyM.take
  rw [if_neg (by omega), if_neg (by omega), Int.toNat_natCast]
 have u : KeyM.up (KeyM.take s (p : Int)).1 = KeyM.be ((s.drop p).take 8) := by rw [e]; unfold KeyM.up; omega
 rw [u]
 exact key_be _ hl hb8
theorem lay_parts (s : List Nat) (hs : Sec s) : s = s.getD 0 0 :: (KeyM.key (KeyM.up (KeyM.take s 1).1) ++ (KeyM.key (KeyM.up (KeyM.take s 9).1) ++ ((s.drop 17).take 46 ++ [s.getD 63 0]))) := by
 have hl := hs.len
 have k1 := key_taken s hs.byte 1 (by omega)
 have k9 := key_taken s hs.byte 9 (by omega)
 have e1 : KeyM.key (KeyM.up (KeyM.take s 1).1) = (s.drop 1).take 8 := k1
 have e9 : KeyM.key (KeyM.up (KeyM.take s 9).1) = (s.drop 9).take 8 := k9
 rw [e1, e9]
 have d0 : s = s.getD 0 0 :: s.drop 1 := by
  match s, hl with
  | a :: r, _ => rfl
 have d1 : s.drop 1 = (s.drop 1).take 8 ++ s.drop 9 := by
  have := (List.take_append_drop 8 (s.drop 1)).symm
  rwa [List.drop_drop] at this
 have d9 : s.drop 9 = (s.drop 9).take 8 ++ s.drop 17 := by
  have := (List.take_append_drop 8 (s.drop 9)).symm
  rwa [List.drop_drop] at this
 have d17 : s.drop 17 = (s.drop 17).take 46 ++ s.drop 63 := by
  have := (List.take_append_drop 46 (s.drop 17)).symm
  rwa [List.drop_drop] at this
 have d63 : s.drop 63 = [s.getD 63 0] := by
  rw [List.drop_eq_getElem_cons (by omega), List.drop_of_length_le (by omega), List.getD_eq_getElem?_getD, List.getElem?_eq_getElem (by omega)]
  rfl
 rw [← d63, ← d17, ← d9, ← d1]
 exact d0
theorem whole_iff (s : List Nat) (hs : Sec s) : s = layB (s.getD 0 0) (KeyM.take s 1).1 (KeyM.take s 9).1 ↔ s.getD 0 0 = s.getD 63 0 ∧ ∀ j, 17 ≤ j → j < 63 → s.getD j 0 = 0 := by
 have hl := hs.len
 have hp := lay_parts s hs
 generalize hn : (KeyM.take s 1).1 = n at *
 generalize hv : (KeyM.take s 9).1 = v at *
 have hz : (s.drop 17).take 46 = List.replicate 46 0 ↔ ∀ j, 17 ≤ j → j < 63 → s.getD j 0 = 0 := by
  constructor
  ·intro h j h1 h2
   have e : ((s.drop 17).take 46)[j - 17]? = s[j]? := by
    rw [List.getElem?_take_of_lt (by omega), List.getElem?_drop]
    congr 1
    omega
   rw [List.getD_eq_getElem?_getD, ← e, h, List.getElem?_replicate, if_pos (by omega)]
   rfl
  ·intro h
   apply List.ext_getElem?
   intro j
   by_cases hj : j < 46
   ·rw [List.getElem?_take_of_lt hj, List.getElem?_drop, List.getElem?_replicate, if_pos hj]
    have := h (17 + j) (by omega) (by omega)
    rw [List.getD_eq_getElem?_getD, List.getElem?_eq_getElem (by omega)] at this
    rw [List.getElem?_eq_getElem (by omega)]
    exact congrArg some this
   ·rw [List.getElem?_eq_none (by rw [List.length_take, List.length_drop]; omega), List.getElem?_eq_none (by rw [List.length_replicate]; omega)]
 generalize h0 : s.getD 0 0 = x at *
 generalize h63 : s.getD 63 0 = y at *
 unfold layB
 constructor
 ·intro h
  rw [h] at hp
  have h1 := (List.cons.inj hp).2
  have h2 := List.append_cancel_left h1
  have h3 := List.append_cancel_left h2
  have h4 := List.append_inj h3 (by rw [List.length_replicate, ← h, List.length_take, List.length_drop]; omega)
  refine ⟨by have := h4.2; simpa using this, ?_⟩
  rw [← hz]
  rw [← h] at h4
  exact h4.1.symm
 ·rintro ⟨rfl, h2⟩
  rw [← hz] at h2
  rw [h2] at hp
  exact hp
def wholeB (X : List Nat) : Int × Int := if X.length = 64 then readB X else (0, 0)
theorem whole_tell (er : Int) (s : List Nat) (h : er = 0 → Sec s) : wholeB (if er = 0 then s else []) = if er = 0 then readB s else (0, 0) := by
 by_cases h0 : er = 0
 ·rw [if_pos h0, if_pos h0, wholeB, if_pos (h h0).len]
 ·rw [if_neg h0, if_neg h0]
  rfl
end Go.Proofs.YtghajmcohdedlaaGreat

namespace Go.Proofs.YtghajmcohdedlaaGreat
open Go.RowKit
structure Byt (w : World) (q : Nat) (v : Value) (s : List Nat) : Prop where
 sec : Sec s
 row : ∃ k c cur, v = .slice (some ⟨k, 0, none⟩) 64 c ∧ k ≠ q ∧ w.heap[k]? = some (.cells cur 5 (0, 0)) ∧ 64 ≤ c ∧ c ≤ maxLen ∧ cur.size = c ∧ cur.toList.take 64 = vb s
theorem Byt.of_own {w : World} {base q : Nat} {a : Option Addr} {c : Nat} {s : List Nat} (h : Own w base a 64 c s) (hq : q < base) : Byt w q (.slice a 64 c) s := by
 refine ⟨⟨h.size, h.byte⟩, ?_⟩
 rcases h.row.2 with ⟨_, h0⟩ | ⟨g, c', cur, hv, hb, hg, h1, h2, h3, h4⟩
 ·cases h0
 ·simp only [Value.slice.injEq] at hv
  obtain ⟨rfl, _, rfl⟩ := hv
  exact ⟨g, c, cur, rfl, by omega, hg, h1, h2, by simpa using h3, by simpa using h4⟩
theorem Byt.move {w w' : World} {q : Nat} {v : Value} {s : List Nat} (h : Byt w q v s) (H : ∀ (k : Nat) cur, w.heap[k]? = some (.cells cur 5 (0, 0)) → k ≠ q → w'.heap[k]? = some (.cells cur 5 (0, 0))) : Byt w' q v s := by
 obtain ⟨k, c, cur, h1, h2, h3, r⟩ := h.row
 exact ⟨h.sec, k, c, cur, h1, h2, H k cur h3 h2, r⟩
theorem Byt.fresh {w : World} {q q' : Nat} {v : Value} {s : List Nat} (h : Byt w q v s) (hq : w.heap.size ≤ q') : Byt w q' v s := by
 obtain ⟨k, c, cur, h1, h2, h3, r⟩ := h.row
 exact ⟨h.sec, k, c, cur, h1, by have := heap_lt h3; omega, h3, r⟩
theorem Byt.slice {w : World} {q : Nat} {v : Value} {s : List Nat} (h : Byt w q v s) : ∃ k c, v = .slice (some ⟨k, 0, none⟩) 64 c ∧ 64 ≤ c ∧ c ≤ maxLen ∧ Rd w (some ⟨k, 0, none⟩) 64 s ∧ ∃ cur, w.heap[k]? = some (.cells cur 5 (0, 0)) := by
 obtain ⟨k, c, cur, h1, h2, h3, h4, h5, h6, h7⟩ := h.row
 refine ⟨k, c, h1, h4, h5, ⟨h.sec.len, h.sec.byte, .inr ⟨k, 0, rfl, heap_lt h3, fun i hi => ?_⟩⟩, cur, h3⟩
 rw [cell_of_row w k (0 + i) cur _ _ h3, Nat.zero_add, ← Array.getElem?_toList]
 have e : (cur.toList.take 64)[i]? = cur.toList[i]? := by rw [List.getElem?_take]; simp [hi]
 rw [← e, h7]
 exact vb_at (by rw [h.sec.len]; exact hi)
structure Rk (w : World) (base r q : Nat) (sv wv : Value) (SV WV : List Value) (D : Dk) : Prop where
 blk : Blk w r #[sv, wv, .int .i64 (D.trip : Int), .bool D.down, .int .i64 (D.age : Int)] 66
 srow : w.ownsRow base 27 1 sv D.sure.length SV
 wrow : w.ownsRow base 101 2 wv D.waits.length WV
 br : base ≤ r
 s1 : 1 ≤ D.sure.length
 sz : D.sure.length ≤ 512
 each : ∀ (i : Nat) (s : List Nat), D.sure[i]? = some s → ∃ v, SV[i]? = some v ∧ Byt w q v s
 puts : ∀ (i : Nat) (p : Nat × List Nat), D.waits[i]? = some p → p.1 < D.sure.length ∧ WV[i * 2]? = some (.int .i64 (p.1 : Int)) ∧ ∃ v, WV[i * 2 + 1]? = some v ∧ Byt w q v p.2
 tr : D.trip ≤ 9223372036854775807
 ag : D.age ≤ 1000000000
 wl : D.waits.length ≤ 1000000000
def Keep (w w' : World) (q : Nat) : Prop := ∀ (k : Nat) cs t fr, w.heap[k]? = some (.cells cs t fr) → (t = 66 ∨ t = 27 ∨ t = 101 ∨ (t = 5 ∧ k ≠ q)) → w'.heap[k]? = some (.cells cs t fr)
theorem own_type {w w' : World} {base : Nat} {e : TypeId} {size n : Nat} {v : Value} {xs : List Value} (h : w.ownsRow base e size v n xs) (hk : ∀ (k : Nat) cs, w.heap[k]? = some (.cells cs e (0, 0)) → w'.heap[k]? = some (.cells cs e (0, 0))) : w'.ownsRow base e size v n xs := by
 refine ⟨h.1, ?_⟩
 rcases h.2 with h1 | ⟨g, c, cur, h1, h2, h3, r⟩
 ·exact .inl h1
 ·exact .inr ⟨g, c, cur, h1, h2, hk g cur h3, r⟩
theorem Rk.move {w w' : World} {base r q : Nat} {sv wv : Value} {SV WV : List Value} {D : Dk} (h : Rk w base r q sv wv SV WV D) (H : Keep w w' q) : Rk w' base r q sv wv SV WV D := by
 have hb : ∀ (k : Nat) cur, w.heap[k]? = some (.cells cur 5 (0, 0)) → k ≠ q → w'.heap[k]? = some (.cells cur 5 (0, 0)) := fun k cur h1 h2 => H k cur _ _ h1 (.inr (.inr (.inr ⟨rfl, h2⟩)))
 refine ⟨H r _ _ _ h.blk (.inl rfl), own_type h.srow (fun k cs h1 => H k cs _ _ h1 (.inr (.inl rfl))), own_type h.wrow (fun k cs h1 => H k cs _ _ h1 (.inr (.inr (.inl rfl)))), h.br, h.s1, h.sz, fun i s hs => ?_, fun i p hp => ?_, h.tr, h.ag, h.wl⟩
 ·obtain ⟨v, h1, h2⟩ := h.each i s hs
  exact ⟨v, h1, h2.move hb⟩
 ·obtain ⟨h0, h1, v, h2, h3⟩ := h.puts i p hp
  exact ⟨h0, h1, v, h2, h3.move hb⟩
theorem Keep.of_below {w w' : World} (q : Nat) (h : Below w.heap.size w w') : Keep w w' q := fun k cs t fr h1 _ => by rw [h.block k (heap_lt h1)]; exact h1
theorem Rk.stay {w w' : World} {base r q : Nat} {sv wv : Value} {SV WV : List Value} {D : Dk} (h : Rk w base r q sv wv SV WV D) (hb : Below w.heap.size w w') : Rk w' base r q sv wv SV WV D := h.move (Keep.of_below q hb)
theorem Rk.fresh {w : World} {base r q q' : Nat} {sv wv : Value} {SV WV : List Value} {D : Dk} (h : Rk w base r q sv wv SV WV D) (hq : w.heap.size ≤ q') : Rk w base r q' sv wv SV WV D :=
 ⟨h.blk, h.srow, h.wrow, h.br, h.s1, h.sz, fun i s hs => (h.each i s hs).imp fun _ hv => ⟨hv.1, hv.2.fresh hq⟩, fun i p hp => ⟨(h.puts i p hp).1, (h.puts i p hp).2.1, (h.puts i p hp).2.2.imp fun _ hv => ⟨hv.1, hv.2.fresh hq⟩⟩, h.tr, h.ag, h.wl⟩
theorem Keep.of_mv {w w' : World} {base b2 g gs : Nat} {wv : Value} {D : Dk} (hd : Disk w base g gs wv D) (h : Mv w w' b2 g gs) (q : Nat) : Keep w w' q := by
 intro k cs t fr h1 h2
 have hne : t ≠ 79 ∧ t ≠ 97 ∧ t ≠ 99 := by
  rcases h2 with rfl | rfl | rfl | ⟨rfl, _⟩ <;> decide
 refine h.block k cs t fr ?_ ?_ h1 hne.2.2
 ·rintro rfl
  have := hd.blk
  unfold Blk at this
  rw [h1] at this
  simp only [Option.some.injEq, Obj.cells.injEq] at this
  exact hne.1 this.2.1
 ·rintro rfl
  have := hd.srow
  unfold Blk at this
  rw [h1] at this
  simp only [Option.some.injEq, Obj.cells.injEq] at this
  exact hne.2.1 this.2.1
structure Mr (w w' : World) (base : Nat) : Prop where
 low : Below base w w'
 block : ∀ (k : Nat) cs t fr, w.heap[k]? = some (.cells cs t fr) → t ≠ 66 → t ≠ 27 → t ≠ 101 → w'.heap[k]? = some (.cells cs t fr)
theorem Mr.refl (w : World) (base : Nat) : Mr w w base := ⟨Below.refl _ _, fun _ _ _ _ h _ _ _ => h⟩
theorem Mr.trans {w w1 w2 : World} {base : Nat} (h : Mr w w1 base) (h2 : Mr w1 w2 base) : Mr w w2 base :=
 ⟨h.low.trans h2.low, fun k cs t fr h3 h4 h5 h6 => h2.block k cs t fr (h.block k cs t fr h3 h4 h5 h6) h4 h5 h6⟩
theorem Mr.of_below {w w' : World} {base : Nat} (h : Below w.heap.size w w') (hb : base ≤ w.heap.size) : Mr w w' base := ⟨h.mono hb, fun k _ _ _ h5 _ _ _ => by rw [h.block k (heap_lt h5)]; exact h5⟩
theorem Mr.of_cell {w w' : World} {base r : Nat} {cs : Array Value} (hr : Blk w r cs 66) (hb : base ≤ r) (h : w.grownBy w' (some r)) : Mr w w' base := by
 refine ⟨(Below.refl _ _).grown h (Nat.le_trans hb (Nat.le_of_lt hr.lt)) (fun j hj => by simp only [Option.some.injEq] at hj; omega), fun k cs t fr h1 h2 _ _ => ?_⟩
 rw [h.block k (heap_lt h1) (fun e => ?_)]
 ·exact h1
 ·simp only [Option.some.injEq] at e
  subst e
  unfold Blk at hr
  rw [h1] at hr
  simp only [Option.some.injEq, Obj.cells.injEq] at hr
  exact h2 hr.2.1
theorem Mr.of_own {w w' : World} {base : Nat} {e : TypeId} {v : Value} {size n : Nat} {xs : List Value} (he : e = 27 ∨ e = 101) (hv : w.ownsRow base e size v n xs) (h : w.grownBy w' v.ownBlock) (hs : base ≤ w.heap.size) : Mr w w' base :=
 ⟨(Below.refl _ _).grown h hs (fun j hj => (hv.lt j hj).1), fun k cs t fr h1 _ h3 h4 => by
  rw [h.block k (heap_lt h1) (own_ne' hv h1 (by rcases he with rfl | rfl <;> assumption))]; exact h1⟩
theorem Disk.stayR {w w' : World} {base b2 g gs : Nat} {wv : Value} {D : Dk} (h : Disk w base g gs wv D) (H : Mr w w' b2) : Disk w' base g gs wv D :=
 ⟨H.block _ _ _ _ h.blk (by decide) (by decide) (by decide), H.block _ _ _ _ h.srow (by decide) (by decide) (by decide), own_type h.wrow (fun k cs hk => H.block k cs _ _ hk (by decide) (by decide) (by decide)), h.bg, h.bs, h.sz, h.sec, h.wts, h.tr, h.ag, h.wl⟩
theorem Rk.apart {w : World} {base r q : Nat} {sv wv : Value} {SV WV : List Value} {D : Dk} (h : Rk w base r q sv wv SV WV D) : some r ≠ sv.ownBlock ∧ some r ≠ wv.ownBlock := ⟨own_ne h.srow h.blk (by decide), own_ne h.wrow h.blk (by decide)⟩
theorem Rk.form {w : World} {base r q : Nat} {sv wv : Value} {SV WV : List Value} {D : Dk} (h : Rk w base r q sv wv SV WV D) : ∃ rs c, sv = .slice (some ⟨rs, 0, none⟩) D.sure.length c ∧ D.sure.length ≤ c := by
 rcases h.srow.2 with ⟨_, h0⟩ | ⟨g, c, cur, h1, _, _, h4, _⟩
 ·have := h.s1; omega
 ·exact ⟨g, c, h1, h4⟩
theorem Rk.wform {w : World} {base r q : Nat} {sv wv : Value} {SV WV : List Value} {D : Dk} (h : Rk w base r q sv wv SV WV D) : ∃ a c, wv = .slice a D.waits.length c ∧ (0 < D.waits.length → ∃ gw, a = some ⟨gw, 0, none⟩) := by
 rcases h.wrow.2 with ⟨h1, h0⟩ | ⟨g, c, cur, h1, _⟩
 ·exact ⟨none, 0, by rw [h0]; exact h1, fun h2 => by omega⟩
 ·exact ⟨_, c, h1, fun _ => ⟨g, rfl⟩⟩
end Go.Proofs.YtghajmcohdedlaaGreat
