import Derived.Test.YtghajmcohdedlaaGreatEvB6
import Derived.Test.YtghajmcohdedlaaGreatPk06
import Derived.Test.YtghajmcohdedlaaGreatPk04
import Derived.Lib.AppendZerosOnto
namespace Go.Proofs.YtghajmcohdedlaaGreat
open Go.RowKit
set_option maxRecDepth 100000
def syncF (D : Dk) (ag : Nat) : Int × Dk:=if staleE D ag ≠ 0 then (staleE D ag,D) else (syncE D,syncD D)
set_option maxHeartbeats 4000000 in
theorem evl_SyncG (w : World) (base bd g gs : Nat) (wv : Value) (D : Dk) (gl gc b m ag : Nat) (U : List Sg) (uv : Value) (hi rel : Nat) (L : List Rc) (rv : Value) (h : LgG w base bd g gs wv D gl gc b m ag U uv hi rel L rv) :
  Calls Tryz.prog 30 #[.pointer (some ⟨gl,0,none⟩)] w fun e w' => e = .returned (.int .i64 (syncF D ag).1) ∧ Hid (∃ wv',LgG w' base bd g gs wv' (syncF D ag).2 gl gc b m ag U uv hi rel L rv) ∧ Hid (Mv w w' bd g gs):=by
 have HG : Hid (LgG w base bd g gs wv D gl gc b m ag U uv hi rel L rv):=h
 have HBD : Hid (bd ≤ w.heap.size):=Nat.le_trans h.disk.bg (Nat.le_of_lt h.disk.blk.lt)
 have HST:=evl_stale w bd g gs wv D gl gc b m ag hi rel uv rv h.disk h.log
 obtain ⟨se,HSE⟩ : ∃ se,Hid (staleE D ag = se):=⟨_,rfl⟩
 rw [HSE.out] at HST
 obtain ⟨⟨R1,R2⟩,HR⟩ : ∃ R,Hid (syncF D ag = R):=⟨_,rfl⟩
 rw [HR.out]
 simp only
 clear h
 go_enter Tryz.func30,Tryz.ntmps30
 go_wp2_with fail
 refine HST.mono ?_
 rintro e w1 ⟨rfl,n,hw1⟩
 have hb1 : Below w.heap.size w w1:=by rw [hw1];exact below_drewN (Below.refl _ _) _
 clear hw1
 have HG1 : Hid (LgG w1 base bd g gs wv D gl gc b m ag U uv hi rel L rv):=HG.out.below hb1
 have HM1 : Hid (Mv w w1 bd g gs):=Mv.of_below g gs hb1 HBD.out
 clear hb1 HST
 by_cases hse : se = 0
 ·subst hse
  have HRR : Hid (syncE D = R1 ∧ syncD D = R2):=by
   have h1:=HR.out
   unfold syncF at h1
   rw [HSE.out,if_neg (by simp)] at h1
   cases h1
   exact ⟨rfl,rfl⟩
  have c0 : w1.cell? ⟨gl,0,none⟩ = some (.pointer (some ⟨g,0,none⟩)):=Blk.cell HG1.out.log 0 rfl
  have HSN:=disk_Sync w1 bd g gs wv D HG1.out.disk
  rw [HRR.out.1,HRR.out.2] at HSN
  go_wp2_with fail
  refine HSN.mono ?_
  rintro e w2 ⟨rfl,hd2,hm2⟩
  obtain ⟨wv2,hd2⟩:=hd2.out
  have HG2 : Hid (LgG w2 base bd g gs wv2 R2 gl gc b m ag U uv hi rel L rv):=HG1.out.mv hm2 hd2
  have HM2 : Hid (Mv w w2 bd g gs):=HM1.out.trans hm2
  clear hd2 hm2 HSN c0
  go_wp2
  go_returns
  exact ⟨rfl,⟨wv2,HG2.out⟩,HM2⟩
 ·have e5 : (se != 0) = true:=by rw [bne_iff_ne];exact hse
  have HRR : Hid (se = R1 ∧ D = R2):=by
   have h1:=HR.out
   unfold syncF at h1
   rw [HSE.out,if_pos hse] at h1
   cases h1
   exact ⟨rfl,rfl⟩
  go_wp2
  go_returns
  exact ⟨by rw [← HRR.out.1];rfl,⟨wv,by rw [← HRR.out.2];exact HG1.out⟩,HM1⟩
end Go.Proofs.YtghajmcohdedlaaGreat

namespace Go.Proofs.YtghajmcohdedlaaGreat
theorem key_be (l : List Nat) (h8 : l.length = 8) (hb : ∀ x ∈ l,x < 256) : KeyM.key (KeyM.be l) = l:=by
 match l,h8 with
 | [a0,a1,a2,a3,a4,a5,a6,a7],_ =>
  have b0:=hb a0 (by simp)
  have b1:=hb a1 (by simp)
  have b2:=hb a2 (by simp)
  have b3:=hb a3 (by simp)
  have b4:=hb a4 (by simp)
  have b5:=hb a5 (by simp)
  have b6:=hb a6 (by simp)
  have b7:=hb a7 (by simp)
  simp only [KeyM.be,KeyM.key,List.foldl_cons,List.foldl_nil,List.cons.injEq,and_true]
  refine ⟨?_,?_,?_,?_,?_,?_,?_,?_⟩ <;> omega
theorem key_taken (s : List Nat) (hb : ∀ x ∈ s,x < 256) (p : Nat) (hp : p + 8 ≤ s.length) : KeyM.key (KeyM.up (KeyM.take s (p : Int)).1) = (s.drop p).take 8:=by
 have hl : ((s.drop p).take 8).length = 8:=by rw [List.length_take,List.length_drop];omega
 have hb8 : ∀ x ∈ (s.drop p).take 8,x < 256:=fun x hx => hb x (List.mem_of_mem_drop (List.mem_of_mem_take hx))
 have e : (KeyM.take s (p : Int)).1 = (KeyM.be ((s.drop p).take 8) : Int) - 9223372036854775808:=by
  unfold KeyM.take
  rw [if_neg (by omega),if_neg (by omega),Int.toNat_natCast]
 have u : KeyM.up (KeyM.take s (p : Int)).1 = KeyM.be ((s.drop p).take 8):=by rw [e];unfold KeyM.up;omega
 rw [u]
 exact key_be _ hl hb8
theorem lay_parts (s : List Nat) (hs : Sec s) : s = s.getD 0 0 :: (KeyM.key (KeyM.up (KeyM.take s 1).1) ++ (KeyM.key (KeyM.up (KeyM.take s 9).1) ++ ((s.drop 17).take 46 ++ [s.getD 63 0]))):=by
 have hl:=hs.len
 have k1:=key_taken s hs.byte 1 (by omega)
 have k9:=key_taken s hs.byte 9 (by omega)
 have e1 : KeyM.key (KeyM.up (KeyM.take s 1).1) = (s.drop 1).take 8:=k1
 have e9 : KeyM.key (KeyM.up (KeyM.take s 9).1) = (s.drop 9).take 8:=k9
 rw [e1,e9]
 have d0 : s = s.getD 0 0 :: s.drop 1:=by
  match s,hl with
  | a :: r,_ => rfl
 have d1 : s.drop 1 = (s.drop 1).take 8 ++ s.drop 9:=by
  have:=(List.take_append_drop 8 (s.drop 1)).symm
  rwa [List.drop_drop] at this
 have d9 : s.drop 9 = (s.drop 9).take 8 ++ s.drop 17:=by
  have:=(List.take_append_drop 8 (s.drop 9)).symm
  rwa [List.drop_drop] at this
 have d17 : s.drop 17 = (s.drop 17).take 46 ++ s.drop 63:=by
  have:=(List.take_append_drop 46 (s.drop 17)).symm
  rwa [List.drop_drop] at this
 have d63 : s.drop 63 = [s.getD 63 0]:=by
  rw [List.drop_eq_getElem_cons (by omega),List.drop_of_length_le (by omega),List.getD_eq_getElem?_getD,List.getElem?_eq_getElem (by omega)]
  rfl
 rw [← d63,← d17,← d9,← d1]
 exact d0
theorem whole_iff (s : List Nat) (hs : Sec s) : s = layB (s.getD 0 0) (KeyM.take s 1).1 (KeyM.take s 9).1 ↔ s.getD 0 0 = s.getD 63 0 ∧ ∀ j,17 ≤ j → j < 63 → s.getD j 0 = 0:=by
 have hl:=hs.len
 have hp:=lay_parts s hs
 generalize hn : (KeyM.take s 1).1 = n at *
 generalize hv : (KeyM.take s 9).1 = v at *
 have hz : (s.drop 17).take 46 = List.replicate 46 0 ↔ ∀ j,17 ≤ j → j < 63 → s.getD j 0 = 0:=by
  constructor
  ·intro h j h1 h2
   have e : ((s.drop 17).take 46)[j - 17]? = s[j]?:=by
    rw [List.getElem?_take_of_lt (by omega),List.getElem?_drop]
    congr 1
    omega
   rw [List.getD_eq_getElem?_getD,← e,h,List.getElem?_replicate,if_pos (by omega)]
   rfl
  ·intro h
   apply List.ext_getElem?
   intro j
   by_cases hj : j < 46
   ·rw [List.getElem?_take_of_lt hj,List.getElem?_drop,List.getElem?_replicate,if_pos hj]
    have:=h (17 + j) (by omega) (by omega)
    rw [List.getD_eq_getElem?_getD,List.getElem?_eq_getElem (by omega)] at this
    rw [List.getElem?_eq_getElem (by omega)]
    exact congrArg some this
   ·rw [List.getElem?_eq_none (by rw [List.length_take,List.length_drop];omega),List.getElem?_eq_none (by rw [List.length_replicate];omega)]
 generalize h0 : s.getD 0 0 = x at *
 generalize h63 : s.getD 63 0 = y at *
 unfold layB
 constructor
 ·intro h
  rw [h] at hp
  have h1:=(List.cons.inj hp).2
  have h2:=List.append_cancel_left h1
  have h3:=List.append_cancel_left h2
  have h4:=List.append_inj h3 (by rw [List.length_replicate,← h,List.length_take,List.length_drop];omega)
  refine ⟨by have:=h4.2;simpa using this,?_⟩
  rw [← hz]
  rw [← h] at h4
  exact h4.1.symm
 ·rintro ⟨rfl,h2⟩
  rw [← hz] at h2
  rw [h2] at hp
  exact hp
def wholeB (X : List Nat) : Int × Int:=if X.length = 64 then readB X else (0,0)
theorem whole_tell (er : Int) (s : List Nat) (h : er = 0 → Sec s) : wholeB (if er = 0 then s else []) = if er = 0 then readB s else (0,0):=by
 by_cases h0 : er = 0
 ·rw [if_pos h0,if_pos h0,wholeB,if_pos (h h0).len]
 ·rw [if_neg h0,if_neg h0]
  rfl
end Go.Proofs.YtghajmcohdedlaaGreat

namespace Go.Proofs.YtghajmcohdedlaaGreat
open Go.RowKit
structure Byt (w : World) (q : Nat) (v : Value) (s : List Nat) : Prop where
 sec : Sec s
 row : ∃ k c cur,v = .slice (some ⟨k,0,none⟩) 64 c ∧ k ≠ q ∧ w.heap[k]? = some (.cells cur 5 (0,0)) ∧ 64 ≤ c ∧ c ≤ maxLen ∧ cur.size = c ∧ cur.toList.take 64 = vb s
theorem Byt.of_own {w : World} {base q : Nat} {a : Option Addr} {c : Nat} {s : List Nat} (h : Own w base a 64 c s) (hq : q < base) : Byt w q (.slice a 64 c) s:=by
 refine ⟨⟨h.size,h.byte⟩,?_⟩
 rcases h.row.2 with ⟨_,h0⟩ | ⟨g,c',cur,hv,hb,hg,h1,h2,h3,h4⟩
 ·cases h0
 ·simp only [Value.slice.injEq] at hv
  obtain ⟨rfl,_,rfl⟩:=hv
  exact ⟨g,c,cur,rfl,by omega,hg,h1,h2,by simpa using h3,by simpa using h4⟩
theorem Byt.move {w w' : World} {q : Nat} {v : Value} {s : List Nat} (h : Byt w q v s) (H : ∀ (k : Nat) cur,w.heap[k]? = some (.cells cur 5 (0,0)) → k ≠ q → w'.heap[k]? = some (.cells cur 5 (0,0))) : Byt w' q v s:=by
 obtain ⟨k,c,cur,h1,h2,h3,r⟩:=h.row
 exact ⟨h.sec,k,c,cur,h1,h2,H k cur h3 h2,r⟩
theorem Byt.fresh {w : World} {q q' : Nat} {v : Value} {s : List Nat} (h : Byt w q v s) (hq : w.heap.size ≤ q') : Byt w q' v s:=by
 obtain ⟨k,c,cur,h1,h2,h3,r⟩:=h.row
 exact ⟨h.sec,k,c,cur,h1,by have:=heap_lt h3;omega,h3,r⟩
theorem Byt.slice {w : World} {q : Nat} {v : Value} {s : List Nat} (h : Byt w q v s) : ∃ k c,v = .slice (some ⟨k,0,none⟩) 64 c ∧ 64 ≤ c ∧ c ≤ maxLen ∧ Rd w (some ⟨k,0,none⟩) 64 s ∧ ∃ cur,w.heap[k]? = some (.cells cur 5 (0,0)):=by
 obtain ⟨k,c,cur,h1,h2,h3,h4,h5,h6,h7⟩:=h.row
 refine ⟨k,c,h1,h4,h5,⟨h.sec.len,h.sec.byte,.inr ⟨k,0,rfl,heap_lt h3,fun i hi => ?_⟩⟩,cur,h3⟩
 rw [cell_of_row w k (0 + i) cur _ _ h3,Nat.zero_add,← Array.getElem?_toList]
 have e : (cur.toList.take 64)[i]? = cur.toList[i]?:=by rw [List.getElem?_take];simp [hi]
 rw [← e,h7]
 exact vb_at (by rw [h.sec.len];exact hi)
structure Rk (w : World) (base r q : Nat) (sv wv : Value) (SV WV : List Value) (D : Dk) : Prop where
 blk : Blk w r #[sv,wv,.int .i64 (D.trip : Int),.bool D.down,.int .i64 (D.age : Int)] 66
 srow : w.ownsRow base 27 1 sv D.sure.length SV
 wrow : w.ownsRow base 101 2 wv D.waits.length WV
 br : base ≤ r
 s1 : 1 ≤ D.sure.length
 sz : D.sure.length ≤ 512
 each : ∀ (i : Nat) (s : List Nat),D.sure[i]? = some s → ∃ v,SV[i]? = some v ∧ Byt w q v s
 puts : ∀ (i : Nat) (p : Nat × List Nat),D.waits[i]? = some p → p.1 < D.sure.length ∧ WV[i * 2]? = some (.int .i64 (p.1 : Int)) ∧ ∃ v,WV[i * 2 + 1]? = some v ∧ Byt w q v p.2
 tr : D.trip ≤ 9223372036854775807
 ag : D.age ≤ 1000000000
 wl : D.waits.length ≤ 1000000000
def Keep (w w' : World) (q : Nat) : Prop:=∀ (k : Nat) cs t fr,w.heap[k]? = some (.cells cs t fr) → (t = 66 ∨ t = 27 ∨ t = 101 ∨ (t = 5 ∧ k ≠ q)) → w'.heap[k]? = some (.cells cs t fr)
theorem own_type {w w' : World} {base : Nat} {e : TypeId} {size n : Nat} {v : Value} {xs : List Value} (h : w.ownsRow base e size v n xs) (hk : ∀ (k : Nat) cs,w.heap[k]? = some (.cells cs e (0,0)) → w'.heap[k]? = some (.cells cs e (0,0))) : w'.ownsRow base e size v n xs:=by
 refine ⟨h.1,?_⟩
 rcases h.2 with h1 | ⟨g,c,cur,h1,h2,h3,r⟩
 ·exact .inl h1
 ·exact .inr ⟨g,c,cur,h1,h2,hk g cur h3,r⟩
theorem Rk.move {w w' : World} {base r q : Nat} {sv wv : Value} {SV WV : List Value} {D : Dk} (h : Rk w base r q sv wv SV WV D) (H : Keep w w' q) : Rk w' base r q sv wv SV WV D:=by
 have hb : ∀ (k : Nat) cur,w.heap[k]? = some (.cells cur 5 (0,0)) → k ≠ q → w'.heap[k]? = some (.cells cur 5 (0,0)):=fun k cur h1 h2 => H k cur _ _ h1 (.inr (.inr (.inr ⟨rfl,h2⟩)))
 refine ⟨H r _ _ _ h.blk (.inl rfl),own_type h.srow (fun k cs h1 => H k cs _ _ h1 (.inr (.inl rfl))),own_type h.wrow (fun k cs h1 => H k cs _ _ h1 (.inr (.inr (.inl rfl)))),h.br,h.s1,h.sz,fun i s hs => ?_,fun i p hp => ?_,h.tr,h.ag,h.wl⟩
 ·obtain ⟨v,h1,h2⟩:=h.each i s hs
  exact ⟨v,h1,h2.move hb⟩
 ·obtain ⟨h0,h1,v,h2,h3⟩:=h.puts i p hp
  exact ⟨h0,h1,v,h2,h3.move hb⟩
theorem Keep.of_below {w w' : World} (q : Nat) (h : Below w.heap.size w w') : Keep w w' q:=fun k cs t fr h1 _ => by rw [h.block k (heap_lt h1)];exact h1
theorem Rk.stay {w w' : World} {base r q : Nat} {sv wv : Value} {SV WV : List Value} {D : Dk} (h : Rk w base r q sv wv SV WV D) (hb : Below w.heap.size w w') : Rk w' base r q sv wv SV WV D:=h.move (Keep.of_below q hb)
theorem Rk.fresh {w : World} {base r q q' : Nat} {sv wv : Value} {SV WV : List Value} {D : Dk} (h : Rk w base r q sv wv SV WV D) (hq : w.heap.size ≤ q') : Rk w base r q' sv wv SV WV D :=
 ⟨h.blk,h.srow,h.wrow,h.br,h.s1,h.sz,fun i s hs => (h.each i s hs).imp fun _ hv => ⟨hv.1,hv.2.fresh hq⟩,fun i p hp => ⟨(h.puts i p hp).1,(h.puts i p hp).2.1,(h.puts i p hp).2.2.imp fun _ hv => ⟨hv.1,hv.2.fresh hq⟩⟩,h.tr,h.ag,h.wl⟩
theorem Keep.of_mv {w w' : World} {base b2 g gs : Nat} {wv : Value} {D : Dk} (hd : Disk w base g gs wv D) (h : Mv w w' b2 g gs) (q : Nat) : Keep w w' q:=by
 intro k cs t fr h1 h2
 have hne : t ≠ 79 ∧ t ≠ 97 ∧ t ≠ 99:=by
  rcases h2 with rfl | rfl | rfl | ⟨rfl,_⟩ <;> decide
 refine h.block k cs t fr ?_ ?_ h1 hne.2.2
 ·rintro rfl
  have:=hd.blk
  unfold Blk at this
  rw [h1] at this
  simp only [Option.some.injEq,Obj.cells.injEq] at this
  exact hne.1 this.2.1
 ·rintro rfl
  have:=hd.srow
  unfold Blk at this
  rw [h1] at this
  simp only [Option.some.injEq,Obj.cells.injEq] at this
  exact hne.2.1 this.2.1
structure Mr (w w' : World) (base : Nat) : Prop where
 low : Below base w w'
 block : ∀ (k : Nat) cs t fr,w.heap[k]? = some (.cells cs t fr) → t ≠ 66 → t ≠ 27 → t ≠ 101 → w'.heap[k]? = some (.cells cs t fr)
theorem Mr.refl (w : World) (base : Nat) : Mr w w base:=⟨Below.refl _ _,fun _ _ _ _ h _ _ _ => h⟩
theorem Mr.trans {w w1 w2 : World} {base : Nat} (h : Mr w w1 base) (h2 : Mr w1 w2 base) : Mr w w2 base :=
 ⟨h.low.trans h2.low,fun k cs t fr h3 h4 h5 h6 => h2.block k cs t fr (h.block k cs t fr h3 h4 h5 h6) h4 h5 h6⟩
theorem Mr.of_below {w w' : World} {base : Nat} (h : Below w.heap.size w w') (hb : base ≤ w.heap.size) : Mr w w' base:=⟨h.mono hb,fun k _ _ _ h5 _ _ _ => by rw [h.block k (heap_lt h5)];exact h5⟩
theorem Mr.of_cell {w w' : World} {base r : Nat} {cs : Array Value} (hr : Blk w r cs 66) (hb : base ≤ r) (h : w.grownBy w' (some r)) : Mr w w' base:=by
 refine ⟨(Below.refl _ _).grown h (Nat.le_trans hb (Nat.le_of_lt hr.lt)) (fun j hj => by simp only [Option.some.injEq] at hj;omega),fun k cs t fr h1 h2 _ _ => ?_⟩
 rw [h.block k (heap_lt h1) (fun e => ?_)]
 ·exact h1
 ·simp only [Option.some.injEq] at e
  subst e
  unfold Blk at hr
  rw [h1] at hr
  simp only [Option.some.injEq,Obj.cells.injEq] at hr
  exact h2 hr.2.1
theorem Mr.of_own {w w' : World} {base : Nat} {e : TypeId} {v : Value} {size n : Nat} {xs : List Value} (he : e = 27 ∨ e = 101) (hv : w.ownsRow base e size v n xs) (h : w.grownBy w' v.ownBlock) (hs : base ≤ w.heap.size) : Mr w w' base :=
 ⟨(Below.refl _ _).grown h hs (fun j hj => (hv.lt j hj).1),fun k cs t fr h1 _ h3 h4 => by
  rw [h.block k (heap_lt h1) (own_ne' hv h1 (by rcases he with rfl | rfl <;> assumption))];exact h1⟩
theorem Disk.stayR {w w' : World} {base b2 g gs : Nat} {wv : Value} {D : Dk} (h : Disk w base g gs wv D) (H : Mr w w' b2) : Disk w' base g gs wv D :=
 ⟨H.block _ _ _ _ h.blk (by decide) (by decide) (by decide),H.block _ _ _ _ h.srow (by decide) (by decide) (by decide),own_type h.wrow (fun k cs hk => H.block k cs _ _ hk (by decide) (by decide) (by decide)),h.bg,h.bs,h.sz,h.sec,h.wts,h.tr,h.ag,h.wl⟩
theorem Rk.apart {w : World} {base r q : Nat} {sv wv : Value} {SV WV : List Value} {D : Dk} (h : Rk w base r q sv wv SV WV D) : some r ≠ sv.ownBlock ∧ some r ≠ wv.ownBlock:=⟨own_ne h.srow h.blk (by decide),own_ne h.wrow h.blk (by decide)⟩
theorem Rk.form {w : World} {base r q : Nat} {sv wv : Value} {SV WV : List Value} {D : Dk} (h : Rk w base r q sv wv SV WV D) : ∃ rs c,sv = .slice (some ⟨rs,0,none⟩) D.sure.length c ∧ D.sure.length ≤ c:=by
 rcases h.srow.2 with ⟨_,h0⟩ | ⟨g,c,cur,h1,_,_,h4,_⟩
 ·have:=h.s1;omega
 ·exact ⟨g,c,h1,h4⟩
theorem Rk.wform {w : World} {base r q : Nat} {sv wv : Value} {SV WV : List Value} {D : Dk} (h : Rk w base r q sv wv SV WV D) : ∃ a c,wv = .slice a D.waits.length c ∧ (0 < D.waits.length → ∃ gw,a = some ⟨gw,0,none⟩):=by
 rcases h.wrow.2 with ⟨h1,h0⟩ | ⟨g,c,cur,h1,_⟩
 ·exact ⟨none,0,by rw [h0];exact h1,fun h2 => by omega⟩
 ·exact ⟨_,c,h1,fun _ => ⟨g,rfl⟩⟩
end Go.Proofs.YtghajmcohdedlaaGreat

namespace Go.Proofs.YtghajmcohdedlaaGreat
open Go.RowKit
theorem zero_cells (k : Nat) : (Builtin.zeroCells #[Value.int .u8 0] k).toList = vb (List.replicate k 0):=by
 simp only [Builtin.zeroCells,vb]
 apply List.ext_getElem
 ·simp
 ·intro i h1 h2
  simp [Nat.mod_one]
theorem run_append_zeros (w : World) (ty : TypeId) (base : Nat) (a : Option Addr) (n cap : Nat) (xs : List Nat) (hown : Own w base a n cap xs) (k : Nat) (hk : n + k ≤ 1000000) (hbase : base ≤ w.heap.size) :
  ∃ a' cap' w',(Builtin.append_ #[27,3] ty #[.slice a n cap,.int .i64 (k : Int)]).run Tryz.prog w = .ok (.slice a' (n + k) cap') w' ∧ Own w' base a' (n + k) cap' (xs ++ List.replicate k 0) ∧ w.grownBy w' (Value.ownBlock (.slice a n cap)) ∧ Below base w w':=by
 obtain ⟨i0,hi,hz0,hz1,hz2⟩:=info_parts infoByte
 have hbyte : ∀ x ∈ xs ++ List.replicate k 0,x < 256:=fun x hx => (List.mem_append.1 hx).elim (hown.byte x) (fun h => by rw [List.eq_of_mem_replicate h];omega)
 have hw : IntKind.i64.wrap (k : Int) = k:=by rw [IntKind.wrap_i64];omega
 have hneg : ¬ ((k : Int) < 0):=by omega
 have h48i : ¬ (281474976710656 < (k : Int) * (i0.bytes : Int)):=by rw [hz2];omega
 have hzc : (Value.int .u8 0).cells = #[Value.int .u8 0]:=rfl
 have low : ∀ w',w.grownBy w' (Value.ownBlock (.slice a n cap)) → Below base w w':=fun w' h3 => (Below.refl _ _).grown h3 hbase (fun j hj => (hown.row.lt j hj).1)
 by_cases hk0 : k = 0
 ·subst hk0
  have hg : w.grownBy w (Value.ownBlock (.slice a n cap)):=⟨rfl,rfl,rfl,Nat.le_refl _,fun _ _ _ => rfl⟩
  refine ⟨a,cap,w,?_,by simpa using hown,hg,low w hg⟩
  have hnc : n ≤ cap:=by
   rcases hown.row.2 with ⟨h1,h0⟩ | ⟨g,c,cur,h1,_,_,h4,_⟩
   ·omega
   ·simp only [Value.slice.injEq] at h1;omega
  cases a with
  | none => simp [Builtin.append_,run_underlying Tryz.underlying27,run_underlying Tryz.underlying3,sizeOf,typeInfo,hi,asInt,asIntOf,hnc,IntKind.wrap_i64]
  | some ad => simp [Builtin.append_,run_underlying Tryz.underlying27,run_underlying Tryz.underlying3,sizeOf,typeInfo,hi,asInt,asIntOf,hnc,IntKind.wrap_i64,storeCells]
 ·have grown : ∀ (old : Nat),
    Own (w.drew.alloc (.cells ((vb xs).toArray ++ Builtin.zeroCells #[Value.int .u8 0] k ++ Builtin.zeroCells #[Value.int .u8 0] (grownCap w (n + k) old 5 - (n + k))) 5)) base (some ⟨w.heap.size,0,none⟩) (n + k) (grownCap w (n + k) old 5) (xs ++ List.replicate k 0) ∧
    w.grownBy (w.drew.alloc (.cells ((vb xs).toArray ++ Builtin.zeroCells #[Value.int .u8 0] k ++ Builtin.zeroCells #[Value.int .u8 0] (grownCap w (n + k) old 5 - (n + k))) 5)) (Value.ownBlock (.slice a n cap)):=by
   intro old
   have hge:=grownCap_ge w (n + k) old 5
   have hcm : grownCap w (n + k) old 5 ≤ maxLen:=grownCap_le_maxLen w (n + k) old 5 (by unfold maxLen;omega)
   have hxl : (vb xs).length = n:=by rw [vb_length];exact hown.size
   have hlen : (vb (xs ++ List.replicate k 0)).length = (n + k) * 1:=by rw [vb_length,List.length_append,hown.size,List.length_replicate];omega
   refine ⟨⟨⟨hlen,.inr ⟨w.heap.size,_,_,rfl,hbase,heap_alloc_new w.drew _,hge,hcm,?_,?_⟩⟩,hbyte⟩,⟨rfl,rfl,rfl,by simp,fun j hj _ => heap_alloc_old w.drew _ hj⟩⟩
   ·simp only [Array.size_append,List.size_toArray,size_zeroCells,hxl]
    simp
    omega
   ·simp only [Array.toList_append,zero_cells]
    rw [← vb_append,← hlen]
    exact List.take_left
  rcases hown.row.2 with ⟨h1,h0⟩ | ⟨g,c,cur,h1,hbg,hg,hnc,hcm,hcs,htake⟩
  ·simp only [Value.slice.injEq] at h1
   obtain ⟨rfl,rfl,rfl⟩:=h1
   have hx : xs = []:=List.eq_nil_of_length_eq_zero hown.size
   subst hx
   have hr:=Go.Lib.run_append_nil_zeros (P:=Tryz.prog) w 27 3 ty 5 i0 (.int .u8 0) .i64 .i64 Tryz.underlying27 Tryz.underlying3 hi hz0 k (by omega) (by rw [hz1];omega) (by omega) (by rw [hz2];omega)
   have hgr:=grown 0
   simp only [vb,List.map_nil,Array.empty_append,Nat.zero_add] at hgr
   exact ⟨_,_,_,by rw [Nat.zero_add];exact hr,by rw [Nat.zero_add];exact hgr.1,hgr.2,low _ hgr.2⟩
  ·simp only [Value.slice.injEq] at h1
   obtain ⟨rfl,_,rfl⟩:=h1
   by_cases hroom : n + k ≤ cap
   ·have hzl : (Builtin.zeroCells #[Value.int .u8 0] k).toList.length = k:=by rw [zero_cells,vb_length,List.length_replicate]
    have hst:=run_storeCells_at Tryz.prog g n 5 (Builtin.zeroCells #[Value.int .u8 0] k).toList 0 cur w hg (by rw [hzl];omega) (by rw [zero_cells];exact vb_one _)
    simp only [Nat.add_zero] at hst
    have hgr : w.grownBy (w.setRow g (cur.toList.take n ++ (Builtin.zeroCells #[Value.int .u8 0] k).toList ++ cur.toList.drop (n + (Builtin.zeroCells #[Value.int .u8 0] k).toList.length)).toArray) (Value.ownBlock (.slice (some ⟨g,0,none⟩) n cap)):=⟨rfl,rfl,rfl,by simp,fun j _ hj => setRow_other w g j _ (fun e => hj (by simp [Value.ownBlock,e]))⟩
    refine ⟨some ⟨g,0,none⟩,cap,w.setRow g (cur.toList.take n ++ (Builtin.zeroCells #[Value.int .u8 0] k).toList ++ cur.toList.drop (n + (Builtin.zeroCells #[Value.int .u8 0] k).toList.length)).toArray,?_,⟨⟨?_,.inr ⟨g,cap,_,rfl,hbg,setRow_heap w g cur _ 5 _ hg,hroom,hcm,?_,?_⟩⟩,hbyte⟩,hgr,low _ hgr⟩
    ·simp [Builtin.append_,run_underlying Tryz.underlying27,run_underlying Tryz.underlying3,sizeOf,typeInfo,zeroValue,hi,hz0,hz1,asInt,asIntOf,hw,hneg,h48i,hroom,hk0,hzc,Addr.add_lit,hst]
    ·rw [vb_length,List.length_append,hown.size,List.length_replicate];omega
    ·simp only [List.size_toArray,List.length_append,List.length_take,List.length_drop,Array.length_toList,hzl]
     omega
    ·have h2 : cur.toList.take n = vb xs:=by simpa using htake
     rw [h2,zero_cells,← vb_append]
     have hlen : (vb (xs ++ List.replicate k 0)).length = (n + k) * 1:=by rw [vb_length,List.length_append,hown.size,List.length_replicate];omega
     rw [← hlen]
     exact List.take_left
   ·have hold : (Builtin.firstCells i0.size n (.slice (some ⟨g,0,none⟩) n cap)).run Tryz.prog w.drew = .ok (vb xs).toArray w.drew:=by
     exact run_firstCells_some (P:=Tryz.prog) w.drew i0.size n ⟨g,0,none⟩ n cap (vb xs) (by rw [hz1,vb_length,hown.size];omega) (fun j u hj => hown.row.cells (g:=g) rfl j u hj)
    have hr:=Go.Lib.run_append_grow_zeros (P:=Tryz.prog) w 27 3 ty 5 i0 (.int .u8 0) .i64 .i64 Tryz.underlying27 Tryz.underlying3 hi hz0 (some ⟨g,0,none⟩) n cap (vb xs) hold k (by omega) (by rw [hz1];omega) (by omega) (by omega) (by rw [hz2];omega) (growslice_fits (by omega) (by rw [hz2];omega))
    have hgr:=grown cap
    exact ⟨_,_,_,hr,hgr.1,hgr.2,low _ hgr.2⟩
theorem wpList_append_zeros {w : World} {ops : Array Oper} {rest : List Oper} {o : Oper} {act : Act} {Q : Exit → Act → World → Prop} (hgd : o.guard = none) (s x : Operand)
  (ho : o.op = .call { callee:=.builtin .append,args:=#[s,x],argTypes:=#[27,3] })
  (base : Nat) (a : Option Addr) (n cap : Nat) (xs : List Nat) (hs : act.eval s = .slice a n cap) (hown : Own w base a n cap xs) (k m : Nat) (hx : act.eval x = .int .i64 (k : Int)) (hm : n + k = m) (hk : m ≤ 1000000) (hbase : base ≤ w.heap.size)
  (h : ∀ a' cap' w',Own w' base a' m cap' (xs ++ List.replicate k 0) → w.grownBy w' (Value.ownBlock (.slice a n cap)) → Below base w w' → wpList Tryz.prog ops Q rest (act.put o.dst (.slice a' m cap')) w') : wpList Tryz.prog ops Q (o :: rest) act w:=by
 subst hm
 refine wpList_plain hgd fun K hK => ?_
 obtain ⟨a',cap',w',hrun,h2,h3,h4⟩:=run_append_zeros w o.type base a n cap xs hown k hk hbase
 unfold Oper.wp
 simp only [execOp,ho,resolve,invoke,builtin,Sem.run_bind,Sem.run_pure,Result.andThen_ok,List.map_toArray,List.map_cons,List.map_nil,hs,hx,hrun]
 exact hK _ _ (h a' cap' w' h2 h3 h4)
set_option maxRecDepth 100000 in
theorem ref_has (w : World) (base r q : Nat) (sv wv : Value) (SV WV : List Value) (D : Dk) (i : Int) (h : Rk w base r q sv wv SV WV D) :
  Calls Tryz.prog 55 #[.pointer (some ⟨r,0,none⟩),.int .i64 i] w fun e w' => e = .returned (.bool (hasB D i)) ∧ w' = w:=by
 obtain ⟨rs,c,rfl,_⟩:=h.form
 have c0 : w.cell? ⟨r,0,none⟩ = some (.slice (some ⟨rs,0,none⟩) D.sure.length c):=h.blk.cell 0 rfl
 have hsz:=h.sz
 obtain ⟨n,hn⟩ : ∃ n,n = D.sure.length:=⟨_,rfl⟩
 obtain ⟨R,HR⟩ : ∃ R,Hid (R = hasB D i):=⟨_,rfl⟩
 rw [← HR.out]
 rw [← hn] at c0 hsz
 have HN : Hid (n = D.sure.length):=hn
 clear h hn
 by_cases h0 : 0 ≤ i
 ·by_cases h1 : i < (n : Int)
  ·have HX : Hid (R = true):=by show _ = _;rw [HR.out,hasB_iff,← HN.out];exact ⟨h0,h1⟩
   go_enter Tryz.func55,Tryz.ntmps55
   go_wp2
   go_ret
   exact ⟨by rw [HX.out];rfl,rfl⟩
  ·have HX : Hid (R = false):=by show _ = _;rw [HR.out,hasB_not,← HN.out];exact fun hh => h1 hh.2
   go_enter Tryz.func55,Tryz.ntmps55
   go_wp2
   go_ret
   exact ⟨by rw [HX.out];rfl,rfl⟩
 ·have HX : Hid (R = false):=by show _ = _;rw [HR.out,hasB_not];exact fun hh => h0 hh.1
  go_enter Tryz.func55,Tryz.ntmps55
  go_wp2
  go_ret
  exact ⟨by rw [HX.out];rfl,rfl⟩
theorem Rk.with3 {w w' : World} {base r q : Nat} {sv wv : Value} {SV WV : List Value} {D : Dk} (h : Rk w base r q sv wv SV WV D) (t : Nat) (d : Bool) (ht : t ≤ 9223372036854775807) (hb : Blk w' r #[sv,wv,.int .i64 (t : Int),.bool d,.int .i64 (D.age : Int)] 66)
  (hg : w.grownBy w' (some r)) : Rk w' base r q sv wv SV WV { D with trip:=t,down:=d }:=by
 obtain ⟨a1,a2⟩:=h.apart
 have hk : ∀ (k : Nat) cur,w.heap[k]? = some (.cells cur 5 (0,0)) → k ≠ q → w'.heap[k]? = some (.cells cur 5 (0,0)):=fun k cur h1 _ => by
  rw [hg.block k (heap_lt h1) (fun e => ?_)]
  ·exact h1
  ·simp only [Option.some.injEq] at e
   exact blk_ne h1 h.blk (by decide) e
 exact ⟨hb,own_stay h.srow (fun k hk => hg.block k (h.srow.lt k hk).2 (fun e => a1 (by rw [← e,hk]))),own_stay h.wrow (fun k hk => hg.block k (h.wrow.lt k hk).2 (fun e => a2 (by rw [← e,hk]))),h.br,h.s1,h.sz,fun i s hs => (h.each i s hs).imp fun _ hv => ⟨hv.1,hv.2.move hk⟩,fun i p hp => ⟨(h.puts i p hp).1,(h.puts i p hp).2.1,(h.puts i p hp).2.2.imp fun _ hv => ⟨hv.1,hv.2.move hk⟩⟩,ht,h.ag,h.wl⟩
set_option maxRecDepth 100000 in
theorem ref_trips (w : World) (base r q : Nat) (sv wv : Value) (SV WV : List Value) (D : Dk) (h : Rk w base r q sv wv SV WV D) (hd : D.down = false) :
  Calls Tryz.prog 56 #[.pointer (some ⟨r,0,none⟩)] w fun e w' => e = .returned (.bool (tripsB D)) ∧ Rk w' base r q sv wv SV WV (tripsD D) ∧ Mr w w' base ∧ w'.heap.size = w.heap.size:=by
 have HD : Hid (Rk w base r q sv wv SV WV D):=h
 have c2 : w.cell? ⟨r,2,none⟩ = some (.int .i64 (D.trip : Int)):=h.blk.cell 2 rfl
 have c3 : w.cell? ⟨r,3,none⟩ = some (.bool false):=by have:=h.blk.cell 3 rfl;rw [hd] at this;exact this
 have f2:=h.blk.free 2
 have f3:=h.blk.free 3
 have htr:=h.tr
 obtain ⟨t,ht⟩ : ∃ t,t = D.trip:=⟨_,rfl⟩
 have HT : Hid (t = D.trip):=ht
 rw [← ht] at c2 htr
 clear h ht
 by_cases h0 : t = 0
 ·subst h0
  have HX : Hid (tripsB D = false ∧ tripsD D = D):=by
   unfold tripsB tripsD
   rw [← HT.out]
   exact ⟨rfl,rfl⟩
  go_enter Tryz.func56,Tryz.ntmps56
  go_wp2
  go_ret
  exact ⟨by rw [HX.out.1];rfl,by rw [HX.out.2];exact HD.out,Mr.refl _ _,rfl⟩
 ·obtain ⟨u,rfl⟩ : ∃ u,t = u + 1:=⟨t - 1,by omega⟩
  have hu : ((u + 1 : Nat) : Int) - 1 = (u : Int):=by omega
  have hu' : (u : Int) + 1 - 1 = (u : Int):=by omega
  have hn0 : (0 : Int) < (u : Int) + 1:=by omega
  by_cases h1 : u = 0
  ·subst h1
   have HX : Hid (tripsB D = true ∧ tripsD D = { D with trip:=0,down:=true }):=by
    unfold tripsB tripsD
    rw [← HT.out]
    exact ⟨rfl,rfl⟩
   have HK2 : Hid (Blk ((w.setCell ⟨r,2,none⟩ (.int .i64 0)).setCell ⟨r,3,none⟩ (.bool true)) r #[sv,wv,.int .i64 ((0 : Nat) : Int),.bool true,.int .i64 (D.age : Int)] 66):=(HD.out.blk.set 2 (.int .i64 0)).set 3 (.bool true)
   have HG : Hid (w.grownBy ((w.setCell ⟨r,2,none⟩ (.int .i64 0)).setCell ⟨r,3,none⟩ (.bool true)) (some r)):=grown_trans (grown_cell _ _ _ _) (grown_cell _ _ _ _)
   go_enter Tryz.func56,Tryz.ntmps56
   go_wp2
   go_ret
   exact ⟨by rw [HX.out.1];rfl,by rw [HX.out.2];exact HD.out.with3 0 true (by omega) HK2.out HG.out,Mr.of_cell HD.out.blk HD.out.br HG.out,by simp⟩
  ·have hun : ¬ ((u : Int) = 0):=by omega
   have hun' : ((u : Int) == 0) = false:=by rw [beq_eq_false_iff_ne];omega
   have HX : Hid (tripsB D = false ∧ tripsD D = { D with trip:=u,down:=false }):=by
    unfold tripsB tripsD
    rw [← HT.out]
    refine ⟨by simp;omega,?_⟩
    rw [if_neg (by omega),decide_eq_false (by omega)]
    rfl
   have HK2 : Hid (Blk ((w.setCell ⟨r,2,none⟩ (.int .i64 (u : Int))).setCell ⟨r,3,none⟩ (.bool false)) r #[sv,wv,.int .i64 (u : Int),.bool false,.int .i64 (D.age : Int)] 66):=(HD.out.blk.set 2 (.int .i64 (u : Int))).set 3 (.bool false)
   have HG : Hid (w.grownBy ((w.setCell ⟨r,2,none⟩ (.int .i64 (u : Int))).setCell ⟨r,3,none⟩ (.bool false)) (some r)):=grown_trans (grown_cell _ _ _ _) (grown_cell _ _ _ _)
   go_enter Tryz.func56,Tryz.ntmps56
   go_wp2
   go_ret
   exact ⟨by rw [HX.out.1];rfl,by rw [HX.out.2];exact HD.out.with3 u false (by omega) HK2.out HG.out,Mr.of_cell HD.out.blk HD.out.br HG.out,by simp⟩
set_option maxRecDepth 100000 in
set_option maxHeartbeats 1000000 in
theorem ref_Trip (w : World) (base r q : Nat) (sv wv : Value) (SV WV : List Value) (D : Dk) (n : Int) (h : Rk w base r q sv wv SV WV D) (hn : n ≤ 9223372036854775807) :
  Calls Tryz.prog 33 #[.pointer (some ⟨r,0,none⟩),.int .i64 n] w fun e w' => e = .returned (.int .i64 (tripE D n)) ∧ Hid (Rk w' base r q sv wv SV WV (tripD D n)) ∧ Mr w w' base:=by
 have HD : Hid (Rk w base r q sv wv SV WV D):=h
 have c3 : w.cell? ⟨r,3,none⟩ = some (.bool D.down):=h.blk.cell 3 rfl
 have c2 : w.cell? ⟨r,2,none⟩ = some (.int .i64 (D.trip : Int)):=h.blk.cell 2 rfl
 have f2:=h.blk.free 2
 obtain ⟨E,HE⟩ : ∃ E,Hid (E = tripE D n):=⟨_,rfl⟩
 obtain ⟨D',HY⟩ : ∃ D',Hid (D' = tripD D n):=⟨_,rfl⟩
 rw [← HE.out,← HY.out]
 clear h
 cases hd : D.down with
 | true =>
  rw [hd] at c3
  have HX : Hid (E = 10 ∧ D' = D):=⟨by rw [HE.out,tripE,if_pos hd],by rw [HY.out,tripD,if_pos hd]⟩
  clear hd
  go_enter Tryz.func33,Tryz.ntmps33
  go_wp2
  go_ret
  exact ⟨by rw [HX.out.1];rfl,by rw [HX.out.2];exact HD.out,Mr.refl _ _⟩
 | false =>
  rw [hd] at c3
  by_cases h0 : n < 0
  ·have HX : Hid (E = 2 ∧ D' = D):=⟨by rw [HE.out,tripE,hd,if_neg (by decide),if_pos h0],by rw [HY.out,tripD,hd,if_neg (by decide),if_pos h0]⟩
   clear hd
   go_enter Tryz.func33,Tryz.ntmps33
   go_wp2
   go_ret
   exact ⟨by rw [HX.out.1];rfl,by rw [HX.out.2];exact HD.out,Mr.refl _ _⟩
  ·have HX : Hid (E = 0 ∧ D' = { D with trip:=n.toNat,down:=false }):=⟨by rw [HE.out,tripE,hd,if_neg (by decide),if_neg h0],by rw [HY.out,tripD,hd,if_neg (by decide),if_neg h0]⟩
   have HK3 : Hid (Blk (w.setCell ⟨r,2,none⟩ (.int .i64 n)) r #[sv,wv,.int .i64 (n.toNat : Int),.bool false,.int .i64 (D.age : Int)] 66):=by
    have:=HD.out.blk.set 2 (.int .i64 n)
    rw [hd] at this
    rw [show ((n.toNat : Nat) : Int) = n from by omega]
    exact this
   have HG : Hid (w.grownBy (w.setCell ⟨r,2,none⟩ (.int .i64 n)) (some r)):=grown_cell _ _ _ _
   clear hd
   go_enter Tryz.func33,Tryz.ntmps33
   go_wp2
   go_ret
   exact ⟨by rw [HX.out.1];rfl,by rw [HX.out.2];exact HD.out.with3 n.toNat false (by omega) HK3.out HG.out,Mr.of_cell HD.out.blk HD.out.br HG.out⟩
end Go.Proofs.YtghajmcohdedlaaGreat

namespace Go.Proofs.YtghajmcohdedlaaGreat
open Go.RowKit
def RefTold (w : World) (e : Ending) (er : Int) (s : List Nat) : Prop :=
 (er ≠ 0 ∧ e = .returned (.tuple #[.slice none 0 0,.int .i64 er])) ∨ (er = 0 ∧ ∃ a c,e = .returned (.tuple #[.slice a 64 c,.int .i64 0]) ∧ Rd w a 64 s ∧ Sec s ∧ 64 ≤ c)
theorem Own.cap {w : World} {base : Nat} {a : Option Addr} {len cap : Nat} {bs : List Nat} (h : Own w base a len cap bs) : len ≤ cap:=by
 rcases h.row.2 with ⟨h1,h0⟩ | ⟨g,c,cur,h1,_,_,h4,_⟩
 ·omega
 ·simp only [Value.slice.injEq] at h1;omega
theorem Rk.sureAt {w : World} {base r q rs c n : Nat} {wv : Value} {SV WV : List Value} {D : Dk} (h : Rk w base r q (.slice (some ⟨rs,0,none⟩) n c) wv SV WV D) {i : Nat} {s : List Nat} (hs : D.sure[i]? = some s) : ∃ k c',w.cell? ⟨rs,i,none⟩ = some (.slice (some ⟨k,0,none⟩) 64 c') ∧ 64 ≤ c' ∧ c' ≤ maxLen ∧ Rd w (some ⟨k,0,none⟩) 64 s ∧ Sec s ∧ k < w.heap.size:=by
 obtain ⟨v,h1,h2⟩:=h.each i s hs
 obtain ⟨k,c',rfl,h4,h5,h6,cur,h7⟩:=h2.slice
 have hi : i < D.sure.length:=(List.getElem?_eq_some_iff.1 hs).1
 have hn : n = D.sure.length:=by
  obtain ⟨_,_,e,_⟩:=h.form
  simp only [Value.slice.injEq] at e
  exact e.2.1
 subst hn
 refine ⟨k,c',?_,h4,h5,h6,h2.sec,heap_lt h7⟩
 rw [h.srow.cellAt i (by omega),h1]
theorem Rk.putAt {w : World} {base r q gw c n : Nat} {sv : Value} {SV WV : List Value} {D : Dk} (h : Rk w base r q sv (.slice (some ⟨gw,0,none⟩) n c) SV WV D) {i : Nat} {p : Nat × List Nat} (hp : D.waits[i]? = some p) : p.1 < D.sure.length ∧ w.cell? ⟨gw,i * 2,none⟩ = some (.int .i64 (p.1 : Int)) ∧ ∃ k c',w.cell? ⟨gw,i * 2 + 1,none⟩ = some (.slice (some ⟨k,0,none⟩) 64 c') ∧ 64 ≤ c' ∧ c' ≤ maxLen ∧ Byt w q (.slice (some ⟨k,0,none⟩) 64 c') p.2 ∧ Rd w (some ⟨k,0,none⟩) 64 p.2 ∧ Sec p.2 ∧ k < w.heap.size:=by
 obtain ⟨h0,h1,v,h2,h3⟩:=h.puts i p hp
 have hb:=h3
 obtain ⟨k,c',rfl,h4,h5,h6,cur,h7⟩:=h3.slice
 have hi : i < D.waits.length:=(List.getElem?_eq_some_iff.1 hp).1
 have hn : n = D.waits.length:=by
  obtain ⟨_,_,e,_⟩:=h.wform
  simp only [Value.slice.injEq] at e
  exact e.2.1
 subst hn
 refine ⟨h0,?_,k,c',?_,h4,h5,hb,h6,hb.sec,heap_lt h7⟩
 ·rw [h.wrow.cellAt (i * 2) (by omega),h1]
 ·rw [h.wrow.cellAt (i * 2 + 1) (by omega),h2]
set_option maxRecDepth 100000 in
set_option maxHeartbeats 1000000 in
theorem ref_Sure (w : World) (base r q : Nat) (sv wv : Value) (SV WV : List Value) (D : Dk) (i : Int) (h : Rk w base r q sv wv SV WV D) :
  Calls Tryz.prog 39 #[.pointer (some ⟨r,0,none⟩),.int .i64 i] w fun e w' => Hid (RefTold w' e (sureE D i) (D.sure.getD i.toNat [])) ∧ Below w.heap.size w w':=by
 have HD : Hid (Rk w base r q sv wv SV WV D):=h
 obtain ⟨R,HR⟩ : ∃ R,Hid (R = sureE D i):=⟨_,rfl⟩
 obtain ⟨T,HT0⟩ : ∃ T,Hid (T = D.sure.getD i.toNat []):=⟨_,rfl⟩
 rw [← HR.out,← HT0.out]
 obtain ⟨rs,cs,rfl,_⟩:=h.form
 obtain ⟨ns,hns⟩ : ∃ ns,ns = D.sure.length:=⟨_,rfl⟩
 rw [← hns] at HD
 have HNS : Hid (ns = D.sure.length):=hns
 have hnsb : ns ≤ 512:=by rw [hns];exact h.sz
 clear h hns
 go_enter Tryz.func39,Tryz.ntmps39
 go_wp2_with fail
 refine (ref_has w base r q _ wv SV WV D i HD.out).mono ?_
 rintro e w1 ⟨he,hw⟩
 subst he
 rw [hw]
 clear hw w1
 cases hh : hasB D i with
 | false =>
  have HX : Hid (R = 2):=by show _ = _;rw [HR.out,sureE,hh];rfl
  clear hh
  go_wp2
  go_returns
  exact ⟨.inl ⟨by rw [HX.out];decide,by rw [HX.out];rfl⟩,Below.refl _ _⟩
 | true =>
  have HX : Hid (R = 0):=by show _ = _;rw [HR.out,sureE,hh];rfl
  obtain ⟨h0,h1⟩:=(hasB_iff D i).1 hh
  obtain ⟨j,rfl⟩:=Int.eq_ofNat_of_zero_le h0
  have hj : j < D.sure.length:=by omega
  have hTj : D.sure[j]? = some T:=by rw [HT0.out,Int.toNat_natCast,List.getD_eq_getElem?_getD,List.getElem?_eq_getElem hj];rfl
  have HDa : Hid (Rk (w.alloc (.cells #[] 5)) base r q (.slice (some ⟨rs,0,none⟩) ns cs) wv SV WV D):=HD.out.stay (below_alloc _ _)
  obtain ⟨k,ck,cc,h64,hcm,hrd,hsec,hkl⟩:=HDa.out.sureAt hTj
  have HRD : Hid (Rd (w.alloc (.cells #[] 5)) (some ⟨k,0,none⟩) 64 T):=hrd
  have HSE : Hid (Sec T):=hsec
  have c0 : (w.alloc (.cells #[] 5)).cell? ⟨r,0,none⟩ = some (.slice (some ⟨rs,0,none⟩) ns cs):=HDa.out.blk.cell 0 rfl
  have q1 : (0 : Int) ≤ (j : Int):=by omega
  have q2 : (j : Int) < (ns : Int):=by have:=HNS.out;omega
  have HOW : Hid (Own (w.alloc (.cells #[] 5)) w.heap.size (some ⟨w.heap.size,0,none⟩) 0 0 []):=Own.empty w
  have HBA : Hid (Below w.heap.size w (w.alloc (.cells #[] 5))):=below_alloc _ _
  clear hh h0 h1 hTj hj hrd hsec hkl
  go_wp2_with (guard_target =~ wpList _ _ _ (Oper.mk (some 20) _ _ _ _ _ :: _) _ _;refine wpList_append_rd rfl (.tmp 12) (.tmp 19) rfl w.heap.size (some ⟨w.heap.size,0,none⟩) 0 0 [] rfl HOW.out (some ⟨k,0,none⟩) 64 ck T rfl HRD.out (fun e => by cases e) (by omega) HBA.out.size ?_)
  intro a' c' w2 ho2 hg2 hb2
  have HO2 : Hid (Own w2 w.heap.size a' 64 c' T):=ho2
  have HB2 : Hid (Below w.heap.size w w2):=HBA.out.trans hb2
  clear ho2 hg2 hb2
  go_wp2
  go_returns
  exact ⟨.inr ⟨HX.out,a',c',rfl,HO2.out.rd,HSE.out,HO2.out.cap⟩,HB2.out⟩
set_option maxRecDepth 100000 in
set_option maxHeartbeats 1000000 in
theorem ref_Read (w : World) (base r q : Nat) (sv wv : Value) (SV WV : List Value) (D : Dk) (i : Int) (h : Rk w base r q sv wv SV WV D) :
  Calls Tryz.prog 41 #[.pointer (some ⟨r,0,none⟩),.int .i64 i] w fun e w' => Hid (RefTold w' e (readE D i) (nowB D i.toNat)) ∧ Below w.heap.size w w':=by
 have HD : Hid (Rk w base r q sv wv SV WV D):=h
 have c3 : w.cell? ⟨r,3,none⟩ = some (.bool D.down):=h.blk.cell 3 rfl
 obtain ⟨R,HR⟩ : ∃ R,Hid (R = readE D i):=⟨_,rfl⟩
 obtain ⟨T,HT0⟩ : ∃ T,Hid (T = nowB D i.toNat):=⟨_,rfl⟩
 rw [← HR.out,← HT0.out]
 obtain ⟨rs,cs,rfl,_⟩:=h.form
 obtain ⟨aw,cw,rfl,haw⟩:=h.wform
 have HAW : Hid (0 < D.waits.length → ∃ gw,aw = some ⟨gw,0,none⟩):=haw
 obtain ⟨ns,hns⟩ : ∃ ns,ns = D.sure.length:=⟨_,rfl⟩
 obtain ⟨nw,hnw⟩ : ∃ nw,nw = D.waits.length:=⟨_,rfl⟩
 rw [← hns,← hnw] at HD
 have HNS : Hid (ns = D.sure.length):=hns
 have HNW : Hid (nw = D.waits.length):=hnw
 have hnsb : ns ≤ 512:=by rw [hns];exact h.sz
 have hnwb : nw ≤ 1000000000:=by rw [hnw];exact h.wl
 clear h hns hnw haw
 cases hd : D.down with
 | true =>
  rw [hd] at c3
  have HX : Hid (R = 10):=by show _ = _;rw [HR.out,readE,hd];rfl
  clear hd
  go_enter Tryz.func41,Tryz.ntmps41
  go_wp2
  go_returns
  exact ⟨.inl ⟨by rw [HX.out];decide,by rw [HX.out];rfl⟩,Below.refl _ _⟩
 | false =>
  rw [hd] at c3
  have HDN : Hid (D.down = false):=hd
  clear hd
  go_enter Tryz.func41,Tryz.ntmps41
  go_wp2_with fail
  refine (ref_has w base r q _ _ SV WV D i HD.out).mono ?_
  rintro e w1 ⟨he,hw⟩
  subst he
  rw [hw]
  clear hw w1
  cases hh : hasB D i with
  | false =>
   have HX : Hid (R = 2):=by show _ = _;rw [HR.out,readE,HDN.out,hh];rfl
   clear hh
   go_wp2
   go_returns
   exact ⟨.inl ⟨by rw [HX.out];decide,by rw [HX.out];rfl⟩,Below.refl _ _⟩
  | true =>
   have HX : Hid (R = 0):=by show _ = _;rw [HR.out,readE,HDN.out,hh];rfl
   obtain ⟨h0,h1⟩:=(hasB_iff D i).1 hh
   obtain ⟨j,rfl⟩:=Int.eq_ofNat_of_zero_le h0
   have hj : j < D.sure.length:=by omega
   have HT : Hid (T = nowB D j):=by show _ = _;rw [HT0.out,Int.toNat_natCast]
   obtain ⟨s0,hs0⟩ : ∃ s0,D.sure[j]? = some s0:=⟨D.sure[j],List.getElem?_eq_getElem hj⟩
   obtain ⟨k0,ck0,cc,h64,hcm,hrd,hsec,hkl⟩:=HD.out.sureAt hs0
   have HS0 : Hid (Rd w (some ⟨k0,0,none⟩) 64 (nowS D j 0) ∧ Sec (nowS D j 0)):=by
    have e : nowS D j 0 = s0:=by rw [nowS,List.getD_eq_getElem?_getD,hs0];rfl
    show _ ∧ _
    rw [e]
    exact ⟨hrd,hsec⟩
   have c0 : w.cell? ⟨r,0,none⟩ = some (.slice (some ⟨rs,0,none⟩) ns cs):=HD.out.blk.cell 0 rfl
   have c1 : w.cell? ⟨r,1,none⟩ = some (.slice aw nw cw):=HD.out.blk.cell 1 rfl
   have q1 : (0 : Int) ≤ (j : Int):=by omega
   have q2 : (j : Int) < (ns : Int):=by have:=HNS.out;omega
   clear hh h0 h1 hj hs0 hrd hsec hkl c3
   go_wp2
   go_loopw [6,7] (fun t6 t7 wr => ∃ (k kb cb : Nat),k ≤ nw ∧ t7 = .int .i64 (k : Int) ∧ t6 = .slice (some ⟨kb,0,none⟩) 64 cb ∧ Hid (Rd w (some ⟨kb,0,none⟩) 64 (nowS D j k) ∧ Sec (nowS D j k)) ∧ wr = w) (fun _ t7 _ => nw - (intOf t7).toNat)
   case atStart => exact ⟨0,k0,ck0,Nat.zero_le _,rfl,rfl,HS0,rfl⟩
   case round =>
    obtain ⟨k,kb,cb,hk,rfl,rfl,HE,rfl⟩:=hrel
    by_cases hlt : k < nw
    ·have hlt' : (k : Int) < (nw : Int):=by omega
     have hkw : k < D.waits.length:=by have:=HNW.out;omega
     obtain ⟨gw,rfl⟩:=HAW.out (by omega)
     obtain ⟨p,hp⟩ : ∃ p,D.waits[k]? = some p:=⟨D.waits[k],List.getElem?_eq_getElem hkw⟩
     obtain ⟨hp1,ca,k2,c2,cb2,h642,hcm2,_,hrd2,hsec2,hkl2⟩:=HD.out.putAt hp
     have hpg : D.waits.getD k (0,[]) = p:=by rw [List.getD_eq_getElem?_getD,hp];rfl
     have HN2 : Hid (nowS D j (k + 1) = if p.1 = j then p.2 else nowS D j k):=by show _ = _;rw [nowS,hpg]
     obtain ⟨pa,L⟩:=p
     simp only at ca hrd2 hsec2 HN2
     have hk0 : (0 : Int) ≤ (k : Int):=by omega
     by_cases hat : pa = j
     ·have HE2 : Hid (Rd wr (some ⟨k2,0,none⟩) 64 (nowS D j (k + 1)) ∧ Sec (nowS D j (k + 1))):=by
       show _ ∧ _
       rw [HN2.out,if_pos hat]
       exact ⟨hrd2,hsec2⟩
      have hati : (pa : Int) = (j : Int):=by omega
      have hati' : ((pa : Int) == (j : Int)) = true:=by rw [beq_iff_eq];exact hati
      subst hat
      clear hp hpg HE hrd2 hsec2 hp1 HN2 hkl2 hkw
      go_wp2
      go_roundw
      case rel => exact ⟨k + 1,k2,c2,by omega,by go_num,rfl,HE2,by trivial⟩
      case measure => simp [intOf];omega
     ·have HE2 : Hid (Rd wr (some ⟨kb,0,none⟩) 64 (nowS D j (k + 1)) ∧ Sec (nowS D j (k + 1))):=by
       show _ ∧ _
       rw [HN2.out,if_neg hat]
       exact HE.out
      have hati : ¬ (pa : Int) = (j : Int):=by omega
      have hati' : ((pa : Int) == (j : Int)) = false:=by rw [beq_eq_false_iff_ne];exact hati
      clear hp hpg HE hrd2 hsec2 hp1 HN2 hkl2 hkw
      go_wp2
      go_roundw
      case rel => exact ⟨k + 1,kb,cb,by omega,by go_num,rfl,HE2,by trivial⟩
      case measure => simp [intOf];omega
    ·obtain rfl : k = nw:=by omega
     have HE2 : Hid (Rd wr (some ⟨kb,0,none⟩) 64 T ∧ Sec T):=by
      show _ ∧ _
      rw [HT.out,nowB,← HNW.out]
      exact HE.out
     have HRD : Hid (Rd (wr.alloc (.cells #[] 5)) (some ⟨kb,0,none⟩) 64 T):=HE2.out.1.below (below_alloc _ _)
     have HOW : Hid (Own (wr.alloc (.cells #[] 5)) wr.heap.size (some ⟨wr.heap.size,0,none⟩) 0 0 []):=Own.empty wr
     have HBA : Hid (Below wr.heap.size wr (wr.alloc (.cells #[] 5))):=below_alloc _ _
     clear HE hlt
     go_wp2_with (guard_target =~ wpList _ _ _ (Oper.mk (some 54) _ _ _ _ _ :: _) _ _;refine wpList_append_rd rfl (.tmp 52) (.tmp 53) rfl wr.heap.size (some ⟨wr.heap.size,0,none⟩) 0 0 [] rfl HOW.out (some ⟨kb,0,none⟩) 64 cb T rfl HRD.out (fun e => by cases e) (by omega) HBA.out.size ?_)
     intro a' c' w2 ho2 hg2 hb2
     have HO2 : Hid (Own w2 wr.heap.size a' 64 c' T):=ho2
     have HB2 : Hid (Below wr.heap.size wr w2):=HBA.out.trans hb2
     clear ho2 hg2 hb2
     go_wp2
     go_returns
     exact ⟨.inr ⟨HX.out,a',c',rfl,HO2.out.rd,HE2.out.2,HO2.out.cap⟩,HB2.out⟩
end Go.Proofs.YtghajmcohdedlaaGreat
