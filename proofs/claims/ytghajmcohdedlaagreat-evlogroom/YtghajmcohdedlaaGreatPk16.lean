import Derived.Test.YtghajmcohdedlaaGreatPk15
import Derived.Test.YtghajmcohdedlaaGreatPk13
import Derived.Test.YtghajmcohdedlaaGreatPk04
namespace Go.Proofs.YtghajmcohdedlaaGreat
open Go.RowKit
set_option maxRecDepth 100000
theorem below_grown {w w' : World} (h : Below w.heap.size w w') (r : Option Nat) : w.grownBy w' r:=⟨h.os,h.tape,h.output,h.size,fun k hk _ => h.block k hk⟩
theorem Rcs.grow_ {w w' : World} {base : Nat} {v : Value} {L : List Rc} (h : Rcs w base v L) {k : Nat} (hg : w.grownBy w' (some k)) (hk : some k ≠ v.ownBlock) (hB : ∀ cs fr,w.heap[k]? ≠ some (.cells cs 5 fr)) : Rcs w' base v L:=by
 refine ⟨own_stay h.row (fun j hj => hg.block j (h.row.lt j hj).2 (fun e => hk (by rw [← e];exact hj.symm))),fun r hr => ?_⟩
 obtain ⟨h1,h2⟩:=h.bd r hr
 rcases h2 with h0 | ⟨g,off,cs,fr,e,hb,hc⟩
 ·refine ⟨?_,.inl h0⟩
  exact ⟨h1.size,h1.byte,.inl h0⟩
 ·have hne : g ≠ k:=fun e2 => hB cs fr (by rw [← e2];exact hc)
  have hc' : w'.heap[g]? = some (.cells cs 5 fr):=(hg.block g (heap_lt hc) (fun e2 => hne (by simpa using e2))).trans hc
  refine ⟨?_,.inr ⟨g,off,cs,fr,e,hb,hc'⟩⟩
  refine ⟨h1.size,h1.byte,?_⟩
  rcases h1.cells with h3 | ⟨g',off',ha,hlt,hcc⟩
  ·exact .inl h3
  ·have hgg : g' = g:=by rw [e] at ha;simp only [Option.some.injEq,Addr.mk.injEq,and_true] at ha;exact ha.1.symm
   subst hgg
   refine .inr ⟨g',off',ha,heap_lt hc',fun i hi => ?_⟩
   have:=hcc i hi
   rw [cell_of_row w g' (off' + i) cs _ _ hc] at this
   rw [cell_of_row w' g' (off' + i) cs _ _ hc']
   exact this
def keepR (t : Nat) (L : List Rc) : List Rc:=L.filter fun r => decide (t < r.tick)
theorem keepR_all {t : Nat} {L : List Rc} (h : ∀ r ∈ L,t < r.tick) : keepR t L = L:=List.filter_eq_self.2 fun r hr => decide_eq_true (h r hr)
theorem keepR_snoc (t : Nat) (L : List Rc) (r : Rc) : keepR t (L ++ [r]) = keepR t L ++ if t < r.tick then [r] else []:=by
 unfold keepR
 rw [List.filter_append,List.filter_cons]
 by_cases h : t < r.tick <;> simp [h]
theorem rflat_set2 : ∀ (L : List Rc) (j : Nat) (r : Rc),j < L.length → ((L.flatMap rcc).set (j * 2) (.int .i64 (r.tick : Int))).set (j * 2 + 1) (.slice r.a r.n r.c) = (L.set j r).flatMap rcc
 | [],j,r,h => by simp at h
 | x :: L,0,r,h => by simp [rcc]
 | x :: L,j + 1,r,h => by
  have ih:=rflat_set2 L j r (by simpa using h)
  rw [List.flatMap_cons,List.set_cons_succ,List.flatMap_cons,← ih]
  have hl : (rcc x).length = 2:=rfl
  rw [List.set_append_right _ _ (by rw [hl];omega),List.set_append_right _ _ (by rw [hl];omega),hl]
  rw [show (j + 1) * 2 - 2 = j * 2 from by omega,show (j + 1) * 2 + 1 - 2 = j * 2 + 1 from by omega]
def Rrow (w : World) (base gr n c : Nat) (M : List Rc) : Prop:=M.length = n ∧ w.ownsRow base 44 2 (.slice (some ⟨gr,0,none⟩) n c) n (M.flatMap rcc)
theorem Rrow.grow_ {w w' : World} {base gr n c : Nat} {M : List Rc} (h : Rrow w base gr n c M) (hb : Below w.heap.size w w') : Rrow w' base gr n c M:=⟨h.1,own_stay h.2 (fun k hk => hb.block k (h.2.lt k hk).2)⟩
theorem Rrow.set {w : World} {base gr n c : Nat} {M : List Rc} (h : Rrow w base gr n c M) {j : Nat} (hj : j < n) (r : Rc) : Rrow ((w.setCell ⟨gr,j * 2,none⟩ (.int .i64 (r.tick : Int))).setCell ⟨gr,j * 2 + 1,none⟩ (.slice r.a r.n r.c)) base gr n c (M.set j r):=by
 refine ⟨by rw [List.length_set];exact h.1,?_⟩
 have h1:=(h.2.stored (j * 2) (.int .i64 (r.tick : Int))).1
 have h2:=(h1.stored (j * 2 + 1) (.slice r.a r.n r.c)).1
 rw [rflat_set2 M j r (by rw [h.1];exact hj)] at h2
 exact h2
theorem Rrow.cell {w : World} {base gr n c : Nat} {M : List Rc} (h : Rrow w base gr n c M) {j : Nat} {r : Rc} (hj : M[j]? = some r) : w.cell? ⟨gr,j * 2,none⟩ = some (.int .i64 (r.tick : Int)) ∧ w.cell? ⟨gr,j * 2 + 1,none⟩ = some (.slice r.a r.n r.c) ∧ w.frozen? ⟨gr,j * 2,none⟩ = false ∧ w.frozen? ⟨gr,j * 2 + 1,none⟩ = false:=by
 have hjl:=(List.getElem?_eq_some_iff.1 hj).1
 have hn:=h.1
 have f : ∀ i,w.frozen? ⟨gr,i,none⟩ = false:=fun i => by
  rcases h.2.2 with ⟨h1,_⟩ | ⟨k,c',cur,h1,hb,h3,_⟩
  ·cases h1
  ·simp only [Value.slice.injEq,Option.some.injEq,Addr.mk.injEq,and_true] at h1
   rw [h1.1]
   exact frozen_of_row w k i cur _ h3
 refine ⟨?_,?_,f _,f _⟩
 ·rw [h.2.cellAt (j * 2) (by omega),show j * 2 = j * 2 + 0 from rfl,flat_at rcc 2 M (fun _ _ => rfl) j r hj 0 (by omega)]
  rfl
 ·rw [h.2.cellAt (j * 2 + 1) (by omega),flat_at rcc 2 M (fun _ _ => rfl) j r hj 1 (by omega)]
  rfl
def zcs (m : Nat) : List Value:=(Builtin.zeroCells (Value.agg #[.int .i64 0,.slice none 0 0]).cells m).toList
theorem zcs_len (m : Nat) : (zcs m).length = m * 2:=by
 unfold zcs Builtin.zeroCells
 simp [Value.cells]
theorem zcs_one (m : Nat) : ∀ v ∈ zcs m,v.oneCell' = true:=by
 intro v hv
 unfold zcs Builtin.zeroCells at hv
 simp only [Array.toList_map,List.mem_map] at hv
 obtain ⟨i,_,rfl⟩:=hv
 have h2 : i % (Value.agg #[.int .i64 0,.slice none 0 0]).cells.size = 0 ∨ i % (Value.agg #[.int .i64 0,.slice none 0 0]).cells.size = 1:=by
  have e : (Value.agg #[.int .i64 0,.slice none 0 0]).cells.size = 2:=rfl
  rw [e]
  omega
 rcases h2 with h2 | h2 <;> rw [h2] <;> rfl
theorem clear_recs (w : World) (g o m c : Nat) (hc : ∀ j,j < m * 2 → (w.cell? ⟨g,o + j,none⟩).isSome = true) (hf : ∀ j,j < m * 2 → w.frozen? ⟨g,o + j,none⟩ = false) : ∀ ty,(Builtin.clear_ #[41] ty #[.slice (some ⟨g,o,none⟩) m c]).run Tryz.prog w = .ok (.tuple #[]) (w.setCells g o (zcs m)):=by
 intro ty
 have hst:=run_storeCells_cells (P:=Tryz.prog) g o (zcs m) 0 w (by rw [zcs_len];simpa using hc) (by rw [zcs_len];simpa using hf) (zcs_one m)
 simp only [Nat.add_zero] at hst
 have hzv : (zeroValue 44).run Tryz.prog w = .ok (.agg #[.int .i64 0,.slice none 0 0]) w:=by rfl
 unfold zcs at hst ⊢
 cases m with
 | zero => simp [Builtin.clear_,run_underlying Tryz.underlying41,Builtin.zeroCells,World.setCells]
 | succ k => simp [Builtin.clear_,run_underlying Tryz.underlying41,hzv,hst]
theorem setCells_past {base e s g n c : Nat} {xs : List Value} : ∀ (vs : List Value) (o : Nat) (w : World),w.ownsRow base e s (.slice (some ⟨g,0,none⟩) n c) n xs → n * s ≤ o → (w.setCells g o vs).ownsRow base e s (.slice (some ⟨g,0,none⟩) n c) n xs
 | [],o,w,h,_ => h
 | v :: vs,o,w,h,ho => by
  rw [World.setCells]
  refine setCells_past vs (o + 1) _ ?_ (by omega)
  have h1:=(h.stored o v).1
  have hl:=h.1
  rw [List.set_eq_of_length_le (by rw [hl];exact ho)] at h1
  exact h1
theorem setCells_grown (g : Nat) : ∀ (vs : List Value) (o : Nat) (w : World),w.grownBy (w.setCells g o vs) (some g)
 | [],o,w => ⟨rfl,rfl,rfl,Nat.le_refl _,fun _ _ _ => rfl⟩
 | v :: vs,o,w => by
  rw [World.setCells]
  exact grown_trans (grown_cell w g o v) (setCells_grown g vs (o + 1) _)
theorem own_front {w : World} {base e s g n c : Nat} {xs : List Value} (h : w.ownsRow base e s (.slice (some ⟨g,0,none⟩) n c) n xs) {i : Nat} (hi : i ≤ n) : w.ownsRow base e s (.slice (some ⟨g,0,none⟩) i c) i (xs.take (i * s)):=by
 have his : i * s ≤ n * s:=Nat.mul_le_mul_right s hi
 refine ⟨by rw [List.length_take,h.1];omega,?_⟩
 rcases h.2 with ⟨hv,_⟩ | ⟨g',c',cur,hv,hb,hg,h1,h2,h3,h4⟩
 ·cases hv
 ·simp only [Value.slice.injEq,Option.some.injEq,Addr.mk.injEq,and_true,true_and] at hv
  obtain ⟨rfl,rfl⟩:=hv
  exact .inr ⟨g,c,cur,rfl,hb,hg,Nat.le_trans hi h1,h2,h3,by rw [← h4,List.take_take,Nat.min_eq_left his]⟩
theorem rflat_take : ∀ (M : List Rc) (i : Nat),(M.flatMap rcc).take (i * 2) = (M.take i).flatMap rcc
 | [],i => by simp
 | x :: M,0 => by simp
 | x :: M,i + 1 => by
  rw [List.take_succ_cons,List.flatMap_cons,List.flatMap_cons,← rflat_take M i,List.take_append,show (rcc x).length = 2 from rfl,List.take_of_length_le (by show 2 ≤ _;omega),show (i + 1) * 2 - 2 = i * 2 from by omega]
set_option maxHeartbeats 4000000 in
theorem rc_index (w : World) (base : Nat) (a : Option Addr) (n c : Nat) (L : List Rc) (bx t : Nat) (h : Rcs w base (.slice a n c) L) (hb : Blk w bx #[.int .i64 (t : Int)] 3) (hl : L.length ≤ 1000000) :
  Calls Tryz.prog 93 #[.slice a n c,.func (.func 82) #[] #[.pointer (some ⟨bx,0,none⟩)]] w fun e w' => Hid ((∃ i r,e = .returned (.int .i64 ((i : Nat) : Int)) ∧ L[i]? = some r ∧ r.tick ≤ t ∧ ∀ x ∈ L.take i,t < x.tick) ∨ (e = .returned (.int .i64 (-1)) ∧ ∀ x ∈ L,t < x.tick)) ∧ Below w.heap.size w w':=by
 have hn : n = L.length:=by obtain ⟨a',c',e⟩:=h.val;cases e;rfl
 have HR : Hid (Rcs w base (.slice a n c) L):=h
 have HB : Hid (Blk w bx #[.int .i64 (t : Int)] 3):=hb
 have HN : Hid (n = L.length):=hn
 have hn' : n ≤ 1000000:=by omega
 clear h hb hn hl
 go_enter Tryz.func93,Tryz.ntmps93
 go_wp2
 go_loopw [8] (fun t8 wr => ∃ (i : Nat),i ≤ n ∧ t8 = .int .i64 (i : Int) ∧ Hid (∀ x ∈ L.take i,t < x.tick) ∧ Hid (Below w.heap.size w wr)) (fun t8 _ => n - (intOf t8).toNat)
 case atStart => exact ⟨0,Nat.zero_le _,rfl,fun x hx => (by simp at hx),Below.refl _ _⟩
 case round =>
  obtain ⟨i,hi,rfl,HT,HBr⟩:=hrel
  by_cases hlt : i < n
  ·have hlt' : (i : Int) < (n : Int):=by omega
   have hge : (0 : Int) ≤ (i : Int):=by omega
   have HRr : Hid (Rcs wr base (.slice a n c) L):=HR.out.below HBr.out
   obtain ⟨r,hr⟩ : ∃ r,L[i]? = some r:=⟨_,List.getElem?_eq_getElem (by have:=HN.out;omega)⟩
   obtain ⟨gr,c',hv,hgr,hrg⟩:=HRr.out.cut hr
   have ha : a = some ⟨gr,0,none⟩:=by cases hv;rfl
   subst ha
   have HRI : Hid (L[i]? = some r):=hr
   have HRG : Hid (wr.rangeAt gr (i * 2) (rcc r)):=hrg
   obtain ⟨bb,HBB⟩ : ∃ bb,Hid (decide (r.tick ≤ t) = bb):=⟨_,rfl⟩
   have HCL : Hid (Calls Tryz.prog 82 #[.agg (rcc r).toArray,.pointer (some ⟨bx,0,none⟩)] wr fun e w' => e = .returned (.bool bb) ∧ Below wr.heap.size wr w'):=by
    have:=rel_one wr bx t r (HB.out.stay HBr.out)
    rw [HBB.out] at this
    exact this
   clear hv hrg hr
   go_wp2_with (first
    | (guard_target =~ wpList _ _ _ (Oper.mk (some 15) _ _ _ _ _ :: _) _ _;refine wpList_load_mid rfl 44 (.tmp 14) rfl gr (i * 2) rfl (rcc r) _ HRG.out Tryz.underlying44 rfl (by rfl) ?_)
    | fail)
   refine HCL.out.mono ?_
   rintro e w2 ⟨rfl,hb2⟩
   have HB2 : Hid (Below w.heap.size w w2):=HBr.out.trans (hb2.mono HBr.out.size)
   clear hb2
   cases bb with
   | true =>
    have hbb:=HBB.out
    have HF : Hid (r.tick ≤ t):=by (show _ ≤ _);exact of_decide_eq_true hbb
    go_wp2
    go_returns
    exact ⟨.inl ⟨i,r,rfl,HRI.out,HF.out,HT.out⟩,HB2.out⟩
   | false =>
    have HT2 : Hid (∀ x ∈ L.take (i + 1),t < x.tick):=fun x hx => by
     rw [List.take_add_one,HRI.out] at hx
     rcases List.mem_append.1 hx with hx | hx
     ·exact HT.out x hx
     ·simp only [Option.toList_some,List.mem_singleton] at hx
      subst hx
      have:=of_decide_eq_false HBB.out
      omega
    go_wp2
    go_roundw
    case rel => exact ⟨i + 1,by omega,by go_num,HT2,HB2⟩
    case measure => (simp [intOf];omega)
  ·obtain rfl : i = n:=by omega
   have hlt' : ¬ (i : Int) < (i : Int):=by omega
   have HT2 : Hid (∀ x ∈ L,t < x.tick):=fun x hx => HT.out x (by rw [HN.out,List.take_length];exact hx)
   go_wp2
   go_returns
   exact ⟨.inr ⟨rfl,HT2.out⟩,HBr.out⟩
end Go.Proofs.YtghajmcohdedlaaGreat

namespace Go.Proofs.YtghajmcohdedlaaGreat
open Go.RowKit
set_option maxRecDepth 100000
theorem Bd.grow_ {w w' : World} {base n : Nat} {a : Option Addr} {bs : List Nat} (h : Bd w base a n bs) {k : Nat} (hg : w.grownBy w' (some k)) (hB : ∀ cs fr,w.heap[k]? ≠ some (.cells cs 5 fr)) : Bd w' base a n bs:=by
 obtain ⟨h1,h2⟩:=h
 rcases h2 with h0 | ⟨g,off,cs,fr,e,hb,hc⟩
 ·refine ⟨?_,.inl h0⟩
  exact ⟨h1.size,h1.byte,.inl h0⟩
 ·have hne : g ≠ k:=fun e2 => hB cs fr (by rw [← e2];exact hc)
  have hc' : w'.heap[g]? = some (.cells cs 5 fr):=(hg.block g (heap_lt hc) (fun e2 => hne (by simpa using e2))).trans hc
  refine ⟨?_,.inr ⟨g,off,cs,fr,e,hb,hc'⟩⟩
  refine ⟨h1.size,h1.byte,?_⟩
  rcases h1.cells with h3 | ⟨g',off',ha,hlt,hcc⟩
  ·exact .inl h3
  ·have hgg : g' = g:=by rw [e] at ha;simp only [Option.some.injEq,Addr.mk.injEq,and_true] at ha;exact ha.1.symm
   subst hgg
   refine .inr ⟨g',off',ha,heap_lt hc',fun i hi => ?_⟩
   have:=hcc i hi
   rw [cell_of_row w g' (off' + i) cs _ _ hc] at this
   rw [cell_of_row w' g' (off' + i) cs _ _ hc']
   exact this
theorem drop_get {M L : List Rc} {j : Nat} (h : M.drop j = L.drop j) : M[j]? = L[j]?:=by
 have h1 : (M.drop j)[0]? = (L.drop j)[0]?:=by rw [h]
 rw [List.getElem?_drop,List.getElem?_drop] at h1
 exact h1
theorem drop_next {M L : List Rc} {j : Nat} (h : M.drop j = L.drop j) : M.drop (j + 1) = L.drop (j + 1):=by
 rw [← List.drop_drop,← List.drop_drop,h]
theorem take_set_snoc {M : List Rc} {i : Nat} (hi : i < M.length) (r : Rc) : (M.set i r).take (i + 1) = M.take i ++ [r]:=by
 rw [List.take_add_one,List.take_set_of_le (Nat.le_refl i),List.getElem?_set_self hi]
 rfl
set_option maxHeartbeats 8000000 in
theorem rc_delete (w : World) (base : Nat) (a : Option Addr) (n c : Nat) (L : List Rc) (bx t : Nat) (h : Rcs w base (.slice a n c) L) (hb : Blk w bx #[.int .i64 (t : Int)] 3) (hl : L.length ≤ 1000000) :
  Calls Tryz.prog 81 #[.slice a n c,.func (.func 82) #[] #[.pointer (some ⟨bx,0,none⟩)]] w fun e w' => Hid (∃ m,e = .returned (.slice a m c) ∧ Rcs w' base (.slice a m c) (keepR t L)) ∧ Hid (w.grownBy w' (Value.slice a n c).ownBlock):=by
 have hidx:=rc_index w base a n c L bx t h hb hl
 have hn : n = L.length:=by obtain ⟨a',c',e⟩:=h.val;cases e;rfl
 have HR : Hid (Rcs w base (.slice a n c) L):=h
 have HBX : Hid (Blk w bx #[.int .i64 (t : Int)] 3):=hb
 have HN : Hid (n = L.length):=hn
 have hn' : n ≤ 1000000:=by omega
 clear h hb hl hn
 go_enter Tryz.func81,Tryz.ntmps81
 go_wp2_with fail
 refine hidx.mono ?_
 rintro e w2 ⟨ht2,hb2⟩
 have HB2 : Hid (Below w.heap.size w w2):=hb2
 rcases ht2.out with ⟨i0,r0,rfl,hi0,htk,hpre⟩ | ⟨rfl,hall⟩
 ·have hi0n : i0 < n:=by rw [HN.out];exact (List.getElem?_eq_some_iff.1 hi0).1
  obtain ⟨gr,rfl,hgt⟩ : ∃ gr,a = some ⟨gr,0,none⟩ ∧ ∃ cs,w.heap[gr]? = some (.cells cs 44 (0,0)):=by
   rcases HR.out.row.2 with ⟨hv,hn0⟩ | ⟨gr,c',cur,hv,_,hg,_⟩
   ·have:=HN.out;omega
   ·simp only [Value.slice.injEq] at hv
    exact ⟨gr,hv.1,cur,hg⟩
  have HNC : Hid (n ≤ c ∧ c ≤ maxLen ∧ gr < w.heap.size):=by
   obtain ⟨cs,hg⟩:=hgt
   rcases HR.out.row.2 with ⟨hv,hn0⟩ | ⟨g',c',cur,hv,_,hg',h1,h2,_⟩
   ·cases hv
   ·simp only [Value.slice.injEq] at hv
    obtain ⟨_,hn2,rfl⟩:=hv
    exact ⟨by omega,h2,heap_lt hg⟩
  have HU8 : Hid (∀ cs fr,w.heap[gr]? ≠ some (.cells cs 5 fr)):=by
   obtain ⟨cs,hg⟩:=hgt
   intro cs' fr e
   rw [hg] at e
   simp only [Option.some.injEq,Obj.cells.injEq] at e
   exact absurd e.2.1 (by decide)
  have HBN : Hid (some bx ≠ some gr):=own_ne HR.out.row HBX.out (by decide)
  have HRR : Hid (Rrow w2 base gr n c L):=⟨HN.out.symm,by have:=HR.out.row;rw [← HN.out] at this;exact own_stay this (fun k hk => hb2.block k (this.lt k hk).2)⟩
  have HG2 : Hid (w.grownBy w2 (some gr)):=below_grown hb2 _
  have HPRE : Hid (L.take i0 = keepR t (L.take (i0 + 1))):=by
   (show _ = _)
   rw [List.take_add_one,hi0,Option.toList_some,keepR_snoc,if_neg (by omega),List.append_nil,keepR_all hpre]
  have hz : (((i0 : Nat) : Int) == -1) = false:=by rw [beq_eq_false_iff_ne];omega
  clear ht2 hb2 hidx hi0 htk hpre hgt
  go_wp2
  go_loopw [5,6,7] (fun t5 t6 _ wr => ∃ (i j : Nat) (M : List Rc),t5 = .int .i64 (i : Int) ∧ t6 = .int .i64 (j : Int) ∧ i < j ∧ j ≤ n ∧ Hid (M.take i = keepR t (L.take j)) ∧ Hid (M.drop j = L.drop j) ∧ Hid (Rrow wr base gr n c M) ∧ Hid (w.grownBy wr (some gr))) (fun _ t6 _ _ => n - (intOf t6).toNat)
  case atStart => exact ⟨i0,i0 + 1,L,rfl,by go_num,by omega,by omega,HPRE,rfl,HRR,HG2⟩
  case round =>
   clear HRR HG2 HPRE HB2
   obtain ⟨i,j,M,rfl,rfl,hij,hjn,HT,HD,HRR,HG⟩:=hrel
   obtain ⟨w3,rfl⟩ : ∃ w3,w3 = wr:=⟨wr,rfl⟩
   by_cases hlt : j < n
   ·have hlt' : (j : Int) < (n : Int):=by omega
    have gj : (0 : Int) ≤ (j : Int):=by omega
    have gi : (0 : Int) ≤ (i : Int):=by omega
    have hin : (i : Int) < (n : Int):=by omega
    obtain ⟨r,hr⟩ : ∃ r,L[j]? = some r:=⟨_,List.getElem?_eq_getElem (by have:=HN.out;omega)⟩
    have HRI : Hid (L[j]? = some r):=hr
    obtain ⟨x0,x1,_,_⟩:=HRR.out.cell (j:=j) (r:=r) (by rw [drop_get HD.out];exact hr)
    obtain ⟨tk,ra,rn,rc,rb⟩:=r
    simp only at x0 x1
    obtain ⟨W4,HW4⟩ : ∃ W,Hid (W = w3.alloc (.cells #[.int .i64 (tk : Int),.slice ra rn rc] 44)):=⟨_,rfl⟩
    obtain ⟨vb,HVB⟩ : ∃ vb,Hid (vb = w3.heap.size):=⟨_,rfl⟩
    have HB4 : Hid (Below w3.heap.size w3 W4):=by (show Below _ _ _);rw [HW4.out];exact below_alloc _ _
    have HV4 : Hid (Blk W4 vb #[.int .i64 (tk : Int),.slice ra rn rc] 44):=by (show Blk _ _ _ _);rw [HW4.out,HVB.out];exact Blk.new _ _ _
    have HBX4 : Hid (Blk W4 bx #[.int .i64 (t : Int)] 3):=Blk.stay (Blk.grown HBX.out HG.out HBN.out) HB4.out
    obtain ⟨bb,HBB⟩ : ∃ bb,Hid (decide (tk ≤ t) = bb):=⟨_,rfl⟩
    have HCL : Hid (Calls Tryz.prog 82 #[.agg #[.int .i64 (tk : Int),.slice ra rn rc],.pointer (some ⟨bx,0,none⟩)] W4 fun e w' => e = .returned (.bool bb) ∧ Below W4.heap.size W4 w'):=by
     have:=rel_one W4 bx t ⟨tk,ra,rn,rc,rb⟩ HBX4.out
     rw [show decide ((⟨tk,ra,rn,rc,rb⟩ : Rc).tick ≤ t) = bb from HBB.out] at this
     exact this
    clear hr
    go_upto_region 8 with fail
    rw [← HW4.out,← HVB.out]
    have v0 : W4.cell? ⟨vb,0,none⟩ = some (.int .i64 (tk : Int)):=HV4.out.cell 0 rfl
    have v1 : W4.cell? ⟨vb,1,none⟩ = some (.slice ra rn rc):=HV4.out.cell 1 rfl
    clear x0 x1
    go_wp2_with fail
    refine HCL.out.mono ?_
    rintro e w5 ⟨rfl,hb5⟩
    have HB5 : Hid (Below w3.heap.size w3 w5):=HB4.out.trans (hb5.mono HB4.out.size)
    have HV5 : Hid (Blk w5 vb #[.int .i64 (tk : Int),.slice ra rn rc] 44):=HV4.out.stay hb5
    have HR5 : Hid (Rrow w5 base gr n c M):=HRR.out.grow_ HB5.out
    have HG5 : Hid (w.grownBy w5 (some gr)):=grown_trans HG.out (below_grown HB5.out _)
    clear hb5 v0 v1
    cases bb with
    | true =>
     have hbb:=HBB.out
     have HT2 : Hid (M.take i = keepR t (L.take (j + 1))):=by
      have h1 : tk ≤ t:=of_decide_eq_true hbb
      (show _ = _)
      rw [List.take_add_one,HRI.out,Option.toList_some,keepR_snoc,if_neg (by show ¬ t < tk;omega),List.append_nil]
      exact HT.out
     clear hbb
     go_wp2
     go_roundw
     case rel => exact ⟨i,j + 1,M,rfl,by go_num,by omega,by omega,HT2,drop_next HD.out,HR5,HG5⟩
     case measure => simp [intOf];omega
    | false =>
     have hbb:=HBB.out
     have HML : Hid (M.length = n):=HRR.out.1
     have HT2 : Hid ((M.set i ⟨tk,ra,rn,rc,rb⟩).take (i + 1) = keepR t (L.take (j + 1))):=by
      have h1 : ¬ tk ≤ t:=of_decide_eq_false hbb
      (show _ = _)
      rw [take_set_snoc (by rw [HML.out];omega),List.take_add_one,HRI.out,Option.toList_some,keepR_snoc,if_pos (by show t < tk;omega),HT.out]
     have HD2 : Hid ((M.set i ⟨tk,ra,rn,rc,rb⟩).drop (j + 1) = L.drop (j + 1)):=by
      (show _ = _)
      rw [List.drop_set_of_lt (by omega)]
      exact drop_next HD.out
     have HR6 : Hid (Rrow ((w5.setCell ⟨gr,i * 2,none⟩ (.int .i64 (tk : Int))).setCell ⟨gr,i * 2 + 1,none⟩ (.slice ra rn rc)) base gr n c (M.set i ⟨tk,ra,rn,rc,rb⟩)):=HR5.out.set (by omega) ⟨tk,ra,rn,rc,rb⟩
     have HG6 : Hid (w.grownBy ((w5.setCell ⟨gr,i * 2,none⟩ (.int .i64 (tk : Int))).setCell ⟨gr,i * 2 + 1,none⟩ (.slice ra rn rc)) (some gr)):=grown_trans (grown_trans HG5.out (grown_cell _ _ _ _)) (grown_cell _ _ _ _)
     obtain ⟨r',hr'⟩ : ∃ r,M[i]? = some r:=⟨_,List.getElem?_eq_getElem (by rw [HML.out];omega)⟩
     obtain ⟨y0,y1,f0,f1⟩:=HR5.out.cell hr'
     have v0 : w5.cell? ⟨vb,0,none⟩ = some (.int .i64 (tk : Int)):=HV5.out.cell 0 rfl
     have v1 : w5.cell? ⟨vb,1,none⟩ = some (.slice ra rn rc):=HV5.out.cell 1 rfl
     clear hbb hr'
     go_wp2
     go_roundw
     case rel => exact ⟨i + 1,j + 1,M.set i ⟨tk,ra,rn,rc,rb⟩,by go_num,by go_num,by omega,by omega,HT2,HD2,HR6,HG6⟩
     case measure => simp [intOf];omega
   ·obtain rfl : j = n:=by omega
    have hlt' : ¬ (j : Int) < (j : Int):=by omega
    have hlj : ¬ j < j:=by omega
    have gi : (0 : Int) ≤ (i : Int):=by omega
    have hij' : (i : Int) ≤ (j : Int):=by omega
    have hnc:=HNC.out.1
    have hic : ¬ c = i:=by omega
    have hic2 : (i : Int) ≤ (c : Int):=by omega
    have HK : Hid (M.take i = keepR t L):=by (show _ = _);rw [HT.out,HN.out,List.take_length]
    have HML : Hid (M.length = j):=HRR.out.1
    have hcl:=clear_recs w3 gr (i * 2) (j - i) (c - i) (fun k hk => by
     have h1:=HRR.out.2.cellAt (i * 2 + k) (by omega)
     rw [h1,List.getElem?_eq_getElem (by rw [HRR.out.2.1];omega)]
     rfl) (fun k hk => by
     rcases HRR.out.2.2 with ⟨h1,_⟩ | ⟨k',c',cur,h1,hb,h3,_⟩
     ·cases h1
     ·simp only [Value.slice.injEq,Option.some.injEq,Addr.mk.injEq,and_true] at h1
      rw [h1.1]
      exact frozen_of_row w3 k' _ cur _ h3)
    have HF : Hid (Rcs (w3.setCells gr (i * 2) (zcs (j - i))) base (.slice (some ⟨gr,0,none⟩) i c) (keepR t L)):=by
     have hlen : (keepR t L).length = i:=by rw [← HK.out,List.length_take,HML.out];omega
     have h1:=own_front HRR.out.2 (i:=i) (by omega)
     rw [rflat_take,HK.out] at h1
     refine ⟨by rw [hlen];exact setCells_past _ _ _ h1 (Nat.le_refl _),fun r hr => ?_⟩
     exact (HR.out.bd r (List.mem_filter.1 (show r ∈ L.filter _ from hr)).1).grow_ (grown_trans HG.out (setCells_grown _ _ _ _)) HU8.out
    have HGF : Hid (w.grownBy (w3.setCells gr (i * 2) (zcs (j - i))) (some gr)):=grown_trans HG.out (setCells_grown _ _ _ _)
    go_wp2
    go_returns
    exact ⟨⟨i,rfl,HF.out⟩,HGF.out⟩
 ·have HALL : Hid (∀ x ∈ L,t < x.tick):=hall
  clear ht2 hb2 hidx hall
  go_wp2
  go_returns
  exact ⟨⟨n,rfl,by rw [keepR_all HALL.out];exact HR.out.below HB2.out⟩,below_grown HB2.out _⟩
end Go.Proofs.YtghajmcohdedlaaGreat

namespace Go.Proofs.YtghajmcohdedlaaGreat
open Go.RowKit
set_option maxRecDepth 100000
structure Frm (S : Nat → Prop) (w w' : World) : Prop where
 os : w'.os = w.os
 tape : w'.tape = w.tape
 output : w'.output = w.output
 size : w.heap.size ≤ w'.heap.size
 block : ∀ k,k < w.heap.size → ¬ S k → w'.heap[k]? = w.heap[k]?
theorem Frm.refl (S : Nat → Prop) (w : World) : Frm S w w:=⟨rfl,rfl,rfl,Nat.le_refl _,fun _ _ _ => rfl⟩
theorem Frm.trans {S : Nat → Prop} {w w1 w2 : World} (a : Frm S w w1) (b : Frm S w1 w2) : Frm S w w2:=⟨b.os.trans a.os,b.tape.trans a.tape,b.output.trans a.output,Nat.le_trans a.size b.size,fun k hk hs => (b.block k (Nat.lt_of_lt_of_le hk a.size) hs).trans (a.block k hk hs)⟩
theorem Frm.then_ {S S' : Nat → Prop} {w w1 w2 : World} (a : Frm S w w1) (b : Frm S' w1 w2) (hs : ∀ k,k < w.heap.size → S' k → S k) : Frm S w w2:=⟨b.os.trans a.os,b.tape.trans a.tape,b.output.trans a.output,Nat.le_trans a.size b.size,fun k hk h => (b.block k (Nat.lt_of_lt_of_le hk a.size) (fun h2 => h (hs k hk h2))).trans (a.block k hk h)⟩
theorem Frm.of_below (S : Nat → Prop) {w w' : World} (h : Below w.heap.size w w') : Frm S w w':=⟨h.os,h.tape,h.output,h.size,fun k hk _ => h.block k hk⟩
theorem Frm.of_grown {S : Nat → Prop} {w w' : World} {r : Option Nat} (h : w.grownBy w' r) (hr : ∀ k,some k = r → S k) : Frm S w w':=⟨h.os,h.tape,h.output,h.size,fun k hk hs => h.block k hk fun e => hs (hr k e)⟩
theorem Frm.set {S : Nat → Prop} {w w' : World} (a : Frm S w w') {g : Nat} (hg : S g) (i : Nat) (v : Value) : Frm S w (w'.setCell ⟨g,i,none⟩ v):=⟨a.os,a.tape,a.output,by rw [World.size_setCell];exact a.size,fun k hk hs => (heap_setCell_other w' ⟨g,i,none⟩ k v (by rintro rfl;exact hs hg)).trans (a.block k hk hs)⟩
theorem Frm.mono {S S' : Nat → Prop} {w w' : World} (a : Frm S w w') (h : ∀ k,k < w.heap.size → S k → S' k) : Frm S' w w':=⟨a.os,a.tape,a.output,a.size,fun k hk hs => a.block k hk fun h2 => hs (h k hk h2)⟩
theorem Frm.blk {S : Nat → Prop} {w w' : World} (a : Frm S w w') {g : Nat} {cs : Array Value} {t : TypeId} (h : Blk w g cs t) (hs : ¬ S g) : Blk w' g cs t:=by
 have:=a.block g (Blk.lt h) hs
 exact this.trans h
theorem Frm.below {S : Nat → Prop} {w w' : World} {B : Nat} (a : Frm S w w') (hB : B ≤ w.heap.size) (hs : ∀ k,S k → B ≤ k) : Below B w w':=⟨a.os,a.tape,a.output,a.size,fun k hk => a.block k (Nat.lt_of_lt_of_le hk hB) fun h => by have:=hs k h;omega⟩
set_option maxHeartbeats 4000000 in
theorem evl_releaseG (w : World) (base bd g gs : Nat) (wv : Value) (D : Dk) (gl gc b m ag : Nat) (U : List Sg) (uv : Value) (hi rel : Nat) (L : List Rc) (rv : Value) (t : Nat) (h : LgG w base bd g gs wv D gl gc b m ag U uv hi rel L rv) (hl : L.length ≤ 1000000) :
  Calls Tryz.prog 47 #[.pointer (some ⟨gl,0,none⟩),.int .i64 (t : Int)] w fun e w' => e = .returned (.tuple #[]) ∧ Hid (∃ rv',LgG w' base bd g gs wv D gl gc b m ag U uv hi t (keepR t L) rv' ∧ rv'.ownBlock = rv.ownBlock) ∧ Hid (Frm (fun k => k = gl ∨ some k = rv.ownBlock) w w'):=by
 obtain ⟨ar,cr,hrv⟩:=h.recs.val
 subst hrv
 obtain ⟨W1,HW1⟩ : ∃ W1,Hid (W1 = w.alloc (.cells #[.int .i64 (t : Int)] 3)):=⟨_,rfl⟩
 have HBW : Hid (Below w.heap.size w W1):=by (show Below _ _ _);rw [HW1.out];exact below_alloc _ _
 have HX1 : Hid (Blk W1 w.heap.size #[.int .i64 (t : Int)] 3):=by (show Blk _ _ _ _);rw [HW1.out];exact Blk.new _ _ _
 have HG1 : Hid (LgG W1 base bd g gs wv D gl gc b m ag U uv hi rel L (.slice ar L.length cr)):=h.below HBW.out
 obtain ⟨p1,p2,p3,p4,p5,p6⟩:=HG1.out.put 7 (.int .i64 (t : Int))
 have HG2 : Hid (LgG (W1.setCell ⟨gl,7,none⟩ (.int .i64 (t : Int))) base bd g gs wv D gl gc b m ag U uv hi t L (.slice ar L.length cr)):=⟨p1,Blk.set HG1.out.log 7 _,p2,p3,p4,HG1.out.bl⟩
 have HF2 : Hid (Frm (fun k => k = gl ∨ some k = (Value.slice ar L.length cr).ownBlock) w (W1.setCell ⟨gl,7,none⟩ (.int .i64 (t : Int)))):=(Frm.of_below _ HBW.out).set (.inl rfl) 7 _
 have HX2 : Hid (Blk (W1.setCell ⟨gl,7,none⟩ (.int .i64 (t : Int))) w.heap.size #[.int .i64 (t : Int)] 3):=p5.keep HX1.out (by decide) (by decide) (by decide)
 have b0 : W1.cell? ⟨w.heap.size,0,none⟩ = some (.int .i64 (t : Int)):=HX1.out.cell 0 rfl
 have c7 : W1.cell? ⟨gl,7,none⟩ = some (.int .i64 (rel : Int)):=Blk.cell HG1.out.log 7 rfl
 have f7 : W1.frozen? ⟨gl,7,none⟩ = false:=Blk.free HG1.out.log 7
 obtain ⟨W2,HW2⟩ : ∃ W2,Hid (W2 = W1.setCell ⟨gl,7,none⟩ (.int .i64 (t : Int))):=⟨_,rfl⟩
 rw [← HW2.out] at HG2 HF2 HX2
 have c8 : W2.cell? ⟨gl,8,none⟩ = some (.slice ar L.length cr):=Blk.cell HG2.out.log 8 rfl
 clear p1 p2 p3 p4 p5 p6 h
 go_enter Tryz.func47,Tryz.ntmps47
 go_upto_region 1 with fail
 rw [← HW1.out]
 go_upto_region 2 with fail
 rw [← HW2.out]
 go_wp2_with fail
 refine (rc_delete W2 base ar L.length cr L w.heap.size t HG2.out.recs HX2.out hl).mono ?_
 rintro e w3 ⟨h3,hg3⟩
 obtain ⟨m3,rfl,hr3⟩:=h3.out
 have HK3 : Hid (Kt W2 w3):=(Kt.refl W2).grown HG2.out.recs.row (.inr (.inr rfl)) hg3.out
 obtain ⟨q1,q2,q3⟩:=HG2.out.rec_ hr3 hg3.out HK3.out
 have HG4 : Hid (LgG (w3.setCell ⟨gl,8,none⟩ (.slice ar m3 cr)) base bd g gs wv D gl gc b m ag U uv hi t (keepR t L) (.slice ar m3 cr)):=q1
 have HF4 : Hid (Frm (fun k => k = gl ∨ some k = (Value.slice ar L.length cr).ownBlock) w (w3.setCell ⟨gl,8,none⟩ (.slice ar m3 cr))):=(HF2.out.trans (Frm.of_grown hg3.out (fun k hk => .inr hk))).set (.inl rfl) 8 _
 have d8 : w3.cell? ⟨gl,8,none⟩ = some (.slice ar L.length cr):=Blk.cell q3 8 rfl
 have f8 : w3.frozen? ⟨gl,8,none⟩ = false:=Blk.free q3 8
 have HOB : Hid ((Value.slice ar m3 cr).ownBlock = (Value.slice ar L.length cr).ownBlock):=by (show _ = _);cases ar <;> rfl
 clear q1 q2 q3 h3 hr3 hg3 c8 b0 c7 f7
 go_wp2
 go_returns
 exact ⟨rfl,⟨_,HG4.out,HOB.out⟩,HF4⟩
end Go.Proofs.YtghajmcohdedlaaGreat

namespace Go.Proofs.YtghajmcohdedlaaGreat
open Go.RowKit
def zSg : Sg:=⟨0,0,0,0⟩
def swapG (l : List Sg) (j : Nat) : List Sg:=(l.set (j + 1) (l.getD j zSg)).set j (l.getD (j + 1) zSg)
def insG : Nat → List Sg → List Sg
 | 0,l => l
 | j + 1,l => if (l.getD (j + 1) zSg).num < (l.getD j zSg).num then insG j (swapG l j) else l
def outG : List Nat → List Sg → List Sg
 | [],l => l
 | i :: is,l => outG is (insG i l)
def sortG (l : List Sg) : List Sg:=outG (List.range' 1 (l.length - 1)) l
theorem swapG_len (l : List Sg) (j : Nat) : (swapG l j).length = l.length:=by unfold swapG;rw [List.length_set,List.length_set]
theorem insG_len : ∀ (j : Nat) (l : List Sg),(insG j l).length = l.length
 | 0,l => rfl
 | j + 1,l => by
  rw [insG]
  split
  ·rw [insG_len j,swapG_len]
  ·rfl
theorem outG_len : ∀ (is : List Nat) (l : List Sg),(outG is l).length = l.length
 | [],l => rfl
 | i :: is,l => by rw [outG,outG_len is,insG_len]
theorem sortG_len (l : List Sg) : (sortG l).length = l.length:=outG_len _ _
theorem swapG_mem {l : List Sg} {j : Nat} (hj : j + 1 < l.length) : ∀ x ∈ swapG l j,x ∈ l:=by
 intro x hx
 have g1 : l.getD j zSg ∈ l:=by rw [List.getD_eq_getElem?_getD,List.getElem?_eq_getElem (by omega : j < l.length)];exact List.getElem_mem _
 have g2 : l.getD (j + 1) zSg ∈ l:=by rw [List.getD_eq_getElem?_getD,List.getElem?_eq_getElem hj];exact List.getElem_mem _
 rcases List.mem_or_eq_of_mem_set hx with hx | rfl
 ·rcases List.mem_or_eq_of_mem_set hx with hx | rfl
  ·exact hx
  ·exact g1
 ·exact g2
theorem insG_mem : ∀ (j : Nat) (l : List Sg),j < l.length → ∀ x ∈ insG j l,x ∈ l
 | 0,l,_,x,hx => hx
 | j + 1,l,hj,x,hx => by
  rw [insG] at hx
  split at hx
  ·exact swapG_mem hj x (insG_mem j _ (by rw [swapG_len];omega) x hx)
  ·exact hx
theorem outG_mem : ∀ (is : List Nat) (l : List Sg),(∀ i ∈ is,i < l.length) → ∀ x ∈ outG is l,x ∈ l
 | [],l,_,x,hx => hx
 | i :: is,l,h,x,hx => insG_mem i l (h i (List.mem_cons_self ..)) x (outG_mem is _ (fun k hk => by rw [insG_len];exact h k (List.mem_cons_of_mem _ hk)) x hx)
theorem sortG_mem (l : List Sg) : ∀ x ∈ sortG l,x ∈ l:=outG_mem _ l fun i hi => by
 obtain ⟨h1,h2⟩:=List.mem_range'_1.1 hi
 omega
theorem getD_app {l : List Sg} (r : List Sg) {j : Nat} (h : j < l.length) : (l ++ r).getD j zSg = l.getD j zSg:=by
 rw [List.getD_eq_getElem?_getD,List.getD_eq_getElem?_getD,List.getElem?_append_left h]
theorem swapG_app (l r : List Sg) {j : Nat} (h : j + 1 < l.length) : swapG (l ++ r) j = swapG l j ++ r:=by
 unfold swapG
 rw [getD_app r h,getD_app r (by omega : j < l.length),List.set_append_left _ _ (by omega),List.set_append_left _ _ (by rw [List.length_set];omega)]
theorem insG_app : ∀ (j : Nat) (l r : List Sg),j < l.length → insG j (l ++ r) = insG j l ++ r
 | 0,l,r,_ => rfl
 | j + 1,l,r,h => by
  rw [insG,insG,getD_app r h,getD_app r (by omega : j < l.length),swapG_app l r h]
  split
  ·exact insG_app j _ r (by rw [swapG_len];omega)
  ·rfl
theorem outG_app : ∀ (is : List Nat) (l r : List Sg),(∀ i ∈ is,i < l.length) → outG is (l ++ r) = outG is l ++ r
 | [],l,r,_ => rfl
 | i :: is,l,r,h => by
  rw [outG,outG,insG_app i l r (h i (List.mem_cons_self ..))]
  exact outG_app is _ r fun k hk => by rw [insG_len];exact h k (List.mem_cons_of_mem _ hk)
theorem outG_snoc : ∀ (is : List Nat) (k : Nat) (l : List Sg),outG (is ++ [k]) l = insG k (outG is l)
 | [],k,l => rfl
 | i :: is,k,l => by rw [List.cons_append,outG,outG,outG_snoc is k]
theorem sortG_snoc (l : List Sg) (s : Sg) : sortG (l ++ [s]) = insG l.length (sortG l ++ [s]):=by
 unfold sortG
 rw [List.length_append]
 cases l with
 | nil => rfl
 | cons x l =>
  have e : List.range' 1 ((x :: l).length + [s].length - 1) = List.range' 1 ((x :: l).length - 1) ++ [(x :: l).length]:=by
   have h:=List.range'_concat (s:=1) (n:=(x :: l).length - 1) (step:=1)
   rw [show (x :: l).length + [s].length - 1 = (x :: l).length - 1 + 1 from by simp,h]
   simp
   omega
  rw [e,outG_snoc,outG_app]
  intro i hi
  obtain ⟨h1,h2⟩:=List.mem_range'_1.1 hi
  omega
theorem flat_set4 : ∀ (L : List Sg) (j : Nat) (s : Sg),j < L.length → ((((L.flatMap sgc).set (j * 4) (.int .i64 (s.at_ : Int))).set (j * 4 + 1) (.int .i64 (s.num : Int))).set (j * 4 + 2) (.int .i64 (s.high : Int))).set (j * 4 + 3) (.int .i64 (s.en : Int)) = (L.set j s).flatMap sgc
 | [],j,s,h => by simp at h
 | x :: L,0,s,h => by simp [sgc]
 | x :: L,j + 1,s,h => by
  have ih:=flat_set4 L j s (by simpa using h)
  rw [List.flatMap_cons,List.set_cons_succ,List.flatMap_cons,← ih]
  have hl : (sgc x).length = 4:=rfl
  rw [List.set_append_right _ _ (by rw [hl];omega),List.set_append_right _ _ (by rw [hl];omega),List.set_append_right _ _ (by rw [hl];omega),List.set_append_right _ _ (by rw [hl];omega),hl]
  rw [show (j + 1) * 4 - 4 = j * 4 from by omega,show (j + 1) * 4 + 1 - 4 = j * 4 + 1 from by omega,show (j + 1) * 4 + 2 - 4 = j * 4 + 2 from by omega,show (j + 1) * 4 + 3 - 4 = j * 4 + 3 from by omega]
theorem flat_get4 : ∀ (L : List Sg) (j k : Nat),j < L.length → k < 4 → (L.flatMap sgc)[j * 4 + k]? = (sgc (L.getD j zSg))[k]?
 | [],j,k,h,_ => by simp at h
 | x :: L,0,k,h,hk => by
  rw [List.flatMap_cons,Nat.zero_mul,Nat.zero_add,List.getElem?_append_left (by show k < 4;exact hk)]
  rfl
 | x :: L,j + 1,k,h,hk => by
  have ih:=flat_get4 L j k (by simpa using h) hk
  rw [List.flatMap_cons,List.getElem?_append_right (by show 4 ≤ _;omega),show (j + 1) * 4 + k - (sgc x).length = j * 4 + k from by show _ - 4 = _;omega,ih]
  rfl
def set4 (w : World) (g o : Nat) (s : Sg) : World:=(((w.setCell ⟨g,o,none⟩ (.int .i64 (s.at_ : Int))).setCell ⟨g,o + 1,none⟩ (.int .i64 (s.num : Int))).setCell ⟨g,o + 2,none⟩ (.int .i64 (s.high : Int))).setCell ⟨g,o + 3,none⟩ (.int .i64 (s.en : Int))
theorem Sgs.set {w : World} {base kb n c : Nat} {l : List Sg} (h : Sgs w base (.slice (some ⟨kb,0,none⟩) n c) l) {j : Nat} (hj : j < l.length) (s : Sg) : Sgs (set4 w kb (j * 4) s) base (.slice (some ⟨kb,0,none⟩) n c) (l.set j s):=by
 have hn : n = l.length:=by obtain ⟨a,c',e⟩:=h.val;cases e;rfl
 subst hn
 have h1:=(World.ownsRow.stored h (j * 4) (.int .i64 (s.at_ : Int))).1
 have h2:=(h1.stored (j * 4 + 1) (.int .i64 (s.num : Int))).1
 have h3:=(h2.stored (j * 4 + 2) (.int .i64 (s.high : Int))).1
 have h4:=(h3.stored (j * 4 + 3) (.int .i64 (s.en : Int))).1
 rw [flat_set4 l j s hj] at h4
 unfold Sgs
 rw [List.length_set]
 exact h4
theorem Sgs.cellg {w : World} {base kb n c : Nat} {l : List Sg} (h : Sgs w base (.slice (some ⟨kb,0,none⟩) n c) l) {j k : Nat} (hj : j < l.length) (hk : k < 4) : w.cell? ⟨kb,j * 4 + k,none⟩ = (sgc (l.getD j zSg))[k]?:=by
 have hn : n = l.length:=by obtain ⟨a,c',e⟩:=h.val;cases e;rfl
 subst hn
 rw [World.ownsRow.cellAt h (j * 4 + k) (by omega)]
 exact flat_get4 l j k hj hk
theorem Sgs.freeg {w : World} {base kb n c : Nat} {l : List Sg} (h : Sgs w base (.slice (some ⟨kb,0,none⟩) n c) l) (i : Nat) : w.frozen? ⟨kb,i,none⟩ = false ∧ base ≤ kb ∧ kb < w.heap.size:=by
 rcases h.2 with ⟨h1,_⟩ | ⟨k,c',cur,h1,hb,h3,_⟩
 ·cases h1
 ·simp only [Value.slice.injEq,Option.some.injEq,Addr.mk.injEq,and_true] at h1
  rw [h1.1]
  exact ⟨frozen_of_row w k i cur _ h3,hb,heap_lt h3⟩
theorem below_set4 {B : Nat} {w w' : World} (h : Below B w w') {g o : Nat} (hg : B ≤ g) (s : Sg) : Below B w (set4 w' g o s):=(((h.setCell (p:=⟨g,o,none⟩) hg _).setCell (p:=⟨g,o + 1,none⟩) hg _).setCell (p:=⟨g,o + 2,none⟩) hg _).setCell (p:=⟨g,o + 3,none⟩) hg _
def cmpG (x y : Int) : Int:=if x < y then -1 else if y < x then 1 else 0
theorem cmp_nan64 (w : World) (x : Int) : Calls Tryz.prog 116 #[.int .i64 x] w fun e w' => e = .returned (.bool false) ∧ w' = w:=by
 have q : (x != x) = false:=by simp
 go_enter Tryz.func116,Tryz.ntmps116
 go_wp2
 go_ret
 exact ⟨by simp,rfl⟩
set_option maxHeartbeats 2000000 in
theorem cmp_Compare64 (w : World) (x y : Int) : Calls Tryz.prog 105 #[.int .i64 x,.int .i64 y] w fun e w' => e = .returned (.int .i64 (cmpG x y)) ∧ w' = w:=by
 obtain ⟨R,HR⟩ : ∃ R,Hid (R = cmpG x y):=⟨_,rfl⟩
 rw [← HR.out]
 go_enter Tryz.func105,Tryz.ntmps105
 go_wp2_with fail
 refine (cmp_nan64 w x).mono ?_
 rintro e w1 ⟨he,hw1⟩
 subst he
 rw [hw1]
 clear hw1 w1
 go_wp2_with fail
 refine (cmp_nan64 w y).mono ?_
 rintro e w1 ⟨he,hw1⟩
 subst he
 rw [hw1]
 clear hw1 w1
 by_cases h1 : x < y
 ·have HE : Hid (R = -1):=by (show _ = _);rw [HR.out];unfold cmpG;rw [if_pos h1]
  go_wp2
  go_ret
  exact ⟨by rw [HE.out];rfl,rfl⟩
 ·by_cases h2 : y < x
  ·have HE : Hid (R = 1):=by (show _ = _);rw [HR.out];unfold cmpG;rw [if_neg h1,if_pos h2]
   go_wp2
   go_ret
   exact ⟨by rw [HE.out];rfl,rfl⟩
  ·have HE : Hid (R = 0):=by (show _ = _);rw [HR.out];unfold cmpG;rw [if_neg h1,if_neg h2]
   go_wp2
   go_ret
   exact ⟨by rw [HE.out];rfl,rfl⟩
set_option maxHeartbeats 2000000 in
theorem sg_cmp (w : World) (x y : Sg) : Calls Tryz.prog 104 #[.agg #[.int .i64 (x.at_ : Int),.int .i64 (x.num : Int),.int .i64 (x.high : Int),.int .i64 (x.en : Int)],.agg #[.int .i64 (y.at_ : Int),.int .i64 (y.num : Int),.int .i64 (y.high : Int),.int .i64 (y.en : Int)]] w fun e w' => e = .returned (.int .i64 (cmpG (x.num : Int) (y.num : Int))) ∧ Below w.heap.size w w':=by
 obtain ⟨R,HR⟩ : ∃ R,Hid (cmpG (x.num : Int) (y.num : Int) = R):=⟨_,rfl⟩
 rw [HR.out]
 obtain ⟨W1,HW1⟩ : ∃ W,Hid (W = (w.alloc (.cells #[.int .i64 (x.at_ : Int),.int .i64 (x.num : Int),.int .i64 (x.high : Int),.int .i64 (x.en : Int)] 88)).alloc (.cells #[.int .i64 (y.at_ : Int),.int .i64 (y.num : Int),.int .i64 (y.high : Int),.int .i64 (y.en : Int)] 88)):=⟨_,rfl⟩
 have HC : Hid (Calls Tryz.prog 105 #[.int .i64 (x.num : Int),.int .i64 (y.num : Int)] W1 fun e w' => e = .returned (.int .i64 R) ∧ w' = W1):=by
  have:=cmp_Compare64 W1 (x.num : Int) (y.num : Int)
  rw [HR.out] at this
  exact this
 have hs1 : (w.alloc (.cells #[.int .i64 (x.at_ : Int),.int .i64 (x.num : Int),.int .i64 (x.high : Int),.int .i64 (x.en : Int)] 88)).heap.size = w.heap.size + 1:=by simp
 have HB : Hid (Below w.heap.size w W1):=by (show Below _ _ _);rw [HW1.out];exact (below_alloc w _).alloc (by omega) _
 have c1 : W1.cell? ⟨w.heap.size,1,none⟩ = some (.int .i64 (x.num : Int)):=by rw [HW1.out];exact ((Blk.new w _ _).stay (below_alloc _ _)).cell 1 rfl
 have c2 : W1.cell? ⟨w.heap.size + 1,1,none⟩ = some (.int .i64 (y.num : Int)):=by rw [HW1.out,← hs1];exact (Blk.new _ _ _).cell 1 rfl
 clear hs1
 go_enter Tryz.func104,Tryz.ntmps104
 go_upto_region 1 with fail
 rw [← HW1.out]
 go_wp2_with fail
 refine HC.out.mono ?_
 rintro e w2 ⟨he,hw2⟩
 subst he
 rw [hw2]
 clear hw2 w2
 go_wp2
 go_ret
 exact ⟨rfl,HB.out⟩
end Go.Proofs.YtghajmcohdedlaaGreat
