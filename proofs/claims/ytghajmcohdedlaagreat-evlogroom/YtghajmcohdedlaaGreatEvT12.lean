import Derived.Test.YtghajmcohdedlaaGreatPk35
namespace Go.Proofs.YtghajmcohdedlaaGreat
open Go.RowKit
set_option maxRecDepth 100000
structure LrG (w : World) (base r q : Nat) (sv wv : Value) (SV WV : List Value) (D : Dk) (gl b m ag : Nat) (V : List Sg) (uv : Value) (hi rel : Nat) (L : List Rc) (rv : Value) : Prop where
 disk : Rk w base r q sv wv SV WV D
 log : Lr w gl r b m ag (hi : Int) (rel : Int) uv rv
 used : Rgs w base uv V
 recs : Rcs w base rv L
 bl : base ≤ gl
theorem LrG.below {w w' : World} {base r q : Nat} {sv wv : Value} {SV WV : List Value} {D : Dk} {gl b m ag : Nat} {V : List Sg} {uv : Value} {hi rel : Nat} {L : List Rc} {rv : Value} (h : LrG w base r q sv wv SV WV D gl b m ag V uv hi rel L rv) (hb : Below w.heap.size w w') : LrG w' base r q sv wv SV WV D gl b m ag V uv hi rel L rv :=
 ⟨h.disk.stay hb,h.log.stay hb,h.used.below hb,h.recs.below hb,h.bl⟩
theorem LrG.sz {w : World} {base r q : Nat} {sv wv : Value} {SV WV : List Value} {D : Dk} {gl b m ag : Nat} {V : List Sg} {uv : Value} {hi rel : Nat} {L : List Rc} {rv : Value} (h : LrG w base r q sv wv SV WV D gl b m ag V uv hi rel L rv) : base ≤ w.heap.size:=Nat.le_trans h.bl (Nat.le_of_lt (Blk.lt h.log))
def NewOwn (w : World) (v : Value) : Prop:=∀ k,v.ownBlock = some k → w.heap.size ≤ k
theorem NewOwn.oon {w w1 : World} {v v' : Value} (h : NewOwn w v) (hs : w.heap.size ≤ w1.heap.size) (ho : Oon w1 v v') : NewOwn w v':=fun k hk => (ho k hk).elim (h k) (fun h2 => Nat.le_trans hs h2)
theorem own_emptyE (w : World) (e : TypeId) (size : Nat) : (w.alloc (.cells #[] e)).ownsRow w.heap.size e size (.slice (some ⟨w.heap.size,0,none⟩) 0 0) 0 [] :=
 ⟨by simp,.inr ⟨w.heap.size,0,#[],rfl,Nat.le_refl _,Blk.new w #[] e,Nat.le_refl _,Nat.zero_le _,by simp,by simp⟩⟩
theorem wpList_append_rcA {w : World} {ops : Array Oper} {rest : List Oper} {o : Oper} {act : Act} {Q : Exit → Act → World → Prop} (hgd : o.guard = none) (s x : Operand)
  (ho : o.op = .call { callee:=.builtin .append,args:=#[s,x],argTypes:=#[41,41] })
  (base : Nat) (v : Value) (L : List Rc) (hs : act.eval s = v) (hown : Rcs w base v L) (k c : Nat) (p : Rc) (hx : act.eval x = .slice (some ⟨k,0,none⟩) 1 c)
  (hb : Blk w k (rcc p).toArray 44) (hp : Bd w base p.a p.n p.bs) (hl : L.length ≤ 1000000) (hbase : base ≤ w.heap.size)
  (h : ∀ v' w',Rcs w' base v' (L ++ [p]) → w.grownBy w' v.ownBlock → Kt w w' → Oon w v v' → wpList Tryz.prog ops Q rest (act.put o.dst v') w') : wpList Tryz.prog ops Q (o :: rest) act w:=by
 refine wpList_plain hgd fun K hK => ?_
 have:=step_append_rcA (ops:=ops) (o:=o) (act:=act) (K:=K) (Q:=Q) (E:=True) hgd s x ho base v L hs hown k c p hx hb hp hl hbase (fun v' w' h1 h2 h3 h4 => hK _ _ (h v' w' h1 h2 h3 h4))
 rwa [if_pos (by simp [Region.wanted,hgd])] at this
theorem Bd.stays {w w' : World} {B n : Nat} {a : Option Addr} {bs : List Nat} (h : Bd w B a n bs) (H : ∀ (k : Nat) cs fr,w.heap[k]? = some (.cells cs 5 fr) → w'.heap[k]? = some (.cells cs 5 fr)) : Bd w' B a n bs:=by
 rcases h.2 with h0 | ⟨g',off,cs,fr,rfl,hB,hb⟩
 ·exact ⟨⟨h.1.size,h.1.byte,.inl h0⟩,.inl h0⟩
 ·have hb':=H g' cs fr hb
  refine ⟨⟨h.1.size,h.1.byte,?_⟩,.inr ⟨g',off,cs,fr,rfl,hB,hb'⟩⟩
  rcases h.1.cells with h0 | ⟨g2,o,e,hg,hc⟩
  ·exact .inl h0
  ·cases e
   refine .inr ⟨g',off,rfl,heap_lt hb',fun i hi => ?_⟩
   have:=hc i hi
   rw [cell_of_row w g' (off + i) cs _ _ hb] at this
   rw [cell_of_row w' g' (off + i) cs _ _ hb']
   exact this
theorem Rgs.beside {w w' : World} {B B2 : Nat} {v v2 : Value} {K : List Sg} {M : List Rc} (h : Rgs w B v K) (hr : Rcs w B2 v2 M) (hg : w.grownBy w' v2.ownBlock) : Rgs w' B v K:=own_stay h fun k hk => by
 refine hg.block k (h.lt k hk).2 fun e => ?_
 rcases h.2 with ⟨a1,_⟩ | ⟨gr,cp,cur,a1,_,a3,_⟩
 ·rw [a1] at hk;cases hk
 ·rw [a1] at hk
  simp only [Value.ownBlock,Option.some.injEq] at hk
  subst hk
  exact own_ne hr.row (show Blk w gr cur 106 from a3) (by decide) e
theorem Rk.frm {w w' : World} {base r q : Nat} {sv wv : Value} {SV WV : List Value} {D : Dk} {S : Nat → Prop} (h : Rk w base r q sv wv SV WV D) (hf : Frm S w w') (hs : ∀ (k : Nat) cs t fr,S k → w.heap[k]? = some (.cells cs t fr) → t ≠ 66 ∧ t ≠ 27 ∧ t ≠ 101 ∧ t ≠ 5) : Rk w' base r q sv wv SV WV D:=h.move fun k cs t fr h1 h2 => by
 rw [hf.block k (heap_lt h1) (fun hk => by
  obtain ⟨n1,n2,n3,n4⟩:=hs k cs t fr hk h1
  rcases h2 with rfl | rfl | rfl | ⟨rfl,_⟩
  ·exact n1 rfl
  ·exact n2 rfl
  ·exact n3 rfl
  ·exact n4 rfl)]
 exact h1
theorem lr_type {w : World} {gl r b m ag : Nat} {hi rel : Int} {uv rv : Value} (h : Lr w gl r b m ag hi rel uv rv) {k : Nat} {cs : Array Value} {t : TypeId} {fr : Nat × Nat} (e : k = gl) (hk : w.heap[k]? = some (.cells cs t fr)) : t = 60:=by
 subst e
 have h3 : Blk w k _ 60:=h
 unfold Blk at h3
 rw [hk] at h3
 simp only [Option.some.injEq,Obj.cells.injEq] at h3
 exact h3.2.1
theorem lr_tells {w : World} {base r q : Nat} {sv wv : Value} {SV WV : List Value} {D : Dk} {gl b m ag : Nat} {hi0 rl0 : Int} {uv0 rv0 : Value} (hd : Rk w base r q sv wv SV WV D) (hl : Lr w gl r b m ag hi0 rl0 uv0 rv0) (hbl : base ≤ gl) {K : List Sg} {M : List Rc} {v4 v6 : Value} (hu : Rgs w base v4 K) (hr : Rcs w base v6 M) (hi rel : Nat) :
  LrG ((((w.setCell ⟨gl,4,none⟩ (.int .i64 (hi : Int))).setCell ⟨gl,5,none⟩ (.int .i64 (rel : Int))).setCell ⟨gl,6,none⟩ v4).setCell ⟨gl,7,none⟩ v6) base r q sv wv SV WV D gl b m ag K v4 hi rel M v6 ∧ Frm (fun k => k = gl) w ((((w.setCell ⟨gl,4,none⟩ (.int .i64 (hi : Int))).setCell ⟨gl,5,none⟩ (.int .i64 (rel : Int))).setCell ⟨gl,6,none⟩ v4).setCell ⟨gl,7,none⟩ v6):=by
 have hf : Frm (fun k => k = gl) w ((((w.setCell ⟨gl,4,none⟩ (.int .i64 (hi : Int))).setCell ⟨gl,5,none⟩ (.int .i64 (rel : Int))).setCell ⟨gl,6,none⟩ v4).setCell ⟨gl,7,none⟩ v6):=((((Frm.refl (fun k => k = gl) w).set rfl _ _).set rfl _ _).set rfl _ _).set rfl _ _
 refine ⟨⟨hd.frm hf (fun k cs t fr e hk => ?_),?_,own_stay hu (fun k hk => hf.block k (hu.lt k hk).2 (fun e => ?_)),⟨own_stay hr.row (fun k hk => hf.block k (hr.row.lt k hk).2 (fun e => ?_)),fun x hx => (hr.bd x hx).stays fun k cs fr hk => ?_⟩,hbl⟩,hf⟩
 ·rw [lr_type hl e hk]
  decide
 ·exact (((Blk.set hl 4 _).set 5 _).set 6 _).set 7 _
 ·subst e
  exact own_ne hu hl (by decide) hk.symm
 ·subst e
  exact own_ne hr.row hl (by decide) hk.symm
 ·rw [hf.block k (heap_lt hk) (fun e => absurd (lr_type hl e hk) (by decide))]
  exact hk
theorem keptR_last (t : Nat) (s : Sg) (r : List Sg) : keptR t (s :: r) = if r = [] ∨ t < s.high then s :: keptR t r else keptR t r:=rfl
set_option maxHeartbeats 16000000 in
theorem ref_keepG (w : World) (base r q : Nat) (sv wv : Value) (SV WV : List Value) (D : Dk) (gl b m ag : Nat) (V : List Sg) (uv : Value) (hi rl : Nat) (L : List Rc) (rv : Value) (t : Nat) (h : LrG w base r q sv wv SV WV D gl b m ag V uv hi rl L rv) (hu : V.length ≤ 16) (hl : L.length ≤ 100000) :
  Calls Tryz.prog 68 #[.pointer (some ⟨gl,0,none⟩),.int .i64 (t : Int)] w fun e w' => e = .returned (.tuple #[]) ∧ Hid (∃ uv' rv',LrG w' base r q sv wv SV WV D gl b m ag (keptR t V) uv' hi t (keepR t L) rv' ∧ NewOwn w uv' ∧ NewOwn w rv') ∧ Hid (Frm (fun k => k = gl) w w'):=by
 obtain ⟨au,cu,hv⟩:=h.used.val
 obtain ⟨ar,cr,hvr⟩:=h.recs.val
 obtain ⟨un,HUN⟩ : ∃ un,Hid (V.length = un):=⟨_,rfl⟩
 obtain ⟨rn,HRN⟩ : ∃ rn,Hid (L.length = rn):=⟨_,rfl⟩
 rw [HUN.out] at hv
 rw [HRN.out] at hvr
 subst hv hvr
 have hu16 : un ≤ 16:=by rw [← HUN.out];exact hu
 have hr16 : rn ≤ 100000:=by rw [← HRN.out];exact hl
 have HG : Hid (LrG w base r q sv wv SV WV D gl b m ag V (.slice au un cu) hi rl L (.slice ar rn cr)):=h
 obtain ⟨W1,HW1⟩ : ∃ W1,Hid (W1 = w.alloc (.cells #[] 106)):=⟨_,rfl⟩
 have HB1 : Hid (Below w.heap.size w W1):=by (show Below _ _ _);rw [HW1.out];exact below_alloc _ _
 have HO1 : Hid (Rgs W1 w.heap.size (.slice (some ⟨w.heap.size,0,none⟩) 0 0) []):=by (show Rgs _ _ _ _);rw [HW1.out];exact own_emptyE w _ 4
 clear h hu hl
 go_enter Tryz.func68,Tryz.ntmps68
 go_upto_region 1 with fail
 rw [← HW1.out]
 go_wp2_with fail
 go_loopw [4,5] (fun t4 t5 wr => ∃ (i : Nat) (K : List Sg) (a4 : Option Addr) (n4 c4 : Nat),i ≤ un ∧ t4 = .slice a4 n4 c4 ∧ t5 = .int .i64 (i : Int) ∧ Hid (keptR t V = K ++ keptR t (V.drop i)) ∧ Hid (K.length ≤ i) ∧ Hid (Rgs wr w.heap.size (.slice a4 n4 c4) K) ∧ Hid (Below w.heap.size w wr)) (fun _ t5 _ => 20 - (intOf t5).toNat)
 case atStart => exact ⟨0,[],_,0,0,Nat.zero_le _,rfl,rfl,rfl,Nat.le_refl _,HO1,HB1⟩
 case round =>
  obtain ⟨i,K,a4,n4,c4,hi1,rfl,rfl,HKE,HKI,HO,HB⟩:=hrel
  obtain ⟨w3,rfl⟩ : ∃ w3,w3 = wr:=⟨wr,rfl⟩
  have HGr : Hid (LrG w3 base r q sv wv SV WV D gl b m ag V (.slice au un cu) hi rl L (.slice ar rn cr)):=HG.out.below HB.out
  by_cases hlt : i < un
  ·have hlt' : (i : Int) < (un : Int):=by omega
   have g0 : (0 : Int) ≤ (i : Int):=by omega
   obtain ⟨kb,rfl⟩:=HGr.out.used.some_ (by intro e;have:=HUN.out;rw [e] at this;simp at this;omega)
   obtain ⟨s,hs⟩ : ∃ s,V[i]? = some s:=⟨_,List.getElem?_eq_getElem (by have:=HUN.out;omega)⟩
   have hdr : V.drop i = s :: V.drop (i + 1):=by
    have h1:=List.drop_eq_getElem_cons (l:=V) (i:=i) (by have:=HUN.out;omega)
    rw [h1,(List.getElem?_eq_some_iff.1 hs).2]
   have hsd : V.getD i zSg = s:=by rw [List.getD_eq_getElem?_getD,hs];rfl
   obtain ⟨x0,x1,x2,x3⟩:=HGr.out.used.facts (J:=i) (by have:=HUN.out;omega) hsd
   have hrg:=HGr.out.used.range (J:=i) (by have:=HUN.out;omega) hsd
   have HKE2 : Hid (keptR t V = K ++ keptR t (s :: V.drop (i + 1))):=by (show _ = _);rw [← hdr];exact HKE.out
   clear hs hdr hsd HKE
   obtain ⟨at_,num,sh,en⟩:=s
   simp only at x0 x1 x2 x3
   have HRG : Hid (w3.rangeAt kb (i * 4) [.int .i64 (at_ : Int),.int .i64 (num : Int),.int .i64 (en : Int),.int .i64 (sh : Int)]):=hrg
   clear hrg x0 x1 x2
   have c6 : w3.cell? ⟨gl,6,none⟩ = some (.slice (some ⟨kb,0,none⟩) un cu):=Blk.cell HGr.out.log 6 rfl
   obtain ⟨u1,HU1⟩ : ∃ u1,Hid (un = u1 + 1):=⟨un - 1,by (show _ = _);omega⟩
   have q1 : IntKind.i64.wrap ((un : Int) - 1) = (u1 : Int):=by rw [IntKind.wrap_i64];have:=HU1.out;omega
   have HRE : Hid (V.drop (i + 1) = [] ↔ i = u1):=by
    (show _ ↔ _)
    rw [List.drop_eq_nil_iff]
    have h1:=HU1.out
    have h2:=HUN.out
    omega
   have HKL : Hid (K.length ≤ 1000000):=by have:=HKI.out;(show _ ≤ _);omega
   by_cases hlast : i = u1
   ·have e1 : ((i : Int) == (u1 : Int)) = true:=by rw [hlast];simp
    have HKN : Hid (keptR t V = (K ++ [⟨at_,num,sh,en⟩]) ++ keptR t (V.drop (i + 1))):=by (show _ = _);rw [HKE2.out,keptR_last,if_pos (.inl (HRE.out.2 hlast)),List.append_assoc];rfl
    clear hlast x3
    have HX5 : Hid (Blk (w3.alloc (.cells #[.int .i64 (at_ : Int),.int .i64 (num : Int),.int .i64 (en : Int),.int .i64 (sh : Int)] 106)) w3.heap.size (rgc ⟨at_,num,sh,en⟩).toArray 106):=Blk.new _ _ _
    have HB5 : Hid (Below w3.heap.size w3 (w3.alloc (.cells #[.int .i64 (at_ : Int),.int .i64 (num : Int),.int .i64 (en : Int),.int .i64 (sh : Int)] 106))):=below_alloc _ _
    go_wp2_with (first | (guard_target =~ wpList _ _ _ (Oper.mk (some 49) _ _ _ _ _ :: _) _ _;refine wpList_load_mid rfl 106 (.tmp 48) rfl kb (i * 4) rfl [.int .i64 (at_ : Int),.int .i64 (num : Int),.int .i64 (en : Int),.int .i64 (sh : Int)] _ HRG.out Tryz.underlying106 rfl (by rfl) ?_) | (guard_target =~ wpList _ _ _ (Oper.mk (some 51) _ _ _ _ _ :: _) _ _;refine wpList_append_rg rfl (.tmp 41) (.tmp 50) rfl w.heap.size _ K rfl (HO.out.below HB5.out) w3.heap.size 1 ⟨at_,num,sh,en⟩ rfl HX5.out HKL.out (Nat.le_trans HB.out.size HB5.out.size) ?_;intro v5 w5 hs5 hg5 ho5;revert hs5 hg5 ho5))
    intro hs5 hg5 ho5
    have HB6 : Hid (Below w.heap.size w w5):=(HB.out.trans (HB5.out.mono HB.out.size)).grown hg5 (Nat.le_trans HB.out.size HB5.out.size) (fun j hj => (HO.out.lt j hj).1)
    obtain ⟨a5,c5,hv5⟩:=hs5.val
    subst hv5
    have HS5 : Hid (Rgs w5 w.heap.size (.slice a5 (K ++ [(⟨at_,num,sh,en⟩ : Sg)]).length c5) (K ++ [⟨at_,num,sh,en⟩])):=hs5
    clear hs5 hg5 ho5 c6
    go_wp2
    go_roundw
    case rel => exact ⟨i + 1,K ++ [⟨at_,num,sh,en⟩],a5,_,c5,by omega,rfl,by go_num,HKN,by have:=HKI.out;(show (K ++ [_]).length ≤ _);rw [List.length_append];(show K.length + 1 ≤ _);omega,HS5,HB6⟩
    case measure => simp [intOf];omega
   ·have e1 : ((i : Int) == (u1 : Int)) = false:=by rw [beq_eq_false_iff_ne];omega
    by_cases hth : t < sh
    ·have e2 : (t : Int) < (sh : Int):=by omega
     have e3 : decide ((t : Int) < (sh : Int)) = true:=decide_eq_true e2
     have HKN : Hid (keptR t V = (K ++ [⟨at_,num,sh,en⟩]) ++ keptR t (V.drop (i + 1))):=by (show _ = _);rw [HKE2.out,keptR_last,if_pos (.inr hth),List.append_assoc];rfl
     clear hlast hth
     have HX5 : Hid (Blk (w3.alloc (.cells #[.int .i64 (at_ : Int),.int .i64 (num : Int),.int .i64 (en : Int),.int .i64 (sh : Int)] 106)) w3.heap.size (rgc ⟨at_,num,sh,en⟩).toArray 106):=Blk.new _ _ _
     have HB5 : Hid (Below w3.heap.size w3 (w3.alloc (.cells #[.int .i64 (at_ : Int),.int .i64 (num : Int),.int .i64 (en : Int),.int .i64 (sh : Int)] 106))):=below_alloc _ _
     go_wp2_with (first | (guard_target =~ wpList _ _ _ (Oper.mk (some 49) _ _ _ _ _ :: _) _ _;refine wpList_load_mid rfl 106 (.tmp 48) rfl kb (i * 4) rfl [.int .i64 (at_ : Int),.int .i64 (num : Int),.int .i64 (en : Int),.int .i64 (sh : Int)] _ HRG.out Tryz.underlying106 rfl (by rfl) ?_) | (guard_target =~ wpList _ _ _ (Oper.mk (some 51) _ _ _ _ _ :: _) _ _;refine wpList_append_rg rfl (.tmp 41) (.tmp 50) rfl w.heap.size _ K rfl (HO.out.below HB5.out) w3.heap.size 1 ⟨at_,num,sh,en⟩ rfl HX5.out HKL.out (Nat.le_trans HB.out.size HB5.out.size) ?_;intro v5 w5 hs5 hg5 ho5;revert hs5 hg5 ho5))
     intro hs5 hg5 ho5
     have HB6 : Hid (Below w.heap.size w w5):=(HB.out.trans (HB5.out.mono HB.out.size)).grown hg5 (Nat.le_trans HB.out.size HB5.out.size) (fun j hj => (HO.out.lt j hj).1)
     obtain ⟨a5,c5,hv5⟩:=hs5.val
     subst hv5
     have HS5 : Hid (Rgs w5 w.heap.size (.slice a5 (K ++ [(⟨at_,num,sh,en⟩ : Sg)]).length c5) (K ++ [⟨at_,num,sh,en⟩])):=hs5
     clear hs5 hg5 ho5 c6
     go_wp2
     go_roundw
     case rel => exact ⟨i + 1,K ++ [⟨at_,num,sh,en⟩],a5,_,c5,by omega,rfl,by go_num,HKN,by have:=HKI.out;(show (K ++ [_]).length ≤ _);rw [List.length_append];(show K.length + 1 ≤ _);omega,HS5,HB6⟩
     case measure => simp [intOf];omega
    ·have e2 : ¬ (t : Int) < (sh : Int):=by omega
     have e3 : decide ((t : Int) < (sh : Int)) = false:=decide_eq_false e2
     have HKN : Hid (keptR t V = K ++ keptR t (V.drop (i + 1))):=by (show _ = _);rw [HKE2.out,keptR_last,if_neg (fun hh => hh.elim (fun h2 => hlast (HRE.out.1 h2)) hth)]
     clear hlast hth
     go_wp2
     go_roundw
     case rel => exact ⟨i + 1,K,a4,n4,c4,by omega,rfl,by go_num,HKN,by have:=HKI.out;(show _ ≤ _);omega,HO,HB⟩
     case measure => simp [intOf];omega
  ·have hlt' : ¬ (i : Int) < (un : Int):=by omega
   have HKN : Hid (keptR t V = K):=by (show _ = _);rw [HKE.out,List.drop_of_length_le (by have:=HUN.out;omega)];simp [keptR]
   have c6 : w3.cell? ⟨gl,6,none⟩ = some (.slice au un cu):=Blk.cell HGr.out.log 6 rfl
   obtain ⟨W4,HW4⟩ : ∃ W4,Hid (W4 = w3.alloc (.cells #[] 44)):=⟨_,rfl⟩
   have HX4 : Hid (Below w3.heap.size w3 W4):=by (show Below _ _ _);rw [HW4.out];exact below_alloc _ _
   have HB4 : Hid (Below w.heap.size w W4):=HB.out.trans (HX4.out.mono HB.out.size)
   have HO4 : Hid (Rgs W4 w.heap.size (.slice a4 n4 c4) K):=HO.out.below HX4.out
   have HR4 : Hid (Rcs W4 base (.slice (some ⟨w3.heap.size,0,none⟩) 0 0) []):=by
    (show Rcs _ _ _ _)
    rw [HW4.out]
    exact ⟨own_lower (own_emptyE w3 _ 2) HGr.out.sz,fun r hr => by cases hr⟩
   have HN4 : Hid (NewOwn w (.slice (some ⟨w3.heap.size,0,none⟩) 0 0)):=fun k hk => by simp only [Value.ownBlock,Option.some.injEq] at hk;have:=HB.out.size;omega
   go_upto_region 7 with fail
   rw [← HW4.out]
   clear c6 hlt hlt' HKE HB HO
   go_wp2_with fail
   go_loopw [6,7] (fun t6 t7 wr => ∃ (j : Nat) (M : List Rc) (a6 : Option Addr) (n6 c6 : Nat),j ≤ rn ∧ t6 = .slice a6 n6 c6 ∧ t7 = .int .i64 (j : Int) ∧ Hid (M = keepR t (L.take j)) ∧ Hid (M.length ≤ j) ∧ Hid (Rcs wr base (.slice a6 n6 c6) M) ∧ Hid (NewOwn w (.slice a6 n6 c6)) ∧ Hid (Rgs wr w.heap.size (.slice a4 n4 c4) K) ∧ Hid (Below w.heap.size w wr)) (fun _ t7 _ => 100001 - (intOf t7).toNat)
   case atStart => exact ⟨0,[],_,0,0,Nat.zero_le _,rfl,rfl,rfl,Nat.le_refl _,HR4,HN4,HO4,HB4⟩
   case round =>
    obtain ⟨j,M,a6,n6,c6,hj1,rfl,rfl,HME,HMI,HRM,HNW,HOr,HBr⟩:=hrel
    obtain ⟨w5,rfl⟩ : ∃ w5,w5 = wr:=⟨wr,rfl⟩
    have HG5 : Hid (LrG w5 base r q sv wv SV WV D gl b m ag V (.slice au un cu) hi rl L (.slice ar rn cr)):=HG.out.below HBr.out
    by_cases hlt : j < rn
    ·have hlt' : (j : Int) < (rn : Int):=by omega
     have g0 : (0 : Int) ≤ (j : Int):=by omega
     obtain ⟨x,hx⟩ : ∃ x,L[j]? = some x:=⟨_,List.getElem?_eq_getElem (by have:=HRN.out;omega)⟩
     obtain ⟨gr,c',hv',hgr,hrg⟩:=HG5.out.recs.at_ hx
     have ha : ar = some ⟨gr,0,none⟩:=by simp only [Value.slice.injEq] at hv';exact hv'.1
     subst ha
     have HBD : Hid (Bd w5 base x.a x.n x.bs):=HG5.out.recs.bd x (List.mem_of_getElem? hx)
     have HTK : Hid (L.take (j + 1) = L.take j ++ [x]):=by (show _ = _);rw [List.take_add_one,hx];rfl
     obtain ⟨tk,xa,xn,xc,xbs⟩:=x
     have HRG : Hid (w5.rangeAt gr (j * 2) [.int .i64 (tk : Int),.slice xa xn xc]):=hrg
     have x0 : w5.cell? ⟨gr,j * 2,none⟩ = some (.int .i64 (tk : Int)):=by have:=hrg 0 _ rfl;rwa [Nat.add_zero] at this
     have c7 : w5.cell? ⟨gl,7,none⟩ = some (.slice (some ⟨gr,0,none⟩) rn cr):=Blk.cell HG5.out.log 7 rfl
     clear hx hv' hgr hrg
     simp only at HBD
     by_cases hth : t < tk
     ·have e2 : (t : Int) < (tk : Int):=by omega
      have e3 : decide ((t : Int) < (tk : Int)) = true:=decide_eq_true e2
      have HMN : Hid (M ++ [⟨tk,xa,xn,xc,xbs⟩] = keepR t (L.take (j + 1))):=by (show _ = _);rw [HTK.out,keepR_snoc,if_pos hth,HME.out]
      have HX5 : Hid (Blk (w5.alloc (.cells #[.int .i64 (tk : Int),.slice xa xn xc] 44)) w5.heap.size (rcc ⟨tk,xa,xn,xc,xbs⟩).toArray 44):=Blk.new _ _ _
      have HB5 : Hid (Below w5.heap.size w5 (w5.alloc (.cells #[.int .i64 (tk : Int),.slice xa xn xc] 44))):=below_alloc _ _
      have HML : Hid (M.length ≤ 1000000):=by have:=HMI.out;(show _ ≤ _);omega
      clear hth
      go_wp2_with (first | (guard_target =~ wpList _ _ _ (Oper.mk (some 82) _ _ _ _ _ :: _) _ _;refine wpList_load_mid rfl 44 (.tmp 81) rfl gr (j * 2) rfl [.int .i64 (tk : Int),.slice xa xn xc] _ HRG.out Tryz.underlying44 rfl (by rfl) ?_) | (guard_target =~ wpList _ _ _ (Oper.mk (some 84) _ _ _ _ _ :: _) _ _;refine wpList_append_rcA rfl (.tmp 74) (.tmp 83) rfl base _ M rfl (HRM.out.below HB5.out) w5.heap.size 1 ⟨tk,xa,xn,xc,xbs⟩ rfl HX5.out (HBD.out.kt (Kt.of_below HB5.out)) HML.out (Nat.le_trans HG5.out.sz HB5.out.size) ?_;intro v7 w7 hs7 hg7 hk7 ho7;revert hs7 hg7 hk7 ho7))
      intro hs7 hg7 hk7 ho7
      have HB7 : Hid (Below w.heap.size w w7):=(HBr.out.trans (HB5.out.mono HBr.out.size)).grown hg7 (Nat.le_trans HBr.out.size HB5.out.size) (fun j hj => HNW.out j hj)
      have HO7 : Hid (Rgs w7 w.heap.size (.slice a4 n4 c4) K):=(HOr.out.below HB5.out).beside (HRM.out.below HB5.out) hg7
      obtain ⟨a7,c7',hv7⟩:=hs7.val
      subst hv7
      have HN7 : Hid (NewOwn w (.slice a7 (M ++ [(⟨tk,xa,xn,xc,xbs⟩ : Rc)]).length c7')):=HNW.out.oon (Nat.le_trans HBr.out.size HB5.out.size) ho7
      have HR7 : Hid (Rcs w7 base (.slice a7 (M ++ [(⟨tk,xa,xn,xc,xbs⟩ : Rc)]).length c7') (M ++ [⟨tk,xa,xn,xc,xbs⟩])):=hs7
      clear hs7 hg7 hk7 ho7 c7 x0
      go_wp2
      go_roundw
      case rel => exact ⟨j + 1,M ++ [⟨tk,xa,xn,xc,xbs⟩],a7,_,c7',by omega,rfl,by go_num,HMN,by have:=HMI.out;(show (M ++ [_]).length ≤ _);rw [List.length_append];(show M.length + 1 ≤ _);omega,HR7,HN7,HO7,HB7⟩
      case measure => simp [intOf];omega
     ·have e2 : ¬ (t : Int) < (tk : Int):=by omega
      have e3 : decide ((t : Int) < (tk : Int)) = false:=decide_eq_false e2
      have HMN : Hid (M = keepR t (L.take (j + 1))):=by (show _ = _);rw [HTK.out,keepR_snoc,if_neg hth,List.append_nil,HME.out]
      clear hth
      go_wp2
      go_roundw
      case rel => exact ⟨j + 1,M,a6,n6,c6,by omega,rfl,by go_num,HMN,by have:=HMI.out;(show _ ≤ _);omega,HRM,HNW,HOr,HBr⟩
      case measure => simp [intOf];omega
    ·have hlt' : ¬ (j : Int) < (rn : Int):=by omega
     have HMN : Hid (M = keepR t L):=by (show _ = _);rw [HME.out,List.take_of_length_le (by have:=HRN.out;omega)]
     have c4' : w5.cell? ⟨gl,4,none⟩ = some (.int .i64 (hi : Int)):=Blk.cell HG5.out.log 4 rfl
     have c5' : w5.cell? ⟨gl,5,none⟩ = some (.int .i64 (rl : Int)):=Blk.cell HG5.out.log 5 rfl
     have c6' : w5.cell? ⟨gl,6,none⟩ = some (.slice au un cu):=Blk.cell HG5.out.log 6 rfl
     have c7' : w5.cell? ⟨gl,7,none⟩ = some (.slice ar rn cr):=Blk.cell HG5.out.log 7 rfl
     have f4 : w5.frozen? ⟨gl,4,none⟩ = false:=Blk.free HG5.out.log 4
     have f5 : w5.frozen? ⟨gl,5,none⟩ = false:=Blk.free HG5.out.log 5
     have f6 : w5.frozen? ⟨gl,6,none⟩ = false:=Blk.free HG5.out.log 6
     have f7 : w5.frozen? ⟨gl,7,none⟩ = false:=Blk.free HG5.out.log 7
     obtain ⟨hg,hf⟩:=lr_tells HG5.out.disk HG5.out.log HG5.out.bl (HOr.out.low HG.out.sz) HRM.out hi t
     have HFIN : Hid (LrG ((((w5.setCell ⟨gl,4,none⟩ (.int .i64 (hi : Int))).setCell ⟨gl,5,none⟩ (.int .i64 (t : Int))).setCell ⟨gl,6,none⟩ (.slice a4 n4 c4)).setCell ⟨gl,7,none⟩ (.slice a6 n6 c6)) base r q sv wv SV WV D gl b m ag (keptR t V) (.slice a4 n4 c4) hi t (keepR t L) (.slice a6 n6 c6) ∧ Frm (fun k => k = gl) w ((((w5.setCell ⟨gl,4,none⟩ (.int .i64 (hi : Int))).setCell ⟨gl,5,none⟩ (.int .i64 (t : Int))).setCell ⟨gl,6,none⟩ (.slice a4 n4 c4)).setCell ⟨gl,7,none⟩ (.slice a6 n6 c6))):=⟨by rw [HKN.out,← HMN.out];exact hg,(Frm.of_below _ HBr.out).trans hf⟩
     have HNU : Hid (NewOwn w (.slice a4 n4 c4)):=fun k hk => (HOr.out.lt k hk).1
     clear hg hf
     go_wp2
     go_returns
     exact ⟨rfl,⟨_,_,HFIN.out.1,HNU.out,HNW.out⟩,HFIN.out.2⟩
end Go.Proofs.YtghajmcohdedlaaGreat
