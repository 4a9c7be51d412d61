import Derived.Test.YtghajmcohdedlaaGreatPk25
import Derived.Test.YtghajmcohdedlaaGreatPk00
namespace Go.Proofs.YtghajmcohdedlaaGreat
open Go.RowKit
theorem infoPut : (Tryz.prog.info? 101).map (fun i => (i.zero,i.size,i.bytes)) = some (some (.agg #[.int .i64 0,.slice none 0 0]),2,32):=by kernel_rfl
theorem wpList_append_put {w : World} {ops : Array Oper} {rest : List Oper} {o : Oper} {act : Act} {Q : Exit → Act → World → Prop} (hgd : o.guard = none) (s x : Operand)
  (ho : o.op = .call { callee:=.builtin .append,args:=#[s,x],argTypes:=#[64,64] })
  (base : Nat) (v : Value) (n : Nat) (WV : List Value) (hs : act.eval s = v) (hown : w.ownsRow base 101 2 v n WV) (k c : Nat) (i : Int) (a : Option Addr) (l cp : Nat) (hx : act.eval x = .slice (some ⟨k,0,none⟩) 1 c)
  (hb : Blk w k #[.int .i64 i,.slice a l cp] 101) (hl : n < 1000000000) (hbase : base ≤ w.heap.size)
  (h : ∀ v' w',w'.ownsRow base 101 2 v' (n + 1) (WV ++ [.int .i64 i,.slice a l cp]) → w.grownBy w' v.ownBlock → wpList Tryz.prog ops Q rest (act.put o.dst v') w') : wpList Tryz.prog ops Q (o :: rest) act w:=by
 obtain ⟨i0,hi,hz0,hz1,hz2⟩:=info_parts infoPut
 refine wpList_append_own w hgd s x 64 ho base 101 i0 (.agg #[.int .i64 0,.slice none 0 0]) 2 32 Tryz.underlying64 hi hz0 hz1 hz2 (by rfl) (by decide) v n WV hs hown ⟨k,0,none⟩ 1 c [.int .i64 i,.slice a l cp] hx (by rfl) (fun j u hj => ?_) (fun u hu => ?_) (by unfold maxLen;omega) (by omega) hbase fun v' w' h1 h2 _ => h v' w' h1 h2
 ·have e : (⟨k,0,none⟩ : Addr).add j = ⟨k,0 + j,none⟩:=by unfold Addr.add;split <;> simp_all
  rw [e,Nat.zero_add]
  exact hb.cell j (by simpa using hj)
 ·simp only [List.mem_cons,List.not_mem_nil,or_false] at hu
  rcases hu with rfl | rfl <;> rfl
theorem Rk.wrote {w w' : World} {base r q : Nat} {sv wv v' : Value} {SV WV : List Value} {D : Dk} (h : Rk w base r q sv wv SV WV D) (p : Nat × List Nat) {bv : Value} (hp : Byt w q bv p.2) (hi : p.1 < D.sure.length) (hl : D.waits.length < 1000000000)
  (ho : w'.ownsRow base 101 2 v' (D.waits.length + 1) (WV ++ [.int .i64 (p.1 : Int),bv])) (hg : w.grownBy w' wv.ownBlock) : Rk (w'.setCell ⟨r,1,none⟩ v') base r q sv v' SV (WV ++ [.int .i64 (p.1 : Int),bv]) { D with waits:=D.waits ++ [p] } ∧ Mr w (w'.setCell ⟨r,1,none⟩ v') base:=by
 obtain ⟨a1,a2⟩:=h.apart
 have hbs : base ≤ w.heap.size:=Nat.le_trans h.br (Nat.le_of_lt h.blk.lt)
 have k1 : Blk w' r _ 66:=h.blk.grown hg a2
 have hc:=grown_cell w' r 1 v'
 have m1:=Mr.of_own (.inr rfl) h.wrow hg hbs
 have m2:=Mr.of_cell k1 h.br hc
 have m:=m1.trans m2
 have s1 : w'.ownsRow base 27 1 sv D.sure.length SV:=own_type h.srow (fun k cs hk => by rw [hg.block k (heap_lt hk) (own_ne' h.wrow hk (by decide))];exact hk)
 have s2 : (w'.setCell ⟨r,1,none⟩ v').ownsRow base 27 1 sv D.sure.length SV:=own_type s1 (fun k cs hk => by rw [hc.block k (heap_lt hk) (fun e => by simp only [Option.some.injEq] at e;exact blk_ne hk k1 (by decide) e)];exact hk)
 have s3 : (w'.setCell ⟨r,1,none⟩ v').ownsRow base 101 2 v' (D.waits.length + 1) (WV ++ [.int .i64 (p.1 : Int),bv]):=own_type ho (fun k cs hk => by rw [hc.block k (heap_lt hk) (fun e => by simp only [Option.some.injEq] at e;exact blk_ne hk k1 (by decide) e)];exact hk)
 have hmv : ∀ (k : Nat) cur,w.heap[k]? = some (.cells cur 5 (0,0)) → k ≠ q → (w'.setCell ⟨r,1,none⟩ v').heap[k]? = some (.cells cur 5 (0,0)):=fun k cur hk _ => m.block k cur _ _ hk (by decide) (by decide) (by decide)
 have hwl : WV.length = D.waits.length * 2:=h.wrow.1
 refine ⟨⟨k1.set 1 v',s2,by simpa using s3,h.br,h.s1,h.sz,fun i s hs => (h.each i s hs).imp fun _ hv => ⟨hv.1,hv.2.move hmv⟩,fun i p' hp' => ?_,h.tr,h.ag,by simp;omega⟩,m⟩
 simp only at hp'
 by_cases hil : i < D.waits.length
 ·rw [List.getElem?_append_left hil] at hp'
  obtain ⟨g0,g1,v,g2,g3⟩:=h.puts i p' hp'
  exact ⟨g0,by rw [List.getElem?_append_left (by omega)];exact g1,v,by rw [List.getElem?_append_left (by omega)];exact g2,g3.move hmv⟩
 ·have hl2:=(List.getElem?_eq_some_iff.1 hp').1
  rw [List.length_append,List.length_singleton] at hl2
  obtain rfl : i = D.waits.length:=by omega
  rw [List.getElem?_append_right (Nat.le_refl _),Nat.sub_self,List.getElem?_cons_zero,Option.some.injEq] at hp'
  subst hp'
  refine ⟨hi,?_,bv,?_,hp.move hmv⟩
  ·rw [List.getElem?_append_right (by omega),hwl,Nat.sub_self];rfl
  ·rw [List.getElem?_append_right (by omega),hwl,show D.waits.length * 2 + 1 - D.waits.length * 2 = 1 from by omega];rfl
set_option maxRecDepth 100000 in
set_option maxHeartbeats 2000000 in
theorem ref_Write (w : World) (base r q : Nat) (sv wv : Value) (SV WV : List Value) (D : Dk) (i : Int) (a : Option Addr) (len cap : Nat) (bs : List Nat) (h : Rk w base r q sv wv SV WV D) (hq : q < w.heap.size) (hr0 : ∀ w',Mr w w' base → Rd w' a len bs) (hmc : a = none → cap = 0) (hl : len ≤ 9223372036854775807) (hw : D.waits.length < 1000000000) :
  Calls Tryz.prog 26 #[.pointer (some ⟨r,0,none⟩),.int .i64 i,.slice a len cap] w fun e w' => e = .returned (.int .i64 (writeE D i bs)) ∧ Hid (∃ wv' WV',Rk w' base r q sv wv' SV WV' (writeD D i bs)) ∧ Mr w w' base:=by
 have HD : Hid (Rk w base r q sv wv SV WV D):=h
 have HRR : Hid (∀ w',Mr w w' base → Rd w' a len bs):=hr0
 have hr:=hr0 w (Mr.refl _ _)
 have HBS : Hid (base ≤ w.heap.size):=Nat.le_trans h.br (Nat.le_of_lt h.blk.lt)
 have c3 : w.cell? ⟨r,3,none⟩ = some (.bool D.down):=h.blk.cell 3 rfl
 obtain ⟨R,HX⟩ : ∃ R,Hid (R = writeE D i bs):=⟨_,rfl⟩
 obtain ⟨D',HY⟩ : ∃ D',Hid (D' = writeD D i bs):=⟨_,rfl⟩
 rw [← HX.out,← HY.out]
 have HSZ : Hid (bs.length = len):=hr.size
 have HBY : Hid (∀ b ∈ bs,b < 256):=hr.byte
 have HQ : Hid (q < w.heap.size):=hq
 have HMC : Hid (a = none → cap = 0):=hmc
 clear h hr hr0 hq hmc
 cases hd : D.down with
 | true =>
  rw [hd] at c3
  have HE : Hid (R = 10 ∧ D' = D):=⟨by rw [HX.out,writeE,if_pos hd],by rw [HY.out,writeD,if_pos hd]⟩
  clear hd
  go_enter Tryz.func26,Tryz.ntmps26
  go_wp2
  go_ret
  exact ⟨by rw [HE.out.1];rfl,⟨wv,WV,by rw [HE.out.2];exact HD.out⟩,Mr.refl _ _⟩
 | false =>
  rw [hd] at c3
  have HDN : Hid (D.down = false):=hd
  clear hd
  go_enter Tryz.func26,Tryz.ntmps26
  go_wp2_with fail
  refine (ref_has w base r q _ _ SV WV D i HD.out).mono ?_
  rintro e w1 ⟨he,hw1⟩
  subst he
  rw [hw1]
  clear hw1 w1
  cases hh : hasB D i with
  | false =>
   have HE : Hid (R = 2 ∧ D' = D):=⟨by rw [HX.out,writeE,HDN.out,if_neg (by decide),if_pos hh],by rw [HY.out,writeD,HDN.out,if_neg (by decide),if_pos hh]⟩
   clear hh
   go_wp2
   go_ret
   exact ⟨by rw [HE.out.1];rfl,⟨wv,WV,by rw [HE.out.2];exact HD.out⟩,Mr.refl _ _⟩
  | true =>
   by_cases h64 : 64 < len
   ·have HE : Hid (R = 6 ∧ D' = D):=⟨by rw [HX.out,writeE,HDN.out,if_neg (by decide),hh,if_neg (by decide),HSZ.out,if_pos h64],by rw [HY.out,writeD,HDN.out,if_neg (by decide),hh,if_neg (by decide),HSZ.out,if_pos h64]⟩
    have h64' : (64 : Int) < (len : Int):=by omega
    clear hh
    go_wp2
    go_ret
    exact ⟨by rw [HE.out.1];rfl,⟨wv,WV,by rw [HE.out.2];exact HD.out⟩,Mr.refl _ _⟩
   ·have h64' : ¬ (64 : Int) < (len : Int):=by omega
    obtain ⟨h0,h1⟩:=(hasB_iff D i).1 hh
    obtain ⟨j,rfl⟩:=Int.eq_ofNat_of_zero_le h0
    have HJ : Hid (j < D.sure.length):=by show _ < _;omega
    have HE0 : Hid (R = (if tripsB D = true then 10 else 0) ∧ D' = (if tripsB D = true then tripsD D else { tripsD D with waits:=D.waits ++ [(j,padS bs)] })) :=
     ⟨by rw [HX.out,writeE,HDN.out,if_neg (by decide),hh,if_neg (by decide),HSZ.out,if_neg h64],by rw [HY.out,writeD,HDN.out,if_neg (by decide),hh,if_neg (by decide),HSZ.out,if_neg h64,Int.toNat_natCast]⟩
    clear hh h0 h1 HX HY
    go_wp2_with fail
    refine (ref_trips w base r q _ _ SV WV D HD.out HDN.out).mono ?_
    rintro e w2 ⟨rfl,hd2,hm2,hs2⟩
    have HD2 : Hid (Rk w2 base r q sv wv SV WV (tripsD D)):=hd2
    have HM2 : Hid (Mr w w2 base):=hm2
    have HS2 : Hid (w2.heap.size = w.heap.size):=hs2
    clear hd2 hm2 hs2
    cases ht : tripsB D with
    | true =>
     have HE : Hid (R = 10 ∧ D' = tripsD D):=by have:=HE0.out;rw [ht] at this;exact this
     clear ht HE0
     go_wp2
     go_ret
     exact ⟨by rw [HE.out.1];rfl,⟨wv,WV,by rw [HE.out.2];exact HD2.out⟩,HM2.out⟩
    | false =>
     have HE : Hid (R = 0 ∧ D' = { tripsD D with waits:=(tripsD D).waits ++ [(j,padS bs)] }):=by have:=HE0.out;rw [ht] at this;rw [trips_waits];exact this
     clear ht HE0
     obtain ⟨T,hT⟩ : ∃ T,T = tripsD D:=⟨_,rfl⟩
     have HTS : Hid (T.sure.length = D.sure.length ∧ T.waits.length = D.waits.length):=by show _ ∧ _;rw [hT,trips_sure,trips_waits];exact ⟨rfl,rfl⟩
     rw [← hT] at HE HD2
     clear hT
     obtain ⟨kk,hkk⟩ : ∃ kk,len + kk = 64:=⟨64 - len,by omega⟩
     have hkk' : (64 : Int) - (len : Int) = (kk : Int):=by omega
     have HBA : Hid (Below w2.heap.size w2 (w2.alloc (.cells #[] 5))):=below_alloc _ _
     have HBS2 : Hid (base ≤ w2.heap.size):=by show _ ≤ _;rw [HS2.out];exact HBS.out
     have HMA : Hid (Mr w (w2.alloc (.cells #[] 5)) base):=HM2.out.trans (Mr.of_below HBA.out HBS2.out)
     have HRD : Hid (Rd (w2.alloc (.cells #[] 5)) a len bs):=HRR.out _ HMA.out
     have HOW : Hid (Own (w2.alloc (.cells #[] 5)) w2.heap.size (some ⟨w2.heap.size,0,none⟩) 0 0 []):=Own.empty w2
     go_wp2_with (guard_target =~ wpList _ _ _ (Oper.mk (some 25) _ _ _ _ _ :: _) _ _;refine wpList_append_rd rfl (.tmp 23) (.tmp 24) rfl w2.heap.size (some ⟨w2.heap.size,0,none⟩) 0 0 [] rfl HOW.out a len cap bs rfl HRD.out HMC.out (by omega) HBA.out.size ?_)
     intro a3 c3' w3 ho3 hg3 hb3
     have HO3 : Hid (Own w3 w2.heap.size a3 len c3' bs):=ho3
     have HB3 : Hid (Below w2.heap.size w2 w3):=HBA.out.trans hb3
     clear ho3 hg3 hb3 c3
     go_wp2_with (guard_target =~ wpList _ _ _ (Oper.mk (some 29) _ _ _ _ _ :: _) _ _;refine wpList_append_zeros rfl (.tmp 25) (.tmp 28) rfl w2.heap.size a3 len c3' bs rfl HO3.out kk 64 rfl hkk (by omega) HB3.out.size ?_)
     intro a4 c4 w4 ho4 hg4 hb4
     have HO4 : Hid (Own w4 w2.heap.size a4 64 c4 (padS bs)):=by
      have e : padS bs = bs ++ List.replicate kk 0:=by rw [padS,HSZ.out];congr 2;omega
      show Own _ _ _ _ _ _
      rw [e]
      exact ho4
     have HB4 : Hid (Below w2.heap.size w2 w4):=HB3.out.trans hb4
     clear ho4 hg4 hb4
     have HD4 : Hid (Rk w4 base r q sv wv SV WV T):=HD2.out.stay HB4.out
     have c1 : w4.cell? ⟨r,1,none⟩ = some wv:=HD4.out.blk.cell 1 rfl
     have HWX : Hid (T.waits.length < 1000000000):=by show _ < _;rw [HTS.out.2];exact hw
     have HBS4 : Hid (base ≤ (w4.alloc (.cells #[.int .i64 (j : Int),.slice a4 64 c4] 101)).heap.size):=by show _ ≤ _;have:=HB4.out.size;have:=HBS2.out;simp;omega
     have HDA : Hid (Rk (w4.alloc (.cells #[.int .i64 (j : Int),.slice a4 64 c4] 101)) base r q sv wv SV WV T):=HD4.out.stay (below_alloc _ _)
     have HYA : Hid (Byt (w4.alloc (.cells #[.int .i64 (j : Int),.slice a4 64 c4] 101)) q (.slice a4 64 c4) (padS bs)):=Byt.of_own (HO4.out.below (below_alloc _ _)) (by rw [HS2.out];exact HQ.out)
     have HMA2 : Hid (Mr w (w4.alloc (.cells #[.int .i64 (j : Int),.slice a4 64 c4] 101)) base):=HM2.out.trans (Mr.of_below (HB4.out.trans ((below_alloc _ _).mono HB4.out.size)) HBS2.out)
     go_wp2_with (guard_target =~ wpList _ _ _ (Oper.mk (some 39) _ _ _ _ _ :: _) _ _;refine wpList_append_put rfl (.tmp 34) (.tmp 38) rfl base wv T.waits.length WV rfl HDA.out.wrow w4.heap.size 1 (j : Int) a4 64 c4 rfl (Blk.new _ _ _) HWX.out HBS4.out ?_)
     intro v5 w5 ho5 hg5
     obtain ⟨a5,n5,k5,rfl⟩:=own_slice ho5
     have f1 : w5.frozen? ⟨r,1,none⟩ = false:=(HDA.out.blk.grown hg5 HDA.out.apart.2).free 1
     have d1 : w5.cell? ⟨r,1,none⟩ = some wv:=(HDA.out.blk.grown hg5 HDA.out.apart.2).cell 1 rfl
     obtain ⟨hd6,hm6⟩:=HDA.out.wrote (j,padS bs) HYA.out (by rw [HTS.out.1];exact HJ.out) HWX.out ho5 hg5
     have HD6 : Hid (Rk (w5.setCell ⟨r,1,none⟩ (.slice a5 n5 k5)) base r q sv (.slice a5 n5 k5) SV (WV ++ [.int .i64 (j : Int),.slice a4 64 c4]) { T with waits:=T.waits ++ [(j,padS bs)] }):=hd6
     have HM6 : Hid (Mr w (w5.setCell ⟨r,1,none⟩ (.slice a5 n5 k5)) base):=HMA2.out.trans hm6
     clear hd6 hm6 ho5 hg5 c1
     go_wp2
     go_ret
     exact ⟨by rw [HE.out.1];rfl,⟨_,_,by rw [HE.out.2];exact HD6.out⟩,HM6.out⟩
end Go.Proofs.YtghajmcohdedlaaGreat

namespace Go.Proofs.YtghajmcohdedlaaGreat
open Go.RowKit
theorem wp_append_rd {w : World} {o : Oper} {act : Act} {K : Act → World → Prop} {Q : Exit → Act → World → Prop} (s x : Operand)
  (ho : o.op = .call { callee:=.builtin .append,args:=#[s,x],argTypes:=#[27,27] })
  (base : Nat) (a : Option Addr) (n cap : Nat) (xs : List Nat) (hs : act.eval s = .slice a n cap) (hown : Own w base a n cap xs) (b : Option Addr) (m c : Nat) (ys : List Nat) (hx : act.eval x = .slice b m c) (hr : Rd w b m ys) (hmc : b = none → c = 0)
  (hbytes : n + m ≤ 140737488355328) (hbase : base ≤ w.heap.size)
  (h : ∀ a' cap' w',Own w' base a' (n + m) cap' (xs ++ ys) → w.grownBy w' (Value.ownBlock (.slice a n cap)) → Below base w w' → K (act.put o.dst (.slice a' (n + m) cap')) w') : o.wp Tryz.prog act w K Q:=by
 obtain ⟨a',cap',w',hrun,h2,h3,h4⟩:=run_append_rd w o.type base a n cap xs hown b m c ys hr hmc hbytes hbase
 unfold Oper.wp execOp
 simp only [ho,resolve,invoke,builtin,Sem.run_bind,Sem.run_pure,Result.andThen_ok,List.map_toArray,List.map_cons,List.map_nil,hs,hx,hrun]
 exact h a' cap' w' h2 h3 h4
theorem step_append_rd {w : World} {ops : Array Oper} {o : Oper} {act : Act} {K : Act → World → Prop} {Q : Exit → Act → World → Prop} {E : Prop} (hgd : o.guard = none) (s x : Operand)
  (ho : o.op = .call { callee:=.builtin .append,args:=#[s,x],argTypes:=#[27,27] })
  (base : Nat) (a : Option Addr) (n cap : Nat) (xs : List Nat) (hs : act.eval s = .slice a n cap) (hown : Own w base a n cap xs) (b : Option Addr) (m c : Nat) (ys : List Nat) (hx : act.eval x = .slice b m c) (hr : Rd w b m ys) (hmc : b = none → c = 0)
  (hbytes : n + m ≤ 140737488355328) (hbase : base ≤ w.heap.size)
  (k : Nat) (hk : n + m = k) (zs : List Nat) (hz : xs ++ ys = zs)
  (h : ∀ a' cap' w',Own w' base a' k cap' zs → w.grownBy w' (Value.ownBlock (.slice a n cap)) → Below base w w' → K (act.put o.dst (.slice a' k cap')) w') : if Region.wanted o (yielded ops act.tmps) = true then Oper.wp Tryz.prog o act w K Q else E:=by
 rw [if_pos (by simp [Region.wanted,hgd])]
 subst hk hz
 exact wp_append_rd s x ho base a n cap xs hs hown b m c ys hx hr hmc hbytes hbase h
theorem Rd.drew {w : World} {a : Option Addr} {len : Nat} {bs : List Nat} (h : Rd w a len bs) : Rd w.drew a len bs:=⟨h.size,h.byte,h.cells⟩
theorem Own.drew {w : World} {base : Nat} {a : Option Addr} {len cap : Nat} {bs : List Nat} (h : Own w base a len cap bs) : Own w.drew base a len cap bs:=by first | exact ⟨h.row,h.byte⟩ | exact h.below (Below.refl _ _).drew
theorem Own.empty2 (w : World) (o : Obj) : Own ((w.alloc o).alloc (.cells #[] 5)) (w.heap.size + 1) (some ⟨w.heap.size + 1,0,Option.none⟩) 0 0 []:=by
 have h:=Own.new (w.alloc o) (w.heap.size + 1) #[] [] (by simp) rfl (by simp) (Nat.zero_le _)
 simpa using h
end Go.Proofs.YtghajmcohdedlaaGreat

namespace Go.Proofs.YtghajmcohdedlaaGreat
open Go.RowKit
theorem Rk.replaced {w : World} {base r q rs n c : Nat} {wv : Value} {SV WV : List Value} {D : Dk} (h : Rk w base r q (.slice (some ⟨rs,0,none⟩) n c) wv SV WV D) {i : Nat} (hi : i < D.sure.length) {v : Value} {s : List Nat} (hb : Byt w q v s) :
  Rk (w.setCell ⟨rs,i,none⟩ v) base r q (.slice (some ⟨rs,0,none⟩) n c) wv (SV.set i v) WV { D with sure:=D.sure.set i s } ∧ Mr w (w.setCell ⟨rs,i,none⟩ v) base:=by
 have hn : n = D.sure.length:=by
  obtain ⟨_,_,e,_⟩:=h.form
  simp only [Value.slice.injEq] at e
  exact e.2.1
 subst hn
 have hc:=grown_cell w rs i v
 have hbs : base ≤ w.heap.size:=Nat.le_trans h.br (Nat.le_of_lt h.blk.lt)
 have m : Mr w (w.setCell ⟨rs,i,none⟩ v) base:=Mr.of_own (.inl rfl) h.srow hc hbs
 have hmv : ∀ (k : Nat) cur,w.heap[k]? = some (.cells cur 5 (0,0)) → k ≠ q → (w.setCell ⟨rs,i,none⟩ v).heap[k]? = some (.cells cur 5 (0,0)):=fun k cur hk _ => m.block k cur _ _ hk (by decide) (by decide) (by decide)
 have hne : ∀ (k : Nat) cs t,w.heap[k]? = some (.cells cs t (0,0)) → t ≠ 27 → (w.setCell ⟨rs,i,none⟩ v).heap[k]? = some (.cells cs t (0,0)):=fun k cs t hk ht => by
  rw [hc.block k (heap_lt hk) (own_ne' h.srow hk ht)]
  exact hk
 have hsl : SV.length = D.sure.length:=by have:=h.srow.1;omega
 refine ⟨⟨hne r _ _ h.blk (by decide),?_,own_type h.wrow (fun k cs hk => hne k cs _ hk (by decide)),h.br,by simpa using h.s1,by simpa using h.sz,fun j s' hs' => ?_,fun j p hp => ?_,h.tr,h.ag,h.wl⟩,m⟩
 ·simp only [List.length_set]
  exact (h.srow.stored i v).1
 ·simp only at hs'
  by_cases hij : i = j
  ·subst hij
   rw [List.getElem?_set_self hi,Option.some.injEq] at hs'
   subst hs'
   exact ⟨v,by rw [List.getElem?_set_self (by omega)],hb.move hmv⟩
  ·rw [List.getElem?_set_ne hij] at hs'
   obtain ⟨v',h1,h2⟩:=h.each j s' hs'
   exact ⟨v',by rw [List.getElem?_set_ne hij];exact h1,h2.move hmv⟩
 ·obtain ⟨g0,g1,v',g2,g3⟩:=h.puts j p hp
  exact ⟨by simpa using g0,g1,v',g2,g3.move hmv⟩
theorem Rd.prefix {w : World} {k n : Nat} {bs : List Nat} (h : Rd w (some ⟨k,0,none⟩) n bs) {m : Nat} (hm : m ≤ n) : Rd w (some ⟨k,0,none⟩) m (bs.take m):=by
 have hl:=h.size
 refine ⟨by rw [List.length_take];omega,fun b hb => h.byte b (List.mem_of_mem_take hb),?_⟩
 rcases h.cells with h0 | ⟨b,off,ha,hlt,hc⟩
 ·exact .inl (by omega)
 ·refine .inr ⟨b,off,ha,hlt,fun i hi => ?_⟩
  rw [hc i (by omega),List.getD_eq_getElem?_getD,List.getD_eq_getElem?_getD,List.getElem?_take_of_lt hi]
theorem Rd.rest {w : World} {k n : Nat} {bs : List Nat} (h : Rd w (some ⟨k,0,none⟩) n bs) {m : Nat} (hm : m ≤ n) : Rd w (some ⟨k,m,none⟩) (n - m) (bs.drop m):=by
 have hl:=h.size
 refine ⟨by rw [List.length_drop];omega,fun b hb => h.byte b (List.mem_of_mem_drop hb),?_⟩
 rcases h.cells with h0 | ⟨b,off,ha,hlt,hc⟩
 ·exact .inl (by omega)
 ·simp only [Option.some.injEq,Addr.mk.injEq,and_true] at ha
  obtain ⟨rfl,rfl⟩:=ha
  refine .inr ⟨k,m,rfl,hlt,fun i hi => ?_⟩
  have:=hc (m + i) (by omega)
  rw [Nat.zero_add] at this
  rw [this,List.getD_eq_getElem?_getD,List.getD_eq_getElem?_getD,List.getElem?_drop]
theorem Rd.none_left {w : World} {a : Option Addr} {n : Nat} {bs : List Nat} (hn : n = 0) (hb : bs = []) : Rd w a n bs:=⟨by rw [hn,hb];rfl,by rw [hb];simp,.inl hn⟩
def putD (D : Dk) (p : Nat × List Nat) (m : Nat) : Dk:={ D with sure:=D.sure.set p.1 (p.2.take m ++ (D.sure.getD p.1 []).drop m) }
set_option maxRecDepth 100000 in
set_option maxHeartbeats 4000000 in
theorem ref_put (w : World) (base r q : Nat) (sv wv : Value) (SV WV : List Value) (D : Dk) (h : Rk w base r q sv wv SV WV D) (hq : q < w.heap.size) (pa : Nat) (L : List Nat) (k c : Nat) (hb : Byt w q (.slice (some ⟨k,0,none⟩) 64 c) L) (hp : pa < D.sure.length) (m : Nat) (hm : m ≤ 64) :
  Calls Tryz.prog 70 #[.pointer (some ⟨r,0,none⟩),.agg #[.int .i64 (pa : Int),.slice (some ⟨k,0,none⟩) 64 c],.int .i64 (m : Int)] w fun e w' => e = .returned (.tuple #[]) ∧ Hid (∃ SV',Rk w' base r q sv wv SV' WV (putD D (pa,L) m)) ∧ Mr w w' base:=by
 have HBS : Hid (base ≤ w.heap.size):=Nat.le_trans h.br (Nat.le_of_lt h.blk.lt)
 obtain ⟨rs,cs,rfl,_⟩:=h.form
 obtain ⟨ns,hns⟩ : ∃ ns,ns = D.sure.length:=⟨_,rfl⟩
 have HD : Hid (Rk w base r q (.slice (some ⟨rs,0,none⟩) ns cs) wv SV WV D):=by rw [hns];exact h
 rw [← hns]
 have HNS : Hid (ns = D.sure.length):=hns
 have hnsb : ns ≤ 512:=by rw [hns];exact h.sz
 obtain ⟨_,_,he,h64,hcm,hrL,cur,hkL⟩:=hb.slice
 simp only [Value.slice.injEq,Option.some.injEq,Addr.mk.injEq,and_true,true_and] at he
 obtain ⟨rfl,rfl⟩:=he
 have HLS : Hid (Sec L):=hb.sec
 have HRL : Hid (Rd w (some ⟨k,0,none⟩) 64 L):=hrL
 obtain ⟨s0,hs0⟩ : ∃ s0,D.sure[pa]? = some s0:=⟨D.sure[pa],List.getElem?_eq_getElem hp⟩
 have HS0 : Hid (D.sure[pa]? = some s0):=hs0
 have HPD : Hid (putD D (pa,L) m = { D with sure:=D.sure.set pa (L.take m ++ s0.drop m) }):=by
  show _ = _
  rw [putD]
  simp only
  rw [List.getD_eq_getElem?_getD,hs0]
  rfl
 have HPA : Hid (pa < D.sure.length):=hp
 rw [HPD.out]
 have hpa : pa < ns:=by omega
 have q1 : (0 : Int) ≤ (pa : Int):=by omega
 have q2 : (pa : Int) < (ns : Int):=by omega
 have q3 : (0 : Int) ≤ (m : Int):=by omega
 have q4 : (m : Int) ≤ 64:=by omega
 have q5 : (m : Int) ≤ (c : Int):=by omega
 have q6 : ¬ c = 0:=by omega
 have HQ : Hid (q < w.heap.size):=hq
 clear h hns hb hs0 hp hkL hrL hq
 obtain ⟨W1,HW1⟩ : ∃ W1,Hid (W1 = w.alloc (.cells #[.int .i64 (pa : Int),.slice (some ⟨k,0,none⟩) 64 c] 101)):=⟨_,rfl⟩
 have HB1 : Hid (Below w.heap.size w W1):=by show Below _ _ _;rw [HW1.out];exact below_alloc _ _
 have HZ1 : Hid (W1.heap.size = w.heap.size + 1):=by show _ = _;rw [HW1.out];simp
 have HK1 : Hid (Blk W1 w.heap.size #[.int .i64 (pa : Int),.slice (some ⟨k,0,none⟩) 64 c] 101):=by show Blk _ _ _ _;rw [HW1.out];exact Blk.new _ _ _
 have e1 : ((w.alloc (.cells #[.int .i64 (pa : Int),.slice (some ⟨k,0,none⟩) 64 c] 101)).alloc (.cells #[] 5)).cell? ⟨w.heap.size,1,none⟩ = some (.slice (some ⟨k,0,none⟩) 64 c):=((Blk.new w _ _).stay (below_alloc _ _)).cell 1 rfl
 have HOW : Hid (Own ((w.alloc (.cells #[.int .i64 (pa : Int),.slice (some ⟨k,0,none⟩) 64 c] 101)).alloc (.cells #[] 5)) (w.heap.size + 1) (some ⟨w.heap.size + 1,0,none⟩) 0 0 []):=Own.empty2 w _
 have HBA : Hid (Below W1.heap.size W1 ((w.alloc (.cells #[.int .i64 (pa : Int),.slice (some ⟨k,0,none⟩) 64 c] 101)).alloc (.cells #[] 5))):=by show Below _ _ _;rw [HW1.out];exact below_alloc _ _
 have HRM : Hid (Rd ((w.alloc (.cells #[.int .i64 (pa : Int),.slice (some ⟨k,0,none⟩) 64 c] 101)).alloc (.cells #[] 5)) (some ⟨k,0,none⟩) m (L.take m)):=((HRL.out.below HB1.out).below HBA.out).prefix hm
 have HSZ : Hid (w.heap.size + 1 ≤ ((w.alloc (.cells #[.int .i64 (pa : Int),.slice (some ⟨k,0,none⟩) 64 c] 101)).alloc (.cells #[] 5)).heap.size):=by show _ ≤ _;simp
 go_enter Tryz.func70,Tryz.ntmps70
 go_wp2_with (guard_target =~ wpList _ _ _ (Oper.mk (some 12) _ _ _ _ _ :: _) _ _;refine wpList_append_rd rfl (.tmp 7) (.tmp 11) rfl (w.heap.size + 1) (some ⟨w.heap.size + 1,0,none⟩) 0 0 [] rfl HOW.out (some ⟨k,0,none⟩) m c (L.take m) rfl HRM.out (fun e => by cases e) (by omega) HSZ.out ?_)
 intro a3 c3 w3 ho3 hg3 hb3
 have HO3 : Hid (Own w3.drew W1.heap.size a3 m c3 (L.take m)):=by
  have : Own w3 (w.heap.size + 1) a3 m c3 (L.take m):=by simpa using ho3
  rw [← HZ1.out] at this
  exact this.drew
 have HB3 : Hid (Below W1.heap.size W1 w3.drew):=(HBA.out.trans (by rw [HZ1.out];exact hb3)).drew
 clear ho3 hg3 hb3 e1
 have HB03 : Hid (Below w.heap.size w w3.drew):=HB1.out.trans (HB3.out.mono HB1.out.size)
 have HD3 : Hid (Rk w3.drew base r q (.slice (some ⟨rs,0,none⟩) ns cs) wv SV WV D):=HD.out.stay HB03.out
 have HK3 : Hid (Blk w3.drew w.heap.size #[.int .i64 (pa : Int),.slice (some ⟨k,0,none⟩) 64 c] 101):=HK1.out.below HB3.out (by rw [HZ1.out];omega)
 have HM3 : Hid (Mr w w3.drew base):=Mr.of_below HB03.out HBS.out
 obtain ⟨k2,c2,cc,h642,hcm2,hrd2,_,hk2l⟩:=HD3.out.sureAt HS0.out
 have c0 : w3.drew.cell? ⟨r,0,none⟩ = some (.slice (some ⟨rs,0,none⟩) ns cs):=HD3.out.blk.cell 0 rfl
 have ca : w3.drew.cell? ⟨w.heap.size,0,none⟩ = some (.int .i64 (pa : Int)):=HK3.out.cell 0 rfl
 have HR2 : Hid (Rd w3.drew (some ⟨k2,0,none⟩) 64 s0):=hrd2
 clear hrd2 hk2l
 have HOB : Hid (∀ j,Value.ownBlock (.slice a3 m c3) = some j → W1.heap.size ≤ j):=fun j hj => (HO3.out.row.lt j hj).1
 have HFR : Hid (r < W1.heap.size ∧ w.heap.size < W1.heap.size ∧ rs < W1.heap.size):=by
  show _ ∧ _ ∧ _
  have h1:=HD.out.blk.lt
  have h2:=(HD.out.srow.lt rs rfl).2
  rw [HZ1.out]
  omega
 obtain ⟨ad,hsp⟩ : ∃ ad : Option Addr,(c2 = m ∧ ad = some ⟨k2,0,none⟩) ∨ (¬ c2 = m ∧ ad = some ⟨k2,m,none⟩):=by
  by_cases hc : c2 = m
  ·exact ⟨_,.inl ⟨hc,rfl⟩⟩
  ·exact ⟨_,.inr ⟨hc,rfl⟩⟩
 have HRX : Hid (Rd w3.drew ad (64 - m) (s0.drop m)):=by
  rcases hsp with ⟨h1,h2⟩ | ⟨h1,h2⟩
  ·exact Rd.none_left (by omega) (List.drop_of_length_le (by rw [HR2.out.size];omega))
  ·rw [h2];exact HR2.out.rest hm
 have q7 : (m : Int) ≤ (c2 : Int):=by omega
 go_wp2
 refine wp_region_held_drew (S:=fun w' => w'.cell? ⟨r,0,none⟩ = some (.slice (some ⟨rs,0,none⟩) ns cs) ∧ w'.cell? ⟨w.heap.size,0,none⟩ = some (.int .i64 (pa : Int))) (by kernel_rfl) ⟨c0,ca⟩ (fun hHeld => ?_)
 generalize w3.drew = wd at *
 rcases hsp with ⟨hc,had⟩ | ⟨hc,had⟩ <;>
  (subst had
   refine take_putH (i:=0) (v:=?_) (some 13) rfl (by kernel_rfl) (by kernel_rfl) (by kernel_rfl) (by kernel_rfl) (fun _ _ _ h => h) (Or.inl ⟨by rfl,?_⟩) hHeld ?_
   rotate_left
   ·(intro w hSw;obtain ⟨z0,z1⟩:=hSw;go_simp;try with_reducible rfl)
   try simp only [Act.put,List.setIfInBounds_toArray,List.set_cons_zero,List.set_cons_succ]
   refine take_putH (i:=1) (v:=?_) (some 14) rfl (by kernel_rfl) (by kernel_rfl) (by kernel_rfl) (by kernel_rfl) (fun _ _ _ h => h) (Or.inl ⟨by rfl,?_⟩) hHeld ?_
   rotate_left
   ·(intro w hSw;obtain ⟨z0,z1⟩:=hSw;go_simp;try with_reducible rfl)
   try simp only [Act.put,List.setIfInBounds_toArray,List.set_cons_zero,List.set_cons_succ]
   refine take_putH (i:=2) (v:=?_) (some 15) rfl (by kernel_rfl) (by kernel_rfl) (by kernel_rfl) (by kernel_rfl) (fun _ _ _ h => h) (Or.inl ⟨by rfl,?_⟩) hHeld ?_
   rotate_left
   ·(intro w hSw;obtain ⟨z0,z1⟩:=hSw;go_simp;try with_reducible rfl)
   try simp only [Act.put,List.setIfInBounds_toArray,List.set_cons_zero,List.set_cons_succ]
   refine take_putH (i:=3) (v:=?_) (some 16) rfl (by kernel_rfl) (by kernel_rfl) (by kernel_rfl) (by kernel_rfl) (fun _ _ _ h => h) (Or.inl ⟨by rfl,?_⟩) hHeld ?_
   rotate_left
   ·(intro w hSw;obtain ⟨z0,z1⟩:=hSw;go_simp;try with_reducible rfl)
   try simp only [Act.put,List.setIfInBounds_toArray,List.set_cons_zero,List.set_cons_succ]
   refine take_putH (i:=4) (v:=?_) (some 17) rfl (by kernel_rfl) (by kernel_rfl) (by kernel_rfl) (by kernel_rfl) (fun _ _ _ h => h) (Or.inl ⟨by rfl,?_⟩) hHeld ?_
   rotate_left
   ·(intro w hSw;obtain ⟨z0,z1⟩:=hSw;go_simp;try with_reducible rfl)
   try simp only [Act.put,List.setIfInBounds_toArray,List.set_cons_zero,List.set_cons_succ]
   refine take_putH (i:=5) (v:=?_) (some 18) rfl (by kernel_rfl) (by kernel_rfl) (by kernel_rfl) (by kernel_rfl) (fun _ _ _ h => h) (Or.inl ⟨by rfl,?_⟩) hHeld ?_
   rotate_left
   ·(intro w hSw;obtain ⟨z0,z1⟩:=hSw;go_simp;try with_reducible rfl)
   try simp only [Act.put,List.setIfInBounds_toArray,List.set_cons_zero,List.set_cons_succ]
   refine take_putH (i:=6) (v:=?_) (some 19) rfl (by kernel_rfl) (by kernel_rfl) (by kernel_rfl) (by kernel_rfl) (fun _ _ _ h => h) (Or.inl ⟨by rfl,?_⟩) hHeld ?_
   rotate_left
   ·(intro w hSw;obtain ⟨z0,z1⟩:=hSw;go_simp;try with_reducible rfl)
   try simp only [Act.put,List.setIfInBounds_toArray,List.set_cons_zero,List.set_cons_succ]
   refine take_putH (i:=7) (v:=?_) (some 20) rfl (by kernel_rfl) (by kernel_rfl) (by kernel_rfl) (by kernel_rfl) (fun _ _ _ h => h) (Or.inl ⟨by rfl,?_⟩) hHeld ?_
   rotate_left
   ·(intro w hSw;obtain ⟨z0,z1⟩:=hSw;go_simp;try with_reducible rfl)
   try simp only [Act.put,List.setIfInBounds_toArray,List.set_cons_zero,List.set_cons_succ]
   refine take_putH (i:=8) (v:=?_) (some 21) rfl (by kernel_rfl) (by kernel_rfl) (by kernel_rfl) (by kernel_rfl) (fun _ _ _ h => h) (Or.inl ⟨by rfl,?_⟩) hHeld ?_
   rotate_left
   ·(intro w hSw;obtain ⟨z0,z1⟩:=hSw;go_simp;try with_reducible rfl)
   try simp only [Act.put,List.setIfInBounds_toArray,List.set_cons_zero,List.set_cons_succ]
   refine take_putH (i:=9) (v:=?_) (some 22) rfl (by kernel_rfl) (by kernel_rfl) (by kernel_rfl) (by kernel_rfl) (fun _ _ _ h => h) (Or.inl ⟨by rfl,?_⟩) hHeld ?_
   rotate_left
   ·(intro w hSw;obtain ⟨z0,z1⟩:=hSw;go_simp;try with_reducible rfl)
   try simp only [Act.put,List.setIfInBounds_toArray,List.set_cons_zero,List.set_cons_succ]
   refine take_putH (i:=10) (v:=?_) (some 23) rfl (by kernel_rfl) (by kernel_rfl) (by kernel_rfl) (by kernel_rfl) (fun _ _ _ h => h) (Or.inl ⟨by rfl,?_⟩) hHeld ?_
   rotate_left
   ·(intro w hSw;obtain ⟨z0,z1⟩:=hSw;go_simp;try with_reducible rfl)
   try simp only [Act.put,List.setIfInBounds_toArray,List.set_cons_zero,List.set_cons_succ]
   refine take_putH (i:=11) (v:=?_) (some 24) rfl (by kernel_rfl) (by kernel_rfl) (by kernel_rfl) (by kernel_rfl) (fun _ _ _ h => h) (Or.inl ⟨by rfl,?_⟩) hHeld ?_
   rotate_left
   ·(intro w hSw;obtain ⟨z0,z1⟩:=hSw;go_simp;try with_reducible rfl)
   try simp only [Act.put,List.setIfInBounds_toArray,List.set_cons_zero,List.set_cons_succ]
   refine take_putH (i:=12) (v:=?_) (some 25) rfl (by kernel_rfl) (by kernel_rfl) (by kernel_rfl) (by kernel_rfl) (fun _ _ _ h => h) (Or.inl ⟨by rfl,?_⟩) hHeld ?_
   rotate_left
   ·(intro w hSw;obtain ⟨z0,z1⟩:=hSw;go_simp;try with_reducible rfl)
   try simp only [Act.put,List.setIfInBounds_toArray,List.set_cons_zero,List.set_cons_succ]
   refine take_putH (i:=13) (v:=?_) (some 26) rfl (by kernel_rfl) (by kernel_rfl) (by kernel_rfl) (by kernel_rfl) (fun _ _ _ h => h) (Or.inl ⟨by rfl,?_⟩) hHeld ?_
   rotate_left
   ·(intro w hSw;obtain ⟨z0,z1⟩:=hSw;go_simp;try with_reducible rfl)
   try simp only [Act.put,List.setIfInBounds_toArray,List.set_cons_zero,List.set_cons_succ]
   refine take_putH (i:=15) (v:=?_) (some 28) rfl (by kernel_rfl) (by kernel_rfl) (by kernel_rfl) (by kernel_rfl) (fun _ _ _ h => h) (Or.inl ⟨by rfl,?_⟩) hHeld ?_
   rotate_left
   ·(intro w hSw;obtain ⟨z0,z1⟩:=hSw;go_simp;try with_reducible rfl)
   try simp only [Act.put,List.setIfInBounds_toArray,List.set_cons_zero,List.set_cons_succ]
   refine wpAnyH_ready (rs:=[14]) (by kernel_rfl) (by simp) ?_
   refine AllReadyH.cons rfl (fun K hK => ?_) AllReadyH.nil
   go_simp
   refine hK.out _ _ hHeld (fun _ => ?_)
   clear hK K
   try simp only [Act.put,List.getElem_toArray,List.getElem_cons_succ,List.getElem_cons_zero,List.setIfInBounds_toArray,List.set_cons_zero,List.set_cons_succ]
   refine take_putH (i:=16) (v:=?_) (some 29) rfl (by kernel_rfl) (by kernel_rfl) (by kernel_rfl) (by kernel_rfl) (fun _ _ _ h => h) (Or.inl ⟨by rfl,?_⟩) hHeld ?_
   rotate_left
   ·(intro w hSw;obtain ⟨z0,z1⟩:=hSw;go_simp;try with_reducible rfl)
   try simp only [Act.put,List.setIfInBounds_toArray,List.set_cons_zero,List.set_cons_succ]
   refine wpAnyH_ready (rs:=[17]) (by kernel_rfl) (by simp) ?_
   refine AllReadyH.cons rfl (fun K hK => ?_) AllReadyH.nil
   refine step_append_rd rfl (.tmp 19) (.tmp 29) rfl W1.heap.size a3 m c3 (L.take m) rfl HO3.out _ _ _ (s0.drop m) rfl HRX.out (fun e => by cases e) (by omega) HB3.out.size 64 (by omega) (L.take m ++ s0.drop m) rfl ?_
   intro a4 c4 w4 ho4 hg4 hb4
   have d0 : w4.cell? ⟨r,0,none⟩ = some (.slice (some ⟨rs,0,none⟩) ns cs):=hg4.cell c0 (fun e => by have:=HOB.out _ e.symm;have:=HFR.out.1;simp only at *;omega)
   have da : w4.cell? ⟨w.heap.size,0,none⟩ = some (.int .i64 (pa : Int)):=hg4.cell ca (fun e => by have:=HOB.out _ e.symm;have:=HFR.out.2.1;simp only at *;omega)
   have HD4 : Hid (Rk w4 base r q (.slice (some ⟨rs,0,none⟩) ns cs) wv SV WV D):=HD.out.stay ((HB03.out.trans (hb4.mono (by have:=HZ1.out;omega))))
   have HM4 : Hid (Mr w w4 base):=Mr.of_below (HB03.out.trans (hb4.mono (by have:=HZ1.out;omega))) HBS.out
   have HY4 : Hid (Byt w4 q (.slice a4 64 c4) (L.take m ++ s0.drop m)):=Byt.of_own ho4 (by have:=HZ1.out;have:=HQ.out;omega)
   have f4 : w4.frozen? ⟨rs,pa,none⟩ = false:=by
    have:=HD4.out.srow
    rw [← HNS.out] at this
    exact this.frozenAt pa
   obtain ⟨_,_,c4',_⟩:=HD4.out.sureAt HS0.out
   obtain ⟨hd5,hm5⟩:=HD4.out.replaced HPA.out HY4.out
   have HD5 : Hid (Rk (w4.setCell ⟨rs,pa,none⟩ (.slice a4 64 c4)) base r q (.slice (some ⟨rs,0,none⟩) ns cs) wv (SV.set pa (.slice a4 64 c4)) WV { D with sure:=D.sure.set pa (L.take m ++ s0.drop m) }):=hd5
   have HM5 : Hid (Mr w (w4.setCell ⟨rs,pa,none⟩ (.slice a4 64 c4)) base):=HM4.out.trans hm5
   have HNE : Hid (r ≠ rs ∧ w.heap.size ≠ rs):=by
    refine ⟨fun e => ?_,fun e => ?_⟩
    ·have:=HD4.out.apart.1;rw [e] at this;exact this rfl
    ·have:=(HD.out.srow.lt rs rfl).2;omega
   clear ho4 hg4 hb4 hd5 hm5
   refine hK.out _ _ ⟨d0,da⟩ (fun _ => ?_)
   clear hK K
   try simp only [Act.put,List.getElem_toArray,List.getElem_cons_succ,List.getElem_cons_zero,List.setIfInBounds_toArray,List.set_cons_zero,List.set_cons_succ]
   refine take_putH (i:=18) (v:=?_) (some 31) rfl (by kernel_rfl) (by kernel_rfl) (by kernel_rfl) (by kernel_rfl) (fun _ _ _ h => h) (Or.inl ⟨by rfl,?_⟩) ⟨d0,da⟩ ?_
   rotate_left
   ·(intro w hSw;obtain ⟨z0,z1⟩:=hSw;go_simp;try with_reducible rfl)
   try simp only [Act.put,List.setIfInBounds_toArray,List.set_cons_zero,List.set_cons_succ]
   refine wpAnyH_ready (rs:=[19]) (by kernel_rfl) (by simp) ?_
   refine AllReadyH.cons rfl (fun K hK => ?_) AllReadyH.nil
   go_simp
   refine hK.out _ _ ⟨cell_far (grown_cell _ _ _ _) d0 HNE.out.1,cell_far (grown_cell _ _ _ _) da HNE.out.2⟩ (fun _ => ?_)
   clear hK K c0 ca d0 da c4' f4
   try simp only [Act.put,List.getElem_toArray,List.getElem_cons_succ,List.getElem_cons_zero,List.setIfInBounds_toArray,List.set_cons_zero,List.set_cons_succ]
   refine wpAnyH_done (by kernel_rfl) ?_ _
   go_wp2
   go_returns
   exact ⟨rfl,⟨_,HD5.out⟩,HM5.out⟩ )
end Go.Proofs.YtghajmcohdedlaaGreat
