import Derived.Test.YtghajmcohdedlaaGreatSec3
import Derived.Deep.RegionHeld3
namespace Go.Proofs.YtghajmcohdedlaaGreat
open Go.RowKit
def fateU (f : Int) : Nat:=(f % 18446744073709551616).toNat
theorem fateU_lt (f : Int) : fateU f < 18446744073709551616:=by unfold fateU;omega
def doneN (m : Nat) : Nat:=if m % 3 = 1 then 64 else if m % 3 = 2 then m / 3 % 64 else 0
theorem doneN_le (m : Nat) : doneN m ≤ 64:=by unfold doneN;split <;> (try split) <;> omega
set_option maxRecDepth 100000 in
theorem sector_done (m : Nat) (hm : m < 18446744073709551616) (w : World) : Calls Tryz.prog 69 #[.int .u64 (m : Int)] w fun e w' => e = .returned (.int .u64 (doneN m : Int)) ∧ w' = w:=by
 obtain ⟨R,HR⟩ : ∃ R,Hid (R = doneN m):=⟨_,rfl⟩
 rw [← HR.out]
 by_cases h1 : m % 3 = 1
 ·have HX : Hid (R = 64):=by show _ = _;rw [HR.out,doneN,if_pos h1]
  have h1' : (m : Int) % 3 = 1:=by omega
  go_enter Tryz.func69,Tryz.ntmps69
  go_wp2
  go_ret
  exact ⟨by rw [HX.out];rfl,rfl⟩
 ·by_cases h2 : m % 3 = 2
  ·obtain ⟨q,hq⟩ : ∃ q : Nat,q = m / 3 % 64:=⟨_,rfl⟩
   have HX : Hid (R = q):=by show _ = _;rw [HR.out,doneN,if_neg h1,if_pos h2,hq]
   have h2' : (m : Int) % 3 = 2:=by omega
   have hq' : (m : Int) / 3 % 64 = (q : Int):=by omega
   go_enter Tryz.func69,Tryz.ntmps69
   go_wp2
   go_ret
   exact ⟨ret_int (by rw [HX.out];exact hq'),rfl⟩
  ·have HX : Hid (R = 0):=by show _ = _;rw [HR.out,doneN,if_neg h1,if_neg h2]
   have h0' : (m : Int) % 3 = 0:=by omega
   go_enter Tryz.func69,Tryz.ntmps69
   go_wp2
   go_ret
   exact ⟨by rw [HX.out];rfl,rfl⟩
structure FtRd (w : World) (a : Option Addr) (n : Nat) (F : List Int) : Prop where
 size : F.length = n
 cells : n = 0 ∨ ∃ b off,a = some ⟨b,off,none⟩ ∧ ∀ i,i < n → w.cell? ⟨b,off + i,none⟩ = some (.int .i64 (F.getD i 0))
def crashL : List (List Nat) → List (Nat × List Nat) → List Int → List (List Nat)
 | S,[],_ => S
 | S,_ :: _,[] => S
 | S,p :: W,f :: F => crashL (S.set p.1 (p.2.take (doneN (fateU f)) ++ (S.getD p.1 []).drop (doneN (fateU f)))) W F
def crashD (D : Dk) (F : List Int) : Dk:=⟨crashL D.sure D.waits F,[],0,false,D.age + 1⟩
theorem torn_sec {s t : List Nat} (hs : Sec s) (ht : Sec t) {m : Nat} (hm : m ≤ 64) : Sec (t.take m ++ s.drop m):=by
 refine ⟨by rw [List.length_append,List.length_take,List.length_drop,hs.len,ht.len];omega,fun b hb => ?_⟩
 rcases List.mem_append.1 hb with h | h
 ·exact ht.byte b (List.mem_of_mem_take h)
 ·exact hs.byte b (List.mem_of_mem_drop h)
theorem flat_part {α : Type} (f : α → List Value) (n : Nat) : ∀ (L : List α),(∀ s ∈ L,(f s).length = n) → ∀ (i : Nat) (s t : α) (cs : List Value),L[i]? = some s → cs.length ≤ n → f t = cs ++ (f s).drop cs.length → splice (L.flatMap f) (i * n) cs = (L.set i t).flatMap f
 | [],_,i,s,t,cs,h,_,_ => by simp at h
 | u :: L,hL,0,s,t,cs,h,hc,ht => by
  simp only [List.getElem?_cons_zero,Option.some.injEq] at h
  subst h
  have e:=hL u (by simp)
  rw [List.set_cons_zero,List.flatMap_cons,List.flatMap_cons,splice,Nat.zero_mul,List.take_zero,List.nil_append,Nat.zero_add,ht,List.drop_append_of_le_length (by omega),List.append_assoc]
 | u :: L,hL,i + 1,s,t,cs,h,hc,ht => by
  rw [List.getElem?_cons_succ] at h
  have e:=hL u (by simp)
  have ih:=flat_part f n L (fun s hs => hL s (by simp [hs])) i s t cs h hc ht
  rw [List.set_cons_succ,List.flatMap_cons,List.flatMap_cons,← ih]
  unfold splice
  rw [show (i + 1) * n = (f u).length + i * n from by rw [Nat.add_mul,e];omega,List.take_length_add_append,Nat.add_assoc,List.drop_length_add_append,List.append_assoc]
theorem Disk.torn {w w' : World} {base g gs : Nat} {wv : Value} {D : Dk} (h : Disk w base g gs wv D) {i : Nat} {s t : List Nat} (hi : D.sure[i]? = some s) (ht : Sec t) {m : Nat} (hm : m ≤ 64)
  (hb : Blk w' gs (splice (scells D.sure) (i * 64) (vb (t.take m))).toArray 97) (hg : w.grownBy w' (some gs)) : Disk w' base g gs wv { D with sure:=D.sure.set i (t.take m ++ s.drop m) }:=by
 obtain ⟨a1,a2,a3⟩:=h.apart
 have hs:=h.sec s (List.mem_of_getElem? hi)
 have e : splice (scells D.sure) (i * 64) (vb (t.take m)) = scells (D.sure.set i (t.take m ++ s.drop m)):=by
  have hl : (vb (t.take m)).length = m:=by rw [vb_length,List.length_take,ht.len];omega
  refine flat_part vb 64 D.sure (fun u hu => by rw [vb_length,(h.sec u hu).len]) i s _ _ hi (by omega) ?_
  rw [vb_append,hl]
  unfold vb
  rw [List.map_drop]
 rw [e] at hb
 have hk : Blk w' g _ 79:=h.blk.grown hg (by simpa using a1)
 refine ⟨by rw [List.length_set];exact hk,hb,own_stay h.wrow (fun k hk => hg.block k (h.wrow.lt k hk).2 (fun e => a3 (by rw [← e,hk]))),h.bg,h.bs,by rw [List.length_set];exact h.sz,fun u hu => ?_,fun p hp => by rw [List.length_set];exact h.wts p hp,h.tr,h.ag,h.wl⟩
 rcases List.mem_or_eq_of_mem_set hu with hu | rfl
 ·exact h.sec u hu
 ·exact torn_sec hs ht hm
theorem Disk.fin {w : World} {base g gs : Nat} {wv : Value} {D : Dk} {S : List (List Nat)} (h : Disk w base g gs wv { D with sure:=S }) (ha : D.age < 1000000000) :
  Disk ((((w.setCell ⟨g,1,none⟩ (.slice none 0 0)).setCell ⟨g,2,none⟩ (.int .i64 0)).setCell ⟨g,3,none⟩ (.bool false)).setCell ⟨g,4,none⟩ (.int .i64 ((D.age : Int) + 1))) base g gs (.slice none 0 0) ⟨S,[],0,false,D.age + 1⟩ ∧
  Mv w ((((w.setCell ⟨g,1,none⟩ (.slice none 0 0)).setCell ⟨g,2,none⟩ (.int .i64 0)).setCell ⟨g,3,none⟩ (.bool false)).setCell ⟨g,4,none⟩ (.int .i64 ((D.age : Int) + 1))) base g gs:=by
 obtain ⟨a1,a2,a3⟩:=h.apart
 have hg:=grown_trans (grown_trans (grown_trans (grown_cell w g 1 (.slice none 0 0)) (grown_cell _ g 2 (.int .i64 0))) (grown_cell _ g 3 (.bool false))) (grown_cell _ g 4 (.int .i64 ((D.age : Int) + 1)))
 have hk:=(((h.blk.set 1 (.slice none 0 0)).set 2 (.int .i64 0)).set 3 (.bool false)).set 4 (.int .i64 ((D.age : Int) + 1))
 exact ⟨⟨hk,h.srow.grown hg (by simpa using a1.symm),World.ownsRow_nil _ _ _ _,h.bg,h.bs,h.sz,h.sec,(fun p hp => by cases hp),Nat.zero_le _,ha,Nat.zero_le _⟩,Mv.of_grown (.inl rfl) h.bg hg (Nat.le_trans h.bg (Nat.le_of_lt h.blk.lt))⟩
theorem cell_far {w w' : World} {k : Nat} {a : Addr} {v : Value} (hg : w.grownBy w' (some k)) (h : w.cell? a = some v) (hne : a.block ≠ k) : w'.cell? a = some v:=hg.cell h (by simpa using hne)
structure Mc (w w' : World) (base g gs : Nat) : Prop where
 low : Below base w w'
 block : ∀ (k : Nat),k < w.heap.size → k ≠ g → k ≠ gs → w'.heap[k]? = w.heap[k]?
theorem Mc.refl (w : World) (base g gs : Nat) : Mc w w base g gs:=⟨Below.refl _ _,fun _ _ _ _ => rfl⟩
theorem Mc.trans {w w1 w2 : World} {base g gs : Nat} (h : Mc w w1 base g gs) (h2 : Mc w1 w2 base g gs) : Mc w w2 base g gs :=
 ⟨h.low.trans h2.low,fun k h3 h4 h5 => (h2.block k (Nat.lt_of_lt_of_le h3 h.low.size) h4 h5).trans (h.block k h3 h4 h5)⟩
theorem Mc.of_below {w w' : World} {base : Nat} (g gs : Nat) (h : Below w.heap.size w w') (hb : base ≤ w.heap.size) : Mc w w' base g gs:=⟨h.mono hb,fun k h5 _ _ => h.block k h5⟩
theorem Mc.of_grown {w w' : World} {base g gs : Nat} {k : Nat} (hk : k = g ∨ k = gs) (hb : base ≤ k) (h : w.grownBy w' (some k)) (hs : base ≤ w.heap.size) : Mc w w' base g gs :=
 ⟨(Below.refl _ _).grown h hs (fun j hj => by simp only [Option.some.injEq] at hj;omega),fun j h5 h1 h2 => h.block j h5 (fun e => by simp only [Option.some.injEq] at e;rcases hk with rfl | rfl <;> omega)⟩
theorem Mc.mv {w w' : World} {base g gs : Nat} (h : Mc w w' base g gs) : Mv w w' base g gs:=⟨h.low,fun k cs t fr h1 h2 h3 _ => by rw [h.block k (heap_lt h3) h1 h2];exact h3⟩
theorem Disk.finc {w : World} {base g gs : Nat} {wv : Value} {D : Dk} {S : List (List Nat)} (h : Disk w base g gs wv { D with sure:=S }) :
  Mc w ((((w.setCell ⟨g,1,none⟩ (.slice none 0 0)).setCell ⟨g,2,none⟩ (.int .i64 0)).setCell ⟨g,3,none⟩ (.bool false)).setCell ⟨g,4,none⟩ (.int .i64 ((D.age : Int) + 1))) base g gs :=
 Mc.of_grown (.inl rfl) h.bg (grown_trans (grown_trans (grown_trans (grown_cell w g 1 (.slice none 0 0)) (grown_cell _ g 2 (.int .i64 0))) (grown_cell _ g 3 (.bool false))) (grown_cell _ g 4 (.int .i64 ((D.age : Int) + 1)))) (Nat.le_trans h.bg (Nat.le_of_lt h.blk.lt))
set_option maxRecDepth 100000 in
set_option maxHeartbeats 4000000 in
theorem disk_CrashC (w : World) (base g gs : Nat) (wv : Value) (D : Dk) (a : Option Addr) (n c : Nat) (F : List Int) (h : Disk w base g gs wv D) (hf : ∀ w',Mv w w' base g gs → FtRd w' a n F) (hfb : ∀ b off,a = some ⟨b,off,none⟩ → 0 < n → b ≠ gs) (hn : n ≤ 9223372036854775000) (ha : D.age < 1000000000) :
  Calls Tryz.prog 34 #[.pointer (some ⟨g,0,none⟩),.slice a n c] w fun e w' => e = .returned (.int .i64 0) ∧ Hid (Disk w' base g gs (.slice none 0 0) (crashD D F)) ∧ Mc w w' base g gs:=by
 have HD : Hid (Disk w base g gs wv D):=h
 have HF : Hid (∀ w',Mv w w' base g gs → FtRd w' a n F):=hf
 have HFL : Hid (F.length = n):=(hf w (Mv.refl _ _ _ _)).size
 have hwl:=h.wl
 obtain ⟨aw,nw,cw,rfl⟩:=own_slice h.wrow
 have hnw : nw = D.waits.length:=by
  rcases h.form with ⟨h0,a',c',h1⟩ | ⟨gw,c',h1,_⟩
  ·simp only [Value.slice.injEq] at h1;rw [h0];exact h1.2.1
  ·simp only [Value.slice.injEq] at h1;exact h1.2.1
 have HNW : Hid (nw = D.waits.length):=hnw
 rw [← hnw] at hwl
 have c1 : w.cell? ⟨g,1,none⟩ = some (.slice aw nw cw):=h.blk.cell 1 rfl
 obtain ⟨R,HR⟩ : ∃ R,Hid (R = crashL D.sure D.waits F):=⟨_,rfl⟩
 have HCD : Hid (crashD D F = ⟨R,[],0,false,D.age + 1⟩):=by show _ = _;rw [crashD,HR.out]
 rw [HCD.out]
 clear h hf hnw
 go_enter Tryz.func34,Tryz.ntmps34
 go_wp2
 go_loopw [14] (fun t14 wr => ∃ (k : Nat) (S : List (List Nat)),k ≤ nw ∧ t14 = .int .i64 (k : Int) ∧ Hid (R = crashL S (D.waits.drop k) (F.drop k)) ∧ Hid (k ≤ n) ∧ Hid (Disk wr base g gs (.slice aw nw cw) { D with sure:=S }) ∧ Hid (Mc w wr base g gs)) (fun t14 _ => nw - (intOf t14).toNat)
 case atStart => exact ⟨0,D.sure,by omega,rfl,HR,Nat.zero_le _,HD,Mc.refl _ _ _ _⟩
 case round =>
  obtain ⟨k,S,hk,rfl,HE,HKN,HDr,HM⟩:=hrel
  by_cases hlt : k < nw
  ·have hlt' : (k : Int) < (nw : Int):=by omega
   have hkw : k < D.waits.length:=by have:=HNW.out;omega
   obtain ⟨gw,rfl⟩ : ∃ gw,aw = some ⟨gw,0,none⟩:=by
    rcases HDr.out.form with ⟨h0,_⟩ | ⟨gw,c',h1,_⟩
    ·simp only at h0;rw [h0] at hkw;simp at hkw
    ·simp only [Value.slice.injEq] at h1;exact ⟨gw,h1.1⟩
   obtain ⟨p,hp⟩ : ∃ p,D.waits[k]? = some p:=⟨D.waits[k],List.getElem?_eq_getElem hkw⟩
   have HRG : Hid (wr.rangeAt gw (k * 65) (wcells p)):=HDr.out.wait hp
   have HPW : Hid (p.1 < S.length ∧ Sec p.2):=HDr.out.wts p (List.mem_of_getElem? hp)
   have HWL : Hid ((wcells p).length = 65):=wcells_len HPW.out.2
   have HPD : Hid (D.waits.drop k = p :: D.waits.drop (k + 1)):=by
    show _ = _
    rw [List.drop_eq_getElem_cons hkw]
    congr 1
    rw [List.getElem?_eq_getElem hkw] at hp
    exact Option.some.inj hp
   obtain ⟨Z,HZ⟩ : ∃ Z : List Value,Hid (Z = Value.int .i64 0 :: List.replicate 64 (Value.int .u8 0)):=⟨_,rfl⟩
   have HZL : Hid (Z.length = 65):=by show _ = _;rw [HZ.out];simp
   have HZI : Hid ((Tryz.prog.info? 99).map (fun i => (i.zero,i.size)) = some (some (.agg Z.toArray),65)):=by show _ = _;rw [HZ.out];exact infoWriteZ
   have hk0 : (0 : Int) ≤ (k : Int):=by omega
   clear hp HZ hkw
   go_wp2_with (first
    | (guard_target =~ wpList _ _ _ (Oper.mk (some 18) _ _ _ _ _ :: _) _ _;refine wpList_load_mid rfl 99 (.tmp 17) rfl gw (k * 65) rfl (wcells p) _ HRG.out Tryz.underlying99 rfl (by rw [HWL.out];exact infoWrite) ?_)
    | (guard_target =~ wpList _ _ _ (Oper.mk (some 6) _ _ _ _ _ :: _) _ _;refine wpList_alloc_row rfl 99 rfl Z 65 HZI.out ?_))
   intro w1 hk1 hb1 hs1
   have HBr : Hid (base ≤ wr.heap.size):=Nat.le_trans HDr.out.bg (Nat.le_of_lt HDr.out.blk.lt)
   have HK1 : Hid (Blk w1 wr.heap.size Z.toArray 99):=hk1
   have HB1 : Hid (Below wr.heap.size wr w1):=hb1
   clear hk1 hb1 hs1
   go_wp2_with (guard_target =~ wpList _ _ _ (Oper.mk none _ _ _ _ _ :: _) _ _;refine wpList_store_row rfl 99 (.tmp 6) (.tmp 18) rfl wr.heap.size 0 (wcells p) rfl rfl Z 99 HK1.out (by rw [HWL.out,HZL.out];omega) (by rw [HWL.out];exact infoWrite) (wcells_one p) ?_)
   intro w2 hk2 hg2
   have HK2 : Hid (Blk w2 wr.heap.size (wcells p).toArray 99):=by
    rw [splice_all Z (wcells p) (by rw [HZL.out,HWL.out])] at hk2
    exact hk2
   have HB2 : Hid (Below wr.heap.size wr w2):=HB1.out.trans ((Below.refl _ _).grown hg2 HB1.out.size (fun k hk => by simp only [Option.some.injEq] at hk;omega))
   have HD2 : Hid (Disk w2 base g gs (.slice (some ⟨gw,0,none⟩) nw cw) { D with sure:=S }):=HDr.out.stay HB2.out
   have HM2 : Hid (Mc w w2 base g gs):=HM.out.trans (Mc.of_below g gs HB2.out HBr.out)
   clear hk2 hg2 HK1 HB1
   by_cases hkn : k = n
   ·have hkn' : (k : Int) = (n : Int):=by omega
    have HX : Hid (R = S):=by
     show _ = _
     have hF0 : F.drop k = []:=List.drop_of_length_le (by rw [HFL.out];omega)
     rw [HE.out,HPD.out,hF0]
     rfl
    have HDF:=(HD2.out.fin ha).1
    have HMF:=HD2.out.finc
    have HDF' : Hid (Disk _ base g gs _ _):=HDF
    have HMF' : Hid (Mc _ _ base g gs):=HMF
    have d1 : w2.cell? ⟨g,1,none⟩ = some (.slice (some ⟨gw,0,none⟩) nw cw):=HD2.out.blk.cell 1 rfl
    have d2 : w2.cell? ⟨g,2,none⟩ = some (.int .i64 (D.trip : Int)):=HD2.out.blk.cell 2 rfl
    have d3 : w2.cell? ⟨g,3,none⟩ = some (.bool D.down):=HD2.out.blk.cell 3 rfl
    have d4 : w2.cell? ⟨g,4,none⟩ = some (.int .i64 (D.age : Int)):=HD2.out.blk.cell 4 rfl
    have f1:=HD2.out.blk.free 1
    have f2:=HD2.out.blk.free 2
    have f3:=HD2.out.blk.free 3
    have f4:=HD2.out.blk.free 4
    have hag : (D.age : Int) < 1000000000:=by omega
    clear HDF HMF
    go_wp2
    go_ret
    exact ⟨rfl,by show Disk _ _ _ _ _ _;rw [HX.out];exact HDF'.out,HM2.out.trans HMF'.out⟩
   ·have hknl : k < n:=by have:=HKN.out;omega
    have hkn' : ¬ (k : Int) = (n : Int):=by omega
    have hknb : (k : Int) < (n : Int):=by omega
    have hft:=HF.out w2 HM2.out.mv
    obtain ⟨b,off,rfl,hfc⟩ : ∃ b off,a = some ⟨b,off,none⟩ ∧ ∀ i,i < n → w2.cell? ⟨b,off + i,none⟩ = some (.int .i64 (F.getD i 0)):=by
     rcases hft.cells with h0 | h0
     ·omega
     ·exact h0
    obtain ⟨f,hfe⟩ : ∃ f,f = F.getD k 0:=⟨_,rfl⟩
    have cf : w2.cell? ⟨b,off + k,none⟩ = some (.int .i64 f):=by rw [hfe];exact hfc k hknl
    have HFD : Hid (F.drop k = f :: F.drop (k + 1)):=by
     have hkF : k < F.length:=by rw [HFL.out];exact hknl
     show _ = _
     rw [List.drop_eq_getElem_cons hkF,hfe,List.getD_eq_getElem?_getD,List.getElem?_eq_getElem hkF]
     rfl
    clear hft hfc hfe
    obtain ⟨fu,hfu⟩ : ∃ fu,fu = fateU f:=⟨_,rfl⟩
    have HFU : Hid (fu = fateU f):=hfu
    have hfl : fu < 18446744073709551616:=by rw [hfu];exact fateU_lt f
    have y1 : IntKind.u64.wrap f = (fu : Int):=by rw [IntKind.wrap_u64,hfu,fateU];omega
    obtain ⟨m,hmd⟩ : ∃ m,m = doneN fu:=⟨_,rfl⟩
    have hm64 : m ≤ 64:=by rw [hmd];exact doneN_le fu
    have HMD : Hid (m = doneN fu):=hmd
    obtain ⟨pa,L⟩:=p
    obtain ⟨ns,hns⟩ : ∃ ns,ns = S.length:=⟨_,rfl⟩
    have hpa : pa < S.length:=HPW.out.1
    have HLS : Hid (Sec L):=HPW.out.2
    obtain ⟨s0,hs0⟩ : ∃ s0,S[pa]? = some s0:=⟨S[pa],List.getElem?_eq_getElem hpa⟩
    have HS0 : Hid (S[pa]? = some s0):=hs0
    have c0 : w2.cell? ⟨g,0,none⟩ = some (.slice (some ⟨gs,0,none⟩) ns ns):=by rw [hns];exact HD2.out.blk.cell 0 rfl
    have ca : w2.cell? ⟨wr.heap.size,0,none⟩ = some (.int .i64 (pa : Int)):=HK2.out.cell 0 rfl
    have hnsb : ns ≤ 512:=by rw [hns];exact HD2.out.sz
    rw [← hns] at hpa
    have q1 : (0 : Int) ≤ (pa : Int):=by omega
    have q2 : (pa : Int) < (ns : Int):=by omega
    have q3 : (0 : Int) ≤ (m : Int):=by omega
    have q4 : (m : Int) ≤ 64:=by omega
    have HDd : Hid (Disk w2.drew base g gs (.slice (some ⟨gw,0,none⟩) nw cw) { D with sure:=S }):=HD2.out.stay (Below.refl _ _).drew
    have HKd : Hid (Blk w2.drew wr.heap.size (wcells (pa,L)).toArray 99):=HK2.out
    have HMd : Hid (Mc w w2.drew base g gs):=HM2.out.trans (Mc.of_below g gs (Below.refl _ _).drew (Nat.le_trans HD2.out.bg (Nat.le_of_lt HD2.out.blk.lt)))
    obtain ⟨V,hV⟩ : ∃ V,V = vb (L.take m):=⟨_,rfl⟩
    have HVL : Hid (V.length = m):=by show _ = _;rw [hV,vb_length,List.length_take,HLS.out.len];omega
    have HV1 : Hid (∀ v ∈ V,v.oneCell' = true):=by show ∀ v ∈ V,_;rw [hV];exact vb_one _
    have HVV : Hid (V = vb (L.take m)):=hV
    have HSL : Hid (pa * 64 + V.length ≤ (scells S).length):=by
     show _ ≤ _
     rw [scells_len S HD2.out.sec,HVL.out,← hns]
     omega
    have HSRC : Hid (∀ q v,V[q]? = some v → w2.drew.cell? ((⟨wr.heap.size,1,none⟩ : Addr).add q) = some v):=by
     intro q v hq
     have e : (⟨wr.heap.size,1,none⟩ : Addr).add q = ⟨wr.heap.size,1 + q,none⟩:=by unfold Addr.add;split <;> simp_all
     rw [e]
     refine HKd.out.cell (1 + q) ?_
     rw [hV] at hq
     have hql : q < L.length ∧ q < m:=by
      have:=(List.getElem?_eq_some_iff.1 hq).1
      rw [vb_length,List.length_take] at this
      omega
     have e2 : (vb (L.take m))[q]? = (vb L)[q]?:=by
      unfold vb
      rw [List.map_take,List.getElem?_take_of_lt hql.2]
     rw [e2] at hq
     show (wcells (pa,L)).toArray[1 + q]? = some v
     rw [List.getElem?_toArray,wcells,Nat.add_comm 1 q,List.getElem?_cons_succ]
     exact hq
    have HA : Hid (g ≠ gs ∧ wr.heap.size ≠ gs ∧ b ≠ gs):=⟨HD2.out.apart.1,fun e => by have:=HDr.out.srow.lt;omega,hfb b off rfl (by omega)⟩
    clear hmd hfu hns hs0 hV
    go_wp2
    go_region_held3 (fun w' => w'.cell? ⟨g,0,none⟩ = some (.slice (some ⟨gs,0,none⟩) ns ns) ∧ w'.cell? ⟨wr.heap.size,0,none⟩ = some (.int .i64 (pa : Int)) ∧ w'.cell? ⟨b,off + k,none⟩ = some (.int .i64 f)) (first | exact ⟨c0,ca,cf⟩ | exact ⟨c3,ca3,cf3⟩ | fail)
     (first
      | (go_at_call 69;refine (sector_done fu hfl _).mono ?_;rw [← HMD.out];rintro e w4 ⟨rfl,rfl⟩)
      | (guard_target =~ (if Region.wanted (Oper.mk (some 39) _ _ _ _ _) _ = true then _ else _);refine step_copy_fr rfl (.tmp 30) (.tmp 38) 27 27 rfl 5 Tryz.underlying27 infoByteSz (some ⟨gs,pa * 64,none⟩) (some ⟨wr.heap.size,1,none⟩) 64 64 m 64 rfl rfl gs (pa * 64) (scells S) 97 HDd.out.srow V (by rw [HVL.out];exact (Nat.min_eq_left hm64).symm) (fun _ => ⟨rfl,_,rfl,HSRC.out⟩) HSL.out HV1.out ?_;intro w3 hk3 hg3;have c3 : w3.cell? ⟨g,0,none⟩ = some (.slice (some ⟨gs,0,none⟩) ns ns):=cell_far hg3 c0 HA.out.1;have ca3 : w3.cell? ⟨wr.heap.size,0,none⟩ = some (.int .i64 (pa : Int)):=cell_far hg3 ca HA.out.2.1;have cf3 : w3.cell? ⟨b,off + k,none⟩ = some (.int .i64 f):=cell_far hg3 cf HA.out.2.2))
    have HD3 : Hid (Disk w3 base g gs (.slice (some ⟨gw,0,none⟩) nw cw) { D with sure:=S.set pa (L.take m ++ s0.drop m) }):=by
     rw [HVV.out] at hk3
     exact HDd.out.torn HS0.out HLS.out hm64 hk3 hg3
    have HM3 : Hid (Mc w w3 base g gs):=HMd.out.trans (Mc.of_grown (.inr rfl) HDd.out.bs hg3 (Nat.le_trans HDd.out.bg (Nat.le_of_lt HDd.out.blk.lt)))
    have HE3 : Hid (R = crashL (S.set pa (L.take m ++ s0.drop m)) (D.waits.drop (k + 1)) (F.drop (k + 1))):=by
     show _ = _
     rw [HE.out,HPD.out,HFD.out,crashL,← HFU.out,← HMD.out]
     have e : S.getD pa [] = s0:=by rw [List.getD_eq_getElem?_getD,HS0.out];rfl
     rw [e]
    clear hk3 hg3 c0 ca cf
    go_wp2
    go_roundw
    case rel => exact ⟨k + 1,_,by omega,by go_num,HE3,by show _ ≤ _;omega,HD3,HM3⟩
    case measure => simp [intOf];omega
  ·obtain rfl : k = nw:=by omega
   have HX : Hid (R = S):=by
    show _ = _
    rw [HE.out,List.drop_of_length_le (by have:=HNW.out;omega)]
    cases F.drop k <;> rfl
   have HDF:=(HDr.out.fin ha).1
   have HMF:=HDr.out.finc
   have HDF' : Hid (Disk _ base g gs _ _):=HDF
   have HMF' : Hid (Mc _ _ base g gs):=HMF
   have d1 : wr.cell? ⟨g,1,none⟩ = some (.slice aw k cw):=HDr.out.blk.cell 1 rfl
   have d2 : wr.cell? ⟨g,2,none⟩ = some (.int .i64 (D.trip : Int)):=HDr.out.blk.cell 2 rfl
   have d3 : wr.cell? ⟨g,3,none⟩ = some (.bool D.down):=HDr.out.blk.cell 3 rfl
   have d4 : wr.cell? ⟨g,4,none⟩ = some (.int .i64 (D.age : Int)):=HDr.out.blk.cell 4 rfl
   have f1:=HDr.out.blk.free 1
   have f2:=HDr.out.blk.free 2
   have f3:=HDr.out.blk.free 3
   have f4:=HDr.out.blk.free 4
   have hag : (D.age : Int) < 1000000000:=by omega
   clear HDF HMF
   go_wp2
   go_ret
   exact ⟨rfl,by show Disk _ _ _ _ _ _;rw [HX.out];exact HDF'.out,HM.out.trans HMF'.out⟩
theorem disk_Crash (w : World) (base g gs : Nat) (wv : Value) (D : Dk) (a : Option Addr) (n c : Nat) (F : List Int) (h : Disk w base g gs wv D) (hf : ∀ w',Mv w w' base g gs → FtRd w' a n F) (hfb : ∀ b off,a = some ⟨b,off,none⟩ → b ≠ gs) (hn : n ≤ 9223372036854775000) (ha : D.age < 1000000000) :
  Calls Tryz.prog 34 #[.pointer (some ⟨g,0,none⟩),.slice a n c] w fun e w' => e = .returned (.int .i64 0) ∧ Hid (Disk w' base g gs (.slice none 0 0) (crashD D F)) ∧ Mv w w' base g gs :=
 (disk_CrashC w base g gs wv D a n c F h hf (fun b off e _ => hfb b off e) hn ha).mono fun _ _ h => ⟨h.1,h.2.1,h.2.2.mv⟩
end Go.Proofs.YtghajmcohdedlaaGreat

namespace Go.Proofs.YtghajmcohdedlaaGreat
open Go.RowKit
def newD (n : Nat) : Dk:=⟨List.replicate n (List.replicate 64 0),[],0,false,0⟩
theorem infoBlockB : (Tryz.prog.info? 97).map (fun i => (i.zero,i.size,i.bytes)) = some (some (.agg (List.replicate 64 (Value.int .u8 0)).toArray),64,64):=by kernel_rfl
theorem zeros_cells : ∀ n,scells (List.replicate n (List.replicate 64 0)) = List.replicate (n * 64) (Value.int .u8 0)
 | 0 => rfl
 | n + 1 => by
  have e : vb (List.replicate 64 0) = List.replicate 64 (Value.int .u8 0):=by simp [vb]
  rw [List.replicate_succ,scells,List.flatMap_cons,e]
  have:=zeros_cells n
  rw [scells] at this
  rw [this,List.replicate_append_replicate]
  congr 1
  omega
theorem made_zeros (m : Nat) : (madeCells (List.replicate 64 (Value.int .u8 0)).toArray m).toList = List.replicate m (Value.int .u8 0):=by
 have hz : ∀ k,(List.replicate 64 (Value.int .u8 0)).toArray[k % 64]! = Value.int .u8 0:=by
  intro k
  have hk : k % 64 < 64:=Nat.mod_lt _ (by omega)
  rw [getElem!_pos _ _ (by simpa using hk)]
  simp only [List.getElem_toArray,List.getElem_replicate]
 simp only [madeCells]
 apply List.ext_getElem
 ·simp
 ·intro i h1 h2
  rw [List.getElem_replicate]
  have e : (List.replicate 64 (Value.int .u8 0)).toArray.size = 64:=by simp
  simp only [Array.toList_map,List.getElem_map,e,hz]
def NewTold (w w' : World) (n : Int) (e : Ending) : Prop :=
 (¬ (1 ≤ n ∧ n ≤ 512) ∧ e = .returned (.tuple #[.pointer none,.int .i64 2])) ∨
 ((1 ≤ n ∧ n ≤ 512) ∧ ∃ g,e = .returned (.tuple #[.pointer (some ⟨g,0,none⟩),.int .i64 0]) ∧ Disk w' w.heap.size g w.heap.size (.slice none 0 0) (newD n.toNat))
set_option maxRecDepth 100000 in
set_option maxHeartbeats 1000000 in
theorem sector_New (n : Int) (w : World) : Calls Tryz.prog 23 #[.int .i64 n] w fun e w' => Hid (NewTold w w' n e) ∧ Below w.heap.size w w':=by
 by_cases h1 : n < 1
 ·go_enter Tryz.func23,Tryz.ntmps23
  go_wp2
  go_returns
  exact ⟨.inl ⟨by omega,rfl⟩,Below.refl _ _⟩
 ·by_cases h2 : 512 < n
  ·go_enter Tryz.func23,Tryz.ntmps23
   go_wp2
   go_returns
   exact ⟨.inl ⟨by omega,rfl⟩,Below.refl _ _⟩
  ·obtain ⟨m,rfl⟩:=Int.eq_ofNat_of_zero_le (show 0 ≤ n by omega)
   have hm : m ≤ 512:=by omega
   obtain ⟨i0,hi,hz0,hz1,hz2⟩:=info_parts infoBlockB
   go_enter Tryz.func23,Tryz.ntmps23
   go_wp2_with (at_make;refine wpList_make_full w (by rfl) (.tmp 10) (.tmp 10) 76 (by rfl) w.heap.size 97 i0 (.agg (List.replicate 64 (Value.int .u8 0)).toArray) 64 Tryz.underlying76 hi hz0 hz1 .i64 .i64 (m : Int) (m : Int) m (by rfl) (by rfl) rfl rfl (by rw [hz2];omega) (by unfold maxLen;omega) (Nat.le_refl _) ?_)
   intro w1 ho1 hg1
   have HB1 : Hid (Below w.heap.size w w1):=(Below.refl _ _).grown hg1 (Nat.le_refl _) (fun k hk => by cases hk)
   have hk1 : Blk w1 w.heap.size (scells (List.replicate m (List.replicate 64 0))).toArray 97:=by
    rcases ho1.2 with ⟨h0,_⟩ | ⟨g',c',cur,h3,_,h5,_,_,h8,h9⟩
    ·cases h0
    ·simp only [Value.slice.injEq,Option.some.injEq,Addr.mk.injEq,and_true] at h3
     obtain ⟨rfl,_,rfl⟩:=h3
     rw [List.take_of_length_le (by rw [Array.length_toList,h8];exact Nat.le_refl _)] at h9
     unfold Blk
     rw [h5,zeros_cells,← made_zeros,← Array.toArray_toList (xs:=cur),h9]
     rfl
   have HK1 : Hid (Blk w1 w.heap.size (scells (List.replicate m (List.replicate 64 0))).toArray 97):=hk1
   have HSE : Hid (∀ s ∈ List.replicate m (List.replicate 64 0),Sec s):=fun s hs => by rw [List.eq_of_mem_replicate hs];exact ⟨by simp,fun b hb => by rw [List.eq_of_mem_replicate hb];omega⟩
   clear ho1 hg1 hk1 hi hz0 hz1 hz2
   go_wp2
   go_returns
   refine ⟨.inr ⟨⟨by omega,by omega⟩,w1.heap.size,rfl,?_⟩,HB1.out.alloc HB1.out.size _⟩
   rw [Int.toNat_natCast]
   have hb2:=below_alloc w1 (.cells #[.slice (some ⟨w.heap.size,0,none⟩) m m,.slice none 0 0,.int .i64 0,.bool false,.int .i64 0] 79)
   refine ⟨?_,HK1.out.stay hb2,World.ownsRow_nil _ _ _ _,HB1.out.size,Nat.le_refl _,by rw [newD];simp only [List.length_replicate];exact hm,HSE.out,(fun p hp => by cases hp),Nat.zero_le _,Nat.zero_le _,Nat.zero_le _⟩
   rw [newD]
   simp only [List.length_replicate]
   exact Blk.new _ _ _
set_option maxRecDepth 100000 in
theorem disk_Size (w : World) (base g gs : Nat) (wv : Value) (D : Dk) (h : Disk w base g gs wv D) : Calls Tryz.prog 71 #[.pointer (some ⟨g,0,none⟩)] w fun e w' => e = .returned (.int .i64 (D.sure.length : Int)) ∧ w' = w:=by
 have c0 : w.cell? ⟨g,0,none⟩ = some (.slice (some ⟨gs,0,none⟩) D.sure.length D.sure.length):=h.blk.cell 0 rfl
 have hsz:=h.sz
 obtain ⟨n,hn⟩ : ∃ n,n = D.sure.length:=⟨_,rfl⟩
 rw [← hn] at c0 hsz ⊢
 clear h hn
 go_enter Tryz.func71,Tryz.ntmps71
 go_wp2
 go_ret
 exact ⟨rfl,rfl⟩
set_option maxRecDepth 100000 in
theorem disk_Waits (w : World) (base g gs : Nat) (wv : Value) (D : Dk) (h : Disk w base g gs wv D) : Calls Tryz.prog 36 #[.pointer (some ⟨g,0,none⟩)] w fun e w' => e = .returned (.int .i64 (D.waits.length : Int)) ∧ w' = w:=by
 obtain ⟨aw,nw,cw,rfl⟩:=own_slice h.wrow
 have hnw : nw = D.waits.length:=by
  rcases h.form with ⟨h0,a',c',h1⟩ | ⟨gw,c',h1,_⟩
  ·simp only [Value.slice.injEq] at h1;rw [h0];exact h1.2.1
  ·simp only [Value.slice.injEq] at h1;exact h1.2.1
 have hwl:=h.wl
 rw [← hnw] at hwl ⊢
 have c1 : w.cell? ⟨g,1,none⟩ = some (.slice aw nw cw):=h.blk.cell 1 rfl
 clear h hnw
 go_enter Tryz.func36,Tryz.ntmps36
 go_wp2
 go_ret
 exact ⟨rfl,rfl⟩
set_option maxRecDepth 100000 in
theorem disk_Down (w : World) (base g gs : Nat) (wv : Value) (D : Dk) (h : Disk w base g gs wv D) : Calls Tryz.prog 16 #[.pointer (some ⟨g,0,none⟩)] w fun e w' => e = .returned (.bool D.down) ∧ w' = w:=by
 have c3 : w.cell? ⟨g,3,none⟩ = some (.bool D.down):=h.blk.cell 3 rfl
 clear h
 go_enter Tryz.func16,Tryz.ntmps16
 go_wp2
 go_ret
 exact ⟨rfl,rfl⟩
theorem Rd.of_blk {w : World} {k : Nat} {bs : List Nat} {t : TypeId} (h : Blk w k (vb bs).toArray t) (hb : ∀ b ∈ bs,b < 256) : Rd w (some ⟨k,0,none⟩) bs.length bs :=
 ⟨rfl,hb,.inr ⟨k,0,rfl,h.lt,fun i hi => by rw [Nat.zero_add];exact h.cell i (by simpa using vb_at hi)⟩⟩
theorem Rd.of_row {w : World} {k : Nat} {bs : List Nat} {t : TypeId} {fr : Nat × Nat} (h : w.heap[k]? = some (.cells (vb bs).toArray t fr)) (hb : ∀ b ∈ bs,b < 256) : Rd w (some ⟨k,0,none⟩) bs.length bs :=
 ⟨rfl,hb,.inr ⟨k,0,rfl,heap_lt h,fun i hi => by rw [Nat.zero_add,cell_of_row w k i _ t fr h];simpa using vb_at hi⟩⟩
def liveD : Dk:=crashD (writeD (newD 2) 0 [97,98]) [5]
end Go.Proofs.YtghajmcohdedlaaGreat
