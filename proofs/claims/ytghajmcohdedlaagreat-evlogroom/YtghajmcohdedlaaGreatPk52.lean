import Derived.Test.YtghajmcohdedlaaGreatPk43
import Derived.Test.YtghajmcohdedlaaGreatPk48
namespace Go.Proofs.YtghajmcohdedlaaGreat
open Go.RowKit
def okb (n j x : Nat) : Prop:=(j = 4 → x ≤ 128) ∧ (5 ≤ j ∧ j ≤ 10 → x = 0) ∧ (j = 11 → x ≤ n)
def Hb (n : Nat) (s : List Nat) : Prop:=∀ j,okb n j (s.getD j 0)
theorem okb_zero (n j : Nat) : okb n j 0:=⟨fun _ => by omega,fun _ => rfl,fun _ => Nat.zero_le n⟩
theorem okb_far {n j : Nat} (x : Nat) (h : j < 4 ∨ 11 < j) : okb n j x:=⟨fun e => by omega,fun e => by omega,fun e => by omega⟩
theorem Hb.mono {n n' : Nat} {s : List Nat} (h : Hb n s) (hn : n ≤ n') : Hb n' s:=fun j => ⟨(h j).1,(h j).2.1,fun e => Nat.le_trans ((h j).2.2 e) hn⟩
theorem Hb.nil (n : Nat) : Hb n []:=fun j => by rw [List.getD_eq_getElem?_getD,List.getElem?_nil];exact okb_zero n j
theorem getD_rep (k j : Nat) : (List.replicate k 0).getD j 0 = 0:=by
 rw [List.getD_eq_getElem?_getD,List.getElem?_replicate]
 split <;> rfl
theorem Hb.rep (n k : Nat) : Hb n (List.replicate k 0):=fun j => by rw [getD_rep];exact okb_zero n j
theorem Hb.torn {n m : Nat} {s t : List Nat} (ht : Hb n t) (hs : Hb n s) (hl : t.length = 64) (hm : m ≤ 64) : Hb n (t.take m ++ s.drop m):=fun j => by
 have e : (t.take m ++ s.drop m).getD j 0 = t.getD j 0 ∨ (t.take m ++ s.drop m).getD j 0 = s.getD j 0:=by
  have h1 : (t.take m).length = m:=by rw [List.length_take];omega
  by_cases hj : j < m
  ·left
   rw [List.getD_eq_getElem?_getD,List.getD_eq_getElem?_getD,List.getElem?_append_left (by omega),List.getElem?_take_of_lt hj]
  ·right
   rw [List.getD_eq_getElem?_getD,List.getD_eq_getElem?_getD,List.getElem?_append_right (by omega),List.getElem?_drop,h1,show m + (j - m) = j from by omega]
 rcases e with e | e
 ·rw [e];exact ht j
 ·rw [e];exact hs j
theorem padS_len {bs : List Nat} (h : bs.length ≤ 64) : (padS bs).length = 64:=by unfold padS;rw [List.length_append,List.length_replicate];omega
theorem Hb.pad {n : Nat} {bs : List Nat} (h : Hb n bs) : Hb n (padS bs):=fun j => by
 unfold padS
 by_cases hj : j < bs.length
 ·rw [List.getD_eq_getElem?_getD,List.getElem?_append_left hj,← List.getD_eq_getElem?_getD]
  exact h j
 ·rw [List.getD_eq_getElem?_getD,List.getElem?_append_right (by omega),← List.getD_eq_getElem?_getD,getD_rep]
  exact okb_zero n j
def At3 (i : Nat) : Prop:=i = 3 ∨ i = 19 ∨ i = 35
structure Hd (n : Nat) (D : Dk) : Prop where
 sure : ∀ i,At3 i → Hb n (D.sure.getD i [])
 wts : ∀ p ∈ D.waits,p.2.length = 64 ∧ (At3 p.1 → Hb n p.2)
theorem Hd.mono {n n' : Nat} {D : Dk} (h : Hd n D) (hn : n ≤ n') : Hd n' D:=⟨fun i hi => (h.sure i hi).mono hn,fun p hp => ⟨(h.wts p hp).1,fun ha => ((h.wts p hp).2 ha).mono hn⟩⟩
theorem Hd.new (n : Nat) : Hd n (newD 52):=by
 refine ⟨fun i _ => ?_,fun p hp => by cases hp⟩
 show Hb n ((List.replicate 52 (List.replicate 64 0)).getD i [])
 rw [List.getD_eq_getElem?_getD,List.getElem?_replicate]
 split
 ·exact Hb.rep n 64
 ·exact Hb.nil n
theorem Hd.trips {n : Nat} {D : Dk} (h : Hd n D) : Hd n (tripsD D):=by
 unfold tripsD
 split
 ·exact h
 ·exact ⟨h.sure,h.wts⟩
theorem Hd.trip {n : Nat} {D : Dk} (h : Hd n D) (t : Int) : Hd n (tripD D t):=by
 unfold tripD
 split
 ·exact h
 split
 ·exact h
 ·exact ⟨h.sure,h.wts⟩
theorem Hd.write {n : Nat} {D : Dk} (h : Hd n D) (i : Int) (bs : List Nat) (hb : At3 i.toNat → Hb n bs) : Hd n (writeD D i bs):=by
 unfold writeD
 split
 ·exact h
 split
 ·exact h
 split
 ·exact h
 rename_i hl
 split
 ·exact h.trips
 ·refine ⟨h.trips.sure,fun p hp => ?_⟩
  rcases List.mem_append.1 hp with h1 | h1
  ·exact h.wts p h1
  ·rw [List.mem_singleton] at h1
   subst h1
   exact ⟨padS_len (by omega),fun ha => (hb ha).pad⟩
theorem getD_set {S : List (List Nat)} (i j : Nat) (t : List Nat) : (S.set j t).getD i [] = S.getD i [] ∨ j = i ∧ (S.set j t).getD i [] = t:=by
 rw [List.getD_eq_getElem?_getD,List.getD_eq_getElem?_getD,List.getElem?_set]
 by_cases h : j = i
 ·subst h
  rw [if_pos rfl]
  split
  ·exact .inr ⟨rfl,rfl⟩
  ·rename_i h2
   left
   rw [List.getElem?_eq_none (by omega)]
 ·rw [if_neg h]
  exact .inl rfl
theorem syncL_hb {n : Nat} : ∀ (W : List (Nat × List Nat)) (S : List (List Nat)),(∀ i,At3 i → Hb n (S.getD i [])) → (∀ p ∈ W,p.2.length = 64 ∧ (At3 p.1 → Hb n p.2)) → ∀ i,At3 i → Hb n ((syncL S W).getD i [])
 | [],S,h1,_ => h1
 | p :: W,S,h1,h2 => by
  rw [syncL]
  refine syncL_hb W _ (fun i hi => ?_) (fun q hq => h2 q (List.mem_cons_of_mem _ hq))
  rcases getD_set (S:=S) i p.1 p.2 with e | ⟨e,e2⟩
  ·rw [e];exact h1 i hi
  ·rw [e2];exact (h2 p List.mem_cons_self).2 (by rw [e];exact hi)
theorem Hd.sync {n : Nat} {D : Dk} (h : Hd n D) : Hd n (syncD D):=by
 unfold syncD
 split
 ·exact h
 split
 ·exact h.trips
 ·exact ⟨syncL_hb D.waits D.sure h.sure h.wts,fun p hp => by cases hp⟩
theorem crashL_hb {n : Nat} : ∀ (W : List (Nat × List Nat)) (S : List (List Nat)) (F : List Int),(∀ i,At3 i → Hb n (S.getD i [])) → (∀ p ∈ W,p.2.length = 64 ∧ (At3 p.1 → Hb n p.2)) → ∀ i,At3 i → Hb n ((crashL S W F).getD i [])
 | [],S,F,h1,_ => by rw [crashL];exact h1
 | p :: W,S,[],h1,h2 => by rw [crashL];exact h1
 | p :: W,S,f :: F,h1,h2 => by
  rw [crashL]
  refine crashL_hb W _ F (fun i hi => ?_) (fun q hq => h2 q (List.mem_cons_of_mem _ hq))
  rcases getD_set (S:=S) i p.1 (p.2.take (doneN (fateU f)) ++ (S.getD p.1 []).drop (doneN (fateU f))) with e | ⟨e,e2⟩
  ·rw [e];exact h1 i hi
  ·rw [e2]
   have hp:=h2 p List.mem_cons_self
   exact (hp.2 (by rw [e];exact hi)).torn (h1 _ (by rw [e];exact hi)) hp.1 (doneN_le _)
theorem Hd.crash {n : Nat} {D : Dk} (h : Hd n D) (F : List Int) : Hd n (crashD D F):=⟨crashL_hb D.waits D.sure F h.sure h.wts,fun p hp => by cases hp⟩
theorem nowS_hb {n : Nat} {D : Dk} (h : Hd n D) {i : Nat} (hi : At3 i) : ∀ k,k ≤ D.waits.length → Hb n (nowS D i k)
 | 0,_ => by rw [nowS];exact h.sure i hi
 | k + 1,hk => by
  rw [nowS]
  split
  ·rename_i e
   rw [List.getD_eq_getElem?_getD,List.getElem?_eq_getElem (by omega)] at e ⊢
   exact (h.wts _ (List.getElem_mem _)).2 (by rw [show (D.waits[k]).1 = i from e];exact hi)
  ·exact nowS_hb h hi k (by omega)
theorem tell_hb {n : Nat} {D : Dk} (h : Hd n D) {i : Nat} (hi : At3 i) : Hb n (tellE D i):=by
 unfold tellE
 split
 ·exact nowS_hb h hi _ (Nat.le_refl _)
 ·exact Hb.nil n
theorem list8 {α : Type} (l : List α) (h : l.length = 8) : ∃ a b c d e f g i,l = [a,b,c,d,e,f,g,i]:=by
 match l,h with
 | [a,b,c,d,e,f,g,i],_ => exact ⟨a,b,c,d,e,f,g,i,rfl⟩
theorem take_hb {n : Nat} {s : List Nat} (h : Hb n s) : (KeyM.take (payE s) 0).1 ≤ (n : Int):=by
 unfold KeyM.take
 split
 ·exact Int.natCast_nonneg n
 split
 ·exact Int.natCast_nonneg n
 rename_i h1 h2
 show ((KeyM.be (((payE s).drop (0 : Int).toNat).take 8) : Nat) : Int) - 9223372036854775808 ≤ (n : Int)
 have hl : 8 ≤ (payE s).length:=by omega
 have hat : ∀ j,j < 8 → (((payE s).drop (0 : Int).toNat).take 8).getD j 0 = s.getD (4 + j) 0:=fun j hj => by
  have hpl : j < (payE s).length:=by omega
  show (((payE s).drop 0).take 8).getD j 0 = _
  rw [List.drop_zero,List.getD_eq_getElem?_getD,List.getElem?_take_of_lt hj]
  unfold payE at hpl ⊢
  rw [List.length_take] at hpl
  rw [List.getElem?_take_of_lt (by omega),List.getElem?_drop,← List.getD_eq_getElem?_getD]
 obtain ⟨l,hL⟩ : ∃ l,l = ((payE s).drop (0 : Int).toNat).take 8:=⟨_,rfl⟩
 have hl8 : l.length = 8:=by rw [hL,List.length_take];show min 8 ((payE s).drop 0).length = 8;rw [List.drop_zero];omega
 rw [← hL] at hat ⊢
 obtain ⟨a,b,c,d,e,f,g,i,rfl⟩:=list8 l hl8
 have ha:=(h 4).1 rfl
 have hb:=(h 5).2.1 ⟨by omega,by omega⟩
 have hc:=(h 6).2.1 ⟨by omega,by omega⟩
 have hd:=(h 7).2.1 ⟨by omega,by omega⟩
 have he:=(h 8).2.1 ⟨by omega,by omega⟩
 have hf:=(h 9).2.1 ⟨by omega,by omega⟩
 have hg:=(h 10).2.1 ⟨by omega,by omega⟩
 have hi:=(h 11).2.2 rfl
 rw [← hat 0 (by omega)] at ha
 rw [← hat 1 (by omega)] at hb
 rw [← hat 2 (by omega)] at hc
 rw [← hat 3 (by omega)] at hd
 rw [← hat 4 (by omega)] at he
 rw [← hat 5 (by omega)] at hf
 rw [← hat 6 (by omega)] at hg
 rw [← hat 7 (by omega)] at hi
 simp only [List.getD_cons_zero,List.getD_cons_succ] at ha hb hc hd he hf hg hi
 subst hb hc hd he hf hg
 simp only [KeyM.be,List.foldl_cons,List.foldl_nil]
 omega
theorem head_hb {n : Nat} {s : List Nat} (h : Hb n s) : (headE s).1.toNat ≤ n:=by
 unfold headE headP
 split
 ·split
  ·exact Nat.zero_le _
  split
  ·exact Nat.zero_le _
  ·have:=take_hb h
   (show (KeyM.take (payE s) 0).1.toNat ≤ n)
   omega
 ·exact Nat.zero_le _
theorem headPos_hb {n : Nat} {D : Dk} (h : Hd n D) {i : Nat} (hi : i < 3) : ∀ s ∈ headPos D 1 i,s.num ≤ n:=fun s hs => by
 unfold headPos at hs
 split at hs
 ·rw [List.mem_singleton] at hs
  subst hs
  exact head_hb (tell_hb h (by unfold At3;omega))
 ·cases hs
theorem headsR_hb {n : Nat} {D : Dk} (h : Hd n D) : ∀ k,k ≤ 3 → ∀ s ∈ headsR D 1 k,s.num ≤ n
 | 0,_,s,hs => by cases hs
 | k + 1,hk,s,hs => by
  rw [headsR] at hs
  rcases List.mem_append.1 hs with h1 | h1
  ·exact headsR_hb h k (by omega) s h1
  ·exact headPos_hb h (by omega) s h1
theorem headL_hb (num hi : Nat) (h : num ≤ 255) : Hb num (headL num hi):=fun j => by
 by_cases hj : j < 4 ∨ 11 < j
 ·exact okb_far _ hj
 have hu : KeyM.up (num : Int) = num + 9223372036854775808:=by unfold KeyM.up;omega
 have e : j = 4 ∨ j = 5 ∨ j = 6 ∨ j = 7 ∨ j = 8 ∨ j = 9 ∨ j = 10 ∨ j = 11:=by omega
 obtain ⟨u,hU⟩ : ∃ u,KeyM.up (num : Int) = u:=⟨_,rfl⟩
 rw [hU] at hu
 have hv : headL num hi = layE 1 true (KeyM.key u ++ KeyM.key (KeyM.up (hi : Int))):=by unfold headL;rw [hU]
 rw [hv]
 clear hv hU
 rcases e with rfl | rfl | rfl | rfl | rfl | rfl | rfl | rfl
 ·exact ⟨fun _ => by (show u / 72057594037927936 % 256 ≤ 128);omega,fun h => by omega,fun h => by omega⟩
 ·exact ⟨fun h => by omega,fun _ => by (show u / 281474976710656 % 256 = 0);omega,fun h => by omega⟩
 ·exact ⟨fun h => by omega,fun _ => by (show u / 1099511627776 % 256 = 0);omega,fun h => by omega⟩
 ·exact ⟨fun h => by omega,fun _ => by (show u / 4294967296 % 256 = 0);omega,fun h => by omega⟩
 ·exact ⟨fun h => by omega,fun _ => by (show u / 16777216 % 256 = 0);omega,fun h => by omega⟩
 ·exact ⟨fun h => by omega,fun _ => by (show u / 65536 % 256 = 0);omega,fun h => by omega⟩
 ·exact ⟨fun h => by omega,fun _ => by (show u / 256 % 256 = 0);omega,fun h => by omega⟩
 ·exact ⟨fun h => by omega,fun h => by omega,fun _ => by (show u % 256 ≤ num);omega⟩
theorem free_hd {n : Nat} (b t : Nat) : ∀ (V : List Sg) (D : Dk) (k : Nat),Hd n D → Hd n (freeR b t V D k).1
 | [],D,k,h => h
 | s :: r,D,k,h => by
  rw [freeR]
  split
  ·exact free_hd b t r D k h
  split
  ·exact free_hd b t r _ _ (h.write _ [] (fun _ => Hb.nil n))
  ·exact h.write _ [] (fun _ => Hb.nil n)
theorem wipe_hd {n : Nat} : ∀ (cnt : Nat) (D : Dk) (i : Nat) (x : Bool),Hd n D → Hd n (wipeL D cnt i x).1
 | 0,D,i,x,h => h
 | cnt + 1,D,i,x,h => by
  rw [wipeL]
  split
  ·exact h
  split
  ·exact wipe_hd cnt D (i + 1) x h
  split
  ·exact h.write _ [] (fun _ => Hb.nil n)
  ·exact wipe_hd cnt _ (i + 1) true (h.write _ [] (fun _ => Hb.nil n))
theorem repl_hd {n : Nat} {D : Dk} (h : Hd n D) (p a v : Int) (hp : p.toNat ≤ 2) : Hd n (replD D p a v):=by
 have hw : ∀ bs,Hd n (writeD D p bs):=fun bs => h.write p bs (fun ha => by unfold At3 at ha;omega)
 unfold replD
 split
 ·split
  ·exact (hw _).sync
  ·exact hw _
 ·exact h
theorem put_hd {n : Nat} {D : Dk} (h : Hd n D) (v : Int) : Hd n (putCD D 1 1 0 v):=by
 unfold putCD
 split
 ·exact h
 split
 ·split
  ·exact h
  ·refine repl_hd h _ _ _ ?_
   have:=(stand_range D 1 (0 : Int).toNat).1
   omega
 ·exact h
theorem begin_hd {n : Nat} {D : Dk} (h : Hd n D) (P num hi : Nat) (hn : num ≤ n) (hn2 : num ≤ 255) : Hd n (beginG P D num hi).2.1:=by
 have hw:=wipe_hd 16 D P false h
 have hl : Hb n (headL num hi):=(headL_hb num hi hn2).mono hn
 unfold beginG
 split
 ·exact h
 split
 ·exact hw
 split
 ·exact hw.sync
 split
 ·exact hw.sync.write _ _ (fun _ => hl)
 ·exact hw.sync.write _ _ (fun _ => hl)
theorem begR_hd {n : Nat} {D : Dk} (h : Hd n D) (V : List Sg) (seq hi : Nat) (hn : seq ≤ n) (hn2 : seq ≤ 255) : Hd n (begR 1 3 D V seq hi).2:=by
 unfold begR
 split
 ·exact h
 ·exact begin_hd h _ seq hi hn hn2
theorem writes_hd {n : Nat} (KB : List Nat) : ∀ (K k P : Nat) (D : Dk),Hd n D → (∀ i,P ≤ i → i < P + K → ¬ At3 i) → Hd n (writesF KB K k P D).2
 | 0,k,P,D,h,_ => h
 | K + 1,k,P,D,h,hP => by
  have hw : Hd n (writeD D (P : Int) (partE KB k)):=h.write _ _ (fun ha => absurd (by rw [Int.toNat_natCast] at ha;exact ha) (hP P (Nat.le_refl _) (by omega)))
  rw [writesF]
  split
  ·exact hw
  ·exact writes_hd KB K (k + 1) (P + 1) _ hw (fun i h1 h2 => hP i (by omega) (by omega))
theorem open_hd {n : Nat} {D : Dk} (h : Hd n D) (rr : Nat) (RU : List Sg) : Hd n (openD 1 D rr RU):=by
 have hw:=wipe_hd (16 - (lastG RU).en) _ (1 + 2 + 16 * (lastG RU).at_ + (lastG RU).en) false (free_hd 1 rr RU D 0 h)
 unfold openD
 split
 ·exact h
 split
 ·exact hw.sync
 ·exact hw
theorem readF_en (D : Dk) (at_ : Nat) : ∀ (f hi en : Nat) (acc : List (Nat × List Nat)),en ≤ 16 → en ≤ (readF D at_ f hi en acc).2.1
 | 0,hi,en,acc,_ => Nat.le_refl _
 | f + 1,hi,en,acc,h1 => by
  rw [readF]
  cases hn : nextF D at_ en hi with
  | none => exact Nat.le_refl _
  | some r =>
   obtain ⟨v,bs,e⟩:=r
   have hg:=next_gt D at_ en hi v e bs h1 hn
   have:=readF_en D at_ f v e (acc ++ [(v,bs)]) hg.2.1
   simp only
   omega
theorem readAllR_en (D : Dk) (b : Nat) : ∀ (V : List Sg) (hi : Nat) (acc : List (Nat × List Nat)),(∀ s ∈ V,1 ≤ s.en ∧ s.en ≤ 16) → ∀ s ∈ (readAllR D b V hi acc).1,1 ≤ s.en
 | [],hi,acc,h,s,hs => by cases hs
 | x :: V,hi,acc,h,s,hs => by
  rw [readAllR] at hs
  rcases List.mem_cons.1 hs with rfl | h1
  ·have h2:=h x List.mem_cons_self
   have:=readF_en D (b + 2 + 16 * x.at_ + 0) 17 (max hi x.high) x.en acc h2.2
   simp only
   omega
  ·exact readAllR_en D b V _ _ (fun y hy => h y (List.mem_cons_of_mem _ hy)) s h1
theorem kept_one (rel : Nat) : ∀ (V : List Sg),(∀ s ∈ keptR rel V,s.high ≤ rel) → (keptR rel V).length ≤ 1
 | [],_ => Nat.zero_le _
 | s :: r,h => by
  rw [keptR] at h ⊢
  split
  ·rename_i h1
   rw [if_pos h1] at h
   rcases h1 with h1 | h1
   ·subst h1
    rw [keptR]
    exact Nat.le_refl _
   ·have:=h s List.mem_cons_self
    omega
  ·rename_i h1
   rw [if_neg h1] at h
   exact kept_one rel r h
end Go.Proofs.YtghajmcohdedlaaGreat

namespace Go.Proofs.YtghajmcohdedlaaGreat
open Go.RowKit
structure Rm (n : Nat) (s : Se) : Prop where
 hd : Hd n s.D
 vn : ∀ x ∈ s.V,x.num ≤ n ∧ 1 ≤ x.en
 one : s.rel = s.hi → s.V.length ≤ 1
 ag : s.ag = s.D.age
theorem Rm.mono {n n' : Nat} {s : Se} (h : Rm n s) (hn : n ≤ n') : Rm n' s:=⟨h.hd.mono hn,fun x hx => ⟨Nat.le_trans (h.vn x hx).1 hn,(h.vn x hx).2⟩,h.one,h.ag⟩
theorem Rm.open {n : Nat} {E : Dk} (h : Hd n E) (hc : Calm E) (hs : E.sure.length = 52) : Rm n (opE E):=by
 have hok:=op_ok hs hc
 have hsub : ∀ x ∈ opV E,x ∈ (rdOf E).1:=fun x hx => (kept_sub (rrOf E) (rdOf E).1).subset hx
 have hp:=sortG_perm (headsR E 1 3)
 have hh : ∀ s ∈ sortG (headsR E 1 3),s.at_ < 3 ∧ s.en = 1 ∧ s.num ≤ 4611686018427387904 ∧ s.high ≤ 1099511627776:=fun s hs2 => headsR_ok E 1 3 s (hp.mem_iff.1 hs2)
 refine ⟨open_hd h _ _,fun x hx => ⟨?_,?_⟩,fun e => kept_one _ _ fun s hs2 => ?_,hok.2.2.ag.symm⟩
 ·have h1 : x.num ∈ (rdOf E).1.map Sg.num:=List.mem_map_of_mem (hsub x hx)
  unfold rdOf at h1
  rw [(readAllR_at E 1 _ 0 []).2] at h1
  obtain ⟨y,hy,e⟩:=List.mem_map.1 h1
  rw [← e]
  exact headsR_hb h 3 (Nat.le_refl _) y (hp.mem_iff.1 hy)
 ·refine readAllR_en E 1 _ 0 [] (fun s hs2 => by have:=hh s hs2;omega) x ?_
  have:=hsub x hx
  unfold rdOf at this
  exact this
 ·have h1:=(hok.1.vs s hs2).2.2.2
  have h2 : rrOf E = opH E:=e
  omega
theorem next_le {n : Nat} {V : List Sg} (h : ∀ x ∈ V,x.num ≤ n ∧ 1 ≤ x.en) : nextN V ≤ n + 1:=by
 unfold nextN
 split
 ·omega
 ·rename_i h0
  have:=(h _ (lastG_mem h0)).1
  omega
theorem append_rm0 {n N : Nat} {D : Dk} {V : List Sg} {hi rel : Nat} {P : List (Nat × List Nat)} (hd : Hd n D) (hv : ∀ x ∈ V,x.num ≤ n ∧ 1 ≤ x.en) (h1 : rel = hi → V.length ≤ 1) (h : Okp N D V hi rel P) (hn : n + 1 ≤ 255) (ag : Nat) (t : Int) (bs : List Nat) :
  Hd (n + 1) (appendRF 1 3 ag D V hi t bs).2.1 ∧ (∀ x ∈ (appendRF 1 3 ag D V hi t bs).2.2.1,x.num ≤ n + 1 ∧ 1 ≤ x.en) ∧ (rel = (appendRF 1 3 ag D V hi t bs).2.2.2.1 → (appendRF 1 3 ag D V hi t bs).2.2.1.length ≤ 1):=by
 have hv1 : ∀ x ∈ V,x.num ≤ n + 1 ∧ 1 ≤ x.en:=fun x hx => ⟨Nat.le_succ_of_le (hv x hx).1,(hv x hx).2⟩
 have stop : ∀ E : Dk,Hd (n + 1) E → Hd (n + 1) E ∧ (∀ x ∈ V,x.num ≤ n + 1 ∧ 1 ≤ x.en) ∧ (rel = hi → V.length ≤ 1):=fun E g => ⟨g,hv1,h1⟩
 have hD:=hd.mono (Nat.le_succ n)
 unfold appendRF
 split
 ·exact stop _ hD
 split
 ·exact stop _ hD
 rename_i hb
 split
 ·exact stop _ hD
 rename_i ht
 have hK : ((keyB t.toNat bs).length + 58) / 59 ≤ 7:=by rw [keyB_len];omega
 obtain ⟨K,HK⟩ : ∃ K,((keyB t.toNat bs).length + 58) / 59 = K:=⟨_,rfl⟩
 rw [HK] at hK ⊢
 have hT1 : hi < t.toNat:=by omega
 have hrel:=h.rh
 have hnx:=next_le hv
 unfold appendRG
 split
 ·unfold appendRB
  have hB : Hd (n + 1) (begR 1 3 D V (nextN V) hi).2:=begR_hd hD V _ hi hnx (by omega)
  have hW : Hd (n + 1) (writesF (keyB t.toNat bs) K 0 (1 + 2 + 16 * posF V V.length 0 + 1) (begR 1 3 D V (nextN V) hi).2).2:=writes_hd _ K 0 _ _ hB (fun i h2 h3 h4 => by unfold At3 at h4;omega)
  split
  ·exact stop _ hB
  split
  ·exact stop _ hW
  refine ⟨hW,fun x hx => ?_,fun e => ?_⟩
  ·rcases List.mem_append.1 hx with h2 | h2
   ·exact hv1 x h2
   ·rw [List.mem_singleton] at h2
    subst h2
    exact ⟨hnx,Nat.le_add_right 1 K⟩
  ·have e2 : rel = t.toNat:=e
   omega
 ·rename_i hbig
  unfold appendRO
  have hne : V ≠ []:=fun e => by
   subst e
   unfold endR at hbig
   rw [if_pos rfl] at hbig
   omega
  have he : endR V = (lastG V).en:=by unfold endR;rw [if_neg hne]
  have hl:=hv _ (lastG_mem hne)
  have hW : Hd (n + 1) (writesF (keyB t.toNat bs) K 0 (1 + 2 + 16 * (lastG V).at_ + (lastG V).en) D).2:=writes_hd _ K 0 _ _ hD (fun i h2 h3 h4 => by unfold At3 at h4;omega)
  split
  ·exact stop _ hW
  refine ⟨hW,fun x hx => ?_,fun e => ?_⟩
  ·rcases List.mem_or_eq_of_mem_set hx with h2 | h2
   ·exact hv1 x h2
   ·subst h2
    exact ⟨Nat.le_succ_of_le hl.1,Nat.le_trans hl.2 (Nat.le_add_right _ _)⟩
  ·have e2 : rel = t.toNat:=e
   omega
theorem append_rm {n N : Nat} {s : Se} (h : Rm n s) (hO : Oke N s) (hn : n + 1 ≤ 255) (t : Int) (bs : List Nat) : Rm (n + 1) (appE s t bs).2:=by
 have h2:=append_rm0 h.hd h.vn h.one hO hn s.ag t bs
 exact ⟨h2.1,h2.2.1,h2.2.2,h.ag.trans (append_ok hO s.ag t bs).1.ag.symm⟩
theorem chop_rm0 {n N : Nat} {D : Dk} {V : List Sg} {hi rel : Nat} {P : List (Nat × List Nat)} (hd : Hd n D) (hv : ∀ x ∈ V,x.num ≤ n ∧ 1 ≤ x.en) (h1 : rel = hi → V.length ≤ 1) (h : Okp N D V hi rel P) (ag : Nat) (t : Int) :
  Hd n (chopRF 1 D ag V hi rel t).2.1 ∧ (∀ x ∈ (chopRF 1 D ag V hi rel t).2.2.1,x.num ≤ n ∧ 1 ≤ x.en) ∧ ((chopRF 1 D ag V hi rel t).2.2.2 = hi → (chopRF 1 D ag V hi rel t).2.2.1.length ≤ 1):=by
 have stop : ∀ E : Dk,Hd n E → Hd n E ∧ (∀ x ∈ V,x.num ≤ n ∧ 1 ≤ x.en) ∧ (rel = hi → V.length ≤ 1):=fun E g => ⟨g,hv,h1⟩
 have hp:=put_hd hd t
 have hf:=free_hd 1 t.toNat V _ 0 hp
 have hk : ∀ E : Dk,Hd n E → Hd n E ∧ (∀ x ∈ keptR t.toNat V,x.num ≤ n ∧ 1 ≤ x.en) ∧ (t.toNat = hi → (keptR t.toNat V).length ≤ 1):=fun E g => ⟨g,fun x hx => hv x ((kept_sub _ V).subset hx),fun e => kept_one _ _ fun s hs => by
  have:=(h.vs s ((kept_sub _ V).subset hs)).2.2.2
  omega⟩
 unfold chopRF
 split
 ·exact stop _ hd
 split
 ·exact stop _ hd
 split
 ·exact stop _ hd
 split
 ·exact stop _ hp
 unfold chopRG
 split
 ·exact stop _ hf
 split
 ·split
  ·exact stop _ hf.sync
  ·exact hk _ hf.sync
 ·exact hk _ hf
theorem chop_rm {n N : Nat} {s : Se} (h : Rm n s) (hO : Oke N s) (t : Int) : Rm n (chpE s t).2:=by
 have h2:=chop_rm0 h.hd h.vn h.one hO s.ag t
 exact ⟨h2.1,h2.2.1,h2.2.2,h.ag.trans (chop_ok hO s.ag t).1.ag.symm⟩
theorem step_rm {n N : Nat} {s : Se} (h : Rm n s) (hO : Oke N s) (hn : n + 1 ≤ 255) (d : Dq) (h5 : ¬ d.kind = 5) : Rm (n + 1) (stepA s d):=by
 unfold stepA
 split
 ·exact append_rm h hO hn _ _
 split
 ·exact append_rm h hO hn _ _
 split
 ·exact (Rm.open (h.hd.crash d.F) (crash_calm s.D d.F) (by rw [(crash_grew s.D d.F).sl];exact hO.sl)).mono (Nat.le_succ n)
 have hm:=h.mono (Nat.le_succ n)
 unfold stepE
 split
 ·unfold synE syncF
  split
  ·exact hm
  ·exact ⟨hm.hd.sync,hm.vn,hm.one,hm.ag.trans (sync_gr _).ag.symm⟩
 split
 ·exact chop_rm hm hO _
 split
 ·refine ⟨hm.hd.trip _,hm.vn,hm.one,hm.ag.trans ?_⟩
  show s.D.age = (tripD s.D d.at_).age
  unfold tripD
  split
  ·rfl
  split
  ·rfl
  ·rfl
 exact hm
theorem trips_up {D : Dk} (h : D.down = false) (ht : tripsB D = false) : (tripsD D).down = false:=by
 unfold tripsD
 split
 ·exact h
 ·unfold tripsB at ht
  exact ht
theorem write_up {D : Dk} {i : Int} {bs : List Nat} (hw : writeE D i bs = 0) : (writeD D i bs).down = false:=by
 unfold writeE at hw
 unfold writeD
 by_cases h1 : D.down = true
 ·rw [if_pos h1] at hw;cases hw
 rw [if_neg h1] at hw ⊢
 by_cases h3 : hasB D i = false
 ·rw [if_pos h3] at hw;cases hw
 rw [if_neg h3] at hw ⊢
 by_cases h4 : 64 < bs.length
 ·rw [if_pos h4] at hw;cases hw
 rw [if_neg h4] at hw ⊢
 by_cases h5 : tripsB D = true
 ·rw [if_pos h5] at hw;cases hw
 rw [if_neg h5]
 exact trips_up (by simpa using h1) (by simpa using h5)
theorem sync_up {D : Dk} (hw : syncE D = 0) : (syncD D).down = false:=by
 unfold syncE at hw
 unfold syncD
 by_cases h1 : D.down = true
 ·rw [if_pos h1] at hw;cases hw
 rw [if_neg h1] at hw ⊢
 by_cases h5 : tripsB D = true
 ·rw [if_pos h5] at hw;cases hw
 rw [if_neg h5]
 exact trips_up (by simpa using h1) (by simpa using h5)
theorem repl_up {D : Dk} {p a v : Int} (h : D.down = false) (hw : replE D p a v = 0) : (replD D p a v).down = false:=by
 unfold replE at hw
 unfold replD
 split
 ·rename_i h1
  rw [if_pos h1] at hw
  split
  ·rename_i h2
   rw [if_pos h2] at hw
   exact sync_up hw
  ·rename_i h2
   rw [if_neg h2] at hw
   exact absurd hw h2
 ·exact h
theorem put_up {D : Dk} {v : Int} (hw : putCE D 1 1 0 v = 0) : (putCD D 1 1 0 v).down = false:=by
 unfold putCE at hw
 unfold putCD
 by_cases h1 : D.down = true
 ·rw [if_pos h1] at hw;cases hw
 have hd : D.down = false:=by simpa using h1
 rw [if_neg h1] at hw ⊢
 split
 ·rename_i h2
  rw [if_pos h2] at hw
  split
  ·exact hd
  ·rename_i h3
   rw [if_neg h3] at hw
   exact repl_up hd hw
 ·exact hd
theorem free_up (b t : Nat) : ∀ (V : List Sg) (D : Dk) (k : Nat),D.down = false → (freeR b t V D k).2.2 = 0 → (freeR b t V D k).1.down = false
 | [],D,k,h,_ => h
 | s :: r,D,k,h,he => by
  rw [freeR] at he ⊢
  split
  ·rename_i h1
   rw [if_pos h1] at he
   exact free_up b t r D k h he
  ·rename_i h1
   rw [if_neg h1] at he
   split
   ·rename_i h2
    rw [if_pos h2] at he
    exact free_up b t r _ _ (write_up h2) he
   ·rename_i h2
    rw [if_neg h2] at he
    exact absurd he h2
theorem chop_all0 {N : Nat} {D : Dk} {V : List Sg} {hi rel : Nat} {P : List (Nat × List Nat)} (h : Okp N D V hi rel P) (ag : Nat) (hup : D.down = false) (hc : (chopRF 1 D ag V hi rel (hi : Int)).1 = 0) : (chopRF 1 D ag V hi rel (hi : Int)).2.2.2 = hi ∧ (chopRF 1 D ag V hi rel (hi : Int)).2.1.down = false:=by
 have hrh:=h.rh
 unfold chopRF at hc ⊢
 split
 ·rename_i h1
  rw [if_pos h1] at hc
  exact absurd hc h1
 rename_i h1
 rw [if_neg h1] at hc
 split
 ·rename_i h2
  rw [if_pos h2] at hc
  cases hc
 rename_i h2
 rw [if_neg h2] at hc
 split
 ·rename_i h3
  exact ⟨by show rel = hi;omega,hup⟩
 rename_i h3
 rw [if_neg h3] at hc
 split
 ·rename_i h4
  rw [if_pos h4] at hc
  exact absurd hc h4
 rename_i h4
 rw [if_neg h4] at hc
 have hpu:=put_up (Classical.not_not.1 h4)
 unfold chopRG at hc ⊢
 split
 ·rename_i h5
  rw [if_pos h5] at hc
  exact absurd hc h5
 rename_i h5
 rw [if_neg h5] at hc
 have hfu:=free_up 1 _ V _ 0 hpu (Classical.not_not.1 h5)
 split
 ·rename_i h6
  rw [if_pos h6] at hc
  split
  ·rename_i h7
   rw [if_pos h7] at hc
   exact absurd hc h7
  ·rename_i h7
   exact ⟨by (show (hi : Int).toNat = hi);omega,sync_up (Classical.not_not.1 h7)⟩
 ·exact ⟨by (show (hi : Int).toNat = hi);omega,hfu⟩
theorem chop_all {n N : Nat} {s : Se} (h : Rm n s) (hO : Oke N s) (hup : s.D.down = false) (hc : (chpE s (s.hi : Int)).1 = 0) : (chpE s (s.hi : Int)).2.V.length ≤ 1 ∧ (chpE s (s.hi : Int)).2.P = [] ∧ (chpE s (s.hi : Int)).2.D.down = false:=by
 have hO2 : Oke N (chpE s (s.hi : Int)).2:=(chop_ok hO s.ag _).2.1
 have h2:=chop_all0 hO s.ag hup hc
 have e : (chpE s (s.hi : Int)).2.rel = (chpE s (s.hi : Int)).2.hi:=h2.1
 refine ⟨(chop_rm h hO _).one e,?_,h2.2⟩
 cases hP : (chpE s (s.hi : Int)).2.P with
 | nil => rfl
 | cons p r =>
  have:=hO2.ps p (by rw [hP];exact List.mem_cons_self)
  omega
theorem trip_calm {D : Dk} (h : D.down = false) : tripE D 0 = 0 ∧ Calm (tripD D 0) ∧ (tripD D 0).sure = D.sure ∧ (tripD D 0).waits = D.waits ∧ (tripD D 0).age = D.age:=by
 unfold tripE tripD
 rw [if_neg (by rw [h];simp),if_neg (by omega),if_neg (by rw [h];simp),if_neg (by omega)]
 exact ⟨rfl,⟨h,rfl⟩,rfl,rfl,rfl⟩
theorem calm_writes (KB : List Nat) : ∀ (K k P : Nat) (D : Dk),Calm D → P + K ≤ D.sure.length → (writesF KB K k P D).1 = 0
 | 0,k,P,D,h,_ => rfl
 | K + 1,k,P,D,h,hP => by
  have hl : (partE KB k).length ≤ 64:=by
   unfold partE
   have h1:=chunk_len KB k
   unfold layE
   simp only [List.length_cons,List.length_append,List.length_replicate,List.length_nil]
   omega
  obtain ⟨w1,w2,w3,w4⟩:=@calm_write D h P (partE KB k) (by omega) hl
  rw [writesF,if_neg (by rw [w1];simp)]
  exact calm_writes KB K (k + 1) (P + 1) _ w2 (by rw [w3];omega)
theorem headL_len (num hi : Nat) : (headL num hi).length ≤ 64:=by
 unfold headL layE
 simp only [List.length_cons,List.length_append,List.length_replicate,List.length_nil]
 have h1 : ∀ u,(KeyM.key u).length = 8:=fun u => rfl
 rw [h1,h1]
 omega
theorem calm_begin {D : Dk} (h : Calm D) (P num hi : Nat) (hP : P + 16 ≤ D.sure.length) (hn : num ≤ 4611686018427387904) : (beginG P D num hi).1 = 0 ∧ Calm (beginG P D num hi).2.1 ∧ (beginG P D num hi).2.1.sure.length = D.sure.length:=by
 obtain ⟨g1,g2,g3,_⟩:=calm_wipe 16 D P false h hP
 obtain ⟨s1,s2,s3,_⟩:=calm_sync g2
 obtain ⟨w1,w2,w3,_⟩:=@calm_write _ s2 P (headL num hi) (by rw [s3,g3];omega) (headL_len num hi)
 unfold beginG
 rw [if_neg (by omega),if_neg (by rw [g1];simp),if_neg (by rw [s1];simp),if_neg (by rw [w1];simp)]
 exact ⟨rfl,w2,by rw [w3,s3,g3]⟩
theorem room {n N : Nat} {D : Dk} {V : List Sg} {hi rel : Nat} {P : List (Nat × List Nat)} (hv : ∀ x ∈ V,x.num ≤ n ∧ 1 ≤ x.en) (hV : V.length ≤ 1) (h : Okp N D V hi rel P) (hC : Calm D) (hn : n + 1 ≤ 255) (bs : List Nat) :
  (400 < bs.length → (appendRF 1 3 D.age D V hi ((hi : Int) + 1) bs).1 = 6) ∧ (¬ 400 < bs.length → 1099511627776 < (hi : Int) + 1 → (appendRF 1 3 D.age D V hi ((hi : Int) + 1) bs).1 = 14) ∧ (¬ 400 < bs.length → ¬ 1099511627776 < (hi : Int) + 1 → (appendRF 1 3 D.age D V hi ((hi : Int) + 1) bs).1 = 0 ∧ (appendRF 1 3 D.age D V hi ((hi : Int) + 1) bs).2.2.2.2 = true):=by
 have hsh : ¬ shutE D D.age ≠ 0:=by
  unfold shutE
  rw [if_pos rfl,if_neg (by rw [hC.1];simp)]
  simp
 have hsl:=h.sl
 unfold appendRF
 rw [if_neg hsh]
 refine ⟨fun h1 => by rw [if_pos h1],fun h1 h2 => by rw [if_neg h1,if_pos (.inr h2)],fun h1 h2 => ?_⟩
 rw [if_neg h1,if_neg (by omega)]
 obtain ⟨T,hT⟩ : ∃ T,((hi : Int) + 1).toNat = T:=⟨_,rfl⟩
 rw [hT]
 have hK : ((keyB T bs).length + 58) / 59 ≤ 7:=by rw [keyB_len];omega
 obtain ⟨K,HK⟩ : ∃ K,((keyB T bs).length + 58) / 59 = K:=⟨_,rfl⟩
 rw [HK] at hK ⊢
 unfold appendRG
 split
 ·unfold appendRB
  have hnx:=next_le hv
  have hp:=(pos_ok V V.length 0 (fun i hi => absurd hi (Nat.not_lt_zero i))).2.2.1
  have hB : (begR 1 3 D V (nextN V) hi).1 = 0 ∧ Calm (begR 1 3 D V (nextN V) hi).2 ∧ (begR 1 3 D V (nextN V) hi).2.sure.length = D.sure.length:=by
   unfold begR
   rw [if_neg (by omega)]
   exact calm_begin hC _ _ _ (by omega) (by omega)
  have hW:=calm_writes (keyB T bs) K 0 (1 + 2 + 16 * posF V V.length 0 + 1) _ hB.2.1 (by rw [hB.2.2];omega)
  rw [if_neg (by rw [hB.1];simp),if_neg (by rw [hW];simp)]
  exact ⟨rfl,rfl⟩
 ·rename_i hbig
  unfold appendRO
  have hne : V ≠ []:=fun e => by
   subst e
   unfold endR at hbig
   rw [if_pos rfl] at hbig
   omega
  have he : endR V = (lastG V).en:=by unfold endR;rw [if_neg hne]
  have hl:=h.vs _ (lastG_mem hne)
  have hW:=calm_writes (keyB T bs) K 0 (1 + 2 + 16 * (lastG V).at_ + (lastG V).en) D hC (by omega)
  rw [if_neg (by rw [hW];simp)]
  exact ⟨rfl,rfl⟩
end Go.Proofs.YtghajmcohdedlaaGreat
