import Derived.Test.YtghajmcohdedlaaGreatPk34
namespace Go.Proofs.YtghajmcohdedlaaGreat
open Go.RowKit
def plc (b : Nat) (s : Sg) : Sg:=⟨b + 2 + 16 * s.at_ + 0,s.num,s.high,s.en⟩
theorem free_is (b rel : Nat) : ∀ (V : List Sg) (D : Dk) (K : List Sg) (n : Nat),(freeF rel (V.map (plc b)) D K).1 = (freeR b rel V D n).1 ∧ (freeF rel (V.map (plc b)) D K).2.2 = (freeR b rel V D n).2.2 ∧ ((freeR b rel V D n).2.2 = 0 → (freeF rel (V.map (plc b)) D K).2.1.length + (freeR b rel V D n).2.1 = K.length + V.length + n)
 | [],D,K,n => by
  rw [List.map_nil,freeF,freeR]
  exact ⟨rfl,rfl,fun _ => by simp⟩
 | s :: r,D,K,n => by
  rw [List.map_cons,freeF,freeR]
  have e : (r.map (plc b) = [] ∨ rel < (plc b s).high) ↔ (r = [] ∨ rel < s.high):=by
   rw [List.map_eq_nil_iff]
   exact Iff.rfl
  have ea : (plc b s).at_ = b + 2 + 16 * s.at_ + 0:=rfl
  rw [ea]
  by_cases h : r = [] ∨ rel < s.high
  ·rw [if_pos (e.2 h),if_pos h]
   obtain ⟨h1,h2,h3⟩:=free_is b rel r D (K ++ [plc b s]) n
   refine ⟨h1,h2,fun h0 => ?_⟩
   have:=h3 h0
   rw [List.length_append] at this
   simp only [List.length_cons,List.length_nil] at this ⊢
   omega
  ·rw [if_neg (fun k => h (e.1 k)),if_neg h]
   by_cases hw : writeE D ((b + 2 + 16 * s.at_ + 0 : Nat) : Int) [] = 0
   ·rw [if_pos hw,if_pos hw]
    obtain ⟨h1,h2,h3⟩:=free_is b rel r (writeD D ((b + 2 + 16 * s.at_ + 0 : Nat) : Int) []) K (n + 1)
    refine ⟨h1,h2,fun h0 => ?_⟩
    have:=h3 h0
    simp only [List.length_cons]
    omega
   ·rw [if_neg hw,if_neg hw]
    exact ⟨rfl,rfl,fun h0 => absurd h0 hw⟩
def keptR (rel : Nat) : List Sg → List Sg
 | [] => []
 | s :: r => if r = [] ∨ rel < s.high then s :: keptR rel r else keptR rel r
theorem free_kept (b rel : Nat) : ∀ (V : List Sg) (D : Dk) (K : List Sg),(freeF rel (V.map (plc b)) D K).2.2 = 0 → (freeF rel (V.map (plc b)) D K).2.1 = K ++ (keptR rel V).map (plc b)
 | [],D,K,_ => by rw [List.map_nil,freeF,keptR];simp
 | s :: r,D,K,h0 => by
  rw [List.map_cons,freeF] at h0 ⊢
  rw [keptR]
  have e : (r.map (plc b) = [] ∨ rel < (plc b s).high) ↔ (r = [] ∨ rel < s.high):=by
   rw [List.map_eq_nil_iff]
   exact Iff.rfl
  by_cases h : r = [] ∨ rel < s.high
  ·rw [if_pos (e.2 h)] at h0 ⊢
   rw [if_pos h,free_kept b rel r D _ h0]
   simp
  ·rw [if_neg (fun k => h (e.1 k))] at h0 ⊢
   rw [if_neg h]
   by_cases hw : writeE D ((plc b s).at_ : Int) [] = 0
   ·rw [if_pos hw] at h0 ⊢
    exact free_kept b rel r _ K h0
   ·rw [if_neg hw] at h0
    exact absurd h0 hw
end Go.Proofs.YtghajmcohdedlaaGreat

namespace Go.Proofs.YtghajmcohdedlaaGreat
open Go.RowKit
def headPos (D : Dk) (b i : Nat) : List Sg:=if (headE (tellE D (b + 2 + 16 * i + 0))).2.2 = true then [⟨i,(headE (tellE D (b + 2 + 16 * i + 0))).1.toNat,(headE (tellE D (b + 2 + 16 * i + 0))).2.1.toNat,1⟩] else []
def headsR (D : Dk) (b : Nat) : Nat → List Sg
 | 0 => []
 | n + 1 => headsR D b n ++ headPos D b n
theorem headPos_map (D : Dk) (b i : Nat) : (headPos D b i).map (plc b) = headAt D b i:=by
 unfold headPos headAt
 rw [show b + 2 + 16 * i + 0 = b + 2 + i * 16 from by omega]
 split
 ·simp only [List.map_cons,List.map_nil,plc]
  rw [show b + 2 + 16 * i + 0 = b + 2 + i * 16 from by omega]
 ·rfl
theorem headsR_map (D : Dk) (b : Nat) : ∀ n,(headsR D b n).map (plc b) = headsF D b n
 | 0 => rfl
 | n + 1 => by rw [headsR,headsF,List.map_append,headsR_map D b n,headPos_map]
theorem headPos_ok (D : Dk) (b i : Nat) : (headPos D b i).length ≤ 1 ∧ ∀ s ∈ headPos D b i,s.at_ = i ∧ s.en = 1 ∧ s.num ≤ 4611686018427387904 ∧ s.high ≤ 1099511627776:=by
 unfold headPos
 split
 ·rename_i h
  obtain ⟨h1,h2,h3,h4⟩:=headE_ok _ h
  refine ⟨by simp,fun s hs => ?_⟩
  rw [List.mem_singleton] at hs
  subst hs
  exact ⟨rfl,rfl,by (show Int.toNat _ ≤ _);omega,by (show Int.toNat _ ≤ _);omega⟩
 ·exact ⟨by simp,fun s hs => by cases hs⟩
theorem headsR_len (D : Dk) (b : Nat) : ∀ n,(headsR D b n).length ≤ n
 | 0 => Nat.le_refl _
 | n + 1 => by
  rw [headsR,List.length_append]
  have:=headsR_len D b n
  have:=(headPos_ok D b n).1
  omega
theorem headsR_ok (D : Dk) (b : Nat) : ∀ n,∀ s ∈ headsR D b n,s.at_ < n ∧ s.en = 1 ∧ s.num ≤ 4611686018427387904 ∧ s.high ≤ 1099511627776
 | 0,s,h => by cases h
 | n + 1,s,h => by
  rw [headsR] at h
  rcases List.mem_append.1 h with h | h
  ·have:=headsR_ok D b n s h
   exact ⟨by omega,this.2⟩
  ·have:=(headPos_ok D b n).2 s h
   exact ⟨by omega,this.2⟩
def Apt (V : List Sg) : Prop:=(V.map Sg.at_).Nodup
theorem headsR_apt (D : Dk) (b : Nat) : ∀ n,Apt (headsR D b n)
 | 0 => List.nodup_nil
 | n + 1 => by
  unfold Apt
  rw [headsR,List.map_append,List.nodup_append]
  refine ⟨headsR_apt D b n,?_,?_⟩
  ·unfold headPos
   split <;> simp
  ·intro x hx y hy e
   obtain ⟨s,hs,rfl⟩:=List.mem_map.1 hx
   obtain ⟨s2,hs2,rfl⟩:=List.mem_map.1 hy
   have h1:=(headsR_ok D b n s hs).1
   have h2:=((headPos_ok D b n).2 s2 hs2).1
   omega
theorem swapG_cons (x : Sg) (l : List Sg) (j : Nat) : swapG (x :: l) (j + 1) = x :: swapG l j:=rfl
theorem swapG_perm : ∀ (j : Nat) (l : List Sg),j + 1 < l.length → (swapG l j).Perm l
 | 0,a :: b :: r,_ => List.Perm.swap a b r
 | 0,[a],h => by simp at h
 | 0,[],h => by simp at h
 | j + 1,[],h => by simp at h
 | j + 1,x :: l,h => by
  rw [swapG_cons]
  exact (swapG_perm j l (by simpa using h)).cons x
theorem insG_perm : ∀ (j : Nat) (l : List Sg),j < l.length → (insG j l).Perm l
 | 0,l,_ => List.Perm.refl _
 | j + 1,l,hj => by
  rw [insG]
  split
  ·exact (insG_perm j _ (by rw [swapG_len];omega)).trans (swapG_perm j l hj)
  ·exact List.Perm.refl _
theorem outG_perm : ∀ (is : List Nat) (l : List Sg),(∀ i ∈ is,i < l.length) → (outG is l).Perm l
 | [],l,_ => List.Perm.refl _
 | i :: is,l,h => by
  rw [outG]
  exact (outG_perm is _ (fun k hk => by rw [insG_len];exact h k (List.mem_cons_of_mem _ hk))).trans (insG_perm i l (h i List.mem_cons_self))
theorem sortG_perm (l : List Sg) : (sortG l).Perm l:=outG_perm _ l fun i hi => by
 obtain ⟨h1,h2⟩:=List.mem_range'_1.1 hi
 omega
theorem Apt.sort {l : List Sg} (h : Apt l) : Apt (sortG l):=((sortG_perm l).map Sg.at_).nodup_iff.2 h
theorem getD_mapG (f : Sg → Sg) {l : List Sg} {j : Nat} (h : j < l.length) : (l.map f).getD j zSg = f (l.getD j zSg):=by
 rw [List.getD_eq_getElem?_getD,List.getD_eq_getElem?_getD,List.getElem?_map,List.getElem?_eq_getElem h]
 rfl
theorem swapG_map (f : Sg → Sg) {l : List Sg} {j : Nat} (h : j + 1 < l.length) : swapG (l.map f) j = (swapG l j).map f:=by
 unfold swapG
 rw [getD_mapG f h,getD_mapG f (by omega : j < l.length),List.map_set,List.map_set]
theorem insG_map (f : Sg → Sg) (hf : ∀ s,(f s).num = s.num) : ∀ (j : Nat) (l : List Sg),j < l.length → insG j (l.map f) = (insG j l).map f
 | 0,l,_ => rfl
 | j + 1,l,h => by
  rw [insG,insG,getD_mapG f h,getD_mapG f (by omega : j < l.length),hf,hf,swapG_map f h]
  split
  ·exact insG_map f hf j _ (by rw [swapG_len];omega)
  ·rfl
theorem outG_map (f : Sg → Sg) (hf : ∀ s,(f s).num = s.num) : ∀ (is : List Nat) (l : List Sg),(∀ i ∈ is,i < l.length) → outG is (l.map f) = (outG is l).map f
 | [],l,_ => rfl
 | i :: is,l,h => by
  rw [outG,outG,insG_map f hf i l (h i List.mem_cons_self)]
  exact outG_map f hf is _ fun k hk => by rw [insG_len];exact h k (List.mem_cons_of_mem _ hk)
theorem sortG_map (f : Sg → Sg) (hf : ∀ s,(f s).num = s.num) (l : List Sg) : sortG (l.map f) = (sortG l).map f:=by
 unfold sortG
 rw [List.length_map]
 exact outG_map f hf _ l fun i hi => by
  obtain ⟨h1,h2⟩:=List.mem_range'_1.1 hi
  omega
def readAllR (D : Dk) (b : Nat) : List Sg → Nat → List (Nat × List Nat) → List Sg × Nat × List (Nat × List Nat)
 | [],hi,acc => ([],hi,acc)
 | s :: V,hi,acc => (⟨s.at_,s.num,(readF D (b + 2 + 16 * s.at_ + 0) 17 (max hi s.high) s.en acc).1,(readF D (b + 2 + 16 * s.at_ + 0) 17 (max hi s.high) s.en acc).2.1⟩ :: (readAllR D b V (readF D (b + 2 + 16 * s.at_ + 0) 17 (max hi s.high) s.en acc).1 (readF D (b + 2 + 16 * s.at_ + 0) 17 (max hi s.high) s.en acc).2.2).1,(readAllR D b V (readF D (b + 2 + 16 * s.at_ + 0) 17 (max hi s.high) s.en acc).1 (readF D (b + 2 + 16 * s.at_ + 0) 17 (max hi s.high) s.en acc).2.2).2)
theorem readAllR_map (D : Dk) (b : Nat) : ∀ (V : List Sg) (hi : Nat) (acc : List (Nat × List Nat)),(readAllF D (V.map (plc b)) hi acc).1 = (readAllR D b V hi acc).1.map (plc b) ∧ (readAllF D (V.map (plc b)) hi acc).2 = (readAllR D b V hi acc).2
 | [],hi,acc => ⟨rfl,rfl⟩
 | s :: V,hi,acc => by
  rw [List.map_cons,readAllF,readAllR]
  obtain ⟨h1,h2⟩:=readAllR_map D b V (readF D (b + 2 + 16 * s.at_ + 0) 17 (max hi s.high) s.en acc).1 (readF D (b + 2 + 16 * s.at_ + 0) 17 (max hi s.high) s.en acc).2.2
  refine ⟨?_,h2⟩
  rw [List.map_cons]
  exact congrArg (List.cons _) h1
theorem readAllR_at (D : Dk) (b : Nat) : ∀ (V : List Sg) (hi : Nat) (acc : List (Nat × List Nat)),(readAllR D b V hi acc).1.map Sg.at_ = V.map Sg.at_ ∧ (readAllR D b V hi acc).1.map Sg.num = V.map Sg.num
 | [],hi,acc => ⟨rfl,rfl⟩
 | s :: V,hi,acc => by
  rw [readAllR,List.map_cons,List.map_cons,List.map_cons,List.map_cons]
  obtain ⟨h1,h2⟩:=readAllR_at D b V (readF D (b + 2 + 16 * s.at_ + 0) 17 (max hi s.high) s.en acc).1 (readF D (b + 2 + 16 * s.at_ + 0) 17 (max hi s.high) s.en acc).2.2
  rw [h1,h2]
  exact ⟨rfl,rfl⟩
theorem readF_ok (D : Dk) (at_ : Nat) : ∀ (f hi en : Nat) (acc : List (Nat × List Nat)),en ≤ 16 → hi ≤ 1099511627776 → hi ≤ (readF D at_ f hi en acc).1 ∧ (readF D at_ f hi en acc).1 ≤ 1099511627776 ∧ (readF D at_ f hi en acc).2.1 ≤ 16
 | 0,hi,en,acc,h1,h2 => ⟨Nat.le_refl _,h2,h1⟩
 | f + 1,hi,en,acc,h1,h2 => by
  rw [readF]
  cases hn : nextF D at_ en hi with
  | none => exact ⟨Nat.le_refl _,h2,h1⟩
  | some r =>
   obtain ⟨v,bs,e⟩:=r
   have hg:=next_gt D at_ en hi v e bs h1 hn
   have:=readF_ok D at_ f v e (acc ++ [(v,bs)]) hg.2.1 hg.2.2.2
   simp only
   exact ⟨by omega,this.2⟩
theorem readAllR_ok (D : Dk) (b : Nat) : ∀ (V : List Sg) (hi : Nat) (acc : List (Nat × List Nat)),(∀ s ∈ V,s.en ≤ 16 ∧ s.high ≤ 1099511627776) → hi ≤ 1099511627776 → hi ≤ (readAllR D b V hi acc).2.1 ∧ (readAllR D b V hi acc).2.1 ≤ 1099511627776 ∧ ∀ s ∈ (readAllR D b V hi acc).1,s.en ≤ 16 ∧ s.high ≤ (readAllR D b V hi acc).2.1
 | [],hi,acc,h1,h2 => ⟨Nat.le_refl _,h2,fun s hs => by cases hs⟩
 | s :: V,hi,acc,h1,h2 => by
  rw [readAllR]
  have hs:=h1 s List.mem_cons_self
  obtain ⟨r1,r2,r3⟩:=readF_ok D (b + 2 + 16 * s.at_ + 0) 17 (max hi s.high) s.en acc hs.1 (by omega)
  obtain ⟨g1,g2,g3⟩:=readAllR_ok D b V (readF D (b + 2 + 16 * s.at_ + 0) 17 (max hi s.high) s.en acc).1 (readF D (b + 2 + 16 * s.at_ + 0) 17 (max hi s.high) s.en acc).2.2 (fun x hx => h1 x (List.mem_cons_of_mem _ hx)) r2
  refine ⟨by simp only;omega,g2,fun x hx => ?_⟩
  rcases List.mem_cons.1 hx with rfl | hx
  ·exact ⟨r3,g1⟩
  ·exact g3 x hx
theorem readAllR_len (D : Dk) (b : Nat) : ∀ (V : List Sg) (hi : Nat) (acc : List (Nat × List Nat)),(readAllR D b V hi acc).2.2.length ≤ acc.length + 17 * V.length
 | [],hi,acc => Nat.le_add_right _ _
 | s :: V,hi,acc => by
  rw [readAllR]
  have h1:=readF_len D (b + 2 + 16 * s.at_ + 0) 17 (max hi s.high) s.en acc
  have h2:=readAllR_len D b V (readF D (b + 2 + 16 * s.at_ + 0) 17 (max hi s.high) s.en acc).1 (readF D (b + 2 + 16 * s.at_ + 0) 17 (max hi s.high) s.en acc).2.2
  simp only [List.length_cons]
  omega
theorem next_rec (D : Dk) (at_ en hi : Nat) : nextF D at_ en hi = match recF D at_ en with
  | none => none
  | some (v,bs,e) => if v ≤ (hi : Int) ∨ 1099511627776 < v then none else some (v.toNat,bs,e):=by
 unfold nextF recF
 cases gatherL D at_ (16 - en) en 2 [] with
 | none => rfl
 | some r =>
  obtain ⟨all,e⟩:=r
  rw [recOf_some]
  simp only
  by_cases h8 : all.length < 8
  ·rw [if_pos h8]
   have : (KeyM.take all 0).2.2 ≠ 0:=by
    unfold KeyM.take
    rw [if_neg (by omega),if_pos (by omega)]
    simp
   rw [if_pos (.inl this)]
  ·rw [if_neg h8]
   have h0 : (KeyM.take all 0).2.2 = 0:=by
    unfold KeyM.take
    rw [if_neg (by omega),if_neg (by omega)]
   simp only [h0,ne_eq,not_true_eq_false,false_or]
def hasP (V : List Sg) (p : Nat) : Bool:=V.any fun s => decide (s.at_ = p)
theorem hasP_iff (V : List Sg) (p : Nat) : hasP V p = true ↔ ∃ s ∈ V,s.at_ = p:=by unfold hasP;simp
theorem hasP_map (b : Nat) (V : List Sg) (i : Nat) : hasG (V.map (plc b)) (b + 2 + i * 16) = hasP V i:=by
 rw [Bool.eq_iff_iff,hasG_iff,hasP_iff]
 constructor
 ·rintro ⟨s,hs,he⟩
  obtain ⟨t,ht,rfl⟩:=List.mem_map.1 hs
  exact ⟨t,ht,by unfold plc at he;simp only at he;omega⟩
 ·rintro ⟨s,hs,he⟩
  exact ⟨plc b s,List.mem_map.2 ⟨s,hs,rfl⟩,by unfold plc;simp only;omega⟩
def posF (V : List Sg) : Nat → Nat → Nat
 | 0,p => p
 | n + 1,p => posF V n (if hasP V p = true then p + 1 else p)
theorem pos_ok (V : List Sg) : ∀ (n p : Nat),(∀ i,i < p → hasP V i = true) → (∀ i,i < posF V n p → hasP V i = true) ∧ p ≤ posF V n p ∧ posF V n p ≤ p + n ∧ (hasP V (posF V n p) = true → posF V n p = p + n)
 | 0,p,h => ⟨h,Nat.le_refl _,Nat.le_refl _,fun _ => rfl⟩
 | n + 1,p,h => by
  rw [posF]
  by_cases hp : hasP V p = true
  ·rw [if_pos hp]
   obtain ⟨a1,a2,a3,a4⟩:=pos_ok V n (p + 1) (fun i hi => by
    by_cases e : i = p
    ·rw [e];exact hp
    ·exact h i (by omega))
   exact ⟨a1,by omega,by omega,fun hh => by have:=a4 hh;omega⟩
  ·rw [if_neg hp]
   obtain ⟨a1,a2,a3,a4⟩:=pos_ok V n p h
   refine ⟨a1,a2,by omega,fun hh => ?_⟩
   have:=a4 hh
   by_cases hn : n = 0
   ·subst hn
    rw [posF] at hh
    exact absurd hh hp
   ·exfalso
    have : hasP V p = true:=a1 p (by omega)
    exact hp this
theorem has_le : ∀ (k : Nat) (V : List Sg),(∀ i,i < k → hasP V i = true) → k ≤ V.length
 | 0,V,_ => Nat.zero_le _
 | k + 1,V,h => by
  obtain ⟨s,hs,he⟩:=(hasP_iff V k).1 (h k (by omega))
  obtain ⟨l1,l2,rfl⟩:=List.append_of_mem hs
  have:=has_le k (l1 ++ l2) (fun i hi => by
   obtain ⟨s2,hs2,he2⟩:=(hasP_iff _ i).1 (h i (by omega))
   refine (hasP_iff _ i).2 ⟨s2,?_,he2⟩
   rcases List.mem_append.1 hs2 with h1 | h1
   ·exact List.mem_append_left _ h1
   ·rcases List.mem_cons.1 h1 with rfl | h1
    ·omega
    ·exact List.mem_append_right _ h1)
  simp only [List.length_append,List.length_cons] at this ⊢
  omega
theorem nodup_le : ∀ (m : Nat) (l : List Nat),l.Nodup → (∀ x ∈ l,x < m) → l.length ≤ m
 | 0,l,_,h => by
  cases l with
  | nil => exact Nat.le_refl _
  | cons x r => exact absurd (h x List.mem_cons_self) (by omega)
 | m + 1,l,hn,h => by
  by_cases hm : m ∈ l
  ·have h1:=nodup_le m (l.erase m) (hn.erase m) (fun x hx => by
    obtain ⟨h2,h3⟩:=(hn.mem_erase_iff).1 hx
    have:=h x h3
    omega)
   rw [List.length_erase_of_mem hm] at h1
   omega
  ·have h1:=nodup_le m l hn (fun x hx => by
    have:=h x hx
    have : x ≠ m:=fun e => hm (e ▸ hx)
    omega)
   omega
theorem unused_some (b : Nat) (U : List Sg) : ∀ (cnt i p : Nat),i ≤ p → p < i + cnt → (∀ j,i ≤ j → j < p → hasG U (b + 2 + j * 16) = true) → hasG U (b + 2 + p * 16) = false → unusedF b U cnt i = some p
 | 0,i,p,h1,h2,_,_ => by omega
 | cnt + 1,i,p,h1,h2,h3,h4 => by
  rw [unusedF]
  by_cases e : i = p
  ·subst e
   rw [h4]
   rfl
  ·rw [if_pos (h3 i (Nat.le_refl _) (by omega))]
   exact unused_some b U cnt (i + 1) p (by omega) (by omega) (fun j hj1 hj2 => h3 j (by omega) hj2) h4
theorem unused_none (b : Nat) (U : List Sg) : ∀ (cnt i : Nat),(∀ j,i ≤ j → j < i + cnt → hasG U (b + 2 + j * 16) = true) → unusedF b U cnt i = none
 | 0,i,_ => rfl
 | cnt + 1,i,h => by
  rw [unusedF,if_pos (h i (Nat.le_refl _) (by omega))]
  exact unused_none b U cnt (i + 1) fun j h1 h2 => h j (by omega) (by omega)
theorem unused_pos (b m : Nat) (V : List Sg) (ha : Apt V) (hm : ∀ s ∈ V,s.at_ < m) : unusedF b (V.map (plc b)) m 0 = if m ≤ V.length then none else some (posF V V.length 0):=by
 by_cases hl : m ≤ V.length
 ·rw [if_pos hl]
  refine unused_none b _ m 0 fun j _ hj => ?_
  rw [hasP_map]
  by_cases hh : hasP V j = true
  ·exact hh
  ·exfalso
   have h1:=nodup_le m (j :: V.map Sg.at_) (List.nodup_cons.2 ⟨fun hm2 => by
    obtain ⟨s,hs,he⟩:=List.mem_map.1 hm2
    exact hh ((hasP_iff V j).2 ⟨s,hs,he⟩),ha⟩) (fun x hx => by
    rcases List.mem_cons.1 hx with rfl | hx
    ·omega
    ·obtain ⟨s,hs,rfl⟩:=List.mem_map.1 hx
     exact hm s hs)
   rw [List.length_cons,List.length_map] at h1
   omega
 ·rw [if_neg hl]
  obtain ⟨a1,a2,a3,a4⟩:=pos_ok V V.length 0 (fun i hi => by omega)
  refine unused_some b _ m 0 _ (Nat.zero_le _) (by omega) (fun j _ hj => by rw [hasP_map];exact a1 j hj) ?_
  rw [hasP_map]
  by_cases hh : hasP V (posF V V.length 0) = true
  ·exfalso
   have h2:=a4 hh
   have:=has_le (V.length + 1) V (fun i hi => by
    by_cases e : i = posF V V.length 0
    ·rw [e];exact hh
    ·exact a1 i (by omega))
   omega
  ·simpa using hh
theorem pos_new (V : List Sg) : hasP V (posF V V.length 0) = false:=by
 obtain ⟨a1,a2,a3,a4⟩:=pos_ok V V.length 0 (fun i hi => by omega)
 by_cases hh : hasP V (posF V V.length 0) = true
 ·exfalso
  have h2:=a4 hh
  have:=has_le (V.length + 1) V (fun i hi => by
   by_cases e : i = posF V V.length 0
   ·rw [e];exact hh
   ·exact a1 i (by omega))
  omega
 ·simpa using hh
theorem kept_sub (rel : Nat) : ∀ V : List Sg,(keptR rel V).Sublist V
 | [] => List.Sublist.refl _
 | s :: r => by
  rw [keptR]
  split
  ·exact (kept_sub rel r).cons_cons s
  ·exact (kept_sub rel r).cons s
theorem Apt.sub {V W : List Sg} (h : Apt V) (hs : W.Sublist V) : Apt W:=(hs.map Sg.at_).nodup h
theorem kept_last (rel : Nat) : ∀ V : List Sg,lastG (keptR rel V) = lastG V ∧ (V ≠ [] → keptR rel V ≠ [])
 | [] => ⟨rfl,fun h => h⟩
 | [s] => by
  rw [keptR,if_pos (.inl rfl)]
  exact ⟨rfl,fun _ => by simp⟩
 | s :: t :: r => by
  obtain ⟨h1,h2⟩:=kept_last rel (t :: r)
  have h3:=h2 (by simp)
  have hl : lastG (s :: t :: r) = lastG (t :: r):=rfl
  have hc : ∀ K : List Sg,K ≠ [] → lastG (s :: K) = lastG K:=fun K hK => by
   cases K with
   | nil => exact absurd rfl hK
   | cons x K => rfl
  rw [keptR]
  split
  ·exact ⟨by rw [hc _ h3,h1,hl],fun _ => by simp⟩
  ·exact ⟨by rw [h1,hl],fun _ => h3⟩
end Go.Proofs.YtghajmcohdedlaaGreat

namespace Go.Proofs.YtghajmcohdedlaaGreat
open Go.RowKit
set_option maxRecDepth 100000
theorem rgc_one (s : Sg) : ∀ u ∈ rgc s,u.oneCell' = true:=by
 intro u hu
 simp only [rgc,List.mem_cons,List.not_mem_nil,or_false] at hu
 rcases hu with rfl | rfl | rfl | rfl <;> rfl
theorem infoRg : (Tryz.prog.info? 106).map (fun i => (i.zero,i.size,i.bytes)) = some (some (.agg #[.int .i64 0,.int .i64 0,.int .i64 0,.int .i64 0]),4,32):=by kernel_rfl
theorem run_append_rg {w : World} (base : Nat) (v : Value) (L : List Sg) (hown : Rgs w base v L) (k c : Nat) (p : Sg) (hb : Blk w k (rgc p).toArray 106) (hl : L.length ≤ 1000000) (hbase : base ≤ w.heap.size) (ty : TypeId) :
  ∃ v' w',(Builtin.append_ #[56,56] ty #[v,.slice (some ⟨k,0,none⟩) 1 c]).run Tryz.prog w = .ok v' w' ∧ Rgs w' base v' (L ++ [p]) ∧ w.grownBy w' v.ownBlock ∧ Oon w v v':=by
 obtain ⟨i0,hi,hz0,hz1,hz2⟩:=info_parts infoRg
 obtain ⟨v',w',hr,h2,h3,_,h5⟩:=run_append_own_at (P:=Tryz.prog) w base 56 ty 106 i0 (.agg #[.int .i64 0,.int .i64 0,.int .i64 0,.int .i64 0]) 4 32 Tryz.underlying56 hi hz0 hz1 hz2 (by rfl) (by decide) v L.length (L.flatMap rgc) hown ⟨k,0,none⟩ 1 c (rgc p) (by rfl) (fun j u hj => by
  have e : (⟨k,0,none⟩ : Addr).add j = ⟨k,0 + j,none⟩:=by unfold Addr.add;split <;> simp_all
  rw [e,Nat.zero_add]
  exact hb.cell j (by simpa using hj)) (rgc_one p) (by unfold maxLen;omega) (by omega) hbase
 refine ⟨v',w',hr,?_,h3,?_⟩
 ·unfold Rgs
  rw [List.length_append,List.flatMap_append]
  simpa using h2
 ·intro k hk
  rcases h5 with h5 | h5
  ·exact .inl (h5 ▸ hk)
  ·rw [h5] at hk
   cases hk
   exact .inr (Nat.le_refl _)
theorem step_append_rg {w : World} {ops : Array Oper} {o : Oper} {act : Act} {K : Act → World → Prop} {Q : Exit → Act → World → Prop} {E : Prop} (hgd : o.guard = none) (s x : Operand)
  (ho : o.op = .call { callee:=.builtin .append,args:=#[s,x],argTypes:=#[56,56] })
  (base : Nat) (v : Value) (L : List Sg) (hs : act.eval s = v) (hown : Rgs w base v L) (k c : Nat) (p : Sg) (hx : act.eval x = .slice (some ⟨k,0,none⟩) 1 c)
  (hb : Blk w k (rgc p).toArray 106) (hl : L.length ≤ 1000000) (hbase : base ≤ w.heap.size)
  (h : ∀ v' w',Rgs w' base v' (L ++ [p]) → w.grownBy w' v.ownBlock → Oon w v v' → K (act.put o.dst v') w') : if Region.wanted o (yielded ops act.tmps) = true then Oper.wp Tryz.prog o act w K Q else E:=by
 rw [if_pos (by simp [Region.wanted,hgd])]
 obtain ⟨v',w',hr,h2,h3,h4⟩:=run_append_rg base v L hown k c p hb hl hbase o.type
 unfold Oper.wp execOp
 simp only [ho,resolve,invoke,builtin,Sem.run_bind,Sem.run_pure,Result.andThen_ok,List.map_toArray,List.map_cons,List.map_nil,hs,hx,hr]
 exact h v' w' h2 h3 h4
theorem wpList_append_rg {w : World} {ops : Array Oper} {rest : List Oper} {o : Oper} {act : Act} {Q : Exit → Act → World → Prop} (hgd : o.guard = none) (s x : Operand)
  (ho : o.op = .call { callee:=.builtin .append,args:=#[s,x],argTypes:=#[56,56] })
  (base : Nat) (v : Value) (L : List Sg) (hs : act.eval s = v) (hown : Rgs w base v L) (k c : Nat) (p : Sg) (hx : act.eval x = .slice (some ⟨k,0,none⟩) 1 c)
  (hb : Blk w k (rgc p).toArray 106) (hl : L.length ≤ 1000000) (hbase : base ≤ w.heap.size)
  (h : ∀ v' w',Rgs w' base v' (L ++ [p]) → w.grownBy w' v.ownBlock → Oon w v v' → wpList Tryz.prog ops Q rest (act.put o.dst v') w') : wpList Tryz.prog ops Q (o :: rest) act w:=by
 refine wpList_plain hgd fun K hK => ?_
 have:=step_append_rg (ops:=ops) (o:=o) (act:=act) (K:=K) (Q:=Q) (E:=True) hgd s x ho base v L hs hown k c p hx hb hl hbase (fun v' w' h1 h2 h3 => hK _ _ (h v' w' h1 h2 h3))
 rwa [if_pos (by simp [Region.wanted,hgd])] at this
theorem Rgs.nil (w : World) (base : Nat) : Rgs w base (.slice none 0 0) []:=World.ownsRow_nil _ _ _ _
theorem flatR_set4 : ∀ (L : List Sg) (j : Nat) (s : Sg),j < L.length → ((((L.flatMap rgc).set (j * 4) (.int .i64 (s.at_ : Int))).set (j * 4 + 1) (.int .i64 (s.num : Int))).set (j * 4 + 2) (.int .i64 (s.en : Int))).set (j * 4 + 3) (.int .i64 (s.high : Int)) = (L.set j s).flatMap rgc
 | [],j,s,h => by simp at h
 | x :: L,0,s,h => by simp [rgc]
 | x :: L,j + 1,s,h => by
  have ih:=flatR_set4 L j s (by simpa using h)
  rw [List.flatMap_cons,List.set_cons_succ,List.flatMap_cons,← ih]
  have hl : (rgc x).length = 4:=rfl
  rw [List.set_append_right _ _ (by rw [hl];omega),List.set_append_right _ _ (by rw [hl];omega),List.set_append_right _ _ (by rw [hl];omega),List.set_append_right _ _ (by rw [hl];omega),hl]
  rw [show (j + 1) * 4 - 4 = j * 4 from by omega,show (j + 1) * 4 + 1 - 4 = j * 4 + 1 from by omega,show (j + 1) * 4 + 2 - 4 = j * 4 + 2 from by omega,show (j + 1) * 4 + 3 - 4 = j * 4 + 3 from by omega]
theorem flatR_set1 (k : Nat) (f : Sg → Sg) (hk : k < 4) (y : Value) (hf : ∀ s,(rgc s).set k y = rgc (f s)) : ∀ (L : List Sg) (j : Nat),j < L.length → (L.flatMap rgc).set (j * 4 + k) y = (L.set j (f (L.getD j zSg))).flatMap rgc
 | [],j,h => by simp at h
 | x :: L,0,h => by
  rw [List.flatMap_cons,Nat.zero_mul,Nat.zero_add,List.set_append_left _ _ (by (show k < 4);exact hk),hf]
  rfl
 | x :: L,j + 1,h => by
  have ih:=flatR_set1 k f hk y hf L j (by simpa using h)
  have hl : (rgc x).length = 4:=rfl
  rw [List.flatMap_cons,List.set_append_right _ _ (by rw [hl];omega),hl,show (j + 1) * 4 + k - 4 = j * 4 + k from by omega,ih]
  rfl
def set4R (w : World) (g o : Nat) (s : Sg) : World:=(((w.setCell ⟨g,o,none⟩ (.int .i64 (s.at_ : Int))).setCell ⟨g,o + 1,none⟩ (.int .i64 (s.num : Int))).setCell ⟨g,o + 2,none⟩ (.int .i64 (s.en : Int))).setCell ⟨g,o + 3,none⟩ (.int .i64 (s.high : Int))
theorem Rgs.set {w : World} {base kb n c : Nat} {l : List Sg} (h : Rgs w base (.slice (some ⟨kb,0,none⟩) n c) l) {j : Nat} (hj : j < l.length) (s : Sg) : Rgs (set4R w kb (j * 4) s) base (.slice (some ⟨kb,0,none⟩) n c) (l.set j s):=by
 have hn : n = l.length:=by obtain ⟨a,c',e⟩:=h.val;cases e;rfl
 subst hn
 have h1:=(World.ownsRow.stored h (j * 4) (.int .i64 (s.at_ : Int))).1
 have h2:=(h1.stored (j * 4 + 1) (.int .i64 (s.num : Int))).1
 have h3:=(h2.stored (j * 4 + 2) (.int .i64 (s.en : Int))).1
 have h4:=(h3.stored (j * 4 + 3) (.int .i64 (s.high : Int))).1
 rw [flatR_set4 l j s hj] at h4
 unfold Rgs
 rw [List.length_set]
 exact h4
theorem Rgs.setEn {w : World} {base kb n c : Nat} {l : List Sg} (h : Rgs w base (.slice (some ⟨kb,0,none⟩) n c) l) {j : Nat} (hj : j < l.length) (x : Nat) : Rgs (w.setCell ⟨kb,j * 4 + 2,none⟩ (.int .i64 (x : Int))) base (.slice (some ⟨kb,0,none⟩) n c) (l.set j { l.getD j zSg with en:=x }):=by
 have hn : n = l.length:=by obtain ⟨a,c',e⟩:=h.val;cases e;rfl
 subst hn
 have h1:=(World.ownsRow.stored h (j * 4 + 2) (.int .i64 (x : Int))).1
 rw [flatR_set1 2 (fun s => { s with en:=x }) (by omega) _ (fun s => rfl) l j hj] at h1
 unfold Rgs
 rw [List.length_set]
 exact h1
theorem Rgs.setHigh {w : World} {base kb n c : Nat} {l : List Sg} (h : Rgs w base (.slice (some ⟨kb,0,none⟩) n c) l) {j : Nat} (hj : j < l.length) (x : Nat) : Rgs (w.setCell ⟨kb,j * 4 + 3,none⟩ (.int .i64 (x : Int))) base (.slice (some ⟨kb,0,none⟩) n c) (l.set j { l.getD j zSg with high:=x }):=by
 have hn : n = l.length:=by obtain ⟨a,c',e⟩:=h.val;cases e;rfl
 subst hn
 have h1:=(World.ownsRow.stored h (j * 4 + 3) (.int .i64 (x : Int))).1
 rw [flatR_set1 3 (fun s => { s with high:=x }) (by omega) _ (fun s => rfl) l j hj] at h1
 unfold Rgs
 rw [List.length_set]
 exact h1
theorem Rgs.freeg {w : World} {base kb n c : Nat} {l : List Sg} (h : Rgs w base (.slice (some ⟨kb,0,none⟩) n c) l) (i : Nat) : w.frozen? ⟨kb,i,none⟩ = false ∧ base ≤ kb ∧ kb < w.heap.size:=by
 rcases h.2 with ⟨h1,_⟩ | ⟨k,c',cur,h1,hb,h3,_⟩
 ·cases h1
 ·simp only [Value.slice.injEq,Option.some.injEq,Addr.mk.injEq,and_true] at h1
  rw [h1.1]
  exact ⟨frozen_of_row w k i cur _ h3,hb,heap_lt h3⟩
theorem Rgs.facts {w : World} {base kb n c : Nat} {l : List Sg} (h : Rgs w base (.slice (some ⟨kb,0,none⟩) n c) l) {J : Nat} (hJ : J < l.length) {x : Sg} (hx : l.getD J zSg = x) : w.cell? ⟨kb,J * 4,none⟩ = some (.int .i64 (x.at_ : Int)) ∧ w.cell? ⟨kb,J * 4 + 1,none⟩ = some (.int .i64 (x.num : Int)) ∧ w.cell? ⟨kb,J * 4 + 2,none⟩ = some (.int .i64 (x.en : Int)) ∧ w.cell? ⟨kb,J * 4 + 3,none⟩ = some (.int .i64 (x.high : Int)) :=
 ⟨by rw [show J * 4 = J * 4 + 0 from rfl,h.cellg hJ (by omega),hx];rfl,by rw [h.cellg hJ (by omega),hx];rfl,by rw [h.cellg hJ (by omega),hx];rfl,by rw [h.cellg hJ (by omega),hx];rfl⟩
theorem Rgs.range {w : World} {base kb n c : Nat} {l : List Sg} (h : Rgs w base (.slice (some ⟨kb,0,none⟩) n c) l) {J : Nat} (hJ : J < l.length) {x : Sg} (hx : l.getD J zSg = x) : w.rangeAt kb (J * 4) (rgc x):=fun q v hq => by
 have hlt : q < 4:=(List.getElem?_eq_some_iff.1 hq).1
 rw [h.cellg hJ hlt,hx]
 exact hq
theorem Rgs.some_ {w : World} {base : Nat} {a : Option Addr} {n c : Nat} {l : List Sg} (h : Rgs w base (.slice a n c) l) (hn : l ≠ []) : ∃ kb,a = some ⟨kb,0,none⟩:=by
 rcases h.2 with ⟨h1,h2⟩ | ⟨k,c',cur,h1,_⟩
 ·exact absurd (List.eq_nil_of_length_eq_zero h2) hn
 ·simp only [Value.slice.injEq] at h1
  exact ⟨k,h1.1⟩
theorem Rgs.blk {w : World} {base kb n c : Nat} {l : List Sg} (h : Rgs w base (.slice (some ⟨kb,0,none⟩) n c) l) : ∃ cur,Blk w kb cur 106:=by
 rcases h.2 with ⟨h1,h2⟩ | ⟨g',c',cur,h1,_,h3,_⟩
 ·cases h1
 ·simp only [Value.slice.injEq,Option.some.injEq,Addr.mk.injEq] at h1
  obtain ⟨⟨rfl,_⟩,_⟩:=h1
  exact ⟨cur,h3⟩
theorem Rgs.low {w : World} {B B' : Nat} {v : Value} {L : List Sg} (h : Rgs w B v L) (hb : B' ≤ B) : Rgs w B' v L:=own_lower h hb
theorem Rcs.low {w : World} {B B' : Nat} {v : Value} {L : List Rc} (h : Rcs w B v L) (hb : B' ≤ B) : Rcs w B' v L:=⟨own_lower h.row hb,fun r hr => (h.bd r hr).lower hb⟩
def Tl (w : World) (k : Nat) (hi rel : Int) (uv rv : Value) : Prop:=Blk w k #[.int .i64 hi,.int .i64 rel,uv,rv] 58
end Go.Proofs.YtghajmcohdedlaaGreat
