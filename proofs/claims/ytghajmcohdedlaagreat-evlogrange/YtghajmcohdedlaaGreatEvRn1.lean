import Derived.Test.YtghajmcohdedlaaGreatPk23
import Derived.Test.YtghajmcohdedlaaGreatPk47
namespace Go.Proofs.YtghajmcohdedlaaGreat
open Go.RowKit
theorem own_poked {w : World} {base g i v : Nat} (hv : v < 256) {a : Option Addr} {n c : Nat} {bs : List Nat} (h : Own w base a n c bs) : ∃ bs',Own (w.setCell ⟨g,i,none⟩ (.int .u8 (v : Int))) base a n c bs':=by
 rcases h.row.2 with ⟨h1,h0⟩ | ⟨g',c',cur',h1,h2,h3,r⟩
 ·exact ⟨bs,⟨⟨h.row.1,.inl ⟨h1,h0⟩⟩,h.byte⟩⟩
 ·by_cases hgg : g' = g
  ·subst hgg
   have h1':=h1
   simp only [Value.slice.injEq,true_and] at h1'
   obtain ⟨rfl,rfl⟩:=h1'
   exact ⟨_,h.set i v hv⟩
  ·exact ⟨bs,⟨⟨h.row.1,.inr ⟨g',c',cur',h1,h2,by rw [heap_setCell_other w ⟨g,i,none⟩ g' _ hgg];exact h3,r⟩⟩,h.byte⟩⟩
structure Pkd (w : World) (B g : Nat) (L : List Rc) (i : Nat) : Prop where
 row : ∃ cs,Blk w g cs 44 ∧ ∀ j x,i ≤ j → L[j]? = some x → cs[j * 2 + 1]? = some (.slice x.a x.n x.c)
 bg : B ≤ g
 bod : ∀ j x,i ≤ j → L[j]? = some x → ∃ bs,Own w B x.a x.n x.c bs
 dis : L.Pairwise fun x y => ∀ k,(Value.slice x.a x.n x.c).ownBlock = some k → (Value.slice y.a y.n y.c).ownBlock ≠ some k
theorem Pkd.of {w : World} {B n c : Nat} {a : Option Addr} {L : List Rc} (h : Rcs w B (.slice a n c) L) (hb : BodO w B L) (hn : L ≠ []) : ∃ g,a = some ⟨g,0,none⟩ ∧ Pkd w B g L 0:=by
 have hp : 0 < L.length:=List.length_pos_iff.2 hn
 rcases h.row.2 with ⟨_,h2⟩ | ⟨g,c',cur,hv,hbg,hg,hlc,hcm,hcs,hx⟩
 ·omega
 ·simp only [Value.slice.injEq] at hv
  refine ⟨g,hv.1,⟨cur,hg,fun j x _ hj => ?_⟩,hbg,fun j x _ hj => ⟨_,hb.1 x (List.mem_of_getElem? hj)⟩,hb.2⟩
  have h1:=rcflat_at hj 1 _ rfl
  rw [← hx,List.getElem?_take] at h1
  split at h1
  ·simpa using h1
  ·cases h1
theorem Pkd.at_ {w : World} {B g : Nat} {L : List Rc} {i : Nat} (h : Pkd w B g L i) {x : Rc} (hx : L[i]? = some x) : w.cell? ⟨g,i * 2 + 1,none⟩ = some (.slice x.a x.n x.c) ∧ w.frozen? ⟨g,i * 2 + 1,none⟩ = false ∧ ∃ bs,Own w B x.a x.n x.c bs:=by
 obtain ⟨cs,h1,h2⟩:=h.row
 exact ⟨h1.cell _ (h2 i x (Nat.le_refl _) hx),h1.free _,h.bod i x (Nat.le_refl _) hx⟩
theorem Pkd.poke {w : World} {B g : Nat} {L : List Rc} {i : Nat} (h : Pkd w B g L i) {gb k z n c : Nat} {bs : List Nat} (ho : Own w B (some ⟨gb,0,none⟩) n c bs) (hz : z < 256) : Pkd (w.setCell ⟨gb,k,none⟩ (.int .u8 (z : Int))) B g L i:=by
 obtain ⟨cs,h1,h2⟩:=h.row
 refine ⟨⟨cs,h1.other _ _ (fun e => ?_),h2⟩,h.bg,fun j x hij hj => ?_,h.dis⟩
 ·exact own_ne' ho.row h1 (by decide) (by rw [e];rfl)
 ·obtain ⟨b2,hb⟩:=h.bod j x hij hj
  exact own_poked hz hb
theorem Pkd.stay {w w' : World} {B g : Nat} {L : List Rc} {i : Nat} (h : Pkd w B g L i) (hb : Below w.heap.size w w') : Pkd w' B g L i:=by
 obtain ⟨cs,h1,h2⟩:=h.row
 exact ⟨⟨cs,h1.stay hb,h2⟩,h.bg,fun j x hij hj => by
  obtain ⟨b2,h3⟩:=h.bod j x hij hj
  exact ⟨b2,h3.below hb⟩,h.dis⟩
theorem Pkd.grown {w w' : World} {B g : Nat} {L : List Rc} {i : Nat} (h : Pkd w B g L i) {x : Rc} (hx : L[i]? = some x) (hg : w.grownBy w' (Value.slice x.a x.n x.c).ownBlock) : Pkd w' B g L (i + 1) ∧ w'.cell? ⟨g,i * 2 + 1,none⟩ = some (.slice x.a x.n x.c) ∧ w'.frozen? ⟨g,i * 2 + 1,none⟩ = false:=by
 obtain ⟨cs,h1,h2⟩:=h.row
 obtain ⟨bs,ho⟩:=h.bod i x (Nat.le_refl _) hx
 have h1g:=h1.grown hg (own_ne' ho.row h1 (by decide))
 refine ⟨⟨⟨cs,h1g,fun j y hij hj => h2 j y (by omega) hj⟩,h.bg,fun j y hij hj => ?_,h.dis⟩,h1g.cell _ (h2 i x (Nat.le_refl _) hx),h1g.free _⟩
 obtain ⟨b2,h3⟩:=h.bod j y (by omega) hj
 refine ⟨b2,⟨own_stay h3.row fun k hk => ?_,h3.byte⟩⟩
 refine hg.block k (h3.row.lt k hk).2 fun e => ?_
 obtain ⟨hi',ei⟩:=List.getElem?_eq_some_iff.1 hx
 obtain ⟨hj',ej⟩:=List.getElem?_eq_some_iff.1 hj
 have h4:=List.pairwise_iff_getElem.1 h.dis i j hi' hj' (by omega)
 rw [ei,ej] at h4
 exact h4 k e.symm hk
theorem Pkd.put {w : World} {B g : Nat} {L : List Rc} {i : Nat} (h : Pkd w B g L (i + 1)) (v : Value) : Pkd (w.setCell ⟨g,i * 2 + 1,none⟩ v) B g L (i + 1):=by
 obtain ⟨cs,h1,h2⟩:=h.row
 refine ⟨⟨_,h1.set _ v,fun j x hij hj => ?_⟩,h.bg,fun j x hij hj => ?_,h.dis⟩
 ·rw [Array.getElem?_setIfInBounds_ne (by omega)]
  exact h2 j x hij hj
 ·obtain ⟨b2,h3⟩:=h.bod j x hij hj
  refine ⟨b2,⟨own_stay h3.row fun k hk => ?_,h3.byte⟩⟩
  refine heap_setCell_other w _ k _ fun e => ?_
  exact own_ne' h3.row h1 (by decide) (by rw [hk,e])
def Pko (w : World) (B : Nat) (a : Option Addr) (L : List Rc) (i : Nat) : Prop:=L = [] ∨ ∃ g,a = some ⟨g,0,none⟩ ∧ Pkd w B g L i
theorem Pko.of {w : World} {B n c : Nat} {a : Option Addr} {L : List Rc} (h : Rcs w B (.slice a n c) L) (hb : BodO w B L) : Pko w B a L 0:=by
 by_cases hn : L = []
 ·exact .inl hn
 ·exact .inr (Pkd.of h hb hn)
theorem Pko.stay {w w' : World} {B : Nat} {a : Option Addr} {L : List Rc} {i : Nat} (h : Pko w B a L i) (hb : Below w.heap.size w w') : Pko w' B a L i:=by
 rcases h with h | ⟨g,h1,h2⟩
 ·exact .inl h
 ·exact .inr ⟨g,h1,h2.stay hb⟩
theorem Pko.get {w : World} {B : Nat} {a : Option Addr} {L : List Rc} {i : Nat} (h : Pko w B a L i) (hi : i < L.length) : ∃ g,a = some ⟨g,0,none⟩ ∧ Pkd w B g L i:=by
 rcases h with h | h
 ·subst h;simp at hi
 ·exact h
end Go.Proofs.YtghajmcohdedlaaGreat
