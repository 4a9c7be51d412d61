import Derived.Test.YtghajmcohdedlaaGreatPk42
import Derived.Test.YtghajmcohdedlaaGreatPk00
import Derived.ProofKit
import Derived.OpenShut
import Derived.ShutString
import Derived.ChangeOld
import Derived.Below
import Derived.SizedLaws
namespace Go.Proofs.YtghajmcohdedlaaGreat
open Go.RowKit
structure Gr (k : Nat) (D E : Dk) : Prop where
 wl : E.waits.length ≤ D.waits.length + k
 ag : E.age = D.age
 sl : E.sure.length = D.sure.length
theorem Gr.refl (k : Nat) (D : Dk) : Gr k D D:=⟨Nat.le_add_right _ _,rfl,rfl⟩
theorem Gr.mono {k k' : Nat} {D E : Dk} (h : Gr k D E) (hk : k ≤ k') : Gr k' D E:=⟨Nat.le_trans h.wl (Nat.add_le_add_left hk _),h.ag,h.sl⟩
theorem Gr.trans {a c : Nat} {D E F : Dk} (h : Gr a D E) (h2 : Gr c E F) : Gr (a + c) D F:=⟨by have:=h.wl;have:=h2.wl;omega,h2.ag.trans h.ag,h2.sl.trans h.sl⟩
theorem write_gr (D : Dk) (i : Int) (bs : List Nat) : Gr 1 D (writeD D i bs):=by
 refine ⟨write_wl D i bs,?_,(write_grew D i bs).sl⟩
 unfold writeD
 split
 ·rfl
 split
 ·rfl
 split
 ·rfl
 split
 ·exact trips_age D
 ·exact trips_age D
theorem sync_gr (D : Dk) : Gr 0 D (syncD D):=by
 refine ⟨sync_wl D,?_,(sync_grew D).sl⟩
 unfold syncD
 split
 ·rfl
 split
 ·exact trips_age D
 ·exact trips_age D
theorem repl_gr (D : Dk) (p n v : Int) : Gr 1 D (replD D p n v):=by
 unfold replD
 split
 ·split
  ·exact (write_gr D p _).trans (sync_gr _)
  ·exact write_gr D p _
 ·exact Gr.refl 1 D
theorem put_gr (D : Dk) (b m : Nat) (i v : Int) : Gr 1 D (putCD D b m i v):=by
 unfold putCD
 split
 ·exact Gr.refl 1 D
 split
 ·split
  ·exact Gr.refl 1 D
  ·exact repl_gr _ _ _ _
 ·exact Gr.refl 1 D
theorem free_gr (b t : Nat) : ∀ (V : List Sg) (D : Dk) (n : Nat),Gr V.length D (freeR b t V D n).1
 | [],D,n => Gr.refl 0 D
 | s :: r,D,n => by
  rw [freeR]
  split
  ·exact (free_gr b t r D n).mono (by simp)
  ·split
   ·exact ((write_gr D _ []).trans (free_gr b t r _ (n + 1))).mono (by simp;omega)
   ·exact (write_gr D _ []).mono (by simp)
theorem wipe_gr : ∀ (cnt : Nat) (D : Dk) (i : Nat) (x : Bool),Gr cnt D (wipeL D cnt i x).1
 | 0,D,i,x => Gr.refl 0 D
 | cnt + 1,D,i,x => by
  rw [wipeL]
  split
  ·exact Gr.refl _ D
  split
  ·exact (wipe_gr cnt D (i + 1) x).mono (by omega)
  split
  ·exact (write_gr D _ []).mono (by omega)
  ·exact ((write_gr D _ []).trans (wipe_gr cnt _ (i + 1) true)).mono (by omega)
theorem begin_gr (P : Nat) (D : Dk) (num hi : Nat) : Gr 17 D (beginG P D num hi).2.1:=by
 unfold beginG
 split
 ·exact Gr.refl _ D
 split
 ·exact (wipe_gr 16 D P false).mono (by omega)
 split
 ·exact ((wipe_gr 16 D P false).trans (sync_gr _)).mono (by omega)
 split
 ·exact ((wipe_gr 16 D P false).trans (sync_gr _)).trans (write_gr _ _ _)
 ·exact ((wipe_gr 16 D P false).trans (sync_gr _)).trans (write_gr _ _ _)
theorem begR_gr (b m : Nat) (D : Dk) (V : List Sg) (seq hi : Nat) : Gr 17 D (begR b m D V seq hi).2:=by
 unfold begR
 split
 ·exact Gr.refl _ D
 ·exact begin_gr _ D seq hi
theorem writes_gr (KB : List Nat) : ∀ (K k P : Nat) (D : Dk),Gr K D (writesF KB K k P D).2
 | 0,k,P,D => Gr.refl 0 D
 | K + 1,k,P,D => by
  rw [writesF]
  split
  ·exact (write_gr D _ _).mono (by omega)
  ·exact ((write_gr D _ _).trans (writes_gr KB K (k + 1) (P + 1) _)).mono (by omega)
structure Okp (N : Nat) (D : Dk) (V : List Sg) (hi rel : Nat) (P : List (Nat × List Nat)) : Prop where
 sl : D.sure.length = 52
 apt : Apt V
 vs : ∀ s ∈ V,s.at_ < 3 ∧ s.en ≤ 16 ∧ s.num ≤ 4611686018427387904 ∧ s.high ≤ hi
 hh : hi ≤ 1099511627776
 rh : rel ≤ hi
 ps : ∀ p ∈ P,rel < p.1 ∧ p.1 ≤ hi
 pl : P.length ≤ N
 up : P.Pairwise fun a b => a.1 < b.1
theorem Okp.len {N : Nat} {D : Dk} {V : List Sg} {hi rel : Nat} {P : List (Nat × List Nat)} (h : Okp N D V hi rel P) : V.length ≤ 3:=by
 have:=nodup_le 3 (V.map Sg.at_) h.apt (fun x hx => by
  obtain ⟨s,hs,rfl⟩:=List.mem_map.1 hx
  exact (h.vs s hs).1)
 simpa using this
theorem Okp.disk {N : Nat} {D E : Dk} {V : List Sg} {hi rel : Nat} {P : List (Nat × List Nat)} (h : Okp N D V hi rel P) (hs : E.sure.length = D.sure.length) : Okp N E V hi rel P:=⟨hs.trans h.sl,h.apt,h.vs,h.hh,h.rh,h.ps,h.pl,h.up⟩
theorem Okp.mono {N N' : Nat} {D : Dk} {V : List Sg} {hi rel : Nat} {P : List (Nat × List Nat)} (h : Okp N D V hi rel P) (hn : N ≤ N') : Okp N' D V hi rel P:=⟨h.sl,h.apt,h.vs,h.hh,h.rh,h.ps,Nat.le_trans h.pl hn,h.up⟩
theorem keyB_len (t : Nat) (bs : List Nat) : (keyB t bs).length = 8 + bs.length:=by
 unfold keyB
 rw [List.length_append]
 rfl
theorem apt_set {V : List Sg} (h : Apt V) {i : Nat} {s : Sg} (hs : (V.getD i zSg).at_ = s.at_) : Apt (V.set i s):=by
 unfold Apt at h ⊢
 rw [List.map_set]
 by_cases hi : i < V.length
 ·rw [List.getD_eq_getElem?_getD,List.getElem?_eq_getElem hi,Option.getD_some] at hs
  rw [← hs,show (V[i]).at_ = (V.map Sg.at_)[i]'(by simpa using hi) from by simp,List.set_getElem_self]
  exact h
 ·rw [List.set_eq_of_length_le (by simpa using hi)]
  exact h
theorem apt_snoc {V : List Sg} (h : Apt V) {s : Sg} (hs : hasP V s.at_ = false) : Apt (V ++ [s]):=by
 unfold Apt at h ⊢
 rw [List.map_append,List.nodup_append]
 refine ⟨h,by simp,fun a ha b hb e => ?_⟩
 simp only [List.map_cons,List.map_nil,List.mem_singleton] at hb
 subst hb
 subst e
 obtain ⟨x,hx,he⟩:=List.mem_map.1 ha
 have:=(hasP_iff V s.at_).2 ⟨x,hx,he⟩
 rw [hs] at this
 cases this
theorem append_ok {N : Nat} {D : Dk} {V : List Sg} {hi rel : Nat} {P : List (Nat × List Nat)} (h : Okp N D V hi rel P) (ag : Nat) (t : Int) (bs : List Nat) :
  Gr 40 D (appendRF 1 3 ag D V hi t bs).2.1 ∧ Okp (N + 1) (appendRF 1 3 ag D V hi t bs).2.1 (appendRF 1 3 ag D V hi t bs).2.2.1 (appendRF 1 3 ag D V hi t bs).2.2.2.1 rel (if (appendRF 1 3 ag D V hi t bs).2.2.2.2 = true then P ++ [(t.toNat,bs)] else P) ∧ hi ≤ (appendRF 1 3 ag D V hi t bs).2.2.2.1:=by
 have stop : ∀ E : Dk,Gr 40 D E → Gr 40 D E ∧ Okp (N + 1) E V hi rel P ∧ hi ≤ hi:=fun E g => ⟨g,(h.disk g.sl).mono (Nat.le_succ N),Nat.le_refl _⟩
 unfold appendRF
 split
 ·exact stop _ (Gr.refl 40 D)
 split
 ·exact stop _ (Gr.refl 40 D)
 rename_i hb
 split
 ·exact stop _ (Gr.refl 40 D)
 rename_i ht
 have hK : ((keyB t.toNat bs).length + 58) / 59 ≤ 7:=by rw [keyB_len];omega
 obtain ⟨K,HK⟩ : ∃ K,((keyB t.toNat bs).length + 58) / 59 = K:=⟨_,rfl⟩
 rw [HK] at hK ⊢
 have hT1 : hi < t.toNat:=by omega
 have hT2 : t.toNat ≤ 1099511627776:=by omega
 have hok : ∀ (E : Dk) (V2 : List Sg),Gr 40 D E → Apt V2 → (∀ s ∈ V2,s.at_ < 3 ∧ s.en ≤ 16 ∧ s.num ≤ 4611686018427387904 ∧ s.high ≤ t.toNat) → Gr 40 D E ∧ Okp (N + 1) E V2 t.toNat rel (P ++ [(t.toNat,bs)]) ∧ hi ≤ t.toNat:=fun E V2 g a v => ⟨g,⟨g.sl.trans h.sl,a,v,hT2,Nat.le_trans h.rh (Nat.le_of_lt hT1),fun p hp => by
  rcases List.mem_append.1 hp with h1 | h1
  ·have:=h.ps p h1;exact ⟨this.1,by omega⟩
  ·rw [List.mem_singleton] at h1;subst h1;exact ⟨Nat.lt_of_le_of_lt h.rh hT1,Nat.le_refl _⟩,by rw [List.length_append];have:=h.pl;simp;omega,List.pairwise_append.2 ⟨h.up,List.pairwise_singleton _ _,fun a ha b hb => by rw [List.mem_singleton] at hb;subst hb;exact Nat.lt_of_le_of_lt (h.ps a ha).2 hT1⟩⟩,Nat.le_of_lt hT1⟩
 unfold appendRG
 split
 ·rename_i hbig
  unfold appendRB
  split
  ·exact stop _ ((begR_gr 1 3 D V _ hi).mono (by omega))
  rename_i hB
  have hg : Gr 40 D (writesF (keyB t.toNat bs) K 0 (1 + 2 + 16 * posF V V.length 0 + 1) (begR 1 3 D V (nextN V) hi).2).2:=((begR_gr 1 3 D V _ hi).trans (writes_gr _ K 0 _ _)).mono (by omega)
  split
  ·exact stop _ hg
  have hB0 : (begR 1 3 D V (nextN V) hi).1 = 0:=Classical.byContradiction hB
  unfold begR at hB0
  split at hB0
  ·cases hB0
  rename_i hlen
  have hnum : nextN V ≤ 4611686018427387904:=by
   refine Nat.le_of_not_lt fun h1 => ?_
   unfold beginG at hB0
   rw [if_pos h1] at hB0
   cases hB0
  have hpos : posF V V.length 0 < 3:=by
   have:=(pos_ok V V.length 0 (fun i hi => absurd hi (Nat.not_lt_zero i))).2.2.1
   omega
  rw [if_pos rfl]
  refine hok _ _ hg (apt_snoc h.apt (pos_new V)) (fun s hs => ?_)
  rcases List.mem_append.1 hs with h1 | h1
  ·have:=h.vs s h1
   exact ⟨this.1,this.2.1,this.2.2.1,by omega⟩
  ·rw [List.mem_singleton] at h1
   subst h1
   exact ⟨hpos,by simp only;omega,hnum,Nat.le_refl _⟩
 ·rename_i hbig
  unfold appendRO
  have hne : V ≠ []:=fun e => by
   subst e
   unfold endR at hbig
   rw [if_pos rfl] at hbig
   omega
  have hg : Gr 40 D (writesF (keyB t.toNat bs) K 0 (1 + 2 + 16 * (lastG V).at_ + (lastG V).en) D).2:=(writes_gr _ K 0 _ _).mono (by omega)
  split
  ·exact stop _ hg
  have hl:=h.vs _ (lastG_mem hne)
  have he : endR V = (lastG V).en:=by unfold endR;rw [if_neg hne]
  rw [if_pos rfl]
  refine hok _ _ hg (apt_set h.apt rfl) (fun s hs => ?_)
  rcases List.mem_or_eq_of_mem_set hs with h1 | h1
  ·have:=h.vs s h1
   exact ⟨this.1,this.2.1,this.2.2.1,by omega⟩
  ·subst h1
   exact ⟨hl.1,by simp only;omega,hl.2.2.1,Nat.le_refl _⟩
theorem Okp.keep {N : Nat} {D : Dk} {V : List Sg} {hi rel : Nat} {P : List (Nat × List Nat)} (h : Okp N D V hi rel P) {E : Dk} (hs : E.sure.length = D.sure.length) (t : Nat) (ht : t ≤ hi) : Okp N E (keptR t V) hi t (keepP t P) :=
 ⟨hs.trans h.sl,h.apt.sub (kept_sub t V),fun s hs2 => h.vs s ((kept_sub t V).subset hs2),h.hh,ht,fun p hp => ⟨by simpa using (List.mem_filter.1 hp).2,(h.ps p (List.mem_filter.1 hp).1).2⟩,Nat.le_trans (List.length_filter_le _ _) h.pl,h.up.filter _⟩
theorem Okp.all {N : Nat} {D : Dk} {V : List Sg} {hi rel : Nat} {P : List (Nat × List Nat)} (h : Okp N D V hi rel P) : keepP rel P = P:=List.filter_eq_self.2 fun p hp => decide_eq_true (h.ps p hp).1
theorem chop_ok {N : Nat} {D : Dk} {V : List Sg} {hi rel : Nat} {P : List (Nat × List Nat)} (h : Okp N D V hi rel P) (ag : Nat) (t : Int) :
  Gr 40 D (chopRF 1 D ag V hi rel t).2.1 ∧ Okp N (chopRF 1 D ag V hi rel t).2.1 (chopRF 1 D ag V hi rel t).2.2.1 hi (chopRF 1 D ag V hi rel t).2.2.2 (keepP (chopRF 1 D ag V hi rel t).2.2.2 P) ∧ rel ≤ (chopRF 1 D ag V hi rel t).2.2.2:=by
 have stop : ∀ E : Dk,Gr 40 D E → Gr 40 D E ∧ Okp N E V hi rel (keepP rel P) ∧ rel ≤ rel:=fun E g => ⟨g,by rw [h.all];exact h.disk g.sl,Nat.le_refl _⟩
 have hp:=(put_gr D 1 1 0 t).mono (show 1 ≤ 40 by omega)
 unfold chopRF
 split
 ·exact stop _ (Gr.refl 40 D)
 split
 ·exact stop _ (Gr.refl 40 D)
 rename_i ht
 split
 ·exact stop _ (Gr.refl 40 D)
 rename_i hrt
 split
 ·exact stop _ hp
 have hf : Gr 40 D (freeR 1 t.toNat V (putCD D 1 1 0 t) 0).1:=((put_gr D 1 1 0 t).trans (free_gr 1 t.toNat V _ 0)).mono (by have:=h.len;omega)
 have hfs : Gr 40 D (syncD (freeR 1 t.toNat V (putCD D 1 1 0 t) 0).1):=(((put_gr D 1 1 0 t).trans (free_gr 1 t.toNat V _ 0)).trans (sync_gr _)).mono (by have:=h.len;omega)
 unfold chopRG
 split
 ·exact stop _ hf
 split
 ·split
  ·exact stop _ hfs
  ·exact ⟨hfs,h.keep hfs.sl _ (by omega),by show rel ≤ t.toNat;omega⟩
 ·exact ⟨hf,h.keep hf.sl _ (by omega),by show rel ≤ t.toNat;omega⟩
theorem read_bounds (s : List Nat) : 0 ≤ (readB s).2 ∧ (readB s).2 ≤ 1099511627776:=by
 unfold readB
 split
 ·rename_i h;exact h.2.1
 ·exact ⟨Int.le_refl _,by decide⟩
theorem look_bounds (D : Dk) (p : Int) : 0 ≤ (lookB D p).2 ∧ (lookB D p).2 ≤ 1099511627776:=by
 unfold lookB
 split
 ·exact read_bounds _
 ·exact ⟨Int.le_refl _,by decide⟩
theorem get_nat (D : Dk) (b m : Nat) (i : Int) : ∃ rr : Nat,(getB D b m i).1 = (rr : Int) ∧ rr ≤ 1099511627776:=by
 have h : 0 ≤ (getB D b m i).1 ∧ (getB D b m i).1 ≤ 1099511627776:=by
  unfold getB
  split
  ·show 0 ≤ (standB D b i.toNat).2.2 ∧ _
   unfold standB
   split
   ·exact look_bounds _ _
   ·exact look_bounds _ _
  ·exact ⟨Int.le_refl _,by decide⟩
 exact ⟨(getB D b m i).1.toNat,by omega,by omega⟩
theorem openD_wl (D : Dk) (rr : Nat) (RU : List Sg) : (openD 1 D rr RU).waits.length ≤ D.waits.length + (RU.length + 16):=by
 have h:=(free_gr 1 rr RU D 0).trans (wipe_gr (16 - (lastG RU).en) _ (1 + 2 + 16 * (lastG RU).at_ + (lastG RU).en) false)
 unfold openD
 split
 ·omega
 split
 ·have:=(h.trans (sync_gr _)).wl;omega
 ·have:=h.wl;omega
theorem readF_up (D : Dk) (at_ : Nat) : ∀ (f hi en : Nat) (acc : List (Nat × List Nat)),en ≤ 16 → (∀ p ∈ acc,0 < p.1 ∧ p.1 ≤ hi) → acc.Pairwise (fun a b => a.1 < b.1) → (∀ p ∈ (readF D at_ f hi en acc).2.2,0 < p.1 ∧ p.1 ≤ (readF D at_ f hi en acc).1) ∧ (readF D at_ f hi en acc).2.2.Pairwise (fun a b => a.1 < b.1)
 | 0,hi,en,acc,h0,h1,h2 => ⟨h1,h2⟩
 | f + 1,hi,en,acc,h0,h1,h2 => by
  rw [readF]
  cases hn : nextF D at_ en hi with
  | none => exact ⟨h1,h2⟩
  | some r =>
   obtain ⟨v,bs,e⟩:=r
   have hg:=next_gt D at_ en hi v e bs h0 hn
   refine readF_up D at_ f v e (acc ++ [(v,bs)]) hg.2.1 (fun p hp => ?_) (List.pairwise_append.2 ⟨h2,List.pairwise_singleton _ _,fun a ha b hb => ?_⟩)
   ·rcases List.mem_append.1 hp with h3 | h3
    ·have:=h1 p h3;omega
    ·rw [List.mem_singleton] at h3;subst h3;exact ⟨by simp only;omega,Nat.le_refl _⟩
   ·rw [List.mem_singleton] at hb
    subst hb
    have:=(h1 a ha).2
    simp only
    omega
theorem readAllR_up (D : Dk) (b : Nat) : ∀ (V : List Sg) (hi : Nat) (acc : List (Nat × List Nat)),(∀ s ∈ V,s.en ≤ 16) → (∀ p ∈ acc,0 < p.1 ∧ p.1 ≤ hi) → acc.Pairwise (fun a b => a.1 < b.1) → (∀ p ∈ (readAllR D b V hi acc).2.2,0 < p.1 ∧ p.1 ≤ (readAllR D b V hi acc).2.1) ∧ (readAllR D b V hi acc).2.2.Pairwise (fun a b => a.1 < b.1)
 | [],hi,acc,h0,h1,h2 => ⟨h1,h2⟩
 | s :: V,hi,acc,h0,h1,h2 => by
  rw [readAllR]
  have:=readF_up D (b + 2 + 16 * s.at_ + 0) 17 (max hi s.high) s.en acc (h0 s List.mem_cons_self) (fun p hp => by have:=h1 p hp;omega) h2
  exact readAllR_up D b V _ _ (fun x hx => h0 x (List.mem_cons_of_mem _ hx)) this.1 this.2
theorem reads_ok {D : Dk} (hs : D.sure.length = 52) (rr : Nat) (hr : rr ≤ 1099511627776) (hc : Calm D) :
  Okp 60 (openD 1 D rr (readAllR D 1 (sortG (headsR D 1 3)) 0 []).1) (keptR rr (readAllR D 1 (sortG (headsR D 1 3)) 0 []).1) (max (readAllR D 1 (sortG (headsR D 1 3)) 0 []).2.1 rr) rr (keepP rr (readAllR D 1 (sortG (headsR D 1 3)) 0 []).2.2) ∧ Calm (openD 1 D rr (readAllR D 1 (sortG (headsR D 1 3)) 0 []).1) ∧ Gr 20 D (openD 1 D rr (readAllR D 1 (sortG (headsR D 1 3)) 0 []).1):=by
 have hp:=sortG_perm (headsR D 1 3)
 have hh : ∀ s ∈ sortG (headsR D 1 3),s.at_ < 3 ∧ s.en = 1 ∧ s.num ≤ 4611686018427387904 ∧ s.high ≤ 1099511627776:=fun s hs2 => headsR_ok D 1 3 s (hp.mem_iff.1 hs2)
 have hl : (sortG (headsR D 1 3)).length ≤ 3:=by rw [hp.length_eq];exact headsR_len D 1 3
 have hat:=readAllR_at D 1 (sortG (headsR D 1 3)) 0 []
 have hrk:=readAllR_ok D 1 (sortG (headsR D 1 3)) 0 [] (fun s hs2 => by have:=hh s hs2;omega) (by omega)
 have hrl:=readAllR_len D 1 (sortG (headsR D 1 3)) 0 []
 have hru:=readAllR_up D 1 (sortG (headsR D 1 3)) 0 [] (fun s hs2 => by have:=hh s hs2;omega) (fun p hp2 => by cases hp2) List.Pairwise.nil
 obtain ⟨R,HR⟩ : ∃ R,readAllR D 1 (sortG (headsR D 1 3)) 0 [] = R:=⟨_,rfl⟩
 rw [HR] at hat hrk hrl hru ⊢
 have hap : Apt R.1:=by
  unfold Apt
  rw [hat.1]
  exact (headsR_apt D 1 3).sort
 have hb : ∀ s ∈ R.1,s.at_ < 3 ∧ s.num ≤ 4611686018427387904:=fun s hs2 => by
  constructor
  ·have : s.at_ ∈ R.1.map Sg.at_:=List.mem_map_of_mem hs2
   rw [hat.1] at this
   obtain ⟨x,hx,e⟩:=List.mem_map.1 this
   rw [← e];exact (hh x hx).1
  ·have : s.num ∈ R.1.map Sg.num:=List.mem_map_of_mem hs2
   rw [hat.2] at this
   obtain ⟨x,hx,e⟩:=List.mem_map.1 this
   rw [← e];exact (hh x hx).2.2.1
 have hRl : R.1.length ≤ 3:=by
  have:=congrArg List.length hat.1
  simp only [List.length_map] at this
  omega
 have hoc:=openD_calm (b:=1) (m:=3) (rr:=rr) (RU:=R.1) hc (by omega) (fun s hs2 => ⟨(hb s hs2).1,(hrk.2.2 s hs2).1⟩)
 have h0 : Okp 60 D R.1 (max R.2.1 rr) 0 (keepP 0 R.2.2):=⟨hs,hap,fun s hs2 => ⟨(hb s hs2).1,(hrk.2.2 s hs2).1,(hb s hs2).2,Nat.le_trans (hrk.2.2 s hs2).2 (Nat.le_max_left _ _)⟩,Nat.max_le.2 ⟨hrk.2.1,hr⟩,Nat.zero_le _,fun p hp2 => ⟨by simpa using (List.mem_filter.1 hp2).2,by have:=(hru.1 p (List.mem_filter.1 hp2).1).2;omega⟩,Nat.le_trans (List.length_filter_le _ _) (by simp at hrl;omega),hru.2.filter _⟩
 have h1:=h0.keep hoc.2.1 rr (Nat.le_max_right _ _)
 refine ⟨⟨h1.sl,h1.apt,h1.vs,h1.hh,h1.rh,fun p hp2 => ⟨by simpa using (List.mem_filter.1 hp2).2,by have:=(hru.1 p (List.mem_filter.1 hp2).1).2;omega⟩,Nat.le_trans (List.length_filter_le _ _) (by simp at hrl;omega),hru.2.filter _⟩,hoc.1,⟨?_,hoc.2.2,hoc.2.1⟩⟩
 have:=openD_wl D rr R.1
 omega
end Go.Proofs.YtghajmcohdedlaaGreat

namespace Go.Proofs.YtghajmcohdedlaaGreat
open Go.ChangeShapes Go.WideShapes Go.ChangeAt Go.RowKit
theorem own : ownKnob Tryz.prog.godebug = none:=by kernel_rfl
theorem laidOut : laidOutB Tryz.prog = true:=by kernel_rfl
theorem trod_lt' {H : Type} {enc : TypeId × Value → H} {P : Program} {W : World} {t : TypeId} {v : Value} {d : DataW H} {ps : List MemPlace} (h : DataW.Trod enc P W 0 (fun _ => true) true t v d ps) :
  ∀ x ∈ ps,x.block < W.heap.size:=by
 obtain ⟨m,hm⟩:=h
 exact DataW.trod_lt m _ _ _ hm
theorem trodAll_below {H : Type} {enc : TypeId × Value → H} {P : Program} (hl : laidOutB P = true) {W W' : World} (hb : Below W.heap.size W W') :
  ∀ (ts : List TypeId) (vs : List Value) (ds : List (DataW H)) (ps : List MemPlace),ts.all (fun t => P.readableRec t && decide (t < P.types.size)) = true →
   DataW.TrodAll enc P W 0 (fun _ => true) true ts vs ds ps → DataW.TrodAll enc P W' 0 (fun b => decide (b < W.heap.size)) true ts vs ds ps
 | [],[],[],_,_,h => h
 | [],_ :: _,_,_,_,h => h.elim
 | [],[],_ :: _,_,_,h => h.elim
 | _ :: _,[],_,_,_,h => by cases h
 | _ :: _,_ :: _,[],_,_,h => by cases h
 | t :: ts,v :: vs,d :: ds,ps,hr,⟨p,q,h1,h2,e⟩ => by
  simp only [List.all_cons,Bool.and_eq_true,decide_eq_true_eq] at hr
  exact ⟨p,q,Below.trod hl hr.1.1 hr.1.2 h1 hb (trod_lt' h1),trodAll_below hl hb ts vs ds q hr.2 h2,e⟩
def Form {H : Type} (d : DataW H) (len cap : Nat) : Prop:=(d = .nil ∧ len = 0 ∧ cap = 0) ∨ ∃ elems spare,d = .slice elems spare ∧ elems.length = len ∧ elems.length + spare.length = cap
theorem rd_of {H : Type} {enc : TypeId × Value → H} {W : World} {a : Option Addr} {len cap : Nat} {d : DataW H} {p : List MemPlace}
  (h : DataW.Trod enc Tryz.prog W 0 (fun _ => true) true 27 (.slice a len cap) d p) : ∃ bs,Rd W a len bs ∧ len ≤ cap ∧ cap ≤ 9223372036854775807 ∧ len + 1 ≤ Rows.uptoBulk d ∧ (a = none → cap = 0) ∧ Form d len cap:=by
 obtain ⟨fuel,hf⟩:=h
 rcases open_ints Tryz.underlying27 Tryz.underlying5 (by kernel_rfl) hf with ⟨hcs,hx⟩ | ⟨x,l,c,zs,hcs,_,hl,hm,hz,hx,hcell,hwz⟩
 ·simp [Value.cells] at hcs
  obtain ⟨rfl,rfl,rfl⟩:=hcs
  simp only [Prod.mk.injEq] at hx
  obtain ⟨rfl,rfl⟩:=hx
  exact ⟨[],⟨rfl,by simp,.inl rfl⟩,Nat.le_refl _,by omega,by simp [Rows.uptoBulk],fun _ => rfl,.inl ⟨rfl,rfl,rfl⟩⟩
 ·simp [Value.cells] at hcs
  obtain ⟨rfl,rfl,rfl⟩:=hcs
  simp only [Prod.mk.injEq] at hx
  obtain ⟨rfl,rfl⟩:=hx
  simp only [if_true] at hz
  have hm':=hm
  unfold maxLen at hm'
  have hwf : ∀ n ∈ zs,0 ≤ n ∧ n ≤ 255:=fun n hn => by simpa [Lit.wf,IntKind.min,IntKind.max,IntKind.signed,IntKind.bits] using hwz n hn
  have bulk : ∀ (k : IntKind) (l : List Int),Rows.uptoBulkAll (lits (H:=H) k l) = l.length:=by
   intro k l
   induction l with
   | nil => rfl
   | cons x r ih =>
    have e : lits (H:=H) k (x :: r) = .lit (.int k x) :: lits k r:=rfl
    rw [e]
    simp only [Rows.uptoBulkAll,Rows.uptoBulk,ih,List.length_cons]
    omega
  refine ⟨(zs.take len).map Int.toNat,⟨by simp;omega,?_,?_⟩,hl,hm',?_,(fun h => by cases h),.inr ⟨_,_,rfl,?_,?_⟩⟩
  ·intro y hy
   obtain ⟨n,hn,rfl⟩:=List.mem_map.1 hy
   have:=hwf n (List.mem_of_mem_take hn)
   omega
  ·by_cases h0 : len = 0
   ·exact .inl h0
   ·right
    obtain ⟨b,off,spot⟩:=x
    have hc:=hcell 0 (by omega)
    have hspot : spot = none:=by simpa [Addr.add] using World.cell?_spot hc
    subst hspot
    refine ⟨b,off,rfl,World.block_lt_of_cell? W _ hc,fun i hi => ?_⟩
    have hci:=hcell i (by omega)
    have e : (⟨b,off,none⟩ : Addr).add i = ⟨b,off + i,none⟩:=by unfold Addr.add;split <;> simp_all
    rw [e] at hci
    rw [hci]
    have hzi : i < zs.length:=by omega
    have hge:=hwf zs[i] (List.getElem_mem hzi)
    simp only [List.getD_eq_getElem?_getD,List.getElem?_map,List.getElem?_take_of_lt hi,List.getElem?_eq_getElem hzi,Option.map_some,Option.getD_some]
    congr 2
    omega
  ·simp only [Rows.uptoBulk,bulk,List.length_take,List.length_drop]
   omega
  ·simp only [lits,List.length_map,List.length_take]
   omega
  ·simp only [lits,List.length_map,List.length_take,List.length_drop]
   omega
theorem bytesByte : Tryz.prog.bytesOf 5 = 1:=by kernel_rfl
theorem reach_of {H : Type} {ts : List TypeId} {ds : List (DataW H)} (h : (DataW.weightsEach Tryz.prog ts ds).all (· ≤ reachBytes) = true) {j : Nat} {d : DataW H} {len cap : Nat} (hf : Form d len cap) (ht : ts[j]? = some 27) (hd : ds[j]? = some d) : cap ≤ 140737488351232:=by
 rcases hf with ⟨_,_,rfl⟩ | ⟨elems,spare,rfl,_,e⟩
 ·omega
 ·have:=sized_slice h ht hd Tryz.underlying27
  rw [bytesByte] at this
  simp only [reachBytes] at this
  omega
end Go.Proofs.YtghajmcohdedlaaGreat
