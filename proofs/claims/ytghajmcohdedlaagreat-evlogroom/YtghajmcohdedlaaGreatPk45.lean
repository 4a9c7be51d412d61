import Derived.Test.YtghajmcohdedlaaGreatPk44
namespace Go.Proofs.YtghajmcohdedlaaGreat
open Go.RowKit
theorem LgG.mr {w w' : World} {base bd b2 g gs : Nat} {wv : Value} {D : Dk} {gl gc b m ag : Nat} {U : List Sg} {uv : Value} {hi rel : Nat} {L : List Rc} {rv : Value} (h : LgG w base bd g gs wv D gl gc b m ag U uv hi rel L rv) (hm : Mr w w' b2) : LgG w' base bd g gs wv D gl gc b m ag U uv hi rel L rv :=
 ⟨h.disk.stayR hm,hm.keep h.log (by decide) (by decide) (by decide),hm.keep h.cells (by decide) (by decide) (by decide),own_type h.used (fun k cs hk => hm.block k cs _ _ hk (by decide) (by decide) (by decide)),⟨own_type h.recs.row (fun k cs hk => hm.block k cs _ _ hk (by decide) (by decide) (by decide)),fun x hx => (h.recs.bd x hx).stays fun k cs fr hk => hm.block k cs _ fr hk (by decide) (by decide) (by decide)⟩,h.bl⟩
def Other (S : Nat → Prop) (w : World) : Prop:=∀ (k : Nat) cs t fr,S k → w.heap[k]? = some (.cells cs t fr) → t = 39 ∨ t = 5
theorem Frm.other {S : Nat → Prop} {w w' : World} (hf : Frm S w w') (hs : Other S w) {k : Nat} {cs : Array Value} {t : TypeId} {fr : Nat × Nat} (hk : w.heap[k]? = some (.cells cs t fr)) (h1 : t ≠ 39) (h2 : t ≠ 5) : w'.heap[k]? = some (.cells cs t fr):=by
 rw [hf.block k (heap_lt hk) (fun e => (hs k cs t fr e hk).elim h1 h2)]
 exact hk
theorem Disk.frm {S : Nat → Prop} {w w' : World} {base g gs : Nat} {wv : Value} {D : Dk} (hd : Disk w base g gs wv D) (hf : Frm S w w') (hs : Other S w) : Disk w' base g gs wv D :=
 ⟨hf.other hs hd.blk (by decide) (by decide),hf.other hs hd.srow (by decide) (by decide),own_type hd.wrow (fun k cs hk => hf.other hs hk (by decide) (by decide)),hd.bg,hd.bs,hd.sz,hd.sec,hd.wts,hd.tr,hd.ag,hd.wl⟩
theorem LgG.frm {S : Nat → Prop} {w w' : World} {base bd g gs : Nat} {wv : Value} {D : Dk} {gl gc b m ag : Nat} {U : List Sg} {uv : Value} {hi rel : Nat} {L : List Rc} {rv : Value} (h : LgG w base bd g gs wv D gl gc b m ag U uv hi rel L rv) (hf : Frm S w w') (hs : Other S w) (hb : ∀ x ∈ L,Bd w' base x.a x.n x.bs) : LgG w' base bd g gs wv D gl gc b m ag U uv hi rel L rv :=
 ⟨h.disk.frm hf hs,hf.other hs h.log (by decide) (by decide),hf.other hs h.cells (by decide) (by decide),own_type h.used (fun k cs hk => hf.other hs hk (by decide) (by decide)),⟨own_type h.recs.row (fun k cs hk => hf.other hs hk (by decide) (by decide)),hb⟩,h.bl⟩
theorem LrG.frm {S : Nat → Prop} {w w' : World} {base r q : Nat} {sv wv : Value} {SV WV : List Value} {D : Dk} {gl b m ag : Nat} {V : List Sg} {uv : Value} {hi rel : Nat} {L : List Rc} {rv : Value} (h : LrG w base r q sv wv SV WV D gl b m ag V uv hi rel L rv) (hf : Frm S w w') (hs : Other S w) (hq : ∀ k cs fr,S k → w.heap[k]? = some (.cells cs 5 fr) → k = q) (hb : ∀ x ∈ L,Bd w' base x.a x.n x.bs) : LrG w' base r q sv wv SV WV D gl b m ag V uv hi rel L rv:=by
 refine ⟨h.disk.move fun k cs t fr h1 h2 => ?_,hf.other hs h.log (by decide) (by decide),own_type h.used (fun k cs hk => hf.other hs hk (by decide) (by decide)),⟨own_type h.recs.row (fun k cs hk => hf.other hs hk (by decide) (by decide)),hb⟩,h.bl⟩
 rcases h2 with rfl | rfl | rfl | ⟨rfl,h3⟩
 ·exact hf.other hs h1 (by decide) (by decide)
 ·exact hf.other hs h1 (by decide) (by decide)
 ·exact hf.other hs h1 (by decide) (by decide)
 ·rw [hf.block k (heap_lt h1) (fun e => h3 (hq k cs fr e h1))]
  exact h1
def rrOf (D : Dk) : Nat:=(getB D 1 1 0).1.toNat
def rdOf (D : Dk) : List Sg × Nat × List (Nat × List Nat):=readAllR D 1 (sortG (headsR D 1 3)) 0 []
def opD (D : Dk) : Dk:=openD 1 D (rrOf D) (rdOf D).1
def opV (D : Dk) : List Sg:=keptR (rrOf D) (rdOf D).1
def opH (D : Dk) : Nat:=max (rdOf D).2.1 (rrOf D)
def opP (D : Dk) : List (Nat × List Nat):=keepP (rrOf D) (rdOf D).2.2
theorem rr_is (D : Dk) : (getB D 1 1 0).1 = (rrOf D : Int) ∧ rrOf D ≤ 1099511627776:=by
 obtain ⟨r,h1,h2⟩:=get_nat D 1 1 0
 unfold rrOf
 rw [h1]
 exact ⟨by simp,by simpa using h2⟩
theorem op_ok {D : Dk} (hs : D.sure.length = 52) (hc : Calm D) : Okp 60 (opD D) (opV D) (opH D) (rrOf D) (opP D) ∧ Calm (opD D) ∧ Gr 20 D (opD D):=reads_ok hs (rrOf D) (rr_is D).2 hc
theorem rd_ok {D : Dk} : (∀ s ∈ (rdOf D).1,s.at_ < 3 ∧ s.en ≤ 16) ∧ (rdOf D).1.length ≤ 3:=by
 have hp:=sortG_perm (headsR D 1 3)
 have hh : ∀ s ∈ sortG (headsR D 1 3),s.at_ < 3 ∧ s.en = 1 ∧ s.num ≤ 4611686018427387904 ∧ s.high ≤ 1099511627776:=fun s hs2 => headsR_ok D 1 3 s (hp.mem_iff.1 hs2)
 have hat:=readAllR_at D 1 (sortG (headsR D 1 3)) 0 []
 have hrk:=readAllR_ok D 1 (sortG (headsR D 1 3)) 0 [] (fun s hs2 => by have:=hh s hs2;omega) (by omega)
 have hl : (sortG (headsR D 1 3)).length ≤ 3:=by rw [hp.length_eq];exact headsR_len D 1 3
 refine ⟨fun s hs2 => ⟨?_,(hrk.2.2 s hs2).1⟩,?_⟩
 ·have : s.at_ ∈ (rdOf D).1.map Sg.at_:=List.mem_map_of_mem hs2
  unfold rdOf at this
  rw [hat.1] at this
  obtain ⟨x,hx,e⟩:=List.mem_map.1 this
  rw [← e];exact (hh x hx).1
 ·have:=congrArg List.length hat.1
  simp only [List.length_map] at this
  unfold rdOf
  omega
theorem rd_map (D : Dk) : (readAllF D (sortG (headsF D 1 3)) 0 []).1 = (rdOf D).1.map (plc 1) ∧ (readAllF D (sortG (headsF D 1 3)) 0 []).2 = (rdOf D).2:=by
 rw [← headsR_map D 1 3,sortG_map (plc 1) (fun _ => rfl)]
 exact readAllR_map D 1 _ 0 []
structure Mo11 (w w' : World) (base g gs gp : Nat) : Prop where
 low : Below base w w'
 block : ∀ (k : Nat) cs t fr,k ≠ g → k ≠ gs → k ≠ gp → w.heap[k]? = some (.cells cs t fr) → t ≠ 99 → t ≠ 66 → t ≠ 27 → t ≠ 101 → w'.heap[k]? = some (.cells cs t fr)
theorem Pr11.of (w : World) (gp g : Nat) (gl : Nat) (r gy : Nat) (h : Blk w gp #[.pointer (some ⟨g,0,none⟩),.pointer (some ⟨gl,0,none⟩),.pointer (some ⟨r,0,none⟩),.pointer (some ⟨gy,0,none⟩)] 39) : Pr11 w gp g gl r gy:=h
set_option maxRecDepth 100000 in
set_option maxHeartbeats 4000000 in
theorem e_open (w : World) (base gp g gs r q : Nat) (wv sv rv : Value) (SV WV : List Value) (D : Dk) (p1 p3 : Option Addr) (hd : Disk w base g gs wv D) (hr : Rk w base r q sv rv SV WV D) (hq : q < w.heap.size) (hp : Blk w gp #[.pointer (some ⟨g,0,none⟩),.pointer p1,.pointer (some ⟨r,0,none⟩),.pointer p3] 39) (hb : base ≤ gp) (hs : D.sure.length = 52) (hc : Calm D) (hw : D.waits.length ≤ 800000000) :
  Calls Tryz.prog 27 #[.pointer (some ⟨gp,0,none⟩)] w fun e w' => e = .returned (.bool true) ∧ Hid (Ev w' base gp g gs r 60 (opD D) (opV D) (opH D) (rrOf D) D.age (opP D)) ∧ Hid (Mo11 w w' base g gs gp):=by
 have HD : Hid (Disk w base g gs wv D):=hd
 have HR : Hid (Rk w base r q sv rv SV WV D):=hr
 have HQ : Hid (q < w.heap.size):=hq
 have HP : Hid (Blk w gp #[.pointer (some ⟨g,0,none⟩),.pointer p1,.pointer (some ⟨r,0,none⟩),.pointer p3] 39):=hp
 have HBW : Hid (base ≤ w.heap.size):=Nat.le_trans hb (Nat.le_of_lt hp.lt)
 have HS : Hid (D.sure.length = 52 ∧ D.waits.length ≤ 800000000 ∧ base ≤ gp):=⟨hs,hw,hb⟩
 have HC : Hid (Calm D):=hc
 have HM:=rd_map D
 have HTD:=tidyC_is (b:=1) (m:=3) (rr:=rrOf D) (RU:=(rdOf D).1) hc (by omega) (by omega) (by omega) rd_ok.1 (by have:=(rd_ok (D:=D)).2;omega) (by omega)
 have HOC:=evl_OpenG w base g gs wv D 1 3 (rrOf D) hd hc.1 (by omega) (by omega) (by omega) (by omega) (rr_is D).1 (opD D) ((opV D).map (plc 1)) (by rw [HM.1];exact HTD)
 rw [HM.2] at HOC
 have HOC' : Calls Tryz.prog 37 #[.pointer (some ⟨g,0,none⟩),.int .i64 1,.int .i64 3] w fun e w' => Hid (∃ gl gc wv' uv' rv' L',e = .returned (.tuple #[.pointer (some ⟨gl,0,none⟩),.int .i64 0]) ∧ w.heap.size ≤ gl ∧ L'.map plR = opP D ∧ LgG w' w.heap.size base g gs wv' (opD D) gl gc 1 3 D.age ((opV D).map (plc 1)) uv' (opH D) (rrOf D) L' rv') ∧ Mv w w' base g gs:=HOC
 have HOR : ∀ (w2 : World),Rk w2 base r q sv rv SV WV D → q < w2.heap.size → Calls Tryz.prog 57 #[.pointer (some ⟨r,0,none⟩),.int .i64 1,.int .i64 3] w2 fun e w' => Hid (OpenToldR w2 w' base r q sv (opD D) 1 3 D.age (opV D) (opH D) (rrOf D) (opP D) e) ∧ Hid (Mr w2 w' base):=fun w2 h1 h2 => ref_OpenG w2 base r q sv rv SV WV D 1 3 (rrOf D) h1 h2 HC.out (by omega) (by omega) (by omega) (by have:=HS.out.1;omega) HS.out.2.1 (rr_is D).1
 have HOK : Hid (Okp 60 (opD D) (opV D) (opH D) (rrOf D) (opP D)):=(op_ok hs hc).1
 have c0 : w.cell? ⟨gp,0,none⟩ = some (.pointer (some ⟨g,0,none⟩)):=hp.cell 0 rfl
 clear hd hr hq hp hb hs hc hw HM HTD HOC
 go_enter Tryz.func27,Tryz.ntmps27
 go_wp2_with fail
 refine HOC'.mono ?_
 rintro e w2 ⟨ht,hm2⟩
 obtain ⟨gl,gc,wv2,uv2,rv2,L2,rfl,hgl,hL2,hg2⟩:=ht.out
 have HG2 : Hid (LgG w2 w.heap.size base g gs wv2 (opD D) gl gc 1 3 D.age ((opV D).map (plc 1)) uv2 (opH D) (rrOf D) L2 rv2):=hg2
 have HL2 : Hid (L2.map plR = opP D ∧ w.heap.size ≤ gl):=⟨hL2,hgl⟩
 have HM2 : Hid (Mv w w2 base g gs):=hm2
 have HP2 : Hid (Blk w2 gp #[.pointer (some ⟨g,0,none⟩),.pointer p1,.pointer (some ⟨r,0,none⟩),.pointer p3] 39):=HM2.out.keep HP.out (blk_ne HP.out HD.out.blk (by decide)) (blk_ne HP.out HD.out.srow (by decide)) (by decide)
 have HR2 : Hid (Rk w2 base r q sv rv SV WV D):=HR.out.move (Keep.of_mv HD.out HM2.out q)
 have HQ2 : Hid (q < w2.heap.size):=Nat.lt_of_lt_of_le HQ.out HM2.out.low.size
 have d2 : w2.cell? ⟨gp,2,none⟩ = some (.pointer (some ⟨r,0,none⟩)):=HP2.out.cell 2 rfl
 clear ht hm2 hgl hL2 hg2 HOC' c0
 go_wp2_with fail
 clear d2
 refine (HOR w2 HR2.out HQ2.out).mono ?_
 rintro e w3 ⟨ht,hm3⟩
 obtain ⟨gy,wv3,SV3,WV3,uv3,rv3,L3,rfl,hgy,hg3,hL3,hn1,hn2⟩:=ht.out
 have HG3 : Hid (LrG w3 base r q sv wv3 SV3 WV3 (opD D) gy 1 3 D.age (opV D) uv3 (opH D) (rrOf D) L3 rv3):=hg3
 have HL3 : Hid (L3.map plR = opP D ∧ NewOwn w2 rv3):=⟨hL3,hn2⟩
 have HM3 : Hid (Mr w2 w3 base):=hm3
 have HP3 : Hid (Blk w3 gp #[.pointer (some ⟨g,0,none⟩),.pointer p1,.pointer (some ⟨r,0,none⟩),.pointer p3] 39):=HM3.out.keep HP2.out (by decide) (by decide) (by decide)
 have HC3 : Hid (LgG w3 base base g gs wv2 (opD D) gl gc 1 3 D.age ((opV D).map (plc 1)) uv2 (opH D) (rrOf D) L2 rv2):=(HG2.out.mr HM3.out).low HBW.out
 have HQ3 : Hid (q < w3.heap.size):=Nat.lt_of_lt_of_le HQ2.out HM3.out.low.size
 have HOFF : Hid (∀ k,rv2.ownBlock = some k → rv3.ownBlock ≠ some k):=fun k h1 h2 => by
  have e1:=(HG2.out.recs.row.lt k h1).2
  have e2:=HL3.out.2 k h2
  omega
 clear ht hm3 hg3 hL3 hn1 hn2 hgy HOR
 obtain ⟨W4,HW4⟩ : ∃ W4,Hid (W4 = (w3.setCell ⟨gp,1,none⟩ (.pointer (some ⟨gl,0,none⟩))).setCell ⟨gp,3,none⟩ (.pointer (some ⟨gy,0,none⟩))):=⟨_,rfl⟩
 have HF4 : Hid (Frm (fun k => k = gp) w3 W4):=by (show Frm _ _ _);rw [HW4.out];exact ((Frm.refl (fun k => k = gp) w3).set rfl _ _).set rfl _ _
 have HOT : Hid (Other (fun k => k = gp) w3):=fun k cs t fr e hk => by subst e;exact .inl (blkTy HP3.out hk)
 have HNU : ∀ (k : Nat) cs fr,w3.heap[k]? = some (.cells cs 5 fr) → W4.heap[k]? = some (.cells cs 5 fr):=fun k cs fr hk => by
  rw [HF4.out.block k (heap_lt hk) (fun e => by subst e;exact absurd (blkTy HP3.out hk) (by decide))]
  exact hk
 have HE4 : Hid (Evp W4 base gp g gs gl gc r gy q D.age wv2 sv wv3 SV3 WV3 (opD D) (opV D) uv2 uv3 (opH D) (rrOf D) L2 L3 rv2 rv3):=by
  refine ⟨HC3.out.frm HF4.out HOT.out (fun x hx => (HC3.out.recs.bd x hx).stays HNU),HG3.out.frm HF4.out HOT.out (fun k cs fr e hk => ?_) (fun x hx => (HG3.out.recs.bd x hx).stays HNU),Nat.lt_of_lt_of_le HQ3.out HF4.out.size,?_,HS.out.2.2,by rw [HL2.out.1,HL3.out.1],HOFF.out⟩
  ·subst e;exact absurd (blkTy HP3.out hk) (by decide)
  ·unfold Pr11
   rw [HW4.out]
   exact (HP3.out.set 1 _).set 3 _
 have HMO : Hid (Mo11 w W4 base g gs gp):=by
  refine ⟨(HM2.out.low.trans HM3.out.low).trans (HF4.out.below (Nat.le_trans (Nat.le_trans HBW.out HM2.out.low.size) HM3.out.low.size) (fun k e => by subst e;exact HS.out.2.2)),fun k cs t fr h1 h2 h3 h4 h5 h6 h7 h8 => ?_⟩
  have e1:=HM2.out.block k cs t fr h1 h2 h4 h5
  have e2:=HM3.out.block k cs t fr e1 h6 h7 h8
  rw [HF4.out.block k (heap_lt e2) h3]
  exact e2
 have f1 : w3.frozen? ⟨gp,1,none⟩ = false:=HP3.out.free 1
 have f3 : (w3.setCell ⟨gp,1,none⟩ (.pointer (some ⟨gl,0,none⟩))).frozen? ⟨gp,3,none⟩ = false:=(HP3.out.set 1 _).free 3
 have d1 : w3.cell? ⟨gp,1,none⟩ = some (.pointer p1):=HP3.out.cell 1 rfl
 have d3 : (w3.setCell ⟨gp,1,none⟩ (.pointer (some ⟨gl,0,none⟩))).cell? ⟨gp,3,none⟩ = some (.pointer p3):=(HP3.out.set 1 _).cell 3 rfl
 clear HNU
 go_wp2
 rw [← HW4.out]
 go_ret
 exact ⟨by simp,⟨gl,gc,gy,q,wv2,sv,wv3,SV3,WV3,uv2,uv3,L2,L3,rv2,rv3,HE4.out,HL2.out.1,HOK.out⟩,HMO⟩
end Go.Proofs.YtghajmcohdedlaaGreat

namespace Go.Proofs.YtghajmcohdedlaaGreat
open Go.RowKit
structure Se where
 D : Dk
 V : List Sg
 hi : Nat
 rel : Nat
 ag : Nat
 P : List (Nat × List Nat)
def Evs (w : World) (base gp g gs r N : Nat) (s : Se) : Prop:=Ev w base gp g gs r N s.D s.V s.hi s.rel s.ag s.P
def appE (s : Se) (t : Int) (bs : List Nat) : Int × Se:=((appendRF 1 3 s.ag s.D s.V s.hi t bs).1,⟨(appendRF 1 3 s.ag s.D s.V s.hi t bs).2.1,(appendRF 1 3 s.ag s.D s.V s.hi t bs).2.2.1,(appendRF 1 3 s.ag s.D s.V s.hi t bs).2.2.2.1,s.rel,s.ag,if (appendRF 1 3 s.ag s.D s.V s.hi t bs).2.2.2.2 = true then s.P ++ [(t.toNat,bs)] else s.P⟩)
def synE (s : Se) : Int × Se:=((syncF s.D s.ag).1,⟨(syncF s.D s.ag).2,s.V,s.hi,s.rel,s.ag,s.P⟩)
def chpE (s : Se) (t : Int) : Int × Se:=((chopRF 1 s.D s.ag s.V s.hi s.rel t).1,⟨(chopRF 1 s.D s.ag s.V s.hi s.rel t).2.1,(chopRF 1 s.D s.ag s.V s.hi s.rel t).2.2.1,s.hi,(chopRF 1 s.D s.ag s.V s.hi s.rel t).2.2.2,s.ag,keepP (chopRF 1 s.D s.ag s.V s.hi s.rel t).2.2.2 s.P⟩)
def Oke (N : Nat) (s : Se) : Prop:=Okp N s.D s.V s.hi s.rel s.P
def CodeDid (w : World) (base g gs gl gc ag : Nat) (uc vc : Value) (L : List Rc) (R : Int × Se) (e : Ending) (w2 : World) : Prop :=
 e = .returned (.int .i64 R.1) ∧ Hid (∃ wv2 uc2 L' vc2,LgG w2 base base g gs wv2 R.2.D gl gc 1 3 ag (R.2.V.map (plc 1)) uc2 R.2.hi R.2.rel L' vc2 ∧ L'.map plR = R.2.P ∧ Oon w vc vc2 ∧ ∀ x ∈ L',x ∈ L ∨ Bd w2 w.heap.size x.a x.n x.bs) ∧ Hid (Mvx (Sc gl uc vc) w w2 base g gs)
def RefDid (w : World) (base r q gy ag : Nat) (ur vr : Value) (L : List Rc) (R : Int × Se) (e : Ending) (w3 : World) : Prop :=
 e = .returned (.int .i64 R.1) ∧ Hid (∃ sv3 rv3 SV3 WV3 ur3 L' vr3,LrG w3 base r q sv3 rv3 SV3 WV3 R.2.D gy 1 3 ag R.2.V ur3 R.2.hi R.2.rel L' vr3 ∧ L'.map plR = R.2.P ∧ Oon w vr vr3 ∧ ∀ x ∈ L',x ∈ L ∨ Bd w3 w.heap.size x.a x.n x.bs) ∧ Hid (Mrx (Sc gy ur vr) w w3 base)
theorem chop_code {w : World} {base g gs gl gc ag N : Nat} {wv : Value} {D : Dk} {V : List Sg} {uc : Value} {hi rel : Nat} {L : List Rc} {vc : Value} {P : List (Nat × List Nat)} (h : LgG w base base g gs wv D gl gc 1 3 ag (V.map (plc 1)) uc hi rel L vc) (hP : L.map plR = P) (hO : Okp N D V hi rel P) (hN : N ≤ 10000) (hw : D.waits.length ≤ 800000000) (t : Int) :
  Calls Tryz.prog 17 #[.pointer (some ⟨gl,0,none⟩),.int .i64 t] w fun e w2 => CodeDid w base g gs gl gc ag uc vc L (chpE ⟨D,V,hi,rel,ag,P⟩ t) e w2:=by
 subst hP
 have hl:=hO.pl
 rw [List.length_map] at hl
 refine (evl_ChopG w base base g gs wv D gl gc 1 3 ag (V.map (plc 1)) uc hi rel L vc t h (Nat.le_refl _) (by omega) (by rw [List.length_map];have:=hO.len;omega) hw (fun x hx => (hO.ps (plR x) (List.mem_map_of_mem hx)).1) (by omega)).mono ?_
 rw [chopR_is]
 rintro e w2 ⟨h1,h2,h3⟩
 obtain ⟨wv2,uc2,vc2,h4,h5⟩:=h2.out
 refine ⟨h1,⟨wv2,uc2,keepR (chopRF 1 D ag V hi rel t).2.2.2 L,vc2,h4,keepR_map _ _,fun k hk => .inl (by rw [← h5];exact hk),fun x hx => .inl (List.mem_filter.1 hx).1⟩,?_⟩
 exact h3.out.mono fun k _ hk => hk.elim .inl (fun e => .inr (.inr e))
theorem chop_ref {w : World} {base r q gy ag N : Nat} {sv rv : Value} {SV WV : List Value} {D : Dk} {V : List Sg} {ur : Value} {hi rel : Nat} {L : List Rc} {vr : Value} {P : List (Nat × List Nat)} (h : LrG w base r q sv rv SV WV D gy 1 3 ag V ur hi rel L vr) (hq : q < w.heap.size) (hP : L.map plR = P) (hO : Okp N D V hi rel P) (hN : N ≤ 10000) (hw : D.waits.length ≤ 800000000) (t : Int) :
  Calls Tryz.prog 32 #[.pointer (some ⟨gy,0,none⟩),.int .i64 t] w fun e w3 => RefDid w base r q gy ag ur vr L (chpE ⟨D,V,hi,rel,ag,P⟩ t) e w3:=by
 subst hP
 have hl:=hO.pl
 have hs:=hO.sl
 rw [List.length_map] at hl
 refine (ref_ChopG w base r q sv rv SV WV D gy 1 3 ag V ur hi rel L vr t h hq (by omega) (by have:=hO.len;omega) (fun s hs2 => by have:=(hO.vs s hs2).1;omega) hw (by omega) (fun x hx => (hO.ps (plR x) (List.mem_map_of_mem hx)).1) (by omega)).mono ?_
 rintro e w3 ⟨h1,h2,h3⟩
 obtain ⟨rv3,SV3,WV3,ur3,vr3,h4,h5,h6⟩:=h2.out
 exact ⟨h1,⟨sv,rv3,SV3,WV3,ur3,keepR (chopRF 1 D ag V hi rel t).2.2.2 L,vr3,h4,keepR_map _ _,h6,fun x hx => .inl (List.mem_filter.1 hx).1⟩,h3.out.mono fun k _ hk => .inl hk⟩
theorem sync_code {w : World} {base g gs gl gc ag : Nat} {wv : Value} {D : Dk} {V : List Sg} {uc : Value} {hi rel : Nat} {L : List Rc} {vc : Value} {P : List (Nat × List Nat)} (h : LgG w base base g gs wv D gl gc 1 3 ag (V.map (plc 1)) uc hi rel L vc) (hP : L.map plR = P) :
  Calls Tryz.prog 30 #[.pointer (some ⟨gl,0,none⟩)] w fun e w2 => CodeDid w base g gs gl gc ag uc vc L (synE ⟨D,V,hi,rel,ag,P⟩) e w2:=by
 subst hP
 refine (evl_SyncG w base base g gs wv D gl gc 1 3 ag (V.map (plc 1)) uc hi rel L vc h).mono ?_
 rintro e w2 ⟨h1,h2,h3⟩
 obtain ⟨wv2,h4⟩:=h2.out
 exact ⟨h1,⟨wv2,uc,L,vc,h4,rfl,Oon.refl _ _,fun x hx => .inl hx⟩,Mvx.of_mv h3.out⟩
theorem sync_ref {w : World} {base r q gy ag : Nat} {sv rv : Value} {SV WV : List Value} {D : Dk} {V : List Sg} {ur : Value} {hi rel : Nat} {L : List Rc} {vr : Value} {P : List (Nat × List Nat)} (h : LrG w base r q sv rv SV WV D gy 1 3 ag V ur hi rel L vr) (hq : q < w.heap.size) (hP : L.map plR = P) :
  Calls Tryz.prog 31 #[.pointer (some ⟨gy,0,none⟩)] w fun e w3 => RefDid w base r q gy ag ur vr L (synE ⟨D,V,hi,rel,ag,P⟩) e w3:=by
 subst hP
 refine (ref_Sync11 w base r q sv rv SV WV D gy 1 3 ag (hi : Int) (rel : Int) ur vr h.disk hq h.log h.sz).mono ?_
 rw [rsync_is]
 rintro e w3 ⟨h1,h2,h3⟩
 obtain ⟨rv3,SV3,WV3,h4,h5⟩:=h2.out
 exact ⟨h1,⟨sv,rv3,SV3,WV3,ur,L,vr,h.mr h3.out h4,rfl,Oon.refl _ _,fun x hx => .inl hx⟩,Mrx.of_mr h3.out⟩
theorem app_code {w : World} {base g gs gl gc ag N : Nat} {wv : Value} {D : Dk} {V : List Sg} {uc : Value} {hi rel : Nat} {L : List Rc} {vc : Value} {P : List (Nat × List Nat)} (h : LgG w base base g gs wv D gl gc 1 3 ag (V.map (plc 1)) uc hi rel L vc) (hP : L.map plR = P) (hO : Okp N D V hi rel P) (hN : N ≤ 10000) (hw : D.waits.length ≤ 800000000) (t : Int) (ab : Option Addr) (nb cb : Nat) (bs : List Nat) (B0 : Nat) (hbs : bs.length = nb) (hbd : nb ≤ 400 → Bd w B0 ab nb bs ∨ ∀ w',Below base w w' → Rd w' ab nb bs) (hnn : ab = none → cb = 0) :
  Calls Tryz.prog 20 #[.pointer (some ⟨gl,0,none⟩),.int .i64 t,.slice ab nb cb] w fun e w2 => CodeDid w base g gs gl gc ag uc vc L (appE ⟨D,V,hi,rel,ag,P⟩ t bs) e w2:=by
 subst hP
 have hl:=hO.pl
 rw [List.length_map] at hl
 refine (evl_AppendG w base base g gs wv D gl gc 1 3 ag (V.map (plc 1)) uc hi rel L vc t ab nb cb bs B0 h (Nat.le_refl _) (by omega) (by omega) (by rw [List.length_map];have:=hO.len;omega) (fun s hs => by
  obtain ⟨x,hx,rfl⟩:=List.mem_map.1 hs
  have:=hO.vs x hx
  exact ⟨this.2.2.1,this.2.1,by show 1 + 2 + 16 * x.at_ + 0 ≤ _;omega⟩) hO.hh hw hbs hbd hnn (by omega)).mono ?_
 rw [appendR_is 1 3 ag D V hi t bs hO.apt (fun s hs => (hO.vs s hs).1)]
 rintro e w2 ⟨h1,h2,h3⟩
 obtain ⟨wv2,uc2,vc2,L',h4,h5,h6,h7,h8⟩:=h2.out
 exact ⟨h1,⟨wv2,uc2,L',vc2,h4,h5,h7,h8⟩,h3.out⟩
theorem app_ref {w : World} {base r q gy ag N : Nat} {sv rv : Value} {SV WV : List Value} {D : Dk} {V : List Sg} {ur : Value} {hi rel : Nat} {L : List Rc} {vr : Value} {P : List (Nat × List Nat)} (h : LrG w base r q sv rv SV WV D gy 1 3 ag V ur hi rel L vr) (hq : q < w.heap.size) (hP : L.map plR = P) (hO : Okp N D V hi rel P) (hN : N ≤ 10000) (hw : D.waits.length ≤ 800000000) (t : Int) (ab : Option Addr) (nb cb : Nat) (bs : List Nat) (hbs : bs.length = nb) (hbd : ∀ w',Below base w w' → Rd w' ab nb bs) (hnn : ab = none → cb = 0) :
  Calls Tryz.prog 29 #[.pointer (some ⟨gy,0,none⟩),.int .i64 t,.slice ab nb cb] w fun e w3 => RefDid w base r q gy ag ur vr L (appE ⟨D,V,hi,rel,ag,P⟩ t bs) e w3:=by
 subst hP
 have hl:=hO.pl
 have hs:=hO.sl
 rw [List.length_map] at hl
 refine (ref_AppendG w base r q sv rv SV WV D gy 1 3 ag V ur hi rel L vr t ab nb cb bs h hq (by omega) (by omega) (by have:=hO.len;omega) (fun s hs2 => by have:=hO.vs s hs2;exact ⟨this.2.2.1,this.2.1,this.1⟩) hO.hh hw (by omega) hbs hbd hnn (by omega)).mono ?_
 rintro e w3 ⟨h1,h2,h3⟩
 obtain ⟨rv3,SV3,WV3,ur3,vr3,L',h4,h5,h6,h7,h8⟩:=h2.out
 exact ⟨h1,⟨sv,rv3,SV3,WV3,ur3,L',vr3,h4,h5,h7,h8⟩,h3.out⟩
theorem Evp.did {w w2 w3 : World} {base gp g gs gl gc r gy q ag N : Nat} {wv sv rv : Value} {SV WV : List Value} {D : Dk} {V : List Sg} {uc ur : Value} {hi rel : Nat} {L L2 : List Rc} {vc vr : Value} (h : Evp w base gp g gs gl gc r gy q ag wv sv rv SV WV D V uc ur hi rel L L2 vc vr) {R : Int × Se} {e e' : Ending} (hc : CodeDid w base g gs gl gc ag uc vc L R e w2) (hr : RefDid w2 base r q gy ag ur vr L2 R e' w3) (hg : R.2.ag = ag) (hO : Oke N R.2) : Evs w3 base gp g gs r N R.2:=by
 obtain ⟨wv2,uc2,L',vc2,c1,c2,c3,_⟩:=hc.2.1.out
 obtain ⟨sv3,rv3,SV3,WV3,ur3,L4,vr3,d1,d2,d3,_⟩:=hr.2.1.out
 have hb:=h.both hc.2.2.out c1 c3 hr.2.2.out d1 d3 (by rw [c2,d2])
 unfold Evs Ev
 rw [hg]
 exact ⟨gl,gc,gy,q,wv2,sv3,rv3,SV3,WV3,uc2,ur3,L',L4,vc2,vr3,hb,c2,hO⟩
end Go.Proofs.YtghajmcohdedlaaGreat
